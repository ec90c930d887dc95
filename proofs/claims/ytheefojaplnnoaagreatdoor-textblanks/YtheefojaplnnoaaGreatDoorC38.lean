/-
  Texts Mb Rk Kh Laid EnvM Ga Gb.
-/
import Derived.ChangeArms
import Derived.FnData
import Derived.HandedShaped
import Derived.Lib.LaidTab
import Derived.Lib.ParseIntBTie
import Derived.OpenShut
import Derived.Stop.Joined
import Derived.Stop.LaidErr
import Derived.Test.YtheefojaplnnoaaGreatDoorC00
import Derived.Test.YtheefojaplnnoaaGreatDoorCards
import Derived.Test.YtheefojaplnnoaaGreatDoorC01
import Derived.Test.YtheefojaplnnoaaGreatDoorC03
import Derived.Test.YtheefojaplnnoaaGreatDoorC10
import Derived.Test.YtheefojaplnnoaaGreatDoorC17
import Derived.Test.YtheefojaplnnoaaGreatDoorC18
import Derived.Test.YtheefojaplnnoaaGreatDoorC31
import Derived.Test.YtheefojaplnnoaaGreatDoorC34
import Derived.Test.YtheefojaplnnoaaGreatDoorC35
import Derived.Test.YtheefojaplnnoaaGreatDoorC37
set_option linter.unusedVariables false
set_option maxRecDepth 100000
set_option maxHeartbeats 16000000
namespace Go.Proofs.YtheefojaplnnoaaGreatDoor
open Go.ChangeShapes Go.WideShapes Go.ChangeAt Go.RowKit
structure Raw (W : World) (m : MM) : Prop where
 t : dV W 2 Hu m.ta m.tn m.tc m.types
 tg : ∀ (j : Nat) x,m.types[j]? = some x → JC W x
 h : dV W 1 (fun (z : Int) => [Value.int .i64 z]) m.ha m.hn m.hc m.hosts
 hg : ∀ (j : Nat) a,m.hosts[j]? = some a → -9223372036854775808 ≤ a ∧ a < 9223372036854775808
 g : dV W 3 FGl m.ga m.gn m.gc m.globals
 gg : ∀ (j : Nat) x,m.globals[j]? = some x → GGl W x
 i : -9223372036854775808 ≤ m.fi ∧ m.fi < 9223372036854775808
 o : -9223372036854775808 ≤ m.mo ∧ m.mo < 9223372036854775808
 f : dV W 3 FFu m.fa m.fn m.fc m.fns
 fg : ∀ (j : Nat) x,m.fns[j]? = some x → GFu W x
 d : dV W 2 FDa m.da m.dn m.dc m.data
 dg : ∀ (j : Nat) x,m.data[j]? = some x → GDa W x
 e : dV W 2 FEx m.ea m.en m.ec m.exps
 eg : ∀ (j : Nat) x,m.exps[j]? = some x → GEx W x
 top : ∀ a ∈ [m.ta,m.ha,m.ga,m.fa,m.da,m.ea],∀ b off s,a = some ⟨b,off,s⟩ → b < W.heap.size
def Small (m : MM) : Prop:=mP m.types + eG m.fns + iJ m.data + jG m.exps ≤ 131072
theorem DK {l : List Nat} {x : Nat} (h : x ∈ l) : x ≤ l.sum:=by
 induction l with
 | nil => cases h
 | cons a l ih =>
  rcases List.mem_cons.1 h with rfl | h
  ·simp
  ·have:=ih h; simp; omega
theorem mZ {α : Type} {f : α → Nat} {l : List α} {x : α} (h : x ∈ l) : f x ≤ (l.map f).sum:=DK (List.mem_map.2 ⟨x,h,rfl⟩)
theorem pM : ∀ (xs : List InM) (z : Nat),szG xs z ≤ 131072 → z ≤ 131072 ∧ ∀ x ∈ xs,x.2.2.1.2.1 ≤ 131072
 | [],z,h => ⟨h,fun x hx => ju⟩
 | y :: r,z,h => by
  by_cases hz : z ≤ 2147483647
  ·rw [sj hz] at h;obtain ⟨h1,h2⟩:=pM r _ h
   refine ⟨ae,fun x hx => ?_⟩
   rcases List.mem_cons.1 hx with rfl | hx
   ·omega
   ·exact h2 x hx
  ·rw [sY hz] at h;omega
section
variable {W : World} {m : MM}
theorem dV.sig {a : Option Addr} {n cap : Nat} {xs : List Sg} (h : dV W 2 Hu a n cap xs) : gJ W a n xs :=
 ⟨h.len,h.at_.imp id fun ⟨b,off,e,hc⟩ => ⟨b,off,e,fun j x hj => ⟨hc j x hj 0 _ rfl,hc j x hj 1 _ rfl⟩⟩⟩
theorem dV.nu {a : Option Addr} {n cap : Nat} {xs : List Int} (h : dV W 1 (fun (z : Int) => [Value.int .i64 z]) a n cap xs) : jY W a n xs :=
 ⟨h.len,h.at_.imp id fun ⟨b,off,e,hc⟩ => ⟨b,off,e,fun j x hj => by have:=hc j x hj 0 _ rfl; rwa [Nat.mul_one] at this⟩⟩
theorem dV.gl {a : Option Addr} {n cap : Nat} {xs : List Gl} (h : dV W 3 FGl a n cap xs) : nS W a n xs :=
 ⟨h.len,h.at_.imp id fun ⟨b,off,e,hc⟩ => ⟨b,off,e,fun j x hj => ⟨hc j x hj 0 _ rfl,hc j x hj 1 _ rfl,hc j x hj 2 _ rfl⟩⟩⟩
theorem dV.fu {a : Option Addr} {n cap : Nat} {xs : List FuM} (h : dV W 3 FFu a n cap xs) : kK W a n xs :=
 ⟨h.len,h.at_.imp id fun ⟨b,off,e,hc⟩ => ⟨b,off,e,fun j x hj => ⟨hc j x hj 0 _ rfl,hc j x hj 1 _ rfl,hc j x hj 2 _ rfl⟩⟩⟩
theorem dV.in_ {a : Option Addr} {n cap : Nat} {xs : List InM} (h : dV W 3 FIn a n cap xs) : gV W a n xs :=
 ⟨h.len,h.at_.imp id fun ⟨b,off,e,hc⟩ => ⟨b,off,e,fun j x hj => ⟨hc j x hj 0 _ rfl,hc j x hj 1 _ rfl,hc j x hj 2 _ rfl⟩⟩⟩
theorem dV.da {a : Option Addr} {n cap : Nat} {xs : List DaM} (h : dV W 2 FDa a n cap xs) : lI W a n xs :=
 ⟨h.len,h.at_.imp id fun ⟨b,off,e,hc⟩ => ⟨b,off,e,fun j x hj => ⟨hc j x hj 0 _ rfl,hc j x hj 1 _ rfl⟩⟩⟩
theorem dV.ex {a : Option Addr} {n cap : Nat} {xs : List Ex} (h : dV W 2 FEx a n cap xs) : lm W a n xs :=
 ⟨h.len,h.at_.imp id fun ⟨b,off,e,hc⟩ => ⟨b,off,e,fun j x hj => ⟨hc j x hj 0 _ rfl,hc j x hj 1 _ rfl⟩⟩⟩
theorem dV.segI {a : Option Addr} {n cap : Nat} {xs : List Int} (h : dV W 1 (fun (z : Int) => [Value.int .i64 z]) a n cap xs) (hr : ∀ (j : Nat) a,xs[j]? = some a → -9223372036854775808 ≤ a ∧ a < 9223372036854775808) (hn : n ≤ 131072) : iI W a n cap xs:=by
 refine ⟨h.len,h.cap_,ae,fun z hz => ?_,h.at_.imp id fun ⟨b,off,e,hc⟩ => ⟨b,off,e,fun j hj => ?_⟩⟩
 ·obtain ⟨j,hj⟩:=List.getElem?_of_mem hz
  have:=hr j z hj
  omega
 ·exact FX
theorem dV.segB {a : Option Addr} {n cap : Nat} {xs : List Int} (h : dV W 1 (fun (z : Int) => [Value.int .u8 z]) a n cap xs) (hr : ∀ (j : Nat) a,xs[j]? = some a → 0 ≤ a ∧ a ≤ 255) (hn : n ≤ 131072) : Seg W a n cap xs:=by
 refine ⟨h.len,h.cap_,ae,fun z hz => ?_,h.at_.imp id fun ⟨b,off,e,hc⟩ => ⟨b,off,e,fun j hj => ?_⟩⟩
 ·obtain ⟨j,hj⟩:=List.getElem?_of_mem hz;exact hr j z hj
 ·exact FX
theorem Small.parts (h : Small m) : (∀ (j : Nat) x,m.types[j]? = some x → x.1.size + x.2.size ≤ 131072) ∧ (∀ (j : Nat) x,m.fns[j]? = some x → x.2.1.size ≤ 131072 ∧ ∀ (i : Nat) y,x.2.2.2[i]? = some y → y.2.2.1.2.1 ≤ 131072) ∧ (∀ (j : Nat) x,m.data[j]? = some x → x.2.1.2.1 ≤ 131072) ∧ ∀ (j : Nat) x,m.exps[j]? = some x → x.1.size ≤ 131072:=by
 unfold Small at h
 refine ⟨fun j x hj => ?_,fun j x hj => ?_,fun j x hj => ?_,fun j x hj => ?_⟩
 ·have : x.1.size + x.2.size ≤ mP m.types:=mZ (f:=fun x : Sg => x.1.size + x.2.size) (List.mem_of_getElem? hj)
  omega
 ·have : x.2.1.size + szG x.2.2.2 x.2.2.1.2.1 ≤ eG m.fns:=mZ (f:=fun x : FuM => x.2.1.size + szG x.2.2.2 x.2.2.1.2.1) (List.mem_of_getElem? hj)
  exact ⟨ae,fun i y hi => (pM x.2.2.2 x.2.2.1.2.1 ae).2 y (List.mem_of_getElem? hi)⟩
 ·have : x.2.1.2.1 ≤ iJ m.data:=mZ (f:=fun x : DaM => x.2.1.2.1) (List.mem_of_getElem? hj)
  omega
 ·have : x.1.size ≤ jG m.exps:=mZ (f:=fun x : Ex => x.1.size) (List.mem_of_getElem? hj)
  omega
theorem Raw.ok (h : Raw W m) (hs : Small m) : ∀ R g,W.heap.size ≤ R → W.heap.size ≤ g → MOk W R g m:=by
 intro R g hR hg;obtain ⟨s1,s2,s3,s4⟩:=hs.parts
 have far : ∀ a ∈ [m.ta,m.ha,m.ga,m.fa,m.da,m.ea],Far W R g a:=fun a ha b off c hb => by have:=h.top a ha b off c hb; omega
 have farN : ∀ {a : Option Addr} {n : Nat},(∀ b off s,nz n a = some ⟨b,off,s⟩ → b < W.heap.size) → Far W R g (nz n a):=fun hl b off c hb => by have:=hl b off c hb; omega
 refine ⟨h.t.sig,far _ ar,h.h.nu,far _ ar,h.hg,h.g.gl,far _ ar,h.gg,h.i.1,h.i.2,h.o.1,h.o.2,h.f.fu,far _ ar,fun j x hj => ?_,h.d.da,far _ ar,fun j x hj => ?_,h.e.ex,far _ ar,fun j x hj => (h.eg j x hj).2⟩
 ·obtain ⟨q1,q2,q3,q4⟩:=h.fg j x hj
  refine ⟨q1,q3.in_,farN q3.lt,fun i y hi => ?_⟩
  obtain ⟨r1,r2,r3,r4,-⟩:=q4 i y hi;exact ⟨r1,r2,r3.segI r4 ((s2 j x hj).2 i y hi),farN r3.lt⟩
 ·obtain ⟨q1,q2,q3⟩:=h.dg j x hj;exact ⟨q1,q2.segB q3 (s3 j x hj),farN q2.lt⟩
theorem Raw.szc (h : Raw W m) : SzC W m :=
 ⟨h.t.big,h.h.big,h.g.big,h.f.big,h.d.big,h.e.big,h.tg,fun j x hj => by
  obtain ⟨q1,q2,q3,q4⟩:=h.fg j x hj
  exact ⟨q2,q3.big,q3.in_,fun i y hi => (q4 i y hi).2.2.1.big⟩,fun j x hj => (h.dg j x hj).2.1.big,fun j x hj => (h.eg j x hj).1⟩
theorem KV (h : Raw W m) (j : Nat) (x : FuM) (hj : m.fns[j]? = some x) (i : Nat) (y : InM) (hi : x.2.2.2[i]? = some y) : -9223372036854775808 ≤ y.2.1 ∧ y.2.1 ≤ 9223372036854775807:=by
 have:=((h.fg j x hj).2.2.2 i y hi).2.2.2.2
 omega
theorem Raw.cap (h : Raw W m) : ∀ x ∈ m.fns,x.2.2.1.2.1 ≤ x.2.2.1.2.2:=fun x hx => by
 obtain ⟨j,hj⟩:=List.getElem?_of_mem hx;exact (h.fg j x hj).2.2.1.cap_
theorem Raw.later {W' : World} (h : Raw W m) (hb : Below W.heap.size W W') : SzC W' m ∧ gJ W' m.ta m.tn m.types ∧ kK W' m.fa m.fn m.fns ∧ lI W' m.da m.dn m.data ∧ lm W' m.ea m.en m.exps:=by
 have hk : aP (fun _ => False) W W':=bA hb
 have z:=h.szc
 exact ⟨⟨z.tn,z.hn,z.gn,z.fn,z.dn,z.en,z.t,fun j x hj => ⟨(z.f j x hj).1,(z.f j x hj).2.1,(z.f j x hj).2.2.1.kept hk (fun _ _ _ _ => id),(z.f j x hj).2.2.2⟩,z.d,z.e⟩,h.t.sig.kept hk (fun _ _ _ _ => id),h.f.fu.kept hk (fun _ _ _ _ => id),h.d.da.kept hk (fun _ _ _ _ => id),h.e.ex.kept hk (fun _ _ _ _ => id)⟩
end
section
variable {H : Type} {enc : TypeId × Value → H} {W : World}
theorem F9 {r : Reach} {base : Nat} {u : TypeId} {a : Addr} {n c : Nat} (h : Cell.okWide Tryz.prog W r base u (.slice (some a) n c)) : a.block < W.heap.size:=by
 unfold Cell.okWide at h
 cases hu : Tryz.prog.underlying u with
 | none => simp [hu,Cell.ok] at h
 | some d =>
  cases d <;> simp [hu,Cell.ok] at h
  obtain ⟨_,_,_,_,row,cells,hsh,_⟩:=h;unfold World.shape? at hsh
  rcases Nat.lt_or_ge a.block W.heap.size with hl | hl
  ·exact hl
  ·rw [Array.getElem?_eq_none hl] at hsh; cases hsh
theorem vp {base : Nat} {v : Value} {d : DataW H} {ps : List MemPlace} (hval : Value.okWide Tryz.prog W .any base 29 v) (h : DataW.Trod enc Tryz.prog W 0 (fun _ => true) true 29 v d ps) (hw : ∀ n ∈ d.weights Tryz.prog 29,n ≤ reachBytes) :
  ∃ m : MM,v = .agg (mV m) ∧ Raw W m:=by
 have hval':=hval;obtain ⟨cs,rfl,hsz⟩:=okWide_struct Tryz.underlying29 hval;obtain ⟨fuel,hf⟩:=h;obtain ⟨ta,tn,tc,ts,ha,hn,hc,hs,ga,gn,gc,gs,fi,mo,fa,fn,fc,fs,da,dn,dc,ds,ea,en,ec,es,hcs,⟨t1,t2⟩,⟨h1,h2⟩,⟨g1,g2⟩,i1,o1,⟨f1,f2⟩,⟨d1,d2⟩,e1,e2⟩:=Ib hf hw;have e : cs.toList = [.slice ta tn tc,.slice ha hn hc,.slice ga gn gc,.int .i64 fi,.int .i64 mo,.slice fa fn fc,.slice da dn dc,.slice ea en ec]:=hcs
 have ec' : cs = #[.slice ta tn tc,.slice ha hn hc,.slice ga gn gc,.int .i64 fi,.int .i64 mo,.slice fa fn fc,.slice da dn dc,.slice ea en ec]:=by
  apply Array.toList_inj.1
  rw [e]
 refine ⟨⟨ta,tn,tc,ts,ha,hn,hc,hs,ga,gn,gc,gs,fi,mo,fa,fn,fc,fs,da,dn,dc,ds,ea,en,ec,es⟩,by rw [ec']; rfl,⟨t1,t2,h1,h2,g1,g2,i1,o1,f1,f2,d1,d2,e1,e2,?_⟩⟩
 obtain ⟨cs',hv,_,⟨tt,htt,_,hall⟩⟩ : ∃ cs',Value.agg cs = .agg cs' ∧ cs'.size = Tryz.prog.cellsOf 29 ∧ Row.okWide Tryz.prog W .any base 29 cs':=by
  have:=hval'
  simp only [Value.okWide,Tryz.underlying29] at this
  exact this
 injection hv with hv
 subst hv
 have look : ∀ (i : Nat) a n c,cs[i]? = some (.slice (some a) n c) → a.block < W.heap.size:=fun i a n c hi => by
  obtain ⟨u,_,hu⟩:=hall i _ hi;exact F9 hu
 rw [ec'] at look;intro a hm b off s hb;subst hb
 simp only [List.mem_cons,List.not_mem_nil,or_false] at hm
 rcases hm with hm | hm | hm | hm | hm | hm
 ·exact look 0 ⟨b,off,s⟩ tn tc nO
 ·exact look 1 ⟨b,off,s⟩ hn hc nO
 ·exact look 2 ⟨b,off,s⟩ gn gc nO
 ·exact look 5 ⟨b,off,s⟩ fn fc nO
 ·exact look 6 ⟨b,off,s⟩ dn dc nO
 ·exact look 7 ⟨b,off,s⟩ en ec nO
end
open Go.RowKit
structure Szs (m : MM) : Prop where
 tn : m.tn ≤ 200000
 hn : m.hn ≤ 200000
 gn : m.gn ≤ 200000
 fn : m.fn ≤ 200000
 dn : m.dn ≤ 200000
 en : m.en ≤ 200000
 t : ∀ (j : Nat) x,m.types[j]? = some x → x.1.size ≤ 200000 ∧ x.2.size ≤ 200000
 f : ∀ (j : Nat) x,m.fns[j]? = some x → x.2.1.size ≤ 200000 ∧ x.2.2.1.2.1 ≤ 200000
 d : ∀ (j : Nat) x,m.data[j]? = some x → x.2.1.2.1 ≤ 200000
 e : ∀ (j : Nat) x,m.exps[j]? = some x → x.1.size ≤ 200000
section
variable {m : MM} {base : Nat} {w : World} {BT BH BG BF BD BE : Nat} {fs : List FuM} {ds : List DaM}
theorem Jn (h : Raw w m) (hs : m.tn + m.hn + m.gn + m.fn + m.dn + m.en + (mP m.types + eG m.fns + iJ m.data + jG m.exps) ≤ 131072) : MSr w m ∧ Szs m:=by
 have hsm : Small m:=by unfold Small; omega
 obtain ⟨s1,s2,s3,s4⟩:=hsm.parts
 have s5 : ∀ (j : Nat) x,m.fns[j]? = some x → x.2.2.1.2.1 ≤ 131072:=fun j x hj => by
  have : x.2.1.size + szG x.2.2.2 x.2.2.1.2.1 ≤ eG m.fns:=mZ (f:=fun x : FuM => x.2.1.size + szG x.2.2.2 x.2.2.1.2.1) (List.mem_of_getElem? hj)
  exact (pM x.2.2.2 x.2.2.1.2.1 ae).1
 refine ⟨⟨h.t.sig,ae,h.h.nu,ae,h.g.gl,ae,h.f.fu,ae,fun x hx => ?_,h.d.da,ae,fun x hx => ?_,h.e.ex,ae⟩,⟨ae,ae,ae,ae,ae,ae,fun j x hj => ?_,fun j x hj => ?_,fun j x hj => ?_,fun j x hj => ?_⟩⟩
 ·obtain ⟨j,hj⟩:=List.getElem?_of_mem hx;obtain ⟨q1,q2,q3,q4⟩:=h.fg j x hj
  refine ⟨q3.in_,by have:=s5 j x hj; omega,fun y hy => ?_⟩
  obtain ⟨i,hi⟩:=List.getElem?_of_mem hy;obtain ⟨r1,r2,r3,r4⟩:=q4 i y hi
  exact ⟨r3.nu,by have:=(s2 j x hj).2 i y hi; omega⟩
 ·obtain ⟨j,hj⟩:=List.getElem?_of_mem hx;obtain ⟨q1,q2,q3⟩:=h.dg j x hj
  refine ⟨⟨q2.len,q2.at_.imp id fun ⟨b,off,e,hc⟩ => ⟨b,off,e,fun j x hj => ?_⟩⟩,by have:=s3 j x hj; omega⟩
  have:=hc j x hj 0 _ rfl
  rwa [Nat.mul_one] at this
 ·have:=s1 j x hj
  omega
 ·have:=s2 j x hj
  have:=s5 j x hj
  omega
 ·have:=s3 j x hj
  omega
 ·have:=s4 j x hj
  omega
end
theorem Tryz.cells287 : Tryz.prog.cellsOf 287 = 4:=ai
theorem Tryz.cells288 : Tryz.prog.cellsOf 288 = 28:=ai
theorem Tryz.cells5 : Tryz.prog.cellsOf 5 = 1:=ai
theorem Tryz.cells9 : Tryz.prog.cellsOf 9 = 1:=ai
theorem Tryz.kindsAt : Tryz.prog.globalNamed "flagon/ops.kinds" = some 0:=ai
theorem Tryz.kindsType : (Tryz.prog.globals[0]?).map (·.type) = some 288:=ai
theorem Oc {α : Type} : ∀ (l : List α),l.length = 4 → ∃ a b c d,l = [a,b,c,d]
 | [a,b,c,d],_ => ⟨a,b,c,d,rfl⟩
theorem PB {α : Type} : ∀ (l : List α),l.length = 7 → ∃ a b c d e f g,l = [a,b,c,d,e,f,g]
 | [a,b,c,d,e,f,g],_ => ⟨a,b,c,d,e,f,g,rfl⟩
theorem eW {H : Type} {enc : TypeId × Value → H} {w : World} {base : Nat} {sp : Nat → Bool} {held : Bool} {fuel : Nat} {cs : List Value} {f l : Int} {a s : List UInt8} {p : List MemPlace}
  (h : DataW.trod enc Tryz.prog w base sp held fuel 287 cs = some (.agg [.lit (.int .u8 f),.lit (.int .u8 l),.lit (.string a),.lit (.string s)],p)) :
  cs = [.int .u8 f,.int .u8 l,.string ⟨a.toArray⟩,.string ⟨s.toArray⟩]:=by
 obtain ⟨xs,n,_,hx,hl,hxl,hel⟩:=DataW.trod_struct Tryz.underlying287 h;rw [Tryz.cells287] at hl;obtain ⟨c0,c1,c2,c3,rfl⟩:=Oc cs hl;obtain ⟨x0,x1,x2,x3,rfl⟩:=Oc xs hxl;have e:=congrArg Prod.fst hx
 simp only [List.map_cons,List.map_nil,DataW.agg.injEq,List.cons.injEq,and_true] at e
 obtain ⟨e0,e1,e2,e3⟩:=e;have h0 : DataW.trod enc Tryz.prog w base sp held n 5 (([c0,c1,c2,c3].drop 0).take (Tryz.prog.cellsOf 5)) = some x0:=hel 0 _ rfl;have h1 : DataW.trod enc Tryz.prog w base sp held n 5 (([c0,c1,c2,c3].drop 1).take (Tryz.prog.cellsOf 5)) = some x1:=hel 1 _ rfl;have h2 : DataW.trod enc Tryz.prog w base sp held n 9 (([c0,c1,c2,c3].drop 2).take (Tryz.prog.cellsOf 9)) = some x2:=hel 2 _ rfl;have h3 : DataW.trod enc Tryz.prog w base sp held n 9 (([c0,c1,c2,c3].drop 3).take (Tryz.prog.cellsOf 9)) = some x3:=hel 3 _ rfl;rw [Tryz.cells5] at h0 h1;rw [Tryz.cells9] at h2 h3;obtain ⟨n0,g0,k0,_⟩:=DataW.trod_int Tryz.underlying5 h0;obtain ⟨n1,g1,k1,_⟩:=DataW.trod_int Tryz.underlying5 h1;obtain ⟨s2,g2,k2,_⟩:=DataW.trod_string Tryz.underlying9 h2;obtain ⟨s3,g3,k3,_⟩:=DataW.trod_string Tryz.underlying9 h3;clear hel h hx h0 h1 h2 h3;rw [k0] at e0;rw [k1] at e1;rw [k2] at e2;rw [k3] at e3
 simp only [DataW.lit.injEq,Lit.int.injEq,true_and,Lit.string.injEq] at e0 e1 e2 e3
 simp only [List.drop_zero,List.drop_succ_cons,List.take_succ_cons,List.take_zero,List.cons.injEq,and_true] at g0 g1 g2 g3
 rw [g0,g1,g2,g3,e0,e1,e2,e3]
theorem MO (l : List Value) (h : l.length = 28) : l = l.take 4 ++ ((l.drop 4).take 4 ++ ((l.drop 8).take 4 ++ ((l.drop 12).take 4 ++ ((l.drop 16).take 4 ++ ((l.drop 20).take 4 ++ (l.drop 24).take 4))))):=by
 have e : ∀ n,l.drop n = (l.drop n).take 4 ++ l.drop (n + 4):=fun n => by
  have:=(List.take_append_drop 4 (l.drop n)).symm
  rwa [List.drop_drop] at this
 have e6 : l.drop 24 = (l.drop 24).take 4:=by rw [List.take_of_length_le aL]
 have e5:=e 20; have e4:=e 16; have e3:=e 12; have e2:=e 8; have e1:=e 4; have e0:=e 0
 simp only [List.drop_zero,Nat.zero_add,Nat.reduceAdd] at e0 e1 e2 e3 e4 e5
 rw [← e6,← e5,← e4,← e3,← e2,← e1,← e0]
theorem qO {W : World} {rest : List (String × DataW Unit)} (h : laidMet Tryz.prog (("flagon/ops.kinds",Rows.laid_flagon_ops_kinds) :: rest) W) : aT W:=by
 obtain ⟨ps,⟨g',t',cs,fuel,p,q,hg',ht',hvar,hd,_,_⟩,_⟩:=h;obtain rfl:=Option.some.inj (Tryz.kindsAt.symm.trans hg');obtain rfl:=Option.some.inj (Tryz.kindsType.symm.trans ht');obtain ⟨xs,n,_,hx,hl,hxl,hel⟩:=DataW.trod_array Tryz.underlying288 hd;rw [Tryz.cells288] at hl;obtain ⟨x0,x1,x2,x3,x4,x5,x6,rfl⟩:=PB xs hxl;have e:=congrArg Prod.fst hx
 simp only [Rows.laid_flagon_ops_kinds,List.map_cons,List.map_nil,DataW.agg.injEq,List.cons.injEq,and_true] at e
 obtain ⟨e0,e1,e2,e3,e4,e5,e6⟩:=e;have h0:=hel 0 aq; have h1:=hel 1 aq; have h2:=hel 2 aq; have h3:=hel 3 aq; have h4:=hel 4 aq; have h5:=hel 5 aq; have h6:=hel 6 aq
 simp only [Tryz.cells287,Nat.reduceMul,List.drop_zero,List.getElem?_cons_zero,List.getElem?_cons_succ] at h0 h1 h2 h3 h4 h5 h6
 obtain ⟨d0,p0⟩:=x0; obtain ⟨d1,p1⟩:=x1; obtain ⟨d2,p2⟩:=x2; obtain ⟨d3,p3⟩:=x3; obtain ⟨d4,p4⟩:=x4; obtain ⟨d5,p5⟩:=x5; obtain ⟨d6,p6⟩:=x6
 simp only at e0 e1 e2 e3 e4 e5 e6
 subst e0 e1 e2 e3 e4 e5 e6
 have hcs : cs.toList = nV:=by
  rw [MO _ hl,eW h0,eW h1,eW h2,eW h3,eW h4,eW h5,eW h6];rfl
 intro j v hj;rw [World.var?_cell Tryz.kindsAt hvar j,← Array.getElem?_toList,hcs];exact hj
theorem L4 : ownKnob Tryz.prog.godebug = none:=ai
theorem laidOut : laidOutB Tryz.prog = true:=ai
abbrev jE : List (String × DataW Unit):=Rows.textPrintsRow.laid
theorem pu (W : World) : laidMetH Tryz.prog jE W = laidMet Tryz.prog jE W:=MakeChecks.laidMetH_plain _ _ _ ai
theorem met (os : Os) (args : Array Value) : laidMetH Tryz.prog jE ((World.laidAll Tryz.prog os jE).forCall (fun _ _ => 0) ⟨#[],args,[]⟩).memory:=by
 rw [pu];exact laidMet_laidAll _ ai ai
theorem kinds_met {W : World} (h : laidMet Tryz.prog jE W) : aT W :=
 qO (laidMet.tail (laidMet.tail (laidMet.tail (laidMet.tail (laidMet.tail (laidMet.tail h))))))
theorem FW {W : World} (h : laidMet Tryz.prog jE W) : ij W.heap.size W :=
 Lib.tabBelow_of_tabIs (Lib.tabIs_of_head (g:=4) (t:=317) (e:=100) (n:=20) ai ai ai ai ai ai (laidMet.tail (laidMet.tail h)))
theorem Tryz.cells338 : Tryz.prog.cellsOf 338 = 1:=ai
theorem Tryz.star : "*" ++ "errors.errorString" = "*errors.errorString":=aq
theorem ET (u : TypeId) (h : Tryz.prog.typeName? 3 u = some "*errors.errorString") : u = 336 :=
 typeName_ptr_named (nm:= "errors.errorString") (by rw [Tryz.star]; kernel_rfl) ai aq u (by rw [Tryz.star]; exact h)
theorem rH {W W' : World} {n : String} {g : Nat} {cs : Array Value} (hg : Tryz.prog.globalNamed n = some g) (h : W.var? Tryz.prog n = some cs) (hb : Below W.heap.size W W') : W'.var? Tryz.prog n = some cs:=by
 unfold World.var? at h ⊢
 simp only [hg,Option.bind_some] at h ⊢
 have hlt : g < W.heap.size:=by
  rcases Nat.lt_or_ge g W.heap.size with h' | h'
  ·exact h'
  ·simp [Array.getElem?_eq_none h'] at h
 rw [hb.block g hlt];exact h
theorem Fa {W : World} (h : laidMet Tryz.prog jE W) : qF W.heap.size W:=by
 have h4:=laidMet.tail (laidMet.tail (laidMet.tail (laidMet.tail h)));obtain ⟨a0,s0,hv0,-,-,-⟩:=laid_sentinel (g:=6) (ti:=222) (tp:=336) (te:=338) (ts:=9) h4 ai ai Tryz.underlying222 ET Tryz.underlying336 Tryz.underlying338 rfl rfl Tryz.underlying9 Tryz.cells338 Tryz.cells9;obtain ⟨a1,s1,hv1,-,-,-⟩:=laid_sentinel (g:=5) (ti:=222) (tp:=336) (te:=338) (ts:=9) (laidMet.tail h4) ai ai Tryz.underlying222 ET Tryz.underlying336 Tryz.underlying338 rfl rfl Tryz.underlying9 Tryz.cells338 Tryz.cells9
 exact ⟨⟨_,_,fun W' hb => rH (g:=5) ai hv1 hb⟩,⟨_,_,fun W' hb => rH (g:=6) ai hv0 hb⟩⟩
theorem Es (w : World) (h : w.ShapedOpen Tryz.prog) : qD w :=
 (fun w h => Go.Proofs.cell_of_shapedOpen_int (zero:=#[.int .i64 0]) (t:=3) h (of_decide_eq_true ai) ai rfl ai ai Tryz.underlying3) w h
theorem Je {W : World} (hL : laidMetH Tryz.prog jE W) (hs : W.ShapedOpen Tryz.prog) : bY W.heap.size W:=by
 rw [pu] at hL;have hm:=Es W hs;refine ⟨FW hL,Fa hL,kinds_met hL,hm,?_,Nat.le_refl _⟩;obtain ⟨m,hc⟩:=hm;exact World.block_lt_of_cell? W ⟨3,0,none⟩ hc
theorem Iw : ∀ (l : List UInt8) (acc : Nat) (r : List UInt8) (u : Nat),Lib.parseUint10 acc l = .ok u → Lib.parseUint10 acc (l ++ r) = Lib.parseUint10 u r
 | [],acc,r,u,h => by
  simp only [Lib.parseUint10] at h
  injection h with h
  subst h;rfl
 | c :: l,acc,r,u,h => by
  simp only [List.cons_append,Lib.parseUint10] at h ⊢
  split at h
  ·rename_i h1
   rw [if_pos h1]
   split at h
   ·cases h
   ·rename_i h2
    rw [if_neg h2]
    split at h
    ·cases h
    ·rename_i h3
     rw [if_neg h3];exact Iw l _ r u h
  ·cases h
theorem oU {d : Nat} (h : d < 10) : (UInt8.ofNat (48 + d)).toNat = 48 + d:=by
 rw [UInt8.toNat_ofNat'];omega
theorem Ag (u : Nat) (hu : u < 18446744073709551616) : Lib.parseUint10 0 (Lib.decDigits u) = .ok u:=by
 induction u using Nat.strongRecOn with
 | ind u ih =>
  rw [Lib.decDigits]
  split
  ·rename_i h
   simp only [Lib.parseUint10,oU h]
   rw [if_pos ae,if_neg ae,if_neg ae]
   congr 1
   omega
  ·rename_i h
   rw [Iw _ _ _ _ (ih (u / 10) ae ae)];have hd : u % 10 < 10:=Nat.mod_lt _ aq
   simp only [Lib.parseUint10,oU hd]
   rw [if_pos ae,if_neg ae,if_neg ae]
   congr 1
   omega
theorem yR (u : Nat) : ∀ c ∈ Lib.decDigits u,48 ≤ c.toNat ∧ c.toNat ≤ 57:=by
 induction u using Nat.strongRecOn with
 | ind u ih =>
  intro c hc;rw [Lib.decDigits] at hc
  split at hc
  ·rename_i h
   obtain rfl:=List.mem_singleton.1 hc
   rw [oU h]; omega
  ·rename_i h
   rcases List.mem_append.1 hc with hc | hc
   ·exact ih (u / 10) ae c hc
   ·obtain rfl:=List.mem_singleton.1 hc;rw [oU (Nat.mod_lt _ aq)];have : u % 10 < 10:=Nat.mod_lt _ aq;omega
theorem Cx (u : Nat) : Lib.decDigits u ≠ []:=by
 rw [Lib.decDigits]
 split <;> simp
theorem GV (n : Int) : ∀ c ∈ Lib.itoa n,45 ≤ c.toNat ∧ c.toNat ≤ 57:=by
 intro c hc;unfold Lib.itoa at hc
 split at hc
 ·rcases List.mem_cons.1 hc with rfl | hc
  ·decide
  ·have:=yR _ c hc; omega
 ·have:=yR _ c hc; omega
theorem KI (n : Int) : Lib.itoa n ≠ []:=by
 unfold Lib.itoa
 split
 ·simp
 ·exact Cx _
theorem CY (n : Int) (h : I64 n) : Lib.atoiAll (Lib.itoa n) = .ok n:=by
 unfold I64 at h;unfold Lib.itoa
 split
 ·rename_i hn
  simp only [Lib.atoiAll]
  rw [if_pos aq]
  have e : Lib.parseMag (Lib.decDigits n.natAbs) = .ok n.natAbs:=by
   unfold Lib.parseMag;rw [if_neg (Cx _)];exact Ag _ ae
  rw [e];dsimp only;rw [if_neg ar,if_neg ae,if_pos aq]
  congr 1
  omega
 ·rename_i hn
  have e : Lib.parseMag (Lib.decDigits n.toNat) = .ok n.toNat:=by
   unfold Lib.parseMag;rw [if_neg (Cx _)];exact Ag _ ae
  rcases hd : Lib.decDigits n.toNat with _ | ⟨c,r⟩
  ·exact absurd hd (Cx _)
  ·have hc:=yR n.toNat c (by rw [hd]; simp)
   simp only [Lib.atoiAll]
   rw [if_neg ae,← hd,e];dsimp only;rw [if_neg ae,if_neg ae,if_neg ae]
   congr 1
   omega
theorem ja (n : Int) (h : I64 n) : nmV (aQ n) = some n:=by
 unfold nmV
 have e : Lib.parseIntB 64 (aQ n).data.toList = .ok n:=by
  rw [Lib.parseIntB_64];exact CY n h
 rw [e]
 simp
theorem wo : ∀ (l : List Int),(∀ z ∈ l,I64 z) → cO (l.map aQ) = some l
 | [],_ => rfl
 | z :: l,h => by
  simp only [List.map_cons,cO]
  rw [ja z (h z ar),wo l (fun y hy => h y jL)]
  rfl
theorem Jc (b : Int) (h0 : 0 ≤ b) (h1 : b ≤ 255) (r : List UInt8) (t : List Int) (hr : eD r = some t) : eD (eX [b] ++ r) = some (b :: t):=by
 obtain ⟨n,rfl⟩ : ∃ n : Nat,b = n:=⟨b.toNat,ae⟩;have hn : n ≤ 255:=ae;have key : ∀ k : Fin 256,(0 ≤ eI (gB.data[((k.val : Int)).toNat / 16]?.getD 0).toNat ∧ 0 ≤ eI (gB.data[((k.val : Int)).toNat % 16]?.getD 0).toNat) ∧ eI (gB.data[((k.val : Int)).toNat / 16]?.getD 0).toNat * 16 + eI (gB.data[((k.val : Int)).toNat % 16]?.getD 0).toNat = k.val:=nr;obtain ⟨k1,k2⟩:=key ⟨n,ae⟩;dsimp only at k1 k2
 simp only [eX,List.flatMap_cons,List.flatMap_nil,List.append_nil,List.cons_append,List.nil_append,eD]
 rw [if_pos k1,hr,k2];rfl
theorem BA : ∀ (l : List Int),(∀ b ∈ l,0 ≤ b ∧ b ≤ 255) → eD (eX l) = some l
 | [],_ => rfl
 | b :: l,h => by
  have e : eX (b :: l) = eX [b] ++ eX l:=by simp [eX]
  rw [e]
  exact Jc b (h b ar).1 (h b ar).2 _ _ (BA l (fun x hx => h x cP))
theorem Jk (l : List Int) (h : ∀ b ∈ l,0 ≤ b ∧ b ≤ 255) : ∀ c ∈ eX l,48 ≤ c.toNat ∧ c.toNat ≤ 102:=by
 intro c hc;unfold eX at hc;obtain ⟨b,hb,hc⟩:=List.mem_flatMap.1 hc;have hr:=h b hb;obtain ⟨n,rfl⟩ : ∃ n : Nat,b = n:=⟨b.toNat,ae⟩;have key : ∀ k : Fin 256,(48 ≤ (gB.data[((k.val : Int)).toNat / 16]?.getD 0).toNat ∧ (gB.data[((k.val : Int)).toNat / 16]?.getD 0).toNat ≤ 102) ∧ (48 ≤ (gB.data[((k.val : Int)).toNat % 16]?.getD 0).toNat ∧ (gB.data[((k.val : Int)).toNat % 16]?.getD 0).toNat ≤ 102):=nr;obtain ⟨k1,k2⟩:=key ⟨n,ae⟩
 simp only [List.mem_cons,List.not_mem_nil,or_false] at hc
 rcases hc with rfl | rfl
 ·exact k1
 ·exact k2
theorem py : ∀ (a r : List UInt8),(∀ c ∈ a,c ≠ 10) → aV (a ++ 10 :: r) = a :: aV r
 | [],r,_ => by simp [aV]
 | c :: a,r,h => by
  have hc : (c == 10) = false:=by simpa using h c ar
  rw [List.cons_append,aV,hc,py a r (fun x hx => h x cP)]
  rfl
theorem nD : ∀ (ls : List (List UInt8)),(∀ a ∈ ls,∀ c ∈ a,c ≠ 10) → aV (ls.flatMap fun a => a ++ [10]) = ls ++ [[]]
 | [],_ => rfl
 | a :: ls,h => by
  rw [List.flatMap_cons,List.append_assoc,List.singleton_append,py a _ (h a ar),nD ls (fun x hx => h x cP)]
  rfl
def bR : List UInt8 → Option (List UInt8) → List (List UInt8)
 | [],none => []
 | [],some t => [t]
 | c :: l,none => if fI c.toNat = true then bR l none else bR l (some [c])
 | c :: l,some t => if fI c.toNat = true then t :: bR l none else bR l (some (t ++ [c]))
theorem CF (s : ByteArray) (pos : Nat) (hp : pos < s.size) (ha : ∀ c ∈ s.data.toList,c.toNat < 128) : Utf8.decode s pos = (s.data.toList[pos]!.toNat,1):=by
 have hl : pos < s.data.toList.length:=by rw [Array.length_toList]; exact hp
 have e : s.get! pos = s.data.toList[pos]!:=by
  rw [List.getElem!_eq_getElem?_getD,aD hl]
  simp only [ByteArray.get!,Option.getD_some]
  rw [Array.getElem!_eq_getD]
  simp only [Array.getD,Array.getElem_toList]
  exact dif_pos hp
 have hm : s.data.toList[pos]! ∈ s.data.toList:=by
  rw [List.getElem!_eq_getElem?_getD,aD hl];exact List.getElem_mem _
 have h1:=ha _ hm;unfold Utf8.decode
 simp only [Nat.add_zero,e]
 rw [if_pos h1]
theorem mh (l : List UInt8) {pos : Nat} (h : pos < l.length) : l.drop pos = l[pos]! :: l.drop (pos + 1):=by
 rw [List.drop_eq_getElem_cons h,List.getElem!_eq_getElem?_getD,aD h];rfl
theorem mi (l : List UInt8) {a pos : Nat} (ha : a ≤ pos) (h : pos < l.length) : (l.drop a).take (pos + 1 - a) = (l.drop a).take (pos - a) ++ [l[pos]!]:=by
 have e : pos + 1 - a = (pos - a) + 1:=ae
 rw [e,List.take_add_one,List.getElem?_drop,show a + (pos - a) = pos by omega,List.getElem!_eq_getElem?_getD,aD h]
 rfl
theorem zh (s : ByteArray) (ha : ∀ c ∈ s.data.toList,c.toNat < 128) : ∀ (f pos : Nat) (st : Option Nat) (acc : List (Nat × Nat)),s.size - pos ≤ f → pos ≤ s.size → (∀ a,st = some a → a ≤ pos) →
  (Lib.closeSpans s (Lib.spansFromP fI s f pos st acc)).map (fun x => (s.extract x.1 x.2).data.toList) = acc.map (fun x => (s.extract x.1 x.2).data.toList) ++ bR (s.data.toList.drop pos) (st.map fun a => (s.data.toList.drop a).take (pos - a)):=by
 have hsz : s.data.toList.length = s.size:=Array.length_toList
 have fin : ∀ (st : Option Nat) (acc : List (Nat × Nat)),(∀ a,st = some a → a ≤ s.size) → (Lib.closeSpans s (acc,st)).map (fun x => (s.extract x.1 x.2).data.toList) = acc.map (fun x => (s.extract x.1 x.2).data.toList) ++ bR (s.data.toList.drop s.size) (st.map fun a => (s.data.toList.drop a).take (s.size - a)):=by
  intro st acc h;rw [List.drop_eq_nil_of_le ae]
  cases st with
  | none => simp [Lib.closeSpans,bR]
  | some a => simp [Lib.closeSpans,bR]
 intro f
 induction f with
 | zero =>
  intro pos st acc h1 h2 h3;obtain rfl : pos = s.size:=ae;exact fin st acc h3
 | succ f ih =>
  intro pos st acc h1 h2 h3
  by_cases hp : pos < s.size
  ·rw [mh s.data.toList ae];unfold Lib.spansFromP;rw [if_pos hp,CF s pos hp ha];dsimp only
   cases st with
   | none =>
    simp only [Option.map_none,bR]
    by_cases hb : fI s.data.toList[pos]!.toNat = true
    ·rw [if_pos hb,if_pos hb]
     exact ih (pos + 1) none acc ae ae (fun a e => cJ)
    ·rw [if_neg hb,if_neg hb]
     have:=ih (pos + 1) (some pos) acc ae ae (fun a e => ug)
     rw [this]
     simp only [Option.map_some]
     rw [mi s.data.toList (Nat.le_refl pos) ae]
     simp
   | some a =>
    have ha':=h3 a rfl
    simp only [Option.map_some,bR]
    by_cases hb : fI s.data.toList[pos]!.toNat = true
    ·rw [if_pos hb,if_pos hb]
     have:=ih (pos + 1) none (acc ++ [(a,pos)]) ae ae (fun a e => cJ)
     rw [this]
     simp
    ·rw [if_neg hb,if_neg hb]
     have:=ih (pos + 1) (some a) acc ae ae (fun b e => ug)
     rw [this]
     simp only [Option.map_some]
     rw [mi s.data.toList ha' ae]
  ·obtain rfl : pos = s.size:=ae;rw [Lib.spansFromP_end _ _ _ _ _ _ hp];exact fin st acc h3
theorem lf (s : ByteArray) (ha : ∀ c ∈ s.data.toList,c.toNat < 128) : aM s = (bR s.data.toList none).map fun l => ⟨l.toArray⟩:=by
 have h:=zh s ha s.size 0 none [] ae ae (fun a e => cJ)
 simp only [List.map_nil,List.nil_append,List.drop_zero,Option.map_none] at h
 rw [← h];unfold aM Lib.goFieldsP Lib.spansOfP;rw [List.map_map]
 apply List.map_congr_left
 intro x _;rfl
theorem q9 : ∀ (w t r : List UInt8),(∀ c ∈ w,fI c.toNat = false) → bR (w ++ r) (some t) = bR r (some (t ++ w))
 | [],t,r,_ => by simp
 | c :: w,t,r,h => by
  rw [List.cons_append,bR,if_neg (by simp [h c ar]),q9 w _ r (fun x hx => h x cP)]
  simp
def Wrd (w : List UInt8) : Prop:=w ≠ [] ∧ ∀ c ∈ w,fI c.toNat = false
theorem mI {w : List UInt8} (h : Wrd w) (r : List UInt8) : bR (w ++ r) none = bR r (some w):=by
 obtain ⟨h0,h1⟩:=h
 cases w with
 | nil => exact absurd rfl h0
 | cons c w =>
  rw [List.cons_append,bR,if_neg (by simp [h1 c ar]),q9 w _ r (fun x hx => h1 x cP)]
  rfl
theorem qZ : ∀ (ws : List (List UInt8)) (w : List UInt8),Wrd w → (∀ x ∈ ws,Wrd x) → bR (w ++ Lib.joinTail [32] ws) none = w :: ws
 | [],w,h,_ => by
  rw [mI h];rfl
 | x :: ws,w,h,hw => by
  have e : Lib.joinTail [32] (x :: ws) = 32 :: (x ++ Lib.joinTail [32] ws):=by simp [Lib.joinTail]
  rw [mI h,e,bR,if_pos aq,qZ ws x (hw x ar) (fun y hy => hw y jL)]
def Sgn (w : List UInt8) : Prop:=w ≠ [] ∧ ∀ c ∈ w,33 ≤ c.toNat ∧ c.toNat ≤ 126
theorem NR {c : UInt8} (h : 33 ≤ c.toNat ∧ c.toNat ≤ 126) : fI c.toNat = false:=by
 unfold fI
 simp
 omega
theorem Sgn.wrd {w : List UInt8} (h : Sgn w) : Wrd w:=⟨h.1,fun c hc => NR (h.2 c hc)⟩
structure LW (l : List UInt8) (ws : List (List UInt8)) : Prop where
 f : bR l none = ws
 a : ∀ c ∈ l,c.toNat < 128 ∧ c ≠ 10
theorem GF : ∀ (ws : List (List UInt8)),(∀ x ∈ ws,Sgn x) → ∀ c ∈ Lib.joinTail [32] ws,c.toNat < 128 ∧ c ≠ 10
 | [],_,c,hc => by simp [Lib.joinTail] at hc
 | x :: ws,h,c,hc => by
  have e : Lib.joinTail [32] (x :: ws) = 32 :: (x ++ Lib.joinTail [32] ws):=by simp [Lib.joinTail]
  rw [e] at hc
  rcases List.mem_cons.1 hc with rfl | hc
  ·decide
  ·rcases List.mem_append.1 hc with hc | hc
   ·have:=(h x ar).2 c hc
    refine ⟨ae,fun e => ?_⟩
    subst e;exact absurd this aq
   ·exact GF ws (fun y hy => h y jL) c hc
theorem Kv {w : List UInt8} {ws : List (List UInt8)} (h : Sgn w) (hw : ∀ x ∈ ws,Sgn x) : LW (w ++ Lib.joinTail [32] ws) (w :: ws):=by
 refine ⟨qZ ws w h.wrd (fun x hx => (hw x hx).wrd),fun c hc => ?_⟩
 rcases List.mem_append.1 hc with hc | hc
 ·have:=h.2 c hc
  refine ⟨ae,fun e => ?_⟩
  subst e;exact absurd this aq
 ·exact GF ws hw c hc
theorem LW.lead {l : List UInt8} {ws : List (List UInt8)} (h : LW l ws) : LW (32 :: l) ws:=by
 refine ⟨?_,fun c hc => ?_⟩
 ·rw [bR,if_pos aq];exact h.f
 ·rcases List.mem_cons.1 hc with rfl | hc
  ·decide
  ·exact h.a c hc
abbrev ba (l : List UInt8) : ByteArray:=⟨l.toArray⟩
theorem Cf {l : List UInt8} {w : List UInt8} {ws : List (List UInt8)} (h : LW l (w :: ws)) (hw : Sgn w) (h59 : w.head? ≠ some 59) (p : Int) (M : PM) : bO p M (ba l) = bJ p M ((w :: ws).map ba):=by
 have e : aM (ba l) = (w :: ws).map ba:=by
  rw [lf _ (fun c hc => (h.a c hc).1)]
  show (bR l none).map _ = _
  rw [h.f]
 unfold bO;rw [e,if_neg]
 rintro (h1 | h1)
 ·cases h1
 ·cases w with
  | nil => exact hw.1 rfl
  | cons c w =>
   have h2 : ((c.toNat : Nat) : Int) = 59:=h1
   exact h59 (by
    simp only [List.head?_cons,Option.some.injEq]
    apply UInt8.toNat.inj
    show c.toNat = 59
    omega)
theorem cU : ∀ (a b : List ByteArray) (ln p : Int) (M : PM) (l' p' : Int) (M' : PM),bh ln p M a = (l',some (p',M')) → bh ln p M (a ++ b) = bh l' p' M' b
 | [],b,ln,p,M,l',p',M',h => by
  simp only [bh] at h
  obtain ⟨h1,h2⟩:=Prod.mk.inj h;obtain ⟨h3,h4⟩:=Prod.mk.inj (Option.some.inj h2);subst h1 h3 h4;rfl
 | x :: a,b,ln,p,M,l',p',M',h => by
  simp only [List.cons_append,bh] at h ⊢
  cases ht : bO p M x with
  | none => rw [ht] at h; cases h
  | some y =>
   rw [ht] at h;exact cU a b _ _ _ _ _ _ h
theorem sec {α : Type} (g : α → ByteArray) (f : PM → α → PM) (lo q : Int) (hq : lo ≤ q) : ∀ (xs : List α),(∀ x ∈ xs,∀ p M,lo ≤ p → p ≤ q → bO p M (g x) = some (q,f M x)) → ∀ ln p M,lo ≤ p → p ≤ q → ∃ ln' p',bh ln p M (xs.map g) = (ln',some (p',xs.foldl f M)) ∧ lo ≤ p' ∧ p' ≤ q
 | [],_,ln,p,M,h1,h2 => ⟨ln,p,rfl,h1,h2⟩
 | x :: xs,h,ln,p,M,h1,h2 => by
  obtain ⟨l',p',e,k1,k2⟩:=sec g f lo q hq xs (fun y hy => h y jL) (ln + 1) q (f M x) hq (Int.le_refl _)
  refine ⟨l',p',?_,k1,k2⟩
  simp only [List.map_cons,bh,h x ar p M h1 h2,List.foldl_cons]
  exact e
theorem eB (n : Int) : Sgn (aQ n).data.toList:=⟨KI n,fun c hc => by have:=GV n c hc; omega⟩
theorem qc {s : ByteArray} {k : Nat} (h : bH s k = true) : ∀ c ∈ s.data.toList,33 ≤ c.toNat ∧ c.toNat ≤ 126:=fun c hc => by
 rcases ((gq s k).1 h).1 c hc with rfl | rfl <;> decide
theorem uX {p : ByteArray} (h : bH p 8 = true) : Sgn (ct p).data.toList:=by
 rw [i7]
 split
 ·exact ⟨ar,fun c hc => by obtain rfl:=List.mem_singleton.1 hc; decide⟩
 ·rename_i hn
  exact ⟨hn,qc h⟩
theorem Kk {l : List Int} (h0 : l ≠ []) (h : ∀ b ∈ l,0 ≤ b ∧ b ≤ 255) : Sgn (eX l):=by
 refine ⟨?_,fun c hc => by have:=Jk l h c hc; omega⟩
 cases l with
 | nil => exact absurd rfl h0
 | cons b l => simp [eX]
theorem bp {l : List UInt8} (h : (!l.isEmpty && l.all fun c => decide (33 ≤ c.toNat) && decide (c.toNat ≤ 126)) = true) : Sgn l:=by
 simp only [Bool.and_eq_true,List.all_eq_true,decide_eq_true_eq] at h
 exact ⟨fun e => by rw [e] at h; simp at h,h.2⟩
def lnS (xs : List ByteArray) : List UInt8:=Lib.join (xs.map (·.data.toList)) [32]
theorem nj (x : ByteArray) (xs : List ByteArray) : lnS (x :: xs) = x.data.toList ++ Lib.joinTail [32] (xs.map (·.data.toList)):=by
 unfold lnS;rw [List.map_cons,Lib.join_cons]
theorem Ie (xs : List ByteArray) : (xs.map (·.data.toList)).map ba = xs:=by
 rw [List.map_map];exact List.map_id xs
theorem dQ {x : ByteArray} {xs : List ByteArray} (h : Sgn x.data.toList) (hx : ∀ y ∈ xs,Sgn y.data.toList) : LW (lnS (x :: xs)) (x.data.toList :: xs.map (·.data.toList)):=by
 rw [nj]
 refine Kv h (fun w hw => ?_)
 obtain ⟨y,hy,rfl⟩:=List.mem_map.1 hw;exact hx y hy
theorem gv {x : ByteArray} {xs : List ByteArray} (h : Sgn x.data.toList) (hx : ∀ y ∈ xs,Sgn y.data.toList) (h59 : x.data.toList.head? ≠ some 59) (p : Int) (M : PM) : bO p M (ba (lnS (x :: xs))) = bJ p M (x :: xs):=by
 rw [Cf (dQ h hx) h h59]
 congr 1
 rw [List.map_cons,Ie]
end Go.Proofs.YtheefojaplnnoaaGreatDoor

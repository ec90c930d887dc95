/-
  Texts Mb Ja At Place Good Jb.
-/
import Derived.Deep.AppendLies
import Derived.Handy
import Derived.Sort.OwnSortedInts
import Derived.Test.YtepnnenohjfkbaaGreatDoorP00
import Derived.Test.YtepnnenohjfkbaaGreatDoorP10
import Derived.Test.YtepnnenohjfkbaaGreatDoorP21
import Derived.Test.YtepnnenohjfkbaaGreatDoorP27
import Derived.Test.YtepnnenohjfkbaaGreatDoorP30
import Derived.Test.YtepnnenohjfkbaaGreatDoorP34
import Derived.Test.YtepnnenohjfkbaaGreatDoorP35
set_option linter.unusedVariables false
set_option maxRecDepth 100000
set_option maxHeartbeats 16000000
namespace Go.Proofs.YtepnnenohjfkbaaGreatDoor
open Go.ChangeShapes Go.WideShapes Go.ChangeAt Go.RowKit
structure Raw (W : World) (m : MM) : Prop where
 t : cI W 2 xf m.ta m.tn m.tc m.types
 tg : ∀ (j : Nat) x,m.types[j]? = some x → xH W x
 h : cI W 1 (fun (z : Int) => [Value.int .i64 z]) m.ha m.hn m.hc m.hosts
 hg : ∀ (j : Nat) a,m.hosts[j]? = some a → -9223372036854775808 ≤ a ∧ a < 9223372036854775808
 g : cI W 3 FGl m.ga m.gn m.gc m.globals
 gg : ∀ (j : Nat) x,m.globals[j]? = some x → GGl W x
 i : -9223372036854775808 ≤ m.fi ∧ m.fi < 9223372036854775808
 o : -9223372036854775808 ≤ m.mo ∧ m.mo < 9223372036854775808
 f : cI W 3 FFu m.fa m.fn m.fc m.fns
 fg : ∀ (j : Nat) x,m.fns[j]? = some x → GFu W x
 d : cI W 2 FDa m.da m.dn m.dc m.data
 dg : ∀ (j : Nat) x,m.data[j]? = some x → GDa W x
 e : cI W 2 FEx m.ea m.en m.ec m.exps
 eg : ∀ (j : Nat) x,m.exps[j]? = some x → GEx W x
 top : ∀ a ∈ [m.ta,m.ha,m.ga,m.fa,m.da,m.ea],∀ b off s,a = some ⟨b,off,s⟩ → b < W.heap.size
def Small (m : MM) : Prop:=lV m.types + fC m.fns + gI m.data + dI m.exps ≤ 20000
theorem uh {l : List Nat} {x : Nat} (h : x ∈ l) : x ≤ l.sum:=by
 induction l with
 | nil => cases h
 | cons a l ih =>
  rcases List.mem_cons.1 h with rfl | h
  ·simp
  ·have:=ih h; simp; omega
theorem ke {α : Type} {f : α → Nat} {l : List α} {x : α} (h : x ∈ l) : f x ≤ (l.map f).sum:=uh (List.mem_map.2 ⟨x,h,rfl⟩)
theorem oI : ∀ (xs : List InM) (z : Nat),szG xs z ≤ 20000 → z ≤ 20000 ∧ ∀ x ∈ xs,x.2.2.1.2.1 ≤ 20000
 | [],z,h => ⟨h,fun x hx => by cases hx⟩
 | y :: r,z,h => by
  by_cases hz : z ≤ 2147483647
  ·rw [tO hz] at h;obtain ⟨h1,h2⟩:=oI r _ h
   refine ⟨by omega,fun x hx => ?_⟩
   rcases List.mem_cons.1 hx with rfl | hx
   ·omega
   ·exact h2 x hx
  ·rw [Dn hz] at h;omega
section
variable {W : World} {m : MM}
theorem cI.sig {a : Option Addr} {n cap : Nat} {xs : List Sg} (h : cI W 2 xf a n cap xs) : ep W a n xs :=
 ⟨h.len,h.at_.imp id fun ⟨b,off,e,hc⟩ => ⟨b,off,e,fun j x hj => ⟨hc j x hj 0 _ rfl,hc j x hj 1 _ rfl⟩⟩⟩
theorem cI.nu {a : Option Addr} {n cap : Nat} {xs : List Int} (h : cI W 1 (fun (z : Int) => [Value.int .i64 z]) a n cap xs) : j6 W a n xs :=
 ⟨h.len,h.at_.imp id fun ⟨b,off,e,hc⟩ => ⟨b,off,e,fun j x hj => by have:=hc j x hj 0 _ rfl; rwa [Nat.mul_one] at this⟩⟩
theorem cI.gl {a : Option Addr} {n cap : Nat} {xs : List Gl} (h : cI W 3 FGl a n cap xs) : jW W a n xs :=
 ⟨h.len,h.at_.imp id fun ⟨b,off,e,hc⟩ => ⟨b,off,e,fun j x hj => ⟨hc j x hj 0 _ rfl,hc j x hj 1 _ rfl,hc j x hj 2 _ rfl⟩⟩⟩
theorem cI.fu {a : Option Addr} {n cap : Nat} {xs : List FuM} (h : cI W 3 FFu a n cap xs) : iP W a n xs :=
 ⟨h.len,h.at_.imp id fun ⟨b,off,e,hc⟩ => ⟨b,off,e,fun j x hj => ⟨hc j x hj 0 _ rfl,hc j x hj 1 _ rfl,hc j x hj 2 _ rfl⟩⟩⟩
theorem cI.in_ {a : Option Addr} {n cap : Nat} {xs : List InM} (h : cI W 3 FIn a n cap xs) : AtIn W a n xs :=
 ⟨h.len,h.at_.imp id fun ⟨b,off,e,hc⟩ => ⟨b,off,e,fun j x hj => ⟨hc j x hj 0 _ rfl,hc j x hj 1 _ rfl,hc j x hj 2 _ rfl⟩⟩⟩
theorem cI.da {a : Option Addr} {n cap : Nat} {xs : List DaM} (h : cI W 2 FDa a n cap xs) : lI W a n xs :=
 ⟨h.len,h.at_.imp id fun ⟨b,off,e,hc⟩ => ⟨b,off,e,fun j x hj => ⟨hc j x hj 0 _ rfl,hc j x hj 1 _ rfl⟩⟩⟩
theorem cI.ex {a : Option Addr} {n cap : Nat} {xs : List Ex} (h : cI W 2 FEx a n cap xs) : kJ W a n xs :=
 ⟨h.len,h.at_.imp id fun ⟨b,off,e,hc⟩ => ⟨b,off,e,fun j x hj => ⟨hc j x hj 0 _ rfl,hc j x hj 1 _ rfl⟩⟩⟩
theorem cI.segI {a : Option Addr} {n cap : Nat} {xs : List Int} (h : cI W 1 (fun (z : Int) => [Value.int .i64 z]) a n cap xs) (hr : ∀ (j : Nat) a,xs[j]? = some a → -9223372036854775808 ≤ a ∧ a < 9223372036854775808) (hn : n ≤ 20000) : fO W a n cap xs:=by
 refine ⟨h.len,h.cap_,by omega,fun z hz => ?_,h.at_.imp id fun ⟨b,off,e,hc⟩ => ⟨b,off,e,fun j hj => ?_⟩⟩
 ·obtain ⟨j,hj⟩:=List.getElem?_of_mem hz
  have:=hr j z hj
  omega
 ·have hl:=h.len
  have hx : xs[j]? = some (xs[j]'(by omega)):=List.getElem?_eq_getElem _
  have:=hc j _ hx 0 _ rfl
  rw [Nat.mul_one] at this;rw [List.getD_eq_getElem?_getD,hx];exact this
theorem cI.segB {a : Option Addr} {n cap : Nat} {xs : List Int} (h : cI W 1 (fun (z : Int) => [Value.int .u8 z]) a n cap xs) (hr : ∀ (j : Nat) a,xs[j]? = some a → 0 ≤ a ∧ a ≤ 255) (hn : n ≤ 20000) : Seg W a n cap xs:=by
 refine ⟨h.len,h.cap_,by omega,fun z hz => ?_,h.at_.imp id fun ⟨b,off,e,hc⟩ => ⟨b,off,e,fun j hj => ?_⟩⟩
 ·obtain ⟨j,hj⟩:=List.getElem?_of_mem hz;exact hr j z hj
 ·have hl:=h.len
  have hx : xs[j]? = some (xs[j]'(by omega)):=List.getElem?_eq_getElem _
  have:=hc j _ hx 0 _ rfl
  rw [Nat.mul_one] at this;rw [List.getD_eq_getElem?_getD,hx];exact this
theorem Small.parts (h : Small m) : (∀ (j : Nat) x,m.types[j]? = some x → x.1.size + x.2.size ≤ 20000) ∧ (∀ (j : Nat) x,m.fns[j]? = some x → x.2.1.size ≤ 20000 ∧ ∀ (i : Nat) y,x.2.2.2[i]? = some y → y.2.2.1.2.1 ≤ 20000) ∧ (∀ (j : Nat) x,m.data[j]? = some x → x.2.1.2.1 ≤ 20000) ∧ ∀ (j : Nat) x,m.exps[j]? = some x → x.1.size ≤ 20000:=by
 unfold Small at h
 refine ⟨fun j x hj => ?_,fun j x hj => ?_,fun j x hj => ?_,fun j x hj => ?_⟩
 ·have : x.1.size + x.2.size ≤ lV m.types:=ke (f:=fun x : Sg => x.1.size + x.2.size) (List.mem_of_getElem? hj)
  omega
 ·have : x.2.1.size + szG x.2.2.2 x.2.2.1.2.1 ≤ fC m.fns:=ke (f:=fun x : FuM => x.2.1.size + szG x.2.2.2 x.2.2.1.2.1) (List.mem_of_getElem? hj)
  exact ⟨by omega,fun i y hi => (oI x.2.2.2 x.2.2.1.2.1 (by omega)).2 y (List.mem_of_getElem? hi)⟩
 ·have : x.2.1.2.1 ≤ gI m.data:=ke (f:=fun x : DaM => x.2.1.2.1) (List.mem_of_getElem? hj)
  omega
 ·have : x.1.size ≤ dI m.exps:=ke (f:=fun x : Ex => x.1.size) (List.mem_of_getElem? hj)
  omega
theorem Raw.ok (h : Raw W m) (hs : Small m) : ∀ R g,W.heap.size ≤ R → W.heap.size ≤ g → MOk W R g m:=by
 intro R g hR hg;obtain ⟨s1,s2,s3,s4⟩:=hs.parts
 have far : ∀ a ∈ [m.ta,m.ha,m.ga,m.fa,m.da,m.ea],Far W R g a:=fun a ha b off c hb => by have:=h.top a ha b off c hb; omega
 have farN : ∀ {a : Option Addr} {n : Nat},(∀ b off s,nz n a = some ⟨b,off,s⟩ → b < W.heap.size) → Far W R g (nz n a):=fun hl b off c hb => by have:=hl b off c hb; omega
 refine ⟨h.t.sig,far _ (by simp),h.h.nu,far _ (by simp),h.hg,h.g.gl,far _ (by simp),h.gg,h.i.1,h.i.2,h.o.1,h.o.2,h.f.fu,far _ (by simp),fun j x hj => ?_,h.d.da,far _ (by simp),fun j x hj => ?_,h.e.ex,far _ (by simp),fun j x hj => (h.eg j x hj).2⟩
 ·obtain ⟨q1,q2,q3,q4⟩:=h.fg j x hj
  refine ⟨q1,q3.in_,farN q3.lt,fun i y hi => ?_⟩
  obtain ⟨r1,r2,r3,r4⟩:=q4 i y hi;exact ⟨r1,r2,r3.segI r4 ((s2 j x hj).2 i y hi),farN r3.lt⟩
 ·obtain ⟨q1,q2,q3⟩:=h.dg j x hj;exact ⟨q1,q2.segB q3 (s3 j x hj),farN q2.lt⟩
theorem Raw.szc (h : Raw W m) : SzC W m :=
 ⟨h.t.big,h.h.big,h.g.big,h.f.big,h.d.big,h.e.big,h.tg,fun j x hj => by
  obtain ⟨q1,q2,q3,q4⟩:=h.fg j x hj
  exact ⟨q2,q3.big,q3.in_,fun i y hi => (q4 i y hi).2.2.1.big⟩,fun j x hj => (h.dg j x hj).2.1.big,fun j x hj => (h.eg j x hj).1⟩
theorem Raw.cap (h : Raw W m) : ∀ x ∈ m.fns,x.2.2.1.2.1 ≤ x.2.2.1.2.2:=fun x hx => by
 obtain ⟨j,hj⟩:=List.getElem?_of_mem hx;exact (h.fg j x hj).2.2.1.cap_
theorem Raw.later {W' : World} (h : Raw W m) (hb : Below W.heap.size W W') : SzC W' m ∧ ep W' m.ta m.tn m.types ∧ iP W' m.fa m.fn m.fns ∧ lI W' m.da m.dn m.data ∧ kJ W' m.ea m.en m.exps:=by
 have hk : Kept (fun _ => False) W W':=aB hb
 have z:=h.szc
 exact ⟨⟨z.tn,z.hn,z.gn,z.fn,z.dn,z.en,z.t,fun j x hj => ⟨(z.f j x hj).1,(z.f j x hj).2.1,(z.f j x hj).2.2.1.kept hk (fun _ _ _ _ => id),(z.f j x hj).2.2.2⟩,z.d,z.e⟩,h.t.sig.kept hk (fun _ _ _ _ => id),h.f.fu.kept hk (fun _ _ _ _ => id),h.d.da.kept hk (fun _ _ _ _ => id),h.e.ex.kept hk (fun _ _ _ _ => id)⟩
end
section
variable {H : Type} {enc : TypeId × Value → H} {W : World}
theorem xp {r : Reach} {base : Nat} {u : TypeId} {a : Addr} {n c : Nat} (h : Cell.okWide Tryz.prog W r base u (.slice (some a) n c)) : a.block < W.heap.size:=by
 unfold Cell.okWide at h
 cases hu : Tryz.prog.underlying u with
 | none => simp [hu,Cell.ok] at h
 | some d =>
  cases d <;> simp [hu,Cell.ok] at h
  obtain ⟨_,_,_,_,row,cells,hsh,_⟩:=h;unfold World.shape? at hsh
  rcases Nat.lt_or_ge a.block W.heap.size with hl | hl
  ·exact hl
  ·rw [Array.getElem?_eq_none hl] at hsh; cases hsh
theorem pj {base : Nat} {v : Value} {d : DataW H} {ps : List MemPlace} (hval : Value.okWide Tryz.prog W .any base 29 v) (h : DataW.Trod enc Tryz.prog W 0 (fun _ => true) true 29 v d ps) (hw : ∀ n ∈ d.weights Tryz.prog 29,n ≤ reachBytes) :
  ∃ m : MM,v = .agg (mV m) ∧ Raw W m:=by
 have hval':=hval;obtain ⟨cs,rfl,hsz⟩:=okWide_struct Tryz.underlying29 hval;obtain ⟨fuel,hf⟩:=h;obtain ⟨ta,tn,tc,ts,ha,hn,hc,hs,ga,gn,gc,gs,fi,mo,fa,fn,fc,fs,da,dn,dc,ds,ea,en,ec,es,hcs,⟨t1,t2⟩,⟨h1,h2⟩,⟨g1,g2⟩,i1,o1,⟨f1,f2⟩,⟨d1,d2⟩,e1,e2⟩:=wu hf hw;have e : cs.toList = [.slice ta tn tc,.slice ha hn hc,.slice ga gn gc,.int .i64 fi,.int .i64 mo,.slice fa fn fc,.slice da dn dc,.slice ea en ec]:=hcs
 have ec' : cs = #[.slice ta tn tc,.slice ha hn hc,.slice ga gn gc,.int .i64 fi,.int .i64 mo,.slice fa fn fc,.slice da dn dc,.slice ea en ec]:=by
  apply Array.toList_inj.1
  rw [e]
 refine ⟨⟨ta,tn,tc,ts,ha,hn,hc,hs,ga,gn,gc,gs,fi,mo,fa,fn,fc,fs,da,dn,dc,ds,ea,en,ec,es⟩,by rw [ec']; rfl,⟨t1,t2,h1,h2,g1,g2,i1,o1,f1,f2,d1,d2,e1,e2,?_⟩⟩
 obtain ⟨cs',hv,_,⟨tt,htt,_,hall⟩⟩ : ∃ cs',Value.agg cs = .agg cs' ∧ cs'.size = Tryz.prog.cellsOf 29 ∧ Row.okWide Tryz.prog W .any base 29 cs':=by
  have:=hval'
  simp only [Value.okWide,Tryz.underlying29] at this
  exact this
 injection hv with hv
 subst hv
 have look : ∀ (i : Nat) a n c,cs[i]? = some (.slice (some a) n c) → a.block < W.heap.size:=fun i a n c hi => by
  obtain ⟨u,_,hu⟩:=hall i _ hi;exact xp hu
 rw [ec'] at look;intro a hm b off s hb;subst hb
 simp only [List.mem_cons,List.not_mem_nil,or_false] at hm
 rcases hm with hm | hm | hm | hm | hm | hm
 ·exact look 0 ⟨b,off,s⟩ tn tc (by rw [hm]; rfl)
 ·exact look 1 ⟨b,off,s⟩ hn hc (by rw [hm]; rfl)
 ·exact look 2 ⟨b,off,s⟩ gn gc (by rw [hm]; rfl)
 ·exact look 5 ⟨b,off,s⟩ fn fc (by rw [hm]; rfl)
 ·exact look 6 ⟨b,off,s⟩ dn dc (by rw [hm]; rfl)
 ·exact look 7 ⟨b,off,s⟩ en ec (by rw [hm]; rfl)
end
open Go.RowKit
variable {w : World}
theorem nD {b off n cap q : Nat} {P R : ByteArray} (hq : q < n) (hn : n ≤ 1099511627776) (h0 : w.cell? ⟨b,off + q * 2,none⟩ = some (.string P)) (h1 : w.cell? ⟨b,off + q * 2 + 1,none⟩ = some (.string R)) :
  Calls Tryz.prog 261 #[.slice (some ⟨b,off,none⟩) n cap,.int .i64 q] w fun e w' => e = .returned (.tuple #[.agg #[.string P,.string R],.bool true]) ∧ Below w.heap.size w w':=by
 have g0 : decide ((q : Int) < 0) = false:=by simp
 have g1 : (q : Int) < (n : Int):=by omega
 have g2 : decide ((n : Int) ≤ (q : Int)) = false:=by simp; omega
 have BN:=ag w (.cells #[.string ⟨#[]⟩,.string ⟨#[]⟩] 62);have z0:=ae BN h0;have z1:=ae BN h1;clear BN h0 h1
 go_enter Tryz.func261,Tryz.ntmps261
 go_wp2_with fail;refine bodyPost_ret (v:=.tuple #[.agg #[.string P,.string R],.bool true]) ?_ rfl ⟨rfl,ag _ _⟩;rw [results_cell_tmp rfl];go_simp
theorem qm {a : Option Addr} {n cap : Nat} {z : Int} (hz : z < 0 ∨ (n : Int) ≤ z) (hn : n ≤ 1099511627776) :
  Calls Tryz.prog 261 #[.slice a n cap,.int .i64 z] w fun e w' => e = .returned (.tuple #[.agg #[.string ⟨#[]⟩,.string ⟨#[]⟩],.bool false]) ∧ Below w.heap.size w w':=by
 have BN : Below w.heap.size w ((w.alloc (.cells #[.string ⟨#[]⟩,.string ⟨#[]⟩] 62)).alloc (.cells #[.string ⟨#[]⟩,.string ⟨#[]⟩] 62)):=(ag _ _).trans ((ag _ _).mono (ag _ _).size)
 by_cases g0 : z < 0
 ·have g1 : decide (z < 0) = true:=by simpa using g0
  go_enter Tryz.func261,Tryz.ntmps261
  go_wp2_with fail;refine bodyPost_ret (v:=.tuple #[.agg #[.string ⟨#[]⟩,.string ⟨#[]⟩],.bool false]) ?_ rfl ⟨rfl,BN⟩;rw [results_cell_tmp rfl];go_simp
 ·have g1 : decide (z < 0) = false:=by simpa using g0
  have g2 : decide ((n : Int) ≤ z) = true:=by simp; omega
  go_enter Tryz.func261,Tryz.ntmps261
  go_wp2_with fail;refine bodyPost_ret (v:=.tuple #[.agg #[.string ⟨#[]⟩,.string ⟨#[]⟩],.bool false]) ?_ rfl ⟨rfl,BN⟩;rw [results_cell_tmp rfl];go_simp
theorem m9 {b off n cap q : Nat} {ty : Int} {lo : ByteArray} {ca : Option Addr} {cn cc : Nat} (hq : q < n) (hn : n ≤ 1099511627776) (h0 : w.cell? ⟨b,off + q * 3,none⟩ = some (.int .i64 ty)) (h1 : w.cell? ⟨b,off + q * 3 + 1,none⟩ = some (.string lo)) (h2 : w.cell? ⟨b,off + q * 3 + 2,none⟩ = some (.slice ca cn cc)) :
  Calls Tryz.prog 255 #[.slice (some ⟨b,off,none⟩) n cap,.int .i64 q] w fun e w' => e = .returned (.tuple #[.agg #[.int .i64 ty,.string lo,.slice ca cn cc],.bool true]) ∧ Below w.heap.size w w':=by
 have g0 : decide ((q : Int) < 0) = false:=by simp
 have g1 : (q : Int) < (n : Int):=by omega
 have g2 : decide ((n : Int) ≤ (q : Int)) = false:=by simp; omega
 have BN:=ag w (.cells #[.int .i64 0,.string ⟨#[]⟩,.slice none 0 0] 42);have z0:=ae BN h0;have z1:=ae BN h1;have z2:=ae BN h2;clear BN h0 h1 h2
 go_enter Tryz.func255,Tryz.ntmps255
 go_wp2_with fail;refine bodyPost_ret (v:=.tuple #[.agg #[.int .i64 ty,.string lo,.slice ca cn cc],.bool true]) ?_ rfl ⟨rfl,ag _ _⟩;rw [results_cell_tmp rfl];go_simp
theorem po {a : Option Addr} {n cap : Nat} {z : Int} (hz : z < 0 ∨ (n : Int) ≤ z) (hn : n ≤ 1099511627776) :
  Calls Tryz.prog 255 #[.slice a n cap,.int .i64 z] w fun e w' => e = .returned (.tuple #[.agg #[.int .i64 0,.string ⟨#[]⟩,.slice none 0 0],.bool false]) ∧ Below w.heap.size w w':=by
 have BN : Below w.heap.size w ((w.alloc (.cells #[.int .i64 0,.string ⟨#[]⟩,.slice none 0 0] 42)).alloc (.cells #[.int .i64 0,.string ⟨#[]⟩,.slice none 0 0] 42)):=(ag _ _).trans ((ag _ _).mono (ag _ _).size)
 by_cases g0 : z < 0
 ·have g1 : decide (z < 0) = true:=by simpa using g0
  go_enter Tryz.func255,Tryz.ntmps255
  go_wp2_with fail;refine bodyPost_ret (v:=.tuple #[.agg #[.int .i64 0,.string ⟨#[]⟩,.slice none 0 0],.bool false]) ?_ rfl ⟨rfl,BN⟩;rw [results_cell_tmp rfl];go_simp
 ·have g1 : decide (z < 0) = false:=by simpa using g0
  have g2 : decide ((n : Int) ≤ z) = true:=by simp; omega
  go_enter Tryz.func255,Tryz.ntmps255
  go_wp2_with fail;refine bodyPost_ret (v:=.tuple #[.agg #[.int .i64 0,.string ⟨#[]⟩,.slice none 0 0],.bool false]) ?_ rfl ⟨rfl,BN⟩;rw [results_cell_tmp rfl];go_simp
theorem oo {b off n cap q : Nat} {c va : Int} {mu : Bool} (hq : q < n) (hn : n ≤ 1099511627776) (h0 : w.cell? ⟨b,off + q * 3,none⟩ = some (.int .u8 c)) (h1 : w.cell? ⟨b,off + q * 3 + 1,none⟩ = some (.bool mu)) (h2 : w.cell? ⟨b,off + q * 3 + 2,none⟩ = some (.int .u64 va)) :
  Calls Tryz.prog 260 #[.slice (some ⟨b,off,none⟩) n cap,.int .i64 q] w fun e w' => e = .returned (.tuple #[.agg #[.int .u8 c,.bool mu,.int .u64 va],.bool true]) ∧ Below w.heap.size w w':=by
 have g0 : decide ((q : Int) < 0) = false:=by simp
 have g1 : (q : Int) < (n : Int):=by omega
 have g2 : decide ((n : Int) ≤ (q : Int)) = false:=by simp; omega
 have BN:=ag w (.cells #[.int .u8 0,.bool false,.int .u64 0] 141);have z0:=ae BN h0;have z1:=ae BN h1;have z2:=ae BN h2;clear BN h0 h1 h2
 go_enter Tryz.func260,Tryz.ntmps260
 go_wp2_with fail;refine bodyPost_ret (v:=.tuple #[.agg #[.int .u8 c,.bool mu,.int .u64 va],.bool true]) ?_ rfl ⟨rfl,ag _ _⟩;rw [results_cell_tmp rfl];go_simp
theorem oC {a : Option Addr} {n cap : Nat} {z : Int} (hz : z < 0 ∨ (n : Int) ≤ z) (hn : n ≤ 1099511627776) :
  Calls Tryz.prog 260 #[.slice a n cap,.int .i64 z] w fun e w' => e = .returned (.tuple #[.agg #[.int .u8 0,.bool false,.int .u64 0],.bool false]) ∧ Below w.heap.size w w':=by
 have BN : Below w.heap.size w ((w.alloc (.cells #[.int .u8 0,.bool false,.int .u64 0] 141)).alloc (.cells #[.int .u8 0,.bool false,.int .u64 0] 141)):=(ag _ _).trans ((ag _ _).mono (ag _ _).size)
 by_cases g0 : z < 0
 ·have g1 : decide (z < 0) = true:=by simpa using g0
  go_enter Tryz.func260,Tryz.ntmps260
  go_wp2_with fail;refine bodyPost_ret (v:=.tuple #[.agg #[.int .u8 0,.bool false,.int .u64 0],.bool false]) ?_ rfl ⟨rfl,BN⟩;rw [results_cell_tmp rfl];go_simp
 ·have g1 : decide (z < 0) = false:=by simpa using g0
  have g2 : decide ((n : Int) ≤ z) = true:=by simp; omega
  go_enter Tryz.func260,Tryz.ntmps260
  go_wp2_with fail;refine bodyPost_ret (v:=.tuple #[.agg #[.int .u8 0,.bool false,.int .u64 0],.bool false]) ?_ rfl ⟨rfl,BN⟩;rw [results_cell_tmp rfl];go_simp
theorem C2 {b off n cap q : Nat} {x : Int} (hq : q < n) (hn : n ≤ 1099511627776) (h0 : w.cell? ⟨b,off + q,none⟩ = some (.int .i64 x)) :
  Calls Tryz.prog 257 #[.slice (some ⟨b,off,none⟩) n cap,.int .i64 q] w fun e w' => e = .returned (.tuple #[.int .i64 x,.bool true]) ∧ w' = w:=by
 have g0 : decide ((q : Int) < 0) = false:=by simp
 have g1 : (q : Int) < (n : Int):=by omega
 have g2 : decide ((n : Int) ≤ (q : Int)) = false:=by simp; omega
 go_enter Tryz.func257,Tryz.ntmps257
 go_wp2_with fail;go_ret2;exact ⟨rfl,rfl⟩
theorem pH {a : Option Addr} {n cap : Nat} {z : Int} (hz : z < 0 ∨ (n : Int) ≤ z) (hn : n ≤ 1099511627776) :
  Calls Tryz.prog 257 #[.slice a n cap,.int .i64 z] w fun e w' => e = .returned (.tuple #[.int .i64 0,.bool false]) ∧ w' = w:=by
 by_cases g0 : z < 0
 ·have g1 : decide (z < 0) = true:=by simpa using g0
  go_enter Tryz.func257,Tryz.ntmps257
  go_wp2_with fail;go_ret2;exact ⟨rfl,rfl⟩
 ·have g1 : decide (z < 0) = false:=by simpa using g0
  have g2 : decide ((n : Int) ≤ z) = true:=by simp; omega
  go_enter Tryz.func257,Tryz.ntmps257
  go_wp2_with fail;go_ret2;exact ⟨rfl,rfl⟩
theorem nK {b off n cap q : Nat} {x : Int} (hq : q < n) (hn : n ≤ 1099511627776) (h0 : w.cell? ⟨b,off + q,none⟩ = some (.int .u8 x)) :
  Calls Tryz.prog 258 #[.slice (some ⟨b,off,none⟩) n cap,.int .i64 q] w fun e w' => e = .returned (.tuple #[.int .u8 x,.bool true]) ∧ w' = w:=by
 have g0 : decide ((q : Int) < 0) = false:=by simp
 have g1 : (q : Int) < (n : Int):=by omega
 have g2 : decide ((n : Int) ≤ (q : Int)) = false:=by simp; omega
 go_enter Tryz.func258,Tryz.ntmps258
 go_wp2_with fail;go_ret2;exact ⟨rfl,rfl⟩
theorem Df {a : Option Addr} {n cap : Nat} {z : Int} (hz : z < 0 ∨ (n : Int) ≤ z) (hn : n ≤ 1099511627776) :
  Calls Tryz.prog 258 #[.slice a n cap,.int .i64 z] w fun e w' => e = .returned (.tuple #[.int .u8 0,.bool false]) ∧ w' = w:=by
 by_cases g0 : z < 0
 ·have g1 : decide (z < 0) = true:=by simpa using g0
  go_enter Tryz.func258,Tryz.ntmps258
  go_wp2_with fail;go_ret2;exact ⟨rfl,rfl⟩
 ·have g1 : decide (z < 0) = false:=by simpa using g0
  have g2 : decide ((n : Int) ≤ z) = true:=by simp; omega
  go_enter Tryz.func258,Tryz.ntmps258
  go_wp2_with fail;go_ret2;exact ⟨rfl,rfl⟩
def eA (O : Nat → Int) (i : Nat) : List Int:=(stk O i).map (fun t : Nat => (t : Int)) ++ [-1]
def oth (O : Nat → Int) (n i : Nat) : Int:=if elF O n i = -1 then enF O n i else elF O n i + 1
theorem fw {O : Nat → Int} {n : Nat} (h : Good O n) (i : Nat) : enF O n i = enF O (n - 1) i:=by
 have e : n = n - 1 + 1:=by have:=h.1; omega
 conv => lhs; rw [e]
 exact pC h.2.2.2.2 i
theorem Cr {O : Nat → Int} {n : Nat} (h : Good O n) (i : Nat) : elF O n i = elF O (n - 1) i:=by
 have e : n = n - 1 + 1:=by have:=h.1; omega
 conv => lhs; rw [e]
 exact qq h.2.2.2.2 i
theorem Ci {O : Nat → Int} {n i : Nat} (h : Good O n) (hi : i < n) (h6 : O i ≠ 6) : i < n - 1:=by
 have h1:=h.2.2.2.1
 have : i ≠ n - 1:=fun e => h6 (e ▸ h1)
 omega
theorem Cx {O : Nat → Int} {n i : Nat} (h : Good O n) (hi : i < n) (hO : isO (O i) = true) : ∃ j : Nat,enF O n i = j ∧ i < j ∧ j < n - 1 ∧ O j = 6 ∧ stk O j = i :: stk O i ∧ elF O n i < j:=by
 have hiv:=lu h.2.1
 rcases hiv.opn i (Ci h hi (fx hO).2) hO with ⟨hm,_⟩ | ⟨_,j,h1,h2,h3,h4,h5,h6⟩
 ·rw [h.2.2.2.2] at hm; cases hm
 ·exact ⟨j,by rw [fw h]; exact h1,h2,h3,h4,h5,by rw [Cr h]; exact h6⟩
theorem lG {O : Nat → Int} {n i : Nat} (h : Good O n) : elF O n i = -1 ∨ ∃ j : Nat,elF O n i = j ∧ i < j ∧ j < n - 1 ∧ O i = 4 ∧ O j = 5 ∧ enF O n j = enF O n i:=by
 have hiv:=lu h.2.1
 rcases hiv.els i with h1 | ⟨j,h1,h2,h3,h4,h5,_,h7⟩
 ·exact .inl (by rw [Cr h]; exact h1)
 ·exact .inr ⟨j,by rw [Cr h]; exact h1,h2,h3,h4,h5,by rw [fw h,fw h]; exact h7⟩
theorem Dt {O : Nat → Int} {n i : Nat} (h : Good O n) (hi : i < n) (h5 : O i = 5) : elF O n i = -1 ∧ ∃ j : Nat,enF O n i = j ∧ i < j ∧ j < n - 1 ∧ O j = 6:=by
 have hiv:=lu h.2.1
 constructor
 ·rcases lG (i:=i) h with h1 | ⟨j,_,_,_,h4,_⟩
  ·exact h1
  ·omega
 ·obtain ⟨t,ht,hx⟩:=hiv.elp i (Ci h hi (by omega)) h5
  rcases hiv.els t with h1 | ⟨j,h1,h2,h3,h4,h5',_,h7⟩
  ·omega
  ·have e : j = i:=by omega
   subst e
   obtain ⟨q,q1,q2,q3,q4,q5,q6⟩:=Cx h (show t < n by omega) (aV.2 (by omega))
   refine ⟨q,?_,?_,q3,q4⟩
   ·rw [fw h,h7,← fw h]; exact q1
   ·rw [Cr h] at q6; omega
theorem qd (O : Nat → Int) : ∀ (k i t : Nat),(stk O i)[k]? = some t → stk O t = (stk O i).drop (k + 1)
 | 0,i,t,h => by
  rcases bH O i with h0 | ⟨u,_,_,h0⟩
  ·rw [h0] at h; simp at h
  ·rw [h0] at h ⊢
   simp at h
   subst h; rfl
 | k + 1,i,t,h => by
  rcases bH O i with h0 | ⟨u,_,_,h0⟩
  ·rw [h0] at h; simp at h
  ·rw [h0] at h
   simp only [List.getElem?_cons_succ] at h
   rw [h0,List.drop_succ_cons];exact qd O k u t h
theorem mU {O : Nat → Int} {i k : Nat} (hk : k < (stk O i).length) : (eA O i).getD k 0 = ((stk O i)[k] : Nat):=by
 unfold eA
 rw [List.getD_eq_getElem?_getD,List.getElem?_append_left (by simpa using hk)]
 simp [hk]
theorem gj (O : Nat → Int) (i : Nat) : (eA O i).getD (stk O i).length 0 = -1:=by
 unfold eA
 rw [List.getD_eq_getElem?_getD,List.getElem?_append_right (by simp)]
 simp
theorem iI (O : Nat → Int) (i k : Nat) (hk : k ≤ (stk O i).length) : top ((stk O i).drop k) = (eA O i).getD k 0:=by
 by_cases h : k < (stk O i).length
 ·rw [mU h,List.drop_eq_getElem_cons h]; rfl
 ·have e : k = (stk O i).length:=by omega
  subst e
  rw [gj,List.drop_length]; rfl
structure Jg where
 J : Nat
 L : Nat
 lc : Nat
 cb : Nat
 coff : Nat
 cc : Nat
 RB : Nat
 EN : Nat
 EL : Nat
 OW : Nat
 sb : Nat
 soff : Nat
 sc : Nat
 N : Nat
 m : MM
 R : ByteArray
 lo : List Int
 xs : List Inx
 sh : Nat → ByteArray
structure Jw (g : Jg) (w : World) : Prop where
 m0 : w.cell? ⟨g.J,0,none⟩ = some (.slice g.m.ta g.m.tn g.m.tc)
 m1 : w.cell? ⟨g.J,1,none⟩ = some (.slice g.m.ha g.m.hn g.m.hc)
 m2 : w.cell? ⟨g.J,2,none⟩ = some (.slice g.m.ga g.m.gn g.m.gc)
 m5 : w.cell? ⟨g.J,5,none⟩ = some (.slice g.m.fa g.m.fn g.m.fc)
 r : w.cell? ⟨g.J,8,none⟩ = some (.string g.R)
 l : w.cell? ⟨g.J,9,none⟩ = some (.slice (some ⟨g.L,0,none⟩) g.lo.length g.lc)
 c : w.cell? ⟨g.J,10,none⟩ = some (.slice (some ⟨g.cb,g.coff,none⟩) g.N g.cc)
 rw : w.cell? ⟨g.J,11,none⟩ = some (.slice (some ⟨g.RB,0,none⟩) g.N g.N)
 en : w.cell? ⟨g.J,12,none⟩ = some (.slice (some ⟨g.EN,0,none⟩) g.N g.N)
 el : w.cell? ⟨g.J,13,none⟩ = some (.slice (some ⟨g.EL,0,none⟩) g.N g.N)
 ow : w.cell? ⟨g.J,14,none⟩ = some (.slice (some ⟨g.OW,0,none⟩) g.N g.N)
 s : w.cell? ⟨g.J,15,none⟩ = some (.slice (some ⟨g.sb,g.soff,none⟩) g.N g.sc)
 lcs : ∀ (j : Nat) x,g.lo[j]? = some x → w.cell? ⟨g.L,j,none⟩ = some (.int .u8 x)
 cod : Cod w g.cb g.coff g.N g.xs
 rows : ∀ j,j < g.N → ∀ q,q < 6 → w.cell? ⟨g.RB,j * 6 + q,none⟩ = (rv (ofV (opF g.xs j)).1)[q]?
 enc : RI w g.EN g.N (enF (opF g.xs) g.N)
 elc : RI w g.EL g.N (elF (opF g.xs) g.N)
 owc : RI w g.OW g.N (owF (opF g.xs) g.N)
 shs : ∀ j,j < g.N → w.cell? ⟨g.sb,g.soff + j,none⟩ = some (.string (g.sh j))
 pt : ep w g.m.ta g.m.tn g.m.types
 ph : j6 w g.m.ha g.m.hn g.m.hosts
 pg : jW w g.m.ga g.m.gn g.m.globals
 pf : iP w g.m.fa g.m.fn g.m.fns
theorem Jw.later {g : Jg} {w w' : World} (h : Jw g w) (hb : Below w.heap.size w w') : Jw g w':=by
 have hk : Kept (fun _ => False) w w':=aB hb
 refine ⟨ae hb h.m0,ae hb h.m1,ae hb h.m2,ae hb h.m5,ae hb h.r,ae hb h.l,ae hb h.c,ae hb h.rw,ae hb h.en,ae hb h.el,ae hb h.ow,ae hb h.s,
  fun j x hj => ae hb (h.lcs j x hj),h.cod.later hb (Nat.le_refl _),fun j hj q hq => ?_,h.enc.kept hk id,h.elc.kept hk id,h.owc.kept hk id,fun j hj => ae hb (h.shs j hj),
  h.pt.kept hk (fun _ _ _ _ => id),h.ph.kept hk (fun _ _ _ _ => id),h.pg.kept hk (fun _ _ _ _ => id),h.pf.kept hk (fun _ _ _ _ => id)⟩
 have e:=h.rows j hj q hq
 obtain ⟨u,hu⟩ : ∃ u,(rv (ofV (opF g.xs j)).1)[q]? = some u:=by
  have : q < (rv (ofV (opF g.xs j)).1).size:=hq;exact ⟨_,Array.getElem?_eq_getElem this⟩
 rw [hu] at e ⊢;exact ae hb e
def dP (O : Nat → Int) (i : Nat) (a : Int) : Int × Bool:=if a < 0 then (top (stk O i),false) else if a ≤ (stk O i).length then ((eA O i).getD a.toNat 0,true) else (-1,false)
theorem Dd {O : Nat → Int} {i k : Nat} (hk : k < (stk O i).length) : ∃ t : Nat,(eA O i).getD k 0 = t ∧ t < i ∧ top (stk O t) = (eA O i).getD (k + 1) 0:=by
 have hs : (stk O i)[k]? = some (stk O i)[k]:=List.getElem?_eq_getElem hk;refine ⟨(stk O i)[k],mU hk,(CH O i _ (List.getElem_mem hk)).1,?_⟩
 rw [qd O k i _ hs,iI O i (k + 1) (by omega)]
section
variable {g : Jg} {w : World}
theorem xc (h : Jw g w) (hN : g.N ≤ 2048) {i : Nat} (hi : i < g.N) {a : Int} (a0 : -9223372036854775808 ≤ a) (a1 : a ≤ 9223372036854775807) :
  Calls Tryz.prog 263 #[.pointer (some ⟨g.J,0,none⟩),.int .i64 i,.int .i64 a] w fun e w' => e = .returned (.tuple #[.int .i64 (dP (opF g.xs) i a).1,.bool (dP (opF g.xs) i a).2]) ∧ w' = w:=by
 have o0:=h.ow
 have o1 : w.cell? ⟨g.OW,i,none⟩ = some (.int .i64 ((eA (opF g.xs) i).getD 0 0)):=by
  rw [h.owc.cell i hi]
  have : owF (opF g.xs) g.N i = (eA (opF g.xs) i).getD 0 0:=by
   unfold owF;rw [if_pos hi,← iI (opF g.xs) i 0 (Nat.zero_le _)];rfl
  rw [this]
 have HO:=hid h.owc
 have hi2 : (i : Int) < (g.N : Int):=by omega
 clear h;generalize g.N = N at *;generalize g.OW = OW at *;generalize g.J = J at *;generalize opF g.xs = O at *
 go_enter Tryz.func263,Tryz.ntmps263
 go_wp2_with fail;clear o1
 go_loopw [2,8] (fun nu op wr => ∃ k : Nat,k ≤ (stk O i).length ∧ nu = .int .i64 (a - k) ∧ op = .int .i64 ((eA O i).getD k 0) ∧ (k = 0 ∨ 0 ≤ a - k) ∧ wr = w) (fun nu _ _ => (intOf nu).toNat)
 case atStart => exact ⟨0,Nat.zero_le _,by simp,rfl,.inl rfl,rfl⟩
 case round =>
  obtain ⟨k,hk,rfl,rfl,hka,rfl⟩:=hrel
  by_cases g0 : 0 < a - k
  ·by_cases hkl : k < (stk O i).length
   ·obtain ⟨t,ht,hti,htop⟩:=Dd (O:=O) hkl
    have g1 : (((eA O i).getD k 0) != (-1 : Int)) = true:=by rw [ht]; simp
    have o1 : wr.cell? ⟨OW,t,none⟩ = some (.int .i64 ((eA O i).getD (k + 1) 0)):=by
     rw [HO.out.cell t (by omega)]
     have : owF O N t = (eA O i).getD (k + 1) 0:=by
      unfold owF
      rw [if_pos (by omega),htop]
     rw [this]
    have htN : (t : Int) < (N : Int):=by omega
    have HT:=hid ht;rw [ht] at g1 ⊢;obtain ⟨nx,hnx⟩ : ∃ nx,nx = (eA O i).getD (k + 1) 0:=⟨_,rfl⟩;have HNX:=hid hnx;rw [← hnx] at o1;clear hnx;clear ht htop hka;have HG:=hid g0
    have d0 : decide ((0 : Int) < a - k) = true:=by simpa using g0
    go_wp2_with fail
    exact ⟨⟨k + 1,by omega,by congr 1; omega,by rw [HNX.out],.inr (by omega),trivial⟩,by simp [intOf]; omega⟩
   ·have hke : k = (stk O i).length:=by omega
    have hl1 : (eA O i).getD k 0 = -1:=by rw [hke]; exact gj O i
    have hv : dP O i a = (-1,false):=by
     unfold dP
     rw [if_neg (by omega),if_neg (by omega)]
    have g1 : ((-1 : Int) != (-1 : Int)) = false:=rfl
    have g2 : (a - k == (0 : Int)) = false:=by simp; omega
    have d0 : decide ((0 : Int) < a - k) = true:=by simpa using g0
    rw [hl1];have HV:=hid hv;clear hl1 hv hka hke;go_wp2_with fail;go_ret2
    exact ⟨by rw [HV.out]; rfl,rfl⟩
  ·have d0 : decide ((0 : Int) < a - k) = false:=by simpa using g0
   have hv : dP O i a = ((eA O i).getD k 0,(a - k == (0 : Int))):=by
    unfold dP
    by_cases ha : a < 0
    ·have : k = 0:=by omega
     subst this;rw [if_pos ha,← iI O i 0 (Nat.zero_le _)]
     have : (a - (0 : Nat) == (0 : Int)) = false:=by simp; omega
     rw [this]; rfl
    ·have : a = k:=by omega
     rw [if_neg ha,if_pos (by omega),this]
     simp
   obtain ⟨ov,hov⟩ : ∃ ov,ov = (eA O i).getD k 0:=⟨_,rfl⟩;rw [← hov] at hv;rw [← hov];have HV:=hid hv;clear hv hka g0 hov
   have d1 : ¬ (0 : Int) < a - k:=by simpa using d0
   go_wp2_with fail;go_ret2
   exact ⟨by rw [HV.out]; rfl,rfl⟩
end
end Go.Proofs.YtepnnenohjfkbaaGreatDoor

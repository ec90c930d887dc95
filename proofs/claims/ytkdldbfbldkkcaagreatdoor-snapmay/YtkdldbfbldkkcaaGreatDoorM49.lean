/-
  Texts Mb Ml Laid.
-/
import Derived.ChangeArms
import Derived.FnData
import Derived.OpenShut
import Derived.Stop.LaidErr
import Derived.Test.YtkdldbfbldkkcaaGreatDoorM00
import Derived.Test.YtkdldbfbldkkcaaGreatDoorCards
import Derived.Test.YtkdldbfbldkkcaaGreatDoorM05
import Derived.Test.YtkdldbfbldkkcaaGreatDoorM07
import Derived.Test.YtkdldbfbldkkcaaGreatDoorM18
import Derived.Test.YtkdldbfbldkkcaaGreatDoorM47
import Derived.Test.YtkdldbfbldkkcaaGreatDoorM48
set_option linter.unusedVariables false
set_option maxRecDepth 100000
set_option maxHeartbeats 16000000
namespace Go.Proofs.YtkdldbfbldkkcaaGreatDoor
open Go.ChangeShapes Go.WideShapes Go.ChangeAt Go.RowKit
structure Raw (W : World) (m : MM) : Prop where
 t : dW W 2 Hv m.ta m.tn m.tc m.types
 tg : ∀ (j : Nat) x,m.types[j]? = some x → Jo W x
 h : dW W 1 (fun (z : Int) => [Value.int .i64 z]) m.ha m.hn m.hc m.hosts
 hg : ∀ (j : Nat) a,m.hosts[j]? = some a → -9223372036854775808 ≤ a ∧ a < 9223372036854775808
 g : dW W 3 FGl m.ga m.gn m.gc m.globals
 gg : ∀ (j : Nat) x,m.globals[j]? = some x → GGl W x
 i : -9223372036854775808 ≤ m.fi ∧ m.fi < 9223372036854775808
 o : -9223372036854775808 ≤ m.mo ∧ m.mo < 9223372036854775808
 f : dW W 3 FFu m.fa m.fn m.fc m.fns
 fg : ∀ (j : Nat) x,m.fns[j]? = some x → GFu W x
 d : dW W 2 FDa m.da m.dn m.dc m.data
 dg : ∀ (j : Nat) x,m.data[j]? = some x → GDa W x
 e : dW W 2 FEx m.ea m.en m.ec m.exps
 eg : ∀ (j : Nat) x,m.exps[j]? = some x → GEx W x
 top : ∀ a ∈ [m.ta,m.ha,m.ga,m.fa,m.da,m.ea],∀ b off s,a = some ⟨b,off,s⟩ → b < W.heap.size
def px (m : MM) : Prop:=qT m.types + kG m.fns + nZ m.data + mF m.exps ≤ 20000
theorem Di {l : List Nat} {x : Nat} (h : x ∈ l) : x ≤ l.sum:=by
 induction l with
 | nil => cases h
 | cons a l ih =>
  rcases List.mem_cons.1 h with rfl | h
  ·simp
  ·have:=ih h; simp; omega
theorem oX {α : Type} {f : α → Nat} {l : List α} {x : α} (h : x ∈ l) : f x ≤ (l.map f).sum:=Di (List.mem_map.2 ⟨x,h,rfl⟩)
theorem ve : ∀ (xs : List InM) (z : Nat),szG xs z ≤ 20000 → z ≤ 20000 ∧ ∀ x ∈ xs,x.2.2.1.2.1 ≤ 20000
 | [],z,h => ⟨h,fun x hx => by cases hx⟩
 | y :: r,z,h => by
  by_cases hz : z ≤ 2147483647
  ·rw [Bu hz] at h;obtain ⟨h1,h2⟩:=ve r _ h
   refine ⟨ae,fun x hx => ?_⟩
   rcases List.mem_cons.1 hx with rfl | hx
   ·omega
   ·exact h2 x hx
  ·rw [Ai hz] at h;omega
section
variable {W : World} {m : MM}
theorem dW.sig {a : Option Addr} {n cap : Nat} {xs : List Sg} (h : dW W 2 Hv a n cap xs) : i5 W a n xs :=
 ⟨h.len,h.at_.imp id fun ⟨b,off,e,hc⟩ => ⟨b,off,e,fun j x hj => ⟨hc j x hj 0 _ rfl,hc j x hj 1 _ rfl⟩⟩⟩
theorem dW.nu {a : Option Addr} {n cap : Nat} {xs : List Int} (h : dW W 1 (fun (z : Int) => [Value.int .i64 z]) a n cap xs) : pU W a n xs :=
 ⟨h.len,h.at_.imp id fun ⟨b,off,e,hc⟩ => ⟨b,off,e,fun j x hj => uJ⟩⟩
theorem dW.gl {a : Option Addr} {n cap : Nat} {xs : List Gl} (h : dW W 3 FGl a n cap xs) : na W a n xs :=
 ⟨h.len,h.at_.imp id fun ⟨b,off,e,hc⟩ => ⟨b,off,e,fun j x hj => ⟨hc j x hj 0 _ rfl,hc j x hj 1 _ rfl,hc j x hj 2 _ rfl⟩⟩⟩
theorem dW.fu {a : Option Addr} {n cap : Nat} {xs : List FuM} (h : dW W 3 FFu a n cap xs) : mZ W a n xs :=
 ⟨h.len,h.at_.imp id fun ⟨b,off,e,hc⟩ => ⟨b,off,e,fun j x hj => ⟨hc j x hj 0 _ rfl,hc j x hj 1 _ rfl,hc j x hj 2 _ rfl⟩⟩⟩
theorem dW.in_ {a : Option Addr} {n cap : Nat} {xs : List InM} (h : dW W 3 FIn a n cap xs) : AtIn W a n xs :=
 ⟨h.len,h.at_.imp id fun ⟨b,off,e,hc⟩ => ⟨b,off,e,fun j x hj => ⟨hc j x hj 0 _ rfl,hc j x hj 1 _ rfl,hc j x hj 2 _ rfl⟩⟩⟩
theorem dW.da {a : Option Addr} {n cap : Nat} {xs : List DaM} (h : dW W 2 FDa a n cap xs) : qq W a n xs :=
 ⟨h.len,h.at_.imp id fun ⟨b,off,e,hc⟩ => ⟨b,off,e,fun j x hj => ⟨hc j x hj 0 _ rfl,hc j x hj 1 _ rfl⟩⟩⟩
theorem dW.ex {a : Option Addr} {n cap : Nat} {xs : List Ex} (h : dW W 2 FEx a n cap xs) : qM W a n xs :=
 ⟨h.len,h.at_.imp id fun ⟨b,off,e,hc⟩ => ⟨b,off,e,fun j x hj => ⟨hc j x hj 0 _ rfl,hc j x hj 1 _ rfl⟩⟩⟩
theorem dW.segI {a : Option Addr} {n cap : Nat} {xs : List Int} (h : dW W 1 (fun (z : Int) => [Value.int .i64 z]) a n cap xs) (hr : ∀ (j : Nat) a,xs[j]? = some a → -9223372036854775808 ≤ a ∧ a < 9223372036854775808) (hn : n ≤ 20000) : jG W a n cap xs:=by
 refine ⟨h.len,h.cap_,ae,fun z hz => ?_,h.at_.imp id fun ⟨b,off,e,hc⟩ => ⟨b,off,e,fun j hj => ?_⟩⟩
 ·obtain ⟨j,hj⟩:=List.getElem?_of_mem hz
  have:=hr j z hj
  omega
 ·exact Hd
theorem dW.segB {a : Option Addr} {n cap : Nat} {xs : List Int} (h : dW W 1 (fun (z : Int) => [Value.int .u8 z]) a n cap xs) (hr : ∀ (j : Nat) a,xs[j]? = some a → 0 ≤ a ∧ a ≤ 255) (hn : n ≤ 20000) : Seg W a n cap xs:=by
 refine ⟨h.len,h.cap_,ae,fun z hz => ?_,h.at_.imp id fun ⟨b,off,e,hc⟩ => ⟨b,off,e,fun j hj => ?_⟩⟩
 ·obtain ⟨j,hj⟩:=List.getElem?_of_mem hz;exact hr j z hj
 ·exact Hd
theorem px.parts (h : px m) : (∀ (j : Nat) x,m.types[j]? = some x → x.1.size + x.2.size ≤ 20000) ∧ (∀ (j : Nat) x,m.fns[j]? = some x → x.2.1.size ≤ 20000 ∧ ∀ (i : Nat) y,x.2.2.2[i]? = some y → y.2.2.1.2.1 ≤ 20000) ∧ (∀ (j : Nat) x,m.data[j]? = some x → x.2.1.2.1 ≤ 20000) ∧ ∀ (j : Nat) x,m.exps[j]? = some x → x.1.size ≤ 20000:=by
 unfold px at h
 refine ⟨fun j x hj => ?_,fun j x hj => ?_,fun j x hj => ?_,fun j x hj => ?_⟩
 ·have : x.1.size + x.2.size ≤ qT m.types:=oX (f:=fun x : Sg => x.1.size + x.2.size) (List.mem_of_getElem? hj)
  omega
 ·have : x.2.1.size + szG x.2.2.2 x.2.2.1.2.1 ≤ kG m.fns:=oX (f:=fun x : FuM => x.2.1.size + szG x.2.2.2 x.2.2.1.2.1) (List.mem_of_getElem? hj)
  exact ⟨ae,fun i y hi => (ve x.2.2.2 x.2.2.1.2.1 ae).2 y (List.mem_of_getElem? hi)⟩
 ·have : x.2.1.2.1 ≤ nZ m.data:=oX (f:=fun x : DaM => x.2.1.2.1) (List.mem_of_getElem? hj)
  omega
 ·have : x.1.size ≤ mF m.exps:=oX (f:=fun x : Ex => x.1.size) (List.mem_of_getElem? hj)
  omega
theorem Raw.ok (h : Raw W m) (hs : px m) : ∀ R g,W.heap.size ≤ R → W.heap.size ≤ g → MOk W R g m:=by
 intro R g hR hg;obtain ⟨s1,s2,s3,s4⟩:=hs.parts
 have far : ∀ a ∈ [m.ta,m.ha,m.ga,m.fa,m.da,m.ea],Far W R g a:=fun a ha b off c hb => by have:=h.top a ha b off c hb; omega
 have farN : ∀ {a : Option Addr} {n : Nat},(∀ b off s,nz n a = some ⟨b,off,s⟩ → b < W.heap.size) → Far W R g (nz n a):=fun hl b off c hb => by have:=hl b off c hb; omega
 refine ⟨h.t.sig,far _ au,h.h.nu,far _ au,h.hg,h.g.gl,far _ au,h.gg,h.i.1,h.i.2,h.o.1,h.o.2,h.f.fu,far _ au,fun j x hj => ?_,h.d.da,far _ au,fun j x hj => ?_,h.e.ex,far _ au,fun j x hj => (h.eg j x hj).2⟩
 ·obtain ⟨q1,q2,q3,q4⟩:=h.fg j x hj
  refine ⟨q1,q3.in_,farN q3.lt,fun i y hi => ?_⟩
  obtain ⟨r1,r2,r3,r4⟩:=q4 i y hi;exact ⟨r1,r2,r3.segI r4 ((s2 j x hj).2 i y hi),farN r3.lt⟩
 ·obtain ⟨q1,q2,q3⟩:=h.dg j x hj;exact ⟨q1,q2.segB q3 (s3 j x hj),farN q2.lt⟩
theorem Raw.szc (h : Raw W m) : SzC W m :=
 ⟨h.t.big,h.h.big,h.g.big,h.f.big,h.d.big,h.e.big,h.tg,fun j x hj => by
  obtain ⟨q1,q2,q3,q4⟩:=h.fg j x hj
  exact ⟨q2,q3.big,q3.in_,fun i y hi => (q4 i y hi).2.2.1.big⟩,fun j x hj => (h.dg j x hj).2.1.big,fun j x hj => (h.eg j x hj).1⟩
theorem Raw.cap (h : Raw W m) : ∀ x ∈ m.fns,x.2.2.1.2.1 ≤ x.2.2.1.2.2:=fun x hx => by
 obtain ⟨j,hj⟩:=List.getElem?_of_mem hx;exact (h.fg j x hj).2.2.1.cap_
theorem Raw.later {W' : World} (h : Raw W m) (hb : Below W.heap.size W W') : SzC W' m ∧ i5 W' m.ta m.tn m.types ∧ mZ W' m.fa m.fn m.fns ∧ qq W' m.da m.dn m.data ∧ qM W' m.ea m.en m.exps:=by
 have hk : Kept (fun _ => False) W W':=aX hb
 have z:=h.szc
 exact ⟨⟨z.tn,z.hn,z.gn,z.fn,z.dn,z.en,z.t,fun j x hj => ⟨(z.f j x hj).1,(z.f j x hj).2.1,(z.f j x hj).2.2.1.kept hk (fun _ _ _ _ => id),(z.f j x hj).2.2.2⟩,z.d,z.e⟩,h.t.sig.kept hk (fun _ _ _ _ => id),h.f.fu.kept hk (fun _ _ _ _ => id),h.d.da.kept hk (fun _ _ _ _ => id),h.e.ex.kept hk (fun _ _ _ _ => id)⟩
end
section
variable {H : Type} {enc : TypeId × Value → H} {W : World}
theorem Iq {r : Reach} {base : Nat} {u : TypeId} {a : Addr} {n c : Nat} (h : Cell.okWide Tryz.prog W r base u (.slice (some a) n c)) : a.block < W.heap.size:=by
 unfold Cell.okWide at h
 cases hu : Tryz.prog.underlying u with
 | none => simp [hu,Cell.ok] at h
 | some d =>
  cases d <;> simp [hu,Cell.ok] at h
  obtain ⟨_,_,_,_,row,cells,hsh,_⟩:=h;unfold World.shape? at hsh
  rcases Nat.lt_or_ge a.block W.heap.size with hl | hl
  ·exact hl
  ·rw [Array.getElem?_eq_none hl] at hsh; cases hsh
theorem wo {base : Nat} {v : Value} {d : DataW H} {ps : List MemPlace} (hval : Value.okWide Tryz.prog W .any base 29 v) (h : DataW.Trod enc Tryz.prog W 0 (fun _ => true) true 29 v d ps) (hw : ∀ n ∈ d.weights Tryz.prog 29,n ≤ reachBytes) :
  ∃ m : MM,v = .agg (mV m) ∧ Raw W m:=by
 have hval':=hval;obtain ⟨cs,rfl,hsz⟩:=okWide_struct Tryz.underlying29 hval;obtain ⟨fuel,hf⟩:=h;obtain ⟨ta,tn,tc,ts,ha,hn,hc,hs,ga,gn,gc,gs,fi,mo,fa,fn,fc,fs,da,dn,dc,ds,ea,en,ec,es,hcs,⟨t1,t2⟩,⟨h1,h2⟩,⟨g1,g2⟩,i1,o1,⟨f1,f2⟩,⟨d1,d2⟩,e1,e2⟩:=FK hf hw;have e : cs.toList = [.slice ta tn tc,.slice ha hn hc,.slice ga gn gc,.int .i64 fi,.int .i64 mo,.slice fa fn fc,.slice da dn dc,.slice ea en ec]:=hcs
 have ec' : cs = #[.slice ta tn tc,.slice ha hn hc,.slice ga gn gc,.int .i64 fi,.int .i64 mo,.slice fa fn fc,.slice da dn dc,.slice ea en ec]:=by
  apply Array.toList_inj.1
  rw [e]
 refine ⟨⟨ta,tn,tc,ts,ha,hn,hc,hs,ga,gn,gc,gs,fi,mo,fa,fn,fc,fs,da,dn,dc,ds,ea,en,ec,es⟩,by rw [ec']; rfl,⟨t1,t2,h1,h2,g1,g2,i1,o1,f1,f2,d1,d2,e1,e2,?_⟩⟩
 obtain ⟨cs',hv,_,⟨tt,htt,_,hall⟩⟩ : ∃ cs',Value.agg cs = .agg cs' ∧ cs'.size = Tryz.prog.cellsOf 29 ∧ Row.okWide Tryz.prog W .any base 29 cs':=by
  have:=hval'
  simp only [Value.okWide,Tryz.underlying29] at this
  exact this
 injection hv with hv
 subst hv
 have look : ∀ (i : Nat) a n c,cs[i]? = some (.slice (some a) n c) → a.block < W.heap.size:=fun i a n c hi => by
  obtain ⟨u,_,hu⟩:=hall i _ hi;exact Iq hu
 rw [ec'] at look;intro a hm b off s hb;subst hb
 simp only [List.mem_cons,List.not_mem_nil,or_false] at hm
 rcases hm with hm | hm | hm | hm | hm | hm
 ·exact look 0 ⟨b,off,s⟩ tn tc nk
 ·exact look 1 ⟨b,off,s⟩ hn hc nk
 ·exact look 2 ⟨b,off,s⟩ gn gc nk
 ·exact look 5 ⟨b,off,s⟩ fn fc nk
 ·exact look 6 ⟨b,off,s⟩ dn dc nk
 ·exact look 7 ⟨b,off,s⟩ en ec nk
end
open Go.RowKit
theorem OC (m : MM) (s : StM) (w : World) (hk : bf w) (hp : 0 < w.heap.size) (hr : Raw w m) (hs : SSt w s) (ms : SM s) (ys : BY s) (rs : SR s) (gs : RgS s) (hfc : s.fn ≤ s.fc) :
  Calls Tryz.prog 3 #[.agg (mV m),.agg (bW s)] w fun e w' => e = .returned (.bool true) ∧ Below w.heap.size w w':=by
 have b1:=aj w (.cells (mV m) 29);have b2:=b1.trans ((aj (w.alloc (.cells (mV m) 29)) (stO s)).mono b1.size);have k1 : ((w.alloc (.cells (mV m) 29)).alloc (stO s)).heap[w.heap.size]? = some (aR m.ta m.tn m.tc m.ha m.hn m.hc m.ga m.gn m.gc m.fi m.mo m.fa m.fn m.fc m.da m.dn m.dc m.ea m.en m.ec):=bg (aj (w.alloc (.cells (mV m) 29)) (stO s)) (cU w (.cells (mV m) 29));have k2 : ((w.alloc (.cells (mV m) 29)).alloc (stO s)).heap[w.heap.size + 1]? = some (stO s):=vX au
 have HC:=hid (fun (W : World) (hb : Below ((w.alloc (.cells (mV m) 29)).alloc (stO s)).heap.size ((w.alloc (.cells (mV m) 29)).alloc (stO s)) W) => (⟨ag hb (ai k1),ag hb (ai k1),ag hb (ai k1),ag hb (ai k1),ag hb (ai k1),ag hb (ai k1),ag hb (ai k1),ag hb (ai k1),ag hb (ai k2),ag hb (ai k2),ag hb (ai k2),ag hb (ai k2),ag hb (ai k2),ag hb (ai k2),ag hb (ai k2),ag hb (ai k2)⟩ : W.cell? ⟨w.heap.size,0,none⟩ = some (.slice m.ta m.tn m.tc) ∧ W.cell? ⟨w.heap.size,1,none⟩ = some (.slice m.ha m.hn m.hc) ∧ W.cell? ⟨w.heap.size,2,none⟩ = some (.slice m.ga m.gn m.gc) ∧ W.cell? ⟨w.heap.size,3,none⟩ = some (.int .i64 m.fi) ∧ W.cell? ⟨w.heap.size,4,none⟩ = some (.int .i64 m.mo) ∧ W.cell? ⟨w.heap.size,5,none⟩ = some (.slice m.fa m.fn m.fc) ∧ W.cell? ⟨w.heap.size,6,none⟩ = some (.slice m.da m.dn m.dc) ∧ W.cell? ⟨w.heap.size,7,none⟩ = some (.slice m.ea m.en m.ec) ∧ W.cell? ⟨w.heap.size + 1,0,none⟩ = some (.slice s.fa s.fn s.fc) ∧ W.cell? ⟨w.heap.size + 1,1,none⟩ = some (.slice s.ga s.gn s.gc) ∧ W.cell? ⟨w.heap.size + 1,2,none⟩ = some (.slice s.pa s.pn s.pc) ∧ W.cell? ⟨w.heap.size + 1,3,none⟩ = some (.int .i64 s.rep) ∧ W.cell? ⟨w.heap.size + 1,4,none⟩ = some (.int .i8 s.en) ∧ W.cell? ⟨w.heap.size + 1,5,none⟩ = some (.slice s.ra s.rn s.rc) ∧ W.cell? ⟨w.heap.size + 1,6,none⟩ = some (.int .i8 s.tr) ∧ W.cell? ⟨w.heap.size + 1,7,none⟩ = some (.int .i64 s.us)))
 have HS:=hid (fun (W : World) (hb : Below ((w.alloc (.cells (mV m) 29)).alloc (stO s)).heap.size ((w.alloc (.cells (mV m) 29)).alloc (stO s)) W) => (hs.later b2).later hb)
 have HK:=hid (fun (W : World) (hb : Below w.heap.size w W) => And.intro (hk.later hb hp) (Nat.lt_of_lt_of_le hp hb.size))
 have HR:=hid (fun (W : World) (hb : Below w.heap.size w W) => hr.later hb)
 have HM:=hid (fun (hsm : px m) (W : World) (hb : Below w.heap.size w W) (R g : Nat) (h1 : W.heap.size ≤ R) (h2 : W.heap.size ≤ g) => ((hr.ok hsm) R g (Nat.le_trans hb.size h1) (Nat.le_trans hb.size h2)).later hb)
 have HCP:=hid hr.cap;have HW:=hid (Lq ((w.alloc (.cells (mV m) 29)).alloc (stO s)));have HB2:=hid b2;have HFC:=hid hfc;have HMV : (w.alloc (aR m.ta m.tn m.tc m.ha m.hn m.hc m.ga m.gn m.gc m.fi m.mo m.fa m.fn m.fc m.da m.dn m.dc m.ea m.en m.ec)) = w.alloc (.cells (mV m) 29):=rfl;clear b1 b2 k1 k2 hs hk hr hfc
 show Calls Tryz.prog 3 #[.agg #[.slice m.ta m.tn m.tc,.slice m.ha m.hn m.hc,.slice m.ga m.gn m.gc,.int .i64 m.fi,.int .i64 m.mo,.slice m.fa m.fn m.fc,.slice m.da m.dn m.dc,.slice m.ea m.en m.ec],.agg (bW s)] w _
 go_enter Tryz.func3,Tryz.ntmps3
 go_wp2_with fail;clear HMV;generalize (w.alloc (.cells (mV m) 29)).alloc (stO s) = W2 at *;refine HW.out.mono ?_;rintro e w3 ⟨rfl,hb3⟩;obtain ⟨c0,c1,c2,c3,c4,c5,c6,c7,c8,c9,c10,c11,c12,c13,c14,c15⟩:=HC.out _ hb3;have B3:=hid hb3;have Z1:=hid (Nl s w3 (HS.out w3 hb3) ms);clear hb3 HW;go_wp2_with fail;refine Z1.out.mono ?_;rintro e w4 ⟨z1,rfl,hz1,hb4⟩;have B4:=hid (B3.out.trans (hb4.mono B3.out.size));have HZ1:=hid hz1;clear c0 c1 c2 c3 c4 c5 c6 c7 c8 c9 c10 c11 c12 c13 c14 c15;obtain ⟨c0,c1,c2,c3,c4,c5,c6,c7,c8,c9,c10,c11,c12,c13,c14,c15⟩:=HC.out _ B4.out;clear hb4 Z1 hz1
 by_cases q1 : 1048576 < z1
 ·have q1' : (1048576 : Int) < (z1 : Int):=ae;go_wp2_with fail;go_ret;exact ⟨rfl,HB2.out.trans (B4.out.mono HB2.out.size)⟩
 have q1' : ¬ (1048576 : Int) < (z1 : Int):=ae;have SCS:=hid (HZ1.out ae);have SBS:=hid (Nf SCS.out ys);obtain ⟨a1,a2,a3,a4,a5⟩:=HR.out w4 (HB2.out.trans (B4.out.mono HB2.out.size));have H9:=L4 m w4 a1 a2 a3 a4 a5;unfold mV at H9;have Z2:=hid H9;clear H9 a1 a2 a3 a4 a5;go_wp2_with fail;refine Z2.out.mono ?_;rintro e w5 ⟨z2,rfl,hb5,hz2⟩;have B5:=hid (B4.out.trans (hb5.mono B4.out.size));have HZ2:=hid hz2;clear c0 c1 c2 c3 c4 c5 c6 c7 c8 c9 c10 c11 c12 c13 c14 c15;obtain ⟨c0,c1,c2,c3,c4,c5,c6,c7,c8,c9,c10,c11,c12,c13,c14,c15⟩:=HC.out _ B5.out;clear hb5 Z2 hz2
 by_cases q2 : 20000 < z2
 ·have q2' : (20000 : Int) < (z2 : Int):=ae;go_wp2_with fail;go_ret;exact ⟨rfl,HB2.out.trans (B5.out.mono HB2.out.size)⟩
 have q2' : ¬ (20000 : Int) < (z2 : Int):=ae;have HSM:=hid (show px m from HZ2.out ae);have G5:=hid (HB2.out.trans (B5.out.mono HB2.out.size))
 have hC:=DR m s w5 (HK.out w5 G5.out).1 (HK.out w5 G5.out).2 (fun W hb R g h1 h2 => HM.out HSM.out W (G5.out.trans (hb.mono G5.out.size)) R g h1 h2) HCP.out (HS.out w5 B5.out) ⟨by have:=SCS.out.f; omega,by have:=SCS.out.r; omega,by have:=SCS.out.p; omega,fun x hx => by have:=SCS.out.pb x hx; omega,HFC.out⟩ (fun x hx => by have:=SCS.out.fb x hx; omega) gs
 unfold mV at hC;have CK:=hid hC;clear hC HM HSM HCP HR HZ1 HZ2;go_wp2_with fail;refine CK.out.mono ?_;rintro e w6 ⟨hb6,E,pl,rfl,hE⟩;have B6:=hid (B5.out.trans (hb6.mono B5.out.size));have HE0:=hid hE;clear c0 c1 c2 c3 c4 c5 c6 c7 c8 c9 c10 c11 c12 c13 c14 c15;obtain ⟨c0,c1,c2,c3,c4,c5,c6,c7,c8,c9,c10,c11,c12,c13,c14,c15⟩:=HC.out _ B6.out;clear hb6 CK hE
 by_cases q3 : E = 0
 rotate_left
 ·have q3' : (E == 0) = false:=by simpa using q3
  have q3'' : (E != 0) = true:=by simpa using q3
  go_wp2_with fail;go_ret;exact ⟨rfl,HB2.out.trans (B6.out.mono HB2.out.size)⟩
 have OKS:=hid (HE0.out q3);subst q3;clear HE0;have WV:=hid (NI OKS.out gs)
 have BA:=hid (show (wrV s).2 = false by rw [WV.out])
 have WS:=hid (Ei s w6 (HS.out w6 B6.out) SBS.out rs);go_wp2_with fail;refine WS.out.mono ?_;rintro e w7 h7;have hb7:=h7.1;have B7:=hid (B6.out.trans (hb7.mono B6.out.size))
 rcases h7.2 with ⟨ba',_⟩ | ⟨_,A,ca,rfl,sa,hlo⟩
 ·rw [BA.out] at ba'; cases ba'
 have hlen:=vB s BA.out gs
 have hcap : (wrV s).1.length ≤ ca:=by
  rcases sa with h | h
  ·obtain ⟨_,_,hle,_⟩:=h.block;exact hle
  ·omega
 have sg:=SI.seg (sa.si rfl) hcap ae (MJ BA.out gs ys);have RA:=hid (II (some ⟨A,0,none⟩) _ ca (wrV s).1 w7 sg);have LN:=hid hlen;clear hb7 h7 WS sg hcap sa hlo hlen;clear c0 c1 c2 c3 c4 c5 c6 c7 c8 c9 c10 c11 c12 c13 c14 c15;obtain ⟨N,hN⟩ : ∃ N,(wrV s).1.length = N:=⟨_,rfl⟩;rw [hN] at RA LN ⊢;clear hN
 have hle : (N : Int) ≤ 524288:=by have:=LN.out.2; omega
 go_wp2_with fail;refine RA.out.mono ?_;rintro e w8 h8;obtain ⟨hb8,y,rfl,y1,y2,y3⟩:=LS BA.out gs ys h8;have b9:=aj w8 (stO y);have B8:=hid (B7.out.trans (hb8.mono B7.out.size));have B9:=hid (B8.out.trans (b9.mono B8.out.size));have ky:=cU w8 (stO y);have HE:=hid (ND y s (w8.alloc (stO y)) (y1.later b9) (HS.out _ B9.out) y2 SBS.out);rw [y3] at HE;have d0:=ai (i:=0) ky;have d1:=ai (i:=1) ky;have d2:=ai (i:=2) ky;have d3:=ai (i:=3) ky;have d4:=ai (i:=4) ky;have d5:=ai (i:=5) ky;have d6:=ai (i:=6) ky;have d7:=ai (i:=7) ky;obtain ⟨c0,c1,c2,c3,c4,c5,c6,c7,c8,c9,c10,c11,c12,c13,c14,c15⟩:=HC.out _ B9.out;clear b9 ky y1 y2 y3 hb8 h8 RA;go_wp2_with fail;refine HE.out.mono ?_;rintro e w10 ⟨rfl,hb10⟩;go_wp2_with fail;go_ret;exact ⟨rfl,HB2.out.trans ((B9.out.trans (hb10.mono B9.out.size)).mono HB2.out.size)⟩
theorem Tryz.cells227 : Tryz.prog.cellsOf 227 = 4:=ak
theorem Tryz.cells228 : Tryz.prog.cellsOf 228 = 28:=ak
theorem Tryz.cells5 : Tryz.prog.cellsOf 5 = 1:=ak
theorem Tryz.cells9 : Tryz.prog.cellsOf 9 = 1:=ak
theorem Tryz.kindsAt : Tryz.prog.globalNamed "flagon/ops.kinds" = some 0:=ak
theorem Tryz.kindsType : (Tryz.prog.globals[0]?).map (·.type) = some 228:=ak
theorem Ns {α : Type} : ∀ (l : List α),l.length = 4 → ∃ a b c d,l = [a,b,c,d]
 | [a,b,c,d],_ => ⟨a,b,c,d,rfl⟩
theorem OI {α : Type} : ∀ (l : List α),l.length = 7 → ∃ a b c d e f g,l = [a,b,c,d,e,f,g]
 | [a,b,c,d,e,f,g],_ => ⟨a,b,c,d,e,f,g,rfl⟩
theorem eH {H : Type} {enc : TypeId × Value → H} {w : World} {base : Nat} {sp : Nat → Bool} {held : Bool} {fuel : Nat} {cs : List Value} {f l : Int} {a s : List UInt8} {p : List MemPlace}
  (h : DataW.trod enc Tryz.prog w base sp held fuel 227 cs = some (.agg [.lit (.int .u8 f),.lit (.int .u8 l),.lit (.string a),.lit (.string s)],p)) :
  cs = [.int .u8 f,.int .u8 l,.string ⟨a.toArray⟩,.string ⟨s.toArray⟩]:=by
 obtain ⟨xs,n,_,hx,hl,hxl,hel⟩:=DataW.trod_struct Tryz.underlying227 h;rw [Tryz.cells227] at hl;obtain ⟨c0,c1,c2,c3,rfl⟩:=Ns cs hl;obtain ⟨x0,x1,x2,x3,rfl⟩:=Ns xs hxl;have e:=congrArg Prod.fst hx
 simp only [List.map_cons,List.map_nil,DataW.agg.injEq,List.cons.injEq,and_true] at e
 obtain ⟨e0,e1,e2,e3⟩:=e;have h0 : DataW.trod enc Tryz.prog w base sp held n 5 (([c0,c1,c2,c3].drop 0).take (Tryz.prog.cellsOf 5)) = some x0:=hel 0 _ rfl;have h1 : DataW.trod enc Tryz.prog w base sp held n 5 (([c0,c1,c2,c3].drop 1).take (Tryz.prog.cellsOf 5)) = some x1:=hel 1 _ rfl;have h2 : DataW.trod enc Tryz.prog w base sp held n 9 (([c0,c1,c2,c3].drop 2).take (Tryz.prog.cellsOf 9)) = some x2:=hel 2 _ rfl;have h3 : DataW.trod enc Tryz.prog w base sp held n 9 (([c0,c1,c2,c3].drop 3).take (Tryz.prog.cellsOf 9)) = some x3:=hel 3 _ rfl;rw [Tryz.cells5] at h0 h1;rw [Tryz.cells9] at h2 h3;obtain ⟨n0,g0,k0,_⟩:=DataW.trod_int Tryz.underlying5 h0;obtain ⟨n1,g1,k1,_⟩:=DataW.trod_int Tryz.underlying5 h1;obtain ⟨s2,g2,k2,_⟩:=DataW.trod_string Tryz.underlying9 h2;obtain ⟨s3,g3,k3,_⟩:=DataW.trod_string Tryz.underlying9 h3;clear hel h hx h0 h1 h2 h3;rw [k0] at e0;rw [k1] at e1;rw [k2] at e2;rw [k3] at e3
 simp only [DataW.lit.injEq,Lit.int.injEq,true_and,Lit.string.injEq] at e0 e1 e2 e3
 simp only [List.drop_zero,List.drop_succ_cons,List.take_succ_cons,List.take_zero,List.cons.injEq,and_true] at g0 g1 g2 g3
 rw [g0,g1,g2,g3,e0,e1,e2,e3]
theorem chunks (l : List Value) (h : l.length = 28) : l = l.take 4 ++ ((l.drop 4).take 4 ++ ((l.drop 8).take 4 ++ ((l.drop 12).take 4 ++ ((l.drop 16).take 4 ++ ((l.drop 20).take 4 ++ (l.drop 24).take 4))))):=by
 have e : ∀ n,l.drop n = (l.drop n).take 4 ++ l.drop (n + 4):=fun n => by
  have:=(List.take_append_drop 4 (l.drop n)).symm
  rwa [List.drop_drop] at this
 have e6 : l.drop 24 = (l.drop 24).take 4:=by rw [List.take_of_length_le aI]
 have e5:=e 20; have e4:=e 16; have e3:=e 12; have e2:=e 8; have e1:=e 4; have e0:=e 0
 simp only [List.drop_zero,Nat.zero_add,Nat.reduceAdd] at e0 e1 e2 e3 e4 e5
 rw [← e6,← e5,← e4,← e3,← e2,← e1,← e0]
theorem qZ {W : World} {rest : List (String × DataW Unit)} (h : laidMet Tryz.prog (("flagon/ops.kinds",Rows.laid_flagon_ops_kinds) :: rest) W) : bf W:=by
 obtain ⟨ps,⟨g',t',cs,fuel,p,q,hg',ht',hvar,hd,_,_⟩,_⟩:=h;obtain rfl:=Option.some.inj (Tryz.kindsAt.symm.trans hg');obtain rfl:=Option.some.inj (Tryz.kindsType.symm.trans ht');obtain ⟨xs,n,_,hx,hl,hxl,hel⟩:=DataW.trod_array Tryz.underlying228 hd;rw [Tryz.cells228] at hl;obtain ⟨x0,x1,x2,x3,x4,x5,x6,rfl⟩:=OI xs hxl;have e:=congrArg Prod.fst hx
 simp only [Rows.laid_flagon_ops_kinds,List.map_cons,List.map_nil,DataW.agg.injEq,List.cons.injEq,and_true] at e
 obtain ⟨e0,e1,e2,e3,e4,e5,e6⟩:=e;have h0:=hel 0 ax; have h1:=hel 1 ax; have h2:=hel 2 ax; have h3:=hel 3 ax; have h4:=hel 4 ax; have h5:=hel 5 ax; have h6:=hel 6 ax
 simp only [Tryz.cells227,Nat.reduceMul,List.drop_zero,List.getElem?_cons_zero,List.getElem?_cons_succ] at h0 h1 h2 h3 h4 h5 h6
 obtain ⟨d0,p0⟩:=x0; obtain ⟨d1,p1⟩:=x1; obtain ⟨d2,p2⟩:=x2; obtain ⟨d3,p3⟩:=x3; obtain ⟨d4,p4⟩:=x4; obtain ⟨d5,p5⟩:=x5; obtain ⟨d6,p6⟩:=x6
 simp only at e0 e1 e2 e3 e4 e5 e6
 subst e0 e1 e2 e3 e4 e5 e6
 have hcs : cs.toList = mN:=by
  rw [chunks _ hl,eH h0,eH h1,eH h2,eH h3,eH h4,eH h5,eH h6];rfl
 intro j v hj;rw [World.var?_cell Tryz.kindsAt hvar j,← Array.getElem?_toList,hcs];exact hj
end Go.Proofs.YtkdldbfbldkkcaaGreatDoor

/-
  Texts Rk Ju Yh.
-/
import Derived.Test.YtepnnenohjfkbaaGreatDoorP00
import Derived.Test.YtepnnenohjfkbaaGreatDoorP16
import Derived.Test.YtepnnenohjfkbaaGreatDoorP23
import Derived.Test.YtepnnenohjfkbaaGreatDoorP26
import Derived.Test.YtepnnenohjfkbaaGreatDoorP35
import Derived.Test.YtepnnenohjfkbaaGreatDoorP36
import Derived.Test.YtepnnenohjfkbaaGreatDoorP37
set_option linter.unusedVariables false
set_option maxRecDepth 100000
set_option maxHeartbeats 16000000
namespace Go.Proofs.YtepnnenohjfkbaaGreatDoor
open Go.RowKit
structure Szs (m : MM) : Prop where
 tn : m.tn ≤ 100000
 hn : m.hn ≤ 100000
 gn : m.gn ≤ 100000
 fn : m.fn ≤ 100000
 dn : m.dn ≤ 100000
 en : m.en ≤ 100000
 t : ∀ (j : Nat) x,m.types[j]? = some x → x.1.size ≤ 100000 ∧ x.2.size ≤ 100000
 f : ∀ (j : Nat) x,m.fns[j]? = some x → x.2.1.size ≤ 100000 ∧ x.2.2.1.2.1 ≤ 100000
 d : ∀ (j : Nat) x,m.data[j]? = some x → x.2.1.2.1 ≤ 100000
 e : ∀ (j : Nat) x,m.exps[j]? = some x → x.1.size ≤ 100000
theorem Gx (m : MM) : dQ m = orE (orE (e1 m) (e2 m)) (orE (orE (e3 m) (orE (e4 m) (e5 m))) (orE (e6 m) (orE (e7 m) (e8 m)))):=by
 unfold dQ orE
 by_cases h1 : e1 m = 0 <;> by_cases h2 : e2 m = 0 <;> by_cases h3 : e3 m = 0 <;> by_cases h4 : e4 m = 0 <;> by_cases h5 : e5 m = 0 <;> simp [h1,h2,h3,h4,h5]
theorem J7 (m : MM) (w : World) (hm : MOk w w.heap.size w.heap.size m) (hz : Szs m) :
  Calls Tryz.prog 154 #[.agg (mV m)] w fun e w' => e = .returned (.int .i64 (dQ m)) ∧ Below w.heap.size w w':=by
 have HM:=hid (fun (W : World) (hb : Below w.heap.size w W) => hm.later hb)
 have C1:=hid (fun (W : World) (hb : Below w.heap.size w W) => sw m W (HM.out W hb).pt (HM.out W hb).ph (HM.out W hb).hr (fun j x hj => ⟨by have:=(hz.t j x hj).1; omega,by have:=(hz.t j x hj).2; omega⟩) (by have:=hz.tn; omega) (by have:=hz.hn; omega))
 have C2:=hid (fun (W : World) (hb : Below w.heap.size w W) => pC m W (HM.out W hb).pg (HM.out W hb).gr (HM.out W hb).i0 (HM.out W hb).i1 (HM.out W hb).o0 (HM.out W hb).o1 (by have:=hz.gn; omega))
 have C3:=hid (fun (h1 : e1 m = 0) (W : World) (hb : Below w.heap.size w W) => yU m W (HM.out W hb).pt (fun j x hj => (di (fe h1 j x hj)).1) (by have:=hz.tn; omega) (HM.out W hb).pf (by have:=hz.fn; omega) (fun j x hj => ⟨((HM.out W hb).fr j x hj).1,((HM.out W hb).fr j x hj).2.1,by have:=(hz.f j x hj).1; omega,by have:=(hz.f j x hj).2; omega,fun i y hi => ⟨(((HM.out W hb).fr j x hj).2.2.2 i y hi).1,(((HM.out W hb).fr j x hj).2.2.2 i y hi).2.1,(((HM.out W hb).fr j x hj).2.2.2 i y hi).2.2.1⟩⟩))
 have C4:=hid (fun (h4 : e4 m = 0) (W : World) (hb : Below w.heap.size w W) => uK m W (HM.out W hb).pd (fun j x hj => ⟨((HM.out W hb).dr j x hj).1,((HM.out W hb).dr j x hj).2.1.1.symm,by have:=hz.d j x hj; omega⟩) (by have:=hz.dn; omega) Br Br (HM.out W hb).pe (fun j x hj => ⟨(HM.out W hb).er j x hj,by have:=hz.e j x hj; omega⟩) (by have:=hz.en; omega) (by have:=hz.fn; omega))
 have HC:=hid (Gx m)
 have HP1:=hid (fun (h : orE (e1 m) (e2 m) = 0) => (cf h).1)
 have HP4:=hid (fun (h : orE (e3 m) (orE (e4 m) (e5 m)) = 0) => (cf (cf h).2).1)
 unfold mV at C1 C2 C3 C4;clear hm hz;have B0:=aj w (.cells (mV m) 29);have b0:=heap_alloc_new w (.cells (mV m) 29);have HW : w.alloc (bD m.ta m.tn m.tc m.ha m.hn m.hc m.ga m.gn m.gc m.fi m.mo m.fa m.fn m.fc m.da m.dn m.dc m.ea m.en m.ec) = w.alloc (.cells (mV m) 29):=rfl;generalize w.alloc (.cells (mV m) 29) = W0 at *;have HB:=hid (Below.refl W0.heap.size W0);have HB0:=hid B0
 have HX:=hid (fun (W : World) (hb : Below W0.heap.size W0 W) => (⟨ag hb (ai b0),ag hb (ai b0),ag hb (ai b0),ag hb (ai b0),ag hb (ai b0),ag hb (ai b0),ag hb (ai b0),ag hb (ai b0)⟩ : W.cell? ⟨w.heap.size,0,none⟩ = some (.slice m.ta m.tn m.tc) ∧ W.cell? ⟨w.heap.size,1,none⟩ = some (.slice m.ha m.hn m.hc) ∧ W.cell? ⟨w.heap.size,2,none⟩ = some (.slice m.ga m.gn m.gc) ∧ W.cell? ⟨w.heap.size,3,none⟩ = some (.int .i64 m.fi) ∧ W.cell? ⟨w.heap.size,4,none⟩ = some (.int .i64 m.mo) ∧ W.cell? ⟨w.heap.size,5,none⟩ = some (.slice m.fa m.fn m.fc) ∧ W.cell? ⟨w.heap.size,6,none⟩ = some (.slice m.da m.dn m.dc) ∧ W.cell? ⟨w.heap.size,7,none⟩ = some (.slice m.ea m.en m.ec)))
 obtain ⟨m0,m1,m2,m3,m4,m5,m6,m7⟩:=HX.out W0 (Below.refl _ _);clear B0 b0
 show Calls Tryz.prog 154 #[.agg #[.slice m.ta m.tn m.tc,.slice m.ha m.hn m.hc,.slice m.ga m.gn m.gc,.int .i64 m.fi,.int .i64 m.mo,.slice m.fa m.fn m.fc,.slice m.da m.dn m.dc,.slice m.ea m.en m.ec]] w _
 rw [HC.out]
 have C3:=hid (fun (h : orE (e1 m) (e2 m) = 0) => C3.out (HP1.out h))
 have C4:=hid (fun (h : orE (e3 m) (orE (e4 m) (e5 m)) = 0) => C4.out (HP4.out h))
 clear HC HP1 HP4;generalize orE (e1 m) (e2 m) = A1 at *;generalize orE (e3 m) (orE (e4 m) (e5 m)) = A2 at *;generalize e6 m = A3 at *;generalize orE (e7 m) (e8 m) = A4 at *
 go_enter Tryz.func154,Tryz.ntmps154
 go_wp2_with fail;refine (C1.out _ (HB0.out.trans (HB.out.mono HB0.out.size))).mono ?_;rintro e w1 ⟨rfl,hb1⟩
 replace HB:=hid (HB.out.trans (hb1.mono HB.out.size))
 obtain ⟨m0,m1,m2,m3,m4,m5,m6,m7⟩:=HX.out _ HB.out;clear hb1
 by_cases z1 : A1 = 0
 rotate_left
 ·have d1 : (A1 == 0) = false:=by simpa using z1
  have HV:=hid (show orE A1 (orE A2 (orE A3 A4)) = A1 from cJ z1);exact gX
 subst z1;have HV1:=hid (show orE 0 (orE A2 (orE A3 A4)) = orE A2 (orE A3 A4) from aP rfl)
 replace C3:=hid (C3.out rfl)
 go_wp2_with fail;refine (C2.out _ (HB0.out.trans (HB.out.mono HB0.out.size))).mono ?_;rintro e w2 ⟨rfl,hb2⟩
 replace HB:=hid (HB.out.trans (hb2.mono HB.out.size))
 obtain ⟨m0,m1,m2,m3,m4,m5,m6,m7⟩:=HX.out _ HB.out;clear hb2
 by_cases z2 : A2 = 0
 rotate_left
 ·have d1 : (A2 == 0) = false:=by simpa using z2
  have HV:=hid (show orE A2 (orE A3 A4) = A2 from cJ z2);go_wp2_with fail;go_ret
  exact ⟨by rw [HV1.out,HV.out]; rfl,HB0.out.trans (HB.out.mono HB0.out.size)⟩
 subst z2;have HV2:=hid (show orE 0 (orE A3 A4) = orE A3 A4 from aP rfl)
 replace C4:=hid (C4.out rfl)
 go_wp2_with fail;refine (C3.out _ (HB0.out.trans (HB.out.mono HB0.out.size))).mono ?_;rintro e w3 ⟨rfl,hb3⟩
 replace HB:=hid (HB.out.trans (hb3.mono HB.out.size))
 obtain ⟨m0,m1,m2,m3,m4,m5,m6,m7⟩:=HX.out _ HB.out;clear hb3
 by_cases z3 : A3 = 0
 rotate_left
 ·have d1 : (A3 == 0) = false:=by simpa using z3
  have HV:=hid (show orE A3 A4 = A3 from cJ z3);go_wp2_with fail;go_ret
  exact ⟨by rw [HV1.out,HV2.out,HV.out]; rfl,HB0.out.trans (HB.out.mono HB0.out.size)⟩
 subst z3;have HV3:=hid (show orE 0 A4 = A4 from aP rfl);go_wp2_with fail;refine (C4.out _ (HB0.out.trans (HB.out.mono HB0.out.size))).mono ?_;rintro e w4 ⟨rfl,hb4⟩
 replace HB:=hid (HB.out.trans (hb4.mono HB.out.size))
 obtain ⟨m0,m1,m2,m3,m4,m5,m6,m7⟩:=HX.out _ HB.out;clear hb4;go_wp2_with fail;go_ret
 exact ⟨by rw [HV1.out,HV2.out,HV3.out]; rfl,HB0.out.trans (HB.out.mono HB0.out.size)⟩
theorem JL (m : MM) (w : World) (hm : ∀ R g,w.heap.size ≤ R → w.heap.size ≤ g → MOk w R g m) (hz : Szs m) :
  Calls Tryz.prog 96 #[.agg (mV m)] w fun e w' => ∃ v,e = .returned (.tuple #[v,.int .i64 (cB m)]) ∧ Below w.heap.size w w':=by
 have C1:=hid (fun (W : World) (hb : Below w.heap.size w W) => J7 m W ((hm _ _ hb.size hb.size).later hb) hz)
 have C2:=hid (fun (h : dQ m = 0) (W : World) (hb : Below w.heap.size w W) => L4 m W h ((hm _ _ hb.size hb.size).later hb) (fun j x hj => by have:=hz.e j x hj; omega) (fun j x hj => by have h1:=hz.d j x hj; have h2:=((hm _ _ hb.size hb.size).later hb).dr j x hj; have:=h2.2.1.1; omega))
 have HC:=hid (show cB m = orE (dQ m) (if 65536 < (dF ++ lC m).length then 13 else 0) from rfl);unfold mV at C1 C2;clear hm hz;have B0:=aj w (.cells (mV m) 29);have b0:=heap_alloc_new w (.cells (mV m) 29);have HW : w.alloc (bD m.ta m.tn m.tc m.ha m.hn m.hc m.ga m.gn m.gc m.fi m.mo m.fa m.fn m.fc m.da m.dn m.dc m.ea m.en m.ec) = w.alloc (.cells (mV m) 29):=rfl;generalize w.alloc (.cells (mV m) 29) = W0 at *;have HB:=hid (Below.refl W0.heap.size W0);have HB0:=hid B0
 have HX:=hid (fun (W : World) (hb : Below W0.heap.size W0 W) => (⟨ag hb (ai b0),ag hb (ai b0),ag hb (ai b0),ag hb (ai b0),ag hb (ai b0),ag hb (ai b0),ag hb (ai b0),ag hb (ai b0)⟩ : W.cell? ⟨w.heap.size,0,none⟩ = some (.slice m.ta m.tn m.tc) ∧ W.cell? ⟨w.heap.size,1,none⟩ = some (.slice m.ha m.hn m.hc) ∧ W.cell? ⟨w.heap.size,2,none⟩ = some (.slice m.ga m.gn m.gc) ∧ W.cell? ⟨w.heap.size,3,none⟩ = some (.int .i64 m.fi) ∧ W.cell? ⟨w.heap.size,4,none⟩ = some (.int .i64 m.mo) ∧ W.cell? ⟨w.heap.size,5,none⟩ = some (.slice m.fa m.fn m.fc) ∧ W.cell? ⟨w.heap.size,6,none⟩ = some (.slice m.da m.dn m.dc) ∧ W.cell? ⟨w.heap.size,7,none⟩ = some (.slice m.ea m.en m.ec)))
 obtain ⟨m0,m1,m2,m3,m4,m5,m6,m7⟩:=HX.out W0 (Below.refl _ _);clear B0 b0
 show Calls Tryz.prog 96 #[.agg #[.slice m.ta m.tn m.tc,.slice m.ha m.hn m.hc,.slice m.ga m.gn m.gc,.int .i64 m.fi,.int .i64 m.mo,.slice m.fa m.fn m.fc,.slice m.da m.dn m.dc,.slice m.ea m.en m.ec]] w _
 generalize dQ m = A1 at *;generalize dF ++ lC m = BB at *
 go_enter Tryz.func96,Tryz.ntmps96
 go_wp2_with fail;refine (C1.out _ (HB0.out.trans (HB.out.mono HB0.out.size))).mono ?_;rintro e w1 ⟨rfl,hb1⟩
 replace HB:=hid (HB.out.trans (hb1.mono HB.out.size))
 obtain ⟨m0,m1,m2,m3,m4,m5,m6,m7⟩:=HX.out _ HB.out;clear hb1
 by_cases z1 : A1 = 0
 rotate_left
 ·have d1 : (A1 != 0) = true:=by simpa using z1
  have HV:=hid (show cB m = A1 from HC.out.trans (cJ z1));exact wH
 subst z1;have HC2:=hid (HC.out.trans (aP rfl))
 replace C2:=hid (C2.out rfl)
 go_wp2_with fail;refine (C2.out _ (HB0.out.trans (HB.out.mono HB0.out.size))).mono ?_;rintro e w2 ⟨y,rfl,hby,hb2⟩;obtain ⟨ya,yc,rfl⟩:=LB hby
 replace HB:=hid (HB.out.trans (hb2.mono HB.out.size))
 clear hby hb2
 by_cases h6 : 65536 < BB.length
 ·have HV:=hid (show cB m = 13 by rw [HC2.out,if_pos h6])
  have d6 : (65536 : Int) < (BB.length : Int):=ae;exact wH
 ·have HV:=hid (show cB m = 0 by rw [HC2.out,if_neg h6])
  have d6 : ¬ (65536 : Int) < (BB.length : Int):=ae;exact wH
theorem Ig (m : MM) (w : World) (hm : ∀ R g,w.heap.size ≤ R → w.heap.size ≤ g → MOk w R g m) (hz : Szs m) :
  Calls Tryz.prog 55 #[.agg (mV m)] w fun e w' => e = .returned (.int .i64 (cB m)) ∧ Below w.heap.size w w':=by
 have C1:=hid (fun (W : World) (hb : Below w.heap.size w W) => JL m W (fun R g h1 h2 => (hm R g (Nat.le_trans hb.size h1) (Nat.le_trans hb.size h2)).later hb) hz)
 unfold mV at C1;clear hm hz;have B0:=aj w (.cells (mV m) 29);have b0:=heap_alloc_new w (.cells (mV m) 29);have HW : w.alloc (bD m.ta m.tn m.tc m.ha m.hn m.hc m.ga m.gn m.gc m.fi m.mo m.fa m.fn m.fc m.da m.dn m.dc m.ea m.en m.ec) = w.alloc (.cells (mV m) 29):=rfl;generalize w.alloc (.cells (mV m) 29) = W0 at *;have HB:=hid (Below.refl W0.heap.size W0);have HB0:=hid B0
 have HX:=hid (fun (W : World) (hb : Below W0.heap.size W0 W) => (⟨ag hb (ai b0),ag hb (ai b0),ag hb (ai b0),ag hb (ai b0),ag hb (ai b0),ag hb (ai b0),ag hb (ai b0),ag hb (ai b0)⟩ : W.cell? ⟨w.heap.size,0,none⟩ = some (.slice m.ta m.tn m.tc) ∧ W.cell? ⟨w.heap.size,1,none⟩ = some (.slice m.ha m.hn m.hc) ∧ W.cell? ⟨w.heap.size,2,none⟩ = some (.slice m.ga m.gn m.gc) ∧ W.cell? ⟨w.heap.size,3,none⟩ = some (.int .i64 m.fi) ∧ W.cell? ⟨w.heap.size,4,none⟩ = some (.int .i64 m.mo) ∧ W.cell? ⟨w.heap.size,5,none⟩ = some (.slice m.fa m.fn m.fc) ∧ W.cell? ⟨w.heap.size,6,none⟩ = some (.slice m.da m.dn m.dc) ∧ W.cell? ⟨w.heap.size,7,none⟩ = some (.slice m.ea m.en m.ec)))
 obtain ⟨m0,m1,m2,m3,m4,m5,m6,m7⟩:=HX.out W0 (Below.refl _ _);clear B0 b0
 show Calls Tryz.prog 55 #[.agg #[.slice m.ta m.tn m.tc,.slice m.ha m.hn m.hc,.slice m.ga m.gn m.gc,.int .i64 m.fi,.int .i64 m.mo,.slice m.fa m.fn m.fc,.slice m.da m.dn m.dc,.slice m.ea m.en m.ec]] w _
 generalize cB m = A1 at *
 go_enter Tryz.func55,Tryz.ntmps55
 go_wp2_with fail;refine (C1.out _ (HB0.out.trans (HB.out.mono HB0.out.size))).mono ?_;rintro e w1 ⟨v,rfl,hb1⟩
 replace HB:=hid (HB.out.trans (hb1.mono HB.out.size))
 clear hb1;go_wp2_with fail;go_ret;exact ⟨rfl,HB0.out.trans (HB.out.mono HB0.out.size)⟩
theorem ML (s : ByteArray) (K B : Nat) (p : Nat → Bool) (w : World) (hs : s.size ≤ 281474976710656)
  (he : ∀ args w,(callFunc K args).run Tryz.prog w = .ok (.enter K args) w)
  (hp : ∀ (pos i : Nat) (h : i < s.size),isL (dK s i) = true → Calls Tryz.prog K #[.int .i64 i,.int .u8 (s[i]'h).toNat,.pointer (some ⟨B,0,none⟩)] (w.iter s pos) fun e w' => e = .returned (.bool (p i)) ∧ w' = w.iter s pos) :
  Calls Tryz.prog 209 #[.string s,.func (.func K) #[] #[.pointer (some ⟨B,0,none⟩)]] w fun e w' =>
   ∃ b pos,e = .returned (.bool b) ∧ (b = true ↔ ∀ i,i < s.size → isL (dK s i) = true ∧ p i = true) ∧ w' = w.iter s pos:=by
 have HP:=hid hp;exact Nw
theorem Ak (s : ByteArray) (most : Nat) (w : World) (hs : s.size ≤ 281474976710656) (hm : most ≤ 1073741824) :
  Calls Tryz.prog 140 #[.string s,.int .i64 most] w fun e w' => e = .returned (.bool (lett s most)) ∧ Below w.heap.size w w':=by
 have hmf : ∀ (fn : Fn) (first cap : Array Value) (w : World),(Instr.makeFunc fn first cap).run Tryz.prog w = .ok (.func fn first cap) w:=fun _ _ _ _ => rfl
 have HE:=hid (ML s 210 w.heap.size (fun i => decide ((i : Int) < most)) (w.alloc (aM most)) hs (fun _ _ => by rfl) (fun pos i h _ => NH i most _ w.heap.size _ (by
  rw [World.iter,World.cell?_alloc_past _ _ _ ak,World.cell?_alloc_at _ _ _ _ rfl]; rfl)))
 exact KC
theorem IX (s : ByteArray) (w : World) (hs : s.size ≤ 281474976710656) :
  Calls Tryz.prog 91 #[.string s] w fun e w' => e = .returned (.bool (lett s 256)) ∧ Below w.heap.size w w':=by
 have HE:=hid (Ak s 256 w hs ae);exact Db
def j5 (T : Nat → ByteArray) (n : Nat) : Bool:=(List.range n).all fun j => lett (T j) 256
theorem iR {T : Nat → ByteArray} {n : Nat} : j5 T n = true ↔ ∀ j,j < n → lett (T j) 256 = true:=by
 unfold j5;rw [List.all_eq_true]
 exact ⟨fun h j hj => h j (List.mem_range.2 hj),fun h j hj => h j (List.mem_range.1 hj)⟩
def AtT (w : World) (a : Option Addr) (n : Nat) (T : Nat → ByteArray) : Prop:=n = 0 ∨ ∃ b off,a = some ⟨b,off,none⟩ ∧ ∀ j,j < n → w.cell? ⟨b,off + j,none⟩ = some (.string (T j))
theorem AtT.later {w w' : World} {a : Option Addr} {n : Nat} {T : Nat → ByteArray} (h : AtT w a n T) (hb : Below w.heap.size w w') : AtT w' a n T :=
 h.imp id fun ⟨b,off,e,hc⟩ => ⟨b,off,e,fun j hj => ag hb (hc j hj)⟩
theorem QV {w : World} {a : Option Addr} {n cap : Nat} {T : Nat → ByteArray} (h : AtT w a n T) (hn : n ≤ 1099511627776) (hs : ∀ j,j < n → (T j).size ≤ 281474976710656) :
  Calls Tryz.prog 52 #[.slice a n cap] w fun e w' => e = .returned (.bool (j5 T n)) ∧ Below w.heap.size w w':=by
 have HA:=hid h;have HS:=hid hs;clear h hs
 go_enter Tryz.func52,Tryz.ntmps52
 go_wp2_with fail
 go_loopw [7] (fun ix wr => ∃ k : Nat,k ≤ n ∧ ix = .int .i64 k ∧ (∀ j,j < k → lett (T j) 256 = true) ∧ Below w.heap.size w wr) (fun ix _ => n - (intOf ix).toNat)
 case atStart => exact ⟨0,Nat.zero_le _,rfl,fun j hj => absurd hj (Nat.not_lt_zero _),Below.refl _ _⟩
 case round =>
  obtain ⟨k,hk,rfl,hall,hbr⟩:=hrel;have HL:=hid hall;have HB:=hid hbr;clear hall hbr
  by_cases hlt : k < n
  ·obtain ⟨b,off,ha,hc⟩:=HA.out.resolve_left ae;have c0:=ag HB.out (hc k hlt);have hk1 : (k : Int) < (n : Int):=ae;have H91:=hid (IX (T k) wr (HS.out k hlt));rw [ha];clear hc ha
   cases hl : lett (T k) 256 with
   | true =>
    rw [hl] at H91
    have HK1 : Hid (∀ j,j < k + 1 → lett (T j) 256 = true):=hid fun j hj => by
     exact BI
    clear hl;generalize T k = tk at *;go_wp2_with fail;refine H91.out.mono ?_;rintro e w2 ⟨rfl,hb2⟩;have HB2:=hid (HB.out.trans (hb2.mono HB.out.size));clear hb2 c0;go_wp2_with fail;refine ⟨⟨k + 1,ae,aX,HK1.out,HB2.out⟩,aZ⟩
   | false =>
    rw [hl] at H91
    have hv : j5 T n = false:=by
     cases hb : j5 T n with
     | false => rfl
     | true => have:=iR.1 hb k hlt; rw [hl] at this; cases this
    have HV:=hid hv;clear hv;generalize T k = tk at *;go_wp2_with fail;refine H91.out.mono ?_;rintro e w2 ⟨rfl,hb2⟩;have HB2:=hid (HB.out.trans (hb2.mono HB.out.size));clear hb2 c0;go_wp2_with fail;go_ret;exact ⟨cd,HB2.out⟩
  ·have hk1 : ¬ (k : Int) < (n : Int):=ae
   have hv : j5 T n = true:=iR.2 fun j hj => HL.out j ae
   have HV:=hid hv;clear hv;go_wp2_with fail;go_ret;exact ⟨cd,HB.out⟩
abbrev zR : Array Value:=#[.int .u8 0,.string ⟨#[]⟩,.int .i8 0,.string ⟨#[]⟩,.string ⟨#[]⟩,.bool false]
theorem Tryz.infRowJ : (Tryz.prog.info? 145).map (fun i => (i.zero,i.size,i.bytes)) = some (some (.agg zR),6,72):=aw
theorem Rz {w : World} {T k : Nat} {arr : Array Value} (h : w.heap[T]? = some (.cells arr 145)) (hl : k * 6 + 6 ≤ arr.size) (t0 t1 t2 t3 t4 t5 : Value) :
  ∃ arr',((((((w.setCell ⟨T,k * 6,none⟩ t0).setCell ⟨T,k * 6 + 1,none⟩ t1).setCell ⟨T,k * 6 + 2,none⟩ t2).setCell ⟨T,k * 6 + 3,none⟩ t3).setCell ⟨T,k * 6 + 4,none⟩ t4).setCell ⟨T,k * 6 + 5,none⟩ t5).heap[T]? = some (.cells arr' 145) ∧ arr'.size = arr.size ∧
   (∀ q,q < 6 → arr'[k * 6 + q]? = #[t0,t1,t2,t3,t4,t5][q]?) ∧ (∀ p,p < k * 6 ∨ k * 6 + 6 ≤ p → arr'[p]? = arr[p]?) ∧ Kept (fun b => b = T) w ((((((w.setCell ⟨T,k * 6,none⟩ t0).setCell ⟨T,k * 6 + 1,none⟩ t1).setCell ⟨T,k * 6 + 2,none⟩ t2).setCell ⟨T,k * 6 + 3,none⟩ t3).setCell ⟨T,k * 6 + 4,none⟩ t4).setCell ⟨T,k * 6 + 5,none⟩ t5):=by
 refine ⟨_,bP (bP (bP (bP (bP (bP h))))),ak,fun q hq => ?_,fun p hp => ?_,((((ay w T _ t0).trans (ay _ T _ t1)).trans (ay _ T _ t2)).trans (ay _ T _ t3)).trans ((ay _ T _ t4).trans (ay _ T _ t5))⟩
 ·have : q = 0 ∨ q = 1 ∨ q = 2 ∨ q = 3 ∨ q = 4 ∨ q = 5:=ae
  rcases this with rfl | rfl | rfl | rfl | rfl | rfl
  all_goals (simp [Array.getElem?_setIfInBounds]; omega)
 ·simp only [Array.getElem?_setIfInBounds,Array.size_setIfInBounds]
  rw [if_neg ae,if_neg ae,if_neg ae,if_neg ae,if_neg ae,if_neg ae]
theorem Oh {w : World} {cb coff N cc : Nat} {xs : List Inx} (hcd : Cod w cb coff N xs) (hN : N ≤ 2048) (hk : aW w) (hp : 0 < w.heap.size) :
  Calls Tryz.prog 53 #[.slice (some ⟨cb,coff,none⟩) N cc] w fun e w' => ∃ RB,e = .returned (.slice (some ⟨RB,0,none⟩) N N) ∧ w.heap.size ≤ RB ∧ (∀ j,j < N → ∀ q,q < 6 → w'.cell? ⟨RB,j * 6 + q,none⟩ = (rv (ofV (opF xs j)).1)[q]?) ∧ Below w.heap.size w w':=by
 obtain ⟨i0,hi,hz0,hz1,hz2⟩:=info_parts Tryz.infRowJ;have hb3 : i0.bytes * N ≤ 281474976710656:=gN;have hml : N ≤ maxLen:=cG;have HC:=hid hcd
 have HK:=hid (fun (W : World) (hb : Below w.heap.size w W) => hk.later hb hp)
 clear hcd hk
 go_enter Tryz.func53,Tryz.ntmps53
 go_wp2_with (first | (at_make; refine wpList_make_full _ rfl _ _ 93 rfl w.heap.size 145 i0 (.agg zR) 6 Tryz.underlying93 hi hz0 hz1 .i64 .i64 _ _ N rfl rfl ae ae hb3 hml (Nat.le_refl _) ?_; intro w1 hown hgrow; have hbel : Below w.heap.size w w1:=(Below.refl _ _).grown hgrow (Nat.le_refl _) ak))
 obtain ⟨arr0,hTT,hsz0⟩ : ∃ arr,w1.heap[w.heap.size]? = some (.cells arr 145) ∧ arr.size = N * 6:=by
  rcases hown.2 with ⟨e,_⟩ | ⟨g,cap,cur,e,h4,h5,h6,h7,h8,h9⟩
  ·cases e
  ·cases e; exact ⟨cur,h5,h8⟩
 have HT:=hid (And.intro hTT hsz0);have HB1:=hid hbel;clear hown hgrow hi hz0 hz1 hz2 hb3 hml hTT hsz0 hbel
 go_loopw [11] (fun i wr => ∃ k : Nat,k ≤ N ∧ i = .int .i64 k ∧ Kept (fun b => b = w.heap.size) w1 wr ∧ ∃ arr,wr.heap[w.heap.size]? = some (.cells arr 145) ∧ arr.size = N * 6 ∧ ∀ j,j < k → ∀ q,q < 6 → arr[j * 6 + q]? = (rv (ofV (opF xs j)).1)[q]?) (fun i _ => N - (intOf i).toNat)
 case atStart => exact ⟨0,Nat.zero_le _,rfl,Kept.refl _ _,arr0,HT.out.1,HT.out.2,fun j h => absurd h (Nat.not_lt_zero _)⟩
 case round =>
  obtain ⟨k,hkN,rfl,hkept,arr,hTT,hsz,hrow⟩:=hrel
  have hBr : Below w.heap.size w wr:=HB1.out.trans (hkept.to_below (B:=w.heap.size) HB1.out.size (fun k hk h => by have : k = w.heap.size:=h; omega))
  by_cases hlt : k < N
  ·have hcr:=HC.out.later hBr (Nat.le_refl _);have n0:=hcr.op hlt;have n1:=hcr.num hlt;have n2:=hcr.lab hlt;have hrg:=hcr.range hlt;have hk1 : (k : Int) < (N : Int):=ae
   have H92:=hid (fun (W : World) (hb : Below w.heap.size w W) => of6 (opF xs k) W (HK.out W hb) hrg.1 hrg.2)
   have HROW:=hid hrow;have HTT:=hid (And.intro hTT hsz);have HKP:=hid hkept;have HBR:=hid hBr;have hwl : w.heap.size < wr.heap.size:=dY hTT;have hcl : cb < wr.heap.size:=block_lt_of_cell n0;obtain ⟨r,hr⟩ : ∃ r,r = (ofV (opF xs k)).1:=⟨_,rfl⟩;have HR:=hid hr;rw [← hr] at H92;clear hkept hTT hBr hcr hrow hsz hr;obtain ⟨r0,r1,r2,r3,r4,r5⟩:=r;unfold rv cY at H92;dsimp only at H92;obtain ⟨c,hcc⟩ : ∃ c,c = opF xs k:=⟨_,rfl⟩;have HCC:=hid hcc.symm;rw [← hcc] at H92 HR n0 hrg;clear hcc;generalize (ofV c).2 = ob at *;generalize (xs.getD k dx).a = ia at *;generalize (xs.getD k dx).la = la at *;generalize (xs.getD k dx).ln = ln at *;generalize (xs.getD k dx).lc = lc at *;go_wp2_with fail;have BA:=aj wr (aC c ia la ln lc);have hBA:=HBR.out.trans (BA.mono HBR.out.size);have hTA:=ar BA HTT.out.1;have HKA:=hid (HKP.out.trans (az BA));refine (H92.out _ hBA).mono ?_;generalize wr.alloc (aC c ia la ln lc) = WA at *;rintro e w2 ⟨rfl,hb2⟩;have hT2:=ar hb2 hTA;have hsz:=HTT.out.2;obtain ⟨arr',p1,p2,p3,p4,p5⟩:=Rz (k:=k) hT2 ae (.int .u8 r0) (.string r1) (.int .i8 r2) (.string r3) (.string r4) (.bool r5);obtain ⟨v0,k0⟩ : ∃ v,w2.cell? ⟨w.heap.size,k * 6,none⟩ = some v:=⟨_,(ai hT2).trans (Array.getElem?_eq_getElem ae)⟩;obtain ⟨v1,k1⟩ : ∃ v,w2.cell? ⟨w.heap.size,k * 6 + 1,none⟩ = some v:=⟨_,(ai hT2).trans (Array.getElem?_eq_getElem ae)⟩;obtain ⟨v2,k2⟩ : ∃ v,w2.cell? ⟨w.heap.size,k * 6 + 2,none⟩ = some v:=⟨_,(ai hT2).trans (Array.getElem?_eq_getElem ae)⟩;obtain ⟨v3,k3⟩ : ∃ v,w2.cell? ⟨w.heap.size,k * 6 + 3,none⟩ = some v:=⟨_,(ai hT2).trans (Array.getElem?_eq_getElem ae)⟩;obtain ⟨v4,k4⟩ : ∃ v,w2.cell? ⟨w.heap.size,k * 6 + 4,none⟩ = some v:=⟨_,(ai hT2).trans (Array.getElem?_eq_getElem ae)⟩;obtain ⟨v5,k5⟩ : ∃ v,w2.cell? ⟨w.heap.size,k * 6 + 5,none⟩ = some v:=⟨_,(ai hT2).trans (Array.getElem?_eq_getElem ae)⟩;have l0:=free_at (i:=k * 6) hT2;have l1:=free_at (i:=k * 6 + 1) hT2;have l2:=free_at (i:=k * 6 + 2) hT2;have l3:=free_at (i:=k * 6 + 3) hT2;have l4:=free_at (i:=k * 6 + 4) hT2
   have l5:=free_at (i:=k * 6 + 5) hT2;have HP:=hid (And.intro p1 (And.intro p2 (And.intro p3 (And.intro p4 ((HKA.out.trans (az hb2)).trans p5)))));clear p1 p2 p3 p4 p5 hb2 hTA hT2 BA hBA hsz;go_wp2_with fail;obtain ⟨p1,p2,p3,p4,p5⟩:=HP.out
   refine ⟨⟨k + 1,ae,aX,p5,arr',p1,p2.trans HTT.out.2,fun j hj q hq => ?_⟩,aZ⟩
   rcases Nat.lt_or_ge j k with hx | hx
   ·rw [p4 _ (.inl ae)];exact HROW.out j hx q hq
   ·obtain rfl : j = k:=ae;rw [p3 q hq,HCC.out,← HR.out];rfl
  ·obtain rfl : k = N:=ae;have hk1 : ¬ ((k : Int) < (k : Int)):=ae;have HROW:=hid hrow;have HBR:=hid hBr;have HTT:=hid hTT;clear hkept hBr hrow;go_wp2_with fail;go_ret
   exact ⟨w.heap.size,rfl,Nat.le_refl _,fun j hj q hq => by rw [ai HTT.out]; exact HROW.out j hj q hq,HBR.out⟩
theorem NY {m : MM} (h0 : cB m = 0) : ∀ a,Ltr (bE m a).1 ∧ Ltr (bE m a).2 ∧ (bE m a).1.size ≤ 8:=by
 intro a;obtain ⟨h1,_,_,_⟩:=pQ h0;unfold bE;rw [List.getD_eq_getElem?_getD]
 cases e : m.types[a.toNat]? with
 | none => exact ⟨.nil,.nil,aH⟩
 | some x =>
  have h:=j6 ((dW h1).2 _ x e);exact ⟨Ltr.of h.2.1,Ltr.of h.2.2.2,h.1⟩
end Go.Proofs.YtepnnenohjfkbaaGreatDoor

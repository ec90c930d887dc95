/-
  Texts Rk De.
-/
import Derived.Lib.AppendStr
import Derived.Test.YtheefojaplnnoaaGreatDoorP00
import Derived.Test.YtheefojaplnnoaaGreatDoorP37
import Derived.Test.YtheefojaplnnoaaGreatDoorP39
import Derived.Test.YtheefojaplnnoaaGreatDoorP40
import Derived.Test.YtheefojaplnnoaaGreatDoorP41
set_option linter.unusedVariables false
set_option maxRecDepth 100000
set_option maxHeartbeats 16000000
namespace Go.Proofs.YtheefojaplnnoaaGreatDoor
open Go.RowKit
structure Szs (m : MM) : Prop where
 tn : m.tn ≤ 200000
 hn : m.hn ≤ 200000
 gn : m.gn ≤ 200000
 fn : m.fn ≤ 200000
 dn : m.dn ≤ 200000
 en : m.en ≤ 200000
 t : ∀ (j : Nat) x,m.types[j]? = some x → x.1.size ≤ 200000 ∧ x.2.size ≤ 200000
 f : ∀ (j : Nat) x,m.fns[j]? = some x → x.2.1.size ≤ 200000 ∧ x.2.2.1.2.1 ≤ 200000
 d : ∀ (j : Nat) x,m.data[j]? = some x → x.2.1.2.1 ≤ 200000
 e : ∀ (j : Nat) x,m.exps[j]? = some x → x.1.size ≤ 200000
theorem EJ (m : MM) : eu m = orE (orE (e1 m) (e2 m)) (orE (orE (e3 m) (orE (e4 m) (e5 m))) (orE (e6 m) (orE (e7 m) (e8 m)))):=by
 unfold eu orE
 by_cases h1 : e1 m = 0 <;> by_cases h2 : e2 m = 0 <;> by_cases h3 : e3 m = 0 <;> by_cases h4 : e4 m = 0 <;> by_cases h5 : e5 m = 0 <;> simp [h1,h2,h3,h4,h5]
theorem H8 (m : MM) (w : World) (hm : MOk w w.heap.size w.heap.size m) (hz : Szs m) :
  Calls Tryz.prog 160 #[.agg (mV m)] w fun e w' => e = .returned (.int .i64 (eu m)) ∧ Below w.heap.size w w':=by
 have HM:=hid (fun (W : World) (hb : Below w.heap.size w W) => hm.later hb)
 have C1:=hid (fun (W : World) (hb : Below w.heap.size w W) => qY m W (HM.out W hb).pt (HM.out W hb).ph (HM.out W hb).hr (fun j x hj => ⟨by have:=(hz.t j x hj).1; omega,by have:=(hz.t j x hj).2; omega⟩) (by have:=hz.tn; omega) (by have:=hz.hn; omega))
 have C2:=hid (fun (W : World) (hb : Below w.heap.size w W) => oX m W (HM.out W hb).pg (HM.out W hb).gr (HM.out W hb).i0 (HM.out W hb).i1 (HM.out W hb).o0 (HM.out W hb).o1 (by have:=hz.gn; omega))
 have C3:=hid (fun (h1 : e1 m = 0) (W : World) (hb : Below w.heap.size w W) => wm m W (HM.out W hb).pt (fun j x hj => (dE (fG h1 j x hj)).1) (by have:=hz.tn; omega) (HM.out W hb).pf (by have:=hz.fn; omega) (fun j x hj => ⟨((HM.out W hb).fr j x hj).1,((HM.out W hb).fr j x hj).2.1,by have:=(hz.f j x hj).1; omega,by have:=(hz.f j x hj).2; omega,fun i y hi => ⟨(((HM.out W hb).fr j x hj).2.2.2 i y hi).1,(((HM.out W hb).fr j x hj).2.2.2 i y hi).2.1,(((HM.out W hb).fr j x hj).2.2.2 i y hi).2.2.1⟩⟩))
 have C4:=hid (fun (h4 : e4 m = 0) (W : World) (hb : Below w.heap.size w W) => su m W (HM.out W hb).pd (fun j x hj => ⟨((HM.out W hb).dr j x hj).1,((HM.out W hb).dr j x hj).2.1.1.symm,by have:=hz.d j x hj; omega⟩) (by have:=hz.dn; omega) AE AE (HM.out W hb).pe (fun j x hj => ⟨(HM.out W hb).er j x hj,by have:=hz.e j x hj; omega⟩) (by have:=hz.en; omega) (by have:=hz.fn; omega))
 have HC:=hid (EJ m)
 have HP1:=hid (fun (h : orE (e1 m) (e2 m) = 0) => (cj h).1)
 have HP4:=hid (fun (h : orE (e3 m) (orE (e4 m) (e5 m)) = 0) => (cj (cj h).2).1)
 unfold mV at C1 C2 C3 C4;clear hm hz;have B0:=ak w (.cells (mV m) 29);have b0:=heap_alloc_new w (.cells (mV m) 29);have HW : w.alloc (bg m.ta m.tn m.tc m.ha m.hn m.hc m.ga m.gn m.gc m.fi m.mo m.fa m.fn m.fc m.da m.dn m.dc m.ea m.en m.ec) = w.alloc (.cells (mV m) 29):=rfl;generalize w.alloc (.cells (mV m) 29) = W0 at *;have HB:=hid (Below.refl W0.heap.size W0);have HB0:=hid B0
 have HX:=hid (fun (W : World) (hb : Below W0.heap.size W0 W) => (⟨ai hb (ag b0),ai hb (ag b0),ai hb (ag b0),ai hb (ag b0),ai hb (ag b0),ai hb (ag b0),ai hb (ag b0),ai hb (ag b0)⟩ : W.cell? ⟨w.heap.size,0,none⟩ = some (.slice m.ta m.tn m.tc) ∧ W.cell? ⟨w.heap.size,1,none⟩ = some (.slice m.ha m.hn m.hc) ∧ W.cell? ⟨w.heap.size,2,none⟩ = some (.slice m.ga m.gn m.gc) ∧ W.cell? ⟨w.heap.size,3,none⟩ = some (.int .i64 m.fi) ∧ W.cell? ⟨w.heap.size,4,none⟩ = some (.int .i64 m.mo) ∧ W.cell? ⟨w.heap.size,5,none⟩ = some (.slice m.fa m.fn m.fc) ∧ W.cell? ⟨w.heap.size,6,none⟩ = some (.slice m.da m.dn m.dc) ∧ W.cell? ⟨w.heap.size,7,none⟩ = some (.slice m.ea m.en m.ec)))
 obtain ⟨m0,m1,m2,m3,m4,m5,m6,m7⟩:=HX.out W0 (Below.refl _ _);clear B0 b0
 show Calls Tryz.prog 160 #[.agg #[.slice m.ta m.tn m.tc,.slice m.ha m.hn m.hc,.slice m.ga m.gn m.gc,.int .i64 m.fi,.int .i64 m.mo,.slice m.fa m.fn m.fc,.slice m.da m.dn m.dc,.slice m.ea m.en m.ec]] w _
 rw [HC.out]
 have C3:=hid (fun (h : orE (e1 m) (e2 m) = 0) => C3.out (HP1.out h))
 have C4:=hid (fun (h : orE (e3 m) (orE (e4 m) (e5 m)) = 0) => C4.out (HP4.out h))
 clear HC HP1 HP4;generalize orE (e1 m) (e2 m) = A1 at *;generalize orE (e3 m) (orE (e4 m) (e5 m)) = A2 at *;generalize e6 m = A3 at *;generalize orE (e7 m) (e8 m) = A4 at *
 go_enter Tryz.func160,Tryz.ntmps160
 go_wp2_with fail;refine (C1.out _ (HB0.out.trans (HB.out.mono HB0.out.size))).mono ?_;rintro e w1 ⟨rfl,hb1⟩
 replace HB:=hid (HB.out.trans (hb1.mono HB.out.size))
 obtain ⟨m0,m1,m2,m3,m4,m5,m6,m7⟩:=HX.out _ HB.out;clear hb1
 by_cases z1 : A1 = 0
 rotate_left
 ·have d1 : (A1 == 0) = false:=by simpa using z1
  have HV:=hid (show orE A1 (orE A2 (orE A3 A4)) = A1 from cU z1);exact ib
 subst z1;have HV1:=hid (show orE 0 (orE A2 (orE A3 A4)) = orE A2 (orE A3 A4) from aP rfl)
 replace C3:=hid (C3.out rfl)
 go_wp2_with fail;refine (C2.out _ (HB0.out.trans (HB.out.mono HB0.out.size))).mono ?_;rintro e w2 ⟨rfl,hb2⟩
 replace HB:=hid (HB.out.trans (hb2.mono HB.out.size))
 obtain ⟨m0,m1,m2,m3,m4,m5,m6,m7⟩:=HX.out _ HB.out;clear hb2
 by_cases z2 : A2 = 0
 rotate_left
 ·have d1 : (A2 == 0) = false:=by simpa using z2
  have HV:=hid (show orE A2 (orE A3 A4) = A2 from cU z2);go_wp2_with fail;go_ret
  exact ⟨by rw [HV1.out,HV.out]; rfl,HB0.out.trans (HB.out.mono HB0.out.size)⟩
 subst z2;have HV2:=hid (show orE 0 (orE A3 A4) = orE A3 A4 from aP rfl)
 replace C4:=hid (C4.out rfl)
 go_wp2_with fail;refine (C3.out _ (HB0.out.trans (HB.out.mono HB0.out.size))).mono ?_;rintro e w3 ⟨rfl,hb3⟩
 replace HB:=hid (HB.out.trans (hb3.mono HB.out.size))
 obtain ⟨m0,m1,m2,m3,m4,m5,m6,m7⟩:=HX.out _ HB.out;clear hb3
 by_cases z3 : A3 = 0
 rotate_left
 ·have d1 : (A3 == 0) = false:=by simpa using z3
  have HV:=hid (show orE A3 A4 = A3 from cU z3);go_wp2_with fail;go_ret
  exact ⟨by rw [HV1.out,HV2.out,HV.out]; rfl,HB0.out.trans (HB.out.mono HB0.out.size)⟩
 subst z3;have HV3:=hid (show orE 0 A4 = A4 from aP rfl);go_wp2_with fail;refine (C4.out _ (HB0.out.trans (HB.out.mono HB0.out.size))).mono ?_;rintro e w4 ⟨rfl,hb4⟩
 replace HB:=hid (HB.out.trans (hb4.mono HB.out.size))
 obtain ⟨m0,m1,m2,m3,m4,m5,m6,m7⟩:=HX.out _ HB.out;clear hb4;go_wp2_with fail;go_ret
 exact ⟨by rw [HV1.out,HV2.out,HV3.out]; rfl,HB0.out.trans (HB.out.mono HB0.out.size)⟩
theorem Ia (m : MM) (w : World) (hm : ∀ R g,w.heap.size ≤ R → w.heap.size ≤ g → MOk w R g m) (hz : Szs m) :
  Calls Tryz.prog 99 #[.agg (mV m)] w fun e w' => ∃ v,e = .returned (.tuple #[v,.int .i64 (cL m)]) ∧ Below w.heap.size w w':=by
 have C1:=hid (fun (W : World) (hb : Below w.heap.size w W) => H8 m W ((hm _ _ hb.size hb.size).later hb) hz)
 have C2:=hid (fun (h : eu m = 0) (W : World) (hb : Below w.heap.size w W) => IP m W h ((hm _ _ hb.size hb.size).later hb) (fun j x hj => by have:=hz.e j x hj; omega) (fun j x hj => by have h1:=hz.d j x hj; have h2:=((hm _ _ hb.size hb.size).later hb).dr j x hj; have:=h2.2.1.1; omega))
 have HC:=hid (show cL m = orE (eu m) (if 65536 < (dO ++ nY m).length then 13 else 0) from rfl);unfold mV at C1 C2;clear hm hz;have B0:=ak w (.cells (mV m) 29);have b0:=heap_alloc_new w (.cells (mV m) 29);have HW : w.alloc (bg m.ta m.tn m.tc m.ha m.hn m.hc m.ga m.gn m.gc m.fi m.mo m.fa m.fn m.fc m.da m.dn m.dc m.ea m.en m.ec) = w.alloc (.cells (mV m) 29):=rfl;generalize w.alloc (.cells (mV m) 29) = W0 at *;have HB:=hid (Below.refl W0.heap.size W0);have HB0:=hid B0
 have HX:=hid (fun (W : World) (hb : Below W0.heap.size W0 W) => (⟨ai hb (ag b0),ai hb (ag b0),ai hb (ag b0),ai hb (ag b0),ai hb (ag b0),ai hb (ag b0),ai hb (ag b0),ai hb (ag b0)⟩ : W.cell? ⟨w.heap.size,0,none⟩ = some (.slice m.ta m.tn m.tc) ∧ W.cell? ⟨w.heap.size,1,none⟩ = some (.slice m.ha m.hn m.hc) ∧ W.cell? ⟨w.heap.size,2,none⟩ = some (.slice m.ga m.gn m.gc) ∧ W.cell? ⟨w.heap.size,3,none⟩ = some (.int .i64 m.fi) ∧ W.cell? ⟨w.heap.size,4,none⟩ = some (.int .i64 m.mo) ∧ W.cell? ⟨w.heap.size,5,none⟩ = some (.slice m.fa m.fn m.fc) ∧ W.cell? ⟨w.heap.size,6,none⟩ = some (.slice m.da m.dn m.dc) ∧ W.cell? ⟨w.heap.size,7,none⟩ = some (.slice m.ea m.en m.ec)))
 obtain ⟨m0,m1,m2,m3,m4,m5,m6,m7⟩:=HX.out W0 (Below.refl _ _);clear B0 b0
 show Calls Tryz.prog 99 #[.agg #[.slice m.ta m.tn m.tc,.slice m.ha m.hn m.hc,.slice m.ga m.gn m.gc,.int .i64 m.fi,.int .i64 m.mo,.slice m.fa m.fn m.fc,.slice m.da m.dn m.dc,.slice m.ea m.en m.ec]] w _
 generalize eu m = A1 at *;generalize dO ++ nY m = BB at *
 go_enter Tryz.func99,Tryz.ntmps99
 go_wp2_with fail;refine (C1.out _ (HB0.out.trans (HB.out.mono HB0.out.size))).mono ?_;rintro e w1 ⟨rfl,hb1⟩
 replace HB:=hid (HB.out.trans (hb1.mono HB.out.size))
 obtain ⟨m0,m1,m2,m3,m4,m5,m6,m7⟩:=HX.out _ HB.out;clear hb1
 by_cases z1 : A1 = 0
 rotate_left
 ·have d1 : (A1 != 0) = true:=by simpa using z1
  have HV:=hid (show cL m = A1 from HC.out.trans (cU z1));exact uB
 subst z1;have HC2:=hid (HC.out.trans (aP rfl))
 replace C2:=hid (C2.out rfl)
 go_wp2_with fail;refine (C2.out _ (HB0.out.trans (HB.out.mono HB0.out.size))).mono ?_;rintro e w2 ⟨y,rfl,hby,hb2⟩;obtain ⟨ya,yc,rfl⟩:=Gm hby
 replace HB:=hid (HB.out.trans (hb2.mono HB.out.size))
 clear hby hb2
 by_cases h6 : 65536 < BB.length
 ·have HV:=hid (show cL m = 13 by rw [HC2.out,if_pos h6])
  have d6 : (65536 : Int) < (BB.length : Int):=ae;exact uB
 ·have HV:=hid (show cL m = 0 by rw [HC2.out,if_neg h6])
  have d6 : ¬ (65536 : Int) < (BB.length : Int):=ae;exact uB
theorem Gz (m : MM) (w : World) (hm : ∀ R g,w.heap.size ≤ R → w.heap.size ≤ g → MOk w R g m) (hz : Szs m) :
  Calls Tryz.prog 34 #[.agg (mV m)] w fun e w' => e = .returned (.int .i64 (cL m)) ∧ Below w.heap.size w w':=by
 have C1:=hid (fun (W : World) (hb : Below w.heap.size w W) => Ia m W (fun R g h1 h2 => (hm R g (Nat.le_trans hb.size h1) (Nat.le_trans hb.size h2)).later hb) hz)
 unfold mV at C1;clear hm hz;have B0:=ak w (.cells (mV m) 29);have b0:=heap_alloc_new w (.cells (mV m) 29);have HW : w.alloc (bg m.ta m.tn m.tc m.ha m.hn m.hc m.ga m.gn m.gc m.fi m.mo m.fa m.fn m.fc m.da m.dn m.dc m.ea m.en m.ec) = w.alloc (.cells (mV m) 29):=rfl;generalize w.alloc (.cells (mV m) 29) = W0 at *;have HB:=hid (Below.refl W0.heap.size W0);have HB0:=hid B0
 have HX:=hid (fun (W : World) (hb : Below W0.heap.size W0 W) => (⟨ai hb (ag b0),ai hb (ag b0),ai hb (ag b0),ai hb (ag b0),ai hb (ag b0),ai hb (ag b0),ai hb (ag b0),ai hb (ag b0)⟩ : W.cell? ⟨w.heap.size,0,none⟩ = some (.slice m.ta m.tn m.tc) ∧ W.cell? ⟨w.heap.size,1,none⟩ = some (.slice m.ha m.hn m.hc) ∧ W.cell? ⟨w.heap.size,2,none⟩ = some (.slice m.ga m.gn m.gc) ∧ W.cell? ⟨w.heap.size,3,none⟩ = some (.int .i64 m.fi) ∧ W.cell? ⟨w.heap.size,4,none⟩ = some (.int .i64 m.mo) ∧ W.cell? ⟨w.heap.size,5,none⟩ = some (.slice m.fa m.fn m.fc) ∧ W.cell? ⟨w.heap.size,6,none⟩ = some (.slice m.da m.dn m.dc) ∧ W.cell? ⟨w.heap.size,7,none⟩ = some (.slice m.ea m.en m.ec)))
 obtain ⟨m0,m1,m2,m3,m4,m5,m6,m7⟩:=HX.out W0 (Below.refl _ _);clear B0 b0
 show Calls Tryz.prog 34 #[.agg #[.slice m.ta m.tn m.tc,.slice m.ha m.hn m.hc,.slice m.ga m.gn m.gc,.int .i64 m.fi,.int .i64 m.mo,.slice m.fa m.fn m.fc,.slice m.da m.dn m.dc,.slice m.ea m.en m.ec]] w _
 generalize cL m = A1 at *
 go_enter Tryz.func34,Tryz.ntmps34
 go_wp2_with fail;refine (C1.out _ (HB0.out.trans (HB.out.mono HB0.out.size))).mono ?_;rintro e w1 ⟨v,rfl,hb1⟩
 replace HB:=hid (HB.out.trans (hb1.mono HB.out.size))
 clear hb1;go_wp2_with fail;go_ret;exact ⟨rfl,HB0.out.trans (HB.out.mono HB0.out.size)⟩
abbrev By8 (w : World) (base : Nat) (v : Value) (l : List UInt8) : Prop:=w.ownsRow base 5 1 v l.length (l.map fun b => Value.int .u8 b.toNat)
theorem Ju (w : World) (base : Nat) : By8 w base (.slice none 0 0) []:=World.ownsRow_nil w base 5 1
theorem nj (w : World) {o : Oper} {a : Act} {K : Act → World → Prop} {Q : Exit → Act → World → Prop} (sl x : Operand) (ho : o.op = Op.call { callee:=Callee.builtin Builtin.append,args:=#[sl,x],argTypes:=#[63,9] }) (base : Nat) (v : Value) (P : List UInt8) (s : ByteArray)
  (hs : a.eval sl = v) (hx : a.eval x = .string s) (hown : By8 w base v P) (hb : P.length + s.size ≤ 1099511627776) (hbase : base ≤ w.heap.size) (d : Option Tmp) (hd : o.dst = d)
  (h : ∀ (v' : Value) (w' : World),By8 w' base v' (P ++ s.data.toList) → Below base w w' → aJ (fun k => some k = v.ownBlock) w w' → K (a.put d v') w') : o.wp Tryz.prog a w K Q:=by
 subst hd;obtain ⟨i0,hi,hz0,hz1,hz2⟩:=info_parts Tryz.info5;obtain ⟨v',w',hr,h2,h3,h4⟩:=Lib.run_append_own_string (P:=Tryz.prog) w base 63 9 o.type 5 i0 Tryz.underlying63 Tryz.underlying9 hi hz0 hz1 hz2 v P.length _ hown s bU ae hbase;unfold Oper.wp execOp
 simp only [ho,resolve,invoke,builtin,Sem.run_bind,Sem.run_pure,Result.andThen_ok,List.map_toArray,List.map_cons,List.map_nil,hs,hx,hr]
 refine h v' w' ?_ (nA hown h3 hbase) (aJ.of_grown h3)
 have e : (P ++ s.data.toList).length = P.length + s.size:=by rw [List.length_append]; rfl
 unfold By8;rw [e,List.map_append];exact h2
theorem wC (w : World) {ops : Array Oper} {rest : List Oper} {o : Oper} {a : Act} {Q : Exit → Act → World → Prop} (hgd : o.guard = none) (sl x : Operand) (ho : o.op = Op.call { callee:=Callee.builtin Builtin.append,args:=#[sl,x],argTypes:=#[63,9] }) (base : Nat) (v : Value) (P : List UInt8) (s : ByteArray)
  (hs : a.eval sl = v) (hx : a.eval x = .string s) (hown : By8 w base v P) (hb : P.length + s.size ≤ 1099511627776) (hbase : base ≤ w.heap.size)
  (h : ∀ (v' : Value) (w' : World),By8 w' base v' (P ++ s.data.toList) → Below base w w' → aJ (fun k => some k = v.ownBlock) w w' → wpList Tryz.prog ops Q rest (a.put o.dst v') w') : wpList Tryz.prog ops Q (o :: rest) a w :=
 wpList_plain hgd fun _ hK => nj w sl x ho base v P s hs hx hown hb hbase o.dst rfl fun v' w' h2 h3 h4 => hK _ _ (h v' w' h2 h3 h4)
theorem uE {w : World} {base : Nat} {v : Value} {l : List UInt8} (h : By8 w base v l) : Byt w base v (l.map fun b => (b.toNat : Int)):=by
 unfold Byt;rw [List.length_map,List.map_map];exact h
theorem JS {w : World} {base : Nat} {v : Value} {l : List UInt8} (h : Byt w base v (l.map fun b => (b.toNat : Int))) : By8 w base v l:=by
 unfold Byt at h;rw [List.length_map,List.map_map] at h;exact h
theorem OQ {w : World} {base : Nat} {v : Value} {l : List UInt8} (h : By8 w base v l) (hl : l.length ≤ 1099511627776) : (convert 63 9 v).run Tryz.prog w = .ok (.string ⟨l.toArray⟩) w:=by
 have hb:=uE h
 obtain ⟨a,c,rfl,hs,hn⟩:=iz hb (by rw [List.length_map]; omega) (fun z hz => by
  obtain ⟨b,-,rfl⟩:=List.mem_map.1 hz
  have:=UInt8.toNat_lt b
  omega)
 rw [j3 w a _ c _ hs]
 have e : strOfNums (l.map fun b => (b.toNat : Int)) = ⟨l.toArray⟩:=by
  unfold strOfNums;rw [List.map_map]
  congr 2
  conv => rhs; rw [← List.map_id l]
  apply List.map_congr_left
  intro b _
  simp
 rw [e]
theorem td {w w' : World} {base F t : Nat} {v : Value} {P : List UInt8} {cs : Array Value} (hF : w.heap[F]? = some (.cells cs t)) (ht : t ≠ 5) (hb : By8 w base v P) (hk : aJ (fun k => some k = v.ownBlock) w w') : w'.heap[F]? = some (.cells cs t):=gZ hF ht (uE hb) hk
theorem dv (x : ByteArray) : bj [x] = x.data.toList ++ [10]:=by simp [bj,Lib.join]
theorem dh (x y : ByteArray) (r : List ByteArray) : bj (x :: y :: r) = x.data.toList ++ (32 :: bj (y :: r)):=by
 simp [bj,Lib.join]
abbrev nlB : ByteArray:=⟨#[10]⟩
abbrev spB : ByteArray:=⟨#[32]⟩
theorem FO (p r : ByteArray) : gj (p,r) = ((⟨#[116,121,112,101,32]⟩ : ByteArray) ++ qR p r ++ nlB).data.toList:=by
 simp [gj,dh,dv,BO]
theorem Dn (x : Int) : cZ x = ((⟨#[101,120,116,101,114,110,32]⟩ : ByteArray) ++ bp x ++ nlB).data.toList:=by
 simp [cZ,dh,dv,pk]
def Kc (b : Bool) : ByteArray:=if b then ⟨#[32,118,97,114,32]⟩ else ⟨#[32,99,111,110,115,116,32]⟩
theorem AX (c : Int) (m : Bool) (v : Int) : glL (c,m,v) = ((⟨#[103,108,111,98,97,108,32]⟩ : ByteArray) ++ ⟨#[UInt8.ofNat c.toNat]⟩ ++ Kc m ++ bp (qG c v) ++ nlB).data.toList:=by
 cases m <;> simp [glL,dh,dv,pu,uQ,Kc]
theorem FU (a b : Int) : iu a b = ((⟨#[109,101,109,111,114,121,32]⟩ : ByteArray) ++ bp a ++ spB ++ bp b ++ nlB).data.toList:=by
 simp [iu,dh,dv,po]
theorem Fp (t : Int) (l : ByteArray) : bj [gG,bp t,l] = ((⟨#[102,117,110,99,32]⟩ : ByteArray) ++ bp t ++ spB ++ l ++ nlB).data.toList:=by
 simp [dh,dv,gG]
theorem JL (n : ByteArray) (f : Int) : exL (n,f) = ((⟨#[101,120,112,111,114,116,32]⟩ : ByteArray) ++ n ++ spB ++ bp f ++ nlB).data.toList:=by
 simp [exL,dh,dv,pn]
theorem Jf (a : Int) (b : (Option Addr × Nat × Nat)) (l : List Int) : daL (a,b,l) = ((⟨#[100,97,116,97,32]⟩ : ByteArray) ++ bp a ++ spB).data.toList ++ (gm l ++ [10]):=by
 simp [daL,dh,dv,zW]
theorem Ih (zs : List Int) (x : ByteArray) : bj (x :: zs.map bp) = x.data.toList ++ kX zs ++ [10]:=by
 induction zs generalizing x with
 | nil => simp [dv,kX]
 | cons z zs ih =>
  rw [List.map_cons,dh,ih]
  simp [kX,bp]
theorem Ez (y : InM) (hk : tkV y.1 ≠ -1) (h : tkV y.1 ≠ 3 → y.2.2.2 = []) : iW y = ((⟨#[32,32]⟩ : ByteArray) ++ ⟨(s9 y.1 y.2.1 y.2.2.2).toArray⟩ ++ nlB).data.toList:=by
 unfold iW fM s9
 have e : (ofV y.1).1.2.2.1 = tkV y.1:=by
  unfold tkV at hk ⊢
  split at hk
  ·rename_i h1; rw [if_pos h1]
  ·exact absurd rfl hk
 rw [e]
 by_cases h0 : tkV y.1 = 0
 ·rw [if_pos h0,if_neg ae,h ae]
  simp [dv,kX]
 ·rw [if_neg h0]
  by_cases h3 : tkV y.1 = 3
  ·rw [if_pos h3,if_neg ae,Ih]
   simp
  ·rw [if_neg h3,if_pos ⟨h0,h3⟩,h h3]
   simp [dh,dv,kX,bp]
theorem I0 (c : Int) (h0 : 0 ≤ c) (h1 : c ≤ 255) : (vN c).data.toList = gm [c]:=by
 obtain ⟨n,rfl⟩ : ∃ n : Nat,c = n:=⟨c.toNat,ae⟩;have hn : n ≤ 255:=ae;have key : ∀ k : Fin 256,(vN (k.val : Int)).data.toList = gm [(k.val : Int)]:=nW;exact key ⟨n,ae⟩
theorem FB {x : Gl} (hc : x.1 = 119 ∨ x.1 = 108) (hf : eJ x.2.2 x.1 = true) (h0 : 0 ≤ x.2.2) (h1 : x.2.2 < 18446744073709551616) : qG x.1 x.2.2 = sgn x.1 x.2.2:=by
 unfold qG sgn
 rcases hc with h | h
 ·rw [h] at hf ⊢
  have h3 : x.2.2 < 4294967296:=by simpa [eJ] using hf
  rw [if_pos rfl,if_pos rfl,if_pos h3];unfold wrap32
  split <;> omega
 ·rw [h,if_neg av,if_neg av];unfold wrap64
  split <;> omega
end Go.Proofs.YtheefojaplnnoaaGreatDoor

/-
  Texts Wg Wc Wh.
-/
import Derived.RegionDies
import Derived.Test.YtheefojaplnnoaaGreatDoorC00
import Derived.Test.YtheefojaplnnoaaGreatDoorC03
import Derived.Test.YtheefojaplnnoaaGreatDoorC04
set_option linter.unusedVariables false
set_option maxRecDepth 100000
set_option maxHeartbeats 16000000
namespace Go.Proofs.YtheefojaplnnoaaGreatDoor
open Go.RowKit
theorem rP (b : Bool) (w : World) : Calls Tryz.prog 188 #[.bool b] w fun e w' => e = .returned (.int .u8 (if b then 1 else 0)) ∧ w' = w:=by
 cases b
 all_goals
  go_enter Tryz.func188,Tryz.ntmps188
  exact kz
theorem qb (v p : Int) (w : World) (h : isL v = true) : Calls Tryz.prog 186 #[.int .u8 v,.int .i64 p] w (kO w):=by
 have HL:=hid (mU v w);rw [h] at HL
 go_enter Tryz.func186,Tryz.ntmps186
 go_wp2_with fail;refine HL.out.mono ?_;rintro e w1 ⟨rfl,rfl⟩;clear HL;exact Ae
theorem DV (v p : Int) (w : World) (h : isL v = false) : Calls Tryz.prog 186 #[.int .u8 v,.int .i64 p] w (kM 15 w):=by
 have HL:=hid (mU v w);rw [h] at HL
 go_enter Tryz.func186,Tryz.ntmps186
 go_wp2_with fail;refine HL.out.mono ?_;rintro e w1 ⟨rfl,rfl⟩;clear HL;go_wp2_with fail;refine (eF rfl).mono ?_;exact pc
def bit (b : Bool) : Int:=if b then 1 else 0
theorem LH (w : World) : Calls Tryz.prog 188 #[.bool false] w fun e w' => e = .returned (.int .u8 0) ∧ w' = w:=rP false w
theorem LA (w : World) : Calls Tryz.prog 188 #[.bool true] w fun e w' => e = .returned (.int .u8 1) ∧ w' = w:=rP true w
theorem EH (p : Int) (w : World) : Calls Tryz.prog 189 #[.int .u8 0,.int .i64 p] w (kO w):=by
 have HF:=hid LH
 go_enter Tryz.func189,Tryz.ntmps189
 go_wp2_with (first | (go_at_call 188; refine (HF.out _).mono ?_; rintro e w' ⟨rfl,rfl⟩) | (go_at_call 84; refine (cr rfl).mono ?_; rintro e w' ⟨rfl,rfl⟩))
 go_end0;exact ⟨rfl,Below.refl _ _⟩
theorem Gp (p : Int) (w : World) : Calls Tryz.prog 189 #[.int .u8 1,.int .i64 p] w (kO w):=by
 have HF:=hid LH;have HT:=hid LA
 go_enter Tryz.func189,Tryz.ntmps189
 go_wp2_with fail;refine (HF.out _).mono ?_;rintro e w' ⟨rfl,rfl⟩
 go_wp2_with (first | (go_at_call 188; refine (HT.out _).mono ?_; rintro e w' ⟨rfl,rfl⟩) | (go_at_call 84; refine (cr rfl).mono ?_; rintro e w' ⟨rfl,rfl⟩))
 go_end0;exact ⟨rfl,Below.refl _ _⟩
theorem ro (c v : Int) (h0 : 0 ≤ v) (h : v < 18446744073709551616) : -9223372036854775808 ≤ sgn c v ∧ sgn c v < 9223372036854775808:=by
 unfold sgn; split <;> split <;> (try split) <;> omega
theorem NH {v : Int} (h0 : 0 ≤ v) (h : v < 4294967296) : wrap64 (wrap32 v) = sgn 119 v:=by
 unfold sgn wrap64 wrap32;rw [if_pos rfl,if_pos h]
 split <;> omega
theorem Ob {c v : Int} (hc : c ≠ 119) (h0 : 0 ≤ v) (h : v < 18446744073709551616) : wrap64 v = sgn c v:=by
 unfold sgn wrap64;rw [if_neg hc]
 split <;> omega
theorem oC (c v : Int) (mu : Bool) (w : World) (h0 : 0 ≤ v) (h1 : v < 18446744073709551616) : Calls Tryz.prog 190 #[.agg #[.int .u8 c,.bool mu,.int .u64 v]] w fun e w' => e = .returned (.int .i64 (sgn c v)) ∧ Below w.heap.size w w':=by
 have B1:=hid (ag w (aN c mu v))
 by_cases hc : c = 119
 ·subst hc
  have HF:=hid (fun W => Nw v 119 W)
  by_cases hv : v < 4294967296
  ·have hf : fP v 119 = true:=by simp [fP,hv]
   rw [hf] at HF;have HS:=hid (NH h0 hv)
   go_enter Tryz.func190,Tryz.ntmps190
   go_wp2_with (first | (go_at_call 231; refine (HF.out _).mono ?_; rintro e w' ⟨rfl,rfl⟩))
   exact AP
  ·have hf : fP v 119 = false:=by simp [fP,hv]
   rw [hf] at HF
   have hs : sgn 119 v = 9223372036854775807:=by unfold sgn; rw [if_pos rfl,if_neg hv]
   rw [hs]
   go_enter Tryz.func190,Tryz.ntmps190
   go_wp2_with (first | (go_at_call 231; refine (HF.out _).mono ?_; rintro e w' ⟨rfl,rfl⟩))
   go_ret;exact ⟨rfl,B1.out⟩
 ·have hc' : (c != 119) = true:=by simp [hc]
  have HS:=hid (Ob hc h0 h1)
  go_enter Tryz.func190,Tryz.ntmps190
  go_wp2_with fail;exact AP
theorem Mt {v : Int} (h0 : 0 ≤ v) (h : v < 4294967296) : sgn 119 v % 4294967296 = v:=by
 unfold sgn;rw [if_pos rfl,if_pos h]
 split <;> omega
theorem NE {c v : Int} (hc : c ≠ 119) (h0 : 0 ≤ v) (h : v < 18446744073709551616) : IntKind.u64.wrap (sgn c v) = v:=by
 unfold sgn;rw [if_neg hc]
 split <;> simp [IntKind.wrap,IntKind.bits,IntKind.signed] <;> omega
theorem qf (c v : Int) (w : World) (h0 : 0 ≤ v) (h1 : v < 18446744073709551616) (h2 : c = 119 → v < 4294967296) : Calls Tryz.prog 192 #[.int .u8 c,.int .i64 (sgn c v)] w fun e w' => e = .returned (.int .u64 v) ∧ w' = w:=by
 by_cases hc : c = 119
 ·subst hc;have hb:=Mt h0 (h2 rfl);generalize sgn 119 v = x at *
  go_enter Tryz.func192,Tryz.ntmps192
  go_wp2_with fail;go_ret
  first | exact ⟨rfl,rfl⟩ | exact ⟨congrArg (fun x => Ending.returned (.int .u64 x)) hb,rfl⟩
 ·have hb:=NE hc h0 h1;generalize sgn c v = x at *
  have hc' : (c == 119) = false:=by simp [hc]
  go_enter Tryz.func192,Tryz.ntmps192
  exact kz
theorem EN {v : Int} (h0 : 0 ≤ v) (h1 : v < 18446744073709551616) : (sgn 119 v == wrap64 (wrap32 (sgn 119 v))) = decide (v < 4294967296):=by
 unfold sgn wrap64 wrap32;rw [if_pos rfl]
 by_cases h : v < 4294967296
 ·rw [if_pos h]
  simp only [h,decide_true,beq_iff_eq]
  split <;> omega
 ·rw [if_neg h]
  simp only [h,decide_false]
  decide
theorem xP (B : Nat) (c v p : Int) (w : World) (h0 : 0 ≤ v) (h1 : v < 18446744073709551616) (hB : w.cell? ⟨B,0,none⟩ = some (.int .u8 c)) (h : c = 119 → v < 4294967296) :
  Calls Tryz.prog 191 #[.int .i64 (sgn c v),.int .i64 p,.pointer (some ⟨B,0,none⟩)] w (kO w):=by
 by_cases hc : c = 119
 ·subst hc;have hs:=EN h0 h1;rw [decide_eq_true (h rfl)] at hs;generalize sgn 119 v = x at *
  go_enter Tryz.func191,Tryz.ntmps191
  go_wp2_with fail
  refine (cr (by first | rfl | exact hs)).mono ?_
  exact Cr
 ·have hc' : (c != 119) = true:=by simp [hc]
  generalize sgn c v = x at *
  go_enter Tryz.func191,Tryz.ntmps191
  go_wp2_with fail;refine (cr rfl).mono ?_;exact Cr
theorem DA (B : Nat) (v p : Int) (w : World) (h0 : 0 ≤ v) (h1 : v < 18446744073709551616) (hB : w.cell? ⟨B,0,none⟩ = some (.int .u8 119)) (h : ¬ v < 4294967296) :
  Calls Tryz.prog 191 #[.int .i64 (sgn 119 v),.int .i64 p,.pointer (some ⟨B,0,none⟩)] w (kM 17 w):=by
 have hs:=EN h0 h1;rw [decide_eq_false h] at hs;generalize sgn 119 v = x at *
 go_enter Tryz.func191,Tryz.ntmps191
 go_wp2_with fail
 refine (eF (by first | rfl | exact hs)).mono ?_
 rintro e w' ⟨rfl,rfl⟩;exact ⟨rfl,⟨_,rfl⟩,Below.refl _ _⟩
theorem Lt (b : Bool) (w : World) : Calls Tryz.prog 188 #[.bool b] w fun e w' => e = .returned (.int .u8 (bit b)) ∧ w' = w:=rP b w
theorem Gv (b : Bool) (p : Int) (w : World) : Calls Tryz.prog 189 #[.int .u8 (bit b),.int .i64 p] w (kO w):=by
 cases b
 ·exact EH p w
 ·exact Gp p w
theorem kw (b : Bool) : 0 ≤ bit b ∧ bit b ≤ 255:=by cases b <;> decide
theorem II (b : Bool) : (bit b == 1) = b:=by cases b <;> decide
theorem aH {w : World} {b : Nat} {u v x : Value} {t : TypeId} (h : w.heap[b]? = some (.cells #[u,v,x] t)) : w.cell? ⟨b,0,none⟩ = some u ∧ w.cell? ⟨b,1,none⟩ = some v ∧ w.cell? ⟨b,2,none⟩ = some x ∧ w.frozen? ⟨b,0,none⟩ = false ∧ w.frozen? ⟨b,1,none⟩ = false ∧ w.frozen? ⟨b,2,none⟩ = false:=by
 simp [World.cell?,World.frozen?,h]
theorem rD (a : Addr) (w : World) : (nilAhead 481 150 (.pointer (some a)) "flagon/module.octet").run Tryz.prog w = .ok (some false) w:=rfl
theorem pV (a : Addr) (w : World) : (nilAhead 481 150 (.pointer (some a)) "flagon/module.signed").run Tryz.prog w = .ok (some false) w:=rfl
def pL (w : World) (c v : Int) (mu : Bool) : World:=(w.alloc (aN c mu v)).alloc (aN 0 false 0)
theorem kV (w : World) (c v : Int) (mu : Bool) : Below w.heap.size w (pL w c v mu) ∧ (pL w c v mu).heap.size = w.heap.size + 1 + 1 ∧ (pL w c v mu).heap[w.heap.size]? = some (aN c mu v) ∧ (pL w c v mu).heap[w.heap.size + 1]? = some (aN 0 false 0):=by
 unfold pL;refine ⟨((Below.refl _ w).alloc (Nat.le_refl _) _).alloc ar _,ar,?_,?_⟩
 ·exact AB
 ·have:=(MapKept.heap_alloc (w.alloc (aN c mu v)) (aN 0 false 0)).1
  exact bX
theorem vI (R g cap : Nat) (bs : List Int) (c v : Int) (mu : Bool) (w : World) (h : Wr w R g cap bs) (hb : bs.length + 100 ≤ 1099511627776) (h0 : 0 ≤ c) (h1 : c ≤ 255) (v0 : 0 ≤ v) (v1 : v < 18446744073709551616) (hl : isL c = true) (hv : c = 119 → v < 4294967296) :
  Calls Tryz.prog 139 #[cW R,.agg #[.int .u8 c,.bool mu,.int .u64 v]] w (nX R g bs (dt (c,mu,v)) (.agg #[.int .u8 c,.bool mu,.int .u64 v]) w):=by
 have hmo:=lh;have hco:=qo;have hms:=ol;have hcs:=vV;have hno:=rD;have hns:=pV;obtain ⟨B0,z0,x0,x1⟩:=kV w c v mu;have HW : (w.alloc (aN c mu v)).alloc (aN 0 false 0) = pL w c v mu:=rfl;have hRl:=h.lt;have hgl:=h.g_lt;generalize pL w c v mu = W1 at *
 have H1:=hid (gQ R g cap bs c 186 #[] W1 (h.later B0) h0 h1 ae (fun _ _ => rfl) (qb c _ W1 hl))
 have BW:=hid B0;obtain ⟨a0,a1,a2,_,_,_⟩:=aH x0;clear h B0
 go_enter Tryz.func139,Tryz.ntmps139
 go_wp2_with fail;refine H1.out.mono ?_;rintro e w2 ⟨rfl,g1,cap1,hw2,hs2⟩;have y0:=(hs2.block (b:=w.heap.size) ae ae ae).trans x0;have y1:=(hs2.block (b:=w.heap.size + 1) ae ae ae).trans x1;have n0 : w.heap.size ≠ g1:=hs2.ne ae ae;have n1 : w.heap.size + 1 ≠ g1:=hs2.ne ae ae;have S2:=hid ((Stp.of_below BW.out).trans hs2);have z2:=S2.out.size;have z2':=hs2.size;have gl2:=hw2.g_lt;obtain ⟨w3,hw3⟩ : ∃ w3,w2.alloc (jb c) = w3:=⟨_,rfl⟩
 have B3 : Below w2.heap.size w2 w3:=by rw [← hw3]; exact ag _ _
 have z3 : w3.heap.size = w2.heap.size + 1:=by rw [← hw3]; simp
 have l3 : w3.cell? ⟨w2.heap.size,0,none⟩ = some (.int .u8 c):=by rw [← hw3]; exact fE _ _ _
 have q0:=(B3.block w.heap.size ae).trans y0;have q1:=(B3.block (w.heap.size + 1) ae).trans y1;obtain ⟨b0,b1,b2,_,_,_⟩:=aH q0
 have HO2:=hid (gQ R g1 cap1 (bs ++ [c]) (bit mu) 189 #[] w3.drew ((hw2.later B3).later (Below.refl _ _).drew) (kw mu).1 (kw mu).2 aL (fun _ _ => rfl) (Gv mu _ w3.drew))
 have HF:=hid (Lt mu);have BB3:=hid B3;clear hs2 hw2 H1 x0 x1 a0 a1 a2 y0 y1 B3 HW;go_wp2_with fail
 go_region_held3 (fun W => W.cell? ⟨w.heap.size,1,none⟩ = some (.bool mu)) (assumption) (first
  | (go_at_call 188; refine (HF.out _).mono ?_; rintro e w' ⟨rfl,rfl⟩)
  | (go_at_call 320; refine HO2.out.mono ?_; rintro e w4 ⟨rfl,g2,cap2,hw4,hs4⟩; have hS' : w4.cell? ⟨w.heap.size,1,none⟩ = some (.bool mu):=hs4.cell b1 ae n0; have W4:=hid hw4; have S4:=hid hs4; clear hw4 hs4))
 all_goals
  have f0:=(S4.out.block (b:=w.heap.size) aL ae n0).trans q0;have f1:=(S4.out.block (b:=w.heap.size + 1) aL ae n1).trans q1;have f2:=S4.out.cell (b:=w2.heap.size) l3 ae ae;obtain ⟨d0,d1,d2,_,_,_⟩:=aH f0;have m0 : w.heap.size ≠ g2:=S4.out.ne aL n0;have m1 : w.heap.size + 1 ≠ g2:=S4.out.ne aL n1;have m2 : w2.heap.size ≠ g2:=S4.out.ne aL ae;have z4 : w3.heap.size ≤ w4.heap.size:=S4.out.size;have S4':=hid ((S2.out.trans (Stp.of_below BB3.out)).trans ((Stp.of_below ((Below.refl _ _).drew)).trans S4.out))
  have HWS:=hid (fun W => oC c v mu W v0 v1)
  clear S4 HO2 HF hS' q0 q1 b0 b1 b2 l3 hno hmo hco;go_wp2_with fail
  have HSG:=hid (fun W (hW : Below w4.heap.size w4 W) => qN R g2 cap2 (bs ++ [c] ++ [bit mu]) (sgn c v) 191 #[.pointer (some ⟨w2.heap.size,0,none⟩)] W (W4.out.later hW) (ro c v v0 v1).1 (ro c v v0 v1).2 aL (fun _ _ => rfl) (xP w2.heap.size c v _ W v0 v1 ((hW.cell xY).trans f2) hv))
  have HB4:=hid (fun (W5 : World) (hb : Below w4.heap.size w4.drew W5) => (Below.trans ((Below.refl w4.heap.size w4).drew) hb : Below w4.heap.size w4 W5))
  have HC4:=hid (fun (W5 : World) (hb : Below w4.heap.size w4 W5) => (⟨(hb.cell (by exact block_lt_of_cell d0)).trans d0,(hb.cell (by exact block_lt_of_cell d1)).trans d1,(hb.cell (by exact block_lt_of_cell d2)).trans d2⟩ : W5.cell? ⟨w.heap.size,0,none⟩ = some (.int .u8 c) ∧ W5.cell? ⟨w.heap.size,1,none⟩ = some (.bool mu) ∧ W5.cell? ⟨w.heap.size,2,none⟩ = some (.int .u64 v)))
  go_region_held3 (fun W => W.cell? ⟨w.heap.size,0,none⟩ = some (.int .u8 c) ∧ W.cell? ⟨w.heap.size,1,none⟩ = some (.bool mu) ∧ W.cell? ⟨w.heap.size,2,none⟩ = some (.int .u64 v)) (first | assumption | exact ⟨d0,d1,d2⟩) (first
   | (go_at_call 190; refine (HWS.out _).mono ?_; rintro e w5 ⟨rfl,hb5⟩; have hB5:=hid (HB4.out w5 hb5); have hS':=HC4.out w5 hB5.out; clear hb5)
   | (go_at_call 322; refine (HSG.out _ hB5.out).mono ?_; rintro e w6 ⟨rfl,g3,cap3,hw6,hs6⟩; have hS'' : w6.cell? ⟨w.heap.size,0,none⟩ = some (.int .u8 c) ∧ w6.cell? ⟨w.heap.size,1,none⟩ = some (.bool mu) ∧ w6.cell? ⟨w.heap.size,2,none⟩ = some (.int .u64 v):=⟨hs6.cell hS'.1 ae m0,hs6.cell hS'.2.1 ae m0,hs6.cell hS'.2.2 ae m0⟩; have W6:=hid hw6; have S6:=hid hs6; clear hw6 hs6))
  all_goals
   have z5:=hB5.out.size;have e1:=(S6.out.block (b:=w.heap.size + 1) ae ae m1).trans ((hB5.out.block _ ae).trans f1);have e2:=S6.out.cell (b:=w2.heap.size) ((hB5.out.cell xY).trans f2) ae m2;have p1 : w.heap.size + 1 ≠ g3:=S6.out.ne ae m1;have S6':=hid ((S4'.out.trans (Stp.of_below hB5.out)).trans S6.out);obtain ⟨k0,k1,k2,k3,k4,k5⟩:=aH e1;have hlt6:=block_lt_of_cell e2;have hlt7:=block_lt_of_cell k0;have HF:=hid (LA)
   have HWO:=hid (fun W => qf c v W v0 v1 hv)
   clear S6 HSG HB4 HC4 HWS hS' hS'' f0 f1 f2 d0 d1 d2 hns hms hcs e1;go_wp2_with fail;have hbb:=II mu
   go_region_held3 (fun W => W.cell? ⟨w2.heap.size,0,none⟩ = some (.int .u8 c)) (first | assumption | (simp [go_sem]; assumption) | (rw [World.cell?_setCell_other _ _ _ _ aL,World.cell?_setCell_other _ _ _ _ aL,World.cell?_setCell_other _ _ _ _ aL]; assumption)) (first
    | (go_at_call 188; refine (HF.out _).mono ?_; rintro e w' ⟨rfl,rfl⟩)
    | (go_at_call 192; refine (HWO.out _).mono ?_; rintro e w' ⟨rfl,rfl⟩))
   all_goals
    go_wp2_with fail;refine bodyPost_ret (v:=.agg #[.int .u8 c,.bool mu,.int .u64 v]) ?_ rfl ⟨rfl,g3,cap3,?_,?_⟩
    ·exact fF
    ·have:=(((W6.out.set (b:=w.heap.size + 1) (o:=0) (v:=.int .u8 c) ae p1).set (b:=w.heap.size + 1) (o:=1) (v:=.bool mu) ae p1).set (b:=w.heap.size + 1) (o:=2) (v:=.int .u64 v) ae p1).later (Below.refl _ _).drew
     simpa [dt,bit,List.append_assoc] using this
    ·exact (((S6'.out.set ae).set ae).set ae).trans (Stp.of_below ((Below.refl _ _).drew))
theorem gh (w : World) (a b : Obj) : Below w.heap.size w ((w.alloc a).alloc b) ∧ ((w.alloc a).alloc b).heap.size = w.heap.size + 1 + 1 ∧ ((w.alloc a).alloc b).heap[w.heap.size]? = some a ∧ ((w.alloc a).alloc b).heap[w.heap.size + 1]? = some b:=by
 refine ⟨((Below.refl _ w).alloc (Nat.le_refl _) _).alloc ar _,ar,?_,?_⟩
 ·rw [(ag (w.alloc a) b).block _ ar];exact (MapKept.heap_alloc w a).1
 ·have:=(MapKept.heap_alloc (w.alloc a) b).1
  exact bX
theorem zk (R g cap : Nat) (bs : List Int) (x : (ByteArray × ByteArray)) (aa : Option Addr) (an ac : Nat) (A : Nat)  (w : World) (h : Wr w R g cap bs) (hA : w.cell? ⟨A,0,none⟩ = some (cW R))
  (P : (ByteArray × ByteArray) → Prop) (new : List Int) (hcall : ∀ W,Below w.heap.size w W → Calls Tryz.prog 133 #[cW R,.agg #[.string x.1,.string x.2],.slice aa an ac] W (fun e w' => ∃ y : (ByteArray × ByteArray),e = .returned (.agg #[.string y.1,.string y.2]) ∧ P y ∧ ∃ g' cap',Wr w' R g' cap' new ∧ Stp R g g' W w')) :
  Calls Tryz.prog 132 #[.agg #[.string x.1,.string x.2],.slice aa an ac,.pointer (some ⟨A,0,none⟩)] w (fun e w' => ∃ y : (ByteArray × ByteArray),e = .returned (.agg #[.string y.1,.string y.2]) ∧ P y ∧ ∃ g' cap',Wr w' R g' cap' new ∧ Stp R g g' w w'):=by
 obtain ⟨B0,z0,x0,x1⟩:=gh w (aX x.1 x.2) (aX ⟨#[]⟩ ⟨#[]⟩);have hRl:=h.lt;have hgl:=h.g_lt;have hA1:=(B0.cell gH).trans hA;have HC:=hid (hcall _ B0);obtain ⟨W1,hW1⟩ : ∃ W1,(w.alloc (aX x.1 x.2)).alloc (aX ⟨#[]⟩ ⟨#[]⟩) = W1:=⟨_,rfl⟩;rw [hW1] at B0 z0 x0 x1 hA1 HC;have BW:=hid B0;obtain ⟨a0,a1,_,_⟩:=bU x0;clear h B0 hA hcall
 go_enter Tryz.func132,Tryz.ntmps132
 go_wp2_with fail;refine HC.out.mono ?_;rintro e w5 ⟨y,rfl,hP,g',cap',hw5,hs5⟩;have q1:=(hs5.block (b:=w.heap.size + 1) ae ae ae).trans x1;have n1 : w.heap.size + 1 ≠ g':=hs5.ne ae ae;obtain ⟨k0,k1,k2,k3⟩:=bU q1;have hl1:=block_lt_of_cell k0;have W5:=hid hw5;have S5:=hid ((Stp.of_below BW.out).trans hs5);clear hw5 hs5 x0 x1 q1 HC;go_wp2_with fail;refine bodyPost_ret (v:=.agg #[.string y.1,.string y.2]) ?_ rfl ⟨y,rfl,hP,g',cap',?_,?_⟩
 ·exact fF
 ·exact sJ
 ·exact uD
theorem CH (R g cap : Nat) (bs : List Int) (x : (ByteArray × ByteArray)) (aa : Option Addr) (an ac : Nat) (A : Nat)  (w : World) (h : Wr w R g cap bs) (hA : w.cell? ⟨A,0,none⟩ = some (cW R))
  (er : Int) (hcall : ∀ W,Below w.heap.size w W → Calls Tryz.prog 133 #[cW R,.agg #[.string x.1,.string x.2],.slice aa an ac] W (aJ R g er W)) :
  Calls Tryz.prog 132 #[.agg #[.string x.1,.string x.2],.slice aa an ac,.pointer (some ⟨A,0,none⟩)] w (aJ R g er w):=by
 obtain ⟨B0,z0,x0,x1⟩:=gh w (aX x.1 x.2) (aX ⟨#[]⟩ ⟨#[]⟩);have hRl:=h.lt;have hgl:=h.g_lt;have hA1:=(B0.cell gH).trans hA;have HC:=hid (hcall _ B0);obtain ⟨W1,hW1⟩ : ∃ W1,(w.alloc (aX x.1 x.2)).alloc (aX ⟨#[]⟩ ⟨#[]⟩) = W1:=⟨_,rfl⟩;rw [hW1] at B0 z0 x0 x1 hA1 HC;have BW:=hid B0;obtain ⟨a0,a1,_,_⟩:=bU x0;clear h B0 hA hcall
 go_enter Tryz.func132,Tryz.ntmps132
 exact m8
theorem x9 (R g cap : Nat) (bs : List Int) (x : (Int × Bool × Int)) (aa : Option Addr) (an ac : Nat) (A : Nat)  (w : World) (h : Wr w R g cap bs) (hA : w.cell? ⟨A,0,none⟩ = some (cW R))
  (P : (Int × Bool × Int) → Prop) (new : List Int) (hcall : ∀ W,Below w.heap.size w W → Calls Tryz.prog 139 #[cW R,.agg #[.int .u8 x.1,.bool x.2.1,.int .u64 x.2.2]] W (fun e w' => ∃ y : (Int × Bool × Int),e = .returned (.agg #[.int .u8 y.1,.bool y.2.1,.int .u64 y.2.2]) ∧ P y ∧ ∃ g' cap',Wr w' R g' cap' new ∧ Stp R g g' W w')) :
  Calls Tryz.prog 138 #[.agg #[.int .u8 x.1,.bool x.2.1,.int .u64 x.2.2],.slice aa an ac,.pointer (some ⟨A,0,none⟩)] w (fun e w' => ∃ y : (Int × Bool × Int),e = .returned (.agg #[.int .u8 y.1,.bool y.2.1,.int .u64 y.2.2]) ∧ P y ∧ ∃ g' cap',Wr w' R g' cap' new ∧ Stp R g g' w w'):=by
 obtain ⟨B0,z0,x0,x1⟩:=gh w (aN x.1 x.2.1 x.2.2) (aN 0 false 0);have hRl:=h.lt;have hgl:=h.g_lt;have hA1:=(B0.cell gH).trans hA;have HC:=hid (hcall _ B0);obtain ⟨W1,hW1⟩ : ∃ W1,(w.alloc (aN x.1 x.2.1 x.2.2)).alloc (aN 0 false 0) = W1:=⟨_,rfl⟩;rw [hW1] at B0 z0 x0 x1 hA1 HC;have BW:=hid B0;obtain ⟨a0,a1,a2,_,_,_⟩:=aH x0;clear h B0 hA hcall
 go_enter Tryz.func138,Tryz.ntmps138
 go_wp2_with fail;refine HC.out.mono ?_;rintro e w5 ⟨y,rfl,hP,g',cap',hw5,hs5⟩;have q1:=(hs5.block (b:=w.heap.size + 1) ae ae ae).trans x1;have n1 : w.heap.size + 1 ≠ g':=hs5.ne ae ae;obtain ⟨k0,k1,k2,k3,k4,k5⟩:=aH q1;have hl1:=block_lt_of_cell k0;have W5:=hid hw5;have S5:=hid ((Stp.of_below BW.out).trans hs5);clear hw5 hs5 x0 x1 q1 HC;go_wp2_with fail;refine bodyPost_ret (v:=.agg #[.int .u8 y.1,.bool y.2.1,.int .u64 y.2.2]) ?_ rfl ⟨y,rfl,hP,g',cap',?_,?_⟩
 ·exact fF
 ·exact (((W5.out.set (b:=w.heap.size + 1) ae n1).set (b:=w.heap.size + 1) ae n1).set (b:=w.heap.size + 1) ae n1)
 ·exact (((S5.out.set ae).set ae).set ae)
theorem DJ (R g cap : Nat) (bs : List Int) (x : (Int × Bool × Int)) (aa : Option Addr) (an ac : Nat) (A : Nat)  (w : World) (h : Wr w R g cap bs) (hA : w.cell? ⟨A,0,none⟩ = some (cW R))
  (er : Int) (hcall : ∀ W,Below w.heap.size w W → Calls Tryz.prog 139 #[cW R,.agg #[.int .u8 x.1,.bool x.2.1,.int .u64 x.2.2]] W (aJ R g er W)) :
  Calls Tryz.prog 138 #[.agg #[.int .u8 x.1,.bool x.2.1,.int .u64 x.2.2],.slice aa an ac,.pointer (some ⟨A,0,none⟩)] w (aJ R g er w):=by
 obtain ⟨B0,z0,x0,x1⟩:=gh w (aN x.1 x.2.1 x.2.2) (aN 0 false 0);have hRl:=h.lt;have hgl:=h.g_lt;have hA1:=(B0.cell gH).trans hA;have HC:=hid (hcall _ B0);obtain ⟨W1,hW1⟩ : ∃ W1,(w.alloc (aN x.1 x.2.1 x.2.2)).alloc (aN 0 false 0) = W1:=⟨_,rfl⟩;rw [hW1] at B0 z0 x0 x1 hA1 HC;have BW:=hid B0;obtain ⟨a0,a1,a2,_,_,_⟩:=aH x0;clear h B0 hA hcall
 go_enter Tryz.func138,Tryz.ntmps138
 exact m8
theorem yU (R g cap : Nat) (bs : List Int) (x : (Int × (Option Addr × Nat × Nat) × List Int)) (aa : Option Addr) (an ac : Nat) (A : Nat) (O : Nat) (fi : Int) (w : World) (h : Wr w R g cap bs) (hA : w.cell? ⟨A,0,none⟩ = some (cW R)) (hO : w.cell? ⟨O,3,none⟩ = some (.int .i64 fi)) (hf0 : 0 ≤ fi) (hf1 : fi ≤ 64)
  (P : (Int × (Option Addr × Nat × Nat)) → Prop) (new : List Int) (hcall : ∀ W,Below w.heap.size w W → Calls Tryz.prog 146 #[cW R,.agg #[.int .i64 x.1,.slice x.2.1.1 x.2.1.2.1 x.2.1.2.2],.slice aa an ac,.int .i64 (fi * 4096)] W (fun e w' => ∃ y : (Int × (Option Addr × Nat × Nat)),e = .returned (.agg #[.int .i64 y.1,.slice y.2.1 y.2.2.1 y.2.2.2]) ∧ P y ∧ ∃ g' cap',Wr w' R g' cap' new ∧ Stp R g g' W w')) :
  Calls Tryz.prog 145 #[.agg #[.int .i64 x.1,.slice x.2.1.1 x.2.1.2.1 x.2.1.2.2],.slice aa an ac,.pointer (some ⟨A,0,none⟩),.pointer (some ⟨O,0,none⟩)] w (fun e w' => ∃ y : (Int × (Option Addr × Nat × Nat)),e = .returned (.agg #[.int .i64 y.1,.slice y.2.1 y.2.2.1 y.2.2.2]) ∧ P y ∧ ∃ g' cap',Wr w' R g' cap' new ∧ Stp R g g' w w'):=by
 obtain ⟨B0,z0,x0,x1⟩:=gh w (aW x.1 x.2.1.1 x.2.1.2.1 x.2.1.2.2) (aW 0 none 0 0);have hRl:=h.lt;have hgl:=h.g_lt;have hA1:=(B0.cell gH).trans hA;have hO1:=(B0.cell (p:=⟨O,3,none⟩) nQ).trans hO;have hwf : wrap64 (fi * 4096) = fi * 4096:=eu;have HC:=hid (hcall _ B0);obtain ⟨W1,hW1⟩ : ∃ W1,(w.alloc (aW x.1 x.2.1.1 x.2.1.2.1 x.2.1.2.2)).alloc (aW 0 none 0 0) = W1:=⟨_,rfl⟩;rw [hW1] at B0 z0 x0 x1 hA1 HC hO1;have BW:=hid B0;obtain ⟨a0,a1,_,_⟩:=bU x0;clear h B0 hA hcall
 go_enter Tryz.func145,Tryz.ntmps145
 go_wp2_with fail;refine HC.out.mono ?_;rintro e w5 ⟨y,rfl,hP,g',cap',hw5,hs5⟩;have q1:=(hs5.block (b:=w.heap.size + 1) ae ae ae).trans x1;have n1 : w.heap.size + 1 ≠ g':=hs5.ne ae ae;obtain ⟨k0,k1,k2,k3⟩:=bU q1;have hl1:=block_lt_of_cell k0;have W5:=hid hw5;have S5:=hid ((Stp.of_below BW.out).trans hs5);clear hw5 hs5 x0 x1 q1 HC;go_wp2_with fail;refine bodyPost_ret (v:=.agg #[.int .i64 y.1,.slice y.2.1 y.2.2.1 y.2.2.2]) ?_ rfl ⟨y,rfl,hP,g',cap',?_,?_⟩
 ·exact fF
 ·exact sJ
 ·exact uD
theorem Df (R g cap : Nat) (bs : List Int) (x : (Int × (Option Addr × Nat × Nat) × List Int)) (aa : Option Addr) (an ac : Nat) (A : Nat) (O : Nat) (fi : Int) (w : World) (h : Wr w R g cap bs) (hA : w.cell? ⟨A,0,none⟩ = some (cW R)) (hO : w.cell? ⟨O,3,none⟩ = some (.int .i64 fi)) (hf0 : 0 ≤ fi) (hf1 : fi ≤ 64)
  (er : Int) (hcall : ∀ W,Below w.heap.size w W → Calls Tryz.prog 146 #[cW R,.agg #[.int .i64 x.1,.slice x.2.1.1 x.2.1.2.1 x.2.1.2.2],.slice aa an ac,.int .i64 (fi * 4096)] W (aJ R g er W)) :
  Calls Tryz.prog 145 #[.agg #[.int .i64 x.1,.slice x.2.1.1 x.2.1.2.1 x.2.1.2.2],.slice aa an ac,.pointer (some ⟨A,0,none⟩),.pointer (some ⟨O,0,none⟩)] w (aJ R g er w):=by
 obtain ⟨B0,z0,x0,x1⟩:=gh w (aW x.1 x.2.1.1 x.2.1.2.1 x.2.1.2.2) (aW 0 none 0 0);have hRl:=h.lt;have hgl:=h.g_lt;have hA1:=(B0.cell gH).trans hA;have hO1:=(B0.cell (p:=⟨O,3,none⟩) nQ).trans hO;have hwf : wrap64 (fi * 4096) = fi * 4096:=eu;have HC:=hid (hcall _ B0);obtain ⟨W1,hW1⟩ : ∃ W1,(w.alloc (aW x.1 x.2.1.1 x.2.1.2.1 x.2.1.2.2)).alloc (aW 0 none 0 0) = W1:=⟨_,rfl⟩;rw [hW1] at B0 z0 x0 x1 hA1 HC hO1;have BW:=hid B0;obtain ⟨a0,a1,_,_⟩:=bU x0;clear h B0 hA hcall
 go_enter Tryz.func145,Tryz.ntmps145
 exact m8
theorem xA (R g cap : Nat) (bs : List Int) (x : (ByteArray × Int)) (aa : Option Addr) (an ac : Nat) (A : Nat) (O : Nat) (fa : Option Addr) (fn fc : Nat) (w : World) (h : Wr w R g cap bs) (hA : w.cell? ⟨A,0,none⟩ = some (cW R)) (hO : w.cell? ⟨O,5,none⟩ = some (.slice fa fn fc))
  (P : (ByteArray × Int) → Prop) (new : List Int) (hcall : ∀ W,Below w.heap.size w W → Calls Tryz.prog 149 #[cW R,.agg #[.string x.1,.int .i64 x.2],.slice aa an ac,.int .i64 fn] W (fun e w' => ∃ y : (ByteArray × Int),e = .returned (.agg #[.string y.1,.int .i64 y.2]) ∧ P y ∧ ∃ g' cap',Wr w' R g' cap' new ∧ Stp R g g' W w')) :
  Calls Tryz.prog 148 #[.agg #[.string x.1,.int .i64 x.2],.slice aa an ac,.pointer (some ⟨A,0,none⟩),.pointer (some ⟨O,0,none⟩)] w (fun e w' => ∃ y : (ByteArray × Int),e = .returned (.agg #[.string y.1,.int .i64 y.2]) ∧ P y ∧ ∃ g' cap',Wr w' R g' cap' new ∧ Stp R g g' w w'):=by
 obtain ⟨B0,z0,x0,x1⟩:=gh w (aZ x.1 x.2) (aZ ⟨#[]⟩ 0);have hRl:=h.lt;have hgl:=h.g_lt;have hA1:=(B0.cell gH).trans hA;have hO1:=(B0.cell (p:=⟨O,5,none⟩) nQ).trans hO;have HC:=hid (hcall _ B0);obtain ⟨W1,hW1⟩ : ∃ W1,(w.alloc (aZ x.1 x.2)).alloc (aZ ⟨#[]⟩ 0) = W1:=⟨_,rfl⟩;rw [hW1] at B0 z0 x0 x1 hA1 HC hO1;have BW:=hid B0;obtain ⟨a0,a1,_,_⟩:=bU x0;clear h B0 hA hcall
 go_enter Tryz.func148,Tryz.ntmps148
 go_wp2_with fail;refine HC.out.mono ?_;rintro e w5 ⟨y,rfl,hP,g',cap',hw5,hs5⟩;have q1:=(hs5.block (b:=w.heap.size + 1) ae ae ae).trans x1;have n1 : w.heap.size + 1 ≠ g':=hs5.ne ae ae;obtain ⟨k0,k1,k2,k3⟩:=bU q1;have hl1:=block_lt_of_cell k0;have W5:=hid hw5;have S5:=hid ((Stp.of_below BW.out).trans hs5);clear hw5 hs5 x0 x1 q1 HC;go_wp2_with fail;refine bodyPost_ret (v:=.agg #[.string y.1,.int .i64 y.2]) ?_ rfl ⟨y,rfl,hP,g',cap',?_,?_⟩
 ·exact fF
 ·exact sJ
 ·exact uD
theorem C3 (R g cap : Nat) (bs : List Int) (x : (ByteArray × Int)) (aa : Option Addr) (an ac : Nat) (A : Nat) (O : Nat) (fa : Option Addr) (fn fc : Nat) (w : World) (h : Wr w R g cap bs) (hA : w.cell? ⟨A,0,none⟩ = some (cW R)) (hO : w.cell? ⟨O,5,none⟩ = some (.slice fa fn fc))
  (er : Int) (hcall : ∀ W,Below w.heap.size w W → Calls Tryz.prog 149 #[cW R,.agg #[.string x.1,.int .i64 x.2],.slice aa an ac,.int .i64 fn] W (aJ R g er W)) :
  Calls Tryz.prog 148 #[.agg #[.string x.1,.int .i64 x.2],.slice aa an ac,.pointer (some ⟨A,0,none⟩),.pointer (some ⟨O,0,none⟩)] w (aJ R g er w):=by
 obtain ⟨B0,z0,x0,x1⟩:=gh w (aZ x.1 x.2) (aZ ⟨#[]⟩ 0);have hRl:=h.lt;have hgl:=h.g_lt;have hA1:=(B0.cell gH).trans hA;have hO1:=(B0.cell (p:=⟨O,5,none⟩) nQ).trans hO;have HC:=hid (hcall _ B0);obtain ⟨W1,hW1⟩ : ∃ W1,(w.alloc (aZ x.1 x.2)).alloc (aZ ⟨#[]⟩ 0) = W1:=⟨_,rfl⟩;rw [hW1] at B0 z0 x0 x1 hA1 HC hO1;have BW:=hid B0;obtain ⟨a0,a1,_,_⟩:=bU x0;clear h B0 hA hcall
 go_enter Tryz.func148,Tryz.ntmps148
 exact m8
theorem zE (R g cap : Nat) (bs : List Int) (x : Int) (aa : Option Addr) (an ac : Nat) (A O : Nat) (ta : Option Addr) (tn tc : Nat) (w : World) (h : Wr w R g cap bs) (hb : bs.length + 10 ≤ 1099511627776) (hA : w.cell? ⟨A,0,none⟩ = some (cW R)) (hO : w.cell? ⟨O,0,none⟩ = some (.slice ta tn tc)) (h0 : 0 ≤ x) (h1 : x < tn) (h2 : tn ≤ 100000) :
  Calls Tryz.prog 135 #[.int .i64 x,.slice aa an ac,.pointer (some ⟨A,0,none⟩),.pointer (some ⟨O,0,none⟩)] w (nX R g bs (au x) (.int .i64 x) w):=by
 have HX:=hid (fD R g cap bs x tn w h hb h0 h1 ae);clear h
 go_enter Tryz.func135,Tryz.ntmps135
 go_wp2_with fail;refine HX.out.mono ?_;rintro e w1 ⟨rfl,g',cap',hw1,hs1⟩;have W1:=hid hw1;have S1:=hid hs1;clear hw1 hs1 HX hA hO;go_wp2_with fail;go_ret;exact ⟨rfl,g',cap',W1.out,S1.out⟩
theorem CU (R g cap : Nat) (bs : List Int) (x : Int) (aa : Option Addr) (an ac : Nat) (A O : Nat) (ta : Option Addr) (tn tc : Nat) (w : World) (h : Wr w R g cap bs) (hA : w.cell? ⟨A,0,none⟩ = some (cW R)) (hO : w.cell? ⟨O,0,none⟩ = some (.slice ta tn tc)) (h0 : -9223372036854775808 ≤ x) (h1 : x < 9223372036854775808) (hx : x < 0 ∨ (tn : Int) ≤ x) (h2 : tn ≤ 100000) :
  Calls Tryz.prog 135 #[.int .i64 x,.slice aa an ac,.pointer (some ⟨A,0,none⟩),.pointer (some ⟨O,0,none⟩)] w (aJ R g 30 w):=by
 have HX:=hid (jI R g cap bs x tn w h h0 h1 hx ae ae);clear h
 go_enter Tryz.func135,Tryz.ntmps135
 go_wp2_with fail;refine HX.out.mono ?_;rintro e w1 ⟨⟨q,rfl⟩,hk⟩;exact ⟨rfl,⟨q,rfl⟩,hk⟩
theorem xX (R g cap : Nat) (bs : List Int) (c v : Int) (mu : Bool) (w : World) (h : Wr w R g cap bs) (hl : isL c = false) :
  Calls Tryz.prog 139 #[cW R,.agg #[.int .u8 c,.bool mu,.int .u64 v]] w (aJ R g 15 w):=by
 have hmo:=lh;have hco:=qo;obtain ⟨B0,z0,x0,x1⟩:=kV w c v mu;have HW : (w.alloc (aN c mu v)).alloc (aN 0 false 0) = pL w c v mu:=rfl;generalize pL w c v mu = W1 at *
 have H1:=hid (xj R g cap bs c 186 #[] 15 W1 (h.later B0) (fun _ _ => rfl) (DV c _ W1 hl))
 have BW:=hid B0;obtain ⟨a0,a1,a2,_,_,_⟩:=aH x0;clear h B0
 go_enter Tryz.func139,Tryz.ntmps139
 go_wp2_with fail;refine H1.out.mono ?_;rintro e w2 ⟨⟨p,rfl⟩,hk⟩;exact ⟨rfl,⟨p,rfl⟩,(bA BW.out).trans hk⟩
theorem zG (R g cap : Nat) (bs : List Int) (v : Int) (mu : Bool) (w : World) (h : Wr w R g cap bs) (hb : bs.length + 100 ≤ 1099511627776) (v0 : 0 ≤ v) (v1 : v < 18446744073709551616) (hv : ¬ v < 4294967296) :
  Calls Tryz.prog 139 #[cW R,.agg #[.int .u8 119,.bool mu,.int .u64 v]] w (aJ R g 17 w):=by
 have hmo:=lh;have hco:=qo;have hms:=ol;have hcs:=vV;have hno:=rD;have hns:=pV;obtain ⟨B0,z0,x0,x1⟩:=kV w 119 v mu;have HW : (w.alloc (aN 119 mu v)).alloc (aN 0 false 0) = pL w 119 v mu:=rfl;have hRl:=h.lt;have hgl:=h.g_lt;generalize pL w 119 v mu = W1 at *
 have H1:=hid (gQ R g cap bs 119 186 #[] W1 (h.later B0) aq aq ae (fun _ _ => rfl) (qb 119 _ W1 rfl))
 have BW:=hid B0;obtain ⟨a0,a1,a2,_,_,_⟩:=aH x0;clear h B0
 go_enter Tryz.func139,Tryz.ntmps139
 go_wp2_with fail;refine H1.out.mono ?_;rintro e w2 ⟨rfl,g1,cap1,hw2,hs2⟩;have y0:=(hs2.block (b:=w.heap.size) ae ae ae).trans x0;have y1:=(hs2.block (b:=w.heap.size + 1) ae ae ae).trans x1;have n0 : w.heap.size ≠ g1:=hs2.ne ae ae;have n1 : w.heap.size + 1 ≠ g1:=hs2.ne ae ae;have S2:=hid ((Stp.of_below BW.out).trans hs2);have z2:=S2.out.size;have z2':=hs2.size;have gl2:=hw2.g_lt;obtain ⟨w3,hw3⟩ : ∃ w3,w2.alloc (jb 119) = w3:=⟨_,rfl⟩
 have B3 : Below w2.heap.size w2 w3:=by rw [← hw3]; exact ag _ _
 have z3 : w3.heap.size = w2.heap.size + 1:=by rw [← hw3]; simp
 have l3 : w3.cell? ⟨w2.heap.size,0,none⟩ = some (.int .u8 119):=by rw [← hw3]; exact fE _ _ _
 have q0:=(B3.block w.heap.size ae).trans y0;have q1:=(B3.block (w.heap.size + 1) ae).trans y1;obtain ⟨b0,b1,b2,_,_,_⟩:=aH q0
 have HO2:=hid (gQ R g1 cap1 (bs ++ [119]) (bit mu) 189 #[] w3.drew ((hw2.later B3).later (Below.refl _ _).drew) (kw mu).1 (kw mu).2 aL (fun _ _ => rfl) (Gv mu _ w3.drew))
 have HF:=hid (Lt mu);have BB3:=hid B3;clear hs2 hw2 H1 x0 x1 a0 a1 a2 y0 y1 B3 HW;go_wp2_with fail
 go_region_held3 (fun W => W.cell? ⟨w.heap.size,1,none⟩ = some (.bool mu)) (assumption) (first
  | (go_at_call 188; refine (HF.out _).mono ?_; rintro e w' ⟨rfl,rfl⟩)
  | (go_at_call 320; refine HO2.out.mono ?_; rintro e w4 ⟨rfl,g2,cap2,hw4,hs4⟩; have hS' : w4.cell? ⟨w.heap.size,1,none⟩ = some (.bool mu):=hs4.cell b1 ae n0; have W4:=hid hw4; have S4:=hid hs4; clear hw4 hs4))
 all_goals
  have f0:=(S4.out.block (b:=w.heap.size) aL ae n0).trans q0;have f1:=(S4.out.block (b:=w.heap.size + 1) aL ae n1).trans q1;have f2:=S4.out.cell (b:=w2.heap.size) l3 ae ae;obtain ⟨d0,d1,d2,_,_,_⟩:=aH f0;have m0 : w.heap.size ≠ g2:=S4.out.ne aL n0;have m1 : w.heap.size + 1 ≠ g2:=S4.out.ne aL n1;have m2 : w2.heap.size ≠ g2:=S4.out.ne aL ae;have z4 : w3.heap.size ≤ w4.heap.size:=S4.out.size;have S4':=hid ((S2.out.trans (Stp.of_below BB3.out)).trans ((Stp.of_below ((Below.refl _ _).drew)).trans S4.out))
  have HWS:=hid (fun W => oC 119 v mu W v0 v1)
  clear S4 HO2 HF hS' q0 q1 b0 b1 b2 l3 hno hmo hco;go_wp2_with fail
  have HSG:=hid (fun W (hW : Below w4.heap.size w4 W) => sk R g2 cap2 (bs ++ [119] ++ [bit mu]) (sgn 119 v) 191 #[.pointer (some ⟨w2.heap.size,0,none⟩)] 17 W (W4.out.later hW) (fun _ _ => rfl) (DA w2.heap.size v _ W v0 v1 ((hW.cell xY).trans f2) ae))
  have HB4:=hid (fun (W5 : World) (hb : Below w4.heap.size w4.drew W5) => (Below.trans ((Below.refl w4.heap.size w4).drew) hb : Below w4.heap.size w4 W5))
  have HC4:=hid (fun (W5 : World) (hb : Below w4.heap.size w4 W5) => (⟨(hb.cell (by exact block_lt_of_cell d0)).trans d0,(hb.cell (by exact block_lt_of_cell d1)).trans d1,(hb.cell (by exact block_lt_of_cell d2)).trans d2⟩ : W5.cell? ⟨w.heap.size,0,none⟩ = some (.int .u8 119) ∧ W5.cell? ⟨w.heap.size,1,none⟩ = some (.bool mu) ∧ W5.cell? ⟨w.heap.size,2,none⟩ = some (.int .u64 v)))
  refine wp_region_held_drew (S:=(fun W => W.cell? ⟨w.heap.size,0,none⟩ = some (.int .u8 119) ∧ W.cell? ⟨w.heap.size,1,none⟩ = some (.bool mu) ∧ W.cell? ⟨w.heap.size,2,none⟩ = some (.int .u64 v))) ai ⟨d0,d1,d2⟩ (fun hHeld => ?_)
  refine tkC (i:=0) rfl ?_;(try simp only [Act.put,sIB]);refine tkC (i:=1) rfl ?_;(try simp only [Act.put]);refine tkC (i:=3) rfl ?_;(try simp only [Act.put]);refine tkC (i:=4) rfl ?_;(try simp only [Act.put]);refine rdY (rs:=[2,5]) ?_
  refine AllReadyH.cons rfl (fun K hK => ?_) (AllReadyH.cons rfl (fun K hK => ?_) rN)
  ·go_simp;refine (HWS.out _).mono ?_;rintro e w5 ⟨rfl,hb5⟩;have hB5:=hid (HB4.out w5 hb5);clear hb5
   refine hK.out _ _ (HC4.out w5 hB5.out) (fun hHeld2 => ?_)
   clear hK K;refine rdY (rs:=[5]) ?_
   refine AllReadyH.cons rfl (fun K hK => ?_) rN
   go_simp
   refine hK.out _ _ hHeld2 (fun hHeld3 => ?_)
   clear hK K;refine tkC (i:=6) rfl ?_;(try simp only [Act.put,sIB]);exact Eo
  ·go_simp
   refine hK.out _ _ hHeld (fun hHeld2 => ?_)
   clear hK K;refine tkC (i:=6) rfl ?_;(try simp only [Act.put,sIB]);refine rdY (rs:=[2]) ?_
   refine AllReadyH.cons rfl (fun K hK => ?_) rN
   go_simp;refine (HWS.out _).mono ?_;rintro e w5 ⟨rfl,hb5⟩;have hB5:=hid (HB4.out w5 hb5);clear hb5
   refine hK.out _ _ (HC4.out w5 hB5.out) (fun hHeld3 => ?_)
   clear hK K;exact Eo
end Go.Proofs.YtheefojaplnnoaaGreatDoor

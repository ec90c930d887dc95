/-
  Texts Wg Wc.
-/
import Derived.Test.YtepcmfegggdjfaaGreatDoorQ04
import Derived.Test.YtepcmfegggdjfaaGreatDoorQ05
set_option linter.unusedVariables false
set_option maxRecDepth 100000
set_option maxHeartbeats 16000000
namespace Go.Proofs.YtepcmfegggdjfaaGreatDoor
open Go.RowKit
theorem flag188 (b : Bool) (w : World) : Calls Tryz.prog 135 #[.bool b] w fun e w' => e = .returned (.int .u8 (if b then 1 else 0)) ∧ w' = w:=by
 cases b
 all_goals
  go_enter Tryz.func135,Tryz.ntmps135
  go_wp2_with fail
  go_ret
  exact ⟨rfl,rfl⟩
theorem ask186_yes (v p : Int) (w : World) (h : isL v = true) : Calls Tryz.prog 134 #[.int .u8 v,.int .i64 p] w (Asks w):=by
 have HL:=hid (letter25 v w)
 rw [h] at HL
 go_enter Tryz.func134,Tryz.ntmps134
 go_wp2_with fail
 refine HL.out.mono ?_
 rintro e w1 ⟨rfl,rfl⟩
 clear HL
 go_wp2_with fail
 refine (asks_of rfl).mono ?_
 rintro e w1 ⟨rfl,rfl⟩
 go_wp2_with fail
 go_end0
 exact ⟨rfl,Below.refl _ _⟩
theorem ask186_no (v p : Int) (w : World) (h : isL v = false) : Calls Tryz.prog 134 #[.int .u8 v,.int .i64 p] w (Bars 15 w):=by
 have HL:=hid (letter25 v w)
 rw [h] at HL
 go_enter Tryz.func134,Tryz.ntmps134
 go_wp2_with fail
 refine HL.out.mono ?_
 rintro e w1 ⟨rfl,rfl⟩
 clear HL
 go_wp2_with fail
 refine (bars_of rfl).mono ?_
 rintro e w1 ⟨rfl,rfl⟩
 exact ⟨rfl,⟨_,rfl⟩,Below.refl _ _⟩
def bit (b : Bool) : Int:=if b then 1 else 0
theorem flagF (w : World) : Calls Tryz.prog 135 #[.bool false] w fun e w' => e = .returned (.int .u8 0) ∧ w' = w:=flag188 false w
theorem flagT (w : World) : Calls Tryz.prog 135 #[.bool true] w fun e w' => e = .returned (.int .u8 1) ∧ w' = w:=flag188 true w
theorem ask189_0 (p : Int) (w : World) : Calls Tryz.prog 136 #[.int .u8 0,.int .i64 p] w (Asks w):=by
 have HF:=hid flagF
 go_enter Tryz.func136,Tryz.ntmps136
 go_wp2_with (first | (go_at_call 135; refine (HF.out _).mono ?_; rintro e w' ⟨rfl,rfl⟩) | (go_at_call 83; refine (asks_of rfl).mono ?_; rintro e w' ⟨rfl,rfl⟩))
 go_end0
 exact ⟨rfl,Below.refl _ _⟩
theorem ask189_1 (p : Int) (w : World) : Calls Tryz.prog 136 #[.int .u8 1,.int .i64 p] w (Asks w):=by
 have HF:=hid flagF
 have HT:=hid flagT
 go_enter Tryz.func136,Tryz.ntmps136
 go_wp2_with fail
 refine (HF.out _).mono ?_
 rintro e w' ⟨rfl,rfl⟩
 go_wp2_with (first | (go_at_call 135; refine (HT.out _).mono ?_; rintro e w' ⟨rfl,rfl⟩) | (go_at_call 83; refine (asks_of rfl).mono ?_; rintro e w' ⟨rfl,rfl⟩))
 go_end0
 exact ⟨rfl,Below.refl _ _⟩
theorem sgn_range (c v : Int) (h0 : 0 ≤ v) (h : v < 18446744073709551616) : -9223372036854775808 ≤ sgn c v ∧ sgn c v < 9223372036854775808:=by
 unfold sgn; split <;> split <;> (try split) <;> omega
theorem w64_32 {v : Int} (h0 : 0 ≤ v) (h : v < 4294967296) : wrap64 (wrap32 v) = sgn 119 v:=by
 unfold sgn wrap64 wrap32
 rw [if_pos rfl,if_pos h]
 split <;> omega
theorem w64_l {c v : Int} (hc : c ≠ 119) (h0 : 0 ≤ v) (h : v < 18446744073709551616) : wrap64 v = sgn c v:=by
 unfold sgn wrap64
 rw [if_neg hc]
 split <;> omega
theorem withSign190 (c v : Int) (mu : Bool) (w : World) (h0 : 0 ≤ v) (h1 : v < 18446744073709551616) : Calls Tryz.prog 137 #[.agg #[.int .u8 c,.bool mu,.int .u64 v]] w fun e w' => e = .returned (.int .i64 (sgn c v)) ∧ Below w.heap.size w w':=by
 have B1:=hid (below_new w (.cells #[.int .u8 c,.bool mu,.int .u64 v] 80))
 by_cases hc : c = 119
 ·subst hc
  have HF:=hid (fun W => fits13 v 119 W)
  by_cases hv : v < 4294967296
  ·have hf : fitsB v 119 = true:=by simp [fitsB,hv]
   rw [hf] at HF
   have HS:=hid (w64_32 h0 hv)
   go_enter Tryz.func137,Tryz.ntmps137
   go_wp2_with (first | (go_at_call 25; refine (HF.out _).mono ?_; rintro e w' ⟨rfl,rfl⟩))
   go_ret
   exact ⟨congrArg (fun x => Ending.returned (.int .i64 x)) HS.out,B1.out⟩
  ·have hf : fitsB v 119 = false:=by simp [fitsB,hv]
   rw [hf] at HF
   have hs : sgn 119 v = 9223372036854775807:=by unfold sgn; rw [if_pos rfl,if_neg hv]
   rw [hs]
   go_enter Tryz.func137,Tryz.ntmps137
   go_wp2_with (first | (go_at_call 25; refine (HF.out _).mono ?_; rintro e w' ⟨rfl,rfl⟩))
   go_ret
   exact ⟨rfl,B1.out⟩
 ·have hc' : (c != 119) = true:=by simp [hc]
  have HS:=hid (w64_l hc h0 h1)
  go_enter Tryz.func137,Tryz.ntmps137
  go_wp2_with fail
  go_ret
  exact ⟨congrArg (fun x => Ending.returned (.int .i64 x)) HS.out,B1.out⟩
theorem back_w {v : Int} (h0 : 0 ≤ v) (h : v < 4294967296) : sgn 119 v % 4294967296 = v:=by
 unfold sgn
 rw [if_pos rfl,if_pos h]
 split <;> omega
theorem back_l {c v : Int} (hc : c ≠ 119) (h0 : 0 ≤ v) (h : v < 18446744073709551616) : IntKind.u64.wrap (sgn c v) = v:=by
 unfold sgn
 rw [if_neg hc]
 split <;> simp [IntKind.wrap,IntKind.bits,IntKind.signed] <;> omega
theorem withoutSign192 (c v : Int) (w : World) (h0 : 0 ≤ v) (h1 : v < 18446744073709551616) (h2 : c = 119 → v < 4294967296) : Calls Tryz.prog 139 #[.int .u8 c,.int .i64 (sgn c v)] w fun e w' => e = .returned (.int .u64 v) ∧ w' = w:=by
 by_cases hc : c = 119
 ·subst hc
  have hb:=back_w h0 (h2 rfl)
  generalize sgn 119 v = x at *
  go_enter Tryz.func139,Tryz.ntmps139
  go_wp2_with fail
  go_ret
  first | exact ⟨rfl,rfl⟩ | exact ⟨congrArg (fun x => Ending.returned (.int .u64 x)) hb,rfl⟩
 ·have hb:=back_l hc h0 h1
  generalize sgn c v = x at *
  have hc' : (c == 119) = false:=by simp [hc]
  go_enter Tryz.func139,Tryz.ntmps139
  go_wp2_with fail
  go_ret
  exact ⟨rfl,rfl⟩
theorem sgn_32 {v : Int} (h0 : 0 ≤ v) (h1 : v < 18446744073709551616) : (sgn 119 v == wrap64 (wrap32 (sgn 119 v))) = decide (v < 4294967296):=by
 unfold sgn wrap64 wrap32
 rw [if_pos rfl]
 by_cases h : v < 4294967296
 ·rw [if_pos h]
  simp only [h,decide_true,beq_iff_eq]
  split <;> omega
 ·rw [if_neg h]
  simp only [h,decide_false]
  decide
theorem ask191_yes (B : Nat) (c v p : Int) (w : World) (h0 : 0 ≤ v) (h1 : v < 18446744073709551616) (hB : w.cell? ⟨B,0,none⟩ = some (.int .u8 c)) (h : c = 119 → v < 4294967296) :
  Calls Tryz.prog 138 #[.int .i64 (sgn c v),.int .i64 p,.pointer (some ⟨B,0,none⟩)] w (Asks w):=by
 by_cases hc : c = 119
 ·subst hc
  have hs:=sgn_32 h0 h1
  rw [decide_eq_true (h rfl)] at hs
  generalize sgn 119 v = x at *
  go_enter Tryz.func138,Tryz.ntmps138
  go_wp2_with fail
  refine (asks_of (by first | rfl | exact hs)).mono ?_
  rintro e w' ⟨rfl,rfl⟩
  go_wp2_with fail
  go_end0
  exact ⟨rfl,Below.refl _ _⟩
 ·have hc' : (c != 119) = true:=by simp [hc]
  generalize sgn c v = x at *
  go_enter Tryz.func138,Tryz.ntmps138
  go_wp2_with fail
  refine (asks_of rfl).mono ?_
  rintro e w' ⟨rfl,rfl⟩
  go_wp2_with fail
  go_end0
  exact ⟨rfl,Below.refl _ _⟩
theorem ask191_no (B : Nat) (v p : Int) (w : World) (h0 : 0 ≤ v) (h1 : v < 18446744073709551616) (hB : w.cell? ⟨B,0,none⟩ = some (.int .u8 119)) (h : ¬ v < 4294967296) :
  Calls Tryz.prog 138 #[.int .i64 (sgn 119 v),.int .i64 p,.pointer (some ⟨B,0,none⟩)] w (Bars 17 w):=by
 have hs:=sgn_32 h0 h1
 rw [decide_eq_false h] at hs
 generalize sgn 119 v = x at *
 go_enter Tryz.func138,Tryz.ntmps138
 go_wp2_with fail
 refine (bars_of (by first | rfl | exact hs)).mono ?_
 rintro e w' ⟨rfl,rfl⟩
 exact ⟨rfl,⟨_,rfl⟩,Below.refl _ _⟩
theorem flagB (b : Bool) (w : World) : Calls Tryz.prog 135 #[.bool b] w fun e w' => e = .returned (.int .u8 (bit b)) ∧ w' = w:=flag188 b w
theorem ask189 (b : Bool) (p : Int) (w : World) : Calls Tryz.prog 136 #[.int .u8 (bit b),.int .i64 p] w (Asks w):=by
 cases b
 ·exact ask189_0 p w
 ·exact ask189_1 p w
theorem bit_range (b : Bool) : 0 ≤ bit b ∧ bit b ≤ 255:=by cases b <;> decide
theorem bit_back (b : Bool) : (bit b == 1) = b:=by cases b <;> decide
theorem three_cells {w : World} {b : Nat} {u v x : Value} {t : TypeId} (h : w.heap[b]? = some (.cells #[u,v,x] t)) : w.cell? ⟨b,0,none⟩ = some u ∧ w.cell? ⟨b,1,none⟩ = some v ∧ w.cell? ⟨b,2,none⟩ = some x ∧ w.frozen? ⟨b,0,none⟩ = false ∧ w.frozen? ⟨b,1,none⟩ = false ∧ w.frozen? ⟨b,2,none⟩ = false:=by
 simp [World.cell?,World.frozen?,h]
theorem nil_octet (a : Addr) (w : World) : (nilAhead 365 142 (.pointer (some a)) "flagon/module.octet").run Tryz.prog w = .ok (some false) w:=rfl
theorem nil_signed (a : Addr) (w : World) : (nilAhead 365 142 (.pointer (some a)) "flagon/module.signed").run Tryz.prog w = .ok (some false) w:=rfl
def W139 (w : World) (c v : Int) (mu : Bool) : World:=(w.alloc (.cells #[.int .u8 c,.bool mu,.int .u64 v] 80)).alloc (.cells #[.int .u8 0,.bool false,.int .u64 0] 80)
theorem w139_facts (w : World) (c v : Int) (mu : Bool) : Below w.heap.size w (W139 w c v mu) ∧ (W139 w c v mu).heap.size = w.heap.size + 1 + 1 ∧ (W139 w c v mu).heap[w.heap.size]? = some (.cells #[.int .u8 c,.bool mu,.int .u64 v] 80) ∧ (W139 w c v mu).heap[w.heap.size + 1]? = some (.cells #[.int .u8 0,.bool false,.int .u64 0] 80):=by
 unfold W139
 refine ⟨((Below.refl _ w).alloc (Nat.le_refl _) _).alloc (by simp) _,by simp,?_,?_⟩
 ·rw [(below_new (w.alloc _) _).block _ (by simp)]
  exact (MapKept.heap_alloc w _).1
 ·have:=(MapKept.heap_alloc (w.alloc (.cells #[.int .u8 c,.bool mu,.int .u64 v] 80)) (.cells #[.int .u8 0,.bool false,.int .u64 0] 80)).1
  simpa using this
theorem glob139_yes (R g cap : Nat) (bs : List Int) (c v : Int) (mu : Bool) (w : World) (h : Wr w R g cap bs) (hb : bs.length + 100 ≤ 1099511627776) (h0 : 0 ≤ c) (h1 : c ≤ 255) (v0 : 0 ≤ v) (v1 : v < 18446744073709551616) (hl : isL c = true) (hv : c = 119 → v < 4294967296) :
  Calls Tryz.prog 107 #[cW R,.agg #[.int .u8 c,.bool mu,.int .u64 v]] w (Puts R g bs (encGl (c,mu,v)) (.agg #[.int .u8 c,.bool mu,.int .u64 v]) w):=by
 have hmo:=meth_octet
 have hco:=enter320
 have hms:=meth_signed
 have hcs:=enter322
 have hno:=nil_octet
 have hns:=nil_signed
 obtain ⟨B0,z0,x0,x1⟩:=w139_facts w c v mu
 have HW : (w.alloc (.cells #[.int .u8 c,.bool mu,.int .u64 v] 80)).alloc (.cells #[.int .u8 0,.bool false,.int .u64 0] 80) = W139 w c v mu:=rfl
 have hRl:=h.lt
 have hgl:=h.g_lt
 generalize W139 w c v mu = W1 at *
 have H1:=hid (octet320_yes R g cap bs c 134 #[] W1 (h.later B0) h0 h1 (by omega) (fun _ _ => rfl) (ask186_yes c _ W1 hl))
 have BW:=hid B0
 obtain ⟨a0,a1,a2,_,_,_⟩:=three_cells x0
 clear h B0
 go_enter Tryz.func107,Tryz.ntmps107
 go_wp2_with fail
 refine H1.out.mono ?_
 rintro e w2 ⟨rfl,g1,cap1,hw2,hs2⟩
 have y0:=(hs2.block (b:=w.heap.size) (by omega) (by omega) (by omega)).trans x0
 have y1:=(hs2.block (b:=w.heap.size + 1) (by omega) (by omega) (by omega)).trans x1
 have n0 : w.heap.size ≠ g1:=hs2.ne (by omega) (by omega)
 have n1 : w.heap.size + 1 ≠ g1:=hs2.ne (by omega) (by omega)
 have S2:=hid ((Stp.of_below BW.out).trans hs2)
 have z2:=S2.out.size
 have z2':=hs2.size
 have gl2:=hw2.g_lt
 obtain ⟨w3,hw3⟩ : ∃ w3,w2.alloc (.cells #[.int .u8 c] 5) = w3:=⟨_,rfl⟩
 have B3 : Below w2.heap.size w2 w3:=by rw [← hw3]; exact below_new _ _
 have z3 : w3.heap.size = w2.heap.size + 1:=by rw [← hw3]; simp
 have l3 : w3.cell? ⟨w2.heap.size,0,none⟩ = some (.int .u8 c):=by rw [← hw3]; exact new_cell _ _ _
 have q0:=(B3.block w.heap.size (by omega)).trans y0
 have q1:=(B3.block (w.heap.size + 1) (by omega)).trans y1
 obtain ⟨b0,b1,b2,_,_,_⟩:=three_cells q0
 have HO2:=hid (octet320_yes R g1 cap1 (bs ++ [c]) (bit mu) 136 #[] w3.drew ((hw2.later B3).later (Below.refl _ _).drew) (bit_range mu).1 (bit_range mu).2 (by simp; omega) (fun _ _ => rfl) (ask189 mu _ w3.drew))
 have HF:=hid (flagB mu)
 have BB3:=hid B3
 clear hs2 hw2 H1 x0 x1 a0 a1 a2 y0 y1 B3 HW
 go_wp2_with fail
 go_region_held3 (fun W => W.cell? ⟨w.heap.size,1,none⟩ = some (.bool mu)) (assumption) (first
  | (go_at_call 135; refine (HF.out _).mono ?_; rintro e w' ⟨rfl,rfl⟩)
  | (go_at_call 204; refine HO2.out.mono ?_; rintro e w4 ⟨rfl,g2,cap2,hw4,hs4⟩; have hS' : w4.cell? ⟨w.heap.size,1,none⟩ = some (.bool mu):=hs4.cell b1 (by omega) n0; have W4:=hid hw4; have S4:=hid hs4; clear hw4 hs4))
 all_goals
  have f0:=(S4.out.block (b:=w.heap.size) (by simp; omega) (by omega) n0).trans q0
  have f1:=(S4.out.block (b:=w.heap.size + 1) (by simp; omega) (by omega) n1).trans q1
  have f2:=S4.out.cell (b:=w2.heap.size) l3 (by omega) (by omega)
  obtain ⟨d0,d1,d2,_,_,_⟩:=three_cells f0
  have m0 : w.heap.size ≠ g2:=S4.out.ne (by simp; omega) n0
  have m1 : w.heap.size + 1 ≠ g2:=S4.out.ne (by simp; omega) n1
  have m2 : w2.heap.size ≠ g2:=S4.out.ne (by simp; omega) (by omega)
  have z4 : w3.heap.size ≤ w4.heap.size:=S4.out.size
  have S4':=hid ((S2.out.trans (Stp.of_below BB3.out)).trans ((Stp.of_below ((Below.refl _ _).drew)).trans S4.out))
  have HWS:=hid (fun W => withSign190 c v mu W v0 v1)
  clear S4 HO2 HF hS' q0 q1 b0 b1 b2 l3 hno hmo hco
  go_wp2_with fail
  have HSG:=hid (fun W (hW : Below w4.heap.size w4 W) => signed322_yes R g2 cap2 (bs ++ [c] ++ [bit mu]) (sgn c v) 138 #[.pointer (some ⟨w2.heap.size,0,none⟩)] W (W4.out.later hW) (sgn_range c v v0 v1).1 (sgn_range c v v0 v1).2 (by simp; omega) (fun _ _ => rfl) (ask191_yes w2.heap.size c v _ W v0 v1 ((hW.cell (by exact block_lt_of_cell f2)).trans f2) hv))
  have HB4:=hid (fun (W5 : World) (hb : Below w4.heap.size w4.drew W5) => (Below.trans ((Below.refl w4.heap.size w4).drew) hb : Below w4.heap.size w4 W5))
  have HC4:=hid (fun (W5 : World) (hb : Below w4.heap.size w4 W5) => (⟨(hb.cell (by exact block_lt_of_cell d0)).trans d0,(hb.cell (by exact block_lt_of_cell d1)).trans d1,(hb.cell (by exact block_lt_of_cell d2)).trans d2⟩ : W5.cell? ⟨w.heap.size,0,none⟩ = some (.int .u8 c) ∧ W5.cell? ⟨w.heap.size,1,none⟩ = some (.bool mu) ∧ W5.cell? ⟨w.heap.size,2,none⟩ = some (.int .u64 v)))
  go_region_held3 (fun W => W.cell? ⟨w.heap.size,0,none⟩ = some (.int .u8 c) ∧ W.cell? ⟨w.heap.size,1,none⟩ = some (.bool mu) ∧ W.cell? ⟨w.heap.size,2,none⟩ = some (.int .u64 v)) (first | assumption | exact ⟨d0,d1,d2⟩) (first
   | (go_at_call 137; refine (HWS.out _).mono ?_; rintro e w5 ⟨rfl,hb5⟩; have hB5:=hid (HB4.out w5 hb5); have hS':=HC4.out w5 hB5.out; clear hb5)
   | (go_at_call 206; refine (HSG.out _ hB5.out).mono ?_; rintro e w6 ⟨rfl,g3,cap3,hw6,hs6⟩; have hS'' : w6.cell? ⟨w.heap.size,0,none⟩ = some (.int .u8 c) ∧ w6.cell? ⟨w.heap.size,1,none⟩ = some (.bool mu) ∧ w6.cell? ⟨w.heap.size,2,none⟩ = some (.int .u64 v):=⟨hs6.cell hS'.1 (by omega) m0,hs6.cell hS'.2.1 (by omega) m0,hs6.cell hS'.2.2 (by omega) m0⟩; have W6:=hid hw6; have S6:=hid hs6; clear hw6 hs6))
  all_goals
   have z5:=hB5.out.size
   have e1:=(S6.out.block (b:=w.heap.size + 1) (by omega) (by omega) m1).trans ((hB5.out.block _ (by omega)).trans f1)
   have e2:=S6.out.cell (b:=w2.heap.size) ((hB5.out.cell (by exact block_lt_of_cell f2)).trans f2) (by omega) m2
   have p1 : w.heap.size + 1 ≠ g3:=S6.out.ne (by omega) m1
   have S6':=hid ((S4'.out.trans (Stp.of_below hB5.out)).trans S6.out)
   obtain ⟨k0,k1,k2,k3,k4,k5⟩:=three_cells e1
   have hlt6:=block_lt_of_cell e2
   have hlt7:=block_lt_of_cell k0
   have HF:=hid (flagT)
   have HWO:=hid (fun W => withoutSign192 c v W v0 v1 hv)
   clear S6 HSG HB4 HC4 HWS hS' hS'' f0 f1 f2 d0 d1 d2 hns hms hcs e1
   go_wp2_with fail
   have hbb:=bit_back mu
   go_region_held3 (fun W => W.cell? ⟨w2.heap.size,0,none⟩ = some (.int .u8 c)) (first | assumption | (simp [go_sem]; assumption) | (rw [World.cell?_setCell_other _ _ _ _ (by simp; omega),World.cell?_setCell_other _ _ _ _ (by simp; omega),World.cell?_setCell_other _ _ _ _ (by simp; omega)]; assumption)) (first
    | (go_at_call 135; refine (HF.out _).mono ?_; rintro e w' ⟨rfl,rfl⟩)
    | (go_at_call 139; refine (HWO.out _).mono ?_; rintro e w' ⟨rfl,rfl⟩))
   all_goals
    go_wp2_with fail
    refine bodyPost_ret (v:=.agg #[.int .u8 c,.bool mu,.int .u64 v]) ?_ rfl ⟨rfl,g3,cap3,?_,?_⟩
    ·rw [results_cell1 rfl]
     go_simp
    ·have:=(((W6.out.set (b:=w.heap.size + 1) (o:=0) (v:=.int .u8 c) (by omega) p1).set (b:=w.heap.size + 1) (o:=1) (v:=.bool mu) (by omega) p1).set (b:=w.heap.size + 1) (o:=2) (v:=.int .u64 v) (by omega) p1).later (Below.refl _ _).drew
     simpa [encGl,bit,List.append_assoc] using this
    ·exact (((S6'.out.set (by omega)).set (by omega)).set (by omega)).trans (Stp.of_below ((Below.refl _ _).drew))
theorem two_new (w : World) (a b : Obj) : Below w.heap.size w ((w.alloc a).alloc b) ∧ ((w.alloc a).alloc b).heap.size = w.heap.size + 1 + 1 ∧ ((w.alloc a).alloc b).heap[w.heap.size]? = some a ∧ ((w.alloc a).alloc b).heap[w.heap.size + 1]? = some b:=by
 refine ⟨((Below.refl _ w).alloc (Nat.le_refl _) _).alloc (by simp) _,by simp,?_,?_⟩
 ·rw [(below_new (w.alloc a) b).block _ (by simp)]
  exact (MapKept.heap_alloc w a).1
 ·have:=(MapKept.heap_alloc (w.alloc a) b).1
  simpa using this
theorem clo132_yes (R g cap : Nat) (bs : List Int) (x : (ByteArray × ByteArray)) (aa : Option Addr) (an ac : Nat) (A : Nat)  (w : World) (h : Wr w R g cap bs) (hA : w.cell? ⟨A,0,none⟩ = some (cW R))
  (P : (ByteArray × ByteArray) → Prop) (new : List Int) (hcall : ∀ W,Below w.heap.size w W → Calls Tryz.prog 101 #[cW R,.agg #[.string x.1,.string x.2],.slice aa an ac] W (fun e w' => ∃ y : (ByteArray × ByteArray),e = .returned (.agg #[.string y.1,.string y.2]) ∧ P y ∧ ∃ g' cap',Wr w' R g' cap' new ∧ Stp R g g' W w')) :
  Calls Tryz.prog 100 #[.agg #[.string x.1,.string x.2],.slice aa an ac,.pointer (some ⟨A,0,none⟩)] w (fun e w' => ∃ y : (ByteArray × ByteArray),e = .returned (.agg #[.string y.1,.string y.2]) ∧ P y ∧ ∃ g' cap',Wr w' R g' cap' new ∧ Stp R g g' w w'):=by
 obtain ⟨B0,z0,x0,x1⟩:=two_new w (.cells #[.string x.1,.string x.2] 55) (.cells #[.string ⟨#[]⟩,.string ⟨#[]⟩] 55)
 have hRl:=h.lt
 have hgl:=h.g_lt
 have hA1:=(B0.cell (by exact block_lt_of_cell hA)).trans hA
 have HC:=hid (hcall _ B0)
 obtain ⟨W1,hW1⟩ : ∃ W1,(w.alloc (.cells #[.string x.1,.string x.2] 55)).alloc (.cells #[.string ⟨#[]⟩,.string ⟨#[]⟩] 55) = W1:=⟨_,rfl⟩
 rw [hW1] at B0 z0 x0 x1 hA1 HC
 have BW:=hid B0
 obtain ⟨a0,a1,_,_⟩:=two_cells x0
 clear h B0 hA hcall
 go_enter Tryz.func100,Tryz.ntmps100
 go_wp2_with fail
 refine HC.out.mono ?_
 rintro e w5 ⟨y,rfl,hP,g',cap',hw5,hs5⟩
 have q1:=(hs5.block (b:=w.heap.size + 1) (by omega) (by omega) (by omega)).trans x1
 have n1 : w.heap.size + 1 ≠ g':=hs5.ne (by omega) (by omega)
 obtain ⟨k0,k1,k2,k3⟩:=two_cells q1
 have hl1:=block_lt_of_cell k0
 have W5:=hid hw5
 have S5:=hid ((Stp.of_below BW.out).trans hs5)
 clear hw5 hs5 x0 x1 q1 HC
 go_wp2_with fail
 refine bodyPost_ret (v:=.agg #[.string y.1,.string y.2]) ?_ rfl ⟨y,rfl,hP,g',cap',?_,?_⟩
 ·rw [results_cell1 rfl]
  go_simp
 ·exact ((W5.out.set (b:=w.heap.size + 1) (by omega) n1).set (b:=w.heap.size + 1) (by omega) n1)
 ·exact ((S5.out.set (by omega)).set (by omega))
theorem clo132_no (R g cap : Nat) (bs : List Int) (x : (ByteArray × ByteArray)) (aa : Option Addr) (an ac : Nat) (A : Nat)  (w : World) (h : Wr w R g cap bs) (hA : w.cell? ⟨A,0,none⟩ = some (cW R))
  (er : Int) (hcall : ∀ W,Below w.heap.size w W → Calls Tryz.prog 101 #[cW R,.agg #[.string x.1,.string x.2],.slice aa an ac] W (Throws R g er W)) :
  Calls Tryz.prog 100 #[.agg #[.string x.1,.string x.2],.slice aa an ac,.pointer (some ⟨A,0,none⟩)] w (Throws R g er w):=by
 obtain ⟨B0,z0,x0,x1⟩:=two_new w (.cells #[.string x.1,.string x.2] 55) (.cells #[.string ⟨#[]⟩,.string ⟨#[]⟩] 55)
 have hRl:=h.lt
 have hgl:=h.g_lt
 have hA1:=(B0.cell (by exact block_lt_of_cell hA)).trans hA
 have HC:=hid (hcall _ B0)
 obtain ⟨W1,hW1⟩ : ∃ W1,(w.alloc (.cells #[.string x.1,.string x.2] 55)).alloc (.cells #[.string ⟨#[]⟩,.string ⟨#[]⟩] 55) = W1:=⟨_,rfl⟩
 rw [hW1] at B0 z0 x0 x1 hA1 HC
 have BW:=hid B0
 obtain ⟨a0,a1,_,_⟩:=two_cells x0
 clear h B0 hA hcall
 go_enter Tryz.func100,Tryz.ntmps100
 go_wp2_with fail
 refine HC.out.mono ?_
 rintro e w2 ⟨⟨q,rfl⟩,hk2⟩
 exact ⟨rfl,⟨q,rfl⟩,(kept_of BW.out).trans hk2⟩
theorem clo138_yes (R g cap : Nat) (bs : List Int) (x : (Int × Bool × Int)) (aa : Option Addr) (an ac : Nat) (A : Nat)  (w : World) (h : Wr w R g cap bs) (hA : w.cell? ⟨A,0,none⟩ = some (cW R))
  (P : (Int × Bool × Int) → Prop) (new : List Int) (hcall : ∀ W,Below w.heap.size w W → Calls Tryz.prog 107 #[cW R,.agg #[.int .u8 x.1,.bool x.2.1,.int .u64 x.2.2]] W (fun e w' => ∃ y : (Int × Bool × Int),e = .returned (.agg #[.int .u8 y.1,.bool y.2.1,.int .u64 y.2.2]) ∧ P y ∧ ∃ g' cap',Wr w' R g' cap' new ∧ Stp R g g' W w')) :
  Calls Tryz.prog 106 #[.agg #[.int .u8 x.1,.bool x.2.1,.int .u64 x.2.2],.slice aa an ac,.pointer (some ⟨A,0,none⟩)] w (fun e w' => ∃ y : (Int × Bool × Int),e = .returned (.agg #[.int .u8 y.1,.bool y.2.1,.int .u64 y.2.2]) ∧ P y ∧ ∃ g' cap',Wr w' R g' cap' new ∧ Stp R g g' w w'):=by
 obtain ⟨B0,z0,x0,x1⟩:=two_new w (.cells #[.int .u8 x.1,.bool x.2.1,.int .u64 x.2.2] 80) (.cells #[.int .u8 0,.bool false,.int .u64 0] 80)
 have hRl:=h.lt
 have hgl:=h.g_lt
 have hA1:=(B0.cell (by exact block_lt_of_cell hA)).trans hA
 have HC:=hid (hcall _ B0)
 obtain ⟨W1,hW1⟩ : ∃ W1,(w.alloc (.cells #[.int .u8 x.1,.bool x.2.1,.int .u64 x.2.2] 80)).alloc (.cells #[.int .u8 0,.bool false,.int .u64 0] 80) = W1:=⟨_,rfl⟩
 rw [hW1] at B0 z0 x0 x1 hA1 HC
 have BW:=hid B0
 obtain ⟨a0,a1,a2,_,_,_⟩:=three_cells x0
 clear h B0 hA hcall
 go_enter Tryz.func106,Tryz.ntmps106
 go_wp2_with fail
 refine HC.out.mono ?_
 rintro e w5 ⟨y,rfl,hP,g',cap',hw5,hs5⟩
 have q1:=(hs5.block (b:=w.heap.size + 1) (by omega) (by omega) (by omega)).trans x1
 have n1 : w.heap.size + 1 ≠ g':=hs5.ne (by omega) (by omega)
 obtain ⟨k0,k1,k2,k3,k4,k5⟩:=three_cells q1
 have hl1:=block_lt_of_cell k0
 have W5:=hid hw5
 have S5:=hid ((Stp.of_below BW.out).trans hs5)
 clear hw5 hs5 x0 x1 q1 HC
 go_wp2_with fail
 refine bodyPost_ret (v:=.agg #[.int .u8 y.1,.bool y.2.1,.int .u64 y.2.2]) ?_ rfl ⟨y,rfl,hP,g',cap',?_,?_⟩
 ·rw [results_cell1 rfl]
  go_simp
 ·exact (((W5.out.set (b:=w.heap.size + 1) (by omega) n1).set (b:=w.heap.size + 1) (by omega) n1).set (b:=w.heap.size + 1) (by omega) n1)
 ·exact (((S5.out.set (by omega)).set (by omega)).set (by omega))
theorem clo138_no (R g cap : Nat) (bs : List Int) (x : (Int × Bool × Int)) (aa : Option Addr) (an ac : Nat) (A : Nat)  (w : World) (h : Wr w R g cap bs) (hA : w.cell? ⟨A,0,none⟩ = some (cW R))
  (er : Int) (hcall : ∀ W,Below w.heap.size w W → Calls Tryz.prog 107 #[cW R,.agg #[.int .u8 x.1,.bool x.2.1,.int .u64 x.2.2]] W (Throws R g er W)) :
  Calls Tryz.prog 106 #[.agg #[.int .u8 x.1,.bool x.2.1,.int .u64 x.2.2],.slice aa an ac,.pointer (some ⟨A,0,none⟩)] w (Throws R g er w):=by
 obtain ⟨B0,z0,x0,x1⟩:=two_new w (.cells #[.int .u8 x.1,.bool x.2.1,.int .u64 x.2.2] 80) (.cells #[.int .u8 0,.bool false,.int .u64 0] 80)
 have hRl:=h.lt
 have hgl:=h.g_lt
 have hA1:=(B0.cell (by exact block_lt_of_cell hA)).trans hA
 have HC:=hid (hcall _ B0)
 obtain ⟨W1,hW1⟩ : ∃ W1,(w.alloc (.cells #[.int .u8 x.1,.bool x.2.1,.int .u64 x.2.2] 80)).alloc (.cells #[.int .u8 0,.bool false,.int .u64 0] 80) = W1:=⟨_,rfl⟩
 rw [hW1] at B0 z0 x0 x1 hA1 HC
 have BW:=hid B0
 obtain ⟨a0,a1,a2,_,_,_⟩:=three_cells x0
 clear h B0 hA hcall
 go_enter Tryz.func106,Tryz.ntmps106
 go_wp2_with fail
 refine HC.out.mono ?_
 rintro e w2 ⟨⟨q,rfl⟩,hk2⟩
 exact ⟨rfl,⟨q,rfl⟩,(kept_of BW.out).trans hk2⟩
theorem clo145_yes (R g cap : Nat) (bs : List Int) (x : (Int × (Option Addr × Nat × Nat) × List Int)) (aa : Option Addr) (an ac : Nat) (A : Nat) (O : Nat) (fi : Int) (w : World) (h : Wr w R g cap bs) (hA : w.cell? ⟨A,0,none⟩ = some (cW R)) (hO : w.cell? ⟨O,3,none⟩ = some (.int .i64 fi)) (hf0 : 0 ≤ fi) (hf1 : fi ≤ 64)
  (P : (Int × (Option Addr × Nat × Nat)) → Prop) (new : List Int) (hcall : ∀ W,Below w.heap.size w W → Calls Tryz.prog 114 #[cW R,.agg #[.int .i64 x.1,.slice x.2.1.1 x.2.1.2.1 x.2.1.2.2],.slice aa an ac,.int .i64 (fi * 4096)] W (fun e w' => ∃ y : (Int × (Option Addr × Nat × Nat)),e = .returned (.agg #[.int .i64 y.1,.slice y.2.1 y.2.2.1 y.2.2.2]) ∧ P y ∧ ∃ g' cap',Wr w' R g' cap' new ∧ Stp R g g' W w')) :
  Calls Tryz.prog 113 #[.agg #[.int .i64 x.1,.slice x.2.1.1 x.2.1.2.1 x.2.1.2.2],.slice aa an ac,.pointer (some ⟨A,0,none⟩),.pointer (some ⟨O,0,none⟩)] w (fun e w' => ∃ y : (Int × (Option Addr × Nat × Nat)),e = .returned (.agg #[.int .i64 y.1,.slice y.2.1 y.2.2.1 y.2.2.2]) ∧ P y ∧ ∃ g' cap',Wr w' R g' cap' new ∧ Stp R g g' w w'):=by
 obtain ⟨B0,z0,x0,x1⟩:=two_new w (.cells #[.int .i64 x.1,.slice x.2.1.1 x.2.1.2.1 x.2.1.2.2] 51) (.cells #[.int .i64 0,.slice none 0 0] 51)
 have hRl:=h.lt
 have hgl:=h.g_lt
 have hA1:=(B0.cell (by exact block_lt_of_cell hA)).trans hA
 have hO1:=(B0.cell (p:=⟨O,3,none⟩) (by exact block_lt_of_cell hO)).trans hO
 have hwf : wrap64 (fi * 4096) = fi * 4096:=by unfold wrap64; omega
 have HC:=hid (hcall _ B0)
 obtain ⟨W1,hW1⟩ : ∃ W1,(w.alloc (.cells #[.int .i64 x.1,.slice x.2.1.1 x.2.1.2.1 x.2.1.2.2] 51)).alloc (.cells #[.int .i64 0,.slice none 0 0] 51) = W1:=⟨_,rfl⟩
 rw [hW1] at B0 z0 x0 x1 hA1 HC hO1
 have BW:=hid B0
 obtain ⟨a0,a1,_,_⟩:=two_cells x0
 clear h B0 hA hcall
 go_enter Tryz.func113,Tryz.ntmps113
 go_wp2_with fail
 refine HC.out.mono ?_
 rintro e w5 ⟨y,rfl,hP,g',cap',hw5,hs5⟩
 have q1:=(hs5.block (b:=w.heap.size + 1) (by omega) (by omega) (by omega)).trans x1
 have n1 : w.heap.size + 1 ≠ g':=hs5.ne (by omega) (by omega)
 obtain ⟨k0,k1,k2,k3⟩:=two_cells q1
 have hl1:=block_lt_of_cell k0
 have W5:=hid hw5
 have S5:=hid ((Stp.of_below BW.out).trans hs5)
 clear hw5 hs5 x0 x1 q1 HC
 go_wp2_with fail
 refine bodyPost_ret (v:=.agg #[.int .i64 y.1,.slice y.2.1 y.2.2.1 y.2.2.2]) ?_ rfl ⟨y,rfl,hP,g',cap',?_,?_⟩
 ·rw [results_cell1 rfl]
  go_simp
 ·exact ((W5.out.set (b:=w.heap.size + 1) (by omega) n1).set (b:=w.heap.size + 1) (by omega) n1)
 ·exact ((S5.out.set (by omega)).set (by omega))
theorem clo145_no (R g cap : Nat) (bs : List Int) (x : (Int × (Option Addr × Nat × Nat) × List Int)) (aa : Option Addr) (an ac : Nat) (A : Nat) (O : Nat) (fi : Int) (w : World) (h : Wr w R g cap bs) (hA : w.cell? ⟨A,0,none⟩ = some (cW R)) (hO : w.cell? ⟨O,3,none⟩ = some (.int .i64 fi)) (hf0 : 0 ≤ fi) (hf1 : fi ≤ 64)
  (er : Int) (hcall : ∀ W,Below w.heap.size w W → Calls Tryz.prog 114 #[cW R,.agg #[.int .i64 x.1,.slice x.2.1.1 x.2.1.2.1 x.2.1.2.2],.slice aa an ac,.int .i64 (fi * 4096)] W (Throws R g er W)) :
  Calls Tryz.prog 113 #[.agg #[.int .i64 x.1,.slice x.2.1.1 x.2.1.2.1 x.2.1.2.2],.slice aa an ac,.pointer (some ⟨A,0,none⟩),.pointer (some ⟨O,0,none⟩)] w (Throws R g er w):=by
 obtain ⟨B0,z0,x0,x1⟩:=two_new w (.cells #[.int .i64 x.1,.slice x.2.1.1 x.2.1.2.1 x.2.1.2.2] 51) (.cells #[.int .i64 0,.slice none 0 0] 51)
 have hRl:=h.lt
 have hgl:=h.g_lt
 have hA1:=(B0.cell (by exact block_lt_of_cell hA)).trans hA
 have hO1:=(B0.cell (p:=⟨O,3,none⟩) (by exact block_lt_of_cell hO)).trans hO
 have hwf : wrap64 (fi * 4096) = fi * 4096:=by unfold wrap64; omega
 have HC:=hid (hcall _ B0)
 obtain ⟨W1,hW1⟩ : ∃ W1,(w.alloc (.cells #[.int .i64 x.1,.slice x.2.1.1 x.2.1.2.1 x.2.1.2.2] 51)).alloc (.cells #[.int .i64 0,.slice none 0 0] 51) = W1:=⟨_,rfl⟩
 rw [hW1] at B0 z0 x0 x1 hA1 HC hO1
 have BW:=hid B0
 obtain ⟨a0,a1,_,_⟩:=two_cells x0
 clear h B0 hA hcall
 go_enter Tryz.func113,Tryz.ntmps113
 go_wp2_with fail
 refine HC.out.mono ?_
 rintro e w2 ⟨⟨q,rfl⟩,hk2⟩
 exact ⟨rfl,⟨q,rfl⟩,(kept_of BW.out).trans hk2⟩
theorem clo148_yes (R g cap : Nat) (bs : List Int) (x : (ByteArray × Int)) (aa : Option Addr) (an ac : Nat) (A : Nat) (O : Nat) (fa : Option Addr) (fn fc : Nat) (w : World) (h : Wr w R g cap bs) (hA : w.cell? ⟨A,0,none⟩ = some (cW R)) (hO : w.cell? ⟨O,5,none⟩ = some (.slice fa fn fc))
  (P : (ByteArray × Int) → Prop) (new : List Int) (hcall : ∀ W,Below w.heap.size w W → Calls Tryz.prog 117 #[cW R,.agg #[.string x.1,.int .i64 x.2],.slice aa an ac,.int .i64 fn] W (fun e w' => ∃ y : (ByteArray × Int),e = .returned (.agg #[.string y.1,.int .i64 y.2]) ∧ P y ∧ ∃ g' cap',Wr w' R g' cap' new ∧ Stp R g g' W w')) :
  Calls Tryz.prog 116 #[.agg #[.string x.1,.int .i64 x.2],.slice aa an ac,.pointer (some ⟨A,0,none⟩),.pointer (some ⟨O,0,none⟩)] w (fun e w' => ∃ y : (ByteArray × Int),e = .returned (.agg #[.string y.1,.int .i64 y.2]) ∧ P y ∧ ∃ g' cap',Wr w' R g' cap' new ∧ Stp R g g' w w'):=by
 obtain ⟨B0,z0,x0,x1⟩:=two_new w (.cells #[.string x.1,.int .i64 x.2] 64) (.cells #[.string ⟨#[]⟩,.int .i64 0] 64)
 have hRl:=h.lt
 have hgl:=h.g_lt
 have hA1:=(B0.cell (by exact block_lt_of_cell hA)).trans hA
 have hO1:=(B0.cell (p:=⟨O,5,none⟩) (by exact block_lt_of_cell hO)).trans hO
 have HC:=hid (hcall _ B0)
 obtain ⟨W1,hW1⟩ : ∃ W1,(w.alloc (.cells #[.string x.1,.int .i64 x.2] 64)).alloc (.cells #[.string ⟨#[]⟩,.int .i64 0] 64) = W1:=⟨_,rfl⟩
 rw [hW1] at B0 z0 x0 x1 hA1 HC hO1
 have BW:=hid B0
 obtain ⟨a0,a1,_,_⟩:=two_cells x0
 clear h B0 hA hcall
 go_enter Tryz.func116,Tryz.ntmps116
 go_wp2_with fail
 refine HC.out.mono ?_
 rintro e w5 ⟨y,rfl,hP,g',cap',hw5,hs5⟩
 have q1:=(hs5.block (b:=w.heap.size + 1) (by omega) (by omega) (by omega)).trans x1
 have n1 : w.heap.size + 1 ≠ g':=hs5.ne (by omega) (by omega)
 obtain ⟨k0,k1,k2,k3⟩:=two_cells q1
 have hl1:=block_lt_of_cell k0
 have W5:=hid hw5
 have S5:=hid ((Stp.of_below BW.out).trans hs5)
 clear hw5 hs5 x0 x1 q1 HC
 go_wp2_with fail
 refine bodyPost_ret (v:=.agg #[.string y.1,.int .i64 y.2]) ?_ rfl ⟨y,rfl,hP,g',cap',?_,?_⟩
 ·rw [results_cell1 rfl]
  go_simp
 ·exact ((W5.out.set (b:=w.heap.size + 1) (by omega) n1).set (b:=w.heap.size + 1) (by omega) n1)
 ·exact ((S5.out.set (by omega)).set (by omega))
theorem clo148_no (R g cap : Nat) (bs : List Int) (x : (ByteArray × Int)) (aa : Option Addr) (an ac : Nat) (A : Nat) (O : Nat) (fa : Option Addr) (fn fc : Nat) (w : World) (h : Wr w R g cap bs) (hA : w.cell? ⟨A,0,none⟩ = some (cW R)) (hO : w.cell? ⟨O,5,none⟩ = some (.slice fa fn fc))
  (er : Int) (hcall : ∀ W,Below w.heap.size w W → Calls Tryz.prog 117 #[cW R,.agg #[.string x.1,.int .i64 x.2],.slice aa an ac,.int .i64 fn] W (Throws R g er W)) :
  Calls Tryz.prog 116 #[.agg #[.string x.1,.int .i64 x.2],.slice aa an ac,.pointer (some ⟨A,0,none⟩),.pointer (some ⟨O,0,none⟩)] w (Throws R g er w):=by
 obtain ⟨B0,z0,x0,x1⟩:=two_new w (.cells #[.string x.1,.int .i64 x.2] 64) (.cells #[.string ⟨#[]⟩,.int .i64 0] 64)
 have hRl:=h.lt
 have hgl:=h.g_lt
 have hA1:=(B0.cell (by exact block_lt_of_cell hA)).trans hA
 have hO1:=(B0.cell (p:=⟨O,5,none⟩) (by exact block_lt_of_cell hO)).trans hO
 have HC:=hid (hcall _ B0)
 obtain ⟨W1,hW1⟩ : ∃ W1,(w.alloc (.cells #[.string x.1,.int .i64 x.2] 64)).alloc (.cells #[.string ⟨#[]⟩,.int .i64 0] 64) = W1:=⟨_,rfl⟩
 rw [hW1] at B0 z0 x0 x1 hA1 HC hO1
 have BW:=hid B0
 obtain ⟨a0,a1,_,_⟩:=two_cells x0
 clear h B0 hA hcall
 go_enter Tryz.func116,Tryz.ntmps116
 go_wp2_with fail
 refine HC.out.mono ?_
 rintro e w2 ⟨⟨q,rfl⟩,hk2⟩
 exact ⟨rfl,⟨q,rfl⟩,(kept_of BW.out).trans hk2⟩
theorem clo135_yes (R g cap : Nat) (bs : List Int) (x : Int) (aa : Option Addr) (an ac : Nat) (A O : Nat) (ta : Option Addr) (tn tc : Nat) (w : World) (h : Wr w R g cap bs) (hb : bs.length + 10 ≤ 1099511627776) (hA : w.cell? ⟨A,0,none⟩ = some (cW R)) (hO : w.cell? ⟨O,0,none⟩ = some (.slice ta tn tc)) (h0 : 0 ≤ x) (h1 : x < tn) (h2 : tn ≤ 100000) :
  Calls Tryz.prog 103 #[.int .i64 x,.slice aa an ac,.pointer (some ⟨A,0,none⟩),.pointer (some ⟨O,0,none⟩)] w (Puts R g bs (uvar x) (.int .i64 x) w):=by
 have HX:=hid (index136_yes R g cap bs x tn w h hb h0 h1 (by omega))
 clear h
 go_enter Tryz.func103,Tryz.ntmps103
 go_wp2_with fail
 refine HX.out.mono ?_
 rintro e w1 ⟨rfl,g',cap',hw1,hs1⟩
 have W1:=hid hw1
 have S1:=hid hs1
 clear hw1 hs1 HX hA hO
 go_wp2_with fail
 go_ret
 exact ⟨rfl,g',cap',W1.out,S1.out⟩
theorem clo135_no (R g cap : Nat) (bs : List Int) (x : Int) (aa : Option Addr) (an ac : Nat) (A O : Nat) (ta : Option Addr) (tn tc : Nat) (w : World) (h : Wr w R g cap bs) (hA : w.cell? ⟨A,0,none⟩ = some (cW R)) (hO : w.cell? ⟨O,0,none⟩ = some (.slice ta tn tc)) (h0 : -9223372036854775808 ≤ x) (h1 : x < 9223372036854775808) (hx : x < 0 ∨ (tn : Int) ≤ x) (h2 : tn ≤ 100000) :
  Calls Tryz.prog 103 #[.int .i64 x,.slice aa an ac,.pointer (some ⟨A,0,none⟩),.pointer (some ⟨O,0,none⟩)] w (Throws R g 30 w):=by
 have HX:=hid (index136_no R g cap bs x tn w h h0 h1 hx (by omega) (by omega))
 clear h
 go_enter Tryz.func103,Tryz.ntmps103
 go_wp2_with fail
 refine HX.out.mono ?_
 rintro e w1 ⟨⟨q,rfl⟩,hk⟩
 exact ⟨rfl,⟨q,rfl⟩,hk⟩
end Go.Proofs.YtepcmfegggdjfaaGreatDoor

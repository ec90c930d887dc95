/-
  Texts Wn.
-/
import Derived.Test.YtepcmfegggdjfaaGreatDoorQ12
import Derived.Test.YtepcmfegggdjfaaGreatDoorQ13
import Derived.Test.YtepcmfegggdjfaaGreatDoorQ16
set_option linter.unusedVariables false
set_option maxRecDepth 100000
set_option maxHeartbeats 16000000
namespace Go.Proofs.YtepcmfegggdjfaaGreatDoor
open Go.RowKit
def W318 (w : World) (c a : Int) (la : Option Addr) (ln lc : Nat) : World:=(w.alloc (.cells #[.int .u8 c,.int .i64 a,.slice la ln lc] 82)).alloc (.cells #[.int .u8 0,.int .i64 0,.slice none 0 0] 82)
theorem w318_facts (w : World) (c a : Int) (la : Option Addr) (ln lc : Nat) : Below w.heap.size w (W318 w c a la ln lc) ∧ (W318 w c a la ln lc).heap.size = w.heap.size + 1 + 1 ∧ (W318 w c a la ln lc).heap[w.heap.size]? = some (.cells #[.int .u8 c,.int .i64 a,.slice la ln lc] 82) ∧ (W318 w c a la ln lc).heap[w.heap.size + 1]? = some (.cells #[.int .u8 0,.int .i64 0,.slice none 0 0] 82):=by
 unfold W318
 refine ⟨((Below.refl _ w).alloc (Nat.le_refl _) _).alloc (by simp) _,by simp,?_,?_⟩
 ·rw [(below_new (w.alloc _) _).block _ (by simp)]
  exact (MapKept.heap_alloc w _).1
 ·have:=(MapKept.heap_alloc (w.alloc (.cells #[.int .u8 c,.int .i64 a,.slice la ln lc] 82)) (.cells #[.int .u8 0,.int .i64 0,.slice none 0 0] 82)).1
  simpa using this
section
variable (R g cap : Nat) (bs : List Int) (c a : Int) (la : Option Addr) (ln lc : Nat) (l : List Int) (w : World)
theorem ins318_no (h : Wr w R g cap bs) (hk : KindsOk w) (h0 : 0 ≤ c) (h1 : c ≤ 255) (hl : SegI w la ln lc l) (hx : chk (tkV c) (lgV c) a l ≠ 0) :
  Calls Tryz.prog 202 #[.pointer (some ⟨R,0,none⟩),insV c a (.slice la ln lc)] w (Throws R g (chk (tkV c) (lgV c) a l) w):=by
 obtain ⟨B0,z0,x0,x1⟩:=w318_facts w c a la ln lc
 have HW : (w.alloc (.cells #[.int .u8 c,.int .i64 a,.slice la ln lc] 82)).alloc (.cells #[.int .u8 0,.int .i64 0,.slice none 0 0] 82) = W318 w c a la ln lc:=rfl
 generalize W318 w c a la ln lc = W1 at *
 have HE:=hid (encode9_no c a la ln lc l W1 (hk.later B0 hk.pos) h0 h1 (hl.later B0 (Nat.le_refl _)) hx)
 have hRl:=h.lt
 have H1:=hid (h.later B0)
 have BW:=hid B0
 obtain ⟨a0,a1,a2,_,_,_⟩:=three_cells x0
 generalize chk (tkV c) (lgV c) a l = x at *
 have hx' : (x == 0) = false:=by simp [hx]
 clear h hk hl B0
 unfold insV at *
 go_enter Tryz.func202,Tryz.ntmps202
 go_wp2_with fail
 refine HE.out.mono ?_
 rintro e w2 ⟨rfl,hb2⟩
 have H2:=H1.out.later hb2
 have c0:=H2.c0
 have B2:=hid (below_then BW.out hb2)
 clear hb2 HE
 go_wp2_with fail
 refine (place321 R _ _ _ _ c0).mono ?_
 rintro e w3 ⟨rfl,rfl⟩
 go_wp2_with fail
 refine (bars_of (by first | rfl | exact hx')).mono ?_
 rintro e w4 ⟨rfl,rfl⟩
 exact ⟨rfl,⟨_,rfl⟩,kept_of B2.out⟩
theorem ins318_yes (h : Wr w R g cap bs) (hb : bs.length + 1000 ≤ 1099511627776) (hk : KindsOk w) (h0 : 0 ≤ c) (h1 : c ≤ 255) (hl : SegI w la ln lc l) (hx : chk (tkV c) (lgV c) a l = 0) :
  Calls Tryz.prog 202 #[.pointer (some ⟨R,0,none⟩),insV c a (.slice la ln lc)] w (Puts R g bs (encV c a l) (insV c a (.slice la ln lc)) w):=by
 obtain ⟨B0,z0,x0,x1⟩:=w318_facts w c a la ln lc
 have HW : (w.alloc (.cells #[.int .u8 c,.int .i64 a,.slice la ln lc] 82)).alloc (.cells #[.int .u8 0,.int .i64 0,.slice none 0 0] 82) = W318 w c a la ln lc:=rfl
 generalize W318 w c a la ln lc = W1 at *
 have HE:=hid (encode9 c a la ln lc l W1 (hk.later B0 hk.pos) h0 h1 (hl.later B0 (Nat.le_refl _)) hx)
 have hle : (encV c a l).length ≤ 171:=by
  have:=chk_ok hx
  have h16 : l.length ≤ 16:=by
   by_cases ht : tkV c = 3
   ·exact (this.2.2.2.1 ht).2.1
   ·rw [this.2.2.2.2 ht]; simp
  have:=encB_len (tkV c) a l h16
  simp [encV]; omega
 have hpos : 0 < (encV c a l).length:=by simp [encV]
 have hmem : ∀ z ∈ encV c a l,0 ≤ z ∧ z ≤ 255:=by
  intro z hz
  simp only [encV,List.mem_cons] at hz
  rcases hz with rfl | hz
  ·exact ⟨h0,h1⟩
  ·exact encB_mem hx z hz
 have hRl:=h.lt
 have hgl:=h.g_lt
 have H1:=hid (h.later B0)
 have BW:=hid B0
 have HMEM:=hid hmem
 obtain ⟨a0,a1,a2,_,_,_⟩:=three_cells x0
 generalize encV c a l = E at *
 clear h hk hl B0 hx hmem
 unfold insV at *
 go_enter Tryz.func202,Tryz.ntmps202
 go_wp2_with fail
 refine HE.out.mono ?_
 rintro e w2 ⟨v,rfl,ho,hb2⟩
 obtain ⟨va,vc,rfl,hsg,_⟩:=seg_of_own ho (by omega) HMEM.out
 have H2:=H1.out.later hb2
 have c0:=H2.c0
 have B2:=hid (below_then BW.out hb2)
 have SG:=hid hsg
 have W2:=hid H2
 have y0:=(hb2.block w.heap.size (by omega)).trans x0
 have y1:=(hb2.block (w.heap.size + 1) (by omega)).trans x1
 have z2:=hb2.size
 clear hb2 HE ho hsg H2
 go_wp2_with fail
 refine (place321 R _ _ _ _ c0).mono ?_
 rintro e w3 ⟨rfl,rfl⟩
 go_wp2_with fail
 refine (asks_of rfl).mono ?_
 rintro e w4 ⟨rfl,rfl⟩
 clear c0
 go_wp2_with fail
 refine (put324 R g cap bs va E.length vc E _ W2.out SG.out hpos (by omega)).mono ?_
 rintro e w5 ⟨rfl,g',cap',hw5,hs5⟩
 have q0:=(hs5.block (b:=w.heap.size) (by omega) (by omega) (by omega)).trans y0
 have q1:=(hs5.block (b:=w.heap.size + 1) (by omega) (by omega) (by omega)).trans y1
 have n1 : w.heap.size + 1 ≠ g':=hs5.ne (by omega) (by omega)
 obtain ⟨b0,b1,b2,_,_,_⟩:=three_cells q0
 obtain ⟨k0,k1,k2,k3,k4,k5⟩:=three_cells q1
 have hl0:=block_lt_of_cell b0
 have hl1:=block_lt_of_cell k0
 have W5:=hid hw5
 have S5:=hid ((Stp.of_below B2.out).trans hs5)
 clear hw5 hs5 y0 y1 x0 x1 a0 a1 a2 q0 q1
 go_wp2_with fail
 refine bodyPost_ret (v:=.agg #[.int .u8 c,.int .i64 a,.slice la ln lc]) ?_ rfl ⟨rfl,g',cap',?_,?_⟩
 ·rw [results_cell1 rfl]
  go_simp
 ·exact ((W5.out.set (b:=w.heap.size + 1) (by omega) n1).set (b:=w.heap.size + 1) (by omega) n1).set (b:=w.heap.size + 1) (by omega) n1
 ·exact ((S5.out.set (by omega)).set (by omega)).set (by omega)
variable (A : Nat) (aa : Option Addr) (an ac : Nat)
theorem ask195_no (h : Wr w R g cap bs) (hk : KindsOk w) (h0 : 0 ≤ c) (h1 : c ≤ 255) (hl : SegI w la ln lc l) (hA : w.cell? ⟨A,0,none⟩ = some (cW R)) (hx : chk (tkV c) (lgV c) a l ≠ 0) :
  Calls Tryz.prog 142 #[insV c a (.slice la ln lc),.slice aa an ac,.pointer (some ⟨A,0,none⟩)] w (Throws R g (chk (tkV c) (lgV c) a l) w):=by
 have hm:=meth_instruction
 have hc:=enter318
 obtain ⟨B0,z0,x0,x1⟩:=w318_facts w c a la ln lc
 have HW : (w.alloc (.cells #[.int .u8 c,.int .i64 a,.slice la ln lc] 82)).alloc (.cells #[.int .u8 0,.int .i64 0,.slice none 0 0] 82) = W318 w c a la ln lc:=rfl
 have hA1 : (W318 w c a la ln lc).cell? ⟨A,0,none⟩ = some (cW R):=(B0.cell (by exact block_lt_of_cell hA)).trans hA
 have HE:=hid (ins318_no R g cap bs c a la ln lc l _ (h.later B0) (hk.later B0 hk.pos) h0 h1 (hl.later B0 (Nat.le_refl _)) hx)
 generalize W318 w c a la ln lc = W1 at *
 have BW:=hid B0
 obtain ⟨a0,a1,a2,_,_,_⟩:=three_cells x0
 generalize chk (tkV c) (lgV c) a l = x at *
 clear h hk hl B0 hA
 unfold insV at *
 go_enter Tryz.func142,Tryz.ntmps142
 go_wp2_with fail
 refine HE.out.mono ?_
 rintro e w2 ⟨⟨q,rfl⟩,hk2⟩
 exact ⟨rfl,⟨q,rfl⟩,(kept_of BW.out).trans hk2⟩
theorem ask195_yes (h : Wr w R g cap bs) (hb : bs.length + 1000 ≤ 1099511627776) (hk : KindsOk w) (h0 : 0 ≤ c) (h1 : c ≤ 255) (hl : SegI w la ln lc l) (hA : w.cell? ⟨A,0,none⟩ = some (cW R)) (hx : chk (tkV c) (lgV c) a l = 0) :
  Calls Tryz.prog 142 #[insV c a (.slice la ln lc),.slice aa an ac,.pointer (some ⟨A,0,none⟩)] w (Puts R g bs (encV c a l) (insV c a (.slice la ln lc)) w):=by
 have hm:=meth_instruction
 have hc:=enter318
 obtain ⟨B0,z0,x0,x1⟩:=w318_facts w c a la ln lc
 have HW : (w.alloc (.cells #[.int .u8 c,.int .i64 a,.slice la ln lc] 82)).alloc (.cells #[.int .u8 0,.int .i64 0,.slice none 0 0] 82) = W318 w c a la ln lc:=rfl
 have hA1 : (W318 w c a la ln lc).cell? ⟨A,0,none⟩ = some (cW R):=(B0.cell (by exact block_lt_of_cell hA)).trans hA
 have HE:=hid (ins318_yes R g cap bs c a la ln lc l _ (h.later B0) hb (hk.later B0 hk.pos) h0 h1 (hl.later B0 (Nat.le_refl _)) hx)
 have hRl:=h.lt
 have hgl:=h.g_lt
 generalize W318 w c a la ln lc = W1 at *
 have BW:=hid B0
 obtain ⟨a0,a1,a2,_,_,_⟩:=three_cells x0
 generalize encV c a l = E at *
 clear h hk hl B0 hA hx
 unfold insV at *
 go_enter Tryz.func142,Tryz.ntmps142
 go_wp2_with fail
 refine HE.out.mono ?_
 rintro e w5 ⟨rfl,g',cap',hw5,hs5⟩
 have q1:=(hs5.block (b:=w.heap.size + 1) (by omega) (by omega) (by omega)).trans x1
 have n1 : w.heap.size + 1 ≠ g':=hs5.ne (by omega) (by omega)
 obtain ⟨k0,k1,k2,k3,k4,k5⟩:=three_cells q1
 have hl1:=block_lt_of_cell k0
 have W5:=hid hw5
 have S5:=hid ((Stp.of_below BW.out).trans hs5)
 clear hw5 hs5 x0 x1 a0 a1 a2 q1 HE
 go_wp2_with fail
 refine bodyPost_ret (v:=.agg #[.int .u8 c,.int .i64 a,.slice la ln lc]) ?_ rfl ⟨rfl,g',cap',?_,?_⟩
 ·rw [results_cell1 rfl]
  go_simp
 ·exact ((W5.out.set (b:=w.heap.size + 1) (by omega) n1).set (b:=w.heap.size + 1) (by omega) n1).set (b:=w.heap.size + 1) (by omega) n1
 ·exact ((S5.out.set (by omega)).set (by omega)).set (by omega)
end
end Go.Proofs.YtepcmfegggdjfaaGreatDoor

/-
  The walks over AddBytes, Apart and the kinds of which a bag holds nothing.
-/
import Derived.Test.YtlhopgdafaehhaaDoorApart
namespace Go.Proofs.YtlhopgdafaehhaaDoor
open Go.RowKit
set_option linter.unusedVariables false

theorem add_step {w w2 : World} {GB n B cap : Nat} {v : Value} {xs ys : List Value} (hown : w.ownsRow 0 24 1 v n xs) (hne : v.ownBlock ≠ some GB) (hc : w.cell? ⟨GB, 0, none⟩ = some v) (hf : w.frozen? ⟨GB, 0, none⟩ = false) (o : Obj)
    (hrow : Row w2 24 B (n + 1) cap ys) (hcase : (v = .slice (some ⟨B, 0, none⟩) n cap ∧ Kept (fun k => k = B) (w.alloc o) w2) ∨ ((w.alloc o).heap.size ≤ B ∧ Kept (fun _ => False) (w.alloc o) w2)) :
    w2.cell? ⟨GB, 0, none⟩ = some v ∧ w2.frozen? ⟨GB, 0, none⟩ = false ∧ B ≠ GB ∧ (v.ownBlock = some B ∨ w.heap.size ≤ B) ∧ (∀ j, w2.cell? ⟨GB, j, none⟩ = w.cell? ⟨GB, j, none⟩) ∧ Kept (fun b => v.ownBlock = some b) w w2 := by
  have hlt : GB < w.heap.size := block_lt_of_cell hc
  have hsz : (w.alloc o).heap.size = w.heap.size + 1 := by simp
  have hk0 := Kept.alloc (fun _ => False) w o
  have hk : Kept (fun b => v.ownBlock = some b) w w2 := by
    rcases hcase with ⟨rfl, h⟩ | ⟨_, h⟩
    · exact (hk0.mono (fun _ x => x.elim)).then h (fun k _ e => by subst e; rfl)
    · exact (hk0.mono (fun _ x => x.elim)).then h (fun _ _ x => x.elim)
  have hblk := hk.block GB hlt (fun e => hne e)
  refine ⟨(cell_of_block hblk 0).trans hc, (frozen_of_block hblk 0).trans hf, ?_, ?_, fun j => cell_of_block hblk j, hk⟩
  · rcases hcase with ⟨rfl, _⟩ | ⟨h, _⟩
    · intro e; subst e; exact hne rfl
    · omega
  · rcases hcase with ⟨rfl, _⟩ | ⟨h, _⟩
    · exact .inl rfl
    · exact .inr (by omega)

set_option maxRecDepth 100000 in
set_option maxHeartbeats 1000000 in
theorem add8 (GB : Nat) (v : Value) (n : Nat) (xs : List Value) (la : Option Addr) (ln lc : Nat) (w : World) (hn : n < 300) (hc : w.cell? ⟨GB, 0, none⟩ = some v) (hf : w.frozen? ⟨GB, 0, none⟩ = false)
    (hown : w.ownsRow 0 24 1 v n xs) (hne : v.ownBlock ≠ some GB) :
    Calls Tryd.prog 8 #[.pointer (some ⟨GB, 0, none⟩), .slice la ln lc] w fun e w' => e = .returned (.tuple #[]) ∧ ∃ B cap, Row w' 24 B (n + 1) cap (xs ++ [.slice la ln lc]) ∧ w'.cell? ⟨GB, 0, none⟩ = some (.slice (some ⟨B, 0, none⟩) (n + 1) cap) ∧
      w'.frozen? ⟨GB, 0, none⟩ = false ∧ B ≠ GB ∧ (v.ownBlock = some B ∨ w.heap.size ≤ B) ∧ (∀ j, j ≠ 0 → w'.cell? ⟨GB, j, none⟩ = w.cell? ⟨GB, j, none⟩) ∧ Kept (fun b => b = GB ∨ v.ownBlock = some b) w w' := by
  obtain ⟨i24, p0, p1, p2, p3⟩ := info_parts Tryd.info24
  obtain ⟨va, vc, rfl, _⟩ := own_slice hown
  have hb3 : n + 1 ≤ maxLen := by unfold maxLen; omega
  have hb4 : (n + 1) * 24 ≤ 140737488355328 := by omega
  have HO := hid hown
  have HNE := hid hne
  have HC := hid hc
  have HF := hid hf
  have hk0 := Kept.alloc (fun _ => False) w (.cells #[.slice la ln lc] 24)
  have HK0 := hid hk0
  clear hown hne hk0
  go_enter Tryd.func8, Tryd.ntmps8
  go_wp2_with (first
    | (at_builtin; refine app_cell _ rfl (.tmp 14) (.tmp 16) 29 rfl 24 i24 (.slice none 0 0) 24 Tryd.underlying29 p0 p1 p2 p3 rfl _ n _ rfl (own_keep HO.out fun B hB => HK0.out.block B (own_lt HO.out hB).1 (fun x => x)) ⟨w.heap.size, 0, none⟩ (.slice la ln lc) rfl (by simp [Addr.add]) rfl hb3 hb4 ?_; intro B cap w2 hrow hcase; obtain ⟨d1, d2, d3, d4, d5, d6⟩ := add_step HO.out HNE.out HC.out HF.out _ hrow hcase; have R1 := hid hrow; have D3 := hid d3; have D4 := hid d4; have D5 := hid d5; have D6 := hid d6; clear hrow hcase d3 d4 d5 d6))
  go_end0
  refine ⟨rfl, B, cap, R1.out.keep (heap_setCell_other _ _ _ _ D3.out), World.cell?_setCell_same _ _ _ d1, (World.frozen?_setCell _ _ _ _).trans d2, D3.out, D4.out, fun j hj => ?_, ?_⟩
  · rw [World.cell?_setCell_other _ _ _ _ (fun h => hj (congrArg Addr.off h).symm)]
    exact D5.out j
  · have hk := D6.out
    exact ⟨hk.os, hk.tape, hk.output, by rw [World.size_setCell]; exact hk.size, fun k h1 h2 => (heap_setCell_other _ _ _ _ (fun e => h2 (.inl e))).trans (hk.block k h1 (fun e => h2 (.inr e)))⟩

set_option maxRecDepth 100000 in
set_option maxHeartbeats 400000 in
theorem empty20 (GB : Nat) (w : World) (hc : w.cell? ⟨GB, 1, none⟩ = some (.slice none 0 0)) :
    Calls Tryd.prog 20 #[.pointer (some ⟨GB, 0, none⟩)] w fun e w' => e = .returned (.bool true) ∧ w' = w := by
  go_enter Tryd.func20, Tryd.ntmps20
  go_wp2
  refine wp_loop_rounds 1 ?_
  rw [rounds_succ]
  go_wp2
  refine wp_loop_rounds 1 ?_
  rw [rounds_succ]
  go_wp2
  refine wp_loop_rounds 1 ?_
  rw [rounds_succ]
  go_wp2
  go_ret
  exact ⟨rfl, rfl⟩

set_option maxRecDepth 100000 in
set_option maxHeartbeats 400000 in
theorem empty21 (GB : Nat) (w : World) (hc : w.cell? ⟨GB, 2, none⟩ = some (.slice none 0 0)) :
    Calls Tryd.prog 21 #[.pointer (some ⟨GB, 0, none⟩)] w fun e w' => e = .returned (.bool true) ∧ w' = w := by
  go_enter Tryd.func21, Tryd.ntmps21
  go_wp2
  refine wp_loop_rounds 1 ?_
  rw [rounds_succ]
  go_wp2
  refine wp_loop_rounds 1 ?_
  rw [rounds_succ]
  go_wp2
  refine wp_loop_rounds 1 ?_
  rw [rounds_succ]
  go_wp2
  go_ret
  exact ⟨rfl, rfl⟩

set_option maxRecDepth 100000 in
set_option maxHeartbeats 400000 in
theorem empty22 (GB : Nat) (w : World) (hc : w.cell? ⟨GB, 3, none⟩ = some (.slice none 0 0)) :
    Calls Tryd.prog 22 #[.pointer (some ⟨GB, 0, none⟩)] w fun e w' => e = .returned (.bool true) ∧ w' = w := by
  go_enter Tryd.func22, Tryd.ntmps22
  go_wp2
  refine wp_loop_rounds 1 ?_
  rw [rounds_succ]
  go_wp2
  refine wp_loop_rounds 1 ?_
  rw [rounds_succ]
  go_wp2
  refine wp_loop_rounds 1 ?_
  rw [rounds_succ]
  go_wp2
  go_ret
  exact ⟨rfl, rfl⟩

set_option maxRecDepth 100000 in
set_option maxHeartbeats 400000 in
theorem empty23 (GB : Nat) (w : World) (hc : w.cell? ⟨GB, 4, none⟩ = some (.slice none 0 0)) :
    Calls Tryd.prog 23 #[.pointer (some ⟨GB, 0, none⟩)] w fun e w' => e = .returned (.bool true) ∧ w' = w := by
  go_enter Tryd.func23, Tryd.ntmps23
  go_wp2
  refine wp_loop_rounds 1 ?_
  rw [rounds_succ]
  go_wp2
  refine wp_loop_rounds 1 ?_
  rw [rounds_succ]
  go_wp2
  refine wp_loop_rounds 1 ?_
  rw [rounds_succ]
  go_wp2
  go_ret
  exact ⟨rfl, rfl⟩

set_option maxRecDepth 100000 in
set_option maxHeartbeats 400000 in
theorem empty24 (GB : Nat) (w : World) (hc : w.cell? ⟨GB, 5, none⟩ = some (.slice none 0 0)) :
    Calls Tryd.prog 24 #[.pointer (some ⟨GB, 0, none⟩)] w fun e w' => e = .returned (.bool true) ∧ w' = w := by
  go_enter Tryd.func24, Tryd.ntmps24
  go_wp2
  refine wp_loop_rounds 1 ?_
  rw [rounds_succ]
  go_wp2
  refine wp_loop_rounds 1 ?_
  rw [rounds_succ]
  go_wp2
  refine wp_loop_rounds 1 ?_
  rw [rounds_succ]
  go_wp2
  go_ret
  exact ⟨rfl, rfl⟩

set_option maxRecDepth 100000 in
set_option maxHeartbeats 400000 in
theorem empty25 (GB : Nat) (w : World) (hc : w.cell? ⟨GB, 6, none⟩ = some (.slice none 0 0)) :
    Calls Tryd.prog 25 #[.pointer (some ⟨GB, 0, none⟩)] w fun e w' => e = .returned (.bool true) ∧ w' = w := by
  go_enter Tryd.func25, Tryd.ntmps25
  go_wp2
  refine wp_loop_rounds 1 ?_
  rw [rounds_succ]
  go_wp2
  refine wp_loop_rounds 1 ?_
  rw [rounds_succ]
  go_wp2
  refine wp_loop_rounds 1 ?_
  rw [rounds_succ]
  go_wp2
  go_ret
  exact ⟨rfl, rfl⟩

set_option maxRecDepth 100000 in
set_option maxHeartbeats 400000 in
theorem empty26 (GB : Nat) (w : World) (hc : w.cell? ⟨GB, 7, none⟩ = some (.slice none 0 0)) :
    Calls Tryd.prog 26 #[.pointer (some ⟨GB, 0, none⟩)] w fun e w' => e = .returned (.bool true) ∧ w' = w := by
  go_enter Tryd.func26, Tryd.ntmps26
  go_wp2
  refine wp_loop_rounds 1 ?_
  rw [rounds_succ]
  go_wp2
  refine wp_loop_rounds 1 ?_
  rw [rounds_succ]
  go_wp2
  refine wp_loop_rounds 1 ?_
  rw [rounds_succ]
  go_wp2
  go_ret
  exact ⟨rfl, rfl⟩

set_option maxRecDepth 100000 in
set_option maxHeartbeats 400000 in
theorem empty27 (GB : Nat) (w : World) (hc : w.cell? ⟨GB, 8, none⟩ = some (.slice none 0 0)) :
    Calls Tryd.prog 27 #[.pointer (some ⟨GB, 0, none⟩)] w fun e w' => e = .returned (.bool true) ∧ w' = w := by
  go_enter Tryd.func27, Tryd.ntmps27
  go_wp2
  refine wp_loop_rounds 1 ?_
  rw [rounds_succ]
  go_wp2
  refine wp_loop_rounds 1 ?_
  rw [rounds_succ]
  go_wp2
  refine wp_loop_rounds 1 ?_
  rw [rounds_succ]
  go_wp2
  go_ret
  exact ⟨rfl, rfl⟩

set_option maxRecDepth 100000 in
set_option maxHeartbeats 400000 in
theorem empty28 (GB : Nat) (w : World) (hc : w.cell? ⟨GB, 9, none⟩ = some (.slice none 0 0)) :
    Calls Tryd.prog 28 #[.pointer (some ⟨GB, 0, none⟩)] w fun e w' => e = .returned (.bool true) ∧ w' = w := by
  go_enter Tryd.func28, Tryd.ntmps28
  go_wp2
  refine wp_loop_rounds 1 ?_
  rw [rounds_succ]
  go_wp2
  refine wp_loop_rounds 1 ?_
  rw [rounds_succ]
  go_wp2
  refine wp_loop_rounds 1 ?_
  rw [rounds_succ]
  go_wp2
  go_ret
  exact ⟨rfl, rfl⟩

set_option maxRecDepth 100000 in
set_option maxHeartbeats 400000 in
theorem empty29 (GB : Nat) (w : World) (hc : w.cell? ⟨GB, 10, none⟩ = some (.slice none 0 0)) :
    Calls Tryd.prog 29 #[.pointer (some ⟨GB, 0, none⟩)] w fun e w' => e = .returned (.bool true) ∧ w' = w := by
  go_enter Tryd.func29, Tryd.ntmps29
  go_wp2
  refine wp_loop_rounds 1 ?_
  rw [rounds_succ]
  go_wp2
  refine wp_loop_rounds 1 ?_
  rw [rounds_succ]
  go_wp2
  refine wp_loop_rounds 1 ?_
  rw [rounds_succ]
  go_wp2
  go_ret
  exact ⟨rfl, rfl⟩

set_option maxRecDepth 100000 in
set_option maxHeartbeats 400000 in
theorem empty30 (GB : Nat) (w : World) (hc : w.cell? ⟨GB, 11, none⟩ = some (.slice none 0 0)) :
    Calls Tryd.prog 30 #[.pointer (some ⟨GB, 0, none⟩)] w fun e w' => e = .returned (.bool true) ∧ w' = w := by
  go_enter Tryd.func30, Tryd.ntmps30
  go_wp2
  refine wp_loop_rounds 1 ?_
  rw [rounds_succ]
  go_wp2
  refine wp_loop_rounds 1 ?_
  rw [rounds_succ]
  go_wp2
  refine wp_loop_rounds 1 ?_
  rw [rounds_succ]
  go_wp2
  go_ret
  exact ⟨rfl, rfl⟩

set_option maxRecDepth 100000 in
set_option maxHeartbeats 400000 in
theorem empty31 (GB : Nat) (w : World) (hc : w.cell? ⟨GB, 12, none⟩ = some (.slice none 0 0)) :
    Calls Tryd.prog 31 #[.pointer (some ⟨GB, 0, none⟩)] w fun e w' => e = .returned (.bool true) ∧ w' = w := by
  go_enter Tryd.func31, Tryd.ntmps31
  go_wp2
  refine wp_loop_rounds 1 ?_
  rw [rounds_succ]
  go_wp2
  refine wp_loop_rounds 1 ?_
  rw [rounds_succ]
  go_wp2
  refine wp_loop_rounds 1 ?_
  rw [rounds_succ]
  go_wp2
  go_ret
  exact ⟨rfl, rfl⟩

set_option maxRecDepth 100000 in
set_option maxHeartbeats 400000 in
theorem empty32 (GB : Nat) (w : World) (hc : w.cell? ⟨GB, 13, none⟩ = some (.slice none 0 0)) :
    Calls Tryd.prog 32 #[.pointer (some ⟨GB, 0, none⟩)] w fun e w' => e = .returned (.bool true) ∧ w' = w := by
  go_enter Tryd.func32, Tryd.ntmps32
  go_wp2
  refine wp_loop_rounds 1 ?_
  rw [rounds_succ]
  go_wp2
  refine wp_loop_rounds 1 ?_
  rw [rounds_succ]
  go_wp2
  refine wp_loop_rounds 1 ?_
  rw [rounds_succ]
  go_wp2
  go_ret
  exact ⟨rfl, rfl⟩

set_option maxRecDepth 100000 in
set_option maxHeartbeats 400000 in
theorem empty33 (GB : Nat) (w : World) (hc : w.cell? ⟨GB, 14, none⟩ = some (.slice none 0 0)) :
    Calls Tryd.prog 33 #[.pointer (some ⟨GB, 0, none⟩)] w fun e w' => e = .returned (.bool true) ∧ w' = w := by
  go_enter Tryd.func33, Tryd.ntmps33
  go_wp2
  refine wp_loop_rounds 1 ?_
  rw [rounds_succ]
  go_wp2
  refine wp_loop_rounds 1 ?_
  rw [rounds_succ]
  go_wp2
  refine wp_loop_rounds 1 ?_
  rw [rounds_succ]
  go_wp2
  go_ret
  exact ⟨rfl, rfl⟩

set_option maxRecDepth 100000 in
set_option maxHeartbeats 400000 in
theorem empty34 (GB : Nat) (w : World) (hc : w.cell? ⟨GB, 15, none⟩ = some (.slice none 0 0)) :
    Calls Tryd.prog 34 #[.pointer (some ⟨GB, 0, none⟩)] w fun e w' => e = .returned (.bool true) ∧ w' = w := by
  go_enter Tryd.func34, Tryd.ntmps34
  go_wp2
  refine wp_loop_rounds 1 ?_
  rw [rounds_succ]
  go_wp2
  refine wp_loop_rounds 1 ?_
  rw [rounds_succ]
  go_wp2
  refine wp_loop_rounds 1 ?_
  rw [rounds_succ]
  go_wp2
  go_ret
  exact ⟨rfl, rfl⟩

set_option maxRecDepth 100000 in
set_option maxHeartbeats 400000 in
theorem empty35 (GB : Nat) (w : World) (hc : w.cell? ⟨GB, 16, none⟩ = some (.slice none 0 0)) :
    Calls Tryd.prog 35 #[.pointer (some ⟨GB, 0, none⟩)] w fun e w' => e = .returned (.bool true) ∧ w' = w := by
  go_enter Tryd.func35, Tryd.ntmps35
  go_wp2
  refine wp_loop_rounds 1 ?_
  rw [rounds_succ]
  go_wp2
  refine wp_loop_rounds 1 ?_
  rw [rounds_succ]
  go_wp2
  refine wp_loop_rounds 1 ?_
  rw [rounds_succ]
  go_wp2
  go_ret
  exact ⟨rfl, rfl⟩

set_option maxRecDepth 100000 in
set_option maxHeartbeats 4000000 in
/-- Apart, of a bag that holds lists of bytes alone. -/
theorem apart13 (GB X m cx : Nat) (G L C : Nat → Nat) (w : World) (hm : m ≤ 300)
    (hg : w.cell? ⟨GB, 0, none⟩ = some (.slice (some ⟨X, 0, none⟩) m cx))
    (hx : ∀ j, j < m → w.cell? ⟨X, j, none⟩ = some (.slice (some ⟨G j, 0, none⟩) (L j) (C j)))
    (ho : ∀ j, j < m → ∃ xs, Row w 5 (G j) (L j) (C j) xs) (hL : ∀ j, j < m → L j ≤ 4194304)
    (hinj : ∀ a b, a < m → b < m → G a = G b → a = b) (hGX : ∀ j, j < m → ¬ GB = G j ∧ ¬ X = G j)
    (hfld : ∀ j, 1 ≤ j → j ≤ 16 → w.cell? ⟨GB, j, none⟩ = some (.slice none 0 0)) :
    Calls Tryd.prog 13 #[.pointer (some ⟨GB, 0, none⟩)] w fun e w' => e = .returned (.bool true) ∧ Kept (fun b => ∃ j, j < m ∧ b = G j) w w' := by
  have HA := hid (apart19 GB X m cx G L C w hm hg hx ho hL hinj hGX)
  have HF := hid hfld
  have NGB := hid (show ¬ ∃ j, j < m ∧ GB = G j from fun ⟨j, hj, e⟩ => (hGX j hj).1 e)
  clear hg hx ho hL hinj hGX hfld
  go_enter Tryd.func13, Tryd.ntmps13
  go_wp2_with fail
  refine HA.out.mono ?_
  rintro e w1 ⟨rfl, hk⟩
  have F := hid (fun j h1 h2 => hk.cell (HF.out j h1 h2) NGB.out)
  have HK := hid hk
  clear hk HA HF NGB
  go_wp2_with fail
  refine (empty20 _ _ (F.out 1 (by decide) (by decide))).mono ?_
  rintro e w2 ⟨rfl, hw⟩
  rw [hw]
  clear hw w2
  go_wp2_with fail
  refine (empty21 _ _ (F.out 2 (by decide) (by decide))).mono ?_
  rintro e w3 ⟨rfl, hw⟩
  rw [hw]
  clear hw w3
  go_wp2_with fail
  refine (empty22 _ _ (F.out 3 (by decide) (by decide))).mono ?_
  rintro e w4 ⟨rfl, hw⟩
  rw [hw]
  clear hw w4
  go_wp2_with fail
  refine (empty23 _ _ (F.out 4 (by decide) (by decide))).mono ?_
  rintro e w5 ⟨rfl, hw⟩
  rw [hw]
  clear hw w5
  go_wp2_with fail
  refine (empty24 _ _ (F.out 5 (by decide) (by decide))).mono ?_
  rintro e w6 ⟨rfl, hw⟩
  rw [hw]
  clear hw w6
  go_wp2_with fail
  refine (empty25 _ _ (F.out 6 (by decide) (by decide))).mono ?_
  rintro e w7 ⟨rfl, hw⟩
  rw [hw]
  clear hw w7
  go_wp2_with fail
  refine (empty26 _ _ (F.out 7 (by decide) (by decide))).mono ?_
  rintro e w8 ⟨rfl, hw⟩
  rw [hw]
  clear hw w8
  go_wp2_with fail
  refine (empty27 _ _ (F.out 8 (by decide) (by decide))).mono ?_
  rintro e w9 ⟨rfl, hw⟩
  rw [hw]
  clear hw w9
  go_wp2_with fail
  refine (empty28 _ _ (F.out 9 (by decide) (by decide))).mono ?_
  rintro e w10 ⟨rfl, hw⟩
  rw [hw]
  clear hw w10
  go_wp2_with fail
  refine (empty29 _ _ (F.out 10 (by decide) (by decide))).mono ?_
  rintro e w11 ⟨rfl, hw⟩
  rw [hw]
  clear hw w11
  go_wp2_with fail
  refine (empty30 _ _ (F.out 11 (by decide) (by decide))).mono ?_
  rintro e w12 ⟨rfl, hw⟩
  rw [hw]
  clear hw w12
  go_wp2_with fail
  refine (empty31 _ _ (F.out 12 (by decide) (by decide))).mono ?_
  rintro e w13 ⟨rfl, hw⟩
  rw [hw]
  clear hw w13
  go_wp2_with fail
  refine (empty32 _ _ (F.out 13 (by decide) (by decide))).mono ?_
  rintro e w14 ⟨rfl, hw⟩
  rw [hw]
  clear hw w14
  go_wp2_with fail
  refine (empty33 _ _ (F.out 14 (by decide) (by decide))).mono ?_
  rintro e w15 ⟨rfl, hw⟩
  rw [hw]
  clear hw w15
  go_wp2_with fail
  refine (empty34 _ _ (F.out 15 (by decide) (by decide))).mono ?_
  rintro e w16 ⟨rfl, hw⟩
  rw [hw]
  clear hw w16
  go_wp2_with fail
  refine (empty35 _ _ (F.out 16 (by decide) (by decide))).mono ?_
  rintro e w17 ⟨rfl, hw⟩
  rw [hw]
  clear hw w17
  go_wp2
  go_ret
  exact ⟨rfl, HK.out⟩
end Go.Proofs.YtlhopgdafaehhaaDoor

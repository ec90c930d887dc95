/-
  The walks over AddInts, AddBytes and the kinds of which a bag holds nothing.
-/
import Derived.Test.YtedkmfklobipaaaDoorApartInts
import Derived.Test.YtedkmfklobipaaaDoorApartBytes
namespace Go.Proofs.YtedkmfklobipaaaDoor
open Go.RowKit
set_option linter.unusedVariables false

theorem add_step {w w2 : World} {es : TypeId} {c GB n B cap : Nat} {v : Value} {xs ys : List Value} (hown : w.ownsRow 0 es 1 v n xs) (hne : v.ownBlock ≠ some GB) (hc : w.cell? ⟨GB, c, none⟩ = some v) (hf : w.frozen? ⟨GB, c, none⟩ = false) (o : Obj)
    (hrow : Row w2 es B (n + 1) cap ys) (hcase : (v = .slice (some ⟨B, 0, none⟩) n cap ∧ Kept (fun k => k = B) (w.alloc o) w2) ∨ ((w.alloc o).heap.size ≤ B ∧ Kept (fun _ => False) (w.alloc o) w2)) :
    w2.cell? ⟨GB, c, none⟩ = some v ∧ w2.frozen? ⟨GB, c, none⟩ = false ∧ B ≠ GB ∧ (v.ownBlock = some B ∨ w.heap.size ≤ B) ∧ (∀ j, w2.cell? ⟨GB, j, none⟩ = w.cell? ⟨GB, j, none⟩) ∧ Kept (fun b => v.ownBlock = some b) w w2 := by
  have hlt : GB < w.heap.size := block_lt_of_cell hc
  have hsz : (w.alloc o).heap.size = w.heap.size + 1 := by simp
  have hk0 := Kept.alloc (fun _ => False) w o
  have hk : Kept (fun b => v.ownBlock = some b) w w2 := by
    rcases hcase with ⟨rfl, h⟩ | ⟨_, h⟩
    · exact (hk0.mono (fun _ x => x.elim)).then h (fun k _ e => by subst e; rfl)
    · exact (hk0.mono (fun _ x => x.elim)).then h (fun _ _ x => x.elim)
  have hblk := hk.block GB hlt (fun e => hne e)
  refine ⟨(cell_of_block hblk c).trans hc, (frozen_of_block hblk c).trans hf, ?_, ?_, fun j => cell_of_block hblk j, hk⟩
  · rcases hcase with ⟨rfl, _⟩ | ⟨h, _⟩
    · intro e; subst e; exact hne rfl
    · omega
  · rcases hcase with ⟨rfl, _⟩ | ⟨h, _⟩
    · exact .inl rfl
    · exact .inr (by omega)

set_option maxRecDepth 100000 in
set_option maxHeartbeats 1000000 in
theorem add28 (GB : Nat) (v : Value) (n : Nat) (xs : List Value) (la : Option Addr) (ln lc : Nat) (w : World) (hn : n < 300) (hc : w.cell? ⟨GB, 1, none⟩ = some v) (hf : w.frozen? ⟨GB, 1, none⟩ = false)
    (hown : w.ownsRow 0 39 1 v n xs) (hne : v.ownBlock ≠ some GB) :
    Calls Tryd.prog 28 #[.pointer (some ⟨GB, 0, none⟩), .slice la ln lc] w fun e w' => e = .returned (.tuple #[]) ∧ ∃ B cap, Row w' 39 B (n + 1) cap (xs ++ [.slice la ln lc]) ∧ w'.cell? ⟨GB, 1, none⟩ = some (.slice (some ⟨B, 0, none⟩) (n + 1) cap) ∧
      w'.frozen? ⟨GB, 1, none⟩ = false ∧ B ≠ GB ∧ (v.ownBlock = some B ∨ w.heap.size ≤ B) ∧ (∀ j, j ≠ 1 → w'.cell? ⟨GB, j, none⟩ = w.cell? ⟨GB, j, none⟩) ∧ Kept (fun b => b = GB ∨ v.ownBlock = some b) w w' ∧ (∀ j, w'.frozen? ⟨GB, j, none⟩ = w.frozen? ⟨GB, j, none⟩) := by
  obtain ⟨i24, p0, p1, p2, p3⟩ := info_parts Tryd.inlInts
  obtain ⟨va, vc, rfl, _⟩ := own_sliceM hown
  have hb3 : n + 1 ≤ maxLen := by unfold maxLen; omega
  have hb4 : (n + 1) * 24 ≤ 140737488355328 := by omega
  have HO := hid hown
  have HNE := hid hne
  have HC := hid hc
  have HF := hid hf
  have hk0 := Kept.alloc (fun _ => False) w (.cells #[.slice la ln lc] 39)
  have HK0 := hid hk0
  clear hown hne hk0
  go_enter Tryd.func28, Tryd.ntmps28
  go_wp2_with (first
    | (at_builtin; refine app_cell _ rfl (.tmp 14) (.tmp 16) 45 rfl 39 i24 (.slice none 0 0) 24 Tryd.underlying45 p0 p1 p2 p3 rfl _ n _ rfl (own_keep HO.out fun B hB => HK0.out.block B (own_lt HO.out hB).1 (fun x => x)) ⟨w.heap.size, 0, none⟩ (.slice la ln lc) rfl (by simp [Addr.add]) rfl hb3 hb4 ?_; intro B cap w2 hrow hcase; obtain ⟨d1, d2, d3, d4, d5, d6⟩ := add_step HO.out HNE.out HC.out HF.out _ hrow hcase; have R1 := hid hrow; have D3 := hid d3; have D4 := hid d4; have D5 := hid d5; have D6 := hid d6; clear hrow hcase d3 d4 d5 d6))
  go_end0
  refine ⟨rfl, B, cap, R1.out.keep (heap_setCell_other _ _ _ _ D3.out), World.cell?_setCell_same _ _ _ d1, (World.frozen?_setCell _ _ _ _).trans d2, D3.out, D4.out, fun j hj => ?_, ?_, fun j => ?_⟩
  · rw [World.cell?_setCell_other _ _ _ _ (fun h => hj (congrArg Addr.off h).symm)]
    exact D5.out j
  · have hk := D6.out
    exact ⟨hk.os, hk.tape, hk.output, by rw [World.size_setCell]; exact hk.size, fun k h1 h2 => (heap_setCell_other _ _ _ _ (fun e => h2 (.inl e))).trans (hk.block k h1 (fun e => h2 (.inr e)))⟩
  · rw [World.frozen?_setCell]
    exact frozen_of_block (D6.out.block GB (block_lt_of_cell HC.out) (fun e => HNE.out e)) j

set_option maxRecDepth 100000 in
set_option maxHeartbeats 1000000 in
theorem add42 (GB : Nat) (v : Value) (n : Nat) (xs : List Value) (la : Option Addr) (ln lc : Nat) (w : World) (hn : n < 300) (hc : w.cell? ⟨GB, 0, none⟩ = some v) (hf : w.frozen? ⟨GB, 0, none⟩ = false)
    (hown : w.ownsRow 0 41 1 v n xs) (hne : v.ownBlock ≠ some GB) :
    Calls Tryd.prog 42 #[.pointer (some ⟨GB, 0, none⟩), .slice la ln lc] w fun e w' => e = .returned (.tuple #[]) ∧ ∃ B cap, Row w' 41 B (n + 1) cap (xs ++ [.slice la ln lc]) ∧ w'.cell? ⟨GB, 0, none⟩ = some (.slice (some ⟨B, 0, none⟩) (n + 1) cap) ∧
      w'.frozen? ⟨GB, 0, none⟩ = false ∧ B ≠ GB ∧ (v.ownBlock = some B ∨ w.heap.size ≤ B) ∧ (∀ j, j ≠ 0 → w'.cell? ⟨GB, j, none⟩ = w.cell? ⟨GB, j, none⟩) ∧ Kept (fun b => b = GB ∨ v.ownBlock = some b) w w' ∧ (∀ j, w'.frozen? ⟨GB, j, none⟩ = w.frozen? ⟨GB, j, none⟩) := by
  obtain ⟨i24, p0, p1, p2, p3⟩ := info_parts Tryd.inlBytes
  obtain ⟨va, vc, rfl, _⟩ := own_sliceM hown
  have hb3 : n + 1 ≤ maxLen := by unfold maxLen; omega
  have hb4 : (n + 1) * 24 ≤ 140737488355328 := by omega
  have HO := hid hown
  have HNE := hid hne
  have HC := hid hc
  have HF := hid hf
  have hk0 := Kept.alloc (fun _ => False) w (.cells #[.slice la ln lc] 41)
  have HK0 := hid hk0
  clear hown hne hk0
  go_enter Tryd.func42, Tryd.ntmps42
  go_wp2_with (first
    | (at_builtin; refine app_cell _ rfl (.tmp 14) (.tmp 16) 22 rfl 41 i24 (.slice none 0 0) 24 Tryd.underlying22 p0 p1 p2 p3 rfl _ n _ rfl (own_keep HO.out fun B hB => HK0.out.block B (own_lt HO.out hB).1 (fun x => x)) ⟨w.heap.size, 0, none⟩ (.slice la ln lc) rfl (by simp [Addr.add]) rfl hb3 hb4 ?_; intro B cap w2 hrow hcase; obtain ⟨d1, d2, d3, d4, d5, d6⟩ := add_step HO.out HNE.out HC.out HF.out _ hrow hcase; have R1 := hid hrow; have D3 := hid d3; have D4 := hid d4; have D5 := hid d5; have D6 := hid d6; clear hrow hcase d3 d4 d5 d6))
  go_end0
  refine ⟨rfl, B, cap, R1.out.keep (heap_setCell_other _ _ _ _ D3.out), World.cell?_setCell_same _ _ _ d1, (World.frozen?_setCell _ _ _ _).trans d2, D3.out, D4.out, fun j hj => ?_, ?_, fun j => ?_⟩
  · rw [World.cell?_setCell_other _ _ _ _ (fun h => hj (congrArg Addr.off h).symm)]
    exact D5.out j
  · have hk := D6.out
    exact ⟨hk.os, hk.tape, hk.output, by rw [World.size_setCell]; exact hk.size, fun k h1 h2 => (heap_setCell_other _ _ _ _ (fun e => h2 (.inl e))).trans (hk.block k h1 (fun e => h2 (.inr e)))⟩
  · rw [World.frozen?_setCell]
    exact frozen_of_block (D6.out.block GB (block_lt_of_cell HC.out) (fun e => HNE.out e)) j

set_option maxRecDepth 100000 in
set_option maxHeartbeats 400000 in
theorem empty45 (GB : Nat) (w : World) (hc : w.cell? ⟨GB, 2, none⟩ = some (.slice none 0 0)) :
    Calls Tryd.prog 45 #[.pointer (some ⟨GB, 0, none⟩)] w fun e w' => e = .returned (.bool true) ∧ w' = w := by
  go_enter Tryd.func45, Tryd.ntmps45
  go_wp2
  refine wp_loop_rounds 1 ?_
  rw [rounds_succ]
  go_wp2
  refine wp_loop_rounds 1 ?_
  rw [rounds_succ]
  go_wp2
  refine wp_loop_rounds 1 ?_
  rw [rounds_succ]
  go_wp2
  go_ret
  exact ⟨rfl, rfl⟩

set_option maxRecDepth 100000 in
set_option maxHeartbeats 400000 in
theorem empty46 (GB : Nat) (w : World) (hc : w.cell? ⟨GB, 3, none⟩ = some (.slice none 0 0)) :
    Calls Tryd.prog 46 #[.pointer (some ⟨GB, 0, none⟩)] w fun e w' => e = .returned (.bool true) ∧ w' = w := by
  go_enter Tryd.func46, Tryd.ntmps46
  go_wp2
  refine wp_loop_rounds 1 ?_
  rw [rounds_succ]
  go_wp2
  refine wp_loop_rounds 1 ?_
  rw [rounds_succ]
  go_wp2
  refine wp_loop_rounds 1 ?_
  rw [rounds_succ]
  go_wp2
  go_ret
  exact ⟨rfl, rfl⟩

set_option maxRecDepth 100000 in
set_option maxHeartbeats 400000 in
theorem empty47 (GB : Nat) (w : World) (hc : w.cell? ⟨GB, 4, none⟩ = some (.slice none 0 0)) :
    Calls Tryd.prog 47 #[.pointer (some ⟨GB, 0, none⟩)] w fun e w' => e = .returned (.bool true) ∧ w' = w := by
  go_enter Tryd.func47, Tryd.ntmps47
  go_wp2
  refine wp_loop_rounds 1 ?_
  rw [rounds_succ]
  go_wp2
  refine wp_loop_rounds 1 ?_
  rw [rounds_succ]
  go_wp2
  refine wp_loop_rounds 1 ?_
  rw [rounds_succ]
  go_wp2
  go_ret
  exact ⟨rfl, rfl⟩

set_option maxRecDepth 100000 in
set_option maxHeartbeats 400000 in
theorem empty48 (GB : Nat) (w : World) (hc : w.cell? ⟨GB, 5, none⟩ = some (.slice none 0 0)) :
    Calls Tryd.prog 48 #[.pointer (some ⟨GB, 0, none⟩)] w fun e w' => e = .returned (.bool true) ∧ w' = w := by
  go_enter Tryd.func48, Tryd.ntmps48
  go_wp2
  refine wp_loop_rounds 1 ?_
  rw [rounds_succ]
  go_wp2
  refine wp_loop_rounds 1 ?_
  rw [rounds_succ]
  go_wp2
  refine wp_loop_rounds 1 ?_
  rw [rounds_succ]
  go_wp2
  go_ret
  exact ⟨rfl, rfl⟩

set_option maxRecDepth 100000 in
set_option maxHeartbeats 400000 in
theorem empty49 (GB : Nat) (w : World) (hc : w.cell? ⟨GB, 6, none⟩ = some (.slice none 0 0)) :
    Calls Tryd.prog 49 #[.pointer (some ⟨GB, 0, none⟩)] w fun e w' => e = .returned (.bool true) ∧ w' = w := by
  go_enter Tryd.func49, Tryd.ntmps49
  go_wp2
  refine wp_loop_rounds 1 ?_
  rw [rounds_succ]
  go_wp2
  refine wp_loop_rounds 1 ?_
  rw [rounds_succ]
  go_wp2
  refine wp_loop_rounds 1 ?_
  rw [rounds_succ]
  go_wp2
  go_ret
  exact ⟨rfl, rfl⟩

set_option maxRecDepth 100000 in
set_option maxHeartbeats 400000 in
theorem empty50 (GB : Nat) (w : World) (hc : w.cell? ⟨GB, 7, none⟩ = some (.slice none 0 0)) :
    Calls Tryd.prog 50 #[.pointer (some ⟨GB, 0, none⟩)] w fun e w' => e = .returned (.bool true) ∧ w' = w := by
  go_enter Tryd.func50, Tryd.ntmps50
  go_wp2
  refine wp_loop_rounds 1 ?_
  rw [rounds_succ]
  go_wp2
  refine wp_loop_rounds 1 ?_
  rw [rounds_succ]
  go_wp2
  refine wp_loop_rounds 1 ?_
  rw [rounds_succ]
  go_wp2
  go_ret
  exact ⟨rfl, rfl⟩

set_option maxRecDepth 100000 in
set_option maxHeartbeats 400000 in
theorem empty51 (GB : Nat) (w : World) (hc : w.cell? ⟨GB, 8, none⟩ = some (.slice none 0 0)) :
    Calls Tryd.prog 51 #[.pointer (some ⟨GB, 0, none⟩)] w fun e w' => e = .returned (.bool true) ∧ w' = w := by
  go_enter Tryd.func51, Tryd.ntmps51
  go_wp2
  refine wp_loop_rounds 1 ?_
  rw [rounds_succ]
  go_wp2
  refine wp_loop_rounds 1 ?_
  rw [rounds_succ]
  go_wp2
  refine wp_loop_rounds 1 ?_
  rw [rounds_succ]
  go_wp2
  go_ret
  exact ⟨rfl, rfl⟩

set_option maxRecDepth 100000 in
set_option maxHeartbeats 400000 in
theorem empty52 (GB : Nat) (w : World) (hc : w.cell? ⟨GB, 9, none⟩ = some (.slice none 0 0)) :
    Calls Tryd.prog 52 #[.pointer (some ⟨GB, 0, none⟩)] w fun e w' => e = .returned (.bool true) ∧ w' = w := by
  go_enter Tryd.func52, Tryd.ntmps52
  go_wp2
  refine wp_loop_rounds 1 ?_
  rw [rounds_succ]
  go_wp2
  refine wp_loop_rounds 1 ?_
  rw [rounds_succ]
  go_wp2
  refine wp_loop_rounds 1 ?_
  rw [rounds_succ]
  go_wp2
  go_ret
  exact ⟨rfl, rfl⟩

set_option maxRecDepth 100000 in
set_option maxHeartbeats 400000 in
theorem empty53 (GB : Nat) (w : World) (hc : w.cell? ⟨GB, 10, none⟩ = some (.slice none 0 0)) :
    Calls Tryd.prog 53 #[.pointer (some ⟨GB, 0, none⟩)] w fun e w' => e = .returned (.bool true) ∧ w' = w := by
  go_enter Tryd.func53, Tryd.ntmps53
  go_wp2
  refine wp_loop_rounds 1 ?_
  rw [rounds_succ]
  go_wp2
  refine wp_loop_rounds 1 ?_
  rw [rounds_succ]
  go_wp2
  refine wp_loop_rounds 1 ?_
  rw [rounds_succ]
  go_wp2
  go_ret
  exact ⟨rfl, rfl⟩

set_option maxRecDepth 100000 in
set_option maxHeartbeats 400000 in
theorem empty54 (GB : Nat) (w : World) (hc : w.cell? ⟨GB, 11, none⟩ = some (.slice none 0 0)) :
    Calls Tryd.prog 54 #[.pointer (some ⟨GB, 0, none⟩)] w fun e w' => e = .returned (.bool true) ∧ w' = w := by
  go_enter Tryd.func54, Tryd.ntmps54
  go_wp2
  refine wp_loop_rounds 1 ?_
  rw [rounds_succ]
  go_wp2
  refine wp_loop_rounds 1 ?_
  rw [rounds_succ]
  go_wp2
  refine wp_loop_rounds 1 ?_
  rw [rounds_succ]
  go_wp2
  go_ret
  exact ⟨rfl, rfl⟩

set_option maxRecDepth 100000 in
set_option maxHeartbeats 400000 in
theorem empty55 (GB : Nat) (w : World) (hc : w.cell? ⟨GB, 12, none⟩ = some (.slice none 0 0)) :
    Calls Tryd.prog 55 #[.pointer (some ⟨GB, 0, none⟩)] w fun e w' => e = .returned (.bool true) ∧ w' = w := by
  go_enter Tryd.func55, Tryd.ntmps55
  go_wp2
  refine wp_loop_rounds 1 ?_
  rw [rounds_succ]
  go_wp2
  refine wp_loop_rounds 1 ?_
  rw [rounds_succ]
  go_wp2
  refine wp_loop_rounds 1 ?_
  rw [rounds_succ]
  go_wp2
  go_ret
  exact ⟨rfl, rfl⟩

set_option maxRecDepth 100000 in
set_option maxHeartbeats 400000 in
theorem empty56 (GB : Nat) (w : World) (hc : w.cell? ⟨GB, 13, none⟩ = some (.slice none 0 0)) :
    Calls Tryd.prog 56 #[.pointer (some ⟨GB, 0, none⟩)] w fun e w' => e = .returned (.bool true) ∧ w' = w := by
  go_enter Tryd.func56, Tryd.ntmps56
  go_wp2
  refine wp_loop_rounds 1 ?_
  rw [rounds_succ]
  go_wp2
  refine wp_loop_rounds 1 ?_
  rw [rounds_succ]
  go_wp2
  refine wp_loop_rounds 1 ?_
  rw [rounds_succ]
  go_wp2
  go_ret
  exact ⟨rfl, rfl⟩

set_option maxRecDepth 100000 in
set_option maxHeartbeats 400000 in
theorem empty57 (GB : Nat) (w : World) (hc : w.cell? ⟨GB, 14, none⟩ = some (.slice none 0 0)) :
    Calls Tryd.prog 57 #[.pointer (some ⟨GB, 0, none⟩)] w fun e w' => e = .returned (.bool true) ∧ w' = w := by
  go_enter Tryd.func57, Tryd.ntmps57
  go_wp2
  refine wp_loop_rounds 1 ?_
  rw [rounds_succ]
  go_wp2
  refine wp_loop_rounds 1 ?_
  rw [rounds_succ]
  go_wp2
  refine wp_loop_rounds 1 ?_
  rw [rounds_succ]
  go_wp2
  go_ret
  exact ⟨rfl, rfl⟩

set_option maxRecDepth 100000 in
set_option maxHeartbeats 400000 in
theorem empty59 (GB : Nat) (w : World) (hc : w.cell? ⟨GB, 16, none⟩ = some (.slice none 0 0)) :
    Calls Tryd.prog 59 #[.pointer (some ⟨GB, 0, none⟩)] w fun e w' => e = .returned (.bool true) ∧ w' = w := by
  go_enter Tryd.func59, Tryd.ntmps59
  go_wp2
  refine wp_loop_rounds 1 ?_
  rw [rounds_succ]
  go_wp2
  refine wp_loop_rounds 1 ?_
  rw [rounds_succ]
  go_wp2
  refine wp_loop_rounds 1 ?_
  rw [rounds_succ]
  go_wp2
  go_ret
  exact ⟨rfl, rfl⟩

end Go.Proofs.YtedkmfklobipaaaDoor

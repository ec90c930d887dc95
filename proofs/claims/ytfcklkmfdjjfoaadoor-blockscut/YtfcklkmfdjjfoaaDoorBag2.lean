/-
  The walks over AddInts, AddBools, AddBlocks, Apart and the kinds of which a bag holds nothing; the bag's state, lists of numbers and of truths.
-/
import Derived.Test.YtfcklkmfdjjfoaaDoorApartInts
import Derived.Test.YtfcklkmfdjjfoaaDoorApartBools
namespace Go.Proofs.YtfcklkmfdjjfoaaDoor
open Go.RowKit
set_option linter.unusedVariables false

theorem add_step {w w2 : World} {es : TypeId} {c GB n B cap : Nat} {v : Value} {xs ys : List Value} (hown : w.ownsRow 0 es 1 v n xs) (hne : v.ownBlock ≠ some GB) (hc : w.cell? ⟨GB, c, none⟩ = some v) (hf : w.frozen? ⟨GB, c, none⟩ = false) (o : Obj)
    (hrow : Row w2 es B (n + 1) cap ys) (hcase : (v = .slice (some ⟨B, 0, none⟩) n cap ∧ Kept (fun k => k = B) (w.alloc o) w2) ∨ ((w.alloc o).heap.size ≤ B ∧ Kept (fun _ => False) (w.alloc o) w2)) :
    w2.cell? ⟨GB, c, none⟩ = some v ∧ w2.frozen? ⟨GB, c, none⟩ = false ∧ B ≠ GB ∧ (v.ownBlock = some B ∨ w.heap.size ≤ B) ∧ (∀ j, w2.cell? ⟨GB, j, none⟩ = w.cell? ⟨GB, j, none⟩) ∧ Kept (fun b => v.ownBlock = some b) w w2 := by
  have hlt : GB < w.heap.size := block_lt_of_cell hc
  have hsz : (w.alloc o).heap.size = w.heap.size + 1 := by simp
  have hk0 := Kept.alloc (fun _ => False) w o
  have hk : Kept (fun b => v.ownBlock = some b) w w2 := by
    rcases hcase with ⟨rfl, h⟩ | ⟨_, h⟩
    · exact (hk0.mono (fun _ x => x.elim)).then h (fun k _ e => by subst e; rfl)
    · exact (hk0.mono (fun _ x => x.elim)).then h (fun _ _ x => x.elim)
  have hblk := hk.block GB hlt (fun e => hne e)
  refine ⟨(cell_of_block hblk c).trans hc, (frozen_of_block hblk c).trans hf, ?_, ?_, fun j => cell_of_block hblk j, hk⟩
  · rcases hcase with ⟨rfl, _⟩ | ⟨h, _⟩
    · intro e; subst e; exact hne rfl
    · omega
  · rcases hcase with ⟨rfl, _⟩ | ⟨h, _⟩
    · exact .inl rfl
    · exact .inr (by omega)

set_option maxRecDepth 100000 in
set_option maxHeartbeats 1000000 in
theorem add32 (GB : Nat) (v : Value) (n : Nat) (xs : List Value) (la : Option Addr) (ln lc : Nat) (w : World) (hn : n < 300) (hc : w.cell? ⟨GB, 1, none⟩ = some v) (hf : w.frozen? ⟨GB, 1, none⟩ = false)
    (hown : w.ownsRow 0 24 1 v n xs) (hne : v.ownBlock ≠ some GB) :
    Calls Tryd.prog 32 #[.pointer (some ⟨GB, 0, none⟩), .slice la ln lc] w fun e w' => e = .returned (.tuple #[]) ∧ ∃ B cap, Row w' 24 B (n + 1) cap (xs ++ [.slice la ln lc]) ∧ w'.cell? ⟨GB, 1, none⟩ = some (.slice (some ⟨B, 0, none⟩) (n + 1) cap) ∧
      w'.frozen? ⟨GB, 1, none⟩ = false ∧ B ≠ GB ∧ (v.ownBlock = some B ∨ w.heap.size ≤ B) ∧ (∀ j, j ≠ 1 → w'.cell? ⟨GB, j, none⟩ = w.cell? ⟨GB, j, none⟩) ∧ Kept (fun b => b = GB ∨ v.ownBlock = some b) w w' ∧ (∀ j, w'.frozen? ⟨GB, j, none⟩ = w.frozen? ⟨GB, j, none⟩) := by
  obtain ⟨i24, p0, p1, p2, p3⟩ := info_parts Tryd.inlInts
  obtain ⟨va, vc, rfl, _⟩ := own_sliceM hown
  have hb3 : n + 1 ≤ maxLen := by unfold maxLen; omega
  have hb4 : (n + 1) * 24 ≤ 140737488355328 := by omega
  have HO := hid hown
  have HNE := hid hne
  have HC := hid hc
  have HF := hid hf
  have hk0 := Kept.alloc (fun _ => False) w (.cells #[.slice la ln lc] 24)
  have HK0 := hid hk0
  clear hown hne hk0
  go_enter Tryd.func32, Tryd.ntmps32
  go_wp2_with (first
    | (at_builtin; refine app_cell _ rfl (.tmp 14) (.tmp 16) 39 rfl 24 i24 (.slice none 0 0) 24 Tryd.underlying39 p0 p1 p2 p3 rfl _ n _ rfl (own_keep HO.out fun B hB => HK0.out.block B (own_lt HO.out hB).1 (fun x => x)) ⟨w.heap.size, 0, none⟩ (.slice la ln lc) rfl (by simp [Addr.add]) rfl hb3 hb4 ?_; intro B cap w2 hrow hcase; obtain ⟨d1, d2, d3, d4, d5, d6⟩ := add_step HO.out HNE.out HC.out HF.out _ hrow hcase; have R1 := hid hrow; have D3 := hid d3; have D4 := hid d4; have D5 := hid d5; have D6 := hid d6; clear hrow hcase d3 d4 d5 d6))
  go_end0
  refine ⟨rfl, B, cap, R1.out.keep (heap_setCell_other _ _ _ _ D3.out), World.cell?_setCell_same _ _ _ d1, (World.frozen?_setCell _ _ _ _).trans d2, D3.out, D4.out, fun j hj => ?_, ?_, fun j => ?_⟩
  · rw [World.cell?_setCell_other _ _ _ _ (fun h => hj (congrArg Addr.off h).symm)]
    exact D5.out j
  · have hk := D6.out
    exact ⟨hk.os, hk.tape, hk.output, by rw [World.size_setCell]; exact hk.size, fun k h1 h2 => (heap_setCell_other _ _ _ _ (fun e => h2 (.inl e))).trans (hk.block k h1 (fun e => h2 (.inr e)))⟩
  · rw [World.frozen?_setCell]
    exact frozen_of_block (D6.out.block GB (block_lt_of_cell HC.out) (fun e => HNE.out e)) j

set_option maxRecDepth 100000 in
set_option maxHeartbeats 1000000 in
theorem add12 (GB : Nat) (v : Value) (n : Nat) (xs : List Value) (la : Option Addr) (ln lc : Nat) (w : World) (hn : n < 300) (hc : w.cell? ⟨GB, 4, none⟩ = some v) (hf : w.frozen? ⟨GB, 4, none⟩ = false)
    (hown : w.ownsRow 0 35 1 v n xs) (hne : v.ownBlock ≠ some GB) :
    Calls Tryd.prog 12 #[.pointer (some ⟨GB, 0, none⟩), .slice la ln lc] w fun e w' => e = .returned (.tuple #[]) ∧ ∃ B cap, Row w' 35 B (n + 1) cap (xs ++ [.slice la ln lc]) ∧ w'.cell? ⟨GB, 4, none⟩ = some (.slice (some ⟨B, 0, none⟩) (n + 1) cap) ∧
      w'.frozen? ⟨GB, 4, none⟩ = false ∧ B ≠ GB ∧ (v.ownBlock = some B ∨ w.heap.size ≤ B) ∧ (∀ j, j ≠ 4 → w'.cell? ⟨GB, j, none⟩ = w.cell? ⟨GB, j, none⟩) ∧ Kept (fun b => b = GB ∨ v.ownBlock = some b) w w' ∧ (∀ j, w'.frozen? ⟨GB, j, none⟩ = w.frozen? ⟨GB, j, none⟩) := by
  obtain ⟨i24, p0, p1, p2, p3⟩ := info_parts Tryd.inlBools
  obtain ⟨va, vc, rfl, _⟩ := own_sliceM hown
  have hb3 : n + 1 ≤ maxLen := by unfold maxLen; omega
  have hb4 : (n + 1) * 24 ≤ 140737488355328 := by omega
  have HO := hid hown
  have HNE := hid hne
  have HC := hid hc
  have HF := hid hf
  have hk0 := Kept.alloc (fun _ => False) w (.cells #[.slice la ln lc] 35)
  have HK0 := hid hk0
  clear hown hne hk0
  go_enter Tryd.func12, Tryd.ntmps12
  go_wp2_with (first
    | (at_builtin; refine app_cell _ rfl (.tmp 14) (.tmp 16) 42 rfl 35 i24 (.slice none 0 0) 24 Tryd.underlying42 p0 p1 p2 p3 rfl _ n _ rfl (own_keep HO.out fun B hB => HK0.out.block B (own_lt HO.out hB).1 (fun x => x)) ⟨w.heap.size, 0, none⟩ (.slice la ln lc) rfl (by simp [Addr.add]) rfl hb3 hb4 ?_; intro B cap w2 hrow hcase; obtain ⟨d1, d2, d3, d4, d5, d6⟩ := add_step HO.out HNE.out HC.out HF.out _ hrow hcase; have R1 := hid hrow; have D3 := hid d3; have D4 := hid d4; have D5 := hid d5; have D6 := hid d6; clear hrow hcase d3 d4 d5 d6))
  go_end0
  refine ⟨rfl, B, cap, R1.out.keep (heap_setCell_other _ _ _ _ D3.out), World.cell?_setCell_same _ _ _ d1, (World.frozen?_setCell _ _ _ _).trans d2, D3.out, D4.out, fun j hj => ?_, ?_, fun j => ?_⟩
  · rw [World.cell?_setCell_other _ _ _ _ (fun h => hj (congrArg Addr.off h).symm)]
    exact D5.out j
  · have hk := D6.out
    exact ⟨hk.os, hk.tape, hk.output, by rw [World.size_setCell]; exact hk.size, fun k h1 h2 => (heap_setCell_other _ _ _ _ (fun e => h2 (.inl e))).trans (hk.block k h1 (fun e => h2 (.inr e)))⟩
  · rw [World.frozen?_setCell]
    exact frozen_of_block (D6.out.block GB (block_lt_of_cell HC.out) (fun e => HNE.out e)) j

set_option maxRecDepth 100000 in
set_option maxHeartbeats 400000 in
theorem empty35 (GB : Nat) (w : World) (hc : w.cell? ⟨GB, 0, none⟩ = some (.slice none 0 0)) :
    Calls Tryd.prog 35 #[.pointer (some ⟨GB, 0, none⟩)] w fun e w' => e = .returned (.bool true) ∧ w' = w := by
  go_enter Tryd.func35, Tryd.ntmps35
  go_wp2
  refine wp_loop_rounds 1 ?_
  rw [rounds_succ]
  go_wp2
  refine wp_loop_rounds 1 ?_
  rw [rounds_succ]
  go_wp2
  refine wp_loop_rounds 1 ?_
  rw [rounds_succ]
  go_wp2
  go_ret
  exact ⟨rfl, rfl⟩

set_option maxRecDepth 100000 in
set_option maxHeartbeats 400000 in
theorem empty37 (GB : Nat) (w : World) (hc : w.cell? ⟨GB, 2, none⟩ = some (.slice none 0 0)) :
    Calls Tryd.prog 37 #[.pointer (some ⟨GB, 0, none⟩)] w fun e w' => e = .returned (.bool true) ∧ w' = w := by
  go_enter Tryd.func37, Tryd.ntmps37
  go_wp2
  refine wp_loop_rounds 1 ?_
  rw [rounds_succ]
  go_wp2
  refine wp_loop_rounds 1 ?_
  rw [rounds_succ]
  go_wp2
  refine wp_loop_rounds 1 ?_
  rw [rounds_succ]
  go_wp2
  go_ret
  exact ⟨rfl, rfl⟩

set_option maxRecDepth 100000 in
set_option maxHeartbeats 400000 in
theorem empty38 (GB : Nat) (w : World) (hc : w.cell? ⟨GB, 3, none⟩ = some (.slice none 0 0)) :
    Calls Tryd.prog 38 #[.pointer (some ⟨GB, 0, none⟩)] w fun e w' => e = .returned (.bool true) ∧ w' = w := by
  go_enter Tryd.func38, Tryd.ntmps38
  go_wp2
  refine wp_loop_rounds 1 ?_
  rw [rounds_succ]
  go_wp2
  refine wp_loop_rounds 1 ?_
  rw [rounds_succ]
  go_wp2
  refine wp_loop_rounds 1 ?_
  rw [rounds_succ]
  go_wp2
  go_ret
  exact ⟨rfl, rfl⟩

set_option maxRecDepth 100000 in
set_option maxHeartbeats 400000 in
theorem empty40 (GB : Nat) (w : World) (hc : w.cell? ⟨GB, 5, none⟩ = some (.slice none 0 0)) :
    Calls Tryd.prog 40 #[.pointer (some ⟨GB, 0, none⟩)] w fun e w' => e = .returned (.bool true) ∧ w' = w := by
  go_enter Tryd.func40, Tryd.ntmps40
  go_wp2
  refine wp_loop_rounds 1 ?_
  rw [rounds_succ]
  go_wp2
  refine wp_loop_rounds 1 ?_
  rw [rounds_succ]
  go_wp2
  refine wp_loop_rounds 1 ?_
  rw [rounds_succ]
  go_wp2
  go_ret
  exact ⟨rfl, rfl⟩

set_option maxRecDepth 100000 in
set_option maxHeartbeats 400000 in
theorem empty41 (GB : Nat) (w : World) (hc : w.cell? ⟨GB, 6, none⟩ = some (.slice none 0 0)) :
    Calls Tryd.prog 41 #[.pointer (some ⟨GB, 0, none⟩)] w fun e w' => e = .returned (.bool true) ∧ w' = w := by
  go_enter Tryd.func41, Tryd.ntmps41
  go_wp2
  refine wp_loop_rounds 1 ?_
  rw [rounds_succ]
  go_wp2
  refine wp_loop_rounds 1 ?_
  rw [rounds_succ]
  go_wp2
  refine wp_loop_rounds 1 ?_
  rw [rounds_succ]
  go_wp2
  go_ret
  exact ⟨rfl, rfl⟩

set_option maxRecDepth 100000 in
set_option maxHeartbeats 400000 in
theorem empty42 (GB : Nat) (w : World) (hc : w.cell? ⟨GB, 7, none⟩ = some (.slice none 0 0)) :
    Calls Tryd.prog 42 #[.pointer (some ⟨GB, 0, none⟩)] w fun e w' => e = .returned (.bool true) ∧ w' = w := by
  go_enter Tryd.func42, Tryd.ntmps42
  go_wp2
  refine wp_loop_rounds 1 ?_
  rw [rounds_succ]
  go_wp2
  refine wp_loop_rounds 1 ?_
  rw [rounds_succ]
  go_wp2
  refine wp_loop_rounds 1 ?_
  rw [rounds_succ]
  go_wp2
  go_ret
  exact ⟨rfl, rfl⟩

set_option maxRecDepth 100000 in
set_option maxHeartbeats 400000 in
theorem empty43 (GB : Nat) (w : World) (hc : w.cell? ⟨GB, 8, none⟩ = some (.slice none 0 0)) :
    Calls Tryd.prog 43 #[.pointer (some ⟨GB, 0, none⟩)] w fun e w' => e = .returned (.bool true) ∧ w' = w := by
  go_enter Tryd.func43, Tryd.ntmps43
  go_wp2
  refine wp_loop_rounds 1 ?_
  rw [rounds_succ]
  go_wp2
  refine wp_loop_rounds 1 ?_
  rw [rounds_succ]
  go_wp2
  refine wp_loop_rounds 1 ?_
  rw [rounds_succ]
  go_wp2
  go_ret
  exact ⟨rfl, rfl⟩

set_option maxRecDepth 100000 in
set_option maxHeartbeats 400000 in
theorem empty44 (GB : Nat) (w : World) (hc : w.cell? ⟨GB, 9, none⟩ = some (.slice none 0 0)) :
    Calls Tryd.prog 44 #[.pointer (some ⟨GB, 0, none⟩)] w fun e w' => e = .returned (.bool true) ∧ w' = w := by
  go_enter Tryd.func44, Tryd.ntmps44
  go_wp2
  refine wp_loop_rounds 1 ?_
  rw [rounds_succ]
  go_wp2
  refine wp_loop_rounds 1 ?_
  rw [rounds_succ]
  go_wp2
  refine wp_loop_rounds 1 ?_
  rw [rounds_succ]
  go_wp2
  go_ret
  exact ⟨rfl, rfl⟩

set_option maxRecDepth 100000 in
set_option maxHeartbeats 400000 in
theorem empty45 (GB : Nat) (w : World) (hc : w.cell? ⟨GB, 10, none⟩ = some (.slice none 0 0)) :
    Calls Tryd.prog 45 #[.pointer (some ⟨GB, 0, none⟩)] w fun e w' => e = .returned (.bool true) ∧ w' = w := by
  go_enter Tryd.func45, Tryd.ntmps45
  go_wp2
  refine wp_loop_rounds 1 ?_
  rw [rounds_succ]
  go_wp2
  refine wp_loop_rounds 1 ?_
  rw [rounds_succ]
  go_wp2
  refine wp_loop_rounds 1 ?_
  rw [rounds_succ]
  go_wp2
  go_ret
  exact ⟨rfl, rfl⟩

set_option maxRecDepth 100000 in
set_option maxHeartbeats 400000 in
theorem empty46 (GB : Nat) (w : World) (hc : w.cell? ⟨GB, 11, none⟩ = some (.slice none 0 0)) :
    Calls Tryd.prog 46 #[.pointer (some ⟨GB, 0, none⟩)] w fun e w' => e = .returned (.bool true) ∧ w' = w := by
  go_enter Tryd.func46, Tryd.ntmps46
  go_wp2
  refine wp_loop_rounds 1 ?_
  rw [rounds_succ]
  go_wp2
  refine wp_loop_rounds 1 ?_
  rw [rounds_succ]
  go_wp2
  refine wp_loop_rounds 1 ?_
  rw [rounds_succ]
  go_wp2
  go_ret
  exact ⟨rfl, rfl⟩

set_option maxRecDepth 100000 in
set_option maxHeartbeats 400000 in
theorem empty47 (GB : Nat) (w : World) (hc : w.cell? ⟨GB, 12, none⟩ = some (.slice none 0 0)) :
    Calls Tryd.prog 47 #[.pointer (some ⟨GB, 0, none⟩)] w fun e w' => e = .returned (.bool true) ∧ w' = w := by
  go_enter Tryd.func47, Tryd.ntmps47
  go_wp2
  refine wp_loop_rounds 1 ?_
  rw [rounds_succ]
  go_wp2
  refine wp_loop_rounds 1 ?_
  rw [rounds_succ]
  go_wp2
  refine wp_loop_rounds 1 ?_
  rw [rounds_succ]
  go_wp2
  go_ret
  exact ⟨rfl, rfl⟩

set_option maxRecDepth 100000 in
set_option maxHeartbeats 400000 in
theorem empty48 (GB : Nat) (w : World) (hc : w.cell? ⟨GB, 13, none⟩ = some (.slice none 0 0)) :
    Calls Tryd.prog 48 #[.pointer (some ⟨GB, 0, none⟩)] w fun e w' => e = .returned (.bool true) ∧ w' = w := by
  go_enter Tryd.func48, Tryd.ntmps48
  go_wp2
  refine wp_loop_rounds 1 ?_
  rw [rounds_succ]
  go_wp2
  refine wp_loop_rounds 1 ?_
  rw [rounds_succ]
  go_wp2
  refine wp_loop_rounds 1 ?_
  rw [rounds_succ]
  go_wp2
  go_ret
  exact ⟨rfl, rfl⟩

set_option maxRecDepth 100000 in
set_option maxHeartbeats 400000 in
theorem empty49 (GB : Nat) (w : World) (hc : w.cell? ⟨GB, 14, none⟩ = some (.slice none 0 0)) :
    Calls Tryd.prog 49 #[.pointer (some ⟨GB, 0, none⟩)] w fun e w' => e = .returned (.bool true) ∧ w' = w := by
  go_enter Tryd.func49, Tryd.ntmps49
  go_wp2
  refine wp_loop_rounds 1 ?_
  rw [rounds_succ]
  go_wp2
  refine wp_loop_rounds 1 ?_
  rw [rounds_succ]
  go_wp2
  refine wp_loop_rounds 1 ?_
  rw [rounds_succ]
  go_wp2
  go_ret
  exact ⟨rfl, rfl⟩

set_option maxRecDepth 100000 in
set_option maxHeartbeats 400000 in
theorem empty50 (GB : Nat) (w : World) (hc : w.cell? ⟨GB, 15, none⟩ = some (.slice none 0 0)) :
    Calls Tryd.prog 50 #[.pointer (some ⟨GB, 0, none⟩)] w fun e w' => e = .returned (.bool true) ∧ w' = w := by
  go_enter Tryd.func50, Tryd.ntmps50
  go_wp2
  refine wp_loop_rounds 1 ?_
  rw [rounds_succ]
  go_wp2
  refine wp_loop_rounds 1 ?_
  rw [rounds_succ]
  go_wp2
  refine wp_loop_rounds 1 ?_
  rw [rounds_succ]
  go_wp2
  go_ret
  exact ⟨rfl, rfl⟩

set_option maxRecDepth 100000 in
set_option maxHeartbeats 400000 in
theorem empty51 (GB : Nat) (w : World) (hc : w.cell? ⟨GB, 16, none⟩ = some (.slice none 0 0)) :
    Calls Tryd.prog 51 #[.pointer (some ⟨GB, 0, none⟩)] w fun e w' => e = .returned (.bool true) ∧ w' = w := by
  go_enter Tryd.func51, Tryd.ntmps51
  go_wp2
  refine wp_loop_rounds 1 ?_
  rw [rounds_succ]
  go_wp2
  refine wp_loop_rounds 1 ?_
  rw [rounds_succ]
  go_wp2
  refine wp_loop_rounds 1 ?_
  rw [rounds_succ]
  go_wp2
  go_ret
  exact ⟨rfl, rfl⟩

set_option maxRecDepth 100000 in
set_option maxHeartbeats 1000000 in
theorem apart17 (GB X m cx : Nat) (N : Nat → Prop) (A : Nat → Option Addr) (G L C : Nat → Nat) (X' m' cx' : Nat) (N' : Nat → Prop) (A' : Nat → Option Addr) (G' L' C' : Nat → Nat) (w : World) (hm : m ≤ 300) (hm' : m' ≤ 300)
    (hg : w.cell? ⟨GB, 1, none⟩ = some (.slice (some ⟨X, 0, none⟩) m cx)) (hg' : w.cell? ⟨GB, 4, none⟩ = some (.slice (some ⟨X', 0, none⟩) m' cx'))
    (hx : ∀ j, j < m → w.cell? ⟨X, j, none⟩ = some (.slice (A j) (L j) (C j))) (hx' : ∀ j, j < m' → w.cell? ⟨X', j, none⟩ = some (.slice (A' j) (L' j) (C' j)))
    (ho : ListsInts w m N A G L C) (ho' : ListsBools w m' N' A' G' L' C') (hL : ∀ j, j < m → L j ≤ 4194304) (hL' : ∀ j, j < m' → L' j ≤ 4194304)
    (hinj : ∀ a b, a < m → b < m → N a → N b → G a = G b → a = b) (hinj' : ∀ a b, a < m' → b < m' → N' a → N' b → G' a = G' b → a = b) (hGX : ∀ j, j < m → N j → ¬ GB = G j ∧ ¬ X = G j) (hGX' : ∀ j, j < m' → N' j → ¬ GB = G' j ∧ ¬ X' = G' j)
    (hX' : ¬ Own m N G X') (hG' : ∀ j, j < m' → N' j → ¬ Own m N G (G' j))
    (hfld : ∀ j, j ≤ 16 → j ≠ 1 → j ≠ 4 → w.cell? ⟨GB, j, none⟩ = some (.slice none 0 0)) :
    Calls Tryd.prog 17 #[.pointer (some ⟨GB, 0, none⟩)] w fun e w' => e = .returned (.bool true) ∧ Kept (fun b => Own m N G b ∨ Own m' N' G' b) w w' := by
  have HA := hid (apart36 GB X m cx N A G L C w hm hg hx ho hL hinj hGX)
  have nGB : ¬ Own m N G GB := fun ⟨j, hj, hn, e⟩ => (hGX j hj hn).1 e
  have HA' := hid (show ∀ w1, Kept (Own m N G) w w1 → Calls Tryd.prog 39 #[.pointer (some ⟨GB, 0, none⟩)] w1 fun e w' => e = .returned (.bool true) ∧ Kept (Own m' N' G') w1 w' from fun w1 hk =>
    apart39 GB X' m' cx' N' A' G' L' C' w1 hm' (hk.cell hg' nGB) (fun j hj => hk.cell (hx' j hj) hX') (fun j hj => by
      rcases ho' j hj with ⟨h1, h2, xs, h3⟩ | h
      · exact .inl ⟨h1, h2, xs, h3.kept hk (hG' j hj h1)⟩
      · exact .inr h) hL' hinj' hGX')
  have HF := hid hfld
  have NGB := hid nGB
  have NGB' := hid (show ¬ Own m' N' G' GB from fun ⟨j, hj, hn, e⟩ => (hGX' j hj hn).1 e)
  clear hg hx ho hL hinj hGX hfld hg' hx' ho' hL' hinj' hGX' nGB hX' hG'
  go_enter Tryd.func17, Tryd.ntmps17
  go_wp2_with fail
  refine (empty35 _ _ (HF.out 0 (by decide) (by decide) (by decide))).mono ?_
  rintro e w1 ⟨rfl, hw⟩
  rw [hw]
  clear hw w1
  go_wp2_with fail
  refine HA.out.mono ?_
  rintro e wi ⟨rfl, hk⟩
  have FF := hid (fun j h1 h2 h3 => hk.cell (HF.out j h1 h2 h3) NGB.out)
  have HK := hid hk
  have HB1 := hid (HA'.out wi hk)
  clear hk HA HF NGB
  go_wp2_with fail
  refine (empty37 _ _ (FF.out 2 (by decide) (by decide) (by decide))).mono ?_
  rintro e w2 ⟨rfl, hw⟩
  rw [hw]
  clear hw w2
  go_wp2_with fail
  refine (empty38 _ _ (FF.out 3 (by decide) (by decide) (by decide))).mono ?_
  rintro e w3 ⟨rfl, hw⟩
  rw [hw]
  clear hw w3
  go_wp2_with fail
  refine HB1.out.mono ?_
  rintro e wj ⟨rfl, hk⟩
  have FG := hid (fun j h1 h2 h3 => hk.cell (FF.out j h1 h2 h3) NGB'.out)
  have HK2 := hid hk
  clear hk FF HB1 NGB'
  go_wp2_with fail
  refine (empty40 _ _ (FG.out 5 (by decide) (by decide) (by decide))).mono ?_
  rintro e w4 ⟨rfl, hw⟩
  rw [hw]
  clear hw w4
  go_wp2_with fail
  refine (empty41 _ _ (FG.out 6 (by decide) (by decide) (by decide))).mono ?_
  rintro e w5 ⟨rfl, hw⟩
  rw [hw]
  clear hw w5
  go_wp2_with fail
  refine (empty42 _ _ (FG.out 7 (by decide) (by decide) (by decide))).mono ?_
  rintro e w6 ⟨rfl, hw⟩
  rw [hw]
  clear hw w6
  go_wp2_with fail
  refine (empty43 _ _ (FG.out 8 (by decide) (by decide) (by decide))).mono ?_
  rintro e w7 ⟨rfl, hw⟩
  rw [hw]
  clear hw w7
  go_wp2_with fail
  refine (empty44 _ _ (FG.out 9 (by decide) (by decide) (by decide))).mono ?_
  rintro e w8 ⟨rfl, hw⟩
  rw [hw]
  clear hw w8
  go_wp2_with fail
  refine (empty45 _ _ (FG.out 10 (by decide) (by decide) (by decide))).mono ?_
  rintro e w9 ⟨rfl, hw⟩
  rw [hw]
  clear hw w9
  go_wp2_with fail
  refine (empty46 _ _ (FG.out 11 (by decide) (by decide) (by decide))).mono ?_
  rintro e w10 ⟨rfl, hw⟩
  rw [hw]
  clear hw w10
  go_wp2_with fail
  refine (empty47 _ _ (FG.out 12 (by decide) (by decide) (by decide))).mono ?_
  rintro e w11 ⟨rfl, hw⟩
  rw [hw]
  clear hw w11
  go_wp2_with fail
  refine (empty48 _ _ (FG.out 13 (by decide) (by decide) (by decide))).mono ?_
  rintro e w12 ⟨rfl, hw⟩
  rw [hw]
  clear hw w12
  go_wp2_with fail
  refine (empty49 _ _ (FG.out 14 (by decide) (by decide) (by decide))).mono ?_
  rintro e w13 ⟨rfl, hw⟩
  rw [hw]
  clear hw w13
  go_wp2_with fail
  refine (empty50 _ _ (FG.out 15 (by decide) (by decide) (by decide))).mono ?_
  rintro e w14 ⟨rfl, hw⟩
  rw [hw]
  clear hw w14
  go_wp2_with fail
  refine (empty51 _ _ (FG.out 16 (by decide) (by decide) (by decide))).mono ?_
  rintro e w15 ⟨rfl, hw⟩
  rw [hw]
  clear hw w15
  go_wp2
  go_ret
  exact ⟨rfl, (HK.out.mono (fun _ x => .inl x)).trans (HK2.out.mono (fun _ x => .inr x))⟩

/-- A list: nil, or a row in its own block. -/
structure Lt where
  b : Option Nat
  xs : List Value
  cap : Nat
def Lt.sl (p : Lt) : Value := match p.b with
  | none => .slice none 0 0
  | some B => .slice (some ⟨B, 0, none⟩) p.xs.length p.cap
def Lt.addr (p : Lt) : Option Addr := p.b.map fun B => ⟨B, 0, none⟩
def Lt.len (p : Lt) : Nat := if p.b = none then 0 else p.xs.length
def Lt.room (p : Lt) : Nat := if p.b = none then 0 else p.cap
theorem Lt.sl_eq (p : Lt) : p.sl = .slice p.addr p.len p.room := by
  unfold Lt.sl Lt.addr Lt.len Lt.room
  cases p.b <;> simp

/-- The bag and the lists of one kind (the field c, elements e, lists es) that it holds, or will hold. -/
structure Bg (e es : TypeId) (c d : Nat) (w0 wr : World) (GB : Nat) (v : Value) (rs : List Lt) (n : Nat) : Prop where
  below : Below w0.heap.size w0 wr
  gb : w0.heap.size ≤ GB
  cell : wr.cell? ⟨GB, c, none⟩ = some v
  free : wr.frozen? ⟨GB, c, none⟩ = false
  flds : ∀ j, j ≤ 16 → j ≠ c → j ≠ d → wr.cell? ⟨GB, j, none⟩ = some (.slice none 0 0)
  own : wr.ownsRow 0 es 1 v n ((rs.take n).map Lt.sl)
  other : v.ownBlock ≠ some GB
  new : ∀ B, v.ownBlock = some B → w0.heap.size ≤ B
  rows : ∀ p ∈ rs, ∀ B, p.b = some B → Row wr e B p.xs.length p.cap p.xs ∧ B ≠ GB ∧ w0.heap.size ≤ B
  inj : ∀ i j (hi : i < rs.length) (hj : j < rs.length) B, (rs[i]).b = some B → (rs[j]).b = some B → i = j

theorem Row.below {w w' : World} {e : TypeId} {B b n cap : Nat} {xs : List Value} (h : Row w e b n cap xs) (hb : Below B w w') (hB : w.heap.size ≤ B) : Row w' e b n cap xs :=
  Row.keep h (hb.block b (Nat.lt_of_lt_of_le (Row.lt h) hB))

theorem Bg.later {e es : TypeId} {c d : Nat} {w0 wr w' : World} {GB : Nat} {v : Value} {rs : List Lt} {n : Nat} (h : Bg e es c d w0 wr GB v rs n) (hb : Below wr.heap.size wr w') : Bg e es c d w0 w' GB v rs n := by
  have hlt : GB < wr.heap.size := block_lt_of_cell h.cell
  have hblk := hb.block GB hlt
  refine ⟨h.below.trans (hb.mono h.below.size), h.gb, (cell_of_block hblk c).trans h.cell, (frozen_of_block hblk c).trans h.free, fun j h1 h2 h3 => (cell_of_block hblk j).trans (h.flds j h1 h2 h3),
    own_keep h.own fun B hB => hb.block B (own_lt h.own hB).1, h.other, h.new, fun p hp B hB => ⟨((h.rows p hp B hB).1).below hb (Nat.le_refl _), (h.rows p hp B hB).2⟩, h.inj⟩

/-- A list is put into the bag. -/
theorem Bg.add {e es : TypeId} {c d : Nat} {w0 wr w' : World} {GB : Nat} {v : Value} {rs : List Lt} {n B cap : Nat} (hes : es ≠ e) (h : Bg e es c d w0 wr GB v rs n) (hn : n < rs.length) (hr : Row w' es B (n + 1) cap ((rs.take n).map Lt.sl ++ [rs[n].sl])) (hc : w'.cell? ⟨GB, c, none⟩ = some (.slice (some ⟨B, 0, none⟩) (n + 1) cap))
    (hf : w'.frozen? ⟨GB, c, none⟩ = false) (hB : B ≠ GB) (hn' : v.ownBlock = some B ∨ wr.heap.size ≤ B) (ho : ∀ j, j ≠ c → w'.cell? ⟨GB, j, none⟩ = wr.cell? ⟨GB, j, none⟩) (hk : Kept (fun b => b = GB ∨ v.ownBlock = some b) wr w') :
    Bg e es c d w0 w' GB (.slice (some ⟨B, 0, none⟩) (n + 1) cap) rs (n + 1) := by
  have hs := h.below.size
  refine ⟨?_, h.gb, hc, hf, fun j h1 h2 h3 => (ho j h2).trans (h.flds j h1 h2 h3), ?_, ?_, ?_, fun p hp b hb => ⟨?_, (h.rows p hp b hb).2⟩, h.inj⟩
  · have h1 := (Kept.of_below h.below).then hk (fun k hk' hh => by
      rcases hh with rfl | hh
      · exact h.gb
      · exact h.new k hh)
    exact h1.to_below (Nat.le_refl _) (fun k hk' hh => by have : w0.heap.size ≤ k := hh; omega)
  · have e : (rs.take (n + 1)).map Lt.sl = (rs.take n).map Lt.sl ++ [rs[n].sl] := by rw [List.take_succ_eq_append_getElem hn, List.map_append]; rfl
    rw [e]; exact hr
  · simp [Value.ownBlock]; exact hB
  · intro b hb
    obtain rfl : B = b := by simpa [Value.ownBlock] using hb
    rcases hn' with h1 | h1
    · exact h.new B h1
    · omega
  · refine Row.kept (h.rows p hp b hb).1 hk (fun e' => ?_)
    rcases e' with e' | e'
    · exact (h.rows p hp b hb).2.1 e'
    · exact own_ne h.own e' (h.rows p hp b hb).1 hes rfl


/-- The bag: four lists of numbers, two of truths. -/
structure BB (w0 wr : World) (GB : Nat) (v1 : Value) (r1 : List Lt) (n1 : Nat) (v2 : Value) (r2 : List Lt) (n2 : Nat) : Prop where
  i : Bg 3 24 1 4 w0 wr GB v1 r1 n1
  b : Bg 4 35 4 1 w0 wr GB v2 r2 n2
theorem BB.later {w0 wr w' : World} {GB : Nat} {v1 : Value} {r1 : List Lt} {n1 : Nat} {v2 : Value} {r2 : List Lt} {n2 : Nat} (h : BB w0 wr GB v1 r1 n1 v2 r2 n2) (hb : Below wr.heap.size wr w') : BB w0 w' GB v1 r1 n1 v2 r2 n2 := ⟨h.i.later hb, h.b.later hb⟩

/-- What is done to the one kind leaves the other. -/
theorem Bg.other_kind {e es es' : TypeId} {c d : Nat} {w0 wr w' : World} {GB : Nat} {v u : Value} {rs : List Lt} {n m : Nat} {us : List Value} (h : Bg e es c d w0 wr GB v rs n) (hu : wr.ownsRow 0 es' 1 u m us) (h1 : es ≠ es') (h2 : es' ≠ e) (hcd : c ≠ d)
    (hk : Kept (fun b => b = GB ∨ u.ownBlock = some b) wr w') (hn : ∀ B, u.ownBlock = some B → w0.heap.size ≤ B) (ho : ∀ j, j ≠ d → w'.cell? ⟨GB, j, none⟩ = wr.cell? ⟨GB, j, none⟩) (hf : ∀ j, w'.frozen? ⟨GB, j, none⟩ = wr.frozen? ⟨GB, j, none⟩) : Bg e es c d w0 w' GB v rs n := by
  have key : ∀ B, v.ownBlock = some B → w'.heap[B]? = wr.heap[B]? := fun B hB => by
    refine hk.block B (own_lt h.own hB).1 (fun e' => ?_)
    rcases e' with e' | e'
    · exact h.other (by rw [hB, e'])
    · rcases h.own.2 with ⟨rfl, _⟩ | ⟨g, cp, cur, rfl, _, g3, _⟩
      · simp [Value.ownBlock] at hB
      · have eg : g = B := by simpa [Value.ownBlock] using hB
        subst eg
        rcases hu.2 with ⟨rfl, _⟩ | ⟨g', cp', cur', rfl, _, g3', _⟩
        · simp [Value.ownBlock] at e'
        · have eg' : g' = g := by simpa [Value.ownBlock] using e'
          subst eg'
          rw [g3] at g3'
          simp at g3'
          exact h1 g3'.2
  refine ⟨?_, h.gb, (ho c hcd).trans h.cell, (hf c).trans h.free, fun j h1 h2 h3 => (ho j h3).trans (h.flds j h1 h2 h3), own_keep h.own key, h.other, h.new, fun p hp B hB => ⟨?_, (h.rows p hp B hB).2⟩, h.inj⟩
  · have h1 := (Kept.of_below h.below).then hk (fun k hk' hh => by
      rcases hh with rfl | hh
      · exact h.gb
      · exact hn k hh)
    exact h1.to_below (Nat.le_refl _) (fun k hk' hh => by have : w0.heap.size ≤ k := hh; omega)
  · refine Row.kept (h.rows p hp B hB).1 hk (fun e' => ?_)
    rcases e' with e' | e'
    · exact (h.rows p hp B hB).2.1 e'
    · exact own_ne hu e' (h.rows p hp B hB).1 h2 rfl

/-- What AddInts does. -/
theorem BB.addI {w0 wr : World} {GB : Nat} {v1 : Value} {r1 : List Lt} {n1 : Nat} {v2 : Value} {r2 : List Lt} {n2 : Nat} (h : BB w0 wr GB v1 r1 n1 v2 r2 n2) (hn : n1 < r1.length) (h300 : n1 < 300) (x : Value) (hx : x = r1[n1].sl) :
    Calls Tryd.prog 32 #[.pointer (some ⟨GB, 0, none⟩), x] wr fun e w' => e = .returned (.tuple #[]) ∧ ∃ v', BB w0 w' GB v' r1 (n1 + 1) v2 r2 n2 ∧ Kept (fun b => b = GB ∨ v1.ownBlock = some b) wr w' ∧ (v'.ownBlock = v1.ownBlock ∨ ∀ B, v'.ownBlock = some B → wr.heap.size ≤ B) := by
  subst hx
  rw [Lt.sl_eq]
  refine (add32 GB v1 n1 _ _ _ _ wr h300 h.i.cell h.i.free h.i.own h.i.other).mono fun e w' ⟨he, B, cap, hr, hc, hf, hB, hnw, ho, hk, hfz⟩ => ⟨he, _, ⟨h.i.add (by decide) hn (by rw [← Lt.sl_eq] at hr; exact hr) hc hf hB hnw ho hk, h.b.other_kind h.i.own (by decide) (by decide) (by decide) hk h.i.new ho hfz⟩, hk, ?_⟩
  rcases hnw with h1 | h1
  · left; rw [h1]; rfl
  · right; intro b hb
    have e : B = b := by simpa [Value.ownBlock] using hb
    omega
/-- What AddBools does. -/
theorem BB.addB {w0 wr : World} {GB : Nat} {v1 : Value} {r1 : List Lt} {n1 : Nat} {v2 : Value} {r2 : List Lt} {n2 : Nat} (h : BB w0 wr GB v1 r1 n1 v2 r2 n2) (hn : n2 < r2.length) (h300 : n2 < 300) (x : Value) (hx : x = r2[n2].sl) :
    Calls Tryd.prog 12 #[.pointer (some ⟨GB, 0, none⟩), x] wr fun e w' => e = .returned (.tuple #[]) ∧ ∃ v', BB w0 w' GB v1 r1 n1 v' r2 (n2 + 1) ∧ Kept (fun b => b = GB ∨ v2.ownBlock = some b) wr w' ∧ (v'.ownBlock = v2.ownBlock ∨ ∀ B, v'.ownBlock = some B → wr.heap.size ≤ B) := by
  subst hx
  rw [Lt.sl_eq]
  refine (add12 GB v2 n2 _ _ _ _ wr h300 h.b.cell h.b.free h.b.own h.b.other).mono fun e w' ⟨he, B, cap, hr, hc, hf, hB, hnw, ho, hk, hfz⟩ => ⟨he, _, ⟨h.i.other_kind h.b.own (by decide) (by decide) (by decide) hk h.b.new ho hfz, h.b.add (by decide) hn (by rw [← Lt.sl_eq] at hr; exact hr) hc hf hB hnw ho hk⟩, hk, ?_⟩
  rcases hnw with h1 | h1
  · left; rw [h1]; rfl
  · right; intro b hb
    have e : B = b := by simpa [Value.ownBlock] using hb
    omega

/-- The lists as Apart asks for them. -/
theorem Bg.lists {e es : TypeId} {c d : Nat} {w0 wr : World} {GB : Nat} {v : Value} {rs : List Lt} (h : Bg e es c d w0 wr GB v rs rs.length) (h0 : 0 < rs.length) (hl : ∀ p ∈ rs, p.xs.length ≤ 4194304) (hes : es ≠ e) :
    ∃ (X cx : Nat) (N : Nat → Prop) (A : Nat → Option Addr) (G L C : Nat → Nat), v = .slice (some ⟨X, 0, none⟩) rs.length cx ∧ (∀ j, j < rs.length → wr.cell? ⟨X, j, none⟩ = some (.slice (A j) (L j) (C j))) ∧
      (∀ j, j < rs.length → (N j ∧ A j = some ⟨G j, 0, none⟩ ∧ ∃ xs, Row wr e (G j) (L j) (C j) xs) ∨ (¬ N j ∧ A j = none ∧ L j = 0 ∧ C j = 0)) ∧ (∀ j, j < rs.length → L j ≤ 4194304) ∧
      (∀ a b, a < rs.length → b < rs.length → N a → N b → G a = G b → a = b) ∧ (∀ j, j < rs.length → N j → ¬ GB = G j ∧ ¬ X = G j) ∧ (∀ b, Own rs.length N G b → w0.heap.size ≤ b) := by
  have hown := h.own
  rw [List.take_of_length_le (Nat.le_refl _)] at hown
  obtain ⟨X, cx, rfl⟩ : ∃ X cx, v = .slice (some ⟨X, 0, none⟩) rs.length cx := by
    rcases hown.2 with ⟨_, e⟩ | ⟨g, cap, cur, e, _⟩
    · omega
    · exact ⟨g, cap, e⟩
  let D : Lt := ⟨none, [], 0⟩
  have hget : ∀ j, j < rs.length → rs.getD j D ∈ rs := fun j hj => by
    rw [List.getD_eq_getElem?_getD, List.getElem?_eq_getElem hj]; exact List.getElem_mem hj
  have hge : ∀ j (hj : j < rs.length), rs.getD j D = rs[j] := fun j hj => by
    rw [List.getD_eq_getElem?_getD, List.getElem?_eq_getElem hj]; rfl
  refine ⟨X, cx, (fun j => (rs.getD j D).b ≠ none), (fun j => (rs.getD j D).addr), (fun j => (rs.getD j D).b.getD 0), (fun j => (rs.getD j D).len), (fun j => (rs.getD j D).room), rfl,
    (fun j hj => by
      (try dsimp only)
      rw [World.ownsRow.cellAt hown j (by omega), List.getElem?_map, List.getElem?_eq_getElem hj, hge j hj, Option.map_some, Lt.sl_eq]),
    (fun j hj => by
      have hm := hget j hj
      (try dsimp only)
      generalize rs.getD j D = p at hm
      cases hb : p.b with
      | none => exact .inr ⟨by simp, by simp [Lt.addr, hb], by simp [Lt.len, hb], by simp [Lt.room, hb]⟩
      | some B => exact .inl ⟨by simp, by simp [Lt.addr, hb], p.xs, by simpa [Lt.len, Lt.room, hb] using (h.rows p hm B hb).1⟩),
    (fun j hj => by
      have := hl _ (hget j hj)
      simp only [Lt.len]
      split <;> omega),
    (fun i j hi hj hNi hNj e => by
      (try dsimp only at hNi hNj e)
      rw [hge i hi] at hNi e
      rw [hge j hj] at hNj e
      obtain ⟨B, hB⟩ := Option.ne_none_iff_exists'.1 hNi
      obtain ⟨B', hB'⟩ := Option.ne_none_iff_exists'.1 hNj
      rw [hB, hB'] at e
      simp at e
      subst e
      exact h.inj i j hi hj B hB hB'),
    (fun j hj hN => by
      have hm := hget j hj
      obtain ⟨B, hB⟩ := Option.ne_none_iff_exists'.1 hN
      have hr := h.rows _ hm B hB
      (try dsimp only)
      rw [hB]
      exact ⟨fun e => hr.2.1 (by simpa using e.symm), fun e => own_ne hown rfl hr.1 hes (by simpa using e.symm)⟩),
    (fun b hb => by
      obtain ⟨j, hj, hN, rfl⟩ := hb
      obtain ⟨B, hB⟩ := Option.ne_none_iff_exists'.1 hN
      have := (h.rows _ (hget j hj) B hB).2.2
      (try dsimp only)
      rw [hB]
      exact this)⟩

/-- What Apart says of it. -/
theorem BB.apart {w0 wr : World} {GB : Nat} {v1 : Value} {r1 : List Lt} {v2 : Value} {r2 : List Lt} (h : BB w0 wr GB v1 r1 r1.length v2 r2 r2.length) (h0 : 0 < r1.length) (h0' : 0 < r2.length) (h3 : r1.length ≤ 300) (h3' : r2.length ≤ 300) (hl : ∀ p ∈ r1, p.xs.length ≤ 4194304) (hl' : ∀ p ∈ r2, p.xs.length ≤ 4194304) :
    Calls Tryd.prog 17 #[.pointer (some ⟨GB, 0, none⟩)] wr fun e w' => e = .returned (.bool true) ∧ Below w0.heap.size w0 w' := by
  obtain ⟨X, cx, N, A, G, L, C, rfl, a1, a2, a3, a4, a5, a6⟩ := h.i.lists h0 hl (by decide)
  obtain ⟨X', cx', N', A', G', L', C', rfl, b1, b2, b3, b4, b5, b6⟩ := h.b.lists h0' hl' (by decide)
  have hX' : ¬ Own r1.length N G X' := fun ⟨j, hj, hN, e⟩ => by
    rcases a2 j hj with ⟨_, _, xs, hr⟩ | hh
    · exact own_ne h.b.own rfl hr (by decide) e.symm
    · exact hh.1 hN
  have hG' : ∀ j, j < r2.length → N' j → ¬ Own r1.length N G (G' j) := fun j hj hN ⟨i, hi, hNi, e⟩ => by
    rcases b2 j hj with ⟨_, _, xs, hr⟩ | hh
    · rcases a2 i hi with ⟨_, _, ys, hr2⟩ | hh
      · exact hr.apart hr2 (by decide) e
      · exact hh.1 hNi
    · exact hh.1 hN
  refine (apart17 GB X r1.length cx N A G L C X' r2.length cx' N' A' G' L' C' wr h3 h3' h.i.cell h.b.cell a1 b1 a2 b2 a3 b3 a4 b4 a5 b5 hX' hG' (fun j h1 h2 h3 => h.i.flds j h1 h2 h3)).mono fun e w' ⟨he, hk⟩ => ⟨he, ?_⟩
  have h1 := (Kept.of_below h.i.below).then hk (fun k hk' hh => by
    rcases hh with hh | hh
    · exact a6 k hh
    · exact b6 k hh)
  exact h1.to_below (Nat.le_refl _) (fun k hk' hh => by have : w0.heap.size ≤ k := hh; omega)
end Go.Proofs.YtfcklkmfdjjfoaaDoor

/-
  The walks over AddInts, Apart and the kinds of which a bag holds nothing; the bag's state.
-/
import Derived.Test.YtkcidabokgadcaaDoorApartInts
namespace Go.Proofs.YtkcidabokgadcaaDoor
open Go.RowKit
set_option linter.unusedVariables false

theorem add_step {w w2 : World} {es : TypeId} {c GB n B cap : Nat} {v : Value} {xs ys : List Value} (hown : w.ownsRow 0 es 1 v n xs) (hne : v.ownBlock ≠ some GB) (hc : w.cell? ⟨GB, c, none⟩ = some v) (hf : w.frozen? ⟨GB, c, none⟩ = false) (o : Obj)
    (hrow : Row w2 es B (n + 1) cap ys) (hcase : (v = .slice (some ⟨B, 0, none⟩) n cap ∧ Kept (fun k => k = B) (w.alloc o) w2) ∨ ((w.alloc o).heap.size ≤ B ∧ Kept (fun _ => False) (w.alloc o) w2)) :
    w2.cell? ⟨GB, c, none⟩ = some v ∧ w2.frozen? ⟨GB, c, none⟩ = false ∧ B ≠ GB ∧ (v.ownBlock = some B ∨ w.heap.size ≤ B) ∧ (∀ j, w2.cell? ⟨GB, j, none⟩ = w.cell? ⟨GB, j, none⟩) ∧ Kept (fun b => v.ownBlock = some b) w w2 := by
  have hlt : GB < w.heap.size := block_lt_of_cell hc
  have hsz : (w.alloc o).heap.size = w.heap.size + 1 := by simp
  have hk0 := Kept.alloc (fun _ => False) w o
  have hk : Kept (fun b => v.ownBlock = some b) w w2 := by
    rcases hcase with ⟨rfl, h⟩ | ⟨_, h⟩
    · exact (hk0.mono (fun _ x => x.elim)).then h (fun k _ e => by subst e; rfl)
    · exact (hk0.mono (fun _ x => x.elim)).then h (fun _ _ x => x.elim)
  have hblk := hk.block GB hlt (fun e => hne e)
  refine ⟨(cell_of_block hblk c).trans hc, (frozen_of_block hblk c).trans hf, ?_, ?_, fun j => cell_of_block hblk j, hk⟩
  · rcases hcase with ⟨rfl, _⟩ | ⟨h, _⟩
    · intro e; subst e; exact hne rfl
    · omega
  · rcases hcase with ⟨rfl, _⟩ | ⟨h, _⟩
    · exact .inl rfl
    · exact .inr (by omega)

set_option maxRecDepth 100000 in
set_option maxHeartbeats 1000000 in
theorem add58 (GB : Nat) (v : Value) (n : Nat) (xs : List Value) (la : Option Addr) (ln lc : Nat) (w : World) (hn : n < 300) (hc : w.cell? ⟨GB, 1, none⟩ = some v) (hf : w.frozen? ⟨GB, 1, none⟩ = false)
    (hown : w.ownsRow 0 26 1 v n xs) (hne : v.ownBlock ≠ some GB) :
    Calls Tryd.prog 10 #[.pointer (some ⟨GB, 0, none⟩), .slice la ln lc] w fun e w' => e = .returned (.tuple #[]) ∧ ∃ B cap, Row w' 26 B (n + 1) cap (xs ++ [.slice la ln lc]) ∧ w'.cell? ⟨GB, 1, none⟩ = some (.slice (some ⟨B, 0, none⟩) (n + 1) cap) ∧
      w'.frozen? ⟨GB, 1, none⟩ = false ∧ B ≠ GB ∧ (v.ownBlock = some B ∨ w.heap.size ≤ B) ∧ (∀ j, j ≠ 1 → w'.cell? ⟨GB, j, none⟩ = w.cell? ⟨GB, j, none⟩) ∧ Kept (fun b => b = GB ∨ v.ownBlock = some b) w w' := by
  obtain ⟨i24, p0, p1, p2, p3⟩ := info_parts Tryd.inlInts
  obtain ⟨va, vc, rfl, _⟩ := own_sliceM hown
  have hb3 : n + 1 ≤ maxLen := by unfold maxLen; omega
  have hb4 : (n + 1) * 24 ≤ 140737488355328 := by omega
  have HO := hid hown
  have HNE := hid hne
  have HC := hid hc
  have HF := hid hf
  have hk0 := Kept.alloc (fun _ => False) w (.cells #[.slice la ln lc] 26)
  have HK0 := hid hk0
  clear hown hne hk0
  go_enter Tryd.func10, Tryd.ntmps10
  go_wp2_with (first
    | (at_builtin; refine app_cell _ rfl (.tmp 14) (.tmp 16) 32 rfl 26 i24 (.slice none 0 0) 24 Tryd.underlying32 p0 p1 p2 p3 rfl _ n _ rfl (own_keep HO.out fun B hB => HK0.out.block B (own_lt HO.out hB).1 (fun x => x)) ⟨w.heap.size, 0, none⟩ (.slice la ln lc) rfl (by simp [Addr.add]) rfl hb3 hb4 ?_; intro B cap w2 hrow hcase; obtain ⟨d1, d2, d3, d4, d5, d6⟩ := add_step HO.out HNE.out HC.out HF.out _ hrow hcase; have R1 := hid hrow; have D3 := hid d3; have D4 := hid d4; have D5 := hid d5; have D6 := hid d6; clear hrow hcase d3 d4 d5 d6))
  go_end0
  refine ⟨rfl, B, cap, R1.out.keep (heap_setCell_other _ _ _ _ D3.out), World.cell?_setCell_same _ _ _ d1, (World.frozen?_setCell _ _ _ _).trans d2, D3.out, D4.out, fun j hj => ?_, ?_⟩
  · rw [World.cell?_setCell_other _ _ _ _ (fun h => hj (congrArg Addr.off h).symm)]
    exact D5.out j
  · have hk := D6.out
    exact ⟨hk.os, hk.tape, hk.output, by rw [World.size_setCell]; exact hk.size, fun k h1 h2 => (heap_setCell_other _ _ _ _ (fun e => h2 (.inl e))).trans (hk.block k h1 (fun e => h2 (.inr e)))⟩

set_option maxRecDepth 100000 in
set_option maxHeartbeats 400000 in
theorem empty35 (GB : Nat) (w : World) (hc : w.cell? ⟨GB, 0, none⟩ = some (.slice none 0 0)) :
    Calls Tryd.prog 24 #[.pointer (some ⟨GB, 0, none⟩)] w fun e w' => e = .returned (.bool true) ∧ w' = w := by
  go_enter Tryd.func24, Tryd.ntmps24
  go_wp2
  refine wp_loop_rounds 1 ?_
  rw [rounds_succ]
  go_wp2
  refine wp_loop_rounds 1 ?_
  rw [rounds_succ]
  go_wp2
  refine wp_loop_rounds 1 ?_
  rw [rounds_succ]
  go_wp2
  go_ret
  exact ⟨rfl, rfl⟩

set_option maxRecDepth 100000 in
set_option maxHeartbeats 400000 in
theorem empty37 (GB : Nat) (w : World) (hc : w.cell? ⟨GB, 2, none⟩ = some (.slice none 0 0)) :
    Calls Tryd.prog 26 #[.pointer (some ⟨GB, 0, none⟩)] w fun e w' => e = .returned (.bool true) ∧ w' = w := by
  go_enter Tryd.func26, Tryd.ntmps26
  go_wp2
  refine wp_loop_rounds 1 ?_
  rw [rounds_succ]
  go_wp2
  refine wp_loop_rounds 1 ?_
  rw [rounds_succ]
  go_wp2
  refine wp_loop_rounds 1 ?_
  rw [rounds_succ]
  go_wp2
  go_ret
  exact ⟨rfl, rfl⟩

set_option maxRecDepth 100000 in
set_option maxHeartbeats 400000 in
theorem empty38 (GB : Nat) (w : World) (hc : w.cell? ⟨GB, 3, none⟩ = some (.slice none 0 0)) :
    Calls Tryd.prog 27 #[.pointer (some ⟨GB, 0, none⟩)] w fun e w' => e = .returned (.bool true) ∧ w' = w := by
  go_enter Tryd.func27, Tryd.ntmps27
  go_wp2
  refine wp_loop_rounds 1 ?_
  rw [rounds_succ]
  go_wp2
  refine wp_loop_rounds 1 ?_
  rw [rounds_succ]
  go_wp2
  refine wp_loop_rounds 1 ?_
  rw [rounds_succ]
  go_wp2
  go_ret
  exact ⟨rfl, rfl⟩

set_option maxRecDepth 100000 in
set_option maxHeartbeats 400000 in
theorem empty39 (GB : Nat) (w : World) (hc : w.cell? ⟨GB, 4, none⟩ = some (.slice none 0 0)) :
    Calls Tryd.prog 28 #[.pointer (some ⟨GB, 0, none⟩)] w fun e w' => e = .returned (.bool true) ∧ w' = w := by
  go_enter Tryd.func28, Tryd.ntmps28
  go_wp2
  refine wp_loop_rounds 1 ?_
  rw [rounds_succ]
  go_wp2
  refine wp_loop_rounds 1 ?_
  rw [rounds_succ]
  go_wp2
  refine wp_loop_rounds 1 ?_
  rw [rounds_succ]
  go_wp2
  go_ret
  exact ⟨rfl, rfl⟩

set_option maxRecDepth 100000 in
set_option maxHeartbeats 400000 in
theorem empty40 (GB : Nat) (w : World) (hc : w.cell? ⟨GB, 5, none⟩ = some (.slice none 0 0)) :
    Calls Tryd.prog 29 #[.pointer (some ⟨GB, 0, none⟩)] w fun e w' => e = .returned (.bool true) ∧ w' = w := by
  go_enter Tryd.func29, Tryd.ntmps29
  go_wp2
  refine wp_loop_rounds 1 ?_
  rw [rounds_succ]
  go_wp2
  refine wp_loop_rounds 1 ?_
  rw [rounds_succ]
  go_wp2
  refine wp_loop_rounds 1 ?_
  rw [rounds_succ]
  go_wp2
  go_ret
  exact ⟨rfl, rfl⟩

set_option maxRecDepth 100000 in
set_option maxHeartbeats 400000 in
theorem empty41 (GB : Nat) (w : World) (hc : w.cell? ⟨GB, 6, none⟩ = some (.slice none 0 0)) :
    Calls Tryd.prog 30 #[.pointer (some ⟨GB, 0, none⟩)] w fun e w' => e = .returned (.bool true) ∧ w' = w := by
  go_enter Tryd.func30, Tryd.ntmps30
  go_wp2
  refine wp_loop_rounds 1 ?_
  rw [rounds_succ]
  go_wp2
  refine wp_loop_rounds 1 ?_
  rw [rounds_succ]
  go_wp2
  refine wp_loop_rounds 1 ?_
  rw [rounds_succ]
  go_wp2
  go_ret
  exact ⟨rfl, rfl⟩

set_option maxRecDepth 100000 in
set_option maxHeartbeats 400000 in
theorem empty42 (GB : Nat) (w : World) (hc : w.cell? ⟨GB, 7, none⟩ = some (.slice none 0 0)) :
    Calls Tryd.prog 31 #[.pointer (some ⟨GB, 0, none⟩)] w fun e w' => e = .returned (.bool true) ∧ w' = w := by
  go_enter Tryd.func31, Tryd.ntmps31
  go_wp2
  refine wp_loop_rounds 1 ?_
  rw [rounds_succ]
  go_wp2
  refine wp_loop_rounds 1 ?_
  rw [rounds_succ]
  go_wp2
  refine wp_loop_rounds 1 ?_
  rw [rounds_succ]
  go_wp2
  go_ret
  exact ⟨rfl, rfl⟩

set_option maxRecDepth 100000 in
set_option maxHeartbeats 400000 in
theorem empty43 (GB : Nat) (w : World) (hc : w.cell? ⟨GB, 8, none⟩ = some (.slice none 0 0)) :
    Calls Tryd.prog 32 #[.pointer (some ⟨GB, 0, none⟩)] w fun e w' => e = .returned (.bool true) ∧ w' = w := by
  go_enter Tryd.func32, Tryd.ntmps32
  go_wp2
  refine wp_loop_rounds 1 ?_
  rw [rounds_succ]
  go_wp2
  refine wp_loop_rounds 1 ?_
  rw [rounds_succ]
  go_wp2
  refine wp_loop_rounds 1 ?_
  rw [rounds_succ]
  go_wp2
  go_ret
  exact ⟨rfl, rfl⟩

set_option maxRecDepth 100000 in
set_option maxHeartbeats 400000 in
theorem empty44 (GB : Nat) (w : World) (hc : w.cell? ⟨GB, 9, none⟩ = some (.slice none 0 0)) :
    Calls Tryd.prog 33 #[.pointer (some ⟨GB, 0, none⟩)] w fun e w' => e = .returned (.bool true) ∧ w' = w := by
  go_enter Tryd.func33, Tryd.ntmps33
  go_wp2
  refine wp_loop_rounds 1 ?_
  rw [rounds_succ]
  go_wp2
  refine wp_loop_rounds 1 ?_
  rw [rounds_succ]
  go_wp2
  refine wp_loop_rounds 1 ?_
  rw [rounds_succ]
  go_wp2
  go_ret
  exact ⟨rfl, rfl⟩

set_option maxRecDepth 100000 in
set_option maxHeartbeats 400000 in
theorem empty45 (GB : Nat) (w : World) (hc : w.cell? ⟨GB, 10, none⟩ = some (.slice none 0 0)) :
    Calls Tryd.prog 34 #[.pointer (some ⟨GB, 0, none⟩)] w fun e w' => e = .returned (.bool true) ∧ w' = w := by
  go_enter Tryd.func34, Tryd.ntmps34
  go_wp2
  refine wp_loop_rounds 1 ?_
  rw [rounds_succ]
  go_wp2
  refine wp_loop_rounds 1 ?_
  rw [rounds_succ]
  go_wp2
  refine wp_loop_rounds 1 ?_
  rw [rounds_succ]
  go_wp2
  go_ret
  exact ⟨rfl, rfl⟩

set_option maxRecDepth 100000 in
set_option maxHeartbeats 400000 in
theorem empty46 (GB : Nat) (w : World) (hc : w.cell? ⟨GB, 11, none⟩ = some (.slice none 0 0)) :
    Calls Tryd.prog 35 #[.pointer (some ⟨GB, 0, none⟩)] w fun e w' => e = .returned (.bool true) ∧ w' = w := by
  go_enter Tryd.func35, Tryd.ntmps35
  go_wp2
  refine wp_loop_rounds 1 ?_
  rw [rounds_succ]
  go_wp2
  refine wp_loop_rounds 1 ?_
  rw [rounds_succ]
  go_wp2
  refine wp_loop_rounds 1 ?_
  rw [rounds_succ]
  go_wp2
  go_ret
  exact ⟨rfl, rfl⟩

set_option maxRecDepth 100000 in
set_option maxHeartbeats 400000 in
theorem empty47 (GB : Nat) (w : World) (hc : w.cell? ⟨GB, 12, none⟩ = some (.slice none 0 0)) :
    Calls Tryd.prog 36 #[.pointer (some ⟨GB, 0, none⟩)] w fun e w' => e = .returned (.bool true) ∧ w' = w := by
  go_enter Tryd.func36, Tryd.ntmps36
  go_wp2
  refine wp_loop_rounds 1 ?_
  rw [rounds_succ]
  go_wp2
  refine wp_loop_rounds 1 ?_
  rw [rounds_succ]
  go_wp2
  refine wp_loop_rounds 1 ?_
  rw [rounds_succ]
  go_wp2
  go_ret
  exact ⟨rfl, rfl⟩

set_option maxRecDepth 100000 in
set_option maxHeartbeats 400000 in
theorem empty48 (GB : Nat) (w : World) (hc : w.cell? ⟨GB, 13, none⟩ = some (.slice none 0 0)) :
    Calls Tryd.prog 37 #[.pointer (some ⟨GB, 0, none⟩)] w fun e w' => e = .returned (.bool true) ∧ w' = w := by
  go_enter Tryd.func37, Tryd.ntmps37
  go_wp2
  refine wp_loop_rounds 1 ?_
  rw [rounds_succ]
  go_wp2
  refine wp_loop_rounds 1 ?_
  rw [rounds_succ]
  go_wp2
  refine wp_loop_rounds 1 ?_
  rw [rounds_succ]
  go_wp2
  go_ret
  exact ⟨rfl, rfl⟩

set_option maxRecDepth 100000 in
set_option maxHeartbeats 400000 in
theorem empty49 (GB : Nat) (w : World) (hc : w.cell? ⟨GB, 14, none⟩ = some (.slice none 0 0)) :
    Calls Tryd.prog 38 #[.pointer (some ⟨GB, 0, none⟩)] w fun e w' => e = .returned (.bool true) ∧ w' = w := by
  go_enter Tryd.func38, Tryd.ntmps38
  go_wp2
  refine wp_loop_rounds 1 ?_
  rw [rounds_succ]
  go_wp2
  refine wp_loop_rounds 1 ?_
  rw [rounds_succ]
  go_wp2
  refine wp_loop_rounds 1 ?_
  rw [rounds_succ]
  go_wp2
  go_ret
  exact ⟨rfl, rfl⟩

set_option maxRecDepth 100000 in
set_option maxHeartbeats 400000 in
theorem empty50 (GB : Nat) (w : World) (hc : w.cell? ⟨GB, 15, none⟩ = some (.slice none 0 0)) :
    Calls Tryd.prog 39 #[.pointer (some ⟨GB, 0, none⟩)] w fun e w' => e = .returned (.bool true) ∧ w' = w := by
  go_enter Tryd.func39, Tryd.ntmps39
  go_wp2
  refine wp_loop_rounds 1 ?_
  rw [rounds_succ]
  go_wp2
  refine wp_loop_rounds 1 ?_
  rw [rounds_succ]
  go_wp2
  refine wp_loop_rounds 1 ?_
  rw [rounds_succ]
  go_wp2
  go_ret
  exact ⟨rfl, rfl⟩

set_option maxRecDepth 100000 in
set_option maxHeartbeats 400000 in
theorem empty51 (GB : Nat) (w : World) (hc : w.cell? ⟨GB, 16, none⟩ = some (.slice none 0 0)) :
    Calls Tryd.prog 40 #[.pointer (some ⟨GB, 0, none⟩)] w fun e w' => e = .returned (.bool true) ∧ w' = w := by
  go_enter Tryd.func40, Tryd.ntmps40
  go_wp2
  refine wp_loop_rounds 1 ?_
  rw [rounds_succ]
  go_wp2
  refine wp_loop_rounds 1 ?_
  rw [rounds_succ]
  go_wp2
  refine wp_loop_rounds 1 ?_
  rw [rounds_succ]
  go_wp2
  go_ret
  exact ⟨rfl, rfl⟩

set_option maxRecDepth 100000 in
set_option maxHeartbeats 1000000 in
theorem apart15 (GB X m cx : Nat) (N : Nat → Prop) (A : Nat → Option Addr) (G L C : Nat → Nat) (w : World) (hm : m ≤ 300)
    (hg : w.cell? ⟨GB, 1, none⟩ = some (.slice (some ⟨X, 0, none⟩) m cx))
    (hx : ∀ j, j < m → w.cell? ⟨X, j, none⟩ = some (.slice (A j) (L j) (C j)))
    (ho : ListsInts w m N A G L C) (hL : ∀ j, j < m → L j ≤ 4194304)
    (hinj : ∀ a b, a < m → b < m → N a → N b → G a = G b → a = b) (hGX : ∀ j, j < m → N j → ¬ GB = G j ∧ ¬ X = G j)
    (hfld : ∀ j, j ≤ 16 → j ≠ 1 → w.cell? ⟨GB, j, none⟩ = some (.slice none 0 0)) :
    Calls Tryd.prog 12 #[.pointer (some ⟨GB, 0, none⟩)] w fun e w' => e = .returned (.bool true) ∧ Kept (Own m N G) w w' := by
  have HA := hid (apart36 GB X m cx N A G L C w hm hg hx ho hL hinj hGX)
  have HF := hid hfld
  have NGB := hid (show ¬ Own m N G GB from fun ⟨j, hj, hn, e⟩ => (hGX j hj hn).1 e)
  clear hg hx ho hL hinj hGX hfld
  go_enter Tryd.func12, Tryd.ntmps12
  go_wp2_with fail
  refine (empty35 _ _ (HF.out 0 (by decide) (by decide))).mono ?_
  rintro e w3 ⟨rfl, hw⟩
  rw [hw]
  clear hw w3
  go_wp2_with fail
  refine HA.out.mono ?_
  rintro e w1 ⟨rfl, hk⟩
  have F := hid (fun j h1 h2 => hk.cell (HF.out j h1 h2) NGB.out)
  have HK := hid hk
  clear hk HA HF NGB
  go_wp2_with fail
  refine (empty37 _ _ (F.out 2 (by decide) (by decide))).mono ?_
  rintro e w4 ⟨rfl, hw⟩
  rw [hw]
  clear hw w4
  go_wp2_with fail
  refine (empty38 _ _ (F.out 3 (by decide) (by decide))).mono ?_
  rintro e w5 ⟨rfl, hw⟩
  rw [hw]
  clear hw w5
  go_wp2_with fail
  refine (empty39 _ _ (F.out 4 (by decide) (by decide))).mono ?_
  rintro e w6 ⟨rfl, hw⟩
  rw [hw]
  clear hw w6
  go_wp2_with fail
  refine (empty40 _ _ (F.out 5 (by decide) (by decide))).mono ?_
  rintro e w7 ⟨rfl, hw⟩
  rw [hw]
  clear hw w7
  go_wp2_with fail
  refine (empty41 _ _ (F.out 6 (by decide) (by decide))).mono ?_
  rintro e w8 ⟨rfl, hw⟩
  rw [hw]
  clear hw w8
  go_wp2_with fail
  refine (empty42 _ _ (F.out 7 (by decide) (by decide))).mono ?_
  rintro e w9 ⟨rfl, hw⟩
  rw [hw]
  clear hw w9
  go_wp2_with fail
  refine (empty43 _ _ (F.out 8 (by decide) (by decide))).mono ?_
  rintro e w10 ⟨rfl, hw⟩
  rw [hw]
  clear hw w10
  go_wp2_with fail
  refine (empty44 _ _ (F.out 9 (by decide) (by decide))).mono ?_
  rintro e w11 ⟨rfl, hw⟩
  rw [hw]
  clear hw w11
  go_wp2_with fail
  refine (empty45 _ _ (F.out 10 (by decide) (by decide))).mono ?_
  rintro e w12 ⟨rfl, hw⟩
  rw [hw]
  clear hw w12
  go_wp2_with fail
  refine (empty46 _ _ (F.out 11 (by decide) (by decide))).mono ?_
  rintro e w13 ⟨rfl, hw⟩
  rw [hw]
  clear hw w13
  go_wp2_with fail
  refine (empty47 _ _ (F.out 12 (by decide) (by decide))).mono ?_
  rintro e w14 ⟨rfl, hw⟩
  rw [hw]
  clear hw w14
  go_wp2_with fail
  refine (empty48 _ _ (F.out 13 (by decide) (by decide))).mono ?_
  rintro e w15 ⟨rfl, hw⟩
  rw [hw]
  clear hw w15
  go_wp2_with fail
  refine (empty49 _ _ (F.out 14 (by decide) (by decide))).mono ?_
  rintro e w16 ⟨rfl, hw⟩
  rw [hw]
  clear hw w16
  go_wp2_with fail
  refine (empty50 _ _ (F.out 15 (by decide) (by decide))).mono ?_
  rintro e w17 ⟨rfl, hw⟩
  rw [hw]
  clear hw w17
  go_wp2_with fail
  refine (empty51 _ _ (F.out 16 (by decide) (by decide))).mono ?_
  rintro e w18 ⟨rfl, hw⟩
  rw [hw]
  clear hw w18
  go_wp2
  go_ret
  exact ⟨rfl, HK.out⟩

/-- A list: nil, or a row in its own block. -/
structure Lt where
  b : Option Nat
  xs : List Value
  cap : Nat
def Lt.sl (p : Lt) : Value := match p.b with
  | none => .slice none 0 0
  | some B => .slice (some ⟨B, 0, none⟩) p.xs.length p.cap
def Lt.addr (p : Lt) : Option Addr := p.b.map fun B => ⟨B, 0, none⟩
def Lt.len (p : Lt) : Nat := if p.b = none then 0 else p.xs.length
def Lt.room (p : Lt) : Nat := if p.b = none then 0 else p.cap
theorem Lt.sl_eq (p : Lt) : p.sl = .slice p.addr p.len p.room := by
  unfold Lt.sl Lt.addr Lt.len Lt.room
  cases p.b <;> simp

/-- The bag and the lists of one kind (the field c, elements e, lists es) that it holds, or will hold. -/
structure Bg (e es : TypeId) (c : Nat) (w0 wr : World) (GB : Nat) (v : Value) (rs : List Lt) (n : Nat) : Prop where
  below : Below w0.heap.size w0 wr
  gb : w0.heap.size ≤ GB
  cell : wr.cell? ⟨GB, c, none⟩ = some v
  free : wr.frozen? ⟨GB, c, none⟩ = false
  flds : ∀ j, j ≤ 16 → j ≠ c → wr.cell? ⟨GB, j, none⟩ = some (.slice none 0 0)
  own : wr.ownsRow 0 es 1 v n ((rs.take n).map Lt.sl)
  other : v.ownBlock ≠ some GB
  new : ∀ B, v.ownBlock = some B → w0.heap.size ≤ B
  rows : ∀ p ∈ rs, ∀ B, p.b = some B → Row wr e B p.xs.length p.cap p.xs ∧ B ≠ GB ∧ w0.heap.size ≤ B
  inj : ∀ i j (hi : i < rs.length) (hj : j < rs.length) B, (rs[i]).b = some B → (rs[j]).b = some B → i = j

theorem Row.below {w w' : World} {e : TypeId} {B b n cap : Nat} {xs : List Value} (h : Row w e b n cap xs) (hb : Below B w w') (hB : w.heap.size ≤ B) : Row w' e b n cap xs :=
  Row.keep h (hb.block b (Nat.lt_of_lt_of_le (Row.lt h) hB))

theorem Bg.later {e es : TypeId} {c : Nat} {w0 wr w' : World} {GB : Nat} {v : Value} {rs : List Lt} {n : Nat} (h : Bg e es c w0 wr GB v rs n) (hb : Below wr.heap.size wr w') : Bg e es c w0 w' GB v rs n := by
  have hlt : GB < wr.heap.size := block_lt_of_cell h.cell
  have hblk := hb.block GB hlt
  refine ⟨h.below.trans (hb.mono h.below.size), h.gb, (cell_of_block hblk c).trans h.cell, (frozen_of_block hblk c).trans h.free, fun j h1 h2 => (cell_of_block hblk j).trans (h.flds j h1 h2),
    own_keep h.own fun B hB => hb.block B (own_lt h.own hB).1, h.other, h.new, fun p hp B hB => ⟨((h.rows p hp B hB).1).below hb (Nat.le_refl _), (h.rows p hp B hB).2⟩, h.inj⟩

/-- A list is put into the bag. -/
theorem Bg.add {e es : TypeId} {c : Nat} {w0 wr w' : World} {GB : Nat} {v : Value} {rs : List Lt} {n B cap : Nat} (hes : es ≠ e) (h : Bg e es c w0 wr GB v rs n) (hn : n < rs.length) (hr : Row w' es B (n + 1) cap ((rs.take n).map Lt.sl ++ [rs[n].sl])) (hc : w'.cell? ⟨GB, c, none⟩ = some (.slice (some ⟨B, 0, none⟩) (n + 1) cap))
    (hf : w'.frozen? ⟨GB, c, none⟩ = false) (hB : B ≠ GB) (hn' : v.ownBlock = some B ∨ wr.heap.size ≤ B) (ho : ∀ j, j ≠ c → w'.cell? ⟨GB, j, none⟩ = wr.cell? ⟨GB, j, none⟩) (hk : Kept (fun b => b = GB ∨ v.ownBlock = some b) wr w') :
    Bg e es c w0 w' GB (.slice (some ⟨B, 0, none⟩) (n + 1) cap) rs (n + 1) := by
  have hs := h.below.size
  refine ⟨?_, h.gb, hc, hf, fun j h1 h2 => (ho j h2).trans (h.flds j h1 h2), ?_, ?_, ?_, fun p hp b hb => ⟨?_, (h.rows p hp b hb).2⟩, h.inj⟩
  · have h1 := (Kept.of_below h.below).then hk (fun k hk' hh => by
      rcases hh with rfl | hh
      · exact h.gb
      · exact h.new k hh)
    exact h1.to_below (Nat.le_refl _) (fun k hk' hh => by have : w0.heap.size ≤ k := hh; omega)
  · have e : (rs.take (n + 1)).map Lt.sl = (rs.take n).map Lt.sl ++ [rs[n].sl] := by rw [List.take_succ_eq_append_getElem hn, List.map_append]; rfl
    rw [e]; exact hr
  · simp [Value.ownBlock]; exact hB
  · intro b hb
    obtain rfl : B = b := by simpa [Value.ownBlock] using hb
    rcases hn' with h1 | h1
    · exact h.new B h1
    · omega
  · refine Row.kept (h.rows p hp b hb).1 hk (fun e' => ?_)
    rcases e' with e' | e'
    · exact (h.rows p hp b hb).2.1 e'
    · exact own_ne h.own e' (h.rows p hp b hb).1 hes rfl

/-- What AddInts does to it. -/
theorem addBg {w0 wr : World} {GB : Nat} {v : Value} {rs : List Lt} {n : Nat} (h : Bg 3 26 1 w0 wr GB v rs n) (hn : n < rs.length) (h300 : n < 300) (x : Value) (hx : x = rs[n].sl) :
    Calls Tryd.prog 10 #[.pointer (some ⟨GB, 0, none⟩), x] wr fun e w' => e = .returned (.tuple #[]) ∧ ∃ v', Bg 3 26 1 w0 w' GB v' rs (n + 1) := by
  subst hx
  rw [Lt.sl_eq]
  refine (add58 GB v n _ _ _ _ wr h300 h.cell h.free h.own h.other).mono fun e w' ⟨he, B, cap, hr, hc, hf, hB, hnw, ho, hk⟩ => ⟨he, _, h.add (by decide) hn (by rw [← Lt.sl_eq] at hr; exact hr) hc hf hB hnw ho hk⟩

/-- What Apart says of it. -/
theorem apartBg {w0 wr : World} {GB : Nat} {v : Value} {rs : List Lt} (h : Bg 3 26 1 w0 wr GB v rs rs.length) (h0 : 0 < rs.length) (h300 : rs.length ≤ 300) (hl : ∀ p ∈ rs, p.xs.length ≤ 4194304) :
    Calls Tryd.prog 12 #[.pointer (some ⟨GB, 0, none⟩)] wr fun e w' => e = .returned (.bool true) ∧ Below w0.heap.size w0 w' := by
  have hown := h.own
  rw [List.take_of_length_le (Nat.le_refl _)] at hown
  obtain ⟨X, cx, rfl⟩ : ∃ X cx, v = .slice (some ⟨X, 0, none⟩) rs.length cx := by
    rcases hown.2 with ⟨_, e⟩ | ⟨g, cap, cur, e, _⟩
    · omega
    · exact ⟨g, cap, e⟩
  let D : Lt := ⟨none, [], 0⟩
  have hget : ∀ j, j < rs.length → rs.getD j D ∈ rs := fun j hj => by
    rw [List.getD_eq_getElem?_getD, List.getElem?_eq_getElem hj]; exact List.getElem_mem hj
  have hge : ∀ j (hj : j < rs.length), rs.getD j D = rs[j] := fun j hj => by
    rw [List.getD_eq_getElem?_getD, List.getElem?_eq_getElem hj]; rfl
  have H := apart15 GB X rs.length cx (fun j => (rs.getD j D).b ≠ none) (fun j => (rs.getD j D).addr) (fun j => (rs.getD j D).b.getD 0) (fun j => (rs.getD j D).len) (fun j => (rs.getD j D).room) wr h300 h.cell
    (fun j hj => by
      rw [World.ownsRow.cellAt hown j (by omega), List.getElem?_map, List.getElem?_eq_getElem hj, hge j hj, Option.map_some, Lt.sl_eq])
    (fun j hj => by
      have hm := hget j hj
      (try dsimp only)
      generalize rs.getD j D = p at hm
      cases hb : p.b with
      | none => exact .inr ⟨by simp, by simp [Lt.addr, hb], by simp [Lt.len, hb], by simp [Lt.room, hb]⟩
      | some B => exact .inl ⟨by simp, by simp [Lt.addr, hb], p.xs, by simpa [Lt.len, Lt.room, hb] using (h.rows p hm B hb).1⟩)
    (fun j hj => by
      have := hl _ (hget j hj)
      simp only [Lt.len]
      split <;> omega)
    (fun i j hi hj hNi hNj e => by
      rw [hge i hi] at hNi e
      rw [hge j hj] at hNj e
      obtain ⟨B, hB⟩ := Option.ne_none_iff_exists'.1 hNi
      obtain ⟨B', hB'⟩ := Option.ne_none_iff_exists'.1 hNj
      rw [hB, hB'] at e
      simp at e
      subst e
      exact h.inj i j hi hj B hB hB')
    (fun j hj hN => by
      have hm := hget j hj
      obtain ⟨B, hB⟩ := Option.ne_none_iff_exists'.1 hN
      have hr := h.rows _ hm B hB
      (try dsimp only)
      rw [hB]
      exact ⟨fun e => hr.2.1 (by simpa using e.symm), fun e => own_ne hown rfl hr.1 (by decide) (by simpa using e.symm)⟩)
    h.flds
  refine H.mono fun e w' ⟨he, hk⟩ => ⟨he, ?_⟩
  have h1 := (Kept.of_below h.below).then hk (fun k hk' hh => by
    obtain ⟨j, hj, hN, rfl⟩ := hh
    obtain ⟨B, hB⟩ := Option.ne_none_iff_exists'.1 hN
    have := (h.rows _ (hget j hj) B hB).2.2
    (try dsimp only)
    rw [hB]
    exact this)
  exact h1.to_below (Nat.le_refl _) (fun k hk' hh => by have : w0.heap.size ≤ k := hh; omega)
end Go.Proofs.YtkcidabokgadcaaDoor

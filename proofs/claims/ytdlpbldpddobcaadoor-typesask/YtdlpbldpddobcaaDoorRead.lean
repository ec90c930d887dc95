/-
  The walk over ReadSig.
-/
import Derived.Test.YtdlpbldpddobcaaDoorPure
import Derived.Test.YtdlpbldpddobcaaDoorCut
namespace Go.Proofs.YtdlpbldpddobcaaDoor
open Go.RowKit
set_option linter.unusedVariables false

theorem MaxOk.later {w w' : World} {B : Nat} (h : MaxOk w) (hb : Below B w w') (hB : w.heap.size ≤ B) : MaxOk w' := by
  obtain ⟨m, hm⟩ := h
  have := block_lt_of_cell hm
  exact ⟨m, (hb.cell (by simp at this ⊢; omega)).trans hm⟩

theorem blk_cell {w : World} {b : Nat} {cs : Array Value} {t : TypeId} (h : w.heap[b]? = some (.cells cs t)) (j : Nat) : w.cell? ⟨b, j, none⟩ = cs[j]? := by
  simp [World.cell?, h]
theorem blk_free {w : World} {b : Nat} {cs : Array Value} {t : TypeId} (h : w.heap[b]? = some (.cells cs t)) (j : Nat) : w.frozen? ⟨b, j, none⟩ = false := by
  simp [World.frozen?, h]

theorem cut18 (s : ByteArray) (w : World) (hs : s.size ≤ 1073741824) (hm : MaxOk w) :
    Calls Tryd.prog 47 #[.string s, .string ⟨#[32, 45, 62, 32]⟩] w fun e w' => e = .returned (.tuple #[.string (cutL s), .string (cutR s), .bool (cutF s)]) ∧ Below w.heap.size w w' := by
  obtain ⟨m, hm⟩ := hm
  exact (Tryd.strings_Cut s ⟨#[32, 45, 62, 32]⟩ m w (by omega) hm).mono fun e w' ⟨he, n, hw⟩ => ⟨he, by rw [hw]; exact below_drewN (Below.refl _ _) n⟩

/-- types.ReadSig. -/
theorem readSig8 (s : ByteArray) (w : World) (hs : s.size ≤ 1073741824) (hm : MaxOk w) :
    Calls Tryd.prog 23 #[.string s] w fun e w' => e = .returned (.tuple #[.agg #[.string (rdP s), .string (rdR s)], .int .i64 (rdE s)]) ∧ Below w.heap.size w w' := by
  obtain ⟨hl, hr⟩ := cut_sizes s
  have hb0 : Below w.heap.size w (w.alloc (.cells #[.string ⟨#[]⟩, .string ⟨#[]⟩] 23)) := (Below.refl _ _).alloc (Nat.le_refl _) _
  have HC := hid (cut18 s (w.alloc (.cells #[.string ⟨#[]⟩, .string ⟨#[]⟩] 23)) hs (hm.later hb0 (Nat.le_refl _)))
  go_enter Tryd.func23, Tryd.ntmps23
  go_wp2_with fail
  refine HC.out.mono ?_
  rintro e w1 ⟨rfl, hb1⟩
  go_wp2_with fail
  refine (readSide19 (cutL s) w1 (by omega)).mono ?_
  rintro e w2 ⟨rfl, hb2⟩
  go_wp2_with fail
  refine (readSide19 (cutR s) w2 (by omega)).mono ?_
  rintro e w3 ⟨rfl, hb3⟩
  have hbb : Below w.heap.size w w3 := ((hb0.trans (hb1.mono (by simp))).trans (hb2.mono (by have := hb1.size; simp at this; omega))).trans (hb3.mono (by have := hb1.size; have := hb2.size; simp at *; omega))
  have hba : Below (w.heap.size + 1) (w.alloc (.cells #[.string ⟨#[]⟩, .string ⟨#[]⟩] 23)) w3 := (((hb1.mono (by simp))).trans (hb2.mono (by have := hb1.size; simp at this; omega))).trans (hb3.mono (by have := hb1.size; have := hb2.size; simp at *; omega))
  have hblk : w3.heap[w.heap.size]? = some (.cells #[.string ⟨#[]⟩, .string ⟨#[]⟩] 23) := by
    rw [hba.block w.heap.size (by omega)]; exact heap_alloc_new _ _
  have c0 := blk_cell hblk 0
  have c1 := blk_cell hblk 1
  have f0 := blk_free hblk 0
  have f1 := blk_free hblk 1
  simp at c0 c1
  have HB := hid hbb
  clear hb0 hb1 hb2 hb3 hbb hba hblk HC
  cases h1 : cutF s
  · have hz : rdB s = false := by simp [rdB, h1]
    go_wp2
    (try simp only [Exit.inBlock, Exit.then])
    refine bodyPost_ret (v := .tuple #[.agg #[.string ⟨#[]⟩, .string ⟨#[]⟩], .int .i64 15]) ?_ rfl ⟨by simp [rdP, rdR, rdE, hz], ?_⟩
    · rw [results_cell_tmp rfl]
      go_simp
    · exact (HB.out.setCell (by simp) _).setCell (by simp) _
  · cases h2 : rsB (cutL s)
    · have hz : rdB s = false := by simp [rdB, h1, h2]
      go_wp2
      (try simp only [Exit.inBlock, Exit.then])
      refine bodyPost_ret (v := .tuple #[.agg #[.string ⟨#[]⟩, .string ⟨#[]⟩], .int .i64 15]) ?_ rfl ⟨by simp [rdP, rdR, rdE, hz], ?_⟩
      · rw [results_cell_tmp rfl]
        go_simp
      · exact (HB.out.setCell (by simp) _).setCell (by simp) _
    · cases h3 : rsB (cutR s)
      · have hz : rdB s = false := by simp [rdB, h1, h2, h3]
        go_wp2
        (try simp only [Exit.inBlock, Exit.then])
        refine bodyPost_ret (v := .tuple #[.agg #[.string ⟨#[]⟩, .string ⟨#[]⟩], .int .i64 15]) ?_ rfl ⟨by simp [rdP, rdR, rdE, hz], ?_⟩
        · rw [results_cell_tmp rfl]
          go_simp
        · exact (HB.out.setCell (by simp) _).setCell (by simp) _
      · have hz : rdB s = true := by simp [rdB, h1, h2, h3]
        go_wp2
        (try simp only [Exit.inBlock, Exit.then])
        refine bodyPost_ret (v := .tuple #[.agg #[.string (rsV (cutL s)), .string (rsV (cutR s))], .int .i64 0]) ?_ rfl ⟨by simp [rdP, rdR, rdE, hz], ?_⟩
        · rw [results_cell_tmp rfl]
          go_simp
        · exact (HB.out.setCell (by simp) _).setCell (by simp) _
end Go.Proofs.YtdlpbldpddobcaaDoor

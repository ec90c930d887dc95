/-
  The walks over the document's New, Grow, Pages.
-/
import Derived.Test.YtedkmfklobipaaaDoorRf
import Derived.Deep.OwnRows
import Derived.Lib.AppendZerosOnto
namespace Go.Proofs.YtedkmfklobipaaaDoor
open Go.RowKit
set_option linter.unusedVariables false

theorem Tryd.infBl : (Tryd.prog.info? 4).map (fun i => (i.zero, i.size, i.bytes)) = some (some (.bool false), 1, 1) := by kernel_rfl

theorem made_bytes (n : Nat) : madeCells #[Value.int .u8 0] n = (bytesL (fun _ => 0) n).toArray := by
  apply Array.ext'
  rw [toList_madeCells_one]
  unfold bytesL
  apply List.ext_getElem?
  intro j
  rw [List.getElem?_replicate, List.getElem?_map]
  by_cases h : j < n
  · rw [if_pos h, List.getElem?_range h]; rfl
  · rw [if_neg h, List.getElem?_eq_none (by rw [List.length_range]; omega)]; rfl
theorem made_marks : madeCells #[Value.bool false] 64 = (marksL fun _ => false).toArray := by
  apply Array.ext'
  rw [toList_madeCells_one, noMarks]

theorem rnew_no (p m : Int) (w : World) (h : mayB p m = false) : Calls Tryd.prog 8 #[.int .i64 p, .int .i64 m] w fun e w' => e = .returned (.tuple #[.pointer none, .int .i64 1]) ∧ w' = w := by
  by_cases h1 : p < 0
  · go_enter Tryd.func8, Tryd.ntmps8
    go_wp2_with fail
    go_ret2
    exact ⟨rfl, rfl⟩
  · by_cases h2 : m < p
    · go_enter Tryd.func8, Tryd.ntmps8
      go_wp2_with fail
      go_ret2
      exact ⟨rfl, rfl⟩
    · have h3 : 64 < m := by
        rcases Int.lt_or_le 64 m with h3 | h3
        · exact h3
        · have : mayB p m = true := by simp [mayB]; omega
          rw [this] at h; cases h
      clear h
      go_enter Tryd.func8, Tryd.ntmps8
      go_wp2_with fail
      go_ret2
      exact ⟨rfl, rfl⟩

theorem al3 (w : World) (o1 o2 o3 : Obj) : (((w.alloc o1).alloc o2).alloc o3).drew.heap[w.heap.size]? = some o1 ∧ (((w.alloc o1).alloc o2).alloc o3).drew.heap[w.heap.size + 1]? = some o2 ∧ (((w.alloc o1).alloc o2).alloc o3).drew.heap[w.heap.size + 1 + 1]? = some o3 := by
  show (((w.heap.push o1).push o2).push o3)[w.heap.size]? = some o1 ∧ (((w.heap.push o1).push o2).push o3)[w.heap.size + 1]? = some o2 ∧ (((w.heap.push o1).push o2).push o3)[w.heap.size + 1 + 1]? = some o3
  refine ⟨?_, ?_, ?_⟩
  · rw [Array.getElem?_push, if_neg (by simp only [Array.size_push]; omega), Array.getElem?_push, if_neg (by simp only [Array.size_push]; omega), Array.getElem?_push, if_pos rfl]
  · rw [Array.getElem?_push, if_neg (by simp only [Array.size_push]; omega), Array.getElem?_push, if_pos (by simp only [Array.size_push])]
  · rw [Array.getElem?_push, if_pos (by simp only [Array.size_push])]
theorem al3_below (w : World) (o1 o2 o3 : Obj) : Below w.heap.size w (((w.alloc o1).alloc o2).alloc o3).drew := by
  have h := (((Below.refl w.heap.size w).alloc (Nat.le_refl _) o1).alloc (by simp) o2).alloc (by simp; omega) o3
  exact below_drewN h 1
theorem row_at {w : World} {e : TypeId} {B n : Nat} {l : List Value} (h : w.heap[B]? = some (Obj.cells l.toArray e)) (hl : l.length = n) (hn : n ≤ maxLen) : Row w e B n n l := by
  refine ⟨by omega, .inr ⟨B, n, l.toArray, rfl, Nat.zero_le _, h, Nat.le_refl _, hn, by simp [hl], ?_⟩⟩
  simp [← hl]
theorem rfm_new {w : World} {X B V p m : Nat} (hp : p ≤ m) (hm : m ≤ 64) (hX : w.heap[X]? = some (Obj.cells #[.slice (some ⟨B, 0, none⟩) (p * 4096) (p * 4096), .int .i64 m, .slice (some ⟨V, 0, none⟩) 64 64] 83))
    (hB : w.heap[B]? = some (Obj.cells (bytesL (fun _ => 0) (p * 4096)).toArray 5)) (hV : w.heap[V]? = some (Obj.cells (marksL fun _ => false).toArray 4)) : Rfm w X m B (p * 4096) V p (fun _ => 0) (fun _ => false) :=
  ⟨hX, row_at hB (bytesL_len _ _) (by unfold maxLen; omega), hV, hp, hm, fun _ => by simp, fun _ _ => rfl⟩

set_option maxRecDepth 100000 in
set_option maxHeartbeats 1000000 in
theorem rnew_yes (p m : Nat) (w : World) (h : mayB p m = true) : Calls Tryd.prog 8 #[.int .i64 p, .int .i64 m] w fun e w' => ∃ X B V, e = .returned (.tuple #[.pointer (some ⟨X, 0, none⟩), .int .i64 0]) ∧ Rfm w' X m B (p * 4096) V p (fun _ => 0) (fun _ => false) ∧ Below w.heap.size w w' ∧ ∀ k, Fq X B V k → w.heap.size ≤ k := by
  have hm : p ≤ m ∧ m ≤ 64 := by simp [mayB] at h; omega
  clear h
  have hmk1 : ∀ w, (Instr.makeSlice 41 (.int .i64 ((p : Int) * 4096)) (.int .i64 ((p : Int) * 4096))).run Tryd.prog w = .ok (.slice (some ⟨w.heap.size, 0, none⟩) (p * 4096) (p * 4096)) (w.alloc (.cells (bytesL (fun _ => 0) (p * 4096)).toArray 5)) := by
    intro w
    have := run_make_row' (P := Tryd.prog) 41 5 (.int .u8 0) 1 Tryd.underlying41 Tryd.infU8 rfl .i64 .i64 (p * 4096) (by omega) (by omega) w
    rw [made_bytes, Int.natCast_mul] at this
    exact this
  have hmk2 : ∀ w, (Instr.makeSlice 81 (.int .i64 64) (.int .i64 64)).run Tryd.prog w = .ok (.slice (some ⟨w.heap.size, 0, none⟩) 64 64) (w.alloc (.cells (marksL fun _ => false).toArray 4)) := by
    intro w
    have := run_make_row' (P := Tryd.prog) 81 4 (.bool false) 1 Tryd.underlying81 Tryd.infBl rfl .i64 .i64 64 (by omega) (by omega) w
    rw [made_marks] at this
    exact this
  go_enter Tryd.func8, Tryd.ntmps8
  go_wp2_with fail
  go_region
  · go_wp2_with fail
    go_ret2
    have A := al3 w (Obj.cells (bytesL (fun _ => 0) (p * 4096)).toArray 5) (Obj.cells (marksL fun _ => false).toArray 4) (Obj.cells #[.slice (some ⟨w.heap.size, 0, none⟩) (p * 4096) (p * 4096), .int .i64 m, .slice (some ⟨w.heap.size + 1, 0, none⟩) 64 64] 83)
    refine ⟨w.heap.size + 1 + 1, w.heap.size, w.heap.size + 1, rfl, rfm_new hm.1 hm.2 A.2.2 A.1 A.2.1, al3_below _ _ _ _, fun k hk => ?_⟩
    rcases hk with rfl | rfl | rfl <;> omega
  · go_wp2_with fail
    go_ret2
    have A := al3 w (Obj.cells (marksL fun _ => false).toArray 4) (Obj.cells (bytesL (fun _ => 0) (p * 4096)).toArray 5) (Obj.cells #[.slice (some ⟨w.heap.size + 1, 0, none⟩) (p * 4096) (p * 4096), .int .i64 m, .slice (some ⟨w.heap.size, 0, none⟩) 64 64] 83)
    refine ⟨w.heap.size + 1 + 1, w.heap.size + 1, w.heap.size, rfl, rfm_new hm.1 hm.2 A.2.2 A.2.1 A.1, al3_below _ _ _ _, fun k hk => ?_⟩
    rcases hk with rfl | rfl | rfl <;> omega
end Go.Proofs.YtedkmfklobipaaaDoor

/-
  snap.Write.
-/
import Derived.Test.YtbdjghokedfkfaaDoorWg
import Derived.Lib.SlBytesConst
namespace Go.Proofs.YtbdjghokedfkfaaDoor
open Go.RowKit
set_option linter.unusedVariables false
set_option maxRecDepth 100000

def mgc : List Int := [70, 83, 78, 80, 1]
/-- What Write tells: bytes, or that something did not hold. -/
def wrV (x : StM) : WS := stW x (mgc, false)
/-- Write's answer. -/
def WrA (x : StM) (w : World) : Ending → World → Prop := fun e w' => Below w.heap.size w w' ∧
  ((wrV x).2 = true ∧ e = .returned (.tuple #[.slice none 0 0, .int .i64 44]) ∨
   (wrV x).2 = false ∧ ∃ B cap, e = .returned (.tuple #[.slice (some ⟨B, 0, none⟩) (wrV x).1.length cap, .int .i64 0]) ∧ Buf w' B (wrV x).1.length cap ((wrV x).1.map (Value.int .u8)) ∧ w.heap.size ≤ B)

theorem frz_at {w : World} {b i : Nat} {a : Array Value} {t : TypeId} (h : w.heap[b]? = some (.cells a t)) : w.frozen? ⟨b, i, none⟩ = false := by
  unfold World.frozen?
  rw [h]
  simp
abbrev mgA : Array Value := #[.int .u8 70, .int .u8 83, .int .u8 78, .int .u8 80, .int .u8 1]
abbrev mgO : Obj := .cells mgA 5 (5, 6)
theorem cnvM (w : World) (B : Nat) (h : w.heap.size = B) : (convert 31 31 (.slice (some ⟨B, 0, none⟩) 5 5)).run Tryd.prog (w.alloc (.cells mgA 5)) = .ok (.slice (some ⟨B, 0, none⟩) 5 5) (w.alloc mgO) := by
  subst h
  exact Go.Lib.run_convert_bytes_const (P := Tryd.prog) w 31 5 mgA 5 5 Tryd.underlying31 Tryd.underlying5
set_option maxHeartbeats 4000000 in
theorem write7 (x : StM) (w : World) (hS : SSt w x) (hb : SB x) (hr : SR x) :
    Calls Tryd.prog 8 #[.agg (stAr x)] w (WrA x w) := by
  have hb1 : Below w.heap.size w (w.alloc (stO x)) := below_new _ _
  have hb2 : Below w.heap.size w ((w.alloc (stO x)).alloc mgO) := hb1.trans ((below_new _ _).mono hb1.size)
  have hb3 : Below w.heap.size w (((w.alloc (stO x)).alloc mgO).alloc (.cells #[.slice (some ⟨w.heap.size + 1, 0, none⟩) 5 5, .bool false] 72)) := hb2.trans ((below_new _ _).mono hb2.size)
  have hz3 : (((w.alloc (stO x)).alloc mgO).alloc (.cells #[.slice (some ⟨w.heap.size + 1, 0, none⟩) 5 5, .bool false] 72)).heap.size = w.heap.size + 3 := by simp
  have k2 : (((w.alloc (stO x)).alloc mgO).alloc (.cells #[.slice (some ⟨w.heap.size + 1, 0, none⟩) 5 5, .bool false] 72)).heap[w.heap.size + 2]? = some (.cells #[.slice (some ⟨w.heap.size + 1, 0, none⟩) 5 5, .bool false] 72) := nb_at (by simp)
  have k1 : (((w.alloc (stO x)).alloc mgO).alloc (.cells #[.slice (some ⟨w.heap.size + 1, 0, none⟩) 5 5, .bool false] 72)).heap[w.heap.size + 1]? = some mgO := nb_later (below_new _ _) (nb_at (by simp))
  have hW : Wr (((w.alloc (stO x)).alloc mgO).alloc (.cells #[.slice (some ⟨w.heap.size + 1, 0, none⟩) 5 5, .bool false] 72)) (w.heap.size + 2) (w.heap.size + 1) 5 mgc false := by
    refine ⟨cell_at k2, cell_at k2, ?_, ?_, .inr ⟨rfl, by first | (unfold maxLen; decide) | decide, by omega, rfl, fun j u hj => ?_⟩, by omega⟩
    · exact frz_at k2
    · exact frz_at k2
    · have : (((w.alloc (stO x)).alloc mgO).alloc (.cells #[.slice (some ⟨w.heap.size + 1, 0, none⟩) 5 5, .bool false] 72)).cell? ⟨w.heap.size + 1, j, none⟩ = mgA[j]? := by simp only [World.cell?, k1]; rfl
      rw [this]
      exact (by simpa [mgc] using hj)
  have HT := hid (state13 (w.heap.size + 2) (w.heap.size + 1) 5 (mgc, false) x w _ hW hS hb hr hb3 (by omega) (by omega) (by decide))
  have HB3 := hid hb3
  have e : stW x (mgc, false) = wrV x := rfl
  rw [e] at HT
  have HG := hid (show ∀ s, wrV x = s → ∀ e w', (Below w.heap.size w w' ∧ (s.2 = true ∧ e = .returned (.tuple #[.slice none 0 0, .int .i64 44]) ∨ s.2 = false ∧ ∃ B cap, e = .returned (.tuple #[.slice (some ⟨B, 0, none⟩) s.1.length cap, .int .i64 0]) ∧ Buf w' B s.1.length cap (s.1.map (Value.int .u8)) ∧ w.heap.size ≤ B)) → WrA x w e w' from fun s hs e w' h => by subst hs; exact h)
  obtain ⟨s, hs⟩ : ∃ s, wrV x = s := ⟨_, rfl⟩
  rw [hs] at HT
  have HG := hid (HG.out s hs)
  clear hb1 hb2 hb3 hz3 k2 k1 hW hS hb hr e hs
  obtain ⟨bs, bad⟩ := s
  dsimp only at HT HG
  refine (show Calls Tryd.prog 8 #[.agg (stAr x)] w (fun e w' => Below w.heap.size w w' ∧ (bad = true ∧ e = .returned (.tuple #[.slice none 0 0, .int .i64 44]) ∨ bad = false ∧ ∃ B cap, e = .returned (.tuple #[.slice (some ⟨B, 0, none⟩) bs.length cap, .int .i64 0]) ∧ Buf w' B bs.length cap (bs.map (Value.int .u8)) ∧ w.heap.size ≤ B)) from ?_).mono (fun e w' h => HG.out e w' h)
  clear HG
  have hcv := cnvM (w.alloc (stO x)) (w.heap.size + 1) (by simp)
  go_enter Tryd.func8, Tryd.ntmps8
  go_wp2_with fail
  refine HT.out.mono ?_
  rintro e w1 ⟨rfl, g1, cap1, hw1, hs1⟩
  have c0 := hw1.c0
  have c1 := hw1.c1
  have W1 := hid hw1
  have L1 := hid (hs1.low HB3.out (by omega) (by omega))
  clear hw1 hs1 HT
  dsimp only at c0 c1
  cases bad with
  | true =>
    go_wp2_with fail
    go_ret2
    exact ⟨L1.out.1, rfl⟩
  | false =>
    go_wp2_with fail
    go_ret2
    exact ⟨L1.out.1, g1, cap1, rfl, W1.out.row, L1.out.2⟩
end Go.Proofs.YtbdjghokedfkfaaDoor

/-
  The walk over ShapeCalls.
-/
import Derived.Test.YtngcidcfmolahaaWorks
namespace Go.Proofs.Ytngcidcfmolahaa
open Go.RowKit
set_option linter.unusedVariables false

theorem calls3_big (s t : ByteArray) (f : Int) (w : World) (hbig : 1048576 < s.size + t.size) (gs : s.size ≤ 140737488355328) (gt : t.size ≤ 140737488355328) :
    Calls Try.prog 3 #[.string s, .string t, .int .i64 f] w fun e w' => e = .returned (.bool true) ∧ Below w.heap.size w w' := by
  have H1 := hid (works5 w)
  have hbig' : (1048576 : Int) < (s.size : Int) + (t.size : Int) := by omega
  go_enter Try.func3, Try.ntmps3
  go_wp2_with fail
  refine H1.out.mono ?_
  rintro e w1 ⟨rfl, b1⟩
  go_wp2
  go_ret
  exact ⟨rfl, b1⟩

theorem calls3 (s t : ByteArray) (f : Int) (w : World) (hbig : ¬ 1048576 < s.size + t.size) :
    Calls Try.prog 3 #[.string s, .string t, .int .i64 f] w fun e w' => e = .returned (.bool true) ∧ Below w.heap.size w w' := by
  have H1 := hid (works5 w)
  have hs : s.size ≤ 1073741824 := by omega
  have ht : t.size ≤ 1073741824 := by omega
  have hbig' : ¬ (1048576 : Int) < (s.size : Int) + (t.size : Int) := by omega
  have H2 := fun w => hid (push6 s t w hs ht)
  have H3 := fun w => hid (push7 s t w hs ht)
  have H4 := fun w => hid (pop8 s t w hs ht)
  have H5 := fun w => hid (pop9 s t w hs ht)
  have H6 := fun w => hid (top10 s t w hs ht)
  have H7 := fun w => hid (top11 s t w hs ht)
  have K1 := fun f w => hid (keep12 s f t w hs ht)
  have K2 := fun f w => hid (keep13 s f t w hs ht)
  go_enter Try.func3, Try.ntmps3
  go_wp2_with fail
  refine H1.out.mono ?_
  rintro e w1 ⟨rfl, b1⟩
  go_wp2_with fail
  refine (H2 _).out.mono ?_
  rintro e w2 ⟨rfl, b2⟩
  have b2 := then_ b1 b2
  clear b1
  go_wp2_with fail
  refine (H3 _).out.mono ?_
  rintro e w3 ⟨rfl, rfl⟩
  go_wp2_with fail
  refine (H4 _).out.mono ?_
  rintro e w4 ⟨rfl, b4⟩
  have b4 := then_ b2 b4
  clear b2
  go_wp2_with fail
  refine (H5 _).out.mono ?_
  rintro e w5 ⟨rfl, rfl⟩
  go_wp2_with fail
  refine (H6 _).out.mono ?_
  rintro e w6 ⟨rfl, b6⟩
  have b6 := then_ b4 b6
  clear b4
  go_wp2_with fail
  refine (H7 _).out.mono ?_
  rintro e w7 ⟨rfl, rfl⟩
  go_wp2
  have hrow : ∃ zs : List Int, zs.length = 7 ∧ (∀ j : Nat, j < 7 → (w7.alloc (Obj.cells #[Value.int IntKind.i64 f, Value.int IntKind.i64 0, Value.int IntKind.i64 (-1), Value.int IntKind.i64 (↑s.size - ↑t.size), Value.int IntKind.i64 (↑s.size - ↑t.size + 1), Value.int IntKind.i64 9223372036854775807, Value.int IntKind.i64 (-9223372036854775808)] 3)).cell? ⟨w7.heap.size, j, none⟩ = some (.int .i64 (zs.getD j 0))) := by
    refine ⟨[f, 0, -1, ↑s.size - ↑t.size, ↑s.size - ↑t.size + 1, 9223372036854775807, -9223372036854775808], rfl, fun j hj => ?_⟩
    rw [World.cell?_alloc_at _ _ _ _ rfl]
    obtain rfl | rfl | rfl | rfl | rfl | rfl | rfl : j = 0 ∨ j = 1 ∨ j = 2 ∨ j = 3 ∨ j = 4 ∨ j = 5 ∨ j = 6 := by omega
    all_goals rfl
  have b8 : Below w.heap.size w (w7.alloc (Obj.cells #[Value.int IntKind.i64 f, Value.int IntKind.i64 0, Value.int IntKind.i64 (-1), Value.int IntKind.i64 (↑s.size - ↑t.size), Value.int IntKind.i64 (↑s.size - ↑t.size + 1), Value.int IntKind.i64 9223372036854775807, Value.int IntKind.i64 (-9223372036854775808)] 3)) := b6.alloc b6.size _
  have hlt : w7.heap.size < (w7.alloc (Obj.cells #[Value.int IntKind.i64 f, Value.int IntKind.i64 0, Value.int IntKind.i64 (-1), Value.int IntKind.i64 (↑s.size - ↑t.size), Value.int IntKind.i64 (↑s.size - ↑t.size + 1), Value.int IntKind.i64 9223372036854775807, Value.int IntKind.i64 (-9223372036854775808)] 3)).heap.size := by simp
  generalize w7.alloc (Obj.cells #[Value.int IntKind.i64 f, Value.int IntKind.i64 0, Value.int IntKind.i64 (-1), Value.int IntKind.i64 (↑s.size - ↑t.size), Value.int IntKind.i64 (↑s.size - ↑t.size + 1), Value.int IntKind.i64 9223372036854775807, Value.int IntKind.i64 (-9223372036854775808)] 3) = w8 at hrow b8 hlt ⊢
  obtain ⟨zs, hz, hcell⟩ := hrow
  have HC := hid hcell
  clear hcell b6
  go_loopw [17] (fun i wr => ∃ k : Nat, k ≤ 7 ∧ i = .int .i64 k ∧ Below w8.heap.size w8 wr) (fun i _ => 7 - (intOf i).toNat)
  case atStart => exact ⟨0, by omega, rfl, Below.refl _ _⟩
  case round =>
    obtain ⟨k, hk, rfl, hw⟩ := hrel
    by_cases hk7 : k < 7
    · have hk7' : (k : Int) < 7 := by omega
      have hc : wr.cell? ⟨w7.heap.size, k, none⟩ = some (.int .i64 (zs.getD k 0)) := by rw [hw.cell hlt]; exact HC.out k hk7
      generalize zs.getD k 0 = v at hc
      go_wp2_with fail
      refine (K1 v _).out.mono ?_
      rintro e w9 ⟨rfl, b9⟩
      have hc9 : w9.cell? ⟨w7.heap.size, k, none⟩ = some (.int .i64 v) := by rw [b9.cell (Nat.lt_of_lt_of_le hlt hw.size)]; exact hc
      have hw := then_ hw b9
      clear hc b9
      go_wp2_with fail
      refine (K2 v _).out.mono ?_
      rintro e wa ⟨rfl, rfl⟩
      go_wp2
      go_roundw
      case rel => exact ⟨k + 1, by omega, by simp, hw⟩
      case measure => simp [intOf]; omega
    · have hk7' : ¬ (k : Int) < 7 := by omega
      go_wp2
      go_ret
      exact ⟨rfl, then_ b8 hw⟩

end Go.Proofs.Ytngcidcfmolahaa

/-
  The walk over ShapeBack, parted by which of the three calls answers OK.
-/
import Derived.Test.YtngcidcfmolahaaBackLaw
namespace Go.Proofs.Ytngcidcfmolahaa
open Go.RowKit
set_option linter.unusedVariables false

theorem back4_000 (s t : ByteArray) (f : Int) (w : World) (hf : -9223372036854775808 ≤ f ∧ f ≤ 9223372036854775807) (hbig : ¬ 1048576 < s.size + t.size) (hA : ¬ pushE s t = 0) (hB : ¬ popE s t = 0) (hC : ¬ keepE s f t = 0) :
    Calls Try.prog 4 #[.string s, .string t, .int .i64 f] w fun e w' => e = .returned (.bool true) ∧ Below w.heap.size w w' := by
  have H1 := fun w => hid (works5 w)
  have hs : s.size ≤ 1073741824 := by omega
  have ht : t.size ≤ 1073741824 := by omega
  have hbig' : ¬ (1048576 : Int) < (s.size : Int) + (t.size : Int) := by omega
  have H2 := fun w => hid (push6 s t w hs ht)
  have H6 := fun w => hid (pop8 s t w hs ht)
  have H8 := fun w => hid (keep12 s f t w hs ht)
  go_enter Try.func4, Try.ntmps4
  go_wp2_with fail
  refine (H1 _).out.mono ?_
  rintro e w1 ⟨rfl, b1⟩
  go_wp2_with fail
  refine (H2 _).out.mono ?_
  rintro e w2 ⟨rfl, b2⟩
  have b2 := then_ b1 b2
  clear b1
  go_wp2_with fail
  refine (H6 _).out.mono ?_
  rintro e w3 ⟨rfl, b3⟩
  have b3 := then_ b2 b3
  clear b2
  go_wp2_with fail
  refine (H8 _).out.mono ?_
  rintro e w4 ⟨rfl, b4⟩
  have b4 := then_ b3 b4
  clear b3
  go_wp2
  go_ret
  exact ⟨rfl, b4⟩

theorem back4_001 (s t : ByteArray) (f : Int) (w : World) (hf : -9223372036854775808 ≤ f ∧ f ≤ 9223372036854775807) (hbig : ¬ 1048576 < s.size + t.size) (hA : ¬ pushE s t = 0) (hB : ¬ popE s t = 0) (hC : keepE s f t = 0) :
    Calls Try.prog 4 #[.string s, .string t, .int .i64 f] w fun e w' => e = .returned (.bool true) ∧ Below w.heap.size w w' := by
  have H1 := fun w => hid (works5 w)
  have hs : s.size ≤ 1073741824 := by omega
  have ht : t.size ≤ 1073741824 := by omega
  have hbig' : ¬ (1048576 : Int) < (s.size : Int) + (t.size : Int) := by omega
  have H2 := fun w => hid (push6 s t w hs ht)
  have H6 := fun w => hid (pop8 s t w hs ht)
  have H8 := fun w => hid (keep12 s f t w hs ht)
  obtain ⟨n, rfl, c1, c2, c3, c4, c5⟩ := keep_back hC
  have hk : (keepV s n t).size ≤ 1073741824 := by omega
  have H9 := fun w => hid (keep12 (keepV s n t) n t w hk ht)
  have H10 := fun w => hid (top10 (keepV s n t) t w hk ht)
  simp only [hC] at H8
  simp only [c1, c2] at H9
  simp only [c3] at H10
  generalize keepV s n t = kv at *
  clear c1 c2 c3
  go_enter Try.func4, Try.ntmps4
  go_wp2_with fail
  refine (H1 _).out.mono ?_
  rintro e w1 ⟨rfl, b1⟩
  go_wp2_with fail
  refine (H2 _).out.mono ?_
  rintro e w2 ⟨rfl, b2⟩
  have b2 := then_ b1 b2
  clear b1
  go_wp2_with fail
  refine (H6 _).out.mono ?_
  rintro e w3 ⟨rfl, b3⟩
  have b3 := then_ b2 b3
  clear b2
  go_wp2_with fail
  refine (H8 _).out.mono ?_
  rintro e w4 ⟨rfl, b4⟩
  have b4 := then_ b3 b4
  clear b3
  go_wp2_with fail
  refine (H9 _).out.mono ?_
  rintro e w5 ⟨rfl, b5⟩
  have b5 := then_ b4 b5
  clear b4
  go_wp2_with fail
  refine (H10 _).out.mono ?_
  rintro e w6 ⟨rfl, b6⟩
  have b6 := then_ b5 b6
  clear b5
  go_wp2
  go_ret
  exact ⟨by simp, b6⟩

theorem back4_010 (s t : ByteArray) (f : Int) (w : World) (hf : -9223372036854775808 ≤ f ∧ f ≤ 9223372036854775807) (hbig : ¬ 1048576 < s.size + t.size) (hA : ¬ pushE s t = 0) (hB : popE s t = 0) (hC : ¬ keepE s f t = 0) :
    Calls Try.prog 4 #[.string s, .string t, .int .i64 f] w fun e w' => e = .returned (.bool true) ∧ Below w.heap.size w w' := by
  have H1 := fun w => hid (works5 w)
  have hs : s.size ≤ 1073741824 := by omega
  have ht : t.size ≤ 1073741824 := by omega
  have hbig' : ¬ (1048576 : Int) < (s.size : Int) + (t.size : Int) := by omega
  have H2 := fun w => hid (push6 s t w hs ht)
  have H6 := fun w => hid (pop8 s t w hs ht)
  have H8 := fun w => hid (keep12 s f t w hs ht)
  obtain ⟨b1, b2⟩ := pop_back hB
  have hp : (popV s t).size ≤ 1073741824 := by
    have : popV s t = below s t := by simp [popV, hB]
    rw [this, below_size]; omega
  have H7 := fun w => hid (push6 (popV s t) t w hp ht)
  simp only [hB] at H6
  simp only [b1, b2] at H7
  clear b1 b2
  go_enter Try.func4, Try.ntmps4
  go_wp2_with fail
  refine (H1 _).out.mono ?_
  rintro e w1 ⟨rfl, b1⟩
  go_wp2_with fail
  refine (H2 _).out.mono ?_
  rintro e w2 ⟨rfl, b2⟩
  have b2 := then_ b1 b2
  clear b1
  go_wp2_with fail
  refine (H6 _).out.mono ?_
  rintro e w3 ⟨rfl, b3⟩
  have b3 := then_ b2 b3
  clear b2
  go_wp2_with fail
  refine (H7 _).out.mono ?_
  rintro e w4 ⟨rfl, b4⟩
  have b4 := then_ b3 b4
  clear b3
  go_wp2_with fail
  refine (H8 _).out.mono ?_
  rintro e w5 ⟨rfl, b5⟩
  have b5 := then_ b4 b5
  clear b4
  go_wp2
  go_ret
  exact ⟨rfl, b5⟩

theorem back4_011 (s t : ByteArray) (f : Int) (w : World) (hf : -9223372036854775808 ≤ f ∧ f ≤ 9223372036854775807) (hbig : ¬ 1048576 < s.size + t.size) (hA : ¬ pushE s t = 0) (hB : popE s t = 0) (hC : keepE s f t = 0) :
    Calls Try.prog 4 #[.string s, .string t, .int .i64 f] w fun e w' => e = .returned (.bool true) ∧ Below w.heap.size w w' := by
  have H1 := fun w => hid (works5 w)
  have hs : s.size ≤ 1073741824 := by omega
  have ht : t.size ≤ 1073741824 := by omega
  have hbig' : ¬ (1048576 : Int) < (s.size : Int) + (t.size : Int) := by omega
  have H2 := fun w => hid (push6 s t w hs ht)
  have H6 := fun w => hid (pop8 s t w hs ht)
  have H8 := fun w => hid (keep12 s f t w hs ht)
  obtain ⟨b1, b2⟩ := pop_back hB
  have hp : (popV s t).size ≤ 1073741824 := by
    have : popV s t = below s t := by simp [popV, hB]
    rw [this, below_size]; omega
  have H7 := fun w => hid (push6 (popV s t) t w hp ht)
  simp only [hB] at H6
  simp only [b1, b2] at H7
  clear b1 b2
  obtain ⟨n, rfl, c1, c2, c3, c4, c5⟩ := keep_back hC
  have hk : (keepV s n t).size ≤ 1073741824 := by omega
  have H9 := fun w => hid (keep12 (keepV s n t) n t w hk ht)
  have H10 := fun w => hid (top10 (keepV s n t) t w hk ht)
  simp only [hC] at H8
  simp only [c1, c2] at H9
  simp only [c3] at H10
  generalize keepV s n t = kv at *
  clear c1 c2 c3
  go_enter Try.func4, Try.ntmps4
  go_wp2_with fail
  refine (H1 _).out.mono ?_
  rintro e w1 ⟨rfl, b1⟩
  go_wp2_with fail
  refine (H2 _).out.mono ?_
  rintro e w2 ⟨rfl, b2⟩
  have b2 := then_ b1 b2
  clear b1
  go_wp2_with fail
  refine (H6 _).out.mono ?_
  rintro e w3 ⟨rfl, b3⟩
  have b3 := then_ b2 b3
  clear b2
  go_wp2_with fail
  refine (H7 _).out.mono ?_
  rintro e w4 ⟨rfl, b4⟩
  have b4 := then_ b3 b4
  clear b3
  go_wp2_with fail
  refine (H8 _).out.mono ?_
  rintro e w5 ⟨rfl, b5⟩
  have b5 := then_ b4 b5
  clear b4
  go_wp2_with fail
  refine (H9 _).out.mono ?_
  rintro e w6 ⟨rfl, b6⟩
  have b6 := then_ b5 b6
  clear b5
  go_wp2_with fail
  refine (H10 _).out.mono ?_
  rintro e w7 ⟨rfl, b7⟩
  have b7 := then_ b6 b7
  clear b6
  go_wp2
  go_ret
  exact ⟨by simp, b7⟩

theorem back4_100 (s t : ByteArray) (f : Int) (w : World) (hf : -9223372036854775808 ≤ f ∧ f ≤ 9223372036854775807) (hbig : ¬ 1048576 < s.size + t.size) (hA : pushE s t = 0) (hB : ¬ popE s t = 0) (hC : ¬ keepE s f t = 0) :
    Calls Try.prog 4 #[.string s, .string t, .int .i64 f] w fun e w' => e = .returned (.bool true) ∧ Below w.heap.size w w' := by
  have H1 := fun w => hid (works5 w)
  have hs : s.size ≤ 1073741824 := by omega
  have ht : t.size ≤ 1073741824 := by omega
  have hbig' : ¬ (1048576 : Int) < (s.size : Int) + (t.size : Int) := by omega
  have H2 := fun w => hid (push6 s t w hs ht)
  have H6 := fun w => hid (pop8 s t w hs ht)
  have H8 := fun w => hid (keep12 s f t w hs ht)
  obtain ⟨a1, a2, a3, a4, a5, a6⟩ := push_back hA
  have hz : (s ++ t).size ≤ 1073741824 := by rw [app_size]; omega
  have H3 := fun w => hid (pop8 (s ++ t) t w hz ht)
  have H4 := fun w => hid (top10 (s ++ t) t w hz ht)
  have H5 := fun w => hid (keep12 (s ++ t) s.size t w hz ht)
  simp only [a1, hA] at H2
  simp only [a2, a3] at H3
  simp only [a4] at H4
  simp only [a5, a6] at H5
  clear a1 a2 a3 a4 a5 a6
  go_enter Try.func4, Try.ntmps4
  go_wp2_with fail
  refine (H1 _).out.mono ?_
  rintro e w1 ⟨rfl, b1⟩
  go_wp2_with fail
  refine (H2 _).out.mono ?_
  rintro e w2 ⟨rfl, b2⟩
  have b2 := then_ b1 b2
  clear b1
  go_wp2_with fail
  refine (H3 _).out.mono ?_
  rintro e w3 ⟨rfl, b3⟩
  have b3 := then_ b2 b3
  clear b2
  go_wp2_with fail
  refine (H4 _).out.mono ?_
  rintro e w4 ⟨rfl, b4⟩
  have b4 := then_ b3 b4
  clear b3
  go_wp2_with fail
  refine (H5 _).out.mono ?_
  rintro e w5 ⟨rfl, b5⟩
  have b5 := then_ b4 b5
  clear b4
  go_wp2_with fail
  refine (H6 _).out.mono ?_
  rintro e w6 ⟨rfl, b6⟩
  have b6 := then_ b5 b6
  clear b5
  go_wp2_with fail
  refine (H8 _).out.mono ?_
  rintro e w7 ⟨rfl, b7⟩
  have b7 := then_ b6 b7
  clear b6
  go_wp2
  go_ret
  exact ⟨rfl, b7⟩

theorem back4_101 (s t : ByteArray) (f : Int) (w : World) (hf : -9223372036854775808 ≤ f ∧ f ≤ 9223372036854775807) (hbig : ¬ 1048576 < s.size + t.size) (hA : pushE s t = 0) (hB : ¬ popE s t = 0) (hC : keepE s f t = 0) :
    Calls Try.prog 4 #[.string s, .string t, .int .i64 f] w fun e w' => e = .returned (.bool true) ∧ Below w.heap.size w w' := by
  have H1 := fun w => hid (works5 w)
  have hs : s.size ≤ 1073741824 := by omega
  have ht : t.size ≤ 1073741824 := by omega
  have hbig' : ¬ (1048576 : Int) < (s.size : Int) + (t.size : Int) := by omega
  have H2 := fun w => hid (push6 s t w hs ht)
  have H6 := fun w => hid (pop8 s t w hs ht)
  have H8 := fun w => hid (keep12 s f t w hs ht)
  obtain ⟨a1, a2, a3, a4, a5, a6⟩ := push_back hA
  have hz : (s ++ t).size ≤ 1073741824 := by rw [app_size]; omega
  have H3 := fun w => hid (pop8 (s ++ t) t w hz ht)
  have H4 := fun w => hid (top10 (s ++ t) t w hz ht)
  have H5 := fun w => hid (keep12 (s ++ t) s.size t w hz ht)
  simp only [a1, hA] at H2
  simp only [a2, a3] at H3
  simp only [a4] at H4
  simp only [a5, a6] at H5
  clear a1 a2 a3 a4 a5 a6
  obtain ⟨n, rfl, c1, c2, c3, c4, c5⟩ := keep_back hC
  have hk : (keepV s n t).size ≤ 1073741824 := by omega
  have H9 := fun w => hid (keep12 (keepV s n t) n t w hk ht)
  have H10 := fun w => hid (top10 (keepV s n t) t w hk ht)
  simp only [hC] at H8
  simp only [c1, c2] at H9
  simp only [c3] at H10
  generalize keepV s n t = kv at *
  clear c1 c2 c3
  go_enter Try.func4, Try.ntmps4
  go_wp2_with fail
  refine (H1 _).out.mono ?_
  rintro e w1 ⟨rfl, b1⟩
  go_wp2_with fail
  refine (H2 _).out.mono ?_
  rintro e w2 ⟨rfl, b2⟩
  have b2 := then_ b1 b2
  clear b1
  go_wp2_with fail
  refine (H3 _).out.mono ?_
  rintro e w3 ⟨rfl, b3⟩
  have b3 := then_ b2 b3
  clear b2
  go_wp2_with fail
  refine (H4 _).out.mono ?_
  rintro e w4 ⟨rfl, b4⟩
  have b4 := then_ b3 b4
  clear b3
  go_wp2_with fail
  refine (H5 _).out.mono ?_
  rintro e w5 ⟨rfl, b5⟩
  have b5 := then_ b4 b5
  clear b4
  go_wp2_with fail
  refine (H6 _).out.mono ?_
  rintro e w6 ⟨rfl, b6⟩
  have b6 := then_ b5 b6
  clear b5
  go_wp2_with fail
  refine (H8 _).out.mono ?_
  rintro e w7 ⟨rfl, b7⟩
  have b7 := then_ b6 b7
  clear b6
  go_wp2_with fail
  refine (H9 _).out.mono ?_
  rintro e w8 ⟨rfl, b8⟩
  have b8 := then_ b7 b8
  clear b7
  go_wp2_with fail
  refine (H10 _).out.mono ?_
  rintro e w9 ⟨rfl, b9⟩
  have b9 := then_ b8 b9
  clear b8
  go_wp2
  go_ret
  exact ⟨by simp, b9⟩

theorem back4_110 (s t : ByteArray) (f : Int) (w : World) (hf : -9223372036854775808 ≤ f ∧ f ≤ 9223372036854775807) (hbig : ¬ 1048576 < s.size + t.size) (hA : pushE s t = 0) (hB : popE s t = 0) (hC : ¬ keepE s f t = 0) :
    Calls Try.prog 4 #[.string s, .string t, .int .i64 f] w fun e w' => e = .returned (.bool true) ∧ Below w.heap.size w w' := by
  have H1 := fun w => hid (works5 w)
  have hs : s.size ≤ 1073741824 := by omega
  have ht : t.size ≤ 1073741824 := by omega
  have hbig' : ¬ (1048576 : Int) < (s.size : Int) + (t.size : Int) := by omega
  have H2 := fun w => hid (push6 s t w hs ht)
  have H6 := fun w => hid (pop8 s t w hs ht)
  have H8 := fun w => hid (keep12 s f t w hs ht)
  obtain ⟨a1, a2, a3, a4, a5, a6⟩ := push_back hA
  have hz : (s ++ t).size ≤ 1073741824 := by rw [app_size]; omega
  have H3 := fun w => hid (pop8 (s ++ t) t w hz ht)
  have H4 := fun w => hid (top10 (s ++ t) t w hz ht)
  have H5 := fun w => hid (keep12 (s ++ t) s.size t w hz ht)
  simp only [a1, hA] at H2
  simp only [a2, a3] at H3
  simp only [a4] at H4
  simp only [a5, a6] at H5
  clear a1 a2 a3 a4 a5 a6
  obtain ⟨b1, b2⟩ := pop_back hB
  have hp : (popV s t).size ≤ 1073741824 := by
    have : popV s t = below s t := by simp [popV, hB]
    rw [this, below_size]; omega
  have H7 := fun w => hid (push6 (popV s t) t w hp ht)
  simp only [hB] at H6
  simp only [b1, b2] at H7
  clear b1 b2
  go_enter Try.func4, Try.ntmps4
  go_wp2_with fail
  refine (H1 _).out.mono ?_
  rintro e w1 ⟨rfl, b1⟩
  go_wp2_with fail
  refine (H2 _).out.mono ?_
  rintro e w2 ⟨rfl, b2⟩
  have b2 := then_ b1 b2
  clear b1
  go_wp2_with fail
  refine (H3 _).out.mono ?_
  rintro e w3 ⟨rfl, b3⟩
  have b3 := then_ b2 b3
  clear b2
  go_wp2_with fail
  refine (H4 _).out.mono ?_
  rintro e w4 ⟨rfl, b4⟩
  have b4 := then_ b3 b4
  clear b3
  go_wp2_with fail
  refine (H5 _).out.mono ?_
  rintro e w5 ⟨rfl, b5⟩
  have b5 := then_ b4 b5
  clear b4
  go_wp2_with fail
  refine (H6 _).out.mono ?_
  rintro e w6 ⟨rfl, b6⟩
  have b6 := then_ b5 b6
  clear b5
  go_wp2_with fail
  refine (H7 _).out.mono ?_
  rintro e w7 ⟨rfl, b7⟩
  have b7 := then_ b6 b7
  clear b6
  go_wp2_with fail
  refine (H8 _).out.mono ?_
  rintro e w8 ⟨rfl, b8⟩
  have b8 := then_ b7 b8
  clear b7
  go_wp2
  go_ret
  exact ⟨rfl, b8⟩

theorem back4_111 (s t : ByteArray) (f : Int) (w : World) (hf : -9223372036854775808 ≤ f ∧ f ≤ 9223372036854775807) (hbig : ¬ 1048576 < s.size + t.size) (hA : pushE s t = 0) (hB : popE s t = 0) (hC : keepE s f t = 0) :
    Calls Try.prog 4 #[.string s, .string t, .int .i64 f] w fun e w' => e = .returned (.bool true) ∧ Below w.heap.size w w' := by
  have H1 := fun w => hid (works5 w)
  have hs : s.size ≤ 1073741824 := by omega
  have ht : t.size ≤ 1073741824 := by omega
  have hbig' : ¬ (1048576 : Int) < (s.size : Int) + (t.size : Int) := by omega
  have H2 := fun w => hid (push6 s t w hs ht)
  have H6 := fun w => hid (pop8 s t w hs ht)
  have H8 := fun w => hid (keep12 s f t w hs ht)
  obtain ⟨a1, a2, a3, a4, a5, a6⟩ := push_back hA
  have hz : (s ++ t).size ≤ 1073741824 := by rw [app_size]; omega
  have H3 := fun w => hid (pop8 (s ++ t) t w hz ht)
  have H4 := fun w => hid (top10 (s ++ t) t w hz ht)
  have H5 := fun w => hid (keep12 (s ++ t) s.size t w hz ht)
  simp only [a1, hA] at H2
  simp only [a2, a3] at H3
  simp only [a4] at H4
  simp only [a5, a6] at H5
  clear a1 a2 a3 a4 a5 a6
  obtain ⟨b1, b2⟩ := pop_back hB
  have hp : (popV s t).size ≤ 1073741824 := by
    have : popV s t = below s t := by simp [popV, hB]
    rw [this, below_size]; omega
  have H7 := fun w => hid (push6 (popV s t) t w hp ht)
  simp only [hB] at H6
  simp only [b1, b2] at H7
  clear b1 b2
  obtain ⟨n, rfl, c1, c2, c3, c4, c5⟩ := keep_back hC
  have hk : (keepV s n t).size ≤ 1073741824 := by omega
  have H9 := fun w => hid (keep12 (keepV s n t) n t w hk ht)
  have H10 := fun w => hid (top10 (keepV s n t) t w hk ht)
  simp only [hC] at H8
  simp only [c1, c2] at H9
  simp only [c3] at H10
  generalize keepV s n t = kv at *
  clear c1 c2 c3
  go_enter Try.func4, Try.ntmps4
  go_wp2_with fail
  refine (H1 _).out.mono ?_
  rintro e w1 ⟨rfl, b1⟩
  go_wp2_with fail
  refine (H2 _).out.mono ?_
  rintro e w2 ⟨rfl, b2⟩
  have b2 := then_ b1 b2
  clear b1
  go_wp2_with fail
  refine (H3 _).out.mono ?_
  rintro e w3 ⟨rfl, b3⟩
  have b3 := then_ b2 b3
  clear b2
  go_wp2_with fail
  refine (H4 _).out.mono ?_
  rintro e w4 ⟨rfl, b4⟩
  have b4 := then_ b3 b4
  clear b3
  go_wp2_with fail
  refine (H5 _).out.mono ?_
  rintro e w5 ⟨rfl, b5⟩
  have b5 := then_ b4 b5
  clear b4
  go_wp2_with fail
  refine (H6 _).out.mono ?_
  rintro e w6 ⟨rfl, b6⟩
  have b6 := then_ b5 b6
  clear b5
  go_wp2_with fail
  refine (H7 _).out.mono ?_
  rintro e w7 ⟨rfl, b7⟩
  have b7 := then_ b6 b7
  clear b6
  go_wp2_with fail
  refine (H8 _).out.mono ?_
  rintro e w8 ⟨rfl, b8⟩
  have b8 := then_ b7 b8
  clear b7
  go_wp2_with fail
  refine (H9 _).out.mono ?_
  rintro e w9 ⟨rfl, b9⟩
  have b9 := then_ b8 b9
  clear b8
  go_wp2_with fail
  refine (H10 _).out.mono ?_
  rintro e w10 ⟨rfl, b10⟩
  have b10 := then_ b9 b10
  clear b9
  go_wp2
  go_ret
  exact ⟨by simp, b10⟩

theorem back4 (s t : ByteArray) (f : Int) (w : World) (hf : -9223372036854775808 ≤ f ∧ f ≤ 9223372036854775807) (hbig : ¬ 1048576 < s.size + t.size) :
    Calls Try.prog 4 #[.string s, .string t, .int .i64 f] w fun e w' => e = .returned (.bool true) ∧ Below w.heap.size w w' := by
  by_cases hA : pushE s t = 0 <;> by_cases hB : popE s t = 0 <;> by_cases hC : keepE s f t = 0
  · exact back4_111 s t f w hf hbig hA hB hC
  · exact back4_110 s t f w hf hbig hA hB hC
  · exact back4_101 s t f w hf hbig hA hB hC
  · exact back4_100 s t f w hf hbig hA hB hC
  · exact back4_011 s t f w hf hbig hA hB hC
  · exact back4_010 s t f w hf hbig hA hB hC
  · exact back4_001 s t f w hf hbig hA hB hC
  · exact back4_000 s t f w hf hbig hA hB hC

end Go.Proofs.Ytngcidcfmolahaa

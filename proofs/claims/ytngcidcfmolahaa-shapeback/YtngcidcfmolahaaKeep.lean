/-
  The walks over shape.Keep and the document's Keep, and over works.
-/
import Derived.Test.YtngcidcfmolahaaCalls
namespace Go.Proofs.Ytngcidcfmolahaa
open Go.RowKit
set_option linter.unusedVariables false

theorem ba_ext {a b : ByteArray} (h : a.data.toList = b.data.toList) : a = b := by
  cases a; cases b; simpa [Array.toList_inj] using h
theorem ba_size (a : ByteArray) : a.size = a.data.toList.length := Array.length_toList.symm
theorem ba_toList (a : ByteArray) : a.toList = a.data.toList := ByteArray.toList_eq a
theorem ba_app (a b : ByteArray) : (a ++ b).data.toList = a.data.toList ++ b.data.toList := by simp [ByteArray.data_append]
theorem ext_list (s : ByteArray) (i j : Nat) : (s.extract i j).data.toList = (s.data.toList.drop i).take (j - i) := by
  simp [ByteArray.data_extract, List.extract]

theorem below_size (s t : ByteArray) : (below s t).size = s.size - t.size := by
  rw [ba_size, below, ext_list, List.length_take, List.length_drop, ← ba_size]; omega
theorem below_ext (s t : ByteArray) (n : Nat) (h : n ≤ s.size - t.size) : (below s t).extract 0 n = s.extract 0 n := by
  apply ba_ext
  rw [ext_list, below, ext_list, ext_list]
  simp only [List.drop_zero, Nat.sub_zero, List.take_take]
  rw [Nat.min_eq_left h]

/-- shape.Keep. -/
theorem keep12 (s : ByteArray) (f : Int) (t : ByteArray) (w : World) (hs : s.size ≤ 1073741824) (ht : t.size ≤ 1073741824) :
    Calls Try.prog 12 #[.string s, .int .i64 f, .string t] w fun e w' => e = .returned (.tuple #[.string (keepV s f t), .int .i64 (keepE s f t)]) ∧ Below w.heap.size w w' := by
  have H1 := hid (pop8 s t w hs ht)
  cases hh : shp s t
  · have hE : keepE s f t = 15 := by simp [keepE, hh]
    have hV : keepV s f t = ⟨#[]⟩ := by simp [keepV, hE]
    have hP : popE s t = 15 := by simp [popE, hh]
    have hQ : popV s t = ⟨#[]⟩ := by simp [popV, hP]
    rw [hE, hV]
    rw [hP, hQ] at H1
    go_enter Try.func12, Try.ntmps12
    go_wp2_with fail
    refine H1.out.mono ?_
    rintro e w1 ⟨rfl, hb⟩
    go_wp2
    go_ret2
    exact ⟨rfl, hb⟩
  · cases he : ends s t
    · have hE : keepE s f t = 33 := by simp [keepE, hh, he]
      have hV : keepV s f t = ⟨#[]⟩ := by simp [keepV, hE]
      have hP : popE s t = 33 := by simp [popE, hh, he]
      have hQ : popV s t = ⟨#[]⟩ := by simp [popV, hP]
      rw [hE, hV]
      rw [hP, hQ] at H1
      go_enter Try.func12, Try.ntmps12
      go_wp2_with fail
      refine H1.out.mono ?_
      rintro e w1 ⟨rfl, hb⟩
      go_wp2
      go_ret2
      exact ⟨rfl, hb⟩
    · have hP : popE s t = 0 := by simp [popE, hh, he]
      have hQ : popV s t = below s t := by simp [popV, hP]
      have hz := below_size s t
      rw [hP, hQ] at H1
      by_cases h0 : f < 0
      · have hE : keepE s f t = 33 := by simp [keepE, hh, he]; intro h; omega
        have hV : keepV s f t = ⟨#[]⟩ := by simp [keepV, hE]
        rw [hE, hV]
        go_enter Try.func12, Try.ntmps12
        go_wp2_with fail
        refine H1.out.mono ?_
        rintro e w1 ⟨rfl, hb⟩
        go_wp2
        go_ret2
        exact ⟨rfl, hb⟩
      by_cases h1 : ((below s t).size : Int) < f
      · have hE : keepE s f t = 33 := by simp [keepE, hh, he]; intro h; omega
        have hV : keepV s f t = ⟨#[]⟩ := by simp [keepV, hE]
        rw [hE, hV]
        go_enter Try.func12, Try.ntmps12
        go_wp2_with fail
        refine H1.out.mono ?_
        rintro e w1 ⟨rfl, hb⟩
        go_wp2
        go_ret2
        exact ⟨rfl, hb⟩
      · obtain ⟨n, rfl⟩ : ∃ n : Nat, f = n := ⟨f.toNat, by omega⟩
        have hn : n ≤ (below s t).size := by omega
        have hE : keepE s n t = 0 := by simp only [keepE, hh, he, if_true]; rw [if_pos ⟨trivial, by omega, by omega⟩]
        have hV : keepV s n t = (below s t).extract 0 n ++ t := by
          rw [keepV, if_pos hE, below_ext s t n (by omega)]; rfl
        rw [hE, hV]
        have hcat : ¬ 9223372036854775807 < n + t.size := by omega
        have hz' := hid hz
        clear hz
        go_enter Try.func12, Try.ntmps12
        go_wp2_with fail
        refine H1.out.mono ?_
        rintro e w1 ⟨rfl, hb⟩
        go_wp2
        go_ret2
        exact ⟨rfl, hb⟩

/-- The document's Keep. -/
theorem keep13 (s : ByteArray) (f : Int) (t : ByteArray) (w : World) (hs : s.size ≤ 1073741824) (ht : t.size ≤ 1073741824) :
    Calls Try.prog 13 #[.string s, .int .i64 f, .string t] w fun e w' => e = .returned (.tuple #[.string (keepV s f t), .int .i64 (keepE s f t)]) ∧ w' = w := by
  have H1 := hid (shape15 s w hs)
  have H2 := hid (shape15 t w ht)
  have H3 := hid (ends17 s t w (by omega))
  cases h1 : lett s 256
  · rw [h1] at H1
    have hE : keepE s f t = 15 := by simp [keepE, shp, h1]
    have hV : keepV s f t = ⟨#[]⟩ := by simp [keepV, hE]
    rw [hE, hV]
    go_enter Try.func13, Try.ntmps13
    go_wp2_with fail
    refine H1.out.mono ?_
    rintro e w1 ⟨rfl, rfl⟩
    go_wp2
    go_ret2
    exact ⟨rfl, rfl⟩
  rw [h1] at H1
  cases h2 : lett t 256
  · rw [h2] at H2
    have hE : keepE s f t = 15 := by simp [keepE, shp, h1, h2]
    have hV : keepV s f t = ⟨#[]⟩ := by simp [keepV, hE]
    rw [hE, hV]
    go_enter Try.func13, Try.ntmps13
    go_wp2_with fail
    refine H1.out.mono ?_
    rintro e w1 ⟨rfl, rfl⟩
    go_wp2_with fail
    refine H2.out.mono ?_
    rintro e w1 ⟨rfl, rfl⟩
    go_wp2
    go_ret2
    exact ⟨rfl, rfl⟩
  rw [h2] at H2
  by_cases h0 : f < 0
  · have hE : keepE s f t = 33 := by simp [keepE, shp, h1, h2]; intro _ h; omega
    have hV : keepV s f t = ⟨#[]⟩ := by simp [keepV, hE]
    rw [hE, hV]
    go_enter Try.func13, Try.ntmps13
    go_wp2_with fail
    refine H1.out.mono ?_
    rintro e w1 ⟨rfl, rfl⟩
    go_wp2_with fail
    refine H2.out.mono ?_
    rintro e w1 ⟨rfl, rfl⟩
    go_wp2
    go_ret2
    exact ⟨rfl, rfl⟩
  cases he : ends s t
  · rw [he] at H3
    have hE : keepE s f t = 33 := by simp [keepE, shp, h1, h2, he]
    have hV : keepV s f t = ⟨#[]⟩ := by simp [keepV, hE]
    rw [hE, hV]
    go_enter Try.func13, Try.ntmps13
    go_wp2_with fail
    refine H1.out.mono ?_
    rintro e w1 ⟨rfl, rfl⟩
    go_wp2_with fail
    refine H2.out.mono ?_
    rintro e w1 ⟨rfl, rfl⟩
    go_wp2_with fail
    refine H3.out.mono ?_
    rintro e w1 ⟨rfl, rfl⟩
    go_wp2
    go_ret2
    exact ⟨rfl, rfl⟩
  rw [he] at H3
  have hle := ends_le he
  have hlo := sub_wrap hle (by omega)
  by_cases h3 : ((s.size - t.size : Nat) : Int) < f
  · have hE : keepE s f t = 33 := by simp [keepE, shp, h1, h2, he]; intro h; omega
    have hV : keepV s f t = ⟨#[]⟩ := by simp [keepV, hE]
    rw [hE, hV]
    go_enter Try.func13, Try.ntmps13
    go_wp2_with fail
    refine H1.out.mono ?_
    rintro e w1 ⟨rfl, rfl⟩
    go_wp2_with fail
    refine H2.out.mono ?_
    rintro e w1 ⟨rfl, rfl⟩
    go_wp2_with fail
    refine H3.out.mono ?_
    rintro e w1 ⟨rfl, rfl⟩
    go_wp2
    go_ret2
    exact ⟨rfl, rfl⟩
  · obtain ⟨n, rfl⟩ : ∃ n : Nat, f = n := ⟨f.toNat, by omega⟩
    have hn : n ≤ s.size := by omega
    have hE : keepE s n t = 0 := by
      have hh : shp s t = true := by simp [shp, h1, h2]
      simp only [keepE, hh, he, if_true]; rw [if_pos ⟨trivial, by omega, by omega⟩]
    have hV : keepV s n t = s.extract 0 n ++ t := by rw [keepV, if_pos hE]; rfl
    rw [hE, hV]
    go_enter Try.func13, Try.ntmps13
    go_wp2_with fail
    refine H1.out.mono ?_
    rintro e w1 ⟨rfl, rfl⟩
    go_wp2_with fail
    refine H2.out.mono ?_
    rintro e w1 ⟨rfl, rfl⟩
    go_wp2_with fail
    refine H3.out.mono ?_
    rintro e w1 ⟨rfl, rfl⟩
    go_wp2
    go_ret2
    exact ⟨rfl, rfl⟩

end Go.Proofs.Ytngcidcfmolahaa

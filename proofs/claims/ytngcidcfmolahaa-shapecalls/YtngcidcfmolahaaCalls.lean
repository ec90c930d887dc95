/-
  The walks over package shape's calls (Top, Push, Pop, Keep) and over the document's.
-/
import Derived.Test.YtngcidcfmolahaaEnds
namespace Go.Proofs.Ytngcidcfmolahaa
open Go.RowKit
set_option linter.unusedVariables false

/-- Are both shapes? -/
def shp (s t : ByteArray) : Bool := lett s 256 && lett t 256
def topB (s t : ByteArray) : Bool := shp s t && ends s t
def pushE (s t : ByteArray) : Int := if shp s t = true then if 256 < s.size + t.size then 34 else 0 else 15
def pushV (s t : ByteArray) : ByteArray := if pushE s t = 0 then s ++ t else ⟨#[]⟩
def popE (s t : ByteArray) : Int := if shp s t = true then if ends s t = true then 0 else 33 else 15
def popV (s t : ByteArray) : ByteArray := if popE s t = 0 then below s t else ⟨#[]⟩
def keepE (s : ByteArray) (f : Int) (t : ByteArray) : Int := if shp s t = true then if ends s t = true ∧ 0 ≤ f ∧ f ≤ ((s.size - t.size : Nat) : Int) then 0 else 33 else 15
def keepV (s : ByteArray) (f : Int) (t : ByteArray) : ByteArray := if keepE s f t = 0 then s.extract 0 f.toNat ++ t else ⟨#[]⟩

theorem ends_le {s t : ByteArray} (h : ends s t = true) : t.size ≤ s.size := by
  simp only [ends, Bool.and_eq_true, decide_eq_true_eq] at h; exact h.1

/-- shape.Top. -/
theorem top10 (s t : ByteArray) (w : World) (hs : s.size ≤ 1073741824) (ht : t.size ≤ 1073741824) :
    Calls Try.prog 10 #[.string s, .string t] w fun e w' => e = .returned (.bool (topB s t)) ∧ Below w.heap.size w w' := by
  have H1 := hid (shapes s t w hs ht)
  cases hh : shp s t
  · unfold shp at hh
    rw [hh] at H1
    go_enter Try.func10, Try.ntmps10
    go_wp2_with fail
    refine H1.out.mono ?_
    rintro e w1 ⟨rfl, hb⟩
    go_wp2
    go_ret
    exact ⟨by simp [topB, shp, hh], hb⟩
  · unfold shp at hh
    rw [hh] at H1
    go_enter Try.func10, Try.ntmps10
    go_wp2_with fail
    refine H1.out.mono ?_
    rintro e w1 ⟨rfl, hb⟩
    have H2 := hid (has18 s t w1 (by omega))
    go_wp2_with fail
    refine H2.out.mono ?_
    rintro e w2 ⟨rfl, rfl⟩
    go_wp2
    go_ret
    exact ⟨by simp [topB, shp, hh], hb⟩

/-- The document's Top. -/
theorem top11 (s t : ByteArray) (w : World) (hs : s.size ≤ 1073741824) (ht : t.size ≤ 1073741824) :
    Calls Try.prog 11 #[.string s, .string t] w fun e w' => e = .returned (.bool (topB s t)) ∧ w' = w := by
  have H1 := hid (shape15 s w hs)
  have H2 := hid (shape15 t w ht)
  have H3 := hid (ends17 s t w (by omega))
  cases h1 : lett s 256 <;> cases h2 : lett t 256 <;> rw [h1] at H1 <;> rw [h2] at H2
  all_goals
    go_enter Try.func11, Try.ntmps11
    go_wp2_with fail
    refine H1.out.mono ?_
    rintro e w1 ⟨rfl, rfl⟩
    go_wp2_with fail
    try (refine H2.out.mono ?_; rintro e w2 ⟨rfl, rfl⟩; go_wp2_with fail)
    try (refine H3.out.mono ?_; rintro e w2 ⟨rfl, rfl⟩; go_wp2_with fail)
    go_ret
    exact ⟨by simp [topB, shp, h1, h2], rfl⟩

/-- shape.Push. -/
theorem push6 (s t : ByteArray) (w : World) (hs : s.size ≤ 1073741824) (ht : t.size ≤ 1073741824) :
    Calls Try.prog 6 #[.string s, .string t] w fun e w' => e = .returned (.tuple #[.string (pushV s t), .int .i64 (pushE s t)]) ∧ Below w.heap.size w w' := by
  have H1 := hid (shapes s t w hs ht)
  cases hh : shp s t
  · have hE : pushE s t = 15 := by simp [pushE, hh]
    have hV : pushV s t = ⟨#[]⟩ := by simp [pushV, hE]
    rw [hE, hV]
    unfold shp at hh
    rw [hh] at H1
    go_enter Try.func6, Try.ntmps6
    go_wp2_with fail
    refine H1.out.mono ?_
    rintro e w1 ⟨rfl, hb⟩
    go_wp2
    go_ret2
    exact ⟨rfl, hb⟩
  · by_cases hbig : 256 < s.size + t.size
    · have hE : pushE s t = 34 := by simp [pushE, hh, hbig]
      have hV : pushV s t = ⟨#[]⟩ := by simp [pushV, hE]
      have hbig' : (256 : Int) < (s.size : Int) + (t.size : Int) := by omega
      rw [hE, hV]
      unfold shp at hh
      rw [hh] at H1
      go_enter Try.func6, Try.ntmps6
      go_wp2_with fail
      refine H1.out.mono ?_
      rintro e w1 ⟨rfl, hb⟩
      go_wp2
      go_ret2
      exact ⟨rfl, hb⟩
    · have hE : pushE s t = 0 := by simp [pushE, hh, hbig]
      have hV : pushV s t = s ++ t := by simp [pushV, hE]
      have hbig' : ¬ (256 : Int) < (s.size : Int) + (t.size : Int) := by omega
      rw [hE, hV]
      unfold shp at hh
      rw [hh] at H1
      go_enter Try.func6, Try.ntmps6
      go_wp2_with fail
      refine H1.out.mono ?_
      rintro e w1 ⟨rfl, hb⟩
      go_wp2
      go_ret2
      exact ⟨rfl, hb⟩

/-- The document's Push. -/
theorem push7 (s t : ByteArray) (w : World) (hs : s.size ≤ 1073741824) (ht : t.size ≤ 1073741824) :
    Calls Try.prog 7 #[.string s, .string t] w fun e w' => e = .returned (.tuple #[.string (pushV s t), .int .i64 (pushE s t)]) ∧ w' = w := by
  have H1 := hid (shape15 s w hs)
  have H2 := hid (shape15 t w ht)
  by_cases hbig : 256 < s.size + t.size
  · have hbig' : (256 : Int) < (s.size : Int) + (t.size : Int) := by omega
    cases h1 : lett s 256 <;> cases h2 : lett t 256 <;> rw [h1] at H1 <;> rw [h2] at H2
    all_goals
      go_enter Try.func7, Try.ntmps7
      go_wp2_with fail
      refine H1.out.mono ?_
      rintro e w1 ⟨rfl, rfl⟩
      go_wp2_with fail
      try (refine H2.out.mono ?_; rintro e w2 ⟨rfl, rfl⟩; go_wp2_with fail)
      go_ret2
      exact ⟨by simp [pushV, pushE, shp, h1, h2, hbig], rfl⟩
  · have hbig' : ¬ (256 : Int) < (s.size : Int) + (t.size : Int) := by omega
    cases h1 : lett s 256 <;> cases h2 : lett t 256 <;> rw [h1] at H1 <;> rw [h2] at H2
    all_goals
      go_enter Try.func7, Try.ntmps7
      go_wp2_with fail
      refine H1.out.mono ?_
      rintro e w1 ⟨rfl, rfl⟩
      go_wp2_with fail
      try (refine H2.out.mono ?_; rintro e w2 ⟨rfl, rfl⟩; go_wp2_with fail)
      go_ret2
      exact ⟨by simp [pushV, pushE, shp, h1, h2, hbig], rfl⟩

/-- shape.Pop. -/
theorem pop8 (s t : ByteArray) (w : World) (hs : s.size ≤ 1073741824) (ht : t.size ≤ 1073741824) :
    Calls Try.prog 8 #[.string s, .string t] w fun e w' => e = .returned (.tuple #[.string (popV s t), .int .i64 (popE s t)]) ∧ Below w.heap.size w w' := by
  have H1 := hid (shapes s t w hs ht)
  have H2 := fun w1 => hid (cut16 s t w1 (by omega))
  cases hh : shp s t
  · have hE : popE s t = 15 := by simp [popE, hh]
    have hV : popV s t = ⟨#[]⟩ := by simp [popV, hE]
    rw [hE, hV]
    unfold shp at hh
    rw [hh] at H1
    go_enter Try.func8, Try.ntmps8
    go_wp2_with fail
    refine H1.out.mono ?_
    rintro e w1 ⟨rfl, hb⟩
    go_wp2
    go_ret2
    exact ⟨rfl, hb⟩
  · cases he : ends s t
    · have hE : popE s t = 33 := by simp [popE, hh, he]
      have hV : popV s t = ⟨#[]⟩ := by simp [popV, hE]
      rw [hE, hV]
      unfold shp at hh
      rw [hh] at H1
      simp only [he] at H2
      go_enter Try.func8, Try.ntmps8
      go_wp2_with fail
      refine H1.out.mono ?_
      rintro e w1 ⟨rfl, hb⟩
      go_wp2_with fail
      refine (H2 w1).out.mono ?_
      rintro e w2 ⟨rfl, rfl⟩
      go_wp2
      go_ret2
      exact ⟨rfl, hb⟩
    · have hE : popE s t = 0 := by simp [popE, hh, he]
      have hV : popV s t = below s t := by simp [popV, hE]
      rw [hE, hV]
      unfold shp at hh
      rw [hh] at H1
      simp only [he, if_true] at H2
      go_enter Try.func8, Try.ntmps8
      go_wp2_with fail
      refine H1.out.mono ?_
      rintro e w1 ⟨rfl, hb⟩
      go_wp2_with fail
      refine (H2 w1).out.mono ?_
      rintro e w2 ⟨rfl, rfl⟩
      go_wp2
      go_ret2
      exact ⟨rfl, hb⟩

/-- The document's Pop. -/
theorem pop9 (s t : ByteArray) (w : World) (hs : s.size ≤ 1073741824) (ht : t.size ≤ 1073741824) :
    Calls Try.prog 9 #[.string s, .string t] w fun e w' => e = .returned (.tuple #[.string (popV s t), .int .i64 (popE s t)]) ∧ w' = w := by
  have H1 := hid (shape15 s w hs)
  have H2 := hid (shape15 t w ht)
  have H3 := hid (ends17 s t w (by omega))
  cases he : ends s t <;> rw [he] at H3
  · cases h1 : lett s 256 <;> cases h2 : lett t 256 <;> rw [h1] at H1 <;> rw [h2] at H2
    all_goals
      go_enter Try.func9, Try.ntmps9
      go_wp2_with fail
      refine H1.out.mono ?_
      rintro e w1 ⟨rfl, rfl⟩
      go_wp2_with fail
      try (refine H2.out.mono ?_; rintro e w2 ⟨rfl, rfl⟩; go_wp2_with fail)
      try (refine H3.out.mono ?_; rintro e w2 ⟨rfl, rfl⟩; go_wp2_with fail)
      go_ret2
      exact ⟨by simp [popV, popE, shp, h1, h2, he], rfl⟩
  · have hlo := sub_wrap (ends_le he) (by omega)
    cases h1 : lett s 256 <;> cases h2 : lett t 256 <;> rw [h1] at H1 <;> rw [h2] at H2
    all_goals
      have hle := hid (ends_le he)
      go_enter Try.func9, Try.ntmps9
      go_wp2_with fail
      refine H1.out.mono ?_
      rintro e w1 ⟨rfl, rfl⟩
      go_wp2_with fail
      try (refine H2.out.mono ?_; rintro e w2 ⟨rfl, rfl⟩; go_wp2_with fail)
      try (refine H3.out.mono ?_; rintro e w2 ⟨rfl, rfl⟩; have hle' := hle.out; go_wp2_with fail)
      go_ret2
      exact ⟨by simp [popV, popE, shp, h1, h2, he, below], rfl⟩

end Go.Proofs.Ytngcidcfmolahaa

/-
  The walk over ShapeBack.
-/
import Derived.Test.YtngcidcfmolahaaWorks
namespace Go.Proofs.Ytngcidcfmolahaa
open Go.RowKit
set_option linter.unusedVariables false

theorem back4_big (s t : ByteArray) (f : Int) (w : World) (hbig : 1048576 < s.size + t.size) (gs : s.size ≤ 140737488355328) (gt : t.size ≤ 140737488355328) :
    Calls Try.prog 4 #[.string s, .string t, .int .i64 f] w fun e w' => e = .returned (.bool true) ∧ Below w.heap.size w w' := by
  have H1 := hid (works5 w)
  have hbig' : (1048576 : Int) < (s.size : Int) + (t.size : Int) := by omega
  go_enter Try.func4, Try.ntmps4
  go_wp2_with fail
  refine H1.out.mono ?_
  rintro e w1 ⟨rfl, b1⟩
  go_wp2
  go_ret
  exact ⟨rfl, b1⟩

/-! ### What follows, of the plain functions -/
theorem ends_iff (s t : ByteArray) : ends s t = true ↔ ∃ l, s.data.toList = l ++ t.data.toList := by
  simp only [ends, Bool.and_eq_true, decide_eq_true_eq, beq_iff_eq, ba_toList, ext_list]
  rw [ba_size, ba_size]
  constructor
  · rintro ⟨h1, h2⟩
    refine ⟨s.data.toList.take (s.data.toList.length - t.data.toList.length), ?_⟩
    rw [List.take_of_length_le (by rw [List.length_drop]; omega)] at h2
    have := (List.take_append_drop (s.data.toList.length - t.data.toList.length) s.data.toList).symm
    rw [h2] at this
    exact this
  · rintro ⟨l, h⟩
    rw [h]
    simp
    rw [ba_size, List.take_length]

theorem ends_app (s t : ByteArray) : ends (s ++ t) t = true := (ends_iff _ _).2 ⟨s.data.toList, ba_app s t⟩
theorem app_size (s t : ByteArray) : (s ++ t).size = s.size + t.size := by
  rw [ba_size, ba_app, List.length_append, ← ba_size, ← ba_size]
theorem below_app (s t : ByteArray) : below (s ++ t) t = s := by
  apply ba_ext
  rw [below, ext_list, ba_app, app_size, ba_size s, ba_size t]
  simp
theorem app_below {s t : ByteArray} (h : ends s t = true) : below s t ++ t = s := by
  obtain ⟨l, hl⟩ := (ends_iff s t).1 h
  apply ba_ext
  rw [ba_app, below, ext_list, hl, ba_size s, ba_size t, hl]
  simp
theorem app_ext (s t : ByteArray) (n : Nat) (h : n ≤ s.size) : (s ++ t).extract 0 n = s.extract 0 n := by
  apply ba_ext
  rw [ext_list, ext_list, ba_app]
  rw [ba_size] at h
  simp [List.take_append_of_le_length h]
theorem ext_all (s : ByteArray) : s.extract 0 s.size = s := by
  apply ba_ext
  rw [ext_list, ba_size, List.drop_zero, Nat.sub_zero, List.take_length]
theorem ext_size {s : ByteArray} {n : Nat} (h : n ≤ s.size) : (s.extract 0 n).size = n := by
  rw [ba_size, ext_list]; rw [ba_size] at h; rw [List.length_take, List.length_drop]; omega

theorem lett_mem (s : ByteArray) (most : Nat) : lett s most = true ↔ (∀ c ∈ s.data.toList, c = 119 ∨ c = 108) ∧ s.size ≤ most := by
  rw [lett_iff]
  constructor
  · intro ⟨h, hm⟩
    refine ⟨fun c hc => ?_, hm⟩
    obtain ⟨i, hi, rfl⟩ := List.getElem_of_mem hc
    have := h i (by rw [ba_size]; exact hi)
    rw [byteI, List.getElem?_eq_getElem hi, Option.getD_some] at this
    simp only [isL, Bool.or_eq_true, decide_eq_true_eq] at this
    rcases this with h | h
    · left; apply UInt8.toNat_inj.1; exact Int.ofNat_inj.1 h
    · right; apply UInt8.toNat_inj.1; exact Int.ofNat_inj.1 h
  · intro ⟨h, hm⟩
    refine ⟨fun i hi => ?_, hm⟩
    rw [ba_size] at hi
    rw [byteI, List.getElem?_eq_getElem hi, Option.getD_some]
    rcases h _ (List.getElem_mem hi) with h | h <;> rw [h] <;> rfl

theorem shp_app {s t : ByteArray} (h : shp s t = true) (hn : s.size + t.size ≤ 256) : shp (s ++ t) t = true := by
  simp only [shp, Bool.and_eq_true, lett_mem] at h ⊢
  refine ⟨⟨fun c hc => ?_, by rw [app_size]; exact hn⟩, h.2⟩
  rw [ba_app, List.mem_append] at hc
  exact hc.elim (h.1.1 c) (h.2.1 c)

theorem shp_ext {s t : ByteArray} (n : Nat) (h : shp s t = true) : shp (s.extract 0 n) t = true := by
  simp only [shp, Bool.and_eq_true, lett_mem] at h ⊢
  refine ⟨⟨fun c hc => ?_, ?_⟩, h.2⟩
  · rw [ext_list] at hc
    exact h.1.1 c (List.mem_of_mem_drop (List.mem_of_mem_take hc))
  · have := h.1.2
    rw [ba_size] at this ⊢
    rw [ext_list]
    simp
    omega

/-- What is pushed is popped again, is on top, and is kept. -/
theorem push_back {s t : ByteArray} (h : pushE s t = 0) : pushV s t = s ++ t ∧ popE (s ++ t) t = 0 ∧ popV (s ++ t) t = s ∧ topB (s ++ t) t = true ∧ keepE (s ++ t) s.size t = 0 ∧ keepV (s ++ t) s.size t = s ++ t := by
  have hV : pushV s t = s ++ t := by simp [pushV, h]
  unfold pushE at h
  split at h
  · rename_i hh
    split at h
    · cases h
    · rename_i hn
      have hh' := shp_app hh (by omega)
      have he := ends_app s t
      have hp : popE (s ++ t) t = 0 := by simp [popE, hh', he]
      have hk : keepE (s ++ t) s.size t = 0 := by
        simp only [keepE, hh', he, if_true]; rw [if_pos ⟨trivial, by omega, by rw [app_size]; omega⟩]
      refine ⟨hV, hp, by rw [popV, if_pos hp, below_app], by simp [topB, hh', he], hk, ?_⟩
      rw [keepV, if_pos hk, Int.toNat_natCast, app_ext _ _ _ (Nat.le_refl _), ext_all]
  · cases h

/-- What is popped is pushed again. -/
theorem pop_back {s t : ByteArray} (h : popE s t = 0) : pushE (popV s t) t = 0 ∧ pushV (popV s t) t = s := by
  have hV : popV s t = below s t := by simp [popV, h]
  unfold popE at h
  split at h
  · rename_i hh
    split at h
    · rename_i he
      have hle := ends_le he
      have hh' : shp (below s t) t = true := shp_ext _ hh
      have h256 : s.size ≤ 256 := by simp only [shp, Bool.and_eq_true, lett_iff] at hh; exact hh.1.2
      have hE : pushE (below s t) t = 0 := by
        simp only [pushE, hh', if_true]; rw [if_neg (by rw [below_size]; omega)]
      rw [hV]
      exact ⟨hE, by rw [pushV, if_pos hE, app_below he]⟩
    · cases h
  · cases h

/-- What is kept stays kept. -/
theorem keep_back {s t : ByteArray} {f : Int} (h : keepE s f t = 0) : ∃ n : Nat, f = n ∧ keepE (keepV s f t) f t = 0 ∧ keepV (keepV s f t) f t = keepV s f t ∧ topB (keepV s f t) t = true ∧ (keepV s f t).size = n + t.size ∧ (keepV s f t).size ≤ s.size := by
  have hV : keepV s f t = s.extract 0 f.toNat ++ t := by simp [keepV, h]
  unfold keepE at h
  split at h
  · rename_i hh
    split at h
    · rename_i hc
      obtain ⟨he, h0, h1⟩ := hc
      obtain ⟨n, rfl⟩ : ∃ n : Nat, f = n := ⟨f.toNat, by omega⟩
      have hle := ends_le he
      have hn : n ≤ s.size := by omega
      have h256 : s.size ≤ 256 := by simp only [shp, Bool.and_eq_true, lett_iff] at hh; exact hh.1.2
      rw [Int.toNat_natCast] at hV
      have hz := ext_size hn
      have hsz : (s.extract 0 n ++ t).size = n + t.size := by rw [app_size, hz]
      have hh' := shp_app (shp_ext n hh) (by rw [hz]; omega)
      have he' := ends_app (s.extract 0 n) t
      have hE : keepE (s.extract 0 n ++ t) n t = 0 := by
        simp only [keepE, hh', he', if_true]; rw [if_pos ⟨trivial, by omega, by rw [hsz]; omega⟩]
      rw [hV]
      refine ⟨n, rfl, hE, ?_, by simp [topB, hh', he'], hsz, by omega⟩
      rw [keepV, if_pos hE, Int.toNat_natCast, app_ext _ _ _ (by rw [hz]; exact Nat.le_refl _)]
      have := ext_all (s.extract 0 n)
      rw [hz] at this
      rw [this]
    · cases h
  · cases h

end Go.Proofs.Ytngcidcfmolahaa

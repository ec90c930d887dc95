/-
  A text cut at its blanks: the pieces, and how they come off it one by one.
-/
import Derived.Lib.Bytealg
namespace Go.Proofs.YtgljlclnmnfocaaDoor

/-- The pieces between blanks. -/
def pieces : List UInt8 → List (List UInt8)
  | [] => [[]]
  | b :: l => if b == 32 then [] :: pieces l else match pieces l with
    | [] => [[b]]
    | p :: r => (b :: p) :: r

theorem pieces_ne : ∀ l, pieces l ≠ []
  | [] => by simp [pieces]
  | b :: l => by
    unfold pieces
    split
    · simp
    · split <;> simp

theorem idx_range : ∀ (l : List UInt8), Lib.indexByte l 32 = -1 ∨ (0 ≤ Lib.indexByte l 32 ∧ Lib.indexByte l 32 < l.length)
  | [] => .inl rfl
  | b :: l => by
    have := idx_range l
    unfold Lib.indexByte
    split
    · right; simp
    · split
      · exact .inl rfl
      · rename_i h
        simp at h
        right; simp; omega

theorem pieces_none : ∀ (l : List UInt8), Lib.indexByte l 32 = -1 → pieces l = [l]
  | [], _ => rfl
  | b :: l, h => by
    have hr := idx_range l
    unfold Lib.indexByte at h
    split at h
    · simp at h
    · rename_i hb
      split at h
      · rename_i hi
        have := pieces_none l (by simpa using hi)
        unfold pieces
        rw [if_neg hb, this]
      · rename_i hi
        simp at hi
        omega

theorem pieces_some : ∀ (l : List UInt8) (k : Nat), Lib.indexByte l 32 = k → pieces l = l.take k :: pieces (l.drop (k + 1))
  | [], k, h => by simp [Lib.indexByte] at h
  | b :: l, k, h => by
    have hr := idx_range l
    unfold Lib.indexByte at h
    split at h
    · rename_i hb
      obtain rfl : k = 0 := by omega
      rw [pieces, if_pos hb]
      simp
    · rename_i hb
      split at h
      · omega
      · rename_i hi
        simp at hi
        obtain ⟨m, rfl⟩ : ∃ m, k = m + 1 := ⟨k - 1, by omega⟩
        have := pieces_some l m (by omega)
        rw [pieces, if_neg hb, this]
        simp

/-- The pieces of a text, as texts. -/
def bpieces (s : ByteArray) : List ByteArray := (pieces s.data.toList).map fun l => ⟨l.toArray⟩

theorem ba_ext {a b : ByteArray} (h : a.data.toList = b.data.toList) : a = b := by
  cases a; cases b; congr; exact Array.toList_inj.1 h
theorem ba_size (a : ByteArray) : a.size = a.data.toList.length := Array.length_toList.symm
theorem ba_app (a b : ByteArray) : (a ++ b).data.toList = a.data.toList ++ b.data.toList := by simp [ByteArray.data_append]
theorem ba_take (s : ByteArray) (k : Nat) : s.extract 0 k = ⟨(s.data.toList.take k).toArray⟩ := by
  apply ba_ext; simp [ByteArray.data_extract, Array.toList_extract]
theorem ba_drop (s : ByteArray) (k : Nat) : s.extract k s.size = ⟨(s.data.toList.drop k).toArray⟩ := by
  apply ba_ext
  simp [ByteArray.data_extract, Array.toList_extract]
  rw [List.take_of_length_le]
  have := ba_size s
  simp only [List.length_drop]
  omega
theorem bpieces_none (s : ByteArray) (h : Lib.indexByte s.data.toList 32 = -1) : bpieces s = [s] := by
  simp [bpieces, pieces_none _ h]
theorem bpieces_some (s : ByteArray) (k : Nat) (h : Lib.indexByte s.data.toList 32 = k) : bpieces s = s.extract 0 k :: bpieces (s.extract (k + 1) s.size) := by
  rw [ba_take, ba_drop]
  simp [bpieces, pieces_some _ k h]
theorem pieces_size : ∀ (l : List UInt8) (p : List UInt8), p ∈ pieces l → p.length ≤ l.length
  | [], p, h => by simp [pieces] at h; simp [h]
  | b :: l, p, h => by
    have ih := pieces_size l
    unfold pieces at h
    split at h
    · simp only [List.mem_cons] at h
      rcases h with rfl | h
      · simp
      · have := ih p h; simp; omega
    · split at h
      · simp at h; simp [h]
      · rename_i q r hq
        simp only [List.mem_cons] at h
        rcases h with rfl | h
        · have := ih q (by rw [hq]; simp); simp; omega
        · have := ih p (by rw [hq]; simp [h]); simp; omega
theorem bpieces_size (s p : ByteArray) (h : p ∈ bpieces s) : p.size ≤ s.size := by
  unfold bpieces at h
  obtain ⟨l, hl, rfl⟩ := List.mem_map.1 h
  have := pieces_size _ _ hl
  rw [ba_size, ba_size]
  simpa using this
end Go.Proofs.YtgljlclnmnfocaaDoor

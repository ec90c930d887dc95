/-
  The walks over All and Zero.
-/
import Derived.Test.YtdlpbldpddobcaaDoorRead
import Derived.Laws.AppendOwnNone
namespace Go.Proofs.YtdlpbldpddobcaaDoor
open Go.RowKit
set_option linter.unusedVariables false

/-- A slice of words: its elements are 'zs'. -/
def SegW (w : World) (a : Option Addr) (n cap : Nat) (zs : List Int) : Prop :=
  zs.length = n ∧ n ≤ cap ∧ n ≤ 1099511627776 ∧ (∀ z ∈ zs, 0 ≤ z ∧ z < 18446744073709551616) ∧
  (n = 0 ∨ ∃ b off, a = some ⟨b, off, none⟩ ∧ ∀ j, j < n → w.cell? ⟨b, off + j, none⟩ = some (.int .u64 (zs.getD j 0)))

theorem SegW.later {w w' : World} {a : Option Addr} {n cap B : Nat} {zs : List Int} (h : SegW w a n cap zs) (hb : Below B w w') (hB : w.heap.size ≤ B) : SegW w' a n cap zs := by
  obtain ⟨h1, h2, h3, h4, h5⟩ := h
  refine ⟨h1, h2, h3, h4, ?_⟩
  rcases h5 with h5 | ⟨b, off, rfl, hc⟩
  · exact .inl h5
  · refine .inr ⟨b, off, rfl, fun j hj => ?_⟩
    have := block_lt_of_cell (hc j hj)
    rw [hb.cell (p := ⟨b, off + j, none⟩) (by simp at this ⊢; omega)]
    exact hc j hj

/-- Do the values fit the shape? -/
def allB (zs : List Int) (s : ByteArray) : Bool := decide (zs.length = s.size) && (List.range s.size).all (fun i => fitsB (zs.getD i 0) (byteI s i))
theorem allB_iff (zs : List Int) (s : ByteArray) : allB zs s = true ↔ zs.length = s.size ∧ ∀ i, i < s.size → fitsB (zs.getD i 0) (byteI s i) = true := by
  simp [allB]
theorem fits_isL {v c : Int} (h : fitsB v c = true) : isL c = true := by
  simp only [fitsB, isL, Bool.or_eq_true, Bool.and_eq_true, decide_eq_true_eq] at *
  rcases h with h | h
  · exact .inr h
  · exact .inl h.1

/-- The closure of All. -/
theorem ask21 (k : Nat) (c : Int) (B : Nat) (a : Option Addr) (n cap : Nat) (zs : List Int) (w : World) (hm : w.cell? ⟨B, 0, none⟩ = some (.slice a n cap)) (hs : SegW w a n cap zs) (hk : k < n) :
    Calls Tryd.prog 28 #[.int .i64 k, .int .u8 c, .pointer (some ⟨B, 0, none⟩)] w fun e w' => e = .returned (.bool (fitsB (zs.getD k 0) c)) ∧ w' = w := by
  obtain ⟨h1, h2, h3, h4, h5⟩ := hs
  rcases h5 with h5 | ⟨b, off, rfl, hc⟩
  · omega
  have hcell := hc k hk
  have hk' : (k : Int) < n := by omega
  clear hc h4
  go_enter Tryd.func28, Tryd.ntmps28
  go_wp2_with fail
  refine (fits13 _ _ _).mono ?_
  rintro e w1 ⟨rfl, rfl⟩
  go_wp2
  go_ret
  have hkl : k < zs.length := by omega
  exact ⟨by simp [hkl], rfl⟩

/-- types.All. -/
theorem all10 (a : Option Addr) (n cap : Nat) (zs : List Int) (s : ByteArray) (w : World) (h : SegW w a n cap zs) (hs : s.size ≤ 1073741824) :
    Calls Tryd.prog 12 #[.slice a n cap, .string s] w fun e w' => e = .returned (.bool (allB zs s)) ∧ Below w.heap.size w w' := by
  have hmf : ∀ (fn : Fn) (first cap : Array Value) (w : World), (Instr.makeFunc fn first cap).run Tryd.prog w = .ok (.func fn first cap) w := fun _ _ _ _ => rfl
  have hb0 : Below w.heap.size w (w.alloc (.cells #[.slice a n cap] 24)) := (Below.refl _ _).alloc (Nat.le_refl _) _
  have hn : n ≤ 1099511627776 := h.2.2.1
  by_cases hne : n = s.size
  · have hne' : (n : Int) = s.size := by omega
    have HE := hid (each20 s 28 w.heap.size (fun i => fitsB (zs.getD i 0) (byteI s i)) (w.alloc (.cells #[.slice a n cap] 24)) hs (fun _ _ => by rfl) (fun pos i hi _ => by
      rw [byteI_at s i hi]
      have hbi : Below (w.heap.size + 1) (w.alloc (.cells #[.slice a n cap] 24)) ((w.alloc (.cells #[.slice a n cap] 24)).iter s pos) := (Below.refl _ _).alloc (by simp) _
      refine ask21 i _ w.heap.size a n cap zs _ ?_ ((h.later hb0 (Nat.le_refl _)).later hbi (by simp)) (by omega)
      rw [hbi.cell (by simp), World.cell?_alloc_at _ _ _ _ rfl]; rfl))
    have HL := hid h.1
    clear h
    subst hne
    go_enter Tryd.func12, Tryd.ntmps12
    go_wp2_with fail
    refine HE.out.mono ?_
    rintro e w1 ⟨b, pos, rfl, hb, rfl⟩
    have hbl : b = allB zs s := by
      rw [Bool.eq_iff_iff, hb, allB_iff]
      exact ⟨fun h => ⟨HL.out, fun i hi => (h i hi).2⟩, fun h i hi => ⟨fits_isL (h.2 i hi), h.2 i hi⟩⟩
    subst hbl
    go_wp2
    go_ret
    exact ⟨rfl, hb0.alloc (by simp) _⟩
  · have hne' : ((n : Int) == (s.size : Int)) = false := by simpa using fun h : (n : Int) = s.size => hne (by omega)
    have hf : allB zs s = false := by
      rw [← Bool.not_eq_true, allB_iff, h.1]; exact fun h' => hne h'.1
    clear h
    go_enter Tryd.func12, Tryd.ntmps12
    go_wp2
    all_goals go_ret
    all_goals exact ⟨by rw [hf]; rfl, hb0⟩

theorem Tryd.info32 : (Tryd.prog.info? 32).map (fun i => (i.zero, i.size, i.bytes)) = some (some (.int .u64 0), 1, 8) := by kernel_rfl

/-- types.Zero of letters. -/
theorem zero12 (s : ByteArray) (w : World) (hs : s.size ≤ 1073741824) (hl : lett s s.size = true) :
    Calls Tryd.prog 16 #[.string s] w fun e w' => ∃ B, e = .returned (.slice (some ⟨B, 0, none⟩) s.size s.size) ∧ w.heap.size ≤ B ∧
      w'.ownsRow w.heap.size 32 1 (.slice (some ⟨B, 0, none⟩) s.size s.size) s.size ((List.replicate s.size 0).map (Value.int .u64)) ∧ Below w.heap.size w w' := by
  obtain ⟨i0, hi, hz0, hz1, hz2⟩ := info_parts Tryd.info32
  have hb2 : i0.bytes * s.size ≤ 281474976710656 := by rw [hz2]; omega
  have hml : s.size ≤ maxLen := by unfold maxLen; omega
  have HE := hid (letters22 s s.size w hs hs)
  go_enter Tryd.func16, Tryd.ntmps16
  go_wp2_with fail
  refine HE.out.mono ?_
  rintro e w1 ⟨rfl, hb1⟩
  rw [hl]
  have hsz := hb1.size
  go_wp2_with (first | (at_make; refine wpList_make_full _ rfl _ _ 24 rfl w.heap.size 32 i0 (.int .u64 0) 1 Tryd.underlying24 hi hz0 hz1 .i64 .i64 _ _ s.size rfl rfl rfl rfl hb2 hml hsz ?_; intro w2 hown hgrow))
  have hown0 : w2.ownsRow w.heap.size 32 1 (.slice (some ⟨w1.heap.size, 0, none⟩) s.size s.size) s.size ((List.replicate s.size 0).map (Value.int .u64)) := by
    have e : (madeCells (Value.int .u64 0).cells (s.size * 1)).toList = (List.replicate s.size 0).map (Value.int .u64) := by
      rw [Nat.mul_one]; exact (toList_madeCells_one _ _).trans (by simp)
    rw [← e]; exact hown
  have hbel : Below w.heap.size w w2 := hb1.grown hgrow hsz (by simp)
  clear hown hgrow hi hz0 hz1 hz2 hb2 hml
  go_wp2
  go_ret
  exact ⟨_, rfl, hsz, hown0, hbel⟩

/-- types.Zero of another text. -/
theorem zero12_none (s : ByteArray) (w : World) (hs : s.size ≤ 1073741824) (hl : lett s s.size = false) :
    Calls Tryd.prog 16 #[.string s] w fun e w' => e = .returned (.slice none 0 0) ∧ Below w.heap.size w w' := by
  have HE := hid (letters22 s s.size w hs hs)
  go_enter Tryd.func16, Tryd.ntmps16
  go_wp2_with fail
  refine HE.out.mono ?_
  rintro e w1 ⟨rfl, hb1⟩
  rw [hl]
  go_wp2
  go_ret
  exact ⟨rfl, hb1⟩
end Go.Proofs.YtdlpbldpddobcaaDoor

/-
  slices.Sort and slices.Compact of a list of numbers of the call's own; what both leave, plainly.
-/
import Derived.Test.YtfcklkmfdjjfoaaShelf
import Derived.Test.YtfcklkmfdjjfoaaList
import Derived.Sort.OwnSortedInts
namespace Go.Proofs.Ytfcklkmfdjjfoaa
open Go.RowKit Go.Sort
set_option linter.unusedVariables false

/-- What the rows hold behind a writing of ts over the first places. -/
theorem put_own {w : World} {base g cap n q k : Nat} {os : Array Obj} {l ts : List Int} (h : LI w base (.slice (some ⟨g, 0, none⟩) n cap) l) (hts : ts.length = l.length) (hk : k ≤ ts.length) :
    LI (grow (putRow (Value.int .i64) (Sort.ahead w q) g 0 ts.toArray) os) base (.slice (some ⟨g, 0, none⟩) k cap) (ts.take k) ∧ Below base w (grow (putRow (Value.int .i64) (Sort.ahead w q) g 0 ts.toArray) os) := by
  rcases h.2 with ⟨h0, _⟩ | ⟨g', cap', cur, h1, hg, hb, hn, hm, hs, ht⟩
  · cases h0
  injection h1 with e1 e2 e3
  injection e1 with e1
  injection e1 with e1
  subst e1 e3
  have hl : ts.length ≤ cur.size := by rw [Nat.mul_one] at hs; omega
  have hlen : (ts.take k).length = k := by simp; omega
  have hgl : g < w.heap.size := (Array.getElem?_eq_some_iff.1 hb).1
  constructor
  · unfold LI
    rw [hlen]
    refine ⟨by simp; omega, .inr ⟨g, cap, _, rfl, hg, heap_sortedI ts.toArray hb, by omega, hm, by simp [putCells, hs], ?_⟩⟩
    have := take_putCellsI cur ts hl
    rw [Nat.mul_one, List.map_take, ← this, List.take_take, Nat.min_eq_left hk]
  · have hgr := grownBy_sortedI (w := w) (g := g) (n := q) (os := os) ts.toArray
    have hbs : base ≤ w.heap.size := by omega
    exact (Kept.of_grown hgr).to_below hbs (fun k hk e => by injection e with e; omega)

theorem holds_own {w : World} {base g cap n : Nat} {l : List Int} (h : LI w base (.slice (some ⟨g, 0, none⟩) n cap) l) : Holds (Value.int .i64) w g 0 l.toArray ∧ g < w.heap.size ∧ l.length ≤ cap := by
  rcases h.2 with ⟨h0, _⟩ | ⟨g', cap', cur, h1, hg, hb, hn, hm, hs, ht⟩
  · cases h0
  injection h1 with e1 e2 e3
  injection e1 with e1
  injection e1 with e1
  subst e1 e3
  rw [Nat.mul_one] at ht
  exact ⟨holds_of_blockI hb ht, (Array.getElem?_eq_some_iff.1 hb).1, hn⟩

/-- The numbers, rising. -/
def srt (l : List Int) : List Int := l.mergeSort fun x y => decide (x ≤ y)

theorem sortC (base : Nat) (v : Value) (l : List Int) (w : World) (h : LI w base v l) (hl : l.length ≤ 1073741824) :
    Calls Try.prog 23 #[v] w fun e w' => e = .returned (.tuple #[]) ∧ LI w' base v (srt l) ∧ (base ≤ w.heap.size → Below base w w') := by
  obtain ⟨a, c, rfl⟩ := h.slice
  by_cases h0 : l = []
  · subst h0
    exact (Try.slices_Sort_int_none a c w).mono fun e w' ⟨he, hw⟩ => ⟨he, by rw [hw, show srt [] = [] by simp [srt]]; exact h, fun _ => by rw [hw]; exact Below.refl _ _⟩
  · obtain ⟨_, hc⟩ := h.cell
    rcases hc with hc | ⟨g, rfl, _⟩
    · exact absurd (List.length_eq_zero_iff.1 hc) h0
    obtain ⟨hH, hg, hcap⟩ := holds_own h
    refine (Try.slices_Sort_int g 0 c l w hH hg (by omega)).mono fun e w' ⟨he, n, os, hw⟩ => ?_
    have := put_own (q := n) (os := os) (k := l.length) (ts := srt l) h (by simp [srt]) (by simp [srt])
    rw [List.take_of_length_le (by simp [srt])] at this
    subst hw
    exact ⟨he, this.1, fun _ => this.2⟩

theorem compactC (base : Nat) (v : Value) (l : List Int) (w : World) (h : LI w base v l) (hl : l.length ≤ 1073741824) :
    Calls Try.prog 24 #[v] w fun e w' => ∃ v', e = .returned v' ∧ LI w' base v' (Lib.compact l) ∧ (base ≤ w.heap.size → Below base w w') := by
  obtain ⟨a, c, rfl⟩ := h.slice
  by_cases h0 : l = []
  · subst h0
    exact (Try.slices_Compact_int_empty a c w).mono fun e w' ⟨he, hw⟩ => ⟨_, he, by rw [hw]; exact h, fun _ => by rw [hw]; exact Below.refl _ _⟩
  · obtain ⟨_, hc⟩ := h.cell
    rcases hc with hc | ⟨g, rfl, _⟩
    · exact absurd (List.length_eq_zero_iff.1 hc) h0
    obtain ⟨hH, hg, hcap⟩ := holds_own h
    refine (Try.slices_Compact_int g 0 c l w hH (by omega) hcap).mono fun e w' ⟨he, q, hw⟩ => ?_
    have hle := Lib.compact_length_le l
    have := put_own (q := q) (os := #[]) (k := (Lib.compact l).length) (ts := Lib.compact l ++ List.replicate (l.length - (Lib.compact l).length) 0) h (by simp; omega) (by simp)
    rw [List.take_left, grow_empty] at this
    subst hw
    exact ⟨_, he, this.1, fun _ => this.2⟩

theorem compact_upto {d : Array Int} (hd : ∀ i j, i < j → j < d.size → d[i]! ≤ d[j]!) : ∀ m, m ≤ d.size →
    (Lib.compactUpTo d m).Pairwise (· < ·) ∧ (∀ x ∈ Lib.compactUpTo d m, x ≤ d[m - 1]!) ∧ (∀ x, x ∈ Lib.compactUpTo d m ↔ ∃ j, j < m ∧ x = d[j]!)
  | 0, _ => by simp [Lib.compactUpTo]
  | m + 1, hm => by
    obtain ⟨h1, h2, h3⟩ := compact_upto hd m (by omega)
    rw [Lib.compactUpTo_succ]
    by_cases hk : Lib.keeps d m = true
    · rw [if_pos hk]
      have hlt : ∀ x ∈ Lib.compactUpTo d m, x < d[m]! := fun x hx => by
        obtain ⟨j, hj, rfl⟩ := (h3 x).1 hx
        have a1 := h2 _ hx
        have hm0 : m ≠ 0 := by omega
        simp only [Lib.keeps, decide_eq_true_eq] at hk
        have hne : d[m]! ≠ d[m - 1]! := hk.resolve_left hm0
        have a2 := hd (m - 1) m (by omega) (by omega)
        omega
      refine ⟨List.pairwise_append.2 ⟨h1, by simp, fun x hx y hy => by simp at hy; subst hy; exact hlt x hx⟩, fun x hx => ?_, fun x => ?_⟩
      · rw [Nat.add_sub_cancel]
        rcases List.mem_append.1 hx with hx | hx
        · exact Int.le_of_lt (hlt x hx)
        · simp at hx; omega
      · rw [List.mem_append, h3]
        constructor
        · rintro (⟨j, hj, rfl⟩ | hx)
          · exact ⟨j, by omega, rfl⟩
          · simp at hx; exact ⟨m, by omega, hx⟩
        · rintro ⟨j, hj, rfl⟩
          by_cases e : j = m
          · subst e; right; simp
          · left; exact ⟨j, by omega, rfl⟩
    · rw [if_neg hk, List.append_nil]
      have hk' : ¬ (m = 0 ∨ d[m]! ≠ d[m - 1]!) := fun x => hk (by simp only [Lib.keeps, decide_eq_true_eq]; exact x)
      have hm0 : m ≠ 0 := fun e => hk' (.inl e)
      have he : d[m]! = d[m - 1]! := Decidable.byContradiction fun e => hk' (.inr e)
      refine ⟨h1, fun x hx => by rw [Nat.add_sub_cancel, he]; exact h2 x hx, fun x => ?_⟩
      rw [h3]
      constructor
      · rintro ⟨j, hj, rfl⟩; exact ⟨j, by omega, rfl⟩
      · rintro ⟨j, hj, rfl⟩
        by_cases e : j = m
        · subst e; exact ⟨j - 1, by omega, he⟩
        · exact ⟨j, by omega, rfl⟩

/-- Each once, rising. -/
def nub (l : List Int) : List Int := Lib.compact (srt l)

theorem srt_pairwise (l : List Int) : (srt l).Pairwise (· ≤ ·) := by
  have := List.pairwise_mergeSort (le := fun x y : Int => decide (x ≤ y)) (by simp; omega) (by simp; omega) l
  unfold srt
  simpa using this
theorem nub_facts (l : List Int) : (nub l).Pairwise (· < ·) ∧ ∀ x, x ∈ nub l ↔ x ∈ l := by
  have hp := srt_pairwise l
  have hd : ∀ i j, i < j → j < (srt l).toArray.size → (srt l).toArray[i]! ≤ (srt l).toArray[j]! := fun i j hij hj => by
    have hj' : j < (srt l).length := by simpa using hj
    have := List.pairwise_iff_getElem.1 hp i j (by omega) hj' hij
    rw [getElem!_pos _ i (by simp; omega), getElem!_pos _ j (by simpa using hj')]
    simpa using this
  obtain ⟨h1, _, h3⟩ := compact_upto hd (srt l).length (by simp)
  refine ⟨h1, fun x => ?_⟩
  have hm : x ∈ srt l ↔ x ∈ l := by unfold srt; exact List.mem_mergeSort
  rw [← hm]
  refine (h3 x).trans ?_
  constructor
  · rintro ⟨j, hj, rfl⟩
    rw [getElem!_pos _ j (by simpa using hj)]
    simp
  · intro hx
    obtain ⟨j, hj, e⟩ := List.getElem_of_mem hx
    exact ⟨j, hj, by rw [getElem!_pos _ j (by simpa using hj)]; simpa using e.symm⟩

theorem lt_ext : ∀ {a b : List Int}, a.Pairwise (· < ·) → b.Pairwise (· < ·) → (∀ x, x ∈ a ↔ x ∈ b) → a = b
  | [], [], _, _, _ => rfl
  | [], y :: b, _, _, h => by have := (h y).2 (by simp); cases this
  | x :: a, [], _, _, h => by have := (h x).1 (by simp); cases this
  | x :: a, y :: b, ha, hb, h => by
    obtain ⟨ha1, ha2⟩ := List.pairwise_cons.1 ha
    obtain ⟨hb1, hb2⟩ := List.pairwise_cons.1 hb
    have e : x = y := by
      rcases List.mem_cons.1 ((h x).1 (by simp)) with e | e
      · exact e
      · rcases List.mem_cons.1 ((h y).2 (by simp)) with e' | e'
        · exact e'.symm
        · have := ha1 y e'; have := hb1 x e; omega
    subst e
    congr 1
    refine lt_ext ha2 hb2 fun z => ⟨fun hz => ?_, fun hz => ?_⟩
    · rcases List.mem_cons.1 ((h z).1 (by simp [hz])) with e | e
      · have := ha1 z hz; omega
      · exact e
    · rcases List.mem_cons.1 ((h z).2 (by simp [hz])) with e | e
      · have := hb1 z hz; omega
      · exact e
theorem nub_len (l : List Int) : (nub l).length ≤ l.length := Nat.le_trans (Lib.compact_length_le _) (by simp [srt])
end Go.Proofs.Ytfcklkmfdjjfoaa

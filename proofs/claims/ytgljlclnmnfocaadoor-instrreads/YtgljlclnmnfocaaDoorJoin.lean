/-
  The walk over wire.join: the parts one behind the other, in new memory.
-/
import Derived.Test.YtgljlclnmnfocaaDoorEq
namespace Go.Proofs.YtgljlclnmnfocaaDoor
open Go.RowKit
set_option linter.unusedVariables false

/-- The first k parts one behind the other. -/
def cat (Z : Nat → List Int) : Nat → List Int
  | 0 => []
  | k + 1 => cat Z k ++ Z k

theorem cat_mono (Z : Nat → List Int) (k m : Nat) (h : k ≤ m) : (cat Z k).length ≤ (cat Z m).length := by
  induction m with
  | zero => obtain rfl : k = 0 := by omega
            omega
  | succ m ih =>
    by_cases e : k = m + 1
    · subst e; omega
    · have := ih (by omega); simp only [cat, List.length_append]; omega

theorem ints_one (l : List Int) : ∀ u ∈ l.map (Value.int .u8), u.oneCell' = true := by
  intro u hu
  obtain ⟨z, _, rfl⟩ := List.mem_map.1 hu
  rfl

/-- What is appended lies where the law looks. -/
theorem seg_cells {w : World} {a : Option Addr} {n cap : Nat} {zs : List Int} (h : Seg w a n cap zs) :
    ∀ ad, a = some ad → ∀ (j : Nat) (u : Value), (zs.map (Value.int .u8))[j]? = some u → w.cell? (ad.add j) = some u := by
  intro ad had j u hu
  obtain ⟨hz, _, _, _, ha⟩ := h
  have hj : j < zs.length := by
    rcases Nat.lt_or_ge j zs.length with h | h
    · exact h
    · simp [List.getElem?_eq_none (show (zs.map (Value.int .u8)).length ≤ j by simpa using h)] at hu
  rcases ha with ha | ⟨b, off, e, hc⟩
  · omega
  · rw [had] at e
    simp at e
    subst e
    have := hc j (by omega)
    have hplain : (⟨b, off, none⟩ : Addr).add j = ⟨b, off + j, none⟩ := by unfold Addr.add; split <;> simp_all
    rw [hplain, this]
    simp [List.getElem?_eq_getElem hj] at hu
    subst hu
    simp [List.getD, List.getElem?_eq_getElem hj]

/-- A slice that lies below is not touched. -/
theorem Seg.later {w w' : World} {a : Option Addr} {n cap : Nat} {zs : List Int} {B : Nat} (h : Seg w a n cap zs) (hb : Below B w w') (hB : w.heap.size ≤ B) : Seg w' a n cap zs := by
  obtain ⟨hz, h1, h2, h3, ha⟩ := h
  refine ⟨hz, h1, h2, h3, ?_⟩
  rcases ha with ha | ⟨b, off, e, hc⟩
  · exact .inl ha
  · refine .inr ⟨b, off, e, fun j hj => ?_⟩
    have := hc j hj
    have hlt : b < w.heap.size := block_lt_of_cell this
    exact (hb.cell (p := ⟨b, off + j, none⟩) (by exact Nat.lt_of_lt_of_le hlt hB)).trans this

theorem Seg.drewN {w : World} {a : Option Addr} {n cap : Nat} {zs : List Int} (h : Seg w a n cap zs) (m : Nat) : Seg (w.drewN m) a n cap zs := by
  obtain ⟨hz, h1, h2, h3, ha⟩ := h
  refine ⟨hz, h1, h2, h3, ?_⟩
  rcases ha with ha | ⟨b, off, e, hc⟩
  · exact .inl ha
  · exact .inr ⟨b, off, e, fun j hj => by rw [World.cell?_drewN]; exact hc j hj⟩

set_option maxHeartbeats 1000000 in
theorem join24_in (P m cp : Nat) (A : Nat → Option Addr) (L C : Nat → Nat) (Z : Nat → List Int) (w : World) (hm : m ≤ 1000)
    (hp : ∀ j, j < m → w.cell? ⟨P, j, none⟩ = some (.slice (A j) (L j) (C j)))
    (hs : ∀ j, j < m → Seg w (A j) (L j) (C j) (Z j) ∧ (A j = none → C j = 0)) (hN : (cat Z m).length ≤ 1099511627776) (hPw : P < w.heap.size) :
    Calls Tryd.prog 65 #[.slice (some ⟨P, 0, none⟩) m cp] w fun e w' => e = .returned (.slice (some ⟨w.heap.size, 0, none⟩) (cat Z m).length (cat Z m).length) ∧
      w'.ownsRow w.heap.size 5 1 (.slice (some ⟨w.heap.size, 0, none⟩) (cat Z m).length (cat Z m).length) (cat Z m).length ((cat Z m).map (Value.int .u8)) ∧ Below w.heap.size w w' := by
  obtain ⟨i0, hi, hz0, hz1, hz2⟩ := info_parts Tryd.info5
  have hb2 : i0.bytes * (cat Z m).length ≤ 281474976710656 := by rw [hz2]; omega
  have hml : (cat Z m).length ≤ maxLen := by unfold maxLen; omega
  go_enter Tryd.func65, Tryd.ntmps65
  go_wp2
  go_loop [3, 11] (fun s i => ∃ k : Nat, k ≤ m ∧ i = .int .i64 k ∧ s = .int .i64 (cat Z k).length) (fun _ i => m - (intOf i).toNat)
  case atStart => exact ⟨0, by omega, rfl, rfl⟩
  case round =>
    obtain ⟨k, hk, rfl, rfl⟩ := hrel
    by_cases hlt : k < m
    · have hcell := hp k hlt
      have hlen := (hs k hlt).1.1
      have hmo := cat_mono Z (k + 1) m (by omega)
      have HC := hid (show (cat Z (k + 1)).length = (cat Z k).length + L k by simp [cat, hlen])
      have hle : (cat Z k).length + L k ≤ 1099511627776 := by have := HC.out; omega
      clear hp hs hlen hmo hb2 hml hi hz0 hz1 hz2 hN
      go_wp2
      go_round
      case rel => exact ⟨k + 1, by omega, by go_num, by rw [HC.out]; go_num⟩
      case measure => simp [intOf]; omega
    · obtain rfl : k = m := by omega
      go_wp2_with (first | (at_make; refine wpList_make_own _ rfl _ _ 27 rfl w.heap.size 5 i0 (.int .u8 0) 1 Tryd.underlying27 hi hz0 hz1 .i64 .i64 _ (cat Z k).length rfl rfl rfl hb2 hml (Nat.le_refl _) ?_; intro w1 hown hgrow))
      have hbel : Below w.heap.size w w1 := (Below.refl _ _).grown hgrow (Nat.le_refl _) (by simp)
      clear hgrow
      go_loopw [6, 24] (fun v i wr => ∃ j : Nat, j ≤ k ∧ i = .int .i64 j ∧ v = .slice (some ⟨w.heap.size, 0, none⟩) (cat Z j).length (cat Z k).length ∧
        wr.ownsRow w.heap.size 5 1 (.slice (some ⟨w.heap.size, 0, none⟩) (cat Z j).length (cat Z k).length) (cat Z j).length ((cat Z j).map (Value.int .u8)) ∧ Below w.heap.size w wr) (fun _ i _ => k - (intOf i).toNat)
      case atStart => exact ⟨0, by omega, rfl, rfl, hown, hbel⟩
      case round =>
        obtain ⟨j, hj, rfl, rfl, hownr, hb⟩ := hrel
        clear hown hbel
        by_cases hjk : j < k
        · have hcell : wr.cell? ⟨P, j, none⟩ = some (.slice (A j) (L j) (C j)) := (hb.cell (p := ⟨P, j, none⟩) hPw).trans (hp j hjk)
          obtain ⟨hseg, hnone⟩ := hs j hjk
          have hsl := hseg.later hb (Nat.le_refl _)
          have hnn : A j = none → L j = 0 ∧ C j = 0 := fun h => ⟨by have := hnone h; have := hseg.2.1; omega, hnone h⟩
          have hcl := seg_cells hsl
          have hlen : ((Z j).map (Value.int .u8)).length = L j * 1 := by simp [hseg.1]
          have hmo := cat_mono Z (j + 1) k (by omega)
          have HC := hid (show (cat Z (j + 1)).length = (cat Z j).length + L j by simp [cat, hseg.1])
          have hroom : (cat Z j).length + L j ≤ (cat Z k).length := by have := HC.out; omega
          have HB := hid hb
          have HO := hid hownr
          have HL := hid hcl
          have HN := hid hnn
          clear hp hs hb hownr hseg hnone hsl hcl hnn hmo
          go_wp2_with (first | (at_builtin; refine wpList_append_fits_any _ rfl _ _ 27 rfl w.heap.size 5 i0 1 Tryd.underlying27 hi hz1 w.heap.size (cat Z j).length (cat Z k).length _ rfl HO.out (A j) (L j) (C j) ((Z j).map (Value.int .u8)) rfl hlen HN.out HL.out (ints_one _) hroom ?_; intro w2 hown2 hgrow2))
          have hb2' : Below w.heap.size w w2 := HB.out.grown hgrow2 (HB.out.size) (by simp)
          have ho2 : w2.ownsRow w.heap.size 5 1 (.slice (some ⟨w.heap.size, 0, none⟩) (cat Z (j + 1)).length (cat Z k).length) (cat Z (j + 1)).length ((cat Z (j + 1)).map (Value.int .u8)) := by
            rw [HC.out]; simp only [cat, List.map_append]; exact hown2
          exact ⟨⟨j + 1, by omega, by go_num, by rw [HC.out], ho2, hb2'⟩, by simp [intOf]; omega⟩
        · obtain rfl : j = k := by omega
          clear hp hs
          go_wp2
          go_ret
          exact ⟨rfl, hownr, hb⟩

/-- Cells of a new row as a slice of bytes. -/
theorem seg_own {w : World} {B n cap : Nat} {zs : List Int} {base : Nat} (h : w.ownsRow base 5 1 (.slice (some ⟨B, 0, none⟩) n cap) n (zs.map (Value.int .u8))) (hl : zs.length = n) (hn : n ≤ 1099511627776) (hr : ∀ z ∈ zs, 0 ≤ z ∧ z ≤ 255) (hcap : n ≤ cap) :
    Seg w (some ⟨B, 0, none⟩) n cap zs := by
  refine ⟨hl, hcap, hn, hr, .inr ⟨B, 0, rfl, fun j hj => ?_⟩⟩
  rw [Nat.zero_add, h.cellAt j (by omega)]
  have hj' : j < zs.length := by omega
  simp [hj']

theorem cat_range (Z : Nat → List Int) (m : Nat) (h : ∀ j, j < m → ∀ z ∈ Z j, 0 ≤ z ∧ z ≤ 255) : ∀ z ∈ cat Z m, 0 ≤ z ∧ z ≤ 255 := by
  induction m with
  | zero => intro z hz; simp [cat] at hz
  | succ m ih =>
    intro z hz
    simp only [cat, List.mem_append] at hz
    rcases hz with hz | hz
    · exact ih (fun j hj => h j (by omega)) z hz
    · exact h m (by omega) z hz

/-- wire.join. -/
theorem join24 (P m cp : Nat) (A : Nat → Option Addr) (L C : Nat → Nat) (Z : Nat → List Int) (w : World) (hm : m ≤ 1000)
    (hp : ∀ j, j < m → w.cell? ⟨P, j, none⟩ = some (.slice (A j) (L j) (C j)))
    (hs : ∀ j, j < m → Seg w (A j) (L j) (C j) (Z j) ∧ (A j = none → C j = 0)) (hN : (cat Z m).length ≤ 1099511627776) (hPw : P < w.heap.size) (h0 : 0 < (cat Z m).length) :
    Calls Tryd.prog 65 #[.slice (some ⟨P, 0, none⟩) m cp] w fun e w' => e = .returned (.slice (some ⟨w.heap.size, 0, none⟩) (cat Z m).length (cat Z m).length) ∧
      Seg w' (some ⟨w.heap.size, 0, none⟩) (cat Z m).length (cat Z m).length (cat Z m) ∧ Below w.heap.size w w' ∧ w.heap.size < w'.heap.size := by
  refine (join24_in P m cp A L C Z w hm hp hs hN hPw).mono fun e w' ⟨he, ho, hb⟩ => ?_
  have hseg := seg_own ho rfl hN (cat_range Z m fun j hj => (hs j hj).1.2.2.2.1) (Nat.le_refl _)
  refine ⟨he, hseg, hb, ?_⟩
  rcases hseg.2.2.2.2 with h | ⟨b, off, e1, hc⟩
  · omega
  · have := hc 0 h0
    simp at e1
    have := block_lt_of_cell this
    simp only at this
    omega
end Go.Proofs.YtgljlclnmnfocaaDoor

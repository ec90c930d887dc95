/-
  The walks over text, WideTexts, SpareTexts, EqTexts.
-/
import Derived.Test.YtfcklkmfdjjfoaaDoorWideI
import Derived.Test.YtfcklkmfdjjfoaaDoorShelf
import Derived.Lib.AppendIntMem
import Derived.Lib.ItoaLen
namespace Go.Proofs.YtfcklkmfdjjfoaaDoor
open Go.RowKit
set_option linter.unusedVariables false

theorem Tryd.infTexts : (Tryd.prog.info? 9).map (fun i => (i.zero, i.size, i.bytes)) = some (some (.string ⟨#[]⟩), 1, 16) := by kernel_rfl

/-- The table of tens stands, whatever is written from B on. -/
abbrev Tens (B : Nat) (w : World) : Prop := Lib.TabBelow Tryd.prog B w "internal/strconv.uint64pow10" .u64 Lib.pow10Tab
theorem Tens.later {B : Nat} {w w' : World} (h : Tens B w) (hb : Below B w w') : Tens B w' := fun W hW => h W (hb.trans hW)
/-- A number in tens. -/
def numB (n : Int) : ByteArray := ⟨(Lib.itoa n).toArray⟩
theorem numB_size (n : Int) (h0 : -9223372036854775808 ≤ n) (h1 : n ≤ 9223372036854775807) : (numB n).size ≤ 21 := by
  have := Lib.itoa_length_le n h0 h1
  simpa [numB, ByteArray.size] using this
theorem itoaC (B : Nat) (n : Int) (h0 : -9223372036854775808 ≤ n) (h1 : n ≤ 9223372036854775807) (w : World) (ht : Tens B w) :
    Calls Tryd.prog 63 #[.int .i64 n] w fun e w' => e = .returned (.string (numB n)) ∧ Below w.heap.size w w' := by
  refine (Tryd.strconv_Itoa n h0 h1 w ht.here).mono ?_
  rintro e w' ⟨rfl, k, os, rfl⟩
  exact ⟨rfl, Lib.below_grow _ _ (Nat.le_refl _) _ _⟩

/-- The mark of place i. -/
def txt (i : Nat) : ByteArray := ⟨#[33]⟩ ++ numB (9437184 + (i : Int) + 1)

set_option maxRecDepth 100000 in
set_option maxHeartbeats 1000000 in
/-- text. -/
theorem textC (B i : Nat) (w : World) (hi : i ≤ 70368744177664) (ht : Tens B w) :
    Calls Tryd.prog 58 #[.int .i64 9, .int .i64 i] w fun e w' => e = .returned (.string (txt i)) ∧ Below w.heap.size w w' := by
  have HM := hid (mark59 i w (by omega) (by omega))
  have HI := hid (itoaC B (9437184 + (i : Int) + 1) (by omega) (by omega) w ht)
  have hs := numB_size (9437184 + (i : Int) + 1) (by omega) (by omega)
  have HT := hid (show txt i = ⟨#[33]⟩ ++ numB (9437184 + (i : Int) + 1) from rfl)
  generalize numB (9437184 + (i : Int) + 1) = nb at *
  have hsz : ¬ (9223372036854775807 < 1 + nb.size) := by omega
  clear ht
  go_enter Tryd.func58, Tryd.ntmps58
  go_wp2_with fail
  refine HM.out.mono ?_
  rintro e w' ⟨rfl, hw⟩
  have hw2 := hw.symm
  subst hw2
  go_wp2_with fail
  refine HI.out.mono ?_
  rintro e w2 ⟨rfl, hb⟩
  have HB := hid hb
  clear hb
  go_wp2_with fail
  go_ret
  exact ⟨by rw [HT.out]; rfl, HB.out⟩

/-- A slice of texts: its elements are 'l'. -/
def SegT (w : World) (a : Option Addr) (n cap : Nat) (l : List ByteArray) : Prop :=
  l.length = n ∧ n ≤ cap ∧ n ≤ 8796093022208 ∧ (n = 0 ∨ ∃ b off, a = some ⟨b, off, none⟩ ∧ ∀ j, j < n → w.cell? ⟨b, off + j, none⟩ = some (.string (l.getD j ⟨#[]⟩)))
theorem SegT.later {w w' : World} {a : Option Addr} {n cap : Nat} {l : List ByteArray} {B : Nat} (h : SegT w a n cap l) (hb : Below B w w') (hB : w.heap.size ≤ B) : SegT w' a n cap l := by
  obtain ⟨hz, h1, h2, ha⟩ := h
  refine ⟨hz, h1, h2, ?_⟩
  rcases ha with ha | ⟨b, off, e, hc⟩
  · exact .inl ha
  · refine .inr ⟨b, off, e, fun j hj => ?_⟩
    have := hc j hj
    have hlt : b < w.heap.size := block_lt_of_cell this
    exact (hb.cell (p := ⟨b, off + j, none⟩) (by exact Nat.lt_of_lt_of_le hlt hB)).trans this

/-- What lies at place j of such a list. -/
def wlT (zs : List ByteArray) (j : Nat) : ByteArray := if j < zs.length then zs.getD j ⟨#[]⟩ else txt j
/-- A list of texts as values: the first k are told. -/
def flT (m : Nat) (f : Nat → ByteArray) : List Value := (List.range m).map fun i => Value.string (f i)
theorem flT_len (n : Nat) (f : Nat → ByteArray) : (flT n f).length = n := by simp [flT]
theorem flT_get (n : Nat) (f : Nat → ByteArray) (i : Nat) (h : i < n) : (flT n f)[i]? = some (.string (f i)) := by simp [flT, h]
theorem flT_set {n : Nat} {f : Nat → ByteArray} {t : Nat} {v : ByteArray} {g : Nat → ByteArray} (h : ∀ i, i < n → g i = if i = t then v else f i) : (flT n f).set t (.string v) = flT n g := by
  apply List.ext_getElem?
  intro j
  by_cases hj : j < n
  · rw [flT_get n g j hj, h j hj]
    by_cases e : j = t
    · subst e
      rw [if_pos rfl, List.getElem?_set_self (by rw [flT_len]; exact hj)]
    · rw [if_neg e, List.getElem?_set_ne (fun x => e x.symm), flT_get n f j hj]
  · rw [List.getElem?_eq_none (by rw [List.length_set, flT_len]; omega), List.getElem?_eq_none (by rw [flT_len]; omega)]
/-- Block B holds the m texts f. -/
def RT (w : World) (B m : Nat) (f : Nat → ByteArray) : Prop := Row w 9 B m m (flT m f)
theorem RT.cell {w : World} {B n : Nat} {f : Nat → ByteArray} (h : RT w B n f) (i : Nat) (hi : i < n) : w.cell? ⟨B, i, none⟩ = some (.string (f i)) := (Row.cell h i hi).trans (flT_get n f i hi)
theorem RT.free {w : World} {B n : Nat} {f : Nat → ByteArray} (h : RT w B n f) (i : Nat) : w.frozen? ⟨B, i, none⟩ = false := Row.free h i
theorem RT.put {w : World} {B n : Nat} {f g : Nat → ByteArray} (h : RT w B n f) (t : Nat) (v : ByteArray) (e : ∀ i, i < n → g i = if i = t then v else f i) : RT (w.setCell ⟨B, t, none⟩ (.string v)) B n g := by
  have := Row.put h t (.string v)
  rw [flT_set e] at this
  exact this.1
theorem RT.later {w w' : World} {B n : Nat} {f : Nat → ByteArray} {base : Nat} (h : RT w B n f) (hb : Below base w w') (hB : w.heap.size ≤ base) : RT w' B n f :=
  Row.keep h (hb.block B (by have := Row.lt h; omega))

/-- As far as it is told. -/
def wtF (zs : List ByteArray) (k i : Nat) : ByteArray := if i < k then wlT zs i else ⟨#[]⟩
theorem wtF_step (zs : List ByteArray) (k i : Nat) : wtF zs (k + 1) i = if i = k then wlT zs k else wtF zs k i := by
  unfold wtF
  by_cases e : i = k
  · subst e; simp
  · by_cases h : i < k
    · simp [e, h, Nat.lt_succ_of_lt h]
    · have : ¬ i < k + 1 := by omega
      simp [e, h, this]

set_option maxRecDepth 100000 in
set_option maxHeartbeats 2000000 in
/-- WideTexts. -/
theorem wideT (TB : Nat) (a : Option Addr) (n cap : Nat) (zs : List ByteArray) (w : World) (h : SegT w a n cap zs) (ht : Tens TB w) (hTB : TB ≤ w.heap.size) :
    Calls Tryd.prog 26 #[.slice a n cap] w fun e w' => e = .returned (.slice (some ⟨w.heap.size, 0, none⟩) n (n + 64)) ∧
      (∀ j, j < n + 64 → w'.cell? ⟨w.heap.size, j, none⟩ = some (.string (wlT zs j))) ∧ Below w.heap.size w w' ∧ w.heap.size < w'.heap.size := by
  obtain ⟨hz, _, hn, hc⟩ := h
  obtain ⟨i0, hi, hz0, hz1, hz2⟩ := info_parts Tryd.infTexts
  have hb2 : i0.bytes * (n + 64) ≤ 281474976710656 := by rw [hz2]; omega
  have hml : n + 64 ≤ maxLen := by unfold maxLen; omega
  have HT := hid ht
  clear ht
  go_enter Tryd.func26, Tryd.ntmps26
  go_wp2_with (first | (at_make; refine wpList_make_full _ rfl _ _ 23 rfl w.heap.size 9 i0 (.string ⟨#[]⟩) 1 Tryd.underlying23 hi hz0 hz1 .i64 .i64 _ _ (n + 64) rfl rfl (by omega) (by omega) hb2 hml (Nat.le_refl _) ?_; intro w1 hown hgrow))
  have hown0 : RT w1 w.heap.size (n + 64) (wtF zs 0) := by
    have e : (madeCells (Value.string ⟨#[]⟩).cells ((n + 64) * 1)).toList = flT (n + 64) (wtF zs 0) := by
      rw [Nat.mul_one]; refine (toList_madeCells_one _ _).trans ?_
      apply List.ext_getElem?
      intro j
      by_cases hj : j < n + 64
      · rw [flT_get _ _ j hj]; simp [hj, wtF]
      · rw [List.getElem?_eq_none (by simp; omega), List.getElem?_eq_none (by rw [flT_len]; omega)]
    unfold RT
    rw [← e]; exact Row.of hown
  have hbel : Below w.heap.size w w1 := (Below.refl _ _).grown hgrow (Nat.le_refl _) (by simp)
  clear hown hgrow hi hz0 hz1 hz2 hb2 hml
  go_loopw [4] (fun i wr => ∃ k : Nat, k ≤ n + 64 ∧ i = .int .i64 k ∧ RT wr w.heap.size (n + 64) (wtF zs k) ∧ Below w.heap.size w wr) (fun i _ => n + 64 - (intOf i).toNat)
  case atStart => exact ⟨0, by omega, rfl, hown0, hbel⟩
  case round =>
    obtain ⟨k, hk, rfl, hown, hb⟩ := hrel
    clear hown0 hbel
    by_cases hlt : k < n + 64
    · by_cases hkn : k < n
      · rcases hc with hc | ⟨b, off, rfl, hc⟩
        · omega
        have hcell : wr.cell? ⟨b, off + k, none⟩ = some (.string (zs.getD k ⟨#[]⟩)) := by
          have h1 := hc k hkn
          have h2 : b < w.heap.size := block_lt_of_cell h1
          exact (hb.cell (p := ⟨b, off + k, none⟩) h2).trans h1
        have hkz : k < zs.length := by omega
        have HP := hid (hown.put (g := wtF zs (k + 1)) k (zs.getD k ⟨#[]⟩) (fun i hi => by rw [wtF_step]; simp [wlT, hkz]))
        have HB := hid (hb.setCell (p := ⟨w.heap.size, k, none⟩) (by simp) (.string (zs.getD k ⟨#[]⟩)))
        have hcl := hown.cell k hlt
        have hfz := hown.free k
        generalize zs.getD k ⟨#[]⟩ = z at *
        generalize wtF zs k k = z0 at *
        clear hb hown hc
        go_wp2
        exact ⟨⟨k + 1, by omega, by go_num, HP.out, HB.out⟩, by simp [intOf]; omega⟩
      · have hkz : ¬ k < zs.length := by omega
        have HX := hid (textC TB k wr (by omega) (HT.out.later (hb.mono hTB)))
        have hwl : wlT zs k = txt k := by simp only [wlT, hkz, if_false]
        have HWL := hid hwl
        have HO := hid hown
        have HB := hid hb
        have hsr := hb.size
        clear hb hown hc hwl
        go_wp2_with fail
        refine HX.out.mono ?_
        rintro e w5 ⟨rfl, hb5⟩
        have hrow := HO.out.later hb5 (Nat.le_refl _)
        have HP := hid (hrow.put (g := wtF zs (k + 1)) k (txt k) (fun i hi => by rw [wtF_step, HWL.out]))
        have hb6 := HB.out.trans (hb5.mono hsr)
        have HB6 := hid (hb6.setCell (p := ⟨w.heap.size, k, none⟩) (by simp) (.string (txt k)))
        have hcl := hrow.cell k hlt
        have hfz := hrow.free k
        generalize txt k = z at *
        generalize wtF zs k k = z0 at *
        clear hb5 hrow hb6
        go_wp2
        exact ⟨⟨k + 1, by omega, by go_num, HP.out, HB6.out⟩, by simp [intOf]; omega⟩
    · obtain rfl : k = n + 64 := by omega
      have HB := hid hb
      have HO := hid hown
      clear hb hown hc
      go_wp2
      go_ret
      refine ⟨rfl, fun j hj => ?_, HB.out, Row.lt HO.out⟩
      rw [HO.out.cell j hj]
      simp [wtF, hj]

set_option maxHeartbeats 1000000 in
/-- SpareTexts: the marks stand. -/
theorem spareT (TB B n : Nat) (zs : List ByteArray) (w : World) (hz : zs.length = n) (hn : n ≤ 8796093022208) (ht : Tens TB w) (hTB : TB ≤ w.heap.size)
    (hc : ∀ j, j < n + 64 → w.cell? ⟨B, j, none⟩ = some (.string (wlT zs j))) :
    Calls Tryd.prog 55 #[.slice (some ⟨B, 0, none⟩) n (n + 64)] w fun e w' => e = .returned (.bool true) ∧ Below w.heap.size w w' := by
  have HT := hid ht
  have HC := hid hc
  have hBl : B < w.heap.size := block_lt_of_cell (hc 0 (by omega))
  clear ht hc
  go_enter Tryd.func55, Tryd.ntmps55
  go_wp2
  go_loopw [4] (fun i wr => ∃ k : Nat, n ≤ k ∧ k ≤ n + 64 ∧ i = .int .i64 k ∧ Below w.heap.size w wr) (fun i _ => n + 64 - (intOf i).toNat)
  case atStart => exact ⟨n, by omega, by omega, rfl, Below.refl _ _⟩
  case round =>
    obtain ⟨k, hk0, hk, rfl, hb⟩ := hrel
    by_cases hlt : k < n + 64
    · have hcell := (hb.cell (p := ⟨B, k, none⟩) (by exact hBl)).trans (HC.out k hlt)
      have hw : wlT zs k = txt k := by
        have hkz : ¬ k < zs.length := by omega
        simp only [wlT, hkz, if_false]
      rw [hw] at hcell
      have HX := hid (textC TB k wr (by omega) (HT.out.later (hb.mono hTB)))
      have HB := hid hb
      have hsr := hb.size
      clear hb hw
      generalize txt k = z at *
      have heq : (z.toList == z.toList) = true := by simp
      go_wp2_with fail
      refine HX.out.mono ?_
      rintro e w5 ⟨rfl, hb5⟩
      have HB5 := hid (HB.out.trans (hb5.mono hsr))
      clear hb5
      go_wp2_with fail
      exact ⟨⟨k + 1, by omega, by omega, by go_num, HB5.out⟩, by simp [intOf]; omega⟩
    · have HB := hid hb
      clear hb
      go_wp2
      go_ret
      exact ⟨rfl, HB.out⟩
end Go.Proofs.YtfcklkmfdjjfoaaDoor

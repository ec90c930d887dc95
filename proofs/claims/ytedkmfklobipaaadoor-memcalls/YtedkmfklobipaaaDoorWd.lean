/-
  The walks over text, WideBytes, SpareBytes, SizePages.
-/
import Derived.Test.YtedkmfklobipaaaDoorFr
import Derived.Test.YtedkmfklobipaaaDoorShelf
import Derived.Lib.AppendIntMem
import Derived.Lib.ItoaLen
import Derived.Lib.ConvBytes
import Derived.Lib.SlBytesRow
namespace Go.Proofs.YtedkmfklobipaaaDoor
open Go.RowKit
set_option linter.unusedVariables false

/-- The table of tens stands, whatever is written from B on. -/
abbrev Tens (B : Nat) (w : World) : Prop := Lib.TabBelow Tryd.prog B w "internal/strconv.uint64pow10" .u64 Lib.pow10Tab
theorem Tens.later {B : Nat} {w w' : World} (h : Tens B w) (hb : Below B w w') : Tens B w' := fun W hW => h W (hb.trans hW)
/-- A number in tens. -/
def numB (n : Int) : ByteArray := ⟨(Lib.itoa n).toArray⟩
theorem numB_size (n : Int) (h0 : -9223372036854775808 ≤ n) (h1 : n ≤ 9223372036854775807) : (numB n).size ≤ 21 := by
  have := Lib.itoa_length_le n h0 h1
  simpa [numB, ByteArray.size] using this
theorem itoaC (B : Nat) (n : Int) (h0 : -9223372036854775808 ≤ n) (h1 : n ≤ 9223372036854775807) (w : World) (ht : Tens B w) :
    Calls Tryd.prog 60 #[.int .i64 n] w fun e w' => e = .returned (.string (numB n)) ∧ Below w.heap.size w w' := by
  refine (Tryd.strconv_Itoa n h0 h1 w ht.here).mono ?_
  rintro e w' ⟨rfl, k, os, rfl⟩
  exact ⟨rfl, Lib.below_grow _ _ (Nat.le_refl _) _ _⟩

theorem numC (n i : Nat) (w : World) (hn : n ≤ 1048576) (hi : i ≤ 70368744177664) : Calls Tryd.prog 61 #[.int .i64 n, .int .i64 i] w fun e w' => e = .returned (.int .i64 (1048576 * (n : Int) + i + 1)) ∧ w' = w := by
  go_enter Tryd.func61, Tryd.ntmps61
  go_wp2_with fail
  go_ret
  exact ⟨rfl, rfl⟩

/-- The mark of place i in list n. -/
def txt (n i : Nat) : ByteArray := ⟨#[33]⟩ ++ numB (1048576 * (n : Int) + i + 1)
set_option maxRecDepth 100000 in
set_option maxHeartbeats 1000000 in
theorem textC (B n i : Nat) (w : World) (hn : n ≤ 1048576) (hi : i ≤ 70368744177664) (ht : Tens B w) :
    Calls Tryd.prog 35 #[.int .i64 n, .int .i64 i] w fun e w' => e = .returned (.string (txt n i)) ∧ Below w.heap.size w w' := by
  have HM := hid (numC n i w hn hi)
  have HI := hid (itoaC B (1048576 * (n : Int) + i + 1) (by omega) (by omega) w ht)
  have hs := numB_size (1048576 * (n : Int) + i + 1) (by omega) (by omega)
  have HT := hid (show txt n i = ⟨#[33]⟩ ++ numB (1048576 * (n : Int) + i + 1) from rfl)
  generalize numB (1048576 * (n : Int) + i + 1) = nb at *
  have hsz : ¬ (9223372036854775807 < 1 + nb.size) := by omega
  clear ht
  go_enter Tryd.func35, Tryd.ntmps35
  go_wp2_with fail
  refine HM.out.mono ?_
  rintro e w' ⟨rfl, hw⟩
  have hw2 := hw.symm
  subst hw2
  go_wp2_with fail
  refine HI.out.mono ?_
  rintro e w2 ⟨rfl, hb⟩
  have HB := hid hb
  clear hb
  go_wp2_with fail
  go_ret
  exact ⟨by rw [HT.out]; rfl, HB.out⟩

/-- The bytes with marks behind them. -/
def wdB (n : Nat) (g : Nat → Int) (j : Nat) : Int := if j < n then g j else (279 + 7 * (j : Int) + 3) % 256
/-- The first k of them are laid. -/
def wdK (n : Nat) (g : Nat → Int) (k j : Nat) : Int := if j < k then wdB n g j else 0
theorem wdK_0 (n : Nat) (g : Nat → Int) : wdK n g 0 = fun _ => 0 := by funext j; unfold wdK; rw [if_neg (by omega)]
theorem wdK_succ (n : Nat) (g : Nat → Int) (k : Nat) : upd (wdK n g k) k (wdB n g k) = wdK n g (k + 1) := by
  funext j
  unfold upd wdK
  by_cases e : j = k
  · subst e; rw [if_pos rfl, if_pos (by omega)]
  · rw [if_neg e]
    by_cases h : j < k
    · rw [if_pos h, if_pos (by omega)]
    · rw [if_neg h, if_neg (by omega)]
theorem bytesL_congr {f g : Nat → Int} {n : Nat} (h : ∀ j, j < n → f j = g j) : bytesL f n = bytesL g n := by
  unfold bytesL
  apply List.map_congr_left
  intro j hj
  rw [h j (by simpa using hj)]

set_option maxRecDepth 100000 in
set_option maxHeartbeats 1000000 in
theorem wideB (v : Value) (n : Nat) (g : Nat → Int) (w : World) (h : BSeg w v n g) (hn : n ≤ 4194304) :
    Calls Tryd.prog 34 #[v] w fun e w' => ∃ B, e = .returned (.slice (some ⟨B, 0, none⟩) n (n + 64)) ∧ w.heap.size ≤ B ∧ Row w' 5 B (n + 64) (n + 64) (bytesL (wdB n g) (n + 64)) ∧ Below w.heap.size w w' := by
  obtain ⟨a, c, rfl, hc, _, k1⟩ := id h
  have HSH := hid (show n = 0 ∨ ∃ b o, a = some ⟨b, o, none⟩ ∧ ∀ j, j < n → w.cell? ⟨b, o + j, none⟩ = some (.int .u8 (g j)) from k1)
  obtain ⟨i2, hi2, hz0, hz1, hz2⟩ := info_parts Tryd.infU8
  have HI2 := hid hi2
  clear k1 h hi2
  go_enter Tryd.func34, Tryd.ntmps34
  go_wp2_with (at_make; (refine wpList_make_full _ rfl _ _ 41 rfl w.heap.size 5 i2 (.int .u8 0) 1 Tryd.underlying41 HI2.out hz0 hz1 .i64 .i64 _ _ (n + 64) rfl rfl (by omega) (by omega) (by rw [hz2]; omega) (by unfold maxLen; omega) (Nat.le_refl _) ?_; intro w1 hown hgrow; have hbel : Below w.heap.size w w1 := (Below.refl _ _).grown hgrow (Nat.le_refl _) (by simp); have HO := hid hown; have HG := hid hbel; clear hown hgrow hbel))
  have H0 : Row w1 5 w.heap.size (n + 64) (n + 64) (bytesL (wdK n g 0) (n + 64)) := by
    have e : (madeCells (Value.int .u8 0).cells ((n + 64) * 1)).toList = bytesL (wdK n g 0) (n + 64) := by
      rw [wdK_0, Nat.mul_one]
      have := congrArg Array.toList (made_bytes (n + 64))
      exact this
    have := HO.out
    rw [e] at this
    exact Row.of this
  have HH := hid H0
  clear H0 HO
  go_loopw [4] (fun i wr => ∃ k : Nat, k ≤ n + 64 ∧ i = .int .i64 k ∧ Hid (Row wr 5 w.heap.size (n + 64) (n + 64) (bytesL (wdK n g k) (n + 64))) ∧ Hid (Below w.heap.size w wr)) (fun i _ => n + 64 - (intOf i).toNat)
  case atStart => exact ⟨0, by omega, rfl, HH, HG⟩
  case round =>
    obtain ⟨k, hk, rfl, HX, HB⟩ := hrel
    clear HH HG
    by_cases hlt : k < n + 64
    · obtain ⟨hr2, hk2⟩ := HX.out.put k (.int .u8 (wdB n g k))
      rw [bytesL_set, wdK_succ] at hr2
      have hcl : wr.cell? ⟨w.heap.size, k, none⟩ = some (.int .u8 (wdK n g k k)) := (HX.out.cell k hlt).trans (bytesL_get _ _ _ hlt)
      have hfr := HX.out.free k
      have HR2 := hid hr2
      have HB2 := hid (show Below w.heap.size w (wr.setCell ⟨w.heap.size, k, none⟩ (.int .u8 (wdB n g k))) from HB.out.setCell (Nat.le_refl _) _)
      have hlt' : (k : Int) < (n : Int) + 64 := by omega
      by_cases hkn : k < n
      · obtain ⟨b, o, rfl, hsrc⟩ : ∃ b o, a = some ⟨b, o, none⟩ ∧ ∀ j, j < n → w.cell? ⟨b, o + j, none⟩ = some (.int .u8 (g j)) := HSH.out.elim (fun h => by omega) id
        have hs := (kept_below HB.out).cell (hsrc k hkn) (fun x => x)
        have hwd : wdB n g k = g k := by unfold wdB; rw [if_pos hkn]
        rw [hwd] at HR2 HB2
        clear hsrc hr2 hk2 hwd
        have hkn' : (k : Int) < n := by omega
        go_wp2_with fail
        exact ⟨⟨k + 1, by omega, by go_num, HR2, HB2⟩, by simp [intOf]; omega⟩
      · have hwd : wdB n g k = (279 + 7 * (k : Int) + 3) % 256 := by unfold wdB; rw [if_neg hkn]
        rw [hwd] at HR2 HB2
        clear hr2 hk2 hwd
        have hkn' : ¬ (k : Int) < n := by omega
        go_wp2_with fail
        exact ⟨⟨k + 1, by omega, by go_num, HR2, HB2⟩, by simp [intOf]; omega⟩
    · obtain rfl : k = n + 64 := by omega
      go_wp2_with fail
      go_ret
      refine ⟨w.heap.size, rfl, Nat.le_refl _, ?_, HB.out⟩
      rw [bytesL_congr (g := wdK n g (n + 64)) (fun j hj => by unfold wdK; rw [if_pos hj])]
      exact HX.out
end Go.Proofs.YtedkmfklobipaaaDoor

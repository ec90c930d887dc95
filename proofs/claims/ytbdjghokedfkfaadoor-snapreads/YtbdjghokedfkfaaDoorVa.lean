/-
  Turned by program from the seat YtbdjghokedfkfaaDoor.
-/
import Derived.Deep.MidRow
import Derived.Laws.CopyOwn
import Derived.Deep.OwnRows
import Derived.Lib.AppendZerosOnto
import Derived.Lib.AppendIntMem
import Derived.Lib.ItoaLen
import Derived.Lib.ConvBytes
import Derived.Lib.SlBytesRow
import Derived.Test.YtbdjghokedfkfaaDoorDc
import Derived.Test.YtbdjghokedfkfaaDoorShelf
namespace Go.Proofs.YtbdjghokedfkfaaDoor
open Go.RowKit
set_option linter.unusedVariables false
set_option maxRecDepth 100000
theorem Row.free {w : World} {e : TypeId} {B n cap : Nat} {xs : List Value} (h : Row w e B n cap xs) (j : Nat) : w.frozen? ⟨B, j, none⟩ = false := World.ownsRow.frozenAt h j
def upd {A : Type} (f : Nat → A) (a : Nat) (v : A) (x : Nat) : A := if x = a then v else f x
theorem Tryd.infBytes : (Tryd.prog.info? 31).map (fun i => (i.zero, i.size, i.bytes)) = some (some (.slice none 0 0), 1, 24) := by kernel_rfl
theorem Tryd.infU8 : (Tryd.prog.info? 5).map (fun i => (i.zero, i.size, i.bytes)) = some (some (.int .u8 0), 1, 1) := by kernel_rfl
/-- The first n bytes. -/
def bytesL (f : Nat → Int) (n : Nat) : List Value := (List.range n).map fun a => Value.int .u8 (f a)
theorem bytesL_len (f : Nat → Int) (n : Nat) : (bytesL f n).length = n := by unfold bytesL; rw [List.length_map, List.length_range]
theorem bytesL_get (f : Nat → Int) (n a : Nat) (h : a < n) : (bytesL f n)[a]? = some (.int .u8 (f a)) := by
  unfold bytesL
  rw [List.getElem?_map, List.getElem?_range h]; rfl
theorem bytesL_set (f : Nat → Int) (n a : Nat) (z : Int) : (bytesL f n).set a (.int .u8 z) = bytesL (upd f a z) n := by
  apply List.ext_getElem?
  intro j
  by_cases hj : j < n
  · rw [bytesL_get _ _ _ hj]
    by_cases e : j = a
    · subst e
      rw [List.getElem?_set_self (by rw [bytesL_len]; exact hj)]
      unfold upd; rw [if_pos rfl]
    · rw [List.getElem?_set_ne (fun x => e x.symm), bytesL_get _ _ _ hj]
      unfold upd; rw [if_neg e]
  · rw [List.getElem?_eq_none (by rw [List.length_set, bytesL_len]; omega), List.getElem?_eq_none (by rw [bytesL_len]; omega)]
theorem made_bytes (n : Nat) : madeCells #[Value.int .u8 0] n = (bytesL (fun _ => 0) n).toArray := by
  apply Array.ext'
  rw [toList_madeCells_one]
  unfold bytesL
  apply List.ext_getElem?
  intro j
  rw [List.getElem?_replicate, List.getElem?_map]
  by_cases h : j < n
  · rw [if_pos h, List.getElem?_range h]; rfl
  · rw [if_neg h, List.getElem?_eq_none (by rw [List.length_range]; omega)]; rfl
/-- v is a list of n bytes g. -/
def BSeg (w : World) (v : Value) (n : Nat) (g : Nat → Int) : Prop :=
  ∃ a c, v = .slice a n c ∧ n ≤ c ∧ n ≤ 140737488355328 ∧ (n = 0 ∨ ∃ b o, a = some ⟨b, o, none⟩ ∧ ∀ j, j < n → w.cell? ⟨b, o + j, none⟩ = some (.int .u8 (g j)))
theorem BSeg.kept {S : Nat → Prop} {w w' : World} {v : Value} {n : Nat} {g : Nat → Int} (h : BSeg w v n g) (hk : Kept S w w') (hs : ∀ b o, (∃ c, v = .slice (some ⟨b, o, none⟩) n c) → 0 < n → ¬ S b) : BSeg w' v n g := by
  obtain ⟨a, c, rfl, h1, h2, h3⟩ := h
  refine ⟨a, c, rfl, h1, h2, ?_⟩
  rcases h3 with h3 | ⟨b, o, rfl, h3⟩
  · exact .inl h3
  · by_cases h0 : n = 0
    · exact .inl h0
    · exact .inr ⟨b, o, rfl, fun j hj => hk.cell (h3 j hj) (hs b o ⟨c, rfl⟩ (by omega))⟩
theorem BSeg.keep {w w' : World} {v : Value} {n : Nat} {g : Nat → Int} (h : BSeg w v n g) (hk : Kept (fun _ => False) w w') : BSeg w' v n g := h.kept hk (fun _ _ _ _ x => x)
/-- v is a list of n lists of bytes, their lengths ln. -/
def PSeg (w : World) (v : Value) (n : Nat) (ln : Nat → Nat) (g : Nat → Nat → Int) : Prop :=
  ∃ a c, v = .slice a n c ∧ n ≤ c ∧ n ≤ 140737488355328 ∧ (n = 0 ∨ ∃ b o, a = some ⟨b, o, none⟩ ∧ ∀ i, i < n → ∃ u, w.cell? ⟨b, o + i, none⟩ = some u ∧ BSeg w u (ln i) (g i))
theorem PSeg.keep {w w' : World} {v : Value} {n : Nat} {ln : Nat → Nat} {g : Nat → Nat → Int} (h : PSeg w v n ln g) (hk : Kept (fun _ => False) w w') : PSeg w' v n ln g := by
  obtain ⟨a, c, rfl, h1, h2, h3⟩ := h
  refine ⟨a, c, rfl, h1, h2, ?_⟩
  rcases h3 with h3 | ⟨b, o, rfl, h3⟩
  · exact .inl h3
  · refine .inr ⟨b, o, rfl, fun i hi => ?_⟩
    obtain ⟨u, h4, h5⟩ := h3 i hi
    exact ⟨u, hk.cell h4 (fun x => x), h5.keep hk⟩
theorem kept_below {w w' : World} (h : Below w.heap.size w w') : Kept (fun _ => False) w w' := ⟨h.os, h.tape, h.output, h.size, fun k hk _ => h.block k hk⟩
theorem PSeg.at {w : World} {b o n : Nat} {c : Nat} {ln : Nat → Nat} {g : Nat → Nat → Int} (h : PSeg w (.slice (some ⟨b, o, none⟩) n c) n ln g) {i : Nat} (hi : i < n) : ∃ a k, w.cell? ⟨b, o + i, none⟩ = some (.slice a (ln i) k) ∧ ln i ≤ k ∧ ln i ≤ 140737488355328 ∧ BSeg w (.slice a (ln i) k) (ln i) (g i) := by
  obtain ⟨a, c', e, h1, h2, h3⟩ := h
  injection e with e1 e2 e3
  subst e1 e3
  rcases h3 with h3 | ⟨b', o', e4, h3⟩
  · omega
  · injection e4 with e4; injection e4 with e5 e6
    subst e5 e6
    obtain ⟨u, h4, h5⟩ := h3 i hi
    have h6 := h5
    obtain ⟨ua, uc, rfl, h7, h8, _⟩ := h6
    exact ⟨ua, uc, h4, h7, h8, h5⟩
/-- The table of tens stands, whatever is written from B on. -/
abbrev Tens (B : Nat) (w : World) : Prop := Lib.TabBelow Tryd.prog B w "internal/strconv.uint64pow10" .u64 Lib.pow10Tab
theorem Tens.later {B : Nat} {w w' : World} (h : Tens B w) (hb : Below B w w') : Tens B w' := fun W hW => h W (hb.trans hW)
/-- A number in tens. -/
def numB (n : Int) : ByteArray := ⟨(Lib.itoa n).toArray⟩
theorem numB_size (n : Int) (h0 : -9223372036854775808 ≤ n) (h1 : n ≤ 9223372036854775807) : (numB n).size ≤ 21 := by
  have := Lib.itoa_length_le n h0 h1
  simpa [numB, ByteArray.size] using this
theorem itoaC (B : Nat) (n : Int) (h0 : -9223372036854775808 ≤ n) (h1 : n ≤ 9223372036854775807) (w : World) (ht : Tens B w) :
    Calls Tryd.prog 88 #[.int .i64 n] w fun e w' => e = .returned (.string (numB n)) ∧ Below w.heap.size w w' := by
  refine (Tryd.strconv_Itoa n h0 h1 w ht.here).mono ?_
  rintro e w' ⟨rfl, k, os, rfl⟩
  exact ⟨rfl, Lib.below_grow _ _ (Nat.le_refl _) _ _⟩
theorem numC (n i : Nat) (w : World) (hn : n ≤ 1048576) (hi : i ≤ 70368744177664) : Calls Tryd.prog 65 #[.int .i64 n, .int .i64 i] w fun e w' => e = .returned (.int .i64 (1048576 * (n : Int) + i + 1)) ∧ w' = w := by
  go_enter Tryd.func65, Tryd.ntmps65
  go_wp2_with fail
  go_ret
  exact ⟨rfl, rfl⟩
/-- The mark of place i in list n. -/
def txt (n i : Nat) : ByteArray := ⟨#[33]⟩ ++ numB (1048576 * (n : Int) + i + 1)
set_option maxRecDepth 100000 in
set_option maxHeartbeats 1000000 in
theorem textC (B n i : Nat) (w : World) (hn : n ≤ 1048576) (hi : i ≤ 70368744177664) (ht : Tens B w) :
    Calls Tryd.prog 66 #[.int .i64 n, .int .i64 i] w fun e w' => e = .returned (.string (txt n i)) ∧ Below w.heap.size w w' := by
  have HM := hid (numC n i w hn hi)
  have HI := hid (itoaC B (1048576 * (n : Int) + i + 1) (by omega) (by omega) w ht)
  have hs := numB_size (1048576 * (n : Int) + i + 1) (by omega) (by omega)
  have HT := hid (show txt n i = ⟨#[33]⟩ ++ numB (1048576 * (n : Int) + i + 1) from rfl)
  generalize numB (1048576 * (n : Int) + i + 1) = nb at *
  have hsz : ¬ (9223372036854775807 < 1 + nb.size) := by omega
  clear ht
  go_enter Tryd.func66, Tryd.ntmps66
  go_wp2_with fail
  refine HM.out.mono ?_
  rintro e w' ⟨rfl, hw⟩
  have hw2 := hw.symm
  subst hw2
  go_wp2_with fail
  refine HI.out.mono ?_
  rintro e w2 ⟨rfl, hb⟩
  have HB := hid hb
  clear hb
  go_wp2_with fail
  go_ret
  exact ⟨by rw [HT.out]; rfl, HB.out⟩
/-- The bytes with marks behind them. -/
def wdB (n : Nat) (g : Nat → Int) (j : Nat) : Int := if j < n then g j else (279 + 7 * (j : Int) + 3) % 256
/-- The first k of them are laid. -/
def wdK (n : Nat) (g : Nat → Int) (k j : Nat) : Int := if j < k then wdB n g j else 0
theorem wdK_0 (n : Nat) (g : Nat → Int) : wdK n g 0 = fun _ => 0 := by funext j; unfold wdK; rw [if_neg (by omega)]
theorem wdK_succ (n : Nat) (g : Nat → Int) (k : Nat) : upd (wdK n g k) k (wdB n g k) = wdK n g (k + 1) := by
  funext j
  unfold upd wdK
  by_cases e : j = k
  · subst e; rw [if_pos rfl, if_pos (by omega)]
  · rw [if_neg e]
    by_cases h : j < k
    · rw [if_pos h, if_pos (by omega)]
    · rw [if_neg h, if_neg (by omega)]
theorem bytesL_congr {f g : Nat → Int} {n : Nat} (h : ∀ j, j < n → f j = g j) : bytesL f n = bytesL g n := by
  unfold bytesL
  apply List.map_congr_left
  intro j hj
  rw [h j (by simpa using hj)]
set_option maxRecDepth 100000 in
set_option maxHeartbeats 1000000 in
theorem wideB (v : Value) (n : Nat) (g : Nat → Int) (w : World) (h : BSeg w v n g) (hn : n ≤ 2147483647) :
    Calls Tryd.prog 15 #[v] w fun e w' => ∃ B, e = .returned (.slice (some ⟨B, 0, none⟩) n (n + 64)) ∧ w.heap.size ≤ B ∧ Row w' 5 B (n + 64) (n + 64) (bytesL (wdB n g) (n + 64)) ∧ Below w.heap.size w w' := by
  obtain ⟨a, c, rfl, hc, _, k1⟩ := id h
  have HSH := hid (show n = 0 ∨ ∃ b o, a = some ⟨b, o, none⟩ ∧ ∀ j, j < n → w.cell? ⟨b, o + j, none⟩ = some (.int .u8 (g j)) from k1)
  obtain ⟨i2, hi2, hz0, hz1, hz2⟩ := info_parts Tryd.infU8
  have HI2 := hid hi2
  clear k1 h hi2
  go_enter Tryd.func15, Tryd.ntmps15
  go_wp2_with (at_make; (refine wpList_make_full _ rfl _ _ 31 rfl w.heap.size 5 i2 (.int .u8 0) 1 Tryd.underlying31 HI2.out hz0 hz1 .i64 .i64 _ _ (n + 64) rfl rfl (by omega) (by omega) (by rw [hz2]; omega) (by unfold maxLen; omega) (Nat.le_refl _) ?_; intro w1 hown hgrow; have hbel : Below w.heap.size w w1 := (Below.refl _ _).grown hgrow (Nat.le_refl _) (by simp); have HO := hid hown; have HG := hid hbel; clear hown hgrow hbel))
  have H0 : Row w1 5 w.heap.size (n + 64) (n + 64) (bytesL (wdK n g 0) (n + 64)) := by
    have e : (madeCells (Value.int .u8 0).cells ((n + 64) * 1)).toList = bytesL (wdK n g 0) (n + 64) := by
      rw [wdK_0, Nat.mul_one]
      have := congrArg Array.toList (made_bytes (n + 64))
      exact this
    have := HO.out
    rw [e] at this
    exact Row.of this
  have HH := hid H0
  clear H0 HO
  go_loopw [4] (fun i wr => ∃ k : Nat, k ≤ n + 64 ∧ i = .int .i64 k ∧ Hid (Row wr 5 w.heap.size (n + 64) (n + 64) (bytesL (wdK n g k) (n + 64))) ∧ Hid (Below w.heap.size w wr)) (fun i _ => n + 64 - (intOf i).toNat)
  case atStart => exact ⟨0, by omega, rfl, HH, HG⟩
  case round =>
    obtain ⟨k, hk, rfl, HX, HB⟩ := hrel
    clear HH HG
    by_cases hlt : k < n + 64
    · obtain ⟨hr2, hk2⟩ := HX.out.put k (.int .u8 (wdB n g k))
      rw [bytesL_set, wdK_succ] at hr2
      have hcl : wr.cell? ⟨w.heap.size, k, none⟩ = some (.int .u8 (wdK n g k k)) := (HX.out.cell k hlt).trans (bytesL_get _ _ _ hlt)
      have hfr := HX.out.free k
      have HR2 := hid hr2
      have HB2 := hid (show Below w.heap.size w (wr.setCell ⟨w.heap.size, k, none⟩ (.int .u8 (wdB n g k))) from HB.out.setCell (Nat.le_refl _) _)
      have hlt' : (k : Int) < (n : Int) + 64 := by omega
      by_cases hkn : k < n
      · obtain ⟨b, o, rfl, hsrc⟩ : ∃ b o, a = some ⟨b, o, none⟩ ∧ ∀ j, j < n → w.cell? ⟨b, o + j, none⟩ = some (.int .u8 (g j)) := HSH.out.elim (fun h => by omega) id
        have hs := (kept_below HB.out).cell (hsrc k hkn) (fun x => x)
        have hwd : wdB n g k = g k := by unfold wdB; rw [if_pos hkn]
        rw [hwd] at HR2 HB2
        clear hsrc hr2 hk2 hwd
        have hkn' : (k : Int) < n := by omega
        go_wp2_with fail
        exact ⟨⟨k + 1, by omega, by go_num, HR2, HB2⟩, by simp [intOf]; omega⟩
      · have hwd : wdB n g k = (279 + 7 * (k : Int) + 3) % 256 := by unfold wdB; rw [if_neg hkn]
        rw [hwd] at HR2 HB2
        clear hr2 hk2 hwd
        have hkn' : ¬ (k : Int) < n := by omega
        go_wp2_with fail
        exact ⟨⟨k + 1, by omega, by go_num, HR2, HB2⟩, by simp [intOf]; omega⟩
    · obtain rfl : k = n + 64 := by omega
      go_wp2_with fail
      go_ret
      refine ⟨w.heap.size, rfl, Nat.le_refl _, ?_, HB.out⟩
      rw [bytesL_congr (g := wdK n g (n + 64)) (fun j hj => by unfold wdK; rw [if_pos hj])]
      exact HX.out
set_option maxHeartbeats 1000000 in
theorem spareB (B n : Nat) (g : Nat → Int) (w : World) (hn : n ≤ 2147483647) (h : Row w 5 B (n + 64) (n + 64) (bytesL (wdB n g) (n + 64))) :
    Calls Tryd.prog 19 #[.slice (some ⟨B, 0, none⟩) n (n + 64)] w fun e w' => e = .returned (.bool true) ∧ w' = w := by
  have HR := hid h
  clear h
  go_enter Tryd.func19, Tryd.ntmps19
  go_wp2_with fail
  go_loopw [4, 5] (fun i x wr => ∃ k : Nat, n ≤ k ∧ k ≤ n + 64 ∧ i = .int .i64 k ∧ wr = w) (fun i _ _ => n + 64 - (intOf i).toNat)
  case atStart => exact ⟨n, by omega, by omega, rfl, rfl⟩
  case round =>
    obtain ⟨k, hk0, hk, rfl, hwr⟩ := hrel
    have hwr' := hwr.symm; subst hwr'; clear hwr
    by_cases hlt : k < n + 64
    · have hcl : w.cell? ⟨B, k, none⟩ = some (.int .u8 (wdB n g k)) := (HR.out.cell k hlt).trans (bytesL_get _ _ _ hlt)
      have hwd : wdB n g k = (279 + 7 * (k : Int) + 3) % 256 := by unfold wdB; rw [if_neg (by omega)]
      rw [hwd] at hcl
      have hlt' : (k : Int) < (n : Int) + 64 := by omega
      have hb : (((279 + 7 * (k : Int) + 3) % 256) == ((279 + 7 * (k : Int) + 3) % 256)) = true := by simp
      clear hwd
      go_wp2_with fail
      exact ⟨⟨k + 1, by omega, by omega, by go_num, trivial⟩, by simp [intOf]; omega⟩
    · obtain rfl : k = n + 64 := by omega
      go_wp2_with fail
      go_ret
      exact ⟨rfl, rfl⟩
def wpU (n : Nat) (ln : Nat → Nat) (QF CF : Nat → Nat) (k i : Nat) : Value :=
  if i < k then (if i < n then .slice (some ⟨QF i, 0, none⟩) (ln i) (ln i + 64) else .slice (some ⟨QF i, 0, none⟩) (txt 9 i).size (CF i)) else .slice none 0 0
structure Wp (w : World) (L n : Nat) (ln : Nat → Nat) (g : Nat → Nat → Int) (k : Nat) (QF CF : Nat → Nat) : Prop where
  row : Row w 31 L (n + 64) (n + 64) ((List.range (n + 64)).map (wpU n ln QF CF k))
  lo : ∀ i, i < k → L < QF i ∧ QF i < w.heap.size
  mono : ∀ i j, i < j → j < k → QF i < QF j
  pg : ∀ i, i < n → i < k → Row w 5 (QF i) (ln i + 64) (ln i + 64) (bytesL (wdB (ln i) (g i)) (ln i + 64))
  tx : ∀ i, n ≤ i → i < k → Lib.Bytes w (QF i) 0 (txt 9 i)
theorem bytes_keep {S : Nat → Prop} {w w' : World} {b o : Nat} {s : ByteArray} (h : Lib.Bytes w b o s) (hk : Kept S w w') (hs : ¬ S b) : Lib.Bytes w' b o s := fun i hi => hk.cell (h i hi) hs
theorem Wp.kept {S : Nat → Prop} {w w' : World} {L n : Nat} {ln : Nat → Nat} {g : Nat → Nat → Int} {k : Nat} {QF CF : Nat → Nat} (h : Wp w L n ln g k QF CF) (hk : Kept S w w') (hs : ∀ q, L ≤ q → ¬ S q) : Wp w' L n ln g k QF CF :=
  ⟨h.row.kept hk (hs L (Nat.le_refl _)), fun i hi => ⟨(h.lo i hi).1, Nat.lt_of_lt_of_le (h.lo i hi).2 hk.size⟩, h.mono, fun i hi hi2 => (h.pg i hi hi2).kept hk (hs _ (Nat.le_of_lt (h.lo i hi2).1)), fun i hi hi2 => bytes_keep (h.tx i hi hi2) hk (hs _ (Nat.le_of_lt (h.lo i hi2).1))⟩
theorem wpU_set (n : Nat) (ln : Nat → Nat) (QF CF : Nat → Nat) (k q c : Nat) (u : Value) (hk : k < n + 64) (hu : u = wpU n ln (upd QF k q) (upd CF k c) (k + 1) k) :
    ((List.range (n + 64)).map (wpU n ln QF CF k)).set k u = (List.range (n + 64)).map (wpU n ln (upd QF k q) (upd CF k c) (k + 1)) := by
  apply List.ext_getElem?
  intro j
  by_cases hj : j < n + 64
  · by_cases e : j = k
    · subst e
      rw [List.getElem?_set_self (by simp; omega), List.getElem?_map, List.getElem?_range hj, hu]; rfl
    · rw [List.getElem?_set_ne (fun x => e x.symm), List.getElem?_map, List.getElem?_map, List.getElem?_range hj]
      simp only [Option.map_some]
      congr 1
      unfold wpU upd
      by_cases h1 : j < k
      · rw [if_pos h1, if_pos (show j < k + 1 by omega)]
        simp only [e, if_false]
      · rw [if_neg h1, if_neg (show ¬ j < k + 1 by omega)]
  · rw [List.getElem?_eq_none (by simp; omega), List.getElem?_eq_none (by simp; omega)]
/-- One more. -/
theorem Wp.next {w w2 : World} {L n : Nat} {ln : Nat → Nat} {g : Nat → Nat → Int} {k : Nat} {QF CF : Nat → Nat} (h : Wp w L n ln g k QF CF) (hk : k < n + 64) {q c : Nat} {u : Value} (hq : w.heap.size ≤ q) (hq2 : q < w2.heap.size) (hb : Below w.heap.size w w2)
    (hu : u = wpU n ln (upd QF k q) (upd CF k c) (k + 1) k) (h1 : k < n → Row w2 5 q (ln k + 64) (ln k + 64) (bytesL (wdB (ln k) (g k)) (ln k + 64))) (h2 : n ≤ k → Lib.Bytes w2 q 0 (txt 9 k)) :
    Wp (w2.setCell ⟨L, k, none⟩ u) L n ln g (k + 1) (upd QF k q) (upd CF k c) := by
  have hL := h.row.lt
  have h0 := h.kept (kept_below hb) (fun _ _ x => x)
  obtain ⟨hr, hkk⟩ := h0.row.put k u
  have hs := hb.size
  have ek : ∀ i, i < k → upd QF k q i = QF i := fun i hi => by unfold upd; rw [if_neg (by omega)]
  have e0 : upd QF k q k = q := by unfold upd; rw [if_pos rfl]
  refine ⟨?_, fun i hi => ?_, fun i j hij hj => ?_, fun i hi hi2 => ?_, fun i hi hi2 => ?_⟩
  · rw [← wpU_set n ln QF CF k q c u hk hu]; exact hr
  · by_cases e : i = k
    · subst e; rw [e0]; exact ⟨by omega, by rw [World.size_setCell]; exact hq2⟩
    · rw [ek i (by omega)]
      have := h0.lo i (by omega)
      exact ⟨this.1, by rw [World.size_setCell]; exact this.2⟩
  · by_cases e : j = k
    · subst e; rw [e0, ek i hij]
      have := (h.lo i hij).2; omega
    · rw [ek i (by omega), ek j (by omega)]; exact h.mono i j hij (by omega)
  · by_cases e : i = k
    · subst e; rw [e0]; exact (h1 hi).kept hkk (by omega)
    · rw [ek i (by omega)]
      exact (h0.pg i hi (by omega)).kept hkk (by have := (h.lo i (by omega)).1; omega)
  · by_cases e : i = k
    · subst e; rw [e0]; exact bytes_keep (h2 hi) hkk (by omega)
    · rw [ek i (by omega)]
      exact bytes_keep (h0.tx i hi (by omega)) hkk (by have := (h.lo i (by omega)).1; omega)
theorem conv_in (s : ByteArray) (w : World) : (convert 9 31 (.string s)).run Tryd.prog w = .ok (.slice (some ⟨w.heap.size, 0, none⟩) s.size (grownCap w s.size 0 5)) (Lib.bytesWorld w 5 s) :=
  Lib.run_convert_string_bytes w 9 31 5 s Tryd.underlying9 Tryd.underlying31 Tryd.underlying5
theorem conv_below (s : ByteArray) (w : World) : Below w.heap.size w (Lib.bytesWorld w 5 s) :=
  ⟨rfl, rfl, rfl, by rw [Lib.bytesWorld_size]; omega, fun k hk => Lib.bytesWorld_at_old w 5 s k hk⟩
theorem conv_bytes (s : ByteArray) (w : World) : Lib.Bytes (Lib.bytesWorld w 5 s) w.heap.size 0 s := fun i hi => by
  rw [Nat.zero_add, Lib.bytesWorld_cell w 5 s i hi]
  congr 3
  have h2 : i < s.data.toList.length := by simpa using hi
  rw [List.getD_eq_getElem?_getD, List.getElem?_eq_getElem h2]
  rfl
set_option maxRecDepth 100000 in
set_option maxHeartbeats 1000000 in
theorem wideP (v : Value) (n : Nat) (ln : Nat → Nat) (g : Nat → Nat → Int) (w : World) (h : PSeg w v n ln g) (hn : n ≤ 2147483647) (hln : ∀ i, i < n → ln i ≤ 2147483647) (ht : Tens w.heap.size w) :
    Calls Tryd.prog 24 #[v] w fun e w' => ∃ QF CF, e = .returned (.slice (some ⟨w.heap.size, 0, none⟩) n (n + 64)) ∧ Wp w' w.heap.size n ln g (n + 64) QF CF ∧ Below w.heap.size w w' := by
  obtain ⟨a, c, rfl, hc, _, k1⟩ := id h
  have HSH := hid (show n = 0 ∨ ∃ b o, a = some ⟨b, o, none⟩ from k1.elim .inl (fun ⟨b, o, e, _⟩ => .inr ⟨b, o, e⟩))
  obtain ⟨i1, hi1, hy0, hy1, hy2⟩ := info_parts Tryd.infBytes
  have HI1 := hid hi1
  have HP := hid h
  have HT := hid ht
  have HLN := hid hln
  clear k1 h hi1 ht hln
  go_enter Tryd.func24, Tryd.ntmps24
  go_wp2_with (at_make; (refine wpList_make_full _ rfl _ _ 24 rfl w.heap.size 31 i1 (.slice none 0 0) 1 Tryd.underlying24 HI1.out hy0 hy1 .i64 .i64 _ _ (n + 64) rfl rfl (by omega) (by omega) (by rw [hy2]; omega) (by unfold maxLen; omega) (Nat.le_refl _) ?_; intro w1 hown hgrow; have hbel : Below w.heap.size w w1 := (Below.refl _ _).grown hgrow (Nat.le_refl _) (by simp); have HO := hid hown; have HG := hid hbel; clear hown hgrow hbel))
  have H0 : Wp w1 w.heap.size n ln g 0 (fun _ => 0) (fun _ => 0) := by
    refine ⟨?_, fun i hi => by omega, fun i j _ hj => by omega, fun i _ hi => by omega, fun i _ hi => by omega⟩
    have e : (madeCells (Value.slice none 0 0).cells ((n + 64) * 1)).toList = (List.range (n + 64)).map (wpU n ln (fun _ => 0) (fun _ => 0) 0) := by
      rw [Nat.mul_one]
      refine (toList_madeCells_one _ _).trans ?_
      apply List.ext_getElem?
      intro j
      rw [List.getElem?_replicate, List.getElem?_map]
      by_cases hj : j < n + 64
      · rw [if_pos hj, List.getElem?_range hj]; simp [wpU]
      · rw [if_neg hj, List.getElem?_eq_none (by rw [List.length_range]; omega)]; rfl
    have := HO.out
    rw [e] at this
    exact Row.of this
  have HH := hid H0
  clear H0 HO
  go_loopw [4] (fun i wr => ∃ k : Nat, k ≤ n + 64 ∧ i = .int .i64 k ∧ Hid (∃ QF CF, Wp wr w.heap.size n ln g k QF CF) ∧ Hid (Below w.heap.size w wr)) (fun i _ => n + 64 - (intOf i).toNat)
  case atStart => exact ⟨0, by omega, rfl, hid ⟨_, _, HH.out⟩, HG⟩
  case round =>
    obtain ⟨k, hk, rfl, HX, HB⟩ := hrel
    clear HH HG
    by_cases hlt : k < n + 64
    · obtain ⟨QF, CF, hW⟩ := HX.out
      have HW := hid hW
      have hLlt := hW.row.lt
      have hcl0 : wr.cell? ⟨w.heap.size, k, none⟩ = some (.slice none 0 0) := by
        rw [hW.row.cell k hlt, List.getElem?_map, List.getElem?_range hlt]
        simp [wpU]
      have hfr0 := hW.row.free k
      have hlt' : (k : Int) < (n : Int) + 64 := by omega
      have HLT := hid hlt
      clear hW HX
      by_cases hkn : k < n
      · obtain ⟨b, o, rfl⟩ : ∃ b o, a = some ⟨b, o, none⟩ := HSH.out.elim (fun h => by omega) id
        have hPS := HP.out.keep (kept_below HB.out)
        obtain ⟨ua, uc, hcl, _, _, hbs⟩ := hPS.at hkn
        have HWB := hid (wideB _ (ln k) (g k) wr hbs (by have := HLN.out k hkn; omega))
        have hkn' : (k : Int) < n := by omega
        have HKN := hid hkn
        clear hPS hbs
        go_wp2_with fail
        refine HWB.out.mono ?_
        rintro e w2 ⟨Q, rfl, hQ, hrow, hb⟩
        have hcl2 := (hb.cell (p := ⟨w.heap.size, k, none⟩) hLlt).trans hcl0
        have hfr2 := (frozen_of_block (hb.block w.heap.size hLlt) k).trans hfr0
        have HN := hid (HW.out.next (q := Q) (c := 0) HLT.out hQ hrow.lt hb (u := .slice (some ⟨Q, 0, none⟩) (ln k) (ln k + 64)) (by unfold wpU upd; rw [if_pos (by omega), if_pos HKN.out, if_pos rfl]) (fun _ => hrow) (fun h => absurd HKN.out (by omega)))
        have HB2 := hid (show Below w.heap.size w (w2.setCell ⟨w.heap.size, k, none⟩ (.slice (some ⟨Q, 0, none⟩) (ln k) (ln k + 64))) from (HB.out.trans (hb.mono HB.out.size)).setCell (Nat.le_refl _) _)
        clear hb hrow hcl hcl0 hfr0
        go_wp2_with fail
        exact ⟨⟨k + 1, by omega, by go_num, hid ⟨_, _, HN.out⟩, HB2⟩, by simp [intOf]; omega⟩
      · have HTX := hid (textC w.heap.size 9 k wr (by omega) (by omega) (HT.out.later HB.out))
        have hkn' : ¬ (k : Int) < n := by omega
        have HKN := hid hkn
        obtain ⟨s, hs⟩ : ∃ s, s = txt 9 k := ⟨_, rfl⟩
        rw [← hs] at HTX
        have HS := hid hs
        clear hs
        have hcv := conv_in s
        go_wp2_with fail
        refine HTX.out.mono ?_
        rintro e w2 ⟨rfl, hb⟩
        have hb3 := hb.trans (((conv_below s w2)).mono hb.size)
        have hcl2 := (hb3.cell (p := ⟨w.heap.size, k, none⟩) hLlt).trans hcl0
        have hfr2 := (frozen_of_block (hb3.block w.heap.size hLlt) k).trans hfr0
        have HN := hid (HW.out.next (q := w2.heap.size) (c := grownCap w2 s.size 0 5) HLT.out hb.size (by rw [Lib.bytesWorld_size]; omega) hb3 (u := .slice (some ⟨w2.heap.size, 0, none⟩) s.size (grownCap w2 s.size 0 5)) (by unfold wpU upd; rw [if_pos (by omega), if_neg HKN.out, if_pos rfl, if_pos rfl, HS.out]) (fun h => absurd h HKN.out) (fun _ => HS.out ▸ conv_bytes s w2))
        have HB2 := hid (show Below w.heap.size w ((Lib.bytesWorld w2 5 s).setCell ⟨w.heap.size, k, none⟩ (.slice (some ⟨w2.heap.size, 0, none⟩) s.size (grownCap w2 s.size 0 5))) from (HB.out.trans (hb3.mono HB.out.size)).setCell (Nat.le_refl _) _)
        clear hb hcl0 hfr0 hb3
        go_wp2_with fail
        exact ⟨⟨k + 1, by omega, by go_num, hid ⟨_, _, HN.out⟩, HB2⟩, by simp [intOf]; omega⟩
    · obtain rfl : k = n + 64 := by omega
      go_wp2_with fail
      go_ret
      obtain ⟨QF, CF, hW⟩ := HX.out
      exact ⟨QF, CF, rfl, hW, HB.out⟩
theorem Wp.U {w : World} {L n : Nat} {ln : Nat → Nat} {g : Nat → Nat → Int} {QF CF : Nat → Nat} (h : Wp w L n ln g (n + 64) QF CF) {i : Nat} (hi : i < n + 64) : w.cell? ⟨L, i, none⟩ = some (wpU n ln QF CF (n + 64) i) := by
  rw [h.row.cell i hi, List.getElem?_map, List.getElem?_range hi]; rfl
theorem Wp.later {w w' : World} {L n : Nat} {ln : Nat → Nat} {g : Nat → Nat → Int} {k : Nat} {QF CF : Nat → Nat} (h : Wp w L n ln g k QF CF) (hb : Below w.heap.size w w') : Wp w' L n ln g k QF CF := h.kept (kept_below hb) (fun _ _ x => x)
set_option maxRecDepth 100000 in
set_option maxHeartbeats 2000000 in
theorem spareP (L n : Nat) (ln : Nat → Nat) (g : Nat → Nat → Int) (QF CF : Nat → Nat) (TB : Nat) (w : World) (h : Wp w L n ln g (n + 64) QF CF) (hn : n ≤ 2147483647) (hln : ∀ i, i < n → ln i ≤ 2147483647) (ht : Tens TB w) (hTB : TB ≤ w.heap.size) :
    Calls Tryd.prog 52 #[.slice (some ⟨L, 0, none⟩) n (n + 64)] w fun e w' => e = .returned (.bool true) ∧ Below w.heap.size w w' := by
  have HW := hid h
  have HT := hid ht
  have HLN := hid hln
  clear h ht hln
  go_enter Tryd.func52, Tryd.ntmps52
  go_wp2_with fail
  go_loopw [4, 5] (fun i x wr => ∃ k : Nat, n ≤ k ∧ k ≤ n + 64 ∧ i = .int .i64 k ∧ Hid (Below w.heap.size w wr)) (fun i _ _ => n + 64 - (intOf i).toNat)
  case atStart => exact ⟨n, by omega, by omega, rfl, hid (Below.refl _ _)⟩
  case round =>
    obtain ⟨k, hk0, hk, rfl, HB⟩ := hrel
    have HWR := hid (HW.out.later HB.out)
    by_cases hlt : k < n + 64
    · have hcl := HWR.out.U hlt
      have hU : wpU n ln QF CF (n + 64) k = .slice (some ⟨QF k, 0, none⟩) (txt 9 k).size (CF k) := by unfold wpU; rw [if_pos hlt, if_neg (by omega)]
      rw [hU] at hcl
      have hby := HWR.out.tx k hk0 hlt
      have hlt' : (k : Int) < (n : Int) + 64 := by omega
      have hd1 := below_drewN wr 1
      have HTX := hid (textC TB 9 k (wr.drewN 1) (by omega) (by omega) ((HT.out.later (HB.out.mono hTB)).later (hd1.mono (Nat.le_trans hTB HB.out.size))))
      obtain ⟨s, hs⟩ : ∃ s, s = txt 9 k := ⟨_, rfl⟩
      rw [← hs] at HTX hcl hby
      have hby1 : Lib.Bytes (wr.drewN 1) (QF k) 0 s := bytes_keep hby (kept_below hd1) (fun x => x)
      have hc1 : (convert 31 9 (.slice (some ⟨QF k, 0, none⟩) s.size (CF k))).run Tryd.prog wr.drew = .ok (.string s) wr.drew := Lib.run_convert_whole _ 31 5 9 Tryd.underlying31 Tryd.underlying5 Tryd.underlying9 (QF k) 0 s hby1 (CF k)
      have HBY := hid hby1
      have HD1 := hid hd1
      have hss : (s.toList == s.toList) = true := by simp
      generalize QF k = q at *
      generalize CF k = cq at *
      clear hU hs hby hby1 hd1
      go_wp2_with fail
      go_region_with (refine HTX.out.mono ?_; rintro e w2 ⟨rfl, hb⟩; have hc2 : (convert 31 9 (.slice (some ⟨q, 0, none⟩) s.size cq)).run Tryd.prog w2 = .ok (.string s) w2 := Lib.run_convert_whole _ 31 5 9 Tryd.underlying31 Tryd.underlying5 Tryd.underlying9 q 0 s (bytes_keep HBY.out (kept_below hb) (fun x => x)) cq; have HB2 := hid (HB.out.trans ((HD1.out.trans (hb.mono HD1.out.size)).mono HB.out.size)); clear hb)
      all_goals
        go_wp2_with fail
        exact ⟨⟨k + 1, by omega, by omega, by go_num, HB2⟩, by simp [intOf]; omega⟩
    · have hge : ¬ (k : Int) < (n : Int) + 64 := by omega
      generalize wr = wa at *
      clear hlt hk hk0
      go_wp2_with fail
      go_loopw [6] (fun i wr => ∃ j : Nat, j ≤ n ∧ i = .int .i64 j ∧ wr = wa) (fun i _ => n - (intOf i).toNat)
      case atStart => exact ⟨0, by omega, rfl, rfl⟩
      case round =>
        obtain ⟨j, hj, rfl, hwr⟩ := hrel
        have hwr' := hwr.symm; subst hwr'; clear hwr
        by_cases hlt : j < n
        · have hcl := HWR.out.U (i := j) (by omega)
          have hU : wpU n ln QF CF (n + 64) j = .slice (some ⟨QF j, 0, none⟩) (ln j) (ln j + 64) := by unfold wpU; rw [if_pos (by omega), if_pos hlt]
          rw [hU] at hcl
          have HSB := hid (spareB (QF j) (ln j) (g j) wa (by have := HLN.out j hlt; omega) (HWR.out.pg j hlt (by omega)))
          have hlt' : (j : Int) < n := by omega
          clear hU
          go_wp2_with fail
          refine HSB.out.mono ?_
          rintro e w' ⟨rfl, hw⟩
          have hw' := hw.symm; subst hw'; clear hw
          go_wp2_with fail
          exact ⟨⟨j + 1, by omega, by go_num, trivial⟩, by simp [intOf]; omega⟩
        · obtain rfl : j = n := by omega
          go_wp2_with fail
          go_ret
          exact ⟨rfl, HB.out⟩
end Go.Proofs.YtbdjghokedfkfaaDoor

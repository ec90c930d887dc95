/-
  The walks over SpareBytes, SizePages, WidePages.
-/
import Derived.Test.YtedkmfklobipaaaDoorWd
namespace Go.Proofs.YtedkmfklobipaaaDoor
open Go.RowKit
set_option linter.unusedVariables false

set_option maxHeartbeats 1000000 in
theorem spareB (B n : Nat) (g : Nat → Int) (w : World) (hn : n ≤ 4194304) (h : Row w 5 B (n + 64) (n + 64) (bytesL (wdB n g) (n + 64))) :
    Calls Tryd.prog 38 #[.slice (some ⟨B, 0, none⟩) n (n + 64)] w fun e w' => e = .returned (.bool true) ∧ w' = w := by
  have HR := hid h
  clear h
  go_enter Tryd.func38, Tryd.ntmps38
  go_wp2_with fail
  go_loopw [4, 5] (fun i x wr => ∃ k : Nat, n ≤ k ∧ k ≤ n + 64 ∧ i = .int .i64 k ∧ wr = w) (fun i _ _ => n + 64 - (intOf i).toNat)
  case atStart => exact ⟨n, by omega, by omega, rfl, rfl⟩
  case round =>
    obtain ⟨k, hk0, hk, rfl, hwr⟩ := hrel
    have hwr' := hwr.symm; subst hwr'; clear hwr
    by_cases hlt : k < n + 64
    · have hcl : w.cell? ⟨B, k, none⟩ = some (.int .u8 (wdB n g k)) := (HR.out.cell k hlt).trans (bytesL_get _ _ _ hlt)
      have hwd : wdB n g k = (279 + 7 * (k : Int) + 3) % 256 := by unfold wdB; rw [if_neg (by omega)]
      rw [hwd] at hcl
      have hlt' : (k : Int) < (n : Int) + 64 := by omega
      have hb : (((279 + 7 * (k : Int) + 3) % 256) == ((279 + 7 * (k : Int) + 3) % 256)) = true := by simp
      clear hwd
      go_wp2_with fail
      exact ⟨⟨k + 1, by omega, by omega, by go_num, trivial⟩, by simp [intOf]; omega⟩
    · obtain rfl : k = n + 64 := by omega
      go_wp2_with fail
      go_ret
      exact ⟨rfl, rfl⟩

/-- The size of the first k, and of the list. -/
def szP (n : Nat) (ln : Nat → Nat) : Nat → Nat
  | 0 => n
  | k + 1 => szP n ln k + ln k
theorem szP_mono (n : Nat) (ln : Nat → Nat) {a b : Nat} (h : a ≤ b) : szP n ln a ≤ szP n ln b := by
  induction b with
  | zero => have : a = 0 := by omega
            subst this; exact Nat.le_refl _
  | succ b ih =>
    by_cases e : a = b + 1
    · subst e; exact Nat.le_refl _
    · have := ih (by omega)
      simp only [szP]; omega
theorem szP_ln (n : Nat) (ln : Nat → Nat) {k : Nat} (h : k < n) : ln k ≤ szP n ln n := by
  have := szP_mono n ln (show k + 1 ≤ n by omega)
  simp only [szP] at this; omega
theorem szP_n (n : Nat) (ln : Nat → Nat) : n ≤ szP n ln n := szP_mono n ln (Nat.zero_le n)

set_option maxHeartbeats 1000000 in
theorem sizeP (v : Value) (n : Nat) (ln : Nat → Nat) (g : Nat → Nat → Int) (w : World) (h : PSeg w v n ln g) :
    Calls Tryd.prog 6 #[v] w fun e w' => ∃ s : Nat, e = .returned (.int .i64 s) ∧ (s ≤ 2147483647 → s = szP n ln n) ∧ w' = w := by
  obtain ⟨a, c, rfl, hc, hn, k1⟩ := id h
  have HSH := hid (show n = 0 ∨ ∃ b o, a = some ⟨b, o, none⟩ from k1.elim .inl (fun ⟨b, o, e, _⟩ => .inr ⟨b, o, e⟩))
  have HP := hid h
  clear k1 h
  go_enter Tryd.func6, Tryd.ntmps6
  go_wp2_with fail
  go_loopw [3, 4] (fun s i wr => ∃ k : Nat, k ≤ n ∧ s = .int .i64 (szP n ln k : Nat) ∧ i = .int .i64 k ∧ wr = w ∧ szP n ln k ≤ 281474976710656) (fun _ i _ => n - (intOf i).toNat)
  case atStart => exact ⟨0, by omega, rfl, rfl, rfl, by simp only [szP]; omega⟩
  case round =>
    obtain ⟨k, hk, rfl, rfl, hwr, hsz⟩ := hrel
    have hwr' := hwr.symm; subst hwr'; clear hwr
    by_cases hlt : k < n
    · by_cases hbd : szP n ln k ≤ 2147483647
      · obtain ⟨b, o, rfl⟩ : ∃ b o, a = some ⟨b, o, none⟩ := HSH.out.elim (fun h => by omega) id
        obtain ⟨ua, uc, hcl, hl1, hl2, _⟩ := HP.out.at hlt
        have HN := hid (show szP n ln (k + 1) = szP n ln k + ln k from rfl)
        have hlt' : (k : Int) < (n : Int) := by omega
        have hbd' : ((szP n ln k : Nat) : Int) ≤ 2147483647 := by omega
        have hd : decide (((szP n ln k : Nat) : Int) ≤ 2147483647) = true := by simpa using hbd'
        generalize szP n ln k = s at *
        generalize ln k = l at *
        go_wp2_with fail
        refine ⟨⟨k + 1, by omega, ?_, by go_num, trivial, ?_⟩, by simp [intOf]; omega⟩
        · rw [HN.out]; go_num
        · rw [HN.out]; omega
      · have hlt' : (k : Int) < (n : Int) := by omega
        have hbd' : ¬ ((szP n ln k : Nat) : Int) ≤ 2147483647 := by omega
        have hd : decide (((szP n ln k : Nat) : Int) ≤ 2147483647) = false := by simpa using hbd'
        generalize szP n ln k = s at *
        go_wp2_with fail
        go_ret
        exact ⟨s, rfl, fun h => by omega, rfl⟩
    · obtain rfl : k = n := by omega
      have hlt' : ¬ (k : Int) < (k : Int) := by omega
      obtain ⟨s, hs⟩ : ∃ s, s = szP k ln k := ⟨_, rfl⟩
      have HS := hid hs
      rw [← hs]
      clear hs
      go_wp2_with fail
      go_ret
      exact ⟨s, rfl, fun _ => HS.out, rfl⟩

/-! Lists with marks behind them. -/
def wpU (n : Nat) (ln : Nat → Nat) (QF CF : Nat → Nat) (k i : Nat) : Value :=
  if i < k then (if i < n then .slice (some ⟨QF i, 0, none⟩) (ln i) (ln i + 64) else .slice (some ⟨QF i, 0, none⟩) (txt 9 i).size (CF i)) else .slice none 0 0
structure Wp (w : World) (L n : Nat) (ln : Nat → Nat) (g : Nat → Nat → Int) (k : Nat) (QF CF : Nat → Nat) : Prop where
  row : Row w 41 L (n + 64) (n + 64) ((List.range (n + 64)).map (wpU n ln QF CF k))
  lo : ∀ i, i < k → L < QF i ∧ QF i < w.heap.size
  mono : ∀ i j, i < j → j < k → QF i < QF j
  pg : ∀ i, i < n → i < k → Row w 5 (QF i) (ln i + 64) (ln i + 64) (bytesL (wdB (ln i) (g i)) (ln i + 64))
  tx : ∀ i, n ≤ i → i < k → Lib.Bytes w (QF i) 0 (txt 9 i)
theorem bytes_keep {S : Nat → Prop} {w w' : World} {b o : Nat} {s : ByteArray} (h : Lib.Bytes w b o s) (hk : Kept S w w') (hs : ¬ S b) : Lib.Bytes w' b o s := fun i hi => hk.cell (h i hi) hs
theorem Wp.kept {S : Nat → Prop} {w w' : World} {L n : Nat} {ln : Nat → Nat} {g : Nat → Nat → Int} {k : Nat} {QF CF : Nat → Nat} (h : Wp w L n ln g k QF CF) (hk : Kept S w w') (hs : ∀ q, L ≤ q → ¬ S q) : Wp w' L n ln g k QF CF :=
  ⟨h.row.kept hk (hs L (Nat.le_refl _)), fun i hi => ⟨(h.lo i hi).1, Nat.lt_of_lt_of_le (h.lo i hi).2 hk.size⟩, h.mono, fun i hi hi2 => (h.pg i hi hi2).kept hk (hs _ (Nat.le_of_lt (h.lo i hi2).1)), fun i hi hi2 => bytes_keep (h.tx i hi hi2) hk (hs _ (Nat.le_of_lt (h.lo i hi2).1))⟩
theorem wpU_set (n : Nat) (ln : Nat → Nat) (QF CF : Nat → Nat) (k q c : Nat) (u : Value) (hk : k < n + 64) (hu : u = wpU n ln (upd QF k q) (upd CF k c) (k + 1) k) :
    ((List.range (n + 64)).map (wpU n ln QF CF k)).set k u = (List.range (n + 64)).map (wpU n ln (upd QF k q) (upd CF k c) (k + 1)) := by
  apply List.ext_getElem?
  intro j
  by_cases hj : j < n + 64
  · by_cases e : j = k
    · subst e
      rw [List.getElem?_set_self (by simp; omega), List.getElem?_map, List.getElem?_range hj, hu]; rfl
    · rw [List.getElem?_set_ne (fun x => e x.symm), List.getElem?_map, List.getElem?_map, List.getElem?_range hj]
      simp only [Option.map_some]
      congr 1
      unfold wpU upd
      by_cases h1 : j < k
      · rw [if_pos h1, if_pos (show j < k + 1 by omega)]
        simp only [e, if_false]
      · rw [if_neg h1, if_neg (show ¬ j < k + 1 by omega)]
  · rw [List.getElem?_eq_none (by simp; omega), List.getElem?_eq_none (by simp; omega)]
/-- One more. -/
theorem Wp.next {w w2 : World} {L n : Nat} {ln : Nat → Nat} {g : Nat → Nat → Int} {k : Nat} {QF CF : Nat → Nat} (h : Wp w L n ln g k QF CF) (hk : k < n + 64) {q c : Nat} {u : Value} (hq : w.heap.size ≤ q) (hq2 : q < w2.heap.size) (hb : Below w.heap.size w w2)
    (hu : u = wpU n ln (upd QF k q) (upd CF k c) (k + 1) k) (h1 : k < n → Row w2 5 q (ln k + 64) (ln k + 64) (bytesL (wdB (ln k) (g k)) (ln k + 64))) (h2 : n ≤ k → Lib.Bytes w2 q 0 (txt 9 k)) :
    Wp (w2.setCell ⟨L, k, none⟩ u) L n ln g (k + 1) (upd QF k q) (upd CF k c) := by
  have hL := h.row.lt
  have h0 := h.kept (kept_below hb) (fun _ _ x => x)
  obtain ⟨hr, hkk⟩ := h0.row.put k u
  have hs := hb.size
  have ek : ∀ i, i < k → upd QF k q i = QF i := fun i hi => by unfold upd; rw [if_neg (by omega)]
  have e0 : upd QF k q k = q := by unfold upd; rw [if_pos rfl]
  refine ⟨?_, fun i hi => ?_, fun i j hij hj => ?_, fun i hi hi2 => ?_, fun i hi hi2 => ?_⟩
  · rw [← wpU_set n ln QF CF k q c u hk hu]; exact hr
  · by_cases e : i = k
    · subst e; rw [e0]; exact ⟨by omega, by rw [World.size_setCell]; exact hq2⟩
    · rw [ek i (by omega)]
      have := h0.lo i (by omega)
      exact ⟨this.1, by rw [World.size_setCell]; exact this.2⟩
  · by_cases e : j = k
    · subst e; rw [e0, ek i hij]
      have := (h.lo i hij).2; omega
    · rw [ek i (by omega), ek j (by omega)]; exact h.mono i j hij (by omega)
  · by_cases e : i = k
    · subst e; rw [e0]; exact (h1 hi).kept hkk (by omega)
    · rw [ek i (by omega)]
      exact (h0.pg i hi (by omega)).kept hkk (by have := (h.lo i (by omega)).1; omega)
  · by_cases e : i = k
    · subst e; rw [e0]; exact bytes_keep (h2 hi) hkk (by omega)
    · rw [ek i (by omega)]
      exact bytes_keep (h0.tx i hi (by omega)) hkk (by have := (h.lo i (by omega)).1; omega)
end Go.Proofs.YtedkmfklobipaaaDoor

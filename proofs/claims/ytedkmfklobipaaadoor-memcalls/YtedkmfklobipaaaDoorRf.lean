/-
  The document's memory in memory; the walks over its lies, Size, Load, Store, Dirty, Clean.
-/
import Derived.Test.YtedkmfklobipaaaDoorBy
namespace Go.Proofs.YtedkmfklobipaaaDoor
open Go.RowKit
set_option linter.unusedVariables false

/-- The first n bytes. -/
def bytesL (f : Nat → Int) (n : Nat) : List Value := (List.range n).map fun a => Value.int .u8 (f a)
theorem bytesL_len (f : Nat → Int) (n : Nat) : (bytesL f n).length = n := by unfold bytesL; rw [List.length_map, List.length_range]
theorem bytesL_get (f : Nat → Int) (n a : Nat) (h : a < n) : (bytesL f n)[a]? = some (.int .u8 (f a)) := by
  unfold bytesL
  rw [List.getElem?_map, List.getElem?_range h]; rfl
theorem bytesL_set (f : Nat → Int) (n a : Nat) (z : Int) : (bytesL f n).set a (.int .u8 z) = bytesL (upd f a z) n := by
  apply List.ext_getElem?
  intro j
  by_cases hj : j < n
  · rw [bytesL_get _ _ _ hj]
    by_cases e : j = a
    · subst e
      rw [List.getElem?_set_self (by rw [bytesL_len]; exact hj)]
      unfold upd; rw [if_pos rfl]
    · rw [List.getElem?_set_ne (fun x => e x.symm), bytesL_get _ _ _ hj]
      unfold upd; rw [if_neg e]
  · rw [List.getElem?_eq_none (by rw [List.length_set, bytesL_len]; omega), List.getElem?_eq_none (by rw [bytesL_len]; omega)]

/-- The document's memory: its block X, its bytes' block B, its marks' block V. -/
structure Rfm (w : World) (X most B c V N : Nat) (f : Nat → Int) (d : Nat → Bool) : Prop where
  blk : w.heap[X]? = some (Obj.cells #[.slice (some ⟨B, 0, none⟩) (N * 4096) c, .int .i64 most, .slice (some ⟨V, 0, none⟩) 64 64] 83)
  row : Row w 5 B (N * 4096) c (bytesL f (N * 4096))
  mks : w.heap[V]? = some (Obj.cells (marksL d).toArray 4)
  le : N ≤ most
  top : most ≤ 64
  rng : ∀ a, 0 ≤ f a ∧ f a ≤ 255
  nt : ∀ a, N * 4096 ≤ a → f a = 0
def Fq (X B V k : Nat) : Prop := k = X ∨ k = B ∨ k = V

section
variable {w w' : World} {X most B c V N : Nat} {f : Nat → Int} {d : Nat → Bool}
theorem Rfm.lt (h : Rfm w X most B c V N f d) {k : Nat} (hk : Fq X B V k) : k < w.heap.size := by
  rcases hk with rfl | rfl | rfl
  · exact lt_at h.blk
  · exact h.row.lt
  · exact lt_at h.mks
theorem Rfm.kept {S : Nat → Prop} (h : Rfm w X most B c V N f d) (hk : Kept S w w') (hs : ∀ k, Fq X B V k → ¬ S k) : Rfm w' X most B c V N f d :=
  ⟨(hk.block X (h.lt (.inl rfl)) (hs X (.inl rfl))).trans h.blk, h.row.kept hk (hs B (.inr (.inl rfl))), (hk.block V (h.lt (.inr (.inr rfl))) (hs V (.inr (.inr rfl)))).trans h.mks, h.le, h.top, h.rng, h.nt⟩
theorem Rfm.later (h : Rfm w X most B c V N f d) (hb : Below w.heap.size w w') : Rfm w' X most B c V N f d :=
  h.kept (Kept.of_below hb) (fun k hk hs => absurd (h.lt hk) (by omega))
theorem Rfm.c0 (h : Rfm w X most B c V N f d) : w.cell? ⟨X, 0, none⟩ = some (.slice (some ⟨B, 0, none⟩) (N * 4096) c) := by rw [cell_at h.blk]; rfl
theorem Rfm.c1 (h : Rfm w X most B c V N f d) : w.cell? ⟨X, 1, none⟩ = some (.int .i64 most) := by rw [cell_at h.blk]; rfl
theorem Rfm.c2 (h : Rfm w X most B c V N f d) : w.cell? ⟨X, 2, none⟩ = some (.slice (some ⟨V, 0, none⟩) 64 64) := by rw [cell_at h.blk]; rfl
theorem Rfm.byt (h : Rfm w X most B c V N f d) {a : Nat} (ha : a < N * 4096) : w.cell? ⟨B, a, none⟩ = some (.int .u8 (f a)) := (h.row.cell a ha).trans (bytesL_get f _ a ha)
theorem Rfm.mrk (h : Rfm w X most B c V N f d) {i : Nat} (hi : i < 64) : w.cell? ⟨V, i, none⟩ = some (.bool (d i)) := by
  rw [cell_at h.mks, List.getElem?_toArray]; exact marksL_get d i hi
theorem Rfm.mfree (h : Rfm w X most B c V N f d) (i : Nat) : w.frozen? ⟨V, i, none⟩ = false := free_at h.mks
theorem Rfm.cap (h : Rfm w X most B c V N f d) : N * 4096 ≤ c := by
  obtain ⟨_, _, h1, _⟩ := h.row.block; exact h1
theorem Rfm.BX (h : Rfm w X most B c V N f d) : B ≠ X := by
  intro e; subst e
  obtain ⟨_, h1, _⟩ := h.row.block
  rw [h.blk] at h1; simp at h1
theorem Rfm.VX (h : Rfm w X most B c V N f d) : V ≠ X := by
  intro e; subst e
  have h1 := h.blk
  rw [h.mks] at h1; simp at h1
theorem Rfm.BV (h : Rfm w X most B c V N f d) : B ≠ V := by
  intro e; subst e
  obtain ⟨_, h1, _⟩ := h.row.block
  rw [h.mks] at h1; simp at h1

theorem marksA_get (d : Nat → Bool) (j : Nat) : (marksL d).toArray[j]? = (marksL d)[j]? := List.getElem?_toArray ..
theorem marks_set (d : Nat → Bool) (i : Nat) (b : Bool) : (marksL d).toArray.setIfInBounds i (.bool b) = (marksL (upd d i b)).toArray := by
  apply Array.ext_getElem?
  intro j
  rw [marksA_get (upd d i b)]
  by_cases hj : j < 64
  · rw [marksL_get _ _ hj]
    by_cases e : j = i
    · subst e
      rw [Array.getElem?_setIfInBounds_self_of_lt (by simp [marksL_len]; exact hj)]; simp [upd]
    · rw [Array.getElem?_setIfInBounds_ne (fun x => e x.symm), marksA_get, marksL_get _ _ hj]; simp [upd, e]
  · rw [Array.getElem?_eq_none (by simp [marksL_len]; omega), List.getElem?_eq_none (by rw [marksL_len]; omega)]
theorem Rfm.mark (h : Rfm w X most B c V N f d) (i : Nat) (b : Bool) : Rfm (w.setCell ⟨V, i, none⟩ (.bool b)) X most B c V N f (upd d i b) := by
  have hk := kept_setCell w V i (.bool b)
  refine ⟨(hk.block X (h.lt (.inl rfl)) (fun e => h.VX e.symm)).trans h.blk, h.row.kept hk h.BV, ?_, h.le, h.top, h.rng, h.nt⟩
  rw [← marks_set]
  exact heap_setCell_same w V i _ _ _ h.mks
theorem Rfm.byte (h : Rfm w X most B c V N f d) {a : Nat} (ha : a < N * 4096) (z : Int) (hz : 0 ≤ z ∧ z ≤ 255) : Rfm (w.setCell ⟨B, a, none⟩ (.int .u8 z)) X most B c V N (upd f a z) d := by
  obtain ⟨h1, hk⟩ := h.row.put a (.int .u8 z)
  rw [bytesL_set] at h1
  refine ⟨(hk.block X (h.lt (.inl rfl)) (fun e => h.BX e.symm)).trans h.blk, h1, (hk.block V (h.lt (.inr (.inr rfl))) (fun e => h.BV e.symm)).trans h.mks, h.le, h.top, fun x => ?_, fun x hx => ?_⟩
  · unfold upd; split
    · exact hz
    · exact h.rng x
  · unfold upd; rw [if_neg (by omega)]; exact h.nt x hx
end

/-! Its calls. -/
theorem rsize (X most B c V N : Nat) (f : Nat → Int) (d : Nat → Bool) (w : World) (h : Rfm w X most B c V N f d) :
    Calls Tryd.prog 15 #[.pointer (some ⟨X, 0, none⟩)] w fun e w' => e = .returned (.int .i64 N) ∧ w' = w := by
  have c0 := h.c0
  have hN : N ≤ 64 := Nat.le_trans h.le h.top
  clear h
  go_enter Tryd.func15, Tryd.ntmps15
  go_wp2_with fail
  go_ret
  exact ⟨rfl, rfl⟩

theorem rlies (X most B c V N : Nat) (f : Nat → Int) (d : Nat → Bool) (a : Nat) (n : Int) (w : World) (h : Rfm w X most B c V N f d) (ha : a ≤ 18446744073709551615) :
    Calls Tryd.prog 41 #[.pointer (some ⟨X, 0, none⟩), .int .u64 a, .int .i64 n] w fun e w' => e = .returned (.bool (hol N a n)) ∧ w' = w := by
  have c0 := h.c0
  have hN : N ≤ 64 := Nat.le_trans h.le h.top
  clear h
  by_cases hw : wid n = true
  · have hn : n = 1 ∨ n = 2 ∨ n = 4 ∨ n = 8 := by simpa [wid, or_assoc] using hw
    have HW := hid hw
    clear hw
    by_cases h1 : (a : Int) < N * 4096
    · have e1 : decide ((a : Int) < (N : Int) * 4096) = true := by simpa using h1
      by_cases h2 : n ≤ N * 4096 - a
      · have HQ := hid (show hol N a n = true by simp only [hol, HW.out, h1, h2]; rfl)
        rcases hn with rfl | rfl | rfl | rfl <;>
        · go_enter Tryd.func41, Tryd.ntmps41
          go_wp2_with fail
          go_ret
          exact ⟨by rw [HQ.out]; rfl, rfl⟩
      · have e2 : decide (n ≤ (N : Int) * 4096 - a) = false := by simpa using h2
        have HQ := hid (show hol N a n = false by simp only [hol, HW.out, h1, h2]; rfl)
        rcases hn with rfl | rfl | rfl | rfl
        · omega
        all_goals
        · go_enter Tryd.func41, Tryd.ntmps41
          go_wp2_with fail
          go_ret
          exact ⟨by rw [HQ.out]; rfl, rfl⟩
    · have e1 : decide ((a : Int) < (N : Int) * 4096) = false := by simpa using h1
      have HQ := hid (show hol N a n = false by simp only [hol, HW.out, h1]; rfl)
      rcases hn with rfl | rfl | rfl | rfl <;>
      · go_enter Tryd.func41, Tryd.ntmps41
        go_wp2_with fail
        go_ret
        exact ⟨by rw [HQ.out]; rfl, rfl⟩
  · have hw0 : wid n = false := by simpa using hw
    have HQ := hid (show hol N a n = false by simp only [hol, hw0]; rfl)
    have hn : ¬ n = 1 ∧ ¬ n = 2 ∧ ¬ n = 4 ∧ ¬ n = 8 := by simp [wid] at hw0; omega
    obtain ⟨n1, n2, n4, n8⟩ := hn
    have b1 : (n != 1) = true := by simpa using n1
    have b2 : (n != 2) = true := by simpa using n2
    have b4 : (n != 4) = true := by simpa using n4
    have b8 : (n != 8) = true := by simpa using n8
    clear hw hw0
    go_enter Tryd.func41, Tryd.ntmps41
    go_wp2_with fail
    go_ret
    exact ⟨by rw [HQ.out]; rfl, rfl⟩

theorem rload_not (X most B c V N : Nat) (f : Nat → Int) (d : Nat → Bool) (a : Nat) (n : Int) (w : World) (h : Rfm w X most B c V N f d) (ha : a ≤ 18446744073709551615) (hh : hol N a n = false) :
    Calls Tryd.prog 20 #[.pointer (some ⟨X, 0, none⟩), .int .u64 a, .int .i64 n] w fun e w' => e = .returned (.tuple #[.int .u64 0, .bool false]) ∧ w' = w := by
  have HC := hid (hh ▸ rlies X most B c V N f d a n w h ha)
  clear h hh
  go_enter Tryd.func20, Tryd.ntmps20
  go_wp2_with fail
  refine HC.out.mono ?_
  rintro e w' ⟨rfl, hw⟩
  have hw' := hw.symm; subst hw'; clear hw
  go_wp2_with fail
  go_ret2
  exact ⟨rfl, rfl⟩
theorem ldv_low (f : Nat → Int) (a : Nat) : ∀ k, ldv f a (k + 1) = f a + ldv f (a + 1) k * 256
  | 0 => by simp [ldv]
  | k + 1 => by
    have ih := ldv_low f a k
    rw [show ldv f a (k + 1 + 1) = ldv f a (k + 1) + f (a + (k + 1)) * 2 ^ (8 * (k + 1)) from rfl, ih]
    rw [show ldv f (a + 1) (k + 1) = ldv f (a + 1) k + f (a + 1 + k) * 2 ^ (8 * k) from rfl]
    have e : (2 : Int) ^ (8 * (k + 1)) = 2 ^ (8 * k) * 256 := by rw [show 8 * (k + 1) = 8 * k + 8 by omega, Int.pow_add]; rfl
    rw [e, show a + (k + 1) = a + 1 + k by omega, Int.add_mul, Int.mul_assoc, Int.add_assoc]
theorem pow56 {k : Nat} (h : k ≤ 7) : (2 : Int) ^ (8 * k) ≤ 72057594037927936 := by
  rcases (show k = 0 ∨ k = 1 ∨ k = 2 ∨ k = 3 ∨ k = 4 ∨ k = 5 ∨ k = 6 ∨ k = 7 by omega) with rfl | rfl | rfl | rfl | rfl | rfl | rfl | rfl <;> decide

set_option maxHeartbeats 1000000 in
theorem rload_yes (X most B c V N : Nat) (f : Nat → Int) (d : Nat → Bool) (a n : Nat) (w : World) (h : Rfm w X most B c V N f d) (ha : a ≤ 18446744073709551615) (hh : hol N a n = true) :
    Calls Tryd.prog 20 #[.pointer (some ⟨X, 0, none⟩), .int .u64 a, .int .i64 n] w fun e w' => e = .returned (.tuple #[.int .u64 (ldv f a n), .bool true]) ∧ w' = w := by
  have HC := hid (hh ▸ rlies X most B c V N f d a n w h ha)
  have HM := hid h
  have hN : N ≤ 64 := Nat.le_trans h.le h.top
  have hb0 : 0 < n ∧ n ≤ 8 ∧ a + n ≤ N * 4096 := by simp [hol, wid] at hh; omega
  have c0 := h.c0
  have hcap := h.cap
  clear h hh
  go_enter Tryd.func20, Tryd.ntmps20
  go_wp2_with fail
  refine HC.out.mono ?_
  rintro e w' ⟨rfl, hw⟩
  have hw' := hw.symm; subst hw'; clear hw
  go_wp2_with fail
  go_loopw [8, 9] (fun v i wr => ∃ j : Nat, j ≤ n ∧ v = .int .u64 (ldv f (a + j) (n - j)) ∧ i = .int .i64 ((j : Int) - 1) ∧ wr = w) (fun _ i _ => (intOf i + 1).toNat)
  case atStart => exact ⟨n, by omega, by simp [ldv], rfl, rfl⟩
  case round =>
    obtain ⟨j, hj, rfl, rfl, hwr⟩ := hrel
    have hwr' := hwr.symm; subst hwr'; clear hwr
    by_cases h0 : 0 < j
    · obtain ⟨j, rfl⟩ : ∃ i, j = i + 1 := ⟨j - 1, by omega⟩
      have hst := ldv_low f (a + j) (n - (j + 1))
      rw [show n - (j + 1) + 1 = n - j by omega, show a + j + 1 = a + (j + 1) by omega] at hst
      have HS := hid hst
      have hcl := HM.out.byt (show a + j < N * 4096 by omega)
      have hr := ldv_rng HM.out.rng (a := a + (j + 1)) (n - (j + 1))
      have hp := pow56 (show n - (j + 1) ≤ 7 by omega)
      have hV : 0 ≤ ldv f (a + (j + 1)) (n - (j + 1)) ∧ ldv f (a + (j + 1)) (n - (j + 1)) < 72057594037927936 := by omega
      have hz := HM.out.rng (a + j)
      clear hr hp hst
      generalize ldv f (a + (j + 1)) (n - (j + 1)) = Z at *
      generalize f (a + j) = z at *
      rw [show ((j + 1 : Nat) : Int) - 1 = j by omega]
      go_wp2_with fail
      refine ⟨⟨j, by omega, ?_, rfl, trivial⟩, by simp [intOf]⟩
      rw [HS.out]; go_num
    · obtain rfl : j = 0 := by omega
      go_wp2_with fail
      go_ret2
      exact ⟨rfl, rfl⟩
theorem rload_any (X most B c V N : Nat) (f : Nat → Int) (d : Nat → Bool) (a : Nat) (n : Int) (w : World) (h : Rfm w X most B c V N f d) (ha : a ≤ 18446744073709551615) :
    Calls Tryd.prog 20 #[.pointer (some ⟨X, 0, none⟩), .int .u64 a, .int .i64 n] w fun e w' => e = .returned (.tuple #[.int .u64 (ldA N f a n), .bool (hol N a n)]) ∧ w' = w := by
  cases hh : hol N a n
  · refine (rload_not X most B c V N f d a n w h ha hh).mono fun e w' ⟨he, hw⟩ => ⟨?_, hw⟩
    rw [he]; simp [ldA, hh]
  · have hn : 0 < n := by simp [hol, wid] at hh; omega
    obtain ⟨m, rfl⟩ := Int.eq_ofNat_of_zero_le (Int.le_of_lt hn)
    refine (rload_yes X most B c V N f d a m w h ha hh).mono fun e w' ⟨he, hw⟩ => ⟨?_, hw⟩
    rw [he]; simp [ldA, hh]

theorem rstore_not (X most B c V N : Nat) (f : Nat → Int) (d : Nat → Bool) (a : Nat) (n v : Int) (w : World) (h : Rfm w X most B c V N f d) (ha : a ≤ 18446744073709551615) (hh : hol N a n = false) :
    Calls Tryd.prog 22 #[.pointer (some ⟨X, 0, none⟩), .int .u64 a, .int .i64 n, .int .u64 v] w fun e w' => e = .returned (.bool false) ∧ w' = w := by
  have HC := hid (hh ▸ rlies X most B c V N f d a n w h ha)
  clear h hh
  go_enter Tryd.func22, Tryd.ntmps22
  go_wp2_with fail
  refine HC.out.mono ?_
  rintro e w' ⟨rfl, hw⟩
  have hw' := hw.symm; subst hw'; clear hw
  go_wp2_with fail
  go_ret
  exact ⟨rfl, rfl⟩
set_option maxHeartbeats 1000000 in
theorem rstore_yes (X most B c V N : Nat) (f : Nat → Int) (d : Nat → Bool) (a n : Nat) (v : Int) (w : World) (h : Rfm w X most B c V N f d) (ha : a ≤ 18446744073709551615) (hv : 0 ≤ v ∧ v ≤ 18446744073709551615) (hh : hol N a n = true) :
    Calls Tryd.prog 22 #[.pointer (some ⟨X, 0, none⟩), .int .u64 a, .int .i64 n, .int .u64 v] w fun e w' => e = .returned (.bool true) ∧ Rfm w' X most B c V N (stR f a v n) (stM d a n) ∧ Kept (Fq X B V) w w' := by
  have HC := hid (hh ▸ rlies X most B c V N f d a n w h ha)
  have HM := hid h
  have hN : N ≤ 64 := Nat.le_trans h.le h.top
  have hb0 : 0 < n ∧ n ≤ 8 ∧ a + n ≤ N * 4096 := by simp [hol, wid] at hh; omega
  have hcap := h.cap
  clear h hh
  go_enter Tryd.func22, Tryd.ntmps22
  go_wp2_with fail
  refine HC.out.mono ?_
  rintro e w' ⟨rfl, hw⟩
  have hw' := hw.symm; subst hw'; clear hw
  go_wp2_with fail
  go_loopw [3, 9] (fun u i wr => ∃ k : Nat, k ≤ n ∧ u = .int .u64 (v / 2 ^ (8 * k)) ∧ i = .int .i64 k ∧ Hid (Rfm wr X most B c V N (stR f a v k) (stM d a k)) ∧ Hid (Kept (Fq X B V) w wr)) (fun _ i _ => n - (intOf i).toNat)
  case atStart => exact ⟨0, by omega, by simp, rfl, HM, hid (Kept.refl _ _)⟩
  case round =>
    obtain ⟨k, hk, rfl, rfl, HX, HK⟩ := hrel
    have hp0 : (0 : Int) < 2 ^ (8 * k) := Int.pow_pos (by decide)
    have hu0 : 0 ≤ v / 2 ^ (8 * k) := Int.ediv_nonneg hv.1 (Int.le_of_lt hp0)
    have hu1 : v / 2 ^ (8 * k) ≤ 18446744073709551615 := Int.le_trans (Int.ediv_le_self _ hv.1) hv.2
    have HU := hid (show v / 2 ^ (8 * (k + 1)) = v / 2 ^ (8 * k) / 256 by
      rw [show 8 * (k + 1) = 8 * k + 8 by omega, Int.pow_add, Int.ediv_ediv_of_nonneg (Int.le_of_lt hp0)]; rfl)
    by_cases hlt : k < n
    · have c0 := HX.out.c0
      have hb1 := HX.out.byte (show a + k < N * 4096 by omega) (v / 2 ^ (8 * k) % 256) (by omega)
      have hcl := HX.out.byt (show a + k < N * 4096 by omega)
      have hfr := HX.out.row.free (a + k)
      have hm := hb1.mark ((a + k) / 4096) true
      have e2 := hb1.c2
      have e3 := hb1.mrk (show (a + k) / 4096 < 64 by omega)
      have e4 := hb1.mfree ((a + k) / 4096)
      have HM2 := hid hm
      have HK1 := hid (kept_setCell wr B (a + k) (.int .u8 (v / 2 ^ (8 * k) % 256)))
      clear hm hb1 HM HC hp0
      obtain ⟨u, hu⟩ : ∃ u, u = v / 2 ^ (8 * k) := ⟨_, rfl⟩
      rw [← hu] at hu0 hu1 HU e2 e3 e4 HM2 HK1 ⊢
      have HUU := hid hu
      clear hu
      go_wp2_with fail
      refine ⟨⟨k + 1, by omega, by rw [HU.out], by go_num, hid ?_, hid (HK.out.trans ((HK1.out.mono (fun q hq => .inr (.inl hq))).trans ((kept_setCell _ V _ _).mono (fun q hq => .inr (.inr hq)))))⟩, by simp [intOf]; omega⟩
      have := HM2.out
      rw [HUU.out] at this ⊢
      exact this
    · obtain rfl : k = n := by omega
      clear HC HM hp0
      generalize v / 2 ^ (8 * k) = u at *
      go_wp2_with fail
      go_ret
      exact ⟨rfl, HX.out, HK.out⟩

theorem rclean_step (d : Nat → Bool) (k : Nat) : upd (fun i => if i < k then false else d i) k false = fun i => if i < k + 1 then false else d i := by
  funext i
  unfold upd
  by_cases e : i = k
  · subst e; rw [if_pos rfl, if_pos (by omega)]
  · rw [if_neg e]
    dsimp only
    by_cases h : i < k
    · rw [if_pos h, if_pos (by omega)]
    · rw [if_neg h, if_neg (by omega)]
theorem marks_congr {d d' : Nat → Bool} (h : ∀ i, i < 64 → d i = d' i) : marksL d = marksL d' := by
  unfold marksL
  apply List.map_congr_left
  intro i hi
  rw [h i (by simpa using hi)]
theorem Rfm.congr {w : World} {X most B c V N : Nat} {f : Nat → Int} {d d' : Nat → Bool} (h : Rfm w X most B c V N f d) (e : ∀ i, i < 64 → d i = d' i) : Rfm w X most B c V N f d' :=
  ⟨h.blk, h.row, marks_congr e ▸ h.mks, h.le, h.top, h.rng, h.nt⟩
set_option maxHeartbeats 1000000 in
theorem rclean (X most B c V N : Nat) (f : Nat → Int) (d : Nat → Bool) (w : World) (h : Rfm w X most B c V N f d) :
    Calls Tryd.prog 26 #[.pointer (some ⟨X, 0, none⟩)] w fun e w' => e = .returned (.tuple #[]) ∧ Rfm w' X most B c V N f (fun _ => false) ∧ Kept (Fq X B V) w w' := by
  have HM := hid h
  clear h
  go_enter Tryd.func26, Tryd.ntmps26
  go_wp2_with fail
  go_loopw [2] (fun i wr => ∃ k : Nat, k ≤ 64 ∧ i = .int .i64 k ∧ Hid (Rfm wr X most B c V N f (fun i => if i < k then false else d i)) ∧ Hid (Kept (Fq X B V) w wr)) (fun i _ => 64 - (intOf i).toNat)
  case atStart => exact ⟨0, by omega, rfl, hid (HM.out.congr (fun i _ => by simp)), hid (Kept.refl _ _)⟩
  case round =>
    obtain ⟨k, hk, rfl, HX, HK⟩ := hrel
    have c2 := HX.out.c2
    clear HM
    by_cases hlt : k < 64
    · have e3 := HX.out.mrk hlt
      have e4 := HX.out.mfree k
      have HM2 := hid (rclean_step d k ▸ HX.out.mark k false)
      have hd : decide ((k : Int) < 64) = true := by simp; omega
      go_wp2_with fail
      exact ⟨⟨k + 1, by omega, by go_num, HM2, hid (HK.out.trans ((kept_setCell _ V _ _).mono (fun q hq => .inr (.inr hq))))⟩, by simp [intOf]; omega⟩
    · obtain rfl : k = 64 := by omega
      have hd : decide ((64 : Int) < 64) = false := by decide
      go_wp2_with fail
      go_end0
      exact ⟨rfl, HX.out.congr (fun i hi => by simp [hi]), HK.out⟩
set_option maxHeartbeats 1000000 in
theorem rdirty (X most B c V N : Nat) (f : Nat → Int) (d : Nat → Bool) (w : World) (h : Rfm w X most B c V N f d) :
    Calls Tryd.prog 30 #[.pointer (some ⟨X, 0, none⟩)] w fun e w' => ∃ v, e = .returned v ∧ LI w' w.heap.size v (dl d 64) ∧ Below w.heap.size w w' := by
  have HM := hid h
  clear h
  go_enter Tryd.func30, Tryd.ntmps30
  go_wp2_with fail
  go_loopw [3, 4] (fun v i wr => ∃ (k : Nat) (vs : Value), k ≤ 64 ∧ v = vs ∧ i = .int .i64 k ∧ Hid (LI wr w.heap.size vs (dl d k)) ∧ Hid (Below w.heap.size w wr)) (fun _ i _ => 64 - (intOf i).toNat)
  case atStart => exact ⟨0, .slice none 0 0, by omega, rfl, rfl, hid (LI.nil w _), hid (Below.refl _ _)⟩
  case round =>
    obtain ⟨k, vs, hk, rfl, rfl, HX, HB⟩ := hrel
    have c2 := (HM.out.later HB.out).c2
    by_cases hlt : k < 64
    · have HS := hid (dl_succ d k)
      have hlt' : ((k : Int) < 64) := by omega
      have hdc : decide ((k : Int) < 64) = true := by simpa using hlt'
      have hix := (HM.out.later HB.out).mrk hlt
      cases hdk : d k
      · rw [hdk] at hix
        have HDK := hid hdk
        clear hdk
        go_wp2_with fail
        refine ⟨⟨k + 1, _, by omega, rfl, by go_num, hid ?_, HB⟩, by simp [intOf]; omega⟩
        rw [HS.out, if_neg (by rw [HDK.out]; simp)]
        exact HX.out
      · rw [hdk] at hix
        have HDK := hid hdk
        clear hdk
        have hb0 := HB.out.alloc HB.out.size (Obj.cells #[Value.int .i64 k] 3)
        have hb1 := (Below.refl wr.heap.size wr).alloc (Nat.le_refl _) (Obj.cells #[Value.int .i64 k] 3)
        have HX2 := hid (HX.out.later hb1 (Nat.le_refl _))
        have HB0 := hid hb0
        have HZ1 := hid (Nat.le_trans HB.out.size hb1.size)
        have HC := hid (show (wr.alloc (Obj.cells #[Value.int .i64 k] 3)).cell? ((⟨wr.heap.size, 0, none⟩ : Addr).add 0) = some (.int .i64 k) by
          rw [show (⟨wr.heap.size, 0, none⟩ : Addr).add 0 = ⟨wr.heap.size, 0, none⟩ by simp [Addr.add], World.cell?_alloc_new]; rfl)
        have HL := hid (dl_len d k)
        clear hb0 hb1
        go_wp2_with (at_builtin; (refine app_int _ rfl (.tmp 21) (.tmp 23) rfl w.heap.size _ (dl d k) rfl HX2.out HZ1.out ⟨wr.heap.size, 0, none⟩ k rfl HC.out (by have := HL.out; omega) ?_; intro B cap w3 hLI hBB hbl; have HLI := hid hLI; have HBL := hid hbl; clear hLI hbl))
        refine ⟨⟨k + 1, _, by omega, rfl, by go_num, hid ?_, hid (HB0.out.trans HBL.out)⟩, by simp [intOf]; omega⟩
        rw [HS.out, if_pos HDK.out]
        exact HLI.out
    · obtain rfl : k = 64 := by omega
      have hdc : decide ((64 : Int) < 64) = false := by decide
      obtain ⟨a, c, rfl⟩ := HX.out.slice
      go_wp2_with fail
      go_ret
      exact ⟨_, rfl, HX.out, HB.out⟩
end Go.Proofs.YtedkmfklobipaaaDoor

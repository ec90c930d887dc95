/-
  Every call on the two memories, with their blocks: what it answers, what it leaves.
-/
import Derived.Test.YtedkmfklobipaaaDoorFr
namespace Go.Proofs.YtedkmfklobipaaaDoor
open Go.RowKit
set_option linter.unusedVariables false

/-- The program's memory of N pages, its blocks F. -/
def PM (w : World) (most R : Nat) (F : Nat → Prop) (N : Nat) (f : Nat → Int) (d : Nat → Bool) : Prop :=
  ∃ sv PB, Mem w R most sv PB f d ∧ PB.length = N ∧ ∀ k, F k ↔ Fp R sv PB k
/-- The document's. -/
def DM (w : World) (most X : Nat) (F : Nat → Prop) (N : Nat) (f : Nat → Int) (d : Nat → Bool) : Prop :=
  ∃ B c V, Rfm w X most B c V N f d ∧ ∀ k, F k ↔ Fq X B V k

/-- What a Store leaves. -/
def stF (N : Nat) (f : Nat → Int) (a : Nat) (n v : Int) : Nat → Int := if hol N a n = true then stR f a v n.toNat else f
def stD (N : Nat) (d : Nat → Bool) (a : Nat) (n : Int) : Nat → Bool := if hol N a n = true then stM d a n.toNat else d
/-- What a Grow answers and leaves. -/
def grR (most N : Nat) (n : Int) : Int := if n ≤ (most : Int) - N then N else -1
def grN (most N : Nat) (n : Int) : Nat := if n ≤ (most : Int) - N then N + n.toNat else N
def grD (most N : Nat) (d : Nat → Bool) (n : Int) : Nat → Bool := if n ≤ (most : Int) - N then grM d N n.toNat else d
/-- Blocks that were there, or new ones. -/
def Out (F F' : Nat → Prop) (w : World) : Prop := ∀ k, F' k → F k ∨ w.heap.size ≤ k

section
variable {w w' : World} {most R X N : Nat} {F S : Nat → Prop} {f : Nat → Int} {d : Nat → Bool}
theorem PM.lt (h : PM w most R F N f d) {k : Nat} (hk : F k) : k < w.heap.size := by
  obtain ⟨sv, PB, h, _, hF⟩ := h
  exact h.fp_lt ((hF k).1 hk)
theorem DM.lt (h : DM w most X F N f d) {k : Nat} (hk : F k) : k < w.heap.size := by
  obtain ⟨B, c, V, h, hF⟩ := h
  exact h.lt ((hF k).1 hk)
theorem PM.kept (h : PM w most R F N f d) (hk : Kept S w w') (hs : ∀ k, F k → ¬ S k) : PM w' most R F N f d := by
  obtain ⟨sv, PB, h, hN, hF⟩ := h
  exact ⟨sv, PB, h.kept hk (fun k h => hs k ((hF k).2 h)), hN, hF⟩
theorem DM.kept (h : DM w most X F N f d) (hk : Kept S w w') (hs : ∀ k, F k → ¬ S k) : DM w' most X F N f d := by
  obtain ⟨B, c, V, h, hF⟩ := h
  exact ⟨B, c, V, h.kept hk (fun k h => hs k ((hF k).2 h)), hF⟩
theorem PM.bnd (h : PM w most R F N f d) : N ≤ most ∧ most ≤ 64 ∧ (∀ a, 0 ≤ f a ∧ f a ≤ 255) ∧ (∀ a, N * 4096 ≤ a → f a = 0) := by
  obtain ⟨sv, PB, h, hN, hF⟩ := h
  subst hN
  exact ⟨h.le, h.top, h.rng, h.nt⟩

theorem hol_nat {N a : Nat} {n : Int} (h : hol N a n = true) : n = (n.toNat : Int) := by
  simp [hol, wid] at h
  omega

theorem PM.load (h : PM w most R F N f d) (a : Nat) (n : Int) (ha : a ≤ 18446744073709551615) :
    Calls Tryd.prog 19 #[.pointer (some ⟨R, 0, none⟩), .int .u64 a, .int .i64 n] w fun e w' => e = .returned (.tuple #[.int .u64 (ldA N f a n), .bool (hol N a n)]) ∧ w' = w := by
  obtain ⟨sv, PB, h, rfl, _⟩ := h
  exact load_any R most sv PB f d a n w h ha
theorem DM.load (h : DM w most X F N f d) (a : Nat) (n : Int) (ha : a ≤ 18446744073709551615) :
    Calls Tryd.prog 20 #[.pointer (some ⟨X, 0, none⟩), .int .u64 a, .int .i64 n] w fun e w' => e = .returned (.tuple #[.int .u64 (ldA N f a n), .bool (hol N a n)]) ∧ w' = w := by
  obtain ⟨B, c, V, h, _⟩ := h
  exact rload_any X most B c V N f d a n w h ha
theorem PM.store (h : PM w most R F N f d) (a : Nat) (n v : Int) (ha : a ≤ 18446744073709551615) (hv : 0 ≤ v ∧ v ≤ 18446744073709551615) :
    Calls Tryd.prog 21 #[.pointer (some ⟨R, 0, none⟩), .int .u64 a, .int .i64 n, .int .u64 v] w fun e w' => e = .returned (.bool (hol N a n)) ∧ PM w' most R F N (stF N f a n v) (stD N d a n) ∧ Kept F w w' := by
  obtain ⟨sv, PB, h, rfl, hF⟩ := h
  unfold stF stD
  cases hh : hol PB.length a n
  · have hc := hol_mem R most sv PB f d a n w h ha
    rw [hh] at hc
    refine (store_not _ a n v w hc).mono ?_
    rintro e w' ⟨rfl, rfl⟩
    exact ⟨rfl, ⟨sv, PB, by simpa using h, rfl, hF⟩, Kept.refl _ _⟩
  · have hn := hol_nat hh
    have h2 := store_mem R most sv PB f d a n.toNat v w h ha hv (hn ▸ hh)
    rw [← hn] at h2
    refine h2.mono ?_
    rintro e w' ⟨rfl, h3, hk⟩
    exact ⟨rfl, ⟨sv, PB, by simpa using h3, rfl, hF⟩, hk.mono (fun k hk => (hF k).2 hk)⟩
theorem DM.store (h : DM w most X F N f d) (a : Nat) (n v : Int) (ha : a ≤ 18446744073709551615) (hv : 0 ≤ v ∧ v ≤ 18446744073709551615) :
    Calls Tryd.prog 22 #[.pointer (some ⟨X, 0, none⟩), .int .u64 a, .int .i64 n, .int .u64 v] w fun e w' => e = .returned (.bool (hol N a n)) ∧ DM w' most X F N (stF N f a n v) (stD N d a n) ∧ Kept F w w' := by
  obtain ⟨B, c, V, h, hF⟩ := h
  unfold stF stD
  cases hh : hol N a n
  · refine (rstore_not X most B c V N f d a n v w h ha hh).mono ?_
    rintro e w' ⟨rfl, rfl⟩
    exact ⟨rfl, ⟨B, c, V, by simpa using h, hF⟩, Kept.refl _ _⟩
  · have hn := hol_nat hh
    have h2 := rstore_yes X most B c V N f d a n.toNat v w h ha hv (hn ▸ hh)
    rw [← hn] at h2
    refine h2.mono ?_
    rintro e w' ⟨rfl, h3, hk⟩
    exact ⟨rfl, ⟨B, c, V, by simpa using h3, hF⟩, hk.mono (fun k hk => (hF k).2 hk)⟩
theorem PM.grow (h : PM w most R F N f d) (n : Int) (hv : 0 ≤ n ∧ n ≤ 18446744073709551615) :
    Calls Tryd.prog 23 #[.pointer (some ⟨R, 0, none⟩), .int .u64 n] w fun e w' => e = .returned (.int .i64 (grR most N n)) ∧ ∃ F', PM w' most R F' (grN most N n) f (grD most N d n) ∧ Kept F w w' ∧ Out F F' w := by
  obtain ⟨sv, PB, h, rfl, hF⟩ := h
  unfold grR grN grD
  by_cases hh : n ≤ (most : Int) - PB.length
  · have h2 := grow_yes R most sv PB f d n.toNat w h (by omega)
    rw [show ((n.toNat : Nat) : Int) = n by omega] at h2
    rw [if_pos hh, if_pos hh, if_pos hh]
    refine h2.mono ?_
    rintro e w' ⟨rfl, sv', PB', h3, hl, hk, ho⟩
    exact ⟨rfl, Fp R sv' PB', ⟨sv', PB', h3, hl, fun _ => Iff.rfl⟩, hk.mono (fun k hk => (hF k).2 hk), fun k hk => (ho k hk).imp (hF k).2 id⟩
  · rw [if_neg hh, if_neg hh, if_neg hh]
    refine (grow_not R most sv PB f d n w h (by omega) hv.2).mono ?_
    rintro e w' ⟨rfl, rfl⟩
    exact ⟨rfl, F, ⟨sv, PB, h, rfl, hF⟩, Kept.refl _ _, fun k hk => .inl hk⟩
theorem DM.grow (h : DM w most X F N f d) (n : Int) (hv : 0 ≤ n ∧ n ≤ 18446744073709551615) :
    Calls Tryd.prog 24 #[.pointer (some ⟨X, 0, none⟩), .int .u64 n] w fun e w' => e = .returned (.int .i64 (grR most N n)) ∧ ∃ F', DM w' most X F' (grN most N n) f (grD most N d n) ∧ Kept F w w' ∧ Out F F' w := by
  obtain ⟨B, c, V, h, hF⟩ := h
  unfold grR grN grD
  by_cases hh : n ≤ (most : Int) - N
  · have hle := h.le
    have h2 := rgrow_yes X most B c V N f d n.toNat w h (by omega)
    rw [show ((n.toNat : Nat) : Int) = n by omega] at h2
    rw [if_pos hh, if_pos hh, if_pos hh]
    refine h2.mono ?_
    rintro e w' ⟨rfl, B', c', h3, hk, ho⟩
    refine ⟨rfl, Fq X B' V, ⟨B', c', V, h3, fun _ => Iff.rfl⟩, hk.mono (fun k hk => (hF k).2 hk), fun k hk => ?_⟩
    rcases hk with rfl | rfl | rfl
    · exact .inl ((hF k).2 (.inl rfl))
    · exact ho.imp (fun e => (hF k).2 (.inr (.inl e))) id
    · exact .inl ((hF k).2 (.inr (.inr rfl)))
  · rw [if_neg hh, if_neg hh, if_neg hh]
    refine (rgrow_not X most B c V N f d n w h hv.1 (by omega) hv.2).mono ?_
    rintro e w' ⟨rfl, rfl⟩
    exact ⟨rfl, F, ⟨B, c, V, h, hF⟩, Kept.refl _ _, fun k hk => .inl hk⟩
theorem PM.clean (h : PM w most R F N f d) : Calls Tryd.prog 27 #[.pointer (some ⟨R, 0, none⟩)] w fun e w' => e = .returned (.bool true) ∧ PM w' most R F N f (fun _ => false) ∧ Kept F w w' := by
  obtain ⟨sv, PB, h, rfl, hF⟩ := h
  refine (clean_mem R most sv PB f d w h).mono ?_
  rintro e w' ⟨rfl, h3, hk⟩
  exact ⟨rfl, ⟨sv, PB, h3, rfl, hF⟩, hk.mono (fun k hk => (hF k).2 (.inl hk))⟩
theorem DM.clean (h : DM w most X F N f d) : Calls Tryd.prog 26 #[.pointer (some ⟨X, 0, none⟩)] w fun e w' => e = .returned (.tuple #[]) ∧ DM w' most X F N f (fun _ => false) ∧ Kept F w w' := by
  obtain ⟨B, c, V, h, hF⟩ := h
  refine (rclean X most B c V N f d w h).mono ?_
  rintro e w' ⟨rfl, h3, hk⟩
  exact ⟨rfl, ⟨B, c, V, h3, hF⟩, hk.mono (fun k hk => (hF k).2 hk)⟩
theorem PM.pages (h : PM w most R F N f d) : Calls Tryd.prog 16 #[.pointer (some ⟨R, 0, none⟩)] w fun e w' => ∃ L QB, e = .returned (.slice (some ⟨L, 0, none⟩) N N) ∧ Pgs w' w.heap.size L N QB f ∧ QB.length = N ∧ Below w.heap.size w w' := by
  obtain ⟨sv, PB, h, rfl, hF⟩ := h
  exact pages_mem R most sv PB f d w h
theorem DM.pages (h : DM w most X F N f d) : Calls Tryd.prog 17 #[.pointer (some ⟨X, 0, none⟩)] w fun e w' => ∃ v, e = .returned v ∧ PSeg w' v N (fun _ => 4096) (pgf f) ∧ Below w.heap.size w w' := by
  obtain ⟨B, c, V, h, hF⟩ := h
  exact rpages X most B c V N f d w h
theorem PM.dirty (h : PM w most R F N f d) : Calls Tryd.prog 18 #[.pointer (some ⟨R, 0, none⟩)] w fun e w' => ∃ v, e = .returned v ∧ LI w' w.heap.size v (dl d 64) ∧ Below w.heap.size w w' := by
  obtain ⟨sv, PB, h, rfl, hF⟩ := h
  cases hd : anyD d
  · refine (dirty_none R most sv PB f d w h hd).mono ?_
    rintro e w' ⟨rfl, rfl⟩
    exact ⟨_, rfl, by rw [dl_none hd]; exact LI.nil _ _, Below.refl _ _⟩
  · exact dirty_some R most sv PB f d w h hd
theorem DM.dirty (h : DM w most X F N f d) : Calls Tryd.prog 30 #[.pointer (some ⟨X, 0, none⟩)] w fun e w' => ∃ v, e = .returned v ∧ LI w' w.heap.size v (dl d 64) ∧ Below w.heap.size w w' := by
  obtain ⟨B, c, V, h, hF⟩ := h
  exact rdirty X most B c V N f d w h
theorem PM.size (h : PM w most R F N f d) : Calls Tryd.prog 14 #[.pointer (some ⟨R, 0, none⟩)] w fun e w' => e = .returned (.int .i64 N) ∧ w' = w := by
  obtain ⟨sv, PB, h, rfl, hF⟩ := h
  exact size_mem R most sv PB f d w h
theorem DM.size (h : DM w most X F N f d) : Calls Tryd.prog 15 #[.pointer (some ⟨X, 0, none⟩)] w fun e w' => e = .returned (.int .i64 N) ∧ w' = w := by
  obtain ⟨B, c, V, h, hF⟩ := h
  exact rsize X most B c V N f d w h
end
theorem whl_const : ∀ n : Nat, whl (fun _ => 4096) n = true
  | 0 => rfl
  | n + 1 => by simp [whl, whl_const n]
theorem frF_same {f : Nat → Int} {N : Nat} (h : ∀ a, N * 4096 ≤ a → f a = 0) : frF (pgf f) N = f := by
  funext a
  unfold frF pgf
  split
  · congr 1; omega
  · exact (h a (by omega)).symm
/-- From of what was told. -/
theorem pm_from {w : World} {v : Value} {N most : Nat} {f : Nat → Int} (h : PSeg w v N (fun _ => 4096) (pgf f)) (hN : N ≤ most) (hm : most ≤ 64) (hr : ∀ a, 0 ≤ f a ∧ f a ≤ 255) (hz : ∀ a, N * 4096 ≤ a → f a = 0) :
    Calls Tryd.prog 10 #[v, .int .i64 most] w fun e w' => ∃ R F, e = .returned (.tuple #[.pointer (some ⟨R, 0, none⟩), .int .i64 0]) ∧ PM w' most R F N f (fun _ => false) ∧ Below w.heap.size w w' ∧ ∀ k, F k → w.heap.size ≤ k := by
  refine (from_yes v N (fun _ => 4096) (pgf f) most w h (fun i j => hr _) (by simp [mayB]; omega) (whl_const N)).mono ?_
  rintro e w' ⟨R, sv, PB, rfl, h3, hl, hb, hF⟩
  rw [frF_same hz] at h3
  exact ⟨R, Fp R sv PB, rfl, ⟨sv, PB, h3, hl, fun _ => Iff.rfl⟩, hb, hF⟩
theorem dm_from {w : World} {v : Value} {N most : Nat} {f : Nat → Int} (h : PSeg w v N (fun _ => 4096) (pgf f)) (hN : N ≤ most) (hm : most ≤ 64) (hr : ∀ a, 0 ≤ f a ∧ f a ≤ 255) (hz : ∀ a, N * 4096 ≤ a → f a = 0) :
    Calls Tryd.prog 11 #[v, .int .i64 most] w fun e w' => ∃ X F, e = .returned (.tuple #[.pointer (some ⟨X, 0, none⟩), .int .i64 0]) ∧ DM w' most X F N f (fun _ => false) ∧ Below w.heap.size w w' ∧ ∀ k, F k → w.heap.size ≤ k := by
  refine (rfrom v N (fun _ => 4096) (pgf f) most w h (fun i j => hr _) (by simp [mayB]; omega)).mono ?_
  rintro e w' ⟨hb, ⟨h0, _⟩ | ⟨_, X, B, c, V, rfl, h3, hF⟩⟩
  · rw [whl_const] at h0; cases h0
  · rw [frF_same hz] at h3
    exact ⟨X, Fq X B V, rfl, ⟨B, c, V, h3, fun _ => Iff.rfl⟩, hb, hF⟩
theorem pm_new {p m : Nat} {w : World} (h : mayB p m = true) : Calls Tryd.prog 7 #[.int .i64 p, .int .i64 m] w fun e w' => ∃ R F, e = .returned (.tuple #[.pointer (some ⟨R, 0, none⟩), .int .i64 0]) ∧ PM w' m R F p (fun _ => 0) (fun _ => false) ∧ Below w.heap.size w w' ∧ ∀ k, F k → w.heap.size ≤ k := by
  refine (new_yes p m w h).mono ?_
  rintro e w' ⟨R, sv, PB, rfl, h3, hl, hb, hF⟩
  exact ⟨R, Fp R sv PB, rfl, ⟨sv, PB, h3, hl, fun _ => Iff.rfl⟩, hb, hF⟩
theorem dm_new {p m : Nat} {w : World} (h : mayB p m = true) : Calls Tryd.prog 8 #[.int .i64 p, .int .i64 m] w fun e w' => ∃ X F, e = .returned (.tuple #[.pointer (some ⟨X, 0, none⟩), .int .i64 0]) ∧ DM w' m X F p (fun _ => 0) (fun _ => false) ∧ Below w.heap.size w w' ∧ ∀ k, F k → w.heap.size ≤ k := by
  refine (rnew_yes p m w h).mono ?_
  rintro e w' ⟨X, B, V, rfl, h3, hb, hF⟩
  exact ⟨X, Fq X B V, rfl, ⟨B, _, V, h3, fun _ => Iff.rfl⟩, hb, hF⟩
end Go.Proofs.YtedkmfklobipaaaDoor

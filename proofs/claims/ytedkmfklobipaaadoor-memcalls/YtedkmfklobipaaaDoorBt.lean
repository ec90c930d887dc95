/-
  Lists of bytes, lists of such: the walks over EqBytes and EqPages where the two are the same.
-/
import Derived.Test.YtedkmfklobipaaaDoorRh
namespace Go.Proofs.YtedkmfklobipaaaDoor
open Go.RowKit
set_option linter.unusedVariables false

/-- v is a list of n bytes g. -/
def BSeg (w : World) (v : Value) (n : Nat) (g : Nat → Int) : Prop :=
  ∃ a c, v = .slice a n c ∧ n ≤ c ∧ n ≤ 140737488355328 ∧ (n = 0 ∨ ∃ b o, a = some ⟨b, o, none⟩ ∧ ∀ j, j < n → w.cell? ⟨b, o + j, none⟩ = some (.int .u8 (g j)))
theorem BSeg.kept {S : Nat → Prop} {w w' : World} {v : Value} {n : Nat} {g : Nat → Int} (h : BSeg w v n g) (hk : Kept S w w') (hs : ∀ b o, (∃ c, v = .slice (some ⟨b, o, none⟩) n c) → 0 < n → ¬ S b) : BSeg w' v n g := by
  obtain ⟨a, c, rfl, h1, h2, h3⟩ := h
  refine ⟨a, c, rfl, h1, h2, ?_⟩
  rcases h3 with h3 | ⟨b, o, rfl, h3⟩
  · exact .inl h3
  · by_cases h0 : n = 0
    · exact .inl h0
    · exact .inr ⟨b, o, rfl, fun j hj => hk.cell (h3 j hj) (hs b o ⟨c, rfl⟩ (by omega))⟩
theorem BSeg.keep {w w' : World} {v : Value} {n : Nat} {g : Nat → Int} (h : BSeg w v n g) (hk : Kept (fun _ => False) w w') : BSeg w' v n g := h.kept hk (fun _ _ _ _ x => x)
/-- v is a list of n lists of bytes, their lengths ln. -/
def PSeg (w : World) (v : Value) (n : Nat) (ln : Nat → Nat) (g : Nat → Nat → Int) : Prop :=
  ∃ a c, v = .slice a n c ∧ n ≤ c ∧ n ≤ 140737488355328 ∧ (n = 0 ∨ ∃ b o, a = some ⟨b, o, none⟩ ∧ ∀ i, i < n → ∃ u, w.cell? ⟨b, o + i, none⟩ = some u ∧ BSeg w u (ln i) (g i))
theorem PSeg.keep {w w' : World} {v : Value} {n : Nat} {ln : Nat → Nat} {g : Nat → Nat → Int} (h : PSeg w v n ln g) (hk : Kept (fun _ => False) w w') : PSeg w' v n ln g := by
  obtain ⟨a, c, rfl, h1, h2, h3⟩ := h
  refine ⟨a, c, rfl, h1, h2, ?_⟩
  rcases h3 with h3 | ⟨b, o, rfl, h3⟩
  · exact .inl h3
  · refine .inr ⟨b, o, rfl, fun i hi => ?_⟩
    obtain ⟨u, h4, h5⟩ := h3 i hi
    exact ⟨u, hk.cell h4 (fun x => x), h5.keep hk⟩
theorem kept_below {w w' : World} (h : Below w.heap.size w w') : Kept (fun _ => False) w w' := ⟨h.os, h.tape, h.output, h.size, fun k hk _ => h.block k hk⟩

set_option maxHeartbeats 1000000 in
theorem eqb_same (v1 v2 : Value) (n : Nat) (g : Nat → Int) (w : World) (h1 : BSeg w v1 n g) (h2 : BSeg w v2 n g) :
    Calls Tryd.prog 37 #[v1, v2] w fun e w' => e = .returned (.bool true) ∧ Kept (fun _ => False) w w' := by
  obtain ⟨a1, c1, rfl, hc1, hn, k1⟩ := h1
  obtain ⟨a2, c2, rfl, hc2, _, k2⟩ := h2
  have hne : ((n : Int) != n) = false := by simp
  by_cases h0 : n = 0
  · subst h0
    clear k1 k2
    go_enter Tryd.func37, Tryd.ntmps37
    go_wp2
    refine wp_loop_rounds 1 ?_
    rw [rounds_succ]
    go_wp2
    go_ret
    exact ⟨rfl, Kept.refl _ _⟩
  rcases k1 with k1 | ⟨b1, o1, rfl, k1⟩
  · exact absurd k1 h0
  rcases k2 with k2 | ⟨b2, o2, rfl, k2⟩
  · exact absurd k2 h0
  clear h0
  go_enter Tryd.func37, Tryd.ntmps37
  go_wp2
  go_loopw [5] (fun i wr => ∃ k m : Nat, k ≤ n ∧ i = .int .i64 k ∧ wr = w.drewN m) (fun i _ => n - (intOf i).toNat)
  case atStart => exact ⟨0, 0, by omega, rfl, rfl⟩
  case round =>
    obtain ⟨k, m, hk, rfl, rfl⟩ := hrel
    by_cases hlt : k < n
    · have g1 := k1 k hlt
      have g2 := k2 k hlt
      have hlt' : (k : Int) < (n : Int) := by omega
      clear k1 k2
      generalize g k = u at *
      have hb : (u != u) = false := by simp
      have hb' : (u == u) = true := by simp
      go_wp2
      go_quiet (fail)
      go_wp2
      exact ⟨⟨k + 1, m + nq, by omega, by go_num, rfl⟩, by simp [intOf]; omega⟩
    · have hkn : k = n := by omega
      clear k1 k2
      go_wp2
      go_ret
      exact ⟨rfl, Kept.drewN _ w m⟩

set_option maxHeartbeats 1000000 in
theorem eqp_same (v1 v2 : Value) (n : Nat) (ln : Nat → Nat) (g : Nat → Nat → Int) (w : World) (h1 : PSeg w v1 n ln g) (h2 : PSeg w v2 n ln g) :
    Calls Tryd.prog 12 #[v1, v2] w fun e w' => e = .returned (.bool true) ∧ Kept (fun _ => False) w w' := by
  obtain ⟨a1, c1, rfl, hc1, hn, k1⟩ := h1
  obtain ⟨a2, c2, rfl, hc2, _, k2⟩ := h2
  have hne : ((n : Int) != n) = false := by simp
  by_cases h0 : n = 0
  · subst h0
    clear k1 k2
    go_enter Tryd.func12, Tryd.ntmps12
    go_wp2
    refine wp_loop_rounds 1 ?_
    rw [rounds_succ]
    go_wp2
    go_ret
    exact ⟨rfl, Kept.refl _ _⟩
  rcases k1 with k1 | ⟨b1, o1, rfl, k1⟩
  · exact absurd k1 h0
  rcases k2 with k2 | ⟨b2, o2, rfl, k2⟩
  · exact absurd k2 h0
  clear h0
  have HK1 := hid k1
  have HK2 := hid k2
  clear k1 k2
  go_enter Tryd.func12, Tryd.ntmps12
  go_wp2_with fail
  go_loopw [5] (fun i wr => ∃ k : Nat, k ≤ n ∧ i = .int .i64 k ∧ Hid (Kept (fun _ => False) w wr)) (fun i _ => n - (intOf i).toNat)
  case atStart => exact ⟨0, by omega, rfl, hid (Kept.refl _ _)⟩
  case round =>
    obtain ⟨k, hk, rfl, HX⟩ := hrel
    by_cases hlt : k < n
    · obtain ⟨u1, d1, s1⟩ := HK1.out k hlt
      obtain ⟨u2, d2, s2⟩ := HK2.out k hlt
      have hlt' : (k : Int) < (n : Int) := by omega
      have hkd := Kept.drewN (fun _ => False) wr 1
      have f1 : wr.cell? ⟨b1, o1 + k, none⟩ = some u1 := HX.out.cell d1 (fun x => x)
      have f2 : wr.cell? ⟨b2, o2 + k, none⟩ = some u2 := HX.out.cell d2 (fun x => x)
      have HQ := hid (eqb_same u1 u2 (ln k) (g k) (wr.drewN 1) ((s1.keep HX.out).keep hkd) ((s2.keep HX.out).keep hkd))
      have HKD := hid (HX.out.trans hkd)
      have HF1 := hid f1
      have HF2 := hid f2
      obtain ⟨ua, uc, rfl, _⟩ := s1
      obtain ⟨va, vc, rfl, _⟩ := s2
      clear d1 d2 hkd
      go_wp2_with fail
      go_region_held3 (fun W => W.cell? ⟨b1, o1 + k, none⟩ = some (.slice ua (ln k) uc) ∧ W.cell? ⟨b2, o2 + k, none⟩ = some (.slice va (ln k) vc)) (go_keep)
        (first | (go_at_call 37; refine HQ.out.mono ?_; rintro e w5 ⟨rfl, hk5⟩; have t1 := hk5.cell HF1.out (fun x => x); have t2 := hk5.cell HF2.out (fun x => x); have HB5 := hid (HKD.out.trans hk5); clear hk5))
      go_wp2_with fail
      exact ⟨⟨k + 1, by omega, by go_num, HB5⟩, by simp [intOf]; omega⟩
    · have hkn : k = n := by omega
      go_wp2
      go_ret
      exact ⟨rfl, HX.out⟩
end Go.Proofs.YtedkmfklobipaaaDoor

/-
  The walks over the reader's methods unsigned and signed: a number that the span holds, and the reader's place behind it, or the error.
-/
import Derived.Test.YtgljlclnmnfocaaDoorSpan
import Derived.Test.YtgljlclnmnfocaaDoorReadC
import Derived.Test.YtgljlclnmnfocaaDoorJoin
import Derived.Test.YtgljlclnmnfocaaDoorHeap
import Derived.Test.YtgljlclnmnfocaaDoorHid
namespace Go.Proofs.YtgljlclnmnfocaaDoor
open Go.RowKit
set_option linter.unusedVariables false

/-- A reader in memory: its bytes, its place. -/
structure Rd (w : World) (R : Nat) (s : Value) (p : Int) : Prop where
  c0 : w.cell? ⟨R, 0, none⟩ = some s
  c1 : w.cell? ⟨R, 1, none⟩ = some (.int .i64 p)
  f1 : w.frozen? ⟨R, 1, none⟩ = false

theorem Rd.lt {w : World} {R : Nat} {s : Value} {p : Int} (h : Rd w R s p) : R < w.heap.size := block_lt_of_cell h.c0
theorem Rd.kept {S : Nat → Prop} {w w' : World} {R : Nat} {s : Value} {p : Int} (h : Rd w R s p) (hk : Kept S w w') (hs : ¬ S R) : Rd w' R s p :=
  ⟨hk.cell h.c0 hs, hk.cell h.c1 hs, (frozen_of_block (hk.block R h.lt hs) 1).trans h.f1⟩
theorem Rd.later {w w' : World} {R : Nat} {s : Value} {p : Int} (h : Rd w R s p) (hb : Below w.heap.size w w') : Rd w' R s p :=
  ⟨(hb.cell (by exact h.lt)).trans h.c0, (hb.cell (by exact h.lt)).trans h.c1, (hb.frozen (by exact h.lt)).trans h.f1⟩

/-- What is read of a number without a sign (with one), the place, the error. -/
def rdU (zs : List Int) (p l h : Int) : Int × Int × Int :=
  if (ruAt zs p).2.2 ≠ 0 then (0, p, (ruAt zs p).2.2) else if (ruAt zs p).1 < l ∨ h < (ruAt zs p).1 then (0, p, 17) else ((ruAt zs p).1, (ruAt zs p).2.1, 0)
def rdS (zs : List Int) (p l h : Int) : Int × Int × Int :=
  if (rsAt zs p).2.2 ≠ 0 then (0, p, (rsAt zs p).2.2) else if (rsAt zs p).1 < l ∨ h < (rsAt zs p).1 then (0, p, 17) else ((rsAt zs p).1, (rsAt zs p).2.1, 0)

theorem kept_below {R : Nat} {w w' : World} (h : Below w.heap.size w w') : Kept (fun k => k = R) w w' :=
  ⟨h.os, h.tape, h.output, h.size, fun k hk _ => h.block k hk⟩

theorem wrap_high (u : Int) (h0 : 9223372036854775808 ≤ u) (h1 : u < 18446744073709551616) : IntKind.i64.wrap u < 0 := by
  simp [IntKind.wrap, IntKind.bits, IntKind.signed]; omega

theorem tup3q {k : IntKind} {f : Nat} {args : Array Value} {W : World} {r : Int × Int × Int} (h : Calls Tryd.prog f args W fun e w' => e = .returned (res3 k r) ∧ w' = W) {u q x : Int} (hr : r = (u, q, x)) :
    Calls Tryd.prog f args W fun e w' => e = .returned (.tuple #[.int k u, .int .i64 q, .int .i64 x]) ∧ w' = W := by subst hr; exact h

theorem kept_put {R : Nat} {w w' : World} {o : Nat} {v : Value} (h : Kept (fun k => k = R) w w') : Kept (fun k => k = R) w (w'.setCell ⟨R, o, none⟩ v) :=
  h.trans ⟨rfl, rfl, rfl, by simp [World.setCell], fun k hk hs => Below.heap_setCell _ _ _ _ (by simpa using hs)⟩

theorem Rd.put {w : World} {R : Nat} {s : Value} {p : Int} (h : Rd w R s p) (q : Int) : Rd (w.setCell ⟨R, 1, none⟩ (.int .i64 q)) R s q := by
  refine ⟨?_, ?_, ?_⟩
  · rw [World.cell?_setCell_other _ _ _ _ (by simp)]; exact h.c0
  · exact World.cell?_setCell_same _ _ _ h.c1
  · rw [World.frozen?_setCell]; exact h.f1

set_option maxRecDepth 100000 in
set_option maxHeartbeats 2000000 in
theorem unsigned68 (R : Nat) (a : Option Addr) (n cap : Nat) (zs : List Int) (p l h : Int) (w : World) (hr : Rd w R (.slice a n cap) p) (hs : Seg w a n cap zs) (hl : 0 ≤ l) (hh : h ≤ 9223372036854775807) :
    Calls Tryd.prog 68 #[.pointer (some ⟨R, 0, none⟩), spanV l h] w fun e w' => e = .returned (.tuple #[.int .i64 (rdU zs p l h).1, .int .i64 (rdU zs p l h).2.2]) ∧
      Rd w' R (.slice a n cap) (rdU zs p l h).2.1 ∧ Kept (fun k => k = R) w w' := by
  have hg := ruAt_range zs p hs.2.2.2.1
  have hba : Below w.heap.size w (w.alloc (.cells #[.int .i64 l, .int .i64 h] 76)) := (Below.refl _ _).alloc (Nat.le_refl _) _
  have hr1 := hr.later hba
  have hs1 := hs.later hba (Nat.le_refl _)
  obtain ⟨W, hW⟩ : ∃ W, w.alloc (.cells #[.int .i64 l, .int .i64 h] 76) = W := ⟨_, rfl⟩
  have m0 : W.cell? ⟨w.heap.size, 0, none⟩ = some (.int .i64 l) := by rw [← hW]; simp [go_sem]
  have m1 : W.cell? ⟨w.heap.size, 1, none⟩ = some (.int .i64 h) := by rw [← hW]; simp [go_sem]
  rw [hW] at hba hr1 hs1
  have c0 := hr1.c0
  have c1 := hr1.c1
  have f1 := hr1.f1
  have hRlt := hr.lt
  unfold rdU
  obtain ⟨r, hrr⟩ : ∃ r, ruAt zs p = r := ⟨_, rfl⟩
  rw [hrr] at hg ⊢
  obtain ⟨u, q, x⟩ := r
  have HC := hid (fun m => tup3q (ru7 a n cap zs p (W.drewN m) (hs1.drewN m)) hrr)
  simp only at hg ⊢
  obtain ⟨g0, g1, _, _, _, _, _, g8⟩ := hg
  clear hr hs hr1 hs1 hrr
  have HW := hid hW
  have HB := hid hba
  clear hW hba
  unfold spanV
  by_cases hx : x = 0
  · subst hx
    clear g8
    rw [if_neg (by simp)]
    by_cases hin : u < l ∨ h < u
    · rw [if_pos hin]
      have hno : inB l h (wrap64 u) = false := by
        refine inB_no ?_
        unfold wrap64
        omega
      clear hin
      go_enter Tryd.func68, Tryd.ntmps68
      go_wp2_with fail
      rw [HW.out]
      go_quiet ((go_at_call 74; refine Calls.quiet_of_same (HC.out _)))
      go_wp2_with fail
      refine (holds31 _ _ _ _).mono ?_
      rintro e w2 ⟨rfl, hb2⟩
      go_wp2_with fail
      go_ret2
      have hr2 : Rd (W.drewN nq) R (.slice a n cap) p := ⟨by simpa using c0, by simpa using c1, by simpa using f1⟩
      exact ⟨rfl, hr2.later hb2, ((kept_below HB.out).trans (Kept.drewN _ _ _)).trans (kept_below hb2)⟩
    · rw [if_neg hin]
      have hyes : inB l h u = true := inB_yes (by omega) (by omega)
      have hwr := i64_in u (by omega) (by omega)
      clear hin
      go_enter Tryd.func68, Tryd.ntmps68
      go_wp2_with fail
      rw [HW.out]
      go_quiet ((go_at_call 74; refine Calls.quiet_of_same (HC.out _)))
      go_wp2_with fail
      refine (holds31 _ _ _ _).mono ?_
      rintro e w2 ⟨rfl, hb2⟩
      have hr2 : Rd w2 R (.slice a n cap) p := Rd.later (w := W.drewN nq) ⟨by simpa using c0, by simpa using c1, by simpa using f1⟩ hb2
      have d1 := hr2.c1
      have d2 := hr2.f1
      have HR2 := hid hr2
      have HK2 := hid (((kept_below HB.out).trans (Kept.drewN (fun k => k = R) _ nq)).trans (kept_below hb2))
      clear hb2 hr2 c0 c1 f1
      go_wp2_with fail
      go_ret2
      exact ⟨rfl, HR2.out.put q, kept_put HK2.out⟩
  · obtain ⟨rfl, rfl⟩ := g8 hx
    rw [if_pos hx]
    have hx' : (x != 0) = true := by simp [hx]
    go_enter Tryd.func68, Tryd.ntmps68
    go_wp2_with fail
    rw [HW.out]
    go_quiet ((go_at_call 74; refine Calls.quiet_of_same (HC.out _)))
    go_wp2
    go_ret2
    refine ⟨rfl, ⟨by simpa using c0, by simpa using c1, by simpa using f1⟩, ?_⟩
    exact (kept_below HB.out).trans (Kept.drewN _ _ _)
/-- With an error there is no number. -/
theorem rsAt_zero (zs : List Int) (p : Int) (hz : ∀ z ∈ zs, 0 ≤ z ∧ z ≤ 255) : (rsAt zs p).2.2 ≠ 0 → (rsAt zs p).1 = 0 ∧ (rsAt zs p).2.1 = 0 := by
  intro h
  have hg := ruAt_range zs p hz
  unfold rsAt at h ⊢
  have := hg.2.2.2.2.2.2.2 h
  simp only
  rw [this.1, this.2]
  exact ⟨by decide, rfl⟩

set_option maxRecDepth 100000 in
set_option maxHeartbeats 2000000 in
theorem signed70 (R : Nat) (a : Option Addr) (n cap : Nat) (zs : List Int) (p l h : Int) (w : World) (hr : Rd w R (.slice a n cap) p) (hs : Seg w a n cap zs) :
    Calls Tryd.prog 70 #[.pointer (some ⟨R, 0, none⟩), spanV l h] w fun e w' => e = .returned (.tuple #[.int .i64 (rdS zs p l h).1, .int .i64 (rdS zs p l h).2.2]) ∧
      Rd w' R (.slice a n cap) (rdS zs p l h).2.1 ∧ Kept (fun k => k = R) w w' := by
  have hg := rsAt_zero zs p hs.2.2.2.1
  have hba : Below w.heap.size w (w.alloc (.cells #[.int .i64 l, .int .i64 h] 76)) := (Below.refl _ _).alloc (Nat.le_refl _) _
  have hr1 := hr.later hba
  have hs1 := hs.later hba (Nat.le_refl _)
  obtain ⟨W, hW⟩ : ∃ W, w.alloc (.cells #[.int .i64 l, .int .i64 h] 76) = W := ⟨_, rfl⟩
  have m0 : W.cell? ⟨w.heap.size, 0, none⟩ = some (.int .i64 l) := by rw [← hW]; simp [go_sem]
  have m1 : W.cell? ⟨w.heap.size, 1, none⟩ = some (.int .i64 h) := by rw [← hW]; simp [go_sem]
  rw [hW] at hba hr1 hs1
  have c0 := hr1.c0
  have c1 := hr1.c1
  have f1 := hr1.f1
  have hRlt := hr.lt
  unfold rdS
  obtain ⟨r, hrr⟩ : ∃ r, rsAt zs p = r := ⟨_, rfl⟩
  rw [hrr] at hg ⊢
  obtain ⟨u, q, x⟩ := r
  have HC := hid (fun m => tup3q (rs9 a n cap zs p (W.drewN m) (hs1.drewN m)) hrr)
  simp only at hg ⊢
  have g8 := hg
  clear hr hs hr1 hs1 hrr
  have HW := hid hW
  have HB := hid hba
  clear hW hba
  unfold spanV
  by_cases hx : x = 0
  · subst hx
    clear g8 hg
    rw [if_neg (by simp)]
    by_cases hin : u < l ∨ h < u
    · rw [if_pos hin]
      have hno : inB l h u = false := inB_no hin
      clear hin
      go_enter Tryd.func70, Tryd.ntmps70
      go_wp2_with fail
      rw [HW.out]
      go_quiet ((go_at_call 75; refine Calls.quiet_of_same (HC.out _)))
      go_wp2_with fail
      refine (holds31 _ _ _ _).mono ?_
      rintro e w2 ⟨rfl, hb2⟩
      go_wp2_with fail
      go_ret2
      have hr2 : Rd (W.drewN nq) R (.slice a n cap) p := ⟨by simpa using c0, by simpa using c1, by simpa using f1⟩
      exact ⟨rfl, hr2.later hb2, ((kept_below HB.out).trans (Kept.drewN _ _ _)).trans (kept_below hb2)⟩
    · rw [if_neg hin]
      have hyes : inB l h u = true := inB_yes (by omega) (by omega)
      clear hin
      go_enter Tryd.func70, Tryd.ntmps70
      go_wp2_with fail
      rw [HW.out]
      go_quiet ((go_at_call 75; refine Calls.quiet_of_same (HC.out _)))
      go_wp2_with fail
      refine (holds31 _ _ _ _).mono ?_
      rintro e w2 ⟨rfl, hb2⟩
      have hr2 : Rd w2 R (.slice a n cap) p := Rd.later (w := W.drewN nq) ⟨by simpa using c0, by simpa using c1, by simpa using f1⟩ hb2
      have d1 := hr2.c1
      have d2 := hr2.f1
      have HR2 := hid hr2
      have HK2 := hid (((kept_below HB.out).trans (Kept.drewN (fun k => k = R) _ nq)).trans (kept_below hb2))
      clear hb2 hr2 c0 c1 f1
      go_wp2_with fail
      go_ret2
      exact ⟨rfl, HR2.out.put q, kept_put HK2.out⟩
  · obtain ⟨rfl, rfl⟩ := g8 hx
    rw [if_pos hx]
    have hx' : (x != 0) = true := by simp [hx]
    go_enter Tryd.func70, Tryd.ntmps70
    go_wp2_with fail
    rw [HW.out]
    go_quiet ((go_at_call 75; refine Calls.quiet_of_same (HC.out _)))
    go_wp2
    go_ret2
    refine ⟨rfl, ⟨by simpa using c0, by simpa using c1, by simpa using f1⟩, ?_⟩
    exact (kept_below HB.out).trans (Kept.drewN _ _ _)
end Go.Proofs.YtgljlclnmnfocaaDoor

/-
  The walk over Map.
-/
import Derived.Test.YtfcklkmfdjjfoaaDoorWalk
import Derived.Deep.QuietTactic
import Derived.BigQuiet
namespace Go.Proofs.YtfcklkmfdjjfoaaDoor
open Go.RowKit
set_option linter.unusedVariables false

/-- Nil. -/
abbrev nilV : Value := .slice none 0 0
/-- What Map answers: nothing, or three lists in memory of their own. -/
def MapO (O : Nat → Int) (n base : Nat) (w : World) (a1 a2 a3 : Option Addr) (m : Nat) : Prop :=
  ((res O n 0).1 ≠ 0 ∧ a1 = none ∧ a2 = none ∧ a3 = none ∧ m = 0) ∨
  (res O n 0 = (0, 0) ∧ Good O n ∧ m = n ∧ ∃ A B C, base ≤ A ∧ base ≤ B ∧ base ≤ C ∧ A ≠ B ∧ A ≠ C ∧ B ≠ C ∧ a1 = some ⟨A, 0, none⟩ ∧ a2 = some ⟨B, 0, none⟩ ∧ a3 = some ⟨C, 0, none⟩ ∧
    RI w A n (enF O n) ∧ RI w B n (elF O n) ∧ RI w C n (owF O n))

theorem MapO.keep {O : Nat → Int} {n base base' m : Nat} {w w' : World} {a1 a2 a3 : Option Addr} {S : Nat → Prop} (h : MapO O n base w a1 a2 a3 m) (hk : Kept S w w') (hs : ∀ k, base ≤ k → ¬ S k) (hb : base' ≤ base) : MapO O n base' w' a1 a2 a3 m := by
  rcases h with h | ⟨g1, g2, g3, A, B, C, x1, x2, x3, x4, x5, x6, x7, x8, x9, y1, y2, y3⟩
  · exact .inl h
  · exact .inr ⟨g1, g2, g3, A, B, C, by omega, by omega, by omega, x4, x5, x6, x7, x8, x9, y1.kept hk (hs A x1), y2.kept hk (hs B x2), y3.kept hk (hs C x3)⟩

theorem below_kept {B : Nat} {w w1 w2 : World} {S : Nat → Prop} (h : Below B w w1) (hk : Kept S w1 w2) (hB : B ≤ w1.heap.size) (hs : ∀ k, S k → B ≤ k) : Below B w w2 :=
  ⟨hk.os.trans h.os, hk.tape.trans h.tape, hk.output.trans h.output, Nat.le_trans h.size hk.size, fun k hx => (hk.block k (by omega) (fun x => by have := hs k x; omega)).trans (h.block k hx)⟩

theorem results_tmp5 {fn : Func} {t u v x y : Tmp} (h : fn.results = #[.tmp t, .tmp u, .tmp v, .tmp x, .tmp y]) (tmps : Array Value) (P : Program) (w : World) :
    (results fn tmps).run P w = .ok (.tuple #[tmps.getD t undef, tmps.getD u undef, tmps.getD v undef, tmps.getD x undef, tmps.getD y undef]) w := by
  simp [results, h]

set_option maxRecDepth 100000 in
set_option maxHeartbeats 1000000 in
theorem map_in (a : Option Addr) (n cap : Nat) (xs : List Inx) (w : World) (hn : n ≤ 1048576) (hcap : n ≤ cap) (hc : CodS w a n xs) :
    Calls Tryd.prog 28 #[.slice a n cap] w fun e w' => ∃ a1 a2 a3 m, e = .returned (.tuple #[.slice a1 m m, .slice a2 m m, .slice a3 m m, .int .i64 (res (opF xs) n 0).1, .int .i64 (res (opF xs) n 0).2]) ∧ MapO (opF xs) n w.heap.size w' a1 a2 a3 m ∧ Below w.heap.size w w' := by
  have H1 := hid (blank n w hn)
  have HC := hid hc
  clear hc
  go_enter Tryd.func28, Tryd.ntmps28
  go_wp2_with fail
  refine H1.out.mono ?_
  rintro e w1 ⟨A, rfl, hA0, hA, hb1⟩
  have H2 := hid (blank n w1 hn)
  go_wp2_with fail
  refine H2.out.mono ?_
  rintro e w2 ⟨B, rfl, hB0, hB, hb2⟩
  have H3 := hid (blank n w2 hn)
  go_wp2_with fail
  refine H3.out.mono ?_
  rintro e w3 ⟨C, rfl, hC0, hC, hb3⟩
  have hAl := hA.lt
  have hBl := hB.lt
  have hCl := hC.lt
  have hs1 := hb1.size
  have hs2 := hb2.size
  have hs3 := hb3.size
  have hAB : A ≠ B := by omega
  have hAC : A ≠ C := by omega
  have hBC : B ≠ C := by omega
  have k2 := Kept.of_below hb2
  have k3 := Kept.of_below hb3
  have hA3 := (hA.kept k2 (by omega)).kept k3 (by omega)
  have hB3 := hB.kept k3 (by omega)
  have hbw : Below w.heap.size w w3 := (hb1.trans (hb2.mono hs1)).trans (hb3.mono (by omega))
  obtain ⟨op, hop⟩ : ∃ op, op = Obj.cells #[Value.slice (some ⟨A, 0, none⟩) n n, .slice (some ⟨B, 0, none⟩) n n, .slice (some ⟨C, 0, none⟩) n n] 90 := ⟨_, rfl⟩
  have kf := Kept.alloc (fun _ => False) w3 op
  have hbp : Below w.heap.size w (w3.alloc op) := hbw.alloc (by omega) op
  have hA4 := hA3.kept kf (fun x => x)
  have hB4 := hB3.kept kf (fun x => x)
  have hC4 := hC.kept kf (fun x => x)
  have p0 : (w3.alloc op).cell? ⟨w3.heap.size, 0, none⟩ = some (.slice (some ⟨A, 0, none⟩) n n) := by rw [hop, World.cell?_alloc_new]; rfl
  have p1 : (w3.alloc op).cell? ⟨w3.heap.size, 1, none⟩ = some (.slice (some ⟨B, 0, none⟩) n n) := by rw [hop, World.cell?_alloc_new]; rfl
  have p2 : (w3.alloc op).cell? ⟨w3.heap.size, 2, none⟩ = some (.slice (some ⟨C, 0, none⟩) n n) := by rw [hop, World.cell?_alloc_new]; rfl
  have nP : ¬ (w3.heap.size = A ∨ w3.heap.size = B ∨ w3.heap.size = C) := by omega
  have hwalk : Calls Tryd.prog 60 #[planV A B C n, .slice a n cap] (w3.alloc op) fun e w' => e = .returned (.tuple #[.int .i64 (res (opF xs) n 0).1, .int .i64 (res (opF xs) n 0).2]) ∧
      ((res (opF xs) n 0).1 = 0 → RI w' A n (enF (opF xs) n) ∧ RI w' B n (elF (opF xs) n) ∧ RI w' C n (owF (opF xs) n)) ∧ Kept (fun k => k = A ∨ k = B ∨ k = C) (w3.alloc op) w' := by
    have hcs := HC.out.later hbp (Nat.le_refl _)
    by_cases h0 : n = 0
    · subst h0
      refine (walk_nil A B C cap a _).mono fun e w' ⟨he, hk⟩ => ⟨by rw [he]; rfl, (fun h => by cases h), hk.mono (fun _ x => x.elim)⟩
    · rcases hcs.2 with hc | ⟨b, off, rfl, hc⟩
      · exact absurd hc h0
      have hb : b < w.heap.size := by
        rcases HC.out.2 with hx | ⟨b', off', e, hx⟩
        · exact absurd hx h0
        · injection e with e; injection e with e1; subst e1; exact hx.lt (by omega)
      exact walk_in A B C b off n cap xs _ hn hcap (by omega) hc hAB hAC hBC (by omega) (by omega) (by omega) hA4 hB4 hC4
  have HW := hid hwalk
  have HB := hid hbp
  unfold planV at HW
  have hge : w.heap.size ≤ w3.heap.size := by omega
  have hsz : (w3.alloc op).heap.size = w3.heap.size + 1 := by simp
  subst hop
  clear hwalk hA hB hC hA3 hB3 hA4 hB4 hC4 kf k2 k3 hbw hbp hb1 hb2 hb3 hs1 hs2 hs3
  go_wp2_with fail
  refine HW.out.mono ?_
  rintro e w5 ⟨rfl, hR, hk⟩
  have z0 := hk.cell p0 nP
  have z1 := hk.cell p1 nP
  have z2 := hk.cell p2 nP
  have HB5 := hid (below_kept HB.out hk (by omega) (fun k hx => by omega))
  have HR := hid hR
  clear hR hk
  by_cases h0 : (res (opF xs) n 0).1 = 0
  · have hg := res_good h0
    have HRR := hid (res_good_back hg)
    have HG := hid hg
    have hz : ((res (opF xs) n 0).1 == 0) = true := by rw [h0]; rfl
    have hz' : ((res (opF xs) n 0).1 != 0) = false := by rw [h0]; rfl
    have H0 := hid h0
    clear h0 hg
    generalize hr1 : (res (opF xs) n 0).1 = r1 at *
    generalize hr2 : (res (opF xs) n 0).2 = r2 at *
    go_wp2_with fail
    go_quiet (fail)
    go_wp2_with fail
    (try simp only [Exit.inBlock, Exit.then])
    refine bodyPost_ret (results_tmp5 rfl _ _ _) rfl ?_
    have e1 : r1 = 0 := H0.out
    have e2 : r2 = 0 := by rw [← hr2, HRR.out]
    have kd := Kept.drewN (fun _ => False) w5 nq
    obtain ⟨R1, R2, R3⟩ := HR.out e1
    refine ⟨_, _, _, _, by rw [hr1, hr2, e1, e2]; rfl, ?_, below_kept HB5.out kd HB5.out.size (fun _ x => x.elim)⟩
    exact .inr ⟨HRR.out, HG.out, rfl, A, B, C, by omega, by omega, by omega, hAB, hAC, hBC, rfl, rfl, rfl, R1.kept kd (fun x => x), R2.kept kd (fun x => x), R3.kept kd (fun x => x)⟩
  · have hz : ((res (opF xs) n 0).1 == 0) = false := by simpa using h0
    have hz' : ((res (opF xs) n 0).1 != 0) = true := by simpa using h0
    have H0 := hid h0
    clear h0
    generalize hr1 : (res (opF xs) n 0).1 = r1 at *
    generalize hr2 : (res (opF xs) n 0).2 = r2 at *
    go_wp2_with fail
    (try simp only [Exit.inBlock, Exit.then])
    refine bodyPost_ret (results_tmp5 rfl _ _ _) rfl ?_
    refine ⟨_, _, _, _, by rw [hr1, hr2]; rfl, .inl ⟨?_, rfl, rfl, rfl, rfl⟩, HB5.out⟩
    rw [hr1]; exact H0.out
end Go.Proofs.YtfcklkmfdjjfoaaDoor

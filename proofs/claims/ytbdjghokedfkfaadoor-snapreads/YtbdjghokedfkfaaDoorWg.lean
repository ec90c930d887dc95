/-
  snap's writer: a state; Write.
-/
import Derived.Test.YtbdjghokedfkfaaDoorWe
namespace Go.Proofs.YtbdjghokedfkfaaDoor
open Go.RowKit
set_option linter.unusedVariables false
set_option maxRecDepth 100000

theorem foldW_same {ps : List PgM} {s : WS} : (foldW pgA ps s).1 = s.1 := by
  induction ps generalizing s with
  | nil => rfl
  | cons x ps ih => exact (ih (s := pgA x s)).trans rfl
theorem pagesW_bad (ps : List PgM) (s : WS) (h : s.2 = true) : pagesW ps s = s := by
  unfold pagesW
  rw [numW_bad _ _ s h, foldW_bad pgA_bad _ _ h, listW_bad (pgK_bad ps) _ _ s h]
theorem pagesW_len (ps : List PgM) (hp : ∀ x ∈ ps, x.2.length = x.1.2.1) (s : WS) : (pagesW ps s).1.length ≤ s.1.length + 300000 := by
  unfold pagesW
  have h1 := numW_len ps.length 64 s
  cases hb : (foldW pgA ps (numW ps.length 64 s)).2 with
  | true =>
    rw [listW_bad (pgK_bad ps) _ _ _ hb, foldW_same]
    omega
  | false =>
    have hn := (numW_ok (foldW_ok pgA_bad hb)).1
    have h2 := listW_len (pgK_bad ps) (pgK_wide ps (fun x hx => by rw [hp x hx]; exact pgA_all hb x hx) (idx ps)) ps.length (foldW pgA ps (numW ps.length 64 s))
    rw [foldW_same] at h2
    have : 4106 * ps.length ≤ 4106 * 64 := Nat.mul_le_mul_left _ (by omega)
    omega
/-- What a state's numbers are. -/
structure SR (x : StM) : Prop where
  en : -128 ≤ x.en ∧ x.en ≤ 127
  tr : -128 ≤ x.tr ∧ x.tr ≤ 127
  rs : ∀ v ∈ x.rs, 0 ≤ v ∧ v < 18446744073709551616
  gs : ∀ v ∈ x.gs, 0 ≤ v ∧ v < 18446744073709551616
  fs : ∀ f ∈ x.fs, FrR f
  pc : ∀ p ∈ x.ps, p.1.2.1 ≤ p.1.2.2

set_option maxHeartbeats 8000000 in
theorem state13 (R g cap : Nat) (s : WS) (x : StM) (w0 w : World) (h : Wr w R g cap s.1 s.2) (hS : SSt w0 x) (hb : SB x) (hr : SR x) (hB : Below w0.heap.size w0 w) (hR : w0.heap.size ≤ R) (hg : w0.heap.size ≤ g) (hl : s.1.length ≤ 1000) :
    Calls Tryd.prog 25 #[.pointer (some ⟨R, 0, none⟩), .agg (stAr x)] w (WOut R g (stW x s) w) := by
  have e : stW x s = listW frW x.fs 64 (pagesW x.ps (listW valW x.gs 64 (listW valW x.rs 8 (numW (u64 x.rep) 9223372036854775807 (numW (u64 x.us) 4611686018427387904 (octW x.tr 0 6 (octW x.en 1 3 s))))))) := rfl
  rw [e]
  clear e
  have T1 := hid (fun (W : World) (g cap : Nat) (hW : Wr W R g cap s.1 s.2) => octet20 R g cap s x.en 1 3 W hW hr.en.1 hr.en.2 (by omega) (by omega))
  have l1 := octW_len x.en 1 3 s
  generalize octW x.en 1 3 s = s1 at *
  have T2 := hid (fun (W : World) (g cap : Nat) (hW : Wr W R g cap s1.1 s1.2) => octet20 R g cap s1 x.tr 0 6 W hW hr.tr.1 hr.tr.2 (by omega) (by omega))
  have l2 := octW_len x.tr 0 6 s1
  generalize octW x.tr 0 6 s1 = s2 at *
  have T3 := hid (fun (W : World) (g cap : Nat) (hW : Wr W R g cap s2.1 s2.2) => number21 R g cap s2 (u64 x.us) 4611686018427387904 W hW (u64_rng _).1 (u64_rng _).2 (by omega))
  have l3 := numW_len (u64 x.us) 4611686018427387904 s2
  generalize numW (u64 x.us) 4611686018427387904 s2 = s3 at *
  have T4 := hid (fun (W : World) (g cap : Nat) (hW : Wr W R g cap s3.1 s3.2) => number21 R g cap s3 (u64 x.rep) 9223372036854775807 W hW (u64_rng _).1 (u64_rng _).2 (by omega))
  have l4 := numW_len (u64 x.rep) 9223372036854775807 s3
  generalize numW (u64 x.rep) 9223372036854775807 s3 = s4 at *
  have T5 := hid (fun (W : World) (g cap : Nat) (hW : Wr W R g cap s4.1 s4.2) (hB : Below w0.heap.size w0 W) (hg : w0.heap.size ≤ g) => wlU R g cap s4 x.ra x.rn x.rc 8 x.rs w0 W hW hS.rs hr.rs hB hR hg hb.r (by omega) (by omega))
  have l5 := listW_len valW_bad (valW_wide x.rs) 8 s4
  simp only [Int.cast_ofNat_Int] at l5 T5
  generalize listW valW x.rs 8 s4 = s5 at *
  have T6 := hid (fun (W : World) (g cap : Nat) (hW : Wr W R g cap s5.1 s5.2) (hB : Below w0.heap.size w0 W) (hg : w0.heap.size ≤ g) => wlU R g cap s5 x.ga x.gn x.gc 64 x.gs w0 W hW hS.gl hr.gs hB hR hg hb.g (by omega) (by omega))
  have l6 := listW_len valW_bad (valW_wide x.gs) 64 s5
  simp only [Int.cast_ofNat_Int] at l6 T6
  generalize listW valW x.gs 64 s5 = s6 at *
  have T7 := hid (fun (W : World) (g cap : Nat) (hW : Wr W R g cap s6.1 s6.2) (hB : Below w0.heap.size w0 W) (hg : w0.heap.size ≤ g) => pages24 R g cap s6 x.pa x.pn x.pc x.ps w0 W hW hS.pg (fun y hy => ⟨hb.pb y hy, hr.pc y hy⟩) hb.p hB hR hg (by omega))
  have l7 := pagesW_len x.ps (fun y hy => (hS.pg.in_ y hy).1) s6
  generalize pagesW x.ps s6 = s7 at *
  have T8 := hid (fun (W : World) (g cap : Nat) (hW : Wr W R g cap s7.1 s7.2) (hB : Below w0.heap.size w0 W) (hg : w0.heap.size ≤ g) => wlF R g cap s7 x.fa x.fn x.fc 64 x.fs w0 W hW hS.fr hb.fb hr.fs hB hR hg hb.f (by omega) (by omega))
  simp only [Int.cast_ofNat_Int] at T8
  generalize listW frW x.fs 64 s7 = s8 at *
  have HB := hid hB
  have b1 := below_new w (stO x)
  have KB := hid (nb_new w (stO x))
  have S0 := hid (Stp.of_below (R := R) (g := g) b1)
  have W0 := hid (h.later b1)
  have hlt := h.lt
  have hgl := h.row.lt
  have hsz : (w.alloc (stO x)).heap.size = w.heap.size + 1 := by simp
  have NX := hid (fun (W W' : World) (g1 g2 : Nat) (hk : Stp R g1 g2 W W') (h1 : W.heap[w.heap.size]? = some (stO x) ∧ g1 ≠ w.heap.size ∧ w.heap.size < W.heap.size) => (show W'.heap[w.heap.size]? = some (stO x) ∧ g2 ≠ w.heap.size ∧ w.heap.size < W'.heap.size from ⟨(hk.k.block _ h1.2.2 (by omega)).trans h1.1, by rcases hk.m with h | h <;> omega, by have := hk.size; omega⟩))
  have HC := hid (fun (W : World) (hW : W.heap[w.heap.size]? = some (stO x)) => (⟨cell_at hW, cell_at hW, cell_at hW, cell_at hW, cell_at hW, cell_at hW, cell_at hW, cell_at hW⟩ :
      W.cell? ⟨w.heap.size, 0, none⟩ = some (.slice x.fa x.fn x.fc) ∧ W.cell? ⟨w.heap.size, 1, none⟩ = some (.slice x.ga x.gn x.gc) ∧ W.cell? ⟨w.heap.size, 2, none⟩ = some (.slice x.pa x.pn x.pc) ∧ W.cell? ⟨w.heap.size, 3, none⟩ = some (.int .i64 x.rep) ∧ W.cell? ⟨w.heap.size, 4, none⟩ = some (.int .i8 x.en) ∧ W.cell? ⟨w.heap.size, 5, none⟩ = some (.slice x.ra x.rn x.rc) ∧ W.cell? ⟨w.heap.size, 6, none⟩ = some (.int .i8 x.tr) ∧ W.cell? ⟨w.heap.size, 7, none⟩ = some (.int .i64 x.us)))
  have M0 := hid (show (w.alloc (stO x)).heap[w.heap.size]? = some (stO x) ∧ g ≠ w.heap.size ∧ w.heap.size < (w.alloc (stO x)).heap.size from ⟨KB.out, by omega, by omega⟩)
  obtain ⟨a0, a1, a2, a3, a4, a5, a6, a7⟩ := HC.out _ KB.out
  clear h hS hb hr hB b1 l1 l2 l3 l4 l5 l6 l7 KB
  obtain ⟨U1, hv1⟩ : ∃ U, IntKind.u64.wrap x.us = U := ⟨_, rfl⟩
  obtain ⟨U2, hv2⟩ : ∃ U, IntKind.u64.wrap x.rep = U := ⟨_, rfl⟩
  simp only [u64, hv1] at T3
  simp only [u64, hv2] at T4
  obtain ⟨fa, fn, fc, fs, ga, gn, gc, gs, pa, pn, pc, ps, rep, en, ra, rn, rc, rs, tr, us⟩ := x
  dsimp only at *
  go_enter Tryd.func25, Tryd.ntmps25
  go_wp2_with fail
  refine (T1.out _ g cap W0.out).mono ?_
  rintro e w1 ⟨rfl, g1, cap1, hw1, hs1⟩
  have M1 := hid (NX.out _ _ _ _ hs1 M0.out)
  have S1 := hid (S0.out.trans hs1)
  have W1 := hid hw1
  have LO1 := hid (S1.out.low HB.out hR hg)
  clear a0 a1 a2 a3 a4 a5 a6 a7
  obtain ⟨a0, a1, a2, a3, a4, a5, a6, a7⟩ := HC.out _ M1.out.1
  clear hw1 hs1 T1
  go_wp2_with fail
  refine (T2.out _ g1 cap1 W1.out).mono ?_
  rintro e w2 ⟨rfl, g2, cap2, hw2, hs2⟩
  have M2 := hid (NX.out _ _ _ _ hs2 M1.out)
  have S2 := hid (S1.out.trans hs2)
  have W2 := hid hw2
  have LO2 := hid (S2.out.low HB.out hR hg)
  clear a0 a1 a2 a3 a4 a5 a6 a7
  obtain ⟨a0, a1, a2, a3, a4, a5, a6, a7⟩ := HC.out _ M2.out.1
  clear hw2 hs2 T2
  go_wp2_with fail
  refine (T3.out _ g2 cap2 W2.out).mono ?_
  rintro e w3 ⟨rfl, g3, cap3, hw3, hs3⟩
  have M3 := hid (NX.out _ _ _ _ hs3 M2.out)
  have S3 := hid (S2.out.trans hs3)
  have W3 := hid hw3
  have LO3 := hid (S3.out.low HB.out hR hg)
  clear a0 a1 a2 a3 a4 a5 a6 a7
  obtain ⟨a0, a1, a2, a3, a4, a5, a6, a7⟩ := HC.out _ M3.out.1
  clear hw3 hs3 T3
  go_wp2_with fail
  refine (T4.out _ g3 cap3 W3.out).mono ?_
  rintro e w4 ⟨rfl, g4, cap4, hw4, hs4⟩
  have M4 := hid (NX.out _ _ _ _ hs4 M3.out)
  have S4 := hid (S3.out.trans hs4)
  have W4 := hid hw4
  have LO4 := hid (S4.out.low HB.out hR hg)
  clear a0 a1 a2 a3 a4 a5 a6 a7
  obtain ⟨a0, a1, a2, a3, a4, a5, a6, a7⟩ := HC.out _ M4.out.1
  clear hw4 hs4 T4
  go_wp2_with fail
  refine (T5.out _ g4 cap4 W4.out LO4.out.1 LO4.out.2).mono ?_
  rintro e w5 ⟨rfl, g5, cap5, hw5, hs5⟩
  have M5 := hid (NX.out _ _ _ _ hs5 M4.out)
  have S5 := hid (S4.out.trans hs5)
  have W5 := hid hw5
  have LO5 := hid (S5.out.low HB.out hR hg)
  clear a0 a1 a2 a3 a4 a5 a6 a7
  obtain ⟨a0, a1, a2, a3, a4, a5, a6, a7⟩ := HC.out _ M5.out.1
  clear hw5 hs5 T5
  go_wp2_with fail
  refine (T6.out _ g5 cap5 W5.out LO5.out.1 LO5.out.2).mono ?_
  rintro e w6 ⟨rfl, g6, cap6, hw6, hs6⟩
  have M6 := hid (NX.out _ _ _ _ hs6 M5.out)
  have S6 := hid (S5.out.trans hs6)
  have W6 := hid hw6
  have LO6 := hid (S6.out.low HB.out hR hg)
  clear a0 a1 a2 a3 a4 a5 a6 a7
  obtain ⟨a0, a1, a2, a3, a4, a5, a6, a7⟩ := HC.out _ M6.out.1
  clear hw6 hs6 T6
  go_wp2_with fail
  refine (T7.out _ g6 cap6 W6.out LO6.out.1 LO6.out.2).mono ?_
  rintro e w7 ⟨rfl, g7, cap7, hw7, hs7⟩
  have M7 := hid (NX.out _ _ _ _ hs7 M6.out)
  have S7 := hid (S6.out.trans hs7)
  have W7 := hid hw7
  have LO7 := hid (S7.out.low HB.out hR hg)
  clear a0 a1 a2 a3 a4 a5 a6 a7
  obtain ⟨a0, a1, a2, a3, a4, a5, a6, a7⟩ := HC.out _ M7.out.1
  clear hw7 hs7 T7
  go_wp2_with fail
  refine (T8.out _ g7 cap7 W7.out LO7.out.1 LO7.out.2).mono ?_
  rintro e w8 ⟨rfl, g8, cap8, hw8, hs8⟩
  have M8 := hid (NX.out _ _ _ _ hs8 M7.out)
  have S8 := hid (S7.out.trans hs8)
  have W8 := hid hw8
  have LO8 := hid (S8.out.low HB.out hR hg)
  clear a0 a1 a2 a3 a4 a5 a6 a7
  obtain ⟨a0, a1, a2, a3, a4, a5, a6, a7⟩ := HC.out _ M8.out.1
  clear hw8 hs8 T8
  go_wp2_with fail
  go_end0
  exact ⟨rfl, g8, cap8, W8.out, S8.out⟩
end Go.Proofs.YtbdjghokedfkfaaDoor

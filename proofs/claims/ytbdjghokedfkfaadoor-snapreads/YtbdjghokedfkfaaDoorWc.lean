/-
  snap's writer: lists of numbers, a frame, lists of frames.
-/
import Derived.Test.YtbdjghokedfkfaaDoorWb
namespace Go.Proofs.YtbdjghokedfkfaaDoor
open Go.RowKit
set_option linter.unusedVariables false
set_option maxRecDepth 100000

theorem Stp.low {R g1 g2 : Nat} {w0 W W' : World} (h : Stp R g1 g2 W W') (hB : Below w0.heap.size w0 W) (hR : w0.heap.size ≤ R) (hg : w0.heap.size ≤ g1) : Below w0.heap.size w0 W' ∧ w0.heap.size ≤ g2 := by
  refine ⟨hB.trans (h.k.to_below hB.size (fun k hk hs => by omega)), ?_⟩
  have := hB.size
  rcases h.m with h1 | h1 <;> omega
theorem valW_wide (l : List Int) : Wide valW 10 l := fun x _ s => numW_len x _ s
/-- A list of numbers of 64 bits. -/
theorem wlU (R g cap : Nat) (s : WS) (a : Option Addr) (n c most : Nat) (l : List Int) (w0 w : World) (h : Wr w R g cap s.1 s.2) (hS : SI .u64 w0 a n l) (hr : ∀ v ∈ l, 0 ≤ v ∧ v < 18446744073709551616) (hB : Below w0.heap.size w0 w) (hR : w0.heap.size ≤ R) (hg : w0.heap.size ≤ g)
    (hn : n ≤ 1099511627776) (hm : most ≤ 1000) (hb : s.1.length + 20 + 10 * most + 10 ≤ 1099511627776) :
    Calls Tryd.prog 69 #[.pointer (some ⟨R, 0, none⟩), .slice a n c, .int .i64 most, .func (.func 70) #[.pointer (some ⟨R, 0, none⟩)] #[]] w (WOut R g (listW valW l most s) w) := by
  by_cases h0 : n = 0
  · subst h0
    obtain rfl := List.eq_nil_of_length_eq_zero hS.1
    exact wlU_none R g cap s a c most valW _ _ _ w h (by omega) (by omega)
  · obtain ⟨b, off, rfl, hc⟩ := hS.2.resolve_left h0
    exact wlU_in R g cap s b off n c most 10 l valW 70 #[.pointer (some ⟨R, 0, none⟩)] #[] (fun W g1 => Below w0.heap.size w0 W ∧ w0.heap.size ≤ g1) w h hS.1 (by omega) hn (by omega) (by omega) hb ⟨hB, hg⟩
      (fun W W' g1 g2 hJ hS => hS.low hJ.1 hR hJ.2) (fun W g1 hJ j x hx => later_cell hJ.1 (hc j x hx)) valW_bad (valW_wide l) (fun _ _ => rfl)
      (fun W g1 cap1 s1 x hx hW hJ hb1 _ => value23 R g1 cap1 s1 x W hW (hr x hx).1 (hr x hx).2 hb1)
abbrev u64 (v : Int) : Int := IntKind.u64.wrap v
theorem u64_rng (v : Int) : 0 ≤ u64 v ∧ u64 v < 18446744073709551616 := by simp only [u64, IntKind.wrap_u64]; omega
/-- A frame. -/
def frW (x : FrM) (s : WS) : WS := listW valW x.2.2.2.2 256 (listW valW x.2.2.1.2 64 (numW (u64 x.2.1) 2047 (numW (u64 x.1) 127 s)))
theorem frW_bad : Stays frW := fun x s h => by
  unfold frW
  rw [numW_bad _ _ s h, numW_bad _ _ s h, listW_bad valW_bad _ _ s h, listW_bad valW_bad _ _ s h]
theorem frW_wide (l : List FrM) : Wide frW 3300 l := fun x _ s => by
  unfold frW
  have h1 := numW_len (u64 x.1) 127 s
  have h2 := numW_len (u64 x.2.1) 2047 (numW (u64 x.1) 127 s)
  have h3 := listW_len valW_bad (valW_wide x.2.2.1.2) 64 (numW (u64 x.2.1) 2047 (numW (u64 x.1) 127 s))
  have h4 := listW_len valW_bad (valW_wide x.2.2.2.2) 256 (listW valW x.2.2.1.2 64 (numW (u64 x.2.1) 2047 (numW (u64 x.1) 127 s)))
  simp only [Int.cast_ofNat_Int] at h3 h4
  omega
def FrR (x : FrM) : Prop := (∀ v ∈ x.2.2.1.2, 0 ≤ v ∧ v < 18446744073709551616) ∧ ∀ v ∈ x.2.2.2.2, 0 ≤ v ∧ v < 18446744073709551616
set_option maxHeartbeats 4000000 in
theorem frame26 (R g cap : Nat) (s : WS) (x : FrM) (w0 w : World) (h : Wr w R g cap s.1 s.2) (hS : SF1 w0 x) (hF : FB x) (hr : FrR x) (hB : Below w0.heap.size w0 w) (hR : w0.heap.size ≤ R) (hg : w0.heap.size ≤ g) (hb : s.1.length + 3300 ≤ 1099511627776) :
    Calls Tryd.prog 73 #[.pointer (some ⟨R, 0, none⟩), frV x] w (WOut R g (frW x s) w) := by
  have hn1 := u64_rng x.1
  have hn2 := u64_rng x.2.1
  have l1 := numW_len (u64 x.1) 127 s
  have l2 := numW_len (u64 x.2.1) 2047 (numW (u64 x.1) 127 s)
  have l3 := listW_len valW_bad (valW_wide x.2.2.1.2) 64 (numW (u64 x.2.1) 2047 (numW (u64 x.1) 127 s))
  have N1 := hid (fun (W : World) (g cap : Nat) (hW : Wr W R g cap s.1 s.2) => number21 R g cap s (u64 x.1) 127 W hW hn1.1 hn1.2 (by omega))
  have N2 := hid (fun (W : World) (g cap : Nat) (hW : Wr W R g cap (numW (u64 x.1) 127 s).1 (numW (u64 x.1) 127 s).2) => number21 R g cap _ (u64 x.2.1) 2047 W hW hn2.1 hn2.2 (by omega))
  have e : frW x s = listW valW x.2.2.2.2 256 (listW valW x.2.2.1.2 64 (numW (u64 x.2.1) 2047 (numW (u64 x.1) 127 s))) := rfl
  rw [e]
  clear e
  generalize numW (u64 x.1) 127 s = s1 at *
  generalize numW (u64 x.2.1) 2047 s1 = s2 at *
  have L1 := hid (fun (W : World) (g cap : Nat) (hW : Wr W R g cap s2.1 s2.2) (hB : Below w0.heap.size w0 W) (hg : w0.heap.size ≤ g) => wlU R g cap s2 x.2.2.1.1.1 x.2.2.1.1.2.1 x.2.2.1.1.2.2 64 x.2.2.1.2 w0 W hW hS.1 hr.1 hB hR hg hF.1 (by omega) (by omega))
  simp only [Int.cast_ofNat_Int] at l3 L1
  generalize listW valW x.2.2.1.2 64 s2 = s3 at *
  have L2 := hid (fun (W : World) (g cap : Nat) (hW : Wr W R g cap s3.1 s3.2) (hB : Below w0.heap.size w0 W) (hg : w0.heap.size ≤ g) => wlU R g cap s3 x.2.2.2.1.1 x.2.2.2.1.2.1 x.2.2.2.1.2.2 256 x.2.2.2.2 w0 W hW hS.2 hr.2 hB hR hg hF.2 (by omega) (by omega))
  simp only [Int.cast_ofNat_Int] at L2
  generalize listW valW x.2.2.2.2 256 s3 = s4 at *
  have HW := hid h
  have HB := hid hB
  obtain ⟨x1, x2, ⟨⟨la, ln, lc⟩, ll⟩, ⟨⟨ka, kn, kc⟩, kl⟩⟩ := x
  dsimp only at *
  have b1 := below_new w (frO x1 x2 la ln lc ka kn kc)
  have kb := nb_new w (frO x1 x2 la ln lc ka kn kc)
  have hlt := h.lt
  have hgl := h.row.lt
  have HC := hid (fun (W : World) (g2 : Nat) (hK : Stp R g g2 w W) (hW : W.heap[w.heap.size]? = some (frO x1 x2 la ln lc ka kn kc)) => (⟨cell_at hW, cell_at hW, cell_at hW, cell_at hW⟩ : W.cell? ⟨w.heap.size, 0, none⟩ = some (.int .i64 x1) ∧ W.cell? ⟨w.heap.size, 1, none⟩ = some (.int .i64 x2) ∧ W.cell? ⟨w.heap.size, 2, none⟩ = some (.slice la ln lc) ∧ W.cell? ⟨w.heap.size, 3, none⟩ = some (.slice ka kn kc)))
  have KB := hid kb
  have S0 := hid (Stp.of_below (R := R) (g := g) b1)
  have W0 := hid (h.later b1)
  clear h hB b1 kb l1 l2 l3 hF hr hS HW
  have hsz : (w.alloc (frO x1 x2 la ln lc ka kn kc)).heap.size = w.heap.size + 1 := by simp
  obtain ⟨U1, hU1⟩ : ∃ U, u64 x1 = U := ⟨_, rfl⟩
  obtain ⟨U2, hU2⟩ : ∃ U, u64 x2 = U := ⟨_, rfl⟩
  rw [hU1] at N1
  rw [hU2] at N2
  have hv1 : IntKind.u64.wrap x1 = U1 := hU1
  have hv2 : IntKind.u64.wrap x2 = U2 := hU2
  clear hU1 hU2 hn1 hn2
  have NX := hid (fun (W W' : World) (g1 g2 : Nat) (hk : Stp R g1 g2 W W') (h1 : g1 ≠ w.heap.size) (h2 : w.heap.size < W.heap.size) (h3 : W.heap[w.heap.size]? = some (frO x1 x2 la ln lc ka kn kc)) => (show W'.heap[w.heap.size]? = some (frO x1 x2 la ln lc ka kn kc) ∧ g2 ≠ w.heap.size ∧ w.heap.size < W'.heap.size from ⟨(hk.k.block _ h2 (by omega)).trans h3, by rcases hk.m with h | h <;> omega, by have := hk.size; omega⟩))
  go_enter Tryd.func73, Tryd.ntmps73
  go_wp2_with fail
  refine (N1.out _ g cap W0.out).mono ?_
  rintro e w1 ⟨rfl, g1, cap1, hw1, hs1⟩
  have n1 := NX.out _ _ _ _ hs1 (by omega) (by omega) KB.out
  have S1 := hid (S0.out.trans hs1)
  have W1 := hid hw1
  obtain ⟨a0, a1, a2, a3⟩ := HC.out w1 g1 S1.out n1.1
  have M1 := hid n1
  clear hw1 hs1 N1 n1
  go_wp2_with fail
  refine (N2.out _ g1 cap1 W1.out).mono ?_
  rintro e w2 ⟨rfl, g2, cap2, hw2, hs2⟩
  have n2 := NX.out _ _ _ _ hs2 M1.out.2.1 M1.out.2.2 M1.out.1
  have S2 := hid (S1.out.trans hs2)
  have W2 := hid hw2
  obtain ⟨a0, a1, a2, a3⟩ := HC.out w2 g2 S2.out n2.1
  have M2 := hid n2
  have LO2 := hid (S2.out.low HB.out hR hg)
  clear hw2 hs2 N2 n2
  go_wp2_with fail
  refine (L1.out _ g2 cap2 W2.out LO2.out.1 LO2.out.2).mono ?_
  rintro e w3 ⟨rfl, g3, cap3, hw3, hs3⟩
  have n3 := NX.out _ _ _ _ hs3 M2.out.2.1 M2.out.2.2 M2.out.1
  have S3 := hid (S2.out.trans hs3)
  have W3 := hid hw3
  obtain ⟨a0, a1, a2, a3⟩ := HC.out w3 g3 S3.out n3.1
  have LO3 := hid (S3.out.low HB.out hR hg)
  clear hw3 hs3 L1 n3
  go_wp2_with fail
  refine (L2.out _ g3 cap3 W3.out LO3.out.1 LO3.out.2).mono ?_
  rintro e w4 ⟨rfl, g4, cap4, hw4, hs4⟩
  have S4 := hid (S3.out.trans hs4)
  have W4 := hid hw4
  clear hw4 hs4 L2
  go_wp2_with fail
  go_end0
  exact ⟨rfl, g4, cap4, W4.out, S4.out⟩
/-- A list of frames. -/
theorem wlF (R g cap : Nat) (s : WS) (a : Option Addr) (n c most : Nat) (l : List FrM) (w0 w : World) (h : Wr w R g cap s.1 s.2) (hS : SFr w0 a n l) (hF : ∀ x ∈ l, FB x) (hr : ∀ x ∈ l, FrR x) (hB : Below w0.heap.size w0 w) (hR : w0.heap.size ≤ R) (hg : w0.heap.size ≤ g)
    (hn : n ≤ 1099511627776) (hm : most ≤ 1000) (hb : s.1.length + 20 + 3300 * most + 3300 ≤ 1099511627776) :
    Calls Tryd.prog 72 #[.pointer (some ⟨R, 0, none⟩), .slice a n c, .int .i64 most, .func (.func 73) #[.pointer (some ⟨R, 0, none⟩)] #[]] w (WOut R g (listW frW l most s) w) := by
  by_cases h0 : n = 0
  · subst h0
    obtain rfl := List.eq_nil_of_length_eq_zero hS.len
    exact wlF_none R g cap s a c most frW _ _ _ w h (by omega) (by omega)
  · obtain ⟨b, off, rfl, hc⟩ := hS.at_.resolve_left h0
    exact wlF_in R g cap s b off n c most 3300 l frW 73 #[.pointer (some ⟨R, 0, none⟩)] #[] (fun W g1 => Below w0.heap.size w0 W ∧ w0.heap.size ≤ g1) w h hS.len (by omega) hn (by omega) (by omega) hb ⟨hB, hg⟩
      (fun W W' g1 g2 hJ hS => hS.low hJ.1 hR hJ.2) (fun W g1 hJ j x hx => ⟨later_cell hJ.1 (hc j x hx).1, later_cell hJ.1 (hc j x hx).2.1, later_cell hJ.1 (hc j x hx).2.2.1, later_cell hJ.1 (hc j x hx).2.2.2⟩) frW_bad (frW_wide l) (fun _ _ => rfl)
      (fun W g1 cap1 s1 x hx hW hJ hb1 _ => frame26 R g1 cap1 s1 x w0 W hW (hS.in_ x hx) (hF x hx) (hr x hx) hJ.1 hR hJ.2 hb1)
end Go.Proofs.YtbdjghokedfkfaaDoor

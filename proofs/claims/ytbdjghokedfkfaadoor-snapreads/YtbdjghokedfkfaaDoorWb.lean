/-
  snap's writer: lists, one element after the other; a frame.
-/
import Derived.Test.YtbdjghokedfkfaaDoorWa
namespace Go.Proofs.YtbdjghokedfkfaaDoor
open Go.RowKit
set_option linter.unusedVariables false
set_option maxRecDepth 100000

def foldW {α : Type} (f : α → WS → WS) (l : List α) (s : WS) : WS := l.foldl (fun s x => f x s) s
theorem foldW_snoc {α : Type} (f : α → WS → WS) (l : List α) (x : α) (s : WS) : foldW f (l ++ [x]) s = f x (foldW f l s) := by simp [foldW]
theorem foldW_app {α : Type} (f : α → WS → WS) (l l' : List α) (s : WS) : foldW f (l ++ l') s = foldW f l' (foldW f l s) := by simp [foldW]
/-- Where something did not hold nothing more is written. -/
def Stays {α : Type} (f : α → WS → WS) : Prop := ∀ x s, s.2 = true → f x s = s
theorem foldW_bad {α : Type} {f : α → WS → WS} (hf : Stays f) : ∀ (l : List α) (s : WS), s.2 = true → foldW f l s = s
  | [], s, _ => rfl
  | x :: l, s, h => by
    have h1 := hf x s h
    show foldW f l (f x s) = s
    rw [h1]
    exact foldW_bad hf l s h
def Wide {α : Type} (f : α → WS → WS) (C : Nat) (l : List α) : Prop := ∀ x ∈ l, ∀ s, (f x s).1.length ≤ s.1.length + C
theorem foldW_len {α : Type} {f : α → WS → WS} {C : Nat} : ∀ (l : List α) (s : WS), Wide f C l → (foldW f l s).1.length ≤ s.1.length + C * l.length
  | [], s, _ => by simp [foldW]
  | x :: l, s, h => by
    have h1 := h x (by simp) s
    have h2 := foldW_len l (f x s) (fun y hy => h y (by simp [hy]))
    show (foldW f l (f x s)).1.length ≤ _
    rw [List.length_cons, Nat.mul_succ]
    omega
theorem askW_bad (b : Bool) (s : WS) (h : s.2 = true) : askW b s = s := by
  obtain ⟨bs, bad⟩ := s
  simp at h
  simp [askW, h]
theorem putW_bad (zs : List Int) (s : WS) (h : s.2 = true) : putW zs s = s := by simp [putW, h]
theorem numW_bad (v most : Int) (s : WS) (h : s.2 = true) : numW v most s = s := by
  unfold numW
  rw [askW_bad _ s h, putW_bad _ s h]
theorem octW_bad (v least most : Int) (s : WS) (h : s.2 = true) : octW v least most s = s := by
  unfold octW
  rw [askW_bad _ s h, putW_bad _ s h]
theorem putW_len (zs : List Int) (s : WS) : (putW zs s).1.length ≤ s.1.length + zs.length := by
  unfold putW
  split
  · omega
  · simp
theorem numW_len (v most : Int) (s : WS) : (numW v most s).1.length ≤ s.1.length + 10 := by
  have h := putW_len (uvar v) (askW (decide (v ≤ most)) s)
  have := uvar_len v
  unfold numW
  have e : (askW (decide (v ≤ most)) s).1 = s.1 := rfl
  rw [e] at h
  omega
theorem octW_len (v least most : Int) (s : WS) : (octW v least most s).1.length ≤ s.1.length + 1 := by
  have h := putW_len [v] (askW (decide (least ≤ v) && decide (v ≤ most)) s)
  unfold octW
  have e : (askW (decide (least ≤ v) && decide (v ≤ most)) s).1 = s.1 := rfl
  rw [e] at h
  simpa using h
/-- What was asked of the count held. -/
theorem numW_ok {v most : Int} {s : WS} (h : (numW v most s).2 = false) : v ≤ most ∧ s.2 = false := by
  unfold numW putW at h
  split at h
  · rename_i hb; rw [hb] at h; cases h
  · simp [askW] at h; exact ⟨h.2, h.1⟩
theorem foldW_ok {α : Type} {f : α → WS → WS} (hf : Stays f) {l : List α} {s : WS} (h : (foldW f l s).2 = false) : s.2 = false := by
  cases hs : s.2 with
  | false => rfl
  | true => rw [foldW_bad hf l s hs, hs] at h; cases h
def valW (v : Int) (s : WS) : WS := numW v 18446744073709551615 s
theorem valW_bad : Stays valW := fun v s h => numW_bad v _ s h
def listW {α : Type} (f : α → WS → WS) (l : List α) (most : Int) (s : WS) : WS := foldW f l (numW l.length most s)
theorem listW_bad {α : Type} {f : α → WS → WS} (hf : Stays f) (l : List α) (most : Int) (s : WS) (h : s.2 = true) : listW f l most s = s := by
  unfold listW
  rw [numW_bad _ _ s h]
  exact foldW_bad hf l s h
theorem listW_len {α : Type} {f : α → WS → WS} (hf : Stays f) {C : Nat} {l : List α} (hw : Wide f C l) (most : Nat) (s : WS) : (listW f l most s).1.length ≤ s.1.length + 10 + C * most := by
  have h1 := numW_len l.length most s
  unfold listW
  cases hb : (numW l.length most s).2 with
  | true => rw [foldW_bad hf l _ hb]; omega
  | false =>
    have h2 := (numW_ok hb).1
    have h3 := foldW_len l (numW l.length most s) hw
    have h4 : C * l.length ≤ C * most := Nat.mul_le_mul_left C (by omega)
    omega

set_option maxHeartbeats 4000000 in
theorem wlU_in (R g cap : Nat) (s : WS) (b off n c : Nat) (most C : Nat) (l : List Int) (f : Int → WS → WS) (K : Nat) (fi ca : Array Value) (J : World → Nat → Prop) (w : World) (h : Wr w R g cap s.1 s.2) (hl : l.length = n) (h0 : 0 < n) (hn : n ≤ 1099511627776) (hm : most ≤ 100000) (hC : C ≤ 100000) (hb : s.1.length + 20 + C * most + C ≤ 1099511627776)
    (hJ : J w g) (hJs : ∀ W W' g1 g2, J W g1 → Stp R g1 g2 W W' → J W' g2)
    (hc : ∀ W g1, J W g1 → ∀ (j : Nat) x, l[j]? = some x → W.cell? ⟨b, off + j, none⟩ = some (.int .u64 x))
    (hf : Stays f) (hw : Wide f C l) (hK : ∀ args w, (callFunc K args).run Tryd.prog w = .ok (.enter K args) w)
    (hE : ∀ W g1 cap1 s1 x, x ∈ l → Wr W R g1 cap1 s1.1 s1.2 → J W g1 → s1.1.length + C ≤ 1099511627776 → s1.2 = false → Calls Tryd.prog K (fi ++ #[.int .u64 x] ++ ca) W (WOut R g1 (f x s1) W)) :
    Calls Tryd.prog 69 #[.pointer (some ⟨R, 0, none⟩), .slice (some ⟨b, off, none⟩) n c, .int .i64 most, .func (.func K) fi ca] w (WOut R g (listW f l most s) w) := by
  have hw1 : IntKind.u64.wrap (n : Int) = n := by rw [IntKind.wrap_u64]; omega
  have hw2 : IntKind.u64.wrap (most : Int) = most := by rw [IntKind.wrap_u64]; omega
  have hw3 : (n : Int) % 18446744073709551616 = n := by omega
  have hw4 : (most : Int) % 18446744073709551616 = most := by omega
  have HN := hid (number21 R g cap s n most w h (by omega) (by omega) (by omega))
  have HL := hid (numW_len (n : Int) most s)
  have HO := hid (fun hh => (numW_ok (v := (n : Int)) (most := most) (s := s) hh).1)
  have eL : listW f l most s = foldW f l (numW n most s) := by unfold listW; rw [hl]
  rw [eL]
  clear eL h
  generalize numW (n : Int) most s = s0 at *
  have HB := hid (fun (k : Nat) (hk : k ≤ n) (hh : (foldW f (l.take k) s0).2 = false) => (show (foldW f (l.take k) s0).1.length + C ≤ 1099511627776 from by
    have h1 := HO.out (foldW_ok hf hh)
    have h2 := foldW_len (l.take k) s0 (fun x hx => hw x (List.mem_of_mem_take hx))
    have h3 : (l.take k).length ≤ most := by rw [List.length_take]; omega
    have h4 : C * (l.take k).length ≤ C * most := Nat.mul_le_mul_left C h3
    have h5 := HL.out
    omega))
  have HJ := hid hJ
  have HJS := hid hJs
  have HC := hid hc
  have HE := hid hE
  have HF := hid hf
  clear hJ hJs hc hE hf hw HO HL hb hw1 hw2
  go_enter Tryd.func69, Tryd.ntmps69
  go_wp2_with fail
  refine HN.out.mono ?_
  rintro e w1 ⟨rfl, g1, cap1, hw1, hs1⟩
  have W1 := hid hw1
  have S1 := hid hs1
  clear hw1 hs1 HN hw3 hw4
  go_wp2_with fail
  go_loopw [19] (fun i wr => ∃ (k g2 cap2 : Nat), k ≤ n ∧ i = .int .i64 k ∧ Hid (Wr wr R g2 cap2 (foldW f (l.take k) s0).1 (foldW f (l.take k) s0).2) ∧ Hid (Stp R g g2 w wr)) (fun i _ => n - (intOf i).toNat)
  case atStart => exact ⟨0, g1, cap1, by omega, rfl, W1, S1⟩
  case round =>
    obtain ⟨k, g2, cap2, hk, rfl, WR, SR⟩ := hrel
    by_cases hlt : k < n
    · obtain ⟨x, hx⟩ : ∃ x, l[k]? = some x := ⟨_, List.getElem?_eq_getElem (by omega)⟩
      have J2 := hid (HJS.out _ _ _ _ HJ.out SR.out)
      have hcell := HC.out wr g2 J2.out k x hx
      have hlt' : (k : Int) < (n : Int) := by omega
      have c1 := WR.out.c1
      have HX := hid hx
      obtain ⟨bad, hbad⟩ : ∃ b, (foldW f (l.take k) s0).2 = b := ⟨_, rfl⟩
      rw [hbad] at c1
      have HBad := hid hbad
      clear hx hbad
      cases bad with
      | true =>
        go_wp2_with fail
        go_end0
        have e : foldW f l s0 = foldW f (l.take k) s0 := by
          conv => lhs; rw [← List.take_append_drop k l, foldW_app]
          exact foldW_bad HF.out _ _ HBad.out
        exact ⟨rfl, g2, cap2, by rw [e]; exact WR.out, SR.out⟩
      | false =>
        have HQ := hid (HE.out wr g2 cap2 _ x (List.mem_of_getElem? HX.out) WR.out J2.out (HB.out k hk HBad.out) HBad.out)
        have eN : f x (foldW f (l.take k) s0) = foldW f (l.take (k + 1)) s0 := by
          rw [← foldW_snoc f (l.take k) x s0, List.take_add_one, HX.out]
          rfl
        rw [eN] at HQ
        clear eN HE HC HJS HJ HB HF
        go_wp2_with fail
        refine HQ.out.mono ?_
        rintro e w3 ⟨rfl, g3, cap3, hw3, hs3⟩
        have W3 := hid hw3
        have S3 := hid (SR.out.trans hs3)
        clear hw3 hs3 HQ
        go_wp2_with fail
        exact ⟨⟨k + 1, g3, cap3, by omega, by go_num, W3, S3⟩, by simp [intOf]; omega⟩
    · have hlt' : ¬ (k : Int) < (n : Int) := by omega
      obtain rfl : k = n := by omega
      clear HE HC HJS HJ HB
      go_wp2_with fail
      go_end0
      have e : l.take k = l := List.take_of_length_le (by omega)
      have W2 := WR.out
      rw [e] at W2
      exact ⟨rfl, g2, cap2, W2, SR.out⟩
theorem wlU_none (R g cap : Nat) (s : WS) (a : Option Addr) (c : Nat) (most : Nat) (f : Int → WS → WS) (K : Nat) (fi ca : Array Value) (w : World) (h : Wr w R g cap s.1 s.2) (hm : most ≤ 1099511627776) (hb : s.1.length + 20 ≤ 1099511627776) :
    Calls Tryd.prog 69 #[.pointer (some ⟨R, 0, none⟩), .slice a 0 c, .int .i64 most, .func (.func K) fi ca] w (WOut R g (listW f [] most s) w) := by
  have hw4 : (most : Int) % 18446744073709551616 = most := by omega
  have HN := hid (number21 R g cap s 0 most w h (by omega) (by omega) (by omega))
  have eL : listW f [] most s = numW 0 most s := rfl
  rw [eL]
  clear eL h hb
  generalize numW 0 most s = s0 at *
  go_enter Tryd.func69, Tryd.ntmps69
  go_wp2_with fail
  refine HN.out.mono ?_
  rintro e w1 ⟨rfl, g1, cap1, hw1, hs1⟩
  have W1 := hid hw1
  have S1 := hid hs1
  clear hw1 hs1 HN hw4
  go_wp2_with fail
  refine wp_loop_rounds 1 ?_
  rw [rounds_succ]
  go_wp2_with fail
  go_end0
  exact ⟨rfl, g1, cap1, W1.out, S1.out⟩

set_option maxHeartbeats 4000000 in
theorem wlF_in (R g cap : Nat) (s : WS) (b off n c : Nat) (most C : Nat) (l : List FrM) (f : FrM → WS → WS) (K : Nat) (fi ca : Array Value) (J : World → Nat → Prop) (w : World) (h : Wr w R g cap s.1 s.2) (hl : l.length = n) (h0 : 0 < n) (hn : n ≤ 1099511627776) (hm : most ≤ 100000) (hC : C ≤ 100000) (hb : s.1.length + 20 + C * most + C ≤ 1099511627776)
    (hJ : J w g) (hJs : ∀ W W' g1 g2, J W g1 → Stp R g1 g2 W W' → J W' g2)
    (hc : ∀ W g1, J W g1 → ∀ (j : Nat) x, l[j]? = some x → W.cell? ⟨b, off + j * 4, none⟩ = some (.int .i64 x.1) ∧ W.cell? ⟨b, off + j * 4 + 1, none⟩ = some (.int .i64 x.2.1) ∧ W.cell? ⟨b, off + j * 4 + 2, none⟩ = some (.slice x.2.2.1.1.1 x.2.2.1.1.2.1 x.2.2.1.1.2.2) ∧ W.cell? ⟨b, off + j * 4 + 3, none⟩ = some (.slice x.2.2.2.1.1 x.2.2.2.1.2.1 x.2.2.2.1.2.2))
    (hf : Stays f) (hw : Wide f C l) (hK : ∀ args w, (callFunc K args).run Tryd.prog w = .ok (.enter K args) w)
    (hE : ∀ W g1 cap1 s1 x, x ∈ l → Wr W R g1 cap1 s1.1 s1.2 → J W g1 → s1.1.length + C ≤ 1099511627776 → s1.2 = false → Calls Tryd.prog K (fi ++ #[frV x] ++ ca) W (WOut R g1 (f x s1) W)) :
    Calls Tryd.prog 72 #[.pointer (some ⟨R, 0, none⟩), .slice (some ⟨b, off, none⟩) n c, .int .i64 most, .func (.func K) fi ca] w (WOut R g (listW f l most s) w) := by
  have hw1 : IntKind.u64.wrap (n : Int) = n := by rw [IntKind.wrap_u64]; omega
  have hw2 : IntKind.u64.wrap (most : Int) = most := by rw [IntKind.wrap_u64]; omega
  have hw3 : (n : Int) % 18446744073709551616 = n := by omega
  have hw4 : (most : Int) % 18446744073709551616 = most := by omega
  have HN := hid (number21 R g cap s n most w h (by omega) (by omega) (by omega))
  have HL := hid (numW_len (n : Int) most s)
  have HO := hid (fun hh => (numW_ok (v := (n : Int)) (most := most) (s := s) hh).1)
  have eL : listW f l most s = foldW f l (numW n most s) := by unfold listW; rw [hl]
  rw [eL]
  clear eL h
  generalize numW (n : Int) most s = s0 at *
  have HB := hid (fun (k : Nat) (hk : k ≤ n) (hh : (foldW f (l.take k) s0).2 = false) => (show (foldW f (l.take k) s0).1.length + C ≤ 1099511627776 from by
    have h1 := HO.out (foldW_ok hf hh)
    have h2 := foldW_len (l.take k) s0 (fun x hx => hw x (List.mem_of_mem_take hx))
    have h3 : (l.take k).length ≤ most := by rw [List.length_take]; omega
    have h4 : C * (l.take k).length ≤ C * most := Nat.mul_le_mul_left C h3
    have h5 := HL.out
    omega))
  have HJ := hid hJ
  have HJS := hid hJs
  have HC := hid hc
  have HE := hid hE
  have HF := hid hf
  clear hJ hJs hc hE hf hw HO HL hb hw1 hw2
  go_enter Tryd.func72, Tryd.ntmps72
  go_wp2_with fail
  refine HN.out.mono ?_
  rintro e w1 ⟨rfl, g1, cap1, hw1, hs1⟩
  have W1 := hid hw1
  have S1 := hid hs1
  clear hw1 hs1 HN hw3 hw4
  go_wp2_with fail
  go_loopw [19] (fun i wr => ∃ (k g2 cap2 : Nat), k ≤ n ∧ i = .int .i64 k ∧ Hid (Wr wr R g2 cap2 (foldW f (l.take k) s0).1 (foldW f (l.take k) s0).2) ∧ Hid (Stp R g g2 w wr)) (fun i _ => n - (intOf i).toNat)
  case atStart => exact ⟨0, g1, cap1, by omega, rfl, W1, S1⟩
  case round =>
    obtain ⟨k, g2, cap2, hk, rfl, WR, SR⟩ := hrel
    by_cases hlt : k < n
    · obtain ⟨x, hx⟩ : ∃ x, l[k]? = some x := ⟨_, List.getElem?_eq_getElem (by omega)⟩
      have J2 := hid (HJS.out _ _ _ _ HJ.out SR.out)
      have hcell := HC.out wr g2 J2.out k x hx
      have hlt' : (k : Int) < (n : Int) := by omega
      have c1 := WR.out.c1
      have d1 : (wr.alloc (frO x.1 x.2.1 x.2.2.1.1.1 x.2.2.1.1.2.1 x.2.2.1.1.2.2 x.2.2.2.1.1 x.2.2.2.1.2.1 x.2.2.2.1.2.2)).cell? ⟨R, 1, none⟩ = some (.bool (foldW f (l.take k) s0).2) := later_cell (below_new _ _) c1
      have HX := hid hx
      obtain ⟨bad, hbad⟩ : ∃ b, (foldW f (l.take k) s0).2 = b := ⟨_, rfl⟩
      rw [hbad] at c1 d1
      have HBad := hid hbad
      clear hx hbad
      cases bad with
      | true =>
        obtain ⟨q0, q1, q2, q3⟩ := hcell
        go_wp2_with fail
        go_end0
        have e : foldW f l s0 = foldW f (l.take k) s0 := by
          conv => lhs; rw [← List.take_append_drop k l, foldW_app]
          exact foldW_bad HF.out _ _ HBad.out
        exact ⟨rfl, g2, cap2, by rw [e]; exact (WR.out.later (below_new _ _)), (SR.out.trans (Stp.of_below (below_new _ _)))⟩
      | false =>
        have HQ := hid (HE.out (wr.alloc (frO x.1 x.2.1 x.2.2.1.1.1 x.2.2.1.1.2.1 x.2.2.1.1.2.2 x.2.2.2.1.1 x.2.2.2.1.2.1 x.2.2.2.1.2.2)) g2 cap2 _ x (List.mem_of_getElem? HX.out) (WR.out.later (below_new _ _)) (HJS.out _ _ _ _ J2.out (Stp.of_below (below_new _ _))) (HB.out k hk HBad.out) HBad.out)
        have eN : f x (foldW f (l.take k) s0) = foldW f (l.take (k + 1)) s0 := by
          rw [← foldW_snoc f (l.take k) x s0, List.take_add_one, HX.out]
          rfl
        rw [eN] at HQ
        clear eN HE HC HJS HJ HB HF
        obtain ⟨q0, q1, q2, q3⟩ := hcell
        go_wp2_with fail
        refine HQ.out.mono ?_
        rintro e w3 ⟨rfl, g3, cap3, hw3, hs3⟩
        have W3 := hid hw3
        have S3 := hid (SR.out.trans ((Stp.of_below (below_new _ _)).trans hs3))
        clear hw3 hs3 HQ
        go_wp2_with fail
        exact ⟨⟨k + 1, g3, cap3, by omega, by go_num, W3, S3⟩, by simp [intOf]; omega⟩
    · have hlt' : ¬ (k : Int) < (n : Int) := by omega
      obtain rfl : k = n := by omega
      clear HE HC HJS HJ HB
      go_wp2_with fail
      go_end0
      have e : l.take k = l := List.take_of_length_le (by omega)
      have W2 := WR.out
      rw [e] at W2
      exact ⟨rfl, g2, cap2, W2, SR.out⟩
theorem wlF_none (R g cap : Nat) (s : WS) (a : Option Addr) (c : Nat) (most : Nat) (f : FrM → WS → WS) (K : Nat) (fi ca : Array Value) (w : World) (h : Wr w R g cap s.1 s.2) (hm : most ≤ 1099511627776) (hb : s.1.length + 20 ≤ 1099511627776) :
    Calls Tryd.prog 72 #[.pointer (some ⟨R, 0, none⟩), .slice a 0 c, .int .i64 most, .func (.func K) fi ca] w (WOut R g (listW f [] most s) w) := by
  have hw4 : (most : Int) % 18446744073709551616 = most := by omega
  have HN := hid (number21 R g cap s 0 most w h (by omega) (by omega) (by omega))
  have eL : listW f [] most s = numW 0 most s := rfl
  rw [eL]
  clear eL h hb
  generalize numW 0 most s = s0 at *
  go_enter Tryd.func72, Tryd.ntmps72
  go_wp2_with fail
  refine HN.out.mono ?_
  rintro e w1 ⟨rfl, g1, cap1, hw1, hs1⟩
  have W1 := hid hw1
  have S1 := hid hs1
  clear hw1 hs1 HN hw4
  go_wp2_with fail
  refine wp_loop_rounds 1 ?_
  rw [rounds_succ]
  go_wp2_with fail
  go_end0
  exact ⟨rfl, g1, cap1, W1.out, S1.out⟩

set_option maxHeartbeats 4000000 in
theorem wlI_in (R g cap : Nat) (s : WS) (b off n c : Nat) (most C : Nat) (l : List Int) (f : Int → WS → WS) (K : Nat) (fi ca : Array Value) (J : World → Nat → Prop) (w : World) (h : Wr w R g cap s.1 s.2) (hl : l.length = n) (h0 : 0 < n) (hn : n ≤ 1099511627776) (hm : most ≤ 100000) (hC : C ≤ 100000) (hb : s.1.length + 20 + C * most + C ≤ 1099511627776)
    (hJ : J w g) (hJs : ∀ W W' g1 g2, J W g1 → Stp R g1 g2 W W' → J W' g2)
    (hc : ∀ W g1, J W g1 → ∀ (j : Nat) x, l[j]? = some x → W.cell? ⟨b, off + j, none⟩ = some (.int .i64 x))
    (hf : Stays f) (hw : Wide f C l) (hK : ∀ args w, (callFunc K args).run Tryd.prog w = .ok (.enter K args) w)
    (hE : ∀ W g1 cap1 s1 x, x ∈ l → Wr W R g1 cap1 s1.1 s1.2 → J W g1 → s1.1.length + C ≤ 1099511627776 → s1.2 = false → Calls Tryd.prog K (fi ++ #[.int .i64 x] ++ ca) W (WOut R g1 (f x s1) W)) :
    Calls Tryd.prog 93 #[.pointer (some ⟨R, 0, none⟩), .slice (some ⟨b, off, none⟩) n c, .int .i64 most, .func (.func K) fi ca] w (WOut R g (listW f l most s) w) := by
  have hw1 : IntKind.u64.wrap (n : Int) = n := by rw [IntKind.wrap_u64]; omega
  have hw2 : IntKind.u64.wrap (most : Int) = most := by rw [IntKind.wrap_u64]; omega
  have hw3 : (n : Int) % 18446744073709551616 = n := by omega
  have hw4 : (most : Int) % 18446744073709551616 = most := by omega
  have HN := hid (number21 R g cap s n most w h (by omega) (by omega) (by omega))
  have HL := hid (numW_len (n : Int) most s)
  have HO := hid (fun hh => (numW_ok (v := (n : Int)) (most := most) (s := s) hh).1)
  have eL : listW f l most s = foldW f l (numW n most s) := by unfold listW; rw [hl]
  rw [eL]
  clear eL h
  generalize numW (n : Int) most s = s0 at *
  have HB := hid (fun (k : Nat) (hk : k ≤ n) (hh : (foldW f (l.take k) s0).2 = false) => (show (foldW f (l.take k) s0).1.length + C ≤ 1099511627776 from by
    have h1 := HO.out (foldW_ok hf hh)
    have h2 := foldW_len (l.take k) s0 (fun x hx => hw x (List.mem_of_mem_take hx))
    have h3 : (l.take k).length ≤ most := by rw [List.length_take]; omega
    have h4 : C * (l.take k).length ≤ C * most := Nat.mul_le_mul_left C h3
    have h5 := HL.out
    omega))
  have HJ := hid hJ
  have HJS := hid hJs
  have HC := hid hc
  have HE := hid hE
  have HF := hid hf
  clear hJ hJs hc hE hf hw HO HL hb hw1 hw2
  go_enter Tryd.func93, Tryd.ntmps93
  go_wp2_with fail
  refine HN.out.mono ?_
  rintro e w1 ⟨rfl, g1, cap1, hw1, hs1⟩
  have W1 := hid hw1
  have S1 := hid hs1
  clear hw1 hs1 HN hw3 hw4
  go_wp2_with fail
  go_loopw [19] (fun i wr => ∃ (k g2 cap2 : Nat), k ≤ n ∧ i = .int .i64 k ∧ Hid (Wr wr R g2 cap2 (foldW f (l.take k) s0).1 (foldW f (l.take k) s0).2) ∧ Hid (Stp R g g2 w wr)) (fun i _ => n - (intOf i).toNat)
  case atStart => exact ⟨0, g1, cap1, by omega, rfl, W1, S1⟩
  case round =>
    obtain ⟨k, g2, cap2, hk, rfl, WR, SR⟩ := hrel
    by_cases hlt : k < n
    · obtain ⟨x, hx⟩ : ∃ x, l[k]? = some x := ⟨_, List.getElem?_eq_getElem (by omega)⟩
      have J2 := hid (HJS.out _ _ _ _ HJ.out SR.out)
      have hcell := HC.out wr g2 J2.out k x hx
      have hlt' : (k : Int) < (n : Int) := by omega
      have c1 := WR.out.c1
      have HX := hid hx
      obtain ⟨bad, hbad⟩ : ∃ b, (foldW f (l.take k) s0).2 = b := ⟨_, rfl⟩
      rw [hbad] at c1
      have HBad := hid hbad
      clear hx hbad
      cases bad with
      | true =>
        go_wp2_with fail
        go_end0
        have e : foldW f l s0 = foldW f (l.take k) s0 := by
          conv => lhs; rw [← List.take_append_drop k l, foldW_app]
          exact foldW_bad HF.out _ _ HBad.out
        exact ⟨rfl, g2, cap2, by rw [e]; exact WR.out, SR.out⟩
      | false =>
        have HQ := hid (HE.out wr g2 cap2 _ x (List.mem_of_getElem? HX.out) WR.out J2.out (HB.out k hk HBad.out) HBad.out)
        have eN : f x (foldW f (l.take k) s0) = foldW f (l.take (k + 1)) s0 := by
          rw [← foldW_snoc f (l.take k) x s0, List.take_add_one, HX.out]
          rfl
        rw [eN] at HQ
        clear eN HE HC HJS HJ HB HF
        go_wp2_with fail
        refine HQ.out.mono ?_
        rintro e w3 ⟨rfl, g3, cap3, hw3, hs3⟩
        have W3 := hid hw3
        have S3 := hid (SR.out.trans hs3)
        clear hw3 hs3 HQ
        go_wp2_with fail
        exact ⟨⟨k + 1, g3, cap3, by omega, by go_num, W3, S3⟩, by simp [intOf]; omega⟩
    · have hlt' : ¬ (k : Int) < (n : Int) := by omega
      obtain rfl : k = n := by omega
      clear HE HC HJS HJ HB
      go_wp2_with fail
      go_end0
      have e : l.take k = l := List.take_of_length_le (by omega)
      have W2 := WR.out
      rw [e] at W2
      exact ⟨rfl, g2, cap2, W2, SR.out⟩
theorem wlI_none (R g cap : Nat) (s : WS) (a : Option Addr) (c : Nat) (most : Nat) (f : Int → WS → WS) (K : Nat) (fi ca : Array Value) (w : World) (h : Wr w R g cap s.1 s.2) (hm : most ≤ 1099511627776) (hb : s.1.length + 20 ≤ 1099511627776) :
    Calls Tryd.prog 93 #[.pointer (some ⟨R, 0, none⟩), .slice a 0 c, .int .i64 most, .func (.func K) fi ca] w (WOut R g (listW f [] most s) w) := by
  have hw4 : (most : Int) % 18446744073709551616 = most := by omega
  have HN := hid (number21 R g cap s 0 most w h (by omega) (by omega) (by omega))
  have eL : listW f [] most s = numW 0 most s := rfl
  rw [eL]
  clear eL h hb
  generalize numW 0 most s = s0 at *
  go_enter Tryd.func93, Tryd.ntmps93
  go_wp2_with fail
  refine HN.out.mono ?_
  rintro e w1 ⟨rfl, g1, cap1, hw1, hs1⟩
  have W1 := hid hw1
  have S1 := hid hs1
  clear hw1 hs1 HN hw4
  go_wp2_with fail
  refine wp_loop_rounds 1 ?_
  rw [rounds_succ]
  go_wp2_with fail
  go_end0
  exact ⟨rfl, g1, cap1, W1.out, S1.out⟩
end Go.Proofs.YtbdjghokedfkfaaDoor

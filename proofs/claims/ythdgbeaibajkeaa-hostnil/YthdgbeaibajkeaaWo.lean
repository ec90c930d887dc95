/-
  A call on a host in memory; the anchor.
-/
import Derived.Test.YthdgbeaibajkeaaRc
namespace Go.Proofs.Ythdgbeaibajkeaa
open Go.RowKit
set_option linter.unusedVariables false

theorem HS.later {w w' : World} {H m : Nat} {Q : Nat → Prop} {t : Int} {xs : List Rp} (h : HS w H Q t m xs) (hb : Below w.heap.size w w') : HS w' H Q t m xs := by
  obtain ⟨h0, h1, h2, a, c, h3, h4⟩ := h
  have e := hb.block H (block_lt_of_cell h0)
  exact ⟨(cell_of_block e 0).trans h0, (frozen_of_block e 0).trans h1, (frozen_of_block e 1).trans h2, a, c, (cell_of_block e 1).trans h3, h4.later hb⟩
theorem HS.mono {w : World} {H m : Nat} {Q Q' : Nat → Prop} {t : Int} {xs : List Rp} (h : HS w H Q t m xs) (hq : ∀ k, Q k → k < w.heap.size → Q' k) : HS w H Q' t m xs := by
  obtain ⟨h0, h1, h2, a, c, h3, h4⟩ := h
  exact ⟨h0, h1, h2, a, c, h3, h4.mono hq⟩
theorem HS.kept {S : Nat → Prop} {w w' : World} {H m : Nat} {Q : Nat → Prop} {t : Int} {xs : List Rp} (h : HS w H Q t m xs) (hk : Kept S w w') (hH : ¬ S H) (hs : ∀ k, Q k → ¬ S k) : HS w' H Q t m xs := by
  obtain ⟨h0, h1, h2, a, c, h3, h4⟩ := h
  have e := hk.block H (block_lt_of_cell h0) hH
  exact ⟨(cell_of_block e 0).trans h0, (frozen_of_block e 0).trans h1, (frozen_of_block e 1).trans h2, a, c, (cell_of_block e 1).trans h3, h4.kept hk hs⟩

/-- What a call on a host answers, and how the host stands then. -/
def CallO (H : Nat) (Q : Nat → Prop) (m : Nat) (t : Int) (xs : List Rp) (s : ByteArray) (w : World) (e : Ending) (w' : World) : Prop :=
  (m = 0 ∧ e = .returned (.tuple #[.slice none 0 0, .bool false]) ∧ Below w.heap.size w w') ∨
  (∃ x rest, xs = x :: rest ∧ m = rest.length + 1 ∧ e = .returned (.tuple (toldV x s)) ∧ Kept (fun k => k = H) w w' ∧ HS w' H Q (t + 1) rest.length rest ∧ SegU Q w' x.a x.n x.c x.l)

theorem callH (H : Nat) (Q : Nat → Prop) (m : Nat) (t : Int) (xs : List Rp) (s : ByteArray) (w : World) (h : HS w H Q t m xs) (hQH : ∀ k, Q k → k ≠ H) (ht : 0 ≤ t ∧ t < 9223372036854775807) (hs : s.size ≤ 140737488355328) :
    Calls Try.prog 14 #[.pointer (some ⟨H, 0, none⟩), .string s] w fun e w' => CallO H Q m t xs s w e w' := by
  by_cases h0 : m = 0
  · subst h0
    refine (call14_none (some ⟨H, 0, none⟩) s w (fun W hb => ?_)).mono (fun e w' ⟨he, hb⟩ => .inl ⟨rfl, he, hb⟩)
    obtain ⟨_, _, _, a, c, h3, _⟩ := h.later hb
    exact left12 H a 0 c W h3
  · obtain ⟨q0, q1, q2, a, c, q3, q4⟩ := h
    obtain ⟨hl, hc, hn, hr⟩ := q4
    obtain ⟨b, off, rfl, hQ, hcell⟩ := hr.resolve_left h0
    cases xs with
    | nil => simp at hl; omega
    | cons x rest =>
      obtain ⟨n, rfl⟩ : ∃ n, m = n + 1 := ⟨m - 1, by omega⟩
      have hrl : rest.length = n := by simpa using hl
      have hx := hcell 0 (by omega)
      simp only [Nat.zero_mul, Nat.add_zero] at hx
      have hx' : RpAt Q w b off x := hx
      refine (call14_one Q H b off n c t x s w q0 q3 q1 q2 ht hn hc hx' (hQH b hQ) hQH hs).mono ?_
      rintro e w' ⟨he, hk, g0, ⟨a', c', g1, g2, g3⟩, g4, g5⟩
      refine .inr ⟨x, rest, rfl, by omega, he, hk, ⟨g0, g4, g5, a', c', by rw [hrl]; exact g1, hrl ▸ ⟨by omega, by omega, by omega, ?_⟩⟩, hx'.2.2.kept hk hQH⟩
      rcases g3 with g3 | g3
      · exact .inl (by omega)
      · refine .inr ⟨b, off + 2, g3, hQ, fun j hj => ?_⟩
        have := (hcell (j + 1) (by omega)).kept hk (hQH b hQ) hQH
        rw [show off + (j + 1) * 2 = off + 2 + j * 2 by omega] at this
        exact this

/-- The text "w". -/
def sw : ByteArray := ⟨#[119]⟩
theorem sw_fits : allB [5] sw = true := by decide

set_option maxHeartbeats 4000000 in
theorem works7 (w : World) : Calls Try.prog 7 #[] w fun e w' => e = .returned (.bool true) ∧ Below w.heap.size w w' := by
  obtain ⟨o1, ho1⟩ : ∃ o1, o1 = Obj.cells #[Value.int .u64 5] 34 := ⟨_, rfl⟩
  obtain ⟨o2, ho2⟩ : ∃ o2, o2 = Obj.cells #[Value.slice (some ⟨w.heap.size, 0, none⟩) 1 1, .bool false] 33 := ⟨_, rfl⟩
  have b1 := below_new w o1
  have b2 := below_new (w.alloc o1) o2
  have B2 : Below w.heap.size w ((w.alloc o1).alloc o2) := b1.trans (b2.mono (by simp))
  have k1 := blk_later b2 (heap_alloc_new w o1)
  have k2 : ((w.alloc o1).alloc o2).heap[w.heap.size + 1]? = some o2 := alloc_at (by simp)
  rw [ho1] at k1
  have hr : RpS (fun _ => True) ((w.alloc o1).alloc o2) (some ⟨w.heap.size + 1, 0, none⟩) 1 1 [⟨some ⟨w.heap.size, 0, none⟩, 1, 1, [5], false⟩] := by
    refine ⟨rfl, Nat.le_refl _, by omega, .inr ⟨_, _, rfl, trivial, fun j hj => ?_⟩⟩
    obtain rfl : j = 0 := by omega
    rw [ho2] at k2
    show RpAt _ _ _ _ ⟨some ⟨w.heap.size, 0, none⟩, 1, 1, [5], false⟩
    refine ⟨?_, ?_, rfl, Nat.le_refl _, by show (1 : Nat) ≤ _; omega, (fun z hz => by simp at hz; omega), .inr ⟨_, _, rfl, trivial, fun j hj => ?_⟩⟩
    · rw [ho1, ho2]; exact cell_at (by rw [ho1] at k2; exact k2)
    · rw [ho1, ho2]; exact cell_at (by rw [ho1] at k2; exact k2)
    · obtain rfl : j = 0 := by (have : j < 1 := hj); omega
      rw [ho1]; exact cell_at k1
  have HN := hid (new9 _ _ 1 1 0 0 _ _ hr (by decide) (by omega) (by omega))
  have HB2 := hid B2
  have HO1 := hid ho1
  have HO2 := hid ho2
  clear b1 b2 B2 k1 k2 hr ho1 ho2
  go_enter Try.func7, Try.ntmps7
  go_wp2_with fail
  rw [← HO1.out, ← HO2.out]
  refine HN.out.mono ?_
  rintro e w3 ⟨rfl, hb3, ys, hsame, hhs⟩
  generalize (w.alloc o1).alloc o2 = W2 at *
  obtain ⟨y, rfl⟩ : ∃ y, ys = [y] := by
    have := hsame.1
    match ys, this with
    | [y], _ => exact ⟨y, rfl⟩
  have hs0 := hsame.2 0 (by simp)
  have e1 : y.l = [5] := hs0.1
  have e2 : y.tr = false := hs0.2
  have HC := hid (callH W2.heap.size _ 1 0 [y] sw w3 hhs (fun k hk => hk.2) (by omega) (by decide))
  have HB3 := hid (HB2.out.trans (hb3.mono HB2.out.size))
  have HSZ := hid HB2.out.size
  clear hsame hhs hs0 hb3 HN HB2
  go_wp2_with fail
  refine HC.out.mono ?_
  rintro e w4 h4
  rcases h4 with ⟨h, _⟩ | ⟨x, rest, hx, hm, rfl, hk4, hh4, hsg⟩
  · omega
  obtain ⟨rfl, rfl⟩ : x = y ∧ rest = [] := by
    simp at hx; exact ⟨hx.1.symm, hx.2⟩
  have htv : toldV x sw = #[.slice x.a x.n x.c, .bool true] := by unfold toldV; rw [if_pos ⟨e2, by rw [e1]; exact sw_fits⟩]
  have hn1 : x.n = 1 := by rw [← hsg.1, e1]; rfl
  obtain ⟨b5, off5, ha5, _, hc5⟩ := hsg.2.2.2.2.resolve_left (by omega)
  have c5 : w4.cell? ⟨b5, off5, none⟩ = some (.int .u64 5) := by have := hc5 0 (by omega); rw [e1] at this; exact this
  rw [htv, ha5, hn1]
  have HT := hid (taken11 W2.heap.size (0 + 1) w4 hh4.1)
  obtain ⟨_, _, _, la, lc, hl3, _⟩ := hh4
  have HL := hid (left12 W2.heap.size la 0 lc w4 hl3)
  have HB4 := hid (show Below w.heap.size w w4 from below_kept HB3.out hk4 HB3.out.size (fun k e => by have := HSZ.out; omega))
  clear hsg hc5 hk4 hl3 htv hx hm e1 e2 HC
  go_wp2_with fail
  refine HT.out.mono ?_
  rintro e w5 ⟨rfl, hw⟩
  have hw' := hw.symm; subst hw'; clear hw
  go_wp2_with fail
  refine HL.out.mono ?_
  rintro e w6 ⟨rfl, hw⟩
  have hw' := hw.symm; subst hw'; clear hw
  go_wp2_with fail
  go_ret
  exact ⟨rfl, HB4.out⟩
end Go.Proofs.Ythdgbeaibajkeaa

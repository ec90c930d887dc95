/-
  snap's reader in memory: take, number, count, value, octet, finish.
-/
import Derived.Test.YtbdjghokedfkfaaDoorWa
namespace Go.Proofs.YtbdjghokedfkfaaDoor
open Go.RowKit
set_option linter.unusedVariables false
set_option maxRecDepth 100000

/-- Where a reader stands, and its first error. -/
abbrev RS := Int × Int
structure Rd (w : World) (R : Nat) (a : Option Addr) (n c : Nat) (zs : List Int) (st : RS) : Prop where
  c0 : w.cell? ⟨R, 0, none⟩ = some (.slice a n c)
  c1 : w.cell? ⟨R, 1, none⟩ = some (.int .i64 st.1)
  c2 : w.cell? ⟨R, 2, none⟩ = some (.int .i64 st.2)
  f1 : w.frozen? ⟨R, 1, none⟩ = false
  f2 : w.frozen? ⟨R, 2, none⟩ = false
  seg : Seg w a n c zs
  ap : ∀ b off, a = some ⟨b, off, none⟩ → 0 < n → b ≠ R
  rg : 0 ≤ st.1 ∧ st.1 ≤ zs.length
theorem Rd.lt {w : World} {R : Nat} {a : Option Addr} {n c : Nat} {zs : List Int} {st : RS} (h : Rd w R a n c zs st) : R < w.heap.size := block_lt_of_cell h.c0
theorem Rd.later {w w' : World} {R : Nat} {a : Option Addr} {n c : Nat} {zs : List Int} {st : RS} (h : Rd w R a n c zs st) (hb : Below w.heap.size w w') : Rd w' R a n c zs st :=
  ⟨later_cell hb h.c0, later_cell hb h.c1, later_cell hb h.c2, (frozen_of_block (hb.block R h.lt) 1).trans h.f1, (frozen_of_block (hb.block R h.lt) 2).trans h.f2, h.seg.later hb (Nat.le_refl _), h.ap, h.rg⟩
/-- Nothing that it reads is written. -/
theorem Rd.keptN {S : Nat → Prop} {w w' : World} {R : Nat} {a : Option Addr} {n c : Nat} {zs : List Int} {st : RS} (h : Rd w R a n c zs st) (hk : Kept S w w') (hR : ¬ S R) (hs : ∀ b, b < w.heap.size → ¬ S b) : Rd w' R a n c zs st := by
  have hb : Below w.heap.size w w' := hk.to_below (Nat.le_refl _) hs
  exact h.later hb
def tkR (v next e : Int) (st : RS) : Int × RS := if st.2 = 0 then (if e = 0 then (v, (next, 0)) else (0, (st.1, e))) else (0, st)
/-- A number is answered; the reader is in state p.2. -/
abbrev ROut (R : Nat) (a : Option Addr) (n c : Nat) (zs : List Int) (v : Value) (st : RS) (w : World) : Ending → World → Prop := fun e w' => e = .returned v ∧ Rd w' R a n c zs st ∧ Kept (fun k => k = R) w w'

theorem Rd.set {w : World} {R : Nat} {a : Option Addr} {n c : Nat} {zs : List Int} {st : RS} (h : Rd w R a n c zs st) (v : Int) (i : Nat) (st' : RS) (hi : i = 1 ∧ st' = (v, st.2) ∧ 0 ≤ v ∧ v ≤ zs.length ∨ i = 2 ∧ st' = (st.1, v)) :
    Rd (w.setCell ⟨R, i, none⟩ (.int .i64 v)) R a n c zs st' ∧ Kept (fun k => k = R) w (w.setCell ⟨R, i, none⟩ (.int .i64 v)) := by
  have hk : Kept (fun k => k = R) w (w.setCell ⟨R, i, none⟩ (.int .i64 v)) := ⟨rfl, rfl, rfl, by simp [World.setCell], fun k hk hs => Below.heap_setCell _ _ _ _ (by simpa using hs)⟩
  have hseg : Seg (w.setCell ⟨R, i, none⟩ (.int .i64 v)) a n c zs := ⟨h.seg.1, h.seg.2.1, h.seg.2.2.1, h.seg.2.2.2.1, by
    by_cases h0 : n = 0
    · exact .inl h0
    · exact h.seg.2.2.2.2.imp id fun ⟨b, off, e, hx⟩ => ⟨b, off, e, fun j hj => hk.cell (hx j hj) (h.ap b off e (by omega))⟩⟩
  refine ⟨⟨?_, ?_, ?_, ?_, ?_, hseg, h.ap, ?_⟩, hk⟩
  · rw [World.cell?_setCell_other _ _ _ _ (by simp only [ne_eq, Addr.mk.injEq, not_and]; omega)]; exact h.c0
  · rcases hi with ⟨rfl, rfl, _⟩ | ⟨rfl, rfl⟩
    · exact World.cell?_setCell_same w ⟨R, 1, none⟩ _ h.c1
    · rw [World.cell?_setCell_other _ _ _ _ (by simp)]; exact h.c1
  · rcases hi with ⟨rfl, rfl, _⟩ | ⟨rfl, rfl⟩
    · rw [World.cell?_setCell_other _ _ _ _ (by simp)]; exact h.c2
    · exact World.cell?_setCell_same w ⟨R, 2, none⟩ _ h.c2
  · rw [World.frozen?_setCell]; exact h.f1
  · rw [World.frozen?_setCell]; exact h.f2
  · rcases hi with ⟨rfl, rfl, h1, h2⟩ | ⟨rfl, rfl⟩
    · exact ⟨h1, h2⟩
    · exact h.rg

theorem take35 (R : Nat) (a : Option Addr) (n c : Nat) (zs : List Int) (st : RS) (v next e : Int) (w : World) (h : Rd w R a n c zs st) (hn : e = 0 → 0 ≤ next ∧ next ≤ zs.length) :
    Calls Tryd.prog 85 #[.pointer (some ⟨R, 0, none⟩), .int .u64 v, .int .i64 next, .int .i64 e] w (ROut R a n c zs (.int .u64 (tkR v next e st).1) (tkR v next e st).2 w) := by
  obtain ⟨at_, er⟩ := st
  have c1 := h.c1
  have c2 := h.c2
  have f1 := h.f1
  have f2 := h.f2
  have HW := hid h
  clear h
  dsimp only at c1 c2
  by_cases h0 : er = 0
  · subst h0
    have E := hid (HW.out.set e 2 (at_, e) (.inr ⟨rfl, rfl⟩))
    have x2 : (w.setCell ⟨R, 2, none⟩ (.int .i64 e)).cell? ⟨R, 2, none⟩ = some (.int .i64 e) := E.out.1.c2
    have x1 : (w.setCell ⟨R, 2, none⟩ (.int .i64 e)).cell? ⟨R, 1, none⟩ = some (.int .i64 at_) := E.out.1.c1
    have y1 : (w.setCell ⟨R, 2, none⟩ (.int .i64 e)).frozen? ⟨R, 1, none⟩ = false := E.out.1.f1
    by_cases he : e = 0
    · subst he
      have hn := hn rfl
      have E2 := hid (E.out.1.set next 1 (next, 0) (.inl ⟨rfl, rfl, hn.1, hn.2⟩))
      have et : tkR v next 0 (at_, 0) = (v, (next, 0)) := rfl
      rw [et]
      clear et hn HW
      go_enter Tryd.func85, Tryd.ntmps85
      go_wp2_with fail
      go_ret
      exact ⟨rfl, E2.out.1, E.out.2.trans E2.out.2⟩
    · have hb : (e == 0) = false := by simp [he]
      have hb2 : (e != 0) = true := by simp [he]
      have et : tkR v next e (at_, 0) = (0, (at_, e)) := by simp [tkR, he]
      rw [et]
      clear et hn HW
      go_enter Tryd.func85, Tryd.ntmps85
      go_wp2_with fail
      go_ret
      exact ⟨rfl, E.out.1, E.out.2⟩
  · have hb : (er == 0) = false := by simp [h0]
    have hb2 : (er != 0) = true := by simp [h0]
    have et : tkR v next e (at_, er) = (0, (at_, er)) := by simp [tkR, h0]
    rw [et]
    clear et hn
    go_enter Tryd.func85, Tryd.ntmps85
    go_wp2_with fail
    go_ret
    exact ⟨rfl, HW.out, Kept.refl _ _⟩

/-- A number of at most so much. -/
def nmE (zs : List Int) (most above at_ : Int) : Int := if (ruAt zs at_).2.2 = 0 ∧ most < (ruAt zs at_).1 then above else (ruAt zs at_).2.2
def nmR (zs : List Int) (most above : Int) (st : RS) : Int × RS := tkR (ruAt zs st.1).1 (ruAt zs st.1).2.1 (nmE zs most above st.1) st
set_option maxHeartbeats 2000000 in
theorem number29 (R : Nat) (a : Option Addr) (n c : Nat) (zs : List Int) (st : RS) (most above : Int) (w : World) (h : Rd w R a n c zs st) (ha : above ≠ 0 ∨ most = 18446744073709551615) :
    Calls Tryd.prog 79 #[.pointer (some ⟨R, 0, none⟩), .int .u64 most, .int .i64 above] w (ROut R a n c zs (.int .u64 (nmR zs most above st).1) (nmR zs most above st).2 w) := by
  have hr := ruAt_range zs st.1 h.seg.2.2.2.1
  have HU := hid (fun (W : World) (hW : Below w.heap.size w W) => ru7 a n c zs st.1 W (h.seg.later hW (Nat.le_refl _)))
  have HT := hid (fun (e : Int) (W : World) (hW : Below w.heap.size w W) (he : e = nmE zs most above st.1) => take35 R a n c zs st (ruAt zs st.1).1 (ruAt zs st.1).2.1 e W (h.later hW) (fun h0 => by
    have := h.rg
    by_cases hz : (ruAt zs st.1).2.2 = 0
    · exact ⟨hr.2.2.1, hr.2.2.2.1⟩
    · rw [he] at h0
      unfold nmE at h0
      rw [if_neg (by omega)] at h0
      omega))
  have c0 := h.c0
  have c1 := h.c1
  have e1 : nmR zs most above st = tkR (ruAt zs st.1).1 (ruAt zs st.1).2.1 (nmE zs most above st.1) st := rfl
  rw [e1]
  have e2 : nmE zs most above st.1 = if (ruAt zs st.1).2.2 = 0 ∧ most < (ruAt zs st.1).1 then above else (ruAt zs st.1).2.2 := rfl
  have BW := hid (fun m => below_drewN w m)
  clear h ha hr e1
  obtain ⟨at_, er⟩ := st
  dsimp only at *
  generalize nmE zs most above at_ = E at *
  generalize ruAt zs at_ = q at *
  obtain ⟨v, nx, x⟩ := q
  dsimp only at *
  simp only [res3] at HU
  have fin : ∀ (W : World), Below w.heap.size w W → Calls Tryd.prog 85 #[.pointer (some ⟨R, 0, none⟩), .int .u64 v, .int .i64 nx, .int .i64 E] W (ROut R a n c zs (.int .u64 (tkR v nx E (at_, er)).1) (tkR v nx E (at_, er)).2 w) := fun W hW => (HT.out E W hW rfl).mono (fun e w' ⟨h1, h2, h3⟩ => ⟨h1, h2, (Kept.mono (⟨hW.os, hW.tape, hW.output, hW.size, fun k hk _ => hW.block k hk⟩ : Kept (fun k => k = R) w W) (fun _ h => h)).trans h3⟩)
  have FIN := hid fin
  generalize tkR v nx E (at_, er) = p at *
  clear fin HT
  by_cases hx : x = 0
  · subst hx
    by_cases hm : most < v
    · have hE : E = above := by rw [e2, if_pos ⟨rfl, hm⟩]
      subst hE
      clear e2
      go_enter Tryd.func79, Tryd.ntmps79
      go_wp2_with fail
      go_quiet ((go_at_call 95; exact Calls.quiet_of_same (HU.out _ (BW.out _))))
      go_wp2_with fail
      refine (FIN.out _ (BW.out _)).mono ?_
      rintro e w3 ⟨rfl, h3, k3⟩
      have R3 := hid h3
      have K3 := hid k3
      clear h3 k3 FIN
      go_wp2_with fail
      go_ret
      exact ⟨rfl, R3.out, K3.out⟩
    · have hE : E = 0 := by rw [e2, if_neg (by omega)]
      subst hE
      clear e2
      go_enter Tryd.func79, Tryd.ntmps79
      go_wp2_with fail
      go_quiet ((go_at_call 95; exact Calls.quiet_of_same (HU.out _ (BW.out _))))
      go_wp2_with fail
      refine (FIN.out _ (BW.out _)).mono ?_
      rintro e w3 ⟨rfl, h3, k3⟩
      have R3 := hid h3
      have K3 := hid k3
      clear h3 k3 FIN
      go_wp2_with fail
      go_ret
      exact ⟨rfl, R3.out, K3.out⟩
  · have hE : E = x := by rw [e2, if_neg (by omega)]
    subst hE
    have hb : (E == 0) = false := by simp [hx]
    clear e2
    go_enter Tryd.func79, Tryd.ntmps79
    go_wp2_with fail
    go_quiet ((go_at_call 95; exact Calls.quiet_of_same (HU.out _ (BW.out _))))
    go_wp2_with fail
    refine (FIN.out _ (BW.out _)).mono ?_
    rintro e w3 ⟨rfl, h3, k3⟩
    have R3 := hid h3
    have K3 := hid k3
    clear h3 k3 FIN
    go_wp2_with fail
    go_ret
    exact ⟨rfl, R3.out, K3.out⟩
end Go.Proofs.YtbdjghokedfkfaaDoor

/-
  A bag, begun; lists for it; AddBlocks.
-/
import Derived.Test.YtfcklkmfdjjfoaaDoorBag2
import Derived.Test.YtfcklkmfdjjfoaaDoorRg
namespace Go.Proofs.YtfcklkmfdjjfoaaDoor
open Go.RowKit
set_option linter.unusedVariables false

theorem newBg {e es : TypeId} {c d : Nat} {w0 w : World} {rs : List Lt} (hb : Below w0.heap.size w0 w) (hc : c ≤ 16) (hr : ∀ p ∈ rs, ∀ B, p.b = some B → Row w e B p.xs.length p.cap p.xs ∧ w0.heap.size ≤ B)
    (hinj : ∀ i j (hi : i < rs.length) (hj : j < rs.length) B, (rs[i]).b = some B → (rs[j]).b = some B → i = j) (B : Nat) (hB : w.heap.size = B) (t : TypeId) :
    Bg e es c d w0 (w.alloc (.cells (Array.replicate 17 (.slice none 0 0)) t)) B (.slice none 0 0) rs 0 := by
  subst hB
  have ha : Below w.heap.size w (w.alloc (.cells (Array.replicate 17 (.slice none 0 0)) t)) := (Below.refl _ _).alloc (Nat.le_refl _) _
  have hcell : ∀ j, j ≤ 16 → (w.alloc (.cells (Array.replicate 17 (.slice none 0 0)) t)).cell? ⟨w.heap.size, j, none⟩ = some (.slice none 0 0) := by
    intro j hj
    rw [World.cell?_alloc_new, Array.getElem?_eq_getElem (by simp; omega)]
    simp
  refine ⟨hb.trans (ha.mono hb.size), hb.size, hcell c hc, ?_, fun j h1 _ _ => hcell j h1, World.ownsRow_nil _ _ _ _, by simp [Value.ownBlock], fun b hb => by simp [Value.ownBlock] at hb, fun p hp B hB => ?_, hinj⟩
  · simp
  · have h := hr p hp B hB
    have := h.1.lt
    exact ⟨h.1.below ha (Nat.le_refl _), by omega, h.2⟩
theorem e17 : Array.replicate 17 (Value.slice none 0 0) = #[.slice none 0 0, .slice none 0 0, .slice none 0 0, .slice none 0 0, .slice none 0 0, .slice none 0 0, .slice none 0 0, .slice none 0 0, .slice none 0 0, .slice none 0 0, .slice none 0 0, .slice none 0 0, .slice none 0 0, .slice none 0 0, .slice none 0 0, .slice none 0 0, .slice none 0 0] := rfl

theorem sl_own (p : Lt) : p.sl.ownBlock = p.b := by
  unfold Lt.sl
  cases p.b <;> rfl
/-- A row of the call's own as one of a bag's lists. -/
theorem lt_of_own {w : World} {base : Nat} {e : TypeId} {v : Value} {n : Nat} {xs : List Value} (h : w.ownsRow base e 1 v n xs) : ∃ p : Lt, v = p.sl ∧ p.xs = xs ∧ (p.b = none → p.xs = []) ∧ (∀ B, p.b = some B → Row w e B p.xs.length p.cap p.xs ∧ base ≤ B) := by
  have hl := h.1
  have h2 := h
  rcases h.2 with ⟨rfl, rfl⟩ | ⟨g, cap, cur, rfl, hg, _⟩
  · have hx : xs = [] := List.eq_nil_of_length_eq_zero (by simpa using hl)
    subst hx
    exact ⟨⟨none, [], 0⟩, rfl, rfl, fun _ => rfl, fun B hB => by cases hB⟩
  · have hn : xs.length = n := by simpa using hl
    subst hn
    exact ⟨⟨some g, xs, cap⟩, rfl, rfl, (fun hh => by cases hh), fun B hB => by cases hB; exact ⟨Row.of h2, hg⟩⟩

/-- A list of numbers, one of truths, among a bag's. -/
structure IsI (p : Lt) (l : List Int) : Prop where
  xs : p.xs = l.map (Value.int .i64)
  no : p.b = none → p.xs = []
structure IsB (p : Lt) (l : List Bool) : Prop where
  xs : p.xs = l.map Value.bool
  no : p.b = none → p.xs = []

theorem row_cap {w : World} {e : TypeId} {B n cap : Nat} {xs : List Value} (h : Row w e B n cap xs) : n ≤ cap := by
  obtain ⟨_, _, h, _⟩ := h.block
  exact h
theorem IsI.seg {p : Lt} {l : List Int} (h : IsI p l) {w : World} (hr : ∀ B, p.b = some B → Row w 3 B p.xs.length p.cap p.xs) (hl : l.length ≤ 1048576) {a : Option Addr} {n c : Nat} (hs : Value.slice a n c = p.sl) : SegL w a n c l := by
  unfold Lt.sl at hs
  cases hb : p.b with
  | none =>
    rw [hb] at hs
    injection hs with h1 h2 h3
    have hx := h.no hb
    rw [h.xs] at hx
    have hl0 : l = [] := by simpa using hx
    subst hl0 h2
    exact ⟨rfl, by omega, by omega, .inl rfl⟩
  | some B =>
    rw [hb] at hs
    injection hs with h1 h2 h3
    have hlen : p.xs.length = l.length := by rw [h.xs]; simp
    have hrow := hr B hb
    have hcp := row_cap hrow
    subst h1 h3
    rw [h2, hlen]
    refine ⟨rfl, by omega, by omega, .inr ⟨B, 0, rfl, fun j hj => ?_⟩⟩
    rw [Nat.zero_add, hrow.cell j (by omega), h.xs]
    simp [List.getD_eq_getElem?_getD, hj]
theorem IsB.seg {p : Lt} {l : List Bool} (h : IsB p l) {w : World} (hr : ∀ B, p.b = some B → Row w 4 B p.xs.length p.cap p.xs) (hl : l.length ≤ 1048576) {a : Option Addr} {n c : Nat} (hs : Value.slice a n c = p.sl) : SegB w a n l := by
  unfold Lt.sl at hs
  cases hb : p.b with
  | none =>
    rw [hb] at hs
    injection hs with h1 h2 h3
    have hx := h.no hb
    rw [h.xs] at hx
    have hl0 : l = [] := by simpa using hx
    subst hl0 h2
    exact ⟨rfl, by omega, .inl rfl⟩
  | some B =>
    rw [hb] at hs
    injection hs with h1 h2 h3
    have hlen : p.xs.length = l.length := by rw [h.xs]; simp
    have hrow := hr B hb
    subst h1
    rw [h2, hlen]
    refine ⟨rfl, hl, .inr ⟨B, rfl, fun j hj => ?_⟩⟩
    rw [hrow.cell j (by omega), h.xs]
    simp [List.getD_eq_getElem?_getD, hj]

theorem OfO.li {O : Nat → Int} {n base m : Nat} {E1 E2 : List Int} {w : World} {a1 a2 : Option Addr} (h : OfO O n E1 E2 base w a1 a2 m) : LI w base (.slice a1 m m) (stL O n E1 E2) ∧ LI w base (.slice a2 m m) (lfL O n E1 E2) ∧ Ap (.slice a1 m m) (.slice a2 m m) := by
  rcases h with ⟨h0, rfl, rfl, rfl⟩ | ⟨hg, e1, e2, rfl, A, B, x1, x2, x3, rfl, rfl, y1, y2⟩
  · have := stL_no (O := O) (n := n) (E1 := E1) (E2 := E2) h0
    rw [this.1, this.2]
    exact ⟨LI.nil _ _, LI.nil _ _, Ap.nil _⟩
  · have := stL_yes (O := O) (n := m) (E1 := E1) (E2 := E2) ⟨by rw [res_good_back hg], e1, e2⟩
    rw [this.1, this.2]
    exact ⟨LI.of_ri y1 x1, LI.of_ri y2 x2, fun b h1 h2 => x3 ((Option.some.inj h1).trans (Option.some.inj h2).symm)⟩
theorem LdO.lb {O : Nat → Int} {n base m : Nat} {w : World} {a1 : Option Addr} (h : LdO O n base w a1 m) : LB w base (.slice a1 m m) (ldL O n) := by
  unfold ldL
  rcases h with ⟨h0, rfl, rfl⟩ | ⟨hg, rfl, B, x1, rfl, y1⟩
  · rw [if_neg h0]; exact LB.nil _ _
  · rw [if_pos (by rw [res_good_back hg])]; exact LB.of_rb y1 x1
theorem stL_len (O : Nat → Int) (n : Nat) (E1 E2 : List Int) : (stL O n E1 E2).length ≤ n ∧ (lfL O n E1 E2).length ≤ n := by
  unfold stL lfL; split <;> simp

theorem lt_int {w : World} {base : Nat} {v : Value} {l : List Int} (h : LI w base v l) : ∃ p : Lt, v = p.sl ∧ IsI p l ∧ p.xs.length = l.length ∧ (∀ B, p.b = some B → Row w 3 B p.xs.length p.cap p.xs ∧ base ≤ B ∧ v.ownBlock = some B) := by
  obtain ⟨p, h1, h2, h4, h3⟩ := lt_of_own h
  exact ⟨p, h1, ⟨h2, h4⟩, by rw [h2]; simp, fun B hB => ⟨(h3 B hB).1, (h3 B hB).2, by rw [h1, sl_own]; exact hB⟩⟩
theorem lt_bool {w : World} {base : Nat} {v : Value} {l : List Bool} (h : LB w base v l) : ∃ p : Lt, v = p.sl ∧ IsB p l ∧ p.xs.length = l.length ∧ (∀ B, p.b = some B → Row w 4 B p.xs.length p.cap p.xs ∧ base ≤ B ∧ v.ownBlock = some B) := by
  obtain ⟨p, h1, h2, h4, h3⟩ := lt_of_own h
  exact ⟨p, h1, ⟨h2, h4⟩, by rw [h2]; simp, fun B hB => ⟨(h3 B hB).1, (h3 B hB).2, by rw [h1, sl_own]; exact hB⟩⟩

/-- Two pairs of lists, the second pair newer. -/
theorem four_rs {w : World} {base b3 : Nat} {v1 v2 v3 v4 : Value} {l1 l2 l3 l4 : List Int} (h1 : LI w base v1 l1) (h2 : LI w base v2 l2) (h3 : LI w b3 v3 l3) (h4 : LI w b3 v4 l4) (a12 : Ap v1 v2) (a34 : Ap v3 v4) (hb : base ≤ b3)
    (u1 : ∀ b, v1.ownBlock = some b → b < b3) (u2 : ∀ b, v2.ownBlock = some b → b < b3) :
    ∃ p1 p2 p3 p4 : Lt, v1 = p1.sl ∧ v2 = p2.sl ∧ v3 = p3.sl ∧ v4 = p4.sl ∧ IsI p1 l1 ∧ IsI p2 l2 ∧ IsI p3 l3 ∧ IsI p4 l4 ∧ (∀ p ∈ [p1, p2, p3, p4], ∀ B, p.b = some B → Row w 3 B p.xs.length p.cap p.xs ∧ base ≤ B) ∧
      (∀ i j (hi : i < [p1, p2, p3, p4].length) (hj : j < [p1, p2, p3, p4].length) B, ([p1, p2, p3, p4][i]).b = some B → ([p1, p2, p3, p4][j]).b = some B → i = j) ∧
      (∀ p ∈ [p1, p2, p3, p4], p.xs.length ≤ max (max l1.length l2.length) (max l3.length l4.length)) := by
  obtain ⟨p1, e1, i1, n1, f1⟩ := lt_int h1
  obtain ⟨p2, e2, i2, n2, f2⟩ := lt_int h2
  obtain ⟨p3, e3, i3, n3, f3⟩ := lt_int h3
  obtain ⟨p4, e4, i4, n4, f4⟩ := lt_int h4
  refine ⟨p1, p2, p3, p4, e1, e2, e3, e4, i1, i2, i3, i4, ?_, ?_, ?_⟩
  · intro p hp B hB
    simp only [List.mem_cons, List.not_mem_nil, or_false] at hp
    rcases hp with rfl | rfl | rfl | rfl
    · exact ⟨(f1 B hB).1, (f1 B hB).2.1⟩
    · exact ⟨(f2 B hB).1, (f2 B hB).2.1⟩
    · exact ⟨(f3 B hB).1, Nat.le_trans hb (f3 B hB).2.1⟩
    · exact ⟨(f4 B hB).1, Nat.le_trans hb (f4 B hB).2.1⟩
  · have k12 : ∀ B, p1.b = some B → p2.b = some B → False := fun B x y => a12 B (f1 B x).2.2 (f2 B y).2.2
    have k34 : ∀ B, p3.b = some B → p4.b = some B → False := fun B x y => a34 B (f3 B x).2.2 (f4 B y).2.2
    have k13 : ∀ B, p1.b = some B → p3.b = some B → False := fun B x y => by have := u1 B (f1 B x).2.2; have := (f3 B y).2.1; omega
    have k14 : ∀ B, p1.b = some B → p4.b = some B → False := fun B x y => by have := u1 B (f1 B x).2.2; have := (f4 B y).2.1; omega
    have k23 : ∀ B, p2.b = some B → p3.b = some B → False := fun B x y => by have := u2 B (f2 B x).2.2; have := (f3 B y).2.1; omega
    have k24 : ∀ B, p2.b = some B → p4.b = some B → False := fun B x y => by have := u2 B (f2 B x).2.2; have := (f4 B y).2.1; omega
    intro i j hi hj B x y
    rcases i with _ | _ | _ | _ | i <;> rcases j with _ | _ | _ | _ | j
    all_goals first
      | rfl
      | (simp only [List.length_cons, List.length_nil] at hi hj; omega)
      | exact (k12 B x y).elim | exact (k12 B y x).elim | exact (k13 B x y).elim | exact (k13 B y x).elim | exact (k14 B x y).elim | exact (k14 B y x).elim
      | exact (k23 B x y).elim | exact (k23 B y x).elim | exact (k24 B x y).elim | exact (k24 B y x).elim | exact (k34 B x y).elim | exact (k34 B y x).elim
  · intro p hp
    simp only [List.mem_cons, List.not_mem_nil, or_false] at hp
    rcases hp with rfl | rfl | rfl | rfl <;> omega
/-- Two lists of truths, the second one newer. -/
theorem two_rs {w : World} {base b2 : Nat} {v1 v2 : Value} {l1 l2 : List Bool} (h1 : LB w base v1 l1) (h2 : LB w b2 v2 l2) (hb : base ≤ b2) (u1 : ∀ b, v1.ownBlock = some b → b < b2) :
    ∃ p1 p2 : Lt, v1 = p1.sl ∧ v2 = p2.sl ∧ IsB p1 l1 ∧ IsB p2 l2 ∧ (∀ p ∈ [p1, p2], ∀ B, p.b = some B → Row w 4 B p.xs.length p.cap p.xs ∧ base ≤ B) ∧
      (∀ i j (hi : i < [p1, p2].length) (hj : j < [p1, p2].length) B, ([p1, p2][i]).b = some B → ([p1, p2][j]).b = some B → i = j) ∧ (∀ p ∈ [p1, p2], p.xs.length ≤ max l1.length l2.length) := by
  obtain ⟨p1, e1, i1, n1, f1⟩ := lt_bool h1
  obtain ⟨p2, e2, i2, n2, f2⟩ := lt_bool h2
  refine ⟨p1, p2, e1, e2, i1, i2, ?_, ?_, ?_⟩
  · intro p hp B hB
    simp only [List.mem_cons, List.not_mem_nil, or_false] at hp
    rcases hp with rfl | rfl
    · exact ⟨(f1 B hB).1, (f1 B hB).2.1⟩
    · exact ⟨(f2 B hB).1, Nat.le_trans hb (f2 B hB).2.1⟩
  · have k12 : ∀ B, p1.b = some B → p2.b = some B → False := fun B x y => by have := u1 B (f1 B x).2.2; have := (f2 B y).2.1; omega
    intro i j hi hj B x y
    rcases i with _ | _ | i <;> rcases j with _ | _ | j
    all_goals first
      | rfl
      | (simp only [List.length_cons, List.length_nil] at hi hj; omega)
      | exact (k12 B x y).elim | exact (k12 B y x).elim
  · intro p hp
    simp only [List.mem_cons, List.not_mem_nil, or_false] at hp
    rcases hp with rfl | rfl <;> omega

set_option maxRecDepth 100000 in
set_option maxHeartbeats 2000000 in
/-- AddBlocks. -/
theorem BB.addBlk {w0 wr : World} {GB : Nat} {v1 : Value} {r1 : List Lt} {n1 : Nat} {v2 : Value} {r2 : List Lt} {n2 : Nat} (h : BB w0 wr GB v1 r1 n1 v2 r2 n2) (hn : n1 + 1 < r1.length) (h300 : n1 + 1 < 300) (a1 a2 : Option Addr) (m1 m2 c1 c2 : Nat) (hx : Value.slice a1 m1 c1 = r1[n1].sl) (hy : Value.slice a2 m2 c2 = r1[n1 + 1].sl) :
    Calls Tryd.prog 11 #[.pointer (some ⟨GB, 0, none⟩), .agg #[.slice a1 m1 c1, .slice a2 m2 c2]] wr fun e w' => e = .returned (.tuple #[]) ∧ ∃ v', BB w0 w' GB v' r1 (n1 + 1 + 1) v2 r2 n2 := by
  obtain ⟨o1, ho1⟩ : ∃ o, o = Obj.cells #[Value.slice a1 m1 c1, .slice a2 m2 c2] 33 := ⟨_, rfl⟩
  have hb : Below wr.heap.size wr (wr.alloc o1) := (Below.refl _ wr).alloc (Nat.le_refl _) o1
  have x0 : (wr.alloc o1).cell? ⟨wr.heap.size, 0, none⟩ = some (.slice a1 m1 c1) := by rw [ho1, World.cell?_alloc_new]; rfl
  have x1 : (wr.alloc o1).cell? ⟨wr.heap.size, 1, none⟩ = some (.slice a2 m2 c2) := by rw [ho1, World.cell?_alloc_new]; rfl
  have hB := h.later hb
  have H1 := hid (hB.addI (by omega) (by omega) (.slice a1 m1 c1) hx)
  have n1' : ¬ wr.heap.size = GB := by have := block_lt_of_cell h.i.cell; simp only at this; omega
  have n2' : ¬ v1.ownBlock = some wr.heap.size := fun e => by have := (own_lt h.i.own e).1; omega
  have HY := hid hy
  clear h hb hB hx hy
  go_enter Tryd.func11, Tryd.ntmps11
  go_wp2_with fail
  rw [← ho1]
  clear ho1
  generalize hZ : wr.heap.size = Z at *
  generalize wr.alloc o1 = W0 at *
  refine H1.out.mono ?_
  rintro e w1 ⟨rfl, v', hB1, hk, _⟩
  have y1 := hk.cell x1 (fun e => by
    rcases e with e | e
    · exact n1' e
    · exact n2' e)
  have H2 := hid (hB1.addI (by omega) (by omega) (.slice a2 m2 c2) HY.out)
  clear hB1 hk
  go_wp2_with fail
  refine H2.out.mono ?_
  rintro e w2 ⟨rfl, v'', hB2, _, _⟩
  have HB2 := hid hB2
  clear hB2
  go_wp2_with fail
  go_end0
  exact ⟨rfl, v'', HB2.out⟩
end Go.Proofs.YtfcklkmfdjjfoaaDoor

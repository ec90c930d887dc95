/-
  A list of replies copied; a host made of one.
-/
import Derived.Test.YthdgbeaibajkeaaCy
namespace Go.Proofs.Ythdgbeaibajkeaa
open Go.RowKit
set_option linter.unusedVariables false

/-- The cells of a reply, and of many. -/
def celR (y : Rp) : List Value := [.slice y.a y.n y.c, .bool y.tr]
def flatR (ys : List Rp) : List Value := ys.flatMap celR
theorem flatR_len : ∀ (ys : List Rp), (flatR ys).length = ys.length * 2
  | [] => rfl
  | y :: ys => by
    have := flatR_len ys
    unfold flatR at this ⊢
    rw [List.flatMap_cons, List.length_append, this]
    simp [celR]; omega
theorem flatR_append (xs ys : List Rp) : flatR (xs ++ ys) = flatR xs ++ flatR ys := by unfold flatR; rw [List.flatMap_append]
theorem flatR_one (y : Rp) : flatR [y] = celR y := by simp [flatR]
theorem flatR_get : ∀ (ys : List Rp) (j q : Nat), j < ys.length → q < 2 → (flatR ys)[j * 2 + q]? = (celR (ys.getD j rp0))[q]?
  | [], j, q, h, _ => by simp at h
  | y :: ys, 0, q, _, hq => by
    unfold flatR
    rw [List.flatMap_cons, List.getElem?_append_left (by simp [celR]; omega)]
    simp
  | y :: ys, j + 1, q, h, hq => by
    have ih := flatR_get ys j q (by simpa using h) hq
    unfold flatR at ih ⊢
    rw [List.flatMap_cons, List.getElem?_append_right (by simp [celR]; omega)]
    have : (j + 1) * 2 + q - (celR y).length = j * 2 + q := by simp [celR]; omega
    rw [this, ih]
    simp
theorem flatR_cells (ys : List Rp) : ∀ u ∈ flatR ys, u.oneCell' = true := by
  intro u hu
  obtain ⟨y, _, h⟩ := List.mem_flatMap.1 hu
  simp only [celR, List.mem_cons, List.not_mem_nil, or_false] at h
  rcases h with rfl | rfl <;> rfl

/-- A list of replies of the call's own. -/
def LR (w : World) (base : Nat) (v : Value) (ys : List Rp) : Prop := w.ownsRow base 33 2 v ys.length (flatR ys)
/-- k replies have been copied. -/
structure CR (base : Nat) (xs : List Rp) (k : Nat) (v : Value) (ys : List Rp) (w : World) : Prop where
  len : ys.length = k
  row : LR w base v ys
  lab : ∀ y ∈ ys, LU w base (.slice y.a y.n y.c) y.l ∧ y.n = y.l.length ∧ y.n ≤ 2147483647 ∧ ∀ z ∈ y.l, 0 ≤ z ∧ z ≤ 18446744073709551615
  same : ∀ j, j < k → (ys.getD j rp0).l = (xs.getD j rp0).l ∧ (ys.getD j rp0).tr = (xs.getD j rp0).tr

theorem CR.nil (base : Nat) (xs : List Rp) (w : World) : CR base xs 0 (.slice none 0 0) [] w := ⟨rfl, ⟨rfl, .inl ⟨rfl, rfl⟩⟩, (fun y hy => by cases hy), (fun j hj => by omega)⟩
theorem CR.later {base : Nat} {xs : List Rp} {k : Nat} {v : Value} {ys : List Rp} {w w' : World} (h : CR base xs k v ys w) (hb : Below w.heap.size w w') : CR base xs k v ys w' :=
  ⟨h.len, own_later h.row hb, fun y hy => ⟨own_later (h.lab y hy).1 hb, (h.lab y hy).2⟩, h.same⟩
theorem CR.keep {S : Nat → Prop} {base : Nat} {xs : List Rp} {k : Nat} {v : Value} {ys : List Rp} {w w' : World} (h : CR base xs k v ys w) (hk : Kept S w w') (hs : ∀ b, base ≤ b → ¬ S b) : CR base xs k v ys w' :=
  ⟨h.len, own_keepB h.row hk (fun b hb => hs b (own_ty h.row hb).1), fun y hy => ⟨own_keepB (h.lab y hy).1 hk (fun b hb => hs b (own_ty (h.lab y hy).1 hb).1), (h.lab y hy).2⟩, h.same⟩
theorem CR.slice {base : Nat} {xs : List Rp} {k : Nat} {v : Value} {ys : List Rp} {w : World} (h : CR base xs k v ys w) : ∃ a c, v = .slice a k c := by
  obtain ⟨a, c, e, _⟩ := own_sl h.row
  exact ⟨a, c, by rw [e, h.len]⟩
theorem getD_snocR {ys : List Rp} {y : Rp} {j : Nat} : (ys ++ [y]).getD j rp0 = if j < ys.length then ys.getD j rp0 else if j = ys.length then y else rp0 := by
  by_cases h : j < ys.length
  · rw [if_pos h, List.getD_eq_getElem?_getD, List.getElem?_append_left h, List.getD_eq_getElem?_getD]
  · rw [if_neg h, List.getD_eq_getElem?_getD, List.getElem?_append_right (by omega)]
    by_cases e : j = ys.length
    · rw [if_pos e, e]; simp
    · rw [if_neg e, List.getElem?_eq_none (by simp; omega)]; rfl
/-- One more is appended. -/
theorem CR.snoc {base : Nat} {xs : List Rp} {k : Nat} {v v' : Value} {ys : List Rp} {y : Rp} {w w' : World} (h : CR base xs k v ys w) (hr : w'.ownsRow base 33 2 v' (k + 1) (flatR ys ++ celR y)) (hk : Kept (fun b => v.ownBlock = some b) w w')
    (hl : LU w base (.slice y.a y.n y.c) y.l) (h1 : y.n = y.l.length) (h2 : y.n ≤ 2147483647) (h3 : ∀ z ∈ y.l, 0 ≤ z ∧ z ≤ 18446744073709551615) (hs : y.l = (xs.getD k rp0).l ∧ y.tr = (xs.getD k rp0).tr) : CR base xs (k + 1) v' (ys ++ [y]) w' := by
  have hlen := h.len
  have ap : ∀ (u : Value) (l : List Int), LU w base u l → LU w' base u l := fun u l hu => own_keepB hu hk (fun b hb e => by
    obtain ⟨_, _, c1, g1⟩ := own_ty hu hb
    obtain ⟨_, _, c2, g2⟩ := own_ty h.row e
    rw [g1] at g2
    simp at g2)
  refine ⟨by simp [hlen], ?_, fun u hu => ?_, fun j hj => ?_⟩
  · unfold LR
    rw [flatR_append, flatR_one, List.length_append, hlen]
    exact hr
  · rcases List.mem_append.1 hu with hu | hu
    · exact ⟨ap _ _ (h.lab u hu).1, (h.lab u hu).2⟩
    · simp only [List.mem_singleton] at hu
      subst hu
      exact ⟨ap _ _ hl, h1, h2, h3⟩
  · rw [getD_snocR, hlen]
    by_cases hjk : j < k
    · rw [if_pos hjk]; exact h.same j hjk
    · have : j = k := by omega
      rw [if_neg hjk, if_pos this, this]; exact hs
/-- What was copied lies there. -/
theorem CR.rps {base : Nat} {xs : List Rp} {k c : Nat} {a : Option Addr} {ys : List Rp} {w : World} (h : CR base xs k (.slice a k c) ys w) (hk : k ≤ 2000) : RpS (fun b => base ≤ b) w a k c ys := by
  have hlen := h.len
  rcases h.row.2 with ⟨h0, h1⟩ | ⟨g, cp, cur, h1, h2, h3, h4, _⟩
  · simp at h0
    exact ⟨hlen, by omega, hk, .inl h0.2.1⟩
  · simp at h1
    obtain ⟨rfl, e1, rfl⟩ := h1
    refine ⟨hlen, by omega, hk, .inr ⟨g, 0, rfl, h2, fun j hj => ?_⟩⟩
    have hm : ys.getD j rp0 ∈ ys := by rw [List.getD_eq_getElem?_getD, List.getElem?_eq_getElem (by omega)]; exact List.getElem_mem (by omega)
    have hrow : w.ownsRow base 33 2 (.slice (some ⟨g, 0, none⟩) k c) k (flatR ys) := by have := h.row; unfold LR at this; rw [hlen] at this; exact this
    have hc : ∀ q, q < 2 → w.cell? ⟨g, j * 2 + q, none⟩ = (celR (ys.getD j rp0))[q]? := fun q hq => by
      rw [World.ownsRow.cellAt hrow (j * 2 + q) (by omega), flatR_get ys j q (by omega) hq]
    obtain ⟨l1, l2, l3, l4⟩ := h.lab _ hm
    rw [Nat.zero_add]
    exact ⟨hc 0 (by omega), hc 1 (by omega), l1.seg l2 l4 l3⟩

theorem copyRs0 (a : Option Addr) (c : Nat) (w : World) : Calls Try.prog 8 #[.slice a 0 c] w fun e w' => e = .returned (.slice none 0 0) ∧ w' = w := by
  go_enter Try.func8, Try.ntmps8
  go_wp2_with fail
  refine wp_loop_rounds 1 ?_
  rw [rounds_succ]
  go_wp2_with fail
  go_ret
  exact ⟨rfl, rfl⟩

theorem news_at {w : World} {o : Obj} {u0 u1 : Value} (h : o = .cells #[u0, u1] 33) : ∀ (j : Nat) (y : Value), [u0, u1][j]? = some y → (w.alloc o).cell? ((⟨w.heap.size, 0, none⟩ : Addr).add j) = some y := by
  intro j y hj
  subst h
  have hplain : (⟨w.heap.size, 0, none⟩ : Addr).add j = ⟨w.heap.size, j, none⟩ := by unfold Addr.add; split <;> simp_all
  rw [hplain, World.cell?_alloc_new]
  rcases j with _ | _ | j
  · simpa using hj
  · simpa using hj
  · simp at hj

set_option maxRecDepth 100000 in
set_option maxHeartbeats 2000000 in
theorem copyRs (Q : Nat → Prop) (a : Option Addr) (n c : Nat) (xs : List Rp) (w : World) (h : RpS Q w a n c xs) :
    Calls Try.prog 8 #[.slice a n c] w fun e w' => ∃ a' c' ys, e = .returned (.slice a' n c') ∧ CR w.heap.size xs n (.slice a' n c') ys w' ∧ Below w.heap.size w w' := by
  by_cases h0 : n = 0
  · subst h0
    refine (copyRs0 a c w).mono ?_
    rintro e w' ⟨rfl, rfl⟩
    exact ⟨none, 0, [], rfl, CR.nil _ _ _, Below.refl _ _⟩
  obtain ⟨b, off, rfl, _, hc⟩ := h.2.2.2.resolve_left h0
  have hn : n ≤ 2000 := h.2.2.1
  have HC := hid hc
  clear hc h
  go_enter Try.func8, Try.ntmps8
  go_wp2_with fail
  go_loopw [3, 4] (fun v p wr => ∃ (k : Nat) (ys : List Rp), k ≤ n ∧ p = .int .i64 k ∧ CR w.heap.size xs k v ys wr ∧ Below w.heap.size w wr) (fun _ p _ => n - (intOf p).toNat)
  case atStart => exact ⟨0, [], by omega, rfl, CR.nil _ _ _, Below.refl _ _⟩
  case round =>
    obtain ⟨k, ys, hk, rfl, hcr, hbel⟩ := hrel
    obtain ⟨va, vc, rfl⟩ := hcr.slice
    have HCR := hid hcr
    have HBE := hid hbel
    by_cases hkn : k < n
    · have hin := (HC.out k hkn).later hbel
      obtain ⟨x, hx⟩ : ∃ x, x = xs.getD k rp0 := ⟨_, rfl⟩
      rw [← hx] at hin
      have HX := hid hx
      obtain ⟨xa, xn, xc, xl, xt⟩ := x
      obtain ⟨d0, d1, d2⟩ := hin
      simp only at d0 d1 d2
      have H1 := hid (copyR Q xa xn xc xl xt wr d2)
      have HD := hid (And.intro d2.1 (And.intro d2.2.2.1 d2.2.2.2.1))
      have hkn' : (k : Int) < (n : Int) := by omega
      clear hcr hx d2 hbel
      go_wp2_with fail
      refine H1.out.mono ?_
      rintro e w1 ⟨ua, uc, rfl, hL, hb1⟩
      obtain ⟨o1, ho1⟩ : ∃ o1, o1 = Obj.cells #[.slice ua xn uc, .bool xt] 33 := ⟨_, rfl⟩
      have hba := below_new w1 o1
      have hsz := HBE.out.size
      have B2 : Below wr.heap.size wr (w1.alloc o1) := hb1.trans (hba.mono hb1.size)
      have hrow := HCR.out.later B2
      have HROW := hid hrow
      have HL := hid (own_low (own_later hL hba) hsz)
      have HB := hid (HBE.out.trans (B2.mono hsz))
      have HN := hid (news_at (w := w1) ho1)
      have hB2s : w.heap.size ≤ (w1.alloc o1).heap.size := Nat.le_trans hsz B2.size
      obtain ⟨i0, hi, hz0, hz1, hz2⟩ := info_parts Try.infR
      have HO1 := hid ho1
      have HR0 := hid (show (w1.alloc o1).ownsRow w.heap.size 33 2 (.slice va k vc) k (flatR ys) by have := hrow.row; unfold LR at this; rw [hrow.len] at this; exact this)
      clear hb1 hba hrow hL B2 ho1
      go_wp2_with (first
        | (at_builtin; rw [← HO1.out]; refine wpList_append_own _ rfl (.tmp 11) (.tmp 17) 22 rfl w.heap.size 33 i0 _ 2 32 Try.underlying22 hi hz0 hz1 hz2 rfl (by decide) _ k (flatR ys) rfl HR0.out ⟨w1.heap.size, 0, none⟩ 1 1 [.slice ua xn uc, .bool xt] rfl rfl HN.out (flatR_cells [⟨ua, xn, uc, xl, xt⟩]) (by unfold maxLen; omega) (by omega) hB2s ?_; intro v' w2 hr2 hg2 _; have HR2 := hid hr2; have HK2 := hid (Kept.of_grown hg2); obtain ⟨va2, vc2, hv2, _⟩ := own_sl hr2; subst hv2; clear hr2 hg2))
      refine ⟨⟨k + 1, ys ++ [⟨ua, xn, uc, xl, xt⟩], by omega, by go_num, ?_, ?_⟩, by simp [intOf]; omega⟩
      · exact HROW.out.snoc HR2.out (HK2.out.mono (fun b e => e.symm)) HL.out HD.out.1.symm HD.out.2.1 HD.out.2.2 (by rw [← HX.out]; exact ⟨rfl, rfl⟩)
      · exact HB.out.trans (HK2.out.to_below hB2s (fun b hb e => by have := (own_ty HR0.out e.symm).1; omega))
    · have hke : k = n := by omega
      subst hke
      clear hcr hbel
      go_wp2_with fail
      go_ret
      exact ⟨va, vc, ys, rfl, HCR.out, HBE.out⟩

/-- A host in memory: at block H; what is left of it is xs, at blocks of Q. -/
def HS (w : World) (H : Nat) (Q : Nat → Prop) (t : Int) (m : Nat) (xs : List Rp) : Prop :=
  w.cell? ⟨H, 0, none⟩ = some (.int .i64 t) ∧ w.frozen? ⟨H, 0, none⟩ = false ∧ w.frozen? ⟨H, 1, none⟩ = false ∧ ∃ a c, w.cell? ⟨H, 1, none⟩ = some (.slice a m c) ∧ RpS Q w a m c xs

end Go.Proofs.Ythdgbeaibajkeaa

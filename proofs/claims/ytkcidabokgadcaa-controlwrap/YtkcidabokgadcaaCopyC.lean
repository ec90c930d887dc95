/-
  A list of instructions of the call's own; a code copied into one.
-/
import Derived.Test.YtkcidabokgadcaaCopy
namespace Go.Proofs.Ytkcidabokgadcaa
open Go.RowKit
set_option linter.unusedVariables false

/-- The cells of an instruction, and of many. -/
def cel (y : Inx) : List Value := [.int .u8 y.c, .int .i64 y.a, .slice y.la y.ln y.lc]
def flat (ys : List Inx) : List Value := ys.flatMap cel

theorem flat_len : ∀ (ys : List Inx), (flat ys).length = ys.length * 3
  | [] => rfl
  | y :: ys => by
    have := flat_len ys
    unfold flat at this ⊢
    rw [List.flatMap_cons, List.length_append, this]
    simp [cel]; omega
theorem flat_append (xs ys : List Inx) : flat (xs ++ ys) = flat xs ++ flat ys := by unfold flat; rw [List.flatMap_append]
theorem flat_one (y : Inx) : flat [y] = cel y := by simp [flat]
theorem flat_get : ∀ (ys : List Inx) (j q : Nat), j < ys.length → q < 3 → (flat ys)[j * 3 + q]? = (cel (ys.getD j dx))[q]?
  | [], j, q, h, _ => by simp at h
  | y :: ys, 0, q, _, hq => by
    unfold flat
    rw [List.flatMap_cons, List.getElem?_append_left (by simp [cel]; omega)]
    simp
  | y :: ys, j + 1, q, h, hq => by
    have ih := flat_get ys j q (by simpa using h) hq
    unfold flat at ih ⊢
    rw [List.flatMap_cons, List.getElem?_append_right (by simp [cel]; omega)]
    have : (j + 1) * 3 + q - (cel y).length = j * 3 + q := by simp [cel]; omega
    rw [this, ih]
    simp
theorem flat_cells (ys : List Inx) : ∀ u ∈ flat ys, u.oneCell' = true := by
  intro u hu
  obtain ⟨y, _, h⟩ := List.mem_flatMap.1 hu
  simp only [cel, List.mem_cons, List.not_mem_nil, or_false] at h
  rcases h with rfl | rfl | rfl <;> rfl

/-- A list of instructions of the call's own. -/
def LC (w : World) (base : Nat) (v : Value) (ys : List Inx) : Prop := w.ownsRow base 31 3 v ys.length (flat ys)
/-- Where their numbers lie. -/
def LL (w : World) (base : Nat) (ys : List Inx) : Prop := ∀ y ∈ ys, LI w base (.slice y.la y.ln y.lc) y.l

theorem LC.nil (w : World) (base : Nat) : LC w base (.slice none 0 0) [] := ⟨rfl, .inl ⟨rfl, rfl⟩⟩
theorem LC.later {w w' : World} {base B : Nat} {v : Value} {ys : List Inx} (h : LC w base v ys) (hb : Below B w w') (hB : w.heap.size ≤ B) : LC w' base v ys := by
  refine ⟨h.1, ?_⟩
  rcases h.2 with h0 | ⟨g, cp, cur, rfl, h2, h3, h4⟩
  · exact .inl h0
  · refine .inr ⟨g, cp, cur, rfl, h2, ?_, h4⟩
    have hl : g < w.heap.size := (Array.getElem?_eq_some_iff.1 h3).1
    rw [hb.block g (by omega)]; exact h3
theorem LC.slice {w : World} {base : Nat} {v : Value} {ys : List Inx} (h : LC w base v ys) : ∃ a c, v = .slice a ys.length c := by
  rcases h.2 with ⟨h0, h1⟩ | ⟨g, cp, cur, h1, _⟩
  · exact ⟨none, 0, by rw [h0, h1]⟩
  · exact ⟨_, _, h1⟩
theorem LC.block {w : World} {base B : Nat} {v : Value} {ys : List Inx} (h : LC w base v ys) (hv : v.ownBlock = some B) : base ≤ B ∧ ∃ cur, w.heap[B]? = some (.cells cur 31) := by
  rcases h.2 with ⟨h0, _⟩ | ⟨g, cp, cur, h1, h2, h3, _⟩
  · rw [h0] at hv; cases hv
  · rw [h1] at hv
    have e : g = B := by simpa [Value.ownBlock] using hv
    subst e
    exact ⟨h2, cur, h3⟩
theorem LI.kind {w : World} {base B : Nat} {v : Value} {l : List Int} (h : LI w base v l) (hv : v.ownBlock = some B) : ∃ cur, w.heap[B]? = some (.cells cur 3) := by
  rcases h.2 with ⟨h0, _⟩ | ⟨g, cp, cur, h1, h2, h3, _⟩
  · rw [h0] at hv; cases hv
  · rw [h1] at hv
    have e : g = B := by simpa [Value.ownBlock] using hv
    subst e
    exact ⟨cur, h3⟩
/-- Numbers and instructions lie apart. -/
theorem LC.apart {w : World} {base base' B : Nat} {v v' : Value} {ys : List Inx} {l : List Int} (h : LC w base v ys) (h' : LI w base' v' l) (e : v.ownBlock = some B) (e' : v'.ownBlock = some B) : False := by
  obtain ⟨_, c1, h1⟩ := h.block e
  obtain ⟨c2, h2⟩ := h'.kind e'
  rw [h1] at h2
  simp at h2
theorem LL.later {w w' : World} {base B : Nat} {ys : List Inx} (h : LL w base ys) (hb : Below B w w') (hB : w.heap.size ≤ B) : LL w' base ys := fun y hy => (h y hy).later hb hB

/-- 'append(l, y0, y1, ..)'. -/
theorem app_ins (w : World) {ops : Array Oper} {rest : List Oper} {o : Oper} {a : Act} {Q : Exit → Act → World → Prop} (hgd : o.guard = none)
    (s x : Operand) (ho : o.op = Op.call { callee := Callee.builtin Builtin.append, args := #[s, x], argTypes := #[22, 22] })
    (base : Nat) (v : Value) (ys : List Inx) (hs : a.eval s = v) (hown : LC w base v ys) (hbase : base ≤ w.heap.size) (ad : Addr) (zs : List Inx) (m c : Nat) (hx : a.eval x = .slice (some ad) m c) (hm : zs.length = m)
    (hu : ∀ (j : Nat) (y : Value), (flat zs)[j]? = some y → w.cell? (ad.add j) = some y)
    (hlen : ys.length + zs.length ≤ 1073741824)
    (h : ∀ (a' : Option Addr) (k' c' : Nat) (w' : World), k' = (ys ++ zs).length → LC w' base (.slice a' k' c') (ys ++ zs) → Below base w w' → (∀ b' v' l', LI w b' v' l' → LI w' b' v' l') → wpList Try.prog ops Q rest (a.put o.dst (.slice a' k' c')) w') :
    wpList Try.prog ops Q (o :: rest) a w := by
  obtain ⟨i0, hi, hz0, hz1, hz2⟩ := info_parts Try.infIns
  refine wpList_append_own w hgd s x 22 ho base 31 i0 _ 3 40 Try.underlying22 hi hz0 hz1 hz2 rfl (by decide) v ys.length _ hs hown ad m c (flat zs) hx (by rw [flat_len, hm])
    hu (flat_cells zs) (by unfold maxLen; omega) (by omega) hbase ?_
  intro v' w' ho' hg _
  have hL : LC w' base v' (ys ++ zs) := by
    unfold LC
    rw [List.length_append, hm, flat_append]
    exact ho'
  obtain ⟨a', c', rfl⟩ := hL.slice
  have hk := Kept.of_grown hg
  refine h a' _ c' w' rfl hL ?_ ?_
  · exact hk.to_below hbase (fun k hk e => by
      have := (hown.block e.symm).1
      omega)
  · intro b' v' l' hl
    exact hl.kept hk (fun b hb e => hown.apart hl e.symm hb)

/-- A row of instructions, and the code that lies there. -/
theorem LC.cod {w : World} {base g cap n : Nat} {ys : List Inx} (h : LC w base (.slice (some ⟨g, 0, none⟩) n cap) ys) (hn : n = ys.length) (hl : LL w base ys) (hr : ∀ y ∈ ys, 0 ≤ y.c ∧ y.c ≤ 255 ∧ -9223372036854775808 ≤ y.a ∧ y.a ≤ 9223372036854775807 ∧ y.ln ≤ 100000 ∧ ∀ z ∈ y.l, -9223372036854775808 ≤ z ∧ z ≤ 9223372036854775807) :
    Cod w g 0 n ys := by
  subst hn
  refine ⟨rfl, fun j hj => ?_⟩
  have hm : ys.getD j dx ∈ ys := by rw [List.getD_eq_getElem?_getD, List.getElem?_eq_getElem hj]; exact List.getElem_mem hj
  have hc : ∀ q, q < 3 → w.cell? ⟨g, j * 3 + q, none⟩ = (cel (ys.getD j dx))[q]? := fun q hq => by
    rw [World.ownsRow.cellAt h (j * 3 + q) (by omega), flat_get ys j q hj hq]
  obtain ⟨r1, r2, r3, r4, r5, r6⟩ := hr _ hm
  have c0 := hc 0 (by omega)
  have c1 := hc 1 (by omega)
  have c2 := hc 2 (by omega)
  rw [Nat.zero_add]
  have hL := hl _ hm
  have e := hL.cell.1
  refine ⟨c0, c1, c2, r1, r2, r3, r4, by omega, fun _ => hL.seg r6 (by omega)⟩

/-- What is known behind k instructions. -/
structure CP (w : World) (xs : List Inx) (k : Nat) (v : Value) (ys : List Inx) (wr : World) : Prop where
  len : ys.length = k
  row : LC wr w.heap.size v ys
  lab : LL wr w.heap.size ys
  same : ∀ j, j < k → (ys.getD j dx).c = (xs.getD j dx).c ∧ (ys.getD j dx).a = (xs.getD j dx).a ∧ (ys.getD j dx).l = (xs.getD j dx).l ∧ (ys.getD j dx).ln = (xs.getD j dx).ln
  bel : Below w.heap.size w wr

theorem getD_snoc {ys : List Inx} {y : Inx} {j : Nat} : (ys ++ [y]).getD j dx = if j < ys.length then ys.getD j dx else if j = ys.length then y else dx := by
  by_cases h : j < ys.length
  · rw [if_pos h, List.getD_eq_getElem?_getD, List.getElem?_append_left h, List.getD_eq_getElem?_getD]
  · rw [if_neg h, List.getD_eq_getElem?_getD, List.getElem?_append_right (by omega)]
    by_cases e : j = ys.length
    · rw [if_pos e, e]; simp
    · rw [if_neg e, List.getElem?_eq_none (by simp; omega)]; rfl

set_option maxRecDepth 100000 in
set_option maxHeartbeats 2000000 in
theorem copyCode_in (b off n cap : Nat) (xs : List Inx) (w : World) (hn : n ≤ 100000) (hcap : n ≤ cap) (hc : Cod w b off n xs) (hln : ∀ j, j < n → (xs.getD j dx).ln ≤ 100000) :
    Calls Try.prog 11 #[.slice (some ⟨b, off, none⟩) n cap] w fun e w' => ∃ v ys, e = .returned v ∧ CP w xs n v ys w' := by
  have HC := hid hc
  have HLN := hid hln
  clear hc hln
  go_enter Try.func11, Try.ntmps11
  go_wp2_with fail
  go_loopw [3, 4] (fun v p wr => ∃ (k : Nat) (ys : List Inx), k ≤ n ∧ p = .int .i64 k ∧ CP w xs k v ys wr) (fun _ p _ => n - (intOf p).toNat)
  case atStart => exact ⟨0, [], by omega, rfl, rfl, LC.nil _ _, (fun y hy => by cases hy), (fun j hj => by omega), Below.refl _ _⟩
  case round =>
    obtain ⟨k, ys, hk, rfl, hcp⟩ := hrel
    obtain ⟨va, vc, rfl⟩ := hcp.row.slice
    have hlen := hcp.len
    by_cases hkn : k < n
    · have hin := (HC.out.later hcp.bel (Nat.le_refl _)).2 k hkn
      obtain ⟨d0, d1, d2, r1, r2, r3, r4, r5, r6⟩ := hin
      have hl1 := HLN.out k hkn
      have H1 := hid (copyIns (xs.getD k dx).c (xs.getD k dx).a _ _ _ _ wr (r6 hl1) hl1)
      unfold insV at H1
      have HCP := hid hcp
      have hsz := hcp.bel.size
      have hkn' : (k : Int) < (n : Int) := by omega
      obtain ⟨x, hx⟩ : ∃ x, x = xs.getD k dx := ⟨_, rfl⟩
      rw [← hx] at d0 d1 d2 r1 r2 r3 r4 H1 hl1
      have HX := hid hx
      have HLE := hid hlen
      clear hcp r5 r6 hx hlen
      go_wp2_with fail
      refine H1.out.mono ?_
      rintro e w1 ⟨u, rfl, hL, hb1⟩
      obtain ⟨ua, uc, rfl⟩ := hL.slice
      have hs1 := hb1.size
      have hba := (Below.refl w1.heap.size w1).alloc (Nat.le_refl _) (.cells #[.int .u8 x.c, .int .i64 x.a, .slice ua x.l.length uc] 31)
      have hsa := hba.size
      have hrow := (HCP.out.row.later hb1 (Nat.le_refl _)).later hba (Nat.le_refl _)
      have HROW := hid hrow
      have HLL := hid ((HCP.out.lab.later hb1 (Nat.le_refl _)).later hba (Nat.le_refl _))
      have HL := hid (hL.later hba (Nat.le_refl _))
      have HB := hid ((HCP.out.bel.trans (hb1.mono hsz)).trans (hba.mono (by omega)))
      have hsz2 : w.heap.size ≤ (w1.alloc (.cells #[.int .u8 x.c, .int .i64 x.a, .slice ua x.l.length uc] 31)).heap.size := by simp; omega
      have hys : ys.length + [(⟨x.c, x.a, ua, x.l.length, uc, x.l⟩ : Inx)].length ≤ 1073741824 := by have := HLE.out; simp; omega
      have hnews : ∀ (j : Nat) (y : Value), (flat [(⟨x.c, x.a, ua, x.l.length, uc, x.l⟩ : Inx)])[j]? = some y → (w1.alloc (.cells #[.int .u8 x.c, .int .i64 x.a, .slice ua x.l.length uc] 31)).cell? ((⟨w1.heap.size, 0, none⟩ : Addr).add j) = some y := by
        intro j y hj
        rw [flat_one] at hj
        have hplain : (⟨w1.heap.size, 0, none⟩ : Addr).add j = ⟨w1.heap.size, j, none⟩ := by unfold Addr.add; split <;> simp_all
        rw [hplain, World.cell?_alloc_new]
        rcases j with _ | _ | _ | j
        · simpa [cel] using hj
        · simpa [cel] using hj
        · simpa [cel] using hj
        · simp [cel] at hj
      have HN := hid hnews
      clear hb1 hba hrow hL hnews
      go_wp2_with (first
        | (at_builtin; refine app_ins _ rfl (.tmp 11) (.tmp 17) rfl w.heap.size _ ys rfl HROW.out hsz2 ⟨w1.heap.size, 0, none⟩ [⟨x.c, x.a, ua, x.l.length, uc, x.l⟩] 1 1 rfl rfl HN.out hys ?_; intro a' k' c' w2 hk2 hL2 hb2 hkeep; have HL2 := hid hL2; have HB2 := hid hb2; have HKP := hid hkeep; clear hL2 hb2 hkeep hk2))
      have hke := HLE.out
      refine ⟨⟨k + 1, ys ++ [⟨x.c, x.a, ua, x.l.length, uc, x.l⟩], by omega, by go_num, by simp; omega, HL2.out, ?_, ?_, HB.out.trans HB2.out⟩, by simp [intOf]; omega⟩
      · intro y hy
        rcases List.mem_append.1 hy with hy | hy
        · exact HKP.out _ _ _ (HLL.out y hy)
        · simp only [List.mem_singleton] at hy
          subst hy
          exact (HKP.out _ _ _ HL.out).mono (by omega)
      · intro j hj
        rw [getD_snoc]
        by_cases e : j < k
        · rw [if_pos (by omega)]; exact HCP.out.same j e
        · rw [if_neg (by omega), if_pos (by omega)]
          have e : j = k := by omega
          subst e
          rw [← HX.out]
          refine ⟨rfl, rfl, rfl, ?_⟩
          have := HC.out.2 j hkn
          have hh := (this.2.2.2.2.2.2.2.2 (HLN.out j hkn)).1
          rw [← HX.out] at hh
          exact hh
    · obtain rfl : k = n := by omega
      have HCP := hid hcp
      clear hcp
      go_wp2_with fail
      go_ret
      exact ⟨_, ys, rfl, HCP.out⟩
end Go.Proofs.Ytkcidabokgadcaa

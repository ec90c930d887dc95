/-
  Lists of words and of replies of the call's own; words and replies copied.
-/
import Derived.Test.YthdgbeaibajkeaaCa
import Derived.Laws.AppendOwnNone
namespace Go.Proofs.Ythdgbeaibajkeaa
open Go.RowKit
set_option linter.unusedVariables false

theorem Try.infW : (Try.prog.info? 34).map (fun i => (i.zero, i.size, i.bytes)) = some (some (.int .u64 0), 1, 8) := by kernel_rfl
theorem Try.infR : (Try.prog.info? 33).map (fun i => (i.zero, i.size, i.bytes)) = some (some (.agg #[.slice none 0 0, .bool false]), 2, 32) := by kernel_rfl

/-- A list of words of the call's own. -/
def LU (w : World) (base : Nat) (v : Value) (l : List Int) : Prop := w.ownsRow base 34 1 v l.length (l.map (Value.int .u64))
theorem own_later {w w' : World} {base e k n : Nat} {v : Value} {xs : List Value} (h : w.ownsRow base e k v n xs) (hb : Below w.heap.size w w') : w'.ownsRow base e k v n xs := by
  refine ⟨h.1, ?_⟩
  rcases h.2 with h0 | ⟨g, cp, cur, rfl, h2, h3, h4⟩
  · exact .inl h0
  · exact .inr ⟨g, cp, cur, rfl, h2, blk_later hb h3, h4⟩
theorem own_keepB {S : Nat → Prop} {w w' : World} {base e k n : Nat} {v : Value} {xs : List Value} (h : w.ownsRow base e k v n xs) (hk : Kept S w w') (hs : ∀ b, v.ownBlock = some b → ¬ S b) : w'.ownsRow base e k v n xs := by
  refine ⟨h.1, ?_⟩
  rcases h.2 with h0 | ⟨g, cp, cur, rfl, h2, h3, h4⟩
  · exact .inl h0
  · exact .inr ⟨g, cp, cur, rfl, h2, (hk.block g (blk_lt h3) (hs g rfl)).trans h3, h4⟩
theorem own_low {w : World} {base base' e k n : Nat} {v : Value} {xs : List Value} (h : w.ownsRow base e k v n xs) (hb : base' ≤ base) : w.ownsRow base' e k v n xs := by
  refine ⟨h.1, ?_⟩
  rcases h.2 with h0 | ⟨g, cp, cur, h1, h2, h3⟩
  · exact .inl h0
  · exact .inr ⟨g, cp, cur, h1, Nat.le_trans hb h2, h3⟩
theorem own_ty {w : World} {base e k n b : Nat} {v : Value} {xs : List Value} (h : w.ownsRow base e k v n xs) (hb : v.ownBlock = some b) : base ≤ b ∧ b < w.heap.size ∧ ∃ cur, w.heap[b]? = some (.cells cur e) := by
  rcases h.2 with ⟨h0, _⟩ | ⟨g, cp, cur, rfl, h2, h3, h4⟩
  · rw [h0] at hb; cases hb
  · obtain rfl : g = b := by simpa [Value.ownBlock] using hb
    exact ⟨h2, blk_lt h3, cur, h3⟩
theorem own_sl {w : World} {base e k n : Nat} {v : Value} {xs : List Value} (h : w.ownsRow base e k v n xs) : ∃ a c, v = .slice a n c ∧ n ≤ c ∧ (n = 0 ∨ ∃ b, a = some ⟨b, 0, none⟩) := by
  rcases h.2 with ⟨h0, h1⟩ | ⟨g, cp, cur, h1, h2, h3, h4, _⟩
  · exact ⟨none, 0, by rw [h0, h1], by omega, .inl h1⟩
  · exact ⟨_, _, h1, h4, .inr ⟨g, rfl⟩⟩
theorem LU.seg {w : World} {base n c : Nat} {a : Option Addr} {l : List Int} (h : LU w base (.slice a n c) l) (hn : n = l.length) (hr : ∀ z ∈ l, 0 ≤ z ∧ z ≤ 18446744073709551615) (hb : n ≤ 2147483647) : SegU (fun k => base ≤ k) w a n c l := by
  subst hn
  rcases h.2 with ⟨h0, h1⟩ | ⟨g, cp, cur, h1, h2, h3, h4, _⟩
  · simp at h0
    exact ⟨rfl, by omega, by omega, hr, .inl h1⟩
  · simp at h1
    obtain ⟨rfl, rfl⟩ := h1
    refine ⟨rfl, h4, hb, hr, .inr ⟨g, 0, rfl, h2, fun j hj => ?_⟩⟩
    rw [Nat.zero_add, World.ownsRow.cellAt h j (by omega)]
    rw [List.getElem?_map, List.getD_eq_getElem?_getD, List.getElem?_eq_getElem hj]; rfl

theorem app_nilW (w : World) {ops : Array Oper} {rest : List Oper} {o : Oper} {a : Act} {Q : Exit → Act → World → Prop} (hgd : o.guard = none)
    (s x : Operand) (ho : o.op = Op.call { callee := Callee.builtin Builtin.append, args := #[s, x], argTypes := #[31, 31] })
    (c : Nat) (hs : a.eval s = .slice none 0 0) (hx : a.eval x = .slice none 0 c) (h : wpList Try.prog ops Q rest (a.put o.dst (.slice none 0 0)) w) : wpList Try.prog ops Q (o :: rest) a w := by
  obtain ⟨i0, hi, _⟩ := info_parts Try.infW
  refine wpList_plain hgd fun K hK => ?_
  unfold Oper.wp
  simp [execOp, ho, resolve, invoke, builtin, hs, hx, Builtin.append_, run_underlying Try.underlying31, sizeOf, typeInfo, hi, Builtin.lenOf, Builtin.firstCells, Result.andThen]
  exact hK _ _ h
/-- 'append(nil, l...)' of words. -/
theorem app_words (w : World) {ops : Array Oper} {rest : List Oper} {o : Oper} {a : Act} {Q : Exit → Act → World → Prop} (hgd : o.guard = none)
    (s x : Operand) (ho : o.op = Op.call { callee := Callee.builtin Builtin.append, args := #[s, x], argTypes := #[31, 31] })
    (Q0 : Nat → Prop) (la : Option Addr) (n c : Nat) (l : List Int) (hs : a.eval s = .slice none 0 0) (hx : a.eval x = .slice la n c) (hl : SegU Q0 w la n c l)
    (h : ∀ (a' : Option Addr) (c' : Nat) (w' : World), LU w' w.heap.size (.slice a' n c') l → Below w.heap.size w w' → wpList Try.prog ops Q rest (a.put o.dst (.slice a' n c')) w') : wpList Try.prog ops Q (o :: rest) a w := by
  by_cases ha : la = none
  · subst ha
    have hn0 : n = 0 := by
      rcases hl.2.2.2.2 with h0 | ⟨b, off, e, _⟩
      · exact h0
      · cases e
    subst hn0
    have hl0 : l = [] := List.eq_nil_of_length_eq_zero hl.1
    subst hl0
    exact app_nilW w hgd s x ho c hs hx (h none 0 w ⟨rfl, .inl ⟨rfl, rfl⟩⟩ (Below.refl _ _))
  · obtain ⟨ad, rfl⟩ := Option.ne_none_iff_exists'.1 ha
    have hlen := hl.1
    have hn := hl.2.2.1
    obtain ⟨i0, hi, hz0, hz1, hz2⟩ := info_parts Try.infW
    have hu : ∀ (j : Nat) (y : Value), (l.map (Value.int .u64))[j]? = some y → w.cell? (ad.add j) = some y := fun j y hj => by
      have hj' := lt_of_get hj
      rw [List.length_map] at hj'
      rcases hl.2.2.2.2 with h0 | ⟨b, off, e, _, hcell⟩
      · omega
      · have e := Option.some.inj e
        subst e
        have hplain : (⟨b, off, none⟩ : Addr).add j = ⟨b, off + j, none⟩ := by unfold Addr.add; split <;> simp_all
        rw [hplain, hcell j (by omega), ← hj, List.getElem?_map, List.getD_eq_getElem?_getD, List.getElem?_eq_getElem hj']; rfl
    refine wpList_append_own w hgd s x 31 ho w.heap.size 34 i0 _ 1 8 Try.underlying31 hi hz0 hz1 hz2 rfl (by decide) _ 0 [] hs (World.ownsRow_nil _ _ _ _) ad n c (l.map (Value.int .u64)) hx (by simp; omega) hu (fun u hu => by
      obtain ⟨z, _, rfl⟩ := List.mem_map.1 hu
      rfl) (by unfold maxLen; omega) (by omega) (Nat.le_refl _) ?_
    intro v' w' hown hg _
    have hown' : w'.ownsRow w.heap.size 34 1 v' n (l.map (Value.int .u64)) := by simpa using hown
    obtain ⟨va, vc, rfl, _⟩ := own_sl hown'
    refine h va vc w' ?_ ((Kept.of_grown hg).to_below (Nat.le_refl w.heap.size) (fun k hk e => by cases e))
    unfold LU
    rw [hlen]
    exact hown'

theorem copyW (Q0 : Nat → Prop) (la : Option Addr) (n c : Nat) (l : List Int) (w : World) (hl : SegU Q0 w la n c l) :
    Calls Try.prog 23 #[.slice la n c] w fun e w' => ∃ a' c', e = .returned (.slice a' n c') ∧ LU w' w.heap.size (.slice a' n c') l ∧ Below w.heap.size w w' := by
  have HL := hid hl
  clear hl
  go_enter Try.func23, Try.ntmps23
  go_wp2_with (first | (at_builtin; refine app_words _ rfl (.tmp 4) (.tmp 5) rfl Q0 la n c l rfl rfl HL.out ?_; intro a' c' w' h1 h2; have H1 := hid h1; have H2 := hid h2; clear h1 h2))
  go_ret
  exact ⟨a', c', rfl, H1.out, H2.out⟩

/-- What a copied reply is. -/
def Cpd (w w' : World) (l : List Int) (tr : Bool) (e : Ending) (n : Nat) : Prop := ∃ a' c', e = .returned (.agg #[.slice a' n c', .bool tr]) ∧ LU w' w.heap.size (.slice a' n c') l ∧ Below w.heap.size w w'

set_option maxHeartbeats 1000000 in
theorem copyR (Q0 : Nat → Prop) (la : Option Addr) (n c : Nat) (l : List Int) (tr : Bool) (w : World) (hl : SegU Q0 w la n c l) :
    Calls Try.prog 17 #[.agg #[.slice la n c, .bool tr]] w fun e w' => Cpd w w' l tr e n := by
  have B1 := below_new w (.cells #[.slice la n c, .bool tr] 33)
  have B2 := below_new (w.alloc (.cells #[.slice la n c, .bool tr] 33)) (.cells #[.slice none 0 0, .bool false] 33)
  have b1 := blk_later B2 (heap_alloc_new w (.cells #[.slice la n c, .bool tr] 33))
  have b2 : ((w.alloc (.cells #[.slice la n c, .bool tr] 33)).alloc (.cells #[.slice none 0 0, .bool false] 33)).heap[w.heap.size + 1]? = some (.cells #[.slice none 0 0, .bool false] 33) := alloc_at (by simp)
  have B0 : Below w.heap.size w ((w.alloc (.cells #[.slice la n c, .bool tr] 33)).alloc (.cells #[.slice none 0 0, .bool false] 33)) := B1.trans (B2.mono (by simp))
  have z : ((w.alloc (.cells #[.slice la n c, .bool tr] 33)).alloc (.cells #[.slice none 0 0, .bool false] 33)).heap.size = w.heap.size + 2 := by simp
  have HW := hid (copyW Q0 la n c l _ (hl.later B0))
  have HB := hid (And.intro B0 z)
  clear hl B1 B2 B0 z
  go_enter Try.func17, Try.ntmps17
  go_wp2_with fail
  generalize (w.alloc (.cells #[.slice la n c, .bool tr] 33)).alloc (.cells #[.slice none 0 0, .bool false] 33) = W1 at *
  refine HW.out.mono ?_
  rintro e w1 ⟨va, vc, rfl, hL, hb1⟩
  have d1 := blk_later hb1 b1
  have d2 := blk_later hb1 b2
  have x0 : w1.cell? ⟨w.heap.size, 0, none⟩ = some (.slice la n c) := cell_at d1
  have x1 : w1.cell? ⟨w.heap.size, 1, none⟩ = some (.bool tr) := cell_at d1
  have f0 : w1.frozen? ⟨w.heap.size, 0, none⟩ = false := free_at d1
  have y0 : w1.cell? ⟨w.heap.size + 1, 0, none⟩ = some (.slice none 0 0) := cell_at d2
  have y1 : w1.cell? ⟨w.heap.size + 1, 1, none⟩ = some (.bool false) := cell_at d2
  have g0 : w1.frozen? ⟨w.heap.size + 1, 0, none⟩ = false := free_at d2
  have g1 : w1.frozen? ⟨w.heap.size + 1, 1, none⟩ = false := free_at d2
  have HL := hid hL
  have HB1 := hid hb1
  clear hL HW b1 b2 d1 d2 hb1
  go_wp2_with fail
  obtain ⟨B0, hz⟩ := HB.out
  have kk := (((kept_set w1 w.heap.size 0 (.slice va n vc)).mono (T := fun k => w.heap.size ≤ k ∧ k < W1.heap.size) (fun k hk => by omega)).trans ((kept_set _ (w.heap.size + 1) 0 (.slice va n vc)).mono (fun k hk => by omega))).trans ((kept_set _ (w.heap.size + 1) 1 (.bool tr)).mono (fun k hk => by omega))
  refine bodyPost_ret (v := .agg #[.slice va n vc, .bool tr]) (by simp [results, Try.results17, go_sem, y0, y1]) rfl ⟨va, vc, rfl, ?_, ?_⟩
  · exact own_low (own_keepB HL.out kk (fun b hb h => by have := (own_ty HL.out hb).1; omega)) B0.size
  · exact below_kept (B0.trans (HB1.out.mono B0.size)) kk (Nat.le_trans B0.size HB1.out.size) (fun k h => h.1)

set_option maxHeartbeats 1000000 in
theorem own18 (Q0 : Nat → Prop) (la : Option Addr) (n c : Nat) (l : List Int) (tr : Bool) (w : World) (hl : SegU Q0 w la n c l) :
    Calls Try.prog 18 #[.agg #[.slice la n c, .bool tr]] w fun e w' => Cpd w w' l tr e n := by
  have B1 := below_new w (.cells #[.slice la n c, .bool tr] 33)
  have B2 := below_new (w.alloc (.cells #[.slice la n c, .bool tr] 33)) (.cells #[.slice none 0 0, .bool false] 33)
  have b1 := blk_later B2 (heap_alloc_new w (.cells #[.slice la n c, .bool tr] 33))
  have b2 : ((w.alloc (.cells #[.slice la n c, .bool tr] 33)).alloc (.cells #[.slice none 0 0, .bool false] 33)).heap[w.heap.size + 1]? = some (.cells #[.slice none 0 0, .bool false] 33) := alloc_at (by simp)
  have B0 : Below w.heap.size w ((w.alloc (.cells #[.slice la n c, .bool tr] 33)).alloc (.cells #[.slice none 0 0, .bool false] 33)) := B1.trans (B2.mono (by simp))
  have z : ((w.alloc (.cells #[.slice la n c, .bool tr] 33)).alloc (.cells #[.slice none 0 0, .bool false] 33)).heap.size = w.heap.size + 2 := by simp
  have HS := hid (hl.later B0)
  have HB := hid (And.intro B0 z)
  have c0 : ((w.alloc (.cells #[.slice la n c, .bool tr] 33)).alloc (.cells #[.slice none 0 0, .bool false] 33)).cell? ⟨w.heap.size, 0, none⟩ = some (.slice la n c) := cell_at b1
  clear hl B1 B2 B0 z
  obtain ⟨W1, hW1⟩ : ∃ W1, W1 = (w.alloc (.cells #[.slice la n c, .bool tr] 33)).alloc (.cells #[.slice none 0 0, .bool false] 33) := ⟨_, rfl⟩
  rw [← hW1] at HS HB c0 b1 b2
  go_enter Try.func18, Try.ntmps18
  go_wp2_with (first | (at_builtin; rw [← hW1]; refine app_words W1 rfl (.const (.slice none 0 0)) (.tmp 4) rfl Q0 la n c l rfl rfl HS.out ?_; intro va vc w1 hL hb1; have d1 := blk_later hb1 b1; have d2 := blk_later hb1 b2; have x0 : w1.cell? ⟨w.heap.size, 0, none⟩ = some (.slice la n c) := cell_at d1; have x1 : w1.cell? ⟨w.heap.size, 1, none⟩ = some (.bool tr) := cell_at d1; have f0 : w1.frozen? ⟨w.heap.size, 0, none⟩ = false := free_at d1; have y0 : w1.cell? ⟨w.heap.size + 1, 0, none⟩ = some (.slice none 0 0) := cell_at d2; have y1 : w1.cell? ⟨w.heap.size + 1, 1, none⟩ = some (.bool false) := cell_at d2; have g0 : w1.frozen? ⟨w.heap.size + 1, 0, none⟩ = false := free_at d2; have g1 : w1.frozen? ⟨w.heap.size + 1, 1, none⟩ = false := free_at d2; have HL := hid hL; have HB1 := hid hb1; clear hL b1 b2 d1 d2 hb1 c0 hW1))
  obtain ⟨B0, hz⟩ := HB.out
  have kk := (((kept_set w1 w.heap.size 0 (.slice va n vc)).mono (T := fun k => w.heap.size ≤ k ∧ k < W1.heap.size) (fun k hk => by omega)).trans ((kept_set _ (w.heap.size + 1) 0 (.slice va n vc)).mono (fun k hk => by omega))).trans ((kept_set _ (w.heap.size + 1) 1 (.bool tr)).mono (fun k hk => by omega))
  refine bodyPost_ret (v := .agg #[.slice va n vc, .bool tr]) (by simp [results, Try.results18, go_sem, y0, y1]) rfl ⟨va, vc, rfl, ?_, ?_⟩
  · exact own_low (own_keepB HL.out kk (fun b hb h => by have := (own_ty HL.out hb).1; omega)) B0.size
  · exact below_kept (B0.trans (HB1.out.mono B0.size)) kk (Nat.le_trans B0.size HB1.out.size) (fun k h => h.1)
end Go.Proofs.Ythdgbeaibajkeaa

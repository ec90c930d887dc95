/-
  The document's reader: pages (what they are; the noughts that are laid first).
-/
import Derived.Test.YtbdjghokedfkfaaDoorKd
import Derived.Test.YtbdjghokedfkfaaDoorVa
namespace Go.Proofs.YtbdjghokedfkfaaDoor
open Go.RowKit
set_option linter.unusedVariables false
set_option maxRecDepth 100000

theorem Rq.kept {S : Nat → Prop} {w w' : World} {R : Nat} {a : Option Addr} {n c : Nat} {zs : List Int} {st : RS} {q : Int × Int × Int} (h : Rq w R a n c zs st q) (hk : Kept S w w') (hR : ¬ S R) (hb : ∀ b off, a = some ⟨b, off, none⟩ → 0 < n → ¬ S b) : Rq w' R a n c zs st q := by
  refine ⟨h.rl, (hk.block R (nb_lt h.blk) hR).trans h.blk, ?_, h.ne, h.rg⟩
  obtain ⟨g1, g2, g3, g4, g5⟩ := h.seg
  refine ⟨g1, g2, g3, g4, ?_⟩
  by_cases h0 : n = 0
  · exact .inl h0
  · obtain ⟨b, off, he, hc⟩ := g5.resolve_left h0
    exact .inr ⟨b, off, he, fun j hj => hk.cell (hc j hj) (hb b off he (by omega))⟩
theorem Rq.low {w : World} {R : Nat} {a : Option Addr} {n c : Nat} {zs : List Int} {st : RS} {q : Int × Int × Int} (h : Rq w R a n c zs st q) : ∀ b off, a = some ⟨b, off, none⟩ → 0 < n → b < w.heap.size := fun b off e hn => by
  obtain ⟨b', off', e', hc⟩ := h.seg.2.2.2.2.resolve_left (by omega)
  rw [e] at e'
  have := hc 0 hn
  have hb := block_lt_of_cell this
  simp at e' hb
  omega
/-- Pages of the call's own. -/
structure PgO (base : Nat) (w : World) (v : Value) (bl : List Nat) (ps : List (List Int)) : Prop where
  own : w.ownsRow base 31 1 v bl.length (bl.map slP)
  len : bl.length = ps.length
  el : ∀ (j : Nat) b l, bl[j]? = some b → ps[j]? = some l → w.heap[b]? = some (.cells (byV l) 5)
  lo : ∀ b ∈ bl, base ≤ b ∧ b < w.heap.size
  asc : bl.Pairwise (· < ·)
theorem PgO.nil (base : Nat) (w : World) : PgO base w (.slice none 0 0) [] [] := ⟨World.ownsRow_nil _ _ _ _, rfl, fun j b l h => (by simp at h), fun b h => (by cases h), List.Pairwise.nil⟩
theorem PgO.ne {base : Nat} {w : World} {v : Value} {bl : List Nat} {ps : List (List Int)} (h : PgO base w v bl ps) {b : Nat} (hb : b ∈ bl) : v.ownBlock ≠ some b := fun hv => by
  obtain ⟨_, _, cur, hc⟩ := own_ty h.own hv
  obtain ⟨j, hj⟩ := List.getElem?_of_mem hb
  have hjl := lt_of_get hj
  obtain ⟨l, hl⟩ : ∃ l, ps[j]? = some l := ⟨_, List.getElem?_eq_getElem (by have := h.len; omega)⟩
  have := h.el j b l hj hl
  rw [hc] at this
  injection this with this
  injection this with _ this
  exact absurd this (by decide)
theorem PgO.kept {S : Nat → Prop} {base : Nat} {w w' : World} {v : Value} {bl : List Nat} {ps : List (List Int)} (h : PgO base w v bl ps) (hk : Kept S w w') (hs : ∀ b, base ≤ b → b < w.heap.size → ¬ S b) : PgO base w' v bl ps := by
  refine ⟨own_keepB h.own hk (fun b hb => by have := own_ty h.own hb; exact hs b this.1 this.2.1), h.len, fun j b l hb hl => ?_, fun b hb => ⟨(h.lo b hb).1, Nat.lt_of_lt_of_le (h.lo b hb).2 hk.size⟩, h.asc⟩
  have hm := h.lo b (List.mem_of_getElem? hb)
  exact (hk.block b hm.2 (hs b hm.1 hm.2)).trans (h.el j b l hb hl)
/-- One page more. -/
theorem PgO.snoc {base : Nat} {w w5 : World} {v v' : Value} {bl : List Nat} {ps : List (List Int)} {z : List Int} (h : PgO base w v bl ps) (hb : base ≤ w.heap.size) (o : Obj) (hown : w5.ownsRow base 31 1 v' (bl.length + 1) (bl.map slP ++ [slP w.heap.size])) (hg : ((w.alloc (.cells (byV z) 5)).alloc o).grownBy w5 v.ownBlock) : PgO base w5 v' (bl ++ [w.heap.size]) (ps ++ [z]) := by
  have b1 := below_new w (.cells (byV z) 5)
  have b2 := b1.trans ((below_new (w.alloc (.cells (byV z) 5)) o).mono b1.size)
  have hk := Kept.of_grown hg
  have kz : ((w.alloc (.cells (byV z) 5)).alloc o).heap[w.heap.size]? = some (.cells (byV z) 5) := nb_later (below_new _ _) (nb_new _ _)
  have hvl : v.ownBlock ≠ some w.heap.size := fun hv => by have := (own_ty h.own hv).2.1; omega
  have kz5 : w5.heap[w.heap.size]? = some (.cells (byV z) 5) := (hk.block _ (nb_lt kz) (fun e => hvl e.symm)).trans kz
  refine ⟨by rw [List.length_append, List.map_append]; exact hown, by simp [h.len], fun j b l hj hl => ?_, fun b hm => ?_, ?_⟩
  · by_cases hjb : j < bl.length
    · rw [List.getElem?_append_left hjb] at hj
      rw [List.getElem?_append_left (by have := h.len; omega)] at hl
      have hm := List.mem_of_getElem? hj
      have e1 := nb_later b2 (h.el j b l hj hl)
      exact (hk.block b (nb_lt e1) (fun e => h.ne hm e.symm)).trans e1
    · have hjj : j = bl.length := by have := lt_of_get hj; simp at this; omega
      subst hjj
      rw [List.getElem?_append_right (Nat.le_refl _)] at hj
      rw [h.len, List.getElem?_append_right (Nat.le_refl _)] at hl
      simp at hj hl
      subst hj hl
      exact kz5
  · rcases List.mem_append.1 hm with hm | hm
    · exact ⟨(h.lo b hm).1, Nat.lt_of_lt_of_le (h.lo b hm).2 (Nat.le_trans b2.size hk.size)⟩
    · obtain rfl : b = w.heap.size := by simpa using hm
      exact ⟨hb, nb_lt kz5⟩
  · rw [List.pairwise_append]
    refine ⟨h.asc, List.pairwise_singleton _ _, fun x hx y hy => ?_⟩
    obtain rfl : y = w.heap.size := by simpa using hy
    exact (h.lo x hx).2
/-- The pages' answer. -/
def PgsA (R : Nat) (a : Option Addr) (n c : Nat) (zs : List Int) (p : List (List Int) × RS) (w : World) : Ending → World → Prop := fun e w' => ∃ v q', e = .returned v ∧ (∃ va vn vc, v = .slice va vn vc) ∧ (p.2.2 = 0 → ∃ bl, PgO w.heap.size w' v bl p.1) ∧ Rq w' R a n c zs p.2 q' ∧ Kept (fun k => k = R) w w'
theorem made_page {Z : List Int} (hZ : Hid (Z = Zp)) (W : World) : (Instr.makeSlice 31 (.int .i64 4096) (.int .i64 4096)).run Tryd.prog W = .ok (.slice (some ⟨W.heap.size, 0, none⟩) 4096 4096) (W.alloc (.cells (byV Z) 5)) := by
  have := run_make_row' (P := Tryd.prog) 31 5 (.int .u8 0) 1 Tryd.underlying31 Tryd.info5 rfl .i64 .i64 4096 (by omega) (by omega) W
  have e : madeCells #[Value.int .u8 0] 4096 = byV Z := by
    apply Array.ext'
    rw [toList_madeCells_one, hZ.out]
    unfold byV Zp
    simp
  rw [e] at this
  exact this
theorem pg_stuck {zs : List Int} {st : RS} (h : st.2 ≠ 0) : pgR zs st = st := by
  unfold pgR tkR
  rw [if_neg h]
theorem pn_stuck {zs : List Int} {least count : Int} {st : RS} (h : st.2 ≠ 0) : pnR zs least count st = (0, st) := by
  unfold pnR tkR
  rw [if_neg h]
theorem pgI_stuck {zs : List Int} {n : Int} {x : List (List Int) × Int × RS} {k : Nat} (h : (pgI zs n k x).2.2.2 ≠ 0) : ∀ j, (pgI zs n (k + j) x).2.2 = (pgI zs n k x).2.2
  | 0 => rfl
  | j + 1 => by
    have ih := pgI_stuck h j
    show pgR zs (pnR zs (pgI zs n (k + j) x).2.1 n (pgI zs n (k + j) x).2.2).2 = _
    rw [ih, pn_stuck h]
    exact pg_stuck h
theorem pgsA_mk {R : Nat} {a : Option Addr} {n c : Nat} {zs : List Int} {p : List (List Int) × RS} {w w' : World} {e : Ending} {va : Option Addr} {vn vc : Nat} {q' : Int × Int × Int} (he : e = .returned (.slice va vn vc)) (h1 : p.2.2 = 0 → ∃ bl, PgO w.heap.size w' (.slice va vn vc) bl p.1) (h2 : Rq w' R a n c zs p.2 q') (h3 : Kept (fun k => k = R) w w') : PgsA R a n c zs p w e w' := ⟨_, q', he, ⟨_, _, _, rfl⟩, h1, h2, h3⟩
theorem nm_full {zs : List Int} (hz : ∀ z ∈ zs, 0 ≤ z ∧ z ≤ 255) {p0 v nx f : Int} (hY : ruAt zs p0 = (v, nx, f)) (x : Int) : nmR zs 18446744073709551615 x (p0, 0) = if f = 0 then (v, (nx, 0)) else (0, (p0, f)) := by
  have hr := (ruAt_range zs p0 hz).2.1
  rw [hY] at hr
  simp only at hr
  have h1 : nmE zs 18446744073709551615 x p0 = f := by
    unfold nmE
    rw [hY]
    simp only
    rw [if_neg (by omega)]
  have h2 : nmR zs 18446744073709551615 x (p0, 0) = tkR v nx f (p0, 0) := by
    unfold nmR
    simp only
    rw [h1, hY]
  rw [h2]
  unfold tkR
  by_cases hf : f = 0
  · simp [hf]
  · simp [hf]
/-- A page's step where its number is refused. -/
theorem pgS_no {zs : List Int} {n least : Int} {ps : List (List Int)} {p0 e : Int} (he : pnE zs least n p0 = e) (h0 : e ≠ 0) : (pgS zs n (ps, least, (p0, 0))).2.2 = (p0, e) := by
  show pgR zs (pnR zs least n (p0, 0)).2 = (p0, e)
  have : pnR zs least n (p0, 0) = (0, (p0, e)) := by simp [pnR, tkR, he, h0]
  rw [this]
  exact pg_stuck h0
/-- A page's step where its number is taken. -/
theorem pgS_yes {zs : List Int} {n least : Int} {ps : List (List Int)} {p0 : Int} (he : pnE zs least n p0 = 0) : pgS zs n (ps, least, (p0, 0)) = (ps.set (ruAt zs p0).1.toNat (pgL zs (ruAt zs p0).2.1.toNat), (ruAt zs p0).1 + 1, pgR zs ((ruAt zs p0).2.1, 0)) := by
  have : pnR zs least n (p0, 0) = ((ruAt zs p0).1, ((ruAt zs p0).2.1, 0)) := by simp [pnR, tkR, he]
  unfold pgS
  simp only
  rw [this]
theorem pgS_end {zs : List Int} {n least : Int} {ps : List (List Int)} {p0 v : Int} {nx : Nat} (he : pnE zs least n p0 = 0) (hY : ruAt zs p0 = (v, (nx : Int), 0)) (hl : zs.length < nx + 4096) : (pgS zs n (ps, least, (p0, 0))).2.2 = ((nx : Int), 10) := by
  rw [pgS_yes he, hY]
  show pgR zs ((nx : Int), 0) = _
  have hx : pgX zs nx = 10 := by
    unfold pgX
    have := pgT_len zs nx
    have h2 : Nat.min (zs.length - nx) 4096 ≤ zs.length - nx := Nat.min_le_left _ _
    rw [if_pos (by omega)]
  unfold pgR tkR
  simp [hx]
theorem pgT_full {zs : List Int} {nx : Nat} (hl : nx + 4096 ≤ zs.length) : (pgT zs nx).length = 4096 ∧ pgL zs nx = pgT zs nx := by
  have h := pgT_len zs nx
  have h2 : Nat.min (zs.length - nx) 4096 = 4096 := Nat.min_eq_right (by omega)
  rw [h2] at h
  refine ⟨h, ?_⟩
  unfold pgL
  rw [h, List.drop_eq_nil_of_le (by rw [Zp_len]; exact Nat.le_refl _), List.append_nil]
theorem pgS_zero {zs : List Int} {n least : Int} {ps : List (List Int)} {p0 v : Int} {nx : Nat} (he : pnE zs least n p0 = 0) (hY : ruAt zs p0 = (v, (nx : Int), 0)) (hl : nx + 4096 ≤ zs.length) (hz : pgT zs nx = Zp) : (pgS zs n (ps, least, (p0, 0))).2.2 = ((nx : Int), 12) := by
  rw [pgS_yes he, hY]
  show pgR zs ((nx : Int), 0) = _
  have hf := pgT_full hl
  have hx : pgX zs nx = 12 := by
    unfold pgX
    rw [if_neg (by omega), hf.2, if_pos hz]
  unfold pgR tkR
  simp [hx]
theorem pgS_ok {zs : List Int} {n least : Int} {ps : List (List Int)} {p0 : Int} {v nx : Nat} (he : pnE zs least n p0 = 0) (hY : ruAt zs p0 = ((v : Int), (nx : Int), 0)) (hl : nx + 4096 ≤ zs.length) (hz : pgT zs nx ≠ Zp) : pgS zs n (ps, least, (p0, 0)) = (ps.set v (pgT zs nx), (v : Int) + 1, ((nx : Int) + 4096, 0)) := by
  rw [pgS_yes he, hY]
  have hf := pgT_full hl
  have hx : pgX zs nx = 0 := by
    unfold pgX
    rw [if_neg (by omega), hf.2, if_neg hz]
  have hr : pgR zs ((nx : Int), 0) = ((nx : Int) + 4096, 0) := by
    unfold pgR tkR
    simp [hx, hf.1]
  simp only
  rw [hr, Int.toNat_natCast, Int.toNat_natCast, hf.2]
theorem w16 (q n : Nat) (h : n ≤ 1099511627776) (h2 : q + 4096 ≤ n) : IntKind.i64.wrap ((q : Int) + 4096) = (q : Int) + 4096 := by
  rw [IntKind.wrap_i64]
  omega
/-- Bytes from p up to q. -/
theorem ex_s8b {ρ : Operand → Value} {o : Oper} (x lo hi : Operand) (ho : o.op = .slice 31 x (some lo) (some hi) none) (b off n c p : Nat) (hx : ρ x = .slice (some ⟨b, off, none⟩) n c) (hl : ρ lo = .int .i64 (p : Int)) (hh : ρ hi = .int .i64 ((p : Int) + 4096)) (hp : p + 4096 ≤ n) (hnc : n ≤ c) (w : World) :
    (execOp ρ o).run Tryd.prog w = .ok (.value (.slice (some ⟨b, off + p, none⟩) 4096 (c - p))) w := by
  have hu : Tryd.prog.underlying 31 = some (.slice (Tryd.prog.elem 31)) := by kernel_rfl
  have hz : (sizeOf (Tryd.prog.elem 31)).run Tryd.prog w = .ok 1 w := by kernel_rfl
  have h := run_slice_lh w 31 (some ⟨b, off, none⟩) n c hu .i64 .i64 (p : Int) ((p : Int) + 4096) (by omega) (by omega) (by omega)
  simp only [execOp, ho, hx, hl, hh, Option.map_some, Option.map_none, Sem.run_bind]
  rw [run_sliceAt_slice w 31 _ _ _ _ hu, h, hz]
  have e1 : ((p : Int) + 4096).toNat = p + 4096 := by omega
  have e2 : (⟨b, off, none⟩ : Addr).add (p * 1) = ⟨b, off + p, none⟩ := by unfold Addr.add; split <;> simp_all
  simp only [Result.andThen, sliced, Int.toNat_natCast, e1]
  rw [if_neg (by omega), show p + 4096 - p = 4096 by omega]
  simp only [Option.map_some, e2]
  rfl
/-- A page is copied over a page. -/
theorem ex_cpW {ρ : Operand → Value} {o : Oper} (d s : Operand) (ho : o.op = Op.call { callee := Callee.builtin Builtin.copy, args := #[d, s], argTypes := #[31, 31] }) (W : World) (B : Nat) (l0 l : List Int) (h0 : l0.length = 4096) (h1 : l.length = 4096) (hB : W.heap[B]? = some (.cells (byV l0) 5))
    (hd : ρ d = .slice (some ⟨B, 0, none⟩) 4096 4096) (b off c : Nat) (hs : ρ s = .slice (some ⟨b, off, none⟩) 4096 c) (hS : SI .u8 W (some ⟨b, off, none⟩) 4096 l) :
    (execOp ρ o).run Tryd.prog W = .ok (.value (.int .i64 4096)) (W.setRow B (byV l)) := by
  obtain ⟨b', off', e', hc⟩ := hS.2.resolve_left (by omega)
  cases e'
  have hzs : (byV l0).size = 4096 := by simp [byV, h0]
  have h := ex_cp (ρ := ρ) d s ho B 0 4096 4096 hd ⟨b, off, none⟩ 4096 c hs (byV l0) 5 (l.map (Value.int .u8)) W hB (by rw [List.length_map, h1]; rfl)
    (fun j v hv => by
      rw [List.getElem?_map, Option.map_eq_some_iff] at hv
      obtain ⟨x, hx, rfl⟩ := hv
      have e : (⟨b, off, none⟩ : Addr).add j = ⟨b, off + j, none⟩ := by unfold Addr.add; split <;> simp_all
      rw [e]
      exact hc j x hx) (by rw [hzs, List.length_map]; omega) (ints_one _)
  rw [h, List.length_map, h1]
  have e1 : ((byV l0).toList.take 0 ++ l.map (Value.int .u8) ++ (byV l0).toList.drop (0 + 4096)).toArray = byV l := by
    unfold byV
    simp [h0]
  rw [e1]
  rfl
/-- One page of the call's own is written. -/
theorem PgO.put {base : Nat} {w : World} {v : Value} {bl : List Nat} {ps : List (List Int)} (h : PgO base w v bl ps) {V bV : Nat} {l0 : List Int} (hb : bl[V]? = some bV) (hl : ps[V]? = some l0) (z : List Int) : PgO base (w.setRow bV (byV z)) v bl (ps.set V z) := by
  have hB := h.el V bV l0 hb hl
  have kk := set_row_kept (c' := byV z) hB
  have hm := List.mem_of_getElem? hb
  refine ⟨own_keepB h.own kk (fun q hq e => h.ne hm (by rw [← e]; exact hq)), by rw [List.length_set]; exact h.len, fun j b l hj hjl => ?_, fun b hb' => ⟨(h.lo b hb').1, Nat.lt_of_lt_of_le (h.lo b hb').2 kk.size⟩, h.asc⟩
  rw [List.getElem?_set] at hjl
  by_cases hjV : V = j
  · subst hjV
    rw [if_pos rfl, if_pos (lt_of_get hl)] at hjl
    rw [hb] at hj
    cases hj
    cases hjl
    exact set_row_blk hB
  · rw [if_neg hjV] at hjl
    have e1 := h.el j b l hj hjl
    refine (kk.block b (nb_lt e1) (fun e => ?_)).trans e1
    have hp := List.pairwise_iff_getElem.1 h.asc
    have hV := lt_of_get hb
    have hJ := lt_of_get hj
    rw [List.getElem?_eq_getElem hV] at hb
    rw [List.getElem?_eq_getElem hJ] at hj
    injection hb with hb
    injection hj with hj
    rcases Nat.lt_or_gt_of_ne hjV with g | g
    · have := hp V j hV hJ g
      omega
    · have := hp j V hJ hV g
      omega
theorem Rq.at_ {w : World} {R : Nat} {a : Option Addr} {n c : Nat} {zs : List Int} {p p' e b : Int} (h : Rq w R a n c zs (p, 0) (p, 0, b)) (hp : 0 ≤ p' ∧ p' ≤ zs.length) : Rq (w.setCell ⟨R, 1, none⟩ (.int .i64 p')) R a n c zs (p', 0) (p', 0, b) := ⟨.inl ⟨rfl, rfl, rfl⟩, blk_set h.blk, seg_put h.seg h.ne, h.ne, fun _ => hp⟩
set_option maxHeartbeats 16000000 in
theorem rpgs59 (R : Nat) (a : Option Addr) (n c : Nat) (zs : List Int) (st : RS) (q : Int × Int × Int) (w : World) (h : Rq w R a n c zs st q) :
    Calls Tryd.prog 59 #[.pointer (some ⟨R, 0, none⟩)] w (PgsA R a n c zs (pgsR zs st) w) := by
  have hz := h.seg.2.2.2.1
  have HZ0 := hid hz
  have hl := nmR_le (st := st) hz (by decide : (20 : Int) ≠ 0) (by omega : (0 : Int) ≤ 64)
  have HN := hid (rnum57 R a n c zs st q 64 20 w h (.inl (by decide)))
  have e : pgsR zs st = ((pgI zs (nmR zs 64 20 st).1 (nmR zs (nmR zs 64 20 st).1 20 (nmR zs 64 20 st).2).1.toNat (List.replicate (nmR zs 64 20 st).1.toNat Zp, 0, (nmR zs (nmR zs 64 20 st).1 20 (nmR zs 64 20 st).2).2)).1, (pgI zs (nmR zs 64 20 st).1 (nmR zs (nmR zs 64 20 st).1 20 (nmR zs 64 20 st).2).1.toNat (List.replicate (nmR zs 64 20 st).1.toNat Zp, 0, (nmR zs (nmR zs 64 20 st).1 20 (nmR zs 64 20 st).2).2)).2.2) := rfl
  rw [e]
  have hRl := nb_lt h.blk
  have HLO := hid h.low
  obtain ⟨Z, hZ⟩ : ∃ Z, Z = Zp := ⟨_, rfl⟩
  rw [← hZ]
  have HZ := hid hZ
  clear e h hz hZ
  generalize nmR zs 64 20 st = p at *
  obtain ⟨V, st1⟩ := p
  dsimp only at *
  obtain ⟨N, rfl⟩ := Int.eq_ofNat_of_zero_le hl.1
  rw [Int.toNat_natCast]
  have hN : N ≤ 64 := by omega
  obtain ⟨i0, hi0, hz0, hz1, hz2⟩ := info_parts Tryd.infBytes
  have HMK := hid (fun (W : World) => made_page HZ W)
  clear hl
  go_enter Tryd.func59, Tryd.ntmps59
  go_wp2_with fail
  refine HN.out.mono ?_
  rintro e w1 ⟨q1, rfl, h1, k1⟩
  have R1 := hid (show ∃ q, Rq w1 R a n c zs st1 q from ⟨q1, h1⟩)
  have K1 := hid k1
  have P1 := hid (show ∃ bl, PgO w.heap.size w1 (.slice none 0 0) bl (List.replicate 0 Z) from ⟨[], PgO.nil _ _⟩)
  clear h1 k1 HN
  go_wp2_with fail
  go_loopw [3, 5] (fun l i wr => ∃ k : Nat, k ≤ N ∧ i = .int .u64 k ∧ Hid (∃ q, Rq wr R a n c zs st1 q) ∧ Hid (∃ bl, PgO w.heap.size wr l bl (List.replicate k Z)) ∧ Hid (Kept (fun k => k = R) w wr)) (fun _ i _ => N - (intOf i).toNat)
  case atStart => exact ⟨0, by omega, rfl, R1, P1, K1⟩
  clear R1 K1 P1
  case round =>
    obtain ⟨k, hk, rfl, RW, PW, KW⟩ := hrel
    obtain ⟨q2, hq2⟩ := RW.out
    obtain ⟨bl, hpg⟩ := PW.out
    by_cases hlt : k < N
    · have hlt' : (k : Int) < (N : Int) := by omega
      have hbl : bl.length = k := by rw [hpg.len]; simp
      have hmk := HMK.out wr
      have HPG := hid hpg
      have HQ := hid hq2
      have hws := KW.out.size
      have b2 := below_new wr (.cells (byV Z) 5)
      have b3 := b2.trans ((below_new (wr.alloc (.cells (byV Z) 5)) (.cells #[slP wr.heap.size] 31)).mono b2.size)
      have B3 := hid b3
      have O3 := hid (own_keepB hpg.own (kept_of (S := fun _ => False) b3) (fun _ _ h => h))
      have HU := hid (one_cell (wr.alloc (.cells (byV Z) 5)) (wr.heap.size + 1) (slP wr.heap.size) 31 (by simp))
      have hs3 : ((wr.alloc (.cells (byV Z) 5)).alloc (.cells #[slP wr.heap.size] 31)).heap.size = wr.heap.size + 2 := by simp
      have hs2 : (wr.alloc (.cells (byV Z) 5)).heap.size = wr.heap.size + 1 := by simp
      obtain ⟨ua, uc, hu⟩ := own_sl hpg.own
      rw [hbl] at hu O3
      subst hu
      clear b2 b3 hpg hq2 RW PW HMK
      go_wp2_with (first | (at_builtin; refine wpList_append_own _ rfl (.tmp 18) (.tmp 20) 24 rfl w.heap.size 31 i0 (.slice none 0 0) 1 24 Tryd.underlying24 hi0 hz0 hz1 hz2 rfl (by decide) _ k _ rfl O3.out ⟨wr.heap.size + 1, 0, none⟩ 1 1 [slP wr.heap.size] rfl rfl HU.out (by intro u hu; simp at hu; subst hu; rfl) (by unfold maxLen; omega) (by omega) (Nat.le_trans hws B3.out.size) ?_; intro v' w5 hown hg hdrop; clear hdrop; have HO := hid hown; have HG := hid hg; clear hown hg))
      have hk5 := Kept.of_grown HG.out
      have hnS : ∀ b, b < w.heap.size → ¬ (some b = (Value.slice ua k uc).ownBlock) := fun b hb e => by
        have := (own_ty HPG.out.own (show (Value.slice ua k uc).ownBlock = some b from e.symm)).1
        omega
      have R5 := hid ((HQ.out.later B3.out).kept hk5 (hnS R hRl) (fun b off he hn => hnS b (HLO.out b off he hn)))
      have P5 := hid (HPG.out.snoc (z := Z) (by omega) (.cells #[slP wr.heap.size] 31) (by rw [hbl]; exact HO.out) HG.out)
      have K5 := hid ((KW.out.trans (kept_of (S := fun k => k = R) B3.out)).then hk5 (fun b hb hS => absurd hS (hnS b hb)))
      exact ⟨⟨k + 1, by omega, by go_num, hid ⟨q2, R5.out⟩, hid ⟨_, by rw [List.replicate_succ']; exact P5.out⟩, K5⟩, by simp [intOf]; omega⟩
    · have hlt' : ¬ (k : Int) < (N : Int) := by omega
      obtain rfl : k = N := by omega
      have hbl : bl.length = k := by rw [hpg.len]; simp
      have hl2 := nmR_le (st := st1) (most := (k : Int)) HZ0.out (by decide : (20 : Int) ≠ 0) (by omega)
      have HN2 := hid (rnum57 R a n c zs st1 q2 (k : Int) 20 wr hq2 (.inl (by decide)))
      generalize nmR zs (k : Int) 20 st1 = p at *
      obtain ⟨V, st2⟩ := p
      dsimp only at *
      obtain ⟨M, rfl⟩ := Int.eq_ofNat_of_zero_le hl2.1
      rw [Int.toNat_natCast]
      have hM : M ≤ k := by omega
      obtain ⟨ua, uc, hu⟩ := own_sl hpg.own
      rw [hbl] at hu
      subst hu
      have HPG := hid hpg
      have hws := KW.out.size
      clear hl2 hpg hq2 RW PW HMK
      go_wp2_with fail
      refine HN2.out.mono ?_
      rintro e w2 ⟨q3, rfl, h3, k3⟩
      have R3 := hid (show ∃ q, Rq w2 R a n c zs (pgI zs k 0 (List.replicate k Z, 0, st2)).2.2 q from ⟨q3, h3⟩)
      have K3 := hid (KW.out.trans k3)
      have P3 := hid (show (pgI zs k 0 (List.replicate k Z, 0, st2)).2.2.2 = 0 → PgO w.heap.size w2 (.slice ua k uc) bl (pgI zs k 0 (List.replicate k Z, 0, st2)).1 ∧ Value.int .i64 (-1) = .int .i64 ((pgI zs k 0 (List.replicate k Z, 0, st2)).2.1 - 1) from fun _ => ⟨HPG.out.kept k3 (fun b h1 h2 h3 => by omega), rfl⟩)
      clear h3 k3 HN2 HPG KW
      go_wp2_with fail
      generalize wr = w9 at *
      go_loopw [7, 8] (fun la i wr => ∃ j : Nat, j ≤ M ∧ i = .int .u64 j ∧ Hid (∃ q, Rq wr R a n c zs (pgI zs k j (List.replicate k Z, 0, st2)).2.2 q) ∧ Hid ((pgI zs k j (List.replicate k Z, 0, st2)).2.2.2 = 0 → PgO w.heap.size wr (.slice ua k uc) bl (pgI zs k j (List.replicate k Z, 0, st2)).1 ∧ la = .int .i64 ((pgI zs k j (List.replicate k Z, 0, st2)).2.1 - 1)) ∧ Hid (Kept (fun k => k = R) w wr)) (fun _ i _ => M - (intOf i).toNat)
      case atStart => exact ⟨0, by omega, rfl, R3, P3, K3⟩
      clear R3 P3 K3
      case round =>
        obtain ⟨j, hj, rfl, RW, PW, KW⟩ := hrel
        obtain ⟨q4, hq4⟩ := RW.out
        have y2 : wr.cell? ⟨R, 2, none⟩ = some (.int .i64 q4.2.1) := cell_at hq4.blk
        have y1 : wr.cell? ⟨R, 1, none⟩ = some (.int .i64 q4.1) := cell_at hq4.blk
        by_cases hlt2 : j < M
        · have hlt2' : (j : Int) < (M : Int) := by omega
          by_cases hs : (pgI zs k j (List.replicate k Z, 0, st2)).2.2.2 = 0
          · have hq0 : q4.2.1 = 0 ∧ q4.1 = (pgI zs k j (List.replicate k Z, 0, st2)).2.2.1 := by
              rcases hq4.rl with ⟨_, h1, h2⟩ | ⟨h1, _⟩
              · exact ⟨h1, h2⟩
              · exact absurd hs h1
            obtain ⟨hpg, hla⟩ := PW.out hs
            subst hla
            rw [hq0.1] at y2
            have HN3 := hid (rnum57 R a n c zs _ q4 18446744073709551615 17 wr hq4 (.inr rfl))
            have e1 : pgI zs k (j + 1) (List.replicate k Z, 0, st2) = pgS zs k (pgI zs k j (List.replicate k Z, 0, st2)) := rfl
            have HE1 := hid e1
            have HPG := hid hpg
            have HAL := hid (pgI_all zs k (List.replicate k Z, 0, st2) (fun l hl => by rw [List.eq_of_mem_replicate hl]; exact zl_len HZ) j)
            have hrg := hq4.rg hs
            obtain ⟨q4a, q4e, q4b⟩ := q4
            simp only at hq0 y1 y2
            obtain ⟨h0a, h0b⟩ := hq0
            subst h0b
            clear e1 hpg hq4 RW PW
            generalize pgI zs k j (List.replicate k Z, 0, st2) = X at *
            obtain ⟨ps, least, p0, e0⟩ := X
            simp only at hs hrg HPG HN3 y1
            subst hs
            obtain ⟨la, hla⟩ : ∃ la, least - 1 = la := ⟨_, rfl⟩
            rw [hla]
            have HLA := hid hla
            clear hla
            have hrr := ruAt_range zs p0 HZ0.out
            obtain ⟨Y, hY⟩ : ∃ Y, ruAt zs p0 = Y := ⟨_, rfl⟩
            have HYE := hid hY
            rw [hY] at hrr
            obtain ⟨v, nx, f⟩ := Y
            simp only at hrr
            have HNM := hid (nm_full HZ0.out hY 17)
            rw [HNM.out] at HN3
            clear hY HNM
            by_cases hf : f = 0
            · subst hf
              rw [if_pos rfl] at HN3
              obtain ⟨hv0, hv1, hn0, hn1, _, _, hn2, _⟩ := hrr
              have hn2 := hn2 rfl
              obtain ⟨V, rfl⟩ := Int.eq_ofNat_of_zero_le hv0
              obtain ⟨nq0, rfl⟩ := Int.eq_ofNat_of_zero_le hn0
              go_wp2_with fail
              refine HN3.out.mono ?_
              rintro e w5 ⟨q5, rfl, h5, k5⟩
              obtain ⟨q5a, q5e, q5b⟩ := q5
              have hq5 : q5e = 0 ∧ q5a = (nq0 : Int) := by
                rcases h5.rl with ⟨_, h1, h2⟩ | ⟨h1, _⟩
                · exact ⟨h1, h2⟩
                · exact absurd rfl h1
              obtain ⟨rfl, rfl⟩ := hq5
              have RX := hid h5
              have KX := hid (KW.out.trans k5)
              have PX := hid (HPG.out.kept k5 (fun b h1 h2 h3 => by omega))
              have x2 : w5.cell? ⟨R, 2, none⟩ = some (.int .i64 0) := cell_at h5.blk
              have x1 : w5.cell? ⟨R, 1, none⟩ = some (.int .i64 (nq0 : Int)) := cell_at h5.blk
              have x0 : w5.cell? ⟨R, 0, none⟩ = some (.slice a n c) := cell_at h5.blk
              have HNO := hid (fun (e p : Int) (he : e ≠ 0) => rno60 R a n c zs (nq0 : Int) q5b e p w5 h5 he)
              have HRG := hid (show 0 ≤ p0 ∧ p0 ≤ (zs.length : Int) ∧ (nq0 : Int) ≤ zs.length from ⟨hrg.1, hrg.2, hn1⟩)
              clear h5 k5 HN3 y1 y2 HPG hrg hn1 hn2 hv0 hv1 hn0
              by_cases hvk : (k : Int) ≤ (V : Int)
              · have HST := hid (show (pgI zs k (j + 1) (List.replicate k Z, 0, st2)).2.2 = (p0, 17) from by
                  rw [HE1.out]
                  exact pgS_no (by unfold pnE; rw [HYE.out]; simp only; rw [if_neg (by simp), if_pos hvk]) (by decide))
                have hE1 : (17 : Int) ≠ 0 := by decide
                have HNO1 := hid (HNO.out 17 p0 (by decide))
                clear HE1 HNO
                go_wp2_with fail
                refine HNO1.out.mono ?_
                rintro e w6 ⟨rfl, h6, k6⟩
                have RY := hid h6
                have KY := hid (KX.out.trans k6)
                clear h6 k6 x0 x1 x2 RX KX PX HNO1
                have x2 : w6.cell? ⟨R, 2, none⟩ = some (.int .i64 (17)) := cell_at RY.out.blk
                go_wp2_with fail
                have d2 := fun m => later_cell (below_drewN w6 m) x2
                have dR := hid (fun m => RY.out.later (below_drewN w6 m))
                have dK := hid (fun m => KY.out.trans (kept_of (S := fun k => k = R) (below_drewN w6 m)))
                go_quiet (fail)
                have x2' := d2 nq
                have RS0 := hid (dR.out nq)
                have KS0 := hid (dK.out nq)
                clear d2 dR dK x2
                have x2 := x2'
                clear x2'
                generalize w6.drewN nq = WS0 at *
                go_wp2_with fail
                have d2 := fun m => later_cell (below_drewN WS0 m) x2
                have dR := hid (fun m => RS0.out.later (below_drewN WS0 m))
                have dK := hid (fun m => KS0.out.trans (kept_of (S := fun k => k = R) (below_drewN WS0 m)))
                go_quiet (fail)
                have x2' := d2 nq
                have RS1 := hid (dR.out nq)
                have KS1 := hid (dK.out nq)
                clear d2 dR dK x2
                have x2 := x2'
                clear x2'
                generalize WS0.drewN nq = WS1 at *
                go_wp2_with fail
                exact ⟨⟨j + 1, by omega, by go_num, by rw [HST.out]; exact hid ⟨_, RS1.out⟩, by rw [HST.out]; exact hid (fun h0 => absurd h0 hE1), KS1⟩, by simp [intOf]; omega⟩
              · have hvk' : (V : Int) < (k : Int) := by omega
                by_cases hvl : (V : Int) < least
                · have HST := hid (show (pgI zs k (j + 1) (List.replicate k Z, 0, st2)).2.2 = (p0, 18) from by
                    rw [HE1.out]
                    exact pgS_no (by unfold pnE; rw [HYE.out]; simp only; rw [if_neg (by simp), if_neg hvk, if_pos hvl]) (by decide))
                  have hle : (V : Int) ≤ la := by have := HLA.out; omega
                  clear hvl
                  have hE1 : (18 : Int) ≠ 0 := by decide
                  clear hvk
                  have HNO1 := hid (HNO.out 18 p0 (by decide))
                  clear HE1 HNO
                  go_wp2_with fail
                  refine HNO1.out.mono ?_
                  rintro e w6 ⟨rfl, h6, k6⟩
                  have RY := hid h6
                  have KY := hid (KX.out.trans k6)
                  clear h6 k6 x0 x1 x2 RX KX PX HNO1
                  have x2 : w6.cell? ⟨R, 2, none⟩ = some (.int .i64 (18)) := cell_at RY.out.blk
                  go_wp2_with fail
                  have d2 := fun m => later_cell (below_drewN w6 m) x2
                  have dR := hid (fun m => RY.out.later (below_drewN w6 m))
                  have dK := hid (fun m => KY.out.trans (kept_of (S := fun k => k = R) (below_drewN w6 m)))
                  go_quiet (fail)
                  have x2' := d2 nq
                  have RS0 := hid (dR.out nq)
                  have KS0 := hid (dK.out nq)
                  clear d2 dR dK x2
                  have x2 := x2'
                  clear x2'
                  generalize w6.drewN nq = WS0 at *
                  go_wp2_with fail
                  have d2 := fun m => later_cell (below_drewN WS0 m) x2
                  have dR := hid (fun m => RS0.out.later (below_drewN WS0 m))
                  have dK := hid (fun m => KS0.out.trans (kept_of (S := fun k => k = R) (below_drewN WS0 m)))
                  go_quiet (fail)
                  have x2' := d2 nq
                  have RS1 := hid (dR.out nq)
                  have KS1 := hid (dK.out nq)
                  clear d2 dR dK x2
                  have x2 := x2'
                  clear x2'
                  generalize WS0.drewN nq = WS1 at *
                  go_wp2_with fail
                  exact ⟨⟨j + 1, by omega, by go_num, by rw [HST.out]; exact hid ⟨_, RS1.out⟩, by rw [HST.out]; exact hid (fun h0 => absurd h0 hE1), KS1⟩, by simp [intOf]; omega⟩
                · have hle : ¬ (V : Int) ≤ la := by have := HLA.out; omega
                  have HPN := hid (show pnE zs least k p0 = 0 from by unfold pnE; rw [HYE.out]; simp only; rw [if_neg (by simp), if_neg hvk, if_neg hvl])
                  have hzl := RX.out.seg.1
                  have hn40 := RX.out.seg.2.2.1
                  clear hvk hvl
                  go_wp2_with fail
                  have d0 := fun m => later_cell (below_drewN w5 m) x0
                  have d1 := fun m => later_cell (below_drewN w5 m) x1
                  have d2 := fun m => later_cell (below_drewN w5 m) x2
                  have dR := hid (fun m => RX.out.later (below_drewN w5 m))
                  have dK := hid (fun m => KX.out.trans (kept_of (S := fun k => k = R) (below_drewN w5 m)))
                  have dP := hid (fun m => PX.out.kept (kept_of (S := fun _ => False) (below_drewN w5 m)) (fun _ _ _ h => h))
                  by_cases hend : zs.length < nq0 + 4096
                  · have hend' : (n : Int) < wrap64 ((nq0 : Int) + 4096) := by have := HRG.out; unfold wrap64; omega
                    have HST := hid (show (pgI zs k (j + 1) (List.replicate k Z, 0, st2)).2.2 = ((nq0 : Int), 10) from by
                      rw [HE1.out]
                      exact pgS_end HPN.out HYE.out hend)
                    have hE1 : (10 : Int) ≠ 0 := by decide
                    clear HE1 HNO hend
                    go_quiet (fail)
                    have x1' := d1 nq
                    have RW6 := hid (dR.out nq)
                    have KW6 := hid (dK.out nq)
                    clear d0 d1 d2 dR dK dP x0 x1 x2
                    generalize w5.drewN nq = W6 at *
                    have HNO1 := hid (rno60 R a n c zs (nq0 : Int) q5b 10 (nq0 : Int) W6 RW6.out (by decide))
                    go_wp2_with fail
                    refine HNO1.out.mono ?_
                    rintro e w7 ⟨rfl, h7, k7⟩
                    have RY := hid h7
                    have KY := hid (KW6.out.trans k7)
                    clear h7 k7 x1' RX KX PX HNO1 RW6 KW6
                    have x2 : w7.cell? ⟨R, 2, none⟩ = some (.int .i64 (10)) := cell_at RY.out.blk
                    go_wp2_with fail
                    have d2 := fun m => later_cell (below_drewN w7 m) x2
                    have dR := hid (fun m => RY.out.later (below_drewN w7 m))
                    have dK := hid (fun m => KY.out.trans (kept_of (S := fun k => k = R) (below_drewN w7 m)))
                    go_quiet (fail)
                    have x2' := d2 nq
                    have RS0 := hid (dR.out nq)
                    have KS0 := hid (dK.out nq)
                    clear d2 dR dK x2
                    have x2 := x2'
                    clear x2'
                    generalize w7.drewN nq = WS0 at *
                    go_wp2_with fail
                    exact ⟨⟨j + 1, by omega, by go_num, by rw [HST.out]; exact hid ⟨_, RS0.out⟩, by rw [HST.out]; exact hid (fun h0 => absurd h0 hE1), KS0⟩, by simp [intOf]; omega⟩
                  · have hend' : (nq0 : Int) + 4096 ≤ (n : Int) := by omega
                    have hfull : nq0 + 4096 ≤ zs.length := by omega
                    go_quiet (fail)
                    have x0' := d0 nq
                    have x1' := d1 nq
                    have x2' := d2 nq
                    have RW6 := hid (dR.out nq)
                    have KW6 := hid (dK.out nq)
                    have PW6 := hid (dP.out nq)
                    clear d0 d1 d2 dR dK dP x0 x1 x2 HNO RX KX PX
                    generalize w5.drewN nq = W6 at *
                    obtain ⟨b, off, ha, hcs⟩ := RW6.out.seg.2.2.2.2.resolve_left (by omega)
                    have hnc := RW6.out.seg.2.1
                    have hpt := pgT_full hfull
                    have HSI := hid (show SI .u8 W6 (some ⟨b, off + nq0, none⟩) 4096 (pgT zs nq0) from ⟨hpt.1, .inr ⟨b, off + nq0, rfl, fun i z hz => by
                      have hi := lt_of_get hz
                      have h1 := hcs (nq0 + i) (by omega)
                      have h2 : zs[nq0 + i]? = some z := by
                        unfold pgT at hz
                        rw [List.getElem?_take, if_pos (by omega), List.getElem?_drop] at hz
                        exact hz
                      rw [List.getD_eq_getElem?_getD, h2, ← Nat.add_assoc] at h1
                      exact h1⟩⟩)
                    have HCS := hid hcs
                    subst ha
                    have HNZ := hid (fun (m c' : Nat) => nou29 (some ⟨b, off + nq0, none⟩) 4096 c' (pgT zs nq0) (W6.drewN m) (HSI.out.later (below_drewN W6 m)) (by omega))
                    rw [allZ_is hpt.1] at HNZ
                    have hcp : ¬ c = nq0 := by omega
                    clear hcs
                    by_cases hz : pgT zs nq0 = Zp
                    · rw [decide_eq_true hz] at HNZ
                      go_wp2_with fail
                      have HST := hid (show (pgI zs k (j + 1) (List.replicate k Z, 0, st2)).2.2 = ((nq0 : Int), 12) from by
                        rw [HE1.out]
                        exact pgS_zero HPN.out HYE.out hfull hz)
                      have hE1 : (12 : Int) ≠ 0 := by decide
                      have d1 := fun m => later_cell (below_drewN W6 m) x1'
                      have dR := hid (fun m => RW6.out.later (below_drewN W6 m))
                      have dK := hid (fun m => KW6.out.trans (kept_of (S := fun k => k = R) (below_drewN W6 m)))
                      clear HE1 hz
                      go_quiet ((go_at_call 29; exact Calls.quiet_of_same (HNZ.out _ _)))
                      have z1 := d1 nq
                      have RW7 := hid (dR.out nq)
                      have KW7 := hid (dK.out nq)
                      clear d1 dR dK x0' x1' x2' RW6 KW6 PW6 HNZ HSI HCS
                      generalize W6.drewN nq = W7 at *
                      have HNO1 := hid (rno60 R (some ⟨b, off, none⟩) n c zs (nq0 : Int) q5b 12 (nq0 : Int) W7 RW7.out (by decide))
                      go_wp2_with fail
                      refine HNO1.out.mono ?_
                      rintro e w8 ⟨rfl, h8, k8⟩
                      have RY := hid h8
                      have KY := hid (KW7.out.trans k8)
                      clear h8 k8 z1 HNO1 RW7 KW7
                      have x2 : w8.cell? ⟨R, 2, none⟩ = some (.int .i64 (12)) := cell_at RY.out.blk
                      go_wp2_with fail
                      exact ⟨⟨j + 1, by omega, by go_num, by rw [HST.out]; exact hid ⟨_, RY.out⟩, by rw [HST.out]; exact hid (fun h0 => absurd h0 hE1), KY⟩, by simp [intOf]; omega⟩
                    · rw [decide_eq_false hz] at HNZ
                      have HSO := hid (show pgI zs k (j + 1) (List.replicate k Z, 0, st2) = (ps.set V (pgT zs nq0), (V : Int) + 1, ((nq0 : Int) + 4096, 0)) from by
                        rw [HE1.out]
                        exact pgS_ok HPN.out HYE.out hfull hz)
                      have d0 := fun m => later_cell (below_drewN W6 m) x0'
                      have d1 := fun m => later_cell (below_drewN W6 m) x1'
                      have d2 := fun m => later_cell (below_drewN W6 m) x2'
                      have dR := hid (fun m => RW6.out.later (below_drewN W6 m))
                      have dK := hid (fun m => KW6.out.trans (kept_of (S := fun k => k = R) (below_drewN W6 m)))
                      have dP := hid (fun m => PW6.out.kept (kept_of (S := fun _ => False) (below_drewN W6 m)) (fun _ _ _ h => h))
                      have dS := hid (fun m => HSI.out.later (below_drewN W6 m))
                      clear HE1 hz
                      go_wp2_with fail
                      go_quiet ((go_at_call 29; exact Calls.quiet_of_same (HNZ.out _ _)))
                      have z0 := d0 nq
                      have z1 := d1 nq
                      have z2 := d2 nq
                      have RW7 := hid (dR.out nq)
                      have KW7 := hid (dK.out nq)
                      have PW7 := hid (dP.out nq)
                      have SI7 := hid (dS.out nq)
                      clear d0 d1 d2 dR dK dP dS x0' x1' x2' RW6 KW6 PW6 HNZ HSI HCS
                      generalize W6.drewN nq = W7 at *
                      go_wp2_with fail
                      have hVk : V < bl.length := by omega
                      obtain ⟨bV, hbV⟩ : ∃ b, bl[V]? = some b := ⟨_, List.getElem?_eq_getElem hVk⟩
                      obtain ⟨l0, hl0⟩ : ∃ l, ps[V]? = some l := ⟨_, List.getElem?_eq_getElem (by have := PW7.out.len; omega)⟩
                      obtain ⟨UB, ucap, hua⟩ : ∃ UB cap, Value.slice ua k uc = .slice (some ⟨UB, 0, none⟩) k cap := by
                        rcases PW7.out.own.2 with ⟨h1, h2⟩ | ⟨g, cp, cur, h1, _⟩
                        · omega
                        · exact ⟨g, cp, by rw [hbl] at h1; exact h1⟩
                      obtain ⟨rfl, _, rfl⟩ := Value.slice.inj hua
                      have hrow : W7.cell? ⟨UB, V, none⟩ = some (slP bV) := by
                        have ho := PW7.out.own
                        rw [hbl] at ho
                        have h1 := World.ownsRow.cellAt ho V (by omega)
                        rw [List.getElem?_map, hbV] at h1
                        exact h1
                      have hl0' : l0.length = 4096 := HAL.out l0 (List.mem_of_getElem? hl0)
                      have hlo := PW7.out.lo bV (List.mem_of_getElem? hbV)
                      have hblk := PW7.out.el V bV l0 hbV hl0
                      have kd : Below W7.heap.size W7 W7.drew := below_drewN W7 1
                      have hS : W7.drew.cell? ⟨UB, V, none⟩ = some (.slice (some ⟨bV, 0, none⟩) 4096 4096) ∧ W7.drew.cell? ⟨R, 0, none⟩ = some (.slice (some ⟨b, off, none⟩) n c) ∧ W7.drew.cell? ⟨R, 1, none⟩ = some (.int .i64 (nq0 : Int)) := ⟨later_cell kd hrow, later_cell kd z0, later_cell kd z1⟩
                      have hpn : nq0 + 4096 ≤ n := by omega
                      have HW16 := hid (w16 nq0 n hn40 hpn)
                      have RD := hid (RW7.out.later kd)
                      have KD := hid (KW7.out.trans (kept_of (S := fun k => k = R) kd))
                      have PD := hid (PW7.out.kept (kept_of (S := fun _ => False) kd) (fun _ _ _ h => h))
                      have SD := hid (SI7.out.later kd)
                      have BD := hid (nb_later kd hblk)
                      have HPT := hid hpt.1
                      have HBV := hid hbV
                      have HL0 := hid hl0
                      have HL1 := hid hl0'
                      have HLOV := hid hlo
                      have HVK := hid hVk
                      clear kd hrow hblk hlo hl0' hl0 hbV hpt z0 z1 z2 RW7 KW7 PW7 SI7 hVk
                      refine wp_region_held_drew (S := fun W => W.cell? ⟨UB, V, none⟩ = some (.slice (some ⟨bV, 0, none⟩) 4096 4096) ∧ W.cell? ⟨R, 0, none⟩ = some (.slice (some ⟨b, off, none⟩) n c) ∧ W.cell? ⟨R, 1, none⟩ = some (.int .i64 (nq0 : Int))) (by kernel_rfl) hS (fun _ => ?_)
                      refine tkH (i := 0) (oi := { dst := some 127, op := Op.move (Operand.tmp 3), type := 24, pos := "ref.go:205", after := #[], guard := none }) (v := .slice (some ⟨UB, 0, none⟩) k uc) rfl ?_
                      try simp only [Act.put, List.setIfInBounds_toArray, List.set_cons_zero, List.set_cons_succ]
                      refine tkH (i := 1) (oi := { dst := some 128, op := Op.move (Operand.tmp 10), type := 63, pos := "ref.go:205", after := #[], guard := none }) (v := .int .u64 (V : Int)) rfl ?_
                      try simp only [Act.put, List.setIfInBounds_toArray, List.set_cons_zero, List.set_cons_succ]
                      refine tkH (i := 2) (oi := { dst := some 129, op := Op.indexAddr 24 (Operand.tmp 127) (Operand.tmp 128), type := 0, pos := "ref.go:205", after := #[{ on := 0, ground := Ground.data }, { on := 1, ground := Ground.data }], guard := none }) (v := .pointer (some ⟨UB, V, none⟩)) rfl ?_
                      try simp only [Act.put, List.setIfInBounds_toArray, List.set_cons_zero, List.set_cons_succ]
                      refine tkH (i := 3) (oi := { dst := some 130, op := Op.load 31 (Operand.tmp 129), type := 31, pos := "ref.go:205", after := #[{ on := 2, ground := Ground.data }], guard := none }) (v := .slice (some ⟨bV, 0, none⟩) 4096 4096) rfl ?_
                      try simp only [Act.put, List.setIfInBounds_toArray, List.set_cons_zero, List.set_cons_succ]
                      refine tkH (i := 4) (oi := { dst := some 131, op := Op.move (Operand.tmp 0), type := 85, pos := "ref.go:205", after := #[], guard := none }) (v := .pointer (some ⟨R, 0, none⟩)) rfl ?_
                      try simp only [Act.put, List.setIfInBounds_toArray, List.set_cons_zero, List.set_cons_succ]
                      refine tkH (i := 5) (oi := { dst := some 132, op := Op.nilCheck (Operand.tmp 131), type := 0, pos := "ref.go:205", after := #[{ on := 4, ground := Ground.data }], guard := none }) (v := .pointer (some ⟨R, 0, none⟩)) rfl ?_
                      try simp only [Act.put, List.setIfInBounds_toArray, List.set_cons_zero, List.set_cons_succ]
                      refine tkH (i := 6) (oi := { dst := some 133, op := Op.fieldAddr 87 (Operand.tmp 132) 0, type := 0, pos := "ref.go:205", after := #[{ on := 5, ground := Ground.data }], guard := none }) (v := .pointer (some ⟨R, 0, none⟩)) rfl ?_
                      try simp only [Act.put, List.setIfInBounds_toArray, List.set_cons_zero, List.set_cons_succ]
                      refine tkH (i := 7) (oi := { dst := some 134, op := Op.load 31 (Operand.tmp 133), type := 31, pos := "ref.go:205", after := #[{ on := 6, ground := Ground.data }], guard := none }) (v := .slice (some ⟨b, off, none⟩) n c) rfl ?_
                      try simp only [Act.put, List.setIfInBounds_toArray, List.set_cons_zero, List.set_cons_succ]
                      refine tkH (i := 8) (oi := { dst := some 135, op := Op.move (Operand.tmp 0), type := 85, pos := "ref.go:205", after := #[], guard := none }) (v := .pointer (some ⟨R, 0, none⟩)) rfl ?_
                      try simp only [Act.put, List.setIfInBounds_toArray, List.set_cons_zero, List.set_cons_succ]
                      refine tkH (i := 9) (oi := { dst := some 136, op := Op.nilCheck (Operand.tmp 135), type := 0, pos := "ref.go:205", after := #[{ on := 8, ground := Ground.data }], guard := none }) (v := .pointer (some ⟨R, 0, none⟩)) rfl ?_
                      try simp only [Act.put, List.setIfInBounds_toArray, List.set_cons_zero, List.set_cons_succ]
                      refine tkH (i := 10) (oi := { dst := some 137, op := Op.fieldAddr 87 (Operand.tmp 136) 1, type := 0, pos := "ref.go:205", after := #[{ on := 9, ground := Ground.data }], guard := none }) (v := .pointer (some ⟨R, 1, none⟩)) rfl ?_
                      try simp only [Act.put, List.setIfInBounds_toArray, List.set_cons_zero, List.set_cons_succ]
                      refine tkH (i := 11) (oi := { dst := some 138, op := Op.load 3 (Operand.tmp 137), type := 3, pos := "ref.go:205", after := #[{ on := 10, ground := Ground.data }], guard := none }) (v := .int .i64 (nq0 : Int)) rfl ?_
                      try simp only [Act.put, List.setIfInBounds_toArray, List.set_cons_zero, List.set_cons_succ]
                      refine tkH (i := 12) (oi := { dst := some 139, op := Op.move (Operand.tmp 0), type := 85, pos := "ref.go:205", after := #[], guard := none }) (v := .pointer (some ⟨R, 0, none⟩)) rfl ?_
                      try simp only [Act.put, List.setIfInBounds_toArray, List.set_cons_zero, List.set_cons_succ]
                      refine tkH (i := 13) (oi := { dst := some 140, op := Op.nilCheck (Operand.tmp 139), type := 0, pos := "ref.go:205", after := #[{ on := 12, ground := Ground.data }], guard := none }) (v := .pointer (some ⟨R, 0, none⟩)) rfl ?_
                      try simp only [Act.put, List.setIfInBounds_toArray, List.set_cons_zero, List.set_cons_succ]
                      refine tkH (i := 14) (oi := { dst := some 141, op := Op.fieldAddr 87 (Operand.tmp 140) 1, type := 0, pos := "ref.go:205", after := #[{ on := 13, ground := Ground.data }], guard := none }) (v := .pointer (some ⟨R, 1, none⟩)) rfl ?_
                      try simp only [Act.put, List.setIfInBounds_toArray, List.set_cons_zero, List.set_cons_succ]
                      refine tkH (i := 15) (oi := { dst := some 142, op := Op.load 3 (Operand.tmp 141), type := 3, pos := "ref.go:205", after := #[{ on := 14, ground := Ground.data }], guard := none }) (v := .int .i64 (nq0 : Int)) rfl ?_
                      try simp only [Act.put, List.setIfInBounds_toArray, List.set_cons_zero, List.set_cons_succ]
                      refine tkH (i := 16) (oi := { dst := some 143, op := Op.binOp BinOp.add 3 (Operand.tmp 142) (Operand.const (Value.int IntKind.i64 4096)) 3, type := 3, pos := "ref.go:205", after := #[{ on := 15, ground := Ground.data }], guard := none }) (v := .int .i64 ((nq0 : Int) + 4096)) rfl ?_ (hv := by intro w h; (try dsimp only at h); go_simp; exact HW16.out)
                      try simp only [Act.put, List.setIfInBounds_toArray, List.set_cons_zero, List.set_cons_succ]
                      refine tkH (i := 17) (oi := { dst := some 144, op := Op.slice 31 (Operand.tmp 134) (some (Operand.tmp 138)) (some (Operand.tmp 143)) none, type := 31, pos := "ref.go:205", after := #[{ on := 7, ground := Ground.data }, { on := 11, ground := Ground.data }, { on := 16, ground := Ground.data }], guard := none }) (v := .slice (some ⟨b, off + nq0, none⟩) 4096 (c - nq0)) rfl ?_ (hv := fun W _ => ex_s8b (.tmp 134) (.tmp 138) (.tmp 143) rfl b off n c nq0 rfl rfl rfl hpn hnc W)
                      try simp only [Act.put, List.setIfInBounds_toArray, List.set_cons_zero, List.set_cons_succ]
                      refine rdY (rs := [18]) ?_
                      refine rdC (i := 18) (o := { dst := some 145, op := Op.call { callee := Callee.builtin Builtin.copy, args := #[Operand.tmp 130, Operand.tmp 144], argTypes := #[31, 31] }, type := 3, pos := "ref.go:205", after := #[{ on := 3, ground := Ground.data }, { on := 17, ground := Ground.data }], guard := none }) rfl (fun K hK => ?_) AllReadyH.nil
                      unfold Oper.wp
                      rw [ex_cpW (.tmp 130) (.tmp 144) rfl W7.drew bV l0 (pgT zs nq0) HL1.out HPT.out BD.out rfl b (off + nq0) (c - nq0) rfl SD.out, Oper.upon_value]
                      have kk := set_row_kept (c' := byV (pgT zs nq0)) BD.out
                      have R8 := hid (RD.out.kept kk (fun e => by have := HLOV.out.1; omega) (fun b1 o1 e hn => fun e2 => by have := HLO.out b1 o1 e hn; have := HLOV.out.1; omega))
                      have K8 := hid (KD.out.then kk (fun q h1 h2 => by have := HLOV.out.1; omega))
                      have P8 := hid (PD.out.put HBV.out HL0.out (pgT zs nq0))
                      have q1 : (W7.drew.setRow bV (byV (pgT zs nq0))).cell? ⟨R, 1, none⟩ = some (.int .i64 (nq0 : Int)) := cell_at R8.out.blk
                      have f1 : (W7.drew.setRow bV (byV (pgT zs nq0))).frozen? ⟨R, 1, none⟩ = false := frzB R8.out.blk
                      have hS1 : (W7.drew.setRow bV (byV (pgT zs nq0))).cell? ⟨UB, V, none⟩ = some (.slice (some ⟨bV, 0, none⟩) 4096 4096) ∧ (W7.drew.setRow bV (byV (pgT zs nq0))).cell? ⟨R, 0, none⟩ = some (.slice (some ⟨b, off, none⟩) n c) ∧ (W7.drew.setRow bV (byV (pgT zs nq0))).cell? ⟨R, 1, none⟩ = some (.int .i64 (nq0 : Int)) := ⟨kk.cell hS.1 (fun e => PD.out.ne (List.mem_of_getElem? HBV.out) (by rw [← e]; rfl)), cell_at R8.out.blk, q1⟩
                      refine hK.out _ _ hS1 (fun _ => ?_)
                      clear hK K hS hS1 kk RD KD PD SD BD
                      generalize W7.drew.setRow bV (byV (pgT zs nq0)) = W8 at *
                      refine wpAnyH_done (by kernel_rfl) ?_ _
                      have R9 := hid (R8.out.at_ (p' := (nq0 : Int) + 4096) (e := 0) (by omega))
                      have K9 := hid (K8.out.trans (kept_put (w := W8) (B := R) (i := 1) (v := .int .i64 ((nq0 : Int) + 4096))))
                      have P9 := hid (P8.out.kept (kept_put (w := W8) (B := R) (i := 1) (v := .int .i64 ((nq0 : Int) + 4096))) (fun b h1 h2 h3 => by omega))
                      clear R8 K8 P8
                      go_wp2_with fail
                      have z2 : (W8.setCell ⟨R, 1, none⟩ (.int .i64 ((nq0 : Int) + 4096))).cell? ⟨R, 2, none⟩ = some (.int .i64 0) := cell_at R9.out.blk
                      generalize W8.setCell ⟨R, 1, none⟩ (.int .i64 ((nq0 : Int) + 4096)) = W9 at *
                      go_wp2_with fail
                      exact ⟨⟨j + 1, by omega, by go_num, by rw [HSO.out]; exact hid ⟨_, R9.out⟩, by rw [HSO.out]; exact hid (fun _ => ⟨P9.out, by simp⟩), K9⟩, by simp [intOf]; omega⟩
            · rw [if_neg hf] at HN3
              have HST := hid (show (pgI zs k (j + 1) (List.replicate k Z, 0, st2)).2.2 = (p0, f) from by
                rw [HE1.out]
                exact pgS_no (by unfold pnE; rw [HYE.out]; simp only; rw [if_pos hf]) hf)
              have hE0 : (f == 0) = false := by simp [hf]
              have hE1 := hf
              clear HE1 HPG hrr
              go_wp2_with fail
              refine HN3.out.mono ?_
              rintro e w5 ⟨q5, rfl, h5, k5⟩
              obtain ⟨q5a, q5e, q5b⟩ := q5
              have hq5 : q5e = f := by
                rcases h5.rl with ⟨h1, _⟩ | ⟨_, h1, _⟩
                · exact absurd h1 hf
                · exact h1
              subst hq5
              have RX := hid h5
              have KX := hid (KW.out.trans k5)
              clear h5 k5 HN3 y1 y2
              have x2 : w5.cell? ⟨R, 2, none⟩ = some (.int .i64 (q5e)) := cell_at RX.out.blk
              go_wp2_with fail
              have d2 := fun m => later_cell (below_drewN w5 m) x2
              have dR := hid (fun m => RX.out.later (below_drewN w5 m))
              have dK := hid (fun m => KX.out.trans (kept_of (S := fun k => k = R) (below_drewN w5 m)))
              go_quiet (fail)
              have x2' := d2 nq
              have RS0 := hid (dR.out nq)
              have KS0 := hid (dK.out nq)
              clear d2 dR dK x2
              have x2 := x2'
              clear x2'
              generalize w5.drewN nq = WS0 at *
              go_wp2_with fail
              have d2 := fun m => later_cell (below_drewN WS0 m) x2
              have dR := hid (fun m => RS0.out.later (below_drewN WS0 m))
              have dK := hid (fun m => KS0.out.trans (kept_of (S := fun k => k = R) (below_drewN WS0 m)))
              go_quiet (fail)
              have x2' := d2 nq
              have RS1 := hid (dR.out nq)
              have KS1 := hid (dK.out nq)
              clear d2 dR dK x2
              have x2 := x2'
              clear x2'
              generalize WS0.drewN nq = WS1 at *
              go_wp2_with fail
              exact ⟨⟨j + 1, by omega, by go_num, by rw [HST.out]; exact hid ⟨_, RS1.out⟩, by rw [HST.out]; exact hid (fun h0 => absurd h0 hE1), KS1⟩, by simp [intOf]; omega⟩
          · have hq0 : q4.2.1 = (pgI zs k j (List.replicate k Z, 0, st2)).2.2.2 := by
              rcases hq4.rl with ⟨h1, _⟩ | ⟨_, h1, _⟩
              · exact absurd h1 hs
              · exact h1
            have hb : (q4.2.1 == 0) = false := by rw [hq0]; simp [hs]
            have hjj := pgI_stuck (n := (k : Int)) (x := (List.replicate k Z, 0, st2)) hs (M - j)
            rw [show j + (M - j) = M by omega] at hjj
            have HJ := hid hjj
            have HQ4 := hid hq4
            have HS := hid hs
            clear hjj hq4 hs hq0 RW y1
            go_wp2_with fail
            go_ret
            refine pgsA_mk (q' := q4) rfl (fun h0 => ?_) (by show Rq wr R a n c zs (pgI zs k M (List.replicate k Z, 0, st2)).2.2 q4; rw [HJ.out]; exact HQ4.out) KW.out
            have h0' : (pgI zs k M (List.replicate k Z, 0, st2)).2.2.2 = 0 := h0
            rw [HJ.out] at h0'
            exact absurd h0' HS.out
        · have hlt2' : ¬ (j : Int) < (M : Int) := by omega
          obtain rfl : j = M := by omega
          have HQ4 := hid hq4
          clear hq4 y1
          go_wp2_with fail
          go_ret
          exact pgsA_mk (q' := q4) rfl (fun h0 => ⟨bl, (PW.out h0).1⟩) HQ4.out KW.out
end Go.Proofs.YtbdjghokedfkfaaDoor

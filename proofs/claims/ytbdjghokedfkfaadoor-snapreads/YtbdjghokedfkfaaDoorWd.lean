/-
  snap's writer: which pages are not all noughts.
-/
import Derived.Test.YtbdjghokedfkfaaDoorWb
import Derived.Deep.Cut
namespace Go.Proofs.YtbdjghokedfkfaaDoor
open Go.RowKit
set_option linter.unusedVariables false
set_option maxRecDepth 100000

theorem ask37k (R g cap : Nat) (s : WS) (b : Bool) (w : World) (h : Wr w R g cap s.1 s.2) :
    Calls Tryd.prog 89 #[.pointer (some ⟨R, 0, none⟩), .bool b] w fun e w' => e = .returned (.tuple #[]) ∧ Wr w' R g cap (askW b s).1 (askW b s).2 ∧ Kept (fun k => k = R) w w' := by
  obtain ⟨bs, bad⟩ := s
  have c1 := h.c1
  have f1 := h.f1
  have HW := hid h
  clear h
  have fin : ∀ b' : Bool, Wr (w.setCell ⟨R, 1, none⟩ (.bool b')) R g cap bs b' ∧ Kept (fun k => k = R) w (w.setCell ⟨R, 1, none⟩ (.bool b')) := fun b' => by
    have hk : Kept (fun k => k = R) w (w.setCell ⟨R, 1, none⟩ (.bool b')) := ⟨rfl, rfl, rfl, by simp [World.setCell], fun k hk hs => Below.heap_setCell _ _ _ _ (by simpa using hs)⟩
    refine ⟨⟨?_, ?_, ?_, ?_, HW.out.row.kept hk HW.out.ne, HW.out.ne⟩, hk⟩
    · rw [World.cell?_setCell_other _ _ _ _ (by simp)]; exact HW.out.c0
    · exact World.cell?_setCell_same w ⟨R, 1, none⟩ (.bool b') c1
    · rw [World.frozen?_setCell]; exact HW.out.f0
    · rw [World.frozen?_setCell]; exact HW.out.f1
  have FIN := hid fin
  clear fin HW
  cases bad <;> cases b
  all_goals
    go_enter Tryd.func89, Tryd.ntmps89
    go_wp2_with fail
    go_end0
    exact ⟨rfl, (FIN.out _).1, (FIN.out _).2⟩

/-- The bytes of a page laid over noughts. -/
theorem ex_cpz {ρ : Operand → Value} {o : Oper} (d s : Operand) (ho : o.op = Op.call { callee := Callee.builtin Builtin.copy, args := #[d, s], argTypes := #[31, 31] }) (w : World)
    (hd : ρ d = .slice (some ⟨w.heap.size, 0, none⟩) 4096 4096) (b off sc : Nat) (hs : ρ s = .slice (some ⟨b, off, none⟩) 4096 sc) (l : List Int) (hl : l.length = 4096)
    (hsrc : ∀ (j : Nat) x, l[j]? = some x → w.cell? ⟨b, off + j, none⟩ = some (.int .u8 x)) :
    (execOp ρ o).run Tryd.prog (w.alloc (.cells (byV Zp) 152)) = .ok (.value (.int .i64 4096)) (w.alloc (.cells (byV l) 152)) := by
  have hz : (byV Zp).size = 4096 := by simp [byV, Zp_len]
  have hsrc' : ∀ (j : Nat) v, (l.map (Value.int .u8))[j]? = some v → (w.alloc (.cells (byV Zp) 152)).cell? ((⟨b, off, none⟩ : Addr).add j) = some v := by
    intro j v hv
    rw [List.getElem?_map, Option.map_eq_some_iff] at hv
    obtain ⟨x, hx, rfl⟩ := hv
    have hplain : (⟨b, off, none⟩ : Addr).add j = ⟨b, off + j, none⟩ := by unfold Addr.add; split <;> simp_all
    rw [hplain]
    exact later_cell (below_new _ _) (hsrc j x hx)
  have h := ex_cp d s ho w.heap.size 0 4096 4096 hd ⟨b, off, none⟩ 4096 sc hs (byV Zp) 152 (l.map (Value.int .u8)) _ (heap_alloc_last w _) (by simp [hl]) hsrc' (by rw [hz]; simp [hl]) (ints_one l)
  rw [h]
  have e1 : ((byV Zp).toList.take 0 ++ l.map (Value.int .u8) ++ (byV Zp).toList.drop (0 + (l.map (Value.int .u8)).length)).toArray = byV l := by
    have : (byV Zp).toList.drop (0 + (l.map (Value.int .u8)).length) = [] := List.drop_eq_nil_of_le (by simp [hl, Zp_len])
    rw [this]
    simp
  rw [e1, World.setRow_alloc_new]
  simp [goInt, hl]

theorem zl_len {Z : List Int} (hZ : Hid (Z = Zp)) : Z.length = 4096 := by rw [hZ.out]; exact Zp_len
theorem ex_alZ {ρ : Operand → Value} {o : Oper} {Z : List Int} (hZ : Hid (Z = Zp)) (ho : o.op = .alloc 152) (w : World) :
    (execOp ρ o).run Tryd.prog w = .ok (.value (.pointer (some ⟨w.heap.size, 0, none⟩))) (w.alloc (.cells (byV Z) 152)) := by rw [hZ.out]; exact ex_al ho w
theorem ex_bdZ {ρ : Operand → Value} {o : Oper} {Z : List Int} (hZ : Hid (Z = Zp)) (ho : o.op = .build 152 #[]) (w : World) :
    (execOp ρ o).run Tryd.prog w = .ok (.value (.agg (byV Z))) w := by rw [hZ.out]; exact ex_bd ho w
theorem ex_cpZ {ρ : Operand → Value} {o : Oper} {Z : List Int} (hZ : Hid (Z = Zp)) (d s : Operand) (ho : o.op = Op.call { callee := Callee.builtin Builtin.copy, args := #[d, s], argTypes := #[31, 31] }) (w : World)
    (hd : ρ d = .slice (some ⟨w.heap.size, 0, none⟩) 4096 4096) (b off sc : Nat) (hs : ρ s = .slice (some ⟨b, off, none⟩) 4096 sc) (l : List Int) (hl : l.length = 4096)
    (hsrc : ∀ (j : Nat) x, l[j]? = some x → w.cell? ⟨b, off + j, none⟩ = some (.int .u8 x)) :
    (execOp ρ o).run Tryd.prog (w.alloc (.cells (byV Z) 152)) = .ok (.value (.int .i64 4096)) (w.alloc (.cells (byV l) 152)) := by rw [hZ.out]; exact ex_cpz d s ho w hd b off sc hs l hl hsrc
theorem ex_neZ {ρ : Operand → Value} {o : Oper} {Z : List Int} (hZ : Hid (Z = Zp)) (x y : Operand) (ty : TypeId) (ho : o.op = .binOp .neq 152 x y ty) (xs : List Int) (r : Bool) (hx : ρ x = .agg (byV xs)) (hy : ρ y = .agg (byV Z)) (h1 : xs.length = 4096) (hr : Hid ((!decide (xs = Zp)) = r)) (w : World) :
    (execOp ρ o).run Tryd.prog w = .ok (.value (.bool r)) w := by
  rw [ex_neq x y ty ho xs Z hx hy h1 (zl_len hZ), hZ.out, hr.out]

/-- All pages are of so many bytes. -/
def pgA (x : PgM) (s : WS) : WS := askW (decide (x.1.2.1 = 4096)) s
theorem pgA_bad : Stays pgA := fun x s h => askW_bad _ s h
theorem pgA_wide (l : List PgM) : Wide pgA 0 l := fun x _ s => Nat.le_refl _
/-- The numbers of those up to k that are not all noughts. -/
def idxTo (ps : List PgM) (k : Nat) : List Int := ((List.range k).filter fun i => (ps[i]?).elim false fun (x : PgM) => decide (x.2 ≠ Zp)).map (fun (i : Nat) => (i : Int))
def idx (ps : List PgM) : List Int := idxTo ps ps.length
theorem idxTo_succ (ps : List PgM) (k : Nat) (x : PgM) (h : ps[k]? = some x) : idxTo ps (k + 1) = if x.2 = Zp then idxTo ps k else idxTo ps k ++ [(k : Int)] := by
  unfold idxTo
  rw [List.range_succ, List.filter_append]
  by_cases hz : x.2 = Zp
  · simp [h, hz]
  · simp [h, hz]
theorem idxTo_len (ps : List PgM) (k : Nat) : (idxTo ps k).length ≤ k := by
  unfold idxTo
  rw [List.length_map]
  exact Nat.le_trans (List.length_filter_le _ _) (by simp)

theorem Tryd.inf3 : (Tryd.prog.info? 3).map (fun i => (i.zero, i.size, i.bytes)) = some (some (.int .i64 0), 1, 8) := by kernel_rfl

theorem one_cell (w : World) (B : Nat) (v : Value) (t : TypeId) (h : w.heap.size = B) : ∀ (j : Nat) y, ([v] : List Value)[j]? = some y → (w.alloc (.cells #[v] t)).cell? ((⟨B, 0, none⟩ : Addr).add j) = some y := by
  subst h
  intro j y hy
  have hj : j = 0 := by
    rcases Nat.eq_zero_or_pos j with h | h
    · exact h
    · rw [List.getElem?_eq_none (by simp; omega)] at hy; cases hy
  subst hj
  have hplain : (⟨w.heap.size, 0, none⟩ : Addr).add 0 = ⟨w.heap.size, 0, none⟩ := by unfold Addr.add; split <;> simp_all
  rw [hplain, cell_at (nb_new w _)]
  simpa using hy
set_option maxHeartbeats 2000000 in
theorem full40_in (R g cap : Nat) (s : WS) (b off n c : Nat) (ps : List PgM) (w0 w : World) (h : Wr w R g cap s.1 s.2) (hl : ps.length = n) (h0 : 0 < n) (hn : n ≤ 1099511627776) (hB : Below w0.heap.size w0 w) (hR : w0.heap.size ≤ R)
    (hc : ∀ (j : Nat) x, ps[j]? = some x → w0.cell? ⟨b, off + j, none⟩ = some (.slice x.1.1 x.1.2.1 x.1.2.2)) (hi : ∀ x ∈ ps, SI .u8 w0 x.1.1 x.1.2.1 x.2) :
    Calls Tryd.prog 92 #[.pointer (some ⟨R, 0, none⟩), .slice (some ⟨b, off, none⟩) n c] w fun e w' => ∃ v, e = .returned v ∧ Wr w' R g cap (foldW pgA ps s).1 (foldW pgA ps s).2 ∧ Kept (fun k => k = R) w w' ∧
      ((foldW pgA ps s).2 = true ∧ v = .slice none 0 0 ∨ (foldW pgA ps s).2 = false ∧ w'.ownsRow w.heap.size 3 1 v (idx ps).length ((idx ps).map (Value.int .i64))) := by
  have HA := hid (fun (W : World) (x : PgM) (s1 : WS) (hW : Wr W R g cap s1.1 s1.2) => ask37k R g cap s1 (decide (x.1.2.1 = 4096)) W hW)
  have HC := hid hc
  have HI := hid hi
  have HB := hid hB
  have HW := hid h
  have hRlt := h.lt
  obtain ⟨i0, hi0, hz0, hz1, hz2⟩ := info_parts Tryd.inf3
  obtain ⟨Z, hZ⟩ : ∃ Z, Z = Zp := ⟨_, rfl⟩
  have HZ := hid hZ
  clear h hc hi hB hZ
  go_enter Tryd.func92, Tryd.ntmps92
  go_wp2_with fail
  go_loopw [5, 11] (fun nu i wr => ∃ (k : Nat), k ≤ n ∧ i = .int .i64 k ∧ Hid (Wr wr R g cap (foldW pgA (ps.take k) s).1 (foldW pgA (ps.take k) s).2) ∧ Hid (Kept (fun k => k = R) w wr) ∧ Hid (0 < k → (foldW pgA (ps.take k) s).2 = false) ∧ Hid (wr.ownsRow w.heap.size 3 1 nu (idxTo ps k).length ((idxTo ps k).map (Value.int .i64)))) (fun _ i _ => n - (intOf i).toNat)
  case atStart => exact ⟨0, by omega, rfl, HW, hid (Kept.refl _ _), hid (fun h => absurd h (by omega)), hid (show w.ownsRow w.heap.size 3 1 (.slice none 0 0) 0 [] from World.ownsRow_nil _ _ _ _)⟩
  case round =>
    obtain ⟨k, hk, rfl, WR, KR, NB, OR⟩ := hrel
    by_cases hlt : k < n
    · obtain ⟨x, hx⟩ : ∃ x, ps[k]? = some x := ⟨_, List.getElem?_eq_getElem (by omega)⟩
      have hlt' : (k : Int) < (n : Int) := by omega
      have hbr := HB.out.trans (KR.out.to_below HB.out.size (fun k hk hs => by omega))
      have hcell := later_cell hbr (HC.out k x hx)
      have HQ := hid (HA.out wr x _ WR.out)
      have eN : askW (decide (x.1.2.1 = 4096)) (foldW pgA (ps.take k) s) = foldW pgA (ps.take (k + 1)) s := by
        have := foldW_snoc pgA (ps.take k) x s
        rw [List.take_add_one, hx]
        exact this.symm
      rw [eN] at HQ
      have HX := hid hx
      have HBR := hid hbr
      have HSX := hid (HI.out x (List.mem_of_getElem? hx))
      have EN := hid eN
      obtain ⟨len, hlen⟩ : ∃ q, x.1.2.1 = q := ⟨_, rfl⟩
      rw [hlen] at hcell HQ
      have HLEN := hid hlen
      obtain ⟨bad, hbad⟩ : ∃ q, (foldW pgA (ps.take (k + 1)) s).2 = q := ⟨_, rfl⟩
      have HBad := hid hbad
      have hdec : decide (len = 4096) = ((len : Int) == 4096) := by
        by_cases h : len = 4096
        · subst h; rfl
        · have h2 : ¬ (len : Int) = 4096 := by omega
          simp [h, h2]
      rw [hdec] at HQ
      clear hx hbr hlen hbad eN hdec
      go_wp2_with fail
      refine HQ.out.mono ?_
      rintro e w1 ⟨rfl, hw1, hk1⟩
      have c1 := hw1.c1
      have W1 := hid hw1
      have K1 := hid (KR.out.trans hk1)
      have O1 := hid (own_keepB OR.out hk1 (fun q hq hh => by have := (own_ty OR.out hq).1; omega))
      rw [HBad.out] at c1
      clear hw1 hk1 HQ OR KR WR
      cases bad with
      | true =>
        clear HA HC HI
        go_wp2_with fail
        go_ret
        have e : foldW pgA ps s = foldW pgA (ps.take (k + 1)) s := by
          conv => lhs; rw [← List.take_append_drop (k + 1) ps, foldW_app]
          exact foldW_bad pgA_bad _ _ HBad.out
        rw [e]
        exact ⟨_, rfl, W1.out, K1.out, .inl ⟨HBad.out, rfl⟩⟩
      | false =>
        have hl4 : len = 4096 := by
          have h1 := HBad.out
          rw [← EN.out, HLEN.out] at h1
          simp [askW] at h1
          exact h1.2
        have HL4 := hid (HLEN.out.trans hl4)
        subst hl4
        obtain ⟨hsl, hsc⟩ := HSX.out
        obtain ⟨pb, po, hpa, hpc⟩ := hsc.resolve_left (by rw [HL4.out]; decide)
        rw [HL4.out] at hsl
        have HPA := hid hpa
        have hbw1 := HB.out.trans (K1.out.to_below HB.out.size (fun k hk hs => by omega))
        have HCP := hid (fun (j : Nat) y (hy : x.2[j]? = some y) => later_cell hbw1 (hpc j y hy))
        have HSL := hid hsl
        have hsl2 : (byV x.2).size = 4096 := by simp [byV, hsl]
        obtain ⟨nl, hnl⟩ : ∃ q, x.2 = q := ⟨_, rfl⟩
        rw [hnl] at HCP HSL hsl2
        have HNL := hid hnl
        have hb2 := below_new w1 (.cells (byV nl) 152)
        have hk2 : Kept (fun k => k = R) w1 (w1.alloc (.cells (byV nl) 152)) := Kept.alloc _ _ _
        have W2 := hid (W1.out.later hb2)
        have K2 := hid (K1.out.trans hk2)
        have O2 := hid (own_keepB O1.out (kept_of (S := fun _ => False) hb2) (fun _ _ h => h))
        have KB2 := hid (nb_new w1 (.cells (byV nl) 152))
        clear hpc hsl hsc hnl hpa hbw1 hb2 hk2 HA HC HI HSX EN W1 K1 O1 HLEN
        by_cases hz : nl = Zp
        · have EI := hid (show idxTo ps (k + 1) = idxTo ps k by rw [idxTo_succ ps k x HX.out, if_pos (by rw [HNL.out]; exact hz)])
          have hq : (!decide (nl = Zp)) = false := by simp [hz]
          have HQ := hid hq
          clear hq hz
          go_upto_region 9 with (first | (refine wpl_val rfl _ (ex_alZ HZ rfl _) ?_))
          go_upto_region 10 with (first | (refine wpl_val rfl _ (ex_sl (.tmp 8) rfl w1.heap.size rfl _) ?_) | (refine wpl_val rfl _ (ex_cpZ HZ (.tmp 25) (.tmp 26) rfl w1 rfl pb po x.1.2.2 (congrArg (fun q => Value.slice q 4096 x.1.2.2) HPA.out) nl HSL.out HCP.out) ?_))
          clear HCP HPA
          go_wp2_with (first | (refine wpList_load_row rfl 152 (.tmp 8) rfl w1.heap.size rfl 152 (byV nl) (0, 0) _ KB2.out Tryd.underlying152 rfl (by rw [hsl2]; exact Tryd.siz83) ?_) | (refine wpl_val rfl _ (ex_bdZ HZ rfl _) ?_) | (refine wpl_val rfl _ (ex_neZ HZ (.tmp 28) (.tmp 29) _ rfl nl false rfl rfl HSL.out HQ _) ?_))
          exact ⟨⟨k + 1, by omega, by go_num, W2, K2, hid (fun _ => HBad.out), by rw [EI.out]; exact O2⟩, by simp [intOf]; omega⟩
        · have EI := hid (show idxTo ps (k + 1) = idxTo ps k ++ [(k : Int)] by rw [idxTo_succ ps k x HX.out, if_neg (by rw [HNL.out]; exact hz)])
          have hq : (!decide (nl = Zp)) = true := by simp [hz]
          have HQ := hid hq
          have HIL := hid (idxTo_len ps k)
          have hu := one_cell (w1.alloc (.cells (byV nl) 152)) (w1.heap.size + 1) (.int .i64 k) 3 (by simp)
          have HU := hid hu
          clear hq hz hu
          go_upto_region 9 with (first | (refine wpl_val rfl _ (ex_alZ HZ rfl _) ?_))
          go_upto_region 10 with (first | (refine wpl_val rfl _ (ex_sl (.tmp 8) rfl w1.heap.size rfl _) ?_) | (refine wpl_val rfl _ (ex_cpZ HZ (.tmp 25) (.tmp 26) rfl w1 rfl pb po x.1.2.2 (congrArg (fun q => Value.slice q 4096 x.1.2.2) HPA.out) nl HSL.out HCP.out) ?_))
          clear HCP HPA
          go_upto_region 11 with (first | (refine wpList_load_row rfl 152 (.tmp 8) rfl w1.heap.size rfl 152 (byV nl) (0, 0) _ KB2.out Tryd.underlying152 rfl (by rw [hsl2]; exact Tryd.siz83) ?_) | (refine wpl_val rfl _ (ex_bdZ HZ rfl _) ?_) | (refine wpl_val rfl _ (ex_neZ HZ (.tmp 28) (.tmp 29) _ rfl nl true rfl rfl HSL.out HQ _) ?_))
          go_wp2_with (first | (at_builtin; refine wpList_append_own _ rfl (.tmp 31) (.tmp 33) 106 rfl w.heap.size 3 i0 (.int .i64 0) 1 8 Tryd.underlying106 hi0 hz0 hz1 hz2 rfl (by decide) _ (idxTo ps k).length _ rfl (own_keepB O2.out (kept_of (S := fun _ => False) (below_new _ _)) (fun _ _ h => h)) ⟨w1.heap.size + 1, 0, none⟩ 1 1 [.int .i64 k] rfl rfl HU.out (by intro u hu; simp at hu; subst hu; rfl) (by have := HIL.out; unfold maxLen; omega) (by have := HIL.out; omega) (by have := K2.out.size; simp at this ⊢; omega) ?_; intro v' w' hown hg _; have HO := hid hown; have HG := hid hg; clear hown hg))
          have hk3 : Kept (fun q => some q = u5.ownBlock) (w1.alloc (.cells (byV nl) 152)) w' := (Kept.alloc _ _ _).trans (Kept.of_grown HG.out)
          have hg3 : ∀ q, some q = u5.ownBlock → w.heap.size ≤ q := fun q hq => (own_ty O2.out hq.symm).1
          have hgl := HW.out.row.lt
          exact ⟨⟨k + 1, by omega, by go_num, hid (W2.out.kept hk3 (fun h => by have := hg3 R h; omega) (fun h => by have := hg3 g h; omega)), hid (K2.out.then hk3 (fun q h1 h2 => by have := hg3 q h2; omega)), hid (fun _ => HBad.out), by rw [EI.out, List.map_append, List.length_append]; exact HO⟩, by simp [intOf]; omega⟩
    · have hlt' : ¬ (k : Int) < (n : Int) := by omega
      obtain rfl : k = n := by omega
      have HNB := hid (NB.out h0)
      clear HA HC HI
      go_wp2_with fail
      go_ret
      have e : ps.take k = ps := List.take_of_length_le (by omega)
      have W2 := WR.out
      have N2 := HNB.out
      have O2 := OR.out
      rw [e] at W2 N2
      refine ⟨_, rfl, W2, KR.out, .inr ⟨N2, ?_⟩⟩
      unfold idx
      rw [hl]
      exact O2
theorem full40_none (R g cap : Nat) (s : WS) (a : Option Addr) (c : Nat) (w : World) (h : Wr w R g cap s.1 s.2) :
    Calls Tryd.prog 92 #[.pointer (some ⟨R, 0, none⟩), .slice a 0 c] w fun e w' => ∃ v, e = .returned v ∧ Wr w' R g cap (foldW pgA [] s).1 (foldW pgA [] s).2 ∧ Kept (fun k => k = R) w w' ∧
      ((foldW pgA [] s).2 = true ∧ v = .slice none 0 0 ∨ (foldW pgA [] s).2 = false ∧ w'.ownsRow w.heap.size 3 1 v (idx []).length ((idx []).map (Value.int .i64))) := by
  have HW := hid h
  clear h
  go_enter Tryd.func92, Tryd.ntmps92
  go_wp2_with fail
  refine wp_loop_rounds 1 ?_
  rw [rounds_succ]
  go_wp2_with fail
  go_ret
  refine ⟨_, rfl, HW.out, Kept.refl _ _, ?_⟩
  cases hb : (foldW pgA [] s).2 with
  | true => exact .inl ⟨rfl, rfl⟩
  | false => exact .inr ⟨rfl, World.ownsRow_nil _ _ _ _⟩
theorem full40 (R g cap : Nat) (s : WS) (a : Option Addr) (n c : Nat) (ps : List PgM) (w0 w : World) (h : Wr w R g cap s.1 s.2) (hS : SPg w0 a n ps) (hn : n ≤ 1099511627776) (hB : Below w0.heap.size w0 w) (hR : w0.heap.size ≤ R) :
    Calls Tryd.prog 92 #[.pointer (some ⟨R, 0, none⟩), .slice a n c] w fun e w' => ∃ v, e = .returned v ∧ Wr w' R g cap (foldW pgA ps s).1 (foldW pgA ps s).2 ∧ Kept (fun k => k = R) w w' ∧
      ((foldW pgA ps s).2 = true ∧ v = .slice none 0 0 ∨ (foldW pgA ps s).2 = false ∧ w'.ownsRow w.heap.size 3 1 v (idx ps).length ((idx ps).map (Value.int .i64))) := by
  by_cases h0 : n = 0
  · subst h0
    obtain rfl := List.eq_nil_of_length_eq_zero hS.len
    exact full40_none R g cap s a c w h
  · obtain ⟨b, off, rfl, hc⟩ := hS.at_.resolve_left h0
    exact full40_in R g cap s b off n c ps w0 w h hS.len (by omega) hn hB hR hc hS.in_
end Go.Proofs.YtbdjghokedfkfaaDoor

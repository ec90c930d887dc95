/-
  A host made of a script of which some replies are left.
-/
import Derived.Test.YthdgbeaibajkeaaNw
namespace Go.Proofs.Ythdgbeaibajkeaa
open Go.RowKit
set_option linter.unusedVariables false

set_option maxRecDepth 100000 in
set_option maxHeartbeats 8000000 in
theorem new9_pos (Q : Nat → Prop) (b off n c : Nat) (T : Nat) (xs : List Rp) (w : World) (hr : RpS Q w (some ⟨b, off, none⟩) n c xs) (hTn : T < n) :
    Calls Try.prog 9 #[.slice (some ⟨b, off, none⟩) n c, .int .i64 T] w fun e w' => NewO w T xs e w' := by
  have hn : n ≤ 2000 := hr.2.2.1
  have hc : n ≤ c := hr.2.1
  obtain ⟨m, hm⟩ : ∃ m, m = n - T := ⟨_, rfl⟩
  have hzl : m = (xs.drop T).length := by rw [List.length_drop, hr.1]; exact hm
  have hin : ∀ k, k < m → RpAt Q w b (off + T * 2 + k * 2) ((xs.drop T).getD k rp0) := fun k hk => by
    rcases hr.2.2.2 with h0 | ⟨b', off', e, _, h⟩
    · omega
    · cases e
      have := h (T + k) (by omega)
      rw [show off + (T + k) * 2 = off + T * 2 + k * 2 by omega] at this
      rw [List.getD_eq_getElem?_getD, List.getElem?_drop, ← List.getD_eq_getElem?_getD]
      exact this
  have HIN := hid hin
  have HZL := hid hzl
  have hx : m ≤ 2000 := by omega
  have hcT : ¬ c = T := by omega
  have hTn2 : ¬ n < T := by omega
  have hmn : n - T = m := hm.symm
  clear hm
  clear hin hzl hr
  generalize hzs : xs.drop T = zs at *
  have HZS := hid hzs
  clear hzs
  have HST := hid (NI.start w T zs)
  go_enter Try.func9, Try.ntmps9
  go_wp2_with fail
  go_loopw [20] (fun i wr => ∃ (k : Nat) (ys : List Rp) (va : Option Addr) (vc : Nat), k ≤ m ∧ i = .int .i64 k ∧ NI w T zs k ys va vc wr) (fun i _ => m - (intOf i).toNat)
  case atStart => exact ⟨0, [], none, 0, by omega, rfl, HST.out⟩
  case round =>
    obtain ⟨k, ys, va, vc, hk, rfl, hni⟩ := hrel
    have HNI := hid hni
    by_cases hkm : k < m
    · have hB1 : Below w.heap.size w wr := below_kept (below_new w _) hni.kept (by simp) (fun k e => by omega)
      have hin := (HIN.out k hkm).later hB1
      obtain ⟨x, hx⟩ : ∃ x, x = zs.getD k rp0 := ⟨_, rfl⟩
      rw [← hx] at hin
      have HX : Hid (x.l = (zs.getD k rp0).l ∧ x.tr = (zs.getD k rp0).tr) := hid (by rw [hx]; exact ⟨rfl, rfl⟩)
      clear hx
      obtain ⟨xa, xn, xc, xl, xt⟩ := x
      obtain ⟨d0, d1, d2⟩ := hin
      simp only at d0 d1 d2 HX
      have HD := hid (And.intro d2.1 (And.intro d2.2.2.1 d2.2.2.2.1))
      have hkm' : (k : Int) < (m : Int) := by omega
      have hz : w.heap.size + 1 ≤ wr.heap.size := by have := hni.kept.size; simpa using this
      have HSG := hid d2
      clear d2 hni hB1 HST
      go_wp2_with fail
      obtain ⟨Bx, hBx⟩ : ∃ Bx, Bx = wr.heap.size := ⟨_, rfl⟩
      obtain ⟨ob, hob⟩ : ∃ ob, ob = Obj.cells #[.slice xa xn xc, .bool xt] 33 := ⟨_, rfl⟩
      rw [← hBx, ← hob]
      have hBr : Below wr.heap.size wr (wr.alloc ob).drew := (below_new wr ob).drew
      have bx : (wr.alloc ob).drew.heap[Bx]? = some ob := by rw [hBx]; exact heap_alloc_new wr ob
      have s0 : (wr.alloc ob).drew.cell? ⟨Bx, 0, none⟩ = some (.slice xa xn xc) := by rw [hob] at bx ⊢; exact cell_at bx
      have s1 : (wr.alloc ob).drew.cell? ⟨Bx, 1, none⟩ = some (.bool xt) := by rw [hob] at bx ⊢; exact cell_at bx
      have hH : (wr.alloc ob).drew.cell? ⟨Bx, 0, none⟩ = some (.slice xa xn xc) ∧ (wr.alloc ob).drew.cell? ⟨Bx, 1, none⟩ = some (.bool xt) := ⟨s0, s1⟩
      have HB7r := hid hBr
      have HOW := hid (own18 Q xa xn xc xl xt _ (HSG.out.later hBr))
      have hHw : (wr.alloc ob).drew.heap[w.heap.size]? = some (.cells #[.int .i64 T, .slice va k vc] 44) := blk_later hBr HNI.out.blk
      obtain ⟨i0, hi, hz0, hz1, hz2⟩ := info_parts Try.infR
      have HBX := hid hBx
      clear d0 d1 bx hBr s0 s1 hBx
      refine wp_region_held_drew (S := (fun W => W.cell? ⟨Bx, 0, none⟩ = some (.slice xa xn xc) ∧ W.cell? ⟨Bx, 1, none⟩ = some (.bool xt))) (by kernel_rfl) hH (fun hHeld => ?_)
      generalize (wr.alloc ob).drew = WD at *
      have hHc : WD.cell? ⟨w.heap.size, 1, none⟩ = some (.slice va k vc) := cell_at hHw
      refine take_at (i := 0) (oi := { dst := some 24, op := Go.Op.move (Go.Operand.tmp 5), type := 28, pos := "host.go:27", after := #[], guard := none }) (d := some 24) (v := ?_) (by kernel_rfl) (by kernel_rfl) (by kernel_rfl) (by kernel_rfl) (by kernel_rfl) (fun _ _ _ h => h) (Or.inl ⟨by kernel_rfl, ?_⟩) (by assumption) ?_
      rotate_left 1
      · (intro w hSw; (try dsimp only at hSw); go_simp; try with_reducible rfl)
      try simp only [Act.put, List.setIfInBounds_toArray, List.set_cons_zero, List.set_cons_succ]
      refine take_at (i := 1) (oi := { dst := some 25, op := Go.Op.move (Go.Operand.tmp 5), type := 28, pos := "host.go:27", after := #[], guard := none }) (d := some 25) (v := ?_) (by kernel_rfl) (by kernel_rfl) (by kernel_rfl) (by kernel_rfl) (by kernel_rfl) (fun _ _ _ h => h) (Or.inl ⟨by kernel_rfl, ?_⟩) (by assumption) ?_
      rotate_left 1
      · (intro w hSw; (try dsimp only at hSw); go_simp; try with_reducible rfl)
      try simp only [Act.put, List.setIfInBounds_toArray, List.set_cons_zero, List.set_cons_succ]
      refine take_at (i := 2) (oi := { dst := some 26, op := Go.Op.nilCheck (Go.Operand.tmp 25), type := 0, pos := "host.go:27", after := #[{ on := 1, ground := Go.Ground.data }], guard := none }) (d := some 26) (v := ?_) (by kernel_rfl) (by kernel_rfl) (by kernel_rfl) (by kernel_rfl) (by kernel_rfl) (fun _ _ _ h => h) (Or.inl ⟨by kernel_rfl, ?_⟩) (by assumption) ?_
      rotate_left 1
      · (intro w hSw; (try dsimp only at hSw); go_simp; try with_reducible rfl)
      try simp only [Act.put, List.setIfInBounds_toArray, List.set_cons_zero, List.set_cons_succ]
      refine take_at (i := 3) (oi := { dst := some 27, op := Go.Op.fieldAddr 44 (Go.Operand.tmp 26) 1, type := 0, pos := "host.go:27", after := #[{ on := 2, ground := Go.Ground.data }], guard := none }) (d := some 27) (v := ?_) (by kernel_rfl) (by kernel_rfl) (by kernel_rfl) (by kernel_rfl) (by kernel_rfl) (fun _ _ _ h => h) (Or.inl ⟨by kernel_rfl, ?_⟩) (by assumption) ?_
      rotate_left 1
      · (intro w hSw; (try dsimp only at hSw); go_simp; try with_reducible rfl)
      try simp only [Act.put, List.setIfInBounds_toArray, List.set_cons_zero, List.set_cons_succ]
      refine take_at (i := 5) (oi := { dst := some 29, op := Go.Op.load 33 (Go.Operand.tmp 7), type := 33, pos := "host.go:27", after := #[], guard := none }) (d := some 29) (v := ?_) (by kernel_rfl) (by kernel_rfl) (by kernel_rfl) (by kernel_rfl) (by kernel_rfl) (fun _ _ _ h => h) (Or.inl ⟨by kernel_rfl, ?_⟩) (by assumption) ?_
      rotate_left 1
      · (intro w hSw; (try dsimp only at hSw); go_simp; try with_reducible rfl)
      try simp only [Act.put, List.setIfInBounds_toArray, List.set_cons_zero, List.set_cons_succ]
      refine wpAnyH_ready (rs := [4, 6]) (by kernel_rfl) (by simp) ?_
      refine ready_at (o := { dst := some 28, op := Go.Op.load 22 (Go.Operand.tmp 27), type := 22, pos := "host.go:27", after := #[{ on := 3, ground := Go.Ground.data }], guard := none }) (by kernel_rfl) (by kernel_rfl) (fun K hK => ?_) ?_
      · go_simp
        refine hK.out _ _ hH (fun _ => ?_)
        clear hK K
        refine wpAnyH_ready (rs := [6]) (by kernel_rfl) (by simp) ?_
        refine ready_at (o := { dst := some 30, op := Go.Op.call { callee := Go.Callee.value (Go.Operand.func 18), args := #[Go.Operand.tmp 29], argTypes := #[33] }, type := 33, pos := "host.go:27", after := #[{ on := 5, ground := Go.Ground.data }], guard := none }) (by kernel_rfl) (by kernel_rfl) (fun K hK => ?_) ?_
        · go_simp
          refine HOW.out.mono ?_
          rintro e w5 ⟨ua, uc, rfl, hL5, hb5⟩
          have hS5 : w5.cell? ⟨Bx, 0, none⟩ = some (.slice xa xn xc) ∧ w5.cell? ⟨Bx, 1, none⟩ = some (.bool xt) := ⟨later_cell hb5 hH.1, later_cell hb5 hH.2⟩
          have hHc5 := later_cell hb5 hHc
          refine hK.out _ _ hS5 (fun _ => ?_)
          clear hK K
          refine wpAnyH_ready (rs := [7]) (by kernel_rfl) (by simp) ?_
          refine ready_at (o := { dst := some 31, op := Go.Op.buildSlice 22 1 #[(0, Go.Operand.tmp 30)], type := 22, pos := "host.go:27", after := #[{ on := 6, ground := Go.Ground.data }], guard := none }) (by kernel_rfl) (by kernel_rfl) (fun K hK => ?_) ?_
          · go_simp
            obtain ⟨o7, ho7⟩ : ∃ o7, o7 = Obj.cells #[.slice ua xn uc, .bool xt] 33 := ⟨_, rfl⟩
            rw [← ho7]
            have hb7 := below_new w5 o7
            have HN7 := hid (news_at (w := w5) ho7)
            have hS7 : (w5.alloc o7).cell? ⟨Bx, 0, none⟩ = some (.slice xa xn xc) ∧ (w5.alloc o7).cell? ⟨Bx, 1, none⟩ = some (.bool xt) := ⟨later_cell hb7 hS5.1, later_cell hb7 hS5.2⟩
            have hHc7 := later_cell hb7 hHc5
            have HB7 := hid (HB7r.out.trans ((hb5.trans (hb7.mono hb5.size)).mono HB7r.out.size))
            have HL7 := hid (own_low (own_later hL5 hb7) HB7r.out.size)
            clear hb7 ho7
            refine hK.out _ _ hS7 (fun _ => ?_)
            clear hK K
            have hcr7 := HNI.out.cr.later HB7.out
            have hrow7 : (w5.alloc o7).ownsRow (w.heap.size + 1) 33 2 (.slice va k vc) k (flatR ys) := by have := hcr7.row; unfold LR at this; rw [hcr7.len] at this; exact this
            have hsz7 : w.heap.size + 1 ≤ (w5.alloc o7).heap.size := Nat.le_trans hz HB7.out.size
            refine wpAnyH_ready (rs := [8]) (by kernel_rfl) (by simp) ?_
            refine ready_at (o := { dst := some 32, op := Go.Op.call { callee := Go.Callee.builtin Go.Builtin.append, args := #[Go.Operand.tmp 28, Go.Operand.tmp 31], argTypes := #[22, 22] }, type := 22, pos := "host.go:27", after := #[{ on := 4, ground := Go.Ground.data }, { on := 7, ground := Go.Ground.data }, { on := 6, ground := Go.Ground.chain }], guard := none }) (by kernel_rfl) (by kernel_rfl) (fun K hK => ?_) ?_
            · refine wp_append_own _ (.tmp 28) (.tmp 31) 22 rfl (w.heap.size + 1) 33 i0 _ 2 32 Try.underlying22 hi hz0 hz1 hz2 rfl (by decide) (.slice va k vc) k (flatR ys) rfl hrow7 ⟨w5.heap.size, 0, none⟩ 1 1 [.slice ua xn uc, .bool xt] rfl rfl HN7.out (flatR_cells [⟨ua, xn, uc, xl, xt⟩]) (by unfold maxLen; omega) (by omega) hsz7 ?_
              intro v8 W8 hr8 hg8 _
              obtain ⟨va2, vc2, hv8, _⟩ := own_sl hr8
              subst hv8
              have hk8 := Kept.of_grown hg8
              have hB8 : ¬ some Bx = (Value.slice va k vc).ownBlock := fun e => by have := (own_ty HNI.out.cr.row e.symm).2.1; have := HBX.out; omega
              have hS8 : W8.cell? ⟨Bx, 0, none⟩ = some (.slice xa xn xc) ∧ W8.cell? ⟨Bx, 1, none⟩ = some (.bool xt) := ⟨hk8.cell hS7.1 hB8, hk8.cell hS7.2 hB8⟩
              have HST := hid (HNI.out.step (y := ⟨ua, xn, uc, xl, xt⟩) HB7.out hr8 hg8 HL7.out HD.out.1.symm HD.out.2.1 HD.out.2.2 HX.out)
              have b8 : W8.heap[w.heap.size]? = some (.cells #[.int .i64 T, .slice va k vc] 44) := (hk8.block _ hsz7 (fun e => by have := (own_ty HNI.out.cr.row e.symm).1; omega)).trans (blk_later HB7.out HNI.out.blk)
              have c8 : W8.cell? ⟨w.heap.size, 1, none⟩ = some (.slice va k vc) := cell_at b8
              have f8 : W8.frozen? ⟨w.heap.size, 1, none⟩ = false := free_at b8
              have hS9 : (W8.setCell ⟨w.heap.size, 1, none⟩ (.slice va2 (k + 1) vc2)).cell? ⟨Bx, 0, none⟩ = some (.slice xa xn xc) ∧ (W8.setCell ⟨w.heap.size, 1, none⟩ (.slice va2 (k + 1) vc2)).cell? ⟨Bx, 1, none⟩ = some (.bool xt) := ⟨(kept_set W8 _ _ _).cell hS8.1 (by have := HBX.out; omega), (kept_set W8 _ _ _).cell hS8.2 (by have := HBX.out; omega)⟩
              clear hk8 b8 hg8 hr8 hcr7 hrow7
              refine hK.out _ _ hS8 (fun _ => ?_)
              clear hK K
              refine take_at (i := 9) (oi := { dst := some 33, op := Go.Op.nilCheck (Go.Operand.tmp 24), type := 0, pos := "host.go:27", after := #[{ on := 0, ground := Go.Ground.data }, { on := 0, ground := Go.Ground.phase }, { on := 1, ground := Go.Ground.phase }, { on := 2, ground := Go.Ground.phase }, { on := 3, ground := Go.Ground.phase }, { on := 4, ground := Go.Ground.phase }, { on := 5, ground := Go.Ground.phase }, { on := 6, ground := Go.Ground.phase }, { on := 7, ground := Go.Ground.phase }, { on := 8, ground := Go.Ground.phase }], guard := none }) (d := some 33) (v := ?_) (by kernel_rfl) (by kernel_rfl) (by kernel_rfl) (by kernel_rfl) (by kernel_rfl) (fun _ _ _ h => h) (Or.inl ⟨by kernel_rfl, ?_⟩) (by assumption) ?_
              rotate_left 1
              · (intro w hSw; (try dsimp only at hSw); go_simp; try with_reducible rfl)
              try simp only [Act.put, List.setIfInBounds_toArray, List.set_cons_zero, List.set_cons_succ]
              refine take_at (i := 10) (oi := { dst := some 34, op := Go.Op.fieldAddr 44 (Go.Operand.tmp 33) 1, type := 0, pos := "host.go:27", after := #[{ on := 9, ground := Go.Ground.data }, { on := 0, ground := Go.Ground.phase }, { on := 1, ground := Go.Ground.phase }, { on := 2, ground := Go.Ground.phase }, { on := 3, ground := Go.Ground.phase }, { on := 4, ground := Go.Ground.phase }, { on := 5, ground := Go.Ground.phase }, { on := 6, ground := Go.Ground.phase }, { on := 7, ground := Go.Ground.phase }, { on := 8, ground := Go.Ground.phase }], guard := none }) (d := some 34) (v := ?_) (by kernel_rfl) (by kernel_rfl) (by kernel_rfl) (by kernel_rfl) (by kernel_rfl) (fun _ _ _ h => h) (Or.inl ⟨by kernel_rfl, ?_⟩) (by assumption) ?_
              rotate_left 1
              · (intro w hSw; (try dsimp only at hSw); go_simp; try with_reducible rfl)
              try simp only [Act.put, List.setIfInBounds_toArray, List.set_cons_zero, List.set_cons_succ]
              refine wpAnyH_ready (rs := [11]) (by kernel_rfl) (by simp) ?_
              refine ready_at (o := { dst := none, op := Go.Op.store 22 (Go.Operand.tmp 34) (Go.Operand.tmp 32), type := 0, pos := "host.go:27", after := #[{ on := 10, ground := Go.Ground.data }, { on := 8, ground := Go.Ground.data }, { on := 8, ground := Go.Ground.chain }, { on := 0, ground := Go.Ground.phase }, { on := 1, ground := Go.Ground.phase }, { on := 2, ground := Go.Ground.phase }, { on := 3, ground := Go.Ground.phase }, { on := 4, ground := Go.Ground.phase }, { on := 5, ground := Go.Ground.phase }, { on := 6, ground := Go.Ground.phase }, { on := 7, ground := Go.Ground.phase }, { on := 8, ground := Go.Ground.phase }], guard := none }) (by kernel_rfl) (by kernel_rfl) (fun K hK => ?_) ?_
              · go_simp
                refine hK.out _ _ hS9 (fun _ => ?_)
                clear hK K
                refine wpAnyH_done (by kernel_rfl) ?_ _
                generalize W8.setCell ⟨w.heap.size, 1, none⟩ (.slice va2 (k + 1) vc2) = W9 at *
                clear hS8 hS9 c8 f8 hS7 hHc7 hHw hHc hH hHeld
                go_wp2_with fail
                exact ⟨⟨k + 1, ys ++ [⟨ua, xn, uc, xl, xt⟩], va2, vc2, by omega, by go_num, HST.out⟩, by simp [intOf]; omega⟩
              exact AllReadyH.nil
            exact AllReadyH.nil
          exact AllReadyH.nil
        exact AllReadyH.nil
      refine ready_at (o := { dst := some 30, op := Go.Op.call { callee := Go.Callee.value (Go.Operand.func 18), args := #[Go.Operand.tmp 29], argTypes := #[33] }, type := 33, pos := "host.go:27", after := #[{ on := 5, ground := Go.Ground.data }], guard := none }) (by kernel_rfl) (by kernel_rfl) (fun K hK => ?_) ?_
      · go_simp
        refine HOW.out.mono ?_
        rintro e w5 ⟨ua, uc, rfl, hL5, hb5⟩
        have hS5 : w5.cell? ⟨Bx, 0, none⟩ = some (.slice xa xn xc) ∧ w5.cell? ⟨Bx, 1, none⟩ = some (.bool xt) := ⟨later_cell hb5 hH.1, later_cell hb5 hH.2⟩
        have hHc5 := later_cell hb5 hHc
        refine hK.out _ _ hS5 (fun _ => ?_)
        clear hK K
        refine wpAnyH_ready (rs := [4, 7]) (by kernel_rfl) (by simp) ?_
        refine ready_at (o := { dst := some 28, op := Go.Op.load 22 (Go.Operand.tmp 27), type := 22, pos := "host.go:27", after := #[{ on := 3, ground := Go.Ground.data }], guard := none }) (by kernel_rfl) (by kernel_rfl) (fun K hK => ?_) ?_
        · go_simp
          refine hK.out _ _ hS5 (fun _ => ?_)
          clear hK K
          refine wpAnyH_ready (rs := [7]) (by kernel_rfl) (by simp) ?_
          refine ready_at (o := { dst := some 31, op := Go.Op.buildSlice 22 1 #[(0, Go.Operand.tmp 30)], type := 22, pos := "host.go:27", after := #[{ on := 6, ground := Go.Ground.data }], guard := none }) (by kernel_rfl) (by kernel_rfl) (fun K hK => ?_) ?_
          · go_simp
            obtain ⟨o7, ho7⟩ : ∃ o7, o7 = Obj.cells #[.slice ua xn uc, .bool xt] 33 := ⟨_, rfl⟩
            rw [← ho7]
            have hb7 := below_new w5 o7
            have HN7 := hid (news_at (w := w5) ho7)
            have hS7 : (w5.alloc o7).cell? ⟨Bx, 0, none⟩ = some (.slice xa xn xc) ∧ (w5.alloc o7).cell? ⟨Bx, 1, none⟩ = some (.bool xt) := ⟨later_cell hb7 hS5.1, later_cell hb7 hS5.2⟩
            have hHc7 := later_cell hb7 hHc5
            have HB7 := hid (HB7r.out.trans ((hb5.trans (hb7.mono hb5.size)).mono HB7r.out.size))
            have HL7 := hid (own_low (own_later hL5 hb7) HB7r.out.size)
            clear hb7 ho7
            refine hK.out _ _ hS7 (fun _ => ?_)
            clear hK K
            have hcr7 := HNI.out.cr.later HB7.out
            have hrow7 : (w5.alloc o7).ownsRow (w.heap.size + 1) 33 2 (.slice va k vc) k (flatR ys) := by have := hcr7.row; unfold LR at this; rw [hcr7.len] at this; exact this
            have hsz7 : w.heap.size + 1 ≤ (w5.alloc o7).heap.size := Nat.le_trans hz HB7.out.size
            refine wpAnyH_ready (rs := [8]) (by kernel_rfl) (by simp) ?_
            refine ready_at (o := { dst := some 32, op := Go.Op.call { callee := Go.Callee.builtin Go.Builtin.append, args := #[Go.Operand.tmp 28, Go.Operand.tmp 31], argTypes := #[22, 22] }, type := 22, pos := "host.go:27", after := #[{ on := 4, ground := Go.Ground.data }, { on := 7, ground := Go.Ground.data }, { on := 6, ground := Go.Ground.chain }], guard := none }) (by kernel_rfl) (by kernel_rfl) (fun K hK => ?_) ?_
            · refine wp_append_own _ (.tmp 28) (.tmp 31) 22 rfl (w.heap.size + 1) 33 i0 _ 2 32 Try.underlying22 hi hz0 hz1 hz2 rfl (by decide) (.slice va k vc) k (flatR ys) rfl hrow7 ⟨w5.heap.size, 0, none⟩ 1 1 [.slice ua xn uc, .bool xt] rfl rfl HN7.out (flatR_cells [⟨ua, xn, uc, xl, xt⟩]) (by unfold maxLen; omega) (by omega) hsz7 ?_
              intro v8 W8 hr8 hg8 _
              obtain ⟨va2, vc2, hv8, _⟩ := own_sl hr8
              subst hv8
              have hk8 := Kept.of_grown hg8
              have hB8 : ¬ some Bx = (Value.slice va k vc).ownBlock := fun e => by have := (own_ty HNI.out.cr.row e.symm).2.1; have := HBX.out; omega
              have hS8 : W8.cell? ⟨Bx, 0, none⟩ = some (.slice xa xn xc) ∧ W8.cell? ⟨Bx, 1, none⟩ = some (.bool xt) := ⟨hk8.cell hS7.1 hB8, hk8.cell hS7.2 hB8⟩
              have HST := hid (HNI.out.step (y := ⟨ua, xn, uc, xl, xt⟩) HB7.out hr8 hg8 HL7.out HD.out.1.symm HD.out.2.1 HD.out.2.2 HX.out)
              have b8 : W8.heap[w.heap.size]? = some (.cells #[.int .i64 T, .slice va k vc] 44) := (hk8.block _ hsz7 (fun e => by have := (own_ty HNI.out.cr.row e.symm).1; omega)).trans (blk_later HB7.out HNI.out.blk)
              have c8 : W8.cell? ⟨w.heap.size, 1, none⟩ = some (.slice va k vc) := cell_at b8
              have f8 : W8.frozen? ⟨w.heap.size, 1, none⟩ = false := free_at b8
              have hS9 : (W8.setCell ⟨w.heap.size, 1, none⟩ (.slice va2 (k + 1) vc2)).cell? ⟨Bx, 0, none⟩ = some (.slice xa xn xc) ∧ (W8.setCell ⟨w.heap.size, 1, none⟩ (.slice va2 (k + 1) vc2)).cell? ⟨Bx, 1, none⟩ = some (.bool xt) := ⟨(kept_set W8 _ _ _).cell hS8.1 (by have := HBX.out; omega), (kept_set W8 _ _ _).cell hS8.2 (by have := HBX.out; omega)⟩
              clear hk8 b8 hg8 hr8 hcr7 hrow7
              refine hK.out _ _ hS8 (fun _ => ?_)
              clear hK K
              refine take_at (i := 9) (oi := { dst := some 33, op := Go.Op.nilCheck (Go.Operand.tmp 24), type := 0, pos := "host.go:27", after := #[{ on := 0, ground := Go.Ground.data }, { on := 0, ground := Go.Ground.phase }, { on := 1, ground := Go.Ground.phase }, { on := 2, ground := Go.Ground.phase }, { on := 3, ground := Go.Ground.phase }, { on := 4, ground := Go.Ground.phase }, { on := 5, ground := Go.Ground.phase }, { on := 6, ground := Go.Ground.phase }, { on := 7, ground := Go.Ground.phase }, { on := 8, ground := Go.Ground.phase }], guard := none }) (d := some 33) (v := ?_) (by kernel_rfl) (by kernel_rfl) (by kernel_rfl) (by kernel_rfl) (by kernel_rfl) (fun _ _ _ h => h) (Or.inl ⟨by kernel_rfl, ?_⟩) (by assumption) ?_
              rotate_left 1
              · (intro w hSw; (try dsimp only at hSw); go_simp; try with_reducible rfl)
              try simp only [Act.put, List.setIfInBounds_toArray, List.set_cons_zero, List.set_cons_succ]
              refine take_at (i := 10) (oi := { dst := some 34, op := Go.Op.fieldAddr 44 (Go.Operand.tmp 33) 1, type := 0, pos := "host.go:27", after := #[{ on := 9, ground := Go.Ground.data }, { on := 0, ground := Go.Ground.phase }, { on := 1, ground := Go.Ground.phase }, { on := 2, ground := Go.Ground.phase }, { on := 3, ground := Go.Ground.phase }, { on := 4, ground := Go.Ground.phase }, { on := 5, ground := Go.Ground.phase }, { on := 6, ground := Go.Ground.phase }, { on := 7, ground := Go.Ground.phase }, { on := 8, ground := Go.Ground.phase }], guard := none }) (d := some 34) (v := ?_) (by kernel_rfl) (by kernel_rfl) (by kernel_rfl) (by kernel_rfl) (by kernel_rfl) (fun _ _ _ h => h) (Or.inl ⟨by kernel_rfl, ?_⟩) (by assumption) ?_
              rotate_left 1
              · (intro w hSw; (try dsimp only at hSw); go_simp; try with_reducible rfl)
              try simp only [Act.put, List.setIfInBounds_toArray, List.set_cons_zero, List.set_cons_succ]
              refine wpAnyH_ready (rs := [11]) (by kernel_rfl) (by simp) ?_
              refine ready_at (o := { dst := none, op := Go.Op.store 22 (Go.Operand.tmp 34) (Go.Operand.tmp 32), type := 0, pos := "host.go:27", after := #[{ on := 10, ground := Go.Ground.data }, { on := 8, ground := Go.Ground.data }, { on := 8, ground := Go.Ground.chain }, { on := 0, ground := Go.Ground.phase }, { on := 1, ground := Go.Ground.phase }, { on := 2, ground := Go.Ground.phase }, { on := 3, ground := Go.Ground.phase }, { on := 4, ground := Go.Ground.phase }, { on := 5, ground := Go.Ground.phase }, { on := 6, ground := Go.Ground.phase }, { on := 7, ground := Go.Ground.phase }, { on := 8, ground := Go.Ground.phase }], guard := none }) (by kernel_rfl) (by kernel_rfl) (fun K hK => ?_) ?_
              · go_simp
                refine hK.out _ _ hS9 (fun _ => ?_)
                clear hK K
                refine wpAnyH_done (by kernel_rfl) ?_ _
                generalize W8.setCell ⟨w.heap.size, 1, none⟩ (.slice va2 (k + 1) vc2) = W9 at *
                clear hS8 hS9 c8 f8 hS7 hHc7 hHw hHc hH hHeld
                go_wp2_with fail
                exact ⟨⟨k + 1, ys ++ [⟨ua, xn, uc, xl, xt⟩], va2, vc2, by omega, by go_num, HST.out⟩, by simp [intOf]; omega⟩
              exact AllReadyH.nil
            exact AllReadyH.nil
          exact AllReadyH.nil
        refine ready_at (o := { dst := some 31, op := Go.Op.buildSlice 22 1 #[(0, Go.Operand.tmp 30)], type := 22, pos := "host.go:27", after := #[{ on := 6, ground := Go.Ground.data }], guard := none }) (by kernel_rfl) (by kernel_rfl) (fun K hK => ?_) ?_
        · go_simp
          obtain ⟨o7, ho7⟩ : ∃ o7, o7 = Obj.cells #[.slice ua xn uc, .bool xt] 33 := ⟨_, rfl⟩
          rw [← ho7]
          have hb7 := below_new w5 o7
          have HN7 := hid (news_at (w := w5) ho7)
          have hS7 : (w5.alloc o7).cell? ⟨Bx, 0, none⟩ = some (.slice xa xn xc) ∧ (w5.alloc o7).cell? ⟨Bx, 1, none⟩ = some (.bool xt) := ⟨later_cell hb7 hS5.1, later_cell hb7 hS5.2⟩
          have hHc7 := later_cell hb7 hHc5
          have HB7 := hid (HB7r.out.trans ((hb5.trans (hb7.mono hb5.size)).mono HB7r.out.size))
          have HL7 := hid (own_low (own_later hL5 hb7) HB7r.out.size)
          clear hb7 ho7
          refine hK.out _ _ hS7 (fun _ => ?_)
          clear hK K
          refine wpAnyH_ready (rs := [4]) (by kernel_rfl) (by simp) ?_
          refine ready_at (o := { dst := some 28, op := Go.Op.load 22 (Go.Operand.tmp 27), type := 22, pos := "host.go:27", after := #[{ on := 3, ground := Go.Ground.data }], guard := none }) (by kernel_rfl) (by kernel_rfl) (fun K hK => ?_) ?_
          · go_simp
            refine hK.out _ _ hS7 (fun _ => ?_)
            clear hK K
            have hcr7 := HNI.out.cr.later HB7.out
            have hrow7 : (w5.alloc o7).ownsRow (w.heap.size + 1) 33 2 (.slice va k vc) k (flatR ys) := by have := hcr7.row; unfold LR at this; rw [hcr7.len] at this; exact this
            have hsz7 : w.heap.size + 1 ≤ (w5.alloc o7).heap.size := Nat.le_trans hz HB7.out.size
            refine wpAnyH_ready (rs := [8]) (by kernel_rfl) (by simp) ?_
            refine ready_at (o := { dst := some 32, op := Go.Op.call { callee := Go.Callee.builtin Go.Builtin.append, args := #[Go.Operand.tmp 28, Go.Operand.tmp 31], argTypes := #[22, 22] }, type := 22, pos := "host.go:27", after := #[{ on := 4, ground := Go.Ground.data }, { on := 7, ground := Go.Ground.data }, { on := 6, ground := Go.Ground.chain }], guard := none }) (by kernel_rfl) (by kernel_rfl) (fun K hK => ?_) ?_
            · refine wp_append_own _ (.tmp 28) (.tmp 31) 22 rfl (w.heap.size + 1) 33 i0 _ 2 32 Try.underlying22 hi hz0 hz1 hz2 rfl (by decide) (.slice va k vc) k (flatR ys) rfl hrow7 ⟨w5.heap.size, 0, none⟩ 1 1 [.slice ua xn uc, .bool xt] rfl rfl HN7.out (flatR_cells [⟨ua, xn, uc, xl, xt⟩]) (by unfold maxLen; omega) (by omega) hsz7 ?_
              intro v8 W8 hr8 hg8 _
              obtain ⟨va2, vc2, hv8, _⟩ := own_sl hr8
              subst hv8
              have hk8 := Kept.of_grown hg8
              have hB8 : ¬ some Bx = (Value.slice va k vc).ownBlock := fun e => by have := (own_ty HNI.out.cr.row e.symm).2.1; have := HBX.out; omega
              have hS8 : W8.cell? ⟨Bx, 0, none⟩ = some (.slice xa xn xc) ∧ W8.cell? ⟨Bx, 1, none⟩ = some (.bool xt) := ⟨hk8.cell hS7.1 hB8, hk8.cell hS7.2 hB8⟩
              have HST := hid (HNI.out.step (y := ⟨ua, xn, uc, xl, xt⟩) HB7.out hr8 hg8 HL7.out HD.out.1.symm HD.out.2.1 HD.out.2.2 HX.out)
              have b8 : W8.heap[w.heap.size]? = some (.cells #[.int .i64 T, .slice va k vc] 44) := (hk8.block _ hsz7 (fun e => by have := (own_ty HNI.out.cr.row e.symm).1; omega)).trans (blk_later HB7.out HNI.out.blk)
              have c8 : W8.cell? ⟨w.heap.size, 1, none⟩ = some (.slice va k vc) := cell_at b8
              have f8 : W8.frozen? ⟨w.heap.size, 1, none⟩ = false := free_at b8
              have hS9 : (W8.setCell ⟨w.heap.size, 1, none⟩ (.slice va2 (k + 1) vc2)).cell? ⟨Bx, 0, none⟩ = some (.slice xa xn xc) ∧ (W8.setCell ⟨w.heap.size, 1, none⟩ (.slice va2 (k + 1) vc2)).cell? ⟨Bx, 1, none⟩ = some (.bool xt) := ⟨(kept_set W8 _ _ _).cell hS8.1 (by have := HBX.out; omega), (kept_set W8 _ _ _).cell hS8.2 (by have := HBX.out; omega)⟩
              clear hk8 b8 hg8 hr8 hcr7 hrow7
              refine hK.out _ _ hS8 (fun _ => ?_)
              clear hK K
              refine take_at (i := 9) (oi := { dst := some 33, op := Go.Op.nilCheck (Go.Operand.tmp 24), type := 0, pos := "host.go:27", after := #[{ on := 0, ground := Go.Ground.data }, { on := 0, ground := Go.Ground.phase }, { on := 1, ground := Go.Ground.phase }, { on := 2, ground := Go.Ground.phase }, { on := 3, ground := Go.Ground.phase }, { on := 4, ground := Go.Ground.phase }, { on := 5, ground := Go.Ground.phase }, { on := 6, ground := Go.Ground.phase }, { on := 7, ground := Go.Ground.phase }, { on := 8, ground := Go.Ground.phase }], guard := none }) (d := some 33) (v := ?_) (by kernel_rfl) (by kernel_rfl) (by kernel_rfl) (by kernel_rfl) (by kernel_rfl) (fun _ _ _ h => h) (Or.inl ⟨by kernel_rfl, ?_⟩) (by assumption) ?_
              rotate_left 1
              · (intro w hSw; (try dsimp only at hSw); go_simp; try with_reducible rfl)
              try simp only [Act.put, List.setIfInBounds_toArray, List.set_cons_zero, List.set_cons_succ]
              refine take_at (i := 10) (oi := { dst := some 34, op := Go.Op.fieldAddr 44 (Go.Operand.tmp 33) 1, type := 0, pos := "host.go:27", after := #[{ on := 9, ground := Go.Ground.data }, { on := 0, ground := Go.Ground.phase }, { on := 1, ground := Go.Ground.phase }, { on := 2, ground := Go.Ground.phase }, { on := 3, ground := Go.Ground.phase }, { on := 4, ground := Go.Ground.phase }, { on := 5, ground := Go.Ground.phase }, { on := 6, ground := Go.Ground.phase }, { on := 7, ground := Go.Ground.phase }, { on := 8, ground := Go.Ground.phase }], guard := none }) (d := some 34) (v := ?_) (by kernel_rfl) (by kernel_rfl) (by kernel_rfl) (by kernel_rfl) (by kernel_rfl) (fun _ _ _ h => h) (Or.inl ⟨by kernel_rfl, ?_⟩) (by assumption) ?_
              rotate_left 1
              · (intro w hSw; (try dsimp only at hSw); go_simp; try with_reducible rfl)
              try simp only [Act.put, List.setIfInBounds_toArray, List.set_cons_zero, List.set_cons_succ]
              refine wpAnyH_ready (rs := [11]) (by kernel_rfl) (by simp) ?_
              refine ready_at (o := { dst := none, op := Go.Op.store 22 (Go.Operand.tmp 34) (Go.Operand.tmp 32), type := 0, pos := "host.go:27", after := #[{ on := 10, ground := Go.Ground.data }, { on := 8, ground := Go.Ground.data }, { on := 8, ground := Go.Ground.chain }, { on := 0, ground := Go.Ground.phase }, { on := 1, ground := Go.Ground.phase }, { on := 2, ground := Go.Ground.phase }, { on := 3, ground := Go.Ground.phase }, { on := 4, ground := Go.Ground.phase }, { on := 5, ground := Go.Ground.phase }, { on := 6, ground := Go.Ground.phase }, { on := 7, ground := Go.Ground.phase }, { on := 8, ground := Go.Ground.phase }], guard := none }) (by kernel_rfl) (by kernel_rfl) (fun K hK => ?_) ?_
              · go_simp
                refine hK.out _ _ hS9 (fun _ => ?_)
                clear hK K
                refine wpAnyH_done (by kernel_rfl) ?_ _
                generalize W8.setCell ⟨w.heap.size, 1, none⟩ (.slice va2 (k + 1) vc2) = W9 at *
                clear hS8 hS9 c8 f8 hS7 hHc7 hHw hHc hH hHeld
                go_wp2_with fail
                exact ⟨⟨k + 1, ys ++ [⟨ua, xn, uc, xl, xt⟩], va2, vc2, by omega, by go_num, HST.out⟩, by simp [intOf]; omega⟩
              exact AllReadyH.nil
            exact AllReadyH.nil
          exact AllReadyH.nil
        exact AllReadyH.nil
      exact AllReadyH.nil
    · have hkn : k = m := by omega
      have HK := hid hkn
      have d0 : ¬ (k : Int) < (m : Int) := by omega
      clear hni
      go_wp2_with fail
      go_ret
      refine NI.done (k := m) (ys := ys) (va := va) (vc := vc) ?_ (by rw [HZS.out]; exact HZL.out) hx
      rw [HZS.out, ← HK.out]
      exact HNI.out

set_option maxRecDepth 100000 in
set_option maxHeartbeats 8000000 in
theorem new9_neg (Q : Nat → Prop) (b off n c : Nat) (t : Int) (xs : List Rp) (w : World) (hr : RpS Q w (some ⟨b, off, none⟩) n c xs) (ht : t < 0) (ht2 : -9223372036854775808 ≤ t) (h0n : 0 < n) :
    Calls Try.prog 9 #[.slice (some ⟨b, off, none⟩) n c, .int .i64 t] w fun e w' => NewO w 0 xs e w' := by
  obtain ⟨T, hT0⟩ : ∃ T : Nat, T = 0 := ⟨0, rfl⟩
  have hn : n ≤ 2000 := hr.2.2.1
  have hc : n ≤ c := hr.2.1
  have hTn : T < n := by omega
  obtain ⟨m, hm⟩ : ∃ m, m = n - T := ⟨_, rfl⟩
  have hzl : m = (xs.drop T).length := by rw [List.length_drop, hr.1]; exact hm
  have hin : ∀ k, k < m → RpAt Q w b (off + T * 2 + k * 2) ((xs.drop T).getD k rp0) := fun k hk => by
    rcases hr.2.2.2 with h0 | ⟨b', off', e, _, h⟩
    · omega
    · cases e
      have := h (T + k) (by omega)
      rw [show off + (T + k) * 2 = off + T * 2 + k * 2 by omega] at this
      rw [List.getD_eq_getElem?_getD, List.getElem?_drop, ← List.getD_eq_getElem?_getD]
      exact this
  have HIN := hid hin
  have HZL := hid hzl
  have hx : m ≤ 2000 := by omega
  have hcT : ¬ c = T := by omega
  have hTn2 : ¬ n < T := by omega
  rw [show NewO w 0 xs = NewO w T xs by rw [hT0]]
  have hn0 : ((n : Nat) : Int) - 0 = m := by omega
  subst hT0
  have hmn : m = n := by omega
  have hmn2 := hmn.symm; subst hmn2; clear hmn hm
  rw [show off + 0 * 2 = off by omega] at HIN
  clear hin hzl hr
  generalize hzs : xs.drop 0 = zs at *
  have HZS := hid hzs
  clear hzs
  have HST := hid (NI.start w 0 zs)
  go_enter Try.func9, Try.ntmps9
  go_wp2_with fail
  go_loopw [20] (fun i wr => ∃ (k : Nat) (ys : List Rp) (va : Option Addr) (vc : Nat), k ≤ n ∧ i = .int .i64 k ∧ NI w 0 zs k ys va vc wr) (fun i _ => n - (intOf i).toNat)
  case atStart => exact ⟨0, [], none, 0, by omega, rfl, HST.out⟩
  case round =>
    obtain ⟨k, ys, va, vc, hk, rfl, hni⟩ := hrel
    have HNI := hid hni
    by_cases hkm : k < n
    · have hB1 : Below w.heap.size w wr := below_kept (below_new w _) hni.kept (by simp) (fun k e => by omega)
      have hin := (HIN.out k hkm).later hB1
      obtain ⟨x, hx⟩ : ∃ x, x = zs.getD k rp0 := ⟨_, rfl⟩
      rw [← hx] at hin
      have HX : Hid (x.l = (zs.getD k rp0).l ∧ x.tr = (zs.getD k rp0).tr) := hid (by rw [hx]; exact ⟨rfl, rfl⟩)
      clear hx
      obtain ⟨xa, xn, xc, xl, xt⟩ := x
      obtain ⟨d0, d1, d2⟩ := hin
      simp only at d0 d1 d2 HX
      have HD := hid (And.intro d2.1 (And.intro d2.2.2.1 d2.2.2.2.1))
      have hkm' : (k : Int) < (n : Int) := by omega
      have hz : w.heap.size + 1 ≤ wr.heap.size := by have := hni.kept.size; simpa using this
      have HSG := hid d2
      clear d2 hni hB1 HST
      go_wp2_with fail
      obtain ⟨Bx, hBx⟩ : ∃ Bx, Bx = wr.heap.size := ⟨_, rfl⟩
      obtain ⟨ob, hob⟩ : ∃ ob, ob = Obj.cells #[.slice xa xn xc, .bool xt] 33 := ⟨_, rfl⟩
      rw [← hBx, ← hob]
      have hBr : Below wr.heap.size wr (wr.alloc ob).drew := (below_new wr ob).drew
      have bx : (wr.alloc ob).drew.heap[Bx]? = some ob := by rw [hBx]; exact heap_alloc_new wr ob
      have s0 : (wr.alloc ob).drew.cell? ⟨Bx, 0, none⟩ = some (.slice xa xn xc) := by rw [hob] at bx ⊢; exact cell_at bx
      have s1 : (wr.alloc ob).drew.cell? ⟨Bx, 1, none⟩ = some (.bool xt) := by rw [hob] at bx ⊢; exact cell_at bx
      have hH : (wr.alloc ob).drew.cell? ⟨Bx, 0, none⟩ = some (.slice xa xn xc) ∧ (wr.alloc ob).drew.cell? ⟨Bx, 1, none⟩ = some (.bool xt) := ⟨s0, s1⟩
      have HB7r := hid hBr
      have HOW := hid (own18 Q xa xn xc xl xt _ (HSG.out.later hBr))
      have hHw : (wr.alloc ob).drew.heap[w.heap.size]? = some (.cells #[.int .i64 0, .slice va k vc] 44) := blk_later hBr HNI.out.blk
      obtain ⟨i0, hi, hz0, hz1, hz2⟩ := info_parts Try.infR
      have HBX := hid hBx
      clear d0 d1 bx hBr s0 s1 hBx
      refine wp_region_held_drew (S := (fun W => W.cell? ⟨Bx, 0, none⟩ = some (.slice xa xn xc) ∧ W.cell? ⟨Bx, 1, none⟩ = some (.bool xt))) (by kernel_rfl) hH (fun hHeld => ?_)
      generalize (wr.alloc ob).drew = WD at *
      have hHc : WD.cell? ⟨w.heap.size, 1, none⟩ = some (.slice va k vc) := cell_at hHw
      refine take_at (i := 0) (oi := { dst := some 24, op := Go.Op.move (Go.Operand.tmp 5), type := 28, pos := "host.go:27", after := #[], guard := none }) (d := some 24) (v := ?_) (by kernel_rfl) (by kernel_rfl) (by kernel_rfl) (by kernel_rfl) (by kernel_rfl) (fun _ _ _ h => h) (Or.inl ⟨by kernel_rfl, ?_⟩) (by assumption) ?_
      rotate_left 1
      · (intro w hSw; (try dsimp only at hSw); go_simp; try with_reducible rfl)
      try simp only [Act.put, List.setIfInBounds_toArray, List.set_cons_zero, List.set_cons_succ]
      refine take_at (i := 1) (oi := { dst := some 25, op := Go.Op.move (Go.Operand.tmp 5), type := 28, pos := "host.go:27", after := #[], guard := none }) (d := some 25) (v := ?_) (by kernel_rfl) (by kernel_rfl) (by kernel_rfl) (by kernel_rfl) (by kernel_rfl) (fun _ _ _ h => h) (Or.inl ⟨by kernel_rfl, ?_⟩) (by assumption) ?_
      rotate_left 1
      · (intro w hSw; (try dsimp only at hSw); go_simp; try with_reducible rfl)
      try simp only [Act.put, List.setIfInBounds_toArray, List.set_cons_zero, List.set_cons_succ]
      refine take_at (i := 2) (oi := { dst := some 26, op := Go.Op.nilCheck (Go.Operand.tmp 25), type := 0, pos := "host.go:27", after := #[{ on := 1, ground := Go.Ground.data }], guard := none }) (d := some 26) (v := ?_) (by kernel_rfl) (by kernel_rfl) (by kernel_rfl) (by kernel_rfl) (by kernel_rfl) (fun _ _ _ h => h) (Or.inl ⟨by kernel_rfl, ?_⟩) (by assumption) ?_
      rotate_left 1
      · (intro w hSw; (try dsimp only at hSw); go_simp; try with_reducible rfl)
      try simp only [Act.put, List.setIfInBounds_toArray, List.set_cons_zero, List.set_cons_succ]
      refine take_at (i := 3) (oi := { dst := some 27, op := Go.Op.fieldAddr 44 (Go.Operand.tmp 26) 1, type := 0, pos := "host.go:27", after := #[{ on := 2, ground := Go.Ground.data }], guard := none }) (d := some 27) (v := ?_) (by kernel_rfl) (by kernel_rfl) (by kernel_rfl) (by kernel_rfl) (by kernel_rfl) (fun _ _ _ h => h) (Or.inl ⟨by kernel_rfl, ?_⟩) (by assumption) ?_
      rotate_left 1
      · (intro w hSw; (try dsimp only at hSw); go_simp; try with_reducible rfl)
      try simp only [Act.put, List.setIfInBounds_toArray, List.set_cons_zero, List.set_cons_succ]
      refine take_at (i := 5) (oi := { dst := some 29, op := Go.Op.load 33 (Go.Operand.tmp 7), type := 33, pos := "host.go:27", after := #[], guard := none }) (d := some 29) (v := ?_) (by kernel_rfl) (by kernel_rfl) (by kernel_rfl) (by kernel_rfl) (by kernel_rfl) (fun _ _ _ h => h) (Or.inl ⟨by kernel_rfl, ?_⟩) (by assumption) ?_
      rotate_left 1
      · (intro w hSw; (try dsimp only at hSw); go_simp; try with_reducible rfl)
      try simp only [Act.put, List.setIfInBounds_toArray, List.set_cons_zero, List.set_cons_succ]
      refine wpAnyH_ready (rs := [4, 6]) (by kernel_rfl) (by simp) ?_
      refine ready_at (o := { dst := some 28, op := Go.Op.load 22 (Go.Operand.tmp 27), type := 22, pos := "host.go:27", after := #[{ on := 3, ground := Go.Ground.data }], guard := none }) (by kernel_rfl) (by kernel_rfl) (fun K hK => ?_) ?_
      · go_simp
        refine hK.out _ _ hH (fun _ => ?_)
        clear hK K
        refine wpAnyH_ready (rs := [6]) (by kernel_rfl) (by simp) ?_
        refine ready_at (o := { dst := some 30, op := Go.Op.call { callee := Go.Callee.value (Go.Operand.func 18), args := #[Go.Operand.tmp 29], argTypes := #[33] }, type := 33, pos := "host.go:27", after := #[{ on := 5, ground := Go.Ground.data }], guard := none }) (by kernel_rfl) (by kernel_rfl) (fun K hK => ?_) ?_
        · go_simp
          refine HOW.out.mono ?_
          rintro e w5 ⟨ua, uc, rfl, hL5, hb5⟩
          have hS5 : w5.cell? ⟨Bx, 0, none⟩ = some (.slice xa xn xc) ∧ w5.cell? ⟨Bx, 1, none⟩ = some (.bool xt) := ⟨later_cell hb5 hH.1, later_cell hb5 hH.2⟩
          have hHc5 := later_cell hb5 hHc
          refine hK.out _ _ hS5 (fun _ => ?_)
          clear hK K
          refine wpAnyH_ready (rs := [7]) (by kernel_rfl) (by simp) ?_
          refine ready_at (o := { dst := some 31, op := Go.Op.buildSlice 22 1 #[(0, Go.Operand.tmp 30)], type := 22, pos := "host.go:27", after := #[{ on := 6, ground := Go.Ground.data }], guard := none }) (by kernel_rfl) (by kernel_rfl) (fun K hK => ?_) ?_
          · go_simp
            obtain ⟨o7, ho7⟩ : ∃ o7, o7 = Obj.cells #[.slice ua xn uc, .bool xt] 33 := ⟨_, rfl⟩
            rw [← ho7]
            have hb7 := below_new w5 o7
            have HN7 := hid (news_at (w := w5) ho7)
            have hS7 : (w5.alloc o7).cell? ⟨Bx, 0, none⟩ = some (.slice xa xn xc) ∧ (w5.alloc o7).cell? ⟨Bx, 1, none⟩ = some (.bool xt) := ⟨later_cell hb7 hS5.1, later_cell hb7 hS5.2⟩
            have hHc7 := later_cell hb7 hHc5
            have HB7 := hid (HB7r.out.trans ((hb5.trans (hb7.mono hb5.size)).mono HB7r.out.size))
            have HL7 := hid (own_low (own_later hL5 hb7) HB7r.out.size)
            clear hb7 ho7
            refine hK.out _ _ hS7 (fun _ => ?_)
            clear hK K
            have hcr7 := HNI.out.cr.later HB7.out
            have hrow7 : (w5.alloc o7).ownsRow (w.heap.size + 1) 33 2 (.slice va k vc) k (flatR ys) := by have := hcr7.row; unfold LR at this; rw [hcr7.len] at this; exact this
            have hsz7 : w.heap.size + 1 ≤ (w5.alloc o7).heap.size := Nat.le_trans hz HB7.out.size
            refine wpAnyH_ready (rs := [8]) (by kernel_rfl) (by simp) ?_
            refine ready_at (o := { dst := some 32, op := Go.Op.call { callee := Go.Callee.builtin Go.Builtin.append, args := #[Go.Operand.tmp 28, Go.Operand.tmp 31], argTypes := #[22, 22] }, type := 22, pos := "host.go:27", after := #[{ on := 4, ground := Go.Ground.data }, { on := 7, ground := Go.Ground.data }, { on := 6, ground := Go.Ground.chain }], guard := none }) (by kernel_rfl) (by kernel_rfl) (fun K hK => ?_) ?_
            · refine wp_append_own _ (.tmp 28) (.tmp 31) 22 rfl (w.heap.size + 1) 33 i0 _ 2 32 Try.underlying22 hi hz0 hz1 hz2 rfl (by decide) (.slice va k vc) k (flatR ys) rfl hrow7 ⟨w5.heap.size, 0, none⟩ 1 1 [.slice ua xn uc, .bool xt] rfl rfl HN7.out (flatR_cells [⟨ua, xn, uc, xl, xt⟩]) (by unfold maxLen; omega) (by omega) hsz7 ?_
              intro v8 W8 hr8 hg8 _
              obtain ⟨va2, vc2, hv8, _⟩ := own_sl hr8
              subst hv8
              have hk8 := Kept.of_grown hg8
              have hB8 : ¬ some Bx = (Value.slice va k vc).ownBlock := fun e => by have := (own_ty HNI.out.cr.row e.symm).2.1; have := HBX.out; omega
              have hS8 : W8.cell? ⟨Bx, 0, none⟩ = some (.slice xa xn xc) ∧ W8.cell? ⟨Bx, 1, none⟩ = some (.bool xt) := ⟨hk8.cell hS7.1 hB8, hk8.cell hS7.2 hB8⟩
              have HST := hid (HNI.out.step (y := ⟨ua, xn, uc, xl, xt⟩) HB7.out hr8 hg8 HL7.out HD.out.1.symm HD.out.2.1 HD.out.2.2 HX.out)
              have b8 : W8.heap[w.heap.size]? = some (.cells #[.int .i64 0, .slice va k vc] 44) := (hk8.block _ hsz7 (fun e => by have := (own_ty HNI.out.cr.row e.symm).1; omega)).trans (blk_later HB7.out HNI.out.blk)
              have c8 : W8.cell? ⟨w.heap.size, 1, none⟩ = some (.slice va k vc) := cell_at b8
              have f8 : W8.frozen? ⟨w.heap.size, 1, none⟩ = false := free_at b8
              have hS9 : (W8.setCell ⟨w.heap.size, 1, none⟩ (.slice va2 (k + 1) vc2)).cell? ⟨Bx, 0, none⟩ = some (.slice xa xn xc) ∧ (W8.setCell ⟨w.heap.size, 1, none⟩ (.slice va2 (k + 1) vc2)).cell? ⟨Bx, 1, none⟩ = some (.bool xt) := ⟨(kept_set W8 _ _ _).cell hS8.1 (by have := HBX.out; omega), (kept_set W8 _ _ _).cell hS8.2 (by have := HBX.out; omega)⟩
              clear hk8 b8 hg8 hr8 hcr7 hrow7
              refine hK.out _ _ hS8 (fun _ => ?_)
              clear hK K
              refine take_at (i := 9) (oi := { dst := some 33, op := Go.Op.nilCheck (Go.Operand.tmp 24), type := 0, pos := "host.go:27", after := #[{ on := 0, ground := Go.Ground.data }, { on := 0, ground := Go.Ground.phase }, { on := 1, ground := Go.Ground.phase }, { on := 2, ground := Go.Ground.phase }, { on := 3, ground := Go.Ground.phase }, { on := 4, ground := Go.Ground.phase }, { on := 5, ground := Go.Ground.phase }, { on := 6, ground := Go.Ground.phase }, { on := 7, ground := Go.Ground.phase }, { on := 8, ground := Go.Ground.phase }], guard := none }) (d := some 33) (v := ?_) (by kernel_rfl) (by kernel_rfl) (by kernel_rfl) (by kernel_rfl) (by kernel_rfl) (fun _ _ _ h => h) (Or.inl ⟨by kernel_rfl, ?_⟩) (by assumption) ?_
              rotate_left 1
              · (intro w hSw; (try dsimp only at hSw); go_simp; try with_reducible rfl)
              try simp only [Act.put, List.setIfInBounds_toArray, List.set_cons_zero, List.set_cons_succ]
              refine take_at (i := 10) (oi := { dst := some 34, op := Go.Op.fieldAddr 44 (Go.Operand.tmp 33) 1, type := 0, pos := "host.go:27", after := #[{ on := 9, ground := Go.Ground.data }, { on := 0, ground := Go.Ground.phase }, { on := 1, ground := Go.Ground.phase }, { on := 2, ground := Go.Ground.phase }, { on := 3, ground := Go.Ground.phase }, { on := 4, ground := Go.Ground.phase }, { on := 5, ground := Go.Ground.phase }, { on := 6, ground := Go.Ground.phase }, { on := 7, ground := Go.Ground.phase }, { on := 8, ground := Go.Ground.phase }], guard := none }) (d := some 34) (v := ?_) (by kernel_rfl) (by kernel_rfl) (by kernel_rfl) (by kernel_rfl) (by kernel_rfl) (fun _ _ _ h => h) (Or.inl ⟨by kernel_rfl, ?_⟩) (by assumption) ?_
              rotate_left 1
              · (intro w hSw; (try dsimp only at hSw); go_simp; try with_reducible rfl)
              try simp only [Act.put, List.setIfInBounds_toArray, List.set_cons_zero, List.set_cons_succ]
              refine wpAnyH_ready (rs := [11]) (by kernel_rfl) (by simp) ?_
              refine ready_at (o := { dst := none, op := Go.Op.store 22 (Go.Operand.tmp 34) (Go.Operand.tmp 32), type := 0, pos := "host.go:27", after := #[{ on := 10, ground := Go.Ground.data }, { on := 8, ground := Go.Ground.data }, { on := 8, ground := Go.Ground.chain }, { on := 0, ground := Go.Ground.phase }, { on := 1, ground := Go.Ground.phase }, { on := 2, ground := Go.Ground.phase }, { on := 3, ground := Go.Ground.phase }, { on := 4, ground := Go.Ground.phase }, { on := 5, ground := Go.Ground.phase }, { on := 6, ground := Go.Ground.phase }, { on := 7, ground := Go.Ground.phase }, { on := 8, ground := Go.Ground.phase }], guard := none }) (by kernel_rfl) (by kernel_rfl) (fun K hK => ?_) ?_
              · go_simp
                refine hK.out _ _ hS9 (fun _ => ?_)
                clear hK K
                refine wpAnyH_done (by kernel_rfl) ?_ _
                generalize W8.setCell ⟨w.heap.size, 1, none⟩ (.slice va2 (k + 1) vc2) = W9 at *
                clear hS8 hS9 c8 f8 hS7 hHc7 hHw hHc hH hHeld
                go_wp2_with fail
                exact ⟨⟨k + 1, ys ++ [⟨ua, xn, uc, xl, xt⟩], va2, vc2, by omega, by go_num, HST.out⟩, by simp [intOf]; omega⟩
              exact AllReadyH.nil
            exact AllReadyH.nil
          exact AllReadyH.nil
        exact AllReadyH.nil
      refine ready_at (o := { dst := some 30, op := Go.Op.call { callee := Go.Callee.value (Go.Operand.func 18), args := #[Go.Operand.tmp 29], argTypes := #[33] }, type := 33, pos := "host.go:27", after := #[{ on := 5, ground := Go.Ground.data }], guard := none }) (by kernel_rfl) (by kernel_rfl) (fun K hK => ?_) ?_
      · go_simp
        refine HOW.out.mono ?_
        rintro e w5 ⟨ua, uc, rfl, hL5, hb5⟩
        have hS5 : w5.cell? ⟨Bx, 0, none⟩ = some (.slice xa xn xc) ∧ w5.cell? ⟨Bx, 1, none⟩ = some (.bool xt) := ⟨later_cell hb5 hH.1, later_cell hb5 hH.2⟩
        have hHc5 := later_cell hb5 hHc
        refine hK.out _ _ hS5 (fun _ => ?_)
        clear hK K
        refine wpAnyH_ready (rs := [4, 7]) (by kernel_rfl) (by simp) ?_
        refine ready_at (o := { dst := some 28, op := Go.Op.load 22 (Go.Operand.tmp 27), type := 22, pos := "host.go:27", after := #[{ on := 3, ground := Go.Ground.data }], guard := none }) (by kernel_rfl) (by kernel_rfl) (fun K hK => ?_) ?_
        · go_simp
          refine hK.out _ _ hS5 (fun _ => ?_)
          clear hK K
          refine wpAnyH_ready (rs := [7]) (by kernel_rfl) (by simp) ?_
          refine ready_at (o := { dst := some 31, op := Go.Op.buildSlice 22 1 #[(0, Go.Operand.tmp 30)], type := 22, pos := "host.go:27", after := #[{ on := 6, ground := Go.Ground.data }], guard := none }) (by kernel_rfl) (by kernel_rfl) (fun K hK => ?_) ?_
          · go_simp
            obtain ⟨o7, ho7⟩ : ∃ o7, o7 = Obj.cells #[.slice ua xn uc, .bool xt] 33 := ⟨_, rfl⟩
            rw [← ho7]
            have hb7 := below_new w5 o7
            have HN7 := hid (news_at (w := w5) ho7)
            have hS7 : (w5.alloc o7).cell? ⟨Bx, 0, none⟩ = some (.slice xa xn xc) ∧ (w5.alloc o7).cell? ⟨Bx, 1, none⟩ = some (.bool xt) := ⟨later_cell hb7 hS5.1, later_cell hb7 hS5.2⟩
            have hHc7 := later_cell hb7 hHc5
            have HB7 := hid (HB7r.out.trans ((hb5.trans (hb7.mono hb5.size)).mono HB7r.out.size))
            have HL7 := hid (own_low (own_later hL5 hb7) HB7r.out.size)
            clear hb7 ho7
            refine hK.out _ _ hS7 (fun _ => ?_)
            clear hK K
            have hcr7 := HNI.out.cr.later HB7.out
            have hrow7 : (w5.alloc o7).ownsRow (w.heap.size + 1) 33 2 (.slice va k vc) k (flatR ys) := by have := hcr7.row; unfold LR at this; rw [hcr7.len] at this; exact this
            have hsz7 : w.heap.size + 1 ≤ (w5.alloc o7).heap.size := Nat.le_trans hz HB7.out.size
            refine wpAnyH_ready (rs := [8]) (by kernel_rfl) (by simp) ?_
            refine ready_at (o := { dst := some 32, op := Go.Op.call { callee := Go.Callee.builtin Go.Builtin.append, args := #[Go.Operand.tmp 28, Go.Operand.tmp 31], argTypes := #[22, 22] }, type := 22, pos := "host.go:27", after := #[{ on := 4, ground := Go.Ground.data }, { on := 7, ground := Go.Ground.data }, { on := 6, ground := Go.Ground.chain }], guard := none }) (by kernel_rfl) (by kernel_rfl) (fun K hK => ?_) ?_
            · refine wp_append_own _ (.tmp 28) (.tmp 31) 22 rfl (w.heap.size + 1) 33 i0 _ 2 32 Try.underlying22 hi hz0 hz1 hz2 rfl (by decide) (.slice va k vc) k (flatR ys) rfl hrow7 ⟨w5.heap.size, 0, none⟩ 1 1 [.slice ua xn uc, .bool xt] rfl rfl HN7.out (flatR_cells [⟨ua, xn, uc, xl, xt⟩]) (by unfold maxLen; omega) (by omega) hsz7 ?_
              intro v8 W8 hr8 hg8 _
              obtain ⟨va2, vc2, hv8, _⟩ := own_sl hr8
              subst hv8
              have hk8 := Kept.of_grown hg8
              have hB8 : ¬ some Bx = (Value.slice va k vc).ownBlock := fun e => by have := (own_ty HNI.out.cr.row e.symm).2.1; have := HBX.out; omega
              have hS8 : W8.cell? ⟨Bx, 0, none⟩ = some (.slice xa xn xc) ∧ W8.cell? ⟨Bx, 1, none⟩ = some (.bool xt) := ⟨hk8.cell hS7.1 hB8, hk8.cell hS7.2 hB8⟩
              have HST := hid (HNI.out.step (y := ⟨ua, xn, uc, xl, xt⟩) HB7.out hr8 hg8 HL7.out HD.out.1.symm HD.out.2.1 HD.out.2.2 HX.out)
              have b8 : W8.heap[w.heap.size]? = some (.cells #[.int .i64 0, .slice va k vc] 44) := (hk8.block _ hsz7 (fun e => by have := (own_ty HNI.out.cr.row e.symm).1; omega)).trans (blk_later HB7.out HNI.out.blk)
              have c8 : W8.cell? ⟨w.heap.size, 1, none⟩ = some (.slice va k vc) := cell_at b8
              have f8 : W8.frozen? ⟨w.heap.size, 1, none⟩ = false := free_at b8
              have hS9 : (W8.setCell ⟨w.heap.size, 1, none⟩ (.slice va2 (k + 1) vc2)).cell? ⟨Bx, 0, none⟩ = some (.slice xa xn xc) ∧ (W8.setCell ⟨w.heap.size, 1, none⟩ (.slice va2 (k + 1) vc2)).cell? ⟨Bx, 1, none⟩ = some (.bool xt) := ⟨(kept_set W8 _ _ _).cell hS8.1 (by have := HBX.out; omega), (kept_set W8 _ _ _).cell hS8.2 (by have := HBX.out; omega)⟩
              clear hk8 b8 hg8 hr8 hcr7 hrow7
              refine hK.out _ _ hS8 (fun _ => ?_)
              clear hK K
              refine take_at (i := 9) (oi := { dst := some 33, op := Go.Op.nilCheck (Go.Operand.tmp 24), type := 0, pos := "host.go:27", after := #[{ on := 0, ground := Go.Ground.data }, { on := 0, ground := Go.Ground.phase }, { on := 1, ground := Go.Ground.phase }, { on := 2, ground := Go.Ground.phase }, { on := 3, ground := Go.Ground.phase }, { on := 4, ground := Go.Ground.phase }, { on := 5, ground := Go.Ground.phase }, { on := 6, ground := Go.Ground.phase }, { on := 7, ground := Go.Ground.phase }, { on := 8, ground := Go.Ground.phase }], guard := none }) (d := some 33) (v := ?_) (by kernel_rfl) (by kernel_rfl) (by kernel_rfl) (by kernel_rfl) (by kernel_rfl) (fun _ _ _ h => h) (Or.inl ⟨by kernel_rfl, ?_⟩) (by assumption) ?_
              rotate_left 1
              · (intro w hSw; (try dsimp only at hSw); go_simp; try with_reducible rfl)
              try simp only [Act.put, List.setIfInBounds_toArray, List.set_cons_zero, List.set_cons_succ]
              refine take_at (i := 10) (oi := { dst := some 34, op := Go.Op.fieldAddr 44 (Go.Operand.tmp 33) 1, type := 0, pos := "host.go:27", after := #[{ on := 9, ground := Go.Ground.data }, { on := 0, ground := Go.Ground.phase }, { on := 1, ground := Go.Ground.phase }, { on := 2, ground := Go.Ground.phase }, { on := 3, ground := Go.Ground.phase }, { on := 4, ground := Go.Ground.phase }, { on := 5, ground := Go.Ground.phase }, { on := 6, ground := Go.Ground.phase }, { on := 7, ground := Go.Ground.phase }, { on := 8, ground := Go.Ground.phase }], guard := none }) (d := some 34) (v := ?_) (by kernel_rfl) (by kernel_rfl) (by kernel_rfl) (by kernel_rfl) (by kernel_rfl) (fun _ _ _ h => h) (Or.inl ⟨by kernel_rfl, ?_⟩) (by assumption) ?_
              rotate_left 1
              · (intro w hSw; (try dsimp only at hSw); go_simp; try with_reducible rfl)
              try simp only [Act.put, List.setIfInBounds_toArray, List.set_cons_zero, List.set_cons_succ]
              refine wpAnyH_ready (rs := [11]) (by kernel_rfl) (by simp) ?_
              refine ready_at (o := { dst := none, op := Go.Op.store 22 (Go.Operand.tmp 34) (Go.Operand.tmp 32), type := 0, pos := "host.go:27", after := #[{ on := 10, ground := Go.Ground.data }, { on := 8, ground := Go.Ground.data }, { on := 8, ground := Go.Ground.chain }, { on := 0, ground := Go.Ground.phase }, { on := 1, ground := Go.Ground.phase }, { on := 2, ground := Go.Ground.phase }, { on := 3, ground := Go.Ground.phase }, { on := 4, ground := Go.Ground.phase }, { on := 5, ground := Go.Ground.phase }, { on := 6, ground := Go.Ground.phase }, { on := 7, ground := Go.Ground.phase }, { on := 8, ground := Go.Ground.phase }], guard := none }) (by kernel_rfl) (by kernel_rfl) (fun K hK => ?_) ?_
              · go_simp
                refine hK.out _ _ hS9 (fun _ => ?_)
                clear hK K
                refine wpAnyH_done (by kernel_rfl) ?_ _
                generalize W8.setCell ⟨w.heap.size, 1, none⟩ (.slice va2 (k + 1) vc2) = W9 at *
                clear hS8 hS9 c8 f8 hS7 hHc7 hHw hHc hH hHeld
                go_wp2_with fail
                exact ⟨⟨k + 1, ys ++ [⟨ua, xn, uc, xl, xt⟩], va2, vc2, by omega, by go_num, HST.out⟩, by simp [intOf]; omega⟩
              exact AllReadyH.nil
            exact AllReadyH.nil
          exact AllReadyH.nil
        refine ready_at (o := { dst := some 31, op := Go.Op.buildSlice 22 1 #[(0, Go.Operand.tmp 30)], type := 22, pos := "host.go:27", after := #[{ on := 6, ground := Go.Ground.data }], guard := none }) (by kernel_rfl) (by kernel_rfl) (fun K hK => ?_) ?_
        · go_simp
          obtain ⟨o7, ho7⟩ : ∃ o7, o7 = Obj.cells #[.slice ua xn uc, .bool xt] 33 := ⟨_, rfl⟩
          rw [← ho7]
          have hb7 := below_new w5 o7
          have HN7 := hid (news_at (w := w5) ho7)
          have hS7 : (w5.alloc o7).cell? ⟨Bx, 0, none⟩ = some (.slice xa xn xc) ∧ (w5.alloc o7).cell? ⟨Bx, 1, none⟩ = some (.bool xt) := ⟨later_cell hb7 hS5.1, later_cell hb7 hS5.2⟩
          have hHc7 := later_cell hb7 hHc5
          have HB7 := hid (HB7r.out.trans ((hb5.trans (hb7.mono hb5.size)).mono HB7r.out.size))
          have HL7 := hid (own_low (own_later hL5 hb7) HB7r.out.size)
          clear hb7 ho7
          refine hK.out _ _ hS7 (fun _ => ?_)
          clear hK K
          refine wpAnyH_ready (rs := [4]) (by kernel_rfl) (by simp) ?_
          refine ready_at (o := { dst := some 28, op := Go.Op.load 22 (Go.Operand.tmp 27), type := 22, pos := "host.go:27", after := #[{ on := 3, ground := Go.Ground.data }], guard := none }) (by kernel_rfl) (by kernel_rfl) (fun K hK => ?_) ?_
          · go_simp
            refine hK.out _ _ hS7 (fun _ => ?_)
            clear hK K
            have hcr7 := HNI.out.cr.later HB7.out
            have hrow7 : (w5.alloc o7).ownsRow (w.heap.size + 1) 33 2 (.slice va k vc) k (flatR ys) := by have := hcr7.row; unfold LR at this; rw [hcr7.len] at this; exact this
            have hsz7 : w.heap.size + 1 ≤ (w5.alloc o7).heap.size := Nat.le_trans hz HB7.out.size
            refine wpAnyH_ready (rs := [8]) (by kernel_rfl) (by simp) ?_
            refine ready_at (o := { dst := some 32, op := Go.Op.call { callee := Go.Callee.builtin Go.Builtin.append, args := #[Go.Operand.tmp 28, Go.Operand.tmp 31], argTypes := #[22, 22] }, type := 22, pos := "host.go:27", after := #[{ on := 4, ground := Go.Ground.data }, { on := 7, ground := Go.Ground.data }, { on := 6, ground := Go.Ground.chain }], guard := none }) (by kernel_rfl) (by kernel_rfl) (fun K hK => ?_) ?_
            · refine wp_append_own _ (.tmp 28) (.tmp 31) 22 rfl (w.heap.size + 1) 33 i0 _ 2 32 Try.underlying22 hi hz0 hz1 hz2 rfl (by decide) (.slice va k vc) k (flatR ys) rfl hrow7 ⟨w5.heap.size, 0, none⟩ 1 1 [.slice ua xn uc, .bool xt] rfl rfl HN7.out (flatR_cells [⟨ua, xn, uc, xl, xt⟩]) (by unfold maxLen; omega) (by omega) hsz7 ?_
              intro v8 W8 hr8 hg8 _
              obtain ⟨va2, vc2, hv8, _⟩ := own_sl hr8
              subst hv8
              have hk8 := Kept.of_grown hg8
              have hB8 : ¬ some Bx = (Value.slice va k vc).ownBlock := fun e => by have := (own_ty HNI.out.cr.row e.symm).2.1; have := HBX.out; omega
              have hS8 : W8.cell? ⟨Bx, 0, none⟩ = some (.slice xa xn xc) ∧ W8.cell? ⟨Bx, 1, none⟩ = some (.bool xt) := ⟨hk8.cell hS7.1 hB8, hk8.cell hS7.2 hB8⟩
              have HST := hid (HNI.out.step (y := ⟨ua, xn, uc, xl, xt⟩) HB7.out hr8 hg8 HL7.out HD.out.1.symm HD.out.2.1 HD.out.2.2 HX.out)
              have b8 : W8.heap[w.heap.size]? = some (.cells #[.int .i64 0, .slice va k vc] 44) := (hk8.block _ hsz7 (fun e => by have := (own_ty HNI.out.cr.row e.symm).1; omega)).trans (blk_later HB7.out HNI.out.blk)
              have c8 : W8.cell? ⟨w.heap.size, 1, none⟩ = some (.slice va k vc) := cell_at b8
              have f8 : W8.frozen? ⟨w.heap.size, 1, none⟩ = false := free_at b8
              have hS9 : (W8.setCell ⟨w.heap.size, 1, none⟩ (.slice va2 (k + 1) vc2)).cell? ⟨Bx, 0, none⟩ = some (.slice xa xn xc) ∧ (W8.setCell ⟨w.heap.size, 1, none⟩ (.slice va2 (k + 1) vc2)).cell? ⟨Bx, 1, none⟩ = some (.bool xt) := ⟨(kept_set W8 _ _ _).cell hS8.1 (by have := HBX.out; omega), (kept_set W8 _ _ _).cell hS8.2 (by have := HBX.out; omega)⟩
              clear hk8 b8 hg8 hr8 hcr7 hrow7
              refine hK.out _ _ hS8 (fun _ => ?_)
              clear hK K
              refine take_at (i := 9) (oi := { dst := some 33, op := Go.Op.nilCheck (Go.Operand.tmp 24), type := 0, pos := "host.go:27", after := #[{ on := 0, ground := Go.Ground.data }, { on := 0, ground := Go.Ground.phase }, { on := 1, ground := Go.Ground.phase }, { on := 2, ground := Go.Ground.phase }, { on := 3, ground := Go.Ground.phase }, { on := 4, ground := Go.Ground.phase }, { on := 5, ground := Go.Ground.phase }, { on := 6, ground := Go.Ground.phase }, { on := 7, ground := Go.Ground.phase }, { on := 8, ground := Go.Ground.phase }], guard := none }) (d := some 33) (v := ?_) (by kernel_rfl) (by kernel_rfl) (by kernel_rfl) (by kernel_rfl) (by kernel_rfl) (fun _ _ _ h => h) (Or.inl ⟨by kernel_rfl, ?_⟩) (by assumption) ?_
              rotate_left 1
              · (intro w hSw; (try dsimp only at hSw); go_simp; try with_reducible rfl)
              try simp only [Act.put, List.setIfInBounds_toArray, List.set_cons_zero, List.set_cons_succ]
              refine take_at (i := 10) (oi := { dst := some 34, op := Go.Op.fieldAddr 44 (Go.Operand.tmp 33) 1, type := 0, pos := "host.go:27", after := #[{ on := 9, ground := Go.Ground.data }, { on := 0, ground := Go.Ground.phase }, { on := 1, ground := Go.Ground.phase }, { on := 2, ground := Go.Ground.phase }, { on := 3, ground := Go.Ground.phase }, { on := 4, ground := Go.Ground.phase }, { on := 5, ground := Go.Ground.phase }, { on := 6, ground := Go.Ground.phase }, { on := 7, ground := Go.Ground.phase }, { on := 8, ground := Go.Ground.phase }], guard := none }) (d := some 34) (v := ?_) (by kernel_rfl) (by kernel_rfl) (by kernel_rfl) (by kernel_rfl) (by kernel_rfl) (fun _ _ _ h => h) (Or.inl ⟨by kernel_rfl, ?_⟩) (by assumption) ?_
              rotate_left 1
              · (intro w hSw; (try dsimp only at hSw); go_simp; try with_reducible rfl)
              try simp only [Act.put, List.setIfInBounds_toArray, List.set_cons_zero, List.set_cons_succ]
              refine wpAnyH_ready (rs := [11]) (by kernel_rfl) (by simp) ?_
              refine ready_at (o := { dst := none, op := Go.Op.store 22 (Go.Operand.tmp 34) (Go.Operand.tmp 32), type := 0, pos := "host.go:27", after := #[{ on := 10, ground := Go.Ground.data }, { on := 8, ground := Go.Ground.data }, { on := 8, ground := Go.Ground.chain }, { on := 0, ground := Go.Ground.phase }, { on := 1, ground := Go.Ground.phase }, { on := 2, ground := Go.Ground.phase }, { on := 3, ground := Go.Ground.phase }, { on := 4, ground := Go.Ground.phase }, { on := 5, ground := Go.Ground.phase }, { on := 6, ground := Go.Ground.phase }, { on := 7, ground := Go.Ground.phase }, { on := 8, ground := Go.Ground.phase }], guard := none }) (by kernel_rfl) (by kernel_rfl) (fun K hK => ?_) ?_
              · go_simp
                refine hK.out _ _ hS9 (fun _ => ?_)
                clear hK K
                refine wpAnyH_done (by kernel_rfl) ?_ _
                generalize W8.setCell ⟨w.heap.size, 1, none⟩ (.slice va2 (k + 1) vc2) = W9 at *
                clear hS8 hS9 c8 f8 hS7 hHc7 hHw hHc hH hHeld
                go_wp2_with fail
                exact ⟨⟨k + 1, ys ++ [⟨ua, xn, uc, xl, xt⟩], va2, vc2, by omega, by go_num, HST.out⟩, by simp [intOf]; omega⟩
              exact AllReadyH.nil
            exact AllReadyH.nil
          exact AllReadyH.nil
        exact AllReadyH.nil
      exact AllReadyH.nil
    · have hkn : k = n := by omega
      have HK := hid hkn
      have d0 : ¬ (k : Int) < (n : Int) := by omega
      clear hni
      go_wp2_with fail
      go_ret
      refine NI.done (k := n) (ys := ys) (va := va) (vc := vc) ?_ (by rw [HZS.out]; exact HZL.out) hx
      rw [HZS.out, ← HK.out]
      exact HNI.out

/-- New, of whatever is taken. -/
theorem new9 (Q : Nat → Prop) (a : Option Addr) (n c : Nat) (t : Int) (T : Nat) (xs : List Rp) (w : World) (hr : RpS Q w a n c xs) (hT : max t 0 = T) (ht : t ≤ 9223372036854775807) (ht2 : -9223372036854775808 ≤ t) :
    Calls Try.prog 9 #[.slice a n c, .int .i64 t] w fun e w' => NewO w T xs e w' := by
  by_cases hTn : n ≤ T
  · exact new9_none a n c t T xs w hr.1 hr.2.2.1 hr.2.1 hT hTn ht
  · rcases hr.2.2.2 with h0 | ⟨b, off, rfl, _⟩
    · omega
    by_cases h : 0 ≤ t
    · obtain rfl : t = T := by omega
      exact new9_pos Q b off n c T xs w hr (by omega)
    · obtain rfl : T = 0 := by omega
      exact new9_neg Q b off n c t xs w hr (by omega) ht2 (by omega)
end Go.Proofs.Ythdgbeaibajkeaa

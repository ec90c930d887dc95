/-
  A host made of a script.
-/
import Derived.Test.YthdgbeaibajkeaaCz
namespace Go.Proofs.Ythdgbeaibajkeaa
open Go.RowKit
set_option linter.unusedVariables false

/-- What New answers. -/
def NewO (w : World) (T : Nat) (xs : List Rp) (e : Ending) (w' : World) : Prop :=
  e = .returned (.pointer (some ⟨w.heap.size, 0, none⟩)) ∧ Below w.heap.size w w' ∧ ∃ ys, SameR ys (xs.drop T) ∧ HS w' w.heap.size (fun k => w.heap.size ≤ k ∧ k ≠ w.heap.size) T (xs.drop T).length ys

set_option maxHeartbeats 2000000 in
theorem new9_none (a : Option Addr) (n c : Nat) (t : Int) (T : Nat) (xs : List Rp) (w : World) (hl : xs.length = n) (hn : n ≤ 2000) (hc : n ≤ c) (hT : max t 0 = T) (hTn : n ≤ T) (ht : t ≤ 9223372036854775807) :
    Calls Try.prog 9 #[.slice a n c, .int .i64 t] w fun e w' => NewO w T xs e w' := by
  have hd : xs.drop T = [] := List.drop_eq_nil_of_le (by omega)
  have hB := below_new w (.cells #[.int .i64 T, .slice none 0 0] 44)
  have hb := heap_alloc_new w (.cells #[.int .i64 T, .slice none 0 0] 44)
  have F := hid (show NewO w T xs (.returned (.pointer (some ⟨w.heap.size, 0, none⟩))) (w.alloc (.cells #[.int .i64 T, .slice none 0 0] 44)) from by
    refine ⟨rfl, hB, [], by rw [hd]; exact ⟨rfl, fun j hj => by simp at hj⟩, cell_at hb, free_at hb, free_at hb, none, 0, ?_, ?_⟩
    · rw [hd]; exact cell_at hb
    · rw [hd]; exact ⟨rfl, Nat.le_refl _, by simp, .inl rfl⟩)
  clear hB hb hd
  by_cases h0 : 0 ≤ t
  · obtain rfl : t = T := by omega
    clear hT
    by_cases hnT : n < T
    · cases a
      all_goals go_enter Try.func9, Try.ntmps9
      all_goals go_wp2_with fail
      all_goals refine wp_loop_rounds 1 ?_
      all_goals rw [rounds_succ]
      all_goals go_wp2_with fail
      all_goals go_ret
      all_goals exact F.out
    · obtain rfl : n = T := by omega
      cases a
      all_goals go_enter Try.func9, Try.ntmps9
      all_goals go_wp2_with fail
      all_goals refine wp_loop_rounds 1 ?_
      all_goals rw [rounds_succ]
      all_goals go_wp2_with fail
      all_goals go_ret
      all_goals exact F.out
  · obtain rfl : T = 0 := by omega
    obtain rfl : n = 0 := by omega
    cases a
    all_goals go_enter Try.func9, Try.ntmps9
    all_goals go_wp2_with fail
    all_goals refine wp_loop_rounds 1 ?_
    all_goals rw [rounds_succ]
    all_goals go_wp2_with fail
    all_goals go_ret
    all_goals exact F.out

/-- What the loop keeps: the host H, and what it has by now. -/
structure NI (w : World) (T : Nat) (zs : List Rp) (k : Nat) (ys : List Rp) (va : Option Addr) (vc : Nat) (wr : World) : Prop where
  cr : CR (w.heap.size + 1) zs k (.slice va k vc) ys wr
  kept : Kept (fun k => k = w.heap.size) (w.alloc (.cells #[.int .i64 T, .slice none 0 0] 44)) wr
  blk : wr.heap[w.heap.size]? = some (.cells #[.int .i64 T, .slice va k vc] 44)

theorem NI.start (w : World) (T : Nat) (zs : List Rp) : NI w T zs 0 [] none 0 (w.alloc (.cells #[.int .i64 T, .slice none 0 0] 44)) :=
  ⟨CR.nil _ _ _, Kept.refl _ _, heap_alloc_new _ _⟩
theorem NI.done {w : World} {T : Nat} {xs : List Rp} {k : Nat} {ys : List Rp} {va : Option Addr} {vc : Nat} {wr : World} (h : NI w T (xs.drop T) k ys va vc wr) (hk : k = (xs.drop T).length) (hx : k ≤ 2000) : NewO w T xs (.returned (.pointer (some ⟨w.heap.size, 0, none⟩))) wr := by
  refine ⟨rfl, below_kept (below_new w _) h.kept (by simp) (fun k e => by omega), ys, ⟨by rw [h.cr.len, hk], fun j hj => h.cr.same j (by rw [← h.cr.len]; exact hj)⟩, cell_at h.blk, free_at h.blk, free_at h.blk, va, vc, ?_, ?_⟩
  · rw [← hk]; exact cell_at h.blk
  · rw [← hk]
    exact (h.cr.rps hx).mono (fun b hb _ => by omega)
/-- A round's end. -/
theorem NI.step {w : World} {T : Nat} {zs : List Rp} {k : Nat} {ys : List Rp} {va : Option Addr} {vc : Nat} {wr W7 W8 : World} (h : NI w T zs k ys va vc wr) {y : Rp} {va2 : Option Addr} {vc2 : Nat} (hk7 : Below wr.heap.size wr W7)
    (hr : W8.ownsRow (w.heap.size + 1) 33 2 (.slice va2 (k + 1) vc2) (k + 1) (flatR ys ++ celR y)) (hk : W7.grownBy W8 (Value.slice va k vc).ownBlock) (hl : LU W7 wr.heap.size (.slice y.a y.n y.c) y.l)
    (h1 : y.n = y.l.length) (h2 : y.n ≤ 2147483647) (h3 : ∀ z ∈ y.l, 0 ≤ z ∧ z ≤ 18446744073709551615) (hs : y.l = (zs.getD k rp0).l ∧ y.tr = (zs.getD k rp0).tr) :
    NI w T zs (k + 1) (ys ++ [y]) va2 vc2 (W8.setCell ⟨w.heap.size, 1, none⟩ (.slice va2 (k + 1) vc2)) := by
  have hz : w.heap.size + 1 ≤ wr.heap.size := by have := h.kept.size; simpa using this
  have hk8 := Kept.of_grown hk
  have hsn := (h.cr.later hk7).snoc hr (hk8.mono (fun b e => e.symm)) (own_low hl hz) h1 h2 h3 hs
  have ks := kept_set W8 w.heap.size 1 (.slice va2 (k + 1) vc2)
  have hown : ∀ b, (Value.slice va k vc).ownBlock = some b → w.heap.size + 1 ≤ b := fun b hb => (own_ty h.cr.row hb).1
  have b8 : W8.heap[w.heap.size]? = some (.cells #[.int .i64 T, .slice va k vc] 44) := (hk8.block _ (by have := hk7.size; omega) (fun e => by have := hown _ e.symm; omega)).trans (blk_later hk7 h.blk)
  refine ⟨hsn.keep ks (fun b hb e => by omega), ?_, ?_⟩
  · have k1 : Kept (fun k => k = w.heap.size) (w.alloc (.cells #[.int .i64 T, .slice none 0 0] 44)) W7 := h.kept.then (Kept.of_below hk7) (fun b hb e => by have := h.kept.size; omega)
    refine (k1.then hk8 (fun b hb e => ?_)).trans ks
    have := hown b e.symm
    simp at hb
    omega
  · show (W8.heap.modify w.heap.size _)[w.heap.size]? = _
    rw [Array.getElem?_modify, if_pos rfl, b8]; rfl

end Go.Proofs.Ythdgbeaibajkeaa

/-
  The walk over wire.Uvar: the number's groups, in new memory.
-/
import Derived.Test.YtgljlclnmnfocaaDoorJoin
namespace Go.Proofs.YtgljlclnmnfocaaDoor
open Go.RowKit
set_option linter.unusedVariables false

theorem and127 {V : Int} (h0 : 0 ≤ V) (h1 : V < 18446744073709551616) : bits .and .u64 V 127 = V % 128 := by
  rw [u64_and V 127 h0 h1 (by decide) (by decide)]
  simp only [Int.reduceToNat]
  rw [nat_mask7]; omega
theorem or128 {c : Int} (h0 : 0 ≤ c) (h1 : c < 128) : bits .or .u8 c 128 = c + 128 := by
  rw [u8_or c 128 h0 (by omega) (by decide) (by decide)]
  simp only [Int.reduceToNat]
  rw [Nat.or_comm, nat_join 7 128 c.toNat (by decide) (by simp only [Nat.reducePow]; omega)]
  omega

theorem put_at (pre : List Int) (k m : Nat) (c : Int) (h : pre.length = k) : ((pre ++ List.replicate (m + 1) 0).map (Value.int .u8)).set k (.int .u8 c) = ((pre ++ [c]) ++ List.replicate m 0).map (Value.int .u8) := by
  subst h
  rw [← List.map_set]
  congr 1
  rw [List.set_append_right _ _ (by omega)]
  simp [List.replicate_succ]

/-- The array of groups behind one store more. -/
theorem put_step {w wr : World} {pre : List Int} {k : Nat} (c : Int) (hk : k ≤ 9) (hp : pre.length = k)
    (hown : wr.ownsRow w.heap.size 106 1 (.slice (some ⟨w.heap.size, 0, none⟩) 10 10) 10 ((pre ++ List.replicate (10 - k) 0).map (Value.int .u8))) (hb : Below w.heap.size w wr) :
    (wr.setCell ⟨w.heap.size, k, none⟩ (.int .u8 c)).ownsRow w.heap.size 106 1 (.slice (some ⟨w.heap.size, 0, none⟩) 10 10) 10 (((pre ++ [c]) ++ List.replicate (10 - (k + 1)) 0).map (Value.int .u8)) ∧
      Below w.heap.size w (wr.setCell ⟨w.heap.size, k, none⟩ (.int .u8 c)) := by
  have h := hown.stored k (.int .u8 c)
  have e : 10 - k = 10 - (k + 1) + 1 := by omega
  rw [e, put_at pre k _ c hp] at h
  exact ⟨h.1, hb.setCell (by simp) _⟩

theorem Tryd.len106 : Tryd.prog.arrayLen 106 = 10 := by kernel_rfl
theorem Tryd.und106 : Tryd.prog.underlying 106 = some (.array (Tryd.prog.arrayLen 106) (Tryd.prog.elem 106)) := by kernel_rfl
theorem Tryd.size106 (w : World) : (sizeOf (Tryd.prog.elem 106)).run Tryd.prog w = .ok 1 w := by kernel_rfl

/-- 'groups[:k+1]'. -/
theorem slice_groups (B k : Nat) (hk : k ≤ 9) (w : World) :
    (Instr.sliceAt 106 (.pointer (some ⟨B, 0, none⟩)) none (some (.int .i64 ((k : Int) + 1))) none).run Tryd.prog w = .ok (.slice (some ⟨B, 0, none⟩) (k + 1) 10) w := by
  rw [run_sliceAt_array_h w 106 ⟨B, 0, none⟩ Tryd.und106 .i64 ((k : Int) + 1) (by omega) (by rw [Tryd.len106]; omega), Tryd.size106]
  have e : ((k : Int) + 1).toNat = k + 1 := by omega
  simp only [Result.andThen, slicedAt, Tryd.len106, e]
  simp [Addr.add]

theorem uvar_close {w W : World} {k : Nat} {V v : Int} {pre : List Int} (hk : k ≤ 9) (hp : pre.length = k) (hV : 0 ≤ V) (hV1 : V < 128) (huv : uvar v = pre ++ [V]) (hpr : ∀ z ∈ pre, 0 ≤ z ∧ z ≤ 255)
    (ho : W.ownsRow w.heap.size 106 1 (.slice (some ⟨w.heap.size, 0, none⟩) 10 10) 10 (((pre ++ [V]) ++ List.replicate (10 - (k + 1)) 0).map (Value.int .u8))) (hb : Below w.heap.size w W) (hsz : W.heap.size = w.heap.size + 1) :
    Calls Tryd.prog 65 #[.slice (some ⟨w.heap.size + 1, 0, none⟩) 1 1] (W.alloc (.cells #[.slice (some ⟨w.heap.size, 0, none⟩) (k + 1) 10] 27)) fun e w' =>
      e = .returned (.slice (some ⟨w.heap.size + 2, 0, none⟩) (uvar v).length (uvar v).length) ∧
      Seg w' (some ⟨w.heap.size + 2, 0, none⟩) (uvar v).length (uvar v).length (uvar v) ∧ Below w.heap.size w w' ∧ w.heap.size + 2 < w'.heap.size := by
  have hlen : (uvar v).length = k + 1 := by rw [huv]; simp [hp]
  have hr : ∀ z ∈ uvar v, 0 ≤ z ∧ z ≤ 255 := by
    intro z hz
    rw [huv] at hz
    rcases List.mem_append.1 hz with hz | hz
    · exact hpr z hz
    · simp at hz; omega
  have hseg : Seg W (some ⟨w.heap.size, 0, none⟩) (k + 1) 10 (uvar v) := by
    refine ⟨hlen, by omega, by omega, hr, .inr ⟨_, 0, rfl, fun j hj => ?_⟩⟩
    rw [Nat.zero_add, ho.cellAt j (by omega), huv]
    have hj' : j < (pre ++ [V]).length := by simp [hp]; omega
    rw [List.getElem?_map, List.getElem?_append_left hj']
    simp [List.getElem?_eq_getElem hj']
  have hba : Below W.heap.size W (W.alloc (.cells #[.slice (some ⟨w.heap.size, 0, none⟩) (k + 1) 10] 27)) := (Below.refl _ _).alloc (Nat.le_refl _) _
  have hs2 : (W.alloc (.cells #[.slice (some ⟨w.heap.size, 0, none⟩) (k + 1) 10] 27)).heap.size = w.heap.size + 2 := by simp [hsz]
  have hc1 : cat (fun _ => uvar v) 1 = uvar v := by simp [cat]
  have J := join24 (w.heap.size + 1) 1 1 (fun _ => some ⟨w.heap.size, 0, none⟩) (fun _ => k + 1) (fun _ => 10) (fun _ => uvar v) (W.alloc (.cells #[.slice (some ⟨w.heap.size, 0, none⟩) (k + 1) 10] 27)) (by omega)
    (fun j hj => by
      obtain rfl : j = 0 := by omega
      rw [← hsz]; simp)
    (fun j _ => ⟨hseg.later hba (Nat.le_refl _), fun h => by cases h⟩) (by rw [hc1]; omega) (by rw [hs2]; omega) (by rw [hc1]; omega)
  rw [hc1, hs2] at J
  refine J.mono fun e w' ⟨he, hsg, hbl, hz⟩ => ⟨he, hsg, ?_, hz⟩
  exact (hb.trans (hba.mono (by omega))).trans (hbl.mono (by omega))

set_option maxHeartbeats 1000000 in
/-- wire.Uvar. -/
theorem uvar17 (v : Int) (w : World) (h0 : 0 ≤ v) (h1 : v < 18446744073709551616) :
    Calls Tryd.prog 26 #[.int .u64 v] w fun e w' => e = .returned (.slice (some ⟨w.heap.size + 2, 0, none⟩) (uvar v).length (uvar v).length) ∧
      Seg w' (some ⟨w.heap.size + 2, 0, none⟩) (uvar v).length (uvar v).length (uvar v) ∧ Below w.heap.size w w' ∧ w.heap.size + 2 < w'.heap.size := by
  go_enter Tryd.func26, Tryd.ntmps26
  go_wp2
  go_loopw [0, 4] (fun x i wr => ∃ (k : Nat) (V : Int) (pre : List Int), k ≤ 9 ∧ i = .int .i64 k ∧ x = .int .u64 V ∧ pre.length = k ∧ 0 ≤ V ∧ V < 18446744073709551616 ∧ V * 128 ^ k < 18446744073709551616 ∧ uvar v = pre ++ uv (9 - k) V ∧ (∀ z ∈ pre, 0 ≤ z ∧ z ≤ 255) ∧
      wr.ownsRow w.heap.size 106 1 (.slice (some ⟨w.heap.size, 0, none⟩) 10 10) 10 ((pre ++ List.replicate (10 - k) 0).map (Value.int .u8)) ∧ Below w.heap.size w wr ∧ wr.heap.size = w.heap.size + 1) (fun x _ _ => (intOf x).toNat)
  case atStart =>
    exact ⟨0, v, [], by omega, rfl, rfl, rfl, h0, h1, by simpa using h1, rfl, by simp, World.ownsRow_lit w _ 10 (Nat.le_refl _) (by decide) rfl, (Below.refl _ _).alloc (Nat.le_refl _) _, by simp⟩
  case round =>
    obtain ⟨k, V, pre, hk, rfl, rfl, hpl, hV0, hV1, hroom, huv, hpr, hown, hb, hsz⟩ := hrel
    have hcl : ∃ u, wr.cell? ⟨w.heap.size, k, none⟩ = some u := by
      have := hown.cellAt k (by omega)
      exact ⟨_, this.trans (List.getElem?_eq_getElem (by simp [hpl]; omega))⟩
    obtain ⟨u0, hcl⟩ := hcl
    have hfz := hown.frozenAt k
    have HS := hid (fun c => put_step c hk hpl hown hb)
    have HU := hid huv
    have HP := hid hpl
    have HR := hid hroom
    clear huv hown hb hpl hroom
    by_cases h128 : 128 ≤ V
    · have hk8 := room_end V k HR.out hk h128
      have hand := and127 hV0 hV1
      have hor := or128 (c := V % 128) (by omega) (by omega)
      have HN := hid (show uvar v = (pre ++ [V % 128 + 128]) ++ uv (9 - (k + 1)) (V / 128) by
        rw [HU.out, show 9 - k = 9 - (k + 1) + 1 by omega]
        have hn : ¬ V < 128 := by omega
        simp [uv, hn])
      go_wp2
      have R := HS.out (V % 128 + 128)
      refine ⟨⟨k + 1, V / 128, pre ++ [V % 128 + 128], by omega, by go_num, rfl, by simp [HP.out], by omega, by omega, room_up V k HR.out hV0, HN.out, ?_, R.1, R.2, by simp [hsz]⟩, by simp [intOf]; omega⟩
      intro z hz
      rcases List.mem_append.1 hz with hz | hz
      · exact hpr z hz
      · simp at hz; omega
    · have hsl := slice_groups w.heap.size k hk
      have HF := hid (show uvar v = pre ++ [V] by
        rw [HU.out]
        cases h9 : 9 - k with
        | zero => rfl
        | succ f =>
          have hn : V < 128 := by omega
          simp [uv, hn])
      have HJ := hid (uvar_close hk HP.out hV0 (by omega) HF.out hpr (HS.out V).1 (HS.out V).2 (by simp [hsz]))
      go_wp2_with (first | (go_at_call 65; refine HJ.out.mono ?_; rintro e w' ⟨rfl, hseg, hbl, hz⟩))
      go_ret
      exact ⟨rfl, hseg, hbl, hz⟩
end Go.Proofs.YtgljlclnmnfocaaDoor

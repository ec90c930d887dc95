/-
  'append(l, make([]byte, 4096)...)'.
-/
import Derived.Test.YtedkmfklobipaaaDoorRg
namespace Go.Proofs.YtedkmfklobipaaaDoor
open Go.RowKit
set_option linter.unusedVariables false

def zs4 : List Value := List.replicate 4096 (Value.int .u8 0)
theorem zs4_len : zs4.length = 4096 := by unfold zs4; rw [List.length_replicate]
theorem zs4_one : ∀ v ∈ zs4, v.oneCell' = true := by intro v hv; rw [(List.mem_replicate.1 hv).2]; rfl
theorem zcn (n : Nat) : (Builtin.zeroCells (Value.int .u8 0).cells n).toList = List.replicate n (Value.int .u8 0) := by
  have hc : (Value.int .u8 0).cells = #[Value.int .u8 0] := rfl
  rw [hc]
  simp only [Builtin.zeroCells, Array.toList_map, Array.toList_range, List.size_toArray, List.length_singleton, Nat.mul_one]
  apply List.ext_getElem?
  intro j
  rw [List.getElem?_replicate, List.getElem?_map]
  by_cases h : j < n
  · rw [if_pos h, List.getElem?_range h]
    simp [Nat.mod_one]
  · rw [if_neg h, List.getElem?_eq_none (by rw [List.length_range]; omega)]; rfl
theorem zc4 : (Builtin.zeroCells (Value.int .u8 0).cells 4096).toList = zs4 := by unfold zs4; exact zcn 4096

theorem room_zeros {P : Program} (w : World) (t tn ty : TypeId) (i : TypeInfo) (ht : P.underlying t = some (.slice 5)) (htn : P.underlying tn = some (.int .i64)) (hi : P.info? 5 = some i) (hz : i.zero = some (.int .u8 0)) (hs : i.size = 1) (hb : i.bytes = 1)
    (B n cap m : Nat) (hm : 0 < m) (hm2 : m ≤ 1048576) (hroom : n + m ≤ cap) (hc : ∀ j, j < m → (w.cell? ⟨B, n + j, none⟩).isSome = true) (hf : ∀ j, j < m → w.frozen? ⟨B, n + j, none⟩ = false) :
    (Builtin.append_ #[t, tn] ty #[.slice (some ⟨B, 0, none⟩) n cap, .int .i64 m]).run P w = .ok (.slice (some ⟨B, 0, none⟩) (n + m) cap) (w.setCells B n (List.replicate m (Value.int .u8 0))) := by
  have hst := run_storeCells_cells (P := P) B n (List.replicate m (Value.int .u8 0)) 0 w (fun j hj => by rw [List.length_replicate] at hj; simpa using hc j hj) (fun j hj => by rw [List.length_replicate] at hj; simpa using hf j hj) (by intro v hv; rw [(List.mem_replicate.1 hv).2]; rfl)
  have hw : IntKind.i64.wrap (m : Int) = m := by rw [IntKind.wrap_i64]; omega
  have hzc := zcn m
  have hadd : (⟨B, 0, none⟩ : Addr).add n = ⟨B, n, none⟩ := by rw [Addr.add_mid, Nat.zero_add]
  have hneg : ¬ ((m : Int) < 0) := by omega
  have h48 : ¬ (281474976710656 < (m : Int)) := by omega
  have hm0 : ¬ m = 0 := by omega
  simp only [Nat.add_zero] at hst
  simp [Builtin.append_, run_underlying ht, run_underlying htn, sizeOf, typeInfo, zeroValue, hi, hz, hs, hb, asInt, asIntOf, hw, hneg, h48, hm0, hroom, hzc, hadd, hst]

theorem app_zeros {P : Program} (w : World) {ops : Array Oper} {rest : List Oper} {o : Oper} {a : Act} {Q : Exit → Act → World → Prop} (hg : o.guard = none)
    (s x : Operand) (t tn : TypeId) (hop : o.op = Op.call { callee := Callee.builtin Builtin.append, args := #[s, x], argTypes := #[t, tn] }) (hx : a.eval x = .int .i64 4096)
    (i : TypeInfo) (ht : P.underlying t = some (.slice 5)) (htn : P.underlying tn = some (.int .i64)) (hi : P.info? 5 = some i) (hz : i.zero = some (.int .u8 0)) (hs1 : i.size = 1) (hb1 : i.bytes = 1)
    (B n cap : Nat) (xs : List Value) (hs : a.eval s = .slice (some ⟨B, 0, none⟩) n cap) (hrow : Row w 5 B n cap xs) (hn : n ≤ 1048576)
    (h : ∀ (B' cap' : Nat) (w' : World), Row w' 5 B' (n + 4096) cap' (xs ++ zs4) → Kept (fun k => k = B) w w' → (B' = B ∨ w.heap.size ≤ B') → wpList P ops Q rest (a.put o.dst (.slice (some ⟨B', 0, none⟩) (n + 4096) cap')) w') :
    wpList P ops Q (o :: rest) a w := by
  have hlen : xs.length = n := by have := hrow.1; omega
  obtain ⟨cur, hcur, hnc, hcm, hsz, htk⟩ := hrow.block
  refine wpList_plain hg fun K hK' => ?_
  by_cases hroom : n + 4096 ≤ cap
  · have hrun := room_zeros (P := P) w t tn o.type i ht htn hi hz hs1 hb1 B n cap 4096 (by omega) (by omega) hroom (fun j hj => by rw [cell_at hcur, Array.getElem?_eq_getElem (by omega)]; rfl) (fun j hj => free_at hcur)
    rw [show ((4096 : Nat) : Int) = 4096 from rfl] at hrun
    unfold Oper.wp
    simp only [execOp, hop, resolve, invoke, builtin, List.map_toArray, List.map_cons, List.map_nil, hs, hx, Sem.run_bind, Sem.run_pure, hrun, Result.andThen]
    refine hK' _ _ (h B cap _ ?_ (kept_setCells B _ n w) (.inl rfl))
    have hh := heap_setCells_same B 5 zs4 n w cur hcur (by rw [zs4_len]; omega)
    refine ⟨by rw [List.length_append, zs4_len]; omega, .inr ⟨B, cap, _, rfl, Nat.zero_le _, hh, hroom, hcm, ?_, ?_⟩⟩
    · simp only [List.size_toArray, List.length_append, List.length_take, List.length_drop, Array.length_toList, zs4_len]
      omega
    · simp only [Nat.mul_one]
      rw [htk, List.take_append_of_le_length (by rw [List.length_append, zs4_len]; omega), List.take_of_length_le (by rw [List.length_append, zs4_len]; omega)]
  · have hb := below_drewN (Below.refl w.heap.size w) 1
    have hold : (Builtin.firstCells i.size n (.slice (some ⟨B, 0, none⟩) n cap)).run P w.drew = .ok xs.toArray w.drew := by
      rw [hs1]
      have hl := run_loadCells_list (P := P) w.drew ⟨B, 0, none⟩ xs (fun j v hv => by
        rw [Addr.add_mid, Nat.zero_add]
        have hj : j < n := by have := (List.getElem?_eq_some_iff.1 hv).1; omega
        have : w.cell? ⟨B, j, none⟩ = some v := (hrow.cell j hj).trans hv
        exact (hb.cell (p := ⟨B, j, none⟩) hrow.lt).trans this)
      rw [hlen] at hl
      simp [Builtin.firstCells, hl]
    have hrun := Lib.run_append_grow_zeros (P := P) w t tn o.type 5 i (.int .u8 0) .i64 .i64 ht htn hi hz (some ⟨B, 0, none⟩) n cap xs hold 4096 (by omega) (by omega) (by omega) (by omega) (by rw [hb1]; omega) (by
      rw [hb1]
      have := nextslicecap_le (need := n + 4096) (old := cap) (by omega)
      omega)
    unfold Oper.wp
    simp [execOp, hop, resolve, invoke, builtin, hs, hx]
    rw [show ((4096 : Nat) : Int) = 4096 from rfl] at hrun
    simp only [hrun, Result.andThen]
    have hge := grownCap_ge w (n + 4096) cap 5
    have hle := grownCap_le_maxLen w (n + 4096) cap 5 (by unfold maxLen; omega)
    generalize grownCap w (n + 4096) cap 5 = gc at *
    refine hK' _ _ (h w.heap.size gc _ ?_ ?_ (.inr (Nat.le_refl _)))
    · refine ⟨by rw [List.length_append, zs4_len]; omega, .inr ⟨w.heap.size, gc, _, rfl, Nat.zero_le _, heap_alloc_last w.drew _, by omega, hle, ?_, ?_⟩⟩
      · rw [← Array.length_toList]
        simp only [Array.toList_append, zc4]
        rw [List.length_append, List.length_append, zs4_len]
        have : (Builtin.zeroCells (Value.int .u8 0).cells (gc - (n + 4096))).toList.length = gc - (n + 4096) := by
          rw [zcn, List.length_replicate]
        rw [this]
        simp only [Nat.mul_one]
        omega
      · simp only [Array.toList_append, zc4, Nat.mul_one]
        rw [List.take_append_of_le_length (by rw [List.length_append, zs4_len]; omega), List.take_of_length_le (by rw [List.length_append, zs4_len]; omega)]
    · exact ((Kept.drewN (fun k => k = B) w 1).trans (Kept.alloc (fun k => k = B) w.drew _))
end Go.Proofs.YtedkmfklobipaaaDoor

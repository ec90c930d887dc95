/-
  Instructions and slices among the arguments, opened: what the walks are told of them.
-/
import Derived.Test.YtgljlclnmnfocaaDoorEqI
import Derived.Test.YtgljlclnmnfocaaDoorLaid
import Derived.Deep.Strs
import Derived.ProofKit
import Derived.OpenShut
import Derived.ShutString
import Derived.ChangeOld
import Derived.Below
import Derived.SizedLaws
import Derived.Deep.DeepHandedRow
import Derived.LaidMore
import Derived.Lay
namespace Go.Proofs.YtgljlclnmnfocaaDoor
open Go.ChangeShapes Go.WideShapes Go.ChangeAt Go.RowKit
set_option linter.unusedVariables false

theorem own : ownKnob Tryd.prog.godebug = none := by kernel_rfl
theorem laidOut : laidOutB Tryd.prog = true := by kernel_rfl
theorem bytes5 : Tryd.prog.bytesOf 5 = 1 := by kernel_rfl
theorem bytes3 : Tryd.prog.bytesOf 3 = 8 := by kernel_rfl
theorem Tryd.cells24 : Tryd.prog.cellsOf 24 = 3 := by kernel_rfl
theorem Tryd.cells2 : Tryd.prog.cellsOf 2 = 1 := by kernel_rfl
theorem Tryd.cells22 : Tryd.prog.cellsOf 22 = 1 := by kernel_rfl

/-- What is told of a slice of integers that came in. -/
def IsRow (k : IntKind) (w : World) (a : Option Addr) (len cap : Nat) (zs : List Int) : Prop :=
  (a = none ∧ len = 0 ∧ cap = 0 ∧ zs = []) ∨
  ∃ x, a = some x ∧ len ≤ cap ∧ cap ≤ maxLen ∧ zs.length = cap ∧ (∀ i, i < zs.length → w.cell? (x.add i) = some (.int k (zs.getD i 0))) ∧ ∀ n ∈ zs, (Lit.int k n).wf = true

theorem row_cells {k : IntKind} {w : World} {a : Option Addr} {len cap : Nat} {zs : List Int} (h : IsRow k w a len cap zs) :
    len ≤ cap ∧ (zs.take len).length = len ∧ (∀ z ∈ zs.take len, (Lit.int k z).wf = true) ∧ (len = 0 ∨ ∃ b off, a = some ⟨b, off, none⟩ ∧ ∀ j, j < len → w.cell? ⟨b, off + j, none⟩ = some (.int k ((zs.take len).getD j 0))) := by
  rcases h with ⟨rfl, rfl, rfl, rfl⟩ | ⟨x, rfl, hl, hm, hz, hcell, hwz⟩
  · exact ⟨Nat.le_refl _, rfl, by simp, .inl rfl⟩
  · refine ⟨hl, by simp; omega, fun z hz' => hwz z (List.mem_of_mem_take hz'), ?_⟩
    by_cases h0 : len = 0
    · exact .inl h0
    · obtain ⟨b, off, spot⟩ := x
      have hc := hcell 0 (by omega)
      have hspot : spot = none := by simpa [Addr.add] using World.cell?_spot hc
      subst hspot
      refine .inr ⟨b, off, rfl, fun j hj => ?_⟩
      have := hcell j (by omega)
      have hplain : (⟨b, off, none⟩ : Addr).add j = ⟨b, off + j, none⟩ := by unfold Addr.add; split <;> simp_all
      rw [hplain] at this
      rw [this]
      simp [hj]
theorem row_seg {w : World} {a : Option Addr} {len cap : Nat} {zs : List Int} (h : IsRow .u8 w a len cap zs) (hn : len ≤ 1099511627776) : Seg w a len cap (zs.take len) := by
  obtain ⟨h1, h2, h3, h4⟩ := row_cells h
  exact ⟨h2, h1, hn, fun z hz => by have := bounds_u8 (h3 z hz); omega, h4⟩
theorem row_segI {w : World} {a : Option Addr} {len cap : Nat} {zs : List Int} (h : IsRow .i64 w a len cap zs) (hn : len ≤ 1099511627776) : SegI w a len cap (zs.take len) := by
  obtain ⟨h1, h2, h3, h4⟩ := row_cells h
  exact ⟨h2, h1, hn, fun z hz => by have := bounds_i64 (h3 z hz); omega, h4⟩
theorem row_none {k : IntKind} {w : World} {a : Option Addr} {len cap : Nat} {zs : List Int} (h : IsRow k w a len cap zs) : a = none → cap = 0 := by
  rcases h with ⟨_, _, h, _⟩ | ⟨x, rfl, _⟩
  · exact fun _ => h
  · intro h; cases h

section
variable {H : Type} {enc : TypeId × Value → H} {W : World}

set_option maxRecDepth 100000 in
/-- A slice's cells, opened. -/
theorem open_row {t e : TypeId} {k : IntKind} {fuel : Nat} {cs : List Value} {x : DataW H × List MemPlace} (ht : Tryd.prog.underlying t = some (.slice e)) (he : Tryd.prog.underlying e = some (.int k)) (hc : Tryd.prog.cellsOf e = 1)
    (h : DataW.trod enc Tryd.prog W 0 (fun _ => true) true fuel t cs = some x) :
    ∃ a len cap zs, cs = [.slice a len cap] ∧ IsRow k W a len cap zs ∧ (len = 0 ∨ x.1 = .slice (lits k (zs.take len)) (lits k (zs.drop len))) := by
  rcases open_ints ht he hc h with ⟨hcs, _⟩ | ⟨x, l, c, zs, hcs, _, hl, hm, hz, hx, hcell, hwz⟩
  · exact ⟨none, 0, 0, [], hcs, .inl ⟨rfl, rfl, rfl, rfl⟩, .inl rfl⟩
  · exact ⟨some x, l, c, zs, hcs, .inr ⟨_, rfl, hl, hm, by simpa using hz, hcell, hwz⟩, .inr (by rw [hx])⟩

set_option maxRecDepth 100000 in
/-- An instruction's cells, opened. -/
theorem open_insC {fuel : Nat} {cs : List Value} {x : DataW H × List MemPlace} (h : DataW.trod enc Tryd.prog W 0 (fun _ => true) true fuel 24 cs = some x) :
    ∃ c a la ln lc zs, cs = [.int .u8 c, .int .i64 a, .slice la ln lc] ∧ (Lit.int .u8 c).wf = true ∧ (Lit.int .i64 a).wf = true ∧ IsRow .i64 W la ln lc zs ∧
      (ln = 0 ∨ x.1 = .agg [.lit (.int .u8 c), .lit (.int .i64 a), .slice (lits .i64 (zs.take ln)) (lits .i64 (zs.drop ln))]) := by
  obtain ⟨y0, y1, y2, n, rfl, hl, h0, h1, h2⟩ := Deep.trod_struct3 Tryd.underlying24 h
  rw [Tryd.cells24] at hl
  match cs, hl with
  | [x0, x1, x2], _ =>
    simp only [Tryd.cells5, Tryd.cells2, Tryd.cells22] at h0 h1 h2
    obtain ⟨c, hc, hx0, hw0⟩ := DataW.trod_int Tryd.underlying5 h0
    obtain ⟨a, ha, hx1, hw1⟩ := DataW.trod_int Tryd.underlying2 h1
    obtain ⟨la, ln, lc, zs, hs, hr, hd⟩ := open_row Tryd.underlying22 Tryd.underlying3 (by kernel_rfl) h2
    simp at hc ha hs
    subst hc ha hs
    refine ⟨c, a, la, ln, lc, zs, rfl, hw0, hw1, hr, ?_⟩
    rcases hd with hd | hd
    · exact .inl hd
    · refine .inr ?_
      rw [hd, hx0, hx1]

set_option maxRecDepth 100000 in
/-- An instruction among the arguments. -/
theorem open_ins {base : Nat} {v : Value} {d : DataW H} {ps : List MemPlace} (hval : Value.okWide Tryd.prog W .any base 24 v) (h : DataW.Trod enc Tryd.prog W 0 (fun _ => true) true 24 v d ps) :
    ∃ c a la ln lc zs, v = insV c a (.slice la ln lc) ∧ (Lit.int .u8 c).wf = true ∧ (Lit.int .i64 a).wf = true ∧ IsRow .i64 W la ln lc zs ∧
      (ln = 0 ∨ d = .agg [.lit (.int .u8 c), .lit (.int .i64 a), .slice (lits .i64 (zs.take ln)) (lits .i64 (zs.drop ln))]) := by
  obtain ⟨cs, rfl, hsz⟩ := okWide_struct Tryd.underlying24 hval
  obtain ⟨fuel, hf⟩ := h
  obtain ⟨c, a, la, ln, lc, zs, hcs, h1, h2, h3, h4⟩ := open_insC hf
  refine ⟨c, a, la, ln, lc, zs, ?_, h1, h2, h3, h4⟩
  have e : cs.toList = [.int .u8 c, .int .i64 a, .slice la ln lc] := hcs
  unfold insV
  congr 1
  apply Array.toList_inj.1
  rw [e]

set_option maxRecDepth 100000 in
theorem open_bytes {base : Nat} {v : Value} {d : DataW H} {ps : List MemPlace} (hval : Value.okWide Tryd.prog W .any base 27 v) (h : DataW.Trod enc Tryd.prog W 0 (fun _ => true) true 27 v d ps) :
    ∃ a len cap zs, v = .slice a len cap ∧ IsRow .u8 W a len cap zs ∧ (len = 0 ∨ d = .slice (lits .u8 (zs.take len)) (lits .u8 (zs.drop len))) := by
  obtain ⟨a, len, cap, rfl⟩ := okWide_slice Tryd.underlying27 hval
  obtain ⟨fuel, hf⟩ := h
  obtain ⟨a', len', cap', zs, hcs, h1, h2⟩ := open_row Tryd.underlying27 Tryd.underlying5 (by kernel_rfl) hf
  simp [Value.cells] at hcs
  obtain ⟨rfl, rfl, rfl⟩ := hcs
  exact ⟨a, len, cap, zs, rfl, h1, h2⟩
end

section
variable {H : Type} {ts : List TypeId} {ds : List (DataW H)}
set_option maxRecDepth 100000 in
theorem bound_bytes (h : (DataW.weightsEach Tryd.prog ts ds).all (· ≤ reachBytes) = true) {j len cap : Nat} {a : Option Addr} {zs : List Int} {d : DataW H} {W : World} (ht : ts[j]? = some 27) (hd : ds[j]? = some d) (hr : IsRow .u8 W a len cap zs)
    (he : len = 0 ∨ d = .slice (lits .u8 (zs.take len)) (lits .u8 (zs.drop len))) : len ≤ 140737488355328 := by
  rcases he with rfl | rfl
  · omega
  · have := sized_slice h ht hd Tryd.underlying27
    rw [bytes5] at this
    simp only [lits, List.length_map, reachBytes] at this
    have := (row_cells hr).2.1
    omega
set_option maxRecDepth 100000 in
theorem bound_ins (h : (DataW.weightsEach Tryd.prog ts ds).all (· ≤ reachBytes) = true) {j ln lc : Nat} {c a : Int} {la : Option Addr} {zs : List Int} {d : DataW H} {W : World} (ht : ts[j]? = some 24) (hd : ds[j]? = some d) (hr : IsRow .i64 W la ln lc zs)
    (he : ln = 0 ∨ d = .agg [.lit (.int .u8 c), .lit (.int .i64 a), .slice (lits .i64 (zs.take ln)) (lits .i64 (zs.drop ln))]) : ln ≤ 140737488355328 := by
  rcases he with rfl | rfl
  · omega
  · have := List.all_eq_true.1 h _ (DataW.weights_mem_each ht hd (((lits .i64 (zs.take ln) : List (DataW H)).length + (lits .i64 (zs.drop ln) : List (DataW H)).length) * Tryd.prog.bytesOf 3) (by
      simp [DataW.weights, Tryd.underlying24]
      exact DataW.weights_mem_each (j := 2) (t := 22) rfl rfl _ (by simp [DataW.weights, Tryd.underlying22])))
    rw [bytes3] at this
    simp only [lits, List.length_map, reachBytes, decide_eq_true_eq] at this
    have := (row_cells hr).2.1
    omega
end
end Go.Proofs.YtgljlclnmnfocaaDoor

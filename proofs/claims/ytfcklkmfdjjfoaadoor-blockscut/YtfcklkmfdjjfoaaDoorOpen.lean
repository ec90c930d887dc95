/-
  A code among the arguments, opened: what the walks are told of it.
-/
import Derived.Test.YtfcklkmfdjjfoaaDoorCode
import Derived.Deep.Strs
import Derived.ProofKit
import Derived.OpenShut
import Derived.ShutString
import Derived.ChangeOld
import Derived.Below
import Derived.SizedLaws
import Derived.Deep.DeepHandedRow
import Derived.LaidMore
import Derived.Lay
namespace Go.Proofs.YtfcklkmfdjjfoaaDoor
open Go.ChangeShapes Go.WideShapes Go.ChangeAt Go.RowKit
set_option linter.unusedVariables false

theorem own : ownKnob Tryd.prog.godebug = none := by kernel_rfl
theorem laidOut : laidOutB Tryd.prog = true := by kernel_rfl
theorem bytesInt : Tryd.prog.bytesOf 3 = 8 := by kernel_rfl
theorem bytesIns : Tryd.prog.bytesOf 67 = 40 := by kernel_rfl
theorem Tryd.cellsIns : Tryd.prog.cellsOf 67 = 3 := by kernel_rfl
theorem Tryd.cellsU8 : Tryd.prog.cellsOf 5 = 1 := by kernel_rfl
theorem Tryd.cellsI64 : Tryd.prog.cellsOf 2 = 1 := by kernel_rfl
theorem Tryd.cellsInts : Tryd.prog.cellsOf 24 = 1 := by kernel_rfl

/-- What is told of a slice of integers that came in. -/
def IsRow (k : IntKind) (w : World) (a : Option Addr) (len cap : Nat) (zs : List Int) : Prop :=
  (a = none ∧ len = 0 ∧ cap = 0 ∧ zs = []) ∨
  ∃ x, a = some x ∧ len ≤ cap ∧ cap ≤ maxLen ∧ zs.length = cap ∧ (∀ i, i < zs.length → w.cell? (x.add i) = some (.int k (zs.getD i 0))) ∧ ∀ n ∈ zs, (Lit.int k n).wf = true

theorem row_cells {k : IntKind} {w : World} {a : Option Addr} {len cap : Nat} {zs : List Int} (h : IsRow k w a len cap zs) :
    len ≤ cap ∧ (zs.take len).length = len ∧ (∀ z ∈ zs.take len, (Lit.int k z).wf = true) ∧ (len = 0 ∨ ∃ b off, a = some ⟨b, off, none⟩ ∧ ∀ j, j < len → w.cell? ⟨b, off + j, none⟩ = some (.int k ((zs.take len).getD j 0))) := by
  rcases h with ⟨rfl, rfl, rfl, rfl⟩ | ⟨x, rfl, hl, hm, hz, hcell, hwz⟩
  · exact ⟨Nat.le_refl _, rfl, by simp, .inl rfl⟩
  · refine ⟨hl, by simp; omega, fun z hz' => hwz z (List.mem_of_mem_take hz'), ?_⟩
    by_cases h0 : len = 0
    · exact .inl h0
    · obtain ⟨b, off, spot⟩ := x
      have hc := hcell 0 (by omega)
      have hspot : spot = none := by simpa [Addr.add] using World.cell?_spot hc
      subst hspot
      refine .inr ⟨b, off, rfl, fun j hj => ?_⟩
      have := hcell j (by omega)
      have hplain : (⟨b, off, none⟩ : Addr).add j = ⟨b, off + j, none⟩ := by unfold Addr.add; split <;> simp_all
      rw [hplain] at this
      rw [this]
      simp [hj]
theorem row_segI {w : World} {a : Option Addr} {len cap : Nat} {zs : List Int} (h : IsRow .i64 w a len cap zs) (hn : len ≤ 1099511627776) : SegI w a len cap (zs.take len) := by
  obtain ⟨h1, h2, h3, h4⟩ := row_cells h
  exact ⟨h2, h1, hn, fun z hz => by have := bounds_i64 (h3 z hz); omega, h4⟩

theorem list_of {α : Type} {P : Nat → α → Prop} : ∀ (n : Nat), (∀ j, j < n → ∃ x, P j x) → ∃ xs : List α, xs.length = n ∧ ∀ j x, xs[j]? = some x → P j x
  | 0, _ => ⟨[], rfl, fun j x h => by simp at h⟩
  | n + 1, h => by
    obtain ⟨xs, hl, hx⟩ := list_of n (fun j hj => h j (by omega))
    obtain ⟨y, hy⟩ := h n (by omega)
    refine ⟨xs ++ [y], by simp [hl], fun j x hj => ?_⟩
    by_cases hjn : j < xs.length
    · rw [List.getElem?_append_left hjn] at hj
      exact hx j x hj
    · rw [List.getElem?_append_right (by omega)] at hj
      have hj0 : j - xs.length = 0 := by
        rcases Nat.eq_zero_or_pos (j - xs.length) with h | h
        · exact h
        · rw [List.getElem?_eq_none (by simp; omega)] at hj; cases hj
      rw [hj0] at hj
      simp at hj
      subst hj
      obtain rfl : j = n := by omega
      exact hy

theorem weights_mem_all {H : Type} {P : Program} {e : TypeId} : ∀ {l : List (DataW H)} {d : DataW H}, d ∈ l → ∀ n ∈ d.weights P e, n ∈ DataW.weightsAll P e l
  | x :: r, d, h, n, hn => by
    simp only [DataW.weightsAll, List.mem_append]
    rcases List.mem_cons.1 h with rfl | h
    · exact .inl hn
    · exact .inr (weights_mem_all h n hn)

section
variable {H : Type} {enc : TypeId × Value → H} {W : World}

set_option maxRecDepth 100000 in
/-- A slice's cells, opened. -/
theorem open_row {t e : TypeId} {k : IntKind} {fuel : Nat} {cs : List Value} {x : DataW H × List MemPlace} (ht : Tryd.prog.underlying t = some (.slice e)) (he : Tryd.prog.underlying e = some (.int k)) (hc : Tryd.prog.cellsOf e = 1)
    (h : DataW.trod enc Tryd.prog W 0 (fun _ => true) true fuel t cs = some x) :
    ∃ a len cap zs, cs = [.slice a len cap] ∧ IsRow k W a len cap zs ∧ (len = 0 ∨ x.1 = .slice (lits k (zs.take len)) (lits k (zs.drop len))) := by
  rcases open_ints ht he hc h with ⟨hcs, _⟩ | ⟨x, l, c, zs, hcs, _, hl, hm, hz, hx, hcell, hwz⟩
  · exact ⟨none, 0, 0, [], hcs, .inl ⟨rfl, rfl, rfl, rfl⟩, .inl rfl⟩
  · exact ⟨some x, l, c, zs, hcs, .inr ⟨_, rfl, hl, hm, by simpa using hz, hcell, hwz⟩, .inr (by rw [hx])⟩

set_option maxRecDepth 100000 in
/-- An instruction's cells, opened. -/
theorem open_insC {fuel : Nat} {cs : List Value} {x : DataW H × List MemPlace} (h : DataW.trod enc Tryd.prog W 0 (fun _ => true) true fuel 67 cs = some x) :
    ∃ c a la ln lc zs, cs = [.int .u8 c, .int .i64 a, .slice la ln lc] ∧ (Lit.int .u8 c).wf = true ∧ (Lit.int .i64 a).wf = true ∧ IsRow .i64 W la ln lc zs ∧
      (ln = 0 ∨ x.1 = .agg [.lit (.int .u8 c), .lit (.int .i64 a), .slice (lits .i64 (zs.take ln)) (lits .i64 (zs.drop ln))]) := by
  obtain ⟨y0, y1, y2, n, rfl, hl, h0, h1, h2⟩ := Deep.trod_struct3 Tryd.underlying67 h
  rw [Tryd.cellsIns] at hl
  match cs, hl with
  | [x0, x1, x2], _ =>
    simp only [Tryd.cellsU8, Tryd.cellsI64, Tryd.cellsInts] at h0 h1 h2
    obtain ⟨c, hc, hx0, hw0⟩ := DataW.trod_int Tryd.underlying5 h0
    obtain ⟨a, ha, hx1, hw1⟩ := DataW.trod_int Tryd.underlying2 h1
    obtain ⟨la, ln, lc, zs, hs, hr, hd⟩ := open_row Tryd.underlying24 Tryd.underlying3 (by kernel_rfl) h2
    simp at hc ha hs
    subst hc ha hs
    refine ⟨c, a, la, ln, lc, zs, rfl, hw0, hw1, hr, ?_⟩
    rcases hd with hd | hd
    · exact .inl hd
    · refine .inr ?_
      rw [hd, hx0, hx1]

set_option maxRecDepth 100000 in
theorem open_list {base : Nat} {v : Value} {d : DataW H} {ps : List MemPlace} (hval : Value.okWide Tryd.prog W .any base 22 v) (h : DataW.Trod enc Tryd.prog W 0 (fun _ => true) true 22 v d ps) (hw : ∀ n ∈ d.weights Tryd.prog 22, n ≤ reachBytes) :
    ∃ (a : Option Addr) (n cap : Nat) (xs : List Inx), v = .slice a n cap ∧ n ≤ cap ∧ n ≤ 140737488355328 ∧ CodS W a n xs := by
  obtain ⟨a, len, cap, rfl⟩ := okWide_slice Tryd.underlying22 hval
  obtain ⟨fuel, hf⟩ := h
  rcases DataW.trod_slice Tryd.underlying22 hf with ⟨hcs, _⟩ | ⟨x, l, c, elems, rest, n, _, hcs, hx, hb, hl, hm, hlen, hel, hsp, hns⟩
  · simp [Value.cells] at hcs
    obtain ⟨rfl, rfl, rfl⟩ := hcs
    exact ⟨none, 0, 0, [], rfl, Nat.le_refl _, by omega, rfl, .inl rfl⟩
  · simp [Value.cells] at hcs
    obtain ⟨rfl, rfl, rfl⟩ := hcs
    simp only [Prod.mk.injEq] at hx
    have hd := hx.1
    rw [hd] at hw
    have hbound : len ≤ 140737488355328 := by
      have := hw ((elems.length + rest.length) * 40) (by simp [DataW.weights, Tryd.underlying22, bytesIns])
      simp only [reachBytes] at this
      omega
    by_cases h0 : len = 0
    · subst h0
      exact ⟨_, 0, cap, [], rfl, Nat.zero_le _, by omega, rfl, .inl rfl⟩
    obtain ⟨b, off, spot⟩ := x
    have hstep : ∀ j, j < len → ∃ y : Inx, (W.cell? ((⟨b, off, spot⟩ : Addr).add (j * 3)) = some (.int .u8 y.c) ∧ W.cell? (((⟨b, off, spot⟩ : Addr).add (j * 3)).add 1) = some (.int .i64 y.a) ∧ W.cell? (((⟨b, off, spot⟩ : Addr).add (j * 3)).add 2) = some (.slice y.la y.ln y.lc) ∧
        0 ≤ y.c ∧ y.c ≤ 255 ∧ -9223372036854775808 ≤ y.a ∧ y.a ≤ 9223372036854775807 ∧ y.ln ≤ 140737488355328 ∧ (y.ln ≤ 100000 → SegI W y.la y.ln y.lc y.l)) := by
      intro j hj
      have he := hel j hj
      rw [List.getElem?_eq_getElem (by omega)] at he
      obtain ⟨cs, hcs, htr⟩ := Option.bind_eq_some_iff.1 he
      rw [Tryd.cellsIns] at hcs
      obtain ⟨_, hlc, hcell⟩ := World.cells?_some hcs
      obtain ⟨c, a, la, ln, lc, zs, hc3, u0, u1, hr, hdd⟩ := open_insC htr
      subst hc3
      have e0 := bounds_u8 u0
      have e1 := bounds_i64 u1
      have c0 := hcell 0 (by omega)
      have c1 := hcell 1 (by omega)
      have c2 := hcell 2 (by omega)
      have hadd0 : ∀ (y : Addr), y.add 0 = y := by intro y; cases y with | mk p q r => cases r <;> simp [Addr.add]
      rw [hadd0] at c0
      have hln : ln ≤ 140737488355328 := by
        rcases hdd with rfl | hdd
        · omega
        · have hmem : (elems[j]'(by omega)).1 ∈ elems.map (·.1) := List.mem_map.2 ⟨_, List.getElem_mem _, rfl⟩
          have := hw (((lits .i64 (zs.take ln) : List (DataW H)).length + (lits .i64 (zs.drop ln) : List (DataW H)).length) * Tryd.prog.bytesOf 3) (by
            have hin := weights_mem_all (P := Tryd.prog) (e := 67) hmem (((lits .i64 (zs.take ln) : List (DataW H)).length + (lits .i64 (zs.drop ln) : List (DataW H)).length) * Tryd.prog.bytesOf 3) (by
              rw [hdd]
              simp [DataW.weights, Tryd.underlying67]
              exact DataW.weights_mem_each (j := 2) (t := 24) rfl rfl _ (by simp [DataW.weights, Tryd.underlying24]))
            simp only [DataW.weights, Tryd.underlying22, List.mem_cons, List.mem_append]
            exact .inr (.inl hin))
          rw [bytesInt] at this
          simp only [lits, List.length_map, reachBytes] at this
          have := (row_cells hr).2.1
          omega
      exact ⟨⟨c, a, la, ln, lc, zs.take ln⟩, c0, c1, c2, by simp only; omega, by simp only; omega, by simp only; omega, by simp only; omega, hln, fun h => row_segI hr (by have h2 : ln ≤ 100000 := h; omega)⟩
    have hspot : spot = none := by
      obtain ⟨y, hy, _⟩ := hstep 0 (by omega)
      have := World.cell?_spot hy
      simpa [Addr.add] using this
    subst hspot
    have hplain : ∀ (p q i : Nat), (⟨p, q, none⟩ : Addr).add i = ⟨p, q + i, none⟩ := by intro p q i; unfold Addr.add; split <;> simp_all
    obtain ⟨xs, hxl, hxs⟩ := list_of (P := fun j y => InAt W b (off + j * 3) y) len (fun j hj => by
      obtain ⟨y, h1, h2, h3, h4⟩ := hstep j hj
      rw [hplain] at h1 h2 h3
      rw [hplain] at h2 h3
      exact ⟨y, h1, h2, h3, h4⟩)
    refine ⟨_, len, cap, xs, rfl, hl, hbound, hxl, .inr ⟨b, off, rfl, hxl, fun j hj => hxs j _ ?_⟩⟩
    rw [List.getD_eq_getElem?_getD, List.getElem?_eq_getElem (by omega)]; rfl
end
end Go.Proofs.YtfcklkmfdjjfoaaDoor

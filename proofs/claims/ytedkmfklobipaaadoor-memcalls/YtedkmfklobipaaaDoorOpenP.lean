/-
  A list of lists of bytes among the arguments, opened: what the walks are told of it.
-/
import Derived.Test.YtedkmfklobipaaaDoorMd
import Derived.Deep.Strs
import Derived.ProofKit
import Derived.OpenShut
import Derived.ShutString
import Derived.ChangeOld
import Derived.Below
import Derived.SizedLaws
import Derived.Deep.DeepHandedRow
import Derived.LaidMore
import Derived.Lay
namespace Go.Proofs.YtedkmfklobipaaaDoor
open Go.ChangeShapes Go.WideShapes Go.ChangeAt Go.RowKit
set_option linter.unusedVariables false

theorem own : ownKnob Tryd.prog.godebug = none := by kernel_rfl
theorem laidOut : laidOutB Tryd.prog = true := by kernel_rfl
theorem bytesU8 : Tryd.prog.bytesOf 5 = 1 := by kernel_rfl
theorem bytesBs : Tryd.prog.bytesOf 41 = 24 := by kernel_rfl
theorem Tryd.cellsBs : Tryd.prog.cellsOf 41 = 1 := by kernel_rfl
theorem Tryd.cellsU8 : Tryd.prog.cellsOf 5 = 1 := by kernel_rfl

/-- What is told of a slice of integers that came in. -/
def IsRow (k : IntKind) (w : World) (a : Option Addr) (len cap : Nat) (zs : List Int) : Prop :=
  (a = none ∧ len = 0 ∧ cap = 0 ∧ zs = []) ∨
  ∃ x, a = some x ∧ len ≤ cap ∧ cap ≤ maxLen ∧ zs.length = cap ∧ (∀ i, i < zs.length → w.cell? (x.add i) = some (.int k (zs.getD i 0))) ∧ ∀ n ∈ zs, (Lit.int k n).wf = true

theorem row_cells {k : IntKind} {w : World} {a : Option Addr} {len cap : Nat} {zs : List Int} (h : IsRow k w a len cap zs) :
    len ≤ cap ∧ (zs.take len).length = len ∧ (∀ z ∈ zs.take len, (Lit.int k z).wf = true) ∧ (len = 0 ∨ ∃ b off, a = some ⟨b, off, none⟩ ∧ ∀ j, j < len → w.cell? ⟨b, off + j, none⟩ = some (.int k ((zs.take len).getD j 0))) := by
  rcases h with ⟨rfl, rfl, rfl, rfl⟩ | ⟨x, rfl, hl, hm, hz, hcell, hwz⟩
  · exact ⟨Nat.le_refl _, rfl, by simp, .inl rfl⟩
  · refine ⟨hl, by simp; omega, fun z hz' => hwz z (List.mem_of_mem_take hz'), ?_⟩
    by_cases h0 : len = 0
    · exact .inl h0
    · obtain ⟨b, off, spot⟩ := x
      have hc := hcell 0 (by omega)
      have hspot : spot = none := by simpa [Addr.add] using World.cell?_spot hc
      subst hspot
      refine .inr ⟨b, off, rfl, fun j hj => ?_⟩
      have := hcell j (by omega)
      have hplain : (⟨b, off, none⟩ : Addr).add j = ⟨b, off + j, none⟩ := by unfold Addr.add; split <;> simp_all
      rw [hplain] at this
      rw [this]
      simp [hj]
theorem row_segB {w : World} {a : Option Addr} {len cap : Nat} {zs : List Int} (h : IsRow .u8 w a len cap zs) (hn : len ≤ 140737488355328) : BSeg w (.slice a len cap) len (fun j => (zs.take len).getD j 0) ∧ ∀ j, 0 ≤ (zs.take len).getD j 0 ∧ (zs.take len).getD j 0 ≤ 255 := by
  obtain ⟨h1, h2, h3, h4⟩ := row_cells h
  refine ⟨⟨a, cap, rfl, h1, hn, h4⟩, fun j => ?_⟩
  rw [List.getD_eq_getElem?_getD]
  by_cases hj : j < (zs.take len).length
  · rw [List.getElem?_eq_getElem hj]
    exact bounds_u8 (h3 _ (List.getElem_mem hj))
  · rw [List.getElem?_eq_none (by omega)]
    simp

theorem list_of {α : Type} {P : Nat → α → Prop} : ∀ (n : Nat), (∀ j, j < n → ∃ x, P j x) → ∃ xs : List α, xs.length = n ∧ ∀ j x, xs[j]? = some x → P j x
  | 0, _ => ⟨[], rfl, fun j x h => by simp at h⟩
  | n + 1, h => by
    obtain ⟨xs, hl, hx⟩ := list_of n (fun j hj => h j (by omega))
    obtain ⟨y, hy⟩ := h n (by omega)
    refine ⟨xs ++ [y], by simp [hl], fun j x hj => ?_⟩
    by_cases hjn : j < xs.length
    · rw [List.getElem?_append_left hjn] at hj
      exact hx j x hj
    · rw [List.getElem?_append_right (by omega)] at hj
      have hj0 : j - xs.length = 0 := by
        rcases Nat.eq_zero_or_pos (j - xs.length) with h | h
        · exact h
        · rw [List.getElem?_eq_none (by simp; omega)] at hj; cases hj
      rw [hj0] at hj
      simp at hj
      subst hj
      obtain rfl : j = n := by omega
      exact hy

theorem weights_mem_all {H : Type} {P : Program} {e : TypeId} : ∀ {l : List (DataW H)} {d : DataW H}, d ∈ l → ∀ n ∈ d.weights P e, n ∈ DataW.weightsAll P e l
  | x :: r, d, h, n, hn => by
    simp only [DataW.weightsAll, List.mem_append]
    rcases List.mem_cons.1 h with rfl | h
    · exact .inl hn
    · exact .inr (weights_mem_all h n hn)

section
variable {H : Type} {enc : TypeId × Value → H} {W : World}

set_option maxRecDepth 100000 in
/-- A slice's cells, opened. -/
theorem open_row {t e : TypeId} {k : IntKind} {fuel : Nat} {cs : List Value} {x : DataW H × List MemPlace} (ht : Tryd.prog.underlying t = some (.slice e)) (he : Tryd.prog.underlying e = some (.int k)) (hc : Tryd.prog.cellsOf e = 1)
    (h : DataW.trod enc Tryd.prog W 0 (fun _ => true) true fuel t cs = some x) :
    ∃ a len cap zs, cs = [.slice a len cap] ∧ IsRow k W a len cap zs ∧ (len = 0 ∨ x.1 = .slice (lits k (zs.take len)) (lits k (zs.drop len))) := by
  rcases open_ints ht he hc h with ⟨hcs, _⟩ | ⟨x, l, c, zs, hcs, _, hl, hm, hz, hx, hcell, hwz⟩
  · exact ⟨none, 0, 0, [], hcs, .inl ⟨rfl, rfl, rfl, rfl⟩, .inl rfl⟩
  · exact ⟨some x, l, c, zs, hcs, .inr ⟨_, rfl, hl, hm, by simpa using hz, hcell, hwz⟩, .inr (by rw [hx])⟩

set_option maxRecDepth 100000 in
theorem open_pages {base : Nat} {v : Value} {d : DataW H} {ps : List MemPlace} (hval : Value.okWide Tryd.prog W .any base 22 v) (h : DataW.Trod enc Tryd.prog W 0 (fun _ => true) true 22 v d ps) (hw : ∀ n ∈ d.weights Tryd.prog 22, n ≤ reachBytes) :
    ∃ (n : Nat) (ln : Nat → Nat) (g : Nat → Nat → Int), PSeg W v n ln g ∧ ∀ i j, 0 ≤ g i j ∧ g i j ≤ 255 := by
  obtain ⟨a, len, cap, rfl⟩ := okWide_slice Tryd.underlying22 hval
  obtain ⟨fuel, hf⟩ := h
  rcases DataW.trod_slice Tryd.underlying22 hf with ⟨hcs, _⟩ | ⟨x, l, c, elems, rest, n, _, hcs, hx, hb, hl, hm, hlen, hel, hsp, hns⟩
  · simp [Value.cells] at hcs
    obtain ⟨rfl, rfl, rfl⟩ := hcs
    exact ⟨0, fun _ => 0, fun _ _ => 0, ⟨none, 0, rfl, Nat.le_refl _, by omega, .inl rfl⟩, fun _ _ => by simp⟩
  · simp [Value.cells] at hcs
    obtain ⟨rfl, rfl, rfl⟩ := hcs
    simp only [Prod.mk.injEq] at hx
    have hd := hx.1
    rw [hd] at hw
    have hbound : len ≤ 140737488355328 := by
      have := hw ((elems.length + rest.length) * 24) (by simp [DataW.weights, Tryd.underlying22, bytesBs])
      simp only [reachBytes] at this
      omega
    by_cases h0 : len = 0
    · subst h0
      exact ⟨0, fun _ => 0, fun _ _ => 0, ⟨_, _, rfl, Nat.zero_le _, by omega, .inl rfl⟩, fun _ _ => by simp⟩
    obtain ⟨b, off, spot⟩ := x
    have hstep : ∀ j, j < len → ∃ y : Value × Nat × (Nat → Int), W.cell? ((⟨b, off, spot⟩ : Addr).add j) = some y.1 ∧ BSeg W y.1 y.2.1 y.2.2 ∧ ∀ i, 0 ≤ y.2.2 i ∧ y.2.2 i ≤ 255 := by
      intro j hj
      have he := hel j hj
      rw [List.getElem?_eq_getElem (by omega)] at he
      obtain ⟨cs, hcs, htr⟩ := Option.bind_eq_some_iff.1 he
      rw [Tryd.cellsBs] at hcs
      obtain ⟨_, hlc, hcell⟩ := World.cells?_some hcs
      obtain ⟨la, ln, lc, zs, hc3, hr, hdd⟩ := open_row Tryd.underlying41 Tryd.underlying5 Tryd.cellsU8 htr
      subst hc3
      have c0 := hcell 0 (by omega)
      have hadd0 : ∀ (y : Addr), y.add 0 = y := by intro y; cases y with | mk p q r => cases r <;> simp [Addr.add]
      rw [hadd0, Nat.mul_one] at c0
      have hln : ln ≤ 140737488355328 := by
        rcases hdd with rfl | hdd
        · omega
        · have hmem : (elems[j]'(by omega)).1 ∈ elems.map (·.1) := List.mem_map.2 ⟨_, List.getElem_mem _, rfl⟩
          have := hw (((lits .u8 (zs.take ln) : List (DataW H)).length + (lits .u8 (zs.drop ln) : List (DataW H)).length) * Tryd.prog.bytesOf 5) (by
            have hin := weights_mem_all (P := Tryd.prog) (e := 41) hmem (((lits .u8 (zs.take ln) : List (DataW H)).length + (lits .u8 (zs.drop ln) : List (DataW H)).length) * Tryd.prog.bytesOf 5) (by
              rw [hdd]
              simp [DataW.weights, Tryd.underlying41])
            simp only [DataW.weights, Tryd.underlying22, List.mem_cons, List.mem_append]
            exact .inr (.inl hin))
          rw [bytesU8] at this
          simp only [lits, List.length_map, reachBytes] at this
          have := (row_cells hr).2.1
          omega
      obtain ⟨s1, s2⟩ := row_segB hr hln
      exact ⟨(.slice la ln lc, ln, fun j => (zs.take ln).getD j 0), c0, s1, s2⟩
    have hspot : spot = none := by
      obtain ⟨y, hy, _⟩ := hstep 0 (by omega)
      have := World.cell?_spot hy
      simpa [Addr.add] using this
    subst hspot
    have hplain : ∀ (p q i : Nat), (⟨p, q, none⟩ : Addr).add i = ⟨p, q + i, none⟩ := by intro p q i; unfold Addr.add; split <;> simp_all
    obtain ⟨xs, hxl, hxs⟩ := list_of (P := fun j (y : Value × Nat × (Nat → Int)) => W.cell? ⟨b, off + j, none⟩ = some y.1 ∧ BSeg W y.1 y.2.1 y.2.2 ∧ ∀ i, 0 ≤ y.2.2 i ∧ y.2.2 i ≤ 255) len (fun j hj => by
      obtain ⟨y, h1, h2⟩ := hstep j hj
      rw [hplain] at h1
      exact ⟨y, h1, h2⟩)
    have hget : ∀ i, i < len → ∃ y, xs[i]? = some y := fun i hi => ⟨_, List.getElem?_eq_getElem (by omega)⟩
    refine ⟨len, fun i => ((xs[i]?).map (fun y => y.2.1)).getD 0, fun i => ((xs[i]?).map (fun y => y.2.2)).getD (fun _ => 0), ⟨_, _, rfl, hl, hbound, .inr ⟨b, off, rfl, fun i hi => ?_⟩⟩, fun i j => ?_⟩
    · obtain ⟨y, hy⟩ := hget i hi
      obtain ⟨h1, h2, _⟩ := hxs i y hy
      refine ⟨y.1, h1, ?_⟩
      simp only [hy, Option.map_some, Option.getD_some]
      exact h2
    · show 0 ≤ ((xs[i]?).map (fun y => y.2.2)).getD (fun _ => 0) j ∧ ((xs[i]?).map (fun y => y.2.2)).getD (fun _ => 0) j ≤ 255
      cases hy : xs[i]? with
      | none => simp
      | some y => exact (hxs i y hy).2.2 j
end
end Go.Proofs.YtedkmfklobipaaaDoor

/-
  A state that was read, as it lies in memory.
-/
import Derived.Test.YtbdjghokedfkfaaDoorWk
namespace Go.Proofs.YtbdjghokedfkfaaDoor
open Go.RowKit
set_option linter.unusedVariables false
set_option maxRecDepth 100000

theorem zip_get (bl : List Nat) (ps : List (List Int)) (j : Nat) (x : PgM) (h : (List.zipWith (fun b l => (((some ⟨b, 0, none⟩, 4096, 4096), l) : PgM)) bl ps)[j]? = some x) : ∃ b l, bl[j]? = some b ∧ ps[j]? = some l ∧ x = ((some ⟨b, 0, none⟩, 4096, 4096), l) := by
  rw [List.getElem?_zipWith] at h
  cases hb : bl[j]? with
  | none => rw [hb] at h; simp at h
  | some b =>
    cases hl : ps[j]? with
    | none => rw [hb, hl] at h; simp at h
    | some l =>
      rw [hb, hl] at h
      exact ⟨b, l, rfl, rfl, by simpa using h.symm⟩
theorem StA.sst {base : Nat} {w : World} {p : StP} {B5 B6 B7 : Nat} {bl : List Nat} {B8 : Nat} {ys : List FrM} (h : StA base w p B5 B6 B7 bl B8 ys) (hp : ∀ l ∈ p.ps, l.length = 4096) : SSt w (mkS p B5 B6 B7 bl B8 ys) := by
  refine ⟨⟨rfl, .inr ⟨B8, 0, rfl, fun j x hj => ?_⟩, fun x hx => ?_⟩, h.gs.si, ⟨?_, .inr ⟨B7, 0, rfl, fun j x hj => ?_⟩, fun x hx => ?_⟩, h.rs.si⟩
  · have hc : ∀ q, q < 4 → w.cell? ⟨B8, 0 + j * 4 + q, none⟩ = (frCs x)[q]? := fun q hq => by
      rw [cell_at h.fr, Nat.zero_add, List.getElem?_toArray, fm_get frCs 4 frCs_len ys j q hq]
      have hj' : ys[j]? = some x := hj
      rw [hj']
      rfl
    exact ⟨hc 0 (by omega), hc 1 (by omega), hc 2 (by omega), hc 3 (by omega)⟩
  · obtain ⟨f, C1, C2, rfl, hf, _⟩ := h.fa.el x hx
    exact ⟨hf.l.si, hf.s.si⟩
  · have := h.ps.len
    simp only [List.length_zipWith]
    omega
  · obtain ⟨b, l, hb, hl, rfl⟩ := zip_get bl p.ps j x hj
    rw [cell_at h.ps.row, Nat.zero_add, List.getElem?_toArray, List.getElem?_map, hb]
    rfl
  · obtain ⟨j, hj⟩ := List.getElem?_of_mem hx
    obtain ⟨b, l, hb, hl, rfl⟩ := zip_get bl p.ps j x hj
    refine ⟨hp l (List.mem_of_getElem? hl), .inr ⟨b, 0, rfl, fun i z hz => ?_⟩⟩
    have hz' : l[i]? = some z := hz
    rw [cell_at (h.ps.el j b l hb hl), Nat.zero_add]
    simp [byV, hz']
/-- How long the lists are, and what the numbers are. -/
structure SzP (p : StP) : Prop where
  rs : p.rs.length ≤ 8
  gs : p.gs.length ≤ 64
  ps : p.ps.length ≤ 64
  pl : ∀ l ∈ p.ps, l.length = 4096 ∧ ∀ z ∈ l, 0 ≤ z ∧ z ≤ 255
  fs : p.fs.length ≤ 64
  fl : ∀ f ∈ p.fs, f.2.2.1.length ≤ 64 ∧ f.2.2.2.length ≤ 256
theorem StA.sb {base : Nat} {w : World} {p : StP} {B5 B6 B7 : Nat} {bl : List Nat} {B8 : Nat} {ys : List FrM} (h : StA base w p B5 B6 B7 bl B8 ys) (hp : SzP p) : SB (mkS p B5 B6 B7 bl B8 ys) := by
  have hyl : ys.length = p.fs.length := by rw [← h.fp, List.length_map]
  refine ⟨fun x hx => ?_, fun x hx => ?_, ?_, ?_, ?_, ?_⟩
  · obtain ⟨f, C1, C2, rfl, hf, _⟩ := h.fa.el x hx
    have hm : plF (frN f C1 C2) ∈ p.fs := by rw [← h.fp]; exact List.mem_map_of_mem hx
    have := hp.fl _ hm
    simp only [plF] at this
    exact ⟨by show f.2.2.1.length ≤ _; omega, by show f.2.2.2.length ≤ _; omega⟩
  · obtain ⟨j, hj⟩ := List.getElem?_of_mem hx
    obtain ⟨b, l, hb, hl, rfl⟩ := zip_get bl p.ps j x hj
    exact ⟨by show 4096 ≤ 1099511627776; omega, (hp.pl l (List.mem_of_getElem? hl)).2⟩
  · show ys.length ≤ _
    have := hp.fs
    omega
  · show p.gs.length ≤ _
    have := hp.gs
    omega
  · show p.ps.length ≤ _
    have := hp.ps
    omega
  · show p.rs.length ≤ _
    have := hp.rs
    omega
theorem sz_kn : SzP ⟨2, 0, 2, 0, [5], [], [], []⟩ := ⟨by decide, by decide, by decide, fun l hl => (by cases hl), by decide, fun f hf => (by cases hf)⟩
theorem sst_kn {w : World} {B : Nat} (h : w.heap[B]? = some (.cells #[.int .u64 5] 63)) : SSt w (kS B) :=
  ⟨⟨rfl, .inl rfl, fun x hx => (by cases hx)⟩, ⟨rfl, .inl rfl⟩, ⟨rfl, .inl rfl, fun x hx => (by cases hx)⟩, ⟨rfl, .inr ⟨B, 0, rfl, fun j x hj => by
    have hj0 : j = 0 := by have := lt_of_get hj; simp at this; omega
    subst hj0
    obtain rfl : (5 : Int) = x := by simpa using hj
    exact cell_at h⟩⟩⟩
theorem sb_kn (B : Nat) : SB (kS B) := ⟨fun x hx => (by cases hx), fun x hx => (by cases hx), by show 0 ≤ _; omega, by show 0 ≤ _; omega, by show 0 ≤ _; omega, by show 1 ≤ _; omega⟩
theorem sr_kn (B : Nat) : SR (kS B) := ⟨by show (-128 : Int) ≤ 2 ∧ (2 : Int) ≤ 127; decide, by show (-128 : Int) ≤ 0 ∧ (0 : Int) ≤ 127; decide, fun v hv => by
    have : v = 5 := by simpa using hv
    subst this; decide, fun v hv => (by cases hv), fun v hv => (by cases hv), fun v hv => (by cases hv)⟩
theorem ste_kn {base : Nat} {w : World} {B5 B6 B7 : Nat} {bl : List Nat} {B8 B : Nat} {ys : List FrM} (h : StA base w ⟨2, 0, 2, 0, [5], [], [], []⟩ B5 B6 B7 bl B8 ys) : stE (mkS ⟨2, 0, 2, 0, [5], [], [], []⟩ B5 B6 B7 bl B8 ys) (kS B) = true := by
  have hy : ys = [] := by
    have := congrArg List.length h.fp
    rw [List.length_map] at this
    exact List.eq_nil_of_length_eq_zero this
  subst hy
  have hz : List.zipWith (fun b l => (((some ⟨b, 0, none⟩, 4096, 4096), l) : PgM)) bl ([] : List (List Int)) = [] := by simp
  simp only [stE, hz]
  decide
end Go.Proofs.YtbdjghokedfkfaaDoor

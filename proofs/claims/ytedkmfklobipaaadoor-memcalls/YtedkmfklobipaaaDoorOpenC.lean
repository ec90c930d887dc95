/-
  A list of calls among the arguments, opened.
-/
import Derived.Test.YtedkmfklobipaaaDoorOpenP
import Derived.ChangeArms
namespace Go.Proofs.YtedkmfklobipaaaDoor
open Go.ChangeShapes Go.WideShapes Go.ChangeAt Go.RowKit
set_option linter.unusedVariables false

/-- A call of the law. -/
structure Cl where
  op : Int
  sec : Bool
  addr : Int
  n : Int
  v : Int
def dCl : Cl := ⟨0, false, 0, 0, 0⟩
/-- It lies there. -/
structure CAt (w : World) (b o : Nat) (x : Cl) : Prop where
  c0 : w.cell? ⟨b, o, none⟩ = some (.int .i64 x.op)
  c1 : w.cell? ⟨b, o + 1, none⟩ = some (.bool x.sec)
  c2 : w.cell? ⟨b, o + 2, none⟩ = some (.int .u64 x.addr)
  c3 : w.cell? ⟨b, o + 3, none⟩ = some (.int .i64 x.n)
  c4 : w.cell? ⟨b, o + 4, none⟩ = some (.int .u64 x.v)
  ra : 0 ≤ x.addr ∧ x.addr ≤ 18446744073709551615
  rv : 0 ≤ x.v ∧ x.v ≤ 18446744073709551615
theorem bytesCl : Tryd.prog.bytesOf 65 = 40 := by kernel_rfl
theorem Tryd.cellsCl : Tryd.prog.cellsOf 65 = 5 := by kernel_rfl
theorem Tryd.cellsI3 : Tryd.prog.cellsOf 3 = 1 := by kernel_rfl
theorem Tryd.cellsB4 : Tryd.prog.cellsOf 4 = 1 := by kernel_rfl
theorem Tryd.cellsU64 : Tryd.prog.cellsOf 63 = 1 := by kernel_rfl

section
variable {H : Type} {enc : TypeId × Value → H} {W : World}
set_option maxRecDepth 100000 in
theorem open_callC {fuel : Nat} {cs : List Value} {x : DataW H × List MemPlace} (h : DataW.trod enc Tryd.prog W 0 (fun _ => true) true fuel 65 cs = some x) :
    ∃ a b c d e, cs = [.int .i64 a, .bool b, .int .u64 c, .int .i64 d, .int .u64 e] ∧ (Lit.int .u64 c).wf = true ∧ (Lit.int .u64 e).wf = true := by
  obtain ⟨ys, m, _, hx, hl, hyl, hel⟩ := DataW.trod_struct Tryd.underlying65 h
  rw [Tryd.cellsCl] at hl
  match ys, hyl with
  | [y0, y1, y2, y3, y4], _ =>
    match cs, hl with
    | [x0, x1, x2, x3, x4], _ =>
      have e0 : DataW.trod enc Tryd.prog W 0 (fun _ => true) true m 3 (([x0, x1, x2, x3, x4].drop 0).take (Tryd.prog.cellsOf 3)) = some y0 := hel 0 _ rfl
      have e1 : DataW.trod enc Tryd.prog W 0 (fun _ => true) true m 4 (([x0, x1, x2, x3, x4].drop 1).take (Tryd.prog.cellsOf 4)) = some y1 := hel 1 _ rfl
      have e2 : DataW.trod enc Tryd.prog W 0 (fun _ => true) true m 63 (([x0, x1, x2, x3, x4].drop 2).take (Tryd.prog.cellsOf 63)) = some y2 := hel 2 _ rfl
      have e3 : DataW.trod enc Tryd.prog W 0 (fun _ => true) true m 3 (([x0, x1, x2, x3, x4].drop 3).take (Tryd.prog.cellsOf 3)) = some y3 := hel 3 _ rfl
      have e4 : DataW.trod enc Tryd.prog W 0 (fun _ => true) true m 63 (([x0, x1, x2, x3, x4].drop 4).take (Tryd.prog.cellsOf 63)) = some y4 := hel 4 _ rfl
      rw [Tryd.cellsI3] at e0 e3
      rw [Tryd.cellsB4] at e1
      rw [Tryd.cellsU64] at e2 e4
      obtain ⟨a, ha, _⟩ := DataW.trod_int Tryd.underlying3 e0
      obtain ⟨b, hb, _⟩ := DataW.trod_bool Tryd.underlying4 e1
      obtain ⟨c, hc, _, wc⟩ := DataW.trod_int Tryd.underlying63 e2
      obtain ⟨d, hd, _⟩ := DataW.trod_int Tryd.underlying3 e3
      obtain ⟨e, he, _, we⟩ := DataW.trod_int Tryd.underlying63 e4
      simp at ha hb hc hd he
      subst ha hb hc hd he
      exact ⟨a, b, c, d, e, rfl, wc, we⟩

set_option maxRecDepth 100000 in
theorem open_calls {base : Nat} {v : Value} {d : DataW H} {ps : List MemPlace} (hval : Value.okWide Tryd.prog W .any base 43 v) (h : DataW.Trod enc Tryd.prog W 0 (fun _ => true) true 43 v d ps) (hw : ∀ n ∈ d.weights Tryd.prog 43, n ≤ reachBytes) :
    ∃ (a : Option Addr) (n cap : Nat) (xs : List Cl), v = .slice a n cap ∧ n ≤ cap ∧ n ≤ 140737488355328 ∧ xs.length = n ∧ (n = 0 ∨ ∃ b off, a = some ⟨b, off, none⟩ ∧ ∀ j x, xs[j]? = some x → CAt W b (off + j * 5) x) := by
  obtain ⟨a, len, cap, rfl⟩ := okWide_slice Tryd.underlying43 hval
  obtain ⟨fuel, hf⟩ := h
  rcases DataW.trod_slice Tryd.underlying43 hf with ⟨hcs, _⟩ | ⟨x, l, c, elems, rest, n, _, hcs, hx, hb, hl, hm, hlen, hel, hsp, hns⟩
  · simp [Value.cells] at hcs
    obtain ⟨rfl, rfl, rfl⟩ := hcs
    exact ⟨none, 0, 0, [], rfl, Nat.le_refl _, by omega, rfl, .inl rfl⟩
  · simp [Value.cells] at hcs
    obtain ⟨rfl, rfl, rfl⟩ := hcs
    simp only [Prod.mk.injEq] at hx
    have hd := hx.1
    rw [hd] at hw
    have hbound : len ≤ 140737488355328 := by
      have := hw ((elems.length + rest.length) * 40) (by simp [DataW.weights, Tryd.underlying43, bytesCl])
      simp only [reachBytes] at this
      omega
    by_cases h0 : len = 0
    · subst h0
      exact ⟨_, 0, cap, [], rfl, Nat.zero_le _, by omega, rfl, .inl rfl⟩
    obtain ⟨b, off, spot⟩ := x
    have hadd0 : ∀ (y : Addr), y.add 0 = y := by intro y; cases y with | mk p q r => cases r <;> simp [Addr.add]
    have hstep : ∀ j, j < len → ∃ y : Cl, W.cell? ((⟨b, off, spot⟩ : Addr).add (j * 5)) = some (.int .i64 y.op) ∧ W.cell? (((⟨b, off, spot⟩ : Addr).add (j * 5)).add 1) = some (.bool y.sec) ∧ W.cell? (((⟨b, off, spot⟩ : Addr).add (j * 5)).add 2) = some (.int .u64 y.addr) ∧
        W.cell? (((⟨b, off, spot⟩ : Addr).add (j * 5)).add 3) = some (.int .i64 y.n) ∧ W.cell? (((⟨b, off, spot⟩ : Addr).add (j * 5)).add 4) = some (.int .u64 y.v) ∧ (0 ≤ y.addr ∧ y.addr ≤ 18446744073709551615) ∧ (0 ≤ y.v ∧ y.v ≤ 18446744073709551615) := by
      intro j hj
      have he := hel j hj
      rw [List.getElem?_eq_getElem (by omega)] at he
      obtain ⟨cs, hcs, htr⟩ := Option.bind_eq_some_iff.1 he
      rw [Tryd.cellsCl] at hcs
      obtain ⟨_, hlc, hcell⟩ := World.cells?_some hcs
      obtain ⟨a, b', c, d', e, hc3, u0, u1⟩ := open_callC htr
      subst hc3
      have k0 := hcell 0 (by omega)
      rw [hadd0] at k0
      have r0 := bounds_u64 u0
      have r1 := bounds_u64 u1
      exact ⟨⟨a, b', c, d', e⟩, k0, hcell 1 (by omega), hcell 2 (by omega), hcell 3 (by omega), hcell 4 (by omega), by simp only; omega, by simp only; omega⟩
    have hspot : spot = none := by
      obtain ⟨y, hy, _⟩ := hstep 0 (by omega)
      have := World.cell?_spot hy
      simpa [Addr.add] using this
    subst hspot
    have hplain : ∀ (p q i : Nat), (⟨p, q, none⟩ : Addr).add i = ⟨p, q + i, none⟩ := by intro p q i; unfold Addr.add; split <;> simp_all
    obtain ⟨xs, hxl, hxs⟩ := list_of (P := fun j y => CAt W b (off + j * 5) y) len (fun j hj => by
      obtain ⟨y, h1, h2, h3, h4, h5, h6, h7⟩ := hstep j hj
      simp only [hplain] at h1 h2 h3 h4 h5
      exact ⟨y, h1, h2, h3, h4, h5, h6, h7⟩)
    exact ⟨_, len, cap, xs, rfl, hl, hbound, hxl, .inr ⟨b, off, rfl, hxs⟩⟩
end
end Go.Proofs.YtedkmfklobipaaaDoor

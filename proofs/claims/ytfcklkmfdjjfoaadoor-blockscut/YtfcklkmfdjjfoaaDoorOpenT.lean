/-
  A table among the arguments, opened; the library's table of tens, from the row's condition.
-/
import Derived.Test.YtfcklkmfdjjfoaaDoorOpen
import Derived.Test.YtfcklkmfdjjfoaaDoorTb
import Derived.Lib.LaidTab
import Derived.Stop.LaidErr
import Derived.ChangeArms
namespace Go.Proofs.YtfcklkmfdjjfoaaDoor
open Go.ChangeShapes Go.WideShapes Go.ChangeAt Go.RowKit
set_option linter.unusedVariables false

theorem Tryd.cellsTable : Tryd.prog.cellsOf 26 = 5 := by kernel_rfl
theorem Tryd.cellsTexts : Tryd.prog.cellsOf 23 = 1 := by kernel_rfl
theorem Tryd.cellsInt : Tryd.prog.cellsOf 3 = 1 := by kernel_rfl
theorem Tryd.bytesText : Tryd.prog.bytesOf 9 = 16 := by kernel_rfl

theorem row_segL {w : World} {a : Option Addr} {len cap : Nat} {zs : List Int} (h : IsRow .i64 w a len cap zs) (hn : len ≤ 17592186044416) : SegL w a len cap (zs.take len) := by
  obtain ⟨h1, h2, h3, h4⟩ := row_cells h
  exact ⟨h2, h1, by omega, h4⟩

section
variable {H : Type} {enc : TypeId × Value → H} {W : World}

/-- A slice of texts that came in. -/
theorem open_textsC {fuel : Nat} {cs : List Value} {x : DataW H × List MemPlace} (h : DataW.trod enc Tryd.prog W 0 (fun _ => true) true fuel 23 cs = some x) :
    ∃ (a : Option Addr) (n cap : Nat) (S : List ByteArray), cs = [.slice a n cap] ∧ S.length = n ∧ n ≤ cap ∧ (n = 0 ∨ ∃ b off, a = some ⟨b, off, none⟩ ∧ ∀ j, j < n → W.cell? ⟨b, off + j, none⟩ = some (.string (S.getD j ⟨#[]⟩))) ∧
      (n = 0 ∨ ∃ e s : List (DataW H), x.1 = .slice e s ∧ e.length = n) := by
  rcases Deep.open_strs Tryd.underlying23 Tryd.underlying9 (by kernel_rfl) h with ⟨hcs, _⟩ | ⟨a, len, cap, m, Sx, hcs, _, hl, hm, hmm, hx, hcell⟩
  · exact ⟨none, 0, 0, [], hcs, rfl, Nat.le_refl _, .inl rfl, .inl rfl⟩
  · have hmc : m = cap := by simpa using hmm
    refine ⟨some a, len, cap, (List.range len).map Sx, hcs, by simp, hl, ?_, .inr ⟨_, _, by rw [hx], by simp⟩⟩
    by_cases h0 : len = 0
    · exact .inl h0
    · obtain ⟨b, off, spot⟩ := a
      have hc := (hcell 0 (by omega)).1
      have hspot : spot = none := by simpa [Addr.add] using World.cell?_spot hc
      subst hspot
      refine .inr ⟨b, off, rfl, fun j hj => ?_⟩
      have := (hcell j (by omega)).1
      have hplain : (⟨b, off, none⟩ : Addr).add j = ⟨b, off + j, none⟩ := by unfold Addr.add; split <;> simp_all
      rw [hplain] at this
      rw [this]
      simp [hj]

theorem len5 {α : Type} : ∀ (l : List α), l.length = 5 → ∃ a b c d e, l = [a, b, c, d, e]
  | [a, b, c, d, e], _ => ⟨a, b, c, d, e, rfl⟩

set_option maxRecDepth 100000 in
theorem open_table {base : Nat} {v : Value} {d : DataW H} {ps : List MemPlace} (hval : Value.okWide Tryd.prog W .any base 26 v) (h : DataW.Trod enc Tryd.prog W 0 (fun _ => true) true 26 v d ps) (hw : ∀ n ∈ d.weights Tryd.prog 26, n ≤ reachBytes) :
    ∃ (sa : Option Addr) (sn sc : Nat) (ea : Option Addr) (en ec : Nat) (la : Option Addr) (ln lc : Nat) (fa : Option Addr) (fn fc : Nat) (hi : Int) (S : List ByteArray) (E1 E2 E3 : List Int),
      v = .agg #[.slice sa sn sc, .slice ea en ec, .slice la ln lc, .slice fa fn fc, .int .i64 hi] ∧ TbS W sa sn sc ea en ec la ln lc fa fn fc S E1 E2 E3 ∧ TbN sn en ln fn := by
  obtain ⟨cs, rfl, hsz⟩ := okWide_struct Tryd.underlying26 hval
  obtain ⟨fuel, hf⟩ := h
  obtain ⟨ys, m, _, hx, hl, hyl, hel⟩ := DataW.trod_struct Tryd.underlying26 hf
  rw [Tryd.cellsTable] at hl
  have hl' : cs.toList.length = 5 := hl
  obtain ⟨c0, c1, c2, c3, c4, hcs⟩ := len5 cs.toList hl'
  obtain ⟨y0, y1, y2, y3, y4, rfl⟩ := len5 ys hyl
  have hcells : (Value.agg cs).cells.toList = [c0, c1, c2, c3, c4] := hcs
  rw [hcells] at hel
  have h0 : DataW.trod enc Tryd.prog W 0 (fun _ => true) true m 23 (([c0, c1, c2, c3, c4].drop 0).take (Tryd.prog.cellsOf 23)) = some y0 := hel 0 _ rfl
  have h1 : DataW.trod enc Tryd.prog W 0 (fun _ => true) true m 24 (([c0, c1, c2, c3, c4].drop 1).take (Tryd.prog.cellsOf 24)) = some y1 := hel 1 _ rfl
  have h2 : DataW.trod enc Tryd.prog W 0 (fun _ => true) true m 24 (([c0, c1, c2, c3, c4].drop 2).take (Tryd.prog.cellsOf 24)) = some y2 := hel 2 _ rfl
  have h3 : DataW.trod enc Tryd.prog W 0 (fun _ => true) true m 24 (([c0, c1, c2, c3, c4].drop 3).take (Tryd.prog.cellsOf 24)) = some y3 := hel 3 _ rfl
  have h4 : DataW.trod enc Tryd.prog W 0 (fun _ => true) true m 3 (([c0, c1, c2, c3, c4].drop 4).take (Tryd.prog.cellsOf 3)) = some y4 := hel 4 _ rfl
  rw [Tryd.cellsTexts] at h0
  rw [Tryd.cellsInts] at h1 h2 h3
  rw [Tryd.cellsInt] at h4
  obtain ⟨sa, sn, sc, S, e0, q0, q1, q2, d0⟩ := open_textsC h0
  obtain ⟨ea, en, ec, z1, e1, r1, d1⟩ := open_row Tryd.underlying24 Tryd.underlying3 (by kernel_rfl) h1
  obtain ⟨la, ln, lc, z2, e2, r2, d2⟩ := open_row Tryd.underlying24 Tryd.underlying3 (by kernel_rfl) h2
  obtain ⟨fa, fn, fc, z3, e3, r3, d3⟩ := open_row Tryd.underlying24 Tryd.underlying3 (by kernel_rfl) h3
  obtain ⟨hi, e4, hx4, _⟩ := DataW.trod_int Tryd.underlying3 h4
  simp at e0 e1 e2 e3 e4
  subst e0 e1 e2 e3 e4
  have hd : d = .agg [y0.1, y1.1, y2.1, y3.1, y4.1] := by
    have := congrArg Prod.fst hx
    simpa using this
  have wmem : ∀ (j : Nat) (t : TypeId) (u : DataW H), [23, 24, 24, 24, 3][j]? = some t → [y0.1, y1.1, y2.1, y3.1, y4.1][j]? = some u → ∀ k ∈ u.weights Tryd.prog t, k ≤ reachBytes := fun j t u ht hu k hk => by
    refine hw k ?_
    rw [hd]
    simp only [DataW.weights, Tryd.underlying26]
    exact DataW.weights_mem_each (j := j) (t := t) (by simpa using ht) hu k hk
  have b0 : sn ≤ 8796093022208 := by
    rcases d0 with d0 | ⟨e, s, d0, hlen⟩
    · omega
    · have := wmem 0 23 y0.1 rfl rfl ((e.length + s.length) * Tryd.prog.bytesOf 9) (by rw [d0]; simp [DataW.weights, Tryd.underlying23])
      rw [Tryd.bytesText] at this
      simp only [reachBytes] at this
      omega
  have bI : ∀ (j ln lc : Nat) (la : Option Addr) (zs : List Int) (y : DataW H), [23, 24, 24, 24, 3][j]? = some 24 → [y0.1, y1.1, y2.1, y3.1, y4.1][j]? = some y → IsRow .i64 W la ln lc zs → (ln = 0 ∨ y = .slice (lits .i64 (zs.take ln)) (lits .i64 (zs.drop ln))) → ln ≤ 17592186044416 := fun j ln lc la zs y ht hy hr hdd => by
    rcases hdd with h | h
    · omega
    · have := wmem j 24 y ht hy (((lits .i64 (zs.take ln) : List (DataW H)).length + (lits .i64 (zs.drop ln) : List (DataW H)).length) * Tryd.prog.bytesOf 3) (by rw [h]; simp [DataW.weights, Tryd.underlying24])
      rw [bytesInt] at this
      simp only [lits, List.length_map, reachBytes] at this
      have := (row_cells hr).2.1
      omega
  have b1 := bI 1 en ec ea z1 y1.1 rfl rfl r1 d1
  have b2 := bI 2 ln lc la z2 y2.1 rfl rfl r2 d2
  have b3 := bI 3 fn fc fa z3 y3.1 rfl rfl r3 d3
  refine ⟨sa, sn, sc, ea, en, ec, la, ln, lc, fa, fn, fc, hi, S, _, _, _, ?_, ⟨⟨q0, q1, b0, q2⟩, row_segL r1 b1, row_segL r2 b2, row_segL r3 b3⟩, ⟨b0, b1, b2, b3⟩⟩
  congr 1
  apply Array.toList_inj.1
  rw [hcs]
end
end Go.Proofs.YtfcklkmfdjjfoaaDoor

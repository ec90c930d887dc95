/-
  Proved: called with any signature (two texts, whatever they hold) and any text, TypesWords returns true, and its arguments read afterwards as they read before. Conditions: none beyond the row's own.
  (The frame is the guide's own way for such a row; the walk is ours.)
-/
import Derived.Test.YtdlpbldpddobcaaWordsLaw
import Derived.WalkKit
import Derived.ProofKit
import Derived.OpenShut
import Derived.ShutString
import Derived.ChangeOld
import Derived.Below
import Derived.SizedLaws
import Derived.HandedShaped
import Derived.Lib.SmallJoins
namespace Go.Proofs.Ytdlpbldpddobcaa.typesWords
open Go.ChangeShapes Go.WideShapes Go.ChangeAt Go.RowKit Go.Joins
open Go.ChangeMaps (open_string shut_string)
set_option linter.unusedVariables false

theorem own : ownKnob Try.prog.godebug = none := by kernel_rfl
theorem laidOut : laidOutB Try.prog = true := by kernel_rfl
theorem cells23 : Try.prog.cellsOf 23 = 2 := by kernel_rfl

/-- The reach of a struct's two texts. -/
theorem sized_two {H : Type} {P : Program} {ts : List TypeId} {ds : List (DataW H)} (h : (DataW.weightsEach P ts ds).all (· ≤ reachBytes) = true) {j : Nat} {t : TypeId} {f0 f1 : Field} {l0 l1 : List UInt8}
    (ht : ts[j]? = some t) (hd : ds[j]? = some (.agg [.lit (.string l0), .lit (.string l1)])) (hu : P.underlying t = some (.struct #[f0, f1])) : l0.length ≤ reachBytes ∧ l1.length ≤ reachBytes := by
  have h0 := List.all_eq_true.1 h _ (DataW.weights_mem_each ht hd l0.length (by simp [DataW.weights, hu, DataW.weightsEach]))
  have h1 := List.all_eq_true.1 h _ (DataW.weights_mem_each ht hd l1.length (by simp [DataW.weights, hu, DataW.weightsEach]))
  exact ⟨by simpa using h0, by simpa using h1⟩

theorem walk (p r s : ByteArray) (w : World) (hshape : w.ShapedOpen Try.prog) (g0 : p.size ≤ 140737488355328) (g1 : r.size ≤ 140737488355328) (g2 : s.size ≤ 140737488355328) :
    Calls Try.prog 3 #[.agg #[.string p, .string r], .string s] w fun e w' => e = .returned (.bool true) ∧ Below w.heap.size w w' := by
  have hm := maxOk_of w hshape
  by_cases hbig : 1048576 < s.size + p.size + r.size
  · exact words3_big p r s w hm hbig g0 g1 g2
  · exact words3 p r s w hm (by omega)

/-! ### The row's step -/
set_option maxRecDepth 100000 in
theorem lifted (os : Os) (started : os.Started) (H : Type) (enc : TypeId × Value → H) :
    ReturnsInHanded {} Try.checked os 3 .any (Rows.typesWordsSpec.pre6 enc Try.prog Try.f3 Rows.typesWordsRow.domain false) (Rows.typesWordsSpec.post enc Try.prog Try.f3 false true false false) := by
  refine returnsInHanded_of_change_shaped (C := Try.checked) own started (by kernel_rfl) Try.func3
    (ChangeSpec.witness6 (enc := enc) (C := Try.checked) false ⟨#[], #[.agg #[.string ByteArray.empty, .string ByteArray.empty], .string ByteArray.empty], []⟩ 8 (by kernel_rfl) (by kernel_rfl) (by kernel_rfl) (by kernel_rfl)) ?_
  intro W base args ds gs before hval0 hW hcnd hsz0 hshape _
  have hsz : (DataW.weightsEach Try.prog (Try.f3.params.toList ++ Rows.typesWordsSpec.plain.varTypes Try.prog) (ds ++ gs)).all (· ≤ reachBytes) = true := hsz0
  have hval : ∀ (j : Nat) t v, Try.f3.params[j]? = some t → args[j]? = some v → Value.okWide Try.prog W .any base t v := hval0
  have hW' := hW
  obtain ⟨p, q, hA0, hV, rfl, hfz, hnd⟩ := hW
  have hA : DataW.TrodAll enc Try.prog W 0 (fun _ => true) true Try.f3.params.toList args.toList ds p := hA0
  rw [Try.params3] at hA hval hsz
  obtain ⟨v0, vs0, d0, ds0, p0, q0, hargs, rfl, rfl, h0, r0⟩ := trodAll_cons hA
  obtain ⟨v1, vs1, d1, ds1, p1, q1, rfl, rfl, rfl, h1, r1⟩ := trodAll_cons r0
  obtain ⟨rfl, rfl, rfl⟩ := trodAll_nil r1
  obtain rfl : args = #[v0, v1] := by cases args; simp_all
  obtain ⟨rfl, rfl⟩ := trodVars_none hV
  obtain ⟨c0, c1, y0, y1, m, rfl, rfl, rfl, hy0, hy1⟩ := open_agg2 Try.underlying23 (by kernel_rfl) cells23 (hval 0 23 v0 rfl rfl) h0
  obtain ⟨a, e0, rfl, wa⟩ := DataW.trod_string Try.underlying9 hy0
  obtain ⟨b, e1, rfl, wb⟩ := DataW.trod_string Try.underlying9 hy1
  simp at e0 e1
  subst e0 e1
  obtain ⟨a1, rfl, rfl, rfl, w1⟩ := open_string Try.underlying9 (hval 1 9 v1 rfl rfl) h1
  have gg := sized_two hsz (j := 0) (t := 23) rfl rfl Try.underlying23
  simp only [reachBytes, Array.length_toList] at gg
  have g2 : a1.size ≤ 140737488355328 := by
    have := sized_string hsz (j := 1) (t := 9) rfl rfl
    simp only [reachBytes, Array.length_toList] at this
    exact Nat.le_trans this (by decide)
  have g0 : a.size ≤ 140737488355328 := Nat.le_trans gg.1 (by decide)
  have g1 : b.size ≤ 140737488355328 := Nat.le_trans gg.2 (by decide)
  clear hA0 hval0
  simp only [List.append_nil] at hW'
  have structReads : ∀ (W' : World) (sp : Nat → Bool), DataW.Trod enc Try.prog W' 0 sp true 23 (.agg #[.string a, .string b]) (.agg [.lit (.string a.data.toList), .lit (.string b.data.toList)]) [] := fun W' sp =>
    shut_agg2 (y0 := (.lit (.string a.data.toList), [])) (y1 := (.lit (.string b.data.toList), [])) Try.underlying23 (by kernel_rfl) cells23 ⟨1, by simp [DataW.trod, Try.underlying9]; exact wa⟩ ⟨1, by simp [DataW.trod, Try.underlying9]; exact wb⟩
  refine (walk a b a1 W hshape g0 g1 g2).mono fun e W' ⟨he, bel⟩ => ?_
  subst he
  exact ⟨_, rfl, _, _, _, [], _, [], hW', trodAll_mk1 (shut_bool Try.underlying4 _), (trodAll_cons_mk (structReads _ _) (trodAll_cons_mk (shut_string Try.underlying9 w1) trodAll_mk0)), rfl, bel.frame _, fun h => by cases h⟩

theorem over : Rows.typesWordsRow.holds Try.pinned (OpenSpec.ofChange Rows.typesWordsSpec) :=
  OpenClaim.holds_of_wide 3 Try.f3 rfl rfl rfl rfl rfl rfl rfl ⟨rfl, rfl, rfl, rfl, rfl⟩ rfl rfl rfl rfl rfl (by kernel_rfl) Try.func3 (by kernel_rfl)
    (of_decide_eq_true (by kernel_rfl)) (by unfold Func.isWrapper; first | (rw [if_pos (by decide +kernel)]; kernel_rfl) | (rw [if_neg (by decide +kernel)]; exact ⟨rfl, rfl⟩))
    (fun os started H enc _ => lifted os started H enc)

/-- The row's statement. -/
theorem proved : Rows.TypesWordsSaid := over
#print axioms proved
end Go.Proofs.Ytdlpbldpddobcaa.typesWords

namespace Go.Proofs.Ytdlpbldpddobcaa
/-- The given statement. -/
theorem typesWords_holds : Rows.TypesWordsSaid := typesWords.proved
end Go.Proofs.Ytdlpbldpddobcaa

/-
  Proved: called with any instruction, any two lists of bytes and any place, InstrBack returns true, and its arguments read afterwards as they read before.
  Conditions: the table of kinds and the library's listed tables start as the program's text, and the library's, lay them (the card ties them to those texts; one of the library's is pinned by name); none other beyond the row's own.
  (The tie holds over the pruned copy of the project that the seat names.)
-/
import Derived.Test.YtgljlclnmnfocaaDoorBackLaw
import Derived.Test.YtgljlclnmnfocaaDoorOpen
import Derived.Test.YtgljlclnmnfocaaDoorCards
import Derived.Test.YtgljlclnmnfocaaDoorTie
import Derived.Stop.Joined
import Derived.SevenTiedAt
namespace Go.Proofs.YtgljlclnmnfocaaDoor.instrBack
open Go.ChangeShapes Go.WideShapes Go.ChangeAt Go.RowKit
set_option linter.unusedVariables false

theorem back_any (c a : Int) (la : Option Addr) (ln lc : Nat) (z0 : List Int) (a2 : Option Addr) (n2 c2 : Nat) (z2 : List Int) (a3 : Option Addr) (n3 c3 : Nat) (z3 : List Int) (pa : Int) (w : World) (hk : KindsOk w) (hc0 : 0 ≤ c) (hc1 : c ≤ 255)
    (w0 : IsRow .i64 w la ln lc z0) (w2 : IsRow .u8 w a2 n2 c2 z2) (w3 : IsRow .u8 w a3 n3 c3 z3) (b0 : ln ≤ 140737488355328) (b1 : n2 ≤ 140737488355328) (b2 : n3 ≤ 140737488355328) :
    Calls Tryd.prog 5 #[insV c a (.slice la ln lc), .slice a2 n2 c2, .slice a3 n3 c3, .int .i64 pa] w fun e w' => e = .returned (.bool true) ∧ Below w.heap.size w w' := by
  by_cases hbig : 65536 < ln + n2 + n3
  · exact back5_big c a la ln lc a2 a3 n2 c2 n3 c3 pa w hk hbig b0 b1 b2
  · exact back5 c a la ln lc (z0.take ln) a2 a3 n2 c2 n3 c3 (z2.take n2) (z3.take n3) pa w hk hc0 hc1 (row_segI w0 (by omega)) (by omega) (row_seg w2 (by omega)) (row_none w2) (row_seg w3 (by omega)) (row_none w3)

/-- What the row lists. -/
abbrev laid4 : List (String × DataW Unit) := Rows.instrBackRow.laid
/-- A world in which the listed tables lie meets the condition. -/
theorem met (os : Os) (args : Array Value) : laidMetH Tryd.prog laid4 ((World.laidAll Tryd.prog os laid4).forCall (fun _ _ => 0) ⟨#[], args, []⟩).memory := by
  rw [MakeChecks.laidMetH_plain _ _ _ (by kernel_rfl)]
  exact laidMet_laidAll _ (by kernel_rfl) (by kernel_rfl)

theorem kinds_met {W : World} (h : laidMetH Tryd.prog laid4 W) : KindsOk W := by
  rw [MakeChecks.laidMetH_plain _ _ _ (by kernel_rfl)] at h
  exact kinds_of_laid (laidMet.tail h)

set_option maxRecDepth 100000 in
theorem lifted (os : Os) (started : os.Started) (H : Type) (enc : TypeId × Value → H) :
    ReturnsInHanded {} Tryd.checked os 5 .any (fun w args => (Rows.instrBackSpec.pre enc Tryd.prog Tryd.f5 [] false w args ∧ laidMetH Tryd.prog laid4 w) ∧ sizedMet enc Tryd.prog Tryd.f5 (OpenSpec.ofChange Rows.instrBackSpec) false w args) (Rows.instrBackSpec.post enc Tryd.prog Tryd.f5 false true false false) := by
  refine returnsInHanded_of_row (C := Tryd.checked) (s := OpenSpec.ofChange Rows.instrBackSpec) (F := fun _ _ _ => 0) (laid := laid4) own started (by kernel_rfl) Tryd.func5
    (ChangeSpec.witness_shaped (enc := enc) (C := Tryd.checked) (os := os) (X := fun w _ => laidMetH Tryd.prog laid4 w) false (World.laidAll Tryd.prog os laid4) #[.agg #[.int .u8 0, .int .i64 0, .slice none 0 0], .slice none 0 0, .slice none 0 0, .int .i64 0] 8 (World.laidAll_os _ _ _)
      (World.shaped_of_ZipB (by kernel_rfl) (by kernel_rfl)) (by kernel_rfl) (by kernel_rfl) (by kernel_rfl) (met os _)) ?_
  intro W base args ds gs before hval0 hW _ _ hsz0 hL hshape _
  have hsz : (DataW.weightsEach Tryd.prog (Tryd.f5.params.toList ++ Rows.instrBackSpec.plain.varTypes Tryd.prog) (ds ++ gs)).all (· ≤ reachBytes) = true := hsz0
  have hW' := hW
  obtain ⟨p, q, hA0, hV, rfl, hfz, hnd⟩ := hW
  have hA : DataW.TrodAll enc Tryd.prog W 0 (fun _ => true) true Tryd.f5.params.toList args.toList ds p := hA0
  have hval : ∀ (j : Nat) t v, Tryd.f5.params[j]? = some t → args[j]? = some v → Value.okWide Tryd.prog W .any base t v := hval0
  rw [Tryd.params5] at hA hval hsz
  obtain ⟨v0, vs0, d0, ds0, p0, q0, hargs, rfl, rfl, h0, r0⟩ := trodAll_cons hA
  obtain ⟨v1, vs1, d1, ds1, p1, q1, rfl, rfl, rfl, h1, r1⟩ := trodAll_cons r0
  obtain ⟨v2, vs2, d2, ds2, p2, q2, rfl, rfl, rfl, h2, r2⟩ := trodAll_cons r1
  obtain ⟨v3, vs3, d3, ds3, p3, q3, rfl, rfl, rfl, h3, r3⟩ := trodAll_cons r2
  obtain ⟨rfl, rfl, rfl⟩ := trodAll_nil r3
  obtain rfl : args = #[v0, v1, v2, v3] := by cases args; simp_all
  obtain ⟨rfl, rfl⟩ := trodVars_none hV
  have k0 := h0
  have lt0 : ∀ x ∈ p0, x.block < W.heap.size := by obtain ⟨m, hm⟩ := k0; exact DataW.trod_lt m _ _ _ hm
  have k1 := h1
  have lt1 : ∀ x ∈ p1, x.block < W.heap.size := by obtain ⟨m, hm⟩ := k1; exact DataW.trod_lt m _ _ _ hm
  have k2 := h2
  have lt2 : ∀ x ∈ p2, x.block < W.heap.size := by obtain ⟨m, hm⟩ := k2; exact DataW.trod_lt m _ _ _ hm
  obtain ⟨c0, a0, la, ln, lc, z0, rfl, u0, u1, w0, g0⟩ := open_ins (hval 0 24 v0 rfl rfl) h0
  obtain ⟨a1, n1, c1, z1, rfl, w1, g1⟩ := open_bytes (hval 1 27 v1 rfl rfl) h1
  obtain ⟨a2, n2, c2, z2, rfl, w2, g2⟩ := open_bytes (hval 2 27 v2 rfl rfl) h2
  obtain ⟨a3, rfl, rfl, rfl, w3⟩ := open_int Tryd.underlying3 (hval 3 3 v3 rfl rfl) h3
  have b0 := bound_ins hsz (j := 0) rfl rfl w0 g0
  have b1 := bound_bytes hsz (j := 1) rfl rfl w1 g1
  have b2 := bound_bytes hsz (j := 2) rfl rfl w2 g2
  have e0 := bounds_u8 u0
  have hk := kinds_met hL
  clear hA0 hval0
  refine (back_any c0 a0 la ln lc z0 a1 n1 c1 z1 a2 n2 c2 z2 a3 W hk (by omega) (by omega) w0 w1 w2 b0 b1 b2).mono fun e W' ⟨he, bel⟩ => ?_
  subst he
  exact ⟨_, rfl, _, _, _, [], _, [], hW', trodAll_mk1 (shut_bool Tryd.underlying4 _), (trodAll_cons_mk (Below.trod laidOut (by kernel_rfl) (of_decide_eq_true (by kernel_rfl)) k0 bel lt0) (trodAll_cons_mk (Below.trod laidOut (by kernel_rfl) (of_decide_eq_true (by kernel_rfl)) k1 bel lt1) (trodAll_cons_mk (Below.trod laidOut (by kernel_rfl) (of_decide_eq_true (by kernel_rfl)) k2 bel lt2) (trodAll_cons_mk (shut_int Tryd.underlying3 w3) trodAll_mk0)))), rfl, bel.frame _, fun h => by cases h⟩

theorem over : Rows.instrBackRow.holds Tryd.pinned (OpenSpec.ofChange Rows.instrBackSpec) :=
  OpenClaim.holds_of_wide 5 Tryd.f5 rfl rfl rfl rfl rfl rfl rfl ⟨rfl, rfl, rfl, rfl, rfl⟩ rfl rfl rfl rfl rfl (by kernel_rfl) Tryd.func5 (by kernel_rfl)
    (of_decide_eq_true (by kernel_rfl)) (by unfold Func.isWrapper; first | (rw [if_pos (by decide +kernel)]; kernel_rfl) | (rw [if_neg (by decide +kernel)]; exact ⟨rfl, rfl⟩))
    (fun os started H enc _ => lifted os started H enc)

/-- The row's statement. -/
theorem proved : Rows.InstrBackSaid := over

/-- The tied card. -/
theorem card : Rows.InstrBackCardSaid :=
  Claim7.holds_tied_plain_at .later [] [.data, .data, .pinned] true Rows.instrBackCard.stood.harness false
    over (fun _ h => by cases h) (by kernel_rfl) (fun _ h => by cases h) instrBack_row_tie rfl ⟨rfl, rfl⟩ (by kernel_rfl) rfl
    (fun f fn hf hfn => by
      obtain rfl : f = 5 := Option.some.inj ((show Tryd.prog.funcNamed Rows.instrBackRow.func = some 5 by kernel_rfl).symm.trans hf) |>.symm
      obtain rfl : fn = Tryd.f5 := (Option.some.inj (Tryd.func5.symm.trans hfn)).symm
      exact ⟨by kernel_rfl, fun j t ht => by
        rw [Tryd.params5] at ht
        have hm : t ∈ [24, 27, 27, 3] := by simpa using Array.mem_of_getElem? ht
        have hall : ([24, 27, 27, 3].all fun u => !Tryd.prog.wantsStandIn u) = true := by kernel_rfl
        exact (show Tryd.prog.wantsStandIn t = false by simpa using List.all_eq_true.1 hall t hm)⟩)
    (by kernel_rfl)
#print axioms card
end Go.Proofs.YtgljlclnmnfocaaDoor.instrBack

namespace Go.Proofs.YtgljlclnmnfocaaDoor
/-- The given statement. -/
theorem instrBack_holds : Rows.InstrBackCardSaid := instrBack.card
end Go.Proofs.YtgljlclnmnfocaaDoor

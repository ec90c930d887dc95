/-
  The walk over ops.Find: the opcode of a word, kind by kind.
-/
import Derived.Test.YtmbbmlchbnjoiaaDoorKinds
import Derived.Test.YtmbbmlchbnjoiaaDoorRef
namespace Go.Proofs.YtmbbmlchbnjoiaaDoor
open Go.RowKit
set_option linter.unusedVariables false

/-- What the kinds from i on, n of them, tell of a word. -/
def findFrom : Nat → Nat → ByteArray → Int × Bool
  | 0, _, _ => (0, false)
  | n + 1, i, s => if (kindFind (kF i) (kA i) (kW i) s).2 = true then ((kindFind (kF i) (kA i) (kW i) s).1, true) else findFrom n (i + 1) s
def findP (s : ByteArray) : Int × Bool := findFrom 7 0 s

set_option maxRecDepth 100000 in
set_option maxHeartbeats 4000000 in
theorem find10 (s : ByteArray) (w : World) (hk : KindsOk w) : Calls Tryd.prog 10 #[.string s] w fun e w' => e = .returned (.tuple #[.int .u8 (findP s).1, .bool (findP s).2]) ∧ Below w.heap.size w w' := by
  obtain ⟨V, hV⟩ : ∃ V, findP s = V := ⟨_, rfl⟩
  rw [hV]
  go_enter Tryd.func10, Tryd.ntmps10
  refine wp_seq_k fun K1 hK1 => wp_region_lit ?_
  refine step_val rfl (v := .int .u8 0) (w' := w) (by simp [go_sem]) ?_
  refine step_val rfl (v := .bool false) (w' := w) (by simp [go_sem]) ?_
  refine wpList_nil (hK1 _ _ ?_)
  clear hK1
  refine wp_seq_k fun K2 hK2 => wp_seq_k fun K3 hK3 => wp_region_lit ?_
  refine step_val rfl (exec_kinds hk _ _ _ _ _) ?_
  obtain ⟨kv, hkv⟩ : ∃ kv, kindsV = kv := ⟨_, rfl⟩
  rw [hkv]
  have run_kind' : ∀ (w : World) (i : Nat) (hi : i < 7), (Instr.index 62 kv (.int .i64 i)).run Tryd.prog w = .ok (.agg #[.int .u8 (kF i), .int .u8 (kL i), .string (kA i), .string (kW i)]) w := fun w i hi => hkv ▸ run_kind i hi
  have HK := hid run_kind'
  clear run_kind' hkv
  go_wp2_with fail
  go_loopw [9] (fun p wr => ∃ i : Nat, p = .int .i64 i ∧ i ≤ 7 ∧ Below w.heap.size w wr ∧ findFrom (7 - i) i s = V) (fun p wr => 7 - (intOf p).toNat)
  case atStart => exact ⟨0, rfl, by decide, Below.refl _ _, hV⟩
  case round =>
    clear hV
    obtain ⟨i, rfl, hi, hB, hV⟩ := hrel
    by_cases h7 : i = 7
    · subst h7
      have hx : V = (0, false) := hV.symm
      subst hx
      go_wp2_with fail
      go_ret2
      exact ⟨rfl, hB⟩
    have hlt : (i : Int) < 7 := by omega
    have hix := HK.out wr i (by omega)
    obtain ⟨f0, f1, f2, f3, f4, f5⟩ := kind_facts i (by omega)
    have HF := hid (find21 (kF i) (kL i) (kA i) (kW i) s (wr.alloc (.cells #[.int .u8 (kF i), .int .u8 (kL i), .string (kA i), .string (kW i)] 61)) f0 f3 f4)
    have hB2 := hid (hB.alloc hB.size (.cells #[.int .u8 (kF i), .int .u8 (kL i), .string (kA i), .string (kW i)] 61))
    obtain ⟨n, hn⟩ : ∃ n, 7 - i = n + 1 := ⟨6 - i, by omega⟩
    rw [hn, findFrom] at hV
    have hw : wrap64 ((i : Int) + 1) = i + 1 := by unfold wrap64; omega
    clear f0 f1 f2 f3 f4 f5 hB
    generalize kindFind (kF i) (kA i) (kW i) s = R at *
    obtain ⟨r1, r2⟩ := R
    have HV := hid hV
    clear hV
    generalize kF i = f at *
    generalize kL i = l at *
    generalize kA i = a at *
    generalize kW i = ws at *
    cases r2
    · go_wp2_with fail
      refine HF.out.mono ?_
      rintro e w3 ⟨rfl, hb3⟩
      have hB3 := hid (hB2.out.trans (hb3.mono hB2.out.size))
      clear hb3
      go_wp2_with fail
      exact ⟨⟨i + 1, by simp, by omega, hB3.out, by have := HV.out; rw [show 7 - (i + 1) = n by omega]; simpa using this⟩, by simp [intOf]; omega⟩
    · have hx : V = (r1, true) := by have := HV.out; simpa using this.symm
      subst hx
      go_wp2_with fail
      refine HF.out.mono ?_
      rintro e w3 ⟨rfl, hb3⟩
      have hB3 := hid (hB2.out.trans (hb3.mono hB2.out.size))
      clear hb3
      go_wp2_with fail
      go_ret2
      exact ⟨rfl, hB3.out⟩
end Go.Proofs.YtmbbmlchbnjoiaaDoor

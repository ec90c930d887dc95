/-
  The walk over ops.Of: the row of an opcode, kind by kind.
-/
import Derived.Test.YtgljlclnmnfocaaDoorKinds
import Derived.Test.YtgljlclnmnfocaaDoorSmall
import Derived.Test.YtgljlclnmnfocaaDoorRef
import Derived.Deep.RegionHeld3
import Derived.Deep.QuietTactic
import Derived.BigQuiet
namespace Go.Proofs.YtgljlclnmnfocaaDoor
open Go.RowKit
set_option linter.unusedVariables false

def zeroRow : RefRow := (0, ⟨#[]⟩, 0, ⟨#[]⟩, ⟨#[]⟩, false)
/-- A row's cells. -/
def rv (x : RefRow) : Array Value := rowV x.1 x.2.1 x.2.2.1 x.2.2.2.1 x.2.2.2.2.1 x.2.2.2.2.2

/-- The six cells of a row in memory. -/
def rowAt (b : Nat) (x : RefRow) : List (Addr × Value) := [(⟨b, 0, none⟩, .int .u8 x.1), (⟨b, 1, none⟩, .string x.2.1), (⟨b, 2, none⟩, .int .i8 x.2.2.1), (⟨b, 3, none⟩, .string x.2.2.2.1), (⟨b, 4, none⟩, .string x.2.2.2.2.1), (⟨b, 5, none⟩, .bool x.2.2.2.2.2)]

theorem rowAt_cells {b : Nat} {x : RefRow} {W : World} (h : Holds (rowAt b x) W) :
    (W.cell? ⟨b, 0, none⟩ = some (.int .u8 x.1) ∧ W.cell? ⟨b, 1, none⟩ = some (.string x.2.1) ∧ W.cell? ⟨b, 2, none⟩ = some (.int .i8 x.2.2.1) ∧ W.cell? ⟨b, 3, none⟩ = some (.string x.2.2.2.1) ∧ W.cell? ⟨b, 4, none⟩ = some (.string x.2.2.2.2.1) ∧ W.cell? ⟨b, 5, none⟩ = some (.bool x.2.2.2.2.2)) ∧
    (W.frozen? ⟨b, 0, none⟩ = false ∧ W.frozen? ⟨b, 1, none⟩ = false ∧ W.frozen? ⟨b, 2, none⟩ = false ∧ W.frozen? ⟨b, 3, none⟩ = false ∧ W.frozen? ⟨b, 4, none⟩ = false ∧ W.frozen? ⟨b, 5, none⟩ = false) := by
  unfold rowAt at h
  exact ⟨⟨(h (⟨b, 0, none⟩, _) (by simp)).1, (h (⟨b, 1, none⟩, _) (by simp)).1, (h (⟨b, 2, none⟩, _) (by simp)).1, (h (⟨b, 3, none⟩, _) (by simp)).1, (h (⟨b, 4, none⟩, _) (by simp)).1, (h (⟨b, 5, none⟩, _) (by simp)).1⟩,
    (h _ (List.mem_cons_self ..)).2, (h (⟨b, 1, none⟩, .string x.2.1) (by simp)).2, (h (⟨b, 2, none⟩, .int .i8 x.2.2.1) (by simp)).2, (h (⟨b, 3, none⟩, .string x.2.2.2.1) (by simp)).2, (h (⟨b, 4, none⟩, .string x.2.2.2.2.1) (by simp)).2, (h (⟨b, 5, none⟩, .bool x.2.2.2.2.2) (by simp)).2⟩

theorem Holds.later {cs : List (Addr × Value)} {n : Nat} {A B : World} (h : Holds cs A) (hb : Below n A B) (hn : ∀ p ∈ cs, p.1.block < n) : Holds cs B :=
  fun p hp => ⟨(hb.cell (hn p hp)).trans (h p hp).1, (hb.frozen (hn p hp)).trans (h p hp).2⟩

/-- The row that a kind tells of an opcode of its own. -/
def kinRow (i : Nat) (c : Int) : RefRow := (c, wordV (kF i) c (kA i) (bpieces (kW i)), takesV c, (effV c).1, (effV c).2, plainV c)
/-- The row that the kinds from i on tell, n of them. -/
def ofFrom : Nat → Nat → Int → RefRow × Bool
  | 0, _, _ => (zeroRow, false)
  | n + 1, i, c => if kF i ≤ c ∧ c ≤ kL i then (kinRow i c, true) else ofFrom n (i + 1) c
def ofV (c : Int) : RefRow × Bool := ofFrom 7 0 c

set_option maxRecDepth 100000 in
set_option maxHeartbeats 4000000 in
theorem of6 (c : Int) (w : World) (hk : KindsOk w) (h0 : 0 ≤ c) (h1 : c ≤ 255) : Calls Tryd.prog 24 #[.int .u8 c] w fun e w' => e = .returned (.tuple #[.agg (rv (ofV c).1), .bool (ofV c).2]) ∧ Below w.heap.size w w' := by
  obtain ⟨V, hV⟩ : ∃ V, ofV c = V := ⟨_, rfl⟩
  rw [hV]
  go_enter Tryd.func24, Tryd.ntmps24
  refine wp_seq_k fun K1 hK1 => wp_region_lit ?_
  refine step_val rfl (v := .pointer (some ⟨w.heap.size, 0, none⟩)) (w' := w.alloc (.cells #[.int .u8 0, .string ⟨#[]⟩, .int .i8 0, .string ⟨#[]⟩, .string ⟨#[]⟩, .bool false] 68)) (by simp [go_sem]) ?_
  refine step_val rfl (v := .bool false) (w' := w.alloc (.cells #[.int .u8 0, .string ⟨#[]⟩, .int .i8 0, .string ⟨#[]⟩, .string ⟨#[]⟩, .bool false] 68)) (by simp [go_sem]) ?_
  refine wpList_nil (hK1 _ _ ?_)
  clear hK1
  have hb : Below w.heap.size w (w.alloc (.cells #[.int .u8 0, .string ⟨#[]⟩, .int .i8 0, .string ⟨#[]⟩, .string ⟨#[]⟩, .bool false] 68)) := (Below.refl _ w).alloc (Nat.le_refl _) _
  have hc : Holds (rowAt w.heap.size zeroRow) (w.alloc (.cells #[.int .u8 0, .string ⟨#[]⟩, .int .i8 0, .string ⟨#[]⟩, .string ⟨#[]⟩, .bool false] 68)) := by
    unfold rowAt zeroRow
    refine Holds.cons ?_ ?_ (Holds.cons ?_ ?_ (Holds.cons ?_ ?_ (Holds.cons ?_ ?_ (Holds.cons ?_ ?_ (Holds.cons ?_ ?_ (by simp [Holds])))))) <;> simp [go_sem]
  refine wp_seq_k fun K2 hK2 => wp_seq_k fun K3 hK3 => wp_region_lit ?_
  refine step_val rfl (exec_kinds (hk.later hb hk.pos) _ _ _ _ _) ?_
  obtain ⟨kv, hkv⟩ : ∃ kv, kindsV = kv := ⟨_, rfl⟩
  rw [hkv]
  have run_kind' : ∀ (w : World) (i : Nat) (hi : i < 7), (Instr.index 100 kv (.int .i64 i)).run Tryd.prog w = .ok (.agg #[.int .u8 (kF i), .int .u8 (kL i), .string (kA i), .string (kW i)]) w := fun w i hi => hkv ▸ run_kind i hi
  have HK := hid run_kind'
  clear run_kind' hkv
  go_wp2_with fail
  go_loopw [9] (fun p wr => ∃ i : Nat, p = .int .i64 i ∧ i ≤ 7 ∧ Below w.heap.size w wr ∧ Holds (rowAt w.heap.size zeroRow) wr ∧ ofFrom (7 - i) i c = V) (fun p wr => 7 - (intOf p).toNat)
  case atStart => exact ⟨0, rfl, by decide, hb, hc, hV⟩
  case round =>
    clear hb hc hV
    obtain ⟨i, rfl, hi, hB, hR, hV⟩ := hrel
    by_cases h7 : i = 7
    · subst h7
      have hx : V = (zeroRow, false) := hV.symm
      subst hx
      obtain ⟨⟨d0, d1, d2, d3, d4, d5⟩, e0, e1, e2, e3, e4, e5⟩ := rowAt_cells hR
      go_wp2_with fail
      refine bodyPost_ret (v := .tuple #[.agg (rv zeroRow), .bool false]) ?_ rfl ⟨rfl, ?_⟩
      · rw [results_cell_tmp rfl]
        go_simp
        rfl
      · exact (((((hB.setCell (p := ⟨w.heap.size, 0, none⟩) (by simp) _).setCell (p := ⟨w.heap.size, 1, none⟩) (by simp) _).setCell (p := ⟨w.heap.size, 2, none⟩) (by simp) _).setCell (p := ⟨w.heap.size, 3, none⟩) (by simp) _).setCell (p := ⟨w.heap.size, 4, none⟩) (by simp) _).setCell (p := ⟨w.heap.size, 5, none⟩) (by simp) _
    have hlt : (i : Int) < 7 := by omega
    have hix := HK.out wr i (by omega)
    obtain ⟨f0, f1, f2, f3, f4, f5⟩ := kind_facts i (by omega)
    have HF := hid ((word18 (kF i) (kL i) c (kA i) (kW i) · f0 f3 f4 f5))
    obtain ⟨n, hn⟩ : ∃ n, 7 - i = n + 1 := ⟨6 - i, by omega⟩
    rw [hn, ofFrom] at hV
    have hwd : (kinRow i c).2.1 = wordV (kF i) c (kA i) (bpieces (kW i)) := rfl
    generalize wordV (kF i) c (kA i) (bpieces (kW i)) = wd at HF hwd
    by_cases hin : kF i ≤ c ∧ c ≤ kL i
    · obtain ⟨g1, g2⟩ := hin
      rw [if_pos ⟨g1, g2⟩] at hV
      generalize kF i = f at *
      generalize kL i = l at *
      generalize kA i = a at *
      generalize kW i = ws at *
      go_wp2_with fail
      refine (effect17 c _ h0 h1).mono ?_
      rintro e w2 ⟨rfl, rfl⟩
      go_wp2_with fail
      refine (HF.out _).mono ?_
      rintro e w3 ⟨rfl, hb3⟩
      go_wp2_with fail
      refine (takes19 c w3).mono ?_
      rintro e w4 ⟨rfl, rfl⟩
      go_wp2_with fail
      refine (plain20 c w4).mono ?_
      rintro e w5 ⟨rfl, rfl⟩
      have hwr : w.heap.size < wr.heap.size := World.block_lt_of_cell? wr ⟨w.heap.size, 0, none⟩ (rowAt_cells hR).1.1
      have hR3 : Holds (rowAt w.heap.size zeroRow) w5 := (hR.grown (World.grownBy_alloc wr _ none) (fun r e => by cases e)).later hb3 (by simp [rowAt]; omega)
      have hB3 : Below w.heap.size w w5 := (hB.alloc hB.size _).trans (hb3.mono (by simp; omega))
      clear hb3 hR
      obtain ⟨⟨d0, d1, d2, d3, d4, d5⟩, e0, e1, e2, e3, e4, e5⟩ := rowAt_cells hR3
      go_wp2_with fail
      subst hV
      refine bodyPost_ret (v := .tuple #[.agg #[.int .u8 c, .string wd, .int .i8 (takesV c), .string (effV c).1, .string (effV c).2, .bool (plainV c)], .bool true]) ?_ rfl ⟨by rw [← hwd]; rfl, ?_⟩
      · rw [results_cell_tmp rfl]
        go_simp
      · exact (((((hB3.setCell (p := ⟨w.heap.size, 0, none⟩) (by simp) _).setCell (p := ⟨w.heap.size, 1, none⟩) (by simp) _).setCell (p := ⟨w.heap.size, 2, none⟩) (by simp) _).setCell (p := ⟨w.heap.size, 3, none⟩) (by simp) _).setCell (p := ⟨w.heap.size, 4, none⟩) (by simp) _).setCell (p := ⟨w.heap.size, 5, none⟩) (by simp) _
    · rw [if_neg hin] at hV
      have hwr : w.heap.size < wr.heap.size := World.block_lt_of_cell? wr ⟨w.heap.size, 0, none⟩ (rowAt_cells hR).1.1
      have hR2 := hid (hR.grown (World.grownBy_alloc wr (.cells #[.int .u8 (kF i), .int .u8 (kL i), .string (kA i), .string (kW i)] 99) none) (fun r e => by cases e))
      have hB2 := hid (hB.alloc hB.size (.cells #[.int .u8 (kF i), .int .u8 (kL i), .string (kA i), .string (kW i)] 99))
      have hV2 := hid hV
      clear hV hR hB
      have hw : wrap64 ((i : Int) + 1) = i + 1 := by unfold wrap64; omega
      clear HF hwd f0 f1 f2 f3 f4 f5
      generalize kF i = f at *
      generalize kL i = l at *
      generalize kA i = a at *
      generalize kW i = ws at *
      by_cases hlow : c < f
      · go_wp2_with fail
        exact ⟨⟨i + 1, by simp, by omega, hB2.out, hR2.out, by rw [show 7 - (i + 1) = n by omega]; exact hV2.out⟩, by simp [intOf]; omega⟩
      · have hhigh : l < c := by omega
        go_wp2_with fail
        exact ⟨⟨i + 1, by simp, by omega, hB2.out, hR2.out, by rw [show 7 - (i + 1) = n by omega]; exact hV2.out⟩, by simp [intOf]; omega⟩
end Go.Proofs.YtgljlclnmnfocaaDoor

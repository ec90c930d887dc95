/-
  The walk over Dirty.
-/
import Derived.Test.YtedkmfklobipaaaDoorGr
import Derived.Test.YtedkmfklobipaaaDoorEqi
import Derived.ChangeKeysEq
namespace Go.Proofs.YtedkmfklobipaaaDoor
open Go.RowKit
set_option linter.unusedVariables false

theorem load_midG {P : Program} {ops : Array Oper} {rest : List Oper} {op : Oper} {a : Act} {w : World} {Q : Exit → Act → World → Prop} (hw : Region.wanted op (yielded ops a.tmps) = true) (ty : TypeId) (x : Operand) (ho : op.op = .load ty x)
    (b o : Nat) (hx : a.eval x = .pointer (some ⟨b, o, none⟩)) (cs : List Value) (d : TypeDesc) (hc : w.rangeAt b o cs)
    (hu : P.underlying ty = some d) (hd : d.isRow = true) (hi : (P.info? ty).map (·.size) = some cs.length)
    (h : wpList P ops Q rest (a.put op.dst (.agg cs.toArray)) w) : wpList P ops Q (op :: rest) a w :=
  BigFrame.wpList_want hw fun _ hK => wp_load_mid ty x ho b o hx cs d hc hu hd hi (hK _ _ h)

theorem Tryd.infB : ∃ i, Tryd.prog.info? 4 = some i := by
  have : (Tryd.prog.info? 4).map (fun i => i.size) = some 1 := by kernel_rfl
  cases h : Tryd.prog.info? 4 with
  | none => simp [h] at this
  | some i => exact ⟨i, rfl⟩
theorem Tryd.cellsB : Tryd.prog.cellsOf 4 = 1 := by kernel_rfl

theorem run_part_mark (d : Nat → Bool) (i : Nat) (hi : i < 64) (w : World) : (part 4 (marksL d).toArray (i * 1)).run Tryd.prog w = .ok (.bool (d i)) w := by
  have := marksL_get d i hi
  simp [part, Tryd.isAgg4, this]
theorem run_items (D : Nat) (d d' : Nat → Bool) (w : World) : ∀ (is : List Nat), (∀ i ∈ is, i < 64) → (Op.eqItems (D + 1) 4 1 (marksL d).toArray (marksL d').toArray is).run Tryd.prog w = .ok (is.all fun i => d i == d' i) w
  | [], _ => by simp [Op.eqItems]
  | i :: is, h => by
    have hi := h i (by simp)
    have ih := run_items D d d' w is (fun j hj => h j (by simp [hj]))
    simp only [Op.eqItems, Sem.run_bind, run_part_mark d i hi w, run_part_mark d' i hi w, Result.andThen_ok, run_equalIn_bool w D 4 (d i) (d' i) Tryd.underlying4]
    cases hb : d i == d' i
    · simp [hb]
    · simp [hb, ih]

/-- Is a page dirty? -/
def anyD (d : Nat → Bool) : Bool := (List.range 64).any d
theorem all_not (d : Nat → Bool) : ((List.range 64).all fun i => d i == false) = !anyD d := by
  unfold anyD
  generalize List.range 64 = l
  induction l with
  | nil => rfl
  | cons a r ih => simp only [List.all_cons, List.any_cons, ih]; cases d a <;> rfl

theorem eql_marksG {ops : Array Oper} {rest : List Oper} {op : Oper} {a : Act} {w : World} {Q : Exit → Act → World → Prop} (hw : Region.wanted op (yielded ops a.tmps) = true) (x y : Operand) (t' : TypeId) (ho : op.op = .binOp .eql 77 x y t')
    (d : Nat → Bool) (hx : a.eval x = .agg (marksL d).toArray) (hy : a.eval y = .agg (marksL fun _ => false).toArray)
    (h : wpList Tryd.prog ops Q rest (a.put op.dst (.bool (!anyD d))) w) : wpList Tryd.prog ops Q (op :: rest) a w := by
  obtain ⟨i, hi⟩ := Tryd.infB
  have hr : (binOp .eql 77 (.agg (marksL d).toArray) (.agg (marksL fun _ => false).toArray)).run Tryd.prog w = .ok (.bool (!anyD d)) w := by
    rw [run_eql_struct, run_equalIn_array w 9999 _ _ Tryd.underlying77 hi, Tryd.cellsB, run_items 9998 d _ w _ (fun i hi => by simpa using hi), Result.andThen_ok, all_not]
  refine BigFrame.wpList_want hw fun K hK => ?_
  unfold Oper.wp execOp
  simp only [ho, hx, hy, Sem.run_bind, run_eqGuard_agg w .eql _ x y _ _ Tryd.eqGuardType77, Result.andThen_ok, hr]
  exact hK _ _ h

/-- The dirty ones of the first k pages. -/
def dl (d : Nat → Bool) (k : Nat) : List Int := ((List.range k).filter d).map fun (i : Nat) => (i : Int)
theorem dl_succ (d : Nat → Bool) (k : Nat) : dl d (k + 1) = if d k = true then dl d k ++ [(k : Int)] else dl d k := by
  unfold dl
  rw [List.range_succ, List.filter_append]
  by_cases h : d k = true
  · simp [h]
  · simp [h]
theorem dl_none {d : Nat → Bool} (h : anyD d = false) : dl d 64 = [] := by
  unfold dl anyD at *
  have : (List.range 64).filter d = [] := by
    rw [List.filter_eq_nil_iff]
    intro a ha hd
    rw [List.any_eq_false] at h
    exact h a ha hd
  rw [this]; rfl
theorem dl_len (d : Nat → Bool) (k : Nat) : (dl d k).length ≤ k := by
  unfold dl
  rw [List.length_map]
  exact Nat.le_trans (List.length_filter_le _ _) (by simp)
theorem Mem.range {w : World} {R most : Nat} {sv : Value} {PB : List Nat} {f : Nat → Int} {d : Nat → Bool} (h : Mem w R most sv PB f d) : w.rangeAt R 3 (marksL d) := fun j v hv => by
  have hj : j < 64 := by have := (List.getElem?_eq_some_iff.1 hv).1; rw [marksL_len] at this; exact this
  rw [marksL_get d j hj] at hv
  rw [h.c3 j hj]; exact hv

theorem dirty_nil (w : World) : Calls Tryd.prog 18 #[.pointer none] w fun e w' => e = .returned (.slice none 0 0) ∧ w' = w := by
  go_enter Tryd.func18, Tryd.ntmps18
  go_wp2_with fail
  refine (is_nil _).mono ?_
  rintro e w' ⟨rfl, hw⟩
  have hw' := hw.symm; subst hw'
  go_wp2_with fail
  go_ret
  exact ⟨rfl, rfl⟩
theorem dirty_none (R most : Nat) (sv : Value) (PB : List Nat) (f : Nat → Int) (d : Nat → Bool) (w : World) (h : Mem w R most sv PB f d) (hd : anyD d = false) :
    Calls Tryd.prog 18 #[.pointer (some ⟨R, 0, none⟩)] w fun e w' => e = .returned (.slice none 0 0) ∧ w' = w := by
  have c0 := h.c0
  have HM := hid h.range
  have HD := hid hd
  clear h hd
  go_enter Tryd.func18, Tryd.ntmps18
  go_wp2_with fail
  refine (is_cell R true _ c0).mono ?_
  rintro e w' ⟨rfl, hw⟩
  have hw' := hw.symm; subst hw'; clear hw
  go_wp2_with (first | (refine load_midG rfl 77 (.tmp 12) rfl R 3 rfl (marksL d) _ HM.out Tryd.underlying77 rfl Tryd.infMarks ?_) | (refine eql_marksG rfl (.tmp 13) (.tmp 14) 77 rfl d rfl rfl ?_; rw [HD.out]))
  go_ret
  exact ⟨rfl, rfl⟩
theorem run_index_mark (d : Nat → Bool) (k : Nat) (hk : k < 64) (w : World) : (Instr.index 77 (.agg (marksL d).toArray) (.int .i64 k)).run Tryd.prog w = .ok (.bool (d k)) w := by
  have := run_part_mark d k hk w
  simp [Instr.index, asIntOf, Sem.run_bind, run_underlying Tryd.underlying77, Tryd.sizeOf4] at this ⊢
  rw [if_pos hk]; exact this
set_option maxHeartbeats 1000000 in
theorem dirty_some (R most : Nat) (sv : Value) (PB : List Nat) (f : Nat → Int) (d : Nat → Bool) (w : World) (h : Mem w R most sv PB f d) (hd : anyD d = true) :
    Calls Tryd.prog 18 #[.pointer (some ⟨R, 0, none⟩)] w fun e w' => ∃ v, e = .returned v ∧ LI w' w.heap.size v (dl d 64) ∧ Below w.heap.size w w' := by
  have c0 := h.c0
  have HM := hid h.range
  have HD := hid hd
  have hR := h.lt
  clear h hd
  go_enter Tryd.func18, Tryd.ntmps18
  go_wp2_with fail
  refine (is_cell R true _ c0).mono ?_
  rintro e w' ⟨rfl, hw⟩
  have hw' := hw.symm; subst hw'; clear hw
  go_wp2_with (first | (refine load_midG rfl 77 (.tmp 12) rfl R 3 rfl (marksL d) _ HM.out Tryd.underlying77 rfl Tryd.infMarks ?_) | (refine eql_marksG rfl (.tmp 13) (.tmp 14) 77 rfl d rfl rfl ?_; rw [HD.out]) | (refine wpList_load_mid rfl 77 (.tmp 19) rfl R 3 rfl (marksL d) _ HM.out Tryd.underlying77 rfl Tryd.infMarks ?_))
  clear c0
  go_loopw [3, 4, 5, 21] (fun v x y i wr => ∃ (k : Nat) (vs : Value), k ≤ 64 ∧ v = vs ∧ i = .int .i64 k ∧ Hid (LI wr w.heap.size vs (dl d k)) ∧ Hid (Below w.heap.size w wr)) (fun _ _ _ i _ => 64 - (intOf i).toNat)
  case atStart => exact ⟨0, .slice none 0 0, by omega, rfl, rfl, hid (LI.nil w _), hid (Below.refl _ _)⟩
  case round =>
    obtain ⟨k, vs, hk, rfl, rfl, HX, HB⟩ := hrel
    by_cases hlt : k < 64
    · have HS := hid (dl_succ d k)
      have hlt' : ((k : Int) < 64) := by omega
      have hdc : decide ((k : Int) < 64) = true := by simpa using hlt'
      have hix := run_index_mark d k hlt
      cases hdk : d k
      · rw [hdk] at hix
        have HDK := hid hdk
        clear hdk
        go_wp2_with fail
        refine ⟨⟨k + 1, _, by omega, rfl, by go_num, hid ?_, HB⟩, by simp [intOf]; omega⟩
        rw [HS.out, if_neg (by rw [HDK.out]; simp)]
        exact HX.out
      · rw [hdk] at hix
        have HDK := hid hdk
        clear hdk
        have hb0 := HB.out.alloc HB.out.size (Obj.cells #[Value.int .i64 k] 3)
        have hb1 := (Below.refl wr.heap.size wr).alloc (Nat.le_refl _) (Obj.cells #[Value.int .i64 k] 3)
        have HX2 := hid (HX.out.later hb1 (Nat.le_refl _))
        have HB0 := hid hb0
        have HZ1 := hid (Nat.le_trans HB.out.size hb1.size)
        have HC := hid (show (wr.alloc (Obj.cells #[Value.int .i64 k] 3)).cell? ((⟨wr.heap.size, 0, none⟩ : Addr).add 0) = some (.int .i64 k) by
          rw [show (⟨wr.heap.size, 0, none⟩ : Addr).add 0 = ⟨wr.heap.size, 0, none⟩ by simp [Addr.add], World.cell?_alloc_new]; rfl)
        have HL := hid (dl_len d k)
        clear hb0 hb1
        go_wp2_with (at_builtin; (refine app_int _ rfl (.tmp 26) (.tmp 28) rfl w.heap.size _ (dl d k) rfl HX2.out HZ1.out ⟨wr.heap.size, 0, none⟩ k rfl HC.out (by have := HL.out; omega) ?_; intro B cap w3 hLI hBB hbl; have HLI := hid hLI; have HBL := hid hbl; clear hLI hbl))
        refine ⟨⟨k + 1, _, by omega, rfl, by go_num, hid ?_, hid (HB0.out.trans HBL.out)⟩, by simp [intOf]; omega⟩
        rw [HS.out, if_pos HDK.out]
        exact HLI.out
    · obtain rfl : k = 64 := by omega
      have hdc : decide ((64 : Int) < 64) = false := by decide
      obtain ⟨a, c, rfl⟩ := HX.out.slice
      go_wp2_with fail
      go_ret
      exact ⟨_, rfl, HX.out, HB.out⟩
end Go.Proofs.YtedkmfklobipaaaDoor

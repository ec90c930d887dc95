/-
  The walks over the document's Cuts, Leaders and same.
-/
import Derived.Test.YtfcklkmfdjjfoaaDoorWs
namespace Go.Proofs.YtfcklkmfdjjfoaaDoor
open Go.RowKit
set_option linter.unusedVariables false

/-- A list of truths of the call's own. -/
def LB (w : World) (base : Nat) (v : Value) (l : List Bool) : Prop := w.ownsRow base 4 1 v l.length (l.map Value.bool)
theorem LB.nil (w : World) (base : Nat) : LB w base (.slice none 0 0) [] := ⟨rfl, .inl ⟨rfl, rfl⟩⟩
theorem LB.later {w w' : World} {base B : Nat} {v : Value} {l : List Bool} (h : LB w base v l) (hb : Below B w w') (hB : w.heap.size ≤ B) : LB w' base v l :=
  own_keep h (fun b hv => hb.block b (by
    rcases h.2 with ⟨rfl, _⟩ | ⟨g, cp, cur, rfl, _, h3, _⟩
    · simp [Value.ownBlock] at hv
    · have e : g = b := by simpa [Value.ownBlock] using hv
      subst e
      have := (Array.getElem?_eq_some_iff.1 h3).1
      omega))
theorem LB.slice {w : World} {base : Nat} {v : Value} {l : List Bool} (h : LB w base v l) : ∃ a c, v = .slice a l.length c := by
  rcases h.2 with ⟨rfl, h0⟩ | ⟨g, cp, cur, rfl, _⟩
  · exact ⟨none, 0, by rw [h0]⟩
  · exact ⟨_, _, rfl⟩
theorem LB.block {w : World} {base b : Nat} {v : Value} {l : List Bool} (h : LB w base v l) (hb : v.ownBlock = some b) : base ≤ b ∧ b < w.heap.size := by
  rcases h.2 with ⟨rfl, _⟩ | ⟨g, cp, cur, rfl, h2, h3, _⟩
  · simp [Value.ownBlock] at hb
  · have e : g = b := by simpa [Value.ownBlock] using hb
    subst e
    exact ⟨h2, (Array.getElem?_eq_some_iff.1 h3).1⟩
theorem LB.kept {S : Nat → Prop} {w w' : World} {base : Nat} {v : Value} {l : List Bool} (h : LB w base v l) (hk : Kept S w w') (hs : ∀ b, v.ownBlock = some b → ¬ S b) : LB w' base v l :=
  own_keep h (fun b hv => hk.block b (h.block hv).2 (hs b hv))
theorem LB.mono {w : World} {base base' : Nat} {v : Value} {l : List Bool} (h : LB w base v l) (hb : base' ≤ base) : LB w base' v l := own_mono h hb
theorem LB.seg {w : World} {base : Nat} {a : Option Addr} {k c : Nat} {l : List Bool} (h : LB w base (.slice a k c) l) (hl : l.length ≤ 1048576) : SegB w a k l := by
  rcases h.2 with ⟨h1, h0⟩ | ⟨g, cp, cur, h1, h2, h3, h4⟩
  · injection h1 with _ h1 _
    subst h1
    have : l = [] := List.eq_nil_of_length_eq_zero h0
    subst this
    exact ⟨rfl, by omega, .inl rfl⟩
  · injection h1 with h5 h6 h7
    subst h5 h6 h7
    refine ⟨rfl, hl, .inr ⟨g, rfl, fun j hj => ?_⟩⟩
    rw [World.ownsRow.cellAt h j (by omega)]
    simp [List.getD_eq_getElem?_getD, hj]
theorem LB.of_rb {w : World} {base B n : Nat} {f : Nat → Bool} (h : RB w B n f) (hb : base ≤ B) : LB w base (.slice (some ⟨B, 0, none⟩) n n) ((List.range n).map f) := by
  have := own_of_row h hb
  unfold LB
  simpa [flB, Function.comp_def] using this

/-- 'append(l, z)'. -/
theorem app_bool (w : World) {ops : Array Oper} {rest : List Oper} {o : Oper} {a : Act} {Q : Exit → Act → World → Prop} (hgd : o.guard = none)
    (s x : Operand) (ho : o.op = Op.call { callee := Callee.builtin Builtin.append, args := #[s, x], argTypes := #[35, 35] })
    (base : Nat) (v : Value) (l : List Bool) (hs : a.eval s = v) (hown : LB w base v l) (hbase : base ≤ w.heap.size) (ad : Addr) (z : Bool) (hx : a.eval x = .slice (some ad) 1 1) (hu : w.cell? (ad.add 0) = some (.bool z))
    (hlen : l.length ≤ 1073741824)
    (h : ∀ (B cap k : Nat) (w' : World), k = (l ++ [z]).length → LB w' base (.slice (some ⟨B, 0, none⟩) k cap) (l ++ [z]) → Kept (fun k => v.ownBlock = some k) w w' → wpList Tryd.prog ops Q rest (a.put o.dst (.slice (some ⟨B, 0, none⟩) k cap)) w') :
    wpList Tryd.prog ops Q (o :: rest) a w := by
  obtain ⟨i0, hi, hz0, hz1, hz2⟩ := info_parts Tryd.infBools
  refine app_cell w hgd s x 35 ho 4 i0 (.bool false) 1 Tryd.underlying35 hi hz0 hz1 hz2 rfl v l.length (l.map Value.bool) hs (own_mono hown (Nat.zero_le _)) ad (.bool z) hx hu rfl (by unfold maxLen; omega) (by omega) ?_
  intro B cap w' hrow hcase
  have hB : base ≤ B := by
    rcases hcase with ⟨rfl, _⟩ | ⟨h1, _⟩
    · exact (LB.block hown rfl).1
    · omega
  refine h B cap (l.length + 1) w' (by simp) (by
    have := own_of_row hrow hB
    unfold LB
    simpa using this) ?_
  rcases hcase with ⟨rfl, h1⟩ | ⟨_, h1⟩
  · exact h1.mono (fun k e => by subst e; rfl)
  · exact h1.mono (fun _ x => x.elim)

set_option maxHeartbeats 1000000 in
/-- Cuts. -/
theorem cutsC (c : Int) (w : World) (h0 : 0 ≤ c) (h1 : c ≤ 255) : Calls Tryd.prog 34 #[.int .u8 c] w fun e w' => e = .returned (.bool (cutB c)) ∧ w' = w := by
  by_cases h : c = 0
  · subst h
    go_enter Tryd.func34, Tryd.ntmps34
    go_wp2_with fail
    go_ret
    exact ⟨rfl, rfl⟩
  have b0 : (c == 0) = false := by simpa using h
  by_cases h3 : 3 ≤ c
  · have hv : cutB c = decide (c ≤ 12) := by simp [cutB, h, h3]
    rw [hv]
    by_cases h12 : c ≤ 12
    · rw [decide_eq_true h12]
      go_enter Tryd.func34, Tryd.ntmps34
      go_wp2_with fail
      go_ret
      exact ⟨rfl, rfl⟩
    · rw [decide_eq_false h12]
      go_enter Tryd.func34, Tryd.ntmps34
      go_wp2_with fail
      go_ret
      exact ⟨rfl, rfl⟩
  · have hv : cutB c = false := by simp [cutB, h, h3]
    rw [hv]
    go_enter Tryd.func34, Tryd.ntmps34
    go_wp2_with fail
    go_ret
    exact ⟨rfl, rfl⟩

/-- The list that Leaders answers. -/
def ldL (O : Nat → Int) (n : Nat) : List Bool := if (res O n 0).1 = 0 then (List.range n).map (leB O n) else []
theorem ldL_len (O : Nat → Int) (n : Nat) : (ldL O n).length ≤ n := by unfold ldL; split <;> simp

set_option maxRecDepth 100000 in
set_option maxHeartbeats 8000000 in
theorem refLeads (a : Option Addr) (n cap : Nat) (xs : List Inx) (w : World) (hn : n ≤ 1048576) (hcap : n ≤ cap) (hc : CodS w a n xs) :
    Calls Tryd.prog 16 #[.slice a n cap] w fun e w' => ∃ v, e = .returned v ∧ LB w' w.heap.size v (ldL (opF xs) n) ∧ Below w.heap.size w w' := by
  have H1 := hid (refMap a n cap xs w hn hcap hc)
  have HC := hid hc
  clear hc
  go_enter Tryd.func16, Tryd.ntmps16
  go_wp2_with fail
  refine H1.out.mono ?_
  rintro e w1 ⟨a1, a2, a3, n1, n2, n3, c1, c2, c3, rfl, hM, hb1⟩
  have hs1 := hb1.size
  have HB := hid hb1
  rcases hM with ⟨h0, _⟩ | ⟨hr, l1, _⟩
  · have HL := hid (show ldL (opF xs) n = [] by unfold ldL; rw [if_neg h0])
    have h0' : ((res (opF xs) n 0).1 != 0) = true := by simpa using h0
    clear h0 hb1
    generalize (res (opF xs) n 0).1 = er0 at *
    generalize (res (opF xs) n 0).2 = er1 at *
    go_wp2_with fail
    go_ret
    exact ⟨_, rfl, by rw [HL.out]; exact LB.nil _ _, HB.out⟩
  have hr0 : (res (opF xs) n 0).1 = 0 := by rw [hr]
  have hg := res_good hr0
  have hn0 := hg.1
  obtain ⟨b, off, rfl, hcd⟩ := HC.out.2.resolve_left (by omega)
  have HL := hid (show ldL (opF xs) n = (List.range n).map (leB (opF xs) n) by unfold ldL; rw [if_pos hr0])
  obtain ⟨hn1, hcl⟩ := l1.cell
  rw [List.length_map, List.length_range] at hn1
  obtain ⟨EB, rfl, hcl3⟩ := hcl.resolve_left (by omega)
  have hcl2 : ∀ j, j < n → w1.cell? ⟨EB, j, none⟩ = some (.int .i64 (enF (opF xs) n j)) := fun j hj => by
    rw [hcl3 j (by omega)]; simp [hj]
  have hEB : EB < w1.heap.size := block_lt_of_cell (hcl2 0 hn0)
  have hn1' := hn1.symm
  subst hn1'
  rw [hr]
  have HCL := hid hcl2
  have HCD := hid hcd
  have HG := hid hg
  clear hcl hcl3 hcl2 hcd hg l1 hb1 hr hr0
  go_wp2_with fail
  go_loopw [8, 9] (fun v p wr => ∃ k : Nat, k ≤ n ∧ p = .int .i64 k ∧ LB wr w1.heap.size v ((List.range k).map (leB (opF xs) n)) ∧ Below w1.heap.size w1 wr) (fun _ p _ => n - (intOf p).toNat)
  case atStart => exact ⟨0, by omega, rfl, LB.nil _ _, Below.refl _ _⟩
  case round =>
    obtain ⟨k, hk, rfl, hlb, hbr⟩ := hrel
    have hbw := HB.out.trans (hbr.mono hs1)
    by_cases hlt : k < n
    · have hlt' : (k : Int) < (n : Int) := by omega
      have hcr := HCD.out.later hbw (Nat.le_refl _)
      have hec : ∀ j, j < n → wr.cell? ⟨EB, j, none⟩ = some (.int .i64 (enF (opF xs) n j)) := fun j hj => (hbr.cell (p := ⟨EB, j, none⟩) (by exact hEB)).trans (HCL.out j hj)
      obtain ⟨va, vc, rfl⟩ := hlb.slice
      rw [List.length_map, List.length_range] at *
      have HLB := hid hlb
      have HBR := hid hbr
      have HCR := hid hcr
      have HEC := hid hec
      have hle : leB (opF xs) n k = (begB (opF xs) k || ifB (opF xs) n k k) := by unfold leB; rw [ifB_cut HG.out (by omega)]
      have HLE := hid hle
      have hsr := hbr.size
      have hrest : ∀ (u : Bool), u = begB (opF xs) k → True := fun _ _ => trivial
      clear hlb hbr hcr hec hbw hle hrest
      by_cases hk0 : k = 0
      · have hk0' : ((k : Int) == 0) = true := by simp; omega
        have hV : true = leB (opF xs) n k := by rw [HLE.out, hk0]; rfl
        have hk0i : ¬ (0 : Int) < (k : Int) := by omega
        have HK0 := hid hk0
        have HV := hid hV
        clear hk0 hV
        go_wp2_with fail
        go_loopw [10, 11] (fun u p wy => p = .int .i64 0 ∧ u = .bool true ∧ wy = wr) (fun _ p _ => 0)
        case atStart => exact ⟨rfl, rfl, rfl⟩
        case round =>
          obtain ⟨rfl, rfl, rfl⟩ := hrel
          have hll : ((List.range k).map (leB (opF xs) n)).length ≤ 1073741824 := by simp; omega
          have HO2 := hid (HLB.out.later ((Below.refl wr.heap.size wr).alloc (Nat.le_refl _) (.cells #[.bool true] 4)) (Nat.le_refl _))
          have hbal := (Below.refl wr.heap.size wr).alloc (Nat.le_refl _) (.cells #[.bool true] 4)
          have hsal : w1.heap.size ≤ (wr.alloc (.cells #[.bool true] 4)).heap.size := by simp; omega
          have HBA := hid hbal
          have hmap : (List.range k).map (leB (opF xs) n) ++ [true] = (List.range (k + 1)).map (leB (opF xs) n) := by rw [List.range_succ, List.map_append, HV.out]; rfl
          have HMAP := hid hmap
          clear hbal hmap
          go_wp2_with (first
            | (at_builtin; refine app_bool _ rfl (.tmp 58) (.tmp 60) rfl w1.heap.size _ ((List.range k).map (leB (opF xs) n)) rfl HO2.out hsal ⟨wr.heap.size, 0, none⟩ true rfl (by simp [Addr.add]) hll ?_; intro B1 C1 k1 w9 hk1 m1 o1; have hk2 : k1 = k + 1 := (by rw [hk1]; simp); clear hk1; subst hk2; have R1 := hid m1; have K1 := hid o1; clear m1 o1))
          refine ⟨⟨k + 1, by omega, by go_num, ?_, ?_⟩, by simp [intOf]; omega⟩
          · have := R1.out
            rw [HMAP.out] at this
            exact this
          · have hA : Below w1.heap.size w1 (wr.alloc (.cells #[.bool true] 4)) := HBR.out.trans (HBA.out.mono hsr)
            exact below_kept hA K1.out hsal (fun b hb => (LB.block HLB.out hb).1)
      · have hk1 : ((k : Int) == 0) = false := by simp; omega
        have hkp : (0 : Int) < (k : Int) := by omega
        have hkp' : 0 < k := by omega
        have d1 := HCR.out.op (j := k - 1) (by omega)
        have r1 := HCR.out.range (j := k - 1) (by omega)
        have hbg : begB (opF xs) k = cutB (opF xs (k - 1)) := by
          obtain ⟨j, rfl⟩ : ∃ j, k = j + 1 := ⟨k - 1, by omega⟩
          rfl
        have HC1 := hid (cutsC (opF xs (k - 1)) wr r1.1 r1.2)
        have HBG := hid hbg
        clear hbg hk0
        generalize opF xs (k - 1) = c at *
        go_wp2_with fail
        refine HC1.out.mono ?_
        rintro e w5 ⟨rfl, hw5⟩
        have hw6 := hw5.symm
        subst hw6
        rw [← HBG.out]
        clear hw5
        obtain ⟨u0, hu⟩ : ∃ u0, begB (opF xs) k = u0 := ⟨_, rfl⟩
        rw [hu]
        have HU0 := hid hu
        clear hu
        go_wp2_with fail
        go_loopw [10, 11] (fun u p wy => ∃ i : Nat, i ≤ k ∧ p = .int .i64 i ∧ u = .bool (u0 || ifB (opF xs) n k i) ∧ wy = wr) (fun _ p _ => k - (intOf p).toNat)
        case atStart => exact ⟨0, by omega, rfl, by simp [ifB], rfl⟩
        case round =>
          obtain ⟨i, hi, rfl, rfl, rfl⟩ := hrel
          by_cases hik : i < k
          · have hik' : (i : Int) < (k : Int) := by omega
            have d1 := HCR.out.op (j := i) (by omega)
            have r1 := HCR.out.range (j := i) (by omega)
            have d2 := HEC.out i (by omega)
            have hin : (i : Int) < (n : Int) := by omega
            have hst : ifB (opF xs) n k (i + 1) = (ifB (opF xs) n k i || (decide (opF xs i = 4) && decide (enF (opF xs) n i = (k : Int)))) := rfl
            have HST := hid hst
            clear hst
            generalize opF xs i = c at *
            generalize enF (opF xs) n i = ei at *
            generalize ifB (opF xs) n k i = fb at *
            by_cases h4 : c = 4
            · subst h4
              by_cases he : ei = (k : Int)
              · have HH := hid (show (u0 || ifB (opF xs) n k (i + 1)) = true by rw [HST.out]; simp [he])
                subst he
                go_wp2_with fail
                exact ⟨⟨i + 1, by omega, by go_num, by rw [HH.out], trivial⟩, by simp [intOf]; omega⟩
              · have he' : (ei == (k : Int)) = false := by simpa using he
                have HH := hid (show (u0 || ifB (opF xs) n k (i + 1)) = (u0 || fb) by rw [HST.out]; simp [he])
                have HE := hid he
                clear he
                go_wp2_with fail
                exact ⟨⟨i + 1, by omega, by go_num, by rw [HH.out], trivial⟩, by simp [intOf]; omega⟩
            · have h4' : (c == 4) = false := by simpa using h4
              have HH := hid (show (u0 || ifB (opF xs) n k (i + 1)) = (u0 || fb) by rw [HST.out]; simp [h4])
              have H4 := hid h4
              clear h4
              go_wp2_with fail
              exact ⟨⟨i + 1, by omega, by go_num, by rw [HH.out], trivial⟩, by simp [intOf]; omega⟩
          · have hik2 : i = k := by omega
            have hik' : ¬ (i : Int) < (k : Int) := by omega
            have hV : (u0 || ifB (opF xs) n k i) = leB (opF xs) n k := by rw [HLE.out, HU0.out, hik2]
            rw [hV]
            have HIK := hid hik2
            clear hik2 hV
            have hll : ((List.range k).map (leB (opF xs) n)).length ≤ 1073741824 := by simp; omega
            have HO2 := hid (HLB.out.later ((Below.refl wr.heap.size wr).alloc (Nat.le_refl _) (.cells #[.bool (leB (opF xs) n k)] 4)) (Nat.le_refl _))
            have hbal := (Below.refl wr.heap.size wr).alloc (Nat.le_refl _) (.cells #[.bool (leB (opF xs) n k)] 4)
            have hsal : w1.heap.size ≤ (wr.alloc (.cells #[.bool (leB (opF xs) n k)] 4)).heap.size := by simp; omega
            have HBA := hid hbal
            have hmap : (List.range k).map (leB (opF xs) n) ++ [leB (opF xs) n k] = (List.range (k + 1)).map (leB (opF xs) n) := by rw [List.range_succ, List.map_append]; rfl
            have HMAP := hid hmap
            clear hbal hmap
            generalize hX : leB (opF xs) n k = X at *
            go_wp2_with (first
              | (at_builtin; refine app_bool _ rfl (.tmp 58) (.tmp 60) rfl w1.heap.size _ ((List.range k).map (leB (opF xs) n)) rfl HO2.out hsal ⟨wr.heap.size, 0, none⟩ X rfl (by simp [Addr.add]) hll ?_; intro B1 C1 k1 w9 hk1 m1 o1; have hk2 : k1 = k + 1 := (by rw [hk1]; simp); clear hk1; subst hk2; have R1 := hid m1; have K1 := hid o1; clear m1 o1))
            refine ⟨⟨k + 1, by omega, by go_num, ?_, ?_⟩, by simp [intOf]; omega⟩
            · have := R1.out
              rw [HMAP.out] at this
              exact this
            · have hA : Below w1.heap.size w1 (wr.alloc (.cells #[.bool X] 4)) := HBR.out.trans (HBA.out.mono hsr)
              exact below_kept hA K1.out hsal (fun b hb => (LB.block HLB.out hb).1)
    · obtain rfl : k = n := by omega
      have hlt' : ¬ (k : Int) < (k : Int) := by omega
      have HLB := hid hlb
      have HBW := hid hbw
      clear hlb hbr hbw
      go_wp2_with fail
      go_ret
      exact ⟨_, rfl, by rw [HL.out]; exact HLB.out.mono hs1, HBW.out⟩
end Go.Proofs.YtfcklkmfdjjfoaaDoor

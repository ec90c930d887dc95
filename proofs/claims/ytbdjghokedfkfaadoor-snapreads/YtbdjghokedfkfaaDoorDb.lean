/-
  The document's Write: lists of numbers; what is asked of a state.
-/
import Derived.Test.YtbdjghokedfkfaaDoorDa
namespace Go.Proofs.YtbdjghokedfkfaaDoor
open Go.RowKit
set_option linter.unusedVariables false
set_option maxRecDepth 100000

theorem encL_len {l : List Int} : (encL l).length ≤ 10 + 10 * l.length := by
  unfold encL
  rw [List.length_append]
  have h1 := (uvar_len l.length).2
  have h2 : (l.flatMap uvar).length ≤ 10 * l.length := by
    induction l with
    | nil => simp
    | cons x l ih =>
      rw [List.flatMap_cons, List.length_append, List.length_cons]
      have := (uvar_len x).2
      have ih := ih (uvar_len l.length).2
      omega
  omega
theorem flat_take_len (l : List Int) (k : Nat) : ((l.take k).flatMap uvar).length ≤ 10 * l.length := by
  have h2 : ∀ q : List Int, (q.flatMap uvar).length ≤ 10 * q.length := fun q => by
    induction q with
    | nil => simp
    | cons x l ih =>
      rw [List.flatMap_cons, List.length_append, List.length_cons]
      have := (uvar_len x).2
      omega
  have := h2 (l.take k)
  rw [List.length_take] at this
  have e : Nat.min k l.length ≤ l.length := Nat.min_le_right _ _
  omega
set_option maxHeartbeats 2000000 in
theorem rval28 (v0 : Value) (bs : List Int) (a : Option Addr) (n c : Nat) (l : List Int) (w0 W : World) (h : BO w0.heap.size W v0 bs) (hS : SI .u64 w0 a n l) (hr : ∀ x ∈ l, U64 x) (hB : Below w0.heap.size w0 W) (hn : n ≤ 100000) (hl : bs.length + 20 + 10 * n ≤ 1099511627776) :
    Calls Tryd.prog 28 #[v0, .slice a n c] W fun e W' => ∃ v', e = .returned v' ∧ BO w0.heap.size W' v' (bs ++ encL l) ∧ Below w0.heap.size w0 W' ∧ Sv v0 W v' W' := by
  have hll := hS.1
  have hwn : IntKind.u64.wrap (n : Int) = (n : Int) := by simp only [IntKind.wrap_u64]; omega
  have HN := hid (rnum27 v0 bs n w0 W h hB (by omega) (by omega) (by omega))
  have HU := hid (uvar_len (n : Int))
  have HC := hid (fun (W : World) (hW : Below w0.heap.size w0 W) => (hS.later hW).2)
  have HE := hid (fun (k : Nat) => flat_take_len l k)
  have HR := hid hr
  have HP := hid (fun (v : Value) (x : Int) (k : Nat) (W : World) (h : BO w0.heap.size W v (bs ++ uvar n ++ (l.take k).flatMap uvar)) (hB : Below w0.heap.size w0 W) (hx : U64 x) => rnum27 v _ x w0 W h hB hx.1 hx.2 (by have := uvar_len (n : Int); have := flat_take_len l k; simp only [List.length_append]; omega))
  have HF := hid (show bs ++ encL l = bs ++ uvar n ++ (l.take n).flatMap uvar by rw [List.take_of_length_le (by omega)]; unfold encL; rw [hll]; simp)
  rw [HF.out]
  have HT := hid (fun (k : Nat) (x : Int) (hx : l[k]? = some x) => (show bs ++ uvar n ++ (l.take (k + 1)).flatMap uvar = bs ++ uvar n ++ (l.take k).flatMap uvar ++ uvar x by rw [List.take_add_one, hx]; simp))
  have H0 := hid (show bs ++ uvar (n : Int) = bs ++ uvar (n : Int) ++ (l.take 0).flatMap uvar by simp)
  clear hS hr h HF
  generalize uvar (n : Int) = U at *
  go_enter Tryd.func28, Tryd.ntmps28
  go_wp2_with fail
  refine HN.out.mono ?_
  rintro e w1 ⟨v1, rfl, b1, hb1, hs1⟩
  rw [H0.out] at b1
  have S1 := hid hs1
  clear hs1
  have BO1 := hid b1
  have B1 := hid hb1
  clear b1 hb1 HN hB
  go_wp2_with fail
  go_loopw [0, 5] (fun v i wr => ∃ k : Nat, k ≤ n ∧ i = .int .i64 k ∧ Hid (BO w0.heap.size wr v (bs ++ U ++ (l.take k).flatMap uvar)) ∧ Hid (Below w0.heap.size w0 wr) ∧ Hid (Sv v0 W v wr)) (fun _ i _ => n - (intOf i).toNat)
  case atStart => exact ⟨0, by omega, rfl, BO1, B1, S1⟩
  case round =>
    obtain ⟨k, hk, rfl, BW, HB, HSv⟩ := hrel
    by_cases hlt : k < n
    · have hlt' : (k : Int) < (n : Int) := by omega
      obtain ⟨x, hx⟩ : ∃ x, l[k]? = some x := ⟨_, List.getElem?_eq_getElem (by omega)⟩
      obtain ⟨b, off, rfl, hat⟩ := (HC.out _ HB.out).resolve_left (by omega)
      have e0 := hat k x hx
      have HX := hid (HT.out k x hx)
      have HU := hid (HR.out x (List.mem_of_getElem? hx))
      have HNx := hid (HP.out _ x k _ BW.out HB.out HU.out)
      clear hat hx HC HT HP HE BW
      go_wp2_with fail
      refine HNx.out.mono ?_
      rintro e w2 ⟨v2, rfl, b2, hb2, hs2⟩
      rw [← HX.out] at b2
      have S2 := hid (HSv.out.trans hs2)
      clear hs2
      have BO2 := hid b2
      have B2 := hid hb2
      clear b2 hb2 HNx
      go_wp2_with fail
      exact ⟨⟨k + 1, by omega, by go_num, BO2, B2, S2⟩, by simp [intOf]; omega⟩
    · have hlt' : ¬ (k : Int) < (n : Int) := by omega
      obtain rfl : k = n := by omega
      clear HC HT HP HE
      go_wp2_with fail
      go_ret
      exact ⟨_, rfl, by have := BW.out; rw [List.append_assoc] at this; exact this, HB.out, HSv.out⟩
/-- What is asked of a frame, of a state. -/
def MayF (f : FrM) : Prop := 0 ≤ f.1 ∧ f.1 < 128 ∧ 0 ≤ f.2.1 ∧ f.2.1 < 2048 ∧ f.2.2.1.1.2.1 ≤ 64 ∧ f.2.2.2.1.2.1 ≤ 256
structure MayS (x : StM) : Prop where
  en : 1 ≤ x.en ∧ x.en ≤ 3
  tr : 0 ≤ x.tr ∧ x.tr ≤ 6
  us : 0 ≤ x.us ∧ x.us ≤ 4611686018427387904
  rep : 0 ≤ x.rep
  rs : x.rn ≤ 8
  gs : x.gn ≤ 64
  ps : x.pn ≤ 64
  fs : x.fn ≤ 64
  pl : ∀ p ∈ x.ps, p.1.2.1 = 4096
  fl : ∀ f ∈ x.fs, MayF f
def MayA (x : StM) (w : World) : Ending → World → Prop := fun e w' => ∃ b : Bool, e = .returned (.bool b) ∧ (b = true ↔ MayS x) ∧ Below w.heap.size w w'
theorem mayA_no {x : StM} {w w' : World} {e : Ending} (he : e = .returned (.bool false)) (h : ¬ MayS x) (hb : Below w.heap.size w w') : MayA x w e w' := ⟨false, he, ⟨fun h => (by cases h), fun g => absurd g h⟩, hb⟩
theorem mayA_yes {x : StM} {w w' : World} {e : Ending} (he : e = .returned (.bool true)) (h : MayS x) (hb : Below w.heap.size w w') : MayA x w e w' := ⟨true, he, ⟨fun _ => h, fun _ => rfl⟩, hb⟩
set_option maxHeartbeats 4000000 in
theorem may26 (x : StM) (w : World) (hS : SSt w x) :
    Calls Tryd.prog 26 #[.agg (stAr x)] w (MayA x w) := by
  have b1 := below_new w (stO x)
  have k1 := nb_new w (stO x)
  have c0 : (w.alloc (stO x)).cell? ⟨w.heap.size, 0, none⟩ = some (.slice x.fa x.fn x.fc) := cell_at k1
  have c1 : (w.alloc (stO x)).cell? ⟨w.heap.size, 1, none⟩ = some (.slice x.ga x.gn x.gc) := cell_at k1
  have c2 : (w.alloc (stO x)).cell? ⟨w.heap.size, 2, none⟩ = some (.slice x.pa x.pn x.pc) := cell_at k1
  have c3 : (w.alloc (stO x)).cell? ⟨w.heap.size, 3, none⟩ = some (.int .i64 x.rep) := cell_at k1
  have c4 : (w.alloc (stO x)).cell? ⟨w.heap.size, 4, none⟩ = some (.int .i8 x.en) := cell_at k1
  have c5 : (w.alloc (stO x)).cell? ⟨w.heap.size, 5, none⟩ = some (.slice x.ra x.rn x.rc) := cell_at k1
  have c6 : (w.alloc (stO x)).cell? ⟨w.heap.size, 6, none⟩ = some (.int .i8 x.tr) := cell_at k1
  have c7 : (w.alloc (stO x)).cell? ⟨w.heap.size, 7, none⟩ = some (.int .i64 x.us) := cell_at k1
  have HB1 := hid b1
  have HS1 := hid (hS.later b1)
  clear k1 hS b1
  have ef : x.fs.length = x.fn := HS1.out.fr.len
  have ep : x.ps.length = x.pn := HS1.out.pg.len
  have HF := hid HS1.out.fr.at_
  have HP := hid HS1.out.pg.at_
  have EF := hid ef
  have EP := hid ep
  clear HS1 ef ep
  go_enter Tryd.func26, Tryd.ntmps26
  by_cases q0 : x.en < 1
  · go_wp2_with fail
    go_ret
    exact mayA_no rfl (fun h => by have := h.en; omega) HB1.out
  by_cases q1 : 3 < x.en
  · go_wp2_with fail
    go_ret
    exact mayA_no rfl (fun h => by have := h.en; omega) HB1.out
  by_cases q2 : x.tr < 0
  · go_wp2_with fail
    go_ret
    exact mayA_no rfl (fun h => by have := h.tr; omega) HB1.out
  by_cases q3 : 6 < x.tr
  · go_wp2_with fail
    go_ret
    exact mayA_no rfl (fun h => by have := h.tr; omega) HB1.out
  by_cases q4 : x.us < 0
  · go_wp2_with fail
    go_ret
    exact mayA_no rfl (fun h => by have := h.us; omega) HB1.out
  by_cases q5 : 4611686018427387904 < x.us
  · go_wp2_with fail
    go_ret
    exact mayA_no rfl (fun h => by have := h.us; omega) HB1.out
  by_cases q6 : x.rep < 0
  · go_wp2_with fail
    go_ret
    exact mayA_no rfl (fun h => by have := h.rep; omega) HB1.out
  by_cases q7 : (8 : Int) < (x.rn : Int)
  · go_wp2_with fail
    go_ret
    exact mayA_no rfl (fun h => by have := h.rs; omega) HB1.out
  by_cases q8 : (64 : Int) < (x.gn : Int)
  · go_wp2_with fail
    go_ret
    exact mayA_no rfl (fun h => by have := h.gs; omega) HB1.out
  by_cases q9 : (64 : Int) < (x.pn : Int)
  · go_wp2_with fail
    go_ret
    exact mayA_no rfl (fun h => by have := h.ps; omega) HB1.out
  by_cases q10 : (64 : Int) < (x.fn : Int)
  · go_wp2_with fail
    go_ret
    exact mayA_no rfl (fun h => by have := h.fs; omega) HB1.out
  have hpn : x.pn ≤ 64 := by omega
  have hfn : x.fn ≤ 64 := by omega
  have HG := hid (show (1 ≤ x.en ∧ x.en ≤ 3) ∧ (0 ≤ x.tr ∧ x.tr ≤ 6) ∧ (0 ≤ x.us ∧ x.us ≤ 4611686018427387904) ∧ 0 ≤ x.rep ∧ x.rn ≤ 8 ∧ x.gn ≤ 64 from ⟨⟨by omega, by omega⟩, ⟨by omega, by omega⟩, ⟨by omega, by omega⟩, by omega, by omega, by omega⟩)
  go_wp2_with fail
  clear q0 q1 q2 q3 q4 q5 q6 q7 q8 q9 q10
  generalize w.alloc (stO x) = W1 at *
  go_loopw [3] (fun i wr => ∃ k : Nat, k ≤ x.pn ∧ i = .int .i64 k ∧ wr = W1 ∧ Hid (∀ (j : Nat) y, j < k → x.ps[j]? = some y → y.1.2.1 = 4096)) (fun i _ => x.pn - (intOf i).toNat)
  case atStart => exact ⟨0, by omega, rfl, rfl, hid (fun j y hj => by omega)⟩
  case round =>
    obtain ⟨k, hk, rfl, rfl, HE⟩ := hrel
    by_cases hlt : k < x.pn
    · have hlt' : (k : Int) < (x.pn : Int) := by omega
      obtain ⟨y, hy⟩ : ∃ y, x.ps[k]? = some y := ⟨_, List.getElem?_eq_getElem (by rw [EP.out]; omega)⟩
      obtain ⟨b, off, hpa, hat⟩ := HP.out.resolve_left (by omega)
      have e0 := hat k y hy
      have HY := hid hy
      rw [hpa] at c2
      clear hat hy HP HF
      by_cases h4 : y.1.2.1 = 4096
      · have h4' : ((y.1.2.1 : Int) != 4096) = false := by simp; omega
        have H4 := hid h4
        clear h4
        go_wp2_with fail
        exact ⟨⟨k + 1, by omega, by go_num, by first | rfl | trivial, hid (fun j z hj hz => by
          by_cases hjk : j < k
          · exact HE.out j z hjk hz
          · obtain rfl : j = k := by omega
            rw [HY.out] at hz
            rw [← Option.some.inj hz]
            exact H4.out)⟩, by simp [intOf]; omega⟩
      · have h4' : ((y.1.2.1 : Int) != 4096) = true := by simp; omega
        go_wp2_with fail
        go_ret
        exact mayA_no rfl (fun h => absurd (h.pl y (List.mem_of_getElem? HY.out)) h4) HB1.out
    · have hlt' : ¬ (k : Int) < (x.pn : Int) := by omega
      have HPL := hid (show ∀ p ∈ x.ps, p.1.2.1 = 4096 from fun p hp => by
        obtain ⟨j, hj⟩ := List.getElem?_of_mem hp
        exact HE.out j p (by have := lt_of_get hj; rw [EP.out] at this; omega) hj)
      clear HE HP
      go_wp2_with fail
      have HB0 := hid (Below.refl wr.heap.size wr)
      have HCZ := hid (fun (W : World) (hW : Below wr.heap.size wr W) => later_cell hW (show wr.cell? ⟨w.heap.size, 0, none⟩ = some (.slice x.fa x.fn x.fc) from c0))
      have HFZ := hid (fun (W : World) (hW : Below wr.heap.size wr W) => (show x.fn = 0 ∨ ∃ b off, x.fa = some ⟨b, off, none⟩ ∧ ∀ (j : Nat) y, x.fs[j]? = some y → W.cell? ⟨b, off + j * 4, none⟩ = some (.int .i64 y.1) ∧ W.cell? ⟨b, off + j * 4 + 1, none⟩ = some (.int .i64 y.2.1) ∧ W.cell? ⟨b, off + j * 4 + 2, none⟩ = some (.slice y.2.2.1.1.1 y.2.2.1.1.2.1 y.2.2.1.1.2.2) ∧ W.cell? ⟨b, off + j * 4 + 3, none⟩ = some (.slice y.2.2.2.1.1 y.2.2.2.1.2.1 y.2.2.2.1.2.2) from
        HF.out.imp id fun ⟨b, off, e, hc⟩ => ⟨b, off, e, fun j y hj => ⟨later_cell hW (hc j y hj).1, later_cell hW (hc j y hj).2.1, later_cell hW (hc j y hj).2.2.1, later_cell hW (hc j y hj).2.2.2⟩⟩))
      clear c0 c1 c2 c3 c4 c5 c6 c7 HF
      generalize wr = w9 at *
      go_loopw [4] (fun i wr => ∃ k : Nat, k ≤ x.fn ∧ i = .int .i64 k ∧ Hid (Below w9.heap.size w9 wr) ∧ Hid (∀ (j : Nat) y, j < k → x.fs[j]? = some y → MayF y)) (fun i _ => x.fn - (intOf i).toNat)
      case atStart => exact ⟨0, by omega, rfl, HB0, hid (fun j y hj => by omega)⟩
      case round =>
        obtain ⟨k, hk, rfl, BW, HE⟩ := hrel
        have c0 := HCZ.out _ BW.out
        by_cases hlt : k < x.fn
        · have hlt' : (k : Int) < (x.fn : Int) := by omega
          obtain ⟨y, hy⟩ : ∃ y, x.fs[k]? = some y := ⟨_, List.getElem?_eq_getElem (by rw [EF.out]; omega)⟩
          obtain ⟨b, off, hfa, hat⟩ := (HFZ.out _ BW.out).resolve_left (by omega)
          obtain ⟨e0, e1, e2, e3⟩ := hat k y hy
          have HY := hid hy
          have BN := hid (fun (o : Obj) => BW.out.trans ((below_new _ o).mono BW.out.size))
          rw [hfa] at c0
          clear hat hy HFZ HCZ hfa
          obtain ⟨y1, y2, ⟨⟨y3a, y3n, y3c⟩, y3⟩, ⟨⟨y4a, y4n, y4c⟩, y4⟩⟩ := y
          simp only at e0 e1 e2 e3
          by_cases q0 : y1 < 0
          · go_wp2_with fail
            go_ret
            exact mayA_no rfl (fun h => by obtain ⟨t1, t2, t3, t4, t5, t6⟩ := h.fl _ (List.mem_of_getElem? HY.out); simp only at t1 t2 t3 t4 t5 t6; omega) (HB1.out.trans ((BN.out _).mono HB1.out.size))
          by_cases q1 : (128 : Int) ≤ y1
          · go_wp2_with fail
            go_ret
            exact mayA_no rfl (fun h => by obtain ⟨t1, t2, t3, t4, t5, t6⟩ := h.fl _ (List.mem_of_getElem? HY.out); simp only at t1 t2 t3 t4 t5 t6; omega) (HB1.out.trans ((BN.out _).mono HB1.out.size))
          by_cases q2 : y2 < 0
          · go_wp2_with fail
            go_ret
            exact mayA_no rfl (fun h => by obtain ⟨t1, t2, t3, t4, t5, t6⟩ := h.fl _ (List.mem_of_getElem? HY.out); simp only at t1 t2 t3 t4 t5 t6; omega) (HB1.out.trans ((BN.out _).mono HB1.out.size))
          by_cases q3 : (2048 : Int) ≤ y2
          · go_wp2_with fail
            go_ret
            exact mayA_no rfl (fun h => by obtain ⟨t1, t2, t3, t4, t5, t6⟩ := h.fl _ (List.mem_of_getElem? HY.out); simp only at t1 t2 t3 t4 t5 t6; omega) (HB1.out.trans ((BN.out _).mono HB1.out.size))
          by_cases q4 : (64 : Int) < (y3n : Int)
          · go_wp2_with fail
            go_ret
            exact mayA_no rfl (fun h => by obtain ⟨t1, t2, t3, t4, t5, t6⟩ := h.fl _ (List.mem_of_getElem? HY.out); simp only at t1 t2 t3 t4 t5 t6; omega) (HB1.out.trans ((BN.out _).mono HB1.out.size))
          by_cases q5 : (256 : Int) < (y4n : Int)
          · go_wp2_with fail
            go_ret
            exact mayA_no rfl (fun h => by obtain ⟨t1, t2, t3, t4, t5, t6⟩ := h.fl _ (List.mem_of_getElem? HY.out); simp only at t1 t2 t3 t4 t5 t6; omega) (HB1.out.trans ((BN.out _).mono HB1.out.size))
          go_wp2_with fail
          exact ⟨⟨k + 1, by omega, by go_num, hid (BN.out _), hid (fun j z hj hz => by
            by_cases hjk : j < k
            · exact HE.out j z hjk hz
            · obtain rfl : j = k := by omega
              rw [HY.out] at hz
              rw [← Option.some.inj hz]
              exact ⟨by simp only; omega, by simp only; omega, by simp only; omega, by simp only; omega, by simp only; omega, by simp only; omega⟩)⟩, by simp [intOf]; omega⟩
        · have hlt' : ¬ (k : Int) < (x.fn : Int) := by omega
          have HFL := hid (show ∀ f ∈ x.fs, MayF f from fun p hp => by
            obtain ⟨j, hj⟩ := List.getElem?_of_mem hp
            exact HE.out j p (by have := lt_of_get hj; rw [EF.out] at this; omega) hj)
          clear HE HFZ HCZ
          go_wp2_with fail
          go_ret
          exact mayA_yes rfl ⟨HG.out.1, HG.out.2.1, HG.out.2.2.1, HG.out.2.2.2.1, HG.out.2.2.2.2.1, HG.out.2.2.2.2.2, hpn, hfn, HPL.out, HFL.out⟩ (HB1.out.trans (BW.out.mono HB1.out.size))
end Go.Proofs.YtbdjghokedfkfaaDoor

/-
  The walk over instr.Decode: the instruction at a place of whatever bytes, the place behind it, or the error.
-/
import Derived.Test.YtgljlclnmnfocaaDoorRestU
import Derived.Test.YtgljlclnmnfocaaDoorEnc
namespace Go.Proofs.YtgljlclnmnfocaaDoor
open Go.RowKit
set_option linter.unusedVariables false

/-- What stands at a place: opcode, A, L, the place behind, the error. -/
def decV (zs : List Int) (p : Int) : Int × Int × List Int × Int × Int :=
  if p < 0 ∨ (zs.length : Int) < p then (0, 0, [], 0, 1)
  else if p = zs.length then (0, 0, [], 0, 10)
  else if tkV (zs.getD p.toNat 0) = -1 then (0, 0, [], 0, 21)
  else if (decR (tkV (zs.getD p.toNat 0)) (lgV (zs.getD p.toNat 0)) zs (p + 1)).2.2.2 ≠ 0 then (0, 0, [], 0, (decR (tkV (zs.getD p.toNat 0)) (lgV (zs.getD p.toNat 0)) zs (p + 1)).2.2.2)
  else (zs.getD p.toNat 0, (decR (tkV (zs.getD p.toNat 0)) (lgV (zs.getD p.toNat 0)) zs (p + 1)).1, (decR (tkV (zs.getD p.toNat 0)) (lgV (zs.getD p.toNat 0)) zs (p + 1)).2.1, (decR (tkV (zs.getD p.toNat 0)) (lgV (zs.getD p.toNat 0)) zs (p + 1)).2.2.1, 0)

/-- What Decode's answer is. -/
def DecPost (w : World) (V : Int × Int × List Int × Int × Int) : Ending → World → Prop := fun e w' =>
  ∃ v, e = .returned (.tuple #[.agg #[.int .u8 V.1, .int .i64 V.2.1, v], .int .i64 V.2.2.2.1, .int .i64 V.2.2.2.2]) ∧ w'.ownsRow w.heap.size 3 1 v V.2.2.1.length (V.2.2.1.map (Value.int .i64)) ∧ Below w.heap.size w w'

theorem own_later {w w' : World} {base : Nat} {e : TypeId} {v : Value} {n : Nat} {xs : List Value} (h : w.ownsRow base e 1 v n xs) (hb : Below w.heap.size w w') : w'.ownsRow base e 1 v n xs := by
  refine own_keep h fun B hB => hb.block B ?_
  rcases h.2 with ⟨rfl, _⟩ | ⟨g, cp, cur, rfl, hg, hh, _⟩
  · simp [Value.ownBlock] at hB
  · simp [Value.ownBlock] at hB; subst hB
    rcases Nat.lt_or_ge g w.heap.size with h | h
    · exact h
    · rw [Array.getElem?_eq_none h] at hh; cases hh

theorem row_all : ((List.range 256).all fun (n : Nat) => decide ((ofV (n : Int)).2 = true → (ofV (n : Int)).1.1 = (n : Int) ∧ 0 ≤ (ofV (n : Int)).1.2.2.1 ∧ (ofV (n : Int)).1.2.2.1 ≤ 9)) = true := by decide +kernel
theorem row_of (c : Int) (h0 : 0 ≤ c) (h1 : c ≤ 255) (h : (ofV c).2 = true) : (ofV c).1.1 = c ∧ 0 ≤ (ofV c).1.2.2.1 ∧ (ofV c).1.2.2.1 ≤ 9 := by
  obtain ⟨n, rfl⟩ := Int.eq_ofNat_of_zero_le h0
  exact of_decide_eq_true (List.all_eq_true.1 row_all n (List.mem_range.2 (by omega))) h

set_option maxHeartbeats 1000000 in
theorem decode_out (a : Option Addr) (n cap : Nat) (p : Int) (w : World) (hn : n ≤ 1099511627776) (hp : p < 0 ∨ (n : Int) < p) :
    Calls Tryd.prog 19 #[.slice a n cap, .int .i64 p] w (DecPost w (0, 0, [], 0, 1)) := by
  unfold DecPost
  rcases hp with hp | hp
  · go_enter Tryd.func19, Tryd.ntmps19
    go_wp2
    refine bodyPost_ret (v := .tuple #[.agg #[.int .u8 0, .int .i64 0, .slice none 0 0], .int .i64 0, .int .i64 1]) (by simp [results, Tryd.results19, go_sem]) rfl ⟨.slice none 0 0, rfl, World.ownsRow_nil _ _ _ _, ?_⟩
    exact (Below.refl _ _).alloc (Nat.le_refl _) _
  · have h0 : ¬ p < 0 := by omega
    go_enter Tryd.func19, Tryd.ntmps19
    go_wp2
    refine bodyPost_ret (v := .tuple #[.agg #[.int .u8 0, .int .i64 0, .slice none 0 0], .int .i64 0, .int .i64 1]) (by simp [results, Tryd.results19, go_sem]) rfl ⟨.slice none 0 0, rfl, World.ownsRow_nil _ _ _ _, ?_⟩
    exact (Below.refl _ _).alloc (Nat.le_refl _) _

set_option maxHeartbeats 1000000 in
theorem decode_end (a : Option Addr) (n cap : Nat) (w : World) (hn : n ≤ 1099511627776) :
    Calls Tryd.prog 19 #[.slice a n cap, .int .i64 n] w (DecPost w (0, 0, [], 0, 10)) := by
  unfold DecPost
  have h0 : ¬ (n : Int) < 0 := by omega
  have h1 : ¬ (n : Int) < n := by omega
  have h2 : ((n : Int) == n) = true := by simp
  go_enter Tryd.func19, Tryd.ntmps19
  go_wp2
  refine bodyPost_ret (v := .tuple #[.agg #[.int .u8 0, .int .i64 0, .slice none 0 0], .int .i64 0, .int .i64 10]) (by simp [results, Tryd.results19, go_sem]) rfl ⟨.slice none 0 0, rfl, World.ownsRow_nil _ _ _ _, ?_⟩
  exact (Below.refl _ _).alloc (Nat.le_refl _) _

set_option maxRecDepth 100000 in
set_option maxHeartbeats 4000000 in
theorem decode_in (b off n cap p : Nat) (zs : List Int) (w : World) (hk : KindsOk w) (hs : Seg w (some ⟨b, off, none⟩) n cap zs) (hp : p < n) (hc : w.cell? ⟨b, off + p, none⟩ = some (.int .u8 (zs.getD p 0))) (hb : b < w.heap.size) :
    Calls Tryd.prog 19 #[.slice (some ⟨b, off, none⟩) n cap, .int .i64 p] w (DecPost w (decV zs p)) := by
  have hlen := hs.1
  have hn := hs.2.2.1
  have hV : decV zs p = if tkV (zs.getD p 0) = -1 then (0, 0, [], 0, 21)
    else if (decR (tkV (zs.getD p 0)) (lgV (zs.getD p 0)) zs (p + 1)).2.2.2 ≠ 0 then (0, 0, [], 0, (decR (tkV (zs.getD p 0)) (lgV (zs.getD p 0)) zs (p + 1)).2.2.2)
    else (zs.getD p 0, (decR (tkV (zs.getD p 0)) (lgV (zs.getD p 0)) zs (p + 1)).1, (decR (tkV (zs.getD p 0)) (lgV (zs.getD p 0)) zs (p + 1)).2.1, (decR (tkV (zs.getD p 0)) (lgV (zs.getD p 0)) zs (p + 1)).2.2.1, 0) := by
    unfold decV
    rw [if_neg (by omega), if_neg (by omega), Int.toNat_natCast]
  rw [hV]
  clear hV
  have hr := getD_range zs hs.2.2.2.1 p
  rw [← List.getD_eq_getElem?_getD] at hr
  obtain ⟨c, hcc⟩ : ∃ c, zs.getD p 0 = c := ⟨_, rfl⟩
  rw [hcc] at hc hr ⊢
  clear hcc
  have hof := hid (fun W hW => of6 c W hW hr.1 hr.2)
  have hrow := row_of c hr.1 hr.2
  have hne := tk_ne c hr.1 hr.2
  unfold tkV lgV
  obtain ⟨V, hVV⟩ : ∃ V, ofV c = V := ⟨_, rfl⟩
  rw [hVV] at hof hrow hne ⊢
  clear hVV
  obtain ⟨⟨rc, wd, t, pp, ps, pl⟩, fnd⟩ := V
  simp only [rv, rowV] at hof hrow hne ⊢
  have HS := hid hs
  have hb0 : Below w.heap.size w (w.alloc (.cells #[.int .u8 0, .int .i64 0, .slice none 0 0] 24)) := (Below.refl _ _).alloc (Nat.le_refl _) _
  have HO := hid (hof.out _ (hk.later hb0 hk.pos))
  have h0 : ¬ (p : Int) < 0 := by omega
  have h1 : ¬ (n : Int) < p := by omega
  have h2 : ((p : Int) == n) = false := by simp; omega
  have hc0 : (w.alloc (.cells #[.int .u8 0, .int .i64 0, .slice none 0 0] 24)).cell? ⟨b, off + p, none⟩ = some (.int .u8 c) := by rw [World.cell?_alloc_past _ _ _ hb]; exact hc
  have HB0 := hid hb0
  clear hs hof hk hb0
  unfold DecPost
  cases fnd
  · simp only [Bool.false_eq_true, if_false, if_true]
    go_enter Tryd.func19, Tryd.ntmps19
    go_wp2_with fail
    refine HO.out.mono ?_
    rintro e w1 ⟨rfl, hb1⟩
    have x0 : w1.cell? ⟨w.heap.size, 0, none⟩ = some (.int .u8 0) ∧ w1.cell? ⟨w.heap.size, 1, none⟩ = some (.int .i64 0) ∧ w1.cell? ⟨w.heap.size, 2, none⟩ = some (.slice none 0 0) ∧ w1.frozen? ⟨w.heap.size, 0, none⟩ = false ∧ w1.frozen? ⟨w.heap.size, 1, none⟩ = false ∧ w1.frozen? ⟨w.heap.size, 2, none⟩ = false := by
      refine ⟨?_, ?_, ?_, ?_, ?_, ?_⟩
      · rw [hb1.cell (by simp)]; simp [go_sem]
      · rw [hb1.cell (by simp)]; simp [go_sem]
      · rw [hb1.cell (by simp)]; simp [go_sem]
      · rw [hb1.frozen (by simp)]; simp [go_sem]
      · rw [hb1.frozen (by simp)]; simp [go_sem]
      · rw [hb1.frozen (by simp)]; simp [go_sem]
    obtain ⟨x0, x1, x2, f0, f1, f2⟩ := x0
    have hx := block_lt_of_cell x0
    simp only at hx
    have B1 := hid (HB0.out.trans (hb1.mono (by simp)))
    clear hb1
    go_wp2_with fail
    refine bodyPost_ret (v := .tuple #[.agg #[.int .u8 0, .int .i64 0, .slice none 0 0], .int .i64 0, .int .i64 21]) (by simp [results, Tryd.results19, go_sem, x0, x1, x2, hx]) rfl ⟨.slice none 0 0, rfl, World.ownsRow_nil _ _ _ _, ?_⟩
    exact (((B1.out.setCell (p := ⟨w.heap.size, 0, none⟩) (Nat.le_refl _) _).setCell (p := ⟨w.heap.size, 1, none⟩) (Nat.le_refl _) _).setCell (p := ⟨w.heap.size, 2, none⟩) (Nat.le_refl _) _).alloc (by have := B1.out.size; simp; omega) _
  obtain ⟨hrc, ht0, ht9⟩ := hrow rfl
  subst hrc
  simp only [if_true]
  rw [if_neg hne]
  obtain ⟨D, hD⟩ : ∃ D, decR t (isL ps) zs ((p : Int) + 1) = D := ⟨_, rfl⟩
  have HRE := hid (fun R B W (h1 : Rd W R (.slice (some ⟨b, off, none⟩) n cap) ((p : Int) + 1)) (h2 : SegU B W (some ⟨b, off, none⟩) n cap zs) (h3 : B ≤ R) => rest54 R B (some ⟨b, off, none⟩) n cap zs ((p : Int) + 1) rc t wd pp ps pl W h1 h2 h3 ht0 ht9)
  rw [hD] at HRE ⊢
  clear hD hne
  obtain ⟨T, hT⟩ : ∃ T, (if D.2.2.2 ≠ 0 then (0, 0, [], 0, D.2.2.2) else (rc, D.1, D.2.1, D.2.2.1, 0) : Int × Int × List Int × Int × Int) = T := ⟨_, rfl⟩
  rw [hT]
  have HT := hid hT
  clear hT
  go_enter Tryd.func19, Tryd.ntmps19
  go_wp2_with fail
  refine HO.out.mono ?_
  rintro e w1 ⟨rfl, hb1⟩
  have x0 : w1.cell? ⟨w.heap.size, 0, none⟩ = some (.int .u8 0) ∧ w1.cell? ⟨w.heap.size, 1, none⟩ = some (.int .i64 0) ∧ w1.cell? ⟨w.heap.size, 2, none⟩ = some (.slice none 0 0) ∧ w1.frozen? ⟨w.heap.size, 0, none⟩ = false ∧ w1.frozen? ⟨w.heap.size, 1, none⟩ = false ∧ w1.frozen? ⟨w.heap.size, 2, none⟩ = false := by
    refine ⟨?_, ?_, ?_, ?_, ?_, ?_⟩
    · rw [hb1.cell (by simp)]; simp [go_sem]
    · rw [hb1.cell (by simp)]; simp [go_sem]
    · rw [hb1.cell (by simp)]; simp [go_sem]
    · rw [hb1.frozen (by simp)]; simp [go_sem]
    · rw [hb1.frozen (by simp)]; simp [go_sem]
    · rw [hb1.frozen (by simp)]; simp [go_sem]
  have HX := hid x0
  have hx := block_lt_of_cell x0.1
  simp only at hx
  have B1 := hid (HB0.out.trans (hb1.mono (by simp)))
  have S1 := hid (HS.out.later B1.out (Nat.le_refl _))
  clear hb1 x0 HO hc0 hc
  go_wp2_with fail
  obtain ⟨W, hW⟩ : ∃ W, (w1.alloc (.cells #[.int .u8 rc, .string wd, .int .i8 t, .string pp, .string ps, .bool pl] 68)).alloc (.cells #[.slice (some ⟨b, off, none⟩) n cap, .int .i64 ((p : Int) + 1)] 87) = W := ⟨_, rfl⟩
  rw [hW]
  obtain ⟨R, hR⟩ : ∃ R, w1.heap.size + 1 = R := ⟨_, rfl⟩
  rw [hR]
  have hw1R : w1.heap.size < R := by omega
  have hbW : Below w1.heap.size w1 W := by rw [← hW]; exact ((Below.refl _ _).alloc (Nat.le_refl _) _).alloc (by simp) _
  have HRd := hid (show Rd W R (.slice (some ⟨b, off, none⟩) n cap) ((p : Int) + 1) by rw [← hW, ← hR]; refine ⟨?_, ?_, ?_⟩ <;> simp [go_sem])
  have HSW := hid (show SegU w1.heap.size W (some ⟨b, off, none⟩) n cap zs from ⟨S1.out.later hbW (Nat.le_refl _), fun b' off' e _ => by simp at e; omega⟩)
  have HXW := hid (show W.cell? ⟨w.heap.size, 0, none⟩ = some (.int .u8 0) ∧ W.cell? ⟨w.heap.size, 1, none⟩ = some (.int .i64 0) ∧ W.cell? ⟨w.heap.size, 2, none⟩ = some (.slice none 0 0) ∧ W.frozen? ⟨w.heap.size, 0, none⟩ = false ∧ W.frozen? ⟨w.heap.size, 1, none⟩ = false ∧ W.frozen? ⟨w.heap.size, 2, none⟩ = false from
    ⟨(hbW.cell (by exact hx)).trans HX.out.1, (hbW.cell (by exact hx)).trans HX.out.2.1, (hbW.cell (by exact hx)).trans HX.out.2.2.1, (hbW.frozen (by exact hx)).trans HX.out.2.2.2.1, (hbW.frozen (by exact hx)).trans HX.out.2.2.2.2.1, (hbW.frozen (by exact hx)).trans HX.out.2.2.2.2.2⟩)
  have BW := hid (B1.out.trans (hbW.mono (by omega)))
  clear hW hR hbW HX S1 B1
  have HC := hid (HRE.out R w1.heap.size W HRd.out HSW.out (by omega))
  clear HRE
  unfold RestPost at HC
  refine HC.out.mono ?_
  rintro e w3 ⟨v, rfl, hown, hrd, hk3⟩
  obtain ⟨va, vn, vc, rfl⟩ := own_slice hown
  have O3 := hid hown
  have R3 := hid hrd
  have hXR : w.heap.size ≠ R := by omega
  have hX3 : w3.cell? ⟨w.heap.size, 0, none⟩ = some (.int .u8 0) ∧ w3.cell? ⟨w.heap.size, 1, none⟩ = some (.int .i64 0) ∧ w3.cell? ⟨w.heap.size, 2, none⟩ = some (.slice none 0 0) ∧ w3.frozen? ⟨w.heap.size, 0, none⟩ = false ∧ w3.frozen? ⟨w.heap.size, 1, none⟩ = false ∧ w3.frozen? ⟨w.heap.size, 2, none⟩ = false := by
    have hXW : w.heap.size < W.heap.size := block_lt_of_cell HXW.out.1
    have hbk := hk3.block w.heap.size hXW hXR
    exact ⟨(cell_of_block hbk _).trans HXW.out.1, (cell_of_block hbk _).trans HXW.out.2.1, (cell_of_block hbk _).trans HXW.out.2.2.1, (frozen_of_block hbk _).trans HXW.out.2.2.2.1, (frozen_of_block hbk _).trans HXW.out.2.2.2.2.1, (frozen_of_block hbk _).trans HXW.out.2.2.2.2.2⟩
  obtain ⟨x0, x1, x2, f0, f1, f2⟩ := hX3
  have B3 := hid (BW.out.trans ((hk3.to_below (B := w.heap.size) BW.out.size (fun k hk => by omega))))
  have hx3 := block_lt_of_cell x0
  simp only at hx3
  have hWsz := hk3.size
  have hRW := HRd.out.lt
  have hRx : R < w3.heap.size := by omega
  have hWw : w.heap.size ≤ W.heap.size := BW.out.size
  clear hown hrd hk3 HC HXW BW HRd HSW
  by_cases hx0 : D.2.2.2 = 0
  · have HE := hid (show T = (rc, D.1, D.2.1, D.2.2.1, 0) by rw [← HT.out, if_neg (by simp [hx0])])
    have rd := R3.out hx0
    have r1 := rd.c1
    have rf := rd.f1
    clear R3 HT rd
    go_wp2_with fail
    have hXlt : w.heap.size < W.heap.size := by omega
    go_region
    all_goals (go_wp2_with fail)
    all_goals
      refine bodyPost_ret (v := .tuple #[.agg #[.int .u8 rc, .int .i64 D.1, .slice va vn vc], .int .i64 D.2.2.1, .int .i64 0]) (by simp [results, Tryd.results19, go_sem, x0, x1, x2, hx3]) rfl ⟨.slice va vn vc, by rw [HE.out], ?_, ?_⟩
      · rw [HE.out]
        have hk := own_set (o := 2) (u := .slice va vn vc) (own_set (o := 1) (u := .int .i64 D.1) (own_set (o := 0) (u := .int .u8 rc) O3.out hXlt) hXlt) hXlt
        exact own_mono (own_later hk (((Below.refl _ _).alloc (Nat.le_refl _) _).drew)) hWw
      · exact ((((B3.out.setCell (p := ⟨w.heap.size, 0, none⟩) (Nat.le_refl _) _).setCell (p := ⟨w.heap.size, 1, none⟩) (Nat.le_refl _) _).setCell (p := ⟨w.heap.size, 2, none⟩) (Nat.le_refl _) _).alloc (by have := B3.out.size; simp; omega) _).drew
  · have HE := hid (show T = (0, 0, [], 0, D.2.2.2) by rw [← HT.out, if_pos hx0])
    have hx' : (D.2.2.2 != 0) = true := by simp [hx0]
    clear HT R3
    go_wp2_with fail
    refine bodyPost_ret (v := .tuple #[.agg #[.int .u8 0, .int .i64 0, .slice none 0 0], .int .i64 0, .int .i64 D.2.2.2]) (by simp [results, Tryd.results19, go_sem, x0, x1, x2, hx3]) rfl ⟨.slice none 0 0, by rw [HE.out], by rw [HE.out]; exact World.ownsRow_nil _ _ _ _, ?_⟩
    exact (((B3.out.setCell (p := ⟨w.heap.size, 0, none⟩) (Nat.le_refl _) _).setCell (p := ⟨w.heap.size, 1, none⟩) (Nat.le_refl _) _).setCell (p := ⟨w.heap.size, 2, none⟩) (Nat.le_refl _) _).alloc (by have := B3.out.size; simp; omega) _

/-- instr.Decode, of whatever bytes, at whatever place. -/
theorem decode19 (a : Option Addr) (n cap : Nat) (zs : List Int) (p : Int) (w : World) (hk : KindsOk w) (hs : Seg w a n cap zs) :
    Calls Tryd.prog 19 #[.slice a n cap, .int .i64 p] w (DecPost w (decV zs p)) := by
  by_cases hp : p < 0 ∨ (zs.length : Int) < p
  · have e : decV zs p = (0, 0, [], 0, 1) := by unfold decV; rw [if_pos hp]
    rw [e]
    exact decode_out a n cap p w hs.2.2.1 (by have := hs.1; omega)
  by_cases hq : p = zs.length
  · have e : decV zs p = (0, 0, [], 0, 10) := by unfold decV; rw [if_neg hp, if_pos hq]
    rw [e, hq, hs.1]
    exact decode_end a n cap w hs.2.2.1
  obtain ⟨p, rfl⟩ := Int.eq_ofNat_of_zero_le (by omega : 0 ≤ p)
  have hl := hs.1
  rcases hs.2.2.2.2 with h0 | ⟨b, off, rfl, hc⟩
  · omega
  · have hpn : p < n := by omega
    exact decode_in b off n cap p zs w hk hs hpn (hc p hpn) (block_lt_of_cell (hc p hpn))
end Go.Proofs.YtgljlclnmnfocaaDoor

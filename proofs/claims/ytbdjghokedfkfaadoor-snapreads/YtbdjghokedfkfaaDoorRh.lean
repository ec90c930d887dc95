/-
  snap's reader: the pages.
-/
import Derived.Test.YtbdjghokedfkfaaDoorRg
namespace Go.Proofs.YtbdjghokedfkfaaDoor
open Go.RowKit
set_option linter.unusedVariables false
set_option maxRecDepth 100000

/-- A page that is written: its number, its bytes. -/
def pgS (zs : List Int) (n : Int) (x : List (List Int) × Int × RS) : List (List Int) × Int × RS :=
  (x.1.set (pnR zs x.2.1 n x.2.2).1.toNat (pgL zs (pnR zs x.2.1 n x.2.2).2.1.toNat), (pnR zs x.2.1 n x.2.2).1 + 1, pgR zs (pnR zs x.2.1 n x.2.2).2)
def pgI (zs : List Int) (n : Int) : Nat → List (List Int) × Int × RS → List (List Int) × Int × RS
  | 0, x => x
  | k + 1, x => pgS zs n (pgI zs n k x)
def pgsR (zs : List Int) (st : RS) : List (List Int) × RS :=
  ((pgI zs (nmR zs 64 20 st).1 (nmR zs (nmR zs 64 20 st).1 20 (nmR zs 64 20 st).2).1.toNat (List.replicate (nmR zs 64 20 st).1.toNat Zp, 0, (nmR zs (nmR zs 64 20 st).1 20 (nmR zs 64 20 st).2).2)).1,
   (pgI zs (nmR zs 64 20 st).1 (nmR zs (nmR zs 64 20 st).1 20 (nmR zs 64 20 st).2).1.toNat (List.replicate (nmR zs 64 20 st).1.toNat Zp, 0, (nmR zs (nmR zs 64 20 st).1 20 (nmR zs 64 20 st).2).2)).2.2)
theorem pgI_len (zs : List Int) (n : Int) (x : List (List Int) × Int × RS) : ∀ k, (pgI zs n k x).1.length = x.1.length
  | 0 => rfl
  | k + 1 => by
    show ((pgI zs n k x).1.set _ _).length = _
    rw [List.length_set]
    exact pgI_len zs n x k
theorem pgI_all (zs : List Int) (n : Int) (x : List (List Int) × Int × RS) (h : ∀ l ∈ x.1, l.length = 4096) : ∀ k, ∀ l ∈ (pgI zs n k x).1, l.length = 4096
  | 0 => h
  | k + 1 => fun l hl => by
    have hl' : l ∈ (pgI zs n k x).1.set (pnR zs (pgI zs n k x).2.1 n (pgI zs n k x).2.2).1.toNat (pgL zs (pnR zs (pgI zs n k x).2.1 n (pgI zs n k x).2.2).2.1.toNat) := hl
    rcases List.mem_or_eq_of_mem_set hl' with h1 | h1
    · exact pgI_all zs n x h k l h1
    · rw [h1]; exact pgL_len zs _

abbrev slP (b : Nat) : Value := .slice (some ⟨b, 0, none⟩) 4096 4096
/-- Pages that were read: blocks of their own, one behind the other. -/
structure PgA (lo : Nat) (w : World) (B : Nat) (bl : List Nat) (ps : List (List Int)) : Prop where
  row : w.heap[B]? = some (.cells (bl.map slP).toArray 31)
  len : bl.length = ps.length
  el : ∀ (j : Nat) b l, bl[j]? = some b → ps[j]? = some l → w.heap[b]? = some (.cells (byV l) 5)
  lo : ∀ (j : Nat) b, bl[j]? = some b → lo ≤ b ∧ b < w.heap.size
  asc : ∀ (i j : Nat) b b', i < j → bl[i]? = some b → bl[j]? = some b' → b < b'
theorem PgA.keep {S : Nat → Prop} {lo : Nat} {w w' : World} {B : Nat} {bl : List Nat} {ps : List (List Int)} (h : PgA lo w B bl ps) (hk : Kept S w w') (hB : ¬ S B) (hs : ∀ b, lo ≤ b → b < w.heap.size → ¬ S b) : PgA lo w' B bl ps := by
  refine ⟨(hk.block B (nb_lt h.row) hB).trans h.row, h.len, fun j b l hb hl => ?_, fun j b hb => ⟨(h.lo j b hb).1, Nat.lt_of_lt_of_le (h.lo j b hb).2 hk.size⟩, h.asc⟩
  have hh := h.el j b l hb hl
  exact (hk.block b (nb_lt hh) (hs b (h.lo j b hb).1 (h.lo j b hb).2)).trans hh
/-- A page's bytes changed. -/
theorem PgA.put {lo : Nat} {w : World} {B k b : Nat} {bl : List Nat} {ps : List (List Int)} {l : List Int} (h : PgA lo w B bl ps) (hB : B < lo) (hb : bl[k]? = some b) : PgA lo (w.setRow b (byV l)) B bl (ps.set k l) := by
  have hlt := lt_of_get hb
  have hl := h.len
  obtain ⟨l0, hl0⟩ : ∃ l0, ps[k]? = some l0 := ⟨_, List.getElem?_eq_getElem (by omega)⟩
  have hh := h.el k b l0 hb hl0
  have hk := set_row_kept (c' := byV l) hh
  have hlo := (h.lo k b hb).1
  have hsz : (w.setRow b (byV l)).heap.size = w.heap.size := by simp [World.setRow]
  refine ⟨(hk.block B (nb_lt h.row) (by omega)).trans h.row, by rw [List.length_set]; exact h.len, fun j b' l' hb' hl' => ?_, fun j b' hb' => by rw [hsz]; exact h.lo j b' hb', h.asc⟩
  rw [List.getElem?_set] at hl'
  by_cases hjk : k = j
  · subst hjk
    rw [if_pos rfl, if_pos (by omega)] at hl'
    obtain rfl : l = l' := by simpa using hl'
    rw [hb] at hb'
    obtain rfl : b = b' := by simpa using hb'
    exact set_row_blk hh
  · rw [if_neg hjk] at hl'
    have h2 := h.el j b' l' hb' hl'
    have hne : b' ≠ b := by
      rcases Nat.lt_or_gt_of_ne hjk with h3 | h3
      · have := h.asc k j b b' h3 hb hb'; omega
      · have := h.asc j k b' b h3 hb' hb; omega
    exact (hk.block b' (nb_lt h2) hne).trans h2
theorem pgI_rng (zs : List Int) (hz : ∀ z ∈ zs, 0 ≤ z ∧ z ≤ 255) (n : Int) (hn : 0 < n) (x : List (List Int) × Int × RS) (hx : 0 ≤ x.2.1 ∧ x.2.1 ≤ n) : ∀ k, 0 ≤ (pgI zs n k x).2.1 ∧ (pgI zs n k x).2.1 ≤ n
  | 0 => hx
  | k + 1 => by
    have h := pnR_le (zs := zs) (least := (pgI zs n k x).2.1) (count := n) (st := (pgI zs n k x).2.2) hz hn
    show 0 ≤ (pnR zs (pgI zs n k x).2.1 n (pgI zs n k x).2.2).1 + 1 ∧ (pnR zs (pgI zs n k x).2.1 n (pgI zs n k x).2.2).1 + 1 ≤ n
    omega
/-- The bytes of a page laid over another's. -/
theorem ex_cpp {ρ : Operand → Value} {o : Oper} (d s : Operand) (ho : o.op = Op.call { callee := Callee.builtin Builtin.copy, args := #[d, s], argTypes := #[31, 31] }) (W : World) (B P : Nat) (old l : List Int) (h1 : old.length = 4096) (h2 : l.length = 4096) (hB : W.heap[B]? = some (.cells (byV old) 5)) (hP : W.heap[P]? = some (.cells (byV l) 152))
    (hd : ρ d = .slice (some ⟨B, 0, none⟩) 4096 4096) (hs : ρ s = .slice (some ⟨P, 0, none⟩) 4096 4096) :
    (execOp ρ o).run Tryd.prog W = .ok (.value (.int .i64 4096)) (W.setRow B (byV l)) := by
  have hz : (byV old).size = 4096 := by simp [byV, h1]
  have h := ex_cp (ρ := ρ) d s ho B 0 4096 4096 hd ⟨P, 0, none⟩ 4096 4096 hs (byV old) 5 (l.map (Value.int .u8)) W hB (by simp [h2]) (fun j v hv => by
    have hplain : (⟨P, 0, none⟩ : Addr).add j = ⟨P, j, none⟩ := by unfold Addr.add; split <;> simp_all
    rw [hplain, cell_at hP]
    simpa [byV] using hv) (by rw [hz]; simp [h2]) (ints_one l)
  rw [h]
  have e1 : ((byV old).toList.take 0 ++ l.map (Value.int .u8) ++ (byV old).toList.drop (0 + (l.map (Value.int .u8)).length)).toArray = byV l := by
    have : (byV old).toList.drop (0 + (l.map (Value.int .u8)).length) = [] := List.drop_eq_nil_of_le (by simp [h1, h2])
    rw [this]
    simp
  rw [e1]
  simp [goInt, h2]
theorem Tryd.inf28 : (Tryd.prog.info? 31).map (fun i => (i.zero, i.size, i.bytes)) = some (some (.slice none 0 0), 1, 24) := by kernel_rfl

set_option maxHeartbeats 8000000 in
theorem pages32 (R : Nat) (b off n c : Nat) (zs : List Int) (st : RS) (w : World) (h : Rd w R (some ⟨b, off, none⟩) n c zs st) (h0 : 0 < n) :
    Calls Tryd.prog 82 #[.pointer (some ⟨R, 0, none⟩)] w fun e w' => ∃ B bl, e = .returned (.slice (some ⟨B, 0, none⟩) (pgsR zs st).1.length (pgsR zs st).1.length) ∧ PgA (B + 1) w' B bl (pgsR zs st).1 ∧ w.heap.size ≤ B ∧ Rd w' R (some ⟨b, off, none⟩) n c zs (pgsR zs st).2 ∧ Kept (fun k => k = R) w w' := by
  have hz := h.seg.2.2.2.1
  have hl := nmR_le (st := st) hz (by decide : (20 : Int) ≠ 0) (by decide : (0 : Int) ≤ 64)
  have HN := hid (count44 R (some ⟨b, off, none⟩) n c zs st 64 w h (by decide))
  simp only [Int.cast_ofNat_Int] at HN
  have hRl := h.lt
  have HLO := hid h.low
  have e : pgsR zs st = ((pgI zs (nmR zs 64 20 st).1 (nmR zs (nmR zs 64 20 st).1 20 (nmR zs 64 20 st).2).1.toNat (List.replicate (nmR zs 64 20 st).1.toNat Zp, 0, (nmR zs (nmR zs 64 20 st).1 20 (nmR zs 64 20 st).2).2)).1,
   (pgI zs (nmR zs 64 20 st).1 (nmR zs (nmR zs 64 20 st).1 20 (nmR zs 64 20 st).2).1.toNat (List.replicate (nmR zs 64 20 st).1.toNat Zp, 0, (nmR zs (nmR zs 64 20 st).1 20 (nmR zs 64 20 st).2).2)).2.2) := rfl
  rw [e]
  clear e h
  generalize nmR zs 64 20 st = p at *
  obtain ⟨V, st1⟩ := p
  dsimp only at *
  obtain ⟨m, rfl⟩ := Int.eq_ofNat_of_zero_le hl.1
  rw [Int.toNat_natCast]
  have hm1 : m ≤ 64 := by omega
  have hl2 := nmR_le (st := st1) hz (by decide : (20 : Int) ≠ 0) (by omega : (0 : Int) ≤ m)
  have HN2 := hid (fun (W : World) (hW : Rd W R (some ⟨b, off, none⟩) n c zs st1) => count44 R (some ⟨b, off, none⟩) n c zs st1 m W hW (by omega))
  generalize nmR zs m 20 st1 = p2 at *
  obtain ⟨V2, st2⟩ := p2
  dsimp only at *
  obtain ⟨cn, rfl⟩ := Int.eq_ofNat_of_zero_le hl2.1
  rw [Int.toNat_natCast]
  have hcn : cn ≤ m := by omega
  obtain ⟨Z, hZ⟩ : ∃ Z, Z = Zp := ⟨_, rfl⟩
  have HZ := hid hZ
  rw [← hZ]
  clear hl hl2 hZ hz
  go_enter Tryd.func82, Tryd.ntmps82
  go_wp2_with fail
  refine HN.out.mono ?_
  rintro e w1 ⟨rfl, h1, k1⟩
  have R1 := hid h1
  have K1 := hid k1
  clear h1 k1 HN
  have hmk := run_make_row' (P := Tryd.prog) 24 31 (.slice none 0 0) 24 Tryd.underlying24 Tryd.inf28 rfl .i64 .i64 m (by omega) (by omega) w1
  have hmp : ∀ W : World, (Instr.makeSlice 31 (.int .i64 4096) (.int .i64 4096)).run Tryd.prog W = .ok (.slice (some ⟨W.heap.size, 0, none⟩) 4096 4096) (W.alloc (.cells (byV Z) 5)) := fun W => by
    have := run_make_row' (P := Tryd.prog) 31 5 (.int .u8 0) 1 Tryd.underlying31 Tryd.info5 rfl .i64 .i64 4096 (by decide) (by decide) W
    have e : madeCells #[.int .u8 0] 4096 = byV Z := by
      apply Array.toList_inj.1
      rw [toList_madeCells_one, HZ.out]
      simp [Zp]
    rw [e] at this
    exact this
  have hb1 := below_new w1 (.cells (madeCells #[.slice none 0 0] m) 31)
  have hkb : (w1.alloc (.cells (madeCells #[.slice none 0 0] m) 31)).heap[w1.heap.size]? = some (.cells ((([] : List Nat).map slP ++ List.replicate (m - 0) (Value.slice none 0 0))).toArray 31) := by
    rw [nb_new]
    congr 2
    apply Array.toList_inj.1
    rw [toList_madeCells_one]
    simp
  have HKB := hid hkb
  have RR := hid (R1.out.later hb1)
  have KK := hid (K1.out.trans (kept_R (R := R) hb1))
  have hsz : w1.heap.size < (w1.alloc (.cells (madeCells #[.slice none 0 0] m) 31)).heap.size := by simp
  have HWS := hid K1.out.size
  have hR1 := R1.out.lt
  clear hb1 hkb R1 K1
  go_wp2_with fail
  generalize w1.alloc (.cells (madeCells #[.slice none 0 0] m) 31) = W1 at *
  go_loopw [13] (fun i wr => ∃ (k : Nat) (bl : List Nat), k ≤ m ∧ i = .int .i64 k ∧ Hid (bl.length = k) ∧ Hid (Rd wr R (some ⟨b, off, none⟩) n c zs st1) ∧ Hid (Kept (fun k => k = R) w wr) ∧ Hid (w1.heap.size < wr.heap.size) ∧ Hid (wr.heap[w1.heap.size]? = some (.cells ((bl.map slP ++ List.replicate (m - k) (Value.slice none 0 0))).toArray 31)) ∧ Hid (∀ (j : Nat) q, bl[j]? = some q → wr.heap[q]? = some (.cells (byV Z) 5) ∧ w1.heap.size + 1 ≤ q ∧ q < wr.heap.size) ∧ Hid (∀ (i j : Nat) q q', i < j → bl[i]? = some q → bl[j]? = some q' → q < q')) (fun i _ => m - (intOf i).toNat)
  case atStart => exact ⟨0, [], by omega, rfl, hid rfl, RR, KK, hid hsz, HKB, hid (fun j q hq => by simp at hq), hid (fun i j q q' _ hq => by simp at hq)⟩
  case round =>
    obtain ⟨k, bl, hk, rfl, HBL, RW, KW, SW, OW, EW, AW⟩ := hrel
    by_cases hlt : k < m
    · have hlt' : (k : Int) < (m : Int) := by omega
      have hne : w1.heap.size ≠ R := by have := HWS.out; omega
      have b2 := below_new wr (.cells (byV Z) 5)
      have kb2 := nb_later b2 OW.out
      have kz := nb_new wr (.cells (byV Z) 5)
      have hc0 : ∃ u, (wr.alloc (.cells (byV Z) 5)).cell? ⟨w1.heap.size, k, none⟩ = some u := by
        rw [cell_at kb2]
        exact ⟨_, by rw [List.getElem?_toArray]; exact List.getElem?_eq_getElem (by simp [HBL.out]; omega)⟩
      obtain ⟨u0, hc0⟩ := hc0
      have hf0 : (wr.alloc (.cells (byV Z) 5)).frozen? ⟨w1.heap.size, k, none⟩ = false := frzB kb2
      have R2 := hid (RW.out.later b2)
      have hsa : (wr.alloc (.cells (byV Z) 5)).heap.size = wr.heap.size + 1 := by simp
      have HKB2 := hid kb2
      have HKZ := hid kz
      have HB2 := hid b2
      clear b2 kb2 kz HN2
      go_wp2_with fail
      generalize hWA : wr.alloc (.cells (byV Z) 5) = WA at *
      have hsw := SW.out
      have hxs : (WA.setCell ⟨w1.heap.size, k, none⟩ (slP wr.heap.size)).heap.size = WA.heap.size := by simp [World.setCell]
      have hnew := put_blk (i := k) (v := slP wr.heap.size) (by omega : wr.heap.size ≠ w1.heap.size) HKZ.out
      refine ⟨⟨k + 1, bl ++ [wr.heap.size], by omega, by go_num, ?_, ?_, ?_, ?_, ?_, ?_, ?_⟩, by simp [intOf]; omega⟩
      · exact hid (by simp [HBL.out])
      · exact hid (R2.out.put hne (fun b1 o1 e hn => by have := HLO.out b1 o1 e hn; have := HWS.out; omega))
      · exact hid ((KW.out.trans (kept_R (R := R) HB2.out)).then kept_put (fun q h1 h2 => by have := HWS.out; omega))
      · exact hid (by rw [hxs]; omega)
      · have h1 := blk_set (i := k) (v := slP wr.heap.size) HKB2.out
        rw [List.setIfInBounds_toArray] at h1
        have e : (bl.map slP ++ List.replicate (m - k) (Value.slice none 0 0)).set k (slP wr.heap.size) = (bl ++ [wr.heap.size]).map slP ++ List.replicate (m - (k + 1)) (Value.slice none 0 0) := by
          rw [show m - k = m - (k + 1) + 1 by omega, List.set_append_right _ _ (by rw [List.length_map, HBL.out]; omega), List.length_map, HBL.out]
          simp [List.replicate_succ]
        rw [e] at h1
        exact hid h1
      · refine hid (fun j q hq => ?_)
        rw [hxs]
        by_cases hj : j < bl.length
        · rw [List.getElem?_append_left hj] at hq
          obtain ⟨g1, g2, g3⟩ := EW.out j q hq
          exact ⟨put_blk (by omega) (nb_later HB2.out g1), g2, by omega⟩
        · rw [List.getElem?_append_right (by omega)] at hq
          have hj0 : j - bl.length = 0 := by
            have := lt_of_get hq
            simp at this
            omega
          rw [hj0] at hq
          obtain rfl : wr.heap.size = q := by simpa using hq
          exact ⟨hnew, by omega, by omega⟩
      · refine hid (fun i j q q' hij hq hq' => ?_)
        have hj := lt_of_get hq'
        rw [List.length_append, List.length_singleton] at hj
        rw [List.getElem?_append_left (by omega)] at hq
        by_cases hjl : j < bl.length
        · rw [List.getElem?_append_left hjl] at hq'
          exact AW.out i j q q' hij hq hq'
        · rw [List.getElem?_append_right (by omega)] at hq'
          obtain rfl : j = bl.length := by omega
          rw [Nat.sub_self] at hq'
          obtain rfl : wr.heap.size = q' := by simpa using hq'
          exact (EW.out i q hq).2.2
    · have hlt' : ¬ (k : Int) < (m : Int) := by omega
      obtain rfl : k = m := by omega
      have PA := hid (show PgA (w1.heap.size + 1) wr w1.heap.size bl (List.replicate k Z) from ⟨by have := OW.out; rw [Nat.sub_self] at this; simpa using this, by rw [HBL.out, List.length_replicate], fun j q l hq hl => (by
        rw [List.getElem?_replicate] at hl
        split at hl
        · obtain rfl : Z = l := by simpa using hl
          exact (EW.out j q hq).1
        · cases hl), fun j q hq => (EW.out j q hq).2, AW.out⟩)
      clear OW EW AW hmp hmk
      go_wp2_with fail
      refine (HN2.out wr RW.out).mono ?_
      rintro e w3 ⟨rfl, h3, k3⟩
      have hR3 := h3.lt
      have hne : w1.heap.size ≠ R := by have := HWS.out; omega
      have R3 := hid h3
      have K3 := hid (KW.out.trans k3)
      have P3 := hid (PA.out.keep k3 (by omega) (fun q h1 h2 => by omega))
      clear h3 k3 HN2 RW KW SW PA
      go_wp2_with fail
      generalize wr = wa at *
      have hZl := zl_len HZ
      have HZL := hid hZl
      clear hZl
      go_loopw [5, 25] (fun le i wr => ∃ (j ln : Nat), j ≤ cn ∧ i = .int .i64 j ∧ le = .int .i64 ln ∧ ln ≤ k ∧ Hid ((pgI zs k j (List.replicate k Z, 0, st2)).2.1 = ln) ∧ Hid (Rd wr R (some ⟨b, off, none⟩) n c zs (pgI zs k j (List.replicate k Z, 0, st2)).2.2) ∧ Hid (Kept (fun k => k = R) w wr) ∧ Hid (PgA (w1.heap.size + 1) wr w1.heap.size bl (pgI zs k j (List.replicate k Z, 0, st2)).1)) (fun _ i _ => cn - (intOf i).toNat)
      case atStart => exact ⟨0, 0, by omega, rfl, rfl, by omega, hid rfl, R3, K3, P3⟩
      case round =>
        obtain ⟨j, ln, hj, rfl, rfl, hln, HLN, RW, KW, PW⟩ := hrel
        by_cases hjc : j < cn
        · have hjc' : (j : Int) < (cn : Int) := by omega
          have hz := RW.out.seg.2.2.2.1
          have hple := pnR_le (zs := zs) (least := (ln : Int)) (count := (k : Int)) (st := (pgI zs k j (List.replicate k Z, 0, st2)).2.2) hz (by omega)
          have HP1 := hid (pnum45 R (some ⟨b, off, none⟩) n c zs _ ln k wr RW.out (by omega) (by omega) (by omega))
          have e1 : (pgI zs k (j + 1) (List.replicate k Z, 0, st2)).1 = (pgI zs k j (List.replicate k Z, 0, st2)).1.set (pnR zs ln k (pgI zs k j (List.replicate k Z, 0, st2)).2.2).1.toNat (pgL zs (pnR zs ln k (pgI zs k j (List.replicate k Z, 0, st2)).2.2).2.1.toNat) := by rw [← HLN.out]; rfl
          have e2 : (pgI zs k (j + 1) (List.replicate k Z, 0, st2)).2.1 = (pnR zs ln k (pgI zs k j (List.replicate k Z, 0, st2)).2.2).1 + 1 := by rw [← HLN.out]; rfl
          have e3 : (pgI zs k (j + 1) (List.replicate k Z, 0, st2)).2.2 = pgR zs (pnR zs ln k (pgI zs k j (List.replicate k Z, 0, st2)).2.2).2 := by rw [← HLN.out]; rfl
          have hall := pgI_all zs k (List.replicate k Z, 0, st2) (fun l hl => by have := List.eq_of_mem_replicate hl; subst this; exact HZL.out) j
          generalize pnR zs ln k (pgI zs k j (List.replicate k Z, 0, st2)).2.2 = q4 at *
          obtain ⟨V4, s4⟩ := q4
          dsimp only at *
          obtain ⟨kk, rfl⟩ := Int.eq_ofNat_of_zero_le hple.1
          rw [Int.toNat_natCast] at e1
          have hkk : kk < k := by omega
          have HP2 := hid (fun (W : World) (hW : Rd W R (some ⟨b, off, none⟩) n c zs s4) => page46 R b off n c zs s4 W hW h0)
          have hll := pgL_len zs s4.1.toNat
          rw [← e3] at HP2
          generalize pgL zs s4.1.toNat = l at *
          have E1 := hid e1
          have E2 := hid e2
          obtain ⟨bk, hbk⟩ : ∃ q, bl[kk]? = some q := ⟨_, List.getElem?_eq_getElem (by have := HBL.out; omega)⟩
          obtain ⟨old, hold⟩ : ∃ q, (pgI zs k j (List.replicate k Z, 0, st2)).1[kk]? = some q := ⟨_, List.getElem?_eq_getElem (by have h1 := PW.out.len; have := HBL.out; omega)⟩
          have holdl := hall old (List.mem_of_getElem? hold)
          have HX := hid (And.intro hbk (And.intro hold (And.intro holdl hll)))
          clear e1 e2 e3 hall hple hz hbk hold holdl hll R3 K3 P3 HBL
          go_wp2_with fail
          refine HP1.out.mono ?_
          rintro e w4 ⟨rfl, h4, k4⟩
          have P4 := hid (PW.out.keep k4 (by omega) (fun q h1 h2 => by omega))
          have K4 := hid (KW.out.trans k4)
          have R4 := hid h4
          clear h4 k4 HP1 RW PW KW
          go_wp2_with fail
          refine (HP2.out w4 R4.out).mono ?_
          rintro e w5 ⟨rfl, h5, k5⟩
          have P5 := hid (P4.out.keep k5 (by omega) (fun q h1 h2 => by omega))
          have K5 := hid (K4.out.trans k5)
          have b6 := below_new w5 (pgOb l)
          have R6 := hid (h5.later b6)
          have P6 := hid (P5.out.keep (kept_of (S := fun _ => False) b6) id (fun _ _ _ h => h))
          have K6 := hid (K5.out.trans (kept_R (R := R) b6))
          have HPB := hid (nb_new w5 (pgOb l))
          clear h5 k5 HP2 R4 P4 K4 P5 K5 b6
          go_upto_region 12 with (first
            | (refine wpl_val rfl _ (ex_alZ HZ rfl _) ?_)
            | (refine wpl_skip rfl ((ex_st (.tmp 7) (.tmp 33) rfl w5.heap.size Z l rfl rfl HZL.out HX.out.2.2.2 _ (nb_new w5 (pgOb Z))).trans (by rw [World.setRow_alloc_new])) ?_))
          generalize hW6 : w5.alloc (pgOb l) = W6 at *
          have kd := below_drewN W6 1
          have P7 : Hid (PgA (w1.heap.size + 1) W6.drew w1.heap.size bl (pgI zs k j (List.replicate k Z, 0, st2)).1) := hid (P6.out.keep (kept_of (S := fun _ => False) kd) id (fun _ _ _ h => h))
          have R7 : Hid (Rd W6.drew R (some ⟨b, off, none⟩) n c zs (pgI zs k (j + 1) (List.replicate k Z, 0, st2)).2.2) := hid (R6.out.later kd)
          have K7 : Hid (Kept (fun k => k = R) w W6.drew) := hid (K6.out.trans (kept_R (R := R) kd))
          have PB7 : Hid (W6.drew.heap[w5.heap.size]? = some (pgOb l)) := hid (nb_later kd HPB.out)
          have hS : W6.drew.cell? ⟨w1.heap.size, kk, none⟩ = some (slP bk) := by
            rw [cell_at P7.out.row, List.getElem?_toArray, List.getElem?_map, HX.out.1]
            rfl
          have hkk' : (kk : Int) < (k : Int) := by omega
          clear kd P6 R6 K6 HPB hW6
          refine wp_region_held_drew (S := fun W => W.cell? ⟨w1.heap.size, kk, none⟩ = some (slP bk)) (by kernel_rfl) hS (fun _ => ?_)
          refine tkH (i := 0) (oi := { dst := some 34, op := Op.move (Operand.tmp 3), type := 24, pos := "reader.go:50", after := #[], guard := none }) (v := .slice (some ⟨w1.heap.size, 0, none⟩) k k) rfl ?_
          try simp only [Act.put, List.setIfInBounds_toArray, List.set_cons_zero, List.set_cons_succ]
          refine tkH (i := 1) (oi := { dst := some 35, op := Op.move (Operand.tmp 6), type := 3, pos := "reader.go:50", after := #[], guard := none }) (v := .int .i64 (kk : Int)) rfl ?_
          try simp only [Act.put, List.setIfInBounds_toArray, List.set_cons_zero, List.set_cons_succ]
          refine tkH (i := 2) (oi := { dst := some 36, op := Op.indexAddr 24 (Operand.tmp 34) (Operand.tmp 35), type := 0, pos := "reader.go:50", after := #[{ on := 0, ground := Ground.data }, { on := 1, ground := Ground.data }], guard := none }) (v := .pointer (some ⟨w1.heap.size, kk, none⟩)) rfl ?_
          try simp only [Act.put, List.setIfInBounds_toArray, List.set_cons_zero, List.set_cons_succ]
          refine tkH (i := 3) (oi := { dst := some 37, op := Op.load 31 (Operand.tmp 36), type := 31, pos := "reader.go:50", after := #[{ on := 2, ground := Ground.data }], guard := none }) (v := slP bk) rfl ?_
          try simp only [Act.put, List.setIfInBounds_toArray, List.set_cons_zero, List.set_cons_succ]
          refine tkH (i := 4) (oi := { dst := some 38, op := Op.slice 152 (Operand.tmp 7) none none none, type := 31, pos := "reader.go:50", after := #[], guard := none }) (v := .slice (some ⟨w5.heap.size, 0, none⟩) 4096 4096) rfl ?_ (hv := fun W _ => ex_sl (.tmp 7) rfl w5.heap.size rfl W)
          try simp only [Act.put, List.setIfInBounds_toArray, List.set_cons_zero, List.set_cons_succ]
          refine rdY (rs := [5]) ?_
          refine rdC (i := 5) (o := { dst := some 39, op := Op.call { callee := Callee.builtin Builtin.copy, args := #[Operand.tmp 37, Operand.tmp 38], argTypes := #[31, 31] }, type := 3, pos := "reader.go:50", after := #[{ on := 3, ground := Ground.data }, { on := 4, ground := Ground.data }], guard := none }) rfl (fun K hK => ?_) AllReadyH.nil
          unfold Oper.wp
          rw [ex_cpp (.tmp 37) (.tmp 38) rfl W6.drew bk w5.heap.size old l HX.out.2.2.1 HX.out.2.2.2 (P7.out.el kk bk old HX.out.1 HX.out.2.1) PB7.out rfl rfl, Oper.upon_value]
          have hblk := P7.out.el kk bk old HX.out.1 HX.out.2.1
          have hlo := P7.out.lo kk bk HX.out.1
          have kk8 := set_row_kept (c' := byV l) hblk
          have hne8 : bk ≠ R := by omega
          have P8 := hid (P7.out.put (l := l) (by omega) HX.out.1)
          have R8 := hid (R7.out.row (cs := byV l) hne8 (fun b1 o1 e hn => by have := HLO.out b1 o1 e hn; have := HWS.out; omega) hblk)
          have K8 := hid (K7.out.then kk8 (fun q h1 h2 => by have := HWS.out; omega))
          have hS8 : (W6.drew.setRow bk (byV l)).cell? ⟨w1.heap.size, kk, none⟩ = some (slP bk) := kk8.cell hS (by omega)
          refine hK.out _ _ hS8 (fun _ => ?_)
          clear hK K hblk hlo kk8 P7 R7 K7 PB7 hS
          generalize W6.drew.setRow bk (byV l) = W8 at *
          refine wpAnyH_done (by kernel_rfl) ?_ _
          go_wp2_with fail
          refine ⟨⟨j + 1, kk + 1, by omega, by go_num, by go_num, by omega, ?_, R8, K8, ?_⟩, by simp [intOf]; omega⟩
          · exact hid (by rw [E2.out]; rfl)
          · rw [E1.out]; exact P8
        · have hjc' : ¬ (j : Int) < (cn : Int) := by omega
          obtain rfl : j = cn := by omega
          clear R3 K3 P3
          go_wp2_with fail
          go_ret
          have hlen := pgI_len zs k (List.replicate k Z, 0, st2) j
          have hl3 : (pgI zs k j (List.replicate k Z, 0, st2)).1.length = k := by rw [hlen]; simp
          exact ⟨w1.heap.size, by rw [hl3]; rfl, ⟨bl, PW.out⟩, HWS.out, RW.out, KW.out⟩
end Go.Proofs.YtbdjghokedfkfaaDoor

/-
  snap's reader: lists of frames.
-/
import Derived.Test.YtbdjghokedfkfaaDoorRe
namespace Go.Proofs.YtbdjghokedfkfaaDoor
open Go.RowKit
set_option linter.unusedVariables false
set_option maxRecDepth 100000

abbrev frCs (x : FrM) : List Value := [.int .i64 x.1, .int .i64 x.2.1, .slice x.2.2.1.1.1 x.2.2.1.1.2.1 x.2.2.1.1.2.2, .slice x.2.2.2.1.1 x.2.2.2.1.2.1 x.2.2.2.1.2.2]
abbrev zF : FrM := (0, 0, ((none, 0, 0), []), ((none, 0, 0), []))
theorem frCs_len (x : FrM) : (frCs x).length = 4 := rfl
theorem fm4_len (l : List FrM) : (l.flatMap frCs).length = l.length * 4 := by
  induction l with
  | nil => rfl
  | cons x l ih =>
    have h := frCs_len x
    rw [List.flatMap_cons, List.length_append, ih, h, List.length_cons]; omega
theorem made4 (m : Nat) : (madeCells #[.int .i64 0, .int .i64 0, .slice none 0 0, .slice none 0 0] (m * 4)).toList = (List.replicate m zF).flatMap frCs := by
  apply List.ext_getElem?
  intro j
  by_cases hj : j < m * 4
  · have hq : j % 4 < 4 := Nat.mod_lt _ (by decide)
    have e : j = j / 4 * 4 + j % 4 := by omega
    conv => rhs; rw [e]
    rw [fm_get frCs 4 frCs_len _ _ _ hq, List.getElem?_replicate, if_pos (by omega)]
    simp only [Option.bind_some]
    rw [Array.getElem?_toList]
    have h1 : (madeCells #[.int .i64 0, .int .i64 0, .slice none 0 0, .slice none 0 0] (m * 4))[j]? = some (#[Value.int .i64 0, .int .i64 0, .slice none 0 0, .slice none 0 0][j % 4]!) := by
      simp [madeCells, hj]
    rw [h1]
    have h4 : j % 4 = 0 ∨ j % 4 = 1 ∨ j % 4 = 2 ∨ j % 4 = 3 := by omega
    rcases h4 with h | h | h | h <;> rw [h] <;> rfl
  · have h1 : ((List.replicate m zF).flatMap frCs).length ≤ j := by rw [fm4_len, List.length_replicate]; omega
    have h2 : (madeCells #[.int .i64 0, .int .i64 0, .slice none 0 0, .slice none 0 0] (m * 4)).toList.length ≤ j := by rw [Array.length_toList, size_madeCells]; omega
    rw [List.getElem?_eq_none h1, List.getElem?_eq_none h2]
theorem set4 (pre : List FrM) (y : FrM) (rest : List FrM) (k : Nat) (hk : pre.length = k) :
    ((((((pre ++ zF :: rest).flatMap frCs).toArray.setIfInBounds (k * 4) (.int .i64 y.1)).setIfInBounds (k * 4 + 1) (.int .i64 y.2.1)).setIfInBounds (k * 4 + 2) (.slice y.2.2.1.1.1 y.2.2.1.1.2.1 y.2.2.1.1.2.2)).setIfInBounds (k * 4 + 3) (.slice y.2.2.2.1.1 y.2.2.2.1.2.1 y.2.2.2.1.2.2)) = (((pre ++ [y]) ++ rest).flatMap frCs).toArray := by
  have hl : (pre.flatMap frCs).length = k * 4 := by rw [fm4_len, hk]
  simp only [List.setIfInBounds_toArray]
  congr 1
  rw [List.flatMap_append, List.flatMap_cons, List.append_assoc pre [y] rest, List.flatMap_append, List.singleton_append, List.flatMap_cons]
  generalize pre.flatMap frCs = P at *
  generalize rest.flatMap frCs = Q at *
  rw [List.set_append_right _ _ (by omega), List.set_append_right _ _ (by omega), List.set_append_right _ _ (by omega), List.set_append_right _ _ (by omega)]
  rw [hl, Nat.sub_self, Nat.add_sub_cancel_left, Nat.add_sub_cancel_left, Nat.add_sub_cancel_left]
  rfl

def plF (x : FrM) : FrP := (x.1, x.2.1, x.2.2.1.2, x.2.2.2.2)
abbrev bkL (x : FrM) : Nat := x.2.2.1.1.1.elim 0 fun a => a.block
abbrev bkS (x : FrM) : Nat := x.2.2.2.1.1.elim 0 fun a => a.block
/-- Frames that were read: each has rows of its own, one behind the other. -/
structure FsA (base hi : Nat) (w : World) (ys : List FrM) : Prop where
  el : ∀ y ∈ ys, ∃ x B1 B2, y = frN x B1 B2 ∧ FrA base w x B1 B2 ∧ B2 < hi
  asc : ∀ (i j : Nat) y y', i < j → ys[i]? = some y → ys[j]? = some y' → bkS y < bkL y'
theorem FsA.keep {S : Nat → Prop} {base hi : Nat} {w w' : World} {ys : List FrM} (h : FsA base hi w ys) (hk : Kept S w w') (hs : ∀ b, base ≤ b → b < hi → ¬ S b) : FsA base hi w' ys :=
  ⟨fun y hy => by
    obtain ⟨x, B1, B2, e, hf, hl⟩ := h.el y hy
    exact ⟨x, B1, B2, e, hf.keep hk (hs B1 hf.l.lo (by have := hf.lt; omega)) (hs B2 hf.s.lo hl), hl⟩, h.asc⟩
theorem FsA.snoc {base hi hi' : Nat} {w : World} {ys : List FrM} {x : FrP} {B1 B2 : Nat} (h : FsA base hi w ys) (hf : FrA base w x B1 B2) (h1 : hi ≤ B1) (h2 : B2 < hi') : FsA base hi' w (ys ++ [frN x B1 B2]) := by
  refine ⟨fun y hy => ?_, fun i j y y' hij hy hy' => ?_⟩
  · rcases List.mem_append.1 hy with hy | hy
    · obtain ⟨x', C1, C2, e, hf', hl⟩ := h.el y hy
      exact ⟨x', C1, C2, e, hf', by have := hf.lt; omega⟩
    · obtain rfl : y = frN x B1 B2 := by simpa using hy
      exact ⟨x, B1, B2, rfl, hf, h2⟩
  · have hj := lt_of_get hy'
    rw [List.length_append, List.length_singleton] at hj
    rw [List.getElem?_append_left (by omega)] at hy
    by_cases hjl : j < ys.length
    · rw [List.getElem?_append_left hjl] at hy'
      exact h.asc i j y y' hij hy hy'
    · rw [List.getElem?_append_right (by omega)] at hy'
      obtain rfl : j = ys.length := by omega
      rw [Nat.sub_self] at hy'
      obtain rfl : frN x B1 B2 = y' := by simpa using hy'
      obtain ⟨x', C1, C2, rfl, hf', hl⟩ := h.el y (List.mem_of_getElem? hy)
      show C2 < B1
      omega
def fsR (zs : List Int) (most : Int) (st : RS) : List FrP × RS := rlR (frR zs) (nmR zs most 20 st).1.toNat (nmR zs most 20 st).2
theorem Tryd.inf43 : (Tryd.prog.info? 66).map (fun i => (i.zero, i.size, i.bytes)) = some (some (.agg #[.int .i64 0, .int .i64 0, .slice none 0 0, .slice none 0 0]), 4, 64) := by kernel_rfl

set_option maxHeartbeats 4000000 in
theorem rlF33 (R : Nat) (a : Option Addr) (n c : Nat) (zs : List Int) (st : RS) (most : Nat) (w : World) (h : Rd w R a n c zs st) (hm : most ≤ 100000) :
    Calls Tryd.prog 83 #[.pointer (some ⟨R, 0, none⟩), .int .i64 most, .func (.func 84) #[.pointer (some ⟨R, 0, none⟩)] #[]] w fun e w' => ∃ B ys, e = .returned (.slice (some ⟨B, 0, none⟩) ys.length ys.length) ∧ ys.map plF = (fsR zs most st).1 ∧ w'.heap[B]? = some (.cells (ys.flatMap frCs).toArray 66) ∧ w.heap.size ≤ B ∧ FsA (B + 1) w'.heap.size w' ys ∧ Rd w' R a n c zs (fsR zs most st).2 ∧ Kept (fun k => k = R) w w' := by
  have hl := nmR_le (st := st) h.seg.2.2.2.1 (by decide : (20 : Int) ≠ 0) (by omega : (0 : Int) ≤ most)
  have HN := hid (count44 R a n c zs st most w h hm)
  have hRl := h.lt
  have HLO := hid h.low
  have e : fsR zs most st = rlR (frR zs) (nmR zs most 20 st).1.toNat (nmR zs most 20 st).2 := rfl
  rw [e]
  clear e h
  generalize nmR zs most 20 st = p at *
  obtain ⟨V, st1⟩ := p
  dsimp only at *
  obtain ⟨m, rfl⟩ := Int.eq_ofNat_of_zero_le hl.1
  rw [Int.toNat_natCast]
  have hm1 : m ≤ 100000 := by omega
  have HV := hid (fun (W : World) (s2 : RS) (hW : Rd W R a n c zs s2) => frame34 R a n c zs s2 W hW)
  have hK : ∀ args w, (callFunc 84 args).run Tryd.prog w = .ok (.enter 84 args) w := fun _ _ => rfl
  obtain ⟨i0, hi0, hz0, hz1, hz2⟩ := info_parts Tryd.inf43
  clear hl
  go_enter Tryd.func83, Tryd.ntmps83
  go_wp2_with fail
  refine HN.out.mono ?_
  rintro e w1 ⟨rfl, h1, k1⟩
  have R1 := hid h1
  have K1 := hid k1
  clear h1 k1 HN
  have hmk : (Instr.makeSlice 22 (.int .i64 (m : Int)) (.int .i64 (m : Int))).run Tryd.prog w1 = .ok (.slice (some ⟨w1.heap.size, 0, none⟩) m m) (w1.alloc (.cells ((List.replicate m zF).flatMap frCs).toArray 66)) := by
    have := run_make (P := Tryd.prog) w1 22 66 i0 _ Tryd.underlying22 hi0 hz0 .i64 .i64 m m (by omega) (Int.le_refl _) (by rw [hz2]; omega) (by omega)
    rw [this, Int.toNat_natCast, hz1]
    have e : madeCells (Value.agg #[.int .i64 0, .int .i64 0, .slice none 0 0, .slice none 0 0]).cells (m * 4) = ((List.replicate m zF).flatMap frCs).toArray := by
      apply Array.toList_inj.1
      exact made4 m
    rw [e]
  have hb1 := below_new w1 (.cells ((List.replicate m zF).flatMap frCs).toArray 66)
  have HKB := hid (nb_new w1 (.cells ((List.replicate m zF).flatMap frCs).toArray 66))
  have RR := hid (R1.out.later hb1)
  have KK := hid (K1.out.trans (kept_R (R := R) hb1))
  have hsz : w1.heap.size < (w1.alloc (.cells ((List.replicate m zF).flatMap frCs).toArray 66)).heap.size := by simp
  have HWS := hid K1.out.size
  clear hb1 R1 K1 hz0 hz1 hz2 hi0
  go_wp2_with fail
  generalize w1.alloc (.cells ((List.replicate m zF).flatMap frCs).toArray 66) = W1 at *
  go_loopw [15] (fun i wr => ∃ (k : Nat) (ys : List FrM), k ≤ m ∧ i = .int .i64 k ∧ Hid (Rd wr R a n c zs (rlR (frR zs) k st1).2) ∧ Hid (Kept (fun k => k = R) w wr) ∧ Hid (w1.heap.size < wr.heap.size) ∧ Hid (ys.map plF = (rlR (frR zs) k st1).1) ∧ Hid (FsA (w1.heap.size + 1) wr.heap.size wr ys) ∧ Hid (wr.heap[w1.heap.size]? = some (.cells ((ys ++ List.replicate (m - k) zF).flatMap frCs).toArray 66))) (fun i _ => m - (intOf i).toNat)
  case atStart => exact ⟨0, [], by omega, rfl, RR, KK, hid hsz, hid rfl, hid ⟨fun y hy => (by cases hy), fun i j y y' _ hy => (by simp at hy)⟩, HKB⟩
  case round =>
    obtain ⟨k, ys, hk, rfl, RW, KW, SW, PW, AW, OW⟩ := hrel
    by_cases hlt : k < m
    · have hlt' : (k : Int) < (m : Int) := by omega
      have HQ := hid (HV.out wr _ RW.out)
      have hyl : ys.length = k := by
        have := congrArg List.length PW.out
        rwa [List.length_map, rlR_len] at this
      have e2 : (rlR (frR zs) (k + 1) st1).1 = (rlR (frR zs) k st1).1 ++ [(frR zs (rlR (frR zs) k st1).2).1] := rfl
      have e1 : (frR zs (rlR (frR zs) k st1).2).2 = (rlR (frR zs) (k + 1) st1).2 := rfl
      rw [e1] at HQ
      have HE2 := hid e2
      have HYL := hid hyl
      clear e1 e2 hyl
      generalize (frR zs (rlR (frR zs) k st1).2).1 = V at *
      obtain ⟨st2, hst2⟩ : ∃ q, (rlR (frR zs) (k + 1) st1).2 = q := ⟨_, rfl⟩
      rw [hst2] at HQ
      have HST2 := hid hst2
      clear hst2 HV
      go_wp2_with fail
      refine HQ.out.mono ?_
      rintro e w2 ⟨B1, B2, rfl, hf, h2, k2⟩
      have hne : w1.heap.size ≠ R := by have := HWS.out; omega
      have hbk := keep_blk k2 hne OW.out
      have HF := hid hf
      have R2 := hid h2
      have K2 := hid k2
      have hcl : ∀ q, q < 4 → ∃ u, w2.cell? ⟨w1.heap.size, k * 4 + q, none⟩ = some u := fun q hq => by
        rw [cell_at hbk]
        have hsz : k * 4 + q < (((ys ++ List.replicate (m - k) zF).flatMap frCs)).length := by rw [fm4_len, List.length_append, List.length_replicate, HYL.out]; omega
        exact ⟨_, by rw [List.getElem?_toArray]; exact List.getElem?_eq_getElem hsz⟩
      obtain ⟨u0, d0⟩ := hcl 0 (by omega)
      obtain ⟨u1, d1⟩ := hcl 1 (by omega)
      obtain ⟨u2, d2⟩ := hcl 2 (by omega)
      obtain ⟨u3, d3⟩ := hcl 3 (by omega)
      rw [Nat.add_zero] at d0
      have z0 : w2.frozen? ⟨w1.heap.size, k * 4, none⟩ = false := frzB hbk
      have z1 : w2.frozen? ⟨w1.heap.size, k * 4 + 1, none⟩ = false := frzB hbk
      have z2 : w2.frozen? ⟨w1.heap.size, k * 4 + 2, none⟩ = false := frzB hbk
      have z3 : w2.frozen? ⟨w1.heap.size, k * 4 + 3, none⟩ = false := frzB hbk
      have HBK := hid hbk
      clear hf h2 k2 hbk hcl HQ OW
      obtain ⟨v1, v2, v3, v4⟩ := V
      dsimp only at *
      go_wp2_with fail
      have hx4 : ((((w2.setCell ⟨w1.heap.size, k * 4, none⟩ (.int .i64 v1)).setCell ⟨w1.heap.size, k * 4 + 1, none⟩ (.int .i64 v2)).setCell ⟨w1.heap.size, k * 4 + 2, none⟩ (.slice (some ⟨B1, 0, none⟩) v3.length v3.length)).setCell ⟨w1.heap.size, k * 4 + 3, none⟩ (.slice (some ⟨B2, 0, none⟩) v4.length v4.length)).heap[w1.heap.size]? = some (.cells (((ys ++ [frN (v1, v2, v3, v4) B1 B2]) ++ List.replicate (m - (k + 1)) zF).flatMap frCs).toArray 66) := by
        rw [← set4 ys (frN (v1, v2, v3, v4) B1 B2) (List.replicate (m - (k + 1)) zF) k HYL.out]
        have h0 := HBK.out
        rw [show m - k = m - (k + 1) + 1 by omega, List.replicate_succ] at h0
        exact blk_set (blk_set (blk_set (blk_set h0)))
      have kk : Kept (fun q => q = w1.heap.size) w2 ((((w2.setCell ⟨w1.heap.size, k * 4, none⟩ (.int .i64 v1)).setCell ⟨w1.heap.size, k * 4 + 1, none⟩ (.int .i64 v2)).setCell ⟨w1.heap.size, k * 4 + 2, none⟩ (.slice (some ⟨B1, 0, none⟩) v3.length v3.length)).setCell ⟨w1.heap.size, k * 4 + 3, none⟩ (.slice (some ⟨B2, 0, none⟩) v4.length v4.length)) := ((kept_put.trans kept_put).trans kept_put).trans kept_put
      have hxs : ((((w2.setCell ⟨w1.heap.size, k * 4, none⟩ (.int .i64 v1)).setCell ⟨w1.heap.size, k * 4 + 1, none⟩ (.int .i64 v2)).setCell ⟨w1.heap.size, k * 4 + 2, none⟩ (.slice (some ⟨B1, 0, none⟩) v3.length v3.length)).setCell ⟨w1.heap.size, k * 4 + 3, none⟩ (.slice (some ⟨B2, 0, none⟩) v4.length v4.length)).heap.size = w2.heap.size := by simp [World.setCell]
      have hlb : ∀ b off, a = some ⟨b, off, none⟩ → 0 < n → b ≠ w1.heap.size := fun b off e hn => by have := HLO.out b off e hn; have := HWS.out; omega
      have rr : Rd ((((w2.setCell ⟨w1.heap.size, k * 4, none⟩ (.int .i64 v1)).setCell ⟨w1.heap.size, k * 4 + 1, none⟩ (.int .i64 v2)).setCell ⟨w1.heap.size, k * 4 + 2, none⟩ (.slice (some ⟨B1, 0, none⟩) v3.length v3.length)).setCell ⟨w1.heap.size, k * 4 + 3, none⟩ (.slice (some ⟨B2, 0, none⟩) v4.length v4.length)) R a n c zs st2 := (((R2.out.put hne hlb).put hne hlb).put hne hlb).put hne hlb
      have hsw := SW.out
      have hk2s := K2.out.size
      have hws := HWS.out
      have hf := HF.out
      have fa : FsA (w1.heap.size + 1) wr.heap.size w2 ys := AW.out.keep K2.out (fun b h1 h2 => by omega)
      have ff : FrA (w1.heap.size + 1) w2 (v1, v2, v3, v4) B1 B2 := ⟨hf.l.low (by omega), hf.s.low (by omega), hf.lt⟩
      have fx := (fa.snoc ff hf.l.lo hf.s.hi).keep kk (fun b h1 h2 => by omega)
      generalize ((((w2.setCell ⟨w1.heap.size, k * 4, none⟩ (.int .i64 v1)).setCell ⟨w1.heap.size, k * 4 + 1, none⟩ (.int .i64 v2)).setCell ⟨w1.heap.size, k * 4 + 2, none⟩ (.slice (some ⟨B1, 0, none⟩) v3.length v3.length)).setCell ⟨w1.heap.size, k * 4 + 3, none⟩ (.slice (some ⟨B2, 0, none⟩) v4.length v4.length)) = X at *
      refine ⟨⟨k + 1, ys ++ [frN (v1, v2, v3, v4) B1 B2], by omega, by go_num, ?_, ?_, ?_, ?_, ?_, hid hx4⟩, by simp [intOf]; omega⟩
      · rw [HST2.out]; exact hid rr
      · exact hid ((KW.out.trans K2.out).then kk (fun q h1 h2 => by omega))
      · exact hid (by omega)
      · exact hid (by rw [HE2.out, List.map_append, PW.out]; rfl)
      · rw [hxs]; exact hid fx
    · have hlt' : ¬ (k : Int) < (m : Int) := by omega
      obtain rfl : k = m := by omega
      clear HV
      go_wp2_with fail
      go_ret
      have hyl : ys.length = k := by
        have := congrArg List.length PW.out
        rwa [List.length_map, rlR_len] at this
      refine ⟨w1.heap.size, ys, by rw [hyl]; rfl, PW.out, ?_, HWS.out, AW.out, RW.out, KW.out⟩
      have := OW.out
      rw [Nat.sub_self] at this
      simpa using this
end Go.Proofs.YtbdjghokedfkfaaDoor

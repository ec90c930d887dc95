/-
  snap's reader: lists of numbers; a frame.
-/
import Derived.Test.YtbdjghokedfkfaaDoorRb
import Derived.Deep.OwnRows
namespace Go.Proofs.YtbdjghokedfkfaaDoor
open Go.RowKit
set_option linter.unusedVariables false
set_option maxRecDepth 100000

/-- So many things, one after the other. -/
def rlR {α : Type} (f : RS → α × RS) : Nat → RS → List α × RS
  | 0, st => ([], st)
  | k + 1, st => ((rlR f k st).1 ++ [(f (rlR f k st).2).1], (f (rlR f k st).2).2)
theorem rlR_len {α : Type} (f : RS → α × RS) : ∀ (k : Nat) (st : RS), (rlR f k st).1.length = k
  | 0, st => rfl
  | k + 1, st => by simp [rlR, rlR_len f k st]
def vlR (zs : List Int) (st : RS) : Int × RS := nmR zs 18446744073709551615 0 st
/-- A list of numbers, at most so many. -/
def lsR (zs : List Int) (most : Int) (st : RS) : List Int × RS := rlR (vlR zs) (nmR zs most 20 st).1.toNat (nmR zs most 20 st).2

theorem Tryd.inf40 : (Tryd.prog.info? 63).map (fun i => (i.zero, i.size, i.bytes)) = some (some (.int .u64 0), 1, 8) := by kernel_rfl

/-- What a list that was read is: a row of its own. -/
structure RwU (base : Nat) (w : World) (B : Nat) (l : List Int) : Prop where
  own : w.ownsRow base 63 1 (.slice (some ⟨B, 0, none⟩) l.length l.length) l.length (l.map (Value.int .u64))
  lo : base ≤ B
  hi : B < w.heap.size

theorem Rd.low {w : World} {R : Nat} {a : Option Addr} {n c : Nat} {zs : List Int} {st : RS} (h : Rd w R a n c zs st) : ∀ b off, a = some ⟨b, off, none⟩ → 0 < n → b < w.heap.size := fun b off e hn => by
  obtain ⟨b', off', e', hc⟩ := h.seg.2.2.2.2.resolve_left (by omega)
  rw [e] at e'
  cases e'
  exact block_lt_of_cell (hc 0 hn)
/-- A store beside it. -/
theorem Rd.put {w : World} {R B i : Nat} {v : Value} {a : Option Addr} {n c : Nat} {zs : List Int} {st : RS} (h : Rd w R a n c zs st) (hB : B ≠ R) (hb : ∀ b off, a = some ⟨b, off, none⟩ → 0 < n → b ≠ B) : Rd (w.setCell ⟨B, i, none⟩ v) R a n c zs st := by
  have hk : Kept (fun k => k = B) w (w.setCell ⟨B, i, none⟩ v) := ⟨rfl, rfl, rfl, by simp [World.setCell], fun k hk hs => Below.heap_setCell _ _ _ _ (by simpa using hs)⟩
  refine ⟨hk.cell h.c0 (by omega), hk.cell h.c1 (by omega), hk.cell h.c2 (by omega), ?_, ?_, ⟨h.seg.1, h.seg.2.1, h.seg.2.2.1, h.seg.2.2.2.1, ?_⟩, h.ap, h.rg⟩
  · rw [World.frozen?_setCell]; exact h.f1
  · rw [World.frozen?_setCell]; exact h.f2
  · by_cases h0 : n = 0
    · exact .inl h0
    · exact h.seg.2.2.2.2.imp id fun ⟨b, off, e, hx⟩ => ⟨b, off, e, fun j hj => hk.cell (hx j hj) (hb b off e (by omega))⟩
theorem kept_put {w : World} {B i : Nat} {v : Value} : Kept (fun k => k = B) w (w.setCell ⟨B, i, none⟩ v) := ⟨rfl, rfl, rfl, by simp [World.setCell], fun k hk hs => Below.heap_setCell _ _ _ _ (by simpa using hs)⟩
theorem Kept.two {R B : Nat} {w W W' : World} (h1 : Kept (fun k => k = R) w W) (h2 : Kept (fun k => k = R ∨ k = B) W W') (hB : w.heap.size ≤ B) : Kept (fun k => k = R) w W' :=
  h1.then h2 (fun k hk h => by rcases h with h | h; exact h; omega)

set_option maxHeartbeats 4000000 in
theorem rlU30 (R : Nat) (a : Option Addr) (n c : Nat) (zs : List Int) (st : RS) (most : Nat) (w : World) (h : Rd w R a n c zs st) (hm : most ≤ 100000) :
    Calls Tryd.prog 80 #[.pointer (some ⟨R, 0, none⟩), .int .i64 most, .func (.func 81) #[.pointer (some ⟨R, 0, none⟩)] #[]] w fun e w' => ∃ B, e = .returned (.slice (some ⟨B, 0, none⟩) (lsR zs most st).1.length (lsR zs most st).1.length) ∧ RwU w.heap.size w' B (lsR zs most st).1 ∧ Rd w' R a n c zs (lsR zs most st).2 ∧ Kept (fun k => k = R) w w' := by
  have hl := nmR_le (st := st) h.seg.2.2.2.1 (by decide : (20 : Int) ≠ 0) (by omega : (0 : Int) ≤ most)
  have HN := hid (count44 R a n c zs st most w h hm)
  have hRl := h.lt
  have HLO := hid h.low
  have e : lsR zs most st = rlR (vlR zs) (nmR zs most 20 st).1.toNat (nmR zs most 20 st).2 := rfl
  rw [e]
  clear e h
  generalize nmR zs most 20 st = p at *
  obtain ⟨V, st1⟩ := p
  dsimp only at *
  obtain ⟨m, rfl⟩ := Int.eq_ofNat_of_zero_le hl.1
  rw [Int.toNat_natCast]
  have hm1 : m ≤ 100000 := by omega
  have HV := hid (fun (W : World) (s2 : RS) (hW : Rd W R a n c zs s2) => value31 R a n c zs s2 W hW)
  have hK : ∀ args w, (callFunc 81 args).run Tryd.prog w = .ok (.enter 81 args) w := fun _ _ => rfl
  clear hl
  go_enter Tryd.func80, Tryd.ntmps80
  go_wp2_with fail
  refine HN.out.mono ?_
  rintro e w1 ⟨rfl, h1, k1⟩
  have R1 := hid h1
  have K1 := hid k1
  clear h1 k1 HN
  have hmk := run_make_row' (P := Tryd.prog) 23 63 (.int .u64 0) 8 Tryd.underlying23 Tryd.inf40 rfl .i64 .i64 m (by omega) (by omega) w1
  have hb1 := below_new w1 (.cells (madeCells #[.int .u64 0] m) 63)
  have hkb : (w1.alloc (.cells (madeCells #[.int .u64 0] m) 63)).heap[w1.heap.size]? = some (.cells (madeCells #[.int .u64 0] m) 63) := nb_new _ _
  have hmc : (madeCells #[.int .u64 0] m).toList = List.replicate m (.int .u64 0) := toList_madeCells_one _ _
  have hR1 := R1.out.lt
  have O0 := hid (show (w1.alloc (.cells (madeCells #[.int .u64 0] m) 63)).ownsRow w.heap.size 63 1 (.slice (some ⟨w1.heap.size, 0, none⟩) m m) m (((rlR (vlR zs) 0 st1).1 ++ List.replicate (m - 0) 0).map (Value.int .u64)) from
    ⟨by simp [rlR], .inr ⟨w1.heap.size, m, _, rfl, K1.out.size, hkb, Nat.le_refl _, by unfold maxLen; omega, by rw [← Array.length_toList, hmc]; simp, by rw [hmc]; simp [rlR]⟩⟩)
  have RR := hid (R1.out.later hb1)
  have KK := hid (K1.out.trans (kept_R (R := R) hb1))
  have hsz : w1.heap.size < (w1.alloc (.cells (madeCells #[.int .u64 0] m) 63)).heap.size := by simp
  have HWS := hid K1.out.size
  clear hb1 hkb hmc R1 K1
  go_wp2_with fail
  generalize w1.alloc (.cells (madeCells #[.int .u64 0] m) 63) = W1 at *
  go_loopw [15] (fun i wr => ∃ (k : Nat), k ≤ m ∧ i = .int .i64 k ∧ Hid (Rd wr R a n c zs (rlR (vlR zs) k st1).2) ∧ Hid (Kept (fun k => k = R) w wr) ∧ Hid (w1.heap.size < wr.heap.size) ∧ Hid (wr.ownsRow w.heap.size 63 1 (.slice (some ⟨w1.heap.size, 0, none⟩) m m) m (((rlR (vlR zs) k st1).1 ++ List.replicate (m - k) 0).map (Value.int .u64)))) (fun i _ => m - (intOf i).toNat)
  case atStart => exact ⟨0, by omega, rfl, RR, KK, hid hsz, O0⟩
  case round =>
    obtain ⟨k, hk, rfl, RW, KW, SW, OW⟩ := hrel
    by_cases hlt : k < m
    · have hlt' : (k : Int) < (m : Int) := by omega
      have HQ := hid (HV.out wr _ RW.out)
      have e1 : (nmR zs 18446744073709551615 0 (rlR (vlR zs) k st1).2).2 = (rlR (vlR zs) (k + 1) st1).2 := rfl
      have e2 : (rlR (vlR zs) (k + 1) st1).1 = (rlR (vlR zs) k st1).1 ++ [(nmR zs 18446744073709551615 0 (rlR (vlR zs) k st1).2).1] := rfl
      rw [e1] at HQ
      have HE2 := hid e2
      have HLN := hid (rlR_len (vlR zs) k st1)
      clear e1 e2
      generalize (nmR zs 18446744073709551615 0 (rlR (vlR zs) k st1).2).1 = V at *
      obtain ⟨st2, hst2⟩ : ∃ q, (rlR (vlR zs) (k + 1) st1).2 = q := ⟨_, rfl⟩
      rw [hst2] at HQ
      have HST2 := hid hst2
      clear hst2
      clear HV
      go_wp2_with fail
      refine HQ.out.mono ?_
      rintro e w2 ⟨rfl, h2, k2⟩
      have hne : w1.heap.size ≠ R := by omega
      have O2 := own_keepB OW.out k2 (fun q hq hh => by
        have : w1.heap.size = q := by simpa [Value.ownBlock] using hq
        omega)
      have hcell : ∃ u, w2.cell? ⟨w1.heap.size, k, none⟩ = some u := by
        have h1 := O2.cellAt k (by omega)
        exact ⟨_, h1.trans (List.getElem?_eq_getElem (by simp [HLN.out]; omega))⟩
      obtain ⟨u0, hcell⟩ := hcell
      have hfz := O2.frozenAt k
      have HST := hid (O2.stored k (.int .u64 V))
      have R2 := hid h2
      have K2 := hid k2
      have SZ := hid (show w1.heap.size < w2.heap.size by have := k2.size; have := SW.out; omega)
      clear h2 k2 HQ O2
      go_wp2_with fail
      have hput : ((((rlR (vlR zs) k st1).1 ++ List.replicate (m - k) 0).map (Value.int .u64)).set k (.int .u64 V)) = ((rlR (vlR zs) (k + 1) st1).1 ++ List.replicate (m - (k + 1)) 0).map (Value.int .u64) := by
        rw [HE2.out, show m - k = m - (k + 1) + 1 by omega]
        rw [← List.map_set]
        congr 1
        rw [List.set_append_right _ _ (by rw [HLN.out]; omega), HLN.out]
        simp [List.replicate_succ]
      have hs := HST.out.1
      rw [hput] at hs
      refine ⟨⟨k + 1, by omega, by go_num, ?_, ?_, ?_, hid hs⟩, by simp [intOf]; omega⟩
      · rw [HST2.out]
        exact hid (R2.out.put hne (fun b off e hn => by have := HLO.out b off e hn; have := HWS.out; omega))
      · exact hid ((KW.out.trans K2.out).then kept_put (fun q h1 h2 => by have := HWS.out; omega))
      · exact hid (by have := SZ.out; simpa [World.setCell] using this)
    · have hlt' : ¬ (k : Int) < (m : Int) := by omega
      obtain rfl : k = m := by omega
      clear HV
      go_wp2_with fail
      go_ret
      have hl2 := rlR_len (vlR zs) k st1
      refine ⟨w1.heap.size, by rw [hl2]; rfl, ⟨?_, HWS.out, SW.out⟩, RW.out, KW.out⟩
      have := OW.out
      rw [Nat.sub_self] at this
      rw [hl2]
      simpa using this
end Go.Proofs.YtbdjghokedfkfaaDoor

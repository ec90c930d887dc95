/-
  The document's reader: lists of numbers.
-/
import Derived.Test.YtbdjghokedfkfaaDoorKc
namespace Go.Proofs.YtbdjghokedfkfaaDoor
open Go.RowKit
set_option linter.unusedVariables false
set_option maxRecDepth 100000

theorem own_belowT {w w' : World} {base n size : Nat} {e : TypeId} {v : Value} {xs : List Value} (hown : w.ownsRow base e size v n xs) (hg : w.grownBy w' v.ownBlock) (hbase : base ≤ w.heap.size) : Below base w w' := by
  refine ⟨hg.os, hg.tape, hg.output, hg.size, fun k hk => hg.block k (by omega) (fun h => ?_)⟩
  rcases hown.2 with ⟨rfl, _⟩ | ⟨g, cap, cur, rfl, hb, _⟩
  · cases h
  · have : k = g := by simpa [Value.ownBlock] using h
    omega
theorem nm_any {zs : List Int} (hz : ∀ z ∈ zs, 0 ≤ z ∧ z ≤ 255) (x y : Int) (st : RS) : nmR zs 18446744073709551615 x st = nmR zs 18446744073709551615 y st := by
  have hr := (ruAt_range zs st.1 hz).2.1
  have h : ∀ x, nmE zs 18446744073709551615 x st.1 = (ruAt zs st.1).2.2 := fun x => by
    unfold nmE
    rw [if_neg (by omega)]
  unfold nmR
  rw [h x, h y]
theorem vl_stuck {zs : List Int} {st : RS} (h : st.2 ≠ 0) : vlR zs st = (0, st) := by
  unfold vlR nmR tkR
  rw [if_neg h]
theorem rl_stuck {α : Type} {f : RS → α × RS} (hf : ∀ st : RS, st.2 ≠ 0 → (f st).2 = st) {k : Nat} {st : RS} (h : (rlR f k st).2.2 ≠ 0) : ∀ j, (rlR f (k + j) st).2 = (rlR f k st).2
  | 0 => rfl
  | j + 1 => by
    have ih := rl_stuck hf h j
    show (f (rlR f (k + j) st).2).2 = _
    rw [ih]
    exact hf _ h
/-- A list's answer. -/
def VlA (R : Nat) (a : Option Addr) (n c : Nat) (zs : List Int) (p : List Int × RS) (w : World) : Ending → World → Prop := fun e w' => ∃ v q', e = .returned v ∧ (∃ va vn vc, v = .slice va vn vc) ∧ (p.2.2 = 0 → w'.ownsRow w.heap.size 63 1 v p.1.length (p.1.map (Value.int .u64))) ∧ Rq w' R a n c zs p.2 q' ∧ Kept (fun k => k = R) w w'
theorem vlA_mk {R : Nat} {a : Option Addr} {n c : Nat} {zs : List Int} {p : List Int × RS} {w w' : World} {e : Ending} {va : Option Addr} {vn vc : Nat} {q' : Int × Int × Int} (he : e = .returned (.slice va vn vc)) (h1 : p.2.2 = 0 → w'.ownsRow w.heap.size 63 1 (.slice va vn vc) p.1.length (p.1.map (Value.int .u64))) (h2 : Rq w' R a n c zs p.2 q') (h3 : Kept (fun k => k = R) w w') : VlA R a n c zs p w e w' := ⟨_, q', he, ⟨_, _, _, rfl⟩, h1, h2, h3⟩
set_option maxHeartbeats 4000000 in
theorem rvls58 (R : Nat) (a : Option Addr) (n c : Nat) (zs : List Int) (st : RS) (q : Int × Int × Int) (most : Nat) (w : World) (h : Rq w R a n c zs st q) (hm : most ≤ 100000) :
    Calls Tryd.prog 58 #[.pointer (some ⟨R, 0, none⟩), .int .u64 most] w (VlA R a n c zs (lsR zs most st) w) := by
  have hz := h.seg.2.2.2.1
  have hl := nmR_le (st := st) hz (by decide : (20 : Int) ≠ 0) (by omega : (0 : Int) ≤ most)
  have HN := hid (rnum57 R a n c zs st q most 20 w h (.inl (by decide)))
  have e : lsR zs most st = rlR (vlR zs) (nmR zs most 20 st).1.toNat (nmR zs most 20 st).2 := rfl
  rw [e]
  have HZ := hid hz
  have hRl := nb_lt h.blk
  have HLO := hid (show ∀ b off, a = some ⟨b, off, none⟩ → 0 < n → b < w.heap.size from fun b off e hn => by
    obtain ⟨b', off', e', hc⟩ := h.seg.2.2.2.2.resolve_left (by omega)
    rw [e] at e'
    have := hc 0 hn
    have hb := block_lt_of_cell this
    simp at e' hb
    omega)
  clear e h hz
  generalize nmR zs most 20 st = p at *
  obtain ⟨V, st1⟩ := p
  dsimp only at *
  obtain ⟨m, rfl⟩ := Int.eq_ofNat_of_zero_le hl.1
  rw [Int.toNat_natCast]
  have hm1 : m ≤ 100000 := by omega
  have HV := hid (fun (W : World) (s2 : RS) (q2 : Int × Int × Int) (hW : Rq W R a n c zs s2 q2) => (show Calls Tryd.prog 57 #[.pointer (some ⟨R, 0, none⟩), .int .u64 18446744073709551615, .int .i64 17] W fun e w' => ∃ q', e = .returned (.int .u64 (vlR zs s2).1) ∧ Rq w' R a n c zs (vlR zs s2).2 q' ∧ Kept (fun k => k = R) W w' from by
    have := rnum57 R a n c zs s2 q2 18446744073709551615 17 W hW (.inr rfl)
    rw [nm_any HZ.out 17 0 s2] at this
    exact this))
  have HSK := hid (fun (k j : Nat) (hk : (rlR (vlR zs) k st1).2.2 ≠ 0) => rl_stuck (f := vlR zs) (fun s hs => by rw [vl_stuck hs]) hk j)
  obtain ⟨i0, hi0, hz0, hz1, hz2⟩ := info_parts Tryd.inf40
  clear hl
  go_enter Tryd.func58, Tryd.ntmps58
  go_wp2_with fail
  refine HN.out.mono ?_
  rintro e w1 ⟨q1, rfl, h1, k1⟩
  have R1 := hid (show ∃ q, Rq w1 R a n c zs (rlR (vlR zs) 0 st1).2 q from ⟨q1, h1⟩)
  have K1 := hid k1
  have O1 := hid (show w1.ownsRow w.heap.size 63 1 (.slice none 0 0) 0 ((rlR (vlR zs) 0 st1).1.map (Value.int .u64)) from World.ownsRow_nil _ _ _ _)
  have B1 := hid k1.size
  clear h1 k1 HN
  go_wp2_with fail
  go_loopw [5, 7] (fun l i wr => ∃ k : Nat, k ≤ m ∧ i = .int .u64 k ∧ Hid (∃ q, Rq wr R a n c zs (rlR (vlR zs) k st1).2 q) ∧ Hid (wr.ownsRow w.heap.size 63 1 l k ((rlR (vlR zs) k st1).1.map (Value.int .u64))) ∧ Hid (Kept (fun k => k = R) w wr)) (fun _ i _ => m - (intOf i).toNat)
  case atStart => exact ⟨0, by omega, rfl, R1, O1, K1⟩
  clear R1 K1 O1
  case round =>
    obtain ⟨k, hk, rfl, RW, OW, KW⟩ := hrel
    obtain ⟨q2, hq2⟩ := RW.out
    by_cases hlt : k < m
    · have hlt' : (k : Int) < (m : Int) := by omega
      have c2 : wr.cell? ⟨R, 2, none⟩ = some (.int .i64 q2.2.1) := cell_at hq2.blk
      by_cases hs : (rlR (vlR zs) k st1).2.2 = 0
      · have hq0 : q2.2.1 = 0 := by
          rcases hq2.rl with ⟨_, h1, _⟩ | ⟨h1, _⟩
          · exact h1
          · exact absurd hs h1
        rw [hq0] at c2
        have HVk := hid (HV.out wr _ q2 hq2)
        have e2 : (rlR (vlR zs) (k + 1) st1).1 = (rlR (vlR zs) k st1).1 ++ [(vlR zs (rlR (vlR zs) k st1).2).1] := rfl
        have e1 : (vlR zs (rlR (vlR zs) k st1).2).2 = (rlR (vlR zs) (k + 1) st1).2 := rfl
        rw [e1] at HVk
        have HE2 := hid e2
        clear e1 e2 hq2 RW hs hq0
        generalize (vlR zs (rlR (vlR zs) k st1).2).1 = V at *
        generalize hst2 : (rlR (vlR zs) (k + 1) st1).2 = st2 at *
        have HST2 := hid hst2
        clear hst2
        obtain ⟨ua, uc, rfl, _⟩ := own_sl OW.out
        go_wp2_with fail
        refine HVk.out.mono ?_
        rintro e w2 ⟨q3, rfl, h3, k3⟩
        have R3 := hid h3
        have K3 := hid (KW.out.trans k3)
        have O3 := hid (own_keepB OW.out k3 (fun b hb h => by have := (own_ty OW.out hb).1; omega))
        have hs2 := k3.size
        have hws := KW.out.size
        clear h3 k3 HVk OW KW
        have b4 := below_new w2 (.cells #[.int .u64 V] 63)
        have O4 := hid (own_keepB O3.out (kept_of (S := fun _ => False) b4) (fun _ _ h => h))
        have R4 := hid (R3.out.later b4)
        have K4 := hid (K3.out.trans (kept_of (S := fun k => k = R) b4))
        have HU := hid (one_cell w2 w2.heap.size (.int .u64 V) 63 rfl)
        have hs4 : (w2.alloc (.cells #[.int .u64 V] 63)).heap.size = w2.heap.size + 1 := by simp
        clear b4 O3 R3 K3
        go_wp2_with (first | (at_builtin; refine wpList_append_own _ rfl (.tmp 23) (.tmp 26) 23 rfl w.heap.size 63 i0 (.int .u64 0) 1 8 Tryd.underlying23 hi0 hz0 hz1 hz2 rfl (by decide) _ k _ rfl O4.out ⟨w2.heap.size, 0, none⟩ 1 1 [.int .u64 V] rfl rfl HU.out (by intro u hu; simp at hu; subst hu; rfl) (by unfold maxLen; omega) (by omega) (by omega) ?_; intro v' w5 hown hg hdrop; clear hdrop; have HO := hid hown; have HG := hid hg; clear hown hg))
        have hb5 : Below w.heap.size (w2.alloc (.cells #[.int .u64 V] 63)) w5 := own_belowT O4.out HG.out (by omega)
        have hk5 : Kept (fun k => k ≠ R ∧ w.heap.size ≤ k) (w2.alloc (.cells #[.int .u64 V] 63)) w5 := ⟨hb5.os, hb5.tape, hb5.output, hb5.size, fun b hb hS => by
          by_cases hbR : b = R
          · exact hb5.block b (by omega)
          · exact hb5.block b (by have : ¬ (w.heap.size ≤ b) := fun hh => hS ⟨hbR, hh⟩; omega)⟩
        have hsg : Seg w5 a n c zs := by
          obtain ⟨g1, g2, g3, g4, g5⟩ := R4.out.seg
          refine ⟨g1, g2, g3, g4, ?_⟩
          rcases g5 with g5 | ⟨b, off, he, hc⟩
          · exact .inl g5
          · exact .inr ⟨b, off, he, fun j hj => (hb5.cell (show (⟨b, off + j, none⟩ : Addr).block < w.heap.size from HLO.out b off he (by omega))).trans (hc j hj)⟩
        have R5 := hid (show Rq w5 R a n c zs st2 q3 from ⟨R4.out.rl, (hb5.block R hRl).trans R4.out.blk, hsg, R4.out.ne, R4.out.rg⟩)
        have K5 := hid (K4.out.then (Kept.of_below hb5) (fun b hb hS => absurd hS (by omega)))
        have O5 := hid (show w5.ownsRow w.heap.size 63 1 v' (k + 1) ((rlR (vlR zs) (k + 1) st1).1.map (Value.int .u64)) from by rw [HE2.out, List.map_append]; exact HO.out)
        exact ⟨⟨k + 1, by omega, by go_num, by rw [HST2.out]; exact hid ⟨q3, R5.out⟩, O5, K5⟩, by simp [intOf]; omega⟩
      · have hq0 : q2.2.1 = (rlR (vlR zs) k st1).2.2 := by
          rcases hq2.rl with ⟨h1, _⟩ | ⟨_, h1, _⟩
          · exact absurd h1 hs
          · exact h1
        have hb : (q2.2.1 == 0) = false := by rw [hq0]; simp [hs]
        have hjj := HSK.out k (m - k) hs
        rw [show k + (m - k) = m by omega] at hjj
        obtain ⟨ua, uc, rfl, _⟩ := own_sl OW.out
        have HJ := hid hjj
        have HQ2 := hid hq2
        have HS := hid hs
        clear hjj hq2 hs hq0 RW
        go_wp2_with fail
        go_ret
        refine vlA_mk (q' := q2) rfl (fun h0 => ?_) (by rw [HJ.out]; exact HQ2.out) KW.out
        rw [HJ.out] at h0
        exact absurd h0 HS.out
    · have hlt' : ¬ (k : Int) < (m : Int) := by omega
      obtain rfl : k = m := by omega
      obtain ⟨ua, uc, rfl, _⟩ := own_sl OW.out
      go_wp2_with fail
      go_ret
      exact vlA_mk (q' := q2) rfl (fun _ => by rw [rlR_len]; exact OW.out) hq2 KW.out
end Go.Proofs.YtbdjghokedfkfaaDoor

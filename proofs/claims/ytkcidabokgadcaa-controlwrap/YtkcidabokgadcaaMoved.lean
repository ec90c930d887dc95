/-
  The walks over moved and named.
-/
import Derived.Test.YtkcidabokgadcaaWrapN
import Derived.Test.YtkcidabokgadcaaCopyC
namespace Go.Proofs.Ytkcidabokgadcaa
open Go.RowKit
set_option linter.unusedVariables false

/-- A place one further on. -/
def mz (N : Int) (r : Bool) (z : Int) : Int := if z = N ∧ r = true then N + 2 else if z = -1 then -1 else z + 1
theorem mz_mv (n : Nat) (r : Bool) : mz n r = mv n r := rfl
theorem mz_sh (N : Int) : mz N false = sh := by funext z; unfold mz sh; rw [if_neg (fun h => by cases h.2)]
theorem take_map_succ {zs : List Int} {k : Nat} (f : Int → Int) (hk : k < zs.length) : (zs.take (k + 1)).map f = (zs.take k).map f ++ [f (zs.getD k 0)] := by
  rw [List.take_add_one, List.map_append, List.getElem?_eq_getElem hk, List.getD_eq_getElem?_getD, List.getElem?_eq_getElem hk]
  rfl

set_option maxRecDepth 100000 in
set_option maxHeartbeats 2000000 in
theorem moved (a : Option Addr) (m c : Nat) (zs : List Int) (N : Int) (r : Bool) (w : World) (h : SegI w a m c zs) (hm : m ≤ 1000000) (hN : -2 ≤ N ∧ N ≤ 1000000) (hz : ∀ z ∈ zs, -1 ≤ z ∧ z ≤ 1000000) :
    Calls Try.prog 13 #[.slice a m c, .int .i64 N, .bool r] w fun e w' => ∃ v, e = .returned v ∧ LI w' w.heap.size v (zs.map (mz N r)) ∧ Below w.heap.size w w' := by
  have hlen := h.1
  have HS := hid h
  have HZ := hid hz
  have HLEN := hid hlen
  clear h hz hlen
  go_enter Try.func13, Try.ntmps13
  go_wp2_with fail
  go_loopw [7, 8] (fun v p wr => ∃ k : Nat, k ≤ m ∧ p = .int .i64 k ∧ LI wr w.heap.size v ((zs.take k).map (mz N r)) ∧ Below w.heap.size w wr) (fun _ p _ => m - (intOf p).toNat)
  case atStart => exact ⟨0, by omega, rfl, LI.nil _ _, Below.refl _ _⟩
  case round =>
    obtain ⟨k, hk, rfl, hL, hb⟩ := hrel
    obtain ⟨va, vc, rfl⟩ := hL.slice
    have hsz := hb.size
    by_cases hkm : k < m
    · have hlen := HLEN.out
      obtain ⟨b, off, rfl, hcell⟩ := (HS.out.later hb (Nat.le_refl _)).2.2.2.2.resolve_left (by omega)
      have d1 := hcell k hkm
      have hts := take_map_succ (mz N r) (show k < zs.length by omega)
      have hzr := HZ.out (zs.getD k 0) (by rw [List.getD_eq_getElem?_getD, List.getElem?_eq_getElem (show k < zs.length by omega)]; exact List.getElem_mem _)
      have hll : ((zs.take k).map (mz N r)).length ≤ 1073741824 := by simp; omega
      have hkm' : (k : Int) < (m : Int) := by omega
      generalize zs.getD k 0 = z at *
      have key : ∀ (u : Int), u = mz N r z → LI (wr.alloc (.cells #[.int .i64 u] 3)) w.heap.size (.slice va ((zs.take k).map (mz N r)).length vc) ((zs.take k).map (mz N r)) ∧ Below w.heap.size w (wr.alloc (.cells #[.int .i64 u] 3)) ∧ w.heap.size ≤ (wr.alloc (.cells #[.int .i64 u] 3)).heap.size := fun u _ =>
        ⟨hL.later ((Below.refl wr.heap.size wr).alloc (Nat.le_refl _) _) (Nat.le_refl _), hb.alloc (by omega) _, by simp; omega⟩
      have fin : ∀ (u : Int) (a2 : Option Addr) (c2 : Nat) (w2 : World), u = mz N r z → ∀ q, LI w2 w.heap.size (.slice a2 q c2) ((zs.take k).map (mz N r) ++ [u]) → LI w2 w.heap.size (.slice a2 q c2) ((zs.take (k + 1)).map (mz N r)) := fun u a2 c2 w2 hu q hl => by rw [hts, ← hu]; exact hl
      have KEY := hid key
      have FIN := hid fin
      generalize hT : (zs.take k).map (mz N r) = T at *
      clear hL hb hcell key fin hlen hts hT
      by_cases hzN : z = N ∧ r = true
      · obtain ⟨e1, e2⟩ := hzN
        have hu : N + 2 = mz N r z := by unfold mz; rw [if_pos ⟨e1, e2⟩]
        obtain ⟨K1, K2, K3⟩ := KEY.out (N + 2) hu
        have HK1 := hid K1
        have HK2 := hid K2
        have HU := hid hu
        subst e2
        have q1 : (z == N) = true := by simpa using e1
        clear K1 K2 hu e1
        go_wp2_with (first
          | (at_builtin; refine app_int _ rfl (.tmp 24) (.tmp 27) rfl w.heap.size _ T rfl HK1.out K3 ⟨wr.heap.size, 0, none⟩ (N + 2) rfl (by simp [Addr.add]) hll ?_; intro B1 cap1 w2 hL2 hB2 hb2; have HL2 := hid hL2; have HB2 := hid hb2; clear hL2 hb2))
        exact ⟨⟨k + 1, by omega, by go_num, FIN.out _ _ _ _ HU.out _ HL2.out, HK2.out.trans HB2.out⟩, by simp [intOf]; omega⟩
      · by_cases hz1 : z = -1
        · have hu : (-1 : Int) = mz N r z := by unfold mz; rw [if_neg hzN, if_pos hz1]
          obtain ⟨K1, K2, K3⟩ := KEY.out (-1) hu
          have HK1 := hid K1
          have HK2 := hid K2
          have HU := hid hu
          subst hz1
          have q1 : ((-1 : Int) == N) = false ∨ r = false := by
            by_cases e : (-1 : Int) = N
            · right; by_cases h : r = true
              · exact absurd ⟨e, h⟩ hzN
              · simpa using h
            · left; simpa using e
          clear K1 K2 hu hzN
          rcases q1 with q1 | q1
          · go_wp2_with (first
              | (at_builtin; refine app_int _ rfl (.tmp 34) (.tmp 35) rfl w.heap.size _ T rfl HK1.out K3 ⟨wr.heap.size, 0, none⟩ (-1) rfl (by simp [Addr.add]) hll ?_; intro B1 cap1 w2 hL2 hB2 hb2; have HL2 := hid hL2; have HB2 := hid hb2; clear hL2 hb2))
            exact ⟨⟨k + 1, by omega, by go_num, FIN.out _ _ _ _ HU.out _ HL2.out, HK2.out.trans HB2.out⟩, by simp [intOf]; omega⟩
          · subst q1
            by_cases e : (-1 : Int) = N
            · subst e
              go_wp2_with (first
                | (at_builtin; refine app_int _ rfl (.tmp 34) (.tmp 35) rfl w.heap.size _ T rfl HK1.out K3 ⟨wr.heap.size, 0, none⟩ (-1) rfl (by simp [Addr.add]) hll ?_; intro B1 cap1 w2 hL2 hB2 hb2; have HL2 := hid hL2; have HB2 := hid hb2; clear hL2 hb2))
              exact ⟨⟨k + 1, by omega, by go_num, FIN.out _ _ _ _ HU.out _ HL2.out, HK2.out.trans HB2.out⟩, by simp [intOf]; omega⟩
            · have q1 : ((-1 : Int) == N) = false := by simpa using e
              clear e
              go_wp2_with (first
                | (at_builtin; refine app_int _ rfl (.tmp 34) (.tmp 35) rfl w.heap.size _ T rfl HK1.out K3 ⟨wr.heap.size, 0, none⟩ (-1) rfl (by simp [Addr.add]) hll ?_; intro B1 cap1 w2 hL2 hB2 hb2; have HL2 := hid hL2; have HB2 := hid hb2; clear hL2 hb2))
              exact ⟨⟨k + 1, by omega, by go_num, FIN.out _ _ _ _ HU.out _ HL2.out, HK2.out.trans HB2.out⟩, by simp [intOf]; omega⟩
        · have hu : z + 1 = mz N r z := by unfold mz; rw [if_neg hzN, if_neg hz1]
          obtain ⟨K1, K2, K3⟩ := KEY.out (z + 1) hu
          have HK1 := hid K1
          have HK2 := hid K2
          have HU := hid hu
          have q2 : (z == -1) = false := by simpa using hz1
          have q1 : (z == N) = false ∨ ((z == N) = true ∧ r = false) := by
            by_cases e : z = N
            · right; refine ⟨by simpa using e, ?_⟩
              by_cases h : r = true
              · exact absurd ⟨e, h⟩ hzN
              · simpa using h
            · left; simpa using e
          clear K1 K2 hu hzN hz1
          rcases q1 with q1 | ⟨q1, q3⟩
          · go_wp2_with (first
              | (at_builtin; refine app_int _ rfl (.tmp 37) (.tmp 43) rfl w.heap.size _ T rfl HK1.out K3 ⟨wr.heap.size, 0, none⟩ (z + 1) rfl (by simp [Addr.add]) hll ?_; intro B1 cap1 w2 hL2 hB2 hb2; have HL2 := hid hL2; have HB2 := hid hb2; clear hL2 hb2))
            exact ⟨⟨k + 1, by omega, by go_num, FIN.out _ _ _ _ HU.out _ HL2.out, HK2.out.trans HB2.out⟩, by simp [intOf]; omega⟩
          · subst q3
            go_wp2_with (first
              | (at_builtin; refine app_int _ rfl (.tmp 37) (.tmp 43) rfl w.heap.size _ T rfl HK1.out K3 ⟨wr.heap.size, 0, none⟩ (z + 1) rfl (by simp [Addr.add]) hll ?_; intro B1 cap1 w2 hL2 hB2 hb2; have HL2 := hid hL2; have HB2 := hid hb2; clear hL2 hb2))
            exact ⟨⟨k + 1, by omega, by go_num, FIN.out _ _ _ _ HU.out _ HL2.out, HK2.out.trans HB2.out⟩, by simp [intOf]; omega⟩
    · obtain rfl : k = m := by omega
      have hT : zs.take k = zs := List.take_of_length_le (by have := HLEN.out; omega)
      rw [hT] at hL
      have HL := hid hL
      have HB := hid hb
      rw [hT]
      clear hL hb
      go_wp2_with fail
      go_ret
      exact ⟨_, rfl, HL.out, HB.out⟩

theorem below_kept' {w w1 w2 : World} (h : Below w.heap.size w w1) (hk : Kept (fun _ => False) w1 w2) : Below w.heap.size w w2 :=
  ⟨hk.os.trans h.os, hk.tape.trans h.tape, hk.output.trans h.output, Nat.le_trans h.size hk.size, fun k hx => by
    by_cases hl : k < w1.heap.size
    · exact (hk.block k hl (fun x => x)).trans (h.block k hx)
    · exact absurd hl (by have := h.size; omega)⟩

set_option maxRecDepth 100000 in
set_option maxHeartbeats 2000000 in
theorem named (c a : Int) (la : Option Addr) (ln lc : Nat) (l : List Int) (m : Nat) (w : World) (h : SegI w la ln lc l) (hc : 0 ≤ c ∧ c ≤ 255) (hm : m ≤ 1000000) (hln : ln ≤ 100000) :
    Calls Try.prog 14 #[insV c a (.slice la ln lc), .int .i64 m] w fun e w' => e = .returned (.bool (nam c a l m)) ∧ Below w.heap.size w w' := by
  unfold insV
  have hb := (Below.refl w.heap.size w).alloc (Nat.le_refl _) (.cells #[.int .u8 c, .int .i64 a, .slice la ln lc] 31)
  have hlen := h.1
  have x0 : (w.alloc (.cells #[.int .u8 c, .int .i64 a, .slice la ln lc] 31)).cell? ⟨w.heap.size, 0, none⟩ = some (.int .u8 c) := by simp [go_sem]
  have x1 : (w.alloc (.cells #[.int .u8 c, .int .i64 a, .slice la ln lc] 31)).cell? ⟨w.heap.size, 1, none⟩ = some (.int .i64 a) := by simp [go_sem]
  have x2 : (w.alloc (.cells #[.int .u8 c, .int .i64 a, .slice la ln lc] 31)).cell? ⟨w.heap.size, 2, none⟩ = some (.slice la ln lc) := by simp [go_sem]
  have HS := hid (h.later hb (Nat.le_refl _))
  have HB := hid hb
  have HX := hid (show _ ∧ _ ∧ _ from ⟨x0, x1, x2⟩)
  have HLEN := hid hlen
  clear h hb hlen
  by_cases h7 : c = 7
  · subst h7
    have hv : nam 7 a l m = decide (a < m) := by unfold nam; rw [if_pos (.inl rfl)]
    rw [hv]
    go_enter Try.func14, Try.ntmps14
    go_wp2_with fail
    go_ret
    exact ⟨rfl, HB.out⟩
  by_cases h8 : c = 8
  · subst h8
    have hv : nam 8 a l m = decide (a < m) := by unfold nam; rw [if_pos (.inr rfl)]
    rw [hv]
    clear h7
    go_enter Try.func14, Try.ntmps14
    go_wp2_with fail
    go_ret
    exact ⟨rfl, HB.out⟩
  have q7 : (c == 7) = false := by simpa using h7
  have q8 : (c == 8) = false := by simpa using h8
  have hv : nam c a l m = if c = 9 then l.all (fun z => decide (z < m)) else true := by unfold nam; rw [if_neg (fun x => x.elim h7 h8)]
  obtain ⟨R, hR⟩ : ∃ R, R = nam c a l m := ⟨_, rfl⟩
  rw [← hR]
  have HR := hid (hR.trans hv)
  clear h7 h8 hv hR
  go_enter Try.func14, Try.ntmps14
  go_wp2_with fail
  generalize hw1 : w.alloc (.cells #[.int .u8 c, .int .i64 a, .slice la ln lc] 31) = w1 at *
  clear x0 x1 x2
  go_loopw [5] (fun p wr => ∃ k : Nat, k ≤ ln ∧ p = .int .i64 k ∧ Kept (fun _ => False) w1 wr ∧ (c = 9 → ∀ z ∈ l.take k, z < m)) (fun p _ => ln - (intOf p).toNat)
  case atStart => exact ⟨0, by omega, rfl, Kept.refl _ _, fun _ z hz => by simp at hz⟩
  case round =>
    obtain ⟨k, hk, rfl, kw, hall⟩ := hrel
    have x0 := kw.cell HX.out.1 (fun x => x)
    have x2 := kw.cell HX.out.2.2 (fun x => x)
    have HKW := hid kw
    have HALL := hid hall
    have hlen := HLEN.out
    by_cases hkl : k < ln
    · have hkl' : (k : Int) < (ln : Int) := by omega
      obtain ⟨b, off, rfl, hcell⟩ := HS.out.2.2.2.2.resolve_left (by omega)
      have d1 := kw.cell (hcell k hkl) (fun x => x)
      have hts : l.take (k + 1) = l.take k ++ [l.getD k 0] := by
        rw [List.take_add_one, List.getElem?_eq_getElem (show k < l.length by omega), List.getD_eq_getElem?_getD, List.getElem?_eq_getElem (show k < l.length by omega)]; rfl
      have hmem : l.getD k 0 ∈ l := by rw [List.getD_eq_getElem?_getD, List.getElem?_eq_getElem (show k < l.length by omega)]; exact List.getElem_mem _
      have HTS := hid hts
      have HMEM := hid hmem
      generalize l.getD k 0 = z at *
      clear kw hall hcell hts hmem hlen
      by_cases h9 : c = 9
      · subst h9
        by_cases hzm : z < m
        · have q1 : decide ((m : Int) ≤ z) = false := by simp; omega
          clear hw1
          go_wp2_with fail
          refine ⟨⟨k + 1, by omega, by go_num, HKW.out, fun h9 y hy => ?_⟩, by simp [intOf]; omega⟩
          rw [HTS.out] at hy
          rcases List.mem_append.1 hy with hy | hy
          · exact HALL.out rfl y hy
          · simp only [List.mem_singleton] at hy
            omega
        · have q1 : decide ((m : Int) ≤ z) = true := by simp; omega
          have hf : R = false := by
            rw [HR.out, if_pos rfl, Bool.eq_false_iff]
            intro hx
            have := List.all_eq_true.1 hx z HMEM.out
            simp at this
            omega
          have HF := hid hf
          clear hw1 hf
          go_wp2_with fail
          go_ret
          refine ⟨?_, below_kept' HB.out HKW.out⟩
          rw [HF.out]; rfl
      · have q9 : (c == 9) = false := by simpa using h9
        clear hw1 h9
        go_wp2_with fail
        exact ⟨⟨k + 1, by omega, by go_num, HKW.out, fun h9 => by rw [h9] at q9; cases q9⟩, by simp [intOf]; omega⟩
    · have hkl' : ¬ (k : Int) < (ln : Int) := by omega
      have hT : l.take k = l := List.take_of_length_le (by omega)
      have hv : R = true := by
        rw [HR.out]
        by_cases h9 : c = 9
        · rw [if_pos h9]
          refine List.all_eq_true.2 (fun z hz => ?_)
          have := hall h9 z (by rw [hT]; exact hz)
          simpa using this
        · rw [if_neg h9]
      have HV := hid hv
      clear kw hall hT hw1 hv hlen
      go_wp2_with fail
      go_ret
      exact ⟨by rw [HV.out]; rfl, below_kept' HB.out HKW.out⟩
end Go.Proofs.Ytkcidabokgadcaa

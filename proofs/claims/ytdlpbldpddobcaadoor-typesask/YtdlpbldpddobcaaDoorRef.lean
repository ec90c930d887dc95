/-
  The walks over EqWords (two lists that are alike), WideWords and SpareWords, and the document's Fits, All, Shape and Zero.
-/
import Derived.Test.YtdlpbldpddobcaaDoorBag
import Derived.Deep.QuietTactic
import Derived.BigQuiet
namespace Go.Proofs.YtdlpbldpddobcaaDoor
open Go.RowKit
set_option linter.unusedVariables false

set_option maxHeartbeats 1000000 in
theorem eq18_in (b1 o1 b2 o2 n c1 c2 : Nat) (zs : List Int) (w : World) (hz : zs.length = n) (hn : n ≤ 1099511627776)
    (hc1 : ∀ j, j < n → w.cell? ⟨b1, o1 + j, none⟩ = some (.int .u64 (zs.getD j 0)))
    (hc2 : ∀ j, j < n → w.cell? ⟨b2, o2 + j, none⟩ = some (.int .u64 (zs.getD j 0))) :
    Calls Tryd.prog 18 #[.slice (some ⟨b1, o1, none⟩) n c1, .slice (some ⟨b2, o2, none⟩) n c2] w fun e w' => e = .returned (.bool true) ∧ ∃ m, w' = w.drewN m := by
  have hne : ((n : Int) != n) = false := by simp
  go_enter Tryd.func18, Tryd.ntmps18
  go_wp2
  go_loopw [5] (fun i wr => ∃ k m : Nat, k ≤ n ∧ i = .int .i64 k ∧ wr = w.drewN m) (fun i _ => n - (intOf i).toNat)
  case atStart => exact ⟨0, 0, by omega, rfl, rfl⟩
  case round =>
    obtain ⟨k, m, hk, rfl, rfl⟩ := hrel
    by_cases hlt : k < n
    · have g1 : w.cell? ⟨b1, o1 + k, none⟩ = some (.int .u64 (zs.getD k 0)) := hc1 k hlt
      have g2 : w.cell? ⟨b2, o2 + k, none⟩ = some (.int .u64 (zs.getD k 0)) := hc2 k hlt
      clear hc1 hc2
      have hlt' : (k : Int) < (n : Int) := by omega
      go_wp2
      go_quiet (fail)
      go_wp2
      exact ⟨⟨k + 1, m + nq, by omega, by go_num, rfl⟩, by simp [intOf]; omega⟩
    · clear hc1 hc2
      go_wp2
      go_ret
      exact ⟨rfl, m, rfl⟩

set_option maxHeartbeats 400000 in
theorem eq18_none (a1 a2 : Option Addr) (c1 c2 : Nat) (w : World) :
    Calls Tryd.prog 18 #[.slice a1 0 c1, .slice a2 0 c2] w fun e w' => e = .returned (.bool true) ∧ ∃ m, w' = w.drewN m := by
  go_enter Tryd.func18, Tryd.ntmps18
  go_wp2
  refine wp_loop_rounds 1 ?_
  rw [rounds_succ]
  go_wp2
  go_ret
  exact ⟨rfl, 0, rfl⟩

/-- EqWords of two lists that are alike. -/
theorem eq18 (a1 a2 : Option Addr) (n c1 c2 : Nat) (zs : List Int) (w : World) (h1 : SegW w a1 n c1 zs) (h2 : SegW w a2 n c2 zs) :
    Calls Tryd.prog 18 #[.slice a1 n c1, .slice a2 n c2] w fun e w' => e = .returned (.bool true) ∧ Below w.heap.size w w' := by
  obtain ⟨hz, _, hn, _, g1⟩ := h1
  obtain ⟨_, _, _, _, g2⟩ := h2
  have fin : (∀ (e : Ending) (w' : World), (e = .returned (.bool true) ∧ ∃ m, w' = w.drewN m) → e = .returned (.bool true) ∧ Below w.heap.size w w') := fun e w' ⟨he, m, hw⟩ => ⟨he, by rw [hw]; exact below_drewN (Below.refl _ _) m⟩
  by_cases h0 : n = 0
  · subst h0; exact (eq18_none a1 a2 c1 c2 w).mono fin
  rcases g1 with g1 | ⟨b1, o1, rfl, g1⟩
  · exact absurd g1 h0
  rcases g2 with g2 | ⟨b2, o2, rfl, g2⟩
  · exact absurd g2 h0
  exact (eq18_in b1 o1 b2 o2 n c1 c2 zs w hz hn g1 g2).mono fin

/-! ### WideWords -/

/-- What lies at place j of such a list. -/
def wl (zs : List Int) (j : Nat) : Int := if j < zs.length then zs.getD j 0 else nm 9 j

def wide (zs : List Int) (k m : Nat) : List Int := (List.range k).map (wl zs) ++ List.replicate m 0

theorem wide_set (zs : List Int) (k m : Nat) (v : Int) (h : v = wl zs k) : ((wide zs k (m + 1)).map (Value.int .u64)).set k (.int .u64 v) = (wide zs (k + 1) m).map (Value.int .u64) := by
  subst h
  rw [← List.map_set]
  congr 1
  unfold wide
  rw [List.set_append_right _ _ (by simp)]
  simp [List.range_succ, List.replicate_succ]

theorem wide_step {w wr : World} {zs : List Int} {n k : Nat} (v : Int) (hv : v = wl zs k) (hlt : k < n + 64)
    (hown : wr.ownsRow w.heap.size 32 1 (.slice (some ⟨w.heap.size, 0, none⟩) (n + 64) (n + 64)) (n + 64) ((wide zs k (n + 64 - k)).map (Value.int .u64))) (hb : Below w.heap.size w wr) :
    (wr.setCell ⟨w.heap.size, k, none⟩ (.int .u64 v)).ownsRow w.heap.size 32 1 (.slice (some ⟨w.heap.size, 0, none⟩) (n + 64) (n + 64)) (n + 64) ((wide zs (k + 1) (n + 64 - (k + 1))).map (Value.int .u64)) ∧
      Below w.heap.size w (wr.setCell ⟨w.heap.size, k, none⟩ (.int .u64 v)) := by
  have h := hown.stored k (.int .u64 v)
  have e : n + 64 - k = n + 64 - (k + 1) + 1 := by omega
  rw [e, wide_set zs k _ v hv] at h
  exact ⟨h.1, hb.setCell (by simp) _⟩

set_option maxHeartbeats 1000000 in
theorem wide5_in (a : Option Addr) (n cap : Nat) (zs : List Int) (w : World) (hz : zs.length = n) (hn : n ≤ 1048576)
    (hc : n = 0 ∨ ∃ b off, a = some ⟨b, off, none⟩ ∧ ∀ j, j < n → w.cell? ⟨b, off + j, none⟩ = some (.int .u64 (zs.getD j 0))) :
    Calls Tryd.prog 5 #[.slice a n cap] w fun e w' => e = .returned (.slice (some ⟨w.heap.size, 0, none⟩) n (n + 64)) ∧
      w'.ownsRow w.heap.size 32 1 (.slice (some ⟨w.heap.size, 0, none⟩) (n + 64) (n + 64)) (n + 64) ((wide zs (n + 64) 0).map (Value.int .u64)) ∧ Below w.heap.size w w' := by
  obtain ⟨i0, hi, hz0, hz1, hz2⟩ := info_parts Tryd.info32
  have hb2 : i0.bytes * (n + 64) ≤ 281474976710656 := by rw [hz2]; omega
  have hml : n + 64 ≤ maxLen := by unfold maxLen; omega
  go_enter Tryd.func5, Tryd.ntmps5
  go_wp2_with (first | (at_make; refine wpList_make_full _ rfl _ _ 24 rfl w.heap.size 32 i0 (.int .u64 0) 1 Tryd.underlying24 hi hz0 hz1 .i64 .i64 _ _ (n + 64) rfl rfl (by omega) (by omega) hb2 hml (Nat.le_refl _) ?_; intro w1 hown hgrow))
  have hown0 : w1.ownsRow w.heap.size 32 1 (.slice (some ⟨w.heap.size, 0, none⟩) (n + 64) (n + 64)) (n + 64) ((wide zs 0 (n + 64)).map (Value.int .u64)) := by
    have e : (madeCells (Value.int .u64 0).cells ((n + 64) * 1)).toList = (wide zs 0 (n + 64)).map (Value.int .u64) := by
      rw [Nat.mul_one]; exact (toList_madeCells_one _ _).trans (by simp [wide])
    rw [← e]; exact hown
  have hbel : Below w.heap.size w w1 := (Below.refl _ _).grown hgrow (Nat.le_refl _) (by simp)
  clear hown hgrow hi hz0 hz1 hz2 hb2 hml
  go_loopw [4] (fun i wr => ∃ k : Nat, k ≤ n + 64 ∧ i = .int .i64 k ∧ wr.ownsRow w.heap.size 32 1 (.slice (some ⟨w.heap.size, 0, none⟩) (n + 64) (n + 64)) (n + 64) ((wide zs k (n + 64 - k)).map (Value.int .u64)) ∧ Below w.heap.size w wr) (fun i _ => n + 64 - (intOf i).toNat)
  case atStart => exact ⟨0, by omega, rfl, hown0, hbel⟩
  case round =>
    obtain ⟨k, hk, rfl, hown, hb⟩ := hrel
    clear hown0 hbel
    by_cases hlt : k < n + 64
    · have hst := fun v hv => wide_step v hv hlt hown hb
      have hcl : ∃ v, wr.cell? ⟨w.heap.size, k, none⟩ = some v := by
        have := hown.cellAt k (by omega)
        exact ⟨_, this.trans (List.getElem?_eq_getElem (by simp [wide]; omega))⟩
      obtain ⟨v0, hcl⟩ := hcl
      have hfz := hown.frozenAt k
      have HS := hid hst
      have HB := hid hb
      by_cases hkn : k < n
      · rcases hc with hc | ⟨b, off, rfl, hc⟩
        · omega
        have hcell : wr.cell? ⟨b, off + k, none⟩ = some (.int .u64 (zs.getD k 0)) := by
          have h1 := hc k hkn
          have h2 : b < w.heap.size := block_lt_of_cell h1
          exact (hb.cell (p := ⟨b, off + k, none⟩) h2).trans h1
        have hkz : k < zs.length := by omega
        have HW := hid (show zs[k] = wl zs k by simp [wl, hkz])
        clear hst hb hown hc
        go_wp2
        have R := HS.out _ HW.out
        exact ⟨⟨k + 1, by omega, by go_num, R.1, R.2⟩, by simp [intOf]; omega⟩
      · have HW := hid (show nm 9 k = wl zs k by
          have hkz : ¬ k < zs.length := by omega
          simp only [wl, hkz, if_false])
        have cv := nm_wrap 9 k (by omega) (by omega)
        have hk3 : k ≤ 8388608 := by omega
        clear hst hb hown hc
        go_wp2_with (first | (go_at_call 24; refine (num24 9 k _ (by decide) hk3).mono ?_; rintro e w' ⟨rfl, rfl⟩))
        have R := HS.out _ HW.out
        exact ⟨⟨k + 1, by omega, by go_num, R.1, R.2⟩, by simp [intOf]; omega⟩
    · obtain rfl : k = n + 64 := by omega
      have HB := hid hb
      have HO := hid hown
      clear hb hown hc
      go_wp2
      go_ret
      refine ⟨rfl, ?_, HB.out⟩
      have := HO.out
      rw [Nat.sub_self] at this
      exact this

/-- WideWords: a list of its own, the marks behind it. -/
theorem wide5 (a : Option Addr) (n cap : Nat) (zs : List Int) (w : World) (h : SegW w a n cap zs) (hn : n ≤ 1048576) :
    Calls Tryd.prog 5 #[.slice a n cap] w fun e w' => e = .returned (.slice (some ⟨w.heap.size, 0, none⟩) n (n + 64)) ∧
      (∀ j, j < n + 64 → w'.cell? ⟨w.heap.size, j, none⟩ = some (.int .u64 (wl zs j))) ∧ Below w.heap.size w w' ∧ w.heap.size < w'.heap.size := by
  refine (wide5_in a n cap zs w h.1 hn h.2.2.2.2).mono fun e w' ⟨he, ho, hb⟩ => ?_
  have hc : ∀ j, j < n + 64 → w'.cell? ⟨w.heap.size, j, none⟩ = some (.int .u64 (wl zs j)) := fun j hj => by
    rw [ho.cellAt j (by omega)]
    simp [wide, hj]
  exact ⟨he, hc, hb, block_lt_of_cell (hc 0 (by omega))⟩

set_option maxHeartbeats 1000000 in
/-- SpareWords: the marks stand. -/
theorem spare21 (B n : Nat) (zs : List Int) (w : World) (hz : zs.length = n) (hn : n ≤ 1048576)
    (hc : ∀ j, j < n + 64 → w.cell? ⟨B, j, none⟩ = some (.int .u64 (wl zs j))) :
    Calls Tryd.prog 21 #[.slice (some ⟨B, 0, none⟩) n (n + 64)] w fun e w' => e = .returned (.bool true) ∧ w' = w := by
  go_enter Tryd.func21, Tryd.ntmps21
  go_wp2
  go_loop [4] (fun i => ∃ k : Nat, n ≤ k ∧ k ≤ n + 64 ∧ i = .int .i64 k) (fun i => n + 64 - (intOf i).toNat)
  case atStart => exact ⟨n, by omega, by omega, rfl⟩
  case round =>
    obtain ⟨k, hk0, hk, rfl⟩ := hrel
    by_cases hlt : k < n + 64
    · have hcell := hc k hlt
      have hw : wl zs k = nm 9 k := by
        have hkz : ¬ k < zs.length := by omega
        simp only [wl, hkz, if_false]
      rw [hw] at hcell
      have cv := nm_wrap 9 k (by omega) (by omega)
      have hk3 : k ≤ 8388608 := by omega
      clear hc hw
      go_wp2_with (first | (go_at_call 24; refine (num24 9 k _ (by decide) hk3).mono ?_; rintro e w' ⟨rfl, rfl⟩))
      exact ⟨⟨k + 1, by omega, by omega, by go_num⟩, by simp [intOf]; omega⟩
    · clear hc
      go_wp2
      go_ret
      exact ⟨rfl, rfl⟩

/-! ### The document's -/

theorem fits15 (v c : Int) (w : World) : Calls Tryd.prog 15 #[.int .u64 v, .int .u8 c] w fun e w' => e = .returned (.bool (fitsB v c)) ∧ w' = w := by
  rcases isL_cases c with ⟨rfl, h⟩ | ⟨rfl, h⟩ | ⟨h1, h2, h⟩
  all_goals
    go_enter Tryd.func15, Tryd.ntmps15
    go_wp2
    go_ret
    first | exact ⟨rfl, rfl⟩ | (simp_all [fitsB])

theorem shape9 (s : ByteArray) (w : World) (hs : s.size ≤ 1073741824) :
    Calls Tryd.prog 9 #[.string s] w fun e w' => e = .returned (.bool (lett s 256)) ∧ Below w.heap.size w w' := by
  have HE := hid (letters23 s 256 w hs (by omega))
  go_enter Tryd.func9, Tryd.ntmps9
  go_wp2_with fail
  refine HE.out.mono ?_
  rintro e w1 ⟨rfl, rfl⟩
  go_wp2
  go_ret
  exact ⟨rfl, Below.refl _ _⟩

theorem all13_in (b off n cap : Nat) (zs : List Int) (s : ByteArray) (w : World) (h1 : zs.length = n) (h3 : n ≤ 1099511627776) (hc : ∀ j, j < n → w.cell? ⟨b, off + j, none⟩ = some (.int .u64 (zs.getD j 0))) (hs : s.size ≤ 1073741824) (hne : n = s.size) :
    Calls Tryd.prog 13 #[.slice (some ⟨b, off, none⟩) n cap, .string s] w fun e w' => e = .returned (.bool (allB zs s)) ∧ Below w.heap.size w w' := by
  subst hne
  go_enter Tryd.func13, Tryd.ntmps13
  go_wp2
  go_loopw [5] (fun i wr => ∃ k m : Nat, k ≤ s.size ∧ i = .int .i64 k ∧ wr = w.drewN m ∧ ∀ i, i < k → fitsB (zs.getD i 0) (byteI s i) = true) (fun i _ => s.size - (intOf i).toNat)
  case atStart => exact ⟨0, 0, by omega, rfl, rfl, fun i h => by omega⟩
  case round =>
    obtain ⟨k, m, hk, rfl, rfl, hall⟩ := hrel
    have HA := hid hall
    clear hall
    by_cases hlt : k < s.size
    · have g1 : (w.drewN m).cell? ⟨b, off + k, none⟩ = some (.int .u64 (zs.getD k 0)) := by rw [World.cell?_drewN]; exact hc k hlt
      obtain ⟨wq, hq⟩ : ∃ wq, wq = w.drewN m := ⟨_, rfl⟩
      rw [← hq] at g1 ⊢
      have HQ := hid hq
      clear hq
      clear hc
      have hlt' : (k : Int) < (s.size : Int) := by omega
      have hkz : k < zs.length := by omega
      have E := hid (show fitsB (zs.getD k 0) (byteI s k) = fitsB (zs[k]'hkz) ((s[k]'hlt).toNat : Int) by rw [← byteI_at s k hlt]; simp [hkz])
      go_wp2
      go_quiet (first | (go_at_call 15; refine Calls.quiet_of_same (fits15 _ _ _)))
      cases hf : fitsB (zs[k]'hkz) ((s[k]'hlt).toNat : Int)
      · go_wp2
        go_ret
        refine ⟨?_, by rw [HQ.out]; exact below_drewN (below_drewN (Below.refl _ _) m) nq⟩
        have : allB zs s = false := by
          rw [← Bool.not_eq_true, allB_iff]
          exact fun h' => by rw [← E.out, h'.2 k hlt] at hf; cases hf
        rw [this]; rfl
      · go_wp2
        refine ⟨⟨k + 1, m + nq, by omega, by go_num, by rw [HQ.out]; simp [World.drewN_drewN], fun i hi => ?_⟩, by simp [intOf]; omega⟩
        rcases Nat.lt_or_ge i k with h | h
        · exact HA.out i h
        · obtain rfl : i = k := by omega
          rw [E.out]; exact hf
    · clear hc
      go_wp2
      go_ret
      refine ⟨?_, below_drewN (Below.refl _ _) m⟩
      have : allB zs s = true := (allB_iff zs s).2 ⟨h1, fun i hi => HA.out i (by omega)⟩
      rw [this]; rfl

/-- The document's All. -/
theorem all13 (a : Option Addr) (n cap : Nat) (zs : List Int) (s : ByteArray) (w : World) (h : SegW w a n cap zs) (hs : s.size ≤ 1073741824) :
    Calls Tryd.prog 13 #[.slice a n cap, .string s] w fun e w' => e = .returned (.bool (allB zs s)) ∧ Below w.heap.size w w' := by
  obtain ⟨h1, h2, h3, h4, h5⟩ := h
  by_cases hne : n = s.size
  · by_cases h0 : n = 0
    · have hz : allB zs s = true := (allB_iff zs s).2 ⟨by omega, fun i hi => by omega⟩
      have hs0 : s.size = 0 := by omega
      have hs0' : (s.size : Int) = 0 := by omega
      subst h0
      clear h4 h5 hne
      go_enter Tryd.func13, Tryd.ntmps13
      go_wp2
      refine wp_loop_rounds 1 ?_
      rw [rounds_succ]
      go_wp2
      go_ret
      exact ⟨by rw [hz]; rfl, Below.refl _ _⟩
    · rcases h5 with h5 | ⟨b, off, rfl, hc⟩
      · exact absurd h5 h0
      · exact all13_in b off n cap zs s w h1 h3 hc hs hne
  · have hne' : ((n : Int) != (s.size : Int)) = true := by simpa using fun h : (n : Int) = s.size => hne (by omega)
    have hne2 : ((n : Int) == (s.size : Int)) = false := by simpa using fun h : (n : Int) = s.size => hne (by omega)
    have hf : allB zs s = false := by
      rw [← Bool.not_eq_true, allB_iff, h1]; exact fun h' => hne h'.1
    clear h4 h5
    go_enter Tryd.func13, Tryd.ntmps13
    go_wp2
    go_ret
    exact ⟨by rw [hf]; rfl, Below.refl _ _⟩

/-- The document's Zero of letters. -/
theorem zero19 (s : ByteArray) (w : World) (hs : s.size ≤ 1073741824) (hl : lett s s.size = true) :
    Calls Tryd.prog 19 #[.string s] w fun e w' => ∃ B, e = .returned (.slice (some ⟨B, 0, none⟩) s.size s.size) ∧ w.heap.size ≤ B ∧
      w'.ownsRow w.heap.size 32 1 (.slice (some ⟨B, 0, none⟩) s.size s.size) s.size ((List.replicate s.size 0).map (Value.int .u64)) ∧ Below w.heap.size w w' := by
  obtain ⟨i0, hi, hz0, hz1, hz2⟩ := info_parts Tryd.info32
  have hb2 : i0.bytes * s.size ≤ 281474976710656 := by rw [hz2]; omega
  have hml : s.size ≤ maxLen := by unfold maxLen; omega
  have HE := hid (letters23 s s.size w hs hs)
  go_enter Tryd.func19, Tryd.ntmps19
  go_wp2_with fail
  refine HE.out.mono ?_
  rintro e w1 ⟨rfl, rfl⟩
  rw [hl]
  go_wp2_with (first | (at_make; refine wpList_make_full _ rfl _ _ 24 rfl w1.heap.size 32 i0 (.int .u64 0) 1 Tryd.underlying24 hi hz0 hz1 .i64 .i64 _ _ s.size rfl rfl rfl rfl hb2 hml (Nat.le_refl _) ?_; intro w2 hown hgrow))
  have hown0 : w2.ownsRow w1.heap.size 32 1 (.slice (some ⟨w1.heap.size, 0, none⟩) s.size s.size) s.size ((List.replicate s.size 0).map (Value.int .u64)) := by
    have e : (madeCells (Value.int .u64 0).cells (s.size * 1)).toList = (List.replicate s.size 0).map (Value.int .u64) := by
      rw [Nat.mul_one]; exact (toList_madeCells_one _ _).trans (by simp)
    rw [← e]; exact hown
  have hbel : Below w1.heap.size w1 w2 := (Below.refl _ _).grown hgrow (Nat.le_refl _) (by simp)
  clear hown hgrow hi hz0 hz1 hz2 hb2 hml
  go_wp2
  go_ret
  exact ⟨_, rfl, Nat.le_refl _, hown0, hbel⟩

/-- The document's Zero of another text. -/
theorem zero19_none (s : ByteArray) (w : World) (hs : s.size ≤ 1073741824) (hl : lett s s.size = false) :
    Calls Tryd.prog 19 #[.string s] w fun e w' => e = .returned (.slice none 0 0) ∧ Below w.heap.size w w' := by
  have HE := hid (letters23 s s.size w hs hs)
  go_enter Tryd.func19, Tryd.ntmps19
  go_wp2_with fail
  refine HE.out.mono ?_
  rintro e w1 ⟨rfl, rfl⟩
  rw [hl]
  go_wp2
  go_ret
  exact ⟨rfl, Below.refl _ _⟩
end Go.Proofs.YtdlpbldpddobcaaDoor

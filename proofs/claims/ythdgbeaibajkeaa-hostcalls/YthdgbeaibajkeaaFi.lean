/-
  The walks over fit, Lies, EqWords, EqReply, EqReplies, and what a host is asked.
-/
import Derived.Test.YthdgbeaibajkeaaHb
namespace Go.Proofs.Ythdgbeaibajkeaa
open Go.RowKit
set_option linter.unusedVariables false

/-- Do they part at that place? -/
theorem allB_no {zs : List Int} {s : ByteArray} {k : Nat} (hk : k < s.size) (h : fitsB (zs.getD k 0) (byteI s k) = false) : allB zs s = false := by
  rw [← Bool.not_eq_true, allB_iff]
  exact fun h' => by rw [h'.2 k hk] at h; cases h
theorem allB_len {zs : List Int} {s : ByteArray} (h : zs.length ≠ s.size) : allB zs s = false := by
  rw [← Bool.not_eq_true, allB_iff]; exact fun h' => h h'.1

set_option maxHeartbeats 1000000 in
theorem fit25_in (b off n cap : Nat) (zs : List Int) (s : ByteArray) (w : World) (h1 : zs.length = n) (h3 : n ≤ 1099511627776) (hc : ∀ j, j < n → w.cell? ⟨b, off + j, none⟩ = some (.int .u64 (zs.getD j 0))) (hne : n = s.size) :
    Calls Try.prog 25 #[.slice (some ⟨b, off, none⟩) n cap, .string s] w fun e w' => e = .returned (.bool (allB zs s)) ∧ w' = w := by
  subst hne
  have hss : ((s.size : Int) != s.size) = false := by simp
  go_enter Try.func25, Try.ntmps25
  go_wp2
  go_loopw [15] (fun i wr => ∃ k : Nat, k ≤ s.size ∧ i = .int .i64 k ∧ wr = w ∧ ∀ i, i < k → fitsB (zs.getD i 0) (byteI s i) = true) (fun i _ => s.size - (intOf i).toNat)
  case atStart => exact ⟨0, by omega, rfl, rfl, fun i h => by omega⟩
  case round =>
    obtain ⟨k, hk, rfl, rfl, hall⟩ := hrel
    have HA := hid hall
    clear hall
    by_cases hlt : k < s.size
    · have g1 : wr.cell? ⟨b, off + k, none⟩ = some (.int .u64 (zs.getD k 0)) := hc k hlt
      have hlt' : (k : Int) < (s.size : Int) := by omega
      have E1 := byteI_at s k hlt
      obtain ⟨z, hz⟩ : ∃ z, z = zs.getD k 0 := ⟨_, rfl⟩
      rw [← hz] at g1
      have hN := fun h => allB_no (zs := zs) hlt h
      rw [← hz] at hN
      have HN := hid hN
      have HS := hid (show fitsB z (byteI s k) = true → ∀ i, i < k + 1 → fitsB (zs.getD i 0) (byteI s i) = true from fun h i hi => by
        rcases Nat.lt_or_ge i k with h' | h'
        · exact HA.out i h'
        · obtain rfl : i = k := by omega
          rw [← hz]; exact h)
      clear hc hN hz HA
      rw [← E1] at HN HS
      clear E1
      rcases l_cases ((s[k]'hlt).toNat : Int) with e1 | e1 | ⟨e1, e2⟩
      · have b1 : (((s[k]'hlt).toNat : Int) != 108) = false := by simpa using e1
        have HS2 := hid (HS.out (by simp [fitsB, e1]))
        clear HS HN
        go_wp2
        exact ⟨⟨k + 1, by omega, by go_num, trivial, HS2.out⟩, by simp [intOf]; omega⟩
      · have b1 : (((s[k]'hlt).toNat : Int) != 108) = true := by simp [e1]
        have b2 : (((s[k]'hlt).toNat : Int) != 119) = false := by simpa using e1
        by_cases hz : z < 4294967296
        · have b3 : decide ((4294967296 : Int) ≤ z) = false := by simpa using hz
          have HS2 := hid (HS.out (by simp [fitsB, e1, hz]))
          clear HS HN
          go_wp2
          exact ⟨⟨k + 1, by omega, by go_num, trivial, HS2.out⟩, by simp [intOf]; omega⟩
        · have b3 : decide ((4294967296 : Int) ≤ z) = true := by simpa using hz
          have HN2 := hid (HN.out (by simp [fitsB, e1]; omega))
          clear HS HN
          go_wp2
          go_ret
          exact ⟨by rw [HN2.out]; rfl, rfl⟩
      · have b1 : (((s[k]'hlt).toNat : Int) != 108) = true := by simpa using e1
        have b2 : (((s[k]'hlt).toNat : Int) != 119) = true := by simpa using e2
        have HN2 := hid (HN.out (by simp [fitsB]; omega))
        clear HS HN
        go_wp2
        go_ret
        exact ⟨by rw [HN2.out]; rfl, rfl⟩
    · have hkn : k = s.size := by omega
      clear hc
      go_wp2
      go_ret
      refine ⟨?_, rfl⟩
      have : allB zs s = true := (allB_iff zs s).2 ⟨h1, fun i hi => HA.out i (by omega)⟩
      rw [this]; rfl
theorem fit25 (Q : Nat → Prop) (a : Option Addr) (n cap : Nat) (zs : List Int) (s : ByteArray) (w : World) (h : SegU Q w a n cap zs) (hs : s.size ≤ 140737488355328) :
    Calls Try.prog 25 #[.slice a n cap, .string s] w fun e w' => e = .returned (.bool (allB zs s)) ∧ w' = w := by
  obtain ⟨h1, h2, h3, h4, h5⟩ := h
  by_cases hne : n = s.size
  · by_cases h0 : n = 0
    · have hz : allB zs s = true := (allB_iff zs s).2 ⟨by omega, fun i hi => by omega⟩
      have hs0 : s.size = 0 := by omega
      have hs0' : (s.size : Int) = 0 := by omega
      subst h0
      clear h4 h5 hne
      go_enter Try.func25, Try.ntmps25
      go_wp2
      refine wp_loop_rounds 1 ?_
      rw [rounds_succ]
      go_wp2
      go_ret
      exact ⟨by rw [hz]; rfl, rfl⟩
    · rcases h5 with h5 | ⟨b, off, rfl, _, hc⟩
      · exact absurd h5 h0
      · exact fit25_in b off n cap zs s w h1 (by omega) hc hne
  · have hne' : ((n : Int) != (s.size : Int)) = true := by simpa using fun h : (n : Int) = s.size => hne (by omega)
    have hf : allB zs s = false := allB_len (by omega)
    clear h4 h5
    go_enter Try.func25, Try.ntmps25
    go_wp2
    go_ret
    exact ⟨by rw [hf]; rfl, rfl⟩

set_option maxHeartbeats 1000000 in
theorem lies22_in (b off n cap : Nat) (zs : List Int) (s : ByteArray) (w : World) (h1 : zs.length = n) (h3 : n ≤ 1099511627776) (hr : ∀ z ∈ zs, 0 ≤ z ∧ z ≤ 18446744073709551615) (hc : ∀ j, j < n → w.cell? ⟨b, off + j, none⟩ = some (.int .u64 (zs.getD j 0))) (hne : n = s.size) :
    Calls Try.prog 22 #[.slice (some ⟨b, off, none⟩) n cap, .string s] w fun e w' => e = .returned (.bool (allB zs s)) ∧ Below w.heap.size w w' := by
  subst hne
  have hss : ((s.size : Int) != s.size) = false := by simp
  go_enter Try.func22, Try.ntmps22
  go_wp2
  go_loopw [5] (fun i wr => ∃ k m : Nat, k ≤ s.size ∧ i = .int .i64 k ∧ wr = w.drewN m ∧ ∀ i, i < k → fitsB (zs.getD i 0) (byteI s i) = true) (fun i _ => s.size - (intOf i).toNat)
  case atStart => exact ⟨0, 0, by omega, rfl, rfl, fun i h => by omega⟩
  case round =>
    obtain ⟨k, m, hk, rfl, rfl, hall⟩ := hrel
    have HA := hid hall
    clear hall
    by_cases hlt : k < s.size
    · have hkz : k < zs.length := by omega
      have hzr : 0 ≤ zs[k]'hkz ∧ zs[k]'hkz ≤ 18446744073709551615 := hr _ (List.getElem_mem hkz)
      have g1 : (w.drewN m).cell? ⟨b, off + k, none⟩ = some (.int .u64 (zs.getD k 0)) := by rw [World.cell?_drewN]; exact hc k hlt
      obtain ⟨wq, hq⟩ : ∃ wq, wq = w.drewN m := ⟨_, rfl⟩
      rw [← hq] at g1 ⊢
      have HQ := hid hq
      clear hq
      clear hc hr
      have hlt' : (k : Int) < (s.size : Int) := by omega
      have E := hid (show fitsB (zs.getD k 0) (byteI s k) = fitsB (zs[k]'hkz) ((s[k]'hlt).toNat : Int) by rw [← byteI_at s k hlt]; simp [hkz])
      go_wp2
      go_quiet (first | (go_at_call 26; refine Calls.quiet_of_same (Fits26 _ _ _ hzr)))
      cases hf : fitsB (zs[k]'hkz) ((s[k]'hlt).toNat : Int)
      · go_wp2
        go_ret
        refine ⟨?_, by rw [HQ.out]; exact below_drewN (below_drewN (Below.refl _ _) m) nq⟩
        rw [allB_no hlt (by rw [E.out]; exact hf)]; rfl
      · go_wp2
        refine ⟨⟨k + 1, m + nq, by omega, by go_num, by rw [HQ.out]; simp [World.drewN_drewN], fun i hi => ?_⟩, by simp [intOf]; omega⟩
        rcases Nat.lt_or_ge i k with h | h
        · exact HA.out i h
        · obtain rfl : i = k := by omega
          rw [E.out]; exact hf
    · clear hc
      go_wp2
      go_ret
      refine ⟨?_, below_drewN (Below.refl _ _) m⟩
      have : allB zs s = true := (allB_iff zs s).2 ⟨h1, fun i hi => HA.out i (by omega)⟩
      rw [this]; rfl
theorem lies22 (Q : Nat → Prop) (a : Option Addr) (n cap : Nat) (zs : List Int) (s : ByteArray) (w : World) (h : SegU Q w a n cap zs) (hs : s.size ≤ 140737488355328) :
    Calls Try.prog 22 #[.slice a n cap, .string s] w fun e w' => e = .returned (.bool (allB zs s)) ∧ Below w.heap.size w w' := by
  obtain ⟨h1, h2, h3, h4, h5⟩ := h
  by_cases hne : n = s.size
  · by_cases h0 : n = 0
    · have hz : allB zs s = true := (allB_iff zs s).2 ⟨by omega, fun i hi => by omega⟩
      have hs0 : s.size = 0 := by omega
      have hs0' : (s.size : Int) = 0 := by omega
      subst h0
      clear h4 h5 hne
      go_enter Try.func22, Try.ntmps22
      go_wp2
      refine wp_loop_rounds 1 ?_
      rw [rounds_succ]
      go_wp2
      go_ret
      exact ⟨by rw [hz]; rfl, Below.refl _ _⟩
    · rcases h5 with h5 | ⟨b, off, rfl, _, hc⟩
      · exact absurd h5 h0
      · exact lies22_in b off n cap zs s w h1 (by omega) h4 hc hne
  · have hne' : ((n : Int) != (s.size : Int)) = true := by simpa using fun h : (n : Int) = s.size => hne (by omega)
    have hf : allB zs s = false := allB_len (by omega)
    clear h4 h5
    go_enter Try.func22, Try.ntmps22
    go_wp2
    go_ret
    exact ⟨by rw [hf]; rfl, Below.refl _ _⟩

set_option maxHeartbeats 1000000 in
theorem eqw_in (b1 o1 b2 o2 n c1 c2 : Nat) (zs : List Int) (w : World) (hz : zs.length = n) (hn : n ≤ 1099511627776)
    (hc1 : ∀ j, j < n → w.cell? ⟨b1, o1 + j, none⟩ = some (.int .u64 (zs.getD j 0)))
    (hc2 : ∀ j, j < n → w.cell? ⟨b2, o2 + j, none⟩ = some (.int .u64 (zs.getD j 0))) :
    Calls Try.prog 16 #[.slice (some ⟨b1, o1, none⟩) n c1, .slice (some ⟨b2, o2, none⟩) n c2] w fun e w' => e = .returned (.bool true) ∧ ∃ m, w' = w.drewN m := by
  have hne : ((n : Int) != n) = false := by simp
  go_enter Try.func16, Try.ntmps16
  go_wp2
  go_loopw [5] (fun i wr => ∃ k m : Nat, k ≤ n ∧ i = .int .i64 k ∧ wr = w.drewN m) (fun i _ => n - (intOf i).toNat)
  case atStart => exact ⟨0, 0, by omega, rfl, rfl⟩
  case round =>
    obtain ⟨k, m, hk, rfl, rfl⟩ := hrel
    by_cases hlt : k < n
    · have g1 : w.cell? ⟨b1, o1 + k, none⟩ = some (.int .u64 (zs.getD k 0)) := hc1 k hlt
      have g2 : w.cell? ⟨b2, o2 + k, none⟩ = some (.int .u64 (zs.getD k 0)) := hc2 k hlt
      clear hc1 hc2
      have hlt' : (k : Int) < (n : Int) := by omega
      go_wp2
      go_quiet (fail)
      go_wp2
      exact ⟨⟨k + 1, m + nq, by omega, by go_num, rfl⟩, by simp [intOf]; omega⟩
    · clear hc1 hc2
      go_wp2
      go_ret
      exact ⟨rfl, m, rfl⟩
set_option maxHeartbeats 400000 in
theorem eqw_none (a1 a2 : Option Addr) (c1 c2 : Nat) (w : World) :
    Calls Try.prog 16 #[.slice a1 0 c1, .slice a2 0 c2] w fun e w' => e = .returned (.bool true) ∧ ∃ m, w' = w.drewN m := by
  go_enter Try.func16, Try.ntmps16
  go_wp2
  refine wp_loop_rounds 1 ?_
  rw [rounds_succ]
  go_wp2
  go_ret
  exact ⟨rfl, 0, rfl⟩
/-- EqWords of two lists that are alike. -/
theorem eqw (Q1 Q2 : Nat → Prop) (a1 a2 : Option Addr) (n c1 c2 : Nat) (zs : List Int) (w : World) (h1 : SegU Q1 w a1 n c1 zs) (h2 : SegU Q2 w a2 n c2 zs) :
    Calls Try.prog 16 #[.slice a1 n c1, .slice a2 n c2] w fun e w' => e = .returned (.bool true) ∧ Below w.heap.size w w' := by
  obtain ⟨hz, _, hn, _, g1⟩ := h1
  obtain ⟨_, _, _, _, g2⟩ := h2
  have fin : (∀ (e : Ending) (w' : World), (e = .returned (.bool true) ∧ ∃ m, w' = w.drewN m) → e = .returned (.bool true) ∧ Below w.heap.size w w') := fun e w' ⟨he, m, hw⟩ => ⟨he, by rw [hw]; exact below_drewN (Below.refl _ _) m⟩
  by_cases h0 : n = 0
  · subst h0; exact (eqw_none a1 a2 c1 c2 w).mono fin
  rcases g1 with g1 | ⟨b1, o1, rfl, _, g1⟩
  · exact absurd g1 h0
  rcases g2 with g2 | ⟨b2, o2, rfl, _, g2⟩
  · exact absurd g2 h0
  exact (eqw_in b1 o1 b2 o2 n c1 c2 zs w hz (by omega) g1 g2).mono fin

set_option maxHeartbeats 1000000 in
/-- EqReply of two that are alike. -/
theorem eqr (Q1 Q2 : Nat → Prop) (a1 a2 : Option Addr) (n c1 c2 : Nat) (zs : List Int) (tr : Bool) (w : World) (h1 : SegU Q1 w a1 n c1 zs) (h2 : SegU Q2 w a2 n c2 zs) :
    Calls Try.prog 19 #[.agg #[.slice a1 n c1, .bool tr], .agg #[.slice a2 n c2, .bool tr]] w fun e w' => e = .returned (.bool true) ∧ Below w.heap.size w w' := by
  have B2 : Below w.heap.size w ((w.alloc (.cells #[.slice a1 n c1, .bool tr] 33)).alloc (.cells #[.slice a2 n c2, .bool tr] 33)) := ((Below.refl _ w).alloc (Nat.le_refl _) _).alloc (by simp) _
  have HE := hid (eqw Q1 Q2 a1 a2 n c1 c2 zs _ (h1.later B2) (h2.later B2))
  have HB := hid B2
  have hb : (tr == tr) = true := by simp
  clear h1 h2 B2
  go_enter Try.func19, Try.ntmps19
  go_wp2_with fail
  refine HE.out.mono ?_
  rintro e w1 ⟨rfl, hb1⟩
  have HB1 := hid hb1
  clear hb1
  go_wp2_with fail
  go_ret
  exact ⟨rfl, HB.out.trans (HB1.out.mono HB.out.size)⟩
end Go.Proofs.Ythdgbeaibajkeaa

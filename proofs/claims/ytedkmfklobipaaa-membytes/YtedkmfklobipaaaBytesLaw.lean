/-
  The walk over MemBytes: what was stored is loaded, and nothing else changes.
-/
import Derived.Test.YtedkmfklobipaaaBy
namespace Go.Proofs.Ytedkmfklobipaaa
open Go.RowKit
set_option linter.unusedVariables false

set_option maxRecDepth 100000 in
set_option maxHeartbeats 1000000 in
theorem bytes_no (p m : Int) (a : Nat) (n v : Int) (o : Nat) (w : World) (h : mayB p m = false) :
    Calls Try.prog 3 #[.int .i64 p, .int .i64 m, .int .u64 a, .int .i64 n, .int .u64 v, .int .u64 o] w fun e w' => e = .returned (.bool true) ∧ Below w.heap.size w w' := by
  go_enter Try.func3, Try.ntmps3
  go_wp2_with fail
  refine (works_yes w).mono ?_
  rintro e w1 ⟨rfl, hb⟩
  have HB := hid hb
  clear hb
  go_wp2_with fail
  refine (new_no p m w1 h).mono ?_
  rintro e w' ⟨rfl, hw⟩
  have hw' := hw.symm; subst hw'; clear hw
  go_wp2_with fail
  go_ret
  exact ⟨rfl, HB.out⟩

set_option maxRecDepth 100000 in
set_option maxHeartbeats 1000000 in
theorem bytes_not (p m a : Nat) (n v : Int) (o : Nat) (w : World) (h : mayB p m = true) (ha : a ≤ 18446744073709551615) (ho : o ≤ 18446744073709551615) (hh : hol p a n = false) :
    Calls Try.prog 3 #[.int .i64 p, .int .i64 m, .int .u64 a, .int .i64 n, .int .u64 v, .int .u64 o] w fun e w' => e = .returned (.bool true) ∧ Below w.heap.size w w' := by
  have HMY := hid h
  have HH := hid hh
  clear h hh
  go_enter Try.func3, Try.ntmps3
  go_wp2_with fail
  refine (works_yes w).mono ?_
  rintro e w1 ⟨rfl, hb⟩
  have HB := hid hb
  clear hb
  go_wp2_with fail
  refine (new_yes p m w1 HMY.out).mono ?_
  rintro e w2 ⟨R, sv, PB, rfl, hM, hl, hb, hf⟩
  have HM := hid hM
  have HL := hid hl
  have HB2 := hid (HB.out.trans (hb.mono HB.out.size))
  clear hM hl hb hf HB
  go_wp2_with fail
  refine (load_any R m sv PB _ _ o 1 w2 HM.out ho).mono ?_
  rintro e w' ⟨rfl, hw⟩
  have hw' := hw.symm; subst hw'; clear hw
  generalize ldA PB.length (fun _ => 0) o 1 = x
  generalize hol PB.length o 1 = b
  have HC := hid (show Calls Try.prog 17 #[.pointer (some ⟨R, 0, none⟩), .int .u64 a, .int .i64 n] w2 fun e w' => e = .returned (.bool false) ∧ w' = w2 from (by
    have := hol_mem R m sv PB _ _ a n w2 HM.out ha
    rw [HL.out, HH.out] at this
    exact this))
  go_wp2_with fail
  refine (store_not _ a n v w2 HC.out).mono ?_
  rintro e w' ⟨rfl, hw⟩
  have hw' := hw.symm; subst hw'; clear hw
  go_wp2_with fail
  refine (load_not _ a n w2 HC.out).mono ?_
  rintro e w' ⟨rfl, hw⟩
  have hw' := hw.symm; subst hw'; clear hw
  go_wp2_with fail
  refine (dirty_none R m sv PB _ _ w2 HM.out any_none).mono ?_
  rintro e w' ⟨rfl, hw⟩
  have hw' := hw.symm; subst hw'; clear hw
  go_wp2_with fail
  go_ret
  exact ⟨rfl, HB2.out⟩

theorem wraps64 (n : Int) (h₀ : 0 ≤ n) (h₁ : n < 2 ^ 64) : IntKind.u64.wrap n = n := by rw [IntKind.wrap_u64]; omega
theorem mask_n (v : Int) (n : Nat) (h0 : 0 ≤ v) (h1 : v ≤ 18446744073709551615) (hn : n < 8) : bits .and .u64 v (IntKind.u64.wrap (IntKind.u64.wrap (2 ^ (8 * n)) - 1)) = v % 2 ^ (8 * n) := by
  have hp0 : (0 : Int) < 2 ^ (8 * n) := Int.pow_pos (by decide)
  have hp1 : (2 : Int) ^ (8 * n) ≤ 72057594037927936 := by
    rcases (show n = 0 ∨ n = 1 ∨ n = 2 ∨ n = 3 ∨ n = 4 ∨ n = 5 ∨ n = 6 ∨ n = 7 by omega) with rfl | rfl | rfl | rfl | rfl | rfl | rfl | rfl <;> decide
  rw [wraps64 (2 ^ (8 * n)) (by omega) (by omega), wraps64 (2 ^ (8 * n) - 1) (by omega) (by omega)]
  exact bits_mask .u64 64 (by decide) wraps64 (8 * n) (by omega) v h0 (by simpa using by omega)
theorem mask_b (v : Int) (k : Nat) (h0 : 0 ≤ v) (h1 : v ≤ 18446744073709551615) : bits .and .u64 (v / 2 ^ (8 * k)) 255 = v / 2 ^ (8 * k) % 256 := by
  have hp0 : (0 : Int) < 2 ^ (8 * k) := Int.pow_pos (by decide)
  have h2 : 0 ≤ v / 2 ^ (8 * k) := Int.ediv_nonneg h0 (Int.le_of_lt hp0)
  have h3 : v / 2 ^ (8 * k) ≤ v := Int.ediv_le_self _ h0
  exact bits_mask .u64 64 (by decide) wraps64 8 (by decide) _ h2 (by simpa using by omega)
set_option maxRecDepth 100000 in
set_option maxHeartbeats 4000000 in
theorem bytes_yes (p m a n : Nat) (v : Int) (o : Nat) (w : World) (h : mayB p m = true) (ha : a ≤ 18446744073709551615) (hv : 0 ≤ v ∧ v ≤ 18446744073709551615) (ho : o ≤ 18446744073709551615) (hh : hol p a n = true) :
    Calls Try.prog 3 #[.int .i64 p, .int .i64 m, .int .u64 a, .int .i64 n, .int .u64 v, .int .u64 o] w fun e w' => e = .returned (.bool true) ∧ Below w.heap.size w w' := by
  have HMY := hid h
  have hp64 : p ≤ 64 := by simp [mayB] at h; omega
  have hb0 : 0 < n ∧ n ≤ 8 ∧ a + n ≤ p * 4096 := by simp [hol, wid] at hh; omega
  have HH := hid hh
  clear h hh
  go_enter Try.func3, Try.ntmps3
  go_wp2_with fail
  refine (works_yes w).mono ?_
  rintro e w1 ⟨rfl, hb⟩
  have HB := hid hb
  clear hb
  go_wp2_with fail
  refine (new_yes p m w1 HMY.out).mono ?_
  rintro e w2 ⟨R, sv, PB, rfl, hM, hl, hb, hf⟩
  have HM := hid hM
  have HL := hid hl
  have HB2 := hid (HB.out.trans (hb.mono HB.out.size))
  have HF := hid (show ∀ k, Fp R sv PB k → w.heap.size ≤ k from fun k hk => Nat.le_trans HB.out.size (hf k hk))
  clear hM hl hb hf HB
  go_wp2_with fail
  refine (load_any R m sv PB _ _ o 1 w2 HM.out ho).mono ?_
  rintro e w' ⟨rfl, hw⟩
  have hw' := hw.symm; subst hw'; clear hw
  rw [HL.out]
  go_wp2_with fail
  refine (store_mem R m sv PB _ _ a n v w2 HM.out ha hv (by rw [HL.out]; exact HH.out)).mono ?_
  rintro e w3 ⟨rfl, hM, hK⟩
  have HM3 := hid hM
  have HB3 := hid (HB2.out.trans (fp_new hK HB2.out.size HF.out))
  clear hM hK HM HB2
  go_wp2_with fail
  refine (load_any R m sv PB _ _ a n w3 HM3.out ha).mono ?_
  rintro e w' ⟨rfl, hw⟩
  have hw' := hw.symm; subst hw'; clear hw
  rw [HL.out, HH.out, ldA_back _ v HH.out]
  have HBK := hid (ldA_out (N := p) (n := n) (a := a) (x := o) (fun _ => 0) v)
  have HNX := hid (show ldA p (stR (fun _ => 0) a v n) o 1 = ldA p (stR (fun _ => 0) a v n) o 1 from rfl)
  generalize ldA p (fun _ => 0) o 1 = x at *
  obtain ⟨b, hb⟩ : ∃ b, b = hol p o 1 := ⟨_, rfl⟩
  rw [← hb]
  have HBB := hid hb
  clear hb
  have hbb : (b != b) = false := by simp
  by_cases h8 : n < 8
  · have hmk := mask_n v n hv.1 hv.2 h8
    generalize v % 2 ^ (8 * n) = X at *
    have hxx : (X != X) = false := by simp
    have h81 : ¬ ((n : Int) < 1) := by omega
    have h82 : ¬ ((8 : Int) < n) := by omega
    go_wp2_with fail
    go_loopw [23, 24, 25] (fun i y z wr => ∃ k : Nat, k ≤ n ∧ i = .int .i64 k ∧ wr = w3) (fun i _ _ _ => n - (intOf i).toNat)
    case atStart => exact ⟨0, by omega, rfl, rfl⟩
    case round =>
      obtain ⟨k, hk, rfl, hwr⟩ := hrel
      have hwr' := hwr.symm; subst hwr'; clear hwr
      by_cases hlt : k < n
      · have hld := load_any R m sv PB _ _ (a + k) 1 w3 HM3.out (by omega)
        rw [HL.out, hol_byte HH.out hlt, ldA_byte _ v HH.out hlt, Int.natCast_add] at hld
        have HLD := hid hld
        have hmb := mask_b v k hv.1 hv.2
        clear hld
        go_wp2_with fail
        refine HLD.out.mono ?_
        rintro e w' ⟨rfl, hw⟩
        have hw' := hw.symm; subst hw'; clear hw
        clear HLD
        generalize v / 2 ^ (8 * k) % 256 = Y at *
        have hyy : (Y != Y) = false := by simp
        go_wp2_with fail
        exact ⟨⟨k + 1, by omega, by go_num, trivial⟩, by simp [intOf]; omega⟩
      · obtain rfl : k = n := by omega
        go_wp2_with fail
        have hld := load_any R m sv PB _ _ o 1 w3 HM3.out ho
        rw [HL.out, ← HBB.out] at hld
        refine hld.mono ?_
        rintro e w' ⟨rfl, hw⟩
        have hw' := hw.symm; subst hw'; clear hw hld HNX
        by_cases hlo : o < a
        · rw [HBK.out (.inl hlo)]
          have hxx2 : (x != x) = false := by simp
          go_wp2_with fail
          refine (dirty_some R m sv PB _ _ w3 HM3.out (any_store hp64 HH.out)).mono ?_
          rintro e w4 ⟨vd, rfl, hLI, hb⟩
          obtain ⟨l, hl1, hl2, hl3, hl4, hl5⟩ := dl_store hp64 HH.out
          rw [hl1] at hLI
          have HB4 := hid (HB3.out.trans (hb.mono HB3.out.size))
          obtain ⟨la, lc, rfl⟩ := hLI.slice
          obtain ⟨_, hcs⟩ := hLI.cell
          rcases hcs with hcs | ⟨LB, rfl, hcs⟩
          · omega
          have g0 := hcs 0 hl2
          have g1 := hcs (l.length - 1) (by omega)
          rw [hl4] at g0
          rw [hl5] at g1
          have hcap := (hLI.seg (by intro z hz; have := List.getElem?_of_mem hz; rw [← hl1] at hz; unfold dl at hz; obtain ⟨q, hq, rfl⟩ := List.mem_map.1 hz; have := (List.mem_filter.1 hq).1; have := List.mem_range.1 this; omega) (by omega)).2.1
          generalize l.length = ln at *
          have hd2 : decide ((ln : Int) ≤ 2) = true := by simp; omega
          clear hLI hb hcs hl1 hl4 hl5 HM3 HB3
          go_wp2_with fail
          go_ret
          exact ⟨rfl, HB4.out⟩
        · by_cases hhi : a + k ≤ o
          · rw [HBK.out (.inr hhi)]
            have hxx2 : (x != x) = false := by simp
            have hd3 : decide ((k : Int) ≤ (o : Int) - a) = true := by simp; omega
            go_wp2_with fail
            refine (dirty_some R m sv PB _ _ w3 HM3.out (any_store hp64 HH.out)).mono ?_
            rintro e w4 ⟨vd, rfl, hLI, hb⟩
            obtain ⟨l, hl1, hl2, hl3, hl4, hl5⟩ := dl_store hp64 HH.out
            rw [hl1] at hLI
            have HB4 := hid (HB3.out.trans (hb.mono HB3.out.size))
            obtain ⟨la, lc, rfl⟩ := hLI.slice
            obtain ⟨_, hcs⟩ := hLI.cell
            rcases hcs with hcs | ⟨LB, rfl, hcs⟩
            · omega
            have g0 := hcs 0 hl2
            have g1 := hcs (l.length - 1) (by omega)
            rw [hl4] at g0
            rw [hl5] at g1
            have hcap := (hLI.seg (by intro z hz; have := List.getElem?_of_mem hz; rw [← hl1] at hz; unfold dl at hz; obtain ⟨q, hq, rfl⟩ := List.mem_map.1 hz; have := (List.mem_filter.1 hq).1; have := List.mem_range.1 this; omega) (by omega)).2.1
            generalize l.length = ln at *
            have hd2 : decide ((ln : Int) ≤ 2) = true := by simp; omega
            clear hLI hb hcs hl1 hl4 hl5 HM3 HB3
            go_wp2_with fail
            go_ret
            exact ⟨rfl, HB4.out⟩
          · generalize ldA p (stR (fun _ => 0) a v k) o 1 = y
            have hd3 : decide ((k : Int) ≤ (o : Int) - a) = false := by simp; omega
            go_wp2_with fail
            refine (dirty_some R m sv PB _ _ w3 HM3.out (any_store hp64 HH.out)).mono ?_
            rintro e w4 ⟨vd, rfl, hLI, hb⟩
            obtain ⟨l, hl1, hl2, hl3, hl4, hl5⟩ := dl_store hp64 HH.out
            rw [hl1] at hLI
            have HB4 := hid (HB3.out.trans (hb.mono HB3.out.size))
            obtain ⟨la, lc, rfl⟩ := hLI.slice
            obtain ⟨_, hcs⟩ := hLI.cell
            rcases hcs with hcs | ⟨LB, rfl, hcs⟩
            · omega
            have g0 := hcs 0 hl2
            have g1 := hcs (l.length - 1) (by omega)
            rw [hl4] at g0
            rw [hl5] at g1
            have hcap := (hLI.seg (by intro z hz; have := List.getElem?_of_mem hz; rw [← hl1] at hz; unfold dl at hz; obtain ⟨q, hq, rfl⟩ := List.mem_map.1 hz; have := (List.mem_filter.1 hq).1; have := List.mem_range.1 this; omega) (by omega)).2.1
            generalize l.length = ln at *
            have hd2 : decide ((ln : Int) ≤ 2) = true := by simp; omega
            clear hLI hb hcs hl1 hl4 hl5 HM3 HB3
            go_wp2_with fail
            go_ret
            exact ⟨rfl, HB4.out⟩
  · rw [show v % 2 ^ (8 * n) = v by
      have : n = 8 := by omega
      subst this
      exact Int.emod_eq_of_lt hv.1 (by simpa using by omega)]
    have hxx : (v != v) = false := by simp
    have h81 : ¬ ((n : Int) < 1) := by omega
    have h82 : ¬ ((8 : Int) < n) := by omega
    go_wp2_with fail
    go_loopw [23, 24, 25] (fun i y z wr => ∃ k : Nat, k ≤ n ∧ i = .int .i64 k ∧ wr = w3) (fun i _ _ _ => n - (intOf i).toNat)
    case atStart => exact ⟨0, by omega, rfl, rfl⟩
    case round =>
      obtain ⟨k, hk, rfl, hwr⟩ := hrel
      have hwr' := hwr.symm; subst hwr'; clear hwr
      by_cases hlt : k < n
      · have hld := load_any R m sv PB _ _ (a + k) 1 w3 HM3.out (by omega)
        rw [HL.out, hol_byte HH.out hlt, ldA_byte _ v HH.out hlt, Int.natCast_add] at hld
        have HLD := hid hld
        have hmb := mask_b v k hv.1 hv.2
        clear hld
        go_wp2_with fail
        refine HLD.out.mono ?_
        rintro e w' ⟨rfl, hw⟩
        have hw' := hw.symm; subst hw'; clear hw
        clear HLD
        generalize v / 2 ^ (8 * k) % 256 = Y at *
        have hyy : (Y != Y) = false := by simp
        go_wp2_with fail
        exact ⟨⟨k + 1, by omega, by go_num, trivial⟩, by simp [intOf]; omega⟩
      · obtain rfl : k = n := by omega
        go_wp2_with fail
        have hld := load_any R m sv PB _ _ o 1 w3 HM3.out ho
        rw [HL.out, ← HBB.out] at hld
        refine hld.mono ?_
        rintro e w' ⟨rfl, hw⟩
        have hw' := hw.symm; subst hw'; clear hw hld HNX
        by_cases hlo : o < a
        · rw [HBK.out (.inl hlo)]
          have hxx2 : (x != x) = false := by simp
          go_wp2_with fail
          refine (dirty_some R m sv PB _ _ w3 HM3.out (any_store hp64 HH.out)).mono ?_
          rintro e w4 ⟨vd, rfl, hLI, hb⟩
          obtain ⟨l, hl1, hl2, hl3, hl4, hl5⟩ := dl_store hp64 HH.out
          rw [hl1] at hLI
          have HB4 := hid (HB3.out.trans (hb.mono HB3.out.size))
          obtain ⟨la, lc, rfl⟩ := hLI.slice
          obtain ⟨_, hcs⟩ := hLI.cell
          rcases hcs with hcs | ⟨LB, rfl, hcs⟩
          · omega
          have g0 := hcs 0 hl2
          have g1 := hcs (l.length - 1) (by omega)
          rw [hl4] at g0
          rw [hl5] at g1
          have hcap := (hLI.seg (by intro z hz; have := List.getElem?_of_mem hz; rw [← hl1] at hz; unfold dl at hz; obtain ⟨q, hq, rfl⟩ := List.mem_map.1 hz; have := (List.mem_filter.1 hq).1; have := List.mem_range.1 this; omega) (by omega)).2.1
          generalize l.length = ln at *
          have hd2 : decide ((ln : Int) ≤ 2) = true := by simp; omega
          clear hLI hb hcs hl1 hl4 hl5 HM3 HB3
          go_wp2_with fail
          go_ret
          exact ⟨rfl, HB4.out⟩
        · by_cases hhi : a + k ≤ o
          · rw [HBK.out (.inr hhi)]
            have hxx2 : (x != x) = false := by simp
            have hd3 : decide ((k : Int) ≤ (o : Int) - a) = true := by simp; omega
            go_wp2_with fail
            refine (dirty_some R m sv PB _ _ w3 HM3.out (any_store hp64 HH.out)).mono ?_
            rintro e w4 ⟨vd, rfl, hLI, hb⟩
            obtain ⟨l, hl1, hl2, hl3, hl4, hl5⟩ := dl_store hp64 HH.out
            rw [hl1] at hLI
            have HB4 := hid (HB3.out.trans (hb.mono HB3.out.size))
            obtain ⟨la, lc, rfl⟩ := hLI.slice
            obtain ⟨_, hcs⟩ := hLI.cell
            rcases hcs with hcs | ⟨LB, rfl, hcs⟩
            · omega
            have g0 := hcs 0 hl2
            have g1 := hcs (l.length - 1) (by omega)
            rw [hl4] at g0
            rw [hl5] at g1
            have hcap := (hLI.seg (by intro z hz; have := List.getElem?_of_mem hz; rw [← hl1] at hz; unfold dl at hz; obtain ⟨q, hq, rfl⟩ := List.mem_map.1 hz; have := (List.mem_filter.1 hq).1; have := List.mem_range.1 this; omega) (by omega)).2.1
            generalize l.length = ln at *
            have hd2 : decide ((ln : Int) ≤ 2) = true := by simp; omega
            clear hLI hb hcs hl1 hl4 hl5 HM3 HB3
            go_wp2_with fail
            go_ret
            exact ⟨rfl, HB4.out⟩
          · generalize ldA p (stR (fun _ => 0) a v k) o 1 = y
            have hd3 : decide ((k : Int) ≤ (o : Int) - a) = false := by simp; omega
            go_wp2_with fail
            refine (dirty_some R m sv PB _ _ w3 HM3.out (any_store hp64 HH.out)).mono ?_
            rintro e w4 ⟨vd, rfl, hLI, hb⟩
            obtain ⟨l, hl1, hl2, hl3, hl4, hl5⟩ := dl_store hp64 HH.out
            rw [hl1] at hLI
            have HB4 := hid (HB3.out.trans (hb.mono HB3.out.size))
            obtain ⟨la, lc, rfl⟩ := hLI.slice
            obtain ⟨_, hcs⟩ := hLI.cell
            rcases hcs with hcs | ⟨LB, rfl, hcs⟩
            · omega
            have g0 := hcs 0 hl2
            have g1 := hcs (l.length - 1) (by omega)
            rw [hl4] at g0
            rw [hl5] at g1
            have hcap := (hLI.seg (by intro z hz; have := List.getElem?_of_mem hz; rw [← hl1] at hz; unfold dl at hz; obtain ⟨q, hq, rfl⟩ := List.mem_map.1 hz; have := (List.mem_filter.1 hq).1; have := List.mem_range.1 this; omega) (by omega)).2.1
            generalize l.length = ln at *
            have hd2 : decide ((ln : Int) ≤ 2) = true := by simp; omega
            clear hLI hb hcs hl1 hl4 hl5 HM3 HB3
            go_wp2_with fail
            go_ret
            exact ⟨rfl, HB4.out⟩
end Go.Proofs.Ytedkmfklobipaaa

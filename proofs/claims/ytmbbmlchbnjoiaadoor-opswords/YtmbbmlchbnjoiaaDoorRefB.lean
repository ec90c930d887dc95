/-
  The walks over the document's Find and All, and over EqBytes of two lists that are alike.
-/
import Derived.Test.YtmbbmlchbnjoiaaDoorPureC
import Derived.Deep.QuietTactic
import Derived.BigQuiet
namespace Go.Proofs.YtmbbmlchbnjoiaaDoor
open Go.RowKit
set_option linter.unusedVariables false

/-- The document's row of a byte, called. -/
theorem refRow (c : Int) (w : World) (k tk : Int) (wd pp ps : ByteArray) (pl ok : Bool) (h : refD refTab c = ((k, wd, tk, pp, ps, pl), ok)) : Calls Tryd.prog 7 #[.int .u8 c] w fun e w' =>
    e = .returned (.tuple #[.agg #[.int .u8 k, .string wd, .int .i8 tk, .string pp, .string ps, .bool pl], .bool ok]) ∧ w' = w.alloc (.cells #[.int .u8 k, .string wd, .int .i8 tk, .string pp, .string ps, .bool pl] 27) := by
  have := ref7 c w
  rw [refLook_eq, h] at this
  exact this

set_option maxRecDepth 100000 in
set_option maxHeartbeats 4000000 in
theorem refFind11 (s : ByteArray) (w : World) : Calls Tryd.prog 11 #[.string s] w fun e w' => e = .returned (.tuple #[.int .u8 (refFrom 256 0 s).1, .bool (refFrom 256 0 s).2]) ∧ Below w.heap.size w w' := by
  obtain ⟨V, hV⟩ : ∃ V, refFrom 256 0 s = V := ⟨_, rfl⟩
  rw [hV]
  go_enter Tryd.func11, Tryd.ntmps11
  go_wp2_with fail
  go_loopw [4] (fun p wr => ∃ i : Nat, p = .int .i64 i ∧ i ≤ 256 ∧ Below w.heap.size w wr ∧ refFrom (256 - i) i s = V) (fun p wr => 256 - (intOf p).toNat)
  case atStart => exact ⟨0, rfl, by decide, Below.refl _ _, hV⟩
  case round =>
    clear hV
    obtain ⟨i, rfl, hi, hB, hV⟩ := hrel
    by_cases h7 : i = 256
    · subst h7
      have hx : V = (0, false) := hV.symm
      subst hx
      go_wp2_with fail
      go_ret2
      exact ⟨rfl, hB⟩
    have hlt : (i : Int) < 256 := by omega
    have hw : wrap64 ((i : Int) + 1) = i + 1 := by unfold wrap64; omega
    have hw8 : IntKind.u8.wrap (i : Int) = i := by rw [IntKind.wrap_u8]; omega
    obtain ⟨n, hn⟩ : ∃ n, 256 - i = n + 1 := ⟨255 - i, by omega⟩
    have hn2 : 256 - (i + 1) = n := by omega
    rw [hn, refFrom] at hV
    obtain ⟨R, hR⟩ : ∃ R, refD refTab (i : Int) = R := ⟨_, rfl⟩
    rw [hR] at hV
    obtain ⟨⟨k, wd, tk, pp, ps, pl⟩, ok⟩ := R
    have HR := hid (refRow i wr k tk wd pp ps pl ok hR)
    clear hR
    have hB2 := hid ((hB.alloc hB.size (.cells #[.int .u8 k, .string wd, .int .i8 tk, .string pp, .string ps, .bool pl] 27)).alloc (by have := hB.size; simp; omega) (.cells #[.int .u8 k, .string wd, .int .i8 tk, .string pp, .string ps, .bool pl] 27))
    have HV := hid hV
    clear hV hB
    cases ok
    · go_wp2_with fail
      refine HR.out.mono ?_
      rintro e w2 ⟨rfl, rfl⟩
      go_wp2_with fail
      exact ⟨⟨i + 1, by simp, by omega, hB2.out, by have := HV.out; rw [hn2]; simpa using this⟩, by simp [intOf]; omega⟩
    · by_cases he : wd = s
      · have hx : V = ((i : Int), true) := by have := HV.out; rw [if_pos ⟨rfl, he⟩] at this; exact this.symm
        subst hx
        subst he
        go_wp2_with fail
        refine HR.out.mono ?_
        rintro e w2 ⟨rfl, rfl⟩
        go_wp2_with fail
        go_ret2
        exact ⟨rfl, hB2.out⟩
      · have he2 : (wd.toList == s.toList) = false := by rw [text_eq]; simp [he]
        have hx := HV.out
        rw [if_neg (fun e => he e.2)] at hx
        have HX := hid hx
        clear hx HV
        go_wp2_with fail
        refine HR.out.mono ?_
        rintro e w2 ⟨rfl, rfl⟩
        go_wp2_with fail
        exact ⟨⟨i + 1, by simp, by omega, hB2.out, by rw [hn2]; simpa using HX.out⟩, by simp [intOf]; omega⟩

set_option maxRecDepth 100000 in
set_option maxHeartbeats 4000000 in
theorem refAll15 (w : World) : Calls Tryd.prog 15 #[] w fun e w' => ∃ v, e = .returned v ∧ Made w.heap.size w' v (refOps 256) ∧ Below w.heap.size w w' := by
  obtain ⟨i5, q0, q1, q2, q3⟩ := info_parts Tryd.infoB
  go_enter Tryd.func15, Tryd.ntmps15
  go_wp2_with fail
  go_loopw [1, 2] (fun v p wr => ∃ i : Nat, p = .int .i64 i ∧ i ≤ 256 ∧ Below w.heap.size w wr ∧ Made w.heap.size wr v (refOps i)) (fun v p wr => 256 - (intOf p).toNat)
  case atStart => exact ⟨0, rfl, by decide, Below.refl _ _, .inl ⟨rfl, rfl⟩⟩
  case round =>
    obtain ⟨i, rfl, hi, hB, hM⟩ := hrel
    by_cases h7 : i = 256
    · subst h7
      go_wp2_with fail
      go_ret
      exact ⟨_, rfl, hM, hB⟩
    have hlt : (i : Int) < 256 := by omega
    have hw : wrap64 ((i : Int) + 1) = i + 1 := by unfold wrap64; omega
    have hw8 : IntKind.u8.wrap (i : Int) = i := by rw [IntKind.wrap_u8]; omega
    have hsu := refOps_succ i
    have hle := refOps_len i
    obtain ⟨R, hR⟩ : ∃ R, refD refTab (i : Int) = R := ⟨_, rfl⟩
    rw [hR] at hsu
    obtain ⟨⟨k, wd, tk, pp, ps, pl⟩, ok⟩ := R
    have HR := hid (refRow i wr k tk wd pp ps pl ok hR)
    clear hR
    have hk1 := Kept.alloc (fun _ => False) wr (.cells #[.int .u8 k, .string wd, .int .i8 tk, .string pp, .string ps, .bool pl] 27)
    have hk2 := Kept.alloc (fun _ => False) (wr.alloc (.cells #[.int .u8 k, .string wd, .int .i8 tk, .string pp, .string ps, .bool pl] 27)) (.cells #[.int .u8 k, .string wd, .int .i8 tk, .string pp, .string ps, .bool pl] 27)
    have hM2 := (hM.kept hk1 (fun _ _ h => h)).kept hk2 (fun _ _ h => h)
    have hB2 := (hB.alloc hB.size (.cells #[.int .u8 k, .string wd, .int .i8 tk, .string pp, .string ps, .bool pl] 27)).alloc (by have := hB.size; simp; omega) (.cells #[.int .u8 k, .string wd, .int .i8 tk, .string pp, .string ps, .bool pl] 27)
    clear hM hB hk1 hk2
    cases ok
    · have hsame : refOps (i + 1) = refOps i := by rw [hsu]; simp
      have HM := hid hM2
      have HB := hid hB2
      have HS := hid hsame
      clear hM2 hB2 hsame hsu hle
      go_wp2_with fail
      refine HR.out.mono ?_
      rintro e w2 ⟨rfl, rfl⟩
      go_wp2_with fail
      exact ⟨⟨i + 1, by simp, by omega, HB.out, by rw [HS.out]; exact HM.out⟩, by simp [intOf]; omega⟩
    · have hsame : refOps (i + 1) = refOps i ++ [(i : Int)] := by rw [hsu]; simp
      obtain ⟨zs, hzs⟩ : ∃ zs, refOps i = zs := ⟨_, rfl⟩
      rw [hzs] at hM2 hle hsame
      obtain ⟨va, vc, rfl⟩ := hM2.slice
      have hb1 : zs.length + 1 ≤ maxLen := by unfold maxLen; omega
      have hb2 : (zs.length + 1) * 1 ≤ 140737488355328 := by omega
      have hM3 := hM2.kept (Kept.alloc (fun _ => False) ((wr.alloc (.cells #[.int .u8 k, .string wd, .int .i8 tk, .string pp, .string ps, .bool pl] 27)).alloc (.cells #[.int .u8 k, .string wd, .int .i8 tk, .string pp, .string ps, .bool pl] 27)) (.cells #[.int .u8 (i : Int)] 5)) (fun _ _ h => h)
      have HOW := hid hM3.own
      have HM := hid hM3
      have HB := hid (hB2.alloc hB2.size (.cells #[.int .u8 (i : Int)] 5))
      have HS := hid hsame
      have HSZ := hid (show w.heap.size ≤ (((wr.alloc (.cells #[.int .u8 k, .string wd, .int .i8 tk, .string pp, .string ps, .bool pl] 27)).alloc (.cells #[.int .u8 k, .string wd, .int .i8 tk, .string pp, .string ps, .bool pl] 27)).alloc (.cells #[.int .u8 (i : Int)] 5)).heap.size from HB.out.size)
      clear hM2 hM3 hB2 hsame hsu hle hzs
      go_wp2_with fail
      refine HR.out.mono ?_
      rintro e w2 ⟨rfl, rfl⟩
      go_wp2_with (first
        | (at_builtin; refine app_cell _ rfl (.tmp 16) (.tmp 19) 34 rfl 5 i5 (.int .u8 0) 1 Tryd.underlying34 q0 q1 q2 q3 rfl _ zs.length _ rfl HOW.out ⟨wr.heap.size + 1 + 1, 0, none⟩ (.int .u8 (i : Int)) rfl (by simp [go_sem, Addr.add]) rfl hb1 hb2 ?_; intro B cap' w3 hrow hcase; obtain ⟨m1, m2, _⟩ := HM.out.more HSZ.out hrow hcase; have M1 := hid m1; have M2 := hid m2; clear hrow hcase m1 m2))
      exact ⟨⟨i + 1, by simp, by omega, HB.out.trans M2.out, by rw [HS.out]; exact M1.out⟩, by simp [intOf]; omega⟩

set_option maxHeartbeats 1000000 in
theorem eq14 (b1 b2 n c1 c2 : Nat) (zs : List Int) (w : World) (hz : zs.length = n) (hn : n ≤ 1099511627776)
    (hc1 : ∀ j, j < n → w.cell? ⟨b1, j, none⟩ = some (.int .u8 (zs.getD j 0)))
    (hc2 : ∀ j, j < n → w.cell? ⟨b2, j, none⟩ = some (.int .u8 (zs.getD j 0))) :
    Calls Tryd.prog 14 #[.slice (some ⟨b1, 0, none⟩) n c1, .slice (some ⟨b2, 0, none⟩) n c2] w fun e w' => e = .returned (.bool true) ∧ ∃ m, w' = w.drewN m := by
  have hne : ((n : Int) != n) = false := by simp
  go_enter Tryd.func14, Tryd.ntmps14
  go_wp2
  go_loopw [5] (fun i wr => ∃ k m : Nat, k ≤ n ∧ i = .int .i64 k ∧ wr = w.drewN m) (fun i _ => n - (intOf i).toNat)
  case atStart => exact ⟨0, 0, by omega, rfl, rfl⟩
  case round =>
    obtain ⟨k, m, hk, rfl, rfl⟩ := hrel
    by_cases hlt : k < n
    · have g1 : w.cell? ⟨b1, k, none⟩ = some (.int .u8 (zs.getD k 0)) := hc1 k hlt
      have g2 : w.cell? ⟨b2, k, none⟩ = some (.int .u8 (zs.getD k 0)) := hc2 k hlt
      clear hc1 hc2
      have hlt' : (k : Int) < (n : Int) := by omega
      go_wp2
      go_quiet (fail)
      go_wp2
      exact ⟨⟨k + 1, m + nq, by omega, by go_num, rfl⟩, by simp [intOf]; omega⟩
    · clear hc1 hc2
      go_wp2
      go_ret
      exact ⟨rfl, m, rfl⟩

/-- The cells of a list that was made. -/
theorem Made.cells {n₀ : Nat} {w : World} {v : Value} {zs : List Int} (h : Made n₀ w v zs) (h0 : 0 < zs.length) : ∃ B cap, v = .slice (some ⟨B, 0, none⟩) zs.length cap ∧ Row w 5 B zs.length cap (zs.map (Value.int .u8)) ∧ n₀ ≤ B ∧ ∀ j, j < zs.length → w.cell? ⟨B, j, none⟩ = some (.int .u8 (zs.getD j 0)) := by
  rcases h with ⟨_, rfl⟩ | ⟨B, cap, rfl, hr, hB⟩
  · simp at h0
  · refine ⟨B, cap, rfl, hr, hB, fun j hj => ?_⟩
    rw [hr.cell j hj]
    simp [List.getD, hj]
end Go.Proofs.YtmbbmlchbnjoiaaDoor

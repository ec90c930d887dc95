/-
  The walks over WidePages and SparePages.
-/
import Derived.Test.YtedkmfklobipaaaDoorWe
namespace Go.Proofs.YtedkmfklobipaaaDoor
open Go.RowKit
set_option linter.unusedVariables false

theorem conv_in (s : ByteArray) (w : World) : (convert 9 41 (.string s)).run Tryd.prog w = .ok (.slice (some ⟨w.heap.size, 0, none⟩) s.size (grownCap w s.size 0 5)) (Lib.bytesWorld w 5 s) :=
  Lib.run_convert_string_bytes w 9 41 5 s Tryd.underlying9 Tryd.underlying41 Tryd.underlying5
theorem conv_below (s : ByteArray) (w : World) : Below w.heap.size w (Lib.bytesWorld w 5 s) :=
  ⟨rfl, rfl, rfl, by rw [Lib.bytesWorld_size]; omega, fun k hk => Lib.bytesWorld_at_old w 5 s k hk⟩
theorem conv_bytes (s : ByteArray) (w : World) : Lib.Bytes (Lib.bytesWorld w 5 s) w.heap.size 0 s := fun i hi => by
  rw [Nat.zero_add, Lib.bytesWorld_cell w 5 s i hi]
  congr 3
  have h2 : i < s.data.toList.length := by simpa using hi
  rw [List.getD_eq_getElem?_getD, List.getElem?_eq_getElem h2]
  rfl

set_option maxRecDepth 100000 in
set_option maxHeartbeats 1000000 in
theorem wideP (v : Value) (n : Nat) (ln : Nat → Nat) (g : Nat → Nat → Int) (w : World) (h : PSeg w v n ln g) (hn : n ≤ 1048576) (hln : ∀ i, i < n → ln i ≤ 1048576) (ht : Tens w.heap.size w) :
    Calls Tryd.prog 9 #[v] w fun e w' => ∃ QF CF, e = .returned (.slice (some ⟨w.heap.size, 0, none⟩) n (n + 64)) ∧ Wp w' w.heap.size n ln g (n + 64) QF CF ∧ Below w.heap.size w w' := by
  obtain ⟨a, c, rfl, hc, _, k1⟩ := id h
  have HSH := hid (show n = 0 ∨ ∃ b o, a = some ⟨b, o, none⟩ from k1.elim .inl (fun ⟨b, o, e, _⟩ => .inr ⟨b, o, e⟩))
  obtain ⟨i1, hi1, hy0, hy1, hy2⟩ := info_parts Tryd.infBytes
  have HI1 := hid hi1
  have HP := hid h
  have HT := hid ht
  have HLN := hid hln
  clear k1 h hi1 ht hln
  go_enter Tryd.func9, Tryd.ntmps9
  go_wp2_with (at_make; (refine wpList_make_full _ rfl _ _ 22 rfl w.heap.size 41 i1 (.slice none 0 0) 1 Tryd.underlying22 HI1.out hy0 hy1 .i64 .i64 _ _ (n + 64) rfl rfl (by omega) (by omega) (by rw [hy2]; omega) (by unfold maxLen; omega) (Nat.le_refl _) ?_; intro w1 hown hgrow; have hbel : Below w.heap.size w w1 := (Below.refl _ _).grown hgrow (Nat.le_refl _) (by simp); have HO := hid hown; have HG := hid hbel; clear hown hgrow hbel))
  have H0 : Wp w1 w.heap.size n ln g 0 (fun _ => 0) (fun _ => 0) := by
    refine ⟨?_, fun i hi => by omega, fun i j _ hj => by omega, fun i _ hi => by omega, fun i _ hi => by omega⟩
    have e : (madeCells (Value.slice none 0 0).cells ((n + 64) * 1)).toList = (List.range (n + 64)).map (wpU n ln (fun _ => 0) (fun _ => 0) 0) := by
      rw [Nat.mul_one]
      refine (toList_madeCells_one _ _).trans ?_
      apply List.ext_getElem?
      intro j
      rw [List.getElem?_replicate, List.getElem?_map]
      by_cases hj : j < n + 64
      · rw [if_pos hj, List.getElem?_range hj]; simp [wpU]
      · rw [if_neg hj, List.getElem?_eq_none (by rw [List.length_range]; omega)]; rfl
    have := HO.out
    rw [e] at this
    exact Row.of this
  have HH := hid H0
  clear H0 HO
  go_loopw [4] (fun i wr => ∃ k : Nat, k ≤ n + 64 ∧ i = .int .i64 k ∧ Hid (∃ QF CF, Wp wr w.heap.size n ln g k QF CF) ∧ Hid (Below w.heap.size w wr)) (fun i _ => n + 64 - (intOf i).toNat)
  case atStart => exact ⟨0, by omega, rfl, hid ⟨_, _, HH.out⟩, HG⟩
  case round =>
    obtain ⟨k, hk, rfl, HX, HB⟩ := hrel
    clear HH HG
    by_cases hlt : k < n + 64
    · obtain ⟨QF, CF, hW⟩ := HX.out
      have HW := hid hW
      have hLlt := hW.row.lt
      have hcl0 : wr.cell? ⟨w.heap.size, k, none⟩ = some (.slice none 0 0) := by
        rw [hW.row.cell k hlt, List.getElem?_map, List.getElem?_range hlt]
        simp [wpU]
      have hfr0 := hW.row.free k
      have hlt' : (k : Int) < (n : Int) + 64 := by omega
      have HLT := hid hlt
      clear hW HX
      by_cases hkn : k < n
      · obtain ⟨b, o, rfl⟩ : ∃ b o, a = some ⟨b, o, none⟩ := HSH.out.elim (fun h => by omega) id
        have hPS := HP.out.keep (kept_below HB.out)
        obtain ⟨ua, uc, hcl, _, _, hbs⟩ := hPS.at hkn
        have HWB := hid (wideB _ (ln k) (g k) wr hbs (by have := HLN.out k hkn; omega))
        have hkn' : (k : Int) < n := by omega
        have HKN := hid hkn
        clear hPS hbs
        go_wp2_with fail
        refine HWB.out.mono ?_
        rintro e w2 ⟨Q, rfl, hQ, hrow, hb⟩
        have hcl2 := (hb.cell (p := ⟨w.heap.size, k, none⟩) hLlt).trans hcl0
        have hfr2 := (frozen_of_block (hb.block w.heap.size hLlt) k).trans hfr0
        have HN := hid (HW.out.next (q := Q) (c := 0) HLT.out hQ hrow.lt hb (u := .slice (some ⟨Q, 0, none⟩) (ln k) (ln k + 64)) (by unfold wpU upd; rw [if_pos (by omega), if_pos HKN.out, if_pos rfl]) (fun _ => hrow) (fun h => absurd HKN.out (by omega)))
        have HB2 := hid (show Below w.heap.size w (w2.setCell ⟨w.heap.size, k, none⟩ (.slice (some ⟨Q, 0, none⟩) (ln k) (ln k + 64))) from (HB.out.trans (hb.mono HB.out.size)).setCell (Nat.le_refl _) _)
        clear hb hrow hcl hcl0 hfr0
        go_wp2_with fail
        exact ⟨⟨k + 1, by omega, by go_num, hid ⟨_, _, HN.out⟩, HB2⟩, by simp [intOf]; omega⟩
      · have HTX := hid (textC w.heap.size 9 k wr (by omega) (by omega) (HT.out.later HB.out))
        have hkn' : ¬ (k : Int) < n := by omega
        have HKN := hid hkn
        obtain ⟨s, hs⟩ : ∃ s, s = txt 9 k := ⟨_, rfl⟩
        rw [← hs] at HTX
        have HS := hid hs
        clear hs
        have hcv := conv_in s
        go_wp2_with fail
        refine HTX.out.mono ?_
        rintro e w2 ⟨rfl, hb⟩
        have hb3 := hb.trans (((conv_below s w2)).mono hb.size)
        have hcl2 := (hb3.cell (p := ⟨w.heap.size, k, none⟩) hLlt).trans hcl0
        have hfr2 := (frozen_of_block (hb3.block w.heap.size hLlt) k).trans hfr0
        have HN := hid (HW.out.next (q := w2.heap.size) (c := grownCap w2 s.size 0 5) HLT.out hb.size (by rw [Lib.bytesWorld_size]; omega) hb3 (u := .slice (some ⟨w2.heap.size, 0, none⟩) s.size (grownCap w2 s.size 0 5)) (by unfold wpU upd; rw [if_pos (by omega), if_neg HKN.out, if_pos rfl, if_pos rfl, HS.out]) (fun h => absurd h HKN.out) (fun _ => HS.out ▸ conv_bytes s w2))
        have HB2 := hid (show Below w.heap.size w ((Lib.bytesWorld w2 5 s).setCell ⟨w.heap.size, k, none⟩ (.slice (some ⟨w2.heap.size, 0, none⟩) s.size (grownCap w2 s.size 0 5))) from (HB.out.trans (hb3.mono HB.out.size)).setCell (Nat.le_refl _) _)
        clear hb hcl0 hfr0 hb3
        go_wp2_with fail
        exact ⟨⟨k + 1, by omega, by go_num, hid ⟨_, _, HN.out⟩, HB2⟩, by simp [intOf]; omega⟩
    · obtain rfl : k = n + 64 := by omega
      go_wp2_with fail
      go_ret
      obtain ⟨QF, CF, hW⟩ := HX.out
      exact ⟨QF, CF, rfl, hW, HB.out⟩

theorem Wp.U {w : World} {L n : Nat} {ln : Nat → Nat} {g : Nat → Nat → Int} {QF CF : Nat → Nat} (h : Wp w L n ln g (n + 64) QF CF) {i : Nat} (hi : i < n + 64) : w.cell? ⟨L, i, none⟩ = some (wpU n ln QF CF (n + 64) i) := by
  rw [h.row.cell i hi, List.getElem?_map, List.getElem?_range hi]; rfl
theorem Wp.later {w w' : World} {L n : Nat} {ln : Nat → Nat} {g : Nat → Nat → Int} {k : Nat} {QF CF : Nat → Nat} (h : Wp w L n ln g k QF CF) (hb : Below w.heap.size w w') : Wp w' L n ln g k QF CF := h.kept (kept_below hb) (fun _ _ x => x)

set_option maxRecDepth 100000 in
set_option maxHeartbeats 2000000 in
theorem spareP (L n : Nat) (ln : Nat → Nat) (g : Nat → Nat → Int) (QF CF : Nat → Nat) (TB : Nat) (w : World) (h : Wp w L n ln g (n + 64) QF CF) (hn : n ≤ 1048576) (hln : ∀ i, i < n → ln i ≤ 1048576) (ht : Tens TB w) (hTB : TB ≤ w.heap.size) :
    Calls Tryd.prog 13 #[.slice (some ⟨L, 0, none⟩) n (n + 64)] w fun e w' => e = .returned (.bool true) ∧ Below w.heap.size w w' := by
  have HW := hid h
  have HT := hid ht
  have HLN := hid hln
  clear h ht hln
  go_enter Tryd.func13, Tryd.ntmps13
  go_wp2_with fail
  go_loopw [4, 5] (fun i x wr => ∃ k : Nat, n ≤ k ∧ k ≤ n + 64 ∧ i = .int .i64 k ∧ Hid (Below w.heap.size w wr)) (fun i _ _ => n + 64 - (intOf i).toNat)
  case atStart => exact ⟨n, by omega, by omega, rfl, hid (Below.refl _ _)⟩
  case round =>
    obtain ⟨k, hk0, hk, rfl, HB⟩ := hrel
    have HWR := hid (HW.out.later HB.out)
    by_cases hlt : k < n + 64
    · have hcl := HWR.out.U hlt
      have hU : wpU n ln QF CF (n + 64) k = .slice (some ⟨QF k, 0, none⟩) (txt 9 k).size (CF k) := by unfold wpU; rw [if_pos hlt, if_neg (by omega)]
      rw [hU] at hcl
      have hby := HWR.out.tx k hk0 hlt
      have hlt' : (k : Int) < (n : Int) + 64 := by omega
      have hd1 := below_drewN (Below.refl wr.heap.size wr) 1
      have HTX := hid (textC TB 9 k (wr.drewN 1) (by omega) (by omega) ((HT.out.later (HB.out.mono hTB)).later (hd1.mono (Nat.le_trans hTB HB.out.size))))
      obtain ⟨s, hs⟩ : ∃ s, s = txt 9 k := ⟨_, rfl⟩
      rw [← hs] at HTX hcl hby
      have hby1 : Lib.Bytes (wr.drewN 1) (QF k) 0 s := bytes_keep hby (kept_below hd1) (fun x => x)
      have hc1 : (convert 41 9 (.slice (some ⟨QF k, 0, none⟩) s.size (CF k))).run Tryd.prog wr.drew = .ok (.string s) wr.drew := Lib.run_convert_whole _ 41 5 9 Tryd.underlying41 Tryd.underlying5 Tryd.underlying9 (QF k) 0 s hby1 (CF k)
      have HBY := hid hby1
      have HD1 := hid hd1
      have hss : (s.toList == s.toList) = true := by simp
      generalize QF k = q at *
      generalize CF k = cq at *
      clear hU hs hby hby1 hd1
      go_wp2_with fail
      go_region_with (refine HTX.out.mono ?_; rintro e w2 ⟨rfl, hb⟩; have hc2 : (convert 41 9 (.slice (some ⟨q, 0, none⟩) s.size cq)).run Tryd.prog w2 = .ok (.string s) w2 := Lib.run_convert_whole _ 41 5 9 Tryd.underlying41 Tryd.underlying5 Tryd.underlying9 q 0 s (bytes_keep HBY.out (kept_below hb) (fun x => x)) cq; have HB2 := hid (HB.out.trans ((HD1.out.trans (hb.mono HD1.out.size)).mono HB.out.size)); clear hb)
      all_goals
        go_wp2_with fail
        exact ⟨⟨k + 1, by omega, by omega, by go_num, HB2⟩, by simp [intOf]; omega⟩
    · have hge : ¬ (k : Int) < (n : Int) + 64 := by omega
      generalize wr = wa at *
      clear hlt hk hk0
      go_wp2_with fail
      go_loopw [6] (fun i wr => ∃ j : Nat, j ≤ n ∧ i = .int .i64 j ∧ wr = wa) (fun i _ => n - (intOf i).toNat)
      case atStart => exact ⟨0, by omega, rfl, rfl⟩
      case round =>
        obtain ⟨j, hj, rfl, hwr⟩ := hrel
        have hwr' := hwr.symm; subst hwr'; clear hwr
        by_cases hlt : j < n
        · have hcl := HWR.out.U (i := j) (by omega)
          have hU : wpU n ln QF CF (n + 64) j = .slice (some ⟨QF j, 0, none⟩) (ln j) (ln j + 64) := by unfold wpU; rw [if_pos (by omega), if_pos hlt]
          rw [hU] at hcl
          have HSB := hid (spareB (QF j) (ln j) (g j) wa (by have := HLN.out j hlt; omega) (HWR.out.pg j hlt (by omega)))
          have hlt' : (j : Int) < n := by omega
          clear hU
          go_wp2_with fail
          refine HSB.out.mono ?_
          rintro e w' ⟨rfl, hw⟩
          have hw' := hw.symm; subst hw'; clear hw
          go_wp2_with fail
          exact ⟨⟨j + 1, by omega, by go_num, trivial⟩, by simp [intOf]; omega⟩
        · obtain rfl : j = n := by omega
          go_wp2_with fail
          go_ret
          exact ⟨rfl, HB.out⟩
end Go.Proofs.YtedkmfklobipaaaDoor

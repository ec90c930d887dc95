/-
  The walk over Pages.
-/
import Derived.Test.YtedkmfklobipaaaDoorDi
import Derived.Laws.CopyOwn
namespace Go.Proofs.YtedkmfklobipaaaDoor
open Go.RowKit
set_option linter.unusedVariables false

/-- A page as a slice. -/
def sv4 (q : Nat) : Value := .slice (some ⟨q, 0, none⟩) 4096 4096
theorem Tryd.infBytes : (Tryd.prog.info? 41).map (fun i => (i.zero, i.size, i.bytes)) = some (some (.slice none 0 0), 1, 24) := by kernel_rfl
theorem Tryd.infU8 : (Tryd.prog.info? 5).map (fun i => (i.zero, i.size, i.bytes)) = some (some (.int .u8 0), 1, 1) := by kernel_rfl
theorem Tryd.infU8s : (Tryd.prog.info? 5).map (·.size) = some 1 := by kernel_rfl

/-- Pages that were told: the list's block L, the pages' blocks QB, the bytes f. -/
structure Pgs (w : World) (base L N : Nat) (QB : List Nat) (f : Nat → Int) : Prop where
  row : Row w 41 L N N (QB.map sv4 ++ List.replicate (N - QB.length) (.slice none 0 0))
  le : QB.length ≤ N
  lo : base ≤ L
  pg : ∀ i q, QB[i]? = some q → base ≤ q ∧ w.heap[q]? = some (Obj.cells (pageC f i) 5)
  nd : QB.Nodup
theorem Pgs.later {w w' : World} {base L N : Nat} {QB : List Nat} {f : Nat → Int} (h : Pgs w base L N QB f) (hb : Below w.heap.size w w') : Pgs w' base L N QB f :=
  ⟨h.row.keep (hb.block L h.row.lt), h.le, h.lo, fun i q hq => ⟨(h.pg i q hq).1, (hb.block q (lt_at (h.pg i q hq).2)).trans (h.pg i q hq).2⟩, h.nd⟩
theorem Pgs.kept {S : Nat → Prop} {w w' : World} {base L N : Nat} {QB : List Nat} {f : Nat → Int} (h : Pgs w base L N QB f) (hk : Kept S w w') (hs : ∀ k, base ≤ k → ¬ S k) : Pgs w' base L N QB f :=
  ⟨h.row.keep (hk.block L h.row.lt (hs L h.lo)), h.le, h.lo, fun i q hq => ⟨(h.pg i q hq).1, (hk.block q (lt_at (h.pg i q hq).2) (hs q (h.pg i q hq).1)).trans (h.pg i q hq).2⟩, h.nd⟩

/-- One more. -/
theorem Pgs.more {wr w1 w3 : World} {base L N : Nat} {QB : List Nat} {f : Nat → Int} (h : Pgs wr base L N QB f) (hlt : QB.length < N) {q : Nat} (hb : base ≤ wr.heap.size) (hq : q = wr.heap.size)
    (hk1 : Kept (fun _ => False) wr w1) (hk3 : Below q (w1.setCell ⟨L, QB.length, none⟩ (sv4 q)) w3) (hpg : w3.heap[q]? = some (Obj.cells (pageC f QB.length) 5)) :
    Pgs w3 base L N (QB ++ [q]) f := by
  have hLlt := h.row.lt
  have hs1 := hk1.size
  have hr1 := h.row.keep (hk1.block L hLlt (fun x => x))
  obtain ⟨hr2, hk2⟩ := hr1.put QB.length (sv4 q)
  have hr3 := hr2.keep (hk3.block L (by omega))
  refine ⟨?_, by simp; omega, h.lo, fun i p hp => ?_, ?_⟩
  · have e : (QB.map sv4 ++ List.replicate (N - QB.length) (Value.slice none 0 0)).set QB.length (sv4 q) = (QB ++ [q]).map sv4 ++ List.replicate (N - (QB ++ [q]).length) (Value.slice none 0 0) := by
      rw [List.set_append_right _ _ (by simp)]
      simp only [List.length_map, Nat.sub_self, List.length_append, List.length_singleton, List.map_append, List.map_cons, List.map_nil, List.append_assoc]
      congr 1
      obtain ⟨m, hm⟩ : ∃ m, N - QB.length = m + 1 := ⟨N - QB.length - 1, by omega⟩
      rw [hm, show N - (QB.length + 1) = m by omega, List.replicate_succ]
      rfl
    rw [← e]; exact hr3
  · by_cases hi : i < QB.length
    · rw [List.getElem?_append_left hi] at hp
      obtain ⟨h1, h2⟩ := h.pg i p hp
      have hpl := lt_at h2
      have hpL : p ≠ L := by
        intro e; subst e
        obtain ⟨cur, hc, _⟩ := h.row.block
        rw [h2] at hc
        simp at hc
      refine ⟨h1, ?_⟩
      rw [hk3.block p (by omega), hk2.block p (by omega) hpL, hk1.block p hpl (fun x => x)]
      exact h2
    · have hi2 : i = QB.length := by
        have := (List.getElem?_eq_some_iff.1 hp).1
        simp at this; omega
      subst hi2
      obtain rfl : q = p := by simpa using hp
      exact ⟨by omega, hpg⟩
  · rw [List.nodup_append]
    refine ⟨h.nd, by simp, fun a ha b hb => ?_⟩
    have : b = q := by simpa using hb
    obtain ⟨i, hi⟩ := List.getElem?_of_mem ha
    have := lt_at (h.pg i a hi).2
    omega

theorem Tryd.lenPage : Tryd.prog.arrayLen 92 = 4096 := by kernel_rfl
theorem Tryd.undPage : Tryd.prog.underlying 92 = some (.array (Tryd.prog.arrayLen 92) (Tryd.prog.elem 92)) := by kernel_rfl
theorem Tryd.sizePage (w : World) : (sizeOf (Tryd.prog.elem 92)).run Tryd.prog w = .ok 1 w := by kernel_rfl
theorem slice_page (p : Nat) (w : World) : (Instr.sliceAt 92 (.pointer (some ⟨p, 0, none⟩)) none none none).run Tryd.prog w = .ok (.slice (some ⟨p, 0, none⟩) 4096 4096) w := by
  have h := Tryd.undPage
  rw [Tryd.lenPage] at h
  have hs := Tryd.sizePage
  simp [Instr.sliceAt, Instr.sureAddr, run_underlying h, Instr.sliceBounds, hs, Addr.add]
def pageL (f : Nat → Int) (i : Nat) : List Value := (List.range 4096).map fun k => Value.int .u8 (f (i * 4096 + k))
theorem pageL_len (f : Nat → Int) (i : Nat) : (pageL f i).length = 4096 := by unfold pageL; rw [List.length_map, List.length_range]
theorem pageL_one (f : Nat → Int) (i : Nat) : ∀ v ∈ pageL f i, v.oneCell' = true := by
  intro v hv
  unfold pageL at hv
  obtain ⟨k, _, rfl⟩ := List.mem_map.1 hv
  rfl
theorem splice_all (Z X : List Value) (h : Z.length = X.length) : splice Z 0 X = X := by
  simp [splice, h]

theorem pages_nil (w : World) : Calls Tryd.prog 16 #[.pointer none] w fun e w' => e = .returned (.slice none 0 0) ∧ w' = w := by
  go_enter Tryd.func16, Tryd.ntmps16
  go_wp2_with fail
  refine (is_nil _).mono ?_
  rintro e w' ⟨rfl, hw⟩
  have hw' := hw.symm; subst hw'
  go_wp2_with fail
  go_ret
  exact ⟨rfl, rfl⟩

set_option maxRecDepth 100000 in
set_option maxHeartbeats 1000000 in
theorem pages_mem (R most : Nat) (sv : Value) (PB : List Nat) (f : Nat → Int) (d : Nat → Bool) (w : World) (h : Mem w R most sv PB f d) :
    Calls Tryd.prog 16 #[.pointer (some ⟨R, 0, none⟩)] w fun e w' => ∃ L QB, e = .returned (.slice (some ⟨L, 0, none⟩) PB.length PB.length) ∧ Pgs w' w.heap.size L PB.length QB f ∧ QB.length = PB.length ∧ Below w.heap.size w w' := by
  obtain ⟨i1, hi1, hy0, hy1, hy2⟩ := info_parts Tryd.infBytes
  obtain ⟨i2, hi2, hz0, hz1, hz2⟩ := info_parts Tryd.infU8
  obtain ⟨sa, sc, hsv, hsc⟩ := h.sl
  have c0 := h.c0
  have c2 := h.c2
  have hle := h.le
  have htop := h.top
  have hR := h.lt
  have HM := hid h
  clear h
  rw [hsv] at c2
  generalize hN : PB.length = N at *
  have HSV := hid hsv
  clear hsv
  have HN := hid hN
  clear hN
  go_enter Tryd.func16, Tryd.ntmps16
  go_wp2_with fail
  refine (is_cell R true _ c0).mono ?_
  rintro e w' ⟨rfl, hw⟩
  have hw' := hw.symm; subst hw'; clear hw c0
  go_wp2_with (at_make; (refine wpList_make_full _ rfl _ _ 22 rfl w.heap.size 41 i1 (.slice none 0 0) 1 Tryd.underlying22 hi1 hy0 hy1 .i64 .i64 _ _ N rfl rfl (by omega) (by omega) (by rw [hy2]; omega) (by unfold maxLen; omega) (Nat.le_refl _) ?_; intro w1 hown hgrow; have hbel : Below w.heap.size w w1 := (Below.refl _ _).grown hgrow (Nat.le_refl _) (by simp); have d2 : w1.cell? ⟨R, 2, none⟩ = some (.slice sa N sc) := (hbel.cell (p := ⟨R, 2, none⟩) hR).trans c2; have HO := hid hown; have HG := hid hbel; clear hown hgrow hbel c2))
  have H0 : Pgs w1 w.heap.size w.heap.size N [] f := by
    refine ⟨?_, by simp, Nat.le_refl _, fun i q hq => by simp at hq, by simp⟩
    have e : (madeCells (Value.slice none 0 0).cells (N * 1)).toList = List.replicate N (.slice none 0 0) := by
      rw [Nat.mul_one]; exact toList_madeCells_one _ _
    have := HO.out
    rw [e] at this
    simpa using Row.of this
  have HH := hid H0
  clear H0 HO hi1 hy0 hy1 hy2
  go_loopw [4, 5, 20] (fun x y i wr => ∃ (k : Nat) (QB : List Nat), k ≤ N ∧ i = .int .i64 k ∧ Hid (QB.length = k) ∧ Hid (Pgs wr w.heap.size w.heap.size N QB f) ∧ Hid (Below w.heap.size w wr)) (fun _ _ i _ => N - (intOf i).toNat)
  case atStart => exact ⟨0, [], by omega, rfl, hid rfl, HH, HG⟩
  case round =>
    obtain ⟨k, QB, hk, rfl, HL, HP, HB⟩ := hrel
    by_cases hlt : k < N
    · have hi : k < PB.length := by rw [HN.out]; exact hlt
      obtain ⟨p, hp⟩ : ∃ p, PB[k]? = some p := ⟨_, List.getElem?_eq_getElem hi⟩
      have hM := HM.out.later HB.out
      obtain ⟨g, c, hsv, hg, _, hlc⟩ := hM.slot hp
      have hpb := hM.pg k p hp
      have hplt := lt_at hpb
      have hglt := block_lt_of_cell hg
      simp only at hglt
      have e := HSV.out.symm.trans hsv
      rw [HN.out] at e
      injection e with e1 e2 e3
      subst e1 e3
      clear e2 hsv
      have hPr := HP.out
      have hrow := hPr.row
      have hcl : wr.cell? ⟨w.heap.size, k, none⟩ = some (.slice none 0 0) := by
        rw [hrow.cell k hlt, List.getElem?_append_right (by rw [List.length_map, HL.out]; omega)]
        rw [List.length_map, HL.out, Nat.sub_self, List.getElem?_replicate, if_pos (by omega)]
      have hfr := hrow.free k
      have hLlt := hrow.lt
      have HPB := hid hpb
      clear hPr hrow hM hpb hp
      go_wp2_with (at_make; (refine wpList_make_full _ rfl _ _ 41 rfl wr.heap.size 5 i2 (.int .u8 0) 1 Tryd.underlying41 hi2 hz0 hz1 .i64 .i64 _ _ 4096 rfl rfl rfl rfl (by rw [hz2]; omega) (by unfold maxLen; omega) (Nat.le_refl _) ?_; intro w2 hown hgrow; have hbel : Below wr.heap.size wr w2 := (Below.refl _ _).grown hgrow (Nat.le_refl _) (by simp); have hcl2 := (hbel.cell (p := ⟨w.heap.size, k, none⟩) hLlt).trans hcl; have hfr2 := (frozen_of_block (hbel.block w.heap.size hLlt) k).trans hfr; have HO2 := hid hown; have HG2 := hid hbel; clear hown hgrow hbel hcl hfr hg))
      have hcl3 : (w2.setCell ⟨w.heap.size, k, none⟩ (sv4 wr.heap.size)).cell? ⟨w.heap.size, k, none⟩ = some (.slice (some ⟨wr.heap.size, 0, none⟩) 4096 4096) := World.cell?_setCell_same _ _ _ hcl2
      have HKS := hid (kept_setCell w2 w.heap.size k (sv4 wr.heap.size))
      change Code.wp _ _ _ _ (w2.setCell ⟨w.heap.size, k, none⟩ (sv4 wr.heap.size))
      have hq0 : (w2.setCell ⟨w.heap.size, k, none⟩ (sv4 wr.heap.size)).heap[wr.heap.size]? = some (Obj.cells (List.replicate 4096 (Value.int .u8 0)).toArray 5) := by
        rw [HKS.out.block wr.heap.size (Row.lt (Row.of HO2.out)) (by omega)]
        have e : (madeCells (Value.int .u8 0).cells (4096 * 1)).toList = List.replicate 4096 (Value.int .u8 0) := toList_madeCells_one _ _
        have h1 := HO2.out
        rw [e] at h1
        obtain ⟨cur, h2, _, _, h5, h6⟩ := (Row.of h1).block
        rw [h2, ← h6, List.take_of_length_le (by simp [h5]), Array.toArray_toList]
      have hp0 : (w2.setCell ⟨w.heap.size, k, none⟩ (sv4 wr.heap.size)).heap[p]? = some (Obj.cells (pageC f k) 92) := by
        rw [HKS.out.block p (Nat.lt_of_lt_of_le hplt HG2.out.size) (fun e => by have h1 := HPB.out; subst e; obtain ⟨cur, h2, _⟩ := HP.out.row.block; rw [h1] at h2; simp at h2), HG2.out.block p hplt]
        exact HPB.out
      obtain ⟨W, hW⟩ : ∃ W, W = w2.setCell ⟨w.heap.size, k, none⟩ (sv4 wr.heap.size) := ⟨_, rfl⟩
      rw [← hW] at hcl3 hq0 hp0 ⊢
      have HW := hid hW
      obtain ⟨q, hq⟩ : ∃ q, q = wr.heap.size := ⟨_, rfl⟩
      have HQ := hid hq
      rw [← hq] at hcl3 hq0 ⊢
      have hsp := slice_page p
      have HPL := hid (show ∀ (j : Nat) (v : Value), (pageL f k)[j]? = some v → W.cell? ((⟨p, 0, none⟩ : Addr).add j) = some v by
        intro j v hv
        rw [Addr.add_mid, Nat.zero_add, cell_at hp0]; simpa [pageC, pageL] using hv)
      have HQ0 := hid hq0
      clear hcl2 hfr2 hW hq hq0 hp0
      go_region_law (refine step_copy_splice rfl (.tmp 32) (.tmp 35) 41 41 rfl 5 Tryd.underlying41 Tryd.infU8s (some ⟨q, 0, none⟩) (some ⟨p, 0, none⟩) 4096 4096 4096 4096 rfl rfl q 0 (List.replicate 4096 (Value.int .u8 0)) 5 HQ0.out (pageL f k) (pageL_len f k) (fun _ => ⟨rfl, _, rfl, HPL.out⟩) (by rw [pageL_len, List.length_replicate]; exact Nat.le_refl _) (pageL_one f k) q W (below_drewN (Below.refl q W) 1) (Nat.le_refl _) ?_; intro w4 HG4 hb4)
      have HB4 := hid hb4
      clear hb4 hcl3 hsp HPL HQ0
      go_wp2_with fail
      have hq := HQ.out
      have hW := HW.out
      have hbW : Below wr.heap.size W w4 := hq ▸ HB4.out
      rw [hW] at hbW
      have hbb : Below w.heap.size w (w2.setCell ⟨w.heap.size, k, none⟩ (sv4 wr.heap.size)) := ((HB.out.trans (HG2.out.mono HB.out.size)).setCell (Nat.le_refl _) _)
      refine ⟨⟨k + 1, QB ++ [wr.heap.size], by omega, by go_num, hid (by rw [List.length_append, HL.out]; rfl), hid ?_, hid (hbb.trans (hbW.mono HB.out.size))⟩, by simp [intOf]; omega⟩
      refine HP.out.more (by rw [HL.out]; exact hlt) HB.out.size rfl (w1 := w2) ⟨HG2.out.os, HG2.out.tape, HG2.out.output, HG2.out.size, fun x hx _ => HG2.out.block x hx⟩ ?_ ?_
      · rw [HL.out]; exact hbW
      · have := HG4.out
        rw [hq, splice_all _ _ (by rw [List.length_replicate, pageL_len])] at this
        rw [HL.out]; exact this
    · obtain rfl : k = N := by omega
      go_wp2_with fail
      go_ret
      have hl := HL.out
      refine ⟨w.heap.size, QB, rfl, HP.out, hl, HB.out⟩
end Go.Proofs.YtedkmfklobipaaaDoor

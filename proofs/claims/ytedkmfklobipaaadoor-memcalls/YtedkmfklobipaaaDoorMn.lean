/-
  The walks over Clean, add and New.
-/
import Derived.Test.YtedkmfklobipaaaDoorHs
namespace Go.Proofs.YtedkmfklobipaaaDoor
open Go.RowKit
set_option linter.unusedVariables false

theorem Tryd.infMarks : (Tryd.prog.info? 77).map (·.size) = some 64 := by kernel_rfl
theorem Tryd.infPtr : (Tryd.prog.info? 86).map (fun i => (i.zero, i.size, i.bytes)) = some (some (.pointer none), 1, 8) := by kernel_rfl
/-- A page of noughts; a memory that none has made. -/
def pz : Array Value := (List.replicate 4096 (Value.int .u8 0)).toArray
def mz : Array Value := (Value.bool false :: Value.int .i64 0 :: Value.slice none 0 0 :: List.replicate 64 (Value.bool false)).toArray
theorem pz_list : pz.toList = List.replicate 4096 (Value.int .u8 0) := rfl
theorem mz_list : mz.toList = Value.bool false :: Value.int .i64 0 :: Value.slice none 0 0 :: List.replicate 64 (Value.bool false) := rfl
theorem Tryd.zvPage (w : World) : (zeroValue 92).run Tryd.prog w = .ok (.agg pz) w := (zero_of_info (P := Tryd.prog) (t := 92) (v := .agg pz) (n := 4096) (by kernel_rfl)).1 w
theorem Tryd.zvMem (w : World) : (zeroValue 79).run Tryd.prog w = .ok (.agg mz) w := (zero_of_info (P := Tryd.prog) (t := 79) (v := .agg mz) (n := 67) (by kernel_rfl)).1 w

theorem noMarks : marksL (fun _ => false) = List.replicate 64 (Value.bool false) := by rfl
theorem Mem.there (w : World) (R most : Nat) (sv : Value) (PB : List Nat) (f : Nat → Int) (d : Nat → Bool) (h : Mem w R most sv PB f d) : w.there R 3 64 := fun j hj => ⟨by rw [h.c3 j hj]; rfl, h.free _⟩

theorem marks_one : (marksL fun _ => false).toArray.all (·.oneCell') = true := all_oneCell_toArray (by intro v hv; simp [marksL] at hv; obtain ⟨_, _, rfl⟩ := hv; rfl)
theorem clean_mem (R most : Nat) (sv : Value) (PB : List Nat) (f : Nat → Int) (d : Nat → Bool) (w : World) (h : Mem w R most sv PB f d) :
    Calls Tryd.prog 27 #[.pointer (some ⟨R, 0, none⟩)] w fun e w' => e = .returned (.bool true) ∧ Mem w' R most sv PB f (fun _ => false) ∧ Kept (fun k => k = R) w w' := by
  have c0 := h.c0
  have HM := hid h
  have HT := hid h.there
  clear h
  go_enter Tryd.func27, Tryd.ntmps27
  go_wp2_with fail
  refine (is_cell R true _ c0).mono ?_
  rintro e w' ⟨rfl, hw⟩
  have hw' := hw.symm; subst hw'; clear hw
  go_wp2_with (refine wpList_store_mid rfl 77 (.tmp 9) (.tmp 7) rfl R 3 (marksL fun _ => false).toArray rfl rfl HT.out Tryd.infMarks marks_one ?_)
  go_ret
  exact ⟨rfl, HM.out.marks, kept_setCells R _ 3 w⟩

theorem page0 (f : Nat → Int) (i : Nat) (h : ∀ a, i * 4096 ≤ a → f a = 0) : pz = pageC f i := by
  apply Array.ext_getElem?
  intro j
  rw [← Array.getElem?_toList, pz_list]
  by_cases hj : j < 4096
  · rw [pageC_get _ _ _ hj, List.getElem?_replicate, if_pos hj, h _ (by omega)]
  · rw [List.getElem?_eq_none (by rw [List.length_replicate]; omega), Array.getElem?_eq_none (by rw [pageC_size]; omega)]

/-- The block behind the append. -/
theorem Mem.pushR {w w2 w3 : World} {R most : Nat} {sv : Value} {PB : List Nat} {f : Nat → Int} {d : Nat → Bool} (h : Mem w R most sv PB f d) {B cap : Nat}
    (hk : Kept (fun _ => False) w w2)
    (hor : (sv = .slice (some ⟨B, 0, none⟩) PB.length cap ∧ Kept (fun k => k = B) w2 w3) ∨ (w2.heap.size ≤ B ∧ Kept (fun _ => False) w2 w3)) : w3.heap[R]? = some (Obj.cells (memC most sv d) 79) := by
  have hRlt := h.lt
  have hs := hk.size
  rcases hor with ⟨rfl, hh⟩ | ⟨_, hh⟩
  · rw [hh.block R (by omega) (fun e => h.R_ne_list B rfl e.symm), hk.block R hRlt (fun x => x)]; exact h.blk
  · rw [hh.block R (by omega) (fun x => x), hk.block R hRlt (fun x => x)]; exact h.blk

/-- One page more. -/
theorem Mem.push {w w2 w3 : World} {R most : Nat} {sv : Value} {PB : List Nat} {f : Nat → Int} {d : Nat → Bool} (h : Mem w R most sv PB f d) (hr : PB.length < most) {p B cap : Nat}
    (hk : Kept (fun _ => False) w w2) (hp : w.heap.size ≤ p) (hpg : w2.heap[p]? = some (Obj.cells pz 92)) (hrow : Row w3 86 B (PB.length + 1) cap (PB.map pv ++ [pv p]))
    (hor : (sv = .slice (some ⟨B, 0, none⟩) PB.length cap ∧ Kept (fun k => k = B) w2 w3) ∨ (w2.heap.size ≤ B ∧ Kept (fun _ => False) w2 w3)) :
    Mem (w3.setCell ⟨R, 2, none⟩ (.slice (some ⟨B, 0, none⟩) (PB.length + 1) cap)) R most (.slice (some ⟨B, 0, none⟩) (PB.length + 1) cap) (PB ++ [p]) f d ∧
      Kept (Fp R sv PB) w (w3.setCell ⟨R, 2, none⟩ (.slice (some ⟨B, 0, none⟩) (PB.length + 1) cap)) ∧ (sv.ownBlock = some B ∨ w.heap.size ≤ B) := by
  have hRlt := h.lt
  have hs := hk.size
  have hplt := lt_at hpg
  have hK3 : Kept (fun k => sv.ownBlock = some k ∧ k = B) w2 w3 := by
    rcases hor with ⟨rfl, hh⟩ | ⟨_, hh⟩
    · exact hh.mono (fun k e => by subst e; exact ⟨rfl, rfl⟩)
    · exact hh.mono (fun _ x => x.elim)
  have hB : sv.ownBlock = some B ∨ w.heap.size ≤ B := by
    rcases hor with ⟨rfl, _⟩ | ⟨hh, _⟩
    · exact .inl rfl
    · exact .inr (by omega)
  have hBR : B ≠ R := by
    rcases hB with hh | hh
    · exact h.R_ne_list B hh
    · omega
  have hR3 : w3.heap[R]? = some (Obj.cells (memC most sv d) 79) := by
    rw [hK3.block R (by omega) (fun x => hBR x.2.symm), hk.block R hRlt (fun x => x)]
    exact h.blk
  have hK4 := kept_setCell w3 R 2 (.slice (some ⟨B, 0, none⟩) (PB.length + 1) cap)
  have hpB : p ≠ B := by
    intro e
    subst e
    rcases hor with ⟨rfl, hh⟩ | ⟨hh, _⟩
    · have := h.fp_lt (k := p) (.inr (.inl rfl)); omega
    · omega
  refine ⟨⟨?_, ?_, fun i q hq => ?_, ?_, ?_, h.top, h.rng, fun i hi => ?_, fun a ha => h.nt a ?_⟩, ?_, hB⟩
  · rw [← memC_set_list most sv _ d]
    exact heap_setCell_same w3 R 2 _ _ _ hR3
  · have := hrow.keep (hK4.block B hrow.lt hBR)
    simpa [Row] using this
  · by_cases hi : i < PB.length
    · rw [List.getElem?_append_left hi] at hq
      have h0 := h.pg i q hq
      have hm := List.mem_of_getElem? hq
      rw [hK4.block q (by have := hK3.size; have := lt_at h0; omega) (h.R_ne_page hm), hK3.block q (by have := lt_at h0; omega) (fun x => h.page_ne_list hm x.1), hk.block q (lt_at h0) (fun x => x)]
      exact h0
    · have hi2 : i = PB.length := by
        have := (List.getElem?_eq_some_iff.1 hq).1
        simp at this; omega
      subst hi2
      obtain rfl : p = q := by simpa using hq
      rw [hK4.block p (by have := hK3.size; omega) (by omega), hK3.block p hplt (fun x => hpB x.2), hpg, page0 f _ (fun a ha => h.nt a ha)]
  · rw [List.nodup_append]
    refine ⟨h.nd, by simp, fun a ha b hb => ?_⟩
    have : b = p := by simpa using hb
    have := h.fp_lt (k := a) (.inr (.inr ha))
    omega
  · simp; omega
  · have := h.dr i hi
    simp; omega
  · exact Nat.le_trans (Nat.mul_le_mul_right 4096 (by rw [List.length_append]; omega)) ha
  · refine (hk.mono (fun _ x => x.elim)).trans ((hK3.mono (fun k x => .inr (.inl x.1))).trans (hK4.mono (fun k x => .inl x)))

set_option maxRecDepth 100000 in
set_option maxHeartbeats 1000000 in
theorem add_mem (R most : Nat) (sv : Value) (PB : List Nat) (f : Nat → Int) (d : Nat → Bool) (n : Nat) (w : World) (h : Mem w R most sv PB f d) (hn : PB.length + n ≤ most) :
    Calls Tryd.prog 33 #[.pointer (some ⟨R, 0, none⟩), .int .i64 n] w fun e w' => e = .returned (.tuple #[]) ∧ ∃ sv' PB', Mem w' R most sv' PB' f d ∧ PB'.length = PB.length + n ∧ Kept (Fp R sv PB) w w' ∧ (∀ k, Fp R sv' PB' k → Fp R sv PB k ∨ w.heap.size ≤ k) := by
  have hmost := h.top
  obtain ⟨i0, hi, hz0, hz1, hz2⟩ := info_parts Tryd.infPtr
  have hzv := Tryd.zvPage
  go_enter Tryd.func33, Tryd.ntmps33
  go_wp2_with fail
  go_loopw [5] (fun i wr => ∃ k : Nat, k ≤ n ∧ i = .int .i64 k ∧ Hid (∃ sv' PB', Mem wr R most sv' PB' f d ∧ PB'.length = PB.length + k ∧ Kept (Fp R sv PB) w wr ∧ (∀ k, Fp R sv' PB' k → Fp R sv PB k ∨ w.heap.size ≤ k))) (fun i _ => n - (intOf i).toNat)
  case atStart => exact ⟨0, by omega, rfl, hid ⟨sv, PB, h, rfl, Kept.refl _ _, fun k hk => .inl hk⟩⟩
  case round =>
    obtain ⟨k, hk, rfl, HX⟩ := hrel
    by_cases hlt : k < n
    · obtain ⟨sv', PB', hM, hl, hK, hF⟩ := HX.out
      have c2 := hM.c2
      have fz := hM.free 2
      have hRl := hM.lt
      have HM := hid hM
      have HK := hid hK
      have HF := hid hF
      have HL := hid hl
      have hlen : PB'.length < 64 := by omega
      obtain ⟨o1, ho1⟩ : ∃ o, o = Obj.cells pz 92 := ⟨_, rfl⟩
      obtain ⟨o2, ho2⟩ : ∃ o, o = Obj.cells #[Value.pointer (some ⟨wr.heap.size, 0, none⟩)] 86 := ⟨_, rfl⟩
      have hk2 : Kept (fun _ => False) wr ((wr.alloc o1).alloc o2) := (Kept.alloc _ wr o1).trans (Kept.alloc _ _ o2)
      have HO := hid (hM.kept hk2 (fun _ _ x => x)).own
      have HC := hid (show ((wr.alloc o1).alloc o2).cell? ((⟨wr.heap.size + 1, 0, none⟩ : Addr).add 0) = some (pv wr.heap.size) by
        rw [ho2, show (⟨wr.heap.size + 1, 0, none⟩ : Addr).add 0 = ⟨(wr.alloc o1).heap.size, 0, none⟩ by simp [Addr.add], World.cell?_alloc_new]; rfl)
      have HP := hid (show ((wr.alloc o1).alloc o2).heap[wr.heap.size]? = some o1 by
        have h1 : (wr.alloc o1).heap[wr.heap.size]? = some o1 := heap_alloc_last wr o1
        rw [(Kept.alloc (fun _ => False) (wr.alloc o1) o2).block wr.heap.size (lt_at h1) (fun x => x)]; exact h1)
      have HK2 := hid hk2
      have HI := hid hi
      subst ho1 ho2
      clear hM hK hF hl h HX hk2 hi
      go_wp2_with (at_builtin; (refine app_cell _ rfl (.tmp 11) (.tmp 13) 75 rfl 86 i0 (.pointer none) 8 Tryd.underlying75 HI.out hz0 hz1 hz2 rfl sv' PB'.length (PB'.map pv) rfl HO.out ⟨wr.heap.size + 1, 0, none⟩ (pv wr.heap.size) rfl HC.out rfl (by unfold maxLen; omega) (by omega) ?_; intro B cap w3 hrow hor; have hR3 := HM.out.pushR HK2.out hor; have d2 : w3.cell? ⟨R, 2, none⟩ = some sv' := by { rw [cell_at hR3]; rfl }; have f2 : w3.frozen? ⟨R, 2, none⟩ = false := free_at hR3; have HROW := hid hrow; have HOR := hid hor; clear hrow hor hR3 c2 fz))
      have P := HM.out.push (by have := HL.out; omega) HK2.out (Nat.le_refl _) HP.out HROW.out HOR.out
      refine ⟨⟨k + 1, by omega, by go_num, hid ⟨_, _, P.1, ?_, ?_, ?_⟩⟩, by simp [intOf]; omega⟩
      · rw [List.length_append, HL.out]; rfl
      · exact HK.out.then P.2.1 (fun q hq hx => (HF.out q hx).elim id (fun h => by omega))
      · intro q hq
        have hsz := HK.out.size
        rcases hq with rfl | hq | hq
        · exact .inl (.inl rfl)
        · rcases P.2.2 with hh | hh
          · obtain rfl : B = q := by simpa [Value.ownBlock] using hq
            exact HF.out B (.inr (.inl hh))
          · obtain rfl : B = q := by simpa [Value.ownBlock] using hq
            exact .inr (by omega)
        · rcases List.mem_append.1 hq with hq | hq
          · exact HF.out q (.inr (.inr hq))
          · have : q = wr.heap.size := by simpa using hq
            exact .inr (by omega)
    · obtain rfl : k = n := by omega
      clear h hi hz0 hz1 hz2
      go_wp2_with fail
      go_end0
      obtain ⟨sv', PB', hM, hl, hK, hF⟩ := HX.out
      exact ⟨rfl, sv', PB', hM, hl, hK, hF⟩
end Go.Proofs.YtedkmfklobipaaaDoor

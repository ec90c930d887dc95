/-
  The walk over the document's Pages; pages that were told, read.
-/
import Derived.Test.YtedkmfklobipaaaDoorBt
namespace Go.Proofs.YtedkmfklobipaaaDoor
open Go.RowKit
set_option linter.unusedVariables false

/-- Byte k of page i. -/
def pgf (f : Nat → Int) (i k : Nat) : Int := f (i * 4096 + k)
theorem page_seg {w : World} {q i : Nat} {f : Nat → Int} {t : TypeId} (h : w.heap[q]? = some (Obj.cells (pageC f i) t)) : BSeg w (sv4 q) 4096 (pgf f i) :=
  ⟨_, _, rfl, Nat.le_refl _, by omega, .inr ⟨q, 0, rfl, fun j hj => by rw [Nat.zero_add, cell_at h]; exact pageC_get f i j hj⟩⟩
theorem Pgs.pseg {w : World} {base L N : Nat} {QB : List Nat} {f : Nat → Int} (h : Pgs w base L N QB f) (hl : QB.length = N) (hN : N ≤ 64) : PSeg w (.slice (some ⟨L, 0, none⟩) N N) N (fun _ => 4096) (pgf f) := by
  refine ⟨_, _, rfl, Nat.le_refl _, by omega, .inr ⟨L, 0, rfl, fun i hi => ?_⟩⟩
  obtain ⟨q, hq⟩ : ∃ q, QB[i]? = some q := ⟨_, List.getElem?_eq_getElem (by omega)⟩
  refine ⟨sv4 q, ?_, page_seg (h.pg i q hq).2⟩
  rw [Nat.zero_add, h.row.cell i hi, List.getElem?_append_left (by rw [List.length_map]; omega), List.getElem?_map, hq]; rfl

/-- Pages one behind the other, the list grown one by one. -/
structure PgR (w : World) (base : Nat) (v : Value) (QB : List Nat) (f : Nat → Int) : Prop where
  own : w.ownsRow base 41 1 v QB.length (QB.map sv4)
  pg : ∀ i q, QB[i]? = some q → base ≤ q ∧ w.heap[q]? = some (Obj.cells (pageC f i) 5)
theorem PgR.ownlt {w : World} {base : Nat} {v : Value} {QB : List Nat} {f : Nat → Int} (h : PgR w base v QB f) {b : Nat} (hb : v.ownBlock = some b) : base ≤ b ∧ b < w.heap.size ∧ ∃ cur, w.heap[b]? = some (Obj.cells cur 41) := by
  rcases h.own.2 with ⟨e, _⟩ | ⟨g, cap, cur, e, h2, h3, _⟩
  · rw [e] at hb; cases hb
  · rw [e] at hb
    obtain rfl : g = b := by simpa [Value.ownBlock] using hb
    exact ⟨h2, lt_at h3, cur, h3⟩
theorem PgR.later {w w' : World} {base : Nat} {v : Value} {QB : List Nat} {f : Nat → Int} (h : PgR w base v QB f) (hb : Below w.heap.size w w') : PgR w' base v QB f :=
  ⟨own_keep h.own (fun B hB => hb.block B (h.ownlt hB).2.1), fun i q hq => ⟨(h.pg i q hq).1, (hb.block q (lt_at (h.pg i q hq).2)).trans (h.pg i q hq).2⟩⟩
theorem PgR.pseg {w : World} {base : Nat} {v : Value} {QB : List Nat} {f : Nat → Int} (h : PgR w base v QB f) (hN : QB.length ≤ 64) : PSeg w v QB.length (fun _ => 4096) (pgf f) := by
  rcases h.own.2 with ⟨e, h0⟩ | ⟨g, cap, cur, e, h2, h3, h4, _⟩
  · exact ⟨_, _, by rw [e, h0], by omega, by omega, .inl h0⟩
  · refine ⟨_, _, e, h4, by omega, .inr ⟨g, 0, rfl, fun i hi => ?_⟩⟩
    obtain ⟨q, hq⟩ : ∃ q, QB[i]? = some q := ⟨_, List.getElem?_eq_getElem hi⟩
    refine ⟨sv4 q, ?_, page_seg (h.pg i q hq).2⟩
    have := World.ownsRow.cellAt (e ▸ h.own) i (by omega)
    rw [Nat.zero_add, this, List.getElem?_map, hq]; rfl

theorem made_page {w2 : World} {base b : Nat} (h : w2.ownsRow base 5 1 (.slice (some ⟨b, 0, none⟩) 4096 4096) 4096 (madeCells (Value.int .u8 0).cells (4096 * 1)).toList) : w2.heap[b]? = some (Obj.cells (List.replicate 4096 (Value.int .u8 0)).toArray 5) := by
  have e : (madeCells (Value.int .u8 0).cells (4096 * 1)).toList = List.replicate 4096 (Value.int .u8 0) := toList_madeCells_one _ _
  rw [e] at h
  obtain ⟨cur, h2, _, _, h5, h6⟩ := (Row.of h).block
  rw [h2, ← h6, List.take_of_length_le (by simp [h5]), Array.toArray_toList]
theorem src_page {w : World} {X most B c V N k : Nat} {f : Nat → Int} {d : Nat → Bool} (h : Rfm w X most B c V N f d) (hk : k < N) : ∀ (j : Nat) (v : Value), (pageL f k)[j]? = some v → w.cell? ((⟨B, k * 4096, none⟩ : Addr).add j) = some v := by
  intro j v hv
  have hj : j < 4096 := by have := (List.getElem?_eq_some_iff.1 hv).1; rw [pageL_len] at this; exact this
  rw [Addr.add_mid, h.byt (show k * 4096 + j < N * 4096 by omega), ← hv]
  unfold pageL
  rw [List.getElem?_map, List.getElem?_range hj]; rfl
theorem min_page {f : Nat → Int} {k N : Nat} (h : k < N) : (pageL f k).length = Nat.min (N * 4096 - k * 4096) 4096 := by
  rw [pageL_len]
  exact (Nat.min_eq_right (show 4096 ≤ N * 4096 - k * 4096 by omega)).symm
theorem pageL_arr (f : Nat → Int) (i : Nat) : (pageL f i).toArray = pageC f i := rfl
theorem copied_page {wr w2 : World} {base : Nat} {v : Value} {QB : List Nat} {f : Nat → Int} {k : Nat} (hP : PgR wr base v QB f) (h2 : Below wr.heap.size wr w2) (hq : w2.heap[wr.heap.size]? = some (Obj.cells (List.replicate 4096 (Value.int .u8 0)).toArray 5)) (hl : QB.length = k) :
    Below wr.heap.size wr (w2.setRow wr.heap.size (List.take 0 (List.replicate 4096 (Value.int .u8 0)).toArray.toList ++ pageL f k ++ List.drop (0 + (pageL f k).length) (List.replicate 4096 (Value.int .u8 0)).toArray.toList).toArray) ∧ PgR (w2.setRow wr.heap.size (List.take 0 (List.replicate 4096 (Value.int .u8 0)).toArray.toList ++ pageL f k ++ List.drop (0 + (pageL f k).length) (List.replicate 4096 (Value.int .u8 0)).toArray.toList).toArray) base v QB f ∧ (w2.setRow wr.heap.size (List.take 0 (List.replicate 4096 (Value.int .u8 0)).toArray.toList ++ pageL f k ++ List.drop (0 + (pageL f k).length) (List.replicate 4096 (Value.int .u8 0)).toArray.toList).toArray).heap[wr.heap.size]? = some (Obj.cells (pageC f k) 5) := by
  have e : List.take 0 (List.replicate 4096 (Value.int .u8 0)).toArray.toList ++ pageL f k ++ List.drop (0 + (pageL f k).length) (List.replicate 4096 (Value.int .u8 0)).toArray.toList = pageL f k := by
    rw [List.take_zero, List.nil_append, pageL_len, List.drop_of_length_le (by rw [List.toList_toArray, List.length_replicate]; omega), List.append_nil]
  rw [e]
  have hb : Below wr.heap.size wr (w2.setRow wr.heap.size (pageL f k).toArray) := below_setRow h2 (Nat.le_refl _) _
  exact ⟨hb, hP.later hb, setRow_heap w2 _ _ _ 5 _ hq⟩

set_option maxRecDepth 100000 in
set_option maxHeartbeats 1000000 in
theorem rpages (X most B c V N : Nat) (f : Nat → Int) (d : Nat → Bool) (w : World) (h : Rfm w X most B c V N f d) :
    Calls Tryd.prog 17 #[.pointer (some ⟨X, 0, none⟩)] w fun e w' => ∃ v, e = .returned v ∧ PSeg w' v N (fun _ => 4096) (pgf f) ∧ Below w.heap.size w w' := by
  obtain ⟨i1, hi1, hy0, hy1, hy2⟩ := info_parts Tryd.infBytes
  obtain ⟨i2, hi2, hz0, hz1, hz2⟩ := info_parts Tryd.infU8
  have hN : N ≤ 64 := Nat.le_trans h.le h.top
  have hcap := h.cap
  have HM := hid h
  have HI1 := hid hi1
  have HI2 := hid hi2
  clear h hi1 hi2
  go_enter Tryd.func17, Tryd.ntmps17
  go_wp2_with fail
  go_loopw [3, 4, 5] (fun l i y wr => ∃ (k : Nat) (QB : List Nat) (v : Value), k ≤ N ∧ l = v ∧ i = .int .i64 k ∧ Hid (QB.length = k) ∧ Hid (PgR wr w.heap.size v QB f) ∧ Hid (Below w.heap.size w wr)) (fun _ i _ _ => N - (intOf i).toNat)
  case atStart => exact ⟨0, [], .slice none 0 0, by omega, rfl, rfl, hid rfl, hid ⟨⟨rfl, .inl ⟨rfl, rfl⟩⟩, fun i q hq => by simp at hq⟩, hid (Below.refl _ _)⟩
  case round =>
    obtain ⟨k, QB, v, hk, rfl, rfl, HL, HP, HB⟩ := hrel
    have HR := hid (HM.out.later HB.out)
    go_wp2_with fail
    refine (rsize X most B c V N f d _ HR.out).mono ?_
    rintro e w' ⟨rfl, hw⟩
    have hw' := hw.symm; subst hw'; clear hw
    by_cases hlt : k < N
    · have c0 := HR.out.c0
      have hX := HR.out.lt (k := X) (.inl rfl)
      have hBl := HR.out.lt (k := B) (.inr (.inl rfl))
      have hlt' : (k : Int) < N := by omega
      have hkb : k * 4096 < N * 4096 := by omega
      obtain ⟨va, vc, hv⟩ : ∃ a c, u3 = .slice a QB.length c := by
        rcases HP.out.own.2 with ⟨e, h0⟩ | ⟨g, cap, cur, e, _⟩
        · exact ⟨none, 0, by rw [e, h0]⟩
        · exact ⟨_, cap, e⟩
      have HV := hid hv
      clear hv
      have HMN := hid (min_page (f := f) hlt)
      have HFIT' := hid (show 0 + (pageL f k).length ≤ (List.replicate 4096 (Value.int .u8 0)).toArray.size by rw [pageL_len, List.size_toArray, List.length_replicate]; exact Nat.le_refl _)
      go_wp2_with (at_make; (refine wpList_make_full _ rfl _ _ 41 rfl wr.heap.size 5 i2 (.int .u8 0) 1 Tryd.underlying41 HI2.out hz0 hz1 .i64 .i64 _ _ 4096 rfl rfl rfl rfl (by rw [hz2]; omega) (by unfold maxLen; omega) (Nat.le_refl _) ?_; intro w2 hown hgrow; have hbel : Below wr.heap.size wr w2 := (Below.refl _ _).grown hgrow (Nat.le_refl _) (by simp); have c02 := (hbel.cell (p := ⟨X, 0, none⟩) hX).trans c0; have HQ0 := hid (made_page hown); have HSRC := hid (src_page (HR.out.later hbel) hlt); have HG2 := hid hbel; clear hown hgrow hbel c0))
      rw [run_copy_row Tryd.prog w2 41 41 3 5 wr.heap.size 0 4096 4096 ⟨B, k * 4096, none⟩ (N * 4096 - k * 4096) (c - k * 4096) (List.replicate 4096 (Value.int .u8 0)).toArray 5 (pageL f k) Tryd.underlying41 Tryd.infU8s HQ0.out HMN.out HSRC.out HFIT'.out (pageL_one f k)]
      have HN4 := hid (copied_page HP.out HG2.out HQ0.out HL.out (f := f) (k := k))
      generalize w2.setRow wr.heap.size (List.take 0 (List.replicate 4096 (Value.int .u8 0)).toArray.toList ++ pageL f k ++ List.drop (0 + (pageL f k).length) (List.replicate 4096 (Value.int .u8 0)).toArray.toList).toArray = w4 at *
      simp only [Result.andThen]
      go_wp2_with (at_builtin; (obtain ⟨hb5, hgr5, hpg5⟩ := HN4.out; refine app_cell _ rfl (.tmp 22) (.tmp 24) 22 rfl 41 i1 (.slice none 0 0) 24 Tryd.underlying22 HI1.out hy0 hy1 hy2 rfl u3 QB.length (QB.map sv4) rfl (own_mono (hgr5.later ((Below.refl w4.heap.size w4).alloc (Nat.le_refl _) _)).own (Nat.zero_le _)) ⟨w4.heap.size, 0, none⟩ (sv4 wr.heap.size) rfl (by rw [show (⟨w4.heap.size, 0, none⟩ : Addr).add 0 = ⟨w4.heap.size, 0, none⟩ by simp [Addr.add], World.cell?_alloc_new]; rfl) rfl (by have := HL.out; unfold maxLen; omega) (by have := HL.out; omega) ?_; intro B5 c5 w5 hrow hor; have HRO := hid hrow; have HOR := hid hor; have HB5 := hid hb5; have HG5 := hid hgr5; have HP5 := hid hpg5; clear hrow hor hb5 hgr5 hpg5))
      have hbb : Below w.heap.size w w4 := HB.out.trans (HB5.out.mono HB.out.size)
      have hsz := HB.out.size
      have hal := (Below.refl w4.heap.size w4).alloc (Nat.le_refl _) (Obj.cells #[Value.slice (some ⟨wr.heap.size, 0, none⟩) 4096 4096] 41)
      have hsz4 := HB5.out.size
      have hP5 := HG5.out.later hal
      have hk5 : Kept (fun q => u3.ownBlock = some q) (w4.alloc (Obj.cells #[Value.slice (some ⟨wr.heap.size, 0, none⟩) 4096 4096] 41)) w5 := by
        rcases HOR.out with ⟨e, hh⟩ | ⟨_, hh⟩
        · exact hh.mono (fun q hq => by subst hq; rw [e]; rfl)
        · exact hh.mono (fun _ x => x.elim)
      have hno : ∀ q : Nat, (∃ (i : Nat) , w4.heap[q]? = some (Obj.cells (pageC f i) 5)) → ¬ u3.ownBlock = some q := by
        rintro q ⟨i, hq⟩ ho
        obtain ⟨_, _, cur, hcur⟩ := HG5.out.ownlt ho
        rw [hcur] at hq
        simp at hq
      refine ⟨⟨k + 1, QB ++ [wr.heap.size], _, by omega, rfl, by go_num, hid (by rw [List.length_append, HL.out]; rfl), hid ⟨?_, fun i q hq => ?_⟩, hid ?_⟩, by simp [intOf]; omega⟩
      · have hbase : w.heap.size ≤ B5 := by
          rcases HOR.out with ⟨e, _⟩ | ⟨hh, _⟩
          · exact (HG5.out.ownlt (b := B5) (by rw [e]; rfl)).1
          · have := hal.size; omega
        have := own_of_row HRO.out hbase
        simpa using this
      · have hal2 := hal.size
        by_cases hi : i < QB.length
        · rw [List.getElem?_append_left hi] at hq
          obtain ⟨h1, h2⟩ := HG5.out.pg i q hq
          refine ⟨h1, ?_⟩
          rw [hk5.block q (by have := lt_at h2; omega) (hno q ⟨i, h2⟩), hal.block q (lt_at h2)]
          exact h2
        · have hi2 : i = QB.length := by
            have := (List.getElem?_eq_some_iff.1 hq).1
            simp at this; omega
          subst hi2
          have hqq : wr.heap.size = q := by simpa using hq
          subst hqq
          have h2 := HP5.out
          refine ⟨hsz, ?_⟩
          rw [hk5.block _ (by have := lt_at h2; omega) (hno _ ⟨k, h2⟩), hal.block _ (lt_at h2), HL.out]
          exact h2
      · refine below_kept (hbb.trans (hal.mono (by omega))) hk5 (by have := hal.size; omega) (fun q hq => (HG5.out.ownlt hq).1)
    · have hkn : k = N := by omega
      subst hkn
      have hlt' : ¬ (k : Int) < k := by omega
      obtain ⟨va, vc, hv⟩ : ∃ a c, u3 = .slice a QB.length c := by
        rcases HP.out.own.2 with ⟨e, h0⟩ | ⟨g, cap, cur, e, _⟩
        · exact ⟨none, 0, by rw [e, h0]⟩
        · exact ⟨_, cap, e⟩
      subst hv
      go_wp2_with fail
      go_ret
      have hl := HL.out
      have := HP.out.pseg (by omega)
      rw [hl] at this
      refine ⟨_, rfl, ?_, HB.out⟩
      rw [hl]; exact this
end Go.Proofs.YtedkmfklobipaaaDoor

/-
  The walks over whole and From.
-/
import Derived.Test.YtedkmfklobipaaaDoorRp
namespace Go.Proofs.YtedkmfklobipaaaDoor
open Go.RowKit
set_option linter.unusedVariables false

/-- Has each of the first n just 4096 bytes? -/
def whl (ln : Nat → Nat) : Nat → Bool
  | 0 => true
  | n + 1 => whl ln n && decide (ln n = 4096)
theorem whl_at {ln : Nat → Nat} : ∀ {n i : Nat}, whl ln n = true → i < n → ln i = 4096
  | 0, i, _, h => by omega
  | n + 1, i, h, hi => by
    simp only [whl, Bool.and_eq_true, decide_eq_true_eq] at h
    by_cases e : i = n
    · subst e; exact h.2
    · exact whl_at h.1 (by omega)
theorem whl_no {ln : Nat → Nat} {k : Nat} (h : ln k ≠ 4096) : ∀ {n : Nat}, k < n → whl ln n = false
  | 0, hk => by omega
  | n + 1, hk => by
    simp only [whl]
    by_cases e : k = n
    · subst e; simp [h]
    · rw [whl_no h (show k < n by omega)]; rfl

theorem PSeg.at {w : World} {b o n : Nat} {c : Nat} {ln : Nat → Nat} {g : Nat → Nat → Int} (h : PSeg w (.slice (some ⟨b, o, none⟩) n c) n ln g) {i : Nat} (hi : i < n) : ∃ a k, w.cell? ⟨b, o + i, none⟩ = some (.slice a (ln i) k) ∧ ln i ≤ k ∧ ln i ≤ 140737488355328 ∧ BSeg w (.slice a (ln i) k) (ln i) (g i) := by
  obtain ⟨a, c', e, h1, h2, h3⟩ := h
  injection e with e1 e2 e3
  subst e1 e3
  rcases h3 with h3 | ⟨b', o', e4, h3⟩
  · omega
  · injection e4 with e4; injection e4 with e5 e6
    subst e5 e6
    obtain ⟨u, h4, h5⟩ := h3 i hi
    have h6 := h5
    obtain ⟨ua, uc, rfl, h7, h8, _⟩ := h6
    exact ⟨ua, uc, h4, h7, h8, h5⟩

set_option maxHeartbeats 1000000 in
theorem whole_any (v : Value) (n : Nat) (ln : Nat → Nat) (g : Nat → Nat → Int) (w : World) (h : PSeg w v n ln g) :
    Calls Tryd.prog 36 #[v] w fun e w' => e = .returned (.bool (whl ln n)) ∧ w' = w := by
  obtain ⟨a, c, rfl, hc, hn, k1⟩ := id h
  by_cases h0 : n = 0
  · subst h0
    clear k1 h
    go_enter Tryd.func36, Tryd.ntmps36
    go_wp2_with fail
    refine wp_loop_rounds 1 ?_
    rw [rounds_succ]
    go_wp2_with fail
    go_ret
    exact ⟨rfl, rfl⟩
  rcases k1 with k1 | ⟨b, o, rfl, k1⟩
  · exact absurd k1 h0
  have HP := hid h
  clear k1 h h0
  go_enter Tryd.func36, Tryd.ntmps36
  go_wp2_with fail
  go_loopw [4, 7] (fun x i wr => ∃ k : Nat, k ≤ n ∧ i = .int .i64 k ∧ wr = w ∧ Hid (whl ln k = true)) (fun _ i _ => n - (intOf i).toNat)
  case atStart => exact ⟨0, by omega, rfl, rfl, hid rfl⟩
  case round =>
    obtain ⟨k, hk, rfl, hwr, HW⟩ := hrel
    have hwr' := hwr.symm; subst hwr'; clear hwr
    by_cases hlt : k < n
    · obtain ⟨ua, uc, hcl, hl1, hl2, _⟩ := HP.out.at hlt
      have hlt' : (k : Int) < n := by omega
      have HLT := hid hlt
      by_cases h4 : ln k = 4096
      · have HN := hid (show whl ln (k + 1) = true by simp [whl, HW.out, h4])
        rw [h4] at hcl
        clear h4 hl1 hl2
        go_wp2_with fail
        exact ⟨⟨k + 1, by omega, by go_num, trivial, HN⟩, by simp [intOf]; omega⟩
      · have HN := hid (whl_no h4 hlt)
        generalize ln k = m at *
        have hne : ((m : Int) != 4096) = true := by simp; omega
        go_wp2_with fail
        go_ret
        exact ⟨by rw [HN.out]; rfl, rfl⟩
    · obtain rfl : k = n := by omega
      go_wp2_with fail
      go_ret
      exact ⟨by rw [HW.out]; rfl, rfl⟩

/-- The bytes of the first k pages. -/
def frF (g : Nat → Nat → Int) (k a : Nat) : Int := if a < k * 4096 then g (a / 4096) (a % 4096) else 0
theorem frF_0 (g : Nat → Nat → Int) : frF g 0 = fun _ => 0 := by funext a; unfold frF; rw [if_neg (by omega)]
theorem frF_page {g : Nat → Nat → Int} {k i j : Nat} (h : i < k) (hj : j < 4096) : frF g k (i * 4096 + j) = g i j := by
  unfold frF
  rw [if_pos (by omega), show (i * 4096 + j) / 4096 = i by omega, show (i * 4096 + j) % 4096 = j by omega]
theorem frF_rng {g : Nat → Nat → Int} (h : ∀ i j, 0 ≤ g i j ∧ g i j ≤ 255) (k a : Nat) : 0 ≤ frF g k a ∧ frF g k a ≤ 255 := by
  unfold frF; split
  · exact h _ _
  · omega
theorem frF_out {g : Nat → Nat → Int} {k i j : Nat} (h : i ≠ k) (hj : j < 4096) : frF g (k + 1) (i * 4096 + j) = frF g k (i * 4096 + j) := by
  by_cases h1 : i < k
  · rw [frF_page h1 hj, frF_page (by omega) hj]
  · unfold frF
    rw [if_neg (by omega), if_neg (by omega)]
theorem frF_top (g : Nat → Nat → Int) (k a : Nat) (h : k * 4096 ≤ a) : frF g k a = 0 := by unfold frF; rw [if_neg (by omega)]

/-- A page of a memory is laid anew. -/
theorem Mem.lay {w w' : World} {R most : Nat} {sv : Value} {PB : List Nat} {f f' : Nat → Int} {d : Nat → Bool} (h : Mem w R most sv PB f d) {k p : Nat} (hp : PB[k]? = some p) (hk : Kept (fun q => q = p) w w') (hb : w'.heap[p]? = some (Obj.cells (pageC f' k) 92))
    (ho : ∀ i j, i ≠ k → j < 4096 → f' (i * 4096 + j) = f (i * 4096 + j)) (hr : ∀ a, 0 ≤ f' a ∧ f' a ≤ 255) (hn : ∀ a, PB.length * 4096 ≤ a → f' a = 0) : Mem w' R most sv PB f' d := by
  have hm := List.mem_of_getElem? hp
  refine ⟨(hk.block R h.lt (fun e => h.R_ne_page hm e.symm)).trans h.blk, own_keep h.own (fun B hB => hk.block B (h.fp_lt (.inr (.inl hB))) (fun e => h.page_ne_list hm (e ▸ hB))), fun i q hq => ?_, h.nd, h.le, h.top, hr, h.dr, hn⟩
  by_cases e : i = k
  · subst e
    obtain rfl : p = q := by rw [hp] at hq; simpa using hq
    exact hb
  · have hq0 := h.pg i q hq
    have hne : q ≠ p := by
      intro e2
      subst e2
      have h1 : i < PB.length := (List.getElem?_eq_some_iff.1 hq).1
      exact e ((List.getElem?_inj h1 h.nd).1 (hq.trans hp.symm))
    rw [pageC_congr (g := f) (fun j hj => ho i j e hj)]
    exact (hk.block q (lt_at hq0) hne).trans hq0

theorem from_no (v : Value) (n : Nat) (ln : Nat → Nat) (g : Nat → Nat → Int) (m : Int) (w : World) (h : PSeg w v n ln g) (hn : (mayB n m && whl ln n) = false) :
    Calls Tryd.prog 10 #[v, .int .i64 m] w fun e w' => e = .returned (.tuple #[.pointer none, .int .i64 1]) ∧ w' = w := by
  have HW := hid (whole_any v n ln g w h)
  obtain ⟨a, c, rfl, hc, hn2, _⟩ := h
  have HM := hid (may_any n m w)
  cases hm : mayB n m
  · rw [hm] at HM
    clear hn hm
    go_enter Tryd.func10, Tryd.ntmps10
    go_wp2_with fail
    refine HM.out.mono ?_
    rintro e w' ⟨rfl, hw⟩
    have hw' := hw.symm; subst hw'; clear hw
    go_wp2_with fail
    go_ret2
    exact ⟨rfl, rfl⟩
  · rw [hm] at HM hn
    simp only [Bool.true_and] at hn
    rw [hn] at HW
    clear hn hm
    go_enter Tryd.func10, Tryd.ntmps10
    go_wp2_with fail
    refine HM.out.mono ?_
    rintro e w' ⟨rfl, hw⟩
    have hw' := hw.symm; subst hw'; clear hw
    go_wp2_with fail
    refine HW.out.mono ?_
    rintro e w' ⟨rfl, hw⟩
    have hw' := hw.symm; subst hw'; clear hw
    go_wp2_with fail
    go_ret2
    exact ⟨rfl, rfl⟩

/-- The bytes of a page as they are copied. -/
def srcL (g : Nat → Int) : List Value := (List.range 4096).map fun k => Value.int .u8 (g k)
theorem srcL_len (g : Nat → Int) : (srcL g).length = 4096 := by unfold srcL; rw [List.length_map, List.length_range]
theorem srcL_one (g : Nat → Int) : ∀ v ∈ srcL g, v.oneCell' = true := by
  intro v hv
  unfold srcL at hv
  obtain ⟨k, _, rfl⟩ := List.mem_map.1 hv
  rfl
theorem srcL_arr {f : Nat → Int} {k : Nat} {g : Nat → Int} (h : ∀ j, j < 4096 → f (k * 4096 + j) = g j) : (srcL g).toArray = pageC f k := by
  apply Array.ext_getElem?
  intro j
  by_cases hj : j < 4096
  · rw [pageC_get _ _ _ hj, h j hj, List.getElem?_toArray]
    unfold srcL
    rw [List.getElem?_map, List.getElem?_range hj]; rfl
  · rw [Array.getElem?_eq_none (by rw [List.size_toArray, srcL_len]; omega), Array.getElem?_eq_none (by rw [pageC_size]; omega)]
theorem BSeg.src {w : World} {v : Value} {g : Nat → Int} (h : BSeg w v 4096 g) : ∃ b o c, v = .slice (some ⟨b, o, none⟩) 4096 c ∧ 4096 ≤ c ∧ ∀ (j : Nat) (u : Value), (srcL g)[j]? = some u → w.cell? ((⟨b, o, none⟩ : Addr).add j) = some u := by
  obtain ⟨a, c, rfl, h1, h2, h3⟩ := h
  rcases h3 with h3 | ⟨b, o, rfl, h3⟩
  · omega
  · refine ⟨b, o, c, rfl, h1, fun j u hu => ?_⟩
    have hj : j < 4096 := by have := (List.getElem?_eq_some_iff.1 hu).1; rw [srcL_len] at this; exact this
    rw [Addr.add_mid, h3 j hj, ← hu]
    unfold srcL
    rw [List.getElem?_map, List.getElem?_range hj]; rfl
theorem min_src (g : Nat → Int) : (srcL g).length = Nat.min 4096 4096 := by rw [srcL_len]; rfl
theorem laid_row {L S : List Value} (h : L.length = S.length) : List.take 0 L ++ S ++ List.drop (0 + S.length) L = S := by
  rw [List.take_zero, List.nil_append, List.drop_of_length_le (by omega), List.append_nil]

set_option maxRecDepth 100000 in
set_option maxHeartbeats 1000000 in
theorem from_yes (v : Value) (n : Nat) (ln : Nat → Nat) (g : Nat → Nat → Int) (m : Nat) (w : World) (h : PSeg w v n ln g) (hg : ∀ i j, 0 ≤ g i j ∧ g i j ≤ 255) (hm : mayB n m = true) (hwh : whl ln n = true) :
    Calls Tryd.prog 10 #[v, .int .i64 m] w fun e w' => ∃ R sv PB, e = .returned (.tuple #[.pointer (some ⟨R, 0, none⟩), .int .i64 0]) ∧ Mem w' R m sv PB (frF g n) (fun _ => false) ∧ PB.length = n ∧ Below w.heap.size w w' ∧ ∀ k, Fp R sv PB k → w.heap.size ≤ k := by
  have HW := hid (hwh ▸ whole_any v n ln g w h)
  have HP := hid h
  obtain ⟨a, c, rfl, hc, hn2, k1⟩ := id h
  have HM := hid (hm ▸ may_any n m w)
  have hnm : n ≤ m ∧ m ≤ 64 := by simp [mayB] at hm; omega
  have HWH := hid hwh
  have HSH := hid (show n = 0 ∨ ∃ b o, a = some ⟨b, o, none⟩ from k1.elim .inl (fun ⟨b, o, e, _⟩ => .inr ⟨b, o, e⟩))
  have hzv := Tryd.zvMem
  clear hm hwh k1 h
  go_enter Tryd.func10, Tryd.ntmps10
  go_wp2_with fail
  refine HM.out.mono ?_
  rintro e w' ⟨rfl, hw⟩
  have hw' := hw.symm; subst hw'; clear hw
  go_wp2_with fail
  refine HW.out.mono ?_
  rintro e w' ⟨rfl, hw⟩
  have hw' := hw.symm; subst hw'; clear hw
  go_wp2_with fail
  rw [mem0]
  refine (add_mem w.heap.size m _ [] _ _ n _ (mem_first w m hnm.2) (by simp; omega)).mono ?_
  rintro e w2 ⟨rfl, sv, PB, hM, hl, hK, hF⟩
  have hM0 : Mem w2 w.heap.size m sv PB (frF g 0) (fun _ => false) := by rw [frF_0]; exact hM
  have HL := hid (show PB.length = n by have := hl; simpa using this)
  have hbn := (Below.refl w.heap.size w).alloc (Nat.le_refl _) (Obj.cells (memC m (.slice none 0 0) (fun _ => false)) 79)
  have hbK : Below w.heap.size w w2 := by
    refine hbn.trans (hK.to_below (by simp) (fun k hk hx => ?_))
    rcases hx with rfl | hx | hx
    · omega
    · cases hx
    · cases hx
  have HF := hid (show ∀ k, Fp w.heap.size sv PB k → w.heap.size ≤ k from fun k hk => by
    rcases hF k hk with hx | hx
    · rcases hx with rfl | hx | hx
      · omega
      · cases hx
      · cases hx
    · simp at hx; omega)
  have HM0 := hid hM0
  have HBK := hid hbK
  clear hM hM0 hl hK hF hbn hbK hzv HM HW
  go_wp2_with fail
  go_loopw [7, 8, 28] (fun x y i wr => ∃ k : Nat, k ≤ n ∧ i = .int .i64 k ∧ Hid (Mem wr w.heap.size m sv PB (frF g k) (fun _ => false)) ∧ Hid (Below w.heap.size w wr)) (fun _ _ i _ => n - (intOf i).toNat)
  case atStart => exact ⟨0, by omega, rfl, HM0, HBK⟩
  case round =>
    obtain ⟨k, hk, rfl, HX, HB⟩ := hrel
    clear HM0 HBK
    by_cases hlt : k < n
    · obtain ⟨b, o, rfl⟩ : ∃ b o, a = some ⟨b, o, none⟩ := HSH.out.elim (fun h => by omega) id
      have hPS := HP.out.keep (kept_below HB.out)
      obtain ⟨ua, uc, hcl, _, _, hbs⟩ := hPS.at hlt
      have h4 := whl_at HWH.out hlt
      rw [h4] at hcl hbs
      obtain ⟨sb, so, sc2, e, hsc2, hsrc⟩ := hbs.src
      rw [e] at hcl
      have hi : k < PB.length := by rw [HL.out]; exact hlt
      obtain ⟨p, hp⟩ : ∃ p, PB[k]? = some p := ⟨_, List.getElem?_eq_getElem hi⟩
      obtain ⟨gb, gc, hsv, hgc, _, hlc⟩ := HX.out.slot hp
      have c2 := HX.out.c2
      rw [hsv, HL.out] at c2
      have hpb := HX.out.pg k p hp
      have hsp := slice_page p
      have HPB := hid hpb
      have HPP := hid hp
      have HSRC := hid hsrc
      have HLT := hid hlt
      rw [HL.out] at hlc
      have hlt' : (k : Int) < n := by omega
      clear hPS hpb hp hsv e hbs hsrc h4 hi
      go_wp2_with fail
      have hfit : 0 + (srcL (g k)).length ≤ (pageC (frF g k) k).size := by rw [srcL_len, pageC_size]; exact Nat.le_refl _
      rw [run_copy_row Tryd.prog wr 41 41 3 5 p 0 4096 4096 ⟨sb, so, none⟩ 4096 sc2 (pageC (frF g k) k) 92 (srcL (g k)) Tryd.underlying41 Tryd.infU8s HPB.out (min_src (g k)) HSRC.out hfit (srcL_one (g k))]
      rw [laid_row (by rw [Array.length_toList, pageC_size, srcL_len]), srcL_arr (f := frF g (k + 1)) (fun j hj => frF_page (by omega) hj)]
      have hnew := setRow_heap wr p _ (pageC (frF g (k + 1)) k) 92 _ HPB.out
      have hkp : Kept (fun q => q = p) wr (wr.setRow p (pageC (frF g (k + 1)) k)) := ⟨rfl, rfl, rfl, by simp [World.setRow], fun q hq hs => setRow_other wr p q _ (by simpa using hs)⟩
      have hM2 := HX.out.lay HPP.out hkp hnew (fun i j hi hj => frF_out hi hj) (frF_rng hg (k + 1)) (fun a ha => frF_top g (k + 1) a (by rw [HL.out] at ha; omega))
      have hB2 : Below w.heap.size w (wr.setRow p (pageC (frF g (k + 1)) k)) := below_setRow HB.out (HF.out p (.inr (.inr (List.mem_of_getElem? HPP.out)))) _
      have HM2 := hid hM2
      have HB2 := hid hB2
      clear hnew hkp hM2 hB2 hfit
      generalize wr.setRow p (pageC (frF g (k + 1)) k) = w4 at *
      simp only [Result.andThen]
      go_wp2_with fail
      exact ⟨⟨k + 1, by omega, by go_num, HM2, HB2⟩, by simp [intOf]; omega⟩
    · obtain rfl : k = n := by omega
      go_wp2_with fail
      go_ret2
      exact ⟨w.heap.size, sv, PB, rfl, HX.out, HL.out, HB.out, HF.out⟩

/-! The document's From. -/

theorem rfrom_no1 (v : Value) (n : Nat) (ln : Nat → Nat) (g : Nat → Nat → Int) (m : Int) (w : World) (h : PSeg w v n ln g) (hn : mayB n m = false) :
    Calls Tryd.prog 11 #[v, .int .i64 m] w fun e w' => e = .returned (.tuple #[.pointer none, .int .i64 1]) ∧ w' = w := by
  obtain ⟨a, c, rfl, hc, hn2, _⟩ := h
  by_cases h1 : m < n
  · clear hn
    go_enter Tryd.func11, Tryd.ntmps11
    go_wp2_with fail
    go_ret2
    exact ⟨rfl, rfl⟩
  · have h2 : 64 < m := by
      rcases Int.lt_or_le 64 m with h3 | h3
      · exact h3
      · have : mayB n m = true := by simp [mayB]; omega
        rw [this] at hn; cases hn
    clear hn
    go_enter Tryd.func11, Tryd.ntmps11
    go_wp2_with fail
    go_ret2
    exact ⟨rfl, rfl⟩

set_option maxRecDepth 100000 in
theorem bytes_src (g : Nat → Nat → Int) (k : Nat) : bytesL (frF g k) (k * 4096) ++ srcL (g k) = bytesL (frF g (k + 1)) (k * 4096 + 4096) := by
  apply List.ext_getElem?
  intro j
  by_cases h1 : j < k * 4096
  · rw [List.getElem?_append_left (by rw [bytesL_len]; exact h1), bytesL_get _ _ _ h1, bytesL_get _ _ _ (by omega)]
    unfold frF
    rw [if_pos h1, if_pos (by omega)]
  · rw [List.getElem?_append_right (by rw [bytesL_len]; omega), bytesL_len]
    by_cases h2 : j < k * 4096 + 4096
    · rw [bytesL_get _ _ _ h2]
      obtain ⟨i, rfl⟩ : ∃ i, j = k * 4096 + i := ⟨j - k * 4096, by omega⟩
      rw [frF_page (by omega) (by omega), show k * 4096 + i - k * 4096 = i by omega]
      unfold srcL
      rw [List.getElem?_map, List.getElem?_range (by omega)]; rfl
    · rw [List.getElem?_eq_none (by rw [srcL_len]; omega), List.getElem?_eq_none (by rw [bytesL_len]; omega)]

set_option maxRecDepth 100000 in
set_option maxHeartbeats 1000000 in
theorem rfrom (v : Value) (n : Nat) (ln : Nat → Nat) (g : Nat → Nat → Int) (m : Nat) (w : World) (h : PSeg w v n ln g) (hg : ∀ i j, 0 ≤ g i j ∧ g i j ≤ 255) (hm : mayB n m = true) :
    Calls Tryd.prog 11 #[v, .int .i64 m] w fun e w' => Below w.heap.size w w' ∧ ((whl ln n = false ∧ e = .returned (.tuple #[.pointer none, .int .i64 1])) ∨
      (whl ln n = true ∧ ∃ X B c V, e = .returned (.tuple #[.pointer (some ⟨X, 0, none⟩), .int .i64 0]) ∧ Rfm w' X m B c V n (frF g n) (fun _ => false) ∧ ∀ k, Fq X B V k → w.heap.size ≤ k)) := by
  have HP := hid h
  obtain ⟨a, c, rfl, hc, hn2, k1⟩ := id h
  have hnm : n ≤ m ∧ m ≤ 64 := by simp [mayB] at hm; omega
  have HSH := hid (show n = 0 ∨ ∃ b o, a = some ⟨b, o, none⟩ from k1.elim .inl (fun ⟨b, o, e, _⟩ => .inr ⟨b, o, e⟩))
  have HN := hid (rnew_yes 0 m w (by simp [mayB]; omega))
  obtain ⟨i2, hi2, hz0, hz1, hz2⟩ := info_parts Tryd.infU8
  have HI2 := hid hi2
  clear hm k1 h hi2
  go_enter Tryd.func11, Tryd.ntmps11
  go_wp2_with fail
  refine HN.out.mono ?_
  rintro e w1 ⟨X, B, V, rfl, hR, hb, hf⟩
  have HR0 := hid (show Rfm w1 X m B (0 * 4096) V 0 (frF g 0) (fun _ => false) by rw [frF_0]; exact hR)
  have HB0 := hid hb
  have HF0 := hid hf
  clear hR hb hf HN
  go_wp2_with fail
  go_loopw [8] (fun i wr => ∃ k : Nat, k ≤ n ∧ i = .int .i64 k ∧ Hid (whl ln k = true) ∧ Hid (Below w.heap.size w wr) ∧ Hid (∃ B c, Rfm wr X m B c V k (frF g k) (fun _ => false) ∧ ∀ q, Fq X B V q → w.heap.size ≤ q)) (fun i _ => n - (intOf i).toNat)
  case atStart => exact ⟨0, by omega, rfl, hid rfl, HB0, hid ⟨B, _, HR0.out, HF0.out⟩⟩
  case round =>
    obtain ⟨k, hk, rfl, HWK, HB, HX⟩ := hrel
    clear HR0 HB0 HF0
    by_cases hlt : k < n
    · obtain ⟨b, o, rfl⟩ : ∃ b o, a = some ⟨b, o, none⟩ := HSH.out.elim (fun h => by omega) id
      obtain ⟨B, cB, hR, hF⟩ := HX.out
      have hPS := HP.out.keep (kept_below HB.out)
      obtain ⟨ua, uc, hcl, _, _, hbs⟩ := hPS.at hlt
      have hlt' : (k : Int) < n := by omega
      have HLT := hid hlt
      have HRR := hid hR
      have HFF := hid hF
      by_cases h4 : ln k = 4096
      · have HW2 := hid (show whl ln (k + 1) = true by simp [whl, HWK.out, h4])
        rw [h4] at hcl hbs
        obtain ⟨sb, so, sc2, e, hsc2, hsrc⟩ := hbs.src
        rw [e] at hcl
        have c0 := hR.c0
        have fz := free_at (i := 0) hR.blk
        have HSRC := hid hsrc
        clear hPS e hbs hsrc h4 hR hF HX HWK
        go_wp2_with fail
        have HRD := hid (HRR.out.kept (Kept.drewN (fun _ => False) wr 1) (fun _ _ x => x))
        have HSD := hid (show ∀ (j : Nat) (u : Value), (srcL (g k))[j]? = some u → (wr.drewN 1).cell? ((⟨sb, so, none⟩ : Addr).add j) = some u from fun j u hu => by
          have := HSRC.out j u hu
          rw [Addr.add_mid] at this ⊢
          exact (Kept.drewN (fun _ => False) wr 1).cell this (fun x => x))
        have HLN := hid (show (srcL (g k)).length = 4096 * 1 by rw [srcL_len])
        have HOR := hid (show (wr.drewN 1).ownsRow 0 5 1 (.slice (some ⟨B, 0, none⟩) (k * 4096) cB) (k * 4096) (bytesL (frF g k) (k * 4096)) from HRD.out.row)
        have HBX := hid (show ¬ X = B from fun e => HRD.out.BX e.symm)
        have HXL := hid (HRD.out.lt (k := X) (.inl rfl))
        have HBKK := hid (HRD.out.blk)
        go_region_law (refine step_append_lies _ rfl (.tmp 38) (.tmp 42) 41 rfl 0 5 i2 (.int .u8 0) 1 1 Tryd.underlying41 HI2.out hz0 hz1 hz2 rfl (by decide) (.slice (some ⟨B, 0, none⟩) (k * 4096) cB) (k * 4096) (bytesL (frF g k) (k * 4096)) rfl HOR.out ⟨sb, so, none⟩ 4096 sc2 (srcL (g k)) rfl HLN.out HSD.out (srcL_one (g k)) (by decide) (by unfold maxLen; omega) (by omega) (Nat.zero_le _) _ rfl ?_; intro B2 cap2 w5 hown5 hgrow5 hor5 hlt5; have d0b := ((Kept.of_grown hgrow5).block X HXL.out (fun e => HBX.out (by simpa [Value.ownBlock] using e))).trans HBKK.out; have d0 : w5.cell? ⟨X, 0, none⟩ = some (.slice (some ⟨B, 0, none⟩) (k * 4096) cB) := (cell_at d0b).trans rfl; have f0 : w5.frozen? ⟨X, 0, none⟩ = false := free_at d0b; have HO5 := hid hown5; have HG5 := hid hgrow5; have HOR5 := hid hor5; clear hown5 hgrow5 hor5 d0b)
        all_goals
          have hkk : Kept (fun q => q = B) (wr.drewN 1) w5 := (Kept.of_grown HG5.out).mono (fun q hq => by simpa [Value.ownBlock] using hq)
          have hrow : Row w5 5 B2 ((k + 1) * 4096) cap2 (bytesL (frF g (k + 1)) ((k + 1) * 4096)) := by
            rw [show (k + 1) * 4096 = k * 4096 + 4096 by omega, ← bytes_src]
            exact Row.of HO5.out
          have hB2 : B2 = B ∨ (wr.drewN 1).heap.size ≤ B2 := HOR5.out.elim (fun e => .inl (by simpa [Value.ownBlock] using e.symm)) (fun e => .inr (by rw [e]; exact Nat.le_refl _))
          have P := HRD.out.put hrow hkk hB2 (by omega) (frF_rng hg (k + 1)) (frF_top g (k + 1))
          have hsz := HB.out.size
          have hFB : ∀ q, Fq X B2 V q → w.heap.size ≤ q := fun q hq => by
            rcases hq with rfl | rfl | rfl
            · exact HFF.out _ (.inl rfl)
            · rcases hB2 with e | e
              · rw [e]; exact HFF.out _ (.inr (.inl rfl))
              · exact Nat.le_trans hsz e
            · exact HFF.out _ (.inr (.inr rfl))
          have hBW := below_kept (HB.out.trans (below_drewN (Below.refl w.heap.size wr) 1)) P.2 hsz (fun q hq => HFF.out q hq)
          rw [show (k + 1) * 4096 = k * 4096 + 4096 by omega] at P hBW
          have HP1 := hid P.1
          have HBW := hid hBW
          have HFB := hid hFB
          clear P hBW hFB hkk hrow hB2
          generalize w5.setCell ⟨X, 0, none⟩ (.slice (some ⟨B2, 0, none⟩) (k * 4096 + 4096) cap2) = w6 at *
          go_wp2_with fail
          exact ⟨⟨k + 1, by omega, by go_num, HW2, HBW, hid ⟨B2, cap2, HP1.out, HFB.out⟩⟩, by simp [intOf]; omega⟩
      · have HNO := hid (whl_no h4 hlt)
        clear hbs hPS hR hF
        generalize ln k = q at *
        have hne : ((q : Int) != 4096) = true := by simp; omega
        go_wp2_with fail
        go_ret2
        exact ⟨HB.out, .inl ⟨HNO.out, rfl⟩⟩
    · obtain rfl : k = n := by omega
      go_wp2_with fail
      go_ret2
      obtain ⟨B, cB, hR, hF⟩ := HX.out
      exact ⟨HB.out, .inr ⟨HWK.out, X, B, cB, V, rfl, hR, hF⟩⟩
end Go.Proofs.YtedkmfklobipaaaDoor

/-
  The walk over the document's Grow.
-/
import Derived.Test.YtedkmfklobipaaaDoorAz
namespace Go.Proofs.YtedkmfklobipaaaDoor
open Go.RowKit
set_option linter.unusedVariables false

theorem rgrow_not (X most B c V N : Nat) (f : Nat → Int) (d : Nat → Bool) (n : Int) (w : World) (h : Rfm w X most B c V N f d) (h0 : 0 ≤ n) (hn : (most : Int) - N < n) (hv : n ≤ 18446744073709551615) :
    Calls Tryd.prog 24 #[.pointer (some ⟨X, 0, none⟩), .int .u64 n] w fun e w' => e = .returned (.int .i64 (-1)) ∧ w' = w := by
  have c1 := h.c1
  have hle := h.le
  have htop := h.top
  have HC := hid (rsize X most B c V N f d w h)
  clear h
  by_cases h64 : 64 < n
  · go_enter Tryd.func24, Tryd.ntmps24
    go_wp2_with fail
    refine HC.out.mono ?_
    rintro e w' ⟨rfl, hw⟩
    have hw' := hw.symm; subst hw'; clear hw
    go_wp2_with fail
    go_ret
    exact ⟨rfl, rfl⟩
  · have hd : decide ((most : Int) < N + n) = true := by simp; omega
    go_enter Tryd.func24, Tryd.ntmps24
    go_wp2_with fail
    refine HC.out.mono ?_
    rintro e w' ⟨rfl, hw⟩
    have hw' := hw.symm; subst hw'; clear hw
    go_wp2_with fail
    go_ret
    exact ⟨rfl, rfl⟩

theorem bytes_more {f : Nat → Int} {n : Nat} (h : ∀ a, n ≤ a → f a = 0) : bytesL f n ++ zs4 = bytesL f (n + 4096) := by
  apply List.ext_getElem?
  intro j
  by_cases h1 : j < n
  · rw [List.getElem?_append_left (by rw [bytesL_len]; exact h1), bytesL_get _ _ _ h1, bytesL_get _ _ _ (by omega)]
  · rw [List.getElem?_append_right (by rw [bytesL_len]; omega), bytesL_len]
    by_cases h2 : j < n + 4096
    · rw [bytesL_get _ _ _ h2, h j (by omega)]
      unfold zs4
      rw [List.getElem?_replicate, if_pos (by omega)]
    · rw [List.getElem?_eq_none (by rw [zs4_len]; omega), List.getElem?_eq_none (by rw [bytesL_len]; omega)]
/-- The bytes lie elsewhere, and are more. -/
theorem Rfm.put {w w' : World} {X most B c V N : Nat} {f : Nat → Int} {d : Nat → Bool} (h : Rfm w X most B c V N f d) {f' : Nat → Int} {N' B' c' : Nat} (hr : Row w' 5 B' (N' * 4096) c' (bytesL f' (N' * 4096))) (hk : Kept (fun k => k = B) w w') (hB : B' = B ∨ w.heap.size ≤ B')
    (hN : N' ≤ most) (hrg : ∀ a, 0 ≤ f' a ∧ f' a ≤ 255) (hnt : ∀ a, N' * 4096 ≤ a → f' a = 0) :
    Rfm (w'.setCell ⟨X, 0, none⟩ (.slice (some ⟨B', 0, none⟩) (N' * 4096) c')) X most B' c' V N' f' d ∧ Kept (Fq X B V) w (w'.setCell ⟨X, 0, none⟩ (.slice (some ⟨B', 0, none⟩) (N' * 4096) c')) := by
  have hX := h.lt (k := X) (.inl rfl)
  have hV := h.lt (k := V) (.inr (.inr rfl))
  have hBX : B' ≠ X := by
    rcases hB with rfl | hB
    · exact h.BX
    · omega
  have hk2 := kept_setCell w' X 0 (.slice (some ⟨B', 0, none⟩) (N' * 4096) c')
  have hs := hk.size
  refine ⟨⟨?_, hr.kept hk2 hBX, ?_, hN, h.top, hrg, hnt⟩, (hk.mono (fun k e => .inr (.inl e))).trans (hk2.mono (fun k e => .inl e))⟩
  · have h1 := (hk.block X hX (fun e => h.BX e.symm)).trans h.blk
    exact heap_setCell_same w' X 0 _ _ _ h1
  · exact (hk2.block V (by omega) h.VX).trans ((hk.block V hV (fun e => h.BV e.symm)).trans h.mks)

theorem upd_same {A : Type} (f : Nat → A) (a : Nat) : upd f a (f a) = f := by
  funext x; unfold upd; split
  · next h => rw [h]
  · rfl

set_option maxRecDepth 100000 in
set_option maxHeartbeats 1000000 in
theorem rgrow_yes (X most B c V N : Nat) (f : Nat → Int) (d : Nat → Bool) (n : Nat) (w : World) (h : Rfm w X most B c V N f d) (hn : N + n ≤ most) :
    Calls Tryd.prog 24 #[.pointer (some ⟨X, 0, none⟩), .int .u64 n] w fun e w' => e = .returned (.int .i64 N) ∧ ∃ B' c', Rfm w' X most B' c' V (N + n) f (grM d N n) ∧ Kept (Fq X B V) w w' ∧ (B' = B ∨ w.heap.size ≤ B') := by
  have c1 := h.c1
  have hle := h.le
  have htop := h.top
  have HC := hid (rsize X most B c V N f d w h)
  have HM := hid h
  clear h
  go_enter Tryd.func24, Tryd.ntmps24
  go_wp2_with fail
  refine HC.out.mono ?_
  rintro e w' ⟨rfl, hw⟩
  have hw' := hw.symm; subst hw'; clear hw
  have hd : decide ((most : Int) < (N : Int) + n) = false := by simp; omega
  have hd2 : decide ((64 : Int) < (n : Int)) = false := by simp; omega
  go_wp2_with fail
  go_loopw [6] (fun i wr => ∃ k : Nat, k ≤ n ∧ i = .int .i64 k ∧ Hid (∃ B' c', Rfm wr X most B' c' V (N + k) f (grM d N k) ∧ Kept (Fq X B V) w wr ∧ (B' = B ∨ w.heap.size ≤ B'))) (fun i _ => n - (intOf i).toNat)
  case atStart => exact ⟨0, by omega, rfl, hid ⟨B, c, HM.out, Kept.refl _ _, .inl rfl⟩⟩
  case round =>
    obtain ⟨k, hk, rfl, HX⟩ := hrel
    clear HM HC c1
    by_cases hlt : k < n
    · obtain ⟨B', c', hR, hK, hB⟩ := HX.out
      have c2 := hR.c2
      have e3 := hR.mrk (show N + k < 64 by omega)
      have e4 := hR.mfree (N + k)
      have HRD := hid (hR.kept (Kept.drewN (fun _ => False) wr 1) (fun _ _ x => x))
      have HR := hid hR
      have HK := hid hK
      have HBB := hid hB
      clear hR hK hB HX
      have hlt' : (k : Int) < n := by omega
      go_wp2_with fail
      go_region_with (refine (rsize X most B' c' V (N + k) f (grM d N k) _ HRD.out).mono ?_; rintro e w' ⟨rfl, hw⟩; subst hw)
      all_goals
        have hRW := (HRD.out.mark (N + k) true)
        obtain ⟨W, hW⟩ : ∃ W, W = (wr.drewN 1).setCell ⟨V, N + k, none⟩ (Value.bool true) := ⟨_, rfl⟩
        have hRW' : Rfm W X most B' c' V (N + k) f (upd (grM d N k) (N + k) true) := by rw [hW]; exact hRW
        have HKW := hid (show Kept (Fq X B' V) wr W by rw [hW]; exact (Kept.drewN _ wr 1).trans ((kept_setCell _ V _ _).mono (fun q hq => .inr (.inr hq))))
        rw [← hW]
        clear hRW hW c2 e3 e4 HRD
        have c0 := hRW'.c0
        have fz := free_at (i := 0) hRW'.blk
        have HRW := hid hRW'
        have HRow := hid hRW'.row
        obtain ⟨i2, hi2, hz0, hz1, hz2⟩ := info_parts Tryd.infU8
        have HI := hid hi2
        have HZ0 := hid hz0
        have HZ1 := hid hz1
        have HZ2 := hid hz2
        clear hRW' hi2 hz0 hz1 hz2
        go_wp2_with (at_builtin; (refine app_zeros _ rfl (.tmp 39) _ 41 3 rfl rfl i2 Tryd.underlying41 Tryd.underlying3 HI.out HZ0.out HZ1.out HZ2.out B' ((N + k) * 4096) c' _ rfl HRow.out (by omega) ?_; intro B2 c2 w3 hr hk3 hB2; have c0' : w3.cell? ⟨X, 0, none⟩ = some (.slice (some ⟨B', 0, none⟩) ((N + k) * 4096) c') := hk3.cell c0 (fun e => HRW.out.BX e.symm); have fz' : w3.frozen? ⟨X, 0, none⟩ = false := (frozen_of_block (hk3.block X (HRW.out.lt (.inl rfl)) (fun e => HRW.out.BX e.symm)) 0).trans fz; have HR3 := hid hr; have HK3 := hid hk3; have HB3 := hid hB2; clear hr hk3 hB2 c0 fz))
        have P := HRW.out.put (N' := N + k + 1) (f' := f) (B' := B2) (c' := c2) (w' := w3) (by
          have hr := HR3.out
          rw [bytes_more HRW.out.nt, show (N + k) * 4096 + 4096 = (N + k + 1) * 4096 by omega] at hr
          exact hr) HK3.out HB3.out (by omega) HRW.out.rng (fun a ha => HRW.out.nt a (by omega))
        rw [show (N + k + 1) * 4096 = (N + k) * 4096 + 4096 by omega] at P
        refine ⟨⟨k + 1, by omega, by go_num, hid ⟨B2, c2, P.1, ?_, ?_⟩⟩, by simp [intOf]; omega⟩
        · have hsz := HK.out.size
          have hsz2 := HKW.out.size
          refine HK.out.then (HKW.out.then P.2 (fun q _ hx => hx)) (fun q hq hx => ?_)
          rcases hx with rfl | rfl | rfl
          · exact .inl rfl
          · rcases HBB.out with e | e
            · exact .inr (.inl e)
            · omega
          · exact .inr (.inr rfl)
        · have hsz := HK.out.size
          have hsz2 := HKW.out.size
          rcases HB3.out with e | e
          · rw [e]; exact HBB.out
          · exact .inr (by omega)
    · obtain rfl : k = n := by omega
      go_wp2_with fail
      go_ret
      obtain ⟨B', c', hR, hK, hB⟩ := HX.out
      exact ⟨rfl, B', c', hR, hK, hB⟩
end Go.Proofs.YtedkmfklobipaaaDoor

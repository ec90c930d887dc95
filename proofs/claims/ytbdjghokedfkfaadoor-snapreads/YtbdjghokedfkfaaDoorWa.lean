/-
  snap's writer in memory: ask, put, octet, number, value.
-/
import Derived.Test.YtbdjghokedfkfaaDoorAc
namespace Go.Proofs.YtbdjghokedfkfaaDoor
open Go.RowKit
set_option linter.unusedVariables false
set_option maxRecDepth 100000

/-- A writer in memory: its bytes 'bs' lie in the block g. -/
structure Wr (w : World) (R g cap : Nat) (bs : List Int) (bad : Bool) : Prop where
  c0 : w.cell? ⟨R, 0, none⟩ = some (.slice (some ⟨g, 0, none⟩) bs.length cap)
  c1 : w.cell? ⟨R, 1, none⟩ = some (.bool bad)
  f0 : w.frozen? ⟨R, 0, none⟩ = false
  f1 : w.frozen? ⟨R, 1, none⟩ = false
  row : Buf w g bs.length cap (bs.map (Value.int .u8))
  ne : g ≠ R
theorem Wr.lt {w : World} {R g cap : Nat} {bs : List Int} {bad : Bool} (h : Wr w R g cap bs bad) : R < w.heap.size := block_lt_of_cell h.c0
theorem Wr.kept {S : Nat → Prop} {w w' : World} {R g cap : Nat} {bs : List Int} {bad : Bool} (h : Wr w R g cap bs bad) (hk : Kept S w w') (hR : ¬ S R) (hg : ¬ S g) : Wr w' R g cap bs bad :=
  ⟨hk.cell h.c0 hR, hk.cell h.c1 hR, (frozen_of_block (hk.block R h.lt hR) 0).trans h.f0, (frozen_of_block (hk.block R h.lt hR) 1).trans h.f1, h.row.kept hk hg, h.ne⟩
theorem Wr.later {w w' : World} {R g cap : Nat} {bs : List Int} {bad : Bool} (h : Wr w R g cap bs bad) (hb : Below w.heap.size w w') : Wr w' R g cap bs bad :=
  h.kept (S := fun _ => False) ⟨hb.os, hb.tape, hb.output, hb.size, fun k hk _ => hb.block k hk⟩ id id

abbrev WS := List Int × Bool
def askW (b : Bool) (s : WS) : WS := (s.1, s.2 || !b)
def putW (zs : List Int) (s : WS) : WS := if s.2 then s else (s.1 ++ zs, s.2)
def numW (v most : Int) (s : WS) : WS := putW (uvar v) (askW (decide (v ≤ most)) s)
def octW (v least most : Int) (s : WS) : WS := putW [v] (askW (decide (least ≤ v) && decide (v ≤ most)) s)
/-- Nothing is answered; the writer is in state s. -/
abbrev WOut (R g : Nat) (s : WS) (w : World) : Ending → World → Prop := fun e w' => e = .returned (.tuple #[]) ∧ ∃ g' cap', Wr w' R g' cap' s.1 s.2 ∧ Stp R g g' w w'

theorem ask37 (R g cap : Nat) (s : WS) (b : Bool) (w : World) (h : Wr w R g cap s.1 s.2) :
    Calls Tryd.prog 89 #[.pointer (some ⟨R, 0, none⟩), .bool b] w (WOut R g (askW b s) w) := by
  obtain ⟨bs, bad⟩ := s
  have c1 := h.c1
  have f1 := h.f1
  have HW := hid h
  clear h
  have fin : ∀ b' : Bool, Wr (w.setCell ⟨R, 1, none⟩ (.bool b')) R g cap bs b' ∧ Stp R g g w (w.setCell ⟨R, 1, none⟩ (.bool b')) := fun b' => by
    have hk : Kept (fun k => k = R) w (w.setCell ⟨R, 1, none⟩ (.bool b')) := ⟨rfl, rfl, rfl, by simp [World.setCell], fun k hk hs => Below.heap_setCell _ _ _ _ (by simpa using hs)⟩
    refine ⟨⟨?_, ?_, ?_, ?_, HW.out.row.kept hk HW.out.ne, HW.out.ne⟩, ⟨hk.mono (fun k hk => .inl hk), .inl rfl⟩⟩
    · rw [World.cell?_setCell_other _ _ _ _ (by simp)]; exact HW.out.c0
    · exact World.cell?_setCell_same w ⟨R, 1, none⟩ (.bool b') c1
    · rw [World.frozen?_setCell]; exact HW.out.f0
    · rw [World.frozen?_setCell]; exact HW.out.f1
  have FIN := hid fin
  clear fin HW
  cases bad <;> cases b
  all_goals
    go_enter Tryd.func89, Tryd.ntmps89
    go_wp2_with fail
    go_end0
    exact ⟨rfl, g, cap, (FIN.out _).1, (FIN.out _).2⟩

theorem put38 (R g cap : Nat) (s : WS) (a : Option Addr) (n c : Nat) (zs : List Int) (w : World) (h : Wr w R g cap s.1 s.2) (hs : Seg w a n c zs) (hn : 0 < n) (hb : s.1.length + n ≤ 1099511627776) :
    Calls Tryd.prog 90 #[.pointer (some ⟨R, 0, none⟩), .slice a n c] w (WOut R g (putW zs s) w) := by
  obtain ⟨bs, bad⟩ := s
  have c0 := h.c0
  have f0 := h.f0
  have c1 := h.c1
  have hlt := h.lt
  cases bad with
  | true =>
    have HW := hid h
    clear h hs
    go_enter Tryd.func90, Tryd.ntmps90
    go_wp2_with fail
    go_end0
    exact ⟨rfl, g, cap, HW.out, Stp.refl _ _ _⟩
  | false =>
    obtain ⟨i0, hi, hz0, hz1, hz2⟩ := info_parts Tryd.info5
    obtain ⟨ad, rfl⟩ : ∃ ad, a = some ad := by
      rcases hs.2.2.2.2 with h0 | ⟨b, off, h, _⟩
      · omega
      · exact ⟨_, h⟩
    have HW := hid h
    have HR := hid h.row
    have HNE := hid h.ne
    have HS := hid hs
    have hl := hs.1
    dsimp only at hb c0 f0
    clear h hs
    go_enter Tryd.func90, Tryd.ntmps90
    go_wp2_with (at_builtin; (refine app_buf _ rfl (.tmp 13) (.tmp 14) 31 rfl i0 (.int .u8 0) Tryd.underlying31 hi hz0 hz1 hz2 rfl g bs.length cap _ rfl HR.out ad n c (zs.map (Value.int .u8)) rfl (by simp [hl]) (seg_cells HS.out ad rfl) (ints_one _) hn (by unfold maxLen; omega) (by omega) ?_; intro B cap' w1 hrow hk hor; have HO := hid hrow; have HK := hid hk; have HOR := hid hor; have d0 := hk.cell c0 (Ne.symm HNE.out); have e0 := (frozen_of_block (hk.block R hlt (Ne.symm HNE.out)) 0).trans f0; clear hrow hk hor c0 f0))
    go_end0
    have hne : B ≠ R := by
      rcases HOR.out with h1 | h1
      · have := HNE.out; omega
      · omega
    refine ⟨rfl, B, cap', ⟨?_, ?_, ?_, ?_, ?_, hne⟩, ⟨?_, HOR.out⟩⟩
    · have := World.cell?_setCell_same w1 ⟨R, 0, none⟩ (.slice (some ⟨B, 0, none⟩) (bs.length + n) cap') d0
      simpa [hl, putW] using this
    · rw [World.cell?_setCell_other _ _ _ _ (by simp)]; exact HK.out.cell HW.out.c1 (Ne.symm HNE.out)
    · rw [World.frozen?_setCell]; exact e0
    · rw [World.frozen?_setCell]; exact (frozen_of_block (HK.out.block R hlt (Ne.symm HNE.out)) 1).trans HW.out.f1
    · have hk : (w1.setCell ⟨R, 0, none⟩ (.slice (some ⟨B, 0, none⟩) (bs.length + n) cap')).heap[B]? = w1.heap[B]? := Below.heap_setCell _ _ _ _ (by simpa using hne)
      have := HO.out.keep hk
      refine .inl ?_
      simpa [hl, putW] using this
    · exact (HK.out.mono (T := fun k => k = R ∨ k = g) (fun k hk => .inr hk)).trans ⟨rfl, rfl, rfl, by simp [World.setCell], fun k hk hs => Below.heap_setCell _ _ _ _ (by simp at hs ⊢; omega)⟩

theorem uvarB (v : Int) (w : World) (h0 : 0 ≤ v) (h1 : v < 18446744073709551616) :
    Calls Tryd.prog 91 #[.int .u64 v] w fun e w' => ∃ B, e = .returned (.slice (some ⟨B, 0, none⟩) (uvar v).length (uvar v).length) ∧ Seg w' (some ⟨B, 0, none⟩) (uvar v).length (uvar v).length (uvar v) ∧ Below w.heap.size w w' :=
  (uvar17 v w h0 h1).mono fun e w' ⟨he, hs, hb, _⟩ => ⟨_, he, hs, hb⟩

theorem number21 (R g cap : Nat) (s : WS) (v most : Int) (w : World) (h : Wr w R g cap s.1 s.2) (h0 : 0 ≤ v) (h1 : v < 18446744073709551616) (hb : s.1.length + 10 ≤ 1099511627776) :
    Calls Tryd.prog 68 #[.pointer (some ⟨R, 0, none⟩), .int .u64 v, .int .u64 most] w (WOut R g (numW v most s) w) := by
  have HA := hid (fun b => ask37 R g cap s b w h)
  have HU := hid (fun W => uvarB v W h0 h1)
  have HP := hid (fun (g : Nat) (cap : Nat) (a : Option Addr) (W : World) (hW : Wr W R g cap (askW (decide (v ≤ most)) s).1 (askW (decide (v ≤ most)) s).2) (hS : Seg W a (uvar v).length (uvar v).length (uvar v)) => put38 R g cap (askW (decide (v ≤ most)) s) a _ _ _ W hW hS (uvar_len v).1 (by have := uvar_len v; simp only [askW]; omega))
  have e : numW v most s = putW (uvar v) (askW (decide (v ≤ most)) s) := rfl
  rw [e]
  clear h hb e
  generalize putW (uvar v) (askW (decide (v ≤ most)) s) = s2 at *
  have HA := hid (HA.out (decide (v ≤ most)))
  generalize askW (decide (v ≤ most)) s = s1 at *
  generalize uvar v = U at *
  go_enter Tryd.func68, Tryd.ntmps68
  go_wp2_with fail
  refine HA.out.mono ?_
  rintro e w1 ⟨rfl, g1, cap1, hw1, hs1⟩
  have W1 := hid hw1
  have S1 := hid hs1
  clear hw1 hs1 HA
  go_wp2_with fail
  refine (HU.out _).mono ?_
  rintro e w2 ⟨B, rfl, s2', b2⟩
  have S2 := hid s2'
  have B2 := hid b2
  clear s2' b2 HU
  go_wp2_with fail
  refine (HP.out g1 cap1 _ w2 (W1.out.later B2.out) S2.out).mono ?_
  rintro e w3 ⟨rfl, g3, cap3, hw3, hs3⟩
  have W3 := hid hw3
  have S3 := hid ((S1.out.trans (Stp.of_below B2.out)).trans hs3)
  clear hw3 hs3 HP
  go_wp2_with fail
  go_end0
  exact ⟨rfl, g3, cap3, W3.out, S3.out⟩

theorem value23 (R g cap : Nat) (s : WS) (v : Int) (w : World) (h : Wr w R g cap s.1 s.2) (h0 : 0 ≤ v) (h1 : v < 18446744073709551616) (hb : s.1.length + 10 ≤ 1099511627776) :
    Calls Tryd.prog 70 #[.pointer (some ⟨R, 0, none⟩), .int .u64 v] w (WOut R g (numW v 18446744073709551615 s) w) := by
  have HN := hid (number21 R g cap s v 18446744073709551615 w h h0 h1 hb)
  clear h hb
  generalize numW v 18446744073709551615 s = s1 at *
  go_enter Tryd.func70, Tryd.ntmps70
  go_wp2_with fail
  refine HN.out.mono ?_
  rintro e w1 ⟨rfl, g1, cap1, hw1, hs1⟩
  have W1 := hid hw1
  have S1 := hid hs1
  clear hw1 hs1 HN
  go_wp2_with fail
  go_end0
  exact ⟨rfl, g1, cap1, W1.out, S1.out⟩

theorem octet20 (R g cap : Nat) (s : WS) (v least most : Int) (w : World) (h : Wr w R g cap s.1 s.2) (h0 : -128 ≤ v) (h1 : v ≤ 127) (hl0 : 0 ≤ least) (hb : s.1.length + 10 ≤ 1099511627776) :
    Calls Tryd.prog 67 #[.pointer (some ⟨R, 0, none⟩), .int .i8 v, .int .i8 least, .int .i8 most] w (WOut R g (octW v least most s) w) := by
  have e : octW v least most s = putW [v] (askW (decide (least ≤ v) && decide (v ≤ most)) s) := rfl
  rw [e]
  clear e
  have HX := hid (show (askW (decide (least ≤ v) && decide (v ≤ most)) s).2 = false → 0 ≤ v by
    intro hq
    simp [askW] at hq
    omega)
  have HA := hid (ask37 R g cap s (decide (least ≤ v) && decide (v ≤ most)) w h)
  have hln : (askW (decide (least ≤ v) && decide (v ≤ most)) s).1.length + 10 ≤ 1099511627776 := hb
  clear h hb
  have key : ∀ (s1 : WS) (b : Bool), Hid (s1.2 = false → 0 ≤ v) → s1.1.length + 10 ≤ 1099511627776 → (decide (least ≤ v) && decide (v ≤ most)) = b → Hid (Calls Tryd.prog 89 #[.pointer (some ⟨R, 0, none⟩), .bool b] w (WOut R g s1 w)) →
      Calls Tryd.prog 67 #[.pointer (some ⟨R, 0, none⟩), .int .i8 v, .int .i8 least, .int .i8 most] w (WOut R g (putW [v] s1) w) := by
    intro s1 b HX hln hb HA
    have tail : ∀ (w1 : World) (g1 cap1 : Nat), Wr w1 R g1 cap1 s1.1 s1.2 → Calls Tryd.prog 90 #[.pointer (some ⟨R, 0, none⟩), .slice (some ⟨w1.heap.size, 0, none⟩) 1 1] (w1.alloc (.cells #[.int .u8 (IntKind.u8.wrap v)] 5)) (WOut R g1 (putW [v] s1) w1) := by
      intro w1 g1 cap1 hw1
      have b1 := below_new w1 (.cells #[.int .u8 (IntKind.u8.wrap v)] 5)
      have hc : (w1.alloc (.cells #[.int .u8 (IntKind.u8.wrap v)] 5)).cell? ⟨w1.heap.size, 0, none⟩ = some (.int .u8 (IntKind.u8.wrap v)) := cell_at (nb_new w1 _)
      by_cases hbad : s1.2 = true
      · have hp : ∀ zs, putW zs s1 = s1 := fun zs => by simp [putW, hbad]
        have := put38 R g1 cap1 s1 (some ⟨w1.heap.size, 0, none⟩) 1 1 [IntKind.u8.wrap v] _ (hw1.later b1) ⟨rfl, by omega, by omega, by intro z hz; simp at hz; subst hz; rw [IntKind.wrap_u8]; omega, .inr ⟨_, _, rfl, fun j hj => by obtain rfl : j = 0 := (by omega); exact hc⟩⟩ (by omega) (by omega)
        rw [hp] at this
        rw [hp]
        exact this.mono (fun e w' ⟨he, g', c', a1, a2⟩ => ⟨he, g', c', a1, (Stp.of_below b1).trans a2⟩)
      · have hv := HX.out (by simpa using hbad)
        have e : IntKind.u8.wrap v = v := by rw [IntKind.wrap_u8]; omega
        rw [e] at hc b1 ⊢
        have := put38 R g1 cap1 s1 (some ⟨w1.heap.size, 0, none⟩) 1 1 [v] _ (hw1.later b1) ⟨rfl, by omega, by omega, by intro z hz; simp at hz; subst hz; omega, .inr ⟨_, _, rfl, fun j hj => by obtain rfl : j = 0 := (by omega); exact hc⟩⟩ (by omega) (by omega)
        exact this.mono (fun e w' ⟨he, g', c', a1, a2⟩ => ⟨he, g', c', a1, (Stp.of_below b1).trans a2⟩)
    have HT := hid tail
    clear tail HX hln
    generalize putW [v] s1 = s2 at *
    obtain ⟨U, hU⟩ : ∃ U, IntKind.u8.wrap v = U := ⟨_, rfl⟩
    rw [hU] at HT
    have hU' : v % 256 = U := by rw [← hU, IntKind.wrap_u8]
    by_cases q1 : least ≤ v
    · by_cases q2 : v ≤ most
      · obtain rfl : true = b := by rw [← hb]; simp [q1, q2]
        clear hb
        go_enter Tryd.func67, Tryd.ntmps67
        go_wp2_with fail
        refine HA.out.mono ?_
        rintro e w1 ⟨rfl, g1, cap1, hw1, hs1⟩
        have HT1 := hid (HT.out w1 g1 cap1 hw1)
        have S1 := hid hs1
        clear hw1 hs1 HA HT
        go_wp2_with fail
        refine HT1.out.mono ?_
        rintro e w3 ⟨rfl, g3, cap3, hw3, hs3⟩
        have W3 := hid hw3
        have S3 := hid (S1.out.trans hs3)
        clear hw3 hs3 HT1
        go_wp2_with fail
        go_end0
        exact ⟨rfl, g3, cap3, W3.out, S3.out⟩
      · obtain rfl : false = b := by rw [← hb]; simp [q2]
        clear hb
        go_enter Tryd.func67, Tryd.ntmps67
        go_wp2_with fail
        refine HA.out.mono ?_
        rintro e w1 ⟨rfl, g1, cap1, hw1, hs1⟩
        have HT1 := hid (HT.out w1 g1 cap1 hw1)
        have S1 := hid hs1
        clear hw1 hs1 HA HT
        go_wp2_with fail
        refine HT1.out.mono ?_
        rintro e w3 ⟨rfl, g3, cap3, hw3, hs3⟩
        have W3 := hid hw3
        have S3 := hid (S1.out.trans hs3)
        clear hw3 hs3 HT1
        go_wp2_with fail
        go_end0
        exact ⟨rfl, g3, cap3, W3.out, S3.out⟩
    · obtain rfl : false = b := by rw [← hb]; simp [q1]
      clear hb
      go_enter Tryd.func67, Tryd.ntmps67
      go_wp2_with fail
      refine HA.out.mono ?_
      rintro e w1 ⟨rfl, g1, cap1, hw1, hs1⟩
      have HT1 := hid (HT.out w1 g1 cap1 hw1)
      have S1 := hid hs1
      clear hw1 hs1 HA HT
      go_wp2_with fail
      refine HT1.out.mono ?_
      rintro e w3 ⟨rfl, g3, cap3, hw3, hs3⟩
      have W3 := hid hw3
      have S3 := hid (S1.out.trans hs3)
      clear hw3 hs3 HT1
      go_wp2_with fail
      go_end0
      exact ⟨rfl, g3, cap3, W3.out, S3.out⟩
  exact key _ _ HX hln rfl HA
end Go.Proofs.YtbdjghokedfkfaaDoor

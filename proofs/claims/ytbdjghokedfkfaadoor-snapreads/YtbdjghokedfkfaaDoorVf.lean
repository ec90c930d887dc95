/-
  WideState, SpareState.
-/
import Derived.Test.YtbdjghokedfkfaaDoorJVb
namespace Go.Proofs.YtbdjghokedfkfaaDoor
open Go.RowKit
set_option linter.unusedVariables false
set_option maxRecDepth 100000

theorem WW.kept {S : Nat → Prop} {w w' : World} {B n : Nat} {l : List Int} (h : WW w B n l) (hk : Kept S w w') (hs : ¬ S B) : WW w' B n l := (hk.block B (nb_lt h) hs).trans h
theorem WFs.kept {S : Nat → Prop} {base : Nat} {w w' : World} {n : Nat} {xs ys : List FrM} (h : WFs base w n xs ys) (hk : Kept S w w') (hs : ∀ b, base ≤ b → ¬ S b) : WFs base w' n xs ys :=
  ⟨fun j y hy hj => by obtain ⟨x, B1, B2, h1, h2, h3⟩ := h.el j y hy hj; exact ⟨x, B1, B2, h1, h2, h3.l.kept hk (hs _ h3.b1), h3.s.kept hk (hs _ h3.b2), h3.b1, h3.b2⟩, h.mrk⟩
theorem WFs.low {base base' : Nat} {w : World} {n : Nat} {xs ys : List FrM} (h : WFs base w n xs ys) (hb : base' ≤ base) : WFs base' w n xs ys :=
  ⟨fun j y hy hj => by obtain ⟨x, B1, B2, h1, h2, h3⟩ := h.el j y hy hj; exact ⟨x, B1, B2, h1, h2, h3.l, h3.s, Nat.le_trans hb h3.b1, Nat.le_trans hb h3.b2⟩, h.mrk⟩
theorem Tens.up {B B' : Nat} {w w' : World} (h : Tens B w) (hb : Below B w w') (hB : B ≤ B') : Tens B' w' := fun W hW => h W (hb.trans (hW.mono hB))
theorem kept_bel {S : Nat → Prop} {w w' : World} (h : Below w.heap.size w w') : Kept S w w' := ⟨h.os, h.tape, h.output, h.size, fun k hk _ => h.block k hk⟩
theorem kept_putS {S : Nat → Prop} {w : World} {B i : Nat} {v : Value} (hB : S B) : Kept S w (w.setCell ⟨B, i, none⟩ v) := (kept_put (w := w) (B := B) (i := i) (v := v)).mono (fun k hk => by rw [hk]; exact hB)
/-- How much WideState bears. -/
structure SzW (x : StM) : Prop where
  f : x.fn ≤ 2147483647
  g : x.gn ≤ 2147483647
  p : x.pn ≤ 2147483647
  r : x.rn ≤ 2147483647
  fb : ∀ f ∈ x.fs, f.2.2.1.1.2.1 ≤ 2147483647 ∧ f.2.2.2.1.2.1 ≤ 2147483647
  pb : ∀ p ∈ x.ps, p.1.2.1 ≤ p.1.2.2 ∧ p.1.2.1 ≤ 2147483647
  pc : x.pn ≤ x.pc
theorem lnP_le {x : StM} (h : SzW x) : ∀ i, i < x.pn → lnP x.ps i ≤ 2147483647 := fun i hi => by
  unfold lnP
  rw [List.getD_eq_getElem?_getD]
  cases hq : x.ps[i]? with
  | none => show 0 ≤ _; omega
  | some y => exact (h.pb y (List.mem_of_getElem? hq)).2
theorem Tryd.siz27 : (Tryd.prog.info? 27).map (·.size) = some 8 := by kernel_rfl
theorem fin_wide {Q : Ending → World → Prop} (tm : Array Value) (B : Nat) (XX : World) (cs : Array Value) (hX : XX.heap[B]? = some (.cells cs 27)) (hs : cs.size = 8) (h2 : tm.getD 2 undef = .pointer (some ⟨B, 0, none⟩)) (hq : Q (.returned (.agg cs)) XX) : bodyPost Tryd.prog Tryd.f7 Q .ret { tmps := tm, defers := [] } XX :=
  bodyPost_ret (v := .agg cs) (results_cell_row (p := 2) (ty := 27) rfl _ _ B 27 cs (0, 0) _ h2 hX Tryd.underlying27 rfl (by rw [hs]; exact Tryd.siz27)) rfl hq
set_option maxHeartbeats 4000000 in
theorem wideS (TB : Nat) (x : StM) (w : World) (hS : SSt w x) (hz : SzW x) (ht : Tens TB w) (hTB : TB ≤ w.heap.size) :
    Calls Tryd.prog 7 #[.agg (stAr x)] w fun e w' => ∃ BF ys BG BP QF CF BR, e = .returned (.agg (stAr (wdS x BF ys BG BP QF BR))) ∧ WdS w.heap.size w' x BF ys BG BP QF CF BR ∧ w.heap.size ≤ BF ∧ w.heap.size ≤ BG ∧ w.heap.size ≤ BP ∧ w.heap.size ≤ BR ∧ Below w.heap.size w w' := by
  have b1 := below_new w (stO x)
  have b2 := b1.trans ((below_new (w.alloc (stO x)) (.cells #[.slice none 0 0, .slice none 0 0, .slice none 0 0, .int .i64 0, .int .i8 0, .slice none 0 0, .int .i8 0, .int .i64 0] 27)).mono b1.size)
  have k1 : ((w.alloc (stO x)).alloc (.cells #[.slice none 0 0, .slice none 0 0, .slice none 0 0, .int .i64 0, .int .i8 0, .slice none 0 0, .int .i8 0, .int .i64 0] 27)).heap[w.heap.size]? = some (stO x) := nb_later (below_new _ _) (nb_new _ _)
  have k2 : ((w.alloc (stO x)).alloc (.cells #[.slice none 0 0, .slice none 0 0, .slice none 0 0, .int .i64 0, .int .i8 0, .slice none 0 0, .int .i8 0, .int .i64 0] 27)).heap[w.heap.size + 1]? = some (.cells #[.slice none 0 0, .slice none 0 0, .slice none 0 0, .int .i64 0, .int .i8 0, .slice none 0 0, .int .i8 0, .int .i64 0] 27) := nb_at (by simp)
  have hsz : ((w.alloc (stO x)).alloc (.cells #[.slice none 0 0, .slice none 0 0, .slice none 0 0, .int .i64 0, .int .i8 0, .slice none 0 0, .int .i8 0, .int .i64 0] 27)).heap.size = w.heap.size + 2 := by simp
  have HS := hid (fun (W : World) (hW : Below w.heap.size w W) => hS.later hW)
  have HTN := hid (fun (W : World) (hW : Below w.heap.size w W) => Tens.up (B' := W.heap.size) ht (hW.mono hTB) (Nat.le_trans hTB hW.size))
  have HZ := hid hz
  have HB2 := hid b2
  have K1 := hid k1
  have K2 := hid k2
  have HF := hid (wideFs x.fa x.fn x.fc x.fs _ (hS.later b2).fr hz.f hz.fb)
  have HPL := hid (lnP_le hz)
  clear b1 b2 k1 k2 hS hz ht hTB
  go_enter Tryd.func7, Tryd.ntmps7
  go_wp2_with fail
  generalize (w.alloc (stO x)).alloc (.cells #[.slice none 0 0, .slice none 0 0, .slice none 0 0, .int .i64 0, .int .i8 0, .slice none 0 0, .int .i8 0, .int .i64 0] 27) = W2 at *
  refine HF.out.mono ?_
  rintro e w3 ⟨BF, ys, rfl, hyl, hrow, hwf, hBF, hb3⟩
  have B3 := hid (HB2.out.trans (hb3.mono HB2.out.size))
  have A3 := hid (nb_later hb3 K1.out)
  have R3 := hid (nb_later hb3 K2.out)
  have HYL := hid hyl
  have HROW := hid hrow
  have HWF := hid hwf
  have hs3 := hb3.size
  clear hyl hrow hwf hb3 HF K1 K2 HB2
  have c0 : w3.cell? ⟨w.heap.size, 0, none⟩ = some (.slice x.fa x.fn x.fc) := cell_at A3.out
  have z0 : w3.frozen? ⟨w.heap.size, 0, none⟩ = false := frzB A3.out
  have A4 := hid (show (w3.setCell ⟨w.heap.size, 0, none⟩ (.slice (some ⟨BF, 0, none⟩) x.fn (x.fn + 64))).heap[w.heap.size]? = some (.cells #[.slice (some ⟨BF, 0, none⟩) x.fn (x.fn + 64), .slice x.ga x.gn x.gc, .slice x.pa x.pn x.pc, .int .i64 x.rep, .int .i8 x.en, .slice x.ra x.rn x.rc, .int .i8 x.tr, .int .i64 x.us] 27) from blk_set A3.out)
  have R4 := hid (put_blk (B := w.heap.size) (i := 0) (v := .slice (some ⟨BF, 0, none⟩) x.fn (x.fn + 64)) (by omega : w.heap.size + 1 ≠ w.heap.size) R3.out)
  have B4 := hid (show Below w.heap.size w (w3.setCell ⟨w.heap.size, 0, none⟩ (.slice (some ⟨BF, 0, none⟩) x.fn (x.fn + 64))) from B3.out.setCell (Nat.le_refl _) _)
  have K4 := hid (kept_putS (S := (fun k => k = w.heap.size ∨ k = w.heap.size + 1)) (w := w3) (B := w.heap.size) (i := 0) (v := .slice (some ⟨BF, 0, none⟩) x.fn (x.fn + 64)) (.inl rfl))
  have hs4 : (w3.setCell ⟨w.heap.size, 0, none⟩ (.slice (some ⟨BF, 0, none⟩) x.fn (x.fn + 64))).heap.size = w3.heap.size := by simp [World.setCell]
  have g1 : (w3.setCell ⟨w.heap.size, 0, none⟩ (.slice (some ⟨BF, 0, none⟩) x.fn (x.fn + 64))).cell? ⟨w.heap.size, 1, none⟩ = some (.slice x.ga x.gn x.gc) := cell_at A4.out
  clear A3 R3 B3
  go_wp2_with fail
  clear c0 z0
  generalize hW4 : (w3.setCell ⟨w.heap.size, 0, none⟩ (.slice (some ⟨BF, 0, none⟩) x.fn (x.fn + 64))) = W4 at *
  have BB := B4
  have HN := hid (wideW x.ga x.gn x.gc x.gs W4 (HS.out _ B4.out).gl (by have := HZ.out.g; omega))
  refine HN.out.mono ?_
  rintro e w5 ⟨BG, rfl, hBG, hw, hb⟩
  have HWBG := hid hw
  have B5 := hid (B4.out.trans (hb.mono B4.out.size))
  have A5 := hid (nb_later hb A4.out)
  have R5 := hid (nb_later hb R4.out)
  have K5 := hid (K4.out.trans (kept_bel (S := (fun k => k = w.heap.size ∨ k = w.heap.size + 1)) hb))
  have hs5 := hb.size
  clear hw hb HN A4 R4 BB g1
  have c1 : w5.cell? ⟨w.heap.size, 1, none⟩ = some (.slice x.ga x.gn x.gc) := cell_at A5.out
  have z1 : w5.frozen? ⟨w.heap.size, 1, none⟩ = false := frzB A5.out
  have A6 := hid (show (w5.setCell ⟨w.heap.size, 1, none⟩ (.slice (some ⟨BG, 0, none⟩) x.gn (x.gn + 64))).heap[w.heap.size]? = some (.cells #[.slice (some ⟨BF, 0, none⟩) x.fn (x.fn + 64), .slice (some ⟨BG, 0, none⟩) x.gn (x.gn + 64), .slice x.pa x.pn x.pc, .int .i64 x.rep, .int .i8 x.en, .slice x.ra x.rn x.rc, .int .i8 x.tr, .int .i64 x.us] 27) from blk_set A5.out)
  have R6 := hid (put_blk (B := w.heap.size) (i := 1) (v := .slice (some ⟨BG, 0, none⟩) x.gn (x.gn + 64)) (by omega : w.heap.size + 1 ≠ w.heap.size) R5.out)
  have B6 := hid (show Below w.heap.size w (w5.setCell ⟨w.heap.size, 1, none⟩ (.slice (some ⟨BG, 0, none⟩) x.gn (x.gn + 64))) from B5.out.setCell (Nat.le_refl _) _)
  have K6 := hid (kept_putS (S := (fun k => k = w.heap.size ∨ k = w.heap.size + 1)) (w := w5) (B := w.heap.size) (i := 1) (v := .slice (some ⟨BG, 0, none⟩) x.gn (x.gn + 64)) (.inl rfl))
  have hs6 : (w5.setCell ⟨w.heap.size, 1, none⟩ (.slice (some ⟨BG, 0, none⟩) x.gn (x.gn + 64))).heap.size = w5.heap.size := by simp [World.setCell]
  have g2 : (w5.setCell ⟨w.heap.size, 1, none⟩ (.slice (some ⟨BG, 0, none⟩) x.gn (x.gn + 64))).cell? ⟨w.heap.size, 2, none⟩ = some (.slice x.pa x.pn x.pc) := cell_at A6.out
  clear A5 R5 B5
  go_wp2_with fail
  clear c1 z1
  generalize hW6 : (w5.setCell ⟨w.heap.size, 1, none⟩ (.slice (some ⟨BG, 0, none⟩) x.gn (x.gn + 64))) = W6 at *
  have BB := B6
  have HN := hid (wideP (.slice x.pa x.pn x.pc) x.pn (lnP x.ps) (gP x.ps) W6 (pseg_of (HS.out _ B6.out).pg HZ.out.pc HZ.out.p HZ.out.pb) HZ.out.p HPL.out (HTN.out _ BB.out))
  refine HN.out.mono ?_
  rintro e w7 ⟨QF, CF, rfl, hw, hb⟩
  have HWBP := hid hw
  have B7 := hid (B6.out.trans (hb.mono B6.out.size))
  have A7 := hid (nb_later hb A6.out)
  have R7 := hid (nb_later hb R6.out)
  have K7 := hid (K6.out.trans (kept_bel (S := (fun k => k = w.heap.size ∨ k = w.heap.size + 1)) hb))
  have hs7 := hb.size
  clear hw hb HN A6 R6 BB g2
  generalize hgBP : W6.heap.size = BP at HWBP ⊢
  have c2 : w7.cell? ⟨w.heap.size, 2, none⟩ = some (.slice x.pa x.pn x.pc) := cell_at A7.out
  have z2 : w7.frozen? ⟨w.heap.size, 2, none⟩ = false := frzB A7.out
  have A8 := hid (show (w7.setCell ⟨w.heap.size, 2, none⟩ (.slice (some ⟨BP, 0, none⟩) x.pn (x.pn + 64))).heap[w.heap.size]? = some (.cells #[.slice (some ⟨BF, 0, none⟩) x.fn (x.fn + 64), .slice (some ⟨BG, 0, none⟩) x.gn (x.gn + 64), .slice (some ⟨BP, 0, none⟩) x.pn (x.pn + 64), .int .i64 x.rep, .int .i8 x.en, .slice x.ra x.rn x.rc, .int .i8 x.tr, .int .i64 x.us] 27) from blk_set A7.out)
  have R8 := hid (put_blk (B := w.heap.size) (i := 2) (v := .slice (some ⟨BP, 0, none⟩) x.pn (x.pn + 64)) (by omega : w.heap.size + 1 ≠ w.heap.size) R7.out)
  have B8 := hid (show Below w.heap.size w (w7.setCell ⟨w.heap.size, 2, none⟩ (.slice (some ⟨BP, 0, none⟩) x.pn (x.pn + 64))) from B7.out.setCell (Nat.le_refl _) _)
  have K8 := hid (kept_putS (S := (fun k => k = w.heap.size ∨ k = w.heap.size + 1)) (w := w7) (B := w.heap.size) (i := 2) (v := .slice (some ⟨BP, 0, none⟩) x.pn (x.pn + 64)) (.inl rfl))
  have hs8 : (w7.setCell ⟨w.heap.size, 2, none⟩ (.slice (some ⟨BP, 0, none⟩) x.pn (x.pn + 64))).heap.size = w7.heap.size := by simp [World.setCell]
  have g5 : (w7.setCell ⟨w.heap.size, 2, none⟩ (.slice (some ⟨BP, 0, none⟩) x.pn (x.pn + 64))).cell? ⟨w.heap.size, 5, none⟩ = some (.slice x.ra x.rn x.rc) := cell_at A8.out
  clear A7 R7 B7
  go_wp2_with fail
  clear c2 z2
  generalize hW8 : (w7.setCell ⟨w.heap.size, 2, none⟩ (.slice (some ⟨BP, 0, none⟩) x.pn (x.pn + 64))) = W8 at *
  have BB := B8
  have HN := hid (wideW x.ra x.rn x.rc x.rs W8 (HS.out _ B8.out).rs (by have := HZ.out.r; omega))
  refine HN.out.mono ?_
  rintro e w9 ⟨BR, rfl, hBR, hw, hb⟩
  have HWBR := hid hw
  have B9 := hid (B8.out.trans (hb.mono B8.out.size))
  have A9 := hid (nb_later hb A8.out)
  have R9 := hid (nb_later hb R8.out)
  have K9 := hid (K8.out.trans (kept_bel (S := (fun k => k = w.heap.size ∨ k = w.heap.size + 1)) hb))
  have hs9 := hb.size
  clear hw hb HN A8 R8 BB g5
  have c5 : w9.cell? ⟨w.heap.size, 5, none⟩ = some (.slice x.ra x.rn x.rc) := cell_at A9.out
  have z5 : w9.frozen? ⟨w.heap.size, 5, none⟩ = false := frzB A9.out
  have A10 := hid (show (w9.setCell ⟨w.heap.size, 5, none⟩ (.slice (some ⟨BR, 0, none⟩) x.rn (x.rn + 64))).heap[w.heap.size]? = some (.cells #[.slice (some ⟨BF, 0, none⟩) x.fn (x.fn + 64), .slice (some ⟨BG, 0, none⟩) x.gn (x.gn + 64), .slice (some ⟨BP, 0, none⟩) x.pn (x.pn + 64), .int .i64 x.rep, .int .i8 x.en, .slice (some ⟨BR, 0, none⟩) x.rn (x.rn + 64), .int .i8 x.tr, .int .i64 x.us] 27) from blk_set A9.out)
  have R10 := hid (put_blk (B := w.heap.size) (i := 5) (v := .slice (some ⟨BR, 0, none⟩) x.rn (x.rn + 64)) (by omega : w.heap.size + 1 ≠ w.heap.size) R9.out)
  have B10 := hid (show Below w.heap.size w (w9.setCell ⟨w.heap.size, 5, none⟩ (.slice (some ⟨BR, 0, none⟩) x.rn (x.rn + 64))) from B9.out.setCell (Nat.le_refl _) _)
  have K10 := hid (kept_putS (S := (fun k => k = w.heap.size ∨ k = w.heap.size + 1)) (w := w9) (B := w.heap.size) (i := 5) (v := .slice (some ⟨BR, 0, none⟩) x.rn (x.rn + 64)) (.inl rfl))
  have hs10 : (w9.setCell ⟨w.heap.size, 5, none⟩ (.slice (some ⟨BR, 0, none⟩) x.rn (x.rn + 64))).heap.size = w9.heap.size := by simp [World.setCell]
  have e0 : (w9.setCell ⟨w.heap.size, 5, none⟩ (.slice (some ⟨BR, 0, none⟩) x.rn (x.rn + 64))).cell? ⟨w.heap.size, 0, none⟩ = some (.slice (some ⟨BF, 0, none⟩) x.fn (x.fn + 64)) := cell_at A10.out
  have e1 : (w9.setCell ⟨w.heap.size, 5, none⟩ (.slice (some ⟨BR, 0, none⟩) x.rn (x.rn + 64))).cell? ⟨w.heap.size, 1, none⟩ = some (.slice (some ⟨BG, 0, none⟩) x.gn (x.gn + 64)) := cell_at A10.out
  have e2 : (w9.setCell ⟨w.heap.size, 5, none⟩ (.slice (some ⟨BR, 0, none⟩) x.rn (x.rn + 64))).cell? ⟨w.heap.size, 2, none⟩ = some (.slice (some ⟨BP, 0, none⟩) x.pn (x.pn + 64)) := cell_at A10.out
  have e3 : (w9.setCell ⟨w.heap.size, 5, none⟩ (.slice (some ⟨BR, 0, none⟩) x.rn (x.rn + 64))).cell? ⟨w.heap.size, 3, none⟩ = some (.int .i64 x.rep) := cell_at A10.out
  have e4 : (w9.setCell ⟨w.heap.size, 5, none⟩ (.slice (some ⟨BR, 0, none⟩) x.rn (x.rn + 64))).cell? ⟨w.heap.size, 4, none⟩ = some (.int .i8 x.en) := cell_at A10.out
  have e5 : (w9.setCell ⟨w.heap.size, 5, none⟩ (.slice (some ⟨BR, 0, none⟩) x.rn (x.rn + 64))).cell? ⟨w.heap.size, 5, none⟩ = some (.slice (some ⟨BR, 0, none⟩) x.rn (x.rn + 64)) := cell_at A10.out
  have e6 : (w9.setCell ⟨w.heap.size, 5, none⟩ (.slice (some ⟨BR, 0, none⟩) x.rn (x.rn + 64))).cell? ⟨w.heap.size, 6, none⟩ = some (.int .i8 x.tr) := cell_at A10.out
  have e7 : (w9.setCell ⟨w.heap.size, 5, none⟩ (.slice (some ⟨BR, 0, none⟩) x.rn (x.rn + 64))).cell? ⟨w.heap.size, 7, none⟩ = some (.int .i64 x.us) := cell_at A10.out
  have d0 : (w9.setCell ⟨w.heap.size, 5, none⟩ (.slice (some ⟨BR, 0, none⟩) x.rn (x.rn + 64))).cell? ⟨w.heap.size + 1, 0, none⟩ = some (.slice none 0 0) := cell_at R10.out
  have d1 : (w9.setCell ⟨w.heap.size, 5, none⟩ (.slice (some ⟨BR, 0, none⟩) x.rn (x.rn + 64))).cell? ⟨w.heap.size + 1, 1, none⟩ = some (.slice none 0 0) := cell_at R10.out
  have d2 : (w9.setCell ⟨w.heap.size, 5, none⟩ (.slice (some ⟨BR, 0, none⟩) x.rn (x.rn + 64))).cell? ⟨w.heap.size + 1, 2, none⟩ = some (.slice none 0 0) := cell_at R10.out
  have d3 : (w9.setCell ⟨w.heap.size, 5, none⟩ (.slice (some ⟨BR, 0, none⟩) x.rn (x.rn + 64))).cell? ⟨w.heap.size + 1, 3, none⟩ = some (.int .i64 0) := cell_at R10.out
  have d4 : (w9.setCell ⟨w.heap.size, 5, none⟩ (.slice (some ⟨BR, 0, none⟩) x.rn (x.rn + 64))).cell? ⟨w.heap.size + 1, 4, none⟩ = some (.int .i8 0) := cell_at R10.out
  have d5 : (w9.setCell ⟨w.heap.size, 5, none⟩ (.slice (some ⟨BR, 0, none⟩) x.rn (x.rn + 64))).cell? ⟨w.heap.size + 1, 5, none⟩ = some (.slice none 0 0) := cell_at R10.out
  have d6 : (w9.setCell ⟨w.heap.size, 5, none⟩ (.slice (some ⟨BR, 0, none⟩) x.rn (x.rn + 64))).cell? ⟨w.heap.size + 1, 6, none⟩ = some (.int .i8 0) := cell_at R10.out
  have d7 : (w9.setCell ⟨w.heap.size, 5, none⟩ (.slice (some ⟨BR, 0, none⟩) x.rn (x.rn + 64))).cell? ⟨w.heap.size + 1, 7, none⟩ = some (.int .i64 0) := cell_at R10.out
  have f0 : (w9.setCell ⟨w.heap.size, 5, none⟩ (.slice (some ⟨BR, 0, none⟩) x.rn (x.rn + 64))).frozen? ⟨w.heap.size + 1, 0, none⟩ = false := frzB R10.out
  have f1 : (w9.setCell ⟨w.heap.size, 5, none⟩ (.slice (some ⟨BR, 0, none⟩) x.rn (x.rn + 64))).frozen? ⟨w.heap.size + 1, 1, none⟩ = false := frzB R10.out
  have f2 : (w9.setCell ⟨w.heap.size, 5, none⟩ (.slice (some ⟨BR, 0, none⟩) x.rn (x.rn + 64))).frozen? ⟨w.heap.size + 1, 2, none⟩ = false := frzB R10.out
  have f3 : (w9.setCell ⟨w.heap.size, 5, none⟩ (.slice (some ⟨BR, 0, none⟩) x.rn (x.rn + 64))).frozen? ⟨w.heap.size + 1, 3, none⟩ = false := frzB R10.out
  have f4 : (w9.setCell ⟨w.heap.size, 5, none⟩ (.slice (some ⟨BR, 0, none⟩) x.rn (x.rn + 64))).frozen? ⟨w.heap.size + 1, 4, none⟩ = false := frzB R10.out
  have f5 : (w9.setCell ⟨w.heap.size, 5, none⟩ (.slice (some ⟨BR, 0, none⟩) x.rn (x.rn + 64))).frozen? ⟨w.heap.size + 1, 5, none⟩ = false := frzB R10.out
  have f6 : (w9.setCell ⟨w.heap.size, 5, none⟩ (.slice (some ⟨BR, 0, none⟩) x.rn (x.rn + 64))).frozen? ⟨w.heap.size + 1, 6, none⟩ = false := frzB R10.out
  have f7 : (w9.setCell ⟨w.heap.size, 5, none⟩ (.slice (some ⟨BR, 0, none⟩) x.rn (x.rn + 64))).frozen? ⟨w.heap.size + 1, 7, none⟩ = false := frzB R10.out
  have hp8 := (put8 (w := (w9.setCell ⟨w.heap.size, 5, none⟩ (.slice (some ⟨BR, 0, none⟩) x.rn (x.rn + 64)))) (b := w.heap.size + 1) (.slice (some ⟨BF, 0, none⟩) x.fn (x.fn + 64)) (.slice (some ⟨BG, 0, none⟩) x.gn (x.gn + 64)) (.slice (some ⟨BP, 0, none⟩) x.pn (x.pn + 64)) (.int .i64 x.rep) (.int .i8 x.en) (.slice (some ⟨BR, 0, none⟩) x.rn (x.rn + 64)) (.int .i8 x.tr) (.int .i64 x.us) R10.out)
  unfold X8 at hp8
  have hfin := hp8.1
  have HKF := hid (hp8.2.mono (T := (fun k => k = w.heap.size ∨ k = w.heap.size + 1)) (fun k hk => .inr hk))
  clear hp8
  clear A9 R9 B9
  go_wp2_with fail
  clear e0 e1 e2 e3 e4 e5 e6 e7 d0 d1 d2 d3 d4 d5 d6 d7 f0 f1 f2 f3 f4 f5 f6 f7 c5 z5
  have HFIN := hid hfin
  generalize (((((((((w9.setCell ⟨w.heap.size, 5, none⟩ (.slice (some ⟨BR, 0, none⟩) x.rn (x.rn + 64))).setCell ⟨w.heap.size + 1, 0, none⟩ (.slice (some ⟨BF, 0, none⟩) x.fn (x.fn + 64))).setCell ⟨w.heap.size + 1, 1, none⟩ (.slice (some ⟨BG, 0, none⟩) x.gn (x.gn + 64))).setCell ⟨w.heap.size + 1, 2, none⟩ (.slice (some ⟨BP, 0, none⟩) x.pn (x.pn + 64))).setCell ⟨w.heap.size + 1, 3, none⟩ (.int .i64 x.rep)).setCell ⟨w.heap.size + 1, 4, none⟩ (.int .i8 x.en)).setCell ⟨w.heap.size + 1, 5, none⟩ (.slice (some ⟨BR, 0, none⟩) x.rn (x.rn + 64))).setCell ⟨w.heap.size + 1, 6, none⟩ (.int .i8 x.tr)).setCell ⟨w.heap.size + 1, 7, none⟩ (.int .i64 x.us)) = XX at *
  have hKX := HKF.out
  have hBX := B10.out.trans (HKF.out.to_below B10.out.size (fun k _ e => by
    rcases e with e | e <;> omega))
  refine fin_wide _ (w.heap.size + 1) _ _ HFIN.out rfl rfl ?_
  have k9 := K10.out.trans hKX
  have k7 := K9.out.trans k9
  have k5 := K7.out.trans k7
  have k3 := K5.out.trans k5
  have nS : ∀ b, w.heap.size + 2 ≤ b → ¬ (b = w.heap.size ∨ b = w.heap.size + 1) := fun b hb h => by omega
  have hwp := HWBP.out
  rw [← hgBP] at hwp
  exact ⟨BF, ys, BG, BP, QF, CF, BR, rfl, ⟨HYL.out, (k3.block BF (nb_lt HROW.out) (nS BF (by omega))).trans HROW.out, (HWF.out.kept k3 (fun b hb => nS b (by omega))).low (by omega), HWBG.out.kept k5 (nS BG (by omega)), hgBP ▸ hwp.kept k7 (fun q hq => nS q (by omega)), HWBR.out.kept k9 (nS BR (by omega))⟩, by omega, by omega, by omega, by omega, hBX⟩
set_option maxHeartbeats 2000000 in
theorem spareS (TB base : Nat) (x : StM) (BF : Nat) (ys : List FrM) (BG BP : Nat) (QF CF : Nat → Nat) (BR : Nat) (w : World) (h : WdS base w x BF ys BG BP QF CF BR) (hz : SzW x) (ht : Tens TB w) (hTB : TB ≤ w.heap.size) :
    Calls Tryd.prog 14 #[.agg (stAr (wdS x BF ys BG BP QF BR))] w fun e w' => e = .returned (.bool true) ∧ Below w.heap.size w w' := by
  have b1 := below_new w (stO (wdS x BF ys BG BP QF BR))
  have k1 := nb_new w (stO (wdS x BF ys BG BP QF BR))
  have H1 := hid (spareFs base BF x.fn x.fs ys _ h.fl (nb_later b1 h.fr) (h.fw.later b1) hz.f hz.fb)
  have H2 := hid (fun (W : World) (hW : Below w.heap.size w W) => spareW BG x.gn x.gs W (h.g.later hW) (by have := hz.g; omega))
  have H3 := hid (fun (W : World) (hW : Below w.heap.size w W) => spareP BP x.pn (lnP x.ps) (gP x.ps) QF CF TB W (h.p.later hW) hz.p (lnP_le hz) (ht.later (hW.mono hTB)) (Nat.le_trans hTB hW.size))
  have H4 := hid (fun (W : World) (hW : Below w.heap.size w W) => spareW BR x.rn x.rs W (h.r.later hW) (by have := hz.r; omega))
  have HC := hid (fun (W : World) (hW : Below (w.alloc (stO (wdS x BF ys BG BP QF BR))).heap.size (w.alloc (stO (wdS x BF ys BG BP QF BR))) W) => (show W.cell? ⟨w.heap.size, 1, none⟩ = some (.slice (some ⟨BG, 0, none⟩) x.gn (x.gn + 64)) ∧ W.cell? ⟨w.heap.size, 2, none⟩ = some (.slice (some ⟨BP, 0, none⟩) x.pn (x.pn + 64)) ∧ W.cell? ⟨w.heap.size, 5, none⟩ = some (.slice (some ⟨BR, 0, none⟩) x.rn (x.rn + 64)) from ⟨later_cell hW (cell_at k1), later_cell hW (cell_at k1), later_cell hW (cell_at k1)⟩))
  have HB1 := hid b1
  clear b1 k1 h hz ht
  go_enter Tryd.func14, Tryd.ntmps14
  go_wp2_with fail
  generalize w.alloc (stO (wdS x BF ys BG BP QF BR)) = W1 at *
  refine H1.out.mono ?_
  rintro e w2 ⟨rfl, hb2⟩
  obtain ⟨c1, c2, c5⟩ := HC.out _ hb2
  have HB2 := hid hb2
  have HN := hid (H2.out w2 (HB1.out.trans (hb2.mono HB1.out.size)))
  clear hb2 H1
  go_wp2_with fail
  refine HN.out.mono ?_
  rintro e w3 ⟨rfl, hw3⟩
  rw [hw3]
  clear hw3 HN
  have HN := hid (H3.out w2 (HB1.out.trans (HB2.out.mono HB1.out.size)))
  go_wp2_with fail
  refine HN.out.mono ?_
  rintro e w4 ⟨rfl, hb4⟩
  have HB4 := hid (HB2.out.trans (hb4.mono HB2.out.size))
  clear hb4 HN c1 c2 c5
  obtain ⟨c1, c2, c5⟩ := HC.out _ HB4.out
  have HN := hid (H4.out w4 (HB1.out.trans (HB4.out.mono HB1.out.size)))
  go_wp2_with fail
  refine HN.out.mono ?_
  rintro e w5 ⟨rfl, hw5⟩
  rw [hw5]
  clear hw5 HN
  go_wp2_with fail
  go_ret
  exact ⟨rfl, HB1.out.trans (HB4.out.mono HB1.out.size)⟩
end Go.Proofs.YtbdjghokedfkfaaDoor

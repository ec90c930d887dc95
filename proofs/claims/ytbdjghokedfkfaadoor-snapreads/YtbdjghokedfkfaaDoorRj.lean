/-
  bytes.HasPrefix at five bytes; snap.Read.
-/
import Derived.Test.YtbdjghokedfkfaaDoorRi
import Derived.Test.YtbdjghokedfkfaaDoorWh
namespace Go.Proofs.YtbdjghokedfkfaaDoor
open Go.RowKit
set_option linter.unusedVariables false
set_option maxRecDepth 100000

def pfx (zs : List Int) : Bool := decide (zs.take 5 = mgc)
theorem pre14 (a : Option Addr) (n c B : Nat) (zs : List Int) (w : World) (h : Seg w a n c zs) (hB : SI .u8 w (some ⟨B, 0, none⟩) 5 mgc) :
    Calls Tryd.prog 53 #[.slice a n c, .slice (some ⟨B, 0, none⟩) 5 5] w fun e w' => e = .returned (.bool (pfx zs)) ∧ Below w.heap.size w w' := by
  have hl := h.1
  by_cases hn : 5 ≤ n
  · obtain ⟨b, off, rfl, hc⟩ := h.2.2.2.2.resolve_left (by omega)
    have hcap := h.2.1
    have hbd := h.2.2.1
    have hs : SI .u8 w (some ⟨b, off, none⟩) 5 (zs.take 5) := ⟨by rw [List.length_take]; omega, .inr ⟨b, off, rfl, fun j x hj => by
      have hj5 : j < 5 := by have := lt_of_get hj; rw [List.length_take] at this; omega
      rw [List.getElem?_take, if_pos hj5] at hj
      rw [hc j (by omega), List.getD_eq_getElem?_getD, hj]
      rfl⟩⟩
    have HE := hid (beq28 (some ⟨b, off, none⟩) (some ⟨B, 0, none⟩) 5 5 c 5 (zs.take 5) mgc w hs hB (fun z hz => h.2.2.2.1 z (List.mem_of_mem_take hz)) (by decide))
    have e : lE iE (zs.take 5) mgc = pfx zs := by rw [lE_int]; rfl
    rw [e] at HE
    generalize pfx zs = v at *
    have hge : (5 : Int) ≤ (n : Int) := by omega
    have hc0 : ¬ c = 0 := by omega
    clear h hs hB hc e hl
    go_enter Tryd.func53, Tryd.ntmps53
    go_wp2_with fail
    refine HE.out.mono ?_
    rintro e w1 ⟨rfl, b1⟩
    have B1 := hid b1
    clear b1 HE
    go_wp2_with fail
    go_ret
    exact ⟨rfl, B1.out⟩
  · have e : pfx zs = false := by
      unfold pfx
      rw [decide_eq_false]
      intro hh
      have := congrArg List.length hh
      rw [List.length_take] at this
      simp [mgc] at this
      omega
    rw [e]
    have hge : ¬ (5 : Int) ≤ (n : Int) := by omega
    clear h hB hl e
    go_enter Tryd.func53, Tryd.ntmps53
    go_wp2_with fail
    go_ret
    exact ⟨rfl, Below.refl _ _⟩
theorem res_ctt {fn : Func} {p q r : Tmp} {ty : TypeId} (h : fn.results = #[.cell p ty, .tmp q, .tmp r]) (tmps : Array Value) (w : World) (g : Nat) (cs : Array Value)
    (hp : tmps.getD p undef = .pointer (some ⟨g, 0, none⟩)) (hl : (loadVar ty ⟨g, 0, none⟩).run Tryd.prog w = .ok (.agg cs) w) (x y : Value) (hx : tmps.getD q undef = x) (hy : tmps.getD r undef = y) :
    (results fn tmps).run Tryd.prog w = .ok (.tuple #[.agg cs, x, y]) w := by
  have hp' : tmps[p]?.getD undef = .pointer (some ⟨g, 0, none⟩) := by simpa using hp
  have hx' : tmps[q]?.getD undef = x := by simpa using hx
  have hy' : tmps[r]?.getD undef = y := by simpa using hy
  simp [results, h, hp', hx', hy', asAddr, hl]
theorem ld_st (w : World) (g : Nat) (cs : Array Value) (hg : w.heap[g]? = some (.cells cs 27)) (hs : cs.size = 8) : (loadVar 27 ⟨g, 0, none⟩).run Tryd.prog w = .ok (.agg cs) w :=
  run_loadVar_row w g 27 27 cs (0, 0) _ hg Tryd.underlying27 rfl (by rw [hs]; kernel_rfl)

abbrev X8 (w : World) (b : Nat) (v0 v1 v2 v3 v4 v5 v6 v7 : Value) : World := ((((((((w.setCell ⟨b, 0, none⟩ v0).setCell ⟨b, 1, none⟩ v1).setCell ⟨b, 2, none⟩ v2).setCell ⟨b, 3, none⟩ v3).setCell ⟨b, 4, none⟩ v4).setCell ⟨b, 5, none⟩ v5).setCell ⟨b, 6, none⟩ v6).setCell ⟨b, 7, none⟩ v7)
theorem put8 {w : World} {b : Nat} {u0 u1 u2 u3 u4 u5 u6 u7 : Value} (v0 v1 v2 v3 v4 v5 v6 v7 : Value) (h : w.heap[b]? = some (.cells #[u0, u1, u2, u3, u4, u5, u6, u7] 27)) :
    (X8 w b v0 v1 v2 v3 v4 v5 v6 v7).heap[b]? = some (.cells #[v0, v1, v2, v3, v4, v5, v6, v7] 27) ∧ Kept (fun k => k = b) w (X8 w b v0 v1 v2 v3 v4 v5 v6 v7) := by
  have z1 : (w.setCell ⟨b, 0, none⟩ v0).heap[b]? = some (.cells #[v0, u1, u2, u3, u4, u5, u6, u7] 27) := blk_set h
  have z2 : ((w.setCell ⟨b, 0, none⟩ v0).setCell ⟨b, 1, none⟩ v1).heap[b]? = some (.cells #[v0, v1, u2, u3, u4, u5, u6, u7] 27) := blk_set z1
  have z3 := blk_set (i := 2) (v := v2) z2
  have z4 := blk_set (i := 3) (v := v3) z3
  have z5 := blk_set (i := 4) (v := v4) z4
  have z6 := blk_set (i := 5) (v := v5) z5
  have z7 := blk_set (i := 6) (v := v6) z6
  have z8 := blk_set (i := 7) (v := v7) z7
  exact ⟨z8, ((((((kept_put.trans kept_put).trans kept_put).trans kept_put).trans kept_put).trans kept_put).trans kept_put).trans kept_put⟩
theorem old8 {w0 w w' : World} {b : Nat} (hB : Below w0.heap.size w0 w) (hk : Kept (fun k => k = b) w w') (hb : w0.heap.size ≤ b) : Below w0.heap.size w0 w' := hB.trans (hk.to_below hB.size (fun k hk h => by omega))
/-- What Read answers of bytes: the error, its place. -/
def rdE (zs : List Int) : Int × Int :=
  if 524288 < zs.length then (13, 0) else if pfx zs = false then (14, 0) else ((fnR zs (r8 zs (5, 0)).2).2, if (fnR zs (r8 zs (5, 0)).2).2 = 0 then 0 else (fnR zs (r8 zs (5, 0)).2).1)
abbrev zSt : Array Value := #[nS, nS, nS, .int .i64 0, .int .i8 0, nS, .int .i8 0, .int .i64 0]
/-- Read's answer. -/
def RdA (zs : List Int) (w : World) : Ending → World → Prop := fun e w' => Below w.heap.size w w' ∧
  ((rdE zs).1 ≠ 0 ∧ e = .returned (.tuple #[.agg zSt, .int .i64 (rdE zs).1, .int .i64 (rdE zs).2]) ∨
   (rdE zs).1 = 0 ∧ ∃ B5 B6 B7 bl B8 ys, e = .returned (.tuple #[.agg (stAr (mkS (stP zs (5, 0)) B5 B6 B7 bl B8 ys)), .int .i64 0, .int .i64 0]) ∧ StA w.heap.size w' (stP zs (5, 0)) B5 B6 B7 bl B8 ys)
theorem fin_err {zs : List Int} {w w7 : World} {er at_ : Int} (tm : Array Value) (hk : w7.heap[w.heap.size]? = some (stC nS nS nS 0 0 nS 0 0)) (hB : Below w.heap.size w w7) (h2 : tm.getD 2 undef = .pointer (some ⟨w.heap.size, 0, none⟩)) (h3 : tm.getD 3 undef = .int .i64 er) (h4 : tm.getD 4 undef = .int .i64 at_)
    (HG : ∀ w', Below w.heap.size w w' → RdA zs w (.returned (.tuple #[.agg zSt, .int .i64 er, .int .i64 at_])) w') :
    bodyPost Tryd.prog Tryd.f16 (RdA zs w) .ret { tmps := tm, defers := [] } ((X8 w7 w.heap.size nS nS nS (.int .i64 0) (.int .i8 0) nS (.int .i8 0) (.int .i64 0)).drew) := by
  have P8 := put8 nS nS nS (.int .i64 0) (.int .i8 0) nS (.int .i8 0) (.int .i64 0) hk
  have B8' := old8 hB P8.2 (Nat.le_refl _)
  have hk8 := P8.1
  clear P8
  generalize X8 w7 w.heap.size nS nS nS (.int .i64 0) (.int .i8 0) nS (.int .i8 0) (.int .i64 0) = X at *
  have hk9 : X.drew.heap[w.heap.size]? = some (.cells zSt 27) := hk8
  have B9 : Below w.heap.size w X.drew := B8'.trans ((below_drewN X 1).mono B8'.size)
  generalize X.drew = Y at *
  exact bodyPost_ret (v := .tuple #[.agg zSt, .int .i64 er, .int .i64 at_]) (res_ctt (p := 2) (q := 3) (r := 4) (ty := 27) rfl _ _ w.heap.size zSt h2 (ld_st _ _ _ hk9 rfl) _ _ h3 h4) rfl (HG _ B9)
set_option maxHeartbeats 8000000 in
theorem read8 (a : Option Addr) (n c : Nat) (zs : List Int) (w : World) (h : Seg w a n c zs) :
    Calls Tryd.prog 16 #[.slice a n c] w (RdA zs w) := by
  have hl := h.1
  have hnb := h.2.2.1
  have b1 := below_new w (stC nS nS nS 0 0 nS 0 0)
  have kz := nb_new w (stC nS nS nS 0 0 nS 0 0)
  have HB1 := hid b1
  have HKZ := hid kz
  by_cases hlong : 524288 < n
  · have e : rdE zs = (13, 0) := by unfold rdE; rw [if_pos (by omega)]
    have HG := hid (show ∀ w', Below w.heap.size w w' → RdA zs w (.returned (.tuple #[.agg zSt, .int .i64 13, .int .i64 0])) w' from fun w' hw => ⟨hw, .inl (by rw [e]; exact ⟨by decide, rfl⟩)⟩)
    have hlong' : (524288 : Int) < (n : Int) := by omega
    clear h e hl kz b1
    go_enter Tryd.func16, Tryd.ntmps16
    go_wp2_with fail
    exact bodyPost_ret (v := .tuple #[.agg zSt, .int .i64 13, .int .i64 0]) (res_ctt (p := 2) (q := 3) (r := 4) (ty := 27) rfl _ _ w.heap.size zSt rfl (ld_st _ _ _ HKZ.out rfl) _ _ rfl rfl) rfl (HG.out _ HB1.out)
  · have hlong' : ¬ (524288 : Int) < (n : Int) := by omega
    have hcv := cnvM (w.alloc (stC nS nS nS 0 0 nS 0 0)) (w.heap.size + 1) (by simp)
    have b2 := b1.trans ((below_new (w.alloc (stC nS nS nS 0 0 nS 0 0)) mgO).mono b1.size)
    have km : ((w.alloc (stC nS nS nS 0 0 nS 0 0)).alloc mgO).heap[w.heap.size + 1]? = some mgO := nb_at (by simp)
    have kz2 : ((w.alloc (stC nS nS nS 0 0 nS 0 0)).alloc mgO).heap[w.heap.size]? = some (stC nS nS nS 0 0 nS 0 0) := nb_later (below_new _ _) kz
    have hsi : SI .u8 ((w.alloc (stC nS nS nS 0 0 nS 0 0)).alloc mgO) (some ⟨w.heap.size + 1, 0, none⟩) 5 mgc := ⟨rfl, .inr ⟨_, _, rfl, fun j x hj => by
      have : ((w.alloc (stC nS nS nS 0 0 nS 0 0)).alloc mgO).cell? ⟨w.heap.size + 1, 0 + j, none⟩ = mgA[0 + j]? := by simp only [World.cell?, km]; rfl
      rw [this, Nat.zero_add]
      have h5 := lt_of_get hj
      have h5' : j < 5 := h5
      have h6 : j = 0 ∨ j = 1 ∨ j = 2 ∨ j = 3 ∨ j = 4 := by omega
      rcases h6 with rfl | rfl | rfl | rfl | rfl <;> (simp [mgc] at hj; subst hj; rfl)⟩⟩
    have HP := hid (pre14 a n c (w.heap.size + 1) zs _ (h.later b2 (Nat.le_refl _)) hsi)
    have HB2 := hid b2
    have HK2 := hid kz2
    cases hp : pfx zs with
    | false =>
      rw [hp] at HP
      have e : rdE zs = (14, 0) := by unfold rdE; rw [if_neg (by omega), if_pos hp]
      have HG := hid (show ∀ w', Below w.heap.size w w' → RdA zs w (.returned (.tuple #[.agg zSt, .int .i64 14, .int .i64 0])) w' from fun w' hw => ⟨hw, .inl (by rw [e]; exact ⟨by decide, rfl⟩)⟩)
      clear h e hl kz b1 b2 km kz2 hsi hp
      go_enter Tryd.func16, Tryd.ntmps16
      go_wp2_with fail
      refine HP.out.mono ?_
      rintro e w2 ⟨rfl, hb2⟩
      have HK3 := hid (nb_later hb2 HK2.out)
      have HB3 := hid (HB2.out.trans (hb2.mono HB2.out.size))
      have c0 : ∀ i, w2.cell? ⟨w.heap.size, i, none⟩ = zSt[i]? := fun i => cell_at HK3.out
      have g0 : w2.cell? ⟨w.heap.size, 0, none⟩ = some nS := c0 0
      have g1 : w2.cell? ⟨w.heap.size, 1, none⟩ = some nS := c0 1
      have g2 : w2.cell? ⟨w.heap.size, 2, none⟩ = some nS := c0 2
      have g3 : w2.cell? ⟨w.heap.size, 3, none⟩ = some (.int .i64 0) := c0 3
      have g4 : w2.cell? ⟨w.heap.size, 4, none⟩ = some (.int .i8 0) := c0 4
      have g5 : w2.cell? ⟨w.heap.size, 5, none⟩ = some nS := c0 5
      have g6 : w2.cell? ⟨w.heap.size, 6, none⟩ = some (.int .i8 0) := c0 6
      have g7 : w2.cell? ⟨w.heap.size, 7, none⟩ = some (.int .i64 0) := c0 7
      have f0 : ∀ i, w2.frozen? ⟨w.heap.size, i, none⟩ = false := fun i => frzB HK3.out
      have f00 := f0 0
      have f01 := f0 1
      have f02 := f0 2
      have f03 := f0 3
      have f04 := f0 4
      have f05 := f0 5
      have f06 := f0 6
      have f07 := f0 7
      clear hb2 HP c0 f0
      go_wp2_with fail
      have P8 := put8 nS nS nS (.int .i64 0) (.int .i8 0) nS (.int .i8 0) (.int .i64 0) HK3.out
      exact bodyPost_ret (v := .tuple #[.agg zSt, .int .i64 14, .int .i64 0]) (res_ctt (p := 2) (q := 3) (r := 4) (ty := 27) rfl _ _ w.heap.size zSt rfl (ld_st _ _ _ P8.1 rfl) _ _ rfl rfl) rfl (HG.out _ (old8 HB3.out P8.2 (Nat.le_refl _)))
    | true =>
      rw [hp] at HP
      have hn5 : 5 ≤ n := by
        have h1 : zs.take 5 = mgc := by simpa [pfx] using hp
        have h2 := congrArg List.length h1
        rw [List.length_take] at h2
        simp [mgc] at h2
        omega
      obtain ⟨b, off, rfl, hcell⟩ := h.2.2.2.2.resolve_left (by omega)
      have hblt : b < w.heap.size := block_lt_of_cell (hcell 0 (by omega))
      have e1 : (rdE zs).1 = (fnR zs (r8 zs (5, 0)).2).2 := by unfold rdE; rw [if_neg (by omega), if_neg (by rw [hp]; decide)]
      have e2 : (rdE zs).2 = if (fnR zs (r8 zs (5, 0)).2).2 = 0 then 0 else (fnR zs (r8 zs (5, 0)).2).1 := by unfold rdE; rw [if_neg (by omega), if_neg (by rw [hp]; decide)]
      have HR := hid (fun (W : World) (hW : Below w.heap.size w W) => (show Rd (W.alloc (.cells #[.slice (some ⟨b, off, none⟩) n c, .int .i64 5, .int .i64 0] 83)) W.heap.size (some ⟨b, off, none⟩) n c zs (5, 0) from by
        have kb := nb_new W (.cells #[.slice (some ⟨b, off, none⟩) n c, .int .i64 5, .int .i64 0] 83)
        have hs := (h.later hW (Nat.le_refl _)).later (below_new W (.cells #[.slice (some ⟨b, off, none⟩) n c, .int .i64 5, .int .i64 0] 83)) (Nat.le_refl _)
        have hz := hW.size
        exact ⟨cell_at kb, cell_at kb, cell_at kb, frzB kb, frzB kb, hs, fun b1 o1 e hn => by cases e; omega, ⟨by decide, by simp; omega⟩⟩))
      have HT := hid (fun (W : World) (R : Nat) (hW : Rd W R (some ⟨b, off, none⟩) n c zs (5, 0)) => rstate15 R b off n c zs (5, 0) W hW (by omega))
      have HF := hid (fun (W : World) (R : Nat) (hW : Rd W R (some ⟨b, off, none⟩) n c zs (r8 zs (5, 0)).2) => finish16 R (some ⟨b, off, none⟩) n c zs _ W hW)
      have HG1 := hid (show ∀ w', Below w.heap.size w w' → (fnR zs (r8 zs (5, 0)).2).2 ≠ 0 → RdA zs w (.returned (.tuple #[.agg zSt, .int .i64 (fnR zs (r8 zs (5, 0)).2).2, .int .i64 (fnR zs (r8 zs (5, 0)).2).1])) w' from fun w' hw hne => ⟨hw, .inl (by rw [e1, e2, if_neg hne]; exact ⟨hne, rfl⟩)⟩)
      have HG2 := hid (show ∀ w' B5 B6 B7 bl B8 ys, Below w.heap.size w w' → (fnR zs (r8 zs (5, 0)).2).2 = 0 → StA w.heap.size w' (stP zs (5, 0)) B5 B6 B7 bl B8 ys → RdA zs w (.returned (.tuple #[.agg (stAr (mkS (stP zs (5, 0)) B5 B6 B7 bl B8 ys)), .int .i64 0, .int .i64 0])) w' from fun w' B5 B6 B7 bl B8 ys hw hne hst => ⟨hw, .inr (by rw [e1]; exact ⟨hne, B5, B6, B7, bl, B8, ys, rfl, hst⟩)⟩)
      generalize fnR zs (r8 zs (5, 0)).2 = fn at *
      generalize r8 zs (5, 0) = p8 at *
      generalize stP zs (5, 0) = sp at *
      obtain ⟨at_, er⟩ := fn
      dsimp only at *
      clear h e1 e2 hl kz b1 b2 km kz2 hsi hp hcell
      go_enter Tryd.func16, Tryd.ntmps16
      go_wp2_with fail
      refine HP.out.mono ?_
      rintro e w2 ⟨rfl, hb2⟩
      have HK3 := hid (nb_later hb2 HK2.out)
      have HB3 := hid (HB2.out.trans (hb2.mono HB2.out.size))
      have hs2 : w.heap.size + 2 ≤ w2.heap.size := by
        have h1 := hb2.size
        have h2 : ((w.alloc (stC nS nS nS 0 0 nS 0 0)).alloc mgO).heap.size = w.heap.size + 2 := by simp
        omega
      have R4 := hid (HR.out w2 HB3.out)
      have b4 := below_new w2 (.cells #[.slice (some ⟨b, off, none⟩) n c, .int .i64 5, .int .i64 0] 83)
      have HK4 := hid (nb_later b4 HK3.out)
      have HB4 := hid (HB3.out.trans (b4.mono HB3.out.size))
      have hs4 : (w2.alloc (.cells #[.slice (some ⟨b, off, none⟩) n c, .int .i64 5, .int .i64 0] 83)).heap.size = w2.heap.size + 1 := by simp
      clear hb2 HP HR b4
      go_wp2_with fail
      generalize hW4 : w2.alloc (.cells #[.slice (some ⟨b, off, none⟩) n c, .int .i64 5, .int .i64 0] 83) = W4 at *
      refine (HT.out W4 w2.heap.size R4.out).mono ?_
      rintro e w5 ⟨B5, B6, B7, bl, B8, ys, rfl, hst5, hrd5, hk5⟩
      have b6 := below_new w5 (.cells (stAr (mkS sp B5 B6 B7 bl B8 ys)) 27)
      have hk6 : Kept (fun k => k = w2.heap.size) W4 (w5.alloc (.cells (stAr (mkS sp B5 B6 B7 bl B8 ys)) 27)) := hk5.trans (kept_R b6)
      have HK6 := hid (keep_blk hk6 (by omega) HK4.out)
      have HB6 := hid (old8 HB4.out hk6 (by omega))
      have R6 := hid (hrd5.later b6)
      have S6 := hid (hst5.keep (kept_of (S := fun _ => False) b6) (fun _ _ _ h => h))
      have N6 := hid (nb_new w5 (.cells (stAr (mkS sp B5 B6 B7 bl B8 ys)) 27))
      have hs5 := hk5.size
      have hlo5 := hst5.rs.lo
      have hhi5 := hst5.rs.hi
      clear hst5 hrd5 hk5 b6 HT hk6
      go_wp2_with fail
      generalize hW6 : w5.alloc (.cells (stAr (mkS sp B5 B6 B7 bl B8 ys)) 27) = W6 at *
      refine (HF.out W6 w2.heap.size R6.out).mono ?_
      rintro e w7 ⟨rfl, hrd7, hk7⟩
      have hs6 : W6.heap.size = w5.heap.size + 1 := by rw [← hW6]; simp
      have HKF := hid (keep_blk hk7 (by omega) HK6.out)
      have HB7 := hid (old8 HB6.out hk7 (by omega))
      have S7 := hid (S6.out.keep hk7 (fun q h1 h2 => by omega))
      have N7 := hid (keep_blk hk7 (by omega) N6.out)
      have c1 := hrd7.c1
      have c2 := hrd7.c2
      dsimp only at c1 c2
      have hs7 := hk7.size
      have g0 : w7.cell? ⟨w.heap.size, 0, none⟩ = some nS := cell_at HKF.out
      have f00 : w7.frozen? ⟨w.heap.size, 0, none⟩ = false := frzB HKF.out
      have g1 : w7.cell? ⟨w.heap.size, 1, none⟩ = some nS := cell_at HKF.out
      have f01 : w7.frozen? ⟨w.heap.size, 1, none⟩ = false := frzB HKF.out
      have g2 : w7.cell? ⟨w.heap.size, 2, none⟩ = some nS := cell_at HKF.out
      have f02 : w7.frozen? ⟨w.heap.size, 2, none⟩ = false := frzB HKF.out
      have g3 : w7.cell? ⟨w.heap.size, 3, none⟩ = some (.int .i64 0) := cell_at HKF.out
      have f03 : w7.frozen? ⟨w.heap.size, 3, none⟩ = false := frzB HKF.out
      have g4 : w7.cell? ⟨w.heap.size, 4, none⟩ = some (.int .i8 0) := cell_at HKF.out
      have f04 : w7.frozen? ⟨w.heap.size, 4, none⟩ = false := frzB HKF.out
      have g5 : w7.cell? ⟨w.heap.size, 5, none⟩ = some nS := cell_at HKF.out
      have f05 : w7.frozen? ⟨w.heap.size, 5, none⟩ = false := frzB HKF.out
      have g6 : w7.cell? ⟨w.heap.size, 6, none⟩ = some (.int .i8 0) := cell_at HKF.out
      have f06 : w7.frozen? ⟨w.heap.size, 6, none⟩ = false := frzB HKF.out
      have g7 : w7.cell? ⟨w.heap.size, 7, none⟩ = some (.int .i64 0) := cell_at HKF.out
      have f07 : w7.frozen? ⟨w.heap.size, 7, none⟩ = false := frzB HKF.out
      clear hrd7 hk7 HF R6 HK6 HB6 S6 N6
      by_cases her : er = 0
      · subst her
        obtain ⟨x, hx⟩ : ∃ x, mkS sp B5 B6 B7 bl B8 ys = x := ⟨_, rfl⟩
        have HG3 : Hid (∀ w', Below w.heap.size w w' → StA w.heap.size w' sp B5 B6 B7 bl B8 ys → RdA zs w (.returned (.tuple #[.agg (stAr x), .int .i64 0, .int .i64 0])) w') := hid (fun w' h1 h2 => by rw [← hx]; exact HG2.out w' B5 B6 B7 bl B8 ys h1 rfl h2)
        rw [hx] at N7
        have m : ∀ i, w7.cell? ⟨w5.heap.size, i, none⟩ = (stAr x)[i]? := fun i => cell_at N7.out
        have m0 : w7.cell? ⟨w5.heap.size, 0, none⟩ = some (.slice x.fa x.fn x.fc) := m 0
        have m1 : w7.cell? ⟨w5.heap.size, 1, none⟩ = some (.slice x.ga x.gn x.gc) := m 1
        have m2 : w7.cell? ⟨w5.heap.size, 2, none⟩ = some (.slice x.pa x.pn x.pc) := m 2
        have m3 : w7.cell? ⟨w5.heap.size, 3, none⟩ = some (.int .i64 x.rep) := m 3
        have m4 : w7.cell? ⟨w5.heap.size, 4, none⟩ = some (.int .i8 x.en) := m 4
        have m5 : w7.cell? ⟨w5.heap.size, 5, none⟩ = some (.slice x.ra x.rn x.rc) := m 5
        have m6 : w7.cell? ⟨w5.heap.size, 6, none⟩ = some (.int .i8 x.tr) := m 6
        have m7 : w7.cell? ⟨w5.heap.size, 7, none⟩ = some (.int .i64 x.us) := m 7
        clear m hx
        go_wp2_with fail
        have P8 := put8 (.slice x.fa x.fn x.fc) (.slice x.ga x.gn x.gc) (.slice x.pa x.pn x.pc) (.int .i64 x.rep) (.int .i8 x.en) (.slice x.ra x.rn x.rc) (.int .i8 x.tr) (.int .i64 x.us) HKF.out
        refine bodyPost_ret (v := .tuple #[.agg (stAr x), .int .i64 0, .int .i64 0]) (res_ctt (p := 2) (q := 3) (r := 4) (ty := 27) rfl _ _ w.heap.size (stAr x) rfl (ld_st _ _ _ P8.1 rfl) _ _ rfl rfl) rfl ?_
        have S8 := S7.out.keep P8.2 (fun q h1 h2 => by omega)
        exact HG3.out _ (old8 HB7.out P8.2 (Nat.le_refl _)) ⟨S8.rs.low (by omega), S8.gs.low (by omega), S8.ps, S8.fr, S8.fa, S8.fp, S8.o1, S8.o2, S8.o3, S8.o4⟩
      · have hb : (er != 0) = true := by simp [her]
        clear N7 S7
        go_wp2_with fail
        go_region
        go_wp2_with fail
        exact fin_err _ HKF.out HB7.out rfl rfl rfl (fun w' hw => HG1.out w' hw her)
end Go.Proofs.YtbdjghokedfkfaaDoor

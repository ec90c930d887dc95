/-
  The document's Read: bytes that begin rightly.
-/
import Derived.Test.YtbdjghokedfkfaaDoorJKf
namespace Go.Proofs.YtbdjghokedfkfaaDoor
open Go.RowKit
set_option linter.unusedVariables false
set_option maxRecDepth 100000

/-- Where the document's Read stands. -/
structure DS (w W : World) (a : Option Addr) (n c : Nat) (zs : List Int) (st : RS) (q : Int × Int × Int) (o : Array Value) : Prop where
  bel : Below w.heap.size w W
  sz : w.heap.size + 3 ≤ W.heap.size
  rq : Rq W (w.heap.size + 1) a n c zs st q
  g : W.heap[w.heap.size]? = some (.cells zSt 27)
  s : W.heap[w.heap.size + 2]? = some (.cells o 27)
  lo : ∀ b off, a = some ⟨b, off, none⟩ → 0 < n → b < w.heap.size
theorem DS.call {w W W' : World} {a : Option Addr} {n c : Nat} {zs : List Int} {st st' : RS} {q q' : Int × Int × Int} {o : Array Value} (h : DS w W a n c zs st q o) (hr : Rq W' (w.heap.size + 1) a n c zs st' q') (hk : Kept (fun k => k = w.heap.size + 1) W W') : DS w W' a n c zs st' q' o :=
  ⟨old8 h.bel hk (by omega), Nat.le_trans h.sz hk.size, hr, keep_blk hk (by omega) h.g, keep_blk hk (by omega) h.s, h.lo⟩
theorem DS.put {w W : World} {a : Option Addr} {n c : Nat} {zs : List Int} {st : RS} {q : Int × Int × Int} {o o' : Array Value} {i : Nat} {v : Value} (h : DS w W a n c zs st q o) (ho : o' = o.setIfInBounds i v) : DS w (W.setCell ⟨w.heap.size + 2, i, none⟩ v) a n c zs st q o' := by
  have hk : Kept (fun k => k = w.heap.size + 2) W (W.setCell ⟨w.heap.size + 2, i, none⟩ v) := kept_put
  refine ⟨old8 h.bel hk (by omega), Nat.le_trans h.sz hk.size, h.rq.kept hk (by omega) (fun b off e hn hb => by have := h.lo b off e hn; omega), keep_blk hk (by omega) h.g, ?_, h.lo⟩
  rw [ho]
  exact blk_set h.s
theorem DS.new {w W : World} {a : Option Addr} {n c : Nat} {zs : List Int} {st : RS} {q : Int × Int × Int} {o : Array Value} (h : DS w W a n c zs st q o) {W' : World} (hb : Below W.heap.size W W') : DS w W' a n c zs st q o :=
  ⟨h.bel.trans (hb.mono h.bel.size), Nat.le_trans h.sz hb.size, h.rq.later hb, nb_later hb h.g, nb_later hb h.s, h.lo⟩
theorem own_R' {W W' : World} {B e k n R : Nat} {v : Value} {xs : List Value} {P : Prop} (h : Hid (P → W.ownsRow B e k v n xs)) (hk : Kept (fun k => k = R) W W') (hR : R < B) : Hid (P → W'.ownsRow B e k v n xs) := hid (fun hp => own_keepB (h.out hp) hk (own_in (h.out hp) (fun b h1 h2 h3 => by omega)))
theorem pg_R {W W' : World} {B R : Nat} {v : Value} {ps : List (List Int)} {P : Prop} (h : Hid (P → ∃ bl, PgO B W v bl ps)) (hk : Kept (fun k => k = R) W W') (hR : R < B) : Hid (P → ∃ bl, PgO B W' v bl ps) := hid (fun hp => by
  obtain ⟨bl, h⟩ := h.out hp
  exact ⟨bl, h.kept hk (fun b h1 h2 h3 => by omega)⟩)
theorem own_R {w W W' : World} {e k n R : Nat} {v : Value} {xs : List Value} {P : Prop} (h : Hid (P → W.ownsRow (w.heap.size + 3) e k v n xs)) (hk : Kept (fun k => k = R) W W') (hR : R < w.heap.size + 3) : Hid (P → W'.ownsRow (w.heap.size + 3) e k v n xs) := hid (fun hp => own_keepB (h.out hp) hk (own_in (h.out hp) (fun b h1 h2 h3 => by omega)))
theorem DS.other {w W W' : World} {B : Nat} {a : Option Addr} {n c : Nat} {zs : List Int} {st : RS} {q : Int × Int × Int} {o : Array Value} (h : DS w W a n c zs st q o) (hB : w.heap.size + 3 ≤ B) (hk : Kept (fun k => k = B) W W') : DS w W' a n c zs st q o :=
  ⟨old8 h.bel hk (by omega), Nat.le_trans h.sz hk.size, h.rq.kept hk (by omega) (fun b off e hn hb => by have := h.lo b off e hn; omega), keep_blk hk (by omega) h.g, keep_blk hk (by omega) h.s, h.lo⟩
theorem DS.grown {w W W' : World} {n' : Nat} {xs : List Value} {v : Value} {a : Option Addr} {n c : Nat} {zs : List Int} {st : RS} {q : Int × Int × Int} {o : Array Value} (h : DS w W a n c zs st q o) (hO : W.ownsRow (w.heap.size + 3) 66 4 v n' xs) (hg : W.grownBy W' v.ownBlock) : DS w W' a n c zs st q o := by
  have hk := Kept.of_grown hg
  have hB : ∀ k, k < w.heap.size + 3 → ¬ some k = v.ownBlock := fun k hk e => by have := (own_ty hO e.symm).1; omega
  have hbel := h.bel
  refine ⟨hbel.trans (hk.to_below hbel.size (fun k hk => hB k (by omega))), Nat.le_trans h.sz hk.size, h.rq.kept hk (hB _ (by omega)) (fun b off e hn => hB b (by have := h.lo b off e hn; omega)), (hk.block _ (nb_lt h.g) (hB _ (by omega))).trans h.g, (hk.block _ (nb_lt h.s) (hB _ (by omega))).trans h.s, h.lo⟩
theorem row_cell (w : World) (cs : List Value) (t : TypeId) : ∀ (j : Nat) u, cs[j]? = some u → (w.alloc (.cells cs.toArray t)).cell? ((⟨w.heap.size, 0, none⟩ : Addr).add j) = some u := by
  intro j u h
  have e : (⟨w.heap.size, 0, none⟩ : Addr).add j = ⟨w.heap.size, j, none⟩ := by unfold Addr.add; split <;> simp_all
  rw [e, cell_at (nb_new w _)]
  simpa using h
theorem fin_errD {zs : List Int} {w w7 : World} {er at_ : Int} (tm : Array Value) (hk : w7.heap[w.heap.size]? = some (stC nS nS nS 0 0 nS 0 0)) (hB : Below w.heap.size w w7) (h2 : tm.getD 2 undef = .pointer (some ⟨w.heap.size, 0, none⟩)) (h3 : tm.getD 3 undef = .int .i64 er) (h4 : tm.getD 4 undef = .int .i64 at_)
    (HG : ∀ w', Below w.heap.size w w' → RdD zs w (.returned (.tuple #[.agg zSt, .int .i64 er, .int .i64 at_])) w') :
    bodyPost Tryd.prog Tryd.f17 (RdD zs w) .ret { tmps := tm, defers := [] } ((X8 w7 w.heap.size nS nS nS (.int .i64 0) (.int .i8 0) nS (.int .i8 0) (.int .i64 0)).drew) := by
  have P8 := put8 nS nS nS (.int .i64 0) (.int .i8 0) nS (.int .i8 0) (.int .i64 0) hk
  have B8' := old8 hB P8.2 (Nat.le_refl _)
  have hk8 := P8.1
  clear P8
  generalize X8 w7 w.heap.size nS nS nS (.int .i64 0) (.int .i8 0) nS (.int .i8 0) (.int .i64 0) = X at *
  have hk9 : X.drew.heap[w.heap.size]? = some (.cells zSt 27) := hk8
  have B9 : Below w.heap.size w X.drew := B8'.trans ((below_drewN X 1).mono B8'.size)
  generalize X.drew = Y at *
  exact bodyPost_ret (v := .tuple #[.agg zSt, .int .i64 er, .int .i64 at_]) (res_ctt (p := 2) (q := 3) (r := 4) (ty := 27) rfl _ _ w.heap.size zSt h2 (ld_st _ _ _ hk9 rfl) _ _ h3 h4) rfl (HG _ B9)
theorem zip_sndD : ∀ (bl : List Nat) (ps : List (List Int)), bl.length = ps.length → (List.zipWith (fun b l => (((some ⟨b, 0, none⟩, 4096, 4096), l) : PgM)) bl ps).map (·.2) = ps
  | [], [], _ => rfl
  | b :: bl, p :: ps, h => by
    simp only [List.zipWith_cons_cons, List.map_cons, List.cons.injEq, true_and]
    exact zip_sndD bl ps (by simpa using h)
  | [], p :: ps, h => by simp at h
  | b :: bl, [], h => by simp at h
/-- Frames so far. -/
def FI (w wr : World) (a : Option Addr) (n c : Nat) (zs : List Int) (s_n : RS) (V1 V2 V3 V4 : Int) (v5 v6 v7 : Value) (L5 L6 : List Int) (L7 : List (List Int)) (k : Nat) : Prop :=
  ∃ q fa fc ys, DS w wr a n c zs (rlR (frR zs) k s_n).2 q #[.slice fa k fc, v6, v7, .int .i64 V4, .int .i8 V1, v5, .int .i8 V2, .int .i64 V3] ∧ List.length ys = k ∧ wr.ownsRow (w.heap.size + 3) 66 4 (.slice fa k fc) k (ys.flatMap frCs) ∧ ((rlR (frR zs) k s_n).2.2 = 0 → (∃ bl, StF (w.heap.size + 3) wr v5 v6 v7 bl ys L5 L6 L7) ∧ ys.map plF = (rlR (frR zs) k s_n).1)
theorem fr_stuck {zs : List Int} {st : RS} (h : st.2 ≠ 0) : (frR zs st).2 = st := by
  have hn : ∀ (m x : Int), (nmR zs m x st) = (0, st) := fun m x => by unfold nmR tkR; rw [if_neg h]
  have hls : ∀ m, (lsR zs m st).2 = st := fun m => by unfold lsR; rw [hn]; rfl
  unfold frR
  simp only [hn, hls]
set_option maxHeartbeats 16000000 in
theorem rrd17_yes (b off n c : Nat) (zs : List Int) (w : World) (h : Seg w (some ⟨b, off, none⟩) n c zs) (hn : n ≤ 524288) (hp : pfx zs = true) :
    Calls Tryd.prog 17 #[.slice (some ⟨b, off, none⟩) n c] w (RdD zs w) := by
  have hl := h.1
  have hcp := h.2.1
  have hz := h.2.2.2.1
  have hn5 : 5 ≤ n := by
    have h1 : zs.take 5 = mgc := by simpa [pfx] using hp
    have h2 := congrArg List.length h1
    rw [List.length_take] at h2
    have h3 : mgc.length = 5 := rfl
    omega
  have hn1 : (n : Int) ≤ 524288 := by omega
  have hn5' : (5 : Int) ≤ (n : Int) := by omega
  have hc5 : (5 : Int) ≤ (c : Int) := by omega
  have hc0 : ¬ c = 0 := by omega
  have b1 := below_new w (stC nS nS nS 0 0 nS 0 0)
  have hcv := convS (some ⟨b, off, none⟩) 5 c (zs.take 5) (w.alloc (stC nS nS nS 0 0 nS 0 0)) (take_si (h.later b1 (Nat.le_refl _)) (by omega))
  have hse : ((strOfNums (zs.take 5)).toList == (strOfNums mgc).toList) = true := by
    rw [str_eq _ _ (fun z hz => h.2.2.2.1 z (List.mem_of_mem_take hz)) (by decide), lE_int]
    exact hp
  rw [mgc_list] at hse
  have HLO := hid (show ∀ b_1 off_1, (some ⟨b, off, none⟩ : Option Addr) = some ⟨b_1, off_1, none⟩ → 0 < n → b_1 < w.heap.size from fun b' off' e hn => by
    obtain ⟨b2, off2, e2, hc⟩ := h.2.2.2.2.resolve_left (by omega)
    rw [e] at e2
    have := hc 0 hn
    have hb := block_lt_of_cell this
    simp at e2 hb
    omega)
  have b2 := b1.trans ((below_new (w.alloc (stC nS nS nS 0 0 nS 0 0)) (rrO (some ⟨b, off, none⟩) n c (5, 0, 0))).mono b1.size)
  have b3 := b2.trans ((below_new ((w.alloc (stC nS nS nS 0 0 nS 0 0)).alloc (rrO (some ⟨b, off, none⟩) n c (5, 0, 0))) (stC nS nS nS 0 0 nS 0 0)).mono b2.size)
  have D0 : Hid (DS w (((w.alloc (stC nS nS nS 0 0 nS 0 0)).alloc (rrO (some ⟨b, off, none⟩) n c (5, 0, 0))).alloc (stC nS nS nS 0 0 nS 0 0)) (some ⟨b, off, none⟩) n c zs (5, 0) (5, 0, 0) zSt) := by
    refine hid ⟨b3, by simp, ⟨.inl ⟨rfl, rfl, rfl⟩, nb_later (below_new _ _) (nb_at (by simp)), h.later b3 (Nat.le_refl _), fun b' off' e hn => by have := HLO.out b' off' e hn; omega, fun _ => ⟨by decide, by show (5 : Int) ≤ _; omega⟩⟩, nb_later (below_new _ _) (nb_later (below_new _ _) (nb_new _ _)), nb_at (by simp), HLO.out⟩
  have hrd : rdE zs = ((fnR zs (r8 zs (5, 0)).2).2, if (fnR zs (r8 zs (5, 0)).2).2 = 0 then 0 else (fnR zs (r8 zs (5, 0)).2).1) := by
    unfold rdE
    rw [if_neg (by omega), if_neg (by rw [hp]; decide)]
  have hst : stP zs (5, 0) = ⟨(r1 zs (5, 0)).1, (r2 zs (5, 0)).1, (r3 zs (5, 0)).1, (r4 zs (5, 0)).1, (r5 zs (5, 0)).1, (r6 zs (5, 0)).1, (r7 zs (5, 0)).1, (r8 zs (5, 0)).1⟩ := rfl
  have e1 : r1 zs (5, 0) = ocR zs 1 3 (5, 0) := rfl
  have e2 : r2 zs (5, 0) = ocR zs 0 6 (r1 zs (5, 0)).2 := rfl
  have e3 : r3 zs (5, 0) = nmR zs 4611686018427387904 17 (r2 zs (5, 0)).2 := rfl
  have e4 : r4 zs (5, 0) = nmR zs 9223372036854775807 17 (r3 zs (5, 0)).2 := rfl
  have e5 : r5 zs (5, 0) = lsR zs 8 (r4 zs (5, 0)).2 := rfl
  have e6 : r6 zs (5, 0) = lsR zs 64 (r5 zs (5, 0)).2 := rfl
  have e7 : r7 zs (5, 0) = pgsR zs (r6 zs (5, 0)).2 := rfl
  have e8 : r8 zs (5, 0) = fsR zs 64 (r7 zs (5, 0)).2 := rfl
  have hm3 := nmR_le (st := (r2 zs (5, 0)).2) hz (by decide : (17 : Int) ≠ 0) (by omega : (0 : Int) ≤ 4611686018427387904)
  have hm4 := nmR_le (st := (r3 zs (5, 0)).2) hz (by decide : (17 : Int) ≠ 0) (by omega : (0 : Int) ≤ 9223372036854775807)
  rw [← e3] at hm3
  rw [← e4] at hm4
  generalize r1 zs (5, 0) = p1 at *
  generalize r2 zs (5, 0) = p2 at *
  generalize r3 zs (5, 0) = p3 at *
  generalize r4 zs (5, 0) = p4 at *
  generalize r5 zs (5, 0) = p5 at *
  generalize r6 zs (5, 0) = p6 at *
  generalize r7 zs (5, 0) = p7 at *
  generalize r8 zs (5, 0) = p8 at *
  have hw3 : IntKind.i64.wrap p3.1 = p3.1 := by rw [IntKind.wrap_i64]; omega
  have hw4 : IntKind.i64.wrap p4.1 = p4.1 := by rw [IntKind.wrap_i64]; omega
  have E1 := hid e1
  have E2 := hid e2
  have E3 := hid e3
  have E4 := hid e4
  have E5 := hid e5
  have E6 := hid e6
  have E7 := hid e7
  have E8 := hid e8
  have HRD := hid hrd
  have HST := hid hst
  have HZ := hid hz
  have HSG := hid h
  generalize strOfNums (zs.take 5) = s1 at *
  obtain ⟨V1, s_1⟩ := p1
  obtain ⟨V2, s_2⟩ := p2
  obtain ⟨V3, s_3⟩ := p3
  obtain ⟨V4, s_4⟩ := p4
  obtain ⟨L5, s_5⟩ := p5
  obtain ⟨L6, s_6⟩ := p6
  obtain ⟨L7, s_7⟩ := p7
  simp only at hw3 hw4
  clear e1 e2 e3 e4 e5 e6 e7 e8 hrd hst hz h hl hp b1 b2 b3 hm3 hm4 hcp
  go_enter Tryd.func17, Tryd.ntmps17
  go_wp2_with fail
  generalize ((w.alloc (stC nS nS nS 0 0 nS 0 0)).alloc (rrO (some ⟨b, off, none⟩) n c (5, 0, 0))).alloc (stC nS nS nS 0 0 nS 0 0) = W0 at *
  have HC1 := hid (roct56 (w.heap.size + 1) (some ⟨b, off, none⟩) n c zs (5, 0) (5, 0, 0) 1 3 W0 D0.out.rq (by decide) (by decide))
  refine HC1.out.mono ?_
  rintro e w1 ⟨q1, rfl, h1, k1⟩
  rw [← E1.out] at h1
  try rw [← E1.out]
  have C1 := hid (D0.out.call h1 k1)
  clear h1 k1 HC1 D0
  have g1 : w1.cell? ⟨w.heap.size + 2, 4, none⟩ = some (.int .i8 0) := cell_at C1.out.s
  have f1 : w1.frozen? ⟨w.heap.size + 2, 4, none⟩ = false := frzB C1.out.s
  have D1 : Hid (DS w (w1.setCell ⟨w.heap.size + 2, 4, none⟩ (.int .i8 V1)) (some ⟨b, off, none⟩) n c zs s_1 q1 #[nS, nS, nS, .int .i64 0, .int .i8 V1, nS, .int .i8 0, .int .i64 0]) := hid (C1.out.put rfl)
  clear C1
  go_wp2_with fail
  clear g1 f1
  generalize w1.setCell ⟨w.heap.size + 2, 4, none⟩ (.int .i8 V1) = W1 at *
  have HC2 := hid (roct56 (w.heap.size + 1) (some ⟨b, off, none⟩) n c zs s_1 q1 0 6 W1 D1.out.rq (by decide) (by decide))
  refine HC2.out.mono ?_
  rintro e w2 ⟨q2, rfl, h2, k2⟩
  rw [← E2.out] at h2
  try rw [← E2.out]
  have C2 := hid (D1.out.call h2 k2)
  clear h2 k2 HC2 D1
  have g2 : w2.cell? ⟨w.heap.size + 2, 6, none⟩ = some (.int .i8 0) := cell_at C2.out.s
  have f2 : w2.frozen? ⟨w.heap.size + 2, 6, none⟩ = false := frzB C2.out.s
  have D2 : Hid (DS w (w2.setCell ⟨w.heap.size + 2, 6, none⟩ (.int .i8 V2)) (some ⟨b, off, none⟩) n c zs s_2 q2 #[nS, nS, nS, .int .i64 0, .int .i8 V1, nS, .int .i8 V2, .int .i64 0]) := hid (C2.out.put rfl)
  clear C2
  go_wp2_with fail
  clear g2 f2
  generalize w2.setCell ⟨w.heap.size + 2, 6, none⟩ (.int .i8 V2) = W2 at *
  have HC3 := hid (rnum57 (w.heap.size + 1) (some ⟨b, off, none⟩) n c zs s_2 q2 4611686018427387904 17 W2 D2.out.rq (.inl (by decide)))
  refine HC3.out.mono ?_
  rintro e w3 ⟨q3, rfl, h3, k3⟩
  rw [← E3.out] at h3
  try rw [← E3.out]
  have C3 := hid (D2.out.call h3 k3)
  clear h3 k3 HC3 D2
  have g3 : w3.cell? ⟨w.heap.size + 2, 7, none⟩ = some (.int .i64 0) := cell_at C3.out.s
  have f3 : w3.frozen? ⟨w.heap.size + 2, 7, none⟩ = false := frzB C3.out.s
  have D3 : Hid (DS w (w3.setCell ⟨w.heap.size + 2, 7, none⟩ (.int .i64 V3)) (some ⟨b, off, none⟩) n c zs s_3 q3 #[nS, nS, nS, .int .i64 0, .int .i8 V1, nS, .int .i8 V2, .int .i64 V3]) := hid (C3.out.put rfl)
  clear C3
  go_wp2_with fail
  clear g3 f3
  generalize w3.setCell ⟨w.heap.size + 2, 7, none⟩ (.int .i64 V3) = W3 at *
  have HC4 := hid (rnum57 (w.heap.size + 1) (some ⟨b, off, none⟩) n c zs s_3 q3 9223372036854775807 17 W3 D3.out.rq (.inl (by decide)))
  refine HC4.out.mono ?_
  rintro e w4 ⟨q4, rfl, h4, k4⟩
  rw [← E4.out] at h4
  try rw [← E4.out]
  have C4 := hid (D3.out.call h4 k4)
  clear h4 k4 HC4 D3
  have g4 : w4.cell? ⟨w.heap.size + 2, 3, none⟩ = some (.int .i64 0) := cell_at C4.out.s
  have f4 : w4.frozen? ⟨w.heap.size + 2, 3, none⟩ = false := frzB C4.out.s
  have D4 : Hid (DS w (w4.setCell ⟨w.heap.size + 2, 3, none⟩ (.int .i64 V4)) (some ⟨b, off, none⟩) n c zs s_4 q4 #[nS, nS, nS, .int .i64 V4, .int .i8 V1, nS, .int .i8 V2, .int .i64 V3]) := hid (C4.out.put rfl)
  clear C4
  go_wp2_with fail
  clear g4 f4
  generalize w4.setCell ⟨w.heap.size + 2, 3, none⟩ (.int .i64 V4) = W4 at *
  have HC5 := hid (rvls58 (w.heap.size + 1) (some ⟨b, off, none⟩) n c zs s_4 q4 8 W4 D4.out.rq (by omega))
  refine HC5.out.mono ?_
  rintro e w5 ⟨v5, q5, rfl, ⟨va5, vn5, vc5, rfl⟩, o5, h5, k5⟩
  have x5 : lsR zs ((8 : Nat) : Int) s_4 = (L5, s_5) := E5.out.symm
  rw [x5] at h5 o5
  clear x5
  have O5 : Hid (s_5.2 = 0 → w5.ownsRow (w.heap.size + 3) 63 1 (.slice va5 vn5 vc5) L5.length (L5.map (Value.int .u64))) := hid (fun hp => own_low (o5 hp) D4.out.sz)
  have C5 := hid (D4.out.call h5 k5)
  clear o5 h5 k5 HC5 D4
  have g5 : w5.cell? ⟨w.heap.size + 2, 5, none⟩ = some nS := cell_at C5.out.s
  have f5 : w5.frozen? ⟨w.heap.size + 2, 5, none⟩ = false := frzB C5.out.s
  have D5 : Hid (DS w (w5.setCell ⟨w.heap.size + 2, 5, none⟩ (.slice va5 vn5 vc5)) (some ⟨b, off, none⟩) n c zs s_5 q5 #[nS, nS, nS, .int .i64 V4, .int .i8 V1, .slice va5 vn5 vc5, .int .i8 V2, .int .i64 V3]) := hid (C5.out.put rfl)
  have O5 := own_R O5 (kept_put (w := w5) (B := w.heap.size + 2) (i := 5) (v := .slice va5 vn5 vc5)) (by omega)
  clear C5
  go_wp2_with fail
  clear g5 f5
  generalize w5.setCell ⟨w.heap.size + 2, 5, none⟩ (.slice va5 vn5 vc5) = W5 at *
  have HC6 := hid (rvls58 (w.heap.size + 1) (some ⟨b, off, none⟩) n c zs s_5 q5 64 W5 D5.out.rq (by omega))
  refine HC6.out.mono ?_
  rintro e w6 ⟨v6, q6, rfl, ⟨va6, vn6, vc6, rfl⟩, o6, h6, k6⟩
  have x6 : lsR zs ((64 : Nat) : Int) s_5 = (L6, s_6) := E6.out.symm
  rw [x6] at h6 o6
  clear x6
  have O6 : Hid (s_6.2 = 0 → w6.ownsRow (w.heap.size + 3) 63 1 (.slice va6 vn6 vc6) L6.length (L6.map (Value.int .u64))) := hid (fun hp => own_low (o6 hp) D5.out.sz)
  have C6 := hid (D5.out.call h6 k6)
  have O5 := own_R O5 k6 (by omega)
  clear o6 h6 k6 HC6 D5
  have g6 : w6.cell? ⟨w.heap.size + 2, 1, none⟩ = some nS := cell_at C6.out.s
  have f6 : w6.frozen? ⟨w.heap.size + 2, 1, none⟩ = false := frzB C6.out.s
  have D6 : Hid (DS w (w6.setCell ⟨w.heap.size + 2, 1, none⟩ (.slice va6 vn6 vc6)) (some ⟨b, off, none⟩) n c zs s_6 q6 #[nS, .slice va6 vn6 vc6, nS, .int .i64 V4, .int .i8 V1, .slice va5 vn5 vc5, .int .i8 V2, .int .i64 V3]) := hid (C6.out.put rfl)
  have O5 := own_R O5 (kept_put (w := w6) (B := w.heap.size + 2) (i := 1) (v := .slice va6 vn6 vc6)) (by omega)
  have O6 := own_R O6 (kept_put (w := w6) (B := w.heap.size + 2) (i := 1) (v := .slice va6 vn6 vc6)) (by omega)
  clear C6
  go_wp2_with fail
  clear g6 f6
  generalize w6.setCell ⟨w.heap.size + 2, 1, none⟩ (.slice va6 vn6 vc6) = W6 at *
  have HC7 := hid (rpgs59 (w.heap.size + 1) (some ⟨b, off, none⟩) n c zs s_6 q6 W6 D6.out.rq)
  refine HC7.out.mono ?_
  rintro e w7 ⟨v7, q7, rfl, ⟨va7, vn7, vc7, rfl⟩, o7, h7, k7⟩
  have x7 : pgsR zs s_6 = (L7, s_7) := E7.out.symm
  rw [x7] at h7 o7
  clear x7
  have O7 : Hid (s_7.2 = 0 → ∃ bl, PgO (w.heap.size + 3) w7 (.slice va7 vn7 vc7) bl L7) := hid (fun hp => by obtain ⟨bl, hb⟩ := o7 hp; exact ⟨bl, hb.low D6.out.sz⟩)
  have C7 := hid (D6.out.call h7 k7)
  have O5 := own_R O5 k7 (by omega)
  have O6 := own_R O6 k7 (by omega)
  clear o7 h7 k7 HC7 D6
  have g7 : w7.cell? ⟨w.heap.size + 2, 2, none⟩ = some nS := cell_at C7.out.s
  have f7 : w7.frozen? ⟨w.heap.size + 2, 2, none⟩ = false := frzB C7.out.s
  have D7 : Hid (DS w (w7.setCell ⟨w.heap.size + 2, 2, none⟩ (.slice va7 vn7 vc7)) (some ⟨b, off, none⟩) n c zs s_7 q7 #[nS, .slice va6 vn6 vc6, .slice va7 vn7 vc7, .int .i64 V4, .int .i8 V1, .slice va5 vn5 vc5, .int .i8 V2, .int .i64 V3]) := hid (C7.out.put rfl)
  have O5 := own_R O5 (kept_put (w := w7) (B := w.heap.size + 2) (i := 2) (v := .slice va7 vn7 vc7)) (by omega)
  have O6 := own_R O6 (kept_put (w := w7) (B := w.heap.size + 2) (i := 2) (v := .slice va7 vn7 vc7)) (by omega)
  have O7 := pg_R O7 (kept_put (w := w7) (B := w.heap.size + 2) (i := 2) (v := .slice va7 vn7 vc7)) (by omega)
  clear C7
  go_wp2_with fail
  clear g7 f7
  generalize w7.setCell ⟨w.heap.size + 2, 2, none⟩ (.slice va7 vn7 vc7) = W7 at *
  have HC8 := hid (rnum57 (w.heap.size + 1) (some ⟨b, off, none⟩) n c zs s_7 q7 64 20 W7 D7.out.rq (.inl (by decide)))
  have hm := nmR_le (st := s_7) HZ.out (by decide : (20 : Int) ≠ 0) (by omega : (0 : Int) ≤ 64)
  have e8 : p8 = rlR (frR zs) (nmR zs 64 20 s_7).1.toNat (nmR zs 64 20 s_7).2 := E8.out
  have HNE := hid (show (nmR zs 64 20 s_7).2.2 = 0 → s_7.2 = 0 from nm_err)
  generalize nmR zs 64 20 s_7 = p at *
  obtain ⟨VN, s_n⟩ := p
  dsimp only at *
  obtain ⟨m, rfl⟩ := Int.eq_ofNat_of_zero_le hm.1
  rw [Int.toNat_natCast] at e8
  have hm64 : m ≤ 64 := by omega
  have E9 := hid e8
  clear hm e8
  refine HC8.out.mono ?_
  rintro e w8 ⟨q8, rfl, h8, k8⟩
  have D8 := hid (D7.out.call h8 k8)
  have O5 := own_R O5 k8 (by omega)
  have O6 := own_R O6 k8 (by omega)
  have O7 := pg_R O7 k8 (by omega)
  clear h8 k8 HC8 D7
  have F0 : Hid (FI w w8 (some ⟨b, off, none⟩) n c zs s_n V1 V2 V3 V4 (.slice va5 vn5 vc5) (.slice va6 vn6 vc6) (.slice va7 vn7 vc7) L5 L6 L7 0) := hid ⟨q8, none, 0, [], D8.out, rfl, World.ownsRow_nil _ _ _ _, fun h0 => by
    have g7 : s_7.2 = 0 := HNE.out h0
    have g6 : s_6.2 = 0 := pgs_err (zs := zs) (by rw [← E7.out]; exact g7)
    have g5 : s_5.2 = 0 := ls_err (zs := zs) (most := 64) (by rw [← E6.out]; exact g6)
    obtain ⟨bl, hb⟩ := O7.out g7
    exact ⟨⟨bl, O5.out g5, O6.out g6, hb, fun y hy => by cases hy⟩, rfl⟩⟩
  clear O5 O6 O7 D8 HNE E1 E2 E3 E4 E5 E6
  obtain ⟨i0, hi0, hz0, hz1, hz2⟩ := info_parts Tryd.inf43
  go_wp2_with fail
  go_loopw [8] (fun i wr => ∃ k : Nat, k ≤ m ∧ i = .int .u64 k ∧ Hid (FI w wr (some ⟨b, off, none⟩) n c zs s_n V1 V2 V3 V4 (.slice va5 vn5 vc5) (.slice va6 vn6 vc6) (.slice va7 vn7 vc7) L5 L6 L7 k)) (fun i _ => m - (intOf i).toNat)
  case atStart => exact ⟨0, by omega, rfl, F0⟩
  clear F0
  case round =>
    obtain ⟨k, hk, rfl, HF⟩ := hrel
    obtain ⟨q, fa, fc, ys, hD, hyl, hO, hG⟩ := HF.out
    have y2 : wr.cell? ⟨w.heap.size + 1, 2, none⟩ = some (.int .i64 q.2.1) := cell_at hD.rq.blk
    by_cases hlt : k < m
    · have hlt' : (k : Int) < (m : Int) := by omega
      by_cases hs : (rlR (frR zs) k s_n).2.2 = 0
      · have hq0 : q.2.1 = 0 := by
          rcases hD.rq.rl with ⟨_, h1, _⟩ | ⟨h1, _⟩
          · exact h1
          · exact absurd hs h1
        rw [hq0] at y2
        have e1 : (rlR (frR zs) (k + 1) s_n).1 = (rlR (frR zs) k s_n).1 ++ [(frR zs (rlR (frR zs) k s_n).2).1] := rfl
        have e2 : (rlR (frR zs) (k + 1) s_n).2 = (frR zs (rlR (frR zs) k s_n).2).2 := rfl
        have HE1 := hid e1
        have HE2 := hid e2
        have HD := hid hD
        have HO := hid hO
        have HG := hid (hG hs)
        have hsz := hD.sz
        clear e1 e2 hD hO hG hs hq0 HF
        generalize rlR (frR zs) k s_n = X at *
        obtain ⟨lk, sk⟩ := X
        dsimp only at *
        have hx : frR zs sk = (((nmR zs 127 17 sk).1, (nmR zs 2047 17 (nmR zs 127 17 sk).2).1, (lsR zs 64 (nmR zs 2047 17 (nmR zs 127 17 sk).2).2).1, (lsR zs 256 (lsR zs 64 (nmR zs 2047 17 (nmR zs 127 17 sk).2).2).2).1), (lsR zs 256 (lsR zs 64 (nmR zs 2047 17 (nmR zs 127 17 sk).2).2).2).2) := rfl
        rw [hx] at HE1 HE2
        clear hx
        have t1 := nmR_le (st := sk) HZ.out (by decide : (17 : Int) ≠ 0) (by omega : (0 : Int) ≤ 127)
        have b0 := below_new wr (.cells #[.int .i64 0, .int .i64 0, nS, nS] 66)
        have D0 := hid (HD.out.new b0)
        have K0 := hid (kept_of (S := fun k => k = w.heap.size + 1) b0)
        have B0 := hid (nb_new wr (.cells #[.int .i64 0, .int .i64 0, nS, nS] 66))
        have HC1 := hid (rnum57 (w.heap.size + 1) (some ⟨b, off, none⟩) n c zs sk q 127 17 _ D0.out.rq (.inl (by decide)))
        clear b0
        go_wp2_with fail
        generalize wr.alloc (.cells #[.int .i64 0, .int .i64 0, nS, nS] 66) = X0 at *
        generalize nmR zs 127 17 sk = P1 at *
        obtain ⟨A1, t_1⟩ := P1
        dsimp only at *
        have hw1 : IntKind.i64.wrap A1 = A1 := by rw [IntKind.wrap_i64]; omega
        clear t1
        refine HC1.out.mono ?_
        rintro e x1 ⟨qq1, rfl, h1, k1⟩
        have C1 := hid (D0.out.call h1 k1)
        have G1 := hid (keep_blk k1 (by omega) B0.out)
        have J1 := hid (K0.out.trans k1)
        clear h1 k1 HC1 D0 B0 K0
        have g1 : x1.cell? ⟨wr.heap.size, 0, none⟩ = some (.int .i64 0) := cell_at G1.out
        have f1 : x1.frozen? ⟨wr.heap.size, 0, none⟩ = false := frzB G1.out
        have D1 := hid (C1.out.other hsz (kept_put (w := x1) (B := wr.heap.size) (i := 0) (v := .int .i64 A1)))
        have B1 : Hid ((x1.setCell ⟨wr.heap.size, 0, none⟩ (.int .i64 A1)).heap[wr.heap.size]? = some (.cells #[.int .i64 A1, .int .i64 0, nS, nS] 66)) := hid (blk_set G1.out)
        have K1 := hid (J1.out.then (kept_put (w := x1) (B := wr.heap.size) (i := 0) (v := .int .i64 A1)) (fun q h1 h2 => by omega))
        clear C1 G1 J1
        go_wp2_with fail
        clear g1 f1
        generalize x1.setCell ⟨wr.heap.size, 0, none⟩ (.int .i64 A1) = X1 at *
        have t2 := nmR_le (st := t_1) HZ.out (by decide : (17 : Int) ≠ 0) (by omega : (0 : Int) ≤ 2047)
        have HC2 := hid (rnum57 (w.heap.size + 1) (some ⟨b, off, none⟩) n c zs t_1 qq1 2047 17 X1 D1.out.rq (.inl (by decide)))
        generalize nmR zs 2047 17 t_1 = P2 at *
        obtain ⟨A2, t_2⟩ := P2
        dsimp only at *
        have hw2 : IntKind.i64.wrap A2 = A2 := by rw [IntKind.wrap_i64]; omega
        clear t2
        refine HC2.out.mono ?_
        rintro e x2 ⟨qq2, rfl, h2, k2⟩
        have C2 := hid (D1.out.call h2 k2)
        have G2 := hid (keep_blk k2 (by omega) B1.out)
        have J2 := hid (K1.out.trans k2)
        clear h2 k2 HC2 D1 B1 K1
        have g2 : x2.cell? ⟨wr.heap.size, 1, none⟩ = some (.int .i64 0) := cell_at G2.out
        have f2 : x2.frozen? ⟨wr.heap.size, 1, none⟩ = false := frzB G2.out
        have D2 := hid (C2.out.other hsz (kept_put (w := x2) (B := wr.heap.size) (i := 1) (v := .int .i64 A2)))
        have B2 : Hid ((x2.setCell ⟨wr.heap.size, 1, none⟩ (.int .i64 A2)).heap[wr.heap.size]? = some (.cells #[.int .i64 A1, .int .i64 A2, nS, nS] 66)) := hid (blk_set G2.out)
        have K2 := hid (J2.out.then (kept_put (w := x2) (B := wr.heap.size) (i := 1) (v := .int .i64 A2)) (fun q h1 h2 => by omega))
        clear C2 G2 J2
        go_wp2_with fail
        clear g2 f2
        generalize x2.setCell ⟨wr.heap.size, 1, none⟩ (.int .i64 A2) = X2 at *
        have HC3 := hid (rvls58 (w.heap.size + 1) (some ⟨b, off, none⟩) n c zs t_2 qq2 64 X2 D2.out.rq (by omega))
        have ex3 : lsR zs ((64 : Nat) : Int) t_2 = lsR zs 64 t_2 := rfl
        rw [ex3] at HC3
        clear ex3
        generalize lsR zs 64 t_2 = P3 at *
        obtain ⟨M3, t_3⟩ := P3
        dsimp only at *
        refine HC3.out.mono ?_
        rintro e x3 ⟨vv3, qq3, rfl, ⟨la3, ln3, lc3, rfl⟩, o3, h3, k3⟩
        have Q3 : Hid (t_3.2 = 0 → x3.ownsRow (wr.heap.size + 1) 63 1 (.slice la3 ln3 lc3) M3.length (M3.map (Value.int .u64))) := hid (fun hp => own_low (o3 hp) (nb_lt B2.out))
        have C3 := hid (D2.out.call h3 k3)
        have G3 := hid (keep_blk k3 (by omega) B2.out)
        have J3 := hid (K2.out.trans k3)
        clear o3 h3 k3 HC3 D2 B2 K2
        have g3 : x3.cell? ⟨wr.heap.size, 2, none⟩ = some nS := cell_at G3.out
        have f3 : x3.frozen? ⟨wr.heap.size, 2, none⟩ = false := frzB G3.out
        have D3 := hid (C3.out.other hsz (kept_put (w := x3) (B := wr.heap.size) (i := 2) (v := .slice la3 ln3 lc3)))
        have B3 : Hid ((x3.setCell ⟨wr.heap.size, 2, none⟩ (.slice la3 ln3 lc3)).heap[wr.heap.size]? = some (.cells #[.int .i64 A1, .int .i64 A2, .slice la3 ln3 lc3, nS] 66)) := hid (blk_set G3.out)
        have K3 := hid (J3.out.then (kept_put (w := x3) (B := wr.heap.size) (i := 2) (v := .slice la3 ln3 lc3)) (fun q h1 h2 => by omega))
        have Q3 := own_R' Q3 (kept_put (w := x3) (B := wr.heap.size) (i := 2) (v := .slice la3 ln3 lc3)) (by omega)
        clear C3 G3 J3
        go_wp2_with fail
        clear g3 f3
        generalize x3.setCell ⟨wr.heap.size, 2, none⟩ (.slice la3 ln3 lc3) = X3 at *
        have HC4 := hid (rvls58 (w.heap.size + 1) (some ⟨b, off, none⟩) n c zs t_3 qq3 256 X3 D3.out.rq (by omega))
        have ex4 : lsR zs ((256 : Nat) : Int) t_3 = lsR zs 256 t_3 := rfl
        rw [ex4] at HC4
        clear ex4
        have HER := hid (show (lsR zs 256 t_3).2.2 = 0 → t_3.2 = 0 from ls_err)
        generalize lsR zs 256 t_3 = P4 at *
        obtain ⟨M4, t_4⟩ := P4
        dsimp only at *
        refine HC4.out.mono ?_
        rintro e x4 ⟨vv4, qq4, rfl, ⟨la4, ln4, lc4, rfl⟩, o4, h4, k4⟩
        have Q4 : Hid (t_4.2 = 0 → x4.ownsRow (wr.heap.size + 1) 63 1 (.slice la4 ln4 lc4) M4.length (M4.map (Value.int .u64))) := hid (fun hp => own_low (o4 hp) (nb_lt B3.out))
        have Q3 := own_R' Q3 k4 (by omega)
        have C4 := hid (D3.out.call h4 k4)
        have G4 := hid (keep_blk k4 (by omega) B3.out)
        have J4 := hid (K3.out.trans k4)
        clear o4 h4 k4 HC4 D3 B3 K3
        have g4 : x4.cell? ⟨wr.heap.size, 3, none⟩ = some nS := cell_at G4.out
        have f4 : x4.frozen? ⟨wr.heap.size, 3, none⟩ = false := frzB G4.out
        have D4 := hid (C4.out.other hsz (kept_put (w := x4) (B := wr.heap.size) (i := 3) (v := .slice la4 ln4 lc4)))
        have B4 : Hid ((x4.setCell ⟨wr.heap.size, 3, none⟩ (.slice la4 ln4 lc4)).heap[wr.heap.size]? = some (.cells #[.int .i64 A1, .int .i64 A2, .slice la3 ln3 lc3, .slice la4 ln4 lc4] 66)) := hid (blk_set G4.out)
        have K4 := hid (J4.out.then (kept_put (w := x4) (B := wr.heap.size) (i := 3) (v := .slice la4 ln4 lc4)) (fun q h1 h2 => by omega))
        have Q4 := own_R' Q4 (kept_put (w := x4) (B := wr.heap.size) (i := 3) (v := .slice la4 ln4 lc4)) (by omega)
        have Q3 := own_R' Q3 (kept_put (w := x4) (B := wr.heap.size) (i := 3) (v := .slice la4 ln4 lc4)) (by omega)
        clear C4 G4 J4
        go_upto_region 23 with fail
        clear g4 f4
        generalize x4.setCell ⟨wr.heap.size, 3, none⟩ (.slice la4 ln4 lc4) = X4 at *
        have m0 : X4.cell? ⟨w.heap.size + 2, 0, none⟩ = some (.slice fa k fc) := cell_at D4.out.s
        have n0 : X4.cell? ⟨wr.heap.size, 0, none⟩ = some (.int .i64 A1) := cell_at B4.out
        have n1 : X4.cell? ⟨wr.heap.size, 1, none⟩ = some (.int .i64 A2) := cell_at B4.out
        have n2 : X4.cell? ⟨wr.heap.size, 2, none⟩ = some (.slice la3 ln3 lc3) := cell_at B4.out
        have n3 : X4.cell? ⟨wr.heap.size, 3, none⟩ = some (.slice la4 ln4 lc4) := cell_at B4.out
        have b5 := below_new X4 (.cells #[.int .i64 A1, .int .i64 A2, .slice la3 ln3 lc3, .slice la4 ln4 lc4] 66)
        have B5 := hid b5
        have OX := hid (own_keepB HO.out K4.out (own_in HO.out (fun b h1 h2 h3 => by omega)))
        have OW := hid (own_keepB OX.out (kept_of (S := fun _ => False) b5) (fun _ _ h => h))
        have HU := hid (row_cell X4 [.int .i64 A1, .int .i64 A2, .slice la3 ln3 lc3, .slice la4 ln4 lc4] 66)
        have hbase : w.heap.size + 3 ≤ (X4.alloc (.cells #[.int .i64 A1, .int .i64 A2, .slice la3 ln3 lc3, .slice la4 ln4 lc4] 66)).heap.size := Nat.le_trans D4.out.sz b5.size
        clear b5
        go_wp2_with (first | (at_builtin; refine wpList_append_own _ rfl (.tmp 81) (.tmp 83) 22 rfl (w.heap.size + 3) 66 i0 (.agg #[.int .i64 0, .int .i64 0, .slice none 0 0, .slice none 0 0]) 4 64 Tryd.underlying22 hi0 hz0 hz1 hz2 rfl (by decide) _ k _ rfl OW.out ⟨X4.heap.size, 0, none⟩ 1 1 [.int .i64 A1, .int .i64 A2, .slice la3 ln3 lc3, .slice la4 ln4 lc4] rfl rfl HU.out (by intro u hu; simp at hu; rcases hu with rfl | rfl | rfl | rfl <;> rfl) (by unfold maxLen; omega) (by omega) hbase ?_; intro v' w9 hown hg hdrop; clear hdrop; obtain ⟨fa', fc', rfl⟩ := own_sl hown; have ON := hid hown; have GN := hid hg; clear hown hg; have D9 := hid ((D4.out.new B5.out).grown OW.out GN.out); have m9 : w9.cell? ⟨w.heap.size + 2, 0, none⟩ = some (.slice fa k fc) := cell_at D9.out.s; have f9 : w9.frozen? ⟨w.heap.size + 2, 0, none⟩ = false := frzB D9.out.s; clear m0 n0 n1 n2 n3))
        have kp : Kept (fun k => k = w.heap.size + 2) w9 (w9.setCell ⟨w.heap.size + 2, 0, none⟩ (.slice fa' (k + 1) fc')) := kept_put
        have kg := Kept.of_grown GN.out
        have Da := hid (D9.out.put (i := 0) (v := .slice fa' (k + 1) fc') (o' := #[.slice fa' (k + 1) fc', .slice va6 vn6 vc6, .slice va7 vn7 vc7, .int .i64 V4, .int .i8 V1, .slice va5 vn5 vc5, .int .i8 V2, .int .i64 V3]) rfl)
        have ow : w9.ownsRow (w.heap.size + 3) 66 4 (.slice fa' (k + 1) fc') (k + 1) ((ys ++ [(A1, A2, ((la3, ln3, lc3), M3), ((la4, ln4, lc4), M4))]).flatMap frCs) := by
          rw [List.flatMap_append]
          exact ON.out
        refine ⟨⟨k + 1, by omega, by go_num, hid ⟨qq4, fa', fc', ys ++ [(A1, A2, ((la3, ln3, lc3), M3), ((la4, ln4, lc4), M4))], by rw [HE2.out]; exact Da.out, by simp [hyl], own_keepB ow kp (own_in ow (fun b h1 h2 h3 => by omega)), fun h0 => ?_⟩⟩, by simp [intOf]; omega⟩
        rw [HE2.out] at h0
        have h3 := HER.out h0
        obtain ⟨⟨bl, hst⟩, hpl⟩ := HG.out
        have z3 := own_keepB (own_low (Q3.out h3) (Nat.le_trans hsz (Nat.le_succ _))) (kept_of (S := fun _ => False) B5.out) (fun _ _ h => h)
        have z4 := own_keepB (own_low (Q4.out h0) (Nat.le_trans hsz (Nat.le_succ _))) (kept_of (S := fun _ => False) B5.out) (fun _ _ h => h)
        have y3 := own_keepB z3 kg (own_apart z3 OW.out (by decide))
        have y4 := own_keepB z4 kg (own_apart z4 OW.out (by decide))
        have s9 := (((hst.keep K4.out (fun b h1 h2 h3 => by omega)).keep (kept_of (S := fun _ => False) B5.out) (fun _ _ _ h => h)).grown OW.out GN.out).snoc (y := (A1, A2, ((la3, ln3, lc3), M3), ((la4, ln4, lc4), M4))) ⟨y3, y4⟩
        refine ⟨⟨bl, s9.keep kp (fun b h1 h2 h3 => by omega)⟩, ?_⟩
        rw [HE1.out, List.map_append, hpl]
        rfl
      · have hlt9 := hlt
        obtain ⟨qa, qe, qb⟩ := q
        have hq : qe = (rlR (frR zs) k s_n).2.2 ∧ qb = (rlR (frR zs) k s_n).2.1 := by
          rcases hD.rq.rl with ⟨h1, _⟩ | ⟨_, h1, h2⟩
          · exact absurd h1 hs
          · exact ⟨h1, h2⟩
        have hp8 : p8.2 = (rlR (frR zs) k s_n).2 := by
          rw [E9.out]
          have := rl_stuck (f := frR zs) (fun s hs => fr_stuck hs) hs (m - k)
          rw [show k + (m - k) = m by omega] at this
          exact this
        have HGE : Hid (rdE zs = (qe, qb)) := by
          have hf : fnR zs p8.2 = p8.2 := by
            unfold fnR tkR
            rw [hp8, if_neg hs]
            split <;> rfl
          rw [hq.1, hq.2]
          refine hid ?_
          rw [HRD.out, hf, hp8, if_neg hs]
        have her : qe ≠ 0 := by rw [hq.1]; exact hs
        have DX := hid hD
        have hb1 : (qe == 0) = false := by simp [her]
        have hb2 : (qe != 0) = true := by simp [her]
        clear hD hO hG hs hq hp8 HF
        have g0 : wr.cell? ⟨w.heap.size, 0, none⟩ = some (nS) := cell_at DX.out.g
        have f00 : wr.frozen? ⟨w.heap.size, 0, none⟩ = false := frzB DX.out.g
        have g1 : wr.cell? ⟨w.heap.size, 1, none⟩ = some (nS) := cell_at DX.out.g
        have f01 : wr.frozen? ⟨w.heap.size, 1, none⟩ = false := frzB DX.out.g
        have g2 : wr.cell? ⟨w.heap.size, 2, none⟩ = some (nS) := cell_at DX.out.g
        have f02 : wr.frozen? ⟨w.heap.size, 2, none⟩ = false := frzB DX.out.g
        have g3 : wr.cell? ⟨w.heap.size, 3, none⟩ = some (.int .i64 0) := cell_at DX.out.g
        have f03 : wr.frozen? ⟨w.heap.size, 3, none⟩ = false := frzB DX.out.g
        have g4 : wr.cell? ⟨w.heap.size, 4, none⟩ = some (.int .i8 0) := cell_at DX.out.g
        have f04 : wr.frozen? ⟨w.heap.size, 4, none⟩ = false := frzB DX.out.g
        have g5 : wr.cell? ⟨w.heap.size, 5, none⟩ = some (nS) := cell_at DX.out.g
        have f05 : wr.frozen? ⟨w.heap.size, 5, none⟩ = false := frzB DX.out.g
        have g6 : wr.cell? ⟨w.heap.size, 6, none⟩ = some (.int .i8 0) := cell_at DX.out.g
        have f06 : wr.frozen? ⟨w.heap.size, 6, none⟩ = false := frzB DX.out.g
        have g7 : wr.cell? ⟨w.heap.size, 7, none⟩ = some (.int .i64 0) := cell_at DX.out.g
        have f07 : wr.frozen? ⟨w.heap.size, 7, none⟩ = false := frzB DX.out.g
        have c2 : wr.cell? ⟨w.heap.size + 1, 2, none⟩ = some (.int .i64 qe) := cell_at DX.out.rq.blk
        have c3 : wr.cell? ⟨w.heap.size + 1, 3, none⟩ = some (.int .i64 qb) := cell_at DX.out.rq.blk
        go_wp2_with fail
        go_region
        go_wp2_with fail
        exact fin_errD _ DX.out.g DX.out.bel rfl rfl rfl (fun w' hw => ⟨hw, .inl (by rw [HGE.out]; exact ⟨her, rfl⟩)⟩)
    · have hlt3 : ¬ (k : Int) < (m : Int) := by omega
      obtain rfl : k = m := by omega
      by_cases hs : (rlR (frR zs) k s_n).2.2 = 0
      · obtain ⟨qa, qe, qb⟩ := q
        have hrg := hD.rq.rg hs
        have hq : qe = 0 ∧ qa = (rlR (frR zs) k s_n).2.1 := by
          rcases hD.rq.rl with ⟨_, h1, h2⟩ | ⟨h1, _⟩
          · exact ⟨h1, h2⟩
          · exact absurd hs h1
        obtain ⟨⟨bl, hst⟩, hpl⟩ := hG hs
        have hzl := HSG.out.1
        have E10 : Hid (p8 = rlR (frR zs) k s_n) := E9
        clear hG E9 HF E8
        generalize rlR (frR zs) k s_n = X at *
        obtain ⟨lk, at_, er⟩ := X
        dsimp only at *
        obtain ⟨rfl, rfl⟩ := hq
        subst hs
        have y1 : wr.cell? ⟨w.heap.size + 1, 1, none⟩ = some (.int .i64 qa) := cell_at hD.rq.blk
        by_cases hat : qa = (n : Int)
        · subst hat
          have HGE : Hid (rdE zs = (0, 0)) := by
            have hf : fnR zs p8.2 = ((n : Int), 0) := by
              rw [E10.out]
              unfold fnR
              rw [if_neg (by simp; omega)]
            refine hid ?_
            rw [HRD.out, hf]
            rfl
          have l5 := hst.rs
          have l6 := hst.gs
          have l7 := hst.ps.own
          obtain ⟨a5, c5, e5⟩ := own_sl l5
          obtain ⟨a6, c6, e6⟩ := own_sl l6
          obtain ⟨a7, c7, e7⟩ := own_sl l7
          obtain ⟨rfl, rfl, rfl⟩ := Value.slice.inj e5
          obtain ⟨rfl, rfl, rfl⟩ := Value.slice.inj e6
          obtain ⟨rfl, rfl, rfl⟩ := Value.slice.inj e7
          have DX := hid hD
          have HSF := hid hst
          have HO := hid hO
          have HPL := hid hpl
          clear l5 l6 l7 e5 e6 e7 hst hO hpl hD
          have g0 : wr.cell? ⟨w.heap.size, 0, none⟩ = some (nS) := cell_at DX.out.g
          have f00 : wr.frozen? ⟨w.heap.size, 0, none⟩ = false := frzB DX.out.g
          have g1 : wr.cell? ⟨w.heap.size, 1, none⟩ = some (nS) := cell_at DX.out.g
          have f01 : wr.frozen? ⟨w.heap.size, 1, none⟩ = false := frzB DX.out.g
          have g2 : wr.cell? ⟨w.heap.size, 2, none⟩ = some (nS) := cell_at DX.out.g
          have f02 : wr.frozen? ⟨w.heap.size, 2, none⟩ = false := frzB DX.out.g
          have g3 : wr.cell? ⟨w.heap.size, 3, none⟩ = some (.int .i64 0) := cell_at DX.out.g
          have f03 : wr.frozen? ⟨w.heap.size, 3, none⟩ = false := frzB DX.out.g
          have g4 : wr.cell? ⟨w.heap.size, 4, none⟩ = some (.int .i8 0) := cell_at DX.out.g
          have f04 : wr.frozen? ⟨w.heap.size, 4, none⟩ = false := frzB DX.out.g
          have g5 : wr.cell? ⟨w.heap.size, 5, none⟩ = some (nS) := cell_at DX.out.g
          have f05 : wr.frozen? ⟨w.heap.size, 5, none⟩ = false := frzB DX.out.g
          have g6 : wr.cell? ⟨w.heap.size, 6, none⟩ = some (.int .i8 0) := cell_at DX.out.g
          have f06 : wr.frozen? ⟨w.heap.size, 6, none⟩ = false := frzB DX.out.g
          have g7 : wr.cell? ⟨w.heap.size, 7, none⟩ = some (.int .i64 0) := cell_at DX.out.g
          have f07 : wr.frozen? ⟨w.heap.size, 7, none⟩ = false := frzB DX.out.g
          have m0 : wr.cell? ⟨w.heap.size + 2, 0, none⟩ = some (.slice fa k fc) := cell_at DX.out.s
          have m1 : wr.cell? ⟨w.heap.size + 2, 1, none⟩ = some (.slice va6 L6.length vc6) := cell_at DX.out.s
          have m2 : wr.cell? ⟨w.heap.size + 2, 2, none⟩ = some (.slice va7 bl.length vc7) := cell_at DX.out.s
          have m3 : wr.cell? ⟨w.heap.size + 2, 3, none⟩ = some (.int .i64 V4) := cell_at DX.out.s
          have m4 : wr.cell? ⟨w.heap.size + 2, 4, none⟩ = some (.int .i8 V1) := cell_at DX.out.s
          have m5 : wr.cell? ⟨w.heap.size + 2, 5, none⟩ = some (.slice va5 L5.length vc5) := cell_at DX.out.s
          have m6 : wr.cell? ⟨w.heap.size + 2, 6, none⟩ = some (.int .i8 V2) := cell_at DX.out.s
          have m7 : wr.cell? ⟨w.heap.size + 2, 7, none⟩ = some (.int .i64 V3) := cell_at DX.out.s
          have hnn : ((n : Int) != (n : Int)) = false := by simp
          go_wp2_with fail
          have P8 := put8 (.slice fa k fc) (.slice va6 L6.length vc6) (.slice va7 bl.length vc7) (.int .i64 V4) (.int .i8 V1) (.slice va5 L5.length vc5) (.int .i8 V2) (.int .i64 V3) DX.out.g
          subst hyl
          refine bodyPost_ret (v := .tuple #[.agg (stAr (mkD fa fc ys va6 vc6 L6 va7 vc7 bl L7 V4 V1 va5 vc5 L5 V2 V3)), .int .i64 0, .int .i64 0]) (res_ctt (p := 2) (q := 3) (r := 4) (ty := 27) rfl _ _ w.heap.size (stAr (mkD fa fc ys va6 vc6 L6 va7 vc7 bl L7 V4 V1 va5 vc5 L5 V2 V3)) rfl (ld_st _ _ _ P8.1 rfl) _ _ rfl rfl) rfl ?_
          have S8 := HSF.out.keep P8.2 (fun q h1 h2 h3 => by omega)
          have O8 := own_keepB HO.out P8.2 (own_in HO.out (fun q h1 h2 h3 => by omega))
          refine ⟨old8 DX.out.bel P8.2 (Nat.le_refl _), .inr ⟨by rw [HGE.out], _, rfl, S8.sst O8 ?_ V4 V1 V2 V3, ?_⟩⟩
          · have := pgs_all zs s_6
            rw [← E7.out] at this
            exact this
          · rw [HST.out, E10.out]
            exact ⟨rfl, rfl, rfl, rfl, rfl, rfl, zip_sndD bl L7 HSF.out.ps.len, HPL.out⟩
        · have hlt3 : qa < (zs.length : Int) := by omega
          have HGE : Hid (rdE zs = (19, qa)) := by
            have hf : fnR zs p8.2 = (qa, 19) := by
              rw [E10.out]
              unfold fnR
              rw [if_pos hlt3]
              simp [tkR]
            refine hid ?_
            rw [HRD.out, hf]
            rfl
          have hat' : (qa != (n : Int)) = true := by simp [hat]
          have HNO := hid (rno60 (w.heap.size + 1) (some ⟨b, off, none⟩) n c zs qa qb 19 qa wr hD.rq (by decide))
          have DW := hid hD
          have her : (19 : Int) ≠ 0 := by decide
          clear hD hO hst hpl
          go_wp2_with fail
          refine HNO.out.mono ?_
          rintro e w9 ⟨rfl, h9, k9⟩
          have DX := hid (DW.out.call h9 k9)
          clear h9 k9 HNO DW y1 y2
          have g0 : w9.cell? ⟨w.heap.size, 0, none⟩ = some (nS) := cell_at DX.out.g
          have f00 : w9.frozen? ⟨w.heap.size, 0, none⟩ = false := frzB DX.out.g
          have g1 : w9.cell? ⟨w.heap.size, 1, none⟩ = some (nS) := cell_at DX.out.g
          have f01 : w9.frozen? ⟨w.heap.size, 1, none⟩ = false := frzB DX.out.g
          have g2 : w9.cell? ⟨w.heap.size, 2, none⟩ = some (nS) := cell_at DX.out.g
          have f02 : w9.frozen? ⟨w.heap.size, 2, none⟩ = false := frzB DX.out.g
          have g3 : w9.cell? ⟨w.heap.size, 3, none⟩ = some (.int .i64 0) := cell_at DX.out.g
          have f03 : w9.frozen? ⟨w.heap.size, 3, none⟩ = false := frzB DX.out.g
          have g4 : w9.cell? ⟨w.heap.size, 4, none⟩ = some (.int .i8 0) := cell_at DX.out.g
          have f04 : w9.frozen? ⟨w.heap.size, 4, none⟩ = false := frzB DX.out.g
          have g5 : w9.cell? ⟨w.heap.size, 5, none⟩ = some (nS) := cell_at DX.out.g
          have f05 : w9.frozen? ⟨w.heap.size, 5, none⟩ = false := frzB DX.out.g
          have g6 : w9.cell? ⟨w.heap.size, 6, none⟩ = some (.int .i8 0) := cell_at DX.out.g
          have f06 : w9.frozen? ⟨w.heap.size, 6, none⟩ = false := frzB DX.out.g
          have g7 : w9.cell? ⟨w.heap.size, 7, none⟩ = some (.int .i64 0) := cell_at DX.out.g
          have f07 : w9.frozen? ⟨w.heap.size, 7, none⟩ = false := frzB DX.out.g
          have c2 : w9.cell? ⟨w.heap.size + 1, 2, none⟩ = some (.int .i64 19) := cell_at DX.out.rq.blk
          have c3 : w9.cell? ⟨w.heap.size + 1, 3, none⟩ = some (.int .i64 qa) := cell_at DX.out.rq.blk
          go_wp2_with fail
          go_region
          go_wp2_with fail
          exact fin_errD _ DX.out.g DX.out.bel rfl rfl rfl (fun w' hw => ⟨hw, .inl (by rw [HGE.out]; exact ⟨her, rfl⟩)⟩)
      · obtain ⟨qa, qe, qb⟩ := q
        have hq : qe = (rlR (frR zs) k s_n).2.2 ∧ qb = (rlR (frR zs) k s_n).2.1 := by
          rcases hD.rq.rl with ⟨h1, _⟩ | ⟨_, h1, h2⟩
          · exact absurd h1 hs
          · exact ⟨h1, h2⟩
        have hp8 : p8.2 = (rlR (frR zs) k s_n).2 := by
          rw [E9.out]
        have HGE : Hid (rdE zs = (qe, qb)) := by
          have hf : fnR zs p8.2 = p8.2 := by
            unfold fnR tkR
            rw [hp8, if_neg hs]
            split <;> rfl
          rw [hq.1, hq.2]
          refine hid ?_
          rw [HRD.out, hf, hp8, if_neg hs]
        have her : qe ≠ 0 := by rw [hq.1]; exact hs
        have DX := hid hD
        have hb1 : (qe == 0) = false := by simp [her]
        have hb2 : (qe != 0) = true := by simp [her]
        clear hD hO hG hs hq hp8 HF
        have g0 : wr.cell? ⟨w.heap.size, 0, none⟩ = some (nS) := cell_at DX.out.g
        have f00 : wr.frozen? ⟨w.heap.size, 0, none⟩ = false := frzB DX.out.g
        have g1 : wr.cell? ⟨w.heap.size, 1, none⟩ = some (nS) := cell_at DX.out.g
        have f01 : wr.frozen? ⟨w.heap.size, 1, none⟩ = false := frzB DX.out.g
        have g2 : wr.cell? ⟨w.heap.size, 2, none⟩ = some (nS) := cell_at DX.out.g
        have f02 : wr.frozen? ⟨w.heap.size, 2, none⟩ = false := frzB DX.out.g
        have g3 : wr.cell? ⟨w.heap.size, 3, none⟩ = some (.int .i64 0) := cell_at DX.out.g
        have f03 : wr.frozen? ⟨w.heap.size, 3, none⟩ = false := frzB DX.out.g
        have g4 : wr.cell? ⟨w.heap.size, 4, none⟩ = some (.int .i8 0) := cell_at DX.out.g
        have f04 : wr.frozen? ⟨w.heap.size, 4, none⟩ = false := frzB DX.out.g
        have g5 : wr.cell? ⟨w.heap.size, 5, none⟩ = some (nS) := cell_at DX.out.g
        have f05 : wr.frozen? ⟨w.heap.size, 5, none⟩ = false := frzB DX.out.g
        have g6 : wr.cell? ⟨w.heap.size, 6, none⟩ = some (.int .i8 0) := cell_at DX.out.g
        have f06 : wr.frozen? ⟨w.heap.size, 6, none⟩ = false := frzB DX.out.g
        have g7 : wr.cell? ⟨w.heap.size, 7, none⟩ = some (.int .i64 0) := cell_at DX.out.g
        have f07 : wr.frozen? ⟨w.heap.size, 7, none⟩ = false := frzB DX.out.g
        have c2 : wr.cell? ⟨w.heap.size + 1, 2, none⟩ = some (.int .i64 qe) := cell_at DX.out.rq.blk
        have c3 : wr.cell? ⟨w.heap.size + 1, 3, none⟩ = some (.int .i64 qb) := cell_at DX.out.rq.blk
        go_wp2_with fail
        go_region
        go_wp2_with fail
        exact fin_errD _ DX.out.g DX.out.bel rfl rfl rfl (fun w' hw => ⟨hw, .inl (by rw [HGE.out]; exact ⟨her, rfl⟩)⟩)
end Go.Proofs.YtbdjghokedfkfaaDoor

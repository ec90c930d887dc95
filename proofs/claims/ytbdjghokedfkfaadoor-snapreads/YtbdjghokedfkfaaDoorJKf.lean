/-
  What the document's reader lays: lists, pages and frames of its own.
-/
import Derived.Test.YtbdjghokedfkfaaDoorKe
import Derived.Test.YtbdjghokedfkfaaDoorRj
namespace Go.Proofs.YtbdjghokedfkfaaDoor
open Go.RowKit
set_option linter.unusedVariables false
set_option maxRecDepth 100000

theorem own_apart {w : World} {base base' e e' k k' n n' : Nat} {v v' : Value} {xs xs' : List Value} (h : w.ownsRow base e k v n xs) (h' : w.ownsRow base' e' k' v' n' xs') (he : e ≠ e') : ∀ b, v.ownBlock = some b → ¬ some b = v'.ownBlock := fun b hb hb' => by
  obtain ⟨_, _, c1, h1⟩ := own_ty h hb
  obtain ⟨_, _, c2, h2⟩ := own_ty h' hb'.symm
  rw [h1] at h2
  injection h2 with h2
  injection h2 with _ h2
  exact he h2
theorem own_si {w : World} {base e : Nat} {k : IntKind} {a : Option Addr} {n c : Nat} {l : List Int} (h : w.ownsRow base e 1 (.slice a n c) l.length (l.map (Value.int k))) : SI k w a n l := by
  obtain ⟨a', c', e'⟩ := own_sl h
  obtain ⟨rfl, rfl, rfl⟩ := Value.slice.inj e'
  refine ⟨rfl, ?_⟩
  rcases h.2 with ⟨_, h1⟩ | ⟨g, cp, cur, h1, _⟩
  · exact .inl h1
  · obtain ⟨rfl, _, rfl⟩ := Value.slice.inj h1
    refine .inr ⟨g, 0, rfl, fun j x hj => ?_⟩
    have := World.ownsRow.cellAt h j (by have := lt_of_get hj; omega)
    rw [Nat.zero_add, this]
    simp [hj]
theorem PgO.kept2 {S : Nat → Prop} {base : Nat} {w w' : World} {v : Value} {bl : List Nat} {ps : List (List Int)} (h : PgO base w v bl ps) (hk : Kept S w w') (h1 : ∀ b, v.ownBlock = some b → ¬ S b) (h2 : ∀ b ∈ bl, ¬ S b) : PgO base w' v bl ps := by
  refine ⟨own_keepB h.own hk h1, h.len, fun j b l hb hl => ?_, fun b hb => ⟨(h.lo b hb).1, Nat.lt_of_lt_of_le (h.lo b hb).2 hk.size⟩, h.asc⟩
  have hm := List.mem_of_getElem? hb
  exact (hk.block b (h.lo b hm).2 (h2 b hm)).trans (h.el j b l hb hl)
theorem PgO.low {base base' : Nat} {w : World} {v : Value} {bl : List Nat} {ps : List (List Int)} (h : PgO base w v bl ps) (hb : base' ≤ base) : PgO base' w v bl ps := ⟨own_low h.own hb, h.len, h.el, fun b hm => ⟨Nat.le_trans hb (h.lo b hm).1, (h.lo b hm).2⟩, h.asc⟩
/-- A frame's two lists. -/
structure FrO (base : Nat) (w : World) (y : FrM) : Prop where
  l : w.ownsRow base 63 1 (.slice y.2.2.1.1.1 y.2.2.1.1.2.1 y.2.2.1.1.2.2) y.2.2.1.2.length (y.2.2.1.2.map (Value.int .u64))
  s : w.ownsRow base 63 1 (.slice y.2.2.2.1.1 y.2.2.2.1.2.1 y.2.2.2.1.2.2) y.2.2.2.2.length (y.2.2.2.2.map (Value.int .u64))
/-- All that was read, the row of frames apart. -/
structure StF (base : Nat) (w : World) (v5 v6 v7 : Value) (bl : List Nat) (ys : List FrM) (rs gs : List Int) (ps : List (List Int)) : Prop where
  rs : w.ownsRow base 63 1 v5 rs.length (rs.map (Value.int .u64))
  gs : w.ownsRow base 63 1 v6 gs.length (gs.map (Value.int .u64))
  ps : PgO base w v7 bl ps
  fs : ∀ y ∈ ys, FrO base w y
theorem own_in {w : World} {base e k n : Nat} {v : Value} {xs : List Value} {S : Nat → Prop} (h : w.ownsRow base e k v n xs) (hs : ∀ b, base ≤ b → b < w.heap.size → ¬ S b) : ∀ b, v.ownBlock = some b → ¬ S b := fun b hb => hs b (own_ty h hb).1 (own_ty h hb).2.1
theorem StF.keep {S : Nat → Prop} {base : Nat} {w w' : World} {v5 v6 v7 : Value} {bl : List Nat} {ys : List FrM} {rs gs : List Int} {ps : List (List Int)} (h : StF base w v5 v6 v7 bl ys rs gs ps) (hk : Kept S w w') (hs : ∀ b, base ≤ b → b < w.heap.size → ¬ S b) : StF base w' v5 v6 v7 bl ys rs gs ps :=
  ⟨own_keepB h.rs hk (own_in h.rs hs), own_keepB h.gs hk (own_in h.gs hs), h.ps.kept hk hs, fun y hy => ⟨own_keepB (h.fs y hy).l hk (own_in (h.fs y hy).l hs), own_keepB (h.fs y hy).s hk (own_in (h.fs y hy).s hs)⟩⟩
/-- A frame is appended to the row of frames: the rest stays. -/
theorem StF.grown {base : Nat} {w w' : World} {v5 v6 v7 v8 : Value} {bl : List Nat} {ys : List FrM} {rs gs : List Int} {ps : List (List Int)} {n : Nat} {xs : List Value} (h : StF base w v5 v6 v7 bl ys rs gs ps) (hf : w.ownsRow base 66 4 v8 n xs) (hg : w.grownBy w' v8.ownBlock) : StF base w' v5 v6 v7 bl ys rs gs ps := by
  have hk := Kept.of_grown hg
  refine ⟨own_keepB h.rs hk (own_apart h.rs hf (by decide)), own_keepB h.gs hk (own_apart h.gs hf (by decide)), h.ps.kept2 hk (own_apart h.ps.own hf (by decide)) (fun b hb hv => ?_), fun y hy => ⟨own_keepB (h.fs y hy).l hk (own_apart (h.fs y hy).l hf (by decide)), own_keepB (h.fs y hy).s hk (own_apart (h.fs y hy).s hf (by decide))⟩⟩
  obtain ⟨_, _, c2, h2⟩ := own_ty hf hv.symm
  obtain ⟨j, hj⟩ := List.getElem?_of_mem hb
  have hjl := lt_of_get hj
  obtain ⟨l, hl⟩ : ∃ l, ps[j]? = some l := ⟨_, List.getElem?_eq_getElem (by have := h.ps.len; omega)⟩
  have h1 := h.ps.el j b l hj hl
  rw [h1] at h2
  injection h2 with h2
  injection h2 with _ h2
  exact absurd h2 (by decide)
theorem StF.snoc {base : Nat} {w : World} {v5 v6 v7 : Value} {bl : List Nat} {ys : List FrM} {y : FrM} {rs gs : List Int} {ps : List (List Int)} (h : StF base w v5 v6 v7 bl ys rs gs ps) (hy : FrO base w y) : StF base w v5 v6 v7 bl (ys ++ [y]) rs gs ps := ⟨h.rs, h.gs, h.ps, fun z hz => by
  rcases List.mem_append.1 hz with hz | hz
  · exact h.fs z hz
  · obtain rfl : z = y := by simpa using hz
    exact hy⟩
/-- What it is as a state in memory. -/
abbrev mkD (a8 : Option Addr) (c8 : Nat) (ys : List FrM) (a6 : Option Addr) (c6 : Nat) (gs : List Int) (a7 : Option Addr) (c7 : Nat) (bl : List Nat) (ps : List (List Int)) (rep en : Int) (a5 : Option Addr) (c5 : Nat) (rs : List Int) (tr us : Int) : StM :=
  ⟨a8, ys.length, c8, ys, a6, gs.length, c6, gs, a7, bl.length, c7, List.zipWith (fun b l => ((some ⟨b, 0, none⟩, 4096, 4096), l)) bl ps, rep, en, a5, rs.length, c5, rs, tr, us⟩
theorem StF.sst {base : Nat} {w : World} {a5 a6 a7 a8 : Option Addr} {c5 c6 c7 c8 : Nat} {bl : List Nat} {ys : List FrM} {rs gs : List Int} {ps : List (List Int)} (h : StF base w (.slice a5 rs.length c5) (.slice a6 gs.length c6) (.slice a7 bl.length c7) bl ys rs gs ps) (hf : w.ownsRow base 66 4 (.slice a8 ys.length c8) ys.length (ys.flatMap frCs)) (hp : ∀ l ∈ ps, l.length = 4096) (rep en tr us : Int) : SSt w (mkD a8 c8 ys a6 c6 gs a7 c7 bl ps rep en a5 c5 rs tr us) := by
  refine ⟨⟨rfl, ?_, fun x hx => ⟨own_si (h.fs x hx).l, own_si (h.fs x hx).s⟩⟩, own_si h.gs, ⟨?_, ?_, fun x hx => ?_⟩, own_si h.rs⟩
  · rcases hf.2 with ⟨_, h1⟩ | ⟨g, cp, cur, h1, _⟩
    · exact .inl h1
    · obtain ⟨rfl, _, rfl⟩ := Value.slice.inj h1
      refine .inr ⟨g, 0, rfl, fun j x hj => ?_⟩
      have hj' : ys[j]? = some x := hj
      have hjl := lt_of_get hj'
      have hc : ∀ q, q < 4 → w.cell? ⟨g, 0 + j * 4 + q, none⟩ = (frCs x)[q]? := fun q hq => by
        rw [Nat.zero_add, World.ownsRow.cellAt hf (j * 4 + q) (by omega), fm_get frCs 4 frCs_len ys j q hq, hj']
        rfl
      exact ⟨hc 0 (by omega), hc 1 (by omega), hc 2 (by omega), hc 3 (by omega)⟩
  · have := h.ps.len
    simp only [List.length_zipWith]
    omega
  · rcases h.ps.own.2 with ⟨_, h1⟩ | ⟨g, cp, cur, h1, _⟩
    · exact .inl h1
    · obtain ⟨rfl, _, rfl⟩ := Value.slice.inj h1
      refine .inr ⟨g, 0, rfl, fun j x hj => ?_⟩
      obtain ⟨b, l, hb, hl, rfl⟩ := zip_get bl ps j x hj
      rw [Nat.zero_add, World.ownsRow.cellAt h.ps.own j (by have := lt_of_get hb; omega), List.getElem?_map, hb]
      rfl
  · obtain ⟨j, hj⟩ := List.getElem?_of_mem hx
    obtain ⟨b, l, hb, hl, rfl⟩ := zip_get bl ps j x hj
    refine ⟨hp l (List.mem_of_getElem? hl), .inr ⟨b, 0, rfl, fun i z hz => ?_⟩⟩
    have hz' : l[i]? = some z := hz
    rw [cell_at (h.ps.el j b l hb hl), Nat.zero_add]
    simp [byV, hz']
end Go.Proofs.YtbdjghokedfkfaaDoor

/-
  The document's Read.
-/
namespace Go.Proofs.YtbdjghokedfkfaaDoor
open Go.RowKit
set_option linter.unusedVariables false
set_option maxRecDepth 100000

/-- What a state in memory is. -/
structure SmP (s : StM) (p : StP) : Prop where
  en : s.en = p.en
  tr : s.tr = p.tr
  us : s.us = p.us
  rep : s.rep = p.rep
  rs : s.rs = p.rs
  gs : s.gs = p.gs
  ps : s.ps.map (·.2) = p.ps
  fs : s.fs.map plF = p.fs
/-- The document's Read's answer. -/
def RdD (zs : List Int) (w : World) : Ending → World → Prop := fun e w' => Below w.heap.size w w' ∧
  ((rdE zs).1 ≠ 0 ∧ e = .returned (.tuple #[.agg zSt, .int .i64 (rdE zs).1, .int .i64 (rdE zs).2]) ∨
   (rdE zs).1 = 0 ∧ ∃ s, e = .returned (.tuple #[.agg (stAr s), .int .i64 0, .int .i64 0]) ∧ SSt w' s ∧ SmP s (stP zs (5, 0)))
theorem take_si {w : World} {b off n c : Nat} {zs : List Int} (h : Seg w (some ⟨b, off, none⟩) n c zs) (hn : 5 ≤ n) : SI .u8 w (some ⟨b, off, none⟩) 5 (zs.take 5) := by
  have hl := h.1
  obtain ⟨b', off', e', hc⟩ := h.2.2.2.2.resolve_left (by omega)
  cases e'
  exact ⟨by rw [List.length_take]; omega, .inr ⟨b, off, rfl, fun j x hj => by
      have hj5 : j < 5 := by have := lt_of_get hj; rw [List.length_take] at this; omega
      rw [List.getElem?_take, if_pos hj5] at hj
      rw [hc j (by omega), List.getD_eq_getElem?_getD, hj]
      rfl⟩⟩
theorem mgc_list : (strOfNums mgc).toList = [70, 83, 78, 80, 1] := by
  rw [ByteArray.toList_eq]
  rfl
set_option maxHeartbeats 8000000 in
theorem rrd17_no (a : Option Addr) (n c : Nat) (zs : List Int) (w : World) (h : Seg w a n c zs) (hE : 524288 < n ∨ pfx zs = false) :
    Calls Tryd.prog 17 #[.slice a n c] w (RdD zs w) := by
  have hl := h.1
  have hnb := h.2.2.1
  have b1 := below_new w (stC nS nS nS 0 0 nS 0 0)
  have kz := nb_new w (stC nS nS nS 0 0 nS 0 0)
  have HB1 := hid b1
  have HKZ := hid kz
  by_cases hlong : 524288 < n
  · have e : rdE zs = (13, 0) := by unfold rdE; rw [if_pos (by omega)]
    have HG := hid (show ∀ w', Below w.heap.size w w' → RdD zs w (.returned (.tuple #[.agg zSt, .int .i64 13, .int .i64 0])) w' from fun w' hw => ⟨hw, .inl (by rw [e]; exact ⟨by decide, rfl⟩)⟩)
    have hlong' : (524288 : Int) < (n : Int) := by omega
    clear h e hl kz b1 hE
    go_enter Tryd.func17, Tryd.ntmps17
    go_wp2_with fail
    exact bodyPost_ret (v := .tuple #[.agg zSt, .int .i64 13, .int .i64 0]) (res_ctt (p := 2) (q := 3) (r := 4) (ty := 27) rfl _ _ w.heap.size zSt rfl (ld_st _ _ _ HKZ.out rfl) _ _ rfl rfl) rfl (HG.out _ HB1.out)
  · have hp := hE.resolve_left hlong
    have hlong' : ¬ (524288 : Int) < (n : Int) := by omega
    have e : rdE zs = (14, 0) := by unfold rdE; rw [if_neg (by omega), if_pos hp]
    have HG := hid (show ∀ w', Below w.heap.size w w' → RdD zs w (.returned (.tuple #[.agg zSt, .int .i64 14, .int .i64 0])) w' from fun w' hw => ⟨hw, .inl (by rw [e]; exact ⟨by decide, rfl⟩)⟩)
    by_cases hn5 : n < 5
    · have hn5' : (n : Int) < 5 := by omega
      clear h e hl kz b1 hE hp
      go_enter Tryd.func17, Tryd.ntmps17
      go_wp2_with fail
      exact bodyPost_ret (v := .tuple #[.agg zSt, .int .i64 14, .int .i64 0]) (res_ctt (p := 2) (q := 3) (r := 4) (ty := 27) rfl _ _ w.heap.size zSt rfl (ld_st _ _ _ HKZ.out rfl) _ _ rfl rfl) rfl (HG.out _ HB1.out)
    · have hn5' : ¬ (n : Int) < 5 := by omega
      have hcp := h.2.1
      obtain ⟨b, off, rfl, _⟩ := h.2.2.2.2.resolve_left (by omega)
      have hcv := convS (some ⟨b, off, none⟩) 5 c (zs.take 5) (w.alloc (stC nS nS nS 0 0 nS 0 0)) (take_si (h.later b1 (Nat.le_refl _)) (by omega))
      have hse : ((strOfNums (zs.take 5)).toList == (strOfNums mgc).toList) = false := by
        rw [str_eq _ _ (fun z hz => h.2.2.2.1 z (List.mem_of_mem_take hz)) (by decide), lE_int]
        exact hp
      generalize strOfNums (zs.take 5) = s1 at *
      rw [mgc_list] at hse
      have hc5 : (5 : Int) ≤ (c : Int) := by omega
      have hc0 : ¬ c = 0 := by omega
      clear h e hl kz b1 hE hp
      go_enter Tryd.func17, Tryd.ntmps17
      go_wp2_with fail
      exact bodyPost_ret (v := .tuple #[.agg zSt, .int .i64 14, .int .i64 0]) (res_ctt (p := 2) (q := 3) (r := 4) (ty := 27) rfl _ _ w.heap.size zSt rfl (ld_st _ _ _ HKZ.out rfl) _ _ rfl rfl) rfl (HG.out _ HB1.out)
end Go.Proofs.YtbdjghokedfkfaaDoor

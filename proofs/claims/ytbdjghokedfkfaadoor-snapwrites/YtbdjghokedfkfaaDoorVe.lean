/-
  A state with marks behind its lists: what it is.
-/
import Derived.Test.YtbdjghokedfkfaaDoorVd
namespace Go.Proofs.YtbdjghokedfkfaaDoor
open Go.RowKit
set_option linter.unusedVariables false
set_option maxRecDepth 100000

abbrev dP : PgM := ((none, 0, 0), [])
def lnP (ps : List PgM) (i : Nat) : Nat := (ps.getD i dP).1.2.1
def gP (ps : List PgM) (i j : Nat) : Int := (ps.getD i dP).2.getD j 0
theorem pseg_of {w : World} {a : Option Addr} {n c : Nat} {ps : List PgM} (h : SPg w a n ps) (hc : n ≤ c) (hn : n ≤ 2147483647) (hp : ∀ p ∈ ps, p.1.2.1 ≤ p.1.2.2 ∧ p.1.2.1 ≤ 2147483647) : PSeg w (.slice a n c) n (lnP ps) (gP ps) := by
  refine ⟨a, c, rfl, hc, by omega, ?_⟩
  rcases h.at_ with h0 | ⟨b, off, rfl, hat⟩
  · exact .inl h0
  · refine .inr ⟨b, off, rfl, fun i hi => ?_⟩
    obtain ⟨y, hy⟩ : ∃ y, ps[i]? = some y := ⟨_, List.getElem?_eq_getElem (by have := h.len; omega)⟩
    have hm := List.mem_of_getElem? hy
    have e1 : ps.getD i dP = y := by rw [List.getD_eq_getElem?_getD, hy]; rfl
    refine ⟨_, hat i y hy, y.1.1, y.1.2.2, ?_, ?_, ?_, ?_⟩
    · unfold lnP; rw [e1]
    · unfold lnP; rw [e1]; exact (hp y hm).1
    · unfold lnP; rw [e1]; have := (hp y hm).2; omega
    · unfold lnP gP
      rw [e1]
      have hs := h.in_ y hm
      rcases hs.2 with h0 | ⟨b', o', e, hcl⟩
      · exact .inl h0
      · refine .inr ⟨b', o', e, fun j hj => ?_⟩
        obtain ⟨z, hz⟩ : ∃ z, y.2[j]? = some z := ⟨_, List.getElem?_eq_getElem (by have := hs.1; omega)⟩
        have := hcl j z hz
        rw [this, List.getD_eq_getElem?_getD, hz]
        rfl
/-- The pages with marks behind them. -/
def pgW (ps : List PgM) (QF : Nat → Nat) : List PgM := (List.range ps.length).map (fun i => (((some ⟨QF i, 0, none⟩, lnP ps i, lnP ps i + 64), (ps.getD i dP).2) : PgM))
theorem pgW_get {ps : List PgM} {QF : Nat → Nat} {i : Nat} {y : PgM} (h : ps[i]? = some y) : (pgW ps QF)[i]? = some ((some ⟨QF i, 0, none⟩, y.1.2.1, y.1.2.1 + 64), y.2) := by
  have hi := lt_of_get h
  unfold pgW lnP
  rw [List.getElem?_map, List.getElem?_range hi]
  simp [List.getD_eq_getElem?_getD, h]
theorem pgW_len (ps : List PgM) (QF : Nat → Nat) : (pgW ps QF).length = ps.length := by simp [pgW]
theorem pgW_snd (ps : List PgM) (QF : Nat → Nat) : (pgW ps QF).map (fun p => p.2) = ps.map (fun p => p.2) := by
  apply List.ext_getElem?
  intro i
  rw [List.getElem?_map, List.getElem?_map]
  cases h : ps[i]? with
  | none => rw [List.getElem?_eq_none (by rw [pgW_len]; exact List.getElem?_eq_none_iff.1 h)]
  | some y => rw [pgW_get h]; rfl
theorem pgW_mem {ps : List PgM} {QF : Nat → Nat} {p : PgM} (h : p ∈ pgW ps QF) : ∃ i y, ps[i]? = some y ∧ p = ((some ⟨QF i, 0, none⟩, y.1.2.1, y.1.2.1 + 64), y.2) := by
  obtain ⟨i, hi⟩ := List.getElem?_of_mem h
  have hl := lt_of_get hi
  rw [pgW_len] at hl
  have hy := List.getElem?_eq_getElem hl
  rw [pgW_get hy] at hi
  exact ⟨i, _, hy, (Option.some.inj hi).symm⟩
theorem row_si {w : World} {B n m : Nat} {l : List Int} {g : Nat → Int} (h : Row w 5 B m m (bytesL (wdB n g) m)) (hl : l.length = n) (hm : n ≤ m) (hg : ∀ (j : Nat) z, l[j]? = some z → g j = z) : SI .u8 w (some ⟨B, 0, none⟩) n l :=
  ⟨hl, .inr ⟨B, 0, rfl, fun j x hj => by
    have hjn := lt_of_get hj
    rw [Nat.zero_add, h.cell j (by omega), bytesL_get _ _ _ (by omega)]
    unfold wdB
    rw [if_pos (by omega), hg j x hj]⟩⟩
theorem wp_spg {w : World} {L n : Nat} {ps : List PgM} {QF CF : Nat → Nat} (h : Wp w L n (lnP ps) (gP ps) (n + 64) QF CF) (hl : ps.length = n) (hp : ∀ p ∈ ps, p.2.length = p.1.2.1) : SPg w (some ⟨L, 0, none⟩) n (pgW ps QF) := by
  refine ⟨by rw [pgW_len]; exact hl, .inr ⟨L, 0, rfl, fun j x hj => ?_⟩, fun x hx => ?_⟩
  · have hjl := lt_of_get hj
    rw [pgW_len] at hjl
    have hy := List.getElem?_eq_getElem hjl
    rw [pgW_get hy] at hj
    have hx := Option.some.inj hj
    rw [← hx, Nat.zero_add, h.U (by omega)]
    unfold wpU lnP
    rw [if_pos (by omega), if_pos (by omega), List.getD_eq_getElem?_getD, hy]
    rfl
  · obtain ⟨i, y, hy, rfl⟩ := pgW_mem hx
    have hi := lt_of_get hy
    have hm := List.mem_of_getElem? hy
    have e1 : ps.getD i dP = y := by rw [List.getD_eq_getElem?_getD, hy]; rfl
    have hr := h.pg i (by omega) (by omega)
    have e2 : lnP ps i = y.1.2.1 := by unfold lnP; rw [e1]
    rw [e2] at hr
    exact row_si (n := y.1.2.1) hr (hp y hm) (by omega) (fun j z hz => by unfold gP; rw [e1, List.getD_eq_getElem?_getD, hz]; rfl)
theorem wfs_sfr {base : Nat} {w : World} {B n : Nat} {xs ys : List FrM} (hrow : w.heap[B]? = some (.cells (ys.flatMap frCs).toArray 66)) (h : WFs base w n xs ys) (hy : ys.length = n + 64) (hx : ∀ x ∈ xs, x.2.2.1.2.length = x.2.2.1.1.2.1 ∧ x.2.2.2.2.length = x.2.2.2.1.2.1) : SFr w (some ⟨B, 0, none⟩) n (ys.take n) := by
  refine ⟨by rw [List.length_take]; omega, .inr ⟨B, 0, rfl, fun j x hj => ?_⟩, fun x hxm => ?_⟩
  · rw [List.getElem?_take] at hj
    split at hj
    · rw [Nat.zero_add]; exact fr_cells hrow hj
    · cases hj
  · obtain ⟨j, hj⟩ := List.getElem?_of_mem hxm
    rw [List.getElem?_take] at hj
    split at hj
    · rename_i hjn
      obtain ⟨x', B1, B2, hx', rfl, hw⟩ := h.el j x hj hjn
      have hl := hx x' (List.mem_of_getElem? hx')
      exact ⟨hw.l.si hl.1, hw.s.si hl.2⟩
    · cases hj
theorem wfs_pl {base : Nat} {w : World} {n : Nat} {xs ys : List FrM} (h : WFs base w n xs ys) (hy : ys.length = n + 64) (hx : xs.length = n) : (ys.take n).map plF = xs.map plF := by
  apply List.ext_getElem?
  intro j
  rw [List.getElem?_map, List.getElem?_map]
  by_cases hj : j < n
  · have h1 := List.getElem?_eq_getElem (l := ys) (i := j) (by omega)
    obtain ⟨x, B1, B2, hx', e, _⟩ := h.el j _ h1 hj
    rw [List.getElem?_take, if_pos hj, h1, hx', e]
    rfl
  · rw [List.getElem?_eq_none (by rw [List.length_take]; omega), List.getElem?_eq_none (by omega)]
/-- The state with marks behind its lists. -/
abbrev wdS (x : StM) (BF : Nat) (ys : List FrM) (BG BP : Nat) (QF : Nat → Nat) (BR : Nat) : StM :=
  ⟨some ⟨BF, 0, none⟩, x.fn, x.fn + 64, ys.take x.fn, some ⟨BG, 0, none⟩, x.gn, x.gn + 64, x.gs, some ⟨BP, 0, none⟩, x.pn, x.pn + 64, pgW x.ps QF, x.rep, x.en, some ⟨BR, 0, none⟩, x.rn, x.rn + 64, x.rs, x.tr, x.us⟩
structure WdS (base : Nat) (w : World) (x : StM) (BF : Nat) (ys : List FrM) (BG BP : Nat) (QF CF : Nat → Nat) (BR : Nat) : Prop where
  fl : ys.length = x.fn + 64
  fr : w.heap[BF]? = some (.cells (ys.flatMap frCs).toArray 66)
  fw : WFs base w x.fn x.fs ys
  g : WW w BG x.gn x.gs
  p : Wp w BP x.pn (lnP x.ps) (gP x.ps) (x.pn + 64) QF CF
  r : WW w BR x.rn x.rs
theorem WdS.later {base : Nat} {w w' : World} {x : StM} {BF : Nat} {ys : List FrM} {BG BP : Nat} {QF CF : Nat → Nat} {BR : Nat} (h : WdS base w x BF ys BG BP QF CF BR) (hb : Below w.heap.size w w') : WdS base w' x BF ys BG BP QF CF BR :=
  ⟨h.fl, nb_later hb h.fr, h.fw.later hb, h.g.later hb, h.p.later hb, h.r.later hb⟩
theorem WdS.sst {base : Nat} {w w0 : World} {x : StM} {BF : Nat} {ys : List FrM} {BG BP : Nat} {QF CF : Nat → Nat} {BR : Nat} (h : WdS base w x BF ys BG BP QF CF BR) (hx : SSt w0 x) : SSt w (wdS x BF ys BG BP QF BR) :=
  ⟨wfs_sfr h.fr h.fw h.fl (fun f hf => ⟨(hx.fr.in_ f hf).1.1, (hx.fr.in_ f hf).2.1⟩), h.g.si hx.gl.1, wp_spg h.p hx.pg.len (fun p hp => (hx.pg.in_ p hp).1), h.r.si hx.rs.1⟩
theorem WdS.pl {base : Nat} {w w0 : World} {x : StM} {BF : Nat} {ys : List FrM} {BG BP : Nat} {QF CF : Nat → Nat} {BR : Nat} (h : WdS base w x BF ys BG BP QF CF BR) (hx : SSt w0 x) : plS (wdS x BF ys BG BP QF BR) = plS x := by
  show (⟨x.en, x.tr, x.us, x.rep, x.rs, x.gs, (pgW x.ps QF).map (fun p => p.2), (ys.take x.fn).map plF⟩ : StP) = ⟨x.en, x.tr, x.us, x.rep, x.rs, x.gs, x.ps.map (fun p => p.2), x.fs.map plF⟩
  rw [pgW_snd, wfs_pl h.fw h.fl hx.fr.len]
theorem WdS.mem {base : Nat} {w : World} {x : StM} {BF : Nat} {ys : List FrM} {BG BP : Nat} {QF CF : Nat → Nat} {BR : Nat} (h : WdS base w x BF ys BG BP QF CF BR) : ∀ f ∈ ys.take x.fn, ∃ f' B1 B2, f' ∈ x.fs ∧ f = wdF f' B1 B2 := fun f hf => by
  obtain ⟨j, hj⟩ := List.getElem?_of_mem hf
  rw [List.getElem?_take] at hj
  split at hj
  · rename_i hjn
    obtain ⟨x', B1, B2, hx', e, _⟩ := h.fw.el j f hj hjn
    exact ⟨x', B1, B2, List.mem_of_getElem? hx', e⟩
  · cases hj
theorem WdS.sb {base : Nat} {w : World} {x : StM} {BF : Nat} {ys : List FrM} {BG BP : Nat} {QF CF : Nat → Nat} {BR : Nat} (h : WdS base w x BF ys BG BP QF CF BR) (hb : SB x) : SB (wdS x BF ys BG BP QF BR) := by
  refine ⟨fun f hf => ?_, fun p hp => ?_, hb.f, hb.g, hb.p, hb.r⟩
  · obtain ⟨f', B1, B2, hm, rfl⟩ := h.mem f hf
    exact hb.fb f' hm
  · obtain ⟨i, y, hy, rfl⟩ := pgW_mem hp
    exact hb.pb y (List.mem_of_getElem? hy)
theorem WdS.sr {base : Nat} {w : World} {x : StM} {BF : Nat} {ys : List FrM} {BG BP : Nat} {QF CF : Nat → Nat} {BR : Nat} (h : WdS base w x BF ys BG BP QF CF BR) (hr : SR x) : SR (wdS x BF ys BG BP QF BR) := by
  refine ⟨hr.en, hr.tr, hr.rs, hr.gs, fun f hf => ?_, fun p hp => ?_⟩
  · obtain ⟨f', B1, B2, hm, rfl⟩ := h.mem f hf
    exact hr.fs f' hm
  · obtain ⟨i, y, hy, rfl⟩ := pgW_mem hp
    show y.1.2.1 ≤ y.1.2.1 + 64
    omega
theorem WdS.rg {base : Nat} {w w0 : World} {x : StM} {BF : Nat} {ys : List FrM} {BG BP : Nat} {QF CF : Nat → Nat} {BR : Nat} (h : WdS base w x BF ys BG BP QF CF BR) (hr : RgS x) : RgS (wdS x BF ys BG BP QF BR) := by
  refine ⟨hr.us, hr.rep, hr.rs, hr.gs, fun f hf => ?_, fun p hp => ?_⟩
  · obtain ⟨f', B1, B2, hm, rfl⟩ := h.mem f hf
    exact hr.fs f' hm
  · obtain ⟨i, y, hy, rfl⟩ := pgW_mem hp
    exact hr.pl y (List.mem_of_getElem? hy)
/-- What is written hangs on what a state holds alone. -/
theorem okS_pl {x y : StM} (hx : RgS x) (hy : RgS y) (e : plS x = plS y) (h : OkS x) : OkS y := by
  simp only [plS, StP.mk.injEq] at e
  obtain ⟨h1, h2, h3, h4, h5, h6, h7, h8⟩ := e
  have lp : x.ps.length = y.ps.length := by have := congrArg List.length h7; simpa using this
  have lf : x.fs.length = y.fs.length := by have := congrArg List.length h8; simpa using this
  refine ⟨h1 ▸ h.en, h2 ▸ h.tr, h3 ▸ h.us, h4 ▸ h.rep, h5 ▸ h.rs, h6 ▸ h.gs, lp ▸ h.ps, fun p hp => ?_, lf ▸ h.fs, fun f hf => ?_⟩
  · have hm : p.2 ∈ y.ps.map (fun p => p.2) := List.mem_map_of_mem hp
    rw [← h7] at hm
    obtain ⟨q, hq, e⟩ := List.mem_map.1 hm
    rw [← hy.pl p hp, ← e, hx.pl q hq]
    exact h.pl q hq
  · have hm : plF f ∈ y.fs.map plF := List.mem_map_of_mem hf
    rw [← h8] at hm
    obtain ⟨q, hq, e⟩ := List.mem_map.1 hm
    have := h.fl q hq
    unfold plF at e
    simp only [Prod.mk.injEq] at e
    obtain ⟨e1, e2, e3, e4⟩ := e
    rw [← e1, ← e2, ← e3, ← e4]
    exact this
theorem wrV_ok {x : StM} (hx : RgS x) : (wrV x).2 = false ↔ OkS x := ⟨fun h => (stW_is h).1, fun h => by rw [wr_of h hx]⟩
theorem wrV_pl {x y : StM} (hx : RgS x) (hy : RgS y) (e : plS x = plS y) : (wrV x).2 = (wrV y).2 ∧ ((wrV x).2 = false → (wrV x).1 = (wrV y).1) := by
  by_cases h : OkS x
  · have h' := okS_pl hx hy e h
    rw [wr_of h hx, wr_of h' hy, encS_pl e]
    exact ⟨rfl, fun _ => rfl⟩
  · have h' : ¬ OkS y := fun g => h (okS_pl hy hx e.symm g)
    have a : (wrV x).2 = true := by rw [← Bool.not_eq_false]; exact fun g => h ((wrV_ok hx).1 g)
    have b : (wrV y).2 = true := by rw [← Bool.not_eq_false]; exact fun g => h' ((wrV_ok hy).1 g)
    exact ⟨a.trans b.symm, fun g => by rw [a] at g; cases g⟩
/-- What is asked is what the writer asks. -/
theorem may_ok {w : World} {x : StM} (hS : SSt w x) (hr : RgS x) : MayS x ↔ OkS x := by
  have lr := hS.rs.1
  have lg := hS.gl.1
  have lp := hS.pg.len
  have lf := hS.fr.len
  constructor
  · intro h
    have u1 : u64 x.us = x.us := u64_id ⟨h.us.1, by have := h.us.2; omega⟩
    have u2 : u64 x.rep = x.rep := u64_id ⟨h.rep, by have := hr.rep.2; omega⟩
    refine ⟨h.en, h.tr, by rw [u1]; exact h.us.2, by rw [u2]; have := hr.rep.2; omega, by rw [lr]; exact h.rs, by rw [lg]; exact h.gs, by rw [lp]; exact h.ps, h.pl, by rw [lf]; exact h.fs, fun f hf => ?_⟩
    obtain ⟨t1, t2, t3, t4, t5, t6⟩ := h.fl f hf
    have hi := hS.fr.in_ f hf
    have g1 : u64 f.1 = f.1 := u64_id ⟨t1, by omega⟩
    have g2 : u64 f.2.1 = f.2.1 := u64_id ⟨t3, by omega⟩
    exact ⟨by rw [g1]; omega, by rw [g2]; omega, by rw [hi.1.1]; exact t5, by rw [hi.2.1]; exact t6⟩
  · intro h
    have u1 := u64_small hr.us (by decide) h.us
    have u2 := u64_small hr.rep (by decide) h.rep
    refine ⟨h.en, h.tr, ⟨u1.2, by rw [← u1.1]; exact h.us⟩, u2.2, by rw [← lr]; exact h.rs, by rw [← lg]; exact h.gs, by rw [← lp]; exact h.ps, by rw [← lf]; exact h.fs, h.pl, fun f hf => ?_⟩
    obtain ⟨t1, t2, t3, t4⟩ := h.fl f hf
    have hi := hS.fr.in_ f hf
    have hg := (hr.fs f hf).2
    have g1 := u64_small hg.1 (by decide) t1
    have g2 := u64_small hg.2 (by decide) t2
    rw [g1.1] at t1
    rw [g2.1] at t2
    exact ⟨g1.2, by omega, g2.2, by omega, by rw [← hi.1.1]; exact t3, by rw [← hi.2.1]; exact t4⟩
end Go.Proofs.YtbdjghokedfkfaaDoor

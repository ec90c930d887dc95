/-
  The walk over BlocksCut: true, whatever the code and the table.
-/
import Derived.Test.YtfcklkmfdjjfoaaDoorWk
import Derived.Test.YtfcklkmfdjjfoaaDoorWideC
import Derived.Test.YtfcklkmfdjjfoaaDoorWt
import Derived.Test.YtfcklkmfdjjfoaaDoorBags2
import Derived.Deep.RegionHeld3
namespace Go.Proofs.YtfcklkmfdjjfoaaDoor
open Go.RowKit
set_option linter.unusedVariables false

/-- The document's own table of a code. -/
def enL (O : Nat → Int) (n : Nat) : List Int := if (res O n 0).1 = 0 then (List.range n).map (enF O n) else []
def elL (O : Nat → Int) (n : Nat) : List Int := if (res O n 0).1 = 0 then (List.range n).map (elF O n) else []
theorem enL_len (O : Nat → Int) (n : Nat) : (enL O n).length ≤ n ∧ (elL O n).length ≤ n := by unfold enL elL; split <;> simp
theorem TbO.li {O : Nat → Int} {n base : Nat} {w : World} {v1 v2 : Value} (h : TbO O n base w v1 v2) : LI w base v1 (enL O n) ∧ LI w base v2 (elL O n) := by
  unfold enL elL
  rcases h with ⟨h0, rfl, rfl⟩ | ⟨hr, y1, y2⟩
  · rw [if_neg h0, if_neg h0]
    exact ⟨LI.nil _ _, LI.nil _ _⟩
  · have h0 : (res O n 0).1 = 0 := by rw [hr]
    rw [if_pos h0, if_pos h0]
    exact ⟨y1, y2⟩
theorem segT_nil (w : World) : SegT w none 0 0 [] := ⟨rfl, Nat.le_refl _, by omega, .inl rfl⟩
theorem segL_nil (w : World) : SegL w none 0 0 [] := ⟨rfl, Nat.le_refl _, by omega, .inl rfl⟩
theorem TbO.tbs {O : Nat → Int} {n base : Nat} {w : World} {a1 a2 : Option Addr} {n1 c1 n2 c2 : Nat} (h : TbO O n base w (.slice a1 n1 c1) (.slice a2 n2 c2)) (hn : n ≤ 1048576) : TbS w none 0 0 a1 n1 c1 a2 n2 c2 none 0 0 [] (enL O n) (elL O n) [] := by
  obtain ⟨l1, l2⟩ := h.li
  have := enL_len O n
  exact ⟨segT_nil w, l1.segL (by omega) l1.cap, l2.segL (by omega) l2.cap, segL_nil w⟩

/-- The bag, and what lies below it. -/
structure BK (w0 wb wr : World) (GB : Nat) (v1 : Value) (r1 : List Lt) (n1 : Nat) (v2 : Value) (r2 : List Lt) (n2 : Nat) : Prop where
  bb : BB w0 wr GB v1 r1 n1 v2 r2 n2
  bel : Below wb.heap.size wb wr
  gb : wb.heap.size ≤ GB
  o1 : ∀ B, v1.ownBlock = some B → wb.heap.size ≤ B
  o2 : ∀ B, v2.ownBlock = some B → wb.heap.size ≤ B
theorem bk_below {wb wr w' : World} {GB : Nat} {v : Value} (hb : Below wb.heap.size wb wr) (hg : wb.heap.size ≤ GB) (ho : ∀ B, v.ownBlock = some B → wb.heap.size ≤ B) (hk : Kept (fun b => b = GB ∨ v.ownBlock = some b) wr w') : Below wb.heap.size wb w' := by
  have h1 := (Kept.of_below hb).then hk (fun k hk' hh => by
    rcases hh with rfl | hh
    · exact hg
    · exact ho k hh)
  exact h1.to_below (Nat.le_refl _) (fun k hk' hh => by have : wb.heap.size ≤ k := hh; omega)
theorem BK.addI {w0 wb wr : World} {GB : Nat} {v1 : Value} {r1 : List Lt} {n1 : Nat} {v2 : Value} {r2 : List Lt} {n2 : Nat} (h : BK w0 wb wr GB v1 r1 n1 v2 r2 n2) (hn : n1 < r1.length) (h300 : n1 < 300) (x : Value) (hx : x = r1[n1].sl) :
    Calls Tryd.prog 32 #[.pointer (some ⟨GB, 0, none⟩), x] wr fun e w' => e = .returned (.tuple #[]) ∧ ∃ v', BK w0 wb w' GB v' r1 (n1 + 1) v2 r2 n2 ∧ Kept (fun b => b = GB ∨ v1.ownBlock = some b) wr w' :=
  (h.bb.addI hn h300 x hx).mono fun e w' ⟨he, v', hB, hk, hv⟩ => ⟨he, v', ⟨hB, bk_below h.bel h.gb h.o1 hk, h.gb, fun B hb => by
    have hs := h.bel.size
    rcases hv with hv | hv
    · exact h.o1 B (by rw [← hv]; exact hb)
    · have := hv B hb; omega, h.o2⟩, hk⟩
theorem BK.addB {w0 wb wr : World} {GB : Nat} {v1 : Value} {r1 : List Lt} {n1 : Nat} {v2 : Value} {r2 : List Lt} {n2 : Nat} (h : BK w0 wb wr GB v1 r1 n1 v2 r2 n2) (hn : n2 < r2.length) (h300 : n2 < 300) (x : Value) (hx : x = r2[n2].sl) :
    Calls Tryd.prog 12 #[.pointer (some ⟨GB, 0, none⟩), x] wr fun e w' => e = .returned (.tuple #[]) ∧ ∃ v', BK w0 wb w' GB v1 r1 n1 v' r2 (n2 + 1) :=
  (h.bb.addB hn h300 x hx).mono fun e w' ⟨he, v', hB, hk, hv⟩ => ⟨he, v', hB, bk_below h.bel h.gb h.o2 hk, h.gb, h.o1, fun B hb => by
    have hs := h.bel.size
    rcases hv with hv | hv
    · exact h.o2 B (by rw [← hv]; exact hb)
    · have := hv B hb; omega⟩
theorem BK.later {w0 wb wr w' : World} {GB : Nat} {v1 : Value} {r1 : List Lt} {n1 : Nat} {v2 : Value} {r2 : List Lt} {n2 : Nat} (h : BK w0 wb wr GB v1 r1 n1 v2 r2 n2) (hb : Below wr.heap.size wr w') : BK w0 wb w' GB v1 r1 n1 v2 r2 n2 :=
  ⟨h.bb.later hb, h.bel.trans (hb.mono h.bel.size), h.gb, h.o1, h.o2⟩

set_option maxRecDepth 100000 in
set_option maxHeartbeats 2000000 in
/-- AddBlocks. -/
theorem BK.addBlk {w0 wb wr : World} {GB : Nat} {v1 : Value} {r1 : List Lt} {n1 : Nat} {v2 : Value} {r2 : List Lt} {n2 : Nat} (h : BK w0 wb wr GB v1 r1 n1 v2 r2 n2) (hn : n1 + 1 < r1.length) (h300 : n1 + 1 < 300) (a1 a2 : Option Addr) (m1 m2 c1 c2 : Nat) (hx : Value.slice a1 m1 c1 = r1[n1].sl) (hy : Value.slice a2 m2 c2 = r1[n1 + 1].sl) :
    Calls Tryd.prog 11 #[.pointer (some ⟨GB, 0, none⟩), .agg #[.slice a1 m1 c1, .slice a2 m2 c2]] wr fun e w' => e = .returned (.tuple #[]) ∧ ∃ v', BK w0 wb w' GB v' r1 (n1 + 1 + 1) v2 r2 n2 := by
  obtain ⟨o1, ho1⟩ : ∃ o, o = Obj.cells #[Value.slice a1 m1 c1, .slice a2 m2 c2] 33 := ⟨_, rfl⟩
  have hb : Below wr.heap.size wr (wr.alloc o1) := (Below.refl _ wr).alloc (Nat.le_refl _) o1
  have x0 : (wr.alloc o1).cell? ⟨wr.heap.size, 0, none⟩ = some (.slice a1 m1 c1) := by rw [ho1, World.cell?_alloc_new]; rfl
  have x1 : (wr.alloc o1).cell? ⟨wr.heap.size, 1, none⟩ = some (.slice a2 m2 c2) := by rw [ho1, World.cell?_alloc_new]; rfl
  have hB := h.later hb
  have H1 := hid (hB.addI (by omega) (by omega) (.slice a1 m1 c1) hx)
  have n1' : ¬ wr.heap.size = GB := by have := block_lt_of_cell h.bb.i.cell; simp only at this; omega
  have n2' : ¬ v1.ownBlock = some wr.heap.size := fun e => by have := (own_lt h.bb.i.own e).1; omega
  have HY := hid hy
  clear h hb hB hx hy
  go_enter Tryd.func11, Tryd.ntmps11
  go_wp2_with fail
  rw [← ho1]
  clear ho1
  generalize hZ : wr.heap.size = Z at *
  generalize wr.alloc o1 = W0 at *
  refine H1.out.mono ?_
  rintro e w1 ⟨rfl, v', hB1, hk⟩
  have y1 := hk.cell x1 (fun e => by
    rcases e with e | e
    · exact n1' e
    · exact n2' e)
  have H2 := hid (hB1.addI (by omega) (by omega) (.slice a2 m2 c2) HY.out)
  clear hB1 hk
  go_wp2_with fail
  refine H2.out.mono ?_
  rintro e w2 ⟨rfl, v'', hB2, _⟩
  have HB2 := hid hB2
  clear hB2
  go_wp2_with fail
  go_end0
  exact ⟨rfl, v'', HB2.out⟩

theorem eqb_yes (a1 a2 : Option Addr) (n1 n2 c1 c2 : Nat) (l : List Bool) (w : World) (h1 : SegB w a1 n1 l) (h2 : SegB w a2 n2 l) :
    Calls Tryd.prog 15 #[.slice a1 n1 c1, .slice a2 n2 c2] w fun e w' => e = .returned (.bool true) ∧ Below w.heap.size w w' :=
  (eqb a1 a2 n1 n2 c1 c2 l l w h1 h2).mono fun e w' ⟨he, hk⟩ => ⟨by rw [he, decide_eq_true rfl], hk.to_below (Nat.le_refl _) (fun _ _ x => x)⟩

theorem below_step {w9 W W' : World} (h : Below w9.heap.size w9 W) (hb : Below W.heap.size W W') : Below w9.heap.size w9 W' := h.trans (hb.mono h.size)

set_option maxRecDepth 100000 in
set_option maxHeartbeats 16000000 in
theorem cut_all (TB : Nat) (a : Option Addr) (n cap : Nat) (xs : List Inx) (sa : Option Addr) (sn sc : Nat) (ea : Option Addr) (en ec : Nat) (la : Option Addr) (ln lc : Nat) (fa : Option Addr) (fn fc : Nat) (hi : Int) (S : List ByteArray) (E1 E2 E3 : List Int) (w : World) (hn : n ≤ 140737488355328) (hcap : n ≤ cap) (hc : CodS w a n xs)
    (ht : TbS w sa sn sc ea en ec la ln lc fa fn fc S E1 E2 E3) (htn : TbN sn en ln fn) (hT : Tens TB w) (hTB : TB ≤ w.heap.size) :
    Calls Tryd.prog 3 #[.slice a n cap, tabV sa sn sc ea en ec la ln lc fa fn fc hi] w fun e w' => e = .returned (.bool true) ∧ Below w.heap.size w w' := by
  obtain ⟨ot, hot⟩ : ∃ o, o = Obj.cells #[Value.slice sa sn sc, .slice ea en ec, .slice la ln lc, .slice fa fn fc, .int .i64 hi] 26 := ⟨_, rfl⟩
  have hb0 : Below w.heap.size w (w.alloc ot) := (Below.refl _ w).alloc (Nat.le_refl _) ot
  have tx : ∀ i, (w.alloc ot).cell? ⟨w.heap.size, i, none⟩ = (#[Value.slice sa sn sc, .slice ea en ec, .slice la ln lc, .slice fa fn fc, .int .i64 hi] : Array Value)[i]? := fun i => by rw [hot, World.cell?_alloc_new]
  have z0 : (w.alloc ot).heap.size = w.heap.size + 1 := by simp
  have H1 := hid (works (w.alloc ot))
  have HC := hid hc
  have HTS := hid ht
  have HTN := hid htn
  have HTT := hid hT
  have HTX := hid tx
  have HB0 := hid hb0
  clear hc ht hT tx hb0 htn
  go_enter Tryd.func3, Tryd.ntmps3
  go_wp2_with fail
  rw [← hot]
  clear hot
  generalize w.alloc ot = W0 at *
  refine H1.out.mono ?_
  rintro e w1 ⟨rfl, hb1⟩
  have hb1' := HB0.out.trans (hb1.mono (by omega))
  have H2 := hid (sizeC a n cap xs w1 hn hcap (HC.out.later hb1' (Nat.le_refl _)))
  have hs1 := hb1.size
  have HW1 := hid hb1
  have HB1 := hid hb1'
  clear hb1 hb1'
  go_wp2_with fail
  refine H2.out.mono ?_
  rintro e w2 ⟨s, rfl, hsz, hk2⟩
  have hb2 := below_kept HB1.out hk2 HB1.out.size (fun _ x => x.elim)
  have hs2 := hk2.size
  have hw2 := below_kept HW1.out hk2 hs1 (fun _ x => x.elim)
  have HW2 := hid hw2
  have HB2 := hid hb2
  by_cases hbig : 3000 < s
  · have hbig' : (3000 : Int) < (s : Int) := by omega
    clear hb2 hsz hk2 hw2
    go_wp2_with fail
    go_ret
    exact ⟨rfl, HB2.out⟩
  have hbig' : ¬ (3000 : Int) < (s : Int) := by omega
  have hsz := hsz (by omega)
  have hlen := HC.out.1
  have hn3 : n ≤ 3000 := by have := szF_len xs n; omega
  have hln : ∀ j, j < n → (xs.getD j dx).ln ≤ 3000 := fun j hj => by have := szF_ln xs hj; omega
  have hln2 : ∀ j, j < n → (xs.getD j dx).ln ≤ 100000 := fun j hj => by have := hln j hj; omega
  have hcs2 := HC.out.later hb2 (Nat.le_refl _)
  have hll : ∀ j, j < n → (xs.getD j dx).l.length = (xs.getD j dx).ln := fun j hj => by
    rcases hcs2.2 with h | ⟨b, off, _, hcd⟩
    · omega
    · exact ((hcd.2 j hj).2.2.2.2.2.2.2.2 (hln2 j hj)).1
  have H3 := hid (wideCode a n cap xs w2 (by omega) hcs2 hln2)
  have HLN := hid hln2
  have HLL := hid hll
  have HCS := hid hcs2
  clear hb2 hsz hk2 hln hln2 hll hcs2 H1 H2 hw2
  go_wp2_with fail
  refine H3.out.mono ?_
  rintro e w3 ⟨rfl, Bs, hws⟩
  have hrow : ∀ j, j < n → WRow w3 w2.heap.size j (xs.getD j dx) (Bs j) := fun j hj => hws.row j (by omega) hj
  have hmk : ∀ j, n ≤ j → j < n + 64 → WMk w3 w2.heap.size j := fun j h1 h2 => hws.mks j h2 h1
  have hb3 := hws.bel
  have hs3 := hb3.size
  have hkc : CodS w3 (some ⟨w2.heap.size, 0, none⟩) n (kx n xs Bs) := ⟨by simp [kx], by
    by_cases h0 : n = 0
    · exact .inl h0
    · exact .inr ⟨_, _, rfl, WSc.cod (w := w3) hrow HCS.out HLN.out⟩⟩
  have HROW := hid hrow
  have HMK := hid hmk
  have HKC := hid hkc
  have HB3 := hid (HB2.out.trans (hb3.mono HB2.out.size))
  have HW3 := hid (HW2.out.trans (hb3.mono HW2.out.size))
  have HCS3 := hid (HCS.out.later hb3 (Nat.le_refl _))
  have HOP := hid (kx_op (n := n) (xs := xs) (Bs := Bs) hlen)
  have H4 := hid (tableC a n cap xs w3 (by omega) hcap HCS3.out)
  clear hrow hmk hb3 hws hkc H3
  go_wp2_with fail
  refine H4.out.mono ?_
  rintro e w4 ⟨o1, on1, oc1, o2, on2, oc2, rfl, hTB4, hb4⟩
  have hs4 := hb4.size
  obtain ⟨o7, ho7⟩ : ∃ o, o = Obj.cells #[Value.slice none 0 0, .slice o1 on1 oc1, .slice o2 on2 oc2, .slice none 0 0, .int .i64 0] 26 := ⟨_, rfl⟩
  have hb5 : Below w3.heap.size w3 (w4.alloc o7) := hb4.alloc hb4.size o7
  have z5 : (w4.alloc o7).heap.size = w4.heap.size + 1 := by simp
  have q7 : ∀ i, (w4.alloc o7).cell? ⟨w4.heap.size, i, none⟩ = (#[Value.slice none 0 0, .slice o1 on1 oc1, .slice o2 on2 oc2, .slice none 0 0, .int .i64 0] : Array Value)[i]? := fun i => by rw [ho7, World.cell?_alloc_new]
  have HQ7 := hid q7
  have HOWN := hid ((hTB4.tbs (by omega)).later ((Below.refl _ w4).alloc (Nat.le_refl _) o7) (Nat.le_refl _))
  have HB5 := hid (HB3.out.trans (hb5.mono HB3.out.size))
  have HW5 := hid (HW3.out.trans (hb5.mono HW3.out.size))
  have H35 := hid hb5
  have t0 := (HW5.out.cell (p := ⟨w.heap.size, 0, none⟩) (by show w.heap.size < _; omega)).trans (HTX.out 0)
  have t1 := (HW5.out.cell (p := ⟨w.heap.size, 1, none⟩) (by show w.heap.size < _; omega)).trans (HTX.out 1)
  have t2 := (HW5.out.cell (p := ⟨w.heap.size, 2, none⟩) (by show w.heap.size < _; omega)).trans (HTX.out 2)
  have t3 := (HW5.out.cell (p := ⟨w.heap.size, 3, none⟩) (by show w.heap.size < _; omega)).trans (HTX.out 3)
  have t4 := (HW5.out.cell (p := ⟨w.heap.size, 4, none⟩) (by show w.heap.size < _; omega)).trans (HTX.out 4)
  simp only [List.getElem?_toArray, List.getElem?_cons_zero, List.getElem?_cons_succ] at t0 t1 t2 t3 t4
  have H5 := hid (wideTab TB sa sn sc ea en ec la ln lc fa fn fc hi S E1 E2 E3 (w4.alloc o7) (HTS.out.later HB5.out (Nat.le_refl _)) HTN.out (HTT.out.later (HB5.out.mono hTB)) (by have := HB5.out.size; omega))
  clear hTB4 hb4 hb5 q7 H4
  subst ho7
  go_wp2_with fail
  generalize w4.alloc (Obj.cells #[Value.slice none 0 0, .slice o1 on1 oc1, .slice o2 on2 oc2, .slice none 0 0, .int .i64 0] 26) = w5 at *
  refine H5.out.mono ?_
  rintro e w6 ⟨B0, B1, B2, B3, rfl, hwd, hb6⟩
  have hs6 := hb6.size
  obtain ⟨o8, ho8⟩ : ∃ o, o = Obj.cells #[Value.slice (some ⟨B0, 0, none⟩) sn (sn + 64), .slice (some ⟨B1, 0, none⟩) en (en + 64), .slice (some ⟨B2, 0, none⟩) ln (ln + 64), .slice (some ⟨B3, 0, none⟩) fn (fn + 64), .int .i64 hi] 26 := ⟨_, rfl⟩
  have hb7 : Below w5.heap.size w5 (w6.alloc o8) := hb6.alloc hb6.size o8
  have z7 : (w6.alloc o8).heap.size = w6.heap.size + 1 := by simp
  have q8 : ∀ i, (w6.alloc o8).cell? ⟨w6.heap.size, i, none⟩ = (#[Value.slice (some ⟨B0, 0, none⟩) sn (sn + 64), .slice (some ⟨B1, 0, none⟩) en (en + 64), .slice (some ⟨B2, 0, none⟩) ln (ln + 64), .slice (some ⟨B3, 0, none⟩) fn (fn + 64), .int .i64 hi] : Array Value)[i]? := fun i => by rw [ho8, World.cell?_alloc_new]
  have HQ8 := hid q8
  have HWD := hid (hwd.later ((Below.refl _ w6).alloc (Nat.le_refl _) o8) (Nat.le_refl _))
  have HB7 := hid (HB5.out.trans (hb7.mono HB5.out.size))
  have HW7 := hid (HW5.out.trans (hb7.mono HW5.out.size))
  have H37 := hid (H35.out.trans (hb7.mono H35.out.size))
  have HQ7' := hid (show ∀ i, (w6.alloc o8).cell? ⟨w4.heap.size, i, none⟩ = (#[Value.slice none 0 0, .slice o1 on1 oc1, .slice o2 on2 oc2, .slice none 0 0, .int .i64 0] : Array Value)[i]? from fun i => (hb7.cell (p := ⟨w4.heap.size, i, none⟩) (by show w4.heap.size < _; omega)).trans (HQ7.out i))
  have HOWN' := hid (HOWN.out.later hb7 (Nat.le_refl _))
  have u0 := HQ7'.out 0
  have u1 := HQ7'.out 1
  have u2 := HQ7'.out 2
  have u3 := HQ7'.out 3
  have u4 := HQ7'.out 4
  simp only [List.getElem?_toArray, List.getElem?_cons_zero, List.getElem?_cons_succ] at u0 u1 u2 u3 u4
  have HKC7 := hid (HKC.out.later H37.out (Nat.le_refl _))
  have H6 := hid (ofC (some ⟨w2.heap.size, 0, none⟩) n (n + 64) (kx n xs Bs) none 0 0 o1 on1 oc1 o2 on2 oc2 none 0 0 0 _ _ (w6.alloc o8) (by omega) (by omega) HKC7.out HOWN'.out.e HOWN'.out.l)
  rw [HOP.out] at H6
  clear hwd hb6 hb7 q8 H5 HQ7 HOWN t0 t1 t2 t3 t4
  subst ho8
  go_wp2_with fail
  generalize w6.alloc (Obj.cells #[Value.slice (some ⟨B0, 0, none⟩) sn (sn + 64), .slice (some ⟨B1, 0, none⟩) en (en + 64), .slice (some ⟨B2, 0, none⟩) ln (ln + 64), .slice (some ⟨B3, 0, none⟩) fn (fn + 64), .int .i64 hi] 26) = w7 at *
  refine H6.out.mono ?_
  rintro e w8 ⟨a1, a2, m, rfl, hO1, hb8⟩
  have hs8 := hb8.size
  obtain ⟨o9, ho9⟩ : ∃ o, o = Obj.cells #[Value.slice a1 m m, .slice a2 m m] 33 := ⟨_, rfl⟩
  have hal9 := (Below.refl w8.heap.size w8).alloc (Nat.le_refl _) o9
  have hb9 : Below w7.heap.size w7 (w8.alloc o9) := hb8.alloc hb8.size o9
  have z9 : (w8.alloc o9).heap.size = w8.heap.size + 1 := by simp
  have p0 : (w8.alloc o9).cell? ⟨w8.heap.size, 0, none⟩ = some (.slice a1 m m) := by rw [ho9, World.cell?_alloc_new]; rfl
  have p1 : (w8.alloc o9).cell? ⟨w8.heap.size, 1, none⟩ = some (.slice a2 m m) := by rw [ho9, World.cell?_alloc_new]; rfl
  obtain ⟨l1, l2, ap12⟩ := hO1.li
  have HL1 := hid (l1.later hal9 (Nat.le_refl _))
  have HL2 := hid (l2.later hal9 (Nat.le_refl _))
  have HAP12 := hid ap12
  have H79 := hid hb9
  have HP0 := hid p0
  have HP1 := hid p1
  have v0 := (hb9.cell (p := ⟨w6.heap.size, 0, none⟩) (by show w6.heap.size < _; omega)).trans (HQ8.out 0)
  have v1 := (hb9.cell (p := ⟨w6.heap.size, 1, none⟩) (by show w6.heap.size < _; omega)).trans (HQ8.out 1)
  have v2 := (hb9.cell (p := ⟨w6.heap.size, 2, none⟩) (by show w6.heap.size < _; omega)).trans (HQ8.out 2)
  have v3 := (hb9.cell (p := ⟨w6.heap.size, 3, none⟩) (by show w6.heap.size < _; omega)).trans (HQ8.out 3)
  have v4 := (hb9.cell (p := ⟨w6.heap.size, 4, none⟩) (by show w6.heap.size < _; omega)).trans (HQ8.out 4)
  simp only [List.getElem?_toArray, List.getElem?_cons_zero, List.getElem?_cons_succ] at v0 v1 v2 v3 v4
  have hseg := HWD.out.tbs HTS.out.s.1 HTS.out.e.1 HTS.out.l.1 HTS.out.f.1 HTN.out
  have hseg9 := hseg.later hb9 (Nat.le_refl _)
  have H7 := hid (ofC (some ⟨w2.heap.size, 0, none⟩) n (n + 64) (kx n xs Bs) (some ⟨B0, 0, none⟩) sn (sn + 64) (some ⟨B1, 0, none⟩) en (en + 64) (some ⟨B2, 0, none⟩) ln (ln + 64) (some ⟨B3, 0, none⟩) fn (fn + 64) hi _ _ (w8.alloc o9) (by omega) (by omega) (HKC7.out.later hb9 (Nat.le_refl _)) hseg9.e hseg9.l)
  rw [HOP.out] at H7
  clear hO1 hb8 hb9 l1 l2 ap12 p0 p1 hseg hseg9 H6 hal9 u0 u1 u2 u3 u4
  subst ho9
  go_wp2_with fail
  generalize w8.alloc (Obj.cells #[Value.slice a1 m m, .slice a2 m m] 33) = w9 at *
  refine H7.out.mono ?_
  rintro e w10 ⟨b1, b2, m2, rfl, hO2, hb10⟩
  have hs10 := hb10.size
  obtain ⟨o10, ho10⟩ : ∃ o, o = Obj.cells #[Value.slice b1 m2 m2, .slice b2 m2 m2] 33 := ⟨_, rfl⟩
  have hal := (Below.refl w10.heap.size w10).alloc (Nat.le_refl _) o10
  have hb11 : Below w9.heap.size w9 (w10.alloc o10) := hb10.alloc hb10.size o10
  have z11 : (w10.alloc o10).heap.size = w10.heap.size + 1 := by simp
  have p0 : (w10.alloc o10).cell? ⟨w10.heap.size, 0, none⟩ = some (.slice b1 m2 m2) := by rw [ho10, World.cell?_alloc_new]; rfl
  have p1 : (w10.alloc o10).cell? ⟨w10.heap.size, 1, none⟩ = some (.slice b2 m2 m2) := by rw [ho10, World.cell?_alloc_new]; rfl
  obtain ⟨l3, l4, ap34⟩ := hO2.li
  have HL3 := hid (l3.later hal (Nat.le_refl _))
  have HL4 := hid (l4.later hal (Nat.le_refl _))
  have HAP34 := hid ap34
  have HR0 := hid p0
  have HR1 := hid p1
  have H9b := hid hb11
  have H711 := hid (H79.out.trans (hb11.mono H79.out.size))
  have H8 := hid (leadsC (some ⟨w2.heap.size, 0, none⟩) n (n + 64) (kx n xs Bs) (w10.alloc o10) (by omega) (by omega) (HKC7.out.later H711.out (Nat.le_refl _)))
  rw [HOP.out] at H8
  clear hO2 hb10 hb11 l3 l4 ap34 p0 p1 hal H7 v0 v1 v2 v3 v4
  subst ho10
  go_wp2_with fail
  generalize w10.alloc (Obj.cells #[Value.slice b1 m2 m2, .slice b2 m2 m2] 33) = w11 at *
  refine H8.out.mono ?_
  rintro e w12 ⟨c1, k1, rfl, hD1, hb12⟩
  have hs12 := hb12.size
  have H712 := hid (H711.out.trans (hb12.mono H711.out.size))
  have H9 := hid (leadsC (some ⟨w2.heap.size, 0, none⟩) n (n + 64) (kx n xs Bs) w12 (by omega) (by omega) (HKC7.out.later H712.out (Nat.le_refl _)))
  rw [HOP.out] at H9
  have HD1 := hid hD1.lb
  have H1112 := hid hb12
  clear hD1 hb12 H8
  go_wp2_with fail
  refine H9.out.mono ?_
  rintro e w13 ⟨d1, k2, rfl, hD2, hb13⟩
  have hs13 := hb13.size
  have h713 := H712.out.trans (hb13.mono H712.out.size)
  have h1113 := H1112.out.trans (hb13.mono hs12)
  have h913 := H9b.out.trans (h1113.mono H9b.out.size)
  have HD2 := hid hD2.lb
  have hL1 := HL1.out.later h913 (Nat.le_refl _)
  have hL2 := HL2.out.later h913 (Nat.le_refl _)
  have hL3 := HL3.out.later h1113 (Nat.le_refl _)
  have hL4 := HL4.out.later h1113 (Nat.le_refl _)
  obtain ⟨p1, p2, p3, p4, f1, f2, f3, f4, i1, i2, i3, i4, frow, finj, flen⟩ := four_rs hL1 hL2 hL3 hL4 HAP12.out HAP34.out (by omega) (fun b hb => (LI.block HL1.out hb).2) (fun b hb => (LI.block HL2.out hb).2)
  obtain ⟨g1, g2, f5, f6, j1, j2, grow_, ginj, glen⟩ := two_rs (HD1.out.later hb13 (Nat.le_refl _)) HD2.out (by omega) (fun b hb => (LB.block HD1.out hb).2)
  have hbgI := newBg (e := 3) (es := 24) (c := 1) (d := 4) (w0 := w7) (w := w13) (rs := [p1, p2, p3, p4]) h713 (by decide) frow finj w13.heap.size rfl 56
  have hbgB := newBg (e := 4) (es := 35) (c := 4) (d := 1) (w0 := w7) (w := w13) (rs := [g1, g2]) h713 (by decide) (fun p hp B hB => ⟨(grow_ p hp B hB).1, by have := (grow_ p hp B hB).2; omega⟩) ginj w13.heap.size rfl 56
  rw [e17] at hbgI hbgB
  obtain ⟨obg, hobg⟩ : ∃ o, o = Obj.cells #[.slice none 0 0, .slice none 0 0, .slice none 0 0, .slice none 0 0, .slice none 0 0, .slice none 0 0, .slice none 0 0, .slice none 0 0, .slice none 0 0, .slice none 0 0, .slice none 0 0, .slice none 0 0, .slice none 0 0, .slice none 0 0, .slice none 0 0, .slice none 0 0, .slice none 0 0] 56 := ⟨_, rfl⟩
  rw [← hobg] at hbgI hbgB
  have hbk : BK w7 w13 (w13.alloc obg) w13.heap.size (.slice none 0 0) [p1, p2, p3, p4] 0 (.slice none 0 0) [g1, g2] 0 := ⟨⟨hbgI, hbgB⟩, (Below.refl _ w13).alloc (Nat.le_refl _) obg, Nat.le_refl _, fun B hB => by simp [Value.ownBlock] at hB, fun B hB => by simp [Value.ownBlock] at hB⟩
  have HBK := hid hbk
  have h813 : Below w8.heap.size w9 w13 := h913.mono (by omega)
  have r90 := (h913.cell (p := ⟨w8.heap.size, 0, none⟩) (by show w8.heap.size < _; omega)).trans HP0.out
  have r91 := (h913.cell (p := ⟨w8.heap.size, 1, none⟩) (by show w8.heap.size < _; omega)).trans HP1.out
  have r100 := (h1113.cell (p := ⟨w10.heap.size, 0, none⟩) (by show w10.heap.size < _; omega)).trans HR0.out
  have r101 := (h1113.cell (p := ⟨w10.heap.size, 1, none⟩) (by show w10.heap.size < _; omega)).trans HR1.out
  have HW13 := hid (HW7.out.trans (h713.mono HW7.out.size))
  have HB13 := hid (HB7.out.trans (h713.mono HB7.out.size))
  have H713 := hid h713
  have HFL := hid flen
  have HGL := hid glen
  have F1 := hid f1
  have F2 := hid f2
  have F3 := hid f3
  have F4 := hid f4
  have F5 := hid f5
  have F6 := hid f6
  have I1 := hid i1
  have I2 := hid i2
  have I3 := hid i3
  have I4 := hid i4
  have J1 := hid j1
  have J2 := hid j2
  have R90 := hid r90
  have R91 := hid r91
  have R100 := hid r100
  have R101 := hid r101
  have G1 := hid (hbk.addBlk (by simp) (by omega) a1 a2 m m m m F1.out F2.out)
  have ha9 := (hbk.bel.cell (p := ⟨w8.heap.size, 0, none⟩) (by show w8.heap.size < _; omega)).trans r90
  have ha91 := (hbk.bel.cell (p := ⟨w8.heap.size, 1, none⟩) (by show w8.heap.size < _; omega)).trans r91
  clear hD2 hb13 h713 h1113 h913 h813 hL1 hL2 hL3 hL4 frow finj flen grow_ ginj glen hbgI hbgB hbk f1 f2 f3 f4 f5 f6 i1 i2 i3 i4 j1 j2 H9 r90 r91 r100 r101
  subst hobg
  go_wp2_with fail
  generalize w13.alloc (Obj.cells #[.slice none 0 0, .slice none 0 0, .slice none 0 0, .slice none 0 0, .slice none 0 0, .slice none 0 0, .slice none 0 0, .slice none 0 0, .slice none 0 0, .slice none 0 0, .slice none 0 0, .slice none 0 0, .slice none 0 0, .slice none 0 0, .slice none 0 0, .slice none 0 0, .slice none 0 0] 56) = wa at *
  refine G1.out.mono ?_
  rintro e w15 ⟨rfl, vI1, hk15⟩
  have hb10a := (hk15.bel.cell (p := ⟨w10.heap.size, 0, none⟩) (by show w10.heap.size < _; omega)).trans R100.out
  have hb10b := (hk15.bel.cell (p := ⟨w10.heap.size, 1, none⟩) (by show w10.heap.size < _; omega)).trans R101.out
  have G2 := hid (hk15.addBlk (by simp) (by omega) b1 b2 m2 m2 m2 m2 F3.out F4.out)
  clear hk15 G1 ha9 ha91
  go_wp2_with fail
  refine G2.out.mono ?_
  rintro e w16 ⟨rfl, vI2, hk16⟩
  have G3 := hid (hk16.addB (by simp) (by omega) (.slice c1 k1 k1) F5.out)
  clear hk16 G2 hb10a hb10b
  go_wp2_with fail
  refine G3.out.mono ?_
  rintro e w17 ⟨rfl, vB1, hk17⟩
  have G4 := hid (hk17.addB (by simp) (by omega) (.slice d1 k2 k2) F6.out)
  clear hk17 G3
  go_wp2_with fail
  refine G4.out.mono ?_
  rintro e w18 ⟨rfl, vB2, hk18⟩
  have hs18 := hk18.bel.size
  have c90 := (hk18.bel.cell (p := ⟨w8.heap.size, 0, none⟩) (by show w8.heap.size < _; omega)).trans R90.out
  have c91 := (hk18.bel.cell (p := ⟨w8.heap.size, 1, none⟩) (by show w8.heap.size < _; omega)).trans R91.out
  have c100 := (hk18.bel.cell (p := ⟨w10.heap.size, 0, none⟩) (by show w10.heap.size < _; omega)).trans R100.out
  have c101 := (hk18.bel.cell (p := ⟨w10.heap.size, 1, none⟩) (by show w10.heap.size < _; omega)).trans R101.out
  have HW18 := hid (HW13.out.trans (hk18.bel.mono HW13.out.size))
  have HB18 := hid (HB13.out.trans (hk18.bel.mono HB13.out.size))
  have b0 := (HW18.out.cell (p := ⟨w.heap.size, 0, none⟩) (by show w.heap.size < _; omega)).trans (HTX.out 0)
  have b1' := (HW18.out.cell (p := ⟨w.heap.size, 1, none⟩) (by show w.heap.size < _; omega)).trans (HTX.out 1)
  have b2' := (HW18.out.cell (p := ⟨w.heap.size, 2, none⟩) (by show w.heap.size < _; omega)).trans (HTX.out 2)
  have b3' := (HW18.out.cell (p := ⟨w.heap.size, 3, none⟩) (by show w.heap.size < _; omega)).trans (HTX.out 3)
  have b4' := (HW18.out.cell (p := ⟨w.heap.size, 4, none⟩) (by show w.heap.size < _; omega)).trans (HTX.out 4)
  simp only [List.getElem?_toArray, List.getElem?_cons_zero, List.getElem?_cons_succ] at b0 b1' b2' b3' b4'
  have HK18 := hid hk18
  have hxx : w.heap.size < w18.heap.size := by omega
  have hxx9 : w8.heap.size < w18.heap.size := by omega
  have hxx10 : w10.heap.size < w18.heap.size := by omega
  clear hk18 G4
  go_wp2_with fail
  have HMK18 := hid (show ∀ W, Below w18.heap.size w18 W → W.cell? ⟨w8.heap.size, 0, none⟩ = some (.slice a1 m m) ∧ W.cell? ⟨w8.heap.size, 1, none⟩ = some (.slice a2 m m) ∧ W.cell? ⟨w10.heap.size, 0, none⟩ = some (.slice b1 m2 m2) ∧ W.cell? ⟨w10.heap.size, 1, none⟩ = some (.slice b2 m2 m2) ∧ W.cell? ⟨w.heap.size, 0, none⟩ = some (.slice sa sn sc) ∧ W.cell? ⟨w.heap.size, 1, none⟩ = some (.slice ea en ec) ∧ W.cell? ⟨w.heap.size, 2, none⟩ = some (.slice la ln lc) ∧ W.cell? ⟨w.heap.size, 3, none⟩ = some (.slice fa fn fc) ∧ W.cell? ⟨w.heap.size, 4, none⟩ = some (.int .i64 hi) ∧ Below w18.heap.size w18 W from fun W hb => ⟨(hb.cell (p := ⟨w8.heap.size, 0, none⟩) (by exact hxx9)).trans c90, (hb.cell (p := ⟨w8.heap.size, 1, none⟩) (by exact hxx9)).trans c91, (hb.cell (p := ⟨w10.heap.size, 0, none⟩) (by exact hxx10)).trans c100, (hb.cell (p := ⟨w10.heap.size, 1, none⟩) (by exact hxx10)).trans c101, (hb.cell (p := ⟨w.heap.size, 0, none⟩) (by exact hxx)).trans b0, (hb.cell (p := ⟨w.heap.size, 1, none⟩) (by exact hxx)).trans b1', (hb.cell (p := ⟨w.heap.size, 2, none⟩) (by exact hxx)).trans b2', (hb.cell (p := ⟨w.heap.size, 3, none⟩) (by exact hxx)).trans b3', (hb.cell (p := ⟨w.heap.size, 4, none⟩) (by exact hxx)).trans b4', hb⟩)
  have HCF := hid (show ∀ W, Below w18.heap.size w18 W → CodS W a n xs from fun W hb => HC.out.later (HB18.out.trans (hb.mono HB18.out.size)) (Nat.le_refl _))
  have HTF := hid (show ∀ W, Below w18.heap.size w18 W → TbS W sa sn sc ea en ec la ln lc fa fn fc S E1 E2 E3 from fun W hb => HTS.out.later (HB18.out.trans (hb.mono HB18.out.size)) (Nat.le_refl _))
  have hl12 := stL_len (opF xs) n (enL (opF xs) n) (elL (opF xs) n)
  have hl34 := stL_len (opF xs) n E1 E2
  have hl5 := ldL_len (opF xs) n
  have HSA := hid (show ∀ W, Below w18.heap.size w18 W → SegL W a1 m m (stL (opF xs) n (enL (opF xs) n) (elL (opF xs) n)) ∧ SegL W a2 m m (lfL (opF xs) n (enL (opF xs) n) (elL (opF xs) n)) ∧ SegL W b1 m2 m2 (stL (opF xs) n E1 E2) ∧ SegL W b2 m2 m2 (lfL (opF xs) n E1 E2) ∧ SegB W c1 k1 (ldL (opF xs) n) ∧ SegB W d1 k2 (ldL (opF xs) n) from fun W hb =>
    have hI := (HK18.out.bb.later hb).i
    have hB := (HK18.out.bb.later hb).b
    ⟨I1.out.seg (fun B hB => (hI.rows p1 (by simp) B hB).1) (by omega) F1.out, I2.out.seg (fun B hB => (hI.rows p2 (by simp) B hB).1) (by omega) F2.out, I3.out.seg (fun B hB => (hI.rows p3 (by simp) B hB).1) (by omega) F3.out, I4.out.seg (fun B hB => (hI.rows p4 (by simp) B hB).1) (by omega) F4.out,
      J1.out.seg (fun B hb' => (hB.rows g1 (by simp) B hb').1) (by omega) F5.out, J2.out.seg (fun B hb' => (hB.rows g2 (by simp) B hb').1) (by omega) F6.out⟩)
  have HL12 := hid hl12
  have HL34 := hid hl34
  have HL5 := hid hl5
  clear hl12 hl34 hl5
  go_region_held3 (fun W => W.cell? ⟨w8.heap.size, 0, none⟩ = some (.slice a1 m m) ∧ W.cell? ⟨w8.heap.size, 1, none⟩ = some (.slice a2 m m) ∧ W.cell? ⟨w10.heap.size, 0, none⟩ = some (.slice b1 m2 m2) ∧ W.cell? ⟨w10.heap.size, 1, none⟩ = some (.slice b2 m2 m2) ∧ W.cell? ⟨w.heap.size, 0, none⟩ = some (.slice sa sn sc) ∧ W.cell? ⟨w.heap.size, 1, none⟩ = some (.slice ea en ec) ∧ W.cell? ⟨w.heap.size, 2, none⟩ = some (.slice la ln lc) ∧ W.cell? ⟨w.heap.size, 3, none⟩ = some (.slice fa fn fc) ∧ W.cell? ⟨w.heap.size, 4, none⟩ = some (.int .i64 hi) ∧ Below w18.heap.size w18 W)
    (first | assumption | exact HMK18.out _ (Below.refl _ _).drew)
    (first
      | (go_at_call 7; refine (tableC a n cap xs _ (by omega) hcap (HCF.out _ (And.right (And.right (And.right (And.right (And.right (And.right (And.right (And.right (And.right (by assumption)))))))))))).mono ?_; rintro e w' ⟨x1, y1, zz1, x2, y2, zz2, rfl, hTT, hbx⟩; have hS' := HMK18.out _ (below_step (And.right (And.right (And.right (And.right (And.right (And.right (And.right (And.right (And.right (by assumption)))))))))) hbx); have HTQ := hid hTT; clear hTT hbx)
      | (go_at_call_of 14 (Value.slice ea en ec); refine (refOf a n cap xs sa sn sc ea en ec la ln lc fa fn fc hi E1 E2 _ (by omega) hcap (HCF.out _ (And.right (And.right (And.right (And.right (And.right (And.right (And.right (And.right (And.right (by assumption))))))))))) (HTF.out _ (And.right (And.right (And.right (And.right (And.right (And.right (And.right (And.right (And.right (by assumption))))))))))).e (HTF.out _ (And.right (And.right (And.right (And.right (And.right (And.right (And.right (And.right (And.right (by assumption))))))))))).l).mono ?_; rintro e w' ⟨x1, y1, zz1, x2, y2, zz2, rfl, hA1, hA2, hbx⟩; have hS' := HMK18.out _ (below_step (And.right (And.right (And.right (And.right (And.right (And.right (And.right (And.right (And.right (by assumption)))))))))) hbx); have HR3 := hid (hA1.segL (by have := HL34.out.1; omega) hA1.cap); have HR4 := hid (hA2.segL (by have := HL34.out.2; omega) hA2.cap); clear hA1 hA2 hbx)
      | (go_at_call 14; refine (refOf a n cap xs none 0 0 _ _ _ _ _ _ none 0 0 0 _ _ _ (by omega) hcap (HCF.out _ (And.right (And.right (And.right (And.right (And.right (And.right (And.right (And.right (And.right (by assumption))))))))))) (HTQ.out.tbs (by omega)).e (HTQ.out.tbs (by omega)).l).mono ?_; rintro e w' ⟨x1, y1, zz1, x2, y2, zz2, rfl, hA1, hA2, hbx⟩; have hS' := HMK18.out _ (below_step (And.right (And.right (And.right (And.right (And.right (And.right (And.right (And.right (And.right (by assumption)))))))))) hbx); have HR1 := hid (hA1.segL (by have := HL12.out.1; omega) hA1.cap); have HR2 := hid (hA2.segL (by have := HL12.out.2; omega) hA2.cap); clear hA1 hA2 hbx)
      | (go_at_call_of 13 (Value.slice b1 m2 m2); refine (eqBlk b1 m2 m2 b2 m2 m2 _ _ _ _ _ _ _ _ _ (HSA.out _ (And.right (And.right (And.right (And.right (And.right (And.right (And.right (And.right (And.right (by assumption))))))))))).2.2.1 (HSA.out _ (And.right (And.right (And.right (And.right (And.right (And.right (And.right (And.right (And.right (by assumption))))))))))).2.2.2.1 HR3.out HR4.out).mono ?_; rintro e w' ⟨rfl, hbx⟩; have hS' := HMK18.out _ (below_step (And.right (And.right (And.right (And.right (And.right (And.right (And.right (And.right (And.right (by assumption)))))))))) hbx); clear hbx)
      | (go_at_call 13; refine (eqBlk a1 m m a2 m m _ _ _ _ _ _ _ _ _ (HSA.out _ (And.right (And.right (And.right (And.right (And.right (And.right (And.right (And.right (And.right (by assumption))))))))))).1 (HSA.out _ (And.right (And.right (And.right (And.right (And.right (And.right (And.right (And.right (And.right (by assumption))))))))))).2.1 HR1.out HR2.out).mono ?_; rintro e w' ⟨rfl, hbx⟩; have hS' := HMK18.out _ (below_step (And.right (And.right (And.right (And.right (And.right (And.right (And.right (And.right (And.right (by assumption)))))))))) hbx); clear hbx)
      | (go_at_call 16; refine (refLeads a n cap xs _ (by omega) hcap (HCF.out _ (And.right (And.right (And.right (And.right (And.right (And.right (And.right (And.right (And.right (by assumption)))))))))))).mono ?_; rintro e w' ⟨vL, rfl, hLB, hbx⟩; obtain ⟨va, vc, rfl⟩ := hLB.slice; have hS' := HMK18.out _ (below_step (And.right (And.right (And.right (And.right (And.right (And.right (And.right (And.right (And.right (by assumption)))))))))) hbx); have HLB := hid (hLB.seg (by have := HL5.out; omega)); clear hLB hbx)
      | (go_at_call_of 15 (Value.slice d1 k2 k2); refine (eqb_yes d1 c1 k2 k1 k2 k1 _ _ (HSA.out _ (And.right (And.right (And.right (And.right (And.right (And.right (And.right (And.right (And.right (by assumption))))))))))).2.2.2.2.2 (HSA.out _ (And.right (And.right (And.right (And.right (And.right (And.right (And.right (And.right (And.right (by assumption))))))))))).2.2.2.2.1).mono ?_; rintro e w' ⟨rfl, hbx⟩; have hS' := HMK18.out _ (below_step (And.right (And.right (And.right (And.right (And.right (And.right (And.right (And.right (And.right (by assumption)))))))))) hbx); clear hbx)
      | (go_at_call 15; refine (eqb_yes c1 _ k1 _ k1 _ _ _ (HSA.out _ (And.right (And.right (And.right (And.right (And.right (And.right (And.right (And.right (And.right (by assumption))))))))))).2.2.2.2.1 HLB.out).mono ?_; rintro e w' ⟨rfl, hbx⟩; have hS' := HMK18.out _ (below_step (And.right (And.right (And.right (And.right (And.right (And.right (And.right (And.right (And.right (by assumption)))))))))) hbx); clear hbx))
  have hbb := HK18.out.bb.later (And.right (And.right (And.right (And.right (And.right (And.right (And.right (And.right (And.right hS')))))))))
  have AP := hid (BB.apart (r1 := [p1, p2, p3, p4]) (r2 := [g1, g2]) hbb (by simp) (by simp) (by simp) (by simp) (fun p hp => by
      have h1 := HFL.out p hp
      have h2 := HL12.out
      have h3 := HL34.out
      omega) (fun p hp => by
      have h1 := HGL.out p hp
      have h2 := HL5.out
      omega))
  clear hbb hS' HSA HMK18 HCF HTF c90 c91 c100 c101 b0 b1' b2' b3' b4'
  go_wp2_with fail
  refine AP.out.mono ?_
  rintro e w20 ⟨rfl, hq20⟩
  have hs20 := hq20.size
  have H320 := hid (H37.out.trans (hq20.mono H37.out.size))
  have HB20 := hid (HB7.out.trans (hq20.mono HB7.out.size))
  have HW20 := hid (HW7.out.trans (hq20.mono HW7.out.size))
  have e80 := (hq20.cell (p := ⟨w6.heap.size, 0, none⟩) (by show w6.heap.size < _; omega)).trans (HQ8.out 0)
  have e30 := (HW20.out.cell (p := ⟨w.heap.size, 0, none⟩) (by show w.heap.size < _; omega)).trans (HTX.out 0)
  have e70 := (hq20.cell (p := ⟨w4.heap.size, 0, none⟩) (by show w4.heap.size < _; omega)).trans (HQ7'.out 0)
  have e81 := (hq20.cell (p := ⟨w6.heap.size, 1, none⟩) (by show w6.heap.size < _; omega)).trans (HQ8.out 1)
  have e31 := (HW20.out.cell (p := ⟨w.heap.size, 1, none⟩) (by show w.heap.size < _; omega)).trans (HTX.out 1)
  have e71 := (hq20.cell (p := ⟨w4.heap.size, 1, none⟩) (by show w4.heap.size < _; omega)).trans (HQ7'.out 1)
  have e82 := (hq20.cell (p := ⟨w6.heap.size, 2, none⟩) (by show w6.heap.size < _; omega)).trans (HQ8.out 2)
  have e32 := (HW20.out.cell (p := ⟨w.heap.size, 2, none⟩) (by show w.heap.size < _; omega)).trans (HTX.out 2)
  have e72 := (hq20.cell (p := ⟨w4.heap.size, 2, none⟩) (by show w4.heap.size < _; omega)).trans (HQ7'.out 2)
  have e83 := (hq20.cell (p := ⟨w6.heap.size, 3, none⟩) (by show w6.heap.size < _; omega)).trans (HQ8.out 3)
  have e33 := (HW20.out.cell (p := ⟨w.heap.size, 3, none⟩) (by show w.heap.size < _; omega)).trans (HTX.out 3)
  have e73 := (hq20.cell (p := ⟨w4.heap.size, 3, none⟩) (by show w4.heap.size < _; omega)).trans (HQ7'.out 3)
  have e84 := (hq20.cell (p := ⟨w6.heap.size, 4, none⟩) (by show w6.heap.size < _; omega)).trans (HQ8.out 4)
  have e34 := (HW20.out.cell (p := ⟨w.heap.size, 4, none⟩) (by show w.heap.size < _; omega)).trans (HTX.out 4)
  have e74 := (hq20.cell (p := ⟨w4.heap.size, 4, none⟩) (by show w4.heap.size < _; omega)).trans (HQ7'.out 4)
  simp only [List.getElem?_toArray, List.getElem?_cons_zero, List.getElem?_cons_succ] at e80 e30 e70 e81 e31 e71 e82 e32 e72 e83 e33 e73 e84 e34 e74
  have hyy6 : w6.heap.size < w20.heap.size := by omega
  have hyy4 : w4.heap.size < w20.heap.size := by omega
  have hyy0 : w.heap.size < w20.heap.size := by omega
  have HMK20 := hid (show ∀ W, Below w20.heap.size w20 W → W.cell? ⟨w6.heap.size, 0, none⟩ = some (.slice (some ⟨B0, 0, none⟩) sn (sn + 64)) ∧ W.cell? ⟨w6.heap.size, 1, none⟩ = some (.slice (some ⟨B1, 0, none⟩) en (en + 64)) ∧ W.cell? ⟨w6.heap.size, 2, none⟩ = some (.slice (some ⟨B2, 0, none⟩) ln (ln + 64)) ∧ W.cell? ⟨w6.heap.size, 3, none⟩ = some (.slice (some ⟨B3, 0, none⟩) fn (fn + 64)) ∧ W.cell? ⟨w6.heap.size, 4, none⟩ = some (.int .i64 hi) ∧ W.cell? ⟨w.heap.size, 0, none⟩ = some (.slice sa sn sc) ∧ W.cell? ⟨w.heap.size, 1, none⟩ = some (.slice ea en ec) ∧ W.cell? ⟨w.heap.size, 2, none⟩ = some (.slice la ln lc) ∧ W.cell? ⟨w.heap.size, 3, none⟩ = some (.slice fa fn fc) ∧ W.cell? ⟨w.heap.size, 4, none⟩ = some (.int .i64 hi) ∧ W.cell? ⟨w4.heap.size, 0, none⟩ = some (.slice none 0 0) ∧ W.cell? ⟨w4.heap.size, 1, none⟩ = some (.slice o1 on1 oc1) ∧ W.cell? ⟨w4.heap.size, 2, none⟩ = some (.slice o2 on2 oc2) ∧ W.cell? ⟨w4.heap.size, 3, none⟩ = some (.slice none 0 0) ∧ W.cell? ⟨w4.heap.size, 4, none⟩ = some (.int .i64 0) ∧ Below w20.heap.size w20 W from fun W hb => ⟨(hb.cell (p := ⟨w6.heap.size, 0, none⟩) (by exact hyy6)).trans e80, (hb.cell (p := ⟨w6.heap.size, 1, none⟩) (by exact hyy6)).trans e81, (hb.cell (p := ⟨w6.heap.size, 2, none⟩) (by exact hyy6)).trans e82, (hb.cell (p := ⟨w6.heap.size, 3, none⟩) (by exact hyy6)).trans e83, (hb.cell (p := ⟨w6.heap.size, 4, none⟩) (by exact hyy6)).trans e84, (hb.cell (p := ⟨w.heap.size, 0, none⟩) (by exact hyy0)).trans e30, (hb.cell (p := ⟨w.heap.size, 1, none⟩) (by exact hyy0)).trans e31, (hb.cell (p := ⟨w.heap.size, 2, none⟩) (by exact hyy0)).trans e32, (hb.cell (p := ⟨w.heap.size, 3, none⟩) (by exact hyy0)).trans e33, (hb.cell (p := ⟨w.heap.size, 4, none⟩) (by exact hyy0)).trans e34, (hb.cell (p := ⟨w4.heap.size, 0, none⟩) (by exact hyy4)).trans e70, (hb.cell (p := ⟨w4.heap.size, 1, none⟩) (by exact hyy4)).trans e71, (hb.cell (p := ⟨w4.heap.size, 2, none⟩) (by exact hyy4)).trans e72, (hb.cell (p := ⟨w4.heap.size, 3, none⟩) (by exact hyy4)).trans e73, (hb.cell (p := ⟨w4.heap.size, 4, none⟩) (by exact hyy4)).trans e74, hb⟩)
  have HCF := hid (show ∀ W, Below w20.heap.size w20 W → CodS W a n xs from fun W hb => HC.out.later (HB20.out.trans (hb.mono HB20.out.size)) (Nat.le_refl _))
  have HTF := hid (show ∀ W, Below w20.heap.size w20 W → TbS W sa sn sc ea en ec la ln lc fa fn fc S E1 E2 E3 from fun W hb => HTS.out.later (HB20.out.trans (hb.mono HB20.out.size)) (Nat.le_refl _))
  have HWF := hid (show ∀ W, Below w20.heap.size w20 W → WdT W B0 B1 B2 B3 sn en ln fn S E1 E2 E3 from fun W hb => (HWD.out.later hq20 (Nat.le_refl _)).later hb (Nat.le_refl _))
  have HOF := hid (show ∀ W, Below w20.heap.size w20 W → TbS W none 0 0 o1 on1 oc1 o2 on2 oc2 none 0 0 [] (enL (opF xs) n) (elL (opF xs) n) [] from fun W hb => (HOWN'.out.later hq20 (Nat.le_refl _)).later hb (Nat.le_refl _))
  have HRF := hid (show ∀ W, Below w20.heap.size w20 W → (∀ j, j < n → WRow W w2.heap.size j (xs.getD j dx) (Bs j)) ∧ (∀ j, n ≤ j → j < n + 64 → WMk W w2.heap.size j) from fun W hb => ⟨fun j hj => ((HROW.out j hj).later H320.out (Nat.le_refl _)).later hb (Nat.le_refl _), fun j h1 h2 => ((HMK.out j h1 h2).later H320.out (Nat.le_refl _)).later hb (Nat.le_refl _)⟩)
  have HTE := hid (show ∀ W, Below w20.heap.size w20 W → Tens TB W ∧ TB ≤ W.heap.size from fun W hb => ⟨HTT.out.later ((HB20.out.trans (hb.mono HB20.out.size)).mono hTB), by have := HB20.out.size; have := hb.size; omega⟩)
  have HQ20 := hid hq20
  clear hq20 AP
  go_wp2_with fail
  go_region_held3 (fun W => W.cell? ⟨w6.heap.size, 0, none⟩ = some (.slice (some ⟨B0, 0, none⟩) sn (sn + 64)) ∧ W.cell? ⟨w6.heap.size, 1, none⟩ = some (.slice (some ⟨B1, 0, none⟩) en (en + 64)) ∧ W.cell? ⟨w6.heap.size, 2, none⟩ = some (.slice (some ⟨B2, 0, none⟩) ln (ln + 64)) ∧ W.cell? ⟨w6.heap.size, 3, none⟩ = some (.slice (some ⟨B3, 0, none⟩) fn (fn + 64)) ∧ W.cell? ⟨w6.heap.size, 4, none⟩ = some (.int .i64 hi) ∧ W.cell? ⟨w.heap.size, 0, none⟩ = some (.slice sa sn sc) ∧ W.cell? ⟨w.heap.size, 1, none⟩ = some (.slice ea en ec) ∧ W.cell? ⟨w.heap.size, 2, none⟩ = some (.slice la ln lc) ∧ W.cell? ⟨w.heap.size, 3, none⟩ = some (.slice fa fn fc) ∧ W.cell? ⟨w.heap.size, 4, none⟩ = some (.int .i64 hi) ∧ W.cell? ⟨w4.heap.size, 0, none⟩ = some (.slice none 0 0) ∧ W.cell? ⟨w4.heap.size, 1, none⟩ = some (.slice o1 on1 oc1) ∧ W.cell? ⟨w4.heap.size, 2, none⟩ = some (.slice o2 on2 oc2) ∧ W.cell? ⟨w4.heap.size, 3, none⟩ = some (.slice none 0 0) ∧ W.cell? ⟨w4.heap.size, 4, none⟩ = some (.int .i64 0) ∧ Below w20.heap.size w20 W)
    (first | assumption | exact HMK20.out _ (Below.refl _ _).drew)
    (first
      | (go_at_call 18; refine (eqCode w2.heap.size a n cap xs Bs _ (by omega) hcap (HRF.out _ (And.right (And.right (And.right (And.right (And.right (And.right (And.right (And.right (And.right (And.right (And.right (And.right (And.right (And.right (And.right (by assumption))))))))))))))))).1 (HCF.out _ (And.right (And.right (And.right (And.right (And.right (And.right (And.right (And.right (And.right (And.right (And.right (And.right (And.right (And.right (And.right (by assumption))))))))))))))))) HLN.out).mono ?_; rintro e w' ⟨rfl, hbx⟩; have hS' := HMK20.out _ (below_step (And.right (And.right (And.right (And.right (And.right (And.right (And.right (And.right (And.right (And.right (And.right (And.right (And.right (And.right (And.right (by assumption)))))))))))))))) hbx); clear hbx)
      | (go_at_call 19; refine (spareCode w2.heap.size n xs Bs _ (by omega) HLL.out HLN.out (HRF.out _ (And.right (And.right (And.right (And.right (And.right (And.right (And.right (And.right (And.right (And.right (And.right (And.right (And.right (And.right (And.right (by assumption))))))))))))))))).1 (HRF.out _ (And.right (And.right (And.right (And.right (And.right (And.right (And.right (And.right (And.right (And.right (And.right (And.right (And.right (And.right (And.right (by assumption))))))))))))))))).2).mono ?_; rintro e w' ⟨rfl, hbx⟩; have hS' := HMK20.out _ (below_step (And.right (And.right (And.right (And.right (And.right (And.right (And.right (And.right (And.right (And.right (And.right (And.right (And.right (And.right (And.right (by assumption)))))))))))))))) hbx); clear hbx)
      | (go_at_call_of 20 (Value.slice sa sn sc); refine (eqTab _ _ _ _ _ _ _ _ _ _ _ _ _ _ _ _ _ _ _ _ _ _ _ _ hi S E1 E2 E3 _ ((HWF.out _ (And.right (And.right (And.right (And.right (And.right (And.right (And.right (And.right (And.right (And.right (And.right (And.right (And.right (And.right (And.right (by assumption))))))))))))))))).tbs HTS.out.s.1 HTS.out.e.1 HTS.out.l.1 HTS.out.f.1 HTN.out) (HTF.out _ (And.right (And.right (And.right (And.right (And.right (And.right (And.right (And.right (And.right (And.right (And.right (And.right (And.right (And.right (And.right (by assumption)))))))))))))))))).mono ?_; rintro e w' ⟨rfl, hbx⟩; have hS' := HMK20.out _ (below_step (And.right (And.right (And.right (And.right (And.right (And.right (And.right (And.right (And.right (And.right (And.right (And.right (And.right (And.right (And.right (by assumption)))))))))))))))) hbx); clear hbx)
      | (go_at_call 21; refine (spareTab TB B0 B1 B2 B3 sn en ln fn hi S E1 E2 E3 _ (HWF.out _ (And.right (And.right (And.right (And.right (And.right (And.right (And.right (And.right (And.right (And.right (And.right (And.right (And.right (And.right (And.right (by assumption))))))))))))))))) HTS.out.s.1 HTS.out.e.1 HTS.out.l.1 HTS.out.f.1 HTN.out (HTE.out _ (And.right (And.right (And.right (And.right (And.right (And.right (And.right (And.right (And.right (And.right (And.right (And.right (And.right (And.right (And.right (by assumption))))))))))))))))).1 (HTE.out _ (And.right (And.right (And.right (And.right (And.right (And.right (And.right (And.right (And.right (And.right (And.right (And.right (And.right (And.right (And.right (by assumption))))))))))))))))).2).mono ?_; rintro e w' ⟨rfl, hbx⟩; have hS' := HMK20.out _ (below_step (And.right (And.right (And.right (And.right (And.right (And.right (And.right (And.right (And.right (And.right (And.right (And.right (And.right (And.right (And.right (by assumption)))))))))))))))) hbx); clear hbx)
      | (go_at_call 7; refine (tableC a n cap xs _ (by omega) hcap (HCF.out _ (And.right (And.right (And.right (And.right (And.right (And.right (And.right (And.right (And.right (And.right (And.right (And.right (And.right (And.right (And.right (by assumption)))))))))))))))))).mono ?_; rintro e w' ⟨x1, y1, zz1, x2, y2, zz2, rfl, hTT2, hbx⟩; have hS' := HMK20.out _ (below_step (And.right (And.right (And.right (And.right (And.right (And.right (And.right (And.right (And.right (And.right (And.right (And.right (And.right (And.right (And.right (by assumption)))))))))))))))) hbx); have HTQ2 := hid (hTT2.tbs (by omega)); clear hTT2 hbx)
      | (go_at_call 20; refine (eqTab _ _ _ _ _ _ _ _ _ _ _ _ _ _ _ _ _ _ _ _ _ _ _ _ 0 [] _ _ [] _ (HOF.out _ (And.right (And.right (And.right (And.right (And.right (And.right (And.right (And.right (And.right (And.right (And.right (And.right (And.right (And.right (And.right (by assumption))))))))))))))))) HTQ2.out).mono ?_; rintro e w' ⟨rfl, hbx⟩; have hS' := HMK20.out _ (below_step (And.right (And.right (And.right (And.right (And.right (And.right (And.right (And.right (And.right (And.right (And.right (And.right (And.right (And.right (And.right (by assumption)))))))))))))))) hbx); clear hbx))
  have hfin := And.right (And.right (And.right (And.right (And.right (And.right (And.right (And.right (And.right (And.right (And.right (And.right (And.right (And.right (And.right hS'))))))))))))))
  have HFIN := hid (HB20.out.trans (hfin.mono HB20.out.size))
  clear hfin hS'
  go_wp2_with fail
  go_ret
  exact ⟨rfl, HFIN.out⟩
end Go.Proofs.YtfcklkmfdjjfoaaDoor

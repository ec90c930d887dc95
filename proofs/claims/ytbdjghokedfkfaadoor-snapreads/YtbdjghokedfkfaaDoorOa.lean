/-
  A state among the arguments, opened, with what its numbers are.
-/
import Derived.Deep.RegionHeld
import Derived.OrdersHeld
import Derived.Lib.Bytealg
import Derived.RangeFuncBox
import Derived.WalkSpells
import Derived.WalkLawsBesides
import Derived.KernelRfl
import Derived.RowKit
import Derived.WalkKit
import Derived.Deep.RegionHeld3
import Derived.Deep.QuietTactic
import Derived.BigQuiet
import Derived.Below
import Derived.Deep.RegionWith
import Derived.Deep.Strs
import Derived.ProofKit
import Derived.OpenShut
import Derived.ShutString
import Derived.ChangeOld
import Derived.SizedLaws
import Derived.Deep.DeepHandedRow
import Derived.LaidMore
import Derived.Lay
import Derived.ChangeArms
import Derived.Test.YtbdjghokedfkfaaDoorJWk
namespace Go.Proofs.YtbdjghokedfkfaaDoor
open Go.RowKit Go.ChangeShapes Go.WideShapes Go.ChangeAt
set_option linter.unusedVariables false
set_option maxRecDepth 100000
def frC (x : FrM) : List Value := [.int .i64 x.1, .int .i64 x.2.1, .slice x.2.2.1.1.1 x.2.2.1.1.2.1 x.2.2.1.1.2.2, .slice x.2.2.2.1.1 x.2.2.2.1.2.1 x.2.2.2.1.2.2]
def pgC (x : PgM) : List Value := [.slice x.1.1 x.1.2.1 x.1.2.2]
def BY (s : StM) : Prop := ∀ x ∈ s.ps, ∀ z ∈ x.2, 0 ≤ z ∧ z ≤ 255
theorem i64R_of {n : Int} (h : (Lit.int .i64 n).wf = true) : i64R n := ⟨(bounds_i64 h).1, by have := (bounds_i64 h).2; omega⟩
def u6 (a : Int) : Prop := 0 ≤ a ∧ a < 18446744073709551616
theorem list_ofX {α : Type} {P : Nat → α → Prop} : ∀ (n : Nat), (∀ j, j < n → ∃ x, P j x) → ∃ xs : List α, xs.length = n ∧ ∀ j x, xs[j]? = some x → P j x
  | 0, _ => ⟨[], rfl, fun j x h => by simp at h⟩
  | n + 1, h => by
    obtain ⟨xs, hl, hx⟩ := list_ofX n (fun j hj => h j (by omega))
    obtain ⟨y, hy⟩ := h n (by omega)
    refine ⟨xs ++ [y], by simp [hl], fun j x hj => ?_⟩
    by_cases hjn : j < xs.length
    · rw [List.getElem?_append_left hjn] at hj
      exact hx j x hj
    · rw [List.getElem?_append_right (by omega)] at hj
      have hj0 : j - xs.length = 0 := by
        rcases Nat.eq_zero_or_pos (j - xs.length) with h | h
        · exact h
        · rw [List.getElem?_eq_none (by simp; omega)] at hj; cases hj
      rw [hj0] at hj
      simp at hj
      subst hj
      obtain rfl : j = n := by omega
      exact hy
theorem weights_mem_all {H : Type} {P : Program} {e : TypeId} : ∀ {l : List (DataW H)} {d : DataW H}, d ∈ l → ∀ n ∈ d.weights P e, n ∈ DataW.weightsAll P e l
  | x :: r, d, h, n, hn => by
    simp only [DataW.weightsAll, List.mem_append]
    rcases List.mem_cons.1 h with rfl | h
    · exact .inl hn
    · exact .inr (weights_mem_all h n hn)
theorem weights_part {H : Type} {P : Program} {t u : TypeId} {fs : Array Field} {ys : List (DataW H × List MemPlace)} {y : DataW H × List MemPlace} {j : Nat} (ht : P.underlying t = some (.struct fs)) (hj : (fs.toList.map (·.type))[j]? = some u) (hy : ys[j]? = some y) {r : Nat} (hw : ∀ n ∈ (DataW.agg (ys.map (·.1))).weights P t, n ≤ r) : ∀ n ∈ y.1.weights P u, n ≤ r := by
  intro n hn
  refine hw n ?_
  simp only [DataW.weights, ht]
  exact DataW.weights_mem_each hj (by rw [List.getElem?_map, hy]; rfl) n hn
/-- A list that came in lies there. -/
structure LsAt {α : Type} (W : World) (c : Nat) (F : α → List Value) (a : Option Addr) (n cap : Nat) (xs : List α) : Prop where
  cap_ : n ≤ cap
  big : n ≤ 140737488355328
  len : xs.length = n
  at_ : n = 0 ∨ ∃ b off, a = some ⟨b, off, none⟩ ∧ ∀ j x, xs[j]? = some x → ∀ i v, (F x)[i]? = some v → W.cell? ⟨b, off + j * c + i, none⟩ = some v
section
variable {H : Type} {enc : TypeId × Value → H} {W : World}
set_option maxRecDepth 100000 in
theorem open_listX {α : Type} {t e : TypeId} {c B : Nat} (F : α → List Value) (G : α → Prop) (ht : Tryd.prog.underlying t = some (.slice e)) (hc : Tryd.prog.cellsOf e = c) (h1 : 1 ≤ c) (hB : Tryd.prog.bytesOf e = B) (hB1 : 1 ≤ B)
    (hel : ∀ fuel ys y, DataW.trod enc Tryd.prog W 0 (fun _ => true) true fuel e ys = some y → (∀ n ∈ y.1.weights Tryd.prog e, n ≤ reachBytes) → ∃ a : α, ys = F a ∧ G a)
    {fuel : Nat} {cs : List Value} {x : DataW H × List MemPlace} (h : DataW.trod enc Tryd.prog W 0 (fun _ => true) true fuel t cs = some x) (hw : ∀ n ∈ x.1.weights Tryd.prog t, n ≤ reachBytes) :
    ∃ (a : Option Addr) (n cap : Nat) (xs : List α), cs = [.slice a n cap] ∧ LsAt W c F a n cap xs ∧ ∀ (j : Nat) x, xs[j]? = some x → G x := by
  rcases DataW.trod_slice ht h with ⟨hcs, _⟩ | ⟨x, len, cap, elems, rest, n, _, hcs, hx, hb, hl, hm, hlen, hem, hsp, hns⟩
  · exact ⟨none, 0, 0, [], hcs, ⟨Nat.le_refl _, by omega, rfl, .inl rfl⟩, fun j x hj => by simp at hj⟩
  · have hd := congrArg Prod.fst hx
    simp only at hd
    rw [hd] at hw
    have hbound : len ≤ 140737488355328 := by
      have h2 := hw ((elems.length + rest.length) * B) (by simp [DataW.weights, ht, hB])
      simp only [reachBytes] at h2
      have h3 : (elems.length + rest.length) * 1 ≤ (elems.length + rest.length) * B := Nat.mul_le_mul_left _ hB1
      omega
    by_cases h0 : len = 0
    · subst h0
      exact ⟨_, 0, cap, [], hcs, ⟨Nat.zero_le _, by omega, rfl, .inl rfl⟩, fun j x hj => by simp at hj⟩
    obtain ⟨b, off, spot⟩ := x
    have hadd0 : ∀ (y : Addr), y.add 0 = y := by intro y; cases y with | mk p q r => cases r <;> simp [Addr.add]
    have hstep : ∀ j, j < len → ∃ y : α, (F y).length = c ∧ G y ∧ ∀ i, i < c → W.cell? (((⟨b, off, spot⟩ : Addr).add (j * c)).add i) = (F y)[i]? := by
      intro j hj
      have he := hem j hj
      rw [List.getElem?_eq_getElem (by omega)] at he
      obtain ⟨ys, hys, htr⟩ := Option.bind_eq_some_iff.1 he
      rw [hc] at hys
      obtain ⟨_, hlc, hcell⟩ := World.cells?_some hys
      have hmem : (elems[j]'(by omega)).1 ∈ elems.map (·.1) := List.mem_map.2 ⟨_, List.getElem_mem _, rfl⟩
      obtain ⟨y, rfl, hG⟩ := hel _ _ _ htr (fun n hn => hw n (by
        have hin := weights_mem_all (P := Tryd.prog) (e := e) hmem n hn
        simp only [DataW.weights, ht, List.mem_cons, List.mem_append]
        exact .inr (.inl hin)))
      exact ⟨y, hlc, hG, hcell⟩
    have hspot : spot = none := by
      obtain ⟨y, hy, _, hcl⟩ := hstep 0 (by omega)
      have h2 := hcl 0 (by omega)
      rw [List.getElem?_eq_getElem (by omega)] at h2
      have := World.cell?_spot h2
      simpa [Addr.add] using this
    subst hspot
    have hplain : ∀ (p q i : Nat), (⟨p, q, none⟩ : Addr).add i = ⟨p, q + i, none⟩ := by intro p q i; unfold Addr.add; split <;> simp_all
    obtain ⟨xs, hxl, hxs⟩ := list_ofX (P := fun j (y : α) => (F y).length = c ∧ G y ∧ ∀ i, i < c → W.cell? ⟨b, off + j * c + i, none⟩ = (F y)[i]?) len (fun j hj => by
      obtain ⟨y, q1, q2, q3⟩ := hstep j hj
      exact ⟨y, q1, q2, fun i hi => by have := q3 i hi; rwa [hplain, hplain] at this⟩)
    refine ⟨_, len, cap, xs, hcs, ⟨hl, hbound, hxl, .inr ⟨b, off, rfl, fun j x hj i v hv => ?_⟩⟩, fun j x hj => (hxs j x hj).2.1⟩
    · have hi : i < (F x).length := (List.getElem?_eq_some_iff.1 hv).1
      have q := hxs j x hj
      rw [q.1] at hi
      rw [q.2.2 i hi]
      exact hv
theorem cX43 : Tryd.prog.cellsOf 63 = 1 := by kernel_rfl
theorem cX5 : Tryd.prog.cellsOf 5 = 1 := by kernel_rfl
theorem cX3 : Tryd.prog.cellsOf 3 = 1 := by kernel_rfl
theorem cX2 : Tryd.prog.cellsOf 2 = 1 := by kernel_rfl
theorem cX25 : Tryd.prog.cellsOf 25 = 1 := by kernel_rfl
theorem cX22 : Tryd.prog.cellsOf 22 = 1 := by kernel_rfl
theorem cX23 : Tryd.prog.cellsOf 23 = 1 := by kernel_rfl
theorem cX24 : Tryd.prog.cellsOf 24 = 1 := by kernel_rfl
theorem cX44 : Tryd.prog.cellsOf 31 = 1 := by kernel_rfl
theorem cX40 : Tryd.prog.cellsOf 66 = 4 := by kernel_rfl
theorem cX27 : Tryd.prog.cellsOf 27 = 8 := by kernel_rfl
theorem yX43 : Tryd.prog.bytesOf 63 = 8 := by kernel_rfl
theorem yX5 : Tryd.prog.bytesOf 5 = 1 := by kernel_rfl
theorem yX44 : Tryd.prog.bytesOf 31 = 24 := by kernel_rfl
theorem yX40 : Tryd.prog.bytesOf 66 = 64 := by kernel_rfl
abbrev FW (z : Int) : List Value := [Value.int .u64 z]
abbrev FY (z : Int) : List Value := [Value.int .u8 z]
theorem open_W {fuel : Nat} {cs : List Value} {x : DataW H × List MemPlace} (h : DataW.trod enc Tryd.prog W 0 (fun _ => true) true fuel 63 cs = some x) (hw : ∀ n ∈ x.1.weights Tryd.prog 63, n ≤ reachBytes) : ∃ a : Int, cs = FW a ∧ u6 a := by
  obtain ⟨n, h1, _, wf⟩ := DataW.trod_int Tryd.underlying63 h
  have := bounds_u64 wf
  exact ⟨n, h1, by omega, by omega⟩
theorem open_Y {fuel : Nat} {cs : List Value} {x : DataW H × List MemPlace} (h : DataW.trod enc Tryd.prog W 0 (fun _ => true) true fuel 5 cs = some x) (hw : ∀ n ∈ x.1.weights Tryd.prog 5, n ≤ reachBytes) : ∃ a : Int, cs = FY a ∧ (0 ≤ a ∧ a ≤ 255) := by
  obtain ⟨n, h1, _, wf⟩ := DataW.trod_int Tryd.underlying5 h
  have := bounds_u8 wf
  exact ⟨n, h1, by omega, by omega⟩
/-- A page. -/
def GPg (W : World) (x : PgM) : Prop := LsAt W 1 FY x.1.1 x.1.2.1 x.1.2.2 x.2 ∧ ∀ (j : Nat) z, x.2[j]? = some z → 0 ≤ z ∧ z ≤ 255
theorem open_Pg {fuel : Nat} {cs : List Value} {x : DataW H × List MemPlace} (h : DataW.trod enc Tryd.prog W 0 (fun _ => true) true fuel 31 cs = some x) (hw : ∀ n ∈ x.1.weights Tryd.prog 31, n ≤ reachBytes) : ∃ a : PgM, cs = pgC a ∧ GPg W a := by
  obtain ⟨la, ln, lc, ls, h0, at0, el0⟩ := open_listX (c := 1) (B := 1) FY (fun (a : Int) => 0 ≤ a ∧ a ≤ 255) Tryd.underlying31 cX5 (by decide) yX5 (by decide) (fun _ _ _ h1 h2 => open_Y h1 h2) h hw
  exact ⟨((la, ln, lc), ls), h0, at0, el0⟩
/-- A frame. -/
def GFr (W : World) (x : FrM) : Prop := LsAt W 1 FW x.2.2.1.1.1 x.2.2.1.1.2.1 x.2.2.1.1.2.2 x.2.2.1.2 ∧ LsAt W 1 FW x.2.2.2.1.1 x.2.2.2.1.2.1 x.2.2.2.1.2.2 x.2.2.2.2 ∧ (∀ (j : Nat) z, x.2.2.1.2[j]? = some z → u6 z) ∧ (∀ (j : Nat) z, x.2.2.2.2[j]? = some z → u6 z) ∧ i64R x.1 ∧ i64R x.2.1
set_option maxRecDepth 100000 in
theorem open_Fr {fuel : Nat} {cs : List Value} {x : DataW H × List MemPlace} (h : DataW.trod enc Tryd.prog W 0 (fun _ => true) true fuel 66 cs = some x) (hw : ∀ n ∈ x.1.weights Tryd.prog 66, n ≤ reachBytes) : ∃ a : FrM, cs = frC a ∧ GFr W a := by
  obtain ⟨ys, m, _, hx, hl, hyl, hel⟩ := DataW.trod_struct Tryd.underlying66 h
  rw [cX40] at hl
  have hd := congrArg Prod.fst hx
  simp only at hd
  rw [hd] at hw
  match ys, hyl with
  | [y0, y1, y2, y3], _ =>
    match cs, hl with
    | [x0, x1, x2, x3], _ =>
      have e0 : DataW.trod enc Tryd.prog W 0 (fun _ => true) true m 3 (([x0, x1, x2, x3].drop 0).take (Tryd.prog.cellsOf 3)) = some y0 := hel 0 _ rfl
      have w0 := weights_part (j := 0) (u := 3) (y := y0) Tryd.underlying66 rfl rfl hw
      rw [cX3] at e0
      obtain ⟨p, h0, _, wf_p⟩ := DataW.trod_int Tryd.underlying3 e0
      have e1 : DataW.trod enc Tryd.prog W 0 (fun _ => true) true m 3 (([x0, x1, x2, x3].drop 1).take (Tryd.prog.cellsOf 3)) = some y1 := hel 1 _ rfl
      have w1 := weights_part (j := 1) (u := 3) (y := y1) Tryd.underlying66 rfl rfl hw
      rw [cX3] at e1
      obtain ⟨q, h1, _, wf_q⟩ := DataW.trod_int Tryd.underlying3 e1
      have e2 : DataW.trod enc Tryd.prog W 0 (fun _ => true) true m 23 (([x0, x1, x2, x3].drop 2).take (Tryd.prog.cellsOf 23)) = some y2 := hel 2 _ rfl
      have w2 := weights_part (j := 2) (u := 23) (y := y2) Tryd.underlying66 rfl rfl hw
      rw [cX23] at e2
      obtain ⟨la, ln, lc, ls, h2, at2, el2⟩ := open_listX (c := 1) (B := 8) FW u6 Tryd.underlying23 cX43 (by decide) yX43 (by decide) (fun _ _ _ h1 h2 => open_W h1 h2) e2 w2
      have e3 : DataW.trod enc Tryd.prog W 0 (fun _ => true) true m 23 (([x0, x1, x2, x3].drop 3).take (Tryd.prog.cellsOf 23)) = some y3 := hel 3 _ rfl
      have w3 := weights_part (j := 3) (u := 23) (y := y3) Tryd.underlying66 rfl rfl hw
      rw [cX23] at e3
      obtain ⟨ka, kn, kc, ks, h3, at3, el3⟩ := open_listX (c := 1) (B := 8) FW u6 Tryd.underlying23 cX43 (by decide) yX43 (by decide) (fun _ _ _ h1 h2 => open_W h1 h2) e3 w3
      simp at h0 h1 h2 h3
      subst h0 h1 h2 h3
      exact ⟨(p, q, ((la, ln, lc), ls), ((ka, kn, kc), ks)), rfl, at2, at3, el2, el3, i64R_of wf_p, i64R_of wf_q⟩
/-- What came in. -/
structure RawS (W : World) (s : StM) : Prop where
  f : LsAt W 4 frC s.fa s.fn s.fc s.fs
  fg : ∀ (j : Nat) x, s.fs[j]? = some x → GFr W x
  g : LsAt W 1 FW s.ga s.gn s.gc s.gs
  p : LsAt W 1 pgC s.pa s.pn s.pc s.ps
  pg : ∀ (j : Nat) x, s.ps[j]? = some x → GPg W x
  r : LsAt W 1 FW s.ra s.rn s.rc s.rs
  gr : ∀ (j : Nat) z, s.gs[j]? = some z → u6 z
  rr : ∀ (j : Nat) z, s.rs[j]? = some z → u6 z
  us : i64R s.us
  rep : i64R s.rep
  en : -128 ≤ s.en ∧ s.en ≤ 127
  tr : -128 ≤ s.tr ∧ s.tr ≤ 127
set_option maxRecDepth 100000 in
theorem open_St {fuel : Nat} {cs : List Value} {x : DataW H × List MemPlace} (h : DataW.trod enc Tryd.prog W 0 (fun _ => true) true fuel 27 cs = some x) (hw : ∀ n ∈ x.1.weights Tryd.prog 27, n ≤ reachBytes) : ∃ s : StM, cs = (stAr s).toList ∧ RawS W s := by
  obtain ⟨ys, m, _, hx, hl, hyl, hel⟩ := DataW.trod_struct Tryd.underlying27 h
  rw [cX27] at hl
  have hd := congrArg Prod.fst hx
  simp only at hd
  rw [hd] at hw
  match ys, hyl with
  | [y0, y1, y2, y3, y4, y5, y6, y7], _ =>
    match cs, hl with
    | [x0, x1, x2, x3, x4, x5, x6, x7], _ =>
      have e0 : DataW.trod enc Tryd.prog W 0 (fun _ => true) true m 22 (([x0, x1, x2, x3, x4, x5, x6, x7].drop 0).take (Tryd.prog.cellsOf 22)) = some y0 := hel 0 _ rfl
      have w0 := weights_part (j := 0) (u := 22) (y := y0) Tryd.underlying27 rfl rfl hw
      rw [cX22] at e0
      obtain ⟨fa, fn, fc, fs, h0, at0, el0⟩ := open_listX (c := 4) (B := 64) frC (GFr W) Tryd.underlying22 cX40 (by decide) yX40 (by decide) (fun _ _ _ h1 h2 => open_Fr h1 h2) e0 w0
      have e1 : DataW.trod enc Tryd.prog W 0 (fun _ => true) true m 23 (([x0, x1, x2, x3, x4, x5, x6, x7].drop 1).take (Tryd.prog.cellsOf 23)) = some y1 := hel 1 _ rfl
      have w1 := weights_part (j := 1) (u := 23) (y := y1) Tryd.underlying27 rfl rfl hw
      rw [cX23] at e1
      obtain ⟨ga, gn, gc, gs, h1, at1, el1⟩ := open_listX (c := 1) (B := 8) FW u6 Tryd.underlying23 cX43 (by decide) yX43 (by decide) (fun _ _ _ h1 h2 => open_W h1 h2) e1 w1
      have e2 : DataW.trod enc Tryd.prog W 0 (fun _ => true) true m 24 (([x0, x1, x2, x3, x4, x5, x6, x7].drop 2).take (Tryd.prog.cellsOf 24)) = some y2 := hel 2 _ rfl
      have w2 := weights_part (j := 2) (u := 24) (y := y2) Tryd.underlying27 rfl rfl hw
      rw [cX24] at e2
      obtain ⟨pa, pn, pc, ps, h2, at2, el2⟩ := open_listX (c := 1) (B := 24) pgC (GPg W) Tryd.underlying24 cX44 (by decide) yX44 (by decide) (fun _ _ _ h1 h2 => open_Pg h1 h2) e2 w2
      have e3 : DataW.trod enc Tryd.prog W 0 (fun _ => true) true m 3 (([x0, x1, x2, x3, x4, x5, x6, x7].drop 3).take (Tryd.prog.cellsOf 3)) = some y3 := hel 3 _ rfl
      have w3 := weights_part (j := 3) (u := 3) (y := y3) Tryd.underlying27 rfl rfl hw
      rw [cX3] at e3
      obtain ⟨rep, h3, _, wf_rep⟩ := DataW.trod_int Tryd.underlying3 e3
      have e4 : DataW.trod enc Tryd.prog W 0 (fun _ => true) true m 25 (([x0, x1, x2, x3, x4, x5, x6, x7].drop 4).take (Tryd.prog.cellsOf 25)) = some y4 := hel 4 _ rfl
      have w4 := weights_part (j := 4) (u := 25) (y := y4) Tryd.underlying27 rfl rfl hw
      rw [cX25] at e4
      obtain ⟨en, h4, _, wf_en⟩ := DataW.trod_int Tryd.underlying25 e4
      have e5 : DataW.trod enc Tryd.prog W 0 (fun _ => true) true m 23 (([x0, x1, x2, x3, x4, x5, x6, x7].drop 5).take (Tryd.prog.cellsOf 23)) = some y5 := hel 5 _ rfl
      have w5 := weights_part (j := 5) (u := 23) (y := y5) Tryd.underlying27 rfl rfl hw
      rw [cX23] at e5
      obtain ⟨ra, rn, rc, rs, h5, at5, el5⟩ := open_listX (c := 1) (B := 8) FW u6 Tryd.underlying23 cX43 (by decide) yX43 (by decide) (fun _ _ _ h1 h2 => open_W h1 h2) e5 w5
      have e6 : DataW.trod enc Tryd.prog W 0 (fun _ => true) true m 25 (([x0, x1, x2, x3, x4, x5, x6, x7].drop 6).take (Tryd.prog.cellsOf 25)) = some y6 := hel 6 _ rfl
      have w6 := weights_part (j := 6) (u := 25) (y := y6) Tryd.underlying27 rfl rfl hw
      rw [cX25] at e6
      obtain ⟨tr, h6, _, wf_tr⟩ := DataW.trod_int Tryd.underlying25 e6
      have e7 : DataW.trod enc Tryd.prog W 0 (fun _ => true) true m 2 (([x0, x1, x2, x3, x4, x5, x6, x7].drop 7).take (Tryd.prog.cellsOf 2)) = some y7 := hel 7 _ rfl
      have w7 := weights_part (j := 7) (u := 2) (y := y7) Tryd.underlying27 rfl rfl hw
      rw [cX2] at e7
      obtain ⟨us, h7, _, wf_us⟩ := DataW.trod_int Tryd.underlying2 e7
      simp at h0 h1 h2 h3 h4 h5 h6 h7
      subst h0 h1 h2 h3 h4 h5 h6 h7
      exact ⟨⟨fa, fn, fc, fs, ga, gn, gc, gs, pa, pn, pc, ps, rep, en, ra, rn, rc, rs, tr, us⟩, rfl, at0, el0, at1, at2, el2, at5, el1, el5, i64R_of wf_us, i64R_of wf_rep, bounds_i8 wf_en, bounds_i8 wf_tr⟩
theorem LsAt.si {a : Option Addr} {n cap : Nat} {xs : List Int} (h : LsAt W 1 FW a n cap xs) : SI .u64 W a n xs :=
  ⟨h.len, h.at_.imp id fun ⟨b, off, e, hc⟩ => ⟨b, off, e, fun j x hj => by have := hc j x hj 0 _ rfl; rwa [Nat.mul_one] at this⟩⟩
theorem LsAt.sy {a : Option Addr} {n cap : Nat} {xs : List Int} (h : LsAt W 1 FY a n cap xs) : SI .u8 W a n xs :=
  ⟨h.len, h.at_.imp id fun ⟨b, off, e, hc⟩ => ⟨b, off, e, fun j x hj => by have := hc j x hj 0 _ rfl; rwa [Nat.mul_one] at this⟩⟩
theorem RawS.read {s : StM} (h : RawS W s) : SSt W s := by
  refine ⟨⟨h.f.len, h.f.at_.imp id fun ⟨b, off, e, hc⟩ => ⟨b, off, e, fun j x hj => ⟨hc j x hj 0 _ rfl, hc j x hj 1 _ rfl, hc j x hj 2 _ rfl, hc j x hj 3 _ rfl⟩⟩, fun x hx => ?_⟩, h.g.si, ⟨h.p.len, h.p.at_.imp id fun ⟨b, off, e, hc⟩ => ⟨b, off, e, fun j x hj => by have := hc j x hj 0 _ rfl; rwa [Nat.mul_one] at this⟩, fun x hx => ?_⟩, h.r.si⟩
  · obtain ⟨j, hj⟩ := List.getElem?_of_mem hx
    exact ⟨(h.fg j x hj).1.si, (h.fg j x hj).2.1.si⟩
  · obtain ⟨j, hj⟩ := List.getElem?_of_mem hx
    exact (h.pg j x hj).1.sy
theorem RawS.sm {s : StM} (h : RawS W s) : SM s := by
  refine ⟨h.f.big, h.g.big, h.p.big, h.r.big, fun x hx => ?_, fun x hx => ?_⟩
  · obtain ⟨j, hj⟩ := List.getElem?_of_mem hx
    exact ⟨(h.fg j x hj).1.big, (h.fg j x hj).2.1.big⟩
  · obtain ⟨j, hj⟩ := List.getElem?_of_mem hx
    exact (h.pg j x hj).1.big
theorem RawS.by_ {s : StM} (h : RawS W s) : BY s := fun x hx z hz => by
  obtain ⟨j, hj⟩ := List.getElem?_of_mem hx
  obtain ⟨i, hi⟩ := List.getElem?_of_mem hz
  exact (h.pg j x hj).2 i z hi
set_option maxRecDepth 100000 in
theorem open_state {base : Nat} {v : Value} {d : DataW H} {ps : List MemPlace} (hval : Value.okWide Tryd.prog W .any base 27 v) (h : DataW.Trod enc Tryd.prog W 0 (fun _ => true) true 27 v d ps) (hw : ∀ n ∈ d.weights Tryd.prog 27, n ≤ reachBytes) :
    ∃ s : StM, v = .agg (stAr s) ∧ RawS W s := by
  obtain ⟨cs, rfl, hsz⟩ := okWide_struct Tryd.underlying27 hval
  obtain ⟨fuel, hf⟩ := h
  obtain ⟨s, hcs, hr⟩ := open_St hf hw
  have ec' : cs = stAr s := by
    apply Array.toList_inj.1
    exact hcs
  exact ⟨s, by rw [ec'], hr⟩
theorem RawS.sr {s : StM} (h : RawS W s) : SR s := by
  refine ⟨h.en, h.tr, fun v hv => ?_, fun v hv => ?_, fun f hf => ⟨fun v hv => ?_, fun v hv => ?_⟩, fun p hp => ?_⟩
  · obtain ⟨j, hj⟩ := List.getElem?_of_mem hv; exact h.rr j v hj
  · obtain ⟨j, hj⟩ := List.getElem?_of_mem hv; exact h.gr j v hj
  · obtain ⟨i, hi⟩ := List.getElem?_of_mem hf
    obtain ⟨j, hj⟩ := List.getElem?_of_mem hv
    exact (h.fg i f hi).2.2.1 j v hj
  · obtain ⟨i, hi⟩ := List.getElem?_of_mem hf
    obtain ⟨j, hj⟩ := List.getElem?_of_mem hv
    exact (h.fg i f hi).2.2.2.1 j v hj
  · obtain ⟨i, hi⟩ := List.getElem?_of_mem hp
    exact (h.pg i p hi).1.cap_
theorem RawS.rg {s : StM} (h : RawS W s) : RgS s := by
  have hs := h.sr
  refine ⟨h.us, h.rep, hs.rs, hs.gs, fun f hf => ?_, fun p hp => ?_⟩
  · obtain ⟨i, hi⟩ := List.getElem?_of_mem hf
    exact ⟨hs.fs f hf, (h.fg i f hi).2.2.2.2.1, (h.fg i f hi).2.2.2.2.2⟩
  · obtain ⟨i, hi⟩ := List.getElem?_of_mem hp
    exact (h.pg i p hi).1.len
end
end Go.Proofs.YtbdjghokedfkfaaDoor

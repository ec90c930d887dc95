/-
  The document's Write, whole.
-/
import Derived.Test.YtbdjghokedfkfaaDoorDb
namespace Go.Proofs.YtbdjghokedfkfaaDoor
open Go.RowKit
set_option linter.unusedVariables false
set_option maxRecDepth 100000

/-- Bytes more onto bytes that are being written. -/
theorem app_bo (w : World) {ops : Array Oper} {rest : List Oper} {o : Oper} {a : Act} {Q : Exit → Act → World → Prop} (hgd : o.guard = none)
    (s x : Operand) (ho : o.op = Op.call { callee := Callee.builtin Builtin.append, args := #[s, x], argTypes := #[31, 31] }) (base : Nat) (v : Value) (bs : List Int)
    (hs : a.eval s = v) (hB : BO base w v bs) (ad : Addr) (m c : Nat) (zs : List Int) (hx : a.eval x = .slice (some ad) m c) (hl : zs.length = m) (hm : 0 < m)
    (hc : ∀ (j : Nat) (u : Value), (zs.map (Value.int .u8))[j]? = some u → w.cell? (ad.add j) = some u) (hb : bs.length + m ≤ 1099511627776) (hbase : base ≤ w.heap.size)
    (h : ∀ (v' : Value) (w' : World), BO base w' v' (bs ++ zs) → Below base w w' → wpList Tryd.prog ops Q rest (a.put o.dst v') w') :
    wpList Tryd.prog ops Q (o :: rest) a w := by
  obtain ⟨i0, hi, hz0, hz1, hz2⟩ := info_parts Tryd.info5
  obtain ⟨g, cap, rfl, hr, hg⟩ := hB
  refine app_buf w hgd s x 31 ho i0 (.int .u8 0) Tryd.underlying31 hi hz0 hz1 hz2 rfl g bs.length cap _ hs hr ad m c (zs.map (Value.int .u8)) hx (by simp [hl]) hc (ints_one _) hm (by unfold maxLen; omega) (by omega) ?_
  intro B cap' w' hrow hk hor
  have e : bs.length + m = (bs ++ zs).length := by rw [List.length_append, hl]
  rw [e] at hrow ⊢
  refine h _ _ ⟨B, cap', rfl, .inl (by rw [List.map_append]; exact hrow), ?_⟩ (hk.to_below hbase (fun k hk h => by omega))
  rcases hor with h | h <;> omega
theorem flat_len {α : Type} {f : α → List Int} {C : Nat} : ∀ (l : List α), (∀ x ∈ l, (f x).length ≤ C) → (l.flatMap f).length ≤ C * l.length
  | [], _ => by simp
  | x :: l, h => by
    rw [List.flatMap_cons, List.length_append, List.length_cons, Nat.mul_add]
    have h1 := h x (by simp)
    have h2 := flat_len l (fun y hy => h y (by simp [hy]))
    omega
theorem allZ_is {l : List Int} (h : l.length = 4096) : allZ l = decide (l = Zp) := by
  unfold allZ Zp
  by_cases e : l = List.replicate 4096 0
  · rw [decide_eq_true e, List.all_eq_true]
    intro z hz
    rw [e] at hz
    simpa using List.eq_of_mem_replicate hz
  · rw [decide_eq_false e, ← Bool.not_eq_true, List.all_eq_true]
    intro hh
    apply e
    rw [List.eq_replicate_iff]
    exact ⟨h, fun b hb => by simpa using hh b hb⟩
theorem encF_len {f : FrM} (h : MayF f) (h1 : f.2.2.1.2.length = f.2.2.1.1.2.1) (h2 : f.2.2.2.2.length = f.2.2.2.1.2.1) : (encF f).length ≤ 4000 := by
  obtain ⟨_, _, _, _, t5, t6⟩ := h
  unfold encF
  have a := (uvar_len (u64 f.1)).2
  have b := (uvar_len (u64 f.2.1)).2
  have c := encL_len (l := f.2.2.1.2)
  have d := encL_len (l := f.2.2.2.2)
  simp only [List.length_append]
  omega
theorem mg_buf {w w' : World} (h : Below (w.alloc mgO).heap.size (w.alloc mgO) w') (base : Nat) (hb : base ≤ w.heap.size) : BO base w' (.slice (some ⟨w.heap.size, 0, none⟩) 5 5) mgc := by
  have k := nb_later h (nb_new w mgO)
  refine ⟨w.heap.size, 5, rfl, .inr ⟨rfl, by first | (unfold maxLen; decide) | decide, nb_lt k, rfl, fun j u hj => ?_⟩, hb⟩
  have : w'.cell? ⟨w.heap.size, j, none⟩ = mgA[j]? := by simp only [World.cell?, k]; rfl
  rw [this]
  exact (by simpa [mgc] using hj)
theorem one_by (w : World) (z : Int) : ∀ (j : Nat) (u : Value), ([z].map (Value.int .u8))[j]? = some u → (w.alloc (.cells #[.int .u8 z] 5)).cell? ((⟨w.heap.size, 0, none⟩ : Addr).add j) = some u := fun j u hj => by
  match j, hj with
  | 0, hj => simp at hj; subst hj; simp [Addr.add]
  | j + 1, hj => simp at hj
theorem si_cells {w : World} {a : Option Addr} {n : Nat} {l : List Int} (h : SI .u8 w a n l) (h0 : 0 < n) : ∃ ad, a = some ad ∧ ∀ (j : Nat) (u : Value), (l.map (Value.int .u8))[j]? = some u → w.cell? (ad.add j) = some u := by
  rcases h.2 with h | ⟨b, off, e, hc⟩
  · omega
  · refine ⟨_, e, fun j u hj => ?_⟩
    rw [List.getElem?_map, Option.map_eq_some_iff] at hj
    obtain ⟨z, hz, rfl⟩ := hj
    have hp : (⟨b, off, none⟩ : Addr).add j = ⟨b, off + j, none⟩ := by unfold Addr.add; split <;> simp_all
    rw [hp]
    exact hc j z hz
theorem idxF_len (ps : List PgM) (k : Nat) (hp : ∀ p ∈ ps, p.2.length = 4096) (hk : k ≤ 64) : ((idxTo ps k).flatMap (encK ps)).length ≤ 4106 * 64 := by
  have h1 := flat_len (f := encK ps) (C := 4106) (idxTo ps k) (fun z hz => by
    unfold encK
    rw [List.length_append]
    have := (uvar_len z).2
    have h2 : ((ps[z.toNat]?).elim ([] : List Int) (fun x => x.2)).length ≤ 4096 := by
      cases hq : ps[z.toNat]? with
      | none => show 0 ≤ 4096; omega
      | some y => show y.2.length ≤ 4096; rw [hp y (List.mem_of_getElem? hq)]; exact Nat.le_refl _
    omega)
  have h3 := idxTo_len ps k
  have h4 : 4106 * (idxTo ps k).length ≤ 4106 * 64 := Nat.mul_le_mul_left _ (by omega)
  omega
theorem idxTo_at {ps : List PgM} {k : Nat} (hk : k = ps.length) : idxTo ps k = idx ps := by subst hk; rfl
/-- The document's answer. -/
def RwA (x : StM) (w : World) : Ending → World → Prop := fun e w' => Below w.heap.size w w' ∧ (¬ MayS x ∧ e = .returned (.tuple #[.slice none 0 0, .int .i64 44]) ∨ MayS x ∧ ∃ v, e = .returned (.tuple #[v, .int .i64 0]) ∧ BO w.heap.size w' v (mgc ++ encS x))
theorem rwA_no {x : StM} {w w' : World} {e : Ending} (h : ¬ MayS x) (he : e = .returned (.tuple #[.slice none 0 0, .int .i64 44])) (hb : Below w.heap.size w w') : RwA x w e w' := ⟨hb, .inl ⟨h, he⟩⟩
theorem rwA_yes {x : StM} {w w' : World} {e : Ending} {v : Value} {bs : List Int} (h : MayS x) (he : e = .returned (.tuple #[v, .int .i64 0])) (hb : Below w.heap.size w w') (hv : BO w.heap.size w' v bs) (hbs : bs = mgc ++ encS x) : RwA x w e w' := ⟨hb, .inr ⟨h, v, he, hbs ▸ hv⟩⟩
set_option maxHeartbeats 16000000 in
theorem rwrite9 (x : StM) (w : World) (hS : SSt w x) (hr : RgS x) :
    Calls Tryd.prog 9 #[.agg (stAr x)] w (RwA x w) := by
  have b1 := below_new w (stO x)
  have k1 := nb_new w (stO x)
  have HC := hid (fun (W : World) (hb : Below (w.alloc (stO x)).heap.size (w.alloc (stO x)) W) => (⟨later_cell hb (cell_at k1), later_cell hb (cell_at k1), later_cell hb (cell_at k1), later_cell hb (cell_at k1), later_cell hb (cell_at k1), later_cell hb (cell_at k1), later_cell hb (cell_at k1), later_cell hb (cell_at k1)⟩ : W.cell? ⟨w.heap.size, 0, none⟩ = some (.slice x.fa x.fn x.fc) ∧ W.cell? ⟨w.heap.size, 1, none⟩ = some (.slice x.ga x.gn x.gc) ∧ W.cell? ⟨w.heap.size, 2, none⟩ = some (.slice x.pa x.pn x.pc) ∧ W.cell? ⟨w.heap.size, 3, none⟩ = some (.int .i64 x.rep) ∧ W.cell? ⟨w.heap.size, 4, none⟩ = some (.int .i8 x.en) ∧ W.cell? ⟨w.heap.size, 5, none⟩ = some (.slice x.ra x.rn x.rc) ∧ W.cell? ⟨w.heap.size, 6, none⟩ = some (.int .i8 x.tr) ∧ W.cell? ⟨w.heap.size, 7, none⟩ = some (.int .i64 x.us)))
  have HS := hid (fun (W : World) (hb : Below (w.alloc (stO x)).heap.size (w.alloc (stO x)) W) => (hS.later b1).later hb)
  have HS1 := hid (hS.later b1)
  have HM := hid (may26 x _ (hS.later b1))
  have HB1 := hid b1
  have HR := hid hr
  have c0 : (w.alloc (stO x)).cell? ⟨w.heap.size, 0, none⟩ = some (.slice x.fa x.fn x.fc) := cell_at k1
  have c1 : (w.alloc (stO x)).cell? ⟨w.heap.size, 1, none⟩ = some (.slice x.ga x.gn x.gc) := cell_at k1
  have c2 : (w.alloc (stO x)).cell? ⟨w.heap.size, 2, none⟩ = some (.slice x.pa x.pn x.pc) := cell_at k1
  have c3 : (w.alloc (stO x)).cell? ⟨w.heap.size, 3, none⟩ = some (.int .i64 x.rep) := cell_at k1
  have c4 : (w.alloc (stO x)).cell? ⟨w.heap.size, 4, none⟩ = some (.int .i8 x.en) := cell_at k1
  have c5 : (w.alloc (stO x)).cell? ⟨w.heap.size, 5, none⟩ = some (.slice x.ra x.rn x.rc) := cell_at k1
  have c6 : (w.alloc (stO x)).cell? ⟨w.heap.size, 6, none⟩ = some (.int .i8 x.tr) := cell_at k1
  have c7 : (w.alloc (stO x)).cell? ⟨w.heap.size, 7, none⟩ = some (.int .i64 x.us) := cell_at k1
  have ef : x.fs.length = x.fn := hS.fr.len
  have ep : x.ps.length = x.pn := hS.pg.len
  have er : x.rs.length = x.rn := hS.rs.1
  have eg : x.gs.length = x.gn := hS.gl.1
  have EF := hid ef
  have EP := hid ep
  have ER := hid er
  have EG := hid eg
  have hs1 : w.heap.size ≤ (w.alloc (stO x)).heap.size := b1.size
  clear b1 k1 hS hr ef ep er eg
  go_enter Tryd.func9, Tryd.ntmps9
  go_wp2_with fail
  generalize w.alloc (stO x) = W1 at *
  refine HM.out.mono ?_
  rintro e w2 ⟨b, rfl, hbm, hb2⟩
  have B2 := hid hb2
  clear hb2 HM c0 c1 c2 c3 c4 c5 c6 c7
  cases b with
  | false =>
    have HN := hid (show ¬ MayS x from fun h => by have := hbm.2 h; cases this)
    clear hbm
    go_wp2_with fail
    go_ret2
    exact rwA_no HN.out rfl (HB1.out.trans (B2.out.mono HB1.out.size))
  | true =>
  have HY := hid (hbm.1 rfl)
  clear hbm
  have hcv := cnvM w2 w2.heap.size rfl
  have we : IntKind.u8.wrap x.en = x.en := by have := HY.out.en; simp only [IntKind.wrap_u8]; omega
  have wt : IntKind.u8.wrap x.tr = x.tr := by have := HY.out.tr; simp only [IntKind.wrap_u8]; omega
  have b3 := below_new w2 mgO
  have b4 := b3.trans ((below_new (w2.alloc mgO) (.cells #[.int .u8 x.en] 5)).mono b3.size)
  have B4 := hid (B2.out.trans (b4.mono B2.out.size))
  have BO4 := hid (mg_buf (below_new (w2.alloc mgO) (.cells #[.int .u8 x.en] 5)) W1.heap.size B2.out.size)
  have OB := hid (one_by (w2.alloc mgO) x.en)
  have B3 := hid (B2.out.trans (b3.mono B2.out.size))
  obtain ⟨c0, c1, c2, c3, c4, c5, c6, c7⟩ := HC.out _ B3.out
  have hsz : (w2.alloc mgO).heap.size = w2.heap.size + 1 := by simp
  rw [hsz] at OB
  clear b3 b4
  go_upto_region 6 with (at_builtin; (refine app_bo _ rfl (.tmp 17) (.tmp 21) rfl W1.heap.size _ mgc rfl BO4.out ⟨w2.heap.size + 1, 0, none⟩ 1 1 [x.en] rfl rfl (by omega) OB.out (by decide) B4.out.size ?_; intro v5 w5 ho5 hb5; have BO5 := hid ho5; have B5 := hid (B4.out.trans hb5); clear ho5 hb5))
  clear c0 c1 c2 c3 c4 c5 c6 c7
  obtain ⟨c0, c1, c2, c3, c4, c5, c6, c7⟩ := HC.out _ B5.out
  have B5a := hid (B5.out.trans ((below_new w5 (.cells #[.int .u8 x.tr] 5)).mono B5.out.size))
  have BO5a := hid (BO5.out.later (below_new w5 (.cells #[.int .u8 x.tr] 5)))
  have OB2 := hid (one_by w5 x.tr)
  clear OB BO4 B4 B3 hcv hsz
  go_upto_region 7 with (at_builtin; (refine app_bo _ rfl (.tmp 23) (.tmp 27) rfl W1.heap.size _ (mgc ++ [x.en]) rfl BO5a.out ⟨w5.heap.size, 0, none⟩ 1 1 [x.tr] rfl rfl (by omega) OB2.out (by show 6 + 1 ≤ 1099511627776; omega) B5a.out.size ?_; intro v6 w6 ho hb; have BO6 := hid ho; have B6 := hid (B5a.out.trans hb); clear ho hb))
  clear OB2 BO5a B5a BO5 B5 we wt
  clear c0 c1 c2 c3 c4 c5 c6 c7
  obtain ⟨b6, hb6⟩ : ∃ b, b = mgc ++ [x.en] ++ [x.tr] := ⟨_, rfl⟩
  rw [← hb6] at BO6
  have l6 : b6.length ≤ 7 := by rw [hb6]; show 7 ≤ 7; omega
  have E6 := hid hb6
  clear hb6
  obtain ⟨c0, c1, c2, c3, c4, c5, c6, c7⟩ := HC.out _ B6.out
  have N7 := hid (rnum27 v6 b6 (u64 x.us) W1 w6 BO6.out B6.out (u64_rng x.us).1 (u64_rng x.us).2 (by omega))
  go_wp2_with fail
  refine N7.out.mono ?_
  rintro e w7 ⟨v7, rfl, ho, hb, -⟩
  obtain ⟨b7, hbs⟩ : ∃ b, b = b6 ++ uvar (u64 x.us) := ⟨_, rfl⟩
  rw [← hbs] at ho
  have l7 : b7.length ≤ 17 := by rw [hbs, List.length_append]; have := (uvar_len (u64 x.us)).2; omega
  have E7 := hid hbs
  have BO7 := hid ho
  have B7 := hid hb
  clear ho hb hbs N7 BO6 B6
  clear c0 c1 c2 c3 c4 c5 c6 c7
  obtain ⟨c0, c1, c2, c3, c4, c5, c6, c7⟩ := HC.out _ B7.out
  have N8 := hid (rnum27 v7 b7 (u64 x.rep) W1 w7 BO7.out B7.out (u64_rng x.rep).1 (u64_rng x.rep).2 (by omega))
  go_wp2_with fail
  refine N8.out.mono ?_
  rintro e w8 ⟨v8, rfl, ho, hb, -⟩
  obtain ⟨b8, hbs⟩ : ∃ b, b = b7 ++ uvar (u64 x.rep) := ⟨_, rfl⟩
  rw [← hbs] at ho
  have l8 : b8.length ≤ 27 := by rw [hbs, List.length_append]; have := (uvar_len (u64 x.rep)).2; omega
  have E8 := hid hbs
  have BO8 := hid ho
  have B8 := hid hb
  clear ho hb hbs N8 BO7 B7
  clear c0 c1 c2 c3 c4 c5 c6 c7
  obtain ⟨c0, c1, c2, c3, c4, c5, c6, c7⟩ := HC.out _ B8.out
  have N9 := hid (rval28 v8 b8 x.ra x.rn x.rc x.rs W1 w8 BO8.out HS1.out.rs HR.out.rs B8.out (by have := HY.out.rs; omega) (by have := HY.out.rs; omega))
  go_wp2_with fail
  refine N9.out.mono ?_
  rintro e w9 ⟨v9, rfl, ho, hb, -⟩
  obtain ⟨b9, hbs⟩ : ∃ b, b = b8 ++ encL (x.rs) := ⟨_, rfl⟩
  rw [← hbs] at ho
  have l9 : b9.length ≤ 200 := by rw [hbs, List.length_append]; have := encL_len (l := x.rs); have := HS1.out.rs.1; have := HY.out.rs; omega
  have E9 := hid hbs
  have BO9 := hid ho
  have B9 := hid hb
  clear ho hb hbs N9 BO8 B8
  clear c0 c1 c2 c3 c4 c5 c6 c7
  obtain ⟨c0, c1, c2, c3, c4, c5, c6, c7⟩ := HC.out _ B9.out
  have N10 := hid (rval28 v9 b9 x.ga x.gn x.gc x.gs W1 w9 BO9.out HS1.out.gl HR.out.gs B9.out (by have := HY.out.gs; omega) (by have := HY.out.gs; omega))
  go_wp2_with fail
  refine N10.out.mono ?_
  rintro e w10 ⟨v10, rfl, ho, hb, -⟩
  obtain ⟨b10, hbs⟩ : ∃ b, b = b9 ++ encL (x.gs) := ⟨_, rfl⟩
  rw [← hbs] at ho
  have l10 : b10.length ≤ 1000 := by rw [hbs, List.length_append]; have := encL_len (l := x.gs); have := HS1.out.gl.1; have := HY.out.gs; omega
  have E10 := hid hbs
  have BO10 := hid ho
  have B10 := hid hb
  clear ho hb hbs N10 BO9 B9
  clear c0 c1 c2 c3 c4 c5 c6 c7
  have hpn := HY.out.ps
  have hfn := HY.out.fs
  have wpn : IntKind.u64.wrap (x.pn : Int) = (x.pn : Int) := by simp only [IntKind.wrap_u64]; omega
  have wfn : IntKind.u64.wrap (x.fn : Int) = (x.fn : Int) := by simp only [IntKind.wrap_u64]; omega
  obtain ⟨c0, c1, c2, c3, c4, c5, c6, c7⟩ := HC.out _ B10.out
  have N11 := hid (rnum27 v10 b10 ((x.pn : Int)) W1 w10 BO10.out B10.out ((show (0 : Int) ≤ (x.pn : Int) ∧ (x.pn : Int) < 18446744073709551616 from ⟨by omega, by omega⟩)).1 ((show (0 : Int) ≤ (x.pn : Int) ∧ (x.pn : Int) < 18446744073709551616 from ⟨by omega, by omega⟩)).2 (by omega))
  go_wp2_with fail
  refine N11.out.mono ?_
  rintro e w11 ⟨v11, rfl, ho, hb, -⟩
  obtain ⟨b11, hbs⟩ : ∃ b, b = b10 ++ uvar ((x.pn : Int)) := ⟨_, rfl⟩
  rw [← hbs] at ho
  have l11 : b11.length ≤ 1010 := by rw [hbs, List.length_append]; have := (uvar_len ((x.pn : Int))).2; omega
  have E11 := hid hbs
  have BO11 := hid ho
  have B11 := hid hb
  clear ho hb hbs N11 BO10 B10
  clear c0 c1 c2 c3 c4 c5 c6 c7
  have HPL := hid (show ∀ p ∈ x.ps, p.2.length = 4096 from fun p hp => by rw [HR.out.pl p hp]; exact HY.out.pl p hp)
  go_wp2_with fail
  go_loopw [6, 7] (fun m i wr => ∃ k : Nat, k ≤ x.pn ∧ i = .int .i64 k ∧ m = .int .i64 ((idxTo x.ps k).length : Nat) ∧ Hid (BO W1.heap.size wr v11 b11) ∧ Hid (Below W1.heap.size W1 wr)) (fun _ i _ => x.pn - (intOf i).toNat)
  case atStart => exact ⟨0, by omega, rfl, rfl, BO11, B11⟩
  clear BO11 B11
  case round =>
    obtain ⟨k, hk, rfl, rfl, BO11, B11⟩ := hrel
    obtain ⟨c0, c1, c2, c3, c4, c5, c6, c7⟩ := HC.out _ B11.out
    have hkl := idxTo_len x.ps k
    by_cases hlt : k < x.pn
    · have hlt' : (k : Int) < (x.pn : Int) := by omega
      obtain ⟨y, hy⟩ : ∃ y, x.ps[k]? = some y := ⟨_, List.getElem?_eq_getElem (by rw [EP.out]; omega)⟩
      have hyl := HPL.out y (List.mem_of_getElem? hy)
      have hyn := HY.out.pl y (List.mem_of_getElem? hy)
      have HSI := hid ((HS.out _ B11.out).pg.in_ y (List.mem_of_getElem? hy))
      obtain ⟨b, off, hpa, hat⟩ := ((HS.out _ B11.out).pg.at_).resolve_left (by omega)
      have e0 := hat k y hy
      have HZ := hid (nou29 y.1.1 y.1.2.1 y.1.2.2 y.2 _ HSI.out (by omega))
      rw [hpa] at c2
      rw [allZ_is hyl] at HZ
      have HI := hid (idxTo_succ x.ps k y hy)
      clear hat hy hyl hyn HSI hpa
      go_wp2_with fail
      refine HZ.out.mono ?_
      rintro e w' ⟨rfl, hw'⟩
      rw [hw']
      by_cases hz : y.2 = Zp
      · have hzz : decide (y.2 = Zp) = true := decide_eq_true hz
        rw [hzz]
        have hI := HI.out
        rw [if_pos hz] at hI
        go_wp2_with fail
        exact ⟨⟨k + 1, by omega, by go_num, by rw [hI], BO11, B11⟩, by simp [intOf]; omega⟩
      · have hzz : decide (y.2 = Zp) = false := decide_eq_false hz
        rw [hzz]
        have hI := HI.out
        rw [if_neg hz] at hI
        have HII := hid hI
        clear hI
        go_wp2_with fail
        exact ⟨⟨k + 1, by omega, by go_num, by rw [HII.out, List.length_append]; go_num, BO11, B11⟩, by simp [intOf]; omega⟩
    · have hlt' : ¬ (k : Int) < (x.pn : Int) := by omega
      obtain rfl : k = x.pn := by omega
      have EI := hid (idxTo_at (ps := x.ps) (k := x.pn) (by rw [EP.out]))
      rw [EI.out] at hkl
      rw [EI.out]
      obtain ⟨N, hN⟩ : ∃ N, (idx x.ps).length = N := ⟨_, rfl⟩
      rw [hN] at hkl ⊢
      have EN := hid hN
      have wN : IntKind.u64.wrap (N : Int) = (N : Int) := by simp only [IntKind.wrap_u64]; omega
      clear hN
      generalize wr = w11 at *
      have N12 := hid (rnum27 v11 b11 ((N : Int)) W1 w11 BO11.out B11.out ((show (0 : Int) ≤ (N : Int) ∧ (N : Int) < 18446744073709551616 from ⟨by omega, by omega⟩)).1 ((show (0 : Int) ≤ (N : Int) ∧ (N : Int) < 18446744073709551616 from ⟨by omega, by omega⟩)).2 (by omega))
      go_wp2_with fail
      refine N12.out.mono ?_
      rintro e w12 ⟨v12, rfl, ho, hb, -⟩
      obtain ⟨b12, hbs⟩ : ∃ b, b = b11 ++ uvar ((N : Int)) := ⟨_, rfl⟩
      rw [← hbs] at ho
      have l12 : b12.length ≤ 1020 := by rw [hbs, List.length_append]; have := (uvar_len ((N : Int))).2; omega
      have E12 := hid hbs
      have BO12 := hid ho
      have B12 := hid hb
      clear ho hb hbs N12 BO11 B11
      clear c0 c1 c2 c3 c4 c5 c6 c7
      go_wp2_with fail
      have BO12' := hid (show BO W1.heap.size w12 v12 (b12 ++ (idxTo x.ps 0).flatMap (encK x.ps)) by have := BO12.out; simpa [idxTo] using this)
      go_loopw [5, 8] (fun v i wr => ∃ k : Nat, k ≤ x.pn ∧ i = .int .i64 k ∧ Hid (BO W1.heap.size wr v (b12 ++ (idxTo x.ps k).flatMap (encK x.ps))) ∧ Hid (Below W1.heap.size W1 wr)) (fun _ i _ => x.pn - (intOf i).toNat)
      case atStart => exact ⟨0, by omega, rfl, BO12', B12⟩
      clear BO12 BO12' B12
      case round =>
        obtain ⟨k, hk, rfl, BOk, Bk⟩ := hrel
        obtain ⟨c0, c1, c2, c3, c4, c5, c6, c7⟩ := HC.out _ Bk.out
        have hkl := idxF_len x.ps k HPL.out (by omega)
        by_cases hlt : k < x.pn
        · have hlt' : (k : Int) < (x.pn : Int) := by omega
          obtain ⟨y, hy⟩ : ∃ y, x.ps[k]? = some y := ⟨_, List.getElem?_eq_getElem (by rw [EP.out]; omega)⟩
          have hyl := HPL.out y (List.mem_of_getElem? hy)
          have hyn := HY.out.pl y (List.mem_of_getElem? hy)
          have HPA := hid (fun (W : World) (hW : Below W1.heap.size W1 W) => (show ∃ b off, x.pa = some ⟨b, off, none⟩ ∧ W.cell? ⟨b, off + k, none⟩ = some (.slice y.1.1 y.1.2.1 y.1.2.2) from by
            obtain ⟨b, off, hpa, hat⟩ := ((HS.out W hW).pg.at_).resolve_left (by omega)
            exact ⟨b, off, hpa, hat k y hy⟩))
          have HSI := hid (fun (W : World) (hW : Below W1.heap.size W1 W) => (HS.out W hW).pg.in_ y (List.mem_of_getElem? hy))
          have HI := hid (idxTo_succ x.ps k y hy)
          have HEK := hid (show encK x.ps (k : Int) = uvar (k : Int) ++ y.2 by unfold encK; rw [Int.toNat_natCast, hy]; rfl)
          obtain ⟨⟨ya, yn, yc⟩, yl⟩ := y
          simp only at hyl hyn HPA HSI HI HEK
          subst hyn
          have HZ := hid (nou29 ya 4096 yc yl _ (HSI.out _ Bk.out) (by omega))
          rw [allZ_is hyl] at HZ
          obtain ⟨b, off, hpa, e0⟩ := HPA.out _ Bk.out
          rw [hpa] at c2
          have HYL := hid hyl
          clear hy hyl hpa
          go_wp2_with fail
          refine HZ.out.mono ?_
          rintro e w' ⟨rfl, hw'⟩
          rw [hw']
          clear hw' HZ
          by_cases hz : yl = Zp
          · have hzz : decide (yl = Zp) = true := decide_eq_true hz
            rw [hzz]
            have hI := HI.out
            rw [if_pos hz] at hI
            clear hz HI HPA HSI HEK hzz
            go_wp2_with fail
            exact ⟨⟨k + 1, by omega, by go_num, by rw [hI]; exact BOk, Bk⟩, by simp [intOf]; omega⟩
          · have hzz : decide (yl = Zp) = false := decide_eq_false hz
            rw [hzz]
            have hI := HI.out
            rw [if_neg hz] at hI
            have HII := hid (show b12 ++ (idxTo x.ps (k + 1)).flatMap (encK x.ps) = b12 ++ (idxTo x.ps k).flatMap (encK x.ps) ++ uvar (k : Int) ++ yl by rw [hI, List.flatMap_append, List.flatMap_cons, List.flatMap_nil, List.append_nil, HEK.out]; simp)
            have wk : IntKind.u64.wrap (k : Int) = (k : Int) := by simp only [IntKind.wrap_u64]; omega
            obtain ⟨bk, hbk⟩ : ∃ bk, bk = b12 ++ (idxTo x.ps k).flatMap (encK x.ps) := ⟨_, rfl⟩
            rw [← hbk] at BOk HII
            have lk : bk.length ≤ 300000 := by rw [hbk, List.length_append]; omega
            have Nk := hid (rnum27 _ bk (k : Int) W1 _ BOk.out Bk.out (by omega) (by omega) (by omega))
            have LU := hid (uvar_len (k : Int)).2
            clear hI hz HI HEK hzz hbk
            go_wp2_with fail
            refine Nk.out.mono ?_
            rintro e wq ⟨vq, rfl, ho, hb, -⟩
            have BOq := hid ho
            have Bq := hid hb
            clear ho hb Nk c0 c1 c2 c3 c4 c5 c6 c7 e0
            obtain ⟨b', off', hpa', e0'⟩ := HPA.out _ Bq.out
            obtain ⟨c0, c1, c2, c3, c4, c5, c6, c7⟩ := HC.out _ Bq.out
            rw [hpa'] at c2
            obtain ⟨ad, hya, hcs⟩ := si_cells (HSI.out _ Bq.out) (by omega)
            subst hya
            have HCS := hid hcs
            clear hcs HPA HSI hpa'
            go_wp2_with (at_builtin; (refine app_bo _ rfl (.tmp 91) (.tmp 96) rfl W1.heap.size _ (bk ++ uvar (k : Int)) rfl BOq.out ad 4096 yc yl rfl HYL.out (by omega) HCS.out (by rw [List.length_append]; have := LU.out; omega) Bq.out.size ?_; intro v9 w9 ho hb; have BO9 := hid ho; have B9 := hid (Bq.out.trans hb); clear ho hb))
            exact ⟨⟨k + 1, by omega, by go_num, by rw [HII.out]; exact BO9, B9⟩, by simp [intOf]; omega⟩
        · have hlt' : ¬ (k : Int) < (x.pn : Int) := by omega
          obtain rfl : k = x.pn := by omega
          rw [EI.out] at hkl BOk
          obtain ⟨b13, hb13⟩ : ∃ b, b = b12 ++ (idx x.ps).flatMap (encK x.ps) := ⟨_, rfl⟩
          rw [← hb13] at BOk
          have l13 : b13.length ≤ 300000 := by rw [hb13, List.length_append]; omega
          have E13 := hid hb13
          have BO13 := BOk
          have B13 := Bk
          clear hb13 BOk Bk
          generalize wr = w13 at *
          generalize u5 = v13 at *
          have N14 := hid (rnum27 v13 b13 ((x.fn : Int)) W1 w13 BO13.out B13.out ((show (0 : Int) ≤ (x.fn : Int) ∧ (x.fn : Int) < 18446744073709551616 from ⟨by omega, by omega⟩)).1 ((show (0 : Int) ≤ (x.fn : Int) ∧ (x.fn : Int) < 18446744073709551616 from ⟨by omega, by omega⟩)).2 (by omega))
          go_wp2_with fail
          refine N14.out.mono ?_
          rintro e w14 ⟨v14, rfl, ho, hb, -⟩
          obtain ⟨b14, hbs⟩ : ∃ b, b = b13 ++ uvar ((x.fn : Int)) := ⟨_, rfl⟩
          rw [← hbs] at ho
          have l14 : b14.length ≤ 300010 := by rw [hbs, List.length_append]; have := (uvar_len ((x.fn : Int))).2; omega
          have E14 := hid hbs
          have BO14 := hid ho
          have B14 := hid hb
          clear ho hb hbs N14 BO13 B13
          clear c0 c1 c2 c3 c4 c5 c6 c7
          go_wp2_with fail
          have BO14' := hid (show BO W1.heap.size w14 v14 (b14 ++ (x.fs.take 0).flatMap encF) by have := BO14.out; simpa using this)
          have HFB := hid (fun (k : Nat) => (show ((x.fs.take k).flatMap encF).length ≤ 4000 * 64 from by
            have h1 := flat_len (f := encF) (C := 4000) (x.fs.take k) (fun f hf => by
              have hf' := List.mem_of_mem_take hf
              have hi := HS1.out.fr.in_ f hf'
              exact encF_len (HY.out.fl f hf') hi.1.1 hi.2.1)
            have h2 : (x.fs.take k).length ≤ 64 := by rw [List.length_take, EF.out]; have : Nat.min k x.fn ≤ x.fn := Nat.min_le_right _ _; omega
            have h4 : 4000 * (x.fs.take k).length ≤ 4000 * 64 := Nat.mul_le_mul_left _ h2
            omega))
          go_loopw [5, 9] (fun v i wr => ∃ k : Nat, k ≤ x.fn ∧ i = .int .i64 k ∧ Hid (BO W1.heap.size wr v (b14 ++ (x.fs.take k).flatMap encF)) ∧ Hid (Below W1.heap.size W1 wr)) (fun _ i _ => x.fn - (intOf i).toNat)
          case atStart => exact ⟨0, by omega, rfl, BO14', B14⟩
          clear BO14 BO14' B14
          case round =>
            obtain ⟨k, hk, rfl, BOk, Bk⟩ := hrel
            obtain ⟨c0, c1, c2, c3, c4, c5, c6, c7⟩ := HC.out _ Bk.out
            have hkl := HFB.out k
            by_cases hlt : k < x.fn
            · have hlt' : (k : Int) < (x.fn : Int) := by omega
              obtain ⟨y, hy⟩ : ∃ y, x.fs[k]? = some y := ⟨_, List.getElem?_eq_getElem (by rw [EF.out]; omega)⟩
              have hym := List.mem_of_getElem? hy
              have hmay := HY.out.fl y hym
              have hrg := HR.out.fs y hym
              obtain ⟨b, off, hfa, hat⟩ := ((HS.out _ Bk.out).fr.at_).resolve_left (by omega)
              obtain ⟨e0, e1, e2, e3⟩ := hat k y hy
              have HSI := hid (HS1.out.fr.in_ y hym)
              have HII := hid (show b14 ++ (x.fs.take (k + 1)).flatMap encF = b14 ++ (x.fs.take k).flatMap encF ++ encF y by rw [List.take_add_one, hy]; simp)
              rw [hfa] at c0
              clear hat hy hym hfa
              obtain ⟨y1, y2, ⟨⟨y3a, y3n, y3c⟩, y3⟩, ⟨⟨y4a, y4n, y4c⟩, y4⟩⟩ := y
              obtain ⟨t1, t2, t3, t4, t5, t6⟩ := hmay
              simp only at e0 e1 e2 e3 t1 t2 t3 t4 t5 t6
              have S3 := hid HSI.out.1
              have S4 := hid HSI.out.2
              have R3 := hid hrg.1.1
              have R4 := hid hrg.1.2
              simp only at S3 S4 R3 R4
              clear HSI hrg
              obtain ⟨bk, hbk⟩ : ∃ bk, bk = b14 ++ (x.fs.take k).flatMap encF := ⟨_, rfl⟩
              rw [← hbk] at BOk HII
              have lk : bk.length ≤ 600000 := by rw [hbk, List.length_append]; omega
              have bn := below_new wr (.cells #[.int .i64 y1, .int .i64 y2, .slice y3a y3n y3c, .slice y4a y4n y4c] 66)
              have kn := nb_new wr (.cells #[.int .i64 y1, .int .i64 y2, .slice y3a y3n y3c, .slice y4a y4n y4c] 66)
              have Bz := hid (Bk.out.trans (bn.mono Bk.out.size))
              have BOz := hid (BOk.out.later bn)
              clear hbk bn
              generalize u5 = vz at *
              have Kz := hid (show (wr.alloc (.cells #[.int .i64 y1, .int .i64 y2, .slice y3a y3n y3c, .slice y4a y4n y4c] 66)).heap[wr.heap.size]? = some (.cells #[.int .i64 y1, .int .i64 y2, .slice y3a y3n y3c, .slice y4a y4n y4c] 66) ∧ vz.ownBlock ≠ some wr.heap.size from ⟨kn, fun hc => by
                obtain ⟨g, cap, rfl, hbf, _⟩ := BOk.out
                have h1 := hbf.lt
                have h2 : g = wr.heap.size := Option.some.inj hc
                omega⟩)
              clear kn BOk
              have Ny1 := hid (fun (W : World) (hB : BO W1.heap.size W vz bk) (hW : Below W1.heap.size W1 W) => rnum27 vz bk y1 W1 W hB hW (by omega) (by omega) (by omega))
              have Nz := hid (Ny1.out _ BOz.out Bz.out)
              clear Ny1
              generalize hFb : wr.heap.size = Fb at *
              go_wp2_with fail
              refine Nz.out.mono ?_
              rintro e wa ⟨va, rfl, ho, hb, hs⟩
              have Ka := hid (hs _ _ Kz.out.1 Kz.out.2)
              obtain ⟨ba, hbs⟩ : ∃ b, b = bk ++ uvar y1 := ⟨_, rfl⟩
              rw [← hbs] at ho
              have la : ba.length ≤ bk.length + 10 := by rw [hbs, List.length_append]; have := (uvar_len y1).2; omega
              have Ea := hid hbs
              have BOa := hid ho
              have Ba := hid hb
              clear ho hb hs hbs Nz BOz Bz Kz c0 c1 c2 c3 c4 c5 c6 c7 e0 e1 e2 e3 Bk
              have f0 : wa.cell? ⟨Fb, 0, none⟩ = some (.int .i64 y1) := cell_at Ka.out.1
              have f1 : wa.cell? ⟨Fb, 1, none⟩ = some (.int .i64 y2) := cell_at Ka.out.1
              have f2 : wa.cell? ⟨Fb, 2, none⟩ = some (.slice y3a y3n y3c) := cell_at Ka.out.1
              have f3 : wa.cell? ⟨Fb, 3, none⟩ = some (.slice y4a y4n y4c) := cell_at Ka.out.1
              have Nb := hid (rnum27 va ba (y2) W1 wa BOa.out Ba.out (by omega) (by omega) (by omega))
              go_wp2_with fail
              refine Nb.out.mono ?_
              rintro e wb ⟨vb, rfl, ho, hb, hs⟩
              have Kb := hid (hs _ _ Ka.out.1 Ka.out.2)
              obtain ⟨bb, hbs⟩ : ∃ b, b = ba ++ uvar (y2) := ⟨_, rfl⟩
              rw [← hbs] at ho
              have lb : bb.length ≤ ba.length + 10 := by rw [hbs, List.length_append]; have := (uvar_len (y2)).2; omega
              have Eb := hid hbs
              have BOb := hid ho
              have Bb := hid hb
              clear ho hb hs hbs Nb BOa Ba Ka f0 f1 f2 f3
              have f0 : wb.cell? ⟨Fb, 0, none⟩ = some (.int .i64 y1) := cell_at Kb.out.1
              have f1 : wb.cell? ⟨Fb, 1, none⟩ = some (.int .i64 y2) := cell_at Kb.out.1
              have f2 : wb.cell? ⟨Fb, 2, none⟩ = some (.slice y3a y3n y3c) := cell_at Kb.out.1
              have f3 : wb.cell? ⟨Fb, 3, none⟩ = some (.slice y4a y4n y4c) := cell_at Kb.out.1
              have Nc := hid (rval28 vb bb y3a y3n y3c y3 W1 wb BOb.out S3.out R3.out Bb.out (by omega) (by omega))
              go_wp2_with fail
              refine Nc.out.mono ?_
              rintro e wc ⟨vc, rfl, ho, hb, hs⟩
              have Kc := hid (hs _ _ Kb.out.1 Kb.out.2)
              obtain ⟨bc, hbs⟩ : ∃ b, b = bb ++ encL (y3) := ⟨_, rfl⟩
              rw [← hbs] at ho
              have lc : bc.length ≤ bb.length + 660 := by rw [hbs, List.length_append]; have := encL_len (l := y3); have := S3.out.1; omega
              have Ec := hid hbs
              have BOc := hid ho
              have Bc := hid hb
              clear ho hb hs hbs Nc BOb Bb Kb f0 f1 f2 f3
              have f0 : wc.cell? ⟨Fb, 0, none⟩ = some (.int .i64 y1) := cell_at Kc.out.1
              have f1 : wc.cell? ⟨Fb, 1, none⟩ = some (.int .i64 y2) := cell_at Kc.out.1
              have f2 : wc.cell? ⟨Fb, 2, none⟩ = some (.slice y3a y3n y3c) := cell_at Kc.out.1
              have f3 : wc.cell? ⟨Fb, 3, none⟩ = some (.slice y4a y4n y4c) := cell_at Kc.out.1
              have Nd := hid (rval28 vc bc y4a y4n y4c y4 W1 wc BOc.out S4.out R4.out Bc.out (by omega) (by omega))
              go_wp2_with fail
              refine Nd.out.mono ?_
              rintro e wd ⟨vd, rfl, ho, hb, hs⟩
              have Kd := hid (hs _ _ Kc.out.1 Kc.out.2)
              obtain ⟨bd, hbs⟩ : ∃ b, b = bc ++ encL (y4) := ⟨_, rfl⟩
              rw [← hbs] at ho
              have ld : bd.length ≤ bc.length + 2580 := by rw [hbs, List.length_append]; have := encL_len (l := y4); have := S4.out.1; omega
              have Ed := hid hbs
              have BOd := hid ho
              have Bd := hid hb
              clear ho hb hs hbs Nd BOc Bc Kc f0 f1 f2 f3
              have f0 : wd.cell? ⟨Fb, 0, none⟩ = some (.int .i64 y1) := cell_at Kd.out.1
              have f1 : wd.cell? ⟨Fb, 1, none⟩ = some (.int .i64 y2) := cell_at Kd.out.1
              have f2 : wd.cell? ⟨Fb, 2, none⟩ = some (.slice y3a y3n y3c) := cell_at Kd.out.1
              have f3 : wd.cell? ⟨Fb, 3, none⟩ = some (.slice y4a y4n y4c) := cell_at Kd.out.1
              go_wp2_with fail
              exact ⟨⟨k + 1, by omega, by go_num, by
                rw [HII.out]
                have := BOd.out
                rw [Ed.out, Ec.out, Eb.out, Ea.out] at this
                have g1 : IntKind.u64.wrap y1 = y1 := by simp only [IntKind.wrap_u64]; omega
                have g2 : IntKind.u64.wrap y2 = y2 := by simp only [IntKind.wrap_u64]; omega
                have g3 : bk ++ encF (y1, y2, ((y3a, y3n, y3c), y3), ((y4a, y4n, y4c), y4)) = bk ++ uvar y1 ++ uvar y2 ++ encL y3 ++ encL y4 := by
                  unfold encF
                  simp only [g1, g2, List.append_assoc]
                rw [g3]
                exact hid this, Bd⟩, by simp [intOf]; omega⟩
            · have hlt' : ¬ (k : Int) < (x.fn : Int) := by omega
              obtain rfl : k = x.fn := by omega
              go_wp2_with fail
              go_ret2
              have HBf := HB1.out.trans (Bk.out.mono HB1.out.size)
              refine rwA_yes HY.out rfl HBf (bs := b14 ++ (x.fs.take x.fn).flatMap encF) ?_ ?_
              · obtain ⟨g, cap, hv, hbf, hg⟩ := BOk.out
                exact ⟨g, cap, hv, hbf, by omega⟩
              · rw [E14.out, E13.out, E12.out, E11.out, E10.out, E9.out, E8.out, E7.out, E6.out, List.take_of_length_le (by rw [EF.out]; exact Nat.le_refl _)]
                unfold encS encP encFs
                rw [EN.out, EP.out, EF.out]
                simp only [List.append_assoc]
end Go.Proofs.YtbdjghokedfkfaaDoor

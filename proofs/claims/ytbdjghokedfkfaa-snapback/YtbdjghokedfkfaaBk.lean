/-
  SnapBack's law.
-/
import Derived.Test.YtbdjghokedfkfaaPg
import Derived.Test.YtbdjghokedfkfaaUl
namespace Go.Proofs.Ytbdjghokedfkfaa
open Go.RowKit
set_option linter.unusedVariables false
set_option maxRecDepth 100000

theorem uv_rng : ∀ (f : Nat) (v : Int), 0 ≤ v → v < 2 * 128 ^ f → ∀ z ∈ uv f v, 0 ≤ z ∧ z ≤ 255
  | 0, v, h0, h1, z, hz => by
    have := List.mem_singleton.1 hz
    simp at h1
    omega
  | f + 1, v, h0, h1, z, hz => by
    unfold uv at hz
    by_cases h : v < 128
    · rw [if_pos h] at hz
      have := List.mem_singleton.1 hz
      omega
    · rw [if_neg h] at hz
      rcases List.mem_cons.1 hz with rfl | hz
      · omega
      · refine uv_rng f (v / 128) (by omega) ?_ z hz
        rw [Int.pow_succ] at h1
        omega
theorem uvar_rng {v : Int} (h : U64 v) : ∀ z ∈ uvar v, 0 ≤ z ∧ z ≤ 255 := uv_rng 9 v h.1 (by rw [show (2 : Int) * 128 ^ 9 = 18446744073709551616 from by decide]; exact h.2)
theorem encL_rng {l : List Int} (hl : l.length < 1000) (h : ∀ v ∈ l, U64 v) : ∀ z ∈ encL l, 0 ≤ z ∧ z ≤ 255 := fun z hz => by
  unfold encL at hz
  rcases List.mem_append.1 hz with hz | hz
  · exact uvar_rng ⟨by omega, by omega⟩ z hz
  · obtain ⟨v, hv, hz⟩ := List.mem_flatMap.1 hz
    exact uvar_rng (h v hv) z hz
/-- What is written is bytes. -/
theorem wr_rng {s : StM} (h : (wrV s).2 = false) (gs : RgS s) (ys : BY s) : ∀ z ∈ (wrV s).1, 0 ≤ z ∧ z ≤ 255 := by
  have a := stW_is h
  have e1 : (wrV s).1 = mgc ++ encS s := by show (stW s (mgc, false)).1 = _; rw [a.2]
  rw [e1]
  intro z hz
  rcases List.mem_append.1 hz with hz | hz
  · simp only [mgc, List.mem_cons, List.not_mem_nil, or_false] at hz
    omega
  unfold encS at hz
  simp only [List.mem_append, List.mem_singleton] at hz
  have u := fun v => uvar_rng (v := u64 v) (u64_rng v)
  have o := a.1
  rcases hz with ((((((hz | hz) | hz) | hz) | hz) | hz) | hz) | hz
  · have := o.en; omega
  · have := o.tr; omega
  · exact u _ z hz
  · exact u _ z hz
  · exact encL_rng (by have := o.rs; omega) gs.rs z hz
  · exact encL_rng (by have := o.gs; omega) gs.gs z hz
  · unfold encP at hz
    rcases List.mem_append.1 hz with hz | hz
    · rcases List.mem_append.1 hz with hz | hz
      · exact uvar_rng ⟨by omega, by have := o.ps; omega⟩ z hz
      · exact uvar_rng ⟨by omega, by have := idxTo_len s.ps s.ps.length; have := o.ps; unfold idx; omega⟩ z hz
    · obtain ⟨k, hk, hz⟩ := List.mem_flatMap.1 hz
      obtain ⟨i, y, rfl, hi, hy, _⟩ := idx_mem hk
      unfold encK at hz
      rcases List.mem_append.1 hz with hz | hz
      · exact uvar_rng ⟨by omega, by have := o.ps; omega⟩ z hz
      · rw [Int.toNat_natCast, hy] at hz
        exact ys y (List.mem_of_getElem? hy) z hz
  · unfold encFs at hz
    rcases List.mem_append.1 hz with hz | hz
    · exact uvar_rng ⟨by omega, by have := o.fs; omega⟩ z hz
    · obtain ⟨f, hf, hz⟩ := List.mem_flatMap.1 hz
      have hl := o.fl f hf
      have hr := (gs.fs f hf).1
      unfold encF at hz
      simp only [List.mem_append] at hz
      rcases hz with ((hz | hz) | hz) | hz
      · exact u _ z hz
      · exact u _ z hz
      · exact encL_rng (by omega) hr.1 z hz
      · exact encL_rng (by omega) hr.2 z hz
theorem wr_short (s : StM) (h : (wrV s).2 = false) (gs : RgS s) : 5 ≤ (wrV s).1.length ∧ (wrV s).1.length ≤ 524288 := by
  refine ⟨?_, ?_⟩
  · have a := stW_is h
    have e1 : (wrV s).1 = mgc ++ encS s := by show (stW s (mgc, false)).1 = _; rw [a.2]
    rw [e1, List.length_append]
    have : mgc.length = 5 := rfl
    omega
  have l1 := octW_len s.en 1 3 (mgc, false)
  have l2 := octW_len s.tr 0 6 (octW s.en 1 3 (mgc, false))
  have l3 := numW_len (u64 s.us) 4611686018427387904 (octW s.tr 0 6 (octW s.en 1 3 (mgc, false)))
  have l4 := numW_len (u64 s.rep) 9223372036854775807 (numW (u64 s.us) 4611686018427387904 (octW s.tr 0 6 (octW s.en 1 3 (mgc, false))))
  have e : wrV s = stW s (mgc, false) := rfl
  rw [e]
  unfold stW
  generalize numW (u64 s.rep) 9223372036854775807 (numW (u64 s.us) 4611686018427387904 (octW s.tr 0 6 (octW s.en 1 3 (mgc, false)))) = s4 at *
  have l5 := listW_len valW_bad (valW_wide s.rs) 8 s4
  have l6 := listW_len valW_bad (valW_wide s.gs) 64 (listW valW s.rs 8 s4)
  have l7 := pagesW_len s.ps gs.pl (listW valW s.gs 64 (listW valW s.rs 8 s4))
  have l8 := listW_len frW_bad (frW_wide s.fs) 64 (pagesW s.ps (listW valW s.gs 64 (listW valW s.rs 8 s4)))
  simp only [Int.cast_ofNat_Int] at l5 l6 l8
  have lm : (mgc, false).fst.length = 5 := rfl
  omega
theorem seg_take_fl {w : World} {a : Option Addr} {n c m : Nat} {zs : List Int} (h : Seg w a n c zs) (hm : m ≤ n) : Fl w a m ((zs.take m).map (Value.int .u8)) := by
  rcases h.toSI.2 with h0 | ⟨b, off, e, hc⟩
  · exact .inl (by omega)
  · refine .inr ⟨b, off, e, fun j y hj => ?_⟩
    rw [List.getElem?_map, Option.map_eq_some_iff] at hj
    obtain ⟨x, hx, rfl⟩ := hj
    rw [List.getElem?_take] at hx
    split at hx
    · exact hc j x hx
    · cases hx
/-- The state that is nought. -/
abbrev zM : StM := ⟨none, 0, 0, [], none, 0, 0, [], none, 0, 0, [], 0, 0, none, 0, 0, [], 0, 0⟩
theorem zM_sst (w : World) : SSt w zM := ⟨⟨rfl, .inl rfl, fun x hx => (by cases hx)⟩, ⟨rfl, .inl rfl⟩, ⟨rfl, .inl rfl, fun x hx => (by cases hx)⟩, ⟨rfl, .inl rfl⟩⟩
theorem zM_sb : SB zM := ⟨fun x hx => (by cases hx), fun x hx => (by cases hx), by show 0 ≤ _; omega, by show 0 ≤ _; omega, by show 0 ≤ _; omega, by show 0 ≤ _; omega⟩
theorem zM_e : stE zM zM = true := (stE_is _ _).2 rfl
theorem sr_p {base : Nat} {w : World} {p : StP} {B5 B6 B7 : Nat} {bl : List Nat} {B8 : Nat} {ys : List FrM} (h : StA base w p B5 B6 B7 bl B8 ys) (ho : OkP p) : SR (mkS p B5 B6 B7 bl B8 ys) := by
  refine ⟨⟨by have := ho.en.1; show -128 ≤ p.en; omega, by have := ho.en.2; show p.en ≤ 127; omega⟩, ⟨by have := ho.tr.1; show -128 ≤ p.tr; omega, by have := ho.tr.2; show p.tr ≤ 127; omega⟩, ho.rr, ho.gr, fun f hf => ?_, fun q hq => ?_⟩
  · have hm : plF f ∈ p.fs := by rw [← h.fp]; exact List.mem_map_of_mem hf
    exact ⟨(ho.fl _ hm).lr, (ho.fl _ hm).sr⟩
  · obtain ⟨j, hj⟩ := List.getElem?_of_mem hq
    obtain ⟨b, l, hb, hl, rfl⟩ := zip_get bl p.ps j q hj
    exact Nat.le_refl _
/-- What was written is read as itself. -/
theorem rda_wr {s : StM} (hb : (wrV s).2 = false) (gs : RgS s) (ys : BY s) {w w' : World} {e : Ending} (h : RdA (wrV s).1 w e w') : Below w.heap.size w w' ∧ ∃ y : StM, e = .returned (.tuple #[.agg (stAr y), .int .i64 0, .int .i64 0]) ∧ SSt w' y ∧ SB y ∧ stE y s = true := by
  obtain ⟨hbl, hor⟩ := h
  have hl := (wr_short s hb gs).2
  have r := rd_back hb gs hl
  have rr := rd_same (wr_rng hb gs ys) (by rw [r.1])
  rcases hor with ⟨h, _⟩ | ⟨_, B5, B6, B7, bl, B8, fs, he, hs⟩
  · rw [r.1] at h; exact absurd rfl h
  · refine ⟨hbl, _, he, hs.sst (fun l hl => (rr.2.1.pl l hl).1), hs.sb rr.2.1, ?_⟩
    rw [stE_is, mkS_pl hs.ps.len hs.fp, r.2]
/-- What is cut off is refused. -/
theorem rda_cut {s : StM} (hb : (wrV s).2 = false) (gs : RgS s) (ys : BY s) {w w' : World} {e : Ending} {n : Nat} (hn : n < (wrV s).1.length) (h : RdA ((wrV s).1.take n) w e w') : Below w.heap.size w w' ∧ ∃ x q, e = .returned (.tuple #[.agg zSt, .int .i64 x, .int .i64 q]) ∧ (x == 0) = false := by
  obtain ⟨hbl, hor⟩ := h
  have hc := cut_no hb gs (wr_rng hb gs ys) n hn
  rcases hor with ⟨h, he⟩ | ⟨h, _⟩
  · exact ⟨hbl, _, _, he, by simpa using h⟩
  · exact absurd h hc
/-- What is read, and then written. -/
theorem rda_any {zs : List Int} (hz : ∀ z ∈ zs, 0 ≤ z ∧ z ≤ 255) {w w' : World} {e : Ending} (h : RdA zs w e w') : Below w.heap.size w w' ∧ ((∃ x q, e = .returned (.tuple #[.agg zSt, .int .i64 x, .int .i64 q]) ∧ (x != 0) = true) ∨ ∃ y : StM, e = .returned (.tuple #[.agg (stAr y), .int .i64 0, .int .i64 0]) ∧ SSt w' y ∧ SB y ∧ SR y ∧ wrV y = (zs, false)) := by
  obtain ⟨hbl, hor⟩ := h
  refine ⟨hbl, ?_⟩
  rcases hor with ⟨h, he⟩ | ⟨h, B5, B6, B7, bl, B8, fs, he, hs⟩
  · exact .inl ⟨_, _, he, by simpa using h⟩
  · have rr := rd_same hz h
    refine .inr ⟨_, he, hs.sst (fun l hl => (rr.2.1.pl l hl).1), hs.sb rr.2.1, sr_p hs rr.1, back_same hz h (mkS_pl hs.ps.len hs.fp) (fun q hq => ?_)⟩
    have := mkS_4 q hq
    exact ⟨this.1, (rr.2.1.pl _ this.2).1⟩
set_option maxHeartbeats 8000000 in
theorem bk3_big (s : StM) (ba : Option Addr) (bn bc : Nat) (w : World) (hs : SSt w s) (hn : 1048576 < bn) (ms : SM s) (ys : BY s) (rs : SR s) (gs : RgS s) :
    Calls Try.prog 3 #[.agg (stAr s), .slice ba bn bc] w fun e w' => e = .returned (.bool true) ∧ Below w.heap.size w w' := by
  have b1 := below_new w (stO s)
  have k1 := nb_new w (stO s)
  have HC := hid (fun (W : World) (hb : Below (w.alloc (stO s)).heap.size (w.alloc (stO s)) W) => (⟨later_cell hb (cell_at k1), later_cell hb (cell_at k1), later_cell hb (cell_at k1), later_cell hb (cell_at k1), later_cell hb (cell_at k1), later_cell hb (cell_at k1), later_cell hb (cell_at k1), later_cell hb (cell_at k1)⟩ : W.cell? ⟨w.heap.size, 0, none⟩ = some (.slice s.fa s.fn s.fc) ∧ W.cell? ⟨w.heap.size, 1, none⟩ = some (.slice s.ga s.gn s.gc) ∧ W.cell? ⟨w.heap.size, 2, none⟩ = some (.slice s.pa s.pn s.pc) ∧ W.cell? ⟨w.heap.size, 3, none⟩ = some (.int .i64 s.rep) ∧ W.cell? ⟨w.heap.size, 4, none⟩ = some (.int .i8 s.en) ∧ W.cell? ⟨w.heap.size, 5, none⟩ = some (.slice s.ra s.rn s.rc) ∧ W.cell? ⟨w.heap.size, 6, none⟩ = some (.int .i8 s.tr) ∧ W.cell? ⟨w.heap.size, 7, none⟩ = some (.int .i64 s.us)))
  have HS := hid (fun (W : World) (hb : Below (w.alloc (stO s)).heap.size (w.alloc (stO s)) W) => (hs.later b1).later hb)
  have HW := hid (works5 (w.alloc (stO s)))
  have HB1 := hid b1
  have hq : (1048576 : Int) < (bn : Int) := by omega
  clear b1 k1 hs
  go_enter Try.func3, Try.ntmps3
  go_wp2_with fail
  generalize w.alloc (stO s) = W1 at *
  refine HW.out.mono ?_
  rintro e w3 ⟨rfl, hb3⟩
  obtain ⟨c0, c1, c2, c3, c4, c5, c6, c7⟩ := HC.out _ hb3
  have B3 := hid hb3
  have Z1 := hid (siz13 s w3 (HS.out w3 hb3) ms)
  clear hb3 HW
  go_wp2_with fail
  refine Z1.out.mono ?_
  rintro e w4 ⟨z1, rfl, hz1, hb4⟩
  have B4 := hid (B3.out.trans (hb4.mono B3.out.size))
  have HZ1 := hid hz1
  clear c0 c1 c2 c3 c4 c5 c6 c7
  clear hb4 Z1 hz1
  by_cases q1 : 1048576 < z1
  · have q1' : (1048576 : Int) < (z1 : Int) := by omega
    go_wp2_with fail
    go_ret
    exact ⟨rfl, HB1.out.trans (B4.out.mono HB1.out.size)⟩
  have q1' : ¬ (1048576 : Int) < (z1 : Int) := by omega
  go_wp2_with fail
  go_ret
  exact ⟨rfl, HB1.out.trans (B4.out.mono HB1.out.size)⟩
set_option maxHeartbeats 8000000 in
theorem bk3 (s : StM) (ba : Option Addr) (bn bc : Nat) (zs : List Int) (w : World) (hs : SSt w s) (hz : Seg w ba bn bc zs) (hn : bn ≤ 1048576) (ms : SM s) (ys : BY s) (rs : SR s) (gs : RgS s) :
    Calls Try.prog 3 #[.agg (stAr s), .slice ba bn bc] w fun e w' => e = .returned (.bool true) ∧ Below w.heap.size w w' := by
  have b1 := below_new w (stO s)
  have k1 := nb_new w (stO s)
  have HC := hid (fun (W : World) (hb : Below (w.alloc (stO s)).heap.size (w.alloc (stO s)) W) => (⟨later_cell hb (cell_at k1), later_cell hb (cell_at k1), later_cell hb (cell_at k1), later_cell hb (cell_at k1), later_cell hb (cell_at k1), later_cell hb (cell_at k1), later_cell hb (cell_at k1), later_cell hb (cell_at k1)⟩ : W.cell? ⟨w.heap.size, 0, none⟩ = some (.slice s.fa s.fn s.fc) ∧ W.cell? ⟨w.heap.size, 1, none⟩ = some (.slice s.ga s.gn s.gc) ∧ W.cell? ⟨w.heap.size, 2, none⟩ = some (.slice s.pa s.pn s.pc) ∧ W.cell? ⟨w.heap.size, 3, none⟩ = some (.int .i64 s.rep) ∧ W.cell? ⟨w.heap.size, 4, none⟩ = some (.int .i8 s.en) ∧ W.cell? ⟨w.heap.size, 5, none⟩ = some (.slice s.ra s.rn s.rc) ∧ W.cell? ⟨w.heap.size, 6, none⟩ = some (.int .i8 s.tr) ∧ W.cell? ⟨w.heap.size, 7, none⟩ = some (.int .i64 s.us)))
  have HS := hid (fun (W : World) (hb : Below (w.alloc (stO s)).heap.size (w.alloc (stO s)) W) => (hs.later b1).later hb)
  have HZ := hid (fun (W : World) (hb : Below (w.alloc (stO s)).heap.size (w.alloc (stO s)) W) => (hz.later b1 (Nat.le_refl _)).later hb (Nat.le_refl _))
  have HR0 := hid hz.2.2.2.1
  have HW := hid (works5 (w.alloc (stO s)))
  have HB1 := hid b1
  have hq : ¬ (1048576 : Int) < (bn : Int) := by omega
  clear b1 k1 hs hz
  go_enter Try.func3, Try.ntmps3
  go_wp2_with fail
  generalize w.alloc (stO s) = W1 at *
  refine HW.out.mono ?_
  rintro e w3 ⟨rfl, hb3⟩
  obtain ⟨c0, c1, c2, c3, c4, c5, c6, c7⟩ := HC.out _ hb3
  have B3 := hid hb3
  have Z1 := hid (siz13 s w3 (HS.out w3 hb3) ms)
  clear hb3 HW
  go_wp2_with fail
  refine Z1.out.mono ?_
  rintro e w4 ⟨z1, rfl, hz1, hb4⟩
  have B4 := hid (B3.out.trans (hb4.mono B3.out.size))
  have HZ1 := hid hz1
  clear c0 c1 c2 c3 c4 c5 c6 c7
  clear hb4 Z1 hz1
  by_cases q1 : 1048576 < z1
  · have q1' : (1048576 : Int) < (z1 : Int) := by omega
    go_wp2_with fail
    go_ret
    exact ⟨rfl, HB1.out.trans (B4.out.mono HB1.out.size)⟩
  have q1' : ¬ (1048576 : Int) < (z1 : Int) := by omega
  have SBS := hid (sb_of (HZ1.out (by omega)) ys)
  obtain ⟨c0, c1, c2, c3, c4, c5, c6, c7⟩ := HC.out _ B4.out
  have WS := hid (write7 s w4 (HS.out w4 B4.out) SBS.out rs)
  go_wp2_with fail
  refine WS.out.mono ?_
  rintro e w5 h5
  have hb5 := h5.1
  have B5 := hid (B4.out.trans (hb5.mono B4.out.size))
  rcases h5.2 with ⟨ba', rfl⟩ | ⟨ba', A, ca, rfl, sa, hlo⟩
  · clear ba' hb5 h5 WS
    clear c0 c1 c2 c3 c4 c5 c6 c7
    have RT := hid (read8 ba bn bc zs w5 (HZ.out _ B5.out))
    go_wp2_with fail
    refine RT.out.mono ?_
    rintro e t1 ht1
    obtain ⟨hbt, hort⟩ := rda_any HR0.out ht1
    have T1 := hid (B5.out.trans (hbt.mono B5.out.size))
    clear hbt ht1 RT
    rcases hort with ⟨xe, xq, rfl, hxe⟩ | ⟨y, rfl, y1, y2, y3, y4⟩
    · have b6 := below_new t1 (stO zM)
      have T2 := hid (T1.out.trans (b6.mono T1.out.size))
      have ky := nb_new t1 (stO zM)
      have HE := hid (eqS7 zM zM (t1.alloc (stO zM)) (zM_sst _) (zM_sst _) zM_sb zM_sb)
      rw [zM_e] at HE
      have d0 := cell_at (i := 0) ky
      have d1 := cell_at (i := 1) ky
      have d2 := cell_at (i := 2) ky
      have d3 := cell_at (i := 3) ky
      have d4 := cell_at (i := 4) ky
      have d5 := cell_at (i := 5) ky
      have d6 := cell_at (i := 6) ky
      have d7 := cell_at (i := 7) ky
      clear b6 ky
      go_wp2_with fail
      refine HE.out.mono ?_
      rintro e t3 ⟨rfl, hb3'⟩
      go_wp2_with fail
      go_ret
      exact ⟨rfl, HB1.out.trans ((T2.out.trans (hb3'.mono T2.out.size)).mono HB1.out.size)⟩
    · have b6 := below_new t1 (stO y)
      have T2 := hid (T1.out.trans (b6.mono T1.out.size))
      have ky := nb_new t1 (stO y)
      have WY := hid (write7 y (t1.alloc (stO y)) (y1.later b6) y2 y3)
      have Y4 := hid y4
      have d0 := cell_at (i := 0) ky
      have d1 := cell_at (i := 1) ky
      have d2 := cell_at (i := 2) ky
      have d3 := cell_at (i := 3) ky
      have d4 := cell_at (i := 4) ky
      have d5 := cell_at (i := 5) ky
      have d6 := cell_at (i := 6) ky
      have d7 := cell_at (i := 7) ky
      clear b6 ky y1 y2 y3 y4
      go_wp2_with fail
      refine WY.out.mono ?_
      rintro e t3 h3
      obtain ⟨hb3', hor3⟩ := wra_is h3
      rw [Y4.out] at hor3
      have T3 := hid (T2.out.trans (hb3'.mono T2.out.size))
      clear hb3' h3 WY Y4
      rcases hor3 with ⟨hf, _⟩ | ⟨_, C, cc, rfl, sc⟩
      · cases hf
      have HZ3 := hid (HZ.out _ T3.out)
      have hzl := HZ3.out.1
      have HQ := hid (eqI39 (some ⟨C, 0, none⟩) ba _ _ cc bc zs zs t3 sc HZ3.out.toSI (by simp only; omega))
      have hee : lE iE zs zs = true := by rw [lE_int]; simp
      rw [hee] at HQ
      clear hzl hee sc HZ3
      simp only at HQ
      go_wp2_with fail
      refine HQ.out.mono ?_
      rintro e t4 ⟨rfl, hb4'⟩
      go_wp2_with fail
      go_ret
      exact ⟨rfl, HB1.out.trans ((T3.out.trans (hb4'.mono T3.out.size)).mono HB1.out.size)⟩

  · have hlen := wr_short s ba' gs
    have hcap : (wrV s).1.length ≤ ca := by
      rcases sa with h | h
      · obtain ⟨_, _, hle, _⟩ := h.block
        exact hle
      · omega
    have sg := SI.seg (sa.si rfl) hcap (by omega) (wr_rng ba' gs ys)
    have BA := hid ba'
    have SG := hid (fun (W : World) (hW : Below w5.heap.size w5 W) => sg.later hW (Nat.le_refl _))
    have RA := hid (read8 (some ⟨A, 0, none⟩) _ ca (wrV s).1 w5 sg)
    have LN := hid hlen
    clear ba' hb5 h5 WS sg hcap sa hlo hlen
    clear c0 c1 c2 c3 c4 c5 c6 c7
    obtain ⟨N, hN⟩ : ∃ N, (wrV s).1.length = N := ⟨_, rfl⟩
    have HN := hid hN
    rw [hN] at RA SG LN ⊢
    clear hN
    go_wp2_with fail
    refine RA.out.mono ?_
    rintro e w6 h6
    obtain ⟨hb6, y, rfl, y1, y2, y3⟩ := rda_wr BA.out gs ys h6
    have b7 := below_new w6 (stO y)
    have B6 := hid (B5.out.trans (hb6.mono B5.out.size))
    have B7 := hid (B6.out.trans (b7.mono B6.out.size))
    have B57 := hid (hb6.trans (b7.mono hb6.size))
    have ky := nb_new w6 (stO y)
    have HE := hid (eqS7 y s (w6.alloc (stO y)) (y1.later b7) (HS.out _ B7.out) y2 SBS.out)
    rw [y3] at HE
    have d0 := cell_at (i := 0) ky
    have d1 := cell_at (i := 1) ky
    have d2 := cell_at (i := 2) ky
    have d3 := cell_at (i := 3) ky
    have d4 := cell_at (i := 4) ky
    have d5 := cell_at (i := 5) ky
    have d6 := cell_at (i := 6) ky
    have d7 := cell_at (i := 7) ky
    obtain ⟨c0, c1, c2, c3, c4, c5, c6, c7⟩ := HC.out _ B7.out
    clear b7 ky y1 y2 y3 hb6 h6 RA
    go_wp2_with fail
    refine HE.out.mono ?_
    rintro e w8 ⟨rfl, hb8⟩
    have B8 := hid (B7.out.trans (hb8.mono B7.out.size))
    have B58 := hid (B57.out.trans (hb8.mono B57.out.size))
    clear hb8 HE d0 d1 d2 d3 d4 d5 d6 d7 B57 B7 B6
    clear c0 c1 c2 c3 c4 c5 c6 c7
    obtain ⟨M, hM⟩ : ∃ M, N = M + 1 := ⟨N - 1, by have := LN.out; omega⟩
    subst hM
    have hpos : (0 : Int) < ((M + 1 : Nat) : Int) := by omega
    have hsub : IntKind.i64.wrap (((M + 1 : Nat) : Int) - 1) = (M : Int) := by
      rw [i64_in _ (by omega) (by have := LN.out; omega)]; omega
    have sg8 := SG.out w8 B58.out
    have hfl : Fl w8 (some ⟨A, 0, none⟩) M (((wrV s).1.take M).map (Value.int .u8)) := seg_take_fl sg8 (by omega)
    have HCP := hid (copy41 (some ⟨A, 0, none⟩) M ca (((wrV s).1.take M).map (Value.int .u8)) w8 hfl (by rw [List.length_map, List.length_take, HN.out]; omega) (ints_one _) (by have := LN.out; omega))
    have hca : M + 1 ≤ ca := sg8.2.1
    have hw64 : (wrap64 (M : Int)).toNat = M := by
      have := LN.out
      unfold wrap64
      omega
    have hbd : 0 ≤ wrap64 (M : Int) ∧ wrap64 (M : Int) ≤ (ca : Int) := by
      have := LN.out
      unfold wrap64
      omega
    clear sg8 hfl
    go_wp2_with fail
    clear hbd
    refine HCP.out.mono ?_
    rintro e w9 ⟨va, vc, rfl, hown, hb9⟩
    have B9 := hid (B8.out.trans (hb9.mono B8.out.size))
    obtain ⟨va', vc', hv', hsg9, _⟩ := seg_of_own hown (by have := LN.out; omega) (fun z hz => wr_rng BA.out gs ys z (List.mem_of_mem_take hz))
    have RC := hid (read8 va M vc ((wrV s).1.take M) w9 (by obtain ⟨rfl, _, rfl⟩ := Value.slice.inj hv'; exact hsg9))
    clear hb9 hown hv' hsg9 HCP SG B58
    go_wp2_with fail
    refine RC.out.mono ?_
    rintro e u1 h9
    obtain ⟨hb10, xe, xq, rfl, hxe⟩ := rda_cut BA.out gs ys (by rw [HN.out]; omega) h9
    have B10 := hid (B9.out.trans (hb10.mono B9.out.size))
    have b11 := below_new u1 (stO zM)
    have B11 := hid (B10.out.trans (b11.mono B10.out.size))
    clear hb10 h9 RC BA HN LN SBS B9 B8 B5 hw64 hca hsub hpos b11
    have RT := hid (read8 ba bn bc zs (u1.alloc (stO zM)) (HZ.out _ B11.out))
    go_wp2_with fail
    refine RT.out.mono ?_
    rintro e t1 ht1
    obtain ⟨hbt, hort⟩ := rda_any HR0.out ht1
    have T1 := hid (B11.out.trans (hbt.mono B11.out.size))
    clear hbt ht1 RT
    rcases hort with ⟨xe, xq, rfl, hxe⟩ | ⟨y, rfl, y1, y2, y3, y4⟩
    · have b6 := below_new t1 (stO zM)
      have T2 := hid (T1.out.trans (b6.mono T1.out.size))
      have ky := nb_new t1 (stO zM)
      have HE := hid (eqS7 zM zM (t1.alloc (stO zM)) (zM_sst _) (zM_sst _) zM_sb zM_sb)
      rw [zM_e] at HE
      have d0 := cell_at (i := 0) ky
      have d1 := cell_at (i := 1) ky
      have d2 := cell_at (i := 2) ky
      have d3 := cell_at (i := 3) ky
      have d4 := cell_at (i := 4) ky
      have d5 := cell_at (i := 5) ky
      have d6 := cell_at (i := 6) ky
      have d7 := cell_at (i := 7) ky
      clear b6 ky
      go_wp2_with fail
      refine HE.out.mono ?_
      rintro e t3 ⟨rfl, hb3'⟩
      go_wp2_with fail
      go_ret
      exact ⟨rfl, HB1.out.trans ((T2.out.trans (hb3'.mono T2.out.size)).mono HB1.out.size)⟩
    · have b6 := below_new t1 (stO y)
      have T2 := hid (T1.out.trans (b6.mono T1.out.size))
      have ky := nb_new t1 (stO y)
      have WY := hid (write7 y (t1.alloc (stO y)) (y1.later b6) y2 y3)
      have Y4 := hid y4
      have d0 := cell_at (i := 0) ky
      have d1 := cell_at (i := 1) ky
      have d2 := cell_at (i := 2) ky
      have d3 := cell_at (i := 3) ky
      have d4 := cell_at (i := 4) ky
      have d5 := cell_at (i := 5) ky
      have d6 := cell_at (i := 6) ky
      have d7 := cell_at (i := 7) ky
      clear b6 ky y1 y2 y3 y4
      go_wp2_with fail
      refine WY.out.mono ?_
      rintro e t3 h3
      obtain ⟨hb3', hor3⟩ := wra_is h3
      rw [Y4.out] at hor3
      have T3 := hid (T2.out.trans (hb3'.mono T2.out.size))
      clear hb3' h3 WY Y4
      rcases hor3 with ⟨hf, _⟩ | ⟨_, C, cc, rfl, sc⟩
      · cases hf
      have HZ3 := hid (HZ.out _ T3.out)
      have hzl := HZ3.out.1
      have HQ := hid (eqI39 (some ⟨C, 0, none⟩) ba _ _ cc bc zs zs t3 sc HZ3.out.toSI (by simp only; omega))
      have hee : lE iE zs zs = true := by rw [lE_int]; simp
      rw [hee] at HQ
      clear hzl hee sc HZ3
      simp only at HQ
      go_wp2_with fail
      refine HQ.out.mono ?_
      rintro e t4 ⟨rfl, hb4'⟩
      go_wp2_with fail
      go_ret
      exact ⟨rfl, HB1.out.trans ((T3.out.trans (hb4'.mono T3.out.size)).mono HB1.out.size)⟩
end Go.Proofs.Ytbdjghokedfkfaa

/-
  Plain facts of what is written and read (those of SnapBack's text).
-/
import Derived.Test.YtbdjghokedfkfaaDoorJPd
import Derived.Test.YtbdjghokedfkfaaDoorOa
namespace Go.Proofs.YtbdjghokedfkfaaDoor
open Go.RowKit
set_option linter.unusedVariables false
set_option maxRecDepth 100000

theorem sb_of {s : StM} (h : SC s) (hb : BY s) : SB s :=
  ⟨fun x hx => ⟨by have := (h.fb x hx).1; omega, by have := (h.fb x hx).2; omega⟩, fun x hx => ⟨by have := h.pb x hx; omega, hb x hx⟩, by have := h.f; omega, by have := h.g; omega, by have := h.p; omega, by have := h.r; omega⟩
theorem wra_is {x : StM} {w w' : World} {e : Ending} (h : WrA x w e w') : Below w.heap.size w w' ∧ ((wrV x).2 = true ∧ e = .returned (.tuple #[.slice none 0 0, .int .i64 44]) ∨ (wrV x).2 = false ∧ ∃ B cap, e = .returned (.tuple #[.slice (some ⟨B, 0, none⟩) (wrV x).1.length cap, .int .i64 0]) ∧ SI .u8 w' (some ⟨B, 0, none⟩) (wrV x).1.length (wrV x).1) := by
  obtain ⟨hb, hor⟩ := h
  refine ⟨hb, hor.imp id fun ⟨h1, B, cap, h2, h3, _⟩ => ⟨h1, B, cap, h2, h3.si rfl⟩⟩
theorem uv_rng : ∀ (f : Nat) (v : Int), 0 ≤ v → v < 2 * 128 ^ f → ∀ z ∈ uv f v, 0 ≤ z ∧ z ≤ 255
  | 0, v, h0, h1, z, hz => by
    have := List.mem_singleton.1 hz
    simp at h1
    omega
  | f + 1, v, h0, h1, z, hz => by
    unfold uv at hz
    by_cases h : v < 128
    · rw [if_pos h] at hz
      have := List.mem_singleton.1 hz
      omega
    · rw [if_neg h] at hz
      rcases List.mem_cons.1 hz with rfl | hz
      · omega
      · refine uv_rng f (v / 128) (by omega) ?_ z hz
        rw [Int.pow_succ] at h1
        omega
theorem uvar_rng {v : Int} (h : U64 v) : ∀ z ∈ uvar v, 0 ≤ z ∧ z ≤ 255 := uv_rng 9 v h.1 (by rw [show (2 : Int) * 128 ^ 9 = 18446744073709551616 from by decide]; exact h.2)
theorem encL_rng {l : List Int} (hl : l.length < 1000) (h : ∀ v ∈ l, U64 v) : ∀ z ∈ encL l, 0 ≤ z ∧ z ≤ 255 := fun z hz => by
  unfold encL at hz
  rcases List.mem_append.1 hz with hz | hz
  · exact uvar_rng ⟨by omega, by omega⟩ z hz
  · obtain ⟨v, hv, hz⟩ := List.mem_flatMap.1 hz
    exact uvar_rng (h v hv) z hz
/-- What is written is bytes. -/
theorem wr_rng {s : StM} (h : (wrV s).2 = false) (gs : RgS s) (ys : BY s) : ∀ z ∈ (wrV s).1, 0 ≤ z ∧ z ≤ 255 := by
  have a := stW_is h
  have e1 : (wrV s).1 = mgc ++ encS s := by show (stW s (mgc, false)).1 = _; rw [a.2]
  rw [e1]
  intro z hz
  rcases List.mem_append.1 hz with hz | hz
  · simp only [mgc, List.mem_cons, List.not_mem_nil, or_false] at hz
    omega
  unfold encS at hz
  simp only [List.mem_append, List.mem_singleton] at hz
  have u := fun v => uvar_rng (v := u64 v) (u64_rng v)
  have o := a.1
  rcases hz with ((((((hz | hz) | hz) | hz) | hz) | hz) | hz) | hz
  · have := o.en; omega
  · have := o.tr; omega
  · exact u _ z hz
  · exact u _ z hz
  · exact encL_rng (by have := o.rs; omega) gs.rs z hz
  · exact encL_rng (by have := o.gs; omega) gs.gs z hz
  · unfold encP at hz
    rcases List.mem_append.1 hz with hz | hz
    · rcases List.mem_append.1 hz with hz | hz
      · exact uvar_rng ⟨by omega, by have := o.ps; omega⟩ z hz
      · exact uvar_rng ⟨by omega, by have := idxTo_len s.ps s.ps.length; have := o.ps; unfold idx; omega⟩ z hz
    · obtain ⟨k, hk, hz⟩ := List.mem_flatMap.1 hz
      obtain ⟨i, y, rfl, hi, hy, _⟩ := idx_mem hk
      unfold encK at hz
      rcases List.mem_append.1 hz with hz | hz
      · exact uvar_rng ⟨by omega, by have := o.ps; omega⟩ z hz
      · rw [Int.toNat_natCast, hy] at hz
        exact ys y (List.mem_of_getElem? hy) z hz
  · unfold encFs at hz
    rcases List.mem_append.1 hz with hz | hz
    · exact uvar_rng ⟨by omega, by have := o.fs; omega⟩ z hz
    · obtain ⟨f, hf, hz⟩ := List.mem_flatMap.1 hz
      have hl := o.fl f hf
      have hr := (gs.fs f hf).1
      unfold encF at hz
      simp only [List.mem_append] at hz
      rcases hz with ((hz | hz) | hz) | hz
      · exact u _ z hz
      · exact u _ z hz
      · exact encL_rng (by omega) hr.1 z hz
      · exact encL_rng (by omega) hr.2 z hz
theorem wr_short (s : StM) (h : (wrV s).2 = false) (gs : RgS s) : 5 ≤ (wrV s).1.length ∧ (wrV s).1.length ≤ 524288 := by
  refine ⟨?_, ?_⟩
  · have a := stW_is h
    have e1 : (wrV s).1 = mgc ++ encS s := by show (stW s (mgc, false)).1 = _; rw [a.2]
    rw [e1, List.length_append]
    have : mgc.length = 5 := rfl
    omega
  have l1 := octW_len s.en 1 3 (mgc, false)
  have l2 := octW_len s.tr 0 6 (octW s.en 1 3 (mgc, false))
  have l3 := numW_len (u64 s.us) 4611686018427387904 (octW s.tr 0 6 (octW s.en 1 3 (mgc, false)))
  have l4 := numW_len (u64 s.rep) 9223372036854775807 (numW (u64 s.us) 4611686018427387904 (octW s.tr 0 6 (octW s.en 1 3 (mgc, false))))
  have e : wrV s = stW s (mgc, false) := rfl
  rw [e]
  unfold stW
  generalize numW (u64 s.rep) 9223372036854775807 (numW (u64 s.us) 4611686018427387904 (octW s.tr 0 6 (octW s.en 1 3 (mgc, false)))) = s4 at *
  have l5 := listW_len valW_bad (valW_wide s.rs) 8 s4
  have l6 := listW_len valW_bad (valW_wide s.gs) 64 (listW valW s.rs 8 s4)
  have l7 := pagesW_len s.ps gs.pl (listW valW s.gs 64 (listW valW s.rs 8 s4))
  have l8 := listW_len frW_bad (frW_wide s.fs) 64 (pagesW s.ps (listW valW s.gs 64 (listW valW s.rs 8 s4)))
  simp only [Int.cast_ofNat_Int] at l5 l6 l8
  have lm : (mgc, false).fst.length = 5 := rfl
  omega
theorem seg_take_fl {w : World} {a : Option Addr} {n c m : Nat} {zs : List Int} (h : Seg w a n c zs) (hm : m ≤ n) : Fl w a m ((zs.take m).map (Value.int .u8)) := by
  rcases h.toSI.2 with h0 | ⟨b, off, e, hc⟩
  · exact .inl (by omega)
  · refine .inr ⟨b, off, e, fun j y hj => ?_⟩
    rw [List.getElem?_map, Option.map_eq_some_iff] at hj
    obtain ⟨x, hx, rfl⟩ := hj
    rw [List.getElem?_take] at hx
    split at hx
    · exact hc j x hx
    · cases hx
/-- The state that is nought. -/
abbrev zM : StM := ⟨none, 0, 0, [], none, 0, 0, [], none, 0, 0, [], 0, 0, none, 0, 0, [], 0, 0⟩
theorem zM_sst (w : World) : SSt w zM := ⟨⟨rfl, .inl rfl, fun x hx => (by cases hx)⟩, ⟨rfl, .inl rfl⟩, ⟨rfl, .inl rfl, fun x hx => (by cases hx)⟩, ⟨rfl, .inl rfl⟩⟩
theorem zM_sb : SB zM := ⟨fun x hx => (by cases hx), fun x hx => (by cases hx), by show 0 ≤ _; omega, by show 0 ≤ _; omega, by show 0 ≤ _; omega, by show 0 ≤ _; omega⟩
theorem zM_e : stE zM zM = true := (stE_is _ _).2 rfl
theorem sr_p {base : Nat} {w : World} {p : StP} {B5 B6 B7 : Nat} {bl : List Nat} {B8 : Nat} {ys : List FrM} (h : StA base w p B5 B6 B7 bl B8 ys) (ho : OkP p) : SR (mkS p B5 B6 B7 bl B8 ys) := by
  refine ⟨⟨by have := ho.en.1; show -128 ≤ p.en; omega, by have := ho.en.2; show p.en ≤ 127; omega⟩, ⟨by have := ho.tr.1; show -128 ≤ p.tr; omega, by have := ho.tr.2; show p.tr ≤ 127; omega⟩, ho.rr, ho.gr, fun f hf => ?_, fun q hq => ?_⟩
  · have hm : plF f ∈ p.fs := by rw [← h.fp]; exact List.mem_map_of_mem hf
    exact ⟨(ho.fl _ hm).lr, (ho.fl _ hm).sr⟩
  · obtain ⟨j, hj⟩ := List.getElem?_of_mem hq
    obtain ⟨b, l, hb, hl, rfl⟩ := zip_get bl p.ps j q hj
    exact Nat.le_refl _
/-- What was written is read as itself. -/
theorem rda_wr {s : StM} (hb : (wrV s).2 = false) (gs : RgS s) (ys : BY s) {w w' : World} {e : Ending} (h : RdA (wrV s).1 w e w') : Below w.heap.size w w' ∧ ∃ y : StM, e = .returned (.tuple #[.agg (stAr y), .int .i64 0, .int .i64 0]) ∧ SSt w' y ∧ SB y ∧ stE y s = true := by
  obtain ⟨hbl, hor⟩ := h
  have hl := (wr_short s hb gs).2
  have r := rd_back hb gs hl
  have rr := rd_same (wr_rng hb gs ys) (by rw [r.1])
  rcases hor with ⟨h, _⟩ | ⟨_, B5, B6, B7, bl, B8, fs, he, hs⟩
  · rw [r.1] at h; exact absurd rfl h
  · refine ⟨hbl, _, he, hs.sst (fun l hl => (rr.2.1.pl l hl).1), hs.sb rr.2.1, ?_⟩
    rw [stE_is, mkS_pl hs.ps.len hs.fp, r.2]
/-- What is cut off is refused. -/
theorem rda_cut {s : StM} (hb : (wrV s).2 = false) (gs : RgS s) (ys : BY s) {w w' : World} {e : Ending} {n : Nat} (hn : n < (wrV s).1.length) (h : RdA ((wrV s).1.take n) w e w') : Below w.heap.size w w' ∧ ∃ x q, e = .returned (.tuple #[.agg zSt, .int .i64 x, .int .i64 q]) ∧ (x == 0) = false := by
  obtain ⟨hbl, hor⟩ := h
  have hc := cut_no hb gs (wr_rng hb gs ys) n hn
  rcases hor with ⟨h, he⟩ | ⟨h, _⟩
  · exact ⟨hbl, _, _, he, by simpa using h⟩
  · exact absurd h hc
/-- What is read, and then written. -/
theorem rda_any {zs : List Int} (hz : ∀ z ∈ zs, 0 ≤ z ∧ z ≤ 255) {w w' : World} {e : Ending} (h : RdA zs w e w') : Below w.heap.size w w' ∧ ((∃ x q, e = .returned (.tuple #[.agg zSt, .int .i64 x, .int .i64 q]) ∧ (x != 0) = true) ∨ ∃ y : StM, e = .returned (.tuple #[.agg (stAr y), .int .i64 0, .int .i64 0]) ∧ SSt w' y ∧ SB y ∧ SR y ∧ wrV y = (zs, false)) := by
  obtain ⟨hbl, hor⟩ := h
  refine ⟨hbl, ?_⟩
  rcases hor with ⟨h, he⟩ | ⟨h, B5, B6, B7, bl, B8, fs, he, hs⟩
  · exact .inl ⟨_, _, he, by simpa using h⟩
  · have rr := rd_same hz h
    refine .inr ⟨_, he, hs.sst (fun l hl => (rr.2.1.pl l hl).1), hs.sb rr.2.1, sr_p hs rr.1, back_same hz h (mkS_pl hs.ps.len hs.fp) (fun q hq => ?_)⟩
    have := mkS_4 q hq
    exact ⟨this.1, (rr.2.1.pl _ this.2).1⟩
end Go.Proofs.YtbdjghokedfkfaaDoor

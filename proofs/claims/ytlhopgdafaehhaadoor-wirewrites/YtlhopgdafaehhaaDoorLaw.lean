/-
  The walk over WireWrites: true, whatever the numbers and the text.
-/
import Derived.Test.YtlhopgdafaehhaaDoorBag
import Derived.Test.YtlhopgdafaehhaaDoorRef
namespace Go.Proofs.YtlhopgdafaehhaaDoor
open Go.RowKit
set_option linter.unusedVariables false

/-- A list of bytes as a slice. -/
def sl (p : Nat × List Int) : Value := .slice (some ⟨p.1, 0, none⟩) p.2.length p.2.length

/-- The bag and the lists that it holds, or will hold. -/
structure Bg (w0 wr : World) (GB : Nat) (v : Value) (rs : List (Nat × List Int)) (n : Nat) : Prop where
  below : Below w0.heap.size w0 wr
  gb : w0.heap.size ≤ GB
  cell : wr.cell? ⟨GB, 0, none⟩ = some v
  free : wr.frozen? ⟨GB, 0, none⟩ = false
  flds : ∀ j, 1 ≤ j → j ≤ 16 → wr.cell? ⟨GB, j, none⟩ = some (.slice none 0 0)
  own : wr.ownsRow 0 24 1 v n ((rs.take n).map sl)
  other : v.ownBlock ≠ some GB
  new : ∀ B, v.ownBlock = some B → w0.heap.size ≤ B
  rows : ∀ p ∈ rs, Rowz wr p.1 p.2.length p.2 ∧ p.1 ≠ GB ∧ w0.heap.size ≤ p.1
  inj : ∀ i j (hi : i < rs.length) (hj : j < rs.length), (rs[i]).1 = (rs[j]).1 → i = j

theorem Rowz.row {w : World} {B n : Nat} {zs : List Int} (h : Rowz w B n zs) : Row w 5 B n n (zs.map (Value.int .u8)) := h
theorem Rowz.below {w w' : World} {B b n : Nat} {zs : List Int} (h : Rowz w b n zs) (hb : Below B w w') (hB : w.heap.size ≤ B) : Rowz w' b n zs :=
  Row.keep h (hb.block b (Nat.lt_of_lt_of_le (Row.lt h) hB))
theorem Rowz.seg {w : World} {B n : Nat} {zs : List Int} (h : Rowz w B n zs) (hl : zs.length = n) (hn : n ≤ 1099511627776) (hr : ∀ z ∈ zs, 0 ≤ z ∧ z ≤ 255) : Seg w (some ⟨B, 0, none⟩) n n zs := seg_own h hl hn hr (Nat.le_refl _)

theorem Bg.later {w0 wr w' : World} {GB : Nat} {v : Value} {rs : List (Nat × List Int)} {n : Nat} (h : Bg w0 wr GB v rs n) (hb : Below wr.heap.size wr w') : Bg w0 w' GB v rs n := by
  have hlt : GB < wr.heap.size := block_lt_of_cell h.cell
  have hblk := hb.block GB hlt
  refine ⟨h.below.trans (hb.mono h.below.size), h.gb, (cell_of_block hblk 0).trans h.cell, (frozen_of_block hblk 0).trans h.free, fun j h1 h2 => (cell_of_block hblk j).trans (h.flds j h1 h2),
    own_keep h.own fun B hB => hb.block B (own_lt h.own hB).1, h.other, h.new, fun p hp => ⟨(h.rows p hp).1.below hb (Nat.le_refl _), (h.rows p hp).2⟩, h.inj⟩

/-- One list more. -/
theorem Bg.more {w0 wr : World} {GB : Nat} {v : Value} {rs : List (Nat × List Int)} {n : Nat} (h : Bg w0 wr GB v rs n) (p : Nat × List Int) (hn : n ≤ rs.length) (hr : Rowz wr p.1 p.2.length p.2) (h1 : GB ≠ p.1) (h2 : w0.heap.size ≤ p.1) (h3 : ∀ q ∈ rs, q.1 ≠ p.1) :
    Bg w0 wr GB v (rs ++ [p]) n := by
  refine ⟨h.below, h.gb, h.cell, h.free, h.flds, by rw [List.take_append_of_le_length hn]; exact h.own, h.other, h.new, fun q hq => ?_, fun i j hi hj e => ?_⟩
  · rcases List.mem_append.1 hq with hq | hq
    · exact h.rows q hq
    · simp at hq; subst hq; exact ⟨hr, Ne.symm h1, h2⟩
  · simp only [List.length_append, List.length_cons, List.length_nil] at hi hj
    by_cases hi' : i < rs.length
    · by_cases hj' : j < rs.length
      · rw [List.getElem_append_left hi', List.getElem_append_left hj'] at e
        exact h.inj i j hi' hj' e
      · obtain rfl : j = rs.length := by omega
        rw [List.getElem_append_left hi', List.getElem_append_right (by omega)] at e
        simp at e
        exact absurd e (h3 _ (List.getElem_mem hi'))
    · obtain rfl : i = rs.length := by omega
      by_cases hj' : j < rs.length
      · rw [List.getElem_append_left hj', List.getElem_append_right (by omega)] at e
        simp at e
        exact absurd e.symm (h3 _ (List.getElem_mem hj'))
      · omega

/-- A list is put into the bag. -/
theorem Bg.add {w0 wr w' : World} {GB : Nat} {v : Value} {rs : List (Nat × List Int)} {n B cap : Nat} (h : Bg w0 wr GB v rs n) (hn : n < rs.length) (hr : Row w' 24 B (n + 1) cap ((rs.take n).map sl ++ [sl rs[n]])) (hc : w'.cell? ⟨GB, 0, none⟩ = some (.slice (some ⟨B, 0, none⟩) (n + 1) cap))
    (hf : w'.frozen? ⟨GB, 0, none⟩ = false) (hB : B ≠ GB) (hn' : v.ownBlock = some B ∨ wr.heap.size ≤ B) (ho : ∀ j, j ≠ 0 → w'.cell? ⟨GB, j, none⟩ = wr.cell? ⟨GB, j, none⟩) (hk : Kept (fun b => b = GB ∨ v.ownBlock = some b) wr w') :
    Bg w0 w' GB (.slice (some ⟨B, 0, none⟩) (n + 1) cap) rs (n + 1) := by
  have hs := h.below.size
  refine ⟨?_, h.gb, hc, hf, fun j h1 h2 => (ho j (by omega)).trans (h.flds j h1 h2), ?_, ?_, ?_, fun p hp => ⟨?_, (h.rows p hp).2⟩, h.inj⟩
  · have h1 := (Kept.of_below h.below).then hk (fun k hk' hh => by
      rcases hh with rfl | hh
      · exact h.gb
      · exact h.new k hh)
    exact h1.to_below (Nat.le_refl _) (fun k hk' hh => by have : w0.heap.size ≤ k := hh; omega)
  · have e : (rs.take (n + 1)).map sl = (rs.take n).map sl ++ [sl rs[n]] := by rw [List.take_succ_eq_append_getElem hn, List.map_append]; rfl
    rw [e]; exact hr
  · simp [Value.ownBlock]; exact hB
  · intro b hb
    obtain rfl : B = b := by simpa [Value.ownBlock] using hb
    rcases hn' with h1 | h1
    · exact h.new B h1
    · omega
  · refine Row.kept (h.rows p hp).1 hk (fun e => ?_)
    rcases e with e | e
    · exact (h.rows p hp).2.1 e
    · exact own_ne h.own e (h.rows p hp).1.row (by decide) rfl

/-- What AddBytes does to it. -/
theorem addBg {w0 wr : World} {GB : Nat} {v : Value} {rs : List (Nat × List Int)} {n : Nat} (h : Bg w0 wr GB v rs n) (hn : n < rs.length) (h300 : n < 300) (x : Value) (hx : x = sl rs[n]) :
    Calls Tryd.prog 8 #[.pointer (some ⟨GB, 0, none⟩), x] wr fun e w' => e = .returned (.tuple #[]) ∧ ∃ v', Bg w0 w' GB v' rs (n + 1) := by
  subst hx
  refine (add8 GB v n _ _ _ _ wr h300 h.cell h.free h.own h.other).mono fun e w' ⟨he, B, cap, hr, hc, hf, hB, hnw, ho, hk⟩ => ⟨he, _, h.add hn hr hc hf hB hnw ho hk⟩

/-- What Apart says of it. -/
theorem apartBg {w0 wr : World} {GB : Nat} {v : Value} {rs : List (Nat × List Int)} (h : Bg w0 wr GB v rs rs.length) (h0 : 0 < rs.length) (h300 : rs.length ≤ 300) (hl : ∀ p ∈ rs, p.2.length ≤ 4194304) :
    Calls Tryd.prog 13 #[.pointer (some ⟨GB, 0, none⟩)] wr fun e w' => e = .returned (.bool true) ∧ Below w0.heap.size w0 w' := by
  have hown := h.own
  rw [List.take_of_length_le (Nat.le_refl _)] at hown
  obtain ⟨X, cx, rfl⟩ : ∃ X cx, v = .slice (some ⟨X, 0, none⟩) rs.length cx := by
    rcases hown.2 with ⟨_, e⟩ | ⟨g, cap, cur, e, _⟩
    · omega
    · exact ⟨g, cap, e⟩
  have hget : ∀ j, j < rs.length → rs.getD j (0, []) ∈ rs := fun j hj => by
    rw [List.getD_eq_getElem?_getD, List.getElem?_eq_getElem hj]; exact List.getElem_mem hj
  have hge : ∀ j (hj : j < rs.length), rs.getD j (0, []) = rs[j] := fun j hj => by
    rw [List.getD_eq_getElem?_getD, List.getElem?_eq_getElem hj]; rfl
  have H := apart13 GB X rs.length cx (fun j => (rs.getD j (0, [])).1) (fun j => (rs.getD j (0, [])).2.length) (fun j => (rs.getD j (0, [])).2.length) wr h300 h.cell
    (fun j hj => by
      rw [World.ownsRow.cellAt hown j (by omega), List.getElem?_map, List.getElem?_eq_getElem hj, hge j hj]; rfl)
    (fun j hj => ⟨_, (h.rows _ (hget j hj)).1.row⟩) (fun j hj => hl _ (hget j hj))
    (fun i j hi hj e => by
      rw [hge i hi, hge j hj] at e
      exact h.inj i j hi hj e)
    (fun j hj => ⟨fun e => (h.rows _ (hget j hj)).2.1 e.symm, fun e => by
      exact own_ne hown rfl (h.rows _ (hget j hj)).1.row (by decide) e.symm⟩) h.flds
  refine H.mono fun e w' ⟨he, hk⟩ => ⟨he, ?_⟩
  have h1 := (Kept.of_below h.below).then hk (fun k _ ⟨j, hj, e⟩ => by subst e; exact (h.rows _ (hget j hj)).2.2)
  exact h1.to_below (Nat.le_refl _) (fun k hk' hh => by have : w0.heap.size ≤ k := hh; omega)

/-- A new bag, and four lists that lie ahead of it. -/
theorem newBg {w0 w : World} {A0 A1 A2 A3 : Nat} {l0 l1 l2 l3 : List Int} (hb : Below w0.heap.size w0 w) (r0 : Rowz w A0 l0.length l0) (r1 : Rowz w A1 l1.length l1) (r2 : Rowz w A2 l2.length l2) (r3 : Rowz w A3 l3.length l3)
    (o0 : w0.heap.size ≤ A0) (o1 : A0 < A1) (o2 : A1 < A2) (o3 : A2 < A3) (B : Nat) (hB : w.heap.size = B) (t : TypeId) :
    Bg w0 (w.alloc (.cells (Array.replicate 17 (.slice none 0 0)) t)) B (.slice none 0 0) [(A0, l0), (A1, l1), (A2, l2), (A3, l3)] 0 := by
  subst hB
  have ha : Below w.heap.size w (w.alloc (.cells (Array.replicate 17 (.slice none 0 0)) t)) := (Below.refl _ _).alloc (Nat.le_refl _) _
  have hcell : ∀ j, j ≤ 16 → (w.alloc (.cells (Array.replicate 17 (.slice none 0 0)) t)).cell? ⟨w.heap.size, j, none⟩ = some (.slice none 0 0) := by
    intro j hj
    rw [World.cell?_alloc_new, Array.getElem?_eq_getElem (by simp; omega)]
    simp
  have k0 := Row.lt r0.row
  have k1 := Row.lt r1.row
  have k2 := Row.lt r2.row
  have k3 := Row.lt r3.row
  refine ⟨hb.trans (ha.mono hb.size), hb.size, hcell 0 (by omega), ?_, fun j _ h2 => hcell j h2, World.ownsRow_nil _ _ _ _, by simp [Value.ownBlock], fun b hb => by simp [Value.ownBlock] at hb, fun p hp => ?_, fun i j hi hj e => ?_⟩
  · simp
  · simp only [List.mem_cons, List.not_mem_nil, or_false] at hp
    rcases hp with rfl | rfl | rfl | rfl
    · exact ⟨r0.below ha (Nat.le_refl _), by simp only; omega, by simp only; omega⟩
    · exact ⟨r1.below ha (Nat.le_refl _), by simp only; omega, by simp only; omega⟩
    · exact ⟨r2.below ha (Nat.le_refl _), by simp only; omega, by simp only; omega⟩
    · exact ⟨r3.below ha (Nat.le_refl _), by simp only; omega, by simp only; omega⟩
  · simp at hi hj
    have hi' : i = 0 ∨ i = 1 ∨ i = 2 ∨ i = 3 := by omega
    have hj' : j = 0 ∨ j = 1 ∨ j = 2 ∨ j = 3 := by omega
    rcases hi' with rfl | rfl | rfl | rfl <;> rcases hj' with rfl | rfl | rfl | rfl <;> simp at e <;> omega

set_option maxRecDepth 100000 in
set_option maxHeartbeats 4000000 in
theorem writes3 (u n : Int) (s : ByteArray) (w : World) (hu0 : 0 ≤ u) (hu1 : u < 18446744073709551616) (hn0 : -9223372036854775808 ≤ n) (hn1 : n < 9223372036854775808) (hs : s.size ≤ 1048576) :
    Calls Tryd.prog 3 #[.int .u64 u, .int .i64 n, .string s] w fun e w' => e = .returned (.bool true) ∧ Below w.heap.size w w' := by
  go_enter Tryd.func3, Tryd.ntmps3
  go_wp2_with fail
  refine (works5 _).mono ?_
  rintro e w1 ⟨rfl, hb1⟩
  have B1 := hid hb1
  clear hb1
  go_wp2_with fail
  refine (uvar17 u w1 hu0 hu1).mono ?_
  rintro e w2 ⟨rfl, _, hb2, hz2, hr2⟩
  have B2 := hid hb2
  have R2 := hid hr2
  clear hb2 hr2
  go_wp2_with fail
  refine (svar19 n w2 hn0 hn1).mono ?_
  rintro e w3 ⟨rfl, _, hb3, hz3, hr3⟩
  have B3 := hid hb3
  have R3 := hid hr3
  clear hb3 hr3
  go_wp2_with fail
  refine (text20 s w3 (by omega)).mono ?_
  rintro e w4 ⟨A2, rfl, _, hb4, ha4, hz4, hr4⟩
  have B4 := hid hb4
  have R4 := hid hr4
  clear hb4 hr4
  go_wp2_with fail
  refine (text20 s w4 (by omega)).mono ?_
  rintro e w5 ⟨A3, rfl, _, hb5, ha5, hz5, hr5⟩
  have B5 := hid hb5
  have R5 := hid hr5
  clear hb5 hr5
  have hlt : (uvar s.size ++ strBytes s).length = (uvar s.size).length + s.size := by rw [List.length_append, strBytes_len]
  have g2 := ((R2.out.below B3.out (Nat.le_refl _)).below B4.out (Nat.le_refl _)).below B5.out (Nat.le_refl _)
  have g3 := (R3.out.below B4.out (Nat.le_refl _)).below B5.out (Nat.le_refl _)
  have g4 := R4.out.below B5.out (Nat.le_refl _)
  have g5 := R5.out
  rw [← hlt] at g4 g5
  have hbel : Below w.heap.size w w5 := ((((B1.out.trans (B2.out.mono B1.out.size)).trans (B3.out.mono (by have := B1.out.size; have := B2.out.size; omega))).trans (B4.out.mono (by have := B1.out.size; have := B2.out.size; have := B3.out.size; omega))).trans (B5.out.mono (by have := B1.out.size; have := B2.out.size; have := B3.out.size; have := B4.out.size; omega)))
  have hbg := newBg (w0 := w) hbel g2 g3 g4 g5 (by have := B1.out.size; omega) (by omega) (by omega) (by omega) w5.heap.size rfl 47
  have e17 : Array.replicate 17 (Value.slice none 0 0) = #[.slice none 0 0, .slice none 0 0, .slice none 0 0, .slice none 0 0, .slice none 0 0, .slice none 0 0, .slice none 0 0, .slice none 0 0, .slice none 0 0, .slice none 0 0, .slice none 0 0, .slice none 0 0, .slice none 0 0, .slice none 0 0, .slice none 0 0, .slice none 0 0, .slice none 0 0] := rfl
  rw [e17] at hbg
  have BG := hid hbg
  have HLT := hid hlt
  clear hbg e17 g2 g3 g4 g5 hbel hlt R2 R3 R4 R5 B1 B2 B3 B4 B5
  have ru := uvar_range u hu0 hu1
  have hfr := fo_range n hn0 hn1
  have rn := uvar_range (fo n) hfr.1 hfr.2
  have rt : ∀ z ∈ uvar s.size ++ strBytes s, 0 ≤ z ∧ z ≤ 255 := by
    intro z hz
    rcases List.mem_append.1 hz with hz | hz
    · exact uvar_range s.size (by omega) (by omega) z hz
    · exact strBytes_range s z hz
  have lu := uvar_len u
  have ln := uvar_len (fo n)
  have lt := uvar_len s.size
  have RU := hid ru
  have RN := hid rn
  have RT := hid rt
  clear ru rn rt hfr
  go_wp2_with fail
  generalize w5.alloc (.cells #[.slice none 0 0, .slice none 0 0, .slice none 0 0, .slice none 0 0, .slice none 0 0, .slice none 0 0, .slice none 0 0, .slice none 0 0, .slice none 0 0, .slice none 0 0, .slice none 0 0, .slice none 0 0, .slice none 0 0, .slice none 0 0, .slice none 0 0, .slice none 0 0, .slice none 0 0] 47) = w6 at BG ⊢
  refine (addBg BG.out (by simp) (by omega) _ rfl).mono ?_
  rintro e w7 ⟨rfl, v7, hbg7⟩
  have BG7 := hid hbg7
  clear hbg7 BG
  go_wp2_with fail
  refine (addBg BG7.out (by simp) (by omega) _ rfl).mono ?_
  rintro e w8 ⟨rfl, v8, hbg8⟩
  have BG8 := hid hbg8
  clear hbg8 BG7
  go_wp2_with fail
  refine (addBg BG8.out (by simp) (by omega) _ (by simp only [sl, List.getElem_cons_succ, List.getElem_cons_zero, HLT.out])).mono ?_
  rintro e w9 ⟨rfl, v9, hbg9⟩
  have BG9 := hid hbg9
  clear hbg9 BG8
  go_wp2_with fail
  refine (addBg BG9.out (by simp) (by omega) _ (by simp only [sl, List.getElem_cons_succ, List.getElem_cons_zero, HLT.out])).mono ?_
  rintro e w10 ⟨rfl, v10, hbg10⟩
  have BG10 := hid hbg10
  clear hbg10 BG9
  go_wp2_with fail
  refine (uvar17 u w10 hu0 hu1).mono ?_
  rintro e w11 ⟨rfl, _, hb11, hz11, hr11⟩
  have hGlt : w5.heap.size < w10.heap.size := block_lt_of_cell BG10.out.cell
  have hbg11 := (BG10.out.later hb11).more (w10.heap.size + 2, uvar u) (by simp) hr11 (by simp only; omega) (by have := BG10.out.below.size; simp only; omega) (fun q hq => by
    have := Row.lt (BG10.out.rows q hq).1.row
    simp only; omega)
  have BG11 := hid hbg11
  clear hbg11 hb11 hr11 BG10
  go_wp2_with fail
  refine (addBg BG11.out (by simp) (by omega) _ rfl).mono ?_
  rintro e w12 ⟨rfl, v12, hbg12⟩
  have BG12 := hid hbg12
  clear hbg12 BG11
  go_wp2_with fail
  refine (ruvar10 u w12 hu0 hu1).mono ?_
  rintro e w13 ⟨y, rfl, hy, hb13⟩
  obtain ⟨ya, yc, rfl, hsy, _⟩ := seg_of_own hy (by omega) RU.out
  have BG13 := hid (BG12.out.later hb13)
  have E1 := hid (eq15 (some ⟨w1.heap.size + 2, 0, none⟩) ya (uvar u).length (uvar u).length yc (uvar u) w13 ((BG13.out.rows (w1.heap.size + 2, uvar u) (by simp)).1.seg rfl (by simp only; omega) RU.out) hsy)
  clear hy hb13 hsy BG12
  go_wp2_with fail
  refine E1.out.mono ?_
  rintro e w14 ⟨rfl, m1, rfl⟩
  have BG14 := hid (BG13.out.later (below_drewN (Below.refl _ _) m1))
  clear E1 BG13
  generalize w13.drewN m1 = w14 at BG14 ⊢
  go_wp2_with fail
  refine (rsvar11 n w14 hn0 hn1).mono ?_
  rintro e w15 ⟨y, rfl, hy, hb15⟩
  obtain ⟨yb, yd, rfl, hsy, _⟩ := seg_of_own hy (by omega) RN.out
  have BG15 := hid (BG14.out.later hb15)
  have E1 := hid (eq15 (some ⟨w2.heap.size + 2, 0, none⟩) yb (uvar (fo n)).length (uvar (fo n)).length yd (uvar (fo n)) w15 ((BG15.out.rows (w2.heap.size + 2, uvar (fo n)) (by simp)).1.seg rfl (by simp only; omega) RN.out) hsy)
  clear hy hb15 hsy BG14
  go_wp2_with fail
  refine E1.out.mono ?_
  rintro e w16 ⟨rfl, m2, rfl⟩
  have BG16 := hid (BG15.out.later (below_drewN (Below.refl _ _) m2))
  clear E1 BG15
  generalize w15.drewN m2 = w16 at BG16 ⊢
  go_wp2_with fail
  refine (rtext12 s w16 (by omega)).mono ?_
  rintro e w17 ⟨yt, ytc, rfl, hsy, hb17⟩
  have BG17 := hid (BG16.out.later hb17)
  have sg2 := (BG17.out.rows (A2, uvar s.size ++ strBytes s) (by simp)).1.seg rfl (by simp only [HLT.out]; omega) RT.out
  simp only [HLT.out] at sg2
  have E1 := hid (eq15 (some ⟨A2, 0, none⟩) yt _ _ ytc (uvar s.size ++ strBytes s) w17 sg2 hsy)
  clear hsy hb17 BG16 sg2
  go_wp2_with fail
  refine E1.out.mono ?_
  rintro e w18 ⟨rfl, m3, rfl⟩
  have BG18 := hid (BG17.out.later (below_drewN (Below.refl _ _) m3))
  clear E1 BG17
  generalize w17.drewN m3 = w18 at BG18 ⊢
  have sg2 := (BG18.out.rows (A2, uvar s.size ++ strBytes s) (by simp)).1.seg rfl (by simp only [HLT.out]; omega) RT.out
  have sg3 := (BG18.out.rows (A3, uvar s.size ++ strBytes s) (by simp)).1.seg rfl (by simp only [HLT.out]; omega) RT.out
  simp only [HLT.out] at sg2 sg3
  have E1 := hid (eq15 (some ⟨A3, 0, none⟩) (some ⟨A2, 0, none⟩) _ _ _ (uvar s.size ++ strBytes s) w18 sg3 sg2)
  clear sg2 sg3
  go_wp2_with fail
  refine E1.out.mono ?_
  rintro e w19 ⟨rfl, m4, rfl⟩
  have BG19 := hid (BG18.out.later (below_drewN (Below.refl _ _) m4))
  clear E1 BG18
  generalize w18.drewN m4 = w19 at BG19 ⊢
  have AP := hid (apartBg BG19.out (by simp) (by simp) (by
    intro p hp
    simp only [List.cons_append, List.nil_append, List.mem_cons, List.not_mem_nil, or_false] at hp
    rcases hp with rfl | rfl | rfl | rfl | rfl <;> simp only [HLT.out] <;> omega))
  clear BG19
  go_wp2_with fail
  refine AP.out.mono ?_
  rintro e w20 ⟨rfl, hb20⟩
  go_wp2
  go_ret
  exact ⟨rfl, hb20⟩

set_option maxRecDepth 100000 in
set_option maxHeartbeats 1000000 in
/-- A text that is too long is let go. -/
theorem writes3_big (u n : Int) (s : ByteArray) (w : World) (hs : 1048576 < s.size) (hm : s.size ≤ 9223372036854775807) :
    Calls Tryd.prog 3 #[.int .u64 u, .int .i64 n, .string s] w fun e w' => e = .returned (.bool true) ∧ Below w.heap.size w w' := by
  have hs' : (1048576 : Int) < (s.size : Int) := by omega
  go_enter Tryd.func3, Tryd.ntmps3
  go_wp2_with fail
  refine (works5 _).mono ?_
  rintro e w1 ⟨rfl, hb1⟩
  go_wp2
  go_ret
  exact ⟨rfl, hb1⟩
end Go.Proofs.YtlhopgdafaehhaaDoor

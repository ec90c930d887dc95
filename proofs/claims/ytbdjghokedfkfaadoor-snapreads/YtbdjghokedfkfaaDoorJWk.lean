/-
  The known case: what Write and Read say of it.
-/
import Derived.Test.YtbdjghokedfkfaaDoorJPa
namespace Go.Proofs.YtbdjghokedfkfaaDoor
open Go.RowKit
set_option linter.unusedVariables false
set_option maxRecDepth 100000

def zs15 : List Int := [70, 83, 78, 80, 1, 2, 0, 2, 0, 1, 5, 0, 0, 0, 0]
abbrev kS (B : Nat) : StM := ⟨none, 0, 0, [], none, 0, 0, [], none, 0, 0, [], 0, 2, some ⟨B, 0, none⟩, 1, 1, [5], 0, 2⟩
theorem wr_kn (B : Nat) : wrV (kS B) = (zs15, false) := by kernel_rfl
theorem rd_kn : rdE zs15 = (0, 0) := by kernel_rfl
theorem rd_kn2 : rdE (zs15 ++ [0]) = (19, 15) := by kernel_rfl
theorem st_kn : stP zs15 (5, 0) = ⟨2, 0, 2, 0, [5], [], [], []⟩ := by kernel_rfl
end Go.Proofs.YtbdjghokedfkfaaDoor

/-
  A state that was read, as it lies in memory.
-/
namespace Go.Proofs.YtbdjghokedfkfaaDoor
open Go.RowKit
set_option linter.unusedVariables false
set_option maxRecDepth 100000

theorem zip_get (bl : List Nat) (ps : List (List Int)) (j : Nat) (x : PgM) (h : (List.zipWith (fun b l => (((some ⟨b, 0, none⟩, 4096, 4096), l) : PgM)) bl ps)[j]? = some x) : ∃ b l, bl[j]? = some b ∧ ps[j]? = some l ∧ x = ((some ⟨b, 0, none⟩, 4096, 4096), l) := by
  rw [List.getElem?_zipWith] at h
  cases hb : bl[j]? with
  | none => rw [hb] at h; simp at h
  | some b =>
    cases hl : ps[j]? with
    | none => rw [hb, hl] at h; simp at h
    | some l =>
      rw [hb, hl] at h
      exact ⟨b, l, rfl, rfl, by simpa using h.symm⟩
theorem StA.sst {base : Nat} {w : World} {p : StP} {B5 B6 B7 : Nat} {bl : List Nat} {B8 : Nat} {ys : List FrM} (h : StA base w p B5 B6 B7 bl B8 ys) (hp : ∀ l ∈ p.ps, l.length = 4096) : SSt w (mkS p B5 B6 B7 bl B8 ys) := by
  refine ⟨⟨rfl, .inr ⟨B8, 0, rfl, fun j x hj => ?_⟩, fun x hx => ?_⟩, h.gs.si, ⟨?_, .inr ⟨B7, 0, rfl, fun j x hj => ?_⟩, fun x hx => ?_⟩, h.rs.si⟩
  · have hc : ∀ q, q < 4 → w.cell? ⟨B8, 0 + j * 4 + q, none⟩ = (frCs x)[q]? := fun q hq => by
      rw [cell_at h.fr, Nat.zero_add, List.getElem?_toArray, fm_get frCs 4 frCs_len ys j q hq]
      have hj' : ys[j]? = some x := hj
      rw [hj']
      rfl
    exact ⟨hc 0 (by omega), hc 1 (by omega), hc 2 (by omega), hc 3 (by omega)⟩
  · obtain ⟨f, C1, C2, rfl, hf, _⟩ := h.fa.el x hx
    exact ⟨hf.l.si, hf.s.si⟩
  · have := h.ps.len
    simp only [List.length_zipWith]
    omega
  · obtain ⟨b, l, hb, hl, rfl⟩ := zip_get bl p.ps j x hj
    rw [cell_at h.ps.row, Nat.zero_add, List.getElem?_toArray, List.getElem?_map, hb]
    rfl
  · obtain ⟨j, hj⟩ := List.getElem?_of_mem hx
    obtain ⟨b, l, hb, hl, rfl⟩ := zip_get bl p.ps j x hj
    refine ⟨hp l (List.mem_of_getElem? hl), .inr ⟨b, 0, rfl, fun i z hz => ?_⟩⟩
    have hz' : l[i]? = some z := hz
    rw [cell_at (h.ps.el j b l hb hl), Nat.zero_add]
    simp [byV, hz']
/-- How long the lists are, and what the numbers are. -/
structure SzP (p : StP) : Prop where
  rs : p.rs.length ≤ 8
  gs : p.gs.length ≤ 64
  ps : p.ps.length ≤ 64
  pl : ∀ l ∈ p.ps, l.length = 4096 ∧ ∀ z ∈ l, 0 ≤ z ∧ z ≤ 255
  fs : p.fs.length ≤ 64
  fl : ∀ f ∈ p.fs, f.2.2.1.length ≤ 64 ∧ f.2.2.2.length ≤ 256
theorem StA.sb {base : Nat} {w : World} {p : StP} {B5 B6 B7 : Nat} {bl : List Nat} {B8 : Nat} {ys : List FrM} (h : StA base w p B5 B6 B7 bl B8 ys) (hp : SzP p) : SB (mkS p B5 B6 B7 bl B8 ys) := by
  have hyl : ys.length = p.fs.length := by rw [← h.fp, List.length_map]
  refine ⟨fun x hx => ?_, fun x hx => ?_, ?_, ?_, ?_, ?_⟩
  · obtain ⟨f, C1, C2, rfl, hf, _⟩ := h.fa.el x hx
    have hm : plF (frN f C1 C2) ∈ p.fs := by rw [← h.fp]; exact List.mem_map_of_mem hx
    have := hp.fl _ hm
    simp only [plF] at this
    exact ⟨by show f.2.2.1.length ≤ _; omega, by show f.2.2.2.length ≤ _; omega⟩
  · obtain ⟨j, hj⟩ := List.getElem?_of_mem hx
    obtain ⟨b, l, hb, hl, rfl⟩ := zip_get bl p.ps j x hj
    exact ⟨by show 4096 ≤ 1099511627776; omega, (hp.pl l (List.mem_of_getElem? hl)).2⟩
  · show ys.length ≤ _
    have := hp.fs
    omega
  · show p.gs.length ≤ _
    have := hp.gs
    omega
  · show p.ps.length ≤ _
    have := hp.ps
    omega
  · show p.rs.length ≤ _
    have := hp.rs
    omega
theorem sz_kn : SzP ⟨2, 0, 2, 0, [5], [], [], []⟩ := ⟨by decide, by decide, by decide, fun l hl => (by cases hl), by decide, fun f hf => (by cases hf)⟩
theorem sst_kn {w : World} {B : Nat} (h : w.heap[B]? = some (.cells #[.int .u64 5] 63)) : SSt w (kS B) :=
  ⟨⟨rfl, .inl rfl, fun x hx => (by cases hx)⟩, ⟨rfl, .inl rfl⟩, ⟨rfl, .inl rfl, fun x hx => (by cases hx)⟩, ⟨rfl, .inr ⟨B, 0, rfl, fun j x hj => by
    have hj0 : j = 0 := by have := lt_of_get hj; simp at this; omega
    subst hj0
    obtain rfl : (5 : Int) = x := by simpa using hj
    exact cell_at h⟩⟩⟩
theorem sb_kn (B : Nat) : SB (kS B) := ⟨fun x hx => (by cases hx), fun x hx => (by cases hx), by show 0 ≤ _; omega, by show 0 ≤ _; omega, by show 0 ≤ _; omega, by show 1 ≤ _; omega⟩
theorem sr_kn (B : Nat) : SR (kS B) := ⟨by show (-128 : Int) ≤ 2 ∧ (2 : Int) ≤ 127; decide, by show (-128 : Int) ≤ 0 ∧ (0 : Int) ≤ 127; decide, fun v hv => by
    have : v = 5 := by simpa using hv
    subst this; decide, fun v hv => (by cases hv), fun v hv => (by cases hv), fun v hv => (by cases hv)⟩
theorem ste_kn {base : Nat} {w : World} {B5 B6 B7 : Nat} {bl : List Nat} {B8 B : Nat} {ys : List FrM} (h : StA base w ⟨2, 0, 2, 0, [5], [], [], []⟩ B5 B6 B7 bl B8 ys) : stE (mkS ⟨2, 0, 2, 0, [5], [], [], []⟩ B5 B6 B7 bl B8 ys) (kS B) = true := by
  have hy : ys = [] := by
    have := congrArg List.length h.fp
    rw [List.length_map] at this
    exact List.eq_nil_of_length_eq_zero this
  subst hy
  have hz : List.zipWith (fun b l => (((some ⟨b, 0, none⟩, 4096, 4096), l) : PgM)) bl ([] : List (List Int)) = [] := by simp
  simp only [stE, hz]
  decide
end Go.Proofs.YtbdjghokedfkfaaDoor

/-
  The known case walked: works.
-/
namespace Go.Proofs.YtbdjghokedfkfaaDoor
open Go.RowKit
set_option linter.unusedVariables false
set_option maxRecDepth 100000

abbrev zA : Array Value := #[.int .u8 70, .int .u8 83, .int .u8 78, .int .u8 80, .int .u8 1, .int .u8 2, .int .u8 0, .int .u8 2, .int .u8 0, .int .u8 1, .int .u8 5, .int .u8 0, .int .u8 0, .int .u8 0, .int .u8 0]
abbrev zO : Obj := .cells zA 5 (15, 16)
theorem cnvZ (w : World) : (convert 31 31 (.slice (some ⟨w.heap.size, 0, none⟩) 15 15)).run Tryd.prog (w.alloc (.cells zA 5)) = .ok (.slice (some ⟨w.heap.size, 0, none⟩) 15 15) (w.alloc zO) :=
  Go.Lib.run_convert_bytes_const (P := Tryd.prog) w 31 5 zA 15 15 Tryd.underlying31 Tryd.underlying5
theorem seg_kn {w : World} {b : Nat} (h : w.heap[b]? = some zO) : Seg w (some ⟨b, 0, none⟩) 15 15 zs15 := by
  refine ⟨rfl, by omega, by omega, by decide, .inr ⟨b, 0, rfl, fun j hj => ?_⟩⟩
  have : w.cell? ⟨b, 0 + j, none⟩ = zA[0 + j]? := by simp only [World.cell?, h]; rfl
  rw [this, Nat.zero_add]
  have h6 : j = 0 ∨ j = 1 ∨ j = 2 ∨ j = 3 ∨ j = 4 ∨ j = 5 ∨ j = 6 ∨ j = 7 ∨ j = 8 ∨ j = 9 ∨ j = 10 ∨ j = 11 ∨ j = 12 ∨ j = 13 ∨ j = 14 := by omega
  rcases h6 with rfl | rfl | rfl | rfl | rfl | rfl | rfl | rfl | rfl | rfl | rfl | rfl | rfl | rfl | rfl <;> rfl
theorem Seg.toSI {w : World} {a : Option Addr} {n c : Nat} {zs : List Int} (h : Seg w a n c zs) : SI .u8 w a n zs :=
  ⟨h.1, h.2.2.2.2.imp id fun ⟨b, off, e, hc⟩ => ⟨b, off, e, fun j x hj => by
    have hj' := lt_of_get hj
    have := hc j (by have := h.1; omega)
    rw [List.getD_eq_getElem?_getD, hj] at this
    exact this⟩⟩
theorem Seg.toFl {w : World} {a : Option Addr} {n c : Nat} {zs : List Int} (h : Seg w a n c zs) : Fl w a n (zs.map (Value.int .u8)) := by
  rcases h.toSI.2 with h0 | ⟨b, off, e, hc⟩
  · exact .inl h0
  · refine .inr ⟨b, off, e, fun j y hj => ?_⟩
    rw [List.getElem?_map, Option.map_eq_some_iff] at hj
    obtain ⟨x, hx, rfl⟩ := hj
    exact hc j x hx
theorem Buf.si {w : World} {g n cap : Nat} {bs : List Int} (h : Buf w g n cap (bs.map (Value.int .u8))) (hn : bs.length = n) : SI .u8 w (some ⟨g, 0, none⟩) n bs := by
  refine ⟨hn, .inr ⟨g, 0, rfl, fun j x hj => ?_⟩⟩
  have hm : (bs.map (Value.int .u8))[j]? = some (.int .u8 x) := by rw [List.getElem?_map, hj]; rfl
  rw [Nat.zero_add]
  rcases h with hr | hr
  · have := hr.cell j (by have := lt_of_get hj; omega)
    rw [this]; exact hm
  · exact hr.2.2.2.2 j _ hm

abbrev kP : StP := ⟨2, 0, 2, 0, [5], [], [], []⟩
theorem wra_kn {b : Nat} {w w' : World} {e : Ending} (h : WrA (kS b) w e w') : Below w.heap.size w w' ∧ ∃ B cap, e = .returned (.tuple #[.slice (some ⟨B, 0, none⟩) 15 cap, .int .i64 0]) ∧ Buf w' B 15 cap (zs15.map (Value.int .u8)) ∧ w.heap.size ≤ B := by
  obtain ⟨hb, hor⟩ := h
  rw [wr_kn] at hor
  rcases hor with ⟨h, _⟩ | ⟨_, B, cap, he, hbuf, hlo⟩
  · cases h
  · exact ⟨hb, B, cap, he, hbuf, hlo⟩
theorem rda_kn {w w' : World} {e : Ending} (h : RdA zs15 w e w') : Below w.heap.size w w' ∧ ∃ y : StM, ∃ B5 B6 B7 bl B8 ys, e = .returned (.tuple #[.agg (stAr y), .int .i64 0, .int .i64 0]) ∧ y = mkS kP B5 B6 B7 bl B8 ys ∧ StA w.heap.size w' kP B5 B6 B7 bl B8 ys := by
  obtain ⟨hb, hor⟩ := h
  rw [rd_kn, st_kn] at hor
  rcases hor with ⟨h, _⟩ | ⟨_, B5, B6, B7, bl, B8, ys, he, hs⟩
  · exact absurd rfl h
  · exact ⟨hb, _, B5, B6, B7, bl, B8, ys, he, rfl, hs⟩
theorem rda_kn2 {w w' : World} {e : Ending} (h : RdA (zs15 ++ [0]) w e w') : Below w.heap.size w w' ∧ e = .returned (.tuple #[.agg zSt, .int .i64 19, .int .i64 15]) := by
  obtain ⟨hb, hor⟩ := h
  rw [rd_kn2] at hor
  rcases hor with ⟨_, h⟩ | ⟨h, _⟩
  · exact ⟨hb, h⟩
  · cases h
set_option maxHeartbeats 8000000 in
theorem works5 (w : World) : Calls Tryd.prog 5 #[] w fun e w' => e = .returned (.bool true) ∧ Below w.heap.size w w' := by
  have hcv := cnvZ w
  have b1 := below_new w zO
  have b2 := b1.trans ((below_new (w.alloc zO) (.cells #[.int .u64 5] 63)).mono b1.size)
  have b3 := b2.trans ((below_new ((w.alloc zO).alloc (.cells #[.int .u64 5] 63)) (.cells (stAr (kS (w.heap.size + 1))) 27)).mono b2.size)
  have ka : (((w.alloc zO).alloc (.cells #[.int .u64 5] 63)).alloc (.cells (stAr (kS (w.heap.size + 1))) 27)).heap[w.heap.size]? = some zO := nb_later (below_new _ _) (nb_later (below_new _ _) (nb_new w zO))
  have kb : (((w.alloc zO).alloc (.cells #[.int .u64 5] 63)).alloc (.cells (stAr (kS (w.heap.size + 1))) 27)).heap[w.heap.size + 1]? = some (.cells #[.int .u64 5] 63) := nb_later (below_new _ _) (nb_at (by simp))
  have kc : (((w.alloc zO).alloc (.cells #[.int .u64 5] 63)).alloc (.cells (stAr (kS (w.heap.size + 1))) 27)).heap[w.heap.size + 2]? = some (.cells (stAr (kS (w.heap.size + 1))) 27) := nb_at (by simp)
  have HB3 := hid b3
  have KA := hid ka
  have KB := hid kb
  have KC := hid kc
  have HW := hid (write7 (kS (w.heap.size + 1)) _ (sst_kn kb) (sb_kn _) (sr_kn _))
  have hsz : (((w.alloc zO).alloc (.cells #[.int .u64 5] 63)).alloc (.cells (stAr (kS (w.heap.size + 1))) 27)).heap.size = w.heap.size + 3 := by simp
  clear b1 b2 b3 ka kb kc
  go_enter Tryd.func5, Tryd.ntmps5
  go_wp2_with fail
  generalize ((w.alloc zO).alloc (.cells #[.int .u64 5] 63)).alloc (.cells (stAr (kS (w.heap.size + 1))) 27) = W3 at *
  refine HW.out.mono ?_
  rintro e w4 h4
  obtain ⟨hb4, B, cap, rfl, hbuf, hlo⟩ := wra_kn h4
  have ka4 := nb_later hb4 KA.out
  have kb4 := nb_later hb4 KB.out
  have kc4 := nb_later hb4 KC.out
  have HB4 := hid (HB3.out.trans (hb4.mono HB3.out.size))
  have KA4 := hid ka4
  have KB4 := hid kb4
  have KC4 := hid kc4
  have BF4 := hid (hbuf.si rfl)
  have HR := hid (read8 (some ⟨w.heap.size, 0, none⟩) 15 15 zs15 w4 (seg_kn ka4))
  have hs4 := hb4.size
  clear hb4 hbuf HW ka4 kb4 kc4 KA KB KC h4 hcv
  go_wp2_with fail
  refine HR.out.mono ?_
  rintro e w5 h5
  obtain ⟨hb5, y, B5, B6, B7, bl, B8, ys, rfl, hy, hst⟩ := rda_kn h5
  have b6 := below_new w5 (.cells (stAr y) 27)
  have bb6 := hb5.trans (b6.mono hb5.size)
  have KA6 := hid (nb_later bb6 KA4.out)
  have KB6 := hid (nb_later bb6 KB4.out)
  have KC6 := hid (nb_later bb6 KC4.out)
  have BF6 := hid (BF4.out.later bb6)
  have HB6 := hid (HB4.out.trans (bb6.mono HB4.out.size))
  have ST6 := hid (hst.keep (kept_of (S := fun _ => False) b6) (fun _ _ _ h => h))
  have KY6 := hid (nb_new w5 (.cells (stAr y) 27))
  have HY := hid hy
  have hs6 : (w5.alloc (.cells (stAr y) 27)).heap.size = w5.heap.size + 1 := by simp
  have hs5 := hb5.size
  clear hb5 b6 bb6 hst hy h5 HR KA4 KB4 KC4 BF4 HB4
  go_wp2_with fail
  generalize w5.alloc (.cells (stAr y) 27) = W6 at *
  have SS6 := hid (show SSt W6 y by rw [HY.out]; exact ST6.out.sst (fun l hl => (sz_kn.pl l hl).1))
  have SB6 := hid (show SB y by rw [HY.out]; exact ST6.out.sb sz_kn)
  have SE6 := hid (show stE y (kS (w.heap.size + 1)) = true by rw [HY.out]; exact ste_kn ST6.out)
  clear ST6 HY
  have HC := hid (copy41 (some ⟨w.heap.size, 0, none⟩) 15 15 (zs15.map (Value.int .u8)) W6 (seg_kn KA6.out).toFl rfl (ints_one _) (by omega))
  refine HC.out.mono ?_
  rintro e w7 ⟨va, vc, rfl, hown, hb7⟩
  have b8 := below_new w7 (.cells #[.int .u8 0] 5)
  have bb8 := hb7.trans (b8.mono hb7.size)
  have BB8 := hid bb8
  have OW8 := hid (own_keepB hown (kept_of (S := fun _ => False) b8) (fun _ _ h => h))
  have HU := hid (one_cell w7 w7.heap.size (.int .u8 0) 5 rfl)
  have hs8 : (w7.alloc (.cells #[.int .u8 0] 5)).heap.size = w7.heap.size + 1 := by simp
  have hs7 := hb7.size
  obtain ⟨i0, hi0, hz0, hz1, hz2⟩ := info_parts Tryd.info5
  clear hb7 b8 bb8 hown HC
  go_wp2_with (first | (at_builtin; refine wpList_append_own _ rfl (.tmp 29) (.tmp 30) 31 rfl W6.heap.size 5 i0 (.int .u8 0) 1 1 Tryd.underlying31 hi0 hz0 hz1 hz2 rfl (by decide) _ 15 _ rfl OW8.out ⟨w7.heap.size, 0, none⟩ 1 1 [.int .u8 0] rfl rfl HU.out (by intro u hu; simp at hu; subst hu; rfl) (by unfold maxLen; omega) (by omega) (by omega) ?_; intro v' w9 hown hg hdrop; clear hdrop; have HO := hid hown; have HG := hid hg; clear hown hg))
  have hb9 : Below W6.heap.size (w7.alloc (.cells #[.int .u8 0] 5)) w9 := own_below OW8.out HG.out (by omega)
  have hown9 : w9.ownsRow W6.heap.size 5 1 v' 16 ((zs15 ++ [0]).map (Value.int .u8)) := by
    have := HO.out
    rw [List.map_append]
    exact this
  obtain ⟨va9, vc9, rfl, hseg9, _⟩ := seg_of_own hown9 (by omega) (by decide)
  have BB9 := hid (BB8.out.trans hb9)
  have HR2 := hid (read8 va9 16 vc9 (zs15 ++ [0]) w9 hseg9)
  clear hb9 hown9 hseg9 HO HG OW8 HU BB8 hi0 hz0 hz1 hz2
  go_wp2_with fail
  refine HR2.out.mono ?_
  rintro e w10 h10
  obtain ⟨hb10, rfl⟩ := rda_kn2 h10
  have b11 := below_new w10 (.cells zSt 27)
  have hbA := BB9.out.trans (hb10.mono BB9.out.size)
  have hbB := hbA.trans (b11.mono hbA.size)
  have KA := nb_later hbB KA6.out
  have KB := nb_later hbB KB6.out
  have KC := nb_later hbB KC6.out
  have KY := nb_later hbB KY6.out
  have HBB := hid (HB6.out.trans (hbB.mono HB6.out.size))
  have EB := hid (eqI39 (some ⟨B, 0, none⟩) (some ⟨w.heap.size, 0, none⟩) 15 15 cap 15 zs15 zs15 _ (BF6.out.later hbB) (seg_kn KA).toSI (by omega))
  have ES := hid (fun (W : World) (hW : Below (w10.alloc (.cells zSt 27)).heap.size (w10.alloc (.cells zSt 27)) W) => eqS7 y (kS (w.heap.size + 1)) W ((SS6.out.later hbB).later hW) ((sst_kn KB).later hW) SB6.out (sb_kn _))
  have el : lE iE zs15 zs15 = true := by rw [lE_int]; simp
  rw [el] at EB
  rw [SE6.out] at ES
  have HKC := hid KC
  have HKY := hid KY
  have hy0 : ∀ (W : World), Below (w10.alloc (.cells zSt 27)).heap.size (w10.alloc (.cells zSt 27)) W → Hid (W.heap[w5.heap.size]? = some (.cells (stAr y) 27) ∧ W.heap[w.heap.size + 2]? = some (.cells (stAr (kS (w.heap.size + 1))) 27)) := fun W hW => hid ⟨nb_later hW HKY.out, nb_later hW HKC.out⟩
  have HY0 := hid hy0
  clear hb10 b11 hbA hbB KA KB KC KY h10 HR2 el hy0 KA6 KB6 KC6 KY6 BF6 SS6 SB6 SE6 BB9 HB6
  go_wp2_with fail
  generalize w10.alloc (.cells zSt 27) = W11 at *
  refine EB.out.mono ?_
  rintro e w12 ⟨rfl, hb12⟩
  have hk12 := HY0.out w12 hb12
  have c0 : ∀ i, w12.cell? ⟨w5.heap.size, i, none⟩ = (stAr y)[i]? := fun i => cell_at hk12.out.1
  have d0 : ∀ i, w12.cell? ⟨w.heap.size + 2, i, none⟩ = (stAr (kS (w.heap.size + 1)))[i]? := fun i => cell_at hk12.out.2
  have m0 : w12.cell? ⟨w5.heap.size, 0, none⟩ = some (.slice y.fa y.fn y.fc) := c0 0
  have m1 : w12.cell? ⟨w5.heap.size, 1, none⟩ = some (.slice y.ga y.gn y.gc) := c0 1
  have m2 : w12.cell? ⟨w5.heap.size, 2, none⟩ = some (.slice y.pa y.pn y.pc) := c0 2
  have m3 : w12.cell? ⟨w5.heap.size, 3, none⟩ = some (.int .i64 y.rep) := c0 3
  have m4 : w12.cell? ⟨w5.heap.size, 4, none⟩ = some (.int .i8 y.en) := c0 4
  have m5 : w12.cell? ⟨w5.heap.size, 5, none⟩ = some (.slice y.ra y.rn y.rc) := c0 5
  have m6 : w12.cell? ⟨w5.heap.size, 6, none⟩ = some (.int .i8 y.tr) := c0 6
  have m7 : w12.cell? ⟨w5.heap.size, 7, none⟩ = some (.int .i64 y.us) := c0 7
  have p0 : w12.cell? ⟨w.heap.size + 1 + 1, 0, none⟩ = some nS := d0 0
  have p1 : w12.cell? ⟨w.heap.size + 1 + 1, 1, none⟩ = some nS := d0 1
  have p2 : w12.cell? ⟨w.heap.size + 1 + 1, 2, none⟩ = some nS := d0 2
  have p3 : w12.cell? ⟨w.heap.size + 1 + 1, 3, none⟩ = some (.int .i64 0) := d0 3
  have p4 : w12.cell? ⟨w.heap.size + 1 + 1, 4, none⟩ = some (.int .i8 2) := d0 4
  have p5 : w12.cell? ⟨w.heap.size + 1 + 1, 5, none⟩ = some (.slice (some ⟨w.heap.size + 1, 0, none⟩) 1 1) := d0 5
  have p6 : w12.cell? ⟨w.heap.size + 1 + 1, 6, none⟩ = some (.int .i8 0) := d0 6
  have p7 : w12.cell? ⟨w.heap.size + 1 + 1, 7, none⟩ = some (.int .i64 2) := d0 7
  have HB12 := hid (HBB.out.trans (hb12.mono HBB.out.size))
  have ES12 := hid (ES.out w12 hb12)
  clear hb12 hk12 c0 d0 EB ES HY0
  go_wp2_with fail
  refine ES12.out.mono ?_
  rintro e w13 ⟨rfl, hb13⟩
  have HB13 := hid (HB12.out.trans (hb13.mono HB12.out.size))
  clear hb13 ES12
  go_wp2_with fail
  go_ret
  exact ⟨rfl, HB13.out⟩
end Go.Proofs.YtbdjghokedfkfaaDoor

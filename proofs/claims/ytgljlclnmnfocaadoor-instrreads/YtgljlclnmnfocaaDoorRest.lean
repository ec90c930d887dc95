/-
  The walk over the reader's method rest: what stands behind an opcode.
-/
import Derived.Test.YtgljlclnmnfocaaDoorLab
namespace Go.Proofs.YtgljlclnmnfocaaDoor
open Go.RowKit
set_option linter.unusedVariables false

theorem own_set {w : World} {base : Nat} {e : TypeId} {v : Value} {n : Nat} {xs : List Value} {b o : Nat} {u : Value} (h : w.ownsRow base e 1 v n xs) (hb : b < base) : (w.setCell ⟨b, o, none⟩ u).ownsRow base e 1 v n xs := by
  refine own_keep h fun B hB => Below.heap_setCell _ _ _ _ ?_
  rcases h.2 with ⟨rfl, _⟩ | ⟨g, cp, cur, rfl, hg, _⟩
  · simp [Value.ownBlock] at hB
  · simp [Value.ownBlock] at hB; subst hB; simp; omega

/-- What the reader makes of what stands behind the opcode. -/
theorem decR_u {t : Int} {g : Bool} {zs : List Int} {p : Int} (h0 : t ≠ 0) (h3 : t ≠ 3) (h8 : t ≠ 8) (hu : 0 ≤ (ruAt zs p).1) :
    decR t g zs p = ((rdU zs p (lo t g) (hi t g)).1, [], (if (rdU zs p (lo t g) (hi t g)).2.2 = 0 then (rdU zs p (lo t g) (hi t g)).2.1 else 0), (rdU zs p (lo t g) (hi t g)).2.2) := by
  have hl := (hi_range t g).2.2 h8
  unfold decR rdU
  rw [if_neg h0, if_neg h3, if_neg h8, hl.2]
  by_cases h1 : (ruAt zs p).2.2 ≠ 0
  · rw [if_pos h1, if_pos h1]
    simp only
    rw [if_neg h1]
  rw [if_neg h1, if_neg h1]
  by_cases h2 : hi t g < (ruAt zs p).1
  · rw [if_pos h2, if_pos (.inr h2)]
    simp
  · rw [if_neg h2, if_neg (by omega)]
    simp
theorem decR_s {g : Bool} {zs : List Int} {p : Int} :
    decR 8 g zs p = ((rdS zs p (lo 8 g) (hi 8 g)).1, [], (if (rdS zs p (lo 8 g) (hi 8 g)).2.2 = 0 then (rdS zs p (lo 8 g) (hi 8 g)).2.1 else 0), (rdS zs p (lo 8 g) (hi 8 g)).2.2) := by
  unfold decR rdS
  rw [if_neg (by decide), if_neg (by decide), if_pos rfl]
  by_cases h1 : (rsAt zs p).2.2 ≠ 0
  · rw [if_pos h1, if_pos h1]
    simp only
    rw [if_neg h1]
  rw [if_neg h1, if_neg h1]
  by_cases h2 : (rsAt zs p).1 < lo 8 g ∨ hi 8 g < (rsAt zs p).1
  · rw [if_pos h2, if_pos h2]
    simp
  · rw [if_neg h2, if_neg h2]
    simp
theorem decR_l {g : Bool} {zs : List Int} {p : Int} : decR 3 g zs p = (0, labR zs p) := by
  unfold decR labR
  rw [if_neg (by decide), if_pos rfl]
  by_cases h1 : (ruAt zs p).2.2 ≠ 0
  · rw [if_pos h1, if_pos h1]
  rw [if_neg h1, if_neg h1]
  by_cases h2 : (ruAt zs p).1 < 1 ∨ 16 < (ruAt zs p).1
  · rw [if_pos h2, if_pos h2]
  · rw [if_neg h2, if_neg h2]

/-- What comes of rest. -/
def RestPost (w : World) (R : Nat) (s : Value) (c : Int) (D : Int × List Int × Int × Int) : Ending → World → Prop := fun e w' =>
  ∃ v, e = .returned (.tuple #[.agg #[.int .u8 c, .int .i64 D.1, v], .int .i64 D.2.2.2]) ∧ w'.ownsRow w.heap.size 3 1 v D.2.1.length (D.2.1.map (Value.int .i64)) ∧
    (D.2.2.2 = 0 → Rd w' R s D.2.2.1) ∧ Kept (fun k => k = R) w w'

theorem kept_new {R b o : Nat} {w wr : World} {v : Value} (h : Kept (fun j => j = R) w wr) (hB : w.heap.size ≤ b) : Kept (fun j => j = R) w (wr.setCell ⟨b, o, none⟩ v) := kept_set h hB

/-- A row is a slice. -/
theorem own_slice {w : World} {base : Nat} {e : TypeId} {v : Value} {n : Nat} {xs : List Value} (h : w.ownsRow base e 1 v n xs) : ∃ a m c, v = .slice a m c := by
  rcases h.2 with ⟨rfl, _⟩ | ⟨g, cp, cur, rfl, _⟩
  · exact ⟨_, _, _, rfl⟩
  · exact ⟨_, _, _, rfl⟩

/-- The two instructions in memory that rest works with. -/
structure YZ (W : World) (Y Z : Nat) (c : Int) : Prop where
  y0 : W.cell? ⟨Y, 0, none⟩ = some (.int .u8 0)
  y1 : W.cell? ⟨Y, 1, none⟩ = some (.int .i64 0)
  y2 : W.cell? ⟨Y, 2, none⟩ = some (.slice none 0 0)
  f0 : W.frozen? ⟨Y, 0, none⟩ = false
  f1 : W.frozen? ⟨Y, 1, none⟩ = false
  f2 : W.frozen? ⟨Y, 2, none⟩ = false
  z0 : W.cell? ⟨Z, 0, none⟩ = some (.int .u8 c)
  z1 : W.cell? ⟨Z, 1, none⟩ = some (.int .i64 0)
  z2 : W.cell? ⟨Z, 2, none⟩ = some (.slice none 0 0)
  g1 : W.frozen? ⟨Z, 1, none⟩ = false
  g2 : W.frozen? ⟨Z, 2, none⟩ = false
theorem YZ.at {W W' : World} {Y Z : Nat} {c : Int} (h : YZ W Y Z c) (hY : W'.heap[Y]? = W.heap[Y]?) (hZ : W'.heap[Z]? = W.heap[Z]?) : YZ W' Y Z c :=
  ⟨(cell_of_block hY _).trans h.y0, (cell_of_block hY _).trans h.y1, (cell_of_block hY _).trans h.y2, (frozen_of_block hY _).trans h.f0, (frozen_of_block hY _).trans h.f1, (frozen_of_block hY _).trans h.f2,
    (cell_of_block hZ _).trans h.z0, (cell_of_block hZ _).trans h.z1, (cell_of_block hZ _).trans h.z2, (frozen_of_block hZ _).trans h.g1, (frozen_of_block hZ _).trans h.g2⟩
theorem YZ.ltY {W : World} {Y Z : Nat} {c : Int} (h : YZ W Y Z c) : Y < W.heap.size := block_lt_of_cell h.y0
theorem YZ.ltZ {W : World} {Y Z : Nat} {c : Int} (h : YZ W Y Z c) : Z < W.heap.size := block_lt_of_cell h.z0
theorem YZ.later {W W' : World} {Y Z : Nat} {c : Int} (h : YZ W Y Z c) (hb : Below W.heap.size W W') : YZ W' Y Z c := h.at (hb.block Y h.ltY) (hb.block Z h.ltZ)
theorem YZ.kept {R : Nat} {W W' : World} {Y Z : Nat} {c : Int} (h : YZ W Y Z c) (hk : Kept (fun k => k = R) W W') (hY : Y ≠ R) (hZ : Z ≠ R) : YZ W' Y Z c := h.at (hk.block Y h.ltY hY) (hk.block Z h.ltZ hZ)

set_option maxRecDepth 100000 in
set_option maxHeartbeats 4000000 in
theorem rest54_l (R B : Nat) (a : Option Addr) (n cap : Nat) (zs : List Int) (p c : Int) (wd pp ps : ByteArray) (pl : Bool) (w : World) (hr : Rd w R (.slice a n cap) p) (hs : SegU B w a n cap zs) (hB : B ≤ R) :
    Calls Tryd.prog 54 #[.pointer (some ⟨R, 0, none⟩), .agg #[.int .u8 c, .string wd, .int .i8 3, .string pp, .string ps, .bool pl]] w (RestPost w R (.slice a n cap) c (decR 3 (isL ps) zs p)) := by
  rw [decR_l]
  have hmf : ∀ (fn : Fn) (first cp : Array Value) (w : World), (Instr.makeFunc fn first cp).run Tryd.prog w = .ok (.func fn first cp) w := fun _ _ _ _ => rfl
  have hRlt := hr.lt
  obtain ⟨W, hW⟩ : ∃ W, ((w.alloc (.cells #[.int .u8 c, .string wd, .int .i8 3, .string pp, .string ps, .bool pl] 68)).alloc (.cells #[.int .u8 0, .int .i64 0, .slice none 0 0] 24)).alloc (.cells #[.int .u8 c, .int .i64 0, .slice none 0 0] 24) = W := ⟨_, rfl⟩
  have hb : Below w.heap.size w W := by rw [← hW]; exact (((Below.refl _ _).alloc (Nat.le_refl _) _).alloc (by simp) _).alloc (by simp; omega) _
  have HR := hid (hr.later hb)
  have HS := hid (hs.kept (kept_below (R := R) hb) hB)
  have HK := hid (kept_below (R := R) hb)
  have HW := hid hW
  have HY := hid (show YZ W (w.heap.size + 1) (w.heap.size + 1 + 1) c by
    rw [← hW]; refine ⟨?_, ?_, ?_, ?_, ?_, ?_, ?_, ?_, ?_, ?_, ?_⟩ <;> simp [go_sem])
  clear hr hs hb hW
  obtain ⟨D, hD⟩ : ∃ D, labR zs p = D := ⟨_, rfl⟩
  have HL := hid (fun W' (h1 : Rd W' R (.slice a n cap) p) (h2 : SegU B W' a n cap zs) => labels69 R B a n cap zs p W' h1 h2 hB)
  rw [hD] at HL ⊢
  clear hD
  unfold RestPost
  go_enter Tryd.func54, Tryd.ntmps54
  go_wp2_with fail
  rw [HW.out]
  obtain ⟨Y, hY⟩ : ∃ Y, w.heap.size + 1 = Y := ⟨_, rfl⟩
  rw [hY] at HY ⊢
  obtain ⟨Z, hZ⟩ : ∃ Z, Y + 1 = Z := ⟨_, rfl⟩
  rw [hZ] at HY ⊢
  have hYw : w.heap.size < Y := by omega
  have hYZ : Y < Z := by omega
  clear hY hZ HW
  refine (counts32 c 3 wd pp ps pl _).mono ?_
  rw [if_pos rfl]
  rintro e w2 ⟨rfl, hb2⟩
  have Y2 := hid (HY.out.later hb2)
  have K2 := hid (HK.out.trans (kept_below hb2))
  have HC := hid (HL.out w2 (HR.out.later hb2) (HS.out.kept (kept_below (R := R) hb2) hB))
  have hlt2 : Z < w2.heap.size := Y2.out.ltZ
  clear hb2 HR HS HK HL HY
  unfold spanV at *
  go_wp2_with fail
  refine HC.out.mono ?_
  rintro e w3 ⟨v, rfl, hown, hrd, hk3⟩
  obtain ⟨va, vn, vc, rfl⟩ := own_slice hown
  have O3 := hid hown
  have R3 := hid hrd
  clear hown hrd
  have K3 := hid (K2.out.trans hk3)
  obtain ⟨y0, y1, y2, f0, f1, f2, z0, z1, z2, g1, g2⟩ := Y2.out.kept hk3 (by omega) (by omega)
  clear hk3 Y2 K2 HC
  have hZY : Z ≠ Y := by omega
  have hYZ' : Y ≠ Z := by omega
  go_wp2_with fail
  refine bodyPost_ret (v := .tuple #[.agg #[.int .u8 c, .int .i64 0, .slice va vn vc], .int .i64 D.2.2]) ?_ rfl ⟨.slice va vn vc, rfl, ?_, ?_, ?_⟩
  · rw [results_cell_tmp rfl]
    go_simp
  · exact own_mono (own_set (own_set (own_set (own_set O3.out (by omega)) (by omega)) (by omega)) (by omega)) (by omega)
  · exact fun h => (((((R3.out h).set (by omega)).set (by omega)).set (by omega)).set (by omega))
  · exact kept_new (kept_new (kept_new (kept_new K3.out (by omega)) (by omega)) (by omega)) (by omega)

set_option maxRecDepth 100000 in
set_option maxHeartbeats 4000000 in
theorem rest54_s (R B : Nat) (a : Option Addr) (n cap : Nat) (zs : List Int) (p c : Int) (wd pp ps : ByteArray) (pl : Bool) (w : World) (hr : Rd w R (.slice a n cap) p) (hs : SegU B w a n cap zs) (hB : B ≤ R) :
    Calls Tryd.prog 54 #[.pointer (some ⟨R, 0, none⟩), .agg #[.int .u8 c, .string wd, .int .i8 8, .string pp, .string ps, .bool pl]] w (RestPost w R (.slice a n cap) c (decR 8 (isL ps) zs p)) := by
  rw [decR_s]
  have hmf : ∀ (fn : Fn) (first cp : Array Value) (w : World), (Instr.makeFunc fn first cp).run Tryd.prog w = .ok (.func fn first cp) w := fun _ _ _ _ => rfl
  have hRlt := hr.lt
  obtain ⟨W, hW⟩ : ∃ W, ((w.alloc (.cells #[.int .u8 c, .string wd, .int .i8 8, .string pp, .string ps, .bool pl] 68)).alloc (.cells #[.int .u8 0, .int .i64 0, .slice none 0 0] 24)).alloc (.cells #[.int .u8 c, .int .i64 0, .slice none 0 0] 24) = W := ⟨_, rfl⟩
  have hb : Below w.heap.size w W := by rw [← hW]; exact (((Below.refl _ _).alloc (Nat.le_refl _) _).alloc (by simp) _).alloc (by simp; omega) _
  have HR := hid (hr.later hb)
  have HS := hid (hs.kept (kept_below (R := R) hb) hB)
  have HK := hid (kept_below (R := R) hb)
  have HW := hid hW
  have HY := hid (show YZ W (w.heap.size + 1) (w.heap.size + 1 + 1) c by
    rw [← hW]; refine ⟨?_, ?_, ?_, ?_, ?_, ?_, ?_, ?_, ?_, ?_, ?_⟩ <;> simp [go_sem])
  clear hr hs hb hW
  obtain ⟨D, hD⟩ : ∃ D, rdS zs p (lo 8 (isL ps)) (hi 8 (isL ps)) = D := ⟨_, rfl⟩
  have HL := hid (fun W' (h1 : Rd W' R (.slice a n cap) p) (h2 : SegU B W' a n cap zs) => signed70 R a n cap zs p (lo 8 (isL ps)) (hi 8 (isL ps)) W' h1 h2.1)
  rw [hD] at HL ⊢
  clear hD
  obtain ⟨T, hT⟩ : ∃ T, ((D.1, [], (if D.2.2 = 0 then D.2.1 else 0), D.2.2) : Int × List Int × Int × Int) = T := ⟨_, rfl⟩
  rw [hT]
  have HT := hid hT
  clear hT
  unfold RestPost
  go_enter Tryd.func54, Tryd.ntmps54
  go_wp2_with fail
  rw [HW.out]
  obtain ⟨Y, hY⟩ : ∃ Y, w.heap.size + 1 = Y := ⟨_, rfl⟩
  rw [hY] at HY ⊢
  obtain ⟨Z, hZ⟩ : ∃ Z, Y + 1 = Z := ⟨_, rfl⟩
  rw [hZ] at HY ⊢
  have hYw : w.heap.size < Y := by omega
  have hYZ : Y < Z := by omega
  clear hY hZ HW
  refine (numbers30 c 8 wd pp ps pl _).mono ?_
  rintro e w2 ⟨rfl, hb2⟩
  have Y2 := hid (HY.out.later hb2)
  have K2 := hid (HK.out.trans (kept_below hb2))
  have HC := hid (HL.out w2 (HR.out.later hb2) (HS.out.kept (kept_below (R := R) hb2) hB))
  have hlt2 : Z < w2.heap.size := Y2.out.ltZ
  clear hb2 HR HS HK HL HY
  unfold spanV at *
  go_wp2_with fail
  refine HC.out.mono ?_
  rintro e w3 ⟨rfl, hrd, hk3⟩
  have R3 := hid hrd
  clear hrd
  have K3 := hid (K2.out.trans hk3)
  obtain ⟨y0, y1, y2, f0, f1, f2, z0, z1, z2, g1, g2⟩ := Y2.out.kept hk3 (by omega) (by omega)
  clear hk3 Y2 K2 HC
  have hZY : Z ≠ Y := by omega
  have hYZ' : Y ≠ Z := by omega
  go_wp2_with fail
  refine bodyPost_ret (v := .tuple #[.agg #[.int .u8 c, .int .i64 D.1, .slice none 0 0], .int .i64 D.2.2]) ?_ rfl ⟨.slice none 0 0, ?_, ?_, ?_, ?_⟩
  · rw [results_cell_tmp rfl]
    go_simp
  · rw [← HT.out]
  · rw [← HT.out]; exact World.ownsRow_nil _ _ _ _
  · rw [← HT.out]
    intro h
    have h' : D.2.2 = 0 := h
    simp only [h', if_true]
    exact ((((R3.out.set (by omega)).set (by omega)).set (by omega)).set (by omega))
  · exact kept_new (kept_new (kept_new (kept_new K3.out (by omega)) (by omega)) (by omega)) (by omega)

end Go.Proofs.YtgljlclnmnfocaaDoor

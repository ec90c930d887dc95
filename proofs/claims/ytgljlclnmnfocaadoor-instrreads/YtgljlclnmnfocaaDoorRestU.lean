/-
  The walk over the reader's method rest, of an opcode with one number without a sign, or with none; all of it.
-/
import Derived.Test.YtgljlclnmnfocaaDoorRest
namespace Go.Proofs.YtgljlclnmnfocaaDoor
open Go.RowKit
set_option linter.unusedVariables false

set_option maxRecDepth 100000 in
set_option maxHeartbeats 4000000 in
theorem rest54_u1 (R B : Nat) (a : Option Addr) (n cap : Nat) (zs : List Int) (p c : Int) (wd pp ps : ByteArray) (pl : Bool) (w : World) (hr : Rd w R (.slice a n cap) p) (hs : SegU B w a n cap zs) (hB : B ≤ R) :
    Calls Tryd.prog 54 #[.pointer (some ⟨R, 0, none⟩), .agg #[.int .u8 c, .string wd, .int .i8 1, .string pp, .string ps, .bool pl]] w (RestPost w R (.slice a n cap) c (decR 1 (isL ps) zs p)) := by
  rw [decR_u (by decide) (by decide) (by decide) (ruAt_range zs p hs.1.2.2.2.1).1]
  have hlo : lo 1 (isL ps) = 0 := rfl
  have hhi : hi 1 (isL ps) ≤ 9223372036854775807 := (hi_range 1 (isL ps)).2.1
  have hmf : ∀ (fn : Fn) (first cp : Array Value) (w : World), (Instr.makeFunc fn first cp).run Tryd.prog w = .ok (.func fn first cp) w := fun _ _ _ _ => rfl
  have hRlt := hr.lt
  obtain ⟨W, hW⟩ : ∃ W, ((w.alloc (.cells #[.int .u8 c, .string wd, .int .i8 1, .string pp, .string ps, .bool pl] 68)).alloc (.cells #[.int .u8 0, .int .i64 0, .slice none 0 0] 24)).alloc (.cells #[.int .u8 c, .int .i64 0, .slice none 0 0] 24) = W := ⟨_, rfl⟩
  have hb : Below w.heap.size w W := by rw [← hW]; exact (((Below.refl _ _).alloc (Nat.le_refl _) _).alloc (by simp) _).alloc (by simp; omega) _
  have HR := hid (hr.later hb)
  have HS := hid (hs.kept (kept_below (R := R) hb) hB)
  have HK := hid (kept_below (R := R) hb)
  have HW := hid hW
  have HY := hid (show YZ W (w.heap.size + 1) (w.heap.size + 1 + 1) c by
    rw [← hW]; refine ⟨?_, ?_, ?_, ?_, ?_, ?_, ?_, ?_, ?_, ?_, ?_⟩ <;> simp [go_sem])
  clear hr hs hb hW
  obtain ⟨D, hD⟩ : ∃ D, rdU zs p (lo 1 (isL ps)) (hi 1 (isL ps)) = D := ⟨_, rfl⟩
  have HL := hid (fun W' (h1 : Rd W' R (.slice a n cap) p) (h2 : SegU B W' a n cap zs) => unsigned68 R a n cap zs p (lo 1 (isL ps)) (hi 1 (isL ps)) W' h1 h2.1 (by rw [hlo]; decide) hhi)
  rw [hD] at HL ⊢
  clear hD hlo hhi
  obtain ⟨T, hT⟩ : ∃ T, ((D.1, [], (if D.2.2 = 0 then D.2.1 else 0), D.2.2) : Int × List Int × Int × Int) = T := ⟨_, rfl⟩
  rw [hT]
  have HT := hid hT
  clear hT
  unfold RestPost
  go_enter Tryd.func54, Tryd.ntmps54
  go_wp2_with fail
  rw [HW.out]
  obtain ⟨Y, hY⟩ : ∃ Y, w.heap.size + 1 = Y := ⟨_, rfl⟩
  rw [hY] at HY ⊢
  obtain ⟨Z, hZ⟩ : ∃ Z, Y + 1 = Z := ⟨_, rfl⟩
  rw [hZ] at HY ⊢
  have hYw : w.heap.size < Y := by omega
  have hYZ : Y < Z := by omega
  clear hY hZ HW
  refine (numbers30 c 1 wd pp ps pl _).mono ?_
  rintro e w2 ⟨rfl, hb2⟩
  have Y2 := hid (HY.out.later hb2)
  have K2 := hid (HK.out.trans (kept_below hb2))
  have HC := hid (HL.out w2 (HR.out.later hb2) (HS.out.kept (kept_below (R := R) hb2) hB))
  have hlt2 : Z < w2.heap.size := Y2.out.ltZ
  clear hb2 HR HS HK HL HY
  unfold spanV at *
  go_wp2_with fail
  refine HC.out.mono ?_
  rintro e w3 ⟨rfl, hrd, hk3⟩
  have R3 := hid hrd
  clear hrd
  have K3 := hid (K2.out.trans hk3)
  obtain ⟨y0, y1, y2, f0, f1, f2, z0, z1, z2, g1, g2⟩ := Y2.out.kept hk3 (by omega) (by omega)
  clear hk3 Y2 K2 HC
  have hZY : Z ≠ Y := by omega
  have hYZ' : Y ≠ Z := by omega
  go_wp2_with fail
  refine bodyPost_ret (v := .tuple #[.agg #[.int .u8 c, .int .i64 D.1, .slice none 0 0], .int .i64 D.2.2]) ?_ rfl ⟨.slice none 0 0, ?_, ?_, ?_, ?_⟩
  · rw [results_cell_tmp rfl]
    go_simp
  · rw [← HT.out]
  · rw [← HT.out]; exact World.ownsRow_nil _ _ _ _
  · rw [← HT.out]
    intro h
    have h' : D.2.2 = 0 := h
    simp only [h', if_true]
    exact ((((R3.out.set (by omega)).set (by omega)).set (by omega)).set (by omega))
  · exact kept_new (kept_new (kept_new (kept_new K3.out (by omega)) (by omega)) (by omega)) (by omega)

set_option maxRecDepth 100000 in
set_option maxHeartbeats 4000000 in
theorem rest54_u2 (R B : Nat) (a : Option Addr) (n cap : Nat) (zs : List Int) (p c : Int) (wd pp ps : ByteArray) (pl : Bool) (w : World) (hr : Rd w R (.slice a n cap) p) (hs : SegU B w a n cap zs) (hB : B ≤ R) :
    Calls Tryd.prog 54 #[.pointer (some ⟨R, 0, none⟩), .agg #[.int .u8 c, .string wd, .int .i8 2, .string pp, .string ps, .bool pl]] w (RestPost w R (.slice a n cap) c (decR 2 (isL ps) zs p)) := by
  rw [decR_u (by decide) (by decide) (by decide) (ruAt_range zs p hs.1.2.2.2.1).1]
  have hlo : lo 2 (isL ps) = 0 := rfl
  have hhi : hi 2 (isL ps) ≤ 9223372036854775807 := (hi_range 2 (isL ps)).2.1
  have hmf : ∀ (fn : Fn) (first cp : Array Value) (w : World), (Instr.makeFunc fn first cp).run Tryd.prog w = .ok (.func fn first cp) w := fun _ _ _ _ => rfl
  have hRlt := hr.lt
  obtain ⟨W, hW⟩ : ∃ W, ((w.alloc (.cells #[.int .u8 c, .string wd, .int .i8 2, .string pp, .string ps, .bool pl] 68)).alloc (.cells #[.int .u8 0, .int .i64 0, .slice none 0 0] 24)).alloc (.cells #[.int .u8 c, .int .i64 0, .slice none 0 0] 24) = W := ⟨_, rfl⟩
  have hb : Below w.heap.size w W := by rw [← hW]; exact (((Below.refl _ _).alloc (Nat.le_refl _) _).alloc (by simp) _).alloc (by simp; omega) _
  have HR := hid (hr.later hb)
  have HS := hid (hs.kept (kept_below (R := R) hb) hB)
  have HK := hid (kept_below (R := R) hb)
  have HW := hid hW
  have HY := hid (show YZ W (w.heap.size + 1) (w.heap.size + 1 + 1) c by
    rw [← hW]; refine ⟨?_, ?_, ?_, ?_, ?_, ?_, ?_, ?_, ?_, ?_, ?_⟩ <;> simp [go_sem])
  clear hr hs hb hW
  obtain ⟨D, hD⟩ : ∃ D, rdU zs p (lo 2 (isL ps)) (hi 2 (isL ps)) = D := ⟨_, rfl⟩
  have HL := hid (fun W' (h1 : Rd W' R (.slice a n cap) p) (h2 : SegU B W' a n cap zs) => unsigned68 R a n cap zs p (lo 2 (isL ps)) (hi 2 (isL ps)) W' h1 h2.1 (by rw [hlo]; decide) hhi)
  rw [hD] at HL ⊢
  clear hD hlo hhi
  obtain ⟨T, hT⟩ : ∃ T, ((D.1, [], (if D.2.2 = 0 then D.2.1 else 0), D.2.2) : Int × List Int × Int × Int) = T := ⟨_, rfl⟩
  rw [hT]
  have HT := hid hT
  clear hT
  unfold RestPost
  go_enter Tryd.func54, Tryd.ntmps54
  go_wp2_with fail
  rw [HW.out]
  obtain ⟨Y, hY⟩ : ∃ Y, w.heap.size + 1 = Y := ⟨_, rfl⟩
  rw [hY] at HY ⊢
  obtain ⟨Z, hZ⟩ : ∃ Z, Y + 1 = Z := ⟨_, rfl⟩
  rw [hZ] at HY ⊢
  have hYw : w.heap.size < Y := by omega
  have hYZ : Y < Z := by omega
  clear hY hZ HW
  refine (numbers30 c 2 wd pp ps pl _).mono ?_
  rintro e w2 ⟨rfl, hb2⟩
  have Y2 := hid (HY.out.later hb2)
  have K2 := hid (HK.out.trans (kept_below hb2))
  have HC := hid (HL.out w2 (HR.out.later hb2) (HS.out.kept (kept_below (R := R) hb2) hB))
  have hlt2 : Z < w2.heap.size := Y2.out.ltZ
  clear hb2 HR HS HK HL HY
  unfold spanV at *
  go_wp2_with fail
  refine HC.out.mono ?_
  rintro e w3 ⟨rfl, hrd, hk3⟩
  have R3 := hid hrd
  clear hrd
  have K3 := hid (K2.out.trans hk3)
  obtain ⟨y0, y1, y2, f0, f1, f2, z0, z1, z2, g1, g2⟩ := Y2.out.kept hk3 (by omega) (by omega)
  clear hk3 Y2 K2 HC
  have hZY : Z ≠ Y := by omega
  have hYZ' : Y ≠ Z := by omega
  go_wp2_with fail
  refine bodyPost_ret (v := .tuple #[.agg #[.int .u8 c, .int .i64 D.1, .slice none 0 0], .int .i64 D.2.2]) ?_ rfl ⟨.slice none 0 0, ?_, ?_, ?_, ?_⟩
  · rw [results_cell_tmp rfl]
    go_simp
  · rw [← HT.out]
  · rw [← HT.out]; exact World.ownsRow_nil _ _ _ _
  · rw [← HT.out]
    intro h
    have h' : D.2.2 = 0 := h
    simp only [h', if_true]
    exact ((((R3.out.set (by omega)).set (by omega)).set (by omega)).set (by omega))
  · exact kept_new (kept_new (kept_new (kept_new K3.out (by omega)) (by omega)) (by omega)) (by omega)

set_option maxRecDepth 100000 in
set_option maxHeartbeats 4000000 in
theorem rest54_u4 (R B : Nat) (a : Option Addr) (n cap : Nat) (zs : List Int) (p c : Int) (wd pp ps : ByteArray) (pl : Bool) (w : World) (hr : Rd w R (.slice a n cap) p) (hs : SegU B w a n cap zs) (hB : B ≤ R) :
    Calls Tryd.prog 54 #[.pointer (some ⟨R, 0, none⟩), .agg #[.int .u8 c, .string wd, .int .i8 4, .string pp, .string ps, .bool pl]] w (RestPost w R (.slice a n cap) c (decR 4 (isL ps) zs p)) := by
  rw [decR_u (by decide) (by decide) (by decide) (ruAt_range zs p hs.1.2.2.2.1).1]
  have hlo : lo 4 (isL ps) = 0 := rfl
  have hhi : hi 4 (isL ps) ≤ 9223372036854775807 := (hi_range 4 (isL ps)).2.1
  have hmf : ∀ (fn : Fn) (first cp : Array Value) (w : World), (Instr.makeFunc fn first cp).run Tryd.prog w = .ok (.func fn first cp) w := fun _ _ _ _ => rfl
  have hRlt := hr.lt
  obtain ⟨W, hW⟩ : ∃ W, ((w.alloc (.cells #[.int .u8 c, .string wd, .int .i8 4, .string pp, .string ps, .bool pl] 68)).alloc (.cells #[.int .u8 0, .int .i64 0, .slice none 0 0] 24)).alloc (.cells #[.int .u8 c, .int .i64 0, .slice none 0 0] 24) = W := ⟨_, rfl⟩
  have hb : Below w.heap.size w W := by rw [← hW]; exact (((Below.refl _ _).alloc (Nat.le_refl _) _).alloc (by simp) _).alloc (by simp; omega) _
  have HR := hid (hr.later hb)
  have HS := hid (hs.kept (kept_below (R := R) hb) hB)
  have HK := hid (kept_below (R := R) hb)
  have HW := hid hW
  have HY := hid (show YZ W (w.heap.size + 1) (w.heap.size + 1 + 1) c by
    rw [← hW]; refine ⟨?_, ?_, ?_, ?_, ?_, ?_, ?_, ?_, ?_, ?_, ?_⟩ <;> simp [go_sem])
  clear hr hs hb hW
  obtain ⟨D, hD⟩ : ∃ D, rdU zs p (lo 4 (isL ps)) (hi 4 (isL ps)) = D := ⟨_, rfl⟩
  have HL := hid (fun W' (h1 : Rd W' R (.slice a n cap) p) (h2 : SegU B W' a n cap zs) => unsigned68 R a n cap zs p (lo 4 (isL ps)) (hi 4 (isL ps)) W' h1 h2.1 (by rw [hlo]; decide) hhi)
  rw [hD] at HL ⊢
  clear hD hlo hhi
  obtain ⟨T, hT⟩ : ∃ T, ((D.1, [], (if D.2.2 = 0 then D.2.1 else 0), D.2.2) : Int × List Int × Int × Int) = T := ⟨_, rfl⟩
  rw [hT]
  have HT := hid hT
  clear hT
  unfold RestPost
  go_enter Tryd.func54, Tryd.ntmps54
  go_wp2_with fail
  rw [HW.out]
  obtain ⟨Y, hY⟩ : ∃ Y, w.heap.size + 1 = Y := ⟨_, rfl⟩
  rw [hY] at HY ⊢
  obtain ⟨Z, hZ⟩ : ∃ Z, Y + 1 = Z := ⟨_, rfl⟩
  rw [hZ] at HY ⊢
  have hYw : w.heap.size < Y := by omega
  have hYZ : Y < Z := by omega
  clear hY hZ HW
  refine (numbers30 c 4 wd pp ps pl _).mono ?_
  rintro e w2 ⟨rfl, hb2⟩
  have Y2 := hid (HY.out.later hb2)
  have K2 := hid (HK.out.trans (kept_below hb2))
  have HC := hid (HL.out w2 (HR.out.later hb2) (HS.out.kept (kept_below (R := R) hb2) hB))
  have hlt2 : Z < w2.heap.size := Y2.out.ltZ
  clear hb2 HR HS HK HL HY
  unfold spanV at *
  go_wp2_with fail
  refine HC.out.mono ?_
  rintro e w3 ⟨rfl, hrd, hk3⟩
  have R3 := hid hrd
  clear hrd
  have K3 := hid (K2.out.trans hk3)
  obtain ⟨y0, y1, y2, f0, f1, f2, z0, z1, z2, g1, g2⟩ := Y2.out.kept hk3 (by omega) (by omega)
  clear hk3 Y2 K2 HC
  have hZY : Z ≠ Y := by omega
  have hYZ' : Y ≠ Z := by omega
  go_wp2_with fail
  refine bodyPost_ret (v := .tuple #[.agg #[.int .u8 c, .int .i64 D.1, .slice none 0 0], .int .i64 D.2.2]) ?_ rfl ⟨.slice none 0 0, ?_, ?_, ?_, ?_⟩
  · rw [results_cell_tmp rfl]
    go_simp
  · rw [← HT.out]
  · rw [← HT.out]; exact World.ownsRow_nil _ _ _ _
  · rw [← HT.out]
    intro h
    have h' : D.2.2 = 0 := h
    simp only [h', if_true]
    exact ((((R3.out.set (by omega)).set (by omega)).set (by omega)).set (by omega))
  · exact kept_new (kept_new (kept_new (kept_new K3.out (by omega)) (by omega)) (by omega)) (by omega)

set_option maxRecDepth 100000 in
set_option maxHeartbeats 4000000 in
theorem rest54_u5 (R B : Nat) (a : Option Addr) (n cap : Nat) (zs : List Int) (p c : Int) (wd pp ps : ByteArray) (pl : Bool) (w : World) (hr : Rd w R (.slice a n cap) p) (hs : SegU B w a n cap zs) (hB : B ≤ R) :
    Calls Tryd.prog 54 #[.pointer (some ⟨R, 0, none⟩), .agg #[.int .u8 c, .string wd, .int .i8 5, .string pp, .string ps, .bool pl]] w (RestPost w R (.slice a n cap) c (decR 5 (isL ps) zs p)) := by
  rw [decR_u (by decide) (by decide) (by decide) (ruAt_range zs p hs.1.2.2.2.1).1]
  have hlo : lo 5 (isL ps) = 0 := rfl
  have hhi : hi 5 (isL ps) ≤ 9223372036854775807 := (hi_range 5 (isL ps)).2.1
  have hmf : ∀ (fn : Fn) (first cp : Array Value) (w : World), (Instr.makeFunc fn first cp).run Tryd.prog w = .ok (.func fn first cp) w := fun _ _ _ _ => rfl
  have hRlt := hr.lt
  obtain ⟨W, hW⟩ : ∃ W, ((w.alloc (.cells #[.int .u8 c, .string wd, .int .i8 5, .string pp, .string ps, .bool pl] 68)).alloc (.cells #[.int .u8 0, .int .i64 0, .slice none 0 0] 24)).alloc (.cells #[.int .u8 c, .int .i64 0, .slice none 0 0] 24) = W := ⟨_, rfl⟩
  have hb : Below w.heap.size w W := by rw [← hW]; exact (((Below.refl _ _).alloc (Nat.le_refl _) _).alloc (by simp) _).alloc (by simp; omega) _
  have HR := hid (hr.later hb)
  have HS := hid (hs.kept (kept_below (R := R) hb) hB)
  have HK := hid (kept_below (R := R) hb)
  have HW := hid hW
  have HY := hid (show YZ W (w.heap.size + 1) (w.heap.size + 1 + 1) c by
    rw [← hW]; refine ⟨?_, ?_, ?_, ?_, ?_, ?_, ?_, ?_, ?_, ?_, ?_⟩ <;> simp [go_sem])
  clear hr hs hb hW
  obtain ⟨D, hD⟩ : ∃ D, rdU zs p (lo 5 (isL ps)) (hi 5 (isL ps)) = D := ⟨_, rfl⟩
  have HL := hid (fun W' (h1 : Rd W' R (.slice a n cap) p) (h2 : SegU B W' a n cap zs) => unsigned68 R a n cap zs p (lo 5 (isL ps)) (hi 5 (isL ps)) W' h1 h2.1 (by rw [hlo]; decide) hhi)
  rw [hD] at HL ⊢
  clear hD hlo hhi
  obtain ⟨T, hT⟩ : ∃ T, ((D.1, [], (if D.2.2 = 0 then D.2.1 else 0), D.2.2) : Int × List Int × Int × Int) = T := ⟨_, rfl⟩
  rw [hT]
  have HT := hid hT
  clear hT
  unfold RestPost
  go_enter Tryd.func54, Tryd.ntmps54
  go_wp2_with fail
  rw [HW.out]
  obtain ⟨Y, hY⟩ : ∃ Y, w.heap.size + 1 = Y := ⟨_, rfl⟩
  rw [hY] at HY ⊢
  obtain ⟨Z, hZ⟩ : ∃ Z, Y + 1 = Z := ⟨_, rfl⟩
  rw [hZ] at HY ⊢
  have hYw : w.heap.size < Y := by omega
  have hYZ : Y < Z := by omega
  clear hY hZ HW
  refine (numbers30 c 5 wd pp ps pl _).mono ?_
  rintro e w2 ⟨rfl, hb2⟩
  have Y2 := hid (HY.out.later hb2)
  have K2 := hid (HK.out.trans (kept_below hb2))
  have HC := hid (HL.out w2 (HR.out.later hb2) (HS.out.kept (kept_below (R := R) hb2) hB))
  have hlt2 : Z < w2.heap.size := Y2.out.ltZ
  clear hb2 HR HS HK HL HY
  unfold spanV at *
  go_wp2_with fail
  refine HC.out.mono ?_
  rintro e w3 ⟨rfl, hrd, hk3⟩
  have R3 := hid hrd
  clear hrd
  have K3 := hid (K2.out.trans hk3)
  obtain ⟨y0, y1, y2, f0, f1, f2, z0, z1, z2, g1, g2⟩ := Y2.out.kept hk3 (by omega) (by omega)
  clear hk3 Y2 K2 HC
  have hZY : Z ≠ Y := by omega
  have hYZ' : Y ≠ Z := by omega
  go_wp2_with fail
  refine bodyPost_ret (v := .tuple #[.agg #[.int .u8 c, .int .i64 D.1, .slice none 0 0], .int .i64 D.2.2]) ?_ rfl ⟨.slice none 0 0, ?_, ?_, ?_, ?_⟩
  · rw [results_cell_tmp rfl]
    go_simp
  · rw [← HT.out]
  · rw [← HT.out]; exact World.ownsRow_nil _ _ _ _
  · rw [← HT.out]
    intro h
    have h' : D.2.2 = 0 := h
    simp only [h', if_true]
    exact ((((R3.out.set (by omega)).set (by omega)).set (by omega)).set (by omega))
  · exact kept_new (kept_new (kept_new (kept_new K3.out (by omega)) (by omega)) (by omega)) (by omega)

set_option maxRecDepth 100000 in
set_option maxHeartbeats 4000000 in
theorem rest54_u6 (R B : Nat) (a : Option Addr) (n cap : Nat) (zs : List Int) (p c : Int) (wd pp ps : ByteArray) (pl : Bool) (w : World) (hr : Rd w R (.slice a n cap) p) (hs : SegU B w a n cap zs) (hB : B ≤ R) :
    Calls Tryd.prog 54 #[.pointer (some ⟨R, 0, none⟩), .agg #[.int .u8 c, .string wd, .int .i8 6, .string pp, .string ps, .bool pl]] w (RestPost w R (.slice a n cap) c (decR 6 (isL ps) zs p)) := by
  rw [decR_u (by decide) (by decide) (by decide) (ruAt_range zs p hs.1.2.2.2.1).1]
  have hlo : lo 6 (isL ps) = 0 := rfl
  have hhi : hi 6 (isL ps) ≤ 9223372036854775807 := (hi_range 6 (isL ps)).2.1
  have hmf : ∀ (fn : Fn) (first cp : Array Value) (w : World), (Instr.makeFunc fn first cp).run Tryd.prog w = .ok (.func fn first cp) w := fun _ _ _ _ => rfl
  have hRlt := hr.lt
  obtain ⟨W, hW⟩ : ∃ W, ((w.alloc (.cells #[.int .u8 c, .string wd, .int .i8 6, .string pp, .string ps, .bool pl] 68)).alloc (.cells #[.int .u8 0, .int .i64 0, .slice none 0 0] 24)).alloc (.cells #[.int .u8 c, .int .i64 0, .slice none 0 0] 24) = W := ⟨_, rfl⟩
  have hb : Below w.heap.size w W := by rw [← hW]; exact (((Below.refl _ _).alloc (Nat.le_refl _) _).alloc (by simp) _).alloc (by simp; omega) _
  have HR := hid (hr.later hb)
  have HS := hid (hs.kept (kept_below (R := R) hb) hB)
  have HK := hid (kept_below (R := R) hb)
  have HW := hid hW
  have HY := hid (show YZ W (w.heap.size + 1) (w.heap.size + 1 + 1) c by
    rw [← hW]; refine ⟨?_, ?_, ?_, ?_, ?_, ?_, ?_, ?_, ?_, ?_, ?_⟩ <;> simp [go_sem])
  clear hr hs hb hW
  obtain ⟨D, hD⟩ : ∃ D, rdU zs p (lo 6 (isL ps)) (hi 6 (isL ps)) = D := ⟨_, rfl⟩
  have HL := hid (fun W' (h1 : Rd W' R (.slice a n cap) p) (h2 : SegU B W' a n cap zs) => unsigned68 R a n cap zs p (lo 6 (isL ps)) (hi 6 (isL ps)) W' h1 h2.1 (by rw [hlo]; decide) hhi)
  rw [hD] at HL ⊢
  clear hD hlo hhi
  obtain ⟨T, hT⟩ : ∃ T, ((D.1, [], (if D.2.2 = 0 then D.2.1 else 0), D.2.2) : Int × List Int × Int × Int) = T := ⟨_, rfl⟩
  rw [hT]
  have HT := hid hT
  clear hT
  unfold RestPost
  go_enter Tryd.func54, Tryd.ntmps54
  go_wp2_with fail
  rw [HW.out]
  obtain ⟨Y, hY⟩ : ∃ Y, w.heap.size + 1 = Y := ⟨_, rfl⟩
  rw [hY] at HY ⊢
  obtain ⟨Z, hZ⟩ : ∃ Z, Y + 1 = Z := ⟨_, rfl⟩
  rw [hZ] at HY ⊢
  have hYw : w.heap.size < Y := by omega
  have hYZ : Y < Z := by omega
  clear hY hZ HW
  refine (numbers30 c 6 wd pp ps pl _).mono ?_
  rintro e w2 ⟨rfl, hb2⟩
  have Y2 := hid (HY.out.later hb2)
  have K2 := hid (HK.out.trans (kept_below hb2))
  have HC := hid (HL.out w2 (HR.out.later hb2) (HS.out.kept (kept_below (R := R) hb2) hB))
  have hlt2 : Z < w2.heap.size := Y2.out.ltZ
  clear hb2 HR HS HK HL HY
  unfold spanV at *
  go_wp2_with fail
  refine HC.out.mono ?_
  rintro e w3 ⟨rfl, hrd, hk3⟩
  have R3 := hid hrd
  clear hrd
  have K3 := hid (K2.out.trans hk3)
  obtain ⟨y0, y1, y2, f0, f1, f2, z0, z1, z2, g1, g2⟩ := Y2.out.kept hk3 (by omega) (by omega)
  clear hk3 Y2 K2 HC
  have hZY : Z ≠ Y := by omega
  have hYZ' : Y ≠ Z := by omega
  go_wp2_with fail
  refine bodyPost_ret (v := .tuple #[.agg #[.int .u8 c, .int .i64 D.1, .slice none 0 0], .int .i64 D.2.2]) ?_ rfl ⟨.slice none 0 0, ?_, ?_, ?_, ?_⟩
  · rw [results_cell_tmp rfl]
    go_simp
  · rw [← HT.out]
  · rw [← HT.out]; exact World.ownsRow_nil _ _ _ _
  · rw [← HT.out]
    intro h
    have h' : D.2.2 = 0 := h
    simp only [h', if_true]
    exact ((((R3.out.set (by omega)).set (by omega)).set (by omega)).set (by omega))
  · exact kept_new (kept_new (kept_new (kept_new K3.out (by omega)) (by omega)) (by omega)) (by omega)

set_option maxRecDepth 100000 in
set_option maxHeartbeats 4000000 in
theorem rest54_u7 (R B : Nat) (a : Option Addr) (n cap : Nat) (zs : List Int) (p c : Int) (wd pp ps : ByteArray) (pl : Bool) (w : World) (hr : Rd w R (.slice a n cap) p) (hs : SegU B w a n cap zs) (hB : B ≤ R) :
    Calls Tryd.prog 54 #[.pointer (some ⟨R, 0, none⟩), .agg #[.int .u8 c, .string wd, .int .i8 7, .string pp, .string ps, .bool pl]] w (RestPost w R (.slice a n cap) c (decR 7 (isL ps) zs p)) := by
  rw [decR_u (by decide) (by decide) (by decide) (ruAt_range zs p hs.1.2.2.2.1).1]
  have hlo : lo 7 (isL ps) = 0 := rfl
  have hhi : hi 7 (isL ps) ≤ 9223372036854775807 := (hi_range 7 (isL ps)).2.1
  have hmf : ∀ (fn : Fn) (first cp : Array Value) (w : World), (Instr.makeFunc fn first cp).run Tryd.prog w = .ok (.func fn first cp) w := fun _ _ _ _ => rfl
  have hRlt := hr.lt
  obtain ⟨W, hW⟩ : ∃ W, ((w.alloc (.cells #[.int .u8 c, .string wd, .int .i8 7, .string pp, .string ps, .bool pl] 68)).alloc (.cells #[.int .u8 0, .int .i64 0, .slice none 0 0] 24)).alloc (.cells #[.int .u8 c, .int .i64 0, .slice none 0 0] 24) = W := ⟨_, rfl⟩
  have hb : Below w.heap.size w W := by rw [← hW]; exact (((Below.refl _ _).alloc (Nat.le_refl _) _).alloc (by simp) _).alloc (by simp; omega) _
  have HR := hid (hr.later hb)
  have HS := hid (hs.kept (kept_below (R := R) hb) hB)
  have HK := hid (kept_below (R := R) hb)
  have HW := hid hW
  have HY := hid (show YZ W (w.heap.size + 1) (w.heap.size + 1 + 1) c by
    rw [← hW]; refine ⟨?_, ?_, ?_, ?_, ?_, ?_, ?_, ?_, ?_, ?_, ?_⟩ <;> simp [go_sem])
  clear hr hs hb hW
  obtain ⟨D, hD⟩ : ∃ D, rdU zs p (lo 7 (isL ps)) (hi 7 (isL ps)) = D := ⟨_, rfl⟩
  have HL := hid (fun W' (h1 : Rd W' R (.slice a n cap) p) (h2 : SegU B W' a n cap zs) => unsigned68 R a n cap zs p (lo 7 (isL ps)) (hi 7 (isL ps)) W' h1 h2.1 (by rw [hlo]; decide) hhi)
  rw [hD] at HL ⊢
  clear hD hlo hhi
  obtain ⟨T, hT⟩ : ∃ T, ((D.1, [], (if D.2.2 = 0 then D.2.1 else 0), D.2.2) : Int × List Int × Int × Int) = T := ⟨_, rfl⟩
  rw [hT]
  have HT := hid hT
  clear hT
  unfold RestPost
  go_enter Tryd.func54, Tryd.ntmps54
  go_wp2_with fail
  rw [HW.out]
  obtain ⟨Y, hY⟩ : ∃ Y, w.heap.size + 1 = Y := ⟨_, rfl⟩
  rw [hY] at HY ⊢
  obtain ⟨Z, hZ⟩ : ∃ Z, Y + 1 = Z := ⟨_, rfl⟩
  rw [hZ] at HY ⊢
  have hYw : w.heap.size < Y := by omega
  have hYZ : Y < Z := by omega
  clear hY hZ HW
  refine (numbers30 c 7 wd pp ps pl _).mono ?_
  rintro e w2 ⟨rfl, hb2⟩
  have Y2 := hid (HY.out.later hb2)
  have K2 := hid (HK.out.trans (kept_below hb2))
  have HC := hid (HL.out w2 (HR.out.later hb2) (HS.out.kept (kept_below (R := R) hb2) hB))
  have hlt2 : Z < w2.heap.size := Y2.out.ltZ
  clear hb2 HR HS HK HL HY
  unfold spanV at *
  go_wp2_with fail
  refine HC.out.mono ?_
  rintro e w3 ⟨rfl, hrd, hk3⟩
  have R3 := hid hrd
  clear hrd
  have K3 := hid (K2.out.trans hk3)
  obtain ⟨y0, y1, y2, f0, f1, f2, z0, z1, z2, g1, g2⟩ := Y2.out.kept hk3 (by omega) (by omega)
  clear hk3 Y2 K2 HC
  have hZY : Z ≠ Y := by omega
  have hYZ' : Y ≠ Z := by omega
  go_wp2_with fail
  refine bodyPost_ret (v := .tuple #[.agg #[.int .u8 c, .int .i64 D.1, .slice none 0 0], .int .i64 D.2.2]) ?_ rfl ⟨.slice none 0 0, ?_, ?_, ?_, ?_⟩
  · rw [results_cell_tmp rfl]
    go_simp
  · rw [← HT.out]
  · rw [← HT.out]; exact World.ownsRow_nil _ _ _ _
  · rw [← HT.out]
    intro h
    have h' : D.2.2 = 0 := h
    simp only [h', if_true]
    exact ((((R3.out.set (by omega)).set (by omega)).set (by omega)).set (by omega))
  · exact kept_new (kept_new (kept_new (kept_new K3.out (by omega)) (by omega)) (by omega)) (by omega)

set_option maxRecDepth 100000 in
set_option maxHeartbeats 4000000 in
theorem rest54_u9 (R B : Nat) (a : Option Addr) (n cap : Nat) (zs : List Int) (p c : Int) (wd pp ps : ByteArray) (pl : Bool) (w : World) (hr : Rd w R (.slice a n cap) p) (hs : SegU B w a n cap zs) (hB : B ≤ R) :
    Calls Tryd.prog 54 #[.pointer (some ⟨R, 0, none⟩), .agg #[.int .u8 c, .string wd, .int .i8 9, .string pp, .string ps, .bool pl]] w (RestPost w R (.slice a n cap) c (decR 9 (isL ps) zs p)) := by
  rw [decR_u (by decide) (by decide) (by decide) (ruAt_range zs p hs.1.2.2.2.1).1]
  have hlo : lo 9 (isL ps) = 0 := rfl
  have hhi : hi 9 (isL ps) ≤ 9223372036854775807 := (hi_range 9 (isL ps)).2.1
  have hmf : ∀ (fn : Fn) (first cp : Array Value) (w : World), (Instr.makeFunc fn first cp).run Tryd.prog w = .ok (.func fn first cp) w := fun _ _ _ _ => rfl
  have hRlt := hr.lt
  obtain ⟨W, hW⟩ : ∃ W, ((w.alloc (.cells #[.int .u8 c, .string wd, .int .i8 9, .string pp, .string ps, .bool pl] 68)).alloc (.cells #[.int .u8 0, .int .i64 0, .slice none 0 0] 24)).alloc (.cells #[.int .u8 c, .int .i64 0, .slice none 0 0] 24) = W := ⟨_, rfl⟩
  have hb : Below w.heap.size w W := by rw [← hW]; exact (((Below.refl _ _).alloc (Nat.le_refl _) _).alloc (by simp) _).alloc (by simp; omega) _
  have HR := hid (hr.later hb)
  have HS := hid (hs.kept (kept_below (R := R) hb) hB)
  have HK := hid (kept_below (R := R) hb)
  have HW := hid hW
  have HY := hid (show YZ W (w.heap.size + 1) (w.heap.size + 1 + 1) c by
    rw [← hW]; refine ⟨?_, ?_, ?_, ?_, ?_, ?_, ?_, ?_, ?_, ?_, ?_⟩ <;> simp [go_sem])
  clear hr hs hb hW
  obtain ⟨D, hD⟩ : ∃ D, rdU zs p (lo 9 (isL ps)) (hi 9 (isL ps)) = D := ⟨_, rfl⟩
  have HL := hid (fun W' (h1 : Rd W' R (.slice a n cap) p) (h2 : SegU B W' a n cap zs) => unsigned68 R a n cap zs p (lo 9 (isL ps)) (hi 9 (isL ps)) W' h1 h2.1 (by rw [hlo]; decide) hhi)
  rw [hD] at HL ⊢
  clear hD hlo hhi
  obtain ⟨T, hT⟩ : ∃ T, ((D.1, [], (if D.2.2 = 0 then D.2.1 else 0), D.2.2) : Int × List Int × Int × Int) = T := ⟨_, rfl⟩
  rw [hT]
  have HT := hid hT
  clear hT
  unfold RestPost
  go_enter Tryd.func54, Tryd.ntmps54
  go_wp2_with fail
  rw [HW.out]
  obtain ⟨Y, hY⟩ : ∃ Y, w.heap.size + 1 = Y := ⟨_, rfl⟩
  rw [hY] at HY ⊢
  obtain ⟨Z, hZ⟩ : ∃ Z, Y + 1 = Z := ⟨_, rfl⟩
  rw [hZ] at HY ⊢
  have hYw : w.heap.size < Y := by omega
  have hYZ : Y < Z := by omega
  clear hY hZ HW
  refine (numbers30 c 9 wd pp ps pl _).mono ?_
  rintro e w2 ⟨rfl, hb2⟩
  have Y2 := hid (HY.out.later hb2)
  have K2 := hid (HK.out.trans (kept_below hb2))
  have HC := hid (HL.out w2 (HR.out.later hb2) (HS.out.kept (kept_below (R := R) hb2) hB))
  have hlt2 : Z < w2.heap.size := Y2.out.ltZ
  clear hb2 HR HS HK HL HY
  unfold spanV at *
  go_wp2_with fail
  refine HC.out.mono ?_
  rintro e w3 ⟨rfl, hrd, hk3⟩
  have R3 := hid hrd
  clear hrd
  have K3 := hid (K2.out.trans hk3)
  obtain ⟨y0, y1, y2, f0, f1, f2, z0, z1, z2, g1, g2⟩ := Y2.out.kept hk3 (by omega) (by omega)
  clear hk3 Y2 K2 HC
  have hZY : Z ≠ Y := by omega
  have hYZ' : Y ≠ Z := by omega
  go_wp2_with fail
  refine bodyPost_ret (v := .tuple #[.agg #[.int .u8 c, .int .i64 D.1, .slice none 0 0], .int .i64 D.2.2]) ?_ rfl ⟨.slice none 0 0, ?_, ?_, ?_, ?_⟩
  · rw [results_cell_tmp rfl]
    go_simp
  · rw [← HT.out]
  · rw [← HT.out]; exact World.ownsRow_nil _ _ _ _
  · rw [← HT.out]
    intro h
    have h' : D.2.2 = 0 := h
    simp only [h', if_true]
    exact ((((R3.out.set (by omega)).set (by omega)).set (by omega)).set (by omega))
  · exact kept_new (kept_new (kept_new (kept_new K3.out (by omega)) (by omega)) (by omega)) (by omega)

set_option maxRecDepth 100000 in
set_option maxHeartbeats 4000000 in
theorem rest54_0 (R B : Nat) (a : Option Addr) (n cap : Nat) (zs : List Int) (p c : Int) (wd pp ps : ByteArray) (pl : Bool) (w : World) (hr : Rd w R (.slice a n cap) p) (hs : SegU B w a n cap zs) (hB : B ≤ R) :
    Calls Tryd.prog 54 #[.pointer (some ⟨R, 0, none⟩), .agg #[.int .u8 c, .string wd, .int .i8 0, .string pp, .string ps, .bool pl]] w (RestPost w R (.slice a n cap) c (decR 0 (isL ps) zs p)) := by
  have hD : decR 0 (isL ps) zs p = (0, [], p, 0) := by unfold decR; rw [if_pos rfl]
  rw [hD]
  clear hD
  have hmf : ∀ (fn : Fn) (first cp : Array Value) (w : World), (Instr.makeFunc fn first cp).run Tryd.prog w = .ok (.func fn first cp) w := fun _ _ _ _ => rfl
  have hRlt := hr.lt
  have hb : Below w.heap.size w (((w.alloc (.cells #[.int .u8 c, .string wd, .int .i8 0, .string pp, .string ps, .bool pl] 68)).alloc (.cells #[.int .u8 c, .int .i64 0, .slice none 0 0] 24)).alloc (.cells #[.int .u8 c, .int .i64 0, .slice none 0 0] 24)) := (((Below.refl _ _).alloc (Nat.le_refl _) _).alloc (by simp) _).alloc (by simp; omega) _
  have HR := hid (hr.later hb)
  have HK := hid (kept_below (R := R) hb)
  clear hr hs hb
  unfold RestPost
  go_enter Tryd.func54, Tryd.ntmps54
  go_wp2_with fail
  refine bodyPost_ret (v := .tuple #[.agg #[.int .u8 c, .int .i64 0, .slice none 0 0], .int .i64 0]) ?_ rfl ⟨.slice none 0 0, rfl, World.ownsRow_nil _ _ _ _, fun _ => HR.out, HK.out⟩
  rw [results_cell_tmp rfl]
  go_simp

/-- (reader).rest, of every opcode that there is. -/
theorem rest54 (R B : Nat) (a : Option Addr) (n cap : Nat) (zs : List Int) (p c t : Int) (wd pp ps : ByteArray) (pl : Bool) (w : World) (hr : Rd w R (.slice a n cap) p) (hs : SegU B w a n cap zs) (hB : B ≤ R) (h0 : 0 ≤ t) (h1 : t ≤ 9) :
    Calls Tryd.prog 54 #[.pointer (some ⟨R, 0, none⟩), .agg #[.int .u8 c, .string wd, .int .i8 t, .string pp, .string ps, .bool pl]] w (RestPost w R (.slice a n cap) c (decR t (isL ps) zs p)) := by
  have h : t = 0 ∨ t = 1 ∨ t = 2 ∨ t = 3 ∨ t = 4 ∨ t = 5 ∨ t = 6 ∨ t = 7 ∨ t = 8 ∨ t = 9 := by omega
  rcases h with rfl | rfl | rfl | rfl | rfl | rfl | rfl | rfl | rfl | rfl
  · exact rest54_0 R B a n cap zs p c wd pp ps pl w hr hs hB
  · exact rest54_u1 R B a n cap zs p c wd pp ps pl w hr hs hB
  · exact rest54_u2 R B a n cap zs p c wd pp ps pl w hr hs hB
  · exact rest54_l R B a n cap zs p c wd pp ps pl w hr hs hB
  · exact rest54_u4 R B a n cap zs p c wd pp ps pl w hr hs hB
  · exact rest54_u5 R B a n cap zs p c wd pp ps pl w hr hs hB
  · exact rest54_u6 R B a n cap zs p c wd pp ps pl w hr hs hB
  · exact rest54_u7 R B a n cap zs p c wd pp ps pl w hr hs hB
  · exact rest54_s R B a n cap zs p c wd pp ps pl w hr hs hB
  · exact rest54_u9 R B a n cap zs p c wd pp ps pl w hr hs hB
end Go.Proofs.YtgljlclnmnfocaaDoor

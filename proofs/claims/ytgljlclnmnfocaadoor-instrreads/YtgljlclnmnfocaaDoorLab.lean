/-
  The walk over instr.labels: how many there are, then each one, in memory of its own.
-/
import Derived.Test.YtgljlclnmnfocaaDoorRdr
import Derived.Test.YtgljlclnmnfocaaDoorEq
import Derived.Test.YtgljlclnmnfocaaDoorOwn
namespace Go.Proofs.YtgljlclnmnfocaaDoor
open Go.RowKit
set_option linter.unusedVariables false

/-- The labels of a brtable, from its count on: those, the place behind, the error. -/
def labR (zs : List Int) (p : Int) : List Int × Int × Int :=
  if (ruAt zs p).2.2 ≠ 0 then ([], 0, (ruAt zs p).2.2)
  else if (ruAt zs p).1 < 1 ∨ 16 < (ruAt zs p).1 then ([], 0, 17)
  else labs zs (ruAt zs p).1.toNat (ruAt zs p).2.1 []

/-- The reader as a function value. -/
def readU (R : Nat) : Value := .func (.func 68) #[.pointer (some ⟨R, 0, none⟩)] #[]

theorem Tryd.info3 : (Tryd.prog.info? 3).map (fun i => (i.zero, i.size, i.bytes)) = some (some (.int .i64 0), 1, 8) := by kernel_rfl

/-- Bytes that lie below the reader. -/
def SegU (B : Nat) (w : World) (a : Option Addr) (n cap : Nat) (zs : List Int) : Prop :=
  Seg w a n cap zs ∧ ∀ b off, a = some ⟨b, off, none⟩ → n ≠ 0 → b < B

theorem SegU.kept {B R : Nat} {w w' : World} {a : Option Addr} {n cap : Nat} {zs : List Int} (h : SegU B w a n cap zs) (hk : Kept (fun k => k = R) w w') (hB : B ≤ R) : SegU B w' a n cap zs := by
  refine ⟨?_, h.2⟩
  obtain ⟨h1, h2, h3, h4, h5⟩ := h.1
  refine ⟨h1, h2, h3, h4, ?_⟩
  rcases h5 with h0 | ⟨b, off, e, hc⟩
  · exact .inl h0
  · by_cases h0 : n = 0
    · exact .inl h0
    · have := h.2 b off e h0
      exact .inr ⟨b, off, e, fun j hj => hk.cell (hc j hj) (by omega)⟩

theorem set_at (f : Int → Value) (pre : List Int) (k m : Nat) (c : Int) (h : pre.length = k) : ((pre ++ List.replicate (m + 1) 0).map f).set k (f c) = ((pre ++ [c]) ++ List.replicate m 0).map f := by
  subst h
  rw [← List.map_set]
  congr 1
  rw [List.set_append_right _ _ (by omega)]
  simp [List.replicate_succ]

/-- A row of ints behind one store more. -/
theorem lab_put {wr : World} {B0 m k : Nat} {done : List Int} (z : Int) (hk : k < m) (hd : done.length = k)
    (hown : wr.ownsRow B0 3 1 (.slice (some ⟨B0, 0, none⟩) m m) m ((done ++ List.replicate (m - k) 0).map (Value.int .i64))) :
    (wr.setCell ⟨B0, k, none⟩ (.int .i64 z)).ownsRow B0 3 1 (.slice (some ⟨B0, 0, none⟩) m m) m (((done ++ [z]) ++ List.replicate (m - (k + 1)) 0).map (Value.int .i64)) := by
  have h := hown.stored k (.int .i64 z)
  have e : m - k = m - (k + 1) + 1 := by omega
  rw [e, set_at (Value.int .i64) done k _ z hd] at h
  exact h.1

theorem kept_set {R B0 : Nat} {w wr : World} {k : Nat} {v : Value} (h : Kept (fun j => j = R) w wr) (hB : w.heap.size ≤ B0) : Kept (fun j => j = R) w (wr.setCell ⟨B0, k, none⟩ v) :=
  ⟨h.os, h.tape, h.output, by simpa [World.setCell] using h.size, fun j hj hs => (Below.heap_setCell _ _ _ _ (by simp; omega)).trans (h.block j hj hs)⟩

theorem Rd.set {w : World} {R B0 k : Nat} {s : Value} {p : Int} {v : Value} (h : Rd w R s p) (hB : R ≠ B0) : Rd (w.setCell ⟨B0, k, none⟩ v) R s p := by
  have hb : (w.setCell ⟨B0, k, none⟩ v).heap[R]? = w.heap[R]? := Below.heap_setCell _ _ _ _ hB
  exact ⟨(cell_of_block hb 0).trans h.c0, (cell_of_block hb 1).trans h.c1, (frozen_of_block hb 1).trans h.f1⟩

theorem seg_set {w : World} {B R B0 k : Nat} {a : Option Addr} {n cap : Nat} {zs : List Int} {v : Value} (h : SegU B w a n cap zs) (hR : R < B0) (hB : B ≤ R) : Seg (w.setCell ⟨B0, k, none⟩ v) a n cap zs := by
  obtain ⟨h1, h2, h3, h4, h5⟩ := h.1
  refine ⟨h1, h2, h3, h4, ?_⟩
  rcases h5 with h0 | ⟨b, off, e, hc⟩
  · exact .inl h0
  · by_cases h0 : n = 0
    · exact .inl h0
    · have := h.2 b off e h0
      exact .inr ⟨b, off, e, fun j hj => (cell_of_block (Below.heap_setCell _ _ _ _ (by simp; omega)) _).trans (hc j hj)⟩

/-- One label more, of the plain list and of the reader. -/
theorem labs_err1 {zs : List Int} {q : Int} {done : List Int} {j : Nat} (hu : 0 ≤ (ruAt zs q).1) (h : (rdU zs q 0 2147483647).2.2 ≠ 0) : labs zs (j + 1) q done = ([], 0, (rdU zs q 0 2147483647).2.2) := by
  unfold rdU at h ⊢
  rw [labs]
  by_cases h1 : (ruAt zs q).2.2 ≠ 0
  · rw [if_pos h1, if_pos h1]
  rw [if_neg h1] at h ⊢
  rw [if_neg h1]
  by_cases h2 : (ruAt zs q).1 < 0 ∨ 2147483647 < (ruAt zs q).1
  · rw [if_pos h2] at h ⊢
    by_cases h3 : 2147483647 < (ruAt zs q).1
    · rw [if_pos h3]
    · omega
  · rw [if_neg h2] at h; simp at h
theorem labs_ok1 {zs : List Int} {q : Int} {done : List Int} {j : Nat} (h : (rdU zs q 0 2147483647).2.2 = 0) : labs zs (j + 1) q done = labs zs j (rdU zs q 0 2147483647).2.1 (done ++ [(rdU zs q 0 2147483647).1]) := by
  unfold rdU at h ⊢
  rw [labs]
  by_cases h1 : (ruAt zs q).2.2 ≠ 0
  · rw [if_pos h1] at h; exact absurd h h1
  rw [if_neg h1] at h ⊢
  rw [if_neg h1]
  by_cases h2 : (ruAt zs q).1 < 0 ∨ 2147483647 < (ruAt zs q).1
  · rw [if_pos h2] at h; simp at h
  · rw [if_neg h2] at h ⊢
    rw [if_neg (by omega)]

theorem labR_err {zs : List Int} {p : Int} (h : (rdU zs p 1 16).2.2 ≠ 0) : labR zs p = ([], 0, (rdU zs p 1 16).2.2) := by
  unfold rdU at h ⊢
  unfold labR
  by_cases h1 : (ruAt zs p).2.2 ≠ 0
  · rw [if_pos h1, if_pos h1]
  rw [if_neg h1] at h ⊢
  rw [if_neg h1]
  by_cases h2 : (ruAt zs p).1 < 1 ∨ 16 < (ruAt zs p).1
  · rw [if_pos h2, if_pos h2]
  · rw [if_neg h2] at h; simp at h
theorem labR_ok {zs : List Int} {p : Int} (h : (rdU zs p 1 16).2.2 = 0) : labR zs p = labs zs (rdU zs p 1 16).1.toNat (rdU zs p 1 16).2.1 [] ∧ 1 ≤ (rdU zs p 1 16).1 ∧ (rdU zs p 1 16).1 ≤ 16 := by
  unfold rdU at h ⊢
  unfold labR
  by_cases h1 : (ruAt zs p).2.2 ≠ 0
  · rw [if_pos h1] at h; exact absurd h h1
  rw [if_neg h1] at h ⊢
  rw [if_neg h1]
  by_cases h2 : (ruAt zs p).1 < 1 ∨ 16 < (ruAt zs p).1
  · rw [if_pos h2] at h; simp at h
  · rw [if_neg h2] at h ⊢
    rw [if_neg h2]
    exact ⟨rfl, by simp only; omega, by simp only; omega⟩

set_option maxRecDepth 100000 in
set_option maxHeartbeats 2000000 in
theorem labels69 (R B : Nat) (a : Option Addr) (n cap : Nat) (zs : List Int) (p : Int) (w : World) (hr : Rd w R (.slice a n cap) p) (hs : SegU B w a n cap zs) (hB : B ≤ R) :
    Calls Tryd.prog 69 #[readU R, spanV 1 16] w fun e w' => ∃ v, e = .returned (.tuple #[v, .int .i64 (labR zs p).2.2]) ∧
      w'.ownsRow w.heap.size 3 1 v (labR zs p).1.length ((labR zs p).1.map (Value.int .i64)) ∧ ((labR zs p).2.2 = 0 → Rd w' R (.slice a n cap) (labR zs p).2.1) ∧ Kept (fun k => k = R) w w' := by
  have hba : Below w.heap.size w (w.alloc (.cells #[.int .i64 1, .int .i64 16] 76)) := (Below.refl _ _).alloc (Nat.le_refl _) _
  have hRlt := hr.lt
  have hr1 := hr.later hba
  have hs1 := hs.kept (kept_below (R := R) hba) hB
  have HU := hid (unsigned68 R a n cap zs p 1 16 _ hr1 hs1.1 (by decide) (by decide))
  have HS := hid hs1
  have HK := hid (kept_below (R := R) hba)
  have hLE := labR_err (zs := zs) (p := p)
  have hLO := labR_ok (zs := zs) (p := p)
  obtain ⟨r0, hr0⟩ : ∃ r0, rdU zs p 1 16 = r0 := ⟨_, rfl⟩
  rw [hr0] at HU hLE hLO
  obtain ⟨m, q, x⟩ := r0
  simp only at HU hLE hLO
  clear hr0 hr hs hr1 hs1 hba
  unfold readU spanV at *
  by_cases hx : x = 0
  · subst hx
    obtain ⟨hL, hm1, hm2⟩ := hLO rfl
    clear hLE hLO
    rw [hL]
    obtain ⟨m, rfl⟩ := Int.eq_ofNat_of_zero_le (by omega : 0 ≤ m)
    rw [Int.toNat_natCast]
    clear hL
    obtain ⟨L, hLL⟩ : ∃ L, labs zs m q [] = L := ⟨_, rfl⟩
    rw [hLL]
    have HLL := hid hLL
    clear hLL
    obtain ⟨i0, hi, hz0, hz1, hz2⟩ := info_parts Tryd.info3
    have hb2 : i0.bytes * m ≤ 281474976710656 := by rw [hz2]; omega
    have hml : m ≤ maxLen := by unfold maxLen; omega
    go_enter Tryd.func69, Tryd.ntmps69
    go_wp2_with fail
    refine HU.out.mono ?_
    rintro e w2 ⟨rfl, hrd2, hk2⟩
    have K2 := hid (HK.out.trans hk2)
    have RD2 := hid hrd2
    have S2 := hid (HS.out.kept hk2 hB)
    have hw2 : w.heap.size ≤ w2.heap.size := K2.out.size
    clear hk2 hrd2 HU HS HK
    go_wp2_with (first | (at_make; (refine wpList_make_full _ rfl _ _ 22 rfl w2.heap.size 3 i0 (.int .i64 0) 1 Tryd.underlying22 hi hz0 hz1 .i64 .i64 _ _ m rfl rfl (by omega) (by omega) hb2 hml (Nat.le_refl _) ?_; intro w3 hown hgrow)))
    have hown0 : w3.ownsRow w2.heap.size 3 1 (.slice (some ⟨w2.heap.size, 0, none⟩) m m) m ((([] : List Int) ++ List.replicate (m - 0) 0).map (Value.int .i64)) := by
      have e : (madeCells (Value.int .i64 0).cells (m * 1)).toList = (([] : List Int) ++ List.replicate (m - 0) 0).map (Value.int .i64) := by
        rw [Nat.mul_one]; exact (toList_madeCells_one _ _).trans (by simp)
      rw [← e]; exact hown
    have hb3 : Below w2.heap.size w2 w3 := (Below.refl _ _).grown hgrow (Nat.le_refl _) (by simp)
    have K3 := hid (K2.out.trans (kept_below hb3))
    have RD3 := hid (RD2.out.later hb3)
    have hRw2 : R < w2.heap.size := RD2.out.lt
    have S3 := hid (S2.out.kept (kept_below (R := R) hb3) hB)
    have hz : ∀ z ∈ zs, 0 ≤ z ∧ z ≤ 255 := S2.out.1.2.2.2.1
    have HZ := hid hz
    have O3 := hid hown0
    clear hown hgrow hown0 hb3 RD2 S2 K2 hi hz0 hz1 hz2 hb2 hml hz
    go_loopw [25] (fun i wr => ∃ (k : Nat) (done : List Int) (q' : Int), k ≤ m ∧ i = .int .i64 k ∧ done.length = k ∧ wr.ownsRow w2.heap.size 3 1 (.slice (some ⟨w2.heap.size, 0, none⟩) m m) m ((done ++ List.replicate (m - k) 0).map (Value.int .i64)) ∧
      Rd wr R (.slice a n cap) q' ∧ Kept (fun k => k = R) w wr ∧ SegU B wr a n cap zs ∧ labs zs (m - k) q' done = L) (fun i _ => m - (intOf i).toNat)
    case atStart => exact ⟨0, [], q, Nat.zero_le _, rfl, rfl, O3.out, RD3.out, K3.out, S3.out, HLL.out⟩
    case round =>
      obtain ⟨k, done, q', hk, rfl, hdl, hown, hrd, hkp, hsg, hlb⟩ := hrel
      have HO := hid hown
      have HR := hid hrd
      have HKP := hid hkp
      have HSG := hid hsg
      have HLB := hid hlb
      have HDL := hid hdl
      clear hown hrd hkp hsg hlb O3 RD3 K3 S3 HLL hdl
      by_cases hlt : k < m
      · have hu0 := (ruAt_range zs q' HZ.out).1
        have hE := labs_err1 (done := done) (j := m - (k + 1)) hu0
        have hO := labs_ok1 (zs := zs) (q := q') (done := done) (j := m - (k + 1))
        have hlb := HLB.out
        rw [show m - k = m - (k + 1) + 1 by omega] at hlb
        rw [hlb] at hE hO
        have HU := hid (fun W (h1 : Rd W R (.slice a n cap) q') (h2 : SegU B W a n cap zs) => unsigned68 R a n cap zs q' 0 2147483647 W h1 h2.1 (by decide) (by decide))
        obtain ⟨r1, hr1⟩ : ∃ r1, rdU zs q' 0 2147483647 = r1 := ⟨_, rfl⟩
        rw [hr1] at HU hE hO
        obtain ⟨z, q2, x⟩ := r1
        simp only at HU hE hO
        clear hr1 hlb hu0
        by_cases hx : x = 0
        · subst hx
          have HN := hid (hO rfl)
          clear hE hO
          have hcl : ∃ v, wr.cell? ⟨w2.heap.size, k, none⟩ = some v := by
            have := HO.out.cellAt k (by omega)
            exact ⟨_, this.trans (List.getElem?_eq_getElem (by simp [HDL.out]; omega))⟩
          obtain ⟨v0, hcl⟩ := hcl
          have hwr := block_lt_of_cell hcl
          simp only at hwr
          have HCL := hid hcl
          clear hcl
          go_wp2_with fail
          refine (indices33 _).mono ?_
          rintro e w4 ⟨rfl, hb4⟩
          have R4 := HR.out.later hb4
          have S4 := HSG.out.kept (kept_below (R := R) hb4) hB
          have O4 := own_keep HO.out (fun B' hB' => hb4.block B' (by simp [Value.ownBlock] at hB'; omega))
          have KP4 := HKP.out.trans (kept_below hb4)
          have HH := hid (HU.out w4 R4 S4)
          have c4 := (hb4.cell (p := ⟨w2.heap.size, k, none⟩) hwr).trans HCL.out
          have hw4 := hb4.size
          clear hb4
          unfold spanV at *
          go_wp2_with fail
          refine HH.out.mono ?_
          rintro e w5 ⟨rfl, hr5, hk5⟩
          have S5 := S4.kept hk5 hB
          have O5 := own_keep O4 (fun B' hB' => hk5.block B' (by simp [Value.ownBlock] at hB'; omega) (by simp [Value.ownBlock] at hB'; omega))
          have KP5 := hid (KP4.trans hk5)
          have c5 := hk5.cell c4 (by omega)
          have f5 := O5.frozenAt k
          have O5h := hid O5
          have S5h := hid S5
          have R5h := hid hr5
          clear O5 S5 hr5 O4 S4 R4 KP4 c4 HH hk5
          go_wp2_with fail
          have hne : R ≠ w2.heap.size := by omega
          refine ⟨⟨k + 1, done ++ [z], q2, by omega, by go_num, by simp [HDL.out], lab_put z hlt HDL.out O5h.out, R5h.out.set hne, kept_set KP5.out hw2, ?_, HN.out.symm⟩, by simp [intOf]; omega⟩
          exact ⟨seg_set S5h.out hRw2 hB, S5h.out.2⟩
        · have hx' : (x != 0) = true := by simp [hx]
          have hL := hE hx
          clear hE hO
          go_wp2_with fail
          refine (indices33 _).mono ?_
          rintro e w4 ⟨rfl, hb4⟩
          have R4 := HR.out.later hb4
          have S4 := HSG.out.kept (kept_below (R := R) hb4) hB
          have KP4 := hid (HKP.out.trans (kept_below hb4))
          have HH := hid (HU.out w4 R4 S4)
          have HLE := hid hL
          clear R4 S4 hb4 hL
          unfold spanV at *
          go_wp2_with fail
          refine HH.out.mono ?_
          rintro e w5 ⟨rfl, hr5, hk5⟩
          go_wp2_with fail
          go_ret2
          refine ⟨.slice none 0 0, ?_, ?_, ?_, KP4.out.trans hk5⟩
          · rw [HLE.out]; rfl
          · rw [HLE.out]; exact World.ownsRow_nil _ _ _ _
          · rw [HLE.out]; exact fun h => absurd h hx
      · obtain rfl : k = m := by omega
        have hlb := HLB.out
        rw [Nat.sub_self] at hlb
        have HLE := hid (show L = (done, q', 0) from hlb.symm)
        clear hlb
        go_wp2_with fail
        go_ret2
        refine ⟨.slice (some ⟨w2.heap.size, 0, none⟩) k k, ?_, ?_, ?_, HKP.out⟩
        · rw [HLE.out]; rfl
        · rw [HLE.out]
          have h := own_mono HO.out hw2
          rw [Nat.sub_self] at h
          simp only [List.replicate_zero, List.append_nil] at h
          simp only [HDL.out]
          exact h
        · rw [HLE.out]; exact fun _ => HR.out
  · have hx' : (x != 0) = true := by simp [hx]
    have hL := hLE hx
    clear hLE hLO
    rw [hL]
    go_enter Tryd.func69, Tryd.ntmps69
    go_wp2_with fail
    refine HU.out.mono ?_
    rintro e w2 ⟨rfl, hrd2, hk2⟩
    go_wp2_with fail
    go_ret2
    exact ⟨_, rfl, World.ownsRow_nil _ _ _ _, fun h => absurd h hx, HK.out.trans hk2⟩
end Go.Proofs.YtgljlclnmnfocaaDoor

/-
  The walk over WireReads: true, whatever the bytes, the place and the bound.
-/
import Derived.Test.YtlhopgdafaehhaaWorks
namespace Go.Proofs.Ytlhopgdafaehhaa
open Go.RowKit
set_option linter.unusedVariables false

/-- Three results in one. -/
theorem tup3 {f : Nat} {args : Array Value} {w : World} {k : IntKind} {r : Int × Int × Int} (h : Calls Try.prog f args w fun e w' => e = .returned (res3 k r) ∧ w' = w) :
    Calls Try.prog f args w fun e w' => e = .returned (.tuple #[.int k r.1, .int .i64 r.2.1, .int .i64 r.2.2]) ∧ w' = w := h

theorem tupT {f : Nat} {args : Array Value} {w : World} {r : List Int × Int × Int} (h : Calls Try.prog f args w fun e w' => e = .returned (resT r) ∧ w' = w) :
    Calls Try.prog f args w fun e w' => e = .returned (.tuple #[.string (strOfNums r.1), .int .i64 r.2.1, .int .i64 r.2.2]) ∧ w' = w := h

/-- A row of ints that was just written out. -/
theorem ints_lit (w : World) (xs : List Int) (e : TypeId) (hx : ∀ x ∈ xs, -9223372036854775808 ≤ x ∧ x < 9223372036854775808) (j : Nat) (hj : j < xs.length) :
    ∃ x, -9223372036854775808 ≤ x ∧ x < 9223372036854775808 ∧ (w.alloc (.cells (xs.map (Value.int .i64)).toArray e)).cell? ⟨w.heap.size, j, none⟩ = some (.int .i64 x) := by
  refine ⟨xs[j], (hx _ (List.getElem_mem hj)).1, (hx _ (List.getElem_mem hj)).2, ?_⟩
  simp [hj]

theorem seg_kept {W : World} {B n : Nat} {zs : List Int} (h : ∀ j, j < n + 64 → W.cell? ⟨B, j, none⟩ = some (.int .u8 (wl zs j))) (hz : zs.length = n) (hn : n ≤ 1048576) (hr : ∀ z ∈ zs, 0 ≤ z ∧ z ≤ 255) :
    Seg W (some ⟨B, 0, none⟩) n (n + 64) zs := by
  refine ⟨hz, by omega, by omega, hr, .inr ⟨B, 0, rfl, fun j hj => ?_⟩⟩
  rw [Nat.zero_add, h j (by omega)]
  have hj' : j < zs.length := by omega
  simp [wl, hj']

set_option maxRecDepth 100000 in
set_option maxHeartbeats 4000000 in
theorem reads3 (a : Option Addr) (n cap : Nat) (zs : List Int) (pa mo : Int) (w : World) (h : Seg w a n cap zs) (hn : n ≤ 1048576)
    (hpa : -9223372036854775808 ≤ pa ∧ pa < 9223372036854775808) (hmo : -9223372036854775808 ≤ mo ∧ mo < 9223372036854775808) :
    Calls Try.prog 3 #[.slice a n cap, .int .i64 pa, .int .i64 mo] w fun e w' => e = .returned (.bool true) ∧ Below w.heap.size w w' := by
  go_enter Try.func3, Try.ntmps3
  go_wp2_with fail
  refine (works5 _).mono ?_
  rintro e w1 ⟨rfl, hb1⟩
  go_wp2_with fail
  refine (wide6 a n cap zs w1 (h.later hb1 (Nat.le_refl _)) hn).mono ?_
  rintro e w2 ⟨rfl, hk, hb2, hz2⟩
  have hplaces := ints_lit w2 [pa, 0, -1, n, (n : Int) + 1, 9223372036854775807, -9223372036854775808] 3 (by
    intro x hx
    simp at hx
    omega)
  have hba : Below w2.heap.size w2 (w2.alloc (.cells #[.int .i64 pa, .int .i64 0, .int .i64 (-1), .int .i64 n, .int .i64 ((n : Int) + 1), .int .i64 9223372036854775807, .int .i64 (-9223372036854775808)] 3)) := (Below.refl _ _).alloc (Nat.le_refl _) _
  have hbW := (hb1.trans (hb2.mono hb1.size)).trans (hba.mono (Nat.le_trans hb1.size hb2.size))
  have hsB := ((h.later hb1 (Nat.le_refl _)).later hb2 (Nat.le_refl _)).later hba (Nat.le_refl _)
  have hkW : ∀ j, j < n + 64 → (w2.alloc (.cells #[.int .i64 pa, .int .i64 0, .int .i64 (-1), .int .i64 n, .int .i64 ((n : Int) + 1), .int .i64 9223372036854775807, .int .i64 (-9223372036854775808)] 3)).cell? ⟨w1.heap.size, j, none⟩ = some (.int .u8 (wl zs j)) :=
    fun j hj => (hba.cell (p := ⟨w1.heap.size, j, none⟩) hz2).trans (hk j hj)
  have hsK := seg_kept hkW h.1 hn h.2.2.2.1
  have hzl := h.1
  simp only [List.map_cons, List.map_nil] at hplaces
  have HP := hid hplaces
  have HBW := hid hbW
  have HSB := hid hsB
  have HKW := hid hkW
  have HSK := hid hsK
  have HM := hid hmo
  have HZ := hid hzl
  clear hplaces hba hbW hsB hkW hsK h hb1 hb2 hk hpa hmo hzl
  go_wp2_with fail
  generalize w2.alloc (.cells #[.int .i64 pa, .int .i64 0, .int .i64 (-1), .int .i64 n, .int .i64 ((n : Int) + 1), .int .i64 9223372036854775807, .int .i64 (-9223372036854775808)] 3) = W at *
  go_loopw [10] (fun i wr => ∃ k : Nat, k ≤ 7 ∧ i = .int .i64 k ∧ Below W.heap.size W wr) (fun i _ => 7 - (intOf i).toNat)
  case atStart => exact ⟨0, by omega, rfl, Below.refl _ _⟩
  case round =>
    obtain ⟨k, hk7, rfl, hb⟩ := hrel
    by_cases hlt : k < 7
    · obtain ⟨p, hp0, hp1, hpc⟩ := HP.out k hlt
      have hcell : wr.cell? ⟨w2.heap.size, k, none⟩ = some (.int .i64 p) := (hb.cell (p := ⟨w2.heap.size, k, none⟩) (block_lt_of_cell hpc)).trans hpc
      have g1 := HSK.out.later hb (Nat.le_refl _)
      have g2 := HSB.out.later hb (Nat.le_refl _)
      have c7 := tup3 (ru7 _ _ _ zs p _ g1)
      have c8 := tup3 (ru8 _ _ _ zs p _ g2)
      have c9 := tup3 (rs9 _ _ _ zs p _ g1)
      have c10 := tup3 (rs10 _ _ _ zs p _ g2)
      generalize ruAt zs p = r at c7 c8
      generalize rsAt zs p = r' at c9 c10
      obtain ⟨u, q, x⟩ := r
      obtain ⟨u', q', x'⟩ := r'
      simp only at c7 c8 c9 c10
      have C7 := hid c7
      have C8 := hid c8
      have C9 := hid c9
      have C10 := hid c10
      have HB := hid hb
      have G1 := hid g1
      have G2 := hid g2
      clear c7 c8 c9 c10 hb g1 g2 hpc
      go_wp2_with (first | (go_at_call 7; refine C7.out.mono ?_; rintro e w' ⟨rfl, rfl⟩) | (go_at_call 8; refine C8.out.mono ?_; rintro e w' ⟨rfl, rfl⟩) | (go_at_call 9; refine C9.out.mono ?_; rintro e w' ⟨rfl, rfl⟩) | (go_at_call 10; refine C10.out.mono ?_; rintro e w' ⟨rfl, rfl⟩))
      have hbnds := ints_lit w' [mo, 0, -1, 9223372036854775807, -9223372036854775808] 3 (by
        have := HM.out
        intro x hx
        simp at hx
        omega)
      have hba : Below w'.heap.size w' (w'.alloc (.cells #[.int .i64 mo, .int .i64 0, .int .i64 (-1), .int .i64 9223372036854775807, .int .i64 (-9223372036854775808)] 3)) := (Below.refl _ _).alloc (Nat.le_refl _) _
      have hbW2 := HB.out.trans (hba.mono HB.out.size)
      have g1 := G1.out.later hba (Nat.le_refl _)
      have g2 := G2.out.later hba (Nat.le_refl _)
      simp only [List.map_cons, List.map_nil] at hbnds
      have HN := hid hbnds
      have HB2 := hid hbW2
      have S1 := hid g1
      have S2 := hid g2
      clear hbnds hba hbW2 g1 g2 C7 C8 C9 C10 G1 G2 HB hcell
      generalize w'.alloc (.cells #[.int .i64 mo, .int .i64 0, .int .i64 (-1), .int .i64 9223372036854775807, .int .i64 (-9223372036854775808)] 3) = W2 at *
      go_loop [21] (fun i => ∃ j : Nat, j ≤ 5 ∧ i = .int .i64 j) (fun i => 5 - (intOf i).toNat)
      case atStart => exact ⟨0, by omega, rfl⟩
      case round =>
        obtain ⟨j, hj5, rfl⟩ := hrel
        by_cases hjlt : j < 5
        · obtain ⟨m, hm0, hm1, hmc⟩ := HN.out j hjlt
          have c11 := tup3 (rc11 _ _ _ zs p m _ S1.out hm1)
          have c12 := tup3 (rc12 _ _ _ zs p m _ S2.out hm1)
          have c13 := tupT (rt13 _ _ _ zs p m _ S1.out hm1)
          have c14 := tupT (rt14 _ _ _ zs p m _ S2.out hm1)
          generalize rbAt zs p m 20 = r at c11 c12
          generalize rtAt zs p m = r' at c13 c14
          obtain ⟨u, q, x⟩ := r
          obtain ⟨u', q', x'⟩ := r'
          simp only at c11 c12 c13 c14
          generalize strOfNums u' = str at c13 c14
          have C11 := hid c11
          have C12 := hid c12
          have C13 := hid c13
          have C14 := hid c14
          clear c11 c12 c13 c14
          go_wp2_with (first | (go_at_call 11; refine C11.out.mono ?_; rintro e w' ⟨rfl, rfl⟩) | (go_at_call 12; refine C12.out.mono ?_; rintro e w' ⟨rfl, rfl⟩) | (go_at_call 13; refine C13.out.mono ?_; rintro e w' ⟨rfl, rfl⟩) | (go_at_call 14; refine C14.out.mono ?_; rintro e w' ⟨rfl, rfl⟩))
          exact ⟨⟨j + 1, by omega, by go_num⟩, by simp [intOf]; omega⟩
        · go_wp2
          exact ⟨⟨k + 1, by omega, by go_num, HB2.out⟩, by simp [intOf]; omega⟩
    · have HE := hid (eq15 _ _ n _ _ zs _ (HSK.out.later hb (Nat.le_refl _)) (HSB.out.later hb (Nat.le_refl _)))
      have hsp : ∀ m, Calls Try.prog 16 #[.slice (some ⟨w1.heap.size, 0, none⟩) n (n + 64)] (wr.drewN m) fun e w' => e = .returned (.bool true) ∧ w' = wr.drewN m := fun m =>
        spare16 w1.heap.size n zs _ HZ.out hn fun j hj => by
          rw [World.cell?_drewN]
          exact (hb.cell (p := ⟨w1.heap.size, j, none⟩) (block_lt_of_cell (HKW.out j hj))).trans (HKW.out j hj)
      have HS := hid hsp
      have HF := hid (HBW.out.trans (hb.mono HBW.out.size))
      clear HP HM hsp hb HSK HSB HKW HBW
      go_wp2_with fail
      refine HE.out.mono ?_
      rintro e w3 ⟨rfl, m, rfl⟩
      go_wp2_with fail
      refine (HS.out m).mono ?_
      rintro e w3 ⟨rfl, rfl⟩
      go_wp2
      go_ret
      exact ⟨rfl, below_drewN HF.out m⟩

set_option maxRecDepth 100000 in
set_option maxHeartbeats 1000000 in
/-- A list that is too long is let go. -/
theorem reads3_big (a : Option Addr) (n cap : Nat) (pa mo : Int) (w : World) (hn : 1048576 < n) (hm : n ≤ 9223372036854775807) :
    Calls Try.prog 3 #[.slice a n cap, .int .i64 pa, .int .i64 mo] w fun e w' => e = .returned (.bool true) ∧ Below w.heap.size w w' := by
  have hn' : (1048576 : Int) < (n : Int) := by omega
  go_enter Try.func3, Try.ntmps3
  go_wp2_with fail
  refine (works5 _).mono ?_
  rintro e w1 ⟨rfl, hb1⟩
  go_wp2
  go_ret
  exact ⟨rfl, hb1⟩
end Go.Proofs.Ytlhopgdafaehhaa

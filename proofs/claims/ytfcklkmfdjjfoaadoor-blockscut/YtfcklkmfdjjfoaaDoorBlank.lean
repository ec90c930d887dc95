/-
  The walks over blank and end.
-/
import Derived.Test.YtfcklkmfdjjfoaaDoorCode
import Derived.Test.YtfcklkmfdjjfoaaDoorPure
namespace Go.Proofs.YtfcklkmfdjjfoaaDoor
open Go.RowKit
set_option linter.unusedVariables false

theorem blank_step {w wr : World} {B n k : Nat} (hlt : k < n) (h : RI wr B n (fun i => if i < k then -1 else 0)) (hb : Below w.heap.size w wr) (hB : w.heap.size ≤ B) :
    RI (wr.setCell ⟨B, k, none⟩ (.int .i64 (-1))) B n (fun i => if i < k + 1 then -1 else 0) ∧ Below w.heap.size w (wr.setCell ⟨B, k, none⟩ (.int .i64 (-1))) := by
  refine ⟨(h.put k (-1) (fun i hi => ?_)).1, hb.setCell (by simpa using hB) _⟩
  split <;> split <;> (try split) <;> omega

set_option maxHeartbeats 1000000 in
theorem blank (n : Nat) (w : World) (hn : n ≤ 1048576) :
    Calls Tryd.prog 59 #[.int .i64 n] w fun e w' => ∃ B, e = .returned (.slice (some ⟨B, 0, none⟩) n n) ∧ w.heap.size ≤ B ∧ RI w' B n (fun _ => -1) ∧ Below w.heap.size w w' := by
  obtain ⟨i0, hi, hz0, hz1, hz2⟩ := info_parts Tryd.infInts
  have hb2 : i0.bytes * n ≤ 281474976710656 := by rw [hz2]; omega
  have hml : n ≤ maxLen := by unfold maxLen; omega
  go_enter Tryd.func59, Tryd.ntmps59
  go_wp2_with (first | (at_make; refine wpList_make_full _ rfl _ _ 24 rfl w.heap.size 3 i0 (.int .i64 0) 1 Tryd.underlying24 hi hz0 hz1 .i64 .i64 _ _ n rfl rfl (by omega) (by omega) hb2 hml (Nat.le_refl _) ?_; intro w1 hown hgrow))
  have hown0 : RI w1 w.heap.size n (fun i => if i < 0 then -1 else 0) := by
    have e : (madeCells (Value.int .i64 0).cells (n * 1)).toList = fl n (fun i => if i < 0 then -1 else 0) := by
      rw [Nat.mul_one]; refine (toList_madeCells_one _ _).trans ?_
      apply List.ext_getElem?
      intro j
      by_cases hj : j < n
      · rw [fl_get n _ j hj]; simp [hj]
      · rw [List.getElem?_eq_none (by simp; omega), List.getElem?_eq_none (by rw [fl_len]; omega)]
    unfold RI
    rw [← e]; exact Row.of hown
  have hbel : Below w.heap.size w w1 := (Below.refl _ _).grown hgrow (Nat.le_refl _) (by simp)
  clear hown hgrow hi hz0 hz1 hz2 hb2 hml
  go_loopw [9] (fun i wr => ∃ k : Nat, k ≤ n ∧ i = .int .i64 k ∧ RI wr w.heap.size n (fun i => if i < k then -1 else 0) ∧ Below w.heap.size w wr) (fun i _ => n - (intOf i).toNat)
  case atStart => exact ⟨0, by omega, rfl, hown0, hbel⟩
  case round =>
    obtain ⟨k, hk, rfl, hown, hb⟩ := hrel
    clear hown0 hbel
    by_cases hlt : k < n
    · have hst := blank_step hlt hown hb (Nat.le_refl _)
      have hcl := hown.cell k hlt
      have hfz := hown.free k
      have HS := hid hst
      clear hst hb hown
      go_wp2
      have R := HS.out
      exact ⟨⟨k + 1, by omega, by go_num, R.1, R.2⟩, by simp [intOf]; omega⟩
    · obtain rfl : k = n := by omega
      have HB := hid hb
      have HO := hid hown
      clear hb hown
      go_wp2
      go_ret
      exact ⟨_, rfl, Nat.le_refl _, HO.out.congr (fun i hi => by simp [hi]), HB.out⟩

/-- The three lists as the program holds them. -/
def planV (A B C n : Nat) : Value := .agg #[.slice (some ⟨A, 0, none⟩) n n, .slice (some ⟨B, 0, none⟩) n n, .slice (some ⟨C, 0, none⟩) n n]

theorem endT (A B C n t pc : Nat) (en el : Nat → Int) (w : World) (hn : n ≤ 1048576) (ht : t < n) (hAB : A ≠ B) (hA : RI w A n en) (hB : RI w B n el) (hel : el t = -1 ∨ ∃ j : Nat, el t = j ∧ j < n) :
    Calls Tryd.prog 64 #[planV A B C n, .int .i64 t, .int .i64 pc] w fun e w' => e = .returned (.tuple #[]) ∧ RI w' A n (fun i => if i = t ∨ (i : Int) = el t then (pc : Int) else en i) ∧ Kept (fun k => k = A) w w' := by
  unfold planV
  have hAl := hA.lt
  have hBl := hB.lt
  obtain ⟨o, ho⟩ : ∃ o, o = Obj.cells #[Value.slice (some ⟨A, 0, none⟩) n n, .slice (some ⟨B, 0, none⟩) n n, .slice (some ⟨C, 0, none⟩) n n] 90 := ⟨_, rfl⟩
  have k0 := Kept.alloc (fun k => k = A) w o
  have hA1 := hA.kept (Kept.alloc (fun _ => False) w o) (fun x => x)
  have hB1 := hB.kept (Kept.alloc (fun _ => False) w o) (fun x => x)
  have hAn : ¬ A = w.heap.size := by omega
  have hBn : ¬ B = w.heap.size := by omega
  have g1 : (w.alloc o).cell? ⟨A, t, none⟩ = some (.int .i64 (en t)) := hA1.cell t ht
  have g2 : (w.alloc o).frozen? ⟨A, t, none⟩ = false := hA1.free t
  have P1 := hA1.put (g := fun i => if i = t then (pc : Int) else en i) t pc (fun i hi => rfl)
  have g3 : ((w.alloc o).setCell ⟨A, t, none⟩ (.int .i64 pc)).cell? ⟨B, t, none⟩ = some (.int .i64 (el t)) := (hB1.kept P1.2 (fun x => hAB x.symm)).cell t ht
  have hp0 : (w.alloc o).cell? ⟨w.heap.size, 0, none⟩ = some (.slice (some ⟨A, 0, none⟩) n n) := by rw [ho, World.cell?_alloc_new]; rfl
  have hp1 : (w.alloc o).cell? ⟨w.heap.size, 1, none⟩ = some (.slice (some ⟨B, 0, none⟩) n n) := by rw [ho, World.cell?_alloc_new]; rfl
  have g4 : ((w.alloc o).setCell ⟨A, t, none⟩ (.int .i64 pc)).cell? ⟨w.heap.size, 0, none⟩ = some (.slice (some ⟨A, 0, none⟩) n n) := P1.2.cell hp0 (fun x => hAn x.symm)
  have g5 : ((w.alloc o).setCell ⟨A, t, none⟩ (.int .i64 pc)).cell? ⟨w.heap.size, 1, none⟩ = some (.slice (some ⟨B, 0, none⟩) n n) := P1.2.cell hp1 (fun x => hAn x.symm)
  have HP := hid P1
  have HK := hid k0
  rcases hel with hel | ⟨j, hel, hj⟩
  · rw [hel] at g3
    have HE := hid hel
    subst ho
    clear hA1 hB1 hp0 hp1 hA hB P1 k0 hel hAB hAl hBl hAn hBn
    go_enter Tryd.func64, Tryd.ntmps64
    go_wp2_with fail
    go_end0
    refine ⟨rfl, HP.out.1.congr (fun i hi => ?_), HK.out.trans HP.out.2⟩
    rw [HE.out]
    have : ¬ (i : Int) = -1 := by omega
    simp [this]
  · rw [hel] at g3
    have HE := hid hel
    have P2 := HP.out.1.put (g := fun i => if i = t ∨ (i : Int) = el t then (pc : Int) else en i) j pc (fun i hi => by
      rw [hel]
      by_cases e : i = j
      · subst e; simp
      · have : ¬ (i : Int) = (j : Int) := by omega
        simp [e, this])
    have g6 := HP.out.1.cell j hj
    have g7 := HP.out.1.free j
    have HP2 := hid P2
    have hjb : ((j : Int) == -1) = false := by simp
    have hjn : ((j : Int) != -1) = true := by simp
    subst ho
    clear hA1 hB1 hp0 hp1 hA hB P1 P2 k0 hel hAB hAl hBl hAn hBn
    go_enter Tryd.func64, Tryd.ntmps64
    go_wp2_with fail
    go_end0
    exact ⟨rfl, HP2.out.1, (HK.out.trans HP.out.2).trans HP2.out.2⟩
end Go.Proofs.YtfcklkmfdjjfoaaDoor

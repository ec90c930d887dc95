/-
  The walks over place and otherwise.
-/
import Derived.Test.YtfcklkmfdjjfoaaAt
import Derived.Test.YtfcklkmfdjjfoaaSort
import Derived.Test.YtfcklkmfdjjfoaaGp
namespace Go.Proofs.Ytfcklkmfdjjfoaa
open Go.RowKit
set_option linter.unusedVariables false

/-- A label's place. -/
def plc (O : Nat → Int) (n : Nat) (q : Int) : Int := if q = -1 then n else if O q.toNat = 3 then q + 1 else enF O n q.toNat + 1
/-- Where a branch to the label number a goes. -/
def brn (O : Nat → Int) (n i : Nat) (a : Int) : List Int := if 0 ≤ a ∧ a < (labs O i).length then [plc O n ((labs O i).getD a.toNat (-1))] else []
/-- Where an if goes that is not taken. -/
def oth (O : Nat → Int) (n i : Nat) : Int := if elF O n i = -1 then enF O n i else elF O n i + 1
/-- All places. -/
def pls (O : Nat → Int) (n i : Nat) (c a : Int) (l : List Int) : List Int :=
  if c = 0 then [] else if c = 4 then [(i : Int) + 1, oth O n i] else if c = 5 then [enF O n i] else if c = 8 then ((i : Int) + 1) :: brn O n i a
  else if c = 7 then brn O n i a else if c = 9 then l.flatMap (brn O n i) else if c = 10 then [(n : Int)] else [(i : Int) + 1]
/-- What Next answers. -/
def nxtV (O : Nat → Int) (n : Nat) (pc : Int) (x : Inx) : List Int := if (res O n 0).1 = 0 ∧ 0 ≤ pc ∧ pc < n then nub (pls O n pc.toNat x.c x.a x.l) else []

set_option maxRecDepth 100000 in
set_option maxHeartbeats 1000000 in
theorem place (A B C b off n cap : Nat) (xs : List Inx) (q : Int) (w : World) (hn : n ≤ 1048576) (hcap : n ≤ cap) (hq0 : -1 ≤ q) (hq1 : q < n) (hc : ∀ j, j < n → w.cell? ⟨b, off + j * 3, none⟩ = some (.int .u8 (opF xs j))) (hr : ∀ j, j < n → 0 ≤ opF xs j ∧ opF xs j ≤ 255) (hA : RI w A n (enF (opF xs) n)) :
    Calls Try.prog 21 #[planV A B C n, .slice (some ⟨b, off, none⟩) n cap, .int .i64 q] w fun e w' => e = .returned (.int .i64 (plc (opF xs) n q)) ∧ Below w.heap.size w w' := by
  unfold planV
  obtain ⟨op, hop⟩ : ∃ op, op = Obj.cells #[Value.slice (some ⟨A, 0, none⟩) n n, .slice (some ⟨B, 0, none⟩) n n, .slice (some ⟨C, 0, none⟩) n n] 46 := ⟨_, rfl⟩
  have kf := Kept.alloc (fun _ => False) w op
  have hA1 := hA.kept kf (fun x => x)
  have p0 : (w.alloc op).cell? ⟨w.heap.size, 0, none⟩ = some (.slice (some ⟨A, 0, none⟩) n n) := by rw [hop, World.cell?_alloc_new]; rfl
  have HB0 := hid ((Below.refl w.heap.size w).alloc (Nat.le_refl _) op)
  by_cases hq : q = -1
  · subst hq
    subst hop
    clear hA hA1 hc kf hr
    go_enter Try.func21, Try.ntmps21
    go_wp2_with fail
    go_ret
    exact ⟨rfl, HB0.out⟩
  obtain ⟨j, rfl⟩ : ∃ j : Nat, q = (j : Int) := ⟨q.toNat, by omega⟩
  have hj : j < n := by omega
  have hv : plc (opF xs) n (j : Int) = if opF xs j = 3 then (j : Int) + 1 else enF (opF xs) n j + 1 := by unfold plc; rw [if_neg hq, Int.toNat_natCast]
  rw [hv]
  have c1 : (w.alloc op).cell? ⟨b, off + j * 3, none⟩ = some (.int .u8 (opF xs j)) := kf.cell (hc j hj) (fun x => x)
  have c2 : (w.alloc op).cell? ⟨A, j, none⟩ = some (.int .i64 (enF (opF xs) n j)) := hA1.cell j hj
  have jb : ((j : Int) == -1) = false := by simp
  have hrr := enF_range (O := opF xs) n j
  have hcr := hr j hj
  subst hop
  clear hA hA1 hc kf hq hv hr
  by_cases h3 : opF xs j = 3
  · rw [if_pos h3]
    rw [h3] at c1
    generalize enF (opF xs) n j = ev at *
    go_enter Try.func21, Try.ntmps21
    go_wp2_with fail
    go_ret
    refine ⟨?_, HB0.out⟩
    rfl
  · rw [if_neg h3]
    have h3b : (opF xs j == 3) = false := by simpa using h3
    generalize enF (opF xs) n j = ev at *
    generalize opF xs j = cj at *
    go_enter Try.func21, Try.ntmps21
    go_wp2_with fail
    go_ret
    exact ⟨rfl, HB0.out⟩

set_option maxRecDepth 100000 in
set_option maxHeartbeats 1000000 in
theorem otherwise (A B C n j : Nat) (O : Nat → Int) (w : World) (hn : n ≤ 1048576) (hj : j < n) (hA : RI w A n (enF O n)) (hB : RI w B n (elF O n)) :
    Calls Try.prog 22 #[planV A B C n, .int .i64 j] w fun e w' => e = .returned (.int .i64 (oth O n j)) ∧ Below w.heap.size w w' := by
  unfold planV
  obtain ⟨op, hop⟩ : ∃ op, op = Obj.cells #[Value.slice (some ⟨A, 0, none⟩) n n, .slice (some ⟨B, 0, none⟩) n n, .slice (some ⟨C, 0, none⟩) n n] 46 := ⟨_, rfl⟩
  have kf := Kept.alloc (fun _ => False) w op
  have c2 := (hA.kept kf (fun x => x)).cell j hj
  have c3 := (hB.kept kf (fun x => x)).cell j hj
  have p0 : (w.alloc op).cell? ⟨w.heap.size, 0, none⟩ = some (.slice (some ⟨A, 0, none⟩) n n) := by rw [hop, World.cell?_alloc_new]; rfl
  have p1 : (w.alloc op).cell? ⟨w.heap.size, 1, none⟩ = some (.slice (some ⟨B, 0, none⟩) n n) := by rw [hop, World.cell?_alloc_new]; rfl
  have HB0 := hid ((Below.refl w.heap.size w).alloc (Nat.le_refl _) op)
  have hr1 := enF_range (O := O) n j
  have hr2 := elF_range (O := O) n j
  unfold oth
  subst hop
  clear hA hB kf
  generalize enF O n j = ev at *
  generalize elF O n j = lv at *
  by_cases h : lv = -1
  · subst h
    rw [if_pos rfl]
    go_enter Try.func22, Try.ntmps22
    go_wp2_with fail
    go_ret
    exact ⟨rfl, HB0.out⟩
  · rw [if_neg h]
    have hb : (lv != -1) = true := by simpa using h
    have hb' : (lv == -1) = false := by simpa using h
    go_enter Try.func22, Try.ntmps22
    go_wp2_with fail
    go_ret
    exact ⟨rfl, HB0.out⟩
end Go.Proofs.Ytfcklkmfdjjfoaa

/-
  What follows of the table: each row's word finds its opcode, and no other; the list of all rises.
-/
import Derived.Test.YtmbbmlchbnjoiaaDoorPure
namespace Go.Proofs.YtmbbmlchbnjoiaaDoor
set_option linter.unusedVariables false

/-- What is said of a row that is told. -/
def rowFine (c : Int) (x : RefRow) : Bool :=
  decide (findP x.2.1 = (c, true)) && decide (x.1 = c) && decide (x.2.2.2.1.size ≤ 2) && decide (x.2.2.2.2.1.size ≤ 1) && (x.2.2.2.2.2 || (decide (x.2.2.2.1 = ⟨#[]⟩) && decide (x.2.2.2.2.1 = ⟨#[]⟩))) && decide ((opsTo 7).count c = 1)
def allFine (c : Int) : Bool := if (ofV c).2 = true then rowFine c (ofV c).1 else decide ((ofV c).1 = zeroRow)

theorem fine_all : ((List.range 256).all fun (n : Nat) => allFine (n : Int)) = true := by decide +kernel
theorem fine (c : Int) (h0 : 0 ≤ c) (h1 : c ≤ 255) : allFine c = true := by
  obtain ⟨n, rfl⟩ := Int.eq_ofNat_of_zero_le h0
  exact List.all_eq_true.1 fine_all n (List.mem_range.2 (by omega))

theorem fine_row {c k tk : Int} {wd pp ps : ByteArray} {pl : Bool} (h0 : 0 ≤ c) (h1 : c ≤ 255) (h : ofV c = ((k, wd, tk, pp, ps, pl), true)) :
    findP wd = (c, true) ∧ k = c ∧ pp.size ≤ 2 ∧ ps.size ≤ 1 ∧ (pl = true ∨ pp = ⟨#[]⟩ ∧ ps = ⟨#[]⟩) ∧ (opsTo 7).count c = 1 := by
  have hf := fine c h0 h1
  unfold allFine rowFine at hf
  rw [h] at hf
  simp only [if_true, Bool.and_eq_true, decide_eq_true_eq, Bool.or_eq_true] at hf
  obtain ⟨⟨⟨⟨⟨a, b⟩, c'⟩, d⟩, e⟩, f⟩ := hf
  exact ⟨a, b, c', d, e, f⟩
theorem fine_none {c : Int} {x : RefRow} (h0 : 0 ≤ c) (h1 : c ≤ 255) (h : ofV c = (x, false)) : x = zeroRow := by
  have hf := fine c h0 h1
  unfold allFine at hf
  rw [h] at hf
  simpa using hf
/-- No two opcodes have one word. -/
theorem one_word {c o : Int} {x y : RefRow} (h0 : 0 ≤ c) (h1 : c ≤ 255) (o0 : 0 ≤ o) (o1 : o ≤ 255) (hc : ofV c = (x, true)) (ho : ofV o = (y, true)) (hw : x.2.1 = y.2.1) : c = o := by
  obtain ⟨k, wd, tk, pp, ps, pl⟩ := x
  obtain ⟨k', wd', tk', pp', ps', pl'⟩ := y
  have e1 := (fine_row h0 h1 hc).1
  have e2 := (fine_row o0 o1 ho).1
  simp only at hw
  rw [hw, e2] at e1
  exact (Prod.mk.inj e1).1.symm

theorem rises_all : ((List.range 89).all fun (n : Nat) => decide ((opsTo 7).getD n 0 < (opsTo 7).getD (n + 1) 0)) = true := by decide +kernel
theorem rises (n : Nat) (h : n + 1 < 90) : (opsTo 7).getD n 0 < (opsTo 7).getD (n + 1) 0 :=
  of_decide_eq_true (List.all_eq_true.1 rises_all n (List.mem_range.2 (by omega)))
theorem bytes_all : ((opsTo 7).all fun z => decide (0 ≤ z) && decide (z ≤ 255)) = true := by decide +kernel
theorem all_len : (opsTo 7).length = 90 := by decide +kernel

/-- How often c stands among the first i opcodes. -/
def cnt (c : Int) (i : Nat) : Nat := ((opsTo 7).take i).count c
theorem cnt_succ (c : Int) (i : Nat) (h : i < 90) : cnt c (i + 1) = cnt c i + if (opsTo 7).getD i 0 = c then 1 else 0 := by
  have hl : i < (opsTo 7).length := by rw [all_len]; exact h
  unfold cnt
  rw [List.take_succ_eq_append_getElem hl, List.count_append, List.getD, List.getElem?_eq_getElem hl]
  simp [List.count_singleton]
theorem cnt_le (c : Int) (i : Nat) : cnt c i ≤ 90 := by
  unfold cnt
  refine Nat.le_trans List.count_le_length ?_
  rw [List.length_take, all_len]; omega
theorem cnt_all (c : Int) : cnt c 90 = (opsTo 7).count c := by
  unfold cnt
  rw [List.take_of_length_le (by rw [all_len]; omega)]
end Go.Proofs.YtmbbmlchbnjoiaaDoor

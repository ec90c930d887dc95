/-
  Words: what the program finds, kind by kind, and what the document finds, opcode by opcode, is one look into one list.
-/
import Derived.Test.YtmbbmlchbnjoiaaDoorPure
namespace Go.Proofs.YtmbbmlchbnjoiaaDoor
set_option linter.unusedVariables false

/-- A look into a list of words. -/
def look (s : ByteArray) : List (ByteArray × Int) → Int × Bool
  | [] => (0, false)
  | x :: r => if x.1 = s then (x.2, true) else look s r

theorem look_no (s : ByteArray) : ∀ l, (look s l).2 = false → look s l = (0, false)
  | [], _ => rfl
  | x :: r, h => by
    unfold look at h ⊢
    split at h
    · simp at h
    · rename_i hx
      rw [if_neg hx]
      exact look_no s r h
theorem look_app (s : ByteArray) (m : List (ByteArray × Int)) : ∀ l, look s (l ++ m) = if (look s l).2 = true then ((look s l).1, true) else look s m
  | [] => by simp [look]
  | x :: r => by
    simp only [List.cons_append, look]
    split
    · simp
    · exact look_app s m r

/-- The words of a kind, each with what stands ahead. -/
def enum (a : ByteArray) : Int → List ByteArray → List (ByteArray × Int)
  | _, [] => []
  | f, p :: r => (a ++ p, f) :: enum a (f + 1) r

theorem ahead_iff (s a p : ByteArray) (h : Lib.hasPrefix s.data.toList a.data.toList = true) : a ++ p = s ↔ p = ⟨(Lib.trimPrefix s.data.toList a.data.toList).toArray⟩ := by
  have hp : a.data.toList <+: s.data.toList := List.isPrefixOf_iff_prefix.1 h
  obtain ⟨t, ht⟩ := hp
  have htr : Lib.trimPrefix s.data.toList a.data.toList = t := by
    unfold Lib.trimPrefix
    rw [if_pos h, ← ht]
    simp
  rw [htr]
  constructor
  · intro e
    apply ba_ext
    have := congrArg (fun x : ByteArray => x.data.toList) e
    simp only [ba_app] at this
    rw [← ht] at this
    simpa using List.append_cancel_left this
  · intro e
    subst e
    apply ba_ext
    rw [ba_app, ← ht]
theorem ahead_no (s a p : ByteArray) (h : Lib.hasPrefix s.data.toList a.data.toList = false) : a ++ p ≠ s := by
  intro e
  subst e
  rw [ba_app] at h
  have : a.data.toList.isPrefixOf (a.data.toList ++ p.data.toList) = true := List.isPrefixOf_iff_prefix.2 ⟨_, rfl⟩
  unfold Lib.hasPrefix at h
  rw [h] at this
  cases this

theorem find_yes (s a : ByteArray) (h : Lib.hasPrefix s.data.toList a.data.toList = true) : ∀ (ps : List ByteArray) (f : Int), findV f ⟨(Lib.trimPrefix s.data.toList a.data.toList).toArray⟩ ps = look s (enum a f ps)
  | [], _ => rfl
  | p :: r, f => by
    simp only [findV, enum, look]
    by_cases e : p = ⟨(Lib.trimPrefix s.data.toList a.data.toList).toArray⟩
    · rw [if_pos e, if_pos ((ahead_iff s a p h).2 e)]
    · rw [if_neg e, if_neg (fun e' => e ((ahead_iff s a p h).1 e'))]
      exact find_yes s a h r (f + 1)
theorem find_no (s a : ByteArray) (h : Lib.hasPrefix s.data.toList a.data.toList = false) : ∀ (ps : List ByteArray) (f : Int), look s (enum a f ps) = (0, false)
  | [], _ => rfl
  | p :: r, f => by
    simp only [enum, look]
    rw [if_neg (ahead_no s a p h)]
    exact find_no s a h r (f + 1)
theorem kind_look (f : Int) (a ws s : ByteArray) : kindFind f a ws s = look s (enum a f (bpieces ws)) := by
  unfold kindFind
  cases h : Lib.hasPrefix s.data.toList a.data.toList with
  | true => rw [if_pos rfl]; exact find_yes s a h _ f
  | false => rw [if_neg (by simp)]; exact (find_no s a h _ f).symm

/-- The words of the kinds from i on, n of them. -/
def wordsFrom : Nat → Nat → List (ByteArray × Int)
  | 0, _ => []
  | n + 1, i => enum (kA i) (kF i) (bpieces (kW i)) ++ wordsFrom n (i + 1)
theorem findFrom_look (s : ByteArray) : ∀ n i, findFrom n i s = look s (wordsFrom n i)
  | 0, _ => rfl
  | n + 1, i => by
    simp only [findFrom, wordsFrom]
    rw [look_app, kind_look, findFrom_look s n (i + 1)]

/-- The document's words, opcode by opcode, n of them from c on. -/
def refWords : Nat → Int → List (ByteArray × Int)
  | 0, _ => []
  | n + 1, c => if (refD refTab c).2 = true then ((refD refTab c).1.2.1, c) :: refWords n (c + 1) else refWords n (c + 1)
/-- What the document's search tells of a word, n opcodes from c on. -/
def refFrom : Nat → Int → ByteArray → Int × Bool
  | 0, _, _ => (0, false)
  | n + 1, c, s => if (refD refTab c).2 = true ∧ (refD refTab c).1.2.1 = s then (c, true) else refFrom n (c + 1) s
theorem refFrom_look (s : ByteArray) : ∀ n c, refFrom n c s = look s (refWords n c)
  | 0, _ => rfl
  | n + 1, c => by
    simp only [refFrom, refWords]
    by_cases h : (refD refTab c).2 = true
    · rw [if_pos h]
      simp only [look, h, true_and]
      split
      · rfl
      · exact refFrom_look s n (c + 1)
    · rw [if_neg h, if_neg (fun e => h e.1)]
      exact refFrom_look s n (c + 1)

theorem words_same : wordsFrom 7 0 = refWords 256 0 := by decide +kernel
/-- The program finds what the document finds. -/
theorem find_same (s : ByteArray) : findP s = refFrom 256 0 s := by
  unfold findP
  rw [findFrom_look, words_same, ← refFrom_look]

/-- The document's opcodes below n. -/
def refOps (n : Nat) : List Int := ((List.range n).filter fun (c : Nat) => (refD refTab (c : Int)).2).map fun (c : Nat) => (c : Int)
theorem refOps_succ (n : Nat) : refOps (n + 1) = refOps n ++ if (refD refTab (n : Int)).2 = true then [(n : Int)] else [] := by
  unfold refOps
  rw [List.range_succ, List.filter_append, List.map_append]
  congr 1
  by_cases h : (refD refTab (n : Int)).2 = true
  · rw [if_pos h]; simp [h]
  · rw [if_neg h]; simp [h]
theorem refOps_len (n : Nat) : (refOps n).length ≤ n := by
  unfold refOps
  rw [List.length_map]
  exact Nat.le_trans (List.length_filter_le _ _) (by simp)
theorem all_same : refOps 256 = opsTo 7 := by decide +kernel
end Go.Proofs.YtmbbmlchbnjoiaaDoor

/-
  The walk over EqInts.
-/
import Derived.Test.YtedkmfklobipaaaDoorList
import Derived.BigQuiet
namespace Go.Proofs.YtedkmfklobipaaaDoor
open Go.RowKit
set_option linter.unusedVariables false

theorem below_kept {B : Nat} {w w1 w2 : World} {S : Nat → Prop} (h : Below B w w1) (hk : Kept S w1 w2) (hB : B ≤ w1.heap.size) (hs : ∀ k, S k → B ≤ k) : Below B w w2 :=
  ⟨hk.os.trans h.os, hk.tape.trans h.tape, hk.output.trans h.output, Nat.le_trans h.size hk.size, fun k hx => (hk.block k (by omega) (fun x => by have := hs k x; omega)).trans (h.block k hx)⟩


/-- 'append(l, z)': what is kept, and where it lies. -/
theorem app_intK (w : World) {ops : Array Oper} {rest : List Oper} {o : Oper} {a : Act} {Q : Exit → Act → World → Prop} (hgd : o.guard = none)
    (s x : Operand) (ho : o.op = Op.call { callee := Callee.builtin Builtin.append, args := #[s, x], argTypes := #[39, 39] })
    (base : Nat) (v : Value) (l : List Int) (hs : a.eval s = v) (hown : LI w base v l) (hbase : base ≤ w.heap.size) (ad : Addr) (z : Int) (hx : a.eval x = .slice (some ad) 1 1) (hu : w.cell? (ad.add 0) = some (.int .i64 z))
    (hlen : l.length ≤ 1073741824)
    (h : ∀ (B cap k : Nat) (w' : World), k = (l ++ [z]).length → LI w' base (.slice (some ⟨B, 0, none⟩) k cap) (l ++ [z]) → (v.ownBlock = some B ∨ w.heap.size ≤ B) → Kept (fun k => v.ownBlock = some k) w w' → wpList Tryd.prog ops Q rest (a.put o.dst (.slice (some ⟨B, 0, none⟩) k cap)) w') :
    wpList Tryd.prog ops Q (o :: rest) a w := by
  obtain ⟨i0, hi, hz0, hz1, hz2⟩ := info_parts Tryd.infInts
  refine app_cell w hgd s x 39 ho 3 i0 (.int .i64 0) 8 Tryd.underlying39 hi hz0 hz1 hz2 rfl v l.length (l.map (Value.int .i64)) hs (own_mono hown (Nat.zero_le _)) ad (.int .i64 z) hx hu rfl (by unfold maxLen; omega) (by omega) ?_
  intro B cap w' hrow hcase
  have hB : base ≤ B := by
    rcases hcase with ⟨rfl, _⟩ | ⟨h1, _⟩
    · exact (LI.block hown rfl).1
    · omega
  have hfin := h B cap (l.length + 1) w' (by simp) (by
    have := own_of_row hrow hB
    unfold LI
    simpa using this)
  refine hfin ?_ ?_
  · rcases hcase with ⟨rfl, _⟩ | ⟨h1, _⟩
    · exact .inl rfl
    · exact .inr h1
  · rcases hcase with ⟨rfl, h1⟩ | ⟨_, h1⟩
    · exact h1.mono (fun k e => by subst e; rfl)
    · exact h1.mono (fun _ x => x.elim)


set_option maxHeartbeats 1000000 in
theorem eqi_in (b1 o1 b2 o2 n c1 c2 : Nat) (xs ys : List Int) (w : World) (hz : xs.length = n) (hy : ys.length = n) (hn : n ≤ 1099511627776)
    (hc1 : ∀ j, j < n → w.cell? ⟨b1, o1 + j, none⟩ = some (.int .i64 (xs.getD j 0)))
    (hc2 : ∀ j, j < n → w.cell? ⟨b2, o2 + j, none⟩ = some (.int .i64 (ys.getD j 0))) :
    Calls Tryd.prog 29 #[.slice (some ⟨b1, o1, none⟩) n c1, .slice (some ⟨b2, o2, none⟩) n c2] w fun e w' => e = .returned (.bool (decide (xs = ys))) ∧ Kept (fun _ => False) w w' := by
  have hne : ((n : Int) != n) = false := by simp
  go_enter Tryd.func29, Tryd.ntmps29
  go_wp2
  go_loopw [5] (fun i wr => ∃ k m : Nat, k ≤ n ∧ i = .int .i64 k ∧ wr = w.drewN m ∧ xs.take k = ys.take k) (fun i _ => n - (intOf i).toNat)
  case atStart => exact ⟨0, 0, by omega, rfl, rfl, by simp⟩
  case round =>
    obtain ⟨k, m, hk, rfl, rfl, heq⟩ := hrel
    by_cases hlt : k < n
    · have g1 : w.cell? ⟨b1, o1 + k, none⟩ = some (.int .i64 (xs.getD k 0)) := hc1 k hlt
      have g2 : w.cell? ⟨b2, o2 + k, none⟩ = some (.int .i64 (ys.getD k 0)) := hc2 k hlt
      have hstep : xs.getD k 0 = ys.getD k 0 → xs.take (k + 1) = ys.take (k + 1) := fun e => by
        rw [List.getD_eq_getElem?_getD, List.getD_eq_getElem?_getD, List.getElem?_eq_getElem (show k < xs.length by omega), List.getElem?_eq_getElem (show k < ys.length by omega)] at e
        simp only [Option.getD_some] at e
        rw [List.take_succ_eq_append_getElem (show k < xs.length by omega), List.take_succ_eq_append_getElem (show k < ys.length by omega), heq, e]
      have hdiff : xs.getD k 0 ≠ ys.getD k 0 → xs ≠ ys := fun h e => h (by rw [e])
      have HST := hid hstep
      have HDI := hid hdiff
      clear hc1 hc2 heq hstep hdiff
      have hlt' : (k : Int) < (n : Int) := by omega
      generalize xs.getD k 0 = u at *
      generalize ys.getD k 0 = v at *
      by_cases huv : u = v
      · have HS2 := hid (HST.out huv)
        clear HST HDI
        subst huv
        have hb : (u != u) = false := by simp
        have hb' : (u == u) = true := by simp
        go_wp2
        go_quiet (fail)
        go_wp2
        exact ⟨⟨k + 1, m + nq, by omega, by go_num, rfl, HS2.out⟩, by simp [intOf]; omega⟩
      · have hb : (u != v) = true := by simpa using huv
        have hb' : (u == v) = false := by simpa using huv
        have HUV := hid huv
        clear huv
        go_wp2
        go_quiet (fail)
        go_wp2
        go_ret
        exact ⟨by rw [decide_eq_false (HDI.out HUV.out)]; rfl, (Kept.drewN _ w m).trans (Kept.drewN _ _ nq)⟩
    · have hkn : k = n := by omega
      have HE := hid heq
      clear hc1 hc2 heq
      go_wp2
      go_ret
      refine ⟨?_, Kept.drewN _ w m⟩
      have := HE.out
      rw [List.take_of_length_le (by omega), List.take_of_length_le (by omega)] at this
      rw [decide_eq_true this]; rfl

set_option maxHeartbeats 400000 in
theorem eqi_none (a1 a2 : Option Addr) (c1 c2 : Nat) (w : World) :
    Calls Tryd.prog 29 #[.slice a1 0 c1, .slice a2 0 c2] w fun e w' => e = .returned (.bool true) ∧ Kept (fun _ => False) w w' := by
  go_enter Tryd.func29, Tryd.ntmps29
  go_wp2
  refine wp_loop_rounds 1 ?_
  rw [rounds_succ]
  go_wp2
  go_ret
  exact ⟨rfl, Kept.refl _ _⟩

set_option maxHeartbeats 400000 in
theorem eqi_len (a1 a2 : Option Addr) (n1 n2 c1 c2 : Nat) (w : World) (h : n1 ≠ n2) (h1 : n1 ≤ 1099511627776) (h2 : n2 ≤ 1099511627776) :
    Calls Tryd.prog 29 #[.slice a1 n1 c1, .slice a2 n2 c2] w fun e w' => e = .returned (.bool false) ∧ Kept (fun _ => False) w w' := by
  have hb : ((n1 : Int) != n2) = true := by simp; omega
  have hb' : ((n1 : Int) == n2) = false := by simp; omega
  go_enter Tryd.func29, Tryd.ntmps29
  go_wp2
  go_ret
  exact ⟨rfl, Kept.refl _ _⟩

/-- EqInts. -/
theorem eqi (a1 a2 : Option Addr) (n1 n2 c1 c2 : Nat) (xs ys : List Int) (w : World) (h1 : SegI w a1 n1 c1 xs) (h2 : SegI w a2 n2 c2 ys) :
    Calls Tryd.prog 29 #[.slice a1 n1 c1, .slice a2 n2 c2] w fun e w' => e = .returned (.bool (decide (xs = ys))) ∧ Kept (fun _ => False) w w' := by
  obtain ⟨hz1, _, hn1, _, g1⟩ := h1
  obtain ⟨hz2, _, hn2, _, g2⟩ := h2
  by_cases hne : n1 = n2
  · subst hne
    by_cases h0 : n1 = 0
    · subst h0
      refine (eqi_none a1 a2 c1 c2 w).mono fun e w' ⟨he, hw⟩ => ⟨?_, hw⟩
      rw [List.eq_nil_of_length_eq_zero hz1, List.eq_nil_of_length_eq_zero hz2, decide_eq_true rfl]; exact he
    rcases g1 with g1 | ⟨b1, o1, rfl, g1⟩
    · exact absurd g1 h0
    rcases g2 with g2 | ⟨b2, o2, rfl, g2⟩
    · exact absurd g2 h0
    exact eqi_in b1 o1 b2 o2 n1 c1 c2 xs ys w hz1 hz2 hn1 g1 g2
  · refine (eqi_len a1 a2 n1 n2 c1 c2 w hne hn1 hn2).mono fun e w' ⟨he, hw⟩ => ⟨?_, hw⟩
    rw [decide_eq_false (fun e => hne (by rw [← hz1, ← hz2, e]))]; exact he

/-- EqInts of a list and one of two numbers that is laid for it. -/
theorem eq_two (w : World) (base : Nat) (a : Option Addr) (n c : Nat) (l : List Int) (z1 z2 : Int) (h : LI w base (.slice a n c) l) (hl : l.length ≤ 1099511627776) (hr : ∀ z ∈ l, -9223372036854775808 ≤ z ∧ z ≤ 9223372036854775807) (hz : ∀ z ∈ [z1, z2], -9223372036854775808 ≤ z ∧ z ≤ 9223372036854775807) :
    Calls Tryd.prog 29 #[.slice a n c, .slice (some ⟨w.heap.size, 0, none⟩) 2 2] (w.alloc (Obj.cells #[.int .i64 z1, .int .i64 z2] 3)) fun e w' => e = .returned (.bool (decide (l = [z1, z2]))) ∧ Below w.heap.size w w' := by
  have hb := (Below.refl w.heap.size w).alloc (Nat.le_refl _) (Obj.cells #[.int .i64 z1, .int .i64 z2] 3)
  have h1 := (h.seg hr hl).later hb (Nat.le_refl _)
  have h2 : SegI (w.alloc (Obj.cells #[.int .i64 z1, .int .i64 z2] 3)) (some ⟨w.heap.size, 0, none⟩) 2 2 [z1, z2] := by
    refine ⟨rfl, Nat.le_refl _, by omega, hz, .inr ⟨_, _, rfl, fun j hj => ?_⟩⟩
    rw [Nat.zero_add, World.cell?_alloc_new]
    rcases j with _ | _ | j
    · rfl
    · rfl
    · omega
  exact (eqi a _ n 2 c 2 l [z1, z2] _ h1 h2).mono fun e w' ⟨he, hk⟩ => ⟨he, below_kept hb hk (by simp) (fun _ x => x.elim)⟩

theorem eq_two_yes (w : World) (base : Nat) (a : Option Addr) (n c : Nat) (z1 z2 : Int) (h : LI w base (.slice a n c) [z1, z2]) (hz : ∀ z ∈ [z1, z2], -9223372036854775808 ≤ z ∧ z ≤ 9223372036854775807) :
    Calls Tryd.prog 29 #[.slice a n c, .slice (some ⟨w.heap.size, 0, none⟩) 2 2] (w.alloc (Obj.cells #[.int .i64 z1, .int .i64 z2] 3)) fun e w' => e = .returned (.bool true) ∧ Below w.heap.size w w' :=
  (eq_two w base a n c [z1, z2] z1 z2 h (by simp) hz hz).mono fun e w' ⟨he, hb⟩ => ⟨by rw [he, decide_eq_true rfl], hb⟩

/-- An instruction of an opcode alone. -/
abbrev bare (c : Int) : Inx := ⟨c, 0, none, 0, 0, []⟩
theorem bare_at {w : World} {b o : Nat} {c : Int} (h0 : w.cell? ⟨b, o, none⟩ = some (.int .u8 c)) (h1 : w.cell? ⟨b, o + 1, none⟩ = some (.int .i64 0)) (h2 : w.cell? ⟨b, o + 2, none⟩ = some (.slice none 0 0)) (hc : 0 ≤ c ∧ c ≤ 255) : InAt w b o (bare c) :=
  ⟨h0, h1, h2, hc.1, hc.2, by simp, by simp, by simp, fun _ => ⟨rfl, Nat.le_refl _, by simp, by simp, .inl rfl⟩⟩

end Go.Proofs.YtedkmfklobipaaaDoor

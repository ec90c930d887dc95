/-
  A list of numbers, told pages, into the bag.
-/
import Derived.Test.YtedkmfklobipaaaDoorBg
namespace Go.Proofs.YtedkmfklobipaaaDoor
open Go.RowKit
set_option linter.unusedVariables false

section
variable {lo : Nat} {w : World} {GB : Nat} {vI vB vP : Value} {lI lB lP : List Tl}
theorem Kd.row_ne {e es : TypeId} {v : Value} {l : List Tl} (h : Kd e es lo w v l) (he : e ≠ es) {p : Tl} (hp : p ∈ l) {k : Nat} (hk : p.b = some k) : v.ownBlock ≠ some k := by
  intro hv
  obtain ⟨_, c1, h1⟩ := own_lt h.own hv
  rcases h.ok p hp with ⟨B, h2, _, xs, h3⟩ | ⟨h2, _⟩
  · rw [hk] at h2
    obtain rfl := Option.some.inj h2
    obtain ⟨cur, hc, _⟩ := h3.block
    rw [hc] at h1; simp at h1
    exact he h1.2
  · rw [h2] at hk; cases hk

theorem Bg3.addI (h : Bg3 lo w GB vI vB vP lI lB lP) (p : Tl) (hp : p.ok 3 lo w) (hl : p.n ≤ 4096) (hf : ∀ k, p.b = some k → ¬ Bf GB vI vB vP lI lB lP k) (hn : lI.length < 300) :
    Calls Tryd.prog 28 #[.pointer (some ⟨GB, 0, none⟩), .slice p.ad p.n p.c] w fun e w' => e = .returned (.tuple #[]) ∧ ∃ vI', Bg3 lo w' GB vI' vB vP (lI ++ [p]) lB lP ∧ Kept (Bf GB vI vB vP lI lB lP) w w' ∧ ∀ k, Bf GB vI' vB vP (lI ++ [p]) lB lP k → Bf GB vI vB vP lI lB lP k ∨ p.b = some k ∨ w.heap.size ≤ k := by
  refine (add28 GB vI lI.length (lI.map Tl.v) p.ad p.n p.c w hn h.c1 (h.fz 1) h.kI.own (fun e => h.nI GB (.inl e) rfl)).mono ?_
  rintro e w' ⟨rfl, B, cap, hrow, hc1, hf1, hBG, hor, hcs, hk, hfs⟩
  have hlo : lo ≤ w.heap.size := Nat.le_of_lt (Nat.lt_of_le_of_lt h.gb (block_lt_of_cell h.c0))
  have hkI : Kd 3 39 lo w' (.slice (some ⟨B, 0, none⟩) (lI.length + 1) cap) (lI ++ [p]) := by
    refine ⟨?_, fun b hb => ?_, fun q hq => ?_, ?_, fun q hq => ?_⟩
    · rw [List.length_append, List.map_append]
      exact hrow
    · obtain rfl : B = b := by simpa [Value.ownBlock] using hb
      exact hor.elim (h.kI.new B) (fun x => Nat.le_trans hlo x)
    · rcases List.mem_append.1 hq with hq | hq
      · exact (h.kI.ok q hq).kept hk (fun k hk' hx => hx.elim (fun e => h.nI k (.inr ⟨q, hq, hk'⟩) e) (fun e => h.kI.row_ne (by decide) hq hk' e))
      · obtain rfl : q = p := by simpa using hq
        exact hp.kept hk (fun k hk' hx => hf k hk' (hx.elim .inl (fun e => .inr (.inl (.inl e)))))
    · rw [List.pairwise_append]
      refine ⟨h.kI.inj, List.pairwise_singleton _ _, fun a ha b hb k h1 h2 => ?_⟩
      obtain rfl : b = p := by simpa using hb
      exact hf k h2 (.inr (.inl (.inr ⟨a, ha, h1⟩)))
    · rcases List.mem_append.1 hq with hq | hq
      · exact h.kI.len q hq
      · obtain rfl : q = p := by simpa using hq
        exact hl
  have hout : ∀ k, Kf (.slice (some ⟨B, 0, none⟩) (lI.length + 1) cap) (lI ++ [p]) k → Kf vI lI k ∨ p.b = some k ∨ w.heap.size ≤ k := fun k hk => by
    rcases hk with hk | ⟨q, hq, hk⟩
    · obtain rfl : B = k := by simpa [Value.ownBlock] using hk
      exact hor.elim (fun x => .inl (.inl x)) (fun x => .inr (.inr x))
    · rcases List.mem_append.1 hq with hq | hq
      · exact .inl (.inr ⟨q, hq, hk⟩)
      · obtain rfl : q = p := by simpa using hq
        exact .inr (.inl hk)
  have hGl := block_lt_of_cell h.c0
  simp only at hGl
  refine ⟨rfl, _, ⟨h.gb, (hcs 0 (by omega)).trans h.c0, hc1, (hcs 15 (by omega)).trans h.c15, fun j a b c d => (hcs j c).trans (h.cz j a b c d), fun j => (hfs j).trans (h.fz j), hkI,
    h.kB.kept hk (fun k hk' hx => hx.elim (fun e => h.nB k hk' e) (fun e => h.ib (.inl e) hk')), h.kP.kept hk (fun k hk' hx => hx.elim (fun e => h.nP k hk' e) (fun e => h.ip (.inl e) hk')), fun k hk' => ?_, h.nB, h.nP, h.pb⟩,
    hk.mono (fun k hk => hk.elim .inl (fun e => .inr (.inl (.inl e)))), fun k hk => ?_⟩
  · rcases hout k hk' with x | x | x
    · exact h.nI k x
    · intro e; exact hf k x (.inl e)
    · omega
  · rcases hk with x | x | x | x
    · exact .inl (.inl x)
    · exact (hout k x).imp (fun x => .inr (.inl x)) id
    · exact .inl (.inr (.inr (.inl x)))
    · exact .inl (.inr (.inr (.inr x)))

theorem row_page {q : Nat} {f : Nat → Int} {i : Nat} (h : w.heap[q]? = some (Obj.cells (pageC f i) 5)) : Row w 5 q 4096 4096 (pageC f i).toList := by
  refine ⟨by simp [pageC_size], .inr ⟨q, 4096, pageC f i, rfl, Nat.zero_le _, h, Nat.le_refl _, by unfold maxLen; omega, by rw [pageC_size], ?_⟩⟩
  rw [List.take_of_length_le]
  simp [pageC_size]
/-- A told page. -/
def tlP (QB : List Nat) (i : Nat) : Tl := ⟨some (QB.getD i 0), 4096, 4096⟩

theorem Bg3.addP (h : Bg3 lo w GB vI vB vP lI lB lP) {L N base : Nat} {QB : List Nat} {f : Nat → Int} (hg : Pgs w base L N QB f) (hl : QB.length = N) (hN : N ≤ 4096) (hlo : lo ≤ base) (hfL : ¬ Bf GB vI vB vP lI lB lP L) (hfQ : ∀ q ∈ QB, ¬ Bf GB vI vB vP lI lB lP q) (hn : lP.length < 300) (hk : lB.length + N ≤ 300) :
    Calls Tryd.prog 25 #[.pointer (some ⟨GB, 0, none⟩), .slice (some ⟨L, 0, none⟩) N N] w fun e w' => e = .returned (.tuple #[]) ∧ ∃ vB' vP' lB' lP', Bg3 lo w' GB vI vB' vP' lI lB' lP' ∧ lB'.length = lB.length + N ∧ lP'.length = lP.length + 1 ∧ Kept (Bf GB vI vB vP lI lB lP) w w' ∧
      ∀ k, Bf GB vI vB' vP' lI lB' lP' k → Bf GB vI vB vP lI lB lP k ∨ k = L ∨ k ∈ QB ∨ w.heap.size ≤ k := by
  have hq : Bq w GB vP lP.length (lP.map Tl.v) vB lB.length (lB.map Tl.v) := ⟨h.c15, h.c0, h.fz 15, h.fz 0, h.kP.own, h.kB.own, fun e => h.nP GB (.inl e) rfl, fun e => h.nB GB (.inl e) rfl⟩
  have hQ : ∀ i, i < N → QB[i]? = some (QB.getD i 0) ∧ QB.getD i 0 ∈ QB := fun i hi => by
    have : QB[i]? = some (QB.getD i 0) := by rw [List.getD_eq_getElem?_getD, List.getElem?_eq_getElem (by omega)]; rfl
    exact ⟨this, List.mem_of_getElem? this⟩
  have hcell : ∀ i, i < N → w.cell? ⟨L, i, none⟩ = some (sv4 (QB.getD i 0)) := fun i hi => by
    rw [hg.row.cell i hi, List.getElem?_append_left (by simp; omega), List.getElem?_map, (hQ i hi).1]; rfl
  have hFa : ∀ k, Fa GB vP vB k → Bf GB vI vB vP lI lB lP k := fun k hk => hk.elim .inl (fun hk => hk.elim (fun e => .inr (.inr (.inr (.inl e)))) (fun e => .inr (.inr (.inl (.inl e)))))
  refine (Go.Proofs.YtedkmfklobipaaaDoor.addP GB vP lP.length (lP.map Tl.v) vB lB.length (lB.map Tl.v) L N (fun i => QB.getD i 0) w hq hn hk hcell (fun x => hfL (hFa L x))).mono ?_
  rintro e w' ⟨rfl, v', u', hq', hkp, hnv, hnu, hcs, hfs⟩
  have hlw : lo ≤ w.heap.size := Nat.le_of_lt (Nat.lt_of_le_of_lt h.gb (block_lt_of_cell h.c0))
  have hGl := block_lt_of_cell h.c0
  simp only at hGl
  have hpg : ∀ i, i < N → w.heap[QB.getD i 0]? = some (Obj.cells (pageC f i) 5) ∧ lo ≤ QB.getD i 0 := fun i hi => ⟨(hg.pg i _ (hQ i hi).1).2, Nat.le_trans hlo (hg.pg i _ (hQ i hi).1).1⟩
  have hLlt := hg.row.lt
  have hkP : Kd 41 22 lo w' v' (lP ++ [⟨some L, N, N⟩]) := by
    refine ⟨?_, fun b hb => ?_, fun q hq => ?_, ?_, fun q hq => ?_⟩
    · rw [List.length_append, List.map_append]
      exact hq'.ov
    · exact (hnv b hb).elim (h.kP.new b) (fun x => Nat.le_trans hlw x)
    · rcases List.mem_append.1 hq with hq | hq
      · exact (h.kP.ok q hq).kept hkp (fun k hk' hx => hx.elim (fun e => h.nP k (.inr ⟨q, hq, hk'⟩) e) (fun hx => hx.elim (fun e => h.kP.row_ne (by decide) hq hk' e) (fun e => h.pb k e q hq hk')))
      · obtain rfl : q = ⟨some L, N, N⟩ := by simpa using hq
        exact .inl ⟨L, rfl, Nat.le_trans hlo hg.lo, _, hg.row.kept hkp (fun x => hfL (hFa L x))⟩
    · rw [List.pairwise_append]
      refine ⟨h.kP.inj, List.pairwise_singleton _ _, fun a ha b hb k h1 h2 => ?_⟩
      obtain rfl : b = ⟨some L, N, N⟩ := by simpa using hb
      obtain rfl : L = k := Option.some.inj h2
      exact hfL (.inr (.inr (.inr (.inr ⟨a, ha, h1⟩))))
    · rcases List.mem_append.1 hq with hq | hq
      · exact h.kP.len q hq
      · obtain rfl : q = ⟨some L, N, N⟩ := by simpa using hq
        exact hN
  have hkB : Kd 5 41 lo w' u' (lB ++ (List.range N).map (tlP QB)) := by
    refine ⟨?_, fun b hb => ?_, fun q hq => ?_, ?_, fun q hq => ?_⟩
    · rw [List.length_append, List.map_append, List.length_map, List.length_range, List.map_map]
      exact hq'.ou
    · exact (hnu b hb).elim (h.kB.new b) (fun x => Nat.le_trans hlw x)
    · rcases List.mem_append.1 hq with hq | hq
      · exact (h.kB.ok q hq).kept hkp (fun k hk' hx => hx.elim (fun e => h.nB k (.inr ⟨q, hq, hk'⟩) e) (fun hx => hx.elim (fun e => h.bp (.inr ⟨q, hq, hk'⟩) (.inl e)) (fun e => h.kB.row_ne (by decide) hq hk' e)))
      · obtain ⟨i, hi, rfl⟩ := List.mem_map.1 hq
        have hi' : i < N := by simpa using hi
        exact .inl ⟨_, rfl, (hpg i hi').2, _, (row_page (hpg i hi').1).kept hkp (fun x => hfQ _ (hQ i hi').2 (hFa _ x))⟩
    · rw [List.pairwise_append]
      refine ⟨h.kB.inj, ?_, fun a ha b hb k h1 h2 => ?_⟩
      · rw [List.pairwise_map]
        refine List.pairwise_iff_getElem.2 (fun i j hi hj hij B h1 h2 => ?_)
        simp only [List.length_range] at hi hj
        simp only [List.getElem_range, tlP, Option.some.injEq] at h1 h2
        have e1 := (hQ i hi).1
        have e2 := (hQ j hj).1
        rw [h1] at e1
        rw [h2] at e2
        have hnd := List.pairwise_iff_getElem.1 hg.nd i j (by omega) (by omega) hij
        rw [List.getElem?_eq_getElem (by omega)] at e1 e2
        exact hnd ((Option.some.inj e1).trans (Option.some.inj e2).symm)
      · obtain ⟨i, hi, rfl⟩ := List.mem_map.1 hb
        have hi' : i < N := by simpa using hi
        have : QB.getD i 0 = k := Option.some.inj h2
        subst this
        exact hfQ _ (hQ i hi').2 (.inr (.inr (.inl (.inr ⟨a, ha, h1⟩))))
    · rcases List.mem_append.1 hq with hq | hq
      · exact h.kB.len q hq
      · obtain ⟨i, hi, rfl⟩ := List.mem_map.1 hq
        exact Nat.le_refl _
  have oP : ∀ k, Kf v' (lP ++ [⟨some L, N, N⟩]) k → Kf vP lP k ∨ k = L ∨ w.heap.size ≤ k := fun k hk => by
    rcases hk with hk | ⟨q, hq, hk⟩
    · exact (hnv k hk).elim (fun x => .inl (.inl x)) (fun x => .inr (.inr x))
    · rcases List.mem_append.1 hq with hq | hq
      · exact .inl (.inr ⟨q, hq, hk⟩)
      · obtain rfl : q = ⟨some L, N, N⟩ := by simpa using hq
        exact .inr (.inl (Option.some.inj hk).symm)
  have oB : ∀ k, Kf u' (lB ++ (List.range N).map (tlP QB)) k → Kf vB lB k ∨ k ∈ QB ∨ w.heap.size ≤ k := fun k hk => by
    rcases hk with hk | ⟨q, hq, hk⟩
    · exact (hnu k hk).elim (fun x => .inl (.inl x)) (fun x => .inr (.inr x))
    · rcases List.mem_append.1 hq with hq | hq
      · exact .inl (.inr ⟨q, hq, hk⟩)
      · obtain ⟨i, hi, rfl⟩ := List.mem_map.1 hq
        have hi' : i < N := by simpa using hi
        obtain rfl : QB.getD i 0 = k := Option.some.inj hk
        exact .inr (.inl (hQ i hi').2)
  refine ⟨rfl, u', v', _, _, ⟨h.gb, hq'.c0, (hcs 1 (by omega) (by omega)).trans h.c1, hq'.c15, fun j a b c d => (hcs j b d).trans (h.cz j a b c d), fun j => (hfs j).trans (h.fz j),
    h.kI.kept hkp (fun k hk' hx => hx.elim (fun e => h.nI k hk' e) (fun hx => hx.elim (fun e => h.ip hk' (.inl e)) (fun e => h.ib hk' (.inl e)))), hkB, hkP, h.nI, fun k hk' => ?_, fun k hk' => ?_, fun B hB p hp hb => ?_⟩, by simp, by simp, hkp.mono hFa, fun k hk => ?_⟩
  · rcases oB k hk' with x | x | x
    · exact h.nB k x
    · intro e; exact hfQ k x (.inl e)
    · omega
  · rcases oP k hk' with x | x | x
    · exact h.nP k x
    · intro e; exact hfL (x ▸ .inl e)
    · omega
  · rcases List.mem_append.1 hp with hp | hp
    · rcases hnu B hB with x | x
      · exact h.pb B x p hp hb
      · have := h.kP.lt (.inr ⟨p, hp, hb⟩); omega
    · obtain rfl : p = ⟨some L, N, N⟩ := by simpa using hp
      obtain rfl : L = B := Option.some.inj hb
      rcases hnu L hB with x | x
      · exact hfL (.inr (.inr (.inl (.inl x))))
      · omega
  · rcases hk with x | x | x | x
    · exact .inl (.inl x)
    · exact .inl (.inr (.inl x))
    · exact (oB k x).elim (fun x => .inl (.inr (.inr (.inl x)))) (fun x => .inr (.inr x))
    · exact (oP k x).elim (fun x => .inl (.inr (.inr (.inr x)))) (fun x => .inr (x.imp id .inr))
end
/-- A list of numbers that was told, for the bag. -/
theorem tl_of_li {w : World} {base lo : Nat} {v : Value} {l : List Int} (h : LI w base v l) (hb : lo ≤ base) (hl : l.length ≤ 4096) : ∃ p : Tl, v = .slice p.ad p.n p.c ∧ p.ok 3 lo w ∧ p.n ≤ 4096 ∧ ∀ k, p.b = some k → base ≤ k := by
  rcases h.2 with ⟨rfl, h0⟩ | ⟨g, cap, cur, rfl, h2, h3⟩
  · exact ⟨⟨none, 0, 0⟩, rfl, .inr ⟨rfl, rfl, rfl⟩, Nat.zero_le _, fun k hk => by cases hk⟩
  · refine ⟨⟨some g, l.length, cap⟩, rfl, .inl ⟨g, rfl, Nat.le_trans hb h2, _, Row.of h⟩, hl, fun k hk => ?_⟩
    obtain rfl : g = k := Option.some.inj hk
    exact h2
end Go.Proofs.YtedkmfklobipaaaDoor

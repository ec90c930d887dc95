/-
  A list of instructions among the arguments, opened; InstrList of it.
-/
import Derived.Test.YtgljlclnmnfocaaDoorOpen
import Derived.Test.YtgljlclnmnfocaaDoorListLaw
namespace Go.Proofs.YtgljlclnmnfocaaDoor
open Go.ChangeShapes Go.WideShapes Go.ChangeAt Go.RowKit
set_option linter.unusedVariables false

theorem bytes24 : Tryd.prog.bytesOf 24 = 40 := by kernel_rfl

theorem list_of {α : Type} {P : Nat → α → Prop} : ∀ (n : Nat), (∀ j, j < n → ∃ x, P j x) → ∃ xs : List α, xs.length = n ∧ ∀ j x, xs[j]? = some x → P j x
  | 0, _ => ⟨[], rfl, fun j x h => by simp at h⟩
  | n + 1, h => by
    obtain ⟨xs, hl, hx⟩ := list_of n (fun j hj => h j (by omega))
    obtain ⟨y, hy⟩ := h n (by omega)
    refine ⟨xs ++ [y], by simp [hl], fun j x hj => ?_⟩
    by_cases hjn : j < xs.length
    · rw [List.getElem?_append_left hjn] at hj
      exact hx j x hj
    · rw [List.getElem?_append_right (by omega)] at hj
      have hj0 : j - xs.length = 0 := by
        rcases Nat.eq_zero_or_pos (j - xs.length) with h | h
        · exact h
        · rw [List.getElem?_eq_none (by simp; omega)] at hj; cases hj
      rw [hj0] at hj
      simp at hj
      subst hj
      obtain rfl : j = n := by omega
      exact hy

theorem weights_mem_all {H : Type} {P : Program} {e : TypeId} : ∀ {l : List (DataW H)} {d : DataW H}, d ∈ l → ∀ n ∈ d.weights P e, n ∈ DataW.weightsAll P e l
  | x :: r, d, h, n, hn => by
    simp only [DataW.weightsAll, List.mem_append]
    rcases List.mem_cons.1 h with rfl | h
    · exact .inl hn
    · exact .inr (weights_mem_all h n hn)

section
variable {H : Type} {enc : TypeId × Value → H} {W : World}

set_option maxRecDepth 100000 in
theorem open_list {base : Nat} {v : Value} {d : DataW H} {ps : List MemPlace} (hval : Value.okWide Tryd.prog W .any base 63 v) (h : DataW.Trod enc Tryd.prog W 0 (fun _ => true) true 63 v d ps) (hw : ∀ n ∈ d.weights Tryd.prog 63, n ≤ reachBytes) :
    ∃ (a : Option Addr) (n cap : Nat) (xs : List Inx), v = .slice a n cap ∧ n ≤ cap ∧ xs.length = n ∧ n ≤ 140737488355328 ∧ (n = 0 ∨ ∃ b off, a = some ⟨b, off, none⟩ ∧ ∀ j x, xs[j]? = some x → InAt W b (off + j * 3) x) := by
  obtain ⟨a, len, cap, rfl⟩ := okWide_slice Tryd.underlying63 hval
  obtain ⟨fuel, hf⟩ := h
  rcases DataW.trod_slice Tryd.underlying63 hf with ⟨hcs, _⟩ | ⟨x, l, c, elems, rest, n, _, hcs, hx, hb, hl, hm, hlen, hel, hsp, hns⟩
  · simp [Value.cells] at hcs
    obtain ⟨rfl, rfl, rfl⟩ := hcs
    exact ⟨none, 0, 0, [], rfl, Nat.le_refl _, rfl, by omega, .inl rfl⟩
  · simp [Value.cells] at hcs
    obtain ⟨rfl, rfl, rfl⟩ := hcs
    simp only [Prod.mk.injEq] at hx
    have hd := hx.1
    rw [hd] at hw
    have hbound : len ≤ 140737488355328 := by
      have := hw ((elems.length + rest.length) * 40) (by simp [DataW.weights, Tryd.underlying63, bytes24])
      simp only [reachBytes] at this
      omega
    by_cases h0 : len = 0
    · subst h0
      exact ⟨_, 0, cap, [], rfl, Nat.zero_le _, rfl, by omega, .inl rfl⟩
    obtain ⟨b, off, spot⟩ := x
    have hstep : ∀ j, j < len → ∃ y : Inx, (W.cell? ((⟨b, off, spot⟩ : Addr).add (j * 3)) = some (.int .u8 y.c) ∧ W.cell? (((⟨b, off, spot⟩ : Addr).add (j * 3)).add 1) = some (.int .i64 y.a) ∧ W.cell? (((⟨b, off, spot⟩ : Addr).add (j * 3)).add 2) = some (.slice y.la y.ln y.lc) ∧
        0 ≤ y.c ∧ y.c ≤ 255 ∧ y.ln ≤ 140737488355328 ∧ (y.ln ≤ 1000 → SegI W y.la y.ln y.lc y.l)) := by
      intro j hj
      have he := hel j hj
      rw [List.getElem?_eq_getElem (by omega)] at he
      obtain ⟨cs, hcs, htr⟩ := Option.bind_eq_some_iff.1 he
      rw [Tryd.cells24] at hcs
      obtain ⟨_, hlc, hcell⟩ := World.cells?_some hcs
      obtain ⟨c, a, la, ln, lc, zs, hc3, u0, u1, hr, hdd⟩ := open_insC htr
      subst hc3
      have e0 := bounds_u8 u0
      have c0 := hcell 0 (by omega)
      have c1 := hcell 1 (by omega)
      have c2 := hcell 2 (by omega)
      have hadd0 : ∀ (y : Addr), y.add 0 = y := by intro y; cases y with | mk p q r => cases r <;> simp [Addr.add]
      rw [hadd0] at c0
      have hln : ln ≤ 140737488355328 := by
        rcases hdd with rfl | hdd
        · omega
        · have hmem : (elems[j]'(by omega)).1 ∈ elems.map (·.1) := List.mem_map.2 ⟨_, List.getElem_mem _, rfl⟩
          have := hw (((lits .i64 (zs.take ln) : List (DataW H)).length + (lits .i64 (zs.drop ln) : List (DataW H)).length) * Tryd.prog.bytesOf 3) (by
            have hin := weights_mem_all (P := Tryd.prog) (e := 24) hmem (((lits .i64 (zs.take ln) : List (DataW H)).length + (lits .i64 (zs.drop ln) : List (DataW H)).length) * Tryd.prog.bytesOf 3) (by
              rw [hdd]
              simp [DataW.weights, Tryd.underlying24]
              exact DataW.weights_mem_each (j := 2) (t := 22) rfl rfl _ (by simp [DataW.weights, Tryd.underlying22]))
            simp only [DataW.weights, Tryd.underlying63, List.mem_cons, List.mem_append]
            exact .inr (.inl hin))
          rw [bytes3] at this
          simp only [lits, List.length_map, reachBytes] at this
          have := (row_cells hr).2.1
          omega
      exact ⟨⟨c, a, la, ln, lc, zs.take ln⟩, c0, c1, c2, by simp only; omega, by simp only; omega, hln, fun h => row_segI hr (by omega)⟩
    have hspot : spot = none := by
      obtain ⟨y, hy, _⟩ := hstep 0 (by omega)
      have := World.cell?_spot hy
      simpa [Addr.add] using this
    subst hspot
    have hplain : ∀ (p q i : Nat), (⟨p, q, none⟩ : Addr).add i = ⟨p, q + i, none⟩ := by intro p q i; unfold Addr.add; split <;> simp_all
    obtain ⟨xs, hxl, hxs⟩ := list_of (P := fun j y => InAt W b (off + j * 3) y) len (fun j hj => by
      obtain ⟨y, h1, h2, h3, h4⟩ := hstep j hj
      rw [hplain] at h1 h2 h3
      rw [hplain] at h2 h3
      exact ⟨y, h1, h2, h3, h4⟩)
    exact ⟨_, len, cap, xs, rfl, hl, hxl, hbound, .inr ⟨b, off, rfl, hxs⟩⟩
end

set_option maxRecDepth 100000 in
set_option maxHeartbeats 1000000 in
theorem list6_nil (a : Option Addr) (cap : Nat) (w : World) (hk : KindsOk w) : Calls Tryd.prog 6 #[.slice a 0 cap] w fun e w' => e = .returned (.bool true) ∧ Below w.heap.size w w' := by
  have HW := hid (works7 _ hk)
  clear hk
  go_enter Tryd.func6, Tryd.ntmps6
  go_wp2_with fail
  refine HW.out.mono ?_
  rintro e w1 ⟨rfl, hb1⟩
  go_wp2_with fail
  refine wp_loop_rounds 1 ?_
  rw [rounds_succ]
  go_wp2_with fail
  refine wp_loop_rounds 1 ?_
  rw [rounds_succ]
  go_wp2_with fail
  go_ret
  exact ⟨rfl, hb1⟩

theorem list6 (a : Option Addr) (n cap : Nat) (xs : List Inx) (w : World) (hk : KindsOk w) (hcap : n ≤ cap) (hl : xs.length = n) (hb : n ≤ 140737488355328) (hx : n = 0 ∨ ∃ b off, a = some ⟨b, off, none⟩ ∧ ∀ j x, xs[j]? = some x → InAt w b (off + j * 3) x) :
    Calls Tryd.prog 6 #[.slice a n cap] w fun e w' => e = .returned (.bool true) ∧ Below w.heap.size w w' := by
  by_cases hn : 2000 < n
  · exact list6_big a n cap w hk hn hb
  rcases hx with rfl | ⟨b, off, rfl, hx⟩
  · exact list6_nil a cap w hk
  · exact list6_in b off n cap xs w hk (by omega) hcap hl hx
end Go.Proofs.YtgljlclnmnfocaaDoor

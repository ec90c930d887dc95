/-
  A script among the arguments, and a list of texts, opened.
-/
import Derived.Test.YthdgbeaibajkeaaCaMain
import Derived.Deep.Strs
import Derived.ProofKit
import Derived.OpenShut
import Derived.ShutString
import Derived.ChangeOld
import Derived.Below
import Derived.SizedLaws
import Derived.ChangeArms
namespace Go.Proofs.Ythdgbeaibajkeaa
open Go.ChangeShapes Go.WideShapes Go.ChangeAt Go.RowKit
set_option linter.unusedVariables false

theorem bytesU64 : Try.prog.bytesOf 34 = 8 := by kernel_rfl
theorem bytesRp : Try.prog.bytesOf 33 = 32 := by kernel_rfl
theorem bytesTx : Try.prog.bytesOf 9 = 16 := by kernel_rfl
theorem Try.cellsRp : Try.prog.cellsOf 33 = 2 := by kernel_rfl
theorem Try.cellsWs : Try.prog.cellsOf 31 = 1 := by kernel_rfl
theorem Try.cellsBo : Try.prog.cellsOf 4 = 1 := by kernel_rfl

/-- What is told of a slice of words that came in. -/
def IsRow (w : World) (a : Option Addr) (len cap : Nat) (zs : List Int) : Prop :=
  (a = none ∧ len = 0 ∧ cap = 0 ∧ zs = []) ∨
  ∃ x, a = some x ∧ len ≤ cap ∧ cap ≤ maxLen ∧ zs.length = cap ∧ (∀ i, i < zs.length → w.cell? (x.add i) = some (.int .u64 (zs.getD i 0))) ∧ ∀ n ∈ zs, (Lit.int .u64 n).wf = true
theorem row_segU {w : World} {a : Option Addr} {len cap : Nat} {zs : List Int} (h : IsRow w a len cap zs) (hn : len ≤ 2147483647) : SegU (fun k => k < w.heap.size) w a len cap (zs.take len) := by
  rcases h with ⟨rfl, rfl, rfl, rfl⟩ | ⟨x, rfl, hl, hm, hz, hcell, hwz⟩
  · exact SegU.nil _ _ _ _
  · refine ⟨by simp; omega, hl, hn, fun z hz' => by have := bounds_u64 (hwz z (List.mem_of_mem_take hz')); omega, ?_⟩
    by_cases h0 : len = 0
    · exact .inl h0
    · obtain ⟨b, off, spot⟩ := x
      have hc := hcell 0 (by omega)
      have hspot : spot = none := by simpa [Addr.add] using World.cell?_spot hc
      subst hspot
      have hplain : ∀ j, (⟨b, off, none⟩ : Addr).add j = ⟨b, off + j, none⟩ := by intro j; unfold Addr.add; split <;> simp_all
      refine .inr ⟨b, off, rfl, ?_, fun j hj => ?_⟩
      · rw [hplain] at hc
        exact block_lt_of_cell hc
      · have := hcell j (by omega)
        rw [hplain] at this
        rw [this]
        simp [hj]
theorem list_of {α : Type} {P : Nat → α → Prop} : ∀ (n : Nat), (∀ j, j < n → ∃ x, P j x) → ∃ xs : List α, xs.length = n ∧ ∀ j x, xs[j]? = some x → P j x
  | 0, _ => ⟨[], rfl, fun j x h => by simp at h⟩
  | n + 1, h => by
    obtain ⟨xs, hl, hx⟩ := list_of n (fun j hj => h j (by omega))
    obtain ⟨y, hy⟩ := h n (by omega)
    refine ⟨xs ++ [y], by simp [hl], fun j x hj => ?_⟩
    by_cases hjn : j < xs.length
    · rw [List.getElem?_append_left hjn] at hj
      exact hx j x hj
    · rw [List.getElem?_append_right (by omega)] at hj
      have hj0 : j - xs.length = 0 := by
        rcases Nat.eq_zero_or_pos (j - xs.length) with h | h
        · exact h
        · rw [List.getElem?_eq_none (by simp; omega)] at hj; cases hj
      rw [hj0] at hj
      simp at hj
      subst hj
      obtain rfl : j = n := by omega
      exact hy
theorem weights_mem_all {H : Type} {P : Program} {e : TypeId} : ∀ {l : List (DataW H)} {d : DataW H}, d ∈ l → ∀ n ∈ d.weights P e, n ∈ DataW.weightsAll P e l
  | x :: r, d, h, n, hn => by
    simp only [DataW.weightsAll, List.mem_append]
    rcases List.mem_cons.1 h with rfl | h
    · exact .inl hn
    · exact .inr (weights_mem_all h n hn)

section
variable {H : Type} {enc : TypeId × Value → H} {W : World}

set_option maxRecDepth 100000 in
/-- A reply's cells, opened. -/
theorem open_repC {fuel : Nat} {cs : List Value} {x : DataW H × List MemPlace} (h : DataW.trod enc Try.prog W 0 (fun _ => true) true fuel 33 cs = some x) :
    ∃ la ln lc zs tr, cs = [.slice la ln lc, .bool tr] ∧ IsRow W la ln lc zs ∧ (ln = 0 ∨ x.1 = .agg [.slice (lits .u64 (zs.take ln)) (lits .u64 (zs.drop ln)), .lit (.bool tr)]) := by
  obtain ⟨ys, m, _, hx, hl, hyl, hel⟩ := DataW.trod_struct Try.underlying33 h
  rw [Try.cellsRp] at hl
  match ys, hyl with
  | [y0, y1], _ =>
    match cs, hl with
    | [x0, x1], _ =>
      have e0 : DataW.trod enc Try.prog W 0 (fun _ => true) true m 31 (([x0, x1].drop 0).take (Try.prog.cellsOf 31)) = some y0 := hel 0 _ rfl
      have e1 : DataW.trod enc Try.prog W 0 (fun _ => true) true m 4 (([x0, x1].drop 1).take (Try.prog.cellsOf 4)) = some y1 := hel 1 _ rfl
      rw [Try.cellsWs] at e0
      rw [Try.cellsBo] at e1
      obtain ⟨tr, ht, hy1⟩ := DataW.trod_bool Try.underlying4 e1
      simp at ht
      subst ht
      rcases open_ints Try.underlying31 Try.underlying34 (by kernel_rfl) e0 with ⟨hcs, _⟩ | ⟨a, l, c, zs, hcs, _, hl2, hm, hz, hy0, hcell, hwz⟩
      · simp at hcs
        subst hcs
        exact ⟨none, 0, 0, [], tr, rfl, .inl ⟨rfl, rfl, rfl, rfl⟩, .inl rfl⟩
      · simp at hcs
        subst hcs
        refine ⟨some a, l, c, zs, tr, rfl, .inr ⟨_, rfl, hl2, hm, by simpa using hz, hcell, hwz⟩, .inr ?_⟩
        have := congrArg Prod.fst hx
        simp at this
        rw [this, hy0, hy1]

set_option maxRecDepth 100000 in
theorem open_script {base : Nat} {v : Value} {d : DataW H} {ps : List MemPlace} (hval : Value.okWide Try.prog W .any base 22 v) (h : DataW.Trod enc Try.prog W 0 (fun _ => true) true 22 v d ps) (hw : ∀ n ∈ d.weights Try.prog 22, n ≤ reachBytes) :
    ∃ (a : Option Addr) (n cap : Nat) (xs : List Rp), v = .slice a n cap ∧ RawS W a n cap xs := by
  obtain ⟨a, len, cap, rfl⟩ := okWide_slice Try.underlying22 hval
  obtain ⟨fuel, hf⟩ := h
  rcases DataW.trod_slice Try.underlying22 hf with ⟨hcs, _⟩ | ⟨x, l, c, elems, rest, n, _, hcs, hx, hb, hl, hm, hlen, hel, hsp, hns⟩
  · simp [Value.cells] at hcs
    obtain ⟨rfl, rfl, rfl⟩ := hcs
    exact ⟨none, 0, 0, [], rfl, rfl, Nat.le_refl _, by omega, .inl rfl⟩
  · simp [Value.cells] at hcs
    obtain ⟨rfl, rfl, rfl⟩ := hcs
    simp only [Prod.mk.injEq] at hx
    have hd := hx.1
    rw [hd] at hw
    have hbound : len ≤ 140737488355328 := by
      have := hw ((elems.length + rest.length) * 32) (by simp [DataW.weights, Try.underlying22, bytesRp])
      simp only [reachBytes] at this
      omega
    by_cases h0 : len = 0
    · subst h0
      exact ⟨_, 0, cap, [], rfl, rfl, Nat.zero_le _, by omega, .inl rfl⟩
    obtain ⟨b, off, spot⟩ := x
    have hstep : ∀ j, j < len → ∃ y : Rp, (W.cell? ((⟨b, off, spot⟩ : Addr).add (j * 2)) = some (.slice y.a y.n y.c) ∧ W.cell? (((⟨b, off, spot⟩ : Addr).add (j * 2)).add 1) = some (.bool y.tr) ∧ y.n ≤ 140737488355328 ∧ (y.n ≤ 2147483647 → SegU (fun k => k < W.heap.size) W y.a y.n y.c y.l)) := by
      intro j hj
      have he := hel j hj
      rw [List.getElem?_eq_getElem (by omega)] at he
      obtain ⟨cs, hcs, htr⟩ := Option.bind_eq_some_iff.1 he
      rw [Try.cellsRp] at hcs
      obtain ⟨_, hlc, hcell⟩ := World.cells?_some hcs
      obtain ⟨la, ln, lc, zs, tr, hc3, hr, hdd⟩ := open_repC htr
      subst hc3
      have c0 := hcell 0 (by omega)
      have c1 := hcell 1 (by omega)
      have hadd0 : ∀ (y : Addr), y.add 0 = y := by intro y; cases y with | mk p q r => cases r <;> simp [Addr.add]
      rw [hadd0] at c0
      have hln : ln ≤ 140737488355328 := by
        rcases hdd with rfl | hdd
        · omega
        · have hmem : (elems[j]'(by omega)).1 ∈ elems.map (·.1) := List.mem_map.2 ⟨_, List.getElem_mem _, rfl⟩
          have := hw (((lits .u64 (zs.take ln) : List (DataW H)).length + (lits .u64 (zs.drop ln) : List (DataW H)).length) * Try.prog.bytesOf 34) (by
            have hin := weights_mem_all (P := Try.prog) (e := 33) hmem (((lits .u64 (zs.take ln) : List (DataW H)).length + (lits .u64 (zs.drop ln) : List (DataW H)).length) * Try.prog.bytesOf 34) (by
              rw [hdd]
              simp [DataW.weights, Try.underlying33]
              exact DataW.weights_mem_each (j := 0) (t := 31) rfl rfl _ (by simp [DataW.weights, Try.underlying31]))
            simp only [DataW.weights, Try.underlying22, List.mem_cons, List.mem_append]
            exact .inr (.inl hin))
          rw [bytesU64] at this
          simp only [lits, List.length_map, reachBytes] at this
          rcases hr with ⟨_, rfl, _⟩ | ⟨_, _, hl3, _, hz3, _⟩
          · omega
          · have : (zs.take ln).length = ln := by simp; omega
            omega
      exact ⟨⟨la, ln, lc, zs.take ln, tr⟩, c0, c1, hln, fun h => row_segU hr h⟩
    have hspot : spot = none := by
      obtain ⟨y, hy, _⟩ := hstep 0 (by omega)
      have := World.cell?_spot hy
      simpa [Addr.add] using this
    subst hspot
    have hplain : ∀ (p q i : Nat), (⟨p, q, none⟩ : Addr).add i = ⟨p, q + i, none⟩ := by intro p q i; unfold Addr.add; split <;> simp_all
    obtain ⟨xs, hxl, hxs⟩ := list_of (P := fun j (y : Rp) => W.cell? ⟨b, off + j * 2, none⟩ = some (.slice y.a y.n y.c) ∧ W.cell? ⟨b, off + j * 2 + 1, none⟩ = some (.bool y.tr) ∧ y.n ≤ 140737488355328 ∧ (y.n ≤ 2147483647 → SegU (fun k => k < W.heap.size) W y.a y.n y.c y.l)) len (fun j hj => by
      obtain ⟨y, h1, h2, h3⟩ := hstep j hj
      rw [hplain] at h1 h2
      rw [hplain] at h2
      exact ⟨y, h1, h2, h3⟩)
    refine ⟨_, len, cap, xs, rfl, hxl, hl, hbound, .inr ⟨b, off, rfl, fun j hj => hxs j _ ?_⟩⟩
    rw [List.getD_eq_getElem?_getD, List.getElem?_eq_getElem (by omega)]; rfl

/-- A slice of texts that came in. -/
theorem open_texts {base : Nat} {v : Value} {d : DataW H} {ps : List MemPlace} (hval : Value.okWide Try.prog W .any base 23 v) (h : DataW.Trod enc Try.prog W 0 (fun _ => true) true 23 v d ps) (hw : ∀ n ∈ d.weights Try.prog 23, n ≤ reachBytes) :
    ∃ (a : Option Addr) (n cap : Nat) (S : List ByteArray), v = .slice a n cap ∧ RawC W a n S := by
  obtain ⟨a, len, cap, rfl⟩ := okWide_slice Try.underlying23 hval
  obtain ⟨fuel, hf⟩ := h
  rcases Deep.open_strs Try.underlying23 Try.underlying9 (by kernel_rfl) hf with ⟨hcs, _⟩ | ⟨x, l, c, m, Sx, hcs, _, hl, hm, hmm, hx, hcell⟩
  · simp [Value.cells] at hcs
    obtain ⟨rfl, rfl, rfl⟩ := hcs
    exact ⟨none, 0, 0, [], rfl, rfl, by omega, (fun s hs => by cases hs), .inl rfl⟩
  · simp [Value.cells] at hcs
    obtain ⟨rfl, rfl, rfl⟩ := hcs
    have hmc : m = cap := by simpa using hmm
    have hd := congrArg Prod.fst hx
    simp only at hd
    rw [hd] at hw
    have hbound : len ≤ 140737488355328 := by
      have := hw ((len + (m - len)) * 16) (by simp [DataW.weights, Try.underlying23, bytesTx])
      simp only [reachBytes] at this
      omega
    have hsz : ∀ i, i < len → (Sx i).size ≤ 140737488355328 := fun i hi => by
      have hmem : (DataW.lit (Lit.string (Sx i).data.toList) : DataW H) ∈ (List.range len).map (fun i => DataW.lit (Lit.string (Sx i).data.toList)) := List.mem_map.2 ⟨i, List.mem_range.2 hi, rfl⟩
      have := hw (Sx i).data.toList.length (by
        have hin := weights_mem_all (P := Try.prog) (e := 9) hmem (Sx i).data.toList.length (by simp [DataW.weights])
        simp only [DataW.weights, Try.underlying23, List.mem_cons, List.mem_append]
        exact .inr (.inl hin))
      simp only [reachBytes, Array.length_toList] at this
      exact Nat.le_trans this (by decide)
    refine ⟨some x, len, cap, (List.range len).map Sx, rfl, by simp, hbound, fun s hs => ?_, ?_⟩
    · obtain ⟨i, hi, rfl⟩ := List.mem_map.1 hs
      exact hsz i (List.mem_range.1 hi)
    · by_cases h0 : len = 0
      · exact .inl h0
      · obtain ⟨b, off, spot⟩ := x
        have hc := (hcell 0 (by omega)).1
        have hspot : spot = none := by simpa [Addr.add] using World.cell?_spot hc
        subst hspot
        refine .inr ⟨b, off, rfl, fun j hj => ?_⟩
        have := (hcell j (by omega)).1
        have hplain : (⟨b, off, none⟩ : Addr).add j = ⟨b, off + j, none⟩ := by unfold Addr.add; split <;> simp_all
        rw [hplain] at this
        rw [this]
        simp [hj]
end

/-- HostCalls, whatever came in. -/
theorem calls3 (a : Option Addr) (n c : Nat) (t : Int) (ca : Option Addr) (cn cc : Nat) (xs : List Rp) (ss : List ByteArray) (w : World) (hr : RawS w a n c xs) (hcs : RawC w ca cn ss) (ht : -9223372036854775808 ≤ t ∧ t ≤ 9223372036854775807) :
    Calls Try.prog 3 #[.slice a n c, .int .i64 t, .slice ca cn cc] w fun e w' => e = .returned (.bool true) ∧ Below w.heap.size w w' := by
  by_cases hn : 2000 < n
  · exact calls3_big a n c t ca cn cc w hn hr.2.2.1
  have hsz := size6 a n c xs w hr.raw (by omega)
  by_cases hz : szR xs n ≤ 2147483647
  · have hs : Calls Try.prog 6 #[.slice a n c] w fun e w' => e = .returned (.int .i64 (szR xs n : Nat)) ∧ w' = w := hsz.mono (by
      rintro e w' ⟨⟨k, hk, rfl, h⟩, rfl⟩
      rcases h with rfl | h
      · exact ⟨rfl, rfl⟩
      · have := szR_mono xs n k hk
        omega)
    by_cases hcn : 2000 < cn
    · exact calls3_many a n c t ca cn cc _ w (by omega) hz hcn hcs.2.1 hs
    · have hp := hr.rps (by omega) hz
      by_cases h0 : t < 0
      · exact calls3_neg a n c t ca cn cc _ xs ss w hp hcs (by omega) hz h0 ht.1 hs
      · obtain ⟨T, rfl⟩ := Int.eq_ofNat_of_zero_le (show 0 ≤ t by omega)
        exact calls3_pos a n c T ca cn cc _ xs ss w hp hcs (by omega) hz (by omega) hs
  · exact calls3_long a n c t ca cn cc w (by omega) (hsz.mono (by
      rintro e w' ⟨⟨k, hk, rfl, h⟩, rfl⟩
      rcases h with rfl | h
      · exact ⟨⟨_, by omega, rfl⟩, rfl⟩
      · exact ⟨⟨_, h, rfl⟩, rfl⟩))
end Go.Proofs.Ythdgbeaibajkeaa

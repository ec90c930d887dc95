/-
  Turned by program from the seat YtbdjghokedfkfaaDoor.
-/
import Derived.KernelRfl
import Derived.RowKit
import Derived.WalkKit
import Derived.WalkSpells
import Derived.WalkLawsBesides
import Derived.Below
import Derived.ArgAppend
import Derived.Laws.BitsAllLaws
import Derived.Deep.QuietTactic
import Derived.BigQuiet
import Derived.Laws.AppendOwnNone
import Derived.Deep.RegionHeld3
import Derived.RegionDies
import Derived.Laws.BytesArg
import Derived.Deep.CutRange
import Derived.Test.YtbdjghokedfkfaaDoorProg
namespace Go.Proofs.YtbdjghokedfkfaaDoor
open Go.RowKit
set_option linter.unusedVariables false
set_option maxRecDepth 100000
theorem hid {P : Prop} (h : P) : Hid P := h
/-- w' is w but for the blocks of S, and for new ones. -/
structure Kept (S : Nat → Prop) (w w' : World) : Prop where
  os : w'.os = w.os
  tape : w'.tape = w.tape
  output : w'.output = w.output
  size : w.heap.size ≤ w'.heap.size
  block : ∀ k, k < w.heap.size → ¬ S k → w'.heap[k]? = w.heap[k]?
theorem Kept.refl (S : Nat → Prop) (w : World) : Kept S w w := ⟨rfl, rfl, rfl, Nat.le_refl _, fun _ _ _ => rfl⟩
theorem Kept.trans {S : Nat → Prop} {w w1 w2 : World} (h1 : Kept S w w1) (h2 : Kept S w1 w2) : Kept S w w2 :=
  ⟨h2.os.trans h1.os, h2.tape.trans h1.tape, h2.output.trans h1.output, Nat.le_trans h1.size h2.size,
    fun k hk hs => (h2.block k (Nat.lt_of_lt_of_le hk h1.size) hs).trans (h1.block k hk hs)⟩
/-- What is new for the first may be written by the second. -/
theorem Kept.then {S T : Nat → Prop} {w w1 w2 : World} (h1 : Kept S w w1) (h2 : Kept T w1 w2) (h : ∀ k, k < w.heap.size → T k → S k) : Kept S w w2 :=
  ⟨h2.os.trans h1.os, h2.tape.trans h1.tape, h2.output.trans h1.output, Nat.le_trans h1.size h2.size,
    fun k hk hs => (h2.block k (Nat.lt_of_lt_of_le hk h1.size) (fun ht => hs (h k hk ht))).trans (h1.block k hk hs)⟩
theorem Kept.of_grown {w w' : World} {r : Option Nat} (h : w.grownBy w' r) : Kept (fun k => some k = r) w w' := ⟨h.os, h.tape, h.output, h.size, fun k hk hs => h.block k hk hs⟩
theorem Kept.alloc (S : Nat → Prop) (w : World) (o : Obj) : Kept S w (w.alloc o) := by
  have h := (Below.refl w.heap.size w).alloc (Nat.le_refl _) o
  exact ⟨h.os, h.tape, h.output, h.size, fun k hk _ => h.block k hk⟩
theorem Kept.of_below {B : Nat} {w w' : World} (h : Below B w w') : Kept (fun k => B ≤ k) w w' := ⟨h.os, h.tape, h.output, h.size, fun k hk hs => h.block k (by omega)⟩
theorem Kept.to_below {S : Nat → Prop} {B : Nat} {w w' : World} (h : Kept S w w') (hB : B ≤ w.heap.size) (hS : ∀ k, k < B → ¬ S k) : Below B w w' := ⟨h.os, h.tape, h.output, h.size, fun k hk => h.block k (by omega) (hS k hk)⟩
theorem Kept.mono {S T : Nat → Prop} {w w' : World} (h : Kept S w w') (hS : ∀ k, S k → T k) : Kept T w w' := ⟨h.os, h.tape, h.output, h.size, fun k hk hs => h.block k hk (fun x => hs (hS k x))⟩
theorem Kept.drewN (S : Nat → Prop) (w : World) (m : Nat) : Kept S w (w.drewN m) := by
  have h := below_drewN (Below.refl w.heap.size w) m
  exact ⟨h.os, h.tape, h.output, h.size, fun k hk _ => h.block k hk⟩
theorem cell_of_block {w w' : World} {b : Nat} (h : w'.heap[b]? = w.heap[b]?) (o : Nat) : w'.cell? ⟨b, o, none⟩ = w.cell? ⟨b, o, none⟩ := by
  simp only [World.cell?, h]
theorem frozen_of_block {w w' : World} {b : Nat} (h : w'.heap[b]? = w.heap[b]?) (o : Nat) : w'.frozen? ⟨b, o, none⟩ = w.frozen? ⟨b, o, none⟩ := by
  simp only [World.frozen?, h]
theorem Kept.cell {S : Nat → Prop} {w w' : World} (h : Kept S w w') {b o : Nat} {v : Value} (hc : w.cell? ⟨b, o, none⟩ = some v) (hs : ¬ S b) : w'.cell? ⟨b, o, none⟩ = some v :=
  (cell_of_block (h.block b (block_lt_of_cell hc) hs) o).trans hc
/-- A row of the call's own, whatever its block's number. -/
def Row (w : World) (e : TypeId) (B n cap : Nat) (xs : List Value) : Prop := w.ownsRow 0 e 1 (.slice (some ⟨B, 0, none⟩) n cap) n xs
theorem Row.of {w : World} {base : Nat} {e : TypeId} {B n cap : Nat} {xs : List Value} (h : w.ownsRow base e 1 (.slice (some ⟨B, 0, none⟩) n cap) n xs) : Row w e B n cap xs := by
  refine ⟨h.1, ?_⟩
  rcases h.2 with ⟨h, _⟩ | ⟨g, cp, cur, h1, _, h3⟩
  · cases h
  · exact .inr ⟨g, cp, cur, h1, Nat.zero_le _, h3⟩
theorem Row.block {w : World} {e : TypeId} {B n cap : Nat} {xs : List Value} (h : Row w e B n cap xs) : ∃ cur, w.heap[B]? = some (.cells cur e) ∧ n ≤ cap ∧ cap ≤ maxLen ∧ cur.size = cap ∧ cur.toList.take n = xs := by
  rcases h.2 with ⟨h, _⟩ | ⟨g, cp, cur, h1, _, h3, h4, h5, h6, h7⟩
  · cases h
  · simp at h1
    obtain ⟨rfl, rfl⟩ := h1
    exact ⟨cur, h3, h4, h5, by simpa using h6, by simpa using h7⟩
theorem Row.lt {w : World} {e : TypeId} {B n cap : Nat} {xs : List Value} (h : Row w e B n cap xs) : B < w.heap.size := by
  obtain ⟨cur, h, _⟩ := h.block
  rcases Nat.lt_or_ge B w.heap.size with hl | hl
  · exact hl
  · rw [Array.getElem?_eq_none hl] at h; cases h
theorem own_keep {w w' : World} {base : Nat} {e : TypeId} {v : Value} {n : Nat} {xs : List Value} (h : w.ownsRow base e 1 v n xs) (hk : ∀ B, v.ownBlock = some B → w'.heap[B]? = w.heap[B]?) : w'.ownsRow base e 1 v n xs := by
  refine ⟨h.1, ?_⟩
  rcases h.2 with h0 | ⟨g, cp, cur, rfl, h2, h3, h4⟩
  · exact .inl h0
  · exact .inr ⟨g, cp, cur, rfl, h2, by rw [hk g rfl]; exact h3, h4⟩
theorem Row.keep {w w' : World} {e : TypeId} {B n cap : Nat} {xs : List Value} (h : Row w e B n cap xs) (hk : w'.heap[B]? = w.heap[B]?) : Row w' e B n cap xs :=
  own_keep h (fun b hb => by
    obtain rfl : B = b := by simpa [Value.ownBlock] using hb
    exact hk)
theorem Row.kept {S : Nat → Prop} {w w' : World} {e : TypeId} {B n cap : Nat} {xs : List Value} (h : Row w e B n cap xs) (hk : Kept S w w') (hs : ¬ S B) : Row w' e B n cap xs := h.keep (hk.block B h.lt hs)
theorem Row.cell {w : World} {e : TypeId} {B n cap : Nat} {xs : List Value} (h : Row w e B n cap xs) (j : Nat) (hj : j < n) : w.cell? ⟨B, j, none⟩ = xs[j]? := World.ownsRow.cellAt h j (by omega)
theorem Row.put {w : World} {e : TypeId} {B n cap : Nat} {xs : List Value} (h : Row w e B n cap xs) (j : Nat) (u : Value) : Row (w.setCell ⟨B, j, none⟩ u) e B n cap (xs.set j u) ∧ Kept (fun k => k = B) w (w.setCell ⟨B, j, none⟩ u) := by
  have := World.ownsRow.stored h j u
  exact ⟨this.1, (Kept.of_grown this.2).mono (fun k hk => by simpa using hk)⟩
theorem Row.apart {w : World} {e e' : TypeId} {B B' n n' cap cap' : Nat} {xs xs' : List Value} (h : Row w e B n cap xs) (h' : Row w e' B' n' cap' xs') (he : e ≠ e') : B ≠ B' := by
  intro hb
  subst hb
  obtain ⟨c, h1, _⟩ := h.block
  obtain ⟨c', h2, _⟩ := h'.block
  rw [h1] at h2
  simp at h2
  exact he h2.2
/-- 'append(l, x)', l nil or a row of the call's own: it stays in its block, or moves to a new one. -/
theorem app_cell {P : Program} (w : World) {ops : Array Oper} {rest : List Oper} {o : Oper} {a : Act} {Q : Exit → Act → World → Prop} (hgd : o.guard = none)
    (s x : Operand) (t : TypeId) (ho : o.op = Op.call { callee := Callee.builtin Builtin.append, args := #[s, x], argTypes := #[t, t] }) (e : TypeId) (i : TypeInfo) (z : Value) (bytes : Nat)
    (h1 : P.underlying t = some (.slice e)) (h2 : P.info? e = some i) (h3 : i.zero = some z) (h4 : i.size = 1) (h5 : i.bytes = bytes) (h6 : z.cells.size = 1)
    (v : Value) (n : Nat) (xs : List Value) (hs : a.eval s = v) (hown : w.ownsRow 0 e 1 v n xs) (ad : Addr) (u : Value) (hx : a.eval x = .slice (some ad) 1 1) (hu : w.cell? (ad.add 0) = some u) (hu1 : u.oneCell' = true)
    (b1 : n + 1 ≤ maxLen) (b2 : (n + 1) * bytes ≤ 140737488355328)
    (h : ∀ (B cap : Nat) (w' : World), Row w' e B (n + 1) cap (xs ++ [u]) → ((v = .slice (some ⟨B, 0, none⟩) n cap ∧ Kept (fun k => k = B) w w') ∨ (w.heap.size ≤ B ∧ Kept (fun _ => False) w w')) → wpList P ops Q rest (a.put o.dst (.slice (some ⟨B, 0, none⟩) (n + 1) cap)) w') :
    wpList P ops Q (o :: rest) a w := by
  have hnews : ∀ (j : Nat) (y : Value), [u][j]? = some y → w.cell? (ad.add j) = some y := by
    intro j y hj
    match j, hj with
    | 0, hj => simp at hj; subst hj; exact hu
    | j + 1, hj => simp at hj
  have hone : ∀ y ∈ [u], y.oneCell' = true := by intro y hy; simp at hy; subst hy; exact hu1
  have grow : ∀ (ao : Option Addr) (cap : Nat), v = .slice ao n cap → (ao = none → n = 0 ∧ cap = 0) → (∀ b, ao = some b → ∀ (j : Nat) (y : Value), xs[j]? = some y → w.cell? (b.add j) = some y) → cap < n + 1 → wpList P ops Q (o :: rest) a w := by
    intro ao cap hv hnone holds hfull
    refine wpList_append_grows w hgd s x t ho e i z 1 bytes h1 h2 h3 h4 h5 h6 (by decide) ao n cap xs (hs.trans hv) hnone hown.1 holds ad 1 1 [u] hx rfl hnews hone hfull b1 b2 ?_
    intro v' w' ho' hg'
    rcases ho'.2 with ⟨_, hz⟩ | ⟨g, cp, cur, rfl, hbase, h8⟩
    · omega
    · exact h g cp w' (Row.of ho') (.inr ⟨hbase, (Kept.of_grown hg').mono (fun k hk => by cases hk)⟩)
  rcases hown.2 with ⟨rfl, rfl⟩ | ⟨g, cap, cur, rfl, _, hh, hnc, hcm, hsz, htk⟩
  · exact grow none 0 rfl (fun _ => ⟨rfl, rfl⟩) (fun b hb => by cases hb) (by omega)
  · by_cases hroom : n + 1 ≤ cap
    · refine wpList_append_fits w hgd s x t ho 0 e i 1 h1 h2 h4 g n cap xs hs hown ad 1 1 [u] hx rfl hnews hone hroom ?_
      intro w' ho' hg'
      exact h g cap w' ho' (.inl ⟨rfl, (Kept.of_grown hg').mono (fun k hk => by simpa using hk)⟩)
    · refine grow (some ⟨g, 0, none⟩) cap rfl (fun hb => by cases hb) (fun b hb j y hy => ?_) (by omega)
      simp at hb
      subst hb
      have hj : j < xs.length := by
        rcases Nat.lt_or_ge j xs.length with h | h
        · exact h
        · simp [List.getElem?_eq_none h] at hy
      have hl := hown.1
      have hplain : (⟨g, 0, none⟩ : Addr).add j = ⟨g, j, none⟩ := by unfold Addr.add; split <;> simp_all
      rw [hplain, World.ownsRow.cellAt hown j (by omega)]
      exact hy
theorem pow_pos (k : Nat) : (0 : Int) < 128 ^ k := Int.pow_pos (by decide)
/-- The groups of v, at most f + 1 of them. -/
def uv : Nat → Int → List Int
  | 0, v => [v]
  | f + 1, v => if v < 128 then [v] else (v % 128 + 128) :: uv f (v / 128)
def uvar (v : Int) : List Int := uv 9 v
/-- The room that is left: V goes with 64 - 7k bits. -/
theorem room_up (V : Int) (k : Nat) (h : V * 128 ^ k < 18446744073709551616) (h0 : 0 ≤ V) : V / 128 * 128 ^ (k + 1) < 18446744073709551616 := by
  have hs : (128 : Int) ^ (k + 1) = 128 * 128 ^ k := by rw [Int.pow_succ, Int.mul_comm]
  rw [hs, ← Int.mul_assoc]
  have h2 : V / 128 * 128 ≤ V := by omega
  have := Int.mul_le_mul_of_nonneg_right h2 (Int.le_of_lt (pow_pos k))
  omega
theorem room_end (V : Int) (k : Nat) (h : V * 128 ^ k < 18446744073709551616) (hk : k ≤ 9) (h128 : 128 ≤ V) : k ≤ 8 := by
  by_cases e : k = 9
  · subst e
    have e9 : (128 : Int) ^ 9 = 9223372036854775808 := by decide
    rw [e9] at h
    omega
  · omega
/-- A slice of bytes: its elements are 'zs'. -/
def Seg (w : World) (a : Option Addr) (n cap : Nat) (zs : List Int) : Prop :=
  zs.length = n ∧ n ≤ cap ∧ n ≤ 1099511627776 ∧ (∀ z ∈ zs, 0 ≤ z ∧ z ≤ 255) ∧
  (n = 0 ∨ ∃ b off, a = some ⟨b, off, none⟩ ∧ ∀ j, j < n → w.cell? ⟨b, off + j, none⟩ = some (.int .u8 (zs.getD j 0)))
theorem i64_in (x : Int) (h0 : -9223372036854775808 ≤ x) (h1 : x < 9223372036854775808) : IntKind.i64.wrap x = x := by
  simp [IntKind.wrap, IntKind.bits, IntKind.signed]; omega
theorem Tryd.info5 : (Tryd.prog.info? 5).map (fun i => (i.zero, i.size, i.bytes)) = some (some (.int .u8 0), 1, 1) := by kernel_rfl
/-- The first k parts one behind the other. -/
def cat (Z : Nat → List Int) : Nat → List Int
  | 0 => []
  | k + 1 => cat Z k ++ Z k
theorem cat_mono (Z : Nat → List Int) (k m : Nat) (h : k ≤ m) : (cat Z k).length ≤ (cat Z m).length := by
  induction m with
  | zero =>
    obtain rfl : k = 0 := by omega
    omega
  | succ m ih =>
    by_cases e : k = m + 1
    · subst e; omega
    · have := ih (by omega); simp only [cat, List.length_append]; omega
theorem ints_one (l : List Int) : ∀ u ∈ l.map (Value.int .u8), u.oneCell' = true := by
  intro u hu
  obtain ⟨z, _, rfl⟩ := List.mem_map.1 hu
  rfl
/-- What is appended lies where the law looks. -/
theorem seg_cells {w : World} {a : Option Addr} {n cap : Nat} {zs : List Int} (h : Seg w a n cap zs) :
    ∀ ad, a = some ad → ∀ (j : Nat) (u : Value), (zs.map (Value.int .u8))[j]? = some u → w.cell? (ad.add j) = some u := by
  intro ad had j u hu
  obtain ⟨hz, _, _, _, ha⟩ := h
  have hj : j < zs.length := by
    rcases Nat.lt_or_ge j zs.length with h | h
    · exact h
    · simp [List.getElem?_eq_none (show (zs.map (Value.int .u8)).length ≤ j by simpa using h)] at hu
  rcases ha with ha | ⟨b, off, e, hc⟩
  · omega
  · rw [had] at e
    simp at e
    subst e
    have := hc j (by omega)
    have hplain : (⟨b, off, none⟩ : Addr).add j = ⟨b, off + j, none⟩ := by unfold Addr.add; split <;> simp_all
    rw [hplain, this]
    simp [List.getElem?_eq_getElem hj] at hu
    subst hu
    simp [List.getD, List.getElem?_eq_getElem hj]
/-- A slice that lies below is not touched. -/
theorem Seg.later {w w' : World} {a : Option Addr} {n cap : Nat} {zs : List Int} {B : Nat} (h : Seg w a n cap zs) (hb : Below B w w') (hB : w.heap.size ≤ B) : Seg w' a n cap zs := by
  obtain ⟨hz, h1, h2, h3, ha⟩ := h
  refine ⟨hz, h1, h2, h3, ?_⟩
  rcases ha with ha | ⟨b, off, e, hc⟩
  · exact .inl ha
  · refine .inr ⟨b, off, e, fun j hj => ?_⟩
    have := hc j hj
    have hlt : b < w.heap.size := block_lt_of_cell this
    exact (hb.cell (p := ⟨b, off + j, none⟩) (by exact Nat.lt_of_lt_of_le hlt hB)).trans this
theorem Seg.drewN {w : World} {a : Option Addr} {n cap : Nat} {zs : List Int} (h : Seg w a n cap zs) (m : Nat) : Seg (w.drewN m) a n cap zs := by
  obtain ⟨hz, h1, h2, h3, ha⟩ := h
  refine ⟨hz, h1, h2, h3, ?_⟩
  rcases ha with ha | ⟨b, off, e, hc⟩
  · exact .inl ha
  · exact .inr ⟨b, off, e, fun j hj => by rw [World.cell?_drewN]; exact hc j hj⟩
set_option maxHeartbeats 1000000 in
theorem join24_in (P m cp : Nat) (A : Nat → Option Addr) (L C : Nat → Nat) (Z : Nat → List Int) (w : World) (hm : m ≤ 1000)
    (hp : ∀ j, j < m → w.cell? ⟨P, j, none⟩ = some (.slice (A j) (L j) (C j)))
    (hs : ∀ j, j < m → Seg w (A j) (L j) (C j) (Z j) ∧ (A j = none → C j = 0)) (hN : (cat Z m).length ≤ 1099511627776) (hPw : P < w.heap.size) :
    Calls Tryd.prog 100 #[.slice (some ⟨P, 0, none⟩) m cp] w fun e w' => e = .returned (.slice (some ⟨w.heap.size, 0, none⟩) (cat Z m).length (cat Z m).length) ∧
      w'.ownsRow w.heap.size 5 1 (.slice (some ⟨w.heap.size, 0, none⟩) (cat Z m).length (cat Z m).length) (cat Z m).length ((cat Z m).map (Value.int .u8)) ∧ Below w.heap.size w w' := by
  obtain ⟨i0, hi, hz0, hz1, hz2⟩ := info_parts Tryd.info5
  have hb2 : i0.bytes * (cat Z m).length ≤ 281474976710656 := by rw [hz2]; omega
  have hml : (cat Z m).length ≤ maxLen := by unfold maxLen; omega
  go_enter Tryd.func100, Tryd.ntmps100
  go_wp2
  go_loop [3, 11] (fun s i => ∃ k : Nat, k ≤ m ∧ i = .int .i64 k ∧ s = .int .i64 (cat Z k).length) (fun _ i => m - (intOf i).toNat)
  case atStart => exact ⟨0, by omega, rfl, rfl⟩
  case round =>
    obtain ⟨k, hk, rfl, rfl⟩ := hrel
    by_cases hlt : k < m
    · have hcell := hp k hlt
      have hlen := (hs k hlt).1.1
      have hmo := cat_mono Z (k + 1) m (by omega)
      have HC := hid (show (cat Z (k + 1)).length = (cat Z k).length + L k by simp [cat, hlen])
      have hle : (cat Z k).length + L k ≤ 1099511627776 := by have := HC.out; omega
      clear hp hs hlen hmo hb2 hml hi hz0 hz1 hz2 hN
      go_wp2
      go_round
      case rel => exact ⟨k + 1, by omega, by go_num, by rw [HC.out]; go_num⟩
      case measure => simp [intOf]; omega
    · obtain rfl : k = m := by omega
      go_wp2_with (first | (at_make; refine wpList_make_own _ rfl _ _ 31 rfl w.heap.size 5 i0 (.int .u8 0) 1 Tryd.underlying31 hi hz0 hz1 .i64 .i64 _ (cat Z k).length rfl rfl rfl hb2 hml (Nat.le_refl _) ?_; intro w1 hown hgrow))
      have hbel : Below w.heap.size w w1 := (Below.refl _ _).grown hgrow (Nat.le_refl _) (by simp)
      clear hgrow
      go_loopw [6, 24] (fun v i wr => ∃ j : Nat, j ≤ k ∧ i = .int .i64 j ∧ v = .slice (some ⟨w.heap.size, 0, none⟩) (cat Z j).length (cat Z k).length ∧
        wr.ownsRow w.heap.size 5 1 (.slice (some ⟨w.heap.size, 0, none⟩) (cat Z j).length (cat Z k).length) (cat Z j).length ((cat Z j).map (Value.int .u8)) ∧ Below w.heap.size w wr) (fun _ i _ => k - (intOf i).toNat)
      case atStart => exact ⟨0, by omega, rfl, rfl, hown, hbel⟩
      case round =>
        obtain ⟨j, hj, rfl, rfl, hownr, hb⟩ := hrel
        clear hown hbel
        by_cases hjk : j < k
        · have hcell : wr.cell? ⟨P, j, none⟩ = some (.slice (A j) (L j) (C j)) := (hb.cell (p := ⟨P, j, none⟩) hPw).trans (hp j hjk)
          obtain ⟨hseg, hnone⟩ := hs j hjk
          have hsl := hseg.later hb (Nat.le_refl _)
          have hnn : A j = none → L j = 0 ∧ C j = 0 := fun h => ⟨by have := hnone h; have := hseg.2.1; omega, hnone h⟩
          have hcl := seg_cells hsl
          have hlen : ((Z j).map (Value.int .u8)).length = L j * 1 := by simp [hseg.1]
          have hmo := cat_mono Z (j + 1) k (by omega)
          have HC := hid (show (cat Z (j + 1)).length = (cat Z j).length + L j by simp [cat, hseg.1])
          have hroom : (cat Z j).length + L j ≤ (cat Z k).length := by have := HC.out; omega
          have HB := hid hb
          have HO := hid hownr
          have HL := hid hcl
          have HN := hid hnn
          clear hp hs hb hownr hseg hnone hsl hcl hnn hmo
          go_wp2_with (first | (at_builtin; refine wpList_append_fits_any _ rfl _ _ 31 rfl w.heap.size 5 i0 1 Tryd.underlying31 hi hz1 w.heap.size (cat Z j).length (cat Z k).length _ rfl HO.out (A j) (L j) (C j) ((Z j).map (Value.int .u8)) rfl hlen HN.out HL.out (ints_one _) hroom ?_; intro w2 hown2 hgrow2))
          have hb2' : Below w.heap.size w w2 := HB.out.grown hgrow2 (HB.out.size) (by simp)
          have ho2 : w2.ownsRow w.heap.size 5 1 (.slice (some ⟨w.heap.size, 0, none⟩) (cat Z (j + 1)).length (cat Z k).length) (cat Z (j + 1)).length ((cat Z (j + 1)).map (Value.int .u8)) := by
            rw [HC.out]; simp only [cat, List.map_append]; exact hown2
          exact ⟨⟨j + 1, by omega, by go_num, by rw [HC.out], ho2, hb2'⟩, by simp [intOf]; omega⟩
        · obtain rfl : j = k := by omega
          clear hp hs
          go_wp2
          go_ret
          exact ⟨rfl, hownr, hb⟩
/-- Cells of a new row as a slice of bytes. -/
theorem seg_own {w : World} {B n cap : Nat} {zs : List Int} {base : Nat} (h : w.ownsRow base 5 1 (.slice (some ⟨B, 0, none⟩) n cap) n (zs.map (Value.int .u8))) (hl : zs.length = n) (hn : n ≤ 1099511627776) (hr : ∀ z ∈ zs, 0 ≤ z ∧ z ≤ 255) (hcap : n ≤ cap) :
    Seg w (some ⟨B, 0, none⟩) n cap zs := by
  refine ⟨hl, hcap, hn, hr, .inr ⟨B, 0, rfl, fun j hj => ?_⟩⟩
  rw [Nat.zero_add, h.cellAt j (by omega)]
  have hj' : j < zs.length := by omega
  simp [hj']
theorem cat_range (Z : Nat → List Int) (m : Nat) (h : ∀ j, j < m → ∀ z ∈ Z j, 0 ≤ z ∧ z ≤ 255) : ∀ z ∈ cat Z m, 0 ≤ z ∧ z ≤ 255 := by
  induction m with
  | zero => intro z hz; simp [cat] at hz
  | succ m ih =>
    intro z hz
    simp only [cat, List.mem_append] at hz
    rcases hz with hz | hz
    · exact ih (fun j hj => h j (by omega)) z hz
    · exact h m (by omega) z hz
/-- wire.join. -/
theorem join24 (P m cp : Nat) (A : Nat → Option Addr) (L C : Nat → Nat) (Z : Nat → List Int) (w : World) (hm : m ≤ 1000)
    (hp : ∀ j, j < m → w.cell? ⟨P, j, none⟩ = some (.slice (A j) (L j) (C j)))
    (hs : ∀ j, j < m → Seg w (A j) (L j) (C j) (Z j) ∧ (A j = none → C j = 0)) (hN : (cat Z m).length ≤ 1099511627776) (hPw : P < w.heap.size) (h0 : 0 < (cat Z m).length) :
    Calls Tryd.prog 100 #[.slice (some ⟨P, 0, none⟩) m cp] w fun e w' => e = .returned (.slice (some ⟨w.heap.size, 0, none⟩) (cat Z m).length (cat Z m).length) ∧
      Seg w' (some ⟨w.heap.size, 0, none⟩) (cat Z m).length (cat Z m).length (cat Z m) ∧ Below w.heap.size w w' ∧ w.heap.size < w'.heap.size := by
  refine (join24_in P m cp A L C Z w hm hp hs hN hPw).mono fun e w' ⟨he, ho, hb⟩ => ?_
  have hseg := seg_own ho rfl hN (cat_range Z m fun j hj => (hs j hj).1.2.2.2.1) (Nat.le_refl _)
  refine ⟨he, hseg, hb, ?_⟩
  rcases hseg.2.2.2.2 with h | ⟨b, off, e1, hc⟩
  · omega
  · have := hc 0 h0
    simp at e1
    have := block_lt_of_cell this
    simp only at this
    omega
theorem and127 {V : Int} (h0 : 0 ≤ V) (h1 : V < 18446744073709551616) : bits .and .u64 V 127 = V % 128 := by
  rw [u64_and V 127 h0 h1 (by decide) (by decide)]
  simp only [Int.reduceToNat]
  rw [nat_mask7]; omega
theorem or128 {c : Int} (h0 : 0 ≤ c) (h1 : c < 128) : bits .or .u8 c 128 = c + 128 := by
  rw [u8_or c 128 h0 (by omega) (by decide) (by decide)]
  simp only [Int.reduceToNat]
  rw [Nat.or_comm, nat_join 7 128 c.toNat (by decide) (by simp only [Nat.reducePow]; omega)]
  omega
theorem put_at (pre : List Int) (k m : Nat) (c : Int) (h : pre.length = k) : ((pre ++ List.replicate (m + 1) 0).map (Value.int .u8)).set k (.int .u8 c) = ((pre ++ [c]) ++ List.replicate m 0).map (Value.int .u8) := by
  subst h
  rw [← List.map_set]
  congr 1
  rw [List.set_append_right _ _ (by omega)]
  simp [List.replicate_succ]
/-- The array of groups behind one store more. -/
theorem put_step {w wr : World} {pre : List Int} {k : Nat} (c : Int) (hk : k ≤ 9) (hp : pre.length = k)
    (hown : wr.ownsRow w.heap.size 154 1 (.slice (some ⟨w.heap.size, 0, none⟩) 10 10) 10 ((pre ++ List.replicate (10 - k) 0).map (Value.int .u8))) (hb : Below w.heap.size w wr) :
    (wr.setCell ⟨w.heap.size, k, none⟩ (.int .u8 c)).ownsRow w.heap.size 154 1 (.slice (some ⟨w.heap.size, 0, none⟩) 10 10) 10 (((pre ++ [c]) ++ List.replicate (10 - (k + 1)) 0).map (Value.int .u8)) ∧
      Below w.heap.size w (wr.setCell ⟨w.heap.size, k, none⟩ (.int .u8 c)) := by
  have h := hown.stored k (.int .u8 c)
  have e : 10 - k = 10 - (k + 1) + 1 := by omega
  rw [e, put_at pre k _ c hp] at h
  exact ⟨h.1, hb.setCell (by simp) _⟩
theorem Tryd.len154 : Tryd.prog.arrayLen 154 = 10 := by kernel_rfl
theorem Tryd.und154 : Tryd.prog.underlying 154 = some (.array (Tryd.prog.arrayLen 154) (Tryd.prog.elem 154)) := by kernel_rfl
theorem Tryd.size154 (w : World) : (sizeOf (Tryd.prog.elem 154)).run Tryd.prog w = .ok 1 w := by kernel_rfl
/-- 'groups[:k+1]'. -/
theorem slice_groups (B k : Nat) (hk : k ≤ 9) (w : World) :
    (Instr.sliceAt 154 (.pointer (some ⟨B, 0, none⟩)) none (some (.int .i64 ((k : Int) + 1))) none).run Tryd.prog w = .ok (.slice (some ⟨B, 0, none⟩) (k + 1) 10) w := by
  rw [run_sliceAt_array_h w 154 ⟨B, 0, none⟩ Tryd.und154 .i64 ((k : Int) + 1) (by omega) (by rw [Tryd.len154]; omega), Tryd.size154]
  have e : ((k : Int) + 1).toNat = k + 1 := by omega
  simp only [Result.andThen, slicedAt, Tryd.len154, e]
  simp [Addr.add]
theorem uvar_close {w W : World} {k : Nat} {V v : Int} {pre : List Int} (hk : k ≤ 9) (hp : pre.length = k) (hV : 0 ≤ V) (hV1 : V < 128) (huv : uvar v = pre ++ [V]) (hpr : ∀ z ∈ pre, 0 ≤ z ∧ z ≤ 255)
    (ho : W.ownsRow w.heap.size 154 1 (.slice (some ⟨w.heap.size, 0, none⟩) 10 10) 10 (((pre ++ [V]) ++ List.replicate (10 - (k + 1)) 0).map (Value.int .u8))) (hb : Below w.heap.size w W) (hsz : W.heap.size = w.heap.size + 1) :
    Calls Tryd.prog 100 #[.slice (some ⟨w.heap.size + 1, 0, none⟩) 1 1] (W.alloc (.cells #[.slice (some ⟨w.heap.size, 0, none⟩) (k + 1) 10] 31)) fun e w' =>
      e = .returned (.slice (some ⟨w.heap.size + 2, 0, none⟩) (uvar v).length (uvar v).length) ∧
      Seg w' (some ⟨w.heap.size + 2, 0, none⟩) (uvar v).length (uvar v).length (uvar v) ∧ Below w.heap.size w w' ∧ w.heap.size + 2 < w'.heap.size := by
  have hlen : (uvar v).length = k + 1 := by rw [huv]; simp [hp]
  have hr : ∀ z ∈ uvar v, 0 ≤ z ∧ z ≤ 255 := by
    intro z hz
    rw [huv] at hz
    rcases List.mem_append.1 hz with hz | hz
    · exact hpr z hz
    · simp at hz; omega
  have hseg : Seg W (some ⟨w.heap.size, 0, none⟩) (k + 1) 10 (uvar v) := by
    refine ⟨hlen, by omega, by omega, hr, .inr ⟨_, 0, rfl, fun j hj => ?_⟩⟩
    rw [Nat.zero_add, ho.cellAt j (by omega), huv]
    have hj' : j < (pre ++ [V]).length := by simp [hp]; omega
    rw [List.getElem?_map, List.getElem?_append_left hj']
    simp [List.getElem?_eq_getElem hj']
  have hba : Below W.heap.size W (W.alloc (.cells #[.slice (some ⟨w.heap.size, 0, none⟩) (k + 1) 10] 31)) := (Below.refl _ _).alloc (Nat.le_refl _) _
  have hs2 : (W.alloc (.cells #[.slice (some ⟨w.heap.size, 0, none⟩) (k + 1) 10] 31)).heap.size = w.heap.size + 2 := by simp [hsz]
  have hc1 : cat (fun _ => uvar v) 1 = uvar v := by simp [cat]
  have J := join24 (w.heap.size + 1) 1 1 (fun _ => some ⟨w.heap.size, 0, none⟩) (fun _ => k + 1) (fun _ => 10) (fun _ => uvar v) (W.alloc (.cells #[.slice (some ⟨w.heap.size, 0, none⟩) (k + 1) 10] 31)) (by omega)
    (fun j hj => by
      obtain rfl : j = 0 := by omega
      rw [← hsz]; simp)
    (fun j _ => ⟨hseg.later hba (Nat.le_refl _), fun h => by cases h⟩) (by rw [hc1]; omega) (by rw [hs2]; omega) (by rw [hc1]; omega)
  rw [hc1, hs2] at J
  refine J.mono fun e w' ⟨he, hsg, hbl, hz⟩ => ⟨he, hsg, ?_, hz⟩
  exact (hb.trans (hba.mono (by omega))).trans (hbl.mono (by omega))
set_option maxHeartbeats 1000000 in
/-- wire.Uvar. -/
theorem uvar17 (v : Int) (w : World) (h0 : 0 ≤ v) (h1 : v < 18446744073709551616) :
    Calls Tryd.prog 91 #[.int .u64 v] w fun e w' => e = .returned (.slice (some ⟨w.heap.size + 2, 0, none⟩) (uvar v).length (uvar v).length) ∧
      Seg w' (some ⟨w.heap.size + 2, 0, none⟩) (uvar v).length (uvar v).length (uvar v) ∧ Below w.heap.size w w' ∧ w.heap.size + 2 < w'.heap.size := by
  go_enter Tryd.func91, Tryd.ntmps91
  go_wp2
  go_loopw [0, 4] (fun x i wr => ∃ (k : Nat) (V : Int) (pre : List Int), k ≤ 9 ∧ i = .int .i64 k ∧ x = .int .u64 V ∧ pre.length = k ∧ 0 ≤ V ∧ V < 18446744073709551616 ∧ V * 128 ^ k < 18446744073709551616 ∧ uvar v = pre ++ uv (9 - k) V ∧ (∀ z ∈ pre, 0 ≤ z ∧ z ≤ 255) ∧
      wr.ownsRow w.heap.size 154 1 (.slice (some ⟨w.heap.size, 0, none⟩) 10 10) 10 ((pre ++ List.replicate (10 - k) 0).map (Value.int .u8)) ∧ Below w.heap.size w wr ∧ wr.heap.size = w.heap.size + 1) (fun x _ _ => (intOf x).toNat)
  case atStart =>
    exact ⟨0, v, [], by omega, rfl, rfl, rfl, h0, h1, by simpa using h1, rfl, by simp, World.ownsRow_lit w _ 10 (Nat.le_refl _) (by decide) rfl, (Below.refl _ _).alloc (Nat.le_refl _) _, by simp⟩
  case round =>
    obtain ⟨k, V, pre, hk, rfl, rfl, hpl, hV0, hV1, hroom, huv, hpr, hown, hb, hsz⟩ := hrel
    have hcl : ∃ u, wr.cell? ⟨w.heap.size, k, none⟩ = some u := by
      have := hown.cellAt k (by omega)
      exact ⟨_, this.trans (List.getElem?_eq_getElem (by simp [hpl]; omega))⟩
    obtain ⟨u0, hcl⟩ := hcl
    have hfz := hown.frozenAt k
    have HS := hid (fun c => put_step c hk hpl hown hb)
    have HU := hid huv
    have HP := hid hpl
    have HR := hid hroom
    clear huv hown hb hpl hroom
    by_cases h128 : 128 ≤ V
    · have hk8 := room_end V k HR.out hk h128
      have hand := and127 hV0 hV1
      have hor := or128 (c := V % 128) (by omega) (by omega)
      have HN := hid (show uvar v = (pre ++ [V % 128 + 128]) ++ uv (9 - (k + 1)) (V / 128) by
        rw [HU.out, show 9 - k = 9 - (k + 1) + 1 by omega]
        have hn : ¬ V < 128 := by omega
        simp [uv, hn])
      go_wp2
      have R := HS.out (V % 128 + 128)
      refine ⟨⟨k + 1, V / 128, pre ++ [V % 128 + 128], by omega, by go_num, rfl, by simp [HP.out], by omega, by omega, room_up V k HR.out hV0, HN.out, ?_, R.1, R.2, by simp [hsz]⟩, by simp [intOf]; omega⟩
      intro z hz
      rcases List.mem_append.1 hz with hz | hz
      · exact hpr z hz
      · simp at hz; omega
    · have hsl := slice_groups w.heap.size k hk
      have HF := hid (show uvar v = pre ++ [V] by
        rw [HU.out]
        cases h9 : 9 - k with
        | zero => rfl
        | succ f =>
          have hn : V < 128 := by omega
          simp [uv, hn])
      have HJ := hid (uvar_close hk HP.out hV0 (by omega) HF.out hpr (HS.out V).1 (HS.out V).2 (by simp [hsz]))
      go_wp2_with (first | (go_at_call 100; refine HJ.out.mono ?_; rintro e w' ⟨rfl, hseg, hbl, hz⟩))
      go_ret
      exact ⟨rfl, hseg, hbl, hz⟩
/-- What 'append' onto a row of the call's own leaves below. -/
theorem own_below {w w' : World} {base : Nat} {v : Value} {n : Nat} {xs : List Value} (hown : w.ownsRow base 5 1 v n xs) (hg : w.grownBy w' v.ownBlock) (hbase : base ≤ w.heap.size) : Below base w w' := by
  refine ⟨hg.os, hg.tape, hg.output, hg.size, fun k hk => hg.block k (by omega) ?_⟩
  rcases hown.2 with ⟨rfl, _⟩ | ⟨g, cap, cur, rfl, hbg, _⟩
  · simp [Value.ownBlock]
  · simp [Value.ownBlock]; omega
/-- 'append(l, x...)', l a row of the call's own, x whatever slice of bytes. -/
theorem app_any (w : World) {ops : Array Oper} {rest : List Oper} {o : Oper} {a : Act} {Q : Exit → Act → World → Prop} (hgd : o.guard = none)
    (s x : Operand) (ho : o.op = Op.call { callee := Callee.builtin Builtin.append, args := #[s, x], argTypes := #[31, 31] }) (base : Nat) (v : Value) (n : Nat) (xs : List Int)
    (hs : a.eval s = v) (hown : w.ownsRow base 5 1 v n (xs.map (Value.int .u8))) (ao : Option Addr) (m c : Nat) (zs : List Int) (hx : a.eval x = .slice ao m c)
    (hseg : Seg w ao m c zs) (hnone : ao = none → c = 0) (hb : n + m ≤ 1099511627776) (hbase : base ≤ w.heap.size)
    (h : ∀ (v' : Value) (w' : World), w'.ownsRow base 5 1 v' (n + m) ((xs ++ zs).map (Value.int .u8)) → Below base w w' → wpList Tryd.prog ops Q rest (a.put o.dst v') w') :
    wpList Tryd.prog ops Q (o :: rest) a w := by
  obtain ⟨i0, hi, hz0, hz1, hz2⟩ := info_parts Tryd.info5
  cases ao with
  | none =>
    have hc := hnone rfl
    subst hc
    have hm : m = 0 := by have := hseg.2.1; omega
    subst hm
    have hzs : zs = [] := List.eq_nil_of_length_eq_zero hseg.1
    subst hzs
    refine wpList_append_own_none hgd s x 31 ho base 5 i0 1 Tryd.underlying31 hi v n _ hs hown hx ?_
    refine h v w ?_ (Below.refl _ _)
    simpa using hown
  | some ad =>
    refine wpList_append_own w hgd s x 31 ho base 5 i0 (.int .u8 0) 1 1 Tryd.underlying31 hi hz0 hz1 hz2 rfl (by decide) v n _ hs hown ad m c (zs.map (Value.int .u8)) hx (by simp [hseg.1])
      (seg_cells hseg ad rfl) (ints_one _) (by unfold maxLen; omega) (by omega) hbase ?_
    intro v' w' ho' hg _
    refine h v' w' ?_ (own_below hown hg hbase)
    rw [List.map_append]; exact ho'
/-- A row of the call's own as a slice of bytes. -/
theorem seg_of_own {w : World} {base : Nat} {v : Value} {n : Nat} {zs : List Int} (h : w.ownsRow base 5 1 v n (zs.map (Value.int .u8))) (hn : n ≤ 1099511627776) (hr : ∀ z ∈ zs, 0 ≤ z ∧ z ≤ 255) :
    ∃ a c, v = .slice a n c ∧ Seg w a n c zs ∧ (a = none → c = 0) := by
  have hl : zs.length = n := by have := h.1; simpa using this
  rcases h.2 with ⟨rfl, rfl⟩ | ⟨g, cap, cur, rfl, hbg, hh, hnc, _⟩
  · exact ⟨none, 0, rfl, ⟨hl, Nat.le_refl _, hn, hr, .inl rfl⟩, fun _ => rfl⟩
  · exact ⟨_, cap, rfl, seg_own h hl hn hr hnc, fun h => by cases h⟩
/-- A row of the call's own, of elements of 'size' cells, in the block B. -/
def RowS (w : World) (e : TypeId) (size B n cap : Nat) (xs : List Value) : Prop := w.ownsRow 0 e size (.slice (some ⟨B, 0, none⟩) n cap) n xs
theorem RowS.of {w : World} {base : Nat} {e : TypeId} {size B n cap : Nat} {xs : List Value} (h : w.ownsRow base e size (.slice (some ⟨B, 0, none⟩) n cap) n xs) : RowS w e size B n cap xs := by
  refine ⟨h.1, ?_⟩
  rcases h.2 with ⟨h, _⟩ | ⟨g, cp, cur, h1, _, h3⟩
  · cases h
  · exact .inr ⟨g, cp, cur, h1, Nat.zero_le _, h3⟩
theorem RowS.block {w : World} {e : TypeId} {size B n cap : Nat} {xs : List Value} (h : RowS w e size B n cap xs) : ∃ cur, w.heap[B]? = some (.cells cur e) ∧ n ≤ cap ∧ cap ≤ maxLen ∧ cur.size = cap * size ∧ cur.toList.take (n * size) = xs := by
  rcases h.2 with ⟨h, _⟩ | ⟨g, cp, cur, h1, _, h3, h4, h5, h6, h7⟩
  · cases h
  · simp at h1
    obtain ⟨rfl, rfl⟩ := h1
    exact ⟨cur, h3, h4, h5, h6, h7⟩
theorem RowS.lt {w : World} {e : TypeId} {size B n cap : Nat} {xs : List Value} (h : RowS w e size B n cap xs) : B < w.heap.size := by
  obtain ⟨cur, h, _⟩ := h.block
  rcases Nat.lt_or_ge B w.heap.size with hl | hl
  · exact hl
  · rw [Array.getElem?_eq_none hl] at h; cases h
theorem ownS_keep {w w' : World} {base : Nat} {e : TypeId} {size : Nat} {v : Value} {n : Nat} {xs : List Value} (h : w.ownsRow base e size v n xs) (hk : ∀ B, v.ownBlock = some B → w'.heap[B]? = w.heap[B]?) : w'.ownsRow base e size v n xs := by
  refine ⟨h.1, ?_⟩
  rcases h.2 with h0 | ⟨g, cp, cur, rfl, h2, h3, h4⟩
  · exact .inl h0
  · exact .inr ⟨g, cp, cur, rfl, h2, by rw [hk g rfl]; exact h3, h4⟩
theorem RowS.keep {w w' : World} {e : TypeId} {size B n cap : Nat} {xs : List Value} (h : RowS w e size B n cap xs) (hk : w'.heap[B]? = w.heap[B]?) : RowS w' e size B n cap xs :=
  ownS_keep h (fun b hb => by
    obtain rfl : B = b := by simpa [Value.ownBlock] using hb
    exact hk)
theorem RowS.kept {S : Nat → Prop} {w w' : World} {e : TypeId} {size B n cap : Nat} {xs : List Value} (h : RowS w e size B n cap xs) (hk : Kept S w w') (hs : ¬ S B) : RowS w' e size B n cap xs := h.keep (hk.block B h.lt hs)
theorem RowS.cell {w : World} {e : TypeId} {size B n cap : Nat} {xs : List Value} (h : RowS w e size B n cap xs) (j : Nat) (hj : j < n * size) : w.cell? ⟨B, j, none⟩ = xs[j]? := by
  obtain ⟨cur, h1, h2, h3, h4, h5⟩ := h.block
  have hl : j < cur.size := by rw [h4]; exact Nat.lt_of_lt_of_le hj (Nat.mul_le_mul_right _ h2)
  rw [← h5, List.getElem?_take_of_lt hj]
  simp only [World.cell?, h1]
  simp
theorem RowS.apart {w : World} {e e' : TypeId} {s s' B B' n n' cap cap' : Nat} {xs xs' : List Value} (h : RowS w e s B n cap xs) (h' : RowS w e' s' B' n' cap' xs') (he : e ≠ e') : B ≠ B' := by
  intro hb
  subst hb
  obtain ⟨c, h1, _⟩ := h.block
  obtain ⟨c', h2, _⟩ := h'.block
  rw [h1] at h2
  simp at h2
  exact he h2.2
/-- 'append(l, x..)', l nil or a row of the call's own, x not empty. -/
theorem app_rows {P : Program} (w : World) {ops : Array Oper} {rest : List Oper} {o : Oper} {a : Act} {Q : Exit → Act → World → Prop} (hgd : o.guard = none)
    (s x : Operand) (t : TypeId) (ho : o.op = Op.call { callee := Callee.builtin Builtin.append, args := #[s, x], argTypes := #[t, t] }) (e : TypeId) (i : TypeInfo) (z : Value) (size bytes : Nat)
    (h1 : P.underlying t = some (.slice e)) (h2 : P.info? e = some i) (h3 : i.zero = some z) (h4 : i.size = size) (h5 : i.bytes = bytes) (h6 : z.cells.size = size) (h7 : 0 < size)
    (v : Value) (n : Nat) (xs : List Value) (hs : a.eval s = v) (hown : w.ownsRow 0 e size v n xs) (ad : Addr) (m c : Nat) (news : List Value) (hx : a.eval x = .slice (some ad) m c) (hn : news.length = m * size)
    (hc : ∀ j u, news[j]? = some u → w.cell? (ad.add j) = some u) (hone : ∀ u ∈ news, u.oneCell' = true) (hm : 0 < m)
    (b1 : n + m ≤ maxLen) (b2 : (n + m) * bytes ≤ 140737488355328)
    (h : ∀ (B cap : Nat) (w' : World), RowS w' e size B (n + m) cap (xs ++ news) → ((v = .slice (some ⟨B, 0, none⟩) n cap ∧ Kept (fun k => k = B) w w') ∨ (w.heap.size ≤ B ∧ Kept (fun _ => False) w w')) → wpList P ops Q rest (a.put o.dst (.slice (some ⟨B, 0, none⟩) (n + m) cap)) w') :
    wpList P ops Q (o :: rest) a w := by
  have grow : ∀ (ao : Option Addr) (cap : Nat), v = .slice ao n cap → (ao = none → n = 0 ∧ cap = 0) → (∀ b, ao = some b → ∀ (j : Nat) (y : Value), xs[j]? = some y → w.cell? (b.add j) = some y) → cap < n + m → wpList P ops Q (o :: rest) a w := by
    intro ao cap hv hnone holds hfull
    refine wpList_append_grows w hgd s x t ho e i z size bytes h1 h2 h3 h4 h5 h6 h7 ao n cap xs (hs.trans hv) hnone hown.1 holds ad m c news hx hn hc hone hfull b1 b2 ?_
    intro v' w' ho' hg'
    rcases ho'.2 with ⟨_, hz⟩ | ⟨g, cp, cur, rfl, hbase, h8⟩
    · omega
    · exact h g cp w' (RowS.of ho') (.inr ⟨hbase, (Kept.of_grown hg').mono (fun k hk => by cases hk)⟩)
  rcases hown.2 with ⟨rfl, rfl⟩ | ⟨g, cap, cur, rfl, _, hh, hnc, hcm, hsz, htk⟩
  · exact grow none 0 rfl (fun _ => ⟨rfl, rfl⟩) (fun b hb => by cases hb) (by omega)
  · by_cases hroom : n + m ≤ cap
    · refine wpList_append_fits w hgd s x t ho 0 e i size h1 h2 h4 g n cap xs hs hown ad m c news hx hn hc hone hroom ?_
      intro w' ho' hg'
      exact h g cap w' ho' (.inl ⟨rfl, (Kept.of_grown hg').mono (fun k hk => by simpa using hk)⟩)
    · refine grow (some ⟨g, 0, none⟩) cap rfl (fun hb => by cases hb) (fun b hb j y hy => ?_) (by omega)
      simp at hb
      subst hb
      have hj : j < xs.length := by
        rcases Nat.lt_or_ge j xs.length with h | h
        · exact h
        · simp [List.getElem?_eq_none h] at hy
      have hl := hown.1
      have hplain : (⟨g, 0, none⟩ : Addr).add j = ⟨g, j, none⟩ := by unfold Addr.add; split <;> simp_all
      rw [hplain, RowS.cell hown j (by omega)]
      exact hy
/-- The same, of a row that lies in the block g. -/
theorem app_rowg {P : Program} (w : World) {ops : Array Oper} {rest : List Oper} {o : Oper} {a : Act} {Q : Exit → Act → World → Prop} (hgd : o.guard = none)
    (s x : Operand) (t : TypeId) (ho : o.op = Op.call { callee := Callee.builtin Builtin.append, args := #[s, x], argTypes := #[t, t] }) (e : TypeId) (i : TypeInfo) (z : Value) (size bytes : Nat)
    (h1 : P.underlying t = some (.slice e)) (h2 : P.info? e = some i) (h3 : i.zero = some z) (h4 : i.size = size) (h5 : i.bytes = bytes) (h6 : z.cells.size = size) (h7 : 0 < size)
    (g n cap : Nat) (xs : List Value) (hs : a.eval s = .slice (some ⟨g, 0, none⟩) n cap) (hown : RowS w e size g n cap xs) (ad : Addr) (m c : Nat) (news : List Value) (hx : a.eval x = .slice (some ad) m c) (hn : news.length = m * size)
    (hc : ∀ j u, news[j]? = some u → w.cell? (ad.add j) = some u) (hone : ∀ u ∈ news, u.oneCell' = true) (hm : 0 < m)
    (b1 : n + m ≤ maxLen) (b2 : (n + m) * bytes ≤ 140737488355328)
    (h : ∀ (B cap : Nat) (w' : World), RowS w' e size B (n + m) cap (xs ++ news) → Kept (fun k => k = g) w w' → (B = g ∨ w.heap.size ≤ B) → wpList P ops Q rest (a.put o.dst (.slice (some ⟨B, 0, none⟩) (n + m) cap)) w') :
    wpList P ops Q (o :: rest) a w := by
  refine app_rows w hgd s x t ho e i z size bytes h1 h2 h3 h4 h5 h6 h7 _ n xs hs hown ad m c news hx hn hc hone hm b1 b2 ?_
  rintro B cp w' hr (⟨hv, hk⟩ | ⟨hB, hk⟩)
  · simp at hv
    obtain ⟨rfl, rfl⟩ := hv
    exact h g cap w' hr hk (.inl rfl)
  · exact h B cp w' hr (hk.mono (fun k hk => hk.elim)) (.inr hB)
/-- The writer's bytes: a row of the call's own, or a full one that is only read (the text that it begins with). -/
def Buf (w : World) (g n cap : Nat) (xs : List Value) : Prop := RowS w 5 1 g n cap xs ∨ (cap = n ∧ n ≤ 5 ∧ g < w.heap.size ∧ xs.length = n ∧ ∀ j u, xs[j]? = some u → w.cell? ⟨g, j, none⟩ = some u)
theorem Buf.lt {w : World} {g n cap : Nat} {xs : List Value} (h : Buf w g n cap xs) : g < w.heap.size := by
  rcases h with h | h
  · exact h.lt
  · exact h.2.2.1
theorem Buf.kept {S : Nat → Prop} {w w' : World} {g n cap : Nat} {xs : List Value} (h : Buf w g n cap xs) (hk : Kept S w w') (hs : ¬ S g) : Buf w' g n cap xs := by
  rcases h with h | ⟨h1, h2, h3, h4, h5⟩
  · exact .inl (h.kept hk hs)
  · exact .inr ⟨h1, h2, Nat.lt_of_lt_of_le h3 hk.size, h4, fun j u hj => hk.cell (h5 j u hj) hs⟩
theorem app_buf {P : Program} (w : World) {ops : Array Oper} {rest : List Oper} {o : Oper} {a : Act} {Q : Exit → Act → World → Prop} (hgd : o.guard = none)
    (s x : Operand) (t : TypeId) (ho : o.op = Op.call { callee := Callee.builtin Builtin.append, args := #[s, x], argTypes := #[t, t] }) (i : TypeInfo) (z : Value)
    (h1 : P.underlying t = some (.slice 5)) (h2 : P.info? 5 = some i) (h3 : i.zero = some z) (h4 : i.size = 1) (h5 : i.bytes = 1) (h6 : z.cells.size = 1)
    (g n cap : Nat) (xs : List Value) (hs : a.eval s = .slice (some ⟨g, 0, none⟩) n cap) (hown : Buf w g n cap xs) (ad : Addr) (m c : Nat) (news : List Value) (hx : a.eval x = .slice (some ad) m c) (hn : news.length = m * 1)
    (hc : ∀ j u, news[j]? = some u → w.cell? (ad.add j) = some u) (hone : ∀ u ∈ news, u.oneCell' = true) (hm : 0 < m)
    (b1 : n + m ≤ maxLen) (b2 : (n + m) * 1 ≤ 140737488355328)
    (h : ∀ (B cap : Nat) (w' : World), RowS w' 5 1 B (n + m) cap (xs ++ news) → Kept (fun k => k = g) w w' → (B = g ∨ w.heap.size ≤ B) → wpList P ops Q rest (a.put o.dst (.slice (some ⟨B, 0, none⟩) (n + m) cap)) w') :
    wpList P ops Q (o :: rest) a w := by
  rcases hown with hr | ⟨rfl, _, _, hl, hcells⟩
  · exact app_rowg w hgd s x t ho 5 i z 1 1 h1 h2 h3 h4 h5 h6 (by decide) g n cap xs hs hr ad m c news hx hn hc hone hm b1 b2 h
  · refine wpList_append_grows w hgd s x t ho 5 i z 1 1 h1 h2 h3 h4 h5 h6 (by decide) (some ⟨g, 0, none⟩) cap cap xs hs (fun hh => by cases hh) (by omega) (fun b hb j u hj => ?_) ad m c news hx hn hc hone (by omega) b1 b2 ?_
    · simp at hb
      subst hb
      have hplain : (⟨g, 0, none⟩ : Addr).add j = ⟨g, j, none⟩ := by unfold Addr.add; split <;> simp_all
      rw [hplain]
      exact hcells j u hj
    · intro v' w' ho' hg'
      rcases ho'.2 with ⟨_, hz⟩ | ⟨B, cp, cur, rfl, hbase, h8⟩
      · omega
      · exact h B cp w' (RowS.of ho') ((Kept.of_grown hg').mono (fun k hk => by cases hk)) (.inr hbase)
/-- From w to w' the writer alone is written: its cell, and its bytes' block g; they lie in g' then. -/
structure Stp (R g g' : Nat) (w w' : World) : Prop where
  k : Kept (fun k => k = R ∨ k = g) w w'
  m : g' = g ∨ w.heap.size ≤ g'
theorem Stp.refl (R g : Nat) (w : World) : Stp R g g w w := ⟨Kept.refl _ _, .inl rfl⟩
theorem Stp.trans {R g g' g'' : Nat} {w w1 w2 : World} (h : Stp R g g' w w1) (h' : Stp R g' g'' w1 w2) : Stp R g g'' w w2 := by
  refine ⟨h.k.then h'.k (fun k hk ht => ?_), ?_⟩
  · rcases ht with rfl | rfl
    · exact .inl rfl
    · rcases h.m with h | h
      · exact .inr h
      · omega
  · rcases h'.m with rfl | h2
    · exact h.m
    · exact .inr (Nat.le_trans h.k.size h2)
theorem Stp.of_below {R g : Nat} {w w' : World} (h : Below w.heap.size w w') : Stp R g g w w' :=
  ⟨⟨h.os, h.tape, h.output, h.size, fun k hk _ => h.block k hk⟩, .inl rfl⟩
theorem Stp.size {R g g' : Nat} {w w' : World} (h : Stp R g g' w w') : w.heap.size ≤ w'.heap.size := h.k.size
theorem Stp.cell {R g g' : Nat} {w w' : World} (h : Stp R g g' w w') {b o : Nat} {v : Value} (hc : w.cell? ⟨b, o, none⟩ = some v) (h1 : b ≠ R) (h2 : b ≠ g) : w'.cell? ⟨b, o, none⟩ = some v := h.k.cell hc (by simp [h1, h2])
theorem kept_of {S : Nat → Prop} {w w' : World} (h : Below w.heap.size w w') : Kept S w w' := ⟨h.os, h.tape, h.output, h.size, fun k hk _ => h.block k hk⟩
theorem cell_at {w : World} {b i : Nat} {a : Array Value} {t : TypeId} (h : w.heap[b]? = some (.cells a t)) : w.cell? ⟨b, i, none⟩ = a[i]? := by
  simp [World.cell?, h]
theorem below_new (w : World) (o : Obj) : Below w.heap.size w (w.alloc o) := (Below.refl _ _).alloc (Nat.le_refl _) _
theorem lt_of_get {α : Type} {xs : List α} {j : Nat} {x : α} (h : xs[j]? = some x) : j < xs.length := by
  rcases Nat.lt_or_ge j xs.length with hl | hl
  · exact hl
  · rw [List.getElem?_eq_none hl] at h; cases h
theorem kept_set (w : World) (b o : Nat) (v : Value) : Kept (fun k => k = b) w (w.setCell ⟨b, o, none⟩ v) := ⟨rfl, rfl, rfl, by simp [World.setCell], fun k hk hs => Below.heap_setCell _ _ _ _ (by simpa using hs)⟩
theorem Stp.set {R g g' : Nat} {w w' : World} (h : Stp R g g' w w') {b o : Nat} {v : Value} (hb : w.heap.size ≤ b) : Stp R g g' w (w'.setCell ⟨b, o, none⟩ v) :=
  ⟨h.k.then (kept_set w' b o v) (fun k hk hb' => by omega), h.m⟩
theorem Stp.block {R g g' : Nat} {w w' : World} (h : Stp R g g' w w') {b : Nat} (hb : b < w.heap.size) (h1 : b ≠ R) (h2 : b ≠ g) : w'.heap[b]? = w.heap[b]? := h.k.block b hb (by simp [h1, h2])
theorem below_drewN (w : World) (m : Nat) : Below w.heap.size w (w.drewN m) := (Kept.drewN (fun _ => False) w m).to_below (Nat.le_refl _) (fun _ _ h => h)
theorem later_cell {W W' : World} {b o : Nat} {u : Value} (hb : Below W.heap.size W W') (h : W.cell? ⟨b, o, none⟩ = some u) : W'.cell? ⟨b, o, none⟩ = some u := (hb.cell (by exact block_lt_of_cell h)).trans h
/-- Numbers of a kind, one behind the other. -/
def SI (k : IntKind) (w : World) (a : Option Addr) (n : Nat) (l : List Int) : Prop :=
  l.length = n ∧ (n = 0 ∨ ∃ b off, a = some ⟨b, off, none⟩ ∧ ∀ (j : Nat) x, l[j]? = some x → w.cell? ⟨b, off + j, none⟩ = some (.int k x))
theorem SI.later {k : IntKind} {w w' : World} {a : Option Addr} {n : Nat} {l : List Int} (h : SI k w a n l) (hb : Below w.heap.size w w') : SI k w' a n l :=
  ⟨h.1, h.2.imp id fun ⟨b, off, e, hc⟩ => ⟨b, off, e, fun j x hj => later_cell hb (hc j x hj)⟩⟩
/-- What is older stays where only newer blocks are written. -/
theorem SI.old {k : IntKind} {S : Nat → Prop} {w w' : World} {a : Option Addr} {n : Nat} {l : List Int} (h : SI k w a n l) (hk : Kept S w w') (hS : ∀ b, S b → w.heap.size ≤ b) : SI k w' a n l :=
  ⟨h.1, h.2.imp id fun ⟨b, off, e, hc⟩ => ⟨b, off, e, fun j x hj => hk.cell (hc j x hj) (fun hs => by have h1 := block_lt_of_cell (hc j x hj); have h2 := hS _ hs; simp at h1; omega)⟩⟩
abbrev PgM := (Option Addr × Nat × Nat) × List Int
abbrev FrM := Int × Int × ((Option Addr × Nat × Nat) × List Int) × ((Option Addr × Nat × Nat) × List Int)
/-- Pages. -/
structure SPg (w : World) (a : Option Addr) (n : Nat) (l : List PgM) : Prop where
  len : l.length = n
  at_ : n = 0 ∨ ∃ b off, a = some ⟨b, off, none⟩ ∧ ∀ (j : Nat) x, l[j]? = some x → w.cell? ⟨b, off + j, none⟩ = some (.slice x.1.1 x.1.2.1 x.1.2.2)
  in_ : ∀ x ∈ l, SI .u8 w x.1.1 x.1.2.1 x.2
theorem SPg.later {w w' : World} {a : Option Addr} {n : Nat} {l : List PgM} (h : SPg w a n l) (hb : Below w.heap.size w w') : SPg w' a n l :=
  ⟨h.len, h.at_.imp id fun ⟨b, off, e, hc⟩ => ⟨b, off, e, fun j x hj => later_cell hb (hc j x hj)⟩, fun x hx => (h.in_ x hx).later hb⟩
theorem SPg.old {S : Nat → Prop} {w w' : World} {a : Option Addr} {n : Nat} {l : List PgM} (h : SPg w a n l) (hk : Kept S w w') (hS : ∀ b, S b → w.heap.size ≤ b) : SPg w' a n l :=
  ⟨h.len, h.at_.imp id fun ⟨b, off, e, hc⟩ => ⟨b, off, e, fun j x hj => hk.cell (hc j x hj) (fun hs => by have h1 := block_lt_of_cell (hc j x hj); have h2 := hS _ hs; simp at h1; omega)⟩, fun x hx => (h.in_ x hx).old hk hS⟩
/-- Frames. -/
structure SFr (w : World) (a : Option Addr) (n : Nat) (l : List FrM) : Prop where
  len : l.length = n
  at_ : n = 0 ∨ ∃ b off, a = some ⟨b, off, none⟩ ∧ ∀ (j : Nat) x, l[j]? = some x → w.cell? ⟨b, off + j * 4, none⟩ = some (.int .i64 x.1) ∧ w.cell? ⟨b, off + j * 4 + 1, none⟩ = some (.int .i64 x.2.1) ∧ w.cell? ⟨b, off + j * 4 + 2, none⟩ = some (.slice x.2.2.1.1.1 x.2.2.1.1.2.1 x.2.2.1.1.2.2) ∧ w.cell? ⟨b, off + j * 4 + 3, none⟩ = some (.slice x.2.2.2.1.1 x.2.2.2.1.2.1 x.2.2.2.1.2.2)
  in_ : ∀ x ∈ l, SI .u64 w x.2.2.1.1.1 x.2.2.1.1.2.1 x.2.2.1.2 ∧ SI .u64 w x.2.2.2.1.1 x.2.2.2.1.2.1 x.2.2.2.2
theorem SFr.later {w w' : World} {a : Option Addr} {n : Nat} {l : List FrM} (h : SFr w a n l) (hb : Below w.heap.size w w') : SFr w' a n l :=
  ⟨h.len, h.at_.imp id fun ⟨b, off, e, hc⟩ => ⟨b, off, e, fun j x hj => ⟨later_cell hb (hc j x hj).1, later_cell hb (hc j x hj).2.1, later_cell hb (hc j x hj).2.2.1, later_cell hb (hc j x hj).2.2.2⟩⟩, fun x hx => ⟨(h.in_ x hx).1.later hb, (h.in_ x hx).2.later hb⟩⟩
theorem SFr.old {S : Nat → Prop} {w w' : World} {a : Option Addr} {n : Nat} {l : List FrM} (h : SFr w a n l) (hk : Kept S w w') (hS : ∀ b, S b → w.heap.size ≤ b) : SFr w' a n l :=
  ⟨h.len, h.at_.imp id fun ⟨b, off, e, hc⟩ => ⟨b, off, e, fun j x hj =>
    have hb : ¬ S b := fun hs => by have h1 := block_lt_of_cell (hc j x hj).1; have h2 := hS _ hs; simp at h1; omega
    ⟨hk.cell (hc j x hj).1 hb, hk.cell (hc j x hj).2.1 hb, hk.cell (hc j x hj).2.2.1 hb, hk.cell (hc j x hj).2.2.2 hb⟩⟩, fun x hx => ⟨(h.in_ x hx).1.old hk hS, (h.in_ x hx).2.old hk hS⟩⟩
/-- Are two lists alike, element by element? -/
def lE {α : Type} (f : α → α → Bool) (l1 l2 : List α) : Bool := decide (l1.length = l2.length) && (List.range l1.length).all fun i => (l1[i]?).elim true fun x => (l2[i]?).elim true (f x)
theorem lE_len {α : Type} {f : α → α → Bool} {l1 l2 : List α} (h : l1.length ≠ l2.length) : lE f l1 l2 = false := by simp [lE, h]
theorem lE_no {α : Type} {f : α → α → Bool} {l1 l2 : List α} {i : Nat} {x y : α} (hx : l1[i]? = some x) (hy : l2[i]? = some y) (h : f x y = false) : lE f l1 l2 = false := by
  have hi := lt_of_get hx
  unfold lE
  rw [Bool.and_eq_false_iff]
  right
  rw [List.all_eq_false]
  exact ⟨i, List.mem_range.2 hi, by simp [hx, hy, h]⟩
theorem lE_yes {α : Type} {f : α → α → Bool} {l1 l2 : List α} (hl : l1.length = l2.length) (h : ∀ (i : Nat) x y, l1[i]? = some x → l2[i]? = some y → f x y = true) : lE f l1 l2 = true := by
  unfold lE
  rw [Bool.and_eq_true]
  refine ⟨by simp [hl], ?_⟩
  rw [List.all_eq_true]
  intro i hi
  cases hx : l1[i]? with
  | none => simp
  | some x =>
    cases hy : l2[i]? with
    | none => simp
    | some y => simpa using h i x y hx hy
def iE (x y : Int) : Bool := decide (x = y)
set_option maxHeartbeats 2000000 in
theorem eqI23_in (b1 o1 b2 o2 n c1 c2 : Nat) (l1 l2 : List Int) (w : World) (h1 : l1.length = n) (h2 : l2.length = n) (hn : n ≤ 1099511627776)
    (hc1 : ∀ (j : Nat) x, l1[j]? = some x → w.cell? ⟨b1, o1 + j, none⟩ = some (.int .u64 x))
    (hc2 : ∀ (j : Nat) x, l2[j]? = some x → w.cell? ⟨b2, o2 + j, none⟩ = some (.int .u64 x)) :
    Calls Tryd.prog 48 #[.slice (some ⟨b1, o1, none⟩) n c1, .slice (some ⟨b2, o2, none⟩) n c2] w fun e w' => e = .returned (.bool (lE iE l1 l2)) ∧ Below w.heap.size w w' := by
  have hne : ((n : Int) != n) = false := by simp
  have C1 := hid hc1
  have C2 := hid hc2
  clear hc1 hc2
  go_enter Tryd.func48, Tryd.ntmps48
  go_wp2
  go_loopw [5] (fun i wr => ∃ k m : Nat, k ≤ n ∧ i = .int .i64 k ∧ wr = w.drewN m ∧ Hid (∀ (i : Nat) x y, i < k → l1[i]? = some x → l2[i]? = some y → iE x y = true)) (fun i _ => n - (intOf i).toNat)
  case atStart => exact ⟨0, 0, by omega, rfl, rfl, hid (fun i x y hi => by omega)⟩
  case round =>
    obtain ⟨k, m, hk, rfl, rfl, HE⟩ := hrel
    by_cases hlt : k < n
    · obtain ⟨x, hx⟩ : ∃ x, l1[k]? = some x := ⟨_, List.getElem?_eq_getElem (by omega)⟩
      obtain ⟨y, hy⟩ : ∃ y, l2[k]? = some y := ⟨_, List.getElem?_eq_getElem (by omega)⟩
      have g1 : w.cell? ⟨b1, o1 + k, none⟩ = some (.int .u64 x) := C1.out k x hx
      have g2 : w.cell? ⟨b2, o2 + k, none⟩ = some (.int .u64 y) := C2.out k y hy
      have hlt' : (k : Int) < (n : Int) := by omega
      have HX := hid hx
      have HY := hid hy
      clear hx hy C1 C2
      by_cases hxy : x = y
      · subst hxy
        have hb : (x != x) = false := by simp
        go_wp2
        go_quiet (fail)
        go_wp2
        exact ⟨⟨k + 1, m + nq, by omega, by go_num, rfl, hid (fun i x' y' hi hx' hy' => by
          by_cases hik : i < k
          · exact HE.out i x' y' hik hx' hy'
          · obtain rfl : i = k := by omega
            rw [HX.out] at hx'; rw [HY.out] at hy'
            injection hx' with e1; injection hy' with e2
            subst e1; subst e2
            simp [iE])⟩, by simp [intOf]; omega⟩
      · have hb : (x != y) = true := by simp [hxy]
        go_wp2
        go_quiet (fail)
        go_wp2
        go_ret
        exact ⟨by rw [lE_no HX.out HY.out (by simp [iE, hxy])]; rfl, (below_drewN w m).trans ((below_drewN (w.drewN m) nq).mono (Nat.le_of_eq (by simp)))⟩
    · clear C1 C2
      obtain rfl : k = n := by omega
      go_wp2
      go_ret
      exact ⟨by rw [lE_yes (by omega) (fun i x y hx hy => HE.out i x y (by have := lt_of_get hx; omega) hx hy)]; rfl, below_drewN _ _⟩
set_option maxHeartbeats 400000 in
theorem eqI23_len (a1 a2 : Option Addr) (n1 n2 c1 c2 : Nat) (l1 l2 : List Int) (w : World) (h1 : l1.length = n1) (h2 : l2.length = n2) (hne : n1 ≠ n2) :
    Calls Tryd.prog 48 #[.slice a1 n1 c1, .slice a2 n2 c2] w fun e w' => e = .returned (.bool (lE iE l1 l2)) ∧ Below w.heap.size w w' := by
  have hb : ((n1 : Int) != n2) = true := by simp; omega
  have HV := hid (lE_len (f := iE) (l1 := l1) (l2 := l2) (by omega))
  go_enter Tryd.func48, Tryd.ntmps48
  go_wp2
  go_ret
  exact ⟨by rw [HV.out]; rfl, Below.refl _ _⟩
set_option maxHeartbeats 400000 in
theorem eqI23_none (a1 a2 : Option Addr) (c1 c2 : Nat) (w : World) :
    Calls Tryd.prog 48 #[.slice a1 0 c1, .slice a2 0 c2] w fun e w' => e = .returned (.bool (lE iE [] [])) ∧ Below w.heap.size w w' := by
  go_enter Tryd.func48, Tryd.ntmps48
  go_wp2
  refine wp_loop_rounds 1 ?_
  rw [rounds_succ]
  go_wp2
  go_ret
  exact ⟨rfl, Below.refl _ _⟩
theorem eqI23 (a1 a2 : Option Addr) (n1 n2 c1 c2 : Nat) (l1 l2 : List Int) (w : World) (h1 : SI .u64 w a1 n1 l1) (h2 : SI .u64 w a2 n2 l2) (hn : n1 ≤ 1099511627776) :
    Calls Tryd.prog 48 #[.slice a1 n1 c1, .slice a2 n2 c2] w fun e w' => e = .returned (.bool (lE iE l1 l2)) ∧ Below w.heap.size w w' := by
  by_cases hne : n1 = n2
  · subst hne
    obtain ⟨hz1, g1⟩ := h1
    obtain ⟨hz2, g2⟩ := h2
    by_cases h0 : n1 = 0
    · subst h0
      obtain rfl := List.eq_nil_of_length_eq_zero hz1
      obtain rfl := List.eq_nil_of_length_eq_zero hz2
      exact eqI23_none a1 a2 c1 c2 w
    obtain ⟨b1, o1, rfl, e1⟩ := g1.resolve_left h0
    obtain ⟨b2, o2, rfl, e2⟩ := g2.resolve_left h0
    exact eqI23_in b1 o1 b2 o2 n1 c1 c2 l1 l2 w hz1 hz2 hn e1 e2
  · exact eqI23_len a1 a2 n1 n2 c1 c2 l1 l2 w h1.1 h2.1 hne
set_option maxHeartbeats 2000000 in
theorem eqI39_in (b1 o1 b2 o2 n c1 c2 : Nat) (l1 l2 : List Int) (w : World) (h1 : l1.length = n) (h2 : l2.length = n) (hn : n ≤ 1099511627776)
    (hc1 : ∀ (j : Nat) x, l1[j]? = some x → w.cell? ⟨b1, o1 + j, none⟩ = some (.int .u8 x))
    (hc2 : ∀ (j : Nat) x, l2[j]? = some x → w.cell? ⟨b2, o2 + j, none⟩ = some (.int .u8 x)) :
    Calls Tryd.prog 11 #[.slice (some ⟨b1, o1, none⟩) n c1, .slice (some ⟨b2, o2, none⟩) n c2] w fun e w' => e = .returned (.bool (lE iE l1 l2)) ∧ Below w.heap.size w w' := by
  have hne : ((n : Int) != n) = false := by simp
  have C1 := hid hc1
  have C2 := hid hc2
  clear hc1 hc2
  go_enter Tryd.func11, Tryd.ntmps11
  go_wp2
  go_loopw [5] (fun i wr => ∃ k m : Nat, k ≤ n ∧ i = .int .i64 k ∧ wr = w.drewN m ∧ Hid (∀ (i : Nat) x y, i < k → l1[i]? = some x → l2[i]? = some y → iE x y = true)) (fun i _ => n - (intOf i).toNat)
  case atStart => exact ⟨0, 0, by omega, rfl, rfl, hid (fun i x y hi => by omega)⟩
  case round =>
    obtain ⟨k, m, hk, rfl, rfl, HE⟩ := hrel
    by_cases hlt : k < n
    · obtain ⟨x, hx⟩ : ∃ x, l1[k]? = some x := ⟨_, List.getElem?_eq_getElem (by omega)⟩
      obtain ⟨y, hy⟩ : ∃ y, l2[k]? = some y := ⟨_, List.getElem?_eq_getElem (by omega)⟩
      have g1 : w.cell? ⟨b1, o1 + k, none⟩ = some (.int .u8 x) := C1.out k x hx
      have g2 : w.cell? ⟨b2, o2 + k, none⟩ = some (.int .u8 y) := C2.out k y hy
      have hlt' : (k : Int) < (n : Int) := by omega
      have HX := hid hx
      have HY := hid hy
      clear hx hy C1 C2
      by_cases hxy : x = y
      · subst hxy
        have hb : (x != x) = false := by simp
        go_wp2
        go_quiet (fail)
        go_wp2
        exact ⟨⟨k + 1, m + nq, by omega, by go_num, rfl, hid (fun i x' y' hi hx' hy' => by
          by_cases hik : i < k
          · exact HE.out i x' y' hik hx' hy'
          · obtain rfl : i = k := by omega
            rw [HX.out] at hx'; rw [HY.out] at hy'
            injection hx' with e1; injection hy' with e2
            subst e1; subst e2
            simp [iE])⟩, by simp [intOf]; omega⟩
      · have hb : (x != y) = true := by simp [hxy]
        go_wp2
        go_quiet (fail)
        go_wp2
        go_ret
        exact ⟨by rw [lE_no HX.out HY.out (by simp [iE, hxy])]; rfl, (below_drewN w m).trans ((below_drewN (w.drewN m) nq).mono (Nat.le_of_eq (by simp)))⟩
    · clear C1 C2
      obtain rfl : k = n := by omega
      go_wp2
      go_ret
      exact ⟨by rw [lE_yes (by omega) (fun i x y hx hy => HE.out i x y (by have := lt_of_get hx; omega) hx hy)]; rfl, below_drewN _ _⟩
set_option maxHeartbeats 400000 in
theorem eqI39_len (a1 a2 : Option Addr) (n1 n2 c1 c2 : Nat) (l1 l2 : List Int) (w : World) (h1 : l1.length = n1) (h2 : l2.length = n2) (hne : n1 ≠ n2) :
    Calls Tryd.prog 11 #[.slice a1 n1 c1, .slice a2 n2 c2] w fun e w' => e = .returned (.bool (lE iE l1 l2)) ∧ Below w.heap.size w w' := by
  have hb : ((n1 : Int) != n2) = true := by simp; omega
  have HV := hid (lE_len (f := iE) (l1 := l1) (l2 := l2) (by omega))
  go_enter Tryd.func11, Tryd.ntmps11
  go_wp2
  go_ret
  exact ⟨by rw [HV.out]; rfl, Below.refl _ _⟩
set_option maxHeartbeats 400000 in
theorem eqI39_none (a1 a2 : Option Addr) (c1 c2 : Nat) (w : World) :
    Calls Tryd.prog 11 #[.slice a1 0 c1, .slice a2 0 c2] w fun e w' => e = .returned (.bool (lE iE [] [])) ∧ Below w.heap.size w w' := by
  go_enter Tryd.func11, Tryd.ntmps11
  go_wp2
  refine wp_loop_rounds 1 ?_
  rw [rounds_succ]
  go_wp2
  go_ret
  exact ⟨rfl, Below.refl _ _⟩
theorem eqI39 (a1 a2 : Option Addr) (n1 n2 c1 c2 : Nat) (l1 l2 : List Int) (w : World) (h1 : SI .u8 w a1 n1 l1) (h2 : SI .u8 w a2 n2 l2) (hn : n1 ≤ 1099511627776) :
    Calls Tryd.prog 11 #[.slice a1 n1 c1, .slice a2 n2 c2] w fun e w' => e = .returned (.bool (lE iE l1 l2)) ∧ Below w.heap.size w w' := by
  by_cases hne : n1 = n2
  · subst hne
    obtain ⟨hz1, g1⟩ := h1
    obtain ⟨hz2, g2⟩ := h2
    by_cases h0 : n1 = 0
    · subst h0
      obtain rfl := List.eq_nil_of_length_eq_zero hz1
      obtain rfl := List.eq_nil_of_length_eq_zero hz2
      exact eqI39_none a1 a2 c1 c2 w
    obtain ⟨b1, o1, rfl, e1⟩ := g1.resolve_left h0
    obtain ⟨b2, o2, rfl, e2⟩ := g2.resolve_left h0
    exact eqI39_in b1 o1 b2 o2 n1 c1 c2 l1 l2 w hz1 hz2 hn e1 e2
  · exact eqI39_len a1 a2 n1 n2 c1 c2 l1 l2 w h1.1 h2.1 hne
theorem nb_lt {w : World} {b : Nat} {o : Obj} (h : w.heap[b]? = some o) : b < w.heap.size := by
  rcases Nat.lt_or_ge b w.heap.size with h1 | h1
  · exact h1
  · rw [Array.getElem?_eq_none h1] at h; cases h
theorem nb_later {w w' : World} {b : Nat} {o : Obj} (hb : Below w.heap.size w w') (h : w.heap[b]? = some o) : w'.heap[b]? = some o := (hb.block b (nb_lt h)).trans h
theorem nb_new (w : World) (o : Obj) : (w.alloc o).heap[w.heap.size]? = some o := (MapKept.heap_alloc w o).1
theorem nb_at {w : World} {o : Obj} {b : Nat} (h : w.heap.size = b) : (w.alloc o).heap[b]? = some o := by subst h; exact nb_new w o
/-- Are two frames alike? -/
def frE (x y : FrM) : Bool := iE x.1 y.1 && (iE x.2.1 y.2.1 && (lE iE x.2.2.1.2 y.2.2.1.2 && lE iE x.2.2.2.2 y.2.2.2.2))
def pgE (x y : PgM) : Bool := lE iE x.2 y.2
abbrev frO (f p : Int) (la : Option Addr) (ln lc : Nat) (sa : Option Addr) (sn sc : Nat) : Obj := .cells #[.int .i64 f, .int .i64 p, .slice la ln lc, .slice sa sn sc] 66
abbrev frV (x : FrM) : Value := .agg #[.int .i64 x.1, .int .i64 x.2.1, .slice x.2.2.1.1.1 x.2.2.1.1.2.1 x.2.2.1.1.2.2, .slice x.2.2.2.1.1 x.2.2.2.1.2.1 x.2.2.2.1.2.2]
/-- What a frame's lists are. -/
def SF1 (w : World) (x : FrM) : Prop := SI .u64 w x.2.2.1.1.1 x.2.2.1.1.2.1 x.2.2.1.2 ∧ SI .u64 w x.2.2.2.1.1 x.2.2.2.1.2.1 x.2.2.2.2
theorem SF1.later {w w' : World} {x : FrM} (h : SF1 w x) (hb : Below w.heap.size w w') : SF1 w' x := ⟨h.1.later hb, h.2.later hb⟩
set_option maxHeartbeats 4000000 in
theorem eqF38 (x y : FrM) (w : World) (h1 : SF1 w x) (h2 : SF1 w y) (hl : x.2.2.1.1.2.1 ≤ 1099511627776) (hs : x.2.2.2.1.2.1 ≤ 1099511627776) :
    Calls Tryd.prog 75 #[frV x, frV y] w fun e w' => e = .returned (.bool (frE x y)) ∧ Below w.heap.size w w' := by
  obtain ⟨f, p, ⟨⟨la, ln, lc⟩, ll⟩, ⟨⟨sa, sn, sc⟩, sl⟩⟩ := x
  obtain ⟨f', p', ⟨⟨la', ln', lc'⟩, ll'⟩, ⟨⟨sa', sn', sc'⟩, sl'⟩⟩ := y
  have HA := hid (fun (W : World) (hb : Below w.heap.size w W) => eqI23 la la' ln ln' lc lc' ll ll' W (h1.1.later hb) (h2.1.later hb) hl)
  have HB := hid (fun (W : World) (hb : Below w.heap.size w W) => eqI23 sa sa' sn sn' sc sc' sl sl' W (h1.2.later hb) (h2.2.later hb) hs)
  have hv : frE (f, p, ((la, ln, lc), ll), ((sa, sn, sc), sl)) (f', p', ((la', ln', lc'), ll'), ((sa', sn', sc'), sl')) = (iE f f' && (iE p p' && (lE iE ll ll' && lE iE sl sl'))) := rfl
  clear h1 h2 hl hs
  generalize frE (f, p, ((la, ln, lc), ll), ((sa, sn, sc), sl)) (f', p', ((la', ln', lc'), ll'), ((sa', sn', sc'), sl')) = V at *
  generalize lE iE ll ll' = A at *
  generalize lE iE sl sl' = B at *
  have HV := hid hv
  clear hv
  have B1 := below_new w (frO f p la ln lc sa sn sc)
  have B2 := below_new (w.alloc (frO f p la ln lc sa sn sc)) (frO f' p' la' ln' lc' sa' sn' sc')
  have B0 := hid (B1.trans (B2.mono B1.size))
  have k1 := nb_later B2 (nb_new w (frO f p la ln lc sa sn sc))
  have k2 : ((w.alloc (frO f p la ln lc sa sn sc)).alloc (frO f' p' la' ln' lc' sa' sn' sc')).heap[w.heap.size + 1]? = some (frO f' p' la' ln' lc' sa' sn' sc') := nb_at (by simp)
  have HC := hid (fun (W : World) (hb : Below ((w.alloc (frO f p la ln lc sa sn sc)).alloc (frO f' p' la' ln' lc' sa' sn' sc')).heap.size ((w.alloc (frO f p la ln lc sa sn sc)).alloc (frO f' p' la' ln' lc' sa' sn' sc')) W) =>
    (⟨later_cell hb (cell_at k1), later_cell hb (cell_at k1), later_cell hb (cell_at k1), later_cell hb (cell_at k1), later_cell hb (cell_at k2), later_cell hb (cell_at k2), later_cell hb (cell_at k2), later_cell hb (cell_at k2)⟩ :
      W.cell? ⟨w.heap.size, 0, none⟩ = some (.int .i64 f) ∧ W.cell? ⟨w.heap.size, 1, none⟩ = some (.int .i64 p) ∧ W.cell? ⟨w.heap.size, 2, none⟩ = some (.slice la ln lc) ∧ W.cell? ⟨w.heap.size, 3, none⟩ = some (.slice sa sn sc) ∧
      W.cell? ⟨w.heap.size + 1, 0, none⟩ = some (.int .i64 f') ∧ W.cell? ⟨w.heap.size + 1, 1, none⟩ = some (.int .i64 p') ∧ W.cell? ⟨w.heap.size + 1, 2, none⟩ = some (.slice la' ln' lc') ∧ W.cell? ⟨w.heap.size + 1, 3, none⟩ = some (.slice sa' sn' sc')))
  obtain ⟨c0, c1, c2, c3, d0, d1, d2, d3⟩ := HC.out _ (Below.refl _ _)
  clear B1 B2 k1 k2
  by_cases ef : f = f'
  · subst ef
    have hf : (f == f) = true := by simp
    by_cases ep : p = p'
    · subst ep
      have hp : (p == p) = true := by simp
      go_enter Tryd.func75, Tryd.ntmps75
      go_wp2_with fail
      refine (HA.out _ B0.out).mono ?_
      rintro e w5 ⟨rfl, hb5⟩
      obtain ⟨x0, x1, x2, x3, y0, y1, y2, y3⟩ := HC.out w5 hb5
      have B5 := hid (B0.out.trans (hb5.mono B0.out.size))
      clear hb5
      cases A with
      | true =>
        go_wp2_with fail
        refine (HB.out _ B5.out).mono ?_
        rintro e w6 ⟨rfl, hb6⟩
        have B6 := hid (B5.out.trans (hb6.mono B5.out.size))
        clear hb6
        cases B with
        | true =>
          go_wp2_with fail
          go_ret
          exact ⟨by rw [HV.out]; simp [iE], B6.out⟩
        | false =>
          go_wp2_with fail
          go_ret
          exact ⟨by rw [HV.out]; simp [iE], B6.out⟩
      | false =>
        go_wp2_with fail
        go_ret
        exact ⟨by rw [HV.out]; simp [iE], B5.out⟩
    · have hp : (p == p') = false := by simp [ep]
      go_enter Tryd.func75, Tryd.ntmps75
      go_wp2_with fail
      go_ret
      exact ⟨by rw [HV.out]; simp [iE, ep], B0.out⟩
  · have hf : (f == f') = false := by simp [ef]
    go_enter Tryd.func75, Tryd.ntmps75
    go_wp2_with fail
    go_ret
    exact ⟨by rw [HV.out]; simp [iE, ef], B0.out⟩
def PB (x : PgM) : Prop := x.1.2.1 ≤ 1099511627776 ∧ ∀ z ∈ x.2, 0 ≤ z ∧ z ≤ 255
def FB (x : FrM) : Prop := x.2.2.1.1.2.1 ≤ 1099511627776 ∧ x.2.2.2.1.2.1 ≤ 1099511627776
def PE (w : World) (x : PgM) : Prop := SI .u8 w x.1.1 x.1.2.1 x.2
theorem PE.later {w w' : World} {x : PgM} (h : PE w x) (hb : Below w.heap.size w w') : PE w' x := SI.later h hb
theorem convS (a : Option Addr) (n c : Nat) (l : List Int) (w : World) (h : SI .u8 w a n l) : (convert 31 9 (.slice a n c)).run Tryd.prog w = .ok (.string (strOfNums l)) w := by
  obtain ⟨hl, h⟩ := h
  by_cases h0 : n = 0
  · subst h0
    obtain rfl := List.eq_nil_of_length_eq_zero hl
    cases a with
    | none => exact run_convert_bytes_nil w 31 5 Tryd.underlying31 Tryd.underlying5 0 c 9 Tryd.underlying9
    | some ad =>
      have hl : (loadCells ad 0).run Tryd.prog w = .ok ([] : List Value).toArray w := run_loadCells_list (P := Tryd.prog) w ad [] (fun j v hj => by simp at hj)
      rw [run_convert_bytes_string w 31 9 5 _ 0 c Tryd.underlying31 Tryd.underlying5 Tryd.underlying9, run_bytesToString w _ 0 c [] hl]
      rfl
  · obtain ⟨b, off, rfl, hc⟩ := h.resolve_left h0
    refine run_convert_bytes_arg w 31 5 Tryd.underlying31 Tryd.underlying5 b off n c l hl (fun i hi => ?_) 9 Tryd.underlying9
    have hx : l[i]? = some (l.getD i 0) := by rw [List.getD_eq_getElem?_getD, List.getElem?_eq_getElem (by omega)]; rfl
    exact hc i _ hx
theorem str_inj : ∀ {l1 l2 : List Int}, (∀ z ∈ l1, 0 ≤ z ∧ z ≤ 255) → (∀ z ∈ l2, 0 ≤ z ∧ z ≤ 255) → (l1.map fun n => UInt8.ofNat n.toNat) = (l2.map fun n => UInt8.ofNat n.toNat) → l1 = l2
  | [], [], _, _, _ => rfl
  | [], y :: l2, _, _, h => by simp at h
  | x :: l1, [], _, _, h => by simp at h
  | x :: l1, y :: l2, h1, h2, h => by
    simp only [List.map_cons, List.cons.injEq] at h
    have hx := h1 x (by simp)
    have hy := h2 y (by simp)
    have e := congrArg UInt8.toNat h.1
    rw [UInt8.toNat_ofNat', UInt8.toNat_ofNat', Nat.mod_eq_of_lt (by omega), Nat.mod_eq_of_lt (by omega)] at e
    rw [str_inj (fun z hz => h1 z (by simp [hz])) (fun z hz => h2 z (by simp [hz])) h.2]
    congr 1
    omega
theorem lE_int {l1 l2 : List Int} : lE iE l1 l2 = decide (l1 = l2) := by
  by_cases h : l1 = l2
  · subst h
    rw [lE_yes rfl (fun i x y hx hy => by rw [hx] at hy; injection hy with e; simp [iE, e])]
    simp
  · rw [decide_eq_false h]
    cases hv : lE iE l1 l2 with
    | false => rfl
    | true =>
      exfalso
      apply h
      unfold lE at hv
      rw [Bool.and_eq_true] at hv
      have hl : l1.length = l2.length := by simpa using hv.1
      apply List.ext_getElem hl
      intro i hi hi2
      have := List.all_eq_true.1 hv.2 i (List.mem_range.2 hi)
      rw [List.getElem?_eq_getElem hi, List.getElem?_eq_getElem hi2] at this
      simpa [iE] using this
theorem str_eq (l1 l2 : List Int) (r1 : ∀ z ∈ l1, 0 ≤ z ∧ z ≤ 255) (r2 : ∀ z ∈ l2, 0 ≤ z ∧ z ≤ 255) : ((strOfNums l1).toList == (strOfNums l2).toList) = lE iE l1 l2 := by
  rw [lE_int]
  by_cases h : l1 = l2
  · subst h; simp
  · rw [decide_eq_false h, beq_eq_false_iff_ne]
    intro e
    apply h
    apply str_inj r1 r2
    rw [← strOfNums_data, ← strOfNums_data]
    rw [ByteArray.toList_eq, ByteArray.toList_eq] at e
    exact e
theorem beq28 (a1 a2 : Option Addr) (n1 n2 c1 c2 : Nat) (l1 l2 : List Int) (w : World) (h1 : SI .u8 w a1 n1 l1) (h2 : SI .u8 w a2 n2 l2) (r1 : ∀ z ∈ l1, 0 ≤ z ∧ z ≤ 255) (r2 : ∀ z ∈ l2, 0 ≤ z ∧ z ≤ 255) :
    Calls Tryd.prog 77 #[.slice a1 n1 c1, .slice a2 n2 c2] w fun e w' => e = .returned (.bool (lE iE l1 l2)) ∧ Below w.heap.size w w' := by
  have g1 := convS a1 n1 c1 l1 w h1
  have g2 := convS a2 n2 c2 l2 w h2
  have HV := hid (str_eq l1 l2 r1 r2)
  clear h1 h2 r1 r2
  generalize strOfNums l1 = s1 at *
  generalize strOfNums l2 = s2 at *
  go_enter Tryd.func77, Tryd.ntmps77
  go_wp2
  go_ret
  exact ⟨congrArg (fun b => Ending.returned (.bool b)) HV.out, Below.refl _ _⟩
set_option maxHeartbeats 4000000 in
theorem lst24_in (b1 o1 b2 o2 n c1 c2 : Nat) (l1 l2 : List PgM) (w : World) (h1 : l1.length = n) (h2 : l2.length = n) (hn : n ≤ 1099511627776)
    (hc1 : ∀ (j : Nat) x, l1[j]? = some x → w.cell? ⟨b1, o1 + j, none⟩ = some (.slice x.1.1 x.1.2.1 x.1.2.2)) (hc2 : ∀ (j : Nat) x, l2[j]? = some x → w.cell? ⟨b2, o2 + j, none⟩ = some (.slice x.1.1 x.1.2.1 x.1.2.2))
    (hi1 : ∀ x ∈ l1, PE w x) (hi2 : ∀ x ∈ l2, PE w x) (hb1 : ∀ x ∈ l1, PB x) (hb2 : ∀ x ∈ l2, PB x) :
    Calls Tryd.prog 49 #[.slice (some ⟨b1, o1, none⟩) n c1, .slice (some ⟨b2, o2, none⟩) n c2] w fun e w' => e = .returned (.bool (lE pgE l1 l2)) ∧ Below w.heap.size w w' := by
  have hne : ((n : Int) != n) = false := by simp
  have hK : ∀ args w, (callFunc 11 args).run Tryd.prog w = .ok (.enter 11 args) w := fun _ _ => rfl
  have C1 := hid hc1
  have C2 := hid hc2
  have I1 := hid hi1
  have I2 := hid hi2
  have D1 := hid hb1
  have D2 := hid hb2
  clear hc1 hc2 hi1 hi2 hb1 hb2
  go_enter Tryd.func49, Tryd.ntmps49
  go_wp2_with fail
  go_loopw [5] (fun i wr => ∃ k : Nat, k ≤ n ∧ i = .int .i64 k ∧ Hid (Below w.heap.size w wr) ∧ Hid (∀ (i : Nat) x y, i < k → l1[i]? = some x → l2[i]? = some y → pgE x y = true)) (fun i _ => n - (intOf i).toNat)
  case atStart => exact ⟨0, by omega, rfl, hid (Below.refl _ _), hid (fun i x y hi => by omega)⟩
  case round =>
    obtain ⟨k, hk, rfl, HB, HE⟩ := hrel
    by_cases hlt : k < n
    · obtain ⟨x, hx⟩ : ∃ x, l1[k]? = some x := ⟨_, List.getElem?_eq_getElem (by omega)⟩
      obtain ⟨y, hy⟩ : ∃ y, l2[k]? = some y := ⟨_, List.getElem?_eq_getElem (by omega)⟩
      have mx := List.mem_of_getElem? hx
      have my := List.mem_of_getElem? hy
      have HFA := hid (fun (W : World) (hW : Below wr.heap.size wr W) => (⟨later_cell (HB.out.trans (hW.mono HB.out.size)) (C1.out k x hx), later_cell (HB.out.trans (hW.mono HB.out.size)) (C2.out k y hy)⟩ : W.cell? ⟨b1, o1 + k, none⟩ = some (.slice x.1.1 x.1.2.1 x.1.2.2) ∧ W.cell? ⟨b2, o2 + k, none⟩ = some (.slice y.1.1 y.1.2.1 y.1.2.2)))
      obtain ⟨v0, v1⟩ := HFA.out wr (Below.refl _ _)
      have hlt' : (k : Int) < (n : Int) := by omega
      have kd : Below wr.heap.size wr wr.drew := (Kept.drewN (fun _ => False) wr 1).to_below (Nat.le_refl _) (fun _ _ x => x)
      have hbd := HB.out.trans (kd.mono HB.out.size)
      have HC := hid (eqI39 x.1.1 y.1.1 x.1.2.1 y.1.2.1 x.1.2.2 y.1.2.2 x.2 y.2 wr.drew ((I1.out x mx).later hbd) ((I2.out y my).later hbd) (D1.out x mx).1)
      have HX := hid hx
      have HY := hid hy
      generalize hv : pgE x y = v
      have HV2 := hid hv
      have HQ2 := hid (HC.out.mono (fun e w' h => (⟨by rw [h.1]; exact congrArg (fun b => Ending.returned (.bool b)) HV2.out, kd.trans (h.2.mono kd.size)⟩ : e = .returned (.bool v) ∧ Below wr.heap.size wr w')))
      clear hx hy mx my C1 C2 I1 I2 D1 D2 hv kd hbd HC
      cases v with
      | true =>
        go_wp2_with fail
        go_region_held3 (fun W => W.cell? ⟨b1, o1 + k, none⟩ = some (.slice x.1.1 x.1.2.1 x.1.2.2) ∧ W.cell? ⟨b2, o2 + k, none⟩ = some (.slice y.1.1 y.1.2.1 y.1.2.2)) (go_keep)
          (first | (go_at_call 11; refine HQ2.out.mono ?_; rintro e w5 ⟨rfl, hb5⟩; obtain ⟨t0, t1⟩ := HFA.out _ hb5; have HB5 := hid (HB.out.trans (hb5.mono HB.out.size)); clear hb5))
        go_wp2_with fail
        exact ⟨⟨k + 1, by omega, by go_num, HB5, hid (fun i x' y' hi hx' hy' => by
          by_cases hik : i < k
          · exact HE.out i x' y' hik hx' hy'
          · obtain rfl : i = k := by omega
            rw [HX.out] at hx'; rw [HY.out] at hy'
            injection hx' with e1; injection hy' with e2
            subst e1; subst e2
            exact HV2.out)⟩, by simp [intOf]; omega⟩
      | false =>
        go_wp2_with fail
        go_region_held3 (fun W => W.cell? ⟨b1, o1 + k, none⟩ = some (.slice x.1.1 x.1.2.1 x.1.2.2) ∧ W.cell? ⟨b2, o2 + k, none⟩ = some (.slice y.1.1 y.1.2.1 y.1.2.2)) (go_keep)
          (first | (go_at_call 11; refine HQ2.out.mono ?_; rintro e w5 ⟨rfl, hb5⟩; obtain ⟨t0, t1⟩ := HFA.out _ hb5; have HB5 := hid (HB.out.trans (hb5.mono HB.out.size)); clear hb5))
        go_wp2_with fail
        go_ret
        exact ⟨by rw [lE_no HX.out HY.out HV2.out]; rfl, HB5.out⟩
    · clear C1 C2 I1 I2 D1 D2
      obtain rfl : k = n := by omega
      go_wp2_with fail
      go_ret
      exact ⟨by rw [lE_yes (by omega) (fun i x y hx hy => HE.out i x y (by have := lt_of_get hx; omega) hx hy)]; rfl, HB.out⟩
set_option maxHeartbeats 400000 in
theorem lst24_len (a1 a2 : Option Addr) (n1 n2 c1 c2 : Nat) (l1 l2 : List PgM) (w : World) (h1 : l1.length = n1) (h2 : l2.length = n2) (hne : n1 ≠ n2) :
    Calls Tryd.prog 49 #[.slice a1 n1 c1, .slice a2 n2 c2] w fun e w' => e = .returned (.bool (lE pgE l1 l2)) ∧ Below w.heap.size w w' := by
  have hb : ((n1 : Int) != n2) = true := by simp; omega
  have HV := hid (lE_len (f := pgE) (l1 := l1) (l2 := l2) (by omega))
  go_enter Tryd.func49, Tryd.ntmps49
  go_wp2
  go_ret
  exact ⟨by rw [HV.out]; rfl, Below.refl _ _⟩
set_option maxHeartbeats 400000 in
theorem lst24_none (a1 a2 : Option Addr) (c1 c2 : Nat) (w : World) :
    Calls Tryd.prog 49 #[.slice a1 0 c1, .slice a2 0 c2] w fun e w' => e = .returned (.bool (lE pgE [] [])) ∧ Below w.heap.size w w' := by
  go_enter Tryd.func49, Tryd.ntmps49
  go_wp2
  refine wp_loop_rounds 1 ?_
  rw [rounds_succ]
  go_wp2
  go_ret
  exact ⟨rfl, Below.refl _ _⟩
theorem lst24 (a1 a2 : Option Addr) (n1 n2 c1 c2 : Nat) (l1 l2 : List PgM) (w : World) (h1 : SPg w a1 n1 l1) (h2 : SPg w a2 n2 l2) (hn : n1 ≤ 1099511627776) (hb1 : ∀ x ∈ l1, PB x) (hb2 : ∀ x ∈ l2, PB x) :
    Calls Tryd.prog 49 #[.slice a1 n1 c1, .slice a2 n2 c2] w fun e w' => e = .returned (.bool (lE pgE l1 l2)) ∧ Below w.heap.size w w' := by
  by_cases hne : n1 = n2
  · subst hne
    by_cases h0 : n1 = 0
    · subst h0
      obtain rfl := List.eq_nil_of_length_eq_zero h1.len
      obtain rfl := List.eq_nil_of_length_eq_zero h2.len
      exact lst24_none a1 a2 c1 c2 w
    obtain ⟨b1, o1, rfl, e1⟩ := h1.at_.resolve_left h0
    obtain ⟨b2, o2, rfl, e2⟩ := h2.at_.resolve_left h0
    exact lst24_in b1 o1 b2 o2 n1 c1 c2 l1 l2 w h1.len h2.len hn e1 e2 h1.in_ h2.in_ hb1 hb2
  · exact lst24_len a1 a2 n1 n2 c1 c2 l1 l2 w h1.len h2.len hne
set_option maxHeartbeats 4000000 in
theorem lst22_in (b1 o1 b2 o2 n c1 c2 : Nat) (l1 l2 : List FrM) (w : World) (h1 : l1.length = n) (h2 : l2.length = n) (hn : n ≤ 1099511627776)
    (hc1 : ∀ (j : Nat) x, l1[j]? = some x → w.cell? ⟨b1, o1 + j * 4, none⟩ = some (.int .i64 x.1) ∧ w.cell? ⟨b1, o1 + j * 4 + 1, none⟩ = some (.int .i64 x.2.1) ∧ w.cell? ⟨b1, o1 + j * 4 + 2, none⟩ = some (.slice x.2.2.1.1.1 x.2.2.1.1.2.1 x.2.2.1.1.2.2) ∧ w.cell? ⟨b1, o1 + j * 4 + 3, none⟩ = some (.slice x.2.2.2.1.1 x.2.2.2.1.2.1 x.2.2.2.1.2.2)) (hc2 : ∀ (j : Nat) x, l2[j]? = some x → w.cell? ⟨b2, o2 + j * 4, none⟩ = some (.int .i64 x.1) ∧ w.cell? ⟨b2, o2 + j * 4 + 1, none⟩ = some (.int .i64 x.2.1) ∧ w.cell? ⟨b2, o2 + j * 4 + 2, none⟩ = some (.slice x.2.2.1.1.1 x.2.2.1.1.2.1 x.2.2.1.1.2.2) ∧ w.cell? ⟨b2, o2 + j * 4 + 3, none⟩ = some (.slice x.2.2.2.1.1 x.2.2.2.1.2.1 x.2.2.2.1.2.2))
    (hi1 : ∀ x ∈ l1, SF1 w x) (hi2 : ∀ x ∈ l2, SF1 w x) (hb1 : ∀ x ∈ l1, FB x) (hb2 : ∀ x ∈ l2, FB x) :
    Calls Tryd.prog 47 #[.slice (some ⟨b1, o1, none⟩) n c1, .slice (some ⟨b2, o2, none⟩) n c2] w fun e w' => e = .returned (.bool (lE frE l1 l2)) ∧ Below w.heap.size w w' := by
  have hne : ((n : Int) != n) = false := by simp
  have hK : ∀ args w, (callFunc 75 args).run Tryd.prog w = .ok (.enter 75 args) w := fun _ _ => rfl
  have C1 := hid hc1
  have C2 := hid hc2
  have I1 := hid hi1
  have I2 := hid hi2
  have D1 := hid hb1
  have D2 := hid hb2
  clear hc1 hc2 hi1 hi2 hb1 hb2
  go_enter Tryd.func47, Tryd.ntmps47
  go_wp2_with fail
  go_loopw [5] (fun i wr => ∃ k : Nat, k ≤ n ∧ i = .int .i64 k ∧ Hid (Below w.heap.size w wr) ∧ Hid (∀ (i : Nat) x y, i < k → l1[i]? = some x → l2[i]? = some y → frE x y = true)) (fun i _ => n - (intOf i).toNat)
  case atStart => exact ⟨0, by omega, rfl, hid (Below.refl _ _), hid (fun i x y hi => by omega)⟩
  case round =>
    obtain ⟨k, hk, rfl, HB, HE⟩ := hrel
    by_cases hlt : k < n
    · obtain ⟨x, hx⟩ : ∃ x, l1[k]? = some x := ⟨_, List.getElem?_eq_getElem (by omega)⟩
      obtain ⟨y, hy⟩ : ∃ y, l2[k]? = some y := ⟨_, List.getElem?_eq_getElem (by omega)⟩
      have mx := List.mem_of_getElem? hx
      have my := List.mem_of_getElem? hy
      have HFA := hid (fun (W : World) (hW : Below wr.heap.size wr W) => (⟨later_cell (HB.out.trans (hW.mono HB.out.size)) (C1.out k x hx).1, later_cell (HB.out.trans (hW.mono HB.out.size)) (C1.out k x hx).2.1, later_cell (HB.out.trans (hW.mono HB.out.size)) (C1.out k x hx).2.2.1, later_cell (HB.out.trans (hW.mono HB.out.size)) (C1.out k x hx).2.2.2, later_cell (HB.out.trans (hW.mono HB.out.size)) (C2.out k y hy).1, later_cell (HB.out.trans (hW.mono HB.out.size)) (C2.out k y hy).2.1, later_cell (HB.out.trans (hW.mono HB.out.size)) (C2.out k y hy).2.2.1, later_cell (HB.out.trans (hW.mono HB.out.size)) (C2.out k y hy).2.2.2⟩ : W.cell? ⟨b1, o1 + k * 4, none⟩ = some (.int .i64 x.1) ∧ W.cell? ⟨b1, o1 + k * 4 + 1, none⟩ = some (.int .i64 x.2.1) ∧ W.cell? ⟨b1, o1 + k * 4 + 2, none⟩ = some (.slice x.2.2.1.1.1 x.2.2.1.1.2.1 x.2.2.1.1.2.2) ∧ W.cell? ⟨b1, o1 + k * 4 + 3, none⟩ = some (.slice x.2.2.2.1.1 x.2.2.2.1.2.1 x.2.2.2.1.2.2) ∧ W.cell? ⟨b2, o2 + k * 4, none⟩ = some (.int .i64 y.1) ∧ W.cell? ⟨b2, o2 + k * 4 + 1, none⟩ = some (.int .i64 y.2.1) ∧ W.cell? ⟨b2, o2 + k * 4 + 2, none⟩ = some (.slice y.2.2.1.1.1 y.2.2.1.1.2.1 y.2.2.1.1.2.2) ∧ W.cell? ⟨b2, o2 + k * 4 + 3, none⟩ = some (.slice y.2.2.2.1.1 y.2.2.2.1.2.1 y.2.2.2.1.2.2)))
      obtain ⟨v0, v1, v2, v3, v4, v5, v6, v7⟩ := HFA.out wr (Below.refl _ _)
      have hlt' : (k : Int) < (n : Int) := by omega
      have kd : Below wr.heap.size wr wr.drew := (Kept.drewN (fun _ => False) wr 1).to_below (Nat.le_refl _) (fun _ _ x => x)
      have hbd := HB.out.trans (kd.mono HB.out.size)
      have HC := hid (eqF38 x y wr.drew ((I1.out x mx).later hbd) ((I2.out y my).later hbd) (D1.out x mx).1 (D1.out x mx).2)
      have HX := hid hx
      have HY := hid hy
      generalize hv : frE x y = v
      have HV2 := hid hv
      have HQ2 := hid (HC.out.mono (fun e w' h => (⟨by rw [h.1]; exact congrArg (fun b => Ending.returned (.bool b)) HV2.out, kd.trans (h.2.mono kd.size)⟩ : e = .returned (.bool v) ∧ Below wr.heap.size wr w')))
      clear hx hy mx my C1 C2 I1 I2 D1 D2 hv kd hbd HC
      cases v with
      | true =>
        go_wp2_with fail
        go_region_held3 (fun W => W.cell? ⟨b1, o1 + k * 4, none⟩ = some (.int .i64 x.1) ∧ W.cell? ⟨b1, o1 + k * 4 + 1, none⟩ = some (.int .i64 x.2.1) ∧ W.cell? ⟨b1, o1 + k * 4 + 2, none⟩ = some (.slice x.2.2.1.1.1 x.2.2.1.1.2.1 x.2.2.1.1.2.2) ∧ W.cell? ⟨b1, o1 + k * 4 + 3, none⟩ = some (.slice x.2.2.2.1.1 x.2.2.2.1.2.1 x.2.2.2.1.2.2) ∧ W.cell? ⟨b2, o2 + k * 4, none⟩ = some (.int .i64 y.1) ∧ W.cell? ⟨b2, o2 + k * 4 + 1, none⟩ = some (.int .i64 y.2.1) ∧ W.cell? ⟨b2, o2 + k * 4 + 2, none⟩ = some (.slice y.2.2.1.1.1 y.2.2.1.1.2.1 y.2.2.1.1.2.2) ∧ W.cell? ⟨b2, o2 + k * 4 + 3, none⟩ = some (.slice y.2.2.2.1.1 y.2.2.2.1.2.1 y.2.2.2.1.2.2)) (go_keep)
          (first | (go_at_call 75; refine HQ2.out.mono ?_; rintro e w5 ⟨rfl, hb5⟩; obtain ⟨t0, t1, t2, t3, t4, t5, t6, t7⟩ := HFA.out _ hb5; have HB5 := hid (HB.out.trans (hb5.mono HB.out.size)); clear hb5))
        go_wp2_with fail
        exact ⟨⟨k + 1, by omega, by go_num, HB5, hid (fun i x' y' hi hx' hy' => by
          by_cases hik : i < k
          · exact HE.out i x' y' hik hx' hy'
          · obtain rfl : i = k := by omega
            rw [HX.out] at hx'; rw [HY.out] at hy'
            injection hx' with e1; injection hy' with e2
            subst e1; subst e2
            exact HV2.out)⟩, by simp [intOf]; omega⟩
      | false =>
        go_wp2_with fail
        go_region_held3 (fun W => W.cell? ⟨b1, o1 + k * 4, none⟩ = some (.int .i64 x.1) ∧ W.cell? ⟨b1, o1 + k * 4 + 1, none⟩ = some (.int .i64 x.2.1) ∧ W.cell? ⟨b1, o1 + k * 4 + 2, none⟩ = some (.slice x.2.2.1.1.1 x.2.2.1.1.2.1 x.2.2.1.1.2.2) ∧ W.cell? ⟨b1, o1 + k * 4 + 3, none⟩ = some (.slice x.2.2.2.1.1 x.2.2.2.1.2.1 x.2.2.2.1.2.2) ∧ W.cell? ⟨b2, o2 + k * 4, none⟩ = some (.int .i64 y.1) ∧ W.cell? ⟨b2, o2 + k * 4 + 1, none⟩ = some (.int .i64 y.2.1) ∧ W.cell? ⟨b2, o2 + k * 4 + 2, none⟩ = some (.slice y.2.2.1.1.1 y.2.2.1.1.2.1 y.2.2.1.1.2.2) ∧ W.cell? ⟨b2, o2 + k * 4 + 3, none⟩ = some (.slice y.2.2.2.1.1 y.2.2.2.1.2.1 y.2.2.2.1.2.2)) (go_keep)
          (first | (go_at_call 75; refine HQ2.out.mono ?_; rintro e w5 ⟨rfl, hb5⟩; obtain ⟨t0, t1, t2, t3, t4, t5, t6, t7⟩ := HFA.out _ hb5; have HB5 := hid (HB.out.trans (hb5.mono HB.out.size)); clear hb5))
        go_wp2_with fail
        go_ret
        exact ⟨by rw [lE_no HX.out HY.out HV2.out]; rfl, HB5.out⟩
    · clear C1 C2 I1 I2 D1 D2
      obtain rfl : k = n := by omega
      go_wp2_with fail
      go_ret
      exact ⟨by rw [lE_yes (by omega) (fun i x y hx hy => HE.out i x y (by have := lt_of_get hx; omega) hx hy)]; rfl, HB.out⟩
set_option maxHeartbeats 400000 in
theorem lst22_len (a1 a2 : Option Addr) (n1 n2 c1 c2 : Nat) (l1 l2 : List FrM) (w : World) (h1 : l1.length = n1) (h2 : l2.length = n2) (hne : n1 ≠ n2) :
    Calls Tryd.prog 47 #[.slice a1 n1 c1, .slice a2 n2 c2] w fun e w' => e = .returned (.bool (lE frE l1 l2)) ∧ Below w.heap.size w w' := by
  have hb : ((n1 : Int) != n2) = true := by simp; omega
  have HV := hid (lE_len (f := frE) (l1 := l1) (l2 := l2) (by omega))
  go_enter Tryd.func47, Tryd.ntmps47
  go_wp2
  go_ret
  exact ⟨by rw [HV.out]; rfl, Below.refl _ _⟩
set_option maxHeartbeats 400000 in
theorem lst22_none (a1 a2 : Option Addr) (c1 c2 : Nat) (w : World) :
    Calls Tryd.prog 47 #[.slice a1 0 c1, .slice a2 0 c2] w fun e w' => e = .returned (.bool (lE frE [] [])) ∧ Below w.heap.size w w' := by
  go_enter Tryd.func47, Tryd.ntmps47
  go_wp2
  refine wp_loop_rounds 1 ?_
  rw [rounds_succ]
  go_wp2
  go_ret
  exact ⟨rfl, Below.refl _ _⟩
theorem lst22 (a1 a2 : Option Addr) (n1 n2 c1 c2 : Nat) (l1 l2 : List FrM) (w : World) (h1 : SFr w a1 n1 l1) (h2 : SFr w a2 n2 l2) (hn : n1 ≤ 1099511627776) (hb1 : ∀ x ∈ l1, FB x) (hb2 : ∀ x ∈ l2, FB x) :
    Calls Tryd.prog 47 #[.slice a1 n1 c1, .slice a2 n2 c2] w fun e w' => e = .returned (.bool (lE frE l1 l2)) ∧ Below w.heap.size w w' := by
  by_cases hne : n1 = n2
  · subst hne
    by_cases h0 : n1 = 0
    · subst h0
      obtain rfl := List.eq_nil_of_length_eq_zero h1.len
      obtain rfl := List.eq_nil_of_length_eq_zero h2.len
      exact lst22_none a1 a2 c1 c2 w
    obtain ⟨b1, o1, rfl, e1⟩ := h1.at_.resolve_left h0
    obtain ⟨b2, o2, rfl, e2⟩ := h2.at_.resolve_left h0
    exact lst22_in b1 o1 b2 o2 n1 c1 c2 l1 l2 w h1.len h2.len hn e1 e2 h1.in_ h2.in_ hb1 hb2
  · exact lst22_len a1 a2 n1 n2 c1 c2 l1 l2 w h1.len h2.len hne
/-- A state. -/
structure StM where
  fa : Option Addr
  fn : Nat
  fc : Nat
  fs : List FrM
  ga : Option Addr
  gn : Nat
  gc : Nat
  gs : List Int
  pa : Option Addr
  pn : Nat
  pc : Nat
  ps : List PgM
  rep : Int
  en : Int
  ra : Option Addr
  rn : Nat
  rc : Nat
  rs : List Int
  tr : Int
  us : Int
abbrev stAr (s : StM) : Array Value := #[.slice s.fa s.fn s.fc, .slice s.ga s.gn s.gc, .slice s.pa s.pn s.pc, .int .i64 s.rep, .int .i8 s.en, .slice s.ra s.rn s.rc, .int .i8 s.tr, .int .i64 s.us]
structure SSt (w : World) (s : StM) : Prop where
  fr : SFr w s.fa s.fn s.fs
  gl : SI .u64 w s.ga s.gn s.gs
  pg : SPg w s.pa s.pn s.ps
  rs : SI .u64 w s.ra s.rn s.rs
theorem SSt.later {w w' : World} {s : StM} (h : SSt w s) (hb : Below w.heap.size w w') : SSt w' s := ⟨h.fr.later hb, h.gl.later hb, h.pg.later hb, h.rs.later hb⟩
theorem SSt.old {S : Nat → Prop} {w w' : World} {s : StM} (h : SSt w s) (hk : Kept S w w') (hS : ∀ b, S b → w.heap.size ≤ b) : SSt w' s := ⟨h.fr.old hk hS, h.gl.old hk hS, h.pg.old hk hS, h.rs.old hk hS⟩
structure SB (s : StM) : Prop where
  fb : ∀ x ∈ s.fs, FB x
  pb : ∀ x ∈ s.ps, PB x
  f : s.fn ≤ 1099511627776
  g : s.gn ≤ 1099511627776
  p : s.pn ≤ 1099511627776
  r : s.rn ≤ 1099511627776
/-- Are two states alike? -/
def stE (s t : StM) : Bool := iE s.rep t.rep && (iE s.en t.en && (iE s.tr t.tr && (iE s.us t.us && (lE frE s.fs t.fs && (lE iE s.gs t.gs && (lE pgE s.ps t.ps && lE iE s.rs t.rs))))))
theorem stE_one (s t : StM) : stE s t = (iE s.rep t.rep && (iE s.en t.en && (iE s.tr t.tr && (iE s.us t.us && (lE frE s.fs t.fs && (lE iE s.gs t.gs && (lE pgE s.ps t.ps && lE iE s.rs t.rs))))))) := rfl
set_option maxHeartbeats 8000000 in
theorem eqS7 (s t : StM) (w : World) (h1 : SSt w s) (h2 : SSt w t) (b1 : SB s) (b2 : SB t) :
    Calls Tryd.prog 13 #[.agg (stAr s), .agg (stAr t)] w fun e w' => e = .returned (.bool (stE s t)) ∧ Below w.heap.size w w' := by
  have H0 := hid (fun (W : World) (hb : Below w.heap.size w W) => lst22 s.fa t.fa s.fn t.fn s.fc t.fc s.fs t.fs W (h1.fr.later hb) (h2.fr.later hb) b1.f b1.fb b2.fb)
  have H1 := hid (fun (W : World) (hb : Below w.heap.size w W) => eqI23 s.ga t.ga s.gn t.gn s.gc t.gc s.gs t.gs W (h1.gl.later hb) (h2.gl.later hb) b1.g)
  have H2 := hid (fun (W : World) (hb : Below w.heap.size w W) => lst24 s.pa t.pa s.pn t.pn s.pc t.pc s.ps t.ps W (h1.pg.later hb) (h2.pg.later hb) b1.p b1.pb b2.pb)
  have H3 := hid (fun (W : World) (hb : Below w.heap.size w W) => eqI23 s.ra t.ra s.rn t.rn s.rc t.rc s.rs t.rs W (h1.rs.later hb) (h2.rs.later hb) b1.r)
  have hv := stE_one s t
  clear h1 h2 b1 b2
  generalize stE s t = V at *
  generalize lE frE s.fs t.fs = A0 at *
  generalize lE iE s.gs t.gs = A1 at *
  generalize lE pgE s.ps t.ps = A2 at *
  generalize lE iE s.rs t.rs = A3 at *
  have HV := hid hv
  clear hv
  have B1 := below_new w (.cells (stAr s) 27)
  have B2 := below_new (w.alloc (.cells (stAr s) 27)) (.cells (stAr t) 27)
  have B0 := hid (B1.trans (B2.mono B1.size))
  have k1 := nb_later B2 (nb_new w (.cells (stAr s) 27))
  have k2 : ((w.alloc (.cells (stAr s) 27)).alloc (.cells (stAr t) 27)).heap[w.heap.size + 1]? = some (.cells (stAr t) 27) := nb_at (by simp)
  have HC := hid (fun (W : World) (hb : Below ((w.alloc (.cells (stAr s) 27)).alloc (.cells (stAr t) 27)).heap.size ((w.alloc (.cells (stAr s) 27)).alloc (.cells (stAr t) 27)) W) =>
    (⟨later_cell hb (cell_at k1), later_cell hb (cell_at k1), later_cell hb (cell_at k1), later_cell hb (cell_at k1), later_cell hb (cell_at k1), later_cell hb (cell_at k1), later_cell hb (cell_at k1), later_cell hb (cell_at k1), later_cell hb (cell_at k2), later_cell hb (cell_at k2), later_cell hb (cell_at k2), later_cell hb (cell_at k2), later_cell hb (cell_at k2), later_cell hb (cell_at k2), later_cell hb (cell_at k2), later_cell hb (cell_at k2)⟩ :
      W.cell? ⟨w.heap.size, 0, none⟩ = some (.slice s.fa s.fn s.fc) ∧ W.cell? ⟨w.heap.size, 1, none⟩ = some (.slice s.ga s.gn s.gc) ∧ W.cell? ⟨w.heap.size, 2, none⟩ = some (.slice s.pa s.pn s.pc) ∧ W.cell? ⟨w.heap.size, 3, none⟩ = some (.int .i64 s.rep) ∧ W.cell? ⟨w.heap.size, 4, none⟩ = some (.int .i8 s.en) ∧ W.cell? ⟨w.heap.size, 5, none⟩ = some (.slice s.ra s.rn s.rc) ∧ W.cell? ⟨w.heap.size, 6, none⟩ = some (.int .i8 s.tr) ∧ W.cell? ⟨w.heap.size, 7, none⟩ = some (.int .i64 s.us) ∧ W.cell? ⟨w.heap.size + 1, 0, none⟩ = some (.slice t.fa t.fn t.fc) ∧ W.cell? ⟨w.heap.size + 1, 1, none⟩ = some (.slice t.ga t.gn t.gc) ∧ W.cell? ⟨w.heap.size + 1, 2, none⟩ = some (.slice t.pa t.pn t.pc) ∧ W.cell? ⟨w.heap.size + 1, 3, none⟩ = some (.int .i64 t.rep) ∧ W.cell? ⟨w.heap.size + 1, 4, none⟩ = some (.int .i8 t.en) ∧ W.cell? ⟨w.heap.size + 1, 5, none⟩ = some (.slice t.ra t.rn t.rc) ∧ W.cell? ⟨w.heap.size + 1, 6, none⟩ = some (.int .i8 t.tr) ∧ W.cell? ⟨w.heap.size + 1, 7, none⟩ = some (.int .i64 t.us)))
  obtain ⟨c0, c1, c2, c3, c4, c5, c6, c7, c8, c9, c10, c11, c12, c13, c14, c15⟩ := HC.out _ (Below.refl _ _)
  clear B1 B2 k1 k2
  obtain ⟨fa, fn, fc, fs, ga, gn, gc, gs, pa, pn, pc, ps, rep, en, ra, rn, rc, rs, tr, us⟩ := s
  obtain ⟨fa', fn', fc', fs', ga', gn', gc', gs', pa', pn', pc', ps', rep', en', ra', rn', rc', rs', tr', us'⟩ := t
  dsimp only at *
  by_cases e0 : rep = rep'
  · subst e0
    have f0 : (rep == rep) = true := by simp
    by_cases e1 : en = en'
    · subst e1
      have f1 : (en == en) = true := by simp
      by_cases e2 : tr = tr'
      · subst e2
        have f2 : (tr == tr) = true := by simp
        by_cases e3 : us = us'
        · subst e3
          have f3 : (us == us) = true := by simp
          go_enter Tryd.func13, Tryd.ntmps13
          go_wp2_with fail
          refine (H0.out _ B0.out).mono ?_
          rintro e w5 ⟨rfl, hb⟩
          have B5 := hid (B0.out.trans (hb.mono B0.out.size))
          have hbb := hid hb
          obtain ⟨x0_0, x0_1, x0_2, x0_3, x0_4, x0_5, x0_6, x0_7, x0_8, x0_9, x0_10, x0_11, x0_12, x0_13, x0_14, x0_15⟩ := HC.out w5 hbb.out
          clear hb
          cases A0 with
          | false =>
            go_wp2_with fail
            go_ret
            exact ⟨by rw [HV.out]; simp [iE], B5.out⟩
          | true =>
            go_wp2_with fail
            refine (H1.out _ B5.out).mono ?_
            rintro e w6 ⟨rfl, hb⟩
            have B6 := hid (B5.out.trans (hb.mono B5.out.size))
            have hbb := hid (hbb.out.trans (hb.mono hbb.out.size))
            obtain ⟨x1_0, x1_1, x1_2, x1_3, x1_4, x1_5, x1_6, x1_7, x1_8, x1_9, x1_10, x1_11, x1_12, x1_13, x1_14, x1_15⟩ := HC.out w6 hbb.out
            clear hb
            cases A1 with
            | false =>
              go_wp2_with fail
              go_ret
              exact ⟨by rw [HV.out]; simp [iE], B6.out⟩
            | true =>
              go_wp2_with fail
              refine (H2.out _ B6.out).mono ?_
              rintro e w7 ⟨rfl, hb⟩
              have B7 := hid (B6.out.trans (hb.mono B6.out.size))
              have hbb := hid (hbb.out.trans (hb.mono hbb.out.size))
              obtain ⟨x2_0, x2_1, x2_2, x2_3, x2_4, x2_5, x2_6, x2_7, x2_8, x2_9, x2_10, x2_11, x2_12, x2_13, x2_14, x2_15⟩ := HC.out w7 hbb.out
              clear hb
              cases A2 with
              | false =>
                go_wp2_with fail
                go_ret
                exact ⟨by rw [HV.out]; simp [iE], B7.out⟩
              | true =>
                go_wp2_with fail
                refine (H3.out _ B7.out).mono ?_
                rintro e w8 ⟨rfl, hb⟩
                have B8 := hid (B7.out.trans (hb.mono B7.out.size))
                clear hb
                cases A3 with
                | false =>
                  go_wp2_with fail
                  go_ret
                  exact ⟨by rw [HV.out]; simp [iE], B8.out⟩
                | true =>
                  go_wp2_with fail
                  go_ret
                  exact ⟨by rw [HV.out]; simp [iE], B8.out⟩
        · have f3 : (us == us') = false := by simp [e3]
          go_enter Tryd.func13, Tryd.ntmps13
          go_wp2_with fail
          go_ret
          exact ⟨by rw [HV.out]; simp [iE, e3], B0.out⟩
      · have f2 : (tr == tr') = false := by simp [e2]
        go_enter Tryd.func13, Tryd.ntmps13
        go_wp2_with fail
        go_ret
        exact ⟨by rw [HV.out]; simp [iE, e2], B0.out⟩
    · have f1 : (en == en') = false := by simp [e1]
      go_enter Tryd.func13, Tryd.ntmps13
      go_wp2_with fail
      go_ret
      exact ⟨by rw [HV.out]; simp [iE, e1], B0.out⟩
  · have f0 : (rep == rep') = false := by simp [e0]
    go_enter Tryd.func13, Tryd.ntmps13
    go_wp2_with fail
    go_ret
    exact ⟨by rw [HV.out]; simp [iE, e0], B0.out⟩
/-- The cells of a list. -/
def Fl (w : World) (a : Option Addr) (n : Nat) (fl : List Value) : Prop := n = 0 ∨ ∃ b off, a = some ⟨b, off, none⟩ ∧ ∀ (j : Nat) y, fl[j]? = some y → w.cell? ⟨b, off + j, none⟩ = some y
theorem Fl.later {w w' : World} {a : Option Addr} {n : Nat} {fl : List Value} (h : Fl w a n fl) (hb : Below w.heap.size w w') : Fl w' a n fl := by
  rcases h with h | ⟨b, off, e, h⟩
  · exact .inl h
  · exact .inr ⟨b, off, e, fun j y hj => later_cell hb (h j y hj)⟩
/-- The cells of elements of k cells each. -/
theorem fm_get {α β : Type} (g : α → List β) (k : Nat) (hk : ∀ x, (g x).length = k) : ∀ (l : List α) (i q : Nat), q < k → (l.flatMap g)[i * k + q]? = (l[i]?).bind fun x => (g x)[q]?
  | [], i, q, _ => by simp
  | x :: l, 0, q, hq => by
    rw [List.flatMap_cons, List.getElem?_append_left (by rw [hk]; omega)]
    simp
  | x :: l, i + 1, q, hq => by
    have ih := fm_get g k hk l i q hq
    rw [List.flatMap_cons, List.getElem?_append_right (by rw [hk, Nat.succ_mul]; omega), hk]
    rw [show (i + 1) * k + q - k = i * k + q by rw [Nat.succ_mul]; omega, ih]
    simp
/-- A row of the call's own, element by element. -/
theorem own_fm {α : Type} {w : World} {base e n k : Nat} {v : Value} (g : α → List Value) (hk : ∀ x, (g x).length = k) {l : List α} (h : w.ownsRow base e k v n (l.flatMap g)) (hn : l.length = n) :
    ∃ a c, v = .slice a n c ∧ n ≤ c ∧ (∀ b off cc, a = some ⟨b, off, cc⟩ → base ≤ b ∧ b < w.heap.size ∧ ∃ cur, w.heap[b]? = some (.cells cur e)) ∧ (n = 0 ∨ ∃ b off, a = some ⟨b, off, none⟩ ∧ off = 0 ∧ ∀ (j : Nat) x, l[j]? = some x → ∀ q, q < k → w.cell? ⟨b, off + j * k + q, none⟩ = (g x)[q]?) := by
  rcases h.2 with ⟨rfl, h0⟩ | ⟨b, cap, cur, rfl, h2, h3, h4, h5, h6, h7⟩
  · exact ⟨none, 0, by rw [h0], by omega, fun b off cc e => (by cases e), .inl h0⟩
  · refine ⟨some ⟨b, 0, none⟩, cap, rfl, h4, fun b' off cc e => ?_, .inr ⟨b, 0, rfl, rfl, fun j x hx q hq => ?_⟩⟩
    · cases e
      exact ⟨h2, nb_lt h3, cur, h3⟩
    · have hjn : j < n := by have := lt_of_get hx; omega
      have hlt : j * k + q < n * k := by
        have : (j + 1) * k ≤ n * k := Nat.mul_le_mul_right k hjn
        rw [Nat.succ_mul] at this; omega
      have hc := World.ownsRow.cellAt h (j * k + q) hlt
      rw [Nat.zero_add, hc, fm_get g k hk l j q hq, hx]; rfl
theorem own_keepB {S : Nat → Prop} {w w' : World} {base e k n : Nat} {v : Value} {xs : List Value} (h : w.ownsRow base e k v n xs) (hk : Kept S w w') (hs : ∀ b, v.ownBlock = some b → ¬ S b) : w'.ownsRow base e k v n xs := by
  refine ⟨h.1, ?_⟩
  rcases h.2 with h0 | ⟨g, cp, cur, rfl, h2, h3, h4⟩
  · exact .inl h0
  · exact .inr ⟨g, cp, cur, rfl, h2, (hk.block g (nb_lt h3) (hs g rfl)).trans h3, h4⟩
theorem own_low {w : World} {base base' e k n : Nat} {v : Value} {xs : List Value} (h : w.ownsRow base e k v n xs) (hb : base' ≤ base) : w.ownsRow base' e k v n xs := by
  refine ⟨h.1, ?_⟩
  rcases h.2 with h0 | ⟨g, cp, cur, h1, h2, h3⟩
  · exact .inl h0
  · exact .inr ⟨g, cp, cur, h1, Nat.le_trans hb h2, h3⟩
theorem own_ty {w : World} {base e k n b : Nat} {v : Value} {xs : List Value} (h : w.ownsRow base e k v n xs) (hb : v.ownBlock = some b) : base ≤ b ∧ b < w.heap.size ∧ ∃ cur, w.heap[b]? = some (.cells cur e) := by
  rcases h.2 with ⟨h0, _⟩ | ⟨g, cp, cur, rfl, h2, h3, h4⟩
  · rw [h0] at hb; cases hb
  · obtain rfl : g = b := by simpa [Value.ownBlock] using hb
    exact ⟨h2, nb_lt h3, cur, h3⟩
theorem own_sl {w : World} {base e k n : Nat} {v : Value} {xs : List Value} (h : w.ownsRow base e k v n xs) : ∃ a c, v = .slice a n c := by
  rcases h.2 with ⟨h0, h1⟩ | ⟨g, cp, cur, h1, _⟩
  · exact ⟨none, 0, by rw [h0, h1]⟩
  · exact ⟨_, _, h1⟩
theorem Tryd.inf41 : (Tryd.prog.info? 5).map (fun i => (i.zero, i.size, i.bytes)) = some (some (.int .u8 0), 1, 1) := by kernel_rfl
theorem app_nil41 (w : World) {ops : Array Oper} {rest : List Oper} {o : Oper} {a : Act} {Q : Exit → Act → World → Prop} (hgd : o.guard = none)
    (s x : Operand) (ho : o.op = Op.call { callee := Callee.builtin Builtin.append, args := #[s, x], argTypes := #[31, 31] })
    (c : Nat) (hs : a.eval s = .slice none 0 0) (hx : a.eval x = .slice none 0 c) (h : wpList Tryd.prog ops Q rest (a.put o.dst (.slice none 0 0)) w) : wpList Tryd.prog ops Q (o :: rest) a w := by
  obtain ⟨i0, hi, _⟩ := info_parts Tryd.inf41
  refine wpList_plain hgd fun K hK => ?_
  unfold Oper.wp
  simp [execOp, ho, resolve, invoke, builtin, hs, hx, Builtin.append_, run_underlying Tryd.underlying31, sizeOf, typeInfo, hi, Builtin.lenOf, Builtin.firstCells, Result.andThen]
  exact hK _ _ h
theorem copy41 (a : Option Addr) (n c : Nat) (fl : List Value) (w : World) (h : Fl w a n fl) (hl : fl.length = n * 1) (h1 : ∀ u ∈ fl, u.oneCell' = true) (hn : n ≤ 2147483647) :
    Calls Tryd.prog 20 #[.slice a n c] w fun e w' => ∃ va vc, e = .returned (.slice va n vc) ∧ w'.ownsRow w.heap.size 5 1 (.slice va n vc) n fl ∧ Below w.heap.size w w' := by
  by_cases ha : a = none
  · subst ha
    have hn0 : n = 0 := by
      rcases h with h | ⟨b, off, e, _⟩
      · exact h
      · cases e
    subst hn0
    have hl0 : fl = [] := List.eq_nil_of_length_eq_zero (by omega)
    subst hl0
    clear h hl
    go_enter Tryd.func20, Tryd.ntmps20
    go_wp2_with (first | (at_builtin; refine app_nil41 _ rfl (.tmp 4) (.tmp 5) rfl c rfl rfl ?_))
    go_ret
    exact ⟨none, 0, rfl, World.ownsRow_nil _ _ _ _, Below.refl _ _⟩
  · obtain ⟨ad, rfl⟩ := Option.ne_none_iff_exists'.1 ha
    have hu : ∀ (j : Nat) (y : Value), fl[j]? = some y → w.cell? (ad.add j) = some y := fun j y hj => by
      have hj' := lt_of_get hj
      rcases h with h | ⟨b, off, e, hcell⟩
      · omega
      · have e := Option.some.inj e
        subst e
        have hplain : (⟨b, off, none⟩ : Addr).add j = ⟨b, off + j, none⟩ := by unfold Addr.add; split <;> simp_all
        rw [hplain]
        exact hcell j y hj
    have HU := hid hu
    have H1 := hid h1
    obtain ⟨i0, hi, hz0, hz1, hz2⟩ := info_parts Tryd.inf41
    clear hu h ha h1
    go_enter Tryd.func20, Tryd.ntmps20
    go_wp2_with (first | (at_builtin; refine wpList_append_own _ rfl (.tmp 4) (.tmp 5) 31 rfl w.heap.size 5 i0 _ 1 1 Tryd.underlying31 hi hz0 hz1 hz2 rfl (by decide) _ 0 [] rfl (World.ownsRow_nil _ _ _ _) ad n c fl rfl hl HU.out H1.out (by unfold maxLen; omega) (by omega) (Nat.le_refl _) ?_; intro v' w' hown hg _; have HO := hid hown; have HB := hid ((Kept.of_grown hg).to_below (Nat.le_refl w.heap.size) (fun k hk e => by cases e)); clear hown hg))
    obtain ⟨va, vc, hv, _⟩ : ∃ va vc, v' = .slice va n vc ∧ True := by
      rcases HO.out.2 with ⟨h0, h1⟩ | ⟨g, cp, cur, h1, _⟩
      · exact ⟨none, 0, by rw [h0]; congr 1; omega, trivial⟩
      · exact ⟨_, _, by rw [h1]; congr 1; omega, trivial⟩
    subst hv
    go_ret
    exact ⟨va, vc, rfl, by simpa using HO.out, HB.out⟩
/-- What is small enough. -/
structure SC (s : StM) : Prop where
  f : s.fn ≤ 2147483647
  g : s.gn ≤ 2147483647
  p : s.pn ≤ 2147483647
  r : s.rn ≤ 2147483647
  fb : ∀ x ∈ s.fs, x.2.2.1.1.2.1 ≤ 2147483647 ∧ x.2.2.2.1.2.1 ≤ 2147483647
  pb : ∀ x ∈ s.ps, x.1.2.1 ≤ 2147483647
/-- What any machine can hold. -/
structure SM (s : StM) : Prop where
  f : s.fn ≤ 140737488355328
  g : s.gn ≤ 140737488355328
  p : s.pn ≤ 140737488355328
  r : s.rn ≤ 140737488355328
  fb : ∀ x ∈ s.fs, x.2.2.1.1.2.1 ≤ 140737488355328 ∧ x.2.2.2.1.2.1 ≤ 140737488355328
  pb : ∀ x ∈ s.ps, x.1.2.1 ≤ 140737488355328
def PgS (l : List PgM) : Prop := ∀ x ∈ l, x.1.2.1 ≤ 2147483647
set_option maxHeartbeats 4000000 in
theorem siz35 (a : Option Addr) (n c : Nat) (l : List PgM) (w : World) (h : SPg w a n l) (hn : n ≤ 140737488355328) (hb : ∀ x ∈ l, x.1.2.1 ≤ 140737488355328) :
    Calls Tryd.prog 21 #[.slice a n c] w fun e w' => ∃ z : Nat, e = .returned (.int .i64 z) ∧ n ≤ z ∧ z ≤ 562949953421312 ∧ (z ≤ 2147483647 → PgS l) ∧ w' = w := by
  have hl := h.len
  have HA := hid h.at_
  have HB := hid hb
  clear h hb
  go_enter Tryd.func21, Tryd.ntmps21
  go_wp2_with fail
  go_loopw [3, 4] (fun m i wr => ∃ k z : Nat, k ≤ n ∧ i = .int .i64 k ∧ m = .int .i64 z ∧ wr = w ∧ n ≤ z ∧ z ≤ 562949953421312 ∧ Hid (∀ (j : Nat) x, j < k → l[j]? = some x → x.1.2.1 ≤ z)) (fun _ i _ => n - (intOf i).toNat)
  case atStart => exact ⟨0, n, by omega, rfl, rfl, rfl, by omega, by omega, hid (fun j x hj => by omega)⟩
  case round =>
    obtain ⟨k, z, hk, rfl, rfl, rfl, hz1, hz2, HZ⟩ := hrel
    by_cases hlt : k < n
    · have hlt' : (k : Int) < (n : Int) := by omega
      by_cases hbd : z ≤ 2147483647
      · obtain ⟨x, hx⟩ : ∃ x, l[k]? = some x := ⟨_, List.getElem?_eq_getElem (by omega)⟩
        obtain ⟨b, off, rfl, hat⟩ := HA.out.resolve_left (by omega)
        have e0 := hat k x hx
        have hxb := HB.out x (List.mem_of_getElem? hx)
        have hbd' : (z : Int) ≤ 2147483647 := by omega
        have hw : wrap64 ((z : Int) + (x.1.2.1 : Int)) = ((z + x.1.2.1 : Nat) : Int) := by unfold wrap64; omega
        have HX := hid hx
        clear hat hx HA HB
        go_wp2_with fail
        exact ⟨⟨k + 1, z + x.1.2.1, by omega, by go_num, by go_num, by first | rfl | trivial, by omega, by omega, hid (fun j y hj hy => by
          by_cases hjk : j < k
          · have := HZ.out j y hjk hy; omega
          · obtain rfl : j = k := by omega
            rw [HX.out] at hy
            injection hy with hy
            subst hy
            omega)⟩, by simp [intOf]; omega⟩
      · have hbd' : ¬ (z : Int) ≤ 2147483647 := by omega
        clear HA HB
        go_wp2_with fail
        go_ret
        exact ⟨z, rfl, hz1, hz2, (fun h => absurd h hbd), rfl⟩
    · have hlt' : ¬ (k : Int) < (n : Int) := by omega
      clear HA HB
      go_wp2_with fail
      go_ret
      exact ⟨z, rfl, hz1, hz2, (fun h x hx => by
        obtain ⟨j, hj⟩ := List.getElem?_of_mem hx
        have h1 := HZ.out j x (by have := lt_of_get hj; omega) hj
        omega), rfl⟩
set_option maxHeartbeats 8000000 in
theorem siz13 (s : StM) (w : World) (h : SSt w s) (hs : SM s) :
    Calls Tryd.prog 6 #[.agg (stAr s)] w fun e w' => ∃ z : Nat, e = .returned (.int .i64 z) ∧ (z ≤ 2147483647 → SC s) ∧ Below w.heap.size w w' := by
  have HF := hid h.fr.at_
  have HM := hid hs
  have hfl := h.fr.len
  have hf := hs.f
  have hg := hs.g
  have hr := hs.r
  have B0 := below_new w (.cells (stAr s) 27)
  have kb := nb_new w (.cells (stAr s) 27)
  have HP := hid (siz35 s.pa s.pn s.pc s.ps (w.alloc (.cells (stAr s) 27)).drew (h.pg.later (B0.trans ((below_drewN _ 1).mono B0.size))) hs.p hs.pb)
  have KB := hid kb
  have HB0 := hid B0
  have g0 : (w.alloc (.cells (stAr s) 27)).cell? ⟨w.heap.size, 0, none⟩ = some (.slice s.fa s.fn s.fc) := cell_at kb
  have g1 : (w.alloc (.cells (stAr s) 27)).cell? ⟨w.heap.size, 1, none⟩ = some (.slice s.ga s.gn s.gc) := cell_at kb
  have g2 : (w.alloc (.cells (stAr s) 27)).cell? ⟨w.heap.size, 2, none⟩ = some (.slice s.pa s.pn s.pc) := cell_at kb
  have g5 : (w.alloc (.cells (stAr s) 27)).cell? ⟨w.heap.size, 5, none⟩ = some (.slice s.ra s.rn s.rc) := cell_at kb
  clear h hs B0 kb
  go_enter Tryd.func6, Tryd.ntmps6
  go_wp2_with fail
  generalize w.alloc (.cells (stAr s) 27) = W0 at *
  go_region_held3 (fun W => W.cell? ⟨w.heap.size, 0, none⟩ = some (.slice s.fa s.fn s.fc) ∧ W.cell? ⟨w.heap.size, 1, none⟩ = some (.slice s.ga s.gn s.gc) ∧ W.cell? ⟨w.heap.size, 2, none⟩ = some (.slice s.pa s.pn s.pc) ∧ W.cell? ⟨w.heap.size, 5, none⟩ = some (.slice s.ra s.rn s.rc)) (go_keep)
    (first | (go_at_call 21; refine HP.out.mono ?_; rintro e w5 ⟨zp, rfl, hz1, hz2, hz3, hw5⟩; have HZP := hid (And.intro hz1 hz3); subst hw5; clear hz3))
  have hz1 := HZP.out.1
  have HBD := hid (show Below w.heap.size w W0.drew from HB0.out.trans ((below_drewN W0 1).mono HB0.out.size))
  have hv : IntKind.i64.wrap (IntKind.i64.wrap (IntKind.i64.wrap ((s.fn : Int) + (s.gn : Int)) + (s.rn : Int)) + (zp : Int)) = ((s.fn + s.gn + s.rn + zp : Nat) : Int) := by
    rw [i64_in ((s.fn : Int) + (s.gn : Int)) (by omega), i64_in ((s.fn : Int) + (s.gn : Int) + (s.rn : Int)) (by omega), i64_in _ (by omega)]
    all_goals omega
  have HV := hid hv
  clear hv
  have KBD := hid (show W0.drew.heap[w.heap.size]? = some (.cells (stAr s) 27) from KB.out)
  clear g0 g1 g2 g5
  generalize W0.drew = W1 at *
  have g0 : W1.cell? ⟨w.heap.size, 0, none⟩ = some (.slice s.fa s.fn s.fc) := cell_at KBD.out
  go_wp2_with fail
  go_loopw [3, 4] (fun m i wr => ∃ k z q : Nat, k ≤ s.fn ∧ i = .int .i64 k ∧ m = .int .i64 z ∧ wr = W1.drewN q ∧ s.fn + s.gn + s.rn + zp ≤ z ∧ z ≤ 2251799813685248 ∧ Hid (∀ (j : Nat) x, j < k → s.fs[j]? = some x → x.2.2.1.1.2.1 ≤ z ∧ x.2.2.2.1.2.1 ≤ z)) (fun _ i _ => s.fn - (intOf i).toNat)
  case atStart => exact ⟨0, s.fn + s.gn + s.rn + zp, 0, by omega, rfl, congrArg (Value.int .i64) HV.out, rfl, by omega, by omega, hid (fun j x hj => by omega)⟩
  case round =>
    obtain ⟨k, z, q, hk, rfl, rfl, rfl, hz1, hz4, HZ⟩ := hrel
    have HE := hid (fun (hb : z ≤ 2147483647) (he : ∀ (j : Nat) x, s.fs[j]? = some x → x.2.2.1.1.2.1 ≤ z ∧ x.2.2.2.1.2.1 ≤ z) => (show SC s from ⟨by omega, by omega, by have := HZP.out.1; omega, by omega, fun x hx => by
      obtain ⟨j, hj⟩ := List.getElem?_of_mem hx
      have := he j x hj
      omega, HZP.out.2 (by omega)⟩))
    have HBQ := hid (HBD.out.trans ((below_drewN W1 q).mono HBD.out.size))
    by_cases hlt : k < s.fn
    · have hlt' : (k : Int) < (s.fn : Int) := by omega
      by_cases hbd : z ≤ 2147483647
      · obtain ⟨x, hx⟩ : ∃ x, s.fs[k]? = some x := ⟨_, List.getElem?_eq_getElem (by omega)⟩
        obtain ⟨b, off, hfa, hat⟩ := HF.out.resolve_left (by omega)
        obtain ⟨_, _, e2, e3⟩ := hat k x hx
        have e2 := later_cell HBD.out e2
        have e3 := later_cell HBD.out e3
        have hxb := HM.out.fb x (List.mem_of_getElem? hx)
        have hbd' : (z : Int) ≤ 2147483647 := by omega
        obtain ⟨x1, x2⟩ := hxb
        have HX := hid hx
        have hx1 : x.2.2.1.1.2.1 = x.2.2.1.1.2.1 ∧ x.2.2.2.1.2.1 = x.2.2.2.1.2.1 := ⟨rfl, rfl⟩
        obtain ⟨n1, hn1⟩ : ∃ n, x.2.2.1.1.2.1 = n := ⟨_, rfl⟩
        obtain ⟨n2, hn2⟩ : ∃ n, x.2.2.2.1.2.1 = n := ⟨_, rfl⟩
        rw [hn1] at e2 x1
        rw [hn2] at e3 x2
        have HN := hid (And.intro hn1 hn2)
        clear hx1 hn1 hn2
        rw [hfa] at g0
        clear hat hx HF HM HP HZP HB0 KB HE HBD KBD HBQ HV
        go_wp2_with fail
        go_quiet (fail)
        go_wp2_with fail
        exact ⟨⟨k + 1, z + n1 + n2, _, by omega, by go_num, by go_num, rfl, by omega, by omega, hid (fun j y hj hy => by
          by_cases hjk : j < k
          · have := HZ.out j y hjk hy; omega
          · obtain rfl : j = k := by omega
            rw [HX.out] at hy
            injection hy with hy
            subst hy
            rw [HN.out.1, HN.out.2]
            omega)⟩, by simp [intOf]; omega⟩
      · have hbd' : ¬ (z : Int) ≤ 2147483647 := by omega
        clear HF HM HP HZP HB0 KB HE HBD KBD HV
        go_wp2_with fail
        go_ret
        exact ⟨z, rfl, (fun h => absurd h hbd), HBQ.out⟩
    · have hlt' : ¬ (k : Int) < (s.fn : Int) := by omega
      clear HF HM HP HZP HB0 KB HBD KBD HV
      go_wp2_with fail
      go_ret
      exact ⟨z, rfl, (fun h => HE.out h (fun j x hj => HZ.out j x (by have := lt_of_get hj; omega) hj)), HBQ.out⟩
end Go.Proofs.YtbdjghokedfkfaaDoor

/-
  Replies in memory, and what fits its letters.
-/
import Derived.Test.YthdgbeaibajkeaaOwn
import Derived.Test.YthdgbeaibajkeaaHid
import Derived.Test.YthdgbeaibajkeaaProg
import Derived.KernelRfl
import Derived.RowKit
import Derived.BigQuiet
import Derived.Deep.QuietTactic
import Derived.Deep.RegionHeld3
import Derived.OrdersHeld
namespace Go.Proofs.Ythdgbeaibajkeaa
open Go.RowKit
set_option linter.unusedVariables false

theorem below_kept {B : Nat} {w w1 w2 : World} {S : Nat → Prop} (h : Below B w w1) (hk : Kept S w1 w2) (hB : B ≤ w1.heap.size) (hs : ∀ k, S k → B ≤ k) : Below B w w2 :=
  ⟨hk.os.trans h.os, hk.tape.trans h.tape, hk.output.trans h.output, Nat.le_trans h.size hk.size, fun k hx => (hk.block k (by omega) (fun x => by have := hs k x; omega)).trans (h.block k hx)⟩
theorem later_cell {W W' : World} {b o : Nat} {u : Value} (hb : Below W.heap.size W W') (h : W.cell? ⟨b, o, none⟩ = some u) : W'.cell? ⟨b, o, none⟩ = some u := (hb.cell (by exact block_lt_of_cell h)).trans h
theorem kept_set (w : World) (b o : Nat) (v : Value) : Kept (fun k => k = b) w (w.setCell ⟨b, o, none⟩ v) := ⟨rfl, rfl, rfl, by simp [World.setCell], fun k hk hs => Below.heap_setCell _ _ _ _ (by simpa using hs)⟩
theorem below_new (w : World) (o : Obj) : Below w.heap.size w (w.alloc o) := (Below.refl _ _).alloc (Nat.le_refl _) _
theorem blk_lt {w : World} {b : Nat} {o : Obj} (h : w.heap[b]? = some o) : b < w.heap.size := by
  rcases Nat.lt_or_ge b w.heap.size with hx | hx
  · exact hx
  · rw [Array.getElem?_eq_none hx] at h; cases h
theorem blk_later {w w' : World} {b : Nat} {o : Obj} (hb : Below w.heap.size w w') (h : w.heap[b]? = some o) : w'.heap[b]? = some o := (hb.block b (blk_lt h)).trans h
theorem heap_alloc_new (w : World) (o : Obj) : (w.alloc o).heap[w.heap.size]? = some o := by
  show (w.heap.push o)[w.heap.size]? = some o
  simp
theorem alloc_at {w : World} {o : Obj} {b : Nat} (h : w.heap.size = b) : (w.alloc o).heap[b]? = some o := by subst h; exact heap_alloc_new w o
theorem cell_at {w : World} {b i : Nat} {a : Array Value} {t : TypeId} (h : w.heap[b]? = some (.cells a t)) : w.cell? ⟨b, i, none⟩ = a[i]? := by
  simp [World.cell?, h]
theorem free_at {w : World} {b i : Nat} {a : Array Value} {t : TypeId} (h : w.heap[b]? = some (.cells a t)) : w.frozen? ⟨b, i, none⟩ = false := by
  simp [World.frozen?, h]
theorem lt_of_get {α : Type} {xs : List α} {j : Nat} {x : α} (h : xs[j]? = some x) : j < xs.length := by
  rcases Nat.lt_or_ge j xs.length with hl | hl
  · exact hl
  · rw [List.getElem?_eq_none hl] at h; cases h
theorem take_at {P : Program} {ops : Array Oper} {Q : Exit → Act → World → Prop} {md : Region.Mode} {S : World → Prop} {i : Nat} {oi : Oper} {d : Option Tmp} {v : Value} {fuel : Nat} {listed : Array Bool} {a : Act} {w : World} (hi : ops[i]? = some oi) (hd : oi.dst = d)
    (hs : Region.noSelect ops = true) (hf : Region.free md ops listed i = true) (hr : (Region.ready md ops listed).contains i = true)
    (hQ : ∀ c a w, Q (.panic c) (a.put d v) w → Q (.panic c) a w) (hy : YieldsIf P ops S oi v a) (hS : S w)
    (h : wpAnyH P md ops Q S fuel (listed.setIfInBounds i true) (a.put d v) w) : wpAnyH P md ops Q S (fuel + 1) listed a w := by
  subst hd
  exact wpAnyH_take hi hs hf hr hQ hy hS h
theorem ready_at {P : Program} {ops : Array Oper} {Q : Exit → Act → World → Prop} {md : Region.Mode} {S : World → Prop} {i : Nat} {o : Oper} {fuel : Nat} {listed : Array Bool} {a : Act} {w : World} {rs : List Nat} (ho : ops[i]? = some o) (hw : Region.wanted o (yielded ops a.tmps) = true)
    (h : ∀ K : Act → World → Prop, Shut (∀ a w, S w → (S w → wpAnyH P md ops Q S fuel (listed.setIfInBounds i true) a w) → K a w) → Oper.wp P o a w K Q)
    (hs : AllReadyH P md ops Q S fuel listed a w rs) : AllReadyH P md ops Q S fuel listed a w (i :: rs) :=
  AllReadyH.cons ho (fun K hK => by rw [if_pos hw]; exact h K hK) hs

/-- A list of words: its elements are l; its block is one of Q. -/
def SegU (Q : Nat → Prop) (w : World) (a : Option Addr) (n c : Nat) (l : List Int) : Prop :=
  l.length = n ∧ n ≤ c ∧ n ≤ 2147483647 ∧ (∀ z ∈ l, 0 ≤ z ∧ z ≤ 18446744073709551615) ∧
  (n = 0 ∨ ∃ b off, a = some ⟨b, off, none⟩ ∧ Q b ∧ ∀ j, j < n → w.cell? ⟨b, off + j, none⟩ = some (.int .u64 (l.getD j 0)))
theorem SegU.kept {Q S : Nat → Prop} {w w' : World} {a : Option Addr} {n c : Nat} {l : List Int} (h : SegU Q w a n c l) (hk : Kept S w w') (hs : ∀ k, Q k → ¬ S k) : SegU Q w' a n c l := by
  refine ⟨h.1, h.2.1, h.2.2.1, h.2.2.2.1, ?_⟩
  rcases h.2.2.2.2 with h0 | ⟨b, off, e, hq, hc⟩
  · exact .inl h0
  · exact .inr ⟨b, off, e, hq, fun j hj => hk.cell (hc j hj) (hs b hq)⟩
theorem SegU.later {Q : Nat → Prop} {w w' : World} {a : Option Addr} {n c : Nat} {l : List Int} (h : SegU Q w a n c l) (hb : Below w.heap.size w w') : SegU Q w' a n c l := by
  refine ⟨h.1, h.2.1, h.2.2.1, h.2.2.2.1, ?_⟩
  rcases h.2.2.2.2 with h0 | ⟨b, off, e, hq, hc⟩
  · exact .inl h0
  · exact .inr ⟨b, off, e, hq, fun j hj => later_cell hb (hc j hj)⟩
theorem SegU.mono {Q Q' : Nat → Prop} {w : World} {a : Option Addr} {n c : Nat} {l : List Int} (h : SegU Q w a n c l) (hq : ∀ k, Q k → k < w.heap.size → Q' k) : SegU Q' w a n c l := by
  refine ⟨h.1, h.2.1, h.2.2.1, h.2.2.2.1, ?_⟩
  rcases h.2.2.2.2 with h0 | ⟨b, off, e, h1, hc⟩
  · exact .inl h0
  · by_cases hn : n = 0
    · exact .inl hn
    · exact .inr ⟨b, off, e, hq b h1 (block_lt_of_cell (hc 0 (by omega))), hc⟩
theorem SegU.nil (Q : Nat → Prop) (w : World) (a : Option Addr) (c : Nat) : SegU Q w a 0 c [] := ⟨rfl, Nat.zero_le _, by omega, (fun z hz => by cases hz), .inl rfl⟩

/-- A reply, and where its results lie. -/
structure Rp where
  a : Option Addr
  n : Nat
  c : Nat
  l : List Int
  tr : Bool
/-- None. -/
def rp0 : Rp := ⟨none, 0, 0, [], false⟩
/-- It lies there. -/
def RpAt (Q : Nat → Prop) (w : World) (b o : Nat) (x : Rp) : Prop :=
  w.cell? ⟨b, o, none⟩ = some (.slice x.a x.n x.c) ∧ w.cell? ⟨b, o + 1, none⟩ = some (.bool x.tr) ∧ SegU Q w x.a x.n x.c x.l
theorem RpAt.kept {Q S : Nat → Prop} {w w' : World} {b o : Nat} {x : Rp} (h : RpAt Q w b o x) (hk : Kept S w w') (hb : ¬ S b) (hs : ∀ k, Q k → ¬ S k) : RpAt Q w' b o x := ⟨hk.cell h.1 hb, hk.cell h.2.1 hb, h.2.2.kept hk hs⟩
theorem RpAt.later {Q : Nat → Prop} {w w' : World} {b o : Nat} {x : Rp} (h : RpAt Q w b o x) (hb : Below w.heap.size w w') : RpAt Q w' b o x := ⟨later_cell hb h.1, later_cell hb h.2.1, h.2.2.later hb⟩
/-- A list of replies: it is xs; its blocks are some of Q. -/
def RpS (Q : Nat → Prop) (w : World) (a : Option Addr) (n c : Nat) (xs : List Rp) : Prop :=
  xs.length = n ∧ n ≤ c ∧ n ≤ 2000 ∧ (n = 0 ∨ ∃ b off, a = some ⟨b, off, none⟩ ∧ Q b ∧ ∀ j, j < n → RpAt Q w b (off + j * 2) (xs.getD j rp0))
theorem RpS.kept {Q S : Nat → Prop} {w w' : World} {a : Option Addr} {n c : Nat} {xs : List Rp} (h : RpS Q w a n c xs) (hk : Kept S w w') (hs : ∀ k, Q k → ¬ S k) : RpS Q w' a n c xs := by
  refine ⟨h.1, h.2.1, h.2.2.1, ?_⟩
  rcases h.2.2.2 with h0 | ⟨b, off, e, hq, hc⟩
  · exact .inl h0
  · exact .inr ⟨b, off, e, hq, fun j hj => (hc j hj).kept hk (hs b hq) hs⟩
theorem RpS.later {Q : Nat → Prop} {w w' : World} {a : Option Addr} {n c : Nat} {xs : List Rp} (h : RpS Q w a n c xs) (hb : Below w.heap.size w w') : RpS Q w' a n c xs := by
  refine ⟨h.1, h.2.1, h.2.2.1, ?_⟩
  rcases h.2.2.2 with h0 | ⟨b, off, e, hq, hc⟩
  · exact .inl h0
  · exact .inr ⟨b, off, e, hq, fun j hj => (hc j hj).later hb⟩
theorem RpS.mono {Q Q' : Nat → Prop} {w : World} {a : Option Addr} {n c : Nat} {xs : List Rp} (h : RpS Q w a n c xs) (hq : ∀ k, Q k → k < w.heap.size → Q' k) : RpS Q' w a n c xs := by
  refine ⟨h.1, h.2.1, h.2.2.1, ?_⟩
  rcases h.2.2.2 with h0 | ⟨b, off, e, h1, hc⟩
  · exact .inl h0
  · by_cases hn : n = 0
    · exact .inl hn
    · exact .inr ⟨b, off, e, hq b h1 (block_lt_of_cell (hc 0 (by omega)).1), fun j hj => ⟨(hc j hj).1, (hc j hj).2.1, (hc j hj).2.2.mono hq⟩⟩

/-- The i-th byte of a text. -/
def byteI (s : ByteArray) (i : Nat) : Int := ((s.data.toList[i]?.getD 0).toNat : Int)
theorem byteI_at (s : ByteArray) (i : Nat) (h : i < s.size) : ((s[i]'h).toNat : Int) = byteI s i := by
  have h' : i < s.data.toList.length := by simpa using h
  rw [byteI, List.getElem?_eq_getElem h', Option.getD_some, Array.getElem_toList]; rfl
/-- May it be held as a value of that letter? -/
def fitsB (v c : Int) : Bool := decide (c = 108) || (decide (c = 119) && decide (v < 4294967296))
/-- Do the values fit the letters? -/
def allB (zs : List Int) (s : ByteArray) : Bool := decide (zs.length = s.size) && (List.range s.size).all (fun i => fitsB (zs.getD i 0) (byteI s i))
theorem allB_iff (zs : List Int) (s : ByteArray) : allB zs s = true ↔ zs.length = s.size ∧ ∀ i, i < s.size → fitsB (zs.getD i 0) (byteI s i) = true := by
  simp [allB]
theorem l_cases (c : Int) : c = 108 ∨ c = 119 ∨ (c ≠ 108 ∧ c ≠ 119) := by omega
theorem Fits26 (v c : Int) (w : World) (hv : 0 ≤ v ∧ v ≤ 18446744073709551615) : Calls Try.prog 26 #[.int .u64 v, .int .u8 c] w fun e w' => e = .returned (.bool (fitsB v c)) ∧ w' = w := by
  rcases l_cases c with rfl | rfl | ⟨h1, h2⟩
  · go_enter Try.func26, Try.ntmps26
    go_wp2
    go_ret
    exact ⟨rfl, rfl⟩
  · go_enter Try.func26, Try.ntmps26
    go_wp2
    go_ret
    refine ⟨?_, rfl⟩
    have h : (v / 4294967296 == 0) = fitsB v 119 := by
      rw [Bool.eq_iff_iff]
      simp [fitsB]
      omega
    rw [← h]; rfl
  · have b1 : (c == 108) = false := by simpa using h1
    have b2 : (c == 119) = false := by simpa using h2
    go_enter Try.func26, Try.ntmps26
    go_wp2
    go_ret
    exact ⟨by simp [fitsB, h1, h2], rfl⟩
end Go.Proofs.Ythdgbeaibajkeaa

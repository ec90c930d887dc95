/-
  Texts Heap Own Hid Code List Copy CopyC TLett.
-/
import Derived.ArgAppend
import Derived.Below
import Derived.Deep.AppendLies
import Derived.Deep.RegionHeld3
import Derived.KernelRfl
import Derived.Laws.AppendOwnNone
import Derived.OrdersHeld
import Derived.RowKit
import Derived.Test.YtepnnenohjfkbaaGreatDoorProg
import Derived.WalkKit
import Derived.WalkLawsBesides
import Derived.WalkSpells
set_option linter.unusedVariables false
set_option maxRecDepth 100000
set_option maxHeartbeats 16000000
namespace Go.Proofs.YtepnnenohjfkbaaGreatDoor
open Go.RowKit
theorem sIB {α : Type _} (l : List α) (i : Nat) (a : α) : l.toArray.setIfInBounds i a = (l.set i a).toArray:=List.setIfInBounds_toArray l i a
theorem sC0 {α : Type _} {x : α} {xs : List α} {a : α} : (x :: xs).set 0 a = a :: xs:=List.set_cons_zero
theorem sCs {α : Type _} {x : α} {xs : List α} {i : Nat} {a : α} : (x :: xs).set (i + 1) a = x :: xs.set i a:=List.set_cons_succ
theorem tkH {P : Program} {ops : Array Oper} {Q : Exit → Act → World → Prop} {md : Region.Mode} {S : World → Prop} {i : Nat} {oi : Oper} {v : Value} {fuel : Nat} {listed : Array Bool} {a : Act} {w : World} (hi : ops[i]? = some oi) (hv : ∀ w,S w → (execOp a.eval oi).run P w = .ok (.value v) w)
  (h : wpAnyH P md ops Q S fuel (listed.setIfInBounds i true) (a.put oi.dst v) w) (hc : (Region.noSelect ops && Region.free md ops listed i && (Region.ready md ops listed).contains i) = true:=by kernel_rfl) (hw : Region.wanted oi (yielded ops a.tmps) = true:=by rfl)
  (hQ : ∀ c a w,Q (.panic c) (a.put oi.dst v) w → Q (.panic c) a w:=by exact fun _ _ _ h => h) (hS : S w:=by assumption) : wpAnyH P md ops Q S (fuel + 1) listed a w:=by
 simp only [Bool.and_eq_true] at hc
 exact wpAnyH_take hi hc.1.1 hc.1.2 hc.2 hQ (Or.inl ⟨hw,hv⟩) hS h
theorem tkA {P : Program} {ops : Array Oper} {Q : Exit → Act → World → Prop} {md : Region.Mode} {S : World → Prop} {i : Nat} {oi : Oper} {d : Option Tmp} {v : Value} {fuel : Nat} {listed : Array Bool} {a : Act} {w : World} (hi : ops[i]? = some oi) (hd : oi.dst = d) (hv : ∀ w,S w → (execOp a.eval oi).run P w = .ok (.value v) w)
  (h : wpAnyH P md ops Q S fuel (listed.setIfInBounds i true) (a.put d v) w) (hc : (Region.noSelect ops && Region.free md ops listed i && (Region.ready md ops listed).contains i) = true:=by kernel_rfl) (hw : Region.wanted oi (yielded ops a.tmps) = true:=by kernel_rfl)
  (hQ : ∀ c a w,Q (.panic c) (a.put d v) w → Q (.panic c) a w:=by exact fun _ _ _ h => h) (hS : S w:=by assumption) : wpAnyH P md ops Q S (fuel + 1) listed a w:=by
 subst hd
 exact tkH hi hv h hc hw hQ hS
structure Kept (S : Nat → Prop) (w w' : World) : Prop where
 os : w'.os = w.os
 tape : w'.tape = w.tape
 output : w'.output = w.output
 size : w.heap.size ≤ w'.heap.size
 block : ∀ k,k < w.heap.size → ¬ S k → w'.heap[k]? = w.heap[k]?
theorem Kept.refl (S : Nat → Prop) (w : World) : Kept S w w:=⟨rfl,rfl,rfl,Nat.le_refl _,fun _ _ _ => rfl⟩
theorem Kept.trans {S : Nat → Prop} {w w1 w2 : World} (h1 : Kept S w w1) (h2 : Kept S w1 w2) : Kept S w w2 :=
 ⟨h2.os.trans h1.os,h2.tape.trans h1.tape,h2.output.trans h1.output,Nat.le_trans h1.size h2.size,
  fun k hk hs => (h2.block k (Nat.lt_of_lt_of_le hk h1.size) hs).trans (h1.block k hk hs)⟩
theorem Kept.then {S T : Nat → Prop} {w w1 w2 : World} (h1 : Kept S w w1) (h2 : Kept T w1 w2) (h : ∀ k,k < w.heap.size → T k → S k) : Kept S w w2 :=
 ⟨h2.os.trans h1.os,h2.tape.trans h1.tape,h2.output.trans h1.output,Nat.le_trans h1.size h2.size,
  fun k hk hs => (h2.block k (Nat.lt_of_lt_of_le hk h1.size) (fun ht => hs (h k hk ht))).trans (h1.block k hk hs)⟩
theorem Kept.of_grown {w w' : World} {r : Option Nat} (h : w.grownBy w' r) : Kept (fun k => some k = r) w w':=⟨h.os,h.tape,h.output,h.size,fun k hk hs => h.block k hk hs⟩
theorem Kept.alloc (S : Nat → Prop) (w : World) (o : Obj) : Kept S w (w.alloc o):=by
 have h:=(Below.refl w.heap.size w).alloc (Nat.le_refl _) o
 exact ⟨h.os,h.tape,h.output,h.size,fun k hk _ => h.block k hk⟩
theorem Kept.of_below {B : Nat} {w w' : World} (h : Below B w w') : Kept (fun k => B ≤ k) w w':=⟨h.os,h.tape,h.output,h.size,fun k hk hs => h.block k (by omega)⟩
theorem Kept.to_below {S : Nat → Prop} {B : Nat} {w w' : World} (h : Kept S w w') (hB : B ≤ w.heap.size) (hS : ∀ k,k < B → ¬ S k) : Below B w w':=⟨h.os,h.tape,h.output,h.size,fun k hk => h.block k (by omega) (hS k hk)⟩
theorem Kept.mono {S T : Nat → Prop} {w w' : World} (h : Kept S w w') (hS : ∀ k,S k → T k) : Kept T w w':=⟨h.os,h.tape,h.output,h.size,fun k hk hs => h.block k hk (fun x => hs (hS k x))⟩
theorem Kept.drewN (S : Nat → Prop) (w : World) (m : Nat) : Kept S w (w.drewN m):=by
 have h:=below_drewN (Below.refl w.heap.size w) m
 exact ⟨h.os,h.tape,h.output,h.size,fun k hk _ => h.block k hk⟩
theorem cell_of_block {w w' : World} {b : Nat} (h : w'.heap[b]? = w.heap[b]?) (o : Nat) : w'.cell? ⟨b,o,none⟩ = w.cell? ⟨b,o,none⟩:=by
 simp only [World.cell?,h]
theorem frozen_of_block {w w' : World} {b : Nat} (h : w'.heap[b]? = w.heap[b]?) (o : Nat) : w'.frozen? ⟨b,o,none⟩ = w.frozen? ⟨b,o,none⟩:=by
 simp only [World.frozen?,h]
theorem Kept.cell {S : Nat → Prop} {w w' : World} (h : Kept S w w') {b o : Nat} {v : Value} (hc : w.cell? ⟨b,o,none⟩ = some v) (hs : ¬ S b) : w'.cell? ⟨b,o,none⟩ = some v :=
 (cell_of_block (h.block b (block_lt_of_cell hc) hs) o).trans hc
def Row (w : World) (e : TypeId) (B n cap : Nat) (xs : List Value) : Prop:=w.ownsRow 0 e 1 (.slice (some ⟨B,0,none⟩) n cap) n xs
theorem Row.of {w : World} {base : Nat} {e : TypeId} {B n cap : Nat} {xs : List Value} (h : w.ownsRow base e 1 (.slice (some ⟨B,0,none⟩) n cap) n xs) : Row w e B n cap xs:=by
 refine ⟨h.1,?_⟩
 rcases h.2 with ⟨h,_⟩ | ⟨g,cp,cur,h1,_,h3⟩
 ·cases h
 ·exact .inr ⟨g,cp,cur,h1,Nat.zero_le _,h3⟩
theorem Row.block {w : World} {e : TypeId} {B n cap : Nat} {xs : List Value} (h : Row w e B n cap xs) : ∃ cur,w.heap[B]? = some (.cells cur e) ∧ n ≤ cap ∧ cap ≤ maxLen ∧ cur.size = cap ∧ cur.toList.take n = xs:=by
 rcases h.2 with ⟨h,_⟩ | ⟨g,cp,cur,h1,_,h3,h4,h5,h6,h7⟩
 ·cases h
 ·simp at h1
  obtain ⟨rfl,rfl⟩:=h1
  exact ⟨cur,h3,h4,h5,by simpa using h6,by simpa using h7⟩
theorem Row.lt {w : World} {e : TypeId} {B n cap : Nat} {xs : List Value} (h : Row w e B n cap xs) : B < w.heap.size:=by
 obtain ⟨cur,h,_⟩:=h.block
 rcases Nat.lt_or_ge B w.heap.size with hl | hl
 ·exact hl
 ·rw [Array.getElem?_eq_none hl] at h; cases h
theorem own_keep {w w' : World} {base : Nat} {e : TypeId} {v : Value} {n : Nat} {xs : List Value} (h : w.ownsRow base e 1 v n xs) (hk : ∀ B,v.ownBlock = some B → w'.heap[B]? = w.heap[B]?) : w'.ownsRow base e 1 v n xs:=by
 refine ⟨h.1,?_⟩
 rcases h.2 with h0 | ⟨g,cp,cur,rfl,h2,h3,h4⟩
 ·exact .inl h0
 ·exact .inr ⟨g,cp,cur,rfl,h2,by rw [hk g rfl]; exact h3,h4⟩
theorem Row.keep {w w' : World} {e : TypeId} {B n cap : Nat} {xs : List Value} (h : Row w e B n cap xs) (hk : w'.heap[B]? = w.heap[B]?) : Row w' e B n cap xs :=
 own_keep h (fun b hb => by
  obtain rfl : B = b:=by simpa [Value.ownBlock] using hb
  exact hk)
theorem Row.kept {S : Nat → Prop} {w w' : World} {e : TypeId} {B n cap : Nat} {xs : List Value} (h : Row w e B n cap xs) (hk : Kept S w w') (hs : ¬ S B) : Row w' e B n cap xs:=h.keep (hk.block B h.lt hs)
theorem Row.cell {w : World} {e : TypeId} {B n cap : Nat} {xs : List Value} (h : Row w e B n cap xs) (j : Nat) (hj : j < n) : w.cell? ⟨B,j,none⟩ = xs[j]?:=World.ownsRow.cellAt h j (by omega)
theorem Row.free {w : World} {e : TypeId} {B n cap : Nat} {xs : List Value} (h : Row w e B n cap xs) (j : Nat) : w.frozen? ⟨B,j,none⟩ = false:=World.ownsRow.frozenAt h j
theorem Row.put {w : World} {e : TypeId} {B n cap : Nat} {xs : List Value} (h : Row w e B n cap xs) (j : Nat) (u : Value) : Row (w.setCell ⟨B,j,none⟩ u) e B n cap (xs.set j u) ∧ Kept (fun k => k = B) w (w.setCell ⟨B,j,none⟩ u):=by
 have:=World.ownsRow.stored h j u
 exact ⟨this.1,(Kept.of_grown this.2).mono (fun k hk => by simpa using hk)⟩
theorem own_mono {w : World} {base base' : Nat} {e : TypeId} {v : Value} {n : Nat} {xs : List Value} (h : w.ownsRow base e 1 v n xs) (hb : base' ≤ base) : w.ownsRow base' e 1 v n xs:=by
 refine ⟨h.1,?_⟩
 rcases h.2 with h0 | ⟨g,cp,cur,h1,h2,h3⟩
 ·exact .inl h0
 ·exact .inr ⟨g,cp,cur,h1,Nat.le_trans hb h2,h3⟩
theorem hid {P : Prop} (h : P) : Hid P:=h
theorem Tryz.infInts : (Tryz.prog.info? 3).map (fun i => (i.zero,i.size,i.bytes)) = some (some (.int .i64 0),1,8):=by kernel_rfl
def fl (n : Nat) (f : Nat → Int) : List Value:=(List.range n).map fun i => Value.int .i64 (f i)
theorem fl_len (n : Nat) (f : Nat → Int) : (fl n f).length = n:=by simp [fl]
theorem fl_get (n : Nat) (f : Nat → Int) (i : Nat) (h : i < n) : (fl n f)[i]? = some (.int .i64 (f i)):=by simp [fl,h]
theorem fl_congr {n : Nat} {f g : Nat → Int} (h : ∀ i,i < n → f i = g i) : fl n f = fl n g:=by
 unfold fl; apply List.map_congr_left; intro i hi; rw [h i (by simpa using hi)]
theorem fl_set {n : Nat} {f : Nat → Int} {t : Nat} {v : Int} {g : Nat → Int} (h : ∀ i,i < n → g i = if i = t then v else f i) : (fl n f).set t (.int .i64 v) = fl n g:=by
 apply List.ext_getElem?
 intro j
 by_cases hj : j < n
 ·rw [fl_get n g j hj,h j hj]
  by_cases e : j = t
  ·subst e
   rw [if_pos rfl,List.getElem?_set_self (by rw [fl_len]; exact hj)]
  ·rw [if_neg e,List.getElem?_set_ne (fun x => e x.symm),fl_get n f j hj]
 ·rw [List.getElem?_eq_none (by rw [List.length_set,fl_len]; omega),List.getElem?_eq_none (by rw [fl_len]; omega)]
def RI (w : World) (B n : Nat) (f : Nat → Int) : Prop:=Row w 3 B n n (fl n f)
theorem RI.cell {w : World} {B n : Nat} {f : Nat → Int} (h : RI w B n f) (i : Nat) (hi : i < n) : w.cell? ⟨B,i,none⟩ = some (.int .i64 (f i)):=(Row.cell h i hi).trans (fl_get n f i hi)
theorem RI.free {w : World} {B n : Nat} {f : Nat → Int} (h : RI w B n f) (i : Nat) : w.frozen? ⟨B,i,none⟩ = false:=Row.free h i
theorem RI.lt {w : World} {B n : Nat} {f : Nat → Int} (h : RI w B n f) : B < w.heap.size:=Row.lt h
theorem RI.congr {w : World} {B n : Nat} {f g : Nat → Int} (h : RI w B n f) (e : ∀ i,i < n → g i = f i) : RI w B n g:=by
 unfold RI; rw [fl_congr e]; exact h
theorem RI.put {w : World} {B n : Nat} {f g : Nat → Int} (h : RI w B n f) (t : Nat) (v : Int) (e : ∀ i,i < n → g i = if i = t then v else f i) : RI (w.setCell ⟨B,t,none⟩ (.int .i64 v)) B n g ∧ Kept (fun k => k = B) w (w.setCell ⟨B,t,none⟩ (.int .i64 v)):=by
 have:=Row.put h t (.int .i64 v)
 rw [fl_set e] at this
 exact this
theorem RI.kept {S : Nat → Prop} {w w' : World} {B n : Nat} {f : Nat → Int} (h : RI w B n f) (hk : Kept S w w') (hs : ¬ S B) : RI w' B n f:=Row.kept h hk hs
def SegJ (w : World) (a : Option Addr) (n cap : Nat) (l : List Int) : Prop :=
 l.length = n ∧ n ≤ cap ∧ n ≤ 1099511627776 ∧ (∀ z ∈ l,-9223372036854775808 ≤ z ∧ z ≤ 9223372036854775807) ∧
 (n = 0 ∨ ∃ b off,a = some ⟨b,off,none⟩ ∧ ∀ j,j < n → w.cell? ⟨b,off + j,none⟩ = some (.int .i64 (l.getD j 0)))
theorem SegJ.later {w w' : World} {a : Option Addr} {n cap : Nat} {l : List Int} {B : Nat} (h : SegJ w a n cap l) (hb : Below B w w') (hB : w.heap.size ≤ B) : SegJ w' a n cap l:=by
 obtain ⟨hz,h1,h2,h3,ha⟩:=h
 refine ⟨hz,h1,h2,h3,?_⟩
 rcases ha with ha | ⟨b,off,e,hc⟩
 ·exact .inl ha
 ·refine .inr ⟨b,off,e,fun j hj => ?_⟩
  have:=hc j hj
  have hlt : b < w.heap.size:=block_lt_of_cell this
  exact (hb.cell (p:=⟨b,off + j,none⟩) (by exact Nat.lt_of_lt_of_le hlt hB)).trans this
structure Inx where
 c : Int
 a : Int
 la : Option Addr
 ln : Nat
 lc : Nat
 l : List Int
def dx : Inx:=⟨0,0,none,0,0,[]⟩
def InAt (w : World) (b o : Nat) (x : Inx) : Prop :=
 w.cell? ⟨b,o,none⟩ = some (.int .u8 x.c) ∧ w.cell? ⟨b,o + 1,none⟩ = some (.int .i64 x.a) ∧ w.cell? ⟨b,o + 2,none⟩ = some (.slice x.la x.ln x.lc) ∧
  0 ≤ x.c ∧ x.c ≤ 255 ∧ -9223372036854775808 ≤ x.a ∧ x.a ≤ 9223372036854775807 ∧ x.ln ≤ 140737488355328 ∧ (x.ln ≤ 100000 → SegJ w x.la x.ln x.lc x.l)
theorem InAt.later {w w' : World} {b o : Nat} {x : Inx} (h : InAt w b o x) {B : Nat} (hb : Below B w w') (hB : w.heap.size ≤ B) : InAt w' b o x:=by
 obtain ⟨h0,h1,h2,h3,h4,h7,h8,h5,h6⟩:=h
 have hlt:=block_lt_of_cell h0
 simp only at hlt
 exact ⟨(hb.cell (by exact Nat.lt_of_lt_of_le hlt hB)).trans h0,(hb.cell (by exact Nat.lt_of_lt_of_le hlt hB)).trans h1,(hb.cell (by exact Nat.lt_of_lt_of_le hlt hB)).trans h2,h3,h4,h7,h8,h5,fun h => (h6 h).later hb hB⟩
def opF (xs : List Inx) (i : Nat) : Int:=(xs.getD i dx).c
def Cod (w : World) (b off n : Nat) (xs : List Inx) : Prop:=xs.length = n ∧ ∀ j,j < n → InAt w b (off + j * 3) (xs.getD j dx)
theorem Cod.later {w w' : World} {b off n : Nat} {xs : List Inx} (h : Cod w b off n xs) {B : Nat} (hb : Below B w w') (hB : w.heap.size ≤ B) : Cod w' b off n xs:=⟨h.1,fun j hj => (h.2 j hj).later hb hB⟩
theorem Cod.op {w : World} {b off n : Nat} {xs : List Inx} (h : Cod w b off n xs) {j : Nat} (hj : j < n) : w.cell? ⟨b,off + j * 3,none⟩ = some (.int .u8 (opF xs j)):=(h.2 j hj).1
theorem Cod.lt {w : World} {b off n : Nat} {xs : List Inx} (h : Cod w b off n xs) (hn : 0 < n) : b < w.heap.size:=block_lt_of_cell (h.op hn)
theorem Cod.range {w : World} {b off n : Nat} {xs : List Inx} (h : Cod w b off n xs) {j : Nat} (hj : j < n) : 0 ≤ opF xs j ∧ opF xs j ≤ 255:=⟨(h.2 j hj).2.2.2.1,(h.2 j hj).2.2.2.2.1⟩
theorem Cod.num {w : World} {b off n : Nat} {xs : List Inx} (h : Cod w b off n xs) {j : Nat} (hj : j < n) : w.cell? ⟨b,off + j * 3 + 1,none⟩ = some (.int .i64 (xs.getD j dx).a):=(h.2 j hj).2.1
theorem Cod.lab {w : World} {b off n : Nat} {xs : List Inx} (h : Cod w b off n xs) {j : Nat} (hj : j < n) : w.cell? ⟨b,off + j * 3 + 2,none⟩ = some (.slice (xs.getD j dx).la (xs.getD j dx).ln (xs.getD j dx).lc):=(h.2 j hj).2.2.1
def CodS (w : World) (a : Option Addr) (n : Nat) (xs : List Inx) : Prop:=xs.length = n ∧ (n = 0 ∨ ∃ b off,a = some ⟨b,off,none⟩ ∧ Cod w b off n xs)
theorem CodS.later {w w' : World} {a : Option Addr} {n : Nat} {xs : List Inx} (h : CodS w a n xs) {B : Nat} (hb : Below B w w') (hB : w.heap.size ≤ B) : CodS w' a n xs:=by
 refine ⟨h.1,?_⟩
 rcases h.2 with h0 | ⟨b,off,e,hc⟩
 ·exact .inl h0
 ·exact .inr ⟨b,off,e,hc.later hb hB⟩
def LI (w : World) (base : Nat) (v : Value) (l : List Int) : Prop:=w.ownsRow base 3 1 v l.length (l.map (Value.int .i64))
theorem LI.nil (w : World) (base : Nat) : LI w base (.slice none 0 0) []:=⟨rfl,.inl ⟨rfl,rfl⟩⟩
theorem LI.later {w w' : World} {base B : Nat} {v : Value} {l : List Int} (h : LI w base v l) (hb : Below B w w') (hB : w.heap.size ≤ B) : LI w' base v l :=
 own_keep h (fun b hx => hb.block b (by
  rcases h.2 with h0 | ⟨g,cp,cur,h1,h2,h3,_⟩
  ·rw [h0.1] at hx; cases hx
  ·rw [h1] at hx
   have : g = b:=by simpa [Value.ownBlock] using hx
   subst this
   exact Nat.lt_of_lt_of_le (Array.getElem?_eq_some_iff.1 h3).1 hB))
theorem LI.kept {S : Nat → Prop} {w w' : World} {base : Nat} {v : Value} {l : List Int} (h : LI w base v l) (hk : Kept S w w') (hs : ∀ b,v.ownBlock = some b → ¬ S b) : LI w' base v l :=
 own_keep h (fun b hx => hk.block b (by
  rcases h.2 with h0 | ⟨g,cp,cur,h1,h2,h3,_⟩
  ·rw [h0.1] at hx; cases hx
  ·rw [h1] at hx
   have : g = b:=by simpa [Value.ownBlock] using hx
   subst this
   exact (Array.getElem?_eq_some_iff.1 h3).1) (hs b hx))
theorem LI.slice {w : World} {base : Nat} {v : Value} {l : List Int} (h : LI w base v l) : ∃ a c,v = .slice a l.length c:=by
 rcases h.2 with ⟨h0,h1⟩ | ⟨g,cp,cur,h1,_⟩
 ·refine ⟨none,0,?_⟩
  rw [h0,h1]
 ·exact ⟨_,_,h1⟩
theorem LI.block {w : World} {base b : Nat} {v : Value} {l : List Int} (h : LI w base v l) (hb : v.ownBlock = some b) : base ≤ b ∧ b < w.heap.size:=by
 rcases h.2 with h0 | ⟨g,cp,cur,h1,h2,h3,_⟩
 ·rw [h0.1] at hb; cases hb
 ·rw [h1] at hb
  have : g = b:=by simpa [Value.ownBlock] using hb
  subst this
  exact ⟨h2,(Array.getElem?_eq_some_iff.1 h3).1⟩
theorem LI.mono {w : World} {base base' : Nat} {v : Value} {l : List Int} (h : LI w base v l) (hb : base' ≤ base) : LI w base' v l:=own_mono h hb
theorem LI.cell {w : World} {base : Nat} {a : Option Addr} {k c : Nat} {l : List Int} (h : LI w base (.slice a k c) l) : k = l.length ∧ (k = 0 ∨ ∃ B,a = some ⟨B,0,none⟩ ∧ ∀ j,j < k → w.cell? ⟨B,j,none⟩ = some (.int .i64 (l.getD j 0))):=by
 rcases h.2 with ⟨h0,h1⟩ | ⟨g,cp,cur,h1,h2,h3,_⟩
 ·injection h0 with e1 e2 e3
  exact ⟨by omega,.inl e2⟩
 ·injection h1 with e1 e2 e3
  subst e1 e2 e3
  refine ⟨rfl,.inr ⟨g,rfl,fun j hj => ?_⟩⟩
  have:=World.ownsRow.cellAt h j (by omega)
  rw [this]
  simp [hj]
theorem LI.seg {w : World} {base : Nat} {a : Option Addr} {k c : Nat} {l : List Int} (h : LI w base (.slice a k c) l) (hr : ∀ z ∈ l,-9223372036854775808 ≤ z ∧ z ≤ 9223372036854775807) (hk : l.length ≤ 1099511627776) : SegJ w a k c l:=by
 obtain ⟨e,hc⟩:=h.cell
 refine ⟨e.symm,?_,by omega,hr,?_⟩
 ·rcases h.2 with ⟨h0,h1⟩ | ⟨g,cp,cur,h1,h2,h3,h4,_⟩
  ·injection h0 with e1 e2 e3
   omega
  ·injection h1 with e1 e2 e3
   omega
 ·rcases hc with h0 | ⟨B,rfl,hc⟩
  ·exact .inl h0
  ·exact .inr ⟨B,0,rfl,fun j hj => by rw [Nat.zero_add]; exact hc j hj⟩
theorem app_ints (w : World) {ops : Array Oper} {rest : List Oper} {o : Oper} {a : Act} {Q : Exit → Act → World → Prop} (hgd : o.guard = none)
  (s x : Operand) (ho : o.op = Op.call { callee:=Callee.builtin Builtin.append,args:=#[s,x],argTypes:=#[23,23] })
  (base : Nat) (v : Value) (l : List Int) (hs : a.eval s = v) (hown : LI w base v l) (hbase : base ≤ w.heap.size) (ad : Addr) (zs : List Int) (m c : Nat) (hx : a.eval x = .slice (some ad) m c) (hm : zs.length = m)
  (hu : ∀ (j : Nat) (y : Value),(zs.map (Value.int .i64))[j]? = some y → w.cell? (ad.add j) = some y)
  (hlen : l.length + zs.length ≤ 1073741824)
  (h : ∀ (a' : Option Addr) (k' c' : Nat) (w' : World),k' = (l ++ zs).length → LI w' base (.slice a' k' c') (l ++ zs) → Below base w w' → wpList Tryz.prog ops Q rest (a.put o.dst (.slice a' k' c')) w') :
  wpList Tryz.prog ops Q (o :: rest) a w:=by
 obtain ⟨i0,hi,hz0,hz1,hz2⟩:=info_parts Tryz.infInts
 refine wpList_append_own w hgd s x 23 ho base 3 i0 (.int .i64 0) 1 8 Tryz.underlying23 hi hz0 hz1 hz2 rfl (by decide) v l.length _ hs hown ad m c (zs.map (Value.int .i64)) hx (by simp [hm])
  hu (by intro y hy; simp at hy; obtain ⟨z,_,rfl⟩:=hy; rfl) (by unfold maxLen; omega) (by omega) hbase ?_
 intro v' w' ho' hg _
 have hL : LI w' base v' (l ++ zs):=by
  unfold LI
  rw [List.length_append,hm,List.map_append]
  exact ho'
 obtain ⟨a',c',rfl⟩:=hL.slice
 refine h a' _ c' w' rfl hL ?_
 exact (Kept.of_grown hg).to_below hbase (fun k hk e => by
  have:=(LI.block hown e.symm).1
  omega)
def insW (c a : Int) (v : Value) : Value:=.agg #[.int .u8 c,.int .i64 a,v]
theorem Tryz.infIns : (Tryz.prog.info? 51).map (fun i => (i.zero,i.size,i.bytes)) = some (some (.agg #[.int .u8 0,.int .i64 0,.slice none 0 0]),3,40):=by kernel_rfl
theorem app_nil (w : World) {ops : Array Oper} {rest : List Oper} {o : Oper} {a : Act} {Q : Exit → Act → World → Prop} (hgd : o.guard = none)
  (s x : Operand) (ho : o.op = Op.call { callee:=Callee.builtin Builtin.append,args:=#[s,x],argTypes:=#[23,23] })
  (c : Nat) (hs : a.eval s = .slice none 0 0) (hx : a.eval x = .slice none 0 c) (h : wpList Tryz.prog ops Q rest (a.put o.dst (.slice none 0 0)) w) : wpList Tryz.prog ops Q (o :: rest) a w:=by
 obtain ⟨i0,hi,_⟩:=info_parts Tryz.infInts
 refine wpList_plain hgd fun K hK => ?_
 unfold Oper.wp
 simp [execOp,ho,resolve,invoke,builtin,hs,hx,Builtin.append_,run_underlying Tryz.underlying23,sizeOf,typeInfo,hi,Builtin.lenOf,Builtin.firstCells,Result.andThen]
 exact hK _ _ h
theorem copyInts (a : Option Addr) (n c : Nat) (l : List Int) (w : World) (h : SegJ w a n c l) (hn : n ≤ 100000) :
  Calls Tryz.prog 38 #[.slice a n c] w fun e w' => ∃ v,e = .returned v ∧ LI w' w.heap.size v l ∧ Below w.heap.size w w':=by
 obtain ⟨hl,_,_,_,hc⟩:=h
 by_cases ha : a = none
 ·subst ha
  have hn0 : n = 0:=by
   rcases hc with h | ⟨b,off,e,_⟩
   ·exact h
   ·cases e
  subst hn0
  have hl0 : l = []:=List.eq_nil_of_length_eq_zero hl
  subst hl0
  clear hc hl
  go_enter Tryz.func38,Tryz.ntmps38
  go_wp2_with (first | (at_builtin; refine app_nil _ rfl (.tmp 4) (.tmp 5) rfl c rfl rfl ?_))
  go_ret
  exact ⟨_,rfl,LI.nil _ _,Below.refl _ _⟩
 ·obtain ⟨ad,rfl⟩:=Option.ne_none_iff_exists'.1 ha
  have hu : ∀ (j : Nat) (y : Value),(l.map (Value.int .i64))[j]? = some y → w.cell? (ad.add j) = some y:=fun j y hj => by
   have hj' : j < l.length:=by
    rcases Nat.lt_or_ge j l.length with h | h
    ·exact h
    ·rw [List.getElem?_eq_none (by simpa using h)] at hj; cases hj
   rcases hc with h | ⟨b,off,e,hcell⟩
   ·omega
   ·have e:=Option.some.inj e
    subst e
    have hplain : (⟨b,off,none⟩ : Addr).add j = ⟨b,off + j,none⟩:=by unfold Addr.add; split <;> simp_all
    rw [hplain,hcell j (by omega)]
    rw [List.getElem?_map,List.getElem?_eq_getElem hj'] at hj
    rw [List.getD_eq_getElem?_getD,List.getElem?_eq_getElem hj']
    exact hj
  have HU:=hid hu
  clear hu hc ha
  go_enter Tryz.func38,Tryz.ntmps38
  go_wp2_with (first | (at_builtin; refine app_ints _ rfl (.tmp 4) (.tmp 5) rfl w.heap.size _ [] rfl (LI.nil _ _) (Nat.le_refl _) ad l n c rfl hl HU.out (by simp; omega) ?_; intro a' k' c' w' hk hL hb; have HL:=hid hL; have HB:=hid hb; clear hL hb hk))
  go_ret
  exact ⟨_,rfl,by simpa using HL.out,HB.out⟩
theorem LI.below {w : World} {base : Nat} {v : Value} {l : List Int} (h : LI w base v l) {p : Addr} (hp : p.block < base) (u : Value) : LI (w.setCell p u) base v l:=ownsRow_setCell_below h hp u
theorem copyIns (c a : Int) (la : Option Addr) (ln lc : Nat) (l : List Int) (w : World) (h : SegJ w la ln lc l) (hn : ln ≤ 100000) :
  Calls Tryz.prog 206 #[insW c a (.slice la ln lc)] w fun e w' => ∃ v,e = .returned (insW c a v) ∧ LI w' w.heap.size v l ∧ Below w.heap.size w w':=by
 unfold insW
 have hb : Below w.heap.size w ((w.alloc (.cells #[.int .u8 c,.int .i64 a,.slice la ln lc] 51)).alloc (.cells #[.int .u8 0,.int .i64 0,.slice none 0 0] 51)):=((Below.refl _ _).alloc (Nat.le_refl _) _).alloc (by simp) _
 have hw:=copyInts la ln lc l _ (h.later hb (Nat.le_refl _)) hn
 rw [show ((w.alloc (.cells #[.int .u8 c,.int .i64 a,.slice la ln lc] 51)).alloc (.cells #[.int .u8 0,.int .i64 0,.slice none 0 0] 51)).heap.size = w.heap.size + 2 by simp] at hw
 have HW:=hid hw
 have HB:=hid hb
 clear h hb hw
 go_enter Tryz.func206,Tryz.ntmps206
 go_wp2_with fail
 refine HW.out.mono ?_
 rintro e w1 ⟨v,rfl,hL,hb1⟩
 have hlt0 : w.heap.size < w.heap.size + 2:=by omega
 have hlt1 : w.heap.size + 1 < w.heap.size + 2:=by omega
 have y : (w1.cell? ⟨w.heap.size,0,none⟩ = some (.int .u8 c) ∧ w1.cell? ⟨w.heap.size,1,none⟩ = some (.int .i64 a) ∧ w1.cell? ⟨w.heap.size,2,none⟩ = some (.slice la ln lc) ∧ w1.frozen? ⟨w.heap.size,2,none⟩ = false) ∧
   (w1.cell? ⟨w.heap.size + 1,0,none⟩ = some (.int .u8 0) ∧ w1.cell? ⟨w.heap.size + 1,1,none⟩ = some (.int .i64 0) ∧ w1.cell? ⟨w.heap.size + 1,2,none⟩ = some (.slice none 0 0)) ∧
   (w1.frozen? ⟨w.heap.size + 1,0,none⟩ = false ∧ w1.frozen? ⟨w.heap.size + 1,1,none⟩ = false ∧ w1.frozen? ⟨w.heap.size + 1,2,none⟩ = false):=by
  refine ⟨⟨?_,?_,?_,?_⟩,⟨?_,?_,?_⟩,⟨?_,?_,?_⟩⟩
  ·rw [hb1.cell (by exact hlt0)]; simp [go_sem]
  ·rw [hb1.cell (by exact hlt0)]; simp [go_sem]
  ·rw [hb1.cell (by exact hlt0)]; simp [go_sem]
  ·rw [hb1.frozen (by exact hlt0)]; simp [go_sem]
  ·rw [hb1.cell (by exact hlt1)]; simp [go_sem]
  ·rw [hb1.cell (by exact hlt1)]; simp [go_sem]
  ·rw [hb1.cell (by exact hlt1)]; simp [go_sem]
  ·rw [hb1.frozen (by exact hlt1)]; simp [go_sem]
  ·rw [hb1.frozen (by exact hlt1)]; simp [go_sem]
  ·rw [hb1.frozen (by exact hlt1)]; simp [go_sem]
 obtain ⟨⟨x0,x1,x2,f2⟩,⟨y0,y1,y2⟩,g0,g1,g2⟩:=y
 have B1:=hid (HB.out.trans (hb1.mono (by omega)))
 have C1:=hid hL
 obtain ⟨va,vc,rfl⟩:=hL.slice
 clear hb1 hL HB HW
 go_wp2_with fail
 refine bodyPost_ret (v:=.agg #[.int .u8 c,.int .i64 a,.slice va l.length vc]) (by simp [results,Tryz.results206,go_sem,y0,y1,y2]) rfl ⟨_,rfl,?_,?_⟩
 ·exact ((((C1.out.below (p:=⟨w.heap.size,2,none⟩) (by simp) _).below (p:=⟨w.heap.size + 1,0,none⟩) (by simp) _).below (p:=⟨w.heap.size + 1,1,none⟩) (by simp) _).below (p:=⟨w.heap.size + 1,2,none⟩) (by simp) _).mono (by omega)
 ·exact (((B1.out.setCell (p:=⟨w.heap.size,2,none⟩) (Nat.le_refl _) _).setCell (p:=⟨w.heap.size + 1,0,none⟩) (by simp) _).setCell (p:=⟨w.heap.size + 1,1,none⟩) (by simp) _).setCell (p:=⟨w.heap.size + 1,2,none⟩) (by simp) _
def cel (y : Inx) : List Value:=[.int .u8 y.c,.int .i64 y.a,.slice y.la y.ln y.lc]
def flat (ys : List Inx) : List Value:=ys.flatMap cel
theorem flat_len : ∀ (ys : List Inx),(flat ys).length = ys.length * 3
 | [] => rfl
 | y :: ys => by
  have:=flat_len ys
  unfold flat at this ⊢
  rw [List.flatMap_cons,List.length_append,this]
  simp [cel]; omega
theorem flat_append (xs ys : List Inx) : flat (xs ++ ys) = flat xs ++ flat ys:=by unfold flat; rw [List.flatMap_append]
theorem flat_one (y : Inx) : flat [y] = cel y:=by simp [flat]
theorem flat_cells (ys : List Inx) : ∀ u ∈ flat ys,u.oneCell' = true:=by
 intro u hu
 obtain ⟨y,_,h⟩:=List.mem_flatMap.1 hu
 simp only [cel,List.mem_cons,List.not_mem_nil,or_false] at h
 rcases h with rfl | rfl | rfl <;> rfl
def LC (w : World) (base : Nat) (v : Value) (ys : List Inx) : Prop:=w.ownsRow base 51 3 v ys.length (flat ys)
def LL (w : World) (base : Nat) (ys : List Inx) : Prop:=∀ y ∈ ys,LI w base (.slice y.la y.ln y.lc) y.l
theorem LC.nil (w : World) (base : Nat) : LC w base (.slice none 0 0) []:=⟨rfl,.inl ⟨rfl,rfl⟩⟩
theorem LC.later {w w' : World} {base B : Nat} {v : Value} {ys : List Inx} (h : LC w base v ys) (hb : Below B w w') (hB : w.heap.size ≤ B) : LC w' base v ys:=by
 refine ⟨h.1,?_⟩
 rcases h.2 with h0 | ⟨g,cp,cur,rfl,h2,h3,h4⟩
 ·exact .inl h0
 ·refine .inr ⟨g,cp,cur,rfl,h2,?_,h4⟩
  have hl : g < w.heap.size:=(Array.getElem?_eq_some_iff.1 h3).1
  rw [hb.block g (by omega)]; exact h3
theorem LC.slice {w : World} {base : Nat} {v : Value} {ys : List Inx} (h : LC w base v ys) : ∃ a c,v = .slice a ys.length c:=by
 rcases h.2 with ⟨h0,h1⟩ | ⟨g,cp,cur,h1,_⟩
 ·exact ⟨none,0,by rw [h0,h1]⟩
 ·exact ⟨_,_,h1⟩
theorem LC.block {w : World} {base B : Nat} {v : Value} {ys : List Inx} (h : LC w base v ys) (hv : v.ownBlock = some B) : base ≤ B ∧ ∃ cur,w.heap[B]? = some (.cells cur 51):=by
 rcases h.2 with ⟨h0,_⟩ | ⟨g,cp,cur,h1,h2,h3,_⟩
 ·rw [h0] at hv; cases hv
 ·rw [h1] at hv
  have e : g = B:=by simpa [Value.ownBlock] using hv
  subst e
  exact ⟨h2,cur,h3⟩
theorem LI.kind {w : World} {base B : Nat} {v : Value} {l : List Int} (h : LI w base v l) (hv : v.ownBlock = some B) : ∃ cur,w.heap[B]? = some (.cells cur 3):=by
 rcases h.2 with ⟨h0,_⟩ | ⟨g,cp,cur,h1,h2,h3,_⟩
 ·rw [h0] at hv; cases hv
 ·rw [h1] at hv
  have e : g = B:=by simpa [Value.ownBlock] using hv
  subst e
  exact ⟨cur,h3⟩
theorem LC.apart {w : World} {base base' B : Nat} {v v' : Value} {ys : List Inx} {l : List Int} (h : LC w base v ys) (h' : LI w base' v' l) (e : v.ownBlock = some B) (e' : v'.ownBlock = some B) : False:=by
 obtain ⟨_,c1,h1⟩:=h.block e
 obtain ⟨c2,h2⟩:=h'.kind e'
 rw [h1] at h2
 simp at h2
theorem LL.later {w w' : World} {base B : Nat} {ys : List Inx} (h : LL w base ys) (hb : Below B w w') (hB : w.heap.size ≤ B) : LL w' base ys:=fun y hy => (h y hy).later hb hB
theorem app_ins (w : World) {ops : Array Oper} {rest : List Oper} {o : Oper} {a : Act} {Q : Exit → Act → World → Prop} (hgd : o.guard = none)
  (s x : Operand) (ho : o.op = Op.call { callee:=Callee.builtin Builtin.append,args:=#[s,x],argTypes:=#[40,40] })
  (base : Nat) (v : Value) (ys : List Inx) (hs : a.eval s = v) (hown : LC w base v ys) (hbase : base ≤ w.heap.size) (ad : Addr) (zs : List Inx) (m c : Nat) (hx : a.eval x = .slice (some ad) m c) (hm : zs.length = m)
  (hu : ∀ (j : Nat) (y : Value),(flat zs)[j]? = some y → w.cell? (ad.add j) = some y)
  (hlen : ys.length + zs.length ≤ 1073741824)
  (h : ∀ (a' : Option Addr) (k' c' : Nat) (w' : World),k' = (ys ++ zs).length → LC w' base (.slice a' k' c') (ys ++ zs) → Below base w w' → (∀ b' v' l',LI w b' v' l' → LI w' b' v' l') → wpList Tryz.prog ops Q rest (a.put o.dst (.slice a' k' c')) w') :
  wpList Tryz.prog ops Q (o :: rest) a w:=by
 obtain ⟨i0,hi,hz0,hz1,hz2⟩:=info_parts Tryz.infIns
 refine wpList_append_own w hgd s x 40 ho base 51 i0 _ 3 40 Tryz.underlying40 hi hz0 hz1 hz2 rfl (by decide) v ys.length _ hs hown ad m c (flat zs) hx (by rw [flat_len,hm])
  hu (flat_cells zs) (by unfold maxLen; omega) (by omega) hbase ?_
 intro v' w' ho' hg _
 have hL : LC w' base v' (ys ++ zs):=by
  unfold LC
  rw [List.length_append,hm,flat_append]
  exact ho'
 obtain ⟨a',c',rfl⟩:=hL.slice
 have hk:=Kept.of_grown hg
 refine h a' _ c' w' rfl hL ?_ ?_
 ·exact hk.to_below hbase (fun k hk e => by
   have:=(hown.block e.symm).1
   omega)
 ·intro b' v' l' hl
  exact hl.kept hk (fun b hb e => hown.apart hl e.symm hb)
structure CP (w : World) (xs : List Inx) (k : Nat) (v : Value) (ys : List Inx) (wr : World) : Prop where
 len : ys.length = k
 row : LC wr w.heap.size v ys
 lab : LL wr w.heap.size ys
 same : ∀ j,j < k → (ys.getD j dx).c = (xs.getD j dx).c ∧ (ys.getD j dx).a = (xs.getD j dx).a ∧ (ys.getD j dx).l = (xs.getD j dx).l ∧ (ys.getD j dx).ln = (xs.getD j dx).ln
 bel : Below w.heap.size w wr
theorem getD_snoc {ys : List Inx} {y : Inx} {j : Nat} : (ys ++ [y]).getD j dx = if j < ys.length then ys.getD j dx else if j = ys.length then y else dx:=by
 by_cases h : j < ys.length
 ·rw [if_pos h,List.getD_eq_getElem?_getD,List.getElem?_append_left h,List.getD_eq_getElem?_getD]
 ·rw [if_neg h,List.getD_eq_getElem?_getD,List.getElem?_append_right (by omega)]
  by_cases e : j = ys.length
  ·rw [if_pos e,e]; simp
  ·rw [if_neg e,List.getElem?_eq_none (by simp; omega)]; rfl
theorem copyCode_in (b off n cap : Nat) (xs : List Inx) (w : World) (hn : n ≤ 100000) (hcap : n ≤ cap) (hc : Cod w b off n xs) (hln : ∀ j,j < n → (xs.getD j dx).ln ≤ 100000) :
  Calls Tryz.prog 134 #[.slice (some ⟨b,off,none⟩) n cap] w fun e w' => ∃ v ys,e = .returned v ∧ CP w xs n v ys w':=by
 have HC:=hid hc
 have HLN:=hid hln
 clear hc hln
 go_enter Tryz.func134,Tryz.ntmps134
 go_wp2_with fail
 go_loopw [3,4] (fun v p wr => ∃ (k : Nat) (ys : List Inx),k ≤ n ∧ p = .int .i64 k ∧ CP w xs k v ys wr) (fun _ p _ => n - (intOf p).toNat)
 case atStart => exact ⟨0,[],by omega,rfl,rfl,LC.nil _ _,(fun y hy => by cases hy),(fun j hj => by omega),Below.refl _ _⟩
 case round =>
  obtain ⟨k,ys,hk,rfl,hcp⟩:=hrel
  obtain ⟨va,vc,rfl⟩:=hcp.row.slice
  have hlen:=hcp.len
  by_cases hkn : k < n
  ·have hin:=(HC.out.later hcp.bel (Nat.le_refl _)).2 k hkn
   obtain ⟨d0,d1,d2,r1,r2,r3,r4,r5,r6⟩:=hin
   have hl1:=HLN.out k hkn
   have H1:=hid (copyIns (xs.getD k dx).c (xs.getD k dx).a _ _ _ _ wr (r6 hl1) hl1)
   unfold insW at H1
   have HCP:=hid hcp
   have hsz:=hcp.bel.size
   have hkn' : (k : Int) < (n : Int):=by omega
   obtain ⟨x,hx⟩ : ∃ x,x = xs.getD k dx:=⟨_,rfl⟩
   rw [← hx] at d0 d1 d2 r1 r2 r3 r4 H1 hl1
   have HX:=hid hx
   have HLE:=hid hlen
   clear hcp r5 r6 hx hlen
   go_wp2_with fail
   refine H1.out.mono ?_
   rintro e w1 ⟨u,rfl,hL,hb1⟩
   obtain ⟨ua,uc,rfl⟩:=hL.slice
   have hs1:=hb1.size
   have hba:=(Below.refl w1.heap.size w1).alloc (Nat.le_refl _) (.cells #[.int .u8 x.c,.int .i64 x.a,.slice ua x.l.length uc] 51)
   have hsa:=hba.size
   have hrow:=(HCP.out.row.later hb1 (Nat.le_refl _)).later hba (Nat.le_refl _)
   have HROW:=hid hrow
   have HLL:=hid ((HCP.out.lab.later hb1 (Nat.le_refl _)).later hba (Nat.le_refl _))
   have HL:=hid (hL.later hba (Nat.le_refl _))
   have HB:=hid ((HCP.out.bel.trans (hb1.mono hsz)).trans (hba.mono (by omega)))
   have hsz2 : w.heap.size ≤ (w1.alloc (.cells #[.int .u8 x.c,.int .i64 x.a,.slice ua x.l.length uc] 51)).heap.size:=by simp; omega
   have hys : ys.length + [(⟨x.c,x.a,ua,x.l.length,uc,x.l⟩ : Inx)].length ≤ 1073741824:=by have:=HLE.out; simp; omega
   have hnews : ∀ (j : Nat) (y : Value),(flat [(⟨x.c,x.a,ua,x.l.length,uc,x.l⟩ : Inx)])[j]? = some y → (w1.alloc (.cells #[.int .u8 x.c,.int .i64 x.a,.slice ua x.l.length uc] 51)).cell? ((⟨w1.heap.size,0,none⟩ : Addr).add j) = some y:=by
    intro j y hj
    rw [flat_one] at hj
    have hplain : (⟨w1.heap.size,0,none⟩ : Addr).add j = ⟨w1.heap.size,j,none⟩:=by unfold Addr.add; split <;> simp_all
    rw [hplain,World.cell?_alloc_new]
    rcases j with _ | _ | _ | j
    ·simpa [cel] using hj
    ·simpa [cel] using hj
    ·simpa [cel] using hj
    ·simp [cel] at hj
   have HN:=hid hnews
   clear hb1 hba hrow hL hnews
   go_wp2_with (first
    | (at_builtin; refine app_ins _ rfl (.tmp 11) (.tmp 17) rfl w.heap.size _ ys rfl HROW.out hsz2 ⟨w1.heap.size,0,none⟩ [⟨x.c,x.a,ua,x.l.length,uc,x.l⟩] 1 1 rfl rfl HN.out hys ?_; intro a' k' c' w2 hk2 hL2 hb2 hkeep; have HL2:=hid hL2; have HB2:=hid hb2; have HKP:=hid hkeep; clear hL2 hb2 hkeep hk2))
   have hke:=HLE.out
   refine ⟨⟨k + 1,ys ++ [⟨x.c,x.a,ua,x.l.length,uc,x.l⟩],by omega,by go_num,by simp; omega,HL2.out,?_,?_,HB.out.trans HB2.out⟩,by simp [intOf]; omega⟩
   ·intro y hy
    rcases List.mem_append.1 hy with hy | hy
    ·exact HKP.out _ _ _ (HLL.out y hy)
    ·simp only [List.mem_singleton] at hy
     subst hy
     exact (HKP.out _ _ _ HL.out).mono (by omega)
   ·intro j hj
    rw [getD_snoc]
    by_cases e : j < k
    ·rw [if_pos (by omega)]; exact HCP.out.same j e
    ·rw [if_neg (by omega),if_pos (by omega)]
     have e : j = k:=by omega
     subst e
     rw [← HX.out]
     refine ⟨rfl,rfl,rfl,?_⟩
     have:=HC.out.2 j hkn
     have hh:=(this.2.2.2.2.2.2.2.2 (HLN.out j hkn)).1
     rw [← HX.out] at hh
     exact hh
  ·obtain rfl : k = n:=by omega
   have HCP:=hid hcp
   clear hcp
   go_wp2_with fail
   go_ret
   exact ⟨_,ys,rfl,HCP.out⟩
def isL (c : Int) : Bool:=decide (c = 119) || decide (c = 108)
theorem isL_low {c : Int} (h : isL c = true) : c < 128:=by
 simp only [isL,Bool.or_eq_true,decide_eq_true_eq] at h; omega
theorem isL_cases (c : Int) : (c = 119 ∧ isL c = true) ∨ (c = 108 ∧ isL c = true) ∨ ((c == 119) = false ∧ (c == 108) = false ∧ isL c = false):=by
 by_cases h : c = 119
 ·exact .inl ⟨h,by subst h; rfl⟩
 by_cases h' : c = 108
 ·exact .inr (.inl ⟨h',by subst h'; rfl⟩)
 ·exact .inr (.inr ⟨by simpa using h,by simpa using h',by simp [isL,h,h']⟩)
theorem letter25 (c : Int) (w : World) : Calls Tryz.prog 181 #[.int .u8 c] w fun e w' => e = .returned (.bool (isL c)) ∧ w' = w:=by
 rcases isL_cases c with ⟨rfl,h⟩ | ⟨rfl,h⟩ | ⟨h1,h2,h⟩
 all_goals
  go_enter Tryz.func181,Tryz.ntmps181
  go_wp2
  go_ret
  first | exact ⟨rfl,rfl⟩ | (rw [h]; simp_all)
def fitsB (v c : Int) : Bool:=decide (c = 108) || (decide (c = 119) && decide (v < 4294967296))
theorem fits13 (v c : Int) (w : World) : Calls Tryz.prog 243 #[.int .u64 v,.int .u8 c] w fun e w' => e = .returned (.bool (fitsB v c)) ∧ w' = w:=by
 rcases isL_cases c with ⟨rfl,h⟩ | ⟨rfl,h⟩ | ⟨h1,h2,h⟩
 all_goals
  go_enter Tryz.func243,Tryz.ntmps243
  go_wp2
  go_ret
  first | exact ⟨rfl,rfl⟩ | (simp_all [fitsB])
theorem ask26 (k m c : Int) (B : Nat) (w : World) (hm : w.cell? ⟨B,0,none⟩ = some (.int .i64 m)) :
  Calls Tryz.prog 210 #[.int .i64 k,.int .u8 c,.pointer (some ⟨B,0,none⟩)] w fun e w' => e = .returned (.bool (decide (k < m))) ∧ w' = w:=by
 go_enter Tryz.func210,Tryz.ntmps210
 go_wp2
 go_ret
 exact ⟨rfl,rfl⟩
end Go.Proofs.YtepnnenohjfkbaaGreatDoor

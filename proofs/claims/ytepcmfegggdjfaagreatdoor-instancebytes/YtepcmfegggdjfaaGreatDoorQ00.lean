/-
  Texts TLett TEach Heap Own Sh Code Plain ReadA ReadB ReadC Eq.
-/
import Derived.ArgAppend
import Derived.Below
import Derived.BigQuiet
import Derived.Deep.QuietTactic
import Derived.Deep.RegionHeld3
import Derived.KernelRfl
import Derived.Laws.BitsAllLaws
import Derived.OrdersHeld
import Derived.RowKit
import Derived.Test.YtepcmfegggdjfaaGreatDoorProg
import Derived.WalkKit
import Derived.WalkLawsBesides
import Derived.WalkSpells
set_option linter.unusedVariables false
set_option maxRecDepth 100000
set_option maxHeartbeats 16000000
namespace Go.Proofs.YtepcmfegggdjfaaGreatDoor
open Go.RowKit
theorem sIB {α : Type _} (l : List α) (i : Nat) (a : α) : l.toArray.setIfInBounds i a = (l.set i a).toArray:=List.setIfInBounds_toArray l i a
theorem sC0 {α : Type _} {x : α} {xs : List α} {a : α} : (x :: xs).set 0 a = a :: xs:=List.set_cons_zero
theorem sCs {α : Type _} {x : α} {xs : List α} {i : Nat} {a : α} : (x :: xs).set (i + 1) a = x :: xs.set i a:=List.set_cons_succ
theorem tkH {P : Program} {ops : Array Oper} {Q : Exit → Act → World → Prop} {md : Region.Mode} {S : World → Prop} {i : Nat} {oi : Oper} {v : Value} {fuel : Nat} {listed : Array Bool} {a : Act} {w : World} (hi : ops[i]? = some oi) (hv : ∀ w,S w → (execOp a.eval oi).run P w = .ok (.value v) w)
  (h : wpAnyH P md ops Q S fuel (listed.setIfInBounds i true) (a.put oi.dst v) w) (hc : (Region.noSelect ops && Region.free md ops listed i && (Region.ready md ops listed).contains i) = true:=by kernel_rfl) (hw : Region.wanted oi (yielded ops a.tmps) = true:=by rfl)
  (hQ : ∀ c a w,Q (.panic c) (a.put oi.dst v) w → Q (.panic c) a w:=by exact fun _ _ _ h => h) (hS : S w:=by assumption) : wpAnyH P md ops Q S (fuel + 1) listed a w:=by
 simp only [Bool.and_eq_true] at hc
 exact wpAnyH_take hi hc.1.1 hc.1.2 hc.2 hQ (Or.inl ⟨hw,hv⟩) hS h
theorem tkA {P : Program} {ops : Array Oper} {Q : Exit → Act → World → Prop} {md : Region.Mode} {S : World → Prop} {i : Nat} {oi : Oper} {d : Option Tmp} {v : Value} {fuel : Nat} {listed : Array Bool} {a : Act} {w : World} (hi : ops[i]? = some oi) (hd : oi.dst = d) (hv : ∀ w,S w → (execOp a.eval oi).run P w = .ok (.value v) w)
  (h : wpAnyH P md ops Q S fuel (listed.setIfInBounds i true) (a.put d v) w) (hc : (Region.noSelect ops && Region.free md ops listed i && (Region.ready md ops listed).contains i) = true:=by kernel_rfl) (hw : Region.wanted oi (yielded ops a.tmps) = true:=by kernel_rfl)
  (hQ : ∀ c a w,Q (.panic c) (a.put d v) w → Q (.panic c) a w:=by exact fun _ _ _ h => h) (hS : S w:=by assumption) : wpAnyH P md ops Q S (fuel + 1) listed a w:=by
 subst hd
 exact tkH hi hv h hc hw hQ hS
theorem hid {P : Prop} (h : P) : Hid P:=h
def isL (c : Int) : Bool:=decide (c = 119) || decide (c = 108)
theorem isL_low {c : Int} (h : isL c = true) : c < 128:=by
 simp only [isL,Bool.or_eq_true,decide_eq_true_eq] at h; omega
theorem isL_cases (c : Int) : (c = 119 ∧ isL c = true) ∨ (c = 108 ∧ isL c = true) ∨ ((c == 119) = false ∧ (c == 108) = false ∧ isL c = false):=by
 by_cases h : c = 119
 ·exact .inl ⟨h,by subst h; rfl⟩
 by_cases h' : c = 108
 ·exact .inr (.inl ⟨h',by subst h'; rfl⟩)
 ·exact .inr (.inr ⟨by simpa using h,by simpa using h',by simp [isL,h,h']⟩)
theorem letter25 (c : Int) (w : World) : Calls Tryz.prog 49 #[.int .u8 c] w fun e w' => e = .returned (.bool (isL c)) ∧ w' = w:=by
 rcases isL_cases c with ⟨rfl,h⟩ | ⟨rfl,h⟩ | ⟨h1,h2,h⟩
 all_goals
  go_enter Tryz.func49,Tryz.ntmps49
  go_wp2
  go_ret
  first | exact ⟨rfl,rfl⟩ | (rw [h]; simp_all)
def fitsB (v c : Int) : Bool:=decide (c = 108) || (decide (c = 119) && decide (v < 4294967296))
theorem fits13 (v c : Int) (w : World) : Calls Tryz.prog 25 #[.int .u64 v,.int .u8 c] w fun e w' => e = .returned (.bool (fitsB v c)) ∧ w' = w:=by
 rcases isL_cases c with ⟨rfl,h⟩ | ⟨rfl,h⟩ | ⟨h1,h2,h⟩
 all_goals
  go_enter Tryz.func25,Tryz.ntmps25
  go_wp2
  go_ret
  first | exact ⟨rfl,rfl⟩ | (simp_all [fitsB])
theorem ask26 (k m c : Int) (B : Nat) (w : World) (hm : w.cell? ⟨B,0,none⟩ = some (.int .i64 m)) :
  Calls Tryz.prog 66 #[.int .i64 k,.int .u8 c,.pointer (some ⟨B,0,none⟩)] w fun e w' => e = .returned (.bool (decide (k < m))) ∧ w' = w:=by
 go_enter Tryz.func66,Tryz.ntmps66
 go_wp2
 go_ret
 exact ⟨rfl,rfl⟩
def byteI (s : ByteArray) (i : Nat) : Int:=((s.data.toList[i]?.getD 0).toNat : Int)
theorem byteI_at (s : ByteArray) (i : Nat) (h : i < s.size) : ((s[i]'h).toNat : Int) = byteI s i:=by
 have h' : i < s.data.toList.length:=by simpa using h
 rw [byteI,List.getElem?_eq_getElem h',Option.getD_some,Array.getElem_toList]; rfl
theorem each20 (s : ByteArray) (K B : Nat) (p : Nat → Bool) (w : World) (hs : s.size ≤ 1073741824)
  (he : ∀ args w,(callFunc K args).run Tryz.prog w = .ok (.enter K args) w)
  (hp : ∀ (pos i : Nat) (h : i < s.size),isL (byteI s i) = true → Calls Tryz.prog K #[.int .i64 i,.int .u8 (s[i]'h).toNat,.pointer (some ⟨B,0,none⟩)] (w.iter s pos) fun e w' => e = .returned (.bool (p i)) ∧ w' = w.iter s pos) :
  Calls Tryz.prog 23 #[.string s,.func (.func K) #[] #[.pointer (some ⟨B,0,none⟩)]] w fun e w' =>
   ∃ b pos,e = .returned (.bool b) ∧ (b = true ↔ ∀ i,i < s.size → isL (byteI s i) = true ∧ p i = true) ∧ w' = w.iter s pos:=by
 have HP:=hid hp
 clear hp
 go_enter Tryz.func23,Tryz.ntmps23
 go_wp2
 go_loopw [5] (fun _ wr => ∃ k : Nat,k ≤ s.size ∧ wr = w.iter s k ∧ ∀ i,i < k → isL (byteI s i) = true ∧ p i = true) (fun _ wr => s.size - wr.iterPos w.heap.size)
 case atStart => exact ⟨0,Nat.zero_le _,rfl,fun i h => by omega⟩
 case round =>
  obtain ⟨k,hk,rfl,hall⟩:=hrel
  have HA:=hid hall
  clear hall
  by_cases hlt : k < s.size
  ·by_cases hL : isL (byteI s k) = true
   ·have hlow : (s[k]'hlt).toNat < 128:=by have:=isL_low hL; rw [← byteI_at s k hlt] at this; omega
    have hnx : ∀ ty,(Instr.next (.pointer (some ⟨w.heap.size,0,none⟩)) true ty).run Tryz.prog (w.iter s k) = _:=fun ty => run_next_ascii w s k ty hlt hlow
    go_wp2_with fail
    refine (letter25 _ _).mono ?_
    rintro e w1 ⟨rfl,rfl⟩
    rw [byteI_at s k hlt,hL]
    go_wp2_with fail
    refine (HP.out (k + 1) k hlt hL).mono ?_
    rintro e w2 ⟨rfl,rfl⟩
    cases hpk : p k
    ·go_wp2
     go_ret
     exact ⟨false,k + 1,rfl,⟨fun h => (nomatch h),fun h => (by rw [(h k hlt).2] at hpk; cases hpk)⟩,rfl⟩
    ·go_wp2
     go_roundw
     case rel =>
      refine ⟨k + 1,by omega,rfl,fun i hi => ?_⟩
      rcases Nat.lt_or_ge i k with h | h
      ·exact HA.out i h
      ·obtain rfl : i = k:=by omega
       exact ⟨hL,hpk⟩
     case measure => simp; omega
   ·have hL' : isL (byteI s k) = false:=by simpa using hL
    have hnx : ∀ ty,(Instr.next (.pointer (some ⟨w.heap.size,0,none⟩)) true ty).run Tryz.prog (w.iter s k) = _:=fun ty => run_next_any w s k ty hlt
    generalize (Utf8.decode s k).2 = wd at hnx
    generalize (Utf8.decode s k).1 = rv at hnx
    go_wp2_with fail
    refine (letter25 _ _).mono ?_
    rintro e w1 ⟨rfl,rfl⟩
    rw [byteI_at s k hlt,hL']
    go_wp2
    go_ret
    exact ⟨false,_,rfl,⟨fun h => (nomatch h),fun h => absurd (h k hlt).1 hL⟩,rfl⟩
  ·have hnx : ∀ ty,(Instr.next (.pointer (some ⟨w.heap.size,0,none⟩)) true ty).run Tryz.prog (w.iter s k) = _:=fun ty => run_next_end w s k ty hlt
   go_wp2
   go_ret
   exact ⟨true,_,rfl,⟨fun _ i hi => HA.out i (by omega),fun _ => rfl⟩,rfl⟩
def lett (s : ByteArray) (most : Nat) : Bool:=(List.range s.size).all (fun i => isL (byteI s i)) && decide (s.size ≤ most)
theorem lett_iff (s : ByteArray) (most : Nat) : lett s most = true ↔ (∀ i,i < s.size → isL (byteI s i) = true) ∧ s.size ≤ most:=by
 simp [lett]
theorem lett_of {s : ByteArray} {most : Nat} {b : Bool} (h : b = true ↔ (∀ i,i < s.size → isL (byteI s i) = true) ∧ s.size ≤ most) : b = lett s most :=
 Bool.eq_iff_iff.2 (h.trans (lett_iff s most).symm)
theorem letters22 (s : ByteArray) (most : Nat) (w : World) (hs : s.size ≤ 1073741824) (hm : most ≤ 1073741824) :
  Calls Tryz.prog 50 #[.string s,.int .i64 most] w fun e w' => e = .returned (.bool (lett s most)) ∧ Below w.heap.size w w':=by
 have hmf : ∀ (fn : Fn) (first cap : Array Value) (w : World),(Instr.makeFunc fn first cap).run Tryz.prog w = .ok (.func fn first cap) w:=fun _ _ _ _ => rfl
 have HE:=hid (each20 s 66 w.heap.size (fun i => decide ((i : Int) < most)) (w.alloc (.cells #[.int .i64 most] 3)) hs (fun _ _ => by rfl) (fun pos i h _ => ask26 i most _ w.heap.size _ (by
  rw [World.iter,World.cell?_alloc_past _ _ _ (by simp),World.cell?_alloc_at _ _ _ _ rfl]; rfl)))
 go_enter Tryz.func50,Tryz.ntmps50
 go_wp2_with fail
 refine HE.out.mono ?_
 rintro e w1 ⟨b,pos,rfl,hb,rfl⟩
 go_wp2
 go_ret
 have hbl : b = lett s most:=by
  refine lett_of (hb.trans ⟨fun h => ⟨fun i hi => (h i hi).1,?_⟩,fun h i hi => ⟨h.1 i hi,by simp; omega⟩⟩)
  rcases Nat.eq_zero_or_pos s.size with h0 | h0
  ·omega
  ·have:=(h (s.size - 1) (by omega)).2
   simp at this
   omega
 subst hbl
 exact ⟨rfl,((Below.refl _ _).alloc (Nat.le_refl _) _).alloc (by simp) _⟩
theorem shape11 (s : ByteArray) (w : World) (hs : s.size ≤ 1073741824) :
  Calls Tryz.prog 163 #[.string s] w fun e w' => e = .returned (.bool (lett s 256)) ∧ Below w.heap.size w w':=by
 have HE:=hid (letters22 s 256 w hs (by omega))
 go_enter Tryz.func163,Tryz.ntmps163
 go_wp2_with fail
 refine HE.out.mono ?_
 rintro e w1 ⟨rfl,hb⟩
 go_wp2
 go_ret
 exact ⟨rfl,hb⟩
structure Kept (S : Nat → Prop) (w w' : World) : Prop where
 os : w'.os = w.os
 tape : w'.tape = w.tape
 output : w'.output = w.output
 size : w.heap.size ≤ w'.heap.size
 block : ∀ k,k < w.heap.size → ¬ S k → w'.heap[k]? = w.heap[k]?
theorem Kept.refl (S : Nat → Prop) (w : World) : Kept S w w:=⟨rfl,rfl,rfl,Nat.le_refl _,fun _ _ _ => rfl⟩
theorem Kept.trans {S : Nat → Prop} {w w1 w2 : World} (h1 : Kept S w w1) (h2 : Kept S w1 w2) : Kept S w w2 :=
 ⟨h2.os.trans h1.os,h2.tape.trans h1.tape,h2.output.trans h1.output,Nat.le_trans h1.size h2.size,
  fun k hk hs => (h2.block k (Nat.lt_of_lt_of_le hk h1.size) hs).trans (h1.block k hk hs)⟩
theorem Kept.then {S T : Nat → Prop} {w w1 w2 : World} (h1 : Kept S w w1) (h2 : Kept T w1 w2) (h : ∀ k,k < w.heap.size → T k → S k) : Kept S w w2 :=
 ⟨h2.os.trans h1.os,h2.tape.trans h1.tape,h2.output.trans h1.output,Nat.le_trans h1.size h2.size,
  fun k hk hs => (h2.block k (Nat.lt_of_lt_of_le hk h1.size) (fun ht => hs (h k hk ht))).trans (h1.block k hk hs)⟩
theorem Kept.of_grown {w w' : World} {r : Option Nat} (h : w.grownBy w' r) : Kept (fun k => some k = r) w w':=⟨h.os,h.tape,h.output,h.size,fun k hk hs => h.block k hk hs⟩
theorem Kept.alloc (S : Nat → Prop) (w : World) (o : Obj) : Kept S w (w.alloc o):=by
 have h:=(Below.refl w.heap.size w).alloc (Nat.le_refl _) o
 exact ⟨h.os,h.tape,h.output,h.size,fun k hk _ => h.block k hk⟩
theorem Kept.of_below {B : Nat} {w w' : World} (h : Below B w w') : Kept (fun k => B ≤ k) w w':=⟨h.os,h.tape,h.output,h.size,fun k hk hs => h.block k (by omega)⟩
theorem Kept.to_below {S : Nat → Prop} {B : Nat} {w w' : World} (h : Kept S w w') (hB : B ≤ w.heap.size) (hS : ∀ k,k < B → ¬ S k) : Below B w w':=⟨h.os,h.tape,h.output,h.size,fun k hk => h.block k (by omega) (hS k hk)⟩
theorem Kept.mono {S T : Nat → Prop} {w w' : World} (h : Kept S w w') (hS : ∀ k,S k → T k) : Kept T w w':=⟨h.os,h.tape,h.output,h.size,fun k hk hs => h.block k hk (fun x => hs (hS k x))⟩
theorem Kept.drewN (S : Nat → Prop) (w : World) (m : Nat) : Kept S w (w.drewN m):=by
 have h:=below_drewN (Below.refl w.heap.size w) m
 exact ⟨h.os,h.tape,h.output,h.size,fun k hk _ => h.block k hk⟩
theorem cell_of_block {w w' : World} {b : Nat} (h : w'.heap[b]? = w.heap[b]?) (o : Nat) : w'.cell? ⟨b,o,none⟩ = w.cell? ⟨b,o,none⟩:=by
 simp only [World.cell?,h]
theorem frozen_of_block {w w' : World} {b : Nat} (h : w'.heap[b]? = w.heap[b]?) (o : Nat) : w'.frozen? ⟨b,o,none⟩ = w.frozen? ⟨b,o,none⟩:=by
 simp only [World.frozen?,h]
theorem Kept.cell {S : Nat → Prop} {w w' : World} (h : Kept S w w') {b o : Nat} {v : Value} (hc : w.cell? ⟨b,o,none⟩ = some v) (hs : ¬ S b) : w'.cell? ⟨b,o,none⟩ = some v :=
 (cell_of_block (h.block b (block_lt_of_cell hc) hs) o).trans hc
def Row (w : World) (e : TypeId) (B n cap : Nat) (xs : List Value) : Prop:=w.ownsRow 0 e 1 (.slice (some ⟨B,0,none⟩) n cap) n xs
theorem Row.of {w : World} {base : Nat} {e : TypeId} {B n cap : Nat} {xs : List Value} (h : w.ownsRow base e 1 (.slice (some ⟨B,0,none⟩) n cap) n xs) : Row w e B n cap xs:=by
 refine ⟨h.1,?_⟩
 rcases h.2 with ⟨h,_⟩ | ⟨g,cp,cur,h1,_,h3⟩
 ·cases h
 ·exact .inr ⟨g,cp,cur,h1,Nat.zero_le _,h3⟩
theorem Row.block {w : World} {e : TypeId} {B n cap : Nat} {xs : List Value} (h : Row w e B n cap xs) : ∃ cur,w.heap[B]? = some (.cells cur e) ∧ n ≤ cap ∧ cap ≤ maxLen ∧ cur.size = cap ∧ cur.toList.take n = xs:=by
 rcases h.2 with ⟨h,_⟩ | ⟨g,cp,cur,h1,_,h3,h4,h5,h6,h7⟩
 ·cases h
 ·simp at h1
  obtain ⟨rfl,rfl⟩:=h1
  exact ⟨cur,h3,h4,h5,by simpa using h6,by simpa using h7⟩
theorem Row.lt {w : World} {e : TypeId} {B n cap : Nat} {xs : List Value} (h : Row w e B n cap xs) : B < w.heap.size:=by
 obtain ⟨cur,h,_⟩:=h.block
 rcases Nat.lt_or_ge B w.heap.size with hl | hl
 ·exact hl
 ·rw [Array.getElem?_eq_none hl] at h; cases h
theorem own_keep {w w' : World} {base : Nat} {e : TypeId} {v : Value} {n : Nat} {xs : List Value} (h : w.ownsRow base e 1 v n xs) (hk : ∀ B,v.ownBlock = some B → w'.heap[B]? = w.heap[B]?) : w'.ownsRow base e 1 v n xs:=by
 refine ⟨h.1,?_⟩
 rcases h.2 with h0 | ⟨g,cp,cur,rfl,h2,h3,h4⟩
 ·exact .inl h0
 ·exact .inr ⟨g,cp,cur,rfl,h2,by rw [hk g rfl]; exact h3,h4⟩
theorem Row.keep {w w' : World} {e : TypeId} {B n cap : Nat} {xs : List Value} (h : Row w e B n cap xs) (hk : w'.heap[B]? = w.heap[B]?) : Row w' e B n cap xs :=
 own_keep h (fun b hb => by
  obtain rfl : B = b:=by simpa [Value.ownBlock] using hb
  exact hk)
theorem Row.kept {S : Nat → Prop} {w w' : World} {e : TypeId} {B n cap : Nat} {xs : List Value} (h : Row w e B n cap xs) (hk : Kept S w w') (hs : ¬ S B) : Row w' e B n cap xs:=h.keep (hk.block B h.lt hs)
theorem Row.cell {w : World} {e : TypeId} {B n cap : Nat} {xs : List Value} (h : Row w e B n cap xs) (j : Nat) (hj : j < n) : w.cell? ⟨B,j,none⟩ = xs[j]?:=World.ownsRow.cellAt h j (by omega)
theorem Row.free {w : World} {e : TypeId} {B n cap : Nat} {xs : List Value} (h : Row w e B n cap xs) (j : Nat) : w.frozen? ⟨B,j,none⟩ = false:=World.ownsRow.frozenAt h j
theorem Row.put {w : World} {e : TypeId} {B n cap : Nat} {xs : List Value} (h : Row w e B n cap xs) (j : Nat) (u : Value) : Row (w.setCell ⟨B,j,none⟩ u) e B n cap (xs.set j u) ∧ Kept (fun k => k = B) w (w.setCell ⟨B,j,none⟩ u):=by
 have:=World.ownsRow.stored h j u
 exact ⟨this.1,(Kept.of_grown this.2).mono (fun k hk => by simpa using hk)⟩
theorem own_mono {w : World} {base base' : Nat} {e : TypeId} {v : Value} {n : Nat} {xs : List Value} (h : w.ownsRow base e 1 v n xs) (hb : base' ≤ base) : w.ownsRow base' e 1 v n xs:=by
 refine ⟨h.1,?_⟩
 rcases h.2 with h0 | ⟨g,cp,cur,h1,h2,h3⟩
 ·exact .inl h0
 ·exact .inr ⟨g,cp,cur,h1,Nat.le_trans hb h2,h3⟩
def ends (s t : ByteArray) : Bool:=decide (t.size ≤ s.size) && ((s.extract (s.size - t.size) s.size).toList == t.toList)
theorem sub_wrap {a b : Nat} (h : b ≤ a) (ha : a ≤ 9223372036854775807) : ((a : Int) - (b : Int) + 9223372036854775808) % 18446744073709551616 - 9223372036854775808 = ((a - b : Nat) : Int):=by omega
theorem has283 (s p : ByteArray) (w : World) (hs : s.size ≤ 9223372036854775807) :
  Calls Tryz.prog 170 #[.string s,.string p] w fun e w' => e = .returned (.bool (ends s p)) ∧ w' = w:=by
 have hlo : p.size ≤ s.size → ((s.size : Int) - (p.size : Int) + 9223372036854775808) % 18446744073709551616 - 9223372036854775808 = ((s.size - p.size : Nat) : Int):=fun _ => by omega
 go_enter Tryz.func170,Tryz.ntmps170
 go_wp2
 ·have h : p.size ≤ s.size:=by assumption
  go_ret
  refine ⟨?_,rfl⟩
  show Ending.returned (Value.bool ((s.extract (s.size - p.size) s.size).toList == p.toList)) = _
  simp [h,ends]
 ·have h : ¬ p.size ≤ s.size:=by assumption
  go_ret
  refine ⟨?_,rfl⟩
  show Ending.returned (Value.bool false) = _
  simp [h,ends]
theorem has272 (s p : ByteArray) (w : World) (hs : s.size ≤ 9223372036854775807) :
  Calls Tryz.prog 165 #[.string s,.string p] w fun e w' => e = .returned (.bool (ends s p)) ∧ w' = w:=by
 have HE:=hid (has283 s p w hs)
 go_enter Tryz.func165,Tryz.ntmps165
 go_wp2_with fail
 refine HE.out.mono ?_
 rintro e w1 ⟨rfl,rfl⟩
 go_wp2
 go_ret
 exact ⟨rfl,rfl⟩
theorem shapes271 (s t : ByteArray) (B : Nat) (w : World) (hs : s.size ≤ 1073741824) (ht : t.size ≤ 1073741824)
  (h0 : w.cell? ⟨B,0,none⟩ = some (.string s)) (h1 : w.cell? ⟨B,1,none⟩ = some (.string t)) :
  Calls Tryz.prog 164 #[.slice (some ⟨B,0,none⟩) 2 2] w fun e w' => e = .returned (.bool (lett s 256 && lett t 256)) ∧ Below w.heap.size w w':=by
 have hB : B < w.heap.size:=World.block_lt_of_cell? _ _ h0
 have H0:=hid h0
 have H1:=hid h1
 clear h0 h1
 go_enter Tryz.func164,Tryz.ntmps164
 go_wp2
 go_loopw [7] (fun i wr => ∃ k : Nat,k ≤ 2 ∧ i = .int .i64 k ∧ (0 < k → lett s 256 = true) ∧ (1 < k → lett t 256 = true) ∧ Below w.heap.size w wr) (fun i _ => 2 - (intOf i).toNat)
 case atStart => exact ⟨0,by omega,rfl,fun h => by omega,fun h => by omega,Below.refl _ _⟩
 case round =>
  obtain ⟨k,hk,rfl,ha,hb,hw⟩:=hrel
  have HA:=hid ha
  have HB:=hid hb
  clear ha hb
  obtain rfl | rfl | rfl : k = 0 ∨ k = 1 ∨ k = 2:=by omega
  ·have hc : wr.cell? ⟨B,0,none⟩ = some (.string s):=by rw [hw.cell hB]; exact H0.out
   have HE:=hid (shape11 s wr hs)
   go_wp2_with fail
   refine HE.out.mono ?_
   rintro e w1 ⟨rfl,h1⟩
   cases hl : lett s 256
   ·go_wp2
    go_ret
    exact ⟨by simp [hl],hw.trans (h1.mono hw.size)⟩
   ·go_wp2
    go_roundw
    case rel => exact ⟨1,by omega,by simp,fun _ => hl,fun h => by omega,hw.trans (h1.mono hw.size)⟩
    case measure => simp [intOf]
  ·have hc : wr.cell? ⟨B,1,none⟩ = some (.string t):=by rw [hw.cell hB]; exact H1.out
   have HE:=hid (shape11 t wr ht)
   go_wp2_with fail
   refine HE.out.mono ?_
   rintro e w1 ⟨rfl,h1⟩
   cases hl : lett t 256
   ·go_wp2
    go_ret
    exact ⟨by simp [hl],hw.trans (h1.mono hw.size)⟩
   ·go_wp2
    go_roundw
    case rel => exact ⟨2,by omega,by simp,fun _ => HA.out (by omega),fun h => hl,hw.trans (h1.mono hw.size)⟩
    case measure => simp [intOf]
  ·go_wp2
   go_ret
   exact ⟨by rw [HA.out (by omega),HB.out (by omega)]; rfl,hw⟩
theorem shapes (s t : ByteArray) (w : World) (hs : s.size ≤ 1073741824) (ht : t.size ≤ 1073741824) :
  Calls Tryz.prog 164 #[.slice (some ⟨w.heap.size,0,none⟩) 2 2] (w.alloc (.cells #[.string s,.string t] 9)) fun e w' => e = .returned (.bool (lett s 256 && lett t 256)) ∧ Below w.heap.size w w':=by
 have hc:=cell_two_new w (.string s) (.string t) 9
 have hadd : ∀ j : Nat,(⟨w.heap.size,0,none⟩ : Addr).add j = ⟨w.heap.size,j,none⟩:=fun j => by unfold Addr.add; split <;> simp_all
 have h0:=hc 0 _ rfl
 have h1:=hc 1 _ rfl
 rw [hadd] at h0 h1
 refine (shapes271 s t w.heap.size _ hs ht h0 h1).mono ?_
 rintro e w' ⟨rfl,h⟩
 exact ⟨rfl,((Below.refl _ _).alloc (Nat.le_refl _) _).trans (h.mono (by simp))⟩
def shp (s t : ByteArray) : Bool:=lett s 256 && lett t 256
def topB (s t : ByteArray) : Bool:=shp s t && ends s t
def pushE (s t : ByteArray) : Int:=if shp s t = true then if 256 < s.size + t.size then 34 else 0 else 15
def pushV (s t : ByteArray) : ByteArray:=if pushE s t = 0 then s ++ t else ⟨#[]⟩
theorem ends_le {s t : ByteArray} (h : ends s t = true) : t.size ≤ s.size:=by
 simp only [ends,Bool.and_eq_true,decide_eq_true_eq] at h; exact h.1
theorem top234 (s t : ByteArray) (w : World) (hs : s.size ≤ 1073741824) (ht : t.size ≤ 1073741824) :
  Calls Tryz.prog 153 #[.string s,.string t] w fun e w' => e = .returned (.bool (topB s t)) ∧ Below w.heap.size w w':=by
 have H1:=hid (shapes s t w hs ht)
 cases hh : shp s t
 ·unfold shp at hh
  rw [hh] at H1
  go_enter Tryz.func153,Tryz.ntmps153
  go_wp2_with fail
  refine H1.out.mono ?_
  rintro e w1 ⟨rfl,hb⟩
  go_wp2
  go_ret
  exact ⟨by simp [topB,shp,hh],hb⟩
 ·unfold shp at hh
  rw [hh] at H1
  go_enter Tryz.func153,Tryz.ntmps153
  go_wp2_with fail
  refine H1.out.mono ?_
  rintro e w1 ⟨rfl,hb⟩
  have H2:=hid (has272 s t w1 (by omega))
  go_wp2_with fail
  refine H2.out.mono ?_
  rintro e w2 ⟨rfl,rfl⟩
  go_wp2
  go_ret
  exact ⟨by simp [topB,shp,hh],hb⟩
theorem push242 (s t : ByteArray) (w : World) (hs : s.size ≤ 1073741824) (ht : t.size ≤ 1073741824) :
  Calls Tryz.prog 162 #[.string s,.string t] w fun e w' => e = .returned (.tuple #[.string (pushV s t),.int .i64 (pushE s t)]) ∧ Below w.heap.size w w':=by
 have H1:=hid (shapes s t w hs ht)
 cases hh : shp s t
 ·have hE : pushE s t = 15:=by simp [pushE,hh]
  have hV : pushV s t = ⟨#[]⟩:=by simp [pushV,hE]
  rw [hE,hV]
  unfold shp at hh
  rw [hh] at H1
  go_enter Tryz.func162,Tryz.ntmps162
  go_wp2_with fail
  refine H1.out.mono ?_
  rintro e w1 ⟨rfl,hb⟩
  go_wp2
  go_ret2
  exact ⟨rfl,hb⟩
 ·by_cases hbig : 256 < s.size + t.size
  ·have hE : pushE s t = 34:=by simp [pushE,hh,hbig]
   have hV : pushV s t = ⟨#[]⟩:=by simp [pushV,hE]
   have hbig' : (256 : Int) < (s.size : Int) + (t.size : Int):=by omega
   rw [hE,hV]
   unfold shp at hh
   rw [hh] at H1
   go_enter Tryz.func162,Tryz.ntmps162
   go_wp2_with fail
   refine H1.out.mono ?_
   rintro e w1 ⟨rfl,hb⟩
   go_wp2
   go_ret2
   exact ⟨rfl,hb⟩
  ·have hE : pushE s t = 0:=by simp [pushE,hh,hbig]
   have hV : pushV s t = s ++ t:=by simp [pushV,hE]
   have hbig' : ¬ (256 : Int) < (s.size : Int) + (t.size : Int):=by omega
   rw [hE,hV]
   unfold shp at hh
   rw [hh] at H1
   go_enter Tryz.func162,Tryz.ntmps162
   go_wp2_with fail
   refine H1.out.mono ?_
   rintro e w1 ⟨rfl,hb⟩
   go_wp2
   go_ret2
   exact ⟨rfl,hb⟩
theorem Tryz.infInts : (Tryz.prog.info? 3).map (fun i => (i.zero,i.size,i.bytes)) = some (some (.int .i64 0),1,8):=by kernel_rfl
def fl (n : Nat) (f : Nat → Int) : List Value:=(List.range n).map fun i => Value.int .i64 (f i)
theorem fl_len (n : Nat) (f : Nat → Int) : (fl n f).length = n:=by simp [fl]
theorem fl_get (n : Nat) (f : Nat → Int) (i : Nat) (h : i < n) : (fl n f)[i]? = some (.int .i64 (f i)):=by simp [fl,h]
theorem fl_congr {n : Nat} {f g : Nat → Int} (h : ∀ i,i < n → f i = g i) : fl n f = fl n g:=by
 unfold fl; apply List.map_congr_left; intro i hi; rw [h i (by simpa using hi)]
theorem fl_set {n : Nat} {f : Nat → Int} {t : Nat} {v : Int} {g : Nat → Int} (h : ∀ i,i < n → g i = if i = t then v else f i) : (fl n f).set t (.int .i64 v) = fl n g:=by
 apply List.ext_getElem?
 intro j
 by_cases hj : j < n
 ·rw [fl_get n g j hj,h j hj]
  by_cases e : j = t
  ·subst e
   rw [if_pos rfl,List.getElem?_set_self (by rw [fl_len]; exact hj)]
  ·rw [if_neg e,List.getElem?_set_ne (fun x => e x.symm),fl_get n f j hj]
 ·rw [List.getElem?_eq_none (by rw [List.length_set,fl_len]; omega),List.getElem?_eq_none (by rw [fl_len]; omega)]
def RI (w : World) (B n : Nat) (f : Nat → Int) : Prop:=Row w 3 B n n (fl n f)
theorem RI.cell {w : World} {B n : Nat} {f : Nat → Int} (h : RI w B n f) (i : Nat) (hi : i < n) : w.cell? ⟨B,i,none⟩ = some (.int .i64 (f i)):=(Row.cell h i hi).trans (fl_get n f i hi)
theorem RI.free {w : World} {B n : Nat} {f : Nat → Int} (h : RI w B n f) (i : Nat) : w.frozen? ⟨B,i,none⟩ = false:=Row.free h i
theorem RI.lt {w : World} {B n : Nat} {f : Nat → Int} (h : RI w B n f) : B < w.heap.size:=Row.lt h
theorem RI.congr {w : World} {B n : Nat} {f g : Nat → Int} (h : RI w B n f) (e : ∀ i,i < n → g i = f i) : RI w B n g:=by
 unfold RI; rw [fl_congr e]; exact h
theorem RI.put {w : World} {B n : Nat} {f g : Nat → Int} (h : RI w B n f) (t : Nat) (v : Int) (e : ∀ i,i < n → g i = if i = t then v else f i) : RI (w.setCell ⟨B,t,none⟩ (.int .i64 v)) B n g ∧ Kept (fun k => k = B) w (w.setCell ⟨B,t,none⟩ (.int .i64 v)):=by
 have:=Row.put h t (.int .i64 v)
 rw [fl_set e] at this
 exact this
theorem RI.kept {S : Nat → Prop} {w w' : World} {B n : Nat} {f : Nat → Int} (h : RI w B n f) (hk : Kept S w w') (hs : ¬ S B) : RI w' B n f:=Row.kept h hk hs
def SegJ (w : World) (a : Option Addr) (n cap : Nat) (l : List Int) : Prop :=
 l.length = n ∧ n ≤ cap ∧ n ≤ 1099511627776 ∧ (∀ z ∈ l,-9223372036854775808 ≤ z ∧ z ≤ 9223372036854775807) ∧
 (n = 0 ∨ ∃ b off,a = some ⟨b,off,none⟩ ∧ ∀ j,j < n → w.cell? ⟨b,off + j,none⟩ = some (.int .i64 (l.getD j 0)))
theorem SegJ.keep {S : Nat → Prop} {w w' : World} {a : Option Addr} {n cap : Nat} {l : List Int} (h : SegJ w a n cap l) (hk : Kept S w w') (hs : ∀ b off,a = some ⟨b,off,none⟩ → n ≠ 0 → ¬ S b) : SegJ w' a n cap l:=by
 obtain ⟨hz,h1,h2,h3,ha⟩:=h
 refine ⟨hz,h1,h2,h3,?_⟩
 by_cases h0 : n = 0
 ·exact .inl h0
 rcases ha with ha | ⟨b,off,e,hc⟩
 ·exact .inl ha
 ·exact .inr ⟨b,off,e,fun j hj => hk.cell (hc j hj) (hs b off e h0)⟩
theorem SegJ.later {w w' : World} {a : Option Addr} {n cap : Nat} {l : List Int} {B : Nat} (h : SegJ w a n cap l) (hb : Below B w w') (hB : w.heap.size ≤ B) : SegJ w' a n cap l:=by
 obtain ⟨hz,h1,h2,h3,ha⟩:=h
 refine ⟨hz,h1,h2,h3,?_⟩
 rcases ha with ha | ⟨b,off,e,hc⟩
 ·exact .inl ha
 ·refine .inr ⟨b,off,e,fun j hj => ?_⟩
  have:=hc j hj
  have hlt : b < w.heap.size:=block_lt_of_cell this
  exact (hb.cell (p:=⟨b,off + j,none⟩) (by exact Nat.lt_of_lt_of_le hlt hB)).trans this
structure Inx where
 c : Int
 a : Int
 la : Option Addr
 ln : Nat
 lc : Nat
 l : List Int
def dx : Inx:=⟨0,0,none,0,0,[]⟩
def InAt (w : World) (b o : Nat) (x : Inx) : Prop :=
 w.cell? ⟨b,o,none⟩ = some (.int .u8 x.c) ∧ w.cell? ⟨b,o + 1,none⟩ = some (.int .i64 x.a) ∧ w.cell? ⟨b,o + 2,none⟩ = some (.slice x.la x.ln x.lc) ∧
  0 ≤ x.c ∧ x.c ≤ 255 ∧ -9223372036854775808 ≤ x.a ∧ x.a ≤ 9223372036854775807 ∧ x.ln ≤ 140737488355328 ∧ (x.ln ≤ 100000 → SegJ w x.la x.ln x.lc x.l)
theorem InAt.later {w w' : World} {b o : Nat} {x : Inx} (h : InAt w b o x) {B : Nat} (hb : Below B w w') (hB : w.heap.size ≤ B) : InAt w' b o x:=by
 obtain ⟨h0,h1,h2,h3,h4,h7,h8,h5,h6⟩:=h
 have hlt:=block_lt_of_cell h0
 simp only at hlt
 exact ⟨(hb.cell (by exact Nat.lt_of_lt_of_le hlt hB)).trans h0,(hb.cell (by exact Nat.lt_of_lt_of_le hlt hB)).trans h1,(hb.cell (by exact Nat.lt_of_lt_of_le hlt hB)).trans h2,h3,h4,h7,h8,h5,fun h => (h6 h).later hb hB⟩
def opF (xs : List Inx) (i : Nat) : Int:=(xs.getD i dx).c
def Cod (w : World) (b off n : Nat) (xs : List Inx) : Prop:=xs.length = n ∧ ∀ j,j < n → InAt w b (off + j * 3) (xs.getD j dx)
theorem Cod.later {w w' : World} {b off n : Nat} {xs : List Inx} (h : Cod w b off n xs) {B : Nat} (hb : Below B w w') (hB : w.heap.size ≤ B) : Cod w' b off n xs:=⟨h.1,fun j hj => (h.2 j hj).later hb hB⟩
theorem Cod.op {w : World} {b off n : Nat} {xs : List Inx} (h : Cod w b off n xs) {j : Nat} (hj : j < n) : w.cell? ⟨b,off + j * 3,none⟩ = some (.int .u8 (opF xs j)):=(h.2 j hj).1
theorem Cod.lt {w : World} {b off n : Nat} {xs : List Inx} (h : Cod w b off n xs) (hn : 0 < n) : b < w.heap.size:=block_lt_of_cell (h.op hn)
theorem Cod.range {w : World} {b off n : Nat} {xs : List Inx} (h : Cod w b off n xs) {j : Nat} (hj : j < n) : 0 ≤ opF xs j ∧ opF xs j ≤ 255:=⟨(h.2 j hj).2.2.2.1,(h.2 j hj).2.2.2.2.1⟩
theorem Cod.num {w : World} {b off n : Nat} {xs : List Inx} (h : Cod w b off n xs) {j : Nat} (hj : j < n) : w.cell? ⟨b,off + j * 3 + 1,none⟩ = some (.int .i64 (xs.getD j dx).a):=(h.2 j hj).2.1
theorem Cod.lab {w : World} {b off n : Nat} {xs : List Inx} (h : Cod w b off n xs) {j : Nat} (hj : j < n) : w.cell? ⟨b,off + j * 3 + 2,none⟩ = some (.slice (xs.getD j dx).la (xs.getD j dx).ln (xs.getD j dx).lc):=(h.2 j hj).2.2.1
def CodS (w : World) (a : Option Addr) (n : Nat) (xs : List Inx) : Prop:=xs.length = n ∧ (n = 0 ∨ ∃ b off,a = some ⟨b,off,none⟩ ∧ Cod w b off n xs)
theorem CodS.later {w w' : World} {a : Option Addr} {n : Nat} {xs : List Inx} (h : CodS w a n xs) {B : Nat} (hb : Below B w w') (hB : w.heap.size ≤ B) : CodS w' a n xs:=by
 refine ⟨h.1,?_⟩
 rcases h.2 with h0 | ⟨b,off,e,hc⟩
 ·exact .inl h0
 ·exact .inr ⟨b,off,e,hc.later hb hB⟩
theorem pow_pos (k : Nat) : (0 : Int) < 128 ^ k:=Int.pow_pos (by decide)
def uf (u : Int) : Int:=if u % 2 = 1 then -(u / 2) - 1 else u / 2
def uv : Nat → Int → List Int
 | 0,v => [v]
 | f + 1,v => if v < 128 then [v] else (v % 128 + 128) :: uv f (v / 128)
def uvar (v : Int) : List Int:=uv 9 v
theorem uv_len (f : Nat) : ∀ v,1 ≤ (uv f v).length ∧ (uv f v).length ≤ f + 1:=by
 induction f with
 | zero => intro v; simp [uv]
 | succ f ih =>
  intro v
  by_cases h : v < 128
  ·simp [uv,h]
  ·have:=ih (v / 128)
   simp only [uv,h,if_false,List.length_cons]; omega
theorem room_up (V : Int) (k : Nat) (h : V * 128 ^ k < 18446744073709551616) (h0 : 0 ≤ V) : V / 128 * 128 ^ (k + 1) < 18446744073709551616:=by
 have hs : (128 : Int) ^ (k + 1) = 128 * 128 ^ k:=by rw [Int.pow_succ,Int.mul_comm]
 rw [hs,← Int.mul_assoc]
 have h2 : V / 128 * 128 ≤ V:=by omega
 have:=Int.mul_le_mul_of_nonneg_right h2 (Int.le_of_lt (pow_pos k))
 omega
theorem room_end (V : Int) (k : Nat) (h : V * 128 ^ k < 18446744073709551616) (hk : k ≤ 9) (h128 : 128 ≤ V) : k ≤ 8:=by
 by_cases e : k = 9
 ·subst e
  have e9 : (128 : Int) ^ 9 = 9223372036854775808:=by decide
  rw [e9] at h
  omega
 ·omega
def fo (n : Int) : Int:=if n < 0 then -2 * n - 1 else 2 * n
theorem fo_range (n : Int) (h0 : -9223372036854775808 ≤ n) (h1 : n < 9223372036854775808) : 0 ≤ fo n ∧ fo n < 18446744073709551616:=by
 unfold fo; split <;> omega
theorem uvar_len (v : Int) : 1 ≤ (uvar v).length ∧ (uvar v).length ≤ 10:=uv_len 9 v
def Seg (w : World) (a : Option Addr) (n cap : Nat) (zs : List Int) : Prop :=
 zs.length = n ∧ n ≤ cap ∧ n ≤ 1099511627776 ∧ (∀ z ∈ zs,0 ≤ z ∧ z ≤ 255) ∧
 (n = 0 ∨ ∃ b off,a = some ⟨b,off,none⟩ ∧ ∀ j,j < n → w.cell? ⟨b,off + j,none⟩ = some (.int .u8 (zs.getD j 0)))
theorem wrap_in (x : Int) (h0 : 0 ≤ x) (h1 : x < 18446744073709551616) : IntKind.u64.wrap x = x:=by
 rw [IntKind.wrap_u64]; exact Int.emod_eq_of_lt h0 h1
theorem i64_in (x : Int) (h0 : -9223372036854775808 ≤ x) (h1 : x < 9223372036854775808) : IntKind.i64.wrap x = x:=by
 simp [IntKind.wrap,IntKind.bits,IntKind.signed]; omega
theorem Tryz.info5 : (Tryz.prog.info? 5).map (fun i => (i.zero,i.size,i.bytes)) = some (some (.int .u8 0),1,1):=by kernel_rfl
end Go.Proofs.YtepcmfegggdjfaaGreatDoor

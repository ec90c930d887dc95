/-
  Texts Sort Place Good Za Zb.
-/
import Derived.ArgAppend
import Derived.Below
import Derived.BigQuiet
import Derived.Deep.AppendLies
import Derived.Deep.CutRange
import Derived.Deep.OwnRows
import Derived.Deep.QuietTactic
import Derived.Deep.RegionHeld3
import Derived.Deep.RegionWith
import Derived.Defers
import Derived.Ground.Names2Prog
import Derived.Handy
import Derived.KernelRfl
import Derived.Laws.AppendOwnNone
import Derived.Laws.BitsAllLaws
import Derived.Laws.BytesArg
import Derived.Lib.Bytealg
import Derived.Lib.CutLaws
import Derived.Lib.SlBytesConst
import Derived.LoopIn
import Derived.LoopNIn
import Derived.OwnWalkIn
import Derived.RangeFuncBox
import Derived.RangeFuncCalls
import Derived.RangeFuncLeaves
import Derived.RangeFuncWrites
import Derived.Recover
import Derived.RegionDies
import Derived.RowKit
import Derived.Shelf.Abstract
import Derived.Shelf.LaysM
import Derived.Shelf.RegionOpen
import Derived.Shelf.Slices.Cells
import Derived.Shelf.Slices.CompactI
import Derived.Shelf.Slices.In.SortNone
import Derived.Shelf.Sort.Plain
import Derived.Shelf.Strings.Search1
import Derived.Shelf.Strings.Search2
import Derived.Shelf.Strings.Search3
import Derived.Shelf.Strings.Shaped
import Derived.Shelf.Unicode.DecodeSlow
import Derived.Sort.OwnSortedInts
import Derived.TacticsInMore
import Derived.Test.YtepnnenohjfkbaaGreatDoorProg
import Derived.WalkKit
import Derived.WalkLawsBesides
import Derived.WalkMore
import Derived.WalkSpells
import Derived.Test.YtepnnenohjfkbaaGreatDoorR33
import Derived.Test.YtepnnenohjfkbaaGreatDoorS00
import Derived.Test.YtepnnenohjfkbaaGreatDoorS01
import Derived.Test.YtepnnenohjfkbaaGreatDoorS05
set_option linter.unusedVariables false
set_option maxRecDepth 100000
set_option maxHeartbeats 16000000
namespace Go.Proofs.YtepnnenohjfkbaaGreatDoor
open Go.RowKit Go.Sort
theorem put_own {w : World} {base g cap n q k : Nat} {os : Array Obj} {l ts : List Int} (h : LI w base (.slice (some ⟨g,0,none⟩) n cap) l) (hts : ts.length = l.length) (hk : k ≤ ts.length) :
  LI (grow (putRow (Value.int .i64) (Sort.ahead w q) g 0 ts.toArray) os) base (.slice (some ⟨g,0,none⟩) k cap) (ts.take k) ∧ Below base w (grow (putRow (Value.int .i64) (Sort.ahead w q) g 0 ts.toArray) os):=by
 rcases h.2 with ⟨h0,_⟩ | ⟨g',cap',cur,h1,hg,hb,hn,hm,hs,ht⟩
 ·cases h0
 injection h1 with e1 e2 e3
 injection e1 with e1
 injection e1 with e1
 subst e1 e3
 have hl : ts.length ≤ cur.size:=by rw [Nat.mul_one] at hs; omega
 have hlen : (ts.take k).length = k:=by simp; omega
 have hgl : g < w.heap.size:=(Array.getElem?_eq_some_iff.1 hb).1
 constructor
 ·unfold LI
  rw [hlen]
  refine ⟨by simp; omega,.inr ⟨g,cap,_,rfl,hg,heap_sortedI ts.toArray hb,by omega,hm,by simp [putCells,hs],?_⟩⟩
  have:=take_putCellsI cur ts hl
  rw [Nat.mul_one,List.map_take,← this,List.take_take,Nat.min_eq_left hk]
 ·have hgr:=grownBy_sortedI (w:=w) (g:=g) (n:=q) (os:=os) ts.toArray
  have hbs : base ≤ w.heap.size:=by omega
  exact (Kept.of_grown hgr).to_below hbs (fun k hk e => by injection e with e; omega)
theorem holds_own {w : World} {base g cap n : Nat} {l : List Int} (h : LI w base (.slice (some ⟨g,0,none⟩) n cap) l) : Go.Sort.Holds (Value.int .i64) w g 0 l.toArray ∧ g < w.heap.size ∧ l.length ≤ cap:=by
 rcases h.2 with ⟨h0,_⟩ | ⟨g',cap',cur,h1,hg,hb,hn,hm,hs,ht⟩
 ·cases h0
 injection h1 with e1 e2 e3
 injection e1 with e1
 injection e1 with e1
 subst e1 e3
 rw [Nat.mul_one] at ht
 exact ⟨holds_of_blockI hb ht,(Array.getElem?_eq_some_iff.1 hb).1,hn⟩
def srt (l : List Int) : List Int:=l.mergeSort fun x y => decide (x ≤ y)
theorem sortC (base : Nat) (v : Value) (l : List Int) (w : World) (h : LI w base v l) (hl : l.length ≤ 1073741824) :
  Calls Tryz.prog 81 #[v] w fun e w' => e = .returned (.tuple #[]) ∧ LI w' base v (srt l) ∧ (base ≤ w.heap.size → Below base w w'):=by
 obtain ⟨a,c,rfl⟩:=h.slice
 by_cases h0 : l = []
 ·subst h0
  exact (Tryz.slices_Sort_int_none a c w).mono fun e w' ⟨he,hw⟩ => ⟨he,by rw [hw,show srt [] = [] by simp [srt]]; exact h,fun _ => by rw [hw]; exact Below.refl _ _⟩
 ·obtain ⟨_,hc⟩:=h.cell
  rcases hc with hc | ⟨g,rfl,_⟩
  ·exact absurd (List.length_eq_zero_iff.1 hc) h0
  obtain ⟨hH,hg,hcap⟩:=holds_own h
  refine (Tryz.slices_Sort_int g 0 c l w hH hg (by omega)).mono fun e w' ⟨he,n,os,hw⟩ => ?_
  have:=put_own (q:=n) (os:=os) (k:=l.length) (ts:=srt l) h (by simp [srt]) (by simp [srt])
  rw [List.take_of_length_le (by simp [srt])] at this
  subst hw
  exact ⟨he,this.1,fun _ => this.2⟩
theorem compactC (base : Nat) (v : Value) (l : List Int) (w : World) (h : LI w base v l) (hl : l.length ≤ 1073741824) :
  Calls Tryz.prog 82 #[v] w fun e w' => ∃ v',e = .returned v' ∧ LI w' base v' (Lib.compact l) ∧ (base ≤ w.heap.size → Below base w w'):=by
 obtain ⟨a,c,rfl⟩:=h.slice
 by_cases h0 : l = []
 ·subst h0
  exact (Tryz.slices_Compact_int_empty a c w).mono fun e w' ⟨he,hw⟩ => ⟨_,he,by rw [hw]; exact h,fun _ => by rw [hw]; exact Below.refl _ _⟩
 ·obtain ⟨_,hc⟩:=h.cell
  rcases hc with hc | ⟨g,rfl,_⟩
  ·exact absurd (List.length_eq_zero_iff.1 hc) h0
  obtain ⟨hH,hg,hcap⟩:=holds_own h
  refine (Tryz.slices_Compact_int g 0 c l w hH (by omega) hcap).mono fun e w' ⟨he,q,hw⟩ => ?_
  have hle:=Lib.compact_length_le l
  have:=put_own (q:=q) (os:=#[]) (k:=(Lib.compact l).length) (ts:=Lib.compact l ++ List.replicate (l.length - (Lib.compact l).length) 0) h (by simp; omega) (by simp)
  rw [List.take_left,grow_empty] at this
  subst hw
  exact ⟨_,he,this.1,fun _ => this.2⟩
theorem compact_upto {d : Array Int} (hd : ∀ i j,i < j → j < d.size → d[i]! ≤ d[j]!) : ∀ m,m ≤ d.size →
  (Lib.compactUpTo d m).Pairwise (· < ·) ∧ (∀ x ∈ Lib.compactUpTo d m,x ≤ d[m - 1]!) ∧ (∀ x,x ∈ Lib.compactUpTo d m ↔ ∃ j,j < m ∧ x = d[j]!)
 | 0,_ => by simp [Lib.compactUpTo]
 | m + 1,hm => by
  obtain ⟨h1,h2,h3⟩:=compact_upto hd m (by omega)
  rw [Lib.compactUpTo_succ]
  by_cases hk : Lib.keeps d m = true
  ·rw [if_pos hk]
   have hlt : ∀ x ∈ Lib.compactUpTo d m,x < d[m]!:=fun x hx => by
    obtain ⟨j,hj,rfl⟩:=(h3 x).1 hx
    have a1:=h2 _ hx
    have hm0 : m ≠ 0:=by omega
    simp only [Lib.keeps,decide_eq_true_eq] at hk
    have hne : d[m]! ≠ d[m - 1]!:=hk.resolve_left hm0
    have a2:=hd (m - 1) m (by omega) (by omega)
    omega
   refine ⟨List.pairwise_append.2 ⟨h1,by simp,fun x hx y hy => by simp at hy; subst hy; exact hlt x hx⟩,fun x hx => ?_,fun x => ?_⟩
   ·rw [Nat.add_sub_cancel]
    rcases List.mem_append.1 hx with hx | hx
    ·exact Int.le_of_lt (hlt x hx)
    ·simp at hx; omega
   ·rw [List.mem_append,h3]
    constructor
    ·rintro (⟨j,hj,rfl⟩ | hx)
     ·exact ⟨j,by omega,rfl⟩
     ·simp at hx; exact ⟨m,by omega,hx⟩
    ·rintro ⟨j,hj,rfl⟩
     by_cases e : j = m
     ·subst e; right; simp
     ·left; exact ⟨j,by omega,rfl⟩
  ·rw [if_neg hk,List.append_nil]
   have hk' : ¬ (m = 0 ∨ d[m]! ≠ d[m - 1]!):=fun x => hk (by simp only [Lib.keeps,decide_eq_true_eq]; exact x)
   have hm0 : m ≠ 0:=fun e => hk' (.inl e)
   have he : d[m]! = d[m - 1]!:=Decidable.byContradiction fun e => hk' (.inr e)
   refine ⟨h1,fun x hx => by rw [Nat.add_sub_cancel,he]; exact h2 x hx,fun x => ?_⟩
   rw [h3]
   constructor
   ·rintro ⟨j,hj,rfl⟩; exact ⟨j,by omega,rfl⟩
   ·rintro ⟨j,hj,rfl⟩
    by_cases e : j = m
    ·subst e; exact ⟨j - 1,by omega,he⟩
    ·exact ⟨j,by omega,rfl⟩
def nub (l : List Int) : List Int:=Lib.compact (srt l)
theorem srt_pairwise (l : List Int) : (srt l).Pairwise (· ≤ ·):=by
 have:=List.pairwise_mergeSort (le:=fun x y : Int => decide (x ≤ y)) (by simp; omega) (by simp; omega) l
 unfold srt
 simpa using this
theorem nub_facts (l : List Int) : (nub l).Pairwise (· < ·) ∧ ∀ x,x ∈ nub l ↔ x ∈ l:=by
 have hp:=srt_pairwise l
 have hd : ∀ i j,i < j → j < (srt l).toArray.size → (srt l).toArray[i]! ≤ (srt l).toArray[j]!:=fun i j hij hj => by
  have hj' : j < (srt l).length:=by simpa using hj
  have:=List.pairwise_iff_getElem.1 hp i j (by omega) hj' hij
  rw [getElem!_pos _ i (by simp; omega),getElem!_pos _ j (by simpa using hj')]
  simpa using this
 obtain ⟨h1,_,h3⟩:=compact_upto hd (srt l).length (by simp)
 refine ⟨h1,fun x => ?_⟩
 have hm : x ∈ srt l ↔ x ∈ l:=by unfold srt; exact List.mem_mergeSort
 rw [← hm]
 refine (h3 x).trans ?_
 constructor
 ·rintro ⟨j,hj,rfl⟩
  rw [getElem!_pos _ j (by simpa using hj)]
  simp
 ·intro hx
  obtain ⟨j,hj,e⟩:=List.getElem_of_mem hx
  exact ⟨j,hj,by rw [getElem!_pos _ j (by simpa using hj)]; simpa using e.symm⟩
open Go.RowKit
def plc (O : Nat → Int) (n : Nat) (q : Int) : Int:=if q = -1 then n else if O q.toNat = 3 then q + 1 else enF O n q.toNat + 1
def brn (O : Nat → Int) (n i : Nat) (a : Int) : List Int:=if 0 ≤ a ∧ a < (labz O i).length then [plc O n ((labz O i).getD a.toNat (-1))] else []
def oth (O : Nat → Int) (n i : Nat) : Int:=if elF O n i = -1 then enF O n i else elF O n i + 1
def pls (O : Nat → Int) (n i : Nat) (c a : Int) (l : List Int) : List Int :=
 if c = 0 then [] else if c = 4 then [(i : Int) + 1,oth O n i] else if c = 5 then [enF O n i] else if c = 8 then ((i : Int) + 1) :: brn O n i a
 else if c = 7 then brn O n i a else if c = 9 then l.flatMap (brn O n i) else if c = 10 then [(n : Int)] else [(i : Int) + 1]
def nxtV (O : Nat → Int) (n : Nat) (pc : Int) (x : Inx) : List Int:=if (res O n 0).1 = 0 ∧ 0 ≤ pc ∧ pc < n then nub (pls O n pc.toNat x.c x.a x.l) else []
theorem enF_range {O : Nat → Int} : ∀ (k i : Nat),-1 ≤ enF O k i ∧ enF O k i < k
 | 0,i => by simp [enF]
 | k + 1,i => by
  have ih:=enF_range (O:=O) k i
  unfold enF
  split
  ·omega
  ·split <;> omega
theorem elF_range {O : Nat → Int} : ∀ (k i : Nat),-1 ≤ elF O k i ∧ elF O k i < k
 | 0,i => by simp [elF]
 | k + 1,i => by
  have ih:=elF_range (O:=O) k i
  unfold elF
  split
  ·omega
  ·split <;> omega
theorem place (A B C b off n cap : Nat) (xs : List Inx) (q : Int) (w : World) (hn : n ≤ 1048576) (hcap : n ≤ cap) (hq0 : -1 ≤ q) (hq1 : q < n) (hc : ∀ j,j < n → w.cell? ⟨b,off + j * 3,none⟩ = some (.int .u8 (opF xs j))) (hr : ∀ j,j < n → 0 ≤ opF xs j ∧ opF xs j ≤ 255) (hA : RI w A n (enF (opF xs) n)) :
  Calls Tryz.prog 79 #[planV A B C n,.slice (some ⟨b,off,none⟩) n cap,.int .i64 q] w fun e w' => e = .returned (.int .i64 (plc (opF xs) n q)) ∧ Below w.heap.size w w':=by
 unfold planV
 obtain ⟨op,hop⟩ : ∃ op,op = Obj.cells #[Value.slice (some ⟨A,0,none⟩) n n,.slice (some ⟨B,0,none⟩) n n,.slice (some ⟨C,0,none⟩) n n] 78:=⟨_,rfl⟩
 have kf:=Kept.alloc (fun _ => False) w op
 have hA1:=hA.kept kf (fun x => x)
 have p0 : (w.alloc op).cell? ⟨w.heap.size,0,none⟩ = some (.slice (some ⟨A,0,none⟩) n n):=by rw [hop,World.cell?_alloc_new]; rfl
 have HB0:=hid ((Below.refl w.heap.size w).alloc (Nat.le_refl _) op)
 by_cases hq : q = -1
 ·subst hq
  subst hop
  clear hA hA1 hc kf hr
  go_enter Tryz.func79,Tryz.ntmps79
  go_wp2_with fail
  go_ret
  exact ⟨rfl,HB0.out⟩
 obtain ⟨j,rfl⟩ : ∃ j : Nat,q = (j : Int):=⟨q.toNat,by omega⟩
 have hj : j < n:=by omega
 have hv : plc (opF xs) n (j : Int) = if opF xs j = 3 then (j : Int) + 1 else enF (opF xs) n j + 1:=by unfold plc; rw [if_neg hq,Int.toNat_natCast]
 rw [hv]
 have c1 : (w.alloc op).cell? ⟨b,off + j * 3,none⟩ = some (.int .u8 (opF xs j)):=kf.cell (hc j hj) (fun x => x)
 have c2 : (w.alloc op).cell? ⟨A,j,none⟩ = some (.int .i64 (enF (opF xs) n j)):=hA1.cell j hj
 have jb : ((j : Int) == -1) = false:=by simp
 have hrr:=enF_range (O:=opF xs) n j
 have hcr:=hr j hj
 subst hop
 clear hA hA1 hc kf hq hv hr
 by_cases h3 : opF xs j = 3
 ·rw [if_pos h3]
  rw [h3] at c1
  generalize enF (opF xs) n j = ev at *
  go_enter Tryz.func79,Tryz.ntmps79
  go_wp2_with fail
  go_ret
  refine ⟨?_,HB0.out⟩
  rfl
 ·rw [if_neg h3]
  have h3b : (opF xs j == 3) = false:=by simpa using h3
  generalize enF (opF xs) n j = ev at *
  generalize opF xs j = cj at *
  go_enter Tryz.func79,Tryz.ntmps79
  go_wp2_with fail
  go_ret
  exact ⟨rfl,HB0.out⟩
theorem otherwise (A B C n j : Nat) (O : Nat → Int) (w : World) (hn : n ≤ 1048576) (hj : j < n) (hA : RI w A n (enF O n)) (hB : RI w B n (elF O n)) :
  Calls Tryz.prog 80 #[planV A B C n,.int .i64 j] w fun e w' => e = .returned (.int .i64 (oth O n j)) ∧ Below w.heap.size w w':=by
 unfold planV
 obtain ⟨op,hop⟩ : ∃ op,op = Obj.cells #[Value.slice (some ⟨A,0,none⟩) n n,.slice (some ⟨B,0,none⟩) n n,.slice (some ⟨C,0,none⟩) n n] 78:=⟨_,rfl⟩
 have kf:=Kept.alloc (fun _ => False) w op
 have c2:=(hA.kept kf (fun x => x)).cell j hj
 have c3:=(hB.kept kf (fun x => x)).cell j hj
 have p0 : (w.alloc op).cell? ⟨w.heap.size,0,none⟩ = some (.slice (some ⟨A,0,none⟩) n n):=by rw [hop,World.cell?_alloc_new]; rfl
 have p1 : (w.alloc op).cell? ⟨w.heap.size,1,none⟩ = some (.slice (some ⟨B,0,none⟩) n n):=by rw [hop,World.cell?_alloc_new]; rfl
 have HB0:=hid ((Below.refl w.heap.size w).alloc (Nat.le_refl _) op)
 have hr1:=enF_range (O:=O) n j
 have hr2:=elF_range (O:=O) n j
 unfold oth
 subst hop
 clear hA hB kf
 generalize enF O n j = ev at *
 generalize elF O n j = lv at *
 by_cases h : lv = -1
 ·subst h
  rw [if_pos rfl]
  go_enter Tryz.func80,Tryz.ntmps80
  go_wp2_with fail
  go_ret
  exact ⟨rfl,HB0.out⟩
 ·rw [if_neg h]
  have hb : (lv != -1) = true:=by simpa using h
  have hb' : (lv == -1) = false:=by simpa using h
  go_enter Tryz.func80,Tryz.ntmps80
  go_wp2_with fail
  go_ret
  exact ⟨rfl,HB0.out⟩
theorem good_en {O : Nat → Int} {n : Nat} (h : Good O n) (i : Nat) : enF O n i = enF O (n - 1) i:=by
 have e : n = n - 1 + 1:=by have:=h.1; omega
 conv => lhs; rw [e]
 exact enF_none h.2.2.2.2 i
theorem good_el {O : Nat → Int} {n : Nat} (h : Good O n) (i : Nat) : elF O n i = elF O (n - 1) i:=by
 have e : n = n - 1 + 1:=by have:=h.1; omega
 conv => lhs; rw [e]
 exact elF_none h.2.2.2.2 i
theorem good_last {O : Nat → Int} {n i : Nat} (h : Good O n) (hi : i < n) (h6 : O i ≠ 6) : i < n - 1:=by
 have h1:=h.2.2.2.1
 have : i ≠ n - 1:=fun e => h6 (e ▸ h1)
 omega
theorem good_open {O : Nat → Int} {n i : Nat} (h : Good O n) (hi : i < n) (hO : isO (O i) = true) : ∃ j : Nat,enF O n i = j ∧ i < j ∧ j < n - 1 ∧ O j = 6 ∧ stk O j = i :: stk O i ∧ elF O n i < j:=by
 have hiv:=iv_of h.2.1
 rcases hiv.opn i (good_last h hi (isO_ne5 hO).2) hO with ⟨hm,_⟩ | ⟨_,j,h1,h2,h3,h4,h5,h6⟩
 ·rw [h.2.2.2.2] at hm; cases hm
 ·exact ⟨j,by rw [good_en h]; exact h1,h2,h3,h4,h5,by rw [good_el h]; exact h6⟩
theorem good_els {O : Nat → Int} {n i : Nat} (h : Good O n) : elF O n i = -1 ∨ ∃ j : Nat,elF O n i = j ∧ i < j ∧ j < n - 1 ∧ O i = 4 ∧ O j = 5 ∧ enF O n j = enF O n i:=by
 have hiv:=iv_of h.2.1
 rcases hiv.els i with h1 | ⟨j,h1,h2,h3,h4,h5,_,h7⟩
 ·exact .inl (by rw [good_el h]; exact h1)
 ·exact .inr ⟨j,by rw [good_el h]; exact h1,h2,h3,h4,h5,by rw [good_en h,good_en h]; exact h7⟩
theorem labs_length (O : Nat → Int) (i : Nat) : (labz O i).length = (stk O i).length + 1:=by simp [labz]
def tkO (c : Int) : ByteArray:=if c = 4 then wT else nT
def opnAt (m : MM) (lo : List Int) (xs : List Inx) (R : ByteArray) (n t : Nat) : Opn :=
 ⟨(tyAt m (xs.getD t dx).a).1,(tyAt m (xs.getD t dx).a).2,entB (stA m lo xs R n t) (tkO (opF xs t)) (tyAt m (xs.getD t dx).a).1,opF xs t,t⟩
def bodyR (R : ByteArray) : Opn:=⟨⟨#[]⟩,R,⟨#[]⟩,0,0⟩
theorem rwS_open (m : MM) (lo : List Int) (s : Cs) (o : Opn) {c : Int} (a : Int) (h : isO c = true) : rwS m lo s o c a = entS s c (tkO c) (tyAt m a).1 (tyAt m a).2:=by
 have:=isO_iff.1 h
 unfold rwS tkO
 by_cases h4 : c = 4
 ·rw [if_neg (by omega),if_pos h4,if_pos h4]
 ·rw [if_pos (by omega),if_neg h4]
theorem rwS_end (m : MM) (lo : List Int) (s : Cs) (o : Opn) (a : Int) : rwS m lo s o 6 a = endS s:=rfl
theorem rwS_op (m : MM) (lo : List Int) (s : Cs) (o : Opn) {c : Int} (a : Int) (h : isO c = false) (h6 : c ≠ 6) : (rwS m lo s o c a).op = s.op ∧ (rwS m lo s o c a).fl = s.fl:=by
 have:=isO_not h
 unfold rwS
 rw [if_neg (by omega),if_neg (by omega)]
 split
 ·exact ⟨rfl,rfl⟩
 ·split
  ·exact ⟨rfl,rfl⟩
  ·split
   ·exact ⟨rfl,rfl⟩
   ·generalize efV m lo s o c a = E
    unfold putS takeS
    exact ⟨rfl,rfl⟩
section
variable {m : MM} {lo : List Int} {xs : List Inx} {R : ByteArray} {n : Nat}
theorem opn_all : ∀ j,Okp (opF xs) j → (stA m lo xs R n j).op = bodyR R :: (stk (opF xs) j).reverse.map (opnAt m lo xs R n)
 | 0,_ => rfl
 | j + 1,h => by
  have ih:=opn_all j (fun i hi => h i (by omega))
  have e : (stA m lo xs R n (j + 1)).op = (rwS m lo (visS (atPc (stA m lo xs R n j) j)) (topO (stA m lo xs R n j)) (opF xs j) (xs.getD j dx).a).op:=rfl
  cases hO : isO (opF xs j) with
  | true =>
   rw [e,rwS_open m lo _ _ _ hO,stk_open hO]
   show (stA m lo xs R n j).op ++ [_] = _
   rw [ih,List.reverse_cons,List.map_append]
   rfl
  | false =>
   by_cases h6 : opF xs j = 6
   ·rw [e,h6,rwS_end,stk_end h6]
    show (stA m lo xs R n j).op.dropLast = _
    rw [ih]
    have hne:=(h j (by omega)).2
    cases hs : stk (opF xs) j with
    | nil => exact absurd ⟨h6,hs⟩ hne
    | cons t r =>
     rw [List.reverse_cons,List.map_append,List.tail_cons,← List.cons_append]
     exact List.dropLast_concat
   ·rw [e,(rwS_op m lo _ _ _ hO h6).1,stk_same hO h6]
    exact ih
theorem topO_of {j t : Nat} {r : List Nat} (h : Okp (opF xs) j) (hs : stk (opF xs) j = t :: r) : topO (stA m lo xs R n j) = opnAt m lo xs R n t:=by
 unfold topO
 rw [opn_all j h,hs,List.reverse_cons,List.map_append,← List.cons_append,List.getD_eq_getElem?_getD]
 simp
theorem topO_body {j : Nat} (h : Okp (opF xs) j) (hs : stk (opF xs) j = []) : topO (stA m lo xs R n j) = bodyR R:=by
 unfold topO
 rw [opn_all j h,hs]
 rfl
theorem labO_of_body {j : Nat} (h : Okp (opF xs) j) : labO (stA m lo xs R n j) ((stk (opF xs) j).length : Int) = bodyR R:=by
 unfold labO
 rw [opn_all j h,List.getD_eq_getElem?_getD,Int.toNat_natCast]
 simp
theorem bodyO_of {j : Nat} (h : Okp (opF xs) j) : bodyO (stA m lo xs R n j) = bodyR R:=by
 unfold bodyO
 rw [opn_all j h]
 rfl
theorem sh_all : ∀ j i,i < j → j ≤ n → (stA m lo xs R n j).sh[i]? = some (stA m lo xs R n i).st
 | 0,i,h,_ => absurd h (by omega)
 | j + 1,i,h,hn => by
  have e : (stA m lo xs R n (j + 1)).sh = (stA m lo xs R n j).sh.set j (stA m lo xs R n j).st:=(rwS_keep m lo _ _ _ _).1
  rw [e,List.getElem?_set]
  by_cases hi : j = i
  ·subst hi
   rw [if_pos rfl,if_pos (by rw [sh_len]; omega)]
  ·rw [if_neg hi]
   exact sh_all j i (by omega) (by omega)
theorem hi_next (j : Nat) : (stA m lo xs R n (j + 1)).hi = max (stA m lo xs R n j).hi (stA m lo xs R n j).st.size:=(rwS_keep m lo _ _ _ _).2.1
theorem hi_ge : ∀ j i,i < j → (stA m lo xs R n i).st.size ≤ (stA m lo xs R n j).hi
 | 0,i,h => absurd h (by omega)
 | j + 1,i,h => by
  rw [hi_next]
  by_cases hi : i = j
  ·subst hi; omega
  ·have:=hi_ge j i (by omega); omega
theorem hi_zero : (stA m lo xs R n 0).hi = 0:=rfl
theorem fl_all : ∀ j i,i < j → isO (opF xs i) = true → (stA m lo xs R n j).fl i = ((opnAt m lo xs R n i).B.size : Int)
 | 0,i,h,_ => absurd h (by omega)
 | j + 1,i,h,hO => by
  have e : (stA m lo xs R n (j + 1)).fl = (rwS m lo (visS (atPc (stA m lo xs R n j) j)) (topO (stA m lo xs R n j)) (opF xs j) (xs.getD j dx).a).fl:=rfl
  rw [e]
  by_cases hi : i = j
  ·subst hi
   rw [rwS_open m lo _ _ _ hO]
   show (if i = i then _ else _) = _
   rw [if_pos rfl]
   rfl
  ·have ih:=fl_all j i (by omega) hO
   have hv : (visS (atPc (stA m lo xs R n j) j)).fl i = (stA m lo xs R n j).fl i:=if_neg hi
   cases hO' : isO (opF xs j) with
   | true =>
    rw [rwS_open m lo _ _ _ hO']
    show (if i = j then _ else _) = _
    rw [if_neg hi]
    exact hv.trans ih
   | false =>
    by_cases h6 : opF xs j = 6
    ·rw [h6,rwS_end]
     exact hv.trans ih
    ·rw [(rwS_op m lo _ _ _ hO' h6).2]
     exact hv.trans ih
end
abbrev bl (a : ByteArray) : List UInt8:=a.data.toList
theorem bl_take (s : ByteArray) (k : Nat) : bl (s.extract 0 k) = (bl s).take k:=by
 show (s.extract 0 k).data.toList = _
 rw [ByteArray.data_extract,Array.toList_extract,List.extract_eq_take_drop,List.drop_zero,Nat.sub_zero]
theorem bl_drop (s : ByteArray) (k : Nat) : bl (s.extract k s.size) = (bl s).drop k:=by
 show (s.extract k s.size).data.toList = _
 rw [ByteArray.data_extract,Array.toList_extract,List.extract_eq_take_drop,ba_size,← List.length_drop,List.take_length]
theorem bl_app (a b : ByteArray) : bl (a ++ b) = bl a ++ bl b:=ba_app a b
theorem bl_len (a : ByteArray) : (bl a).length = a.size:=(ba_size a).symm
theorem ext_ext (s : ByteArray) {a b : Nat} (h : b ≤ a) : (s.extract 0 a).extract 0 b = s.extract 0 b:=by
 apply ba_ext
 show bl _ = bl _
 rw [bl_take,bl_take,bl_take,List.take_take,Nat.min_eq_left h]
theorem pre_ext {a s : ByteArray} {k : Nat} (h : bl a <+: bl s) (hk : a.size ≤ k) : bl a <+: bl (s.extract 0 k):=by
 rw [bl_take,List.prefix_take_iff]
 exact ⟨h,by rw [bl_len]; exact hk⟩
theorem pre_app {a s : ByteArray} (h : bl a <+: bl s) (t : ByteArray) : bl a <+: bl (s ++ t):=by
 rw [bl_app]
 exact h.trans (List.prefix_append _ _)
theorem pre_self (s : ByteArray) (k : Nat) : bl (s.extract 0 k) <+: bl s:=by
 rw [bl_take]
 exact List.take_prefix _ _
theorem pre_le {a b : ByteArray} (h : bl a <+: bl b) : a.size ≤ b.size:=by
 have:=h.length_le
 rwa [bl_len,bl_len] at this
theorem ask_le2 {s : Cs} {o : Opn} {t : ByteArray} (h : askE s o t = 0) (hb : o.B.size ≤ s.st.size) : o.B.size ≤ s.st.size - t.size ∧ t.size ≤ s.st.size:=by
 have:=ask_le h
 omega
theorem push_eq {s t : ByteArray} (h : pushE s t = 0) : pushV s t = s ++ t:=(push_ok h).1
section
variable {m : MM} {lo : List Int} {xs : List Inx} {R : ByteArray} {n : Nat}
theorem okp_lt (hG : Good (opF xs) n) {j : Nat} (hj : j < n) : Okp (opF xs) j:=fun i hi => hG.2.1 i (by omega)
theorem base_keeps {s : Cs} {o : Opn} {el c a : Int} {l : List Int} (hb : bl o.B <+: bl s.st) (hO : isO c = false) (h6 : c ≠ 6) (he : rwE m lo el s o c a l = 0) : bl o.B <+: bl (rwS m lo s o c a).st:=by
 have hno:=isO_not hO
 have hle:=pre_le hb
 unfold rwE at he
 rw [if_neg (by omega),if_neg (by omega)] at he
 by_cases h5 : c = 5
 ·subst h5
  exact pre_app (List.prefix_refl _) _
 rw [if_neg h5,if_neg h6] at he
 have lv : pushE o.B o.R = 0 → c = 7 ∨ c = 9 ∨ c = 10 ∨ c = 0 → bl o.B <+: bl (rwS m lo s o c a).st:=fun hp hc => by
  have e : rwS m lo s o c a = leaveS s o:=by
   unfold rwS
   rw [if_neg (by omega),if_neg (by omega),if_neg h5,if_neg h6,if_pos hc]
  rw [e]
  show bl o.B <+: bl (pushV o.B o.R)
  rw [push_eq hp]
  exact pre_app (List.prefix_refl _) _
 by_cases h7 : c = 7
 ·rw [if_pos h7] at he
  exact lv (orE_zero (orE_zero he).2).2 (.inl h7)
 rw [if_neg h7] at he
 by_cases h8 : c = 8
 ·subst h8
  rw [if_pos rfl] at he
  have:=ask_le2 (orE_zero (orE_zero he).2).2 hle
  exact pre_ext hb this.1
 rw [if_neg h8] at he
 by_cases h9 : c = 9
 ·rw [if_pos h9] at he
  exact lv (orE_zero (orE_zero he).2).2 (.inr (.inl h9))
 rw [if_neg h9] at he
 by_cases h10 : c = 10
 ·rw [if_pos h10] at he
  exact lv (orE_zero he).2 (.inr (.inr (.inl h10)))
 rw [if_neg h10] at he
 by_cases h0 : c = 0
 ·rw [if_pos h0] at he
  exact lv he (.inr (.inr (.inr h0)))
 rw [if_neg h0] at he
 have e : rwS m lo s o c a = putS (takeS s (efV m lo s o c a).1) (efV m lo s o c a).2:=by
  unfold rwS
  rw [if_neg (by omega),if_neg (by omega),if_neg h5,if_neg h6,if_neg (by omega),if_neg h8]
 rw [e]
 generalize efV m lo s o c a = E at he
 have h1:=orE_zero (orE_zero he).2
 show bl o.B <+: bl (pushV (takeS s E.1).st E.2)
 rw [push_eq h1.2]
 exact pre_app (pre_ext hb (ask_le2 h1.1 hle).1) _
theorem opn_B (t : Nat) (hP : (tyAt m (xs.getD t dx).a).1.size + (tkO (opF xs t)).size ≤ (stA m lo xs R n t).st.size) :
  (opnAt m lo xs R n t).B = (stA m lo xs R n t).st.extract 0 ((stA m lo xs R n t).st.size - (tkO (opF xs t)).size - (tyAt m (xs.getD t dx).a).1.size) ∧
   (opnAt m lo xs R n t).B.size = (stA m lo xs R n t).st.size - (tkO (opF xs t)).size - (tyAt m (xs.getD t dx).a).1.size:=by
 have e : (opnAt m lo xs R n t).B = entB (stA m lo xs R n t) (tkO (opF xs t)) (tyAt m (xs.getD t dx).a).1:=rfl
 have e2 : (opnAt m lo xs R n t).B = (stA m lo xs R n t).st.extract 0 ((stA m lo xs R n t).st.size - (tkO (opF xs t)).size - (tyAt m (xs.getD t dx).a).1.size):=by
  rw [e]
  unfold entB
  have h1 : ((stA m lo xs R n t).st.extract 0 ((stA m lo xs R n t).st.size - (tkO (opF xs t)).size)).size = (stA m lo xs R n t).st.size - (tkO (opF xs t)).size:=by
   rw [ByteArray.size_extract]; omega
  rw [h1]
  exact ext_ext _ (by omega)
 refine ⟨e2,?_⟩
 rw [e2,ByteArray.size_extract]; omega
theorem open_asks {t : Nat} (hO : isO (opF xs t) = true) (he : erA m lo xs R n t = 0) : askE (stA m lo xs R n t) (topO (stA m lo xs R n t)) ((tyAt m (xs.getD t dx).a).1 ++ tkO (opF xs t)) = 0:=by
 have h:=erA_zero he
 have hc : (xs.getD t dx).c = opF xs t:=rfl
 rw [hc] at h
 have h3:=isO_iff.1 hO
 unfold rwE at h
 unfold tkO
 by_cases h4 : opF xs t = 4
 ·rw [if_neg (by omega),if_pos h4] at h
  rw [if_pos h4]
  exact (orE_zero (orE_zero h).2).1
 ·rw [if_pos (by omega)] at h
  rw [if_neg h4]
  exact (orE_zero (orE_zero h).2).1
theorem pre_main (hG : Good (opF xs) n) (he : ∀ i,i < n → erA m lo xs R n i = 0) (j : Nat) : j < n →
  (∀ u ∈ stk (opF xs) j,bl (opnAt m lo xs R n u).B <+: bl (stA m lo xs R n j).st) ∧ (isO (opF xs j) = true → (∀ u ∈ stk (opF xs) j,bl (opnAt m lo xs R n u).B <+: bl (opnAt m lo xs R n j).B) ∧ (tyAt m (xs.getD j dx).a).1.size + (tkO (opF xs j)).size ≤ (stA m lo xs R n j).st.size):=by
 induction j using Nat.strongRecOn with
 | _ j ih =>
  intro hj
  have hok:=okp_lt hG hj
  have tops : ∀ i,i ≤ j → (∀ u ∈ stk (opF xs) i,bl (opnAt m lo xs R n u).B <+: bl (stA m lo xs R n i).st) →
    bl (topO (stA m lo xs R n i)).B <+: bl (stA m lo xs R n i).st ∧ ∀ u ∈ stk (opF xs) i,bl (opnAt m lo xs R n u).B <+: bl (topO (stA m lo xs R n i)).B:=by
   intro i hi hQ
   rcases stk_cases (opF xs) i with h0 | ⟨t,ht,hOt,hs⟩
   ·rw [topO_body (okp_lt hG (by omega)) h0,h0]
    exact ⟨List.nil_prefix,fun u hu => absurd hu (by simp)⟩
   ·rw [topO_of (okp_lt hG (by omega)) hs]
    refine ⟨hQ t (by rw [hs]; simp),fun u hu => ?_⟩
    rw [hs] at hu
    rcases List.mem_cons.1 hu with rfl | hu
    ·exact List.prefix_refl _
    ·exact ((ih t (by omega) (by omega)).2 hOt).1 u hu
  have hQ : ∀ u ∈ stk (opF xs) j,bl (opnAt m lo xs R n u).B <+: bl (stA m lo xs R n j).st:=by
   cases j with
   | zero => intro u hu; exact absurd hu (by simp [stk])
   | succ k =>
    have hk:=ih k (by omega) (by omega)
    have hT:=tops k (by omega) hk.1
    have hz:=erA_zero (he k (by omega))
    have hc : (xs.getD k dx).c = opF xs k:=rfl
    rw [hc] at hz
    have e : (stA m lo xs R n (k + 1)) = rwS m lo (visS (atPc (stA m lo xs R n k) k)) (topO (stA m lo xs R n k)) (opF xs k) (xs.getD k dx).a:=rfl
    cases hO : isO (opF xs k) with
    | true =>
     have e2 : (stA m lo xs R n (k + 1)).st = (stA m lo xs R n k).st.extract 0 ((stA m lo xs R n k).st.size - (tkO (opF xs k)).size):=by
      rw [e,rwS_open m lo _ _ _ hO]; rfl
     have hB : bl (opnAt m lo xs R n k).B <+: bl (stA m lo xs R n (k + 1)).st:=by
      rw [e2]
      have hx:=opn_B k (hk.2 hO).2
      rw [hx.1]
      refine pre_ext (pre_self _ _) ?_
      rw [ByteArray.size_extract]; omega
     rw [stk_open hO]
     intro u hu
     rcases List.mem_cons.1 hu with rfl | hu
     ·exact hB
     ·exact ((hk.2 hO).1 u hu).trans hB
    | false =>
     by_cases h6 : opF xs k = 6
     ·have e2 : (stA m lo xs R n (k + 1)).st = (stA m lo xs R n k).st:=by rw [e,h6,rwS_end]; rfl
      rw [e2,stk_end h6]
      exact fun u hu => hk.1 u (List.mem_of_mem_tail hu)
     ·rw [stk_same hO h6,e]
      exact fun u hu => (hT.2 u hu).trans (base_keeps (s:=visS (atPc (stA m lo xs R n k) k)) hT.1 hO h6 hz)
  refine ⟨hQ,fun hO => ?_⟩
  have hT:=tops j (Nat.le_refl _) hQ
  have ha:=ask_le2 (open_asks hO (he j hj)) (pre_le hT.1)
  rw [ByteArray.size_append] at ha
  refine ⟨fun u hu => ?_,ha.2⟩
  rw [(opn_B j ha.2).1]
  refine pre_ext (hQ u hu) ?_
  have:=pre_le (hT.2 u hu)
  omega
end
end Go.Proofs.YtepnnenohjfkbaaGreatDoor

/-
  Texts TEach TWord TPure Mo Grow Wr.
-/
import Derived.BigQuiet
import Derived.Deep.QuietTactic
import Derived.Lib.CutLaws
import Derived.Test.YtheefojaplnnoaaGreatDoorP00
set_option linter.unusedVariables false
set_option maxRecDepth 100000
set_option maxHeartbeats 16000000
namespace Go.Proofs.YtheefojaplnnoaaGreatDoor
open Go.RowKit
def eH (s : ByteArray) (i : Nat) : Int:=((s.data.toList[i]?.getD 0).toNat : Int)
theorem jr (s : ByteArray) (i : Nat) (h : i < s.size) : ((s[i]'h).toNat : Int) = eH s i:=by
 have h' : i < s.data.toList.length:=pF
 rw [eH,aN h',Option.getD_some,Array.getElem_toList]; rfl
theorem Nw (s : ByteArray) (K B : Nat) (p : Nat → Bool) (w : World) (hs : s.size ≤ 1073741824)
  (he : ∀ args w,(callFunc K args).run Tryz.prog w = .ok (.enter K args) w)
  (hp : ∀ (pos i : Nat) (h : i < s.size),isL (eH s i) = true → Calls Tryz.prog K #[.int .i64 i,.int .u8 (s[i]'h).toNat,.pointer (some ⟨B,0,none⟩)] (w.iter s pos) fun e w' => e = .returned (.bool (p i)) ∧ w' = w.iter s pos) :
  Calls Tryz.prog 234 #[.string s,.func (.func K) #[] #[.pointer (some ⟨B,0,none⟩)]] w fun e w' =>
   ∃ b pos,e = .returned (.bool b) ∧ (b = true ↔ ∀ i,i < s.size → isL (eH s i) = true ∧ p i = true) ∧ w' = w.iter s pos:=by
 have HP:=hid hp;clear hp
 go_enter Tryz.func234,Tryz.ntmps234
 go_wp2
 go_loopw [5] (fun _ wr => ∃ k : Nat,k ≤ s.size ∧ wr = w.iter s k ∧ ∀ i,i < k → isL (eH s i) = true ∧ p i = true) (fun _ wr => s.size - wr.iterPos w.heap.size)
 case atStart => exact ⟨0,Nat.zero_le _,rfl,fun i h => ae⟩
 case round =>
  obtain ⟨k,hk,rfl,hall⟩:=hrel;have HA:=hid hall;clear hall
  by_cases hlt : k < s.size
  ·by_cases hL : isL (eH s k) = true
   ·have hlow : (s[k]'hlt).toNat < 128:=by have:=Jb hL; rw [← jr s k hlt] at this; omega
    have hnx : ∀ ty,(Instr.next (.pointer (some ⟨w.heap.size,0,none⟩)) true ty).run Tryz.prog (w.iter s k) = _:=fun ty => run_next_ascii w s k ty hlt hlow
    go_wp2_with fail;refine (mn _ _).mono ?_;rintro e w1 ⟨rfl,rfl⟩;rw [jr s k hlt,hL];go_wp2_with fail;refine (HP.out (k + 1) k hlt hL).mono ?_;rintro e w2 ⟨rfl,rfl⟩
    cases hpk : p k
    ·go_wp2;go_ret
     exact ⟨false,k + 1,rfl,⟨fun h => (nomatch h),fun h => (by rw [(h k hlt).2] at hpk; cases hpk)⟩,rfl⟩
    ·go_wp2
     go_roundw
     case rel =>
      refine ⟨k + 1,ae,rfl,fun i hi => ?_⟩
      rcases Nat.lt_or_ge i k with h | h
      ·exact HA.out i h
      ·obtain rfl : i = k:=ae;exact ⟨hL,hpk⟩
     case measure => simp; omega
   ·have hL' : isL (eH s k) = false:=by simpa using hL
    have hnx : ∀ ty,(Instr.next (.pointer (some ⟨w.heap.size,0,none⟩)) true ty).run Tryz.prog (w.iter s k) = _:=fun ty => run_next_any w s k ty hlt
    generalize (Utf8.decode s k).2 = wd at hnx;generalize (Utf8.decode s k).1 = rv at hnx;go_wp2_with fail;refine (mn _ _).mono ?_;rintro e w1 ⟨rfl,rfl⟩;rw [jr s k hlt,hL'];go_wp2;go_ret
    exact ⟨false,_,rfl,⟨fun h => (nomatch h),fun h => absurd (h k hlt).1 hL⟩,rfl⟩
  ·have hnx : ∀ ty,(Instr.next (.pointer (some ⟨w.heap.size,0,none⟩)) true ty).run Tryz.prog (w.iter s k) = _:=fun ty => run_next_end w s k ty hlt
   go_wp2;go_ret
   exact ⟨true,_,rfl,⟨fun _ i hi => HA.out i ae,fun _ => rfl⟩,rfl⟩
def bP (s : ByteArray) (most : Nat) : Bool:=(List.range s.size).all (fun i => isL (eH s i)) && decide (s.size ≤ most)
theorem uT (s : ByteArray) (most : Nat) : bP s most = true ↔ (∀ i,i < s.size → isL (eH s i) = true) ∧ s.size ≤ most:=by
 simp [bP]
theorem pj {s : ByteArray} {most : Nat} {b : Bool} (h : b = true ↔ (∀ i,i < s.size → isL (eH s i) = true) ∧ s.size ≤ most) : b = bP s most :=
 Bool.eq_iff_iff.2 (h.trans (uT s most).symm)
theorem kP (s : ByteArray) (most : Nat) (w : World) (hs : s.size ≤ 1073741824) (hm : most ≤ 1073741824) :
  Calls Tryz.prog 204 #[.string s,.int .i64 most] w fun e w' => e = .returned (.bool (bP s most)) ∧ Below w.heap.size w w':=by
 have hmf : ∀ (fn : Fn) (first cap : Array Value) (w : World),(Instr.makeFunc fn first cap).run Tryz.prog w = .ok (.func fn first cap) w:=fun _ _ _ _ => rfl
 have HE:=hid (Nw s 235 w.heap.size (fun i => decide ((i : Int) < most)) (w.alloc (bS most)) hs (fun _ _ => by rfl) (fun pos i h _ => OM i most _ w.heap.size _ (by
  rw [World.iter,World.cell?_alloc_past _ _ _ aq,World.cell?_alloc_at _ _ _ _ rfl]; rfl)))
 go_enter Tryz.func204,Tryz.ntmps204
 go_wp2_with fail;refine HE.out.mono ?_;rintro e w1 ⟨b,pos,rfl,hb,rfl⟩;go_wp2;go_ret
 have hbl : b = bP s most:=by
  refine pj (hb.trans ⟨fun h => ⟨fun i hi => (h i hi).1,?_⟩,fun h i hi => ⟨h.1 i hi,aG⟩⟩)
  rcases Nat.eq_zero_or_pos s.size with h0 | h0
  ·omega
  ·have:=(h (s.size - 1) ae).2
   simp at this
   omega
 subst hbl;exact ⟨rfl,((Below.refl _ _).alloc (Nat.le_refl _) _).alloc aq _⟩
theorem ol (s : ByteArray) (most : Nat) (w : World) (hs : s.size ≤ 1073741824) (hm : most ≤ 1073741824) :
  Calls Tryz.prog 162 #[.string s,.int .i64 most] w fun e w' => e = .returned (.bool (bP s most)) ∧ w' = w:=by
 by_cases hbig : most < s.size
 ·exact GK
 have h' : ¬ (most : Int) < s.size:=ae
 go_enter Tryz.func162,Tryz.ntmps162
 go_wp2
 go_loop [5] (fun i => ∃ k : Nat,k ≤ s.size ∧ i = .int .i64 k ∧ ∀ i,i < k → isL (eH s i) = true) (fun i => s.size - (intOf i).toNat)
 case atStart => exact ⟨0,Nat.zero_le _,rfl,fun i h => ae⟩
 case round =>
  obtain ⟨k,hk,rfl,hall⟩:=hrel;have HA:=hid hall;clear hall
  by_cases hlt : k < s.size
  ·have hlt' : (k : Int) < s.size:=ae
   cases hL : isL (eH s k)
   ·go_wp2_with fail;refine (mz _ _).mono ?_;rintro e w1 ⟨rfl,rfl⟩;rw [jr s k hlt,hL];go_wp2;go_ret
    have hb : false = bP s most:=pj ⟨fun h => (nomatch h),fun h => by rw [h.1 k hlt] at hL; cases hL⟩
    exact ⟨by rw [← hb]; rfl,rfl⟩
   ·go_wp2_with fail;refine (mz _ _).mono ?_;rintro e w1 ⟨rfl,rfl⟩;rw [jr s k hlt,hL];go_wp2
    refine ⟨⟨k + 1,ae,aq,fun i hi => ?_⟩,bD⟩
    rcases Nat.lt_or_ge i k with h | h
    ·exact HA.out i h
    ·obtain rfl : i = k:=ae;exact hL
  ·have hlt' : ¬ (k : Int) < s.size:=ae;go_wp2;go_ret
   have hb : true = bP s most:=pj ⟨fun _ => ⟨fun i hi => HA.out i ae,ae⟩,fun _ => rfl⟩
   exact ⟨by rw [← hb]; rfl,rfl⟩
theorem Ce (s : ByteArray) (w : World) (hs : s.size ≤ 1073741824) :
  Calls Tryz.prog 230 #[.string s] w fun e w' => e = .returned (.bool (bP s 256)) ∧ Below w.heap.size w w':=by
 have HE:=hid (kP s 256 w hs ae)
 go_enter Tryz.func230,Tryz.ntmps230
 go_wp2_with fail;refine HE.out.mono ?_;rintro e w1 ⟨rfl,hb⟩;go_wp2;go_ret;exact ⟨rfl,hb⟩
def gT (s : ByteArray) : ByteArray:=if s.toList.isEmpty = true then ⟨#[45]⟩ else s
theorem gv (s : ByteArray) : (gT s).size ≤ s.size + 1:=by
 unfold gT
 split
 ·exact Nat.le_add_left 1 _
 ·omega
theorem LA (s : ByteArray) (w : World) :
  Calls Tryz.prog 156 #[.string s] w fun e w' => e = .returned (.string (gT s)) ∧ w' = w:=by
 cases h : s.toList.isEmpty
 all_goals
  go_enter Tryz.func156,Tryz.ntmps156
  go_wp2;go_ret
  exact ⟨by simp [gT,h],rfl⟩
theorem Ml (s : ByteArray) (w : World) :
  Calls Tryz.prog 101 #[.string s] w fun e w' => e = .returned (.string (gT s)) ∧ w' = w:=by
 cases h : s.toList.isEmpty
 all_goals
  go_enter Tryz.func101,Tryz.ntmps101
  go_wp2;go_ret
  exact ⟨by simp [gT,h],rfl⟩
theorem Oi (p r : ByteArray) (w : World) (hp : p.size ≤ 1073741824) (hr : r.size ≤ 1073741824) :
  Calls Tryz.prog 155 #[.agg #[.string p,.string r]] w fun e w' => e = .returned (.bool (bP p 8 && bP r 8)) ∧ Below w.heap.size w w':=by
 have hb0 : Below w.heap.size w (w.alloc (aS p r)):=(Below.refl _ _).alloc (Nat.le_refl _) _
 have hc1 : (w.alloc (aS p r)).cell? ⟨w.heap.size,1,none⟩ = some (.string r):=by
  exact nk
 go_enter Tryz.func155,Tryz.ntmps155
 go_wp2_with fail;refine (kP p 8 _ hp ae).mono ?_;rintro e w1 ⟨rfl,hb1⟩
 cases h1 : bP p 8
 ·go_wp2;go_ret;exact ⟨qD,hb0.trans (hb1.mono aq)⟩
 ·have hc2 : w1.cell? ⟨w.heap.size,1,none⟩ = some (.string r):=(hb1.cell aq).trans hc1;go_wp2_with fail;refine (kP r 8 _ hr ae).mono ?_;rintro e w2 ⟨rfl,hb2⟩;go_wp2;go_ret;exact ⟨qD,(hb0.trans (hb1.mono aq)).trans (hb2.mono qA)⟩
theorem NM (p r : ByteArray) (w : World) (hp : p.size ≤ 1073741824) (hr : r.size ≤ 1073741824) :
  Calls Tryz.prog 100 #[.agg #[.string p,.string r]] w fun e w' => e = .returned (.bool (bP p 8 && bP r 8)) ∧ Below w.heap.size w w':=by
 have hb0 : Below w.heap.size w (w.alloc (aS p r)):=(Below.refl _ _).alloc (Nat.le_refl _) _
 go_enter Tryz.func100,Tryz.ntmps100
 go_wp2_with fail;refine (ol p 8 _ hp ae).mono ?_;rintro e w1 ⟨rfl,rfl⟩
 cases h1 : bP p 8
 ·go_wp2;go_ret;exact ⟨qD,hb0⟩
 ·go_wp2_with fail;refine (ol r 8 _ hr ae).mono ?_;rintro e w2 ⟨rfl,rfl⟩;go_wp2;go_ret;exact ⟨qD,hb0⟩
def Kq (p r : ByteArray) : Bool:=bP p 8 && bP r 8
def AB (p r : ByteArray) : ByteArray:=gT p ++ ⟨#[32,45,62,32]⟩ ++ gT r
def qR (p r : ByteArray) : ByteArray:=if Kq p r = true then AB p r else ⟨#[]⟩
def wu (p r : ByteArray) : Int:=if Kq p r = true then 0 else 15
theorem OG (p r : ByteArray) (w : World) (hp : p.size ≤ 1073741824) (hr : r.size ≤ 1073741824) :
  Calls Tryz.prog 93 #[.agg #[.string p,.string r]] w fun e w' => e = .returned (.tuple #[.string (qR p r),.int .i64 (wu p r)]) ∧ Below w.heap.size w w':=by
 have hb0 : Below w.heap.size w (w.alloc (aS p r)):=(Below.refl _ _).alloc (Nat.le_refl _) _
 have hc0 : (w.alloc (aS p r)).cell? ⟨w.heap.size,0,none⟩ = some (.string p):=by
  exact nk
 have hc1 : (w.alloc (aS p r)).cell? ⟨w.heap.size,1,none⟩ = some (.string r):=by
  exact nk
 have HG:=hid (Oi p r (w.alloc (aS p r)) hp hr)
 go_enter Tryz.func93,Tryz.ntmps93
 go_wp2_with fail;refine HG.out.mono ?_;rintro e w1 ⟨rfl,hb1⟩;have hd0 : w1.cell? ⟨w.heap.size,0,none⟩ = some (.string p):=(hb1.cell aq).trans hc0;have hd1 : w1.cell? ⟨w.heap.size,1,none⟩ = some (.string r):=(hb1.cell aq).trans hc1;have HB:=hid (hb0.trans (hb1.mono aq))
 cases h1 : Kq p r
 ·exact zM
 ·rw [show (bP p 8 && bP r 8) = true from h1];clear hc0 hc1 hb0 hb1 HG;have h2:=gv p;have h3:=gv r
  have a1 : ∀ w,(Op.stringOp .add (gT p) ⟨#[32,45,62,32]⟩).run Tryz.prog w = .ok (.string (gT p ++ ⟨#[32,45,62,32]⟩)) w:=fun w => run_string_add_sum w _ _ Bu
  have a2 : ∀ w,(Op.stringOp .add (gT p ++ ⟨#[32,45,62,32]⟩) (gT r)).run Tryz.prog w = .ok (.string (AB p r)) w:=fun w => run_string_add_sum w _ _ Bg
  go_wp2
  go_quiet ((go_at_call 156; refine Calls.quiet_of_same (LA _ _)))
  go_wp2;go_ret2
  exact ⟨by simp [qR,wu,h1],below_drewN HB.out nq⟩
theorem OT (p r : ByteArray) (w : World) (hp : p.size ≤ 1073741824) (hr : r.size ≤ 1073741824) :
  Calls Tryz.prog 35 #[.agg #[.string p,.string r]] w fun e w' => e = .returned (.tuple #[.string (qR p r),.int .i64 (wu p r)]) ∧ Below w.heap.size w w':=by
 have hb0 : Below w.heap.size w (w.alloc (aS p r)):=(Below.refl _ _).alloc (Nat.le_refl _) _
 have hc0 : (w.alloc (aS p r)).cell? ⟨w.heap.size,0,none⟩ = some (.string p):=by
  exact nk
 have hc1 : (w.alloc (aS p r)).cell? ⟨w.heap.size,1,none⟩ = some (.string r):=by
  exact nk
 have HG:=hid (NM p r (w.alloc (aS p r)) hp hr)
 go_enter Tryz.func35,Tryz.ntmps35
 go_wp2_with fail;refine HG.out.mono ?_;rintro e w1 ⟨rfl,hb1⟩;have hd0 : w1.cell? ⟨w.heap.size,0,none⟩ = some (.string p):=(hb1.cell aq).trans hc0;have hd1 : w1.cell? ⟨w.heap.size,1,none⟩ = some (.string r):=(hb1.cell aq).trans hc1;have HB:=hid (hb0.trans (hb1.mono aq))
 cases h1 : Kq p r
 ·exact zM
 ·rw [show (bP p 8 && bP r 8) = true from h1];clear hc0 hc1 hb0 hb1 HG;have h2:=gv p;have h3:=gv r
  have a1 : ∀ w,(Op.stringOp .add (gT p) ⟨#[32,45,62,32]⟩).run Tryz.prog w = .ok (.string (gT p ++ ⟨#[32,45,62,32]⟩)) w:=fun w => run_string_add_sum w _ _ Bu
  have a2 : ∀ w,(Op.stringOp .add (gT p ++ ⟨#[32,45,62,32]⟩) (gT r)).run Tryz.prog w = .ok (.string (AB p r)) w:=fun w => run_string_add_sum w _ _ Bg
  go_wp2
  go_quiet ((go_at_call 101; refine Calls.quiet_of_same (Ml _ _)))
  go_wp2;go_ret2
  exact ⟨by simp [qR,wu,h1],below_drewN HB.out nq⟩
def rsV (s : ByteArray) : ByteArray:=if s.toList.isEmpty = true then ⟨#[]⟩ else if (s.toList == [45]) = true then ⟨#[]⟩ else s
def rsB (s : ByteArray) : Bool:=if s.toList.isEmpty = true then false else if (s.toList == [45]) = true then true else bP s 8
theorem qV (s : ByteArray) (w : World) (hs : s.size ≤ 1073741824) :
  Calls Tryz.prog 218 #[.string s] w fun e w' => e = .returned (.tuple #[.string (rsV s),.bool (rsB s)]) ∧ Below w.heap.size w w':=by
 cases h : s.toList.isEmpty
 ·cases h' : (s.toList == [45])
  ·go_enter Tryz.func218,Tryz.ntmps218
   go_wp2_with fail;refine (kP s 8 _ hs ae).mono ?_;rintro e w1 ⟨rfl,hb1⟩;go_wp2;go_ret2
   exact ⟨by simp [rsV,rsB,h,h'],hb1⟩
  ·go_enter Tryz.func218,Tryz.ntmps218
   go_wp2;go_ret2
   exact ⟨by simp [rsV,rsB,h,h'],Below.refl _ _⟩
 ·go_enter Tryz.func218,Tryz.ntmps218
  go_wp2;go_ret2
  exact ⟨by simp [rsV,rsB,h],Below.refl _ _⟩
abbrev qi : List UInt8:=[32,45,62,32]
def zm (s : ByteArray) : ByteArray:=⟨(Lib.cut s.data.toList qi).1.toArray⟩
def xp (s : ByteArray) : ByteArray:=⟨(Lib.cut s.data.toList qi).2.1.toArray⟩
def LK (s : ByteArray) : Bool:=(Lib.cut s.data.toList qi).2.2
def rdB (s : ByteArray) : Bool:=LK s && rsB (zm s) && rsB (xp s)
def rdP (s : ByteArray) : ByteArray:=if rdB s = true then rsV (zm s) else ⟨#[]⟩
def rdR (s : ByteArray) : ByteArray:=if rdB s = true then rsV (xp s) else ⟨#[]⟩
def rdE (s : ByteArray) : Int:=if rdB s = true then 0 else 15
theorem xU {a b : ByteArray} (h : a.data.toList = b.data.toList) : a = b:=by
 cases a; cases b; congr; exact Array.toList_inj.1 h
theorem cV (a : ByteArray) : a.size = a.data.toList.length:=Array.length_toList.symm
theorem jl (a : ByteArray) : a.toList = a.data.toList:=ByteArray.toList_eq a
theorem ni (s : ByteArray) (most : Nat) : bP s most = true ↔ (∀ c ∈ s.data.toList,c = 119 ∨ c = 108) ∧ s.size ≤ most:=by
 rw [uT]
 constructor
 ·intro ⟨h,hm⟩
  refine ⟨fun c hc => ?_,hm⟩
  obtain ⟨i,hi,rfl⟩:=List.getElem_of_mem hc
  have:=h i (by rw [cV]; exact hi)
  rw [eH,aN hi,Option.getD_some] at this
  simp only [isL,Bool.or_eq_true,decide_eq_true_eq] at this
  rcases this with h | h
  ·left; apply UInt8.toNat_inj.1; exact Int.ofNat_inj.1 h
  ·right; apply UInt8.toNat_inj.1; exact Int.ofNat_inj.1 h
 ·intro ⟨h,hm⟩
  refine ⟨fun i hi => ?_,hm⟩
  rw [cV] at hi;rw [eH,aN hi,Option.getD_some]
  rcases h _ (List.getElem_mem hi) with h | h <;> rw [h] <;> rfl
theorem Dy (s : ByteArray) : (zm s).size ≤ s.size ∧ (xp s).size ≤ s.size:=by
 rw [cV,cV,cV]
 show (Lib.cut s.data.toList qi).1.length ≤ _ ∧ (Lib.cut s.data.toList qi).2.1.length ≤ _
 unfold Lib.cut
 split
 ·simp only [List.length_take,List.length_drop]; omega
 ·simp
def bi {α : Type} (f : List α → α → Int) : List α → List α → Int
 | _,[] => 0
 | ah,x :: r => if f ah x ≠ 0 then f ah x else bi f (ah ++ [x]) r
def orE (a b : Int) : Int:=if a ≠ 0 then a else b
def bu {α : Type} (f : List α → α → Int) (most : Int) (xs : List α) : Int:=if most < xs.length then 20 else bi f [] xs
abbrev Sg:=ByteArray × ByteArray
abbrev Gl:=Int × Bool × Int
abbrev Ex:=ByteArray × Int
def fI (ah : List Sg) (x : Sg) : Bool:=ah.any fun y => (y.1.toList == x.1.toList) && (y.2.toList == x.2.toList)
def cd (ah : List Sg) (x : Sg) : Int :=
 if 8 < x.1.size then 13 else if bP x.1 8 = false then 15 else if 8 < x.2.size then 13 else if bP x.2 8 = false then 15 else if fI ah x = true then 16 else 0
def bQ (n x : Int) : Int:=if x < 0 ∨ n ≤ x then 30 else 0
def dM (x : Gl) : Int:=if isL x.1 = false then 15 else if eJ x.2.2 x.1 = false then 17 else 0
def il (least x : Int) : Int:=if x < least ∨ 64 < x then 17 else 0
def eY (s : ByteArray) : List Int:=au s.size ++ aZ s
def bG (x : Sg) : List Int:=eY x.1 ++ eY x.2
def sgn (c v : Int) : Int:=if c = 119 then (if v < 4294967296 then (if v < 2147483648 then v else v - 4294967296) else 9223372036854775807) else if v < 9223372036854775808 then v else v - 18446744073709551616
def cz (x : Gl) : List Int:=[x.1,if x.2.1 then 1 else 0] ++ au (fo (sgn x.1 x.2.2))
theorem vT (s : ByteArray) : (eY s).length = (au s.size).length + s.size:=by simp [eY,eO]
theorem cX (s : ByteArray) (n : Nat) (h : s.size ≤ n) : 1 ≤ (eY s).length ∧ (eY s).length ≤ 10 + n:=by
 have:=ay s.size
 rw [vT]; omega
theorem gw (x : Sg) (h1 : x.1.size ≤ 8) (h2 : x.2.size ≤ 8) : (bG x).length ≤ 36:=by
 have a:=cX x.1 8 h1;have b:=cX x.2 8 h2
 simp only [bG,List.length_append]; omega
theorem jk (x : Gl) : (cz x).length ≤ 12:=by
 have:=ay (fo (sgn x.1 x.2.2))
 simp only [cz,List.length_append,List.length_cons,List.length_nil]; omega
theorem eG (s : ByteArray) (m n : Nat) (h : s.size ≤ m) (h' : s.size ≤ n) : bP s m = bP s n:=by
 cases hb : bP s n
 ·cases ha : bP s m
  ·rfl
  ·have:=((ni s m).1 ha).1
   rw [(ni s n).2 ⟨this,h'⟩] at hb; cases hb
 ·exact (ni s m).2 ⟨((ni s n).1 hb).1,h⟩
theorem iY {α : Type} (f : List α → α → Int) : ∀ (xs ah ys : List α),bi f ah (xs ++ ys) = orE (bi f ah xs) (bi f (ah ++ xs) ys)
 | [],ah,ys => by simp [bi,orE]
 | x :: xs,ah,ys => by
  simp only [List.cons_append,bi]
  by_cases h : f ah x ≠ 0
  ·simp [h,orE]
  ·simp only [h,if_false]
   rw [iY f xs (ah ++ [x]) ys]
   simp
theorem eD {α : Type} (f : List α → α → Int) (xs : List α) (j : Nat) (x : α) (hx : xs[j]? = some x) (h : bi f [] (xs.take j) = 0) (hf : f (xs.take j) x = 0) : bi f [] (xs.take (j + 1)) = 0:=by
 have hj : j < xs.length:=by
  exact Bx
 have : xs.take (j + 1) = xs.take j ++ [x]:=by
  rw [List.take_succ_eq_append_getElem hj];rw [aN hj] at hx
  simp at hx; rw [hx]
 rw [this,iY,h]
 simp [orE,bi,hf]
theorem eF {α : Type} (f : List α → α → Int) (xs : List α) (j : Nat) (x : α) (hx : xs[j]? = some x) (h : bi f [] (xs.take j) = 0) (hf : f (xs.take j) x ≠ 0) : bi f [] xs = f (xs.take j) x:=by
 have hj : j < xs.length:=by
  exact Bx
 have : xs = xs.take j ++ x :: xs.drop (j + 1):=by
  conv => lhs; rw [← List.take_append_drop j xs,List.drop_eq_getElem_cons hj]
  rw [aN hj] at hx
  simp at hx; rw [hx]
 rw [this,iY]
 have h0 : (xs.take j ++ x :: xs.drop (j + 1)).take j = xs.take j:=by
  rw [List.take_append_of_le_length aG,List.take_take,Nat.min_self]
 rw [h,h0]
 simp [orE,bi,hf]
theorem dE {ah : List Sg} {x : Sg} (h : cd ah x = 0) : x.1.size ≤ 8 ∧ bP x.1 8 = true ∧ x.2.size ≤ 8 ∧ bP x.2 8 = true ∧ fI ah x = false:=by
 unfold cd at h
 split at h
 ·cases h
 ·split at h
  ·cases h
  ·split at h
   ·cases h
   ·split at h
    ·cases h
    ·split at h
     ·cases h
     ·refine ⟨ae,by simp_all,ae,by simp_all,by simp_all⟩
theorem FE {ah : List Sg} {x : Sg} (h : fI ah x = true) : ∃ k y,ah[k]? = some y ∧ y.1.toList = x.1.toList ∧ y.2.toList = x.2.toList ∧ fI (ah.take k) x = false:=by
 induction ah with
 | nil => simp [fI] at h
 | cons a r ih =>
  by_cases ha : a.1.toList = x.1.toList ∧ a.2.toList = x.2.toList
  ·exact ⟨0,a,rfl,ha.1,ha.2,by simp [fI]⟩
  ·have hf : ((a.1.toList == x.1.toList) && (a.2.toList == x.2.toList)) = false:=by
    cases hb : ((a.1.toList == x.1.toList) && (a.2.toList == x.2.toList))
    ·rfl
    ·simp at hb; exact absurd hb ha
   have hr : fI r x = true:=by simpa [fI,hf] using h
   obtain ⟨k,y,h1,h2,h3,h4⟩:=ih hr;refine ⟨k + 1,y,nP,h2,h3,?_⟩
   simp only [fI,List.take_succ_cons,List.any_cons,hf,Bool.false_or]
   exact h4
def iR (s : ByteArray) : Bool:=(aZ s).all (fun b => decide (33 ≤ b) && decide (b ≤ 126)) && !s.toList.isEmpty
def sGt (s nm : ByteArray) : Bool:=!Op.bytesLess s.toList nm.toList && !s.toList == nm.toList
def fy (ah : List Ex) (s : ByteArray) : Bool:=match ah.getLast? with | none => false | some y => !(sGt s y.1)
def dw (nf : Int) (ah : List Ex) (x : Ex) : Int :=
 if 32 < x.1.size then 13 else if iR x.1 = false then 23 else if fy ah x.1 = true then 18 else bQ nf x.2
def dz (x : Ex) : List Int:=eY x.1 ++ au x.2
def gP (w : World) (e : TypeId) (size B n cap : Nat) (xs : List Value) : Prop:=w.ownsRow 0 e size (.slice (some ⟨B,0,none⟩) n cap) n xs
theorem gP.of {w : World} {base : Nat} {e : TypeId} {size B n cap : Nat} {xs : List Value} (h : w.ownsRow base e size (.slice (some ⟨B,0,none⟩) n cap) n xs) : gP w e size B n cap xs:=by
 exact Ax
theorem gP.block {w : World} {e : TypeId} {size B n cap : Nat} {xs : List Value} (h : gP w e size B n cap xs) : ∃ cur,w.heap[B]? = some (.cells cur e) ∧ n ≤ cap ∧ cap ≤ maxLen ∧ cur.size = cap * size ∧ cur.toList.take (n * size) = xs:=by
 rcases h.2 with ⟨h,_⟩ | ⟨g,cp,cur,h1,_,h3,h4,h5,h6,h7⟩
 ·cases h
 ·simp at h1
  obtain ⟨rfl,rfl⟩:=h1;exact ⟨cur,h3,h4,h5,h6,h7⟩
theorem gP.lt {w : World} {e : TypeId} {size B n cap : Nat} {xs : List Value} (h : gP w e size B n cap xs) : B < w.heap.size:=by
 exact GZ
theorem aF {w w' : World} {base : Nat} {e : TypeId} {size : Nat} {v : Value} {n : Nat} {xs : List Value} (h : w.ownsRow base e size v n xs) (hk : ∀ B,v.ownBlock = some B → w'.heap[B]? = w.heap[B]?) : w'.ownsRow base e size v n xs:=by
 exact FZ
theorem gP.keep {w w' : World} {e : TypeId} {size B n cap : Nat} {xs : List Value} (h : gP w e size B n cap xs) (hk : w'.heap[B]? = w.heap[B]?) : gP w' e size B n cap xs :=
 aF h (fun b hb => by
  obtain rfl : B = b:=uF;exact hk)
theorem gP.kept {S : Nat → Prop} {w w' : World} {e : TypeId} {size B n cap : Nat} {xs : List Value} (h : gP w e size B n cap xs) (hk : aJ S w w') (hs : ¬ S B) : gP w' e size B n cap xs:=h.keep (hk.block B h.lt hs)
theorem gP.cell {w : World} {e : TypeId} {size B n cap : Nat} {xs : List Value} (h : gP w e size B n cap xs) (j : Nat) (hj : j < n * size) : w.cell? ⟨B,j,none⟩ = xs[j]?:=by
 obtain ⟨cur,h1,h2,h3,h4,h5⟩:=h.block
 have hl : j < cur.size:=by rw [h4]; exact Nat.lt_of_lt_of_le hj (Nat.mul_le_mul_right _ h2)
 rw [← h5,List.getElem?_take_of_lt hj]
 simp only [World.cell?,h1]
 simp
theorem gH {P : Program} (w : World) {ops : Array Oper} {rest : List Oper} {o : Oper} {a : Act} {Q : Exit → Act → World → Prop} (hgd : o.guard = none)
  (s x : Operand) (t : TypeId) (ho : o.op = Op.call { callee:=Callee.builtin Builtin.append,args:=#[s,x],argTypes:=#[t,t] }) (e : TypeId) (i : TypeInfo) (z : Value) (size bytes : Nat)
  (h1 : P.underlying t = some (.slice e)) (h2 : P.info? e = some i) (h3 : i.zero = some z) (h4 : i.size = size) (h5 : i.bytes = bytes) (h6 : z.cells.size = size) (h7 : 0 < size)
  (v : Value) (n : Nat) (xs : List Value) (hs : a.eval s = v) (hown : w.ownsRow 0 e size v n xs) (ad : Addr) (m c : Nat) (news : List Value) (hx : a.eval x = .slice (some ad) m c) (hn : news.length = m * size)
  (hc : ∀ j u,news[j]? = some u → w.cell? (ad.add j) = some u) (hone : ∀ u ∈ news,u.oneCell' = true) (hm : 0 < m)
  (b1 : n + m ≤ maxLen) (b2 : (n + m) * bytes ≤ 140737488355328)
  (h : ∀ (B cap : Nat) (w' : World),gP w' e size B (n + m) cap (xs ++ news) → ((v = .slice (some ⟨B,0,none⟩) n cap ∧ aJ (fun k => k = B) w w') ∨ (w.heap.size ≤ B ∧ aJ (fun _ => False) w w')) → wpList P ops Q rest (a.put o.dst (.slice (some ⟨B,0,none⟩) (n + m) cap)) w') :
  wpList P ops Q (o :: rest) a w:=by
 have grow : ∀ (ao : Option Addr) (cap : Nat),v = .slice ao n cap → (ao = none → n = 0 ∧ cap = 0) → (∀ b,ao = some b → ∀ (j : Nat) (y : Value),xs[j]? = some y → w.cell? (b.add j) = some y) → cap < n + m → wpList P ops Q (o :: rest) a w:=by
  intro ao cap hv hnone holds hfull;refine wpList_append_grows w hgd s x t ho e i z size bytes h1 h2 h3 h4 h5 h6 h7 ao n cap xs (hs.trans hv) hnone hown.1 holds ad m c news hx hn hc hone hfull b1 b2 ?_;intro v' w' ho' hg'
  rcases ho'.2 with ⟨_,hz⟩ | ⟨g,cp,cur,rfl,hbase,h8⟩
  ·omega
  ·exact h g cp w' (gP.of ho') (.inr ⟨hbase,(aJ.of_grown hg').mono (fun k hk => by cases hk)⟩)
 rcases hown.2 with ⟨rfl,rfl⟩ | ⟨g,cap,cur,rfl,_,hh,hnc,hcm,hsz,htk⟩
 ·exact grow none 0 rfl (fun _ => ⟨rfl,rfl⟩) (fun b hb => by cases hb) ae
 ·by_cases hroom : n + m ≤ cap
  ·refine wpList_append_fits w hgd s x t ho 0 e i size h1 h2 h4 g n cap xs hs hown ad m c news hx hn hc hone hroom ?_;intro w' ho' hg'
   exact h g cap w' ho' (.inl ⟨rfl,(aJ.of_grown hg').mono (fun k hk => by simpa using hk)⟩)
  ·refine grow (some ⟨g,0,none⟩) cap rfl (fun hb => by cases hb) (fun b hb j y hy => ?_) ae
   simp at hb
   subst hb
   have hj : j < xs.length:=by
    rcases Nat.lt_or_ge j xs.length with h | h
    ·exact h
    ·simp [List.getElem?_eq_none h] at hy
   have hl:=hown.1;have hplain : (⟨g,0,none⟩ : Addr).add j = ⟨g,j,none⟩:=gS;rw [hplain,gP.cell hown j ae];exact hy
theorem EE {P : Program} (w : World) {ops : Array Oper} {rest : List Oper} {o : Oper} {a : Act} {Q : Exit → Act → World → Prop} (hgd : o.guard = none)
  (s x : Operand) (t : TypeId) (ho : o.op = Op.call { callee:=Callee.builtin Builtin.append,args:=#[s,x],argTypes:=#[t,t] }) (e : TypeId) (i : TypeInfo) (z : Value) (size bytes : Nat)
  (h1 : P.underlying t = some (.slice e)) (h2 : P.info? e = some i) (h3 : i.zero = some z) (h4 : i.size = size) (h5 : i.bytes = bytes) (h6 : z.cells.size = size) (h7 : 0 < size)
  (g n cap : Nat) (xs : List Value) (hs : a.eval s = .slice (some ⟨g,0,none⟩) n cap) (hown : gP w e size g n cap xs) (ad : Addr) (m c : Nat) (news : List Value) (hx : a.eval x = .slice (some ad) m c) (hn : news.length = m * size)
  (hc : ∀ j u,news[j]? = some u → w.cell? (ad.add j) = some u) (hone : ∀ u ∈ news,u.oneCell' = true) (hm : 0 < m)
  (b1 : n + m ≤ maxLen) (b2 : (n + m) * bytes ≤ 140737488355328)
  (h : ∀ (B cap : Nat) (w' : World),gP w' e size B (n + m) cap (xs ++ news) → aJ (fun k => k = g) w w' → (B = g ∨ w.heap.size ≤ B) → wpList P ops Q rest (a.put o.dst (.slice (some ⟨B,0,none⟩) (n + m) cap)) w') :
  wpList P ops Q (o :: rest) a w:=by
 refine gH w hgd s x t ho e i z size bytes h1 h2 h3 h4 h5 h6 h7 _ n xs hs hown ad m c news hx hn hc hone hm b1 b2 ?_
 rintro B cp w' hr (⟨hv,hk⟩ | ⟨hB,hk⟩)
 ·simp at hv
  obtain ⟨rfl,rfl⟩:=hv;exact h g cap w' hr hk (.inl rfl)
 ·exact h B cp w' hr (hk.mono (fun k hk => hk.elim)) (.inr hB)
def thr (e p : Int) : Ending:=.panicked [{ v:=.iface 142 (.agg #[.int .i64 e,.int .i64 p]),recovered:=false }]
theorem jM (e at_ : Int) (w : World) : Calls Tryz.prog 84 #[.bool true,.int .i64 e,.int .i64 at_] w fun e w' => e = .returned (.tuple #[]) ∧ w' = w:=by
 go_enter Tryz.func84,Tryz.ntmps84
 exact mA
theorem rL (x p : Int) (w : World) : Calls Tryz.prog 84 #[.bool false,.int .i64 x,.int .i64 p] w fun e w' => e = thr x p ∧ w' = w:=by
 go_enter Tryz.func84,Tryz.ntmps84
 go_wp2_with fail
 simp [bodyPost,thr]
def Buf (w : World) (g n cap : Nat) (xs : List Value) : Prop:=gP w 5 1 g n cap xs ∨ (cap = n ∧ n ≤ maxLen ∧ g < w.heap.size ∧ xs.length = n ∧ ∀ j u,xs[j]? = some u → w.cell? ⟨g,j,none⟩ = some u)
theorem Buf.lt {w : World} {g n cap : Nat} {xs : List Value} (h : Buf w g n cap xs) : g < w.heap.size:=by
 rcases h with h | h
 ·exact h.lt
 ·exact h.2.2.1
theorem Buf.kept {S : Nat → Prop} {w w' : World} {g n cap : Nat} {xs : List Value} (h : Buf w g n cap xs) (hk : aJ S w w') (hs : ¬ S g) : Buf w' g n cap xs:=by
 rcases h with h | ⟨h1,h2,h3,h4,h5⟩
 ·exact .inl (h.kept hk hs)
 ·exact .inr ⟨h1,h2,Nat.lt_of_lt_of_le h3 hk.size,h4,fun j u hj => hk.cell (h5 j u hj) hs⟩
theorem Cq {P : Program} (w : World) {ops : Array Oper} {rest : List Oper} {o : Oper} {a : Act} {Q : Exit → Act → World → Prop} (hgd : o.guard = none)
  (s x : Operand) (t : TypeId) (ho : o.op = Op.call { callee:=Callee.builtin Builtin.append,args:=#[s,x],argTypes:=#[t,t] }) (i : TypeInfo) (z : Value)
  (h1 : P.underlying t = some (.slice 5)) (h2 : P.info? 5 = some i) (h3 : i.zero = some z) (h4 : i.size = 1) (h5 : i.bytes = 1) (h6 : z.cells.size = 1)
  (g n cap : Nat) (xs : List Value) (hs : a.eval s = .slice (some ⟨g,0,none⟩) n cap) (hown : Buf w g n cap xs) (ad : Addr) (m c : Nat) (news : List Value) (hx : a.eval x = .slice (some ad) m c) (hn : news.length = m * 1)
  (hc : ∀ j u,news[j]? = some u → w.cell? (ad.add j) = some u) (hone : ∀ u ∈ news,u.oneCell' = true) (hm : 0 < m)
  (b1 : n + m ≤ maxLen) (b2 : (n + m) * 1 ≤ 140737488355328)
  (h : ∀ (B cap : Nat) (w' : World),gP w' 5 1 B (n + m) cap (xs ++ news) → aJ (fun k => k = g) w w' → (B = g ∨ w.heap.size ≤ B) → wpList P ops Q rest (a.put o.dst (.slice (some ⟨B,0,none⟩) (n + m) cap)) w') :
  wpList P ops Q (o :: rest) a w:=by
 rcases hown with hr | ⟨rfl,_,_,hl,hcells⟩
 ·exact EE w hgd s x t ho 5 i z 1 1 h1 h2 h3 h4 h5 h6 av g n cap xs hs hr ad m c news hx hn hc hone hm b1 b2 h
 ·refine wpList_append_grows w hgd s x t ho 5 i z 1 1 h1 h2 h3 h4 h5 h6 av (some ⟨g,0,none⟩) cap cap xs hs (fun hh => by cases hh) ae (fun b hb j u hj => ?_) ad m c news hx hn hc hone ae b1 b2 ?_
  ·simp at hb
   subst hb;have hplain : (⟨g,0,none⟩ : Addr).add j = ⟨g,j,none⟩:=gS;rw [hplain];exact hcells j u hj
  ·intro v' w' ho' hg'
   rcases ho'.2 with ⟨_,hz⟩ | ⟨B,cp,cur,rfl,hbase,h8⟩
   ·omega
   ·exact h B cp w' (gP.of ho') ((aJ.of_grown hg').mono (fun k hk => by cases hk)) (.inr hbase)
structure Wr (w : World) (R g cap : Nat) (bs : List Int) : Prop where
 c0 : w.cell? ⟨R,0,none⟩ = some (.slice (some ⟨g,0,none⟩) bs.length cap)
 f0 : w.frozen? ⟨R,0,none⟩ = false
 row : Buf w g bs.length cap (bs.map (Value.int .u8))
 ne : g ≠ R
theorem Wr.lt {w : World} {R g cap : Nat} {bs : List Int} (h : Wr w R g cap bs) : R < w.heap.size:=block_lt_of_cell h.c0
theorem Wr.kept {S : Nat → Prop} {w w' : World} {R g cap : Nat} {bs : List Int} (h : Wr w R g cap bs) (hk : aJ S w w') (hR : ¬ S R) (hg : ¬ S g) : Wr w' R g cap bs :=
 ⟨hk.cell h.c0 hR,(bH (hk.block R h.lt hR) 0).trans h.f0,h.row.kept hk hg,h.ne⟩
theorem Wr.later {w w' : World} {R g cap : Nat} {bs : List Int} (h : Wr w R g cap bs) (hb : Below w.heap.size w w') : Wr w' R g cap bs :=
 h.kept (S:=fun _ => False) ⟨hb.os,hb.tape,hb.output,hb.size,fun k hk _ => hb.block k hk⟩ id id
structure Stp (R g g' : Nat) (w w' : World) : Prop where
 k : aJ (fun k => k = R ∨ k = g) w w'
 m : g' = g ∨ w.heap.size ≤ g'
theorem Stp.refl (R g : Nat) (w : World) : Stp R g g w w:=⟨aJ.refl _ _,.inl rfl⟩
theorem Stp.trans {R g g' g'' : Nat} {w w1 w2 : World} (h : Stp R g g' w w1) (h' : Stp R g' g'' w1 w2) : Stp R g g'' w w2:=by
 refine ⟨h.k.then h'.k (fun k hk ht => ?_),?_⟩
 ·rcases ht with rfl | rfl
  ·exact .inl rfl
  ·exact py
 ·exact tR
theorem Stp.of_below {R g : Nat} {w w' : World} (h : Below w.heap.size w w') : Stp R g g w w' :=
 ⟨⟨h.os,h.tape,h.output,h.size,fun k hk _ => h.block k hk⟩,.inl rfl⟩
theorem Stp.size {R g g' : Nat} {w w' : World} (h : Stp R g g' w w') : w.heap.size ≤ w'.heap.size:=h.k.size
theorem Stp.cell {R g g' : Nat} {w w' : World} (h : Stp R g g' w w') {b o : Nat} {v : Value} (hc : w.cell? ⟨b,o,none⟩ = some v) (h1 : b ≠ R) (h2 : b ≠ g) : w'.cell? ⟨b,o,none⟩ = some v:=h.k.cell hc (by simp [h1,h2])
theorem Wr.range {w : World} {R g cap : Nat} {bs : List Int} (h : Wr w R g cap bs) : bs.length ≤ maxLen:=by
 rcases h.row with hr | hr
 ·obtain ⟨cur,h1,h2,h3,_⟩:=hr.block;omega
 ·exact hr.2.1
theorem tQ (R g cap : Nat) (bs : List Int) (a : Option Addr) (n c : Nat) (zs : List Int) (w : World) (h : Wr w R g cap bs) (hs : Seg w a n c zs) (hn : 0 < n) (hb : bs.length + n ≤ 1099511627776) :
  Calls Tryz.prog 324 #[.pointer (some ⟨R,0,none⟩),.slice a n c] w fun e w' => e = .returned (.tuple #[]) ∧ ∃ g' cap',Wr w' R g' cap' (bs ++ zs) ∧ Stp R g g' w w':=by
 have c0:=h.c0;have f0:=h.f0;have hlt:=h.lt;obtain ⟨i0,hi,hz0,hz1,hz2⟩:=info_parts Tryz.info5
 obtain ⟨ad,rfl⟩ : ∃ ad,a = some ad:=by
  rcases hs.2.2.2.2 with h0 | ⟨b,off,h,_⟩
  ·omega
  ·exact ⟨_,h⟩
 have HR:=hid h.row;have HNE:=hid h.ne;have HS:=hid hs;have hl:=hs.1;clear h hs
 go_enter Tryz.func324,Tryz.ntmps324
 go_wp2_with (at_builtin; (refine Cq _ rfl (.tmp 8) (.tmp 9) 63 rfl i0 (.int .u8 0) Tryz.underlying63 hi hz0 hz1 hz2 rfl g bs.length cap _ rfl HR.out ad n c (zs.map (Value.int .u8)) rfl (by simp [hl]) (jo HS.out ad rfl) (j5 _) hn bU ae ?_; intro B cap' w1 hrow hk hor; have HO:=hid hrow; have HK:=hid hk; have HOR:=hid hor; have d0:=hk.cell c0 (Ne.symm HNE.out); have e0:=(bH (hk.block R hlt (Ne.symm HNE.out)) 0).trans f0; clear hrow hk hor c0 f0))
 go_end0
 have hne : B ≠ R:=by
  rcases HOR.out with h1 | h1
  ·have:=HNE.out; omega
  ·omega
 refine ⟨rfl,B,cap',⟨?_,?_,?_,hne⟩,⟨?_,HOR.out⟩⟩
 ·have:=World.cell?_setCell_same w1 ⟨R,0,none⟩ (.slice (some ⟨B,0,none⟩) (bs.length + n) cap') d0
  simpa [hl] using this
 ·rw [World.frozen?_setCell]; exact e0
 ·have hk : (w1.setCell ⟨R,0,none⟩ (.slice (some ⟨B,0,none⟩) (bs.length + n) cap')).heap[B]? = w1.heap[B]?:=Below.heap_setCell _ _ _ _ (by simpa using hne)
  have:=HO.out.keep hk
  refine .inl ?_
  simpa [hl] using this
 ·exact (HK.out.mono (T:=fun k => k = R ∨ k = g) (fun k hk => .inr hk)).trans ⟨rfl,rfl,rfl,by simp [World.setCell],fun k hk hs => Below.heap_setCell _ _ _ _ (by simp at hs ⊢; omega)⟩
end Go.Proofs.YtheefojaplnnoaaGreatDoor

/-
  Texts TEach TWord TPure Mo Grow Wr.
-/
import Derived.BigQuiet
import Derived.Deep.QuietTactic
import Derived.Lib.CutLaws
import Derived.Test.YtheefojaplnnoaaGreatDoorC00
set_option linter.unusedVariables false
set_option maxRecDepth 100000
set_option maxHeartbeats 16000000
namespace Go.Proofs.YtheefojaplnnoaaGreatDoor
open Go.RowKit
def jB (s : ByteArray) (i : Nat) : Int:=((s.data.toList[i]?.getD 0).toNat : Int)
theorem qh (s : ByteArray) (i : Nat) (h : i < s.size) : ((s[i]'h).toNat : Int) = jB s i:=by
 have h' : i < s.data.toList.length:=nM
 rw [jB,aD h',Option.getD_some,Array.getElem_toList]; rfl
theorem NI (s : ByteArray) (K B : Nat) (p : Nat → Bool) (w : World) (hs : s.size ≤ 1073741824)
  (he : ∀ args w,(callFunc K args).run Tryz.prog w = .ok (.enter K args) w)
  (hp : ∀ (pos i : Nat) (h : i < s.size),isL (jB s i) = true → Calls Tryz.prog K #[.int .i64 i,.int .u8 (s[i]'h).toNat,.pointer (some ⟨B,0,none⟩)] (w.iter s pos) fun e w' => e = .returned (.bool (p i)) ∧ w' = w.iter s pos) :
  Calls Tryz.prog 234 #[.string s,.func (.func K) #[] #[.pointer (some ⟨B,0,none⟩)]] w fun e w' =>
   ∃ b pos,e = .returned (.bool b) ∧ (b = true ↔ ∀ i,i < s.size → isL (jB s i) = true ∧ p i = true) ∧ w' = w.iter s pos:=by
 have HP:=hid hp;clear hp
 go_enter Tryz.func234,Tryz.ntmps234
 go_wp2
 go_loopw [5] (fun _ wr => ∃ k : Nat,k ≤ s.size ∧ wr = w.iter s k ∧ ∀ i,i < k → isL (jB s i) = true ∧ p i = true) (fun _ wr => s.size - wr.iterPos w.heap.size)
 case atStart => exact ⟨0,Nat.zero_le _,rfl,fun i h => ae⟩
 case round =>
  obtain ⟨k,hk,rfl,hall⟩:=hrel;have HA:=hid hall;clear hall
  by_cases hlt : k < s.size
  ·by_cases hL : isL (jB s k) = true
   ·have hlow : (s[k]'hlt).toNat < 128:=by have:=Ki hL; rw [← qh s k hlt] at this; omega
    have hnx : ∀ ty,(Instr.next (.pointer (some ⟨w.heap.size,0,none⟩)) true ty).run Tryz.prog (w.iter s k) = _:=fun ty => run_next_ascii w s k ty hlt hlow
    go_wp2_with fail;refine (mU _ _).mono ?_;rintro e w1 ⟨rfl,rfl⟩;rw [qh s k hlt,hL];go_wp2_with fail;refine (HP.out (k + 1) k hlt hL).mono ?_;rintro e w2 ⟨rfl,rfl⟩
    cases hpk : p k
    ·go_wp2;go_ret
     exact ⟨false,k + 1,rfl,⟨fun h => (nomatch h),fun h => (by rw [(h k hlt).2] at hpk; cases hpk)⟩,rfl⟩
    ·go_wp2
     go_roundw
     case rel =>
      refine ⟨k + 1,ae,rfl,fun i hi => ?_⟩
      rcases Nat.lt_or_ge i k with h | h
      ·exact HA.out i h
      ·obtain rfl : i = k:=ae;exact ⟨hL,hpk⟩
     case measure => simp; omega
   ·have hL' : isL (jB s k) = false:=by simpa using hL
    have hnx : ∀ ty,(Instr.next (.pointer (some ⟨w.heap.size,0,none⟩)) true ty).run Tryz.prog (w.iter s k) = _:=fun ty => run_next_any w s k ty hlt
    generalize (Utf8.decode s k).2 = wd at hnx;generalize (Utf8.decode s k).1 = rv at hnx;go_wp2_with fail;refine (mU _ _).mono ?_;rintro e w1 ⟨rfl,rfl⟩;rw [qh s k hlt,hL'];go_wp2;go_ret
    exact ⟨false,_,rfl,⟨fun h => (nomatch h),fun h => absurd (h k hlt).1 hL⟩,rfl⟩
  ·have hnx : ∀ ty,(Instr.next (.pointer (some ⟨w.heap.size,0,none⟩)) true ty).run Tryz.prog (w.iter s k) = _:=fun ty => run_next_end w s k ty hlt
   go_wp2;go_ret
   exact ⟨true,_,rfl,⟨fun _ i hi => HA.out i ae,fun _ => rfl⟩,rfl⟩
def bH (s : ByteArray) (most : Nat) : Bool:=(List.range s.size).all (fun i => isL (jB s i)) && decide (s.size ≤ most)
theorem vZ (s : ByteArray) (most : Nat) : bH s most = true ↔ (∀ i,i < s.size → isL (jB s i) = true) ∧ s.size ≤ most:=by
 simp [bH]
theorem Kp {s : ByteArray} {most : Nat} {b : Bool} (h : b = true ↔ (∀ i,i < s.size → isL (jB s i) = true) ∧ s.size ≤ most) : b = bH s most :=
 Bool.eq_iff_iff.2 (h.trans (vZ s most).symm)
theorem kp (s : ByteArray) (most : Nat) (w : World) (hs : s.size ≤ 1073741824) (hm : most ≤ 1073741824) :
  Calls Tryz.prog 204 #[.string s,.int .i64 most] w fun e w' => e = .returned (.bool (bH s most)) ∧ Below w.heap.size w w':=by
 have hmf : ∀ (fn : Fn) (first cap : Array Value) (w : World),(Instr.makeFunc fn first cap).run Tryz.prog w = .ok (.func fn first cap) w:=fun _ _ _ _ => rfl
 have HE:=hid (NI s 235 w.heap.size (fun i => decide ((i : Int) < most)) (w.alloc (bz most)) hs (fun _ _ => by rfl) (fun pos i h _ => Oz i most _ w.heap.size _ (by
  rw [World.iter,World.cell?_alloc_past _ _ _ ar,World.cell?_alloc_at _ _ _ _ rfl]; rfl)))
 go_enter Tryz.func204,Tryz.ntmps204
 go_wp2_with fail;refine HE.out.mono ?_;rintro e w1 ⟨b,pos,rfl,hb,rfl⟩;go_wp2;go_ret
 have hbl : b = bH s most:=by
  refine Kp (hb.trans ⟨fun h => ⟨fun i hi => (h i hi).1,?_⟩,fun h i hi => ⟨h.1 i hi,aL⟩⟩)
  rcases Nat.eq_zero_or_pos s.size with h0 | h0
  ·omega
  ·have:=(h (s.size - 1) ae).2
   simp at this
   omega
 subst hbl;exact ⟨rfl,((Below.refl _ _).alloc (Nat.le_refl _) _).alloc ar _⟩
theorem Aa (s : ByteArray) (w : World) (hs : s.size ≤ 1073741824) :
  Calls Tryz.prog 230 #[.string s] w fun e w' => e = .returned (.bool (bH s 256)) ∧ Below w.heap.size w w':=by
 have HE:=hid (kp s 256 w hs ae)
 go_enter Tryz.func230,Tryz.ntmps230
 go_wp2_with fail;refine HE.out.mono ?_;rintro e w1 ⟨rfl,hb⟩;go_wp2;go_ret;exact ⟨rfl,hb⟩
def ct (s : ByteArray) : ByteArray:=if s.toList.isEmpty = true then ⟨#[45]⟩ else s
theorem jq (s : ByteArray) : (ct s).size ≤ s.size + 1:=by
 unfold ct
 split
 ·exact Nat.le_add_left 1 _
 ·omega
theorem My (s : ByteArray) (w : World) :
  Calls Tryz.prog 156 #[.string s] w fun e w' => e = .returned (.string (ct s)) ∧ w' = w:=by
 cases h : s.toList.isEmpty
 all_goals
  go_enter Tryz.func156,Tryz.ntmps156
  go_wp2;go_ret
  exact ⟨by simp [ct,h],rfl⟩
theorem OY (p r : ByteArray) (w : World) (hp : p.size ≤ 1073741824) (hr : r.size ≤ 1073741824) :
  Calls Tryz.prog 155 #[.agg #[.string p,.string r]] w fun e w' => e = .returned (.bool (bH p 8 && bH r 8)) ∧ Below w.heap.size w w':=by
 have hb0 : Below w.heap.size w (w.alloc (aX p r)):=(Below.refl _ _).alloc (Nat.le_refl _) _
 have hc1 : (w.alloc (aX p r)).cell? ⟨w.heap.size,1,none⟩ = some (.string r):=by
  rw [World.cell?_alloc_at _ _ _ _ rfl]; rfl
 go_enter Tryz.func155,Tryz.ntmps155
 go_wp2_with fail;refine (kp p 8 _ hp ae).mono ?_;rintro e w1 ⟨rfl,hb1⟩
 cases h1 : bH p 8
 ·go_wp2;go_ret
  exact ⟨by rw [h1]; rfl,hb0.trans (hb1.mono ar)⟩
 ·have hc2 : w1.cell? ⟨w.heap.size,1,none⟩ = some (.string r):=(hb1.cell ar).trans hc1;go_wp2_with fail;refine (kp r 8 _ hr ae).mono ?_;rintro e w2 ⟨rfl,hb2⟩;go_wp2;go_ret
  exact ⟨by rw [h1]; rfl,(hb0.trans (hb1.mono ar)).trans (hb2.mono uC)⟩
def uj (p r : ByteArray) : Bool:=bH p 8 && bH r 8
def gm (p r : ByteArray) : ByteArray:=ct p ++ ⟨#[32,45,62,32]⟩ ++ ct r
def jF (p r : ByteArray) : ByteArray:=if uj p r = true then gm p r else ⟨#[]⟩
def Ic (p r : ByteArray) : Int:=if uj p r = true then 0 else 15
theorem N0 (p r : ByteArray) (w : World) (hp : p.size ≤ 1073741824) (hr : r.size ≤ 1073741824) :
  Calls Tryz.prog 93 #[.agg #[.string p,.string r]] w fun e w' => e = .returned (.tuple #[.string (jF p r),.int .i64 (Ic p r)]) ∧ Below w.heap.size w w':=by
 have hb0 : Below w.heap.size w (w.alloc (aX p r)):=(Below.refl _ _).alloc (Nat.le_refl _) _
 have hc0 : (w.alloc (aX p r)).cell? ⟨w.heap.size,0,none⟩ = some (.string p):=by
  rw [World.cell?_alloc_at _ _ _ _ rfl]; rfl
 have hc1 : (w.alloc (aX p r)).cell? ⟨w.heap.size,1,none⟩ = some (.string r):=by
  rw [World.cell?_alloc_at _ _ _ _ rfl]; rfl
 have HG:=hid (OY p r (w.alloc (aX p r)) hp hr)
 go_enter Tryz.func93,Tryz.ntmps93
 go_wp2_with fail;refine HG.out.mono ?_;rintro e w1 ⟨rfl,hb1⟩;have hd0 : w1.cell? ⟨w.heap.size,0,none⟩ = some (.string p):=(hb1.cell ar).trans hc0;have hd1 : w1.cell? ⟨w.heap.size,1,none⟩ = some (.string r):=(hb1.cell ar).trans hc1;have HB:=hid (hb0.trans (hb1.mono ar))
 cases h1 : uj p r
 ·rw [show (bH p 8 && bH r 8) = false from h1];go_wp2;go_ret2
  exact ⟨by simp [jF,Ic,h1],HB.out⟩
 ·rw [show (bH p 8 && bH r 8) = true from h1];clear hc0 hc1 hb0 hb1 HG;have h2:=jq p;have h3:=jq r
  have a1 : ∀ w,(Op.stringOp .add (ct p) ⟨#[32,45,62,32]⟩).run Tryz.prog w = .ok (.string (ct p ++ ⟨#[32,45,62,32]⟩)) w:=fun w => run_string_add_sum w _ _ (by simp only [ByteArray.size_mk',Array.size]; simp; omega)
  have a2 : ∀ w,(Op.stringOp .add (ct p ++ ⟨#[32,45,62,32]⟩) (ct r)).run Tryz.prog w = .ok (.string (gm p r)) w:=fun w => run_string_add_sum w _ _ (by rw [ByteArray.size_append]; simp only [ByteArray.size_mk',Array.size]; simp; omega)
  go_wp2
  go_quiet ((go_at_call 156; refine Calls.quiet_of_same (My _ _)))
  go_wp2;go_ret2
  exact ⟨by simp [jF,Ic,h1],below_drewN HB.out nq⟩
def rsV (s : ByteArray) : ByteArray:=if s.toList.isEmpty = true then ⟨#[]⟩ else if (s.toList == [45]) = true then ⟨#[]⟩ else s
def rsB (s : ByteArray) : Bool:=if s.toList.isEmpty = true then false else if (s.toList == [45]) = true then true else bH s 8
theorem pP (s : ByteArray) (w : World) (hs : s.size ≤ 1073741824) :
  Calls Tryz.prog 218 #[.string s] w fun e w' => e = .returned (.tuple #[.string (rsV s),.bool (rsB s)]) ∧ Below w.heap.size w w':=by
 cases h : s.toList.isEmpty
 ·cases h' : (s.toList == [45])
  ·go_enter Tryz.func218,Tryz.ntmps218
   go_wp2_with fail;refine (kp s 8 _ hs ae).mono ?_;rintro e w1 ⟨rfl,hb1⟩;go_wp2;go_ret2
   exact ⟨by simp [rsV,rsB,h,h'],hb1⟩
  ·go_enter Tryz.func218,Tryz.ntmps218
   go_wp2;go_ret2
   exact ⟨by simp [rsV,rsB,h,h'],Below.refl _ _⟩
 ·go_enter Tryz.func218,Tryz.ntmps218
  go_wp2;go_ret2
  exact ⟨by simp [rsV,rsB,h],Below.refl _ _⟩
abbrev fy : List UInt8:=[32,45,62,32]
def vW (s : ByteArray) : ByteArray:=⟨(Lib.cut s.data.toList fy).1.toArray⟩
def wq (s : ByteArray) : ByteArray:=⟨(Lib.cut s.data.toList fy).2.1.toArray⟩
def Ky (s : ByteArray) : Bool:=(Lib.cut s.data.toList fy).2.2
def rdB (s : ByteArray) : Bool:=Ky s && rsB (vW s) && rsB (wq s)
def rdP (s : ByteArray) : ByteArray:=if rdB s = true then rsV (vW s) else ⟨#[]⟩
def rdR (s : ByteArray) : ByteArray:=if rdB s = true then rsV (wq s) else ⟨#[]⟩
def rdE (s : ByteArray) : Int:=if rdB s = true then 0 else 15
theorem iK {a b : ByteArray} (h : a.data.toList = b.data.toList) : a = b:=by
 cases a; cases b; congr; exact Array.toList_inj.1 h
theorem eN (a : ByteArray) : a.size = a.data.toList.length:=Array.length_toList.symm
theorem cg (a : ByteArray) : a.toList = a.data.toList:=ByteArray.toList_eq a
theorem Ey (a b : ByteArray) : (a ++ b).data.toList = a.data.toList ++ b.data.toList:=by simp [ByteArray.data_append]
theorem gq (s : ByteArray) (most : Nat) : bH s most = true ↔ (∀ c ∈ s.data.toList,c = 119 ∨ c = 108) ∧ s.size ≤ most:=by
 rw [vZ]
 constructor
 ·intro ⟨h,hm⟩
  refine ⟨fun c hc => ?_,hm⟩
  obtain ⟨i,hi,rfl⟩:=List.getElem_of_mem hc
  have:=h i (by rw [eN]; exact hi)
  rw [jB,aD hi,Option.getD_some] at this
  simp only [isL,Bool.or_eq_true,decide_eq_true_eq] at this
  rcases this with h | h
  ·left; apply UInt8.toNat_inj.1; exact Int.ofNat_inj.1 h
  ·right; apply UInt8.toNat_inj.1; exact Int.ofNat_inj.1 h
 ·intro ⟨h,hm⟩
  refine ⟨fun i hi => ?_,hm⟩
  rw [eN] at hi;rw [jB,aD hi,Option.getD_some]
  rcases h _ (List.getElem_mem hi) with h | h <;> rw [h] <;> rfl
theorem DD (s : ByteArray) : (vW s).size ≤ s.size ∧ (wq s).size ≤ s.size:=by
 rw [eN,eN,eN]
 show (Lib.cut s.data.toList fy).1.length ≤ _ ∧ (Lib.cut s.data.toList fy).2.1.length ≤ _
 unfold Lib.cut
 split
 ·simp only [List.length_take,List.length_drop]; omega
 ·simp
theorem i7 (p : ByteArray) : (ct p).data.toList = if p.data.toList = [] then [45] else p.data.toList:=by
 unfold ct;rw [cg]
 by_cases h : p.data.toList = []
 ·simp [h]
 ·rw [if_neg h,if_neg nM]
theorem lK (p r : ByteArray) : (gm p r).data.toList = (ct p).data.toList ++ (fy ++ (ct r).data.toList):=by
 unfold gm;rw [Ey,Ey,List.append_assoc]
theorem DF {p : ByteArray} (h : bH p 8 = true) : ∀ c ∈ (ct p).data.toList,c ≠ 32:=by
 intro c hc;rw [i7] at hc
 split at hc
 ·simp at hc; subst hc; decide
 ·rcases ((gq p 8).1 h).1 c hc with rfl | rfl <;> decide
theorem Mw (l r : List UInt8) (h : ∀ c ∈ l,c ≠ 32) : Lib.cut (l ++ (fy ++ r)) fy = (l,r,true):=by
 have hi : Lib.index (l ++ (fy ++ r)) fy = (l.length : Int):=by
  refine Lib.index_first ar ?_ ?_
  ·simp [Lib.occAt]
  ·intro j hj
   cases ho : Lib.occAt (l ++ (fy ++ r)) fy j
   ·rfl
   ·have:=Lib.occAt_head (c:=32) (t:=[45,62,32]) rfl ho
    rw [List.getElem?_append_left hj,aD hj] at this;exact absurd (Option.some.inj this) (h _ (List.getElem_mem hj))
 unfold Lib.cut;rw [hi,if_pos ae]
 simp
theorem El {p r : ByteArray} (h : bH p 8 = true) : vW (gm p r) = ct p ∧ wq (gm p r) = ct r ∧ Ky (gm p r) = true:=by
 have:=Mw (ct p).data.toList (ct r).data.toList (DF h)
 rw [← lK] at this;refine ⟨iK ?_,iK ?_,?_⟩
 ·show (Lib.cut _ _).1 = _; rw [this]
 ·show (Lib.cut _ _).2.1 = _; rw [this]
 ·show (Lib.cut _ _).2.2 = _; rw [this]
theorem BP {p : ByteArray} (h : bH p 8 = true) : rsB (ct p) = true ∧ rsV (ct p) = p:=by
 have hm:=((gq p 8).1 h).1;unfold rsB rsV;rw [cg,i7]
 by_cases h0 : p.data.toList = []
 ·rw [if_pos h0];refine ⟨ar,?_⟩
  simp only [List.isEmpty_cons]
  exact iK (by simp [h0])
 ·rw [if_neg h0]
  have hs : ct p = p:=iK (by rw [i7,if_neg h0])
  have h1 : p.data.toList.isEmpty = false:=by simpa using h0
  have h2 : (p.data.toList == [45]) = false:=by
   rw [beq_eq_false_iff_ne];intro e
   have:=hm 45 (by rw [e]; simp)
   revert this; decide
  rw [h1,h2,hs];exact ⟨nM,ar⟩
theorem J4 {p r : ByteArray} (h : uj p r = true) : rdB (gm p r) = true ∧ rdP (gm p r) = p ∧ rdR (gm p r) = r ∧ rdE (gm p r) = 0:=by
 simp only [uj,Bool.and_eq_true] at h
 obtain ⟨c1,c2,c3⟩:=El (r:=r) h.1;obtain ⟨p1,p2⟩:=BP h.1;obtain ⟨r1,r2⟩:=BP h.2
 have hb : rdB (gm p r) = true:=by simp [rdB,c1,c2,c3,p1,r1]
 refine ⟨hb,?_,?_,?_⟩
 ·rw [rdP,if_pos hb,c1,p2]
 ·rw [rdR,if_pos hb,c2,r2]
 ·rw [rdE,if_pos hb]
theorem IV (s : ByteArray) (i j : Nat) : (s.extract i j).data.toList = (s.data.toList.drop i).take (j - i):=by
 rw [ByteArray.data_extract,Array.toList_extract,List.extract_eq_take_drop]
def cM {α : Type} (f : List α → α → Int) : List α → List α → Int
 | _,[] => 0
 | ah,x :: r => if f ah x ≠ 0 then f ah x else cM f (ah ++ [x]) r
def orE (a b : Int) : Int:=if a ≠ 0 then a else b
def bI {α : Type} (f : List α → α → Int) (most : Int) (xs : List α) : Int:=if most < xs.length then 20 else cM f [] xs
abbrev Sg:=ByteArray × ByteArray
abbrev Gl:=Int × Bool × Int
abbrev Ex:=ByteArray × Int
def iw (ah : List Sg) (x : Sg) : Bool:=ah.any fun y => (y.1.toList == x.1.toList) && (y.2.toList == x.2.toList)
def dF (ah : List Sg) (x : Sg) : Int :=
 if 8 < x.1.size then 13 else if bH x.1 8 = false then 15 else if 8 < x.2.size then 13 else if bH x.2 8 = false then 15 else if iw ah x = true then 16 else 0
def dJ (n x : Int) : Int:=if x < 0 ∨ n ≤ x then 30 else 0
def iz (x : Gl) : Int:=if isL x.1 = false then 15 else if fP x.2.2 x.1 = false then 17 else 0
def kU (least x : Int) : Int:=if x < least ∨ 64 < x then 17 else 0
def lC (s : ByteArray) : List Int:=au s.size ++ bE s
def bQ (x : Sg) : List Int:=lC x.1 ++ lC x.2
def sgn (c v : Int) : Int:=if c = 119 then (if v < 4294967296 then (if v < 2147483648 then v else v - 4294967296) else 9223372036854775807) else if v < 9223372036854775808 then v else v - 18446744073709551616
def dt (x : Gl) : List Int:=[x.1,if x.2.1 then 1 else 0] ++ au (fo (sgn x.1 x.2.2))
theorem FA (s : ByteArray) : (lC s).length = (au s.size).length + s.size:=by simp [lC,gP]
theorem eO (s : ByteArray) (n : Nat) (h : s.size ≤ n) : 1 ≤ (lC s).length ∧ (lC s).length ≤ 10 + n:=by
 have:=aC s.size
 rw [FA]; omega
theorem iO (x : Sg) (h1 : x.1.size ≤ 8) (h2 : x.2.size ≤ 8) : (bQ x).length ≤ 36:=by
 have a:=eO x.1 8 h1;have b:=eO x.2 8 h2
 simp only [bQ,List.length_append]; omega
theorem mF (x : Gl) : (dt x).length ≤ 12:=by
 have:=aC (fo (sgn x.1 x.2.2))
 simp only [dt,List.length_append,List.length_cons,List.length_nil]; omega
theorem eZ (s : ByteArray) (m n : Nat) (h : s.size ≤ m) (h' : s.size ≤ n) : bH s m = bH s n:=by
 cases hb : bH s n
 ·cases ha : bH s m
  ·rfl
  ·have:=((gq s m).1 ha).1
   rw [(gq s n).2 ⟨this,h'⟩] at hb; cases hb
 ·exact (gq s m).2 ⟨((gq s n).1 hb).1,h⟩
theorem fW {ah : List Sg} {x : Sg} (h : dF ah x = 0) : x.1.size ≤ 8 ∧ bH x.1 8 = true ∧ x.2.size ≤ 8 ∧ bH x.2 8 = true ∧ iw ah x = false:=by
 unfold dF at h
 split at h
 ·cases h
 ·split at h
  ·cases h
  ·split at h
   ·cases h
   ·split at h
    ·cases h
    ·split at h
     ·cases h
     ·refine ⟨ae,by simp_all,ae,by simp_all,by simp_all⟩
theorem Gs {ah : List Sg} {x : Sg} (h : iw ah x = true) : ∃ k y,ah[k]? = some y ∧ y.1.toList = x.1.toList ∧ y.2.toList = x.2.toList ∧ iw (ah.take k) x = false:=by
 induction ah with
 | nil => simp [iw] at h
 | cons a r ih =>
  by_cases ha : a.1.toList = x.1.toList ∧ a.2.toList = x.2.toList
  ·exact ⟨0,a,rfl,ha.1,ha.2,by simp [iw]⟩
  ·have hf : ((a.1.toList == x.1.toList) && (a.2.toList == x.2.toList)) = false:=by
    cases hb : ((a.1.toList == x.1.toList) && (a.2.toList == x.2.toList))
    ·rfl
    ·simp at hb; exact absurd hb ha
   have hr : iw r x = true:=by simpa [iw,hf] using h
   obtain ⟨k,y,h1,h2,h3,h4⟩:=ih hr;refine ⟨k + 1,y,tI,h2,h3,?_⟩
   simp only [iw,List.take_succ_cons,List.any_cons,hf,Bool.false_or]
   exact h4
def iW (s : ByteArray) : Bool:=(bE s).all (fun b => decide (33 ≤ b) && decide (b ≤ 126)) && !s.toList.isEmpty
def sGt (s nm : ByteArray) : Bool:=!Op.bytesLess s.toList nm.toList && !s.toList == nm.toList
def gA (ah : List Ex) (s : ByteArray) : Bool:=match ah.getLast? with | none => false | some y => !(sGt s y.1)
def fN (nf : Int) (ah : List Ex) (x : Ex) : Int :=
 if 32 < x.1.size then 13 else if iW x.1 = false then 23 else if gA ah x.1 = true then 18 else dJ nf x.2
def fO (x : Ex) : List Int:=lC x.1 ++ au x.2
def gy (w : World) (e : TypeId) (size B n cap : Nat) (xs : List Value) : Prop:=w.ownsRow 0 e size (.slice (some ⟨B,0,none⟩) n cap) n xs
theorem gy.of {w : World} {base : Nat} {e : TypeId} {size B n cap : Nat} {xs : List Value} (h : w.ownsRow base e size (.slice (some ⟨B,0,none⟩) n cap) n xs) : gy w e size B n cap xs:=by
 exact zS
theorem gy.block {w : World} {e : TypeId} {size B n cap : Nat} {xs : List Value} (h : gy w e size B n cap xs) : ∃ cur,w.heap[B]? = some (.cells cur e) ∧ n ≤ cap ∧ cap ≤ maxLen ∧ cur.size = cap * size ∧ cur.toList.take (n * size) = xs:=by
 rcases h.2 with ⟨h,_⟩ | ⟨g,cp,cur,h1,_,h3,h4,h5,h6,h7⟩
 ·cases h
 ·simp at h1
  obtain ⟨rfl,rfl⟩:=h1;exact ⟨cur,h3,h4,h5,h6,h7⟩
theorem gy.lt {w : World} {e : TypeId} {size B n cap : Nat} {xs : List Value} (h : gy w e size B n cap xs) : B < w.heap.size:=by
 exact zU
theorem aA {w w' : World} {base : Nat} {e : TypeId} {size : Nat} {v : Value} {n : Nat} {xs : List Value} (h : w.ownsRow base e size v n xs) (hk : ∀ B,v.ownBlock = some B → w'.heap[B]? = w.heap[B]?) : w'.ownsRow base e size v n xs:=by
 exact Fq
theorem gy.keep {w w' : World} {e : TypeId} {size B n cap : Nat} {xs : List Value} (h : gy w e size B n cap xs) (hk : w'.heap[B]? = w.heap[B]?) : gy w' e size B n cap xs :=
 aA h (fun b hb => by
  obtain rfl : B = b:=rL;exact hk)
theorem gy.kept {S : Nat → Prop} {w w' : World} {e : TypeId} {size B n cap : Nat} {xs : List Value} (h : gy w e size B n cap xs) (hk : aP S w w') (hs : ¬ S B) : gy w' e size B n cap xs:=h.keep (hk.block B h.lt hs)
theorem gy.cell {w : World} {e : TypeId} {size B n cap : Nat} {xs : List Value} (h : gy w e size B n cap xs) (j : Nat) (hj : j < n * size) : w.cell? ⟨B,j,none⟩ = xs[j]?:=by
 obtain ⟨cur,h1,h2,h3,h4,h5⟩:=h.block
 have hl : j < cur.size:=by rw [h4]; exact Nat.lt_of_lt_of_le hj (Nat.mul_le_mul_right _ h2)
 rw [← h5,List.getElem?_take_of_lt hj]
 simp only [World.cell?,h1]
 simp
theorem gw {P : Program} (w : World) {ops : Array Oper} {rest : List Oper} {o : Oper} {a : Act} {Q : Exit → Act → World → Prop} (hgd : o.guard = none)
  (s x : Operand) (t : TypeId) (ho : o.op = Op.call { callee:=Callee.builtin Builtin.append,args:=#[s,x],argTypes:=#[t,t] }) (e : TypeId) (i : TypeInfo) (z : Value) (size bytes : Nat)
  (h1 : P.underlying t = some (.slice e)) (h2 : P.info? e = some i) (h3 : i.zero = some z) (h4 : i.size = size) (h5 : i.bytes = bytes) (h6 : z.cells.size = size) (h7 : 0 < size)
  (v : Value) (n : Nat) (xs : List Value) (hs : a.eval s = v) (hown : w.ownsRow 0 e size v n xs) (ad : Addr) (m c : Nat) (news : List Value) (hx : a.eval x = .slice (some ad) m c) (hn : news.length = m * size)
  (hc : ∀ j u,news[j]? = some u → w.cell? (ad.add j) = some u) (hone : ∀ u ∈ news,u.oneCell' = true) (hm : 0 < m)
  (b1 : n + m ≤ maxLen) (b2 : (n + m) * bytes ≤ 140737488355328)
  (h : ∀ (B cap : Nat) (w' : World),gy w' e size B (n + m) cap (xs ++ news) → ((v = .slice (some ⟨B,0,none⟩) n cap ∧ aP (fun k => k = B) w w') ∨ (w.heap.size ≤ B ∧ aP (fun _ => False) w w')) → wpList P ops Q rest (a.put o.dst (.slice (some ⟨B,0,none⟩) (n + m) cap)) w') :
  wpList P ops Q (o :: rest) a w:=by
 have grow : ∀ (ao : Option Addr) (cap : Nat),v = .slice ao n cap → (ao = none → n = 0 ∧ cap = 0) → (∀ b,ao = some b → ∀ (j : Nat) (y : Value),xs[j]? = some y → w.cell? (b.add j) = some y) → cap < n + m → wpList P ops Q (o :: rest) a w:=by
  intro ao cap hv hnone holds hfull;refine wpList_append_grows w hgd s x t ho e i z size bytes h1 h2 h3 h4 h5 h6 h7 ao n cap xs (hs.trans hv) hnone hown.1 holds ad m c news hx hn hc hone hfull b1 b2 ?_;intro v' w' ho' hg'
  rcases ho'.2 with ⟨_,hz⟩ | ⟨g,cp,cur,rfl,hbase,h8⟩
  ·omega
  ·exact h g cp w' (gy.of ho') (.inr ⟨hbase,(aP.of_grown hg').mono (fun k hk => by cases hk)⟩)
 rcases hown.2 with ⟨rfl,rfl⟩ | ⟨g,cap,cur,rfl,_,hh,hnc,hcm,hsz,htk⟩
 ·exact grow none 0 rfl (fun _ => ⟨rfl,rfl⟩) (fun b hb => by cases hb) ae
 ·by_cases hroom : n + m ≤ cap
  ·refine wpList_append_fits w hgd s x t ho 0 e i size h1 h2 h4 g n cap xs hs hown ad m c news hx hn hc hone hroom ?_;intro w' ho' hg'
   exact h g cap w' ho' (.inl ⟨rfl,(aP.of_grown hg').mono (fun k hk => by simpa using hk)⟩)
  ·refine grow (some ⟨g,0,none⟩) cap rfl (fun hb => by cases hb) (fun b hb j y hy => ?_) ae
   simp at hb
   subst hb
   have hj : j < xs.length:=by
    rcases Nat.lt_or_ge j xs.length with h | h
    ·exact h
    ·simp [List.getElem?_eq_none h] at hy
   have hl:=hown.1;have hplain : (⟨g,0,none⟩ : Addr).add j = ⟨g,j,none⟩:=ic;rw [hplain,gy.cell hown j ae];exact hy
theorem Ef {P : Program} (w : World) {ops : Array Oper} {rest : List Oper} {o : Oper} {a : Act} {Q : Exit → Act → World → Prop} (hgd : o.guard = none)
  (s x : Operand) (t : TypeId) (ho : o.op = Op.call { callee:=Callee.builtin Builtin.append,args:=#[s,x],argTypes:=#[t,t] }) (e : TypeId) (i : TypeInfo) (z : Value) (size bytes : Nat)
  (h1 : P.underlying t = some (.slice e)) (h2 : P.info? e = some i) (h3 : i.zero = some z) (h4 : i.size = size) (h5 : i.bytes = bytes) (h6 : z.cells.size = size) (h7 : 0 < size)
  (g n cap : Nat) (xs : List Value) (hs : a.eval s = .slice (some ⟨g,0,none⟩) n cap) (hown : gy w e size g n cap xs) (ad : Addr) (m c : Nat) (news : List Value) (hx : a.eval x = .slice (some ad) m c) (hn : news.length = m * size)
  (hc : ∀ j u,news[j]? = some u → w.cell? (ad.add j) = some u) (hone : ∀ u ∈ news,u.oneCell' = true) (hm : 0 < m)
  (b1 : n + m ≤ maxLen) (b2 : (n + m) * bytes ≤ 140737488355328)
  (h : ∀ (B cap : Nat) (w' : World),gy w' e size B (n + m) cap (xs ++ news) → aP (fun k => k = g) w w' → (B = g ∨ w.heap.size ≤ B) → wpList P ops Q rest (a.put o.dst (.slice (some ⟨B,0,none⟩) (n + m) cap)) w') :
  wpList P ops Q (o :: rest) a w:=by
 refine gw w hgd s x t ho e i z size bytes h1 h2 h3 h4 h5 h6 h7 _ n xs hs hown ad m c news hx hn hc hone hm b1 b2 ?_
 rintro B cp w' hr (⟨hv,hk⟩ | ⟨hB,hk⟩)
 ·simp at hv
  obtain ⟨rfl,rfl⟩:=hv;exact h g cap w' hr hk (.inl rfl)
 ·exact h B cp w' hr (hk.mono (fun k hk => hk.elim)) (.inr hB)
def thr (e p : Int) : Ending:=.panicked [{ v:=.iface 142 (.agg #[.int .i64 e,.int .i64 p]),recovered:=false }]
theorem jh (e at_ : Int) (w : World) : Calls Tryz.prog 84 #[.bool true,.int .i64 e,.int .i64 at_] w fun e w' => e = .returned (.tuple #[]) ∧ w' = w:=by
 go_enter Tryz.func84,Tryz.ntmps84
 exact mE
theorem rB (x p : Int) (w : World) : Calls Tryz.prog 84 #[.bool false,.int .i64 x,.int .i64 p] w fun e w' => e = thr x p ∧ w' = w:=by
 go_enter Tryz.func84,Tryz.ntmps84
 go_wp2_with fail
 simp [bodyPost,thr]
def Buf (w : World) (g n cap : Nat) (xs : List Value) : Prop:=gy w 5 1 g n cap xs ∨ (cap = n ∧ n ≤ maxLen ∧ g < w.heap.size ∧ xs.length = n ∧ ∀ j u,xs[j]? = some u → w.cell? ⟨g,j,none⟩ = some u)
theorem Buf.lt {w : World} {g n cap : Nat} {xs : List Value} (h : Buf w g n cap xs) : g < w.heap.size:=by
 rcases h with h | h
 ·exact h.lt
 ·exact h.2.2.1
theorem Buf.kept {S : Nat → Prop} {w w' : World} {g n cap : Nat} {xs : List Value} (h : Buf w g n cap xs) (hk : aP S w w') (hs : ¬ S g) : Buf w' g n cap xs:=by
 rcases h with h | ⟨h1,h2,h3,h4,h5⟩
 ·exact .inl (h.kept hk hs)
 ·exact .inr ⟨h1,h2,Nat.lt_of_lt_of_le h3 hk.size,h4,fun j u hj => hk.cell (h5 j u hj) hs⟩
theorem JP {P : Program} (w : World) {ops : Array Oper} {rest : List Oper} {o : Oper} {a : Act} {Q : Exit → Act → World → Prop} (hgd : o.guard = none)
  (s x : Operand) (t : TypeId) (ho : o.op = Op.call { callee:=Callee.builtin Builtin.append,args:=#[s,x],argTypes:=#[t,t] }) (i : TypeInfo) (z : Value)
  (h1 : P.underlying t = some (.slice 5)) (h2 : P.info? 5 = some i) (h3 : i.zero = some z) (h4 : i.size = 1) (h5 : i.bytes = 1) (h6 : z.cells.size = 1)
  (g n cap : Nat) (xs : List Value) (hs : a.eval s = .slice (some ⟨g,0,none⟩) n cap) (hown : Buf w g n cap xs) (ad : Addr) (m c : Nat) (news : List Value) (hx : a.eval x = .slice (some ad) m c) (hn : news.length = m * 1)
  (hc : ∀ j u,news[j]? = some u → w.cell? (ad.add j) = some u) (hone : ∀ u ∈ news,u.oneCell' = true) (hm : 0 < m)
  (b1 : n + m ≤ maxLen) (b2 : (n + m) * 1 ≤ 140737488355328)
  (h : ∀ (B cap : Nat) (w' : World),gy w' 5 1 B (n + m) cap (xs ++ news) → aP (fun k => k = g) w w' → (B = g ∨ w.heap.size ≤ B) → wpList P ops Q rest (a.put o.dst (.slice (some ⟨B,0,none⟩) (n + m) cap)) w') :
  wpList P ops Q (o :: rest) a w:=by
 rcases hown with hr | ⟨rfl,_,_,hl,hcells⟩
 ·exact Ef w hgd s x t ho 5 i z 1 1 h1 h2 h3 h4 h5 h6 aq g n cap xs hs hr ad m c news hx hn hc hone hm b1 b2 h
 ·refine wpList_append_grows w hgd s x t ho 5 i z 1 1 h1 h2 h3 h4 h5 h6 aq (some ⟨g,0,none⟩) cap cap xs hs (fun hh => by cases hh) ae (fun b hb j u hj => ?_) ad m c news hx hn hc hone ae b1 b2 ?_
  ·simp at hb
   subst hb;have hplain : (⟨g,0,none⟩ : Addr).add j = ⟨g,j,none⟩:=ic;rw [hplain];exact hcells j u hj
  ·intro v' w' ho' hg'
   rcases ho'.2 with ⟨_,hz⟩ | ⟨B,cp,cur,rfl,hbase,h8⟩
   ·omega
   ·exact h B cp w' (gy.of ho') ((aP.of_grown hg').mono (fun k hk => by cases hk)) (.inr hbase)
structure Wr (w : World) (R g cap : Nat) (bs : List Int) : Prop where
 c0 : w.cell? ⟨R,0,none⟩ = some (.slice (some ⟨g,0,none⟩) bs.length cap)
 f0 : w.frozen? ⟨R,0,none⟩ = false
 row : Buf w g bs.length cap (bs.map (Value.int .u8))
 ne : g ≠ R
theorem Wr.lt {w : World} {R g cap : Nat} {bs : List Int} (h : Wr w R g cap bs) : R < w.heap.size:=block_lt_of_cell h.c0
theorem Wr.kept {S : Nat → Prop} {w w' : World} {R g cap : Nat} {bs : List Int} (h : Wr w R g cap bs) (hk : aP S w w') (hR : ¬ S R) (hg : ¬ S g) : Wr w' R g cap bs :=
 ⟨hk.cell h.c0 hR,(bt (hk.block R h.lt hR) 0).trans h.f0,h.row.kept hk hg,h.ne⟩
theorem Wr.later {w w' : World} {R g cap : Nat} {bs : List Int} (h : Wr w R g cap bs) (hb : Below w.heap.size w w') : Wr w' R g cap bs :=
 h.kept (S:=fun _ => False) ⟨hb.os,hb.tape,hb.output,hb.size,fun k hk _ => hb.block k hk⟩ id id
structure Stp (R g g' : Nat) (w w' : World) : Prop where
 k : aP (fun k => k = R ∨ k = g) w w'
 m : g' = g ∨ w.heap.size ≤ g'
theorem Stp.refl (R g : Nat) (w : World) : Stp R g g w w:=⟨aP.refl _ _,.inl rfl⟩
theorem Stp.trans {R g g' g'' : Nat} {w w1 w2 : World} (h : Stp R g g' w w1) (h' : Stp R g' g'' w1 w2) : Stp R g g'' w w2:=by
 refine ⟨h.k.then h'.k (fun k hk ht => ?_),?_⟩
 ·rcases ht with rfl | rfl
  ·exact .inl rfl
  ·exact o9
 ·exact uA
theorem Stp.of_below {R g : Nat} {w w' : World} (h : Below w.heap.size w w') : Stp R g g w w' :=
 ⟨⟨h.os,h.tape,h.output,h.size,fun k hk _ => h.block k hk⟩,.inl rfl⟩
theorem Stp.size {R g g' : Nat} {w w' : World} (h : Stp R g g' w w') : w.heap.size ≤ w'.heap.size:=h.k.size
theorem Stp.cell {R g g' : Nat} {w w' : World} (h : Stp R g g' w w') {b o : Nat} {v : Value} (hc : w.cell? ⟨b,o,none⟩ = some v) (h1 : b ≠ R) (h2 : b ≠ g) : w'.cell? ⟨b,o,none⟩ = some v:=h.k.cell hc (by simp [h1,h2])
theorem Wr.range {w : World} {R g cap : Nat} {bs : List Int} (h : Wr w R g cap bs) : bs.length ≤ maxLen:=by
 rcases h.row with hr | hr
 ·obtain ⟨cur,h1,h2,h3,_⟩:=hr.block;omega
 ·exact hr.2.1
theorem rV (R g cap : Nat) (bs : List Int) (a : Option Addr) (n c : Nat) (zs : List Int) (w : World) (h : Wr w R g cap bs) (hs : Seg w a n c zs) (hn : 0 < n) (hb : bs.length + n ≤ 1099511627776) :
  Calls Tryz.prog 324 #[.pointer (some ⟨R,0,none⟩),.slice a n c] w fun e w' => e = .returned (.tuple #[]) ∧ ∃ g' cap',Wr w' R g' cap' (bs ++ zs) ∧ Stp R g g' w w':=by
 have c0:=h.c0;have f0:=h.f0;have hlt:=h.lt;obtain ⟨i0,hi,hz0,hz1,hz2⟩:=info_parts Tryz.info5
 obtain ⟨ad,rfl⟩ : ∃ ad,a = some ad:=by
  rcases hs.2.2.2.2 with h0 | ⟨b,off,h,_⟩
  ·omega
  ·exact ⟨_,h⟩
 have HR:=hid h.row;have HNE:=hid h.ne;have HS:=hid hs;have hl:=hs.1;clear h hs
 go_enter Tryz.func324,Tryz.ntmps324
 go_wp2_with (at_builtin; (refine JP _ rfl (.tmp 8) (.tmp 9) 63 rfl i0 (.int .u8 0) Tryz.underlying63 hi hz0 hz1 hz2 rfl g bs.length cap _ rfl HR.out ad n c (zs.map (Value.int .u8)) rfl (by simp [hl]) (ko HS.out ad rfl) (mY _) hn bP ae ?_; intro B cap' w1 hrow hk hor; have HO:=hid hrow; have HK:=hid hk; have HOR:=hid hor; have d0:=hk.cell c0 (Ne.symm HNE.out); have e0:=(bt (hk.block R hlt (Ne.symm HNE.out)) 0).trans f0; clear hrow hk hor c0 f0))
 go_end0
 have hne : B ≠ R:=by
  rcases HOR.out with h1 | h1
  ·have:=HNE.out; omega
  ·omega
 refine ⟨rfl,B,cap',⟨?_,?_,?_,hne⟩,⟨?_,HOR.out⟩⟩
 ·have:=World.cell?_setCell_same w1 ⟨R,0,none⟩ (.slice (some ⟨B,0,none⟩) (bs.length + n) cap') d0
  simpa [hl] using this
 ·rw [World.frozen?_setCell]; exact e0
 ·have hk : (w1.setCell ⟨R,0,none⟩ (.slice (some ⟨B,0,none⟩) (bs.length + n) cap')).heap[B]? = w1.heap[B]?:=Below.heap_setCell _ _ _ _ (by simpa using hne)
  have:=HO.out.keep hk
  refine .inl ?_
  simpa [hl] using this
 ·exact (HK.out.mono (T:=fun k => k = R ∨ k = g) (fun k hk => .inr hk)).trans ⟨rfl,rfl,rfl,by simp [World.setCell],fun k hk hs => Below.heap_setCell _ _ _ _ (by simp at hs ⊢; omega)⟩
end Go.Proofs.YtheefojaplnnoaaGreatDoor

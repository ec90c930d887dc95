/-
  Texts Rb Rc.
-/
import Derived.Test.YtheefojaplnnoaaGreatDoorP00
import Derived.Test.YtheefojaplnnoaaGreatDoorP10
import Derived.Test.YtheefojaplnnoaaGreatDoorP11
import Derived.Test.YtheefojaplnnoaaGreatDoorP12
import Derived.Test.YtheefojaplnnoaaGreatDoorP34
set_option linter.unusedVariables false
set_option maxRecDepth 100000
set_option maxHeartbeats 16000000
namespace Go.Proofs.YtheefojaplnnoaaGreatDoor
open Go.RowKit
theorem aI {w w' : World} {base : Nat} {e : TypeId} {v : Value} {n : Nat} {xs : List Value} (h : w.ownsRow base e 1 v n xs) (hb : Below w.heap.size w w') : w'.ownsRow base e 1 v n xs:=by
 refine gF h fun B hB => hb.block B ?_
 rcases h.2 with ⟨rfl,_⟩ | ⟨g,cp,cur,rfl,hg,hh,_⟩
 ·simp [Value.ownBlock] at hB
 ·simp [Value.ownBlock] at hB; subst hB
  rcases Nat.lt_or_ge g w.heap.size with h | h
  ·exact h
  ·rw [Array.getElem?_eq_none h] at hh; cases hh
def CA : List aB → Int → aB × Bool
 | [],_ => (iI,false)
 | x :: r,c => if c = x.1 then (x,true) else CA r c
theorem oI : ∀ (l : List aB) (c : Int),gW l c = (rv (CA l c).1,(CA l c).2)
 | [],_ => rfl
 | x :: r,c => by
  unfold gW CA
  by_cases h : c = x.1
  ·rw [if_pos h,if_pos h]; rfl
  ·rw [if_neg h,if_neg h]; exact oI r c
theorem H6 : ((List.range 256).all fun (n : Nat) => decide (ofV (n : Int) = CA qH (n : Int))) = true:=nW
theorem MT (c : Int) (h0 : 0 ≤ c) (h1 : c ≤ 255) : ofV c = CA qH c:=by
 obtain ⟨n,rfl⟩:=Int.eq_ofNat_of_zero_le h0
 have:=List.all_eq_true.1 H6 n (List.mem_range.2 ae)
 exact of_decide_eq_true this
theorem ur (c : Int) (w : World) (h0 : 0 ≤ c) (h1 : c ≤ 255) : Calls Tryz.prog 163 #[.int .u8 c] w fun e w' => e = .returned (.tuple #[.agg (rv (ofV c).1),.bool (ofV c).2]) ∧ Below w.heap.size w w':=by
 refine (O9 c w).mono fun e w' h => ?_
 obtain ⟨he,hw⟩:=h;rw [oI,← MT c h0 h1] at he hw
 exact ⟨he,by rw [hw]; exact (Below.refl _ _).alloc (Nat.le_refl _) _⟩
theorem zC (c : Int) (w : World) (h0 : 0 ≤ c) (h1 : c ≤ 255) : Calls Tryz.prog 103 #[.int .u8 c] w fun e w' => e = .returned (.int .i8 (tkV c)) ∧ Below w.heap.size w w':=by
 have hof:=ur c w h0 h1;unfold tkV;generalize ofV c = V at *;obtain ⟨⟨rc,wd,t,pp,ps,pl⟩,fnd⟩:=V
 simp only [rv,cT] at hof ⊢
 have HO:=hid hof;clear hof
 cases fnd
 ·exact Ew
 ·exact Ew
def DA (wd : ByteArray) : Bool:=decide (wd = ⟨#[108,46,99,111,110,115,116]⟩)
theorem oD (ps : ByteArray) : (ps.toList == [108,46,99,111,110,115,116]) = DA ps:=by
 rw [ByteArray.toList_eq];unfold DA
 by_cases h : ps = ⟨#[108,46,99,111,110,115,116]⟩
 ·simp [h]
 ·rw [decide_eq_false h,beq_eq_false_iff_ne];intro e
  apply h
  cases ps with
  | mk d =>
   have e2 : d.toList = (#[108,46,99,111,110,115,116] : Array UInt8).toList:=e;rw [Array.toList_inj.1 e2]
theorem Mg : ((List.range 256).all fun (n : Nat) => decide ((ofV (n : Int)).1.2.2.1 = 8 → DA (ofV (n : Int)).1.2.1 = dS (ofV (n : Int)).1.2.2.2.2.1)) = true:=nW
theorem OD (c : Int) (h0 : 0 ≤ c) (h1 : c ≤ 255) : (ofV c).1.2.2.1 = 8 → DA (ofV c).1.2.1 = dS (ofV c).1.2.2.2.2.1:=by
 obtain ⟨n,rfl⟩:=Int.eq_ofNat_of_zero_le h0;exact of_decide_eq_true (List.all_eq_true.1 Mg n (List.mem_range.2 ae))
theorem qy {t : Int} {g : Bool} {a : Int} {l : List Int} (ht : t ≠ -1) (h1 : ¬ a < lo t g) (h2 : ¬ hi t g < a) (h3 : t ≠ 3) : chk t g a l = if l.length = 0 then 0 else 17:=by
 unfold chk; rw [if_neg ht,if_neg ae,if_neg h3]
theorem Ka {g : Bool} {l : List Int} : chk 3 g 0 l = if l.length < 1 ∨ 16 < l.length then 17 else if okL l then 0 else 17:=by
 unfold chk;have h1 : lo 3 g = 0:=rfl;have h2 : hi 3 g = 0:=rfl;rw [if_neg av,h1,h2,if_neg ae,if_pos rfl]
theorem kR {t : Int} {g : Bool} {a : Int} {l : List Int} (ht : t ≠ -1) (h : a < lo t g ∨ hi t g < a) : chk t g a l = 17:=by
 unfold chk; rw [if_neg ht,if_pos h]
theorem Nl (c a : Int) (la : Option Addr) (ln lc : Nat) (l : List Int) (w : World) (hl : fe w la ln lc l) (rc : Int) (wd pp ps : ByteArray) (pl : Bool)
  (hof : Calls Tryz.prog 163 #[.int .u8 c] (w.alloc (aH c a la ln lc)) fun e w' => e = .returned (.tuple #[.agg #[.int .u8 rc,.string wd,.int .i8 0,.string pp,.string ps,.bool pl],.bool true]) ∧ Below (w.alloc (aH c a la ln lc)).heap.size (w.alloc (aH c a la ln lc)) w') :
  Calls Tryz.prog 242 #[.agg #[.int .u8 c,.int .i64 a,.slice la ln lc]] w fun e w' => e = .returned (.int .i64 (chk 0 (dS ps) a l)) ∧ Below w.heap.size w w':=by
 have HO:=hid hof;have HL:=hid hl;have hln:=hl.2.2.1;have hlen:=hl.1;have hb0 : Below w.heap.size w (w.alloc (aH c a la ln lc)):=(Below.refl _ _).alloc (Nat.le_refl _) _;clear hl hof;have hlo : lo 0 (dS ps) = 0:=rfl;have hhi : hi 0 (dS ps) = 0:=rfl
 have HF:=hid (fun h => kR (a:=a) (l:=l) (g:=(dS ps)) (t:=0) av h)
 rw [hlo,hhi] at HF
 have HI:=hid (fun h1 h2 => qy (a:=a) (l:=l) (g:=(dS ps)) (t:=0) av h1 h2 av)
 rw [hlo,hhi,hlen] at HI;clear hlo hhi
 by_cases ha1 : a < 0
 ·have HV:=hid (HF.out (.inl ha1));exact IE
 by_cases ha2 : 0 < a
 ·have HV:=hid (HF.out (.inr ha2));exact IE
 have HV:=hid (HI.out ha1 ha2);clear HI HF
 by_cases hz : ln = 0
 ·have hz' : ((ln : Int) != 0) = false:=by simp [hz]
  have HZ:=hid hz;clear hz
  go_enter Tryz.func242,Tryz.ntmps242
  go_wp2_with fail;refine HO.out.mono ?_;rintro e w1 ⟨rfl,hb1⟩;have x1 : w1.cell? ⟨w.heap.size,1,none⟩ = some (.int .i64 a):=aY;have x2 : w1.cell? ⟨w.heap.size,2,none⟩ = some (.slice la ln lc):=aY;have hx:=block_lt_of_cell x1
  simp only at hx
  have B1:=hid (hb0.trans (hb1.mono aq));have B2:=hid (B1.out.alloc eN (fZ rc wd 0 pp ps pl));exact sB
 ·have hz' : ((ln : Int) != 0) = true:=aG
  go_enter Tryz.func242,Tryz.ntmps242
  go_wp2_with fail;refine HO.out.mono ?_;rintro e w1 ⟨rfl,hb1⟩;have x1 : w1.cell? ⟨w.heap.size,1,none⟩ = some (.int .i64 a):=aY;have x2 : w1.cell? ⟨w.heap.size,2,none⟩ = some (.slice la ln lc):=aY;have hx:=block_lt_of_cell x1
  simp only at hx
  have B1:=hid (hb0.trans (hb1.mono aq));have B2:=hid (B1.out.alloc eN (fZ rc wd 0 pp ps pl));exact uG
theorem LQ (c a : Int) (la : Option Addr) (ln lc : Nat) (l : List Int) (w : World) (hl : fe w la ln lc l) (rc : Int) (wd pp ps : ByteArray) (pl : Bool)
  (hof : Calls Tryz.prog 163 #[.int .u8 c] (w.alloc (aH c a la ln lc)) fun e w' => e = .returned (.tuple #[.agg #[.int .u8 rc,.string wd,.int .i8 9,.string pp,.string ps,.bool pl],.bool true]) ∧ Below (w.alloc (aH c a la ln lc)).heap.size (w.alloc (aH c a la ln lc)) w') :
  Calls Tryz.prog 242 #[.agg #[.int .u8 c,.int .i64 a,.slice la ln lc]] w fun e w' => e = .returned (.int .i64 (chk 9 (dS ps) a l)) ∧ Below w.heap.size w w':=by
 have HO:=hid hof;have HL:=hid hl;have hln:=hl.2.2.1;have hlen:=hl.1;have hb0 : Below w.heap.size w (w.alloc (aH c a la ln lc)):=(Below.refl _ _).alloc (Nat.le_refl _) _;clear hl hof;have hlo : lo 9 (dS ps) = 0:=rfl;have hhi : hi 9 (dS ps) = 4294967295:=rfl
 have HF:=hid (fun h => kR (a:=a) (l:=l) (g:=(dS ps)) (t:=9) av h)
 rw [hlo,hhi] at HF
 have HI:=hid (fun h1 h2 => qy (a:=a) (l:=l) (g:=(dS ps)) (t:=9) av h1 h2 av)
 rw [hlo,hhi,hlen] at HI;clear hlo hhi
 by_cases ha1 : a < 0
 ·have HV:=hid (HF.out (.inl ha1));exact Hd
 by_cases ha2 : 4294967295 < a
 ·have HV:=hid (HF.out (.inr ha2));exact Hd
 have HV:=hid (HI.out ha1 ha2);clear HI HF
 by_cases hz : ln = 0
 ·have hz' : ((ln : Int) != 0) = false:=by simp [hz]
  have HZ:=hid hz;clear hz
  go_enter Tryz.func242,Tryz.ntmps242
  go_wp2_with fail;refine HO.out.mono ?_;rintro e w1 ⟨rfl,hb1⟩;have x1 : w1.cell? ⟨w.heap.size,1,none⟩ = some (.int .i64 a):=aY;have x2 : w1.cell? ⟨w.heap.size,2,none⟩ = some (.slice la ln lc):=aY;have hx:=block_lt_of_cell x1
  simp only at hx
  have B1:=hid (hb0.trans (hb1.mono aq));have B2:=hid (B1.out.alloc eN (fZ rc wd 9 pp ps pl));exact sB
 ·have hz' : ((ln : Int) != 0) = true:=aG
  go_enter Tryz.func242,Tryz.ntmps242
  go_wp2_with fail;refine HO.out.mono ?_;rintro e w1 ⟨rfl,hb1⟩;have x1 : w1.cell? ⟨w.heap.size,1,none⟩ = some (.int .i64 a):=aY;have x2 : w1.cell? ⟨w.heap.size,2,none⟩ = some (.slice la ln lc):=aY;have hx:=block_lt_of_cell x1
  simp only at hx
  have B1:=hid (hb0.trans (hb1.mono aq));have B2:=hid (B1.out.alloc eN (fZ rc wd 9 pp ps pl));exact uG
theorem JG (c a : Int) (la : Option Addr) (ln lc : Nat) (l : List Int) (w : World) (hl : fe w la ln lc l) (rc : Int) (wd pp ps : ByteArray) (pl : Bool)
  (hof : Calls Tryz.prog 163 #[.int .u8 c] (w.alloc (aH c a la ln lc)) fun e w' => e = .returned (.tuple #[.agg #[.int .u8 rc,.string wd,.int .i8 8,.string pp,.string ps,.bool pl],.bool true]) ∧ Below (w.alloc (aH c a la ln lc)).heap.size (w.alloc (aH c a la ln lc)) w') (hg : DA wd = false) :
  Calls Tryz.prog 242 #[.agg #[.int .u8 c,.int .i64 a,.slice la ln lc]] w fun e w' => e = .returned (.int .i64 (chk 8 false a l)) ∧ Below w.heap.size w w':=by
 have HO:=hid hof;have HL:=hid hl;have hln:=hl.2.2.1;have hlen:=hl.1;have hb0 : Below w.heap.size w (w.alloc (aH c a la ln lc)):=(Below.refl _ _).alloc (Nat.le_refl _) _;clear hl hof;have hlc:=oD wd;rw [hg] at hlc;have hlo : lo 8 false = -2147483648:=rfl;have hhi : hi 8 false = 2147483647:=rfl
 have HF:=hid (fun h => kR (a:=a) (l:=l) (g:=false) (t:=8) av h)
 rw [hlo,hhi] at HF
 have HI:=hid (fun h1 h2 => qy (a:=a) (l:=l) (g:=false) (t:=8) av h1 h2 av)
 rw [hlo,hhi,hlen] at HI;clear hlo hhi
 by_cases ha1 : a < -2147483648
 ·exact EL
 by_cases ha2 : 2147483647 < a
 ·exact E0
 exact Hp
theorem JN (c a : Int) (la : Option Addr) (ln lc : Nat) (l : List Int) (w : World) (hl : fe w la ln lc l) (rc : Int) (wd pp ps : ByteArray) (pl : Bool)
  (hof : Calls Tryz.prog 163 #[.int .u8 c] (w.alloc (aH c a la ln lc)) fun e w' => e = .returned (.tuple #[.agg #[.int .u8 rc,.string wd,.int .i8 8,.string pp,.string ps,.bool pl],.bool true]) ∧ Below (w.alloc (aH c a la ln lc)).heap.size (w.alloc (aH c a la ln lc)) w') (hg : DA wd = true) :
  Calls Tryz.prog 242 #[.agg #[.int .u8 c,.int .i64 a,.slice la ln lc]] w fun e w' => e = .returned (.int .i64 (chk 8 true a l)) ∧ Below w.heap.size w w':=by
 have HO:=hid hof;have HL:=hid hl;have hln:=hl.2.2.1;have hlen:=hl.1;have hb0 : Below w.heap.size w (w.alloc (aH c a la ln lc)):=(Below.refl _ _).alloc (Nat.le_refl _) _;clear hl hof;have hlc:=oD wd;rw [hg] at hlc;have hlo : lo 8 true = -9223372036854775808:=rfl;have hhi : hi 8 true = 9223372036854775807:=rfl
 have HF:=hid (fun h => kR (a:=a) (l:=l) (g:=true) (t:=8) av h)
 rw [hlo,hhi] at HF
 have HI:=hid (fun h1 h2 => qy (a:=a) (l:=l) (g:=true) (t:=8) av h1 h2 av)
 rw [hlo,hhi,hlen] at HI;clear hlo hhi
 by_cases ha1 : a < -9223372036854775808
 ·exact EL
 by_cases ha2 : 9223372036854775807 < a
 ·exact E0
 exact Hp
theorem LJ (c a : Int) (la : Option Addr) (ln lc : Nat) (l : List Int) (w : World) (hl : fe w la ln lc l) (rc t : Int) (wd pp ps : ByteArray) (pl : Bool)
  (hof : Calls Tryz.prog 163 #[.int .u8 c] (w.alloc (aH c a la ln lc)) fun e w' => e = .returned (.tuple #[.agg #[.int .u8 rc,.string wd,.int .i8 t,.string pp,.string ps,.bool pl],.bool true]) ∧ Below (w.alloc (aH c a la ln lc)).heap.size (w.alloc (aH c a la ln lc)) w') (ht : t ≠ -1) (t0 : t ≠ 0) (t3 : t ≠ 3) (t8 : t ≠ 8) (t9 : t ≠ 9) :
  Calls Tryz.prog 242 #[.agg #[.int .u8 c,.int .i64 a,.slice la ln lc]] w fun e w' => e = .returned (.int .i64 (chk t (dS ps) a l)) ∧ Below w.heap.size w w':=by
 have HO:=hid hof;have HL:=hid hl;have hln:=hl.2.2.1;have hlen:=hl.1;have hb0 : Below w.heap.size w (w.alloc (aH c a la ln lc)):=(Below.refl _ _).alloc (Nat.le_refl _) _;clear hl hof
 have e0 : (t == 0) = false:=by simp [t0]
 have e3 : (t == 3) = false:=by simp [t3]
 have e8 : (t == 8) = false:=by simp [t8]
 have e9 : (t == 9) = false:=by simp [t9]
 have hlo : lo t (dS ps) = 0:=by unfold lo; rw [if_neg t8]
 have hhi : hi t (dS ps) = 2147483647:=by unfold hi; rw [if_neg ae,if_neg t9,if_neg t8]
 have HF:=hid (fun h => kR (a:=a) (l:=l) (g:=(dS ps)) ht h)
 rw [hlo,hhi] at HF
 have HI:=hid (fun h1 h2 => qy (a:=a) (l:=l) (g:=(dS ps)) ht h1 h2 t3)
 rw [hlo,hhi,hlen] at HI;clear hlo hhi
 by_cases ha1 : a < 0
 ·have HV:=hid (HF.out (.inl ha1));exact ID
 by_cases ha2 : 2147483647 < a
 ·have HV:=hid (HF.out (.inr ha2));exact ID
 have HV:=hid (HI.out ha1 ha2);clear HI HF
 by_cases hz : ln = 0
 ·have hz' : ((ln : Int) != 0) = false:=by simp [hz]
  have HZ:=hid hz;clear hz
  go_enter Tryz.func242,Tryz.ntmps242
  go_wp2_with fail;refine HO.out.mono ?_;rintro e w1 ⟨rfl,hb1⟩;have x1 : w1.cell? ⟨w.heap.size,1,none⟩ = some (.int .i64 a):=aY;have x2 : w1.cell? ⟨w.heap.size,2,none⟩ = some (.slice la ln lc):=aY;have hx:=block_lt_of_cell x1
  simp only at hx
  have B1:=hid (hb0.trans (hb1.mono aq));have B2:=hid (B1.out.alloc eN (fZ rc wd t pp ps pl));exact sB
 ·have hz' : ((ln : Int) != 0) = true:=aG
  go_enter Tryz.func242,Tryz.ntmps242
  go_wp2_with fail;refine HO.out.mono ?_;rintro e w1 ⟨rfl,hb1⟩;have x1 : w1.cell? ⟨w.heap.size,1,none⟩ = some (.int .i64 a):=aY;have x2 : w1.cell? ⟨w.heap.size,2,none⟩ = some (.slice la ln lc):=aY;have hx:=block_lt_of_cell x1
  simp only at hx
  have B1:=hid (hb0.trans (hb1.mono aq));have B2:=hid (B1.out.alloc eN (fZ rc wd t pp ps pl));exact uG
theorem Mi (c a : Int) (la : Option Addr) (ln lc : Nat) (l : List Int) (w : World) (hl : fe w la ln lc l) (rc : Int) (wd pp ps : ByteArray) (pl : Bool)
  (hof : Calls Tryz.prog 163 #[.int .u8 c] (w.alloc (aH c a la ln lc)) fun e w' => e = .returned (.tuple #[.agg #[.int .u8 rc,.string wd,.int .i8 3,.string pp,.string ps,.bool pl],.bool true]) ∧ Below (w.alloc (aH c a la ln lc)).heap.size (w.alloc (aH c a la ln lc)) w') :
  Calls Tryz.prog 242 #[.agg #[.int .u8 c,.int .i64 a,.slice la ln lc]] w fun e w' => e = .returned (.int .i64 (chk 3 (dS ps) a l)) ∧ Below w.heap.size w w':=by
 have HO:=hid hof;have HL:=hid hl;have hln:=hl.2.2.1;have hlen:=hl.1;have hb0 : Below w.heap.size w (w.alloc (aH c a la ln lc)):=(Below.refl _ _).alloc (Nat.le_refl _) _;clear hl hof;have hlo : lo 3 (dS ps) = 0:=rfl;have hhi : hi 3 (dS ps) = 0:=rfl
 have HF:=hid (fun h => kR (a:=a) (l:=l) (g:=(dS ps)) (t:=3) av h)
 rw [hlo,hhi] at HF;clear hlo hhi
 by_cases ha1 : a < 0
 ·have HV:=hid (HF.out (.inl ha1));exact FA
 by_cases ha2 : 0 < a
 ·have HV:=hid (HF.out (.inr ha2));exact FA
 obtain rfl : a = 0:=ae;have HV:=hid (Ka (g:=dS ps) (l:=l));rw [hlen] at HV;clear HF
 by_cases hl1 : (ln : Int) < 1
 ·have HV2:=hid (HV.out.trans (if_pos (.inl ae)));exact G9
 by_cases hl2 : (16 : Int) < (ln : Int)
 ·have HV2:=hid (HV.out.trans (if_pos (.inr ae)));exact G9
 have HV2:=hid (HV.out.trans (if_neg ae));clear HV
 go_enter Tryz.func242,Tryz.ntmps242
 go_wp2_with fail;refine HO.out.mono ?_;rintro e w1 ⟨rfl,hb1⟩;have x1 : w1.cell? ⟨w.heap.size,1,none⟩ = some (.int .i64 0):=aY;have x2 : w1.cell? ⟨w.heap.size,2,none⟩ = some (.slice la ln lc):=aY;have hx:=block_lt_of_cell x1
 simp only at hx
 have B1:=hid (hb0.trans (hb1.mono aq));have B2:=hid (B1.out.alloc eN (fZ rc wd 3 pp ps pl));clear hb1;go_wp2_with fail
 have y2 : (w1.alloc (fZ rc wd 3 pp ps pl)).cell? ⟨w.heap.size,2,none⟩ = some (.slice la ln lc):=by rw [World.cell?_alloc_past _ _ _ hx]; exact x2
 obtain ⟨W,hW⟩ : ∃ W,w1.alloc (fZ rc wd 3 pp ps pl) = W:=⟨_,rfl⟩;rw [hW] at B2 y2 ⊢;clear hW x1 x2 B1
 go_loop [7] (fun i => ∃ k : Nat,k ≤ ln ∧ i = .int .i64 k ∧ (okL l ↔ okL (l.drop k))) (fun i => ln - (intOf i).toNat)
 case atStart => exact ⟨0,Nat.zero_le _,rfl,aq⟩
 case round =>
  obtain ⟨k,hk,rfl,hok⟩:=hrel;have HK:=hid hok;clear hok
  by_cases hlt : k < ln
  ·rcases HL.out.2.2.2.2 with hz | ⟨b,off,rfl,hc⟩
   ·omega
   have hcell : W.cell? ⟨b,off + k,none⟩ = some (.int .i64 (l.getD k 0)):=(B2.out.cell (p:=⟨b,off + k,none⟩) (block_lt_of_cell (hc k hlt))).trans (hc k hlt);have hd:=wN l k ae;generalize l.getD k 0 = z at *;have HD:=hid hd;clear hd hc
   by_cases hz1 : z < 0
   ·exact Bh
   by_cases hz2 : 2147483647 < z
   ·exact Bh
   go_wp2_with fail
   exact ⟨⟨k + 1,ae,bB,by rw [HK.out,HD.out]; exact ⟨fun h => h.2,fun h => ⟨ae,h⟩⟩⟩,bD⟩
  ·go_wp2_with fail;go_ret
   exact ⟨by rw [HV2.out,if_pos z8]; rfl,B2.out⟩
theorem vL (c a : Int) (la : Option Addr) (ln lc : Nat) (l : List Int) (w : World) (h0 : 0 ≤ c) (h1 : c ≤ 255) (hl : fe w la ln lc l) :
  Calls Tryz.prog 242 #[iH c a (.slice la ln lc)] w fun e w' => e = .returned (.int .i64 (chk (tkV c) (lgV c) a l)) ∧ Below w.heap.size w w':=by
 have hof:=ur c (w.alloc (aH c a la ln lc)) h0 h1;have hne:=KJ c h0 h1;have hlc:=OD c h0 h1;unfold tkV lgV iH;generalize ofV c = V at *;obtain ⟨⟨rc,wd,t,pp,ps,pl⟩,fnd⟩:=V
 simp only [rv,cT] at hof hne hlc ⊢
 cases fnd
 ·have HO:=hid hof;have hb0 : Below w.heap.size w (w.alloc (aH c a la ln lc)):=(Below.refl _ _).alloc (Nat.le_refl _) _;clear hof hl
  go_enter Tryz.func242,Tryz.ntmps242
  go_wp2_with fail;refine HO.out.mono ?_;rintro e w1 ⟨rfl,hb1⟩;go_wp2;go_ret;refine ⟨?_,(hb0.trans (hb1.mono aq)).alloc qA _⟩
  rw [vD]; rfl
 simp only [if_true]
 by_cases t0 : t = 0
 ·subst t0; exact Nl c a la ln lc l w hl rc wd pp ps pl hof
 by_cases t3 : t = 3
 ·subst t3; exact Mi c a la ln lc l w hl rc wd pp ps pl hof
 by_cases t9 : t = 9
 ·subst t9; exact LQ c a la ln lc l w hl rc wd pp ps pl hof
 by_cases t8 : t = 8
 ·subst t8;have hg:=hlc rfl
  cases hb : dS ps
  ·exact JG c a la ln lc l w hl rc wd pp ps pl hof (hg.trans hb)
  ·exact JN c a la ln lc l w hl rc wd pp ps pl hof (hg.trans hb)
 ·exact LJ c a la ln lc l w hl rc t wd pp ps pl hof hne t0 t3 t8 t9
theorem qQ (v : Int) (w : World) (h0 : 0 ≤ v) (h1 : v < 18446744073709551616) :
  Calls Tryz.prog 244 #[.int .u64 v] w fun e w' => ∃ a c,e = .returned (.slice a (au v).length c) ∧ Seg w' a (au v).length c (au v) ∧ (a = none → c = 0) ∧ Below w.heap.size w w' :=
 (t7 v w h0 h1).mono fun e w' ⟨y,he,ho,hb⟩ => by
  obtain ⟨a,c,rfl,hs,hn⟩:=iz ho (by have:=ay v; omega) (fE v h0 h1)
  exact ⟨a,c,he,hs,hn,hb⟩
theorem Gb (v : Int) (w : World) (h0 : -9223372036854775808 ≤ v) (h1 : v < 9223372036854775808) :
  Calls Tryz.prog 212 #[.int .i64 v] w fun e w' => ∃ a c,e = .returned (.slice a (au (fo v)).length c) ∧ Seg w' a (au (fo v)).length c (au (fo v)) ∧ (a = none → c = 0) ∧ Below w.heap.size w w' :=
 (JD v w h0 h1).mono fun e w' ⟨y,he,ho,hb⟩ => by
  have hr:=kG v h0 h1
  obtain ⟨a,c,rfl,hs,hn⟩:=iz ho (by have:=ay (fo v); omega) (fE (fo v) hr.1 hr.2)
  exact ⟨a,c,he,hs,hn,hb⟩
theorem CX (c a : Int) (la : Option Addr) (ln lc : Nat) (l : List Int) (w : World) (h0 : 0 ≤ c) (h1 : c ≤ 255) (hl : fe w la ln lc l) (hx : chk (tkV c) (lgV c) a l = 0) :
  Calls Tryz.prog 213 #[iH c a (.slice la ln lc)] w fun e w' => ∃ v,e = .returned (.tuple #[v,.int .i64 0]) ∧ w'.ownsRow w.heap.size 5 1 v (jK c a l).length ((jK c a l).map (Value.int .u8)) ∧ Below w.heap.size w w':=by
 have hb0 : Below w.heap.size w (w.alloc (aH c a la ln lc)):=(Below.refl _ _).alloc (Nat.le_refl _) _;have hchk:=vL c a la ln lc l _ h0 h1 (hl.later hb0 (Nat.le_refl _));rw [hx] at hchk;have HC:=hid hchk;obtain ⟨k1,k2,k3,k4,k5⟩:=lQ hx;have lr:=mN (tkV c) (lgV c);have hr:=mW (tkV c) (lgV c)
 have HTk:=hid (fun W => zC c W h0 h1)
 unfold jK wh;generalize lgV c = g at *;generalize tkV c = t at *;clear hx hchk;have HL:=hid hl;have hln:=hl.2.2.1;have hlen:=hl.1;clear hl;unfold iH at *;obtain ⟨E,hE⟩ : ∃ E,c :: (if t = 0 then [] else if t = 8 then au (fo a) else if t = 3 then au l.length ++ dG l else au a) = E:=⟨_,rfl⟩;rw [hE];have HE:=hid hE;clear hE
 go_enter Tryz.func213,Tryz.ntmps213
 go_wp2_with fail;refine HC.out.mono ?_;rintro e w1 ⟨rfl,hb1⟩;have x0 : w1.cell? ⟨w.heap.size,0,none⟩ = some (.int .u8 c):=aY;have x1 : w1.cell? ⟨w.heap.size,1,none⟩ = some (.int .i64 a):=aY;have x2 : w1.cell? ⟨w.heap.size,2,none⟩ = some (.slice la ln lc):=aY;have hx:=block_lt_of_cell x0
 simp only at hx
 have B1:=hid (hb0.trans (hb1.mono aq));clear hb1 HC hb0;have b2 : Below w1.heap.size w1 (w1.alloc (bY c)):=(Below.refl _ _).alloc (Nat.le_refl _) _;have O2:=hid (Ct w1 c w1.heap.size (Nat.le_refl _));go_wp2_with fail;refine (HTk.out _).mono ?_;rintro e w3 ⟨rfl,hb3⟩;have b3:=bM b2 hb3
 have u1 : w3.cell? ⟨w.heap.size,1,none⟩ = some (.int .i64 a):=(b3.cell (by exact hx)).trans x1
 have u2 : w3.cell? ⟨w.heap.size,2,none⟩ = some (.slice la ln lc):=(b3.cell (by exact hx)).trans x2
 have O3:=hid (aI O2.out hb3);have B3:=hid b3
 have hw13 : w1.heap.size < w3.heap.size:=by have:=hb3.size; simp at this; omega
 clear hb3 b2 b3 x0 x1 x2 HTk O2
 by_cases t0 : t = 0
 ·subst t0;go_wp2_with fail;go_ret2;refine ⟨_,rfl,?_,bM B1.out B3.out⟩
  have hE0 : E = [c]:=by rw [← HE.out]; simp
  rw [hE0];exact iy O3.out B1.out.size
 have e0 : (t == 0) = false:=by simp [t0]
 by_cases t8 : t = 8
 ·subst t8
  have SV:=hid (fun W => Gb a W ae ae)
  have hul:=ay (fo a)
  have HE2:=hid (show E = [c] ++ au (fo a) by rw [← HE.out]; simp)
  clear HE HL;generalize au (fo a) = U at *;go_wp2_with fail;refine (SV.out _).mono ?_;rintro e w4 ⟨ua,uc,rfl,hs4,hn4,hb4⟩;have S4:=hid hs4;have N4:=hid hn4;have B4:=hid (bM B3.out hb4);have O4:=hid (aI O3.out hb4);clear hs4 hb4 SV hn4
  go_wp2_with (at_builtin; (refine iK _ rfl (.tmp 28) (.tmp 31) rfl w1.heap.size _ 1 [c] rfl O4.out _ _ _ U rfl S4.out N4.out ae B4.out.size ?_; intro v5 w5 hown5 hb5; have O5:=hid hown5; have B5:=hid (B4.out.trans hb5); clear hown5 hb5))
  exact Ei
 have e8 : (t == 8) = false:=by simp [t8]
 have hh:=hr.2.2 t8
 by_cases t3 : t = 3
 ·subst t3;obtain ⟨q1,q2,q3⟩:=k4 rfl
  have UV:=hid (fun W => qQ (ln : Int) W ae ae)
  have hul:=ay (ln : Int)
  have HE2:=hid (show E = ([c] ++ au (ln : Int)) ++ dG l by rw [← HE.out]; simp [hlen])
  have hw:=cg (ln : Int) ae ae;clear HE;generalize au (ln : Int) = U at *;go_wp2_with fail;refine (UV.out _).mono ?_;rintro e w4 ⟨ua,uc,rfl,hs4,hn4,hb4⟩;have S4:=hid hs4;have N4:=hid hn4;have B4:=hid (bM B3.out hb4);have O4:=hid (aI O3.out hb4)
  have v2 : w4.cell? ⟨w.heap.size,2,none⟩ = some (.slice la ln lc):=(hb4.cell (by exact (show w.heap.size < w3.heap.size by omega))).trans u2
  clear hs4 hb4 UV hn4
  go_wp2_with (at_builtin; (refine iK _ rfl (.tmp 35) (.tmp 40) rfl w1.heap.size _ 1 [c] rfl O4.out _ _ _ U rfl S4.out N4.out ae B4.out.size ?_; intro v5 w5 hown5 hb5; have O5:=hid hown5; have B5:=hid (B4.out.trans hb5); have V2:=hid ((hb5.cell (p:=⟨w.heap.size,2,none⟩) hx).trans v2); clear hown5 hb5))
  have HQ:=hid q3
  have O5':=hid (show w5.ownsRow w1.heap.size 5 1 v5 (([c] ++ U) ++ dG (l.take 0)).length ((([c] ++ U) ++ dG (l.take 0)).map (Value.int .u8)) by
   have h:=O5.out
   rw [show 1 + U.length = (([c] ++ U) ++ dG (l.take 0)).length by simp [dG]; omega] at h
   simpa [dG] using h)
  have hU : ([c] ++ U).length ≤ 11:=aG;generalize [c] ++ U = C at *;clear O5 O4 S4 u1 u2 v2
  go_loopw [5,6] (fun v i wr => ∃ k : Nat,k ≤ ln ∧ i = .int .i64 k ∧ wr.ownsRow w1.heap.size 5 1 v (C ++ dG (l.take k)).length ((C ++ dG (l.take k)).map (Value.int .u8)) ∧ Below w1.heap.size w1 wr ∧ wr.cell? ⟨w.heap.size,2,none⟩ = some (.slice la ln lc)) (fun _ i _ => ln - (intOf i).toNat)
  case atStart => exact ⟨0,Nat.zero_le _,rfl,O5'.out,B5.out,V2.out⟩
  case round =>
   obtain ⟨k,hk,rfl,hown,hb,hv2⟩:=hrel;have OW:=hid hown;have BR:=hid hb;clear hown hb O5' B5 V2
   by_cases hlt : k < ln
   ·have hgood:=(uw l).1 HQ.out
    rcases HL.out.2.2.2.2 with hz | ⟨b,off,rfl,hc⟩
    ·omega
    have hcell : wr.cell? ⟨b,off + k,none⟩ = some (.int .i64 (l.getD k 0)):=((bM B1.out BR.out).cell (p:=⟨b,off + k,none⟩) (block_lt_of_cell (hc k hlt))).trans (hc k hlt)
    have hz : 0 ≤ l.getD k 0 ∧ l.getD k 0 ≤ 2147483647:=by
     exact GD
    have HT:=hid (rJ l k ae);have hlab:=ml (l.take k);have hlt2 : (l.take k).length ≤ 16:=aG;have hlen2 : (C ++ dG (l.take k)).length ≤ 171:=fh;generalize l.getD k 0 = z at *
    have UV:=hid (fun W => qQ z W ae ae)
    have hul2:=ay z;have hw2:=cg z ae ae;clear hc hgood hlab;generalize au z = Z at *;go_wp2_with fail;refine (UV.out _).mono ?_;rintro e w6 ⟨ua6,uc6,rfl,hs6,hn6,hb6⟩;have S6:=hid hs6;have N6:=hid hn6;have B6:=hid (bM BR.out hb6);have O6:=hid (aI OW.out hb6);have hwr : w.heap.size < wr.heap.size:=block_lt_of_cell hv2;have V6:=hid ((hb6.cell (p:=⟨w.heap.size,2,none⟩) hwr).trans hv2);clear hs6 hb6 UV hn6
    go_wp2_with (at_builtin; (refine iK _ rfl (.tmp 49) (.tmp 56) rfl w1.heap.size _ _ (C ++ dG (l.take k)) rfl O6.out _ _ _ Z rfl S6.out N6.out ae B6.out.size ?_; intro v7 w7 hown7 hb7; have O7:=hid hown7; have B7:=hid (B6.out.trans hb7); have V7:=hid ((hb7.cell (p:=⟨w.heap.size,2,none⟩) hx).trans V6.out); clear hown7 hb7))
    refine ⟨⟨k + 1,ae,bB,?_,B7.out,V7.out⟩,bD⟩;exact Cc
   ·go_wp2_with fail;go_ret2;refine ⟨_,rfl,?_,bM B1.out BR.out⟩;have h:=iy OW.out B1.out.size;rw [List.take_of_length_le ae] at h;rw [HE2.out];exact h
 have e3 : (t == 3) = false:=by simp [t3]
 have UV:=hid (fun W => qQ a W ae ae)
 have hul:=ay a
 have HE2:=hid (show E = [c] ++ au a by rw [← HE.out,if_neg t0,if_neg t8,if_neg t3]; rfl)
 have ha0 : 0 ≤ a:=ae;have ha1 : a ≤ 4294967295:=ae;clear HE HL;generalize au a = U at *;go_wp2_with fail;refine (UV.out _).mono ?_;rintro e w4 ⟨ua,uc,rfl,hs4,hn4,hb4⟩;have S4:=hid hs4;have N4:=hid hn4;have B4:=hid (bM B3.out hb4);have O4:=hid (aI O3.out hb4);clear hs4 hb4 UV hn4
 go_wp2_with (at_builtin; (refine iK _ rfl (.tmp 18) (.tmp 22) rfl w1.heap.size _ 1 [c] rfl O4.out _ _ _ U rfl S4.out N4.out ae B4.out.size ?_; intro v5 w5 hown5 hb5; have O5:=hid hown5; have B5:=hid (B4.out.trans hb5); clear hown5 hb5))
 exact Ei
end Go.Proofs.YtheefojaplnnoaaGreatDoor

/-
  Texts Span Chk Enc Nz.
-/
import Derived.Below
import Derived.BigQuiet
import Derived.Deep.QuietTactic
import Derived.Deep.RegionWith
import Derived.KernelRfl
import Derived.RowKit
import Derived.Test.YtkdldbfbldkkcaaGreatDoorProg
import Derived.WalkKit
import Derived.WalkLawsBesides
import Derived.WalkSpells
import Derived.Test.YtkdldbfbldkkcaaGreatDoorM00
import Derived.Test.YtkdldbfbldkkcaaGreatDoorM01
import Derived.Test.YtkdldbfbldkkcaaGreatDoorM03
import Derived.Test.YtkdldbfbldkkcaaGreatDoorM05
set_option linter.unusedVariables false
set_option maxRecDepth 100000
set_option maxHeartbeats 16000000
namespace Go.Proofs.YtkdldbfbldkkcaaGreatDoor
open Go.RowKit
def jv (a b : Int) : Value:=.agg #[.int .i64 a,.int .i64 b]
def inB (a b v : Int) : Bool:=decide (a ≤ v ∧ v ≤ b)
theorem J5 {a b v : Int} (h1 : a ≤ v) (h2 : v ≤ b) : inB a b v = true:=by unfold inB; simp [h1,h2]
theorem Ez {a b v : Int} (h : v < a ∨ b < v) : inB a b v = false:=by unfold inB; simp; omega
theorem l9 (a b v : Int) (w : World) : Calls Tryz.prog 206 #[jv a b,.int .i64 v] w fun e w' => e = .returned (.bool (inB a b v)) ∧ Below w.heap.size w w':=by
 unfold jv
 by_cases h1 : a ≤ v
 ·by_cases h2 : v ≤ b
  ·have HR:=show Hid _ from J5 h1 h2;exact uA
  ·have HR:=show Hid _ from Ez (a:=a) (.inr (by omega : b < v))
   exact uA
 ·have HR:=show Hid _ from Ez (b:=b) (.inl (by omega : v < a))
  exact uA
theorem mO (w : World) : Calls Tryz.prog 208 #[] w fun e w' => e = .returned (jv 0 2147483647) ∧ Below w.heap.size w w':=by
 go_enter Tryz.func208,Tryz.ntmps208
 go_wp2
 refine bodyPost_ret (v:=.agg #[.int .i64 0,.int .i64 2147483647]) (by simp [results,Tryz.results208,go_sem]) rfl ⟨rfl,?_⟩
 exact (Below.refl _ _).alloc (Nat.le_refl _) _
def kQ (ps : ByteArray) : Bool:=decide (ps = ⟨#[108]⟩)
theorem yK (ps : ByteArray) : (ps.toList == [108]) = kQ ps:=by
 rw [ByteArray.toList_eq];unfold kQ
 by_cases h : ps = ⟨#[108]⟩
 ·simp [h]
 ·rw [decide_eq_false h,beq_eq_false_iff_ne];intro e
  apply h
  cases ps with
  | mk d =>
   have e2 : d.toList = (#[108] : Array UInt8).toList:=e;rw [Array.toList_inj.1 e2]
theorem nB (c t : Int) (wd pp ps : ByteArray) (pl : Bool) (w : World) :
  Calls Tryz.prog 205 #[.agg #[.int .u8 c,.string wd,.int .i8 t,.string pp,.string ps,.bool pl]] w fun e w' => e = .returned (jv (lo t (kQ ps)) (hi t (kQ ps))) ∧ Below w.heap.size w w':=by
 by_cases h0 : t = 0
 ·subst h0;exact Ek
 by_cases h3 : t = 3
 ·subst h3;exact Ek
 by_cases h9 : t = 9
 ·subst h9
  go_enter Tryz.func205,Tryz.ntmps205
  go_wp2;refine bodyPost_ret (v:=.agg #[.int .i64 0,.int .i64 4294967295]) uT rfl ⟨rfl,?_⟩;exact mA
 by_cases h8 : t = 8
 ·subst h8;have hl:=yK ps
  cases hb : kQ ps
  ·rw [hb] at hl
   go_enter Tryz.func205,Tryz.ntmps205
   go_wp2;refine bodyPost_ret (v:=.agg #[.int .i64 (-2147483648),.int .i64 2147483647]) uT rfl ⟨rfl,?_⟩;exact mA
  ·rw [hb] at hl
   go_enter Tryz.func205,Tryz.ntmps205
   go_wp2;refine bodyPost_ret (v:=.agg #[.int .i64 (-9223372036854775808),.int .i64 9223372036854775807]) uT rfl ⟨rfl,?_⟩;exact mA
 have e0 : (t == 0) = false:=by simp [h0]
 have e3 : (t == 3) = false:=by simp [h3]
 have e9 : (t == 9) = false:=by simp [h9]
 have e8 : (t == 8) = false:=by simp [h8]
 have HV:=show Hid (jv (lo t (kQ ps)) (hi t (kQ ps)) = jv 0 2147483647) by
  show jv (lo t (kQ ps)) (hi t (kQ ps)) = jv 0 2147483647
  unfold lo hi;rw [if_neg h8,if_neg ae,if_neg h9,if_neg h8]
 clear h0 h3 h9 h8
 go_enter Tryz.func205,Tryz.ntmps205
 go_wp2_with fail;refine (mO _).mono ?_;rintro e w1 ⟨rfl,hb⟩;unfold jv at *
 have c0 : w1.cell? ⟨w.heap.size + 1,0,none⟩ = some (.int .i64 0):=by rw [hb.cell au]; simp [go_sem]
 have c1 : w1.cell? ⟨w.heap.size + 1,1,none⟩ = some (.int .i64 0):=by rw [hb.cell au]; simp [go_sem]
 have f0 : w1.frozen? ⟨w.heap.size + 1,0,none⟩ = false:=by rw [hb.frozen au]; simp [go_sem]
 have f1 : w1.frozen? ⟨w.heap.size + 1,1,none⟩ = false:=by rw [hb.frozen au]; simp [go_sem]
 go_wp2
 refine bodyPost_ret (v:=.agg #[.int .i64 0,.int .i64 2147483647]) (by simp [results,Tryz.results205,go_sem,c0,c1]) rfl ⟨congrArg Ending.returned HV.out.symm,?_⟩
 exact ((((((Below.refl _ _).alloc (Nat.le_refl _) _).alloc au _).trans (hb.mono aI)).setCell au _).setCell au _)
theorem GA (c t : Int) (wd pp ps : ByteArray) (pl : Bool) (w : World) :
  Calls Tryz.prog 207 #[.agg #[.int .u8 c,.string wd,.int .i8 t,.string pp,.string ps,.bool pl]] w fun e w' => e = .returned (if t = 3 then jv 1 16 else jv 0 0) ∧ Below w.heap.size w w':=by
 by_cases h3 : t = 3
 ·subst h3;rw [if_pos rfl]
  go_enter Tryz.func207,Tryz.ntmps207
  go_wp2
  refine bodyPost_ret (v:=.agg #[.int .i64 1,.int .i64 16]) (by simp [results,Tryz.results207,go_sem]) rfl ⟨rfl,?_⟩
  exact mA
 ·rw [if_neg h3]
  have e3 : (t == 3) = false:=by simp [h3]
  clear h3
  go_enter Tryz.func207,Tryz.ntmps207
  go_wp2
  refine bodyPost_ret (v:=.agg #[.int .i64 0,.int .i64 0]) (by simp [results,Tryz.results207,go_sem]) rfl ⟨rfl,?_⟩
  exact mA
def tkV (c : Int) : Int:=if (ofV c).2 = true then (ofV c).1.2.2.1 else -1
def lgV (c : Int) : Bool:=kQ (ofV c).1.2.2.2.2.1
def jG (w : World) (a : Option Addr) (n cap : Nat) (l : List Int) : Prop :=
 l.length = n ∧ n ≤ cap ∧ n ≤ 1099511627776 ∧ (∀ z ∈ l,-9223372036854775808 ≤ z ∧ z ≤ 9223372036854775807) ∧
 (n = 0 ∨ ∃ b off,a = some ⟨b,off,none⟩ ∧ ∀ j,j < n → w.cell? ⟨b,off + j,none⟩ = some (.int .i64 (l.getD j 0)))
theorem jG.later {w w' : World} {a : Option Addr} {n cap : Nat} {l : List Int} {B : Nat} (h : jG w a n cap l) (hb : Below B w w') (hB : w.heap.size ≤ B) : jG w' a n cap l:=by
 exact yf
def kB (c a : Int) (s : Value) : Value:=.agg #[.int .u8 c,.int .i64 a,s]
theorem eA {X Y : Nat} {c a rc t : Int} {la : Option Addr} {ln lc : Nat} {wd pp ps : ByteArray} {pl : Bool} {w2 W W' : World} (hb : Below W.heap.size W W')
  (h : W.cell? ⟨X,0,none⟩ = some (.int .u8 c) ∧ W.cell? ⟨X,1,none⟩ = some (.int .i64 a) ∧ W.cell? ⟨X,2,none⟩ = some (.slice la ln lc) ∧ W.cell? ⟨Y,0,none⟩ = some (.int .u8 rc) ∧ W.cell? ⟨Y,1,none⟩ = some (.string wd) ∧ W.cell? ⟨Y,2,none⟩ = some (.int .i8 t) ∧ W.cell? ⟨Y,3,none⟩ = some (.string pp) ∧ W.cell? ⟨Y,4,none⟩ = some (.string ps) ∧ W.cell? ⟨Y,5,none⟩ = some (.bool pl) ∧ Below w2.heap.size w2 W) :
  W'.cell? ⟨X,0,none⟩ = some (.int .u8 c) ∧ W'.cell? ⟨X,1,none⟩ = some (.int .i64 a) ∧ W'.cell? ⟨X,2,none⟩ = some (.slice la ln lc) ∧ W'.cell? ⟨Y,0,none⟩ = some (.int .u8 rc) ∧ W'.cell? ⟨Y,1,none⟩ = some (.string wd) ∧ W'.cell? ⟨Y,2,none⟩ = some (.int .i8 t) ∧ W'.cell? ⟨Y,3,none⟩ = some (.string pp) ∧ W'.cell? ⟨Y,4,none⟩ = some (.string ps) ∧ W'.cell? ⟨Y,5,none⟩ = some (.bool pl) ∧ Below w2.heap.size w2 W':=by
 obtain ⟨h0,h1,h2,h3,h4,h5,h6,h7,h8,h9⟩:=h;have hX:=block_lt_of_cell h0;have hY:=block_lt_of_cell h3
 exact ⟨(hb.cell (by simpa using hX)).trans h0,(hb.cell (by simpa using hX)).trans h1,(hb.cell (by simpa using hX)).trans h2,(hb.cell mP).trans h3,(hb.cell mP).trans h4,
  (hb.cell mP).trans h5,(hb.cell mP).trans h6,(hb.cell mP).trans h7,(hb.cell mP).trans h8,h9.trans (hb.mono h9.size)⟩
theorem Es {g : Bool} {a : Int} {l : List Int} : chk (-1) g a l = 21:=by unfold chk; rw [if_pos rfl]
theorem Iu (l : List Int) (k : Nat) (hk : k < l.length) : okL (l.drop k) ↔ (0 ≤ l.getD k 0 ∧ l.getD k 0 ≤ 2147483647) ∧ okL (l.drop (k + 1)):=by
 rw [List.drop_eq_getElem_cons hk]
 simp [okL,hk]
theorem IW (l : List Int) (hr : ∀ z ∈ l,-9223372036854775808 ≤ z ∧ z ≤ 9223372036854775807) (j : Nat) : -9223372036854775808 ≤ l.getD j 0 ∧ l.getD j 0 ≤ 9223372036854775807:=by
 by_cases h : j < l.length
 ·simp only [List.getD_eq_getElem?_getD,ba h,Option.getD_some]; exact hr _ (List.getElem_mem h)
 ·simp only [List.getD_eq_getElem?_getD,List.getElem?_eq_none (by omega : l.length ≤ j),Option.getD_none]; omega
def cLo (t : Int) : Int:=if t = 3 then 1 else 0
def cHi (t : Int) : Int:=if t = 3 then 16 else 0
theorem H7 {t : Int} {g : Bool} {a : Int} {l : List Int} (ht : t ≠ -1) (h1 : inB (lo t g) (hi t g) a = true) (h2 : inB (cLo t) (cHi t) l.length = true) :
  chk t g a l = if okL l then 0 else 17:=by
 unfold inB cLo cHi at *;have h1:=of_decide_eq_true h1;have h2:=of_decide_eq_true h2;unfold chk;rw [if_neg ht,if_neg ae]
 by_cases h3 : t = 3
 ·rw [if_pos h3] at *;rw [if_pos h3] at h2;rw [if_neg ae]
 ·rw [if_neg h3] at *;rw [if_neg h3] at h2;have : l = []:=List.eq_nil_of_length_eq_zero ae;subst this;rfl
theorem BB {t : Int} {g : Bool} {a : Int} {l : List Int} (ht : t ≠ -1) (h : inB (lo t g) (hi t g) a = false ∨ inB (cLo t) (cHi t) l.length = false) : chk t g a l = 17:=by
 unfold inB cLo cHi at h;unfold chk;rw [if_neg ht]
 by_cases ha : a < lo t g ∨ hi t g < a
 ·rw [if_pos ha]
 rw [if_neg ha]
 have h : ¬ ((if t = 3 then 1 else 0 : Int) ≤ l.length ∧ (l.length : Int) ≤ (if t = 3 then 16 else 0 : Int)):=by
  rcases h with h | h
  ·exact absurd (of_decide_eq_false h) ae
  ·exact of_decide_eq_false h
 by_cases h3 : t = 3
 ·rw [if_pos h3] at h ⊢;rw [if_pos h3] at h;rw [if_pos ae]
 ·rw [if_neg h3] at h ⊢;rw [if_neg h3] at h;rw [if_neg ae]
theorem Nv (c : Int) (h0 : 0 ≤ c) (h1 : c ≤ 255) : ((ofV c).1.2.2.1 ≠ -1):=by
 obtain ⟨n,rfl⟩:=Int.eq_ofNat_of_zero_le h0
 have hall : ((List.range 256).all fun (n : Nat) => decide ((ofV (n : Int)).1.2.2.1 ≠ -1)) = true:=by decide +kernel
 exact of_decide_eq_true (List.all_eq_true.1 hall n (List.mem_range.2 ae))
theorem lD (c t : Int) (wd pp ps : ByteArray) (pl : Bool) (w : World) :
  Calls Tryz.prog 207 #[.agg #[.int .u8 c,.string wd,.int .i8 t,.string pp,.string ps,.bool pl]] w fun e w' => e = .returned (jv (cLo t) (cHi t)) ∧ Below w.heap.size w w':=by
 refine (GA c t wd pp ps pl w).mono fun e w' ⟨he,hb⟩ => ⟨?_,hb⟩
 rw [he];unfold cLo cHi
 by_cases h : t = 3
 ·rw [if_pos h,if_pos h,if_pos h]
 ·rw [if_neg h,if_neg h,if_neg h]
theorem Ar (c a : Int) (la : Option Addr) (ln lc : Nat) (l : List Int) (w : World) (hk : bf w) (h0 : 0 ≤ c) (h1 : c ≤ 255) (hl : jG w la ln lc l) :
  Calls Tryz.prog 203 #[kB c a (.slice la ln lc)] w fun e w' => e = .returned (.int .i64 (chk (tkV c) (lgV c) a l)) ∧ Below w.heap.size w w':=by
 have hof:=hid (fun W hW => of6 c W hW h0 h1)
 have hne:=Nv c h0 h1;unfold tkV lgV kB;generalize ofV c = V at *;obtain ⟨⟨rc,wd,t,pp,ps,pl⟩,fnd⟩:=V
 simp only [rv,Jy] at hof hne ⊢
 have HL:=hid hl;have hln:=hl.2.2.1;have hlen:=hl.1;clear hl;have hb0 : Below w.heap.size w (w.alloc (bG c a la ln lc)):=(Below.refl _ _).alloc (Nat.le_refl _) _;have HO:=hid (hof.out _ (hk.later hb0 hk.pos));clear hof
 cases fnd
 ·go_enter Tryz.func203,Tryz.ntmps203
  go_wp2_with fail;refine HO.out.mono ?_;rintro e w1 ⟨rfl,hb1⟩;go_wp2;go_ret;refine ⟨?_,?_⟩
  ·rw [Es]; rfl
  ·exact (hb0.trans (hb1.mono au)).alloc (by have:=hb1.size; simp at this; omega) _
 simp only [if_true]
 go_enter Tryz.func203,Tryz.ntmps203
 go_wp2_with fail;refine HO.out.mono ?_;rintro e w1 ⟨rfl,hb1⟩;have x0 : w1.cell? ⟨w.heap.size,0,none⟩ = some (.int .u8 c):=jT;have x1 : w1.cell? ⟨w.heap.size,1,none⟩ = some (.int .i64 a):=jT;have x2 : w1.cell? ⟨w.heap.size,2,none⟩ = some (.slice la ln lc):=jT;have hx:=block_lt_of_cell x0;have B1:=hid (hb0.trans (hb1.mono au));clear hb1;go_wp2_with fail;obtain ⟨w2,hw2⟩ : ∃ w2,w1.alloc (kK rc wd t pp ps pl) = w2:=⟨_,rfl⟩;rw [hw2]
 have B2:=hid (show Below w.heap.size w w2 by rw [← hw2]; exact B1.out.alloc (by have:=B1.out.size; omega) _)
 have y : w2.cell? ⟨w.heap.size,0,none⟩ = some (.int .u8 c) ∧ w2.cell? ⟨w.heap.size,1,none⟩ = some (.int .i64 a) ∧ w2.cell? ⟨w.heap.size,2,none⟩ = some (.slice la ln lc) ∧ w2.cell? ⟨w1.heap.size,0,none⟩ = some (.int .u8 rc) ∧ w2.cell? ⟨w1.heap.size,1,none⟩ = some (.string wd) ∧ w2.cell? ⟨w1.heap.size,2,none⟩ = some (.int .i8 t) ∧ w2.cell? ⟨w1.heap.size,3,none⟩ = some (.string pp) ∧ w2.cell? ⟨w1.heap.size,4,none⟩ = some (.string ps) ∧ w2.cell? ⟨w1.heap.size,5,none⟩ = some (.bool pl) ∧ Below w2.heap.size w2 w2:=by
  rw [← hw2];refine ⟨?_,?_,?_,?_,?_,?_,?_,?_,?_,(Below.refl _ _)⟩
  ·rw [World.cell?_alloc_past _ _ _ hx]; exact x0
  ·rw [World.cell?_alloc_past _ _ _ hx]; exact x1
  ·rw [World.cell?_alloc_past _ _ _ hx]; exact x2
  all_goals simp [go_sem]
 clear hw2 x0 x1 x2 B1 HO hb0;have yd:=y;obtain ⟨y0,y1,y2,y3,y4,y5,y6,y7,y8,_⟩:=y
 have hwrap : IntKind.i64.wrap (ln : Int) = ln:=by simp [IntKind.wrap,IntKind.bits,IntKind.signed]; omega
 by_cases hA : inB (lo t (kQ ps)) (hi t (kQ ps)) a = true
 ·by_cases hC : inB (cLo t) (cHi t) l.length = true
  ·have HV:=hid (H7 (a:=a) (l:=l) hne hA hC);rw [hlen] at hC
   go_region_held3 (fun W => W.cell? ⟨w.heap.size,0,none⟩ = some (.int .u8 c) ∧ W.cell? ⟨w.heap.size,1,none⟩ = some (.int .i64 a) ∧ W.cell? ⟨w.heap.size,2,none⟩ = some (.slice la ln lc) ∧ W.cell? ⟨w1.heap.size,0,none⟩ = some (.int .u8 rc) ∧ W.cell? ⟨w1.heap.size,1,none⟩ = some (.string wd) ∧ W.cell? ⟨w1.heap.size,2,none⟩ = some (.int .i8 t) ∧ W.cell? ⟨w1.heap.size,3,none⟩ = some (.string pp) ∧ W.cell? ⟨w1.heap.size,4,none⟩ = some (.string ps) ∧ W.cell? ⟨w1.heap.size,5,none⟩ = some (.bool pl) ∧ Below w2.heap.size w2 W)
    (first | assumption | (refine eA ?_ ?_ <;> assumption) | (exact ⟨y0,y1,y2,y3,y4,y5,y6,y7,y8,(Below.refl _ _).drew⟩))
    (first
     | (go_at_call 205; refine (nB rc t wd pp ps pl _).mono ?_; rintro e w' ⟨rfl,hbx⟩; have hS':=eA (X:=w.heap.size) (Y:=w1.heap.size) (w2:=w2) hbx bB; clear hbx)
     | (go_at_call 207; refine (lD rc t wd pp ps pl _).mono ?_; rintro e w' ⟨rfl,hbx⟩; have hS':=eA (X:=w.heap.size) (Y:=w1.heap.size) (w2:=w2) hbx bB; clear hbx)
     | (go_at_call 206; refine (l9 _ _ _ _).mono ?_; rintro e w' ⟨rfl,hbx⟩; have hS':=eA (X:=w.heap.size) (Y:=w1.heap.size) (w2:=w2) hbx bB; clear hbx))
   have B3:=hid (B2.out.trans (hS'.2.2.2.2.2.2.2.2.2.mono B2.out.size));have z2:=hS'.2.2.1;clear hS' yd y0 y1 y2 y3 y4 y5 y6 y7 y8 hC hA;go_wp2_with fail
   go_loopw [33] (fun i wr => ∃ k : Nat,k ≤ ln ∧ i = .int .i64 k ∧ Below w.heap.size w wr ∧ (okL l ↔ okL (l.drop k))) (fun i _ => ln - (intOf i).toNat)
   case atStart => exact ⟨0,Nat.zero_le _,rfl,B3.out,au⟩
   case round =>
    obtain ⟨k,hk,rfl,hb,hok⟩:=hrel;have HB:=hid hb;have HK:=hid hok;clear hb hok B3 z2
    by_cases hlt : k < ln
    ·rcases HL.out.2.2.2.2 with hz | ⟨b,off,rfl,hc⟩
     ·omega
     have hcell : wr.cell? ⟨b,off + k,none⟩ = some (.int .i64 (l.getD k 0)):=(HB.out.cell (p:=⟨b,off + k,none⟩) (block_lt_of_cell (hc k hlt))).trans (hc k hlt);have hd:=Iu l k ae;have hrz:=IW l HL.out.2.2.2.1 k;generalize l.getD k 0 = z at *;have HD:=hid hd;clear hd hc
     by_cases hin : inB 0 2147483647 z = true
     ·go_wp2_with fail;refine (mO _).mono ?_;rintro e w3 ⟨rfl,hb3⟩;go_wp2_with fail;refine (l9 _ _ _ _).mono ?_;rintro e w4 ⟨rfl,hb4⟩;go_wp2_with fail;have hz2:=of_decide_eq_true hin
      exact ⟨⟨k + 1,ae,bU,(HB.out.trans (hb3.mono HB.out.size)).trans (hb4.mono (Nat.le_trans HB.out.size hb3.size)),by rw [HK.out,HD.out]; simp [hz2]⟩,cC⟩
     ·have hin' : inB 0 2147483647 z = false:=by simpa using hin
      clear hin;go_wp2_with fail;refine (mO _).mono ?_;rintro e w3 ⟨rfl,hb3⟩;go_wp2_with fail;refine (l9 _ _ _ _).mono ?_;rintro e w4 ⟨rfl,hb4⟩;go_wp2_with fail;go_ret;have hz2:=of_decide_eq_false hin';refine ⟨?_,(HB.out.trans (hb3.mono HB.out.size)).trans (hb4.mono (Nat.le_trans HB.out.size hb3.size))⟩
      rw [HV.out,if_neg (by rw [HK.out,HD.out]; exact fun h => hz2 h.1)]
      rfl
    ·go_wp2_with fail;go_ret;refine ⟨?_,HB.out⟩
     rw [HV.out,if_pos (by rw [HK.out,List.drop_eq_nil_of_le ae]; trivial)]
     rfl
  ·have hC' : inB (cLo t) (cHi t) l.length = false:=by simpa using hC
   have HV:=hid (BB (a:=a) (l:=l) (g:=kQ ps) hne (.inr hC'));rw [hlen] at hC';clear hC
   go_region_held3 (fun W => W.cell? ⟨w.heap.size,0,none⟩ = some (.int .u8 c) ∧ W.cell? ⟨w.heap.size,1,none⟩ = some (.int .i64 a) ∧ W.cell? ⟨w.heap.size,2,none⟩ = some (.slice la ln lc) ∧ W.cell? ⟨w1.heap.size,0,none⟩ = some (.int .u8 rc) ∧ W.cell? ⟨w1.heap.size,1,none⟩ = some (.string wd) ∧ W.cell? ⟨w1.heap.size,2,none⟩ = some (.int .i8 t) ∧ W.cell? ⟨w1.heap.size,3,none⟩ = some (.string pp) ∧ W.cell? ⟨w1.heap.size,4,none⟩ = some (.string ps) ∧ W.cell? ⟨w1.heap.size,5,none⟩ = some (.bool pl) ∧ Below w2.heap.size w2 W)
    (first | assumption | (refine eA ?_ ?_ <;> assumption) | (exact ⟨y0,y1,y2,y3,y4,y5,y6,y7,y8,(Below.refl _ _).drew⟩))
    (first
     | (go_at_call 205; refine (nB rc t wd pp ps pl _).mono ?_; rintro e w' ⟨rfl,hbx⟩; have hS':=eA (X:=w.heap.size) (Y:=w1.heap.size) (w2:=w2) hbx bB; clear hbx)
     | (go_at_call 207; refine (lD rc t wd pp ps pl _).mono ?_; rintro e w' ⟨rfl,hbx⟩; have hS':=eA (X:=w.heap.size) (Y:=w1.heap.size) (w2:=w2) hbx bB; clear hbx)
     | (go_at_call 206; refine (l9 _ _ _ _).mono ?_; rintro e w' ⟨rfl,hbx⟩; have hS':=eA (X:=w.heap.size) (Y:=w1.heap.size) (w2:=w2) hbx bB; clear hbx))
   have B3:=hid (B2.out.trans (hS'.2.2.2.2.2.2.2.2.2.mono B2.out.size));exact AL
 ·have hA' : inB (lo t (kQ ps)) (hi t (kQ ps)) a = false:=by simpa using hA
  have HV:=hid (BB (a:=a) (l:=l) hne (.inl hA'));clear hA
  first | (go_region_with (first
   | (go_at_call 205; refine (nB rc t wd pp ps pl _).mono ?_; rintro e w3 ⟨rfl,hb3⟩; have hS3:=eA (X:=w.heap.size) (Y:=w1.heap.size) (w2:=w2) hb3 ⟨y0,y1,y2,y3,y4,y5,y6,y7,y8,(Below.refl _ _).drew⟩; clear hb3)
   | (go_at_call 206; refine (l9 _ _ _ _).mono ?_; rintro e w4 ⟨rfl,hb4⟩; have hS':=eA (X:=w.heap.size) (Y:=w1.heap.size) (w2:=w2) hb4 hS3; clear hb4))) | fail
  all_goals
   have B3:=hid (B2.out.trans (hS'.2.2.2.2.2.2.2.2.2.mono B2.out.size));exact AL
theorem JX (w : World) (c : Int) (base : Nat) (hb : base ≤ w.heap.size) : (w.alloc (fN c)).ownsRow base 5 1 (.slice (some ⟨w.heap.size,0,none⟩) 1 1) 1 ([c].map (Value.int .u8)):=by
 refine ⟨rfl,.inr ⟨w.heap.size,1,#[.int .u8 c],rfl,hb,(MapKept.heap_alloc w _).1,Nat.le_refl _,ax,rfl,rfl⟩⟩
theorem nQ : ∀ (l m : List Int),fI (l ++ m) = fI l ++ fI m
 | [],m => rfl
 | z :: l,m => by simp [fI,nQ l m,List.append_assoc]
theorem Da (l : List Int) (k : Nat) (hk : k < l.length) : fI (l.take (k + 1)) = fI (l.take k) ++ aw (l.getD k 0):=by
 rw [List.take_succ_eq_append_getElem hk,nQ]
 simp [fI,hk]
theorem AV (v : Int) (w : World) (h0 : 0 ≤ v) (h1 : v < 18446744073709551616) :
  Calls Tryz.prog 68 #[.int .u64 v] w fun e w' => ∃ B,e = .returned (.slice (some ⟨B,0,none⟩) (aw v).length (aw v).length) ∧ Seg w' (some ⟨B,0,none⟩) (aw v).length (aw v).length (aw v) ∧ Below w.heap.size w w' :=
 (uq v w h0 h1).mono fun e w' ⟨he,hs,hb,_⟩ => ⟨_,he,hs,hb⟩
theorem Nk (v : Int) (w : World) (h0 : -9223372036854775808 ≤ v) (h1 : v < 9223372036854775808) :
  Calls Tryz.prog 201 #[.int .i64 v] w fun e w' => ∃ B,e = .returned (.slice (some ⟨B,0,none⟩) (aw (fo v)).length (aw (fo v)).length) ∧ Seg w' (some ⟨B,0,none⟩) (aw (fo v)).length (aw (fo v)).length (aw (fo v)) ∧ Below w.heap.size w w' :=
 (Iy v w h0 h1).mono fun e w' ⟨he,hs,hb,_⟩ => ⟨_,he,hs,hb⟩
def lq (c a : Int) (l : List Int) : List Int:=c :: CP (tkV c) a l
theorem Hn {c : Int} (h : tkV c ≠ -1) : (ofV c).2 = true ∧ tkV c = (ofV c).1.2.2.1:=by
 unfold tkV at h ⊢
 cases hf : (ofV c).2
 ·rw [hf] at h; simp at h
 ·simp
theorem zD (c a : Int) (la : Option Addr) (ln lc : Nat) (l : List Int) (w : World) (hk : bf w) (h0 : 0 ≤ c) (h1 : c ≤ 255) (hl : jG w la ln lc l) (hx : chk (tkV c) (lgV c) a l ≠ 0) :
  Calls Tryz.prog 200 #[kB c a (.slice la ln lc)] w fun e w' => e = .returned (.tuple #[.slice none 0 0,.int .i64 (chk (tkV c) (lgV c) a l)]) ∧ Below w.heap.size w w':=by
 have hb0 : Below w.heap.size w (w.alloc (bG c a la ln lc)):=(Below.refl _ _).alloc (Nat.le_refl _) _;have HC:=hid (Ar c a la ln lc l _ (hk.later hb0 hk.pos) h0 h1 (hl.later hb0 (Nat.le_refl _)));clear hl hk;generalize chk (tkV c) (lgV c) a l = x at *
 have hx' : (x != 0) = true:=by simp [hx]
 unfold kB at *
 go_enter Tryz.func200,Tryz.ntmps200
 go_wp2_with fail;refine HC.out.mono ?_;rintro e w1 ⟨rfl,hb1⟩;go_wp2_with fail;go_ret2;exact ⟨rfl,hb0.trans (hb1.mono au)⟩
theorem eT {w w1 w2 : World} (h1 : Below w.heap.size w w1) (h2 : Below w1.heap.size w1 w2) : Below w.heap.size w w2:=h1.trans (h2.mono h1.size)
theorem Jw (c a : Int) (la : Option Addr) (ln lc : Nat) (l : List Int) (w : World) (hk : bf w) (h0 : 0 ≤ c) (h1 : c ≤ 255) (hl : jG w la ln lc l) (hx : chk (tkV c) (lgV c) a l = 0) :
  Calls Tryz.prog 200 #[kB c a (.slice la ln lc)] w fun e w' => ∃ v,e = .returned (.tuple #[v,.int .i64 0]) ∧ w'.ownsRow w.heap.size 5 1 v (lq c a l).length ((lq c a l).map (Value.int .u8)) ∧ Below w.heap.size w w':=by
 have hb0 : Below w.heap.size w (w.alloc (bG c a la ln lc)):=(Below.refl _ _).alloc (Nat.le_refl _) _;have hchk:=Ar c a la ln lc l _ (hk.later hb0 hk.pos) h0 h1 (hl.later hb0 (Nat.le_refl _));rw [hx] at hchk;have HC:=hid hchk;obtain ⟨k1,k2,k3,k4,k5⟩:=tK hx;obtain ⟨hf,ht⟩:=Hn k1;have lr:=qm (tkV c) (lgV c);have hr:=pN (tkV c) (lgV c)
 have HO:=hid (fun W hW => of6 c W hW h0 h1)
 have hzero : tkV c = 0 ∨ tkV c = 3 → hi (tkV c) (lgV c) = 0:=by intro h; unfold hi; rw [if_pos h]
 unfold lq CP;rw [ht] at k1 k2 k3 k4 k5 lr hr hzero ⊢;generalize lgV c = g at *;generalize ofV c = V at *;obtain ⟨⟨rc,wd,t,pp,ps,pl⟩,fnd⟩:=V
 simp only [rv,Jy] at HO hf k1 k2 k3 k4 k5 lr hr hzero ⊢
 subst hf;clear hx ht hchk;have HL:=hid hl;have hln:=hl.2.2.1;have hlen:=hl.1;have HK:=hid hk;clear hl hk;unfold kB at *;obtain ⟨E,hE⟩ : ∃ E,c :: (if t = 0 then [] else if t = 8 then aw (fo a) else if t = 3 then aw l.length ++ fI l else aw a) = E:=⟨_,rfl⟩;rw [hE];have HE:=hid hE;clear hE
 go_enter Tryz.func200,Tryz.ntmps200
 go_wp2_with fail;refine HC.out.mono ?_;rintro e w1 ⟨rfl,hb1⟩;have x0 : w1.cell? ⟨w.heap.size,0,none⟩ = some (.int .u8 c):=jT;have x1 : w1.cell? ⟨w.heap.size,1,none⟩ = some (.int .i64 a):=jT;have x2 : w1.cell? ⟨w.heap.size,2,none⟩ = some (.slice la ln lc):=jT;have hx:=block_lt_of_cell x0;have B1:=hid (hb0.trans (hb1.mono au));have HO1:=hid (HO.out w1 (HK.out.later B1.out HK.out.pos));clear hb1 HC HO hb0;go_wp2_with fail;refine HO1.out.mono ?_;rintro e w2 ⟨rfl,hb2⟩
 have u0 : w2.cell? ⟨w.heap.size,0,none⟩ = some (.int .u8 c):=(hb2.cell (by exact hx)).trans x0
 have u1 : w2.cell? ⟨w.heap.size,1,none⟩ = some (.int .i64 a):=(hb2.cell (by exact hx)).trans x1
 have u2 : w2.cell? ⟨w.heap.size,2,none⟩ = some (.slice la ln lc):=(hb2.cell (by exact hx)).trans x2
 have hx2:=block_lt_of_cell u0;have B2:=hid (eT B1.out hb2);clear hb2 HO1 B1 x0 x1 x2 hx;obtain ⟨w3,hw3⟩ : ∃ w3,w2.alloc (kK rc wd t pp ps pl) = w3:=⟨_,rfl⟩
 have z3:=hid (show w3.heap.size = w2.heap.size + 1 by rw [← hw3]; simp)
 have b3 : Below w2.heap.size w2 w3:=by rw [← hw3]; exact (Below.refl _ _).alloc (Nat.le_refl _) _
 have B3:=hid (eT B2.out b3);have O3:=hid (JX w3 c w3.heap.size (Nat.le_refl _));have b4 : Below w3.heap.size w3 (w3.alloc (fN c)):=(Below.refl _ _).alloc (Nat.le_refl _) _;have HW:=hid hw3;clear hw3 b3
 by_cases t0 : t = 0
 ·subst t0;go_wp2_with fail;rw [HW.out];go_ret2;refine ⟨_,rfl,?_,eT B3.out b4⟩;have h:=o9 O3.out B3.out.size;rw [z3.out] at h
  have hE0 : E = [c]:=by rw [← HE.out]; simp
  rw [hE0];exact h
 have e0 : (t == 0) = false:=by simp [t0]
 by_cases t8 : t = 8
 ·subst t8
  have SV:=hid (fun W => Nk a W ae ae)
  have hul:=aK (fo a)
  have HE2:=hid (show E = [c] ++ aw (fo a) by rw [← HE.out]; simp)
  clear HE HL;generalize aw (fo a) = U at *;go_wp2_with fail;rw [HW.out];refine (SV.out _).mono ?_;rintro e w4 ⟨B,rfl,hs4,hb4⟩;have S4:=hid hs4;have B4:=hid (b4.trans (hb4.mono b4.size))
  have O4:=hid (jL O3.out (fun B' hB => hb4.block B' xu))
  clear hs4 hb4 SV;rw [← z3.out]
  go_wp2_with (at_builtin; (refine oU _ rfl (.tmp 36) (.tmp 39) rfl w3.heap.size _ 1 [c] rfl O4.out _ _ _ U rfl S4.out (fun h => cj) ae B4.out.size ?_; intro v5 w5 hown5 hb5; have O5:=hid hown5; have B5:=hid (B4.out.trans hb5); clear hown5 hb5))
  exact Hq
 have e8 : (t == 8) = false:=by simp [t8]
 have hh:=hr.2.2 t8
 by_cases t3 : t = 3
 ·subst t3;obtain ⟨q1,q2,q3⟩:=k4 rfl
  have UV:=hid (fun W => AV (ln : Int) W ae ae)
  have hul:=aK (ln : Int)
  have HE2:=hid (show E = ([c] ++ aw (ln : Int)) ++ fI l by rw [← HE.out]; simp [hlen])
  have hw:=cL (ln : Int) ae ae;clear HE;generalize aw (ln : Int) = U at *;go_wp2_with fail;rw [HW.out];refine (UV.out _).mono ?_;rintro e w4 ⟨B,rfl,hs4,hb4⟩;have S4:=hid hs4;have B4:=hid (b4.trans (hb4.mono b4.size))
  have O4:=hid (jL O3.out (fun B' hB => hb4.block B' xu))
  clear hs4 hb4 UV;rw [← z3.out]
  go_wp2_with (at_builtin; (refine oU _ rfl (.tmp 43) (.tmp 48) rfl w3.heap.size _ 1 [c] rfl O4.out _ _ _ U rfl S4.out (fun h => cj) ae B4.out.size ?_; intro v5 w5 hown5 hb5; have O5:=hid hown5; have B5:=hid (B4.out.trans hb5); have f2 : w5.cell? ⟨w.heap.size,2,none⟩ = some (.slice la ln lc):=(B5.out.cell (by have:=z3.out; simp; omega)).trans ((by rw [← HW.out,World.cell?_alloc_past _ _ _ hx2]; exact u2)); clear hown5 hb5))
  have BW:=hid (eT B3.out B5.out);have HQ:=hid q3
  have O5':=hid (show w5.ownsRow w3.heap.size 5 1 v5 (([c] ++ U) ++ fI (l.take 0)).length ((([c] ++ U) ++ fI (l.take 0)).map (Value.int .u8)) by
   have h:=O5.out
   rw [show 1 + U.length = (([c] ++ U) ++ fI (l.take 0)).length by simp [fI]; omega] at h
   simpa [fI] using h)
  have hU : ([c] ++ U).length ≤ 11:=aI;generalize [c] ++ U = C at *;clear O5 O4 S4 u0 u1 u2 f2
  go_loopw [7,53] (fun v i wr => ∃ k : Nat,k ≤ ln ∧ i = .int .i64 k ∧ wr.ownsRow w3.heap.size 5 1 v (C ++ fI (l.take k)).length ((C ++ fI (l.take k)).map (Value.int .u8)) ∧ Below w3.heap.size w3 wr) (fun _ i _ => ln - (intOf i).toNat)
  case atStart => exact ⟨0,Nat.zero_le _,rfl,O5'.out,B5.out⟩
  case round =>
   obtain ⟨k,hk,rfl,hown,hb⟩:=hrel;have OW:=hid hown;have BR:=hid hb;clear hown hb O5' B5
   by_cases hlt : k < ln
   ·have hgood:=(Cq l).1 HQ.out
    rcases HL.out.2.2.2.2 with hz | ⟨b,off,rfl,hc⟩
    ·omega
    have hcell : wr.cell? ⟨b,off + k,none⟩ = some (.int .i64 (l.getD k 0)):=((eT B3.out BR.out).cell (p:=⟨b,off + k,none⟩) (block_lt_of_cell (hc k hlt))).trans (hc k hlt)
    have hz : 0 ≤ l.getD k 0 ∧ l.getD k 0 ≤ 2147483647:=by
     have : k < l.length:=ae
     simp only [List.getD_eq_getElem?_getD,ba this,Option.getD_some]; exact hgood _ (List.getElem_mem this)
    have HT:=hid (Da l k ae);have hlab:=pq (l.take k);have hlt2 : (l.take k).length ≤ 16:=aI
    have hlen2 : (C ++ fI (l.take k)).length ≤ 171:=by rw [List.length_append]; omega
    generalize l.getD k 0 = z at *
    have UV:=hid (fun W => AV z W ae ae)
    have hul2:=aK z;have hw2:=cL z ae ae;clear hc hgood hlab;generalize aw z = Z at *;go_wp2_with fail;refine (UV.out _).mono ?_;rintro e w6 ⟨B',rfl,hs6,hb6⟩;have S6:=hid hs6;have B6:=hid (BR.out.trans (hb6.mono BR.out.size))
    have O6:=hid (jL OW.out (fun B'' hB => hb6.block B'' (by
     rcases OW.out.2 with ⟨rfl,_⟩ | ⟨g,cp,cur,rfl,hg,hh,_⟩
     ·simp [Value.ownBlock] at hB
     ·simp [Value.ownBlock] at hB; subst hB
      rcases Nat.lt_or_ge g wr.heap.size with h | h
      ·exact h
      ·rw [Array.getElem?_eq_none h] at hh; cases hh)))
    clear hs6 hb6 UV
    go_wp2_with (at_builtin; (refine oU _ rfl (.tmp 57) (.tmp 60) rfl w3.heap.size _ _ (C ++ fI (l.take k)) rfl O6.out _ _ _ Z rfl S6.out (fun h => cj) ae B6.out.size ?_; intro v7 w7 hown7 hb7; have O7:=hid hown7; have B7:=hid (B6.out.trans hb7); clear hown7 hb7))
    refine ⟨⟨k + 1,ae,bU,?_,B7.out⟩,cC⟩;have h:=O7.out;rw [HT.out,← List.append_assoc,@List.length_append Int (C ++ fI (l.take k)) Z];exact h
   ·go_wp2_with fail;go_ret2;refine ⟨_,rfl,?_,eT B3.out BR.out⟩;have h:=o9 OW.out B3.out.size;rw [List.take_of_length_le ae] at h;rw [HE2.out];exact h
 have e3 : (t == 3) = false:=by simp [t3]
 have UV:=hid (fun W => AV a W ae ae)
 have hul:=aK a
 have HE2:=hid (show E = [c] ++ aw a by rw [← HE.out,if_neg t0,if_neg t8,if_neg t3]; rfl)
 have ha0 : 0 ≤ a:=ae;have ha1 : a ≤ 4294967295:=ae;clear HE HL;generalize aw a = U at *;go_wp2_with fail;rw [HW.out];refine (UV.out _).mono ?_;rintro e w4 ⟨B,rfl,hs4,hb4⟩;have S4:=hid hs4;have B4:=hid (b4.trans (hb4.mono b4.size))
 have O4:=hid (jL O3.out (fun B' hB => hb4.block B' xu))
 clear hs4 hb4 UV;rw [← z3.out]
 go_wp2_with (at_builtin; (refine oU _ rfl (.tmp 26) (.tmp 30) rfl w3.heap.size _ 1 [c] rfl O4.out _ _ _ U rfl S4.out (fun h => cj) ae B4.out.size ?_; intro v5 w5 hown5 hb5; have O5:=hid hown5; have B5:=hid (B4.out.trans hb5); clear hown5 hb5))
 exact Hq
def nz (n : Nat) (a : Option Addr) : Option Addr:=if n = 0 then none else a
theorem Ka {n : Nat} {a : Option Addr} {p : Addr} (h : nz n a = some p) : a = some p:=by
 unfold nz at h
 split at h
 ·cases h
 ·exact h
theorem KU {n : Nat} {a : Option Addr} {p : Addr} (hn : n ≠ 0) (h : a = some p) : nz n a = some p:=by
 unfold nz
 rw [if_neg hn]; exact h
end Go.Proofs.YtkdldbfbldkkcaaGreatDoor

/-
  Texts Chk Enc Wn.
-/
import Derived.Deep.RegionWith
import Derived.Test.YtheefojaplnnoaaGreatDoorC00
import Derived.Test.YtheefojaplnnoaaGreatDoorC08
import Derived.Test.YtheefojaplnnoaaGreatDoorC09
import Derived.Test.YtheefojaplnnoaaGreatDoorC10
set_option linter.unusedVariables false
set_option maxRecDepth 100000
set_option maxHeartbeats 16000000
namespace Go.Proofs.YtheefojaplnnoaaGreatDoor
open Go.RowKit
def tkV (c : Int) : Int:=if (ofV c).2 = true then (ofV c).1.2.2.1 else -1
def lgV (c : Int) : Bool:=lS (ofV c).1.2.2.2.2.1
def iI (w : World) (a : Option Addr) (n cap : Nat) (l : List Int) : Prop :=
 l.length = n ∧ n ≤ cap ∧ n ≤ 1099511627776 ∧ (∀ z ∈ l,-9223372036854775808 ≤ z ∧ z ≤ 9223372036854775807) ∧
 (n = 0 ∨ ∃ b off,a = some ⟨b,off,none⟩ ∧ ∀ j,j < n → w.cell? ⟨b,off + j,none⟩ = some (.int .i64 (l.getD j 0)))
theorem iI.later {w w' : World} {a : Option Addr} {n cap : Nat} {l : List Int} {B : Nat} (h : iI w a n cap l) (hb : Below B w w') (hB : w.heap.size ≤ B) : iI w' a n cap l:=by
 exact xB
def kN (c a : Int) (s : Value) : Value:=.agg #[.int .u8 c,.int .i64 a,s]
theorem eK {X Y : Nat} {c a rc t : Int} {la : Option Addr} {ln lc : Nat} {wd pp ps : ByteArray} {pl : Bool} {w2 W W' : World} (hb : Below W.heap.size W W')
  (h : W.cell? ⟨X,0,none⟩ = some (.int .u8 c) ∧ W.cell? ⟨X,1,none⟩ = some (.int .i64 a) ∧ W.cell? ⟨X,2,none⟩ = some (.slice la ln lc) ∧ W.cell? ⟨Y,0,none⟩ = some (.int .u8 rc) ∧ W.cell? ⟨Y,1,none⟩ = some (.string wd) ∧ W.cell? ⟨Y,2,none⟩ = some (.int .i8 t) ∧ W.cell? ⟨Y,3,none⟩ = some (.string pp) ∧ W.cell? ⟨Y,4,none⟩ = some (.string ps) ∧ W.cell? ⟨Y,5,none⟩ = some (.bool pl) ∧ Below w2.heap.size w2 W) :
  W'.cell? ⟨X,0,none⟩ = some (.int .u8 c) ∧ W'.cell? ⟨X,1,none⟩ = some (.int .i64 a) ∧ W'.cell? ⟨X,2,none⟩ = some (.slice la ln lc) ∧ W'.cell? ⟨Y,0,none⟩ = some (.int .u8 rc) ∧ W'.cell? ⟨Y,1,none⟩ = some (.string wd) ∧ W'.cell? ⟨Y,2,none⟩ = some (.int .i8 t) ∧ W'.cell? ⟨Y,3,none⟩ = some (.string pp) ∧ W'.cell? ⟨Y,4,none⟩ = some (.string ps) ∧ W'.cell? ⟨Y,5,none⟩ = some (.bool pl) ∧ Below w2.heap.size w2 W':=by
 obtain ⟨h0,h1,h2,h3,h4,h5,h6,h7,h8,h9⟩:=h;have hX:=block_lt_of_cell h0;have hY:=block_lt_of_cell h3
 exact ⟨(hb.cell (by simpa using hX)).trans h0,(hb.cell (by simpa using hX)).trans h1,(hb.cell (by simpa using hX)).trans h2,(hb.cell nI).trans h3,(hb.cell nI).trans h4,
  (hb.cell nI).trans h5,(hb.cell nI).trans h6,(hb.cell nI).trans h7,(hb.cell nI).trans h8,h9.trans (hb.mono h9.size)⟩
theorem G1 {g : Bool} {a : Int} {l : List Int} : chk (-1) g a l = 21:=by unfold chk; rw [if_pos rfl]
theorem IA (l : List Int) (k : Nat) (hk : k < l.length) : okL (l.drop k) ↔ (0 ≤ l.getD k 0 ∧ l.getD k 0 ≤ 2147483647) ∧ okL (l.drop (k + 1)):=by
 rw [List.drop_eq_getElem_cons hk]
 simp [okL,hk]
theorem Hx (l : List Int) (hr : ∀ z ∈ l,-9223372036854775808 ≤ z ∧ z ≤ 9223372036854775807) (j : Nat) : -9223372036854775808 ≤ l.getD j 0 ∧ l.getD j 0 ≤ 9223372036854775807:=by
 by_cases h : j < l.length
 ·simp only [List.getD_eq_getElem?_getD,aD h,Option.getD_some]; exact hr _ (List.getElem_mem h)
 ·simp only [List.getD_eq_getElem?_getD,List.getElem?_eq_none (by omega : l.length ≤ j),Option.getD_none]; omega
def cLo (t : Int) : Int:=if t = 3 then 1 else 0
def cHi (t : Int) : Int:=if t = 3 then 16 else 0
theorem Io {t : Int} {g : Bool} {a : Int} {l : List Int} (ht : t ≠ -1) (h1 : inB (lo t g) (hi t g) a = true) (h2 : inB (cLo t) (cHi t) l.length = true) :
  chk t g a l = if okL l then 0 else 17:=by
 unfold inB cLo cHi at *;have h1:=of_decide_eq_true h1;have h2:=of_decide_eq_true h2;unfold chk;rw [if_neg ht,if_neg ae]
 by_cases h3 : t = 3
 ·rw [if_pos h3] at *;rw [if_pos h3] at h2;rw [if_neg ae]
 ·rw [if_neg h3] at *;rw [if_neg h3] at h2;have : l = []:=List.eq_nil_of_length_eq_zero ae;subst this;rfl
theorem Be {t : Int} {g : Bool} {a : Int} {l : List Int} (ht : t ≠ -1) (h : inB (lo t g) (hi t g) a = false ∨ inB (cLo t) (cHi t) l.length = false) : chk t g a l = 17:=by
 unfold inB cLo cHi at h;unfold chk;rw [if_neg ht]
 by_cases ha : a < lo t g ∨ hi t g < a
 ·rw [if_pos ha]
 rw [if_neg ha]
 have h : ¬ ((if t = 3 then 1 else 0 : Int) ≤ l.length ∧ (l.length : Int) ≤ (if t = 3 then 16 else 0 : Int)):=by
  rcases h with h | h
  ·exact absurd (of_decide_eq_false h) ae
  ·exact of_decide_eq_false h
 by_cases h3 : t = 3
 ·rw [if_pos h3] at h ⊢;rw [if_pos h3] at h;rw [if_pos ae]
 ·rw [if_neg h3] at h ⊢;rw [if_neg h3] at h;rw [if_neg ae]
theorem Og (c : Int) (h0 : 0 ≤ c) (h1 : c ≤ 255) : ((ofV c).1.2.2.1 ≠ -1):=by
 obtain ⟨n,rfl⟩:=Int.eq_ofNat_of_zero_le h0
 have hall : ((List.range 256).all fun (n : Nat) => decide ((ofV (n : Int)).1.2.2.1 ≠ -1)) = true:=nr
 exact of_decide_eq_true (List.all_eq_true.1 hall n (List.mem_range.2 ae))
theorem m9 (c t : Int) (wd pp ps : ByteArray) (pl : Bool) (w : World) :
  Calls Tryz.prog 312 #[.agg #[.int .u8 c,.string wd,.int .i8 t,.string pp,.string ps,.bool pl]] w fun e w' => e = .returned (jA (cLo t) (cHi t)) ∧ Below w.heap.size w w':=by
 refine (FR c t wd pp ps pl w).mono fun e w' ⟨he,hb⟩ => ⟨?_,hb⟩
 rw [he];unfold cLo cHi
 by_cases h : t = 3
 ·rw [if_pos h,if_pos h,if_pos h]
 ·rw [if_neg h,if_neg h,if_neg h]
theorem AU (c a : Int) (la : Option Addr) (ln lc : Nat) (l : List Int) (w : World) (hk : aT w) (h0 : 0 ≤ c) (h1 : c ≤ 255) (hl : iI w la ln lc l) :
  Calls Tryz.prog 330 #[kN c a (.slice la ln lc)] w fun e w' => e = .returned (.int .i64 (chk (tkV c) (lgV c) a l)) ∧ Below w.heap.size w w':=by
 have hof:=hid (fun W hW => of6 c W hW h0 h1)
 have hne:=Og c h0 h1;unfold tkV lgV kN;generalize ofV c = V at *;obtain ⟨⟨rc,wd,t,pp,ps,pl⟩,fnd⟩:=V
 simp only [rv,lY] at hof hne ⊢
 have HL:=hid hl;have hln:=hl.2.2.1;have hlen:=hl.1;clear hl;have hb0 : Below w.heap.size w (w.alloc (aR c a la ln lc)):=(Below.refl _ _).alloc (Nat.le_refl _) _;have HO:=hid (hof.out _ (hk.later hb0 hk.pos));clear hof
 cases fnd
 ·go_enter Tryz.func330,Tryz.ntmps330
  go_wp2_with fail;refine HO.out.mono ?_;rintro e w1 ⟨rfl,hb1⟩;go_wp2;go_ret;refine ⟨?_,?_⟩
  ·rw [G1]; rfl
  ·exact (hb0.trans (hb1.mono ar)).alloc uC _
 simp only [if_true]
 go_enter Tryz.func330,Tryz.ntmps330
 go_wp2_with fail;refine HO.out.mono ?_;rintro e w1 ⟨rfl,hb1⟩;have x0 : w1.cell? ⟨w.heap.size,0,none⟩ = some (.int .u8 c):=iu;have x1 : w1.cell? ⟨w.heap.size,1,none⟩ = some (.int .i64 a):=iu;have x2 : w1.cell? ⟨w.heap.size,2,none⟩ = some (.slice la ln lc):=iu;have hx:=block_lt_of_cell x0;have B1:=hid (hb0.trans (hb1.mono ar));clear hb1;go_wp2_with fail;obtain ⟨w2,hw2⟩ : ∃ w2,w1.alloc (bB rc wd t pp ps pl) = w2:=⟨_,rfl⟩;rw [hw2]
 have B2:=hid (show Below w.heap.size w w2 by rw [← hw2]; exact B1.out.alloc (by have:=B1.out.size; omega) _)
 have y : w2.cell? ⟨w.heap.size,0,none⟩ = some (.int .u8 c) ∧ w2.cell? ⟨w.heap.size,1,none⟩ = some (.int .i64 a) ∧ w2.cell? ⟨w.heap.size,2,none⟩ = some (.slice la ln lc) ∧ w2.cell? ⟨w1.heap.size,0,none⟩ = some (.int .u8 rc) ∧ w2.cell? ⟨w1.heap.size,1,none⟩ = some (.string wd) ∧ w2.cell? ⟨w1.heap.size,2,none⟩ = some (.int .i8 t) ∧ w2.cell? ⟨w1.heap.size,3,none⟩ = some (.string pp) ∧ w2.cell? ⟨w1.heap.size,4,none⟩ = some (.string ps) ∧ w2.cell? ⟨w1.heap.size,5,none⟩ = some (.bool pl) ∧ Below w2.heap.size w2 w2:=by
  rw [← hw2];refine ⟨?_,?_,?_,?_,?_,?_,?_,?_,?_,(Below.refl _ _)⟩
  ·rw [World.cell?_alloc_past _ _ _ hx]; exact x0
  ·rw [World.cell?_alloc_past _ _ _ hx]; exact x1
  ·rw [World.cell?_alloc_past _ _ _ hx]; exact x2
  all_goals simp [go_sem]
 clear hw2 x0 x1 x2 B1 HO hb0;have yd:=y;obtain ⟨y0,y1,y2,y3,y4,y5,y6,y7,y8,_⟩:=y
 have hwrap : IntKind.i64.wrap (ln : Int) = ln:=by simp [IntKind.wrap,IntKind.bits,IntKind.signed]; omega
 by_cases hA : inB (lo t (lS ps)) (hi t (lS ps)) a = true
 ·by_cases hC : inB (cLo t) (cHi t) l.length = true
  ·have HV:=hid (Io (a:=a) (l:=l) hne hA hC);rw [hlen] at hC
   go_region_held3 (fun W => W.cell? ⟨w.heap.size,0,none⟩ = some (.int .u8 c) ∧ W.cell? ⟨w.heap.size,1,none⟩ = some (.int .i64 a) ∧ W.cell? ⟨w.heap.size,2,none⟩ = some (.slice la ln lc) ∧ W.cell? ⟨w1.heap.size,0,none⟩ = some (.int .u8 rc) ∧ W.cell? ⟨w1.heap.size,1,none⟩ = some (.string wd) ∧ W.cell? ⟨w1.heap.size,2,none⟩ = some (.int .i8 t) ∧ W.cell? ⟨w1.heap.size,3,none⟩ = some (.string pp) ∧ W.cell? ⟨w1.heap.size,4,none⟩ = some (.string ps) ∧ W.cell? ⟨w1.heap.size,5,none⟩ = some (.bool pl) ∧ Below w2.heap.size w2 W)
    (first | assumption | (refine eK ?_ ?_ <;> assumption) | (exact ⟨y0,y1,y2,y3,y4,y5,y6,y7,y8,(Below.refl _ _).drew⟩))
    (first
     | (go_at_call 314; refine (nA rc t wd pp ps pl _).mono ?_; rintro e w' ⟨rfl,hbx⟩; have hS':=eK (X:=w.heap.size) (Y:=w1.heap.size) (w2:=w2) hbx jV; clear hbx)
     | (go_at_call 312; refine (m9 rc t wd pp ps pl _).mono ?_; rintro e w' ⟨rfl,hbx⟩; have hS':=eK (X:=w.heap.size) (Y:=w1.heap.size) (w2:=w2) hbx jV; clear hbx)
     | (go_at_call 315; refine (mn _ _ _ _).mono ?_; rintro e w' ⟨rfl,hbx⟩; have hS':=eK (X:=w.heap.size) (Y:=w1.heap.size) (w2:=w2) hbx jV; clear hbx))
   have B3:=hid (B2.out.trans (hS'.2.2.2.2.2.2.2.2.2.mono B2.out.size));have z2:=hS'.2.2.1;clear hS' yd y0 y1 y2 y3 y4 y5 y6 y7 y8 hC hA;go_wp2_with fail
   go_loopw [33] (fun i wr => ∃ k : Nat,k ≤ ln ∧ i = .int .i64 k ∧ Below w.heap.size w wr ∧ (okL l ↔ okL (l.drop k))) (fun i _ => ln - (intOf i).toNat)
   case atStart => exact ⟨0,Nat.zero_le _,rfl,B3.out,ar⟩
   case round =>
    obtain ⟨k,hk,rfl,hb,hok⟩:=hrel;have HB:=hid hb;have HK:=hid hok;clear hb hok B3 z2
    by_cases hlt : k < ln
    ·rcases HL.out.2.2.2.2 with hz | ⟨b,off,rfl,hc⟩
     ·omega
     have hcell : wr.cell? ⟨b,off + k,none⟩ = some (.int .i64 (l.getD k 0)):=(HB.out.cell (p:=⟨b,off + k,none⟩) (block_lt_of_cell (hc k hlt))).trans (hc k hlt);have hd:=IA l k ae;have hrz:=Hx l HL.out.2.2.2.1 k;generalize l.getD k 0 = z at *;have HD:=hid hd;clear hd hc
     by_cases hin : inB 0 2147483647 z = true
     ·go_wp2_with fail;refine (nN _).mono ?_;rintro e w3 ⟨rfl,hb3⟩;go_wp2_with fail;refine (mn _ _ _ _).mono ?_;rintro e w4 ⟨rfl,hb4⟩;go_wp2_with fail;have hz2:=of_decide_eq_true hin
      exact ⟨⟨k + 1,ae,bZ,(HB.out.trans (hb3.mono HB.out.size)).trans (hb4.mono (Nat.le_trans HB.out.size hb3.size)),by rw [HK.out,HD.out]; simp [hz2]⟩,b9⟩
     ·have hin' : inB 0 2147483647 z = false:=by simpa using hin
      clear hin;go_wp2_with fail;refine (nN _).mono ?_;rintro e w3 ⟨rfl,hb3⟩;go_wp2_with fail;refine (mn _ _ _ _).mono ?_;rintro e w4 ⟨rfl,hb4⟩;go_wp2_with fail;go_ret;have hz2:=of_decide_eq_false hin';refine ⟨?_,(HB.out.trans (hb3.mono HB.out.size)).trans (hb4.mono (Nat.le_trans HB.out.size hb3.size))⟩
      rw [HV.out,if_neg (by rw [HK.out,HD.out]; exact fun h => hz2 h.1)]
      rfl
    ·go_wp2_with fail;go_ret;refine ⟨?_,HB.out⟩
     rw [HV.out,if_pos (by rw [HK.out,List.drop_eq_nil_of_le ae]; trivial)]
     rfl
  ·have hC' : inB (cLo t) (cHi t) l.length = false:=by simpa using hC
   have HV:=hid (Be (a:=a) (l:=l) (g:=lS ps) hne (.inr hC'));rw [hlen] at hC';clear hC
   go_region_held3 (fun W => W.cell? ⟨w.heap.size,0,none⟩ = some (.int .u8 c) ∧ W.cell? ⟨w.heap.size,1,none⟩ = some (.int .i64 a) ∧ W.cell? ⟨w.heap.size,2,none⟩ = some (.slice la ln lc) ∧ W.cell? ⟨w1.heap.size,0,none⟩ = some (.int .u8 rc) ∧ W.cell? ⟨w1.heap.size,1,none⟩ = some (.string wd) ∧ W.cell? ⟨w1.heap.size,2,none⟩ = some (.int .i8 t) ∧ W.cell? ⟨w1.heap.size,3,none⟩ = some (.string pp) ∧ W.cell? ⟨w1.heap.size,4,none⟩ = some (.string ps) ∧ W.cell? ⟨w1.heap.size,5,none⟩ = some (.bool pl) ∧ Below w2.heap.size w2 W)
    (first | assumption | (refine eK ?_ ?_ <;> assumption) | (exact ⟨y0,y1,y2,y3,y4,y5,y6,y7,y8,(Below.refl _ _).drew⟩))
    (first
     | (go_at_call 314; refine (nA rc t wd pp ps pl _).mono ?_; rintro e w' ⟨rfl,hbx⟩; have hS':=eK (X:=w.heap.size) (Y:=w1.heap.size) (w2:=w2) hbx jV; clear hbx)
     | (go_at_call 312; refine (m9 rc t wd pp ps pl _).mono ?_; rintro e w' ⟨rfl,hbx⟩; have hS':=eK (X:=w.heap.size) (Y:=w1.heap.size) (w2:=w2) hbx jV; clear hbx)
     | (go_at_call 315; refine (mn _ _ _ _).mono ?_; rintro e w' ⟨rfl,hbx⟩; have hS':=eK (X:=w.heap.size) (Y:=w1.heap.size) (w2:=w2) hbx jV; clear hbx))
   have B3:=hid (B2.out.trans (hS'.2.2.2.2.2.2.2.2.2.mono B2.out.size));exact BZ
 ·have hA' : inB (lo t (lS ps)) (hi t (lS ps)) a = false:=by simpa using hA
  have HV:=hid (Be (a:=a) (l:=l) hne (.inl hA'));clear hA
  first | (go_region_with (first
   | (go_at_call 314; refine (nA rc t wd pp ps pl _).mono ?_; rintro e w3 ⟨rfl,hb3⟩; have hS3:=eK (X:=w.heap.size) (Y:=w1.heap.size) (w2:=w2) hb3 ⟨y0,y1,y2,y3,y4,y5,y6,y7,y8,(Below.refl _ _).drew⟩; clear hb3)
   | (go_at_call 315; refine (mn _ _ _ _).mono ?_; rintro e w4 ⟨rfl,hb4⟩; have hS':=eK (X:=w.heap.size) (Y:=w1.heap.size) (w2:=w2) hb4 hS3; clear hb4))) | fail
  all_goals
   have B3:=hid (B2.out.trans (hS'.2.2.2.2.2.2.2.2.2.mono B2.out.size));exact BZ
theorem KF (w : World) (c : Int) (base : Nat) (hb : base ≤ w.heap.size) : (w.alloc (jb c)).ownsRow base 5 1 (.slice (some ⟨w.heap.size,0,none⟩) 1 1) 1 ([c].map (Value.int .u8)):=by
 refine ⟨rfl,.inr ⟨w.heap.size,1,#[.int .u8 c],rfl,hb,(MapKept.heap_alloc w _).1,Nat.le_refl _,aq,rfl,rfl⟩⟩
theorem oh : ∀ (l m : List Int),fX (l ++ m) = fX l ++ fX m
 | [],m => rfl
 | z :: l,m => by simp [fX,oh l m,List.append_assoc]
theorem Dc (l : List Int) (k : Nat) (hk : k < l.length) : fX (l.take (k + 1)) = fX (l.take k) ++ au (l.getD k 0):=by
 rw [List.take_succ_eq_append_getElem hk,oh]
 simp [fX,hk]
theorem Gu (v : Int) (w : World) (h0 : 0 ≤ v) (h1 : v < 18446744073709551616) :
  Calls Tryz.prog 325 #[.int .u64 v] w fun e w' => ∃ B,e = .returned (.slice (some ⟨B,0,none⟩) (au v).length (au v).length) ∧ Seg w' (some ⟨B,0,none⟩) (au v).length (au v).length (au v) ∧ Below w.heap.size w w' :=
 (sM v w h0 h1).mono fun e w' ⟨he,hs,hb,_⟩ => ⟨_,he,hs,hb⟩
theorem N9 (v : Int) (w : World) (h0 : -9223372036854775808 ≤ v) (h1 : v < 9223372036854775808) :
  Calls Tryz.prog 327 #[.int .i64 v] w fun e w' => ∃ B,e = .returned (.slice (some ⟨B,0,none⟩) (au (fo v)).length (au (fo v)).length) ∧ Seg w' (some ⟨B,0,none⟩) (au (fo v)).length (au (fo v)).length (au (fo v)) ∧ Below w.heap.size w w' :=
 (EO v w h0 h1).mono fun e w' ⟨he,hs,hb,_⟩ => ⟨_,he,hs,hb⟩
def lU (c a : Int) (l : List Int) : List Int:=c :: Dd (tkV c) a l
theorem FQ {c : Int} (h : tkV c ≠ -1) : (ofV c).2 = true ∧ tkV c = (ofV c).1.2.2.1:=by
 unfold tkV at h ⊢
 cases hf : (ofV c).2
 ·rw [hf] at h; simp at h
 ·simp
theorem xI (c a : Int) (la : Option Addr) (ln lc : Nat) (l : List Int) (w : World) (hk : aT w) (h0 : 0 ≤ c) (h1 : c ≤ 255) (hl : iI w la ln lc l) (hx : chk (tkV c) (lgV c) a l ≠ 0) :
  Calls Tryz.prog 326 #[kN c a (.slice la ln lc)] w fun e w' => e = .returned (.tuple #[.slice none 0 0,.int .i64 (chk (tkV c) (lgV c) a l)]) ∧ Below w.heap.size w w':=by
 have hb0 : Below w.heap.size w (w.alloc (aR c a la ln lc)):=(Below.refl _ _).alloc (Nat.le_refl _) _;have HC:=hid (AU c a la ln lc l _ (hk.later hb0 hk.pos) h0 h1 (hl.later hb0 (Nat.le_refl _)));clear hl hk;generalize chk (tkV c) (lgV c) a l = x at *;have hx' : (x != 0) = true:=cP;unfold kN at *
 go_enter Tryz.func326,Tryz.ntmps326
 go_wp2_with fail;refine HC.out.mono ?_;rintro e w1 ⟨rfl,hb1⟩;go_wp2_with fail;go_ret2;exact ⟨rfl,hb0.trans (hb1.mono ar)⟩
theorem eQ {w w1 w2 : World} (h1 : Below w.heap.size w w1) (h2 : Below w1.heap.size w1 w2) : Below w.heap.size w w2:=h1.trans (h2.mono h1.size)
theorem KZ (c a : Int) (la : Option Addr) (ln lc : Nat) (l : List Int) (w : World) (hk : aT w) (h0 : 0 ≤ c) (h1 : c ≤ 255) (hl : iI w la ln lc l) (hx : chk (tkV c) (lgV c) a l = 0) :
  Calls Tryz.prog 326 #[kN c a (.slice la ln lc)] w fun e w' => ∃ v,e = .returned (.tuple #[v,.int .i64 0]) ∧ w'.ownsRow w.heap.size 5 1 v (lU c a l).length ((lU c a l).map (Value.int .u8)) ∧ Below w.heap.size w w':=by
 have hb0 : Below w.heap.size w (w.alloc (aR c a la ln lc)):=(Below.refl _ _).alloc (Nat.le_refl _) _;have hchk:=AU c a la ln lc l _ (hk.later hb0 hk.pos) h0 h1 (hl.later hb0 (Nat.le_refl _));rw [hx] at hchk;have HC:=hid hchk;obtain ⟨k1,k2,k3,k4,k5⟩:=kg hx;obtain ⟨hf,ht⟩:=FQ k1;have lr:=wJ (tkV c) (lgV c);have hr:=xb (tkV c) (lgV c)
 have HO:=hid (fun W hW => of6 c W hW h0 h1)
 have hzero : tkV c = 0 ∨ tkV c = 3 → hi (tkV c) (lgV c) = 0:=by intro h; unfold hi; rw [if_pos h]
 unfold lU Dd;rw [ht] at k1 k2 k3 k4 k5 lr hr hzero ⊢;generalize lgV c = g at *;generalize ofV c = V at *;obtain ⟨⟨rc,wd,t,pp,ps,pl⟩,fnd⟩:=V
 simp only [rv,lY] at HO hf k1 k2 k3 k4 k5 lr hr hzero ⊢
 subst hf;clear hx ht hchk;have HL:=hid hl;have hln:=hl.2.2.1;have hlen:=hl.1;have HK:=hid hk;clear hl hk;unfold kN at *;obtain ⟨E,hE⟩ : ∃ E,c :: (if t = 0 then [] else if t = 8 then au (fo a) else if t = 3 then au l.length ++ fX l else au a) = E:=⟨_,rfl⟩;rw [hE];have HE:=hid hE;clear hE
 go_enter Tryz.func326,Tryz.ntmps326
 go_wp2_with fail;refine HC.out.mono ?_;rintro e w1 ⟨rfl,hb1⟩;have x0 : w1.cell? ⟨w.heap.size,0,none⟩ = some (.int .u8 c):=iu;have x1 : w1.cell? ⟨w.heap.size,1,none⟩ = some (.int .i64 a):=iu;have x2 : w1.cell? ⟨w.heap.size,2,none⟩ = some (.slice la ln lc):=iu;have hx:=block_lt_of_cell x0;have B1:=hid (hb0.trans (hb1.mono ar));have HO1:=hid (HO.out w1 (HK.out.later B1.out HK.out.pos));clear hb1 HC HO hb0;go_wp2_with fail;refine HO1.out.mono ?_;rintro e w2 ⟨rfl,hb2⟩
 have u0 : w2.cell? ⟨w.heap.size,0,none⟩ = some (.int .u8 c):=(hb2.cell (by exact hx)).trans x0
 have u1 : w2.cell? ⟨w.heap.size,1,none⟩ = some (.int .i64 a):=(hb2.cell (by exact hx)).trans x1
 have u2 : w2.cell? ⟨w.heap.size,2,none⟩ = some (.slice la ln lc):=(hb2.cell (by exact hx)).trans x2
 have hx2:=block_lt_of_cell u0;have B2:=hid (eQ B1.out hb2);clear hb2 HO1 B1 x0 x1 x2 hx;obtain ⟨w3,hw3⟩ : ∃ w3,w2.alloc (bB rc wd t pp ps pl) = w3:=⟨_,rfl⟩
 have z3:=hid (show w3.heap.size = w2.heap.size + 1 by rw [← hw3]; simp)
 have b3 : Below w2.heap.size w2 w3:=by rw [← hw3]; exact (Below.refl _ _).alloc (Nat.le_refl _) _
 have B3:=hid (eQ B2.out b3);have O3:=hid (KF w3 c w3.heap.size (Nat.le_refl _));have b4 : Below w3.heap.size w3 (w3.alloc (jb c)):=(Below.refl _ _).alloc (Nat.le_refl _) _;have HW:=hid hw3;clear hw3 b3
 by_cases t0 : t = 0
 ·subst t0;go_wp2_with fail;rw [HW.out];go_ret2;refine ⟨_,rfl,?_,eQ B3.out b4⟩;have h:=mX O3.out B3.out.size;rw [z3.out] at h
  have hE0 : E = [c]:=by rw [← HE.out]; simp
  rw [hE0];exact h
 have e0 : (t == 0) = false:=by simp [t0]
 by_cases t8 : t = 8
 ·subst t8
  have SV:=hid (fun W => N9 a W ae ae)
  have hul:=aC (fo a)
  have HE2:=hid (show E = [c] ++ au (fo a) by rw [← HE.out]; simp)
  clear HE HL;generalize au (fo a) = U at *;go_wp2_with fail;rw [HW.out];refine (SV.out _).mono ?_;rintro e w4 ⟨B,rfl,hs4,hb4⟩;have S4:=hid hs4;have B4:=hid (b4.trans (hb4.mono b4.size))
  have O4:=hid (gi O3.out (fun B' hB => hb4.block B' yi))
  clear hs4 hb4 SV;rw [← z3.out]
  go_wp2_with (at_builtin; (refine oP _ rfl (.tmp 36) (.tmp 39) rfl w3.heap.size _ 1 [c] rfl O4.out _ _ _ U rfl S4.out (fun h => bG) ae B4.out.size ?_; intro v5 w5 hown5 hb5; have O5:=hid hown5; have B5:=hid (B4.out.trans hb5); clear hown5 hb5))
  exact Hw
 have e8 : (t == 8) = false:=by simp [t8]
 have hh:=hr.2.2 t8
 by_cases t3 : t = 3
 ·subst t3;obtain ⟨q1,q2,q3⟩:=k4 rfl
  have UV:=hid (fun W => Gu (ln : Int) W ae ae)
  have hul:=aC (ln : Int)
  have HE2:=hid (show E = ([c] ++ au (ln : Int)) ++ fX l by rw [← HE.out]; simp [hlen])
  have hw:=cV (ln : Int) ae ae;clear HE;generalize au (ln : Int) = U at *;go_wp2_with fail;rw [HW.out];refine (UV.out _).mono ?_;rintro e w4 ⟨B,rfl,hs4,hb4⟩;have S4:=hid hs4;have B4:=hid (b4.trans (hb4.mono b4.size))
  have O4:=hid (gi O3.out (fun B' hB => hb4.block B' yi))
  clear hs4 hb4 UV;rw [← z3.out]
  go_wp2_with (at_builtin; (refine oP _ rfl (.tmp 43) (.tmp 48) rfl w3.heap.size _ 1 [c] rfl O4.out _ _ _ U rfl S4.out (fun h => bG) ae B4.out.size ?_; intro v5 w5 hown5 hb5; have O5:=hid hown5; have B5:=hid (B4.out.trans hb5); have f2 : w5.cell? ⟨w.heap.size,2,none⟩ = some (.slice la ln lc):=(B5.out.cell (by have:=z3.out; simp; omega)).trans ((by rw [← HW.out,World.cell?_alloc_past _ _ _ hx2]; exact u2)); clear hown5 hb5))
  have BW:=hid (eQ B3.out B5.out);have HQ:=hid q3
  have O5':=hid (show w5.ownsRow w3.heap.size 5 1 v5 (([c] ++ U) ++ fX (l.take 0)).length ((([c] ++ U) ++ fX (l.take 0)).map (Value.int .u8)) by
   have h:=O5.out
   rw [show 1 + U.length = (([c] ++ U) ++ fX (l.take 0)).length by simp [fX]; omega] at h
   simpa [fX] using h)
  have hU : ([c] ++ U).length ≤ 11:=aL;generalize [c] ++ U = C at *;clear O5 O4 S4 u0 u1 u2 f2
  go_loopw [7,53] (fun v i wr => ∃ k : Nat,k ≤ ln ∧ i = .int .i64 k ∧ wr.ownsRow w3.heap.size 5 1 v (C ++ fX (l.take k)).length ((C ++ fX (l.take k)).map (Value.int .u8)) ∧ Below w3.heap.size w3 wr) (fun _ i _ => ln - (intOf i).toNat)
  case atStart => exact ⟨0,Nat.zero_le _,rfl,O5'.out,B5.out⟩
  case round =>
   obtain ⟨k,hk,rfl,hown,hb⟩:=hrel;have OW:=hid hown;have BR:=hid hb;clear hown hb O5' B5
   by_cases hlt : k < ln
   ·have hgood:=(CA l).1 HQ.out
    rcases HL.out.2.2.2.2 with hz | ⟨b,off,rfl,hc⟩
    ·omega
    have hcell : wr.cell? ⟨b,off + k,none⟩ = some (.int .i64 (l.getD k 0)):=((eQ B3.out BR.out).cell (p:=⟨b,off + k,none⟩) (block_lt_of_cell (hc k hlt))).trans (hc k hlt)
    have hz : 0 ≤ l.getD k 0 ∧ l.getD k 0 ≤ 2147483647:=by
     have : k < l.length:=ae
     simp only [List.getD_eq_getElem?_getD,aD this,Option.getD_some]; exact hgood _ (List.getElem_mem this)
    have HT:=hid (Dc l k ae);have hlab:=pG (l.take k);have hlt2 : (l.take k).length ≤ 16:=aL
    have hlen2 : (C ++ fX (l.take k)).length ≤ 171:=by rw [List.length_append]; omega
    generalize l.getD k 0 = z at *
    have UV:=hid (fun W => Gu z W ae ae)
    have hul2:=aC z;have hw2:=cV z ae ae;clear hc hgood hlab;generalize au z = Z at *;go_wp2_with fail;refine (UV.out _).mono ?_;rintro e w6 ⟨B',rfl,hs6,hb6⟩;have S6:=hid hs6;have B6:=hid (BR.out.trans (hb6.mono BR.out.size))
    have O6:=hid (gi OW.out (fun B'' hB => hb6.block B'' (by
     rcases OW.out.2 with ⟨rfl,_⟩ | ⟨g,cp,cur,rfl,hg,hh,_⟩
     ·simp [Value.ownBlock] at hB
     ·simp [Value.ownBlock] at hB; subst hB
      rcases Nat.lt_or_ge g wr.heap.size with h | h
      ·exact h
      ·rw [Array.getElem?_eq_none h] at hh; cases hh)))
    clear hs6 hb6 UV
    go_wp2_with (at_builtin; (refine oP _ rfl (.tmp 57) (.tmp 60) rfl w3.heap.size _ _ (C ++ fX (l.take k)) rfl O6.out _ _ _ Z rfl S6.out (fun h => bG) ae B6.out.size ?_; intro v7 w7 hown7 hb7; have O7:=hid hown7; have B7:=hid (B6.out.trans hb7); clear hown7 hb7))
    refine ⟨⟨k + 1,ae,bZ,?_,B7.out⟩,b9⟩;have h:=O7.out;rw [HT.out,← List.append_assoc,@List.length_append Int (C ++ fX (l.take k)) Z];exact h
   ·go_wp2_with fail;go_ret2;refine ⟨_,rfl,?_,eQ B3.out BR.out⟩;have h:=mX OW.out B3.out.size;rw [List.take_of_length_le ae] at h;rw [HE2.out];exact h
 have e3 : (t == 3) = false:=by simp [t3]
 have UV:=hid (fun W => Gu a W ae ae)
 have hul:=aC a
 have HE2:=hid (show E = [c] ++ au a by rw [← HE.out,if_neg t0,if_neg t8,if_neg t3]; rfl)
 have ha0 : 0 ≤ a:=ae;have ha1 : a ≤ 4294967295:=ae;clear HE HL;generalize au a = U at *;go_wp2_with fail;rw [HW.out];refine (UV.out _).mono ?_;rintro e w4 ⟨B,rfl,hs4,hb4⟩;have S4:=hid hs4;have B4:=hid (b4.trans (hb4.mono b4.size))
 have O4:=hid (gi O3.out (fun B' hB => hb4.block B' yi))
 clear hs4 hb4 UV;rw [← z3.out]
 go_wp2_with (at_builtin; (refine oP _ rfl (.tmp 26) (.tmp 30) rfl w3.heap.size _ 1 [c] rfl O4.out _ _ _ U rfl S4.out (fun h => bG) ae B4.out.size ?_; intro v5 w5 hown5 hb5; have O5:=hid hown5; have B5:=hid (B4.out.trans hb5); clear hown5 hb5))
 exact Hw
def lA (w : World) (c a : Int) (la : Option Addr) (ln lc : Nat) : World:=(w.alloc (aR c a la ln lc)).alloc (aR 0 0 none 0 0)
theorem jm (w : World) (c a : Int) (la : Option Addr) (ln lc : Nat) : Below w.heap.size w (lA w c a la ln lc) ∧ (lA w c a la ln lc).heap.size = w.heap.size + 1 + 1 ∧ (lA w c a la ln lc).heap[w.heap.size]? = some (aR c a la ln lc) ∧ (lA w c a la ln lc).heap[w.heap.size + 1]? = some (aR 0 0 none 0 0):=by
 unfold lA;refine ⟨((Below.refl _ w).alloc (Nat.le_refl _) _).alloc ar _,ar,?_,?_⟩
 ·exact AB
 ·have:=(MapKept.heap_alloc (w.alloc (aR c a la ln lc)) (aR 0 0 none 0 0)).1
  exact bX
section
variable (R g cap : Nat) (bs : List Int) (c a : Int) (la : Option Addr) (ln lc : Nat) (l : List Int) (w : World)
theorem Dl (h : Wr w R g cap bs) (hk : aT w) (h0 : 0 ≤ c) (h1 : c ≤ 255) (hl : iI w la ln lc l) (hx : chk (tkV c) (lgV c) a l ≠ 0) :
  Calls Tryz.prog 318 #[.pointer (some ⟨R,0,none⟩),kN c a (.slice la ln lc)] w (aJ R g (chk (tkV c) (lgV c) a l) w):=by
 obtain ⟨B0,z0,x0,x1⟩:=jm w c a la ln lc;have HW : (w.alloc (aR c a la ln lc)).alloc (aR 0 0 none 0 0) = lA w c a la ln lc:=rfl;generalize lA w c a la ln lc = W1 at *;have HE:=hid (xI c a la ln lc l W1 (hk.later B0 hk.pos) h0 h1 (hl.later B0 (Nat.le_refl _)) hx);have hRl:=h.lt;have H1:=hid (h.later B0);have BW:=hid B0;obtain ⟨a0,a1,a2,_,_,_⟩:=aH x0;generalize chk (tkV c) (lgV c) a l = x at *;have hx' : (x == 0) = false:=cP;clear h hk hl B0;unfold kN at *
 go_enter Tryz.func318,Tryz.ntmps318
 go_wp2_with fail;refine HE.out.mono ?_;rintro e w2 ⟨rfl,hb2⟩;have H2:=H1.out.later hb2;have c0:=H2.c0;have B2:=hid (gZ BW.out hb2);clear hb2 HE;go_wp2_with fail;refine (cY R _ _ _ _ c0).mono ?_;rintro e w3 ⟨rfl,rfl⟩;go_wp2_with fail
 refine (eF (by first | rfl | exact hx')).mono ?_
 rintro e w4 ⟨rfl,rfl⟩;exact ⟨rfl,⟨_,rfl⟩,bA B2.out⟩
theorem xW (h : Wr w R g cap bs) (hb : bs.length + 1000 ≤ 1099511627776) (hk : aT w) (h0 : 0 ≤ c) (h1 : c ≤ 255) (hl : iI w la ln lc l) (hx : chk (tkV c) (lgV c) a l = 0) :
  Calls Tryz.prog 318 #[.pointer (some ⟨R,0,none⟩),kN c a (.slice la ln lc)] w (nX R g bs (lU c a l) (kN c a (.slice la ln lc)) w):=by
 obtain ⟨B0,z0,x0,x1⟩:=jm w c a la ln lc;have HW : (w.alloc (aR c a la ln lc)).alloc (aR 0 0 none 0 0) = lA w c a la ln lc:=rfl;generalize lA w c a la ln lc = W1 at *;have HE:=hid (KZ c a la ln lc l W1 (hk.later B0 hk.pos) h0 h1 (hl.later B0 (Nat.le_refl _)) hx)
 have hle : (lU c a l).length ≤ 171:=by
  have:=kg hx
  have h16 : l.length ≤ 16:=by
   by_cases ht : tkV c = 3
   ·exact (this.2.2.2.1 ht).2.1
   ·rw [this.2.2.2.2 ht]; simp
  have:=vG (tkV c) a l h16
  simp [lU]; omega
 have hpos : 0 < (lU c a l).length:=by simp [lU]
 have hmem : ∀ z ∈ lU c a l,0 ≤ z ∧ z ≤ 255:=by
  intro z hz
  simp only [lU,List.mem_cons] at hz
  rcases hz with rfl | hz
  ·exact ⟨h0,h1⟩
  ·exact D9 hx z hz
 have hRl:=h.lt;have hgl:=h.g_lt;have H1:=hid (h.later B0);have BW:=hid B0;have HMEM:=hid hmem;obtain ⟨a0,a1,a2,_,_,_⟩:=aH x0;generalize lU c a l = E at *;clear h hk hl B0 hx hmem;unfold kN at *
 go_enter Tryz.func318,Tryz.ntmps318
 go_wp2_with fail;refine HE.out.mono ?_;rintro e w2 ⟨v,rfl,ho,hb2⟩;obtain ⟨va,vc,rfl,hsg,_⟩:=xt ho ae HMEM.out;have H2:=H1.out.later hb2;have c0:=H2.c0;have B2:=hid (gZ BW.out hb2);have SG:=hid hsg;have W2:=hid H2;have y0:=(hb2.block w.heap.size ae).trans x0;have y1:=(hb2.block (w.heap.size + 1) ae).trans x1;have z2:=hb2.size;clear hb2 HE ho hsg H2;go_wp2_with fail;refine (cY R _ _ _ _ c0).mono ?_;rintro e w3 ⟨rfl,rfl⟩;go_wp2_with fail;refine (cr rfl).mono ?_;rintro e w4 ⟨rfl,rfl⟩;clear c0;go_wp2_with fail;refine (rV R g cap bs va E.length vc E _ W2.out SG.out hpos ae).mono ?_;rintro e w5 ⟨rfl,g',cap',hw5,hs5⟩;have q0:=(hs5.block (b:=w.heap.size) ae ae ae).trans y0;have q1:=(hs5.block (b:=w.heap.size + 1) ae ae ae).trans y1;have n1 : w.heap.size + 1 ≠ g':=hs5.ne ae ae;obtain ⟨b0,b1,b2,_,_,_⟩:=aH q0;obtain ⟨k0,k1,k2,k3,k4,k5⟩:=aH q1;have hl0:=block_lt_of_cell b0;have hl1:=block_lt_of_cell k0;have W5:=hid hw5;have S5:=hid ((Stp.of_below B2.out).trans hs5);clear hw5 hs5 y0 y1 x0 x1 a0 a1 a2 q0 q1;exact GU
variable (A : Nat) (aa : Option Addr) (an ac : Nat)
theorem C7 (h : Wr w R g cap bs) (hk : aT w) (h0 : 0 ≤ c) (h1 : c ≤ 255) (hl : iI w la ln lc l) (hA : w.cell? ⟨A,0,none⟩ = some (cW R)) (hx : chk (tkV c) (lgV c) a l ≠ 0) :
  Calls Tryz.prog 195 #[kN c a (.slice la ln lc),.slice aa an ac,.pointer (some ⟨A,0,none⟩)] w (aJ R g (chk (tkV c) (lgV c) a l) w):=by
 have hm:=iU;have hc:=vz;obtain ⟨B0,z0,x0,x1⟩:=jm w c a la ln lc;have HW : (w.alloc (aR c a la ln lc)).alloc (aR 0 0 none 0 0) = lA w c a la ln lc:=rfl;have hA1 : (lA w c a la ln lc).cell? ⟨A,0,none⟩ = some (cW R):=(B0.cell gH).trans hA;have HE:=hid (Dl R g cap bs c a la ln lc l _ (h.later B0) (hk.later B0 hk.pos) h0 h1 (hl.later B0 (Nat.le_refl _)) hx);generalize lA w c a la ln lc = W1 at *;have BW:=hid B0;obtain ⟨a0,a1,a2,_,_,_⟩:=aH x0;generalize chk (tkV c) (lgV c) a l = x at *;clear h hk hl B0 hA;unfold kN at *
 go_enter Tryz.func195,Tryz.ntmps195
 go_wp2_with fail;refine HE.out.mono ?_;rintro e w2 ⟨⟨q,rfl⟩,hk2⟩;exact ⟨rfl,⟨q,rfl⟩,(bA BW.out).trans hk2⟩
theorem xR (h : Wr w R g cap bs) (hb : bs.length + 1000 ≤ 1099511627776) (hk : aT w) (h0 : 0 ≤ c) (h1 : c ≤ 255) (hl : iI w la ln lc l) (hA : w.cell? ⟨A,0,none⟩ = some (cW R)) (hx : chk (tkV c) (lgV c) a l = 0) :
  Calls Tryz.prog 195 #[kN c a (.slice la ln lc),.slice aa an ac,.pointer (some ⟨A,0,none⟩)] w (nX R g bs (lU c a l) (kN c a (.slice la ln lc)) w):=by
 have hm:=iU;have hc:=vz;obtain ⟨B0,z0,x0,x1⟩:=jm w c a la ln lc;have HW : (w.alloc (aR c a la ln lc)).alloc (aR 0 0 none 0 0) = lA w c a la ln lc:=rfl;have hA1 : (lA w c a la ln lc).cell? ⟨A,0,none⟩ = some (cW R):=(B0.cell gH).trans hA;have HE:=hid (xW R g cap bs c a la ln lc l _ (h.later B0) hb (hk.later B0 hk.pos) h0 h1 (hl.later B0 (Nat.le_refl _)) hx);have hRl:=h.lt;have hgl:=h.g_lt;generalize lA w c a la ln lc = W1 at *;have BW:=hid B0;obtain ⟨a0,a1,a2,_,_,_⟩:=aH x0;generalize lU c a l = E at *;clear h hk hl B0 hA hx;unfold kN at *
 go_enter Tryz.func195,Tryz.ntmps195
 go_wp2_with fail;refine HE.out.mono ?_;rintro e w5 ⟨rfl,g',cap',hw5,hs5⟩;have q1:=(hs5.block (b:=w.heap.size + 1) ae ae ae).trans x1;have n1 : w.heap.size + 1 ≠ g':=hs5.ne ae ae;obtain ⟨k0,k1,k2,k3,k4,k5⟩:=aH q1;have hl1:=block_lt_of_cell k0;have W5:=hid hw5;have S5:=hid ((Stp.of_below BW.out).trans hs5);clear hw5 hs5 x0 x1 a0 a1 a2 q1 HE;exact GU
end
end Go.Proofs.YtheefojaplnnoaaGreatDoor

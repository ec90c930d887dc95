/-
  Texts Chk Enc.
-/
import Derived.Deep.RegionWith
import Derived.Test.YtepcmfegggdjfaaGreatDoorQ00
import Derived.Test.YtepcmfegggdjfaaGreatDoorQ01
import Derived.Test.YtepcmfegggdjfaaGreatDoorQ15
set_option linter.unusedVariables false
set_option maxRecDepth 100000
set_option maxHeartbeats 16000000
namespace Go.Proofs.YtepcmfegggdjfaaGreatDoor
open Go.RowKit
def tkV (c : Int) : Int:=if (ofV c).2 = true then (ofV c).1.2.2.1 else -1
def lgV (c : Int) : Bool:=isLg (ofV c).1.2.2.2.2.1
def SegI (w : World) (a : Option Addr) (n cap : Nat) (l : List Int) : Prop :=
 l.length = n ∧ n ≤ cap ∧ n ≤ 1099511627776 ∧ (∀ z ∈ l,-9223372036854775808 ≤ z ∧ z ≤ 9223372036854775807) ∧
 (n = 0 ∨ ∃ b off,a = some ⟨b,off,none⟩ ∧ ∀ j,j < n → w.cell? ⟨b,off + j,none⟩ = some (.int .i64 (l.getD j 0)))
theorem SegI.later {w w' : World} {a : Option Addr} {n cap : Nat} {l : List Int} {B : Nat} (h : SegI w a n cap l) (hb : Below B w w') (hB : w.heap.size ≤ B) : SegI w' a n cap l:=by
 obtain ⟨hz,h1,h2,h3,ha⟩:=h
 refine ⟨hz,h1,h2,h3,?_⟩
 rcases ha with ha | ⟨b,off,e,hc⟩
 ·exact .inl ha
 ·refine .inr ⟨b,off,e,fun j hj => ?_⟩
  have:=hc j hj
  have hlt : b < w.heap.size:=block_lt_of_cell this
  exact (hb.cell (p:=⟨b,off + j,none⟩) (by exact Nat.lt_of_lt_of_le hlt hB)).trans this
def insV (c a : Int) (s : Value) : Value:=.agg #[.int .u8 c,.int .i64 a,s]
theorem held_chk {X Y : Nat} {c a rc t : Int} {la : Option Addr} {ln lc : Nat} {wd pp ps : ByteArray} {pl : Bool} {w2 W W' : World} (hb : Below W.heap.size W W')
  (h : W.cell? ⟨X,0,none⟩ = some (.int .u8 c) ∧ W.cell? ⟨X,1,none⟩ = some (.int .i64 a) ∧ W.cell? ⟨X,2,none⟩ = some (.slice la ln lc) ∧ W.cell? ⟨Y,0,none⟩ = some (.int .u8 rc) ∧ W.cell? ⟨Y,1,none⟩ = some (.string wd) ∧ W.cell? ⟨Y,2,none⟩ = some (.int .i8 t) ∧ W.cell? ⟨Y,3,none⟩ = some (.string pp) ∧ W.cell? ⟨Y,4,none⟩ = some (.string ps) ∧ W.cell? ⟨Y,5,none⟩ = some (.bool pl) ∧ Below w2.heap.size w2 W) :
  W'.cell? ⟨X,0,none⟩ = some (.int .u8 c) ∧ W'.cell? ⟨X,1,none⟩ = some (.int .i64 a) ∧ W'.cell? ⟨X,2,none⟩ = some (.slice la ln lc) ∧ W'.cell? ⟨Y,0,none⟩ = some (.int .u8 rc) ∧ W'.cell? ⟨Y,1,none⟩ = some (.string wd) ∧ W'.cell? ⟨Y,2,none⟩ = some (.int .i8 t) ∧ W'.cell? ⟨Y,3,none⟩ = some (.string pp) ∧ W'.cell? ⟨Y,4,none⟩ = some (.string ps) ∧ W'.cell? ⟨Y,5,none⟩ = some (.bool pl) ∧ Below w2.heap.size w2 W':=by
 obtain ⟨h0,h1,h2,h3,h4,h5,h6,h7,h8,h9⟩:=h
 have hX:=block_lt_of_cell h0
 have hY:=block_lt_of_cell h3
 exact ⟨(hb.cell (by simpa using hX)).trans h0,(hb.cell (by simpa using hX)).trans h1,(hb.cell (by simpa using hX)).trans h2,(hb.cell (by simpa using hY)).trans h3,(hb.cell (by simpa using hY)).trans h4,
  (hb.cell (by simpa using hY)).trans h5,(hb.cell (by simpa using hY)).trans h6,(hb.cell (by simpa using hY)).trans h7,(hb.cell (by simpa using hY)).trans h8,h9.trans (hb.mono h9.size)⟩
theorem chk_none {g : Bool} {a : Int} {l : List Int} : chk (-1) g a l = 21:=by unfold chk; rw [if_pos rfl]
theorem okL_drop (l : List Int) (k : Nat) (hk : k < l.length) : okL (l.drop k) ↔ (0 ≤ l.getD k 0 ∧ l.getD k 0 ≤ 2147483647) ∧ okL (l.drop (k + 1)):=by
 rw [List.drop_eq_getElem_cons hk]
 simp [okL,hk]
theorem getD_i64 (l : List Int) (hr : ∀ z ∈ l,-9223372036854775808 ≤ z ∧ z ≤ 9223372036854775807) (j : Nat) : -9223372036854775808 ≤ l.getD j 0 ∧ l.getD j 0 ≤ 9223372036854775807:=by
 by_cases h : j < l.length
 ·simp only [List.getD_eq_getElem?_getD,List.getElem?_eq_getElem h,Option.getD_some]; exact hr _ (List.getElem_mem h)
 ·simp only [List.getD_eq_getElem?_getD,List.getElem?_eq_none (by omega : l.length ≤ j),Option.getD_none]; omega
def cLo (t : Int) : Int:=if t = 3 then 1 else 0
def cHi (t : Int) : Int:=if t = 3 then 16 else 0
theorem chk_some {t : Int} {g : Bool} {a : Int} {l : List Int} (ht : t ≠ -1) (h1 : inB (lo t g) (hi t g) a = true) (h2 : inB (cLo t) (cHi t) l.length = true) :
  chk t g a l = if okL l then 0 else 17:=by
 unfold inB cLo cHi at *
 have h1:=of_decide_eq_true h1
 have h2:=of_decide_eq_true h2
 unfold chk
 rw [if_neg ht,if_neg (by omega)]
 by_cases h3 : t = 3
 ·rw [if_pos h3] at *
  rw [if_pos h3] at h2
  rw [if_neg (by omega)]
 ·rw [if_neg h3] at *
  rw [if_neg h3] at h2
  have : l = []:=List.eq_nil_of_length_eq_zero (by omega)
  subst this
  rfl
theorem chk_out {t : Int} {g : Bool} {a : Int} {l : List Int} (ht : t ≠ -1) (h : inB (lo t g) (hi t g) a = false ∨ inB (cLo t) (cHi t) l.length = false) : chk t g a l = 17:=by
 unfold inB cLo cHi at h
 unfold chk
 rw [if_neg ht]
 by_cases ha : a < lo t g ∨ hi t g < a
 ·rw [if_pos ha]
 rw [if_neg ha]
 have h : ¬ ((if t = 3 then 1 else 0 : Int) ≤ l.length ∧ (l.length : Int) ≤ (if t = 3 then 16 else 0 : Int)):=by
  rcases h with h | h
  ·exact absurd (of_decide_eq_false h) (by omega)
  ·exact of_decide_eq_false h
 by_cases h3 : t = 3
 ·rw [if_pos h3] at h ⊢
  rw [if_pos h3] at h
  rw [if_pos (by omega)]
 ·rw [if_neg h3] at h ⊢
  rw [if_neg h3] at h
  rw [if_neg (by omega)]
theorem tk_ne (c : Int) (h0 : 0 ≤ c) (h1 : c ≤ 255) : ((ofV c).1.2.2.1 ≠ -1):=by
 obtain ⟨n,rfl⟩:=Int.eq_ofNat_of_zero_le h0
 have hall : ((List.range 256).all fun (n : Nat) => decide ((ofV (n : Int)).1.2.2.1 ≠ -1)) = true:=by decide +kernel
 exact of_decide_eq_true (List.all_eq_true.1 hall n (List.mem_range.2 (by omega)))
theorem counts_spans (c t : Int) (wd pp ps : ByteArray) (pl : Bool) (w : World) :
  Calls Tryz.prog 218 #[.agg #[.int .u8 c,.string wd,.int .i8 t,.string pp,.string ps,.bool pl]] w fun e w' => e = .returned (spanV (cLo t) (cHi t)) ∧ Below w.heap.size w w':=by
 refine (counts32 c t wd pp ps pl w).mono fun e w' ⟨he,hb⟩ => ⟨?_,hb⟩
 rw [he]
 unfold cLo cHi
 by_cases h : t = 3
 ·rw [if_pos h,if_pos h,if_pos h]
 ·rw [if_neg h,if_neg h,if_neg h]
theorem check12 (c a : Int) (la : Option Addr) (ln lc : Nat) (l : List Int) (w : World) (hk : KindsOk w) (h0 : 0 ≤ c) (h1 : c ≤ 255) (hl : SegI w la ln lc l) :
  Calls Tryz.prog 214 #[insV c a (.slice la ln lc)] w fun e w' => e = .returned (.int .i64 (chk (tkV c) (lgV c) a l)) ∧ Below w.heap.size w w':=by
 have hof:=hid (fun W hW => of6 c W hW h0 h1)
 have hne:=tk_ne c h0 h1
 unfold tkV lgV insV
 generalize ofV c = V at *
 obtain ⟨⟨rc,wd,t,pp,ps,pl⟩,fnd⟩:=V
 simp only [rv,rowV] at hof hne ⊢
 have HL:=hid hl
 have hln:=hl.2.2.1
 have hlen:=hl.1
 clear hl
 have hb0 : Below w.heap.size w (w.alloc (.cells #[.int .u8 c,.int .i64 a,.slice la ln lc] 82)):=(Below.refl _ _).alloc (Nat.le_refl _) _
 have HO:=hid (hof.out _ (hk.later hb0 hk.pos))
 clear hof
 cases fnd
 ·go_enter Tryz.func214,Tryz.ntmps214
  go_wp2_with fail
  refine HO.out.mono ?_
  rintro e w1 ⟨rfl,hb1⟩
  go_wp2
  go_ret
  refine ⟨?_,?_⟩
  ·rw [chk_none]; rfl
  ·exact (hb0.trans (hb1.mono (by simp))).alloc (by have:=hb1.size; simp at this; omega) _
 simp only [if_true]
 go_enter Tryz.func214,Tryz.ntmps214
 go_wp2_with fail
 refine HO.out.mono ?_
 rintro e w1 ⟨rfl,hb1⟩
 have x0 : w1.cell? ⟨w.heap.size,0,none⟩ = some (.int .u8 c):=by rw [hb1.cell (by simp)]; simp [go_sem]
 have x1 : w1.cell? ⟨w.heap.size,1,none⟩ = some (.int .i64 a):=by rw [hb1.cell (by simp)]; simp [go_sem]
 have x2 : w1.cell? ⟨w.heap.size,2,none⟩ = some (.slice la ln lc):=by rw [hb1.cell (by simp)]; simp [go_sem]
 have hx:=block_lt_of_cell x0
 have B1:=hid (hb0.trans (hb1.mono (by simp)))
 clear hb1
 go_wp2_with fail
 obtain ⟨w2,hw2⟩ : ∃ w2,w1.alloc (.cells #[.int .u8 rc,.string wd,.int .i8 t,.string pp,.string ps,.bool pl] 214) = w2:=⟨_,rfl⟩
 rw [hw2]
 have B2:=hid (show Below w.heap.size w w2 by rw [← hw2]; exact B1.out.alloc (by have:=B1.out.size; omega) _)
 have y : w2.cell? ⟨w.heap.size,0,none⟩ = some (.int .u8 c) ∧ w2.cell? ⟨w.heap.size,1,none⟩ = some (.int .i64 a) ∧ w2.cell? ⟨w.heap.size,2,none⟩ = some (.slice la ln lc) ∧ w2.cell? ⟨w1.heap.size,0,none⟩ = some (.int .u8 rc) ∧ w2.cell? ⟨w1.heap.size,1,none⟩ = some (.string wd) ∧ w2.cell? ⟨w1.heap.size,2,none⟩ = some (.int .i8 t) ∧ w2.cell? ⟨w1.heap.size,3,none⟩ = some (.string pp) ∧ w2.cell? ⟨w1.heap.size,4,none⟩ = some (.string ps) ∧ w2.cell? ⟨w1.heap.size,5,none⟩ = some (.bool pl) ∧ Below w2.heap.size w2 w2:=by
  rw [← hw2]
  refine ⟨?_,?_,?_,?_,?_,?_,?_,?_,?_,(Below.refl _ _)⟩
  ·rw [World.cell?_alloc_past _ _ _ hx]; exact x0
  ·rw [World.cell?_alloc_past _ _ _ hx]; exact x1
  ·rw [World.cell?_alloc_past _ _ _ hx]; exact x2
  all_goals simp [go_sem]
 clear hw2 x0 x1 x2 B1 HO hb0
 have yd:=y
 obtain ⟨y0,y1,y2,y3,y4,y5,y6,y7,y8,_⟩:=y
 have hwrap : IntKind.i64.wrap (ln : Int) = ln:=by simp [IntKind.wrap,IntKind.bits,IntKind.signed]; omega
 by_cases hA : inB (lo t (isLg ps)) (hi t (isLg ps)) a = true
 ·by_cases hC : inB (cLo t) (cHi t) l.length = true
  ·have HV:=hid (chk_some (a:=a) (l:=l) hne hA hC)
   rw [hlen] at hC
   go_region_held3 (fun W => W.cell? ⟨w.heap.size,0,none⟩ = some (.int .u8 c) ∧ W.cell? ⟨w.heap.size,1,none⟩ = some (.int .i64 a) ∧ W.cell? ⟨w.heap.size,2,none⟩ = some (.slice la ln lc) ∧ W.cell? ⟨w1.heap.size,0,none⟩ = some (.int .u8 rc) ∧ W.cell? ⟨w1.heap.size,1,none⟩ = some (.string wd) ∧ W.cell? ⟨w1.heap.size,2,none⟩ = some (.int .i8 t) ∧ W.cell? ⟨w1.heap.size,3,none⟩ = some (.string pp) ∧ W.cell? ⟨w1.heap.size,4,none⟩ = some (.string ps) ∧ W.cell? ⟨w1.heap.size,5,none⟩ = some (.bool pl) ∧ Below w2.heap.size w2 W)
    (first | assumption | (refine held_chk ?_ ?_ <;> assumption) | (exact ⟨y0,y1,y2,y3,y4,y5,y6,y7,y8,(Below.refl _ _).drew⟩))
    (first
     | (go_at_call 216; refine (numbers30 rc t wd pp ps pl _).mono ?_; rintro e w' ⟨rfl,hbx⟩; have hS':=held_chk (X:=w.heap.size) (Y:=w1.heap.size) (w2:=w2) hbx (by assumption); clear hbx)
     | (go_at_call 218; refine (counts_spans rc t wd pp ps pl _).mono ?_; rintro e w' ⟨rfl,hbx⟩; have hS':=held_chk (X:=w.heap.size) (Y:=w1.heap.size) (w2:=w2) hbx (by assumption); clear hbx)
     | (go_at_call 217; refine (holds31 _ _ _ _).mono ?_; rintro e w' ⟨rfl,hbx⟩; have hS':=held_chk (X:=w.heap.size) (Y:=w1.heap.size) (w2:=w2) hbx (by assumption); clear hbx))
   have B3:=hid (B2.out.trans (hS'.2.2.2.2.2.2.2.2.2.mono B2.out.size))
   have z2:=hS'.2.2.1
   clear hS' yd y0 y1 y2 y3 y4 y5 y6 y7 y8 hC hA
   go_wp2_with fail
   go_loopw [33] (fun i wr => ∃ k : Nat,k ≤ ln ∧ i = .int .i64 k ∧ Below w.heap.size w wr ∧ (okL l ↔ okL (l.drop k))) (fun i _ => ln - (intOf i).toNat)
   case atStart => exact ⟨0,Nat.zero_le _,rfl,B3.out,by simp⟩
   case round =>
    obtain ⟨k,hk,rfl,hb,hok⟩:=hrel
    have HB:=hid hb
    have HK:=hid hok
    clear hb hok B3 z2
    by_cases hlt : k < ln
    ·rcases HL.out.2.2.2.2 with hz | ⟨b,off,rfl,hc⟩
     ·omega
     have hcell : wr.cell? ⟨b,off + k,none⟩ = some (.int .i64 (l.getD k 0)):=(HB.out.cell (p:=⟨b,off + k,none⟩) (block_lt_of_cell (hc k hlt))).trans (hc k hlt)
     have hd:=okL_drop l k (by omega)
     have hrz:=getD_i64 l HL.out.2.2.2.1 k
     generalize l.getD k 0 = z at *
     have HD:=hid hd
     clear hd hc
     by_cases hin : inB 0 2147483647 z = true
     ·go_wp2_with fail
      refine (indices33 _).mono ?_
      rintro e w3 ⟨rfl,hb3⟩
      go_wp2_with fail
      refine (holds31 _ _ _ _).mono ?_
      rintro e w4 ⟨rfl,hb4⟩
      go_wp2_with fail
      have hz2:=of_decide_eq_true hin
      exact ⟨⟨k + 1,by omega,by go_num,(HB.out.trans (hb3.mono HB.out.size)).trans (hb4.mono (Nat.le_trans HB.out.size hb3.size)),by rw [HK.out,HD.out]; simp [hz2]⟩,by simp [intOf]; omega⟩
     ·have hin' : inB 0 2147483647 z = false:=by simpa using hin
      clear hin
      go_wp2_with fail
      refine (indices33 _).mono ?_
      rintro e w3 ⟨rfl,hb3⟩
      go_wp2_with fail
      refine (holds31 _ _ _ _).mono ?_
      rintro e w4 ⟨rfl,hb4⟩
      go_wp2_with fail
      go_ret
      have hz2:=of_decide_eq_false hin'
      refine ⟨?_,(HB.out.trans (hb3.mono HB.out.size)).trans (hb4.mono (Nat.le_trans HB.out.size hb3.size))⟩
      rw [HV.out,if_neg (by rw [HK.out,HD.out]; exact fun h => hz2 h.1)]
      rfl
    ·go_wp2_with fail
     go_ret
     refine ⟨?_,HB.out⟩
     rw [HV.out,if_pos (by rw [HK.out,List.drop_eq_nil_of_le (by omega)]; trivial)]
     rfl
  ·have hC' : inB (cLo t) (cHi t) l.length = false:=by simpa using hC
   have HV:=hid (chk_out (a:=a) (l:=l) (g:=isLg ps) hne (.inr hC'))
   rw [hlen] at hC'
   clear hC
   go_region_held3 (fun W => W.cell? ⟨w.heap.size,0,none⟩ = some (.int .u8 c) ∧ W.cell? ⟨w.heap.size,1,none⟩ = some (.int .i64 a) ∧ W.cell? ⟨w.heap.size,2,none⟩ = some (.slice la ln lc) ∧ W.cell? ⟨w1.heap.size,0,none⟩ = some (.int .u8 rc) ∧ W.cell? ⟨w1.heap.size,1,none⟩ = some (.string wd) ∧ W.cell? ⟨w1.heap.size,2,none⟩ = some (.int .i8 t) ∧ W.cell? ⟨w1.heap.size,3,none⟩ = some (.string pp) ∧ W.cell? ⟨w1.heap.size,4,none⟩ = some (.string ps) ∧ W.cell? ⟨w1.heap.size,5,none⟩ = some (.bool pl) ∧ Below w2.heap.size w2 W)
    (first | assumption | (refine held_chk ?_ ?_ <;> assumption) | (exact ⟨y0,y1,y2,y3,y4,y5,y6,y7,y8,(Below.refl _ _).drew⟩))
    (first
     | (go_at_call 216; refine (numbers30 rc t wd pp ps pl _).mono ?_; rintro e w' ⟨rfl,hbx⟩; have hS':=held_chk (X:=w.heap.size) (Y:=w1.heap.size) (w2:=w2) hbx (by assumption); clear hbx)
     | (go_at_call 218; refine (counts_spans rc t wd pp ps pl _).mono ?_; rintro e w' ⟨rfl,hbx⟩; have hS':=held_chk (X:=w.heap.size) (Y:=w1.heap.size) (w2:=w2) hbx (by assumption); clear hbx)
     | (go_at_call 217; refine (holds31 _ _ _ _).mono ?_; rintro e w' ⟨rfl,hbx⟩; have hS':=held_chk (X:=w.heap.size) (Y:=w1.heap.size) (w2:=w2) hbx (by assumption); clear hbx))
   have B3:=hid (B2.out.trans (hS'.2.2.2.2.2.2.2.2.2.mono B2.out.size))
   clear hS' yd y0 y1 y2 y3 y4 y5 y6 y7 y8
   go_wp2_with fail
   go_ret
   exact ⟨by rw [HV.out]; rfl,B3.out⟩
 ·have hA' : inB (lo t (isLg ps)) (hi t (isLg ps)) a = false:=by simpa using hA
  have HV:=hid (chk_out (a:=a) (l:=l) hne (.inl hA'))
  clear hA
  first | (go_region_with (first
   | (go_at_call 216; refine (numbers30 rc t wd pp ps pl _).mono ?_; rintro e w3 ⟨rfl,hb3⟩; have hS3:=held_chk (X:=w.heap.size) (Y:=w1.heap.size) (w2:=w2) hb3 ⟨y0,y1,y2,y3,y4,y5,y6,y7,y8,(Below.refl _ _).drew⟩; clear hb3)
   | (go_at_call 217; refine (holds31 _ _ _ _).mono ?_; rintro e w4 ⟨rfl,hb4⟩; have hS':=held_chk (X:=w.heap.size) (Y:=w1.heap.size) (w2:=w2) hb4 hS3; clear hb4))) | fail
  all_goals
   have B3:=hid (B2.out.trans (hS'.2.2.2.2.2.2.2.2.2.mono B2.out.size))
   clear hS' yd y0 y1 y2 y3 y4 y5 y6 y7 y8
   go_wp2_with fail
   go_ret
   exact ⟨by rw [HV.out]; rfl,B3.out⟩
theorem own_one (w : World) (c : Int) (base : Nat) (hb : base ≤ w.heap.size) : (w.alloc (.cells #[.int .u8 c] 5)).ownsRow base 5 1 (.slice (some ⟨w.heap.size,0,none⟩) 1 1) 1 ([c].map (Value.int .u8)):=by
 refine ⟨rfl,.inr ⟨w.heap.size,1,#[.int .u8 c],rfl,hb,(MapKept.heap_alloc w _).1,Nat.le_refl _,by decide,rfl,rfl⟩⟩
theorem labB_append : ∀ (l m : List Int),labB (l ++ m) = labB l ++ labB m
 | [],m => rfl
 | z :: l,m => by simp [labB,labB_append l m,List.append_assoc]
theorem labB_take (l : List Int) (k : Nat) (hk : k < l.length) : labB (l.take (k + 1)) = labB (l.take k) ++ uvar (l.getD k 0):=by
 rw [List.take_succ_eq_append_getElem hk,labB_append]
 simp [labB,hk]
theorem uvarB (v : Int) (w : World) (h0 : 0 ≤ v) (h1 : v < 18446744073709551616) :
  Calls Tryz.prog 209 #[.int .u64 v] w fun e w' => ∃ B,e = .returned (.slice (some ⟨B,0,none⟩) (uvar v).length (uvar v).length) ∧ Seg w' (some ⟨B,0,none⟩) (uvar v).length (uvar v).length (uvar v) ∧ Below w.heap.size w w' :=
 (uvar17 v w h0 h1).mono fun e w' ⟨he,hs,hb,_⟩ => ⟨_,he,hs,hb⟩
theorem svarB (v : Int) (w : World) (h0 : -9223372036854775808 ≤ v) (h1 : v < 9223372036854775808) :
  Calls Tryz.prog 211 #[.int .i64 v] w fun e w' => ∃ B,e = .returned (.slice (some ⟨B,0,none⟩) (uvar (fo v)).length (uvar (fo v)).length) ∧ Seg w' (some ⟨B,0,none⟩) (uvar (fo v)).length (uvar (fo v)).length (uvar (fo v)) ∧ Below w.heap.size w w' :=
 (svar19 v w h0 h1).mono fun e w' ⟨he,hs,hb,_⟩ => ⟨_,he,hs,hb⟩
def encV (c a : Int) (l : List Int) : List Int:=c :: encB (tkV c) a l
theorem tkV_some {c : Int} (h : tkV c ≠ -1) : (ofV c).2 = true ∧ tkV c = (ofV c).1.2.2.1:=by
 unfold tkV at h ⊢
 cases hf : (ofV c).2
 ·rw [hf] at h; simp at h
 ·simp
theorem encode9_no (c a : Int) (la : Option Addr) (ln lc : Nat) (l : List Int) (w : World) (hk : KindsOk w) (h0 : 0 ≤ c) (h1 : c ≤ 255) (hl : SegI w la ln lc l) (hx : chk (tkV c) (lgV c) a l ≠ 0) :
  Calls Tryz.prog 210 #[insV c a (.slice la ln lc)] w fun e w' => e = .returned (.tuple #[.slice none 0 0,.int .i64 (chk (tkV c) (lgV c) a l)]) ∧ Below w.heap.size w w':=by
 have hb0 : Below w.heap.size w (w.alloc (.cells #[.int .u8 c,.int .i64 a,.slice la ln lc] 82)):=(Below.refl _ _).alloc (Nat.le_refl _) _
 have HC:=hid (check12 c a la ln lc l _ (hk.later hb0 hk.pos) h0 h1 (hl.later hb0 (Nat.le_refl _)))
 clear hl hk
 generalize chk (tkV c) (lgV c) a l = x at *
 have hx' : (x != 0) = true:=by simp [hx]
 unfold insV at *
 go_enter Tryz.func210,Tryz.ntmps210
 go_wp2_with fail
 refine HC.out.mono ?_
 rintro e w1 ⟨rfl,hb1⟩
 go_wp2_with fail
 go_ret2
 exact ⟨rfl,hb0.trans (hb1.mono (by simp))⟩
theorem below_late {w w1 w2 : World} (h1 : Below w.heap.size w w1) (h2 : Below w1.heap.size w1 w2) : Below w.heap.size w w2:=h1.trans (h2.mono h1.size)
theorem encode9 (c a : Int) (la : Option Addr) (ln lc : Nat) (l : List Int) (w : World) (hk : KindsOk w) (h0 : 0 ≤ c) (h1 : c ≤ 255) (hl : SegI w la ln lc l) (hx : chk (tkV c) (lgV c) a l = 0) :
  Calls Tryz.prog 210 #[insV c a (.slice la ln lc)] w fun e w' => ∃ v,e = .returned (.tuple #[v,.int .i64 0]) ∧ w'.ownsRow w.heap.size 5 1 v (encV c a l).length ((encV c a l).map (Value.int .u8)) ∧ Below w.heap.size w w':=by
 have hb0 : Below w.heap.size w (w.alloc (.cells #[.int .u8 c,.int .i64 a,.slice la ln lc] 82)):=(Below.refl _ _).alloc (Nat.le_refl _) _
 have hchk:=check12 c a la ln lc l _ (hk.later hb0 hk.pos) h0 h1 (hl.later hb0 (Nat.le_refl _))
 rw [hx] at hchk
 have HC:=hid hchk
 obtain ⟨k1,k2,k3,k4,k5⟩:=chk_ok hx
 obtain ⟨hf,ht⟩:=tkV_some k1
 have lr:=lo_range (tkV c) (lgV c)
 have hr:=hi_range (tkV c) (lgV c)
 have HO:=hid (fun W hW => of6 c W hW h0 h1)
 have hzero : tkV c = 0 ∨ tkV c = 3 → hi (tkV c) (lgV c) = 0:=by intro h; unfold hi; rw [if_pos h]
 unfold encV encB
 rw [ht] at k1 k2 k3 k4 k5 lr hr hzero ⊢
 generalize lgV c = g at *
 generalize ofV c = V at *
 obtain ⟨⟨rc,wd,t,pp,ps,pl⟩,fnd⟩:=V
 simp only [rv,rowV] at HO hf k1 k2 k3 k4 k5 lr hr hzero ⊢
 subst hf
 clear hx ht hchk
 have HL:=hid hl
 have hln:=hl.2.2.1
 have hlen:=hl.1
 have HK:=hid hk
 clear hl hk
 unfold insV at *
 obtain ⟨E,hE⟩ : ∃ E,c :: (if t = 0 then [] else if t = 8 then uvar (fo a) else if t = 3 then uvar l.length ++ labB l else uvar a) = E:=⟨_,rfl⟩
 rw [hE]
 have HE:=hid hE
 clear hE
 go_enter Tryz.func210,Tryz.ntmps210
 go_wp2_with fail
 refine HC.out.mono ?_
 rintro e w1 ⟨rfl,hb1⟩
 have x0 : w1.cell? ⟨w.heap.size,0,none⟩ = some (.int .u8 c):=by rw [hb1.cell (by simp)]; simp [go_sem]
 have x1 : w1.cell? ⟨w.heap.size,1,none⟩ = some (.int .i64 a):=by rw [hb1.cell (by simp)]; simp [go_sem]
 have x2 : w1.cell? ⟨w.heap.size,2,none⟩ = some (.slice la ln lc):=by rw [hb1.cell (by simp)]; simp [go_sem]
 have hx:=block_lt_of_cell x0
 have B1:=hid (hb0.trans (hb1.mono (by simp)))
 have HO1:=hid (HO.out w1 (HK.out.later B1.out HK.out.pos))
 clear hb1 HC HO hb0
 go_wp2_with fail
 refine HO1.out.mono ?_
 rintro e w2 ⟨rfl,hb2⟩
 have u0 : w2.cell? ⟨w.heap.size,0,none⟩ = some (.int .u8 c):=(hb2.cell (by exact hx)).trans x0
 have u1 : w2.cell? ⟨w.heap.size,1,none⟩ = some (.int .i64 a):=(hb2.cell (by exact hx)).trans x1
 have u2 : w2.cell? ⟨w.heap.size,2,none⟩ = some (.slice la ln lc):=(hb2.cell (by exact hx)).trans x2
 have hx2:=block_lt_of_cell u0
 have B2:=hid (below_late B1.out hb2)
 clear hb2 HO1 B1 x0 x1 x2 hx
 obtain ⟨w3,hw3⟩ : ∃ w3,w2.alloc (.cells #[.int .u8 rc,.string wd,.int .i8 t,.string pp,.string ps,.bool pl] 214) = w3:=⟨_,rfl⟩
 have z3:=hid (show w3.heap.size = w2.heap.size + 1 by rw [← hw3]; simp)
 have b3 : Below w2.heap.size w2 w3:=by rw [← hw3]; exact (Below.refl _ _).alloc (Nat.le_refl _) _
 have B3:=hid (below_late B2.out b3)
 have O3:=hid (own_one w3 c w3.heap.size (Nat.le_refl _))
 have b4 : Below w3.heap.size w3 (w3.alloc (.cells #[.int .u8 c] 5)):=(Below.refl _ _).alloc (Nat.le_refl _) _
 have HW:=hid hw3
 clear hw3 b3
 by_cases t0 : t = 0
 ·subst t0
  go_wp2_with fail
  rw [HW.out]
  go_ret2
  refine ⟨_,rfl,?_,below_late B3.out b4⟩
  have h:=own_mono O3.out B3.out.size
  rw [z3.out] at h
  have hE0 : E = [c]:=by rw [← HE.out]; simp
  rw [hE0]
  exact h
 have e0 : (t == 0) = false:=by simp [t0]
 by_cases t8 : t = 8
 ·subst t8
  have SV:=hid (fun W => svarB a W (by omega) (by omega))
  have hul:=uvar_len (fo a)
  have HE2:=hid (show E = [c] ++ uvar (fo a) by rw [← HE.out]; simp)
  clear HE HL
  generalize uvar (fo a) = U at *
  go_wp2_with fail
  rw [HW.out]
  refine (SV.out _).mono ?_
  rintro e w4 ⟨B,rfl,hs4,hb4⟩
  have S4:=hid hs4
  have B4:=hid (b4.trans (hb4.mono b4.size))
  have O4:=hid (own_keep O3.out (fun B' hB => hb4.block B' (by simp [Value.ownBlock] at hB; simp; omega)))
  clear hs4 hb4 SV
  rw [← z3.out]
  go_wp2_with (at_builtin; (refine app_any _ rfl (.tmp 36) (.tmp 39) rfl w3.heap.size _ 1 [c] rfl O4.out _ _ _ U rfl S4.out (fun h => by cases h) (by omega) B4.out.size ?_; intro v5 w5 hown5 hb5; have O5:=hid hown5; have B5:=hid (B4.out.trans hb5); clear hown5 hb5))
  go_ret2
  refine ⟨_,rfl,?_,below_late B3.out B5.out⟩
  have h:=own_mono O5.out B3.out.size
  rw [HE2.out,show ([c] ++ U).length = 1 + U.length by simp; omega]
  exact h
 have e8 : (t == 8) = false:=by simp [t8]
 have hh:=hr.2.2 t8
 by_cases t3 : t = 3
 ·subst t3
  obtain ⟨q1,q2,q3⟩:=k4 rfl
  have UV:=hid (fun W => uvarB (ln : Int) W (by omega) (by omega))
  have hul:=uvar_len (ln : Int)
  have HE2:=hid (show E = ([c] ++ uvar (ln : Int)) ++ labB l by rw [← HE.out]; simp [hlen])
  have hw:=wrap_in (ln : Int) (by omega) (by omega)
  clear HE
  generalize uvar (ln : Int) = U at *
  go_wp2_with fail
  rw [HW.out]
  refine (UV.out _).mono ?_
  rintro e w4 ⟨B,rfl,hs4,hb4⟩
  have S4:=hid hs4
  have B4:=hid (b4.trans (hb4.mono b4.size))
  have O4:=hid (own_keep O3.out (fun B' hB => hb4.block B' (by simp [Value.ownBlock] at hB; simp; omega)))
  clear hs4 hb4 UV
  rw [← z3.out]
  go_wp2_with (at_builtin; (refine app_any _ rfl (.tmp 43) (.tmp 48) rfl w3.heap.size _ 1 [c] rfl O4.out _ _ _ U rfl S4.out (fun h => by cases h) (by omega) B4.out.size ?_; intro v5 w5 hown5 hb5; have O5:=hid hown5; have B5:=hid (B4.out.trans hb5); have f2 : w5.cell? ⟨w.heap.size,2,none⟩ = some (.slice la ln lc):=(B5.out.cell (by have:=z3.out; simp; omega)).trans ((by rw [← HW.out,World.cell?_alloc_past _ _ _ hx2]; exact u2)); clear hown5 hb5))
  have BW:=hid (below_late B3.out B5.out)
  have HQ:=hid q3
  have O5':=hid (show w5.ownsRow w3.heap.size 5 1 v5 (([c] ++ U) ++ labB (l.take 0)).length ((([c] ++ U) ++ labB (l.take 0)).map (Value.int .u8)) by
   have h:=O5.out
   rw [show 1 + U.length = (([c] ++ U) ++ labB (l.take 0)).length by simp [labB]; omega] at h
   simpa [labB] using h)
  have hU : ([c] ++ U).length ≤ 11:=by simp; omega
  generalize [c] ++ U = C at *
  clear O5 O4 S4 u0 u1 u2 f2
  go_loopw [7,53] (fun v i wr => ∃ k : Nat,k ≤ ln ∧ i = .int .i64 k ∧ wr.ownsRow w3.heap.size 5 1 v (C ++ labB (l.take k)).length ((C ++ labB (l.take k)).map (Value.int .u8)) ∧ Below w3.heap.size w3 wr) (fun _ i _ => ln - (intOf i).toNat)
  case atStart => exact ⟨0,Nat.zero_le _,rfl,O5'.out,B5.out⟩
  case round =>
   obtain ⟨k,hk,rfl,hown,hb⟩:=hrel
   have OW:=hid hown
   have BR:=hid hb
   clear hown hb O5' B5
   by_cases hlt : k < ln
   ·have hgood:=(okL_mem l).1 HQ.out
    rcases HL.out.2.2.2.2 with hz | ⟨b,off,rfl,hc⟩
    ·omega
    have hcell : wr.cell? ⟨b,off + k,none⟩ = some (.int .i64 (l.getD k 0)):=((below_late B3.out BR.out).cell (p:=⟨b,off + k,none⟩) (block_lt_of_cell (hc k hlt))).trans (hc k hlt)
    have hz : 0 ≤ l.getD k 0 ∧ l.getD k 0 ≤ 2147483647:=by
     have : k < l.length:=by omega
     simp only [List.getD_eq_getElem?_getD,List.getElem?_eq_getElem this,Option.getD_some]; exact hgood _ (List.getElem_mem this)
    have HT:=hid (labB_take l k (by omega))
    have hlab:=labB_len (l.take k)
    have hlt2 : (l.take k).length ≤ 16:=by simp; omega
    have hlen2 : (C ++ labB (l.take k)).length ≤ 171:=by rw [List.length_append]; omega
    generalize l.getD k 0 = z at *
    have UV:=hid (fun W => uvarB z W (by omega) (by omega))
    have hul2:=uvar_len z
    have hw2:=wrap_in z (by omega) (by omega)
    clear hc hgood hlab
    generalize uvar z = Z at *
    go_wp2_with fail
    refine (UV.out _).mono ?_
    rintro e w6 ⟨B',rfl,hs6,hb6⟩
    have S6:=hid hs6
    have B6:=hid (BR.out.trans (hb6.mono BR.out.size))
    have O6:=hid (own_keep OW.out (fun B'' hB => hb6.block B'' (by
     rcases OW.out.2 with ⟨rfl,_⟩ | ⟨g,cp,cur,rfl,hg,hh,_⟩
     ·simp [Value.ownBlock] at hB
     ·simp [Value.ownBlock] at hB; subst hB
      rcases Nat.lt_or_ge g wr.heap.size with h | h
      ·exact h
      ·rw [Array.getElem?_eq_none h] at hh; cases hh)))
    clear hs6 hb6 UV
    go_wp2_with (at_builtin; (refine app_any _ rfl (.tmp 57) (.tmp 60) rfl w3.heap.size _ _ (C ++ labB (l.take k)) rfl O6.out _ _ _ Z rfl S6.out (fun h => by cases h) (by omega) B6.out.size ?_; intro v7 w7 hown7 hb7; have O7:=hid hown7; have B7:=hid (B6.out.trans hb7); clear hown7 hb7))
    refine ⟨⟨k + 1,by omega,by go_num,?_,B7.out⟩,by simp [intOf]; omega⟩
    have h:=O7.out
    rw [HT.out,← List.append_assoc,@List.length_append Int (C ++ labB (l.take k)) Z]
    exact h
   ·go_wp2_with fail
    go_ret2
    refine ⟨_,rfl,?_,below_late B3.out BR.out⟩
    have h:=own_mono OW.out B3.out.size
    rw [List.take_of_length_le (by omega)] at h
    rw [HE2.out]
    exact h
 have e3 : (t == 3) = false:=by simp [t3]
 have UV:=hid (fun W => uvarB a W (by omega) (by omega))
 have hul:=uvar_len a
 have HE2:=hid (show E = [c] ++ uvar a by rw [← HE.out,if_neg t0,if_neg t8,if_neg t3]; rfl)
 have ha0 : 0 ≤ a:=by omega
 have ha1 : a ≤ 4294967295:=by omega
 clear HE HL
 generalize uvar a = U at *
 go_wp2_with fail
 rw [HW.out]
 refine (UV.out _).mono ?_
 rintro e w4 ⟨B,rfl,hs4,hb4⟩
 have S4:=hid hs4
 have B4:=hid (b4.trans (hb4.mono b4.size))
 have O4:=hid (own_keep O3.out (fun B' hB => hb4.block B' (by simp [Value.ownBlock] at hB; simp; omega)))
 clear hs4 hb4 UV
 rw [← z3.out]
 go_wp2_with (at_builtin; (refine app_any _ rfl (.tmp 26) (.tmp 30) rfl w3.heap.size _ 1 [c] rfl O4.out _ _ _ U rfl S4.out (fun h => by cases h) (by omega) B4.out.size ?_; intro v5 w5 hown5 hb5; have O5:=hid hown5; have B5:=hid (B4.out.trans hb5); clear hown5 hb5))
 go_ret2
 refine ⟨_,rfl,?_,below_late B3.out B5.out⟩
 have h:=own_mono O5.out B3.out.size
 rw [HE2.out,show ([c] ++ U).length = 1 + U.length by simp; omega]
 exact h
end Go.Proofs.YtepcmfegggdjfaaGreatDoor

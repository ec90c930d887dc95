/-
  Texts Enc Wn.
-/
import Derived.Test.YtmgjhfookhaajaaGreatDoorQ00
import Derived.Test.YtmgjhfookhaajaaGreatDoorQ01
import Derived.Test.YtmgjhfookhaajaaGreatDoorQ13
import Derived.Test.YtmgjhfookhaajaaGreatDoorQ14
import Derived.Test.YtmgjhfookhaajaaGreatDoorQ16
set_option linter.unusedVariables false
set_option maxRecDepth 100000
set_option maxHeartbeats 16000000
namespace Go.Proofs.YtmgjhfookhaajaaGreatDoor
open Go.RowKit
theorem own_one (w : World) (c : Int) (base : Nat) (hb : base ≤ w.heap.size) : (w.alloc (.cells #[.int .u8 c] 5)).ownsRow base 5 1 (.slice (some ⟨w.heap.size,0,none⟩) 1 1) 1 ([c].map (Value.int .u8)):=by
 refine ⟨rfl,.inr ⟨w.heap.size,1,#[.int .u8 c],rfl,hb,(MapKept.heap_alloc w _).1,Nat.le_refl _,by decide,rfl,rfl⟩⟩
theorem labB_append : ∀ (l m : List Int),labB (l ++ m) = labB l ++ labB m
 | [],m => rfl
 | z :: l,m => by simp [labB,labB_append l m,List.append_assoc]
theorem labB_take (l : List Int) (k : Nat) (hk : k < l.length) : labB (l.take (k + 1)) = labB (l.take k) ++ uvar (l.getD k 0):=by
 rw [List.take_succ_eq_append_getElem hk,labB_append]
 simp [labB,hk]
theorem uvarB (v : Int) (w : World) (h0 : 0 ≤ v) (h1 : v < 18446744073709551616) :
  Calls Tryz.prog 189 #[.int .u64 v] w fun e w' => ∃ B,e = .returned (.slice (some ⟨B,0,none⟩) (uvar v).length (uvar v).length) ∧ Seg w' (some ⟨B,0,none⟩) (uvar v).length (uvar v).length (uvar v) ∧ Below w.heap.size w w' :=
 (uvar17 v w h0 h1).mono fun e w' ⟨he,hs,hb,_⟩ => ⟨_,he,hs,hb⟩
theorem svarB (v : Int) (w : World) (h0 : -9223372036854775808 ≤ v) (h1 : v < 9223372036854775808) :
  Calls Tryz.prog 191 #[.int .i64 v] w fun e w' => ∃ B,e = .returned (.slice (some ⟨B,0,none⟩) (uvar (fo v)).length (uvar (fo v)).length) ∧ Seg w' (some ⟨B,0,none⟩) (uvar (fo v)).length (uvar (fo v)).length (uvar (fo v)) ∧ Below w.heap.size w w' :=
 (svar19 v w h0 h1).mono fun e w' ⟨he,hs,hb,_⟩ => ⟨_,he,hs,hb⟩
def encV (c a : Int) (l : List Int) : List Int:=c :: encB (tkV c) a l
theorem tkV_some {c : Int} (h : tkV c ≠ -1) : (ofV c).2 = true ∧ tkV c = (ofV c).1.2.2.1:=by
 unfold tkV at h ⊢
 cases hf : (ofV c).2
 ·rw [hf] at h; simp at h
 ·simp
theorem encode9_no (c a : Int) (la : Option Addr) (ln lc : Nat) (l : List Int) (w : World) (hk : KindsOk w) (h0 : 0 ≤ c) (h1 : c ≤ 255) (hl : SegI w la ln lc l) (hx : chk (tkV c) (lgV c) a l ≠ 0) :
  Calls Tryz.prog 190 #[insV c a (.slice la ln lc)] w fun e w' => e = .returned (.tuple #[.slice none 0 0,.int .i64 (chk (tkV c) (lgV c) a l)]) ∧ Below w.heap.size w w':=by
 have hb0 : Below w.heap.size w (w.alloc (.cells #[.int .u8 c,.int .i64 a,.slice la ln lc] 86)):=(Below.refl _ _).alloc (Nat.le_refl _) _
 have HC:=hid (check12 c a la ln lc l _ (hk.later hb0 hk.pos) h0 h1 (hl.later hb0 (Nat.le_refl _)))
 clear hl hk
 generalize chk (tkV c) (lgV c) a l = x at *
 have hx' : (x != 0) = true:=by simp [hx]
 unfold insV at *
 go_enter Tryz.func190,Tryz.ntmps190
 go_wp2_with fail
 refine HC.out.mono ?_
 rintro e w1 ⟨rfl,hb1⟩
 go_wp2_with fail
 go_ret2
 exact ⟨rfl,hb0.trans (hb1.mono (by simp))⟩
theorem below_late {w w1 w2 : World} (h1 : Below w.heap.size w w1) (h2 : Below w1.heap.size w1 w2) : Below w.heap.size w w2:=h1.trans (h2.mono h1.size)
theorem encode9 (c a : Int) (la : Option Addr) (ln lc : Nat) (l : List Int) (w : World) (hk : KindsOk w) (h0 : 0 ≤ c) (h1 : c ≤ 255) (hl : SegI w la ln lc l) (hx : chk (tkV c) (lgV c) a l = 0) :
  Calls Tryz.prog 190 #[insV c a (.slice la ln lc)] w fun e w' => ∃ v,e = .returned (.tuple #[v,.int .i64 0]) ∧ w'.ownsRow w.heap.size 5 1 v (encV c a l).length ((encV c a l).map (Value.int .u8)) ∧ Below w.heap.size w w':=by
 have hb0 : Below w.heap.size w (w.alloc (.cells #[.int .u8 c,.int .i64 a,.slice la ln lc] 86)):=(Below.refl _ _).alloc (Nat.le_refl _) _
 have hchk:=check12 c a la ln lc l _ (hk.later hb0 hk.pos) h0 h1 (hl.later hb0 (Nat.le_refl _))
 rw [hx] at hchk
 have HC:=hid hchk
 obtain ⟨k1,k2,k3,k4,k5⟩:=chk_ok hx
 obtain ⟨hf,ht⟩:=tkV_some k1
 have lr:=lo_range (tkV c) (lgV c)
 have hr:=hi_range (tkV c) (lgV c)
 have HO:=hid (fun W hW => of6 c W hW h0 h1)
 have hzero : tkV c = 0 ∨ tkV c = 3 → hi (tkV c) (lgV c) = 0:=by intro h; unfold hi; rw [if_pos h]
 unfold encV encB
 rw [ht] at k1 k2 k3 k4 k5 lr hr hzero ⊢
 generalize lgV c = g at *
 generalize ofV c = V at *
 obtain ⟨⟨rc,wd,t,pp,ps,pl⟩,fnd⟩:=V
 simp only [rv,rowV] at HO hf k1 k2 k3 k4 k5 lr hr hzero ⊢
 subst hf
 clear hx ht hchk
 have HL:=hid hl
 have hln:=hl.2.2.1
 have hlen:=hl.1
 have HK:=hid hk
 clear hl hk
 unfold insV at *
 obtain ⟨E,hE⟩ : ∃ E,c :: (if t = 0 then [] else if t = 8 then uvar (fo a) else if t = 3 then uvar l.length ++ labB l else uvar a) = E:=⟨_,rfl⟩
 rw [hE]
 have HE:=hid hE
 clear hE
 go_enter Tryz.func190,Tryz.ntmps190
 go_wp2_with fail
 refine HC.out.mono ?_
 rintro e w1 ⟨rfl,hb1⟩
 have x0 : w1.cell? ⟨w.heap.size,0,none⟩ = some (.int .u8 c):=by rw [hb1.cell (by simp)]; simp [go_sem]
 have x1 : w1.cell? ⟨w.heap.size,1,none⟩ = some (.int .i64 a):=by rw [hb1.cell (by simp)]; simp [go_sem]
 have x2 : w1.cell? ⟨w.heap.size,2,none⟩ = some (.slice la ln lc):=by rw [hb1.cell (by simp)]; simp [go_sem]
 have hx:=block_lt_of_cell x0
 have B1:=hid (hb0.trans (hb1.mono (by simp)))
 have HO1:=hid (HO.out w1 (HK.out.later B1.out HK.out.pos))
 clear hb1 HC HO hb0
 go_wp2_with fail
 refine HO1.out.mono ?_
 rintro e w2 ⟨rfl,hb2⟩
 have u0 : w2.cell? ⟨w.heap.size,0,none⟩ = some (.int .u8 c):=(hb2.cell (by exact hx)).trans x0
 have u1 : w2.cell? ⟨w.heap.size,1,none⟩ = some (.int .i64 a):=(hb2.cell (by exact hx)).trans x1
 have u2 : w2.cell? ⟨w.heap.size,2,none⟩ = some (.slice la ln lc):=(hb2.cell (by exact hx)).trans x2
 have hx2:=block_lt_of_cell u0
 have B2:=hid (below_late B1.out hb2)
 clear hb2 HO1 B1 x0 x1 x2 hx
 obtain ⟨w3,hw3⟩ : ∃ w3,w2.alloc (.cells #[.int .u8 rc,.string wd,.int .i8 t,.string pp,.string ps,.bool pl] 193) = w3:=⟨_,rfl⟩
 have z3:=hid (show w3.heap.size = w2.heap.size + 1 by rw [← hw3]; simp)
 have b3 : Below w2.heap.size w2 w3:=by rw [← hw3]; exact (Below.refl _ _).alloc (Nat.le_refl _) _
 have B3:=hid (below_late B2.out b3)
 have O3:=hid (own_one w3 c w3.heap.size (Nat.le_refl _))
 have b4 : Below w3.heap.size w3 (w3.alloc (.cells #[.int .u8 c] 5)):=(Below.refl _ _).alloc (Nat.le_refl _) _
 have HW:=hid hw3
 clear hw3 b3
 by_cases t0 : t = 0
 ·subst t0
  go_wp2_with fail
  rw [HW.out]
  go_ret2
  refine ⟨_,rfl,?_,below_late B3.out b4⟩
  have h:=own_mono O3.out B3.out.size
  rw [z3.out] at h
  have hE0 : E = [c]:=by rw [← HE.out]; simp
  rw [hE0]
  exact h
 have e0 : (t == 0) = false:=by simp [t0]
 by_cases t8 : t = 8
 ·subst t8
  have SV:=hid (fun W => svarB a W (by omega) (by omega))
  have hul:=uvar_len (fo a)
  have HE2:=hid (show E = [c] ++ uvar (fo a) by rw [← HE.out]; simp)
  clear HE HL
  generalize uvar (fo a) = U at *
  go_wp2_with fail
  rw [HW.out]
  refine (SV.out _).mono ?_
  rintro e w4 ⟨B,rfl,hs4,hb4⟩
  have S4:=hid hs4
  have B4:=hid (b4.trans (hb4.mono b4.size))
  have O4:=hid (own_keep O3.out (fun B' hB => hb4.block B' (by simp [Value.ownBlock] at hB; simp; omega)))
  clear hs4 hb4 SV
  rw [← z3.out]
  go_wp2_with (at_builtin; (refine app_any _ rfl (.tmp 36) (.tmp 39) rfl w3.heap.size _ 1 [c] rfl O4.out _ _ _ U rfl S4.out (fun h => by cases h) (by omega) B4.out.size ?_; intro v5 w5 hown5 hb5; have O5:=hid hown5; have B5:=hid (B4.out.trans hb5); clear hown5 hb5))
  go_ret2
  refine ⟨_,rfl,?_,below_late B3.out B5.out⟩
  have h:=own_mono O5.out B3.out.size
  rw [HE2.out,show ([c] ++ U).length = 1 + U.length by simp; omega]
  exact h
 have e8 : (t == 8) = false:=by simp [t8]
 have hh:=hr.2.2 t8
 by_cases t3 : t = 3
 ·subst t3
  obtain ⟨q1,q2,q3⟩:=k4 rfl
  have UV:=hid (fun W => uvarB (ln : Int) W (by omega) (by omega))
  have hul:=uvar_len (ln : Int)
  have HE2:=hid (show E = ([c] ++ uvar (ln : Int)) ++ labB l by rw [← HE.out]; simp [hlen])
  have hw:=wrap_in (ln : Int) (by omega) (by omega)
  clear HE
  generalize uvar (ln : Int) = U at *
  go_wp2_with fail
  rw [HW.out]
  refine (UV.out _).mono ?_
  rintro e w4 ⟨B,rfl,hs4,hb4⟩
  have S4:=hid hs4
  have B4:=hid (b4.trans (hb4.mono b4.size))
  have O4:=hid (own_keep O3.out (fun B' hB => hb4.block B' (by simp [Value.ownBlock] at hB; simp; omega)))
  clear hs4 hb4 UV
  rw [← z3.out]
  go_wp2_with (at_builtin; (refine app_any _ rfl (.tmp 43) (.tmp 48) rfl w3.heap.size _ 1 [c] rfl O4.out _ _ _ U rfl S4.out (fun h => by cases h) (by omega) B4.out.size ?_; intro v5 w5 hown5 hb5; have O5:=hid hown5; have B5:=hid (B4.out.trans hb5); have f2 : w5.cell? ⟨w.heap.size,2,none⟩ = some (.slice la ln lc):=(B5.out.cell (by have:=z3.out; simp; omega)).trans ((by rw [← HW.out,World.cell?_alloc_past _ _ _ hx2]; exact u2)); clear hown5 hb5))
  have BW:=hid (below_late B3.out B5.out)
  have HQ:=hid q3
  have O5':=hid (show w5.ownsRow w3.heap.size 5 1 v5 (([c] ++ U) ++ labB (l.take 0)).length ((([c] ++ U) ++ labB (l.take 0)).map (Value.int .u8)) by
   have h:=O5.out
   rw [show 1 + U.length = (([c] ++ U) ++ labB (l.take 0)).length by simp [labB]; omega] at h
   simpa [labB] using h)
  have hU : ([c] ++ U).length ≤ 11:=by simp; omega
  generalize [c] ++ U = C at *
  clear O5 O4 S4 u0 u1 u2 f2
  go_loopw [7,53] (fun v i wr => ∃ k : Nat,k ≤ ln ∧ i = .int .i64 k ∧ wr.ownsRow w3.heap.size 5 1 v (C ++ labB (l.take k)).length ((C ++ labB (l.take k)).map (Value.int .u8)) ∧ Below w3.heap.size w3 wr) (fun _ i _ => ln - (intOf i).toNat)
  case atStart => exact ⟨0,Nat.zero_le _,rfl,O5'.out,B5.out⟩
  case round =>
   obtain ⟨k,hk,rfl,hown,hb⟩:=hrel
   have OW:=hid hown
   have BR:=hid hb
   clear hown hb O5' B5
   by_cases hlt : k < ln
   ·have hgood:=(okL_mem l).1 HQ.out
    rcases HL.out.2.2.2.2 with hz | ⟨b,off,rfl,hc⟩
    ·omega
    have hcell : wr.cell? ⟨b,off + k,none⟩ = some (.int .i64 (l.getD k 0)):=((below_late B3.out BR.out).cell (p:=⟨b,off + k,none⟩) (block_lt_of_cell (hc k hlt))).trans (hc k hlt)
    have hz : 0 ≤ l.getD k 0 ∧ l.getD k 0 ≤ 2147483647:=by
     have : k < l.length:=by omega
     simp only [List.getD_eq_getElem?_getD,List.getElem?_eq_getElem this,Option.getD_some]; exact hgood _ (List.getElem_mem this)
    have HT:=hid (labB_take l k (by omega))
    have hlab:=labB_len (l.take k)
    have hlt2 : (l.take k).length ≤ 16:=by simp; omega
    have hlen2 : (C ++ labB (l.take k)).length ≤ 171:=by rw [List.length_append]; omega
    generalize l.getD k 0 = z at *
    have UV:=hid (fun W => uvarB z W (by omega) (by omega))
    have hul2:=uvar_len z
    have hw2:=wrap_in z (by omega) (by omega)
    clear hc hgood hlab
    generalize uvar z = Z at *
    go_wp2_with fail
    refine (UV.out _).mono ?_
    rintro e w6 ⟨B',rfl,hs6,hb6⟩
    have S6:=hid hs6
    have B6:=hid (BR.out.trans (hb6.mono BR.out.size))
    have O6:=hid (own_keep OW.out (fun B'' hB => hb6.block B'' (by
     rcases OW.out.2 with ⟨rfl,_⟩ | ⟨g,cp,cur,rfl,hg,hh,_⟩
     ·simp [Value.ownBlock] at hB
     ·simp [Value.ownBlock] at hB; subst hB
      rcases Nat.lt_or_ge g wr.heap.size with h | h
      ·exact h
      ·rw [Array.getElem?_eq_none h] at hh; cases hh)))
    clear hs6 hb6 UV
    go_wp2_with (at_builtin; (refine app_any _ rfl (.tmp 57) (.tmp 60) rfl w3.heap.size _ _ (C ++ labB (l.take k)) rfl O6.out _ _ _ Z rfl S6.out (fun h => by cases h) (by omega) B6.out.size ?_; intro v7 w7 hown7 hb7; have O7:=hid hown7; have B7:=hid (B6.out.trans hb7); clear hown7 hb7))
    refine ⟨⟨k + 1,by omega,by go_num,?_,B7.out⟩,by simp [intOf]; omega⟩
    have h:=O7.out
    rw [HT.out,← List.append_assoc,@List.length_append Int (C ++ labB (l.take k)) Z]
    exact h
   ·go_wp2_with fail
    go_ret2
    refine ⟨_,rfl,?_,below_late B3.out BR.out⟩
    have h:=own_mono OW.out B3.out.size
    rw [List.take_of_length_le (by omega)] at h
    rw [HE2.out]
    exact h
 have e3 : (t == 3) = false:=by simp [t3]
 have UV:=hid (fun W => uvarB a W (by omega) (by omega))
 have hul:=uvar_len a
 have HE2:=hid (show E = [c] ++ uvar a by rw [← HE.out,if_neg t0,if_neg t8,if_neg t3]; rfl)
 have ha0 : 0 ≤ a:=by omega
 have ha1 : a ≤ 4294967295:=by omega
 clear HE HL
 generalize uvar a = U at *
 go_wp2_with fail
 rw [HW.out]
 refine (UV.out _).mono ?_
 rintro e w4 ⟨B,rfl,hs4,hb4⟩
 have S4:=hid hs4
 have B4:=hid (b4.trans (hb4.mono b4.size))
 have O4:=hid (own_keep O3.out (fun B' hB => hb4.block B' (by simp [Value.ownBlock] at hB; simp; omega)))
 clear hs4 hb4 UV
 rw [← z3.out]
 go_wp2_with (at_builtin; (refine app_any _ rfl (.tmp 26) (.tmp 30) rfl w3.heap.size _ 1 [c] rfl O4.out _ _ _ U rfl S4.out (fun h => by cases h) (by omega) B4.out.size ?_; intro v5 w5 hown5 hb5; have O5:=hid hown5; have B5:=hid (B4.out.trans hb5); clear hown5 hb5))
 go_ret2
 refine ⟨_,rfl,?_,below_late B3.out B5.out⟩
 have h:=own_mono O5.out B3.out.size
 rw [HE2.out,show ([c] ++ U).length = 1 + U.length by simp; omega]
 exact h
def W318 (w : World) (c a : Int) (la : Option Addr) (ln lc : Nat) : World:=(w.alloc (.cells #[.int .u8 c,.int .i64 a,.slice la ln lc] 86)).alloc (.cells #[.int .u8 0,.int .i64 0,.slice none 0 0] 86)
theorem w318_facts (w : World) (c a : Int) (la : Option Addr) (ln lc : Nat) : Below w.heap.size w (W318 w c a la ln lc) ∧ (W318 w c a la ln lc).heap.size = w.heap.size + 1 + 1 ∧ (W318 w c a la ln lc).heap[w.heap.size]? = some (.cells #[.int .u8 c,.int .i64 a,.slice la ln lc] 86) ∧ (W318 w c a la ln lc).heap[w.heap.size + 1]? = some (.cells #[.int .u8 0,.int .i64 0,.slice none 0 0] 86):=by
 unfold W318
 refine ⟨((Below.refl _ w).alloc (Nat.le_refl _) _).alloc (by simp) _,by simp,?_,?_⟩
 ·rw [(below_new (w.alloc _) _).block _ (by simp)]
  exact (MapKept.heap_alloc w _).1
 ·have:=(MapKept.heap_alloc (w.alloc (.cells #[.int .u8 c,.int .i64 a,.slice la ln lc] 86)) (.cells #[.int .u8 0,.int .i64 0,.slice none 0 0] 86)).1
  simpa using this
section
variable (R g cap : Nat) (bs : List Int) (c a : Int) (la : Option Addr) (ln lc : Nat) (l : List Int) (w : World)
theorem ins318_no (h : Wr w R g cap bs) (hk : KindsOk w) (h0 : 0 ≤ c) (h1 : c ≤ 255) (hl : SegI w la ln lc l) (hx : chk (tkV c) (lgV c) a l ≠ 0) :
  Calls Tryz.prog 182 #[.pointer (some ⟨R,0,none⟩),insV c a (.slice la ln lc)] w (Throws R g (chk (tkV c) (lgV c) a l) w):=by
 obtain ⟨B0,z0,x0,x1⟩:=w318_facts w c a la ln lc
 have HW : (w.alloc (.cells #[.int .u8 c,.int .i64 a,.slice la ln lc] 86)).alloc (.cells #[.int .u8 0,.int .i64 0,.slice none 0 0] 86) = W318 w c a la ln lc:=rfl
 generalize W318 w c a la ln lc = W1 at *
 have HE:=hid (encode9_no c a la ln lc l W1 (hk.later B0 hk.pos) h0 h1 (hl.later B0 (Nat.le_refl _)) hx)
 have hRl:=h.lt
 have H1:=hid (h.later B0)
 have BW:=hid B0
 obtain ⟨a0,a1,a2,_,_,_⟩:=three_cells x0
 generalize chk (tkV c) (lgV c) a l = x at *
 have hx' : (x == 0) = false:=by simp [hx]
 clear h hk hl B0
 unfold insV at *
 go_enter Tryz.func182,Tryz.ntmps182
 go_wp2_with fail
 refine HE.out.mono ?_
 rintro e w2 ⟨rfl,hb2⟩
 have H2:=H1.out.later hb2
 have c0:=H2.c0
 have B2:=hid (below_then BW.out hb2)
 clear hb2 HE
 go_wp2_with fail
 refine (place321 R _ _ _ _ c0).mono ?_
 rintro e w3 ⟨rfl,rfl⟩
 go_wp2_with fail
 refine (bars_of (by first | rfl | exact hx')).mono ?_
 rintro e w4 ⟨rfl,rfl⟩
 exact ⟨rfl,⟨_,rfl⟩,kept_of B2.out⟩
theorem ins318_yes (h : Wr w R g cap bs) (hb : bs.length + 1000 ≤ 1099511627776) (hk : KindsOk w) (h0 : 0 ≤ c) (h1 : c ≤ 255) (hl : SegI w la ln lc l) (hx : chk (tkV c) (lgV c) a l = 0) :
  Calls Tryz.prog 182 #[.pointer (some ⟨R,0,none⟩),insV c a (.slice la ln lc)] w (Puts R g bs (encV c a l) (insV c a (.slice la ln lc)) w):=by
 obtain ⟨B0,z0,x0,x1⟩:=w318_facts w c a la ln lc
 have HW : (w.alloc (.cells #[.int .u8 c,.int .i64 a,.slice la ln lc] 86)).alloc (.cells #[.int .u8 0,.int .i64 0,.slice none 0 0] 86) = W318 w c a la ln lc:=rfl
 generalize W318 w c a la ln lc = W1 at *
 have HE:=hid (encode9 c a la ln lc l W1 (hk.later B0 hk.pos) h0 h1 (hl.later B0 (Nat.le_refl _)) hx)
 have hle : (encV c a l).length ≤ 171:=by
  have:=chk_ok hx
  have h16 : l.length ≤ 16:=by
   by_cases ht : tkV c = 3
   ·exact (this.2.2.2.1 ht).2.1
   ·rw [this.2.2.2.2 ht]; simp
  have:=encB_len (tkV c) a l h16
  simp [encV]; omega
 have hpos : 0 < (encV c a l).length:=by simp [encV]
 have hmem : ∀ z ∈ encV c a l,0 ≤ z ∧ z ≤ 255:=by
  intro z hz
  simp only [encV,List.mem_cons] at hz
  rcases hz with rfl | hz
  ·exact ⟨h0,h1⟩
  ·exact encB_mem hx z hz
 have hRl:=h.lt
 have hgl:=h.g_lt
 have H1:=hid (h.later B0)
 have BW:=hid B0
 have HMEM:=hid hmem
 obtain ⟨a0,a1,a2,_,_,_⟩:=three_cells x0
 generalize encV c a l = E at *
 clear h hk hl B0 hx hmem
 unfold insV at *
 go_enter Tryz.func182,Tryz.ntmps182
 go_wp2_with fail
 refine HE.out.mono ?_
 rintro e w2 ⟨v,rfl,ho,hb2⟩
 obtain ⟨va,vc,rfl,hsg,_⟩:=seg_of_own ho (by omega) HMEM.out
 have H2:=H1.out.later hb2
 have c0:=H2.c0
 have B2:=hid (below_then BW.out hb2)
 have SG:=hid hsg
 have W2:=hid H2
 have y0:=(hb2.block w.heap.size (by omega)).trans x0
 have y1:=(hb2.block (w.heap.size + 1) (by omega)).trans x1
 have z2:=hb2.size
 clear hb2 HE ho hsg H2
 go_wp2_with fail
 refine (place321 R _ _ _ _ c0).mono ?_
 rintro e w3 ⟨rfl,rfl⟩
 go_wp2_with fail
 refine (asks_of rfl).mono ?_
 rintro e w4 ⟨rfl,rfl⟩
 clear c0
 go_wp2_with fail
 refine (put324 R g cap bs va E.length vc E _ W2.out SG.out hpos (by omega)).mono ?_
 rintro e w5 ⟨rfl,g',cap',hw5,hs5⟩
 have q0:=(hs5.block (b:=w.heap.size) (by omega) (by omega) (by omega)).trans y0
 have q1:=(hs5.block (b:=w.heap.size + 1) (by omega) (by omega) (by omega)).trans y1
 have n1 : w.heap.size + 1 ≠ g':=hs5.ne (by omega) (by omega)
 obtain ⟨b0,b1,b2,_,_,_⟩:=three_cells q0
 obtain ⟨k0,k1,k2,k3,k4,k5⟩:=three_cells q1
 have hl0:=block_lt_of_cell b0
 have hl1:=block_lt_of_cell k0
 have W5:=hid hw5
 have S5:=hid ((Stp.of_below B2.out).trans hs5)
 clear hw5 hs5 y0 y1 x0 x1 a0 a1 a2 q0 q1
 go_wp2_with fail
 refine bodyPost_ret (v:=.agg #[.int .u8 c,.int .i64 a,.slice la ln lc]) ?_ rfl ⟨rfl,g',cap',?_,?_⟩
 ·rw [results_cell1 rfl]
  go_simp
 ·exact ((W5.out.set (b:=w.heap.size + 1) (by omega) n1).set (b:=w.heap.size + 1) (by omega) n1).set (b:=w.heap.size + 1) (by omega) n1
 ·exact ((S5.out.set (by omega)).set (by omega)).set (by omega)
variable (A : Nat) (aa : Option Addr) (an ac : Nat)
theorem ask195_no (h : Wr w R g cap bs) (hk : KindsOk w) (h0 : 0 ≤ c) (h1 : c ≤ 255) (hl : SegI w la ln lc l) (hA : w.cell? ⟨A,0,none⟩ = some (cW R)) (hx : chk (tkV c) (lgV c) a l ≠ 0) :
  Calls Tryz.prog 120 #[insV c a (.slice la ln lc),.slice aa an ac,.pointer (some ⟨A,0,none⟩)] w (Throws R g (chk (tkV c) (lgV c) a l) w):=by
 have hm:=meth_instruction
 have hc:=enter318
 obtain ⟨B0,z0,x0,x1⟩:=w318_facts w c a la ln lc
 have HW : (w.alloc (.cells #[.int .u8 c,.int .i64 a,.slice la ln lc] 86)).alloc (.cells #[.int .u8 0,.int .i64 0,.slice none 0 0] 86) = W318 w c a la ln lc:=rfl
 have hA1 : (W318 w c a la ln lc).cell? ⟨A,0,none⟩ = some (cW R):=(B0.cell (by exact block_lt_of_cell hA)).trans hA
 have HE:=hid (ins318_no R g cap bs c a la ln lc l _ (h.later B0) (hk.later B0 hk.pos) h0 h1 (hl.later B0 (Nat.le_refl _)) hx)
 generalize W318 w c a la ln lc = W1 at *
 have BW:=hid B0
 obtain ⟨a0,a1,a2,_,_,_⟩:=three_cells x0
 generalize chk (tkV c) (lgV c) a l = x at *
 clear h hk hl B0 hA
 unfold insV at *
 go_enter Tryz.func120,Tryz.ntmps120
 go_wp2_with fail
 refine HE.out.mono ?_
 rintro e w2 ⟨⟨q,rfl⟩,hk2⟩
 exact ⟨rfl,⟨q,rfl⟩,(kept_of BW.out).trans hk2⟩
theorem ask195_yes (h : Wr w R g cap bs) (hb : bs.length + 1000 ≤ 1099511627776) (hk : KindsOk w) (h0 : 0 ≤ c) (h1 : c ≤ 255) (hl : SegI w la ln lc l) (hA : w.cell? ⟨A,0,none⟩ = some (cW R)) (hx : chk (tkV c) (lgV c) a l = 0) :
  Calls Tryz.prog 120 #[insV c a (.slice la ln lc),.slice aa an ac,.pointer (some ⟨A,0,none⟩)] w (Puts R g bs (encV c a l) (insV c a (.slice la ln lc)) w):=by
 have hm:=meth_instruction
 have hc:=enter318
 obtain ⟨B0,z0,x0,x1⟩:=w318_facts w c a la ln lc
 have HW : (w.alloc (.cells #[.int .u8 c,.int .i64 a,.slice la ln lc] 86)).alloc (.cells #[.int .u8 0,.int .i64 0,.slice none 0 0] 86) = W318 w c a la ln lc:=rfl
 have hA1 : (W318 w c a la ln lc).cell? ⟨A,0,none⟩ = some (cW R):=(B0.cell (by exact block_lt_of_cell hA)).trans hA
 have HE:=hid (ins318_yes R g cap bs c a la ln lc l _ (h.later B0) hb (hk.later B0 hk.pos) h0 h1 (hl.later B0 (Nat.le_refl _)) hx)
 have hRl:=h.lt
 have hgl:=h.g_lt
 generalize W318 w c a la ln lc = W1 at *
 have BW:=hid B0
 obtain ⟨a0,a1,a2,_,_,_⟩:=three_cells x0
 generalize encV c a l = E at *
 clear h hk hl B0 hA hx
 unfold insV at *
 go_enter Tryz.func120,Tryz.ntmps120
 go_wp2_with fail
 refine HE.out.mono ?_
 rintro e w5 ⟨rfl,g',cap',hw5,hs5⟩
 have q1:=(hs5.block (b:=w.heap.size + 1) (by omega) (by omega) (by omega)).trans x1
 have n1 : w.heap.size + 1 ≠ g':=hs5.ne (by omega) (by omega)
 obtain ⟨k0,k1,k2,k3,k4,k5⟩:=three_cells q1
 have hl1:=block_lt_of_cell k0
 have W5:=hid hw5
 have S5:=hid ((Stp.of_below BW.out).trans hs5)
 clear hw5 hs5 x0 x1 a0 a1 a2 q1 HE
 go_wp2_with fail
 refine bodyPost_ret (v:=.agg #[.int .u8 c,.int .i64 a,.slice la ln lc]) ?_ rfl ⟨rfl,g',cap',?_,?_⟩
 ·rw [results_cell1 rfl]
  go_simp
 ·exact ((W5.out.set (b:=w.heap.size + 1) (by omega) n1).set (b:=w.heap.size + 1) (by omega) n1).set (b:=w.heap.size + 1) (by omega) n1
 ·exact ((S5.out.set (by omega)).set (by omega)).set (by omega)
end
end Go.Proofs.YtmgjhfookhaajaaGreatDoor

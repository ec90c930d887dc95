/-
  Texts Ze Yh Zf Zg.
-/
import Derived.ArgAppend
import Derived.Below
import Derived.BigQuiet
import Derived.Deep.AppendLies
import Derived.Deep.CutRange
import Derived.Deep.OwnRows
import Derived.Deep.QuietTactic
import Derived.Deep.RegionHeld3
import Derived.Deep.RegionWith
import Derived.Defers
import Derived.Ground.Names2Prog
import Derived.Handy
import Derived.KernelRfl
import Derived.Laws.AppendOwnNone
import Derived.Laws.BitsAllLaws
import Derived.Laws.BytesArg
import Derived.Lib.Bytealg
import Derived.Lib.CutLaws
import Derived.Lib.SlBytesConst
import Derived.LoopIn
import Derived.LoopNIn
import Derived.OwnWalkIn
import Derived.RangeFuncBox
import Derived.RangeFuncCalls
import Derived.RangeFuncLeaves
import Derived.RangeFuncWrites
import Derived.Recover
import Derived.RegionDies
import Derived.RowKit
import Derived.Shelf.Abstract
import Derived.Shelf.LaysM
import Derived.Shelf.RegionOpen
import Derived.Shelf.Slices.Cells
import Derived.Shelf.Slices.CompactI
import Derived.Shelf.Slices.In.SortNone
import Derived.Shelf.Sort.Plain
import Derived.Shelf.Strings.Search1
import Derived.Shelf.Strings.Search2
import Derived.Shelf.Strings.Search3
import Derived.Shelf.Strings.Shaped
import Derived.Shelf.Unicode.DecodeSlow
import Derived.Sort.OwnSortedInts
import Derived.TacticsInMore
import Derived.Test.YtepnnenohjfkbaaGreatDoorProg
import Derived.WalkKit
import Derived.WalkLawsBesides
import Derived.WalkMore
import Derived.WalkSpells
import Derived.Test.YtepnnenohjfkbaaGreatDoorR33
import Derived.Test.YtepnnenohjfkbaaGreatDoorS00
import Derived.Test.YtepnnenohjfkbaaGreatDoorS01
import Derived.Test.YtepnnenohjfkbaaGreatDoorS02
import Derived.Test.YtepnnenohjfkbaaGreatDoorS03
import Derived.Test.YtepnnenohjfkbaaGreatDoorS04
import Derived.Test.YtepnnenohjfkbaaGreatDoorS05
import Derived.Test.YtepnnenohjfkbaaGreatDoorS06
import Derived.Test.YtepnnenohjfkbaaGreatDoorS07
import Derived.Test.YtepnnenohjfkbaaGreatDoorS08
import Derived.Test.YtepnnenohjfkbaaGreatDoorS09
set_option linter.unusedVariables false
set_option maxRecDepth 100000
set_option maxHeartbeats 16000000
namespace Go.Proofs.YtepnnenohjfkbaaGreatDoor
open Go.RowKit
structure AgS (w : World) (m : MM) (kf N cc fb foff cb coff tb toff kt SH : Nat) (R : ByteArray) (St : Nat → ByteArray) (xs : List Inx) : Prop where
 g0 : w.cell? ⟨fb,foff + kf * 3,none⟩ = some (.int .i64 kt)
 g2 : w.cell? ⟨fb,foff + kf * 3 + 2,none⟩ = some (.slice (some ⟨cb,coff,none⟩) N cc)
 gt : w.cell? ⟨tb,toff + kt * 2 + 1,none⟩ = some (.string R)
 cod : Cod w cb coff N xs
 sh : ∀ j,j < N → w.cell? ⟨SH,j,none⟩ = some (.string (St j))
theorem AgS.later {w w' : World} {m : MM} {kf N cc fb foff cb coff tb toff kt SH : Nat} {R : ByteArray} {St : Nat → ByteArray} {xs : List Inx} (h : AgS w m kf N cc fb foff cb coff tb toff kt SH R St xs) (hb : Below w.heap.size w w') : AgS w' m kf N cc fb foff cb coff tb toff kt SH R St xs :=
 ⟨later_cell hb h.g0,later_cell hb h.g2,later_cell hb h.gt,h.cod.later hb (Nat.le_refl _),fun j hj => later_cell hb (h.sh j hj)⟩
structure AgP (N i : Nat) (hi : Nat) (R : ByteArray) (St : Nat → ByteArray) (xs : List Inx) : Prop where
 res : (res (opF xs) N 0).1 = 0
 ln : ∀ j,j < N → (xs.getD j dx).ln ≤ 100000
 sz : ∀ j,(St j).size ≤ 256
 hi : ∀ j,j < N → (St j).size ≤ hi
 plain : (refR refTab (opF xs i)).2.2.2.2.2 = true → ends (St i) (refR refTab (opF xs i)).2.2.2.1 = true ∧ i + 1 < N ∧ St (i + 1) = (St i).extract 0 ((St i).size - (refR refTab (opF xs i)).2.2.2.1.size) ++ (refR refTab (opF xs i)).2.2.2.2.1
 ways : ∀ z ∈ pls (opF xs) N i (opF xs i) (xs.getD i dx).a (xs.getD i dx).l,(z = N ∧ Outz (opF xs i) (St i) R) ∨ ∃ k : Nat,z = k ∧ k < N ∧ (St k).size ≤ (St i).size + 8
theorem agrees12 (w : World) (m : MM) (kf N cc fb foff cb coff tb toff kt SH EN EL FL i hi : Nat) (R : ByteArray) (St : Nat → ByteArray) (xs : List Inx) (hfa : m.fa = some ⟨fb,foff,none⟩) (hta : m.ta = some ⟨tb,toff,none⟩) (hkf : kf < m.fn) (hkt : kt < m.tn) (hm1 : m.fn ≤ 1000000) (hm2 : m.tn ≤ 1000000) (hi' : i < N) (hN : N ≤ 2048) (hcc : N ≤ cc) (hR : R.size ≤ 256) (hh : hi ≤ 256)
  (hA : AgS w m kf N cc fb foff cb coff tb toff kt SH R St xs) (hP : AgP N i hi R St xs) :
  Calls Tryz.prog 12 #[.agg (mV m),.int .i64 kf,.agg #[.slice (some ⟨SH,0,none⟩) N N,.slice (some ⟨EN,0,none⟩) N N,.slice (some ⟨EL,0,none⟩) N N,.slice (some ⟨FL,0,none⟩) N N,.int .i64 hi],.int .i64 i] w fun e w' => e = .returned (.bool true) ∧ Below w.heap.size w w':=by
 have B0:=below_new w (.cells (mV m) 29)
 have b0:=heap_alloc_new w (.cells (mV m) 29)
 have hz0 : (w.alloc (.cells (mV m) 29)).heap.size = w.heap.size + 1:=by simp
 unfold mV at B0 b0 hz0 ⊢
 rw [hfa,hta] at B0 b0 hz0 ⊢
 have B1:=below_new (w.alloc (.cells #[.slice (some ⟨tb,toff,none⟩) m.tn m.tc,.slice m.ha m.hn m.hc,.slice m.ga m.gn m.gc,.int .i64 m.fi,.int .i64 m.mo,.slice (some ⟨fb,foff,none⟩) m.fn m.fc,.slice m.da m.dn m.dc,.slice m.ea m.en m.ec] 29)) (.cells #[.slice (some ⟨SH,0,none⟩) N N,.slice (some ⟨EN,0,none⟩) N N,.slice (some ⟨EL,0,none⟩) N N,.slice (some ⟨FL,0,none⟩) N N,.int .i64 hi] 39)
 have hA1:=(hA.later B0).later B1
 have i0:=hA1.cod.op hi'
 have i1:=hA1.cod.num hi'
 have i2:=hA1.cod.lab hi'
 obtain ⟨g0,g2,gt,gcd,gs⟩:=hA1
 have gs0:=gs i hi'
 have HA:=hid hA
 have HP:=hid hP
 clear hA hP gs
 go_enter Tryz.func12,Tryz.ntmps12
 go_wp2_with fail
 have e7:=ref7 (opF xs i) (((w.alloc (.cells #[.slice (some ⟨tb,toff,none⟩) m.tn m.tc,.slice m.ha m.hn m.hc,.slice m.ga m.gn m.gc,.int .i64 m.fi,.int .i64 m.mo,.slice (some ⟨fb,foff,none⟩) m.fn m.fc,.slice m.da m.dn m.dc,.slice m.ea m.en m.ec] 29)).alloc (.cells #[.slice (some ⟨SH,0,none⟩) N N,.slice (some ⟨EN,0,none⟩) N N,.slice (some ⟨EL,0,none⟩) N N,.slice (some ⟨FL,0,none⟩) N N,.int .i64 hi] 39)).alloc (.cells #[.int .u8 (opF xs i),.int .i64 (xs[i]?.getD dx).a,.slice (xs[i]?.getD dx).la (xs[i]?.getD dx).ln (xs[i]?.getD dx).lc] 51))
 refine e7.mono ?_
 clear e7
 rintro e w1 ⟨rfl,hw1⟩
 rw [refLook_eq]
 have h1 : ((w.alloc (.cells #[.slice (some ⟨tb,toff,none⟩) m.tn m.tc,.slice m.ha m.hn m.hc,.slice m.ga m.gn m.gc,.int .i64 m.fi,.int .i64 m.mo,.slice (some ⟨fb,foff,none⟩) m.fn m.fc,.slice m.da m.dn m.dc,.slice m.ea m.en m.ec] 29)).alloc (.cells #[.slice (some ⟨SH,0,none⟩) N N,.slice (some ⟨EN,0,none⟩) N N,.slice (some ⟨EL,0,none⟩) N N,.slice (some ⟨FL,0,none⟩) N N,.int .i64 hi] 39)).heap.size = w.heap.size + 1 + 1:=by simp
 have b1:=heap_alloc_new (w.alloc (.cells #[.slice (some ⟨tb,toff,none⟩) m.tn m.tc,.slice m.ha m.hn m.hc,.slice m.ga m.gn m.gc,.int .i64 m.fi,.int .i64 m.mo,.slice (some ⟨fb,foff,none⟩) m.fn m.fc,.slice m.da m.dn m.dc,.slice m.ea m.en m.ec] 29)) (.cells #[.slice (some ⟨SH,0,none⟩) N N,.slice (some ⟨EN,0,none⟩) N N,.slice (some ⟨EL,0,none⟩) N N,.slice (some ⟨FL,0,none⟩) N N,.int .i64 hi] 39)
 have c0:=blk_later B1 b0
 have B01:=B0.trans (B1.mono B0.size)
 rw [hz0] at b1
 clear B0 B1
 generalize ((w.alloc (.cells #[.slice (some ⟨tb,toff,none⟩) m.tn m.tc,.slice m.ha m.hn m.hc,.slice m.ga m.gn m.gc,.int .i64 m.fi,.int .i64 m.mo,.slice (some ⟨fb,foff,none⟩) m.fn m.fc,.slice m.da m.dn m.dc,.slice m.ea m.en m.ec] 29)).alloc (.cells #[.slice (some ⟨SH,0,none⟩) N N,.slice (some ⟨EN,0,none⟩) N N,.slice (some ⟨EL,0,none⟩) N N,.slice (some ⟨FL,0,none⟩) N N,.int .i64 hi] 39)) = W1 at *
 have B2:=below_new W1 (.cells #[.int .u8 (opF xs i),.int .i64 (xs[i]?.getD dx).a,.slice (xs[i]?.getD dx).la (xs[i]?.getD dx).ln (xs[i]?.getD dx).lc] 51)
 have b2:=heap_alloc_new W1 (.cells #[.int .u8 (opF xs i),.int .i64 (xs[i]?.getD dx).a,.slice (xs[i]?.getD dx).la (xs[i]?.getD dx).ln (xs[i]?.getD dx).lc] 51)
 rw [h1] at b2
 have d0:=blk_later B2 c0
 have d1:=blk_later B2 b1
 have B02:=B01.trans (B2.mono B01.size)
 clear B2 B01
 generalize (W1.alloc (.cells #[.int .u8 (opF xs i),.int .i64 (xs[i]?.getD dx).a,.slice (xs[i]?.getD dx).la (xs[i]?.getD dx).ln (xs[i]?.getD dx).lc] 51)) = W2 at *
 have B3:=below_new W2 (.cells (refLook refTab (opF xs i)).1 74)
 rw [← hw1] at B3
 have HB:=hid (B02.trans (B3.mono B02.size))
 have HM0:=hid (blk_later B3 d0)
 have HT0:=hid (blk_later B3 d1)
 have HX0:=hid (blk_later B3 b2)
 clear B3 b0 b1 b2 c0 d0 d1 B02 hw1 W2 h1 hz0 g0 g2 gt i0 i1 i2 gs0 gcd W1
 have HP2:=HP.out.plain
 rcases hrr : refR refTab (opF xs i) with ⟨k0,wd,tk,pp,ps,pl⟩
 rw [hrr] at HP2
 dsimp only at HP2
 clear hrr
 generalize (refLook refTab (opF xs i)).2 = fnd
 unfold rv rowV
 dsimp only
 have B4:=below_new w1 (.cells #[.int .u8 k0,.string wd,.int .i8 tk,.string pp,.string ps,.bool pl] 74)
 have b4:=heap_alloc_new w1 (.cells #[.int .u8 k0,.string wd,.int .i8 tk,.string pp,.string ps,.bool pl] 74)
 have HB4:=hid (HB.out.trans (B4.mono HB.out.size))
 have HM4:=hid (blk_later B4 HM0.out)
 have HT4:=hid (blk_later B4 HT0.out)
 have HX4:=hid (blk_later B4 HX0.out)
 have HR4:=hid b4
 have t0 : (w1.alloc (.cells #[.int .u8 k0,.string wd,.int .i8 tk,.string pp,.string ps,.bool pl] 74)).cell? ⟨w.heap.size + 1,0,none⟩ = some (.slice (some ⟨SH,0,none⟩) N N):=cell_at HT4.out
 have hA4:=HA.out.later HB4.out
 have gs0:=hA4.sh i hi'
 have q5 : (w1.alloc (.cells #[.int .u8 k0,.string wd,.int .i8 tk,.string pp,.string ps,.bool pl] 74)).cell? ⟨w1.heap.size,5,none⟩ = some (.bool pl):=cell_at b4
 have q3 : (w1.alloc (.cells #[.int .u8 k0,.string wd,.int .i8 tk,.string pp,.string ps,.bool pl] 74)).cell? ⟨w1.heap.size,3,none⟩ = some (.string pp):=cell_at b4
 have q4 : (w1.alloc (.cells #[.int .u8 k0,.string wd,.int .i8 tk,.string pp,.string ps,.bool pl] 74)).cell? ⟨w1.heap.size,4,none⟩ = some (.string ps):=cell_at b4
 clear B4 b4 hA4 HM0 HT0 HX0 HB
 by_cases hpl : pl = true
 ·subst hpl
  obtain ⟨r1,r2,r3⟩:=HP2 rfl
  have gs1:=(HA.out.later HB4.out).sh (i + 1) r2
  have hsi:=HP.out.sz i
  have HE:=hid (ends33 (St i) pp)
  have hle : pp.size ≤ (St i).size:=by
   rw [ends_iff] at r1
   have:=r1.length_le
   rwa [bl_len,bl_len] at this
  have hlo : (((St i).size : Int) - (pp.size : Int) + 9223372036854775808) % 18446744073709551616 - 9223372036854775808 = (((St i).size - pp.size : Nat) : Int):=by omega
  have hi2 : ((i : Int) + 1) < (N : Int):=by omega
  have HR1:=hid r1
  rw [r3] at gs1
  have hps : ((St i).extract 0 ((St i).size - pp.size)).size + ps.size ≤ 256:=by
   have:=HP.out.sz (i + 1)
   rw [r3,ByteArray.size_append] at this
   exact this
  have hps2 : ps.size ≤ 256:=by omega
  have hps3 : ((St i).extract 0 ((St i).size - pp.size)).size ≤ 256:=by omega
  clear r1 r3 HP2
  have BQ:=hid (fun (q : Nat) => (below_drewN (w1.alloc (.cells #[.int .u8 k0,.string wd,.int .i8 tk,.string pp,.string ps,.bool true] 74)) q).mono HB4.out.size)
  go_wp2_with fail
  refine (HE.out _ (by omega)).mono ?_
  rintro e w2 ⟨rfl,rfl⟩
  rw [HR1.out]
  go_wp2_with fail
  go_region
  go_wp2_with fail
  go_ret
  exact ⟨rfl,HB4.out.trans (BQ.out _)⟩
 ·have hpl : pl = false:=by simpa using hpl
  subst hpl
  clear HP2 q3 q4
  have HN:=hid (nextC (some ⟨cb,coff,none⟩) N cc xs i)
  go_wp2_with fail
  refine (HN.out _ (by omega) hcc ⟨(HA.out.later HB4.out).cod.1,.inr ⟨cb,coff,rfl,(HA.out.later HB4.out).cod⟩⟩ HP.out.ln).mono ?_
  rintro e w2 ⟨v,rfl,hL,hb⟩
  obtain ⟨va,vc,rfl⟩:=hL.slice
  have HL:=hid hL
  have HB5:=hid (HB4.out.trans (hb.mono HB4.out.size))
  have HM5:=hid (blk_later hb HM4.out)
  have HT5:=hid (blk_later hb HT4.out)
  have HX5:=hid (blk_later hb HX4.out)
  have hnx : ∀ z ∈ nxtV (opF xs) N (i : Int) (xs.getD (i : Int).toNat dx),(z = N ∧ Outz (opF xs i) (St i) R) ∨ ∃ k : Nat,z = k ∧ k < N ∧ (St k).size ≤ (St i).size + 8:=fun z hz => by
   unfold nxtV at hz
   rw [if_pos ⟨HP.out.res,by omega,by omega⟩,(nub_facts _).2,Int.toNat_natCast] at hz
   exact HP.out.ways z hz
  have HNX:=hid hnx
  generalize nxtV (opF xs) N (i : Int) (xs.getD (i : Int).toNat dx) = L at *
  have hL2:=HL.out.cell
  have hLn : L.length ≤ 9223372036854775807:=by
   rcases HL.out.2 with ⟨h0,_⟩ | ⟨g,cp,cur,h1,h2,h3,h4,h5,_⟩
   ·injection h0 with e1 e2 e3
    omega
   ·unfold maxLen at h5
    injection h1 with e1 e2 e3
    omega
  clear hL hb hnx HM4 HT4 HX4 HB4 t0 q5 gs0 HN HR4
  go_wp2_with fail
  go_loopw [15] (fun i wr => ∃ q : Nat,q ≤ L.length ∧ i = .int .i64 q ∧ Below w2.heap.size w2 wr) (fun i _ => L.length - (intOf i).toNat)
  case atStart => exact ⟨0,Nat.zero_le _,rfl,Below.refl _ _⟩
  case round =>
   obtain ⟨q,hq,rfl,hbr⟩:=hrel
   have HBR:=hid hbr
   have BQ:=hid (fun (q : Nat) => (below_drewN wr q).mono hbr.size)
   by_cases hqL : q < L.length
   ·have hqL' : (q : Int) < (L.length : Int):=by omega
    obtain ⟨B,rfl,hcell⟩:=hL2.2.resolve_left (by omega)
    have v0:=later_cell hbr (hcell q hqL)
    have hmem : L.getD q 0 ∈ L:=by rw [List.getD_eq_getElem?_getD,List.getElem?_eq_getElem hqL]; exact List.getElem_mem hqL
    have hz:=HNX.out _ hmem
    have t0:=later_cell hbr (cell_at (i:=0) HT5.out : w2.cell? ⟨w.heap.size + 1,0,none⟩ = some (.slice (some ⟨SH,0,none⟩) N N))
    have t4:=later_cell hbr (cell_at (i:=4) HT5.out : w2.cell? ⟨w.heap.size + 1,4,none⟩ = some (.int .i64 hi))
    have m0:=later_cell hbr (cell_at (i:=0) HM5.out : w2.cell? ⟨w.heap.size,0,none⟩ = some (.slice (some ⟨tb,toff,none⟩) m.tn m.tc))
    have m5:=later_cell hbr (cell_at (i:=5) HM5.out : w2.cell? ⟨w.heap.size,5,none⟩ = some (.slice (some ⟨fb,foff,none⟩) m.fn m.fc))
    have x0:=later_cell hbr (cell_at (i:=0) HX5.out : w2.cell? ⟨w.heap.size + 1 + 1,0,none⟩ = some (.int .u8 (opF xs i)))
    have hAr:=HA.out.later (HB5.out.trans (hbr.mono HB5.out.size))
    have g0:=hAr.g0
    have gt:=hAr.gt
    have hszi : (St i).size ≤ 256:=HP.out.sz i
    generalize L.getD q 0 = z at *
    clear hcell hL2 hmem hbr
    rcases hz with ⟨rfl,ho⟩ | ⟨k,rfl,hk,hks⟩
    ·have hNN : ((N : Int) == (N : Int)) = true:=by simp
     have hkt' : (kt : Int) < (m.tn : Int):=by omega
     have hkf' : (kf : Int) < (m.fn : Int):=by omega
     clear hAr t0 t4
     generalize opF xs i = c at *
     by_cases c8 : c = 8
     ·have e8 : (c == (8 : Int)) = true:=by simpa using c8
      unfold Outz at ho
      rw [if_pos (by omega)] at ho
      clear c8
      have hs1 : 1 ≤ (St i).size:=by
       have:=(ends_iff.1 ho.1).length_le
       rw [bl_len,bl_len] at this
       exact this
      have hlo : (((St i).size : Int) - 1 + 9223372036854775808) % 18446744073709551616 - 9223372036854775808 = (((St i).size - 1 : Nat) : Int):=by omega
      have HO:=hid ho
      have HE1:=hid (fun W => ends33 (St i) wT W (by omega))
      have HE2:=hid (fun W => ends33 ((St i).extract 0 ((St i).size - 1)) R W (by rw [ByteArray.size_extract]; omega))
      unfold wT at HE1
      clear ho
      go_wp2_with fail
      go_quiet (fail)
      go_wp2_with fail
      refine (HE1.out _).mono ?_
      rintro e w3 ⟨rfl,rfl⟩
      have h1 : ends (St i) ⟨#[119]⟩ = true:=HO.out.1
      rw [h1]
      go_wp2_with fail
      refine (HE2.out _).mono ?_
      rintro e w3 ⟨rfl,rfl⟩
      rw [HO.out.2]
      go_wp2_with fail
      exact ⟨⟨q + 1,by omega,by go_num,HBR.out.trans (BQ.out _)⟩,by simp [intOf]; omega⟩
     by_cases c9 : c = 9
     ·have e8 : (c == (8 : Int)) = false:=by simpa using c8
      have e9 : (c == (9 : Int)) = true:=by simpa using c9
      unfold Outz at ho
      rw [if_pos (by omega)] at ho
      clear c8 c9
      have hs1 : 1 ≤ (St i).size:=by
       have:=(ends_iff.1 ho.1).length_le
       rw [bl_len,bl_len] at this
       exact this
      have hlo : (((St i).size : Int) - 1 + 9223372036854775808) % 18446744073709551616 - 9223372036854775808 = (((St i).size - 1 : Nat) : Int):=by omega
      have HO:=hid ho
      have HE1:=hid (fun W => ends33 (St i) wT W (by omega))
      have HE2:=hid (fun W => ends33 ((St i).extract 0 ((St i).size - 1)) R W (by rw [ByteArray.size_extract]; omega))
      unfold wT at HE1
      clear ho
      go_wp2_with fail
      go_quiet (fail)
      go_wp2_with fail
      refine (HE1.out _).mono ?_
      rintro e w3 ⟨rfl,rfl⟩
      have h1 : ends (St i) ⟨#[119]⟩ = true:=HO.out.1
      rw [h1]
      go_wp2_with fail
      refine (HE2.out _).mono ?_
      rintro e w3 ⟨rfl,rfl⟩
      rw [HO.out.2]
      go_wp2_with fail
      exact ⟨⟨q + 1,by omega,by go_num,HBR.out.trans (BQ.out _)⟩,by simp [intOf]; omega⟩
     have e8 : (c == (8 : Int)) = false:=by simpa using c8
     have e9 : (c == (9 : Int)) = false:=by simpa using c9
     unfold Outz at ho
     rw [if_neg (by omega)] at ho
     have HO:=hid ho
     have HE2:=hid (fun W => ends33 (St i) R W (by omega))
     clear ho
     go_wp2_with fail
     go_quiet (fail)
     go_wp2_with fail
     refine (HE2.out _).mono ?_
     rintro e w3 ⟨rfl,rfl⟩
     rw [HO.out]
     go_wp2_with fail
     exact ⟨⟨q + 1,by omega,by go_num,HBR.out.trans (BQ.out _)⟩,by simp [intOf]; omega⟩
    ·have hNN : ((k : Int) == (N : Int)) = false:=by simp; omega
     have gk:=hAr.sh k hk
     have hki : (k : Int) < (N : Int):=by omega
     have hhi:=HP.out.hi k hk
     have l1 : decide ((hi : Int) < ((St k).size : Int)) = false:=by simp; omega
     have l2 : decide (((St i).size : Int) + 8 < ((St k).size : Int)) = false:=by simp; omega
     clear hAr x0 m0 m5 g0 gt
     go_wp2_with fail
     go_quiet (fail)
     go_wp2_with fail
     exact ⟨⟨q + 1,by omega,by go_num,HBR.out.trans (BQ.out _)⟩,by simp [intOf]; omega⟩
   ·have hqL' : ¬ (q : Int) < (L.length : Int):=by omega
    go_wp2_with fail
    go_ret
    exact ⟨rfl,HB5.out.trans (HBR.out.mono HB5.out.size)⟩
theorem ty_LL {m : MM} (h0 : chkMM m = 0) : ∀ a,Ltr (tyAt m a).1 ∧ Ltr (tyAt m a).2 ∧ (tyAt m a).1.size ≤ 8:=by
 intro a
 obtain ⟨h1,_,_,_⟩:=chkW_of h0
 unfold tyAt
 rw [List.getD_eq_getElem?_getD]
 cases e : m.types[a.toNat]? with
 | none => exact ⟨.nil,.nil,by decide⟩
 | some x =>
  have h:=chkSig_zero ((listE_zero h1).2 _ x e)
  exact ⟨Ltr.of h.2.1,Ltr.of h.2.2.2,h.1⟩
theorem hi_256 {m : MM} {lo : List Int} {xs : List Inx} {R : ByteArray} {n : Nat} (h : ∀ j,(stA m lo xs R n j).st.size ≤ 256) : ∀ j,(stA m lo xs R n j).hi ≤ 256
 | 0 => by rw [hi_zero]; omega
 | j + 1 => by
  rw [hi_next]
  have:=hi_256 h j
  have:=h j
  omega
structure FnA (m : MM) (w : World) (kf N cc fb foff cb coff tb toff kt SH FL hi : Nat) (R : ByteArray) (St : Nat → ByteArray) (Fl : Nat → Int) (Hi : Nat → Nat) (xs : List Inx) : Prop where
 fa : m.fa = some ⟨fb,foff,none⟩
 ta : m.ta = some ⟨tb,toff,none⟩
 lf : kf < m.fn
 lt : kt < m.tn
 n0 : 0 < N
 n1 : N ≤ 2048
 lc : N ≤ cc
 r : R.size ≤ 256
 lh : hi ≤ 256
 s : AgS w m kf N cc fb foff cb coff tb toff kt SH R St xs
 p : ∀ i,i < N → AgP N i hi R St xs
 fl : ∀ j,j < N → w.cell? ⟨FL,j,none⟩ = some (.int .i64 (Fl j))
 st0 : St 0 = ⟨#[]⟩
 hi0 : Hi 0 = 0
 hiS : ∀ i,Hi (i + 1) = max (Hi i) (St i).size
 hiN : Hi N = hi
 lab : ∀ i,i < N → labz (opF xs) i = [-1] ∨ ∃ (t : Nat) (r : List Int) (k : Nat),labz (opF xs) i = (t : Int) :: r ∧ t < N ∧ Fl t = k ∧ k ≤ (St t).size ∧ bl ((St t).extract 0 k) <+: bl (St i)
theorem FnA.later {m : MM} {w w' : World} {kf N cc fb foff cb coff tb toff kt SH FL hi : Nat} {R : ByteArray} {St : Nat → ByteArray} {Fl : Nat → Int} {Hi : Nat → Nat} {xs : List Inx} (h : FnA m w kf N cc fb foff cb coff tb toff kt SH FL hi R St Fl Hi xs) (hb : Below w.heap.size w w') : FnA m w' kf N cc fb foff cb coff tb toff kt SH FL hi R St Fl Hi xs :=
 ⟨h.fa,h.ta,h.lf,h.lt,h.n0,h.n1,h.lc,h.r,h.lh,h.s.later hb,h.p,fun j hj => later_cell hb (h.fl j hj),h.st0,h.hi0,h.hiS,h.hiN,h.lab⟩
theorem fn_all {w : World} {m : MM} (h0 : chkMM m = 0) (hk : KindsOk w) (hp : 0 < w.heap.size) (hm : MOk w w.heap.size w.heap.size m) {kf base : Nat} {x : FuM} {t : Array Value} (hx : m.fns[kf]? = some x) (hcap : x.2.2.1.2.1 ≤ x.2.2.1.2.2) (hT : TabV m x base w t) :
  ∃ (N cc fb foff cb coff tb toff kt SH EN EL FL hi : Nat) (R : ByteArray) (St : Nat → ByteArray) (Fl : Nat → Int) (Hi : Nat → Nat) (xs : List Inx),
   t = #[.slice (some ⟨SH,0,none⟩) N N,.slice (some ⟨EN,0,none⟩) N N,.slice (some ⟨EL,0,none⟩) N N,.slice (some ⟨FL,0,none⟩) N N,.int .i64 hi] ∧ FnA m w kf N cc fb foff cb coff tb toff kt SH FL hi R St Fl Hi xs:=by
 obtain ⟨hG,P,Q,hPQ,he,SH,EN,EL,FL,_,_,_,_,ht,r1,r2,r3,r4⟩:=hT
 obtain ⟨kt,P',Q',hkt,hty,_,_,hN,hcod,hln⟩:=fn_of h0 hm hx
 rw [hkt,Int.toNat_natCast] at hPQ
 rw [hPQ] at hty
 obtain ⟨rfl,rfl⟩:=Prod.mk.inj (Option.some.inj hty)
 have hev:=evw_of h0 hm hk hp
 have hLL:=ty_LL h0
 have hQ : Ltr Q:=by
  have:=(hLL (kt : Int)).2.1
  unfold tyAt at this
  rw [Int.toNat_natCast,getD_of hPQ] at this
  exact this
 have hTS : TyS m:=fun a => by
  refine ⟨(hLL a).2.2,?_⟩
  unfold tyAt
  rw [List.getD_eq_getElem?_getD]
  cases h : m.types[a.toNat]? with
  | none => exact Nat.zero_le _
  | some y => exact (hev.tL y (List.mem_of_getElem? h)).2
 have hR8 : Q.size ≤ 8:=(hev.tL _ (List.mem_of_getElem? hPQ)).2
 generalize x.2.2.2.map inx = xs at *
 generalize hNN : x.2.2.1.2.1 = N at *
 generalize strBytes (P ++ x.2.1) = lo at *
 have hsz : ∀ j,(stA m lo xs Q N j).st.size ≤ 256:=fun j => (lv_stA hLL lo xs hQ N j).sz
 obtain ⟨cb,coff,hca,hcd⟩:=hcod.2.resolve_left (by have:=hG.1; omega)
 have hfl:=hm.pf.1
 have hkl:=lt_of_get hx
 obtain ⟨fb,foff,hfa,hat⟩:=hm.pf.2.resolve_left (by omega)
 obtain ⟨a0,_,a2⟩:=hat kf x hx
 have htl:=hm.pt.1
 have hkl2:=lt_of_get hPQ
 obtain ⟨tb,toff,hta,hat2⟩:=hm.pt.2.resolve_left (by omega)
 have a3:=(hat2 kt _ hPQ).2
 rw [hkt] at a0
 rw [hca,hNN] at a2
 refine ⟨N,x.2.2.1.2.2,fb,foff,cb,coff,tb,toff,kt,SH,EN,EL,FL,(stA m lo xs Q N N).hi,Q,fun j => (stA m lo xs Q N j).st,(stA m lo xs Q N N).fl,fun j => (stA m lo xs Q N j).hi,xs,ht,?_⟩
 refine ⟨hfa,hta,by omega,by omega,hG.1,hN,hcap,by omega,hi_256 hsz N,⟨a0,a2,a3,hcd,fun j hj => ?_⟩,fun i hi => ?_,fun j hj => r4.cell j hj,rfl,rfl,fun i => hi_next i,rfl,fun i hi => ?_⟩
 ·rw [Row.cell r1 j hj,List.getElem?_map,sh_all N j hj (Nat.le_refl _)]
  rfl
 ·have hc:=hcd.range hi
  exact ⟨by rw [res_good_back hG],fun j hj => (hln j hj).1,hsz,fun j hj => hi_ge N j hj,fun hpl => plain_ok hG he hi hc.1 hc.2 hpl,fun z hz => way_ok hG he hTS hi hc.1 hc.2 hz⟩
 ·rcases stk_cases (opF xs) i with hs | ⟨t,hti,_,hs⟩
  ·left
   unfold labz
   rw [hs]
   rfl
  ·right
   obtain ⟨k,k1,k2,k3⟩:=floor_ok hG he hi hs
   refine ⟨t,(stk (opF xs) t).map (fun t : Nat => (t : Int)) ++ [-1],k,?_,by omega,k1,k2,k3⟩
   unfold labz
   rw [hs]
   rfl
theorem ways_law (m : MM) (w : World) (hk : KindsOk w) (hp : 0 < w.heap.size) (hm : ∀ R g',w.heap.size ≤ R → w.heap.size ≤ g' → MOk w R g' m) (hcap : ∀ x ∈ m.fns,x.2.2.1.2.1 ≤ x.2.2.1.2.2) (hsz : SzB w m) :
  Calls Tryz.prog 3 #[.agg (mV m)] w fun e w' => e = .returned (.bool true) ∧ Below w.heap.size w w':=by
 have HK:=hid (fun (W : World) (hb : Below w.heap.size w W) => And.intro (hk.later hb hp) (Nat.lt_of_lt_of_le hp hb.size))
 have HM:=hid (fun (W : World) (hb : Below w.heap.size w W) (R g' : Nat) (h1 : W.heap.size ≤ R) (h2 : W.heap.size ≤ g') => (hm R g' (Nat.le_trans hb.size h1) (Nat.le_trans hb.size h2)).later hb)
 have HS:=hid (fun (W : World) (hb : Below w.heap.size w W) => hsz.later hb)
 have HC:=hid hcap
 have nf:=(hm w.heap.size w.heap.size (Nat.le_refl _) (Nat.le_refl _)).pf.1
 have HNF:=hid nf
 have hfn:=hsz.fn
 have B0:=below_new w (.cells (mV m) 29)
 have bx : (w.alloc (.cells (mV m) 29)).heap[w.heap.size]? = some (.cells (mV m) 29):=heap_alloc_new w (.cells (mV m) 29)
 have HW : w.alloc (.cells #[.slice m.ta m.tn m.tc,.slice m.ha m.hn m.hc,.slice m.ga m.gn m.gc,.int .i64 m.fi,.int .i64 m.mo,.slice m.fa m.fn m.fc,.slice m.da m.dn m.dc,.slice m.ea m.en m.ec] 29) = w.alloc (.cells (mV m) 29):=rfl
 clear hk hm hsz hcap nf
 generalize w.alloc (.cells (mV m) 29) = W0 at *
 have HB0:=hid B0
 have HBX:=hid bx
 clear B0 bx
 show Calls Tryz.prog 3 #[.agg #[.slice m.ta m.tn m.tc,.slice m.ha m.hn m.hc,.slice m.ga m.gn m.gc,.int .i64 m.fi,.int .i64 m.mo,.slice m.fa m.fn m.fc,.slice m.da m.dn m.dc,.slice m.ea m.en m.ec]] w _
 go_enter Tryz.func3,Tryz.ntmps3
 go_wp2_with fail
 refine (works8 W0 (HK.out W0 HB0.out).1 (HK.out W0 HB0.out).2).mono ?_
 rintro e w1 ⟨rfl,hb⟩
 have HB1:=hid (HB0.out.trans (hb.mono HB0.out.size))
 have HBX:=hid (blk_later hb HBX.out)
 clear hb HB0 HW
 have hok:=HM.out w1 HB1.out w1.heap.size w1.heap.size (Nat.le_refl _) (Nat.le_refl _)
 have H9:=size9s m w1 (HS.out w1 HB1.out) hok.pt hok.pf hok.pd hok.pe
 unfold mV at H9
 have HH9:=hid H9
 clear H9 hok
 have hc8:=eight_cells HBX.out
 obtain ⟨⟨m0,m1,m2,m3,m4,m5,m6,m7⟩,_⟩:=hc8
 go_wp2_with fail
 clear m0 m1 m2 m3 m4 m5 m6 m7
 refine HH9.out.mono ?_
 rintro e w2 ⟨s,rfl,hb,hs⟩
 have HB2:=hid (HB1.out.trans (hb.mono HB1.out.size))
 have HBX:=hid (blk_later hb HBX.out)
 clear hb HH9 HB1 hs
 by_cases h4 : s ≤ 4000
 rotate_left
 ·have h4' : (4000 : Int) < (s : Int):=by omega
  go_wp2_with fail
  go_ret
  exact ⟨rfl,HB2.out⟩
 have h4' : ¬ (4000 : Int) < (s : Int):=by omega
 have H10:=module10 m w2 (HK.out w2 HB2.out).1 (HK.out w2 HB2.out).2 (HM.out w2 HB2.out) HC.out
 unfold mV at H10
 have HH10:=hid H10
 clear H10
 have hc8:=eight_cells HBX.out
 obtain ⟨⟨m0,m1,m2,m3,m4,m5,m6,m7⟩,_⟩:=hc8
 go_wp2_with fail
 clear m0 m1 m2 m3 m4 m5 m6 m7
 refine HH10.out.mono ?_
 intro e w3 hO
 have hb:=hO.1
 have HB3:=hid (HB2.out.trans (hb.mono HB2.out.size))
 have HBX:=hid (blk_later hb HBX.out)
 clear hb HH10
 rcases hO.2 with ⟨h1,rfl⟩ | ⟨h0,k,x,E,pc,hx,hE,h1,_,rfl⟩ | ⟨h0,TT,arr,hTT,rfl,hTb,hTs,htab⟩
 ·clear hO
  generalize chkMM m = ce at *
  have hne : (ce != 0) = true:=by simpa using h1
  have hne' : (ce == 0) = false:=by simpa using h1
  clear h1
  go_wp2_with fail
  go_ret
  exact ⟨rfl,HB3.out⟩
 ·clear hO hx hE h0
  have hne : (E != 0) = true:=by simpa using h1
  have hne' : (E == 0) = false:=by simpa using h1
  clear h1
  go_wp2_with fail
  go_ret
  exact ⟨rfl,HB3.out⟩
 have HTB:=hid (And.intro hTb (And.intro hTs htab))
 have H0:=hid h0
 clear hO hTb hTs htab
 have H31:=check31 m w3 (HK.out w3 HB3.out).1 (HM.out w3 HB3.out)
 rw [h0] at H31
 unfold mV at H31
 have HH31:=hid H31
 clear H31 h0 hTT
 have hc8:=eight_cells HBX.out
 obtain ⟨⟨m0,m1,m2,m3,m4,m5,m6,m7⟩,_⟩:=hc8
 go_wp2_with fail
 refine HH31.out.mono ?_
 rintro e w4 ⟨rfl,hb⟩
 have HB4:=hid (HB3.out.trans (hb.mono HB3.out.size))
 have HBX:=hid (blk_later hb HBX.out)
 have HTT:=hid (And.intro (blk_later hb HTB.out.1) (fun (i : Nat) y (hy : m.fns[i]? = some y) => (HTB.out.2.2 i y hy).imp fun t ht => And.intro (ht.1.kept (T:=TT) (kept_of hb) (Nat.lt_succ_self _) (Nat.le_refl _)) ht.2))
 clear hb HH31 HB3 HTB m0 m1 m2 m3 m4 m5 m6 m7 HB2
 have hev:=evw_of H0.out (HM.out w4 HB4.out w4.heap.size w4.heap.size (Nat.le_refl _) (Nat.le_refl _)) (HK.out w4 HB4.out).1 (HK.out w4 HB4.out).2
 have hm1:=hev.f128
 have hm2:=hev.t64
 clear hev
 obtain ⟨fa,hfa⟩ : ∃ fa,m.fa = fa:=⟨_,rfl⟩
 rw [hfa]
 have HFA:=hid hfa
 clear hfa
 go_wp2_with fail
 go_loopw [8] (fun i wr => ∃ k : Nat,k ≤ m.fn ∧ i = .int .i64 k ∧ Below w4.heap.size w4 wr) (fun i _ => m.fn - (intOf i).toNat)
 case atStart => exact ⟨0,Nat.zero_le _,rfl,Below.refl _ _⟩
 case round =>
  obtain ⟨k,hk,rfl,hbr⟩:=hrel
  have HBR:=hid hbr
  by_cases hkf : k < m.fn
  ·have hkf' : (k : Int) < (m.fn : Int):=by omega
   obtain ⟨x,hx⟩ : ∃ x,m.fns[k]? = some x:=⟨_,List.getElem?_eq_getElem (by rw [HNF.out]; exact hkf)⟩
   obtain ⟨t,hT,ha⟩:=HTT.out.2 k x hx
   have hBr : Below w.heap.size w wr:=HB4.out.trans (hbr.mono HB4.out.size)
   have hTr : TabV m x (TT + 1) wr t:=hT.kept (T:=TT) (kept_of hbr) (Nat.lt_succ_self _) (Nat.le_refl _)
   obtain ⟨N,cc,fb,foff,cb,coff,tb,toff,kt,SH,EN,EL,FL,hi,R,St,Fl,Hi,xs,rfl,hF⟩:=fn_all H0.out (HK.out wr hBr).1 (HK.out wr hBr).2 (HM.out wr hBr wr.heap.size wr.heap.size (Nat.le_refl _) (Nat.le_refl _)) hx (HC.out x (List.mem_of_getElem? hx)) hTr
   have hfe:=HFA.out.symm.trans hF.fa
   subst hfe
   have c0 : wr.cell? ⟨TT,k * 5,none⟩ = some (.slice (some ⟨SH,0,none⟩) N N):=later_cell hbr ((cell_at (i:=k * 5) HTT.out.1).trans (ha 0 (by omega)))
   have c1 : wr.cell? ⟨TT,k * 5 + 1,none⟩ = some (.slice (some ⟨EN,0,none⟩) N N):=later_cell hbr ((cell_at (i:=k * 5 + 1) HTT.out.1).trans (ha 1 (by omega)))
   have c2 : wr.cell? ⟨TT,k * 5 + 2,none⟩ = some (.slice (some ⟨EL,0,none⟩) N N):=later_cell hbr ((cell_at (i:=k * 5 + 2) HTT.out.1).trans (ha 2 (by omega)))
   have c3 : wr.cell? ⟨TT,k * 5 + 3,none⟩ = some (.slice (some ⟨FL,0,none⟩) N N):=later_cell hbr ((cell_at (i:=k * 5 + 3) HTT.out.1).trans (ha 3 (by omega)))
   have c4 : wr.cell? ⟨TT,k * 5 + 4,none⟩ = some (.int .i64 hi):=later_cell hbr ((cell_at (i:=k * 5 + 4) HTT.out.1).trans (ha 4 (by omega)))
   have B5:=below_new wr (.cells #[.slice (some ⟨SH,0,none⟩) N N,.slice (some ⟨EN,0,none⟩) N N,.slice (some ⟨EL,0,none⟩) N N,.slice (some ⟨FL,0,none⟩) N N,.int .i64 hi] 39)
   have b5:=heap_alloc_new wr (.cells #[.slice (some ⟨SH,0,none⟩) N N,.slice (some ⟨EN,0,none⟩) N N,.slice (some ⟨EL,0,none⟩) N N,.slice (some ⟨FL,0,none⟩) N N,.int .i64 hi] 39)
   have HB5:=hid (hBr.trans (B5.mono hBr.size))
   have HBR5:=hid (hbr.trans (B5.mono hbr.size))
   have HB5X:=hid (blk_later B5 (blk_later hbr HBX.out))
   have HTA:=hid b5
   have HF:=hid (hF.later B5)
   have t0 : (wr.alloc (.cells #[.slice (some ⟨SH,0,none⟩) N N,.slice (some ⟨EN,0,none⟩) N N,.slice (some ⟨EL,0,none⟩) N N,.slice (some ⟨FL,0,none⟩) N N,.int .i64 hi] 39)).cell? ⟨wr.heap.size,0,none⟩ = some (.slice (some ⟨SH,0,none⟩) N N):=cell_at b5
   have t1 : (wr.alloc (.cells #[.slice (some ⟨SH,0,none⟩) N N,.slice (some ⟨EN,0,none⟩) N N,.slice (some ⟨EL,0,none⟩) N N,.slice (some ⟨FL,0,none⟩) N N,.int .i64 hi] 39)).cell? ⟨wr.heap.size,1,none⟩ = some (.slice (some ⟨EN,0,none⟩) N N):=cell_at b5
   have t2 : (wr.alloc (.cells #[.slice (some ⟨SH,0,none⟩) N N,.slice (some ⟨EN,0,none⟩) N N,.slice (some ⟨EL,0,none⟩) N N,.slice (some ⟨FL,0,none⟩) N N,.int .i64 hi] 39)).cell? ⟨wr.heap.size,2,none⟩ = some (.slice (some ⟨EL,0,none⟩) N N):=cell_at b5
   have t3 : (wr.alloc (.cells #[.slice (some ⟨SH,0,none⟩) N N,.slice (some ⟨EN,0,none⟩) N N,.slice (some ⟨EL,0,none⟩) N N,.slice (some ⟨FL,0,none⟩) N N,.int .i64 hi] 39)).cell? ⟨wr.heap.size,3,none⟩ = some (.slice (some ⟨FL,0,none⟩) N N):=cell_at b5
   have hc8:=eight_cells HB5X.out
   rw [HFA.out] at hc8
   obtain ⟨⟨_,_,_,_,_,m5,_,_⟩,_⟩:=hc8
   have g2:=HF.out.s.g2
   have s0:=HF.out.s.sh 0 HF.out.n0
   rw [HF.out.st0] at s0
   have hN0 : ((N : Int) == 0) = false:=by have:=HF.out.n0; simp; omega
   have hN1 : (0 : Int) < (N : Int):=by have:=HF.out.n0; omega
   have hNle : N ≤ 2048:=HF.out.n1
   have hhi : hi ≤ 256:=HF.out.lh
   clear hbr hBr hTr hT ha B5 b5 hF hx
   go_wp2_with fail
   clear c0 c1 c2 c3 c4 t0 t1 t2 t3 m5 g2 s0 hN0
   generalize hW5 : wr.alloc (.cells #[.slice (some ⟨SH,0,none⟩) N N,.slice (some ⟨EN,0,none⟩) N N,.slice (some ⟨EL,0,none⟩) N N,.slice (some ⟨FL,0,none⟩) N N,.int .i64 hi] 39) = W5 at *
   clear hW5
   generalize hTA : wr.heap.size = TA at *
   clear hTA
   have HST:=hid (show Value.int .i64 0 = Value.int .i64 (Hi 0 : Nat) by rw [HF.out.hi0]; rfl)
   go_loopw [11,12] (fun mo i wr => ∃ q : Nat,q ≤ N ∧ i = .int .i64 q ∧ mo = .int .i64 (Hi q : Nat) ∧ Below W5.heap.size W5 wr) (fun _ i _ => N - (intOf i).toNat)
   case atStart => exact ⟨0,Nat.zero_le _,rfl,HST.out,Below.refl _ _⟩
   case round =>
    obtain ⟨q,hq,rfl,rfl,hbi⟩:=hrel
    have HBI:=hid hbi
    by_cases hqN : q < N
    ·have hqN' : (q : Int) < (N : Int):=by omega
     have hFi:=HF.out.later hbi
     have H12:=agrees12 wr m k N cc fb foff cb coff tb toff kt SH EN EL FL q hi R St xs hFi.fa hFi.ta hFi.lf hFi.lt (by omega) (by omega) hqN hFi.n1 hFi.lc hFi.r hFi.lh hFi.s (hFi.p q hqN)
     unfold mV at H12
     rw [HFA.out] at H12
     have HH12:=hid H12
     have HFI:=hid hFi
     have sq:=hFi.s.sh q hqN
     have hsq:=(hFi.p q hqN).sz q
     have hc8:=eight_cells (blk_later hbi HB5X.out)
     rw [HFA.out] at hc8
     obtain ⟨⟨m0,m1,m2,m3,m4,m5,m6,m7⟩,_⟩:=hc8
     have hta:=blk_later hbi HTA.out
     have t0 : wr.cell? ⟨TA,0,none⟩ = some (.slice (some ⟨SH,0,none⟩) N N):=cell_at hta
     have t1 : wr.cell? ⟨TA,1,none⟩ = some (.slice (some ⟨EN,0,none⟩) N N):=cell_at hta
     have t2 : wr.cell? ⟨TA,2,none⟩ = some (.slice (some ⟨EL,0,none⟩) N N):=cell_at hta
     have t3 : wr.cell? ⟨TA,3,none⟩ = some (.slice (some ⟨FL,0,none⟩) N N):=cell_at hta
     have t4 : wr.cell? ⟨TA,4,none⟩ = some (.int .i64 hi):=cell_at hta
     clear H12 hFi hbi hta
     go_wp2_with fail
     refine HH12.out.mono ?_
     rintro e w6 ⟨rfl,hb6⟩
     have HB6:=hid (HBI.out.trans (hb6.mono HBI.out.size))
     have HF6:=hid (HFI.out.later hb6)
     clear m0 m1 m2 m3 m4 m5 m6 m7 t0 t1 t2 t3 t4 sq HH12 hb6 HFI
     have H13:=hid (labelsC (some ⟨cb,coff,none⟩) N cc xs q w6 (by omega) HF6.out.lc ⟨HF6.out.s.cod.1,.inr ⟨cb,coff,rfl,HF6.out.s.cod⟩⟩)
     go_wp2_with fail
     refine H13.out.mono ?_
     rintro e w7 ⟨v,rfl,hL,hb7⟩
     obtain ⟨va,vc,rfl⟩:=hL.slice
     have hlv : labV (opF xs) N (q : Int) = labz (opF xs) q:=by
      unfold labV
      rw [if_pos ⟨(HF6.out.p q hqN).res,by omega,by omega⟩,Int.toNat_natCast]
     rw [hlv] at hL ⊢
     have HB7:=hid (HB6.out.trans (hb7.mono HB6.out.size))
     have HF7:=hid (HF6.out.later hb7)
     obtain ⟨z,hz,hl0,hcase⟩ : ∃ z : Int,(labz (opF xs) q).getD 0 0 = z ∧ 0 < (labz (opF xs) q).length ∧ (z = -1 ∨ ∃ t kk : Nat,z = (t : Int) ∧ t < N ∧ Fl t = (kk : Int) ∧ kk ≤ (St t).size ∧ bl ((St t).extract 0 kk) <+: bl (St q)):=by
      rcases HF7.out.lab q hqN with h1 | ⟨t,r,kk,h1,h2,h3,h4,h5⟩
      ·exact ⟨-1,by rw [h1]; rfl,by rw [h1]; exact Nat.one_pos,.inl rfl⟩
      ·exact ⟨t,by rw [h1]; rfl,by rw [h1]; exact Nat.succ_pos _,.inr ⟨t,kk,rfl,h2,h3,h4,h5⟩⟩
     obtain ⟨B,rfl,hcell⟩:=hL.cell.2.resolve_left (by omega)
     have v0:=hcell 0 (by omega)
     rw [hz] at v0
     have HV0:=hid v0
     have HCS:=hid hcase
     clear hL hlv hb7 hcell HB6 HF6 H13 hz hcase
     generalize (labz (opF xs) q).length = ll at *
     have hl1 : ((ll : Int) == 0) = false:=by simp; omega
     have hl2 : (0 : Int) < (ll : Int):=by omega
     go_wp2_with fail
     clear v0 hl1 hl2
     have hta:=blk_later HB7.out HTA.out
     have t0 : w7.cell? ⟨TA,0,none⟩ = some (.slice (some ⟨SH,0,none⟩) N N):=cell_at hta
     have t3 : w7.cell? ⟨TA,3,none⟩ = some (.slice (some ⟨FL,0,none⟩) N N):=cell_at hta
     have sq:=HF7.out.s.sh q hqN
     clear hta
     have HEND:=hid (show ∀ W,Below w7.heap.size w7 W → Below W5.heap.size W5 W from fun W hb => HB7.out.trans (hb.mono HB7.out.size))
     have HHI:=hid (show Value.int .i64 (max (Hi q : Int) ((St q).size : Int)) = Value.int .i64 (Hi (q + 1) : Nat) by rw [HF7.out.hiS]; congr 1; omega)
     rcases HCS.out with rfl | ⟨t,kk,rfl,h2,h3,h4,h5⟩
     ·have d1 : decide ((0 : Int) ≤ -1) = false:=rfl
      go_quiet (fail)
      go_wp2_with fail
      exact ⟨⟨q + 1,by omega,by go_num,HHI.out,HEND.out _ (below_drewN _ _)⟩,by simp [intOf]; omega⟩
     ·have d1 : decide ((0 : Int) ≤ (t : Int)) = true:=by simp
      have ft:=HF7.out.fl t h2
      rw [h3] at ft
      have st:=HF7.out.s.sh t h2
      have ht' : (t : Int) < (N : Int):=by omega
      have l1 : decide ((kk : Int) < 0) = false:=by simp
      have l2 : decide (((St t).size : Int) < (kk : Int)) = false:=by simp; omega
      have l3 : (kk : Int) ≤ ((St t).size : Int):=by omega
      have H14:=hid (fun W => begins14 (St q) ((St t).extract 0 kk) W (by omega) h5)
      clear h3 h5
      go_quiet ((go_at_call 14; exact Calls.quiet_of_same (H14.out _)))
      go_wp2_with fail
      exact ⟨⟨q + 1,by omega,by go_num,HHI.out,HEND.out _ (below_drewN _ _)⟩,by simp [intOf]; omega⟩
    ·have hqN' : ¬ (q : Int) < (N : Int):=by omega
     have hqe : q = N:=by omega
     have hhe : Hi q = hi:=by rw [hqe]; exact HF.out.hiN
     have t4 : wr.cell? ⟨TA,4,none⟩ = some (.int .i64 (Hi q : Nat)):=by rw [hhe]; exact cell_at (blk_later hbi HTA.out)
     clear hqe hhe
     go_wp2_with fail
     exact ⟨⟨k + 1,by omega,by go_num,HBR5.out.trans (HBI.out.mono HBR5.out.size)⟩,by simp [intOf]; omega⟩
  ·have hkf' : ¬ (k : Int) < (m.fn : Int):=by omega
   go_wp2_with fail
   go_ret
   exact ⟨rfl,HB4.out.trans (HBR.out.mono HB4.out.size)⟩
end Go.Proofs.YtepnnenohjfkbaaGreatDoor

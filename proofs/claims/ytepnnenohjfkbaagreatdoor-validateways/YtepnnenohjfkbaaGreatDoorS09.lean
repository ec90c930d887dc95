/-
  Texts Nx.
-/
import Derived.ArgAppend
import Derived.Below
import Derived.BigQuiet
import Derived.Deep.AppendLies
import Derived.Deep.QuietTactic
import Derived.Deep.RegionHeld3
import Derived.Ground.Names2Prog
import Derived.Handy
import Derived.KernelRfl
import Derived.RowKit
import Derived.Shelf.LaysM
import Derived.Shelf.Slices.Cells
import Derived.Shelf.Slices.CompactI
import Derived.Shelf.Slices.In.SortNone
import Derived.Shelf.Sort.Plain
import Derived.Shelf.Strings.Search1
import Derived.Shelf.Strings.Search2
import Derived.Shelf.Strings.Search3
import Derived.Shelf.Strings.Shaped
import Derived.Shelf.Unicode.DecodeSlow
import Derived.Sort.OwnSortedInts
import Derived.Test.YtepnnenohjfkbaaGreatDoorProg
import Derived.WalkKit
import Derived.WalkLawsBesides
import Derived.WalkMore
import Derived.WalkSpells
import Derived.Test.YtepnnenohjfkbaaGreatDoorR33
import Derived.Test.YtepnnenohjfkbaaGreatDoorS00
import Derived.Test.YtepnnenohjfkbaaGreatDoorS05
import Derived.Test.YtepnnenohjfkbaaGreatDoorS06
import Derived.Test.YtepnnenohjfkbaaGreatDoorS08
set_option linter.unusedVariables false
set_option maxRecDepth 100000
set_option maxHeartbeats 16000000
namespace Go.Proofs.YtepnnenohjfkbaaGreatDoor
open Go.RowKit
theorem nextC_out (a : Option Addr) (n cap : Nat) (pc : Int) (w : World) (hp : pc < 0 ∨ (n : Int) ≤ pc) :
  Calls Tryz.prog 34 #[.slice a n cap,.int .i64 pc] w fun e w' => e = .returned nilV ∧ Below w.heap.size w w':=by
 have hb0:=(Below.refl w.heap.size w).alloc (Nat.le_refl _) (Obj.cells #[.slice a n cap] 40)
 have H1:=hid (planAt_out a n cap pc (w.alloc (Obj.cells #[.slice a n cap] 40)) hp)
 have HB0:=hid hb0
 clear hb0 hp
 go_enter Tryz.func34,Tryz.ntmps34
 go_wp2_with fail
 refine H1.out.mono ?_
 rintro e w1 ⟨rfl,hb⟩
 have hb1:=HB0.out.trans (hb.mono (by simp))
 have HB:=hid (hb1.alloc hb1.size (Obj.cells #[nilV,nilV,nilV] 78))
 clear hb hb1
 go_wp2_with fail
 go_ret
 exact ⟨rfl,HB.out⟩
theorem nextC_bad (a : Option Addr) (n cap : Nat) (xs : List Inx) (j : Nat) (w : World) (hn : n ≤ 1048576) (hcap : n ≤ cap) (hc : CodS w a n xs) (hj : j < n) (h0 : (res (opF xs) n 0).1 ≠ 0) :
  Calls Tryz.prog 34 #[.slice a n cap,.int .i64 j] w fun e w' => e = .returned nilV ∧ Below w.heap.size w w':=by
 have hb0:=(Below.refl w.heap.size w).alloc (Nat.le_refl _) (Obj.cells #[.slice a n cap] 40)
 have H1:=hid (planAt_in a n cap xs j _ hn hcap (hc.later hb0 (Nat.le_refl _)) hj)
 have HB0:=hid hb0
 have H0:=hid h0
 clear hc hb0 h0
 go_enter Tryz.func34,Tryz.ntmps34
 go_wp2_with fail
 refine H1.out.mono ?_
 rintro e w1 ⟨a1,a2,a3,m,rfl,hM,hb⟩
 rcases hM with ⟨h0,rfl,rfl,rfl,rfl⟩ | ⟨hr,hg,rfl,_⟩
 ·rw [decide_eq_false h0]
  have hb1:=HB0.out.trans (hb.mono (by simp))
  have HB:=hid (hb1.alloc hb1.size (Obj.cells #[nilV,nilV,nilV] 78))
  clear hb hb1
  go_wp2_with fail
  go_ret
  exact ⟨rfl,HB.out⟩
 ·exact absurd (by rw [hr]) H0.out
theorem nx_end {w w4 wr w8 w9 : World} {Kv : Nat} {xs : List Inx} {x : Inx} {j n : Nat} {l : List Int} {v : Value} (hx : xs.getD j dx = x) (hn : NS w4 Kv l wr) (hv : w.heap.size ≤ Kv) (hw : w.heap.size ≤ w4.heap.size)
  (hb8 : Below w4.heap.size wr w8) (hb9 : Below w4.heap.size w8 w9) (hL : LI w9 w4.heap.size v (Lib.compact (srt l))) (hb : Below w.heap.size w w4) (hl : pls (opF xs) n j x.c x.a x.l = l) :
  ∃ v',Ending.returned v = .returned v' ∧ LI w9 w.heap.size v' (nub (pls (opF xs) n j (xs.getD j dx).c (xs.getD j dx).a (xs.getD j dx).l)) ∧ Below w.heap.size w w9:=by
 refine ⟨v,rfl,?_,?_⟩
 ·rw [hx,hl]; exact LI.mono hL hw
 ·have h1 : Below w.heap.size w wr:=below_kept hb hn.kept hb.size (fun k hk => by omega)
  exact (h1.trans (hb8.mono hw)).trans (hb9.mono hw)
theorem nextC_in (b off n cap : Nat) (xs : List Inx) (j : Nat) (w : World) (hn : n ≤ 1048576) (hcap : n ≤ cap) (hc : Cod w b off n xs) (hj : j < n) (h0 : (res (opF xs) n 0).1 = 0) (hln : (xs.getD j dx).ln ≤ 100000) :
  Calls Tryz.prog 34 #[.slice (some ⟨b,off,none⟩) n cap,.int .i64 j] w fun e w' => ∃ v,e = .returned v ∧ LI w' w.heap.size v (nub (pls (opF xs) n j (xs.getD j dx).c (xs.getD j dx).a (xs.getD j dx).l)) ∧ Below w.heap.size w w':=by
 have hb0:=(Below.refl w.heap.size w).alloc (Nat.le_refl _) (Obj.cells #[.slice (some ⟨b,off,none⟩) n cap] 40)
 have hc0:=hc.later hb0 (Nat.le_refl _)
 have H1:=hid (planAt_in (some ⟨b,off,none⟩) n cap xs j _ hn hcap ⟨hc.1,.inr ⟨b,off,rfl,hc0⟩⟩ hj)
 have hbl:=hc.lt (by omega)
 have hsg0 : SegJ w (xs.getD j dx).la (xs.getD j dx).ln (xs.getD j dx).lc (xs.getD j dx).l:=(hc.2 j hj).2.2.2.2.2.2.2.2 hln
 have HSG0:=hid hsg0
 clear hsg0
 have HCO:=hid hc0
 have HB0:=hid hb0
 have H0:=hid h0
 have kc0 : (w.alloc (Obj.cells #[.slice (some ⟨b,off,none⟩) n cap] 40)).cell? ⟨w.heap.size,0,none⟩ = some (.slice (some ⟨b,off,none⟩) n cap):=by rw [World.cell?_alloc_new]; rfl
 have hs0 : (w.alloc (Obj.cells #[.slice (some ⟨b,off,none⟩) n cap] 40)).heap.size = w.heap.size + 1:=by simp
 have HKC:=hid kc0
 clear hc hb0 h0 hc0 kc0
 go_enter Tryz.func34,Tryz.ntmps34
 go_wp2_with fail
 refine H1.out.mono ?_
 generalize w.alloc (Obj.cells #[.slice (some ⟨b,off,none⟩) n cap] 40) = w0 at *
 rintro e w1 ⟨a1,a2,a3,m,rfl,hM,hb⟩
 have hbs:=hb.size
 rcases hM with ⟨h0,rfl,rfl,rfl,rfl⟩ | ⟨hr,hg,rfl,A,B,C,x1,x2,x3,x4,x5,x6,rfl,rfl,rfl,y1,y2,y3⟩
 ·exact absurd H0.out h0
 rw [decide_eq_true H0.out]
 obtain ⟨o1,ho1⟩ : ∃ o1,o1 = Obj.cells #[Value.slice (some ⟨A,0,none⟩) m m,.slice (some ⟨B,0,none⟩) m m,.slice (some ⟨C,0,none⟩) m m] 78:=⟨_,rfl⟩
 obtain ⟨o2,ho2⟩ : ∃ o2,o2 = Obj.cells #[Value.slice none 0 0] 23:=⟨_,rfl⟩
 have hb2:=((Below.refl w1.heap.size w1).alloc (Nat.le_refl _) o1).alloc (by simp) o2
 have k2:=Kept.of_below hb2
 have hA1:=y1.lt
 have hB1:=y2.lt
 have hC1:=y3.lt
 have H2:=hid (labels A B C m j (opF xs) ((w1.alloc o1).alloc o2) hn hj (labs_len (good_okp hg hj)) (y3.kept k2 (by omega)))
 have hs2 : ((w1.alloc o1).alloc o2).heap.size = w1.heap.size + 1 + 1:=by simp
 have p0 : ((w1.alloc o1).alloc o2).cell? ⟨w1.heap.size,0,none⟩ = some (.slice (some ⟨A,0,none⟩) m m):=by rw [ho1,World.cell?_alloc2_first]; rfl
 have p1 : ((w1.alloc o1).alloc o2).cell? ⟨w1.heap.size,1,none⟩ = some (.slice (some ⟨B,0,none⟩) m m):=by rw [ho1,World.cell?_alloc2_first]; rfl
 have p2 : ((w1.alloc o1).alloc o2).cell? ⟨w1.heap.size,2,none⟩ = some (.slice (some ⟨C,0,none⟩) m m):=by rw [ho1,World.cell?_alloc2_first]; rfl
 have p3 : ((w1.alloc o1).alloc o2).cell? ⟨w1.heap.size + 1,0,none⟩ = some (.slice none 0 0):=by rw [ho2,World.cell?_alloc2_new]; rfl
 have p4 : ((w1.alloc o1).alloc o2).frozen? ⟨w1.heap.size + 1,0,none⟩ = false:=by
  have : w1.heap.size + 1 = (w1.alloc o1).heap.size:=by simp
  rw [ho2,this]; simp
 have p5 : ((w1.alloc o1).alloc o2).cell? ⟨w.heap.size,0,none⟩ = some (.slice (some ⟨b,off,none⟩) m cap):=(hb2.cell (by simp only; omega)).trans ((hb.cell (by simp only; omega)).trans HKC.out)
 have cod2:=(HCO.out.later hb (Nat.le_refl _)).later hb2 (Nat.le_refl _)
 have en2:=y1.kept k2 (by omega)
 have el2:=y2.kept k2 (by omega)
 have bel2 : Below w.heap.size w ((w1.alloc o1).alloc o2):=(HB0.out.trans (hb.mono (by omega))).trans (hb2.mono (by omega))
 have P0:=hid p0
 have P1:=hid p1
 have P2:=hid p2
 have P3:=hid p3
 have P4:=hid p4
 have P5:=hid p5
 have CO2:=hid cod2
 have EN2:=hid en2
 have EL2:=hid el2
 have BEL2:=hid bel2
 have HGO:=hid hg
 unfold planV at H2
 clear p0 p1 p2 p3 p4 p5 cod2 en2 el2 bel2 y1 y2 y3 k2 hb2 hb HKC HCO HB0 H1
 subst ho1 ho2
 go_wp2_with fail
 refine H2.out.mono ?_
 generalize (w1.alloc (Obj.cells #[Value.slice (some ⟨A,0,none⟩) m m,.slice (some ⟨B,0,none⟩) m m,.slice (some ⟨C,0,none⟩) m m] 78)).alloc (Obj.cells #[Value.slice none 0 0] 23) = w2 at *
 rintro e w3 ⟨lv,rfl,hli,hb3⟩
 obtain ⟨la,lc,rfl⟩:=hli.slice
 have hll:=labs_len (good_okp HGO.out hj)
 have hl1 : 0 < (labz (opF xs) j).length:=by simp [labz]
 obtain ⟨_,hlc⟩:=hli.cell
 obtain ⟨Lb,rfl,hlab⟩:=hlc.resolve_left (by omega)
 have hLb : w2.heap.size ≤ Lb ∧ Lb < w3.heap.size:=LI.block hli rfl
 have hs3:=hb3.size
 obtain ⟨o3,ho3⟩ : ∃ o3,o3 = Obj.cells #[Value.slice (some ⟨Lb,0,none⟩) (labz (opF xs) j).length lc] 23:=⟨_,rfl⟩
 obtain ⟨⟨cx,ax,xa,xn,xc,xl⟩,hx⟩ : ∃ x,xs.getD j dx = x:=⟨_,rfl⟩
 obtain ⟨ox,hox⟩ : ∃ ox,ox = Obj.cells #[Value.int .u8 cx,.int .i64 ax,.slice xa xn xc] 51:=⟨_,rfl⟩
 have hb4:=((Below.refl w3.heap.size w3).alloc (Nat.le_refl _) o3).alloc (by simp) ox
 have hs4 : ((w3.alloc o3).alloc ox).heap.size = w3.heap.size + 1 + 1:=by simp
 have go4 : ∀ (b o : Nat) (u : Value),b < w2.heap.size → w2.cell? ⟨b,o,none⟩ = some u → ((w3.alloc o3).alloc ox).cell? ⟨b,o,none⟩ = some u:=fun b o u hb hu => (hb4.cell (by simp only; omega)).trans ((hb3.cell (by exact hb)).trans hu)
 have F : Fx ((w3.alloc o3).alloc ox) (opF xs) w3.heap.size (w1.heap.size + 1) w1.heap.size w.heap.size Lb lc A B C b off m cap j xs :=
  { hn:=hn,hcap:=hcap,hi:=hj,hO:=rfl,ll:=hll
    kl:=by rw [ho3,World.cell?_alloc2_first]; rfl
    lab:=fun k hk => (hb4.cell (by simp only; omega)).trans ((hlab k hk).trans (by rw [List.getD_eq_getElem?_getD,List.getD_eq_getElem?_getD,List.getElem?_eq_getElem hk]; rfl))
    kp0:=go4 _ _ _ (by omega) P0.out,kp1:=go4 _ _ _ (by omega) P1.out,kp2:=go4 _ _ _ (by omega) P2.out,kc:=go4 _ _ _ (by omega) P5.out
    en:=(EN2.out.kept (Kept.of_below hb3) (by omega)).kept (Kept.of_below hb4) (by omega)
    el:=(EL2.out.kept (Kept.of_below hb3) (by omega)).kept (Kept.of_below hb4) (by omega)
    cod:=(CO2.out.later hb3 (Nat.le_refl _)).later hb4 (Nat.le_refl _)
    kv:=by omega,n1:=by omega,n2:=by omega,n3:=by omega,n4:=by omega,n5:=by omega,n6:=by omega,n7:=by omega }
 have c7 : ((w3.alloc o3).alloc ox).cell? ⟨w1.heap.size + 1,0,none⟩ = some (.slice none 0 0):=go4 _ _ _ (by omega) P3.out
 have f7 : ((w3.alloc o3).alloc ox).frozen? ⟨w1.heap.size + 1,0,none⟩ = false:=(frozen_of_block (hb4.block _ (by omega)) 0).trans ((frozen_of_block (hb3.block _ (by omega)) 0).trans P4.out)
 have N0 : NS ((w3.alloc o3).alloc ox) (w1.heap.size + 1) [] ((w3.alloc o3).alloc ox):=⟨Kept.refl _ _,f7,none,0,c7,LI.nil _ _⟩
 have BEL4:=hid ((BEL2.out.trans (hb3.mono (by omega))).trans (hb4.mono (by omega)))
 have HF:=hid F
 have HN0:=hid N0
 have x0 : ((w3.alloc o3).alloc ox).cell? ⟨w3.heap.size + 1,0,none⟩ = some (.int .u8 cx):=by rw [hox,World.cell?_alloc2_new]; rfl
 have x1 : ((w3.alloc o3).alloc ox).cell? ⟨w3.heap.size + 1,1,none⟩ = some (.int .i64 ax):=by rw [hox,World.cell?_alloc2_new]; rfl
 have x2 : ((w3.alloc o3).alloc ox).cell? ⟨w3.heap.size + 1,2,none⟩ = some (.slice xa xn xc):=by rw [hox,World.cell?_alloc2_new]; rfl
 have cod3:=(CO2.out.later hb3 (Nat.le_refl _)).later ((Below.refl w3.heap.size w3).alloc (Nat.le_refl _) o3) (Nat.le_refl _)
 have g0 : (w3.alloc o3).cell? ⟨w.heap.size,0,none⟩ = some (.slice (some ⟨b,off,none⟩) m cap):=(((Below.refl w3.heap.size w3).alloc (Nat.le_refl _) o3).cell (by simp only; omega)).trans ((hb3.cell (by simp only; omega)).trans P5.out)
 have g1:=cod3.op hj
 have g2:=cod3.num hj
 have g3:=cod3.lab hj
 have hsg : SegJ ((w3.alloc o3).alloc ox) xa xn xc xl:=by
  have:=(F.cod.2 j hj).2.2.2.2.2.2.2.2
  rw [hx] at this hln
  exact this hln
 have hOx : opF xs j = cx:=by unfold opF; rw [hx]
 have hcr:=F.cod.range hj
 rw [hOx] at g1 hcr
 rw [hx] at hln g2 g3
 simp only at hln g2 g3
 have har : -9223372036854775808 ≤ ax ∧ ax ≤ 9223372036854775807:=by
  have:=F.cod.2 j hj
  rw [hx] at this
  exact ⟨this.2.2.2.2.2.1,this.2.2.2.2.2.2.1⟩
 rw [hx] at HSG0
 simp only at HSG0
 have HX:=hid hx
 have HSG:=hid hsg
 clear F N0 hb3 hb4 go4 hli hlab hlc P0 P1 P2 P3 P4 P5 CO2 EN2 EL2 BEL2 cod3 hsg hx
 by_cases h_0 : cx = 0
 ·subst h_0
  subst ho3 hox
  generalize hwx : (w3.alloc (Obj.cells #[Value.slice (some ⟨Lb,0,none⟩) (labz (opF xs) j).length lc] 23)).alloc (Obj.cells #[Value.int .u8 0,.int .i64 ax,.slice xa xn xc] 51) = wx at *
  have hlb : (labz (opF xs) j).length ≤ 33:=hll
  have hle : w.heap.size ≤ wx.heap.size:=by omega
  clear hs4
  have gx:=HF.out.kc
  have gp0:=HF.out.kp0
  have gp1:=HF.out.kp1
  have gp2:=HF.out.kp2
  have HN:=HN0
  have HL8:=hid (LI.nil wx wx.heap.size)
  have c8:=c7
  clear c7
  have hbz:=HN.out.kept.size
  have H5:=hid (sortC _ _ _ _ HL8.out (by first | omega | (simp; done) | (simp; omega)))
  have hsl : (srt []).length ≤ 1073741824:=by first | (simp [srt]; done) | (simp [srt]; omega)
  go_wp2_with fail
  refine H5.out.mono ?_
  rintro e w8 ⟨rfl,hL9,hb9⟩
  have hb9:=hb9 hbz
  have c9:=(hb9.cell (p:=⟨w1.heap.size + 1,0,none⟩) (by exact HF.out.kv)).trans c8
  have H6:=hid (compactC _ _ _ _ hL9 hsl)
  have HB9:=hid hb9
  have hbz9:=Nat.le_trans hbz hb9.size
  clear hL9 hb9
  go_wp2_with fail
  refine H6.out.mono ?_
  rintro e w9 ⟨v9,rfl,hL10,hb10⟩
  have HL10:=hid hL10
  have HB10:=hid (hb10 hbz9)
  clear hL10 hb10
  obtain ⟨va,vc,rfl⟩:=HL10.out.slice
  go_wp2_with fail
  go_ret
  exact nx_end HX.out HN.out (by omega) (by omega) HB9.out HB10.out HL10.out BEL4.out (by simp [pls])
 by_cases h_4 : cx = 4
 ·subst h_4
  subst ho3 hox
  generalize hwx : (w3.alloc (Obj.cells #[Value.slice (some ⟨Lb,0,none⟩) (labz (opF xs) j).length lc] 23)).alloc (Obj.cells #[Value.int .u8 4,.int .i64 ax,.slice xa xn xc] 51) = wx at *
  have hlb : (labz (opF xs) j).length ≤ 33:=hll
  have hle : w.heap.size ≤ wx.heap.size:=by omega
  clear hs4
  have gx:=HF.out.kc
  have gp0:=HF.out.kp0
  have gp1:=HF.out.kp1
  have gp2:=HF.out.kp2
  have mP : w1.heap.size < wx.heap.size:=block_lt_of_cell gp0
  have nP : w1.heap.size ≠ w1.heap.size + 1:=by omega
  have kd : Kept (fun _ => False) wx wx.drew:=Kept.drewN _ wx 1
  have ho:=otherwise A B C m j (opF xs) wx.drew hn hj (HF.out.en.kept kd (fun x => x)) (HF.out.el.kept kd (fun x => x))
  have ho2 : Calls Tryz.prog 80 #[planV A B C m,.int .i64 j] wx.drew fun e w' => e = .returned (.int .i64 (oth (opF xs) m j)) ∧ Below wx.heap.size wx w':=ho.mono fun e w' ⟨he,hb⟩ =>
   ⟨he,(kd.to_below (Nat.le_refl _) (fun _ _ x => x)).trans hb⟩
  have HO:=hid ho2
  unfold planV at HO
  clear ho ho2 kd
  have e7 : ∀ W,Below wx.heap.size wx W → W.cell? ⟨w1.heap.size,0,none⟩ = some (.slice (some ⟨A,0,none⟩) m m) ∧ W.cell? ⟨w1.heap.size,1,none⟩ = some (.slice (some ⟨B,0,none⟩) m m) ∧ W.cell? ⟨w1.heap.size,2,none⟩ = some (.slice (some ⟨C,0,none⟩) m m) ∧ W.cell? ⟨w1.heap.size + 1,0,none⟩ = some (.slice none 0 0):=fun W hW =>
   ⟨(hW.cell (by exact mP)).trans gp0,(hW.cell (by exact mP)).trans gp1,(hW.cell (by exact mP)).trans gp2,(hW.cell (by exact HF.out.kv)).trans c7⟩
  have HE7:=hid e7
  clear e7
  obtain ⟨ot,hot⟩ : ∃ ot,oth (opF xs) m j = ot:=⟨_,rfl⟩
  have HOT:=hid hot
  rw [hot] at HO
  clear hot
  go_wp2_with fail
  refine wp_region_held_drew (S:=fun W => W.cell? ⟨w1.heap.size,0,none⟩ = some (.slice (some ⟨A,0,none⟩) m m) ∧ W.cell? ⟨w1.heap.size,1,none⟩ = some (.slice (some ⟨B,0,none⟩) m m) ∧ W.cell? ⟨w1.heap.size,2,none⟩ = some (.slice (some ⟨C,0,none⟩) m m)) (by kernel_rfl) ?_ (fun hHeld => ?_)
  ·((try dsimp only); go_keep)
  refine tkH (i:=1) (v:=?_) rfl ?_ ?_
  rotate_left
  ·intro w h;(try dsimp only at h);go_simp;try with_reducible rfl
  try simp only [Act.put,sIB]
  refine tkH (i:=2) (v:=?_) rfl ?_ ?_
  rotate_left
  ·intro w h;(try dsimp only at h);go_simp;try with_reducible rfl
  try simp only [Act.put]
  refine tkH (i:=3) (v:=?_) rfl ?_ ?_
  rotate_left
  ·intro w h;(try dsimp only at h);go_simp;try with_reducible rfl
  try simp only [Act.put]
  refine tkH (i:=4) (v:=?_) rfl ?_ ?_
  rotate_left
  ·intro w h;(try dsimp only at h);go_simp;try with_reducible rfl
  try simp only [Act.put]
  refine wpAnyH_ready (rs:=[0,5]) (by kernel_rfl) (by simp) ?_
  refine AllReadyH.cons rfl (fun K hK => ?_) ?_
  ·go_simp
   refine hK.out _ _ ?_ (fun hHeld => ?_)
   ·((try dsimp only); go_keep)
   clear hK K
   try simp only [Act.put,sIB,sC0,sCs]
   refine wpAnyH_ready (rs:=[5]) (by kernel_rfl) (by simp) ?_
   refine AllReadyH.cons rfl (fun K hK => ?_) ?_
   ·go_simp
    refine HO.out.mono ?_
    rintro e w5 ⟨rfl,hb5⟩
    obtain ⟨d0,d1,d2,d3⟩:=HE7.out _ hb5
    have hfg:=fun o => HE7.out _ (hb5.alloc hb5.size o)
    have e0:=fun o => (hfg o).1
    have e1:=fun o => (hfg o).2.1
    have e2:=fun o => (hfg o).2.2.1
    have e3:=fun o => (hfg o).2.2.2
    have h5s:=hb5.size
    have HBD:=hid (hb5.alloc hb5.size (.cells #[.int .i64 (IntKind.i64.wrap ((j : Int) + 1)),.int .i64 ot] 3))
    clear hfg hb5
    go_wp2_with fail
    refine hK.out _ _ ?_ (fun hHeld => ?_)
    ·((try dsimp only); go_keep)
    clear hK K
    try simp only [Act.put,sIB,sC0,sCs]
    refine wpAnyH_ready (rs:=[6]) (by kernel_rfl) (by simp) ?_
    refine AllReadyH.cons rfl (fun K hK => ?_) ?_
    ·go_simp
     refine hK.out _ _ ?_ (fun hHeld => ?_)
     ·((try dsimp only); go_keep)
     clear hK K
     try simp only [Act.put,sIB,sC0,sCs]
     refine wpAnyH_ready (rs:=[7]) (by kernel_rfl) (by simp) ?_
     refine AllReadyH.cons rfl (fun K hK => ?_) ?_
     ·refine step_app _ rfl (.tmp 45) (.tmp 51) rfl wx.heap.size _ [] rfl (LI.nil _ _) (by have:=h5s; first | (simp; done) | (simp; omega)) ⟨w5.heap.size,0,none⟩ [IntKind.i64.wrap ((j : Int) + 1),ot] 2 2 rfl rfl (by decide) (cells2 (by simp [Addr.add]) (by simp [Addr.add])) (by simp) ?_
      intro g6 k6 c6 w6 hk6 hL6 hb6
      have HL6:=hid hL6
      have HB6:=hid (HBD.out.trans hb6)
      have HK6:=hid hk6
      clear hL6 hb6 hk6
      have q6:=(HB6.out.cell (p:=⟨w1.heap.size + 1,0,none⟩) (by exact HF.out.kv)).trans c7
      have r6:=(frozen_of_block (HB6.out.block _ HF.out.kv) 0).trans f7
      have z0:=(HB6.out.cell (p:=⟨w1.heap.size,0,none⟩) (by exact mP)).trans gp0
      have y0:=fun v => set_far z0 nP v
      have z1:=(HB6.out.cell (p:=⟨w1.heap.size,1,none⟩) (by exact mP)).trans gp1
      have y1:=fun v => set_far z1 nP v
      have z2:=(HB6.out.cell (p:=⟨w1.heap.size,2,none⟩) (by exact mP)).trans gp2
      have y2:=fun v => set_far z2 nP v
      refine hK.out _ _ ?_ (fun hHeld => ?_)
      ·((try dsimp only); go_keep)
      clear hK K
      try simp only [Act.put,sIB]
      refine wpAnyH_ready (rs:=[8]) (by kernel_rfl) (by simp) ?_
      refine AllReadyH.cons rfl (fun K hK => ?_) ?_
      ·go_simp
       refine hK.out _ _ ?_ (fun hHeld => ?_)
       ·((try dsimp only); go_keep)
       clear hK K
       try simp only [Act.put,sIB,sC0,sCs]
       refine wpAnyH_done (by kernel_rfl) ?_ _
       go_wp2_with fail
       have NN:=HN0.out.put HB6.out HF.out.kv HK6.out HL6.out
       have LL:=NS.put_LI HB6.out HF.out.kv HL6.out
       have CC:=World.cell?_setCell_same w6 ⟨w1.heap.size + 1,0,none⟩ (.slice (some ⟨g6,0,none⟩) k6 c6) q6
       have HN:=hid NN
       have HL8:=hid LL
       have c8:=CC
       clear NN LL CC
       generalize hwy : w6.setCell ⟨w1.heap.size + 1,0,none⟩ (.slice (some ⟨g6,0,none⟩) k6 c6) = wy at *
       have hbz:=HN.out.kept.size
       have H5:=hid (sortC _ _ _ _ HL8.out (by first | omega | (simp; done) | (simp; omega)))
       have hsl : (srt ([] ++ [IntKind.i64.wrap ((j : Int) + 1),ot])).length ≤ 1073741824:=by first | (simp [srt]; done) | (simp [srt]; omega)
       refine H5.out.mono ?_
       rintro e w8 ⟨rfl,hL9,hb9⟩
       have hb9:=hb9 hbz
       have c9:=(hb9.cell (p:=⟨w1.heap.size + 1,0,none⟩) (by exact HF.out.kv)).trans c8
       have H6:=hid (compactC _ _ _ _ hL9 hsl)
       have HB9:=hid hb9
       have hbz9:=Nat.le_trans hbz hb9.size
       clear hL9 hb9
       go_wp2_with fail
       refine H6.out.mono ?_
       rintro e w9 ⟨v9,rfl,hL10,hb10⟩
       have HL10:=hid hL10
       have HB10:=hid (hb10 hbz9)
       clear hL10 hb10
       obtain ⟨va,vc,rfl⟩:=HL10.out.slice
       go_wp2_with fail
       go_ret
       exact nx_end HX.out HN.out (by omega) (by omega) HB9.out HB10.out HL10.out BEL4.out (by rw [wrap_succ hj hn]; simp [pls]; exact HOT.out)
      exact AllReadyH.nil
     exact AllReadyH.nil
    exact AllReadyH.nil
   exact AllReadyH.nil
  refine AllReadyH.cons rfl (fun K hK => ?_) ?_
  ·go_simp
   refine HO.out.mono ?_
   rintro e w5 ⟨rfl,hb5⟩
   obtain ⟨d0,d1,d2,d3⟩:=HE7.out _ hb5
   have hfg:=fun o => HE7.out _ (hb5.alloc hb5.size o)
   have e0:=fun o => (hfg o).1
   have e1:=fun o => (hfg o).2.1
   have e2:=fun o => (hfg o).2.2.1
   have e3:=fun o => (hfg o).2.2.2
   have h5s:=hb5.size
   have HBD:=hid (hb5.alloc hb5.size (.cells #[.int .i64 (IntKind.i64.wrap ((j : Int) + 1)),.int .i64 ot] 3))
   clear hfg hb5
   go_wp2_with fail
   refine hK.out _ _ ?_ (fun hHeld => ?_)
   ·((try dsimp only); go_keep)
   clear hK K
   try simp only [Act.put,sIB,sC0,sCs]
   refine wpAnyH_ready (rs:=[0,6]) (by kernel_rfl) (by simp) ?_
   refine AllReadyH.cons rfl (fun K hK => ?_) ?_
   ·go_simp
    refine hK.out _ _ ?_ (fun hHeld => ?_)
    ·((try dsimp only); go_keep)
    clear hK K
    try simp only [Act.put,sIB,sC0,sCs]
    refine wpAnyH_ready (rs:=[6]) (by kernel_rfl) (by simp) ?_
    refine AllReadyH.cons rfl (fun K hK => ?_) ?_
    ·go_simp
     refine hK.out _ _ ?_ (fun hHeld => ?_)
     ·((try dsimp only); go_keep)
     clear hK K
     try simp only [Act.put,sIB,sC0,sCs]
     refine wpAnyH_ready (rs:=[7]) (by kernel_rfl) (by simp) ?_
     refine AllReadyH.cons rfl (fun K hK => ?_) ?_
     ·refine step_app _ rfl (.tmp 45) (.tmp 51) rfl wx.heap.size _ [] rfl (LI.nil _ _) (by have:=h5s; first | (simp; done) | (simp; omega)) ⟨w5.heap.size,0,none⟩ [IntKind.i64.wrap ((j : Int) + 1),ot] 2 2 rfl rfl (by decide) (cells2 (by simp [Addr.add]) (by simp [Addr.add])) (by simp) ?_
      intro g6 k6 c6 w6 hk6 hL6 hb6
      have HL6:=hid hL6
      have HB6:=hid (HBD.out.trans hb6)
      have HK6:=hid hk6
      clear hL6 hb6 hk6
      have q6:=(HB6.out.cell (p:=⟨w1.heap.size + 1,0,none⟩) (by exact HF.out.kv)).trans c7
      have r6:=(frozen_of_block (HB6.out.block _ HF.out.kv) 0).trans f7
      have z0:=(HB6.out.cell (p:=⟨w1.heap.size,0,none⟩) (by exact mP)).trans gp0
      have y0:=fun v => set_far z0 nP v
      have z1:=(HB6.out.cell (p:=⟨w1.heap.size,1,none⟩) (by exact mP)).trans gp1
      have y1:=fun v => set_far z1 nP v
      have z2:=(HB6.out.cell (p:=⟨w1.heap.size,2,none⟩) (by exact mP)).trans gp2
      have y2:=fun v => set_far z2 nP v
      refine hK.out _ _ ?_ (fun hHeld => ?_)
      ·((try dsimp only); go_keep)
      clear hK K
      try simp only [Act.put,sIB]
      refine wpAnyH_ready (rs:=[8]) (by kernel_rfl) (by simp) ?_
      refine AllReadyH.cons rfl (fun K hK => ?_) ?_
      ·go_simp
       refine hK.out _ _ ?_ (fun hHeld => ?_)
       ·((try dsimp only); go_keep)
       clear hK K
       try simp only [Act.put,sIB,sC0,sCs]
       refine wpAnyH_done (by kernel_rfl) ?_ _
       go_wp2_with fail
       have NN:=HN0.out.put HB6.out HF.out.kv HK6.out HL6.out
       have LL:=NS.put_LI HB6.out HF.out.kv HL6.out
       have CC:=World.cell?_setCell_same w6 ⟨w1.heap.size + 1,0,none⟩ (.slice (some ⟨g6,0,none⟩) k6 c6) q6
       have HN:=hid NN
       have HL8:=hid LL
       have c8:=CC
       clear NN LL CC
       generalize hwy : w6.setCell ⟨w1.heap.size + 1,0,none⟩ (.slice (some ⟨g6,0,none⟩) k6 c6) = wy at *
       have hbz:=HN.out.kept.size
       have H5:=hid (sortC _ _ _ _ HL8.out (by first | omega | (simp; done) | (simp; omega)))
       have hsl : (srt ([] ++ [IntKind.i64.wrap ((j : Int) + 1),ot])).length ≤ 1073741824:=by first | (simp [srt]; done) | (simp [srt]; omega)
       refine H5.out.mono ?_
       rintro e w8 ⟨rfl,hL9,hb9⟩
       have hb9:=hb9 hbz
       have c9:=(hb9.cell (p:=⟨w1.heap.size + 1,0,none⟩) (by exact HF.out.kv)).trans c8
       have H6:=hid (compactC _ _ _ _ hL9 hsl)
       have HB9:=hid hb9
       have hbz9:=Nat.le_trans hbz hb9.size
       clear hL9 hb9
       go_wp2_with fail
       refine H6.out.mono ?_
       rintro e w9 ⟨v9,rfl,hL10,hb10⟩
       have HL10:=hid hL10
       have HB10:=hid (hb10 hbz9)
       clear hL10 hb10
       obtain ⟨va,vc,rfl⟩:=HL10.out.slice
       go_wp2_with fail
       go_ret
       exact nx_end HX.out HN.out (by omega) (by omega) HB9.out HB10.out HL10.out BEL4.out (by rw [wrap_succ hj hn]; simp [pls]; exact HOT.out)
      exact AllReadyH.nil
     exact AllReadyH.nil
    exact AllReadyH.nil
   refine AllReadyH.cons rfl (fun K hK => ?_) ?_
   ·go_simp
    refine hK.out _ _ ?_ (fun hHeld => ?_)
    ·((try dsimp only); go_keep)
    clear hK K
    try simp only [Act.put,sIB,sC0,sCs]
    refine wpAnyH_ready (rs:=[0]) (by kernel_rfl) (by simp) ?_
    refine AllReadyH.cons rfl (fun K hK => ?_) ?_
    ·go_simp
     refine hK.out _ _ ?_ (fun hHeld => ?_)
     ·((try dsimp only); go_keep)
     clear hK K
     try simp only [Act.put,sIB,sC0,sCs]
     refine wpAnyH_ready (rs:=[7]) (by kernel_rfl) (by simp) ?_
     refine AllReadyH.cons rfl (fun K hK => ?_) ?_
     ·refine step_app _ rfl (.tmp 45) (.tmp 51) rfl wx.heap.size _ [] rfl (LI.nil _ _) (by have:=h5s; first | (simp; done) | (simp; omega)) ⟨w5.heap.size,0,none⟩ [IntKind.i64.wrap ((j : Int) + 1),ot] 2 2 rfl rfl (by decide) (cells2 (by simp [Addr.add]) (by simp [Addr.add])) (by simp) ?_
      intro g6 k6 c6 w6 hk6 hL6 hb6
      have HL6:=hid hL6
      have HB6:=hid (HBD.out.trans hb6)
      have HK6:=hid hk6
      clear hL6 hb6 hk6
      have q6:=(HB6.out.cell (p:=⟨w1.heap.size + 1,0,none⟩) (by exact HF.out.kv)).trans c7
      have r6:=(frozen_of_block (HB6.out.block _ HF.out.kv) 0).trans f7
      have z0:=(HB6.out.cell (p:=⟨w1.heap.size,0,none⟩) (by exact mP)).trans gp0
      have y0:=fun v => set_far z0 nP v
      have z1:=(HB6.out.cell (p:=⟨w1.heap.size,1,none⟩) (by exact mP)).trans gp1
      have y1:=fun v => set_far z1 nP v
      have z2:=(HB6.out.cell (p:=⟨w1.heap.size,2,none⟩) (by exact mP)).trans gp2
      have y2:=fun v => set_far z2 nP v
      refine hK.out _ _ ?_ (fun hHeld => ?_)
      ·((try dsimp only); go_keep)
      clear hK K
      try simp only [Act.put,sIB]
      refine wpAnyH_ready (rs:=[8]) (by kernel_rfl) (by simp) ?_
      refine AllReadyH.cons rfl (fun K hK => ?_) ?_
      ·go_simp
       refine hK.out _ _ ?_ (fun hHeld => ?_)
       ·((try dsimp only); go_keep)
       clear hK K
       try simp only [Act.put,sIB,sC0,sCs]
       refine wpAnyH_done (by kernel_rfl) ?_ _
       go_wp2_with fail
       have NN:=HN0.out.put HB6.out HF.out.kv HK6.out HL6.out
       have LL:=NS.put_LI HB6.out HF.out.kv HL6.out
       have CC:=World.cell?_setCell_same w6 ⟨w1.heap.size + 1,0,none⟩ (.slice (some ⟨g6,0,none⟩) k6 c6) q6
       have HN:=hid NN
       have HL8:=hid LL
       have c8:=CC
       clear NN LL CC
       generalize hwy : w6.setCell ⟨w1.heap.size + 1,0,none⟩ (.slice (some ⟨g6,0,none⟩) k6 c6) = wy at *
       have hbz:=HN.out.kept.size
       have H5:=hid (sortC _ _ _ _ HL8.out (by first | omega | (simp; done) | (simp; omega)))
       have hsl : (srt ([] ++ [IntKind.i64.wrap ((j : Int) + 1),ot])).length ≤ 1073741824:=by first | (simp [srt]; done) | (simp [srt]; omega)
       refine H5.out.mono ?_
       rintro e w8 ⟨rfl,hL9,hb9⟩
       have hb9:=hb9 hbz
       have c9:=(hb9.cell (p:=⟨w1.heap.size + 1,0,none⟩) (by exact HF.out.kv)).trans c8
       have H6:=hid (compactC _ _ _ _ hL9 hsl)
       have HB9:=hid hb9
       have hbz9:=Nat.le_trans hbz hb9.size
       clear hL9 hb9
       go_wp2_with fail
       refine H6.out.mono ?_
       rintro e w9 ⟨v9,rfl,hL10,hb10⟩
       have HL10:=hid hL10
       have HB10:=hid (hb10 hbz9)
       clear hL10 hb10
       obtain ⟨va,vc,rfl⟩:=HL10.out.slice
       go_wp2_with fail
       go_ret
       exact nx_end HX.out HN.out (by omega) (by omega) HB9.out HB10.out HL10.out BEL4.out (by rw [wrap_succ hj hn]; simp [pls]; exact HOT.out)
      exact AllReadyH.nil
     exact AllReadyH.nil
    exact AllReadyH.nil
   exact AllReadyH.nil
  exact AllReadyH.nil
 by_cases h_5 : cx = 5
 ·subst h_5
  subst ho3 hox
  generalize hwx : (w3.alloc (Obj.cells #[Value.slice (some ⟨Lb,0,none⟩) (labz (opF xs) j).length lc] 23)).alloc (Obj.cells #[Value.int .u8 5,.int .i64 ax,.slice xa xn xc] 51) = wx at *
  have hlb : (labz (opF xs) j).length ≤ 33:=hll
  have hle : w.heap.size ≤ wx.heap.size:=by omega
  clear hs4
  have gx:=HF.out.kc
  have gp0:=HF.out.kp0
  have gp1:=HF.out.kp1
  have gp2:=HF.out.kp2
  have ge:=HF.out.en.cell j hj
  have mA : A < wx.heap.size:=HF.out.en.lt
  have mP : w1.heap.size < wx.heap.size:=block_lt_of_cell gp0
  have nA:=HF.out.n5
  have nP : w1.heap.size ≠ w1.heap.size + 1:=by omega
  have a8 : ∀ o,(wx.alloc o).cell? ⟨w1.heap.size + 1,0,none⟩ = some (.slice none 0 0):=fun o => World.cell?_alloc_some _ _ _ (by rw [c7]; rfl) |>.trans c7
  have a7 : ∀ o,(wx.drew.alloc o).cell? ⟨w1.heap.size + 1,0,none⟩ = some (.slice none 0 0):=fun o => World.cell?_alloc_some _ _ _ (by rw [World.cell?_drew,c7]; rfl) |>.trans (by rw [World.cell?_drew,c7])
  have HBD:=hid (((Kept.drewN (fun _ => False) wx 1).to_below (Nat.le_refl _) (fun _ _ x => x)).alloc (Nat.le_refl _) (.cells #[.int .i64 (enF (opF xs) m j)] 3))
  go_wp2_with fail
  refine wp_region_held_drew (S:=fun W => W.cell? ⟨w1.heap.size,0,none⟩ = some (.slice (some ⟨A,0,none⟩) m m) ∧ W.cell? ⟨A,j,none⟩ = some (.int .i64 (enF (opF xs) m j))) (by kernel_rfl) ?_ (fun hHeld => ?_)
  ·((try dsimp only); go_keep)
  refine tkH (i:=1) (v:=?_) rfl ?_ ?_
  rotate_left
  ·intro w h;(try dsimp only at h);go_simp;try with_reducible rfl
  try simp only [Act.put,sIB]
  refine tkH (i:=2) (v:=?_) rfl ?_ ?_
  rotate_left
  ·intro w h;(try dsimp only at h);go_simp;try with_reducible rfl
  try simp only [Act.put]
  refine tkH (i:=3) (v:=?_) rfl ?_ ?_
  rotate_left
  ·intro w h;(try dsimp only at h);go_simp;try with_reducible rfl
  try simp only [Act.put]
  refine tkH (i:=4) (v:=?_) rfl ?_ ?_
  rotate_left
  ·intro w h;(try dsimp only at h);go_simp;try with_reducible rfl
  try simp only [Act.put]
  refine tkH (i:=5) (v:=?_) rfl ?_ ?_
  rotate_left
  ·intro w h;(try dsimp only at h);go_simp;try with_reducible rfl
  try simp only [Act.put]
  refine wpAnyH_ready (rs:=[0,6]) (by kernel_rfl) (by simp) ?_
  refine AllReadyH.cons rfl (fun K hK => ?_) ?_
  ·go_simp
   refine hK.out _ _ ?_ (fun hHeld => ?_)
   ·((try dsimp only); go_keep)
   clear hK K
   try simp only [Act.put,sIB,sC0,sCs]
   refine wpAnyH_ready (rs:=[6]) (by kernel_rfl) (by simp) ?_
   refine AllReadyH.cons rfl (fun K hK => ?_) ?_
   ·go_simp
    refine hK.out _ _ ?_ (fun hHeld => ?_)
    ·((try dsimp only); go_keep)
    clear hK K
    try simp only [Act.put,sIB,sC0,sCs]
    refine wpAnyH_ready (rs:=[7]) (by kernel_rfl) (by simp) ?_
    refine AllReadyH.cons rfl (fun K hK => ?_) ?_
    ·refine step_app _ rfl (.tmp 53) (.tmp 59) rfl wx.heap.size _ [] rfl (LI.nil _ _) (by have:=mA; first | (simp; done) | (simp; omega)) ⟨wx.heap.size,0,none⟩ [enF (opF xs) m j] 1 1 rfl rfl (by decide) (cells1 (by simp [Addr.add])) (by simp) ?_
     intro g6 k6 c6 w6 hk6 hL6 hb6
     have HL6:=hid hL6
     have HB6:=hid (HBD.out.trans hb6)
     have HK6:=hid hk6
     clear hL6 hb6 hk6
     have q6:=(HB6.out.cell (p:=⟨w1.heap.size + 1,0,none⟩) (by exact HF.out.kv)).trans c7
     have r6:=(frozen_of_block (HB6.out.block _ HF.out.kv) 0).trans f7
     have z0:=(HB6.out.cell (p:=⟨w1.heap.size,0,none⟩) (by exact mP)).trans gp0
     have y0:=fun v => set_far z0 nP v
     have z1:=(HB6.out.cell (p:=⟨A,j,none⟩) (by exact mA)).trans ge
     have y1:=fun v => set_far z1 nA v
     refine hK.out _ _ ?_ (fun hHeld => ?_)
     ·((try dsimp only); go_keep)
     clear hK K
     try simp only [Act.put,sIB]
     refine wpAnyH_ready (rs:=[8]) (by kernel_rfl) (by simp) ?_
     refine AllReadyH.cons rfl (fun K hK => ?_) ?_
     ·go_simp
      refine hK.out _ _ ?_ (fun hHeld => ?_)
      ·((try dsimp only); go_keep)
      clear hK K
      try simp only [Act.put,sIB,sC0,sCs]
      refine wpAnyH_done (by kernel_rfl) ?_ _
      go_wp2_with fail
      have NN:=HN0.out.put HB6.out HF.out.kv HK6.out HL6.out
      have LL:=NS.put_LI HB6.out HF.out.kv HL6.out
      have CC:=World.cell?_setCell_same w6 ⟨w1.heap.size + 1,0,none⟩ (.slice (some ⟨g6,0,none⟩) k6 c6) q6
      have HN:=hid NN
      have HL8:=hid LL
      have c8:=CC
      clear NN LL CC
      generalize hwy : w6.setCell ⟨w1.heap.size + 1,0,none⟩ (.slice (some ⟨g6,0,none⟩) k6 c6) = wy at *
      have hbz:=HN.out.kept.size
      have H5:=hid (sortC _ _ _ _ HL8.out (by first | omega | (simp; done) | (simp; omega)))
      have hsl : (srt ([] ++ [enF (opF xs) m j])).length ≤ 1073741824:=by first | (simp [srt]; done) | (simp [srt]; omega)
      refine H5.out.mono ?_
      rintro e w8 ⟨rfl,hL9,hb9⟩
      have hb9:=hb9 hbz
      have c9:=(hb9.cell (p:=⟨w1.heap.size + 1,0,none⟩) (by exact HF.out.kv)).trans c8
      have H6:=hid (compactC _ _ _ _ hL9 hsl)
      have HB9:=hid hb9
      have hbz9:=Nat.le_trans hbz hb9.size
      clear hL9 hb9
      go_wp2_with fail
      refine H6.out.mono ?_
      rintro e w9 ⟨v9,rfl,hL10,hb10⟩
      have HL10:=hid hL10
      have HB10:=hid (hb10 hbz9)
      clear hL10 hb10
      obtain ⟨va,vc,rfl⟩:=HL10.out.slice
      go_wp2_with fail
      go_ret
      exact nx_end HX.out HN.out (by omega) (by omega) HB9.out HB10.out HL10.out BEL4.out (by simp [pls])
     exact AllReadyH.nil
    exact AllReadyH.nil
   exact AllReadyH.nil
  refine AllReadyH.cons rfl (fun K hK => ?_) ?_
  ·go_simp
   refine hK.out _ _ ?_ (fun hHeld => ?_)
   ·((try dsimp only); go_keep)
   clear hK K
   try simp only [Act.put,sIB,sC0,sCs]
   refine wpAnyH_ready (rs:=[0]) (by kernel_rfl) (by simp) ?_
   refine AllReadyH.cons rfl (fun K hK => ?_) ?_
   ·go_simp
    refine hK.out _ _ ?_ (fun hHeld => ?_)
    ·((try dsimp only); go_keep)
    clear hK K
    try simp only [Act.put,sIB,sC0,sCs]
    refine wpAnyH_ready (rs:=[7]) (by kernel_rfl) (by simp) ?_
    refine AllReadyH.cons rfl (fun K hK => ?_) ?_
    ·refine step_app _ rfl (.tmp 53) (.tmp 59) rfl wx.heap.size _ [] rfl (LI.nil _ _) (by have:=mA; first | (simp; done) | (simp; omega)) ⟨wx.heap.size,0,none⟩ [enF (opF xs) m j] 1 1 rfl rfl (by decide) (cells1 (by simp [Addr.add])) (by simp) ?_
     intro g6 k6 c6 w6 hk6 hL6 hb6
     have HL6:=hid hL6
     have HB6:=hid (HBD.out.trans hb6)
     have HK6:=hid hk6
     clear hL6 hb6 hk6
     have q6:=(HB6.out.cell (p:=⟨w1.heap.size + 1,0,none⟩) (by exact HF.out.kv)).trans c7
     have r6:=(frozen_of_block (HB6.out.block _ HF.out.kv) 0).trans f7
     have z0:=(HB6.out.cell (p:=⟨w1.heap.size,0,none⟩) (by exact mP)).trans gp0
     have y0:=fun v => set_far z0 nP v
     have z1:=(HB6.out.cell (p:=⟨A,j,none⟩) (by exact mA)).trans ge
     have y1:=fun v => set_far z1 nA v
     refine hK.out _ _ ?_ (fun hHeld => ?_)
     ·((try dsimp only); go_keep)
     clear hK K
     try simp only [Act.put,sIB]
     refine wpAnyH_ready (rs:=[8]) (by kernel_rfl) (by simp) ?_
     refine AllReadyH.cons rfl (fun K hK => ?_) ?_
     ·go_simp
      refine hK.out _ _ ?_ (fun hHeld => ?_)
      ·((try dsimp only); go_keep)
      clear hK K
      try simp only [Act.put,sIB,sC0,sCs]
      refine wpAnyH_done (by kernel_rfl) ?_ _
      go_wp2_with fail
      have NN:=HN0.out.put HB6.out HF.out.kv HK6.out HL6.out
      have LL:=NS.put_LI HB6.out HF.out.kv HL6.out
      have CC:=World.cell?_setCell_same w6 ⟨w1.heap.size + 1,0,none⟩ (.slice (some ⟨g6,0,none⟩) k6 c6) q6
      have HN:=hid NN
      have HL8:=hid LL
      have c8:=CC
      clear NN LL CC
      generalize hwy : w6.setCell ⟨w1.heap.size + 1,0,none⟩ (.slice (some ⟨g6,0,none⟩) k6 c6) = wy at *
      have hbz:=HN.out.kept.size
      have H5:=hid (sortC _ _ _ _ HL8.out (by first | omega | (simp; done) | (simp; omega)))
      have hsl : (srt ([] ++ [enF (opF xs) m j])).length ≤ 1073741824:=by first | (simp [srt]; done) | (simp [srt]; omega)
      refine H5.out.mono ?_
      rintro e w8 ⟨rfl,hL9,hb9⟩
      have hb9:=hb9 hbz
      have c9:=(hb9.cell (p:=⟨w1.heap.size + 1,0,none⟩) (by exact HF.out.kv)).trans c8
      have H6:=hid (compactC _ _ _ _ hL9 hsl)
      have HB9:=hid hb9
      have hbz9:=Nat.le_trans hbz hb9.size
      clear hL9 hb9
      go_wp2_with fail
      refine H6.out.mono ?_
      rintro e w9 ⟨v9,rfl,hL10,hb10⟩
      have HL10:=hid hL10
      have HB10:=hid (hb10 hbz9)
      clear hL10 hb10
      obtain ⟨va,vc,rfl⟩:=HL10.out.slice
      go_wp2_with fail
      go_ret
      exact nx_end HX.out HN.out (by omega) (by omega) HB9.out HB10.out HL10.out BEL4.out (by simp [pls])
     exact AllReadyH.nil
    exact AllReadyH.nil
   exact AllReadyH.nil
  exact AllReadyH.nil
 by_cases h_8 : cx = 8
 ·subst h_8
  subst ho3 hox
  generalize hwx : (w3.alloc (Obj.cells #[Value.slice (some ⟨Lb,0,none⟩) (labz (opF xs) j).length lc] 23)).alloc (Obj.cells #[Value.int .u8 8,.int .i64 ax,.slice xa xn xc] 51) = wx at *
  have hlb : (labz (opF xs) j).length ≤ 33:=hll
  have hle : w.heap.size ≤ wx.heap.size:=by omega
  clear hs4
  have gx:=HF.out.kc
  have gp0:=HF.out.kp0
  have gp1:=HF.out.kp1
  have gp2:=HF.out.kp2
  have hal : wx.heap.size ≤ (wx.alloc (.cells #[.int .i64 ((j : Int) + 1)] 3)).heap.size:=by simp
  have hbl2:=(Below.refl wx.heap.size wx).alloc (Nat.le_refl _) (.cells #[.int .i64 ((j : Int) + 1)] 3)
  have HBL2:=hid hbl2
  clear hbl2
  go_wp2_with (first
   | (at_builtin; refine app_ints _ rfl (.tmp 61) (.tmp 64) rfl wx.heap.size _ [] rfl (LI.nil _ _) hal ⟨wx.heap.size,0,none⟩ [(j : Int) + 1] 1 1 rfl rfl (cells1 (by simp [Addr.add])) (by simp) ?_; intro a6 k6 c6 w6 hk6 hL6 hb6; have HL6:=hid hL6; have HB6:=hid (HBL2.out.trans hb6); have HK6:=hid hk6; have q6:=(HB6.out.cell (p:=⟨w1.heap.size + 1,0,none⟩) (by exact HF.out.kv)).trans c7; have r6:=(frozen_of_block (HB6.out.block _ HF.out.kv) 0).trans f7; have NN:=HN0.out.put HB6.out HF.out.kv HK6.out HL6.out; have LL:=NS.put_LI HB6.out HF.out.kv HL6.out; have CC:=World.cell?_setCell_same w6 ⟨w1.heap.size + 1,0,none⟩ (.slice a6 k6 c6) q6; have HN:=hid NN; have HL8:=hid LL; have c8:=CC; clear NN LL CC; generalize hwy : w6.setCell ⟨w1.heap.size + 1,0,none⟩ (.slice a6 k6 c6) = wy at *; have x8:=HN.out.kept.cell x1 (show ¬ w3.heap.size + 1 = w1.heap.size + 1 by omega); have H7:=hid (branch wx (opF xs) w3.heap.size (w1.heap.size + 1) w1.heap.size w.heap.size Lb lc A B C b off m cap j xs HF.out _ ax wy HN.out (by simp)); clear hL6 hb6 hk6))
  refine H7.out.mono ?_
  rintro e w7 ⟨rfl,hn7⟩
  have HN7:=hid hn7
  clear hn7 HN HL8 c8
  obtain ⟨L,hL⟩ : ∃ L,([] ++ [(j : Int) + 1]) ++ brn (opF xs) m j ax = L:=⟨_,rfl⟩
  rw [hL] at HN7
  obtain ⟨pa,pc,c8,hL8⟩:=HN7.out.pv
  have HN:=HN7
  have HL8:=hid hL8
  have hLL : L.length ≤ 1048576:=by rw [← hL]; have:=brn_len (opF xs) m j ax; simp; omega
  have HL0:=hid hL
  clear hL8 hL
  have hbz:=HN.out.kept.size
  have H5:=hid (sortC _ _ _ _ HL8.out (by first | omega | (simp; done) | (simp; omega)))
  have hsl : (srt L).length ≤ 1073741824:=by first | (simp [srt]; done) | (simp [srt]; omega)
  go_wp2_with fail
  refine H5.out.mono ?_
  rintro e w8 ⟨rfl,hL9,hb9⟩
  have hb9:=hb9 hbz
  have c9:=(hb9.cell (p:=⟨w1.heap.size + 1,0,none⟩) (by exact HF.out.kv)).trans c8
  have H6:=hid (compactC _ _ _ _ hL9 hsl)
  have HB9:=hid hb9
  have hbz9:=Nat.le_trans hbz hb9.size
  clear hL9 hb9
  go_wp2_with fail
  refine H6.out.mono ?_
  rintro e w9 ⟨v9,rfl,hL10,hb10⟩
  have HL10:=hid hL10
  have HB10:=hid (hb10 hbz9)
  clear hL10 hb10
  obtain ⟨va,vc,rfl⟩:=HL10.out.slice
  go_wp2_with fail
  go_ret
  exact nx_end HX.out HN.out (by omega) (by omega) HB9.out HB10.out HL10.out BEL4.out (by rw [← HL0.out]; simp [pls])
 by_cases h_7 : cx = 7
 ·subst h_7
  subst ho3 hox
  generalize hwx : (w3.alloc (Obj.cells #[Value.slice (some ⟨Lb,0,none⟩) (labz (opF xs) j).length lc] 23)).alloc (Obj.cells #[Value.int .u8 7,.int .i64 ax,.slice xa xn xc] 51) = wx at *
  have hlb : (labz (opF xs) j).length ≤ 33:=hll
  have hle : w.heap.size ≤ wx.heap.size:=by omega
  clear hs4
  have gx:=HF.out.kc
  have gp0:=HF.out.kp0
  have gp1:=HF.out.kp1
  have gp2:=HF.out.kp2
  have H7:=hid (branch wx (opF xs) w3.heap.size (w1.heap.size + 1) w1.heap.size w.heap.size Lb lc A B C b off m cap j xs HF.out [] ax wx HN0.out (by simp))
  clear c7 f7
  go_wp2_with fail
  refine H7.out.mono ?_
  rintro e w7 ⟨rfl,hn7⟩
  have HN7:=hid hn7
  clear hn7
  obtain ⟨L,hL⟩ : ∃ L,([] : List Int) ++ brn (opF xs) m j ax = L:=⟨_,rfl⟩
  rw [hL] at HN7
  obtain ⟨pa,pc,c8,hL8⟩:=HN7.out.pv
  have HN:=HN7
  have HL8:=hid hL8
  have hLL : L.length ≤ 1048576:=by rw [← hL]; have:=brn_len (opF xs) m j ax; simp; omega
  have HL0:=hid hL
  clear hL8 hL
  have hbz:=HN.out.kept.size
  have H5:=hid (sortC _ _ _ _ HL8.out (by first | omega | (simp; done) | (simp; omega)))
  have hsl : (srt L).length ≤ 1073741824:=by first | (simp [srt]; done) | (simp [srt]; omega)
  go_wp2_with fail
  refine H5.out.mono ?_
  rintro e w8 ⟨rfl,hL9,hb9⟩
  have hb9:=hb9 hbz
  have c9:=(hb9.cell (p:=⟨w1.heap.size + 1,0,none⟩) (by exact HF.out.kv)).trans c8
  have H6:=hid (compactC _ _ _ _ hL9 hsl)
  have HB9:=hid hb9
  have hbz9:=Nat.le_trans hbz hb9.size
  clear hL9 hb9
  go_wp2_with fail
  refine H6.out.mono ?_
  rintro e w9 ⟨v9,rfl,hL10,hb10⟩
  have HL10:=hid hL10
  have HB10:=hid (hb10 hbz9)
  clear hL10 hb10
  obtain ⟨va,vc,rfl⟩:=HL10.out.slice
  go_wp2_with fail
  go_ret
  exact nx_end HX.out HN.out (by omega) (by omega) HB9.out HB10.out HL10.out BEL4.out (by rw [← HL0.out]; simp [pls])
 by_cases h_9 : cx = 9
 ·subst h_9
  subst ho3 hox
  generalize hwx : (w3.alloc (Obj.cells #[Value.slice (some ⟨Lb,0,none⟩) (labz (opF xs) j).length lc] 23)).alloc (Obj.cells #[Value.int .u8 9,.int .i64 ax,.slice xa xn xc] 51) = wx at *
  have hlb : (labz (opF xs) j).length ≤ 33:=hll
  have hle : w.heap.size ≤ wx.heap.size:=by omega
  clear hs4
  have gx:=HF.out.kc
  have gp0:=HF.out.kp0
  have gp1:=HF.out.kp1
  have gp2:=HF.out.kp2
  go_wp2_with fail
  go_loopw [73] (fun i wr => ∃ k : Nat,k ≤ xn ∧ i = .int .i64 k ∧ NS wx (w1.heap.size + 1) ((xl.take k).flatMap (brn (opF xs) m j)) wr) (fun i _ => xn - (intOf i).toNat)
  case atStart => exact ⟨0,by omega,rfl,HN0.out⟩
  case round =>
   obtain ⟨k,hk,rfl,hns⟩:=hrel
   have hxl : xl.length = xn:=HSG0.out.1
   by_cases hlt : k < xn
   ·rcases HSG.out.2.2.2.2 with h0 | ⟨b1,f1,rfl,hcells⟩
    ·omega
    have hb1 : b1 < w.heap.size:=by
     rcases HSG0.out.2.2.2.2 with h0 | ⟨b2,f2,e2,hc2⟩
     ·omega
     ·injection e2 with e2; injection e2 with e2 _; subst e2; exact block_lt_of_cell (hc2 k hlt)
    have cl : wr.cell? ⟨b1,f1 + k,none⟩ = some (.int .i64 (xl.getD k 0)):=hns.kept.cell (hcells k hlt) (show ¬ b1 = w1.heap.size + 1 by omega)
    have hlen : ((xl.take k).flatMap (brn (opF xs) m j)).length ≤ 1000000000:=by
     have:=brn_all_len (opF xs) m j (xl.take k)
     have h2 : (xl.take k).length ≤ xl.length:=by simp; omega
     omega
    have H7:=hid (branch wx (opF xs) w3.heap.size (w1.heap.size + 1) w1.heap.size w.heap.size Lb lc A B C b off m cap j xs HF.out _ (xl.getD k 0) wr hns hlen)
    have hnx : (xl.take (k + 1)).flatMap (brn (opF xs) m j) = (xl.take k).flatMap (brn (opF xs) m j) ++ brn (opF xs) m j (xl.getD k 0):=by
     rw [List.take_succ_eq_append_getElem (by omega),List.flatMap_append]
     simp [List.getD_eq_getElem?_getD,List.getElem?_eq_getElem (show k < xl.length by omega)]
    rw [← hnx] at H7
    generalize xl.getD k 0 = zk at *
    clear hns hcells hlen hnx c7 f7
    go_wp2_with fail
    refine H7.out.mono ?_
    rintro e w7 ⟨rfl,hn7⟩
    have HN7:=hid hn7
    clear hn7
    go_wp2_with fail
    exact ⟨⟨k + 1,by omega,by go_num,HN7.out⟩,by simp [intOf]; omega⟩
   ·obtain rfl : k = xn:=by omega
    have HN7:=hid hns
    rw [List.take_of_length_le (by omega)] at HN7
    clear hns c7 f7
    obtain ⟨L,hL⟩ : ∃ L,xl.flatMap (brn (opF xs) m j) = L:=⟨_,rfl⟩
    rw [hL] at HN7
    obtain ⟨pa,pc,c8,hL8⟩:=HN7.out.pv
    have HN:=HN7
    have HL8:=hid hL8
    have hLL : L.length ≤ 1048576:=by rw [← hL]; have:=brn_all_len (opF xs) m j xl; omega
    have HL0:=hid hL
    clear hL8 hL
    have hbz:=HN.out.kept.size
    have H5:=hid (sortC _ _ _ _ HL8.out (by first | omega | (simp; done) | (simp; omega)))
    have hsl : (srt L).length ≤ 1073741824:=by first | (simp [srt]; done) | (simp [srt]; omega)
    go_wp2_with fail
    refine H5.out.mono ?_
    rintro e w8 ⟨rfl,hL9,hb9⟩
    have hb9:=hb9 hbz
    have c9:=(hb9.cell (p:=⟨w1.heap.size + 1,0,none⟩) (by exact HF.out.kv)).trans c8
    have H6:=hid (compactC _ _ _ _ hL9 hsl)
    have HB9:=hid hb9
    have hbz9:=Nat.le_trans hbz hb9.size
    clear hL9 hb9
    go_wp2_with fail
    refine H6.out.mono ?_
    rintro e w9 ⟨v9,rfl,hL10,hb10⟩
    have HL10:=hid hL10
    have HB10:=hid (hb10 hbz9)
    clear hL10 hb10
    obtain ⟨va,vc,rfl⟩:=HL10.out.slice
    go_wp2_with fail
    go_ret
    exact nx_end HX.out HN.out (by omega) (by omega) HB9.out HB10.out HL10.out BEL4.out (by rw [← HL0.out]; simp [pls])
 by_cases h_10 : cx = 10
 ·subst h_10
  subst ho3 hox
  generalize hwx : (w3.alloc (Obj.cells #[Value.slice (some ⟨Lb,0,none⟩) (labz (opF xs) j).length lc] 23)).alloc (Obj.cells #[Value.int .u8 10,.int .i64 ax,.slice xa xn xc] 51) = wx at *
  have hlb : (labz (opF xs) j).length ≤ 33:=hll
  have hle : w.heap.size ≤ wx.heap.size:=by omega
  clear hs4
  have gx:=HF.out.kc
  have gp0:=HF.out.kp0
  have gp1:=HF.out.kp1
  have gp2:=HF.out.kp2
  have hal : wx.heap.size ≤ (wx.alloc (.cells #[.int .i64 ((m : Int))] 3)).heap.size:=by simp
  have hbl2:=(Below.refl wx.heap.size wx).alloc (Nat.le_refl _) (.cells #[.int .i64 ((m : Int))] 3)
  have HBL2:=hid hbl2
  clear hbl2
  go_wp2_with (first
   | (at_builtin; refine app_ints _ rfl (.tmp 81) (.tmp 84) rfl wx.heap.size _ [] rfl (LI.nil _ _) hal ⟨wx.heap.size,0,none⟩ [(m : Int)] 1 1 rfl rfl (cells1 (by simp [Addr.add])) (by simp) ?_; intro a6 k6 c6 w6 hk6 hL6 hb6; have HL6:=hid hL6; have HB6:=hid (HBL2.out.trans hb6); have HK6:=hid hk6; have q6:=(HB6.out.cell (p:=⟨w1.heap.size + 1,0,none⟩) (by exact HF.out.kv)).trans c7; have r6:=(frozen_of_block (HB6.out.block _ HF.out.kv) 0).trans f7; have NN:=HN0.out.put HB6.out HF.out.kv HK6.out HL6.out; have LL:=NS.put_LI HB6.out HF.out.kv HL6.out; have CC:=World.cell?_setCell_same w6 ⟨w1.heap.size + 1,0,none⟩ (.slice a6 k6 c6) q6; have HN:=hid NN; have HL8:=hid LL; have c8:=CC; clear NN LL CC; generalize hwy : w6.setCell ⟨w1.heap.size + 1,0,none⟩ (.slice a6 k6 c6) = wy at *; clear hL6 hb6 hk6))
  have hbz:=HN.out.kept.size
  have H5:=hid (sortC _ _ _ _ HL8.out (by first | omega | (simp; done) | (simp; omega)))
  have hsl : (srt ([] ++ [(m : Int)])).length ≤ 1073741824:=by first | (simp [srt]; done) | (simp [srt]; omega)
  refine H5.out.mono ?_
  rintro e w8 ⟨rfl,hL9,hb9⟩
  have hb9:=hb9 hbz
  have c9:=(hb9.cell (p:=⟨w1.heap.size + 1,0,none⟩) (by exact HF.out.kv)).trans c8
  have H6:=hid (compactC _ _ _ _ hL9 hsl)
  have HB9:=hid hb9
  have hbz9:=Nat.le_trans hbz hb9.size
  clear hL9 hb9
  go_wp2_with fail
  refine H6.out.mono ?_
  rintro e w9 ⟨v9,rfl,hL10,hb10⟩
  have HL10:=hid hL10
  have HB10:=hid (hb10 hbz9)
  clear hL10 hb10
  obtain ⟨va,vc,rfl⟩:=HL10.out.slice
  go_wp2_with fail
  go_ret
  exact nx_end HX.out HN.out (by omega) (by omega) HB9.out HB10.out HL10.out BEL4.out (by simp [pls])
 have d0 : (cx == 0) = false:=by simpa using h_0
 have d4 : (cx == 4) = false:=by simpa using h_4
 have d5 : (cx == 5) = false:=by simpa using h_5
 have d8 : (cx == 8) = false:=by simpa using h_8
 have d7 : (cx == 7) = false:=by simpa using h_7
 have d9 : (cx == 9) = false:=by simpa using h_9
 have d10 : (cx == 10) = false:=by simpa using h_10
 subst ho3 hox
 generalize hwx : (w3.alloc (Obj.cells #[Value.slice (some ⟨Lb,0,none⟩) (labz (opF xs) j).length lc] 23)).alloc (Obj.cells #[Value.int .u8 cx,.int .i64 ax,.slice xa xn xc] 51) = wx at *
 have hlb : (labz (opF xs) j).length ≤ 33:=hll
 have hle : w.heap.size ≤ wx.heap.size:=by omega
 clear hs4
 have gx:=HF.out.kc
 have gp0:=HF.out.kp0
 have gp1:=HF.out.kp1
 have gp2:=HF.out.kp2
 have hal : wx.heap.size ≤ (wx.alloc (.cells #[.int .i64 ((j : Int) + 1)] 3)).heap.size:=by simp
 have hbl2:=(Below.refl wx.heap.size wx).alloc (Nat.le_refl _) (.cells #[.int .i64 ((j : Int) + 1)] 3)
 have HBL2:=hid hbl2
 clear hbl2
 go_wp2_with (first
  | (at_builtin; refine app_ints _ rfl (.tmp 86) (.tmp 89) rfl wx.heap.size _ [] rfl (LI.nil _ _) hal ⟨wx.heap.size,0,none⟩ [(j : Int) + 1] 1 1 rfl rfl (cells1 (by simp [Addr.add])) (by simp) ?_; intro a6 k6 c6 w6 hk6 hL6 hb6; have HL6:=hid hL6; have HB6:=hid (HBL2.out.trans hb6); have HK6:=hid hk6; have q6:=(HB6.out.cell (p:=⟨w1.heap.size + 1,0,none⟩) (by exact HF.out.kv)).trans c7; have r6:=(frozen_of_block (HB6.out.block _ HF.out.kv) 0).trans f7; have NN:=HN0.out.put HB6.out HF.out.kv HK6.out HL6.out; have LL:=NS.put_LI HB6.out HF.out.kv HL6.out; have CC:=World.cell?_setCell_same w6 ⟨w1.heap.size + 1,0,none⟩ (.slice a6 k6 c6) q6; have HN:=hid NN; have HL8:=hid LL; have c8:=CC; clear NN LL CC; generalize hwy : w6.setCell ⟨w1.heap.size + 1,0,none⟩ (.slice a6 k6 c6) = wy at *; clear hL6 hb6 hk6))
 have hbz:=HN.out.kept.size
 have H5:=hid (sortC _ _ _ _ HL8.out (by first | omega | (simp; done) | (simp; omega)))
 have hsl : (srt ([] ++ [(j : Int) + 1])).length ≤ 1073741824:=by first | (simp [srt]; done) | (simp [srt]; omega)
 refine H5.out.mono ?_
 rintro e w8 ⟨rfl,hL9,hb9⟩
 have hb9:=hb9 hbz
 have c9:=(hb9.cell (p:=⟨w1.heap.size + 1,0,none⟩) (by exact HF.out.kv)).trans c8
 have H6:=hid (compactC _ _ _ _ hL9 hsl)
 have HB9:=hid hb9
 have hbz9:=Nat.le_trans hbz hb9.size
 clear hL9 hb9
 go_wp2_with fail
 refine H6.out.mono ?_
 rintro e w9 ⟨v9,rfl,hL10,hb10⟩
 have HL10:=hid hL10
 have HB10:=hid (hb10 hbz9)
 clear hL10 hb10
 obtain ⟨va,vc,rfl⟩:=HL10.out.slice
 go_wp2_with fail
 go_ret
 exact nx_end HX.out HN.out (by omega) (by omega) HB9.out HB10.out HL10.out BEL4.out (by simp [pls,h_0,h_4,h_5,h_8,h_7,h_9,h_10])
theorem nextC (a : Option Addr) (n cap : Nat) (xs : List Inx) (pc : Int) (w : World) (hn : n ≤ 1048576) (hcap : n ≤ cap) (hc : CodS w a n xs) (hln : ∀ j,j < n → (xs.getD j dx).ln ≤ 100000) :
  Calls Tryz.prog 34 #[.slice a n cap,.int .i64 pc] w fun e w' => ∃ v,e = .returned v ∧ LI w' w.heap.size v (nxtV (opF xs) n pc (xs.getD pc.toNat dx)) ∧ Below w.heap.size w w':=by
 by_cases hp : pc < 0 ∨ (n : Int) ≤ pc
 ·refine (nextC_out a n cap pc w hp).mono fun e w' ⟨he,hb⟩ => ⟨_,he,?_,hb⟩
  unfold nxtV
  rw [if_neg (by omega)]
  exact LI.nil _ _
 obtain ⟨j,rfl⟩ : ∃ j : Nat,pc = (j : Int):=⟨pc.toNat,by omega⟩
 have hj : j < n:=by omega
 unfold nxtV
 rw [Int.toNat_natCast]
 by_cases h0 : (res (opF xs) n 0).1 = 0
 ·rw [if_pos ⟨h0,by omega,by omega⟩]
  rcases hc.2 with h | ⟨b,off,rfl,hcd⟩
  ·omega
  exact nextC_in b off n cap xs j w hn hcap hcd hj h0 (hln j hj)
 ·rw [if_neg (fun x => h0 x.1)]
  exact (nextC_bad a n cap xs j w hn hcap hc hj h0).mono fun e w' ⟨he,hb⟩ => ⟨_,he,LI.nil _ _,hb⟩
end Go.Proofs.YtepnnenohjfkbaaGreatDoor

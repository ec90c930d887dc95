/-
  Texts Ci Ck.
-/
import Derived.Test.YtkdldbfbldkkcaaGreatDoorM00
import Derived.Test.YtkdldbfbldkkcaaGreatDoorM42
import Derived.Test.YtkdldbfbldkkcaaGreatDoorM43
import Derived.Test.YtkdldbfbldkkcaaGreatDoorM45
set_option linter.unusedVariables false
set_option maxRecDepth 100000
set_option maxHeartbeats 16000000
namespace Go.Proofs.YtkdldbfbldkkcaaGreatDoor
open Go.RowKit
theorem IJ {pc q : Nat} (m : MM) (TT gb go_ fl fc k : Nat) (hf1 : 1 < fl) (f2 op A : Int) (ila : Option Addr) (iln ilc : Nat) (il : List Int) (la sa : Option Addr) (ln lc sn sc : Nat) (lo : ByteArray) (ca : Option Addr) (cn cc : Nat) (co : List InM) (w : World) (hm : MOk w w.heap.size w.heap.size m) (hkl : k < m.fn) (hy : m.fns[k]? = some (↑q,lo,(ca,cn,cc),co)) (h0 : w.cell? ⟨gb,go_,none⟩ = some (.int .i64 k)) (h1 : w.cell? ⟨gb,go_ + 1,none⟩ = some (.int .i64 pc)) (h2 : w.cell? ⟨gb,go_ + 2,none⟩ = some (.slice la ln lc)) (h3 : w.cell? ⟨gb,go_ + 3,none⟩ = some (.slice sa sn sc)) (hT : TbC m TT w) {P Q sh : ByteArray} {ll sl : List Int} (hpn : pc < cn) (hq : m.types[q]? = some (P,Q)) (hPl : P.size + lo.size ≤ 64) (hsh : (qX m (↑q,lo,(ca,cn,cc),co))[pc]? = some sh) (hss : sh.size ≤ 1000000) (hL : SI .u64 w la ln ll) (hSt : SI .u64 w sa sn sl) (hln : ln ≤ 1099511627776) (hsn : sn ≤ 1099511627776) (hcn : cn ≤ 1000000) (h4 : w.cell? ⟨gb,go_ + 4,none⟩ = some (.int .i64 f2)) (hco : co[pc]? = some (op,A,(ila,iln,ilc),il)) (hin : AtIn w ca cn co) (hno : op ≠ 11 ∨ (op = 11 ∧ A ≠ f2)) :
  Calls Tryz.prog 38 #[.agg (mV m),.slice (some ⟨TT,0,none⟩) m.fn m.fn,.slice (some ⟨gb,go_,none⟩) fl fc] w fun e w' => e = .returned (.bool false) ∧ Below w.heap.size w w':=by
 show Calls Tryz.prog 38 #[.agg #[.slice m.ta m.tn m.tc,.slice m.ha m.hn m.hc,.slice m.ga m.gn m.gc,.int .i64 m.fi,.int .i64 m.mo,.slice m.fa m.fn m.fc,.slice m.da m.dn m.dc,.slice m.ea m.en m.ec],.slice (some ⟨TT,0,none⟩) m.fn m.fn,.slice (some ⟨gb,go_,none⟩) fl fc] w _
 have B1:=aj w (aR m.ta m.tn m.tc m.ha m.hn m.hc m.ga m.gn m.gc m.fi m.mo m.fa m.fn m.fc m.da m.dn m.dc m.ea m.en m.ec);have B2:=aj (w.alloc (aR m.ta m.tn m.tc m.ha m.hn m.hc m.ga m.gn m.gc m.fi m.mo m.fa m.fn m.fc m.da m.dn m.dc m.ea m.en m.ec)) (bo k pc la ln lc sa sn sc);have B3:=aj ((w.alloc (aR m.ta m.tn m.tc m.ha m.hn m.hc m.ga m.gn m.gc m.fi m.mo m.fa m.fn m.fc m.da m.dn m.dc m.ea m.en m.ec)).alloc (bo k pc la ln lc sa sn sc)) (aW q lo ca cn cc);have B12:=B1.trans (B2.mono B1.size);have B123:=B12.trans (B3.mono B12.size);have HB:=hid B123;have g0:=ag B1 h0;have g1:=ag B1 h1;have g2:=ag B1 h2;have g3:=ag B1 h3;obtain ⟨fb,fo,hfa,hfc⟩:=hm.pf.2.resolve_left ae;obtain ⟨y0,y1,y2⟩:=hfc k _ hy
 simp only at y0 y1 y2
 have y0:=ag B12 y0;have y1:=ag B12 y1;have y2:=ag B12 y2;have km:=heap_alloc_new w (aR m.ta m.tn m.tc m.ha m.hn m.hc m.ga m.gn m.gc m.fi m.mo m.fa m.fn m.fc m.da m.dn m.dc m.ea m.en m.ec);have k1:=ar B2 km;have k2:=ar B3 k1;have kfa : ((w.alloc (aR m.ta m.tn m.tc m.ha m.hn m.hc m.ga m.gn m.gc m.fi m.mo m.fa m.fn m.fc m.da m.dn m.dc m.ea m.en m.ec)).alloc (bo k pc la ln lc sa sn sc)).heap[w.heap.size + 1]? = some (bo k pc la ln lc sa sn sc):=gF au;have kfb:=ar B3 kfa;have ky : (((w.alloc (aR m.ta m.tn m.tc m.ha m.hn m.hc m.ga m.gn m.gc m.fi m.mo m.fa m.fn m.fc m.da m.dn m.dc m.ea m.en m.ec)).alloc (bo k pc la ln lc sa sn sc)).alloc (aW q lo ca cn cc)).heap[w.heap.size + 1 + 1]? = some (aW q lo ca cn cc):=gF au;have c5 : ((w.alloc (aR m.ta m.tn m.tc m.ha m.hn m.hc m.ga m.gn m.gc m.fi m.mo m.fa m.fn m.fc m.da m.dn m.dc m.ea m.en m.ec)).alloc (bo k pc la ln lc sa sn sc)).cell? ⟨w.heap.size,5,none⟩ = some (.slice (some ⟨fb,fo,none⟩) m.fn m.fc):=tH;have z0 : ((w.alloc (aR m.ta m.tn m.tc m.ha m.hn m.hc m.ga m.gn m.gc m.fi m.mo m.fa m.fn m.fc m.da m.dn m.dc m.ea m.en m.ec)).alloc (bo k pc la ln lc sa sn sc)).cell? ⟨w.heap.size + 1,0,none⟩ = some (.int .i64 k):=ai kfa;have zz0 : (((w.alloc (aR m.ta m.tn m.tc m.ha m.hn m.hc m.ga m.gn m.gc m.fi m.mo m.fa m.fn m.fc m.da m.dn m.dc m.ea m.en m.ec)).alloc (bo k pc la ln lc sa sn sc)).alloc (aW q lo ca cn cc)).cell? ⟨w.heap.size + 1,0,none⟩ = some (.int .i64 k):=ai kfb;have zz1 : (((w.alloc (aR m.ta m.tn m.tc m.ha m.hn m.hc m.ga m.gn m.gc m.fi m.mo m.fa m.fn m.fc m.da m.dn m.dc m.ea m.en m.ec)).alloc (bo k pc la ln lc sa sn sc)).alloc (aW q lo ca cn cc)).cell? ⟨w.heap.size + 1,1,none⟩ = some (.int .i64 pc):=ai kfb;have hfl' : (0 : Int) < (fl : Int):=ae;have hk' : (k : Int) < (m.fn : Int):=ae
 have HI:=hid (fun (W : World) => c64 k m.fn W)
 have e1 : (decide (0 ≤ (k : Int)) && decide ((k : Int) < (m.fn : Int))) = true:=aI;rw [e1] at HI
 have HI2:=hid (fun (W : World) => c64 pc cn W)
 have e2 : (decide (0 ≤ (pc : Int)) && decide ((pc : Int) < (cn : Int))) = true:=aI;rw [e2] at HI2;obtain ⟨SH,t0,t1,t2⟩:=hT k _ hy;have t2:=t2 pc sh hsh
 simp only at t0
 have t0:=ag B123 t0;have t2:=ag B123 t2;obtain ⟨tb,to_,hta,htc⟩:=hm.pt.2.resolve_left jF;obtain ⟨r0,r1⟩:=htc q _ hq;have r0:=ag B123 r0;have d0 : (((w.alloc (aR m.ta m.tn m.tc m.ha m.hn m.hc m.ga m.gn m.gc m.fi m.mo m.fa m.fn m.fc m.da m.dn m.dc m.ea m.en m.ec)).alloc (bo k pc la ln lc sa sn sc)).alloc (aW q lo ca cn cc)).cell? ⟨w.heap.size,0,none⟩ = some (.slice (some ⟨tb,to_,none⟩) m.tn m.tc):=yM;have zz2 : (((w.alloc (aR m.ta m.tn m.tc m.ha m.hn m.hc m.ga m.gn m.gc m.fi m.mo m.fa m.fn m.fc m.da m.dn m.dc m.ea m.en m.ec)).alloc (bo k pc la ln lc sa sn sc)).alloc (aW q lo ca cn cc)).cell? ⟨w.heap.size + 1,2,none⟩ = some (.slice la ln lc):=ai kfb;have zz3 : (((w.alloc (aR m.ta m.tn m.tc m.ha m.hn m.hc m.ga m.gn m.gc m.fi m.mo m.fa m.fn m.fc m.da m.dn m.dc m.ea m.en m.ec)).alloc (bo k pc la ln lc sa sn sc)).alloc (aW q lo ca cn cc)).cell? ⟨w.heap.size + 1,3,none⟩ = some (.slice sa sn sc):=ai kfb;have yy0 : (((w.alloc (aR m.ta m.tn m.tc m.ha m.hn m.hc m.ga m.gn m.gc m.fi m.mo m.fa m.fn m.fc m.da m.dn m.dc m.ea m.en m.ec)).alloc (bo k pc la ln lc sa sn sc)).alloc (aW q lo ca cn cc)).cell? ⟨w.heap.size + 1 + 1,0,none⟩ = some (.int .i64 q):=ai ky;have yy1 : (((w.alloc (aR m.ta m.tn m.tc m.ha m.hn m.hc m.ga m.gn m.gc m.fi m.mo m.fa m.fn m.fc m.da m.dn m.dc m.ea m.en m.ec)).alloc (bo k pc la ln lc sa sn sc)).alloc (aW q lo ca cn cc)).cell? ⟨w.heap.size + 1 + 1,1,none⟩ = some (.string lo):=ai ky;have hpn' : (pc : Int) < (cn : Int):=ae;have hqt : (q : Int) < (m.tn : Int):=jF;have hsum : ¬ 9223372036854775807 < P.size + lo.size:=ae;have HLl:=hid (hL.later B123);have HSl:=hid (hSt.later B123);have HPl:=hid hPl;have hmt : m.tn ≤ 281474976710656 ∨ True:=.inr trivial;have b4:=ag B123 h4
 obtain ⟨ib,io,hca,hic⟩:=hin.2.resolve_left (by have:=az hco; have:=hin.1; omega)
 obtain ⟨i0,i1,i2⟩:=hic pc _ hco
 simp only at i0 i1 i2
 have i0:=ag B123 i0;have i1:=ag B123 i1;have i2:=ag B123 i2
 have yy2 : (((w.alloc (aR m.ta m.tn m.tc m.ha m.hn m.hc m.ga m.gn m.gc m.fi m.mo m.fa m.fn m.fc m.da m.dn m.dc m.ea m.en m.ec)).alloc (bo k pc la ln lc sa sn sc)).alloc (aW q lo ca cn cc)).cell? ⟨w.heap.size + 1 + 1,2,none⟩ = some (.slice (some ⟨ib,io,none⟩) cn cc):=by rw [← hca]; exact ai ky
 clear B1 B2 B3 B12 B123 h0 h1 h2 h3 hfc hfa hta hy hm km k1 k2 kfa kfb ky e1 e2 hT hq hsh t1 htc r1 hL hSt hPl hmt h4 hin hic hco hca
 go_enter Tryz.func38,Tryz.ntmps38
 go_wp2_with fail;refine (HI.out _).mono ?_;rintro e w2 ⟨rfl,hw⟩;have hw:=hw.symm;subst hw;go_wp2_with fail;refine (HI2.out _).mono ?_;rintro e w3 ⟨rfl,hw⟩;have hw:=hw.symm;subst hw;go_wp2_with fail;generalize (((w.alloc (aR m.ta m.tn m.tc m.ha m.hn m.hc m.ga m.gn m.gc m.fi m.mo m.fa m.fn m.fc m.da m.dn m.dc m.ea m.en m.ec)).alloc (bo k pc la ln lc sa sn sc)).alloc (aW q lo ca cn cc)) = W3 at *;clear c5 z0 y0 y1 y2 g0 g1 g2 g3
 go_quiet (fail)
 have bq:=below_drewN W3 nq;have HBz:=hid (HB.out.trans (bq.mono HB.out.size));have b4:=ag bq b4;have i0:=ag bq i0;have i1:=ag bq i1;have i2:=ag bq i2;have yy2:=ag bq yy2;have zz1:=ag bq zz1;generalize W3.drewN nq = Wz at *;clear bq zz0 zz2 zz3 d0 yy0 yy1 r0 t0 t2 HB HLl HSl;have hf1' : (1 : Int) < (fl : Int):=ae;have hf2 : 1 < fl:=ae;have bx:=aj Wz (bG op A ila iln ilc);have kx:=heap_alloc_new Wz (bG op A ila iln ilc);have x0 : (Wz.alloc (bG op A ila iln ilc)).cell? ⟨Wz.heap.size,0,none⟩ = some (.int .u8 op):=ai kx;have x1 : (Wz.alloc (bG op A ila iln ilc)).cell? ⟨Wz.heap.size,1,none⟩ = some (.int .i64 A):=ai kx;have x4:=ag bx b4
 go_upto_region 10 with fail
 have HBx:=hid bx;generalize Wz.alloc (bG op A ila iln ilc) = Wx at *;generalize hxb : Wz.heap.size = xb at x0 x1 ⊢;clear hxb bx kx b4 i0 i1 i2 yy2 zz1
 rcases hno with h1 | h1
 ·have o1 : (op != 11) = true:=gj;clear h1;exact IK
 ·obtain ⟨h1,h2⟩:=h1;subst h1;have o1 : ((11 : Int) != 11) = false:=ax;have o2 : (A != f2) = true:=tD;clear h2;exact IK
theorem C5 {pc q : Nat} (m : MM) (TT gb go_ fl fc k : Nat) (hf1 : 1 < fl) (f2 op A : Int) (ila : Option Addr) (iln ilc : Nat) (il : List Int) (la sa : Option Addr) (ln lc sn sc : Nat) (lo : ByteArray) (ca : Option Addr) (cn cc : Nat) (co : List InM) (w : World) (hm : MOk w w.heap.size w.heap.size m) (hkl : k < m.fn) (hy : m.fns[k]? = some (↑q,lo,(ca,cn,cc),co)) (h0 : w.cell? ⟨gb,go_,none⟩ = some (.int .i64 k)) (h1 : w.cell? ⟨gb,go_ + 1,none⟩ = some (.int .i64 pc)) (h2 : w.cell? ⟨gb,go_ + 2,none⟩ = some (.slice la ln lc)) (h3 : w.cell? ⟨gb,go_ + 3,none⟩ = some (.slice sa sn sc)) (hT : TbC m TT w) {P Q sh : ByteArray} {ll sl : List Int} (hpn : pc < cn) (hq : m.types[q]? = some (P,Q)) (hPl : P.size + lo.size ≤ 64) (hsh : (qX m (↑q,lo,(ca,cn,cc),co))[pc]? = some sh) (hss : sh.size ≤ 1000000) (hL : SI .u64 w la ln ll) (hSt : SI .u64 w sa sn sl) (hln : ln ≤ 1099511627776) (hsn : sn ≤ 1099511627776) (hcn : cn ≤ 1000000) (h4 : w.cell? ⟨gb,go_ + 4,none⟩ = some (.int .i64 f2)) (hco : co[pc]? = some (op,A,(ila,iln,ilc),il)) (hin : AtIn w ca cn co) (hop : op = 11) (hA : A = f2) {kc qc : Nat} (hAk : A = (kc : Int)) {lo2 : ByteArray} {ca2 : Option Addr} {cn2 cc2 : Nat} {co2 : List InM} {P2 Q2 : ByteArray} (hy2 : m.fns[kc]? = some (↑qc,lo2,(ca2,cn2,cc2),co2)) (hq2 : m.types[qc]? = some (P2,Q2)) (hP2 : P2.size ≤ sh.size) (hmL : ∀ W,Below w.heap.size w W → MOk W W.heap.size W.heap.size m) :
  Calls Tryz.prog 38 #[.agg (mV m),.slice (some ⟨TT,0,none⟩) m.fn m.fn,.slice (some ⟨gb,go_,none⟩) fl fc] w fun e w' => e = .returned (.bool (nY ll (P ++ lo) && nY sl (ry sh P2))) ∧ Below w.heap.size w w':=by
 show Calls Tryz.prog 38 #[.agg #[.slice m.ta m.tn m.tc,.slice m.ha m.hn m.hc,.slice m.ga m.gn m.gc,.int .i64 m.fi,.int .i64 m.mo,.slice m.fa m.fn m.fc,.slice m.da m.dn m.dc,.slice m.ea m.en m.ec],.slice (some ⟨TT,0,none⟩) m.fn m.fn,.slice (some ⟨gb,go_,none⟩) fl fc] w _
 have B1:=aj w (aR m.ta m.tn m.tc m.ha m.hn m.hc m.ga m.gn m.gc m.fi m.mo m.fa m.fn m.fc m.da m.dn m.dc m.ea m.en m.ec);have B2:=aj (w.alloc (aR m.ta m.tn m.tc m.ha m.hn m.hc m.ga m.gn m.gc m.fi m.mo m.fa m.fn m.fc m.da m.dn m.dc m.ea m.en m.ec)) (bo k pc la ln lc sa sn sc);have B3:=aj ((w.alloc (aR m.ta m.tn m.tc m.ha m.hn m.hc m.ga m.gn m.gc m.fi m.mo m.fa m.fn m.fc m.da m.dn m.dc m.ea m.en m.ec)).alloc (bo k pc la ln lc sa sn sc)) (aW q lo ca cn cc);have B12:=B1.trans (B2.mono B1.size);have B123:=B12.trans (B3.mono B12.size);have HB:=hid B123;have g0:=ag B1 h0;have g1:=ag B1 h1;have g2:=ag B1 h2;have g3:=ag B1 h3;obtain ⟨fb,fo,hfa,hfc⟩:=hm.pf.2.resolve_left ae;obtain ⟨y0,y1,y2⟩:=hfc k _ hy
 simp only at y0 y1 y2
 have y0:=ag B12 y0;have y1:=ag B12 y1;have y2:=ag B12 y2;have km:=heap_alloc_new w (aR m.ta m.tn m.tc m.ha m.hn m.hc m.ga m.gn m.gc m.fi m.mo m.fa m.fn m.fc m.da m.dn m.dc m.ea m.en m.ec);have k1:=ar B2 km;have k2:=ar B3 k1;have kfa : ((w.alloc (aR m.ta m.tn m.tc m.ha m.hn m.hc m.ga m.gn m.gc m.fi m.mo m.fa m.fn m.fc m.da m.dn m.dc m.ea m.en m.ec)).alloc (bo k pc la ln lc sa sn sc)).heap[w.heap.size + 1]? = some (bo k pc la ln lc sa sn sc):=gF au;have kfb:=ar B3 kfa;have ky : (((w.alloc (aR m.ta m.tn m.tc m.ha m.hn m.hc m.ga m.gn m.gc m.fi m.mo m.fa m.fn m.fc m.da m.dn m.dc m.ea m.en m.ec)).alloc (bo k pc la ln lc sa sn sc)).alloc (aW q lo ca cn cc)).heap[w.heap.size + 1 + 1]? = some (aW q lo ca cn cc):=gF au;have c5 : ((w.alloc (aR m.ta m.tn m.tc m.ha m.hn m.hc m.ga m.gn m.gc m.fi m.mo m.fa m.fn m.fc m.da m.dn m.dc m.ea m.en m.ec)).alloc (bo k pc la ln lc sa sn sc)).cell? ⟨w.heap.size,5,none⟩ = some (.slice (some ⟨fb,fo,none⟩) m.fn m.fc):=tH;have z0 : ((w.alloc (aR m.ta m.tn m.tc m.ha m.hn m.hc m.ga m.gn m.gc m.fi m.mo m.fa m.fn m.fc m.da m.dn m.dc m.ea m.en m.ec)).alloc (bo k pc la ln lc sa sn sc)).cell? ⟨w.heap.size + 1,0,none⟩ = some (.int .i64 k):=ai kfa;have zz0 : (((w.alloc (aR m.ta m.tn m.tc m.ha m.hn m.hc m.ga m.gn m.gc m.fi m.mo m.fa m.fn m.fc m.da m.dn m.dc m.ea m.en m.ec)).alloc (bo k pc la ln lc sa sn sc)).alloc (aW q lo ca cn cc)).cell? ⟨w.heap.size + 1,0,none⟩ = some (.int .i64 k):=ai kfb;have zz1 : (((w.alloc (aR m.ta m.tn m.tc m.ha m.hn m.hc m.ga m.gn m.gc m.fi m.mo m.fa m.fn m.fc m.da m.dn m.dc m.ea m.en m.ec)).alloc (bo k pc la ln lc sa sn sc)).alloc (aW q lo ca cn cc)).cell? ⟨w.heap.size + 1,1,none⟩ = some (.int .i64 pc):=ai kfb;have hfl' : (0 : Int) < (fl : Int):=ae;have hk' : (k : Int) < (m.fn : Int):=ae
 have HI:=hid (fun (W : World) => c64 k m.fn W)
 have e1 : (decide (0 ≤ (k : Int)) && decide ((k : Int) < (m.fn : Int))) = true:=aI;rw [e1] at HI
 have HI2:=hid (fun (W : World) => c64 pc cn W)
 have e2 : (decide (0 ≤ (pc : Int)) && decide ((pc : Int) < (cn : Int))) = true:=aI;rw [e2] at HI2;obtain ⟨SH,t0,t1,t2⟩:=hT k _ hy;have t2:=t2 pc sh hsh
 simp only at t0
 have t0:=ag B123 t0;have t2:=ag B123 t2;obtain ⟨tb,to_,hta,htc⟩:=hm.pt.2.resolve_left jF;obtain ⟨r0,r1⟩:=htc q _ hq;have r0:=ag B123 r0;have d0 : (((w.alloc (aR m.ta m.tn m.tc m.ha m.hn m.hc m.ga m.gn m.gc m.fi m.mo m.fa m.fn m.fc m.da m.dn m.dc m.ea m.en m.ec)).alloc (bo k pc la ln lc sa sn sc)).alloc (aW q lo ca cn cc)).cell? ⟨w.heap.size,0,none⟩ = some (.slice (some ⟨tb,to_,none⟩) m.tn m.tc):=yM;have zz2 : (((w.alloc (aR m.ta m.tn m.tc m.ha m.hn m.hc m.ga m.gn m.gc m.fi m.mo m.fa m.fn m.fc m.da m.dn m.dc m.ea m.en m.ec)).alloc (bo k pc la ln lc sa sn sc)).alloc (aW q lo ca cn cc)).cell? ⟨w.heap.size + 1,2,none⟩ = some (.slice la ln lc):=ai kfb;have zz3 : (((w.alloc (aR m.ta m.tn m.tc m.ha m.hn m.hc m.ga m.gn m.gc m.fi m.mo m.fa m.fn m.fc m.da m.dn m.dc m.ea m.en m.ec)).alloc (bo k pc la ln lc sa sn sc)).alloc (aW q lo ca cn cc)).cell? ⟨w.heap.size + 1,3,none⟩ = some (.slice sa sn sc):=ai kfb;have yy0 : (((w.alloc (aR m.ta m.tn m.tc m.ha m.hn m.hc m.ga m.gn m.gc m.fi m.mo m.fa m.fn m.fc m.da m.dn m.dc m.ea m.en m.ec)).alloc (bo k pc la ln lc sa sn sc)).alloc (aW q lo ca cn cc)).cell? ⟨w.heap.size + 1 + 1,0,none⟩ = some (.int .i64 q):=ai ky;have yy1 : (((w.alloc (aR m.ta m.tn m.tc m.ha m.hn m.hc m.ga m.gn m.gc m.fi m.mo m.fa m.fn m.fc m.da m.dn m.dc m.ea m.en m.ec)).alloc (bo k pc la ln lc sa sn sc)).alloc (aW q lo ca cn cc)).cell? ⟨w.heap.size + 1 + 1,1,none⟩ = some (.string lo):=ai ky;have hpn' : (pc : Int) < (cn : Int):=ae;have hqt : (q : Int) < (m.tn : Int):=jF;have hsum : ¬ 9223372036854775807 < P.size + lo.size:=ae;have HLl:=hid (hL.later B123);have HSl:=hid (hSt.later B123);have HPl:=hid hPl;have hmt : m.tn ≤ 281474976710656 ∨ True:=.inr trivial;have b4:=ag B123 h4
 obtain ⟨ib,io,hca,hic⟩:=hin.2.resolve_left (by have:=az hco; have:=hin.1; omega)
 obtain ⟨i0,i1,i2⟩:=hic pc _ hco
 simp only at i0 i1 i2
 have i0:=ag B123 i0;have i1:=ag B123 i1;have i2:=ag B123 i2
 have yy2 : (((w.alloc (aR m.ta m.tn m.tc m.ha m.hn m.hc m.ga m.gn m.gc m.fi m.mo m.fa m.fn m.fc m.da m.dn m.dc m.ea m.en m.ec)).alloc (bo k pc la ln lc sa sn sc)).alloc (aW q lo ca cn cc)).cell? ⟨w.heap.size + 1 + 1,2,none⟩ = some (.slice (some ⟨ib,io,none⟩) cn cc):=by rw [← hca]; exact ai ky
 have HM8:=hid (fun (W : World) (hb : Below (((w.alloc (aR m.ta m.tn m.tc m.ha m.hn m.hc m.ga m.gn m.gc m.fi m.mo m.fa m.fn m.fc m.da m.dn m.dc m.ea m.en m.ec)).alloc (bo k pc la ln lc sa sn sc)).alloc (aW q lo ca cn cc)).heap.size (((w.alloc (aR m.ta m.tn m.tc m.ha m.hn m.hc m.ga m.gn m.gc m.fi m.mo m.fa m.fn m.fc m.da m.dn m.dc m.ea m.en m.ec)).alloc (bo k pc la ln lc sa sn sc)).alloc (aW q lo ca cn cc)) W) => (⟨ag hb (ai k2),ag hb (ai k2),ag hb (ai k2),ag hb (ai k2),ag hb (ai k2),ag hb (ai k2),ag hb (ai k2),ag hb (ai k2)⟩ : W.cell? ⟨w.heap.size,0,none⟩ = some (.slice m.ta m.tn m.tc) ∧ W.cell? ⟨w.heap.size,1,none⟩ = some (.slice m.ha m.hn m.hc) ∧ W.cell? ⟨w.heap.size,2,none⟩ = some (.slice m.ga m.gn m.gc) ∧ W.cell? ⟨w.heap.size,3,none⟩ = some (.int .i64 m.fi) ∧ W.cell? ⟨w.heap.size,4,none⟩ = some (.int .i64 m.mo) ∧ W.cell? ⟨w.heap.size,5,none⟩ = some (.slice m.fa m.fn m.fc) ∧ W.cell? ⟨w.heap.size,6,none⟩ = some (.slice m.da m.dn m.dc) ∧ W.cell? ⟨w.heap.size,7,none⟩ = some (.slice m.ea m.en m.ec)))
 have HWA:=hid (fun (W : World) (hb : Below w.heap.size w W) => NS m sh P2 Q2 lo2 kc qc ca2 cn2 cc2 co2 W (hmL W hb) (by have:=az hy2; rw [hm.pf.1] at this; exact this) hy2 hq2 hP2 hss)
 have hpw : (ry sh P2).size ≤ 1000000:=Cz;subst hop;subst hA;subst hAk;have o1 : ((11 : Int) != 11) = false:=ax;have o2 : ((kc : Int) != (kc : Int)) = false:=au;clear B1 B2 B3 B12 B123 h0 h1 h2 h3 hfc hfa hta hy hm km k1 k2 kfa kfb ky e1 e2 hT hq hsh t1 htc r1 hL hSt hPl hmt h4 hin hic hco hca hy2 hq2 hP2 hmL
 go_enter Tryz.func38,Tryz.ntmps38
 go_wp2_with fail;refine (HI.out _).mono ?_;rintro e w2 ⟨rfl,hw⟩;have hw:=hw.symm;subst hw;go_wp2_with fail;refine (HI2.out _).mono ?_;rintro e w3 ⟨rfl,hw⟩;have hw:=hw.symm;subst hw;go_wp2_with fail;generalize (((w.alloc (aR m.ta m.tn m.tc m.ha m.hn m.hc m.ga m.gn m.gc m.fi m.mo m.fa m.fn m.fc m.da m.dn m.dc m.ea m.en m.ec)).alloc (bo k pc la ln lc sa sn sc)).alloc (aW q lo ca cn cc)) = W3 at *;clear c5 z0 y0 y1 y2 g0 g1 g2 g3
 go_quiet (fail)
 have bq:=below_drewN W3 nq;have HBz:=hid (HB.out.trans (bq.mono HB.out.size));have b4:=ag bq b4;have i0:=ag bq i0;have i1:=ag bq i1;have i2:=ag bq i2;have yy2:=ag bq yy2;have zz1:=ag bq zz1
 have HM8z:=hid (fun (W : World) (hb : Below (W3.drewN nq).heap.size (W3.drewN nq) W) => HM8.out W (bq.trans (hb.mono bq.size)))
 have HMK0:=And.intro (ag bq zz2) (And.intro (ag bq zz3) (And.intro (ag bq d0) (And.intro (ag bq yy0) (And.intro (ag bq yy1) (ag bq r0)))))
 have HA1:=hid (fun (W : World) (hb : Below (W3.drewN nq).heap.size (W3.drewN nq) W) => tA la ln lc ll (P ++ lo) W ((HLl.out.later bq).later hb) hln A9)
 have HA2:=hid (fun (W : World) (hb : Below (W3.drewN nq).heap.size (W3.drewN nq) W) => tA sa sn sc sl (ry sh P2) W ((HSl.out.later bq).later hb) hsn ae)
 generalize W3.drewN nq = Wz at *
 have HMK:=hid (fun (W : World) (hb : Below Wz.heap.size Wz W) => And.intro (ag hb HMK0.1) (And.intro (ag hb HMK0.2.1) (And.intro (ag hb HMK0.2.2.1) (And.intro (ag hb HMK0.2.2.2.1) (And.intro (ag hb HMK0.2.2.2.2.1) (ag hb HMK0.2.2.2.2.2))))))
 clear HMK0 bq zz0 zz2 zz3 d0 yy0 yy1 r0 t0 t2 HB HM8;have hf1' : (1 : Int) < (fl : Int):=ae;have hf2 : 1 < fl:=ae;have bx:=aj Wz (bG 11 kc ila iln ilc);have kx:=heap_alloc_new Wz (bG 11 kc ila iln ilc);have x0 : (Wz.alloc (bG 11 kc ila iln ilc)).cell? ⟨Wz.heap.size,0,none⟩ = some (.int .u8 11):=ai kx;have x1 : (Wz.alloc (bG 11 kc ila iln ilc)).cell? ⟨Wz.heap.size,1,none⟩ = some (.int .i64 kc):=ai kx;have x4:=ag bx b4
 go_upto_region 10 with fail
 have HBx:=hid bx;generalize Wz.alloc (bG 11 kc ila iln ilc) = Wx at *;generalize hxb : Wz.heap.size = xb at x0 x1 ⊢;clear hxb bx kx b4 i0 i1 i2 yy2 zz1
 go_quiet (fail)
 have bq2:=below_drewN Wx nq;have L0:=hid (HBx.out.trans (bq2.mono HBx.out.size));have x1:=ag bq2 x1;generalize Wx.drewN nq = Wy at *;clear x0 x4 bq2;have WA:=hid (HWA.out Wy (HBz.out.trans (L0.out.mono HBz.out.size)));obtain ⟨e0,e1,e2,e3,e4,e5,e6,e7⟩:=HM8z.out Wy L0.out;go_wp2_with fail;refine WA.out.mono ?_;rintro e w9 ⟨rfl,hb9⟩;have L9:=hid (L0.out.trans (hb9.mono L0.out.size));clear e0 e1 e2 e3 e4 e5 e6 e7 x1 hb9 WA HWA HM8z;go_wp2_with fail
 refine wp_region_held_drew (S:=fun W => W.cell? ⟨w.heap.size + 1,2,none⟩ = some (.slice la ln lc) ∧ W.cell? ⟨w.heap.size + 1,3,none⟩ = some (.slice sa sn sc) ∧ W.cell? ⟨w.heap.size,0,none⟩ = some (.slice (some ⟨tb,to_,none⟩) m.tn m.tc) ∧ W.cell? ⟨w.heap.size + 1 + 1,0,none⟩ = some (.int .i64 q) ∧ W.cell? ⟨w.heap.size + 1 + 1,1,none⟩ = some (.string lo) ∧ W.cell? ⟨tb,to_ + q * 2,none⟩ = some (.string P)) ak (HMK.out _ (L9.out.trans ((below_drewN w9 1).mono L9.out.size))) (fun hS5 => ?_)
 have B5 : Hid (Below Wz.heap.size Wz w9.drew):=hid (L9.out.trans ((below_drewN w9 1).mono L9.out.size));generalize w9.drew = w5 at *;exact Ky
theorem Kh {w : World} {m : MM} (h : EvW w m) {lo : List Int} (h64 : lo.length ≤ 64) (hl : ∀ x ∈ lo,x = 119 ∨ x = 108) : ∃ v w1,EvM v w1 m lo:=by
 have b:=aj w (.cells (lo.map (Value.int .u8)).toArray 5);have k:=heap_alloc_new w (.cells (lo.map (Value.int .u8)).toArray 5)
 refine ⟨⟨w.heap.size + 1,w.heap.size + 1,w.heap.size + 1,w.heap.size + 1,0,0,0,mV m,.slice (some ⟨w.heap.size,0,none⟩) lo.length lo.length⟩,_,h.evm b (fun k hk => ?_) rfl (L:=w.heap.size) (lc:=lo.length) rfl (Nat.le_refl _) (.inr fun hk => ?_) h64 (fun j x hj => ?_) hl⟩
 ·rcases hk with hk | hk | hk | hk <;> (simp only at hk; omega)
 ·rcases hk with hk | hk | hk | hk <;> (simp only at hk; omega)
 ·rw [ai k]; simp [hj]
theorem Lz {w : World} {R g : Nat} {m : MM} (h0 : cN m = 0) (hm : MOk w R g m) (hk : bf w) (hp : 0 < w.heap.size) {k : Nat} {y : FuM} (hy : m.fns[k]? = some y) (hT : ∃ b W t,qY m y b W t) {pc : Nat} (hpc : pc < y.2.2.1.2.1) :
  ∃ sh,(qX m y)[pc]? = some sh ∧ sh.size ≤ 256 ∧ ∀ op A ls il,y.2.2.2[pc]? = some (op,A,ls,il) → op = 11 → ∃ (kc qc : Nat) (y2 : FuM) (P2 Q2 : ByteArray),A = kc ∧ m.fns[kc]? = some y2 ∧ y2.1 = qc ∧ m.types[qc]? = some (P2,Q2) ∧ P2.size ≤ sh.size:=by
 obtain ⟨t,P,Q,ht,hP,h64,hll,hn,hc,hbr⟩:=AJ h0 hm hy;obtain ⟨b,W,tt,hG,P',Q',hP',he,_⟩:=hT;have hW:=y9 h0 hm hk hp;rw [ht,Int.toNat_natCast,hP] at hP'
 obtain ⟨rfl,rfl⟩ : P = P' ∧ Q = Q':=by injection hP' with e; injection e with e1 e2; exact ⟨e1,e2⟩
 have hsh : qX m y = (stA m (aL (P ++ y.2.1)) (y.2.2.2.map inx) Q y.2.2.1.2.1 y.2.2.1.2.1).sh:=by unfold qX; rw [ht,Int.toNat_natCast,hP]
 obtain ⟨v,w1,hM⟩:=Kh hW (lo:=aL (P ++ y.2.1)) (by rw [dV,ByteArray.size_append]; exact h64) hll
 have hQ:=(hW.tL (P,Q) (List.mem_of_getElem? hP)).2
 have hI:=Gu hM hG hQ ae (fun j hj => by
  obtain ⟨b,off,_,hcd⟩:=hc.2.resolve_left ae;exact hcd.range hj) he pc hpc
 refine ⟨(stA m (aL (P ++ y.2.1)) (y.2.2.2.map inx) Q y.2.2.1.2.1 pc).st,by rw [hsh]; exact FR _ _ hpc (Nat.le_refl _),hI.st,fun op A ls il hco hop => ?_⟩
 have hx:=pO hco
 obtain ⟨kc,e1,e2,e3⟩:=Jp (he pc hpc) (by rw [hx]; exact hop)
 rw [hx] at e1 e3;have e1' : A = kc:=e1
 obtain ⟨y2,hy2⟩ : ∃ y2,m.fns[kc]? = some y2:=⟨_,ba (by rw [hm.pf.1]; exact e2)⟩
 obtain ⟨qc,P2,Q2,ht2,hP2,_⟩:=AJ h0 hm hy2;refine ⟨kc,qc,y2,P2,Q2,e1',hy2,ht2,hP2,?_⟩
 have e4 : cG m (wF m A) = (P2,Q2):=by
  unfold cG wF;rw [e1',Int.toNat_natCast,hy2]
  show m.types.getD y2.1.toNat _ = _
  rw [ht2,Int.toNat_natCast,List.getD_eq_getElem?_getD,hP2];rfl
 have e5 : (cG m (wF m A)).1.size ≤ (stA m (aL (P ++ y.2.1)) (y.2.2.2.map inx) Q y.2.2.1.2.1 pc).st.size:=e3;rw [e4] at e5;exact e5
def FrB (f : FrM) : Prop:=0 ≤ f.1 ∧ f.1 ≤ 127 ∧ 0 ≤ f.2.1 ∧ f.2.1 ≤ 2047 ∧ f.2.2.1.2.length ≤ 64 ∧ f.2.2.2.2.length ≤ 256
theorem Mp {w : World} {m : MM} {s : StM} (h0 : cN m = 0) (hm : ∀ W,Below w.heap.size w W → MOk W W.heap.size W.heap.size m) (hk : bf w) (hp : 0 < w.heap.size) (hT : I0 m) (hs : SSt w s) (hfb : ∀ x ∈ s.fs,x.2.2.1.1.2.1 ≤ 1099511627776 ∧ x.2.2.2.1.2.1 ≤ 1099511627776) (hfc : s.fn ≤ s.fc) {gb go_ : Nat} (hfa : s.fa = some ⟨gb,go_,none⟩) {i : Nat} (hi : i < s.fn) :
  ∃ b : Bool,(∀ TT W,Below w.heap.size w W → TbC m TT W → Calls Tryz.prog 38 #[.agg (mV m),.slice (some ⟨TT,0,none⟩) m.fn m.fn,.slice (some ⟨gb,go_ + i * 4,none⟩) (s.fn - i) (s.fc - i)] W fun e w' => e = .returned (.bool b) ∧ Below W.heap.size W w') ∧ (b = true → ∀ f,s.fs[i]? = some f → FrB f):=by
 have hm0:=hm w (Below.refl _ _)
 obtain ⟨f,hf⟩ : ∃ f,s.fs[i]? = some f:=⟨_,ba (by rw [hs.fr.len]; exact hi)⟩
 obtain ⟨f0,f1,⟨⟨la,ln,lc⟩,ll⟩,⟨⟨sa,sn,sc⟩,sl⟩⟩:=f;obtain ⟨gb',go',e',hcs⟩:=hs.fr.at_.resolve_left ae;rw [hfa] at e'
 obtain ⟨rfl,rfl⟩ : gb = gb' ∧ go_ = go':=by injection e' with e; injection e with e1 e2; exact ⟨e1,e2⟩
 have hc:=hcs i _ hf
 simp only at hc
 have hin:=hs.fr.in_ _ (List.mem_of_getElem? hf)
 simp only at hin
 have hbb:=hfb _ (List.mem_of_getElem? hf)
 simp only at hbb
 cases hr : (decide (0 ≤ f0) && decide (f0 < (m.fn : Int))) with
 | false => exact ⟨false,fun TT W hb _ => G1 m _ gb (go_ + i * 4) _ _ f0 f1 la sa ln lc sn sc W ae (ag hb hc.1) (ag hb hc.2.1) (ag hb hc.2.2.1) (ag hb hc.2.2.2) hr,fun h => cj⟩
 | true =>
  simp only [Bool.and_eq_true,decide_eq_true_eq] at hr
  obtain ⟨k,rfl⟩ : ∃ k : Nat,f0 = k:=⟨f0.toNat,ae⟩;have hkl : k < m.fn:=ae
  obtain ⟨y,hy⟩ : ∃ y,m.fns[k]? = some y:=⟨_,ba (by rw [hm0.pf.1]; exact hkl)⟩
  obtain ⟨t,P,Q,ht,hP,h64,hll,hn,hcd,hbr⟩:=AJ h0 hm0 hy;have hin2:=(hm0.fr k y hy).2.1;have hf128 : m.fn ≤ 128:=(y9 h0 hm0 hk hp).f128;have hTy:=hT k y hy;obtain ⟨yt,lo,⟨ca,cn,cc⟩,co⟩:=y
  simp only at ht h64 hn hin2 hbr
  subst ht
  cases hr1 : (decide (0 ≤ f1) && decide (f1 < (cn : Int))) with
  | false => exact ⟨false,fun TT W hb _ => IA m TT gb (go_ + i * 4) _ _ k f1 la sa ln lc sn sc _ lo ca cn cc co W (hm W hb) ae hkl hy (ag hb hc.1) (ag hb hc.2.1) (ag hb hc.2.2.1) (ag hb hc.2.2.2) hr1,fun h => cj⟩
  | true =>
   simp only [Bool.and_eq_true,decide_eq_true_eq] at hr1
   obtain ⟨pc,rfl⟩ : ∃ pc : Nat,f1 = pc:=⟨f1.toNat,ae⟩;have hpc : pc < cn:=ae;obtain ⟨sh,hsh,hsz,hcall⟩:=Lz h0 hm0 hk hp hy hTy (pc:=pc) hpc
   have bnd : ∀ u : ByteArray,u.size ≤ 256 → (nY ll (P ++ lo) && nY sl u) = true → ∀ f,s.fs[i]? = some f → FrB f:=fun u hu hb f hf' => by
    rw [hf] at hf'
    injection hf' with hf'
    subst hf'
    simp only [Bool.and_eq_true] at hb
    have b1:=((lS _ _).1 hb.1).1;have b2:=((lS _ _).1 hb.2).1;rw [ByteArray.size_append] at b1
    refine ⟨by show (0 : Int) ≤ k; omega,by show (k : Int) ≤ 127; omega,by show (0 : Int) ≤ pc; omega,by show (pc : Int) ≤ 2047; omega,by show ll.length ≤ 64; omega,by show sl.length ≤ 256; omega⟩
   by_cases h1 : s.fn - i = 1
   ·rw [h1]
    exact ⟨_,fun TT W hb hTb => Df m TT gb (go_ + i * 4) _ k la sa ln lc sn sc lo ca cn cc co W (hm W hb) hkl hy (ag hb hc.1) (ag hb hc.2.1) (ag hb hc.2.2.1) (ag hb hc.2.2.2) hTb hpc hP h64 hsh ae (hin.1.later hb) (hin.2.later hb) hbb.1 hbb.2 ae,bnd sh hsz⟩
   ·obtain ⟨g,hg⟩ : ∃ g,s.fs[i + 1]? = some g:=⟨_,ba (by rw [hs.fr.len]; omega)⟩
    have hc4:=(hcs (i + 1) _ hg).1
    rw [show go_ + (i + 1) * 4 = go_ + i * 4 + 4 by omega] at hc4
    obtain ⟨ins,hco⟩ : ∃ ins,co[pc]? = some ins:=⟨_,ba (by rw [hin2.1]; exact hpc)⟩
    obtain ⟨op,A,⟨ila,iln,ilc⟩,il⟩:=ins
    have hAI : ∀ W,Below w.heap.size w W → AtIn W ca cn co:=fun W hb => ((hm W hb).fr k _ hy).2.1
    by_cases hno : op ≠ 11 ∨ (op = 11 ∧ A ≠ g.1)
    ·exact ⟨false,fun TT W hb hTb => IJ m TT gb (go_ + i * 4) _ _ k ae g.1 op A ila iln ilc il la sa ln lc sn sc lo ca cn cc co W (hm W hb) hkl hy (ag hb hc.1) (ag hb hc.2.1) (ag hb hc.2.2.1) (ag hb hc.2.2.2) hTb hpc hP h64 hsh ae (hin.1.later hb) (hin.2.later hb) hbb.1 hbb.2 ae (ag hb hc4) hco (hAI W hb) hno,fun h => cj⟩
    ·have hop : op = 11:=by
      by_cases e : op = 11
      ·exact e
      ·exact absurd (.inl e) hno
     have hA : A = g.1:=by
      by_cases e : A = g.1
      ·exact e
      ·exact absurd (.inr ⟨hop,e⟩) hno
     obtain ⟨kc,qc,y2,P2,Q2,hAk,hy2,ht2,hq2,hP2⟩:=hcall op A _ il hco hop;obtain ⟨yt2,lo2,⟨ca2,cn2,cc2⟩,co2⟩:=y2
     simp only at ht2
     subst ht2
     exact ⟨_,fun TT W hb hTb => C5 m TT gb (go_ + i * 4) _ _ k ae g.1 op A ila iln ilc il la sa ln lc sn sc lo ca cn cc co W (hm W hb) hkl hy (ag hb hc.1) (ag hb hc.2.1) (ag hb hc.2.2.1) (ag hb hc.2.2.2) hTb hpc hP h64 hsh ae (hin.1.later hb) (hin.2.later hb) hbb.1 hbb.2 ae (ag hb hc4) hco (hAI W hb) hop hA hAk hy2 hq2 hP2 (fun W' hb' => hm W' (hb.trans (hb'.mono hb.size))),bnd (ry sh P2) Cz⟩
end Go.Proofs.YtkdldbfbldkkcaaGreatDoor

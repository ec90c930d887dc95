/-
  Texts Wy Ea Eb Inx Xd Xe Xf Xg Xh Qa Qd Qe Qf Qi.
-/
import Derived.Deep.RegionHeld3
import Derived.Defers
import Derived.Lib.AppendIntMem
import Derived.Lib.ItoaLen
import Derived.Lib.SlBytesConst
import Derived.Recover
import Derived.Test.YtheefojaplnnoaaGreatDoorY00
import Derived.Test.YtheefojaplnnoaaGreatDoorY03
import Derived.Test.YtheefojaplnnoaaGreatDoorY04
import Derived.Test.YtheefojaplnnoaaGreatDoorY06
import Derived.Test.YtheefojaplnnoaaGreatDoorY19
set_option linter.unusedVariables false
set_option maxRecDepth 100000
set_option maxHeartbeats 16000000
namespace Go.Proofs.YtheefojaplnnoaaGreatDoor
open Go.RowKit
theorem nN(w:World):Calls Tryz.prog 83 #[.nilIface] w fun e w'=>e=.returned (.tuple #[.agg #[.int .i64 0,.int .i64 0],.bool false])∧Below w.heap.size w w':=by
 have BN:=hid (ag w (jv 0 0))
 go_enter Tryz.func83,Tryz.ntmps83
 go_wp2_with fail;refine bodyPost_ret (v:=.tuple #[.agg #[.int .i64 0,.int .i64 0],.bool false]) ?_ rfl ⟨rfl,BN.out⟩;exact jp
theorem yL(x p:Int)(w:World):Calls Tryz.prog 83 #[.iface 142 (.agg #[.int .i64 x,.int .i64 p])] w fun e w'=>e=.returned (.tuple #[.agg #[.int .i64 x,.int .i64 p],.bool true])∧Below w.heap.size w w':=by
 have hta:∀(v:Value)(w:World),(Instr.typeAssert (.iface 142 v) 20 142 true).run Tryz.prog w=.ok (.tuple #[v,.bool true]) w:=fun _ _=>rfl
 go_enter Tryz.func83,Tryz.ntmps83
 go_wp2_with fail;refine bodyPost_ret (v:=.tuple #[.agg #[.int .i64 x,.int .i64 p],.bool true]) ?_ rfl ⟨rfl,?_⟩
 ·exact jp
 ·exact((Below.refl _ w).alloc (Nat.le_refl _) _).alloc ar _
theorem CB(x q:Int)(B C:Nat)(bv cv:Value)(w:World)(hb:w.cell? ⟨B,0,none⟩=some bv)(hbf:w.frozen? ⟨B,0,none⟩=false)(hc:w.cell? ⟨C,0,none⟩=some cv)(hcf:w.frozen? ⟨C,0,none⟩=false)(hBC:B≠C) :
  CallsD Tryz.prog 87 #[.pointer (some ⟨B,0,none⟩),.pointer (some ⟨C,0,none⟩)] (.panicking ({ v:=.iface 142 (.agg #[.int .i64 x,.int .i64 q]),recovered:=false }::[])) w fun e u' w' =>
   e=.returned (.tuple #[])∧u'=.panicking ({ v:=.iface 142 (.agg #[.int .i64 x,.int .i64 q]),recovered:=true }::[])∧w'.cell? ⟨B,0,none⟩=some (.slice none 0 0)∧w'.cell? ⟨C,0,none⟩=some (.int .i64 x)∧Kept (fun k=>k=B∨k=C) w w':=by
 have HC:=hid (yL x q w);have hBl:B<w.heap.size:=block_lt_of_cell hb;have hCl:C<w.heap.size:=block_lt_of_cell hc
 refine callsD_of_wpS Tryz.func87 rfl fun c₀ cs hu=>?_
 apply wpS_seq
 apply wpS_region
 simp[wpOpsS,go_sem,recoverD,hu,Tryz.ntmps87,Exit.thenS]
 refine HC.out.mono ?_;rintro e w1⟨rfl,hb1⟩;have BN:=ag w1 (jv x q);have n0:(w1.alloc (jv x q)).cell? ⟨w1.heap.size,0,none⟩=some (.int .i64 x):=cg;have y0:=(BN.cell (p:=⟨B,0,none⟩) (Nat.lt_of_lt_of_le hBl hb1.size)).trans ((hb1.cell kE).trans hb);have y1:=(BN.frozen (p:=⟨B,0,none⟩) (Nat.lt_of_lt_of_le hBl hb1.size)).trans ((hb1.frozen kE).trans hbf);have y2:=(BN.cell (p:=⟨C,0,none⟩) (Nat.lt_of_lt_of_le hCl hb1.size)).trans ((hb1.cell kz).trans hc);have y3:=(BN.frozen (p:=⟨C,0,none⟩) (Nat.lt_of_lt_of_le hCl hb1.size)).trans ((hb1.frozen kz).trans hcf)
 have K2:=hid ((aN (S:=fun k=>k=B∨k=C) hb1).trans (aN BN))
 have hz1:=hb1.size;have hB1:B≠w1.heap.size:=ae;have hC1:C≠w1.heap.size:=ae
 simp[go_sem,Array.replicate]
 refine wpS_of_wp ?_;clear HC hb hbf hc hcf BN;go_wp2_with fail;generalize w1.alloc (jv x q)=W at *
 go_region_held3 (fun W=>W.cell? ⟨w1.heap.size,0,none⟩=some (.int .i64 x)) (first | assumption | (simp[go_sem]; assumption)) (first | fail)
 have z0:=World.cell?_setCell_same W ⟨B,0,none⟩ (.slice none 0 0) y0
 have z1:(W.setCell ⟨B,0,none⟩ (.slice none 0 0)).cell? ⟨C,0,none⟩=some cv:=by rw[World.cell?_setCell_other _ _ _ _ bu]; exact y2
 have z2:=World.cell?_setCell_same (W.setCell ⟨B,0,none⟩ (.slice none 0 0)) ⟨C,0,none⟩ (.int .i64 x) z1
 have z3:((W.setCell ⟨B,0,none⟩ (.slice none 0 0)).setCell ⟨C,0,none⟩ (.int .i64 x)).cell? ⟨B,0,none⟩=some (.slice none 0 0):=by rw[World.cell?_setCell_other _ _ _ _ bu]; exact z0
 have hk:=(K2.out.then (aw W B 0 (.slice none 0 0)) (fun k _ h=>.inl h)).then (aw _ C 0 (.int .i64 x)) (fun k _ h=>.inr h)
 have hk2:=hk.trans (Kept.drewN _ _ 1);have HZ3:=hid z3;have HZ2:=hid z2;have HK2:=hid hk2;clear z0 z1 z2 z3 hk hk2 K2 y0 y1 y2 y3 n0 hb1;exact⟨rfl,_,rfl,_,results_none rfl _ _ _,rfl,rfl,HZ3.out,HZ2.out,HK2.out⟩
theorem ID(B C:Nat)(w:World) :
  CallsD Tryz.prog 87 #[.pointer (some ⟨B,0,none⟩),.pointer (some ⟨C,0,none⟩)] .returning w fun e u' w'=>e=.returned (.tuple #[])∧u'=.returning∧Below w.heap.size w w':=by
 have HC:=hid (nN w)
 refine callsD_of_wpS Tryz.func87 rfl fun c₀ cs hu=>?_
 apply wpS_seq
 apply wpS_region
 simp[wpOpsS,go_sem,recoverD,hu,Tryz.ntmps87,Exit.thenS]
 refine HC.out.mono ?_;rintro e w1⟨rfl,hb1⟩;have BN:=hid (gS hb1 (ag w1 (jv 0 0)))
 simp[go_sem,Array.replicate]
 refine wpS_of_wp ?_;go_wp2_with fail
 cases c₀
 simp_all [bodyPostS,results,Tryz.results87]
 exact BN.out
def cJ:List Int:=[70,76,71,78,1]
def dh(m:MM):Int:=orE (fP m) (if 65536<(cJ++gF m).length then 13 else 0)
theorem Far.later{w W:World}{R g:Nat}{a:Option Addr}(h:Far w R g a)(hb:Below w.heap.size w W):Far W R g a:=fun b off c hh=>⟨(h b off c hh).1,(h b off c hh).2.1,Nat.lt_of_lt_of_le (h b off c hh).2.2 hb.size⟩
theorem MOk.later{w W:World}{R g:Nat}{m:MM}(h:MOk w R g m)(hb:Below w.heap.size w W):MOk W R g m:=by
 have hk:Kept (fun _=>False) w W:=aN hb
 refine⟨h.pt.kept hk (fun _ _ _ _=>id),h.tf.later hb,h.ph.kept hk (fun _ _ _ _=>id),h.hf.later hb,h.hr,h.pg.kept hk (fun _ _ _ _=>id),h.gf.later hb,h.gr,h.i0,h.i1,h.o0,h.o1,h.pf.kept hk (fun _ _ _ _=>id),h.ff.later hb,fun j x hj=>?_,h.pd.kept hk (fun _ _ _ _=>id),h.df.later hb,fun j x hj=>?_,h.pe.kept hk (fun _ _ _ _=>id),h.ef.later hb,h.er⟩
 ·obtain⟨a1,a2,a3,a4⟩:=h.fr j x hj
  refine⟨a1,a2.kept hk (fun _ _ _ _=>id),a3.later hb,fun i y hi=>?_⟩
  obtain⟨b1,b2,b3,b4⟩:=a4 i y hi
  exact⟨b1,b2,b3.kept' hk (fun _ _ _ _=>id),b4.later hb⟩
 ·obtain⟨a1,a2,a3⟩:=h.dr j x hj
  exact⟨a1,a2.kept' hk (fun _ _ _ _=>id),a3.later hb⟩
def gU(w:World)(m:MM):World:=((w.alloc (.cells (mV m) 29)).alloc (iP none 0 0)).alloc (dz 0)
def W22(w:World)(m:MM):World:=((gU w m).alloc (.cells #[.int .u8 70,.int .u8 76,.int .u8 71,.int .u8 78,.int .u8 1] 5 (5,6))).alloc (.cells #[.slice (some ⟨w.heap.size+1+1+1,0,none⟩) 5 5] 152)
theorem tS(w:World)(m:MM):Below w.heap.size w (W22 w m)∧(W22 w m).heap.size=w.heap.size+1+1+1+1+1∧Wr (W22 w m) (w.heap.size+1+1+1+1) (w.heap.size+1+1+1) 5 cJ ∧
  (W22 w m).heap[w.heap.size]? =some (.cells (mV m) 29)∧(W22 w m).cell? ⟨w.heap.size+1,0,none⟩=some (.slice none 0 0)∧(W22 w m).frozen? ⟨w.heap.size+1,0,none⟩=false∧(W22 w m).cell? ⟨w.heap.size+1+1,0,none⟩=some (.int .i64 0)∧(W22 w m).frozen? ⟨w.heap.size+1+1,0,none⟩=false:=by
 have za:(gU w m).heap.size=w.heap.size+1+1+1:=sN;have zb:((gU w m).alloc (.cells #[.int .u8 70,.int .u8 76,.int .u8 71,.int .u8 78,.int .u8 1] 5 (5,6))).heap.size=w.heap.size+1+1+1+1:=sN;have B1:Below w.heap.size w (gU w m):=(((Below.refl _ w).alloc (Nat.le_refl _) _).alloc ar _).alloc bu _;have B2:=ag (gU w m) (.cells #[.int .u8 70,.int .u8 76,.int .u8 71,.int .u8 78,.int .u8 1] 5 (5,6));have B3:=ag ((gU w m).alloc (.cells #[.int .u8 70,.int .u8 76,.int .u8 71,.int .u8 78,.int .u8 1] 5 (5,6))) (.cells #[.slice (some ⟨w.heap.size+1+1+1,0,none⟩) 5 5] 152)
 have hb:∀k,k<w.heap.size+1+1+1→(W22 w m).heap[k]? =(gU w m).heap[k]?:=fun k hk=>(B3.block k ae).trans (B2.block k ae)
 have hg:=(MapKept.heap_alloc (gU w m) (.cells #[.int .u8 70,.int .u8 76,.int .u8 71,.int .u8 78,.int .u8 1] 5 (5,6))).1;rw[za]at hg;have hg':(W22 w m).heap[w.heap.size+1+1+1]? =some (.cells #[.int .u8 70,.int .u8 76,.int .u8 71,.int .u8 78,.int .u8 1] 5 (5,6)):=(B3.block _ ae).trans hg;have hR:=(MapKept.heap_alloc ((gU w m).alloc (.cells #[.int .u8 70,.int .u8 76,.int .u8 71,.int .u8 78,.int .u8 1] 5 (5,6))) (.cells #[.slice (some ⟨w.heap.size+1+1+1,0,none⟩) 5 5] 152)).1;rw[zb]at hR;have hR':(W22 w m).heap[w.heap.size+1+1+1+1]? =some (.cells #[.slice (some ⟨w.heap.size+1+1+1,0,none⟩) 5 5] 152):=hR
 have c1:(gU w m).heap[w.heap.size+1]? =some (iP none 0 0):=by
  unfold gU;rw[(ag ((w.alloc (.cells (mV m) 29)).alloc (iP none 0 0)) _).block _ ar]
  have:=(MapKept.heap_alloc (w.alloc (.cells (mV m) 29)) (iP none 0 0)).1
  exact bJ
 have c2:(gU w m).heap[w.heap.size+1+1]? =some (dz 0):=by
  have:=(MapKept.heap_alloc ((w.alloc (.cells (mV m) 29)).alloc (iP none 0 0)) (dz 0)).1
  simpa[gU] using this
 have c0:(gU w m).heap[w.heap.size]? =some (.cells (mV m) 29):=by
  unfold gU;rw[(ag ((w.alloc (.cells (mV m) 29)).alloc (iP none 0 0)) _).block _ bu,(ag (w.alloc (.cells (mV m) 29)) _).block _ ar];exact(MapKept.heap_alloc w _).1
 refine⟨(B1.trans (B2.mono B1.size)).trans (B3.mono ae),by simp[W22,gU],⟨?_,?_,.inr ⟨rfl,aj,?_,rfl,?_⟩,ae⟩,(hb _ ae).trans c0,?_,?_,?_,?_⟩
 ·simp[World.cell?,hR',cJ]
 ·simp[World.frozen?,hR']
 ·simp[W22,gU]
 ·intro j u hj;have hl:=aK hj
  simp[cJ]at hl
  simp only[World.cell?,hg']
  have:j=0∨j=1∨j=2∨j=3∨j=4:=ae
  rcases this with rfl | rfl | rfl | rfl | rfl <;> simpa[cJ] using hj
 ·have:=(hb (w.heap.size+1) ae).trans c1
  simp[World.cell?,this]
 ·have:=(hb (w.heap.size+1) ae).trans c1
  simp[World.frozen?,this]
 ·have:=(hb (w.heap.size+1+1) ae).trans c2
  simp[World.cell?,this]
 ·have:=(hb (w.heap.size+1+1) ae).trans c2
  simp[World.frozen?,this]
theorem qZ(w:World)(m:MM):(convert 63 63 (.slice (some ⟨w.heap.size+1+1+1,0,none⟩) 5 5)).run Tryz.prog ((((w.alloc (.cells (mV m) 29)).alloc (iP none 0 0)).alloc (dz 0)).alloc (.cells #[.int .u8 70,.int .u8 76,.int .u8 71,.int .u8 78,.int .u8 1] 5)) =
  .ok (.slice (some ⟨w.heap.size+1+1+1,0,none⟩) 5 5) ((gU w m).alloc (.cells #[.int .u8 70,.int .u8 76,.int .u8 71,.int .u8 78,.int .u8 1] 5 (5,6))):=by
 have za:(gU w m).heap.size=w.heap.size+1+1+1:=sN
 have:=Go.Lib.run_convert_bytes_const (P:=Tryz.prog) (gU w m) 63 5 #[.int .u8 70,.int .u8 76,.int .u8 71,.int .u8 78,.int .u8 1] 5 5 Tryz.underlying63 Tryz.underlying5
 rw[za]at this;exact this
theorem Rx(m:MM)(w:World)(hk:aP w)(hm:∀R g,w.heap.size≤R→w.heap.size≤g→MOk w R g m) :
  Calls Tryz.prog 22 #[.agg (mV m)] w fun e w'=>Below w.heap.size w w'∧(dh m≠0→e=.returned (.tuple #[.slice none 0 0,.int .i64 (dh m)]))∧(dh m=0→∃a c,e=.returned (.tuple #[.slice a (cJ++gF m).length c,.int .i64 0])):=by
 have hmf:∀(fn:Fn)(first cap:Array Value)(w:World),(Instr.makeFunc fn first cap).run Tryz.prog w=.ok (.func fn first cap) w:=fun _ _ _ _=>rfl
 obtain⟨B0,z0,hwr,x0,x1,f1,x2,f2⟩:=tS w m;have HWk:=hid (Iw (w.heap.size+1+1+1+1) (w.heap.size+1+1+1) 5 cJ m (W22 w m) hwr aj ae ae (hk.later B0 hk.pos) ((hm _ _ ae ae).later B0));have hcv:=qZ w m;have hW:((gU w m).alloc (.cells #[.int .u8 70,.int .u8 76,.int .u8 71,.int .u8 78,.int .u8 1] 5 (5,6))).alloc (.cells #[.slice (some ⟨w.heap.size+1+1+1,0,none⟩) 5 5] 152)=W22 w m:=rfl;have za:((gU w m).alloc (.cells #[.int .u8 70,.int .u8 76,.int .u8 71,.int .u8 78,.int .u8 1] 5 (5,6))).heap.size=w.heap.size+1+1+1+1:=sN;obtain⟨⟨m0,m1,m2,m3,m4,m5,m6,m7⟩,_⟩:=av x0;have BW:=hid B0;generalize W22 w m=W1 at *;generalize (gU w m).alloc (.cells #[.int .u8 70,.int .u8 76,.int .u8 71,.int .u8 78,.int .u8 1] 5 (5,6))=W0 at *;unfold mV at hcv HWk
 show Calls Tryz.prog 22 #[.agg #[.slice m.ta m.tn m.tc,.slice m.ha m.hn m.hc,.slice m.ga m.gn m.gc,.int .i64 m.fi,.int .i64 m.mo,.slice m.fa m.fn m.fc,.slice m.da m.dn m.dc,.slice m.ea m.en m.ec]] w _
 clear hm hk B0
 go_enter_defers Tryz.func22,Tryz.ntmps22
 go_wp2_with fail;refine HWk.out.mono ?_;rintro e w9⟨hyes,hno⟩
 by_cases hx:fP m=0
 rotate_left
 ·obtain⟨⟨p,rfl⟩,hkept⟩:=hno hx;have hcm:dh m=fP m:=jl hx;have y1:=hkept.cell x1 ae;have y2:=hkept.cell x2 ae;have g1:=(aC (hkept.block (w.heap.size+1) ae ae) 0).trans f1;have g2:=(aC (hkept.block (w.heap.size+1+1) ae ae) 0).trans f2;have HC:=hid (CB (fP m) p (w.heap.size+1) (w.heap.size+1+1) _ _ w9 y1 g1 y2 g2 ae);clear hyes hno HWk;refine leaves_cons (f:=87) (args:=#[.pointer (some ⟨w.heap.size+1,0,none⟩),.pointer (some ⟨w.heap.size+1+1,0,none⟩)]) ar cg ?_;refine HC.out.mono ?_;rintro e u' w10 ⟨rfl,rfl,q1,q2,q3⟩
  have HB:Hid (Below w.heap.size w w10):=(BW.out.trans ((hkept.to_below (B:=w.heap.size) ae (fun k hk=>ae)).mono (Nat.le_refl _))).trans (q3.to_below (by have:=hkept.size; omega) (fun k hk=>ae))
  refine(show Go.Leaves Tryz.prog Tryz.f22 _ _ [] FrameMode.returning w10 from⟨.tuple #[.slice none 0 0,.int .i64 (fP m)],?_,HB.out,fun _=>?_,fun h0=>absurd (hcm.symm.trans h0) hx⟩)
  ·exact qJ
  ·rw[hcm]
 ·obtain⟨v,rfl,g',cap',hw9,hkept⟩:=hyes hx;have y1:=hkept.cell x1 ae;have y2:=hkept.cell x2 ae;have g1:=(aC (hkept.block (w.heap.size+1) ae ae) 0).trans f1;have g2:=(aC (hkept.block (w.heap.size+1+1) ae ae) 0).trans f2;have c9:=hw9.c0;have hK9:=hid hkept;have hz9:=hkept.size;have hcm:dh m=if 65536<(cJ++gF m).length then 13 else 0:=aV hx
  have HB9:Hid (Below w.heap.size w w9):=BW.out.trans ((hkept.to_below (B:=w.heap.size) ae (fun k hk=>ae)).mono (Nat.le_refl _))
  clear hyes hno HWk m0 m1 m2 m3 m4 m5 m6 m7 hwr x0 x1 x2 f1 f2 hkept;obtain⟨E,hE⟩:∃E,cJ++gF m=E:=⟨_,rfl⟩;rw[hE]at c9 hcm hw9;have HE:=hid hE;clear hE
  by_cases hlong:65536<E.length
  ·have hd:decide ((E.length:Int)≤65536)=false:=aI;rw[if_pos hlong]at hcm;go_wp2_with fail;refine(dZ xd).mono ?_;rintro e w9' ⟨rfl,rfl⟩;have HC:=hid (CB 13 0 (w.heap.size+1) (w.heap.size+1+1) _ _ w9' y1 g1 y2 g2 ae);refine leaves_cons (f:=87) (args:=#[.pointer (some ⟨w.heap.size+1,0,none⟩),.pointer (some ⟨w.heap.size+1+1,0,none⟩)]) ar cg ?_;refine HC.out.mono ?_;rintro e u' w10 ⟨rfl,rfl,q1,q2,q3⟩
   have HB:Hid (Below w.heap.size w w10):=HB9.out.trans (q3.to_below ae (fun k hk=>ae))
   refine(show Go.Leaves Tryz.prog Tryz.f22 _ _ [] FrameMode.returning w10 from⟨.tuple #[.slice none 0 0,.int .i64 13],?_,HB.out,fun _=>?_,fun h0=>by rw[hcm]at h0; cases h0⟩)
   ·exact qJ
   ·rw[hcm]
  ·have hd:decide ((E.length:Int)≤65536)=true:=aI;rw[if_neg hlong]at hcm;go_wp2_with fail;refine(cG xd).mono ?_;rintro e w9' ⟨rfl,rfl⟩;go_wp2_with fail;generalize hW9:w9'.setCell ⟨w.heap.size+1,0,none⟩ (.slice (some ⟨g',0,none⟩) E.length cap')=Wa at *;have k1:Wa.cell? ⟨w.heap.size+1,0,none⟩=some (.slice (some ⟨g',0,none⟩) E.length cap'):=DJ;have k2:Wa.cell? ⟨w.heap.size+1+1,0,none⟩=some (.int .i64 0):=DV;have K1:Below w.heap.size w9' Wa:=CG
   have zz:Wa.heap.size=w9'.heap.size:=by rw[← hW9]; simp[World.setCell]
   generalize hWb:Wa.setCell ⟨w.heap.size+1+1,0,none⟩ (.int .i64 0)=Wb at *;have n1:Wb.cell? ⟨w.heap.size+1,0,none⟩=some (.slice (some ⟨g',0,none⟩) E.length cap'):=Bu;have n2:Wb.cell? ⟨w.heap.size+1+1,0,none⟩=some (.int .i64 0):=BP;have K2:Below w.heap.size Wa Wb:=C6;refine leaves_cons (f:=87) (args:=#[.pointer (some ⟨w.heap.size+1,0,none⟩),.pointer (some ⟨w.heap.size+1+1,0,none⟩)]) ar cg ?_;refine(ID _ _ _).mono ?_;rintro e u' w10 ⟨rfl,rfl,hb10⟩
   have q1:=(hb10.cell (by exact block_lt_of_cell n1)).trans n1
   have q2:=(hb10.cell (by exact block_lt_of_cell n2)).trans n2
   have HB:Hid (Below w.heap.size w w10):=((HB9.out.trans K1).trans K2).trans (hb10.mono (by have:=K2.size; omega))
   refine(show Go.Leaves Tryz.prog Tryz.f22 _ _ [] FrameMode.returning w10 from⟨.tuple #[.slice (some ⟨g',0,none⟩) E.length cap',.int .i64 0],?_,HB.out,fun h0=>absurd hcm h0,fun _=>⟨some ⟨g',0,none⟩,cap',?_⟩⟩)
   ·exact qJ
   ·rw[HE.out]
theorem DR(m:MM)(w:World)(hk:aP w)(hm:∀R g,w.heap.size≤R→w.heap.size≤g→MOk w R g m) :
  Calls Tryz.prog 31 #[.agg (mV m)] w fun e w'=>e=.returned (.int .i64 (dh m))∧Below w.heap.size w w':=by
 have B1:=ag w (.cells (mV m) 29)
 have HE:=hid (Rx m (w.alloc (.cells (mV m) 29)) (hk.later B1 hk.pos) (fun R g h1 h2=>(hm R g (by simp at h1; omega) (by simp at h2; omega)).later B1))
 have hb:=(MapKept.heap_alloc w (.cells (mV m) 29)).1;have BW:=hid B1;obtain⟨⟨m0,m1,m2,m3,m4,m5,m6,m7⟩,_⟩:=av hb;have HW:w.alloc (cA m.ta m.tn m.tc m.ha m.hn m.hc m.ga m.gn m.gc m.fi m.mo m.fa m.fn m.fc m.da m.dn m.dc m.ea m.en m.ec)=w.alloc (.cells (mV m) 29):=rfl;generalize w.alloc (.cells (mV m) 29)=W1 at *;unfold mV at HE
 show Calls Tryz.prog 31 #[.agg #[.slice m.ta m.tn m.tc,.slice m.ha m.hn m.hc,.slice m.ga m.gn m.gc,.int .i64 m.fi,.int .i64 m.mo,.slice m.fa m.fn m.fc,.slice m.da m.dn m.dc,.slice m.ea m.en m.ec]] w _
 clear hm hk B1
 go_enter Tryz.func31,Tryz.ntmps31
 go_wp2_with fail;refine HE.out.mono ?_;rintro e w2⟨hb2,hno,hyes⟩;have HB:=hid (gS BW.out hb2)
 by_cases hx:dh m=0
 ·obtain⟨a,c,rfl⟩:=hyes hx;go_wp2_with fail;go_ret;exact⟨mY,HB.out⟩
 ·obtain rfl:=hno hx;go_wp2_with fail;go_ret;exact⟨rfl,HB.out⟩
theorem alloc_at{w:World}{o:Obj}{b:Nat}(h:w.heap.size=b):(w.alloc o).heap[b]? =some o:=by subst h; exact heap_alloc_new w o
theorem zQ{α β:Type}(g:α→List β)(k:Nat)(hk:∀x,(g x).length=k):∀(l:List α)(i q:Nat),q<k→(l.flatMap g)[i*k+q]? =(l[i]?).bind fun x=>(g x)[q]?
 | [],i,q,_=>by simp
 | x::l,0,q,hq=>by
  rw[List.flatMap_cons,List.getElem?_append_left (by rw[hk]; omega)]
  simp
 | x::l,i+1,q,hq=>by
  have ih:=zQ g k hk l i q hq
  rw[List.flatMap_cons,List.getElem?_append_right (by rw[hk,Nat.succ_mul]; omega),hk]
  rw[show(i+1)*k+q-k=i*k+q by rw[Nat.succ_mul]; omega,ih]
  simp
theorem nE{α β:Type}(g:α→List β)(k:Nat)(hk:∀x,(g x).length=k):∀(l:List α),(l.flatMap g).length=l.length*k
 | []=>by simp
 | x::l=>by rw[List.flatMap_cons,List.length_append,hk,nE g k hk l,List.length_cons,Nat.succ_mul]; omega
theorem jE{S:Nat→Prop}{w w':World}{base e k n:Nat}{v:Value}{xs:List Value}(h:w.ownsRow base e k v n xs)(hk:Kept S w w')(hs:∀b,v.ownBlock=some b→¬S b):w'.ownsRow base e k v n xs:=by
 refine⟨h.1,?_⟩
 rcases h.2 with h0 | ⟨g,cp,cur,rfl,h2,h3,h4⟩
 ·exact .inl h0
 ·exact .inr ⟨g,cp,cur,rfl,h2,(hk.block g (aJ h3) (hs g rfl)).trans h3,h4⟩
theorem QX{w:World}{base e k n b:Nat}{v:Value}{xs:List Value}(h:w.ownsRow base e k v n xs)(hb:v.ownBlock=some b):base≤b∧b<w.heap.size∧∃cur,w.heap[b]? =some (.cells cur e):=by
 rcases h.2 with ⟨h0,_⟩ | ⟨g,cp,cur,rfl,h2,h3,h4⟩
 ·rw[h0]at hb; cases hb
 ·obtain rfl:g=b:=zy;exact⟨h2,aJ h3,cur,h3⟩
def dR(y:FuM):List Value:=[.int .i64 y.1,.string y.2.1,.slice y.2.2.1.1 y.2.2.1.2.1 y.2.2.1.2.2]
def nX(y:DaM):List Value:=[.int .i64 y.1,.slice y.2.1.1 y.2.1.2.1 y.2.1.2.2]
def nU(x:Sg):List Value:=[.string x.1,.string x.2]
def eT(x:Gl):List Value:=[.int .u8 x.1,.bool x.2.1,.int .u64 x.2.2]
def oU(x:Ex):List Value:=[.string x.1,.int .i64 x.2]
def iw(x:Int):List Value:=[.int .i64 x]
structure FLd(w:World)(e k N:Nat)(done Z:List Value)(wr:World):Prop where
 row:wr.ownsRow w.heap.size e k (.slice (some ⟨w.heap.size,0,none⟩) N N) N (done++Z.drop done.length)
 bel:Below w.heap.size w wr
section
variable {w:World} {e k N:Nat} {done Z:List Value} {wr:World}
theorem FLd.lt(h:FLd w e k N done Z wr):w.heap.size<wr.heap.size:=(QX h.row rfl).2.1
theorem FLd.put(h:FLd w e k N done Z wr){j:Nat}(hj:done.length=j)(hlt:j<Z.length)(v:Value):FLd w e k N (done++[v]) Z (wr.setCell ⟨w.heap.size,j,none⟩ v):=by
 subst hj;have h1:=(h.row.stored done.length v).1
 have he:(done++Z.drop done.length).set done.length v=(done++[v])++Z.drop (done++[v]).length:=by
  have hd:(Z.drop done.length).set 0 v=v::Z.drop (done.length+1):=by
   rw[List.drop_eq_getElem_cons hlt]; rfl
  rw[List.set_append_right _ _ (Nat.le_refl _),Nat.sub_self,hd]
  simp
 rw[he]at h1;exact⟨h1,h.bel.setCell ar _⟩
theorem FLd.later(h:FLd w e k N done Z wr){w':World}(hb:Below wr.heap.size wr w'):FLd w e k N done Z w' :=
 ⟨jE h.row (aN hb) (fun _ _=>id),h.bel.trans (hb.mono h.bel.size)⟩
theorem FLd.cell(h:FLd w e k N done Z wr)(hZ:Z.length=N*k){j:Nat}(hj:j<N*k):∃v,wr.cell? ⟨w.heap.size,j,none⟩=some v:=by
 have h1:=h.row.cellAt j hj;have h2:=h.row.1;exact⟨_,h1.trans (aO ae)⟩
theorem FLd.free(h:FLd w e k N done Z wr)(j:Nat):wr.frozen? ⟨w.heap.size,j,none⟩=false:=h.row.frozenAt j
theorem FLd.full(h:FLd w e k N done Z wr)(hZ:Z.length=done.length):wr.ownsRow w.heap.size e k (.slice (some ⟨w.heap.size,0,none⟩) N N) N done:=by
 have:=h.row
 rwa [List.drop_of_length_le ae,List.append_nil]at this
end
theorem lK{α:Type}{w:World}{base e k N c B:Nat}(g:α→List Value)(hk:∀x,(g x).length=k){L:List α}(h:w.ownsRow base e k (.slice (some ⟨B,0,none⟩) N c) N (L.flatMap g))(hL:L.length=N){j:Nat}{x:α}(hj:L[j]? =some x)(q:Nat)(hq:q<k):w.cell? ⟨B,j*k+q,none⟩=(g x)[q]?:=by
 have hjn:=aK hj
 have hlt:j*k+q<N*k:=by
  have:(j+1)*k≤N*k:=Nat.mul_le_mul_right k ae;rw[Nat.succ_mul]at this; omega
 rw[h.cellAt _ hlt,zQ g k hk L j q hq,hj]; rfl
theorem Su(a1 a2:Option Addr)(n c1 c2:Nat)(l:List Sg)(w:World)(h1:jf w a1 n l)(h2:jf w a2 n l)(hn:n≤1000000) :
  Calls Tryz.prog 40 #[.slice a1 n c1,.slice a2 n c2] w fun e w'=>e=.returned (.bool true)∧Below w.heap.size w w':=by
 have hne:((n:Int) != n)=false:=ar;have H1:=hid h1;have H2:=hid h2;have hll:=h1.1;clear h1 h2
 go_enter Tryz.func40,Tryz.ntmps40
 exact Jh
theorem Sy(a1 a2:Option Addr)(n c1 c2:Nat)(l:List Gl)(w:World)(h1:pL w a1 n l)(h2:pL w a2 n l)(hn:n≤1000000) :
  Calls Tryz.prog 42 #[.slice a1 n c1,.slice a2 n c2] w fun e w'=>e=.returned (.bool true)∧Below w.heap.size w w':=by
 have hne:((n:Int) != n)=false:=ar;have H1:=hid h1;have H2:=hid h2;have hll:=h1.1;clear h1 h2
 go_enter Tryz.func42,Tryz.ntmps42
 go_wp2_with fail
 go_loopw [5] (fun p wr=>∃t:Nat,t≤n∧p=.int .i64 t∧Hid (Below w.heap.size w wr)) (fun p _=>n-(intOf p).toNat)
 case atStart=>exact⟨0,ae,rfl,hid (Below.refl _ _)⟩
 case round =>
  obtain⟨t,ht,rfl,HB⟩:=hrel
  by_cases hlt:t<n
  ·have hlt':(t:Int)<(n:Int):=ae;obtain⟨x,hx⟩:∃x,l[t]? =some x:=⟨_,aO ae⟩;obtain⟨b1,o1,rfl,hat1⟩:=H1.out.2.resolve_left ae;obtain⟨b2,o2,rfl,hat2⟩:=H2.out.2.resolve_left ae;obtain⟨e10,e11,e12⟩:=hat1 t x hx;have e10:=az HB.out e10;have e11:=az HB.out e11;have e12:=az HB.out e12;obtain⟨e20,e21,e22⟩:=hat2 t x hx;have e20:=az HB.out e20;have e21:=az HB.out e21;have e22:=az HB.out e22;clear hat1 hat2 hx
   have HBD:=hid (fun(n:Nat)=>(show Below w.heap.size w (wr.drewN n) from nK HB.out (Kept.drewN (fun _=>False) _ n) HB.out.size (fun _ x=>x.elim)))
   obtain⟨x0,x1,x2⟩:=x;exact uI
  ·exact qH
theorem SP(a1 a2:Option Addr)(n c1 c2:Nat)(l:List Ex)(w:World)(h1:pB w a1 n l)(h2:pB w a2 n l)(hn:n≤1000000) :
  Calls Tryz.prog 45 #[.slice a1 n c1,.slice a2 n c2] w fun e w'=>e=.returned (.bool true)∧Below w.heap.size w w':=by
 have hne:((n:Int) != n)=false:=ar;have H1:=hid h1;have H2:=hid h2;have hll:=h1.1;clear h1 h2
 go_enter Tryz.func45,Tryz.ntmps45
 exact Jh
def tu(x:Int):List Value:=[.int .u8 x]
def wR(w:World)(a:Option Addr)(n:Nat)(xs:List Int):Prop :=
 xs.length=n∧(n=0∨∃b off,a=some ⟨b,off,none⟩∧∀(j:Nat)x,xs[j]? =some x→w.cell? ⟨b,off+j,none⟩=some (.int .u8 x))
theorem wR.of{w:World}{a:Option Addr}{n c:Nat}{zs:List Int}(h:Seg w a n c zs):wR w a n zs:=by
 obtain⟨hl,_,_,_,hc⟩:=h
 refine⟨hl,hc.imp id fun⟨b,off,e,hc⟩=>⟨b,off,e,fun j x hj=>?_⟩⟩
 have hjl:=aK hj
 rw[hc j ae,List.getD_eq_getElem?_getD,hj]; rfl
theorem SJ(a1 a2:Option Addr)(n c1 c2:Nat)(l:List Int)(w:World)(h1:wR w a1 n l)(h2:wR w a2 n l)(hn:n≤1000000) :
  Calls Tryz.prog 23 #[.slice a1 n c1,.slice a2 n c2] w fun e w'=>e=.returned (.bool true)∧Below w.heap.size w w':=by
 have hne:((n:Int) != n)=false:=ar;have H1:=hid h1;have H2:=hid h2;have hll:=h1.1;clear h1 h2
 go_enter Tryz.func23,Tryz.ntmps23
 exact Ie
theorem Ss(a1 a2:Option Addr)(n c1 c2:Nat)(l:List Int)(w:World)(h1:mB w a1 n l)(h2:mB w a2 n l)(hn:n≤1000000) :
  Calls Tryz.prog 41 #[.slice a1 n c1,.slice a2 n c2] w fun e w'=>e=.returned (.bool true)∧Below w.heap.size w w':=by
 have hne:((n:Int) != n)=false:=ar;have H1:=hid h1;have H2:=hid h2;have hll:=h1.1;clear h1 h2
 go_enter Tryz.func41,Tryz.ntmps41
 exact Ie
def eQ(y:InM):List Value:=[.int .u8 y.1,.int .i64 y.2.1,.slice y.2.2.1.1 y.2.2.1.2.1 y.2.2.1.2.2]
def td(w:World)(x:InM):Prop:=mB w x.2.2.1.1 x.2.2.1.2.1 x.2.2.2∧x.2.2.1.2.1≤200000
def sL(w:World)(x:DaM):Prop:=wR w x.2.1.1 x.2.1.2.1 x.2.2∧x.2.1.2.1≤1000000
def sI(w:World)(x:FuM):Prop:=AtIn w x.2.2.1.1 x.2.2.1.2.1 x.2.2.2∧x.2.2.1.2.1≤200000∧∀y∈x.2.2.2,td w y
theorem wR.kept{S:Nat→Prop}{w w':World}{a:Option Addr}{n:Nat}{xs:List Int}(h:wR w a n xs)(hk:Kept S w w')(hS:∀b off c,a=some ⟨b,off,c⟩→¬S b):wR w' a n xs :=
 ⟨h.1,h.2.imp id fun⟨b,off,ha,hc⟩=>⟨b,off,ha,fun j x hj=>hk.cell (hc j x hj) (hS _ _ _ ha)⟩⟩
theorem td.later{w w':World}{x:InM}(h:td w x)(hb:Below w.heap.size w w'):td w' x:=⟨h.1.kept (aN hb) (fun _ _ _ _=>id),h.2⟩
theorem sL.later{w w':World}{x:DaM}(h:sL w x)(hb:Below w.heap.size w w'):sL w' x:=⟨h.1.kept (aN hb) (fun _ _ _ _=>id),h.2⟩
theorem sI.later{w w':World}{x:FuM}(h:sI w x)(hb:Below w.heap.size w w'):sI w' x:=⟨h.1.kept (aN hb) (fun _ _ _ _=>id),h.2.1,fun y hy=>(h.2.2 y hy).later hb⟩
def Kf(x y:InM):Prop:=y.1=x.1∧y.2.1=x.2.1∧y.2.2.1.2.1=x.2.2.1.2.1∧y.2.2.2=x.2.2.2
def Kv(x y:DaM):Prop:=y.1=x.1∧y.2.1.2.1=x.2.1.2.1∧y.2.2=x.2.2
def Jv(x y:FuM):Prop:=y.1=x.1∧y.2.1=x.2.1∧y.2.2.1.2.1=x.2.2.1.2.1∧y.2.2.2.length=x.2.2.2.length∧∀(j:Nat)a b,x.2.2.2[j]? =some a→y.2.2.2[j]? =some b→Kf a b
structure MSr(w:World)(m:MM):Prop where
 pt:jf w m.ta m.tn m.types
 tn:m.tn≤200000
 ph:mB w m.ha m.hn m.hosts
 hn:m.hn≤200000
 pg:pL w m.ga m.gn m.globals
 gn:m.gn≤200000
 pf:oq w m.fa m.fn m.fns
 fn:m.fn≤200000
 fx:∀x∈m.fns,sI w x
 pd:pF w m.da m.dn m.data
 dn:m.dn≤200000
 dx:∀x∈m.data,sL w x
 pe:pB w m.ea m.en m.exps
 en:m.en≤200000
theorem MSr.later{w W:World}{m:MM}(h:MSr w m)(hb:Below w.heap.size w W):MSr W m:=by
 have hk:Kept (fun _=>False) w W:=aN hb
 exact⟨h.pt.kept hk (fun _ _ _ _=>id),h.tn,h.ph.kept hk (fun _ _ _ _=>id),h.hn,h.pg.kept hk (fun _ _ _ _=>id),h.gn,h.pf.kept hk (fun _ _ _ _=>id),h.fn,fun x hx=>(h.fx x hx).later hb,h.pd.kept hk (fun _ _ _ _=>id),h.dn,fun x hx=>(h.dx x hx).later hb,h.pe.kept hk (fun _ _ _ _=>id),h.en⟩
end Go.Proofs.YtheefojaplnnoaaGreatDoor

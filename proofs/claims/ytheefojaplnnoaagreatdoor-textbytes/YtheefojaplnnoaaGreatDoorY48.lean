/-
  Texts Ys Yt Ga.
-/
import Derived.Lib.ParseIntBTie
import Derived.Test.YtheefojaplnnoaaGreatDoorY00
import Derived.Test.YtheefojaplnnoaaGreatDoorY26
import Derived.Test.YtheefojaplnnoaaGreatDoorY33
import Derived.Test.YtheefojaplnnoaaGreatDoorY37
import Derived.Test.YtheefojaplnnoaaGreatDoorY47
set_option linter.unusedVariables false
set_option maxRecDepth 100000
set_option maxHeartbeats 16000000
namespace Go.Proofs.YtheefojaplnnoaaGreatDoor
open Go.RowKit
theorem PD(A B C:Nat)(w:World) :
  CallsD Tryz.prog 82 #[.pointer (some ⟨A,0,none⟩),.pointer (some ⟨B,0,none⟩),.pointer (some ⟨C,0,none⟩)] .returning w fun e u' w'=>e=.returned (.tuple #[])∧u'=.returning∧Below w.heap.size w w':=by
 have HC:=hid (nN w)
 refine callsD_of_wpS Tryz.func82 rfl fun c₀ cs hu=>?_
 apply wpS_seq
 apply wpS_region
 simp[wpOpsS,go_sem,recoverD,hu,Tryz.ntmps82,Exit.thenS]
 refine HC.out.mono ?_;rintro e w1⟨rfl,hb1⟩;have BN:=hid (gS hb1 (ag w1 (jv 0 0)))
 simp[go_sem,Array.replicate]
 refine wpS_of_wp ?_;go_wp2_with fail
 cases c₀
 simp_all [bodyPostS,results,Tryz.results82]
 exact BN.out
theorem Mh{u0 u1 u2 u3 u4 u5 u6 u7:Value}(x p:Int)(A B C:Nat)(bv cv:Value)(w:World)(ha:w.heap[A]? =some (.cells #[u0,u1,u2,u3,u4,u5,u6,u7] 29))(hb:w.cell? ⟨B,0,none⟩=some bv)(hbf:w.frozen? ⟨B,0,none⟩=false)(hc:w.cell? ⟨C,0,none⟩=some cv)(hcf:w.frozen? ⟨C,0,none⟩=false)(hAB:A≠B)(hAC:A≠C)(hBC:B≠C) :
  CallsD Tryz.prog 82 #[.pointer (some ⟨A,0,none⟩),.pointer (some ⟨B,0,none⟩),.pointer (some ⟨C,0,none⟩)] (.panicking ({ v:=.iface 142 (.agg #[.int .i64 x,.int .i64 p]),recovered:=false }::[])) w fun e u' w' =>
   e=.returned (.tuple #[])∧u'=.panicking ({ v:=.iface 142 (.agg #[.int .i64 x,.int .i64 p]),recovered:=true }::[])∧w'.heap[A]? =some (.cells zV 29)∧w'.cell? ⟨B,0,none⟩=some (.int .i64 x)∧w'.cell? ⟨C,0,none⟩=some (.int .i64 p)∧Kept (fun k=>k=A∨k=B∨k=C) w w':=by
 have HC:=hid (yL x p w);have hAl:A<w.heap.size:=aJ ha;have hBl:B<w.heap.size:=block_lt_of_cell hb;have hCl:C<w.heap.size:=block_lt_of_cell hc
 refine callsD_of_wpS Tryz.func82 rfl fun c₀ cs hu=>?_
 apply wpS_seq
 apply wpS_region
 simp[wpOpsS,go_sem,recoverD,hu,Tryz.ntmps82,Exit.thenS]
 refine HC.out.mono ?_;rintro e w1⟨rfl,hb1⟩;have BN:=ag w1 (jv x p);have n0:(w1.alloc (jv x p)).cell? ⟨w1.heap.size,0,none⟩=some (.int .i64 x):=cg;have n1:(w1.alloc (jv x p)).cell? ⟨w1.heap.size,1,none⟩=some (.int .i64 p):=cg;have ya:=(BN.block A (Nat.lt_of_lt_of_le hAl hb1.size)).trans ((hb1.block A hAl).trans ha);have y0:=(BN.cell (p:=⟨B,0,none⟩) (Nat.lt_of_lt_of_le hBl hb1.size)).trans ((hb1.cell kE).trans hb);have y1:=(BN.frozen (p:=⟨B,0,none⟩) (Nat.lt_of_lt_of_le hBl hb1.size)).trans ((hb1.frozen kE).trans hbf);have y2:=(BN.cell (p:=⟨C,0,none⟩) (Nat.lt_of_lt_of_le hCl hb1.size)).trans ((hb1.cell kz).trans hc);have y3:=(BN.frozen (p:=⟨C,0,none⟩) (Nat.lt_of_lt_of_le hCl hb1.size)).trans ((hb1.frozen kz).trans hcf)
 have K2:=hid ((aN (S:=fun k=>k=A∨k=B∨k=C) hb1).trans (aN BN))
 have hz1:=hb1.size;have hA1:A≠w1.heap.size:=ae;have hB1:B≠w1.heap.size:=ae;have hC1:C≠w1.heap.size:=ae
 simp[go_sem,Array.replicate]
 refine wpS_of_wp ?_;clear HC hb hbf hc hcf BN;go_wp2_with fail;generalize w1.alloc (jv x p)=W at *;have ed:Below W.heap.size W W.drew:=(Below.refl _ _).drew;have hd:Hid (W.drew=W.drew):=hid rfl
 refine wp_region_held_drew (S:=fun V=>V.cell? ⟨w1.heap.size,0,none⟩=some (.int .i64 x)∧V.cell? ⟨w1.heap.size,1,none⟩=some (.int .i64 p)) ai (by show W.drew.cell? _=_∧W.drew.cell? _=_; exact⟨n0,n1⟩) (fun hS=>?_)
 have ya':W.drew.heap[A]? =some (.cells #[u0,u1,u2,u3,u4,u5,u6,u7] 29):=ya;have y0':W.drew.cell? ⟨B,0,none⟩=some bv:=y0;have y1':W.drew.frozen? ⟨B,0,none⟩=false:=y1;have y2':W.drew.cell? ⟨C,0,none⟩=some cv:=y2;have y3':W.drew.frozen? ⟨C,0,none⟩=false:=y3;have K3:=hid (K2.out.trans (Kept.drewN _ _ 1))
 have K4:Hid (Kept (fun k=>k=A∨k=B∨k=C) w W.drew):=K3
 clear ya y0 y1 y2 y3 n0 n1 K2 K3 ed hd;generalize W.drew=Wd at *;obtain⟨⟨m0,m1,m2,m3,m4,m5,m6,m7⟩,g0,g1,g2,g3,g4,g5,g6,g7⟩:=av ya';refine tkD (i:=0) (d:=some 11) rfl ?_;(try simp only[Act.put,sIB,sC0,sCs]);refine tkD (i:=1) (d:=some 12) rfl ?_;(try simp only[Act.put,sIB,sC0,sCs]);refine tkD (i:=2) (d:=some 13) rfl ?_;(try simp only[Act.put,sIB,sC0,sCs]);refine tkD (i:=3) (d:=some 14) rfl ?_;(try simp only[Act.put,sIB,sC0,sCs]);refine tkD (i:=4) (d:=some 15) rfl ?_;(try simp only[Act.put,sIB,sC0,sCs]);refine ryQ (rs:=[5]) ?_
 refine rcQ (i:=5) rfl (fun K hK=>?_) rN
 go_simp;obtain⟨p1,p2⟩:=zT (.slice none 0 0) (.slice none 0 0) (.slice none 0 0) (.int .i64 0) (.int .i64 0) (.slice none 0 0) (.slice none 0 0) (.slice none 0 0) ya'
 refine hK.out _ _ ⟨p2.cell hS.1 (fun e=>hA1 (Eq.symm e)),p2.cell hS.2 (fun e=>hA1 (Eq.symm e))⟩ (fun hS2=>?_)
 clear hK K m0 m1 m2 m3 m4 m5 m6 m7 g0 g1 g2 g3 g4 g5 g6 g7 ya'
 have z0:=p2.cell y0' (fun e=>hAB (Eq.symm e))
 have z1:=(aC (p2.block B (block_lt_of_cell y0') (fun e=>hAB (Eq.symm e))) 0).trans y1'
 have z2:=p2.cell y2' (fun e=>hAC (Eq.symm e))
 have z3:=(aC (p2.block C (block_lt_of_cell y2') (fun e=>hAC (Eq.symm e))) 0).trans y3'
 have K5:=hid (K4.out.then p2 (fun k _ h=>.inl h))
 clear p2 y0' y1' y2' y3' K4 hS;generalize ((((((((Wd.setCell ⟨A,0,none⟩ (.slice none 0 0)).setCell ⟨A,1,none⟩ (.slice none 0 0)).setCell ⟨A,2,none⟩ (.slice none 0 0)).setCell ⟨A,3,none⟩ (.int .i64 0)).setCell ⟨A,4,none⟩ (.int .i64 0)).setCell ⟨A,5,none⟩ (.slice none 0 0)).setCell ⟨A,6,none⟩ (.slice none 0 0)).setCell ⟨A,7,none⟩ (.slice none 0 0))=W3 at *;refine ryQ (rs:=[6]) ?_
 refine rcQ (i:=6) rfl (fun K hK=>?_) rN
 go_simp;have t1:=World.cell?_setCell_same W3 ⟨B,0,none⟩ (.int .i64 x) z0;have t2:=aw W3 B 0 (.int .i64 x)
 refine hK.out _ _ ⟨t2.cell hS2.1 (fun e=>hB1 (Eq.symm e)),t2.cell hS2.2 (fun e=>hB1 (Eq.symm e))⟩ (fun hS3=>?_)
 clear hK K z0 z1 hS2;have q1:=(t2.block A (aJ p1) hAB).trans p1
 have q2:=t2.cell z2 (fun e=>hBC (Eq.symm e))
 have q3:=(aC (t2.block C (block_lt_of_cell z2) (fun e=>hBC (Eq.symm e))) 0).trans z3
 have K6:=hid (K5.out.then t2 (fun k _ h=>.inr (.inl h)))
 clear p1 t2 z2 z3 K5;generalize W3.setCell ⟨B,0,none⟩ (.int .i64 x)=W4 at *;refine ryQ (rs:=[7]) ?_
 refine rcQ (i:=7) rfl (fun K hK=>?_) rN
 go_simp;have r1:=World.cell?_setCell_same W4 ⟨C,0,none⟩ (.int .i64 p) q2;have r2:=aw W4 C 0 (.int .i64 p)
 refine hK.out _ _ ⟨r2.cell hS3.1 (fun e=>hC1 (Eq.symm e)),r2.cell hS3.2 (fun e=>hC1 (Eq.symm e))⟩ (fun hS4=>?_)
 exact JZ
def dKD(A:Nat):Deferred:={ target:=.fn (.func 82) #[.pointer (some ⟨A,0,none⟩),.pointer (some ⟨A+1,0,none⟩),.pointer (some ⟨A+1+1,0,none⟩)],args:=#[] }
theorem Om{tmps:Array Value}{A:Nat}{w:World}{v0 v1 v2 v3 v4 v5 v6 v7:Value}{e l:Int}(t2:tmps[2]? =some (.pointer (some ⟨A,0,none⟩)))(t3:tmps[3]? =some (.pointer (some ⟨A+1,0,none⟩)))(t4:tmps[4]? =some (.pointer (some ⟨A+1+1,0,none⟩)))
  (hA:w.heap[A]? =some (.cells #[v0,v1,v2,v3,v4,v5,v6,v7] 29)) (hB:w.cell? ⟨A+1,0,none⟩=some (.int .i64 e)) (hC:w.cell? ⟨A+1+1,0,none⟩=some (.int .i64 l)) :
  (results Tryz.f21 tmps).run Tryz.prog w=.ok (.tuple #[.agg #[v0,v1,v2,v3,v4,v5,v6,v7],.int .i64 e,.int .i64 l]) w:=by
 obtain⟨⟨m0,m1,m2,m3,m4,m5,m6,m7⟩,_⟩:=av hA
 simp[results,Tryz.results21,go_sem,t2,t3,t4,m0,m1,m2,m3,m4,m5,m6,m7,hB,hC]
theorem l9{PP:Ending→World→Prop}{tmps:Array Value}{A:Nat}{x p a b:Int}{u0 u1 u2 u3 u4 u5 u6 u7:Value}{W:World}(t2:tmps[2]? =some (.pointer (some ⟨A,0,none⟩)))(t3:tmps[3]? =some (.pointer (some ⟨A+1,0,none⟩)))(t4:tmps[4]? =some (.pointer (some ⟨A+1+1,0,none⟩)))
  (hA:W.heap[A]? =some (.cells #[u0,u1,u2,u3,u4,u5,u6,u7] 29)) (hB:W.heap[A+1]? =some (dz a)) (hC:W.heap[A+1+1]? =some (bq b))
  (hP:∀w',Kept (fun k=>k=A∨k=A+1∨k=A+1+1) W w'→PP (rt3 zV x p) w'):Go.Leaves Tryz.prog Tryz.f21 tmps PP [dKD A] (.panicking [{ v:=.iface 142 (.agg #[.int .i64 x,.int .i64 p]),recovered:=false }]) W:=by
 refine leaves_cons (f:=82) (args:=#[.pointer (some ⟨A,0,none⟩),.pointer (some ⟨A+1,0,none⟩),.pointer (some ⟨A+1+1,0,none⟩)]) ar cg ?_;refine(Mh x p A (A+1) (A+1+1) _ _ W hA (ak (i:=0) hB) (free_at (i:=0) hB) (ak (i:=0) hC) (free_at (i:=0) hC) ae ae ae).mono ?_;rintro e u' w' ⟨rfl,rfl,q0,q1,q2,q3⟩;exact⟨_,Om t2 t3 t4 q0 q1 q2,hP w' q3⟩
theorem LS{PP:Ending→World→Prop}{tmps:Array Value}{A:Nat}{e l:Int}{W:World}{v0 v1 v2 v3 v4 v5 v6 v7:Value}(t2:tmps[2]? =some (.pointer (some ⟨A,0,none⟩)))(t3:tmps[3]? =some (.pointer (some ⟨A+1,0,none⟩)))(t4:tmps[4]? =some (.pointer (some ⟨A+1+1,0,none⟩)))
  (hA:W.heap[A]? =some (.cells #[v0,v1,v2,v3,v4,v5,v6,v7] 29)) (hB:W.heap[A+1]? =some (dz e)) (hC:W.heap[A+1+1]? =some (bq l))
  (hP:∀w',Below W.heap.size W w'→PP (rt3 #[v0,v1,v2,v3,v4,v5,v6,v7] e l) w'):Go.Leaves Tryz.prog Tryz.f21 tmps PP [dKD A] .returning W:=by
 refine leaves_cons (f:=82) (args:=#[.pointer (some ⟨A,0,none⟩),.pointer (some ⟨A+1,0,none⟩),.pointer (some ⟨A+1+1,0,none⟩)]) ar cg ?_;refine(PD A (A+1) (A+1+1) W).mono ?_;rintro e' u' w' ⟨rfl,rfl,hb⟩;exact⟨_,Om t2 t3 t4 (au hb hA) (ak (i:=0) (au hb hB)) (ak (i:=0) (au hb hC)),hP w' hb⟩
theorem Ep{tmps:Array Value}{d:Nat}{v:Value}{w:World}(h2:d≠2)(h3:d≠3)(h4:d≠4):(results Tryz.f21 (tmps.setIfInBounds d v)).run Tryz.prog w=(results Tryz.f21 tmps).run Tryz.prog w:=by
 have e2:(tmps.setIfInBounds d v)[2]? =tmps[2]?:=Array.getElem?_setIfInBounds_ne h2;have e3:(tmps.setIfInBounds d v)[3]? =tmps[3]?:=Array.getElem?_setIfInBounds_ne h3;have e4:(tmps.setIfInBounds d v)[4]? =tmps[4]?:=Array.getElem?_setIfInBounds_ne h4
 simp[results,Tryz.results21,go_sem,e2,e3,e4]
theorem ke{tmps:Array Value}{d:Nat}{v:Value}{R:Ending→World→Prop}(h2:d≠2)(h3:d≠3)(h4:d≠4):∀(ds:List Deferred)(u:FrameMode)(w:World),Go.Leaves Tryz.prog Tryz.f21 (tmps.setIfInBounds d v) R ds u w→Go.Leaves Tryz.prog Tryz.f21 tmps R ds u w
 | [],.returning,w,h=>by
  obtain⟨x,hx,hr⟩:=h;exact⟨x,(Ep h2 h3 h4).symm.trans hx,hr⟩
 | [],.panicking _,w,h=>h
 | [],.run,w,h=>h
 | d'::ds,u,w,h=>by
  obtain⟨hu,fv,cap,f,args,ht,hi,hc⟩:=h
  refine⟨hu,fv,cap,f,args,ht,hi,hc.mono fun e u' w' he=>?_⟩
  cases e with
  | returned x=>exact ke h2 h3 h4 ds _ _ he
  | panicked c=>exact ke h2 h3 h4 ds _ _ he
  | outgrown=>exact he
theorem iW{PP:Ending→World→Prop}{K:Act→World→Prop}{d:Nat}{v:Value}(h2:d≠2)(h3:d≠3)(h4:d≠4):∀c (a:Act) (w:World),Exit.then K (bodyPostD Tryz.prog Tryz.f21 PP) (.panic c) (a.put (some d) v) w→Exit.then K (bodyPostD Tryz.prog Tryz.f21 PP) (.panic c) a w:=fun c a w h=>ke h2 h3 h4 _ _ _ h
def Rn(zs:List Int)(w:World)(e:Ending)(w':World):Prop:=Below w.heap.size w w'∧((∃E l,E≠0∧e=rt3 zV E l)∨∃m,e=rt3 (mV m) 0 0∧dh m=0∧DQ w.heap.size w' m∧zs=cJ++gF m)
theorem DQ.mono{lo lo':Nat}{w:World}{m:MM}(h:DQ lo w m)(hl:lo'≤lo):DQ lo' w m :=
 ⟨h.rt,h.rh,h.rg,h.rf,h.rd,h.re,fun y hy=>⟨(h.fo y hy).1,fun b hb=>Nat.le_trans hl ((h.fo y hy).2 b hb)⟩,fun y hy=>⟨(h.dd y hy).1,fun b hb=>Nat.le_trans hl ((h.dd y hy).2 b hb)⟩,
  fun b hb=>Nat.le_trans hl (h.bt b hb),fun b hb=>Nat.le_trans hl (h.bh b hb),fun b hb=>Nat.le_trans hl (h.bg b hb),fun b hb=>Nat.le_trans hl (h.bf b hb),fun b hb=>Nat.le_trans hl (h.bd b hb),fun b hb=>Nat.le_trans hl (h.be b hb),h.gr⟩
theorem xG(W:World):(convert 63 63 (.slice (some ⟨W.heap.size,0,none⟩) 5 5)).run Tryz.prog (W.alloc (.cells #[.int .u8 70,.int .u8 76,.int .u8 71,.int .u8 78,.int .u8 1] 5)) =
  .ok (.slice (some ⟨W.heap.size,0,none⟩) 5 5) (W.alloc (.cells #[.int .u8 70,.int .u8 76,.int .u8 71,.int .u8 78,.int .u8 1] 5 (5,6))) :=
 Go.Lib.run_convert_bytes_const (P:=Tryz.prog) W 63 5 #[.int .u8 70,.int .u8 76,.int .u8 71,.int .u8 78,.int .u8 1] 5 5 Tryz.underlying63 Tryz.underlying5
theorem ES(W:World):Seg (W.alloc (.cells #[.int .u8 70,.int .u8 76,.int .u8 71,.int .u8 78,.int .u8 1] 5 (5,6))) (some ⟨W.heap.size,0,none⟩) 5 5 cJ:=by
 refine⟨rfl,Nat.le_refl _,ae,aj,.inr ⟨_,0,rfl,fun j hj=>?_⟩⟩
 have hg:=(MapKept.heap_alloc W (.cells #[.int .u8 70,.int .u8 76,.int .u8 71,.int .u8 78,.int .u8 1] 5 (5,6))).1
 simp only[World.cell?,hg]
 have:j=0∨j=1∨j=2∨j=3∨j=4:=ae
 rcases this with rfl | rfl | rfl | rfl | rfl <;> simp[cJ]
theorem Gv(a:Option Addr)(n c:Nat)(zs:List Int)(w:World)(hk:aP w)(h:Seg w a n c zs):Calls Tryz.prog 21 #[.slice a n c] w (Rn zs w):=by
 have hmf:∀(fn:Fn)(first cap:Array Value)(w:World),(Instr.makeFunc fn first cap).run Tryz.prog w=.ok (.func fn first cap) w:=fun _ _ _ _=>rfl
 obtain⟨a1,a2,a3,a4⟩:=Jt w;have hz:=CL w;have hcv:=xG (wA w);have HW:((w.alloc (.cells zV 29)).alloc (dz 0)).alloc (bq 0)=wA w:=rfl;have HSG:=hid (ES (wA w));have HB0:=hid (ag (wA w) (.cells #[.int .u8 70,.int .u8 76,.int .u8 71,.int .u8 78,.int .u8 1] 5 (5,6)))
 have HZ0:=hid (show((wA w).alloc (.cells #[.int .u8 70,.int .u8 76,.int .u8 71,.int .u8 78,.int .u8 1] 5 (5,6))).heap.size=w.heap.size+1+1+1+1 by simp[wA])
 unfold zV at HW;have HS:=hid h;have HK:=hid hk;have HA4:=hid a4;have HA1:=hid a1;have HA2:=hid a2;have HA3:=hid a3;have HL:=hid h.1;obtain⟨PP,hPP⟩:∃PP,Rn zs w=PP:=⟨_,rfl⟩;rw[hPP];have HPP:=hid hPP;clear h hk a4 hz hPP a1 a2 a3;generalize (wA w).alloc (.cells #[.int .u8 70,.int .u8 76,.int .u8 71,.int .u8 78,.int .u8 1] 5 (5,6))=W0 at *;generalize wA w=WA at *
 by_cases hlong:n≤65536
 rotate_left
 ·have hd1:decide (n≤65536)=false:=aI;have hd2:decide ((n:Int)≤65536)=false:=aI
  go_enter_defers Tryz.func21,Tryz.ntmps21
  go_wp2_with fail;refine(iF _ _ _).mono ?_;rintro e w1⟨rfl,hw1⟩;obtain rfl:=hw1.symm
  refine l9 rfl rfl rfl HA1.out HA2.out HA3.out fun w' hk'=>?_
  rw[← HPP.out]
  exact⟨HA4.out.trans (hk'.to_below (by have:=HA4.out.size; omega) (fun k hk=>ae)),.inl ⟨13,0,aj,rfl⟩⟩
 have hd1:decide (n≤65536)=true:=by simp[hlong]
 have hd2:decide ((n:Int)≤65536)=true:=aI;have HPX:=hid (KA a n c WA.heap.size zs W0 (HS.out.later (HA4.out.trans (HB0.out.mono HA4.out.size)) (Nat.le_refl _)) HSG.out);have HWZ:=hid hcv
 go_enter_defers Tryz.func21,Tryz.ntmps21
 go_wp2_with fail;refine(fe _ _ _).mono ?_;rintro e w1⟨rfl,hw1⟩;obtain rfl:=hw1.symm;go_wp2_with fail;refine HPX.out.mono ?_;rintro e w1⟨b,rfl,hw1,hpre⟩;obtain rfl:=hw1.symm;have hA0:=(HB0.out.block w.heap.size (aJ HA1.out)).trans HA1.out;have hA1:=(HB0.out.block (w.heap.size+1) (aJ HA2.out)).trans HA2.out;have hA2:=(HB0.out.block (w.heap.size+1+1) (aJ HA3.out)).trans HA3.out;have HBW:=hid (HA4.out.trans (HB0.out.mono HA4.out.size))
 cases b
 ·go_wp2_with fail;refine(iF _ _ _).mono ?_;rintro e w1⟨rfl,hw1⟩;obtain rfl:=hw1.symm
  refine l9 rfl rfl rfl hA0 hA1 hA2 fun w' hk'=>?_
  rw[← HPP.out]
  exact⟨HBW.out.trans (hk'.to_below (by have:=HBW.out.size; omega) (fun k hk=>ae)),.inl ⟨14,0,aj,rfl⟩⟩
 obtain⟨r,hr⟩:=hpre rfl;have HR:=hid hr;clear hr hpre hcv HWZ HPX
 have hn5:5≤n:=by
  have h1:=HL.out;rw[HR.out]at h1
  simp[cJ]at h1
  omega
 obtain⟨W1,hW1⟩:∃W1,W0.alloc (.cells #[.slice a n c,.int .i64 5] 148)=W1:=⟨_,rfl⟩
 have B1:Below W0.heap.size W0 W1:=by rw[← hW1]; exact ag _ _
 have r0:W1.cell? ⟨W0.heap.size,0,none⟩=some (.slice a n c):=wN;have r1:W1.cell? ⟨W0.heap.size,1,none⟩=some (.int .i64 5):=wN;have rf:W1.frozen? ⟨W0.heap.size,1,none⟩=false:=wN;have hS1:=HS.out.later (HBW.out.trans (B1.mono HBW.out.size)) (Nat.le_refl _)
 have hlo:∀b off cc,a=some ⟨b,off,cc⟩→b<W0.heap.size:=by
  intro b off cc hb
  rcases HS.out.2.2.2.2 with h0 | ⟨b',off',hb',hc'⟩
  ·omega
  ·rw[hb']at hb
   simp at hb
   have:=block_lt_of_cell (hc' 0 ae)
   have:=HBW.out.size
   simp only at *
   omega
 have HWK:=hid (Nj W0.heap.size (a,n,c) cJ r W1 ⟨r0,r1,rf,by rw[← HR.out]; exact hS1,hlo,hlong⟩ (by have:=HZ0.out; omega) (HK.out.later (HBW.out.trans (B1.mono HBW.out.size)) HK.out.pos))
 have hz0:=HZ0.out;have m0:=(B1.block w.heap.size ae).trans hA0;have m1:=(B1.block (w.heap.size+1) ae).trans hA1;have m2:=(B1.block (w.heap.size+1+1) ae).trans hA2;have HB1:=hid (HBW.out.trans (B1.mono HBW.out.size))
 have hz1:W1.heap.size=W0.heap.size+1:=by rw[← hW1]; simp
 have HZ1:=hid hz1;clear hz0 hz1 r0 r1 rf hS1 hlo B1 hA0 hA1 hA2;unfold zV at HWK;go_wp2_with fail;refine(fe _ _ _).mono ?_;rintro e w1⟨rfl,hw1⟩;obtain rfl:=hw1.symm;go_wp2_with fail;refine HWK.out.mono ?_
 rintro e w9 (⟨⟨x,p,hx,rfl⟩,hkk⟩ | ⟨m,rfl,hcw,hdq,rs',hrs,hrr,hkk⟩)
 ·have hz0:=HZ0.out;have hz1:=HZ1.out;have hzz:=hkk.size
  refine l9 rfl rfl rfl ((KO.block hkk ae ae).trans m0) ((KO.block hkk ae ae).trans m1) ((KO.block hkk ae ae).trans m2) fun w' hk'=>?_
  rw[← HPP.out]
  exact⟨(HB1.out.trans (hkk.to_below ae (fun k hk=>ae))).trans (hk'.to_below ae (fun k hk=>ae)),.inl ⟨x,p,hx,rfl⟩⟩
 have hz0:=HZ0.out;have hz1:=HZ1.out;have hzz:=hkk.size;have q0:=(KO.block hkk (b:=w.heap.size) ae ae).trans m0;have q1:=(KO.block hkk (b:=w.heap.size+1) ae ae).trans m1;have q2:=(KO.block hkk (b:=w.heap.size+1+1) ae ae).trans m2
 have HB9:=hid (HB1.out.trans (hkk.to_below (B:=w.heap.size) ae (fun k hk=>ae)))
 have HC:=hid hcw;have HD:=hid hdq;have HRS:=hid hrs;have rc:=hrr.c1;obtain⟨Pn,hPn⟩:∃P,(cJ++gF m).length=P:=⟨_,rfl⟩;rw[hPn]at rc;have HPN:=hid hPn;have HZ9:=hid hzz;clear hkk hrs hrr hdq hcw HWK m0 m1 m2 hPn hz0 hz1 hzz;obtain⟨⟨o0,o1,o2,o3,o4,o5,o6,o7⟩,f0,f1,f2,f3,f4,f5,f6,f7⟩:=av q0;unfold mV;go_wp2_with fail;obtain⟨p1,p2⟩:=zT (.slice m.ta m.tn m.tc) (.slice m.ha m.hn m.hc) (.slice m.ga m.gn m.gc) (.int .i64 m.fi) (.int .i64 m.mo) (.slice m.fa m.fn m.fc) (.slice m.da m.dn m.dc) (.slice m.ea m.en m.ec) q0
 have hne:w.heap.size≠W0.heap.size:=by have:=HZ0.out; omega
 have rc2:=p2.cell rc (Ne.symm hne);have q1':=(p2.block (w.heap.size+1) (aJ q1) ae).trans q1;have q2':=(p2.block (w.heap.size+1+1) (aJ q2) ae).trans q2;have HP2:=hid p2;clear o0 o1 o2 o3 o4 o5 o6 o7 f0 f1 f2 f3 f4 f5 f6 f7 p2 q0 q1 q2 rc;generalize ((((((((w9.setCell ⟨w.heap.size,0,none⟩ (.slice m.ta m.tn m.tc)).setCell ⟨w.heap.size,1,none⟩ (.slice m.ha m.hn m.hc)).setCell ⟨w.heap.size,2,none⟩ (.slice m.ga m.gn m.gc)).setCell ⟨w.heap.size,3,none⟩ (.int .i64 m.fi)).setCell ⟨w.heap.size,4,none⟩ (.int .i64 m.mo)).setCell ⟨w.heap.size,5,none⟩ (.slice m.fa m.fn m.fc)).setCell ⟨w.heap.size,6,none⟩ (.slice m.da m.dn m.dc)).setCell ⟨w.heap.size,7,none⟩ (.slice m.ea m.en m.ec))=WX at *
 have KX:=hid (Kept.trans HP2.out (Kept.drewN (fun k=>k=w.heap.size) WX 1))
 have KX2:Hid (Kept (fun k=>k=w.heap.size) w9 WX.drew):=KX
 have d0:WX.drew.heap[w.heap.size]? =some (cA m.ta m.tn m.tc m.ha m.hn m.hc m.ga m.gn m.gc m.fi m.mo m.fa m.fn m.fc m.da m.dn m.dc m.ea m.en m.ec):=p1;have d1:WX.drew.heap[w.heap.size+1]? =some (dz 0):=q1';have d2:WX.drew.heap[w.heap.size+1+1]? =some (bq 0):=q2';have rc3:WX.drew.cell? ⟨W0.heap.size,1,none⟩=some (.int .i64 Pn):=rc2
 refine wp_region_held_drew (S:=fun W=>W.cell? ⟨W0.heap.size,1,none⟩=some (.int .i64 Pn)) ai rc3 (fun hHeld=>?_)
 clear KX HP2 p1 q1' q2' rc2;generalize WX.drew=WD at *;refine tkD (i:=0) (d:=some 23) rfl ?_ (hQ:=iW (d:=23) aj aj aj);(try simp only[Act.put,sIB,sC0,sCs]);refine tkD (i:=1) (d:=some 24) rfl ?_ (hQ:=iW (d:=24) aj aj aj);(try simp only[Act.put,sIB,sC0,sCs]);refine tkD (i:=2) (d:=some 25) rfl ?_ (hQ:=iW (d:=25) aj aj aj);(try simp only[Act.put,sIB,sC0,sCs]);refine tkD (i:=3) (d:=some 26) rfl ?_ (hQ:=iW (d:=26) aj aj aj);(try simp only[Act.put,sIB,sC0,sCs]);refine tkD (i:=4) (d:=some 27) rfl ?_ (hQ:=iW (d:=27) aj aj aj);(try simp only[Act.put,sIB,sC0,sCs]);refine tkD (i:=5) (d:=some 28) rfl ?_ (hQ:=iW (d:=28) aj aj aj);(try simp only[Act.put,sIB,sC0,sCs]);refine tkD (i:=6) (d:=some 29) rfl ?_ (hQ:=iW (d:=29) aj aj aj);(try simp only[Act.put,sIB,sC0,sCs]);refine tkD (i:=7) (d:=some 30) rfl ?_ (hQ:=iW (d:=30) aj aj aj);(try simp only[Act.put,sIB,sC0,sCs]);refine tkD (i:=8) (d:=some 31) rfl ?_ (hQ:=iW (d:=31) aj aj aj);(try simp only[Act.put,sIB,sC0,sCs]);refine tkD (i:=9) (d:=some 32) rfl ?_ (hQ:=iW (d:=32) aj aj aj);(try simp only[Act.put,sIB,sC0,sCs]);refine tkD (i:=10) (d:=some 33) rfl ?_ (hQ:=iW (d:=33) aj aj aj);(try simp only[Act.put,sIB,sC0,sCs]);refine ryQ (rs:=[11]) ?_
 refine rcQ (i:=11) rfl (fun K hK=>?_) rN
 go_simp
 by_cases hpn:Pn=n
 rotate_left
 ·refine(dZ CZ).mono ?_;rintro e wz⟨rfl,hwz⟩;obtain rfl:=hwz.symm
  refine l9 rfl rfl rfl d0 d1 d2 fun w' hk'=>?_
  have hz0:=HZ0.out;have hz1:=HZ1.out;have hz9:=HZ9.out;have hzx:=KX2.out.size;rw[← HPP.out]
  exact⟨(HB9.out.trans (KX2.out.to_below ae (fun k hk=>ae))).trans (hk'.to_below ae (fun k hk=>ae)),.inl ⟨19,_,aj,rfl⟩⟩
 refine(cG CZ).mono ?_;rintro e wz⟨rfl,hwz⟩;obtain rfl:=hwz.symm
 refine hK.out _ _ rc3 (fun _=>?_)
 clear hK K;refine wpAnyH_done ai ?_ _;obtain⟨⟨o0,o1,o2,o3,o4,o5,o6,o7⟩,f0,f1,f2,f3,f4,f5,f6,f7⟩:=av d0;have e1:=ak (i:=0) d1;have e2:=free_at (i:=0) d1;have e3:=ak (i:=0) d2;have e4:=free_at (i:=0) d2;go_wp2_with fail;obtain⟨s1,s2⟩:=zT (.slice m.ta m.tn m.tc) (.slice m.ha m.hn m.hc) (.slice m.ga m.gn m.gc) (.int .i64 m.fi) (.int .i64 m.mo) (.slice m.fa m.fn m.fc) (.slice m.da m.dn m.dc) (.slice m.ea m.en m.ec) d0;generalize ((((((((WD.setCell ⟨w.heap.size,0,none⟩ (.slice m.ta m.tn m.tc)).setCell ⟨w.heap.size,1,none⟩ (.slice m.ha m.hn m.hc)).setCell ⟨w.heap.size,2,none⟩ (.slice m.ga m.gn m.gc)).setCell ⟨w.heap.size,3,none⟩ (.int .i64 m.fi)).setCell ⟨w.heap.size,4,none⟩ (.int .i64 m.mo)).setCell ⟨w.heap.size,5,none⟩ (.slice m.fa m.fn m.fc)).setCell ⟨w.heap.size,6,none⟩ (.slice m.da m.dn m.dc)).setCell ⟨w.heap.size,7,none⟩ (.slice m.ea m.en m.ec))=WE at *;have k1:=aw WE (w.heap.size+1) 0 (.int .i64 0);have k2:=aw (WE.setCell ⟨w.heap.size+1,0,none⟩ (.int .i64 0)) (w.heap.size+1+1) 0 (.int .i64 0);have g1:WE.heap[w.heap.size+1]? =some (dz 0):=(s2.block (w.heap.size+1) (aJ d1) ae).trans d1;have g2:WE.heap[w.heap.size+1+1]? =some (bq 0):=(s2.block (w.heap.size+1+1) (aJ d2) ae).trans d2;have g1':(WE.setCell ⟨w.heap.size+1,0,none⟩ (.int .i64 0)).heap[w.heap.size+1]? =some (dz 0):=ma g1 ar;have g2':=(k1.block (w.heap.size+1+1) (aJ g2) ae).trans g2;have g2'':((WE.setCell ⟨w.heap.size+1,0,none⟩ (.int .i64 0)).setCell ⟨w.heap.size+1+1,0,none⟩ (.int .i64 0)).heap[w.heap.size+1+1]? =some (bq 0):=ma g2' ar;have g1'':=(k2.block (w.heap.size+1) (aJ g1') ae).trans g1';have g0'':=(k2.block w.heap.size (aJ ((k1.block w.heap.size (aJ s1) ae).trans s1)) ae).trans ((k1.block w.heap.size (aJ s1) ae).trans s1)
 have KF:=hid (((KX2.out.mono (fun k hk=>(show k=w.heap.size∨k=w.heap.size+1∨k=w.heap.size+1+1 from .inl hk))).then s2 (fun k _ hk=>.inl hk)).then k1 (fun k _ hk=>.inr (.inl hk)) |>.then k2 (fun k _ hk=>.inr (.inr hk)))
 clear s2 k1 k2 g1 g2 g1' g2' s1 hHeld e1 e2 e3 e4 o0 o1 o2 o3 o4 o5 o6 o7 f0 f1 f2 f3 f4 f5 f6 f7 d0 d1 d2 rc3;generalize ((WE.setCell ⟨w.heap.size+1,0,none⟩ (.int .i64 0)).setCell ⟨w.heap.size+1+1,0,none⟩ (.int .i64 0))=WF at *
 refine LS rfl rfl rfl g0'' g1'' g2'' fun w' hb=>?_
 have hz0:=HZ0.out;have hz1:=HZ1.out;have hz9:=HZ9.out;rw[← HPP.out]
 refine⟨(HB9.out.trans (KF.out.to_below ae (fun k hk=>ae))).trans (hb.mono (by have:=KF.out.size; omega)),.inr ⟨m,rfl,?_,?_,?_⟩⟩
 ·have hc:=HC.out;have hl:=HPN.out;unfold dh;rw[hc,if_neg ae];rfl
 ·exact((HD.out.kept KF.out (fun k hk=>ae)).later hb).mono ae
 ·have h1:=HR.out;have h2:=HRS.out;have h3:=HPN.out;have h4:=HL.out;rw[h2]at h1
  have h5:rs'.length=0:=by
   rw[h1]at h4
   simp only[List.length_append]at h3 h4
   omega
  rw[h1,List.eq_nil_of_length_eq_zero h5,List.append_nil]
theorem IZ:∀(l:List UInt8)(acc:Nat)(r:List UInt8)(u:Nat),Lib.parseUint10 acc l=.ok u→Lib.parseUint10 acc (l++r)=Lib.parseUint10 u r
 | [],acc,r,u,h=>by
  simp only[Lib.parseUint10]at h
  injection h with h
  subst h;rfl
 | c::l,acc,r,u,h=>by
  simp only[List.cons_append,Lib.parseUint10]at h ⊢
  split at h
  ·rename_i h1
   rw[if_pos h1]
   split at h
   ·cases h
   ·rename_i h2
    rw[if_neg h2]
    split at h
    ·cases h
    ·rename_i h3
     rw[if_neg h3];exact IZ l _ r u h
  ·cases h
theorem qC{d:Nat}(h:d<10):(UInt8.ofNat (48+d)).toNat=48+d:=by
 rw[UInt8.toNat_ofNat'];omega
theorem BQ(u:Nat)(hu:u<18446744073709551616):Lib.parseUint10 0 (Lib.decDigits u)=.ok u:=by
 induction u using Nat.strongRecOn with
 | ind u ih =>
  rw[Lib.decDigits]
  split
  ·rename_i h
   simp only[Lib.parseUint10,qC h]
   rw[if_pos ae,if_neg ae,if_neg ae]
   congr 1
   omega
  ·rename_i h
   rw[IZ _ _ _ _ (ih (u / 10) ae ae)];have hd:u%10<10:=Nat.mod_lt _ aj
   simp only[Lib.parseUint10,qC hd]
   rw[if_pos ae,if_neg ae,if_neg ae]
   congr 1
   omega
theorem zB(u:Nat):∀c∈Lib.decDigits u,48≤c.toNat∧c.toNat≤57:=by
 induction u using Nat.strongRecOn with
 | ind u ih =>
  intro c hc;rw[Lib.decDigits]at hc
  split at hc
  ·rename_i h
   obtain rfl:=List.mem_singleton.1 hc
   rw[qC h]; omega
  ·rename_i h
   rcases List.mem_append.1 hc with hc | hc
   ·exact ih (u / 10) ae c hc
   ·obtain rfl:=List.mem_singleton.1 hc;rw[qC (Nat.mod_lt _ aj)];have:u%10<10:=Nat.mod_lt _ aj;omega
theorem BS(u:Nat):Lib.decDigits u≠[]:=by
 rw[Lib.decDigits]
 split <;> simp
theorem JJ(n:Int):∀c∈Lib.itoa n,45≤c.toNat∧c.toNat≤57:=by
 intro c hc;unfold Lib.itoa at hc
 split at hc
 ·rcases List.mem_cons.1 hc with rfl | hc
  ·decide
  ·have:=zB _ c hc; omega
 ·have:=zB _ c hc; omega
theorem MX(n:Int):Lib.itoa n≠[]:=by
 unfold Lib.itoa
 split
 ·simp
 ·exact BS _
theorem EZ(n:Int)(h:I64 n):Lib.atoiAll (Lib.itoa n)=.ok n:=by
 unfold I64 at h;unfold Lib.itoa
 split
 ·rename_i hn
  simp only[Lib.atoiAll]
  rw[if_pos aj]
  have e:Lib.parseMag (Lib.decDigits n.natAbs)=.ok n.natAbs:=by
   unfold Lib.parseMag;rw[if_neg (BS _)];exact BQ _ ae
  rw[e];dsimp only;rw[if_neg ar,if_neg ae,if_pos aj]
  congr 1
  omega
 ·rename_i hn
  have e:Lib.parseMag (Lib.decDigits n.toNat)=.ok n.toNat:=by
   unfold Lib.parseMag;rw[if_neg (BS _)];exact BQ _ ae
  rcases hd:Lib.decDigits n.toNat with _ | ⟨c,r⟩
  ·exact absurd hd (BS _)
  ·have hc:=zB n.toNat c (by rw[hd]; simp)
   simp only[Lib.atoiAll]
   rw[if_neg ae,← hd,e];dsimp only;rw[if_neg ae,if_neg ae,if_neg ae]
   congr 1
   omega
theorem kG(n:Int)(h:I64 n):nmV (aW n)=some n:=by
 unfold nmV
 have e:Lib.parseIntB 64 (aW n).data.toList=.ok n:=by
  rw[Lib.parseIntB_64];exact EZ n h
 rw[e]
 simp
theorem zg:∀(l:List Int),(∀z∈l,I64 z)→dm (l.map aW)=some l
 | [],_=>rfl
 | z::l,h=>by
  simp only[List.map_cons,dm]
  rw[kG z (h z ar),zg l (fun y hy=>h y lO)]
  rfl
theorem Mq(b:Int)(h0:0≤b)(h1:b≤255)(r:List UInt8)(t:List Int)(hr:fA r=some t):fA (gq [b]++r)=some (b::t):=by
 obtain⟨n,rfl⟩:∃n:Nat,b=n:=⟨b.toNat,ae⟩;have hn:n≤255:=ae;have key:∀k:Fin 256,(0≤fJ (im.data[((k.val:Int)).toNat / 16]?.getD 0).toNat∧0≤fJ (im.data[((k.val:Int)).toNat%16]?.getD 0).toNat)∧fJ (im.data[((k.val:Int)).toNat / 16]?.getD 0).toNat*16+fJ (im.data[((k.val:Int)).toNat%16]?.getD 0).toNat=k.val:=m9;obtain⟨k1,k2⟩:=key ⟨n,ae⟩;dsimp only at k1 k2
 simp only[gq,List.flatMap_cons,List.flatMap_nil,List.append_nil,List.cons_append,List.nil_append,fA]
 rw[if_pos k1,hr,k2];rfl
theorem Cb:∀(l:List Int),(∀b∈l,0≤b∧b≤255)→fA (gq l)=some l
 | [],_=>rfl
 | b::l,h=>by
  have e:gq (b::l)=gq [b]++gq l:=by simp[gq]
  rw[e]
  exact Mq b (h b ar).1 (h b ar).2 _ _ (Cb l (fun x hx=>h x fZ))
theorem MF(l:List Int)(h:∀b∈l,0≤b∧b≤255):∀c∈gq l,48≤c.toNat∧c.toNat≤102:=by
 intro c hc;unfold gq at hc;obtain⟨b,hb,hc⟩:=List.mem_flatMap.1 hc;have hr:=h b hb;obtain⟨n,rfl⟩:∃n:Nat,b=n:=⟨b.toNat,ae⟩;have key:∀k:Fin 256,(48≤(im.data[((k.val:Int)).toNat / 16]?.getD 0).toNat∧(im.data[((k.val:Int)).toNat / 16]?.getD 0).toNat≤102)∧(48≤(im.data[((k.val:Int)).toNat%16]?.getD 0).toNat∧(im.data[((k.val:Int)).toNat%16]?.getD 0).toNat≤102):=m9;obtain⟨k1,k2⟩:=key ⟨n,ae⟩
 simp only[List.mem_cons,List.not_mem_nil,or_false]at hc
 rcases hc with rfl | rfl
 ·exact k1
 ·exact k2
theorem xX:∀(a r:List UInt8),(∀c∈a,c≠10)→bA (a++10::r)=a::bA r
 | [],r,_=>by simp[bA]
 | c::a,r,h=>by
  have hc:(c==10)=false:=by simpa using h c ar
  rw[List.cons_append,bA,hc,xX a r (fun x hx=>h x fZ)]
  rfl
theorem ui:∀(ls:List (List UInt8)),(∀a∈ls,∀c∈a,c≠10)→bA (ls.flatMap fun a=>a++[10])=ls++[[]]
 | [],_=>rfl
 | a::ls,h=>by
  rw[List.flatMap_cons,List.append_assoc,List.singleton_append,xX a _ (h a ar),ui ls (fun x hx=>h x fZ)]
  rfl
def i6:List UInt8→Option (List UInt8)→List (List UInt8)
 | [],none=>[]
 | [],some t=>[t]
 | c::l,none=>if jZ c.toNat=true then i6 l none else i6 l (some [c])
 | c::l,some t=>if jZ c.toNat=true then t::i6 l none else i6 l (some (t++[c]))
theorem EF(s:ByteArray)(pos:Nat)(hp:pos<s.size)(ha:∀c∈s.data.toList,c.toNat<128):Utf8.decode s pos=(s.data.toList[pos]!.toNat,1):=by
 have hl:pos<s.data.toList.length:=by rw[Array.length_toList]; exact hp
 have e:s.get! pos=s.data.toList[pos]!:=by
  rw[List.getElem!_eq_getElem?_getD,aO hl]
  simp only[ByteArray.get!,Option.getD_some]
  rw[Array.getElem!_eq_getD]
  simp only[Array.getD,Array.getElem_toList]
  exact dif_pos hp
 have hm:s.data.toList[pos]! ∈ s.data.toList:=by
  rw[List.getElem!_eq_getElem?_getD,aO hl];exact List.getElem_mem _
 have h1:=ha _ hm;unfold Utf8.decode
 simp only[Nat.add_zero,e]
 rw[if_pos h1]
theorem drop_at(l:List UInt8){pos:Nat}(h:pos<l.length):l.drop pos=l[pos]! :: l.drop (pos+1):=by
 rw[List.drop_eq_getElem_cons h,List.getElem!_eq_getElem?_getD,aO h];rfl
theorem Db(l:List UInt8){a pos:Nat}(ha:a≤pos)(h:pos<l.length):(l.drop a).take (pos+1-a)=(l.drop a).take (pos-a)++[l[pos]!]:=by
 have e:pos+1-a=(pos-a)+1:=ae
 rw[e,List.take_add_one,List.getElem?_drop,show a+(pos-a)=pos by omega,List.getElem!_eq_getElem?_getD,aO h]
 rfl
theorem Ag(s:ByteArray)(ha:∀c∈s.data.toList,c.toNat<128):∀(f pos:Nat)(st:Option Nat)(acc:List (Nat×Nat)),s.size-pos≤f→pos≤s.size→(∀a,st=some a→a≤pos) →
  (Lib.closeSpans s (Lib.spansFromP jZ s f pos st acc)).map (fun x=>(s.extract x.1 x.2).data.toList)=acc.map (fun x=>(s.extract x.1 x.2).data.toList)++i6 (s.data.toList.drop pos) (st.map fun a=>(s.data.toList.drop a).take (pos-a)):=by
 have hsz:s.data.toList.length=s.size:=Array.length_toList
 have fin:∀(st:Option Nat)(acc:List (Nat×Nat)),(∀a,st=some a→a≤s.size)→(Lib.closeSpans s (acc,st)).map (fun x=>(s.extract x.1 x.2).data.toList)=acc.map (fun x=>(s.extract x.1 x.2).data.toList)++i6 (s.data.toList.drop s.size) (st.map fun a=>(s.data.toList.drop a).take (s.size-a)):=by
  intro st acc h;rw[List.drop_eq_nil_of_le ae]
  cases st with
  | none=>simp[Lib.closeSpans,i6]
  | some a=>simp[Lib.closeSpans,i6]
 intro f
 induction f with
 | zero =>
  intro pos st acc h1 h2 h3;obtain rfl:pos=s.size:=ae;exact fin st acc h3
 | succ f ih =>
  intro pos st acc h1 h2 h3
  by_cases hp:pos<s.size
  ·rw[drop_at s.data.toList ae];unfold Lib.spansFromP;rw[if_pos hp,EF s pos hp ha];dsimp only
   cases st with
   | none =>
    simp only[Option.map_none,i6]
    by_cases hb:jZ s.data.toList[pos]!.toNat=true
    ·rw[if_pos hb,if_pos hb]
     exact ih (pos+1) none acc ae ae (fun a e=>dS)
    ·rw[if_neg hb,if_neg hb]
     have:=ih (pos+1) (some pos) acc ae ae (fun a e=>uE)
     rw[this]
     simp only[Option.map_some]
     rw[Db s.data.toList (Nat.le_refl pos) ae]
     simp
   | some a =>
    have ha':=h3 a rfl
    simp only[Option.map_some,i6]
    by_cases hb:jZ s.data.toList[pos]!.toNat=true
    ·rw[if_pos hb,if_pos hb]
     have:=ih (pos+1) none (acc++[(a,pos)]) ae ae (fun a e=>dS)
     rw[this]
     simp
    ·rw[if_neg hb,if_neg hb]
     have:=ih (pos+1) (some a) acc ae ae (fun b e=>uE)
     rw[this]
     simp only[Option.map_some]
     rw[Db s.data.toList ha' ae]
  ·obtain rfl:pos=s.size:=ae;rw[Lib.spansFromP_end _ _ _ _ _ _ hp];exact fin st acc h3
theorem Az(s:ByteArray)(ha:∀c∈s.data.toList,c.toNat<128):aS s=(i6 s.data.toList none).map fun l=>⟨l.toArray⟩:=by
 have h:=Ag s ha s.size 0 none [] ae ae (fun a e=>dS)
 simp only[List.map_nil,List.nil_append,List.drop_zero,Option.map_none]at h
 rw[← h];unfold aS Lib.goFieldsP Lib.spansOfP;rw[List.map_map]
 apply List.map_congr_left
 intro x _;rfl
theorem tZ:∀(w t r:List UInt8),(∀c∈w,jZ c.toNat=false)→i6 (w++r) (some t)=i6 r (some (t++w))
 | [],t,r,_=>by simp
 | c::w,t,r,h=>by
  rw[List.cons_append,i6,if_neg (by simp[h c ar]),tZ w _ r (fun x hx=>h x fZ)]
  simp
def Wrd(w:List UInt8):Prop:=w≠[]∧∀c∈w,jZ c.toNat=false
theorem xy{w:List UInt8}(h:Wrd w)(r:List UInt8):i6 (w++r) none=i6 r (some w):=by
 obtain⟨h0,h1⟩:=h
 cases w with
 | nil=>exact absurd rfl h0
 | cons c w =>
  rw[List.cons_append,i6,if_neg (by simp[h1 c ar]),tZ w _ r (fun x hx=>h1 x fZ)]
  rfl
theorem tR:∀(ws:List (List UInt8)) (w:List UInt8),Wrd w→(∀x∈ws,Wrd x)→i6 (w++Lib.joinTail [32] ws) none=w::ws
 | [],w,h,_=>by
  rw[xy h];rfl
 | x::ws,w,h,hw=>by
  have e:Lib.joinTail [32] (x::ws)=32::(x++Lib.joinTail [32] ws):=by simp[Lib.joinTail]
  rw[xy h,e,i6,if_pos aj,tR ws x (hw x ar) (fun y hy=>hw y lO)]
end Go.Proofs.YtheefojaplnnoaaGreatDoor

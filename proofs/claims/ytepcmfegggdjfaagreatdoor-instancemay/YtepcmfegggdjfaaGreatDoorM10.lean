/-
  Texts Vdd.
-/
import Derived.Test.YtepcmfegggdjfaaGreatDoorM00
import Derived.Test.YtepcmfegggdjfaaGreatDoorM09
set_option linter.unusedVariables false
set_option maxRecDepth 100000
set_option maxHeartbeats 16000000
namespace Go.Proofs.YtepcmfegggdjfaaGreatDoor
open Go.Proofs.Tryz
open Go.RowKit
section
variable {v:Ev} {w1 w:World} {s:Cs}
abbrev ck5(MB FB OW:Nat)(m:MM)(P R lo:BAz)(W:World):Prop :=
 W.cell? ⟨MB,0,none⟩=some (.slice m.ta m.tn m.tc)/\W.cell? ⟨MB,1,none⟩=some (.slice m.ha m.hn m.hc)/\W.cell? ⟨MB,2,none⟩=some (.slice m.ga m.gn m.gc)/\W.cell? ⟨MB,3,none⟩=some (.int .i64 m.fi)/\W.cell? ⟨MB,4,none⟩=some (.int .i64 m.mo)/\W.cell? ⟨MB,5,none⟩=some (.slice m.fa m.fn m.fc)/\W.cell? ⟨MB,6,none⟩=some (.slice m.da m.dn m.dc)/\W.cell? ⟨MB,7,none⟩=some (.slice m.ea m.en m.ec) /\
  W.cell? ⟨FB,1,none⟩=some (.string lo)/\W.cell? ⟨OW,0,none⟩=some (.string P)/\W.cell? ⟨OW,1,none⟩=some (.string R)
variable {MB FB OW:Nat}{m:MM}{W W':World}
theorem ck5.later{P R lo:BAz}(h:ck5 MB FB OW m P R lo W)(hb:Below W.heap.size W W'):ck5 MB FB OW m P R lo W':=by
 obtain⟨h0,h1,h2,h3,h4,h5,h6,h7,h8,h9,h10⟩:=h;exact⟨ag hb h0,ag hb h1,ag hb h2,ag hb h3,ag hb h4,ag hb h5,ag hb h6,ag hb h7,ag hb h8,ag hb h9,ag hb h10⟩
variable {g:Nat}
theorem ck5.kept{P R lo:BAz}(h:ck5 MB FB OW m P R lo W)(hb:Kept (fun k=>k=g) W W')(hn:MB≠g/\FB≠g/\OW≠g):ck5 MB FB OW m P R lo W':=by
 obtain⟨h0,h1,h2,h3,h4,h5,h6,h7,h8,h9,h10⟩:=h;exact⟨hb.cell h0 hn.1,hb.cell h1 hn.1,hb.cell h2 hn.1,hb.cell h3 hn.1,hb.cell h4 hn.1,hb.cell h5 hn.1,hb.cell h6 hn.1,hb.cell h7 hn.1,hb.cell h8 hn.2.1,hb.cell h9 hn.2.2,hb.cell h10 hn.2.2⟩
variable {a b:Nat}{x y:AVz}{t u:TypeId}
theorem cu{w:World}(h1:w.heap[a]? =some (.cells x t))(h2:w.heap[b]? =some (.cells y u))(h:t≠u):a≠b:=by
 rintro rfl; rw[h1]at h2; simp at h2; exact h h2.2
variable {n c:Nat}{l:LIz}
theorem bh(h:Seg W (some ⟨b,0,none⟩) n c l)(hb:Below W.heap.size W W'):Seg W' (some ⟨b,0,none⟩) n c l:=by
 obtain⟨h1,h2,h3,h4,h5⟩:=h;refine⟨h1,h2,h3,h4,?_⟩
 rcases h5 with h5 | ⟨b',off,e,hc⟩
 ·exact .inl h5
 cases e
 exact .inr ⟨_,_,rfl,fun j hj=>ag hb (hc j hj)⟩
theorem dv(h:Seg W (some ⟨b,0,none⟩) n c l)(hb:Kept (fun k=>k=g) W W')(hn:n=0\/b≠g):Seg W' (some ⟨b,0,none⟩) n c l:=by
 obtain⟨h1,h2,h3,h4,h5⟩:=h;refine⟨h1,h2,h3,h4,?_⟩
 rcases h5 with h5 | ⟨b',off,e,hc⟩
 ·exact .inl h5
 cases e
 rcases hn with hn | hn
 ·exact .inl hn
 exact .inr ⟨_,_,rfl,fun j hj=>hb.cell (hc j hj) hn⟩
theorem gq(h:Seg W (some ⟨b,0,none⟩) n c l)(h2:W.heap[g]? =some (bR none))(hn:n<=1000000):n=0\/b≠g:=by
 obtain⟨h1,h2',h3,h4,h5⟩:=h
 rcases h5 with h5 | ⟨b',off,e,hc⟩
 ·exact .inl h5
 cases e
 by_cases h0:n=0
 ·exact .inl h0
 right;rintro rfl
 have:=hc 0 ae;rw[ai h2]at this;simp at this
variable {P:Program}{ops:Array Oper}{Q:Exit->Act->World->Prop}{i fuel:Nat}{o:Oper}{a:Act}
theorem aL{md:Region.Mode}{S:World->Prop}{listed:Array Bool}{w:World}{rs:List Nat}(ho:ops[i]? =some o)(hw:Region.wanted o (yielded ops a.tmps)=true)
  (h:∀K:Act->World->Prop,Shut (∀a w,S w->(S w->wpAnyH P md ops Q S fuel (listed.setIfInBounds i true) a w)->K a w)->Oper.wp P o a w K Q)
  (hs:AllReadyH P md ops Q S fuel listed a w rs):AllReadyH P md ops Q S fuel listed a w (i::rs) :=
 AllReadyH.cons ho (fun K hK=>vG) hs
abbrev ck6(CB FB C:Nat)(cv:Value)(W:World):Prop:=W.cell? ⟨CB,0,none⟩=some (.pointer (some ⟨C,0,none⟩))/\W.cell? ⟨FB,2,none⟩=some cv
variable {CB C:Nat}{cv:Value}
theorem ck6.later(h:ck6 CB FB C cv W)(hb:Below W.heap.size W W'):ck6 CB FB C cv W':=⟨ag hb h.1,ag hb h.2⟩
theorem ck6.kept(h:ck6 CB FB C cv W)(hb:Kept (fun k=>k=g) W W')(hn:CB≠g/\FB≠g):ck6 CB FB C cv W':=⟨hb.cell h.1 hn.1,hb.cell h.2 hn.2⟩
theorem QI(W:World)(C:Nat)(t0 t1 t2 t3 t4:Value):Kept (fun k=>k=C) W (((((W.setCell ⟨C,9,none⟩ t0).setCell ⟨C,10,none⟩ t1).setCell ⟨C,11,none⟩ t2).setCell ⟨C,12,none⟩ t3).setCell ⟨C,13,none⟩ t4) :=
 ((((ax W C 9 t0).trans (ax _ C 10 t1)).trans (ax _ C 11 t2)).trans (ax _ C 12 t3)).trans (ax _ C 13 t4)
theorem Tryz.infStr:(prog.info? 9).map (fun i=>(i.zero,i.size,i.bytes))=some (some (.string ⟨#[]⟩),1,16):=ar
abbrev gm:Oper:={ dst:=some 45,op:=.box 120 (.tmp 44),type:=113,pos:= "checker.go:27",after:=#[⟨10,.data⟩],guard:=none }
abbrev gh:Oper:={ dst:=none,op:=.store 113 (.tmp 11) (.tmp 45),type:=0,pos:= "checker.go:27",after:=#[⟨12,.data⟩,⟨11,.data⟩,⟨8,.chain⟩,⟨0,.phase⟩,⟨1,.phase⟩,⟨2,.phase⟩,⟨3,.phase⟩,⟨4,.phase⟩,⟨5,.phase⟩,⟨6,.phase⟩,⟨7,.phase⟩,⟨8,.phase⟩,⟨9,.phase⟩,⟨10,.phase⟩,⟨11,.phase⟩,⟨12,.phase⟩],guard:=none }
abbrev iF:Oper:={ dst:=some 44,op:=.build 120 #[(0,.tmp 34),(1,.tmp 40),(3,.tmp 43)],type:=120,pos:= "checker.go:27",after:=#[⟨0,.data⟩,⟨6,.data⟩,⟨9,.data⟩],guard:=none }
abbrev iB:Oper:={ dst:=some 11,op:=.alloc 113,type:=0,pos:= "checker.go:27",after:=#[],guard:=none }
abbrev i5:Oper:={ dst:=some 43,op:=.buildSlice 118 1 #[(0,.tmp 42)],type:=118,pos:= "checker.go:27",after:=#[⟨8,.data⟩],guard:=none }
abbrev jR:Oper:={ dst:=some 40,op:=.convert 9 49 (.tmp 39),type:=49,pos:= "checker.go:27",after:=#[⟨5,.data⟩],guard:=none }
abbrev rT:Oper:={ dst:=some 42,op:=.call { callee:=.value (.func 60),args:=#[.tmp 41],argTypes:=#[55] },type:=116,pos:= "checker.go:27",after:=#[⟨7,.data⟩],guard:=none }
abbrev bX(m:MM)(L O n c:Nat):Obj:=.cells #[.slice m.ta m.tn m.tc,.slice m.ha m.hn m.hc,.slice m.ga m.gn m.gc,.int .i64 m.fi,.int .i64 m.mo,.slice m.fa m.fn m.fc,.slice m.da m.dn m.dc,.slice m.ea m.en m.ec,.slice (some ⟨L,0,none⟩) n c,.slice none 0 0,.slice none 0 0,.slice none 0 0,.slice none 0 0,.int .i64 0,.slice (some ⟨O,0,none⟩) 1 1,.string ⟨#[]⟩,.int .i64 0,.bool false] 120
abbrev cY(R:BAz):Obj:=.cells #[.string ⟨#[]⟩,.string R,.string ⟨#[]⟩,.int .u8 0,.int .i64 0] 116
theorem BU(m:MM)(t:Nat)(P R lo:BAz)(ca:OAz)(cn cc:Nat)(xs:List Inx)(hn:cn<=2048)(hcap:cn<=cc)(hc:ui w ca cn xs)(hE:res (opF xs) cn 0=(0,0))(hG:Good (opF xs) cn)
  (hW:EvW w m) (hP:m.types[t]? =some (P,R)) (hP64:P.size+lo.size<=64) (hll:∀x∈aC (P++lo),x=119\/x=108) (hbr:∀j,j<cn->(xs.getD j dx).ln<=100000/\((xs.getD j dx).c=9->0<(xs.getD j dx).ln)) :
  Calls prog 35 #[.agg (mV m),.agg #[.int .i64 t,.string lo,.slice ca cn cc]] w (QV m (aC (P++lo)) xs R cn w):=by
 have pt:=hW.pt;have htn:=hW.t64;have hP8:P.size<=8:=(hW.tL _ (List.mem_of_getElem? hP)).1;have hR8:R.size<=8:=(hW.tL _ (List.mem_of_getElem? hP)).2;have hlo:lo.size<=64:=ae;have HCD:=hid hc;have HEW:=hid hW;have HLL:=hid hll;have HBR:=hid hbr;have HGD:=hid hG;clear hW hll hbr hG;obtain⟨B0,hz,b0,b1,b2,b3,b4⟩:=uy w m t lo (.slice ca cn cc);have HM:=hid (LW ca cn cc xs _ ae hcap (hc.later B0 lRn));rw[hE]at HM;have HW:((((w.alloc (bF m.ta m.tn m.tc m.ha m.hn m.hc m.ga m.gn m.gc m.fi m.mo m.fa m.fn m.fc m.da m.dn m.dc m.ea m.en m.ec)).alloc (bk t lo ca cn cc)).alloc (fk none 0 0 none 0 0 none 0 0 none 0 0 0)).alloc (kR 0)).alloc (bM 0)=W30 w m t lo (.slice ca cn cc):=rfl;have f2:=iz2 b1;have ht:t<m.tn:=xB
 obtain⟨tb,toff,hta,htc⟩:∃b off,m.ta=some ⟨b,off,none⟩/\∀(j:Nat)x,m.types[j]? =some x->w.cell? ⟨b,off+j*2,none⟩=some (.string x.1)/\w.cell? ⟨b,off+j*2+1,none⟩=some (.string x.2):=by
  exact qO
 obtain⟨y0,y1⟩:=htc t _ hP;simp only at y0 y1;have HTA:=hid hta;have HTL:=hid (show tb<w.heap.size from block_lt_of_cell y0);clear hc htc hta;unfold mV
 go_enter_defers func35,ntmps35
 go_wp2_with fail;generalize hW0:W30 w m t lo (.slice ca cn cc)=W0 at *;refine HM.out.mono ?_;rintro e w2⟨a1,a2,a3,n2,rfl,hmo,hb⟩;have HB:=hid (B0.trans (hb.mono B0.size));have d0:=ak hb b0;have d1:=ak hb b1;have d2:=ak hb b2;have d3:=ak hb b3;have d4:=ak hb b4;have e3:=iz0 d3;have g3:=free_at (i:=0) d3;have e4:=iz0 d4;have g4:=free_at (i:=0) d4;have x0:=ag HB.out y0;have x1:=ag HB.out y1;have HMO:=hid hmo
 have hs2:w.heap.size+5<=w2.heap.size:=by have:=hb.size; omega
 have m0:w2.cell? ⟨w.heap.size,0,none⟩=some (.slice (some ⟨tb,toff,none⟩) m.tn m.tc):=by rw[<- HTA.out]; exact ai d0
 have m1:=iz0 d1;have m2:=iz1 d1;have m3:=iz2 d1;have ht0:(0:Int)<=(t:Int):=ae;have ht1:(t:Int)<(m.tn:Int):=ae;clear b0 b1 b2 b3 b4 B0 HM HW f2 hb hmo y0 y1;have htl:tb<w.heap.size:=HTL.out;have BWA:Below w.heap.size w ((w2.setCell ⟨w.heap.size+1+1+1,0,none⟩ (.int .i64 0)).setCell ⟨w.heap.size+1+1+1+1,0,none⟩ (.int .i64 0)):=jQ (jQ HB.out ae) ae;have pA:∀{b o:Nat} {u:Value},w2.cell? ⟨b,o,none⟩=some u->b≠w.heap.size+1+1+1->b≠w.heap.size+1+1+1+1->((w2.setCell ⟨w.heap.size+1+1+1,0,none⟩ (.int .i64 0)).setCell ⟨w.heap.size+1+1+1+1,0,none⟩ (.int .i64 0)).cell? ⟨b,o,none⟩=some u:=fun h n1 n2=>aU (aU h n1) n2;have X0:=pA x0 ae ae;have X1:=pA x1 ae ae;have M0:=pA m0 ae ae;have M1:=pA m1 ae ae;have M2:=pA m2 ae ae;have M3:=pA m3 ae ae;have k3:=aM (i:=0) (u:=.int .i64 0) d3;have kk1:=ax w2 (w.heap.size+1+1+1) 0 (.int .i64 0);have kk2:=ax (w2.setCell ⟨w.heap.size+1+1+1,0,none⟩ (.int .i64 0)) (w.heap.size+1+1+1+1) 0 (.int .i64 0);have D4:=aM (i:=0) (u:=.int .i64 0) ((kk1.block _ (aN d4) ae).trans d4);have D3:=(kk2.block _ (aN k3) ae).trans k3;have D2:=(kk2.block _ (aN ((kk1.block _ (aN d2) ae).trans d2)) ae).trans ((kk1.block _ (aN d2) ae).trans d2);have D0:=(kk2.block _ (aN ((kk1.block _ (aN d0) ae).trans d0)) ae).trans ((kk1.block _ (aN d0) ae).trans d0);have KA:Kept (fun k=>k=w.heap.size+1+1+1\/k=w.heap.size+1+1+1+1) w2 ((w2.setCell ⟨w.heap.size+1+1+1,0,none⟩ (.int .i64 0)).setCell ⟨w.heap.size+1+1+1+1,0,none⟩ (.int .i64 0)):=(kk1.mono (fun k h=>.inl h)).trans (kk2.mono (fun k h=>.inr h));have HD:=hid (And.intro D0 (And.intro D2 (And.intro D3 D4)));have HKA:=hid KA;have HBWA:=hid BWA;clear d0 d1 d2 d3 d4 k3 kk1 kk2 D0 D2 D3 D4 KA BWA pA x0 x1 m0 m1 m2 m3;go_wp2_with fail;obtain⟨D0,D2,D3,D4⟩:=HD.out;have BO:=aj ((w2.setCell ⟨w.heap.size+1+1+1,0,none⟩ (.int .i64 0)).setCell ⟨w.heap.size+1+1+1+1,0,none⟩ (.int .i64 0)) (aD P R);have HKB:=hid (HKA.out.trans (aP BO));have E0:=ak BO D0;have E2:=ak BO D2;have E3:=ak BO D3;have E4:=ak BO D4;have F1:=ag BO M2;have F2:=ag BO M3;have o0:(((w2.setCell ⟨w.heap.size+1+1+1,0,none⟩ (.int .i64 0)).setCell ⟨w.heap.size+1+1+1+1,0,none⟩ (.int .i64 0)).alloc (aD P R)).cell? ⟨w2.heap.size,0,none⟩=some (.string P):=aG;have o1:(((w2.setCell ⟨w.heap.size+1+1+1,0,none⟩ (.int .i64 0)).setCell ⟨w.heap.size+1+1+1+1,0,none⟩ (.int .i64 0)).alloc (aD P R)).cell? ⟨w2.heap.size,1,none⟩=some (.string R):=aG;have HBB0:=HBWA.out.trans (BO.mono HBWA.out.size)
 have hzB:(((w2.setCell ⟨w.heap.size+1+1+1,0,none⟩ (.int .i64 0)).setCell ⟨w.heap.size+1+1+1+1,0,none⟩ (.int .i64 0)).alloc (aD P R)).heap.size=w2.heap.size+1:=by simp[World.setCell]
 have hH0:ck5 w.heap.size (w.heap.size+1) w2.heap.size m P R lo (((w2.setCell ⟨w.heap.size+1+1+1,0,none⟩ (.int .i64 0)).setCell ⟨w.heap.size+1+1+1+1,0,none⟩ (.int .i64 0)).alloc (aD P R)):=⟨ai E0,ai E0,ai E0,ai E0,ai E0,ai E0,ai E0,ai E0,F1,o0,o1⟩;have HX:=hid (And.intro E2 (And.intro E3 (And.intro E4 (And.intro F2 HBB0))));have hPl:(P++lo).size<=1000000:=wh;clear BO E0 E2 E3 E4 F1 F2 o0 o1 HBB0 D0 D2 D3 D4 HD X0 X1 M0 M1 M2 M3 HBWA;generalize ((w2.setCell ⟨w.heap.size+1+1+1,0,none⟩ (.int .i64 0)).setCell ⟨w.heap.size+1+1+1+1,0,none⟩ (.int .i64 0)).alloc (aD P R)=WB at *
 go_cut [11] from 34 to 45 (fun g wx=>∃CB C L O0 lc,g=.pointer (some ⟨CB,0,none⟩)/\wx.heap[CB]? =some (bR (some ⟨C,0,none⟩))/\wx.heap[C]? =some (bX m L O0 (P.size+lo.size) lc)/\wx.heap[O0]? =some (cY R)/\Seg wx (some ⟨L,0,none⟩) (P++lo).size lc (aC (P++lo))/\WB.heap.size<=CB/\WB.heap.size<=C/\WB.heap.size<=L/\WB.heap.size<=O0/\Below WB.heap.size WB wx)
 case first =>
  have hPl1:=hPl;have hcat:¬9223372036854775807<P.size+lo.size:=ae;have HBB:Below WB.heap.size WB WB.drew:=(Below.refl _ _).drew;have hH:ck5 w.heap.size (w.heap.size+1) w2.heap.size m P R lo WB.drew:=hH0;have HSB:=hid (show ∀g,WB.heap.size<=g->w.heap.size≠g/\w.heap.size+1≠g/\w2.heap.size≠g from fun g hg=>ae);refine wp_region_noPanic ?_;refine wp_region_held_drew (S:=ck5 w.heap.size (w.heap.size+1) w2.heap.size m P R lo) ar hH (fun hHeld=>?_)
  generalize WB.drew=WD at *;refine tkB (i:=0) (oi:={ dst:=some 34,op:=.load 29 (.tmp 2),type:=29,pos:= "checker.go:27",after:=#[],guard:=none }) (d:=some 34) ?_;(try simp only[Act.put,sIB,sC0,sCs]);refine tkB (i:=1) (oi:={ dst:=some 35,op:=.fieldAddr 55 (.tmp 10) 0,type:=0,pos:= "checker.go:27",after:=#[],guard:=none }) (d:=some 35) ?_;(try simp only[Act.put,sIB,sC0,sCs]);refine tkB (i:=2) (oi:={ dst:=some 36,op:=.load 9 (.tmp 35),type:=9,pos:= "checker.go:27",after:=#[⟨1,.data⟩],guard:=none }) (d:=some 36) ?_;(try simp only[Act.put,sIB,sC0,sCs]);refine tkB (i:=3) (oi:={ dst:=some 37,op:=.fieldAddr 61 (.tmp 3) 1,type:=0,pos:= "checker.go:27",after:=#[],guard:=none }) (d:=some 37) ?_;(try simp only[Act.put,sIB,sC0,sCs]);refine tkB (i:=4) (oi:={ dst:=some 38,op:=.load 9 (.tmp 37),type:=9,pos:= "checker.go:27",after:=#[⟨3,.data⟩],guard:=none }) (d:=some 38) ?_;(try simp only[Act.put,sIB,sC0,sCs]);refine tkB (i:=5) (oi:={ dst:=some 39,op:=.binOp Go.BinOp.add 9 (.tmp 36) (.tmp 38) 9,type:=9,pos:= "checker.go:27",after:=#[⟨2,.data⟩,⟨4,.data⟩],guard:=none }) (d:=some 39) ?_;(try simp only[Act.put,sIB,sC0,sCs]);refine tkB (i:=7) (oi:={ dst:=some 41,op:=.load 55 (.tmp 10),type:=55,pos:= "checker.go:27",after:=#[],guard:=none }) (d:=some 41) ?_;(try simp only[Act.put,sIB,sC0,sCs]);refine rdY (rs:=[6,8,12]) ?_
  refine aL (o:=jR) ar ar (fun K hK=>?_) ?_
  ·obtain⟨lc,Wg,hcv,hseg,BN,hzW⟩:=eD WD (P++lo) hPl;clear hzW;go_simp;clear hcv;have hL:=hseg;have hLL:WB.heap.size<=WD.heap.size:=HBB.size;have hH:=ck5.later hH BN;have HBB:=HBB.trans (BN.mono HBB.size)
   refine hK.out _ _ hH (fun _=>?_);clear hK K BN;refine rdY (rs:=[8,12]) ?_;refine aL (o:=rT) ar ar (fun K hK=>?_) ?_
   ·go_simp;refine(se P R).mono ?_;rintro e Wgi⟨rfl,BN⟩;have hL:=bh hL BN;have hH:=ck5.later hH BN;have HBB:=HBB.trans (BN.mono HBB.size)
    refine hK.out _ _ hH (fun _=>?_);clear hK K BN;refine rdY (rs:=[9,12]) ?_;refine aL (o:=i5) ar ar (fun K hK=>?_) ?_
    ·have BN:=aj Wgi (cY R);have hO:=hZn Wgi (cY R);have hOO:WB.heap.size<=Wgi.heap.size:=HBB.size;go_simp;have hL:=bh hL BN;have hH:=ck5.later hH BN;have HBB:=HBB.trans (BN.mono HBB.size)
     refine hK.out _ _ hH (fun _=>?_)
     clear hK K BN;generalize Wgi.alloc (cY R)=Wgij at *;refine tkB (i:=10) (oi:=iF) (d:=some 44) ?_;(try simp only[Act.put,sIB,sC0,sCs]);refine rdY (rs:=[11,12]) ?_
     refine aL (o:=gm) ar ar (fun K hK=>?_) ?_
     ·have BN:=aj Wgij (bX m WD.heap.size Wgi.heap.size (P.size+lo.size) lc);have hC:=hZn Wgij (bX m WD.heap.size Wgi.heap.size (P.size+lo.size) lc);have hCC:WB.heap.size<=Wgij.heap.size:=HBB.size;go_simp;have hO:=ak BN hO;have hL:=bh hL BN;have hH:=ck5.later hH BN;have HBB:=HBB.trans (BN.mono HBB.size)
      refine hK.out _ _ hH (fun _=>?_);clear hK K BN;generalize Wgij.alloc (bX m WD.heap.size Wgi.heap.size (P.size+lo.size) lc)=Wgijl at *;refine rdY (rs:=[12]) ?_;refine aL (o:=iB) ar ar (fun K hK=>?_) ?_
      ·have BN:=aj Wgijl (bR none);have hCB:=hZn Wgijl (bR none);have hBB:WB.heap.size<=Wgijl.heap.size:=HBB.size;go_simp;have hO:=ak BN hO;have hC:=ak BN hC;have hL:=bh hL BN;have hH:=ck5.later hH BN;have HBB:=HBB.trans (BN.mono HBB.size)
       refine hK.out _ _ hH (fun _=>?_);clear hK K BN;generalize Wgijl.alloc (bR none)=Wgijlm at *;refine rdY (rs:=[13]) ?_;refine aL (o:=gh) ar ar (fun K hK=>?_) ?_
       ·have cb0:=iz0 hCB;have cbf:=free_at (i:=0) hCB;have KN:=ax Wgijlm Wgijl.heap.size 0 (.pointer (some ⟨Wgij.heap.size,0,none⟩));have nO:=cu hO hCB aA;have nC:=cu hC hCB aA;have nL:=gq hL hCB hPl1;have nM:=HSB.out _ hBB;go_simp;have hCB:=aM (i:=0) (u:=.pointer (some ⟨Wgij.heap.size,0,none⟩)) hCB;have hO:=(KN.block _ (aN hO) nO).trans hO;have hC:=(KN.block _ (aN hC) nC).trans hC;have hL:=dv hL KN nL;have hH:=ck5.kept hH KN nM;have HBB:=bA (u:=.pointer (some ⟨Wgij.heap.size,0,none⟩)) (i:=0) HBB hBB HBB.size;exact fX
       exact rN
      exact rN
     refine aL (o:=iB) ar ar (fun K hK=>?_) ?_
     ·have BN:=aj Wgij (bR none);have hCB:=hZn Wgij (bR none);have hBB:WB.heap.size<=Wgij.heap.size:=HBB.size;go_simp;have hO:=ak BN hO;have hL:=bh hL BN;have hH:=ck5.later hH BN;have HBB:=HBB.trans (BN.mono HBB.size)
      refine hK.out _ _ hH (fun _=>?_);clear hK K BN;generalize Wgij.alloc (bR none)=Wgijm at *;refine rdY (rs:=[11]) ?_;refine aL (o:=gm) ar ar (fun K hK=>?_) ?_
      ·have BN:=aj Wgijm (bX m WD.heap.size Wgi.heap.size (P.size+lo.size) lc);have hC:=hZn Wgijm (bX m WD.heap.size Wgi.heap.size (P.size+lo.size) lc);have hCC:WB.heap.size<=Wgijm.heap.size:=HBB.size;go_simp;have hO:=ak BN hO;have hCB:=ak BN hCB;have hL:=bh hL BN;have hH:=ck5.later hH BN;have HBB:=HBB.trans (BN.mono HBB.size)
       refine hK.out _ _ hH (fun _=>?_);clear hK K BN;generalize Wgijm.alloc (bX m WD.heap.size Wgi.heap.size (P.size+lo.size) lc)=Wgijml at *;refine rdY (rs:=[13]) ?_;refine aL (o:=gh) ar ar (fun K hK=>?_) ?_
       ·have cb0:=iz0 hCB;have cbf:=free_at (i:=0) hCB;have KN:=ax Wgijml Wgij.heap.size 0 (.pointer (some ⟨Wgijm.heap.size,0,none⟩));have nO:=cu hO hCB aA;have nC:=cu hC hCB aA;have nL:=gq hL hCB hPl1;have nM:=HSB.out _ hBB;go_simp;have hCB:=aM (i:=0) (u:=.pointer (some ⟨Wgijm.heap.size,0,none⟩)) hCB;have hO:=(KN.block _ (aN hO) nO).trans hO;have hC:=(KN.block _ (aN hC) nC).trans hC;have hL:=dv hL KN nL;have hH:=ck5.kept hH KN nM;have HBB:=bA (u:=.pointer (some ⟨Wgijm.heap.size,0,none⟩)) (i:=0) HBB hBB HBB.size;exact fX
       exact rN
      exact rN
     exact rN
    refine aL (o:=iB) ar ar (fun K hK=>?_) ?_
    ·have BN:=aj Wgi (bR none);have hCB:=hZn Wgi (bR none);have hBB:WB.heap.size<=Wgi.heap.size:=HBB.size;go_simp;have hL:=bh hL BN;have hH:=ck5.later hH BN;have HBB:=HBB.trans (BN.mono HBB.size)
     refine hK.out _ _ hH (fun _=>?_);clear hK K BN;generalize Wgi.alloc (bR none)=Wgim at *;refine rdY (rs:=[9]) ?_;refine aL (o:=i5) ar ar (fun K hK=>?_) ?_
     ·have BN:=aj Wgim (cY R);have hO:=hZn Wgim (cY R);have hOO:WB.heap.size<=Wgim.heap.size:=HBB.size;go_simp;have hCB:=ak BN hCB;have hL:=bh hL BN;have hH:=ck5.later hH BN;have HBB:=HBB.trans (BN.mono HBB.size)
      refine hK.out _ _ hH (fun _=>?_)
      clear hK K BN;generalize Wgim.alloc (cY R)=Wgimj at *;refine tkB (i:=10) (oi:=iF) (d:=some 44) ?_;(try simp only[Act.put,sIB,sC0,sCs]);refine rdY (rs:=[11]) ?_
      refine aL (o:=gm) ar ar (fun K hK=>?_) ?_
      ·have BN:=aj Wgimj (bX m WD.heap.size Wgim.heap.size (P.size+lo.size) lc);have hC:=hZn Wgimj (bX m WD.heap.size Wgim.heap.size (P.size+lo.size) lc);have hCC:WB.heap.size<=Wgimj.heap.size:=HBB.size;go_simp;have hO:=ak BN hO;have hCB:=ak BN hCB;have hL:=bh hL BN;have hH:=ck5.later hH BN;have HBB:=HBB.trans (BN.mono HBB.size)
       refine hK.out _ _ hH (fun _=>?_);clear hK K BN;generalize Wgimj.alloc (bX m WD.heap.size Wgim.heap.size (P.size+lo.size) lc)=Wgimjl at *;refine rdY (rs:=[13]) ?_;refine aL (o:=gh) ar ar (fun K hK=>?_) ?_
       ·have cb0:=iz0 hCB;have cbf:=free_at (i:=0) hCB;have KN:=ax Wgimjl Wgi.heap.size 0 (.pointer (some ⟨Wgimj.heap.size,0,none⟩));have nO:=cu hO hCB aA;have nC:=cu hC hCB aA;have nL:=gq hL hCB hPl1;have nM:=HSB.out _ hBB;go_simp;have hCB:=aM (i:=0) (u:=.pointer (some ⟨Wgimj.heap.size,0,none⟩)) hCB;have hO:=(KN.block _ (aN hO) nO).trans hO;have hC:=(KN.block _ (aN hC) nC).trans hC;have hL:=dv hL KN nL;have hH:=ck5.kept hH KN nM;have HBB:=bA (u:=.pointer (some ⟨Wgimj.heap.size,0,none⟩)) (i:=0) HBB hBB HBB.size;exact fX
       exact rN
      exact rN
     exact rN
    exact rN
   refine aL (o:=iB) ar ar (fun K hK=>?_) ?_
   ·have BN:=aj Wg (bR none);have hCB:=hZn Wg (bR none);have hBB:WB.heap.size<=Wg.heap.size:=HBB.size;go_simp;have hL:=bh hL BN;have hH:=ck5.later hH BN;have HBB:=HBB.trans (BN.mono HBB.size)
    refine hK.out _ _ hH (fun _=>?_);clear hK K BN;generalize Wg.alloc (bR none)=Wgm at *;refine rdY (rs:=[8]) ?_;refine aL (o:=rT) ar ar (fun K hK=>?_) ?_
    ·go_simp;refine(se P R).mono ?_;rintro e Wgmi⟨rfl,BN⟩;have hCB:=ak BN hCB;have hL:=bh hL BN;have hH:=ck5.later hH BN;have HBB:=HBB.trans (BN.mono HBB.size)
     refine hK.out _ _ hH (fun _=>?_);clear hK K BN;refine rdY (rs:=[9]) ?_;refine aL (o:=i5) ar ar (fun K hK=>?_) ?_
     ·have BN:=aj Wgmi (cY R);have hO:=hZn Wgmi (cY R);have hOO:WB.heap.size<=Wgmi.heap.size:=HBB.size;go_simp;have hCB:=ak BN hCB;have hL:=bh hL BN;have hH:=ck5.later hH BN;have HBB:=HBB.trans (BN.mono HBB.size)
      refine hK.out _ _ hH (fun _=>?_)
      clear hK K BN;generalize Wgmi.alloc (cY R)=Wgmij at *;refine tkB (i:=10) (oi:=iF) (d:=some 44) ?_;(try simp only[Act.put,sIB,sC0,sCs]);refine rdY (rs:=[11]) ?_
      refine aL (o:=gm) ar ar (fun K hK=>?_) ?_
      ·have BN:=aj Wgmij (bX m WD.heap.size Wgmi.heap.size (P.size+lo.size) lc);have hC:=hZn Wgmij (bX m WD.heap.size Wgmi.heap.size (P.size+lo.size) lc);have hCC:WB.heap.size<=Wgmij.heap.size:=HBB.size;go_simp;have hO:=ak BN hO;have hCB:=ak BN hCB;have hL:=bh hL BN;have hH:=ck5.later hH BN;have HBB:=HBB.trans (BN.mono HBB.size)
       refine hK.out _ _ hH (fun _=>?_);clear hK K BN;generalize Wgmij.alloc (bX m WD.heap.size Wgmi.heap.size (P.size+lo.size) lc)=Wgmijl at *;refine rdY (rs:=[13]) ?_;refine aL (o:=gh) ar ar (fun K hK=>?_) ?_
       ·have cb0:=iz0 hCB;have cbf:=free_at (i:=0) hCB;have KN:=ax Wgmijl Wg.heap.size 0 (.pointer (some ⟨Wgmij.heap.size,0,none⟩));have nO:=cu hO hCB aA;have nC:=cu hC hCB aA;have nL:=gq hL hCB hPl1;have nM:=HSB.out _ hBB;go_simp;have hCB:=aM (i:=0) (u:=.pointer (some ⟨Wgmij.heap.size,0,none⟩)) hCB;have hO:=(KN.block _ (aN hO) nO).trans hO;have hC:=(KN.block _ (aN hC) nC).trans hC;have hL:=dv hL KN nL;have hH:=ck5.kept hH KN nM;have HBB:=bA (u:=.pointer (some ⟨Wgmij.heap.size,0,none⟩)) (i:=0) HBB hBB HBB.size;exact fX
       exact rN
      exact rN
     exact rN
    exact rN
   exact rN
  refine aL (o:=rT) ar ar (fun K hK=>?_) ?_
  ·go_simp;refine(se P R).mono ?_;rintro e Wi⟨rfl,BN⟩;have hH:=ck5.later hH BN;have HBB:=HBB.trans (BN.mono HBB.size)
   refine hK.out _ _ hH (fun _=>?_);clear hK K BN;refine rdY (rs:=[6,9,12]) ?_;refine aL (o:=jR) ar ar (fun K hK=>?_) ?_
   ·obtain⟨lc,Wig,hcv,hseg,BN,hzW⟩:=eD Wi (P++lo) hPl;clear hzW;go_simp;clear hcv;have hL:=hseg;have hLL:WB.heap.size<=Wi.heap.size:=HBB.size;have hH:=ck5.later hH BN;have HBB:=HBB.trans (BN.mono HBB.size)
    refine hK.out _ _ hH (fun _=>?_);clear hK K BN;refine rdY (rs:=[9,12]) ?_;refine aL (o:=i5) ar ar (fun K hK=>?_) ?_
    ·have BN:=aj Wig (cY R);have hO:=hZn Wig (cY R);have hOO:WB.heap.size<=Wig.heap.size:=HBB.size;go_simp;have hL:=bh hL BN;have hH:=ck5.later hH BN;have HBB:=HBB.trans (BN.mono HBB.size)
     refine hK.out _ _ hH (fun _=>?_)
     clear hK K BN;generalize Wig.alloc (cY R)=Wigj at *;refine tkB (i:=10) (oi:=iF) (d:=some 44) ?_;(try simp only[Act.put,sIB,sC0,sCs]);refine rdY (rs:=[11,12]) ?_
     refine aL (o:=gm) ar ar (fun K hK=>?_) ?_
     ·have BN:=aj Wigj (bX m Wi.heap.size Wig.heap.size (P.size+lo.size) lc);have hC:=hZn Wigj (bX m Wi.heap.size Wig.heap.size (P.size+lo.size) lc);have hCC:WB.heap.size<=Wigj.heap.size:=HBB.size;go_simp;have hO:=ak BN hO;have hL:=bh hL BN;have hH:=ck5.later hH BN;have HBB:=HBB.trans (BN.mono HBB.size)
      refine hK.out _ _ hH (fun _=>?_);clear hK K BN;generalize Wigj.alloc (bX m Wi.heap.size Wig.heap.size (P.size+lo.size) lc)=Wigjl at *;refine rdY (rs:=[12]) ?_;refine aL (o:=iB) ar ar (fun K hK=>?_) ?_
      ·have BN:=aj Wigjl (bR none);have hCB:=hZn Wigjl (bR none);have hBB:WB.heap.size<=Wigjl.heap.size:=HBB.size;go_simp;have hO:=ak BN hO;have hC:=ak BN hC;have hL:=bh hL BN;have hH:=ck5.later hH BN;have HBB:=HBB.trans (BN.mono HBB.size)
       refine hK.out _ _ hH (fun _=>?_);clear hK K BN;generalize Wigjl.alloc (bR none)=Wigjlm at *;refine rdY (rs:=[13]) ?_;refine aL (o:=gh) ar ar (fun K hK=>?_) ?_
       ·have cb0:=iz0 hCB;have cbf:=free_at (i:=0) hCB;have KN:=ax Wigjlm Wigjl.heap.size 0 (.pointer (some ⟨Wigj.heap.size,0,none⟩));have nO:=cu hO hCB aA;have nC:=cu hC hCB aA;have nL:=gq hL hCB hPl1;have nM:=HSB.out _ hBB;go_simp;have hCB:=aM (i:=0) (u:=.pointer (some ⟨Wigj.heap.size,0,none⟩)) hCB;have hO:=(KN.block _ (aN hO) nO).trans hO;have hC:=(KN.block _ (aN hC) nC).trans hC;have hL:=dv hL KN nL;have hH:=ck5.kept hH KN nM;have HBB:=bA (u:=.pointer (some ⟨Wigj.heap.size,0,none⟩)) (i:=0) HBB hBB HBB.size;exact fX
       exact rN
      exact rN
     refine aL (o:=iB) ar ar (fun K hK=>?_) ?_
     ·have BN:=aj Wigj (bR none);have hCB:=hZn Wigj (bR none);have hBB:WB.heap.size<=Wigj.heap.size:=HBB.size;go_simp;have hO:=ak BN hO;have hL:=bh hL BN;have hH:=ck5.later hH BN;have HBB:=HBB.trans (BN.mono HBB.size)
      refine hK.out _ _ hH (fun _=>?_);clear hK K BN;generalize Wigj.alloc (bR none)=Wigjm at *;refine rdY (rs:=[11]) ?_;refine aL (o:=gm) ar ar (fun K hK=>?_) ?_
      ·have BN:=aj Wigjm (bX m Wi.heap.size Wig.heap.size (P.size+lo.size) lc);have hC:=hZn Wigjm (bX m Wi.heap.size Wig.heap.size (P.size+lo.size) lc);have hCC:WB.heap.size<=Wigjm.heap.size:=HBB.size;go_simp;have hO:=ak BN hO;have hCB:=ak BN hCB;have hL:=bh hL BN;have hH:=ck5.later hH BN;have HBB:=HBB.trans (BN.mono HBB.size)
       refine hK.out _ _ hH (fun _=>?_);clear hK K BN;generalize Wigjm.alloc (bX m Wi.heap.size Wig.heap.size (P.size+lo.size) lc)=Wigjml at *;refine rdY (rs:=[13]) ?_;refine aL (o:=gh) ar ar (fun K hK=>?_) ?_
       ·have cb0:=iz0 hCB;have cbf:=free_at (i:=0) hCB;have KN:=ax Wigjml Wigj.heap.size 0 (.pointer (some ⟨Wigjm.heap.size,0,none⟩));have nO:=cu hO hCB aA;have nC:=cu hC hCB aA;have nL:=gq hL hCB hPl1;have nM:=HSB.out _ hBB;go_simp;have hCB:=aM (i:=0) (u:=.pointer (some ⟨Wigjm.heap.size,0,none⟩)) hCB;have hO:=(KN.block _ (aN hO) nO).trans hO;have hC:=(KN.block _ (aN hC) nC).trans hC;have hL:=dv hL KN nL;have hH:=ck5.kept hH KN nM;have HBB:=bA (u:=.pointer (some ⟨Wigjm.heap.size,0,none⟩)) (i:=0) HBB hBB HBB.size;exact fX
       exact rN
      exact rN
     exact rN
    refine aL (o:=iB) ar ar (fun K hK=>?_) ?_
    ·have BN:=aj Wig (bR none);have hCB:=hZn Wig (bR none);have hBB:WB.heap.size<=Wig.heap.size:=HBB.size;go_simp;have hL:=bh hL BN;have hH:=ck5.later hH BN;have HBB:=HBB.trans (BN.mono HBB.size)
     refine hK.out _ _ hH (fun _=>?_);clear hK K BN;generalize Wig.alloc (bR none)=Wigm at *;refine rdY (rs:=[9]) ?_;refine aL (o:=i5) ar ar (fun K hK=>?_) ?_
     ·have BN:=aj Wigm (cY R);have hO:=hZn Wigm (cY R);have hOO:WB.heap.size<=Wigm.heap.size:=HBB.size;go_simp;have hCB:=ak BN hCB;have hL:=bh hL BN;have hH:=ck5.later hH BN;have HBB:=HBB.trans (BN.mono HBB.size)
      refine hK.out _ _ hH (fun _=>?_)
      clear hK K BN;generalize Wigm.alloc (cY R)=Wigmj at *;refine tkB (i:=10) (oi:=iF) (d:=some 44) ?_;(try simp only[Act.put,sIB,sC0,sCs]);refine rdY (rs:=[11]) ?_
      refine aL (o:=gm) ar ar (fun K hK=>?_) ?_
      ·have BN:=aj Wigmj (bX m Wi.heap.size Wigm.heap.size (P.size+lo.size) lc);have hC:=hZn Wigmj (bX m Wi.heap.size Wigm.heap.size (P.size+lo.size) lc);have hCC:WB.heap.size<=Wigmj.heap.size:=HBB.size;go_simp;have hO:=ak BN hO;have hCB:=ak BN hCB;have hL:=bh hL BN;have hH:=ck5.later hH BN;have HBB:=HBB.trans (BN.mono HBB.size)
       refine hK.out _ _ hH (fun _=>?_);clear hK K BN;generalize Wigmj.alloc (bX m Wi.heap.size Wigm.heap.size (P.size+lo.size) lc)=Wigmjl at *;refine rdY (rs:=[13]) ?_;refine aL (o:=gh) ar ar (fun K hK=>?_) ?_
       ·have cb0:=iz0 hCB;have cbf:=free_at (i:=0) hCB;have KN:=ax Wigmjl Wig.heap.size 0 (.pointer (some ⟨Wigmj.heap.size,0,none⟩));have nO:=cu hO hCB aA;have nC:=cu hC hCB aA;have nL:=gq hL hCB hPl1;have nM:=HSB.out _ hBB;go_simp;have hCB:=aM (i:=0) (u:=.pointer (some ⟨Wigmj.heap.size,0,none⟩)) hCB;have hO:=(KN.block _ (aN hO) nO).trans hO;have hC:=(KN.block _ (aN hC) nC).trans hC;have hL:=dv hL KN nL;have hH:=ck5.kept hH KN nM;have HBB:=bA (u:=.pointer (some ⟨Wigmj.heap.size,0,none⟩)) (i:=0) HBB hBB HBB.size;exact fX
       exact rN
      exact rN
     exact rN
    exact rN
   refine aL (o:=i5) ar ar (fun K hK=>?_) ?_
   ·have BN:=aj Wi (cY R);have hO:=hZn Wi (cY R);have hOO:WB.heap.size<=Wi.heap.size:=HBB.size;go_simp;have hH:=ck5.later hH BN;have HBB:=HBB.trans (BN.mono HBB.size)
    refine hK.out _ _ hH (fun _=>?_);clear hK K BN;generalize Wi.alloc (cY R)=Wij at *;refine rdY (rs:=[6,12]) ?_;refine aL (o:=jR) ar ar (fun K hK=>?_) ?_
    ·obtain⟨lc,Wijg,hcv,hseg,BN,hzW⟩:=eD Wij (P++lo) hPl;clear hzW;go_simp;clear hcv;have hL:=hseg;have hLL:WB.heap.size<=Wij.heap.size:=HBB.size;have hO:=ak BN hO;have hH:=ck5.later hH BN;have HBB:=HBB.trans (BN.mono HBB.size)
     refine hK.out _ _ hH (fun _=>?_)
     clear hK K BN;refine tkB (i:=10) (oi:=iF) (d:=some 44) ?_;(try simp only[Act.put,sIB,sC0,sCs]);refine rdY (rs:=[11,12]) ?_
     refine aL (o:=gm) ar ar (fun K hK=>?_) ?_
     ·have BN:=aj Wijg (bX m Wij.heap.size Wi.heap.size (P.size+lo.size) lc);have hC:=hZn Wijg (bX m Wij.heap.size Wi.heap.size (P.size+lo.size) lc);have hCC:WB.heap.size<=Wijg.heap.size:=HBB.size;go_simp;have hO:=ak BN hO;have hL:=bh hL BN;have hH:=ck5.later hH BN;have HBB:=HBB.trans (BN.mono HBB.size)
      refine hK.out _ _ hH (fun _=>?_);clear hK K BN;generalize Wijg.alloc (bX m Wij.heap.size Wi.heap.size (P.size+lo.size) lc)=Wijgl at *;refine rdY (rs:=[12]) ?_;refine aL (o:=iB) ar ar (fun K hK=>?_) ?_
      ·have BN:=aj Wijgl (bR none);have hCB:=hZn Wijgl (bR none);have hBB:WB.heap.size<=Wijgl.heap.size:=HBB.size;go_simp;have hO:=ak BN hO;have hC:=ak BN hC;have hL:=bh hL BN;have hH:=ck5.later hH BN;have HBB:=HBB.trans (BN.mono HBB.size)
       refine hK.out _ _ hH (fun _=>?_);clear hK K BN;generalize Wijgl.alloc (bR none)=Wijglm at *;refine rdY (rs:=[13]) ?_;refine aL (o:=gh) ar ar (fun K hK=>?_) ?_
       ·have cb0:=iz0 hCB;have cbf:=free_at (i:=0) hCB;have KN:=ax Wijglm Wijgl.heap.size 0 (.pointer (some ⟨Wijg.heap.size,0,none⟩));have nO:=cu hO hCB aA;have nC:=cu hC hCB aA;have nL:=gq hL hCB hPl1;have nM:=HSB.out _ hBB;go_simp;have hCB:=aM (i:=0) (u:=.pointer (some ⟨Wijg.heap.size,0,none⟩)) hCB;have hO:=(KN.block _ (aN hO) nO).trans hO;have hC:=(KN.block _ (aN hC) nC).trans hC;have hL:=dv hL KN nL;have hH:=ck5.kept hH KN nM;have HBB:=bA (u:=.pointer (some ⟨Wijg.heap.size,0,none⟩)) (i:=0) HBB hBB HBB.size;exact fX
       exact rN
      exact rN
     refine aL (o:=iB) ar ar (fun K hK=>?_) ?_
     ·have BN:=aj Wijg (bR none);have hCB:=hZn Wijg (bR none);have hBB:WB.heap.size<=Wijg.heap.size:=HBB.size;go_simp;have hO:=ak BN hO;have hL:=bh hL BN;have hH:=ck5.later hH BN;have HBB:=HBB.trans (BN.mono HBB.size)
      refine hK.out _ _ hH (fun _=>?_);clear hK K BN;generalize Wijg.alloc (bR none)=Wijgm at *;refine rdY (rs:=[11]) ?_;refine aL (o:=gm) ar ar (fun K hK=>?_) ?_
      ·have BN:=aj Wijgm (bX m Wij.heap.size Wi.heap.size (P.size+lo.size) lc);have hC:=hZn Wijgm (bX m Wij.heap.size Wi.heap.size (P.size+lo.size) lc);have hCC:WB.heap.size<=Wijgm.heap.size:=HBB.size;go_simp;have hO:=ak BN hO;have hCB:=ak BN hCB;have hL:=bh hL BN;have hH:=ck5.later hH BN;have HBB:=HBB.trans (BN.mono HBB.size)
       refine hK.out _ _ hH (fun _=>?_);clear hK K BN;generalize Wijgm.alloc (bX m Wij.heap.size Wi.heap.size (P.size+lo.size) lc)=Wijgml at *;refine rdY (rs:=[13]) ?_;refine aL (o:=gh) ar ar (fun K hK=>?_) ?_
       ·have cb0:=iz0 hCB;have cbf:=free_at (i:=0) hCB;have KN:=ax Wijgml Wijg.heap.size 0 (.pointer (some ⟨Wijgm.heap.size,0,none⟩));have nO:=cu hO hCB aA;have nC:=cu hC hCB aA;have nL:=gq hL hCB hPl1;have nM:=HSB.out _ hBB;go_simp;have hCB:=aM (i:=0) (u:=.pointer (some ⟨Wijgm.heap.size,0,none⟩)) hCB;have hO:=(KN.block _ (aN hO) nO).trans hO;have hC:=(KN.block _ (aN hC) nC).trans hC;have hL:=dv hL KN nL;have hH:=ck5.kept hH KN nM;have HBB:=bA (u:=.pointer (some ⟨Wijgm.heap.size,0,none⟩)) (i:=0) HBB hBB HBB.size;exact fX
       exact rN
      exact rN
     exact rN
    refine aL (o:=iB) ar ar (fun K hK=>?_) ?_
    ·have BN:=aj Wij (bR none);have hCB:=hZn Wij (bR none);have hBB:WB.heap.size<=Wij.heap.size:=HBB.size;go_simp;have hO:=ak BN hO;have hH:=ck5.later hH BN;have HBB:=HBB.trans (BN.mono HBB.size)
     refine hK.out _ _ hH (fun _=>?_);clear hK K BN;generalize Wij.alloc (bR none)=Wijm at *;refine rdY (rs:=[6]) ?_;refine aL (o:=jR) ar ar (fun K hK=>?_) ?_
     ·obtain⟨lc,Wijmg,hcv,hseg,BN,hzW⟩:=eD Wijm (P++lo) hPl;clear hzW;go_simp;clear hcv;have hL:=hseg;have hLL:WB.heap.size<=Wijm.heap.size:=HBB.size;have hO:=ak BN hO;have hCB:=ak BN hCB;have hH:=ck5.later hH BN;have HBB:=HBB.trans (BN.mono HBB.size)
      refine hK.out _ _ hH (fun _=>?_)
      clear hK K BN;refine tkB (i:=10) (oi:=iF) (d:=some 44) ?_;(try simp only[Act.put,sIB,sC0,sCs]);refine rdY (rs:=[11]) ?_
      refine aL (o:=gm) ar ar (fun K hK=>?_) ?_
      ·have BN:=aj Wijmg (bX m Wijm.heap.size Wi.heap.size (P.size+lo.size) lc);have hC:=hZn Wijmg (bX m Wijm.heap.size Wi.heap.size (P.size+lo.size) lc);have hCC:WB.heap.size<=Wijmg.heap.size:=HBB.size;go_simp;have hO:=ak BN hO;have hCB:=ak BN hCB;have hL:=bh hL BN;have hH:=ck5.later hH BN;have HBB:=HBB.trans (BN.mono HBB.size)
       refine hK.out _ _ hH (fun _=>?_);clear hK K BN;generalize Wijmg.alloc (bX m Wijm.heap.size Wi.heap.size (P.size+lo.size) lc)=Wijmgl at *;refine rdY (rs:=[13]) ?_;refine aL (o:=gh) ar ar (fun K hK=>?_) ?_
       ·have cb0:=iz0 hCB;have cbf:=free_at (i:=0) hCB;have KN:=ax Wijmgl Wij.heap.size 0 (.pointer (some ⟨Wijmg.heap.size,0,none⟩));have nO:=cu hO hCB aA;have nC:=cu hC hCB aA;have nL:=gq hL hCB hPl1;have nM:=HSB.out _ hBB;go_simp;have hCB:=aM (i:=0) (u:=.pointer (some ⟨Wijmg.heap.size,0,none⟩)) hCB;have hO:=(KN.block _ (aN hO) nO).trans hO;have hC:=(KN.block _ (aN hC) nC).trans hC;have hL:=dv hL KN nL;have hH:=ck5.kept hH KN nM;have HBB:=bA (u:=.pointer (some ⟨Wijmg.heap.size,0,none⟩)) (i:=0) HBB hBB HBB.size;exact fX
       exact rN
      exact rN
     exact rN
    exact rN
   refine aL (o:=iB) ar ar (fun K hK=>?_) ?_
   ·have BN:=aj Wi (bR none);have hCB:=hZn Wi (bR none);have hBB:WB.heap.size<=Wi.heap.size:=HBB.size;go_simp;have hH:=ck5.later hH BN;have HBB:=HBB.trans (BN.mono HBB.size)
    refine hK.out _ _ hH (fun _=>?_);clear hK K BN;generalize Wi.alloc (bR none)=Wim at *;refine rdY (rs:=[6,9]) ?_;refine aL (o:=jR) ar ar (fun K hK=>?_) ?_
    ·obtain⟨lc,Wimg,hcv,hseg,BN,hzW⟩:=eD Wim (P++lo) hPl;clear hzW;go_simp;clear hcv;have hL:=hseg;have hLL:WB.heap.size<=Wim.heap.size:=HBB.size;have hCB:=ak BN hCB;have hH:=ck5.later hH BN;have HBB:=HBB.trans (BN.mono HBB.size)
     refine hK.out _ _ hH (fun _=>?_);clear hK K BN;refine rdY (rs:=[9]) ?_;refine aL (o:=i5) ar ar (fun K hK=>?_) ?_
     ·have BN:=aj Wimg (cY R);have hO:=hZn Wimg (cY R);have hOO:WB.heap.size<=Wimg.heap.size:=HBB.size;go_simp;have hCB:=ak BN hCB;have hL:=bh hL BN;have hH:=ck5.later hH BN;have HBB:=HBB.trans (BN.mono HBB.size)
      refine hK.out _ _ hH (fun _=>?_)
      clear hK K BN;generalize Wimg.alloc (cY R)=Wimgj at *;refine tkB (i:=10) (oi:=iF) (d:=some 44) ?_;(try simp only[Act.put,sIB,sC0,sCs]);refine rdY (rs:=[11]) ?_
      refine aL (o:=gm) ar ar (fun K hK=>?_) ?_
      ·have BN:=aj Wimgj (bX m Wim.heap.size Wimg.heap.size (P.size+lo.size) lc);have hC:=hZn Wimgj (bX m Wim.heap.size Wimg.heap.size (P.size+lo.size) lc);have hCC:WB.heap.size<=Wimgj.heap.size:=HBB.size;go_simp;have hO:=ak BN hO;have hCB:=ak BN hCB;have hL:=bh hL BN;have hH:=ck5.later hH BN;have HBB:=HBB.trans (BN.mono HBB.size)
       refine hK.out _ _ hH (fun _=>?_);clear hK K BN;generalize Wimgj.alloc (bX m Wim.heap.size Wimg.heap.size (P.size+lo.size) lc)=Wimgjl at *;refine rdY (rs:=[13]) ?_;refine aL (o:=gh) ar ar (fun K hK=>?_) ?_
       ·have cb0:=iz0 hCB;have cbf:=free_at (i:=0) hCB;have KN:=ax Wimgjl Wi.heap.size 0 (.pointer (some ⟨Wimgj.heap.size,0,none⟩));have nO:=cu hO hCB aA;have nC:=cu hC hCB aA;have nL:=gq hL hCB hPl1;have nM:=HSB.out _ hBB;go_simp;have hCB:=aM (i:=0) (u:=.pointer (some ⟨Wimgj.heap.size,0,none⟩)) hCB;have hO:=(KN.block _ (aN hO) nO).trans hO;have hC:=(KN.block _ (aN hC) nC).trans hC;have hL:=dv hL KN nL;have hH:=ck5.kept hH KN nM;have HBB:=bA (u:=.pointer (some ⟨Wimgj.heap.size,0,none⟩)) (i:=0) HBB hBB HBB.size;exact fX
       exact rN
      exact rN
     exact rN
    refine aL (o:=i5) ar ar (fun K hK=>?_) ?_
    ·have BN:=aj Wim (cY R);have hO:=hZn Wim (cY R);have hOO:WB.heap.size<=Wim.heap.size:=HBB.size;go_simp;have hCB:=ak BN hCB;have hH:=ck5.later hH BN;have HBB:=HBB.trans (BN.mono HBB.size)
     refine hK.out _ _ hH (fun _=>?_);clear hK K BN;generalize Wim.alloc (cY R)=Wimj at *;refine rdY (rs:=[6]) ?_;refine aL (o:=jR) ar ar (fun K hK=>?_) ?_
     ·obtain⟨lc,Wimjg,hcv,hseg,BN,hzW⟩:=eD Wimj (P++lo) hPl;clear hzW;go_simp;clear hcv;have hL:=hseg;have hLL:WB.heap.size<=Wimj.heap.size:=HBB.size;have hO:=ak BN hO;have hCB:=ak BN hCB;have hH:=ck5.later hH BN;have HBB:=HBB.trans (BN.mono HBB.size)
      refine hK.out _ _ hH (fun _=>?_)
      clear hK K BN;refine tkB (i:=10) (oi:=iF) (d:=some 44) ?_;(try simp only[Act.put,sIB,sC0,sCs]);refine rdY (rs:=[11]) ?_
      refine aL (o:=gm) ar ar (fun K hK=>?_) ?_
      ·have BN:=aj Wimjg (bX m Wimj.heap.size Wim.heap.size (P.size+lo.size) lc);have hC:=hZn Wimjg (bX m Wimj.heap.size Wim.heap.size (P.size+lo.size) lc);have hCC:WB.heap.size<=Wimjg.heap.size:=HBB.size;go_simp;have hO:=ak BN hO;have hCB:=ak BN hCB;have hL:=bh hL BN;have hH:=ck5.later hH BN;have HBB:=HBB.trans (BN.mono HBB.size)
       refine hK.out _ _ hH (fun _=>?_);clear hK K BN;generalize Wimjg.alloc (bX m Wimj.heap.size Wim.heap.size (P.size+lo.size) lc)=Wimjgl at *;refine rdY (rs:=[13]) ?_;refine aL (o:=gh) ar ar (fun K hK=>?_) ?_
       ·have cb0:=iz0 hCB;have cbf:=free_at (i:=0) hCB;have KN:=ax Wimjgl Wi.heap.size 0 (.pointer (some ⟨Wimjg.heap.size,0,none⟩));have nO:=cu hO hCB aA;have nC:=cu hC hCB aA;have nL:=gq hL hCB hPl1;have nM:=HSB.out _ hBB;go_simp;have hCB:=aM (i:=0) (u:=.pointer (some ⟨Wimjg.heap.size,0,none⟩)) hCB;have hO:=(KN.block _ (aN hO) nO).trans hO;have hC:=(KN.block _ (aN hC) nC).trans hC;have hL:=dv hL KN nL;have hH:=ck5.kept hH KN nM;have HBB:=bA (u:=.pointer (some ⟨Wimjg.heap.size,0,none⟩)) (i:=0) HBB hBB HBB.size;exact fX
       exact rN
      exact rN
     exact rN
    exact rN
   exact rN
  refine aL (o:=iB) ar ar (fun K hK=>?_) ?_
  ·have BN:=aj WD (bR none);have hCB:=hZn WD (bR none);have hBB:WB.heap.size<=WD.heap.size:=HBB.size;go_simp;have hH:=ck5.later hH BN;have HBB:=HBB.trans (BN.mono HBB.size)
   refine hK.out _ _ hH (fun _=>?_);clear hK K BN;generalize WD.alloc (bR none)=Wm at *;refine rdY (rs:=[6,8]) ?_;refine aL (o:=jR) ar ar (fun K hK=>?_) ?_
   ·obtain⟨lc,Wmg,hcv,hseg,BN,hzW⟩:=eD Wm (P++lo) hPl;clear hzW;go_simp;clear hcv;have hL:=hseg;have hLL:WB.heap.size<=Wm.heap.size:=HBB.size;have hCB:=ak BN hCB;have hH:=ck5.later hH BN;have HBB:=HBB.trans (BN.mono HBB.size)
    refine hK.out _ _ hH (fun _=>?_);clear hK K BN;refine rdY (rs:=[8]) ?_;refine aL (o:=rT) ar ar (fun K hK=>?_) ?_
    ·go_simp;refine(se P R).mono ?_;rintro e Wmgi⟨rfl,BN⟩;have hCB:=ak BN hCB;have hL:=bh hL BN;have hH:=ck5.later hH BN;have HBB:=HBB.trans (BN.mono HBB.size)
     refine hK.out _ _ hH (fun _=>?_);clear hK K BN;refine rdY (rs:=[9]) ?_;refine aL (o:=i5) ar ar (fun K hK=>?_) ?_
     ·have BN:=aj Wmgi (cY R);have hO:=hZn Wmgi (cY R);have hOO:WB.heap.size<=Wmgi.heap.size:=HBB.size;go_simp;have hCB:=ak BN hCB;have hL:=bh hL BN;have hH:=ck5.later hH BN;have HBB:=HBB.trans (BN.mono HBB.size)
      refine hK.out _ _ hH (fun _=>?_)
      clear hK K BN;generalize Wmgi.alloc (cY R)=Wmgij at *;refine tkB (i:=10) (oi:=iF) (d:=some 44) ?_;(try simp only[Act.put,sIB,sC0,sCs]);refine rdY (rs:=[11]) ?_
      refine aL (o:=gm) ar ar (fun K hK=>?_) ?_
      ·have BN:=aj Wmgij (bX m Wm.heap.size Wmgi.heap.size (P.size+lo.size) lc);have hC:=hZn Wmgij (bX m Wm.heap.size Wmgi.heap.size (P.size+lo.size) lc);have hCC:WB.heap.size<=Wmgij.heap.size:=HBB.size;go_simp;have hO:=ak BN hO;have hCB:=ak BN hCB;have hL:=bh hL BN;have hH:=ck5.later hH BN;have HBB:=HBB.trans (BN.mono HBB.size)
       refine hK.out _ _ hH (fun _=>?_);clear hK K BN;generalize Wmgij.alloc (bX m Wm.heap.size Wmgi.heap.size (P.size+lo.size) lc)=Wmgijl at *;refine rdY (rs:=[13]) ?_;refine aL (o:=gh) ar ar (fun K hK=>?_) ?_
       ·have cb0:=iz0 hCB;have cbf:=free_at (i:=0) hCB;have KN:=ax Wmgijl WD.heap.size 0 (.pointer (some ⟨Wmgij.heap.size,0,none⟩));have nO:=cu hO hCB aA;have nC:=cu hC hCB aA;have nL:=gq hL hCB hPl1;have nM:=HSB.out _ hBB;go_simp;have hCB:=aM (i:=0) (u:=.pointer (some ⟨Wmgij.heap.size,0,none⟩)) hCB;have hO:=(KN.block _ (aN hO) nO).trans hO;have hC:=(KN.block _ (aN hC) nC).trans hC;have hL:=dv hL KN nL;have hH:=ck5.kept hH KN nM;have HBB:=bA (u:=.pointer (some ⟨Wmgij.heap.size,0,none⟩)) (i:=0) HBB hBB HBB.size;exact fX
       exact rN
      exact rN
     exact rN
    exact rN
   refine aL (o:=rT) ar ar (fun K hK=>?_) ?_
   ·go_simp;refine(se P R).mono ?_;rintro e Wmi⟨rfl,BN⟩;have hCB:=ak BN hCB;have hH:=ck5.later hH BN;have HBB:=HBB.trans (BN.mono HBB.size)
    refine hK.out _ _ hH (fun _=>?_);clear hK K BN;refine rdY (rs:=[6,9]) ?_;refine aL (o:=jR) ar ar (fun K hK=>?_) ?_
    ·obtain⟨lc,Wmig,hcv,hseg,BN,hzW⟩:=eD Wmi (P++lo) hPl;clear hzW;go_simp;clear hcv;have hL:=hseg;have hLL:WB.heap.size<=Wmi.heap.size:=HBB.size;have hCB:=ak BN hCB;have hH:=ck5.later hH BN;have HBB:=HBB.trans (BN.mono HBB.size)
     refine hK.out _ _ hH (fun _=>?_);clear hK K BN;refine rdY (rs:=[9]) ?_;refine aL (o:=i5) ar ar (fun K hK=>?_) ?_
     ·have BN:=aj Wmig (cY R);have hO:=hZn Wmig (cY R);have hOO:WB.heap.size<=Wmig.heap.size:=HBB.size;go_simp;have hCB:=ak BN hCB;have hL:=bh hL BN;have hH:=ck5.later hH BN;have HBB:=HBB.trans (BN.mono HBB.size)
      refine hK.out _ _ hH (fun _=>?_)
      clear hK K BN;generalize Wmig.alloc (cY R)=Wmigj at *;refine tkB (i:=10) (oi:=iF) (d:=some 44) ?_;(try simp only[Act.put,sIB,sC0,sCs]);refine rdY (rs:=[11]) ?_
      refine aL (o:=gm) ar ar (fun K hK=>?_) ?_
      ·have BN:=aj Wmigj (bX m Wmi.heap.size Wmig.heap.size (P.size+lo.size) lc);have hC:=hZn Wmigj (bX m Wmi.heap.size Wmig.heap.size (P.size+lo.size) lc);have hCC:WB.heap.size<=Wmigj.heap.size:=HBB.size;go_simp;have hO:=ak BN hO;have hCB:=ak BN hCB;have hL:=bh hL BN;have hH:=ck5.later hH BN;have HBB:=HBB.trans (BN.mono HBB.size)
       refine hK.out _ _ hH (fun _=>?_);clear hK K BN;generalize Wmigj.alloc (bX m Wmi.heap.size Wmig.heap.size (P.size+lo.size) lc)=Wmigjl at *;refine rdY (rs:=[13]) ?_;refine aL (o:=gh) ar ar (fun K hK=>?_) ?_
       ·have cb0:=iz0 hCB;have cbf:=free_at (i:=0) hCB;have KN:=ax Wmigjl WD.heap.size 0 (.pointer (some ⟨Wmigj.heap.size,0,none⟩));have nO:=cu hO hCB aA;have nC:=cu hC hCB aA;have nL:=gq hL hCB hPl1;have nM:=HSB.out _ hBB;go_simp;have hCB:=aM (i:=0) (u:=.pointer (some ⟨Wmigj.heap.size,0,none⟩)) hCB;have hO:=(KN.block _ (aN hO) nO).trans hO;have hC:=(KN.block _ (aN hC) nC).trans hC;have hL:=dv hL KN nL;have hH:=ck5.kept hH KN nM;have HBB:=bA (u:=.pointer (some ⟨Wmigj.heap.size,0,none⟩)) (i:=0) HBB hBB HBB.size;exact fX
       exact rN
      exact rN
     exact rN
    refine aL (o:=i5) ar ar (fun K hK=>?_) ?_
    ·have BN:=aj Wmi (cY R);have hO:=hZn Wmi (cY R);have hOO:WB.heap.size<=Wmi.heap.size:=HBB.size;go_simp;have hCB:=ak BN hCB;have hH:=ck5.later hH BN;have HBB:=HBB.trans (BN.mono HBB.size)
     refine hK.out _ _ hH (fun _=>?_);clear hK K BN;generalize Wmi.alloc (cY R)=Wmij at *;refine rdY (rs:=[6]) ?_;refine aL (o:=jR) ar ar (fun K hK=>?_) ?_
     ·obtain⟨lc,Wmijg,hcv,hseg,BN,hzW⟩:=eD Wmij (P++lo) hPl;clear hzW;go_simp;clear hcv;have hL:=hseg;have hLL:WB.heap.size<=Wmij.heap.size:=HBB.size;have hO:=ak BN hO;have hCB:=ak BN hCB;have hH:=ck5.later hH BN;have HBB:=HBB.trans (BN.mono HBB.size)
      refine hK.out _ _ hH (fun _=>?_)
      clear hK K BN;refine tkB (i:=10) (oi:=iF) (d:=some 44) ?_;(try simp only[Act.put,sIB,sC0,sCs]);refine rdY (rs:=[11]) ?_
      refine aL (o:=gm) ar ar (fun K hK=>?_) ?_
      ·have BN:=aj Wmijg (bX m Wmij.heap.size Wmi.heap.size (P.size+lo.size) lc);have hC:=hZn Wmijg (bX m Wmij.heap.size Wmi.heap.size (P.size+lo.size) lc);have hCC:WB.heap.size<=Wmijg.heap.size:=HBB.size;go_simp;have hO:=ak BN hO;have hCB:=ak BN hCB;have hL:=bh hL BN;have hH:=ck5.later hH BN;have HBB:=HBB.trans (BN.mono HBB.size)
       refine hK.out _ _ hH (fun _=>?_);clear hK K BN;generalize Wmijg.alloc (bX m Wmij.heap.size Wmi.heap.size (P.size+lo.size) lc)=Wmijgl at *;refine rdY (rs:=[13]) ?_;refine aL (o:=gh) ar ar (fun K hK=>?_) ?_
       ·have cb0:=iz0 hCB;have cbf:=free_at (i:=0) hCB;have KN:=ax Wmijgl WD.heap.size 0 (.pointer (some ⟨Wmijg.heap.size,0,none⟩));have nO:=cu hO hCB aA;have nC:=cu hC hCB aA;have nL:=gq hL hCB hPl1;have nM:=HSB.out _ hBB;go_simp;have hCB:=aM (i:=0) (u:=.pointer (some ⟨Wmijg.heap.size,0,none⟩)) hCB;have hO:=(KN.block _ (aN hO) nO).trans hO;have hC:=(KN.block _ (aN hC) nC).trans hC;have hL:=dv hL KN nL;have hH:=ck5.kept hH KN nM;have HBB:=bA (u:=.pointer (some ⟨Wmijg.heap.size,0,none⟩)) (i:=0) HBB hBB HBB.size;exact fX
       exact rN
      exact rN
     exact rN
    exact rN
   exact rN
  exact rN
 case rest =>
  obtain⟨CB,C,L,O0,lc,rfl,hCB,hC,hO,hL,l1,l2,l3,l4,hb⟩:=hcut;obtain⟨E2,E3,E4,F2,HBB0⟩:=HX.out
  obtain⟨hmn,EN,EL,OW,ox1,ox2,oy1,oy2,oy3,oz⟩:cn=n2/\∃EN EL OW,a1=some ⟨EN,0,none⟩/\a2=some ⟨EL,0,none⟩/\a3=some ⟨OW,0,none⟩/\W0.heap.size<=EN/\W0.heap.size<=EL/\EN≠EL/\RI w2 EN cn (enF (opF xs) cn)/\RI w2 EL cn (elF (opF xs) cn):=by
   rcases HMO.out with ⟨h,_⟩ | ⟨_,_,rfl,A,B,C',q1,q2,q3,q4,_,_,q5,q6,q7,q8,q9,_⟩
   ·rw[hE]at h; exact absurd rfl h
   exact⟨rfl,A,B,C',q5,q6,q7,q1,q2,q4,q8,q9⟩
  subst hmn ox1 ox2 oy1;clear HMO;obtain⟨WX,hWX⟩:∃W,W=wc:=⟨_,rfl⟩;subst hWX;have x11:=iz0 hCB;have y11:WX.cell? ⟨w.heap.size+1,2,none⟩=some (.slice ca cn cc):=(hb.cell (p:=⟨w.heap.size+1,2,none⟩) (by show w.heap.size+1<_; omega)).trans F2;have hH6:ck6 CB (w.heap.size+1) C (.slice ca cn cc) WX:=⟨x11,y11⟩;have HCX:=hid (show C<WX.heap.size from aN hC);have HNX:=hid (show CB≠C/\w.heap.size+1≠C from⟨cu hCB hC aA,ae⟩);have HHC:=hid hC;have H5:=hid (And.intro E2 (And.intro E3 (And.intro E4 (And.intro F2 (And.intro HBB0 (And.intro hCB (And.intro hO (And.intro hL hb))))))));clear E2 E3 E4 F2 HBB0 hO hL hb x11 y11 HX hCB hC;go_wp2_with fail
  go_cut [] from 46 to 59 (fun W=>∃SH FL,WX.heap.size<=SH/\WX.heap.size<=FL/\SH≠FL/\W.heap[SH]? =some (.cells (madeCells #[.string ⟨#[]⟩] cn) 9)/\W.heap[FL]? =some (.cells (madeCells #[.int .i64 0] cn) 3)/\W.heap[C]? =some (.cells #[.slice m.ta m.tn m.tc,.slice m.ha m.hn m.hc,.slice m.ga m.gn m.gc,.int .i64 m.fi,.int .i64 m.mo,.slice m.fa m.fn m.fc,.slice m.da m.dn m.dc,.slice m.ea m.en m.ec,.slice (some ⟨L,0,none⟩) (P.size+lo.size) lc,.slice (some ⟨SH,0,none⟩) cn cn,.slice (some ⟨EN,0,none⟩) cn cn,.slice (some ⟨EL,0,none⟩) cn cn,.slice (some ⟨FL,0,none⟩) cn cn,.int .i64 0,.slice (some ⟨O0,0,none⟩) 1 1,.string ⟨#[]⟩,.int .i64 0,.bool false] 120)/\Kept (fun k=>k=C) WX W)
  case first =>
   have hm1:=run_make_row' (P:=prog) 72 9 (.string ⟨#[]⟩) 16 underlying72 Tryz.infStr rfl .i64 .i64 cn ae ae;have hm2:=run_make_row' (P:=prog) 23 3 (.int .i64 0) 8 underlying23 Tryz.infInts rfl .i64 .i64 cn ae ae;have hC:=HHC.out;have HBX:Below WX.heap.size WX WX.drew:=(Below.refl _ _).drew;have hH:ck6 CB (w.heap.size+1) C (.slice ca cn cc) WX.drew:=hH6;have hC:WX.drew.heap[C]? =_:=hC;refine wp_region_noPanic ?_;refine wp_region_held_drew (S:=ck6 CB (w.heap.size+1) C (.slice ca cn cc)) ar hH (fun hHeld=>?_)
   generalize WX.drew=WD at *;refine tkB (i:=0) (oi:={ dst:=some 46,op:=.load 113 (.tmp 11),type:=113,pos:= "checker.go:28",after:=#[],guard:=none }) (d:=some 46) ?_;(try simp only[Act.put,sIB,sC0,sCs]);refine tkB (i:=1) (oi:={ dst:=some 47,op:=.fieldAddr 61 (.tmp 3) 2,type:=0,pos:= "checker.go:28",after:=#[],guard:=none }) (d:=some 47) ?_;(try simp only[Act.put,sIB,sC0,sCs]);refine tkB (i:=2) (oi:={ dst:=some 48,op:=.load 59 (.tmp 47),type:=59,pos:= "checker.go:28",after:=#[⟨1,.data⟩],guard:=none }) (d:=some 48) ?_;(try simp only[Act.put,sIB,sC0,sCs]);refine tkB (i:=3) (oi:={ dst:=some 49,op:=.call { callee:=.builtin Go.Builtin.len,args:=#[.tmp 48],argTypes:=#[59] },type:=3,pos:= "checker.go:28",after:=#[⟨2,.data⟩],guard:=none }) (d:=some 49) ?_;(try simp only[Act.put,sIB,sC0,sCs]);refine tkB (i:=5) (oi:={ dst:=some 51,op:=.move (.tmp 7),type:=23,pos:= "checker.go:28",after:=#[],guard:=none }) (d:=some 51) ?_;(try simp only[Act.put,sIB,sC0,sCs]);refine tkB (i:=6) (oi:={ dst:=some 52,op:=.move (.tmp 8),type:=23,pos:= "checker.go:28",after:=#[],guard:=none }) (d:=some 52) ?_;(try simp only[Act.put,sIB,sC0,sCs]);refine tkB (i:=7) (oi:={ dst:=some 53,op:=.fieldAddr 61 (.tmp 3) 2,type:=0,pos:= "checker.go:28",after:=#[],guard:=none }) (d:=some 53) ?_;(try simp only[Act.put,sIB,sC0,sCs]);refine tkB (i:=8) (oi:={ dst:=some 54,op:=.load 59 (.tmp 53),type:=59,pos:= "checker.go:28",after:=#[⟨7,.data⟩],guard:=none }) (d:=some 54) ?_;(try simp only[Act.put,sIB,sC0,sCs]);refine tkB (i:=9) (oi:={ dst:=some 55,op:=.call { callee:=.builtin Go.Builtin.len,args:=#[.tmp 54],argTypes:=#[59] },type:=3,pos:= "checker.go:28",after:=#[⟨8,.data⟩],guard:=none }) (d:=some 55) ?_;(try simp only[Act.put,sIB,sC0,sCs]);refine rdY (rs:=[4,10]) ?_
   refine rdA (o:={ dst:=some 50,op:=.makeSlice 72 (.tmp 49) (.tmp 49),type:=72,pos:= "checker.go:28",after:=#[⟨3,.data⟩,⟨3,.data⟩],guard:=none }) (fun K hK=>?_) ?_
   ·have BN:=aj WD (.cells (madeCells #[.string ⟨#[]⟩] cn) 9);have hSH:=hZn WD (.cells (madeCells #[.string ⟨#[]⟩] cn) 9);have hSHl:WX.heap.size<=WD.heap.size:=HBX.size;have hm:=hm1 WD;go_simp;clear hm;have hC:=ak BN hC;have hH:=ck6.later hH BN;have HBX:=HBX.trans (BN.mono HBX.size)
    refine hK.out _ _ hH (fun _=>?_);clear hK K BN;generalize WD.alloc (.cells (madeCells #[.string ⟨#[]⟩] cn) 9)=WA at *;refine rdY (rs:=[10]) ?_
    refine rdA (o:={ dst:=some 56,op:=.makeSlice 23 (.tmp 55) (.tmp 55),type:=23,pos:= "checker.go:28",after:=#[⟨9,.data⟩,⟨9,.data⟩],guard:=none }) (fun K hK=>?_) ?_
    ·have BN:=aj WA (.cells (madeCells #[.int .i64 0] cn) 3);have hFL:=hZn WA (.cells (madeCells #[.int .i64 0] cn) 3);have hFLl:WX.heap.size<=WA.heap.size:=HBX.size;have hm:=hm2 WA;go_simp;clear hm
     have hne:WD.heap.size≠WA.heap.size:=by have:=aN hSH; omega
     have hSH:=ak BN hSH;have hC:=ak BN hC;have hH:=ck6.later hH BN;have HBX:=HBX.trans (BN.mono HBX.size);refine hK.out _ _ hH (fun _=>?_)
     clear hK K BN;generalize WA.alloc (.cells (madeCells #[.int .i64 0] cn) 3)=WE at *;refine tkB (i:=11) (oi:={ dst:=some 57,op:=.build 74 #[(0,.tmp 50),(1,.tmp 51),(2,.tmp 52),(3,.tmp 56)],type:=74,pos:= "checker.go:28",after:=#[⟨4,.data⟩,⟨5,.data⟩,⟨6,.data⟩,⟨10,.data⟩],guard:=none }) (d:=some 57) ?_;(try simp only[Act.put,sIB,sC0,sCs]);refine tkB (i:=12) (oi:={ dst:=some 58,op:=.nilCheck (.tmp 46),type:=0,pos:= "checker.go:28",after:=#[⟨0,.data⟩,⟨0,.phase⟩,⟨1,.phase⟩,⟨2,.phase⟩,⟨3,.phase⟩,⟨4,.phase⟩,⟨5,.phase⟩,⟨6,.phase⟩,⟨7,.phase⟩,⟨8,.phase⟩,⟨9,.phase⟩,⟨10,.phase⟩,⟨11,.phase⟩],guard:=none }) (d:=some 58) ?_;(try simp only[Act.put,sIB,sC0,sCs]);refine tkB (i:=13) (oi:={ dst:=some 59,op:=.fieldAddr 120 (.tmp 58) 2,type:=0,pos:= "checker.go:28",after:=#[⟨12,.data⟩,⟨0,.phase⟩,⟨1,.phase⟩,⟨2,.phase⟩,⟨3,.phase⟩,⟨4,.phase⟩,⟨5,.phase⟩,⟨6,.phase⟩,⟨7,.phase⟩,⟨8,.phase⟩,⟨9,.phase⟩,⟨10,.phase⟩,⟨11,.phase⟩],guard:=none }) (d:=some 59) ?_;(try simp only[Act.put,sIB,sC0,sCs]);refine rdY (rs:=[14]) ?_
     refine rdA (o:={ dst:=none,op:=.store 74 (.tmp 59) (.tmp 57),type:=0,pos:= "checker.go:28",after:=#[⟨13,.data⟩,⟨11,.data⟩,⟨0,.phase⟩,⟨1,.phase⟩,⟨2,.phase⟩,⟨3,.phase⟩,⟨4,.phase⟩,⟨5,.phase⟩,⟨6,.phase⟩,⟨7,.phase⟩,⟨8,.phase⟩,⟨9,.phase⟩,⟨10,.phase⟩,⟨11,.phase⟩],guard:=none }) (fun K hK=>?_) ?_
     ·have K5:=QI WE C (.slice (some ⟨WD.heap.size,0,none⟩) cn cn) (.slice (some ⟨EN,0,none⟩) cn cn) (.slice (some ⟨EL,0,none⟩) cn cn) (.slice (some ⟨WA.heap.size,0,none⟩) cn cn) (.int .i64 0);have c0:=iz9 hC;have f0:=free_at (i:=9) hC;have c1:=iz10 hC;have f1:=free_at (i:=10) hC;have c2:=iz11 hC;have f2:=free_at (i:=11) hC;have c3:=iz12 hC;have f3:=free_at (i:=12) hC;have c4:=iz13 hC;have f4:=free_at (i:=13) hC;go_simp;have hC2:=aM (i:=13) (u:=.int .i64 0) (aM (i:=12) (u:=.slice (some ⟨WA.heap.size,0,none⟩) cn cn) (aM (i:=11) (u:=.slice (some ⟨EL,0,none⟩) cn cn) (aM (i:=10) (u:=.slice (some ⟨EN,0,none⟩) cn cn) (aM (i:=9) (u:=.slice (some ⟨WD.heap.size,0,none⟩) cn cn) hC))))
      have nS:WD.heap.size≠C:=fun e=>xq;have nF:WA.heap.size≠C:=fun e=>xq;exact OA
     exact rN
    exact rN
   refine rdA (o:={ dst:=some 56,op:=.makeSlice 23 (.tmp 55) (.tmp 55),type:=23,pos:= "checker.go:28",after:=#[⟨9,.data⟩,⟨9,.data⟩],guard:=none }) (fun K hK=>?_) ?_
   ·have BN:=aj WD (.cells (madeCells #[.int .i64 0] cn) 3);have hFL:=hZn WD (.cells (madeCells #[.int .i64 0] cn) 3);have hFLl:WX.heap.size<=WD.heap.size:=HBX.size;have hm:=hm2 WD;go_simp;clear hm;have hC:=ak BN hC;have hH:=ck6.later hH BN;have HBX:=HBX.trans (BN.mono HBX.size)
    refine hK.out _ _ hH (fun _=>?_);clear hK K BN;generalize WD.alloc (.cells (madeCells #[.int .i64 0] cn) 3)=WA at *;refine rdY (rs:=[4]) ?_
    refine rdA (o:={ dst:=some 50,op:=.makeSlice 72 (.tmp 49) (.tmp 49),type:=72,pos:= "checker.go:28",after:=#[⟨3,.data⟩,⟨3,.data⟩],guard:=none }) (fun K hK=>?_) ?_
    ·have BN:=aj WA (.cells (madeCells #[.string ⟨#[]⟩] cn) 9);have hSH:=hZn WA (.cells (madeCells #[.string ⟨#[]⟩] cn) 9);have hSHl:WX.heap.size<=WA.heap.size:=HBX.size;have hm:=hm1 WA;go_simp;clear hm
     have hne:WA.heap.size≠WD.heap.size:=by have:=aN hFL; omega
     have hFL:=ak BN hFL;have hC:=ak BN hC;have hH:=ck6.later hH BN;have HBX:=HBX.trans (BN.mono HBX.size);refine hK.out _ _ hH (fun _=>?_)
     clear hK K BN;generalize WA.alloc (.cells (madeCells #[.string ⟨#[]⟩] cn) 9)=WE at *;refine tkB (i:=11) (oi:={ dst:=some 57,op:=.build 74 #[(0,.tmp 50),(1,.tmp 51),(2,.tmp 52),(3,.tmp 56)],type:=74,pos:= "checker.go:28",after:=#[⟨4,.data⟩,⟨5,.data⟩,⟨6,.data⟩,⟨10,.data⟩],guard:=none }) (d:=some 57) ?_;(try simp only[Act.put,sIB,sC0,sCs]);refine tkB (i:=12) (oi:={ dst:=some 58,op:=.nilCheck (.tmp 46),type:=0,pos:= "checker.go:28",after:=#[⟨0,.data⟩,⟨0,.phase⟩,⟨1,.phase⟩,⟨2,.phase⟩,⟨3,.phase⟩,⟨4,.phase⟩,⟨5,.phase⟩,⟨6,.phase⟩,⟨7,.phase⟩,⟨8,.phase⟩,⟨9,.phase⟩,⟨10,.phase⟩,⟨11,.phase⟩],guard:=none }) (d:=some 58) ?_;(try simp only[Act.put,sIB,sC0,sCs]);refine tkB (i:=13) (oi:={ dst:=some 59,op:=.fieldAddr 120 (.tmp 58) 2,type:=0,pos:= "checker.go:28",after:=#[⟨12,.data⟩,⟨0,.phase⟩,⟨1,.phase⟩,⟨2,.phase⟩,⟨3,.phase⟩,⟨4,.phase⟩,⟨5,.phase⟩,⟨6,.phase⟩,⟨7,.phase⟩,⟨8,.phase⟩,⟨9,.phase⟩,⟨10,.phase⟩,⟨11,.phase⟩],guard:=none }) (d:=some 59) ?_;(try simp only[Act.put,sIB,sC0,sCs]);refine rdY (rs:=[14]) ?_
     refine rdA (o:={ dst:=none,op:=.store 74 (.tmp 59) (.tmp 57),type:=0,pos:= "checker.go:28",after:=#[⟨13,.data⟩,⟨11,.data⟩,⟨0,.phase⟩,⟨1,.phase⟩,⟨2,.phase⟩,⟨3,.phase⟩,⟨4,.phase⟩,⟨5,.phase⟩,⟨6,.phase⟩,⟨7,.phase⟩,⟨8,.phase⟩,⟨9,.phase⟩,⟨10,.phase⟩,⟨11,.phase⟩],guard:=none }) (fun K hK=>?_) ?_
     ·have K5:=QI WE C (.slice (some ⟨WA.heap.size,0,none⟩) cn cn) (.slice (some ⟨EN,0,none⟩) cn cn) (.slice (some ⟨EL,0,none⟩) cn cn) (.slice (some ⟨WD.heap.size,0,none⟩) cn cn) (.int .i64 0);have c0:=iz9 hC;have f0:=free_at (i:=9) hC;have c1:=iz10 hC;have f1:=free_at (i:=10) hC;have c2:=iz11 hC;have f2:=free_at (i:=11) hC;have c3:=iz12 hC;have f3:=free_at (i:=12) hC;have c4:=iz13 hC;have f4:=free_at (i:=13) hC;go_simp;have hC2:=aM (i:=13) (u:=.int .i64 0) (aM (i:=12) (u:=.slice (some ⟨WD.heap.size,0,none⟩) cn cn) (aM (i:=11) (u:=.slice (some ⟨EL,0,none⟩) cn cn) (aM (i:=10) (u:=.slice (some ⟨EN,0,none⟩) cn cn) (aM (i:=9) (u:=.slice (some ⟨WA.heap.size,0,none⟩) cn cn) hC))))
      have nS:WA.heap.size≠C:=fun e=>xq;have nF:WD.heap.size≠C:=fun e=>xq;exact OA
     exact rN
    exact rN
   exact rN
  case rest =>
   obtain⟨SH,FL,s1,s2,s3,hSH,hFL,hC,hk6⟩:=hcut;obtain⟨W1,hW1⟩:∃W,W=wc:=⟨_,rfl⟩;subst hW1;obtain⟨E2,E3,E4,F2,HBB0,hCB,hO,hL,hb⟩:=H5.out;have hX1:Below w.heap.size w WX:=HBB0.trans (hb.mono HBB0.size);have hBW:Below w.heap.size w W1:=hX1.trans (hk6.to_below (B:=w.heap.size) hX1.size (fun k hk h=>by have:k=C:=h; omega));have T2:=(hk6.block _ (aN (ak hb E2)) ae).trans (ak hb E2);have T3:=(hk6.block _ (aN (ak hb E3)) ae).trans (ak hb E3);have T4:=(hk6.block _ (aN (ak hb E4)) ae).trans (ak hb E4);have hCB1:=(hk6.block _ (aN hCB) HNX.out.1).trans hCB;have nOC:=cu hO HHC.out aA;have hO1:=(hk6.block _ (aN hO) nOC).trans hO;have nLC:=KC hL (ai HHC.out) (fun z h=>cm);have nLO:=KC hL (ai hO) (fun z h=>cm);have hL1:=dv hL hk6 nLC;have hbO:=aN hO;have hbCB:=aN hCB;have nBO:=cu hCB hO aA;obtain⟨v,hv⟩:∃v:Ev,v=⟨C,SH,FL,O0,EN,EL,cn,mV m,.slice (some ⟨L,0,none⟩) (P.size+lo.size) lc⟩:=⟨_,rfl⟩
   have hCI:CI v W1 W1 (cs0 R cn):=by rw[hv]; exact U6 hC hO1 hSH hFL ae
   have hz1:=hk6.size
   have hA:EvA v W1:=by
    rw[hv];exact⟨aN hC,aN hO1,aN hSH,aN hFL,by show C≠SH; have:=HCX.out; omega,by show C≠FL; have:=HCX.out; omega,fun e=>nOC e.symm,s3,by show SH≠O0; omega,by show FL≠O0; omega⟩
   have hVS:∀k,v.S k->WB.heap.size<=k:=by
    intro k hk;rw[hv]at hk;have:=hb.size
    rcases hk with h | h | h | h <;> (simp only at h; omega)
   have nLL:=seg_lt hL;have hzL:(aC (P++lo)).length=(P++lo).size:=dz _
   have hLS:(aC (P++lo)).length=0\/¬v.S L:=by
    rw[hzL]
    by_cases h0:(P++lo).size=0
    ·exact .inl h0
    right;have n1:=nLC.resolve_left h0;have n2:=nLO.resolve_left h0;have n3:=nLL.resolve_left h0;rw[hv]
    rintro(h | h | h | h) <;> (simp only at h; omega)
   have hM:EvM v W1 m (aC (P++lo)):=HEW.out.evm hBW (fun k hk=>by have:=hVS k hk; have:=HBB0.size; omega) (by rw[hv]) (L:=L) (lc:=lc) (by rw[hv,hzL,ByteArray.size_append]) (by have:=HBB0.size; omega) hLS (by rw[hzL,ByteArray.size_append]; exact hP64) (Qm hL1) HLL.out;have hcn:0<cn:=HGD.out.1;obtain⟨cb,coff,hca,hcd⟩:∃b off,ca=some ⟨b,off,none⟩/\Cod w b off cn xs:=HCD.out.2.resolve_left ae;subst hca;have hcd1:Cod W1 cb coff cn xs:=hcd.later hBW lRn;have hcb:cb<w.heap.size:=hcd.lt hcn;have q2:W1.cell? ⟨w.heap.size+1,2,none⟩=some (.slice (some ⟨cb,coff,none⟩) cn cc):=hk6.cell hH6.2 HNX.out.2;have x1:=iz0 hCB1
   have nVO:∀k,k<WB.heap.size->¬v.S k:=fun k hk h=>by have:=hVS k h; omega
   have nVB:¬v.S CB:=by
    have:=HNX.out.1;rw[hv]
    rintro(h | h | h | h) <;> (simp only at h; omega)
   have kS:∀b,W0.heap.size<=b->b<w2.heap.size->∀f,RI w2 b cn f->RI W1 b cn f:=fun b h1 h2 f h=>((h.kept HKB.out (by show ¬(b=_\/b=_); omega)).kept (aP (S:=fun _=>False) hb) id).kept hk6 (by show ¬(b=C); omega);have rEN:=kS EN oy2 oz.2.1.lt _ oz.2.1;have rEL:=kS EL oy3 oz.2.2.lt _ oz.2.2;have nEL:¬v.S EL:=nVO EL (by have:=oz.2.2.lt; omega);have nEN:¬v.S EN:=nVO EN (by have:=oz.2.1.lt; omega)
   have hmf:∀(fn:Fn)(first cap:AVz)(w:World),(Instr.makeFunc fn first cap).run prog w=.ok (.func fn first cap) w:=fun _ _ _ _=>rfl
   have HV:=hid hv;have nVt:∀i,i<=4->¬v.S (w.heap.size+i):=fun i hi=>nVO _ ae;have ZZ:=hid (And.intro hBW (And.intro T2 (And.intro T3 (And.intro T4 (And.intro x1 (And.intro nVB (And.intro rEN (And.intro rEL (And.intro nEL (And.intro nEN (And.intro nVt (And.intro (nVO cb ae) (And.intro hA (And.intro hM hcb))))))))))))));have HCC:=hid hcd1;have HCW:=hid hcd;have HNV:=hid (show ∀k,k<w.heap.size->¬v.S k from fun k hk=>nVO k ae);have HCI:=hid hCI;have HTN:=hid (show v.n=cn/\v.C=C/\v.EL=EL/\v.EN=EN/\v.SH=SH/\v.FL=FL from by rw[hv]; exact⟨rfl,rfl,rfl,rfl,rfl,rfl⟩);have HBD:=hid (show w.heap.size+5<=SH/\w.heap.size+5<=FL/\SH≠FL/\w.heap.size+5<=EN/\w.heap.size+5<=EL/\EN≠EL/\EN<W1.heap.size/\EL<W1.heap.size/\EN≠FL/\EL≠FL/\CB<W1.heap.size/\w.heap.size+5<=CB/\w.heap.size+5<=C from by have:=oz.2.1.lt; have:=oz.2.2.lt; have:=hb.size; have:=hX1.size; exact⟨ae,ae,s3,ae,ae,oz.1,ae,ae,ae,ae,ae,ae,ae⟩);clear hBW T2 T3 T4 x1 nVB rEN rEL nEL nEN nVt hA hM hcd hcd1 hCI kS nVO hVS hLS nLL nLC nLO hL hL1 hC hO hO1 hSH hFL hCB hCB1 E2 E3 E4 F2 HBB0 hb hk6 H5 hH6 HHC HNX HCX hX1 oz oy2 oy3 l1 l2 l3 l4 s1 s2 s3 nOC nBO hbO hbCB hzL HEW HLL HCD hz1 hv HKB HKA hH0 e3 g3 e4 g4 HB pt htn;go_wp2_with fail
   go_loopw [64] (fun i wr=>∃j:Nat,j<=cn/\i=.int .i64 j/\(∀q,q<j->erA m (aC (P++lo)) xs R cn q=0)/\(j<cn->Iv3 (opF xs) cn j (stA m (aC (P++lo)) xs R cn j))/\CI v W1 wr (stA m (aC (P++lo)) xs R cn j)) (fun i _=>cn-(intOf i).toNat)
   case atStart=>exact⟨0,Nat.zero_le _,rfl,fun q h=>absurd h (Nat.not_lt_zero _),fun h=>Ug hR8 h,HCI.out⟩
   case round =>
    obtain⟨j,hj,rfl,hz0,hiv,hci⟩:=hrel;obtain⟨hBW,T2,T3,T4,x1,nVB,rEN,rEL,nEL,nEN,nVt,ncb,hA,hM,hcb⟩:=ZZ.out;obtain⟨tn,tC,tEL,tEN,tSH,tFL⟩:=HTN.out;have hsz:=hci.kept.size
    by_cases hlt:j<cn
    ·have hin:=HCC.out.2 j hlt;have i0:=hci.kept.cell hin.1 ncb;have i1:=hci.kept.cell hin.2.1 ncb;have i2:=hci.kept.cell hin.2.2.1 ncb;have b1:=hci.kept.cell x1 nVB
     have HVA:=hid (fun(W:World) (hW:CI v W1 W (fP (stA m (aC (P++lo)) xs R cn j) j))=>VA hA hM tn ae HGD.out hlt (hiv hlt) hW hin.2.2.2.1 hin.2.2.2.2.1 (fun h=>⟨hin.2.2.2.2.2.2.2.2 (HBR.out j hlt).1,(HBR.out j hlt).2 h⟩)
      (fun b off hla hln=>by
       rcases ((HCW.out.2 j hlt).2.2.2.2.2.2.2.2 (HBR.out j hlt).1).2.2.2.2 with h0 | ⟨b',off',e,hcc⟩
       ·exact absurd h0 hln
       rw[hla]at e; cases e
       exact HNV.out _ (block_lt_of_cell (hcc 0 ae))) (by rw[tEL]; exact rEL) (by rw[tEL]; exact nEL))
     have HI2:=hid (fun(he:erA m (aC (P++lo)) xs R cn j=0) (h:j+1<cn)=>Fz hM HGD.out hin.2.2.2.1 hin.2.2.2.2.1 h (hiv hlt) he);rw[tC]at HVA;have c16:=hci.pc;have f16:=hci.free 16;rw[tC]at c16 f16;have hj0:(0:Int)<=(j:Int):=ae;have hj1:(j:Int)<(cn:Int):=ae;have HCI2:=hid hci;have HZ0:=hid hz0
     have hCBl:CB<wr.heap.size:=by have:=HBD.out; omega
     have hCl:C<wr.heap.size:=block_lt_of_cell c16
     have hcbl:cb<wr.heap.size:=by have:=HBD.out; omega
     clear hBW T2 T3 T4 x1 nVB rEN rEL nEL nEN nVt ncb hA hM hiv hci hz0 hin;generalize hEq:erA m (aC (P++lo)) xs R cn j=E at *;generalize hSq:stA m (aC (P++lo)) xs R cn (j+1)=S' at *;generalize (stA m (aC (P++lo)) xs R cn j).pc=pc0 at *;generalize xs.getD j dx=x at *;have HES:=hid (And.intro hEq hSq);clear hEq hSq;go_wp2_with fail;have hA:=ZZ.out.2.2.2.2.2.2.2.2.2.2.2.2.1;have hW3:=(HCI2.out.putPc hA j).later hA (aj _ (aV x.c x.a x.la x.ln x.lc));rw[tC]at hW3;refine(HVA.out _ hW3).mono ?_;rintro e w3 (⟨hE0,rfl,hci3⟩ | ⟨hE1,rfl,hbad⟩)
     ·have HC3:=hid hci3;have HE0:=hid hE0;clear hci3 hE0 hW3 i0 i1 i2 b1 c16 f16 HVA hA;go_wp2_with fail;obtain⟨hEq,hSq⟩:=HES.out
      exact⟨⟨j+1,ae,bH,fun q hq=>by
       by_cases hqj:q=j
       ·rw[hqj,hEq]; exact HE0.out
       exact HZ0.out q ae,fun h=>by rw[hSq]; exact HI2.out HE0.out h,by rw[hSq]; exact HC3.out⟩,bI⟩
     obtain⟨hBW,T2,T3,T4,x1,nVB,rEN,rEL,nEL,nEN,nVt,ncb,hA,hM,hcb⟩:=ZZ.out;obtain⟨hEq,hSq⟩:=HES.out;have hq1:=hbad.kept.cell x1 nVB;have hp1:=hbad.pc;rw[tC]at hp1;have t2:=(hbad.kept.block _ (aN T2) (nVt 2 ae)).trans T2;have t3:=(hbad.kept.block _ (aN T3) (nVt 3 ae)).trans T3;have t4:=(hbad.kept.block _ (aN T4) (nVt 4 ae)).trans T4;have hbd:=HBD.out;have HC:=hid (Py (w:=w3) E hE1 hq1 hp1 t2 t3 t4 ae ae ae ae ae ae ae ae ae);have hB3:Below w.heap.size w w3:=hBW.trans (hbad.kept.to_below (B:=w.heap.size) hBW.size (fun k hk h=>HNV.out k hk h));refine leaves_cons (f:=61) (args:=#[.pointer (some ⟨CB,0,none⟩),.pointer (some ⟨w.heap.size+1+1,0,none⟩),.pointer (some ⟨w.heap.size+1+1+1,0,none⟩),.pointer (some ⟨w.heap.size+1+1+1+1,0,none⟩)]) aw aG ?_;refine HC.out.mono ?_;rintro e u' w10 ⟨rfl,rfl,q1,q2,q3,q4⟩;have hB10:Below w.heap.size w w10:=hB3.trans (q4.to_below (B:=w.heap.size) hB3.size (fun k hk h=>ae));refine(show Go.Leaves prog Tryz.f35 _ _ [] FrameMode.returning w10 from⟨.tuple #[.agg zT,.int .i64 E,.int .i64 j],?_,hB10,.inl ⟨j,hlt,HZ0.out,?_,?_⟩⟩)
     ·have c0:=iz0 q1;have c1:=iz1 q1;have c2:=iz2 q1;have c3:=iz3 q1;have c4:=iz4 q1
      simp[results,results35,go_sem,c0,c1,c2,c3,c4,q2,q3,zT]
     ·rw[hEq]; exact hE1
     rw[hEq]
    obtain rfl:cn=j:=ae;have b1:=hci.kept.cell x1 nVB;have d9:=hci.shc;rw[tC,tSH,tn]at d9;have d10:=hci.enc;rw[tC,tEN,tn]at d10;have d11:=hci.elc;rw[tC,tEL,tn]at d11;have d12:=hci.flc;rw[tC,tFL,tn]at d12;have d13:=hci.hi;rw[tC]at d13;have t2:=(hci.kept.block _ (aN T2) (nVt 2 ae)).trans T2;have t3:=(hci.kept.block _ (aN T3) (nVt 3 ae)).trans T3;have t4:=(hci.kept.block _ (aN T4) (nVt 4 ae)).trans T4;have a0:=iz0 t2;have f0:=free_at (i:=0) t2;have a1:=iz1 t2;have f1:=free_at (i:=1) t2;have a2:=iz2 t2;have f2:=free_at (i:=2) t2;have a3:=iz3 t2;have f3:=free_at (i:=3) t2;have a4:=iz4 t2;have f4:=free_at (i:=4) t2;have e0:=iz0 t3;have fe:=free_at (i:=0) t3;have p0:=iz0 t4;have fp:=free_at (i:=0) t4;have hBr:Below w.heap.size w wr:=hBW.trans (hci.kept.to_below (B:=w.heap.size) hBW.size (fun k hk h=>HNV.out k hk h))
    have r1:Row wr 9 SH cn cn ((stA m (aC (P++lo)) xs R cn cn).sh.map Value.string):=by have:=hci.sh; rw[tSH,tn]at this; exact this
    have r2:RI wr FL cn (stA m (aC (P++lo)) xs R cn cn).fl:=by have:=hci.fl; rw[tFL,tn]at this; exact this
    have r3:=rEN.kept hci.kept nEN;have r4:=rEL.kept hci.kept nEL;have HQ:=hid (And.intro t2 (And.intro t3 (And.intro t4 (And.intro hBr (And.intro r1 (And.intro r2 (And.intro r3 (And.intro r4 hz0))))))));clear hBW T2 T3 T4 x1 nVB rEN rEL nEL nEN nVt ncb hA hM hci hz0 hiv t2 t3 t4 hBr r1 r2 r3 r4;generalize hhi:(stA m (aC (P++lo)) xs R cn cn).hi=hi at d13;have HHI:=hid hhi;clear hhi;go_wp2_with fail;obtain⟨t2,t3,t4,hBr,r1,r2,r3,r4,hz0⟩:=HQ.out;obtain⟨z2,z3,z4,zk⟩:=QA (.slice (some ⟨SH,0,none⟩) cn cn) (.slice (some ⟨EN,0,none⟩) cn cn) (.slice (some ⟨EL,0,none⟩) cn cn) (.slice (some ⟨FL,0,none⟩) cn cn) (.int .i64 hi) (.int .i64 0) (.int .i64 0) t2 t3 t4 ae ae ae;have hbd:=HBD.out;refine leaves_cons (f:=61) (args:=#[.pointer (some ⟨CB,0,none⟩),.pointer (some ⟨w.heap.size+1+1,0,none⟩),.pointer (some ⟨w.heap.size+1+1+1,0,none⟩),.pointer (some ⟨w.heap.size+1+1+1+1,0,none⟩)]) aw aG ?_;refine Q8.mono ?_;rintro e u' w10 ⟨rfl,rfl,hb10⟩;refine(show Go.Leaves prog Tryz.f35 _ _ [] FrameMode.returning w10 from⟨_,QW (ak hb10 z2) (ak hb10 z3) (ak hb10 z4) rfl rfl rfl,(hBr.trans (zk.to_below (B:=w.heap.size) hBr.size (fun k hk h=>ae))).trans (hb10.mono (Nat.le_trans hBr.size zk.size)),.inr ⟨hz0,SH,EN,EL,FL,ae,ae,ae,ae,hbd.2.2.1,hbd.2.2.2.2.2.1,hbd.2.2.2.2.2.2.2.2.1,hbd.2.2.2.2.2.2.2.2.2.1,by rw[HHI.out],?_,?_,?_,?_⟩⟩)
    ·exact(r1.kept zk (by show ¬(SH=_\/SH=_\/SH=_); omega)).kept (aP (S:=fun _=>False) hb10) id
    ·exact(r3.kept zk (by show ¬(EN=_\/EN=_\/EN=_); omega)).kept (aP (S:=fun _=>False) hb10) id
    ·exact(r4.kept zk (by show ¬(EL=_\/EL=_\/EL=_); omega)).kept (aP (S:=fun _=>False) hb10) id
    exact(r2.kept zk (by show ¬(FL=_\/FL=_\/FL=_); omega)).kept (aP (S:=fun _=>False) hb10) id
end
end Go.Proofs.YtepcmfegggdjfaaGreatDoor

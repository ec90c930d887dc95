/-
  Texts Vn Vp Vq Vr Vs Vt Vu Vv Vw Wy Vy.
-/
import Derived.Test.YtepcmfegggdjfaaGreatDoorM00
import Derived.Test.YtepcmfegggdjfaaGreatDoorM01
import Derived.Test.YtepcmfegggdjfaaGreatDoorM07
set_option linter.unusedVariables false
set_option maxRecDepth 100000
set_option maxHeartbeats 16000000
namespace Go.Proofs.YtepcmfegggdjfaaGreatDoor
open Go.Proofs.Tryz
open Go.RowKit
section
variable {v:Ev} {w1 w:World} {s:Cs} {m:MM} {lo:LIz}
variable {G OB n oc sz:Nat}{a:AVz}{t e:TypeId}{xs:List Value}
theorem RG{w:World}(hG:w.heap[G]? =some (.cells a t))(h:w.ownsRow 0 e sz (.slice (some ⟨OB,0,none⟩) n oc) n xs)(he:t≠e):G≠OB:=by
 rintro rfl
 rcases h.2 with ⟨e1,_⟩ | ⟨g,cap,cur,e1,h4,h5,h6⟩
 ·cases e1
 cases e1
 rw[hG]at h5;simp at h5;exact he h5.2
variable {b:Nat}{o:Obj}
theorem aN{w:World}(h:w.heap[b]? =some o):b<w.heap.size:=by
 exact FP
theorem ak{w w':World}(hb:Below w.heap.size w w')(h:w.heap[b]? =some o):w'.heap[b]? =some o:=(hb.block b (aN h)).trans h
abbrev emS(C G X:Nat)(P R:BAz)(c pc:Int)(W:World):Prop :=
 W.cell? ⟨G,0,none⟩=some (.string P)/\W.cell? ⟨G,1,none⟩=some (.string R)/\W.cell? ⟨X,0,none⟩=some (.int .u8 c)/\W.cell? ⟨C,16,none⟩=some (.int .i64 pc)
variable {C X:Nat}{P R:BAz}{W W':World}
theorem emS.later{c pc:Int}(h:emS C G X P R c pc W)(hb:Below W.heap.size W W'):emS C G X P R c pc W' :=
 ⟨ag hb h.1,ag hb h.2.1,ag hb h.2.2.1,ag hb h.2.2.2⟩
theorem emS.kept{c pc:Int}(h:emS C G X P R c pc W)(hb:Kept (fun k=>k=OB) W W')(h1:C≠OB)(h2:G≠OB)(h3:X≠OB):emS C G X P R c pc W' :=
 ⟨hb.cell h.1 h2,hb.cell h.2.1 h2,hb.cell h.2.2.1 h3,hb.cell h.2.2.2 h1⟩
variable {u:Value}
theorem emS.put{c pc:Int}(h:emS C G X P R c pc W)(h2:G≠C)(h3:X≠C):emS C G X P R c pc (W.setCell ⟨C,14,none⟩ u) :=
 ⟨aU h.1 h2,aU h.2.1 h2,aU h.2.2.1 h3,by rw[World.cell?_setCell_other _ _ _ _ aw]; exact h.2.2.2⟩
variable {z c:Int}
theorem lA(hA:EvA v w1)(hM:EvM v w1 m lo)(h:CI v w1 w s)(L:Value)(tk:BAz)(hz:z<0\/(m.tn:Int)<=z) :
  Calls prog 119 #[.pointer (some ⟨v.C,0,none⟩),.agg #[.int .u8 c,.int .i64 z,L],.string tk] w fun e w'=>e=thv 30/\Bad v w1 s.pc w':=by
 have BW:=aj w (au c z L);have x0:(w.alloc (au c z L)).cell? ⟨w.heap.size,0,none⟩=some (.int .u8 c):=aG;have x1:(w.alloc (au c z L)).cell? ⟨w.heap.size,1,none⟩=some (.int .i64 z):=aG;obtain⟨c0,c1,c2,c5⟩:=h.mc;rw[hM.mv]at c0
 change w.cell? ⟨v.C,0,none⟩=some (.slice m.ta m.tn m.tc) at c0
 have HF:=hid (fun W=>CO (w:=W) (a:=m.ta) (cap:=m.tc) hz (by have:=hM.t64; omega));have d0:=ag BW c0;have HB:=hid BW;have HC:=hid h;clear h c0 c1 c2 c5 BW;go_enter func119,ntmps119
 go_wp2_with fail;generalize w.alloc (au c z L)=W0 at *
 refine wp_region_held_drew (S:=loS v.C w.heap.size 0 (.slice m.ta m.tn m.tc) c z w) ar ⟨d0,x0,x1,HB.out.drew⟩ (fun hHeld=>?_)
 refine tkC (i:=0) rfl ?_;(try simp only[Act.put,sIB]);refine tkC (i:=1) rfl ?_;(try simp only[Act.put]);refine tkC (i:=2) rfl ?_;(try simp only[Act.put]);refine tkC (i:=3) rfl ?_;(try simp only[Act.put]);refine tkC (i:=4) rfl ?_;(try simp only[Act.put]);refine tkC (i:=5) rfl ?_;(try simp only[Act.put]);refine tkC (i:=6) rfl ?_;(try simp only[Act.put]);refine rdY (rs:=[7,8]) ?_
 refine AllReadyH.cons rfl (fun K hK=>?_) (AllReadyH.cons rfl (fun K hK=>?_) rN)
 ·go_simp;refine(HF.out _).mono ?_;rintro e w5⟨rfl,hb⟩;exact⟨rfl,rfl,(HC.out.later hA (hHeld.2.2.2.trans (hb.mono hHeld.2.2.2.size))).bad⟩
 go_simp;have BN:=(aj W0 (aO ⟨#[]⟩ ⟨#[]⟩)).drew;have hS5:=loS.later (W:=W0) ⟨d0,x0,x1,HB.out⟩ BN;refine hK.out _ _ hS5 (fun hHeld2=>?_);clear hK K;generalize (W0.alloc (aO ⟨#[]⟩ ⟨#[]⟩)).drew=W1 at *;refine rdY (rs:=[7]) ?_;refine AllReadyH.cons rfl (fun K hK=>?_) rN;go_simp;refine(HF.out _).mono ?_;rintro e w5⟨rfl,hb⟩;exact⟨rfl,rfl,(HC.out.later hA (hS5.2.2.2.trans (hb.mono hS5.2.2.2.size))).bad⟩
def um(s:Cs)(tk P:BAz):ByteArray:=(s.st.extract 0 (s.st.size-tk.size)).extract 0 ((s.st.extract 0 (s.st.size-tk.size)).size-P.size)
def iY(s:Cs)(c:Int)(tk P R:BAz):Cs:={ s with st:=s.st.extract 0 (s.st.size-tk.size),fl:=fun i=>if i=s.pc then ((um s tk P).size:Int) else s.fl i,op:=s.op++[⟨P,R,um s tk P,c,s.pc⟩] }
variable {k q:Nat}{o:Opn}
theorem tU(hA:EvA v w1)(hM:EvM v w1 m lo)(h:CI v w1 w s)(hw:CW s k o)(L:Value)(tk:BAz)(htk:tk.size<=1)(hP:m.types[q]? =some (P,R))(hc0:0<=c)(hc1:c<=255)(hpn:s.pc<v.n)(hn:v.n<=1000000)(hk:k<63) :
  Calls prog 119 #[.pointer (some ⟨v.C,0,none⟩),.agg #[.int .u8 c,.int .i64 q,L],.string tk] w fun e w' =>
   (orE (bQ s o (P++tk)) (bQ s o tk)=0/\e=.returned ml/\CI v w1 w' (iY s c tk P R))\/(orE (bQ s o (P++tk)) (bQ s o tk)≠0/\e=thv (orE (bQ s o (P++tk)) (bQ s o tk))/\Bad v w1 s.pc w'):=by
 have BW:=aj w (au c q L);have x0:(w.alloc (au c q L)).cell? ⟨w.heap.size,0,none⟩=some (.int .u8 c):=aG;have x1:(w.alloc (au c q L)).cell? ⟨w.heap.size,1,none⟩=some (.int .i64 q):=aG;obtain⟨c0,c1,c2,c5⟩:=h.mc;rw[hM.mv]at c0
 change w.cell? ⟨v.C,0,none⟩=some (.slice m.ta m.tn m.tc) at c0
 have pt:=hM.pt.kept h.kept hM.tS;have hqn:q<m.tn:=xB
 obtain⟨tb,toff,hta,htc⟩:∃b off,m.ta=some ⟨b,off,none⟩/\∀(j:Nat)x,m.types[j]? =some x->w.cell? ⟨b,off+j*2,none⟩=some (.string x.1)/\w.cell? ⟨b,off+j*2+1,none⟩=some (.string x.2):=by
  exact qO
 obtain⟨t0,t1⟩:=htc q _ hP;simp only at t0 t1;have h8:=hM.tL _ (List.mem_of_getElem? hP);simp only at h8;have HF:=hid (fun W (hb:Below w.heap.size w W)=>zy (w:=W) (cap:=m.tc) hqn (by have:=hM.t64; omega) (ag hb t0) (ag hb t1));rw[hta]at c0;have d0:=ag BW c0;have HB:=hid BW;have HC:=hid h;have hCl:v.C<w.heap.size:=block_lt_of_cell c0;clear h c0 c1 c2 c5 BW t0 t1 htc pt hP;obtain⟨E,hE⟩:∃E,orE (bQ s o (P++tk)) (bQ s o tk)=E:=⟨_,rfl⟩;rw[hE];have HE:=hid hE;clear hE;go_enter func119,ntmps119
 go_wp2_with fail;generalize w.alloc (au c q L)=W0 at *
 go_cut [6] from 8 to 15 (fun g wx=>∃G,g=.pointer (some ⟨G,0,none⟩)/\w.heap.size<G/\wx.heap[G]? =some (aO P R)/\wx.cell? ⟨w.heap.size,0,none⟩=some (.int .u8 c)/\Below w.heap.size w wx)
 case first =>
  refine wp_region_held_drew (S:=loS v.C w.heap.size 0 (.slice (some ⟨tb,toff,none⟩) m.tn m.tc) c q w) ar ⟨d0,x0,x1,HB.out.drew⟩ (fun hHeld=>?_)
  refine tkC (i:=0) rfl ?_;(try simp only[Act.put,sIB]);refine tkC (i:=1) rfl ?_;(try simp only[Act.put]);refine tkC (i:=2) rfl ?_;(try simp only[Act.put]);refine tkC (i:=3) rfl ?_;(try simp only[Act.put]);refine tkC (i:=4) rfl ?_;(try simp only[Act.put]);refine tkC (i:=5) rfl ?_;(try simp only[Act.put]);refine tkC (i:=6) rfl ?_;(try simp only[Act.put]);refine rdY (rs:=[7,8]) ?_
  refine AllReadyH.cons rfl (fun K hK=>?_) (AllReadyH.cons rfl (fun K hK=>?_) rN)
  ·go_simp;refine(HF.out _ hHeld.2.2.2).mono ?_;rintro e w5⟨rfl,hb5⟩;have hS5:=loS.later hHeld hb5
   refine hK.out _ _ hS5 (fun hHeld2=>?_);clear hK K hb5;refine rdY (rs:=[8]) ?_;refine AllReadyH.cons rfl (fun K hK=>?_) rN;go_simp;refine hK.out _ _ (hS5.later (aj _ _)) (fun hHeld3=>?_);clear hK K;refine rdY (rs:=[9]) ?_;refine AllReadyH.cons rfl (fun K hK=>?_) rN;go_simp;have BN:=aj w5 (aO P R);have hS:=hS5.later BN;refine hK.out _ _ hS (fun hHeld4=>?_);clear hK K;refine wpAnyH_done ar ?_ _;have hlt:w.heap.size<w5.heap.size:=block_lt_of_cell hS5.2.1;have gB:(w5.alloc (aO P R)).heap[w5.heap.size]? =some (aO P R):=hZn w5 _;go_wp2_with fail
   go_meet
   exact⟨_,rfl,hlt,gB,hS.2.1,hS.2.2.2⟩
  go_simp;have BN:=(aj W0 (aO ⟨#[]⟩ ⟨#[]⟩)).drew;have hS5:=loS.later (W:=W0) ⟨d0,x0,x1,HB.out⟩ BN;have g0:((W0.alloc (aO ⟨#[]⟩ ⟨#[]⟩)).drew).cell? ⟨W0.heap.size,0,none⟩=some (.string ⟨#[]⟩):=aG;have g1:((W0.alloc (aO ⟨#[]⟩ ⟨#[]⟩)).drew).cell? ⟨W0.heap.size,1,none⟩=some (.string ⟨#[]⟩):=aG;have q0:((W0.alloc (aO ⟨#[]⟩ ⟨#[]⟩)).drew).frozen? ⟨W0.heap.size,0,none⟩=false:=aG;have q1:((W0.alloc (aO ⟨#[]⟩ ⟨#[]⟩)).drew).frozen? ⟨W0.heap.size,1,none⟩=false:=aG;have hlt:w.heap.size<W0.heap.size:=block_lt_of_cell x0;have gB0:((W0.alloc (aO ⟨#[]⟩ ⟨#[]⟩)).drew).heap[W0.heap.size]? =some (aO ⟨#[]⟩ ⟨#[]⟩):=hZn W0 _;refine hK.out _ _ hS5 (fun hHeld2=>?_);clear hK K;generalize (W0.alloc (aO ⟨#[]⟩ ⟨#[]⟩)).drew=W1 at *;refine rdY (rs:=[7]) ?_;refine AllReadyH.cons rfl (fun K hK=>?_) rN;go_simp;refine(HF.out _ hS5.2.2.2).mono ?_;rintro e w5⟨rfl,hb5⟩;have hS6:=loS.later hS5 hb5;have r0:=ag hb5 g0;have r1:=ag hb5 g1;have t0:=aH hb5 g0 q0;have t1:=aH hb5 g1 q1;have rB:=ak hb5 gB0;refine hK.out _ _ hS6 (fun hHeld3=>?_);clear hK K hb5 g0 g1 q0 q1;generalize W0.heap.size=G at *;refine rdY (rs:=[9]) ?_;refine AllReadyH.cons rfl (fun K hK=>?_) rN;go_simp;have hS:=(hS6.putG (g:=G) (j:=0) (u:=.string P) ae ae ae).putG (g:=G) (j:=1) (u:=.string R) ae ae ae;refine hK.out _ _ hS (fun hHeld4=>?_);clear hK K;refine wpAnyH_done ar ?_ _;have gB:=aM (i:=1) (u:=.string R) (aM (i:=0) (u:=.string P) rB);go_wp2_with fail
  go_meet
  exact⟨_,rfl,hlt,gB,hS.2.1,hS.2.2.2⟩
 case rest =>
  obtain⟨G,rfl,hG,gB,gx,hb⟩:=hcut;have g0:=iz0 gB;have g1:=iz1 gB;have HC2:=hid (HC.out.later hA hb);have HB2:=hid hb;have hPt:(P++tk).size<=1000000:=aK;have HK1:=hid (oQ hA HC2.out hw (P++tk) hPt);clear HF HB d0 x0 x1 hb;go_wp2_with fail;refine HK1.out.mono ?_;rintro e w3 (⟨h0,rfl,hb⟩ | ⟨h0,rfl,hb⟩);rotate_left
  ·have hE:E=bQ s o (P++tk):=by rw[<- HE.out]; simp[orE,h0]
   exact⟨rfl,.inr ⟨mH,by rw[hE]; rfl,(HC2.out.later hA hb).bad⟩⟩
  have hE:E=bQ s o tk:=by rw[<- HE.out]; simp[orE,h0]
  have HC3:=hid (HC2.out.later hA hb);have y0:=ag hb g0;have y1:=ag hb g1;have yx:=ag hb gx;have yB:=ak hb gB;have HB3:=hid (HB2.out.trans (hb.mono HB2.out.size));have hG3:G<w3.heap.size:=block_lt_of_cell y0;have HK2:=hid (xx hA HC3.out hw tk ae);have hle:=xt h0;clear g0 g1 gx gB hb HK1 HC2 HB2;go_wp2_with fail;refine HK2.out.mono ?_;rintro e w4 (⟨h1,rfl,hc4,hk4⟩ | ⟨h1,rfl,hb⟩);rotate_left
  ·exact⟨rfl,.inr ⟨by rw[hE]; exact h1,by rw[hE]; rfl,hb⟩⟩
  have hE0:E=0:=hE.trans h1;subst hE0;have z0:=hk4.cell y0 ye;have z1:=hk4.cell y1 ye;have zx:=hk4.cell yx ye;have zB:=(hk4.block G hG3 ye).trans yB;have HC4:=hid hc4;have HB4:=hid hk4;clear y0 y1 yx yB HK2 hE HE hc4 hk4;have c15:=HC4.out.st;have hst:(cN s tk).st=s.st.extract 0 (s.st.size-tk.size):=rfl
  have hPs:P.size<=(s.st.extract 0 (s.st.size-tk.size)).size:=by
   simp at hle ⊢;omega
  have hbs:(s.st.extract 0 (s.st.size-tk.size)).size<=1000000:=by
   have:=hw.big;simp;omega
  have hBe:um s tk P=(s.st.extract 0 (s.st.size-tk.size)).extract 0 ((s.st.extract 0 (s.st.size-tk.size)).size-P.size):=rfl;rw[hst]at c15;obtain⟨T,hT⟩:∃T,s.st.extract 0 (s.st.size-tk.size)=T:=⟨_,rfl⟩;rw[hT]at c15 hPs hbs hBe;obtain⟨d,hd⟩:∃d,T.size-P.size=d:=⟨_,rfl⟩;rw[hd]at hBe;have hd1:(0:Int)<=(d:Int):=ae;have hd2:(d:Int)<=(T.size:Int):=ae
  have hsub2:IntKind.i64.wrap ((T.size:Int)-(P.size:Int))=(d:Int):=by
   exact qN
  go_wp2_with fail
  go_quiet (fail)
  have HCq:=hid (HC4.out.later hA (below_drewN w4 nq));have r0:=ag (below_drewN w4 nq) z0;have r1:=ag (below_drewN w4 nq) z1;have rx:=ag (below_drewN w4 nq) zx;have rB:=ak (below_drewN w4 nq) zB;clear z0 z1 zx zB c15;rw[<- hBe];generalize w4.drewN nq=w5 at *;have c12:=HCq.out.flc;have c16:=HCq.out.pc;have cfl:=HCq.out.fl.cell s.pc hpn;have ffl:=HCq.out.fl.free s.pc;have c16':w5.cell? ⟨v.C,16,none⟩=some (.int .i64 s.pc):=c16;have p0:(0:Int)<=(s.pc:Int):=ae;have p1:(s.pc:Int)<(v.n:Int):=ae;clear c16
  have hBs:(um s tk P).size<=1000000:=by rw[hBe]; simp; omega
  obtain⟨B,hB⟩:∃B,um s tk P=B:=⟨_,rfl⟩;have HBq:=hid hB;rw[hB]at hBs ⊢;clear hBe hB;go_wp2_with fail
  go_region
  have HC6:=hid ((HCq.out.putFl hA s.pc B.size).later hA (below_drewN _ 1))
  have hGF:G≠v.FL:=by have:=hA.f; have:=HC.out.kept.size; omega
  have hXF:w.heap.size≠v.FL:=by have:=hA.f; have:=HC.out.kept.size; omega
  have s0:=ag (below_drewN _ 1) (aU (i:=s.pc) (x:=.int .i64 B.size) r0 hGF);have s1:=ag (below_drewN _ 1) (aU (i:=s.pc) (x:=.int .i64 B.size) r1 hGF);have sx:=ag (below_drewN _ 1) (aU (i:=s.pc) (x:=.int .i64 B.size) rx hXF);have sB:=ak (below_drewN _ 1) (((ax w5 v.FL s.pc (.int .i64 B.size)).block G (aN rB) hGF).trans rB);clear r0 r1 rx rB c12 cfl ffl c16';have HC6:=hid (show CI v w1 (w5.setCell ⟨v.FL,s.pc,none⟩ (.int .i64 B.size)).drew _ from HC6.out)
  change (w5.setCell ⟨v.FL,s.pc,none⟩ (.int .i64 B.size)).drew.cell? _=_ at s0 s1 sx
  change (w5.setCell ⟨v.FL,s.pc,none⟩ (.int .i64 B.size)).drew.heap[G]? =_ at sB
  have hG6:G<(w5.setCell ⟨v.FL,s.pc,none⟩ (.int .i64 B.size)).drew.heap.size:=block_lt_of_cell s0;go_wp2_with fail;generalize (w5.setCell ⟨v.FL,s.pc,none⟩ (.int .i64 B.size)).drew=w6 at *;have HFin:=hid (show iY s c tk P R={ (cN s tk) with fl:=(fun i=>if i=s.pc then (B.size:Int) else (cN s tk).fl i),op:=(cN s tk).op++[⟨P,R,B,c,s.pc⟩] } by rw[<- HBq.out]; rfl);obtain⟨s6,hs6⟩:∃s6,({ cN s tk with fl:=fun i=>if i=s.pc then (B.size:Int) else (cN s tk).fl i }:Cs)=s6:=⟨_,rfl⟩;rw[hs6]at HC6
  have hop6:s6.op=s.op:=by rw[<- hs6]; rfl
  have hpc6:s6.pc=s.pc:=by rw[<- hs6]; rfl
  have hl6:s6.op.length=k+1:=by rw[hop6]; exact hw.len
  obtain⟨OB,oc,h14,hrow,hOB⟩:∃OB oc,w6.cell? ⟨v.C,14,none⟩=some (.slice (some ⟨OB,0,none⟩) s6.op.length oc)/\w6.ownsRow 0 116 5 (.slice (some ⟨OB,0,none⟩) s6.op.length oc) s6.op.length (opV s6.op)/\(OB=v.O0\/w1.heap.size<=OB):=by
   obtain⟨OB,oc,u1,u2,u3⟩:=HC6.out.ck;exact⟨OB,oc,by rw[ai u1]; rfl,u2,u3⟩
  have h14':=h14;rw[hl6]at h14;have c16:=HC6.out.pc;rw[hpc6]at c16;have hne:=CI.OB_ne hA hOB;have hz6:=HC6.out.kept.size;have hCl6:v.C<w6.heap.size:=Nat.lt_of_lt_of_le hA.c hz6
  have HEND:=hid (show ∀(g cap:Nat)(W w7:World),Below w6.heap.size w6 W->W.heap.size<=w7.heap.size->w7.ownsRow 0 116 5 (.slice (some ⟨g,0,none⟩) (k+1+1) cap) (k+1+1) (opV (s6.op++[⟨P,R,B,c,s.pc⟩]))->Kept (fun k=>k=OB) W w7->(g=OB\/g=W.heap.size)->w7.cell? ⟨v.C,14,none⟩=some (.slice (some ⟨OB,0,none⟩) (k+1) oc)/\w7.frozen? ⟨v.C,14,none⟩=false/\CI v w1 (w7.setCell ⟨v.C,14,none⟩ (.slice (some ⟨g,0,none⟩) (k+1+1) cap)) (iY s c tk P R) from by
   intro g cap W w7 hb hsz ho hk hg;have hCW:=HC6.out.later hA hb;have hc:=ag hb h14';rw[<- hl6]at ho
   have hpush:=CI.push hA hCW hc hk (by
    rcases hg with e | e
    ·exact .inl e
    right; have:=hb.size; omega) ho
   refine⟨?_,?_,?_⟩
   ·rw[<- hl6]; exact hk.cell hc (fun e=>hne.1 e.symm)
   ·rw[cA (hk.block v.C (Nat.lt_of_lt_of_le hCl6 hb.size) (fun e=>hne.1 e.symm))]; exact hCW.free 14
   rw[HFin.out,<- hl6];rw[<- hs6]at hpush ⊢;exact hpush)
  clear HFin HC HC3 HC4 HB3 HB4 HCq HC6 h14' hst hT hd hd1 hd2 hsub2 hPs hbs;refine wp_region_held_drew (S:=emS v.C G w.heap.size P R c s.pc) ar ⟨s0,s1,sx,c16⟩ (fun hHeld=>?_)
  refine tkC (i:=0) rfl ?_;(try simp only[Act.put,sIB]);refine tkC (i:=1) rfl ?_;(try simp only[Act.put]);refine tkC (i:=2) rfl ?_;(try simp only[Act.put]);refine tkC (i:=3) rfl ?_;(try simp only[Act.put]);refine tkC (i:=5) rfl ?_;(try simp only[Act.put]);refine tkC (i:=6) rfl ?_;(try simp only[Act.put]);refine tkC (i:=7) rfl ?_;(try simp only[Act.put]);refine tkC (i:=8) rfl ?_;(try simp only[Act.put]);refine tkC (i:=9) rfl ?_;(try simp only[Act.put]);refine tkC (i:=10) rfl ?_;(try simp only[Act.put]);refine tkC (i:=11) rfl ?_;(try simp only[Act.put]);refine tkC (i:=12) rfl ?_;(try simp only[Act.put]);refine tkC (i:=13) rfl ?_;(try simp only[Act.put]);have hrow6:=hrow;rw[hl6]at hrow6;have BWA:Below w6.heap.size w6 (w6.alloc (pq P R B c s.pc)).drew:=(aj w6 (pq P R B c s.pc)).drew
  have hrowA:=kZ (S:=fun _=>False) hrow6 (aP BWA) (fun e=>e);have hblk:(w6.alloc (pq P R B c s.pc)).drew.heap[w6.heap.size]? =some (pq P R B c s.pc):=hZn w6 _;have hSA:=emS.later ⟨s0,s1,sx,c16⟩ BWA;have hGO:G≠OB:=RG sB hrow6 aA
  have hXO:w.heap.size≠OB:=by
   intro e;obtain⟨o0,ho0⟩:∃o0,s6.op[0]? =some o0:=⟨_,aY ae⟩;have h0:=World.ownsRow.cellAt hrow 0 ae;have h1:=(GK s6.op 0 o0 ho0).1;simp only[Nat.zero_mul]at h1;rw[h1,<- e,sx]at h0;simp at h0
  have hGC:G≠v.C:=ae;have hXC:w.heap.size≠v.C:=ae;clear hrow hrow6;refine rdY (rs:=[4,14]) ?_;refine AllReadyH.cons rfl (fun K hK=>?_) (AllReadyH.cons rfl (fun K hK=>?_) rN)
  ·go_simp
   refine hK.out _ _ hHeld (fun hHeld2=>?_);clear hK K hHeld2;refine rdY (rs:=[14]) ?_;refine AllReadyH.cons rfl (fun K hK=>?_) rN;go_simp;refine hK.out _ _ hSA (fun hHeld3=>?_);clear hK K;exact Oo
  go_simp;refine hK.out _ _ hSA (fun hHeld3=>?_);clear hK K;have hA14:=ag BWA h14;refine rdY (rs:=[4]) ?_;refine AllReadyH.cons rfl (fun K hK=>?_) rN;go_simp;refine hK.out _ _ hSA (fun hHeld2=>?_);clear hK K hHeld2 hA14;exact Oo
end
section
variable {v:Ev} {w1 w:World} {s:Cs} {m:MM} {lo:LIz}
abbrev jr(v:Ev)(w1:World)(pc:Nat)(E:Int)(s':Cs):Ending->World->Prop:=fun e w'=>(E=0/\e=.returned ml/\CI v w1 w' s')\/(E≠0/\e=thv E/\Bad v w1 pc w')
variable {a b:Int}
theorem Fe(h:a≠0):orE a b=a:=by simp[orE,h]
theorem mq(h:a=0):orE a b=b:=by simp[orE,h]
variable {k:Nat}{o:Opn}
theorem yU(hA:EvA v w1)(h:CI v w1 w s)(hw:CW s k o)(hB:o.B.size<=1000000)(hR:o.R.size<=1000000)(a:Int)(L:Value) :
  Calls prog 87 #[.pointer (some ⟨v.C,0,none⟩),.agg #[.int .u8 0,.int .i64 a,L]] w (jr v w1 s.pc (bW o.B o.R) (eX s o)):=by
 have BW:=aj w (au 0 a L);have H1:=hid (sG hA (h.later hA BW) hw hB hR);generalize bW o.B o.R=E at *;exact LQ
variable {p:Opn}
theorem wA{s:Cs}(hL:∀p∈s.op,p.P.size<=8/\p.R.size<=8)(hp:p∈s.op):(brg p).size<=8:=by
 unfold brg; split
 ·exact(hL p hp).1
 exact(hL p hp).2
theorem tK{s:Cs}(hw:CW s k o)(h:eQ s a=0):dh s a∈s.op:=by
 obtain⟨q,rfl,hq⟩:=zY hw.len h
 have hlt:k-q<s.op.length:=by have:=hw.len; omega
 rw[Ek hw.len hq (aY hlt)];exact List.getElem_mem hlt
theorem Iw(hA:EvA v w1)(h:CI v w1 w s)(hw:CW s k o)(hB:o.B.size<=1000000)(hR:o.R.size<=1000000)(hL:∀p∈s.op,p.P.size<=8/\p.R.size<=8)(a:Int)(L:Value) :
  Calls prog 87 #[.pointer (some ⟨v.C,0,none⟩),.agg #[.int .u8 7,.int .i64 a,L]] w (jr v w1 s.pc (orE (eQ s a) (orE (bQ s o (brg (dh s a))) (bW o.B o.R))) (eX s o)):=by
 have BW:=aj w (au 7 a L);have x1:(w.alloc (au 7 a L)).cell? ⟨w.heap.size,1,none⟩=some (.int .i64 a):=aG;have x2:(w.alloc (au 7 a L)).cell? ⟨w.heap.size,2,none⟩=some (L):=aG;have HC:=hid (h.later hA BW);obtain⟨E,hE⟩:∃E,orE (eQ s a) (orE (bQ s o (brg (dh s a))) (bW o.B o.R))=E:=⟨_,rfl⟩;rw[hE];have HE:=hid hE;clear hE h BW
 by_cases hl:eQ s a=0
 rotate_left
 ·exact NJ
 have h8:=wA hL (tK hw hl);rw[mq hl]at HE;go_enter func87,ntmps87
 go_wp2_with fail;refine(lf HC.out hw a hl).mono ?_;rintro e w2⟨b,i,rfl,hb,y0,y1,y3⟩;have HC2:=hid (HC.out.later hA hb);clear hb x1 x2 HC;go_wp2_with fail;refine(jB y0 y1 y3).mono ?_;rintro e w3⟨rfl,hw3⟩;obtain rfl:=hw3.symm;clear y0 y1 y3 hw3;generalize brg (dh s a)=Y at *
 have HY1:(Y++⟨#[119]⟩:BAz).size<=1000000:=by rw[ByteArray.size_append]; exact(show Y.size+1<=1000000 by omega)
 go_wp2_with fail;refine(oQ hA HC2.out hw Y ae).mono ?_
 rintro e w4 (⟨h0,rfl,hb⟩ | ⟨h0,rfl,hb⟩);rotate_left
 ·have hE:E=bQ s o Y:=tV;exact⟨rfl,.inr ⟨mH,(congrArg thv hE).symm,(HC2.out.later hA hb).bad⟩⟩
 exact Kp
theorem tX(hA:EvA v w1)(h:CI v w1 w s)(hw:CW s k o)(hB:o.B.size<=1000000)(hR:o.R.size<=1000000)(hL:∀p∈s.op,p.P.size<=8/\p.R.size<=8)(a:Int)(L:Value)(hp:s.op[0]? =some p):
  Calls prog 87 #[.pointer (some ⟨v.C,0,none⟩),.agg #[.int .u8 10,.int .i64 a,L]] w (jr v w1 s.pc (orE (bQ s o (brg p)) (bW o.B o.R)) (eX s o)):=by
 have BW:=aj w (au 10 a L);have x1:(w.alloc (au 10 a L)).cell? ⟨w.heap.size,1,none⟩=some (.int .i64 a):=aG;have x2:(w.alloc (au 10 a L)).cell? ⟨w.heap.size,2,none⟩=some (L):=aG;have HC:=hid (h.later hA BW);obtain⟨E,hE⟩:∃E,orE (bQ s o (brg p)) (bW o.B o.R)=E:=⟨_,rfl⟩;rw[hE];have HE:=hid hE;clear hE h BW;have h8:=wA hL (List.mem_of_getElem? hp);obtain⟨OB,oc,x14,hoc,hcs⟩:=HC.out.opn;obtain⟨p0,p1,p2,p3,p4⟩:=hcs 0 p hp;simp only[Nat.zero_mul,Nat.zero_add]at p0 p1 p2 p3 p4;rw[hw.len]at x14;clear hcs hp hoc p2 p4;go_enter func87,ntmps87
 go_wp2_with fail;refine(jB p0 p1 p3).mono ?_;rintro e w3⟨rfl,hw3⟩;obtain rfl:=hw3.symm;clear p0 p1 p3 x14 x1 x2 hw3;generalize brg p=Y at *;go_wp2_with fail;refine(oQ hA HC.out hw Y ae).mono ?_
 rintro e w4 (⟨h0,rfl,hb⟩ | ⟨h0,rfl,hb⟩);rotate_left
 ·have hE:E=bQ s o Y:=tV;exact⟨rfl,.inr ⟨mH,(congrArg thv hE).symm,(HC.out.later hA hb).bad⟩⟩
 rw[mq h0]at HE;have HC3:=hid (HC.out.later hA hb);clear hb h0;go_wp2_with fail;refine(sG hA HC3.out hw hB hR).mono ?_;rintro e w5 (⟨h0,rfl,hc,hk⟩ | ⟨h0,rfl,hb⟩);rotate_left
 ·have hE:E=bW o.B o.R:=HE.out.symm;exact rp
 exact NE
end
section
variable {v:Ev} {w1 w:World} {s:Cs} {m:MM} {lo:LIz}
variable {k:Nat}{o:Opn}
theorem zI(hA:EvA v w1)(h:CI v w1 w s)(hw:CW s k o)(hB:o.B.size<=1000000)(hR:o.R.size<=1000000)(hL:∀p∈s.op,p.P.size<=8/\p.R.size<=8)(a:Int)(L:Value) :
  Calls prog 87 #[.pointer (some ⟨v.C,0,none⟩),.agg #[.int .u8 8,.int .i64 a,L]] w (jr v w1 s.pc (orE (eQ s a) (orE (bQ s o (brg (dh s a)++⟨#[119]⟩)) (bQ s o ⟨#[119]⟩))) (cN s ⟨#[119]⟩)):=by
 have BW:=aj w (au 8 a L);have x1:(w.alloc (au 8 a L)).cell? ⟨w.heap.size,1,none⟩=some (.int .i64 a):=aG;have x2:(w.alloc (au 8 a L)).cell? ⟨w.heap.size,2,none⟩=some (L):=aG;have HC:=hid (h.later hA BW);obtain⟨E,hE⟩:∃E,orE (eQ s a) (orE (bQ s o (brg (dh s a)++⟨#[119]⟩)) (bQ s o ⟨#[119]⟩))=E:=⟨_,rfl⟩;rw[hE];have HE:=hid hE;clear hE h BW
 by_cases hl:eQ s a=0
 rotate_left
 ·exact NJ
 have h8:=wA hL (tK hw hl);rw[mq hl]at HE;go_enter func87,ntmps87
 go_wp2_with fail;refine(lf HC.out hw a hl).mono ?_;rintro e w2⟨b,i,rfl,hb,y0,y1,y3⟩;have HC2:=hid (HC.out.later hA hb);clear hb x1 x2 HC;go_wp2_with fail;refine(jB y0 y1 y3).mono ?_;rintro e w3⟨rfl,hw3⟩;obtain rfl:=hw3.symm;clear y0 y1 y3 hw3;generalize brg (dh s a)=Y at *
 have HY1:(Y++⟨#[119]⟩:BAz).size<=1000000:=by rw[ByteArray.size_append]; exact(show Y.size+1<=1000000 by omega)
 go_wp2_with fail;generalize hYW:(Y++⟨#[119]⟩:BAz)=YW at HE HY1 ⊢;clear hYW;refine(oQ hA HC2.out hw YW HY1).mono ?_
 rintro e w4 (⟨h0,rfl,hb⟩ | ⟨h0,rfl,hb⟩);rotate_left
 ·exact MF
 rw[mq h0]at HE;have HC3:=hid (HC2.out.later hA hb);clear hb h0;go_wp2_with fail;refine(xx hA HC3.out hw ⟨#[119]⟩ (show(1:Nat)<=1000000 by omega)).mono ?_;rintro e w5 (⟨h0,rfl,hc,hk⟩ | ⟨h0,rfl,hb⟩);rotate_left
 ·have hE:E=bQ s o ⟨#[119]⟩:=HE.out.symm;exact rp
 exact NE
end
section
variable {v:Ev} {w1 w:World} {s:Cs} {m:MM} {lo:LIz}
variable {k:Nat}{o:Opn}
theorem tO(hA:EvA v w1)(h:CI v w1 w s)(hw:CW s k o)(hB:o.B.size<=1000000)(hR:o.R.size<=1000000)(hL:∀p∈s.op,p.P.size<=8/\p.R.size<=8)(a:Int)(la:OAz)(ln lc:Nat)(l:LIz)(hl:pN w1 la ln lc l)(hn:0<ln)(hS:∀b off,la=some ⟨b,off,none⟩->ln≠0->¬v.S b):
  Calls prog 87 #[.pointer (some ⟨v.C,0,none⟩),.agg #[.int .u8 9,.int .i64 a,.slice la ln lc]] w (jr v w1 s.pc (orE (kB s l) (orE (bQ s o (brg (dh s (l.getD 0 0))++⟨#[119]⟩)) (bW o.B o.R))) (eX s o)):=by
 have BW:=aj w (aV 9 a la ln lc);have x1:(w.alloc (aV 9 a la ln lc)).cell? ⟨w.heap.size,1,none⟩=some (.int .i64 a):=aG;have x2:(w.alloc (aV 9 a la ln lc)).cell? ⟨w.heap.size,2,none⟩=some (.slice la ln lc):=aG;have HC:=hid (h.later hA BW);obtain⟨E,hE⟩:∃E,orE (kB s l) (orE (bQ s o (brg (dh s (l.getD 0 0))++⟨#[119]⟩)) (bW o.B o.R))=E:=⟨_,rfl⟩;rw[hE];have HE:=hid hE;clear hE h BW;have HCM:=hid (Ho hA HC.out hw la ln lc l hl hn hS)
 have h8:kB s l=0->(brg (dh s (l.getD 0 0))).size<=8:=by
  intro h0
  have:eQ s (l.getD 0 0)=0:=by
   unfold kB at h0
   split at h0
   ·rename_i hall
    rw[List.all_eq_true]at hall;have hlen:=hl.1
    have hm:l.getD 0 0∈l:=by
     rw[List.getD_eq_getElem?_getD,aY ae];exact List.getElem_mem _
    simpa using hall _ hm
   cases h0
  exact wA hL (tK hw this)
 generalize kB s l=E1 at *;generalize brg (dh s (l.getD 0 0))=Y at *;clear hl hS;go_enter func87,ntmps87
 go_wp2_with fail;refine HCM.out.mono ?_
 rintro e w2 (⟨h0,rfl,hb⟩ | ⟨h0,rfl,hb⟩);rotate_left
 ·exact Fy
 have h8':=h8 h0
 have HY1:(Y++⟨#[119]⟩:BAz).size<=1000000:=by rw[ByteArray.size_append]; exact(show Y.size+1<=1000000 by omega)
 rw[mq h0]at HE;have HC2:=hid (HC.out.later hA hb);clear hb h0 h8 HCM HC x1 x2;go_wp2_with fail;generalize hYW:(Y++⟨#[119]⟩:BAz)=YW at HE HY1 ⊢;clear hYW;refine(oQ hA HC2.out hw YW HY1).mono ?_;rintro e w4 (⟨h0,rfl,hb⟩ | ⟨h0,rfl,hb⟩);rotate_left
 ·exact MF
 exact Kp
end
section
variable {v:Ev} {w1 w:World} {s:Cs} {m:MM} {lo:LIz}
variable {k q:Nat}{o:Opn}{P R:BAz}
theorem wW(hA:EvA v w1)(hM:EvM v w1 m lo)(h:CI v w1 w s)(hw:CW s k o)(L:Value)(hP:m.types[q]? =some (P,R))(hpn:s.pc<v.n)(hn:v.n<=1000000)(hk:k<63) :
  Calls prog 87 #[.pointer (some ⟨v.C,0,none⟩),.agg #[.int .u8 2,.int .i64 q,L]] w (jr v w1 s.pc (orE (bQ s o (P++⟨#[]⟩)) (bQ s o ⟨#[]⟩)) (iY s 2 ⟨#[]⟩ P R)):=by
 have BW:=aj w (au 2 q L);have H1:=hid (tU hA hM (h.later hA BW) hw (c:=2) L ⟨#[]⟩ (show(0:Nat)<=1 by omega) hP ae ae hpn hn hk);generalize orE (bQ s o (P++⟨#[]⟩)) (bQ s o ⟨#[]⟩)=E at *;generalize iY s 2 ⟨#[]⟩ P R=S' at *;clear h BW;have x0:(w.alloc (au 2 q L)).cell? ⟨w.heap.size,0,none⟩=some (.int .u8 2):=aG;have x1:(w.alloc (au 2 q L)).cell? ⟨w.heap.size,1,none⟩=some (.int .i64 q):=aG;have x2:(w.alloc (au 2 q L)).cell? ⟨w.heap.size,2,none⟩=some L:=aG;exact AR
variable {z:Int}
theorem qF(hA:EvA v w1)(hM:EvM v w1 m lo)(h:CI v w1 w s)(L:Value)(hz:z<0\/(m.tn:Int)<=z)(S':Cs) :
  Calls prog 87 #[.pointer (some ⟨v.C,0,none⟩),.agg #[.int .u8 2,.int .i64 z,L]] w (jr v w1 s.pc 30 S'):=by
 have BW:=aj w (au 2 z L);have H1:=hid (lA hA hM (h.later hA BW) (c:=2) L ⟨#[]⟩ hz);clear h BW;have x0:(w.alloc (au 2 z L)).cell? ⟨w.heap.size,0,none⟩=some (.int .u8 2):=aG;have x1:(w.alloc (au 2 z L)).cell? ⟨w.heap.size,1,none⟩=some (.int .i64 z):=aG;have x2:(w.alloc (au 2 z L)).cell? ⟨w.heap.size,2,none⟩=some L:=aG;exact vP
theorem wF(hA:EvA v w1)(hM:EvM v w1 m lo)(h:CI v w1 w s)(hw:CW s k o)(L:Value)(hP:m.types[q]? =some (P,R))(hpn:s.pc<v.n)(hn:v.n<=1000000)(hk:k<63) :
  Calls prog 87 #[.pointer (some ⟨v.C,0,none⟩),.agg #[.int .u8 3,.int .i64 q,L]] w (jr v w1 s.pc (orE (bQ s o (P++⟨#[]⟩)) (bQ s o ⟨#[]⟩)) (iY s 3 ⟨#[]⟩ P R)):=by
 have BW:=aj w (au 3 q L);have H1:=hid (tU hA hM (h.later hA BW) hw (c:=3) L ⟨#[]⟩ (show(0:Nat)<=1 by omega) hP ae ae hpn hn hk);generalize orE (bQ s o (P++⟨#[]⟩)) (bQ s o ⟨#[]⟩)=E at *;generalize iY s 3 ⟨#[]⟩ P R=S' at *;clear h BW;have x0:(w.alloc (au 3 q L)).cell? ⟨w.heap.size,0,none⟩=some (.int .u8 3):=aG;have x1:(w.alloc (au 3 q L)).cell? ⟨w.heap.size,1,none⟩=some (.int .i64 q):=aG;have x2:(w.alloc (au 3 q L)).cell? ⟨w.heap.size,2,none⟩=some L:=aG;exact AR
theorem qz(hA:EvA v w1)(hM:EvM v w1 m lo)(h:CI v w1 w s)(L:Value)(hz:z<0\/(m.tn:Int)<=z)(S':Cs) :
  Calls prog 87 #[.pointer (some ⟨v.C,0,none⟩),.agg #[.int .u8 3,.int .i64 z,L]] w (jr v w1 s.pc 30 S'):=by
 have BW:=aj w (au 3 z L);have H1:=hid (lA hA hM (h.later hA BW) (c:=3) L ⟨#[]⟩ hz);clear h BW;have x0:(w.alloc (au 3 z L)).cell? ⟨w.heap.size,0,none⟩=some (.int .u8 3):=aG;have x1:(w.alloc (au 3 z L)).cell? ⟨w.heap.size,1,none⟩=some (.int .i64 z):=aG;have x2:(w.alloc (au 3 z L)).cell? ⟨w.heap.size,2,none⟩=some L:=aG;exact vP
theorem vE(hA:EvA v w1)(hM:EvM v w1 m lo)(h:CI v w1 w s)(hw:CW s k o)(L:Value)(hP:m.types[q]? =some (P,R))(hpn:s.pc<v.n)(hn:v.n<=1000000)(hk:k<63) :
  Calls prog 87 #[.pointer (some ⟨v.C,0,none⟩),.agg #[.int .u8 4,.int .i64 q,L]] w (jr v w1 s.pc (orE (bQ s o (P++⟨#[119]⟩)) (bQ s o ⟨#[119]⟩)) (iY s 4 ⟨#[119]⟩ P R)):=by
 have BW:=aj w (au 4 q L);have H1:=hid (tU hA hM (h.later hA BW) hw (c:=4) L ⟨#[119]⟩ (show(1:Nat)<=1 by omega) hP ae ae hpn hn hk);generalize orE (bQ s o (P++⟨#[119]⟩)) (bQ s o ⟨#[119]⟩)=E at *;generalize iY s 4 ⟨#[119]⟩ P R=S' at *;clear h BW;have x0:(w.alloc (au 4 q L)).cell? ⟨w.heap.size,0,none⟩=some (.int .u8 4):=aG;have x1:(w.alloc (au 4 q L)).cell? ⟨w.heap.size,1,none⟩=some (.int .i64 q):=aG;have x2:(w.alloc (au 4 q L)).cell? ⟨w.heap.size,2,none⟩=some L:=aG;exact AR
theorem qE(hA:EvA v w1)(hM:EvM v w1 m lo)(h:CI v w1 w s)(L:Value)(hz:z<0\/(m.tn:Int)<=z)(S':Cs) :
  Calls prog 87 #[.pointer (some ⟨v.C,0,none⟩),.agg #[.int .u8 4,.int .i64 z,L]] w (jr v w1 s.pc 30 S'):=by
 have BW:=aj w (au 4 z L);have H1:=hid (lA hA hM (h.later hA BW) (c:=4) L ⟨#[119]⟩ hz);clear h BW;have x0:(w.alloc (au 4 z L)).cell? ⟨w.heap.size,0,none⟩=some (.int .u8 4):=aG;have x1:(w.alloc (au 4 z L)).cell? ⟨w.heap.size,1,none⟩=some (.int .i64 z):=aG;have x2:(w.alloc (au 4 z L)).cell? ⟨w.heap.size,2,none⟩=some L:=aG;exact vP
theorem yG(hA:EvA v w1)(h:CI v w1 w s)(hw:CW s k o)(hB:o.B.size<=1000000)(hR:o.R.size<=1000000)(hP:o.P.size<=1000000)(a:Int)(L:Value) :
  Calls prog 87 #[.pointer (some ⟨v.C,0,none⟩),.agg #[.int .u8 5,.int .i64 a,L]] w (jr v w1 s.pc (iI s o) (Jz s o)):=by
 have BW:=aj w (au 5 a L);have H1:=hid (yh hA (h.later hA BW) hw hB hR hP);generalize iI s o=E at *;exact LQ
variable {p:Nat}{el:Int}
theorem AV(hA:EvA v w1)(h:CI v w1 w s)(hw:CW s k o)(hB:o.B.size<=1000000)(hR:o.R.size<=1000000)(hP:o.P.size<=1000000)(a:Int)(L:Value)
    (hp:o.pc=p) (hpn:p<v.n) (hn:v.n<=1000000) (hel:w.cell? ⟨v.EL,p,none⟩=some (.int .i64 el)) :
  Calls prog 87 #[.pointer (some ⟨v.C,0,none⟩),.agg #[.int .u8 6,.int .i64 a,L]] w (jr v w1 s.pc (orE (iI s o) (js o el)) (ul s)):=by
 have BW:=aj w (au 6 a L);have H1:=hid (SP hA (h.later hA BW) hw hB hR hP hp hpn hn (ag BW hel));generalize orE (iI s o) (js o el)=E at *;clear h BW hel;go_enter func87,ntmps87
 go_wp2_with fail;refine H1.out.mono ?_
 rintro e w2 (⟨h0,rfl,hc,hk⟩ | ⟨h0,rfl,hb⟩)
 ·exact Fj
 exact⟨rfl,.inr ⟨h0,rfl,hb⟩⟩
end
section
variable {v:Ev} {w1 w:World} {s:Cs} {m:MM} {lo:LIz}
def NF(c:Int):Prop:=c≠0/\c≠2/\c≠3/\c≠4/\c≠5/\c≠6/\c≠7/\c≠8/\c≠9/\c≠10
variable {k:Nat}{o:Opn}{c a E1:Int}{P R:BAz}
theorem Bc(hA:EvA v w1)(h:CI v w1 w s)(hw:CW s k o)(L:Value)(hc:NF c)(hP:P.size<=1000)(hR:R.size<=1000)
  (heff:∀W,CI v w1 W s->Calls prog 128 #[.pointer (some ⟨v.C,0,none⟩),.agg #[.int .u8 c,.int .i64 a,L]] W (Rdz W E1 (.agg #[.string P,.string R]))) :
  Calls prog 87 #[.pointer (some ⟨v.C,0,none⟩),.agg #[.int .u8 c,.int .i64 a,L]] w (jr v w1 s.pc (orE E1 (orE (bQ s o P) (bW (cN s P).st R))) (qB (cN s P) R)):=by
 obtain⟨p0,p2,p3,p4,p5,p6,p7,p8,p9,p10⟩:=hc;have BW:=aj w (au c a L);have x0:(w.alloc (au c a L)).cell? ⟨w.heap.size,0,none⟩=some (.int .u8 c):=aG;have x1:(w.alloc (au c a L)).cell? ⟨w.heap.size,1,none⟩=some (.int .i64 a):=aG;have x2:(w.alloc (au c a L)).cell? ⟨w.heap.size,2,none⟩=some L:=aG;have HC:=hid (h.later hA BW);have HF:=hid heff;obtain⟨E,hE⟩:∃E,orE E1 (orE (bQ s o P) (bW (cN s P).st R))=E:=⟨_,rfl⟩;rw[hE];have HE:=hid hE;clear hE h BW heff;go_enter func87,ntmps87
 go_wp2_with fail;generalize w.alloc (au c a L)=W0 at *;refine(HF.out _ HC.out).mono ?_
 rintro e w2 (⟨h0,rfl,hb⟩ | ⟨h0,rfl,hb⟩);rotate_left
 ·exact Fy
 rw[mq h0]at HE;have HC2:=hid (HC.out.later hA hb);have BN:=aj w2 (aO P R);have HC3:=hid (HC2.out.later hA BN);have g0:(w2.alloc (aO P R)).cell? ⟨w2.heap.size,0,none⟩=some (.string P):=aG;have g1:(w2.alloc (aO P R)).cell? ⟨w2.heap.size,1,none⟩=some (.string R):=aG
 have hGC:w2.heap.size≠v.C:=by have:=hA.c; have:=HC2.out.kept.size; omega
 have HT:=hid (xx hA HC3.out hw P ae);clear hb h0 BN x0 x1 x2 HC HF;go_wp2_with fail;refine HT.out.mono ?_;rintro e w4 (⟨h0,rfl,hc,hk⟩ | ⟨h0,rfl,hb⟩);rotate_left
 ·have hE:E=bQ s o P:=tV;exact rp
 rw[mq h0]at HE;have y1:=hk.cell g1 hGC
 have hst:(cN s P).st.size<=1000000:=by
  have:=hw.big;simp[cN]; omega
 have HP:=hid (N2 hA hc R hst ae);clear g0 g1 h0 hc hk HT HC2 HC3;go_wp2_with fail;refine HP.out.mono ?_;rintro e w5 (⟨h0,rfl,hc,hk⟩ | ⟨h0,rfl,hb⟩);rotate_left
 ·have hE:E=bW (cN s P).st R:=HE.out.symm;exact rp
 have hE:E=0:=HE.out.symm.trans h0;subst hE;have HC5:=hid hc;clear hc hk y1;go_wp2_with fail;go_end0
 first | exact .inl ⟨rfl,rfl,HC5.out⟩ | exact⟨rfl,HC5.out⟩
end
def bS(m:MM)(i:Int):Sg:=m.types.getD i.toNat (⟨#[]⟩,⟨#[]⟩)
def tZ(m:MM)(i:Int):Int:=((m.fns[i.toNat]?).map (fun f=>f.1)).getD 0
def glC(m:MM)(i:Int):Int:=((m.globals[i.toNat]?).map (fun g=>g.1)).getD 0
def glM(m:MM)(i:Int):Bool:=((m.globals[i.toNat]?).map (fun g=>g.2.1)).getD false
def efE(m:MM)(lo:LIz)(s:Cs)(o:Opn)(c a:Int):Int :=
 if c=11 then bD m.fn a
 else if c=12 then bD m.hn a
 else if c=16 then ko s o 0
 else if c=17 then ko s o 1
 else if c=18\/c=19\/c=20 then bD lo.length a
 else if c=21\/c=22 then orE (bD m.gn a) (if c=21\/glM m a=true then 0 else 39)
 else 0
def efV(m:MM)(lo:LIz)(s:Cs)(o:Opn)(c a:Int):Sg :=
 if c=11 then bS m (tZ m a)
 else if c=12 then bS m (m.hosts.getD a.toNat 0)
 else if c=16 then (gG s o 0,⟨#[]⟩)
 else if c=17 then (gG s o 1++gG s o 1++⟨#[119]⟩,gG s o 1)
 else if c=18\/c=19\/c=20 then (jS c (ltr (lo.getD a.toNat 0)),jG c (ltr (lo.getD a.toNat 0)))
 else if c=21\/c=22 then (jS c (ltr (glC m a)),jG c (ltr (glC m a)))
 else ((ofV c).1.2.2.2.1,(ofV c).1.2.2.2.2.1)
theorem jE(n:Nat)(a:Int):(bD n a=30/\(a<0\/(n:Int)<=a))\/(bD n a=0/\∃q:Nat,a=q/\q<n):=by
 unfold bD
 by_cases h:a<0\/(n:Int)<=a
 ·exact .inl ⟨if_pos h,h⟩
 exact .inr ⟨if_neg h,a.toNat,ae,ae⟩
variable {w w':World}{E:Int}{val val':Value}{e:Ending}
theorem jL(hE:E≠0)(h:Rdz w E val e w'):Rdz w E val' e w':=by
 rcases h with ⟨h0,_⟩ | h
 ·exact absurd h0 hE
 exact .inr h
section
variable {v:Ev} {w1 w:World} {s:Cs} {m:MM} {lo:LIz}
variable {q:Nat}
theorem jM{α:Type}{l:List α}{d x:α}(h:l[q]? =some x):l.getD q d=x:=by rw[List.getD_eq_getElem?_getD,h]; rfl
variable {k:Nat}{o:Opn}{c a:Int}
theorem Jv(hA:EvA v w1)(hM:EvM v w1 m lo)(h:CI v w1 w s)(hw:CW s k o)(L:Value)(h0:0<=c)(h1:c<=255) :
  Calls prog 128 #[.pointer (some ⟨v.C,0,none⟩),.agg #[.int .u8 c,.int .i64 a,L]] w (Rdz w (efE m lo s o c a) (.agg #[.string (efV m lo s o c a).1,.string (efV m lo s o c a).2])):=by
 have hft:∀i:Int,0<=i->i<m.tn->∃P R t,i=(t:Nat)/\m.types[t]? =some (P,R)/\bS m i=(P,R):=by
  intro i hi0 hi1;have hlen:=hM.pt.1;have hlt:i.toNat<m.types.length:=ae;refine⟨m.types[i.toNat].1,m.types[i.toNat].2,i.toNat,ae,aY hlt,?_⟩;unfold bS;rw[jM (aY hlt)]
 by_cases c11:c=11
 ·subst c11
  simp only[efE,efV,if_true]
  rcases jE m.fn a with ⟨e1,hz⟩ | ⟨e1,q,rfl,hq⟩
  ·rw[e1]
   exact(nG hA hM h L hz).mono fun e w' hh=>jL aA hh
  rw[e1];have hlen:=hM.pf.1;have hget:=aY (l:=m.fns) (i:=q) ae;have hf:=hM.fT _ (List.getElem_mem (by omega:q<m.fns.length));obtain⟨P,R,t,ht,hP,hty⟩:=hft _ hf.1 hf.2
  have hfn:tZ m (q:Int)=(m.fns[q]'(ae)).1:=by simp[tZ,hget]
  rw[hfn,hty];exact rR hA hM h L hget ht hP
 by_cases c12:c=12
 ·subst c12
  have eE:efE m lo s o 12 a=bD m.hn a:=by simp[efE]
  have eV:efV m lo s o 12 a=bS m (m.hosts.getD a.toNat 0):=by simp only[efV]; simp
  rw[eE,eV]
  rcases jE m.hn a with ⟨e1,hz⟩ | ⟨e1,q,rfl,hq⟩
  ·rw[e1]
   exact(nj hA hM h L hz).mono fun e w' hh=>jL aA hh
  rw[e1];have hlen:=hM.ph.1;have hget:=aY (l:=m.hosts) (i:=q) ae;have hf:=hM.hT _ (List.getElem_mem (by omega:q<m.hosts.length));obtain⟨P,R,t,ht,hP,hty⟩:=hft _ hf.1 hf.2;have hfn:m.hosts.getD (q:Int).toNat 0=m.hosts[q]'(ae):=jM hget;rw[hfn,hty];exact rY hA hM h L (by rw[hget,ht]) hP
 by_cases c16:c=16
 ·subst c16
  have:efE m lo s o 16 a=ko s o 0:=by simp[efE]
  rw[this]
  have:efV m lo s o 16 a=(gG s o 0,⟨#[]⟩):=by simp[efV]
  rw[this];exact sI hA h hw a L
 by_cases c17:c=17
 ·subst c17
  have:efE m lo s o 17 a=ko s o 1:=by simp[efE]
  rw[this]
  have:efV m lo s o 17 a=(gG s o 1++gG s o 1++⟨#[119]⟩,gG s o 1):=by simp[efV]
  rw[this];exact oU hA h hw a L
 by_cases cl:c=18\/c=19\/c=20
 ·have eE:efE m lo s o c a=bD lo.length a:=by simp[efE,c11,c12,c16,c17,cl]
  have eV:efV m lo s o c a=(jS c (ltr (lo.getD a.toNat 0)),jG c (ltr (lo.getD a.toNat 0))):=by simp only[efV,c11,c12,c16,c17,cl,if_false,if_true]
  rw[eE,eV]
  rcases jE lo.length a with ⟨e1,hz⟩ | ⟨e1,q,rfl,hq⟩
  ·rw[e1]
   rcases cl with rfl | rfl | rfl
   ·exact(kD hA hM h L hz).mono fun e w' hh=>jL aA hh
   ·exact(lH hA hM h L hz).mono fun e w' hh=>jL aA hh
   exact(kO hA hM h L hz).mono fun e w' hh=>jL aA hh
  rw[e1];have hget:=aY (l:=lo) (i:=q) ae;have hfn:lo.getD (q:Int).toNat 0=lo[q]'(ae):=jM hget;rw[hfn]
  rcases cl with rfl | rfl | rfl
  ·exact ou hA hM h L hget
  ·exact ni hA hM h L hget
  exact oK hA hM h L hget
 by_cases cg:c=21\/c=22
 ·have eE:efE m lo s o c a=orE (bD m.gn a) (if c=21\/glM m a=true then 0 else 39):=by simp only[efE,c11,c12,c16,c17,cl,cg,if_false,if_true]
  have eV:efV m lo s o c a=(jS c (ltr (glC m a)),jG c (ltr (glC m a))):=by simp only[efV,c11,c12,c16,c17,cl,cg,if_false,if_true]
  rw[eE,eV]
  rcases jE m.gn a with ⟨e1,hz⟩ | ⟨e1,q,rfl,hq⟩
  ·rw[e1,Fe aA]
   rcases cg with rfl | rfl
   ·exact(ma hA hM h L hz).mono fun e w' hh=>jL aA hh
   exact(mg hA hM h L hz).mono fun e w' hh=>jL aA hh
  rw[e1,mq rfl];have hlen:=hM.pg.1;have hget:=aY (l:=m.globals) (i:=q) ae
  have hm:glM m (q:Int)=(m.globals[q]'(ae)).2.1:=by simp[glM,hget]
  have hc:glC m (q:Int)=(m.globals[q]'(ae)).1:=by simp[glC,hget]
  rw[hm,hc]
  rcases cg with rfl | rfl
  ·exact py hA hM h L hget
  rw[show(if (22:Int)=21\/(m.globals[q]'(ae)).2.1=true then (0:Int) else 39)=(if (22:Nat)=21\/(m.globals[q]'(ae)).2.1=true then (0:Int) else 39) by simp];exact pu hA hM h L hget
 have hpl:plainO c:=⟨c11,c12,c16,c17,fun e=>cl (.inl e),fun e=>cl (.inr (.inl e)),fun e=>cl (.inr (.inr e)),fun e=>cg (.inl e),fun e=>cg (.inr e)⟩
 have eE:efE m lo s o c a=0:=by simp only[efE,c11,c12,c16,c17,cl,cg,if_false]
 have eV:efV m lo s o c a=((ofV c).1.2.2.2.1,(ofV c).1.2.2.2.2.1):=by simp only[efV,c11,c12,c16,c17,cl,cg,if_false]
 rw[eE,eV];exact qI hA hM h L hpl h0 h1
end
def wT:ByteArray:=⟨#[119]⟩
def nT:ByteArray:=⟨#[]⟩
def qy(s:Cs):Opn:=s.op.getD 0 ⟨⟨#[]⟩,⟨#[]⟩,⟨#[]⟩,0,0⟩
def opE(m:MM)(s:Cs)(o:Opn)(a:Int)(tk:BAz):Int:=orE (bD m.tn a) (orE (bQ s o ((bS m a).1++tk)) (bQ s o tk))
def rwE(m:MM)(lo:LIz)(el:Int)(s:Cs)(o:Opn)(c a:Int)(l:LIz):Int :=
 if c=2\/c=3 then opE m s o a nT
 else if c=4 then opE m s o a wT
 else if c=5 then iI s o
 else if c=6 then orE (iI s o) (js o el)
 else if c=7 then orE (eQ s a) (orE (bQ s o (brg (dh s a))) (bW o.B o.R))
 else if c=8 then orE (eQ s a) (orE (bQ s o (brg (dh s a)++wT)) (bQ s o wT))
 else if c=9 then orE (kB s l) (orE (bQ s o (brg (dh s (l.getD 0 0))++wT)) (bW o.B o.R))
 else if c=10 then orE (bQ s o (brg (qy s))) (bW o.B o.R)
 else if c=0 then bW o.B o.R
 else orE (efE m lo s o c a) (orE (bQ s o (efV m lo s o c a).1) (bW (cN s (efV m lo s o c a).1).st (efV m lo s o c a).2))
def rwS(m:MM)(lo:LIz)(s:Cs)(o:Opn)(c a:Int):Cs :=
 if c=2\/c=3 then iY s c nT (bS m a).1 (bS m a).2
 else if c=4 then iY s c wT (bS m a).1 (bS m a).2
 else if c=5 then Jz s o
 else if c=6 then ul s
 else if c=7\/c=9\/c=10\/c=0 then eX s o
 else if c=8 then cN s wT
 else qB (cN s (efV m lo s o c a).1) (efV m lo s o c a).2
structure Wk(v:Ev)(s:Cs)(k:Nat)(o:Opn):Prop where
 cw:CW s k o
 kk:k<63
 pn:s.pc<v.n
 nn:v.n<=1000000
 bs:o.B.size<=1000000
 sz:∀p∈s.op,p.P.size<=8/\p.R.size<=8
 op:∃p:Nat,o.pc=p/\p<v.n
theorem NH:((List.range 256).all fun n=>decide ((ofV (n:Int)).1.2.2.2.1.size<=8)&&decide ((ofV (n:Int)).1.2.2.2.2.1.size<=8))=true:=ar
variable {c:Int}
theorem of_le(h0:0<=c)(h1:c<=255):(ofV c).1.2.2.2.1.size<=8/\(ofV c).1.2.2.2.2.1.size<=8:=by
 have h:=List.all_eq_true.1 NH c.toNat (by rw[List.mem_range]; omega);rw[show((c.toNat:Nat):Int)=c by omega]at h;simp only[Bool.and_eq_true,decide_eq_true_eq]at h;exact h
section
variable {v:Ev} {w1 w:World} {s:Cs} {m:MM} {lo:LIz}
theorem vJ(hM:EvM v w1 m lo)(i:Int):(bS m i).1.size<=8/\(bS m i).2.size<=8:=by
 unfold bS;rw[List.getD_eq_getElem?_getD]
 cases h:m.types[i.toNat]? with
 | none=>exact⟨Nat.zero_le _,Nat.zero_le _⟩
 | some x=>exact hM.tL x (List.mem_of_getElem? h)
theorem xR(c:Int):(ltr c).size<=1:=by unfold ltr; split <;> exact Nat.le_refl _
theorem D8(c:Int)(y:BAz)(h:y.size<=1):(jS c y).size<=1:=by unfold jS; split; exact Nat.zero_le _; exact h
theorem Ez(c:Int)(y:BAz)(h:y.size<=1):(jG c y).size<=1:=by unfold jG; split; exact h; exact Nat.zero_le _
theorem Ed(s:Cs)(o:Opn)(j:Nat):(gG s o j).size<=1:=by simp[gG]; omega
theorem RU(hM:EvM v w1 m lo)(s:Cs)(o:Opn)(a:Int)(h0:0<=c)(h1:c<=255):(efV m lo s o c a).1.size<=1000/\(efV m lo s o c a).2.size<=1000:=by
 unfold efV
 split
 ·have:=vJ hM (tZ m a); omega
 split
 ·have:=vJ hM (m.hosts.getD a.toNat 0); omega
 split
 ·have:=Ed s o 0; exact⟨sH,Nat.zero_le _⟩
 split
 ·have:=Ed s o 1
  refine⟨?_,sH⟩;dsimp only;rw[ByteArray.size_append,ByteArray.size_append];have:(⟨#[119]⟩:BAz).size=1:=rfl;omega
 split
 ·have h1:=D8 c _ (xR (lo.getD a.toNat 0));have h2:=Ez c _ (xR (lo.getD a.toNat 0));exact xb
 split
 ·have h1:=D8 c _ (xR (glC m a));have h2:=Ez c _ (xR (glC m a));exact xb
 have:=of_le h0 h1;exact xb
variable {k:Nat}{o:Opn}{a:Int}
theorem oX(hA:EvA v w1)(hM:EvM v w1 m lo)(h:CI v w1 w s)(hk:Wk v s k o)(L:Value)(tk:BAz)
  (hyes:∀{q:Nat} {P R:BAz},m.types[q]? =some (P,R)->Calls prog 87 #[.pointer (some ⟨v.C,0,none⟩),.agg #[.int .u8 c,.int .i64 q,L]] w (jr v w1 s.pc (orE (bQ s o (P++tk)) (bQ s o tk)) (iY s c tk P R)))
  (hno:∀{z:Int},(z<0\/(m.tn:Int)<=z)->∀S',Calls prog 87 #[.pointer (some ⟨v.C,0,none⟩),.agg #[.int .u8 c,.int .i64 z,L]] w (jr v w1 s.pc 30 S')) :
  Calls prog 87 #[.pointer (some ⟨v.C,0,none⟩),.agg #[.int .u8 c,.int .i64 a,L]] w (jr v w1 s.pc (opE m s o a tk) (iY s c tk (bS m a).1 (bS m a).2)):=by
 unfold opE
 rcases jE m.tn a with ⟨e1,hz⟩ | ⟨e1,q,rfl,hq⟩
 ·rw[e1,Fe aA];exact hno hz _
 rw[e1,mq rfl];have hlen:=hM.pt.1;have hget:=aY (l:=m.types) (i:=q) ae;have hty:bS m (q:Int)=m.types[q]'(ae):=jM hget;rw[hty];exact hyes hget
variable {la:OAz}{l:LIz}{el:Int}
theorem RO(hA:EvA v w1)(hM:EvM v w1 m lo)(h:CI v w1 w s)(hk:Wk v s k o){ln lc:Nat}(h0:0<=c)(h1:c<=255)
  (hl:c=9->pN w1 la ln lc l/\0<ln) (hS:∀b off,la=some ⟨b,off,none⟩->ln≠0->¬v.S b) (hel:w.cell? ⟨v.EL,o.pc.toNat,none⟩=some (.int .i64 el)) :
  Calls prog 87 #[.pointer (some ⟨v.C,0,none⟩),.agg #[.int .u8 c,.int .i64 a,.slice la ln lc]] w (jr v w1 s.pc (rwE m lo el s o c a l) (rwS m lo s o c a)):=by
 have hw:=hk.cw;have ho8:=hk.sz o (List.mem_of_getElem? hw.last);have hR:o.R.size<=1000000:=ae;have hP:o.P.size<=1000000:=ae
 by_cases c2:c=2
 ·subst c2;have eE:rwE m lo el s o 2 a l=opE m s o a nT:=jq;have eS:rwS m lo s o 2 a=iY s 2 nT (bS m a).1 (bS m a).2:=jm;rw[eE,eS]
  exact oX hA hM h hk _ nT (fun hP=>wW hA hM h hw _ hP hk.pn hk.nn hk.kk) (fun hz S'=>qF hA hM h _ hz S')
 by_cases c3:c=3
 ·subst c3;have eE:rwE m lo el s o 3 a l=opE m s o a nT:=jq;have eS:rwS m lo s o 3 a=iY s 3 nT (bS m a).1 (bS m a).2:=jm;rw[eE,eS]
  exact oX hA hM h hk _ nT (fun hP=>wF hA hM h hw _ hP hk.pn hk.nn hk.kk) (fun hz S'=>qz hA hM h _ hz S')
 by_cases c4:c=4
 ·subst c4;have eE:rwE m lo el s o 4 a l=opE m s o a wT:=jq;have eS:rwS m lo s o 4 a=iY s 4 wT (bS m a).1 (bS m a).2:=jm;rw[eE,eS]
  exact oX hA hM h hk _ wT (fun hP=>vE hA hM h hw _ hP hk.pn hk.nn hk.kk) (fun hz S'=>qE hA hM h _ hz S')
 by_cases c5:c=5
 ·subst c5;have eE:rwE m lo el s o 5 a l=iI s o:=jq;have eS:rwS m lo s o 5 a=Jz s o:=jm;rw[eE,eS];exact yG hA h hw hk.bs hR hP a _
 by_cases c6:c=6
 ·subst c6;have eE:rwE m lo el s o 6 a l=orE (iI s o) (js o el):=jq;have eS:rwS m lo s o 6 a=ul s:=jm;rw[eE,eS];obtain⟨p,hp,hpn⟩:=hk.op;rw[hp]at hel
  exact AV hA h hw hk.bs hR hP a _ hp hpn hk.nn (by simpa using hel)
 by_cases c7:c=7
 ·subst c7;have eE:rwE m lo el s o 7 a l=orE (eQ s a) (orE (bQ s o (brg (dh s a))) (bW o.B o.R)):=jq;have eS:rwS m lo s o 7 a=eX s o:=jm;rw[eE,eS];exact Iw hA h hw hk.bs hR hk.sz a _
 by_cases c8:c=8
 ·subst c8;have eE:rwE m lo el s o 8 a l=orE (eQ s a) (orE (bQ s o (brg (dh s a)++wT)) (bQ s o wT)):=jq;have eS:rwS m lo s o 8 a=cN s wT:=jm;rw[eE,eS];exact zI hA h hw hk.bs hR hk.sz a _
 by_cases c9:c=9
 ·subst c9;have eE:rwE m lo el s o 9 a l=orE (kB s l) (orE (bQ s o (brg (dh s (l.getD 0 0))++wT)) (bW o.B o.R)):=jq;have eS:rwS m lo s o 9 a=eX s o:=jm;rw[eE,eS];obtain⟨hl1,hl2⟩:=hl rfl;exact tO hA h hw hk.bs hR hk.sz a la ln lc l hl1 hl2 hS
 by_cases c10:c=10
 ·subst c10;have eE:rwE m lo el s o 10 a l=orE (bQ s o (brg (qy s))) (bW o.B o.R):=jq;have eS:rwS m lo s o 10 a=eX s o:=jm;rw[eE,eS];have hlen:=hw.len;have hget:=aY (l:=s.op) (i:=0) ae;have hb:qy s=s.op[0]'(ae):=jM hget
  have:=tX hA h hw hk.bs hR hk.sz a (.slice la ln lc) hget;rw[<- hb]at this;exact this
 by_cases c0:c=0
 ·subst c0;have eE:rwE m lo el s o 0 a l=bW o.B o.R:=jq;have eS:rwS m lo s o 0 a=eX s o:=jm;rw[eE,eS];exact yU hA h hw hk.bs hR a _
 have hgo:NF c:=⟨c0,c2,c3,c4,c5,c6,c7,c8,c9,c10⟩
 have eE:rwE m lo el s o c a l=orE (efE m lo s o c a) (orE (bQ s o (efV m lo s o c a).1) (bW (cN s (efV m lo s o c a).1).st (efV m lo s o c a).2)):=by
  simp only[rwE,c0,c2,c3,c4,c5,c6,c7,c8,c9,c10,or_self,if_false]
 have eS:rwS m lo s o c a=qB (cN s (efV m lo s o c a).1) (efV m lo s o c a).2:=by
  simp only[rwS,c0,c2,c3,c4,c5,c6,c7,c8,c9,c10,or_self,if_false]
 rw[eE,eS];have hle:=RU hM s o a h0 h1;exact Bc hA h hw _ hgo hle.1 hle.2 (fun W hW=>Jv hA hM hW hw _ h0 h1)
end
def fI(s:Cs):Cs:={ s with dead:=false,sh:=s.sh.set s.pc s.st,fl:=fun i=>if i=s.pc then -1 else s.fl i,hi:=max s.hi s.st.size }
def Ti(m:MM)(lo:LIz)(el:Int)(s:Cs)(o:Opn)(c a:Int)(l:LIz):Int :=
 if s.dead=true/\c≠5/\c≠6 then 36 else rwE m lo el (fI s) o c a l
section
variable {v:Ev} {w1 w:World} {s:Cs} {m:MM} {lo:LIz}
variable {k:Nat}{o:Opn}
theorem Wk.vis(h:Wk v s k o):Wk v (fI s) k o:=⟨⟨h.cw.len,h.cw.le,h.cw.last,h.cw.base,h.cw.big⟩,h.kk,h.pn,h.nn,h.bs,h.sz,h.op⟩
variable {a:Int}
theorem uP(hA:EvA v w1)(h:CI v w1 w s)(L:Value)(hd:s.dead=true)(h5:c≠5)(h6:c≠6)(S':Cs) :
  Calls prog 63 #[.pointer (some ⟨v.C,0,none⟩),.agg #[.int .u8 c,.int .i64 a,L]] w (jr v w1 s.pc 36 S'):=by
 have BW:=aj w (au c a L);have x0:(w.alloc (au c a L)).cell? ⟨w.heap.size,0,none⟩=some (.int .u8 c):=aG;have HC:=hid (h.later hA BW);have c17:=HC.out.dead;rw[hd]at c17;have e5:(c==5)=false:=sy;have e6:(c==6)=false:=pz;clear h BW;go_enter func63,ntmps63
 go_wp2_with fail;refine(Gk _ _).mono ?_;rintro e w2⟨rfl,rfl⟩;exact⟨rfl,.inr ⟨aA,rfl,HC.out.bad⟩⟩
variable {la:OAz}{l:LIz}{el:Int}
theorem Pn(hA:EvA v w1)(hM:EvM v w1 m lo)(h:CI v w1 w s)(hk:Wk v s k o){ln lc:Nat}(h0:0<=c)(h1:c<=255)(hhi:s.hi<=1000000)(hsl:s.sh.length=v.n)
  (hl:c=9->pN w1 la ln lc l/\0<ln) (hS:∀b off,la=some ⟨b,off,none⟩->ln≠0->¬v.S b) (hel:w1.cell? ⟨v.EL,o.pc.toNat,none⟩=some (.int .i64 el)) (hES:¬v.S v.EL) (hd:s.dead=false\/c=5\/c=6) :
  Calls prog 63 #[.pointer (some ⟨v.C,0,none⟩),.agg #[.int .u8 c,.int .i64 a,.slice la ln lc]] w (jr v w1 s.pc (rwE m lo el (fI s) o c a l) (rwS m lo (fI s) o c a)):=by
 have BW:=aj w (aV c a la ln lc);have x0:(w.alloc (aV c a la ln lc)).cell? ⟨w.heap.size,0,none⟩=some (.int .u8 c):=aG;have x1:(w.alloc (aV c a la ln lc)).cell? ⟨w.heap.size,1,none⟩=some (.int .i64 a):=aG;have x2:(w.alloc (aV c a la ln lc)).cell? ⟨w.heap.size,2,none⟩=some (.slice la ln lc):=aG;have HC:=hid (h.later hA BW)
 have hXl:v.C<w.heap.size/\v.SH<w.heap.size/\v.FL<w.heap.size:=by have:=hA.c; have:=hA.s; have:=hA.f; have:=h.kept.size; omega
 have HR:=hid (fun(W:World) (hW:CI v w1 W (fI s))=>RO hA hM hW hk.vis (a:=a) (la:=la) (ln:=ln) (lc:=lc) (l:=l) (el:=el) h0 h1 hl hS (hW.kept.cell hel hES));generalize rwE m lo el (fI s) o c a l=E at *;generalize rwS m lo (fI s) o c a=S' at *;clear h BW hl hS hel;have hX:w.heap.size≠v.C/\w.heap.size≠v.SH/\w.heap.size≠v.FL:=ae
 by_cases hdd:s.dead=false
 ·have c17:=HC.out.dead;rw[hdd]at c17
  go_enter func63,ntmps63
  go_wp2_with fail;generalize w.alloc (aV c a la ln lc)=W0 at *;exact Ox
 have hdt:s.dead=true:=by simpa using hdd
 rcases hd with hd | rfl | rfl
 ·exact absurd hd hdd
 ·have c17:=HC.out.dead;rw[hdt]at c17
  go_enter func63,ntmps63
  go_wp2_with fail;generalize w.alloc (aV 5 a la ln lc)=W0 at *;exact Ox
 have c17:=HC.out.dead;rw[hdt]at c17;go_enter func63,ntmps63
 go_wp2_with fail;generalize w.alloc (aV 6 a la ln lc)=W0 at *;exact Ox
end
theorem uQ(w:World):Calls prog 81 #[.nilIface] w fun e w'=>e=.returned (.tuple #[.agg #[.int .i64 0,.int .i64 0],.bool false])/\Below w.heap.size w w':=by
 have BN:=hid (aj w (su 0 0));go_enter func81,ntmps81
 go_wp2_with fail;refine bodyPost_ret (v:=.tuple #[.agg #[.int .i64 0,.int .i64 0],.bool false]) ?_ rfl ⟨rfl,BN.out⟩;rw[results_cell_tmp rfl];go_simp
theorem Kc(x p:Int)(w:World):Calls prog 81 #[.iface 139 (.agg #[.int .i64 x,.int .i64 p])] w fun e w'=>e=.returned (.tuple #[.agg #[.int .i64 x,.int .i64 p],.bool true])/\Below w.heap.size w w':=by
 have hta:∀(v:Value)(w:World),(Instr.typeAssert (.iface 139 v) 20 139 true).run prog w=.ok (.tuple #[v,.bool true]) w:=fun _ _=>rfl;go_enter func81,ntmps81
 go_wp2_with fail;refine bodyPost_ret (v:=.tuple #[.agg #[.int .i64 x,.int .i64 p],.bool true]) ?_ rfl ⟨rfl,?_⟩
 ·rw[results_cell_tmp rfl];go_simp
 exact((Below.refl _ w).alloc lRn _).alloc aw _
theorem En(x q:Int)(B C:Nat)(bv cv:Value)(w:World)(hb:w.cell? ⟨B,0,none⟩=some bv)(hbf:w.frozen? ⟨B,0,none⟩=false)(hc:w.cell? ⟨C,0,none⟩=some cv)(hcf:w.frozen? ⟨C,0,none⟩=false)(hBC:B≠C) :
  CallsD prog 80 #[.pointer (some ⟨B,0,none⟩),.pointer (some ⟨C,0,none⟩)] (.panicking ({ v:=.iface 139 (.agg #[.int .i64 x,.int .i64 q]),recovered:=false }::[])) w fun e u' w' =>
   e=.returned (.tuple #[])/\u'=.panicking ({ v:=.iface 139 (.agg #[.int .i64 x,.int .i64 q]),recovered:=true }::[])/\w'.cell? ⟨B,0,none⟩=some (.slice none 0 0)/\w'.cell? ⟨C,0,none⟩=some (.int .i64 x)/\Kept (fun k=>k=B\/k=C) w w':=by
 have HC:=hid (Kc x q w);have hBl:B<w.heap.size:=block_lt_of_cell hb;have hCl:C<w.heap.size:=block_lt_of_cell hc;refine callsD_of_wpS func80 rfl fun c₀ cs hu=>?_;apply wpS_seq;apply wpS_region;simp[wpOpsS,go_sem,recoverD,hu,ntmps80,Exit.thenS];refine HC.out.mono ?_;rintro e w1⟨rfl,hb1⟩;have BN:=aj w1 (su x q);have n0:(w1.alloc (su x q)).cell? ⟨w1.heap.size,0,none⟩=some (.int .i64 x):=aG;have y0:=(BN.cell (p:=⟨B,0,none⟩) (Nat.lt_of_lt_of_le hBl hb1.size)).trans ((hb1.cell (by exact hBl)).trans hb);have y1:=(BN.frozen (p:=⟨B,0,none⟩) (Nat.lt_of_lt_of_le hBl hb1.size)).trans ((hb1.frozen (by exact hBl)).trans hbf);have y2:=(BN.cell (p:=⟨C,0,none⟩) (Nat.lt_of_lt_of_le hCl hb1.size)).trans ((hb1.cell (by exact hCl)).trans hc);have y3:=(BN.frozen (p:=⟨C,0,none⟩) (Nat.lt_of_lt_of_le hCl hb1.size)).trans ((hb1.frozen (by exact hCl)).trans hcf);have K2:=hid ((aP (S:=fun k=>k=B\/k=C) hb1).trans (aP BN));have hz1:=hb1.size;have hB1:B≠w1.heap.size:=ae;have hC1:C≠w1.heap.size:=ae;simp[go_sem,Array.replicate];refine wpS_of_wp ?_;clear HC hb hbf hc hcf BN;go_wp2_with fail;generalize w1.alloc (su x q)=W at *
 go_region_held3 (fun W=>W.cell? ⟨w1.heap.size,0,none⟩=some (.int .i64 x)) (first | assumption | (simp[go_sem]; assumption)) (first | fail)
 have z0:=World.cell?_setCell_same W ⟨B,0,none⟩ (.slice none 0 0) y0
 have z1:(W.setCell ⟨B,0,none⟩ (.slice none 0 0)).cell? ⟨C,0,none⟩=some cv:=by rw[World.cell?_setCell_other _ _ _ _ dC]; exact y2
 have z2:=World.cell?_setCell_same (W.setCell ⟨B,0,none⟩ (.slice none 0 0)) ⟨C,0,none⟩ (.int .i64 x) z1
 have z3:((W.setCell ⟨B,0,none⟩ (.slice none 0 0)).setCell ⟨C,0,none⟩ (.int .i64 x)).cell? ⟨B,0,none⟩=some (.slice none 0 0):=by rw[World.cell?_setCell_other _ _ _ _ dC]; exact z0
 have hk:=(K2.out.then (ax W B 0 (.slice none 0 0)) (fun k _ h=>.inl h)).then (ax _ C 0 (.int .i64 x)) (fun k _ h=>.inr h);have hk2:=hk.trans (Kept.drewN _ _ 1);have HZ3:=hid z3;have HZ2:=hid z2;have HK2:=hid hk2;clear z0 z1 z2 z3 hk hk2 K2 y0 y1 y2 y3 n0 hb1;exact⟨rfl,_,rfl,_,results_none rfl _ _ _,rfl,rfl,HZ3.out,HZ2.out,HK2.out⟩
theorem Sj(B C:Nat)(w:World) :
  CallsD prog 80 #[.pointer (some ⟨B,0,none⟩),.pointer (some ⟨C,0,none⟩)] .returning w fun e u' w'=>e=.returned (.tuple #[])/\u'=.returning/\Below w.heap.size w w':=by
 have HC:=hid (uQ w);refine callsD_of_wpS func80 rfl fun c₀ cs hu=>?_;apply wpS_seq;apply wpS_region;simp[wpOpsS,go_sem,recoverD,hu,ntmps80,Exit.thenS];refine HC.out.mono ?_;rintro e w1⟨rfl,hb1⟩;have BN:=hid (jF hb1 (aj w1 (su 0 0)));simp[go_sem,Array.replicate];refine wpS_of_wp ?_;go_wp2_with fail
 cases c₀
 simp_all [bodyPostS,results,results80];exact BN.out
section
variable {w:World}
theorem vW:Calls prog 62 #[.nilIface] w fun e w'=>e=.returned (.int .i64 0)/\Below w.heap.size w w':=by
 exact Ga
theorem M4(x:Int):Calls prog 62 #[.iface 38 (.int .i64 x)] w fun e w'=>e=.returned (.int .i64 x)/\Below w.heap.size w w':=by
 have hta:∀(v:Value)(w:World),(Instr.typeAssert (.iface 38 v) 20 38 true).run prog w=.ok (.tuple #[v,.bool true]) w:=fun _ _=>rfl;exact Ga
abbrev zT:Array Value:=#[.slice none 0 0,.slice none 0 0,.slice none 0 0,.slice none 0 0,.int .i64 0]
variable {CB TB EB PB C:Nat}{t0 t1 t2 t3 t4 ev pv:Value}
theorem Py(x:Int)(hx:x≠0){pc:Int}(hC:w.cell? ⟨CB,0,none⟩=some (.pointer (some ⟨C,0,none⟩)))(hp:w.cell? ⟨C,16,none⟩=some (.int .i64 pc))
  (hT:w.heap[TB]? =some (.cells #[t0,t1,t2,t3,t4] 74)) (hE:w.heap[EB]? =some (.cells #[ev] 38)) (hP:w.heap[PB]? =some (.cells #[pv] 3)) (n1:TB≠EB) (n2:TB≠PB) (n3:EB≠PB) (m1:CB≠TB) (m2:CB≠EB) (m3:CB≠PB) (k1:C≠TB) (k2:C≠EB) (k3:C≠PB) :
  CallsD prog 61 #[.pointer (some ⟨CB,0,none⟩),.pointer (some ⟨TB,0,none⟩),.pointer (some ⟨EB,0,none⟩),.pointer (some ⟨PB,0,none⟩)] (.panicking ({ v:=.iface 38 (.int .i64 x),recovered:=false }::[])) w fun e u' w' =>
   e=.returned (.tuple #[])/\u'=.panicking ({ v:=.iface 38 (.int .i64 x),recovered:=true }::[])/\w'.heap[TB]? =some (.cells zT 74)/\w'.cell? ⟨EB,0,none⟩=some (.int .i64 x)/\w'.cell? ⟨PB,0,none⟩=some (.int .i64 pc)/\Kept (fun k=>k=TB\/k=EB\/k=PB) w w':=by
 have HC:=hid (M4 (w:=w) x);refine callsD_of_wpS func61 rfl fun c₀ cs hu=>?_;apply wpS_seq;apply wpS_region;simp[wpOpsS,go_sem,recoverD,hu,ntmps61,Exit.thenS];refine HC.out.mono ?_;rintro e w1⟨rfl,hb1⟩;have hx':(x==0)=false:=yw;simp[go_sem,Array.replicate];refine wpS_of_wp ?_;have q0:=ag hb1 hC;have q1:=ag hb1 hp;have bT:=ak hb1 hT;have bE:=ak hb1 hE;have bP:=ak hb1 hP;have a0:=iz0 bT;have a1:=iz1 bT;have a2:=iz2 bT;have a3:=iz3 bT;have a4:=iz4 bT;have f0:=free_at (i:=0) bT;have f1:=free_at (i:=1) bT;have f2:=free_at (i:=2) bT;have f3:=free_at (i:=3) bT;have f4:=free_at (i:=4) bT;have e0:=iz0 bE;have fe:=free_at (i:=0) bE;have p0:=iz0 bP;have fp:=free_at (i:=0) bP;have HB1:=hid hb1;have HQ:=hid (And.intro bT (And.intro bE bP));clear hC hp hT hE hP HC hb1 bT bE bP;go_wp2_with fail;obtain⟨bT,bE,bP⟩:=HQ.out;have s4:=aM (i:=4) (u:=.int .i64 0) (aM (i:=3) (u:=.slice none 0 0) (aM (i:=2) (u:=.slice none 0 0) (aM (i:=1) (u:=.slice none 0 0) (aM (i:=0) (u:=.slice none 0 0) bT))));have K1:=(((((ax w1 TB 0 (.slice none 0 0)).trans (ax _ TB 1 (.slice none 0 0))).trans (ax _ TB 2 (.slice none 0 0))).trans (ax _ TB 3 (.slice none 0 0))).trans (ax _ TB 4 (.int .i64 0)));have e4:=(K1.block EB (aN bE) (fun e=>n1 e.symm)).trans bE;have p4:=(K1.block PB (aN bP) (fun e=>n2 e.symm)).trans bP;generalize ((((w1.setCell ⟨TB,0,none⟩ (.slice none 0 0)).setCell ⟨TB,1,none⟩ (.slice none 0 0)).setCell ⟨TB,2,none⟩ (.slice none 0 0)).setCell ⟨TB,3,none⟩ (.slice none 0 0)).setCell ⟨TB,4,none⟩ (.int .i64 0)=W5 at *;have KE:=ax W5 EB 0 (.int .i64 x);have KP:=ax (W5.setCell ⟨EB,0,none⟩ (.int .i64 x)) PB 0 (.int .i64 pc);have e5:=aM (i:=0) (u:=.int .i64 x) e4;have p5:=(KE.block PB (aN p4) (fun e=>n3 e.symm)).trans p4;have t5:=(KE.block TB (aN s4) (fun e=>n1 e)).trans s4;have p6:=aM (i:=0) (u:=.int .i64 pc) p5;have e6:=(KP.block EB (aN e5) (fun e=>n3 e)).trans e5;have t6:=(KP.block TB (aN t5) (fun e=>n2 e)).trans t5;have hk:=((((aP (S:=fun k=>k=TB\/k=EB\/k=PB) HB1.out).then K1 (fun k _ h=>.inl h)).then KE (fun k _ h=>.inr (.inl h))).then KP (fun k _ h=>.inr (.inr h)));exact⟨rfl,_,rfl,_,results_none rfl _ _ _,rfl,rfl,t6,ai e6,ai p6,hk⟩
theorem Q8  :
  CallsD prog 61 #[.pointer (some ⟨CB,0,none⟩),.pointer (some ⟨TB,0,none⟩),.pointer (some ⟨EB,0,none⟩),.pointer (some ⟨PB,0,none⟩)] .returning w fun e u' w'=>e=.returned (.tuple #[])/\u'=.returning/\Below w.heap.size w w':=by
 have HC:=hid (vW (w:=w));refine callsD_of_wpS func61 rfl fun c₀ cs hu=>?_;apply wpS_seq;apply wpS_region;simp[wpOpsS,go_sem,recoverD,hu,ntmps61,Exit.thenS];refine HC.out.mono ?_;rintro e w1⟨rfl,hb1⟩;have BN:=hid hb1;simp[go_sem,Array.replicate];refine wpS_of_wp ?_;go_wp2_with fail
 cases c₀
 simp_all [bodyPostS,results,results61]
end
end Go.Proofs.YtepcmfegggdjfaaGreatDoor

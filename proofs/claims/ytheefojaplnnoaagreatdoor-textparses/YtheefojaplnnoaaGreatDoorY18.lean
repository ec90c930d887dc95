/-
  Texts Zc Zd Ze Zf Zg Zh.
-/
import Derived.Test.YtheefojaplnnoaaGreatDoorY17
set_option linter.unusedVariables false
set_option maxRecDepth 100000
set_option maxHeartbeats 16000000
namespace Go.Proofs.YtheefojaplnnoaaGreatDoor
open Go.Proofs.Tryz
open Go.RowKit
theorem Tryz.infFzZ:(prog.info? 78).map (fun i=>(i.zero,i.size,i.bytes))=some (some (.agg #[ZI 0,.string ⟨#[]⟩,ZN]),3,48):=ak
theorem Tryz.inlFzZ:(prog.info? 25).map (fun i=>(i.zero,i.size,i.bytes))=some (some (ZN),1,24):=ak
def jD(n p:Nat):Value:=if p%3=0 then ZI (nm n (p / 3)) else if p%3=1 then .string ⟨#[]⟩ else ZN
theorem Ou(n k:Nat):jD n (k*3)=ZI (nm n k):=by unfold jD; rw[if_pos ae,show(k*3) / 3=k by omega]
theorem Og(n k:Nat):jD n (k*3+1)=.string ⟨#[]⟩:=by unfold jD; rw[if_neg ae,if_pos ae]
theorem Ns(n k:Nat):jD n (k*3+2)=ZN:=by unfold jD; rw[if_neg ae,if_neg ae]
theorem qFz(n k:Nat):qG 3 jD n k=[ZI (nm n k),.string ⟨#[]⟩,ZN]:=by
 show [jD n (k*3+0),jD n (k*3+1),jD n (k*3+2)]=_;rw[show jD n (k*3+0)=_ from Ou n k,Og,Ns]
variable {w wr:World}{m n k:Nat}{N:Zam}
theorem Yc{G L C:Zak}(h:MaG 3 78 jD w m N G L C wr n)(hn:n<m)(hN:∀j,j<m->0<L j->N j)(hk:k<L n)(hinj:∀a b,a<m->b<m->N a->N b->G a=G b->a=b)
  (hp:∀t,t<k*3->wr.cell? (ZA (G n) t)=some (jD n t)) :
  MaG 3 78 jD w m N G L C (((wr.setCell (ZA (G n) (k*3)) (ZI (nm n k))).setCell (ZA (G n) (k*3+1)) (.string ⟨#[]⟩)).setCell (ZA (G n) (k*3+2)) (ZN)) n/\∀t,t<(k+1)*3->(((wr.setCell (ZA (G n) (k*3)) (ZI (nm n k))).setCell (ZA (G n) (k*3+1)) (.string ⟨#[]⟩)).setCell (ZA (G n) (k*3+2)) (ZN)).cell? (ZA (G n) t)=some (jD n t):=by
 have p0:=h.put hn hN (i:=k*3) ae hinj hp;rw[Ou]at p0;have p1:=p0.1.put hn hN (i:=k*3+1) ae hinj p0.2;rw[Og]at p1;have p2:=p1.1.put hn hN (i:=k*3+2) ae hinj p1.2;rw[Ns]at p2;exact wL
variable {z:Int}
theorem X5  : ∀y∈([ZI z,.string ⟨#[]⟩,ZN]:Zah),y.oneCell'=true:=by
 exact zI
variable {wa W:World}
theorem xz{f:Zak}{B j K c k:Nat}(h:TRG 3 78 jD wa f B j K c)(hk:k<K)(hb:Zx wa W):W.cell? (ZA B (k*3))=some (ZI (nm j k))/\W.cell? (ZA B (k*3+1))=some (.string ⟨#[]⟩)/\W.cell? (ZA B (k*3+2))=some (ZN) :=
 ⟨ai hb ((h.cell _ ae).trans (congrArg some (Ou j k))),ai hb ((h.cell _ ae).trans (congrArg some (Og j k))),ai hb ((h.cell _ ae).trans (congrArg some (Ns j k)))⟩
variable {xb:Nat}
theorem DU(h:XqG wa xb #[ZI z,.string ⟨#[]⟩,ZN] 78 W):XqG wa xb #[ZI z,.string ⟨#[]⟩,ZN] 78 (((W.setCell (ZA xb 0) (ZI z)).setCell (ZA xb 1) (.string ⟨#[]⟩)).setCell (ZA xb 2) (ZN)) :=
 h.puts ((kpZ.trans kpZ).trans kpZ) ((aT (aT (aT h.o))))
def Tk(w:World)(m:Nat)(N:Zam)(A:Zao)(G L C:Zak):Prop :=
 ∀j,j<m->(N j/\A j=some (ZA (G j) 0)/\∃xs,dL 3 w 78 (G j) (L j) (C j) xs)\/(¬N j/\A j=none/\L j=0/\C j=0)
theorem SX(GB X m cx:Nat)(N:Zam)(A:Zao)(G L C:Zak)(w:World)(hm:m<=300)
  (hg:w.cell? (ZA GB 10)=some (ZL X m cx))
  (hx:∀j,j<m->w.cell? (ZA X j)=some (.slice (A j) (L j) (C j)))
  (ho:Tk w m N A G L C) (hL:∀j,j<m->L j<=4194304)
  (hinj:∀a b,a<m->b<m->N a->N b->G a=G b->a=b) (ce:∀j,j<m->N j->¬GB=G j/\¬X=G j) :
  Zw 75 #[ZP GB 0] w fun e w'=>e=.returned (.bool true)/\Kept (Own m N G) w w':=by
 have hN:∀j,j<m->0<L j->N j/\A j=some (ZA (G j) 0):=fun j hj h0=>by
  exact kH
 have hR:∀j,j<m->N j->∃xs,dL 3 w 78 (G j) (L j) (C j) xs:=fun j hj h0=>by
  exact kD
 have hS:∀j,j<m->(N j/\A j=some (ZA (G j) 0))\/(A j=none/\L j=0/\C j=0):=fun j hj=>by
  exact kq
 obtain⟨HX,HL,HI,E',HN,HR⟩:=ZK hx hL hinj ce hN hR;obtain⟨HSN,HG⟩:=Zz hS hg;have mT:¬Own m N G GB:=fun⟨j,hj,hn,e⟩=>(ce j hj hn).1 e;have nX:¬Own m N G X:=fun⟨j,hj,hn,e⟩=>(ce j hj hn).2 e;obtain⟨NGB,NX⟩:=Zz mT nX;clear hx hL hinj ce ho hg mT nX hN hR hS;go_enter func75,ntmps75;go_wp2_with fail
 go_loopw [3] (fun i wr=>∃n:Nat,n<=m/\i=ZI n/\MaG 3 78 jD w m N G L C wr n) (fun i _=>m-(intOf i).toNat)
 case atStart=>exact⟨0,ae,rfl,Kept.refl _ _,HR.out,fun j hj=>absurd hj ae⟩
 case round =>
  obtain⟨n,hn,rfl,Cd⟩:=hrel;have c0:wr.cell? (ZA GB 10)=some (ZL X m cx):=Cd.kept.cell HG.out NGB.out
  by_cases hlt:n<m
  ·have HM:=hid Cd;clear Cd;go_wp2_with fail
   go_loopw [4] (fun i wr=>∃k:Nat,k<=L n/\i=ZI k/\MaG 3 78 jD w m N G L C wr n/\∀t,t<k*3->wr.cell? (ZA (G n) t)=some (jD n t)) (fun i _=>L n-(intOf i).toNat)
   case atStart=>exact⟨0,ae,rfl,HM.out,fun t ht=>absurd ht ae⟩
   case round =>
    obtain⟨k,hk,rfl,Cd,eh⟩:=hrel;clear c0;have hLn:=HL.out n hlt;have c0:wr.cell? (ZA GB 10)=some (ZL X m cx):=Cd.kept.cell HG.out NGB.out;have c1:wr.cell? (ZA X n)=some (.slice (A n) (L n) (C n)):=Cd.kept.cell (HX.out n hlt) NX.out
    by_cases hkl:k<L n
    ·obtain⟨V0,dp⟩:=HN.out n hlt ae;rw[dp]at c1;obtain⟨xs,hrow⟩:=Cd.rows n hlt V0
     have hcl:∀q,q<3->∃u,wr.cell? (ZA (G n) (k*3+q))=some u:=fun q hq=>⟨_,(hrow.cell (k*3+q) ae).trans (aD m8)⟩;obtain⟨u0,d0⟩:=hcl 0 ae;obtain⟨u1,d1⟩:=hcl 1 ae;obtain⟨u2,d2⟩:=hcl 2 ae;rw[Nat.add_zero]at d0;have z0:=hrow.free (k*3);have z1:=hrow.free (k*3+1);have z2:=hrow.free (k*3+2);have P:=hid (Yc Cd hlt (fun j hj h0=>(HN.out j hj h0).1) hkl HI.out eh);have gx:=E'.out n hlt V0;have g1:¬GB=G n:=gx.1;have g2:¬X=G n:=gx.2;have RE:n<=300:=ae;have hk3:k<=8388608:=ae;have kx:Kept (fun q=>q=G n) wr (((wr.setCell (ZA (G n) (k*3)) (ZI (nm n k))).setCell (ZA (G n) (k*3+1)) (.string ⟨#[]⟩)).setCell (ZA (G n) (k*3+2)) (ZN)):=(kpZ.trans kpZ).trans kpZ;have s0:(((wr.setCell (ZA (G n) (k*3)) (ZI (nm n k))).setCell (ZA (G n) (k*3+1)) (.string ⟨#[]⟩)).setCell (ZA (G n) (k*3+2)) (ZN)).cell? (ZA GB 10)=some (ZL X m cx):=kx.cell c0 g1;have s1:(((wr.setCell (ZA (G n) (k*3)) (ZI (nm n k))).setCell (ZA (G n) (k*3+1)) (.string ⟨#[]⟩)).setCell (ZA (G n) (k*3+2)) (ZN)).cell? (ZA X n)=some (ZL (G n) (L n) (C n)):=kx.cell c1 g2;clear Cd eh hrow HM gx hcl kx;go_wp2_with fail
     go_region_held3 (fun W=>W.cell? (ZA GB 10)=some (ZL X m cx)/\W.cell? (ZA X n)=some (ZL (G n) (L n) (C n))) (first | go_keep | (simp only[World.cell?_drew]; exact⟨s0,s1⟩))
      (first | (go_at_call 89; refine(gG n k _ RE hk3).mono ?_; rintro e w' ⟨rfl,rfl⟩))
     exact px
    have hkk:k=L n:=ae;subst hkk
    have D:=hid (show MaG 3 78 jD w m N G L C wr (n+1) from⟨Cd.kept,Cd.rows,fun j hj i hi=>by
     by_cases e:j=n
     ·subst e; exact eh i hi
     exact Cd.done j ae i hi⟩)
    exact jY
  have fj:m=n:=ae;subst fj;obtain⟨f0,UP⟩:=Cd.state 25 HI.out;have ge:=hid UP;obtain⟨i5,q0,q1,q2,q3⟩:=Z0 Tryz.infFzZ;obtain⟨b8,p0,p1,p2,p3⟩:=Z0 Tryz.inlFzZ;have hes:(25:TypeId)≠78:=au;clear Cd UP;go_wp2_with fail;clear c0
  go_loopw [5,6,7] (fun one more i wr=>∃(n:Nat)(f:Zak)(GO IS:Zah),n<=m/\i=ZI n/\StG 3 78 25 jD w m N G L C wr f n n one more GO IS) (fun _ _ i _=>m-(intOf i).toNat)
  case atStart=>exact⟨0,f0,[],[],ae,rfl,ge.out⟩
  case round =>
   obtain⟨n,f,GO,IS,fj,rfl,hst⟩:=hrel;have c0:wr.cell? (ZA GB 10)=some (ZL X m cx):=hst.kept.cell HG.out NGB.out
   by_cases FG:n<m
   ·have hLn:=HL.out n FG;have c1:wr.cell? (ZA X n)=some (.slice (A n) (L n) (C n)):=hst.kept.cell (HX.out n FG) NX.out;have HST:=hid hst;clear hst ge;go_wp2_with fail;clear c0 c1
    go_loopw [5,8,9] (fun one l i wr=>∃(k n1:Nat)(f:Zak)(GO:Zah),L n<=k/\k<=L n+70/\i=ZI k/\nU 3 78 jD w N G wr f n k l/\((k=L n/\n1=n)\/(L n+1<=k/\n1=n+1))/\StG 3 78 25 jD w m N G L C wr f n1 n one u6 GO IS) (fun _ _ i _=>L n+70-(intOf i).toNat)
    case atStart =>
     exact mq
    case round =>
     obtain⟨k,n1,f,GO,It,hk1,rfl,GE,On,hst⟩:=hrel;obtain⟨la,lc,rfl⟩:=GE.slice;have c0:wr.cell? (ZA GB 10)=some (ZL X m cx):=hst.kept.cell HG.out NGB.out;have c1:wr.cell? (ZA X n)=some (.slice (A n) (L n) (C n)):=hst.kept.cell (HX.out n FG) NX.out
     by_cases hk:k<L n+70
     ·skip
      have RE:n<=300:=ae;have hk3:k<=8388608:=ae;have hown:(wr.alloc (aN (nm n k) ⟨#[]⟩ none 0 0)).ownsRow 0 78 3 (.slice la k lc) k (mlG 3 jD n k):=(GE.kept (Kept.alloc (fun _=>False) wr _)).own;obtain⟨HOW,IF,D',sC⟩:=ZF hown hst GE On;have hb1:k+1<=maxLen:=aP;have hb2:(k+1)*48<=140737488355328:=ae;have hb3:n+1<=maxLen:=aP;have hb4:(n+1)*24<=140737488355328:=ae;clear hown hst GE On
      go_upto_region 17 with (first
       | (go_at_call 89; refine(gG n k _ RE hk3).mono ?_; rintro e w' ⟨rfl,rfl⟩)
       | (at_builtin; refine jF _ rfl (.tmp 79) (.tmp 84) 25 rfl 78 i5 (.agg #[ZI 0,.string ⟨#[]⟩,ZN]) 48 underlying25 q0 q1 q2 q3 rfl _ k _ rfl HOW.out (ZA w'.heap.size 0) [ZI (nm n k),.string ⟨#[]⟩,ZN] rfl rfl (Mk _ _ _ _ _) X5 hb1 hb2 ?_; intro B cap' w2 hrow AS; rw[<- qFz]at hrow; obtain⟨f',hs2,ht2,hg2⟩:=mn hes IF.out D'.out FG _ hrow AS It sC.out lRn; have c0':=hs2.kept.cell HG.out NGB.out; have c1':=hs2.kept.cell (HX.out n FG) NX.out; have S2:=hid hs2; have T2:=hid ht2; have G2:=hid hg2; clear hs2 ht2 hg2 hrow AS))
      by_cases hke:k=L n
      ·have hkb:((k:Int)==(L n:Int))=true:=gu;have hIO:n1=n:=kY;subst hIO;have KE:=hid hke;clear hke
       go_wp2_with (first
        | (at_builtin; refine bO _ rfl (.tmp 96) (.tmp 98) 51 rfl 25 b8 (ZN) 24 underlying51 p0 p1 p2 p3 rfl _ n1 _ rfl mt (ZA w2.heap.size 0) (ZL B (k+1) cap') rfl dh rfl hb3 hb4 ?_; intro B2 cap2 w3 hrow2 AM; obtain⟨hs3,eq⟩:=mR hes S2.out mY T2.out _ hrow2 AM; have S3:=hid hs3; have T3:=hid eq; clear hs3 eq hrow2 AM))
       exact ke
      exact mQ
     obtain rfl:k=L n+70:=ae;have hIO:n1=n+1:=ae;subst hIO;have hb3:n+1<=maxLen:=aP;have hb4:(n+1)*24<=140737488355328:=ae
     rcases GE with ⟨_,h0⟩ | ⟨g,cap,hv,htr,_⟩
     ·omega
     simp only[Value.slice.injEq,true_and]at hv;obtain⟨rfl,rfl⟩:=hv;obtain⟨IF,q'⟩:=Zz hst htr;clear hst htr On
     go_wp2_with (first
       | (at_builtin; refine bO _ rfl (.tmp 100) (.tmp 102) 51 rfl 25 b8 (ZN) 24 underlying51 p0 p1 p2 p3 rfl _ n _ rfl mG (ZA wr.heap.size 0) (ZL g (L n+70) lc) rfl dh rfl hb3 hb4 ?_; intro B2 cap2 w3 hrow2 AM; have S3:=hid (mZ hes IF.out rfl q'.out _ hrow2 AM); clear hrow2 AM))
     exact ku
   have eS:m=n:=ae;subst eS;obtain⟨oa,oc,e5,h5⟩:=aR hst.ownOne;obtain⟨ma,mc,e6,h6⟩:=aR hst.ownMore;subst e5;subst e6;obtain⟨HST,H5,H6⟩:=ZH hst h5 h6;clear hst ge h5 h6;go_wp2_with fail;clear c0;generalize wr=wa at *
   go_loopw [10] (fun i wq=>∃n:Nat,n<=m/\i=ZI n/\Zx wa wq) (fun i _=>m-(intOf i).toNat)
   case atStart=>exact⟨0,ae,rfl,ZT _ _⟩
   case round =>
    obtain⟨n,zd,rfl,lp⟩:=hrel
    by_cases By:n<m
    ·have hLn:=HL.out n By
     obtain⟨OB,rfl,ZS⟩:∃B,oa=some (ZA B 0)/\∀j,j<m->wa.cell? (ZA B j)=GO[j]?:=by
      exact j6
     obtain⟨MB,rfl,lk⟩:∃B,ma=some (ZA B 0)/\∀j,j<m->wa.cell? (ZA B j)=IS[j]?:=by
      exact ko
     obtain⟨B1,b1c,hb1,ht1⟩:=HST.out.ones n By;obtain⟨B2,b2c,hb2,ht2⟩:=HST.out.mores n By;have CO:=hid ((ZS n By).trans hb1);have CM:=hid ((lk n By).trans hb2);have C0:=hid (show wa.cell? (ZA GB 10)=some (ZL X m cx) from HST.out.kept.cell HG.out NGB.out);have C1:=hid (show wa.cell? (ZA X n)=some (.slice (A n) (L n) (C n)) from HST.out.kept.cell (HX.out n By) NX.out);have T0:=hid (fun hN=>HST.out.own n By hN);obtain⟨T1,T2,gk⟩:=ZH ht1 ht2 lp;clear ZS lk hb1 hb2 ht1 ht2 H5 H6 HST lp;go_wp2_with fail;generalize wr=wb at *
     go_loopw [11] (fun i wq=>∃k:Nat,k<=L n+70/\i=ZI k/\Zx wa wq) (fun i _=>L n+70-(intOf i).toNat)
     case atStart=>exact⟨0,ae,rfl,gk.out⟩
     case round =>
      obtain⟨k,hk,rfl,oj⟩:=hrel;have cm:=ai oj CM.out;have vm:=hid oj;clear oj gk
      by_cases am:k<L n+70
      ·obtain⟨m0,m1,m2⟩:=xz T2.out am vm.out;have RE:n<=300:=ae;have hk3:k<=8388608:=ae
       go_upto_region 26 with fail
       go_cut [12] from 119 to 125 (fun v wx=>∃xb,v=ZP xb 0/\Hid (XqG wa xb #[ZI (nm n k),.string ⟨#[]⟩,ZN] 78 wx))
       case first =>
        go_wp2_with fail
        go_meet
        exact⟨_,rfl,hid (XqG.new vm.out #[ZI (nm n k),.string ⟨#[]⟩,ZN] 78)⟩
       case rest =>
       obtain⟨xb,rfl,XQ⟩:=hcut;clear cm m0 m1 m2;generalize wc=W1 at *;rename_i K5 hK5;refine hK5 _ _ (wp_seq_k fun K6 vj=>?_);clear hK5
       go_cut [] from 126 to 145 (fun wx=>Hid (XqG wa xb #[ZI (nm n k),.string ⟨#[]⟩,ZN] 78 wx))
       case first =>
        have c0:=ai XQ.out.b C0.out;have c1:=ai XQ.out.b C1.out
        by_cases hka:k<L n
        ·obtain⟨V0,dp⟩:=HN.out n By ae;rw[dp]at c1;obtain⟨m0,m1,m2⟩:=xz (T0.out V0) hka XQ.out.b;have x0:=XQ.out.c 0 (ZI (nm n k)) rfl;have x1:=XQ.out.c 1 (.string ⟨#[]⟩) rfl;have x2:=XQ.out.c 2 (ZN) rfl;have z0:=XQ.out.f 0;have z1:=XQ.out.f 1;have z2:=XQ.out.f 2;go_wp2_with fail
         go_meet
         exact hid (DU XQ.out)
        exact nS
       case rest =>
       clear XQ;have XQ:=hid hcut.out;clear hcut;generalize wc=W2 at *;refine vj _ _ (wp_seq_k fun K7 hK7=>?_);clear vj
       go_cut [] from 146 to 162 (fun wx=>Hid (XqG wa xb #[ZI (nm n k),.string ⟨#[]⟩,ZN] 78 wx))
       case first =>
        have c0:=ai XQ.out.b C0.out;have c1:=ai XQ.out.b C1.out
        by_cases hke:k=L n
        ·have co:=ai XQ.out.b CO.out;have hkb:((k:Int)==(L n:Int))=true:=gu;have hkl:k<L n+1:=ae;obtain⟨m0,m1,m2⟩:=xz T1.out hkl XQ.out.b;have x0:=XQ.out.c 0 (ZI (nm n k)) rfl;have x1:=XQ.out.c 1 (.string ⟨#[]⟩) rfl;have x2:=XQ.out.c 2 (ZN) rfl;have z0:=XQ.out.f 0;have z1:=XQ.out.f 1;have z2:=XQ.out.f 2;clear hke;go_wp2_with fail
         go_meet
         exact hid (DU XQ.out)
        exact nA
       case rest =>
       clear XQ;have XQ:=hid hcut.out;clear hcut;generalize wc=W3 at *
       go_upto_region 31 with fail
       have x0:=XQ.out.c 0 (ZI (nm n k)) rfl;have x1:=XQ.out.c 1 (.string ⟨#[]⟩) rfl;have x2:=XQ.out.c 2 (ZN) rfl
       go_region_held3 (fun W=>W.cell? (ZA xb 0)=some (ZI (nm n k))/\W.cell? (ZA xb 2)=some (ZN)) (first | go_keep | (simp only[World.cell?_drew]; exact⟨x0,x2⟩))
        (first | (go_at_call 89; refine(gG n k _ RE hk3).mono ?_; rintro e w' ⟨rfl,rfl⟩))
       clear x0 x1 x2;have ap:=hid XQ.out.drew;generalize W3.drew=W4 at *;clear XQ;have XQ:=hid ap.out;clear ap;have cm:=ai XQ.out.b CM.out;obtain⟨m0,m1,m2⟩:=xz T2.out am XQ.out.b;have x0:=XQ.out.c 0 (ZI (nm n k)) rfl;have x1:=XQ.out.c 1 (.string ⟨#[]⟩) rfl;have x2:=XQ.out.c 2 (ZN) rfl;have z0:=XQ.out.f 0;have z1:=XQ.out.f 1;have z2:=XQ.out.f 2
       go_upto_region 33 with fail
       clear cm m0 m1 m2 x0 x1 x2 z0 z1 z2;have ap:=hid (DU XQ.out);generalize (((W4.setCell (ZA xb 0) (ZI (nm n k))).setCell (ZA xb 1) (.string ⟨#[]⟩)).setCell (ZA xb 2) (ZN))=W5 at *;clear XQ;have XQ:=hid ap.out;clear ap;have x0:=XQ.out.c 0 (ZI (nm n k)) rfl;have x1:=XQ.out.c 1 (.string ⟨#[]⟩) rfl;have x2:=XQ.out.c 2 (ZN) rfl
       go_region_held3 (fun W=>W.cell? (ZA xb 0)=some (ZI (nm n k))/\W.cell? (ZA xb 2)=some (ZN)) (first | go_keep | (simp only[World.cell?_drew]; exact⟨x0,x2⟩))
        (first | (go_at_call 89; refine(gG n k _ RE hk3).mono ?_; rintro e w' ⟨rfl,rfl⟩))
       exact xx
      exact nH
    exact nM
theorem Tryz.infDzZ:(prog.info? 81).map (fun i=>(i.zero,i.size,i.bytes))=some (some (.agg #[ZI 0,ZN]),2,32):=ak
theorem Tryz.inlDzZ:(prog.info? 26).map (fun i=>(i.zero,i.size,i.bytes))=some (some (ZN),1,24):=ak
def lg(n p:Nat):Value:=if p%2=0 then ZI (nm n (p / 2)) else ZN
theorem Mm(n k:Nat):lg n (k*2)=ZI (nm n k):=by unfold lg; rw[if_pos ae,show(k*2) / 2=k by omega]
theorem Qu(n k:Nat):lg n (k*2+1)=ZN:=by unfold lg; rw[if_neg ae]
theorem qDz(n k:Nat):qG 2 lg n k=[ZI (nm n k),ZN]:=by
 show [lg n (k*2+0),lg n (k*2+1)]=_;rw[show lg n (k*2+0)=_ from Mm n k,Qu]
theorem Yl{G L C:Zak}(h:MaG 2 81 lg w m N G L C wr n)(hn:n<m)(hN:∀j,j<m->0<L j->N j)(hk:k<L n)(hinj:∀a b,a<m->b<m->N a->N b->G a=G b->a=b)
  (hp:∀t,t<k*2->wr.cell? (ZA (G n) t)=some (lg n t)) :
  MaG 2 81 lg w m N G L C ((wr.setCell (ZA (G n) (k*2)) (ZI (nm n k))).setCell (ZA (G n) (k*2+1)) (ZN)) n/\∀t,t<(k+1)*2->((wr.setCell (ZA (G n) (k*2)) (ZI (nm n k))).setCell (ZA (G n) (k*2+1)) (ZN)).cell? (ZA (G n) t)=some (lg n t):=by
 have p0:=h.put hn hN (i:=k*2) ae hinj hp;rw[Mm]at p0;have p1:=p0.1.put hn hN (i:=k*2+1) ae hinj p0.2;rw[Qu]at p1;exact wC
theorem Ye  : ∀y∈([ZI z,ZN]:Zah),y.oneCell'=true:=by
 exact yq
theorem yo{f:Zak}{B j K c k:Nat}(h:TRG 2 81 lg wa f B j K c)(hk:k<K)(hb:Zx wa W):W.cell? (ZA B (k*2))=some (ZI (nm j k))/\W.cell? (ZA B (k*2+1))=some (ZN) :=
 ⟨ai hb ((h.cell _ ae).trans (congrArg some (Mm j k))),ai hb ((h.cell _ ae).trans (congrArg some (Qu j k)))⟩
theorem Dz(h:XqG wa xb #[ZI z,ZN] 81 W):XqG wa xb #[ZI z,ZN] 81 ((W.setCell (ZA xb 0) (ZI z)).setCell (ZA xb 1) (ZN)) :=
 h.puts (kpZ.trans kpZ) ((aT (aT h.o)))
def Uj(w:World)(m:Nat)(N:Zam)(A:Zao)(G L C:Zak):Prop :=
 ∀j,j<m->(N j/\A j=some (ZA (G j) 0)/\∃xs,dL 2 w 81 (G j) (L j) (C j) xs)\/(¬N j/\A j=none/\L j=0/\C j=0)
theorem Uf(GB X m cx:Nat)(N:Zam)(A:Zao)(G L C:Zak)(w:World)(hm:m<=300)
  (hg:w.cell? (ZA GB 11)=some (ZL X m cx))
  (hx:∀j,j<m->w.cell? (ZA X j)=some (.slice (A j) (L j) (C j)))
  (ho:Uj w m N A G L C) (hL:∀j,j<m->L j<=4194304)
  (hinj:∀a b,a<m->b<m->N a->N b->G a=G b->a=b) (ce:∀j,j<m->N j->¬GB=G j/\¬X=G j) :
  Zw 76 #[ZP GB 0] w fun e w'=>e=.returned (.bool true)/\Kept (Own m N G) w w':=by
 have hN:∀j,j<m->0<L j->N j/\A j=some (ZA (G j) 0):=fun j hj h0=>by
  exact kH
 have hR:∀j,j<m->N j->∃xs,dL 2 w 81 (G j) (L j) (C j) xs:=fun j hj h0=>by
  exact kD
 have hS:∀j,j<m->(N j/\A j=some (ZA (G j) 0))\/(A j=none/\L j=0/\C j=0):=fun j hj=>by
  exact kq
 obtain⟨HX,HL,HI,E',HN,HR⟩:=ZK hx hL hinj ce hN hR;obtain⟨HSN,HG⟩:=Zz hS hg;have mT:¬Own m N G GB:=fun⟨j,hj,hn,e⟩=>(ce j hj hn).1 e;have nX:¬Own m N G X:=fun⟨j,hj,hn,e⟩=>(ce j hj hn).2 e;obtain⟨NGB,NX⟩:=Zz mT nX;clear hx hL hinj ce ho hg mT nX hN hR hS;go_enter func76,ntmps76;go_wp2_with fail
 go_loopw [3] (fun i wr=>∃n:Nat,n<=m/\i=ZI n/\MaG 2 81 lg w m N G L C wr n) (fun i _=>m-(intOf i).toNat)
 case atStart=>exact⟨0,ae,rfl,Kept.refl _ _,HR.out,fun j hj=>absurd hj ae⟩
 case round =>
  obtain⟨n,hn,rfl,Cd⟩:=hrel;have c0:wr.cell? (ZA GB 11)=some (ZL X m cx):=Cd.kept.cell HG.out NGB.out
  by_cases hlt:n<m
  ·have HM:=hid Cd;clear Cd;go_wp2_with fail
   go_loopw [4] (fun i wr=>∃k:Nat,k<=L n/\i=ZI k/\MaG 2 81 lg w m N G L C wr n/\∀t,t<k*2->wr.cell? (ZA (G n) t)=some (lg n t)) (fun i _=>L n-(intOf i).toNat)
   case atStart=>exact⟨0,ae,rfl,HM.out,fun t ht=>absurd ht ae⟩
   case round =>
    obtain⟨k,hk,rfl,Cd,eh⟩:=hrel;clear c0;have hLn:=HL.out n hlt;have c0:wr.cell? (ZA GB 11)=some (ZL X m cx):=Cd.kept.cell HG.out NGB.out;have c1:wr.cell? (ZA X n)=some (.slice (A n) (L n) (C n)):=Cd.kept.cell (HX.out n hlt) NX.out
    by_cases hkl:k<L n
    ·obtain⟨V0,dp⟩:=HN.out n hlt ae;rw[dp]at c1;obtain⟨xs,hrow⟩:=Cd.rows n hlt V0
     have hcl:∀q,q<2->∃u,wr.cell? (ZA (G n) (k*2+q))=some u:=fun q hq=>⟨_,(hrow.cell (k*2+q) ae).trans (aD m8)⟩;obtain⟨u0,d0⟩:=hcl 0 ae;obtain⟨u1,d1⟩:=hcl 1 ae;rw[Nat.add_zero]at d0;have z0:=hrow.free (k*2);have z1:=hrow.free (k*2+1);have P:=hid (Yl Cd hlt (fun j hj h0=>(HN.out j hj h0).1) hkl HI.out eh);have gx:=E'.out n hlt V0;have g1:¬GB=G n:=gx.1;have g2:¬X=G n:=gx.2;have RE:n<=300:=ae;have hk3:k<=8388608:=ae;have kx:Kept (fun q=>q=G n) wr ((wr.setCell (ZA (G n) (k*2)) (ZI (nm n k))).setCell (ZA (G n) (k*2+1)) (ZN)):=kpZ.trans kpZ;have s0:((wr.setCell (ZA (G n) (k*2)) (ZI (nm n k))).setCell (ZA (G n) (k*2+1)) (ZN)).cell? (ZA GB 11)=some (ZL X m cx):=kx.cell c0 g1;have s1:((wr.setCell (ZA (G n) (k*2)) (ZI (nm n k))).setCell (ZA (G n) (k*2+1)) (ZN)).cell? (ZA X n)=some (ZL (G n) (L n) (C n)):=kx.cell c1 g2;clear Cd eh hrow HM gx hcl kx;go_wp2_with fail
     go_region_held3 (fun W=>W.cell? (ZA GB 11)=some (ZL X m cx)/\W.cell? (ZA X n)=some (ZL (G n) (L n) (C n))) (first | go_keep | (simp only[World.cell?_drew]; exact⟨s0,s1⟩))
      (first | (go_at_call 89; refine(gG n k _ RE hk3).mono ?_; rintro e w' ⟨rfl,rfl⟩))
     exact px
    have hkk:k=L n:=ae;subst hkk
    have D:=hid (show MaG 2 81 lg w m N G L C wr (n+1) from⟨Cd.kept,Cd.rows,fun j hj i hi=>by
     by_cases e:j=n
     ·subst e; exact eh i hi
     exact Cd.done j ae i hi⟩)
    exact jY
  have fj:m=n:=ae;subst fj;obtain⟨f0,UP⟩:=Cd.state 26 HI.out;have ge:=hid UP;obtain⟨i5,q0,q1,q2,q3⟩:=Z0 Tryz.infDzZ;obtain⟨b8,p0,p1,p2,p3⟩:=Z0 Tryz.inlDzZ;have hes:(26:TypeId)≠81:=au;clear Cd UP;go_wp2_with fail;clear c0
  go_loopw [5,6,7] (fun one more i wr=>∃(n:Nat)(f:Zak)(GO IS:Zah),n<=m/\i=ZI n/\StG 2 81 26 lg w m N G L C wr f n n one more GO IS) (fun _ _ i _=>m-(intOf i).toNat)
  case atStart=>exact⟨0,f0,[],[],ae,rfl,ge.out⟩
  case round =>
   obtain⟨n,f,GO,IS,fj,rfl,hst⟩:=hrel;have c0:wr.cell? (ZA GB 11)=some (ZL X m cx):=hst.kept.cell HG.out NGB.out
   by_cases FG:n<m
   ·have hLn:=HL.out n FG;have c1:wr.cell? (ZA X n)=some (.slice (A n) (L n) (C n)):=hst.kept.cell (HX.out n FG) NX.out;have HST:=hid hst;clear hst ge;go_wp2_with fail;clear c0 c1
    go_loopw [5,8,9] (fun one l i wr=>∃(k n1:Nat)(f:Zak)(GO:Zah),L n<=k/\k<=L n+70/\i=ZI k/\nU 2 81 lg w N G wr f n k l/\((k=L n/\n1=n)\/(L n+1<=k/\n1=n+1))/\StG 2 81 26 lg w m N G L C wr f n1 n one u6 GO IS) (fun _ _ i _=>L n+70-(intOf i).toNat)
    case atStart =>
     exact mq
    case round =>
     obtain⟨k,n1,f,GO,It,hk1,rfl,GE,On,hst⟩:=hrel;obtain⟨la,lc,rfl⟩:=GE.slice;have c0:wr.cell? (ZA GB 11)=some (ZL X m cx):=hst.kept.cell HG.out NGB.out;have c1:wr.cell? (ZA X n)=some (.slice (A n) (L n) (C n)):=hst.kept.cell (HX.out n FG) NX.out
     by_cases hk:k<L n+70
     ·skip
      have RE:n<=300:=ae;have hk3:k<=8388608:=ae;have hown:(wr.alloc (bo (nm n k) none 0 0)).ownsRow 0 81 2 (.slice la k lc) k (mlG 2 lg n k):=(GE.kept (Kept.alloc (fun _=>False) wr _)).own;obtain⟨HOW,IF,D',sC⟩:=ZF hown hst GE On;have hb1:k+1<=maxLen:=aP;have hb2:(k+1)*32<=140737488355328:=ae;have hb3:n+1<=maxLen:=aP;have hb4:(n+1)*24<=140737488355328:=ae;clear hown hst GE On
      go_upto_region 17 with (first
       | (go_at_call 89; refine(gG n k _ RE hk3).mono ?_; rintro e w' ⟨rfl,rfl⟩)
       | (at_builtin; refine jF _ rfl (.tmp 79) (.tmp 84) 26 rfl 81 i5 (.agg #[ZI 0,ZN]) 32 underlying26 q0 q1 q2 q3 rfl _ k _ rfl HOW.out (ZA w'.heap.size 0) [ZI (nm n k),ZN] rfl rfl (NW _ _ _ _) Ye hb1 hb2 ?_; intro B cap' w2 hrow AS; rw[<- qDz]at hrow; obtain⟨f',hs2,ht2,hg2⟩:=mn hes IF.out D'.out FG _ hrow AS It sC.out lRn; have c0':=hs2.kept.cell HG.out NGB.out; have c1':=hs2.kept.cell (HX.out n FG) NX.out; have S2:=hid hs2; have T2:=hid ht2; have G2:=hid hg2; clear hs2 ht2 hg2 hrow AS))
      by_cases hke:k=L n
      ·have hkb:((k:Int)==(L n:Int))=true:=gu;have hIO:n1=n:=kY;subst hIO;have KE:=hid hke;clear hke
       go_wp2_with (first
        | (at_builtin; refine bO _ rfl (.tmp 96) (.tmp 98) 52 rfl 26 b8 (ZN) 24 underlying52 p0 p1 p2 p3 rfl _ n1 _ rfl mt (ZA w2.heap.size 0) (ZL B (k+1) cap') rfl dh rfl hb3 hb4 ?_; intro B2 cap2 w3 hrow2 AM; obtain⟨hs3,eq⟩:=mR hes S2.out mY T2.out _ hrow2 AM; have S3:=hid hs3; have T3:=hid eq; clear hs3 eq hrow2 AM))
       exact ke
      exact mQ
     obtain rfl:k=L n+70:=ae;have hIO:n1=n+1:=ae;subst hIO;have hb3:n+1<=maxLen:=aP;have hb4:(n+1)*24<=140737488355328:=ae
     rcases GE with ⟨_,h0⟩ | ⟨g,cap,hv,htr,_⟩
     ·omega
     simp only[Value.slice.injEq,true_and]at hv;obtain⟨rfl,rfl⟩:=hv;obtain⟨IF,q'⟩:=Zz hst htr;clear hst htr On
     go_wp2_with (first
       | (at_builtin; refine bO _ rfl (.tmp 100) (.tmp 102) 52 rfl 26 b8 (ZN) 24 underlying52 p0 p1 p2 p3 rfl _ n _ rfl mG (ZA wr.heap.size 0) (ZL g (L n+70) lc) rfl dh rfl hb3 hb4 ?_; intro B2 cap2 w3 hrow2 AM; have S3:=hid (mZ hes IF.out rfl q'.out _ hrow2 AM); clear hrow2 AM))
     exact ku
   have eS:m=n:=ae;subst eS;obtain⟨oa,oc,e5,h5⟩:=aR hst.ownOne;obtain⟨ma,mc,e6,h6⟩:=aR hst.ownMore;subst e5;subst e6;obtain⟨HST,H5,H6⟩:=ZH hst h5 h6;clear hst ge h5 h6;go_wp2_with fail;clear c0;generalize wr=wa at *
   go_loopw [10] (fun i wq=>∃n:Nat,n<=m/\i=ZI n/\Zx wa wq) (fun i _=>m-(intOf i).toNat)
   case atStart=>exact⟨0,ae,rfl,ZT _ _⟩
   case round =>
    obtain⟨n,zd,rfl,lp⟩:=hrel
    by_cases By:n<m
    ·have hLn:=HL.out n By
     obtain⟨OB,rfl,ZS⟩:∃B,oa=some (ZA B 0)/\∀j,j<m->wa.cell? (ZA B j)=GO[j]?:=by
      exact j6
     obtain⟨MB,rfl,lk⟩:∃B,ma=some (ZA B 0)/\∀j,j<m->wa.cell? (ZA B j)=IS[j]?:=by
      exact ko
     obtain⟨B1,b1c,hb1,ht1⟩:=HST.out.ones n By;obtain⟨B2,b2c,hb2,ht2⟩:=HST.out.mores n By;have CO:=hid ((ZS n By).trans hb1);have CM:=hid ((lk n By).trans hb2);have C0:=hid (show wa.cell? (ZA GB 11)=some (ZL X m cx) from HST.out.kept.cell HG.out NGB.out);have C1:=hid (show wa.cell? (ZA X n)=some (.slice (A n) (L n) (C n)) from HST.out.kept.cell (HX.out n By) NX.out);have T0:=hid (fun hN=>HST.out.own n By hN);obtain⟨T1,T2,gk⟩:=ZH ht1 ht2 lp;clear ZS lk hb1 hb2 ht1 ht2 H5 H6 HST lp;go_wp2_with fail;generalize wr=wb at *
     go_loopw [11] (fun i wq=>∃k:Nat,k<=L n+70/\i=ZI k/\Zx wa wq) (fun i _=>L n+70-(intOf i).toNat)
     case atStart=>exact⟨0,ae,rfl,gk.out⟩
     case round =>
      obtain⟨k,hk,rfl,oj⟩:=hrel;have cm:=ai oj CM.out;have vm:=hid oj;clear oj gk
      by_cases am:k<L n+70
      ·obtain⟨m0,m1⟩:=yo T2.out am vm.out;have RE:n<=300:=ae;have hk3:k<=8388608:=ae
       go_upto_region 26 with fail
       go_cut [12] from 119 to 125 (fun v wx=>∃xb,v=ZP xb 0/\Hid (XqG wa xb #[ZI (nm n k),ZN] 81 wx))
       case first =>
        go_wp2_with fail
        go_meet
        exact⟨_,rfl,hid (XqG.new vm.out #[ZI (nm n k),ZN] 81)⟩
       case rest =>
       obtain⟨xb,rfl,XQ⟩:=hcut;clear cm m0 m1;generalize wc=W1 at *;rename_i K5 hK5;refine hK5 _ _ (wp_seq_k fun K6 vj=>?_);clear hK5
       go_cut [] from 126 to 145 (fun wx=>Hid (XqG wa xb #[ZI (nm n k),ZN] 81 wx))
       case first =>
        have c0:=ai XQ.out.b C0.out;have c1:=ai XQ.out.b C1.out
        by_cases hka:k<L n
        ·obtain⟨V0,dp⟩:=HN.out n By ae;rw[dp]at c1;obtain⟨m0,m1⟩:=yo (T0.out V0) hka XQ.out.b;have x0:=XQ.out.c 0 (ZI (nm n k)) rfl;have x1:=XQ.out.c 1 (ZN) rfl;have z0:=XQ.out.f 0;have z1:=XQ.out.f 1;go_wp2_with fail
         go_meet
         exact hid (Dz XQ.out)
        exact nS
       case rest =>
       clear XQ;have XQ:=hid hcut.out;clear hcut;generalize wc=W2 at *;refine vj _ _ (wp_seq_k fun K7 hK7=>?_);clear vj
       go_cut [] from 146 to 162 (fun wx=>Hid (XqG wa xb #[ZI (nm n k),ZN] 81 wx))
       case first =>
        have c0:=ai XQ.out.b C0.out;have c1:=ai XQ.out.b C1.out
        by_cases hke:k=L n
        ·have co:=ai XQ.out.b CO.out;have hkb:((k:Int)==(L n:Int))=true:=gu;have hkl:k<L n+1:=ae;obtain⟨m0,m1⟩:=yo T1.out hkl XQ.out.b;have x0:=XQ.out.c 0 (ZI (nm n k)) rfl;have x1:=XQ.out.c 1 (ZN) rfl;have z0:=XQ.out.f 0;have z1:=XQ.out.f 1;clear hke;go_wp2_with fail
         go_meet
         exact hid (Dz XQ.out)
        exact nA
       case rest =>
       clear XQ;have XQ:=hid hcut.out;clear hcut;generalize wc=W3 at *
       go_upto_region 31 with fail
       have x0:=XQ.out.c 0 (ZI (nm n k)) rfl;have x1:=XQ.out.c 1 (ZN) rfl
       go_region_held3 (fun W=>W.cell? (ZA xb 0)=some (ZI (nm n k))/\W.cell? (ZA xb 1)=some (ZN)) (first | go_keep | (simp only[World.cell?_drew]; exact⟨x0,x1⟩))
        (first | (go_at_call 89; refine(gG n k _ RE hk3).mono ?_; rintro e w' ⟨rfl,rfl⟩))
       clear x0 x1;have ap:=hid XQ.out.drew;generalize W3.drew=W4 at *;clear XQ;have XQ:=hid ap.out;clear ap;have cm:=ai XQ.out.b CM.out;obtain⟨m0,m1⟩:=yo T2.out am XQ.out.b;have x0:=XQ.out.c 0 (ZI (nm n k)) rfl;have x1:=XQ.out.c 1 (ZN) rfl;have z0:=XQ.out.f 0;have z1:=XQ.out.f 1
       go_upto_region 33 with fail
       clear cm m0 m1 x0 x1 z0 z1;have ap:=hid (Dz XQ.out);generalize ((W4.setCell (ZA xb 0) (ZI (nm n k))).setCell (ZA xb 1) (ZN))=W5 at *;clear XQ;have XQ:=hid ap.out;clear ap;have x0:=XQ.out.c 0 (ZI (nm n k)) rfl;have x1:=XQ.out.c 1 (ZN) rfl
       go_region_held3 (fun W=>W.cell? (ZA xb 0)=some (ZI (nm n k))/\W.cell? (ZA xb 1)=some (ZN)) (first | go_keep | (simp only[World.cell?_drew]; exact⟨x0,x1⟩))
        (first | (go_at_call 89; refine(gG n k _ RE hk3).mono ?_; rintro e w' ⟨rfl,rfl⟩))
       clear x0 x1;have ap:=hid XQ.out.drew;generalize W5.drew=W6 at *;go_wp2_with fail;exact⟨⟨k+1,ae,bu,ap.out.b⟩,bD⟩
      exact nH
    exact nM
section
theorem Tryz.infGzZ:(prog.info? 102).map (fun i=>(i.zero,i.size,i.bytes))=some (some (.agg #[ZU 0,.bool false,.int .u64 0]),3,16):=ak
theorem Tryz.inlGzZ:(prog.info? 24).map (fun i=>(i.zero,i.size,i.bytes))=some (some (ZN),1,24):=ak
def jA(n p:Nat):Value:=if p%3=0 then ZU 0 else if p%3=1 then .bool false else .int .u64 (nm n (p / 3))
theorem Oz(n k:Nat):jA n (k*3)=ZU 0:=by unfold jA; rw[if_pos ae]
theorem NA(n k:Nat):jA n (k*3+1)=.bool false:=by unfold jA; rw[if_neg ae,if_pos ae]
theorem OD(n k:Nat):jA n (k*3+2)=.int .u64 (nm n k):=by unfold jA; rw[if_neg ae,if_neg ae,show(k*3+2) / 3=k by omega]
theorem qGz(n k:Nat):qG 3 jA n k=[ZU 0,.bool false,.int .u64 (nm n k)]:=by
 show [jA n (k*3+0),jA n (k*3+1),jA n (k*3+2)]=_;rw[show jA n (k*3+0)=_ from Oz n k,NA,OD]
variable {w wr:World}{m n k:Nat}{N:Zam}
theorem X7{G L C:Zak}(h:MaG 3 102 jA w m N G L C wr n)(hn:n<m)(hN:∀j,j<m->0<L j->N j)(hk:k<L n)(hinj:∀a b,a<m->b<m->N a->N b->G a=G b->a=b)
  (hp:∀t,t<k*3->wr.cell? (ZA (G n) t)=some (jA n t)) :
  MaG 3 102 jA w m N G L C (((wr.setCell (ZA (G n) (k*3)) (ZU 0)).setCell (ZA (G n) (k*3+1)) (.bool false)).setCell (ZA (G n) (k*3+2)) (.int .u64 (nm n k))) n/\∀t,t<(k+1)*3->(((wr.setCell (ZA (G n) (k*3)) (ZU 0)).setCell (ZA (G n) (k*3+1)) (.bool false)).setCell (ZA (G n) (k*3+2)) (.int .u64 (nm n k))).cell? (ZA (G n) t)=some (jA n t):=by
 have p0:=h.put hn hN (i:=k*3) ae hinj hp;rw[Oz]at p0;have p1:=p0.1.put hn hN (i:=k*3+1) ae hinj p0.2;rw[NA]at p1;have p2:=p1.1.put hn hN (i:=k*3+2) ae hinj p1.2;rw[OD]at p2;exact wL
variable {z:Int}
theorem Xw  : ∀y∈([ZU 0,.bool false,.int .u64 z]:Zah),y.oneCell'=true:=by
 exact zI
variable {wa W:World}
theorem xe{f:Zak}{B j K c k:Nat}(h:TRG 3 102 jA wa f B j K c)(hk:k<K)(hb:Zx wa W):W.cell? (ZA B (k*3))=some (ZU 0)/\W.cell? (ZA B (k*3+1))=some (.bool false)/\W.cell? (ZA B (k*3+2))=some (.int .u64 (nm j k)) :=
 ⟨ai hb ((h.cell _ ae).trans (congrArg some (Oz j k))),ai hb ((h.cell _ ae).trans (congrArg some (NA j k))),ai hb ((h.cell _ ae).trans (congrArg some (OD j k)))⟩
variable {xb:Nat}
theorem CW(h:XqG wa xb #[ZU 0,.bool false,.int .u64 z] 102 W):XqG wa xb #[ZU 0,.bool false,.int .u64 z] 102 (((W.setCell (ZA xb 0) (ZU 0)).setCell (ZA xb 1) (.bool false)).setCell (ZA xb 2) (.int .u64 z)) :=
 h.puts ((kpZ.trans kpZ).trans kpZ) ((aT (aT (aT h.o))))
def Rm(w:World)(m:Nat)(N:Zam)(A:Zao)(G L C:Zak):Prop :=
 ∀j,j<m->(N j/\A j=some (ZA (G j) 0)/\∃xs,dL 3 w 102 (G j) (L j) (C j) xs)\/(¬N j/\A j=none/\L j=0/\C j=0)
theorem RO(GB X m cx:Nat)(N:Zam)(A:Zao)(G L C:Zak)(w:World)(hm:m<=300)
  (hg:w.cell? (ZA GB 7)=some (ZL X m cx))
  (hx:∀j,j<m->w.cell? (ZA X j)=some (.slice (A j) (L j) (C j)))
  (ho:Rm w m N A G L C) (hL:∀j,j<m->L j<=4194304)
  (hinj:∀a b,a<m->b<m->N a->N b->G a=G b->a=b) (ce:∀j,j<m->N j->¬GB=G j/\¬X=G j) :
  Zw 72 #[ZP GB 0] w fun e w'=>e=.returned (.bool true)/\Kept (Own m N G) w w':=by
 have hN:∀j,j<m->0<L j->N j/\A j=some (ZA (G j) 0):=fun j hj h0=>by
  exact kH
 have hR:∀j,j<m->N j->∃xs,dL 3 w 102 (G j) (L j) (C j) xs:=fun j hj h0=>by
  exact kD
 have hS:∀j,j<m->(N j/\A j=some (ZA (G j) 0))\/(A j=none/\L j=0/\C j=0):=fun j hj=>by
  exact kq
 obtain⟨HX,HL,HI,E',HN,HR⟩:=ZK hx hL hinj ce hN hR;obtain⟨HSN,HG⟩:=Zz hS hg;have mT:¬Own m N G GB:=fun⟨j,hj,hn,e⟩=>(ce j hj hn).1 e;have nX:¬Own m N G X:=fun⟨j,hj,hn,e⟩=>(ce j hj hn).2 e;obtain⟨NGB,NX⟩:=Zz mT nX;clear hx hL hinj ce ho hg mT nX hN hR hS;go_enter func72,ntmps72;go_wp2_with fail
 go_loopw [3] (fun i wr=>∃n:Nat,n<=m/\i=ZI n/\MaG 3 102 jA w m N G L C wr n) (fun i _=>m-(intOf i).toNat)
 case atStart=>exact⟨0,ae,rfl,Kept.refl _ _,HR.out,fun j hj=>absurd hj ae⟩
 case round =>
  obtain⟨n,hn,rfl,Cd⟩:=hrel;have c0:wr.cell? (ZA GB 7)=some (ZL X m cx):=Cd.kept.cell HG.out NGB.out
  by_cases hlt:n<m
  ·have HM:=hid Cd;clear Cd;go_wp2_with fail
   go_loopw [4] (fun i wr=>∃k:Nat,k<=L n/\i=ZI k/\MaG 3 102 jA w m N G L C wr n/\∀t,t<k*3->wr.cell? (ZA (G n) t)=some (jA n t)) (fun i _=>L n-(intOf i).toNat)
   case atStart=>exact⟨0,ae,rfl,HM.out,fun t ht=>absurd ht ae⟩
   case round =>
    obtain⟨k,hk,rfl,Cd,eh⟩:=hrel;clear c0;have hLn:=HL.out n hlt;have c0:wr.cell? (ZA GB 7)=some (ZL X m cx):=Cd.kept.cell HG.out NGB.out;have c1:wr.cell? (ZA X n)=some (.slice (A n) (L n) (C n)):=Cd.kept.cell (HX.out n hlt) NX.out
    by_cases hkl:k<L n
    ·obtain⟨V0,dp⟩:=HN.out n hlt ae;rw[dp]at c1;obtain⟨xs,hrow⟩:=Cd.rows n hlt V0
     have hcl:∀q,q<3->∃u,wr.cell? (ZA (G n) (k*3+q))=some u:=fun q hq=>⟨_,(hrow.cell (k*3+q) ae).trans (aD m8)⟩;obtain⟨u0,d0⟩:=hcl 0 ae;obtain⟨u1,d1⟩:=hcl 1 ae;obtain⟨u2,d2⟩:=hcl 2 ae;rw[Nat.add_zero]at d0;have z0:=hrow.free (k*3);have z1:=hrow.free (k*3+1);have z2:=hrow.free (k*3+2);have P:=hid (X7 Cd hlt (fun j hj h0=>(HN.out j hj h0).1) hkl HI.out eh);have gx:=E'.out n hlt V0;have g1:¬GB=G n:=gx.1;have g2:¬X=G n:=gx.2;have RE:n<=300:=ae;have hk3:k<=8388608:=ae;have cv:=mI n k ae ae;have kx:Kept (fun q=>q=G n) wr (((wr.setCell (ZA (G n) (k*3)) (ZU 0)).setCell (ZA (G n) (k*3+1)) (.bool false)).setCell (ZA (G n) (k*3+2)) (.int .u64 (nm n k))):=(kpZ.trans kpZ).trans kpZ;have s0:(((wr.setCell (ZA (G n) (k*3)) (ZU 0)).setCell (ZA (G n) (k*3+1)) (.bool false)).setCell (ZA (G n) (k*3+2)) (.int .u64 (nm n k))).cell? (ZA GB 7)=some (ZL X m cx):=kx.cell c0 g1;have s1:(((wr.setCell (ZA (G n) (k*3)) (ZU 0)).setCell (ZA (G n) (k*3+1)) (.bool false)).setCell (ZA (G n) (k*3+2)) (.int .u64 (nm n k))).cell? (ZA X n)=some (ZL (G n) (L n) (C n)):=kx.cell c1 g2;clear Cd eh hrow HM gx hcl kx;go_wp2_with fail
     go_region_held3 (fun W=>W.cell? (ZA GB 7)=some (ZL X m cx)/\W.cell? (ZA X n)=some (ZL (G n) (L n) (C n))) (first | go_keep | (simp only[World.cell?_drew]; exact⟨s0,s1⟩))
      (first | (go_at_call 89; refine(gG n k _ RE hk3).mono ?_; rintro e w' ⟨rfl,rfl⟩))
     exact px
    have hkk:k=L n:=ae;subst hkk
    have D:=hid (show MaG 3 102 jA w m N G L C wr (n+1) from⟨Cd.kept,Cd.rows,fun j hj i hi=>by
     by_cases e:j=n
     ·subst e; exact eh i hi
     exact Cd.done j ae i hi⟩)
    exact jY
  have fj:m=n:=ae;subst fj;obtain⟨f0,UP⟩:=Cd.state 24 HI.out;have ge:=hid UP;obtain⟨i5,q0,q1,q2,q3⟩:=Z0 Tryz.infGzZ;obtain⟨b8,p0,p1,p2,p3⟩:=Z0 Tryz.inlGzZ;have hes:(24:TypeId)≠102:=au;clear Cd UP;go_wp2_with fail;clear c0
  go_loopw [5,6,7] (fun one more i wr=>∃(n:Nat)(f:Zak)(GO IS:Zah),n<=m/\i=ZI n/\StG 3 102 24 jA w m N G L C wr f n n one more GO IS) (fun _ _ i _=>m-(intOf i).toNat)
  case atStart=>exact⟨0,f0,[],[],ae,rfl,ge.out⟩
  case round =>
   obtain⟨n,f,GO,IS,fj,rfl,hst⟩:=hrel;have c0:wr.cell? (ZA GB 7)=some (ZL X m cx):=hst.kept.cell HG.out NGB.out
   by_cases FG:n<m
   ·have hLn:=HL.out n FG;have c1:wr.cell? (ZA X n)=some (.slice (A n) (L n) (C n)):=hst.kept.cell (HX.out n FG) NX.out;have HST:=hid hst;clear hst ge;go_wp2_with fail;clear c0 c1
    go_loopw [5,8,9] (fun one l i wr=>∃(k n1:Nat)(f:Zak)(GO:Zah),L n<=k/\k<=L n+70/\i=ZI k/\nU 3 102 jA w N G wr f n k l/\((k=L n/\n1=n)\/(L n+1<=k/\n1=n+1))/\StG 3 102 24 jA w m N G L C wr f n1 n one u6 GO IS) (fun _ _ i _=>L n+70-(intOf i).toNat)
    case atStart =>
     exact mq
    case round =>
     obtain⟨k,n1,f,GO,It,hk1,rfl,GE,On,hst⟩:=hrel;obtain⟨la,lc,rfl⟩:=GE.slice;have c0:wr.cell? (ZA GB 7)=some (ZL X m cx):=hst.kept.cell HG.out NGB.out;have c1:wr.cell? (ZA X n)=some (.slice (A n) (L n) (C n)):=hst.kept.cell (HX.out n FG) NX.out
     by_cases hk:k<L n+70
     ·skip
      have RE:n<=300:=ae;have hk3:k<=8388608:=ae;have cv:=mI n k ae ae;have hown:(wr.alloc (aZ 0 false (nm n k))).ownsRow 0 102 3 (.slice la k lc) k (mlG 3 jA n k):=(GE.kept (Kept.alloc (fun _=>False) wr _)).own;obtain⟨HOW,IF,D',sC⟩:=ZF hown hst GE On;have hb1:k+1<=maxLen:=aP;have hb2:(k+1)*16<=140737488355328:=ae;have hb3:n+1<=maxLen:=aP;have hb4:(n+1)*24<=140737488355328:=ae;clear hown hst GE On
      go_upto_region 17 with (first
       | (go_at_call 89; refine(gG n k _ RE hk3).mono ?_; rintro e w' ⟨rfl,rfl⟩)
       | (at_builtin; refine jF _ rfl (.tmp 80) (.tmp 86) 24 rfl 102 i5 (.agg #[ZU 0,.bool false,.int .u64 0]) 16 underlying24 q0 q1 q2 q3 rfl _ k _ rfl HOW.out (ZA w'.heap.size 0) [ZU 0,.bool false,.int .u64 (nm n k)] rfl rfl (Mk _ _ _ _ _) Xw hb1 hb2 ?_; intro B cap' w2 hrow AS; rw[<- qGz]at hrow; obtain⟨f',hs2,ht2,hg2⟩:=mn hes IF.out D'.out FG _ hrow AS It sC.out lRn; have c0':=hs2.kept.cell HG.out NGB.out; have c1':=hs2.kept.cell (HX.out n FG) NX.out; have S2:=hid hs2; have T2:=hid ht2; have G2:=hid hg2; clear hs2 ht2 hg2 hrow AS))
      by_cases hke:k=L n
      ·have hkb:((k:Int)==(L n:Int))=true:=gu;have hIO:n1=n:=kY;subst hIO;have KE:=hid hke;clear hke
       go_wp2_with (first
        | (at_builtin; refine bO _ rfl (.tmp 98) (.tmp 100) 48 rfl 24 b8 (ZN) 24 underlying48 p0 p1 p2 p3 rfl _ n1 _ rfl mt (ZA w2.heap.size 0) (ZL B (k+1) cap') rfl dh rfl hb3 hb4 ?_; intro B2 cap2 w3 hrow2 AM; obtain⟨hs3,eq⟩:=mR hes S2.out mY T2.out _ hrow2 AM; have S3:=hid hs3; have T3:=hid eq; clear hs3 eq hrow2 AM))
       exact ke
      exact mQ
     obtain rfl:k=L n+70:=ae;have hIO:n1=n+1:=ae;subst hIO;have hb3:n+1<=maxLen:=aP;have hb4:(n+1)*24<=140737488355328:=ae
     rcases GE with ⟨_,h0⟩ | ⟨g,cap,hv,htr,_⟩
     ·omega
     simp only[Value.slice.injEq,true_and]at hv;obtain⟨rfl,rfl⟩:=hv;obtain⟨IF,q'⟩:=Zz hst htr;clear hst htr On
     go_wp2_with (first
       | (at_builtin; refine bO _ rfl (.tmp 102) (.tmp 104) 48 rfl 24 b8 (ZN) 24 underlying48 p0 p1 p2 p3 rfl _ n _ rfl mG (ZA wr.heap.size 0) (ZL g (L n+70) lc) rfl dh rfl hb3 hb4 ?_; intro B2 cap2 w3 hrow2 AM; have S3:=hid (mZ hes IF.out rfl q'.out _ hrow2 AM); clear hrow2 AM))
     exact ku
   have eS:m=n:=ae;subst eS;obtain⟨oa,oc,e5,h5⟩:=aR hst.ownOne;obtain⟨ma,mc,e6,h6⟩:=aR hst.ownMore;subst e5;subst e6;obtain⟨HST,H5,H6⟩:=ZH hst h5 h6;clear hst ge h5 h6;go_wp2_with fail;clear c0;generalize wr=wa at *
   go_loopw [10] (fun i wq=>∃n:Nat,n<=m/\i=ZI n/\Zx wa wq) (fun i _=>m-(intOf i).toNat)
   case atStart=>exact⟨0,ae,rfl,ZT _ _⟩
   case round =>
    obtain⟨n,zd,rfl,lp⟩:=hrel
    by_cases By:n<m
    ·have hLn:=HL.out n By
     obtain⟨OB,rfl,ZS⟩:∃B,oa=some (ZA B 0)/\∀j,j<m->wa.cell? (ZA B j)=GO[j]?:=by
      exact j6
     obtain⟨MB,rfl,lk⟩:∃B,ma=some (ZA B 0)/\∀j,j<m->wa.cell? (ZA B j)=IS[j]?:=by
      exact ko
     obtain⟨B1,b1c,hb1,ht1⟩:=HST.out.ones n By;obtain⟨B2,b2c,hb2,ht2⟩:=HST.out.mores n By;have CO:=hid ((ZS n By).trans hb1);have CM:=hid ((lk n By).trans hb2);have C0:=hid (show wa.cell? (ZA GB 7)=some (ZL X m cx) from HST.out.kept.cell HG.out NGB.out);have C1:=hid (show wa.cell? (ZA X n)=some (.slice (A n) (L n) (C n)) from HST.out.kept.cell (HX.out n By) NX.out);have T0:=hid (fun hN=>HST.out.own n By hN);obtain⟨T1,T2,gk⟩:=ZH ht1 ht2 lp;clear ZS lk hb1 hb2 ht1 ht2 H5 H6 HST lp;go_wp2_with fail;generalize wr=wb at *
     go_loopw [11] (fun i wq=>∃k:Nat,k<=L n+70/\i=ZI k/\Zx wa wq) (fun i _=>L n+70-(intOf i).toNat)
     case atStart=>exact⟨0,ae,rfl,gk.out⟩
     case round =>
      obtain⟨k,hk,rfl,oj⟩:=hrel;have cm:=ai oj CM.out;have vm:=hid oj;clear oj gk
      by_cases am:k<L n+70
      ·obtain⟨m0,m1,m2⟩:=xe T2.out am vm.out;have RE:n<=300:=ae;have hk3:k<=8388608:=ae;have cv:=mI n k ae ae
       go_upto_region 26 with fail
       go_cut [12] from 121 to 127 (fun v wx=>∃xb,v=ZP xb 0/\Hid (XqG wa xb #[ZU 0,.bool false,.int .u64 (nm n k)] 102 wx))
       case first =>
        go_wp2_with fail
        go_meet
        exact⟨_,rfl,hid (XqG.new vm.out #[ZU 0,.bool false,.int .u64 (nm n k)] 102)⟩
       case rest =>
       obtain⟨xb,rfl,XQ⟩:=hcut;clear cm m0 m1 m2;generalize wc=W1 at *;rename_i K5 hK5;refine hK5 _ _ (wp_seq_k fun K6 vj=>?_);clear hK5
       go_cut [] from 128 to 147 (fun wx=>Hid (XqG wa xb #[ZU 0,.bool false,.int .u64 (nm n k)] 102 wx))
       case first =>
        have c0:=ai XQ.out.b C0.out;have c1:=ai XQ.out.b C1.out
        by_cases hka:k<L n
        ·obtain⟨V0,dp⟩:=HN.out n By ae;rw[dp]at c1;obtain⟨m0,m1,m2⟩:=xe (T0.out V0) hka XQ.out.b;have x0:=XQ.out.c 0 (ZU 0) rfl;have x1:=XQ.out.c 1 (.bool false) rfl;have x2:=XQ.out.c 2 (.int .u64 (nm n k)) rfl;have z0:=XQ.out.f 0;have z1:=XQ.out.f 1;have z2:=XQ.out.f 2;go_wp2_with fail
         go_meet
         exact hid (CW XQ.out)
        exact nS
       case rest =>
       clear XQ;have XQ:=hid hcut.out;clear hcut;generalize wc=W2 at *;refine vj _ _ (wp_seq_k fun K7 hK7=>?_);clear vj
       go_cut [] from 148 to 164 (fun wx=>Hid (XqG wa xb #[ZU 0,.bool false,.int .u64 (nm n k)] 102 wx))
       case first =>
        have c0:=ai XQ.out.b C0.out;have c1:=ai XQ.out.b C1.out
        by_cases hke:k=L n
        ·have co:=ai XQ.out.b CO.out;have hkb:((k:Int)==(L n:Int))=true:=gu;have hkl:k<L n+1:=ae;obtain⟨m0,m1,m2⟩:=xe T1.out hkl XQ.out.b;have x0:=XQ.out.c 0 (ZU 0) rfl;have x1:=XQ.out.c 1 (.bool false) rfl;have x2:=XQ.out.c 2 (.int .u64 (nm n k)) rfl;have z0:=XQ.out.f 0;have z1:=XQ.out.f 1;have z2:=XQ.out.f 2;clear hke;go_wp2_with fail
         go_meet
         exact hid (CW XQ.out)
        exact nA
       case rest =>
       clear XQ;have XQ:=hid hcut.out;clear hcut;generalize wc=W3 at *
       go_upto_region 31 with fail
       have x0:=XQ.out.c 0 (ZU 0) rfl;have x1:=XQ.out.c 1 (.bool false) rfl;have x2:=XQ.out.c 2 (.int .u64 (nm n k)) rfl
       go_region_held3 (fun W=>W.cell? (ZA xb 2)=some (.int .u64 (nm n k))) (first | go_keep | (simp only[World.cell?_drew]; exact x2))
        (first | (go_at_call 89; refine(gG n k _ RE hk3).mono ?_; rintro e w' ⟨rfl,rfl⟩))
       clear x0 x1 x2;have ap:=hid XQ.out.drew;generalize W3.drew=W4 at *;clear XQ;have XQ:=hid ap.out;clear ap;have cm:=ai XQ.out.b CM.out;obtain⟨m0,m1,m2⟩:=xe T2.out am XQ.out.b;have x0:=XQ.out.c 0 (ZU 0) rfl;have x1:=XQ.out.c 1 (.bool false) rfl;have x2:=XQ.out.c 2 (.int .u64 (nm n k)) rfl;have z0:=XQ.out.f 0;have z1:=XQ.out.f 1;have z2:=XQ.out.f 2
       go_upto_region 33 with fail
       clear cm m0 m1 m2 x0 x1 x2 z0 z1 z2;have ap:=hid (CW XQ.out);generalize (((W4.setCell (ZA xb 0) (ZU 0)).setCell (ZA xb 1) (.bool false)).setCell (ZA xb 2) (.int .u64 (nm n k)))=W5 at *;clear XQ;have XQ:=hid ap.out;clear ap;have x0:=XQ.out.c 0 (ZU 0) rfl;have x1:=XQ.out.c 1 (.bool false) rfl;have x2:=XQ.out.c 2 (.int .u64 (nm n k)) rfl
       go_region_held3 (fun W=>W.cell? (ZA xb 2)=some (.int .u64 (nm n k))) (first | go_keep | (simp only[World.cell?_drew]; exact x2))
        (first | (go_at_call 89; refine(gG n k _ RE hk3).mono ?_; rintro e w' ⟨rfl,rfl⟩))
       exact xx
      exact nH
    exact nM
theorem Tryz.infBzZ:(prog.info? 5).map (fun i=>(i.zero,i.size,i.bytes))=some (some (ZU 0),1,1):=ak
theorem Tryz.inlBzZ:(prog.info? 63).map (fun i=>(i.zero,i.size,i.bytes))=some (some (ZN),1,24):=ak
def vA(n i:Nat):Value:=ZU ((31*(n:Int)+7*(i:Int)+3)%256)
theorem qBz(n k:Nat):qG 1 vA n k=[ZU ((31*(n:Int)+7*(k:Int)+3)%256)]:=by
 show [vA n (k*1+0)]=_;rw[Nat.mul_one,Nat.add_zero]; rfl
def Si(w:World)(m:Nat)(N:Zam)(A:Zao)(G L C:Zak):Prop :=
 ∀j,j<m->(N j/\A j=some (ZA (G j) 0)/\∃xs,dL 1 w 5 (G j) (L j) (C j) xs)\/(¬N j/\A j=none/\L j=0/\C j=0)
theorem RY(GB X m cx:Nat)(N:Zam)(A:Zao)(G L C:Zak)(w:World)(hm:m<=300)
  (hg:w.cell? (ZA GB 0)=some (ZL X m cx))
  (hx:∀j,j<m->w.cell? (ZA X j)=some (.slice (A j) (L j) (C j)))
  (ho:Si w m N A G L C) (hL:∀j,j<m->L j<=4194304)
  (hinj:∀a b,a<m->b<m->N a->N b->G a=G b->a=b) (ce:∀j,j<m->N j->¬GB=G j/\¬X=G j) :
  Zw 65 #[ZP GB 0] w fun e w'=>e=.returned (.bool true)/\Kept (Own m N G) w w':=by
 have hN:∀j,j<m->0<L j->N j/\A j=some (ZA (G j) 0):=fun j hj h0=>by
  exact kH
 have hR:∀j,j<m->N j->∃xs,dL 1 w 5 (G j) (L j) (C j) xs:=fun j hj h0=>by
  exact kD
 have hS:∀j,j<m->(N j/\A j=some (ZA (G j) 0))\/(A j=none/\L j=0/\C j=0):=fun j hj=>by
  exact kq
 obtain⟨HX,HL,HI,E',HN,HR⟩:=ZK hx hL hinj ce hN hR;obtain⟨HSN,HG⟩:=Zz hS hg;have mT:¬Own m N G GB:=fun⟨j,hj,hn,e⟩=>(ce j hj hn).1 e;have nX:¬Own m N G X:=fun⟨j,hj,hn,e⟩=>(ce j hj hn).2 e;obtain⟨NGB,NX⟩:=Zz mT nX;clear hx hL hinj ce ho hg mT nX hN hR hS;go_enter func65,ntmps65;go_wp2_with fail
 go_loopw [3] (fun i wr=>∃n:Nat,n<=m/\i=ZI n/\MaG 1 5 vA w m N G L C wr n) (fun i _=>m-(intOf i).toNat)
 case atStart=>exact⟨0,ae,rfl,Kept.refl _ _,HR.out,fun j hj=>absurd hj ae⟩
 case round =>
  obtain⟨n,hn,rfl,Cd⟩:=hrel;have c0:wr.cell? (ZA GB 0)=some (ZL X m cx):=Cd.kept.cell HG.out NGB.out
  by_cases hlt:n<m
  ·have HM:=hid Cd;clear Cd;go_wp2_with fail
   go_loopw [4] (fun i wr=>∃k:Nat,k<=L n/\i=ZI k/\MaG 1 5 vA w m N G L C wr n/\∀t,t<k->wr.cell? (ZA (G n) t)=some (vA n t)) (fun i _=>L n-(intOf i).toNat)
   case atStart=>exact⟨0,ae,rfl,HM.out,fun t ht=>absurd ht ae⟩
   case round =>
    obtain⟨k,hk,rfl,Cd,eh⟩:=hrel;clear c0;have hLn:=HL.out n hlt;have c0:wr.cell? (ZA GB 0)=some (ZL X m cx):=Cd.kept.cell HG.out NGB.out;have c1:wr.cell? (ZA X n)=some (.slice (A n) (L n) (C n)):=Cd.kept.cell (HX.out n hlt) NX.out
    by_cases hkl:k<L n
    ·obtain⟨V0,dp⟩:=HN.out n hlt ae;rw[dp]at c1;obtain⟨xs,hrow⟩:=Cd.rows n hlt V0;have hcl:∃u,wr.cell? (ZA (G n) k)=some u:=⟨_,(hrow.cell k ae).trans (aD m8)⟩;obtain⟨u0,hcl⟩:=hcl;have hfz:=hrow.free k
     have P:=hid (Cd.put hlt (fun j hj h0=>(HN.out j hj h0).1) (i:=k) ae HI.out eh);have gx:=E'.out n hlt V0;have g1:¬GB=G n:=gx.1;have g2:¬X=G n:=gx.2
     skip
     have RE:n<=300:=ae;have hk3:k<=8388608:=ae;clear Cd eh hrow HM gx;exact wm
    have hkk:k=L n:=ae;subst hkk
    have D:=hid (show MaG 1 5 vA w m N G L C wr (n+1) from⟨Cd.kept,Cd.rows,fun j hj i hi=>by
     by_cases e:j=n
     ·subst e; exact eh i ae
     exact Cd.done j ae i hi⟩)
    exact jY
  have fj:m=n:=ae;subst fj;obtain⟨f0,UP⟩:=Cd.state 63 HI.out;have ge:=hid UP;obtain⟨i5,q0,q1,q2,q3⟩:=Z0 Tryz.infBzZ;obtain⟨b8,p0,p1,p2,p3⟩:=Z0 Tryz.inlBzZ;have hes:(63:TypeId)≠5:=au;clear Cd UP;go_wp2_with fail;clear c0
  go_loopw [5,6,7] (fun one more i wr=>∃(n:Nat)(f:Zak)(GO IS:Zah),n<=m/\i=ZI n/\StG 1 5 63 vA w m N G L C wr f n n one more GO IS) (fun _ _ i _=>m-(intOf i).toNat)
  case atStart=>exact⟨0,f0,[],[],ae,rfl,ge.out⟩
  case round =>
   obtain⟨n,f,GO,IS,fj,rfl,hst⟩:=hrel;have c0:wr.cell? (ZA GB 0)=some (ZL X m cx):=hst.kept.cell HG.out NGB.out
   by_cases FG:n<m
   ·have hLn:=HL.out n FG;have c1:wr.cell? (ZA X n)=some (.slice (A n) (L n) (C n)):=hst.kept.cell (HX.out n FG) NX.out;have HST:=hid hst;clear hst ge;go_wp2_with fail;clear c0 c1
    go_loopw [5,8,9] (fun one l i wr=>∃(k n1:Nat)(f:Zak)(GO:Zah),L n<=k/\k<=L n+70/\i=ZI k/\nU 1 5 vA w N G wr f n k l/\((k=L n/\n1=n)\/(L n+1<=k/\n1=n+1))/\StG 1 5 63 vA w m N G L C wr f n1 n one u6 GO IS) (fun _ _ i _=>L n+70-(intOf i).toNat)
    case atStart =>
     exact mq
    case round =>
     obtain⟨k,n1,f,GO,It,hk1,rfl,GE,On,hst⟩:=hrel;obtain⟨la,lc,rfl⟩:=GE.slice;have c0:wr.cell? (ZA GB 0)=some (ZL X m cx):=hst.kept.cell HG.out NGB.out;have c1:wr.cell? (ZA X n)=some (.slice (A n) (L n) (C n)):=hst.kept.cell (HX.out n FG) NX.out
     by_cases hk:k<L n+70
     ·skip
      have RE:n<=300:=ae;have hk3:k<=8388608:=ae;have hown:(wr.alloc (eK ((31*(n:Int)+7*(k:Int)+3)%256))).ownsRow 0 5 1 (.slice la k lc) k (mlG 1 vA n k):=(GE.kept (Kept.alloc (fun _=>False) wr _)).own;obtain⟨HOW,IF,D',sC⟩:=ZF hown hst GE On;have hb1:k+1<=maxLen:=aP;have hb2:(k+1)*1<=140737488355328:=ae;have hb3:n+1<=maxLen:=aP;have hb4:(n+1)*24<=140737488355328:=ae;clear hown hst GE On
      go_upto_region 17 with (first
       | (at_builtin; refine bO _ rfl (.tmp 82) (.tmp 90) 63 rfl 5 i5 (ZU 0) 1 underlying63 q0 q1 q2 q3 rfl _ k _ rfl HOW.out (ZA wr.heap.size 0) (ZU ((31*(n:Int)+7*(k:Int)+3)%256)) rfl dh rfl hb1 hb2 ?_; intro B cap' w2 hrow AS; rw[<- qBz]at hrow; obtain⟨f',hs2,ht2,hg2⟩:=mn hes IF.out D'.out FG _ hrow AS It sC.out lRn; have c0':=hs2.kept.cell HG.out NGB.out; have c1':=hs2.kept.cell (HX.out n FG) NX.out; have S2:=hid hs2; have T2:=hid ht2; have G2:=hid hg2; clear hs2 ht2 hg2 hrow AS))
      by_cases hke:k=L n
      ·have hkb:((k:Int)==(L n:Int))=true:=gu;have hIO:n1=n:=kY;subst hIO;have KE:=hid hke;clear hke
       go_wp2_with (first
        | (at_builtin; refine bO _ rfl (.tmp 102) (.tmp 104) 41 rfl 63 b8 (ZN) 24 underlying41 p0 p1 p2 p3 rfl _ n1 _ rfl mt (ZA w2.heap.size 0) (ZL B (k+1) cap') rfl dh rfl hb3 hb4 ?_; intro B2 cap2 w3 hrow2 AM; obtain⟨hs3,eq⟩:=mR hes S2.out mY T2.out _ hrow2 AM; have S3:=hid hs3; have T3:=hid eq; clear hs3 eq hrow2 AM))
       exact ke
      exact mQ
     obtain rfl:k=L n+70:=ae;have hIO:n1=n+1:=ae;subst hIO;have hb3:n+1<=maxLen:=aP;have hb4:(n+1)*24<=140737488355328:=ae
     rcases GE with ⟨_,h0⟩ | ⟨g,cap,hv,htr,_⟩
     ·omega
     simp only[Value.slice.injEq,true_and]at hv;obtain⟨rfl,rfl⟩:=hv;obtain⟨IF,q'⟩:=Zz hst htr;clear hst htr On
     go_wp2_with (first
       | (at_builtin; refine bO _ rfl (.tmp 106) (.tmp 108) 41 rfl 63 b8 (ZN) 24 underlying41 p0 p1 p2 p3 rfl _ n _ rfl mG (ZA wr.heap.size 0) (ZL g (L n+70) lc) rfl dh rfl hb3 hb4 ?_; intro B2 cap2 w3 hrow2 AM; have S3:=hid (mZ hes IF.out rfl q'.out _ hrow2 AM); clear hrow2 AM))
     exact ku
   have eS:m=n:=ae;subst eS;obtain⟨oa,oc,e5,h5⟩:=aR hst.ownOne;obtain⟨ma,mc,e6,h6⟩:=aR hst.ownMore;subst e5;subst e6;obtain⟨HST,H5,H6⟩:=ZH hst h5 h6;clear hst ge h5 h6;go_wp2_with fail;clear c0
   go_loop [10] (fun i=>∃n:Nat,n<=m/\i=ZI n) (fun i=>m-(intOf i).toNat)
   case atStart=>exact⟨0,ae,rfl⟩
   case round =>
    obtain⟨n,zd,rfl⟩:=hrel
    by_cases By:n<m
    ·have hLn:=HL.out n By
     obtain⟨OB,rfl,ZS⟩:∃B,oa=some (ZA B 0)/\∀j,j<m->wr.cell? (ZA B j)=GO[j]?:=by
      exact j6
     obtain⟨MB,rfl,lk⟩:∃B,ma=some (ZA B 0)/\∀j,j<m->wr.cell? (ZA B j)=IS[j]?:=by
      exact ko
     obtain⟨B1,b1c,hb1,ht1⟩:=HST.out.ones n By;obtain⟨B2,b2c,hb2,ht2⟩:=HST.out.mores n By;have co:wr.cell? (ZA OB n)=some (ZL B1 (L n+1) b1c):=(ZS n By).trans hb1;have cm:wr.cell? (ZA MB n)=some (ZL B2 (L n+70) b2c):=(lk n By).trans hb2;have c0:wr.cell? (ZA GB 0)=some (ZL X m cx):=HST.out.kept.cell HG.out NGB.out;have c1:wr.cell? (ZA X n)=some (.slice (A n) (L n) (C n)):=HST.out.kept.cell (HX.out n By) NX.out;have T0:=hid (fun hN=>HST.out.own n By hN);obtain⟨T1,T2⟩:=Zz ht1 ht2;clear ZS lk hb1 hb2 ht1 ht2 H5 H6 HST;go_wp2_with fail
     go_loop [11] (fun i=>∃k:Nat,k<=L n+70/\i=ZI k) (fun i=>L n+70-(intOf i).toNat)
     case atStart=>exact⟨0,ae,rfl⟩
     case round =>
      obtain⟨k,hk,rfl⟩:=hrel
      by_cases am:k<L n+70
      ·have x2:wr.cell? (ZA B2 k)=some (ZU ((31*(n:Int)+7*(k:Int)+3)%256)):=T2.out.cell k ae
       skip
       have RE:n<=300:=ae;have hk3:k<=8388608:=ae
       by_cases hka:k<L n
       ·obtain⟨V0,dp⟩:=HN.out n By ae;rw[dp]at c1;have x0:wr.cell? (ZA (G n) k)=some (ZU ((31*(n:Int)+7*(k:Int)+3)%256)):=(T0.out V0).cell k ae;have hkb:((k:Int)==(L n:Int))=false:=aA;go_wp2_with fail;exact⟨⟨k+1,ae,bu⟩,bD⟩
       by_cases hke:k=L n
       ·have x1:wr.cell? (ZA B1 k)=some (ZU ((31*(n:Int)+7*(k:Int)+3)%256)):=T1.out.cell k ae;have hkb:((k:Int)==(L n:Int))=true:=gu;have hkl:k<L n+1:=ae;exact EW
       have hkb:((k:Int)==(L n:Int))=false:=aA;exact EW
      exact IA
    go_wp2_with fail;go_ret;exact⟨rfl,HST.out.kept⟩
theorem Tryz.infIzZ:(prog.info? 3).map (fun i=>(i.zero,i.size,i.bytes))=some (some (ZI 0),1,8):=ak
theorem Tryz.inlIzZ:(prog.info? 23).map (fun i=>(i.zero,i.size,i.bytes))=some (some (ZN),1,24):=ak
def vo(n i:Nat):Value:=ZI (nm n i)
theorem qIz(n k:Nat):qG 1 vo n k=[ZI (nm n k)]:=by
 show [vo n (k*1+0)]=_;rw[Nat.mul_one,Nat.add_zero]; rfl
def Tp(w:World)(m:Nat)(N:Zam)(A:Zao)(G L C:Zak):Prop :=
 ∀j,j<m->(N j/\A j=some (ZA (G j) 0)/\∃xs,dL 1 w 3 (G j) (L j) (C j) xs)\/(¬N j/\A j=none/\L j=0/\C j=0)
theorem QT(GB X m cx:Nat)(N:Zam)(A:Zao)(G L C:Zak)(w:World)(hm:m<=300)
  (hg:w.cell? (ZA GB 1)=some (ZL X m cx))
  (hx:∀j,j<m->w.cell? (ZA X j)=some (.slice (A j) (L j) (C j)))
  (ho:Tp w m N A G L C) (hL:∀j,j<m->L j<=4194304)
  (hinj:∀a b,a<m->b<m->N a->N b->G a=G b->a=b) (ce:∀j,j<m->N j->¬GB=G j/\¬X=G j) :
  Zw 66 #[ZP GB 0] w fun e w'=>e=.returned (.bool true)/\Kept (Own m N G) w w':=by
 have hN:∀j,j<m->0<L j->N j/\A j=some (ZA (G j) 0):=fun j hj h0=>by
  exact kH
 have hR:∀j,j<m->N j->∃xs,dL 1 w 3 (G j) (L j) (C j) xs:=fun j hj h0=>by
  exact kD
 have hS:∀j,j<m->(N j/\A j=some (ZA (G j) 0))\/(A j=none/\L j=0/\C j=0):=fun j hj=>by
  exact kq
 obtain⟨HX,HL,HI,E',HN,HR⟩:=ZK hx hL hinj ce hN hR;obtain⟨HSN,HG⟩:=Zz hS hg;have mT:¬Own m N G GB:=fun⟨j,hj,hn,e⟩=>(ce j hj hn).1 e;have nX:¬Own m N G X:=fun⟨j,hj,hn,e⟩=>(ce j hj hn).2 e;obtain⟨NGB,NX⟩:=Zz mT nX;clear hx hL hinj ce ho hg mT nX hN hR hS;go_enter func66,ntmps66;go_wp2_with fail
 go_loopw [3] (fun i wr=>∃n:Nat,n<=m/\i=ZI n/\MaG 1 3 vo w m N G L C wr n) (fun i _=>m-(intOf i).toNat)
 case atStart=>exact⟨0,ae,rfl,Kept.refl _ _,HR.out,fun j hj=>absurd hj ae⟩
 case round =>
  obtain⟨n,hn,rfl,Cd⟩:=hrel;have c0:wr.cell? (ZA GB 1)=some (ZL X m cx):=Cd.kept.cell HG.out NGB.out
  by_cases hlt:n<m
  ·have HM:=hid Cd;clear Cd;go_wp2_with fail
   go_loopw [4] (fun i wr=>∃k:Nat,k<=L n/\i=ZI k/\MaG 1 3 vo w m N G L C wr n/\∀t,t<k->wr.cell? (ZA (G n) t)=some (vo n t)) (fun i _=>L n-(intOf i).toNat)
   case atStart=>exact⟨0,ae,rfl,HM.out,fun t ht=>absurd ht ae⟩
   case round =>
    obtain⟨k,hk,rfl,Cd,eh⟩:=hrel;clear c0;have hLn:=HL.out n hlt;have c0:wr.cell? (ZA GB 1)=some (ZL X m cx):=Cd.kept.cell HG.out NGB.out;have c1:wr.cell? (ZA X n)=some (.slice (A n) (L n) (C n)):=Cd.kept.cell (HX.out n hlt) NX.out
    by_cases hkl:k<L n
    ·obtain⟨V0,dp⟩:=HN.out n hlt ae;rw[dp]at c1;obtain⟨xs,hrow⟩:=Cd.rows n hlt V0;have hcl:∃u,wr.cell? (ZA (G n) k)=some u:=⟨_,(hrow.cell k ae).trans (aD m8)⟩;obtain⟨u0,hcl⟩:=hcl;have hfz:=hrow.free k
     have P:=hid (Cd.put hlt (fun j hj h0=>(HN.out j hj h0).1) (i:=k) ae HI.out eh);have gx:=E'.out n hlt V0;have g1:¬GB=G n:=gx.1;have g2:¬X=G n:=gx.2
     skip
     have RE:n<=300:=ae;have hk3:k<=8388608:=ae;clear Cd eh hrow HM gx;have s0:∀v,(wr.setCell (ZA (G n) k) v).cell? (ZA GB 1)=some (ZL X m cx):=fun v=>(World.cell?_setCell_other _ _ _ _ (fun e=>g1 (by injection e with e1; exact e1.symm))).trans c0;have s1:∀v,(wr.setCell (ZA (G n) k) v).cell? (ZA X n)=some (ZL (G n) (L n) (C n)):=fun v=>(World.cell?_setCell_other _ _ _ _ (fun e=>g2 (by injection e with e1; exact e1.symm))).trans c1;go_wp2_with fail
     go_region_held3 (fun W=>W.cell? (ZA GB 1)=some (ZL X m cx)/\W.cell? (ZA X n)=some (ZL (G n) (L n) (C n))) (first | go_keep | (simp only[World.cell?_drew]; exact⟨s0 _,s1 _⟩))
      (first | (go_at_call 89; refine(gG n k _ RE hk3).mono ?_; rintro e w' ⟨rfl,rfl⟩))
     exact px
    have hkk:k=L n:=ae;subst hkk
    have D:=hid (show MaG 1 3 vo w m N G L C wr (n+1) from⟨Cd.kept,Cd.rows,fun j hj i hi=>by
     by_cases e:j=n
     ·subst e; exact eh i ae
     exact Cd.done j ae i hi⟩)
    exact jY
  have fj:m=n:=ae;subst fj;obtain⟨f0,UP⟩:=Cd.state 23 HI.out;have ge:=hid UP;obtain⟨i5,q0,q1,q2,q3⟩:=Z0 Tryz.infIzZ;obtain⟨b8,p0,p1,p2,p3⟩:=Z0 Tryz.inlIzZ;have hes:(23:TypeId)≠3:=au;clear Cd UP;go_wp2_with fail;clear c0
  go_loopw [5,6,7] (fun one more i wr=>∃(n:Nat)(f:Zak)(GO IS:Zah),n<=m/\i=ZI n/\StG 1 3 23 vo w m N G L C wr f n n one more GO IS) (fun _ _ i _=>m-(intOf i).toNat)
  case atStart=>exact⟨0,f0,[],[],ae,rfl,ge.out⟩
  case round =>
   obtain⟨n,f,GO,IS,fj,rfl,hst⟩:=hrel;have c0:wr.cell? (ZA GB 1)=some (ZL X m cx):=hst.kept.cell HG.out NGB.out
   by_cases FG:n<m
   ·have hLn:=HL.out n FG;have c1:wr.cell? (ZA X n)=some (.slice (A n) (L n) (C n)):=hst.kept.cell (HX.out n FG) NX.out;have HST:=hid hst;clear hst ge;go_wp2_with fail;clear c0 c1
    go_loopw [5,8,9] (fun one l i wr=>∃(k n1:Nat)(f:Zak)(GO:Zah),L n<=k/\k<=L n+70/\i=ZI k/\nU 1 3 vo w N G wr f n k l/\((k=L n/\n1=n)\/(L n+1<=k/\n1=n+1))/\StG 1 3 23 vo w m N G L C wr f n1 n one u6 GO IS) (fun _ _ i _=>L n+70-(intOf i).toNat)
    case atStart =>
     exact mq
    case round =>
     obtain⟨k,n1,f,GO,It,hk1,rfl,GE,On,hst⟩:=hrel;obtain⟨la,lc,rfl⟩:=GE.slice;have c0:wr.cell? (ZA GB 1)=some (ZL X m cx):=hst.kept.cell HG.out NGB.out;have c1:wr.cell? (ZA X n)=some (.slice (A n) (L n) (C n)):=hst.kept.cell (HX.out n FG) NX.out
     by_cases hk:k<L n+70
     ·skip
      have RE:n<=300:=ae;have hk3:k<=8388608:=ae;have hown:(wr.alloc (bR (nm n k))).ownsRow 0 3 1 (.slice la k lc) k (mlG 1 vo n k):=(GE.kept (Kept.alloc (fun _=>False) wr _)).own;obtain⟨HOW,IF,D',sC⟩:=ZF hown hst GE On;have hb1:k+1<=maxLen:=aP;have hb2:(k+1)*8<=140737488355328:=ae;have hb3:n+1<=maxLen:=aP;have hb4:(n+1)*24<=140737488355328:=ae;clear hown hst GE On
      go_upto_region 17 with (first
       | (go_at_call 89; refine(gG n k _ RE hk3).mono ?_; rintro e w' ⟨rfl,rfl⟩)
       | (at_builtin; refine bO _ rfl (.tmp 78) (.tmp 82) 23 rfl 3 i5 (ZI 0) 8 underlying23 q0 q1 q2 q3 rfl _ k _ rfl HOW.out (ZA w'.heap.size 0) (ZI (nm n k)) rfl dh rfl hb1 hb2 ?_; intro B cap' w2 hrow AS; rw[<- qIz]at hrow; obtain⟨f',hs2,ht2,hg2⟩:=mn hes IF.out D'.out FG _ hrow AS It sC.out lRn; have c0':=hs2.kept.cell HG.out NGB.out; have c1':=hs2.kept.cell (HX.out n FG) NX.out; have S2:=hid hs2; have T2:=hid ht2; have G2:=hid hg2; clear hs2 ht2 hg2 hrow AS))
      by_cases hke:k=L n
      ·have hkb:((k:Int)==(L n:Int))=true:=gu;have hIO:n1=n:=kY;subst hIO;have KE:=hid hke;clear hke
       go_wp2_with (first
        | (at_builtin; refine bO _ rfl (.tmp 94) (.tmp 96) 42 rfl 23 b8 (ZN) 24 underlying42 p0 p1 p2 p3 rfl _ n1 _ rfl mt (ZA w2.heap.size 0) (ZL B (k+1) cap') rfl dh rfl hb3 hb4 ?_; intro B2 cap2 w3 hrow2 AM; obtain⟨hs3,eq⟩:=mR hes S2.out mY T2.out _ hrow2 AM; have S3:=hid hs3; have T3:=hid eq; clear hs3 eq hrow2 AM))
       exact ke
      exact mQ
     obtain rfl:k=L n+70:=ae;have hIO:n1=n+1:=ae;subst hIO;have hb3:n+1<=maxLen:=aP;have hb4:(n+1)*24<=140737488355328:=ae
     rcases GE with ⟨_,h0⟩ | ⟨g,cap,hv,htr,_⟩
     ·omega
     simp only[Value.slice.injEq,true_and]at hv;obtain⟨rfl,rfl⟩:=hv;obtain⟨IF,q'⟩:=Zz hst htr;clear hst htr On
     go_wp2_with (first
       | (at_builtin; refine bO _ rfl (.tmp 98) (.tmp 100) 42 rfl 23 b8 (ZN) 24 underlying42 p0 p1 p2 p3 rfl _ n _ rfl mG (ZA wr.heap.size 0) (ZL g (L n+70) lc) rfl dh rfl hb3 hb4 ?_; intro B2 cap2 w3 hrow2 AM; have S3:=hid (mZ hes IF.out rfl q'.out _ hrow2 AM); clear hrow2 AM))
     exact ku
   have eS:m=n:=ae;subst eS;obtain⟨oa,oc,e5,h5⟩:=aR hst.ownOne;obtain⟨ma,mc,e6,h6⟩:=aR hst.ownMore;subst e5;subst e6;obtain⟨HST,H5,H6⟩:=ZH hst h5 h6;clear hst ge h5 h6;go_wp2_with fail;clear c0
   go_loop [10] (fun i=>∃n:Nat,n<=m/\i=ZI n) (fun i=>m-(intOf i).toNat)
   case atStart=>exact⟨0,ae,rfl⟩
   case round =>
    obtain⟨n,zd,rfl⟩:=hrel
    by_cases By:n<m
    ·have hLn:=HL.out n By
     obtain⟨OB,rfl,ZS⟩:∃B,oa=some (ZA B 0)/\∀j,j<m->wr.cell? (ZA B j)=GO[j]?:=by
      exact j6
     obtain⟨MB,rfl,lk⟩:∃B,ma=some (ZA B 0)/\∀j,j<m->wr.cell? (ZA B j)=IS[j]?:=by
      exact ko
     obtain⟨B1,b1c,hb1,ht1⟩:=HST.out.ones n By;obtain⟨B2,b2c,hb2,ht2⟩:=HST.out.mores n By;have co:wr.cell? (ZA OB n)=some (ZL B1 (L n+1) b1c):=(ZS n By).trans hb1;have cm:wr.cell? (ZA MB n)=some (ZL B2 (L n+70) b2c):=(lk n By).trans hb2;have c0:wr.cell? (ZA GB 1)=some (ZL X m cx):=HST.out.kept.cell HG.out NGB.out;have c1:wr.cell? (ZA X n)=some (.slice (A n) (L n) (C n)):=HST.out.kept.cell (HX.out n By) NX.out;have T0:=hid (fun hN=>HST.out.own n By hN);obtain⟨T1,T2⟩:=Zz ht1 ht2;clear ZS lk hb1 hb2 ht1 ht2 H5 H6 HST;go_wp2_with fail
     go_loop [11] (fun i=>∃k:Nat,k<=L n+70/\i=ZI k) (fun i=>L n+70-(intOf i).toNat)
     case atStart=>exact⟨0,ae,rfl⟩
     case round =>
      obtain⟨k,hk,rfl⟩:=hrel
      by_cases am:k<L n+70
      ·have x2:wr.cell? (ZA B2 k)=some (ZI (nm n k)):=T2.out.cell k ae
       skip
       have RE:n<=300:=ae;have hk3:k<=8388608:=ae
       by_cases hka:k<L n
       ·obtain⟨V0,dp⟩:=HN.out n By ae;rw[dp]at c1;have x0:wr.cell? (ZA (G n) k)=some (ZI (nm n k)):=(T0.out V0).cell k ae;have hkb:((k:Int)==(L n:Int))=false:=aA
        go_wp2_with (first | (go_at_call 89; refine(gG n k _ RE hk3).mono ?_; rintro e w' ⟨rfl,rfl⟩))
        exact⟨⟨k+1,ae,bu⟩,bD⟩
       by_cases hke:k=L n
       ·have x1:wr.cell? (ZA B1 k)=some (ZI (nm n k)):=T1.out.cell k ae;have hkb:((k:Int)==(L n:Int))=true:=gu;have hkl:k<L n+1:=ae;exact IY
       have hkb:((k:Int)==(L n:Int))=false:=aA;exact IY
      exact IA
    go_wp2_with fail;go_ret;exact⟨rfl,HST.out.kept⟩
def txZ(n i:Nat):ByteArray:=⟨#[33]⟩++bT (nm n i)
theorem M0(n i:Nat)(hn:n<=300)(hi:i<=8388608):-9223372036854775808<=nm n i/\nm n i<=9223372036854775807:=by unfold nm; omega
theorem yG(n:Int)(h0:-9223372036854775808<=n)(h1:n<=9223372036854775807):(bT n).size<=21:=by
 have:=Lib.itoa_length_le n h0 h1;unfold bT
 simpa[ByteArray.size] using this
theorem ni(B n i:Nat)(w:World)(ht:fq B w)(hn:n<=300)(hi:i<=8388608):Zw 88 #[ZI n,ZI i] w (ZC (.string (txZ n i)) w):=by
 obtain⟨r0,r1⟩:=M0 n i hn hi;have hz:=yG (nm n i) r0 r1
 have hs:¬9223372036854775807<(ByteArray.mk #[33]).size+(bT (nm n i)).size:=by have:(ByteArray.mk #[33]).size=1:=rfl; omega
 have hs1:¬9223372036854775807<1+(bT (nm n i)).size:=ae;go_enter func88,ntmps88
 go_wp2_with (first
  | (go_at_call 89; refine(gG n i _ hn hi).mono ?_; rintro e w' ⟨rfl,rfl⟩)
  | (go_at_call 94; refine(xB B (nm n i) r0 r1 _ ht).mono ?_; rintro e w' ⟨rfl,hb⟩))
 go_ret;exact⟨rfl,hb⟩
variable {sz:Nat}{e:TypeId}{w':World}
theorem MaG.later{mk:Zal}{G L C:Zak}(h:MaG sz e mk w m N G L C wr n)(hb:Zx wr w'):MaG sz e mk w m N G L C w' n :=
 ⟨h.kept.trans (cd hb),fun j hj hN=>(h.rows j hj hN).imp fun xs x=>x.kept (cd (S:=fun _=>False) hb) (fun y=>y),fun j hj i hi=>ai hb (h.done j hj i hi)⟩
variable {es:TypeId}{n1 n2:Nat}{one more:Value}{GO IS:Zah}
theorem StG.later{mk:Zal}{G L C:Zak}{f:Zak}(h:StG sz e es mk w m N G L C wr f n1 n2 one more GO IS)(hb:Zx wr w') :
  StG sz e es mk w m N G L C w' f n1 n2 one more GO IS:=by
 have hk:Kept (fun _=>False) wr w':=cd hb;exact L9
variable {W':World}{cs:AVz}{E:TypeId}
theorem XqG.later(h:XqG wa xb cs E W)(hb:Zx W W'):XqG wa xb cs E W' :=
 ⟨h.b.trans (hb.mono h.b.size),h.lo,(hb.block xb (t7 h.o)).trans h.o⟩
variable {B:Nat}
theorem vH{G:Zak}(ht:fq B w)(hB:B<=w.heap.size)(hG:∀j,j<m->N j->B<=G j):∀W,Kept (Own m N G) w W->fq B W:=fun W hk =>
 ht.later (hk.to_below hB fun k hk ⟨j,hj,hN,e⟩=>by have:=hG j hj hN; omega)
end
end Go.Proofs.YtheefojaplnnoaaGreatDoor

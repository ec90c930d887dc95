/-
  Texts Zi Zj Ki Kc Kd Ke Kf.
-/
import Derived.Test.YtheefojaplnnoaaGreatDoorY18
set_option linter.unusedVariables false
set_option maxRecDepth 100000
set_option maxHeartbeats 16000000
namespace Go.Proofs.YtheefojaplnnoaaGreatDoor
open Go.Proofs.Tryz
open Go.RowKit
theorem Tryz.infSzZ:(prog.info? 73).map (fun i=>(i.zero,i.size,i.bytes))=some (some (.agg #[.string ⟨#[]⟩,.string ⟨#[]⟩]),2,32):=ak
theorem Tryz.inlSzZ:(prog.info? 22).map (fun i=>(i.zero,i.size,i.bytes))=some (some (ZN),1,24):=ak
def lD(n p:Nat):Value:=if p%2=0 then .string (txZ n (p / 2)) else .string ⟨#[]⟩
theorem NU(n k:Nat):lD n (k*2)=.string (txZ n k):=by unfold lD; rw[if_pos ae,show(k*2) / 2=k by omega]
theorem Lx(n k:Nat):lD n (k*2+1)=.string ⟨#[]⟩:=by unfold lD; rw[if_neg ae]
theorem qSz(n k:Nat):qG 2 lD n k=[.string (txZ n k),.string ⟨#[]⟩]:=by
 show [lD n (k*2+0),lD n (k*2+1)]=_;rw[show lD n (k*2+0)=_ from NU n k,Lx]
variable {w wr:World}{m n k:Nat}{N:Zam}
theorem Yy{G L C:Zak}(h:MaG 2 73 lD w m N G L C wr n)(hn:n<m)(hN:∀j,j<m->0<L j->N j)(hk:k<L n)(hinj:∀a b,a<m->b<m->N a->N b->G a=G b->a=b)
  (hp:∀t,t<k*2->wr.cell? (ZA (G n) t)=some (lD n t)) :
  MaG 2 73 lD w m N G L C ((wr.setCell (ZA (G n) (k*2)) (.string (txZ n k))).setCell (ZA (G n) (k*2+1)) (.string ⟨#[]⟩)) n/\∀t,t<(k+1)*2->((wr.setCell (ZA (G n) (k*2)) (.string (txZ n k))).setCell (ZA (G n) (k*2+1)) (.string ⟨#[]⟩)).cell? (ZA (G n) t)=some (lD n t):=by
 have p0:=h.put hn hN (i:=k*2) ae hinj hp;rw[NU]at p0;have p1:=p0.1.put hn hN (i:=k*2+1) ae hinj p0.2;rw[Lx]at p1;exact wC
variable {z:BAz}
theorem XL  : ∀y∈([.string z,.string ⟨#[]⟩]:Zah),y.oneCell'=true:=by
 exact yq
variable {wa W:World}
theorem Ag{f:Zak}{B j K c k:Nat}(h:TRG 2 73 lD wa f B j K c)(hk:k<K)(hb:Zx wa W):W.cell? (ZA B (k*2))=some (.string (txZ j k))/\W.cell? (ZA B (k*2+1))=some (.string ⟨#[]⟩) :=
 ⟨ai hb ((h.cell _ ae).trans (congrArg some (NU j k))),ai hb ((h.cell _ ae).trans (congrArg some (Lx j k)))⟩
variable {xb:Nat}
theorem En(h:XqG wa xb #[.string z,.string ⟨#[]⟩] 73 W):XqG wa xb #[.string z,.string ⟨#[]⟩] 73 ((W.setCell (ZA xb 0) (.string z)).setCell (ZA xb 1) (.string ⟨#[]⟩)) :=
 h.puts (kpZ.trans kpZ) ((aT (aT h.o)))
def TD(w:World)(m:Nat)(N:Zam)(A:Zao)(G L C:Zak):Prop :=
 ∀j,j<m->(N j/\A j=some (ZA (G j) 0)/\∃xs,dL 2 w 73 (G j) (L j) (C j) xs)\/(¬N j/\A j=none/\L j=0/\C j=0)
theorem RU(B0 GB X m cx:Nat)(N:Zam)(A:Zao)(G L C:Zak)(w:World)(hm:m<=300)
  (hg:w.cell? (ZA GB 6)=some (ZL X m cx))
  (hx:∀j,j<m->w.cell? (ZA X j)=some (.slice (A j) (L j) (C j)))
  (ho:TD w m N A G L C) (hL:∀j,j<m->L j<=4194304)
  (hinj:∀a b,a<m->b<m->N a->N b->G a=G b->a=b) (ce:∀j,j<m->N j->¬GB=G j/\¬X=G j)
  (htn:fq B0 w) (hB0:B0<=w.heap.size) (hG0:∀j,j<m->N j->B0<=G j) :
  Zw 71 #[ZP GB 0] w fun e w'=>e=.returned (.bool true)/\Kept (Own m N G) w w':=by
 have hN:∀j,j<m->0<L j->N j/\A j=some (ZA (G j) 0):=fun j hj h0=>by
  exact kH
 have hR:∀j,j<m->N j->∃xs,dL 2 w 73 (G j) (L j) (C j) xs:=fun j hj h0=>by
  exact kD
 have hS:∀j,j<m->(N j/\A j=some (ZA (G j) 0))\/(A j=none/\L j=0/\C j=0):=fun j hj=>by
  exact kq
 have TN:=hid (vH htn hB0 hG0);clear htn hB0 hG0;obtain⟨HX,HL,HI,E',HN,HR⟩:=ZK hx hL hinj ce hN hR;obtain⟨HSN,HG⟩:=Zz hS hg;have mT:¬Own m N G GB:=fun⟨j,hj,hn,e⟩=>(ce j hj hn).1 e;have nX:¬Own m N G X:=fun⟨j,hj,hn,e⟩=>(ce j hj hn).2 e;obtain⟨NGB,NX⟩:=Zz mT nX;clear hx hL hinj ce ho hg mT nX hN hR hS;go_enter func71,ntmps71;go_wp2_with fail
 go_loopw [3] (fun i wr=>∃n:Nat,n<=m/\i=ZI n/\MaG 2 73 lD w m N G L C wr n) (fun i _=>m-(intOf i).toNat)
 case atStart=>exact⟨0,ae,rfl,Kept.refl _ _,HR.out,fun j hj=>absurd hj ae⟩
 case round =>
  obtain⟨n,hn,rfl,Cd⟩:=hrel;have c0:wr.cell? (ZA GB 6)=some (ZL X m cx):=Cd.kept.cell HG.out NGB.out
  by_cases hlt:n<m
  ·have HM:=hid Cd;clear Cd;go_wp2_with fail
   go_loopw [4] (fun i wr=>∃k:Nat,k<=L n/\i=ZI k/\MaG 2 73 lD w m N G L C wr n/\∀t,t<k*2->wr.cell? (ZA (G n) t)=some (lD n t)) (fun i _=>L n-(intOf i).toNat)
   case atStart=>exact⟨0,ae,rfl,HM.out,fun t ht=>absurd ht ae⟩
   case round =>
    obtain⟨k,hk,rfl,Cd,eh⟩:=hrel;clear c0;have hLn:=HL.out n hlt;have c0:wr.cell? (ZA GB 6)=some (ZL X m cx):=Cd.kept.cell HG.out NGB.out;have c1:wr.cell? (ZA X n)=some (.slice (A n) (L n) (C n)):=Cd.kept.cell (HX.out n hlt) NX.out
    by_cases hkl:k<L n
    ·obtain⟨V0,dp⟩:=HN.out n hlt ae;rw[dp]at c1;obtain⟨xs,hrow⟩:=Cd.rows n hlt V0
     have hcl:∀q,q<2->∃u,wr.cell? (ZA (G n) (k*2+q))=some u:=fun q hq=>⟨_,(hrow.cell (k*2+q) ae).trans (aD m8)⟩;obtain⟨u0,d0⟩:=hcl 0 ae;obtain⟨u1,d1⟩:=hcl 1 ae;rw[Nat.add_zero]at d0;have z0:=hrow.free (k*2);have z1:=hrow.free (k*2+1);have gx:=E'.out n hlt V0;have g1:¬GB=G n:=gx.1;have g2:¬X=G n:=gx.2;have RE:n<=300:=ae;have hk3:k<=8388608:=ae;have s0:∀W,Zx wr W->(((W.setCell (ZA (G n) (k*2)) (.string (txZ n k))).setCell (ZA (G n) (k*2+1)) (.string ⟨#[]⟩))).cell? (ZA GB 6)=some (ZL X m cx):=fun W hW=>(kpZ.trans kpZ:Kept (fun q=>q=G n) W _).cell (ai hW c0) g1;have s1:∀W,Zx wr W->(((W.setCell (ZA (G n) (k*2)) (.string (txZ n k))).setCell (ZA (G n) (k*2+1)) (.string ⟨#[]⟩))).cell? (ZA X n)=some (ZL (G n) (L n) (C n)):=fun W hW=>(kpZ.trans kpZ:Kept (fun q=>q=G n) W _).cell (ai hW c1) g2;obtain⟨DN,xF⟩:=Zz eh Cd;have TT:=hid (TN.out _ (Cd.kept.trans (cd ((ZT wr.heap.size wr).drew))));have y0:∀W,Zx wr W->W.cell? (ZA (G n) (k*2))=some u0:=fun W hW=>ai hW d0;have y1:∀W,Zx wr W->W.cell? (ZA (G n) (k*2+1))=some u1:=fun W hW=>ai hW d1;have v0:∀W,Zx wr W->W.frozen? (ZA (G n) (k*2))=false:=fun W hW=>(hrow.kept (cd (S:=fun _=>False) hW) (fun y=>y)).free (k*2);have v1:∀W,Zx wr W->W.frozen? (ZA (G n) (k*2+1))=false:=fun W hW=>(hrow.kept (cd (S:=fun _=>False) hW) (fun y=>y)).free (k*2+1);clear Cd eh hrow HM gx hcl TN;go_wp2_with fail
     go_region_held3 (fun W=>W.cell? (ZA GB 6)=some (ZL X m cx)/\W.cell? (ZA X n)=some (ZL (G n) (L n) (C n))) (first | exact⟨ai hb c0,ai hb c1⟩ | exact⟨s0 _ hb,s1 _ hb⟩ | go_keep)
      (first | (go_at_call 88; refine(ni B0 n k _ TT.out RE hk3).mono ?_; rintro e w' ⟨rfl,hb0⟩; have hb:=(ZT wr.heap.size wr).drew.trans hb0; clear hb0; have d0:=y0 _ hb; have z0:=v0 _ hb; have d1:=y1 _ hb; have z1:=v1 _ hb; skip))
     have P:=hid (Yy (xF.out.later hb) hlt (fun j hj h0=>(HN.out j hj h0).1) hkl HI.out (fun t ht=>ai hb (DN.out t ht)));exact wm
    have hkk:k=L n:=ae;subst hkk
    have D:=hid (show MaG 2 73 lD w m N G L C wr (n+1) from⟨Cd.kept,Cd.rows,fun j hj i hi=>by
     by_cases e:j=n
     ·subst e; exact eh i hi
     exact Cd.done j ae i hi⟩)
    exact jY
  have fj:m=n:=ae;subst fj;obtain⟨f0,UP⟩:=Cd.state 22 HI.out;have ge:=hid UP;obtain⟨i5,q0,q1,q2,q3⟩:=Z0 Tryz.infSzZ;obtain⟨b8,p0,p1,p2,p3⟩:=Z0 Tryz.inlSzZ;have hes:(22:TypeId)≠73:=au;clear Cd UP;go_wp2_with fail;clear c0
  go_loopw [5,6,7] (fun one more i wr=>∃(n:Nat)(f:Zak)(GO IS:Zah),n<=m/\i=ZI n/\StG 2 73 22 lD w m N G L C wr f n n one more GO IS) (fun _ _ i _=>m-(intOf i).toNat)
  case atStart=>exact⟨0,f0,[],[],ae,rfl,ge.out⟩
  case round =>
   obtain⟨n,f,GO,IS,fj,rfl,hst⟩:=hrel;have c0:wr.cell? (ZA GB 6)=some (ZL X m cx):=hst.kept.cell HG.out NGB.out
   by_cases FG:n<m
   ·have hLn:=HL.out n FG;have c1:wr.cell? (ZA X n)=some (.slice (A n) (L n) (C n)):=hst.kept.cell (HX.out n FG) NX.out;have HST:=hid hst;clear hst ge;go_wp2_with fail;clear c0 c1
    go_loopw [5,8,9] (fun one l i wr=>∃(k n1:Nat)(f:Zak)(GO:Zah),L n<=k/\k<=L n+70/\i=ZI k/\nU 2 73 lD w N G wr f n k l/\((k=L n/\n1=n)\/(L n+1<=k/\n1=n+1))/\StG 2 73 22 lD w m N G L C wr f n1 n one u6 GO IS) (fun _ _ i _=>L n+70-(intOf i).toNat)
    case atStart =>
     exact mq
    case round =>
     obtain⟨k,n1,f,GO,It,hk1,rfl,GE,On,hst⟩:=hrel;obtain⟨la,lc,rfl⟩:=GE.slice;have c0:wr.cell? (ZA GB 6)=some (ZL X m cx):=hst.kept.cell HG.out NGB.out;have c1:wr.cell? (ZA X n)=some (.slice (A n) (L n) (C n)):=hst.kept.cell (HX.out n FG) NX.out
     by_cases hk:k<L n+70
     ·skip
      have RE:n<=300:=ae;have hk3:k<=8388608:=ae;obtain⟨IF,D',sC⟩:=ZH hst GE On;have hb1:k+1<=maxLen:=aP;have hb2:(k+1)*32<=140737488355328:=ae;have hb3:n+1<=maxLen:=aP;have hb4:(n+1)*24<=140737488355328:=ae;clear hst GE On
      go_upto_region 17 with (first
       | (go_at_call 88; refine(ni B0 n k _ (TN.out _ IF.out.kept) RE hk3).mono ?_; rintro e w' ⟨rfl,hb⟩; have HST3:=hid (IF.out.later hb); have qaz:=hid (D'.out.kept (cd hb)); have HOW:=hid (qaz.out.kept (Kept.alloc (fun _=>False) w' (aW (txZ n k) ⟨#[]⟩))).own)
       | (at_builtin; refine jF _ rfl (.tmp 79) (.tmp 84) 22 rfl 73 i5 (.agg #[.string ⟨#[]⟩,.string ⟨#[]⟩]) 32 underlying22 q0 q1 q2 q3 rfl _ k _ rfl HOW.out (ZA w'.heap.size 0) [.string (txZ n k),.string ⟨#[]⟩] rfl rfl (NW _ _ _ _) XL hb1 hb2 ?_; intro B cap' w2 hrow AS; rw[<- qSz]at hrow; obtain⟨f',hs2,ht2,hg2⟩:=mn hes HST3.out qaz.out FG _ hrow AS It sC.out lRn; have c0':=hs2.kept.cell HG.out NGB.out; have c1':=hs2.kept.cell (HX.out n FG) NX.out; have S2:=hid hs2; have T2:=hid ht2; have G2:=hid hg2; clear hs2 ht2 hg2 hrow AS))
      by_cases hke:k=L n
      ·have hkb:((k:Int)==(L n:Int))=true:=gu;have hIO:n1=n:=kY;subst hIO;have KE:=hid hke;clear hke
       go_wp2_with (first
        | (at_builtin; refine bO _ rfl (.tmp 96) (.tmp 98) 47 rfl 22 b8 (ZN) 24 underlying47 p0 p1 p2 p3 rfl _ n1 _ rfl mt (ZA w2.heap.size 0) (ZL B (k+1) cap') rfl dh rfl hb3 hb4 ?_; intro B2 cap2 w3 hrow2 AM; obtain⟨hs3,eq⟩:=mR hes S2.out mY T2.out _ hrow2 AM; have S3:=hid hs3; have T3:=hid eq; clear hs3 eq hrow2 AM))
       exact ke
      exact mQ
     obtain rfl:k=L n+70:=ae;have hIO:n1=n+1:=ae;subst hIO;have hb3:n+1<=maxLen:=aP;have hb4:(n+1)*24<=140737488355328:=ae
     rcases GE with ⟨_,h0⟩ | ⟨g,cap,hv,htr,_⟩
     ·omega
     simp only[Value.slice.injEq,true_and]at hv;obtain⟨rfl,rfl⟩:=hv;obtain⟨IF,q'⟩:=Zz hst htr;clear hst htr On
     go_wp2_with (first
       | (at_builtin; refine bO _ rfl (.tmp 100) (.tmp 102) 47 rfl 22 b8 (ZN) 24 underlying47 p0 p1 p2 p3 rfl _ n _ rfl mG (ZA wr.heap.size 0) (ZL g (L n+70) lc) rfl dh rfl hb3 hb4 ?_; intro B2 cap2 w3 hrow2 AM; have S3:=hid (mZ hes IF.out rfl q'.out _ hrow2 AM); clear hrow2 AM))
     exact ku
   have eS:m=n:=ae;subst eS;obtain⟨oa,oc,e5,h5⟩:=aR hst.ownOne;obtain⟨ma,mc,e6,h6⟩:=aR hst.ownMore;subst e5;subst e6;obtain⟨HST,H5,H6⟩:=ZH hst h5 h6;clear hst ge h5 h6;go_wp2_with fail;clear c0;generalize wr=wa at *
   go_loopw [10] (fun i wq=>∃n:Nat,n<=m/\i=ZI n/\Zx wa wq) (fun i _=>m-(intOf i).toNat)
   case atStart=>exact⟨0,ae,rfl,ZT _ _⟩
   case round =>
    obtain⟨n,zd,rfl,lp⟩:=hrel
    by_cases By:n<m
    ·have hLn:=HL.out n By
     obtain⟨OB,rfl,ZS⟩:∃B,oa=some (ZA B 0)/\∀j,j<m->wa.cell? (ZA B j)=GO[j]?:=by
      exact j6
     obtain⟨MB,rfl,lk⟩:∃B,ma=some (ZA B 0)/\∀j,j<m->wa.cell? (ZA B j)=IS[j]?:=by
      exact ko
     obtain⟨B1,b1c,hb1,ht1⟩:=HST.out.ones n By;obtain⟨B2,b2c,hb2,ht2⟩:=HST.out.mores n By;have CO:=hid ((ZS n By).trans hb1);have CM:=hid ((lk n By).trans hb2);have C0:=hid (show wa.cell? (ZA GB 6)=some (ZL X m cx) from HST.out.kept.cell HG.out NGB.out);have C1:=hid (show wa.cell? (ZA X n)=some (.slice (A n) (L n) (C n)) from HST.out.kept.cell (HX.out n By) NX.out);have T0:=hid (fun hN=>HST.out.own n By hN);obtain⟨T1,T2,gk⟩:=ZH ht1 ht2 lp;have qaw:=hid HST.out.kept;clear ZS lk hb1 hb2 ht1 ht2 H5 H6 HST lp;go_wp2_with fail;generalize wr=wb at *
     go_loopw [11] (fun i wq=>∃k:Nat,k<=L n+70/\i=ZI k/\Zx wa wq) (fun i _=>L n+70-(intOf i).toNat)
     case atStart=>exact⟨0,ae,rfl,gk.out⟩
     case round =>
      obtain⟨k,hk,rfl,oj⟩:=hrel;have cm:=ai oj CM.out;have vm:=hid oj;clear oj gk
      by_cases am:k<L n+70
      ·obtain⟨m0,m1⟩:=Ag T2.out am vm.out;have RE:n<=300:=ae;have hk3:k<=8388608:=ae
       go_upto_region 26 with fail
       go_cut [12] from 119 to 125 (fun v wx=>∃xb,v=ZP xb 0/\Hid (XqG wa xb #[.string (txZ n k),.string ⟨#[]⟩] 73 wx))
       case first =>
        go_wp2_with fail
        go_meet
        exact⟨_,rfl,hid (XqG.new vm.out #[.string (txZ n k),.string ⟨#[]⟩] 73)⟩
       case rest =>
       obtain⟨xb,rfl,XQ⟩:=hcut;clear cm m0 m1;generalize wc=W1 at *;rename_i K5 hK5;refine hK5 _ _ (wp_seq_k fun K6 vj=>?_);clear hK5
       go_cut [] from 126 to 145 (fun wx=>Hid (XqG wa xb #[.string (txZ n k),.string ⟨#[]⟩] 73 wx))
       case first =>
        have c0:=ai XQ.out.b C0.out;have c1:=ai XQ.out.b C1.out
        by_cases hka:k<L n
        ·obtain⟨V0,dp⟩:=HN.out n By ae;rw[dp]at c1;obtain⟨m0,m1⟩:=Ag (T0.out V0) hka XQ.out.b;have x0:=XQ.out.c 0 (.string (txZ n k)) rfl;have x1:=XQ.out.c 1 (.string ⟨#[]⟩) rfl;have z0:=XQ.out.f 0;have z1:=XQ.out.f 1;go_wp2_with fail
         go_meet
         exact hid (En XQ.out)
        exact nS
       case rest =>
       clear XQ;have XQ:=hid hcut.out;clear hcut;generalize wc=W2 at *;refine vj _ _ (wp_seq_k fun K7 hK7=>?_);clear vj
       go_cut [] from 146 to 162 (fun wx=>Hid (XqG wa xb #[.string (txZ n k),.string ⟨#[]⟩] 73 wx))
       case first =>
        have c0:=ai XQ.out.b C0.out;have c1:=ai XQ.out.b C1.out
        by_cases hke:k=L n
        ·have co:=ai XQ.out.b CO.out;have hkb:((k:Int)==(L n:Int))=true:=gu;have hkl:k<L n+1:=ae;obtain⟨m0,m1⟩:=Ag T1.out hkl XQ.out.b;have x0:=XQ.out.c 0 (.string (txZ n k)) rfl;have x1:=XQ.out.c 1 (.string ⟨#[]⟩) rfl;have z0:=XQ.out.f 0;have z1:=XQ.out.f 1;clear hke;go_wp2_with fail
         go_meet
         exact hid (En XQ.out)
        exact nA
       case rest =>
       clear XQ;have XQ:=hid hcut.out;clear hcut;generalize wc=W3 at *
       go_upto_region 31 with fail
       have x0:=XQ.out.c 0 (.string (txZ n k)) rfl;have x1:=XQ.out.c 1 (.string ⟨#[]⟩) rfl;have TT:=hid (TN.out _ (qaw.out.trans (cd XQ.out.drew.b)))
       go_region_held3 (fun W=>W.cell? (ZA xb 0)=some (.string (txZ n k))/\W.cell? (ZA xb 1)=some (.string ⟨#[]⟩)) (first | exact⟨ai hb x0,ai hb x1⟩ | go_keep | (simp only[World.cell?_drew]; exact⟨x0,x1⟩))
        (first | (go_at_call 88; refine(ni B0 n k _ TT.out RE hk3).mono ?_; rintro e w' ⟨rfl,hb0⟩; have hb:=(ZT _ _).drew.trans hb0; clear hb0))
       clear x0 x1;have ap:=hid (XQ.out.later hb);clear hb TT;generalize w'=W4 at *;clear XQ;have XQ:=hid ap.out;clear ap;have cm:=ai XQ.out.b CM.out;obtain⟨m0,m1⟩:=Ag T2.out am XQ.out.b;have x0:=XQ.out.c 0 (.string (txZ n k)) rfl;have x1:=XQ.out.c 1 (.string ⟨#[]⟩) rfl;have z0:=XQ.out.f 0;have z1:=XQ.out.f 1
       go_upto_region 33 with fail
       clear cm m0 m1 x0 x1 z0 z1;have ap:=hid (En XQ.out);generalize ((W4.setCell (ZA xb 0) (.string (txZ n k))).setCell (ZA xb 1) (.string ⟨#[]⟩))=W5 at *;clear XQ;have XQ:=hid ap.out;clear ap;have x0:=XQ.out.c 0 (.string (txZ n k)) rfl;have x1:=XQ.out.c 1 (.string ⟨#[]⟩) rfl;have TT:=hid (TN.out _ (qaw.out.trans (cd XQ.out.drew.b)))
       go_region_held3 (fun W=>W.cell? (ZA xb 0)=some (.string (txZ n k))/\W.cell? (ZA xb 1)=some (.string ⟨#[]⟩)) (first | exact⟨ai hb x0,ai hb x1⟩ | go_keep | (simp only[World.cell?_drew]; exact⟨x0,x1⟩))
        (first | (go_at_call 88; refine(ni B0 n k _ TT.out RE hk3).mono ?_; rintro e w' ⟨rfl,hb0⟩; have hb:=(ZT _ _).drew.trans hb0; clear hb0))
       exact Fb
      exact nH
    exact nM
theorem Tryz.infEzZ:(prog.info? 83).map (fun i=>(i.zero,i.size,i.bytes))=some (some (.agg #[.string ⟨#[]⟩,ZI 0]),2,24):=ak
theorem Tryz.inlEzZ:(prog.info? 27).map (fun i=>(i.zero,i.size,i.bytes))=some (some (ZN),1,24):=ak
def lB(n p:Nat):Value:=if p%2=0 then .string (txZ n (p / 2)) else ZI 0
theorem Nj(n k:Nat):lB n (k*2)=.string (txZ n k):=by unfold lB; rw[if_pos ae,show(k*2) / 2=k by omega]
theorem N1(n k:Nat):lB n (k*2+1)=ZI 0:=by unfold lB; rw[if_neg ae]
theorem qEz(n k:Nat):qG 2 lB n k=[.string (txZ n k),ZI 0]:=by
 show [lB n (k*2+0),lB n (k*2+1)]=_;rw[show lB n (k*2+0)=_ from Nj n k,N1]
theorem XK{G L C:Zak}(h:MaG 2 83 lB w m N G L C wr n)(hn:n<m)(hN:∀j,j<m->0<L j->N j)(hk:k<L n)(hinj:∀a b,a<m->b<m->N a->N b->G a=G b->a=b)
  (hp:∀t,t<k*2->wr.cell? (ZA (G n) t)=some (lB n t)) :
  MaG 2 83 lB w m N G L C ((wr.setCell (ZA (G n) (k*2)) (.string (txZ n k))).setCell (ZA (G n) (k*2+1)) (ZI 0)) n/\∀t,t<(k+1)*2->((wr.setCell (ZA (G n) (k*2)) (.string (txZ n k))).setCell (ZA (G n) (k*2+1)) (ZI 0)).cell? (ZA (G n) t)=some (lB n t):=by
 have p0:=h.put hn hN (i:=k*2) ae hinj hp;rw[Nj]at p0;have p1:=p0.1.put hn hN (i:=k*2+1) ae hinj p0.2;rw[N1]at p1;exact wC
theorem Xv  : ∀y∈([.string z,ZI 0]:Zah),y.oneCell'=true:=by
 exact yq
theorem wQ{f:Zak}{B j K c k:Nat}(h:TRG 2 83 lB wa f B j K c)(hk:k<K)(hb:Zx wa W):W.cell? (ZA B (k*2))=some (.string (txZ j k))/\W.cell? (ZA B (k*2+1))=some (ZI 0) :=
 ⟨ai hb ((h.cell _ ae).trans (congrArg some (Nj j k))),ai hb ((h.cell _ ae).trans (congrArg some (N1 j k)))⟩
theorem CF(h:XqG wa xb #[.string z,ZI 0] 83 W):XqG wa xb #[.string z,ZI 0] 83 ((W.setCell (ZA xb 0) (.string z)).setCell (ZA xb 1) (ZI 0)) :=
 h.puts (kpZ.trans kpZ) ((aT (aT h.o)))
def Te(w:World)(m:Nat)(N:Zam)(A:Zao)(G L C:Zak):Prop :=
 ∀j,j<m->(N j/\A j=some (ZA (G j) 0)/\∃xs,dL 2 w 83 (G j) (L j) (C j) xs)\/(¬N j/\A j=none/\L j=0/\C j=0)
theorem Tc(B0 GB X m cx:Nat)(N:Zam)(A:Zao)(G L C:Zak)(w:World)(hm:m<=300)
  (hg:w.cell? (ZA GB 8)=some (ZL X m cx))
  (hx:∀j,j<m->w.cell? (ZA X j)=some (.slice (A j) (L j) (C j)))
  (ho:Te w m N A G L C) (hL:∀j,j<m->L j<=4194304)
  (hinj:∀a b,a<m->b<m->N a->N b->G a=G b->a=b) (ce:∀j,j<m->N j->¬GB=G j/\¬X=G j)
  (htn:fq B0 w) (hB0:B0<=w.heap.size) (hG0:∀j,j<m->N j->B0<=G j) :
  Zw 73 #[ZP GB 0] w fun e w'=>e=.returned (.bool true)/\Kept (Own m N G) w w':=by
 have hN:∀j,j<m->0<L j->N j/\A j=some (ZA (G j) 0):=fun j hj h0=>by
  exact kH
 have hR:∀j,j<m->N j->∃xs,dL 2 w 83 (G j) (L j) (C j) xs:=fun j hj h0=>by
  exact kD
 have hS:∀j,j<m->(N j/\A j=some (ZA (G j) 0))\/(A j=none/\L j=0/\C j=0):=fun j hj=>by
  exact kq
 have TN:=hid (vH htn hB0 hG0);clear htn hB0 hG0;obtain⟨HX,HL,HI,E',HN,HR⟩:=ZK hx hL hinj ce hN hR;obtain⟨HSN,HG⟩:=Zz hS hg;have mT:¬Own m N G GB:=fun⟨j,hj,hn,e⟩=>(ce j hj hn).1 e;have nX:¬Own m N G X:=fun⟨j,hj,hn,e⟩=>(ce j hj hn).2 e;obtain⟨NGB,NX⟩:=Zz mT nX;clear hx hL hinj ce ho hg mT nX hN hR hS;go_enter func73,ntmps73;go_wp2_with fail
 go_loopw [3] (fun i wr=>∃n:Nat,n<=m/\i=ZI n/\MaG 2 83 lB w m N G L C wr n) (fun i _=>m-(intOf i).toNat)
 case atStart=>exact⟨0,ae,rfl,Kept.refl _ _,HR.out,fun j hj=>absurd hj ae⟩
 case round =>
  obtain⟨n,hn,rfl,Cd⟩:=hrel;have c0:wr.cell? (ZA GB 8)=some (ZL X m cx):=Cd.kept.cell HG.out NGB.out
  by_cases hlt:n<m
  ·have HM:=hid Cd;clear Cd;go_wp2_with fail
   go_loopw [4] (fun i wr=>∃k:Nat,k<=L n/\i=ZI k/\MaG 2 83 lB w m N G L C wr n/\∀t,t<k*2->wr.cell? (ZA (G n) t)=some (lB n t)) (fun i _=>L n-(intOf i).toNat)
   case atStart=>exact⟨0,ae,rfl,HM.out,fun t ht=>absurd ht ae⟩
   case round =>
    obtain⟨k,hk,rfl,Cd,eh⟩:=hrel;clear c0;have hLn:=HL.out n hlt;have c0:wr.cell? (ZA GB 8)=some (ZL X m cx):=Cd.kept.cell HG.out NGB.out;have c1:wr.cell? (ZA X n)=some (.slice (A n) (L n) (C n)):=Cd.kept.cell (HX.out n hlt) NX.out
    by_cases hkl:k<L n
    ·obtain⟨V0,dp⟩:=HN.out n hlt ae;rw[dp]at c1;obtain⟨xs,hrow⟩:=Cd.rows n hlt V0
     have hcl:∀q,q<2->∃u,wr.cell? (ZA (G n) (k*2+q))=some u:=fun q hq=>⟨_,(hrow.cell (k*2+q) ae).trans (aD m8)⟩;obtain⟨u0,d0⟩:=hcl 0 ae;obtain⟨u1,d1⟩:=hcl 1 ae;rw[Nat.add_zero]at d0;have z0:=hrow.free (k*2);have z1:=hrow.free (k*2+1);have gx:=E'.out n hlt V0;have g1:¬GB=G n:=gx.1;have g2:¬X=G n:=gx.2;have RE:n<=300:=ae;have hk3:k<=8388608:=ae;have s0:∀W,Zx wr W->(((W.setCell (ZA (G n) (k*2)) (.string (txZ n k))).setCell (ZA (G n) (k*2+1)) (ZI 0))).cell? (ZA GB 8)=some (ZL X m cx):=fun W hW=>(kpZ.trans kpZ:Kept (fun q=>q=G n) W _).cell (ai hW c0) g1;have s1:∀W,Zx wr W->(((W.setCell (ZA (G n) (k*2)) (.string (txZ n k))).setCell (ZA (G n) (k*2+1)) (ZI 0))).cell? (ZA X n)=some (ZL (G n) (L n) (C n)):=fun W hW=>(kpZ.trans kpZ:Kept (fun q=>q=G n) W _).cell (ai hW c1) g2;obtain⟨DN,xF⟩:=Zz eh Cd;have TT:=hid (TN.out _ (Cd.kept.trans (cd ((ZT wr.heap.size wr).drew))));have y0:∀W,Zx wr W->W.cell? (ZA (G n) (k*2))=some u0:=fun W hW=>ai hW d0;have y1:∀W,Zx wr W->W.cell? (ZA (G n) (k*2+1))=some u1:=fun W hW=>ai hW d1;have v0:∀W,Zx wr W->W.frozen? (ZA (G n) (k*2))=false:=fun W hW=>(hrow.kept (cd (S:=fun _=>False) hW) (fun y=>y)).free (k*2);have v1:∀W,Zx wr W->W.frozen? (ZA (G n) (k*2+1))=false:=fun W hW=>(hrow.kept (cd (S:=fun _=>False) hW) (fun y=>y)).free (k*2+1);clear Cd eh hrow HM gx hcl TN;go_wp2_with fail
     go_region_held3 (fun W=>W.cell? (ZA GB 8)=some (ZL X m cx)/\W.cell? (ZA X n)=some (ZL (G n) (L n) (C n))) (first | exact⟨ai hb c0,ai hb c1⟩ | exact⟨s0 _ hb,s1 _ hb⟩ | go_keep)
      (first | (go_at_call 88; refine(ni B0 n k _ TT.out RE hk3).mono ?_; rintro e w' ⟨rfl,hb0⟩; have hb:=(ZT wr.heap.size wr).drew.trans hb0; clear hb0; have d0:=y0 _ hb; have z0:=v0 _ hb; have d1:=y1 _ hb; have z1:=v1 _ hb; skip))
     have P:=hid (XK (xF.out.later hb) hlt (fun j hj h0=>(HN.out j hj h0).1) hkl HI.out (fun t ht=>ai hb (DN.out t ht)));exact wm
    have hkk:k=L n:=ae;subst hkk
    have D:=hid (show MaG 2 83 lB w m N G L C wr (n+1) from⟨Cd.kept,Cd.rows,fun j hj i hi=>by
     by_cases e:j=n
     ·subst e; exact eh i hi
     exact Cd.done j ae i hi⟩)
    exact jY
  have fj:m=n:=ae;subst fj;obtain⟨f0,UP⟩:=Cd.state 27 HI.out;have ge:=hid UP;obtain⟨i5,q0,q1,q2,q3⟩:=Z0 Tryz.infEzZ;obtain⟨b8,p0,p1,p2,p3⟩:=Z0 Tryz.inlEzZ;have hes:(27:TypeId)≠83:=au;clear Cd UP;go_wp2_with fail;clear c0
  go_loopw [5,6,7] (fun one more i wr=>∃(n:Nat)(f:Zak)(GO IS:Zah),n<=m/\i=ZI n/\StG 2 83 27 lB w m N G L C wr f n n one more GO IS) (fun _ _ i _=>m-(intOf i).toNat)
  case atStart=>exact⟨0,f0,[],[],ae,rfl,ge.out⟩
  case round =>
   obtain⟨n,f,GO,IS,fj,rfl,hst⟩:=hrel;have c0:wr.cell? (ZA GB 8)=some (ZL X m cx):=hst.kept.cell HG.out NGB.out
   by_cases FG:n<m
   ·have hLn:=HL.out n FG;have c1:wr.cell? (ZA X n)=some (.slice (A n) (L n) (C n)):=hst.kept.cell (HX.out n FG) NX.out;have HST:=hid hst;clear hst ge;go_wp2_with fail;clear c0 c1
    go_loopw [5,8,9] (fun one l i wr=>∃(k n1:Nat)(f:Zak)(GO:Zah),L n<=k/\k<=L n+70/\i=ZI k/\nU 2 83 lB w N G wr f n k l/\((k=L n/\n1=n)\/(L n+1<=k/\n1=n+1))/\StG 2 83 27 lB w m N G L C wr f n1 n one u6 GO IS) (fun _ _ i _=>L n+70-(intOf i).toNat)
    case atStart =>
     exact mq
    case round =>
     obtain⟨k,n1,f,GO,It,hk1,rfl,GE,On,hst⟩:=hrel;obtain⟨la,lc,rfl⟩:=GE.slice;have c0:wr.cell? (ZA GB 8)=some (ZL X m cx):=hst.kept.cell HG.out NGB.out;have c1:wr.cell? (ZA X n)=some (.slice (A n) (L n) (C n)):=hst.kept.cell (HX.out n FG) NX.out
     by_cases hk:k<L n+70
     ·skip
      have RE:n<=300:=ae;have hk3:k<=8388608:=ae;obtain⟨IF,D',sC⟩:=ZH hst GE On;have hb1:k+1<=maxLen:=aP;have hb2:(k+1)*24<=140737488355328:=ae;have hb3:n+1<=maxLen:=aP;have hb4:(n+1)*24<=140737488355328:=ae;clear hst GE On
      go_upto_region 17 with (first
       | (go_at_call 88; refine(ni B0 n k _ (TN.out _ IF.out.kept) RE hk3).mono ?_; rintro e w' ⟨rfl,hb⟩; have HST3:=hid (IF.out.later hb); have qaz:=hid (D'.out.kept (cd hb)); have HOW:=hid (qaz.out.kept (Kept.alloc (fun _=>False) w' (bK (txZ n k) 0))).own)
       | (at_builtin; refine jF _ rfl (.tmp 79) (.tmp 84) 27 rfl 83 i5 (.agg #[.string ⟨#[]⟩,ZI 0]) 24 underlying27 q0 q1 q2 q3 rfl _ k _ rfl HOW.out (ZA w'.heap.size 0) [.string (txZ n k),ZI 0] rfl rfl (NW _ _ _ _) Xv hb1 hb2 ?_; intro B cap' w2 hrow AS; rw[<- qEz]at hrow; obtain⟨f',hs2,ht2,hg2⟩:=mn hes HST3.out qaz.out FG _ hrow AS It sC.out lRn; have c0':=hs2.kept.cell HG.out NGB.out; have c1':=hs2.kept.cell (HX.out n FG) NX.out; have S2:=hid hs2; have T2:=hid ht2; have G2:=hid hg2; clear hs2 ht2 hg2 hrow AS))
      by_cases hke:k=L n
      ·have hkb:((k:Int)==(L n:Int))=true:=gu;have hIO:n1=n:=kY;subst hIO;have KE:=hid hke;clear hke
       go_wp2_with (first
        | (at_builtin; refine bO _ rfl (.tmp 96) (.tmp 98) 49 rfl 27 b8 (ZN) 24 underlying49 p0 p1 p2 p3 rfl _ n1 _ rfl mt (ZA w2.heap.size 0) (ZL B (k+1) cap') rfl dh rfl hb3 hb4 ?_; intro B2 cap2 w3 hrow2 AM; obtain⟨hs3,eq⟩:=mR hes S2.out mY T2.out _ hrow2 AM; have S3:=hid hs3; have T3:=hid eq; clear hs3 eq hrow2 AM))
       exact ke
      exact mQ
     obtain rfl:k=L n+70:=ae;have hIO:n1=n+1:=ae;subst hIO;have hb3:n+1<=maxLen:=aP;have hb4:(n+1)*24<=140737488355328:=ae
     rcases GE with ⟨_,h0⟩ | ⟨g,cap,hv,htr,_⟩
     ·omega
     simp only[Value.slice.injEq,true_and]at hv;obtain⟨rfl,rfl⟩:=hv;obtain⟨IF,q'⟩:=Zz hst htr;clear hst htr On
     go_wp2_with (first
       | (at_builtin; refine bO _ rfl (.tmp 100) (.tmp 102) 49 rfl 27 b8 (ZN) 24 underlying49 p0 p1 p2 p3 rfl _ n _ rfl mG (ZA wr.heap.size 0) (ZL g (L n+70) lc) rfl dh rfl hb3 hb4 ?_; intro B2 cap2 w3 hrow2 AM; have S3:=hid (mZ hes IF.out rfl q'.out _ hrow2 AM); clear hrow2 AM))
     exact ku
   have eS:m=n:=ae;subst eS;obtain⟨oa,oc,e5,h5⟩:=aR hst.ownOne;obtain⟨ma,mc,e6,h6⟩:=aR hst.ownMore;subst e5;subst e6;obtain⟨HST,H5,H6⟩:=ZH hst h5 h6;clear hst ge h5 h6;go_wp2_with fail;clear c0;generalize wr=wa at *
   go_loopw [10] (fun i wq=>∃n:Nat,n<=m/\i=ZI n/\Zx wa wq) (fun i _=>m-(intOf i).toNat)
   case atStart=>exact⟨0,ae,rfl,ZT _ _⟩
   case round =>
    obtain⟨n,zd,rfl,lp⟩:=hrel
    by_cases By:n<m
    ·have hLn:=HL.out n By
     obtain⟨OB,rfl,ZS⟩:∃B,oa=some (ZA B 0)/\∀j,j<m->wa.cell? (ZA B j)=GO[j]?:=by
      exact j6
     obtain⟨MB,rfl,lk⟩:∃B,ma=some (ZA B 0)/\∀j,j<m->wa.cell? (ZA B j)=IS[j]?:=by
      exact ko
     obtain⟨B1,b1c,hb1,ht1⟩:=HST.out.ones n By;obtain⟨B2,b2c,hb2,ht2⟩:=HST.out.mores n By;have CO:=hid ((ZS n By).trans hb1);have CM:=hid ((lk n By).trans hb2);have C0:=hid (show wa.cell? (ZA GB 8)=some (ZL X m cx) from HST.out.kept.cell HG.out NGB.out);have C1:=hid (show wa.cell? (ZA X n)=some (.slice (A n) (L n) (C n)) from HST.out.kept.cell (HX.out n By) NX.out);have T0:=hid (fun hN=>HST.out.own n By hN);obtain⟨T1,T2,gk⟩:=ZH ht1 ht2 lp;have qaw:=hid HST.out.kept;clear ZS lk hb1 hb2 ht1 ht2 H5 H6 HST lp;go_wp2_with fail;generalize wr=wb at *
     go_loopw [11] (fun i wq=>∃k:Nat,k<=L n+70/\i=ZI k/\Zx wa wq) (fun i _=>L n+70-(intOf i).toNat)
     case atStart=>exact⟨0,ae,rfl,gk.out⟩
     case round =>
      obtain⟨k,hk,rfl,oj⟩:=hrel;have cm:=ai oj CM.out;have vm:=hid oj;clear oj gk
      by_cases am:k<L n+70
      ·obtain⟨m0,m1⟩:=wQ T2.out am vm.out;have RE:n<=300:=ae;have hk3:k<=8388608:=ae
       go_upto_region 26 with fail
       go_cut [12] from 119 to 125 (fun v wx=>∃xb,v=ZP xb 0/\Hid (XqG wa xb #[.string (txZ n k),ZI 0] 83 wx))
       case first =>
        go_wp2_with fail
        go_meet
        exact⟨_,rfl,hid (XqG.new vm.out #[.string (txZ n k),ZI 0] 83)⟩
       case rest =>
       obtain⟨xb,rfl,XQ⟩:=hcut;clear cm m0 m1;generalize wc=W1 at *;rename_i K5 hK5;refine hK5 _ _ (wp_seq_k fun K6 vj=>?_);clear hK5
       go_cut [] from 126 to 145 (fun wx=>Hid (XqG wa xb #[.string (txZ n k),ZI 0] 83 wx))
       case first =>
        have c0:=ai XQ.out.b C0.out;have c1:=ai XQ.out.b C1.out
        by_cases hka:k<L n
        ·obtain⟨V0,dp⟩:=HN.out n By ae;rw[dp]at c1;obtain⟨m0,m1⟩:=wQ (T0.out V0) hka XQ.out.b;have x0:=XQ.out.c 0 (.string (txZ n k)) rfl;have x1:=XQ.out.c 1 (ZI 0) rfl;have z0:=XQ.out.f 0;have z1:=XQ.out.f 1;go_wp2_with fail
         go_meet
         exact hid (CF XQ.out)
        exact nS
       case rest =>
       clear XQ;have XQ:=hid hcut.out;clear hcut;generalize wc=W2 at *;refine vj _ _ (wp_seq_k fun K7 hK7=>?_);clear vj
       go_cut [] from 146 to 162 (fun wx=>Hid (XqG wa xb #[.string (txZ n k),ZI 0] 83 wx))
       case first =>
        have c0:=ai XQ.out.b C0.out;have c1:=ai XQ.out.b C1.out
        by_cases hke:k=L n
        ·have co:=ai XQ.out.b CO.out;have hkb:((k:Int)==(L n:Int))=true:=gu;have hkl:k<L n+1:=ae;obtain⟨m0,m1⟩:=wQ T1.out hkl XQ.out.b;have x0:=XQ.out.c 0 (.string (txZ n k)) rfl;have x1:=XQ.out.c 1 (ZI 0) rfl;have z0:=XQ.out.f 0;have z1:=XQ.out.f 1;clear hke;go_wp2_with fail
         go_meet
         exact hid (CF XQ.out)
        exact nA
       case rest =>
       clear XQ;have XQ:=hid hcut.out;clear hcut;generalize wc=W3 at *
       go_upto_region 31 with fail
       have x0:=XQ.out.c 0 (.string (txZ n k)) rfl;have x1:=XQ.out.c 1 (ZI 0) rfl;have TT:=hid (TN.out _ (qaw.out.trans (cd XQ.out.drew.b)))
       go_region_held3 (fun W=>W.cell? (ZA xb 0)=some (.string (txZ n k))) (first | exact ai hb x0 | go_keep | (simp only[World.cell?_drew]; exact x0))
        (first | (go_at_call 88; refine(ni B0 n k _ TT.out RE hk3).mono ?_; rintro e w' ⟨rfl,hb0⟩; have hb:=(ZT _ _).drew.trans hb0; clear hb0))
       clear x0 x1;have ap:=hid (XQ.out.later hb);clear hb TT;generalize w'=W4 at *;clear XQ;have XQ:=hid ap.out;clear ap;have cm:=ai XQ.out.b CM.out;obtain⟨m0,m1⟩:=wQ T2.out am XQ.out.b;have x0:=XQ.out.c 0 (.string (txZ n k)) rfl;have x1:=XQ.out.c 1 (ZI 0) rfl;have z0:=XQ.out.f 0;have z1:=XQ.out.f 1
       go_upto_region 33 with fail
       clear cm m0 m1 x0 x1 z0 z1;have ap:=hid (CF XQ.out);generalize ((W4.setCell (ZA xb 0) (.string (txZ n k))).setCell (ZA xb 1) (ZI 0))=W5 at *;clear XQ;have XQ:=hid ap.out;clear ap;have x0:=XQ.out.c 0 (.string (txZ n k)) rfl;have x1:=XQ.out.c 1 (ZI 0) rfl;have TT:=hid (TN.out _ (qaw.out.trans (cd XQ.out.drew.b)))
       go_region_held3 (fun W=>W.cell? (ZA xb 0)=some (.string (txZ n k))) (first | exact ai hb x0 | go_keep | (simp only[World.cell?_drew]; exact x0))
        (first | (go_at_call 88; refine(ni B0 n k _ TT.out RE hk3).mono ?_; rintro e w' ⟨rfl,hb0⟩; have hb:=(ZT _ _).drew.trans hb0; clear hb0))
       exact Fb
      exact nH
    exact nM
section
abbrev Om:Obj:=.cells #[ZN,ZN,ZN,ZN,ZN,ZN,ZN,ZN,ZN,ZN,ZN,ZN,ZN,ZN,ZN,ZN,ZN] 59
def K0:KM:=fun _=>(ZN,[])
variable {q k:Nat}
theorem KF0  : ¬KF K0 q k:=fun hk=>by rcases hk with hk | ⟨p,hp,_⟩ <;> simp_all [K0,Value.ownBlock]
variable {GB:Nat}
theorem BF0(h:BF GB K0 k):k=GB:=by
 rcases h with h | ⟨q,_,h⟩
 ·exact h
 exact absurd h KF0
theorem Ci(w:World)(j:Nat)(hj:j<=16):(w.alloc Om).cell? (ZA w.heap.size j)=some (ZN):=by
 rw[World.cell?_alloc_new]
 match j,hj with
 | 0,_ | 1,_ | 2,_ | 3,_ | 4,_ | 5,_ | 6,_ | 7,_ | 8,_ | 9,_ | 10,_ | 11,_ | 12,_ | 13,_ | 14,_ | 15,_ | 16,_=>rfl
 | n+17,hj=>exact absurd hj ae
theorem Yq(hq:q<8):kC q<=16:=by
 have h:∀a:Fin 8,kC a<=16:=au;exact h ⟨q,hq⟩
variable {j:Nat}
theorem l5(h:∀a:Fin 8,j≠kC a):∀q,q<8->j≠kC q:=fun q hq=>h ⟨q,hq⟩
variable {w:World}
theorem YJ{lo:Nat}(h:lo<=w.heap.size):BgK lo w.heap.size (w.alloc Om) w.heap.size K0 :=
 ⟨h,Nat.le_refl _,fun q hq=>Ci w (kC q) (Yq hq),fun j hj _=>Ci w j hj,fun j=>av,fun q hq=>Kd.nil _ _ _ _ _,fun q hq B hB=>by simp[K0,Value.ownBlock]at hB,fun q hq=>by simp[K0],fun q hq k hk=>absurd hk KF0,fun q r _ _ _ k hk=>absurd hk KF0⟩
variable {TB:Nat}
theorem ap0{lo:Nat}{v:Value}{l:List Tl}(hc:w.cell? (ZA GB 0)=some v)(hk:Kd 1 5 63 lo w v l)(zv:∀k,Kf v l k->k≠GB)(hn:l.length<=300)(ht:fq TB w)(hTB:TB<=lo)(hTw:TB<=w.heap.size):Zw 65 #[ZP GB 0] w fun e w'=>e=.returned (.bool true)/\Kept (Kf v l) w w':=by
 rcases hk.cases with ⟨h1,_⟩ | ⟨X,cx,h1,h2,h3⟩
 ·refine(Sq GB w (h1 ▸ hc)).mono ?_;exact ky
 refine(RY GB X l.length cx (ltN l) (ltA l) (ltG l) (ltL l) (ltC l) w hn (h1 ▸ hc) h2 hk.lists hk.lenL hk.injN (fun j hj hn=>⟨fun e=>zv _ (hk.kf hj hn) e.symm,fun e=>hk.row_ne au (ji hj).1 (ik hn) mP⟩)).mono ?_;exact j3
theorem ap1{lo:Nat}{v:Value}{l:List Tl}(hc:w.cell? (ZA GB 1)=some v)(hk:Kd 1 3 23 lo w v l)(zv:∀k,Kf v l k->k≠GB)(hn:l.length<=300)(ht:fq TB w)(hTB:TB<=lo)(hTw:TB<=w.heap.size):Zw 66 #[ZP GB 0] w fun e w'=>e=.returned (.bool true)/\Kept (Kf v l) w w':=by
 rcases hk.cases with ⟨h1,_⟩ | ⟨X,cx,h1,h2,h3⟩
 ·refine(SI GB w (h1 ▸ hc)).mono ?_;exact ky
 refine(QT GB X l.length cx (ltN l) (ltA l) (ltG l) (ltL l) (ltC l) w hn (h1 ▸ hc) h2 hk.lists hk.lenL hk.injN (fun j hj hn=>⟨fun e=>zv _ (hk.kf hj hn) e.symm,fun e=>hk.row_ne au (ji hj).1 (ik hn) mP⟩)).mono ?_;exact j3
theorem ap2{lo:Nat}{v:Value}{l:List Tl}(hc:w.cell? (ZA GB 6)=some v)(hk:Kd 2 73 22 lo w v l)(zv:∀k,Kf v l k->k≠GB)(hn:l.length<=300)(ht:fq TB w)(hTB:TB<=lo)(hTw:TB<=w.heap.size):Zw 71 #[ZP GB 0] w fun e w'=>e=.returned (.bool true)/\Kept (Kf v l) w w':=by
 rcases hk.cases with ⟨h1,_⟩ | ⟨X,cx,h1,h2,h3⟩
 ·refine(SP GB w (h1 ▸ hc)).mono ?_;exact ky
 refine(RU TB GB X l.length cx (ltN l) (ltA l) (ltG l) (ltL l) (ltC l) w hn (h1 ▸ hc) h2 hk.lists hk.lenL hk.injN (fun j hj hn=>⟨fun e=>zv _ (hk.kf hj hn) e.symm,fun e=>hk.row_ne au (ji hj).1 (ik hn) mP⟩) ht hTw (fun j hj hn=>by
  obtain⟨_,_,_,_,hl⟩:=hk.ty (hk.kf hj hn)
  omega)).mono ?_
 exact j3
theorem ap3{lo:Nat}{v:Value}{l:List Tl}(hc:w.cell? (ZA GB 7)=some v)(hk:Kd 3 102 24 lo w v l)(zv:∀k,Kf v l k->k≠GB)(hn:l.length<=300)(ht:fq TB w)(hTB:TB<=lo)(hTw:TB<=w.heap.size):Zw 72 #[ZP GB 0] w fun e w'=>e=.returned (.bool true)/\Kept (Kf v l) w w':=by
 rcases hk.cases with ⟨h1,_⟩ | ⟨X,cx,h1,h2,h3⟩
 ·refine(TV GB w (h1 ▸ hc)).mono ?_;exact ky
 refine(RO GB X l.length cx (ltN l) (ltA l) (ltG l) (ltL l) (ltC l) w hn (h1 ▸ hc) h2 hk.lists hk.lenL hk.injN (fun j hj hn=>⟨fun e=>zv _ (hk.kf hj hn) e.symm,fun e=>hk.row_ne au (ji hj).1 (ik hn) mP⟩)).mono ?_;exact j3
theorem ap4{lo:Nat}{v:Value}{l:List Tl}(hc:w.cell? (ZA GB 8)=some v)(hk:Kd 2 83 27 lo w v l)(zv:∀k,Kf v l k->k≠GB)(hn:l.length<=300)(ht:fq TB w)(hTB:TB<=lo)(hTw:TB<=w.heap.size):Zw 73 #[ZP GB 0] w fun e w'=>e=.returned (.bool true)/\Kept (Kf v l) w w':=by
 rcases hk.cases with ⟨h1,_⟩ | ⟨X,cx,h1,h2,h3⟩
 ·refine(S8 GB w (h1 ▸ hc)).mono ?_;exact ky
 refine(Tc TB GB X l.length cx (ltN l) (ltA l) (ltG l) (ltL l) (ltC l) w hn (h1 ▸ hc) h2 hk.lists hk.lenL hk.injN (fun j hj hn=>⟨fun e=>zv _ (hk.kf hj hn) e.symm,fun e=>hk.row_ne au (ji hj).1 (ik hn) mP⟩) ht hTw (fun j hj hn=>by
  obtain⟨_,_,_,_,hl⟩:=hk.ty (hk.kf hj hn)
  omega)).mono ?_
 exact j3
theorem ap5{lo:Nat}{v:Value}{l:List Tl}(hc:w.cell? (ZA GB 9)=some v)(hk:Kd 3 75 76 lo w v l)(zv:∀k,Kf v l k->k≠GB)(hn:l.length<=300)(ht:fq TB w)(hTB:TB<=lo)(hTw:TB<=w.heap.size):Zw 74 #[ZP GB 0] w fun e w'=>e=.returned (.bool true)/\Kept (Kf v l) w w':=by
 rcases hk.cases with ⟨h1,_⟩ | ⟨X,cx,h1,h2,h3⟩
 ·refine(Rp GB w (h1 ▸ hc)).mono ?_;exact ky
 refine(Tz GB X l.length cx (ltN l) (ltA l) (ltG l) (ltL l) (ltC l) w hn (h1 ▸ hc) h2 hk.lists hk.lenL hk.injN (fun j hj hn=>⟨fun e=>zv _ (hk.kf hj hn) e.symm,fun e=>hk.row_ne au (ji hj).1 (ik hn) mP⟩)).mono ?_;exact j3
theorem ap6{lo:Nat}{v:Value}{l:List Tl}(hc:w.cell? (ZA GB 10)=some v)(hk:Kd 3 78 25 lo w v l)(zv:∀k,Kf v l k->k≠GB)(hn:l.length<=300)(ht:fq TB w)(hTB:TB<=lo)(hTw:TB<=w.heap.size):Zw 75 #[ZP GB 0] w fun e w'=>e=.returned (.bool true)/\Kept (Kf v l) w w':=by
 rcases hk.cases with ⟨h1,_⟩ | ⟨X,cx,h1,h2,h3⟩
 ·refine(TW GB w (h1 ▸ hc)).mono ?_;exact ky
 refine(SX GB X l.length cx (ltN l) (ltA l) (ltG l) (ltL l) (ltC l) w hn (h1 ▸ hc) h2 hk.lists hk.lenL hk.injN (fun j hj hn=>⟨fun e=>zv _ (hk.kf hj hn) e.symm,fun e=>hk.row_ne au (ji hj).1 (ik hn) mP⟩)).mono ?_;exact j3
theorem ap7{lo:Nat}{v:Value}{l:List Tl}(hc:w.cell? (ZA GB 11)=some v)(hk:Kd 2 81 26 lo w v l)(zv:∀k,Kf v l k->k≠GB)(hn:l.length<=300)(ht:fq TB w)(hTB:TB<=lo)(hTw:TB<=w.heap.size):Zw 76 #[ZP GB 0] w fun e w'=>e=.returned (.bool true)/\Kept (Kf v l) w w':=by
 rcases hk.cases with ⟨h1,_⟩ | ⟨X,cx,h1,h2,h3⟩
 ·refine(SF GB w (h1 ▸ hc)).mono ?_;exact ky
 refine(Uf GB X l.length cx (ltN l) (ltA l) (ltG l) (ltL l) (ltC l) w hn (h1 ▸ hc) h2 hk.lists hk.lenL hk.injN (fun j hj hn=>⟨fun e=>zv _ (hk.kf hj hn) e.symm,fun e=>hk.row_ne au (ji hj).1 (ik hn) mP⟩)).mono ?_;exact j3
structure cK(lo base:Nat)(w0:World)(GB:Nat)(K:KM)(TB c:Nat)(W:World):Prop where
 g:BgK lo base w0 GB K
 kept:Kept (BF GB K) w0 W
 cell:∀(j:Nat)(v:Value),w0.cell? (ZA GB j)=some v->W.cell? (ZA GB j)=some v
 kd:∀q,q<8->c<=kC q->Kd (kSz q) (kE q) (kR q) lo W (K q).1 (K q).2
 tens:fq TB w0/\TB<=lo
variable {w0 W:World}{K:KM}
theorem cK.tn{lo base:Nat}{TB c:Nat}(h:cK lo base w0 GB K TB c W):fq TB W/\TB<=lo/\TB<=W.heap.size:=by
 have h1:TB<=w0.heap.size:=by have:=h.g.gl; have:=h.g.bs; have:=h.g.lb; have:=h.tens.2; omega
 exact⟨h.tens.1.later (h.kept.to_below h1 (fun k hk hx=>by have:=h.g.low hx; have:=h.tens.2; omega)),h.tens.2,ZW h1 h.kept.size⟩
theorem cK.skip{lo base:Nat}{TB c:Nat}(h:cK lo base w0 GB K TB c W):cK lo base w0 GB K TB (c+1) W :=
 ⟨h.g,h.kept,h.cell,fun q hq hc=>h.kd q hq ae,h.tens⟩
variable {W':World}
theorem cK.step{lo base:Nat}{TB c q:Nat}(h:cK lo base w0 GB K TB c W)(hq:q<8)(hc:kC q=c)(hk:Kept (Kf (K q).1 (K q).2) W W'):cK lo base w0 GB K TB (c+1) W' :=
 ⟨h.g,h.kept.trans (hk.mono (fun k x=>.inr ⟨q,hq,x⟩)),fun j v hv=>hk.cell (h.cell j v hv) (fun hx=>h.g.n q hq GB hx rfl),fun r hr hcr=>(h.kd r hr ae).kept hk (fun k hx hy=>h.g.dis r q hr hq (fun e=>by subst e; omega) k hx hy),h.tens⟩
theorem YX{lo base:Nat}(h:cK lo base w0 GB K TB 0 W):Zw 65 #[ZP GB 0] W fun e w'=>e=.returned (.bool true)/\cK lo base w0 GB K TB 1 w':=by
 refine(ap0 (h.cell 0 _ (h.g.c 0 ae)) (h.kd 0 ae lRn) (h.g.n 0 ae) (h.g.nl 0 ae) h.tn.1 h.tn.2.1 h.tn.2.2).mono ?_;rintro e w' ⟨rfl,hk⟩;exact⟨rfl,h.step (q:=0) ae rfl hk⟩
theorem YH{lo base:Nat}(h:cK lo base w0 GB K TB 1 W):Zw 66 #[ZP GB 0] W fun e w'=>e=.returned (.bool true)/\cK lo base w0 GB K TB 2 w':=by
 refine(ap1 (h.cell 1 _ (h.g.c 1 ae)) (h.kd 1 ae lRn) (h.g.n 1 ae) (h.g.nl 1 ae) h.tn.1 h.tn.2.1 h.tn.2.2).mono ?_;rintro e w' ⟨rfl,hk⟩;exact⟨rfl,h.step (q:=1) ae rfl hk⟩
theorem Zo{lo base:Nat}(h:cK lo base w0 GB K TB 2 W):Zw 67 #[ZP GB 0] W fun e w'=>e=.returned (.bool true)/\cK lo base w0 GB K TB 3 w':=by
 refine(TQ GB W (h.cell 2 _ (h.g.cz 2 ae (l5 au)))).mono ?_;exact jB
theorem YK{lo base:Nat}(h:cK lo base w0 GB K TB 3 W):Zw 68 #[ZP GB 0] W fun e w'=>e=.returned (.bool true)/\cK lo base w0 GB K TB 4 w':=by
 refine(Tj GB W (h.cell 3 _ (h.g.cz 3 ae (l5 au)))).mono ?_;exact jB
theorem YT{lo base:Nat}(h:cK lo base w0 GB K TB 4 W):Zw 69 #[ZP GB 0] W fun e w'=>e=.returned (.bool true)/\cK lo base w0 GB K TB 5 w':=by
 refine(SJ GB W (h.cell 4 _ (h.g.cz 4 ae (l5 au)))).mono ?_;exact jB
theorem Zl{lo base:Nat}(h:cK lo base w0 GB K TB 5 W):Zw 70 #[ZP GB 0] W fun e w'=>e=.returned (.bool true)/\cK lo base w0 GB K TB 6 w':=by
 refine(QR GB W (h.cell 5 _ (h.g.cz 5 ae (l5 au)))).mono ?_;exact jB
theorem Y5{lo base:Nat}(h:cK lo base w0 GB K TB 6 W):Zw 71 #[ZP GB 0] W fun e w'=>e=.returned (.bool true)/\cK lo base w0 GB K TB 7 w':=by
 refine(ap2 (h.cell 6 _ (h.g.c 2 ae)) (h.kd 2 ae lRn) (h.g.n 2 ae) (h.g.nl 2 ae) h.tn.1 h.tn.2.1 h.tn.2.2).mono ?_;rintro e w' ⟨rfl,hk⟩;exact⟨rfl,h.step (q:=2) ae rfl hk⟩
theorem Y7{lo base:Nat}(h:cK lo base w0 GB K TB 7 W):Zw 72 #[ZP GB 0] W fun e w'=>e=.returned (.bool true)/\cK lo base w0 GB K TB 8 w':=by
 refine(ap3 (h.cell 7 _ (h.g.c 3 ae)) (h.kd 3 ae lRn) (h.g.n 3 ae) (h.g.nl 3 ae) h.tn.1 h.tn.2.1 h.tn.2.2).mono ?_;rintro e w' ⟨rfl,hk⟩;exact⟨rfl,h.step (q:=3) ae rfl hk⟩
theorem Y4{lo base:Nat}(h:cK lo base w0 GB K TB 8 W):Zw 73 #[ZP GB 0] W fun e w'=>e=.returned (.bool true)/\cK lo base w0 GB K TB 9 w':=by
 refine(ap4 (h.cell 8 _ (h.g.c 4 ae)) (h.kd 4 ae lRn) (h.g.n 4 ae) (h.g.nl 4 ae) h.tn.1 h.tn.2.1 h.tn.2.2).mono ?_;rintro e w' ⟨rfl,hk⟩;exact⟨rfl,h.step (q:=4) ae rfl hk⟩
theorem Y3{lo base:Nat}(h:cK lo base w0 GB K TB 9 W):Zw 74 #[ZP GB 0] W fun e w'=>e=.returned (.bool true)/\cK lo base w0 GB K TB 10 w':=by
 refine(ap5 (h.cell 9 _ (h.g.c 5 ae)) (h.kd 5 ae lRn) (h.g.n 5 ae) (h.g.nl 5 ae) h.tn.1 h.tn.2.1 h.tn.2.2).mono ?_;rintro e w' ⟨rfl,hk⟩;exact⟨rfl,h.step (q:=5) ae rfl hk⟩
theorem YQ{lo base:Nat}(h:cK lo base w0 GB K TB 10 W):Zw 75 #[ZP GB 0] W fun e w'=>e=.returned (.bool true)/\cK lo base w0 GB K TB 11 w':=by
 refine(ap6 (h.cell 10 _ (h.g.c 6 ae)) (h.kd 6 ae lRn) (h.g.n 6 ae) (h.g.nl 6 ae) h.tn.1 h.tn.2.1 h.tn.2.2).mono ?_;rintro e w' ⟨rfl,hk⟩;exact⟨rfl,h.step (q:=6) ae rfl hk⟩
theorem YI{lo base:Nat}(h:cK lo base w0 GB K TB 11 W):Zw 76 #[ZP GB 0] W fun e w'=>e=.returned (.bool true)/\cK lo base w0 GB K TB 12 w':=by
 refine(ap7 (h.cell 11 _ (h.g.c 7 ae)) (h.kd 7 ae lRn) (h.g.n 7 ae) (h.g.nl 7 ae) h.tn.1 h.tn.2.1 h.tn.2.2).mono ?_;rintro e w' ⟨rfl,hk⟩;exact⟨rfl,h.step (q:=7) ae rfl hk⟩
theorem YN{lo base:Nat}(h:cK lo base w0 GB K TB 12 W):Zw 77 #[ZP GB 0] W fun e w'=>e=.returned (.bool true)/\cK lo base w0 GB K TB 13 w':=by
 refine(QK GB W (h.cell 12 _ (h.g.cz 12 ae (l5 au)))).mono ?_;exact jB
theorem Zp{lo base:Nat}(h:cK lo base w0 GB K TB 13 W):Zw 78 #[ZP GB 0] W fun e w'=>e=.returned (.bool true)/\cK lo base w0 GB K TB 14 w':=by
 refine(QQ GB W (h.cell 13 _ (h.g.cz 13 ae (l5 au)))).mono ?_;exact jB
theorem YO{lo base:Nat}(h:cK lo base w0 GB K TB 14 W):Zw 79 #[ZP GB 0] W fun e w'=>e=.returned (.bool true)/\cK lo base w0 GB K TB 15 w':=by
 refine(SK GB W (h.cell 14 _ (h.g.cz 14 ae (l5 au)))).mono ?_;exact jB
theorem YL{lo base:Nat}(h:cK lo base w0 GB K TB 15 W):Zw 80 #[ZP GB 0] W fun e w'=>e=.returned (.bool true)/\cK lo base w0 GB K TB 16 w':=by
 refine(QN GB W (h.cell 15 _ (h.g.cz 15 ae (l5 au)))).mono ?_;exact jB
theorem YZ{lo base:Nat}(h:cK lo base w0 GB K TB 16 W):Zw 81 #[ZP GB 0] W fun e w'=>e=.returned (.bool true)/\cK lo base w0 GB K TB 17 w':=by
 refine(Ue GB W (h.cell 16 _ (h.g.cz 16 ae (l5 au)))).mono ?_;exact jB
theorem BgK.apart{lo base TB:Nat}(h:BgK lo base w GB K)(ht:fq TB w)(hTB:TB<=lo) :
  Zw 18 #[ZP GB 0] w fun e w'=>e=.returned (.bool true)/\Kept (BF GB K) w w':=by
 have R65:Hid (cK lo base w GB K TB 0 w):=hid ⟨h,Kept.refl _ _,fun _ _ x=>x,fun q hq _=>h.kd q hq,ht,hTB⟩;clear h ht hTB;go_enter func18,ntmps18
 go_wp2_with fail;refine(YX R65.out).mono ?_;rintro e w65⟨rfl,hr⟩;have R66:=hid hr;clear hr R65;go_wp2_with fail;refine(YH R66.out).mono ?_;rintro e w66⟨rfl,hr⟩;have R67:=hid hr;clear hr R66;go_wp2_with fail;refine(Zo R67.out).mono ?_;rintro e w67⟨rfl,hr⟩;have R68:=hid hr;clear hr R67;go_wp2_with fail;refine(YK R68.out).mono ?_;rintro e w68⟨rfl,hr⟩;have R69:=hid hr;clear hr R68;go_wp2_with fail;refine(YT R69.out).mono ?_;rintro e w69⟨rfl,hr⟩;have R70:=hid hr;clear hr R69;go_wp2_with fail;refine(Zl R70.out).mono ?_;rintro e w70⟨rfl,hr⟩;have R71:=hid hr;clear hr R70;go_wp2_with fail;refine(Y5 R71.out).mono ?_;rintro e w71⟨rfl,hr⟩;have R72:=hid hr;clear hr R71;go_wp2_with fail;refine(Y7 R72.out).mono ?_;rintro e w72⟨rfl,hr⟩;have R73:=hid hr;clear hr R72;go_wp2_with fail;refine(Y4 R73.out).mono ?_;rintro e w73⟨rfl,hr⟩;have R74:=hid hr;clear hr R73;go_wp2_with fail;refine(Y3 R74.out).mono ?_;rintro e w74⟨rfl,hr⟩;have R75:=hid hr;clear hr R74;go_wp2_with fail;refine(YQ R75.out).mono ?_;rintro e w75⟨rfl,hr⟩;have R76:=hid hr;clear hr R75;go_wp2_with fail;refine(YI R76.out).mono ?_;rintro e w76⟨rfl,hr⟩;have R77:=hid hr;clear hr R76;go_wp2_with fail;refine(YN R77.out).mono ?_;rintro e w77⟨rfl,hr⟩;have R78:=hid hr;clear hr R77;go_wp2_with fail;refine(Zp R78.out).mono ?_;rintro e w78⟨rfl,hr⟩;have R79:=hid hr;clear hr R78;go_wp2_with fail;refine(YO R79.out).mono ?_;rintro e w79⟨rfl,hr⟩;have R80:=hid hr;clear hr R79;go_wp2_with fail;refine(YL R80.out).mono ?_;rintro e w80⟨rfl,hr⟩;have R81:=hid hr;clear hr R80;go_wp2_with fail;refine(YZ R81.out).mono ?_;rintro e w81⟨rfl,hr⟩;have R82:=hid hr;clear hr R81;go_wp2_with fail;go_ret;exact⟨rfl,R82.out.kept⟩
theorem Tryz.inlq0:(prog.info? 63).map (fun i=>(i.zero,i.size,i.bytes))=some (some (ZN),1,24):=ak
theorem VQ(GB:Nat)(v:Value)(n:Nat)(xs:Zah)(la:OAz)(ln lc:Nat)(w:World)(hn:n<300)(hc:w.cell? (ZA GB 0)=some v)(hf:w.frozen? (ZA GB 0)=false)
  (hown:w.ownsRow 0 63 1 v n xs) (hne:v.ownBlock≠some GB) :
  Zw 182 #[ZP GB 0,.slice la ln lc] w fun e w'=>e=.returned (.tuple #[])/\∃B cap,Row w' 63 B (n+1) cap (xs++[.slice la ln lc])/\w'.cell? (ZA GB 0)=some (ZL B (n+1) cap) /\
   w'.frozen? (ZA GB 0)=false/\B≠GB/\(v.ownBlock=some B\/w.heap.size<=B)/\(∀j,j≠0->w'.cell? (ZA GB j)=w.cell? (ZA GB j))/\Kept (fun b=>b=GB\/v.ownBlock=some b) w w'/\(∀j,w'.frozen? (ZA GB j)=w.frozen? (ZA GB j)):=by
 obtain⟨b8,p0,p1,p2,p3⟩:=Z0 Tryz.inlq0;obtain⟨va,vc,rfl,_⟩:=aR hown;have hb3:n+1<=maxLen:=aP;have hb4:(n+1)*24<=140737488355328:=ae;obtain⟨HO,ZD,HC,HF⟩:=ZF hown hne hc hf;have It:=Kept.alloc (fun _=>False) w (jh la ln lc);have GT:=hid It;clear hown hne It;go_enter func182,ntmps182
 go_wp2_with (first
  | (at_builtin; refine bO _ rfl (.tmp 14) (.tmp 16) 41 rfl 63 b8 (ZN) 24 underlying41 p0 p1 p2 p3 rfl _ n _ rfl (bZ HO.out fun B hB=>GT.out.block B (dU HO.out hB).1 (fun x=>x)) (ZA w.heap.size 0) (.slice la ln lc) rfl dh rfl hb3 hb4 ?_; intro B cap w2 hrow AS; obtain⟨d1,d2,d3,d4,d5,d6⟩:=ja HO.out ZD.out HC.out HF.out _ hrow AS; have R1:=hid hrow; have D3:=hid d3; have D4:=hid d4; have D5:=hid d5; have D6:=hid d6; clear hrow AS d3 d4 d5 d6))
 exact ux
theorem BgK.ad0{lo base:Nat}(h:BgK lo base w GB K)(p:Tl)(hp:p.ok 1 5 lo w)(hl:p.n<=4194304)(hf:∀k,p.b=some k->¬BF GB K k) :
  Zw 182 #[ZP GB 0,.slice p.ad p.n p.c] w fun e w'=>e=.returned (.tuple #[])/\bB lo base GB K (fun k=>p.b=some k) w w':=by
 by_cases hn:(K 0).2.length<300
 ·refine(VQ GB (K 0).1 (K 0).2.length ((K 0).2.map Tl.v) p.ad p.n p.c w hn (h.c 0 ae) (h.fz 0) (h.kd 0 ae).own (fun e=>h.n 0 ae GB (.inl e) rfl)).mono ?_
  rintro e w' ⟨rfl,B,cap,hrow,hc0,qk,hBG,To,hcs,hk,hfs⟩;exact⟨rfl,h.grow (q:=0) ae p hp hl hf hn hrow hc0 To hcs hk hfs⟩
 have hc:w.cell? (ZA GB 0)=some (K 0).1:=h.c 0 ae;obtain⟨va,vc,hv,_⟩:=aR (h.kd 0 ae).own;rw[hv]at hc;generalize (K 0).2.length=N at *;have hn':¬(N:Int)<300:=ae;have H:=hid h;clear h hp hf hv;go_enter func182,ntmps182;exact pB
theorem Tryz.inlq1:(prog.info? 23).map (fun i=>(i.zero,i.size,i.bytes))=some (some (ZN),1,24):=ak
theorem Yh(GB:Nat)(v:Value)(n:Nat)(xs:Zah)(la:OAz)(ln lc:Nat)(w:World)(hn:n<300)(hc:w.cell? (ZA GB 1)=some v)(hf:w.frozen? (ZA GB 1)=false)
  (hown:w.ownsRow 0 23 1 v n xs) (hne:v.ownBlock≠some GB) :
  Zw 60 #[ZP GB 0,.slice la ln lc] w fun e w'=>e=.returned (.tuple #[])/\∃B cap,Row w' 23 B (n+1) cap (xs++[.slice la ln lc])/\w'.cell? (ZA GB 1)=some (ZL B (n+1) cap) /\
   w'.frozen? (ZA GB 1)=false/\B≠GB/\(v.ownBlock=some B\/w.heap.size<=B)/\(∀j,j≠1->w'.cell? (ZA GB j)=w.cell? (ZA GB j))/\Kept (fun b=>b=GB\/v.ownBlock=some b) w w'/\(∀j,w'.frozen? (ZA GB j)=w.frozen? (ZA GB j)):=by
 obtain⟨b8,p0,p1,p2,p3⟩:=Z0 Tryz.inlq1;obtain⟨va,vc,rfl,_⟩:=aR hown;have hb3:n+1<=maxLen:=aP;have hb4:(n+1)*24<=140737488355328:=ae;obtain⟨HO,ZD,HC,HF⟩:=ZF hown hne hc hf;have It:=Kept.alloc (fun _=>False) w (.cells #[.slice la ln lc] 23);have GT:=hid It;clear hown hne It;go_enter func60,ntmps60
 go_wp2_with (first
  | (at_builtin; refine bO _ rfl (.tmp 14) (.tmp 16) 42 rfl 23 b8 (ZN) 24 underlying42 p0 p1 p2 p3 rfl _ n _ rfl (bZ HO.out fun B hB=>GT.out.block B (dU HO.out hB).1 (fun x=>x)) (ZA w.heap.size 0) (.slice la ln lc) rfl dh rfl hb3 hb4 ?_; intro B cap w2 hrow AS; obtain⟨d1,d2,d3,d4,d5,d6⟩:=ja HO.out ZD.out HC.out HF.out _ hrow AS; have R1:=hid hrow; have D3:=hid d3; have D4:=hid d4; have D5:=hid d5; have D6:=hid d6; clear hrow AS d3 d4 d5 d6))
 exact ux
theorem BgK.ad1{lo base:Nat}(h:BgK lo base w GB K)(p:Tl)(hp:p.ok 1 3 lo w)(hl:p.n<=4194304)(hf:∀k,p.b=some k->¬BF GB K k) :
  Zw 60 #[ZP GB 0,.slice p.ad p.n p.c] w fun e w'=>e=.returned (.tuple #[])/\bB lo base GB K (fun k=>p.b=some k) w w':=by
 by_cases hn:(K 1).2.length<300
 ·refine(Yh GB (K 1).1 (K 1).2.length ((K 1).2.map Tl.v) p.ad p.n p.c w hn (h.c 1 ae) (h.fz 1) (h.kd 1 ae).own (fun e=>h.n 1 ae GB (.inl e) rfl)).mono ?_
  rintro e w' ⟨rfl,B,cap,hrow,hc0,qk,hBG,To,hcs,hk,hfs⟩;exact⟨rfl,h.grow (q:=1) ae p hp hl hf hn hrow hc0 To hcs hk hfs⟩
 have hc:w.cell? (ZA GB 1)=some (K 1).1:=h.c 1 ae;obtain⟨va,vc,hv,_⟩:=aR (h.kd 1 ae).own;rw[hv]at hc;generalize (K 1).2.length=N at *;have hn':¬(N:Int)<300:=ae;have H:=hid h;clear h hp hf hv;go_enter func60,ntmps60;exact pB
theorem Tryz.inlq2:(prog.info? 22).map (fun i=>(i.zero,i.size,i.bytes))=some (some (ZN),1,24):=ak
theorem XO(GB:Nat)(v:Value)(n:Nat)(xs:Zah)(la:OAz)(ln lc:Nat)(w:World)(hn:n<300)(hc:w.cell? (ZA GB 6)=some v)(hf:w.frozen? (ZA GB 6)=false)
  (hown:w.ownsRow 0 22 1 v n xs) (hne:v.ownBlock≠some GB) :
  Zw 59 #[ZP GB 0,.slice la ln lc] w fun e w'=>e=.returned (.tuple #[])/\∃B cap,Row w' 22 B (n+1) cap (xs++[.slice la ln lc])/\w'.cell? (ZA GB 6)=some (ZL B (n+1) cap) /\
   w'.frozen? (ZA GB 6)=false/\B≠GB/\(v.ownBlock=some B\/w.heap.size<=B)/\(∀j,j≠6->w'.cell? (ZA GB j)=w.cell? (ZA GB j))/\Kept (fun b=>b=GB\/v.ownBlock=some b) w w'/\(∀j,w'.frozen? (ZA GB j)=w.frozen? (ZA GB j)):=by
 obtain⟨b8,p0,p1,p2,p3⟩:=Z0 Tryz.inlq2;obtain⟨va,vc,rfl,_⟩:=aR hown;have hb3:n+1<=maxLen:=aP;have hb4:(n+1)*24<=140737488355328:=ae;obtain⟨HO,ZD,HC,HF⟩:=ZF hown hne hc hf;have It:=Kept.alloc (fun _=>False) w (kT la ln lc);have GT:=hid It;clear hown hne It;go_enter func59,ntmps59
 go_wp2_with (first
  | (at_builtin; refine bO _ rfl (.tmp 14) (.tmp 16) 47 rfl 22 b8 (ZN) 24 underlying47 p0 p1 p2 p3 rfl _ n _ rfl (bZ HO.out fun B hB=>GT.out.block B (dU HO.out hB).1 (fun x=>x)) (ZA w.heap.size 0) (.slice la ln lc) rfl dh rfl hb3 hb4 ?_; intro B cap w2 hrow AS; obtain⟨d1,d2,d3,d4,d5,d6⟩:=ja HO.out ZD.out HC.out HF.out _ hrow AS; have R1:=hid hrow; have D3:=hid d3; have D4:=hid d4; have D5:=hid d5; have D6:=hid d6; clear hrow AS d3 d4 d5 d6))
 exact ux
theorem BgK.ad2{lo base:Nat}(h:BgK lo base w GB K)(p:Tl)(hp:p.ok 2 73 lo w)(hl:p.n<=4194304)(hf:∀k,p.b=some k->¬BF GB K k) :
  Zw 59 #[ZP GB 0,.slice p.ad p.n p.c] w fun e w'=>e=.returned (.tuple #[])/\bB lo base GB K (fun k=>p.b=some k) w w':=by
 by_cases hn:(K 2).2.length<300
 ·refine(XO GB (K 2).1 (K 2).2.length ((K 2).2.map Tl.v) p.ad p.n p.c w hn (h.c 2 ae) (h.fz 6) (h.kd 2 ae).own (fun e=>h.n 2 ae GB (.inl e) rfl)).mono ?_
  rintro e w' ⟨rfl,B,cap,hrow,hc0,qk,hBG,To,hcs,hk,hfs⟩;exact⟨rfl,h.grow (q:=2) ae p hp hl hf hn hrow hc0 To hcs hk hfs⟩
 have hc:w.cell? (ZA GB 6)=some (K 2).1:=h.c 2 ae;obtain⟨va,vc,hv,_⟩:=aR (h.kd 2 ae).own;rw[hv]at hc;generalize (K 2).2.length=N at *;have hn':¬(N:Int)<300:=ae;have H:=hid h;clear h hp hf hv;go_enter func59,ntmps59;exact pB
theorem Tryz.inlq3:(prog.info? 24).map (fun i=>(i.zero,i.size,i.bytes))=some (some (ZN),1,24):=ak
theorem XE(GB:Nat)(v:Value)(n:Nat)(xs:Zah)(la:OAz)(ln lc:Nat)(w:World)(hn:n<300)(hc:w.cell? (ZA GB 7)=some v)(hf:w.frozen? (ZA GB 7)=false)
  (hown:w.ownsRow 0 24 1 v n xs) (hne:v.ownBlock≠some GB) :
  Zw 61 #[ZP GB 0,.slice la ln lc] w fun e w'=>e=.returned (.tuple #[])/\∃B cap,Row w' 24 B (n+1) cap (xs++[.slice la ln lc])/\w'.cell? (ZA GB 7)=some (ZL B (n+1) cap) /\
   w'.frozen? (ZA GB 7)=false/\B≠GB/\(v.ownBlock=some B\/w.heap.size<=B)/\(∀j,j≠7->w'.cell? (ZA GB j)=w.cell? (ZA GB j))/\Kept (fun b=>b=GB\/v.ownBlock=some b) w w'/\(∀j,w'.frozen? (ZA GB j)=w.frozen? (ZA GB j)):=by
 obtain⟨b8,p0,p1,p2,p3⟩:=Z0 Tryz.inlq3;obtain⟨va,vc,rfl,_⟩:=aR hown;have hb3:n+1<=maxLen:=aP;have hb4:(n+1)*24<=140737488355328:=ae;obtain⟨HO,ZD,HC,HF⟩:=ZF hown hne hc hf;have It:=Kept.alloc (fun _=>False) w (.cells #[.slice la ln lc] 24);have GT:=hid It;clear hown hne It;go_enter func61,ntmps61
 go_wp2_with (first
  | (at_builtin; refine bO _ rfl (.tmp 14) (.tmp 16) 48 rfl 24 b8 (ZN) 24 underlying48 p0 p1 p2 p3 rfl _ n _ rfl (bZ HO.out fun B hB=>GT.out.block B (dU HO.out hB).1 (fun x=>x)) (ZA w.heap.size 0) (.slice la ln lc) rfl dh rfl hb3 hb4 ?_; intro B cap w2 hrow AS; obtain⟨d1,d2,d3,d4,d5,d6⟩:=ja HO.out ZD.out HC.out HF.out _ hrow AS; have R1:=hid hrow; have D3:=hid d3; have D4:=hid d4; have D5:=hid d5; have D6:=hid d6; clear hrow AS d3 d4 d5 d6))
 exact ux
theorem BgK.ad3{lo base:Nat}(h:BgK lo base w GB K)(p:Tl)(hp:p.ok 3 102 lo w)(hl:p.n<=4194304)(hf:∀k,p.b=some k->¬BF GB K k) :
  Zw 61 #[ZP GB 0,.slice p.ad p.n p.c] w fun e w'=>e=.returned (.tuple #[])/\bB lo base GB K (fun k=>p.b=some k) w w':=by
 by_cases hn:(K 3).2.length<300
 ·refine(XE GB (K 3).1 (K 3).2.length ((K 3).2.map Tl.v) p.ad p.n p.c w hn (h.c 3 ae) (h.fz 7) (h.kd 3 ae).own (fun e=>h.n 3 ae GB (.inl e) rfl)).mono ?_
  rintro e w' ⟨rfl,B,cap,hrow,hc0,qk,hBG,To,hcs,hk,hfs⟩;exact⟨rfl,h.grow (q:=3) ae p hp hl hf hn hrow hc0 To hcs hk hfs⟩
 have hc:w.cell? (ZA GB 7)=some (K 3).1:=h.c 3 ae;obtain⟨va,vc,hv,_⟩:=aR (h.kd 3 ae).own;rw[hv]at hc;generalize (K 3).2.length=N at *;have hn':¬(N:Int)<300:=ae;have H:=hid h;clear h hp hf hv;go_enter func61,ntmps61;exact pB
theorem Tryz.inlq4:(prog.info? 27).map (fun i=>(i.zero,i.size,i.bytes))=some (some (ZN),1,24):=ak
theorem XR(GB:Nat)(v:Value)(n:Nat)(xs:Zah)(la:OAz)(ln lc:Nat)(w:World)(hn:n<300)(hc:w.cell? (ZA GB 8)=some v)(hf:w.frozen? (ZA GB 8)=false)
  (hown:w.ownsRow 0 27 1 v n xs) (hne:v.ownBlock≠some GB) :
  Zw 64 #[ZP GB 0,.slice la ln lc] w fun e w'=>e=.returned (.tuple #[])/\∃B cap,Row w' 27 B (n+1) cap (xs++[.slice la ln lc])/\w'.cell? (ZA GB 8)=some (ZL B (n+1) cap) /\
   w'.frozen? (ZA GB 8)=false/\B≠GB/\(v.ownBlock=some B\/w.heap.size<=B)/\(∀j,j≠8->w'.cell? (ZA GB j)=w.cell? (ZA GB j))/\Kept (fun b=>b=GB\/v.ownBlock=some b) w w'/\(∀j,w'.frozen? (ZA GB j)=w.frozen? (ZA GB j)):=by
 obtain⟨b8,p0,p1,p2,p3⟩:=Z0 Tryz.inlq4;obtain⟨va,vc,rfl,_⟩:=aR hown;have hb3:n+1<=maxLen:=aP;have hb4:(n+1)*24<=140737488355328:=ae;obtain⟨HO,ZD,HC,HF⟩:=ZF hown hne hc hf;have It:=Kept.alloc (fun _=>False) w (.cells #[.slice la ln lc] 27);have GT:=hid It;clear hown hne It;go_enter func64,ntmps64
 go_wp2_with (first
  | (at_builtin; refine bO _ rfl (.tmp 14) (.tmp 16) 49 rfl 27 b8 (ZN) 24 underlying49 p0 p1 p2 p3 rfl _ n _ rfl (bZ HO.out fun B hB=>GT.out.block B (dU HO.out hB).1 (fun x=>x)) (ZA w.heap.size 0) (.slice la ln lc) rfl dh rfl hb3 hb4 ?_; intro B cap w2 hrow AS; obtain⟨d1,d2,d3,d4,d5,d6⟩:=ja HO.out ZD.out HC.out HF.out _ hrow AS; have R1:=hid hrow; have D3:=hid d3; have D4:=hid d4; have D5:=hid d5; have D6:=hid d6; clear hrow AS d3 d4 d5 d6))
 exact ux
theorem BgK.ad4{lo base:Nat}(h:BgK lo base w GB K)(p:Tl)(hp:p.ok 2 83 lo w)(hl:p.n<=4194304)(hf:∀k,p.b=some k->¬BF GB K k) :
  Zw 64 #[ZP GB 0,.slice p.ad p.n p.c] w fun e w'=>e=.returned (.tuple #[])/\bB lo base GB K (fun k=>p.b=some k) w w':=by
 by_cases hn:(K 4).2.length<300
 ·refine(XR GB (K 4).1 (K 4).2.length ((K 4).2.map Tl.v) p.ad p.n p.c w hn (h.c 4 ae) (h.fz 8) (h.kd 4 ae).own (fun e=>h.n 4 ae GB (.inl e) rfl)).mono ?_
  rintro e w' ⟨rfl,B,cap,hrow,hc0,qk,hBG,To,hcs,hk,hfs⟩;exact⟨rfl,h.grow (q:=4) ae p hp hl hf hn hrow hc0 To hcs hk hfs⟩
 have hc:w.cell? (ZA GB 8)=some (K 4).1:=h.c 4 ae;obtain⟨va,vc,hv,_⟩:=aR (h.kd 4 ae).own;rw[hv]at hc;generalize (K 4).2.length=N at *;have hn':¬(N:Int)<300:=ae;have H:=hid h;clear h hp hf hv;go_enter func64,ntmps64;exact pB
variable {T:Zam}
theorem BgK.adI{lo base:Nat}(h:BgK lo base w GB K)(a b:Int)(p:Tl)
  (hA:∀w1:World,BgK lo base w1 GB K->Kept (fun _=>False) w w1->Zw 60 #[ZP GB 0,.slice p.ad p.n p.c] w1 fun e w'=>e=.returned (.tuple #[])/\bB lo base GB K T w1 w') :
  Zw 229 #[ZP GB 0,.agg #[ZU a,ZI b,.slice p.ad p.n p.c]] w fun e w'=>e=.returned (.tuple #[])/\bB lo base GB K T w w':=by
 have hb0:=h.box (aH a b p.ad p.n p.c);have A1:=hid (hA _ hb0 (Kept.alloc (fun _=>False) w _));have x2:(w.alloc (aH a b p.ad p.n p.c)).cell? (ZA w.heap.size 2)=some (.slice p.ad p.n p.c):=ag (uR w _);have BX:=hid (fun(w2:World) (hx:bB lo base GB K T (w.alloc (aH a b p.ad p.n p.c)) w2)=>hx.boxed);clear h hA hb0;go_enter func229,ntmps229;exact yF
theorem BgK.adFn{lo base:Nat}(h:BgK lo base w GB K)(a:Int)(l:BAz)(p:Tl)
  (hA:∀w1:World,BgK lo base w1 GB K->Kept (fun _=>False) w w1->Zw 181 #[ZP GB 0,.slice p.ad p.n p.c] w1 fun e w'=>e=.returned (.tuple #[])/\bB lo base GB K T w1 w') :
  Zw 128 #[ZP GB 0,.agg #[ZI a,.string l,.slice p.ad p.n p.c]] w fun e w'=>e=.returned (.tuple #[])/\bB lo base GB K T w w':=by
 have hb0:=h.box (aN a l p.ad p.n p.c);have A1:=hid (hA _ hb0 (Kept.alloc (fun _=>False) w _));have x2:(w.alloc (aN a l p.ad p.n p.c)).cell? (ZA w.heap.size 2)=some (.slice p.ad p.n p.c):=ag (uR w _);have BX:=hid (fun(w2:World) (hx:bB lo base GB K T (w.alloc (aN a l p.ad p.n p.c)) w2)=>hx.boxed);clear h hA hb0;go_enter func128,ntmps128;exact yF
theorem BgK.adDt{lo base:Nat}(h:BgK lo base w GB K)(a:Int)(p:Tl)
  (hA:∀w1:World,BgK lo base w1 GB K->Kept (fun _=>False) w w1->Zw 182 #[ZP GB 0,.slice p.ad p.n p.c] w1 fun e w'=>e=.returned (.tuple #[])/\bB lo base GB K T w1 w') :
  Zw 129 #[ZP GB 0,.agg #[ZI a,.slice p.ad p.n p.c]] w fun e w'=>e=.returned (.tuple #[])/\bB lo base GB K T w w':=by
 have hb0:=h.box (bo a p.ad p.n p.c);have A1:=hid (hA _ hb0 (Kept.alloc (fun _=>False) w _));have x2:(w.alloc (bo a p.ad p.n p.c)).cell? (ZA w.heap.size 1)=some (.slice p.ad p.n p.c):=ag (uR w _);have BX:=hid (fun(w2:World) (hx:bB lo base GB K T (w.alloc (bo a p.ad p.n p.c)) w2)=>hx.boxed);clear h hA hb0;go_enter func129,ntmps129;exact yF
theorem Tryz.inlq5:(prog.info? 76).map (fun i=>(i.zero,i.size,i.bytes))=some (some (ZN),1,24):=ak
theorem BgK.ad5{lo base:Nat}(h:BgK lo base w GB K)(p:Tl)(A B:NIz)(P:Nat->Tl)(T:Nat->Nat->Prop)(hp:p.ok 3 75 lo w)(hl:p.n<=4194304)(hf:∀k,p.b=some k->¬BF GB K k)
  (hc:∀i,i<p.n->∃G,p.b=some G/\w.cell? (ZA G (i*3))=some (ZU (A i))/\w.cell? (ZA G (i*3+1))=some (ZI (B i))/\w.cell? (ZA G (i*3+2))=some (.slice (P i).ad (P i).n (P i).c))
  (hel:∀i,i<p.n->∀(K1:KM)(w1:World),BgK lo base w1 GB K1->Kept (BW GB K) w w1->(∀k,BF GB K1 k->BF GB K k\/(p.b=some k\/∃j,j<i/\T j k)\/w.heap.size<=k) ->
   Zw 229 #[ZP GB 0,.agg #[ZU (A i),ZI (B i),.slice (P i).ad (P i).n (P i).c]] w1 fun e w2=>e=.returned (.tuple #[])/\bB lo base GB K1 (T i) w1 w2) :
  Zw 181 #[ZP GB 0,.slice p.ad p.n p.c] w fun e w'=>e=.returned (.tuple #[])/\bB lo base GB K (fun k=>p.b=some k\/∃j,j<p.n/\T j k) w w':=by
 obtain⟨b8,p0,p1,p2,p3⟩:=Z0 Tryz.inlq5;have hown:w.ownsRow 0 76 1 (K 5).1 (K 5).2.length ((K 5).2.map Tl.v):=(h.kd 5 ae).own;obtain⟨V,hV⟩:∃V,(K 5).1=V:=⟨_,rfl⟩;obtain⟨n,hn⟩:∃n,(K 5).2.length=n:=⟨_,rfl⟩;obtain⟨xs,hxs⟩:∃xs,(K 5).2.map Tl.v=xs:=⟨_,rfl⟩;have hcc:w.cell? (ZA GB 9)=some V:=hV ▸ h.c 5 ae;have hff:w.frozen? (ZA GB 9)=false:=h.fz 9;have hne:V.ownBlock≠some GB:=fun e=>h.n 5 ae GB (.inl (hV ▸ e)) rfl;have v8:=h.nl 5 ae;rw[hV,hn,hxs]at hown;rw[hn]at v8;obtain⟨va,vc,rfl,_⟩:=aR hown;have hb3:n+1<=maxLen:=aP;have hb4:(n+1)*24<=140737488355328:=ae;obtain⟨la,oe⟩:∃la,p.ad=la:=⟨_,rfl⟩;obtain⟨N,hN⟩:∃N,p.n=N:=⟨_,rfl⟩;obtain⟨lc,hlc⟩:∃lc,p.c=lc:=⟨_,rfl⟩;rw[oe,hN,hlc];obtain⟨LA,LN,LC,HO,ZD,HC⟩:=ZK oe hN hlc hown hne hcc;obtain⟨HF,HCL,HEL,H,HP,HL⟩:=ZK hff hc hel h hp hl;obtain⟨EV,EN,EX,HBN⟩:=ZF hV hn hxs hf;have NB:=hid (show ∀G,p.b=some G->¬BW GB K G from fun G hG hx=>hf G hG hx.bf);have It:=Kept.alloc (fun _=>False) w (.cells #[.slice la N lc] 76);have GT:=hid It;clear h hp hl hf hc hel hV hn hxs hown hne It oe hN hlc;go_enter func181,ntmps181;refine wp_seq_k fun K9 hK9=>?_
 go_cut [] from 5 to 20 (fun wx=>Hid (bB lo base GB K (fun k=>p.b=some k\/∃j,j<0/\T j k) w wx))
 case first =>
  by_cases hlt:n<300
  ·have hl2':(n:Int)<300:=ae
   go_wp2_with (first
    | (at_builtin; refine bO _ rfl (.tmp 15) (.tmp 17) 50 rfl 76 b8 (ZN) 24 underlying50 p0 p1 p2 p3 rfl _ n _ rfl (bZ HO.out fun B hB=>GT.out.block B (dU HO.out hB).1 (fun x=>x)) (ZA w.heap.size 0) (.slice la N lc) rfl dh rfl hb3 hb4 ?_; intro B cap w2 hrow AS; obtain⟨d1,d2,d3,d4,d5,d6⟩:=ja HO.out ZD.out HC.out HF.out _ hrow AS; have R1:=hid hrow; have D3:=hid d3; have D4:=hid d4; have D5:=hid d5; have D6:=hid d6; clear hrow AS d3 d4 d5 d6))
   go_meet
   exact hid ((H.out.grow2 (q:=5) ae p HP.out HL.out HBN.out EV.out EN.out EX.out hlt yT (World.cell?_setCell_same _ _ _ d1) D4.out
    (fun j hj=>by
     rw[World.cell?_setCell_other _ _ _ _ (fun h=>hj (congrArg Addr.off h).symm)]
     exact D5.out j)
    (by
     have hk:=D6.out
     exact⟨hk.os,hk.tape,hk.output,xw,fun k h1 h2=>(heap_setCell_other _ _ _ _ (fun e=>h2 (.inl e))).trans (hk.block k h1 (fun e=>h2 (.inr e)))⟩)
    (fun j=>by
     rw[World.frozen?_setCell]
     exact aS (D6.out.block GB (ZQ HC.out) (fun e=>ZD.out e)) j)).mono (fun k hk=>.inl hk))
  exact zA
 case rest =>
 generalize wc=w3 at *;exact QB
theorem Tryz.inlq6:(prog.info? 25).map (fun i=>(i.zero,i.size,i.bytes))=some (some (ZN),1,24):=ak
theorem BgK.ad6{lo base:Nat}(h:BgK lo base w GB K)(p:Tl)(A:NIz)(L:Nat->ByteArray)(P:Nat->Tl)(T:Nat->Nat->Prop)(hp:p.ok 3 78 lo w)(hl:p.n<=4194304)(hf:∀k,p.b=some k->¬BF GB K k)
  (hc:∀i,i<p.n->∃G,p.b=some G/\w.cell? (ZA G (i*3))=some (ZI (A i))/\w.cell? (ZA G (i*3+1))=some (.string (L i))/\w.cell? (ZA G (i*3+2))=some (.slice (P i).ad (P i).n (P i).c))
  (hel:∀i,i<p.n->∀(K1:KM)(w1:World),BgK lo base w1 GB K1->Kept (BW GB K) w w1->(∀k,BF GB K1 k->BF GB K k\/(p.b=some k\/∃j,j<i/\T j k)\/w.heap.size<=k) ->
   Zw 128 #[ZP GB 0,.agg #[ZI (A i),.string (L i),.slice (P i).ad (P i).n (P i).c]] w1 fun e w2=>e=.returned (.tuple #[])/\bB lo base GB K1 (T i) w1 w2) :
  Zw 62 #[ZP GB 0,.slice p.ad p.n p.c] w fun e w'=>e=.returned (.tuple #[])/\bB lo base GB K (fun k=>p.b=some k\/∃j,j<p.n/\T j k) w w':=by
 obtain⟨b8,p0,p1,p2,p3⟩:=Z0 Tryz.inlq6;have hown:w.ownsRow 0 25 1 (K 6).1 (K 6).2.length ((K 6).2.map Tl.v):=(h.kd 6 ae).own;obtain⟨V,hV⟩:∃V,(K 6).1=V:=⟨_,rfl⟩;obtain⟨n,hn⟩:∃n,(K 6).2.length=n:=⟨_,rfl⟩;obtain⟨xs,hxs⟩:∃xs,(K 6).2.map Tl.v=xs:=⟨_,rfl⟩;have hcc:w.cell? (ZA GB 10)=some V:=hV ▸ h.c 6 ae;have hff:w.frozen? (ZA GB 10)=false:=h.fz 10;have hne:V.ownBlock≠some GB:=fun e=>h.n 6 ae GB (.inl (hV ▸ e)) rfl;have v8:=h.nl 6 ae;rw[hV,hn,hxs]at hown;rw[hn]at v8;obtain⟨va,vc,rfl,_⟩:=aR hown;have hb3:n+1<=maxLen:=aP;have hb4:(n+1)*24<=140737488355328:=ae;obtain⟨la,oe⟩:∃la,p.ad=la:=⟨_,rfl⟩;obtain⟨N,hN⟩:∃N,p.n=N:=⟨_,rfl⟩;obtain⟨lc,hlc⟩:∃lc,p.c=lc:=⟨_,rfl⟩;rw[oe,hN,hlc];obtain⟨LA,LN,LC,HO,ZD,HC⟩:=ZK oe hN hlc hown hne hcc;obtain⟨HF,HCL,HEL,H,HP,HL⟩:=ZK hff hc hel h hp hl;obtain⟨EV,EN,EX,HBN⟩:=ZF hV hn hxs hf;have NB:=hid (show ∀G,p.b=some G->¬BW GB K G from fun G hG hx=>hf G hG hx.bf);have It:=Kept.alloc (fun _=>False) w (.cells #[.slice la N lc] 25);have GT:=hid It;clear h hp hl hf hc hel hV hn hxs hown hne It oe hN hlc;go_enter func62,ntmps62;refine wp_seq_k fun K9 hK9=>?_
 go_cut [] from 5 to 20 (fun wx=>Hid (bB lo base GB K (fun k=>p.b=some k\/∃j,j<0/\T j k) w wx))
 case first =>
  by_cases hlt:n<300
  ·have hl2':(n:Int)<300:=ae
   go_wp2_with (first
    | (at_builtin; refine bO _ rfl (.tmp 15) (.tmp 17) 51 rfl 25 b8 (ZN) 24 underlying51 p0 p1 p2 p3 rfl _ n _ rfl (bZ HO.out fun B hB=>GT.out.block B (dU HO.out hB).1 (fun x=>x)) (ZA w.heap.size 0) (.slice la N lc) rfl dh rfl hb3 hb4 ?_; intro B cap w2 hrow AS; obtain⟨d1,d2,d3,d4,d5,d6⟩:=ja HO.out ZD.out HC.out HF.out _ hrow AS; have R1:=hid hrow; have D3:=hid d3; have D4:=hid d4; have D5:=hid d5; have D6:=hid d6; clear hrow AS d3 d4 d5 d6))
   go_meet
   exact hid ((H.out.grow2 (q:=6) ae p HP.out HL.out HBN.out EV.out EN.out EX.out hlt yT (World.cell?_setCell_same _ _ _ d1) D4.out
    (fun j hj=>by
     rw[World.cell?_setCell_other _ _ _ _ (fun h=>hj (congrArg Addr.off h).symm)]
     exact D5.out j)
    (by
     have hk:=D6.out
     exact⟨hk.os,hk.tape,hk.output,xw,fun k h1 h2=>(heap_setCell_other _ _ _ _ (fun e=>h2 (.inl e))).trans (hk.block k h1 (fun e=>h2 (.inr e)))⟩)
    (fun j=>by
     rw[World.frozen?_setCell]
     exact aS (D6.out.block GB (ZQ HC.out) (fun e=>ZD.out e)) j)).mono (fun k hk=>.inl hk))
  exact zA
 case rest =>
 generalize wc=w3 at *;exact QB
end
end Go.Proofs.YtheefojaplnnoaaGreatDoor

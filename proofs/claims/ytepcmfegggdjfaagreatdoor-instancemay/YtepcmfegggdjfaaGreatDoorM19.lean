/-
  Texts Rf Rg Rc Rh Ri Rj.
-/
import Derived.Test.YtepcmfegggdjfaaGreatDoorM00
import Derived.Test.YtepcmfegggdjfaaGreatDoorM01
import Derived.Test.YtepcmfegggdjfaaGreatDoorM09
import Derived.Test.YtepcmfegggdjfaaGreatDoorM14
import Derived.Test.YtepcmfegggdjfaaGreatDoorM18
set_option linter.unusedVariables false
set_option maxRecDepth 100000
set_option maxHeartbeats 16000000
namespace Go.Proofs.YtepcmfegggdjfaaGreatDoor
open Go.Proofs.Tryz
open Go.RowKit
theorem MJ{sg:List Sg}{ah:List FuM}{x:FuM}{t:Nat}{P Q:BAz}(ht:x.1=t)(hp:sg[t]? =some (P,Q))(hP:P.size<=8) :
  dY sg ah x=orE (ltE x.2.1 (64-P.size)) (if 2048<x.2.2.2.length then 20 else if 16384<cJ ah+x.2.2.2.length then 20 else bB (fun _ y=>dH y) [] x.2.2.2):=by
 unfold dY gH;have hl:=az hp;rw[if_neg (by rw[ht]; omega),ht,pQ hp];unfold ltE orE
 by_cases h1:64<x.2.1.size+P.size
 ·simp[h1,show 64-P.size<x.2.1.size by omega]
 rw[if_neg h1,if_neg (show ¬64-P.size<x.2.1.size by omega),eW x.2.1 (64-P.size) 64 ae ae]
 by_cases h2:cC x.2.1 64=false
 ·rw[if_pos h2,if_pos h2]; rfl
 rw[if_neg h2,if_neg h2];simp only[ne_eq,not_true_eq_false,if_false]
 by_cases h3:2048<x.2.2.2.length
 ·rw[if_pos h3,if_pos ae]
 rw[if_neg h3]
 by_cases h4:16384<cJ ah+x.2.2.2.length
 ·rw[if_pos h4,if_pos ae]
 rw[if_neg h4,if_neg ae]
theorem JL{sg:List Sg}{ah:List FuM}{x:FuM}(h:x.1<0\/(sg.length:Int)<=x.1):dY sg ah x=30:=by
 unfold dY gH;rw[if_pos h]
theorem yM(m:MM)(w:World)(pt:iX w m.ta m.tn m.types)(hT:∀(j:Nat)x,m.types[j]? =some x->x.1.size<=8)(htn:m.tn<=281474976710656)(pf:od w m.fa m.fn m.fns)(hfn:m.fn<=281474976710656)
  (fr:∀(j:Nat)x,m.fns[j]? =some x->(-9223372036854775808<=x.1/\x.1<9223372036854775808)/\AtIn w x.2.2.1.1 x.2.2.1.2.1 x.2.2.2/\x.2.1.size<=281474976710656/\x.2.2.1.2.1<=281474976710656/\∀(i:Nat)y,x.2.2.2[i]? =some y->0<=y.1/\y.1<=255/\gU w y.2.2.1.1 y.2.2.1.2.1 y.2.2.1.2.2 y.2.2.2) :
  Calls prog 69 #[.agg (mV m)] w fun e w'=>e=.returned (.int .i64 (e6 m))/\Below w.heap.size w w':=by
 have HPT:=hid (fun(W:World) (hb:Below w.heap.size w W)=>pt.kept (aP hb) (fun _ _ _ _=>id));have HPF:=hid (fun(W:World) (hb:Below w.heap.size w W)=>pf.kept (aP hb) (fun _ _ _ _=>id));have HFR:=hid (fun(W:World)(hb:Below w.heap.size w W) (j:Nat) x (hj:m.fns[j]? =some x)=>(⟨(fr j x hj).1,(fr j x hj).2.1.kept (aP hb) (fun _ _ _ _=>id),(fr j x hj).2.2.1,(fr j x hj).2.2.2.1,fun i y hi=>⟨((fr j x hj).2.2.2.2 i y hi).1,((fr j x hj).2.2.2.2 i y hi).2.1,((fr j x hj).2.2.2.2 i y hi).2.2.later hb lRn⟩⟩:(-9223372036854775808<=x.1/\x.1<9223372036854775808)/\AtIn W x.2.2.1.1 x.2.2.1.2.1 x.2.2.2/\x.2.1.size<=281474976710656/\x.2.2.1.2.1<=281474976710656/\∀(i:Nat)y,x.2.2.2[i]? =some y->0<=y.1/\y.1<=255/\gU W y.2.2.1.1 y.2.2.1.2.1 y.2.2.1.2.2 y.2.2.2));have HT8:=hid hT;have tl:=pt.1;have fl:=pf.1;clear pt pf fr hT;have B0:=aj w (.cells (mV m) 29);have b0:=hZn w (.cells (mV m) 29);have HW:w.alloc (bF m.ta m.tn m.tc m.ha m.hn m.hc m.ga m.gn m.gc m.fi m.mo m.fa m.fn m.fc m.da m.dn m.dc m.ea m.en m.ec)=w.alloc (.cells (mV m) 29):=rfl;generalize w.alloc (.cells (mV m) 29)=W0 at *;have HB0:=hid B0;have HX:=hid (fun(W:World) (hb:Below W0.heap.size W0 W)=>(⟨ag hb (ai b0),ag hb (ai b0)⟩:W.cell? ⟨w.heap.size,0,none⟩=some (.slice m.ta m.tn m.tc)/\W.cell? ⟨w.heap.size,5,none⟩=some (.slice m.fa m.fn m.fc)));obtain⟨m0,m5⟩:=HX.out W0 (Below.refl _ _);clear B0 b0;show Calls prog 69 #[.agg #[.slice m.ta m.tn m.tc,.slice m.ha m.hn m.hc,.slice m.ga m.gn m.gc,.int .i64 m.fi,.int .i64 m.mo,.slice m.fa m.fn m.fc,.slice m.da m.dn m.dc,.slice m.ea m.en m.ec]] w _
 by_cases ht:128<m.fn
 ·have HV:=hid (show e6 m=20 by unfold e6 bK; rw[if_pos ae])
  have ht':(128:Int)<(m.fn:Int):=ae;go_enter func69,ntmps69;exact rE
 have ht':¬(128:Int)<(m.fn:Int):=ae;have HE6:=hid (show e6 m=bB (dY m.types) [] m.fns by unfold e6 bK; rw[if_neg ae]);go_enter func69,ntmps69
 go_wp2_with fail;clear m0 m5 HW
 go_loopw [3,4] (fun al i wr=>∃t:Nat,t<=m.fn/\al=.int .i64 (cJ (m.fns.take t):Nat)/\i=.int .i64 t/\cJ (m.fns.take t)<=16384/\Hid (bB (dY m.types) [] (m.fns.take t)=0)/\Hid (Below W0.heap.size W0 wr)) (fun _ i _=>m.fn-(intOf i).toNat)
 case atStart=>exact⟨0,Nat.zero_le _,rfl,rfl,by simp[cJ],hid rfl,hid (Below.refl _ _)⟩
 case round =>
  obtain⟨t,htf,rfl,rfl,hal,HF,HB⟩:=hrel;obtain⟨m0,m5⟩:=HX.out wr HB.out
  by_cases hlt:t<m.fn
  ·have hlt':(t:Int)<(m.fn:Int):=ae;obtain⟨x,hx⟩:∃x,m.fns[t]? =some x:=⟨_,aY ae⟩;obtain⟨fb,fof,hfa,hat⟩:=(HPF.out wr (HB0.out.trans (HB.out.mono HB0.out.size))).2.resolve_left ae;obtain⟨g0,g1,g2⟩:=hat t x hx;obtain⟨⟨r0,r1⟩,-,r2,r3,-⟩:=HFR.out wr (HB0.out.trans (HB.out.mono HB0.out.size)) t x hx
   have HFX:=hid (fun(W:World) (hb:Below w.heap.size w W)=>HFR.out W hb t x hx);have HH:=hid (fun hne=>eY (dY m.types) m.fns t x hx HF.out hne);have HT:=hid (fun hz=>fh (dY m.types) m.fns t x hx HF.out hz);have hcs:=nN hx;have HCS:=hid hcs;clear hat;rw[hfa]at m5
   try rw[hfa]
   have FQ:=hid (fun(sg:List Sg)(ah:List FuM)(t:Nat) (P Q:BAz)=>@MJ sg ah x t P Q);have FX:=hid (fun(sg:List Sg) (ah:List FuM)=>@JL sg ah x);obtain⟨ty,lo,⟨ca,cn,cc⟩,ins⟩:=x;dsimp only at *;have BN:=aj wr (bk ty lo ca cn cc);have bn:=hZn wr (bk ty lo ca cn cc);have HB1:=hid (HB.out.trans (BN.mono HB.out.size));have HY:=hid (fun(W:World) (hb:Below (wr.alloc (bk ty lo ca cn cc)).heap.size (wr.alloc (bk ty lo ca cn cc)) W)=>(⟨ag hb (ai bn),ag hb (ai bn),ag hb (ai bn)⟩:W.cell? ⟨wr.heap.size,0,none⟩=some (.int .i64 ty)/\W.cell? ⟨wr.heap.size,1,none⟩=some (.string lo)/\W.cell? ⟨wr.heap.size,2,none⟩=some (.slice ca cn cc)));obtain⟨y0,y1,y2⟩:=HY.out _ (Below.refl _ _);have m0:=ag BN m0;clear BN bn HF hcs hx
   by_cases hb:ty<0\/(m.tn:Int)<=ty
   ·have HV:=hid (show e6 m=30 by
     have hc:=FX.out m.types (m.fns.take t) (by rw[tl]; exact hb)
     rw[HE6.out,HH.out iz,hc])
    by_cases h0:ty<0
    ·have d0:decide (ty<0)=true:=gX;exact qT
    have d0:decide (ty<0)=false:=gX;have d1:decide ((m.tn:Int)<=ty)=true:=aK;exact qT
   have d0:decide (ty<0)=false:=aK;have d1:decide ((m.tn:Int)<=ty)=false:=aK;obtain⟨q,hq⟩:∃q:Nat,ty=q:=⟨ty.toNat,ae⟩;subst hq;clear r0 r1;have hqn:(q:Int)<(m.tn:Int):=ae;obtain⟨P,hP⟩:∃P,m.types[q]? =some P:=⟨_,aY ae⟩;obtain⟨tb,tof,hta,hatT⟩:=(HPT.out _ (HB0.out.trans (HB1.out.mono HB0.out.size))).2.resolve_left ae;obtain⟨p0,-⟩:=hatT q P hP;have h8:=HT8.out q P hP;have HC:=hid (FQ.out m.types (m.fns.take t) q P.1 P.2 rfl hP h8);rw[hta]at m0
   try rw[hta]
   clear hatT hP FQ FX hb;obtain⟨P,Q⟩:=P;dsimp only at *;have HSUB:=hid (show(64:Int)-(P.size:Int)=((64-P.size:Nat):Int) by omega)
   have HL:=hid (fun(W:World)=>by
    have hL:=mK lo (64-P.size) W r2 ae;rw[<- HSUB.out]at hL;exact hL)
   have HBD:=hid (fun(n:Nat)=>(show Below W0.heap.size W0 ((wr.alloc (bk (q:Int) lo ca cn cc)).drewN n) from bw HB1.out (Kept.drewN (fun _=>False) _ n) HB1.out.size (fun _ x=>x.elim)));have HYD:=hid (fun(n:Nat)=>HY.out ((wr.alloc (bk (q:Int) lo ca cn cc)).drewN n) (bw (Below.refl _ _) (Kept.drewN (fun _=>False) _ n) lRn (fun _ x=>x.elim)))
   by_cases z0:ltE lo (64-P.size)=0
   rotate_left
   ·have HV:=hid (show e6 m=ltE lo (64-P.size) by
     have hc:=HC.out.trans (dE z0)
     rw[HE6.out,HH.out (by rw[hc]; exact z0),hc])
    generalize ltE lo (64-P.size)=E at *;have hE:(E != 0)=true:=wU;exact CP
   rw[z0]at HL;have hlen:ins.length=cn:=(HFX.out _ (HB0.out.trans (HB1.out.mono HB0.out.size))).2.1.1;have HC2:=hid (HC.out.trans (aX z0));rw[hlen]at HC2 HCS;clear HC z0
   by_cases z1:2048<cn
   ·have HV:=hid (show e6 m=20 by
     have hc:=HC2.out;rw[if_pos z1]at hc
     rw[HE6.out,HH.out iz,hc])
    have z1':(2048:Int)<(cn:Int):=ae;exact CP
   have z1':¬(2048:Int)<(cn:Int):=ae
   by_cases z2:16384<cJ (m.fns.take t)+cn
   ·have HV:=hid (show e6 m=20 by
     have hc:=HC2.out;rw[if_neg z1,if_pos z2]at hc
     rw[HE6.out,HH.out iz,hc])
    generalize cJ (m.fns.take t)=al at *;have z2':(16384:Int)<(al:Int)+(cn:Int):=ae;exact CP
   have HC3:=hid (show dY m.types (m.fns.take t) (q,lo,(ca,cn,cc),ins)=bB (fun _ y=>dH y) [] ins by
    have hc:=HC2.out;rw[if_neg z1,if_neg z2]at hc;exact hc)
   clear HC2;generalize hal9:cJ (m.fns.take t)=al at *;have HAL:=hid hal9;clear hal9;have z2':¬(16384:Int)<(al:Int)+(cn:Int):=ae;go_wp2_with fail
   go_quiet ((go_at_call 88; exact Calls.quiet_of_same (HL.out _)))
   go_wp2_with fail;have HBE:=hid (HBD.out nq)
   have HBF:=hid (show Below (wr.alloc (bk (q:Int) lo ca cn cc)).heap.size (wr.alloc (bk (q:Int) lo ca cn cc)) ((wr.alloc (bk (q:Int) lo ca cn cc)).drewN nq) from bw (Below.refl _ _) (Kept.drewN (fun _=>False) _ nq) lRn (fun _ x=>x.elim));clear y0 y1 y2 p0 g0 g1 g2 m0 m5 HL HBD HYD;generalize (wr.alloc (bk (q:Int) lo ca cn cc)).drewN nq=WL at *
   go_loopw [6,7] (fun _ k wq=>∃j:Nat,j<=cn/\k=.int .i64 j/\Hid (bB (fun _ y=>dH y) [] (ins.take j)=0)/\Hid (Below W0.heap.size W0 wq)/\Hid (Below (wr.alloc (bk (q:Int) lo ca cn cc)).heap.size (wr.alloc (bk (q:Int) lo ca cn cc)) wq)) (fun _ k _=>cn-(intOf k).toNat)
   case atStart=>exact⟨0,Nat.zero_le _,rfl,hid rfl,HBE,HBF⟩
   case round =>
    obtain⟨j,hj,rfl,HFI,HBJ,HBK⟩:=hrel;clear HBE HBF;obtain⟨y0,y1,y2⟩:=HY.out _ HBK.out
    by_cases hjn:j<cn
    ·have hjn':(j:Int)<(cn:Int):=ae;obtain⟨y,hy⟩:∃y,ins[j]? =some y:=⟨_,aY ae⟩;obtain⟨-,hin,-,-,hiy⟩:=HFX.out _ (HB0.out.trans (HBJ.out.mono HB0.out.size));obtain⟨cb,cof,rfl,hatI⟩:=hin.2.resolve_left ae;obtain⟨g0,g1,g2⟩:=hatI j y hy;obtain⟨v0,v1,v2⟩:=hiy j y hy;have HCK:=hid (zF y.1 y.2.1 _ _ _ y.2.2.2 _ v0 v1 v2);unfold ja at HCK
     have HH2:=hid (fun hne=>eY (fun _ y=>dH y) ins j y hy HFI.out hne);have HT2:=hid (fun hz=>fh (fun _ y=>dH y) ins j y hy HFI.out hz);have hk0:(0:Int)<=(j:Int):=ae;have HE:=hid (show dH y=chk (tkV y.1) (lgV y.1) y.2.1 y.2.2.2 from rfl);clear hin hiy hatI v0 v1 v2 hy;generalize chk (tkV y.1) (lgV y.1) y.2.1 y.2.2.2=E at *
     by_cases z3:E=0
     ·subst z3;have HN:=hid (HT2.out HE.out);go_wp2_with fail;refine HCK.out.mono ?_;rintro e w9⟨rfl,hb9⟩;have HB9:=hid (HBJ.out.trans (hb9.mono HBJ.out.size));have HB8:=hid (HBK.out.trans (hb9.mono HBK.out.size));clear hb9;go_wp2_with fail;exact⟨⟨j+1,ae,bH,HN,HB9,HB8⟩,bI⟩
     have HV:=hid (show e6 m=E by
      have h2:=HH2.out (by rw[HE.out]; exact z3)
      rw[HE6.out,HH.out (by rw[HC3.out,h2,HE.out]; exact z3),HC3.out,h2,HE.out])
     have hE:(E != 0)=true:=by simpa using z3
     go_wp2_with fail;refine HCK.out.mono ?_;rintro e w9⟨rfl,hb9⟩;have HB9:=hid (HBJ.out.trans (hb9.mono HBJ.out.size));clear hb9;go_wp2_with fail;go_ret;exact⟨cP,HB0.out.trans (HB9.out.mono HB0.out.size)⟩
    obtain rfl:j=cn:=ae;have HN:=hid (HT.out (by rw[HC3.out]; have:=HFI.out; rwa [i4 hlen]at this));go_wp2_with fail;refine⟨⟨t+1,ae,by rw[HCS.out]; go_num,bH,by rw[HCS.out]; omega,HN,HBJ⟩,bI⟩
  obtain rfl:t=m.fn:=ae;have HV:=hid (show e6 m=0 by rw[HE6.out]; have:=HF.out; rwa [i4 fl]at this);exact iN
variable {t:Nat}{y:DaM}
theorem Kv{l:List DaM}(h:l[t]? =some y)(v:Int):fJ (l.take (t+1)) v=decide (v<=y.1+(y.2.2.length:Int)):=by
 unfold fJ;rw[List.take_add_one,h];simp
variable {y:Ex}
theorem Sz{l:List Ex}(h:l[t]? =some y)(s:BAz):gT (l.take (t+1)) s=!(sGt s y.1):=by
 unfold gT;rw[List.take_add_one,h];simp
def ahd(l:List Ex):ByteArray:=match l.getLast? with | none=>⟨#[]⟩ | some y=>y.1
variable {x:Ex}
theorem NZ(nf:Int)(l:List Ex)(hx:l[t]? =some x):dO nf (l.take t) x=orE (nmE x.1 (ahd (l.take t)) (decide (t=0))) (bD nf x.2):=by
 unfold dO nmE orE
 by_cases h1:32<x.1.size
 ·simp[h1]
 rw[if_neg h1,if_neg h1]
 by_cases h2:jX x.1=false
 ·simp[h2]
 rw[if_neg h2,if_neg h2]
 cases t with
 | zero=>simp[gT]
 | succ t =>
  have hl:=az hx;obtain⟨y,hy⟩:∃y,l[t]? =some y:=⟨_,aY ae⟩
  have ha:ahd (l.take (t+1))=y.1:=by unfold ahd; rw[List.take_add_one,hy]; simp
  rw[Sz hy,ha]
  cases hg:sGt x.1 y.1 <;> simp
theorem vH(m:MM)(w:World)(pd:pS w m.da m.dn m.data)(dr:∀(j:Nat)x,m.data[j]? =some x->(-9223372036854775808<=x.1/\x.1<9223372036854775808)/\x.2.1.2.1=x.2.2.length/\x.2.1.2.1<=281474976710656)(hdn:m.dn<=281474976710656)(i0:0<=m.fi)(i1:m.fi<=64)
  (pe:qJ w m.ea m.en m.exps) (er:∀(j:Nat)x,m.exps[j]? =some x->(-9223372036854775808<=x.2/\x.2<9223372036854775808)/\x.1.size<=281474976710656) (hen:m.en<=281474976710656) (hfn:m.fn<=281474976710656) :
  Calls prog 70 #[.agg (mV m)] w fun e w'=>e=.returned (.int .i64 (orE (e7 m) (e8 m)))/\Below w.heap.size w w':=by
 have HPD:=hid (fun(W:World) (hb:Below w.heap.size w W)=>pd.kept (aP hb) (fun _ _ _ _=>id));have HPE:=hid (fun(W:World) (hb:Below w.heap.size w W)=>pe.kept (aP hb) (fun _ _ _ _=>id));have HDR:=hid dr;have HER:=hid er;have dl:=pd.1;have el:=pe.1;clear pd pe dr er;have B0:=aj w (.cells (mV m) 29);have b0:=hZn w (.cells (mV m) 29);have HW:w.alloc (bF m.ta m.tn m.tc m.ha m.hn m.hc m.ga m.gn m.gc m.fi m.mo m.fa m.fn m.fc m.da m.dn m.dc m.ea m.en m.ec)=w.alloc (.cells (mV m) 29):=rfl;generalize w.alloc (.cells (mV m) 29)=W0 at *;have HB0:=hid B0;have HX:=hid (fun(W:World) (hb:Below W0.heap.size W0 W)=>(⟨ag hb (ai b0),ag hb (ai b0),ag hb (ai b0),ag hb (ai b0)⟩:W.cell? ⟨w.heap.size,3,none⟩=some (.int .i64 m.fi)/\W.cell? ⟨w.heap.size,5,none⟩=some (.slice m.fa m.fn m.fc)/\W.cell? ⟨w.heap.size,6,none⟩=some (.slice m.da m.dn m.dc)/\W.cell? ⟨w.heap.size,7,none⟩=some (.slice m.ea m.en m.ec)));obtain⟨m3,m5,m6,m7⟩:=HX.out W0 (Below.refl _ _);clear B0 b0;show Calls prog 70 #[.agg #[.slice m.ta m.tn m.tc,.slice m.ha m.hn m.hc,.slice m.ga m.gn m.gc,.int .i64 m.fi,.int .i64 m.mo,.slice m.fa m.fn m.fc,.slice m.da m.dn m.dc,.slice m.ea m.en m.ec]] w _
 by_cases ht:64<m.dn
 ·have HV:=hid (show orE (e7 m) (e8 m)=20 by
   have:e7 m=20:=by unfold e7 bK; rw[if_pos ae]
   rw[this]; rfl)
  have ht':(64:Int)<(m.dn:Int):=ae;go_enter func70,ntmps70;exact rE
 have ht':¬(64:Int)<(m.dn:Int):=ae;have HE7:=hid (show e7 m=bB (fun(ah:List DaM) x=>cD (m.fi*4096) ah x) [] m.data by unfold e7 bK; rw[if_neg ae]);go_enter func70,ntmps70
 go_wp2_with fail;clear m3 m5 m6 m7 HW
 go_loopw [3] (fun i wr=>∃t:Nat,t<=m.dn/\i=.int .i64 t/\Hid (bB (fun(ah:List DaM) x=>cD (m.fi*4096) ah x) [] (m.data.take t)=0)/\Hid (Below W0.heap.size W0 wr)) (fun i _=>m.dn-(intOf i).toNat)
 case atStart=>exact⟨0,Nat.zero_le _,rfl,hid rfl,hid (Below.refl _ _)⟩
 case round =>
  obtain⟨t,htd,rfl,HF,HB⟩:=hrel;obtain⟨m3,m5,m6,m7⟩:=HX.out wr HB.out
  by_cases hlt:t<m.dn
  ·have hlt':(t:Int)<(m.dn:Int):=ae;obtain⟨x,hx⟩:∃x,m.data[t]? =some x:=⟨_,aY ae⟩;obtain⟨db,dof,hda,hat⟩:=(HPD.out wr (HB0.out.trans (HB.out.mono HB0.out.size))).2.resolve_left ae;obtain⟨g0,g1⟩:=hat t x hx;obtain⟨⟨r0,r1⟩,r2,r3⟩:=HDR.out t x hx
   have HH:=hid (fun hne=>eY (fun(ah:List DaM) x=>cD (m.fi*4096) ah x) m.data t x hx HF.out hne);have HT:=hid (fun hz=>fh (fun(ah:List DaM) x=>cD (m.fi*4096) ah x) m.data t x hx HF.out hz);have HAT:=hid hat;rw[hda]at m6
   try rw[hda]
   obtain⟨pl,⟨ba,bn,bc⟩,bl⟩:=x;dsimp only at *;subst r2;have BN:=aj wr (cG pl ba bl.length bc);have bnn:=hZn wr (cG pl ba bl.length bc);have HB1:=hid (HB.out.trans (BN.mono HB.out.size));have y0:=iz0 bnn;have y1:=iz1 bnn;have m3':=ag BN m3;have m6':=ag BN m6;have HBN:=hid BN;have HBD:=hid (fun(n:Nat)=>(show Below W0.heap.size W0 ((wr.alloc (cG pl ba bl.length bc)).drewN n) from bw HB1.out (Kept.drewN (fun _=>False) _ n) HB1.out.size (fun _ x=>x.elim)));have hwm:(m.fi*4096:Int)<=262144:=ae;have hww:wrap64 (m.fi*4096)=m.fi*4096:=eP;have hwm0:(0:Int)<=m.fi*4096:=ae;clear hat hx BN bnn
   by_cases hb:pl<0\/m.fi*4096<pl
   ·have HV:=hid (show orE (e7 m) (e8 m)=17 by
     have hc:cD (m.fi*4096) (m.data.take t) (pl,(ba,bl.length,bc),bl)=17:=by unfold cD; rw[if_pos hb]
     rw[HE7.out,HH.out iz,hc]; rfl)
    by_cases h0:pl<0
    ·have d0:decide (pl<0)=true:=gX;exact qT
    have d0:decide (pl<0)=false:=gX;have d1:decide (m.fi*4096<pl)=true:=aK;exact qT
   have d0:decide (pl<0)=false:=aK;have d1:decide (m.fi*4096<pl)=false:=aK;have hp0:(0:Int)<=pl:=ae;have hp1:pl<=262144:=ae;clear r0 r1;have hsb:wrap64 (m.fi*4096-pl)=m.fi*4096-pl:=eP
   have HC:=hid (show ∀b,fJ (m.data.take t) pl=b->cD (m.fi*4096) (m.data.take t) (pl,(ba,bl.length,bc),bl)=if b=true then 18 else if m.fi*4096-pl<(bl.length:Int) then 13 else if bl.length=0 then 17 else 0 by
    intro b h1;unfold cD;rw[if_neg hb];dsimp only
    rw[h1])
   have HV18:=hid (show fJ (m.data.take t) pl=true->orE (e7 m) (e8 m)=18 by
    intro h1;have hc:=HC.out _ h1;rw[if_pos rfl]at hc
    rw[HE7.out,HH.out iz,hc]; rfl)
   have HV13:=hid (show fJ (m.data.take t) pl=false->m.fi*4096-pl<(bl.length:Int)->orE (e7 m) (e8 m)=13 by
    intro h1 h2;have hc:=HC.out _ h1;rw[if_neg aA,if_pos h2]at hc
    rw[HE7.out,HH.out iz,hc]; rfl)
   have HV17:=hid (show fJ (m.data.take t) pl=false->¬m.fi*4096-pl<(bl.length:Int)->bl.length=0->orE (e7 m) (e8 m)=17 by
    intro h1 h2 h3;have hc:=HC.out _ h1;rw[if_neg aA,if_neg h2,if_pos h3]at hc
    rw[HE7.out,HH.out iz,hc]; rfl)
   have HVN:=hid (show fJ (m.data.take t) pl=false->¬m.fi*4096-pl<(bl.length:Int)->¬bl.length=0->bB (fun(ah:List DaM) x=>cD (m.fi*4096) ah x) [] (m.data.take (t+1))=0 by
    intro h1 h2 h3;have hc:=HC.out _ h1;rw[if_neg aA,if_neg h2,if_neg h3]at hc;exact HT.out hc)
   have HYB:=hid (fun(s:Nat)(y:DaM)(hs:t=s+1) (hy:m.data[s]? =some y)=>(show 0<=y.1/\y.1<=m.fi*4096/\(y.2.2.length:Int)<=m.fi*4096-y.1 by
    have h1:=bC (fun(ah:List DaM) x=>cD (m.fi*4096) ah x) (m.data.take t) [] HF.out s y (by rw[List.getElem?_take,if_pos ae]; exact hy);unfold cD at h1
    split at h1
    ·cases h1
    split at h1
    ·cases h1
    split at h1
    ·cases h1
    omega))
   clear HC HH HT hb HF
   by_cases ht0:t=0
   ·subst ht0;have hz:fJ (m.data.take 0) pl=false:=rfl
    simp only[Nat.zero_mul,Nat.add_zero]at g0 g1;have HV13:=hid (HV13.out hz);have HV17:=hid (HV17.out hz);have HVN:=hid (HVN.out hz);clear HV18 hz HAT
    by_cases h13:m.fi*4096-pl<(bl.length:Int)
    ·exact NS
    have d3:decide (m.fi*4096-pl<(bl.length:Int))=false:=by simpa using h13
    by_cases h17:bl.length=0
    ·exact Ka
    have HN:=hid (HVN.out h13 h17)
    have d4:((bl.length:Int)==0)=false:=by simpa using h17
    go_wp2_with fail
    go_quiet (fail)
    go_wp2_with fail
    exact⟨⟨0+1,ae,by first | rfl | go_num,HN,hid (HBD.out _)⟩,bI⟩
   obtain⟨s,rfl⟩:∃s,t=s+1:=⟨t-1,ae⟩;clear ht0;obtain⟨y,hy⟩:∃y,m.data[s]? =some y:=⟨_,aY ae⟩;obtain⟨v0,v1⟩:=HAT.out s y hy;have v0:=ag HBN.out v0;have v1:=ag HBN.out v1;obtain⟨⟨q0,q1⟩,q2,q3⟩:=HDR.out s y hy;have hta:=Kv hy pl;have HYS:=hid hy;obtain⟨yp,⟨ya,yn,yc⟩,yl⟩:=y;dsimp only at *;subst q2;clear hy HAT;obtain⟨b0,b1,b2⟩:=HYB.out s _ rfl HYS.out;dsimp only at b0 b1 b2;have hsum:wrap64 (yp+(yl.length:Int))=yp+(yl.length:Int):=eP;have hs2:(0:Int)<(s:Int)+1:=ae;have hsn:(s:Int)<(m.dn:Int):=ae
   by_cases h18:pl<=yp+(yl.length:Int)
   ·have HV:=hid (HV18.out (by rw[hta]; simpa using h18))
    have d2:decide (pl<=yp+(yl.length:Int))=true:=by simpa using h18
    clear HYB HYS hta;exact qL
   have d2:decide (pl<=yp+(yl.length:Int))=false:=by simpa using h18
   have hz:fJ (m.data.take (s+1)) pl=false:=by rw[hta]; simpa using h18
   have HV13:=hid (HV13.out hz);have HV17:=hid (HV17.out hz);have HVN:=hid (HVN.out hz);clear HV18 hz HYB HYS hta
   by_cases h13:m.fi*4096-pl<(bl.length:Int)
   ·exact NS
   have d3:decide (m.fi*4096-pl<(bl.length:Int))=false:=by simpa using h13
   by_cases h17:bl.length=0
   ·exact Ka
   have HN:=hid (HVN.out h13 h17)
   have d4:((bl.length:Int)==0)=false:=by simpa using h17
   go_wp2_with fail
   go_quiet (fail)
   go_wp2_with fail;exact⟨⟨s+1+1,ae,bH,HN,hid (HBD.out _)⟩,bI⟩
  obtain rfl:t=m.dn:=ae
  have hE0:e7 m=0:=by rw[HE7.out]; have:=HF.out; rwa [i4 dl]at this
  by_cases hh:64<m.en
  ·have HV:=hid (show orE (e7 m) (e8 m)=20 by
    have:e8 m=20:=by unfold e8 bK; rw[if_pos ae]
    rw[aX hE0,this])
   have hh':(64:Int)<(m.en:Int):=ae;exact GW
  have hh':¬(64:Int)<(m.en:Int):=ae;have HE8:=hid (show orE (e7 m) (e8 m)=bB (fun(ah:List Ex) x=>dO m.fn ah x) [] m.exps by rw[aX hE0]; unfold e8 bK; rw[if_neg ae]);clear hE0 HE7 HF;go_wp2_with fail;clear m3 m5 m6 m7
  go_loopw [5,6,7] (fun ah i _ wr=>∃t:Nat,t<=m.en/\ah=.string (ahd (m.exps.take t))/\i=.int .i64 t/\Hid (bB (fun(ah:List Ex) x=>dO m.fn ah x) [] (m.exps.take t)=0)/\Hid (Below W0.heap.size W0 wr)) (fun _ i _ _=>m.en-(intOf i).toNat)
  case atStart=>exact⟨0,Nat.zero_le _,rfl,rfl,hid rfl,HB⟩
  case round =>
   obtain⟨t,hte,rfl,rfl,HF,HB⟩:=hrel;obtain⟨m3,m5,m6,m7⟩:=HX.out _ HB.out
   by_cases hlt:t<m.en
   ·have hlt':(t:Int)<(m.en:Int):=ae;obtain⟨x,hx⟩:∃x,m.exps[t]? =some x:=⟨_,aY ae⟩;obtain⟨eb,eof,hea,hat⟩:=(HPE.out _ (HB0.out.trans (HB.out.mono HB0.out.size))).2.resolve_left ae;obtain⟨g0,g1⟩:=hat t x hx;obtain⟨⟨r0,r1⟩,r2⟩:=HER.out t x hx
    have HH:=hid (fun hne=>eY (fun(ah:List Ex) x=>dO m.fn ah x) m.exps t x hx HF.out hne);have HT:=hid (fun hz=>fh (fun(ah:List Ex) x=>dO m.fn ah x) m.exps t x hx HF.out hz);have HC:=hid (NZ m.fn m.exps hx);have HNX:=hid (show ahd (m.exps.take (t+1))=x.1 by unfold ahd; rw[List.take_add_one,hx]; simp);have HBD:=hid (fun(n:Nat)=>(show Below W0.heap.size W0 (wr.drewN n) from bw HB.out (Kept.drewN (fun _=>False) _ n) HB.out.size (fun _ x=>x.elim)));have HNM:=hid (fun(W:World)=>IH x.1 (ahd (m.exps.take t)) (decide (t=0)) W r2)
    have hdt:((t:Int)==0)=decide (t=0):=by
     by_cases h:t=0
     ·simp[h]
     simp[h]
    rw[hea]at m7
    try rw[hea]
    have hk0:(0:Int)<=(t:Int):=ae;clear hat hx HF;obtain⟨xs,xf⟩:=x;dsimp only at *;generalize ahd (m.exps.take t)=ah at *;generalize hd0:decide (t=0)=d0 at *;clear hd0
    by_cases z0:nmE xs ah d0=0
    rotate_left
    ·have HV:=hid (show orE (e7 m) (e8 m)=nmE xs ah d0 by
      have hc:=HC.out.trans (dE z0)
      rw[HE8.out,HH.out (by rw[hc]; exact z0),hc])
     generalize nmE xs ah d0=E at *;have hE:(E != 0)=true:=wU;go_wp2_with fail;refine(HNM.out _).mono ?_;exact rI
    rw[z0]at HNM;have HC2:=hid (HC.out.trans (aX z0));clear HC z0
    by_cases hb:xf<0\/(m.fn:Int)<=xf
    ·have HV:=hid (show orE (e7 m) (e8 m)=30 by
      have hc:=HC2.out;unfold bD at hc;rw[if_pos hb]at hc
      rw[HE8.out,HH.out iz,hc])
     by_cases h0:xf<0
     ·have dd:decide (xf<0)=true:=gX;exact MR
     have dd:decide (xf<0)=false:=gX;have d1:decide ((m.fn:Int)<=xf)=true:=aK;exact MR
    have HN:=hid (HT.out (by rw[HC2.out]; unfold bD; rw[if_neg hb]));have dd:decide (xf<0)=false:=aK;have d1:decide ((m.fn:Int)<=xf)=false:=aK;go_wp2_with fail;refine(HNM.out _).mono ?_;rintro e w1⟨rfl,hw⟩;have hw2:=hw.symm;subst hw2;go_wp2_with fail
    go_quiet (fail)
    go_wp2_with fail;exact⟨⟨t+1,ae,by rw[HNX.out],bH,HN,hid (HBD.out _)⟩,bI⟩
   obtain rfl:t=m.en:=ae;have HV:=hid (show orE (e7 m) (e8 m)=0 by rw[HE8.out]; have:=HF.out; rwa [i4 el]at this);exact iN
theorem tM(v:Int)(w:World)(h0:0<=v)(h1:v<18446744073709551616) :
  Calls prog 93 #[.int .u64 v] w fun e w'=>∃a c,e=.returned (.slice a (ay v).length c)/\Seg w' a (ay v).length c (ay v)/\(a=none->c=0)/\Below w.heap.size w w' :=
 (yf v w h0 h1).mono fun e w' ⟨y,he,ho,hb⟩=>by
  obtain⟨a,c,rfl,hs,hn⟩:=jZ ho (by have:=aF v; omega) (gp v h0 h1);exact⟨a,c,he,hs,hn,hb⟩
theorem Ke(v:Int)(w:World)(h0:-9223372036854775808<=v)(h1:v<9223372036854775808) :
  Calls prog 73 #[.int .i64 v] w fun e w'=>∃a c,e=.returned (.slice a (ay (fo v)).length c)/\Seg w' a (ay (fo v)).length c (ay (fo v))/\(a=none->c=0)/\Below w.heap.size w w' :=
 (Pj v w h0 h1).mono fun e w' ⟨y,he,ho,hb⟩=>by
  have hr:=kI v h0 h1;obtain⟨a,c,rfl,hs,hn⟩:=jZ ho (by have:=aF (fo v); omega) (gp (fo v) hr.1 hr.2);exact⟨a,c,he,hs,hn,hb⟩
theorem IL(c a:Int)(la:OAz)(ln lc:Nat)(l:LIz)(w:World)(h0:0<=c)(h1:c<=255)(hl:gU w la ln lc l)(hx:chk (tkV c) (lgV c) a l=0) :
  Calls prog 75 #[ja c a (.slice la ln lc)] w fun e w'=>∃v,e=.returned (.tuple #[v,.int .i64 0])/\w'.ownsRow w.heap.size 5 1 v (j5 c a l).length ((j5 c a l).map (Value.int .u8))/\Below w.heap.size w w':=by
 have hb0:Below w.heap.size w (w.alloc (aV c a la ln lc)):=(Below.refl _ _).alloc lRn _;have hchk:=zF c a la ln lc l _ h0 h1 (hl.later hb0 lRn);rw[hx]at hchk;have HC:=hid hchk;obtain⟨k1,k2,k3,k4,k5⟩:=pP hx;have lr:=lq (tkV c) (lgV c);have hr:=kU (tkV c) (lgV c);have HTk:=hid (fun W=>gI c W h0 h1);unfold j5 Ac;generalize lgV c=g at *;generalize tkV c=t at *;clear hx hchk;have HL:=hid hl;have hln:=hl.2.2.1;have hlen:=hl.1;clear hl;unfold ja at *;obtain⟨E,hE⟩:∃E,c::(if t=0 then [] else if t=8 then ay (fo a) else if t=3 then ay l.length++dV l else ay a)=E:=⟨_,rfl⟩;rw[hE];have HE:=hid hE;clear hE;go_enter func75,ntmps75
 go_wp2_with fail;refine HC.out.mono ?_;rintro e w1⟨rfl,hb1⟩;have x0:w1.cell? ⟨w.heap.size,0,none⟩=some (.int .u8 c):=bu;have x1:w1.cell? ⟨w.heap.size,1,none⟩=some (.int .i64 a):=bu;have x2:w1.cell? ⟨w.heap.size,2,none⟩=some (.slice la ln lc):=bu;have hx:=block_lt_of_cell x0
 simp only at hx;have B1:=hid (hb0.trans (hb1.mono aw));clear hb1 HC hb0;have b2:Below w1.heap.size w1 (w1.alloc (ei c)):=(Below.refl _ _).alloc lRn _;have O2:=hid (Ej w1 c w1.heap.size lRn);go_wp2_with fail;refine(HTk.out _).mono ?_;rintro e w3⟨rfl,hb3⟩;have b3:=cr b2 hb3;have u1:w3.cell? ⟨w.heap.size,1,none⟩=some (.int .i64 a):=(b3.cell (by exact hx)).trans x1;have u2:w3.cell? ⟨w.heap.size,2,none⟩=some (.slice la ln lc):=(b3.cell (by exact hx)).trans x2;have O3:=hid (bL O2.out hb3);have B3:=hid b3
 have hw13:w1.heap.size<w3.heap.size:=by have:=hb3.size; simp at this; omega
 clear hb3 b2 b3 x0 x1 x2 HTk O2
 by_cases t0:t=0
 ·subst t0;go_wp2_with fail;go_ret2;refine⟨_,rfl,?_,cr B1.out B3.out⟩;have hE0:E=[c]:=vR;rw[hE0];exact fR O3.out B1.out.size
 have e0:(t==0)=false:=by simp[t0]
 by_cases t8:t=8
 ·subst t8
  have SV:=hid (fun W=>Ke a W ae ae);have hul:=aF (fo a);have HE2:=hid (show E=[c]++ay (fo a) by rw[<- HE.out]; simp);clear HE HL;generalize ay (fo a)=U at *;go_wp2_with fail;refine(SV.out _).mono ?_;rintro e w4⟨ua,uc,rfl,hs4,hn4,hb4⟩;have S4:=hid hs4;have N4:=hid hn4;have B4:=hid (cr B3.out hb4);have O4:=hid (bL O3.out hb4);clear hs4 hb4 SV hn4
  go_wp2_with (at_builtin; (refine jd _ rfl (.tmp 28) (.tmp 31) rfl w1.heap.size _ 1 [c] rfl O4.out _ _ _ U rfl S4.out N4.out ae B4.out.size ?_; intro v5 w5 hown5 hb5; have O5:=hid hown5; have B5:=hid (B4.out.trans hb5); clear hown5 hb5))
  exact NT
 have e8:(t==8)=false:=by simp[t8]
 have hh:=hr.2.2 t8
 by_cases t3:t=3
 ·subst t3;obtain⟨q1,q2,q3⟩:=k4 rfl
  have UV:=hid (fun W=>tM (ln:Int) W ae ae);have hul:=aF (ln:Int);have HE2:=hid (show E=([c]++ay (ln:Int))++dV l by rw[<- HE.out]; simp[hlen]);have hw:=cT (ln:Int) ae ae;clear HE;generalize ay (ln:Int)=U at *;go_wp2_with fail;refine(UV.out _).mono ?_;rintro e w4⟨ua,uc,rfl,hs4,hn4,hb4⟩;have S4:=hid hs4;have N4:=hid hn4;have B4:=hid (cr B3.out hb4);have O4:=hid (bL O3.out hb4);have v2:w4.cell? ⟨w.heap.size,2,none⟩=some (.slice la ln lc):=(hb4.cell (by exact(show w.heap.size<w3.heap.size by omega))).trans u2;clear hs4 hb4 UV hn4
  go_wp2_with (at_builtin; (refine jd _ rfl (.tmp 35) (.tmp 40) rfl w1.heap.size _ 1 [c] rfl O4.out _ _ _ U rfl S4.out N4.out ae B4.out.size ?_; intro v5 w5 hown5 hb5; have O5:=hid hown5; have B5:=hid (B4.out.trans hb5); have V2:=hid ((hb5.cell (p:=⟨w.heap.size,2,none⟩) hx).trans v2); clear hown5 hb5))
  have HQ:=hid q3
  have O5':=hid (show w5.ownsRow w1.heap.size 5 1 v5 (([c]++U)++dV (l.take 0)).length ((([c]++U)++dV (l.take 0)).map (Value.int .u8)) by
   have h:=O5.out;rw[show 1+U.length=(([c]++U)++dV (l.take 0)).length by simp[dV]; omega]at h
   simpa[dV] using h)
  have hU:([c]++U).length<=11:=aK;generalize [c]++U=C at *;clear O5 O4 S4 u1 u2 v2
  go_loopw [5,6] (fun v i wr=>∃k:Nat,k<=ln/\i=.int .i64 k/\wr.ownsRow w1.heap.size 5 1 v (C++dV (l.take k)).length ((C++dV (l.take k)).map (Value.int .u8))/\Below w1.heap.size w1 wr/\wr.cell? ⟨w.heap.size,2,none⟩=some (.slice la ln lc)) (fun _ i _=>ln-(intOf i).toNat)
  case atStart=>exact⟨0,Nat.zero_le _,rfl,O5'.out,B5.out,V2.out⟩
  case round =>
   obtain⟨k,hk,rfl,hown,hb,hv2⟩:=hrel;have OW:=hid hown;have BR:=hid hb;clear hown hb O5' B5 V2
   by_cases hlt:k<ln
   ·have hgood:=(xM l).1 HQ.out
    rcases HL.out.2.2.2.2 with hz | ⟨b,off,rfl,hc⟩
    ·omega
    have hcell:wr.cell? ⟨b,off+k,none⟩=some (.int .i64 (l.getD k 0)):=((cr B1.out BR.out).cell (p:=⟨b,off+k,none⟩) (block_lt_of_cell (hc k hlt))).trans (hc k hlt)
    have hz:0<=l.getD k 0/\l.getD k 0<=2147483647:=by
     exact MH
    have HT:=hid (un l k ae);have hlab:=oq (l.take k);have hlt2:(l.take k).length<=16:=aK;have hlen2:(C++dV (l.take k)).length<=171:=fL;generalize l.getD k 0=z at *;have UV:=hid (fun W=>tM z W ae ae);have hul2:=aF z;have hw2:=cT z ae ae;clear hc hgood hlab;generalize ay z=Z at *;go_wp2_with fail;refine(UV.out _).mono ?_;rintro e w6⟨ua6,uc6,rfl,hs6,hn6,hb6⟩;have S6:=hid hs6;have N6:=hid hn6;have B6:=hid (cr BR.out hb6);have O6:=hid (bL OW.out hb6);have hwr:w.heap.size<wr.heap.size:=block_lt_of_cell hv2;have V6:=hid ((hb6.cell (p:=⟨w.heap.size,2,none⟩) hwr).trans hv2);clear hs6 hb6 UV hn6
    go_wp2_with (at_builtin; (refine jd _ rfl (.tmp 49) (.tmp 56) rfl w1.heap.size _ _ (C++dV (l.take k)) rfl O6.out _ _ _ Z rfl S6.out N6.out ae B6.out.size ?_; intro v7 w7 hown7 hb7; have O7:=hid hown7; have B7:=hid (B6.out.trans hb7); have V7:=hid ((hb7.cell (p:=⟨w.heap.size,2,none⟩) hx).trans V6.out); clear hown7 hb7))
    refine⟨⟨k+1,ae,bH,?_,B7.out,V7.out⟩,bI⟩;exact Ew
   go_wp2_with fail;go_ret2;refine⟨_,rfl,?_,cr B1.out BR.out⟩;have h:=fR OW.out B1.out.size;rw[List.take_of_length_le ae]at h;rw[HE2.out];exact h
 have e3:(t==3)=false:=by simp[t3]
 have UV:=hid (fun W=>tM a W ae ae);have hul:=aF a;have HE2:=hid (show E=[c]++ay a by rw[<- HE.out,if_neg t0,if_neg t8,if_neg t3]; rfl);have ha0:0<=a:=ae;have ha1:a<=4294967295:=ae;clear HE HL;generalize ay a=U at *;go_wp2_with fail;refine(UV.out _).mono ?_;rintro e w4⟨ua,uc,rfl,hs4,hn4,hb4⟩;have S4:=hid hs4;have N4:=hid hn4;have B4:=hid (cr B3.out hb4);have O4:=hid (bL O3.out hb4);clear hs4 hb4 UV hn4
 go_wp2_with (at_builtin; (refine jd _ rfl (.tmp 18) (.tmp 22) rfl w1.heap.size _ 1 [c] rfl O4.out _ _ _ U rfl S4.out N4.out ae B4.out.size ?_; intro v5 w5 hown5 hb5; have O5:=hid hown5; have B5:=hid (B4.out.trans hb5); clear hown5 hb5))
 exact NT
theorem below_setCells{B b:Nat}{w:World}(hB:B<=b):∀(vs:List Value)(o:Nat)(w1:World),Below B w w1->Below B w (w1.setCells b o vs)
 | [],_,_,h=>h
 | v::r,o,w1,h=>below_setCells hB r (o+1) _ (h.setCell (by simpa using hB) v)
theorem nH(s:BAz):byteCells s=(aC s).map (Value.int .u8):=by
 unfold byteCells aC;rw[List.map_map];rfl
theorem Qq(w:World)(base g n cap:Nat)(l:LIz)(s:BAz)(hown:w.ownsRow base 5 1 (.slice (some ⟨g,0,none⟩) n cap) n (l.map (Value.int .u8)))(hbase:base<=w.heap.size)
  (hr:∀z∈l,0<=z/\z<=255) (hn:n<=1000) (hs:s.size<=2000000) :
  ∃a c W,(∀ty,(Builtin.append_ #[49,9] ty #[.slice (some ⟨g,0,none⟩) n cap,.string s]).run prog w=.ok (.slice a (n+s.size) c) W)/\Seg W a (n+s.size) c (l++aC s)/\Below base w W:=by
 obtain⟨i0,hi,hz0,hz1,hz2⟩:=info_parts Tryz.info5
 have hll:l.length=n:=by have:=hown.1; simpa using this
 have hsrc:=Src.ofString (P:=prog) w (tx:=9) underlying9 s
 have hsrc':Src prog i0.size 9 (.string s) s.size (byteCells s) w:=by rw[hz1]; exact hsrc
 have hbl:=byteCells_length s
 have hlen:(l++aC s).length=n+s.size:=by rw[List.length_append,dz,hll]
 have hrr:∀z∈l++aC s,0<=z/\z<=255:=by
  intro z hz
  rcases List.mem_append.1 hz with hz | hz
  ·exact hr z hz
  exact lw s z hz
 obtain⟨hbg,cur,hh,hnc,hcm,hcs⟩:base<=g/\∃cur,w.heap[g]? =some (.cells cur 5)/\n<=cap/\cap<=maxLen/\cur.size=cap:=by
  rcases hown.2 with ⟨h,_⟩ | ⟨g',cp,cur,h1,h2,h3,h4,h5,h6,_⟩
  ·cases h
  simp at h1;obtain⟨rfl,rfl⟩:=h1;exact⟨h2,cur,h3,h4,h5,pz⟩
 by_cases hroom:n+s.size<=cap
 ·have hsome:∀j,j<(byteCells s).length->(w.cell? ⟨g,n+j,none⟩).isSome=true:=by
   intro j hj;rw[cell_of_row w g (n+j) cur 5 (0,0) hh,Array.getElem?_eq_getElem ae]; rfl
  have hrun:=fun ty=>run_append_room_src w 49 9 ty 5 i0 underlying49 hi g 0 n cap (.string s) s.size (byteCells s) hsrc' hroom
   (by intro j hj; rw[hz1,Nat.zero_add,Nat.mul_one]; exact hsome j hj)
   (by intro j hj; rw[hz1,Nat.zero_add,Nat.mul_one]; exact World.ownsRow.frozenAt hown (n+j))
  simp only[hz1,Nat.zero_add,Nat.mul_one]at hrun;refine⟨_,_,_,hrun,⟨hlen,hroom,ae,hrr,.inr ⟨g,0,rfl,fun j hj=>?_⟩⟩,below_setCells hbg _ _ _ (Below.refl _ _)⟩;rw[Nat.zero_add]
  by_cases hjn:j<n
  ·rw[World.cell?_setCells_out g (byteCells s) n w ⟨g,j,none⟩ (fun _ _=>.inl hjn),World.ownsRow.cellAt hown j ae]
   have h1:j<l.length:=ae;simp[List.getElem?_append_left h1,h1]
  have h1:=World.cell?_setCells_in g (byteCells s) n w hsome (j-n) ae;rw[show n+(j-n)=j by omega]at h1;rw[h1]
  have h2:j-n<(aC s).length:=by rw[dz]; omega
  have h3:(byteCells s)[j-n]'(ae)=.int .u8 ((aC s)[j-n]'h2):=by
   simp only[nH,List.getElem_map]
  have h4:(l++aC s).getD j 0=(aC s)[j-n]'h2:=by
   rw[List.getD_eq_getElem?_getD,List.getElem?_append_right ae,hll,aY h2,Option.getD_some]
  rw[h3,h4]
 have hold:(Builtin.firstCells i0.size n (.slice (some ⟨g,0,none⟩) n cap)).run prog w.drew=.ok (l.map (Value.int .u8)).toArray w.drew:=by
  refine run_firstCells_some w.drew i0.size n ⟨g,0,none⟩ n cap _ (by rw[hz1]; simpa using hll) ?_;intro j v hj;have hplain:(⟨g,0,none⟩:Addr).add j=⟨g,j,none⟩:=eJ
  have hj':j<(l.map (Value.int .u8)).length:=by
   rcases Nat.lt_or_ge j (l.map (Value.int .u8)).length with h | h
   ·exact h
   rw[List.getElem?_eq_none h]at hj; cases hj
  have:w.cell? ⟨g,j,none⟩=some v:=(World.ownsRow.cellAt hown j (by simp at hj'; omega)).trans hj;rw[hplain];exact this
 have hfit:Builtin.nextslicecap (n+s.size) cap*i0.bytes<=281474976710656:=by
  have:=nextslicecap_le (need:=n+s.size) (old:=cap) ae;rw[hz2]; omega
 have hrun:=fun ty=>run_append_grow_src w 49 9 ty 5 i0 (.int .u8 0) underlying49 hi hz0 (some ⟨g,0,none⟩) n cap _ hold (.string s) s.size (byteCells s) hsrc' ae ae hfit;refine⟨_,_,_,hrun,⟨hlen,grownCap_ge _ _ _ _,ae,hrr,.inr ⟨w.heap.size,0,rfl,fun j hj=>?_⟩⟩,((Below.refl _ _).drew).alloc (by simpa using hbase) _⟩;rw[Nat.zero_add];refine(World.cell?_alloc_mark w.drew _ _ _ j).trans ?_;have h1:j<(l++aC s).length:=ae
 have h2:(l.map (Value.int .u8)++byteCells s)=(l++aC s).map (Value.int .u8):=by rw[nH,List.map_append]
 rw[h2,Array.getElem?_append_left il];simp only[List.getElem?_toArray,List.getElem?_map,aY h1,Option.map_some,List.getD_eq_getElem?_getD,Option.getD_some]
variable {P:Program}{ops:Array Oper}{o:Oper}{a:Act}{Q:Exit->Act->World->Prop}
theorem wpList_append_run(w:World){rest:List Oper}(hg:o.guard=none)
  (s x:Operand) (t tx:TypeId) (hop:o.op=Op.call { callee:=Callee.builtin Builtin.append,args:=#[s,x],argTypes:=#[t,tx] }) (vs vx v':Value) (w':World) (hs:a.eval s=vs) (hx:a.eval x=vx)
  (hrun:∀ty,(Builtin.append_ #[t,tx] ty #[vs,vx]).run P w=.ok v' w') (hK:wpList P ops Q rest (a.put o.dst v') w'):wpList P ops Q (o::rest) a w:=by
 refine wpList_plain hg fun K hK'=>?_;unfold Oper.wp;simp[execOp,hop,resolve,invoke,builtin,hs,hx,hrun,Result.andThen];exact hK' _ _ hK
theorem KF(s:BAz)(w:World)(hs:s.size<=2000000) :
  Calls prog 72 #[.string s] w fun e w'=>∃a c,e=.returned (.slice a ((ay s.size).length+s.size) c)/\Seg w' a ((ay s.size).length+s.size) c (ay s.size++aC s)/\Below w.heap.size w w':=by
 have HB:=hid (yf s.size w ae ae);have hl:=aF s.size;have hr:=gp s.size ae ae;generalize ay s.size=l at *;go_enter func72,ntmps72
 go_wp2_with fail;refine HB.out.mono ?_;rintro e w1⟨y,rfl,hs1,hb1⟩
 obtain⟨g,cap,rfl⟩:∃g cap,y=.slice (some ⟨g,0,none⟩) l.length cap:=by
  rcases hs1.2 with ⟨_,h⟩ | ⟨g,cap,cur,h,_⟩
  ·omega
  exact⟨g,cap,h⟩
 obtain⟨a,c,W,hrun,hsg,hbl⟩:=Qq w1 w.heap.size g l.length cap l s hs1 hb1.size hr ae hs;have HB1:=hid hb1;have HSG:=hid hsg;have HBL:=hid hbl;have HR:=hid hrun;clear hs1 hb1 hr HB hsg hbl hrun
 go_wp2_with (at_builtin; refine wpList_append_run _ rfl (.tmp 8) (.tmp 9) 49 9 rfl _ _ _ _ rfl rfl HR.out ?_)
 go_ret;exact⟨a,c,rfl,HSG.out,HB1.out.trans HBL.out⟩
abbrev Byt(w:World)(base:Nat)(v:Value)(bs:LIz):Prop:=w.ownsRow base 5 1 v bs.length (bs.map (Value.int .u8))
variable {w:World}{v:Value}{bs:LIz}
theorem Kl{base:Nat}(h:Byt w base v bs):∃a c,v=.slice a bs.length c:=by
 exact Gt
theorem dU(w:World){rest:List Oper}(hgd:o.guard=none)
  (s x:Operand) (ho:o.op=Op.call { callee:=Callee.builtin Builtin.append,args:=#[s,x],argTypes:=#[49,49] }) (base:Nat) (v:Value) (P:LIz)
  (hs:a.eval s=v) (hown:Byt w base v P) (ao:OAz) (c:Nat) (zs:LIz) (hx:a.eval x=.slice ao zs.length c)
  (hseg:Seg w ao zs.length c zs) (hnone:ao=none->c=0) (hb:P.length+zs.length<=1099511627776) (hbase:base<=w.heap.size)
  (h:∀(v':Value)(w':World),Byt w' base v' (P++zs)->Below base w w'->Kept (fun k=>some k=v.ownBlock) w w'->wpList prog ops Q rest (a.put o.dst v') w') :
  wpList prog ops Q (o::rest) a w:=by
 obtain⟨i0,hi,hz0,hz1,hz2⟩:=info_parts Tryz.info5
 cases ao with
 | none =>
  have hc:=hnone rfl;subst hc
  have hm:zs.length=0:=by have:=hseg.2.1; omega
  have hzs:zs=[]:=List.eq_nil_of_length_eq_zero hm;subst hzs;refine wpList_append_own_none hgd s x 49 ho base 5 i0 1 underlying49 hi v P.length _ hs hown hx ?_;refine h v w ?_ (Below.refl _ _) ⟨rfl,rfl,rfl,Nat.le_refl _,fun k _ _=>rfl⟩
  simpa using hown
 | some ad =>
  refine wpList_append_own w hgd s x 49 ho base 5 i0 (.int .u8 0) 1 1 underlying49 hi hz0 hz1 hz2 rfl aA v P.length _ hs hown ad zs.length c (zs.map (Value.int .u8)) hx aw
   (ju hseg ad rfl) (lK _) dA ae hbase ?_
  intro v' w' ho' hg _;refine h v' w' ?_ (own_below hown hg hbase) (Kept.of_grown hg);unfold Byt;rw[List.length_append,List.map_append]; exact ho'
variable {w':World}{P:LIz}{cs:AVz}
theorem jc{base F t:Nat}(hF:w.heap[F]? =some (.cells cs t))(ht:t≠5)(hb:Byt w base v P)(hk:Kept (fun k=>some k=v.ownBlock) w w'):w'.heap[F]? =some (.cells cs t):=by
 have hlt:F<w.heap.size:=by
  rcases Nat.lt_or_ge F w.heap.size with h | h
  ·exact h
  rw[Array.getElem?_eq_none h]at hF; cases hF
 refine(hk.block F hlt (fun e=>?_)).trans hF
 rcases hb.2 with ⟨h0,_⟩ | ⟨g,cp,cur,h1,_,h3,_⟩
 ·rw[h0]at e; cases e
 rw[h1]at e
 have:F=g:=by simpa[Value.ownBlock] using e
 subst this;rw[hF]at h3;simp at h3;exact ht h3.2
theorem fV(base:Nat)(v:Value)(bs:LIz)(n:Int)(w:World)(h:Byt w base v bs)(hb:base<=w.heap.size)(hl:bs.length<=1000000000)(n0:0<=n)(n1:n<9223372036854775808) :
  Calls prog 71 #[v,.int .i64 n] w fun e w'=>∃y,e=.returned y/\Byt w' base y (bs++ay n)/\Below base w w'/\Kept (fun k=>some k=v.ownBlock) w w':=by
 obtain⟨a,c,rfl⟩:=Kl h;have SV:=hid (fun W=>tM n W n0 ae);have hul:=aF n;have hw:=cT n n0 ae;have HO:=hid h;generalize ay n=U at *;clear h;go_enter func71,ntmps71
 go_wp2_with fail;refine(SV.out _).mono ?_;rintro e w4⟨ua,uc,rfl,hs4,hn4,hb4⟩;have S4:=hid hs4;have N4:=hid hn4;have B4:=hid hb4;have O4:=hid (bL HO.out hb4);have hbs:base<=w4.heap.size:=Nat.le_trans hb hb4.size;clear hs4 hb4 SV hn4
 go_wp2_with (at_builtin; (refine dU _ rfl (.tmp 5) (.tmp 8) rfl base _ bs rfl O4.out _ _ U rfl S4.out N4.out ae hbs ?_; intro v5 w5 hown5 hb5 hk5; have O5:=hid hown5; have B5:=hid ((B4.out.mono hb).trans hb5); have K5:=hid (((aP B4.out).mono (fun _ h=>False.elim h)).trans hk5); clear hown5 hb5 hk5))
 go_ret;exact⟨_,rfl,O5.out,B5.out,K5.out⟩
theorem Jh(x:Gl)(w:World)(h0:0<=x.2.2)(h1:x.2.2<18446744073709551616)(hf:x.1=119->x.2.2<4294967296) :
  Calls prog 74 #[.agg #[.int .u8 x.1,.bool x.2.1,.int .u64 x.2.2]] w fun e w'=>e=.returned (.int .i64 (sgn x.1 x.2.2))/\Below w.heap.size w w':=by
 obtain⟨c,mu,v⟩:=x;dsimp only at *;have HB:=hid (aj w (aZ c mu v))
 by_cases hc:c=119
 ·subst hc;have hv:=hf rfl
  by_cases h2:2147483648<=v
  ·have HV:=hid (show v-4294967296=sgn 119 v by unfold sgn; rw[if_pos rfl,if_pos hv,if_neg ae])
   have hw:wrap64 v=v:=eP;have hw2:wrap64 (v-4294967296)=v-4294967296:=eP;exact FZ
  have HV:=hid (show v=sgn 119 v by unfold sgn; rw[if_pos rfl,if_pos hv,if_pos ae]);have hw:wrap64 v=v:=eP;exact FZ
 have hcb:(c==119)=false:=by simpa using hc
 have HV:=hid (show wrap64 v=sgn c v by
  unfold sgn wrap64;rw[if_neg hc]
  split <;> omega)
 go_enter func74,ntmps74
 go_wp2_with fail;go_ret
 exact⟨by rw[<- HV.out]; rfl,HB.out⟩
theorem zu(s:BAz)(w:World)(hs:s.size<=2000000) :
  Calls prog 72 #[.string s] w fun e w'=>∃a c,e=.returned (.slice a (fK s).length c)/\Seg w' a (fK s).length c (fK s)/\(a=none->c=0)/\Below w.heap.size w w':=by
 refine(KF s w hs).mono ?_;rintro e w' ⟨a,c,he,hsg,hb⟩;have hl:(fK s).length=(ay s.size).length+s.size:=yZ s;have hu:=aF s.size;rw[<- hl]at he hsg;refine⟨a,c,he,hsg,fun h=>?_,hb⟩
 rcases hsg.2.2.2.2 with h0 | ⟨b,off,e2,_⟩
 ·omega
 rw[h]at e2; cases e2
theorem sL:∀(l:LIz),okL l->∀z∈dV l,0<=z/\z<=255
 | [],_,z,hz=>by simp[dV]at hz
 | x::l,h,z,hz=>by
  simp only[dV,List.mem_append]at hz
  rcases hz with hz | hz
  ·exact gp x h.1.1 (by have:=h.1.2; omega) z hz
  exact sL l h.2 z hz
variable {x:InM}
theorem IW(h0:0<=x.1)(h1:x.1<=255)(h:dH x=0):∀z∈dG x,0<=z/\z<=255:=by
 intro z hz;obtain⟨k1,k2,k3,k4,k5⟩:=pP h;have lr:=lq (tkV x.1) (lgV x.1);have hr:=kU (tkV x.1) (lgV x.1);unfold dG j5 Ac at hz
 rcases List.mem_cons.1 hz with rfl | hz
 ·exact⟨h0,h1⟩
 by_cases t0:tkV x.1=0
 ·rw[if_pos t0]at hz; cases hz
 rw[if_neg t0]at hz
 by_cases t8:tkV x.1=8
 ·rw[if_pos t8]at hz;have hf:=kI x.2.1 ae ae;exact gp _ hf.1 hf.2 z hz
 rw[if_neg t8]at hz;have hh:=hr.2.2 t8
 by_cases t3:tkV x.1=3
 ·rw[if_pos t3]at hz;obtain⟨q1,q2,q3⟩:=k4 t3
  rcases List.mem_append.1 hz with hz | hz
  ·exact gp _ ae ae z hz
  exact sL _ q3 z hz
 rw[if_neg t3]at hz;exact gp _ ae ae z hz
theorem OZ(x:InM)(w:World)(h0:0<=x.1)(h1:x.1<=255)(hl:gU w x.2.2.1.1 x.2.2.1.2.1 x.2.2.1.2.2 x.2.2.2)(hx:dH x=0) :
  Calls prog 75 #[.agg #[.int .u8 x.1,.int .i64 x.2.1,.slice x.2.2.1.1 x.2.2.1.2.1 x.2.2.1.2.2]] w fun e w'=>∃a c,e=.returned (.tuple #[.slice a (dG x).length c,.int .i64 0])/\Seg w' a (dG x).length c (dG x)/\(a=none->c=0)/\Below w.heap.size w w':=by
 have h:=IL x.1 x.2.1 _ _ _ x.2.2.2 w h0 h1 hl hx;unfold ja at h;refine h.mono ?_;rintro e w' ⟨v,he,ho,hb⟩;have hle:=iQ hx;obtain⟨a,c,rfl,hs,hn⟩:=jZ (zs:=dG x) ho (by show(dG x).length<=_; omega) (IW h0 h1 hx);exact⟨a,c,he,hs,hn,hb⟩
variable {b:Nat}{z:Int}
theorem Bw(h:w.cell? ⟨b,0,none⟩=some (.int .u8 z))(h0:0<=z)(h1:z<=255):Seg w (some ⟨b,0,none⟩) [z].length 1 [z] :=
 ⟨rfl,aw,aw,fun y hy=>by
   obtain rfl:y=z:=by simpa using hy
   exact⟨h0,h1⟩,.inr ⟨b,0,rfl,fun j hj=>by
  have:j=0:=by simp at hj; omega
  subst this; simpa using h⟩⟩
variable {nf:Int}{x:Ex}
theorem yN{ah:List Ex}(h:dO nf ah x=0):(dP x).length<=60:=by
 unfold dO at h
 split at h
 ·cases h
 have a:=dD x.1 32 ae;have b:=aF x.2;simp only[dP,List.length_append]; omega
theorem ME{α β:Type}(g:α->List β)(L:List α){x:α}(h:L[t]? =some x):(L.take (t+1)).flatMap g=(L.take t).flatMap g++g x:=by
 rw[List.take_add_one,h];simp
theorem j6{α:Type}(enc:α->List Int){xs:List α}{x:α}(h:xs[t]? =some x):(xs.take (t+1)).flatMap enc=(xs.take t).flatMap enc++enc x:=ME enc xs h
variable {m:MM}
theorem CJ(h:fw m=0):e1 m=0/\e2 m=0/\e3 m=0/\e4 m=0/\e5 m=0/\e6 m=0/\e7 m=0/\e8 m=0:=by
 unfold fw at h;obtain⟨h1,h⟩:=aI h;obtain⟨h2,h⟩:=aI h;obtain⟨h3,h⟩:=aI h;obtain⟨h4,h⟩:=aI h;obtain⟨h5,h⟩:=aI h;obtain⟨h6,h⟩:=aI h;obtain⟨h7,h⟩:=aI h;exact⟨h1,h2,h3,h4,h5,h6,h7,h⟩
variable {most:Int}
theorem gv{α:Type}{f:List α->α->Int}{xs:List α}(h:bK f most xs=0):∀(j:Nat)x,xs[j]? =some x->f (xs.take j) x=0:=by
 unfold bK at h
 split at h
 ·cases h
 intro j x hj;have:=bC f xs [] h j x hj;exact cF
theorem KV(g:Nat)(bs:LIz)(n:Int)(w:World)(h:Buf w g bs.length bs.length (bs.map (Value.int .u8)))(hl:bs.length<=1000000000)(n0:0<=n)(n1:n<9223372036854775808) :
  Calls prog 71 #[.slice (some ⟨g,0,none⟩) bs.length bs.length,.int .i64 n] w fun e w'=>∃y,e=.returned y/\Byt w' g y (bs++ay n)/\Below g w w':=by
 have SV:=hid (fun W=>tM n W n0 ae);have hul:=aF n;have hw:=cT n n0 ae;have HO:=hid h;have hg:=h.lt;generalize ay n=U at *;obtain⟨i0,hi,hz0,hz1,hz2⟩:=info_parts Tryz.info5;have HI:=hid (And.intro hi (And.intro hz0 (And.intro hz1 hz2)));clear h hi hz0 hz1 hz2;go_enter func71,ntmps71
 go_wp2_with fail;refine(SV.out _).mono ?_;rintro e w4⟨ua,uc,rfl,hs4,hn4,hb4⟩;obtain⟨ub,uo,rfl,hcu⟩:=hs4.2.2.2.2.resolve_left ae;have S4:=hid hs4;have B4:=hid hb4
 have O4:=hid (HO.out.kept (S:=fun _=>False) (aP hb4) (fun h=>h));clear hs4 hb4 SV hn4 hcu
 go_wp2_with (at_builtin; (refine EM _ rfl (.tmp 5) (.tmp 8) 49 rfl i0 (.int .u8 0) underlying49 HI.out.1 HI.out.2.1 HI.out.2.2.1 HI.out.2.2.2 rfl g bs.length bs.length (bs.map (Value.int .u8)) rfl O4.out ⟨ub,uo,none⟩ U.length uc (U.map (Value.int .u8)) rfl aw (ju S4.out _ rfl) (lK _) ae dA ae ?_; intro B cap w5 hr hk hB; have O5:=hid hr; have K5:=hid (And.intro hk hB); clear hr hk hB))
 go_ret;have hsz:=B4.out.size;refine⟨_,rfl,?_,(B4.out.mono (Nat.le_of_lt hg)).trans (K5.out.1.to_below (B:=g) ae (fun k hk e=>by have:k=g:=e; omega))⟩;have h1:=O5.out;rw[<- List.map_append]at h1;unfold Byt;rw[List.length_append];refine⟨h1.1,?_⟩
 rcases h1.2 with ⟨h2,_⟩ | ⟨q,cp,cur,h2,_,h3⟩
 ·cases h2
 refine .inr ⟨q,cp,cur,h2,?_,h3⟩;injection h2 with h2;injection h2 with h2;injection h2 with h2
 rcases K5.out.2 with h4 | h4 <;> omega
variable {F:Nat}{o:Obj}
theorem lX(hb:Below w.heap.size w w')(h:w.heap[F]? =some o):w'.heap[F]? =some o:=by
 have hlt:F<w.heap.size:=by
  rcases Nat.lt_or_ge F w.heap.size with h1 | h1
  ·exact h1
  rw[Array.getElem?_eq_none h1]at h; cases h
 exact(hb.block F hlt).trans h
theorem Qj(m:MM)(w:World)(h0:fw m=0)(hm:MOk w w.heap.size w.heap.size m)(hex:∀(j:Nat)x,m.exps[j]? =some x->x.1.size<=2000000)(hdx:∀(j:Nat)x,m.data[j]? =some x->x.2.2.length<=1000000) :
  Calls prog 52 #[.agg (mV m)] w fun e w'=>∃y,e=.returned y/\Byt w' (w.heap.size+1) y (eA++qG m)/\Below w.heap.size w w':=by
 obtain⟨E1,E2,E3,E4,E5,E6,E7,E8⟩:=CJ h0;have HM:=hid (fun(W:World) (hb:Below w.heap.size w W)=>hm.later hb)
 have R4:0<=m.fi/\m.fi<=64:=by unfold e4 iV at E4; split at E4; cases E4; omega
 have R5:0<=m.mo/\m.mo<=64:=by unfold e5 iV at E5; split at E5; cases E5; omega
 have tl:=hm.pt.1;have hl:=hm.ph.1;have gl:=hm.pg.1;have fl:=hm.pf.1;have dl:=hm.pd.1;have el:=hm.pe.1;have a1:=(dZ (enc:=bN) (M:=36) E1 (fun ah x hx=>ib x (dW hx).1 (dW hx).2.2.1)).1;have a2:=(dZ (enc:=fun x=>ay x) (M:=10) E2 (fun ah x hx=>(aF x).2)).1;have a3:=(dZ (enc:=cR) (M:=12) E3 (fun ah x hx=>jz x)).1;have a6:=(dZ (enc:=cQ) (M:=400000) E6 (fun ah x hx=>iP hx)).1;have a7:=(dZ (enc:=cU) (M:=300000) E7 (fun ah x hx=>iO ae hx)).1;have a8:=(dZ (enc:=dP) (M:=60) E8 (fun ah x hx=>yN hx)).1;have L1:=hid (fun(j:Nat) x (hj:m.types[j]? =some x)=>dW (gv E1 j x hj));have M1:=hid (fun(j:Nat) x (hj:m.types[j]? =some x)=>ib x (L1.out j x hj).1 (L1.out j x hj).2.2.1);have L2:=hid (fun(j:Nat) x (hj:m.hosts[j]? =some x)=>(show 0<=x/\x<9223372036854775808 by have h1:=gv E2 j x hj; unfold bD at h1; split at h1; cases h1; omega));have M2:=hid (fun(j:Nat) x (hj:m.hosts[j]? =some x)=>(aF x).2);have L3:=hid (fun(j:Nat) x (hj:m.globals[j]? =some x)=>(gv E3 j x hj:eu x=0));have M3:=hid (fun(j:Nat) x (hj:m.globals[j]? =some x)=>jz x);have L6:=hid (fun(j:Nat) x (hj:m.fns[j]? =some x)=>gv E6 j x hj);have M6:=hid (fun(j:Nat) x (hj:m.fns[j]? =some x)=>iP (gv E6 j x hj));have L7:=hid (fun(j:Nat) x (hj:m.data[j]? =some x)=>(gv E7 j x hj:cD (m.fi*4096) (m.data.take j) x=0));have M7:=hid (fun(j:Nat) x (hj:m.data[j]? =some x)=>iO ae (L7.out j x hj));have L8:=hid (fun(j:Nat) x (hj:m.exps[j]? =some x)=>(gv E8 j x hj:dO m.fn (m.exps.take j) x=0));have M8:=hid (fun(j:Nat) x (hj:m.exps[j]? =some x)=>yN (L8.out j x hj));have HEX:=hid hex;have HDX:=hid hdx;have B0:=aj w (.cells (mV m) 29);have b0:=hZn w (.cells (mV m) 29);have HW:w.alloc (bF m.ta m.tn m.tc m.ha m.hn m.hc m.ga m.gn m.gc m.fi m.mo m.fa m.fn m.fc m.da m.dn m.dc m.ea m.en m.ec)=w.alloc (.cells (mV m) 29):=rfl;have hW0:(w.alloc (.cells (mV m) 29)).heap.size=w.heap.size+1:=aw;clear E1 E2 E3 E4 E5 E6 E7 E8 h0 hm hex hdx;generalize w.alloc (.cells (mV m) 29)=W0 at *;have HB0:=hid B0;have HX:=hid (fun(W:World) (hb:Below W0.heap.size W0 W)=>(⟨ag hb (ai b0),ag hb (ai b0),ag hb (ai b0),ag hb (ai b0),ag hb (ai b0),ag hb (ai b0),ag hb (ai b0),ag hb (ai b0)⟩:W.cell? ⟨w.heap.size,0,none⟩=some (.slice m.ta m.tn m.tc)/\W.cell? ⟨w.heap.size,1,none⟩=some (.slice m.ha m.hn m.hc)/\W.cell? ⟨w.heap.size,2,none⟩=some (.slice m.ga m.gn m.gc)/\W.cell? ⟨w.heap.size,3,none⟩=some (.int .i64 m.fi)/\W.cell? ⟨w.heap.size,4,none⟩=some (.int .i64 m.mo)/\W.cell? ⟨w.heap.size,5,none⟩=some (.slice m.fa m.fn m.fc)/\W.cell? ⟨w.heap.size,6,none⟩=some (.slice m.da m.dn m.dc)/\W.cell? ⟨w.heap.size,7,none⟩=some (.slice m.ea m.en m.ec)));obtain⟨m0,m1,m2,m3,m4,m5,m6,m7⟩:=HX.out W0 (Below.refl _ _);have HZ:=hid hW0;clear B0 b0 hW0;show Calls prog 52 #[.agg #[.slice m.ta m.tn m.tc,.slice m.ha m.hn m.hc,.slice m.ga m.gn m.gc,.int .i64 m.fi,.int .i64 m.mo,.slice m.fa m.fn m.fc,.slice m.da m.dn m.dc,.slice m.ea m.en m.ec]] w _;have hcv:=Go.Lib.run_convert_bytes_const (P:=prog) W0 49 5 #[.int .u8 70,.int .u8 76,.int .u8 71,.int .u8 78,.int .u8 1] 5 5 underlying49 underlying5;have HB:=hid (aj W0 (.cells #[.int .u8 70,.int .u8 76,.int .u8 71,.int .u8 78,.int .u8 1] 5 (5,6)))
 have HBF:Hid (Buf (W0.alloc (.cells #[.int .u8 70,.int .u8 76,.int .u8 71,.int .u8 78,.int .u8 1] 5 (5,6))) W0.heap.size eA.length eA.length (eA.map (Value.int .u8))):=hid (.inr ⟨rfl,aA,aw,rfl,fun j u hj=>by
  have hbk:(W0.alloc (.cells #[.int .u8 70,.int .u8 76,.int .u8 71,.int .u8 78,.int .u8 1] 5 (5,6))).heap[W0.heap.size]? =some (.cells #[.int .u8 70,.int .u8 76,.int .u8 71,.int .u8 78,.int .u8 1] 5 (5,6)):=hZn W0 _;rw[cell_of_row _ _ j _ 5 (5,6) hbk]
  rw[<- hj,<- Array.getElem?_toList]; rfl⟩)
 obtain⟨m0,m1,m2,m3,m4,m5,m6,m7⟩:=HX.out _ HB.out;have hs0:(#[Value.int .u8 70,.int .u8 76,.int .u8 71,.int .u8 78,.int .u8 1]:AVz).size=5:=rfl;go_enter func52,ntmps52
 go_wp2_with fail;refine(KV W0.heap.size eA (m.tn:Int) _ HBF.out aA ae ae).mono ?_;rintro e w0⟨y0,rfl,hby,hbb⟩
 replace HB:=hid (HB.out.trans hbb);have HBy:=hid hby;clear hby hbb HBF hcv;obtain⟨m0,m1,m2,m3,m4,m5,m6,m7⟩:=HX.out _ HB.out;have hul:=aF (m.tn:Int)
 have hl0:(eA++ay (m.tn:Int)).length<=15:=by rw[List.length_append]; show 5+_<=15; omega
 obtain⟨P0,hPe⟩:∃X,eA++ay (m.tn:Int)=X:=⟨_,rfl⟩;rw[hPe]at HBy hl0;have HQ0:=hid hPe;clear hPe hul;go_wp2_with fail;clear m0 m1 m2 m3 m4 m5 m6 m7
 go_loopw [3,4] (fun b i wr=>∃t:Nat,t<=m.tn/\i=.int .i64 t/\Hid (Byt wr W0.heap.size b (P0++(m.types.take t).flatMap bN))/\Hid (Below W0.heap.size W0 wr)) (fun _ i _=>m.tn-(intOf i).toNat)
 case atStart=>exact⟨0,Nat.zero_le _,rfl,hid mS,HB⟩
 case round =>
  clear HBy HB;obtain⟨t,ht,rfl,HBy,HB⟩:=hrel;obtain⟨m0,m1,m2,m3,m4,m5,m6,m7⟩:=HX.out _ HB.out;have hfl:=cH bN 36 (m.types.take t) (fun j y hj=>M1.out j y pL);have hft:(m.types.take t).length<=64:=ji;have hfb:(P0++(m.types.take t).flatMap bN).length<=2319:=fL;clear hfl hft
  by_cases hlt:t<m.tn
  ·have hlt':(t:Int)<(m.tn:Int):=ae;obtain⟨x,hx⟩:∃x,m.types[t]? =some x:=⟨_,aY ae⟩;have hk0:(0:Int)<=(t:Int):=ae;have HFS:=hid (j6 bN hx);obtain⟨bb,bof,hba,hat⟩:=(HM.out W0 HB0.out).pt.2.resolve_left ae;obtain⟨e0,e1⟩:=hat t x hx
   have HG:=hid (fun(W:World) (hb:Below W0.heap.size W0 W)=>(⟨ag hb e0,ag hb e1⟩:W.cell? ⟨bb,bof+t*2,none⟩=some (.string x.1)/\W.cell? ⟨bb,bof+t*2+1,none⟩=some (.string x.2)));have HXB:=hid (fun(W:World) (hb:Below W0.heap.size W0 W)=>(show W.cell? ⟨w.heap.size,0,none⟩=some (.slice (some ⟨bb,bof,none⟩) m.tn m.tc) by have h1:=HX.out W hb; rw[hba]at h1; exact h1.1));clear hat m0;have m0:=HXB.out _ HB.out;obtain⟨g0,g1⟩:=HG.out _ HB.out
   try rw[hba]
   generalize hR:P0++(m.types.take t).flatMap bN=R at *;have HR:=hid hR;clear hR;obtain⟨q1,-,q2,-,-⟩:=L1.out t x hx;have u1:=(dD x.1 8 q1).2;have u2:=(dD x.2 8 q2).2;clear hx;go_wp2_with fail;refine(zu x.1 _ ae).mono ?_;rintro e wt⟨ua,uc,rfl,hs4,hn4,hb4⟩;have S4:=hid hs4;have N4:=hid hn4;replace HBy:=hid (bL HBy.out hb4);replace HB:=hid (HB.out.trans (hb4.mono HB.out.size));clear hs4 hn4 hb4;have m0:=HXB.out _ HB.out;obtain⟨g0,g1⟩:=HG.out _ HB.out
   go_wp2_with (at_builtin; (refine dU _ rfl (.tmp 29) (.tmp 36) rfl W0.heap.size _ (R) rfl HBy.out _ _ (fK x.1) rfl S4.out N4.out iD HB.out.size ?_; intro v5 w5 hown5 hb5 hk5; skip; replace HBy:=hid hown5; replace HB:=hid (HB.out.trans hb5); clear hown5 hb5 hk5; have m0:=HXB.out _ HB.out; obtain⟨g0,g1⟩:=HG.out _ HB.out))
   refine(zu x.2 _ ae).mono ?_;rintro e wt⟨ua,uc,rfl,hs4,hn4,hb4⟩;have S4:=hid hs4;have N4:=hid hn4;replace HBy:=hid (bL HBy.out hb4);replace HB:=hid (HB.out.trans (hb4.mono HB.out.size));clear hs4 hn4 hb4;have m0:=HXB.out _ HB.out;obtain⟨g0,g1⟩:=HG.out _ HB.out
   go_wp2_with (at_builtin; (refine dU _ rfl (.tmp 38) (.tmp 45) rfl W0.heap.size _ (R++fK x.1) rfl HBy.out _ _ (fK x.2) rfl S4.out N4.out iD HB.out.size ?_; intro v5 w5 hown5 hb5 hk5; skip; replace HBy:=hid hown5; replace HB:=hid (HB.out.trans hb5); clear hown5 hb5 hk5; skip))
   exact⟨⟨t+1,ae,bH,hid (by rw[HFS.out,<- List.append_assoc,HR.out]; unfold bN; rw[<- List.append_assoc]; exact HBy.out),HB⟩,bI⟩
  obtain rfl:t=m.tn:=ae;have hta:m.types.take m.tn=m.types:=List.take_of_length_le ae;rw[hta]at HBy hfb;clear hta;obtain⟨P1,hPe⟩:∃X,P0++m.types.flatMap bN=X:=⟨_,rfl⟩;rw[hPe]at HBy hfb;have HQ1:=hid hPe;clear hPe;have hl1:=hfb;clear hfb;go_wp2_with fail;refine(fV W0.heap.size _ P1 ((m.hn:Int)) _ HBy.out HB.out.size ae ae ae).mono ?_;rintro e wp2⟨yp2,rfl,hby,hbb,hkb⟩;replace HB:=hid (HB.out.trans hbb);replace HBy:=hid hby;obtain⟨m0,m1,m2,m3,m4,m5,m6,m7⟩:=HX.out _ HB.out;clear hby hbb hkb;have hul:=aF ((m.hn:Int));have hPn:(P1++ay ((m.hn:Int))).length<=2329:=fL;obtain⟨P3,hPe⟩:∃X,P1++ay ((m.hn:Int))=X:=⟨_,rfl⟩;rw[hPe]at HBy hPn;have HQ3:=hid hPe;clear hPe;have hl3:=hPn;clear hPn;clear hul;go_wp2_with fail;clear m0 m1 m2 m3 m4 m5 m6 m7
  go_loopw [3,5] (fun b i wr=>∃t:Nat,t<=m.hn/\i=.int .i64 t/\Hid (Byt wr W0.heap.size b (P3++(m.hosts.take t).flatMap (fun x=>ay x)))/\Hid (Below W0.heap.size W0 wr)) (fun _ i _=>m.hn-(intOf i).toNat)
  case atStart=>exact⟨0,Nat.zero_le _,rfl,hid mS,HB⟩
  case round =>
   clear HBy HB;obtain⟨t,ht,rfl,HBy,HB⟩:=hrel;obtain⟨m0,m1,m2,m3,m4,m5,m6,m7⟩:=HX.out _ HB.out;have hfl:=cH (fun x=>ay x) 10 (m.hosts.take t) (fun j y hj=>M2.out j y pL);have hft:(m.hosts.take t).length<=32:=ji;have hfb:(P3++(m.hosts.take t).flatMap (fun x=>ay x)).length<=2649:=fL;clear hfl hft
   by_cases hlt:t<m.hn
   ·have hlt':(t:Int)<(m.hn:Int):=ae;obtain⟨x,hx⟩:∃x,m.hosts[t]? =some x:=⟨_,aY ae⟩;have hk0:(0:Int)<=(t:Int):=ae
    have HFS:=hid (j6 (fun x=>ay x) hx);obtain⟨bb,bof,hba,hat⟩:=(HM.out W0 HB0.out).ph.2.resolve_left ae;have e0:=hat t x hx;have HG:=hid (fun(W:World) (hb:Below W0.heap.size W0 W)=>ag hb e0);have HXB:=hid (fun(W:World) (hb:Below W0.heap.size W0 W)=>(show W.cell? ⟨w.heap.size,1,none⟩=some (.slice (some ⟨bb,bof,none⟩) m.hn m.hc) by have h1:=HX.out W hb; rw[hba]at h1; exact h1.2.1));clear hat m1;have m1:=HXB.out _ HB.out;have g0:=HG.out _ HB.out
    try rw[hba]
    generalize hR:P3++(m.hosts.take t).flatMap (fun x=>ay x)=R at *;have HR:=hid hR;clear hR;obtain⟨q1,q2⟩:=L2.out t x hx;clear hx;go_wp2_with fail;refine(fV W0.heap.size _ R (x) _ HBy.out HB.out.size ae q1 q2).mono ?_;rintro e wp4⟨yp4,rfl,hby,hbb,hkb⟩;replace HB:=hid (HB.out.trans hbb);replace HBy:=hid hby;obtain⟨m0,m1,m2,m3,m4,m5,m6,m7⟩:=HX.out _ HB.out;clear hby hbb hkb;go_wp2_with fail;exact⟨⟨t+1,ae,bH,hid (by rw[HFS.out,<- List.append_assoc,HR.out]; exact HBy.out),HB⟩,bI⟩
   obtain rfl:t=m.hn:=ae;have hta:m.hosts.take m.hn=m.hosts:=List.take_of_length_le ae;rw[hta]at HBy hfb;clear hta;obtain⟨P5,hPe⟩:∃X,P3++m.hosts.flatMap (fun x=>ay x)=X:=⟨_,rfl⟩;rw[hPe]at HBy hfb;have HQ5:=hid hPe;clear hPe;have hl5:=hfb;clear hfb;go_wp2_with fail;refine(fV W0.heap.size _ P5 ((m.gn:Int)) _ HBy.out HB.out.size ae ae ae).mono ?_;rintro e wp6⟨yp6,rfl,hby,hbb,hkb⟩;replace HB:=hid (HB.out.trans hbb);replace HBy:=hid hby;obtain⟨m0,m1,m2,m3,m4,m5,m6,m7⟩:=HX.out _ HB.out;clear hby hbb hkb;have hul:=aF ((m.gn:Int));have hPn:(P5++ay ((m.gn:Int))).length<=2659:=fL;obtain⟨P7,hPe⟩:∃X,P5++ay ((m.gn:Int))=X:=⟨_,rfl⟩;rw[hPe]at HBy hPn;have HQ7:=hid hPe;clear hPe;have hl7:=hPn;clear hPn;clear hul;go_wp2_with fail;clear m0 m1 m2 m3 m4 m5 m6 m7
   go_loopw [3,6] (fun b i wr=>∃t:Nat,t<=m.gn/\i=.int .i64 t/\Hid (Byt wr W0.heap.size b (P7++(m.globals.take t).flatMap cR))/\Hid (Below W0.heap.size W0 wr)) (fun _ i _=>m.gn-(intOf i).toNat)
   case atStart=>exact⟨0,Nat.zero_le _,rfl,hid mS,HB⟩
   case round =>
    clear HBy HB;obtain⟨t,ht,rfl,HBy,HB⟩:=hrel;obtain⟨m0,m1,m2,m3,m4,m5,m6,m7⟩:=HX.out _ HB.out;have hfl:=cH cR 12 (m.globals.take t) (fun j y hj=>M3.out j y pL);have hft:(m.globals.take t).length<=64:=ji;have hfb:(P7++(m.globals.take t).flatMap cR).length<=3427:=fL;clear hfl hft
    by_cases hlt:t<m.gn
    ·have hlt':(t:Int)<(m.gn:Int):=ae;obtain⟨x,hx⟩:∃x,m.globals[t]? =some x:=⟨_,aY ae⟩;have hk0:(0:Int)<=(t:Int):=ae;have HFS:=hid (j6 cR hx);obtain⟨bb,bof,hba,hat⟩:=(HM.out W0 HB0.out).pg.2.resolve_left ae;obtain⟨e0,e1,e2⟩:=hat t x hx
     have HG:=hid (fun(W:World) (hb:Below W0.heap.size W0 W)=>(⟨ag hb e0,ag hb e1,ag hb e2⟩:W.cell? ⟨bb,bof+t*3,none⟩=some (.int .u8 x.1)/\W.cell? ⟨bb,bof+t*3+1,none⟩=some (.bool x.2.1)/\W.cell? ⟨bb,bof+t*3+2,none⟩=some (.int .u64 x.2.2)));have HXB:=hid (fun(W:World) (hb:Below W0.heap.size W0 W)=>(show W.cell? ⟨w.heap.size,2,none⟩=some (.slice (some ⟨bb,bof,none⟩) m.gn m.gc) by have h1:=HX.out W hb; rw[hba]at h1; exact h1.2.2.1));clear hat m2;have m2:=HXB.out _ HB.out;obtain⟨g0,g1,g2⟩:=HG.out _ HB.out
     try rw[hba]
     generalize hR:P7++(m.globals.take t).flatMap cR=R at *;have HR:=hid hR;clear hR;obtain⟨r0,r1,r2,r3⟩:=(HM.out W0 HB0.out).gr t x hx;have hck:=L3.out t x hx
     have hfi:x.1=119->x.2.2<4294967296:=fun h=>by
      have h3:dI x.2.2 x.1=true:=by unfold eu at hck; split at hck; cases hck; split at hck; cases hck; rename_i h3; simpa using h3
      rw[h]at h3; simpa[dI] using h3
     have HSG:=hid (fun(W:World)=>Jh x W r2 r3 hfi)
     have hsr:-9223372036854775808<=sgn x.1 x.2.2/\sgn x.1 x.2.2<9223372036854775808:=by
      unfold sgn
      split
      ·split
       ·split <;> omega
       omega
      split <;> omega
     have HSV:=hid (fun(W:World)=>Ke (sgn x.1 x.2.2) W hsr.1 hsr.2);have hul:=aF (fo (sgn x.1 x.2.2));have HEN:=hid (show cR x=[x.1,if x.2.1 then 1 else 0]++ay (fo (sgn x.1 x.2.2)) from rfl);clear hx hck hfi hsr r2 r3;obtain⟨xc,xm,xv⟩:=x;dsimp only at *;generalize sgn xc xv=sv at *;generalize ay (fo sv)=U at *;have S1:=hid (fun(W:World)(b:Nat) (h:W.cell? ⟨b,0,none⟩=some (.int .u8 xc))=>Bw h r0 r1)
     cases xm with
     | true =>
      have BN:=aj wr (aZ xc true xv);have bf:=hZn wr (aZ xc true xv);have B2:=aj (wr.alloc (aZ xc true xv)) (ei xc);have hz1:(wr.alloc (aZ xc true xv)).heap.size=wr.heap.size+1:=aw;have c1:((wr.alloc (aZ xc true xv)).alloc (ei xc)).cell? ⟨wr.heap.size+1,0,none⟩=some (.int .u8 xc):=Hl;have S4:=hid (S1.out _ _ c1);have N4:=hid (fun(h:some (⟨wr.heap.size+1,0,none⟩:Addr)=none)=>(show(1:Nat)=0 by cases h));replace HBy:=hid (bL (bL HBy.out BN) B2);replace HB:=hid ((HB.out.trans (BN.mono HB.out.size)).trans (B2.mono (HB.out.trans (BN.mono HB.out.size)).size));have BF:=hid (lX B2 bf);clear BN B2 bf c1 hz1
      go_wp2_with (at_builtin; first | (refine dU _ rfl (.tmp 83) (.tmp 86) rfl W0.heap.size _ (R) rfl HBy.out _ _ ([xc]) rfl S4.out N4.out iD HB.out.size ?_; intro v5 w5 hown5 hb5 hk5; replace BF:=hid (jc BF.out aA HBy.out hk5); replace HBy:=hid hown5; replace HB:=hid (HB.out.trans hb5); clear hown5 hb5 hk5; have k0:=iz0 BF.out; have k1:=iz1 BF.out; have k2:=iz2 BF.out) | (have BN:=aj w5 (ei 1); have c1:(w5.alloc (ei 1)).cell? ⟨w5.heap.size,0,none⟩=some (.int .u8 1):=ai (hZn _ _); replace HBy:=hid (bL HBy.out BN); replace HB:=hid (HB.out.trans (BN.mono HB.out.size)); replace BF:=hid (lX BN BF.out); refine dU _ rfl (.tmp 90) (.tmp 91) rfl W0.heap.size _ (R++[xc]) rfl HBy.out _ _ ([1]) rfl (Bw c1 ae ae) (fun h=>cm) iD HB.out.size ?_; intro v6 w6 hown5 hb5 hk5; replace BF:=hid (jc BF.out aA HBy.out hk5); replace HBy:=hid hown5; replace HB:=hid (HB.out.trans hb5); clear hown5 hb5 hk5; have k0:=iz0 BF.out; have k1:=iz1 BF.out; have k2:w6.cell? ⟨wr.heap.size,2,none⟩=some (.int .u64 xv):=ai BF.out))
      refine(HSG.out _).mono ?_;rintro e w8⟨rfl,hb8⟩;replace HBy:=hid (bL HBy.out hb8);replace HB:=hid (HB.out.trans (hb8.mono HB.out.size));clear hb8 k0 k1 k2;go_wp2_with fail;refine(HSV.out _).mono ?_;rintro e w9⟨ua,uc,rfl,hs4,hn4,hb4⟩;have S4:=hid hs4;have N4:=hid hn4;replace HBy:=hid (bL HBy.out hb4);replace HB:=hid (HB.out.trans (hb4.mono HB.out.size));clear hs4 hn4 hb4
      go_wp2_with (at_builtin; (refine dU _ rfl (.tmp 96) (.tmp 99) rfl W0.heap.size _ (R++[xc]++[1]) rfl HBy.out _ _ (U) rfl S4.out N4.out iD HB.out.size ?_; intro v5 w5 hown5 hb5 hk5; replace HBy:=hid hown5; replace HB:=hid (HB.out.trans hb5); clear hown5 hb5 hk5))
      exact NY
     | false =>
      have BN:=aj wr (aZ xc false xv);have bf:=hZn wr (aZ xc false xv);have B2:=aj (wr.alloc (aZ xc false xv)) (ei xc);have hz1:(wr.alloc (aZ xc false xv)).heap.size=wr.heap.size+1:=aw;have c1:((wr.alloc (aZ xc false xv)).alloc (ei xc)).cell? ⟨wr.heap.size+1,0,none⟩=some (.int .u8 xc):=Hl;have S4:=hid (S1.out _ _ c1);have N4:=hid (fun(h:some (⟨wr.heap.size+1,0,none⟩:Addr)=none)=>(show(1:Nat)=0 by cases h));replace HBy:=hid (bL (bL HBy.out BN) B2);replace HB:=hid ((HB.out.trans (BN.mono HB.out.size)).trans (B2.mono (HB.out.trans (BN.mono HB.out.size)).size));have BF:=hid (lX B2 bf);clear BN B2 bf c1 hz1
      go_wp2_with (at_builtin; first | (refine dU _ rfl (.tmp 83) (.tmp 86) rfl W0.heap.size _ (R) rfl HBy.out _ _ ([xc]) rfl S4.out N4.out iD HB.out.size ?_; intro v5 w5 hown5 hb5 hk5; replace BF:=hid (jc BF.out aA HBy.out hk5); replace HBy:=hid hown5; replace HB:=hid (HB.out.trans hb5); clear hown5 hb5 hk5; have k0:=iz0 BF.out; have k1:=iz1 BF.out; have k2:=iz2 BF.out) | (have BN:=aj w5 (ei 0); have c1:(w5.alloc (ei 0)).cell? ⟨w5.heap.size,0,none⟩=some (.int .u8 0):=ai (hZn _ _); replace HBy:=hid (bL HBy.out BN); replace HB:=hid (HB.out.trans (BN.mono HB.out.size)); replace BF:=hid (lX BN BF.out); refine dU _ rfl (.tmp 93) (.tmp 94) rfl W0.heap.size _ (R++[xc]) rfl HBy.out _ _ ([0]) rfl (Bw c1 ae ae) (fun h=>cm) iD HB.out.size ?_; intro v6 w6 hown5 hb5 hk5; replace BF:=hid (jc BF.out aA HBy.out hk5); replace HBy:=hid hown5; replace HB:=hid (HB.out.trans hb5); clear hown5 hb5 hk5; have k0:=iz0 BF.out; have k1:=iz1 BF.out; have k2:w6.cell? ⟨wr.heap.size,2,none⟩=some (.int .u64 xv):=ai BF.out))
      refine(HSG.out _).mono ?_;rintro e w8⟨rfl,hb8⟩;replace HBy:=hid (bL HBy.out hb8);replace HB:=hid (HB.out.trans (hb8.mono HB.out.size));clear hb8 k0 k1 k2;go_wp2_with fail;refine(HSV.out _).mono ?_;rintro e w9⟨ua,uc,rfl,hs4,hn4,hb4⟩;have S4:=hid hs4;have N4:=hid hn4;replace HBy:=hid (bL HBy.out hb4);replace HB:=hid (HB.out.trans (hb4.mono HB.out.size));clear hs4 hn4 hb4
      go_wp2_with (at_builtin; (refine dU _ rfl (.tmp 96) (.tmp 99) rfl W0.heap.size _ (R++[xc]++[0]) rfl HBy.out _ _ (U) rfl S4.out N4.out iD HB.out.size ?_; intro v5 w5 hown5 hb5 hk5; replace HBy:=hid hown5; replace HB:=hid (HB.out.trans hb5); clear hown5 hb5 hk5))
      exact NY
    obtain rfl:t=m.gn:=ae;have hta:m.globals.take m.gn=m.globals:=List.take_of_length_le ae;rw[hta]at HBy hfb;clear hta;obtain⟨P8,hPe⟩:∃X,P7++m.globals.flatMap cR=X:=⟨_,rfl⟩;rw[hPe]at HBy hfb;have HQ8:=hid hPe;clear hPe;have hl8:=hfb;clear hfb;go_wp2_with fail;refine(fV W0.heap.size _ P8 (m.fi) _ HBy.out HB.out.size ae R4.1 ae).mono ?_;rintro e wp9⟨yp9,rfl,hby,hbb,hkb⟩;replace HB:=hid (HB.out.trans hbb);replace HBy:=hid hby;obtain⟨m0,m1,m2,m3,m4,m5,m6,m7⟩:=HX.out _ HB.out;clear hby hbb hkb;have hul:=aF (m.fi);have hPn:(P8++ay (m.fi)).length<=3437:=fL;obtain⟨P10,hPe⟩:∃X,P8++ay (m.fi)=X:=⟨_,rfl⟩;rw[hPe]at HBy hPn;have HQ10:=hid hPe;clear hPe;have hl10:=hPn;clear hPn;clear hul;go_wp2_with fail;refine(fV W0.heap.size _ P10 (m.mo) _ HBy.out HB.out.size ae R5.1 ae).mono ?_;rintro e wp11⟨yp11,rfl,hby,hbb,hkb⟩;replace HB:=hid (HB.out.trans hbb);replace HBy:=hid hby;obtain⟨m0,m1,m2,m3,m4,m5,m6,m7⟩:=HX.out _ HB.out;clear hby hbb hkb;have hul:=aF (m.mo);have hPn:(P10++ay (m.mo)).length<=3447:=fL;obtain⟨P12,hPe⟩:∃X,P10++ay (m.mo)=X:=⟨_,rfl⟩;rw[hPe]at HBy hPn;have HQ12:=hid hPe;clear hPe;have hl12:=hPn;clear hPn;clear hul;go_wp2_with fail;refine(fV W0.heap.size _ P12 ((m.fn:Int)) _ HBy.out HB.out.size ae ae ae).mono ?_;rintro e wp13⟨yp13,rfl,hby,hbb,hkb⟩;replace HB:=hid (HB.out.trans hbb);replace HBy:=hid hby;obtain⟨m0,m1,m2,m3,m4,m5,m6,m7⟩:=HX.out _ HB.out;clear hby hbb hkb;have hul:=aF ((m.fn:Int));have hPn:(P12++ay ((m.fn:Int))).length<=3457:=fL;obtain⟨P14,hPe⟩:∃X,P12++ay ((m.fn:Int))=X:=⟨_,rfl⟩;rw[hPe]at HBy hPn;have HQ14:=hid hPe;clear hPe;have hl14:=hPn;clear hPn;clear hul;go_wp2_with fail;clear m0 m1 m2 m3 m4 m5 m6 m7
    go_loopw [3,8] (fun b i wr=>∃t:Nat,t<=m.fn/\i=.int .i64 t/\Hid (Byt wr W0.heap.size b (P14++(m.fns.take t).flatMap cQ))/\Hid (Below W0.heap.size W0 wr)) (fun _ i _=>m.fn-(intOf i).toNat)
    case atStart=>exact⟨0,Nat.zero_le _,rfl,hid mS,HB⟩
    case round =>
     clear HBy HB;obtain⟨t,ht,rfl,HBy,HB⟩:=hrel;obtain⟨m0,m1,m2,m3,m4,m5,m6,m7⟩:=HX.out _ HB.out;have hfl:=cH cQ 400000 (m.fns.take t) (fun j y hj=>M6.out j y pL);have hft:(m.fns.take t).length<=128:=ji;have hfb:(P14++(m.fns.take t).flatMap cQ).length<=51203457:=fL;clear hfl hft
     by_cases hlt:t<m.fn
     ·have hlt':(t:Int)<(m.fn:Int):=ae;obtain⟨x,hx⟩:∃x,m.fns[t]? =some x:=⟨_,aY ae⟩;have hk0:(0:Int)<=(t:Int):=ae;have HFS:=hid (j6 cQ hx);obtain⟨bb,bof,hba,hat⟩:=(HM.out W0 HB0.out).pf.2.resolve_left ae;obtain⟨e0,e1,e2⟩:=hat t x hx
      have HG:=hid (fun(W:World) (hb:Below W0.heap.size W0 W)=>(⟨ag hb e0,ag hb e1,ag hb e2⟩:W.cell? ⟨bb,bof+t*3,none⟩=some (.int .i64 x.1)/\W.cell? ⟨bb,bof+t*3+1,none⟩=some (.string x.2.1)/\W.cell? ⟨bb,bof+t*3+2,none⟩=some (.slice x.2.2.1.1 x.2.2.1.2.1 x.2.2.1.2.2)));have HXB:=hid (fun(W:World) (hb:Below W0.heap.size W0 W)=>(show W.cell? ⟨w.heap.size,5,none⟩=some (.slice (some ⟨bb,bof,none⟩) m.fn m.fc) by have h1:=HX.out W hb; rw[hba]at h1; exact h1.2.2.2.2.2.1));clear hat m5;have m5:=HXB.out _ HB.out;obtain⟨g0,g1,g2⟩:=HG.out _ HB.out
      try rw[hba]
      generalize hR:P14++(m.fns.take t).flatMap cQ=R at *;have HR:=hid hR;clear hR;have HCK:=L6.out t x hx;obtain⟨⟨r0,r1⟩,hin0,-,hiy0⟩:=(HM.out W0 HB0.out).fr t x hx;have HEN:=hid (show cQ x=ay x.1++fK x.2.1++(ay x.2.2.2.length++x.2.2.2.flatMap dG) from rfl);obtain⟨ty,lo,⟨ca,cn,cc⟩,ins⟩:=x;dsimp only at *;unfold dY at HCK;dsimp only at HCK;obtain⟨s64,-,s2048,hfi⟩:=pO HCK
      have hty:0<=ty:=by unfold gH at HCK; split at HCK; cases HCK; omega
      have HCI:=hid (fun(i:Nat) y (hi:ins[i]? =some y)=>(show dH y=0 by have h1:=bC (fun _ x=>dH x) ins [] hfi i y hi; exact h1));have hlen:ins.length=cn:=hin0.1;have HIN:=hid hin0;have HIY:=hid hiy0;have u1:=(dD lo 64 s64).2;have u2:=aF ty;have u3:=aF (cn:Int);rw[hlen]at HEN s2048;clear hx HCK hfi hin0 hiy0;have BN:=aj wr (bk ty lo ca cn cc);have BF:=hid (hZn wr (bk ty lo ca cn cc));replace HBy:=hid (bL HBy.out BN);replace HB:=hid (HB.out.trans (BN.mono HB.out.size));clear BN;have k0:=iz0 BF.out;have k1:=iz1 BF.out;have k2:=iz2 BF.out;go_wp2_with fail;refine(fV W0.heap.size _ R ty _ HBy.out HB.out.size ae hty r1).mono ?_;rintro e wa⟨ya,rfl,hby,hbb,hkb⟩;replace BF:=hid (jc BF.out aA HBy.out hkb);replace HBy:=hid hby;replace HB:=hid (HB.out.trans hbb);clear hby hbb hkb;have k0:=iz0 BF.out;have k1:=iz1 BF.out;have k2:=iz2 BF.out;go_wp2_with fail;refine(zu lo _ ae).mono ?_;rintro e wt⟨ua,uc,rfl,hs4,hn4,hb4⟩;have S4:=hid hs4;have N4:=hid hn4;replace HBy:=hid (bL HBy.out hb4);replace HB:=hid (HB.out.trans (hb4.mono HB.out.size));replace BF:=hid (lX hb4 BF.out);clear hs4 hn4 hb4;have k0:=iz0 BF.out;have k1:=iz1 BF.out;have k2:=iz2 BF.out
      go_wp2_with (at_builtin; (refine dU _ rfl (.tmp 130) (.tmp 133) rfl W0.heap.size _ (R++ay ty) rfl HBy.out _ _ (fK lo) rfl S4.out N4.out iD HB.out.size ?_; intro v5 w5 hown5 hb5 hk5; replace BF:=hid (jc BF.out aA HBy.out hk5); replace HBy:=hid hown5; replace HB:=hid (HB.out.trans hb5); clear hown5 hb5 hk5; have k0:=iz0 BF.out; have k1:=iz1 BF.out; have k2:w5.cell? ⟨wr.heap.size,2,none⟩=some (.slice ca cn cc):=ai BF.out))
      refine(fV W0.heap.size _ (R++ay ty++fK lo) (cn:Int) _ HBy.out HB.out.size jl ae ae).mono ?_;rintro e wb⟨yb,rfl,hby,hbb,hkb⟩;replace BF:=hid (jc BF.out aA HBy.out hkb);replace HBy:=hid hby;replace HB:=hid (HB.out.trans hbb);clear hby hbb hkb;have k0:=iz0 BF.out;have k1:=iz1 BF.out;have k2:=iz2 BF.out;have hql:(R++ay ty++fK lo++ay (cn:Int)).length<=R.length+200:=jl;obtain⟨Q,hQ⟩:∃Q,R++ay ty++fK lo++ay (cn:Int)=Q:=⟨_,rfl⟩;rw[hQ]at HBy hql;have HQQ:=hid hQ;clear hQ;go_wp2_with fail;clear k0 k1 k2;generalize wr.heap.size=F at *
      go_loopw [3,10] (fun b k wq=>∃q:Nat,q<=cn/\k=.int .i64 q/\Hid (Byt wq W0.heap.size b (Q++(ins.take q).flatMap dG))/\Hid (Below W0.heap.size W0 wq)/\Hid (wq.heap[F]? =some (bk ty lo ca cn cc))) (fun _ k _=>cn-(intOf k).toNat)
      case atStart=>exact⟨0,Nat.zero_le _,rfl,hid mS,HB,BF⟩
      case round =>
       clear HBy HB BF;obtain⟨q,hq,rfl,HBy,HB,BF⟩:=hrel;have k0:=iz0 BF.out;have k1:=iz1 BF.out;have k2:=iz2 BF.out;have hfl2:=cH dG 171 (ins.take q) (fun j y hj=>iQ (HCI.out j y (by rw[List.getElem?_take]at hj; split at hj; exact hj; cases hj)));have hft2:(ins.take q).length<=2048:=ji;have hfq:(Q++(ins.take q).flatMap dG).length<=R.length+400000:=fL;clear hfl2 hft2
       by_cases hqn:q<cn
       ·have hqn':(q:Int)<(cn:Int):=ae;obtain⟨y,hy⟩:∃y,ins[q]? =some y:=⟨_,aY ae⟩;have HFS2:=hid (j6 dG hy);obtain⟨cb,cof,rfl,hatI⟩:=HIN.out.2.resolve_left ae;obtain⟨z0,z1,z2⟩:=hatI q y hy;have z0:=ag HB.out z0;have z1:=ag HB.out z1;have z2:=ag HB.out z2;obtain⟨v0,v1,v2,-⟩:=HIY.out q y hy;have HEC:=hid (OZ y _ v0 v1 (v2.later HB.out lRn) (HCI.out q y hy));have u4:=iQ (HCI.out q y hy);have hq0:(0:Int)<=(q:Int):=ae;clear hatI hy v0 v1 v2;generalize hR2:Q++(ins.take q).flatMap dG=R2 at *;have HR2:=hid hR2;clear hR2;go_wp2_with fail;refine HEC.out.mono ?_;rintro e w9⟨ua,uc,rfl,hs4,hn4,hb4⟩;have S4:=hid hs4;have N4:=hid hn4
        replace HBy:=hid (bL HBy.out hb4);replace HB:=hid (HB.out.trans (hb4.mono HB.out.size));replace BF:=hid (lX hb4 BF.out);clear hs4 hn4 hb4;generalize dG y=U at *
        go_wp2_with (at_builtin; (refine dU _ rfl (.tmp 156) (.tmp 157) rfl W0.heap.size _ (R2) rfl HBy.out _ _ (U) rfl S4.out N4.out iD HB.out.size ?_; intro v5 w5 hown5 hb5 hk5; replace BF:=hid (jc BF.out aA HBy.out hk5); replace HBy:=hid hown5; replace HB:=hid (HB.out.trans hb5); clear hown5 hb5 hk5))
        exact⟨⟨q+1,ae,bH,hid (by rw[HFS2.out,<- List.append_assoc,HR2.out]; exact HBy.out),HB,BF⟩,bI⟩
       obtain rfl:q=cn:=ae;have hta:ins.take q=ins:=List.take_of_length_le ae;have hby:=HBy.out;rw[hta,<- HQQ.out]at hby;replace HBy:=hid hby;clear hby hta;go_wp2_with fail;exact⟨⟨t+1,ae,bH,hid (by rw[HFS.out,<- List.append_assoc,HR.out]; rw[HEN.out]; simpa only[List.append_assoc] using HBy.out),HB⟩,bI⟩
     obtain rfl:t=m.fn:=ae;have hta:m.fns.take m.fn=m.fns:=List.take_of_length_le ae;rw[hta]at HBy hfb;clear hta;obtain⟨P15,hPe⟩:∃X,P14++m.fns.flatMap cQ=X:=⟨_,rfl⟩;rw[hPe]at HBy hfb;have HQ15:=hid hPe;clear hPe;have hl15:=hfb;clear hfb;go_wp2_with fail;refine(fV W0.heap.size _ P15 ((m.dn:Int)) _ HBy.out HB.out.size ae ae ae).mono ?_;rintro e wp16⟨yp16,rfl,hby,hbb,hkb⟩;replace HB:=hid (HB.out.trans hbb);replace HBy:=hid hby;obtain⟨m0,m1,m2,m3,m4,m5,m6,m7⟩:=HX.out _ HB.out;clear hby hbb hkb;have hul:=aF ((m.dn:Int));have hPn:(P15++ay ((m.dn:Int))).length<=51203467:=fL;obtain⟨P17,hPe⟩:∃X,P15++ay ((m.dn:Int))=X:=⟨_,rfl⟩;rw[hPe]at HBy hPn;have HQ17:=hid hPe;clear hPe;have hl17:=hPn;clear hPn;clear hul;go_wp2_with fail;clear m0 m1 m2 m3 m4 m5 m6 m7
     go_loopw [3,13] (fun b i wr=>∃t:Nat,t<=m.dn/\i=.int .i64 t/\Hid (Byt wr W0.heap.size b (P17++(m.data.take t).flatMap cU))/\Hid (Below W0.heap.size W0 wr)) (fun _ i _=>m.dn-(intOf i).toNat)
     case atStart=>exact⟨0,Nat.zero_le _,rfl,hid mS,HB⟩
     case round =>
      clear HBy HB;obtain⟨t,ht,rfl,HBy,HB⟩:=hrel;obtain⟨m0,m1,m2,m3,m4,m5,m6,m7⟩:=HX.out _ HB.out;have hfl:=cH cU 300000 (m.data.take t) (fun j y hj=>M7.out j y pL);have hft:(m.data.take t).length<=64:=ji;have hfb:(P17++(m.data.take t).flatMap cU).length<=70403467:=fL;clear hfl hft
      by_cases hlt:t<m.dn
      ·have hlt':(t:Int)<(m.dn:Int):=ae;obtain⟨x,hx⟩:∃x,m.data[t]? =some x:=⟨_,aY ae⟩;have hk0:(0:Int)<=(t:Int):=ae;have HFS:=hid (j6 cU hx);obtain⟨bb,bof,hba,hat⟩:=(HM.out W0 HB0.out).pd.2.resolve_left ae;obtain⟨e0,e1⟩:=hat t x hx
       have HG:=hid (fun(W:World) (hb:Below W0.heap.size W0 W)=>(⟨ag hb e0,ag hb e1⟩:W.cell? ⟨bb,bof+t*2,none⟩=some (.int .i64 x.1)/\W.cell? ⟨bb,bof+t*2+1,none⟩=some (.slice x.2.1.1 x.2.1.2.1 x.2.1.2.2)));have HXB:=hid (fun(W:World) (hb:Below W0.heap.size W0 W)=>(show W.cell? ⟨w.heap.size,6,none⟩=some (.slice (some ⟨bb,bof,none⟩) m.dn m.dc) by have h1:=HX.out W hb; rw[hba]at h1; exact h1.2.2.2.2.2.2.1));clear hat m6;have m6:=HXB.out _ HB.out;obtain⟨g0,g1⟩:=HG.out _ HB.out
       try rw[hba]
       generalize hR:P17++(m.data.take t).flatMap cU=R at *;have HR:=hid hR;clear hR;have hck:=L7.out t x hx;have HSEG:=hid (fun(W:World) (hb:Below w.heap.size w W)=>((HM.out W hb).dr t x hx).2.1);obtain⟨⟨r0,r1⟩,-,-⟩:=(HM.out W0 HB0.out).dr t x hx;have hdx:=HDX.out t x hx;have HEN:=hid (show cU x=ay x.1++(ay x.2.2.length++x.2.2) from rfl)
       have hpl:0<=x.1:=by unfold cD at hck; split at hck; cases hck; omega
       have hET:fK (strOfNums x.2.2)=ay x.2.2.length++x.2.2:=by unfold fK; rw[gZ,ql _ (HSEG.out W0 HB0.out).2.2.2.1]
       have HET:=hid hET;have u1:=(dD (strOfNums x.2.2) 1000000 (by rw[gZ]; exact hdx)).2;have u2:=aF x.1;have hss:=gZ x.2.2;clear hx hck hET;obtain⟨pl,⟨ba,bn,bc⟩,bl⟩:=x;dsimp only at *;go_wp2_with fail;refine(fV W0.heap.size _ R pl _ HBy.out HB.out.size ae hpl r1).mono ?_;rintro e wa⟨ya,rfl,hby,hbb,hkb⟩;replace HBy:=hid hby;replace HB:=hid (HB.out.trans hbb);clear hby hbb hkb;have m6:=HXB.out _ HB.out;obtain⟨g0,g1⟩:=HG.out _ HB.out;have hcv:=Gs wa ba bn bc bl (HSEG.out wa (HB0.out.trans (HB.out.mono HB0.out.size)));generalize strOfNums bl=sb at *;go_wp2_with fail;refine(zu sb _ ae).mono ?_;rintro e wt⟨ua,uc,rfl,hs4,hn4,hb4⟩;have S4:=hid hs4;have N4:=hid hn4;replace HBy:=hid (bL HBy.out hb4);replace HB:=hid (HB.out.trans (hb4.mono HB.out.size));clear hs4 hn4 hb4
       go_wp2_with (at_builtin; (refine dU _ rfl (.tmp 179) (.tmp 187) rfl W0.heap.size _ (R++ay pl) rfl HBy.out _ _ (fK sb) rfl S4.out N4.out iD HB.out.size ?_; intro v5 w5 hown5 hb5 hk5; replace HBy:=hid hown5; replace HB:=hid (HB.out.trans hb5); clear hown5 hb5 hk5))
       exact⟨⟨t+1,ae,bH,hid (by rw[HFS.out,<- List.append_assoc,HR.out]; rw[HEN.out,<- HET.out,<- List.append_assoc]; exact HBy.out),HB⟩,bI⟩
      obtain rfl:t=m.dn:=ae;have hta:m.data.take m.dn=m.data:=List.take_of_length_le ae;rw[hta]at HBy hfb;clear hta;obtain⟨P18,hPe⟩:∃X,P17++m.data.flatMap cU=X:=⟨_,rfl⟩;rw[hPe]at HBy hfb;have HQ18:=hid hPe;clear hPe;have hl18:=hfb;clear hfb;go_wp2_with fail;refine(fV W0.heap.size _ P18 ((m.en:Int)) _ HBy.out HB.out.size ae ae ae).mono ?_;rintro e wp19⟨yp19,rfl,hby,hbb,hkb⟩;replace HB:=hid (HB.out.trans hbb);replace HBy:=hid hby;obtain⟨m0,m1,m2,m3,m4,m5,m6,m7⟩:=HX.out _ HB.out;clear hby hbb hkb;have hul:=aF ((m.en:Int));have hPn:(P18++ay ((m.en:Int))).length<=70403477:=fL;obtain⟨P20,hPe⟩:∃X,P18++ay ((m.en:Int))=X:=⟨_,rfl⟩;rw[hPe]at HBy hPn;have HQ20:=hid hPe;clear hPe;have hl20:=hPn;clear hPn;clear hul;go_wp2_with fail;clear m0 m1 m2 m3 m4 m5 m6 m7
      go_loopw [3,14] (fun b i wr=>∃t:Nat,t<=m.en/\i=.int .i64 t/\Hid (Byt wr W0.heap.size b (P20++(m.exps.take t).flatMap dP))/\Hid (Below W0.heap.size W0 wr)) (fun _ i _=>m.en-(intOf i).toNat)
      case atStart=>exact⟨0,Nat.zero_le _,rfl,hid mS,HB⟩
      case round =>
       clear HBy HB;obtain⟨t,ht,rfl,HBy,HB⟩:=hrel;obtain⟨m0,m1,m2,m3,m4,m5,m6,m7⟩:=HX.out _ HB.out;have hfl:=cH dP 60 (m.exps.take t) (fun j y hj=>M8.out j y pL);have hft:(m.exps.take t).length<=64:=ji;have hfb:(P20++(m.exps.take t).flatMap dP).length<=70407317:=fL;clear hfl hft
       by_cases hlt:t<m.en
       ·have hlt':(t:Int)<(m.en:Int):=ae;obtain⟨x,hx⟩:∃x,m.exps[t]? =some x:=⟨_,aY ae⟩;have hk0:(0:Int)<=(t:Int):=ae;have HFS:=hid (j6 dP hx);obtain⟨bb,bof,hba,hat⟩:=(HM.out W0 HB0.out).pe.2.resolve_left ae;obtain⟨e0,e1⟩:=hat t x hx
        have HG:=hid (fun(W:World) (hb:Below W0.heap.size W0 W)=>(⟨ag hb e0,ag hb e1⟩:W.cell? ⟨bb,bof+t*2,none⟩=some (.string x.1)/\W.cell? ⟨bb,bof+t*2+1,none⟩=some (.int .i64 x.2)));have HXB:=hid (fun(W:World) (hb:Below W0.heap.size W0 W)=>(show W.cell? ⟨w.heap.size,7,none⟩=some (.slice (some ⟨bb,bof,none⟩) m.en m.ec) by have h1:=HX.out W hb; rw[hba]at h1; exact h1.2.2.2.2.2.2.2));clear hat m7;have m7:=HXB.out _ HB.out;obtain⟨g0,g1⟩:=HG.out _ HB.out
        try rw[hba]
        generalize hR:P20++(m.exps.take t).flatMap dP=R at *;have HR:=hid hR;clear hR;have hck:=L8.out t x hx;have hex:=HEX.out t x hx
        have hq:0<=x.2/\x.2<9223372036854775808/\x.1.size<=32:=by
         unfold dO at hck
         split at hck
         ·cases hck
         split at hck
         ·cases hck
         split at hck
         ·cases hck
         unfold bD at hck
         split at hck
         ·cases hck
         omega
        have HEN:=hid (show dP x=fK x.1++ay x.2 from rfl);obtain⟨q0,q1,q2⟩:=hq;have u1:=(dD x.1 32 q2).2;clear hx hck;go_wp2_with fail;refine(zu x.1 _ ae).mono ?_;rintro e wt⟨ua,uc,rfl,hs4,hn4,hb4⟩;have S4:=hid hs4;have N4:=hid hn4;replace HBy:=hid (bL HBy.out hb4);replace HB:=hid (HB.out.trans (hb4.mono HB.out.size));clear hs4 hn4 hb4;have m7:=HXB.out _ HB.out;obtain⟨g0,g1⟩:=HG.out _ HB.out
        go_wp2_with (at_builtin; (refine dU _ rfl (.tmp 201) (.tmp 208) rfl W0.heap.size _ (R) rfl HBy.out _ _ (fK x.1) rfl S4.out N4.out iD HB.out.size ?_; intro v5 w5 hown5 hb5 hk5; replace HBy:=hid hown5; replace HB:=hid (HB.out.trans hb5); clear hown5 hb5 hk5; have m7:=HXB.out _ HB.out; obtain⟨g0,g1⟩:=HG.out _ HB.out))
        refine(fV W0.heap.size _ (R++fK x.1) x.2 _ HBy.out HB.out.size jl q0 q1).mono ?_;rintro e wa⟨ya,rfl,hby,hbb,hkb⟩;replace HBy:=hid hby;replace HB:=hid (HB.out.trans hbb);clear hby hbb hkb;go_wp2_with fail;exact⟨⟨t+1,ae,bH,hid (by rw[HFS.out,<- List.append_assoc,HR.out]; rw[HEN.out,<- List.append_assoc]; exact HBy.out),HB⟩,bI⟩
       obtain rfl:t=m.en:=ae;have hta:m.exps.take m.en=m.exps:=List.take_of_length_le ae;rw[hta]at HBy hfb;clear hta;obtain⟨P21,hPe⟩:∃X,P20++m.exps.flatMap dP=X:=⟨_,rfl⟩;rw[hPe]at HBy hfb;have HQ21:=hid hPe;clear hPe;have hl21:=hfb;clear hfb;go_wp2_with fail;go_ret;refine⟨_,rfl,?_,HB0.out.trans (HB.out.mono HB0.out.size)⟩
       have hE:eA++qG m=P21:=by
        unfold qG;rw[<- HQ21.out,<- HQ20.out,<- HQ18.out,<- HQ17.out,<- HQ15.out,<- HQ14.out,<- HQ12.out,<- HQ10.out,<- HQ8.out,<- HQ7.out,<- HQ5.out,<- HQ3.out,<- HQ1.out,<- HQ0.out];simp only[List.append_assoc]
       rw[hE,<- HZ.out];exact HBy.out
end Go.Proofs.YtepcmfegggdjfaaGreatDoor

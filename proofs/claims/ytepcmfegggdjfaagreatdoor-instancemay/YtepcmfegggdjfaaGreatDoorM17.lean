/-
  Texts Zr Zs Dn Do Dp Dq Dr Ds.
-/
import Derived.Test.YtepcmfegggdjfaaGreatDoorM00
import Derived.Test.YtepcmfegggdjfaaGreatDoorM16
set_option linter.unusedVariables false
set_option maxRecDepth 100000
set_option maxHeartbeats 16000000
namespace Go.Proofs.YtepcmfegggdjfaaGreatDoor
open Go.Proofs.Tryz
open Go.RowKit
variable {z:Int}
theorem Lx(h:z=119\/z=108):strOfNums [z]=ltr z:=by
 rcases h with rfl | rfl
 ·rfl
 rfl
variable {s:BAz}{i:Nat}
theorem Pd(h:i<s.size)(hz:(aC s).getD i 0=119\/(aC s).getD i 0=108):s.extract i (i+1)=ltr ((aC s).getD i 0):=by
 have hb:i<(bl s).length:=by rw[ik]; exact h
 have e:(aC s).getD i 0=((bl s)[i].toNat:Int):=by
  unfold aC;simp[List.getD,aY hb]
 have ex:bl (s.extract i (i+1))=[(bl s)[i]]:=by
  show((s.extract i (i+1)).data).toList=_
  have e2:((s.extract i (i+1)).data).toList=((bl s).drop i).take 1:=by
   simp[ByteArray.data_extract,List.extract_eq_take_drop]
  rw[e2,List.drop_eq_getElem_cons hb];rfl
 rw[e]at hz ⊢;apply mO;rw[ex]
 rcases hz with hz | hz
 ·have:(bl s)[i]=119:=by apply UInt8.toNat.inj; have:(119:UInt8).toNat=119:=rfl; omega
  rw[this]; rfl
 have:(bl s)[i]=108:=by apply UInt8.toNat.inj; have:(108:UInt8).toNat=108:=rfl; omega
 rw[this]; rfl
section
variable {m:MM} {lo:LIz} {xs:List Inx} {R:BAz} {n:Nat}
structure AgH(m:MM)(lo:LIz)(xs:List Inx)(R:BAz)(n j:Nat)(LO:BAz):Prop where
 O:Okp (opF xs) j
 e:erA m lo xs R n j=0
 b:(aT (stA m lo xs R n j)).B.size<=(stA m lo xs R n j).st.size
 z:(stA m lo xs R n j).st.size<=256
 los:lo=aC LO
 lt:∀z∈lo,z=119\/z=108
 g:∀q:Nat,q<m.gn->glC m q=119\/glC m q=108
 l9:opF xs j=9->0<(xs.getD j dx).l.length
variable {j:Nat} {LO:BAz}
variable {c:Int}
theorem AgH.rw(H:AgH m lo xs R n j LO)(hc:opF xs j=c):rwE m lo (elF (opF xs) n (aT (stA m lo xs R n j)).pc.toNat) (fI (fP (stA m lo xs R n j) j)) (aT (stA m lo xs R n j)) c (xs.getD j dx).a (xs.getD j dx).l=0:=by
 have h:=s8 H.e;rw[<- hc];exact h
theorem ku(hc:opF xs j=c):(stA m lo xs R n (j+1)).st=(rwS m lo (fI (fP (stA m lo xs R n j) j)) (aT (stA m lo xs R n j)) c (xs.getD j dx).a).st:=by rw[<- hc]; exact oH j
variable {s:Cs}{o:Opn}{a:Int}
theorem Rp(n11:c≠11)(n12:c≠12)(n16:c≠16)(n17:c≠17)(n18:c≠18)(n19:c≠19)(n20:c≠20)(n21:c≠21)(n22:c≠22):efV m lo s o c a=((ofV c).1.2.2.2.1,(ofV c).1.2.2.2.2.1):=by
 unfold efV;rw[if_neg n11,if_neg n12,if_neg n16,if_neg n17,if_neg ae,if_neg ae]
variable {el:Int}{l:LIz}
theorem kH(n0:c≠0)(n2:c≠2)(n3:c≠3)(n4:c≠4)(n5:c≠5)(n6:c≠6)(n7:c≠7)(n8:c≠8)(n9:c≠9)(n10:c≠10)(h:rwE m lo el s o c a l=0):bQ s o (efV m lo s o c a).1=0/\bW (cN s (efV m lo s o c a).1).st (efV m lo s o c a).2=0:=by
 unfold rwE at h;rw[if_neg ae,if_neg n4,if_neg n5,if_neg n6,if_neg n7,if_neg n8,if_neg n9,if_neg n10,if_neg n0]at h;obtain⟨_,h⟩:=aI h;exact aI h
theorem kC(n0:c≠0)(n2:c≠2)(n3:c≠3)(n4:c≠4)(n5:c≠5)(n6:c≠6)(n7:c≠7)(n8:c≠8)(n9:c≠9)(n10:c≠10):rwS m lo s o c a=qB (cN s (efV m lo s o c a).1) (efV m lo s o c a).2:=by
 unfold rwS;rw[if_neg ae,if_neg n4,if_neg n5,if_neg n6,if_neg ae,if_neg n8]
theorem LA(H:AgH m lo xs R n j LO)(h0:0<=opF xs j)(h1:opF xs j<=255)(hpl:(ofV (opF xs j)).1.2.2.2.2.2=true):Ag m lo xs R n j (efD m LO xs R j (opF xs j) (xs.getD j dx).a (xs.getD j dx).l ((stA m lo xs R n j).st.extract (aT (stA m lo xs R n j)).B.size (stA m lo xs R n j).st.size)):=by
 have hno':∀q:Nat,q∈[0,2,3,4,5,6,7,8,9,10,11,12,16,17,18,19,20,21,22]->opF xs j≠(q:Int):=by
  intro q hq e;rw[e]at hpl;have hq2:q<256:=ae;exact(wI q hq2).1 hpl hq
 have hi:isO (opF xs j)=false:=by
  have n2:=hno' 2 aA;have n3:=hno' 3 aA;have n4:=hno' 4 aA
  cases hi:isO (opF xs j) with
  | false=>rfl
  | true=>rw[dR]at hi; omega
 have ev:=Rp (m:=m) (lo:=lo) (s:=(fI (fP (stA m lo xs R n j) j))) (o:=(aT (stA m lo xs R n j))) (a:=(xs.getD j dx).a) (hno' 11 aA) (hno' 12 aA) (hno' 16 aA) (hno' 17 aA) (hno' 18 aA) (hno' 19 aA) (hno' 20 aA) (hno' 21 aA) (hno' 22 aA);have q:=kH (hno' 0 aA) (hno' 2 aA) (hno' 3 aA) (hno' 4 aA) (hno' 5 aA) (hno' 6 aA) (hno' 7 aA) (hno' 8 aA) (hno' 9 aA) (hno' 10 aA) (H.rw rfl);have hs:=ku (m:=m) (lo:=lo) (R:=R) (n:=n) (xs:=xs) (j:=j) rfl;rw[kC (hno' 0 aA) (hno' 2 aA) (hno' 3 aA) (hno' 4 aA) (hno' 5 aA) (hno' 6 aA) (hno' 7 aA) (hno' 8 aA) (hno' 9 aA) (hno' 10 aA)]at hs;have hb:=H.b;unfold efD;rw[if_pos hpl];rw[ev]at q hs;clear ev hno' hpl;generalize (ofV (opF xs j)).1.2.2.2.1=p at *;generalize (ofV (opF xs j)).1.2.2.2.2.1=r at *;exact tF hb (c:=0) (a:=0) hi q.1 q.2 hs
theorem Vx(H:AgH m lo xs R n j LO)(hc:opF xs j=0):Ag m lo xs R n j (efD m LO xs R j (opF xs j) (xs.getD j dx).a (xs.getD j dx).l ((stA m lo xs R n j).st.extract (aT (stA m lo xs R n j)).B.size (stA m lo xs R n j).st.size)):=by
 have h:=H.rw hc;have hs:=ku (m:=m) (lo:=lo) (R:=R) (n:=n) hc;have hb:=H.b;have hz:=H.z;rw[hc];have hpl:¬(ofV (0:Int)).1.2.2.2.2.2=true:=cj;unfold efD;rw[if_neg hpl];rw[if_pos rfl];refine⟨rfl,KR _,by show ¬256<_-0+0; omega,fun hh=>absurd hc ae,fun hh=>by rw[hc]at hh; cases hh⟩
theorem U1(H:AgH m lo xs R n j LO)(hc:opF xs j=2):Ag m lo xs R n j (efD m LO xs R j (opF xs j) (xs.getD j dx).a (xs.getD j dx).l ((stA m lo xs R n j).st.extract (aT (stA m lo xs R n j)).B.size (stA m lo xs R n j).st.size)):=by
 have h:=H.rw hc;have hs:=ku (m:=m) (lo:=lo) (R:=R) (n:=n) hc;have hb:=H.b;have hz:=H.z;rw[hc];have hpl:¬(ofV (2:Int)).1.2.2.2.2.2=true:=cj;unfold efD;rw[if_neg hpl];rw[if_neg ae,if_pos ae];unfold rwE at h;rw[if_pos ae]at h;unfold opE at h;obtain⟨q1,q2⟩:=aI h;obtain⟨q2,_⟩:=aI q2;have qi:=fQ q1;unfold tyD;rw[if_neg ae,if_neg ae,if_pos qi];have G:=wO (m:=m) (lo:=lo) (R:=R) (n:=n) hb hz cz (by rw[hc]; exact q2);rw[hc]at G;have e:(bS m (xs.getD j dx).a).1++tkO 2=(bS m (xs.getD j dx).a).1:=jC _;rw[e]at G;exact G
theorem U3(H:AgH m lo xs R n j LO)(hc:opF xs j=3):Ag m lo xs R n j (efD m LO xs R j (opF xs j) (xs.getD j dx).a (xs.getD j dx).l ((stA m lo xs R n j).st.extract (aT (stA m lo xs R n j)).B.size (stA m lo xs R n j).st.size)):=by
 have h:=H.rw hc;have hs:=ku (m:=m) (lo:=lo) (R:=R) (n:=n) hc;have hb:=H.b;have hz:=H.z;rw[hc];have hpl:¬(ofV (3:Int)).1.2.2.2.2.2=true:=cj;unfold efD;rw[if_neg hpl];rw[if_neg ae,if_pos ae];unfold rwE at h;rw[if_pos ae]at h;unfold opE at h;obtain⟨q1,q2⟩:=aI h;obtain⟨q2,_⟩:=aI q2;have qi:=fQ q1;unfold tyD;rw[if_neg ae,if_neg ae,if_pos qi];have G:=wO (m:=m) (lo:=lo) (R:=R) (n:=n) hb hz cz (by rw[hc]; exact q2);rw[hc]at G;have e:(bS m (xs.getD j dx).a).1++tkO 3=(bS m (xs.getD j dx).a).1:=jC _;rw[e]at G;exact G
theorem U2(H:AgH m lo xs R n j LO)(hc:opF xs j=4):Ag m lo xs R n j (efD m LO xs R j (opF xs j) (xs.getD j dx).a (xs.getD j dx).l ((stA m lo xs R n j).st.extract (aT (stA m lo xs R n j)).B.size (stA m lo xs R n j).st.size)):=by
 have h:=H.rw hc;have hs:=ku (m:=m) (lo:=lo) (R:=R) (n:=n) hc;have hb:=H.b;have hz:=H.z;rw[hc];have hpl:¬(ofV (4:Int)).1.2.2.2.2.2=true:=cj;unfold efD;rw[if_neg hpl];rw[if_neg ae,if_neg ae,if_pos rfl];unfold rwE at h;rw[if_neg ae,if_pos rfl]at h;unfold opE at h;obtain⟨q1,q2⟩:=aI h;obtain⟨q2,_⟩:=aI q2;have qi:=fQ q1;unfold tyD;rw[if_neg ae,if_neg ae,if_pos qi];have G:=wO (m:=m) (lo:=lo) (R:=R) (n:=n) hb hz cz (by rw[hc]; exact q2);rw[hc]at G;exact G
theorem Ue(H:AgH m lo xs R n j LO)(hc:opF xs j=11):Ag m lo xs R n j (efD m LO xs R j (opF xs j) (xs.getD j dx).a (xs.getD j dx).l ((stA m lo xs R n j).st.extract (aT (stA m lo xs R n j)).B.size (stA m lo xs R n j).st.size)):=by
 have h:=H.rw hc;have hs:=ku (m:=m) (lo:=lo) (R:=R) (n:=n) hc;have hb:=H.b;have hz:=H.z;rw[hc];have hpl:¬(ofV (11:Int)).1.2.2.2.2.2=true:=cj;unfold efD;rw[if_neg hpl];(iterate 3 rewrite [if_neg ae]);rw[if_pos ae];unfold rwE at h;(iterate 9 rw[if_neg ae]at h);unfold rwS at hs;(iterate 6 rw[if_neg ae]at hs);unfold efE efV at h;unfold efV at hs;rw[if_pos rfl]at h;rw[if_pos rfl]at h;rw[if_pos rfl]at hs;obtain⟨q1,q2⟩:=aI h;obtain⟨q2,q3⟩:=aI q2;have qi:=fQ q1;unfold tyD;rw[if_pos rfl,if_pos qi];exact tF hb (c:=0) (a:=0) cz q2 q3 hs
theorem TU(H:AgH m lo xs R n j LO)(hc:opF xs j=12):Ag m lo xs R n j (efD m LO xs R j (opF xs j) (xs.getD j dx).a (xs.getD j dx).l ((stA m lo xs R n j).st.extract (aT (stA m lo xs R n j)).B.size (stA m lo xs R n j).st.size)):=by
 have h:=H.rw hc;have hs:=ku (m:=m) (lo:=lo) (R:=R) (n:=n) hc;have hb:=H.b;have hz:=H.z;rw[hc];have hpl:¬(ofV (12:Int)).1.2.2.2.2.2=true:=cj;unfold efD;rw[if_neg hpl];(iterate 3 rewrite [if_neg ae]);rw[if_pos ae];unfold rwE at h;(iterate 9 rw[if_neg ae]at h);unfold rwS at hs;(iterate 6 rw[if_neg ae]at hs);unfold efE efV at h;unfold efV at hs;rw[if_neg ae,if_pos rfl]at h;rw[if_neg ae,if_pos rfl]at h;rw[if_neg ae,if_pos rfl]at hs;obtain⟨q1,q2⟩:=aI h;obtain⟨q2,q3⟩:=aI q2;have qi:=fQ q1;unfold tyD;rw[if_neg ae,if_pos rfl,if_pos qi];exact tF hb (c:=0) (a:=0) cz q2 q3 hs
theorem TK(H:AgH m lo xs R n j LO)(hc:opF xs j=10):Ag m lo xs R n j (efD m LO xs R j (opF xs j) (xs.getD j dx).a (xs.getD j dx).l ((stA m lo xs R n j).st.extract (aT (stA m lo xs R n j)).B.size (stA m lo xs R n j).st.size)):=by
 have h:=H.rw hc;have hs:=ku (m:=m) (lo:=lo) (R:=R) (n:=n) hc;have hb:=H.b;have hz:=H.z;rw[hc];have hpl:¬(ofV (10:Int)).1.2.2.2.2.2=true:=cj;unfold efD;rw[if_neg hpl];(iterate 6 rewrite [if_neg ae]);rw[if_pos rfl];unfold rwE at h;(iterate 7 rewrite [if_neg ae]at h);rw[if_pos rfl]at h;obtain⟨q1,_⟩:=aI h
 have e:brg (qy (fI (fP (stA m lo xs R n j) j)))=R:=by
  have:=MZ (m:=m) (lo:=lo) (R:=R) (n:=n) H.O;show brg (qy (stA m lo xs R n j))=R;rw[this]; rfl
 rw[e]at q1;have G:=rq (t:=⟨#[]⟩) hb hz cz (p:=R) (by rw[jC]; exact q1) (fun hh=>absurd hc ae);rw[jC]at G;exact G
theorem VD(H:AgH m lo xs R n j LO)(hc:opF xs j=7):Ag m lo xs R n j (efD m LO xs R j (opF xs j) (xs.getD j dx).a (xs.getD j dx).l ((stA m lo xs R n j).st.extract (aT (stA m lo xs R n j)).B.size (stA m lo xs R n j).st.size)):=by
 have h:=H.rw hc;have hs:=ku (m:=m) (lo:=lo) (R:=R) (n:=n) hc;have hb:=H.b;have hz:=H.z;rw[hc];have hpl:¬(ofV (7:Int)).1.2.2.2.2.2=true:=cj;unfold efD;rw[if_neg hpl];(iterate 4 rewrite [if_neg ae]);rw[if_pos rfl];unfold rwE at h;(iterate 4 rewrite [if_neg ae]at h);rw[if_pos rfl]at h;obtain⟨q1,q2⟩:=aI h;obtain⟨q2,_⟩:=aI q2;have L:=uw (m:=m) (lo:=lo) (R:=R) (n:=n) H.O q1
 have e:lsD m xs R j 7 (xs.getD j dx).a (xs.getD j dx).l=(brg (dh (stA m lo xs R n j) (xs.getD j dx).a),0):=by
  unfold lsD; rw[if_pos ae,if_pos L.1,L.2]
 rw[e];have G:=rq (t:=⟨#[]⟩) hb hz cz (p:=brg (dh (stA m lo xs R n j) (xs.getD j dx).a)) (by rw[jC]; exact q2) (fun hh=>absurd hc ae);rw[jC]at G;exact G
theorem VB(H:AgH m lo xs R n j LO)(hc:opF xs j=8):Ag m lo xs R n j (efD m LO xs R j (opF xs j) (xs.getD j dx).a (xs.getD j dx).l ((stA m lo xs R n j).st.extract (aT (stA m lo xs R n j)).B.size (stA m lo xs R n j).st.size)):=by
 have h:=H.rw hc;have hs:=ku (m:=m) (lo:=lo) (R:=R) (n:=n) hc;have hb:=H.b;have hz:=H.z;rw[hc];have hpl:¬(ofV (8:Int)).1.2.2.2.2.2=true:=cj;unfold efD;rw[if_neg hpl];(iterate 5 rewrite [if_neg ae]);rw[if_pos ae];unfold rwE at h;(iterate 5 rewrite [if_neg ae]at h);rw[if_pos rfl]at h;unfold rwS at hs;(iterate 5 rewrite [if_neg ae]at hs);rw[if_pos rfl]at hs;obtain⟨q1,q2⟩:=aI h;obtain⟨q2,_⟩:=aI q2;have L:=uw (m:=m) (lo:=lo) (R:=R) (n:=n) H.O q1
 have e:lsD m xs R j 8 (xs.getD j dx).a (xs.getD j dx).l=(brg (dh (stA m lo xs R n j) (xs.getD j dx).a),0):=by
  unfold lsD; rw[if_pos ae,if_pos L.1,L.2]
 rw[e];exact rq hb hz cz q2 (fun _=>hs)
theorem VC(H:AgH m lo xs R n j LO)(hc:opF xs j=9):Ag m lo xs R n j (efD m LO xs R j (opF xs j) (xs.getD j dx).a (xs.getD j dx).l ((stA m lo xs R n j).st.extract (aT (stA m lo xs R n j)).B.size (stA m lo xs R n j).st.size)):=by
 have h:=H.rw hc;have hs:=ku (m:=m) (lo:=lo) (R:=R) (n:=n) hc;have hb:=H.b;have hz:=H.z;rw[hc];have hpl:¬(ofV (9:Int)).1.2.2.2.2.2=true:=cj;unfold efD;rw[if_neg hpl];(iterate 5 rewrite [if_neg ae]);rw[if_pos ae];unfold rwE at h;(iterate 6 rewrite [if_neg ae]at h);rw[if_pos rfl]at h;obtain⟨q1,q2⟩:=aI h;obtain⟨q2,_⟩:=aI q2;rw[RJ (m:=m) (lo:=lo) (R:=R) (n:=n) H.O q1 _ (H.l9 hc)]
 exact rq hb hz cz q2 (fun hh=>absurd hc ae)
end
section
variable {m:MM} {lo:LIz} {xs:List Inx} {R:BAz} {n:Nat} {j:Nat} {LO:BAz}
variable {el c a:Int}{s:Cs}{o:Opn}{l:LIz}
theorem ie(n0:c≠0)(n2:c≠2)(n3:c≠3)(n4:c≠4)(n5:c≠5)(n6:c≠6)(n7:c≠7)(n8:c≠8)(n9:c≠9)(n10:c≠10)(h:rwE m lo el s o c a l=0):efE m lo s o c a=0:=by
 unfold rwE at h;rw[if_neg ae,if_neg n4,if_neg n5,if_neg n6,if_neg n7,if_neg n8,if_neg n9,if_neg n10,if_neg n0]at h;exact(aI h).1
theorem qZ(s:Cs)(t:BAz):(qB s t).st=iq s.st t:=rfl
theorem LX(s:Cs)(j:Nat):(fI (fP s j)).st=s.st:=rfl
variable {k:Nat}
theorem zE(h:ko s o k=0):k<(s.st.extract o.B.size s.st.size).size:=by
 unfold ko at h
 by_cases hh:k<(s.st.extract o.B.size s.st.size).size
 ·exact hh
 rw[if_neg hh]at h; cases h
theorem SF(h:0<(s.st.extract o.B.size s.st.size).size):gG s o 0=(s.st.extract o.B.size s.st.size).extract ((s.st.extract o.B.size s.st.size).size-1) (s.st.extract o.B.size s.st.size).size:=by
 unfold gG;generalize s.st.extract o.B.size s.st.size=ab at *;rw[Nat.sub_zero,show ab.size-1+1=ab.size by omega]
theorem TD(h:1<(s.st.extract o.B.size s.st.size).size):gG s o 1=(s.st.extract o.B.size s.st.size).extract ((s.st.extract o.B.size s.st.size).size-2) ((s.st.extract o.B.size s.st.size).size-1):=by
 unfold gG;generalize s.st.extract o.B.size s.st.size=ab at *;rw[show ab.size-1-1=ab.size-2 by omega,show ab.size-2+1=ab.size-1 by omega]
theorem QY    : efE m lo s o 16 a=ko s o 0/\efV m lo s o 16 a=(gG s o 0,⟨#[]⟩):=⟨rfl,rfl⟩
theorem QN    : efE m lo s o 17 a=ko s o 1/\efV m lo s o 17 a=(gG s o 1++gG s o 1++⟨#[119]⟩,gG s o 1):=⟨rfl,rfl⟩
variable {ab:BAz}
theorem TY(m:MM)(LO:BAz)(xs:List Inx)(Q:BAz)(pc:Nat)(a:Int)(l:LIz)(h:0<ab.size):efD m LO xs Q pc 16 a l ab=(ab.extract (ab.size-1) ab.size,⟨#[]⟩,0):=by
 have hpl:¬(ofV (16:Int)).1.2.2.2.2.2=true:=cj;unfold efD;rw[if_neg hpl,if_neg ae,if_neg ae,if_neg ae,if_neg ae,if_neg ae,if_neg ae,if_neg ae,if_pos rfl,if_neg ae]
theorem UB(m:MM)(LO:BAz)(xs:List Inx)(Q:BAz)(pc:Nat)(a:Int)(l:LIz)(h:3<=ab.size):efD m LO xs Q pc 17 a l ab=(ab.extract (ab.size-2) (ab.size-1)++ab.extract (ab.size-2) (ab.size-1)++wT,ab.extract (ab.size-2) (ab.size-1),0):=by
 have hpl:¬(ofV (17:Int)).1.2.2.2.2.2=true:=cj;unfold efD;rw[if_neg hpl,if_neg ae,if_neg ae,if_neg ae,if_neg ae,if_neg ae,if_neg ae,if_neg ae,if_neg ae,if_pos rfl,if_neg ae]
theorem Ur(H:AgH m lo xs R n j LO)(hc:opF xs j=16):Ag m lo xs R n j (efD m LO xs R j (opF xs j) (xs.getD j dx).a (xs.getD j dx).l ((stA m lo xs R n j).st.extract (aT (stA m lo xs R n j)).B.size (stA m lo xs R n j).st.size)):=by
 have h:=H.rw hc;have hs:=ku (m:=m) (lo:=lo) (R:=R) (n:=n) hc;have hb:=H.b;have q:=kH ae ae ae ae ae ae ae ae ae ae h;have qe:=ie ae ae ae ae ae ae ae ae ae ae h;rw[kC ae ae ae ae ae ae ae ae ae ae]at hs;rw[hc];rw[QY.1]at qe;rw[QY.2]at q hs;have hpos:=zE qe;rw[SF hpos]at q hs;rw[qZ]at hs;simp only[LX]at hpos q hs;rw[TY m LO xs R j _ _ hpos];exact tF hb (c:=0) (a:=0) cz q.1 q.2 hs
theorem Uj(H:AgH m lo xs R n j LO)(hc:opF xs j=17):Ag m lo xs R n j (efD m LO xs R j (opF xs j) (xs.getD j dx).a (xs.getD j dx).l ((stA m lo xs R n j).st.extract (aT (stA m lo xs R n j)).B.size (stA m lo xs R n j).st.size)):=by
 have h:=H.rw hc;have hs:=ku (m:=m) (lo:=lo) (R:=R) (n:=n) hc;have hb:=H.b;have q:=kH ae ae ae ae ae ae ae ae ae ae h;have qe:=ie ae ae ae ae ae ae ae ae ae ae h;rw[kC ae ae ae ae ae ae ae ae ae ae]at hs;rw[hc];rw[QN.1]at qe;rw[QN.2]at q hs;have hpos:=zE qe;rw[TD hpos]at q hs;have h3:=(Gg (nZ q.1)).1
 have h3':3<=((fI (fP (stA m lo xs R n j) j)).st.extract (aT (stA m lo xs R n j)).B.size (fI (fP (stA m lo xs R n j) j)).st.size).size:=by
  generalize (fI (fP (stA m lo xs R n j) j)).st.extract (aT (stA m lo xs R n j)).B.size (fI (fP (stA m lo xs R n j) j)).st.size=ab at *;have h1:(ab.extract (ab.size-2) (ab.size-1)).size=1:=ij;rw[cV,cV,h1]at h3;have:(⟨#[119]⟩:BAz).size=1:=rfl;omega
 rw[qZ]at hs;simp only[LX]at h3' q hs;rw[UB m LO xs R j _ _ h3'];exact tF hb (c:=0) (a:=0) cz q.1 q.2 hs
theorem Uv(H:AgH m lo xs R n j LO)(hc:opF xs j=18):Ag m lo xs R n j (efD m LO xs R j (opF xs j) (xs.getD j dx).a (xs.getD j dx).l ((stA m lo xs R n j).st.extract (aT (stA m lo xs R n j)).B.size (stA m lo xs R n j).st.size)):=by
 have h:=H.rw hc;have hs:=ku (m:=m) (lo:=lo) (R:=R) (n:=n) hc;have hb:=H.b;have hz:=H.z;have q:=kH ae ae ae ae ae ae ae ae ae ae h;have qe:=ie ae ae ae ae ae ae ae ae ae ae h;rw[kC ae ae ae ae ae ae ae ae ae ae]at hs;rw[hc];have hpl:¬(ofV (18:Int)).1.2.2.2.2.2=true:=cj;unfold efD;rw[if_neg hpl];(iterate 9 rewrite [if_neg ae]);rw[if_pos ae];unfold efE at qe;(iterate 4 rewrite [if_neg ae]at qe);rw[if_pos ae]at qe;unfold efV at q hs;rw[if_neg ae,if_neg ae,if_neg ae,if_neg ae,if_pos ae]at q hs;have hlen:lo.length=LO.size:=vd;have qi:=fQ qe;rw[hlen]at qi;obtain⟨i,hi⟩:∃i:Nat,(xs.getD j dx).a=(i:Int):=⟨(xs.getD j dx).a.toNat,ae⟩;have hil:i<LO.size:=ae
 have hm:lo.getD i 0∈lo:=by
  exact xJ
 have e1:LO.extract i (i+1)=ltr (lo.getD i 0):=by
  exact vZ
 have e:ltD m LO 18 (xs.getD j dx).a=(ltr (lo.getD i 0),0):=by
  exact vk
 exact uO
theorem UU(H:AgH m lo xs R n j LO)(hc:opF xs j=19):Ag m lo xs R n j (efD m LO xs R j (opF xs j) (xs.getD j dx).a (xs.getD j dx).l ((stA m lo xs R n j).st.extract (aT (stA m lo xs R n j)).B.size (stA m lo xs R n j).st.size)):=by
 have h:=H.rw hc;have hs:=ku (m:=m) (lo:=lo) (R:=R) (n:=n) hc;have hb:=H.b;have hz:=H.z;have q:=kH ae ae ae ae ae ae ae ae ae ae h;have qe:=ie ae ae ae ae ae ae ae ae ae ae h;rw[kC ae ae ae ae ae ae ae ae ae ae]at hs;rw[hc];have hpl:¬(ofV (19:Int)).1.2.2.2.2.2=true:=cj;unfold efD;rw[if_neg hpl];(iterate 11 rw[if_neg ae]);unfold efE at qe;(iterate 4 rewrite [if_neg ae]at qe);rw[if_pos ae]at qe;unfold efV at q hs;rw[if_neg ae,if_neg ae,if_neg ae,if_neg ae,if_pos ae]at q hs;have hlen:lo.length=LO.size:=vd;have qi:=fQ qe;rw[hlen]at qi;obtain⟨i,hi⟩:∃i:Nat,(xs.getD j dx).a=(i:Int):=⟨(xs.getD j dx).a.toNat,ae⟩;have hil:i<LO.size:=ae
 have hm:lo.getD i 0∈lo:=by
  exact xJ
 have e1:LO.extract i (i+1)=ltr (lo.getD i 0):=by
  exact vZ
 have e:ltD m LO 19 (xs.getD j dx).a=(ltr (lo.getD i 0),0):=by
  exact vk
 exact uO
theorem Us(H:AgH m lo xs R n j LO)(hc:opF xs j=20):Ag m lo xs R n j (efD m LO xs R j (opF xs j) (xs.getD j dx).a (xs.getD j dx).l ((stA m lo xs R n j).st.extract (aT (stA m lo xs R n j)).B.size (stA m lo xs R n j).st.size)):=by
 have h:=H.rw hc;have hs:=ku (m:=m) (lo:=lo) (R:=R) (n:=n) hc;have hb:=H.b;have hz:=H.z;have q:=kH ae ae ae ae ae ae ae ae ae ae h;have qe:=ie ae ae ae ae ae ae ae ae ae ae h;rw[kC ae ae ae ae ae ae ae ae ae ae]at hs;rw[hc];have hpl:¬(ofV (20:Int)).1.2.2.2.2.2=true:=cj;unfold efD;rw[if_neg hpl];(iterate 10 rewrite [if_neg ae]);rw[if_pos rfl];unfold efE at qe;(iterate 4 rewrite [if_neg ae]at qe);rw[if_pos ae]at qe;unfold efV at q hs;rw[if_neg ae,if_neg ae,if_neg ae,if_neg ae,if_pos ae]at q hs;have hlen:lo.length=LO.size:=vd;have qi:=fQ qe;rw[hlen]at qi;obtain⟨i,hi⟩:∃i:Nat,(xs.getD j dx).a=(i:Int):=⟨(xs.getD j dx).a.toNat,ae⟩;have hil:i<LO.size:=ae
 have hm:lo.getD i 0∈lo:=by
  exact xJ
 have e1:LO.extract i (i+1)=ltr (lo.getD i 0):=by
  exact vZ
 have e:ltD m LO 20 (xs.getD j dx).a=(ltr (lo.getD i 0),0):=by
  exact vk
 exact uO
theorem UK(H:AgH m lo xs R n j LO)(hc:opF xs j=21):Ag m lo xs R n j (efD m LO xs R j (opF xs j) (xs.getD j dx).a (xs.getD j dx).l ((stA m lo xs R n j).st.extract (aT (stA m lo xs R n j)).B.size (stA m lo xs R n j).st.size)):=by
 have h:=H.rw hc;have hs:=ku (m:=m) (lo:=lo) (R:=R) (n:=n) hc;have hb:=H.b;have hz:=H.z;have q:=kH ae ae ae ae ae ae ae ae ae ae h;have qe:=ie ae ae ae ae ae ae ae ae ae ae h;rw[kC ae ae ae ae ae ae ae ae ae ae]at hs;rw[hc];have hpl:¬(ofV (21:Int)).1.2.2.2.2.2=true:=cj;unfold efD;rw[if_neg hpl];(iterate 9 rewrite [if_neg ae]);rw[if_pos ae];unfold efE at qe;(iterate 5 rewrite [if_neg ae]at qe);rw[if_pos ae]at qe;unfold efV at q hs;rw[if_neg ae,if_neg ae,if_neg ae,if_neg ae,if_neg ae,if_pos ae]at q hs;obtain⟨qe,qm⟩:=aI qe;have qi:=fQ qe;obtain⟨i,hi⟩:∃i:Nat,(xs.getD j dx).a=(i:Int):=⟨(xs.getD j dx).a.toNat,ae⟩
 have e1:strOfNums [glC m (xs.getD j dx).a]=ltr (glC m (xs.getD j dx).a):=Lx (by rw[hi]; exact H.g i ae)
 have e:ltD m LO 21 (xs.getD j dx).a=(ltr (glC m (xs.getD j dx).a),0):=by
  unfold ltD;rw[if_neg ae,if_pos qi,if_neg,e1];rintro⟨h22,hm⟩;rw[hm]at qm;omega
 exact EQ
theorem TJ(H:AgH m lo xs R n j LO)(hc:opF xs j=22):Ag m lo xs R n j (efD m LO xs R j (opF xs j) (xs.getD j dx).a (xs.getD j dx).l ((stA m lo xs R n j).st.extract (aT (stA m lo xs R n j)).B.size (stA m lo xs R n j).st.size)):=by
 have h:=H.rw hc;have hs:=ku (m:=m) (lo:=lo) (R:=R) (n:=n) hc;have hb:=H.b;have hz:=H.z;have q:=kH ae ae ae ae ae ae ae ae ae ae h;have qe:=ie ae ae ae ae ae ae ae ae ae ae h;rw[kC ae ae ae ae ae ae ae ae ae ae]at hs;rw[hc];have hpl:¬(ofV (22:Int)).1.2.2.2.2.2=true:=cj;unfold efD;rw[if_neg hpl];(iterate 11 rw[if_neg ae]);unfold efE at qe;(iterate 5 rewrite [if_neg ae]at qe);rw[if_pos ae]at qe;unfold efV at q hs;rw[if_neg ae,if_neg ae,if_neg ae,if_neg ae,if_neg ae,if_pos ae]at q hs;obtain⟨qe,qm⟩:=aI qe;have qi:=fQ qe;obtain⟨i,hi⟩:∃i:Nat,(xs.getD j dx).a=(i:Int):=⟨(xs.getD j dx).a.toNat,ae⟩
 have e1:strOfNums [glC m (xs.getD j dx).a]=ltr (glC m (xs.getD j dx).a):=Lx (by rw[hi]; exact H.g i ae)
 have e:ltD m LO 22 (xs.getD j dx).a=(ltr (glC m (xs.getD j dx).a),0):=by
  unfold ltD;rw[if_neg ae,if_pos qi,if_neg,e1];rintro⟨h22,hm⟩;rw[hm]at qm;rw[if_neg aw]at qm; cases qm
 exact EQ
theorem Ry(H:AgH m lo xs R n j LO)(h0:0<=opF xs j)(h1:opF xs j<=255)(hk:(ofV (opF xs j)).2=true)(h5:opF xs j≠5)(h6:opF xs j≠6):Ag m lo xs R n j (efD m LO xs R j (opF xs j) (xs.getD j dx).a (xs.getD j dx).l ((stA m lo xs R n j).st.extract (aT (stA m lo xs R n j)).B.size (stA m lo xs R n j).st.size)):=by
 by_cases hpl:(ofV (opF xs j)).1.2.2.2.2.2=true
 ·exact LA H h0 h1 hpl
 obtain⟨k,hkc⟩:∃k:Nat,opF xs j=(k:Int):=⟨(opF xs j).toNat,ae⟩;have hin:=(wI k ae).2 (by rw[<- hkc]; exact hk) (by rw[<- hkc]; simpa using hpl);clear hpl hk;simp only[List.mem_cons,List.not_mem_nil,or_false]at hin
 rcases hin with e | e | e | e | e | e | e | e | e | e | e | e | e | e | e | e | e | e | e
 ·exact Vx H ae
 ·exact U1 H ae
 ·exact U3 H ae
 ·exact U2 H ae
 ·exact absurd ae h5
 ·exact absurd ae h6
 ·exact VD H ae
 ·exact VB H ae
 ·exact VC H ae
 ·exact TK H ae
 ·exact Ue H ae
 ·exact TU H ae
 ·exact Ur H ae
 ·exact Uj H ae
 ·exact Uv H ae
 ·exact UU H ae
 ·exact Us H ae
 ·exact UK H ae
 exact TJ H ae
end
structure Wx(g:Wg)(w:World):Prop where
 wf:Wf g w
 ho:m9 w g.m.ha g.m.hn g.m.hosts
 hn:g.m.hn<=1000000
 hq:∀(a:Nat)z,g.m.hosts[a]? =some z->∃(q:Nat)(p:Sg),z=(q:Int)/\g.m.types[q]? =some p
 fq:∀(a:Nat)fu,g.m.fns[a]? =some fu->∃(q:Nat)(p:Sg),fu.1=(q:Int)/\g.m.types[q]? =some p
 gl:kq w g.m.ga g.m.gn g.m.globals
 gn:g.m.gn<=1000000
 gr:∀(a:Nat)x,g.m.globals[a]? =some x->0<=x.1/\x.1<=255
 tz:∀(q:Nat)p,g.m.types[q]? =some p->p.1.size<=1000/\p.2.size<=1000
 ps:(g.P++g.lo).size<=1000000
 ow:∀j,j<g.cn->g.ow j=top (stk (opF g.xs) j)
 op:∀j,j<g.cn->(ofV (opF g.xs j)).2=true
 ln:∀j,j<g.cn->(g.xs.getD j dx).ln<=100000/\(opF g.xs j=9->0<(g.xs.getD j dx).ln)
variable {g:Wg}{w w':World}
theorem Wx.later(h:Wx g w)(hb:Below w.heap.size w w'):Wx g w' :=
 ⟨h.wf.later hb,h.ho.kept (S:=fun _=>False) (aP hb) (fun _ _ _ _ x=>x),h.hn,h.hq,h.fq,h.gl.kept (S:=fun _=>False) (aP hb) (fun _ _ _ _ x=>x),h.gn,h.gr,h.tz,h.ps,h.ow,h.op,h.ln⟩
variable {m:MM}{q:Nat}{p:Sg}
theorem nR(h:m.types[q]? =some p):bS m (q:Int)=p:=by
 unfold bS; simp[List.getD,h]
variable {x:FuM}
theorem Oj(h:m.fns[q]? =some x):tZ m (q:Int)=x.1:=by
 unfold tZ; simp[h]
theorem Fs(ow:NIz):∀(k:Nat)(o:Int),mI ow k o=qp ow k o
 | 0,o=>rfl
 | k+1,o=>by
  show(if o<0 then _ else _)=(if o<0 then _ else _);rw[Fs ow k]
theorem uC(h:Wx g w){pc:Nat}(hp:pc<g.cn)(n:Int):lbO g pc n=lbD g.xs pc n:=by
 unfold lbO lbD;rw[h.ow pc hp]
 by_cases hn:n<0
 ·rw[if_pos hn,if_pos hn]
 rw[if_neg hn,if_neg hn,Fs,Ah h.ow _ _ hp]
 by_cases hk:n.toNat<=(stk (opF g.xs) pc).length
 ·rw[if_pos hk,decide_eq_true hk]; rfl
 rw[if_neg hk,decide_eq_false hk,List.drop_eq_nil_iff.2 ae];simp[top]; omega
def OpT(g:Wg)(pc:Nat):Prop:=∀t∈stk (opF g.xs) pc,∃(q:Nat)(p:Sg),(g.xs.getD t dx).a=(q:Int)/\g.m.types[q]? =some p
theorem rh{pc:Nat}(hp:pc<g.cn)(ht:OpT g pc)(l:List Nat)(hl:∀t∈l,t∈stk (opF g.xs) pc):OpO g (top l) (dTy g.m g.xs g.Q (top l)):=by
 cases l with
 | nil=>exact .inl ⟨rfl,rfl⟩
 | cons t r =>
  have hm:=hl t (List.mem_cons_self);obtain⟨q,p,h1,h2⟩:=ht t hm;have hlt:=(jh _ _ _ hm).1;refine .inr ⟨t,q,rfl,ae,h1,?_⟩
  have e:dTy g.m g.xs g.Q (top (t::r))=p:=by
   show(if ((t:Nat):Int)<0 then _ else _)=p;rw[if_neg ae,show(top (t::r)).toNat=t from Int.toNat_natCast t,h1,nR h2]
  rw[e]; exact h2
theorem Be{pc:Nat}(hp:pc<g.cn)(ht:OpT g pc)(n:Int):OpO g (lbD g.xs pc n).1 (dTy g.m g.xs g.Q (lbD g.xs pc n).1):=by
 unfold lbD
 split
 ·exact rh hp ht _ (fun _ h=>h)
 exact rh hp ht _ (fun _ h=>List.mem_of_mem_drop h)
theorem BH(h:Wx g w):OwI g:=fun j hj=>by
 rw[h.ow j hj]
 rcases fF (opF g.xs) j with e | ⟨t,ht,_,e⟩
 ·rw[e]; exact⟨by show(-1:Int)<_; omega,by show(-1:Int)<=-1; omega⟩
 rw[e]; exact⟨by show((t:Nat):Int)<_; omega,by show(-1:Int)<=((t:Nat):Int); omega⟩
theorem Uk(o:Int):brF g o (dTy g.m g.xs g.Q o)=dBr g.m g.xs g.Q o:=rfl
variable {o:Int}
theorem MW(h:Wx g w)(H:OpO g o (dTy g.m g.xs g.Q o)):(dBr g.m g.xs g.Q o).size<=1000:=by
 have hQ:=(h.tz _ _ h.wf.tq).2
 have:(dTy g.m g.xs g.Q o).1.size<=1000/\(dTy g.m g.xs g.Q o).2.size<=1000:=by
  rcases H with ⟨rfl,e⟩ | ⟨j,q,_,_,_,e⟩
  ·rw[e]; exact⟨Nat.zero_le _,hQ⟩
  exact h.tz _ _ e
 unfold dBr
 split
 ·exact this.1
 exact this.2
theorem vL(h:Wx g w){pc:Nat}(hp:pc<g.cn)(ht:OpT g pc) :
  Calls prog 78 #[.pointer (some ⟨g.WB,0,none⟩),.int .i64 pc,eK g pc] w fun e w'=>e=.returned (.tuple #[.string (lsD g.m g.xs g.Q pc (opF g.xs pc) (g.xs.getD pc dx).a (g.xs.getD pc dx).l).1,.int .i64 (lsD g.m g.xs g.Q pc (opF g.xs pc) (g.xs.getD pc dx).a (g.xs.getD pc dx).l).2])/\Below w.heap.size w w':=by
 have hin:=h.wf.cod.2 pc hp;have ha:(g.xs.getD pc dx).a<=9223372036854775807:=hin.2.2.2.2.2.2.1
 by_cases hc:opF g.xs pc=9
 ·have hln:=h.ln pc hp;have hsg:=hin.2.2.2.2.2.2.2.2 hln.1
  obtain⟨b,off,hla,hcl⟩:=hsg.2.2.2.2.resolve_left (by have:=hln.2 hc; omega);have G:=IE g w h.wf (BH h) hp (g.xs.getD pc dx).a b off (g.xs.getD pc dx).ln (g.xs.getD pc dx).lc (g.xs.getD pc dx).l (dTy g.m g.xs g.Q) hsg.1 (hln.2 hc) ae hcl (fun n hn=>(hsg.2.2.2.1 n hn).2) (fun n hn _=>by rw[uC h hp]; exact Be hp ht n)
  have e:uY g (dTy g.m g.xs g.Q) pc (g.xs.getD pc dx).l=.tuple #[.string (lsD g.m g.xs g.Q pc 9 (g.xs.getD pc dx).a (g.xs.getD pc dx).l).1,.int .i64 (lsD g.m g.xs g.Q pc 9 (g.xs.getD pc dx).a (g.xs.getD pc dx).l).2]:=by
   unfold uY lsD brN;simp only[uC h hp,Uk];rw[if_neg (show ¬((9:Int)≠9) by omega)]
   split
   ·rfl
   split
   ·rfl
   rfl
  rw[e,<- hla]at G;unfold eK;rw[hc];exact G
 have e9:lsD g.m g.xs g.Q pc (opF g.xs pc) (g.xs.getD pc dx).a (g.xs.getD pc dx).l=if (lbD g.xs pc (g.xs.getD pc dx).a).2=true then (dBr g.m g.xs g.Q (lbD g.xs pc (g.xs.getD pc dx).a).1,0) else (⟨#[]⟩,31):=by unfold lsD; rw[if_pos hc]
 rw[e9]
 by_cases hb:(lbD g.xs pc (g.xs.getD pc dx).a).2=true
 ·rw[if_pos hb]
  have G:=JK g w h.wf (BH h) hp (opF g.xs pc) (g.xs.getD pc dx).a (.slice (g.xs.getD pc dx).la (g.xs.getD pc dx).ln (g.xs.getD pc dx).lc) ha hc (by rw[uC h hp]; exact hb) (p:=dTy g.m g.xs g.Q (lbD g.xs pc (g.xs.getD pc dx).a).1) (by rw[uC h hp]; exact Be hp ht _);rw[uC h hp,Uk]at G;exact G
 rw[if_neg hb];exact Kh g w h.wf (BH h) hp (opF g.xs pc) (g.xs.getD pc dx).a (.slice (g.xs.getD pc dx).la (g.xs.getD pc dx).ln (g.xs.getD pc dx).lc) ha hc (by rw[uC h hp]; simpa using hb)
theorem sP(h:Wx g w){pc:Nat}(hp:pc<g.cn)(ht:OpT g pc)(c a:Int)(l:LIz):(lsD g.m g.xs g.Q pc c a l).1.size<=1000:=by
 have k:=fun n=>MW h (Be hp ht n);unfold lsD
 split
 ·split
  ·exact k _
  exact Nat.zero_le _
 split
 ·exact Nat.zero_le _
 split
 ·exact Nat.zero_le _
 exact k _
theorem nW(h:Wx g w){pc:Nat}(hp:pc<g.cn)(hc:opF g.xs pc=18\/opF g.xs pc=19\/opF g.xs pc=20\/opF g.xs pc=21\/opF g.xs pc=22) :
  Calls prog 79 #[.pointer (some ⟨g.WB,0,none⟩),eK g pc] w fun e w'=>e=.returned (.tuple #[.string (ltD g.m (g.P++g.lo) (opF g.xs pc) (g.xs.getD pc dx).a).1,.int .i64 (ltD g.m (g.P++g.lo) (opF g.xs pc) (g.xs.getD pc dx).a).2])/\Below w.heap.size w w':=by
 unfold eK;generalize hL:Value.slice (g.xs.getD pc dx).la (g.xs.getD pc dx).ln (g.xs.getD pc dx).lc=L;generalize (g.xs.getD pc dx).a=a
 by_cases hl:opF g.xs pc=18\/opF g.xs pc=19\/opF g.xs pc=20
 ·have ht:tkV (opF g.xs pc)=6:=by
   rcases hl with e | e | e <;> rw[e] <;> decide +kernel
  have e0:ltD g.m (g.P++g.lo) (opF g.xs pc) a=if 0<=a/\a<((g.P++g.lo).size:Int) then ((g.P++g.lo).extract a.toNat (a.toNat+1),0) else (⟨#[]⟩,30):=by unfold ltD; rw[if_pos hl]
  rw[e0]
  by_cases ha:0<=a/\a<((g.P++g.lo).size:Int)
  ·rw[if_pos ha];obtain⟨k,rfl⟩:∃k:Nat,a=k:=⟨a.toNat,ae⟩;rw[Int.toNat_natCast];exact JR g w h.wf (opF g.xs pc) k L ae ae ht ae h.ps
  rw[if_neg ha];exact N7 g w h.wf (opF g.xs pc) a L ae ae ht ha
 have hl':opF g.xs pc=21\/opF g.xs pc=22:=ae
 have ht:tkV (opF g.xs pc)≠6:=by
  rcases hl' with e | e <;> rw[e] <;> decide +kernel
 have e0:ltD g.m (g.P++g.lo) (opF g.xs pc) a=if 0<=a/\a<(g.m.gn:Int) then (if opF g.xs pc=22/\glM g.m a=false then (⟨#[]⟩,39) else (strOfNums [glC g.m a],0)) else (⟨#[]⟩,30):=by unfold ltD; rw[if_neg hl]
 rw[e0]
 by_cases ha:0<=a/\a<(g.m.gn:Int)
 ·rw[if_pos ha];obtain⟨k,rfl⟩:∃k:Nat,a=k:=⟨a.toNat,ae⟩
  obtain⟨x,hx⟩:∃x,g.m.globals[k]? =some x:=⟨_,aY (by have:=h.gl.1; omega)⟩;have G:=DI g w h.wf h.gl h.gn (opF g.xs pc) k L ae ae ht hx (h.gr k x hx)
  have e1:glM g.m (k:Int)=x.2.1:=by unfold glM; simp[hx]
  have e2:glC g.m (k:Int)=x.1:=by unfold glC; simp[hx]
  rw[e1,e2];unfold ltG at G
  split at G
  ·rw[if_pos bJ]; exact G
  rw[if_neg bJ]; exact G
 rw[if_neg ha];exact JN g w h.wf (opF g.xs pc) a L ae ae ht ha
theorem Mw(h:Wx g w)(c a:Int)(L:Value)(h0:0<=c)(h1:c<=255)(ht:tkV c≠4/\tkV c≠5) :
  (∃p,(if 0<=a/\a<(g.m.tn:Int) then some (bS g.m a) else none)=some p/\(∃q:Nat,a=q/\g.m.types[q]? =some p)/\∀W,Below w.heap.size w W->Calls prog 77 #[.pointer (some ⟨g.WB,0,none⟩),.agg #[.int .u8 c,.int .i64 a,L]] W fun e w'=>e=.returned (.tuple #[.agg #[.string p.1,.string p.2],.bool true])/\Below W.heap.size W w') \/
  ((if 0<=a/\a<(g.m.tn:Int) then some (bS g.m a) else none)=none/\∀W,Below w.heap.size w W->Calls prog 77 #[.pointer (some ⟨g.WB,0,none⟩),.agg #[.int .u8 c,.int .i64 a,L]] W fun e w'=>e=.returned (.tuple #[.agg #[.string ⟨#[]⟩,.string ⟨#[]⟩],.bool false])/\Below W.heap.size W w'):=by
 by_cases ha:0<=a/\a<(g.m.tn:Int)
 ·obtain⟨k,rfl⟩:∃k:Nat,a=k:=⟨a.toNat,ae⟩
  obtain⟨p,hp⟩:∃p,g.m.types[k]? =some p:=⟨_,aY (by have:=h.wf.tyl; omega)⟩;exact .inl ⟨p,by rw[if_pos ha,nR hp],⟨k,rfl,hp⟩,fun W hW=>Cv g W (h.later hW).wf c k L h0 h1 ht hp⟩
 exact .inr ⟨if_neg ha,fun W hW=>Hq g W (h.later hW).wf c a L h0 h1 ht ha⟩
theorem TZ(h:Wx g w)(c a:Int)(L:Value)(h0:0<=c)(h1:c<=255)(ht:tkV c=4) :
  (∃p,(if 0<=a/\a<(g.m.fn:Int) then some (bS g.m (tZ g.m a)) else none)=some p/\(∃q:Nat,g.m.types[q]? =some p)/\∀W,Below w.heap.size w W->Calls prog 77 #[.pointer (some ⟨g.WB,0,none⟩),.agg #[.int .u8 c,.int .i64 a,L]] W fun e w'=>e=.returned (.tuple #[.agg #[.string p.1,.string p.2],.bool true])/\Below W.heap.size W w') \/
  ((if 0<=a/\a<(g.m.fn:Int) then some (bS g.m (tZ g.m a)) else none)=none/\∀W,Below w.heap.size w W->Calls prog 77 #[.pointer (some ⟨g.WB,0,none⟩),.agg #[.int .u8 c,.int .i64 a,L]] W fun e w'=>e=.returned (.tuple #[.agg #[.string ⟨#[]⟩,.string ⟨#[]⟩],.bool false])/\Below W.heap.size W w'):=by
 by_cases ha:0<=a/\a<(g.m.fn:Int)
 ·obtain⟨k,rfl⟩:∃k:Nat,a=k:=⟨a.toNat,ae⟩
  obtain⟨x,hx⟩:∃x,g.m.fns[k]? =some x:=⟨_,aY (by have:=h.wf.ful; omega)⟩;obtain⟨q,p,h2,h3⟩:=h.fq k x hx;exact .inl ⟨p,by rw[if_pos ha,Oj hx,h2,nR h3],⟨q,h3⟩,fun W hW=>DN g W (h.later hW).wf c k L h0 h1 ht hx h2 h3⟩
 exact .inr ⟨if_neg ha,fun W hW=>JD g W (h.later hW).wf c a L h0 h1 ht ha⟩
theorem UH(h:Wx g w)(c a:Int)(L:Value)(h0:0<=c)(h1:c<=255)(ht:tkV c=5) :
  (∃p,(if 0<=a/\a<(g.m.hn:Int) then some (bS g.m (g.m.hosts.getD a.toNat 0)) else none)=some p/\(∃q:Nat,g.m.types[q]? =some p)/\∀W,Below w.heap.size w W->Calls prog 77 #[.pointer (some ⟨g.WB,0,none⟩),.agg #[.int .u8 c,.int .i64 a,L]] W fun e w'=>e=.returned (.tuple #[.agg #[.string p.1,.string p.2],.bool true])/\Below W.heap.size W w') \/
  ((if 0<=a/\a<(g.m.hn:Int) then some (bS g.m (g.m.hosts.getD a.toNat 0)) else none)=none/\∀W,Below w.heap.size w W->Calls prog 77 #[.pointer (some ⟨g.WB,0,none⟩),.agg #[.int .u8 c,.int .i64 a,L]] W fun e w'=>e=.returned (.tuple #[.agg #[.string ⟨#[]⟩,.string ⟨#[]⟩],.bool false])/\Below W.heap.size W w'):=by
 by_cases ha:0<=a/\a<(g.m.hn:Int)
 ·obtain⟨k,rfl⟩:∃k:Nat,a=k:=⟨a.toNat,ae⟩
  obtain⟨x,hx⟩:∃x,g.m.hosts[k]? =some x:=⟨_,aY (by have:=h.ho.1; omega)⟩;obtain⟨q,p,rfl,h3⟩:=h.hq k x hx
  have e:g.m.hosts.getD k 0=(q:Int):=by simp[List.getD,hx]
  exact .inl ⟨p,by rw[if_pos ha,Int.toNat_natCast,e,nR h3],⟨q,h3⟩,fun W hW=>CH g W (h.later hW).wf c k L h0 h1 ht (h.later hW).ho h.hn hx h3⟩
 exact .inr ⟨if_neg ha,fun W hW=>Io g W (h.later hW).wf c a L h0 h1 ht ha⟩
structure EfP(g:Wg)(pc:Nat)(E:ByteArray×ByteArray×Int):Prop where
 s1:E.1.size<=1000000
 s2:E.2.1.size<=1000000
 op:E.2.2=0->isO (opF g.xs pc)=true->(∃(q:Nat)(p:Sg),(g.xs.getD pc dx).a=(q:Int)/\g.m.types[q]? =some p)
theorem EfP.mk'{pc:Nat}{E:ByteArray×ByteArray×Int}(h1:E.1.size<=1000000)(h2:E.2.1.size<=1000000)(h3:isO (opF g.xs pc)=false):EfP g pc E:=⟨h1,h2,fun _ h=>by rw[h3]at h; cases h⟩
variable {a b:BAz}{k l:Nat}
theorem DD(h1:a.size<=k)(h2:b.size<=l):(a++b).size<=k+l:=by rw[cV]; omega
section
variable {g:Wg} {w:World} {pc:Nat} {ab:BAz}
theorem Jg(h:Wx g w)(hp:pc<g.cn)(ht:OpT g pc)(hab:ab.size<=1000000)(hpl:(ofV (opF g.xs pc)).1.2.2.2.2.2=true)(hO:isO (opF g.xs pc)=false):dw g w pc ab (efD g.m (g.P++g.lo) g.xs g.Q pc (opF g.xs pc) (g.xs.getD pc dx).a (g.xs.getD pc dx).l ab).1 (efD g.m (g.P++g.lo) g.xs g.Q pc (opF g.xs pc) (g.xs.getD pc dx).a (g.xs.getD pc dx).l ab).2.1 (efD g.m (g.P++g.lo) g.xs g.Q pc (opF g.xs pc) (g.xs.getD pc dx).a (g.xs.getD pc dx).l ab).2.2/\EfP g pc (efD g.m (g.P++g.lo) g.xs g.Q pc (opF g.xs pc) (g.xs.getD pc dx).a (g.xs.getD pc dx).l ab):=by
 have hin:=h.wf.cod.2 pc hp;have hz:=of_le (c:=opF g.xs pc) hin.2.2.2.1 hin.2.2.2.2.1;unfold dw eK efD;rw[if_pos hpl];exact⟨fun W hW=>zh g W (h.later hW).wf pc (opF g.xs pc) hin.2.2.2.1 hin.2.2.2.2.1 _ _ ab hpl,.mk' (by have:=hz.1; show(ofV _).1.2.2.2.1.size<=_; omega) (by have:=hz.2; show(ofV _).1.2.2.2.2.1.size<=_; omega) hO⟩
theorem UL(h:Wx g w)(hp:pc<g.cn)(ht:OpT g pc)(hab:ab.size<=1000000)(hc:opF g.xs pc=0):dw g w pc ab (efD g.m (g.P++g.lo) g.xs g.Q pc (opF g.xs pc) (g.xs.getD pc dx).a (g.xs.getD pc dx).l ab).1 (efD g.m (g.P++g.lo) g.xs g.Q pc (opF g.xs pc) (g.xs.getD pc dx).a (g.xs.getD pc dx).l ab).2.1 (efD g.m (g.P++g.lo) g.xs g.Q pc (opF g.xs pc) (g.xs.getD pc dx).a (g.xs.getD pc dx).l ab).2.2/\EfP g pc (efD g.m (g.P++g.lo) g.xs g.Q pc (opF g.xs pc) (g.xs.getD pc dx).a (g.xs.getD pc dx).l ab):=by
 have hpl:¬(ofV (0:Int)).1.2.2.2.2.2=true:=cj;unfold dw eK efD;rw[hc,if_neg hpl,if_pos ae];exact⟨fun W hW=>Qp g W (h.later hW).wf pc _ _ ab,.mk' (Nat.zero_le _) (Nat.zero_le _) cz⟩
theorem TP(h:Wx g w)(hp:pc<g.cn)(ht:OpT g pc)(hab:ab.size<=1000000)(hc:opF g.xs pc=2):dw g w pc ab (efD g.m (g.P++g.lo) g.xs g.Q pc (opF g.xs pc) (g.xs.getD pc dx).a (g.xs.getD pc dx).l ab).1 (efD g.m (g.P++g.lo) g.xs g.Q pc (opF g.xs pc) (g.xs.getD pc dx).a (g.xs.getD pc dx).l ab).2.1 (efD g.m (g.P++g.lo) g.xs g.Q pc (opF g.xs pc) (g.xs.getD pc dx).a (g.xs.getD pc dx).l ab).2.2/\EfP g pc (efD g.m (g.P++g.lo) g.xs g.Q pc (opF g.xs pc) (g.xs.getD pc dx).a (g.xs.getD pc dx).l ab):=by
 have hpl:¬(ofV (2:Int)).1.2.2.2.2.2=true:=cj;unfold dw eK efD;rw[hc,if_neg hpl,if_neg ae,if_pos ae];have e:tyD g.m 2 (g.xs.getD pc dx).a=if 0<=(g.xs.getD pc dx).a/\(g.xs.getD pc dx).a<(g.m.tn:Int) then some (bS g.m (g.xs.getD pc dx).a) else none:=vS;rw[e]
 rcases Mw h 2 (g.xs.getD pc dx).a (.slice (g.xs.getD pc dx).la (g.xs.getD pc dx).ln (g.xs.getD pc dx).lc) ae ae cj with ⟨p,e1,⟨q,hq1,hq2⟩,H⟩ | ⟨e1,H⟩
 ·rw[e1];have hz:=h.tz _ _ hq2
  exact⟨fun W hW=>OT g W (h.later hW).wf pc _ _ ab (fun V hV=>H V (hW.trans (hV.mono hW.size))),na,na,fun _ _=>⟨q,p,hq1,hq2⟩⟩
 rw[e1];exact⟨fun W hW=>Ik g W (h.later hW).wf pc _ _ ab (fun V hV=>H V (hW.trans (hV.mono hW.size))),Nat.zero_le _,Nat.zero_le _,fun x=>mA⟩
theorem UA(h:Wx g w)(hp:pc<g.cn)(ht:OpT g pc)(hab:ab.size<=1000000)(hc:opF g.xs pc=3):dw g w pc ab (efD g.m (g.P++g.lo) g.xs g.Q pc (opF g.xs pc) (g.xs.getD pc dx).a (g.xs.getD pc dx).l ab).1 (efD g.m (g.P++g.lo) g.xs g.Q pc (opF g.xs pc) (g.xs.getD pc dx).a (g.xs.getD pc dx).l ab).2.1 (efD g.m (g.P++g.lo) g.xs g.Q pc (opF g.xs pc) (g.xs.getD pc dx).a (g.xs.getD pc dx).l ab).2.2/\EfP g pc (efD g.m (g.P++g.lo) g.xs g.Q pc (opF g.xs pc) (g.xs.getD pc dx).a (g.xs.getD pc dx).l ab):=by
 have hpl:¬(ofV (3:Int)).1.2.2.2.2.2=true:=cj;unfold dw eK efD;rw[hc,if_neg hpl,if_neg ae,if_pos ae];have e:tyD g.m 3 (g.xs.getD pc dx).a=if 0<=(g.xs.getD pc dx).a/\(g.xs.getD pc dx).a<(g.m.tn:Int) then some (bS g.m (g.xs.getD pc dx).a) else none:=vS;rw[e]
 rcases Mw h 3 (g.xs.getD pc dx).a (.slice (g.xs.getD pc dx).la (g.xs.getD pc dx).ln (g.xs.getD pc dx).lc) ae ae cj with ⟨p,e1,⟨q,hq1,hq2⟩,H⟩ | ⟨e1,H⟩
 ·rw[e1];have hz:=h.tz _ _ hq2
  exact⟨fun W hW=>Pe g W (h.later hW).wf pc _ _ ab (fun V hV=>H V (hW.trans (hV.mono hW.size))),na,na,fun _ _=>⟨q,p,hq1,hq2⟩⟩
 rw[e1];exact⟨fun W hW=>IV g W (h.later hW).wf pc _ _ ab (fun V hV=>H V (hW.trans (hV.mono hW.size))),Nat.zero_le _,Nat.zero_le _,fun x=>mA⟩
theorem UQ(h:Wx g w)(hp:pc<g.cn)(ht:OpT g pc)(hab:ab.size<=1000000)(hc:opF g.xs pc=4):dw g w pc ab (efD g.m (g.P++g.lo) g.xs g.Q pc (opF g.xs pc) (g.xs.getD pc dx).a (g.xs.getD pc dx).l ab).1 (efD g.m (g.P++g.lo) g.xs g.Q pc (opF g.xs pc) (g.xs.getD pc dx).a (g.xs.getD pc dx).l ab).2.1 (efD g.m (g.P++g.lo) g.xs g.Q pc (opF g.xs pc) (g.xs.getD pc dx).a (g.xs.getD pc dx).l ab).2.2/\EfP g pc (efD g.m (g.P++g.lo) g.xs g.Q pc (opF g.xs pc) (g.xs.getD pc dx).a (g.xs.getD pc dx).l ab):=by
 have hpl:¬(ofV (4:Int)).1.2.2.2.2.2=true:=cj;unfold dw eK efD;rw[hc,if_neg hpl,if_neg ae,if_neg ae,if_pos ae];have e:tyD g.m 4 (g.xs.getD pc dx).a=if 0<=(g.xs.getD pc dx).a/\(g.xs.getD pc dx).a<(g.m.tn:Int) then some (bS g.m (g.xs.getD pc dx).a) else none:=vS;rw[e]
 rcases Mw h 4 (g.xs.getD pc dx).a (.slice (g.xs.getD pc dx).la (g.xs.getD pc dx).ln (g.xs.getD pc dx).lc) ae ae cj with ⟨p,e1,⟨q,hq1,hq2⟩,H⟩ | ⟨e1,H⟩
 ·rw[e1];have hz:=h.tz _ _ hq2
  exact⟨fun W hW=>Px g W (h.later hW).wf pc _ _ ab (fun V hV=>H V (hW.trans (hV.mono hW.size))) ae,by have:=DD hz.1 (b:=wT) (l:=1) lRn; show(p.1++wT).size<=_; omega,na,fun _ _=>⟨q,p,hq1,hq2⟩⟩
 rw[e1];exact⟨fun W hW=>Hu g W (h.later hW).wf pc _ _ ab (fun V hV=>H V (hW.trans (hV.mono hW.size))),Nat.zero_le _,Nat.zero_le _,fun x=>mA⟩
theorem Ss(h:Wx g w)(hp:pc<g.cn)(ht:OpT g pc)(hab:ab.size<=1000000)(hc:opF g.xs pc=11):dw g w pc ab (efD g.m (g.P++g.lo) g.xs g.Q pc (opF g.xs pc) (g.xs.getD pc dx).a (g.xs.getD pc dx).l ab).1 (efD g.m (g.P++g.lo) g.xs g.Q pc (opF g.xs pc) (g.xs.getD pc dx).a (g.xs.getD pc dx).l ab).2.1 (efD g.m (g.P++g.lo) g.xs g.Q pc (opF g.xs pc) (g.xs.getD pc dx).a (g.xs.getD pc dx).l ab).2.2/\EfP g pc (efD g.m (g.P++g.lo) g.xs g.Q pc (opF g.xs pc) (g.xs.getD pc dx).a (g.xs.getD pc dx).l ab):=by
 have hpl:¬(ofV (11:Int)).1.2.2.2.2.2=true:=cj;unfold dw eK efD;rw[hc,if_neg hpl,if_neg ae,if_neg ae,if_neg ae,if_pos ae]
 have e:tyD g.m 11 (g.xs.getD pc dx).a=if 0<=(g.xs.getD pc dx).a/\(g.xs.getD pc dx).a<(g.m.fn:Int) then some (bS g.m (tZ g.m (g.xs.getD pc dx).a)) else none:=by unfold tyD; rw[if_pos rfl]
 rw[e]
 rcases TZ h 11 (g.xs.getD pc dx).a (.slice (g.xs.getD pc dx).la (g.xs.getD pc dx).ln (g.xs.getD pc dx).lc) ae ae cj with ⟨p,e1,⟨q,hq2⟩,H⟩ | ⟨e1,H⟩
 ·rw[e1];have hz:=h.tz _ _ hq2
  exact⟨fun W hW=>MN g W (h.later hW).wf pc _ _ ab (fun V hV=>H V (hW.trans (hV.mono hW.size))),.mk' na (by show p.2.size<=_; omega) cz⟩
 rw[e1];exact⟨fun W hW=>CU g W (h.later hW).wf pc _ _ ab (fun V hV=>H V (hW.trans (hV.mono hW.size))),.mk' (Nat.zero_le _) (Nat.zero_le _) cz⟩
theorem Sr(h:Wx g w)(hp:pc<g.cn)(ht:OpT g pc)(hab:ab.size<=1000000)(hc:opF g.xs pc=12):dw g w pc ab (efD g.m (g.P++g.lo) g.xs g.Q pc (opF g.xs pc) (g.xs.getD pc dx).a (g.xs.getD pc dx).l ab).1 (efD g.m (g.P++g.lo) g.xs g.Q pc (opF g.xs pc) (g.xs.getD pc dx).a (g.xs.getD pc dx).l ab).2.1 (efD g.m (g.P++g.lo) g.xs g.Q pc (opF g.xs pc) (g.xs.getD pc dx).a (g.xs.getD pc dx).l ab).2.2/\EfP g pc (efD g.m (g.P++g.lo) g.xs g.Q pc (opF g.xs pc) (g.xs.getD pc dx).a (g.xs.getD pc dx).l ab):=by
 have hpl:¬(ofV (12:Int)).1.2.2.2.2.2=true:=cj;unfold dw eK efD;rw[hc,if_neg hpl,if_neg ae,if_neg ae,if_neg ae,if_pos ae]
 have e:tyD g.m 12 (g.xs.getD pc dx).a=if 0<=(g.xs.getD pc dx).a/\(g.xs.getD pc dx).a<(g.m.hn:Int) then some (bS g.m (g.m.hosts.getD (g.xs.getD pc dx).a.toNat 0)) else none:=by unfold tyD; rw[if_neg ae,if_pos rfl]
 rw[e]
 rcases UH h 12 (g.xs.getD pc dx).a (.slice (g.xs.getD pc dx).la (g.xs.getD pc dx).ln (g.xs.getD pc dx).lc) ae ae cj with ⟨p,e1,⟨q,hq2⟩,H⟩ | ⟨e1,H⟩
 ·rw[e1];have hz:=h.tz _ _ hq2
  exact⟨fun W hW=>NR g W (h.later hW).wf pc _ _ ab (fun V hV=>H V (hW.trans (hV.mono hW.size))),.mk' na (by show p.2.size<=_; omega) cz⟩
 rw[e1];exact⟨fun W hW=>AZ g W (h.later hW).wf pc _ _ ab (fun V hV=>H V (hW.trans (hV.mono hW.size))),.mk' (Nat.zero_le _) (Nat.zero_le _) cz⟩
theorem TW(h:Wx g w)(hp:pc<g.cn)(ht:OpT g pc)(hab:ab.size<=1000000)(hc:opF g.xs pc=7):dw g w pc ab (efD g.m (g.P++g.lo) g.xs g.Q pc (opF g.xs pc) (g.xs.getD pc dx).a (g.xs.getD pc dx).l ab).1 (efD g.m (g.P++g.lo) g.xs g.Q pc (opF g.xs pc) (g.xs.getD pc dx).a (g.xs.getD pc dx).l ab).2.1 (efD g.m (g.P++g.lo) g.xs g.Q pc (opF g.xs pc) (g.xs.getD pc dx).a (g.xs.getD pc dx).l ab).2.2/\EfP g pc (efD g.m (g.P++g.lo) g.xs g.Q pc (opF g.xs pc) (g.xs.getD pc dx).a (g.xs.getD pc dx).l ab):=by
 have HL:=fun W (hW:Below w.heap.size w W)=>vL (h.later hW) hp ht;unfold eK at HL;rw[hc]at HL;have hpl:¬(ofV (7:Int)).1.2.2.2.2.2=true:=cj;unfold dw eK efD;rw[hc,if_neg hpl,if_neg ae,if_neg ae,if_neg ae,if_neg ae,if_pos ae];have hz:=sP h hp ht 7 (g.xs.getD pc dx).a (g.xs.getD pc dx).l;exact⟨fun W hW=>PN g W (h.later hW).wf pc _ _ ab (S:=(lsD g.m g.xs g.Q pc 7 (g.xs.getD pc dx).a (g.xs.getD pc dx).l).1) ae (fun V hV=>HL V (hW.trans (hV.mono hW.size))),.mk' DW DW cz⟩
theorem Um(h:Wx g w)(hp:pc<g.cn)(ht:OpT g pc)(hab:ab.size<=1000000)(hc:opF g.xs pc=8):dw g w pc ab (efD g.m (g.P++g.lo) g.xs g.Q pc (opF g.xs pc) (g.xs.getD pc dx).a (g.xs.getD pc dx).l ab).1 (efD g.m (g.P++g.lo) g.xs g.Q pc (opF g.xs pc) (g.xs.getD pc dx).a (g.xs.getD pc dx).l ab).2.1 (efD g.m (g.P++g.lo) g.xs g.Q pc (opF g.xs pc) (g.xs.getD pc dx).a (g.xs.getD pc dx).l ab).2.2/\EfP g pc (efD g.m (g.P++g.lo) g.xs g.Q pc (opF g.xs pc) (g.xs.getD pc dx).a (g.xs.getD pc dx).l ab):=by
 have HL:=fun W (hW:Below w.heap.size w W)=>vL (h.later hW) hp ht;unfold eK at HL;rw[hc]at HL;have hpl:¬(ofV (8:Int)).1.2.2.2.2.2=true:=cj;unfold dw eK efD;rw[hc,if_neg hpl,if_neg ae,if_neg ae,if_neg ae,if_neg ae,if_neg ae,if_pos ae];have hz:=sP h hp ht 8 (g.xs.getD pc dx).a (g.xs.getD pc dx).l;exact⟨fun W hW=>OG g W (h.later hW).wf pc _ _ ab (S:=(lsD g.m g.xs g.Q pc 8 (g.xs.getD pc dx).a (g.xs.getD pc dx).l).1) ae (fun V hV=>HL V (hW.trans (hV.mono hW.size))),.mk' (by have:=DD hz (b:=wT) (l:=1) lRn; show((lsD g.m g.xs g.Q pc 8 (g.xs.getD pc dx).a (g.xs.getD pc dx).l).1++wT).size<=_; omega) (by show(lsD g.m g.xs g.Q pc 8 (g.xs.getD pc dx).a (g.xs.getD pc dx).l).1.size<=_; omega) cz⟩
theorem UO(h:Wx g w)(hp:pc<g.cn)(ht:OpT g pc)(hab:ab.size<=1000000)(hc:opF g.xs pc=9):dw g w pc ab (efD g.m (g.P++g.lo) g.xs g.Q pc (opF g.xs pc) (g.xs.getD pc dx).a (g.xs.getD pc dx).l ab).1 (efD g.m (g.P++g.lo) g.xs g.Q pc (opF g.xs pc) (g.xs.getD pc dx).a (g.xs.getD pc dx).l ab).2.1 (efD g.m (g.P++g.lo) g.xs g.Q pc (opF g.xs pc) (g.xs.getD pc dx).a (g.xs.getD pc dx).l ab).2.2/\EfP g pc (efD g.m (g.P++g.lo) g.xs g.Q pc (opF g.xs pc) (g.xs.getD pc dx).a (g.xs.getD pc dx).l ab):=by
 have HL:=fun W (hW:Below w.heap.size w W)=>vL (h.later hW) hp ht;unfold eK at HL;rw[hc]at HL;have hpl:¬(ofV (9:Int)).1.2.2.2.2.2=true:=cj;unfold dw eK efD;rw[hc,if_neg hpl,if_neg ae,if_neg ae,if_neg ae,if_neg ae,if_neg ae,if_pos ae];have hz:=sP h hp ht 9 (g.xs.getD pc dx).a (g.xs.getD pc dx).l;exact⟨fun W hW=>Qk g W (h.later hW).wf pc _ _ ab (S:=(lsD g.m g.xs g.Q pc 9 (g.xs.getD pc dx).a (g.xs.getD pc dx).l).1) ae (fun V hV=>HL V (hW.trans (hV.mono hW.size))),.mk' (by have:=DD hz (b:=wT) (l:=1) lRn; show((lsD g.m g.xs g.Q pc 9 (g.xs.getD pc dx).a (g.xs.getD pc dx).l).1++wT).size<=_; omega) (by show(lsD g.m g.xs g.Q pc 9 (g.xs.getD pc dx).a (g.xs.getD pc dx).l).1.size<=_; omega) cz⟩
theorem Tv(h:Wx g w)(hp:pc<g.cn)(ht:OpT g pc)(hab:ab.size<=1000000)(hc:opF g.xs pc=10):dw g w pc ab (efD g.m (g.P++g.lo) g.xs g.Q pc (opF g.xs pc) (g.xs.getD pc dx).a (g.xs.getD pc dx).l ab).1 (efD g.m (g.P++g.lo) g.xs g.Q pc (opF g.xs pc) (g.xs.getD pc dx).a (g.xs.getD pc dx).l ab).2.1 (efD g.m (g.P++g.lo) g.xs g.Q pc (opF g.xs pc) (g.xs.getD pc dx).a (g.xs.getD pc dx).l ab).2.2/\EfP g pc (efD g.m (g.P++g.lo) g.xs g.Q pc (opF g.xs pc) (g.xs.getD pc dx).a (g.xs.getD pc dx).l ab):=by
 have hpl:¬(ofV (10:Int)).1.2.2.2.2.2=true:=cj;unfold dw eK efD;rw[hc,if_neg hpl,if_neg ae,if_neg ae,if_neg ae,if_neg ae,if_neg ae,if_neg ae,if_pos ae];have hQ:=(h.tz _ _ h.wf.tq).2;have hQ':g.Q.size<=1000:=hQ;exact⟨fun W hW=>JZ g W (h.later hW).wf pc _ _ ab,.mk' (by show g.Q.size<=_; omega) (by show g.Q.size<=_; omega) cz⟩
theorem Q5(h:Wx g w)(hp:pc<g.cn)(ht:OpT g pc)(hab:ab.size<=1000000)(hc:opF g.xs pc=16):dw g w pc ab (efD g.m (g.P++g.lo) g.xs g.Q pc (opF g.xs pc) (g.xs.getD pc dx).a (g.xs.getD pc dx).l ab).1 (efD g.m (g.P++g.lo) g.xs g.Q pc (opF g.xs pc) (g.xs.getD pc dx).a (g.xs.getD pc dx).l ab).2.1 (efD g.m (g.P++g.lo) g.xs g.Q pc (opF g.xs pc) (g.xs.getD pc dx).a (g.xs.getD pc dx).l ab).2.2/\EfP g pc (efD g.m (g.P++g.lo) g.xs g.Q pc (opF g.xs pc) (g.xs.getD pc dx).a (g.xs.getD pc dx).l ab):=by
 have hpl:¬(ofV (16:Int)).1.2.2.2.2.2=true:=cj;unfold dw eK efD;rw[hc,if_neg hpl,if_neg ae,if_neg ae,if_neg ae,if_neg ae,if_neg ae,if_neg ae,if_neg ae,if_pos ae]
 by_cases h0:ab.size=0
 ·rw[if_pos h0]
  have e:ab=⟨#[]⟩:=mO (by rw[BM]; exact List.eq_nil_of_length_eq_zero (by rw[ik]; exact h0));exact⟨fun W hW=>Hz g W (h.later hW).wf pc _ _ ab e,.mk' EA (Nat.zero_le _) cz⟩
 rw[if_neg h0];exact⟨fun W hW=>Kt g W (h.later hW).wf pc _ _ ab ae hab,.mk' (by show(ab.extract _ _).size<=_; rw[ByteArray.size_extract]; omega) (Nat.zero_le _) cz⟩
theorem RY(h:Wx g w)(hp:pc<g.cn)(ht:OpT g pc)(hab:ab.size<=1000000)(hc:opF g.xs pc=17):dw g w pc ab (efD g.m (g.P++g.lo) g.xs g.Q pc (opF g.xs pc) (g.xs.getD pc dx).a (g.xs.getD pc dx).l ab).1 (efD g.m (g.P++g.lo) g.xs g.Q pc (opF g.xs pc) (g.xs.getD pc dx).a (g.xs.getD pc dx).l ab).2.1 (efD g.m (g.P++g.lo) g.xs g.Q pc (opF g.xs pc) (g.xs.getD pc dx).a (g.xs.getD pc dx).l ab).2.2/\EfP g pc (efD g.m (g.P++g.lo) g.xs g.Q pc (opF g.xs pc) (g.xs.getD pc dx).a (g.xs.getD pc dx).l ab):=by
 have hpl:¬(ofV (17:Int)).1.2.2.2.2.2=true:=cj;unfold dw eK efD;rw[hc,if_neg hpl,if_neg ae,if_neg ae,if_neg ae,if_neg ae,if_neg ae,if_neg ae,if_neg ae,if_neg ae,if_pos ae]
 by_cases h0:ab.size<3
 ·rw[if_pos h0]
  exact⟨fun W hW=>Ir g W (h.later hW).wf pc _ _ ab h0,.mk' (by show SE.size<=_; have:SE.size=3:=rfl; omega) EA cz⟩
 rw[if_neg h0];have h1:(ab.extract (ab.size-2) (ab.size-1)).size=1:=ij;exact⟨fun W hW=>MX g W (h.later hW).wf pc _ _ ab ae hab,.mk' (by show(ab.extract _ _++ab.extract _ _++wT).size<=_; rw[cV,cV,h1]; have:wT.size=1:=rfl; omega) (by show(ab.extract _ _).size<=_; rw[h1]; omega) cz⟩
variable {LO:BAz}{c a:Int}
theorem kP    : (ltD m LO c a).1.size<=1000:=by
 unfold ltD
 split
 ·split
  ·show(LO.extract _ _).size<=_; rw[ByteArray.size_extract]; omega
  exact Nat.zero_le _
 split
 ·split
  ·exact Nat.zero_le _
  show(strOfNums [_]).size<=_; rw[gZ]; simp
 exact Nat.zero_le _
theorem Tu(h:Wx g w)(hp:pc<g.cn)(ht:OpT g pc)(hab:ab.size<=1000000)(hc:opF g.xs pc=18):dw g w pc ab (efD g.m (g.P++g.lo) g.xs g.Q pc (opF g.xs pc) (g.xs.getD pc dx).a (g.xs.getD pc dx).l ab).1 (efD g.m (g.P++g.lo) g.xs g.Q pc (opF g.xs pc) (g.xs.getD pc dx).a (g.xs.getD pc dx).l ab).2.1 (efD g.m (g.P++g.lo) g.xs g.Q pc (opF g.xs pc) (g.xs.getD pc dx).a (g.xs.getD pc dx).l ab).2.2/\EfP g pc (efD g.m (g.P++g.lo) g.xs g.Q pc (opF g.xs pc) (g.xs.getD pc dx).a (g.xs.getD pc dx).l ab):=by
 have HL:=fun W (hW:Below w.heap.size w W)=>nW (h.later hW) hp tJ;unfold eK at HL;rw[hc]at HL;have hpl:¬(ofV (18:Int)).1.2.2.2.2.2=true:=cj;unfold dw eK efD;rw[hc,if_neg hpl,if_neg ae,if_neg ae,if_neg ae,if_neg ae,if_neg ae,if_neg ae,if_neg ae,if_neg ae,if_neg ae,if_pos ae];have hz:=kP (m:=g.m) (LO:=g.P++g.lo) (c:=18) (a:=(g.xs.getD pc dx).a);exact⟨fun W hW=>MA g W (h.later hW).wf pc _ _ ab (fun V hV=>HL V (hW.trans (hV.mono hW.size))),.mk' (Nat.zero_le _) (by show(ltD g.m (g.P++g.lo) 18 (g.xs.getD pc dx).a).1.size<=_; omega) cz⟩
theorem Su(h:Wx g w)(hp:pc<g.cn)(ht:OpT g pc)(hab:ab.size<=1000000)(hc:opF g.xs pc=19):dw g w pc ab (efD g.m (g.P++g.lo) g.xs g.Q pc (opF g.xs pc) (g.xs.getD pc dx).a (g.xs.getD pc dx).l ab).1 (efD g.m (g.P++g.lo) g.xs g.Q pc (opF g.xs pc) (g.xs.getD pc dx).a (g.xs.getD pc dx).l ab).2.1 (efD g.m (g.P++g.lo) g.xs g.Q pc (opF g.xs pc) (g.xs.getD pc dx).a (g.xs.getD pc dx).l ab).2.2/\EfP g pc (efD g.m (g.P++g.lo) g.xs g.Q pc (opF g.xs pc) (g.xs.getD pc dx).a (g.xs.getD pc dx).l ab):=by
 have HL:=fun W (hW:Below w.heap.size w W)=>nW (h.later hW) hp tJ;unfold eK at HL;rw[hc]at HL;have hpl:¬(ofV (19:Int)).1.2.2.2.2.2=true:=cj;unfold dw eK efD;rw[hc,if_neg hpl,if_neg ae,if_neg ae,if_neg ae,if_neg ae,if_neg ae,if_neg ae,if_neg ae,if_neg ae,if_neg ae,if_neg ae,if_neg ae];have hz:=kP (m:=g.m) (LO:=g.P++g.lo) (c:=19) (a:=(g.xs.getD pc dx).a);exact⟨fun W hW=>Mk g W (h.later hW).wf pc _ _ ab (fun V hV=>HL V (hW.trans (hV.mono hW.size))),.mk' (by show(ltD g.m (g.P++g.lo) 19 (g.xs.getD pc dx).a).1.size<=_; omega) (Nat.zero_le _) cz⟩
theorem SJ(h:Wx g w)(hp:pc<g.cn)(ht:OpT g pc)(hab:ab.size<=1000000)(hc:opF g.xs pc=20):dw g w pc ab (efD g.m (g.P++g.lo) g.xs g.Q pc (opF g.xs pc) (g.xs.getD pc dx).a (g.xs.getD pc dx).l ab).1 (efD g.m (g.P++g.lo) g.xs g.Q pc (opF g.xs pc) (g.xs.getD pc dx).a (g.xs.getD pc dx).l ab).2.1 (efD g.m (g.P++g.lo) g.xs g.Q pc (opF g.xs pc) (g.xs.getD pc dx).a (g.xs.getD pc dx).l ab).2.2/\EfP g pc (efD g.m (g.P++g.lo) g.xs g.Q pc (opF g.xs pc) (g.xs.getD pc dx).a (g.xs.getD pc dx).l ab):=by
 have HL:=fun W (hW:Below w.heap.size w W)=>nW (h.later hW) hp tJ;unfold eK at HL;rw[hc]at HL;have hpl:¬(ofV (20:Int)).1.2.2.2.2.2=true:=cj;unfold dw eK efD;rw[hc,if_neg hpl,if_neg ae,if_neg ae,if_neg ae,if_neg ae,if_neg ae,if_neg ae,if_neg ae,if_neg ae,if_neg ae,if_neg ae,if_pos ae];have hz:=kP (m:=g.m) (LO:=g.P++g.lo) (c:=20) (a:=(g.xs.getD pc dx).a);exact⟨fun W hW=>Kf g W (h.later hW).wf pc _ _ ab (fun V hV=>HL V (hW.trans (hV.mono hW.size))),.mk' FD FD cz⟩
theorem Te(h:Wx g w)(hp:pc<g.cn)(ht:OpT g pc)(hab:ab.size<=1000000)(hc:opF g.xs pc=21):dw g w pc ab (efD g.m (g.P++g.lo) g.xs g.Q pc (opF g.xs pc) (g.xs.getD pc dx).a (g.xs.getD pc dx).l ab).1 (efD g.m (g.P++g.lo) g.xs g.Q pc (opF g.xs pc) (g.xs.getD pc dx).a (g.xs.getD pc dx).l ab).2.1 (efD g.m (g.P++g.lo) g.xs g.Q pc (opF g.xs pc) (g.xs.getD pc dx).a (g.xs.getD pc dx).l ab).2.2/\EfP g pc (efD g.m (g.P++g.lo) g.xs g.Q pc (opF g.xs pc) (g.xs.getD pc dx).a (g.xs.getD pc dx).l ab):=by
 have HL:=fun W (hW:Below w.heap.size w W)=>nW (h.later hW) hp tJ;unfold eK at HL;rw[hc]at HL;have hpl:¬(ofV (21:Int)).1.2.2.2.2.2=true:=cj;unfold dw eK efD;rw[hc,if_neg hpl,if_neg ae,if_neg ae,if_neg ae,if_neg ae,if_neg ae,if_neg ae,if_neg ae,if_neg ae,if_neg ae,if_pos ae];have hz:=kP (m:=g.m) (LO:=g.P++g.lo) (c:=21) (a:=(g.xs.getD pc dx).a);exact⟨fun W hW=>KJ g W (h.later hW).wf pc _ _ ab (fun V hV=>HL V (hW.trans (hV.mono hW.size))),.mk' (Nat.zero_le _) (by show(ltD g.m (g.P++g.lo) 21 (g.xs.getD pc dx).a).1.size<=_; omega) cz⟩
theorem Rm(h:Wx g w)(hp:pc<g.cn)(ht:OpT g pc)(hab:ab.size<=1000000)(hc:opF g.xs pc=22):dw g w pc ab (efD g.m (g.P++g.lo) g.xs g.Q pc (opF g.xs pc) (g.xs.getD pc dx).a (g.xs.getD pc dx).l ab).1 (efD g.m (g.P++g.lo) g.xs g.Q pc (opF g.xs pc) (g.xs.getD pc dx).a (g.xs.getD pc dx).l ab).2.1 (efD g.m (g.P++g.lo) g.xs g.Q pc (opF g.xs pc) (g.xs.getD pc dx).a (g.xs.getD pc dx).l ab).2.2/\EfP g pc (efD g.m (g.P++g.lo) g.xs g.Q pc (opF g.xs pc) (g.xs.getD pc dx).a (g.xs.getD pc dx).l ab):=by
 have HL:=fun W (hW:Below w.heap.size w W)=>nW (h.later hW) hp tJ;unfold eK at HL;rw[hc]at HL;have hpl:¬(ofV (22:Int)).1.2.2.2.2.2=true:=cj;unfold dw eK efD;rw[hc,if_neg hpl,if_neg ae,if_neg ae,if_neg ae,if_neg ae,if_neg ae,if_neg ae,if_neg ae,if_neg ae,if_neg ae,if_neg ae,if_neg ae];have hz:=kP (m:=g.m) (LO:=g.P++g.lo) (c:=22) (a:=(g.xs.getD pc dx).a);exact⟨fun W hW=>Ov g W (h.later hW).wf pc _ _ ab (fun V hV=>HL V (hW.trans (hV.mono hW.size))),.mk' (by show(ltD g.m (g.P++g.lo) 22 (g.xs.getD pc dx).a).1.size<=_; omega) (Nat.zero_le _) cz⟩
theorem Qb(h:Wx g w)(hp:pc<g.cn)(ht:OpT g pc)(hab:ab.size<=1000000)(h5:opF g.xs pc≠5)(h6:opF g.xs pc≠6):dw g w pc ab (efD g.m (g.P++g.lo) g.xs g.Q pc (opF g.xs pc) (g.xs.getD pc dx).a (g.xs.getD pc dx).l ab).1 (efD g.m (g.P++g.lo) g.xs g.Q pc (opF g.xs pc) (g.xs.getD pc dx).a (g.xs.getD pc dx).l ab).2.1 (efD g.m (g.P++g.lo) g.xs g.Q pc (opF g.xs pc) (g.xs.getD pc dx).a (g.xs.getD pc dx).l ab).2.2/\EfP g pc (efD g.m (g.P++g.lo) g.xs g.Q pc (opF g.xs pc) (g.xs.getD pc dx).a (g.xs.getD pc dx).l ab):=by
 have hin:=h.wf.cod.2 pc hp;have b0:0<=opF g.xs pc:=hin.2.2.2.1;have b1:opF g.xs pc<=255:=hin.2.2.2.2.1;have hk:=h.op pc hp;obtain⟨k,hkc⟩:∃k:Nat,opF g.xs pc=(k:Int):=⟨(opF g.xs pc).toNat,ae⟩
 by_cases hpl:(ofV (opF g.xs pc)).1.2.2.2.2.2=true
 ·refine Jg h hp ht hab hpl ?_
  have hno:=(wI k ae).1 (by rw[<- hkc]; exact hpl)
  cases hi:isO (opF g.xs pc) with
  | false=>rfl
  | true =>
   rw[dR]at hi;refine absurd ?_ hno;have:k=2\/k=3\/k=4:=ae
   rcases this with rfl | rfl | rfl <;> decide
 have hin2:=(wI k ae).2 (by rw[<- hkc]; exact hk) (by rw[<- hkc]; simpa using hpl);clear hpl hk;simp only[List.mem_cons,List.not_mem_nil,or_false]at hin2
 rcases hin2 with e | e | e | e | e | e | e | e | e | e | e | e | e | e | e | e | e | e | e
 ·exact UL h hp ht hab ae
 ·exact TP h hp ht hab ae
 ·exact UA h hp ht hab ae
 ·exact UQ h hp ht hab ae
 ·exact absurd ae h5
 ·exact absurd ae h6
 ·exact TW h hp ht hab ae
 ·exact Um h hp ht hab ae
 ·exact UO h hp ht hab ae
 ·exact Tv h hp ht hab ae
 ·exact Ss h hp ht hab ae
 ·exact Sr h hp ht hab ae
 ·exact Q5 h hp ht hab ae
 ·exact RY h hp ht hab ae
 ·exact Tu h hp ht hab ae
 ·exact Su h hp ht hab ae
 ·exact SJ h hp ht hab ae
 ·exact Te h hp ht hab ae
 exact Rm h hp ht hab ae
end
structure Jw(g:Wg)(sh:List ByteArray)(fl:NIz)(pc:Nat):Prop where
 len:sh.length=pc
 op:∀t∈stk (opF g.xs) pc,∃(k:Nat)(b:BAz)(q:Nat)(p:Sg),fl t=(k:Int)/\sh[t]? =some b/\k<=b.size/\k<=256/\(g.xs.getD t dx).a=(q:Int)/\g.m.types[q]? =some p/\b.size<=2000
 ch:∀t∈stk (opF g.xs) pc,∀t' r,stk (opF g.xs) t=t'::r->fl t'<=fl t
structure Js(g:Wg)(fl:NIz)(pc:Nat)(s:BAz):Prop where
 tp:∀t r,stk (opF g.xs) pc=t::r->fl t<=(s.size:Int)
 sz:s.size<=2000
variable {sh:List ByteArray}
theorem Jw.opt{fl:NIz}{pc:Nat}(h:Jw g sh fl pc):OpT g pc:=fun t ht=>by
 obtain⟨k,b,q,p,_,_,_,_,h1,h2,_⟩:=h.op t ht;exact⟨q,p,h1,h2⟩
def dBs(g:Wg)(sh:List ByteArray)(fl:NIz)(o:Int):ByteArray:=if o<0 then ⟨#[]⟩ else (sh.getD o.toNat ⟨#[]⟩).extract 0 (fl o.toNat).toNat
variable {t:Nat}
theorem lj{fl:NIz}{pc:Nat}(h:Jw g sh fl pc){r:List Nat}(hs:stk (opF g.xs) pc=t::r):((dBs g sh fl (top (stk (opF g.xs) pc))).size:Int)=fl t/\(dBs g sh fl (top (stk (opF g.xs) pc))).size<=256:=by
 obtain⟨k,b,q,p,h1,h2,h3,h4,_,_⟩:=h.op t (by rw[hs]; exact List.mem_cons_self)
 have e:dBs g sh fl (top (stk (opF g.xs) pc))=b.extract 0 k:=by
  rw[hs];exact Lb
 rw[e,lV _ h3,h1];exact⟨rfl,h4⟩
theorem Gy{fl:NIz}{pc:Nat}(hs:stk (opF g.xs) pc=[]):dBs g sh fl (top (stk (opF g.xs) pc))=⟨#[]⟩:=jk
theorem BX{fl:NIz}{pc:Nat}(h:Jw g sh fl pc)(hj:Js g fl pc s):(dBs g sh fl (top (stk (opF g.xs) pc))).size<=s.size/\(dBs g sh fl (top (stk (opF g.xs) pc))).size<=256:=by
 rcases hs:stk (opF g.xs) pc with _ | ⟨t,r⟩
 ·have:=Gy (g:=g) (sh:=sh) (fl:=fl) hs
  rw[hs]at this;rw[this]; exact⟨Nat.zero_le _,Nat.zero_le _⟩
 have:=lj h hs;have h2:=hj.tp t r hs;rw[hs]at this;omega
variable {FB fc SB sc:Nat}{sh':List ByteArray}
theorem rH(h:Wx g w){fl:NIz}(hs:Ws g FB fc SB sc fl sh' w)(hsh:∀(i:Nat)b,sh[i]? =some b->sh'[i]? =some b){pc:Nat}(hp:pc<g.cn)(J:Jw g sh fl pc):gw g w (g.ow pc) (dBs g sh fl (top (stk (opF g.xs) pc))):=by
 rw[h.ow pc hp];intro W hW
 rcases hst:stk (opF g.xs) pc with _ | ⟨t,r⟩
 ·refine(CV g W).mono ?_;rintro e w' ⟨rfl,rfl⟩;exact lR
 obtain⟨k,b,q,p,h1,h2,h3,h4,_,_,hb2⟩:=J.op t (by rw[hst]; exact List.mem_cons_self);have hlt:=(jh _ _ _ (by rw[hst]; exact List.mem_cons_self:t∈stk (opF g.xs) pc)).1
 have e:dBs g sh fl (top (t::r))=b.extract 0 k:=by
  exact Lb
 rw[e];have G:=LM g W (h.later hW).wf (hs.later hW) (show t<g.cn by omega) (hsh t b h2) (k:=k) h1 h3 ae;refine G.mono ?_;rintro e w' ⟨rfl,n,rfl⟩;exact⟨rfl,below_drewN _ _⟩
def StW(FB pc:Nat)(fl fl':NIz)(w w':World):Prop :=
 (Below w.heap.size w w'/\fl'=fl)\/∃W v,Below w.heap.size w W/\w'=W.setCell ⟨FB,pc,none⟩ (.int .i64 v)/\fl'=fun i=>if i=pc then v else fl i
structure Rl(g:Wg)(lo:LIz)(sh:List ByteArray)(fl:NIz)(pc:Nat):Prop where
 sh:∀i,i<pc->sh[i]? =some (stA g.m lo g.xs g.Q g.cn i).st
 fl:∀t∈stk (opF g.xs) pc,fl t=((ki g.m lo g.xs g.Q g.cn t).B.size:Int)/\(ki g.m lo g.xs g.Q g.cn t).B=(stA g.m lo g.xs g.Q g.cn t).st.extract 0 (ki g.m lo g.xs g.Q g.cn t).B.size
theorem Rl.base{lo:LIz}{fl:NIz}{pc:Nat}(h:Rl g lo sh fl pc)(hO:Okp (opF g.xs) pc):dBs g sh fl (top (stk (opF g.xs) pc))=(aT (stA g.m lo g.xs g.Q g.cn pc)).B:=by
 rcases hs:stk (opF g.xs) pc with _ | ⟨t,r⟩
 ·rw[lQ hO hs]; rfl
 rw[oM hO hs]
 have hm:t∈stk (opF g.xs) pc:=by rw[hs]; exact List.mem_cons_self
 obtain⟨h1,h2⟩:=h.fl t hm;have hl:=(jh _ _ _ hm).1;show(if ((t:Nat):Int)<0 then _ else _)=_;rw[if_neg ae,show(top (t::r)).toNat=t from Int.toNat_natCast t,h1,Int.toNat_natCast];simp only[List.getD,h.sh t hl,Option.getD_some];exact h2.symm
theorem Rl.ty{lo:LIz}{pc:Nat}(hO:Okp (opF g.xs) pc):dTy g.m g.xs g.Q (top (stk (opF g.xs) pc))=((aT (stA g.m lo g.xs g.Q g.cn pc)).P,(aT (stA g.m lo g.xs g.Q g.cn pc)).R):=by
 rcases hs:stk (opF g.xs) pc with _ | ⟨t,r⟩
 ·rw[lQ hO hs]; rfl
 rw[oM hO hs];show(if ((t:Nat):Int)<0 then _ else _)=_;rw[if_neg ae,show(top (t::r)).toNat=t from Int.toNat_natCast t];rfl
def awy(c:Int):Prop:=c=7\/c=9\/c=10\/c=0
def II(g:Wg)(lo:LIz)(FB pc:Nat)(sh:List ByteArray)(fl:NIz)(s:BAz)(w:World)(e:Ending)(w':World):Prop :=
 ∃next er fl',e=.returned (.tuple #[.string next,.int .i64 er])/\StW FB pc fl fl' w w' /\
  (er=0->Jw g (sh++[s]) fl' (pc+1)/\(¬awy (opF g.xs pc)->Js g fl' (pc+1) next)) /\
  ((∀i,i<g.cn->erA g.m lo g.xs g.Q g.cn i=0)->Rl g lo sh fl pc->s=(stA g.m lo g.xs g.Q g.cn pc).st->er=0/\Rl g lo (sh++[s]) fl' (pc+1)/\(¬awy (opF g.xs pc)->next=(stA g.m lo g.xs g.Q g.cn (pc+1)).st))
section
variable {g:Wg} {lo:LIz} {FB pc:Nat} {sh:List ByteArray} {fl:NIz} {s:BAz}
theorem mU(h:sh[t]? =some b):(sh++[s])[t]? =some b:=by
 rw[List.getElem?_append_left (az h)]; exact h
theorem uG(h:sh.length=pc):(sh++[s])[pc]? =some s:=by rw[<- h]; simp
theorem vV(J:Jw g sh fl pc)(hsub:∀t∈stk (opF g.xs) (pc+1),t∈stk (opF g.xs) pc):Jw g (sh++[s]) fl (pc+1) :=
 ⟨by simp[J.len],fun t ht=>by
  obtain⟨k,b,q,p,h1,h2,h3⟩:=J.op t (hsub t ht)
  exact⟨k,b,q,p,h1,mU h2,h3⟩,fun t ht=>J.ch t (hsub t ht)⟩
theorem xD(R:Rl g lo sh fl pc)(hl:sh.length=pc)(hs:s=(stA g.m lo g.xs g.Q g.cn pc).st)(hsub:∀t∈stk (opF g.xs) (pc+1),t∈stk (opF g.xs) pc):Rl g lo (sh++[s]) fl (pc+1) :=
 ⟨fun i hi=>by
  by_cases h:i<pc
  ·exact mU (R.sh i h)
  obtain rfl:i=pc:=ae
  rw[<- hs]; exact uG hl,fun t ht=>R.fl t (hsub t ht)⟩
variable {v:Nat}
theorem Qu(J:Jw g sh fl pc)(Jq:Js g fl pc s)(hO:isO (opF g.xs pc)=true)(h1:v<=s.size)(h2:v<=256)(h3:∀t r,stk (opF g.xs) pc=t::r->fl t<=(v:Int))(h4:∃(q:Nat)(p:Sg),(g.xs.getD pc dx).a=(q:Int)/\g.m.types[q]? =some p):Jw g (sh++[s]) (fun i=>if i=pc then (v:Int) else fl i) (pc+1):=by
 have hst:=fU (O:=opF g.xs) hO;refine⟨by simp[J.len],fun t ht=>?_,fun t ht t' r e=>?_⟩
 ·rw[hst]at ht
  rcases List.mem_cons.1 ht with rfl | ht
  ·obtain⟨q,p,h5,h6⟩:=h4;exact⟨v,s,q,p,if_pos rfl,uG J.len,h1,h2,h5,h6,Jq.sz⟩
  obtain⟨k,b,q,p,h1,h2,h3⟩:=J.op t ht;have:=(jh _ _ _ ht).1;exact⟨k,b,q,p,by show(if t=pc then _ else _)=_; rw[if_neg ae]; exact h1,mU h2,h3⟩
 rw[hst]at ht;have hl':=(rS e).1
 rcases List.mem_cons.1 ht with rfl | ht
 ·show(if t'=t then _ else _)<=(if t=t then _ else _)
  rw[if_pos rfl,if_neg ae];exact h3 t' r e
 have:=(jh _ _ _ ht).1;show(if t'=pc then _ else _)<=(if t=pc then _ else _);rw[if_neg ae,if_neg ae];exact J.ch t ht t' r e
theorem Qd(R:Rl g lo sh fl pc)(hl:sh.length=pc)(hs:s=(stA g.m lo g.xs g.Q g.cn pc).st)(hO:isO (opF g.xs pc)=true)(hv:v<=s.size)(hB:(ki g.m lo g.xs g.Q g.cn pc).B=s.extract 0 v):Rl g lo (sh++[s]) (fun i=>if i=pc then (v:Int) else fl i) (pc+1):=by
 have hst:=fU (O:=opF g.xs) hO;refine⟨fun i hi=>?_,fun t ht=>?_⟩
 ·by_cases h:i<pc
  ·exact mU (R.sh i h)
  obtain rfl:i=pc:=ae;rw[<- hs]; exact uG hl
 rw[hst]at ht
 rcases List.mem_cons.1 ht with rfl | ht
 ·have e:(ki g.m lo g.xs g.Q g.cn t).B.size=v:=by rw[hB,lV _ hv]
  refine⟨by show(if t=t then _ else _)=_; rw[if_pos rfl,e],?_⟩;rw[e,<- hs]; exact hB
 have:=(jh _ _ _ ht).1;obtain⟨h1,h2⟩:=R.fl t ht;exact⟨by show(if t=pc then _ else _)=_; rw[if_neg ae]; exact h1,h2⟩
end
structure Wl(g:Wg)(lo:LIz):Prop where
 G:Good (opF g.xs) g.cn
 los:lo=aC (g.P++g.lo)
 lt:∀z∈lo,z=119\/z=108
 gl:∀q:Nat,q<g.m.gn->glC g.m q=119\/glC g.m q=108
 iv:(∀i,i<g.cn->erA g.m lo g.xs g.Q g.cn i=0)->∀j,j<g.cn->Iv3 (opF g.xs) g.cn j (stA g.m lo g.xs g.Q g.cn j)
 l9:∀j,j<g.cn->opF g.xs j=9->0<(g.xs.getD j dx).l.length
theorem Ni{lo:LIz}(h:Wx g w)(L:Wl g lo){FB fc SB sc pc:Nat}{fl:NIz}(hs:Ws g FB fc SB sc fl (sh++[s]) w)(hp:pc<g.cn)(J:Jw g sh fl pc)(Jq:Js g fl pc s)(hfr:w.frozen? ⟨FB,pc,none⟩=false)(h5:opF g.xs pc≠5)(h6:opF g.xs pc≠6) :
  Calls prog 33 #[.pointer (some ⟨g.WB,0,none⟩),.int .i64 pc] w (II g lo FB pc sh fl s w):=by
 have HB:=rH h hs (fun i b hb=>mU hb) hp J;have hle:=BX J Jq;have hsz:=Jq.sz;generalize hS0:dBs g sh fl (top (stk (opF g.xs) pc))=S0 at *;have hab:(s.extract S0.size s.size).size<=1000000:=ij;obtain⟨HE,EP⟩:=Qb h hp J.opt hab h5 h6;generalize hE:efD g.m (g.P++g.lo) g.xs g.Q pc (opF g.xs pc) (g.xs.getD pc dx).a (g.xs.getD pc dx).l (s.extract S0.size s.size)=E at *;have hsp:=uG (s:=s) J.len;have hokp:Okp (opF g.xs) pc:=yj L.G hp;have hin:=h.wf.cod.2 pc hp
 have AG:(∀i,i<g.cn->erA g.m lo g.xs g.Q g.cn i=0)->Rl g lo sh fl pc->s=(stA g.m lo g.xs g.Q g.cn pc).st->Ag g.m lo g.xs g.Q g.cn pc E:=fun he R hst=>by
  have hb:=R.base hokp;rw[hS0]at hb;have iv:=L.iv he pc hp;have:=Ry (m:=g.m) (lo:=lo) (R:=g.Q) (n:=g.cn) (xs:=g.xs) (j:=pc) (LO:=g.P++g.lo) ⟨hokp,he pc hp,iv.last,iv.st,L.los,L.lt,L.gl,L.l9 pc hp⟩ hin.2.2.2.1 hin.2.2.2.2.1 (h.op pc hp) h5 h6;rw[<- hst,<- hb,hE]at this;exact this
 by_cases her:E.2.2=0
 rotate_left
 ·refine(IJ g w h.wf hs hp h5 h6 hsp ae HB hle.1 HE her).mono ?_;rintro e w' ⟨rfl,hb⟩
  exact⟨_,_,fl,rfl,.inl ⟨hb,rfl⟩,fun x=>absurd x her,fun he R hst=>absurd (AG he R hst).er her⟩
 by_cases hen:ends (s.extract S0.size s.size) E.1=true
 rotate_left
 ·refine(C7 g w h.wf hs hp h5 h6 hsp ae HB hle.1 HE her (by simpa using hen)).mono ?_
  rintro e w' ⟨rfl,hb⟩;refine⟨_,_,fl,rfl,.inl ⟨hb,rfl⟩,(fun x=>mA),fun he R hst=>?_⟩;have:=(AG he R hst).en;have hb':=R.base hokp;rw[hS0]at hb';rw[<- hst,<- hb']at this;exact absurd this hen
 have hps:=lY hle.1 hen;have hs1:=EP.s1;have hs2:=EP.s2;have hl:(s.extract 0 (s.size-E.1.size)).size=s.size-E.1.size:=lV _ ae
 have htop:∀t r,stk (opF g.xs) pc=t::r->fl t<=((s.size-E.1.size:Nat):Int):=fun t r e=>by
  have:=lj J e;rw[hS0]at this;omega
 by_cases hO:isO (opF g.xs pc)=true
 ·by_cases hh:256<s.size-E.1.size+E.2.1.size
  ·refine(Ao g w h.wf hs hp h5 h6 hsp ae HB hle.1 HE her hen hO hs2 hh hfr).mono ?_;rintro e w' ⟨rfl,W,hb,rfl⟩
   refine⟨_,_,_,rfl,.inr ⟨W,_,hb,rfl,rfl⟩,(fun x=>mA),fun he R hst=>?_⟩;have:=(AG he R hst).hi;rw[<- hst]at this;exact absurd hh this
  refine(Jt g w h.wf hs hp h5 h6 hsp ae HB hle.1 HE her hen hO hs2 hh hfr).mono ?_;rintro e w' ⟨rfl,W,hb,rfl⟩;refine⟨_,_,_,rfl,.inr ⟨W,_,hb,rfl,rfl⟩,fun _=>⟨Qu J Jq hO ae ae htop (EP.op her hO),fun _=>⟨fun t r e=>?_,?_⟩⟩,fun he R hst=>⟨rfl,?_,fun ha=>?_⟩⟩
  ·rw[fU hO]at e;obtain⟨rfl,_⟩:=List.cons.inj e
   show(if pc=pc then _ else _)<=_;rw[if_pos rfl,cV,hl]; omega
  ·rw[cV,hl]; omega
  ·have:=(AG he R hst).op hO
   rw[<- hst]at this;exact Qd R J.len hst hO ae this
  have:=(AG he R hst).nx ha;rw[<- hst]at this;exact this.symm
 have hO':isO (opF g.xs pc)=false:=uZ;have hst1:=eB hO' h6
 by_cases hh:256<s.size-E.1.size+E.2.1.size
 ·refine(zi g w h.wf hs hp h5 h6 hsp ae HB hle.1 HE her hen hO' hs2 hh).mono ?_;rintro e w' ⟨rfl,hb⟩
  refine⟨_,_,fl,rfl,.inl ⟨hb,rfl⟩,(fun x=>mA),fun he R hst=>?_⟩;have:=(AG he R hst).hi;rw[<- hst]at this;exact absurd hh this
 refine(I2 g w h.wf hs hp h5 h6 hsp ae HB hle.1 HE her hen hO' hs2 hh).mono ?_;rintro e w' ⟨rfl,hb⟩;refine⟨_,_,fl,rfl,.inl ⟨hb,rfl⟩,fun _=>⟨vV J (fun t ht=>yr),fun _=>⟨fun t r e=>?_,?_⟩⟩,fun he R hst=>⟨rfl,xD R J.len hst (fun t ht=>yr),fun ha=>?_⟩⟩
 ·rw[hst1]at e
  have:=htop t r e;rw[cV,hl]; omega
 ·rw[cV,hl]; omega
 have:=(AG he R hst).nx ha;rw[<- hst]at this;exact this.symm
variable {R:BAz}{n j:Nat}{c:Int}
theorem lW{lo:LIz}{xs:List Inx}(h:erA m lo xs R n j=0)(hc:opF xs j=c):rwE m lo (elF (opF xs) n (aT (stA m lo xs R n j)).pc.toNat) (fI (fP (stA m lo xs R n j) j)) (aT (stA m lo xs R n j)) c (xs.getD j dx).a (xs.getD j dx).l=0:=by
 have:=s8 h;rw[<- hc]; exact this
variable {s:Cs}{o:Opn}
theorem Me(h:iI s o=0):s.st=o.B++o.R:=by
 unfold iI at h
 by_cases hh:(s.st.toList==(o.B++o.R).toList)=true
 ·rw[qY,decide_eq_true_eq]at hh; exact hh
 rw[if_neg hh]at h; cases h
variable {o:Int}
theorem wu(h:Wx g w)(H:OpO g o p):p.1.size<=1000/\p.2.size<=1000:=by
 rcases H with ⟨rfl,rfl⟩ | ⟨j,q,_,_,_,e⟩
 ·exact⟨Nat.zero_le _,(h.tz _ _ h.wf.tq).2⟩
 exact h.tz _ _ e
variable {s:BAz}
theorem Sm{lo:LIz}(h:Wx g w)(L:Wl g lo){FB fc SB sc EB ec pc:Nat}{fl:NIz}(hs:Ws g FB fc SB sc fl (sh++[s]) w)(hE:We g EB ec (elF (opF g.xs) g.cn) w)(hp:pc<g.cn)(J:Jw g sh fl pc)(Jq:Js g fl pc s)(hc:opF g.xs pc=5) :
  Calls prog 33 #[.pointer (some ⟨g.WB,0,none⟩),.int .i64 pc] w (II g lo FB pc sh fl s w):=by
 have HB:=rH h hs (fun i b hb=>mU hb) hp J;have hle:=BX J Jq;have hsz:=Jq.sz;have hokp:Okp (opF g.xs) pc:=yj L.G hp;have HO:OpO g (g.ow pc) (dTy g.m g.xs g.Q (top (stk (opF g.xs) pc))):=ER;have hsp:=uG (s:=s) J.len;have hT:=wu h HO;have hst1:stk (opF g.xs) (pc+1)=stk (opF g.xs) pc:=eB cz ae;have hsub:∀t∈stk (opF g.xs) (pc+1),t∈stk (opF g.xs) pc:=fun t ht=>yr
 have AG:(∀i,i<g.cn->erA g.m lo g.xs g.Q g.cn i=0)->Rl g lo sh fl pc->s=(stA g.m lo g.xs g.Q g.cn pc).st->s=dBs g sh fl (top (stk (opF g.xs) pc))++(dTy g.m g.xs g.Q (top (stk (opF g.xs) pc))).2/\dBs g sh fl (top (stk (opF g.xs) pc))++(dTy g.m g.xs g.Q (top (stk (opF g.xs) pc))).1=(stA g.m lo g.xs g.Q g.cn (pc+1)).st:=fun he R hst=>by
  have q:=lW (he pc hp) hc;have q2:iI (fI (fP (stA g.m lo g.xs g.Q g.cn pc) pc)) (aT (stA g.m lo g.xs g.Q g.cn pc))=0:=q;have q3:=Me q2;rw[R.base hokp,Rl.ty (lo:=lo) hokp];refine⟨hst.trans q3,?_⟩;have:=oH (m:=g.m) (lo:=lo) (xs:=g.xs) (R:=g.Q) (n:=g.cn) pc;rw[hc]at this;exact this.symm
 generalize hS0:dBs g sh fl (top (stk (opF g.xs) pc))=S0 at *;generalize dTy g.m g.xs g.Q (top (stk (opF g.xs) pc))=p at *
 by_cases heq:s=S0++p.2
 ·refine(Jr g w h.wf hs hE hp hc hsp HB ae ae ae HO heq).mono ?_;rintro e w' ⟨rfl,hb⟩
  refine⟨_,_,fl,rfl,.inl ⟨hb,rfl⟩,fun _=>⟨vV J hsub,fun _=>⟨fun t r e=>?_,?_⟩⟩,fun he R hst=>⟨rfl,xD R J.len hst hsub,fun _=>(AG he R hst).2⟩⟩
  ·rw[hst1]at e
   have:=lj J e;rw[hS0]at this;rw[cV]; omega
  rw[cV]; omega
 refine(Bd g w h.wf hs hE hp hc hsp HB ae ae ae HO heq).mono ?_;rintro e w' ⟨rfl,hb⟩;exact⟨_,_,fl,rfl,.inl ⟨hb,rfl⟩,(fun x=>mA),fun he R hst=>absurd (AG he R hst).1 heq⟩
theorem Rz{lo:LIz}(h:Wx g w)(L:Wl g lo){FB fc SB sc EB ec pc:Nat}{fl:NIz}(hs:Ws g FB fc SB sc fl (sh++[s]) w)(hE:We g EB ec (elF (opF g.xs) g.cn) w)(hp:pc<g.cn)(J:Jw g sh fl pc)(Jq:Js g fl pc s)(hc:opF g.xs pc=6) :
  Calls prog 33 #[.pointer (some ⟨g.WB,0,none⟩),.int .i64 pc] w (II g lo FB pc sh fl s w):=by
 have HB:=rH h hs (fun i b hb=>mU hb) hp J;have hle:=BX J Jq;have hsz:=Jq.sz;have hokp:Okp (opF g.xs) pc:=yj L.G hp;have hHO:OpO g (g.ow pc) (dTy g.m g.xs g.Q (top (stk (opF g.xs) pc))):=ER;have hsp:=uG (s:=s) J.len;have hT:=wu h hHO;have hst1:stk (opF g.xs) (pc+1)=(stk (opF g.xs) pc).tail:=jV hc
 have hsub:∀t∈stk (opF g.xs) (pc+1),t∈stk (opF g.xs) pc:=fun t ht=>by rw[hst1]at ht; exact List.mem_of_mem_tail ht
 have AG:(∀i,i<g.cn->erA g.m lo g.xs g.Q g.cn i=0)->Rl g lo sh fl pc->s=(stA g.m lo g.xs g.Q g.cn pc).st->s=dBs g sh fl (top (stk (opF g.xs) pc))++(dTy g.m g.xs g.Q (top (stk (opF g.xs) pc))).2/\js (aT (stA g.m lo g.xs g.Q g.cn pc)) (elF (opF g.xs) g.cn (aT (stA g.m lo g.xs g.Q g.cn pc)).pc.toNat)=0:=fun he R hst=>by
  have q:=lW (he pc hp) hc;have q2:orE (iI (fI (fP (stA g.m lo g.xs g.Q g.cn pc) pc)) (aT (stA g.m lo g.xs g.Q g.cn pc))) (js (aT (stA g.m lo g.xs g.Q g.cn pc)) (elF (opF g.xs) g.cn (aT (stA g.m lo g.xs g.Q g.cn pc)).pc.toNat))=0:=q;obtain⟨q3,q4⟩:=aI q2;have q3:=Me q3;rw[R.base hokp,Rl.ty (lo:=lo) hokp];exact⟨hst.trans q3,q4⟩
 have hnx:s=(stA g.m lo g.xs g.Q g.cn pc).st->s=(stA g.m lo g.xs g.Q g.cn (pc+1)).st:=fun hst=>by
  have:=oH (m:=g.m) (lo:=lo) (xs:=g.xs) (R:=g.Q) (n:=g.cn) pc;rw[hc]at this;exact hst.trans this.symm
 have FIN:∀w',Below w.heap.size w w'->II g lo FB pc sh fl s w (.returned (.tuple #[.string s,.int .i64 0])) w':=fun w' hb=>by
  refine⟨_,_,fl,rfl,.inl ⟨hb,rfl⟩,fun _=>⟨vV J hsub,fun _=>⟨fun t r e=>?_,hsz⟩⟩,fun he R hst=>⟨rfl,xD R J.len hst hsub,fun _=>hnx hst⟩⟩;rw[hst1]at e
  rcases hst:stk (opF g.xs) pc with _ | ⟨t1,r1⟩
  ·rw[hst]at e; cases e
  rw[hst]at e;have e1:r1=t::r:=e;have e2:=(rS hst).2.2;have:=J.ch t1 (by rw[hst]; exact List.mem_cons_self) t r (by rw[<- e2,e1]);have:=Jq.tp t1 r1 hst;omega
 have BAD:∀w' er,er≠0->Below w.heap.size w w'->((∀i,i<g.cn->erA g.m lo g.xs g.Q g.cn i=0)->Rl g lo sh fl pc->s=(stA g.m lo g.xs g.Q g.cn pc).st->False)->II g lo FB pc sh fl s w (.returned (.tuple #[.string ⟨#[]⟩,.int .i64 er])) w':=fun w' er her hb hno =>
  ⟨_,_,fl,rfl,.inl ⟨hb,rfl⟩,fun x=>absurd x her,fun he R hst=>(hno he R hst).elim⟩
 by_cases heq:s=dBs g sh fl (top (stk (opF g.xs) pc))++(dTy g.m g.xs g.Q (top (stk (opF g.xs) pc))).2
 rotate_left
 ·refine(A0 g w h.wf hs hE hp hc hsp HB ae ae ae hHO heq).mono ?_;rintro e w' ⟨rfl,hb⟩
  exact BAD w' _ ae hb (fun he R hst=>heq (AG he R hst).1)
 rcases hst:stk (opF g.xs) pc with _ | ⟨t,r⟩
 ·have how:g.ow pc=-1:=by rw[h.ow pc hp,hst]; rfl
  refine(Ai g w h.wf hs hE hp hc how hsp HB ae ae ae hHO heq).mono ?_;exact rJ
 have how:g.ow pc=(t:Int):=by rw[h.ow pc hp,hst]; rfl
 have hlt:=(rS hst).1;have htn:t<g.cn:=ae
 by_cases ho4:opF g.xs t=4
 rotate_left
 ·refine(BQ g w h.wf hs hE hp hc how htn hsp HB ae ae ae hHO heq ho4).mono ?_;exact rJ
 by_cases hel:0<=elF (opF g.xs) g.cn t
 ·refine(Cu g w h.wf hs hE hp hc how htn hsp HB ae ae ae hHO heq ho4 hel).mono ?_;exact rJ
 by_cases hpp:(dTy g.m g.xs g.Q (top (stk (opF g.xs) pc))).1=(dTy g.m g.xs g.Q (top (stk (opF g.xs) pc))).2
 ·refine(IM g w h.wf hs hE hp hc how htn hsp HB ae ae ae hHO heq ho4 ae hpp).mono ?_;exact rJ
 refine(JG g w h.wf hs hE hp hc how htn hsp HB ae ae ae hHO heq ho4 ae hpp).mono ?_;rintro e w' ⟨rfl,hb⟩;refine BAD w' _ ae hb (fun he R hst2=>?_);have q:=(AG he R hst2).2;have hr:=(pM (O:=opF g.xs) g.cn t).1;rw[Rl.ty (lo:=lo) hokp]at hpp;rw[oM hokp hst]at q hpp;unfold js at q;have e1:(ki g.m lo g.xs g.Q g.cn t).op=4:=ho4;have e2:(ki g.m lo g.xs g.Q g.cn t).pc.toNat=t:=Int.toNat_natCast t;rw[if_neg]at q
 ·cases q
 rw[e1,e2,qY,decide_eq_true_eq];rintro(x | x | x)
 ·exact x rfl
 ·omega
 exact hpp x
theorem Oi{lo:LIz}(h:Wx g w)(L:Wl g lo){FB fc SB sc EB ec pc:Nat}{fl:NIz}(hs:Ws g FB fc SB sc fl (sh++[s]) w)(hE:We g EB ec (elF (opF g.xs) g.cn) w)(hp:pc<g.cn)(J:Jw g sh fl pc)(Jq:Js g fl pc s)(hfr:w.frozen? ⟨FB,pc,none⟩=false) :
  Calls prog 33 #[.pointer (some ⟨g.WB,0,none⟩),.int .i64 pc] w (II g lo FB pc sh fl s w):=by
 by_cases h5:opF g.xs pc=5
 ·exact Sm h L hs hE hp J Jq h5
 by_cases h6:opF g.xs pc=6
 ·exact Rz h L hs hE hp J Jq h6
 exact Ni h L hs hp J Jq hfr h5 h6
abbrev wk0(m:MM)(k:Nat)(x:FuM)(lo:BAz)(tb tof:Nat):Array Value:=#[.slice (some ⟨tb,tof,none⟩) m.tn m.tc,.slice m.ha m.hn m.hc,.slice m.ga m.gn m.gc,.int .i64 m.fi,.int .i64 m.mo,.slice m.fa m.fn m.fc,.slice m.da m.dn m.dc,.slice m.ea m.en m.ec,.int .i64 k,.slice x.2.2.1.1 x.2.2.1.2.1 x.2.2.1.2.2,.string lo,bi,bi,bi,bi,bi]
abbrev wk1(m:MM)(k:Nat)(x:FuM)(lo:BAz)(tb tof:Nat)(v1 v2 v3 v4:Value):Array Value:=#[.slice (some ⟨tb,tof,none⟩) m.tn m.tc,.slice m.ha m.hn m.hc,.slice m.ga m.gn m.gc,.int .i64 m.fi,.int .i64 m.mo,.slice m.fa m.fn m.fc,.slice m.da m.dn m.dc,.slice m.ea m.en m.ec,.int .i64 k,.slice x.2.2.1.1 x.2.2.1.2.1 x.2.2.1.2.2,.string lo,v1,v2,v3,v4,bi]
structure LpN(WZ:World)(WB:Nat)(F:Value->Array Value)(j:Nat)(v:Value)(wr:World):Prop where
 li:LI wr WZ.heap.size v (List.replicate j (-1))
 blk:wr.heap[WB]? =some (.cells (F v) 94)
 kp:Kept (fun b=>b=WB) WZ wr
variable {O:NIz}{v1 v2 v3:Value}
theorem qD.kept{n base:Nat}{S:Nat->Prop}(h:qD O n base w v1 v2 v3)(hk:Kept S w w')(hs:∀b,base<=b->¬S b):qD O n base w' v1 v2 v3:=by
 rcases h with h | ⟨h0,h1,h2,h3⟩
 ·exact .inl h
 exact .inr ⟨h0,h1.kept hk (fun b hb=>hs b (LI.block h1 hb).1),h2.kept hk (fun b hb=>hs b (LI.block h2 hb).1),h3.kept hk (fun b hb=>hs b (LI.block h3 hb).1)⟩
variable {v:Value}
theorem Dy  : Ap v bi:=fun b _ e=>iT
variable {u:Value}{l:LIz}
theorem Oe{base:Nat}(h:LI w base u l)(hv:∀b,v.ownBlock=some b->w.heap.size<=b):Ap v u:=fun b hb e=>by
 have:=(LI.block h e).2;have:=hv b hb;omega
theorem qD.apart1{n base:Nat}(h:qD O n base w v1 v2 v3)(hv:∀b,v.ownBlock=some b->w.heap.size<=b):Ap v v1:=by
 rcases h with ⟨_,rfl,_,_⟩ | ⟨_,h1,_,_⟩
 ·exact Dy
 exact Oe h1 hv
theorem qD.apart2{n base:Nat}(h:qD O n base w v1 v2 v3)(hv:∀b,v.ownBlock=some b->w.heap.size<=b):Ap v v2:=by
 rcases h with ⟨_,_,rfl,_⟩ | ⟨_,_,h1,_⟩
 ·exact Dy
 exact Oe h1 hv
theorem qD.apart3{n base:Nat}(h:qD O n base w v1 v2 v3)(hv:∀b,v.ownBlock=some b->w.heap.size<=b):Ap v v3:=by
 rcases h with ⟨_,_,_,rfl⟩ | ⟨_,_,_,h1⟩
 ·exact Dy
 exact Oe h1 hv
variable {b:Nat}{a:AVz}{t:TypeId}
theorem dm(h:w.heap[b]? =some (.cells a t)):w.frozen? ⟨b,i,none⟩=false:=by
 unfold World.frozen?;rw[h];simp
theorem zZ(w:World)(o:Obj):Below w.heap.size w (w.alloc o).drew:=(aj w o).trans ((show Below (w.alloc o).heap.size (w.alloc o) (w.alloc o).drew from(Kept.drewN (fun _=>False) (w.alloc o) 1).to_below lRn (fun _ _ x=>x)).mono (aj w o).size)
theorem Pz(m:MM)(k:Nat)(x:FuM)(t:Nat)(P Q:BAz)(fb fof tb tof:Nat)(w:World)(hfa:m.fa=some ⟨fb,fof,none⟩)(hta:m.ta=some ⟨tb,tof,none⟩)(hk:k<m.fn)(hfn:m.fn<=1000)(ht:x.1=(t:Int))(htn:t<m.tn)(htn2:m.tn<=1000)
  (c0:w.cell? ⟨fb,fof+k*3,none⟩=some (.int .i64 x.1)) (c1:w.cell? ⟨fb,fof+k*3+1,none⟩=some (.string x.2.1)) (c2:w.cell? ⟨fb,fof+k*3+2,none⟩=some (.slice x.2.2.1.1 x.2.2.1.2.1 x.2.2.1.2.2))
  (d0:w.cell? ⟨tb,tof+t*2,none⟩=some (.string P)) (xs:List Inx) (hc:ui w x.2.2.1.1 x.2.2.1.2.1 xs) (hn2:x.2.2.1.2.1<=1048576) (hcap:x.2.2.1.2.1<=x.2.2.1.2.2) (hP:P.size<=1000) (hX:x.2.1.size<=1000) :
  Calls prog 29 #[.agg (mV m),.int .i64 k] w fun e w'=>Below w.heap.size w w'/\e=.returned (.tuple #[.pointer (some ⟨w.heap.size+2,0,none⟩),.int .i64 (res (opF xs) x.2.2.1.2.1 0).1,.int .i64 (res (opF xs) x.2.2.1.2.1 0).2])/\∃v1 v2 v3 v4,w'.heap[w.heap.size+2]? =some (.cells (wk1 m k x (P++x.2.1) tb tof v1 v2 v3 v4) 94)/\qD (opF xs) x.2.2.1.2.1 (w.heap.size+3) w' v1 v2 v3/\LI w' (w.heap.size+3) v4 (List.replicate x.2.2.1.2.1 (-1))/\Ap v4 v1/\Ap v4 v2/\Ap v4 v3:=by
 have B1:=aj w (.cells (mV m) 29);have bx:(w.alloc (.cells (mV m) 29)).heap[w.heap.size]? =some (.cells (mV m) 29):=hZn w (.cells (mV m) 29);have HW:w.alloc (bF m.ta m.tn m.tc m.ha m.hn m.hc m.ga m.gn m.gc m.fi m.mo m.fa m.fn m.fc m.da m.dn m.dc m.ea m.en m.ec)=w.alloc (.cells (mV m) 29):=rfl;have hk':(k:Int)<(m.fn:Int):=ae;have htn':(t:Int)<(m.tn:Int):=ae;have hv1:¬(9223372036854775807<P.size+x.2.1.size):=ae;have HC:=hid (⟨ag B1 c0,ag B1 c1,ag B1 c2,ag B1 d0⟩:(w.alloc (.cells (mV m) 29)).cell? ⟨fb,fof+k*3,none⟩=some (.int .i64 x.1)/\(w.alloc (.cells (mV m) 29)).cell? ⟨fb,fof+k*3+1,none⟩=some (.string x.2.1)/\(w.alloc (.cells (mV m) 29)).cell? ⟨fb,fof+k*3+2,none⟩=some (.slice x.2.2.1.1 x.2.2.1.2.1 x.2.2.1.2.2)/\(w.alloc (.cells (mV m) 29)).cell? ⟨tb,tof+t*2,none⟩=some (.string P));have hsw:(w.alloc (.cells (mV m) 29)).heap.size=w.heap.size+1:=aw;clear c0 c1 c2 d0;generalize w.alloc (.cells (mV m) 29)=W0 at *;have HB0:=hid B1;have HBX:=hid bx;clear B1 bx;show Calls prog 29 #[.agg #[.slice m.ta m.tn m.tc,.slice m.ha m.hn m.hc,.slice m.ga m.gn m.gc,.int .i64 m.fi,.int .i64 m.mo,.slice m.fa m.fn m.fc,.slice m.da m.dn m.dc,.slice m.ea m.en m.ec],.int .i64 k] w _;go_enter func29,ntmps29;obtain⟨c0,c1,c2,d0⟩:=HC.out;rw[ht]at c0;have m0:=iz0 HBX.out;have m5:=iz5 HBX.out;have HTA:=hid hta;rw[hta]at m0;rw[hfa]at m5;clear hfa hta ht;go_wp2_with fail;have b2:=aj W0 (bk t x.2.1 x.2.2.1.1 x.2.2.1.2.1 x.2.2.1.2.2)
 have kx:(W0.alloc (bk t x.2.1 x.2.2.1.1 x.2.2.1.2.1 x.2.2.1.2.2)).heap[w.heap.size+1]? =some (bk t x.2.1 x.2.2.1.1 x.2.2.1.2.1 x.2.2.1.2.2):=by rw[<- hsw]; exact hZn _ _
 have bm:=ak b2 HBX.out;unfold mV at bm
 have hs1:(W0.alloc (bk t x.2.1 x.2.2.1.1 x.2.2.1.2.1 x.2.2.1.2.2)).heap.size=w.heap.size+2:=by simp[hsw]
 have d1:=ag b2 d0;have HB1:=hid (HB0.out.trans (b2.mono HB0.out.size));clear c0 c1 c2 d0 m0 m5 HC HBX HW b2;generalize W0.alloc (bk t x.2.1 x.2.2.1.1 x.2.2.1.2.1 x.2.2.1.2.2)=W1 at *;have m0:=ai (i:=0) bm;have m1:=ai (i:=1) bm;have m2:=ai (i:=2) bm;have m3:=ai (i:=3) bm;have m4:=ai (i:=4) bm;have m5:=ai (i:=5) bm;have m6:=ai (i:=6) bm;have m7:=ai (i:=7) bm;have y0:=ai (i:=0) kx;have y1:=ai (i:=1) kx;have y2:=ai (i:=2) kx;have HBM:=hid bm;have HKX:=hid kx;rw[HTA.out]at m0;clear bm kx
 go_region_held3 (fun W=>W.cell? ⟨w.heap.size,0,none⟩=some (.slice (some ⟨tb,tof,none⟩) m.tn m.tc)/\W.cell? ⟨w.heap.size,1,none⟩=some (.slice m.ha m.hn m.hc)/\W.cell? ⟨w.heap.size,2,none⟩=some (.slice m.ga m.gn m.gc)/\W.cell? ⟨w.heap.size,3,none⟩=some (.int .i64 m.fi)/\W.cell? ⟨w.heap.size,4,none⟩=some (.int .i64 m.mo)/\W.cell? ⟨w.heap.size,5,none⟩=some (.slice m.fa m.fn m.fc)/\W.cell? ⟨w.heap.size,6,none⟩=some (.slice m.da m.dn m.dc)/\W.cell? ⟨w.heap.size,7,none⟩=some (.slice m.ea m.en m.ec)/\W.cell? ⟨w.heap.size+1,0,none⟩=some (.int .i64 t)/\W.cell? ⟨w.heap.size+1,1,none⟩=some (.string x.2.1)/\W.cell? ⟨w.heap.size+1,2,none⟩=some (.slice x.2.2.1.1 x.2.2.1.2.1 x.2.2.1.2.2)/\W.cell? ⟨tb,tof+t*2,none⟩=some (.string P)) (exact⟨fW,fW,fW,fW,fW,fW,fW,fW,fW,fW,fW,fW⟩) (fail)
 have b3:=zZ W1 (.cells (wk0 m k x (P++x.2.1) tb tof) 94)
 have kw:((W1.alloc (.cells (wk0 m k x (P++x.2.1) tb tof) 94)).drew).heap[w.heap.size+2]? =some (.cells (wk0 m k x (P++x.2.1) tb tof) 94):=by rw[<- hs1]; exact hZn W1 _
 have hs2:((W1.alloc (.cells (wk0 m k x (P++x.2.1) tb tof) 94)).drew).heap.size=w.heap.size+3:=by rw[show((W1.alloc (.cells (wk0 m k x (P++x.2.1) tb tof) 94)).drew).heap=(W1.alloc (.cells (wk0 m k x (P++x.2.1) tb tof) 94)).heap from rfl]; simp[hs1]
 have kx2:=ak b3 HKX.out;have HB2:=hid (HB1.out.trans (b3.mono HB1.out.size));have HKW:=hid kw;have HKX2:=hid kx2;clear b3 kw kx2 m0 m1 m2 m3 m4 m5 m6 m7 y0 y1 y2 d1 HBM HKX HB1 hs1;show Exit.then _ _ Exit.normal _ ((W1.alloc (.cells (wk0 m k x (P++x.2.1) tb tof) 94)).drew);generalize (W1.alloc (.cells (wk0 m k x (P++x.2.1) tb tof) 94)).drew=W2 at *;have HM:=hid (Sv x.2.2.1.1 x.2.2.1.2.1 x.2.2.1.2.2 xs W2 hn2 hcap (hc.later HB2.out lRn));have y2:=ai (i:=2) HKX2.out;go_wp2_with fail;refine HM.out.mono ?_;rintro e w3⟨a1,a2,a3,n1,n2,n3,k1,k2,k3,rfl,hml,hb3⟩;have kw3:=ak hb3 HKW.out;have kx3:=ak hb3 HKX2.out;have c11:=ai (i:=11) kw3;have c12:=ai (i:=12) kw3;have c13:=ai (i:=13) kw3;have f11:=dm (i:=11) kw3;have f12:=dm (i:=12) kw3;have f13:=dm (i:=13) kw3;have HB3:=hid (HB2.out.trans (hb3.mono HB2.out.size));rw[hs2]at hml;have HML:=hid hml;have KW3:=hid kw3;have KX3:=hid kx3;have hs3:=hb3.size;clear hb3 hml HM HKW HKX2 HB2 kw3 kx3 y2
 go_upto_region 7 with fail
 have kz:((w3.setCell ⟨w.heap.size+2,11,none⟩ (.slice a1 n1 k1)).setCell ⟨w.heap.size+2,12,none⟩ (.slice a2 n2 k2)).setCell ⟨w.heap.size+2,13,none⟩ (.slice a3 n3 k3)=_:=rfl;have KP:=hid (((ax w3 (w.heap.size+2) 11 (.slice a1 n1 k1)).trans (ax _ (w.heap.size+2) 12 (.slice a2 n2 k2))).trans (ax _ (w.heap.size+2) 13 (.slice a3 n3 k3)));have KZ:=hid (show(((w3.setCell ⟨w.heap.size+2,11,none⟩ (.slice a1 n1 k1)).setCell ⟨w.heap.size+2,12,none⟩ (.slice a2 n2 k2)).setCell ⟨w.heap.size+2,13,none⟩ (.slice a3 n3 k3)).heap[w.heap.size+2]? =some (.cells (wk1 m k x (P++x.2.1) tb tof (.slice a1 n1 k1) (.slice a2 n2 k2) (.slice a3 n3 k3) bi) 94) from aM (aM (aM KW3.out)));clear kz c11 c12 c13 f11 f12 f13 KW3;generalize ((w3.setCell ⟨w.heap.size+2,11,none⟩ (.slice a1 n1 k1)).setCell ⟨w.heap.size+2,12,none⟩ (.slice a2 n2 k2)).setCell ⟨w.heap.size+2,13,none⟩ (.slice a3 n3 k3)=WZ at *
 have hsZ:w.heap.size+3<=WZ.heap.size:=by have:=KP.out.size; omega
 have hn2':=hn2;clear hn2 hc hk' htn' hv1 hs3 hs2;go_wp2_with fail
 go_loopw [14] (fun i wr=>∃(j:Nat)(v4:Value),j<=x.2.2.1.2.1/\i=.int .i64 j/\LpN WZ (w.heap.size+2) (wk1 m k x (P++x.2.1) tb tof (.slice a1 n1 k1) (.slice a2 n2 k2) (.slice a3 n3 k3)) j v4 wr) (fun i _=>x.2.2.1.2.1-(intOf i).toNat)
 case atStart=>exact⟨0,bi,Nat.zero_le _,rfl,LI.nil _ _,KZ.out,Kept.refl _ _⟩
 case round =>
  obtain⟨j,v4,hj,rfl,hli,hbk,hkp⟩:=hrel;obtain⟨p4,q4,rfl⟩:=hli.slice;simp only[List.length_replicate]at hli hbk;have y2:=ai (i:=2) (show wr.heap[w.heap.size+1]? =some _ from(hkp.block _ ae ae).trans ((KP.out.block _ (by have:=KX3.out; exact aN this) ae).trans KX3.out))
  by_cases hlt:j<x.2.2.1.2.1
  ·have hlt':(j:Int)<(x.2.2.1.2.1:Int):=ae;have c14:=ai (i:=14) hbk;have ob:=aj wr (bM (-1))
   have hlen:(List.replicate j (-1:Int)).length<=1073741824:=by rw[List.length_replicate]; omega
   have HL0:=hid (hli.later ob lRn);have hle0:WZ.heap.size<=(wr.alloc (bM (-1))).heap.size:=Nat.le_trans hkp.size ob.size;have HLE:=hid hle0;have HBK:=hid (ak ob hbk);have HKP:=hid (hkp.trans (aP ob))
   have hbo:∀b,(Value.slice p4 j q4).ownBlock=some b->b≠w.heap.size+2:=fun b hb e=>by
    have:=(LI.block hli hb).1;omega
   have HBO:=hid hbo;clear ob hle0 hli hbk hkp hbo
   go_wp2_with (first
    | (at_builtin; refine lJ _ rfl (.tmp 68) (.tmp 69) rfl WZ.heap.size _ (List.replicate j (-1)) rfl HL0.out HLE.out ⟨wr.heap.size,0,none⟩ (-1) rfl kQ hlen ?_; intro B1 C1 j1 w1 hj1 l1 o1 p1; have BK1:=hid ((p1.block _ (aN HBK.out) (fun hb=>HBO.out _ hb rfl)).trans HBK.out); have c141:=ai (i:=14) BK1.out; have f141:=dm (i:=14) BK1.out; have LI1:=hid l1; have P1:=hid p1; have HJ1:=hid hj1; clear l1 p1 hj1))
   refine⟨⟨j+1,_,ae,bH,?_,aM BK1.out,?_⟩,bI⟩
   ·have:=LI1.out.kept (ax w1 (w.heap.size+2) 14 (.slice (some ⟨B1,0,none⟩) j1 C1)) (fun b hb e=>by have:=(LI.block LI1.out hb).1; omega)
    rw[List.replicate_succ'];exact this
   exact HKP.out.then ((P1.out.mono (fun b (hb:_=some b)=>(Or.inr (LI.block HL0.out hb).1:b=w.heap.size+2\/WZ.heap.size<=b))).trans ((ax w1 (w.heap.size+2) 14 _).mono (fun b hb=>Or.inl hb))) (fun b hb hx=>hx.resolve_right ae)
  obtain rfl:x.2.2.1.2.1=j:=ae;go_wp2_with fail;refine bodyPost_ret (v:=.tuple #[.pointer (some ⟨w.heap.size+2,0,none⟩),.int .i64 (res (opF xs) x.2.2.1.2.1 0).1,.int .i64 (res (opF xs) x.2.2.1.2.1 0).2]) (by simp[results,results29,go_sem]) rfl ?_;have hz3:w3.heap.size<=WZ.heap.size:=KP.out.size;refine⟨?_,rfl,_,_,_,_,hbk,(HML.out.kept (KP.out.then hkp (fun b _ hb=>hb)) (fun b hb e=>ae)),hli.mono hsZ,?_,?_,?_⟩
  ·exact bw (bw HB3.out KP.out HB3.out.size (fun b hb=>ae)) hkp ae (fun b hb=>ae)
  ·exact HML.out.apart1 (fun b hb=>Nat.le_trans hz3 (LI.block hli hb).1)
  ·exact HML.out.apart2 (fun b hb=>Nat.le_trans hz3 (LI.block hli hb).1)
  exact HML.out.apart3 (fun b hb=>Nat.le_trans hz3 (LI.block hli hb).1)
end Go.Proofs.YtepcmfegggdjfaaGreatDoor

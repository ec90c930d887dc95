/-
  Texts Vee Vgg Ie Ib Ig Ih Ii Fa.
-/
import Derived.Test.YtepcmfegggdjfaaGreatDoorM00
import Derived.Test.YtepcmfegggdjfaaGreatDoorM01
import Derived.Test.YtepcmfegggdjfaaGreatDoorM02
import Derived.Test.YtepcmfegggdjfaaGreatDoorM10
set_option linter.unusedVariables false
set_option maxRecDepth 100000
set_option maxHeartbeats 16000000
namespace Go.Proofs.YtepcmfegggdjfaaGreatDoor
open Go.Proofs.Tryz
open Go.RowKit
variable {most:Int}
theorem cK{α:Type}{f:List α->α->Int}{xs:List α}(h:bK f most xs=0):(xs.length:Int)<=most/\∀(j:Nat)x,xs[j]? =some x->f (xs.take j) x=0:=by
 unfold bK at h
 split at h
 ·cases h
 rename_i hl;refine⟨ae,fun j x hj=>?_⟩;have:=bC f xs [] h j x hj;exact cF
variable {m:MM}
theorem jY(h:bO m=0):e1 m=0/\e2 m=0/\e3 m=0/\e6 m=0:=by
 obtain⟨h,_⟩:=aI h;obtain⟨h1,h⟩:=aI h;obtain⟨h2,h⟩:=aI h;obtain⟨h3,h⟩:=aI h;obtain⟨_,h⟩:=aI h;obtain⟨_,h⟩:=aI h;exact⟨h1,h2,h3,(aI h).1⟩
variable {x:Sg}
theorem qj{ah:List Sg}(h:cI ah x=0):x.1.size<=8/\cC x.1 8=true/\x.2.size<=8/\cC x.2 8=true:=by
 unfold cI at h
 by_cases a1:8<x.1.size
 ·exact oF
 rw[if_neg a1]at h
 by_cases a2:cC x.1 8=false
 ·exact nv
 rw[if_neg a2]at h
 by_cases a3:8<x.2.size
 ·rw[if_pos a3]at h; cases h
 rw[if_neg a3]at h
 by_cases a4:cC x.2 8=false
 ·exact nt
 exact⟨ae,by simpa using a2,ae,by simpa using a4⟩
theorem kG{sg:List Sg}{left ty:Int}{lo:BAz}{xs:List InM}(h:gH sg left ty lo xs=0):0<=ty/\ty<sg.length/\lo.size+(mL sg ty).size<=64/\cC lo 64=true/\xs.length<=2048/\∀(j:Nat)x,xs[j]? =some x->dH x=0:=by
 unfold gH at h
 by_cases a1:ty<0\/(sg.length:Int)<=ty
 ·exact oF
 rw[if_neg a1]at h
 by_cases a2:64<lo.size+(mL sg ty).size
 ·exact nv
 rw[if_neg a2]at h
 by_cases a3:cC lo 64=false
 ·rw[if_pos a3]at h; cases h
 rw[if_neg a3]at h
 by_cases a4:min 2048 left<(xs.length:Int)
 ·exact nt
 rw[if_neg a4]at h;exact⟨ae,ae,ae,by simpa using a3,ae,fun j x hj=>by simpa using bC _ xs [] h j x hj⟩
variable {t a:Int}{g:Bool}{l:LIz}
theorem Aa(h:chk t g a l=0):lo t g<=a/\a<=hi t g/\l.length<=16/\(t=3->0<l.length):=by
 unfold chk at h
 by_cases a1:t=-1
 ·exact oF
 rw[if_neg a1]at h
 by_cases a2:a<lo t g\/hi t g<a
 ·exact nv
 rw[if_neg a2]at h
 by_cases a3:t=3
 ·rw[if_pos a3]at h
  by_cases a4:l.length<1\/16<l.length
  ·exact nt
  exact⟨ae,ae,ae,fun _=>ae⟩
 rw[if_neg a3]at h
 by_cases a4:l.length=0
 ·exact⟨ae,ae,ae,fun e=>absurd e a3⟩
 rw[if_neg a4]at h; cases h
theorem tk9:tkV 9=3:=ar
variable {w:World}{R g:Nat}
theorem Bj(h0:bO m=0)(hm:MOk w R g m)(hk:bg w)(hp:0<w.heap.size):EvW w m:=by
 obtain⟨h1,h2,h3,h6⟩:=jY h0;obtain⟨l1,a1⟩:=cK h1;obtain⟨l2,a2⟩:=cK h2;obtain⟨l3,a3⟩:=cK h3;obtain⟨l6,a6⟩:=cK h6;have n1:=hm.pt.1;have n2:=hm.ph.1;have n3:=hm.pg.1;have n6:=hm.pf.1;refine⟨hm.pt,fun b off c e=>(hm.tf b off c e).2.2,ae,hm.ph,fun b off c e=>(hm.hf b off c e).2.2,ae,hm.pg,fun b off c e=>(hm.gf b off c e).2.2,ae,hm.pf,fun b off c e=>(hm.ff b off c e).2.2,ae,?_,?_,?_,?_,hk,hp⟩
 ·intro x hx;obtain⟨j,hj⟩:=List.mem_iff_getElem?.1 hx;have h:=a3 j x hj;unfold eu at h
  by_cases b1:isL x.1=false
  ·rw[if_pos b1]at h; cases h
  have b2:isL x.1=true:=by simpa using b1
  simp only[isL,Bool.or_eq_true,decide_eq_true_eq]at b2;exact b2
 ·intro x hx;obtain⟨j,hj⟩:=List.mem_iff_getElem?.1 hx;have h:=qj (a1 j x hj);exact⟨h.1,h.2.2.1⟩
 ·intro x hx;obtain⟨j,hj⟩:=List.mem_iff_getElem?.1 hx;have h:bD m.tn x=0:=a2 j x hj;unfold bD at h
  by_cases b1:x<0\/(m.tn:Int)<=x
  ·rw[if_pos b1]at h; cases h
  omega
 intro x hx;obtain⟨j,hj⟩:=List.mem_iff_getElem?.1 hx;have h:=kG (a6 j x hj);exact⟨h.1,by rw[<- n1]; exact h.2.1⟩
def inx(y:InM):Inx:=⟨y.1,y.2.1,y.2.2.1.1,y.2.2.1.2.1,y.2.2.1.2.2,y.2.2.2⟩
variable {j:Nat}{y:InM}
theorem tD{xs:List InM}(h:xs[j]? =some y):(xs.map inx).getD j dx=inx y:=by
 simp[List.getD,h]
variable {a b:BAz}{m n:Nat}
theorem yD(ha:cC a m=true)(hb:cC b n=true):∀z∈aC (a++b),z=119\/z=108:=by
 intro z hz;unfold aC at hz;rw[List.mem_map]at hz;obtain⟨c,hc,rfl⟩:=hz;rw[ByteArray.data_append,Array.toList_append,List.mem_append]at hc
 have h:c=119\/c=108:=by
  rcases hc with hc | hc
  ·exact((iR a m).1 ha).1 c hc
  exact((iR b n).1 hb).1 c hc
 rcases h with rfl | rfl
 ·exact .inl rfl
 exact .inr rfl
variable {m:MM}{k:Nat}{x:FuM}
theorem Hm(h0:bO m=0)(hm:MOk w R g m)(hx:m.fns[k]? =some x) :
  ∃(t:Nat)(P Q:BAz),x.1=(t:Int)/\m.types[t]? =some (P,Q)/\P.size+x.2.1.size<=64/\(∀z∈aC (P++x.2.1),z=119\/z=108)/\x.2.2.1.2.1<=2048/\ui w x.2.2.1.1 x.2.2.1.2.1 (x.2.2.2.map inx) /\
   ∀j,j<x.2.2.1.2.1->((x.2.2.2.map inx).getD j dx).ln<=100000/\(((x.2.2.2.map inx).getD j dx).c=9->0<((x.2.2.2.map inx).getD j dx).ln):=by
 obtain⟨h1,h2,h3,h6⟩:=jY h0;have hs:=(cK h1).2;have hf:=kG ((cK h6).2 k x hx);obtain⟨b1,b2,b3,b4,b5,b6⟩:=hf;obtain⟨_,hin,_,hy⟩:=hm.fr k x hx;obtain⟨t,ht⟩:∃t:Nat,x.1=(t:Int):=⟨x.1.toNat,ae⟩;have htl:t<m.types.length:=ae;obtain⟨p,hp⟩:∃p,m.types[t]? =some p:=⟨_,aY htl⟩;have hsz:x.2.2.2.length=x.2.2.1.2.1:=hin.1
 have hpar:mL m.types x.1=p.1:=by rw[ht]; exact pQ (p:=p.1) (r:=p.2) hp
 rw[hpar]at b3
 have hI:∀(i:Nat)y,x.2.2.2[i]? =some y->y.2.2.1.2.1<=16/\(y.1=9->0<y.2.2.1.2.1)/\-9223372036854775808<=y.2.1/\y.2.1<=9223372036854775807:=by
  intro i y hi';have hc:=Aa (b6 i y hi');have hg:=(hy i y hi').2.2.1;have hl:y.2.2.2.length=y.2.2.1.2.1:=hg.1;have q1:=(lq (tkV y.1) (lgV y.1)).1;have q2:=kU (tkV y.1) (lgV y.1);refine⟨ae,fun e=>?_,ae,ae⟩;rw[<- hl];exact hc.2.2.2 (by rw[e]; exact tk9)
 refine⟨t,p.1,p.2,ht,hp,ae,yD (qj (hs t p hp)).2.1 b4,ae,⟨by rw[List.length_map]; exact hsz,hin.2.imp id ?_⟩,?_⟩
 ·rintro⟨b,off,ha,hc⟩
  refine⟨b,off,ha,by rw[List.length_map]; exact hsz,fun j hj=>?_⟩;obtain⟨y,hyj⟩:∃y,x.2.2.2[j]? =some y:=⟨_,aY ae⟩;rw[tD hyj];have c:=hc j y hyj;have r:=hy j y hyj;have i:=hI j y hyj;exact⟨c.1,c.2.1,c.2.2,r.1,r.2.1,i.2.2.1,i.2.2.2,by show y.2.2.1.2.1<=_; omega,fun _=>r.2.2.1⟩
 intro j hj;obtain⟨y,hyj⟩:∃y,x.2.2.2[j]? =some y:=⟨_,aY ae⟩;rw[tD hyj];have i:=hI j y hyj;exact⟨by show y.2.2.1.2.1<=_; omega,i.2.1⟩
def RX(m:MM)(x:FuM)(w:World)(e:Ending)(w':World):Prop :=
 Below w.heap.size w w' /\
 (((res (opF (x.2.2.2.map inx)) x.2.2.1.2.1 0).1≠0/\e=.returned (.tuple #[.agg zT,.int .i64 (res (opF (x.2.2.2.map inx)) x.2.2.1.2.1 0).1,.int .i64 (res (opF (x.2.2.2.map inx)) x.2.2.1.2.1 0).2])) \/
  (Good (opF (x.2.2.2.map inx)) x.2.2.1.2.1/\∃P Q,m.types[x.1.toNat]? =some (P,Q)/\QV m (aC (P++x.2.1)) (x.2.2.2.map inx) Q x.2.2.1.2.1 w e w'))
theorem Pr(h0:bO m=0)(hm:MOk w R g m)(hk:bg w)(hp:0<w.heap.size)(hx:m.fns[k]? =some x)(hcap:x.2.2.1.2.1<=x.2.2.1.2.2) :
  Calls prog 35 #[.agg (mV m),.agg #[.int .i64 x.1,.string x.2.1,.slice x.2.2.1.1 x.2.2.1.2.1 x.2.2.1.2.2]] w (RX m x w):=by
 obtain⟨t,P,Q,ht,hP,h64,hll,hn,hc,hbr⟩:=Hm h0 hm hx
 by_cases hE:(res (opF (x.2.2.2.map inx)) x.2.2.1.2.1 0).1=0
 ·have hG:Good (opF (x.2.2.2.map inx)) x.2.2.1.2.1:=xQ _ 0 (Nat.zero_add _) (fun i hi=>absurd hi (Nat.not_lt_zero _)) hE
  rw[ht];refine(BU m t P Q x.2.1 _ _ _ _ hn hcap hc (fN hG) hG (Bj h0 hm hk hp) hP h64 hll hbr).mono fun e w' h=>⟨h.1,.inr ⟨hG,P,Q,by rw[ht]; exact hP,h⟩⟩
 exact(zl m x.1 x.2.1 _ _ _ _ hn hcap hc hE).mono fun e w' h=>⟨h.2,.inl ⟨hE,h.1⟩⟩
def Tx(m:MM)(x:FuM)(E pc:Int):Prop :=
 ((res (opF (x.2.2.2.map inx)) x.2.2.1.2.1 0).1≠0/\E=(res (opF (x.2.2.2.map inx)) x.2.2.1.2.1 0).1/\pc=(res (opF (x.2.2.2.map inx)) x.2.2.1.2.1 0).2) \/
 (Good (opF (x.2.2.2.map inx)) x.2.2.1.2.1/\∃P Q,m.types[x.1.toNat]? =some (P,Q)/\∃j,j<x.2.2.1.2.1/\(∀i,i<j->erA m (aC (P++x.2.1)) (x.2.2.2.map inx) Q x.2.2.1.2.1 i=0)/\erA m (aC (P++x.2.1)) (x.2.2.2.map inx) Q x.2.2.1.2.1 j≠0/\E=erA m (aC (P++x.2.1)) (x.2.2.2.map inx) Q x.2.2.1.2.1 j/\pc=(j:Int))
def uk(m:MM)(x:FuM)(base:Nat)(w:World)(t:AVz):Prop :=
 Good (opF (x.2.2.2.map inx)) x.2.2.1.2.1/\∃P Q,m.types[x.1.toNat]? =some (P,Q)/\(∀i,i<x.2.2.1.2.1->erA m (aC (P++x.2.1)) (x.2.2.2.map inx) Q x.2.2.1.2.1 i=0)/\∃SH EN EL FL,base<=SH/\base<=EN/\base<=EL/\base<=FL /\
  t=#[.slice (some ⟨SH,0,none⟩) x.2.2.1.2.1 x.2.2.1.2.1,.slice (some ⟨EN,0,none⟩) x.2.2.1.2.1 x.2.2.1.2.1,.slice (some ⟨EL,0,none⟩) x.2.2.1.2.1 x.2.2.1.2.1,.slice (some ⟨FL,0,none⟩) x.2.2.1.2.1 x.2.2.1.2.1,.int .i64 (stA m (aC (P++x.2.1)) (x.2.2.2.map inx) Q x.2.2.1.2.1 x.2.2.1.2.1).hi] /\
  Row w 9 SH x.2.2.1.2.1 x.2.2.1.2.1 ((stA m (aC (P++x.2.1)) (x.2.2.2.map inx) Q x.2.2.1.2.1 x.2.2.1.2.1).sh.map Value.string)/\RI w EN x.2.2.1.2.1 (enF (opF (x.2.2.2.map inx)) x.2.2.1.2.1)/\RI w EL x.2.2.1.2.1 (elF (opF (x.2.2.2.map inx)) x.2.2.1.2.1)/\RI w FL x.2.2.1.2.1 (stA m (aC (P++x.2.1)) (x.2.2.2.map inx) Q x.2.2.1.2.1 x.2.2.1.2.1).fl
variable {w':World}{t:AVz}
theorem uk.kept{base base' T:Nat}(h:uk m x base w t)(hk:Kept (fun k=>k=T) w w')(hT:T<base)(hb:base'<=base):uk m x base' w' t:=by
 obtain⟨hG,P,Q,hP,hz,SH,EN,EL,FL,l1,l2,l3,l4,ht,r1,r2,r3,r4⟩:=h;exact⟨hG,P,Q,hP,hz,SH,EN,EL,FL,ae,ae,ae,ae,ht,r1.kept hk (by show ¬(SH=T); omega),r2.kept hk (by show ¬(EN=T); omega),r3.kept hk (by show ¬(EL=T); omega),r4.kept hk (by show ¬(FL=T); omega)⟩
variable {e:Ending}
theorem RX.cases(h:RX m x w e w') :
  (∃E pc,Tx m x E pc/\E≠0/\e=.returned (.tuple #[.agg zT,.int .i64 E,.int .i64 pc])) \/
  (∃a0 a1 a2 a3 n0 n1 n2 n3 c0 c1 c2 c3 hi,e=.returned (.tuple #[.agg #[.slice a0 n0 c0,.slice a1 n1 c1,.slice a2 n2 c2,.slice a3 n3 c3,.int .i64 hi],.int .i64 0,.int .i64 0])/\uk m x w.heap.size w' #[.slice a0 n0 c0,.slice a1 n1 c1,.slice a2 n2 c2,.slice a3 n3 c3,.int .i64 hi]):=by
 rcases h.2 with ⟨h1,h⟩ | ⟨hG,P,Q,hP,_,⟨j,hj,hz,he,h⟩ | ⟨hz,SH,EN,EL,FL,l1,l2,l3,l4,_,_,_,_,h,r1,r2,r3,r4⟩⟩
 ·exact .inl ⟨_,_,.inl ⟨h1,rfl,rfl⟩,h1,h⟩
 ·exact .inl ⟨_,_,.inr ⟨hG,P,Q,hP,j,hj,hz,he,rfl,rfl⟩,he,h⟩
 exact .inr ⟨_,_,_,_,_,_,_,_,_,_,_,_,_,h,hG,P,Q,hP,hz,SH,EN,EL,FL,l1,l2,l3,l4,rfl,r1,r2,r3,r4⟩
def U7(m:MM)(w:World)(e:Ending)(w':World):Prop :=
 Below w.heap.size w w' /\
 ((bO m≠0/\e=.returned (.tuple #[.slice none 0 0,.int .i64 (bO m),.int .i64 (-1),.int .i64 0])) \/
  (bO m=0/\∃(k:Nat)(x:FuM)(E pc:Int),m.fns[k]? =some x/\Tx m x E pc/\E≠0/\(∀i y,i<k->m.fns[i]? =some y->∃W b t,uk m y b W t)/\e=.returned (.tuple #[.slice none 0 0,.int .i64 E,.int .i64 k,.int .i64 pc])) \/
  (bO m=0/\∃TT arr,w.heap.size<=TT/\e=.returned (.tuple #[.slice (some ⟨TT,0,none⟩) m.fn m.fn,.int .i64 0,.int .i64 0,.int .i64 0])/\w'.heap[TT]? =some (.cells arr 74)/\arr.size=m.fn*5 /\
   ∀(i:Nat)y,m.fns[i]? =some y->∃t,uk m y (TT+1) w' t/\∀q,q<5->arr[i*5+q]? =t[q]?))
theorem Tryz.infTab:(prog.info? 74).map (fun i=>(i.zero,i.size,i.bytes))=some (some (.agg zT),5,104):=ar
variable {T:Nat}{arr:AVz}
theorem VG(h:w.heap[T]? =some (.cells arr 74))(hl:k*5+5<=arr.size)(t0 t1 t2 t3 t4:Value)(o:Obj) :
  ∃arr',((((((w.setCell ⟨T,k*5,none⟩ t0).setCell ⟨T,k*5+1,none⟩ t1).setCell ⟨T,k*5+2,none⟩ t2).setCell ⟨T,k*5+3,none⟩ t3).setCell ⟨T,k*5+4,none⟩ t4).alloc o).heap[T]? =some (.cells arr' 74)/\arr'.size=arr.size /\
   (∀q,q<5->arr'[k*5+q]? =#[t0,t1,t2,t3,t4][q]?)/\(∀p,p<k*5\/k*5+5<=p->arr'[p]? =arr[p]?)/\Kept (fun b=>b=T) w ((((((w.setCell ⟨T,k*5,none⟩ t0).setCell ⟨T,k*5+1,none⟩ t1).setCell ⟨T,k*5+2,none⟩ t2).setCell ⟨T,k*5+3,none⟩ t3).setCell ⟨T,k*5+4,none⟩ t4).alloc o):=by
 refine⟨_,ak (aj _ o) (aM (aM (aM (aM (aM h))))),aw,fun q hq=>?_,fun p hp=>?_,((((ax w T _ t0).trans (ax _ T _ t1)).trans (ax _ T _ t2)).trans (ax _ T _ t3)).trans ((ax _ T _ t4).trans (aP (aj _ o)))⟩
 ·have:q=0\/q=1\/q=2\/q=3\/q=4:=ae
  rcases this with rfl | rfl | rfl | rfl | rfl
  ·exact oO
  ·exact oO
  ·exact oO
  ·exact oO
  exact oO
 simp only[Array.getElem?_setIfInBounds,Array.size_setIfInBounds]
 (iterate 5 rw[if_neg ae])
theorem zg(m:MM)(w:World)(hk:bg w)(hp:0<w.heap.size)(hm:∀R g,w.heap.size<=R->w.heap.size<=g->MOk w R g m)(hcap:∀x∈m.fns,x.2.2.1.2.1<=x.2.2.1.2.2) :
  Calls prog 21 #[.agg (mV m)] w (U7 m w):=by
 have B0:=aj w (.cells (mV m) 29);have b0:=hZn w (.cells (mV m) 29);have hz:(w.alloc (.cells (mV m) 29)).heap.size=w.heap.size+1:=aw;have HE:=hid (Qt m (w.alloc (.cells (mV m) 29)) (hk.later B0 hp) (fun R g h1 h2=>(hm R g ae ae).later B0));have HM:=hid (fun(W:World) (hb:Below w.heap.size w W)=>(hm w.heap.size w.heap.size lRn lRn).later hb);have HK:=hid (fun(W:World) (hb:Below w.heap.size w W)=>hk.later hb hp);have HF:=hid (hm w.heap.size w.heap.size lRn lRn).pf;have HCP:=hid hcap;clear hm hk hcap;have m0:=iz0 b0;have m1:=iz1 b0;have m2:=iz2 b0;have m3:=iz3 b0;have m4:=iz4 b0;have m5:=iz5 b0;have m6:=iz6 b0;have m7:=iz7 b0;have HW:w.alloc (bF m.ta m.tn m.tc m.ha m.hn m.hc m.ga m.gn m.gc m.fi m.mo m.fa m.fn m.fc m.da m.dn m.dc m.ea m.en m.ec)=w.alloc (.cells (mV m) 29):=rfl;generalize w.alloc (.cells (mV m) 29)=W0 at *;unfold mV at HE;show Calls prog 21 #[.agg #[.slice m.ta m.tn m.tc,.slice m.ha m.hn m.hc,.slice m.ga m.gn m.gc,.int .i64 m.fi,.int .i64 m.mo,.slice m.fa m.fn m.fc,.slice m.da m.dn m.dc,.slice m.ea m.en m.ec]] w _;obtain⟨i0,hi,hz0,hz1,hz2⟩:=info_parts Tryz.infTab;go_enter func21,ntmps21
 go_wp2_with fail;refine HE.out.mono ?_;rintro e w2⟨rfl,hb2⟩;have m0:=ag hb2 m0;have m1:=ag hb2 m1;have m2:=ag hb2 m2;have m3:=ag hb2 m3;have m4:=ag hb2 m4;have m5:=ag hb2 m5;have m6:=ag hb2 m6;have m7:=ag hb2 m7;have hB2:Below w.heap.size w w2:=B0.trans (hb2.mono B0.size)
 have hs2:w.heap.size+1<=w2.heap.size:=by have:=hb2.size; omega
 have HB2:=hid hB2;have HM8:=hid (And.intro m0 (And.intro m1 (And.intro m2 (And.intro m3 (And.intro m4 (And.intro m5 (And.intro m6 m7)))))));clear hB2 b0 B0 HE HW hb2
 by_cases hx:bO m=0
 rotate_left
 ·have hx':(bO m==0)=false:=yw;have HX:=hid hx;clear m0 m1 m2 m3 m4 m5 m6 m7 hx;generalize hce:bO m=ce at *;go_wp2_with fail
  refine bodyPost_ret (v:=.tuple #[.slice none 0 0,.int .i64 ce,.int .i64 (-1),.int .i64 0]) wH rfl ⟨HB2.out,.inl ⟨vw,by rw[hce]⟩⟩
 rw[hx]
 have hfn:m.fn<=128:=by
  have:=(cK (jY hx).2.2.2).1;have:=HF.out.1;omega
 have hb3:i0.bytes*m.fn<=281474976710656:=pG;have hml:m.fn<=maxLen:=dA
 go_wp2_with (first | (at_make; refine wpList_make_full _ rfl _ _ 41 rfl w2.heap.size 74 i0 (.agg zT) 5 underlying41 hi hz0 hz1 .i64 .i64 _ _ m.fn rfl rfl rfl rfl hb3 hml lRn ?_; intro w1 hown hgrow; have hbel:Below w2.heap.size w2 w1:=(Below.refl _ _).grown hgrow lRn aw; have m5:=ag hbel m5))
 obtain⟨arr0,hTT,hsz0⟩:∃arr,w1.heap[w2.heap.size]? =some (.cells arr 74)/\arr.size=m.fn*5:=by
  rcases hown.2 with ⟨e,_⟩ | ⟨g,cap,cur,e,h4,h5,h6,h7,h8,h9⟩
  ·cases e
  cases e; exact⟨cur,h5,h8⟩
 have hT1:w2.heap.size<w1.heap.size:=aN hTT;have hB1:Below w.heap.size w w1:=HB2.out.trans (hbel.mono HB2.out.size);obtain⟨q0,q1,q2,q3,q4,q5,q6,q7⟩:=HM8.out;have H8:=hid (And.intro (ag hbel q0) (And.intro (ag hbel q1) (And.intro (ag hbel q2) (And.intro (ag hbel q3) (And.intro (ag hbel q4) (And.intro (ag hbel q5) (And.intro (ag hbel q6) (ag hbel q7))))))));have HT:=hid (And.intro hTT hsz0);have HB1:=hid hB1;clear hown hgrow hi hz0 hz1 hz2 hb3 hml q0 q1 q2 q3 q4 q5 q6 q7 m0 m1 m2 m3 m4 m5 m6 m7 HM8 hTT hsz0 hB1 hbel
 go_loopw [25] (fun i wr=>∃k:Nat,k<=m.fn/\i=.int .i64 k/\Kept (fun b=>b=w2.heap.size) w1 wr/\∃arr,wr.heap[w2.heap.size]? =some (.cells arr 74)/\arr.size=m.fn*5/\∀(i:Nat)y,i<k->m.fns[i]? =some y->∃t,uk m y (w2.heap.size+1) wr t/\∀q,q<5->arr[i*5+q]? =t[q]?) (fun i _=>m.fn-(intOf i).toNat)
 case atStart=>exact⟨0,Nat.zero_le _,rfl,Kept.refl _ _,arr0,HT.out.1,HT.out.2,fun i y h=>absurd h (Nat.not_lt_zero _)⟩
 case round =>
  obtain⟨k,hkf,rfl,hkept,arr,hTT,hsz,htab⟩:=hrel;obtain⟨m0,m1,m2,m3,m4,m5,m6,m7⟩:=H8.out;have hzr:=hkept.size;have hBr:Below w.heap.size w wr:=HB1.out.trans (hkept.to_below (B:=w.heap.size) HB1.out.size (fun k hk h=>by have:k=w2.heap.size:=h; omega))
  by_cases hlt:k<m.fn
  ·obtain⟨x,hxk⟩:∃x,m.fns[k]? =some x:=⟨_,aY (by rw[HF.out.1]; exact hlt)⟩
   obtain⟨b,off,hfa,hat⟩:=HF.out.2.resolve_left ae;have hat:=hat k x hxk;have hbw:b<w.heap.size:=block_lt_of_cell hat.1;have n0:=ag hBr hat.1;have n1:=ag hBr hat.2.1;have n2:=ag hBr hat.2.2;have hwn:w.heap.size≠w2.heap.size:=ae;have m0:=hkept.cell m0 hwn;have m1:=hkept.cell m1 hwn;have m2:=hkept.cell m2 hwn;have m3:=hkept.cell m3 hwn;have m4:=hkept.cell m4 hwn;have m5:=hkept.cell m5 hwn;have m6:=hkept.cell m6 hwn;have m7:=hkept.cell m7 hwn;have H30:=hid (fun(W:World) (hb:Below w.heap.size w W)=>Pr hx (HM.out W hb) (HK.out W hb) (Nat.lt_of_lt_of_le hp hb.size) hxk (HCP.out x (List.mem_of_getElem? hxk)));unfold mV at H30;rw[hfa]at H30 m5;have hk0:(0:Int)<=(k:Int):=ae;have hk1:(k:Int)<(m.fn:Int):=ae;have HKP:=hid hkept;have HTT:=hid hTT;have HTB:=hid htab;have HBR:=hid hBr;have hwl:w.heap.size<wr.heap.size:=ae;have hbl:b<wr.heap.size:=ae;clear hkept hTT htab hBr hat;rw[hfa];go_wp2_with fail;have BA:=aj wr (bk x.1 x.2.1 x.2.2.1.1 x.2.2.1.2.1 x.2.2.1.2.2);have hBA:=HBR.out.trans (BA.mono HBR.out.size);have hTA:=ak BA HTT.out;refine(H30.out _ hBA).mono ?_;generalize wr.alloc (bk x.1 x.2.1 x.2.2.1.1 x.2.2.1.2.1 x.2.2.1.2.2)=WA at *;rintro e w3 hO;have hb3:=hO.1;have hT3:=ak hb3 hTA;have hB3:Below w.heap.size w w3:=hBA.trans (hb3.mono hBA.size);have hK3:Kept (fun b=>b=w2.heap.size) wr w3:=(aP BA).trans (aP hb3);have hzA:=BA.size;have hz3:=hb3.size
   rcases hO.cases with ⟨E,pc,hErr,hE,rfl⟩ | ⟨s0,s1,s2,s3,l0,l1,l2,l3,c0,c1,c2,c3,hi,rfl,hTab⟩
   ·have hE':(E==0)=false:=oY;have HErr:=hid (And.intro hErr hE);have HB3:=hid hB3;clear hErr hE hO hb3 hT3 hB3 hK3 m0 m1 m2 m3 m4 m5 m6 m7 n0 n1 n2 hTA hBA BA H30;go_wp2_with fail
    refine bodyPost_ret (v:=.tuple #[.slice none 0 0,.int .i64 E,.int .i64 k,.int .i64 pc]) wH rfl ⟨HB3.out.trans ((aj w3 _).mono HB3.out.size),.inr (.inl ⟨hx,k,x,E,pc,hxk,HErr.out.1,HErr.out.2,fun i y hi hy=>?_,rfl⟩)⟩;obtain⟨t,ht,_⟩:=HTB.out i y hi hy;exact⟨_,_,_,ht⟩
   have hlen:k*5+5<=arr.size:=ae;have g:∀q,q<5->∃v,w3.cell? ⟨w2.heap.size,k*5+q,none⟩=some v:=fun q hq=>⟨_,by rw[ai hT3]; exact Array.getElem?_eq_getElem ae⟩;obtain⟨v0,g0⟩:=g 0 ae;obtain⟨v1,g1⟩:=g 1 ae;obtain⟨v2,g2⟩:=g 2 ae;obtain⟨v3,g3⟩:=g 3 ae;obtain⟨v4,g4⟩:=g 4 ae;rw[Nat.add_zero]at g0;have fz:∀q,w3.frozen? ⟨w2.heap.size,q,none⟩=false:=fun q=>free_at hT3;have f0:=fz (k*5);have f1:=fz (k*5+1);have f2:=fz (k*5+2);have f3:=fz (k*5+3);have f4:=fz (k*5+4);have hTl:w2.heap.size<w3.heap.size:=aN hT3;have HTab:=hid hTab;have HP3:=hid (And.intro hT3 (And.intro hB3 hK3));clear hTab hT3 hB3 hK3 g fz hO hb3 m0 m1 m2 m3 m4 m5 m6 m7 n0 n1 n2 hTA hBA BA H30;go_wp2_with fail;obtain⟨hT3,hB3,hK3⟩:=HP3.out;obtain⟨arr',p1,p2,p3,p4,p5⟩:=VG hT3 hlen (.slice s0 l0 c0) (.slice s1 l1 c1) (.slice s2 l2 c2) (.slice s3 l3 c3) (.int .i64 hi) (fk s0 l0 c0 s1 l1 c1 s2 l2 c2 s3 l3 c3 hi);refine⟨⟨k+1,ae,bH,(HKP.out.trans hK3).trans p5,arr',p1,ae,fun i y hi hy=>?_⟩,bI⟩
   by_cases hik:i=k
   ·subst hik
    obtain rfl:x=y:=by rw[hxk]at hy; exact Option.some.inj hy
    exact⟨_,HTab.out.kept p5 ae ae,p3⟩
   obtain⟨t,ht,hq⟩:=HTB.out i y ae hy;exact⟨t,ht.kept (hK3.trans p5) ae lRn,fun q hq'=>by rw[p4 _ ae]; exact hq q hq'⟩
  obtain rfl:k=m.fn:=ae;have HQ:=hid (And.intro hBr (And.intro hTT htab));clear m0 m1 m2 m3 m4 m5 m6 m7 hBr hTT htab hkept;go_wp2_with fail;obtain⟨hBr,hTT,htab⟩:=HQ.out;refine bodyPost_ret (v:=.tuple #[.slice (some ⟨w2.heap.size,0,none⟩) m.fn m.fn,.int .i64 0,.int .i64 0,.int .i64 0]) wH rfl ⟨hBr,.inr (.inr ⟨hx,w2.heap.size,arr,ae,rfl,hTT,hsz,fun i y hy=>htab i y (by rw[<- HF.out.1]; exact az hy) hy⟩)⟩
theorem y9(h:bO m=0):e4 m=0/\e7 m=0/\e8 m=0:=by
 obtain⟨h,_⟩:=aI h;obtain⟨_,h⟩:=aI h;obtain⟨_,h⟩:=aI h;obtain⟨_,h⟩:=aI h;obtain⟨h4,h⟩:=aI h;obtain⟨_,h⟩:=aI h;obtain⟨_,h⟩:=aI h;obtain⟨h7,h8⟩:=aI h;exact⟨h4,h7,h8⟩
variable {room:Int}{x:DaM}
theorem pV{ah:List DaM}(h:cD room ah x=0):0<=x.1/\fJ ah x.1=false/\x.1+(x.2.2.length:Int)<=room/\x.2.2.length≠0:=by
 unfold cD at h
 by_cases a1:x.1<0\/room<x.1
 ·exact oF
 rw[if_neg a1]at h
 by_cases a2:fJ ah x.1=true
 ·exact nv
 rw[if_neg a2]at h
 by_cases a3:room-x.1<(x.2.2.length:Int)
 ·rw[if_pos a3]at h; cases h
 rw[if_neg a3]at h
 by_cases a4:x.2.2.length=0
 ·exact nt
 exact⟨ae,by simpa using a2,ae,a4⟩
theorem wX(h:bO m=0):∃n:Nat,m.fi=(n:Int)/\n<=64/\m.data.length<=64/\m.exps.length<=64/\Ky (n*4096) m.data/\Tz m.data:=by
 obtain⟨h4,h7,h8⟩:=y9 h
 have hp:0<=m.fi/\m.fi<=64:=by
  unfold e4 iV at h4
  by_cases a:m.fi<0\/64<m.fi
  ·rw[if_pos a]at h4; cases h4
  omega
 obtain⟨hl,hd⟩:=cK h7;obtain⟨n,hn⟩:∃n:Nat,m.fi=(n:Int):=⟨m.fi.toNat,ae⟩;have he:=(cK h8).1
 have hfit:Ky (n*4096) m.data:=fun j x hj=>by
  have:=pV (hd j x hj);exact⟨this.1,by have:=this.2.2.1; rw[hn]at this; omega,this.2.2.2⟩
 refine⟨n,hn,ae,ae,ae,hfit,?_⟩
 have step:∀(i:Nat)x y,m.data[i]? =some x->m.data[i+1]? =some y->x.1+(x.2.2.length:Int)<y.1:=fun i x y hx hy=>by
  have hc:=(pV (hd (i+1) y hy)).2.1;have hi:=az hx
  have e2:(m.data.take (i+1)).getLast? =some x:=by
   rw[List.take_succ_eq_append_getElem hi];rw[aY hi]at hx;simp at hx;simp[hx]
  unfold fJ at hc;rw[e2]at hc;simp at hc;omega
 intro i j x y hij hx hy;obtain⟨q,rfl⟩:∃q,j=i+1+q:=⟨j-i-1,ae⟩;clear hij
 induction q generalizing y with
 | zero=>exact step i x y hx hy
 | succ q ih =>
  have hl:=az hy;obtain⟨z,hz⟩:∃z,m.data[i+1+q]? =some z:=⟨_,aY ae⟩;have h1:=ih z hz;have h2:=step (i+1+q) z y hz hy;omega
def KH(m:MM):Prop:=bO m≠0\/∃(k:Nat)(x:FuM)(E pc:Int),m.fns[k]? =some x/\Tx m x E pc/\E≠0
def Pt(m:MM)(x:FuM):Prop :=
 Good (opF (x.2.2.2.map inx)) x.2.2.1.2.1/\∃P Q,m.types[x.1.toNat]? =some (P,Q)/\∀i,i<x.2.2.1.2.1->erA m (aC (P++x.2.1)) (x.2.2.2.map inx) Q x.2.2.1.2.1 i=0
variable {x:FuM}
theorem uk.ok{base:Nat}(h:uk m x base w t):Pt m x:=by
 obtain⟨hG,P,Q,hP,hz,_⟩:=h;exact⟨hG,P,Q,hP,hz⟩
def Hy(m:MM):Prop:=∀(i:Nat)y,m.fns[i]? =some y->Pt m y
def UM(m:MM)(s:BAz)(w:World)(e:Ending)(w':World):Prop :=
 Below w.heap.size w w' /\
 ((KH m/\∃E,E≠0/\e=.returned (.tuple #[.int .i64 0,.int .i64 E])) \/
  (bO m=0/\(∀(i:Nat)x,m.exps[i]? =some x->x.1≠s)/\e=.returned (.tuple #[.int .i64 0,.int .i64 41])) \/
  ((bO m=0/\Hy m)/\∃(j:Nat)(x:Ex),m.exps[j]? =some x/\x.1=s/\(∀(i:Nat)y,i<j->m.exps[i]? =some y->y.1≠s)/\e=.returned (.tuple #[.int .i64 x.2,.int .i64 0])))
theorem QB(m:MM)(s:BAz)(w:World)(hk:bg w)(hp:0<w.heap.size)(hm:∀R g,w.heap.size<=R->w.heap.size<=g->MOk w R g m)(hcap:∀x∈m.fns,x.2.2.1.2.1<=x.2.2.1.2.2) :
  Calls prog 14 #[.agg (mV m),.string s] w (UM m s w):=by
 have B0:=aj w (.cells (mV m) 29);have hz:(w.alloc (.cells (mV m) 29)).heap.size=w.heap.size+1:=aw;have HE:=hid (zg m (w.alloc (.cells (mV m) 29)) (hk.later B0 hp) ae (fun R g h1 h2=>(hm R g ae ae).later B0) hcap);have HP:=hid (hm w.heap.size w.heap.size lRn lRn).pe;have HB0:=hid B0;have b0:=hZn w (.cells (mV m) 29);have m7:=iz7 b0;have HM7:=hid m7;clear hm hk hcap B0 b0 hz m7;unfold mV at HE HM7 HB0;show Calls prog 14 #[.agg #[.slice m.ta m.tn m.tc,.slice m.ha m.hn m.hc,.slice m.ga m.gn m.gc,.int .i64 m.fi,.int .i64 m.mo,.slice m.fa m.fn m.fc,.slice m.da m.dn m.dc,.slice m.ea m.en m.ec],.string s] w _;go_enter func14,ntmps14
 go_wp2_with fail;refine HE.out.mono ?_;rintro e w2 hO;have hb2:=hO.1;have HB2:Hid (Below w.heap.size w w2):=hid (HB0.out.trans (hb2.mono HB0.out.size));have m7:=ag hb2 HM7.out
 have HN:Hid (w.heap.size<w2.heap.size):=hid (by have:=hb2.size; simp at this; omega)
 rcases hO.2 with ⟨h1,rfl⟩ | ⟨h1,k,x,E,pc,hx,hE,hE0,_,rfl⟩ | ⟨h1,TT,arr,_,rfl,_,_,hTV⟩
 ·have hx':(bO m==0)=false:=il;have HX:=hid h1;clear h1 hO;generalize hce:bO m=ce at *;go_wp2_with fail;exact bodyPost_ret (v:=.tuple #[.int .i64 0,.int .i64 ce]) wm rfl ⟨HB2.out,.inl ⟨.inl vw,ce,HX.out,rfl⟩⟩
 ·have hx':(E==0)=false:=by simpa using hE0
  have HX:=hid (And.intro hx (And.intro hE hE0));clear hx hE hE0 hO;go_wp2_with fail;exact bodyPost_ret (v:=.tuple #[.int .i64 0,.int .i64 E]) wm rfl ⟨HB2.out,.inl ⟨.inr ⟨k,x,E,pc,HX.out⟩,E,HX.out.2.2,rfl⟩⟩
 have HAT:Hid (Hy m):=hid (fun i y hy=>by obtain⟨t,ht,_⟩:=hTV i y hy; exact ht.ok);clear hO hTV;have HX:=hid h1
 have hen:m.en<=64:=by
  obtain⟨_,_,_,_,h,_⟩:=wX h1;rw[HP.out.1]at h;exact h
 clear h1;go_wp2_with fail
 go_loopw [25] (fun i wr=>∃k:Nat,k<=m.en/\i=.int .i64 k/\Hid (Below w2.heap.size w2 wr/\∀(i:Nat)x,i<k->m.exps[i]? =some x->x.1≠s)) (fun i _=>m.en-(intOf i).toNat)
 case atStart=>exact⟨0,Nat.zero_le _,rfl,hid ⟨Below.refl _ _,fun i x h=>absurd h (Nat.not_lt_zero _)⟩⟩
 case round =>
  obtain⟨k,hkn,rfl,HR⟩:=hrel
  by_cases hlt:k<m.en
  ·obtain⟨x,hx⟩:∃x,m.exps[k]? =some x:=⟨_,aY (by rw[HP.out.1]; exact hlt)⟩
   obtain⟨b,off,hea,hat⟩:=HP.out.2.resolve_left ae;obtain⟨q0,q1⟩:=hat k x hx;have hbb:Below w.heap.size w wr:=HB2.out.trans (HR.out.1.mono HB2.out.size);have g0:=ag hbb q0;have g1:=ag hbb q1;have HBB:=hid hbb;have HX1:=hid hx;have hlt':(k:Int)<(m.en:Int):=ae;generalize m.ea=ea at *;subst hea;have hal:=aj wr (di x.1 x.2);have HAL:=hid hal;clear q0 q1 hat hx hbb hal
   by_cases hs:x.1=s
   ·have hs1:(x.1.toList==s.toList)=true:=by rw[hs]; simp
    have HSS:=hid hs;clear hs;go_wp2_with fail;exact bodyPost_ret (v:=.tuple #[.int .i64 x.2,.int .i64 0]) wm rfl ⟨HBB.out.trans (HAL.out.mono HBB.out.size),.inr (.inr ⟨⟨HX.out,HAT.out⟩,k,x,HX1.out,HSS.out,HR.out.2,rfl⟩)⟩
   have hs1:(x.1.toList==s.toList)=false:=by
    rw[ia,ia]
    simpa using fun h:x.1.data.toList=s.data.toList=>hs (sj h)
   have HSS:=hid hs;clear hs;go_wp2_with fail
   exact⟨⟨k+1,ae,bH,hid ⟨HR.out.1.trans (HAL.out.mono HR.out.1.size),fun i y hi hy=>by
    by_cases hik:i<k
    ·exact HR.out.2 i y hik hy
    obtain rfl:i=k:=ae;rw[HX1.out]at hy;injection hy with hy
    rw[<- hy]; exact HSS.out⟩⟩,bI⟩
  obtain hke:k=m.en:=ae;have hle:¬(k:Int)<(m.en:Int):=ae;have HKE:=hid hke;clear hke;go_wp2_with fail;exact bodyPost_ret (v:=.tuple #[.int .i64 0,.int .i64 41]) wm rfl ⟨HB2.out.trans (HR.out.1.mono HB2.out.size),.inr (.inl ⟨HX.out,fun i x hx=>HR.out.2 i x (by have:=az hx; rw[HP.out.1]at this; have:=HKE.out; omega) hx,rfl⟩)⟩
def glF(xs:List Gl)(i:Nat):Int:=(xs[i]?).elim 0 (·.2.2)
variable {wr:World}{B:Nat}{x:Gl}{o:Obj}
theorem Pp{xs:List Gl}(hx:xs[k]? =some x)(h:RB .u64 53 wr B n (fun i=>if i<k then glF xs i else 0))(hb:Below w.heap.size w wr)(hB:w.heap.size<=B) :
  RB .u64 53 ((wr.setCell ⟨B,k,none⟩ (.int .u64 x.2.2)).alloc o) B n (fun i=>if i<k+1 then glF xs i else 0)/\Below w.heap.size w ((wr.setCell ⟨B,k,none⟩ (.int .u64 x.2.2)).alloc o):=by
 refine⟨(h.put k x.2.2 (fun i hi=>?_)).later ((Below.refl _ _).alloc lRn o),(hb.setCell (by simpa using hB) _).alloc (by simpa using hb.size) o⟩
 by_cases e:i=k
 ·subst e;rw[if_pos ae,if_pos rfl]
  simp[glF,hx]
 rw[if_neg e]
 by_cases h1:i<k
 ·rw[if_pos h1,if_pos ae]
 rw[if_neg h1,if_neg ae]
theorem Nu(b off n c:Nat)(xs:List Gl)(w:World)(hl:xs.length=n)(hc:∀(j:Nat)x,xs[j]? =some x->w.cell? ⟨b,off+j*3,none⟩=some (.int .u8 x.1)/\w.cell? ⟨b,off+j*3+1,none⟩=some (.bool x.2.1)/\w.cell? ⟨b,off+j*3+2,none⟩=some (.int .u64 x.2.2))(hn:n<=1048576) :
  Calls prog 17 #[.slice (some ⟨b,off,none⟩) n c] w fun e w'=>∃B,e=.returned (.slice (some ⟨B,0,none⟩) n n)/\w.heap.size<=B/\RB .u64 53 w' B n (glF xs)/\Below w.heap.size w w':=by
 obtain⟨i0,hi,hz0,hz1,hz2⟩:=info_parts Tryz.infW;have hb2:i0.bytes*n<=281474976710656:=pG;have hml:n<=maxLen:=dA;have HC:=hid hc;clear hc;go_enter func17,ntmps17
 go_wp2_with (first | (at_make; refine wpList_make_full _ rfl _ _ 30 rfl w.heap.size 53 i0 (.int .u64 0) 1 underlying30 hi hz0 hz1 .i64 .i64 _ _ n rfl rfl ae ae hb2 hml lRn ?_; intro w1 hown hgrow))
 have hown0:=RB.made hown;have hbel:Below w.heap.size w w1:=(Below.refl _ _).grown hgrow lRn aw;have H0:=hid (And.intro hown0 hbel);clear hown hgrow hi hz0 hz1 hz2 hb2 hml hown0 hbel
 go_loopw [11] (fun i wr=>∃k:Nat,k<=n/\i=.int .i64 k/\Hid (RB .u64 53 wr w.heap.size n (fun i=>if i<k then glF xs i else 0)/\Below w.heap.size w wr)) (fun i _=>n-(intOf i).toNat)
 case atStart=>exact⟨0,ae,rfl,hid ⟨H0.out.1.congr (fun i _=>aw),H0.out.2⟩⟩
 case round =>
  obtain⟨k,hk,rfl,HR⟩:=hrel
  by_cases hlt:k<n
  ·obtain⟨x,hx⟩:∃x,xs[k]? =some x:=⟨_,aY ae⟩;obtain⟨q0,q1,q2⟩:=HC.out k x hx;have g0:=ag HR.out.2 q0;have g1:=ag HR.out.2 q1;have g2:=ag HR.out.2 q2;have hlt':(k:Int)<(n:Int):=ae;have hBl:=HR.out.1.lt
   have HS:=fun o=>hid (Pp (o:=o) hx HR.out.1 HR.out.2 lRn);have hal:Below wr.heap.size wr (wr.alloc (aZ x.1 x.2.1 x.2.2)):=(Below.refl _ _).alloc lRn _;have gB:(wr.alloc (aZ x.1 x.2.1 x.2.2)).cell? ⟨w.heap.size,k,none⟩=some (.int .u64 (if k<k then glF xs k else 0)):=(HR.out.1.later hal).cell k hlt;have gF:(wr.alloc (aZ x.1 x.2.1 x.2.2)).frozen? ⟨w.heap.size,k,none⟩=false:=(HR.out.1.later hal).free k;rw[if_neg (Nat.lt_irrefl _)]at gB;clear hx q0 q1 q2 hal;go_wp2_with fail;have R:=(HS (aZ x.1 x.2.1 x.2.2)).out;exact⟨⟨k+1,ae,bH,hid R⟩,bI⟩
  obtain rfl:k=n:=ae;go_wp2;go_ret;exact⟨_,rfl,Nat.le_refl _,HR.out.1.congr (fun i hi=>by simp[hi]),HR.out.2⟩
theorem AO(a:OAz)(c:Nat)(w:World) :
  Calls prog 17 #[.slice a 0 c] w fun e w'=>∃B,e=.returned (.slice (some ⟨B,0,none⟩) 0 0)/\w.heap.size<=B/\RB .u64 53 w' B 0 (glF [])/\Below w.heap.size w w':=by
 obtain⟨i0,hi,hz0,hz1,hz2⟩:=info_parts Tryz.infW;have hb2:i0.bytes*0<=281474976710656:=ae;have hml:0<=maxLen:=ae;go_enter func17,ntmps17
 go_wp2_with (first | (at_make; refine wpList_make_full _ rfl _ _ 30 rfl w.heap.size 53 i0 (.int .u64 0) 1 underlying30 hi hz0 hz1 .i64 .i64 _ _ 0 rfl rfl rfl rfl hb2 hml lRn ?_; intro w1 hown hgrow))
 have hown0:=RB.made hown;have hbel:Below w.heap.size w w1:=(Below.refl _ _).grown hgrow lRn aw;have H0:=hid (And.intro hown0 hbel);clear hown hgrow hi hz0 hz1 hz2 hb2 hml hown0 hbel;refine wp_loop_rounds 1 ?_;rw[rounds_succ];go_wp2;go_ret;exact⟨_,rfl,Nat.le_refl _,H0.out.1.congr (fun i h=>ae),H0.out.2⟩
theorem TR(a:OAz)(n c:Nat)(xs:List Gl)(w:World)(h:kq w a n xs)(hn:n<=1048576) :
  Calls prog 17 #[.slice a n c] w fun e w'=>∃B,e=.returned (.slice (some ⟨B,0,none⟩) n n)/\w.heap.size<=B/\RB .u64 53 w' B n (glF xs)/\Below w.heap.size w w':=by
 by_cases h0:n=0
 ·subst h0;obtain rfl:=List.eq_nil_of_length_eq_zero h.1;exact AO a c w
 obtain⟨b,off,rfl,hc⟩:=h.2.resolve_left h0;exact Nu b off n c xs w h.1 hc hn
abbrev zSt:Obj:=.cells #[.slice none 0 0,.slice none 0 0,.slice none 0 0,.int .i64 0,.int .i8 0,.slice none 0 0,.int .i8 0,.int .i64 0] 37
abbrev zSv:Value:=.agg #[.slice none 0 0,.slice none 0 0,.slice none 0 0,.int .i64 0,.int .i8 0,.slice none 0 0,.int .i8 0,.int .i64 0]
variable {w1:World}{TB:Nat}
theorem Lh{a0 a1 a2 a3 a4 a5 a6 a7:Value}(t0 t1 t2 t3 t4 t5 t6 t7:Value)(bT:w1.heap[TB]? =some (.cells #[a0,a1,a2,a3,a4,a5,a6,a7] 37)) :
  let W:=(((((((w1.setCell ⟨TB,0,none⟩ t0).setCell ⟨TB,1,none⟩ t1).setCell ⟨TB,2,none⟩ t2).setCell ⟨TB,3,none⟩ t3).setCell ⟨TB,4,none⟩ t4).setCell ⟨TB,5,none⟩ t5).setCell ⟨TB,6,none⟩ t6).setCell ⟨TB,7,none⟩ t7
  W.heap[TB]? =some (.cells #[t0,t1,t2,t3,t4,t5,t6,t7] 37)/\Kept (fun k=>k=TB) w1 W:=by
 have s0:(w1.setCell ⟨TB,0,none⟩ t0).heap[TB]? =some (.cells #[t0,a1,a2,a3,a4,a5,a6,a7] 37):=aM (i:=0) (u:=t0) bT;have s1:((w1.setCell ⟨TB,0,none⟩ t0).setCell ⟨TB,1,none⟩ t1).heap[TB]? =some (.cells #[t0,t1,a2,a3,a4,a5,a6,a7] 37):=aM (i:=1) (u:=t1) s0;have s2:(((w1.setCell ⟨TB,0,none⟩ t0).setCell ⟨TB,1,none⟩ t1).setCell ⟨TB,2,none⟩ t2).heap[TB]? =some (.cells #[t0,t1,t2,a3,a4,a5,a6,a7] 37):=aM (i:=2) (u:=t2) s1;have s3:((((w1.setCell ⟨TB,0,none⟩ t0).setCell ⟨TB,1,none⟩ t1).setCell ⟨TB,2,none⟩ t2).setCell ⟨TB,3,none⟩ t3).heap[TB]? =some (.cells #[t0,t1,t2,t3,a4,a5,a6,a7] 37):=aM (i:=3) (u:=t3) s2;have s4:(((((w1.setCell ⟨TB,0,none⟩ t0).setCell ⟨TB,1,none⟩ t1).setCell ⟨TB,2,none⟩ t2).setCell ⟨TB,3,none⟩ t3).setCell ⟨TB,4,none⟩ t4).heap[TB]? =some (.cells #[t0,t1,t2,t3,t4,a5,a6,a7] 37):=aM (i:=4) (u:=t4) s3;have s5:((((((w1.setCell ⟨TB,0,none⟩ t0).setCell ⟨TB,1,none⟩ t1).setCell ⟨TB,2,none⟩ t2).setCell ⟨TB,3,none⟩ t3).setCell ⟨TB,4,none⟩ t4).setCell ⟨TB,5,none⟩ t5).heap[TB]? =some (.cells #[t0,t1,t2,t3,t4,t5,a6,a7] 37):=aM (i:=5) (u:=t5) s4;have s6:(((((((w1.setCell ⟨TB,0,none⟩ t0).setCell ⟨TB,1,none⟩ t1).setCell ⟨TB,2,none⟩ t2).setCell ⟨TB,3,none⟩ t3).setCell ⟨TB,4,none⟩ t4).setCell ⟨TB,5,none⟩ t5).setCell ⟨TB,6,none⟩ t6).heap[TB]? =some (.cells #[t0,t1,t2,t3,t4,t5,t6,a7] 37):=aM (i:=6) (u:=t6) s5;have s7:((((((((w1.setCell ⟨TB,0,none⟩ t0).setCell ⟨TB,1,none⟩ t1).setCell ⟨TB,2,none⟩ t2).setCell ⟨TB,3,none⟩ t3).setCell ⟨TB,4,none⟩ t4).setCell ⟨TB,5,none⟩ t5).setCell ⟨TB,6,none⟩ t6).setCell ⟨TB,7,none⟩ t7).heap[TB]? =some (.cells #[t0,t1,t2,t3,t4,t5,t6,t7] 37):=aM (i:=7) (u:=t7) s6;exact⟨s7,(((((((ax w1 TB 0 t0).trans (ax _ TB 1 t1)).trans (ax _ TB 2 t2)).trans (ax _ TB 3 t3)).trans (ax _ TB 4 t4)).trans (ax _ TB 5 t5)).trans (ax _ TB 6 t6)).trans (ax _ TB 7 t7)⟩
variable {W:World}{t0 t1 t2 t3 t4 t5 t6 t7 ev:Value}{tmps:AVz}
theorem LK(bT:W.heap[TB]? =some (.cells #[t0,t1,t2,t3,t4,t5,t6,t7] 37))(h6:tmps[6]? =some (.pointer (some ⟨TB,0,none⟩)))(h7:tmps[7]? =some ev) :
  (results Tryz.f7 tmps).run prog W=.ok (.tuple #[.agg #[t0,t1,t2,t3,t4,t5,t6,t7],ev]) W:=by
 have c0:=iz0 bT;have c1:=iz1 bT;have c2:=iz2 bT;have c3:=iz3 bT;have c4:=iz4 bT;have c5:=iz5 bT;have c6:=iz6 bT;have c7:=iz7 bT;simp[results,results7,go_sem,h6,h7,c0,c1,c2,c3,c4,c5,c6,c7]
variable {P:Program}{ops:Array Oper}{Q:Exit->Act->World->Prop}{i fuel:Nat}{oi:Oper}{v:Value}{a:Act}
theorem cZ{md:Region.Mode}{S:World->Prop}{listed:Array Bool}(hi:ops[i]? =some oi)(h:wpAnyH P md ops Q S fuel (listed.setIfInBounds i true) (a.put oi.dst v) w)(hv:∀w,S w->(execOp a.eval oi).run P w=.ok (.value v) w:=by (intro w h; (try dsimp only at h); go_simp; try with_reducible rfl))
  (hc:(Region.noSelect ops&&Region.free md ops listed i&&(Region.ready md ops listed).contains i)=true:=by kernel_rfl) (hw:Region.wanted oi (yielded ops a.tmps)=true:=by rfl) (hQ:∀c a w,Q (.panic c) (a.put oi.dst v) w->Q (.panic c) a w:=by exact fun _ _ _ h=>h) (hS:S w:=by assumption):wpAnyH P md ops Q S (fuel+1) listed a w:=by
 simp only[Bool.and_eq_true]at hc;exact wpAnyH_take hi hc.1.1 hc.1.2 hc.2 hQ (Or.inl ⟨hw,hv⟩) hS h
variable {o:Oper}
theorem dJ{md:Region.Mode}{S:World->Prop}{listed:Array Bool}{rs:List Nat}(ho:ops[i]? =some o)(h:∀K:Act->World->Prop,Shut (∀a w,S w->(S w->wpAnyH P md ops Q S fuel (listed.setIfInBounds i true) a w)->K a w)->Oper.wp P o a w K Q)(hs:AllReadyH P md ops Q S fuel listed a w rs)(hw:Region.wanted o (yielded ops a.tmps)=true:=by rfl):AllReadyH P md ops Q S fuel listed a w (i::rs):=AllReadyH.cons ho (fun K hK=>vG) hs
theorem eF{md:Region.Mode}{S:World->Prop}{rs:List Nat}{listed:Array Bool}(h:AllReadyH P md ops Q S fuel listed a w rs)(hr:Region.ready md ops listed=rs:=by kernel_rfl)(hne:rs≠[]:=by simp):wpAnyH P md ops Q S (fuel+1) listed a w:=wpAnyH_ready hr hne h
def U4(m:MM)(s:BAz)(j:Nat)(x:Ex):Prop:=m.exps[j]? =some x/\x.1=s/\∀(i:Nat)y,i<j->m.exps[i]? =some y->y.1≠s
def Kk(m:MM)(s:BAz)(k:Nat)(y:FuM)(P:BAz):Prop:=∃j x Q,U4 m s j x/\x.2=(k:Int)/\m.fns[k]? =some y/\m.types[y.1.toNat]? =some (P,Q)
def VH(m:MM)(s:BAz)(zs:LIz)(E:Int):Prop:=KH m\/(E=41/\∀(i:Nat)x,m.exps[i]? =some x->x.1≠s)\/∃k y P,Kk m s k y P/\mf zs P=false
def tP(FB GB LB n gn:Nat):Array Value:=#[.slice (some ⟨FB,0,none⟩) 1 1,.slice (some ⟨GB,0,none⟩) gn gn,.slice (some ⟨LB,0,none⟩) n n,.int .i64 0,.int .i8 1,.slice none 0 0,.int .i8 0,.int .i64 0]
structure Beg(m:MM)(s:BAz)(zs:LIz)(base:Nat)(w:World)(FB GB LB R LO n:Nat):Prop where
 chk:bO m=0
 fi:m.fi=(n:Int)
 fn:∃k y P,Kk m s k y P/\mf zs P=true/\w.heap[FB]? =some (cX k 0 (some ⟨LO,0,none⟩) (P.size+y.2.1.size) (P.size+y.2.1.size) none 0 0)/\RB .u64 53 w LO (P.size+y.2.1.size) (ic zs)
 gl:RB .u64 53 w GB m.gn (glF m.globals)
 pg:w.heap[LB]? =some (.cells (pgL R n).toArray 49)
 by_:RB .u8 5 w R (n*4096) (mW m.data)
 l0:base<=FB
 l1:base<=GB
 l2:base<=LB
 l3:base<=R
 l4:base<=LO
 all:Hy m
def Q0(m:MM)(s:BAz)(zs:LIz)(w:World)(e:Ending)(w':World):Prop :=
 Below w.heap.size w w' /\
 ((∃E,E≠0/\VH m s zs E/\e=.returned (.tuple #[zSv,.int .i64 E])) \/
  ∃FB GB LB R LO n,Beg m s zs w.heap.size w' FB GB LB R LO n/\e=.returned (.tuple #[.agg (tP FB GB LB n m.gn),.int .i64 0]))
variable {nf:Int}{x:Ex}
theorem Jl{ah:List Ex}(h:dO nf ah x=0):0<=x.2/\x.2<nf:=by
 unfold dO at h
 by_cases a1:32<x.1.size
 ·exact oF
 rw[if_neg a1]at h
 by_cases a2:jX x.1=false
 ·exact nv
 rw[if_neg a2]at h
 by_cases a3:gT ah x.1=true
 ·rw[if_pos a3]at h; cases h
 rw[if_neg a3]at h;unfold bD at h
 by_cases a4:x.2<0\/nf<=x.2
 ·exact nt
 omega
variable {s:BAz}
theorem AH(h:∀z∈aC s,z=119\/z=108):cC s s.size=true:=by
 rw[iR];refine⟨fun c hc=>?_,Nat.le_refl _⟩;have:=h (c.toNat:Int) (by unfold aC; exact List.mem_map.2 ⟨c,hc,rfl⟩)
 rcases this with h | h
 ·left; apply UInt8.toNat_inj.1; show c.toNat=119; omega
 right; apply UInt8.toNat_inj.1; show c.toNat=108; omega
variable {zs:LIz}{w4 wn W':World}{N FB GB LB LO z2:Nat}{y:FuM}{P:BAz}
theorem F9(hB4:Below w.heap.size w w4)(hBn:Below w4.heap.size w4 wn)(h1:bO m=0)(hfi:m.fi=(N:Int))(hall:mf zs P=true)(hX:Kk m s k y P)
  (F0:wn.heap[FB]? =some (cX k 0 (some ⟨LO,0,none⟩) (P.size+y.2.1.size) (P.size+y.2.1.size) none 0 0)) (F1:w4.heap.size<=FB) (L0:RB .u64 53 wn LO (P.size+y.2.1.size) (ic zs)) (L1:w4.heap.size<=LO) (G0:RB .u64 53 wn GB m.gn (glF m.globals)) (G1:w4.heap.size<=GB)
  (P0:wn.heap[LB]? =some (.cells (pgL R N).toArray 49)/\RB .u8 5 wn R (N*4096) (mW m.data)) (P1:w4.heap.size<=LB/\w4.heap.size<=R) (zk:Kept (fun k=>k=w.heap.size+1) wn W') (hs2:w.heap.size+1+1<=z2) (h24:z2<=w4.heap.size) (hAT:Hy m) :
  Q0 m s zs w (.returned (.tuple #[.agg (tP FB GB LB N m.gn),.int .i64 0])) W':=by
 have hb:Below w.heap.size w wn:=hB4.trans (hBn.mono hB4.size);have hz:=hB4.size;have ne:∀q,w4.heap.size<=q->¬q=w.heap.size+1:=fun q hq=>ae;refine⟨hb.trans (zk.to_below hb.size (fun q hq e=>by have e:q=w.heap.size+1:=e; omega)),.inr ⟨FB,GB,LB,R,LO,N,⟨h1,hfi,⟨k,y,P,hX,hall,(zk.block _ (qK F0) (ne _ F1)).trans F0,L0.kept zk (ne _ L1)⟩,G0.kept zk (ne _ G1),(zk.block _ (qK P0.1) (ne _ P1.1)).trans P0.1,P0.2.kept zk (ne _ P1.2),ae,ae,ae,ae,ae,hAT⟩,rfl⟩⟩
theorem Sk(m:MM)(s:BAz)(a:OAz)(n cap:Nat)(zs:LIz)(w:World)(hk:bg w)(hp:0<w.heap.size)(hm:∀R g,w.heap.size<=R->w.heap.size<=g->MOk w R g m)(hcap:∀x∈m.fns,x.2.2.1.2.1<=x.2.2.1.2.2)(hz:sN w a n cap zs) :
  Calls prog 7 #[.agg (mV m),.string s,.slice a n cap] w (Q0 m s zs w):=by
 have B1:=aj w (.cells (mV m) 29);have B2:=aj (w.alloc (.cells (mV m) 29)) zSt;have B0:Below w.heap.size w ((w.alloc (.cells (mV m) 29)).alloc zSt):=B1.trans (B2.mono B1.size);have b0:=ak B2 (hZn w (.cells (mV m) 29));have b1:=hZn (w.alloc (.cells (mV m) 29)) zSt;have hz1:(w.alloc (.cells (mV m) 29)).heap.size=w.heap.size+1:=aw;have hz2:((w.alloc (.cells (mV m) 29)).alloc zSt).heap.size=w.heap.size+1+1:=aw;rw[hz1]at b1;have HE:=hid (QB m s ((w.alloc (.cells (mV m) 29)).alloc zSt) (hk.later B0 hp) ae (fun R g h1 h2=>(hm R g ae ae).later B0) hcap);have HM:=hid (hm w.heap.size w.heap.size lRn lRn);have HS:=hid hz;have HBK:=hid (And.intro B0 (And.intro b0 b1));clear hm hk hcap B0 B1 B2 b0 b1 hz1 hz;have HZ2:=hid hz2;clear hz2;show Calls prog 7 #[.agg #[.slice m.ta m.tn m.tc,.slice m.ha m.hn m.hc,.slice m.ga m.gn m.gc,.int .i64 m.fi,.int .i64 m.mo,.slice m.fa m.fn m.fc,.slice m.da m.dn m.dc,.slice m.ea m.en m.ec],.string s,.slice a n cap] w _;unfold mV at HE HBK HZ2;have c0:=iz0 HBK.out.2.1;have c1:=iz1 HBK.out.2.1;have c2:=iz2 HBK.out.2.1;have c3:=iz3 HBK.out.2.1;have c4:=iz4 HBK.out.2.1;have c5:=iz5 HBK.out.2.1;have c6:=iz6 HBK.out.2.1;have c7:=iz7 HBK.out.2.1;go_enter func7,ntmps7
 go_wp2_with fail;refine HE.out.mono ?_;rintro e w2 hO;have hb2:=hO.1;have HB2:Hid (Below w.heap.size w w2):=hid (HBK.out.1.trans (hb2.mono HBK.out.1.size));have t1:=ak hb2 HBK.out.2.2;have t0:=ak hb2 HBK.out.2.1;have HT:=hid (And.intro t0 t1)
 have hs2:w.heap.size+1+1<=w2.heap.size:=by have:=hb2.size; rw[HZ2.out]at this; exact this
 have a0:=iz0 t1;have f0:=free_at (i:=0) t1;have a1:=iz1 t1;have f1:=free_at (i:=1) t1;have a2:=iz2 t1;have f2:=free_at (i:=2) t1;have a3:=iz3 t1;have f3:=free_at (i:=3) t1;have a4:=iz4 t1;have f4:=free_at (i:=4) t1;have a5:=iz5 t1;have f5:=free_at (i:=5) t1;have a6:=iz6 t1;have f6:=free_at (i:=6) t1;have a7:=iz7 t1;have f7:=free_at (i:=7) t1;clear t0 t1 hb2
 rcases hO.2 with ⟨hbad,E,hE,rfl⟩ | ⟨h1,hno,rfl⟩ | ⟨⟨h1,hAT⟩,j,x,hx,hxs,hfirst,rfl⟩
 ·have hx':(E==0)=false:=oY;have HX:=hid (And.intro hbad hE);clear hbad hE hO;go_wp2_with fail;obtain⟨z1,zk⟩:=Lh (.slice none 0 0) (.slice none 0 0) (.slice none 0 0) (.int .i64 0) (.int .i8 0) (.slice none 0 0) (.int .i8 0) (.int .i64 0) HT.out.2
  exact bodyPost_ret (v:=.tuple #[zSv,.int .i64 E]) (LK z1 rfl rfl) rfl ⟨HB2.out.trans (zk.to_below (B:=w.heap.size) HB2.out.size (fun k hk h=>ym)),.inl ⟨E,HX.out.2,.inl HX.out.1,rfl⟩⟩
 ·have HX:=hid hno;clear hno hO;go_wp2_with fail;obtain⟨z1,zk⟩:=Lh (.slice none 0 0) (.slice none 0 0) (.slice none 0 0) (.int .i64 0) (.int .i8 0) (.slice none 0 0) (.int .i8 0) (.int .i64 0) HT.out.2
  exact bodyPost_ret (v:=.tuple #[zSv,.int .i64 41]) (LK z1 rfl rfl) rfl ⟨HB2.out.trans (zk.to_below (B:=w.heap.size) HB2.out.size (fun k hk h=>ym)),.inl ⟨41,aA,.inr (.inl ⟨rfl,HX.out⟩),rfl⟩⟩
 have HAT:=hid hAT;clear hAT;have hpz:=h1;obtain⟨N,hfi,hN,hdl,hel,hFit,hOrd⟩:=wX h1;have hidx:=Jl ((cK (y9 h1).2.2).2 j x hx);obtain⟨nm,fnn⟩:=x;simp only at hidx hxs;obtain⟨k,hkk⟩:∃k:Nat,fnn=(k:Int):=⟨fnn.toNat,ae⟩;subst hkk;have hkl:k<m.fn:=ae;obtain⟨y,hy⟩:∃y,m.fns[k]? =some y:=⟨_,aY (by rw[HM.out.pf.1]; exact hkl)⟩;obtain⟨t,P,Q,hyt,htp,hPl,hlet,_⟩:=Hm h1 HM.out hy;obtain⟨yt,ylo,⟨yca,ycn,ycc⟩,yco⟩:=y;simp only at hyt hPl hlet;subst hyt;obtain⟨fb,fo,hfa,hfc⟩:=HM.out.pf.2.resolve_left ae;obtain⟨p0,p1,p2⟩:=hfc k _ hy;have htl:=az htp
 have htl2:t<m.tn:=by rw[<- HM.out.pt.1]; exact htl
 obtain⟨tb,to_,hta,htc⟩:=HM.out.pt.2.resolve_left ae;obtain⟨r0,r1⟩:=htc t _ htp;have p0:=ag HB2.out p0;have p1:=ag HB2.out p1;have p2:=ag HB2.out p2;have r0:=ag HB2.out r0
 have d0:w2.cell? ⟨w.heap.size,0,none⟩=some (.slice (some ⟨tb,to_,none⟩) m.tn m.tc):=by rw[<- hta]; exact ai HT.out.1
 have d5:w2.cell? ⟨w.heap.size,5,none⟩=some (.slice (some ⟨fb,fo,none⟩) m.fn m.fc):=by rw[<- hfa]; exact ai HT.out.1
 have HFX:Hid (Kk m s k (↑t,ylo,(yca,ycn,ycc),yco) P):=hid ⟨j,(nm,↑k),Q,⟨hx,hxs,hfirst⟩,rfl,hy,htp⟩;have hk':(k:Int)<(m.fn:Int):=ae;have ht':(t:Int)<(m.tn:Int):=ae;have B3:=aj w2 (bk t ylo yca ycn ycc);have hn1:w.heap.size<w2.heap.size:=ae;have HA:=hid (UN a n cap zs P (w2.alloc (bk t ylo yca ycn ycc)) ((HS.out.later HB2.out lRn).later B3 lRn) ae);have d0':=ag B3 d0;have r0':=ag B3 r0;have HG:=hid (And.intro hPl (And.intro hlet (And.intro hFit (And.intro hOrd (And.intro hN (And.intro hfi (And.intro hdl h1)))))));have H3:=hid B3;clear hx hxs hfirst hy htp hfc htc hPl hlet hFit hOrd hN hdl hel hidx h1 hpz hO htl hta hfa hfi B3;go_wp2_with fail;refine HA.out.mono ?_;rintro e w4⟨rfl,hb4⟩;have HB4:Hid (Below w.heap.size w w4):=hid (HB2.out.trans ((H3.out.trans (hb4.mono H3.out.size)).mono HB2.out.size))
 have hs4:w2.heap.size<w4.heap.size:=by have:=hb4.size; simp at this; omega
 have t0:=ak hb4 (ak H3.out HT.out.1);have t1:=ak hb4 (ak H3.out HT.out.2);have t2:=ak hb4 (hZn w2 (bk t ylo yca ycn ycc));clear a0 f0 a1 f1 a2 f2 a3 f3 a4 f4 a5 f5 a6 f6 a7 f7;have a0:=iz0 t1;have f0:=free_at (i:=0) t1;have a1:=iz1 t1;have f1:=free_at (i:=1) t1;have a2:=iz2 t1;have f2:=free_at (i:=2) t1;have a3:=iz3 t1;have f3:=free_at (i:=3) t1;have a4:=iz4 t1;have f4:=free_at (i:=4) t1;have a5:=iz5 t1;have f5:=free_at (i:=5) t1;have a6:=iz6 t1;have f6:=free_at (i:=6) t1;have a7:=iz7 t1;have f7:=free_at (i:=7) t1;have HT4:=hid (And.intro t0 (And.intro t1 t2));clear t0 t1 t2 HT HA hb4 d0 d5 p0 p1 p2 r0 d0' r0' H3
 cases hall:mf zs P
 ·go_wp2_with fail;obtain⟨z1,zk⟩:=Lh (.slice none 0 0) (.slice none 0 0) (.slice none 0 0) (.int .i64 0) (.int .i8 0) (.slice none 0 0) (.int .i8 0) (.int .i64 0) HT4.out.2.1
  exact bodyPost_ret (v:=.tuple #[zSv,.int .i64 42]) (LK z1 rfl rfl) rfl ⟨HB4.out.trans (zk.to_below (B:=w.heap.size) HB4.out.size (fun k hk h=>ym)),.inl ⟨42,aA,.inr (.inr ⟨k,_,P,HFX.out,hall⟩),rfl⟩⟩
 clear a0 f0 a1 f1 a2 f2 a3 f3 a4 f4 a5 f5 a6 f6 a7 f7;obtain⟨hPl,hlet,hFit,hOrd,hN,hfi,hdl,h1⟩:=HG.out;have hal:=(lh zs P).1 hall;have hzn:=HS.out.1;have H16:=hid (fun(W:World) (hb:Below w4.heap.size w4 W)=>Ud (P++ylo) a n cap zs W ((HS.out.later HB4.out lRn).later hb lRn) wh (AH hlet) wh)
 have H17:=hid (fun(W:World) (hb:Below w4.heap.size w4 W)=>TR m.ga m.gn m.gc m.globals W ((HM.out.pg.kept (aP (S:=fun _=>False) HB4.out) (fun _ _ _ _=>id)).kept (aP (S:=fun _=>False) hb) (fun _ _ _ _=>id)) (by
  have h2:=(cK (jY h1).2.2.1).1;rw[HM.out.pg.1]at h2
  omega))
 have H18:=hid (fun(W:World)(hb:Below w4.heap.size w4 W) (v0 v1 v2 v4 v5 v7:Value)=>Ul v0 v1 v2 v4 v5 v7 N m.da m.dn m.dc m.data W hN (by rw[<- HM.out.pd.1]; exact hdl) ((HM.out.pd.kept (aP (S:=fun _=>False) HB4.out) (fun _ _ _ _=>id)).kept (aP (S:=fun _=>False) hb) (fun _ _ _ _=>id)) (fun j x hj=>((HM.out.dr j x hj).2.1.later HB4.out lRn).later hb lRn) hFit);have HFI:=hid (And.intro h1 (And.intro hfi (And.intro hall hn1)));have hsum:¬9223372036854775807<P.size+ylo.size:=ae;have e1:=iz1 HT4.out.2.2;have d0:=iz0 HT4.out.1;have d1:=iz1 HT4.out.1;have d2:=iz2 HT4.out.1
 have d3:w4.cell? ⟨w.heap.size,3,none⟩=some (.int .i64 N):=by rw[<- hfi]; exact ai HT4.out.1
 have d4:=iz4 HT4.out.1;have d5:=iz5 HT4.out.1;have d6:=iz6 HT4.out.1;have d7:=iz7 HT4.out.1;have HMK:=hid (fun(W:World) (hb:Below w4.heap.size w4 W)=>And.intro (ag hb e1) (And.intro (ag hb d0) (And.intro (ag hb d1) (And.intro (ag hb d2) (And.intro (ag hb d3) (And.intro (ag hb d4) (And.intro (ag hb d5) (And.intro (ag hb d6) (ag hb d7)))))))));clear e1 d0 d1 d2 d3 d4 d5 d6 d7 hPl hlet hFit hOrd hN hfi hdl h1 hal hzn hall;go_wp2_with fail;have n1:¬w.heap.size=w.heap.size+1:=ae;have n2:¬w2.heap.size=w.heap.size+1:=ae;refine wp_region_held_drew (S:=fun W=>W.cell? ⟨w2.heap.size,1,none⟩=some (.string ylo)/\W.cell? ⟨w.heap.size,0,none⟩=some (.slice m.ta m.tn m.tc)/\W.cell? ⟨w.heap.size,1,none⟩=some (.slice m.ha m.hn m.hc)/\W.cell? ⟨w.heap.size,2,none⟩=some (.slice m.ga m.gn m.gc)/\W.cell? ⟨w.heap.size,3,none⟩=some (.int .i64 N)/\W.cell? ⟨w.heap.size,4,none⟩=some (.int .i64 m.mo)/\W.cell? ⟨w.heap.size,5,none⟩=some (.slice m.fa m.fn m.fc)/\W.cell? ⟨w.heap.size,6,none⟩=some (.slice m.da m.dn m.dc)/\W.cell? ⟨w.heap.size,7,none⟩=some (.slice m.ea m.en m.ec)) ar (HMK.out _ (below_drewN w4 1)) (fun hS5=>?_)
 have B5:Hid (Below w4.heap.size w4 w4.drew):=hid (below_drewN w4 1);generalize w4.drew=w5 at *;refine cZ (i:=0) rfl ?_;(try simp only[Act.put,sIB]);refine cZ (i:=1) rfl ?_;(try simp only[Act.put]);refine cZ (i:=2) rfl ?_;(try simp only[Act.put]);refine cZ (i:=3) rfl ?_;(try simp only[Act.put]);refine cZ (i:=4) rfl ?_;(try simp only[Act.put]);refine cZ (i:=5) rfl ?_;(try simp only[Act.put]);refine cZ (i:=9) rfl ?_;(try simp only[Act.put]);refine cZ (i:=10) rfl ?_;(try simp only[Act.put]);refine cZ (i:=12) rfl ?_;(try simp only[Act.put]);refine eF (rs:=[6]) ?_
 refine dJ (i:=6) rfl (fun K hK=>?_) rN;go_simp;refine(H16.out _ B5.out).mono ?_;rintro e w6⟨LO,rfl,hLO0,hrL,hb6⟩;have L0:Hid (RB .u64 53 w6 LO (P.size+ylo.size) (ic zs)):=hid (by rw[<- ByteArray.size_append]; exact hrL);have hLO:Hid (w4.heap.size<=LO):=hid (Nat.le_trans B5.out.size hLO0);have B6:=hid (B5.out.trans (hb6.mono B5.out.size));refine hK.out _ _ (HMK.out _ B6.out) (fun _=>?_)
 clear hK K hLO0 hrL hb6 hS5;refine cZ (i:=7) rfl ?_;(try simp only[Act.put,sIB]);refine eF (rs:=[8,11]) ?_
 refine dJ (i:=8) rfl (fun K hK=>?_) (dJ (i:=11) rfl (fun K hK=>?_) rN)
 ·go_simp;obtain⟨w7,hw7⟩:∃W,W=w6.alloc (cX k 0 (some ⟨LO,0,none⟩) (P.size+ylo.size) (P.size+ylo.size) none 0 0):=⟨_,rfl⟩
  have hb7:Below w6.heap.size w6 w7:=by rw[hw7]; exact aj _ _
  have F0:Hid (w7.heap[w6.heap.size]? =some (cX k 0 (some ⟨LO,0,none⟩) (P.size+ylo.size) (P.size+ylo.size) none 0 0)):=hid (by rw[hw7]; exact hZn _ _);have F1:=hid (show w4.heap.size<=w6.heap.size from B6.out.size);have B7:=hid (B6.out.trans (hb7.mono B6.out.size));have L0:Hid (RB .u64 53 w7 LO (P.size+ylo.size) (ic zs)):=hid (L0.out.later hb7);rw[<- hw7];refine hK.out _ _ (HMK.out _ B7.out) (fun _=>?_);clear hK K hb7 hw7;generalize w6.heap.size=FB at F0 F1 ⊢;refine eF (rs:=[11]) ?_;refine dJ (i:=11) rfl (fun K hK=>?_) rN;go_simp;refine(H17.out _ B7.out).mono ?_;rintro e w8⟨GB,rfl,hGB,hrG,hb8⟩;have G0:Hid (RB .u64 53 w8 GB m.gn (glF m.globals)):=hid hrG;have G1:Hid (w4.heap.size<=GB):=hid (Nat.le_trans B7.out.size hGB);have B8:=hid (B7.out.trans (hb8.mono B7.out.size));have L0:Hid (RB .u64 53 w8 LO (P.size+ylo.size) (ic zs)):=hid (L0.out.later hb8);have F0:=hid (ak hb8 F0.out);refine hK.out _ _ (HMK.out _ B8.out) (fun _=>?_);clear hK K hb8 hGB hrG;exact QH
 go_simp;refine(H17.out _ B6.out).mono ?_;rintro e w7⟨GB,rfl,hGB,hrG,hb7⟩;have G0:Hid (RB .u64 53 w7 GB m.gn (glF m.globals)):=hid hrG;have G1:Hid (w4.heap.size<=GB):=hid (Nat.le_trans B6.out.size hGB);have B7:=hid (B6.out.trans (hb7.mono B6.out.size));have L0:Hid (RB .u64 53 w7 LO (P.size+ylo.size) (ic zs)):=hid (L0.out.later hb7);refine hK.out _ _ (HMK.out _ B7.out) (fun _=>?_);clear hK K hb7 hGB hrG;refine eF (rs:=[8,13]) ?_;refine dJ (i:=8) rfl (fun K hK=>?_) (dJ (i:=13) rfl (fun K hK=>?_) rN)
 ·go_simp;obtain⟨w8,hw8⟩:∃W,W=w7.alloc (cX k 0 (some ⟨LO,0,none⟩) (P.size+ylo.size) (P.size+ylo.size) none 0 0):=⟨_,rfl⟩
  have hb8:Below w7.heap.size w7 w8:=by rw[hw8]; exact aj _ _
  have F0:Hid (w8.heap[w7.heap.size]? =some (cX k 0 (some ⟨LO,0,none⟩) (P.size+ylo.size) (P.size+ylo.size) none 0 0)):=hid (by rw[hw8]; exact hZn _ _);have F1:=hid (show w4.heap.size<=w7.heap.size from B7.out.size);have B8:=hid (B7.out.trans (hb8.mono B7.out.size));have L0:Hid (RB .u64 53 w8 LO (P.size+ylo.size) (ic zs)):=hid (L0.out.later hb8);have G0:=hid (G0.out.later hb8);rw[<- hw8];refine hK.out _ _ (HMK.out _ B8.out) (fun _=>?_);clear hK K hb8 hw8;generalize w7.heap.size=FB at F0 F1 ⊢;exact QH
 go_simp;refine(H18.out _ B7.out _ _ _ _ _ _).mono ?_;rintro e w8⟨LB,R,rfl,hLB,hR,hpl,hrb,hb8⟩;have P0:Hid (w8.heap[LB]? =some (.cells (pgL R N).toArray 49)/\RB .u8 5 w8 R (N*4096) (mW m.data)):=hid ⟨hpl,hrb⟩;have P1:Hid (w4.heap.size<=LB/\w4.heap.size<=R):=hid ⟨Nat.le_trans B7.out.size hLB,Nat.le_trans B7.out.size hR⟩;have B8:=hid (B7.out.trans (hb8.mono B7.out.size));have L0:Hid (RB .u64 53 w8 LO (P.size+ylo.size) (ic zs)):=hid (L0.out.later hb8);have G0:=hid (G0.out.later hb8);refine hK.out _ _ (HMK.out _ B8.out) (fun _=>?_);clear hK K hb8 hLB hR hpl hrb;refine eF (rs:=[8]) ?_;refine dJ (i:=8) rfl (fun K hK=>?_) rN;go_simp;obtain⟨w9,hw9⟩:∃W,W=w8.alloc (cX k 0 (some ⟨LO,0,none⟩) (P.size+ylo.size) (P.size+ylo.size) none 0 0):=⟨_,rfl⟩
 have hb9:Below w8.heap.size w8 w9:=by rw[hw9]; exact aj _ _
 have F0:Hid (w9.heap[w8.heap.size]? =some (cX k 0 (some ⟨LO,0,none⟩) (P.size+ylo.size) (P.size+ylo.size) none 0 0)):=hid (by rw[hw9]; exact hZn _ _);have F1:=hid (show w4.heap.size<=w8.heap.size from B8.out.size);have B9:=hid (B8.out.trans (hb9.mono B8.out.size));have L0:Hid (RB .u64 53 w9 LO (P.size+ylo.size) (ic zs)):=hid (L0.out.later hb9);have G0:=hid (G0.out.later hb9);have P0:=hid (And.intro (ak hb9 P0.out.1) (P0.out.2.later hb9));rw[<- hw9];refine hK.out _ _ (HMK.out _ B9.out) (fun _=>?_)
 clear hK K hb9 hw9;generalize w8.heap.size=FB at F0 F1 ⊢;refine cZ (i:=14) rfl ?_;(try simp only[Act.put,sIB]);have kr:=ak B9.out HT4.out.2.1;have a0:=iz0 kr;have f0:=free_at (i:=0) kr;have a1:=iz1 kr;have f1:=free_at (i:=1) kr;have a2:=iz2 kr;have f2:=free_at (i:=2) kr;have a3:=iz3 kr;have f3:=free_at (i:=3) kr;have a4:=iz4 kr;have f4:=free_at (i:=4) kr;have a5:=iz5 kr;have f5:=free_at (i:=5) kr;have a6:=iz6 kr;have f6:=free_at (i:=6) kr;have a7:=iz7 kr;have f7:=free_at (i:=7) kr;have hse:=HMK.out _ B9.out;obtain⟨z1,zk⟩:=Lh (.slice (some ⟨FB,0,none⟩) 1 1) (.slice (some ⟨GB,0,none⟩) m.gn m.gn) (.slice (some ⟨LB,0,none⟩) N N) (.int .i64 0) (.int .i8 1) (.slice none 0 0) (.int .i8 0) (.int .i64 0) kr;have HZ:=hid (And.intro z1 zk);have hS9:=And.intro (zk.cell hse.1 n2) (And.intro (zk.cell hse.2.1 n1) (And.intro (zk.cell hse.2.2.1 n1) (And.intro (zk.cell hse.2.2.2.1 n1) (And.intro (zk.cell hse.2.2.2.2.1 n1) (And.intro (zk.cell hse.2.2.2.2.2.1 n1) (And.intro (zk.cell hse.2.2.2.2.2.2.1 n1) (And.intro (zk.cell hse.2.2.2.2.2.2.2.1 n1) (zk.cell hse.2.2.2.2.2.2.2.2 n1))))))));clear kr z1 zk hse;refine eF (rs:=[15]) ?_
 refine dJ (i:=15) rfl (fun K hK=>?_) rN;go_simp;refine hK.out _ _ hS9 (fun _=>?_)
 clear hK K hS9 a0 f0 a1 f1 a2 f2 a3 f3 a4 f4 a5 f5 a6 f6 a7 f7;refine cZ (i:=16) (oi:={ dst:=some 7,op:=.assign (.const (Go.Value.int Go.IntKind.i64 0)),type:=38,pos:= "instance.go:30",after:=#[⟨15,.chain⟩,⟨0,.phase⟩,⟨1,.phase⟩,⟨2,.phase⟩,⟨3,.phase⟩,⟨4,.phase⟩,⟨5,.phase⟩,⟨6,.phase⟩,⟨7,.phase⟩,⟨8,.phase⟩,⟨9,.phase⟩,⟨10,.phase⟩,⟨11,.phase⟩,⟨12,.phase⟩,⟨13,.phase⟩,⟨14,.phase⟩,⟨15,.phase⟩],guard:=none }) rfl ?_;(try simp only[Act.put,sIB,sC0,sCs]);refine wpAnyH_done ar ?_ _;go_wp2_with fail;exact bodyPost_ret (v:=.tuple #[.agg (tP FB GB LB N m.gn),.int .i64 0]) (LK HZ.out.1 rfl rfl) rfl (F9 HB4.out B9.out HFI.out.1 HFI.out.2.1 HFI.out.2.2.1 HFX.out F0.out F1.out L0.out hLO.out G0.out G1.out P0.out P1.out HZ.out.2 hs2 ae HAT.out)
def kM(TB GB FB CB DB BB EB:Nat):MM :=
 { ta:=some ⟨TB,0,none⟩,tn:=1,tc:=1,types:=[(⟨#[119]⟩,⟨#[]⟩)],ha:=none,hn:=0,hc:=0,hosts:=[],ga:=some ⟨GB,0,none⟩,gn:=1,gc:=1,globals:=[(108,false,9)],fi:=1,mo:=1,fa:=some ⟨FB,0,none⟩,fn:=1,fc:=1,fns:=[(0,⟨#[108]⟩,(some ⟨CB,0,none⟩,1,1),[(6,0,(none,0,0),[])])],da:=some ⟨DB,0,none⟩,dn:=1,dc:=1,data:=[(16,(some ⟨BB,0,none⟩,1,1),[7])],ea:=some ⟨EB,0,none⟩,en:=1,ec:=1,exps:=[(⟨#[102]⟩,0)] }
abbrev kTy:Obj:=.cells #[.string ⟨#[119]⟩,.string ⟨#[]⟩] 55
abbrev kGl:Obj:=.cells #[.int .u8 108,.bool false,.int .u64 9] 80
abbrev kCd:Obj:=.cells #[.int .u8 6,.int .i64 0,.slice none 0 0] 82
abbrev kFn(CB:Nat):Obj:=.cells #[.int .i64 0,.string ⟨#[108]⟩,.slice (some ⟨CB,0,none⟩) 1 1] 61
abbrev kBy:Obj:=.cells #[.int .u8 7] 5
abbrev kDa(BB:Nat):Obj:=.cells #[.int .i64 16,.slice (some ⟨BB,0,none⟩) 1 1] 51
abbrev kEx:Obj:=.cells #[.string ⟨#[102]⟩,.int .i64 0] 64
structure KM(w:World)(TB GB FB CB DB BB EB:Nat):Prop where
 t:w.heap[TB]? =some kTy
 g:w.heap[GB]? =some kGl
 c:w.heap[CB]? =some kCd
 f:w.heap[FB]? =some (kFn CB)
 b:w.heap[BB]? =some kBy
 d:w.heap[DB]? =some (kDa BB)
 e:w.heap[EB]? =some kEx
variable {CB DB BB EB:Nat}
theorem KM.later(h:KM w TB GB FB CB DB BB EB)(hb:Below w.heap.size w w'):KM w' TB GB FB CB DB BB EB:=⟨ak hb h.t,ak hb h.g,ak hb h.c,ak hb h.f,ak hb h.b,ak hb h.d,ak hb h.e⟩
abbrev kV(TB GB FB DB EB:Nat):Array Value:=#[.slice (some ⟨TB,0,none⟩) 1 1,.slice none 0 0,.slice (some ⟨GB,0,none⟩) 1 1,.int .i64 1,.int .i64 1,.slice (some ⟨FB,0,none⟩) 1 1,.slice (some ⟨DB,0,none⟩) 1 1,.slice (some ⟨EB,0,none⟩) 1 1]
theorem SR(TB GB FB CB DB BB EB:Nat):mV (kM TB GB FB CB DB BB EB)=kV TB GB FB DB EB:=rfl
variable {o:Obj}
theorem jH(h:w.heap.size=n):(w.alloc o).heap[n]? =some o:=by rw[<- h]; exact hZn w o
theorem Ut(w:World):Calls prog 10 #[] w fun e w'=>∃TB GB FB CB DB BB EB,e=.returned (.agg (kV TB GB FB DB EB))/\KM w' TB GB FB CB DB BB EB/\Below w.heap.size w w':=by
 obtain⟨W0,hW0⟩:∃W,W=w.alloc (.cells (kV (w.heap.size+1) (w.heap.size+1+1) (w.heap.size+1+1+1+1) (w.heap.size+1+1+1+1+1+1) (w.heap.size+1+1+1+1+1+1+1)) 29):=⟨_,rfl⟩
 have z0:W0.heap.size=w.heap.size+1:=by rw[hW0]; simp
 have h0:W0.heap[w.heap.size]? =some (.cells (kV (w.heap.size+1) (w.heap.size+1+1) (w.heap.size+1+1+1+1) (w.heap.size+1+1+1+1+1+1) (w.heap.size+1+1+1+1+1+1+1)) 29):=by rw[hW0]; exact hZn _ _
 have B0:Below w.heap.size w W0:=by rw[hW0]; exact aj _ _
 have B1:=aj W0 kTy;have h1:(W0.alloc kTy).heap[w.heap.size+1]? =some kTy:=jH z0;have z1:(W0.alloc kTy).heap.size=w.heap.size+1+1:=mG;have B2:=aj (W0.alloc kTy) kGl;have h2:((W0.alloc kTy).alloc kGl).heap[w.heap.size+1+1]? =some kGl:=jH z1;have z2:((W0.alloc kTy).alloc kGl).heap.size=w.heap.size+1+1+1:=mG;have B3:=aj ((W0.alloc kTy).alloc kGl) kCd;have h3:(((W0.alloc kTy).alloc kGl).alloc kCd).heap[w.heap.size+1+1+1]? =some kCd:=jH z2;have z3:(((W0.alloc kTy).alloc kGl).alloc kCd).heap.size=w.heap.size+1+1+1+1:=mG;have B4:=aj (((W0.alloc kTy).alloc kGl).alloc kCd) (kFn (w.heap.size+1+1+1));have h4:((((W0.alloc kTy).alloc kGl).alloc kCd).alloc (kFn (w.heap.size+1+1+1))).heap[w.heap.size+1+1+1+1]? =some (kFn (w.heap.size+1+1+1)):=jH z3;have z4:((((W0.alloc kTy).alloc kGl).alloc kCd).alloc (kFn (w.heap.size+1+1+1))).heap.size=w.heap.size+1+1+1+1+1:=mG;have B5:=aj ((((W0.alloc kTy).alloc kGl).alloc kCd).alloc (kFn (w.heap.size+1+1+1))) kBy;have h5:(((((W0.alloc kTy).alloc kGl).alloc kCd).alloc (kFn (w.heap.size+1+1+1))).alloc kBy).heap[w.heap.size+1+1+1+1+1]? =some kBy:=jH z4;have z5:(((((W0.alloc kTy).alloc kGl).alloc kCd).alloc (kFn (w.heap.size+1+1+1))).alloc kBy).heap.size=w.heap.size+1+1+1+1+1+1:=mG;have B6:=aj (((((W0.alloc kTy).alloc kGl).alloc kCd).alloc (kFn (w.heap.size+1+1+1))).alloc kBy) (kDa (w.heap.size+1+1+1+1+1));have h6:((((((W0.alloc kTy).alloc kGl).alloc kCd).alloc (kFn (w.heap.size+1+1+1))).alloc kBy).alloc (kDa (w.heap.size+1+1+1+1+1))).heap[w.heap.size+1+1+1+1+1+1]? =some (kDa (w.heap.size+1+1+1+1+1)):=jH z5;have z6:((((((W0.alloc kTy).alloc kGl).alloc kCd).alloc (kFn (w.heap.size+1+1+1))).alloc kBy).alloc (kDa (w.heap.size+1+1+1+1+1))).heap.size=w.heap.size+1+1+1+1+1+1+1:=mG;have B7:=aj ((((((W0.alloc kTy).alloc kGl).alloc kCd).alloc (kFn (w.heap.size+1+1+1))).alloc kBy).alloc (kDa (w.heap.size+1+1+1+1+1))) kEx;have h7:(((((((W0.alloc kTy).alloc kGl).alloc kCd).alloc (kFn (w.heap.size+1+1+1))).alloc kBy).alloc (kDa (w.heap.size+1+1+1+1+1))).alloc kEx).heap[w.heap.size+1+1+1+1+1+1+1]? =some kEx:=jH z6;have z7:(((((((W0.alloc kTy).alloc kGl).alloc kCd).alloc (kFn (w.heap.size+1+1+1))).alloc kBy).alloc (kDa (w.heap.size+1+1+1+1+1))).alloc kEx).heap.size=w.heap.size+1+1+1+1+1+1+1+1:=mG;have hfin:=(ak B7 (ak B6 (ak B5 (ak B4 (ak B3 (ak B2 (ak B1 h0)))))));have HK:=hid (show KM (((((((W0.alloc kTy).alloc kGl).alloc kCd).alloc (kFn (w.heap.size+1+1+1))).alloc kBy).alloc (kDa (w.heap.size+1+1+1+1+1))).alloc kEx) (w.heap.size+1) (w.heap.size+1+1) (w.heap.size+1+1+1+1) (w.heap.size+1+1+1) (w.heap.size+1+1+1+1+1+1) (w.heap.size+1+1+1+1+1) (w.heap.size+1+1+1+1+1+1+1) from⟨(ak B7 (ak B6 (ak B5 (ak B4 (ak B3 (ak B2 h1)))))),(ak B7 (ak B6 (ak B5 (ak B4 (ak B3 h2))))),(ak B7 (ak B6 (ak B5 (ak B4 h3)))),(ak B7 (ak B6 (ak B5 h4))),(ak B7 (ak B6 h5)),(ak B7 h6),h7⟩);have HB:=hid (show Below w.heap.size w (((((((W0.alloc kTy).alloc kGl).alloc kCd).alloc (kFn (w.heap.size+1+1+1))).alloc kBy).alloc (kDa (w.heap.size+1+1+1+1+1))).alloc kEx) from B0.trans ((B1.trans ((B2.trans ((B3.trans ((B4.trans ((B5.trans ((B6.trans (B7.mono B6.size)).mono B5.size)).mono B4.size)).mono B3.size)).mono B2.size)).mono B1.size)).mono B0.size));have HF:=hid hfin;subst hW0;clear h0 z0 B0 h1 z1 B1 h2 z2 B2 h3 z3 B3 h4 z4 B4 h5 z5 B5 h6 z6 B6 h7 z7 B7 hfin;go_enter func10,ntmps10
 go_wp2_with fail;exact bodyPost_ret (v:=.agg (kV (w.heap.size+1) (w.heap.size+1+1) (w.heap.size+1+1+1+1) (w.heap.size+1+1+1+1+1+1) (w.heap.size+1+1+1+1+1+1+1))) (results_cell_row rfl _ _ w.heap.size 29 _ (0,0) _ rfl HF.out underlying29 rfl ar) rfl ⟨_,_,_,_,_,_,_,rfl,HK.out,HB.out⟩
theorem Le(h:KM W TB GB FB CB DB BB EB):∀R g,W.heap.size<=R->W.heap.size<=g->MOk W R g (kM TB GB FB CB DB BB EB):=by
 intro R g hR hg
 have far:∀(b:Nat),b<W.heap.size->Far W R g (some ⟨b,0,none⟩):=fun b hb b' off cc e=>by cases e; omega
 have fn:Far W R g none:=fun b off cc e=>iT;have lT:=aN h.t;have lG:=aN h.g;have lC:=aN h.c;have lF:=aN h.f;have lB:=aN h.b;have lD:=aN h.d;have lE:=aN h.e;refine⟨⟨rfl,.inr ⟨TB,0,rfl,fun j x hj=>?_⟩⟩,far _ lT,⟨rfl,.inl rfl⟩,fn,fun j x hj=>by simp[kM]at hj,⟨rfl,.inr ⟨GB,0,rfl,fun j x hj=>?_⟩⟩,far _ lG,fun j x hj=>?_,by simp[kM],by simp[kM],by simp[kM],by simp[kM],⟨rfl,.inr ⟨FB,0,rfl,fun j x hj=>?_⟩⟩,far _ lF,fun j x hj=>?_,⟨rfl,.inr ⟨DB,0,rfl,fun j x hj=>?_⟩⟩,far _ lD,fun j x hj=>?_,⟨rfl,.inr ⟨EB,0,rfl,fun j x hj=>?_⟩⟩,far _ lE,fun j x hj=>?_⟩
 ·match j,hj with
  | 0,hj =>
   obtain rfl:=Option.some.inj hj;exact⟨ai h.t,ai h.t⟩
  | j+1,hj=>simp[kM]at hj
 ·match j,hj with
  | 0,hj =>
   obtain rfl:=Option.some.inj hj;exact⟨ai h.g,ai h.g,ai h.g⟩
  | j+1,hj=>simp[kM]at hj
 ·exact Fi
 ·match j,hj with
  | 0,hj =>
   obtain rfl:=Option.some.inj hj;exact⟨ai h.f,ai h.f,ai h.f⟩
  | j+1,hj=>simp[kM]at hj
 ·match j,hj with
  | 0,hj =>
   obtain rfl:=Option.some.inj hj;refine⟨aw,⟨rfl,.inr ⟨CB,0,rfl,fun i y hi=>?_⟩⟩,(far _ lC).nz _,fun i y hi'=>?_⟩
   ·match i,hi with
    | 0,hi =>
     obtain rfl:=Option.some.inj hi;exact⟨ai h.c,ai h.c,ai h.c⟩
    | i+1,hi=>simp at hi
   match i,hi' with
   | 0,hi =>
    obtain rfl:=Option.some.inj hi;exact⟨aw,aw,⟨rfl,Nat.zero_le _,Nat.zero_le _,fun z hz=>by simp at hz,.inl rfl⟩,fn.nz _⟩
   | i+1,hi=>simp at hi
  | j+1,hj=>simp[kM]at hj
 ·match j,hj with
  | 0,hj =>
   obtain rfl:=Option.some.inj hj;exact⟨ai h.d,ai h.d⟩
  | j+1,hj=>simp[kM]at hj
 ·match j,hj with
  | 0,hj =>
   obtain rfl:=Option.some.inj hj;refine⟨aw,⟨rfl,Nat.le_refl _,aw,fun z hz=>by simp at hz; omega,.inr ⟨BB,0,rfl,fun j hj=>?_⟩⟩,(far _ lB).nz _⟩;have hj:j<1:=hj;obtain rfl:j=0:=ae;exact ai h.b
  | j+1,hj=>simp[kM]at hj
 ·match j,hj with
  | 0,hj =>
   obtain rfl:=Option.some.inj hj;exact⟨ai h.e,ai h.e⟩
  | j+1,hj=>simp[kM]at hj
 exact Fi
section
variable {TB GB FB CB DB BB EB:Nat}
theorem SC:∀x∈(kM TB GB FB CB DB BB EB).fns,x.2.2.1.2.1<=x.2.2.1.2.2:=by simp[kM]
theorem UY:bO (kM TB GB FB CB DB BB EB)=0:=ar
abbrev coK:List InM:=[(6,0,(none,0,0),[])]
theorem erK:∀i,i<1->erA (kM TB GB FB CB DB BB EB) (aC ((⟨#[119]⟩:BAz)++⟨#[108]⟩)) (coK.map inx) ⟨#[]⟩ 1 i=0
 | 0,_=>by kernel_rfl
 | i+1,h=>absurd h ae
theorem reK:(res (opF (coK.map inx)) 1 0).1=0:=ar
theorem okK:¬KH (kM TB GB FB CB DB BB EB):=by
 rintro(h | ⟨k,x,E,pc,hx,hE,_⟩)
 ·exact h UY
 match k,hx with
 | 0,hx =>
  obtain rfl:=Option.some.inj hx
  rcases hE with ⟨hr,_⟩ | ⟨_,P,Q,hP,j,hj,_,hj2,_⟩
  ·exact hr reK
  obtain⟨rfl,rfl⟩:=Prod.mk.inj (Option.some.inj hP);exact hj2 (erK j hj)
 | k+1,hx=>simp[kM]at hx
theorem Uo(h:Kk (kM TB GB FB CB DB BB EB) ⟨#[102]⟩ k y P):k=0/\y=(0,⟨#[108]⟩,(some ⟨CB,0,none⟩,1,1),coK)/\P=⟨#[119]⟩:=by
 obtain⟨j,x,Q,⟨hx,_,_⟩,hk,hy,hP⟩:=h
 match j,hx with
 | 0,hx =>
  obtain rfl:=Option.some.inj hx;have hk:(0:Int)=(k:Int):=hk;obtain rfl:k=0:=ae;obtain rfl:=Option.some.inj hy;obtain⟨rfl,rfl⟩:=Prod.mk.inj (Option.some.inj hP);exact⟨rfl,rfl,rfl⟩
 | j+1,hx=>simp[kM]at hx
end
section
variable {TB GB FB CB DB BB EB:Nat}
theorem VN(w:World)(hk:bg w)(h:KM w TB GB FB CB DB BB EB):Calls prog 14 #[.agg (kV TB GB FB DB EB),.string ⟨#[102]⟩] w fun e w'=>e=.returned (.tuple #[.int .i64 0,.int .i64 0])/\Below w.heap.size w w':=by
 have hm:=QB (kM TB GB FB CB DB BB EB) ⟨#[102]⟩ w hk hk.pos (Le h) SC;rw[SR]at hm;refine hm.mono (fun e w' hO=>?_);refine⟨?_,hO.1⟩
 rcases hO.2 with ⟨hb,_⟩ | ⟨_,hno,_⟩ | ⟨_,j,x,hx,_,_,he⟩
 ·exact absurd hb okK
 ·exact absurd rfl (hno 0 (⟨#[102]⟩,0) rfl)
 match j,hx with
 | 0,hx =>
  obtain rfl:=Option.some.inj hx;exact he
 | j+1,hx=>simp[kM]at hx
theorem SN{TB:Nat}(bT:W.heap[TB]? =some (.cells #[t0,t1] 55))(h4:tmps[4]? =some (.pointer (some ⟨TB,0,none⟩)))(h5:tmps[5]? =some ev) :
  (results Tryz.f11 tmps).run prog W=.ok (.tuple #[.agg #[t0,t1],ev]) W:=by
 have c0:=iz0 bT;have c1:=iz1 bT;simp[results,results11,go_sem,h4,h5,c0,c1]
theorem UC(w:World)(hk:bg w)(h:KM w TB GB FB CB DB BB EB):Calls prog 11 #[.agg (kV TB GB FB DB EB),.string ⟨#[102]⟩] w fun e w'=>e=.returned (.tuple #[.agg #[.string ⟨#[119]⟩,.string ⟨#[]⟩],.int .i64 0])/\Below w.heap.size w w':=by
 have B1:=aj w (.cells (kV TB GB FB DB EB) 29);have B2:=aj (w.alloc (.cells (kV TB GB FB DB EB) 29)) (aD ⟨#[]⟩ ⟨#[]⟩);have B0:Below w.heap.size w ((w.alloc (.cells (kV TB GB FB DB EB) 29)).alloc (aD ⟨#[]⟩ ⟨#[]⟩)):=B1.trans (B2.mono B1.size);have b0:=ak B2 (hZn w (.cells (kV TB GB FB DB EB) 29));have b1:((w.alloc (.cells (kV TB GB FB DB EB) 29)).alloc (aD ⟨#[]⟩ ⟨#[]⟩)).heap[w.heap.size+1]? =some (aD ⟨#[]⟩ ⟨#[]⟩):=jH aw;have HE:=hid (VN (TB:=TB) (GB:=GB) (FB:=FB) (CB:=CB) (DB:=DB) (BB:=BB) (EB:=EB) _ (hk.later B0 hk.pos) (h.later B0));have HKM:=hid (h.later B0);have HBK:=hid (And.intro B0 (And.intro b0 b1));have c0:=iz0 b0;have c1:=iz1 b0;have c2:=iz2 b0;have c3:=iz3 b0;have c4:=iz4 b0;have c5:=iz5 b0;have c6:=iz6 b0;have c7:=iz7 b0;clear hk h B0 B1 B2 b0 b1;go_enter func11,ntmps11
 go_wp2_with fail;refine HE.out.mono ?_;rintro e w2⟨rfl,hb2⟩;have hB2:Below w.heap.size w w2:=HBK.out.1.trans (hb2.mono HBK.out.1.size);have t0:=ak hb2 HBK.out.2.1;have t1:=ak hb2 HBK.out.2.2;have K2:=HKM.out.later hb2;have d0:=iz0 t0;have d5:=iz5 t0;have y0:=iz0 K2.f;have s0:=iz0 K2.t;have s1:=iz1 K2.t;have a0:=iz0 t1;have a1:=iz1 t1;have f0:=free_at (i:=0) t1;have f1:=free_at (i:=1) t1;have HT:=hid (And.intro hB2 t1);clear hb2 hB2 t0 t1 K2 HE HKM HBK c0 c1 c2 c3 c4 c5 c6 c7;go_wp2_with fail
 go_region
 go_wp2_with fail;have z:=aM (i:=1) (u:=.string ⟨#[]⟩) (aM (i:=0) (u:=.string ⟨#[119]⟩) HT.out.2);have zk:=(ax w2 (w.heap.size+1) 0 (.string ⟨#[119]⟩)).trans (ax _ (w.heap.size+1) 1 (.string ⟨#[]⟩));refine bodyPost_ret (v:=.tuple #[.agg #[.string ⟨#[119]⟩,.string ⟨#[]⟩],.int .i64 0]) (SN (ak (below_drewN _ 1) z) rfl rfl) rfl ⟨rfl,?_⟩;have hz:=HT.out.1.size
 exact(HT.out.1.trans (zk.to_below hz (fun q hq e=>by have e:q=w.heap.size+1:=e; omega))).trans ((below_drewN _ 1).mono (Nat.le_trans hz zk.size))
theorem VJ(a:Nat)(w:World)(hk:bg w)(h:KM w TB GB FB CB DB BB EB)(hz:w.heap[a]? =some (oV 5)):Calls prog 7 #[.agg (kV TB GB FB DB EB),.string ⟨#[102]⟩,.slice (some ⟨a,0,none⟩) 1 1] w fun e w'=>Below w.heap.size w w'/\∃XB YB LB R LO,e=.returned (.tuple #[.agg (tP XB YB LB 1 1),.int .i64 0]) /\
   w'.heap[XB]? =some (cX 0 0 (some ⟨LO,0,none⟩) 2 2 none 0 0)/\RB .u64 53 w' LO 2 (ic [5])/\RB .u64 53 w' YB 1 (glF [(108,false,9)])/\w'.heap[LB]? =some (.cells (pgL R 1).toArray 49)/\RB .u8 5 w' R (1*4096) (mW [(16,(some ⟨BB,0,none⟩,1,1),[7])]):=by
 have hc:∀j,j<1->w.cell? ⟨a,0+j,none⟩=some (.int .u64 (([5]:LIz).getD j 0)):=by
  intro j hj;obtain rfl:j=0:=ae;exact ai hz
 have hs:sN w (some ⟨a,0,none⟩) 1 1 [5]:=⟨rfl,Nat.le_refl _,ae,fun z hz=>by simp at hz; omega,.inr ⟨a,0,rfl,hc⟩⟩;have hm:=Sk (kM TB GB FB CB DB BB EB) ⟨#[102]⟩ _ 1 1 [5] w hk hk.pos (Le h) SC hs;rw[SR]at hm;refine hm.mono (fun e w' hO=>⟨hO.1,?_⟩)
 rcases hO.2 with ⟨E,_,hE,_⟩ | ⟨XB,YB,LB,R,LO,n,hB,he⟩
 ·exfalso
  rcases hE with hE | ⟨_,hno⟩ | ⟨k,y,P,hX,hall⟩
  ·exact okK hE
  ·exact hno 0 (⟨#[102]⟩,0) rfl rfl
  obtain⟨_,_,rfl⟩:=Uo hX;have:mf [5] ⟨#[119]⟩=true:=ar;rw[this]at hall; cases hall
 have hn:n=1:=by have h1:(1:Int)=(n:Int):=hB.fi; omega
 subst hn;obtain⟨k,y,P,hX,_,h1,h2⟩:=hB.fn;obtain⟨rfl,rfl,rfl⟩:=Uo hX;exact⟨XB,YB,LB,R,LO,he,h1,h2,hB.gl,hB.pg,hB.by_⟩
theorem U0(w:World)(hk:bg w)(h:KM w TB GB FB CB DB BB EB):Calls prog 7 #[.agg (kV TB GB FB DB EB),.string ⟨#[103]⟩,.slice none 0 0] w fun e w'=>Below w.heap.size w w'/\e=.returned (.tuple #[zSv,.int .i64 41]):=by
 have hs:sN w none 0 0 []:=⟨rfl,Nat.le_refl _,ae,fun z hz=>by simp at hz,.inl rfl⟩;have hm:=Sk (kM TB GB FB CB DB BB EB) ⟨#[103]⟩ _ 0 0 [] w hk hk.pos (Le h) SC hs;rw[SR]at hm;refine hm.mono (fun e w' hO=>⟨hO.1,?_⟩)
 have none_:∀(j:Nat)x,(kM TB GB FB CB DB BB EB).exps[j]? =some x->x.1≠⟨#[103]⟩:=fun j x hx=>by
  match j,hx with
  | 0,hx =>
   obtain rfl:=Option.some.inj hx;intro e;have:=congrArg (fun b:ByteArray=>b.data.toList) e;simp at this
  | j+1,hx=>simp[kM]at hx
 rcases hO.2 with ⟨E,_,hE,he⟩ | ⟨XB,YB,LB,R,LO,n,hB,he⟩
 ·rcases hE with hE | ⟨rfl,_⟩ | ⟨k,y,P,⟨j,x,Q,⟨hx,hn,_⟩,_⟩,_⟩
  ·exact absurd hE okK
  ·exact he
  exact absurd hn (none_ j x hx)
 obtain⟨k,y,P,⟨j,x,Q,⟨hx,hn,_⟩,_⟩,_⟩:=hB.fn;exact absurd hn (none_ j x hx)
end
def SI(k:IntKind)(w:World)(a:OAz)(n:Nat)(l:LIz):Prop :=
 l.length=n/\(n=0\/∃b off,a=some ⟨b,off,none⟩/\∀(j:Nat)x,l[j]? =some x->w.cell? ⟨b,off+j,none⟩=some (.int k x))
variable {a:OAz}
theorem SI.later{k:IntKind}(h:SI k w a n l)(hb:Below w.heap.size w w'):SI k w' a n l :=
 ⟨h.1,h.2.imp id fun⟨b,off,e,hc⟩=>⟨b,off,e,fun j x hj=>ag hb (hc j x hj)⟩⟩
abbrev PgM:=(Option Addr×Nat×Nat)×List Int
abbrev FrM:=Int×Int×((Option Addr×Nat×Nat)×List Int)×((Option Addr×Nat×Nat)×List Int)
structure SPg(w:World)(a:OAz)(n:Nat)(l:List PgM):Prop where
 len:l.length=n
 at_:n=0\/∃b off,a=some ⟨b,off,none⟩/\∀(j:Nat)x,l[j]? =some x->w.cell? ⟨b,off+j,none⟩=some (.slice x.1.1 x.1.2.1 x.1.2.2)
 in_:∀x∈l,SI .u8 w x.1.1 x.1.2.1 x.2
theorem SPg.later{l:List PgM}(h:SPg w a n l)(hb:Below w.heap.size w w'):SPg w' a n l :=
 ⟨h.len,h.at_.imp id fun⟨b,off,e,hc⟩=>⟨b,off,e,fun j x hj=>ag hb (hc j x hj)⟩,fun x hx=>(h.in_ x hx).later hb⟩
structure SFr(w:World)(a:OAz)(n:Nat)(l:List FrM):Prop where
 len:l.length=n
 at_:n=0\/∃b off,a=some ⟨b,off,none⟩/\∀(j:Nat)x,l[j]? =some x->w.cell? ⟨b,off+j*4,none⟩=some (.int .i64 x.1)/\w.cell? ⟨b,off+j*4+1,none⟩=some (.int .i64 x.2.1)/\w.cell? ⟨b,off+j*4+2,none⟩=some (.slice x.2.2.1.1.1 x.2.2.1.1.2.1 x.2.2.1.1.2.2)/\w.cell? ⟨b,off+j*4+3,none⟩=some (.slice x.2.2.2.1.1 x.2.2.2.1.2.1 x.2.2.2.1.2.2)
 in_:∀x∈l,SI .u64 w x.2.2.1.1.1 x.2.2.1.1.2.1 x.2.2.1.2/\SI .u64 w x.2.2.2.1.1 x.2.2.2.1.2.1 x.2.2.2.2
theorem SFr.later{l:List FrM}(h:SFr w a n l)(hb:Below w.heap.size w w'):SFr w' a n l :=
 ⟨h.len,h.at_.imp id fun⟨b,off,e,hc⟩=>⟨b,off,e,fun j x hj=>⟨ag hb (hc j x hj).1,ag hb (hc j x hj).2.1,ag hb (hc j x hj).2.2.1,ag hb (hc j x hj).2.2.2⟩⟩,fun x hx=>⟨(h.in_ x hx).1.later hb,(h.in_ x hx).2.later hb⟩⟩
def lE{α:Type}(f:α->α->Bool)(l1 l2:List α):Bool:=decide (l1.length=l2.length)&&(List.range l1.length).all fun i=>(l1[i]?).elim true fun x=>(l2[i]?).elim true (f x)
theorem Sl{α:Type}{f:α->α->Bool}{l1 l2:List α}(h:l1.length≠l2.length):lE f l1 l2=false:=by simp[lE,h]
theorem UX{α:Type}{f:α->α->Bool}{l1 l2:List α}{x y:α}(hx:l1[i]? =some x)(hy:l2[i]? =some y)(h:f x y=false):lE f l1 l2=false:=by
 have hi:=az hx;unfold lE;exact Gu
theorem TI{α:Type}{f:α->α->Bool}{l1 l2:List α}(hl:l1.length=l2.length)(h:∀(i:Nat)x y,l1[i]? =some x->l2[i]? =some y->f x y=true):lE f l1 l2=true:=by
 unfold lE;exact Li
def iE(x y:Int):Bool:=decide (x=y)
theorem KG(b1 o1 b2 o2 n c1 c2:Nat)(l1 l2:LIz)(w:World)(h1:l1.length=n)(h2:l2.length=n)(hn:n<=1099511627776)
  (hc1:∀(j:Nat)x,l1[j]? =some x->w.cell? ⟨b1,o1+j,none⟩=some (.int .u64 x))
  (hc2:∀(j:Nat)x,l2[j]? =some x->w.cell? ⟨b2,o2+j,none⟩=some (.int .u64 x)) :
  Calls prog 12 #[.slice (some ⟨b1,o1,none⟩) n c1,.slice (some ⟨b2,o2,none⟩) n c2] w fun e w'=>e=.returned (.bool (lE iE l1 l2))/\Below w.heap.size w w':=by
 have hne:((n:Int) != n)=false:=aw;have C1:=hid hc1;have C2:=hid hc2;clear hc1 hc2;go_enter func12,ntmps12
 go_wp2
 go_loopw [5] (fun i wr=>∃k m:Nat,k<=n/\i=.int .i64 k/\wr=w.drewN m/\Hid (∀(i:Nat)x y,i<k->l1[i]? =some x->l2[i]? =some y->iE x y=true)) (fun i _=>n-(intOf i).toNat)
 case atStart=>exact⟨0,0,ae,rfl,rfl,hid (fun i x y hi=>ae)⟩
 case round =>
  obtain⟨k,m,hk,rfl,rfl,HE⟩:=hrel
  by_cases hlt:k<n
  ·obtain⟨x,hx⟩:∃x,l1[k]? =some x:=⟨_,aY ae⟩;obtain⟨y,hy⟩:∃y,l2[k]? =some y:=⟨_,aY ae⟩;have g1:w.cell? ⟨b1,o1+k,none⟩=some (.int .u64 x):=C1.out k x hx;have g2:w.cell? ⟨b2,o2+k,none⟩=some (.int .u64 y):=C2.out k y hy;have hlt':(k:Int)<(n:Int):=ae;have HX:=hid hx;have HY:=hid hy;clear hx hy C1 C2
   by_cases hxy:x=y
   ·subst hxy;have hb:(x != x)=false:=aw;go_wp2
    go_quiet (fail)
    go_wp2
    exact⟨⟨k+1,m+nq,ae,bH,rfl,hid (fun i x' y' hi hx' hy'=>by
     by_cases hik:i<k
     ·exact HE.out i x' y' hik hx' hy'
     obtain rfl:i=k:=ae;rw[HX.out]at hx'; rw[HY.out]at hy';injection hx' with e1; injection hy' with e2;subst e1; subst e2
     simp[iE])⟩,bI⟩
   have hb:(x != y)=true:=by simp[hxy]
   go_wp2
   go_quiet (fail)
   go_wp2;go_ret
   exact⟨by rw[UX HX.out HY.out (by simp[iE,hxy])]; rfl,(below_drewN w m).trans ((below_drewN (w.drewN m) nq).mono (Nat.le_of_eq aw))⟩
  clear C1 C2;obtain rfl:k=n:=ae;go_wp2;go_ret;exact⟨by rw[TI ae (fun i x y hx hy=>HE.out i x y (by have:=az hx; omega) hx hy)]; rfl,below_drewN _ _⟩
theorem Iu(a1 a2:OAz)(n1 n2 c1 c2:Nat)(l1 l2:LIz)(w:World)(h1:l1.length=n1)(h2:l2.length=n2)(hne:n1≠n2) :
  Calls prog 12 #[.slice a1 n1 c1,.slice a2 n2 c2] w fun e w'=>e=.returned (.bool (lE iE l1 l2))/\Below w.heap.size w w':=by
 have hb:((n1:Int) != n2)=true:=aK;have HV:=hid (Sl (f:=iE) (l1:=l1) (l2:=l2) ae);go_enter func12,ntmps12
 go_wp2;go_ret;exact⟨cP,Below.refl _ _⟩
theorem DC(a1 a2:OAz)(c1 c2:Nat)(w:World) :
  Calls prog 12 #[.slice a1 0 c1,.slice a2 0 c2] w fun e w'=>e=.returned (.bool (lE iE [] []))/\Below w.heap.size w w':=by
 go_enter func12,ntmps12
 go_wp2;refine wp_loop_rounds 1 ?_;rw[rounds_succ];go_wp2;go_ret;exact lR
theorem Qw(a1 a2:OAz)(n1 n2 c1 c2:Nat)(l1 l2:LIz)(w:World)(h1:SI .u64 w a1 n1 l1)(h2:SI .u64 w a2 n2 l2)(hn:n1<=1099511627776) :
  Calls prog 12 #[.slice a1 n1 c1,.slice a2 n2 c2] w fun e w'=>e=.returned (.bool (lE iE l1 l2))/\Below w.heap.size w w':=by
 by_cases hne:n1=n2
 ·subst hne;obtain⟨hz1,g1⟩:=h1;obtain⟨hz2,g2⟩:=h2
  by_cases h0:n1=0
  ·subst h0;obtain rfl:=List.eq_nil_of_length_eq_zero hz1;obtain rfl:=List.eq_nil_of_length_eq_zero hz2;exact DC a1 a2 c1 c2 w
  obtain⟨b1,o1,rfl,e1⟩:=g1.resolve_left h0;obtain⟨b2,o2,rfl,e2⟩:=g2.resolve_left h0;exact KG b1 o1 b2 o2 n1 c1 c2 l1 l2 w hz1 hz2 hn e1 e2
 exact Iu a1 a2 n1 n2 c1 c2 l1 l2 w h1.1 h2.1 hne
end Go.Proofs.YtepcmfegggdjfaaGreatDoor

/-
  Texts Rd Re Ri Ck Bp Bq Ub.
-/
import Derived.Test.YtheefojaplnnoaaGreatDoorY11
set_option linter.unusedVariables false
set_option maxRecDepth 100000
set_option maxHeartbeats 16000000
namespace Go.Proofs.YtheefojaplnnoaaGreatDoor
open Go.Proofs.Tryz
open Go.RowKit
theorem KA(s:BAz)(most:Nat)(w:World)(hs:s.size<=281474976710656)(hm:most<=1073741824) :
  Zw 162 #[.string s,ZI most] w (ZG (.bool (bY s most)) w):=by
 by_cases hbig:most<s.size
 ·exact PD
 exact qE s most w ae hm
def ltE(s:BAz)(most:Nat):Int:=if most<s.size then 13 else if bY s most=false then 15 else 0
theorem oz(s:BAz)(most:Nat)(w:World)(hs:s.size<=281474976710656)(hm:most<=1073741824) :
  Zw 240 #[.string s,ZI most] w (ZG (ZI (ltE s most)) w):=by
 by_cases hbig:most<s.size
 ·have h':(most:Int)<s.size:=ae
  have HV:=hid (show ltE s most=13 by unfold ltE; rw[if_pos hbig]);go_enter func240,ntmps240
  go_wp2;go_ret;exact⟨dS,rfl⟩
 have h':¬(most:Int)<s.size:=ae;have he:=KA s most w hs hm
 cases hb:bY s most with
 | false =>
  rw[hb]at he;have HE:=hid he;have HV:=hid (show ltE s most=15 by unfold ltE; rw[if_neg hbig,if_pos hb]);exact Gm
 | true =>
  rw[hb]at he;have HE:=hid he;have HV:=hid (show ltE s most=0 by unfold ltE; rw[if_neg hbig,if_neg (by rw[hb]; simp)]);exact Gm
theorem Sy(v c:Int)(w:World):Zw 241 #[.int .u64 v,ZU c] w fun e w'=>e=.returned (.bool (ib v c))/\w'=w:=by
 rcases nP c with ⟨rfl,h⟩ | ⟨rfl,h⟩ | ⟨h1,h2,h⟩
 all_goals
  go_enter func241,ntmps241
  go_wp2;go_ret
  first | exact⟨rfl,rfl⟩ | (simp_all [ib])
theorem uF(s:BAz):kU s=true↔0<s.size/\∀i,i<s.size->33<=fR s i/\fR s i<=126:=by
 unfold kU bh;rw[Bool.and_eq_true,List.all_eq_true,bq]
 constructor
 ·intro ⟨h1,h2⟩
  have h3:s.data.toList≠[]:=by intro e; rw[e]at h2; simp at h2
  refine⟨by rw[cQ]; exact List.length_pos_iff.2 h3,fun i hi=>?_⟩
  have hi':i<s.data.toList.length:=by rw[cQ]at hi; exact hi
  have:=h1 ((s.data.toList[i]'hi').toNat:Int) (List.mem_map.2 ⟨_,List.getElem_mem hi',rfl⟩);rw[fR,aD hi',Option.getD_some];exact cR
 intro ⟨h1,h2⟩;refine⟨fun b hb=>?_,?_⟩
 ·obtain⟨c,hc,rfl⟩:=List.mem_map.1 hb;obtain⟨i,hi,rfl⟩:=List.getElem_of_mem hc
  have:=h2 i (by rw[cQ]; exact hi);rw[fR,aD hi,Option.getD_some]at this;exact cR
 rw[cQ]at h1
 cases h:s.data.toList with
 | nil=>rw[h]at h1; simp at h1
 | cons a r=>rfl
def nmE(s ahead:BAz)(first:Bool):Int:=if 32<s.size then 13 else if kU s=false then 23 else if first=false/\sGt s ahead=false then 18 else 0
theorem KN(s ahead:BAz)(first:Bool)(w:World)(hs:s.size<=281474976710656) :
  Zw 243 #[.string s,.string ahead,.bool first] w (ZG (ZI (nmE s ahead first)) w):=by
 by_cases hbig:32<s.size
 ·have h':(32:Int)<s.size:=ae
  have HV:=hid (show nmE s ahead first=13 by unfold nmE; rw[if_pos hbig])
  exact Gs
 have h':¬(32:Int)<s.size:=ae
 by_cases h0:s.size=0
 ·have HV:=hid (show nmE s ahead first=23 by
   unfold nmE;rw[if_neg hbig,if_pos]
   cases hb:kU s with
   | false=>rfl
   | true=>have:=((uF s).1 hb).1; omega)
  have hl:(s.toList==[])=true:=by
   rw[bq];have:s.data.toList=[]:=Z6 (by rw[<- cQ]; exact h0);rw[this]; rfl
  exact Gs
 have hl:(s.toList==[])=false:=by
  rw[bq]
  cases h:s.data.toList with
  | nil=>rw[cQ,h]at h0; exact absurd rfl h0
  | cons a r=>rfl
 have HL:=hid hl;go_enter func243,ntmps243;go_wp2_with fail
 go_loop [7] (fun i=>∃k:Nat,k<=s.size/\i=ZI k/\∀i,i<k->33<=fR s i/\fR s i<=126) (fun i=>s.size-(intOf i).toNat)
 case atStart=>exact⟨0,Z5 _,rfl,fun i h=>ae⟩
 case round =>
  obtain⟨k,hk,rfl,hall⟩:=hrel;have HA:=hid hall;clear hall
  by_cases hlt:k<s.size
  ·have hlt':(k:Int)<s.size:=ae;have hbk:=lI s k hlt
   by_cases hc:33<=fR s k/\fR s k<=126
   ·have c1:decide (((s[k]'hlt).toNat:Int)<33)=false:=yO;have c2:decide ((126:Int)<((s[k]'hlt).toNat:Int))=false:=yO;go_wp2_with fail
    refine⟨⟨k+1,ae,av,fun i hi=>?_⟩,bD⟩
    rcases Zae i k with h | h
    ·exact HA.out i h
    obtain rfl:i=k:=ae;exact hc
   have HV:=hid (show nmE s ahead first=23 by
    unfold nmE;rw[if_neg hbig,if_pos]
    cases hb:kU s with
    | false=>rfl
    | true=>exact absurd (((uF s).1 hb).2 k hlt) hc)
   by_cases hc1:fR s k<33
   ·have c1:decide (((s[k]'hlt).toNat:Int)<33)=true:=by rw[hbk]; simpa using hc1
    exact pV
   have c1:decide (((s[k]'hlt).toNat:Int)<33)=false:=by rw[hbk]; simpa using hc1
   have c2:decide ((126:Int)<((s[k]'hlt).toNat:Int))=true:=yO;exact pV
  have hlt':¬(k:Int)<s.size:=ae;have fj:kU s=true:=(uF s).2 ⟨ae,fun i hi=>HA.out i ae⟩
  cases first with
  | true =>
   have HV:=hid (show nmE s ahead true=0 by unfold nmE; rw[if_neg hbig,if_neg (by rw[fj]; simp),if_neg av]);exact pV
  | false =>
   cases hg:(Op.bytesLess s.toList ahead.toList || s.toList==ahead.toList) with
   | true =>
    have HV:=hid (show nmE s ahead false=18 by
     unfold nmE;rw[if_neg hbig,if_neg (by rw[fj]; simp),if_pos];refine⟨rfl,?_⟩;unfold sGt
     cases h1:Op.bytesLess s.toList ahead.toList with
     | true=>rfl
     | false =>
      rw[h1,Bool.false_or]at hg
      rw[hg]; rfl)
    exact pV
   | false =>
    have HV:=hid (show nmE s ahead false=0 by
     unfold nmE;rw[if_neg hbig,if_neg (by rw[fj]; simp),if_neg];intro hx;obtain⟨h1,h2⟩:=Bool.or_eq_false_iff.1 hg;have h3:=hx.2;unfold sGt at h3;rw[h1,h2]at h3
     cases h3)
    exact pV
variable {n:Nat}
theorem jS{α:Type}{l:List α}(h:l.length=n):l.take n=l:=ZY ae
theorem KT(ah:List Sg)(x:Sg):cV ah x=orE (ltE x.1 8) (orE (ltE x.2 8) (if ia ah x=true then 16 else 0)):=by
 unfold cV ltE orE
 by_cases h1:8<x.1.size
 ·simp[h1]
 by_cases h2:bY x.1 8=false
 ·simp[h1,h2]
 by_cases h3:8<x.2.size
 ·simp[h1,h2,h3]
 by_cases h4:bY x.2 8=false <;> simp[h1,h2,h3,h4]
variable {x y:Sg}{k:Nat}
theorem JL{ah:List Sg}(hk:ah[k]? =some y)(h:((y.1.toList==x.1.toList)&&(y.2.toList==x.2.toList))=true):ia ah x=true:=by
 unfold ia;rw[List.any_eq_true];exact⟨y,ZO hk,h⟩
theorem vD(m:MM)(w:World)(pt:jP w m.ta m.tn m.types)(ph:mE w m.ha m.hn m.hosts)(hr:∀(j:Nat)x,m.hosts[j]? =some x->-9223372036854775808<=x/\x<9223372036854775808)(hs:∀(j:Nat)x,m.types[j]? =some x->x.1.size<=281474976710656/\x.2.size<=281474976710656)(htn:m.tn<=281474976710656)(hhn:m.hn<=281474976710656) :
  Zw 206 #[.agg (mV m)] w (ZC (ZI (orE (e1 m) (e2 m))) w):=by
 have HPT:=hid (fun(W:World) (hb:Zx w W)=>pt.kept (bC hb) (fun _ _ _ _=>id));have HPH:=hid (fun(W:World) (hb:Zx w W)=>ph.kept (bC hb) (fun _ _ _ _=>id));obtain⟨HR,HS⟩:=Zz hr hs;have tl:=pt.1;have hl:=ph.1;clear pt ph hr hs;have B0:=aj w (.cells (mV m) 29);have b0:=hZn w (.cells (mV m) 29);have HW:w.alloc (bM m.ta m.tn m.tc m.ha m.hn m.hc m.ga m.gn m.gc m.fi m.mo m.fa m.fn m.fc m.da m.dn m.dc m.ea m.en m.ec)=w.alloc (.cells (mV m) 29):=rfl;generalize w.alloc (.cells (mV m) 29)=W0 at *;have FS:=hid B0;have HX:=hid (fun(W:World) (hb:Zx W0 W)=>(⟨ai hb (ag b0),ai hb (ag b0)⟩:W.cell? (ZA w.heap.size 0)=some (.slice m.ta m.tn m.tc)/\W.cell? (ZA w.heap.size 1)=some (.slice m.ha m.hn m.hc)));obtain⟨m0,m1⟩:=HX.out W0 (ZT _ _);clear B0 b0;show Zw 206 #[.agg #[.slice m.ta m.tn m.tc,.slice m.ha m.hn m.hc,.slice m.ga m.gn m.gc,ZI m.fi,ZI m.mo,.slice m.fa m.fn m.fc,.slice m.da m.dn m.dc,.slice m.ea m.en m.ec]] w _
 by_cases ht:64<m.tn
 ·have HV:=hid (show orE (e1 m) (e2 m)=20 by
   have:e1 m=20:=by unfold e1 bG; rw[if_pos ae]
   rw[this]; rfl)
  have ht':(64:Int)<(m.tn:Int):=ae;go_enter func206,ntmps206;exact sD
 have ht':¬(64:Int)<(m.tn:Int):=ae;have HE1:=hid (show e1 m=bj cV [] m.types by unfold e1 bG; rw[if_neg ae]);go_enter func206,ntmps206
 go_wp2_with fail;clear m0 m1 HW
 go_loopw [3,4,5] (fun i _ _ wr=>∃t:Nat,t<=m.tn/\i=ZI t/\Hid (bj cV [] (m.types.take t)=0)/\Hid (Zx W0 wr)) (fun i _ _ _=>m.tn-(intOf i).toNat)
 case atStart=>exact⟨0,Z5 _,rfl,hid rfl,hid (ZT _ _)⟩
 case round =>
  obtain⟨t,htn,rfl,HF,HB⟩:=hrel;obtain⟨m0,m1⟩:=HX.out wr HB.out
  by_cases hlt:t<m.tn
  ·have hlt':(t:Int)<(m.tn:Int):=ae;obtain⟨x,hx⟩:=ZB m.types t ae;obtain⟨tb,tof,Up,hat⟩:=(HPT.out wr (FS.out.trans (HB.out.mono FS.out.size))).2.resolve_left ae;obtain⟨g0,g1⟩:=hat t x hx;obtain⟨s0,s1⟩:=HS.out t x hx;have HL0:=hid (oz x.1 8 wr s0 ae);have HL1:=hid (oz x.2 8 wr s1 ae);have HC:=hid (KT (m.types.take t) x)
   have HH:=hid (fun hne=>fY cV m.types t x hx HF.out hne);have HT:=hid (fun hz=>fV cV m.types t x hx HF.out hz);have rn:=hid hat;have It:(0:Int)<=(t:Int):=ae;clear hat;rw[Up]at m0
   try rw[Up]
   by_cases z0:ltE x.1 8=0
   ·rw[z0]at HL0
    by_cases z1:ltE x.2 8=0
    ·rw[z1]at HL1;go_wp2_with fail;refine HL0.out.mono ?_;rintro e w1⟨rfl,hw⟩;have hw2:=hw.symm;subst hw2;go_wp2_with fail;refine HL1.out.mono ?_;rintro e w1⟨rfl,hw⟩;have hw2:=hw.symm;subst hw2;go_wp2_with fail;have HXT:=hid hx;clear HL0 HL1 m0 m1 g0 g1 hw hx
     go_loopw [5] (fun k wq=>∃q:Nat,q<=t/\k=ZI q/\Hid (ia (m.types.take q) x=false)/\Hid (Zx W0 wq)) (fun k _=>t-(intOf k).toNat)
     case atStart=>exact⟨0,Z5 _,rfl,hid rfl,HB⟩
     case round =>
      obtain⟨q,hq,rfl,HTW,HB⟩:=hrel;obtain⟨m0,m1⟩:=HX.out _ HB.out;rw[Up]at m0
      by_cases hqt:q<t
      ·have hqt':(q:Int)<(t:Int):=ae;obtain⟨y,hy⟩:=ZB m.types q ae;obtain⟨tb2,tof2,hta2,X2⟩:=(HPT.out _ (FS.out.trans (HB.out.mono FS.out.size))).2.resolve_left ae;rw[Up]at hta2
       injection hta2 with hta2;injection hta2 with h1 h2;subst h1 h2;obtain⟨g0,g1⟩:=X2 t x HXT.out;obtain⟨g2,g3⟩:=X2 q y hy;have pw:=hid (fun(n:Nat)=>(show Zx W0 (wr.drewN n) from dY HB.out (Kept.drewN (fun _=>False) _ n) HB.out.size (fun _ x=>x.elim)));have hqn:(q:Int)<(m.tn:Int):=ae
       have hyt:(m.types.take t)[q]? =some y:=by rw[List.getElem?_take,if_pos hqt]; exact hy
       have HYT:=hid hyt;clear X2 hy hyt
       by_cases hcc:y.1.toList=x.1.toList/\y.2.toList=x.2.toList
       ·obtain⟨c1,c2⟩:=hcc
        have HV:=hid (show orE (e1 m) (e2 m)=16 by
         have hc:cV (m.types.take t) x=16:=by rw[HC.out,aM z0,aM z1,if_pos (JL HYT.out (by simp[c1,c2]))]
         rw[HE1.out,HH.out jk,hc]; rfl)
        exact rZ
       have HN:=hid (show ia (m.types.take (q+1)) x=false by
        have hqx:m.types[q]? =some y:=by have:=HYT.out; rwa [List.getElem?_take,if_pos hqt]at this
        rw[List.take_add_one,hqx];have h1:=HTW.out;unfold ia at h1 ⊢;rw[List.any_append,h1];simp only[Option.toList_some,List.any_cons,List.any_nil,Bool.or_false,Bool.false_or]
        cases hcm:((y.1.toList==x.1.toList)&&(y.2.toList==x.2.toList)) with
        | false=>rfl
        | true=>exact absurd (by simpa using hcm) hcc)
       by_cases c1:y.1.toList=x.1.toList
       ·have c2:¬y.2.toList=x.2.toList:=fun c=>hcc ⟨c1,c⟩
        exact EI
       exact EI
      obtain rfl:q=t:=ae;have HN:=hid (HT.out (by rw[HC.out,aM z0,aM z1,HTW.out]; rfl))
      go_wp2_with fail;exact⟨⟨q+1,ae,bu,HN,HB⟩,bD⟩
    have HV:=hid (show orE (e1 m) (e2 m)=ltE x.2 8 by
     have hc:cV (m.types.take t) x=ltE x.2 8:=by rw[HC.out,aM z0,eo z1]
     rw[HE1.out,HH.out (by rw[hc]; exact z1),hc,eo z1])
    generalize ltE x.2 8=E at *
    have hE:(E != 0)=true:=by simpa using z1
    go_wp2_with fail;refine HL0.out.mono ?_;rintro e w1⟨rfl,hw⟩;have hw2:=hw.symm;subst hw2;go_wp2_with fail;refine HL1.out.mono ?_;exact sK
   have HV:=hid (show orE (e1 m) (e2 m)=ltE x.1 8 by
    have hc:cV (m.types.take t) x=ltE x.1 8:=by rw[HC.out,eo z0]
    rw[HE1.out,HH.out (by rw[hc]; exact z0),hc,eo z0])
   generalize ltE x.1 8=E at *;have hE:(E != 0)=true:=s9;go_wp2_with fail;refine HL0.out.mono ?_;exact sK
  obtain rfl:t=m.tn:=ae
  have we:e1 m=0:=by rw[HE1.out]; have:=HF.out; rwa [jS tl]at this
  by_cases hh:32<m.hn
  ·have HV:=hid (show orE (e1 m) (e2 m)=20 by
    have:e2 m=20:=by unfold e2 bG; rw[if_pos ae]
    rw[aM we,this])
   have hh':(32:Int)<(m.hn:Int):=ae;exact EF
  have hh':¬(32:Int)<(m.hn:Int):=ae;have HE2:=hid (show orE (e1 m) (e2 m)=bj (fun(_:LIz) x=>cO m.tn x) [] m.hosts by rw[aM we]; unfold e2 bG; rw[if_neg ae]);clear we HE1 HF;go_wp2_with fail;clear m0 m1
  go_loopw [6] (fun i wr=>∃t:Nat,t<=m.hn/\i=ZI t/\Hid (bj (fun(_:LIz) x=>cO m.tn x) [] (m.hosts.take t)=0)/\Hid (Zx W0 wr)) (fun i _=>m.hn-(intOf i).toNat)
  case atStart=>exact⟨0,Z5 _,rfl,hid rfl,HB⟩
  case round =>
   obtain⟨t,hth,rfl,HF,HB⟩:=hrel;obtain⟨m0,m1⟩:=HX.out _ HB.out
   by_cases hlt:t<m.hn
   ·have hlt':(t:Int)<(m.hn:Int):=ae;obtain⟨x,hx⟩:=ZB m.hosts t ae;obtain⟨tb,tof,hha,hat⟩:=(HPH.out _ (FS.out.trans (HB.out.mono FS.out.size))).2.resolve_left ae;have g0:=hat t x hx;have hr:=HR.out t x hx
    have HH:=hid (fun hne=>fY (fun(_:LIz) x=>cO m.tn x) m.hosts t x hx HF.out hne);have HT:=hid (fun hz=>fV (fun(_:LIz) x=>cO m.tn x) m.hosts t x hx HF.out hz);have pw:=hid (fun(n:Nat)=>(show Zx W0 (wr.drewN n) from dY HB.out (Kept.drewN (fun _=>False) _ n) HB.out.size (fun _ x=>x.elim)));rw[hha]at m1
    try rw[hha]
    clear hat hx
    by_cases hb:x<0\/(m.tn:Int)<=x
    ·have HV:=hid (show orE (e1 m) (e2 m)=30 by
      have hc:cO m.tn x=30:=by unfold cO; rw[if_pos hb]
      rw[HE2.out,HH.out jk]; exact hc)
     by_cases h0:x<0
     ·have d0:decide (x<0)=true:=iJ;exact rZ
     have d0:decide (x<0)=false:=iJ;have d1:decide ((m.tn:Int)<=x)=true:=aA;exact rZ
    have HN:=hid (HT.out (show cO m.tn x=0 by unfold cO; rw[if_neg hb]));have d0:decide (x<0)=false:=aA;have d1:decide ((m.tn:Int)<=x)=false:=aA;go_wp2_with fail
    go_quiet (fail)
    exact Gp
   obtain rfl:t=m.hn:=ae;have HV:=hid (show orE (e1 m) (e2 m)=0 by rw[HE2.out]; have:=HF.out; rwa [jS hl]at this);exact ju
theorem rT(m:MM)(w:World)(pg:qI w m.ga m.gn m.globals)(hr:∀(j:Nat)x,m.globals[j]? =some x->0<=x.1/\x.1<=255/\0<=x.2.2/\x.2.2<18446744073709551616)(i0:-9223372036854775808<=m.fi)(i1:m.fi<9223372036854775808)(o0:-9223372036854775808<=m.mo)(o1:m.mo<9223372036854775808)(hgn:m.gn<=281474976710656) :
  Zw 207 #[.agg (mV m)] w (ZC (ZI (orE (e3 m) (orE (e4 m) (e5 m)))) w):=by
 have HPG:=hid (fun(W:World) (hb:Zx w W)=>pg.kept (bC hb) (fun _ _ _ _=>id));have HR:=hid hr;have gl:=pg.1;clear pg hr;have B0:=aj w (.cells (mV m) 29);have b0:=hZn w (.cells (mV m) 29);have HW:w.alloc (bM m.ta m.tn m.tc m.ha m.hn m.hc m.ga m.gn m.gc m.fi m.mo m.fa m.fn m.fc m.da m.dn m.dc m.ea m.en m.ec)=w.alloc (.cells (mV m) 29):=rfl;generalize w.alloc (.cells (mV m) 29)=W0 at *;have FS:=hid B0;have HX:=hid (fun(W:World) (hb:Zx W0 W)=>(⟨ai hb (ag b0),ai hb (ag b0),ai hb (ag b0)⟩:W.cell? (ZA w.heap.size 2)=some (.slice m.ga m.gn m.gc)/\W.cell? (ZA w.heap.size 3)=some (ZI m.fi)/\W.cell? (ZA w.heap.size 4)=some (ZI m.mo)));obtain⟨m2,m3,m4⟩:=HX.out W0 (ZT _ _);clear B0 b0;show Zw 207 #[.agg #[.slice m.ta m.tn m.tc,.slice m.ha m.hn m.hc,.slice m.ga m.gn m.gc,ZI m.fi,ZI m.mo,.slice m.fa m.fn m.fc,.slice m.da m.dn m.dc,.slice m.ea m.en m.ec]] w _
 by_cases ht:64<m.gn
 ·have HV:=hid (show orE (e3 m) (orE (e4 m) (e5 m))=20 by
   have:e3 m=20:=by unfold e3 bG; rw[if_pos ae]
   rw[this]; rfl)
  have ht':(64:Int)<(m.gn:Int):=ae;go_enter func207,ntmps207;exact sD
 have ht':¬(64:Int)<(m.gn:Int):=ae;have HE3:=hid (show e3 m=bj (fun(_:List Gl) x=>fe x) [] m.globals by unfold e3 bG; rw[if_neg ae]);go_enter func207,ntmps207
 go_wp2_with fail;clear m2 m3 m4 HW
 go_loopw [3] (fun i wr=>∃t:Nat,t<=m.gn/\i=ZI t/\Hid (bj (fun(_:List Gl) x=>fe x) [] (m.globals.take t)=0)/\Hid (Zx W0 wr)) (fun i _=>m.gn-(intOf i).toNat)
 case atStart=>exact⟨0,Z5 _,rfl,hid rfl,hid (ZT _ _)⟩
 case round =>
  obtain⟨t,htn,rfl,HF,HB⟩:=hrel;obtain⟨m2,m3,m4⟩:=HX.out wr HB.out
  by_cases hlt:t<m.gn
  ·have hlt':(t:Int)<(m.gn:Int):=ae;obtain⟨x,hx⟩:=ZB m.globals t ae;obtain⟨gb,gof,hga,hat⟩:=(HPG.out wr (FS.out.trans (HB.out.mono FS.out.size))).2.resolve_left ae;obtain⟨g0,g1,g2⟩:=hat t x hx;obtain⟨r0,r1,r2,r3⟩:=HR.out t x hx
   have HH:=hid (fun hne=>fY (fun(_:List Gl) x=>fe x) m.globals t x hx HF.out hne);have HT:=hid (fun hz=>fV (fun(_:List Gl) x=>fe x) m.globals t x hx HF.out hz);have pw:=hid (fun(n:Nat)=>(show Zx W0 (wr.drewN n) from dY HB.out (Kept.drewN (fun _=>False) _ n) HB.out.size (fun _ x=>x.elim)));clear hat hx;rw[hga]at m2
   try rw[hga]
   obtain⟨xl,xm,xv⟩:=x;dsimp only at *;have It:(0:Int)<=(t:Int):=ae
   cases hl:isL xl with
   | false =>
    have HV:=hid (show orE (e3 m) (orE (e4 m) (e5 m))=15 by
     have hc:fe (xl,xm,xv)=15:=by unfold fe; rw[if_pos hl]
     rw[HE3.out,HH.out jk,hc]; rfl)
    have HL:=pL xl wr;rw[hl]at HL;have HL:=hid HL;go_wp2_with fail;refine HL.out.mono ?_;exact sK
   | true =>
    have HL:=pL xl wr;rw[hl]at HL;have HL:=hid HL;have HFI:=hid (fun(W:World)=>Sy xv xl W)
    cases hf:ib xv xl with
    | false =>
     have HV:=hid (show orE (e3 m) (orE (e4 m) (e5 m))=17 by
      have hc:fe (xl,xm,xv)=17:=by unfold fe; rw[if_neg (by rw[hl]; simp),if_pos hf]
      rw[HE3.out,HH.out jk,hc]; rfl)
     rw[hf]at HFI;go_wp2_with fail;refine HL.out.mono ?_;rintro e w1⟨rfl,hw⟩;have hw2:=hw.symm;subst hw2;go_wp2_with fail
     go_quiet ((go_at_call 241; exact Calls.quiet_of_same (HFI.out _)))
     go_wp2_with fail;go_ret;exact⟨dS,FS.out.trans ((pw.out _).mono FS.out.size)⟩
    | true =>
     have HN:=hid (HT.out (show fe (xl,xm,xv)=0 by unfold fe; rw[if_neg (by rw[hl]; simp),if_neg uE]));rw[hf]at HFI;go_wp2_with fail;refine HL.out.mono ?_;rintro e w1⟨rfl,hw⟩;have hw2:=hw.symm;subst hw2;go_wp2_with fail
     go_quiet ((go_at_call 241; exact Calls.quiet_of_same (HFI.out _)))
     exact Gp
  obtain rfl:t=m.gn:=ae
  have we:e3 m=0:=by rw[HE3.out]; have:=HF.out; rwa [jS gl]at this
  by_cases hb:(m.fi<0\/64<m.fi)\/(m.mo<m.fi\/64<m.mo)
  ·have HV:=hid (show orE (e3 m) (orE (e4 m) (e5 m))=17 by
    rw[aM we];unfold e4 e5 jK
    by_cases h1:m.fi<0\/64<m.fi
    ·rw[if_pos h1]; rfl
    rw[if_neg h1,if_pos (hb.resolve_left h1)]; rfl)
   clear we
   by_cases q1:m.fi<0
   ·have d1:decide (m.fi<0)=true:=by simpa using q1
    exact ju
   have d1:decide (m.fi<0)=false:=by simpa using q1
   by_cases q2:64<m.fi
   ·have d2:decide ((64:Int)<m.fi)=true:=by simpa using q2
    exact ju
   have d2:decide ((64:Int)<m.fi)=false:=by simpa using q2
   by_cases q3:m.mo<m.fi
   ·have d3:decide (m.mo<m.fi)=true:=by simpa using q3
    exact ju
   have d3:decide (m.mo<m.fi)=false:=by simpa using q3
   have d4:decide ((64:Int)<m.mo)=true:=aA;exact ju
  have HV:=hid (show orE (e3 m) (orE (e4 m) (e5 m))=0 by
   rw[aM we];unfold e4 e5 jK
   rw[if_neg ae,if_neg ae]; rfl)
  clear we;have d1:decide (m.fi<0)=false:=aA;have d2:decide ((64:Int)<m.fi)=false:=aA;have d3:decide (m.mo<m.fi)=false:=aA;have d4:decide ((64:Int)<m.mo)=false:=aA;exact ju
theorem Ah(s:BAz)(w:World)(hs:s.size<=2000000) :
  Zw 211 #[.string s] w fun e w'=>∃a c,e=.returned (.slice a (gz s).length c)/\Seg w' a (gz s).length c (gz s)/\(a=none->c=0)/\Zx w w':=by
 refine(NV s w hs).mono ?_;rintro e w' ⟨a,c,he,X1,hb⟩;have hl:(gz s).length=(aw s.size).length+s.size:=Cn s;have hu:=ay s.size;rw[<- hl]at he X1;refine⟨a,c,he,X1,fun h=>?_,hb⟩
 rcases X1.2.2.2.2 with h0 | ⟨b,off,e2,_⟩
 ·omega
 rw[h]at e2; cases e2
theorem uC:∀(l:LIz),okL l->∀z∈eX l,0<=z/\z<=255
 | [],_,z,hz=>by simp[eX]at hz
 | x::l,h,z,hz=>by
  simp only[eX,List.mem_append]at hz
  rcases hz with hz | hz
  ·exact gV x h.1.1 (by have:=h.1.2; omega) z hz
  exact uC l h.2 z hz
variable {x:InM}
theorem KH(h0:0<=x.1)(h1:x.1<=255)(h:d9 x=0):∀z∈dZ x,0<=z/\z<=255:=by
 intro z hz;obtain⟨k1,k2,k3,k4,k5⟩:=qB h;have lr:=qg (tkV x.1) (lgV x.1);have hr:=p8 (tkV x.1) (lgV x.1);unfold dZ lS Bz at hz
 rcases List.mem_cons.1 hz with rfl | hz
 ·exact⟨h0,h1⟩
 by_cases t0:tkV x.1=0
 ·rw[if_pos t0]at hz; cases hz
 rw[if_neg t0]at hz
 by_cases t8:tkV x.1=8
 ·rw[if_pos t8]at hz;have hf:=mN x.2.1 ae ae;exact gV _ hf.1 hf.2 z hz
 rw[if_neg t8]at hz;have hh:=hr.2.2 t8
 by_cases t3:tkV x.1=3
 ·rw[if_pos t3]at hz;obtain⟨q1,q2,q3⟩:=k4 t3
  rcases List.mem_append.1 hz with hz | hz
  ·exact gV _ ae ae z hz
  exact uC _ q3 z hz
 rw[if_neg t3]at hz;exact gV _ ae ae z hz
theorem R3(x:InM)(w:World)(h0:0<=x.1)(h1:x.1<=255)(hl:gW w x.2.2.1.1 x.2.2.1.2.1 x.2.2.1.2.2 x.2.2.2)(hx:d9 x=0) :
  Zw 213 #[.agg #[ZU x.1,ZI x.2.1,.slice x.2.2.1.1 x.2.2.1.2.1 x.2.2.1.2.2]] w fun e w'=>∃a c,e=.returned (.tuple #[.slice a (dZ x).length c,ZI 0])/\Seg w' a (dZ x).length c (dZ x)/\(a=none->c=0)/\Zx w w':=by
 have h:=J9 x.1 x.2.1 _ _ _ x.2.2.2 w h0 h1 hl hx;unfold jW at h;refine h.mono ?_;rintro e w' ⟨v,he,ho,hb⟩;have hle:=jL hx;obtain⟨a,c,rfl,hs,hn⟩:=lM (zs:=dZ x) ho (by show(dZ x).length<=_; omega) (KH h0 h1 hx);exact⟨a,c,he,hs,hn,hb⟩
variable {w:World}{b:Nat}{z:Int}
theorem DW(h:w.cell? (ZA b 0)=some (ZU z))(h0:0<=z)(h1:z<=255):Seg w (some (ZA b 0)) [z].length 1 [z] :=
 ⟨rfl,av,av,fun y hy=>by
   obtain rfl:y=z:=by simpa using hy
   exact⟨h0,h1⟩,.inr ⟨b,0,rfl,fun j hj=>by
  have:j=0:=by simp at hj; omega
  subst this; simpa using h⟩⟩
variable {nf:Int}{x:Ex}
theorem AZ{ah:List Ex}(h:eI nf ah x=0):(eJ x).length<=60:=by
 unfold eI at h
 split at h
 ·cases h
 have a:=ek x.1 32 ae;have b:=ay x.2;simp only[eJ,ZV]; omega
variable {t:Nat}
theorem Qx{α β:Type}(g:α->List β)(L:List α){x:α}(h:L[t]? =some x):(L.take (t+1)).flatMap g=(L.take t).flatMap g++g x:=by
 rw[List.take_add_one,h];simp
theorem lZ{α:Type}(enc:α->List Int){xs:List α}{x:α}(h:xs[t]? =some x):(xs.take (t+1)).flatMap enc=(xs.take t).flatMap enc++enc x:=Qx enc xs h
variable {a b:Int}
theorem dw(h:orE a b=0):a=0/\b=0:=by
 unfold orE at h
 by_cases ha:a=0
 ·rw[if_neg (by simpa using ha)]at h; exact⟨ha,h⟩
 rw[if_pos ha]at h; exact absurd h ha
variable {m:MM}
theorem Ef(h:fK m=0):e1 m=0/\e2 m=0/\e3 m=0/\e4 m=0/\e5 m=0/\e6 m=0/\e7 m=0/\e8 m=0:=by
 unfold fK at h;obtain⟨h1,h⟩:=dw h;obtain⟨h2,h⟩:=dw h;obtain⟨h3,h⟩:=dw h;obtain⟨h4,h⟩:=dw h;obtain⟨h5,h⟩:=dw h;obtain⟨h6,h⟩:=dw h;obtain⟨h7,h⟩:=dw h;exact⟨h1,h2,h3,h4,h5,h6,h7,h⟩
variable {most:Int}
theorem gY{α:Type}{f:List α->α->Int}{xs:List α}(h:bG f most xs=0):∀(j:Nat)x,xs[j]? =some x->f (xs.take j) x=0:=by
 unfold bG at h
 split at h
 ·cases h
 intro j x hj;have:=br f xs [] h j x hj;exact cR
theorem iB{α:Type}{f:List α->α->Int}{xs:List α}(h:bG f most xs=0):(xs.length:Int)<=most/\∀(j:Nat)x,xs[j]? =some x->f (xs.take j) x=0:=by
 unfold bG at h
 split at h
 ·cases h
 rename_i hl;refine⟨ae,fun j x hj=>?_⟩;have:=br f xs [] h j x hj;exact cR
variable {x:Sg}
theorem Cl{ah:List Sg}(h:cV ah x=0):x.1.size<=8/\bY x.1 8=true/\x.2.size<=8/\bY x.2 8=true:=by
 unfold cV at h
 by_cases a1:8<x.1.size
 ·rw[if_pos a1]at h; cases h
 rw[if_neg a1]at h
 by_cases a2:bY x.1 8=false
 ·rw[if_pos a2]at h; cases h
 rw[if_neg a2]at h
 by_cases a3:8<x.2.size
 ·rw[if_pos a3]at h; cases h
 rw[if_neg a3]at h
 by_cases a4:bY x.2 8=false
 ·rw[if_pos a4]at h; cases h
 exact⟨ae,by simpa using a2,ae,by simpa using a4⟩
theorem Cb{sg:List Sg}{left ty:Int}{lo:BAz}{xs:List InM}(h:gv sg left ty lo xs=0):0<=ty/\ty<sg.length/\lo.size+(qJ sg ty).size<=64/\bY lo 64=true/\xs.length<=2048/\∀(j:Nat)x,xs[j]? =some x->d9 x=0:=by
 unfold gv at h
 by_cases a1:ty<0\/(sg.length:Int)<=ty
 ·rw[if_pos a1]at h; cases h
 rw[if_neg a1]at h
 by_cases a2:64<lo.size+(qJ sg ty).size
 ·rw[if_pos a2]at h; cases h
 rw[if_neg a2]at h
 by_cases a3:bY lo 64=false
 ·rw[if_pos a3]at h; cases h
 rw[if_neg a3]at h
 by_cases a4:min 2048 left<(xs.length:Int)
 ·rw[if_pos a4]at h; cases h
 rw[if_neg a4]at h;exact⟨ae,ae,ae,by simpa using a3,ae,fun j x hj=>by simpa using br _ xs [] h j x hj⟩
variable {t:Int}{g:Bool}{l:LIz}
theorem Ak(h:chk t g a l=0):t≠-1/\lo t g<=a/\a<=hi t g/\l.length<=16/\(t=3->0<l.length)/\(t≠3->l.length=0):=by
 unfold chk at h
 by_cases a1:t=-1
 ·rw[if_pos a1]at h; cases h
 rw[if_neg a1]at h
 by_cases a2:a<lo t g\/hi t g<a
 ·rw[if_pos a2]at h; cases h
 rw[if_neg a2]at h
 by_cases a3:t=3
 ·rw[if_pos a3]at h
  by_cases a4:l.length<1\/16<l.length
  ·rw[if_pos a4]at h; cases h
  exact⟨a1,ae,ae,ae,fun _=>ae,fun e=>absurd a3 e⟩
 rw[if_neg a3]at h
 by_cases a4:l.length=0
 ·exact⟨a1,ae,ae,ae,fun e=>absurd e a3,fun _=>a4⟩
 rw[if_neg a4]at h; cases h
variable {x:Gl}
theorem Dg(h:fe x=0):(x.1=119\/x.1=108)/\ib x.2.2 x.1=true:=by
 unfold fe at h
 by_cases b1:isL x.1=false
 ·exact pY
 rw[if_neg b1]at h
 have b2:isL x.1=true:=by simpa using b1
 simp only[isL,Bool.or_eq_true,decide_eq_true_eq]at b2;refine⟨b2,?_⟩
 by_cases b3:ib x.2.2 x.1=false
 ·rw[if_pos b3]at h; cases h
 simpa using b3
variable {n x:Int}
theorem mU(h:cO n x=0):0<=x/\x<n:=by
 unfold cO at h
 by_cases b1:x<0\/n<=x
 ·exact pY
 omega
theorem uw(h:jK n x=0):n<=x/\x<=64:=by
 unfold jK at h
 by_cases b1:x<n\/64<x
 ·exact pY
 omega
variable {room:Int}{x:DaM}
theorem Ce{ah:List DaM}(h:cg room ah x=0):0<=x.1/\x.1<=room/\fF ah x.1=false/\(x.2.2.length:Int)<=room-x.1/\x.2.2.length≠0:=by
 unfold cg at h
 by_cases b1:x.1<0\/room<x.1
 ·exact pY
 rw[if_neg b1]at h
 by_cases b2:fF ah x.1=true
 ·rw[if_pos b2]at h; cases h
 rw[if_neg b2]at h
 by_cases b3:room-x.1<(x.2.2.length:Int)
 ·rw[if_pos b3]at h; cases h
 rw[if_neg b3]at h
 by_cases b4:x.2.2.length=0
 ·rw[if_pos b4]at h; cases h
 exact⟨ae,ae,by simpa using b2,ae,b4⟩
variable {x:Ex}
theorem CG{ah:List Ex}(h:eI nf ah x=0):x.1.size<=32/\kU x.1=true/\gP ah x.1=false/\0<=x.2/\x.2<nf:=by
 unfold eI at h
 by_cases b1:32<x.1.size
 ·exact pY
 rw[if_neg b1]at h
 by_cases b2:kU x.1=false
 ·rw[if_pos b2]at h; cases h
 rw[if_neg b2]at h
 by_cases b3:gP ah x.1=true
 ·rw[if_pos b3]at h; cases h
 rw[if_neg b3]at h;exact⟨ae,by simpa using b2,by simpa using b3,(mU h).1,(mU h).2⟩
structure Pas(m:MM):Prop where
 nt:m.types.length<=64
 ty:∀(j:Nat)x,m.types[j]? =some x->x.1.size<=8/\bY x.1 8=true/\x.2.size<=8/\bY x.2 8=true
 nh:m.hosts.length<=32
 ho:∀(j:Nat)x,m.hosts[j]? =some x->0<=x/\x<m.tn
 ng:m.globals.length<=64
 gl:∀(j:Nat)x,m.globals[j]? =some x->(x.1=119\/x.1=108)/\ib x.2.2 x.1=true
 fi:0<=m.fi/\m.fi<=64
 mo:m.fi<=m.mo/\m.mo<=64
 nf:m.fns.length<=128
 fn:∀(j:Nat)x,m.fns[j]? =some x->0<=x.1/\x.1<m.types.length/\x.2.1.size<=64/\bY x.2.1 64=true/\x.2.2.2.length<=2048/\∀(i:Nat)y,x.2.2.2[i]? =some y->d9 y=0
 nd:m.data.length<=64
 da:∀(j:Nat)x,m.data[j]? =some x->0<=x.1/\x.1<=262144/\x.2.2.length<=262144/\x.2.2.length≠0
 ne:m.exps.length<=64
 ex:∀(j:Nat)x,m.exps[j]? =some x->x.1.size<=32/\kU x.1=true/\0<=x.2/\x.2<m.fn
theorem zx(h:cJ m=0):Pas m:=by
 obtain⟨h,_⟩:=dw h;obtain⟨h1,h⟩:=dw h;obtain⟨h2,h⟩:=dw h;obtain⟨h3,h⟩:=dw h;obtain⟨h4,h⟩:=dw h;obtain⟨h5,h⟩:=dw h;obtain⟨h6,h⟩:=dw h;obtain⟨h7,h8⟩:=dw h;obtain⟨l1,a1⟩:=iB h1;obtain⟨l2,a2⟩:=iB h2;obtain⟨l3,a3⟩:=iB h3;obtain⟨l6,a6⟩:=iB h6;obtain⟨l7,a7⟩:=iB h7;obtain⟨l8,a8⟩:=iB h8;have p4:=uw h4;have p5:=uw h5;refine⟨ae,fun j x hj=>Cl (a1 j x hj),ae,fun j x hj=>mU (a2 j x hj),ae,fun j x hj=>Dg (a3 j x hj),p4,p5,ae,fun j x hj=>?_,ae,fun j x hj=>?_,ae,fun j x hj=>?_⟩
 ·have:=Cb (a6 j x hj)
  exact⟨this.1,this.2.1,ae,this.2.2.2.1,this.2.2.2.2.1,this.2.2.2.2.2⟩
 ·have:=Ce (a7 j x hj)
  exact⟨this.1,ae,ae,this.2.2.2.2⟩
 have:=CG (a8 j x hj);exact⟨this.1,this.2.1,this.2.2.2.1,this.2.2.2.2⟩
theorem js(n:Int)(h0:-9223372036854775808<=n)(h1:n<=9223372036854775807):(bT n).size<=21:=by
 have:=Lib.itoa_length_le n h0 h1
 simpa[bT,ByteArray.size] using this
theorem yE(r:Zai):(Lib.joinTail [32] (r.map (·.data.toList))).length=(r.map (·.size)).sum+r.length:=by
 exact P6
theorem fM(x:BAz)(r:Zai):(bL (x::r)).length=x.size+(r.map (·.size)).sum+r.length+1:=by
 rw[bL,ZV,List.map_cons,Lib.join_cons,ZV,yE];have e:x.data.toList.length=x.size:=Zab;rw[e];simp only[Z1,List.length_nil];omega
theorem kg{α:Type}(f:α->List UInt8)(K:Nat):∀(l:List α),(∀x∈l,(f x).length<=K)->(l.flatMap f).length<=l.length*K
 | [],_=>by simp
 | x::l,h=>by
  rw[List.flatMap_cons,ZV,Z1,Nat.succ_mul];have h1:=h x av;have h2:=kg f K l (fun y hy=>h y (by simp[hy]));omega
theorem OG:∀c:Nat,c<256->(ofV (c:Int)).1.2.1.size<=100:=by
 have h:((List.range 256).all fun c=>decide ((ofV (c:Int)).1.2.1.size<=100))=true:=ak;intro c hc;have:=List.all_eq_true.1 h c (List.mem_range.2 hc);exact cR
variable {p r:BAz}
theorem RR(hp:p.size<=8)(hr:r.size<=8):(kN p r).size<=100:=by
 unfold kN
 split
 ·unfold eB;have h1:=iN p;have h2:=iN r;have h3:(⟨#[32,45,62,32]⟩:BAz).size=4:=rfl;rw[ByteArray.size_append,ByteArray.size_append,h3];omega
 show 0<=100;omega
theorem iU{α:Type}{l:List α}{x:α}(h:x∈l):∃j:Nat,l[j]? =some x:=List.mem_iff_getElem?.1 h
theorem IK:∀(l:LIz),(∀v∈l,-9223372036854775808<=v/\v<=9223372036854775807)->((l.map bT).map (·.size)).sum<=l.length*21
 | [],_=>by simp
 | v::l,h=>by
  rw[List.map_cons,List.map_cons,List.sum_cons,Z1,Nat.succ_mul];have h1:=js v (h v av).1 (h v av).2;have h2:=IK l (fun u hu=>h u (by simp[hu]));omega
variable {y:InM}
theorem Td(h0:0<=y.1)(h1:y.1<=255)(ha:-9223372036854775808<=y.2.1/\y.2.1<=9223372036854775807)(hl:y.2.2.2.length<=16)(hr:∀v∈y.2.2.2,-9223372036854775808<=v/\v<=9223372036854775807):(vt y).length<=1000:=by
 unfold vt iA;rw[fM,qc];have hw:=OG y.1.toNat ae;rw[show((y.1.toNat:Nat):Int)=y.1 by omega]at hw
 split
 ·simp only[List.map_nil,List.sum_nil,List.length_nil]; omega
 split
 ·have h2:=IK y.2.2.2 hr;rw[List.length_map];omega
 have h3:=js y.2.1 ha.1 ha.2;simp only[List.map_cons,List.map_nil,List.sum_cons,List.sum_nil,Z1,List.length_nil];omega
variable {R g:Nat}
theorem QO(hM:MOk w R g m)(hp:Pas m)(hcn:∀(j:Nat)x,m.fns[j]? =some x->∀(i:Nat)y,x.2.2.2[i]? =some y->-9223372036854775808<=y.2.1/\y.2.1<=9223372036854775807):(mz m).length<=1000000000:=by
 have b1:=kg pk 200 m.types (fun x hx=>by
  obtain⟨j,hj⟩:=iU hx;have:=hp.ty j x hj;have h2:=RR this.1 this.2.2.1;unfold pk;rw[fM];simp only[List.map_cons,List.map_nil,List.sum_cons,List.sum_nil,Z1,List.length_nil];have:PG.size=4:=rfl
  omega)
 have b2:=kg jn 200 m.hosts (fun x hx=>by
  obtain⟨j,hj⟩:=iU hx;have:=hM.hr j x hj;have h2:=js x this.1 ae;unfold jn;rw[fM];simp only[List.map_cons,List.map_nil,List.sum_cons,List.sum_nil,Z1,List.length_nil];have:yw.size=6:=rfl
  omega)
 have b3:=kg glL 200 m.globals (fun x hx=>by
  obtain⟨j,hj⟩:=iU hx;have:=hM.gr j x hj
  have h2:=js (told x.1 x.2.2) (by unfold told; split <;> (first | unfold wrap32 | unfold wrap64) <;> omega) (by unfold told; split <;> (first | unfold wrap32 | unfold wrap64) <;> omega)
  unfold glL;rw[fM];simp only[List.map_cons,List.map_nil,List.sum_cons,List.sum_nil,Z1,List.length_nil];have h3:Ab.size=6:=rfl;have h4:(⟨#[UInt8.ofNat x.1.toNat]⟩:BAz).size=1:=rfl
  have h5:(ER x.2.1).size<=5:=by cases x.2.1 <;> decide
  omega)
 have b4:(qz m.fi m.mo).length<=200:=by
  have h1:=js m.fi hM.i0 (by have:=hM.i1; omega);have h2:=js m.mo hM.o0 (by have:=hM.o1; omega);unfold qz;rw[fM];simp only[List.map_cons,List.map_nil,List.sum_cons,List.sum_nil,Z1,List.length_nil];have:yL.size=6:=rfl;omega
 have b5:=kg fuL 2100000 m.fns (fun x hx=>by
  obtain⟨j,hj⟩:=iU hx;have h1:=hp.fn j x hj;have h2:=hM.fr j x hj;have h3:=js x.1 h2.1.1 (by have:=h2.1.2; omega)
  have h4:(zg x.2.1).size<=65:=by unfold zg; split <;> first | decide | omega
  have h5:=kg vt 1000 x.2.2.2 (fun y hy=>by
   obtain⟨i,hi⟩:=iU hy;have g1:=h2.2.2.2 i y hi;have g2:=Ak (h1.2.2.2.2.2 i y hi)
   exact Td g1.1 g1.2.1 (hcn j x hj i y hi) g2.2.2.2.1 (fun v hv=>by have:=g1.2.2.1.2.2.2.1 v hv; omega))
  unfold fuL fnL;rw[ZV,fM];simp only[List.map_cons,List.map_nil,List.sum_cons,List.sum_nil,Z1,List.length_nil];have:ml.size=4:=rfl;have h6:=h1.2.2.2.2.1
  omega)
 have b6:=kg daL 600000 m.data (fun x hx=>by
  obtain⟨j,hj⟩:=iU hx;have h1:=hp.da j x hj;have h2:=js x.1 ae ae;unfold daL;rw[fM];simp only[List.map_cons,List.map_nil,List.sum_cons,List.sum_nil,Z1,List.length_nil];have h3:OJ.size=4:=rfl
  have h4:(⟨(tH x.2.2).toArray⟩:BAz).size=2*x.2.2.length:=by
   have:=AG x.2.2
   simpa[ByteArray.size] using this
  omega)
 have b7:=kg exL 200 m.exps (fun x hx=>by
  obtain⟨j,hj⟩:=iU hx;have h1:=hp.ex j x hj;have h0:=hM.er j x hj;have h2:=js x.2 h0.1 ae;unfold exL;rw[fM];simp only[List.map_cons,List.map_nil,List.sum_cons,List.sum_nil,Z1,List.length_nil];have:wo.size=6:=rfl
  omega)
 have e:(mz m).length=7+((m.types.flatMap pk).length+((m.hosts.flatMap jn).length+((m.globals.flatMap glL).length+((qz m.fi m.mo).length+((m.fns.flatMap fuL).length+((m.data.flatMap daL).length+(m.exps.flatMap exL).length)))))):=by
  simp only[mz,ZV]; rfl
 have n1:=hp.nt;have n2:=hp.nh;have n3:=hp.ng;have n4:=hp.nf;have n5:=hp.nd;have n6:=hp.ne;omega
def C9(m:MM):ByteArray:=if cJ m=0 then ⟨(mz m).toArray⟩ else ⟨#[]⟩
variable {B B':Nat}
theorem fq.up(h:fq B w)(hb:B<=B'):fq B' w:=fun W hW=>h W (hW.mono hb)
def Ym(m:MM):Prop:=∀(j:Nat)x,m.fns[j]? =some x->∀(i:Nat)y,x.2.2.2[i]? =some y->-9223372036854775808<=y.2.1/\y.2.1<=9223372036854775807
theorem TK(B:Nat)(m:MM)(w:World)(hB:B<=w.heap.size)(htn:fq B w)(hk:aX w)(hm:∀R g,w.heap.size<=R->w.heap.size<=g->MOk w R g m)(hir:Ym m) :
  Zw 11 #[.agg (mV m)] w fun e w'=>e=.returned (.tuple #[.string (C9 m),ZI (cJ m)])/\Zx w w':=by
 have B1:=aj w (.cells (mV m) 29);have HC:=hid (FJ m (w.alloc (.cells (mV m) 29)) (hk.later B1 hk.pos) (fun R g h1 h2=>(hm R g (by simp at h1; omega) (by simp at h2; omega)).later B1));have hb:=hZn w (.cells (mV m) 29);have BW:=hid B1;obtain⟨⟨m0,m1,m2,m3,m4,m5,m6,m7⟩,-⟩:=ax hb;have HMX:=hid hb;have HW:w.alloc (bM m.ta m.tn m.tc m.ha m.hn m.hc m.ga m.gn m.gc m.fi m.mo m.fa m.fn m.fc m.da m.dn m.dc m.ea m.en m.ec)=w.alloc (.cells (mV m) 29):=rfl;have z1:(w.alloc (.cells (mV m) 29)).heap.size=w.heap.size+1:=av;generalize w.alloc (.cells (mV m) 29)=W1 at *;obtain⟨HM,HK⟩:=Zz hm hk;have HT:=hid (htn.up hB);have HR:=hid hir;show Zw 11 #[.agg #[.slice m.ta m.tn m.tc,.slice m.ha m.hn m.hc,.slice m.ga m.gn m.gc,ZI m.fi,ZI m.mo,.slice m.fa m.fn m.fc,.slice m.da m.dn m.dc,.slice m.ea m.en m.ec]] w _;unfold mV at HC;clear hm hk htn hir B1 hb;go_enter func11,ntmps11
 go_wp2_with fail;refine HC.out.mono ?_;rintro e w2⟨rfl,hb2⟩;have B2:=Zy BW hb2;have MX2:=hid (ar hb2 HMX.out);obtain⟨⟨n0,n1,n2,n3,n4,n5,n6,n7⟩,-⟩:=ax MX2.out;clear hb2 m0 m1 m2 m3 m4 m5 m6 m7 HC HW
 by_cases hx:cJ m=0
 ·have hP:=zx hx
  have qan:C9 m=⟨(mz m).toArray⟩:=by unfold C9; rw[if_pos hx]
  rw[hx];obtain⟨HPR,HX⟩:=Zz qan hx;clear qan hx;have hMO:MOk w2 w2.heap.size w2.heap.size m:=(HM.out w2.heap.size w2.heap.size B2.out.size B2.out.size).later B2.out;have hlen:=QO hMO hP HR.out;have e1:=hMO.pt.1;have e2:=hMO.ph.1;have e3:=hMO.pg.1;have e4:=hMO.pf.1;have e5:=hMO.pd.1;have e6:=hMO.pe.1;have hown:Lib.IsBuilder 96 5 w2.heap.size w2.heap.size [] (w2.alloc (.cells #[.pointer none,ZN] 96)):=.inl ⟨Nat.le_refl _,ZN,(ZZ w2 _).1,Z7 _ _ _ _,by simp[Value.ownBlock]⟩;have hPS:PS w2 (w2.alloc (.cells #[.pointer none,ZN] 96)) w2.heap.size [] (w2.alloc (.cells #[.pointer none,ZN] 96)):=⟨hown,aj w2 _,dR.refl _ _⟩
  have HMod:=hid (Yb w2.heap.size w2.heap.size w2.heap.size m w2 (w2.alloc (.cells #[.pointer none,ZN] 96)) [] hPS (HT.out.later B2.out |>.up B2.out.size) (HK.out.later B2.out HK.out.pos) hMO aA (fun j x hj=>by have:=hP.ty j x hj; omega) (fun j x hj=>by have:=(hP.gl j x hj).1; omega) (by have:=hP.nt; omega) (by have:=hP.nh; omega) (by have:=hP.ng; omega) (by have:=hP.nf; omega) (by have:=hP.nd; omega) (by have:=hP.ne; omega) (fun j x hj=>⟨by
   have h1:=(hP.fn j x hj).2.2.2.2.1;have h2:=(hMO.fr j x hj).2.1.1
   omega,HR.out j x hj⟩))
  have HS:=hid (fun(W:World) (hW:Lib.IsBuilder 96 5 w2.heap.size w2.heap.size (Lib.byteCells (mz m)) W)=>N2 Vs w2.heap.size w2.heap.size (mz m) W hW (by
   intro h0
   have:(mz m).length=0:=by rw[h0]; rfl
   have e:(mz m).length=7+((m.types.flatMap pk).length+((m.hosts.flatMap jn).length+((m.globals.flatMap glL).length+((qz m.fi m.mo).length+((m.fns.flatMap fuL).length+((m.data.flatMap daL).length+(m.exps.flatMap exL).length)))))):=by
    simp only[mz,ZV]; rfl
   omega))
  obtain⟨⟨q0,q1,q2,q3,q4,q5,q6,q7⟩,-⟩:=ax (ar (aj w2 (.cells #[.pointer none,ZN] 96)) MX2.out);have FG:w.heap.size<w2.heap.size:=aK MX2.out;clear hown hPS hMO hP e1 e2 e3 e4 e5 e6 hlen n0 n1 n2 n3 n4 n5 n6 n7;unfold mV at HMod;rw[List.nil_append]at HMod;go_wp2_with fail;refine HMod.out.mono ?_;rintro e w4⟨rfl,h4⟩;have P4:=hid h4;clear h4;go_wp2_with fail;refine(HS.out _ P4.out.own).mono ?_;rintro e w5⟨rfl,AI⟩;go_wp2_with fail;go_ret2;exact⟨by rw[HPR.out,HX.out]; rfl,B2.out.trans ((P4.out.low.trans AI).mono B2.out.size)⟩
 have qan:C9 m=⟨#[]⟩:=by unfold C9; rw[if_neg hx]
 have HPR:=hid qan;have hne:(cJ m==0)=false:=oK;generalize hcc:cJ m=c at *;have HCC:=hid hcc;clear qan hcc;go_wp2_with fail;go_ret2;exact⟨by rw[HPR.out,HCC.out]; rfl,B2.out⟩
def unI(y:PIn):InM:=(y.1,y.2.1,(none,0,0),y.2.2)
def unF(x:PFn):FuM:=(x.1,x.2.1,(none,0,0),x.2.2.map unI)
def unD(x:Int×List Int):DaM:=(x.1,(none,0,0),x.2)
def un(M:PM):MM:={ ta:=none,tn:=M.types.length,tc:=0,types:=M.types,ha:=none,hn:=M.hosts.length,hc:=0,hosts:=M.hosts,ga:=none,gn:=M.globals.length,gc:=0,globals:=M.globals,fi:=M.fi,mo:=M.mo,fa:=none,fn:=M.fns.length,fc:=0,fns:=M.fns.map unF,da:=none,dn:=M.data.length,dc:=0,data:=M.data.map unD,ea:=none,en:=M.exps.length,ec:=0,exps:=M.exps }
theorem oI{α:Type}{f:List α->α->Int}{c:α->α}(h:∀ah x,f (ah.map c) (c x)=f ah x):∀(xs ah:List α),bj f (ah.map c) (xs.map c)=bj f ah xs
 | [],ah=>rfl
 | x::r,ah=>by
  simp only[List.map_cons,bj,h];have e:ah.map c++[c x]=(ah++[x]).map c:=av;rw[e,oI h r (ah++[x])]
theorem vQ{α:Type}{f:List α->α->Int}{c:α->α}(h:∀ah x,f (ah.map c) (c x)=f ah x)(most:Int)(xs:List α):bG f most (xs.map c)=bG f most xs:=by
 unfold bG;rw[List.length_map];have:=oI h xs [];rw[List.map_nil]at this;rw[this]
theorem tj{α β:Type}{f:α->List β}{c:α->α}(h:∀x,f (c x)=f x)(xs:List α):(xs.map c).flatMap f=xs.flatMap f:=by
 rw[List.flatMap_map]
 congr 1
 exact funext h
def cI(y:InM):InM:=unI (plI y)
def cF(x:FuM):FuM:=unF (plF x)
def cD(x:DaM):DaM:=unD (plD x)
theorem xj(x:FuM):(cF x).2.2.2=x.2.2.2.map cI:=by simp[cF,plF,unF,cI,Function.comp_def]
theorem RN(sg:List Sg)(ah:List FuM)(x:FuM):dX sg (ah.map cF) (cF x)=dX sg ah x:=by
 have e:cG (ah.map cF)=cG ah:=by
  unfold cG;rw[List.map_map]
  congr 2
  funext y
  simp only[Function.comp,xj,List.length_map]
 unfold dX;rw[e,xj];show gv sg _ x.1 x.2.1 _=_;unfold gv;rw[List.length_map];have h:=oI (f:=fun(_:List InM) y=>d9 y) (c:=cI) (fun _ _=>rfl) x.2.2.2 [];rw[List.map_nil]at h;rw[h]
theorem Tt(x:FuM):cT (cF x)=cT x:=by
 unfold cT;rw[xj];show qm x.1 x.2.1 _=_;unfold qm;rw[List.length_map,tj (f:=dZ) (c:=cI) (fun _=>rfl)]
theorem Sj(room:Int)(ah:List DaM)(x:DaM):cg room (ah.map cD) (cD x)=cg room ah x:=by
 have e:∀v,fF (ah.map cD) v=fF ah v:=by
  intro v;unfold fF;rw[List.getLast?_map]
  cases ah.getLast? <;> rfl
 unfold cg;rw[e];rfl
theorem Wu(m:MM):(un (pl m)).fns=m.fns.map cF:=by
 show(m.fns.map plF).map unF=_;rw[List.map_map]; rfl
theorem QH(m:MM):(un (pl m)).data=m.data.map cD:=by
 show(m.data.map plD).map unD=_;rw[List.map_map]; rfl
theorem uQ(h:LnM m):cJ (un (pl m))=cJ m:=by
 have h1:(un (pl m)).tn=m.tn:=h.t.symm;have h2:(un (pl m)).hn=m.hn:=h.h.symm;have h3:(un (pl m)).gn=m.gn:=h.g.symm
 have h4:(un (pl m)).fn=m.fn:=by rw[h.f]; simp[un,pl]
 have h5:(un (pl m)).dn=m.dn:=by rw[h.d]; simp[un,pl]
 have h6:(un (pl m)).en=m.en:=h.e.symm;unfold cJ fK qL e1 e2 e3 e4 e5 e6 e7 e8;rw[h1,h2,h3,h4,h5,h6,Wu,QH];rw[vQ (fun ah x=>RN _ ah x),vQ (fun ah x=>Sj _ ah x),tj Tt,tj (f:=dz) (c:=cD) (fun _=>rfl)];rfl
variable {n:MM}
theorem VM(hm:LnM m)(hn:LnM n)(h:pl m=pl n):cJ m=cJ n:=by rw[<- uQ hm,h,uQ hn]
theorem MSr.len(h:MSr w m):LnM m:=⟨h.pt.1.symm,h.ph.1.symm,h.pg.1.symm,h.pf.1.symm,h.pd.1.symm,h.pe.1.symm⟩
theorem MOk.len(h:MOk w R g m):LnM m:=⟨h.pt.1.symm,h.ph.1.symm,h.pg.1.symm,h.pf.1.symm,h.pd.1.symm,h.pe.1.symm⟩
end Go.Proofs.YtheefojaplnnoaaGreatDoor

/-
  Texts Ge Gf Yu Yv BytLift BytFact.
-/
import Derived.JoinedOf
import Derived.KernelRfl
import Derived.RowKit
import Derived.Stop.Joined
import Derived.Test.YtheefojaplnnoaaGreatDoorCards
import Derived.Test.YtheefojaplnnoaaGreatDoorY00
import Derived.Test.YtheefojaplnnoaaGreatDoorY01
import Derived.Test.YtheefojaplnnoaaGreatDoorY03
import Derived.Test.YtheefojaplnnoaaGreatDoorY19
import Derived.Test.YtheefojaplnnoaaGreatDoorY20
import Derived.Test.YtheefojaplnnoaaGreatDoorY36
import Derived.Test.YtheefojaplnnoaaGreatDoorY39
import Derived.Test.YtheefojaplnnoaaGreatDoorY48
import Derived.Test.YtheefojaplnnoaaGreatDoorY49
set_option linter.unusedVariables false
set_option maxRecDepth 100000
set_option maxHeartbeats 16000000
namespace Go.Proofs.YtheefojaplnnoaaGreatDoor
open Go.RowKit
theorem Es:((List.range 256).all fun c=>decide ((ofV (c:Int)).1.2.1.size≤13))=true:=ai
theorem MI(c:Int)(h0:0≤c)(h1:c≤255):(ofV c).1.2.1.size≤13:=by
 obtain⟨n,rfl⟩:∃n:Nat,c=n:=⟨c.toNat,ae⟩;exact of_decide_eq_true (List.all_eq_true.1 Es n (List.mem_range.2 ae))
theorem Ka:∀(k u:Nat),u<10 ^ (k+1)→(Lib.decDigits u).length≤k+1
 | 0,u,h=>by
  rw[Lib.decDigits,dif_pos ae]
  simp
 | k+1,u,h=>by
  rw[Lib.decDigits]
  split
  ·simp
  ·rw[List.length_append]
   have:=Ka k (u / 10) (by rw[Nat.pow_succ]at h; omega)
   simp only[List.length_cons,List.length_nil]
   omega
theorem OS(z:Int)(h0:0≤z)(h1:z≤2147483647):(aW z).size≤10:=by
 show(Lib.itoa z).length≤10
 unfold Lib.itoa;rw[if_neg ae];exact Ka 9 z.toNat ae
theorem Cu:∀(l:List Int),okL l→((l.map aW).map (·.size)).sum+l.length≤11*(fK l).length
 | [],_=>by simp[fK]
 | z::l,h=>by
  have h1:=OS z h.1.1 h.1.2;have h2:=Cu l h.2;have h3:=aG z
  simp only[List.map_cons,List.sum_cons,List.length_cons,fK,List.length_append]
  omega
theorem LR(y:InM)(h0:0≤y.1)(h1:y.1≤255)(hx:dV y=0)(ha:I64 y.2.1):(oK y).length≤16+11*(fF y).length:=by
 obtain⟨k1,k2,k3,k4,k5⟩:=mM hx;have hw:=MI y.1 h0 h1;unfold oK fq;rw[ck,lq,Kb k1];unfold fF i7 vP
 by_cases t0:tkV y.1=0
 ·rw[if_pos t0,if_pos t0]
  simp only[List.map_nil,List.sum_nil,List.length_nil,List.length_cons]
  omega
 ·rw[if_neg t0,if_neg t0]
  by_cases t3:tkV y.1=3
  ·have h2:=Cu y.2.2.2 (k4 t3).2.2;rw[if_pos t3,if_neg ae,if_pos t3,List.length_map]
   simp only[List.length_cons,List.length_append]
   omega
  ·have h3:=dD y.2.1 ha.1 ha.2;rw[if_neg t3]
   simp only[List.map_cons,List.map_nil,List.sum_cons,List.sum_nil,List.length_cons,List.length_nil]
   by_cases t8:tkV y.1=8
   ·have h4:=aG (fo y.2.1);rw[if_pos t8];omega
   ·have h4:=aG y.2.1;rw[if_neg t8,if_neg t3];omega
theorem yH:∀(xs:List InM),(∀y∈xs,InC y)→(xs.flatMap oK).length≤16*xs.length+11*(xs.flatMap fF).length
 | [],_=>by simp
 | y::xs,h=>by
  obtain⟨q1,q2,q3,q4,q5⟩:=h y ar;have h1:=LR y q1 q2 q3 q5
  have h2:=yH xs (fun z hz=>h z pJ)
  simp only[List.flatMap_cons,List.length_append,List.length_cons]
  omega
theorem Qp(x:FuM)(h:NN x)(hl:x.2.1.size≤64):(fuL x).length≤100+16*x.2.2.2.length+11*(cK x).length:=by
 have h1:=yH x.2.2.2 h.2.2;have h2:=dD x.1 h.1.1 h.1.2
 have h4:(ja x.2.1).size≤65:=by unfold ja; split <;> first | decide | omega
 unfold fuL fnL;rw[List.length_append,ck];unfold cK iI
 simp only[List.map_cons,List.map_nil,List.sum_cons,List.sum_nil,List.length_cons,List.length_nil,List.length_append]
 have:eK.size=4:=rfl;omega
theorem Dg:∀(xs:List FuM),(∀x∈xs,NN x∧x.2.1.size≤64)→(xs.flatMap fuL).length≤100*xs.length+16*bG xs+11*(xs.flatMap cK).length
 | [],_=>by simp[bG]
 | x::xs,h=>by
  have h1:=Qp x (h x ar).1 (h x ar).2
  have h2:=Dg xs (fun z hz=>h z pJ)
  have e:bG (x::xs)=x.2.2.2.length+bG xs:=by simp[bG]
  simp only[List.flatMap_cons,List.length_append,List.length_cons,e]
  omega
theorem Eh:∀(xs:List DaM),(∀x∈xs,I64 x.1)→(xs.flatMap daL).length≤100*xs.length+11*(xs.flatMap cN).length
 | [],_=>by simp
 | x::xs,h=>by
  have h2:=Eh xs (fun z hz=>h z pJ)
  have h3:=dD x.1 (h x ar).1 (h x ar).2
  have h1:(daL x).length≤100+11*(cN x).length:=by
   unfold daL;rw[ck];have h5:iT.size=4:=rfl
   have h4:(⟨(gq x.2.2).toArray⟩:ByteArray).size=2*x.2.2.length:=by
    have:=rC x.2.2
    simpa[ByteArray.size] using this
   unfold cN
   simp only[List.map_cons,List.map_nil,List.sum_cons,List.sum_nil,List.length_cons,List.length_nil,List.length_append]
   omega
  simp only[List.flatMap_cons,List.length_append,List.length_cons]
  omega
theorem Kc{m:MM}(h:e6 m=0):bG m.fns≤16384:=by
 unfold e6 at h;obtain⟨-,h2⟩:=fY h
 rcases Nat.eq_zero_or_pos m.fns.length with h0 | h0
 ·rw[List.eq_nil_of_length_eq_zero h0]
  decide
 ·obtain⟨x,hx⟩:∃x,m.fns[m.fns.length-1]? =some x:=⟨_,aO ae⟩;have h3:=h2 _ x hx;have h4:=og hx
  rw[show m.fns.length-1+1=m.fns.length by omega,List.take_length]at h4
  unfold fH fp at h3
  split at h3
  ·cases h3
  ·split at h3
   ·cases h3
   ·split at h3
    ·cases h3
    ·split at h3
     ·cases h3
     ·omega
theorem K0{w:World}{R g:Nat}{m:MM}(hM:MOk w R g m)(h0:dh m=0)(hi:EG m):(iq m).length≤1048576:=by
 have hp:=lm h0;have hc:=J5 hM hp hi;have hz:=cS h0;have hw:=hz.1
 have he:(cJ++gF m).length≤65536:=by
  have:=hz.2
  split at this
  ·cases this
  ·omega
 obtain⟨E1,E2,E3,E4,E5,E6,E7,E8⟩:=Ay hw;have k1:=Kc E6
 have k2:=Dg m.fns (fun x hx=>⟨hc.fn x hx,by obtain⟨j,hj⟩:=cU hx; exact(hp.fn j x hj).2.2.1⟩)
 have k3:=Eh m.data (fun x hx=>(hc.da x hx).1)
 have k4:(m.fns.flatMap cK).length+(m.data.flatMap cN).length≤65536:=by
  rw[List.length_append]at he;unfold gF at he
  simp only[List.length_append]at he
  omega
 have b1:=fR kO 200 m.types (fun x hx=>by
  obtain⟨j,hj⟩:=cU hx
  have:=hp.ty j x hj
  have h2:=CQ this.1 this.2.2.1;unfold kO;rw[ck]
  simp only[List.map_cons,List.map_nil,List.sum_cons,List.sum_nil,List.length_cons,List.length_nil]
  have:gK.size=4:=rfl
  omega)
 have b2:=fR gJ 200 m.hosts (fun x hx=>by
  have:=hc.ho x hx
  have h2:=dD x this.1 this.2;unfold gJ;rw[ck]
  simp only[List.map_cons,List.map_nil,List.sum_cons,List.sum_nil,List.length_cons,List.length_nil]
  have:eJ.size=6:=rfl
  omega)
 have b3:=fR glL 200 m.globals (fun x hx=>by
  have h2:=dD (told x.1 x.2.2) (by unfold told; split <;> (first | unfold wrap32 | unfold wrap64) <;> omega) (by unfold told; split <;> (first | unfold wrap32 | unfold wrap64) <;> omega)
  unfold glL;rw[ck]
  simp only[List.map_cons,List.map_nil,List.sum_cons,List.sum_nil,List.length_cons,List.length_nil]
  have h3:dJ.size=6:=rfl;have h4:(⟨#[UInt8.ofNat x.1.toNat]⟩:ByteArray).size=1:=rfl
  have h5:(jg x.2.1).size≤5:=by cases x.2.1 <;> decide
  omega)
 have b4:(oF m.fi m.mo).length≤200:=by
  have h1:=dD m.fi hc.fi.1 hc.fi.2;have h2:=dD m.mo hc.mo.1 hc.mo.2;exact IG
 have b7:=fR exL 200 m.exps (fun x hx=>by
  obtain⟨j,hj⟩:=cU hx;have h1:=hp.ex j x hj;have h0:=hc.ex x hx;have h2:=dD x.2 h0.1.1 h0.1.2;unfold exL;rw[ck]
  simp only[List.map_cons,List.map_nil,List.sum_cons,List.sum_nil,List.length_cons,List.length_nil]
  have:d9.size=6:=rfl
  omega)
 exact Ko
structure MRd(w:World)(m:MM):Prop where
 c:dh m=0
 k:∀R g,w.heap.size≤R→w.heap.size≤g→MOk w R g m
 s:MSr w m
 i:EG m
theorem MRd.later{w W:World}{m:MM}(h:MRd w m)(hb:Below w.heap.size w W):MRd W m :=
 ⟨h.c,fun R g h1 h2=>(h.k R g (Nat.le_trans hb.size h1) (Nat.le_trans hb.size h2)).later hb,h.s.later hb,h.i⟩
theorem NK{m:MM}(h:PR (pl m)):EG m:=by
 intro j x hj i y hi
 have h1:=(h.fr (plF x) (by unfold pl; exact List.mem_map.2 ⟨x,List.mem_of_getElem? hj,rfl⟩)).2 (plI y) (by unfold plF; exact List.mem_map.2 ⟨y,List.mem_of_getElem? hi,rfl⟩)
 exact h1.2.2.1
theorem Rj{base R:Nat}{mp:Value}{m:MM}{ln pt:Int}{w:World}(hq:RQ base R mp m ln pt w)(hp:PR (pl m))(hc:dh m=0):MRd w m :=
 ⟨hc,fun R g h1 h2=>hq.mok hp R g h1 h2,(hq.mok hp _ _ (Nat.le_refl _) (Nat.le_refl _)).sr (lm hc),NK hp⟩
theorem J0{w0 w w':World}{m:MM}{e:Ending}(hm:MRd w0 m)(h:sZ (sQ m) w e w'):∃y,pl y=pl m∧MRd w' y∧e=rt3 (mV y) 0 0∧Below w.heap.size w w':=by
 have hM:=hm.k _ _ (Nat.le_refl _) (Nat.le_refl _)
 have hv:sQ m=⟨(iq m).toArray⟩:=by unfold sQ; rw[if_pos hm.c]
 rw[hv]at h;obtain⟨hb,-,h2⟩:=h;obtain⟨ln,p,hl,hp⟩:=IP m (J5 hM (lm hm.c) hm.i);have hz:(⟨(iq m).toArray⟩:ByteArray).size≤1048576:=K0 hM hm.c hm.i;obtain⟨y,hpl,hlen,hpr,-,h5⟩:=((h2 hz _ _ hl).2 _ _ rfl).2 hp;have hc:dh y=0:=(Jo hlen hM.len hpl).trans hm.c;obtain⟨he,base,R,mp,l2,hR,hq⟩:=h5 hc
 exact⟨y,hpl,Rj hq (by rw[hpl]; exact hpr) hc,he,hb⟩
theorem xU:∀l:List Int,l.map (Value.int .i64)=l.flatMap iw
 | []=>rfl
 | x::l=>by rw[List.map_cons,List.flatMap_cons,xU l]; rfl
theorem Da{t:Int}{g:Bool}{a:Int}{l:List Int}(h:chk t g a l=0):I64 a∧l.length≤16∧∀z∈l,-9223372036854775808≤z∧z≤9223372036854775807:=by
 obtain⟨h1,h2,h3,h4,h5,h6⟩:=rO h;have hl:=oV t g;have hh:=eF t g
 refine⟨⟨ae,ae⟩,h4,fun z hz=>?_⟩
 by_cases ht:t=3
 ·unfold chk at h;rw[if_neg h1,if_neg ae,if_pos ht]at h
  split at h
  ·cases h
  ·split at h
   ·next ho=>have:=(uT l).1 ho z hz; omega
   ·cases h
 ·have:=h6 ht
  rw[List.eq_nil_of_length_eq_zero this]at hz
  cases hz
theorem DQ.mok{lo:Nat}{m:MM}{w:World}(h:DQ lo w m)(hc:dh m=0)(R g:Nat)(hR:w.heap.size≤R)(hg:w.heap.size≤g):MOk w R g m:=by
 have hp:=lm hc
 have ht:=gY eP (fun _=>rfl) aj h.rt
 have hh:=gY jA (fun _=>rfl) aj h.rh
 have hgl:=gY jL (fun _=>rfl) aj h.rg
 have hf:=gY (fun y:FuM=>iA (y.1,y.2.1,y.2.2.1)) (fun _=>rfl) aj h.rf
 have hd:=gY (fun y:DaM=>eX (y.1,y.2.1)) (fun _=>rfl) aj h.rd
 have he:=gY fM (fun _=>rfl) aj h.re
 have ht0:m.types.length=m.tn:=ht.1;have hf0:m.fns.length=m.fn:=hf.1;have hnt:=hp.nt;have hnf:=hp.nf;have hfi:=hp.fi;have hmo:=hp.mo;refine⟨⟨ht.1,ht.2.imp id ?_⟩,fg h.rt hR hg,⟨hh.1,hh.2.imp id ?_⟩,fg h.rh hR hg,?_,⟨hgl.1,hgl.2.imp id ?_⟩,fg h.rg hR hg,?_,ae,ae,ae,ae,⟨hf.1,hf.2.imp id ?_⟩,fg h.rf hR hg,?_,⟨hd.1,hd.2.imp id ?_⟩,fg h.rd hR hg,?_,⟨he.1,he.2.imp id ?_⟩,fg h.re hR hg,?_⟩
 ·exact mi
 ·exact DU
 ·intro j x hj
  have:=hp.ho j x hj
  omega
 ·exact lX
 ·intro j x hj;exact h.gr x (List.mem_of_getElem? hj)
 ·exact lX
 ·intro j x hj;have hx:=hp.fn j x hj;obtain⟨hfo1,hfo2,hfo3,hfo4⟩:=(h.fo x (List.mem_of_getElem? hj)).1
  have hco:=gY ocI (fun _=>rfl) aj hfo3
  refine⟨ae,⟨hfo2,hco.2.imp id ?_⟩,(fg hfo3 hR hg).nz _,fun i y hi=>?_⟩
  ·exact lX
  ·have hy:=Da (hx.2.2.2.2.2 i y hi);obtain⟨ho1,ho2⟩:=hfo4 y (List.mem_of_getElem? hi);obtain⟨hs1,hs2,-⟩:=AE ho2;rw[xU,← hs1]at ho2
   have hlo:=gY iw (fun _=>rfl) aj ho2
   refine⟨ho1.1,ho1.2,⟨hlo.1,ae,?_,fun z hz=>hy.2.2 z hz,hlo.2.imp id ?_⟩,(fg ho2 hR hg).nz _⟩
   ·have:=hy.2.1
    omega
   ·exact GA
 ·exact mi
 ·intro j x hj;have hx:=hp.da j x hj;obtain⟨hs,B,hB,hlt⟩:=(h.dd x (List.mem_of_getElem? hj)).1
  refine⟨ae,hs,fun b off c hb=>?_⟩
  have:=ve hb
  rw[hB]at this
  simp at this
  omega
 ·exact mi
 ·intro j x hj
  have:=hp.ex j x hj
  omega
theorem DQ.mrd{lo:Nat}{m:MM}{w:World}(h:DQ lo w m)(hc:dh m=0):MRd w m :=
 ⟨hc,fun R g h1 h2=>h.mok hc R g h1 h2,(h.mok hc _ _ (Nat.le_refl _) (Nat.le_refl _)).sr (lm hc),fun j x hj i y hi=>(Da ((lm hc).fn j x hj |>.2.2.2.2.2 i y hi)).1⟩
theorem Ci{m:MM}(h:LnM m):gF (un (pl m))=gF m:=by
 have h1:(un (pl m)).tn=m.tn:=h.t.symm;have h2:(un (pl m)).hn=m.hn:=h.h.symm;have h3:(un (pl m)).gn=m.gn:=h.g.symm
 have h4:(un (pl m)).fn=m.fn:=by rw[h.f]; simp[un,pl]
 have h5:(un (pl m)).dn=m.dn:=by rw[h.d]; simp[un,pl]
 have h6:(un (pl m)).en=m.en:=h.e.symm;unfold gF;rw[h1,h2,h3,h4,h5,h6,Hy,DC]
 rw[kR De,kR (f:=cN) (c:=cD) (fun _=>rfl)]
 rfl
theorem LQ{m n:MM}(hm:LnM m)(hn:LnM n)(h:pl m=pl n):gF m=gF n:=by rw[← Ci hm,h,Ci hn]
theorem Buf.at{w:World}{g n cap:Nat}{xs:List Value}(h:Buf w g n cap xs):n≤cap∧∀(j:Nat)u,xs[j]? =some u→w.cell? ⟨g,j,none⟩=some u:=by
 rcases h with h | ⟨h1,h2,h3,h4,h5⟩
 ·obtain⟨cur,-,hc,-⟩:=h.block;have hl:=h.1
  refine⟨hc,fun j u hj=>(h.cell j ?_).trans hj⟩
  have:=(List.getElem?_eq_some_iff.1 hj).1
  omega
 ·exact⟨ae,h5⟩
theorem QV(m:MM)(w:World)(hk:aP w)(hm:∀R g,w.heap.size≤R→w.heap.size≤g→MOk w R g m)(hc:dh m=0)(hr:∀z∈cJ++gF m,0≤z∧z≤255) :
  Calls Tryz.prog 22 #[.agg (mV m)] w fun e w'=>Below w.heap.size w w'∧∃a c,e=.returned (.tuple #[.slice a (cJ++gF m).length c,.int .i64 0])∧Seg w' a (cJ++gF m).length c (cJ++gF m):=by
 have hmf:∀(fn:Fn)(first cap:Array Value)(w:World),(Instr.makeFunc fn first cap).run Tryz.prog w=.ok (.func fn first cap) w:=fun _ _ _ _=>rfl
 obtain⟨B0,z0,hwr,x0,x1,f1,x2,f2⟩:=tS w m;have HWk:=hid (Iw (w.heap.size+1+1+1+1) (w.heap.size+1+1+1) 5 cJ m (W22 w m) hwr aj ae ae (hk.later B0 hk.pos) ((hm _ _ ae ae).later B0));have hcv:=qZ w m;have hW:((gU w m).alloc (.cells #[.int .u8 70,.int .u8 76,.int .u8 71,.int .u8 78,.int .u8 1] 5 (5,6))).alloc (.cells #[.slice (some ⟨w.heap.size+1+1+1,0,none⟩) 5 5] 152)=W22 w m:=rfl;have za:((gU w m).alloc (.cells #[.int .u8 70,.int .u8 76,.int .u8 71,.int .u8 78,.int .u8 1] 5 (5,6))).heap.size=w.heap.size+1+1+1+1:=sN;obtain⟨⟨m0,m1,m2,m3,m4,m5,m6,m7⟩,_⟩:=av x0;have BW:=hid B0;obtain⟨hx,hlong0⟩:=cS hc
 have hlong:(cJ++gF m).length≤65536:=by
  by_cases hl:65536<(cJ++gF m).length
  ·rw[if_pos hl]at hlong0; cases hlong0
  ·omega
 have h70:(cJ++gF m)[0]? =some 70:=rfl;generalize W22 w m=W1 at *;generalize (gU w m).alloc (.cells #[.int .u8 70,.int .u8 76,.int .u8 71,.int .u8 78,.int .u8 1] 5 (5,6))=W0 at *;unfold mV at hcv HWk
 show Calls Tryz.prog 22 #[.agg #[.slice m.ta m.tn m.tc,.slice m.ha m.hn m.hc,.slice m.ga m.gn m.gc,.int .i64 m.fi,.int .i64 m.mo,.slice m.fa m.fn m.fc,.slice m.da m.dn m.dc,.slice m.ea m.en m.ec]] w _
 clear hm hk B0 hc hlong0
 go_enter_defers Tryz.func22,Tryz.ntmps22
 go_wp2_with fail;refine HWk.out.mono ?_;rintro e w9⟨hyes,-⟩;obtain⟨v,rfl,g',cap',hw9,hkept⟩:=hyes hx;have y1:=hkept.cell x1 ae;have y2:=hkept.cell x2 ae;have g1:=(aC (hkept.block (w.heap.size+1) ae ae) 0).trans f1;have g2:=(aC (hkept.block (w.heap.size+1+1) ae ae) 0).trans f2;have c9:=hw9.c0;have hK9:=hid hkept;have hz9:=hkept.size
 have HB9:Hid (Below w.heap.size w w9):=BW.out.trans ((hkept.to_below (B:=w.heap.size) ae (fun k hk=>ae)).mono (Nat.le_refl _))
 clear hyes HWk m0 m1 m2 m3 m4 m5 m6 m7 hwr x0 x1 x2 f1 f2 hkept;obtain⟨E,hE⟩:∃E,cJ++gF m=E:=⟨_,rfl⟩;rw[hE]at c9 hw9 hlong h70 hr;have HE:=hid hE;clear hE;obtain⟨hcap,hcel⟩:=hw9.row.at
 have hg0:w9.cell? ⟨g',0,none⟩=some (.int .u8 70):=hcel 0 _ (by rw[List.getElem?_map,h70]; rfl)
 have hn1:g'≠w.heap.size+1:=by rintro rfl; rw[y1]at hg0; cases hg0
 have hn2:g'≠w.heap.size+1+1:=by rintro rfl; rw[y2]at hg0; cases hg0
 have hgl:=block_lt_of_cell hg0;have HC:=hid hcel;have HR:=hid hr;have HCP:=hid hcap;have HLG:=hid hlong;clear hcel hr hw9 hcap h70 hg0;have hd:decide ((E.length:Int)≤65536)=true:=aI;clear hlong;go_wp2_with fail;refine(cG xd).mono ?_;rintro e w9' ⟨rfl,rfl⟩;go_wp2_with fail;generalize hW9:w9'.setCell ⟨w.heap.size+1,0,none⟩ (.slice (some ⟨g',0,none⟩) E.length cap')=Wa at *;have k1:Wa.cell? ⟨w.heap.size+1,0,none⟩=some (.slice (some ⟨g',0,none⟩) E.length cap'):=DJ;have k2:Wa.cell? ⟨w.heap.size+1+1,0,none⟩=some (.int .i64 0):=DV
 have k3:∀j,Wa.cell? ⟨g',j,none⟩=w9'.cell? ⟨g',j,none⟩:=fun j=>by rw[← hW9]; exact World.cell?_setCell_other _ _ _ _ ar
 have K1:Below w.heap.size w9' Wa:=CG
 have zz:Wa.heap.size=w9'.heap.size:=by rw[← hW9]; simp[World.setCell]
 generalize hWb:Wa.setCell ⟨w.heap.size+1+1,0,none⟩ (.int .i64 0)=Wb at *;have n1:Wb.cell? ⟨w.heap.size+1,0,none⟩=some (.slice (some ⟨g',0,none⟩) E.length cap'):=Bu;have n2:Wb.cell? ⟨w.heap.size+1+1,0,none⟩=some (.int .i64 0):=BP
 have n3:∀j,Wb.cell? ⟨g',j,none⟩=Wa.cell? ⟨g',j,none⟩:=fun j=>by rw[← hWb]; exact World.cell?_setCell_other _ _ _ _ ar
 have K2:Below w.heap.size Wa Wb:=C6
 have zb:Wb.heap.size=Wa.heap.size:=by rw[← hWb]; simp[World.setCell]
 refine leaves_cons (f:=87) (args:=#[.pointer (some ⟨w.heap.size+1,0,none⟩),.pointer (some ⟨w.heap.size+1+1,0,none⟩)]) ar cg ?_;refine(ID _ _ _).mono ?_;rintro e u' w10 ⟨rfl,rfl,hb10⟩
 have q1:=(hb10.cell (by exact block_lt_of_cell n1)).trans n1
 have q2:=(hb10.cell (by exact block_lt_of_cell n2)).trans n2
 have HB:Hid (Below w.heap.size w w10):=((HB9.out.trans K1).trans K2).trans (hb10.mono (by have:=K2.size; omega))
 refine(show Go.Leaves Tryz.prog Tryz.f22 _ _ [] FrameMode.returning w10 from⟨.tuple #[.slice (some ⟨g',0,none⟩) E.length cap',.int .i64 0],?_,HB.out,some ⟨g',0,none⟩,cap',by rw[HE.out],?_⟩)
 ·exact qJ
 ·rw[HE.out]
  refine⟨rfl,HCP.out,by have:=HLG.out; omega,HR.out,.inr ⟨g',0,rfl,fun j hj=>?_⟩⟩
  have hj2:E[j]? =some (E.getD j 0):=by rw[List.getD_eq_getElem?_getD,aO hj]; rfl
  have h9:=HC.out j (.int .u8 (E.getD j 0)) (by rw[List.getElem?_map,hj2]; rfl)
  rw[Nat.zero_add]
  exact(hb10.cell (by show g'<_; omega)).trans ((n3 j).trans ((k3 j).trans h9))
theorem EM(TB:Nat)(a:Option Addr)(n c:Nat)(zs:List Int)(w:World)(hE:cw TB w)(hs:n≤65536→Seg w a n c zs) :
  Calls Tryz.prog 7 #[.slice a n c] w fun e w'=>e=.returned (.bool true)∧Below w.heap.size w w':=by
 have hTB:=hE.bw
 have HE:=hid (fun(W:World) (hb:Below w.heap.size w W)=>hE.top (hb.mono hTB))
 have HS:=hid hs
 have H11:=hid (fun(y:MM)(W:World)(hb:Below w.heap.size w W) (h:MRd W y)=>CF W.heap.size y W (Nat.le_refl _) (hE.top (hb.mono hTB)).tens (hE.top (hb.mono hTB)).kinds h.k h.i)
 have H15:=hid (fun(t:ByteArray)(W:World) (hb:Below w.heap.size w W)=>vO t W (hE.top (hb.mono hTB)))
 have H21:=hid (fun(W:World)(hb:Below w.heap.size w W) (h:Seg W a n c zs)=>Gv a n c zs W (hE.top (hb.mono hTB)).kinds h)
 have H22:=hid (fun(y:MM)(W:World)(hb:Below w.heap.size w W) (h:MRd W y) hr=>QV y W (hE.top (hb.mono hTB)).kinds h.k h.c hr)
 clear hE hs
 go_enter Tryz.func7,Tryz.ntmps7
 go_wp2_with fail;refine(PT w (HE.out w (Below.refl _ w))).mono ?_;rintro e w1⟨rfl,hb⟩;have HB1:=hid hb;clear hb
 by_cases hl:n≤65536
 rotate_left
 ·have h4:(65536:Int)<(n:Int):=ae;clear hl;go_wp2_with fail;go_ret;exact⟨rfl,HB1.out⟩
 have h4:¬(65536:Int)<(n:Int):=ae;have HSG:=hid (HS.out hl);have H:=hid (H21.out w1 HB1.out (HSG.out.later HB1.out (Nat.le_refl _)));clear hl;go_wp2_with fail;refine H.out.mono ?_
 rintro e w2⟨hb,⟨E,l,hE0,rfl⟩ | ⟨m,rfl,hc,hdq,hz⟩⟩
 ·have HB2:=hid (HB1.out.trans (hb.mono HB1.out.size));clear hb H;unfold rt3 zV
  have hne:(E != 0)=true:=by simpa using hE0
  have BN:=hid (ag w2 (cA none 0 0 none 0 0 none 0 0 0 0 none 0 0 none 0 0 none 0 0));clear hE0;go_wp2_with fail;go_ret
  first | exact⟨rfl,HB2.out.trans (BN.out.mono HB2.out.size)⟩ | exact⟨rfl,HB2.out⟩
 have HB2:=hid (HB1.out.trans (hb.mono HB1.out.size));have HM:=hid (hdq.mrd hc);have HZ:=hid hz;clear hb H hdq hz hc;unfold rt3 mV;have BN:=ag w2 (cA m.ta m.tn m.tc m.ha m.hn m.hc m.ga m.gn m.gc m.fi m.mo m.fa m.fn m.fc m.da m.dn m.dc m.ea m.en m.ec);have bn:=heap_alloc_new w2 (cA m.ta m.tn m.tc m.ha m.hn m.hc m.ga m.gn m.gc m.fi m.mo m.fa m.fn m.fc m.da m.dn m.dc m.ea m.en m.ec);have HXX:=hid bn;have HX:=hid (HM.out.later BN);have HB3:=hid (HB2.out.trans (BN.mono HB2.out.size));clear BN bn;have z0:=ak (i:=0) HXX.out;have z1:=ak (i:=1) HXX.out;have z2:=ak (i:=2) HXX.out;have z3:=ak (i:=3) HXX.out;have z4:=ak (i:=4) HXX.out;have z5:=ak (i:=5) HXX.out;have z6:=ak (i:=6) HXX.out;have z7:=ak (i:=7) HXX.out;go_wp2_with fail;clear z0 z1 z2 z3 z4 z5 z6 z7 HM HXX;generalize w2.alloc (cA m.ta m.tn m.tc m.ha m.hn m.hc m.ga m.gn m.gc m.fi m.mo m.fa m.fn m.fc m.da m.dn m.dc m.ea m.en m.ec)=w3 at *;have H:=hid (H11.out m w3 HB3.out HX.out);rw[HX.out.c]at H;unfold mV at H;obtain⟨U,hU⟩:∃U,sQ m=U:=⟨_,rfl⟩;rw[hU]at H;have HU:=hid hU;clear hU;refine H.out.mono ?_;rintro e w4⟨rfl,hb⟩;have HB4:=hid (HB3.out.trans (hb.mono HB3.out.size))
 replace HX:=hid (HX.out.later hb)
 clear hb H;have H:=hid (H15.out U w4 HB4.out);go_wp2_with fail;refine H.out.mono ?_;intro e w5 hp;rw[← HU.out]at hp;obtain⟨y,hpl,hy,rfl,hb⟩:=J0 HX.out hp;have HB5:=hid (HB4.out.trans (hb.mono HB4.out.size));have HEQ:=hid (LQ hy.s.len HX.out.s.len hpl);clear hp hb H hpl;unfold rt3 mV;have BN:=ag w5 (cA y.ta y.tn y.tc y.ha y.hn y.hc y.ga y.gn y.gc y.fi y.mo y.fa y.fn y.fc y.da y.dn y.dc y.ea y.en y.ec);have bn:=heap_alloc_new w5 (cA y.ta y.tn y.tc y.ha y.hn y.hc y.ga y.gn y.gc y.fi y.mo y.fa y.fn y.fc y.da y.dn y.dc y.ea y.en y.ec)
 replace hy:=hy.later BN
 have HB6:=hid (HB5.out.trans (BN.mono HB5.out.size));have HYY:=hid bn;have HY:=hid hy;clear BN bn hy;have z0:=ak (i:=0) HYY.out;have z1:=ak (i:=1) HYY.out;have z2:=ak (i:=2) HYY.out;have z3:=ak (i:=3) HYY.out;have z4:=ak (i:=4) HYY.out;have z5:=ak (i:=5) HYY.out;have z6:=ak (i:=6) HYY.out;have z7:=ak (i:=7) HYY.out;go_wp2_with fail;clear z0 z1 z2 z3 z4 z5 z6 z7 HYY;generalize w5.alloc (cA y.ta y.tn y.tc y.ha y.hn y.hc y.ga y.gn y.gc y.fi y.mo y.fa y.fn y.fc y.da y.dn y.dc y.ea y.en y.ec)=w6 at *
 have H:=hid (H22.out y w6 HB6.out HY.out (by rw[HEQ.out,← HZ.out]; exact HSG.out.2.2.2.1))
 rw[HEQ.out,← HZ.out,HSG.out.1]at H;unfold mV at H;refine H.out.mono ?_;rintro e w7⟨hb,a',c',rfl,hsg⟩;have HB7:=hid (HB6.out.trans (hb.mono HB6.out.size));clear hb H;have H:=hid (SF a a' n c c' zs w7 (HSG.out.later HB7.out (Nat.le_refl _)) hsg);clear hsg;go_wp2_with fail;refine H.out.mono ?_;rintro e w8⟨rfl,k,hk⟩
 have HB8:=hid (show Below w.heap.size w w8 from by rw[hk]; exact HB7.out.trans ((Kept.drewN (fun _=>False) w7 k).to_below (B:=w.heap.size) HB7.out.size (fun k _ h=>h)))
 clear hk H;go_wp2_with fail;go_ret;exact⟨rfl,HB8.out⟩
end Go.Proofs.YtheefojaplnnoaaGreatDoor
namespace Go.Proofs.YtheefojaplnnoaaGreatDoor.textBytes
open Go.ChangeShapes Go.WideShapes Go.ChangeAt Go.RowKit
open Go.ChangeMaps (open_string shut_string)
theorem lsSeg {W : World} {a : Option Addr} {n cap : Nat} {xs : List Int} (h : rH W 1 (fun (z : Int) => [Value.int .u8 z]) a n cap xs) (hr : ∀ (j : Nat) a, xs[j]? = some a → 0 ≤ a ∧ a ≤ 255) (hn : n ≤ 1099511627776) : Seg W a n cap xs := by
  refine ⟨h.len, h.cap_, hn, fun z hz => ?_, h.at_.imp id fun ⟨b, off, e, hc⟩ => ⟨b, off, e, fun j hj => ?_⟩⟩
  · obtain ⟨j, hj⟩ := List.getElem?_of_mem hz
    exact hr j z hj
  · have hj' : j < xs.length := by rw [h.len]; exact hj
    have h1 := hc j xs[j] (List.getElem?_eq_getElem hj') 0 _ rfl
    rw [Nat.mul_one, Nat.add_zero] at h1
    rw [h1, List.getD_eq_getElem?_getD, List.getElem?_eq_getElem hj']
    rfl
theorem zE{H:Type}{enc:TypeId×Value→H}{W:World}{base:Nat}{v:Value}{d:DataW H}{ps:List MemPlace}(hval:Value.okWide Tryz.prog W .any base 63 v)(h:DataW.Trod enc Tryz.prog W 0 (fun _=>true) true 63 v d ps)(hw:∀n∈d.weights Tryz.prog 63,n≤reachBytes) :
  ∃ua un uc ts,v=.slice ua un uc∧(un≤65536→Seg W ua un uc ts):=by
 obtain⟨a,len,cap,rfl⟩:=okWide_slice Tryz.underlying63 hval;obtain⟨fuel,hf⟩:=h
 obtain⟨la,ln,lc,ls,h1,at1,el1⟩:=(zM (c:=1) (B:=1) (fun(z:Int)=>[Value.int .u8 z]) (fun(a:Int)=>0≤a∧a≤255) Tryz.underlying63 MR aj KU aj (fun _ _ _ h1 h2=>Qz h1 h2)) hf hw
 refine⟨la,ln,lc,ls,?_,fun hn=>lsSeg at1 el1 ae⟩
 simp[Value.cells]at h1
 obtain⟨rfl,rfl,rfl⟩:=h1;rfl
theorem lifted(os:Os)(started:os.Started)(H:Type)(enc:TypeId×Value→H) :
  ReturnsInHanded {} Tryz.checked os 7 .any (fun w args=>(Rows.textBytesSpec.pre enc Tryz.prog Tryz.f7 [] false w args∧laidMetH Tryz.prog kM w)∧sizedMet enc Tryz.prog Tryz.f7 (OpenSpec.ofChange Rows.textBytesSpec) false w args) (Rows.textBytesSpec.post enc Tryz.prog Tryz.f7 false true false false):=by
 refine returnsInHanded_of_row (C:=Tryz.checked) (s:=OpenSpec.ofChange Rows.textBytesSpec) (F:=fun _ _ _=>0) (laid:=kM) Ot started ai Tryz.func7
  (ChangeSpec.witness_shaped (enc:=enc) (C:=Tryz.checked) (os:=os) (X:=fun w _=>laidMetH Tryz.prog kM w) false (World.laidAll Tryz.prog os kM) #[.slice none 0 0] 8 (World.laidAll_os _ _ _)
   (World.shaped_of_ZipB ai ai) ai ai ai (met os _)) ?_
 intro W base args ds gs before hval0 hW _ _ hsz0 hL hshape _
 have hsz:(DataW.weightsEach Tryz.prog (Tryz.f7.params.toList++Rows.textBytesSpec.plain.varTypes Tryz.prog) (ds++gs)).all (· ≤ reachBytes)=true:=hsz0
 have hW':=hW;obtain⟨p,q,hA0,hV,rfl,hfz,hnd⟩:=hW
 have hA:DataW.TrodAll enc Tryz.prog W 0 (fun _=>true) true Tryz.f7.params.toList args.toList ds p:=hA0
 have hval:∀(j:Nat)t v,Tryz.f7.params[j]? =some t→args[j]? =some v→Value.okWide Tryz.prog W .any base t v:=hval0;rw[Tryz.params7]at hA hval hsz;obtain⟨v0,vs0,d0,ds0,p0,q0,hargs,rfl,rfl,h0,r0⟩:=trodAll_cons hA;obtain⟨rfl,rfl,rfl⟩:=trodAll_nil r0
 obtain rfl:args=#[v0]:=by cases args; simp_all
 obtain⟨rfl,rfl⟩:=trodVars_none hV;have k0:=h0
 have lt0:∀x∈p0,x.block<W.heap.size:=by obtain⟨m,hm⟩:=k0; exact DataW.trod_lt m _ _ _ hm
 have hw0:∀n∈d0.weights Tryz.prog 63,n≤reachBytes:=fun n hn=>by
  have:=List.all_eq_true.1 hsz n (DataW.weights_mem_each (j:=0) (t:=63) rfl rfl n hn)
  exact bJ
 obtain⟨ua,un,uc,ts,rfl,hu⟩:=zE (hval 0 63 v0 rfl rfl) h0 hw0;clear hA0 hval0
 refine(EM W.heap.size ua un uc ts W (LX hL hshape) hu).mono fun e W' ⟨he,bel⟩=>?_
 subst he
 exact⟨_,rfl,_,_,_,[],_,[],hW',trodAll_mk1 (shut_bool Tryz.underlying4 _),(trodAll_cons_mk (Below.trod laidOut ai (of_decide_eq_true ai) k0 bel lt0) trodAll_mk0),rfl,bel.frame _,fun h=>cj⟩
end Go.Proofs.YtheefojaplnnoaaGreatDoor.textBytes
namespace Go.Proofs.YtheefojaplnnoaaGreatDoor.textBytes
open Go.RowKit
theorem O8{a b:Bool}(ha:a=true)(hb:b=true):(a&&b)=true:=by rw[ha,hb]; rfl
theorem facts:joinedFacts Tryz.pinned.checked.prog 7 Tryz.f7 Rows.textBytesSpec Rows.textBytesRow=true:=by
 unfold joinedFacts
 repeat' (with_reducible refine O8 ?_ ?_)
 all_goals (as_aux_lemma=>kernel_rfl)
end Go.Proofs.YtheefojaplnnoaaGreatDoor.textBytes

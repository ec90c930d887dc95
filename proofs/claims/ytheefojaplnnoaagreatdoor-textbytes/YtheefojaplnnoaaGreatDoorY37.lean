/-
  Texts Ck Bp Bq Ub.
-/
import Derived.Lib.ItoaLen
import Derived.Test.YtheefojaplnnoaaGreatDoorY00
import Derived.Test.YtheefojaplnnoaaGreatDoorY20
import Derived.Test.YtheefojaplnnoaaGreatDoorY22
import Derived.Test.YtheefojaplnnoaaGreatDoorY36
set_option linter.unusedVariables false
set_option maxRecDepth 100000
set_option maxHeartbeats 16000000
namespace Go.Proofs.YtheefojaplnnoaaGreatDoor
open Go.RowKit
theorem fY{α:Type}{f:List α→α→Int}{most:Int}{xs:List α}(h:bB f most xs=0):(xs.length:Int)≤most∧∀(j:Nat)x,xs[j]? =some x→f (xs.take j) x=0:=by
 unfold bB at h
 split at h
 ·cases h
 ·rename_i hl
  refine⟨ae,fun j x hj=>?_⟩
  have:=bp f xs [] h j x hj
  exact bJ
theorem yT{ah:List Sg}{x:Sg}(h:cQ ah x=0):x.1.size≤8∧bO x.1 8=true∧x.2.size≤8∧bO x.2 8=true:=by
 unfold cQ at h
 by_cases a1:8<x.1.size
 ·rw[if_pos a1]at h; cases h
 rw[if_neg a1]at h
 by_cases a2:bO x.1 8=false
 ·rw[if_pos a2]at h; cases h
 rw[if_neg a2]at h
 by_cases a3:8<x.2.size
 ·rw[if_pos a3]at h; cases h
 rw[if_neg a3]at h
 by_cases a4:bO x.2 8=false
 ·rw[if_pos a4]at h; cases h
 exact⟨ae,by simpa using a2,ae,by simpa using a4⟩
theorem ye{sg:List Sg}{left ty:Int}{lo:ByteArray}{xs:List InM}(h:fp sg left ty lo xs=0):0≤ty∧ty<sg.length∧lo.size+(po sg ty).size≤64∧bO lo 64=true∧xs.length≤2048∧∀(j:Nat)x,xs[j]? =some x→dV x=0:=by
 unfold fp at h
 by_cases a1:ty<0∨(sg.length:Int)≤ty
 ·rw[if_pos a1]at h; cases h
 rw[if_neg a1]at h
 by_cases a2:64<lo.size+(po sg ty).size
 ·rw[if_pos a2]at h; cases h
 rw[if_neg a2]at h
 by_cases a3:bO lo 64=false
 ·rw[if_pos a3]at h; cases h
 rw[if_neg a3]at h
 by_cases a4:min 2048 left<(xs.length:Int)
 ·rw[if_pos a4]at h; cases h
 rw[if_neg a4]at h
 exact⟨ae,ae,ae,by simpa using a3,ae,fun j x hj=>by simpa using bp _ xs [] h j x hj⟩
theorem rO{t:Int}{g:Bool}{a:Int}{l:List Int}(h:chk t g a l=0):t≠-1∧lo t g≤a∧a≤hi t g∧l.length≤16∧(t=3→0<l.length)∧(t≠3→l.length=0):=by
 unfold chk at h
 by_cases a1:t=-1
 ·rw[if_pos a1]at h; cases h
 rw[if_neg a1]at h
 by_cases a2:a<lo t g∨hi t g<a
 ·rw[if_pos a2]at h; cases h
 rw[if_neg a2]at h
 by_cases a3:t=3
 ·rw[if_pos a3]at h
  by_cases a4:l.length<1∨16<l.length
  ·rw[if_pos a4]at h; cases h
  ·exact⟨a1,ae,ae,ae,fun _=>ae,fun e=>absurd a3 e⟩
 ·rw[if_neg a3]at h
  by_cases a4:l.length=0
  ·exact⟨a1,ae,ae,ae,fun e=>absurd e a3,fun _=>a4⟩
  ·rw[if_neg a4]at h; cases h
theorem zW{x:Gl}(h:gH x=0):(x.1=119∨x.1=108)∧gy x.2.2 x.1=true:=by
 unfold gH at h
 by_cases b1:isL x.1=false
 ·exact o8
 ·rw[if_neg b1]at h
  have b2:isL x.1=true:=by simpa using b1
  simp only[isL,Bool.or_eq_true,decide_eq_true_eq]at b2
  refine⟨b2,?_⟩
  by_cases b3:gy x.2.2 x.1=false
  ·rw[if_pos b3]at h; cases h
  ·simpa using b3
theorem lH{n x:Int}(h:dw n x=0):0≤x∧x<n:=by
 unfold dw at h
 by_cases b1:x<0∨n≤x
 ·exact o8
 ·omega
theorem rL{n x:Int}(h:jh n x=0):n≤x∧x≤64:=by
 unfold jh at h
 by_cases b1:x<n∨64<x
 ·exact o8
 ·omega
theorem zm{room:Int}{ah:List DaM}{x:DaM}(h:cX room ah x=0):0≤x.1∧x.1≤room∧iO ah x.1=false∧(x.2.2.length:Int)≤room-x.1∧x.2.2.length≠0:=by
 unfold cX at h
 by_cases b1:x.1<0∨room<x.1
 ·exact o8
 rw[if_neg b1]at h
 by_cases b2:iO ah x.1=true
 ·rw[if_pos b2]at h; cases h
 rw[if_neg b2]at h
 by_cases b3:room-x.1<(x.2.2.length:Int)
 ·rw[if_pos b3]at h; cases h
 rw[if_neg b3]at h
 by_cases b4:x.2.2.length=0
 ·rw[if_pos b4]at h; cases h
 exact⟨ae,ae,by simpa using b2,ae,b4⟩
theorem Aw{nf:Int}{ah:List Ex}{x:Ex}(h:fk nf ah x=0):x.1.size≤32∧jb x.1=true∧gg ah x.1=false∧0≤x.2∧x.2<nf:=by
 unfold fk at h
 by_cases b1:32<x.1.size
 ·exact o8
 rw[if_neg b1]at h
 by_cases b2:jb x.1=false
 ·rw[if_pos b2]at h; cases h
 rw[if_neg b2]at h
 by_cases b3:gg ah x.1=true
 ·rw[if_pos b3]at h; cases h
 rw[if_neg b3]at h
 exact⟨ae,by simpa using b2,by simpa using b3,(lH h).1,(lH h).2⟩
structure Pas(m:MM):Prop where
 nt:m.types.length≤64
 ty:∀(j:Nat)x,m.types[j]? =some x→x.1.size≤8∧bO x.1 8=true∧x.2.size≤8∧bO x.2 8=true
 nh:m.hosts.length≤32
 ho:∀(j:Nat)x,m.hosts[j]? =some x→0≤x∧x<m.tn
 ng:m.globals.length≤64
 gl:∀(j:Nat)x,m.globals[j]? =some x→(x.1=119∨x.1=108)∧gy x.2.2 x.1=true
 fi:0≤m.fi∧m.fi≤64
 mo:m.fi≤m.mo∧m.mo≤64
 nf:m.fns.length≤128
 fn:∀(j:Nat)x,m.fns[j]? =some x→0≤x.1∧x.1<m.types.length∧x.2.1.size≤64∧bO x.2.1 64=true∧x.2.2.2.length≤2048∧∀(i:Nat)y,x.2.2.2[i]? =some y→dV y=0
 nd:m.data.length≤64
 da:∀(j:Nat)x,m.data[j]? =some x→0≤x.1∧x.1≤262144∧x.2.2.length≤262144∧x.2.2.length≠0
 ne:m.exps.length≤64
 ex:∀(j:Nat)x,m.exps[j]? =some x→x.1.size≤32∧jb x.1=true∧0≤x.2∧x.2<m.fn
theorem lm{m:MM}(h:dh m=0):Pas m:=by
 obtain⟨h,_⟩:=cS h;obtain⟨h1,h⟩:=cS h;obtain⟨h2,h⟩:=cS h;obtain⟨h3,h⟩:=cS h;obtain⟨h4,h⟩:=cS h;obtain⟨h5,h⟩:=cS h;obtain⟨h6,h⟩:=cS h;obtain⟨h7,h8⟩:=cS h;obtain⟨l1,a1⟩:=fY h1;obtain⟨l2,a2⟩:=fY h2;obtain⟨l3,a3⟩:=fY h3;obtain⟨l6,a6⟩:=fY h6;obtain⟨l7,a7⟩:=fY h7;obtain⟨l8,a8⟩:=fY h8;have p4:=rL h4;have p5:=rL h5
 refine⟨ae,fun j x hj=>yT (a1 j x hj),ae,fun j x hj=>lH (a2 j x hj),ae,fun j x hj=>zW (a3 j x hj),p4,p5,ae,fun j x hj=>?_,ae,fun j x hj=>?_,ae,fun j x hj=>?_⟩
 ·have:=ye (a6 j x hj)
  exact⟨this.1,this.2.1,ae,this.2.2.2.1,this.2.2.2.2.1,this.2.2.2.2.2⟩
 ·have:=zm (a7 j x hj)
  exact⟨this.1,ae,ae,this.2.2.2.2⟩
 ·have:=Aw (a8 j x hj)
  exact⟨this.1,this.2.1,this.2.2.2.1,this.2.2.2.2⟩
theorem dD(n:Int)(h0:-9223372036854775808≤n)(h1:n≤9223372036854775807):(aW n).size≤21:=by
 have:=Lib.itoa_length_le n h0 h1
 simpa[aW,ByteArray.size] using this
theorem vk(r:List ByteArray):(Lib.joinTail [32] (r.map (·.data.toList))).length=(r.map (·.size)).sum+r.length:=by
 exact Ju
theorem ck(x:ByteArray)(r:List ByteArray):(bI (x::r)).length=x.size+(r.map (·.size)).sum+r.length+1:=by
 rw[bI,List.length_append,List.map_cons,Lib.join_cons,List.length_append,vk];have e:x.data.toList.length=x.size:=Array.length_toList;rw[e]
 simp only[List.length_cons,List.length_nil]
 omega
theorem fR{α:Type}(f:α→List UInt8)(K:Nat):∀(l:List α),(∀x∈l,(f x).length≤K)→(l.flatMap f).length≤l.length*K
 | [],_=>by simp
 | x::l,h=>by
  rw[List.flatMap_cons,List.length_append,List.length_cons,Nat.succ_mul];have h1:=h x ar
  have h2:=fR f K l (fun y hy=>h y lO)
  omega
theorem KJ:∀c:Nat,c<256→(ofV (c:Int)).1.2.1.size≤100:=by
 have h:((List.range 256).all fun c=>decide ((ofV (c:Int)).1.2.1.size≤100))=true:=ai
 intro c hc
 have:=List.all_eq_true.1 h c (List.mem_range.2 hc)
 exact bJ
theorem CQ{p r:ByteArray}(hp:p.size≤8)(hr:r.size≤8):(mr p r).size≤100:=by
 unfold mr
 split
 ·unfold ir;have h1:=jV p;have h2:=jV r;have h3:(⟨#[32,45,62,32]⟩:ByteArray).size=4:=rfl;rw[ByteArray.size_append,ByteArray.size_append,h3];omega
 ·show 0≤100
  omega
theorem cU{α:Type}{l:List α}{x:α}(h:x∈l):∃j:Nat,l[j]? =some x:=List.mem_iff_getElem?.1 h
theorem Cs:∀(l:List Int),(∀v∈l,-9223372036854775808≤v∧v≤9223372036854775807)→((l.map aW).map (·.size)).sum≤l.length*21
 | [],_=>by simp
 | v::l,h=>by
  rw[List.map_cons,List.map_cons,List.sum_cons,List.length_cons,Nat.succ_mul];have h1:=dD v (h v ar).1 (h v ar).2
  have h2:=Cs l (fun u hu=>h u (by simp[hu]))
  omega
theorem M6{y:InM}(h0:0≤y.1)(h1:y.1≤255)(ha:-9223372036854775808≤y.2.1∧y.2.1≤9223372036854775807)(hl:y.2.2.2.length≤16)(hr:∀v∈y.2.2.2,-9223372036854775808≤v∧v≤9223372036854775807):(oK y).length≤1000:=by
 unfold oK fq;rw[ck,lq];have hw:=KJ y.1.toNat ae
 rw[show((y.1.toNat:Nat):Int)=y.1 by omega]at hw
 split
 ·simp only[List.map_nil,List.sum_nil,List.length_nil]; omega
 ·split
  ·have h2:=Cs y.2.2.2 hr;rw[List.length_map];omega
  ·have h3:=dD y.2.1 ha.1 ha.2
   simp only[List.map_cons,List.map_nil,List.sum_cons,List.sum_nil,List.length_cons,List.length_nil]
   omega
theorem MN{R g:Nat}{m:MM}{w:World}(hM:MOk w R g m)(hp:Pas m)(hcn:∀(j:Nat)x,m.fns[j]? =some x→∀(i:Nat)y,x.2.2.2[i]? =some y→-9223372036854775808≤y.2.1∧y.2.1≤9223372036854775807):(iq m).length≤1000000000:=by
 have b1:=fR kO 200 m.types (fun x hx=>by
  obtain⟨j,hj⟩:=cU hx
  have:=hp.ty j x hj
  have h2:=CQ this.1 this.2.2.1;unfold kO;rw[ck]
  simp only[List.map_cons,List.map_nil,List.sum_cons,List.sum_nil,List.length_cons,List.length_nil]
  have:gK.size=4:=rfl
  omega)
 have b2:=fR gJ 200 m.hosts (fun x hx=>by
  obtain⟨j,hj⟩:=cU hx
  have:=hM.hr j x hj
  have h2:=dD x this.1 ae;unfold gJ;rw[ck]
  simp only[List.map_cons,List.map_nil,List.sum_cons,List.sum_nil,List.length_cons,List.length_nil]
  have:eJ.size=6:=rfl
  omega)
 have b3:=fR glL 200 m.globals (fun x hx=>by
  obtain⟨j,hj⟩:=cU hx
  have:=hM.gr j x hj
  have h2:=dD (told x.1 x.2.2) (by unfold told; split <;> (first | unfold wrap32 | unfold wrap64) <;> omega) (by unfold told; split <;> (first | unfold wrap32 | unfold wrap64) <;> omega)
  unfold glL;rw[ck]
  simp only[List.map_cons,List.map_nil,List.sum_cons,List.sum_nil,List.length_cons,List.length_nil]
  have h3:dJ.size=6:=rfl;have h4:(⟨#[UInt8.ofNat x.1.toNat]⟩:ByteArray).size=1:=rfl
  have h5:(jg x.2.1).size≤5:=by cases x.2.1 <;> decide
  omega)
 have b4:(oF m.fi m.mo).length≤200:=by
  have h1:=dD m.fi hM.i0 (by have:=hM.i1; omega)
  have h2:=dD m.mo hM.o0 (by have:=hM.o1; omega)
  exact IG
 have b5:=fR fuL 2100000 m.fns (fun x hx=>by
  obtain⟨j,hj⟩:=cU hx;have h1:=hp.fn j x hj;have h2:=hM.fr j x hj
  have h3:=dD x.1 h2.1.1 (by have:=h2.1.2; omega)
  have h4:(ja x.2.1).size≤65:=by unfold ja; split <;> first | decide | omega
  have h5:=fR oK 1000 x.2.2.2 (fun y hy=>by
   obtain⟨i,hi⟩:=cU hy;have g1:=h2.2.2.2 i y hi;have g2:=rO (h1.2.2.2.2.2 i y hi)
   exact M6 g1.1 g1.2.1 (hcn j x hj i y hi) g2.2.2.2.1 (fun v hv=>by have:=g1.2.2.1.2.2.2.1 v hv; omega))
  unfold fuL fnL;rw[List.length_append,ck]
  simp only[List.map_cons,List.map_nil,List.sum_cons,List.sum_nil,List.length_cons,List.length_nil]
  have:eK.size=4:=rfl;have h6:=h1.2.2.2.2.1
  omega)
 have b6:=fR daL 600000 m.data (fun x hx=>by
  obtain⟨j,hj⟩:=cU hx;have h1:=hp.da j x hj;have h2:=dD x.1 ae ae;unfold daL;rw[ck]
  simp only[List.map_cons,List.map_nil,List.sum_cons,List.sum_nil,List.length_cons,List.length_nil]
  have h3:iT.size=4:=rfl
  have h4:(⟨(gq x.2.2).toArray⟩:ByteArray).size=2*x.2.2.length:=by
   have:=rC x.2.2
   simpa[ByteArray.size] using this
  omega)
 have b7:=fR exL 200 m.exps (fun x hx=>by
  obtain⟨j,hj⟩:=cU hx;have h1:=hp.ex j x hj;have h0:=hM.er j x hj;have h2:=dD x.2 h0.1 ae;unfold exL;rw[ck]
  simp only[List.map_cons,List.map_nil,List.sum_cons,List.sum_nil,List.length_cons,List.length_nil]
  have:d9.size=6:=rfl
  omega)
 exact Ko
def sQ(m:MM):ByteArray:=if dh m=0 then ⟨(iq m).toArray⟩ else ⟨#[]⟩
theorem iX.up{B B':Nat}{w:World}(h:iX B w)(hb:B≤B'):iX B' w:=fun W hW=>h W (hW.mono hb)
def EG(m:MM):Prop:=∀(j:Nat)x,m.fns[j]? =some x→∀(i:Nat)y,x.2.2.2[i]? =some y→-9223372036854775808≤y.2.1∧y.2.1≤9223372036854775807
theorem CF(B:Nat)(m:MM)(w:World)(hB:B≤w.heap.size)(htn:iX B w)(hk:aP w)(hm:∀R g,w.heap.size≤R→w.heap.size≤g→MOk w R g m)(hir:EG m) :
  Calls Tryz.prog 11 #[.agg (mV m)] w fun e w'=>e=.returned (.tuple #[.string (sQ m),.int .i64 (dh m)])∧Below w.heap.size w w':=by
 have B1:=ag w (.cells (mV m) 29)
 have HC:=hid (DR m (w.alloc (.cells (mV m) 29)) (hk.later B1 hk.pos) (fun R g h1 h2=>(hm R g (by simp at h1; omega) (by simp at h2; omega)).later B1))
 have hb:=heap_alloc_new w (.cells (mV m) 29);have BW:=hid B1;obtain⟨⟨m0,m1,m2,m3,m4,m5,m6,m7⟩,-⟩:=av hb;have HMX:=hid hb;have HW:w.alloc (cA m.ta m.tn m.tc m.ha m.hn m.hc m.ga m.gn m.gc m.fi m.mo m.fa m.fn m.fc m.da m.dn m.dc m.ea m.en m.ec)=w.alloc (.cells (mV m) 29):=rfl;have z1:(w.alloc (.cells (mV m) 29)).heap.size=w.heap.size+1:=ar;generalize w.alloc (.cells (mV m) 29)=W1 at *;have HM:=hid hm;have HK:=hid hk;have HT:=hid (htn.up hB);have HR:=hid hir
 show Calls Tryz.prog 11 #[.agg #[.slice m.ta m.tn m.tc,.slice m.ha m.hn m.hc,.slice m.ga m.gn m.gc,.int .i64 m.fi,.int .i64 m.mo,.slice m.fa m.fn m.fc,.slice m.da m.dn m.dc,.slice m.ea m.en m.ec]] w _
 unfold mV at HC;clear hm hk htn hir B1 hb
 go_enter Tryz.func11,Tryz.ntmps11
 go_wp2_with fail;refine HC.out.mono ?_;rintro e w2⟨rfl,hb2⟩;have B2:=hid (BW.out.trans (hb2.mono BW.out.size));have MX2:=hid (au hb2 HMX.out);obtain⟨⟨n0,n1,n2,n3,n4,n5,n6,n7⟩,-⟩:=av MX2.out;clear hb2 m0 m1 m2 m3 m4 m5 m6 m7 HC HW
 by_cases hx:dh m=0
 ·have hP:=lm hx
  have hprt:sQ m=⟨(iq m).toArray⟩:=by unfold sQ; rw[if_pos hx]
  rw[hx];have HPR:=hid hprt;have HX:=hid hx;clear hprt hx;have hMO:MOk w2 w2.heap.size w2.heap.size m:=(HM.out w2.heap.size w2.heap.size B2.out.size B2.out.size).later B2.out;have hlen:=MN hMO hP HR.out;have e1:=hMO.pt.1;have e2:=hMO.ph.1;have e3:=hMO.pg.1;have e4:=hMO.pf.1;have e5:=hMO.pd.1;have e6:=hMO.pe.1
  have hown:Lib.IsBuilder 96 5 w2.heap.size w2.heap.size [] (w2.alloc (.cells #[.pointer none,.slice none 0 0] 96)):=.inl ⟨Nat.le_refl _,.slice none 0 0,(MapKept.heap_alloc w2 _).1,World.ownsRow_nil _ _ _ _,by simp[Value.ownBlock]⟩
  have hPS:PS w2 (w2.alloc (.cells #[.pointer none,.slice none 0 0] 96)) w2.heap.size [] (w2.alloc (.cells #[.pointer none,.slice none 0 0] 96)):=⟨hown,ag w2 _,cY.refl _ _⟩
  have HMod:=hid (RY w2.heap.size w2.heap.size w2.heap.size m w2 (w2.alloc (.cells #[.pointer none,.slice none 0 0] 96)) [] hPS (HT.out.later B2.out |>.up B2.out.size) (HK.out.later B2.out HK.out.pos) hMO aI (fun j x hj=>by have:=hP.ty j x hj; omega) (fun j x hj=>by have:=(hP.gl j x hj).1; omega) (by have:=hP.nt; omega) (by have:=hP.nh; omega) (by have:=hP.ng; omega) (by have:=hP.nf; omega) (by have:=hP.nd; omega) (by have:=hP.ne; omega) (fun j x hj=>⟨by
   have h1:=(hP.fn j x hj).2.2.2.2.1;have h2:=(hMO.fr j x hj).2.1.1
   omega,HR.out j x hj⟩))
  have HS:=hid (fun(W:World) (hW:Lib.IsBuilder 96 5 w2.heap.size w2.heap.size (Lib.byteCells (iq m)) W)=>JH Q0 w2.heap.size w2.heap.size (iq m) W hW (by
   intro h0
   have:(iq m).length=0:=by rw[h0]; rfl
   have e:(iq m).length=7+((m.types.flatMap kO).length+((m.hosts.flatMap gJ).length+((m.globals.flatMap glL).length+((oF m.fi m.mo).length+((m.fns.flatMap fuL).length+((m.data.flatMap daL).length+(m.exps.flatMap exL).length)))))):=by
    simp only[iq,List.length_append]; rfl
   omega))
  obtain⟨⟨q0,q1,q2,q3,q4,q5,q6,q7⟩,-⟩:=av (au (ag w2 (.cells #[.pointer none,.slice none 0 0] 96)) MX2.out);have hlt2:w.heap.size<w2.heap.size:=aJ MX2.out;clear hown hPS hMO hP e1 e2 e3 e4 e5 e6 hlen n0 n1 n2 n3 n4 n5 n6 n7;unfold mV at HMod;rw[List.nil_append]at HMod;go_wp2_with fail;refine HMod.out.mono ?_;rintro e w4⟨rfl,h4⟩;have P4:=hid h4;clear h4;go_wp2_with fail;refine(HS.out _ P4.out.own).mono ?_;rintro e w5⟨rfl,hb5⟩;go_wp2_with fail;go_ret2
  exact⟨by rw[HPR.out,HX.out]; rfl,B2.out.trans ((P4.out.low.trans hb5).mono B2.out.size)⟩
 ·have hprt:sQ m=⟨#[]⟩:=by unfold sQ; rw[if_neg hx]
  have HPR:=hid hprt;have hne:(dh m==0)=false:=xx;generalize hcc:dh m=c at *;have HCC:=hid hcc;clear hprt hcc;go_wp2_with fail;go_ret2
  exact⟨by rw[HPR.out,HCC.out]; rfl,B2.out⟩
def unI(y:PIn):InM:=(y.1,y.2.1,(none,0,0),y.2.2)
def unF(x:PFn):FuM:=(x.1,x.2.1,(none,0,0),x.2.2.map unI)
def unD(x:Int×List Int):DaM:=(x.1,(none,0,0),x.2)
def un(M:PM):MM:={ ta:=none,tn:=M.types.length,tc:=0,types:=M.types,ha:=none,hn:=M.hosts.length,hc:=0,hosts:=M.hosts,ga:=none,gn:=M.globals.length,gc:=0,globals:=M.globals,fi:=M.fi,mo:=M.mo,fa:=none,fn:=M.fns.length,fc:=0,fns:=M.fns.map unF,da:=none,dn:=M.data.length,dc:=0,data:=M.data.map unD,ea:=none,en:=M.exps.length,ec:=0,exps:=M.exps }
theorem ni{α:Type}{f:List α→α→Int}{c:α→α}(h:∀ah x,f (ah.map c) (c x)=f ah x):∀(xs ah:List α),aU f (ah.map c) (xs.map c)=aU f ah xs
 | [],ah=>rfl
 | x::r,ah=>by
  simp only[List.map_cons,aU,h]
  have e:ah.map c++[c x]=(ah++[x]).map c:=ar;rw[e,ni h r (ah++[x])]
theorem tX{α:Type}{f:List α→α→Int}{c:α→α}(h:∀ah x,f (ah.map c) (c x)=f ah x)(most:Int)(xs:List α):bB f most (xs.map c)=bB f most xs:=by
 unfold bB;rw[List.length_map]
 have:=ni h xs []
 rw[List.map_nil]at this;rw[this]
theorem kR{α β:Type}{f:α→List β}{c:α→α}(h:∀x,f (c x)=f x)(xs:List α):(xs.map c).flatMap f=xs.flatMap f:=by
 rw[List.flatMap_map]
 congr 1
 exact funext h
def cI(y:InM):InM:=unI (plI y)
def cF(x:FuM):FuM:=unF (plF x)
def cD(x:DaM):DaM:=unD (plD x)
theorem vr(x:FuM):(cF x).2.2.2=x.2.2.2.map cI:=by simp[cF,plF,unF,cI,Function.comp_def]
theorem Mg(sg:List Sg)(ah:List FuM)(x:FuM):fH sg (ah.map cF) (cF x)=fH sg ah x:=by
 have e:bG (ah.map cF)=bG ah:=by
  unfold bG;rw[List.map_map]
  congr 2
  funext y
  simp only[Function.comp,vr,List.length_map]
 unfold fH;rw[e,vr]
 show fp sg _ x.1 x.2.1 _=_
 unfold fp;rw[List.length_map]
 have h:=ni (f:=fun(_:List InM) y=>dV y) (c:=cI) (fun _ _=>rfl) x.2.2.2 []
 rw[List.map_nil]at h;rw[h]
theorem De(x:FuM):cK (cF x)=cK x:=by
 unfold cK;rw[vr]
 show iI x.1 x.2.1 _=_
 unfold iI
 rw[List.length_map,kR (f:=fF) (c:=cI) (fun _=>rfl)]
theorem Me(room:Int)(ah:List DaM)(x:DaM):cX room (ah.map cD) (cD x)=cX room ah x:=by
 have e:∀v,iO (ah.map cD) v=iO ah v:=by
  intro v;unfold iO;rw[List.getLast?_map]
  cases ah.getLast? <;> rfl
 unfold cX;rw[e];rfl
theorem Hy(m:MM):(un (pl m)).fns=m.fns.map cF:=by
 show(m.fns.map plF).map unF=_
 rw[List.map_map]; rfl
theorem DC(m:MM):(un (pl m)).data=m.data.map cD:=by
 show(m.data.map plD).map unD=_
 rw[List.map_map]; rfl
theorem GI{m:MM}(h:LnM m):dh (un (pl m))=dh m:=by
 have h1:(un (pl m)).tn=m.tn:=h.t.symm;have h2:(un (pl m)).hn=m.hn:=h.h.symm;have h3:(un (pl m)).gn=m.gn:=h.g.symm
 have h4:(un (pl m)).fn=m.fn:=by rw[h.f]; simp[un,pl]
 have h5:(un (pl m)).dn=m.dn:=by rw[h.d]; simp[un,pl]
 have h6:(un (pl m)).en=m.en:=h.e.symm;unfold dh fP gF e1 e2 e3 e4 e5 e6 e7 e8;rw[h1,h2,h3,h4,h5,h6,Hy,DC]
 rw[tX (fun ah x=>Mg _ ah x),tX (fun ah x=>Me _ ah x),kR De,kR (f:=cN) (c:=cD) (fun _=>rfl)]
 rfl
theorem Jo{m n:MM}(hm:LnM m)(hn:LnM n)(h:pl m=pl n):dh m=dh n:=by rw[← GI hm,h,GI hn]
theorem MSr.len{w:World}{m:MM}(h:MSr w m):LnM m:=⟨h.pt.1.symm,h.ph.1.symm,h.pg.1.symm,h.pf.1.symm,h.pd.1.symm,h.pe.1.symm⟩
theorem MOk.len{w:World}{R g:Nat}{m:MM}(h:MOk w R g m):LnM m:=⟨h.pt.1.symm,h.ph.1.symm,h.pg.1.symm,h.pf.1.symm,h.pd.1.symm,h.pe.1.symm⟩
end Go.Proofs.YtheefojaplnnoaaGreatDoor

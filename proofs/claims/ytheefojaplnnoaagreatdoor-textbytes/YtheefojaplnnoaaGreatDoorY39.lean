/-
  Texts Ud Ut Xv Mb Laid EnvM.
-/
import Derived.Below
import Derived.BigQuiet
import Derived.ChangeArms
import Derived.ChangeOld
import Derived.Deep.DeepHandedRow
import Derived.Deep.QuietTactic
import Derived.Deep.Strs
import Derived.FnData
import Derived.HandedShaped
import Derived.LaidMore
import Derived.Lay
import Derived.Lib.LaidTab
import Derived.OpenShut
import Derived.ProofKit
import Derived.ShutString
import Derived.SizedLaws
import Derived.Stop.Joined
import Derived.Stop.LaidErr
import Derived.Test.YtheefojaplnnoaaGreatDoorY00
import Derived.Test.YtheefojaplnnoaaGreatDoorCards
import Derived.Test.YtheefojaplnnoaaGreatDoorY01
import Derived.Test.YtheefojaplnnoaaGreatDoorY03
import Derived.Test.YtheefojaplnnoaaGreatDoorY05
import Derived.Test.YtheefojaplnnoaaGreatDoorY11
import Derived.Test.YtheefojaplnnoaaGreatDoorY19
import Derived.Test.YtheefojaplnnoaaGreatDoorY20
import Derived.Test.YtheefojaplnnoaaGreatDoorY35
import Derived.Test.YtheefojaplnnoaaGreatDoorY36
import Derived.Test.YtheefojaplnnoaaGreatDoorY38
set_option linter.unusedVariables false
set_option maxRecDepth 100000
set_option maxHeartbeats 16000000
namespace Go.Proofs.YtheefojaplnnoaaGreatDoor
open Go.RowKit
def wkW(w:World):World:=((((w.alloc (Obj.cells #[Value.string ⟨#[119]⟩,Value.string ⟨#[]⟩] 73)).alloc (Obj.cells #[Value.int IntKind.i64 0,Value.int IntKind.i64 1] 3)).alloc (Obj.cells #[Value.int IntKind.u8 9,Value.int IntKind.i64 0,Value.slice (some ⟨w.heap.size+1,0,none⟩) 2 2,Value.int IntKind.u8 6,Value.int IntKind.i64 0,Value.slice none 0 0] 75)).alloc (Obj.cells #[Value.int IntKind.i64 0,Value.string ⟨#[108]⟩,Value.slice (some ⟨w.heap.size+1+1,0,none⟩) 2 2] 78)).alloc (Obj.cells (mV (wkM w.heap.size)) 29)
theorem QP(w:World):kQ w.heap.size (wkW w)∧(wkW w).heap[w.heap.size+1+1+1+1]? =some (.cells (mV (wkM w.heap.size)) 29)∧Below w.heap.size w (wkW w)∧w.heap.size+1+1+1+1<(wkW w).heap.size:=by
 obtain⟨y0,h0⟩:∃y,w.alloc (Obj.cells #[Value.string ⟨#[119]⟩,Value.string ⟨#[]⟩] 73)=y:=⟨_,rfl⟩;obtain⟨y1,h1⟩:∃y,y0.alloc (Obj.cells #[Value.int IntKind.i64 0,Value.int IntKind.i64 1] 3)=y:=⟨_,rfl⟩;obtain⟨y2,h2⟩:∃y,y1.alloc (Obj.cells #[Value.int IntKind.u8 9,Value.int IntKind.i64 0,Value.slice (some ⟨w.heap.size+1,0,none⟩) 2 2,Value.int IntKind.u8 6,Value.int IntKind.i64 0,Value.slice none 0 0] 75)=y:=⟨_,rfl⟩;obtain⟨y3,h3⟩:∃y,y2.alloc (Obj.cells #[Value.int IntKind.i64 0,Value.string ⟨#[108]⟩,Value.slice (some ⟨w.heap.size+1+1,0,none⟩) 2 2] 78)=y:=⟨_,rfl⟩;obtain⟨y4,h4⟩:∃y,y3.alloc (Obj.cells (mV (wkM w.heap.size)) 29)=y:=⟨_,rfl⟩
 have e:wkW w=y4:=by unfold wkW; rw[h0,h1,h2,h3,h4]
 have z0:y0.heap.size=w.heap.size+1:=by rw[← h0]; simp
 have z1:y1.heap.size=w.heap.size+1+1:=by rw[← h1]; simp[z0]
 have z2:y2.heap.size=w.heap.size+1+1+1:=by rw[← h2]; simp[z1]
 have z3:y3.heap.size=w.heap.size+1+1+1+1:=by rw[← h3]; simp[z2]
 have z4:y4.heap.size=w.heap.size+1+1+1+1+1:=by rw[← h4]; simp[z3]
 have b0:=h0 ▸ ag w (Obj.cells #[Value.string ⟨#[119]⟩,Value.string ⟨#[]⟩] 73);have b1:=h1 ▸ ag y0 (Obj.cells #[Value.int IntKind.i64 0,Value.int IntKind.i64 1] 3);have b2:=h2 ▸ ag y1 (Obj.cells #[Value.int IntKind.u8 9,Value.int IntKind.i64 0,Value.slice (some ⟨w.heap.size+1,0,none⟩) 2 2,Value.int IntKind.u8 6,Value.int IntKind.i64 0,Value.slice none 0 0] 75);have b3:=h3 ▸ ag y2 (Obj.cells #[Value.int IntKind.i64 0,Value.string ⟨#[108]⟩,Value.slice (some ⟨w.heap.size+1+1,0,none⟩) 2 2] 78);have b4:=h4 ▸ ag y3 (Obj.cells (mV (wkM w.heap.size)) 29)
 have c0:y0.heap[w.heap.size]? =some (Obj.cells #[Value.string ⟨#[119]⟩,Value.string ⟨#[]⟩] 73):=by rw[← h0]; exact heap_alloc_new _ _
 have c1:y1.heap[w.heap.size+1]? =some (Obj.cells #[Value.int IntKind.i64 0,Value.int IntKind.i64 1] 3):=by rw[← h1,← z0]; exact heap_alloc_new _ _
 have c2:y2.heap[w.heap.size+1+1]? =some (Obj.cells #[Value.int IntKind.u8 9,Value.int IntKind.i64 0,Value.slice (some ⟨w.heap.size+1,0,none⟩) 2 2,Value.int IntKind.u8 6,Value.int IntKind.i64 0,Value.slice none 0 0] 75):=by rw[← h2,← z1]; exact heap_alloc_new _ _
 have c3:y3.heap[w.heap.size+1+1+1]? =some (Obj.cells #[Value.int IntKind.i64 0,Value.string ⟨#[108]⟩,Value.slice (some ⟨w.heap.size+1+1,0,none⟩) 2 2] 78):=by rw[← h3,← z2]; exact heap_alloc_new _ _
 have c4:y4.heap[w.heap.size+1+1+1+1]? =some (Obj.cells (mV (wkM w.heap.size)) 29):=by rw[← h4,← z3]; exact heap_alloc_new _ _
 rw[e];refine⟨⟨?_,?_,?_,?_⟩,c4,?_,ae⟩
 ·exact au b4 (au b3 (au b2 (au b1 c0)))
 ·exact au b4 (au b3 (au b2 c1))
 ·exact au b4 (au b3 c2)
 ·exact au b4 c3
 ·exact(((b0.trans (b1.mono b0.size)).trans (b2.mono ae)).trans (b3.mono ae)).trans (b4.mono ae)
theorem tq.up{B B':Nat}{w:World}(h:tq B w)(hb:B≤B'):tq B' w :=
 ⟨h.syn.imp fun _ ⟨p,h⟩=>⟨p,fun W hW=>h W (hW.mono hb)⟩,h.ran.imp fun _ ⟨p,h⟩=>⟨p,fun W hW=>h W (hW.mono hb)⟩⟩
theorem QY{w w':World}{e:Ending}(h:sZ wkT w e w'):∃m,pl m=wkP∧MSr w' m∧e=rt3 (mV m) 0 0∧Below w.heap.size w w':=by
 obtain⟨hb,-,h2⟩:=h;have h3:=((h2 aj _ _ Km).2 _ _ rfl).2 aj;obtain⟨m,hpl,hlen,hpr,-,h5⟩:=h3;have hc:dh m=0:=(Jo hlen (PN 0) (hpl.trans (N2 0).symm)).trans (zZ 0);obtain⟨he,base,R,mp,ln,hR,hq⟩:=h5 hc
 exact⟨m,hpl,(hq.mok (by rw[hpl]; exact hpr) _ _ (Nat.le_refl _) (Nat.le_refl _)).sr (lm hc),he,hb⟩
theorem LG{w w':World}{e:Ending}(h:sZ wkE w e w'):e=rt3 zV 22 2∧Below w.heap.size w w':=by
 obtain⟨hb,-,h2⟩:=h;exact⟨(h2 aj _ _ Ez).1 rfl,hb⟩
theorem PT(w:World)(hE:cw w.heap.size w):Calls Tryz.prog 8 #[] w fun e w'=>e=.returned (.bool true)∧Below w.heap.size w w':=by
 have HE:=hid (fun(W:World) (hb:Below w.heap.size w W)=>(⟨(hE.later hb).tens.up hb.size,(hE.later hb).errs.up hb.size,(hE.later hb).kinds,(hE.later hb).mx,Nat.lt_of_lt_of_le hE.b3 hb.size,Nat.le_refl _⟩:cw W.heap.size W))
 obtain⟨ha,hm,hb,hl⟩:=QP w;have H11:=hid (CF w.heap.size (wkM w.heap.size) (wkW w) hb.size (hE.later hb).tens (hE.later hb).kinds ha.ok (MZ _));rw[P8,zZ]at H11;have HA:=hid ha;have HM:=hid hm;have HB:=hid hb;have HL:=hid hl
 have HEQ:=hid (fun(m:MM)(W:World)(h1:MSr W m)(h2:kQ w.heap.size W) (hp:pl m=wkP)=>Sl h2.sr h1 (R8 (hp.symm ▸ N2 w.heap.size) h2.sr h1))
 clear hE ha hm hb hl
 go_enter Tryz.func8,Tryz.ntmps8
 go_wp2_with fail
 change Calls Tryz.prog 11 #[.agg (mV (wkM w.heap.size))] (wkW w) _
 generalize wkW w=W0 at *;refine H11.out.mono ?_;rintro e w1⟨rfl,hb1⟩
 replace HA:=hid (HA.out.later hb1)
 replace HM:=hid (au hb1 HM.out)
 replace HB:=hid (HB.out.trans (hb1.mono HB.out.size))
 clear hb1 H11 HL;have H15:=hid (vO wkT w1 (HE.out w1 HB.out));have e0:wkT=⟨#[102,108,97,103,111,110,10,116,121,112,101,32,119,32,45,62,32,45,10,109,101,109,111,114,121,32,49,32,50,10,102,117,110,99,32,48,32,108,10,32,32,98,114,116,97,98,108,101,32,48,32,49,10,32,32,101,110,100,10]⟩:=rfl;rw[← e0]
 have HPA:=hid (fun(e:Ending) (w':World)=>QY (w:=w1) (e:=e) (w':=w'))
 clear e0;generalize wkT=T at *;go_wp2_with fail;refine H15.out.mono ?_;intro e w2 hp;obtain⟨m,hpl,hms,rfl,hb2⟩:=HPA.out _ _ hp
 replace HA:=hid (HA.out.later hb2)
 replace HM:=hid (au hb2 HM.out)
 replace HB:=hid (HB.out.trans (hb2.mono HB.out.size))
 have HMS:=hid hms;have HPL:=hid hpl;clear hp hb2 H15 HPA hms hpl;unfold rt3 mV;go_wp2_with fail;have BN:=ag w2 (cA m.ta m.tn m.tc m.ha m.hn m.hc m.ga m.gn m.gc m.fi m.mo m.fa m.fn m.fc m.da m.dn m.dc m.ea m.en m.ec);have bx:=heap_alloc_new w2 (cA m.ta m.tn m.tc m.ha m.hn m.hc m.ga m.gn m.gc m.fi m.mo m.fa m.fn m.fc m.da m.dn m.dc m.ea m.en m.ec)
 replace HA:=hid (HA.out.later BN)
 replace HM:=hid (au BN HM.out)
 replace HB:=hid (HB.out.trans (BN.mono HB.out.size))
 replace HMS:=hid (HMS.out.later BN)
 have HX:=hid bx;clear BN bx;generalize w2.alloc (cA m.ta m.tn m.tc m.ha m.hn m.hc m.ga m.gn m.gc m.fi m.mo m.fa m.fn m.fc m.da m.dn m.dc m.ea m.en m.ec)=w3 at *;generalize w2.heap.size=X at *;have H15:=hid (vO wkE w3 (HE.out w3 HB.out));unfold wkE at H15;refine H15.out.mono ?_;intro e w4 hp;obtain⟨rfl,hb4⟩:=LG hp
 replace HA:=hid (HA.out.later hb4)
 replace HM:=hid (au hb4 HM.out)
 replace HX:=hid (au hb4 HX.out)
 replace HB:=hid (HB.out.trans (hb4.mono HB.out.size))
 replace HMS:=hid (HMS.out.later hb4)
 clear hp hb4 H15;unfold rt3 zV;have BN:=ag w4 (cA none 0 0 none 0 0 none 0 0 0 0 none 0 0 none 0 0 none 0 0)
 replace HA:=hid (HA.out.later BN)
 replace HM:=hid (au BN HM.out)
 replace HX:=hid (au BN HX.out)
 replace HB:=hid (HB.out.trans (BN.mono HB.out.size))
 replace HMS:=hid (HMS.out.later BN)
 clear BN;have HQ:=hid (HEQ.out m _ HMS.out HA.out HPL.out);unfold wkM mV at HQ HM;dsimp only at HQ HM;obtain⟨⟨m0,m1,m2,m3,m4,m5,m6,m7⟩,-⟩:=av HX.out;obtain⟨⟨n0,n1,n2,n3,n4,n5,n6,n7⟩,-⟩:=av HM.out;have hTT:(T.toList==T.toList)=true:=ar;go_wp2_with fail;refine HQ.out.mono ?_;rintro e w6⟨rfl,hb6⟩;have HB6:=hid (HB.out.trans (hb6.mono HB.out.size));clear hb6;go_wp2_with fail;go_ret;exact⟨rfl,HB6.out⟩
theorem cw.top{B:Nat}{w W:World}(h:cw B w)(hb:Below B w W):cw W.heap.size W :=
 ⟨(h.later hb).tens.up (Nat.le_trans h.bw hb.size),(h.later hb).errs.up (Nat.le_trans h.bw hb.size),(h.later hb).kinds,(h.later hb).mx,Nat.lt_of_lt_of_le h.b3 (Nat.le_trans h.bw hb.size),Nat.le_refl _⟩
open Go.ChangeShapes Go.WideShapes Go.ChangeAt Go.RowKit
theorem xW{α:Type}{P:Nat→α→Prop}:∀(n:Nat),(∀j,j<n→∃x,P j x)→∃xs:List α,xs.length=n∧∀j x,xs[j]? =some x→P j x
 | 0,_=>⟨[],rfl,fun j x h=>fX⟩
 | n+1,h=>by
  obtain⟨xs,hl,hx⟩:=xW n (fun j hj=>h j ae)
  obtain⟨y,hy⟩:=h n ae
  refine⟨xs++[y],by simp[hl],fun j x hj=>?_⟩
  by_cases hjn:j<xs.length
  ·rw[List.getElem?_append_left hjn]at hj;exact hx j x hj
  ·rw[List.getElem?_append_right ae]at hj
   have hj0:j-xs.length=0:=by
    rcases Nat.eq_zero_or_pos (j-xs.length) with h | h
    ·exact h
    ·rw[List.getElem?_eq_none aI]at hj; cases hj
   rw[hj0]at hj
   simp at hj
   subst hj;obtain rfl:j=n:=ae;exact hy
theorem kJ{H:Type}{P:Program}{e:TypeId}:∀{l:List (DataW H)} {d:DataW H},d∈l→∀n∈d.weights P e,n∈DataW.weightsAll P e l
 | x::r,d,h,n,hn=>by
  simp only[DataW.weightsAll,List.mem_append]
  rcases List.mem_cons.1 h with rfl | h
  ·exact .inl hn
  ·exact .inr (kJ h n hn)
structure rH{α:Type}(W:World)(c:Nat)(F:α→List Value)(a:Option Addr)(n cap:Nat)(xs:List α):Prop where
 cap_:n≤cap
 big:n≤140737488355328
 len:xs.length=n
 lt:∀b off s,nz n a=some ⟨b,off,s⟩→b<W.heap.size
 at_:n=0∨∃b off,a=some ⟨b,off,none⟩∧∀j x,xs[j]? =some x→∀i v,(F x)[i]? =some v→W.cell? ⟨b,off+j*c+i,none⟩=some v
section
variable {H:Type} {enc:TypeId×Value→H} {W:World}
theorem zM{α:Type}{t e:TypeId}{c B:Nat}(F:α→List Value)(G:α→Prop)(ht:Tryz.prog.underlying t=some (.slice e))(hc:Tryz.prog.cellsOf e=c)(h1:1≤c)(hB:Tryz.prog.bytesOf e=B)(hB1:1≤B)
  (hel:∀fuel ys y,DataW.trod enc Tryz.prog W 0 (fun _=>true) true fuel e ys=some y→(∀n∈y.1.weights Tryz.prog e,n≤reachBytes)→∃a:α,ys=F a∧G a)
  {fuel:Nat} {cs:List Value} {x:DataW H×List MemPlace} (h:DataW.trod enc Tryz.prog W 0 (fun _=>true) true fuel t cs=some x) (hw:∀n∈x.1.weights Tryz.prog t,n≤reachBytes) :
  ∃(a:Option Addr)(n cap:Nat)(xs:List α),cs=[.slice a n cap]∧rH W c F a n cap xs∧∀(j:Nat)x,xs[j]? =some x→G x:=by
 rcases DataW.trod_slice ht h with ⟨hcs,_⟩ | ⟨x,len,cap,elems,rest,n,_,hcs,hx,hb,hl,hm,hlen,hem,hsp,hns⟩
 ·exact⟨none,0,0,[],hcs,⟨Nat.le_refl _,ae,rfl,fun b off s h=>by simp[nz]at h,.inl rfl⟩,fun j x hj=>by simp at hj⟩
 ·have hd:=congrArg Prod.fst hx
  simp only at hd
  rw[hd]at hw
  have hbound:len≤140737488355328:=by
   have h2:=hw ((elems.length+rest.length)*B) (by simp[DataW.weights,ht,hB])
   simp only[reachBytes]at h2
   have h3:(elems.length+rest.length)*1≤(elems.length+rest.length)*B:=Nat.mul_le_mul_left _ hB1;omega
  by_cases h0:len=0
  ·subst h0
   exact⟨_,0,cap,[],hcs,⟨Nat.zero_le _,ae,rfl,fun b off s h=>by simp[nz]at h,.inl rfl⟩,fun j x hj=>by simp at hj⟩
  obtain⟨b,off,spot⟩:=x
  have hadd0:∀(y:Addr),y.add 0=y:=by intro y; cases y with | mk p q r=>cases r <;> simp[Addr.add]
  have hstep:∀j,j<len→∃y:α,(F y).length=c∧G y∧∀i,i<c→W.cell? (((⟨b,off,spot⟩:Addr).add (j*c)).add i)=(F y)[i]?:=by
   intro j hj;have he:=hem j hj;rw[aO ae]at he;obtain⟨ys,hys,htr⟩:=Option.bind_eq_some_iff.1 he;rw[hc]at hys;obtain⟨_,hlc,hcell⟩:=World.cells?_some hys
   have hmem:(elems[j]'(ae)).1∈elems.map (·.1):=List.mem_map.2 ⟨_,List.getElem_mem _,rfl⟩
   obtain⟨y,rfl,hG⟩:=hel _ _ _ htr (fun n hn=>hw n (by
    have hin:=kJ (P:=Tryz.prog) (e:=e) hmem n hn
    simp only[DataW.weights,ht,List.mem_cons,List.mem_append]
    exact .inr (.inl hin)))
   exact⟨y,hlc,hG,hcell⟩
  have hspot:spot=none:=by
   obtain⟨y,hy,_,hcl⟩:=hstep 0 ae;have h2:=hcl 0 ae;rw[aO ae]at h2
   have:=World.cell?_spot h2
   simpa[Addr.add] using this
  subst hspot
  have hplain:∀(p q i:Nat),(⟨p,q,none⟩:Addr).add i=⟨p,q+i,none⟩:=by intro p q i; unfold Addr.add; split <;> simp_all
  obtain⟨xs,hxl,hxs⟩:=xW (P:=fun j (y:α)=>(F y).length=c∧G y∧∀i,i<c→W.cell? ⟨b,off+j*c+i,none⟩=(F y)[i]?) len (fun j hj=>by
   obtain⟨y,q1,q2,q3⟩:=hstep j hj
   exact⟨y,q1,q2,fun i hi=>by have:=q3 i hi; rwa [hplain,hplain]at this⟩)
  refine⟨_,len,cap,xs,hcs,⟨hl,hbound,hxl,fun b' off' s' hb'=>?_,.inr ⟨b,off,rfl,fun j x hj i v hv=>?_⟩⟩,fun j x hj=>(hxs j x hj).2.1⟩
  ·have e:=ve hb'
   cases e
   obtain⟨y,hy,_,hcl⟩:=hstep 0 ae;have h2:=hcl 0 ae;rw[aO ae,hplain,hplain]at h2;exact World.block_lt_of_cell? W _ h2
  ·have hi:i<(F x).length:=(List.getElem?_eq_some_iff.1 hv).1;have q:=hxs j x hj;rw[q.1]at hi;rw[q.2.2 i hi];exact hv
theorem MR:Tryz.prog.cellsOf 5=1:=ai
theorem KU:Tryz.prog.bytesOf 5=1:=ai
theorem Qz{fuel:Nat}{cs:List Value}{x:DataW H×List MemPlace}(h:DataW.trod enc Tryz.prog W 0 (fun _=>true) true fuel 5 cs=some x)(hw:∀n∈x.1.weights Tryz.prog 5,n≤reachBytes):∃a:Int,cs=[.int .u8 a]∧(0≤a∧a≤255):=by
 obtain⟨n,h1,_,wf⟩:=DataW.trod_int Tryz.underlying5 h
 have:=bounds_u8 wf
 exact⟨n,h1,ae,ae⟩
def SA(x:ByteArray×ByteArray):List Value:=[.string x.1,.string x.2]
def FGl(x:Int×Bool×Int):List Value:=[.int .u8 x.1,.bool x.2.1,.int .u64 x.2.2]
def FEx(x:ByteArray×Int):List Value:=[.string x.1,.int .i64 x.2]
def FFu(x:Int×ByteArray×(Option Addr×Nat×Nat)×List (Int×Int×(Option Addr×Nat×Nat)×List Int)):List Value:=[.int .i64 x.1,.string x.2.1,.slice x.2.2.1.1 x.2.2.1.2.1 x.2.2.1.2.2]
def FDa(x:Int×(Option Addr×Nat×Nat)×List Int):List Value:=[.int .i64 x.1,.slice x.2.1.1 x.2.1.2.1 x.2.1.2.2]
end
section
variable {W:World} {m:MM}
theorem rH.sig{a:Option Addr}{n cap:Nat}{xs:List Sg}(h:rH W 2 SA a n cap xs):jf W a n xs :=
 ⟨h.len,h.at_.imp id fun⟨b,off,e,hc⟩=>⟨b,off,e,fun j x hj=>⟨hc j x hj 0 _ rfl,hc j x hj 1 _ rfl⟩⟩⟩
theorem rH.gl{a:Option Addr}{n cap:Nat}{xs:List Gl}(h:rH W 3 FGl a n cap xs):pL W a n xs :=
 ⟨h.len,h.at_.imp id fun⟨b,off,e,hc⟩=>⟨b,off,e,fun j x hj=>⟨hc j x hj 0 _ rfl,hc j x hj 1 _ rfl,hc j x hj 2 _ rfl⟩⟩⟩
theorem rH.fu{a:Option Addr}{n cap:Nat}{xs:List FuM}(h:rH W 3 FFu a n cap xs):oq W a n xs :=
 ⟨h.len,h.at_.imp id fun⟨b,off,e,hc⟩=>⟨b,off,e,fun j x hj=>⟨hc j x hj 0 _ rfl,hc j x hj 1 _ rfl,hc j x hj 2 _ rfl⟩⟩⟩
theorem rH.da{a:Option Addr}{n cap:Nat}{xs:List DaM}(h:rH W 2 FDa a n cap xs):pF W a n xs :=
 ⟨h.len,h.at_.imp id fun⟨b,off,e,hc⟩=>⟨b,off,e,fun j x hj=>⟨hc j x hj 0 _ rfl,hc j x hj 1 _ rfl⟩⟩⟩
theorem rH.ex{a:Option Addr}{n cap:Nat}{xs:List Ex}(h:rH W 2 FEx a n cap xs):pB W a n xs :=
 ⟨h.len,h.at_.imp id fun⟨b,off,e,hc⟩=>⟨b,off,e,fun j x hj=>⟨hc j x hj 0 _ rfl,hc j x hj 1 _ rfl⟩⟩⟩
end
section
variable {H:Type} {enc:TypeId×Value→H} {W:World}
end
theorem Tryz.cells287:Tryz.prog.cellsOf 287=4:=ai
theorem Tryz.cells288:Tryz.prog.cellsOf 288=28:=ai
theorem Tryz.cells5:Tryz.prog.cellsOf 5=1:=ai
theorem Tryz.cells9:Tryz.prog.cellsOf 9=1:=ai
theorem Tryz.kindsAt:Tryz.prog.globalNamed "flagon/ops.kinds" = some 0:=ai
theorem Tryz.kindsType:(Tryz.prog.globals[0]?).map (·.type)=some 288:=ai
theorem Rt{α:Type}:∀(l:List α),l.length=4→∃a b c d,l=[a,b,c,d]
 | [a,b,c,d],_=>⟨a,b,c,d,rfl⟩
theorem Sz{α:Type}:∀(l:List α),l.length=7→∃a b c d e f g,l=[a,b,c,d,e,f,g]
 | [a,b,c,d,e,f,g],_=>⟨a,b,c,d,e,f,g,rfl⟩
theorem gi{H:Type}{enc:TypeId×Value→H}{w:World}{base:Nat}{sp:Nat→Bool}{held:Bool}{fuel:Nat}{cs:List Value}{f l:Int}{a s:List UInt8}{p:List MemPlace}
  (h:DataW.trod enc Tryz.prog w base sp held fuel 287 cs=some (.agg [.lit (.int .u8 f),.lit (.int .u8 l),.lit (.string a),.lit (.string s)],p)) :
  cs=[.int .u8 f,.int .u8 l,.string ⟨a.toArray⟩,.string ⟨s.toArray⟩]:=by
 obtain⟨xs,n,_,hx,hl,hxl,hel⟩:=DataW.trod_struct Tryz.underlying287 h;rw[Tryz.cells287]at hl;obtain⟨c0,c1,c2,c3,rfl⟩:=Rt cs hl;obtain⟨x0,x1,x2,x3,rfl⟩:=Rt xs hxl;have e:=congrArg Prod.fst hx
 simp only[List.map_cons,List.map_nil,DataW.agg.injEq,List.cons.injEq,and_true]at e
 obtain⟨e0,e1,e2,e3⟩:=e;have h0:DataW.trod enc Tryz.prog w base sp held n 5 (([c0,c1,c2,c3].drop 0).take (Tryz.prog.cellsOf 5))=some x0:=hel 0 _ rfl;have h1:DataW.trod enc Tryz.prog w base sp held n 5 (([c0,c1,c2,c3].drop 1).take (Tryz.prog.cellsOf 5))=some x1:=hel 1 _ rfl;have h2:DataW.trod enc Tryz.prog w base sp held n 9 (([c0,c1,c2,c3].drop 2).take (Tryz.prog.cellsOf 9))=some x2:=hel 2 _ rfl;have h3:DataW.trod enc Tryz.prog w base sp held n 9 (([c0,c1,c2,c3].drop 3).take (Tryz.prog.cellsOf 9))=some x3:=hel 3 _ rfl;rw[Tryz.cells5]at h0 h1;rw[Tryz.cells9]at h2 h3;obtain⟨n0,g0,k0,_⟩:=DataW.trod_int Tryz.underlying5 h0;obtain⟨n1,g1,k1,_⟩:=DataW.trod_int Tryz.underlying5 h1;obtain⟨s2,g2,k2,_⟩:=DataW.trod_string Tryz.underlying9 h2;obtain⟨s3,g3,k3,_⟩:=DataW.trod_string Tryz.underlying9 h3;clear hel h hx h0 h1 h2 h3;rw[k0]at e0;rw[k1]at e1;rw[k2]at e2;rw[k3]at e3
 simp only[DataW.lit.injEq,Lit.int.injEq,true_and,Lit.string.injEq]at e0 e1 e2 e3
 simp only[List.drop_zero,List.drop_succ_cons,List.take_succ_cons,List.take_zero,List.cons.injEq,and_true]at g0 g1 g2 g3
 rw[g0,g1,g2,g3,e0,e1,e2,e3]
theorem chunks(l:List Value)(h:l.length=28):l=l.take 4++((l.drop 4).take 4++((l.drop 8).take 4++((l.drop 12).take 4++((l.drop 16).take 4++((l.drop 20).take 4++(l.drop 24).take 4))))):=by
 have e:∀n,l.drop n=(l.drop n).take 4++l.drop (n+4):=fun n=>by
  have:=(List.take_append_drop 4 (l.drop n)).symm
  rwa [List.drop_drop]at this
 have e6:l.drop 24=(l.drop 24).take 4:=by rw[List.take_of_length_le aI]
 have e5:=e 20; have e4:=e 16; have e3:=e 12; have e2:=e 8; have e1:=e 4; have e0:=e 0
 simp only[List.drop_zero,Nat.zero_add,Nat.reduceAdd]at e0 e1 e2 e3 e4 e5
 rw[← e6,← e5,← e4,← e3,← e2,← e1,← e0]
theorem tE{W:World}{rest:List (String×DataW Unit)}(h:laidMet Tryz.prog (("flagon/ops.kinds",Rows.laid_flagon_ops_kinds)::rest) W):aP W:=by
 obtain⟨ps,⟨g',t',cs,fuel,p,q,hg',ht',hvar,hd,_,_⟩,_⟩:=h;obtain rfl:=Option.some.inj (Tryz.kindsAt.symm.trans hg');obtain rfl:=Option.some.inj (Tryz.kindsType.symm.trans ht');obtain⟨xs,n,_,hx,hl,hxl,hel⟩:=DataW.trod_array Tryz.underlying288 hd;rw[Tryz.cells288]at hl;obtain⟨x0,x1,x2,x3,x4,x5,x6,rfl⟩:=Sz xs hxl;have e:=congrArg Prod.fst hx
 simp only[Rows.laid_flagon_ops_kinds,List.map_cons,List.map_nil,DataW.agg.injEq,List.cons.injEq,and_true]at e
 obtain⟨e0,e1,e2,e3,e4,e5,e6⟩:=e;have h0:=hel 0 aj; have h1:=hel 1 aj; have h2:=hel 2 aj; have h3:=hel 3 aj; have h4:=hel 4 aj; have h5:=hel 5 aj; have h6:=hel 6 aj
 simp only[Tryz.cells287,Nat.reduceMul,List.drop_zero,List.getElem?_cons_zero,List.getElem?_cons_succ]at h0 h1 h2 h3 h4 h5 h6
 obtain⟨d0,p0⟩:=x0; obtain⟨d1,p1⟩:=x1; obtain⟨d2,p2⟩:=x2; obtain⟨d3,p3⟩:=x3; obtain⟨d4,p4⟩:=x4; obtain⟨d5,p5⟩:=x5; obtain⟨d6,p6⟩:=x6
 simp only at e0 e1 e2 e3 e4 e5 e6
 subst e0 e1 e2 e3 e4 e5 e6
 have hcs:cs.toList=pD:=by
  rw[chunks _ hl,gi h0,gi h1,gi h2,gi h3,gi h4,gi h5,gi h6];rfl
 intro j v hj;rw[World.var?_cell Tryz.kindsAt hvar j,← Array.getElem?_toList,hcs];exact hj
theorem Ot:ownKnob Tryz.prog.godebug=none:=ai
theorem laidOut:laidOutB Tryz.prog=true:=ai
abbrev kM:List (String×DataW Unit):=Rows.textPrintsRow.laid
theorem rM(W:World):laidMetH Tryz.prog kM W=laidMet Tryz.prog kM W:=MakeChecks.laidMetH_plain _ _ _ ai
theorem met(os:Os)(args:Array Value):laidMetH Tryz.prog kM ((World.laidAll Tryz.prog os kM).forCall (fun _ _=>0) ⟨#[],args,[]⟩).memory:=by
 rw[rM];exact laidMet_laidAll _ ai ai
theorem kinds_met{W:World}(h:laidMet Tryz.prog kM W):aP W :=
 tE (laidMet.tail (laidMet.tail (laidMet.tail (laidMet.tail (laidMet.tail (laidMet.tail h))))))
theorem KN{W:World}(h:laidMet Tryz.prog kM W):iX W.heap.size W :=
 Lib.tabBelow_of_tabIs (Lib.tabIs_of_head (g:=4) (t:=317) (e:=100) (n:=20) ai ai ai ai ai ai (laidMet.tail (laidMet.tail h)))
theorem Tryz.cells338:Tryz.prog.cellsOf 338=1:=ai
theorem Tryz.star : "*" ++ "errors.errorString" = "*errors.errorString":=aj
theorem Il(u:TypeId)(h:Tryz.prog.typeName? 3 u=some "*errors.errorString"):u=336 :=
 typeName_ptr_named (nm:= "errors.errorString") (by rw[Tryz.star]; kernel_rfl) ai aj u (by rw[Tryz.star]; exact h)
theorem tP{W W':World}{n:String}{g:Nat}{cs:Array Value}(hg:Tryz.prog.globalNamed n=some g)(h:W.var? Tryz.prog n=some cs)(hb:Below W.heap.size W W'):W'.var? Tryz.prog n=some cs:=by
 unfold World.var? at h ⊢
 simp only[hg,Option.bind_some]at h ⊢
 have hlt:g<W.heap.size:=by
  rcases Nat.lt_or_ge g W.heap.size with h' | h'
  ·exact h'
  ·simp[Array.getElem?_eq_none h']at h
 rw[hb.block g hlt];exact h
theorem FV{W:World}(h:laidMet Tryz.prog kM W):tq W.heap.size W:=by
 have h4:=laidMet.tail (laidMet.tail (laidMet.tail (laidMet.tail h)));obtain⟨a0,s0,hv0,-,-,-⟩:=laid_sentinel (g:=6) (ti:=222) (tp:=336) (te:=338) (ts:=9) h4 ai ai Tryz.underlying222 Il Tryz.underlying336 Tryz.underlying338 rfl rfl Tryz.underlying9 Tryz.cells338 Tryz.cells9;obtain⟨a1,s1,hv1,-,-,-⟩:=laid_sentinel (g:=5) (ti:=222) (tp:=336) (te:=338) (ts:=9) (laidMet.tail h4) ai ai Tryz.underlying222 Il Tryz.underlying336 Tryz.underlying338 rfl rfl Tryz.underlying9 Tryz.cells338 Tryz.cells9
 exact⟨⟨_,_,fun W' hb=>tP (g:=5) ai hv1 hb⟩,⟨_,_,fun W' hb=>tP (g:=6) ai hv0 hb⟩⟩
theorem I9(w:World)(h:w.ShapedOpen Tryz.prog):rP w :=
 (fun w h=>Go.Proofs.cell_of_shapedOpen_int (zero:=#[.int .i64 0]) (t:=3) h (of_decide_eq_true ai) ai rfl ai ai Tryz.underlying3) w h
theorem LX{W:World}(hL:laidMetH Tryz.prog kM W)(hs:W.ShapedOpen Tryz.prog):cw W.heap.size W:=by
 rw[rM]at hL;have hm:=I9 W hs;refine⟨KN hL,FV hL,kinds_met hL,hm,?_,Nat.le_refl _⟩;obtain⟨m,hc⟩:=hm;exact World.block_lt_of_cell? W ⟨3,0,none⟩ hc
end Go.Proofs.YtheefojaplnnoaaGreatDoor

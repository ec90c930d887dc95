/-
  Texts Js Ka Kb Kq Za Zb.
-/
import Derived.Test.YtheefojaplnnoaaGreatDoorY16
set_option linter.unusedVariables false
set_option maxRecDepth 100000
set_option maxHeartbeats 16000000
namespace Go.Proofs.YtheefojaplnnoaaGreatDoor
open Go.Proofs.Tryz
open Go.RowKit
set_option maxHeartbeats 8000000
def vV(s:BAz)(w:World)(e:Ending)(w':World):Prop :=
 Zx w w'/\(1048576<s.size->e=rt3 zV 13 0) /\
 (s.size<=131072->∀l o,iO 0 0 pm0 (bg s)=(l,o)->(o=none->e=rt3 zV 22 l) /\
  ∀p M,o=some (p,M)->(p<5->e=rt3 zV 22 l)/\(5<=p->∃m,pl m=M/\LnM m/\PR M/\(cJ m≠0->e=rt3 zV (cJ m) 0)/\(cJ m=0->e=rt3 (mV m) 0 0/\∃base R q,w.heap.size<=R/\RF base R m q w')))
variable {fn:Func}
theorem Hy{p q r:Tmp}{ty:TypeId}(h:fn.results=#[.cell p ty,.tmp q,.tmp r])(tmps:AVz)(w:World)(g:Nat)(cs:AVz)
  (hp:tmps.getD p undef=ZP g 0) (hl:(loadVar ty (ZA g 0)).run prog w=.ok (.agg cs) w) (x y:Value) (hx:tmps.getD q undef=x) (hy:tmps.getD r undef=y) :
  (results fn tmps).run prog w=.ok (.tuple #[.agg cs,x,y]) w:=by
 have hp':tmps[p]?.getD undef=ZP g 0:=by simpa using hp
 have hx':tmps[q]?.getD undef=x:=oK
 have hy':tmps[r]?.getD undef=y:=by simpa using hy
 simp[results,h,hp',hx',hy',asAddr,hl]
theorem Lh(w:World)(g:Nat)(cs:AVz)(hg:w.heap[g]? =some (.cells cs 29))(hs:cs.size=8):(loadVar 29 (ZA g 0)).run prog w=.ok (.agg cs) w :=
 run_loadVar_row w g 29 29 cs (0,0) _ hg underlying29 rfl (by rw[hs]; kernel_rfl)
abbrev Y8(w:World)(b:Nat)(v0 v1 v2 v3 v4 v5 v6 v7:Value):World:=((((((((w.setCell (ZA b 0) v0).setCell (ZA b 1) v1).setCell (ZA b 2) v2).setCell (ZA b 3) v3).setCell (ZA b 4) v4).setCell (ZA b 5) v5).setCell (ZA b 6) v6).setCell (ZA b 7) v7)
variable {w:World}{b:Nat}{u0 u1 u2 u3 u4 u5 u6 u7:Value}
theorem Yo(v0 v1 v2 v3 v4 v5 v6 v7:Value)(h:w.heap[b]? =some (.cells #[u0,u1,u2,u3,u4,u5,u6,u7] 29)) :
  (Y8 w b v0 v1 v2 v3 v4 v5 v6 v7).heap[b]? =some (.cells #[v0,v1,v2,v3,v4,v5,v6,v7] 29)/\Kept (fun k=>k=b) w (Y8 w b v0 v1 v2 v3 v4 v5 v6 v7):=by
 have z1:(w.setCell (ZA b 0) v0).heap[b]? =some (.cells #[v0,u1,u2,u3,u4,u5,u6,u7] 29):=aT h;have z2:((w.setCell (ZA b 0) v0).setCell (ZA b 1) v1).heap[b]? =some (.cells #[v0,v1,u2,u3,u4,u5,u6,u7] 29):=aT z1;have z3:=aT (i:=2) (u:=v2) z2;have z4:=aT (i:=3) (u:=v3) z3;have z5:=aT (i:=4) (u:=v4) z4;have z6:=aT (i:=5) (u:=v5) z5;have z7:=aT (i:=6) (u:=v6) z6;have z8:=aT (i:=7) (u:=v7) z7;have k:∀(W:World)(o:Nat)(v:Value),Kept (fun k=>k=b) W (W.setCell (ZA b o) v):=fun W o v=>aB W b o v;exact⟨z8,((((((((k _ _ _).trans (k _ _ _)).trans (k _ _ _)).trans (k _ _ _)).trans (k _ _ _)).trans (k _ _ _)).trans (k _ _ _)).trans (k _ _ _))⟩
variable {W:World}{Z:Nat}{e l:Int}{v0 v1 v2 v3 v4 v5 v6 v7:Value}
theorem EC{PP:Ending->World->Prop}(tm:AVz)(hZ:W.heap[Z]? =some (.cells #[u0,u1,u2,u3,u4,u5,u6,u7] 29))(h2:tm.getD 2 undef=ZP Z 0)(h3:tm.getD 3 undef=ZI e)(h4:tm.getD 4 undef=ZI l)
  (HG:∀w',Kept (fun k=>k=Z) W w'->PP (rt3 #[v0,v1,v2,v3,v4,v5,v6,v7] e l) w') :
  bodyPost prog Tryz.f16 PP .ret { tmps:=tm,defers:=[] } (Y8 W Z v0 v1 v2 v3 v4 v5 v6 v7):=by
 have P8:=Yo v0 v1 v2 v3 v4 v5 v6 v7 hZ;have hk:=P8.2;have h8:=P8.1;generalize Y8 W Z v0 v1 v2 v3 v4 v5 v6 v7=X at *;exact i4 (v:=.tuple #[.agg #[v0,v1,v2,v3,v4,v5,v6,v7],ZI e,ZI l]) (Hy (p:=2) (q:=3) (r:=4) (ty:=29) rfl _ _ Z _ h2 (Lh _ _ _ h8 rfl) _ _ h3 h4) rfl (HG _ hk)
variable {X:World}
theorem WP{PP:Ending->World->Prop}(tm:AVz)(h8:X.heap[Z]? =some (.cells #[v0,v1,v2,v3,v4,v5,v6,v7] 29))(h2:tm.getD 2 undef=ZP Z 0)(h3:tm.getD 3 undef=ZI e)(h4:tm.getD 4 undef=ZI l)
  (HG:PP (rt3 #[v0,v1,v2,v3,v4,v5,v6,v7] e l) X):bodyPost prog Tryz.f16 PP .ret { tmps:=tm,defers:=[] } X :=
 i4 (v:=.tuple #[.agg #[v0,v1,v2,v3,v4,v5,v6,v7],ZI e,ZI l]) (Hy (p:=2) (q:=3) (r:=4) (ty:=29) rfl _ _ Z _ h2 (Lh _ _ _ h8 rfl) _ _ h3 h4) rfl HG
theorem AO(s:BAz)(w:World)(hs:1048576<s.size):Zw 16 #[.string s] w (vV s w):=by
 have hs':(1048576:Int)<s.size:=ae;have HB:=hid (aj w (.cells zV 29));have HZ:=hid (hZn w (.cells zV 29));have HG:=hid (fun(w':World) (hw:Zx w w')=>show vV s w (rt3 zV 13 0) w' from⟨hw,fun _=>rfl,fun h=>ae⟩);unfold zV at HB HZ;clear hs;go_enter func16,ntmps16
 go_wp2_with fail;refine WP (e:=13) (l:=0) _ HZ.out ?_ ?_ ?_ (HG.out _ HB.out)
 ·rfl
 ·rfl
 rfl
variable {p:Int}{M:PM}{x:BAz}
theorem uM(h:aG x=[]\/fb (wdx (aG x) 0)=59):gh p M x=some (p,M):=by unfold gh; rw[if_pos h]
theorem JC(h0:aG x≠[])(h1:fb (wdx (aG x) 0)≠59):gh p M x=bX p M (aG x):=by unfold gh; rw[if_neg (fun h=>h.elim h0 h1)]
theorem nj{ln p:Int}{M:PM}{x:BAz}{r:Zai}:iO ln p M (x::r)=match gh p M x with
 | none=>(ln+1,none)
 | some (p',M')=>iO (ln+1) p' M' r:=rfl
structure LJ(base R Z:Nat)(W0:World)(P:Zai)(V:Int×Option (Int×PM))(k:Nat)(m:MM)(pt:Int)(wr:World):Prop where
 rf:RF base R m pt wr
 kr:KR base R W0 wr
 z:wr.heap[Z]? =some (.cells zV 29)
 pr:PR (pl m)
 ne:pt=6->m.fns≠[]
 rg:0<=pt/\pt<=8
 ps:psz (pl m)<=k
 pz:PZ 131072 (pl m)
 v:iO (k:Int) pt (pl m) (P.drop k)=V
theorem z8(h:W.heap[Z]? =some (.cells zV 29)):(W.cell? (ZA Z 0)=some (ZN)/\W.cell? (ZA Z 1)=some (ZN)/\W.cell? (ZA Z 2)=some (ZN)/\W.cell? (ZA Z 3)=some (ZI 0)/\W.cell? (ZA Z 4)=some (ZI 0)/\W.cell? (ZA Z 5)=some (ZN)/\W.cell? (ZA Z 6)=some (ZN)/\W.cell? (ZA Z 7)=some (ZN))/\W.frozen? (ZA Z 0)=false/\W.frozen? (ZA Z 1)=false/\W.frozen? (ZA Z 2)=false/\W.frozen? (ZA Z 3)=false/\W.frozen? (ZA Z 4)=false/\W.frozen? (ZA Z 5)=false/\W.frozen? (ZA Z 6)=false/\W.frozen? (ZA Z 7)=false :=
 ⟨⟨ag h,ag h,ag h,ag h,ag h,ag h,ag h,ag h⟩,free_at h,free_at h,free_at h,free_at h,free_at h,free_at h,free_at h,free_at h⟩
variable {base R k:Nat}{W0 wr w2:World}{P:Zai}{m:MM}{pt:Int}
theorem LJ.skip{V:Int×Option (Int×PM)}(h:LJ base R Z W0 P V k m pt wr)(hb:Zx wr w2)(hd:P.drop k=x::P.drop (k+1))(ht:gh pt (pl m) x=some (pt,pl m)):LJ base R Z W0 P V (k+1) m pt w2:=by
 refine⟨h.rf.later hb,h.kr.trans (KR.later hb),ar hb h.z,h.pr,h.ne,h.rg,by have:=h.ps; omega,h.pz,?_⟩;have hv:=h.v;rw[hd,nj,ht]at hv;exact hv
variable {w':World}{m':MM}{p':Int}{M':PM}
theorem LJ.step{V:Int×Option (Int×PM)}(h:LJ base R Z W0 P V k m pt wr)(hd:P.drop k=x::P.drop (k+1))(ht:gh pt (pl m) x=some (p',M'))(hx:x.size<=131072)(hrf:RF base R m' p' w')(hpl:pl m'=M')(hk:KR base R wr w')(hZ:Z<base)(hZR:Z≠R):LJ base R Z W0 P V (k+1) m' p' w':=by
 have hst:=Fa ht h.pr (fun e=>by have:=h.ne e; unfold pl; simpa using this) ae;have hpz:=Rl ht h.rg h.pz hx au;subst hpl
 refine⟨hrf,h.kr.trans hk,(hk.block Z (aK h.z) (fun e=>by rcases e with e | e <;> omega)).trans h.z,hst.pr,fun e=>Ih,hpz.2,by have:=hst.sz; have:=h.ps; omega,hpz.1,?_⟩
 have hv:=h.v;rw[hd,nj,ht]at hv;exact hv
theorem LJ.below{V:Int×Option (Int×PM)}(h:LJ base R Z W0 P V k m pt wr)(hw:Zx w W0)(hR:w.heap.size<=R):Zx w wr :=
 hw.trans (h.kr.below hR (by have:=h.rf.low; omega) hw.size)
variable {s:BAz}
theorem XC(h:x∈bg s):x.size<=s.size:=by
 unfold bg at h;obtain⟨l,hl,rfl⟩:=List.mem_map.1 h
 have key:∀(a:Zaj)(l:Zaj),l∈bp a->l.length<=a.length:=by
  intro a
  induction a with
  | nil =>
   intro l hl;simp[bp]at hl;subst hl;exact Nat.le_refl _
  | cons b a ih =>
   intro l hl;unfold bp at hl
   split at hl
   ·rcases List.mem_cons.1 hl with rfl | hl
    ·exact Z5 _
    have:=ih l hl;rw[Z1]; omega
   split at hl
   ·rw[Z1]
    rcases List.mem_cons.1 hl with rfl | hl
    ·simp
    cases hl
   rename_i p r hp
   rcases List.mem_cons.1 hl with rfl | hl
   ·have:=ih p (by rw[hp]; simp)
    simp; omega
   have:=ih l (by rw[hp]; simp[hl]);rw[Z1]; omega
 have:=key _ l hl;have e:s.data.toList.length=s.size:=Zab;show l.toArray.size<=s.size;rw[List.size_toArray];omega
theorem wn(s:BAz)(w:World)(hs:s.size<=131072):Zw 16 #[.string s] w (vV s w):=by
 have hs':¬(1048576:Int)<s.size:=ae;obtain⟨P,hP⟩:∃P,bg s=P:=⟨_,rfl⟩;obtain⟨V,hV⟩:∃V,iO 0 0 pm0 P=V:=⟨_,rfl⟩;have HPL:=hid (show P.length<=131073 by rw[<- hP]; have:=jM s; omega);have HPS:=hid (show ∀x∈P,x.size<=131072 by rw[<- hP]; exact fun x hx=>ZW (XC hx) hs)
 have rj:=hid (fun(e:Ending)(w':World)(hb:Zx w w') (h:(V.2=none->e=rt3 zV 22 V.1)/\∀p M,V.2=some (p,M)->(p<5->e=rt3 zV 22 V.1)/\(5<=p->∃m,pl m=M/\LnM m/\PR M/\(cJ m≠0->e=rt3 zV (cJ m) 0)/\(cJ m=0->e=rt3 (mV m) 0 0/\∃base R q,w.heap.size<=R/\RF base R m q w')))=>show vV s w e w' from⟨hb,fun h=>ae,fun _ l o hlo=>by
  rw[hP,hV]at hlo;rw[hlo]at h;exact h⟩)
 have HL:=hid (fun W=>QM s W ae);rw[hP]at HL;have HV:=hid hV;have B0:=aj w (.cells zV 29);have b0:=hZn w (.cells zV 29);have B1:=B0.trans ((aj (w.alloc (.cells zV 29)) (.cells (rfA mm0 0) 133)).mono B0.size);have b1:=hZn (w.alloc (.cells zV 29)) (.cells (rfA mm0 0) 133);have b0':((w.alloc (.cells zV 29)).alloc (.cells (rfA mm0 0) 133)).heap[w.heap.size]? =some (.cells zV 29):=ar (aj _ _) b0;have hz1:(w.alloc (.cells zV 29)).heap.size=w.heap.size+1:=av;have hz2:((w.alloc (.cells zV 29)).alloc (.cells (rfA mm0 0) 133)).heap.size=w.heap.size+2:=av;rw[hz1]at b1;obtain⟨WX,hWX⟩:∃WX,(w.alloc (.cells zV 29)).alloc (.cells (rfA mm0 0) 133)=WX:=⟨_,rfl⟩;rw[hWX]at B1 b1 b0' hz2;obtain⟨lz,SO,Hb1⟩:=ZH hWX B1 b1;have Hb0:=hid b0';have HZ2:=hid hz2;clear hP hV hWX B0 b0 B1 b1 b0' hz1 hz2;unfold zV rfA mm0 at lz;dsimp only at lz;go_enter func16,ntmps16
 go_wp2_with fail;rw[lz.out];refine(HL.out _).mono ?_;rintro e w1⟨v,rfl,hS,hb⟩;obtain⟨la,lc,rfl⟩:=iH hS
 have HLB:=hid (SO.out.trans (hb.mono (by have:=HZ2.out; omega)))
 have HLC:=hid (show ∀(j:Nat)x,P[j]? =some x->∃A,la=some (ZA A 0)/\A<w1.heap.size/\A≠w.heap.size+1/\w1.cell? (ZA A j)=some (.string x) from fun j x hj=>by
  rcases hS.2 with ⟨h1,h2⟩ | ⟨g,cap,cur,h1,h2,h3,_⟩
  ·rw[Z6 h2]at hj; simp at hj
  injection h1 with e1 e2 e3;subst e1;have hl:=aF hj;have hc:=World.ownsRow.cellAt hS j ae;rw[List.getElem?_map,hj]at hc
  exact⟨g,rfl,aK h3,by have:=HZ2.out; omega,hc⟩)
 have HLJ:=hid (show LJ w1.heap.size (w.heap.size+1) w.heap.size w1 P V 0 mm0 0 w1 from
  ⟨RF.zero (ar hb Hb1.out) (by have:=hb.size; have:=HZ2.out; omega) lRn,KR.later (ZT _ _),ar hb Hb0.out,QD,(fun h=>bS),au,Z5 _,pz0 _,by rw[List.drop_zero]; exact HV.out⟩)
 have HZL:=hid (show w.heap.size+1<w1.heap.size by have:=hb.size; have:=HZ2.out; omega);clear hS hb lz SO Hb0 Hb1 HL HZ2;go_wp2_with fail
 go_loopw [7] (fun i wr=>∃(k:Nat)(m:MM)(pt:Int),i=ZI k/\k<=P.length/\Hid (LJ w1.heap.size (w.heap.size+1) w.heap.size w1 P V k m pt wr)) (fun i _=>P.length+1-(intOf i).toNat)
 case atStart=>exact⟨0,mm0,0,rfl,Z5 _,HLJ⟩
 case round =>
  obtain⟨k,m,pt,rfl,hk,HJ⟩:=hrel;clear HLJ
  by_cases hlt:k<P.length
  ·have hlt':(k:Int)<(P.length:Int):=ae;have It:(0:Int)<=(k:Int):=ae;have hpl:=HPL.out;have hwi:IntKind.i64.wrap ((k:Int)+1)=k+1:=IntWalk.i64_in _ ae;obtain⟨x,hx⟩:=ZB P k hlt;obtain⟨A,rfl,io,hA2,hcx⟩:=HLC.out k x hx
   have hd:P.drop k=x::P.drop (k+1):=by
    rw[List.drop_eq_getElem_cons hlt];rw[aD hlt]at hx;rw[i9 hx]
   have hxs:=HPS.out x (ZO hx)
   have cx:wr.cell? (ZA A k)=some (.string x):=(HJ.out.kr.cell hcx (fun e=>by rcases e with e | e <;> omega))
   have HD:=hid hd;have HW:=hid (QJ x wr ae);have hvv:=HJ.out.v;rw[hd,nj]at hvv;have HVV:=hid hvv;rw[JU x]at HW;clear hd hcx hx io hA2 hvv;go_wp2_with fail;refine HW.out.mono ?_;rintro e w2⟨v,rfl,hS,hb⟩;have hrg:=HJ.out.rg;obtain⟨wa,wc,rfl⟩:=iH hS;obtain⟨HB,HS⟩:=Zz hb hS;clear hS hb
   by_cases h0:aG x=[]
   ·have HS2:=hid (HJ.out.skip HB.out HD.out (uM (.inl h0)));rw[h0];dsimp only[List.length_nil];clear h0 HW HVV HS cx;exact H7
   obtain⟨x0,t,zc⟩:∃x0 t,aG x=x0::t:=by
    cases hw:aG x with
    | nil=>exact absurd hw h0
    | cons a b=>exact⟨a,b,rfl⟩
   have hx1:1<=x0.size:=(jb x).1 x0 (by rw[zc]; simp);have hwl:=oJ x;have hjw:=Az x
   have ex:wdx (aG x) 0=x0:=by rw[zc]; rfl
   obtain⟨b,hwa,hcap,cs9,gR,hb0⟩:∃b,wa=some (ZA b 0)/\(aG x).length<=wc/\∃cs,w2.heap[b]? =some (.cells cs 9)/\wr.heap.size<=b:=by
    rcases HS.out.2 with ⟨h1,h2⟩ | ⟨g,cap,cur,h1,h2,h3,h4,_⟩
    ·rw[zc]at h2; cases h2
    injection h1 with e1 e2 e3;exact⟨g,e1,ae,cur,h3,h2⟩
   subst hwa
   have hAt:AtS w2 (some (ZA b 0)) (aG x).length (aG x):=⟨rfl,ae,.inr ⟨b,0,rfl,fun j y hj=>by
    have hc:=World.ownsRow.cellAt HS.out j (by have:=aF hj; omega)
    rw[List.getElem?_map,hj]at hc;rw[Nat.zero_add];exact hc⟩⟩
   have hbase:w1.heap.size<=wr.heap.size:=HJ.out.rf.bw;have hzl:=HZL.out;have sE:=hid (Ry b 0 (aG x).length wc (aG x) w2 (HJ.out.rf.later HB.out) hAt (by rw[zc]; simp) hcap ae (by have:=HJ.out.ps; omega) ae ⟨cs9,gR⟩ (fun y hy=>by have:=hwl.2 y hy; omega) ae hrg HJ.out.ne)
   have c0:w2.cell? (ZA b 0)=some (.string x0):=by
    rcases hAt.2.2 with h1 | ⟨b',off',e,hc⟩
    ·rw[zc]at h1; cases h1
    cases e
    exact hc 0 x0 (by rw[zc]; rfl)
   have hnl:(aG x).length=t.length+1:=by rw[zc]; rfl
   have hr:(((t.length:Int)+1)==0)=false:=wV;have HEX:=hid ex;rw[hnl]at sE ⊢;have HH0:=hid h0;clear h0 zc hwl hjw ex gR hAt hcap hnl HW HS cx hbase hzl hb0;have hx0:(0:Int)<(x0.size:Int):=ae
   by_cases h59:fb x0=59
   ·have HS2:=hid (HJ.out.skip HB.out HD.out (uM (.inr (by rw[HEX.out]; exact h59))))
    rw[EH x0 hx1]at h59
    have h2:(((x0[0].toNat:Nat):Int)==59)=true:=by rw[h59]; rfl
    clear h59 sE;exact H7
   have HTL:=hid (JC (p:=pt) (M:=pl m) HH0.out (by rw[HEX.out]; exact h59));rw[EH x0 hx1]at h59
   have h2:(((x0[0].toNat:Nat):Int)==59)=false:=by rw[beq_eq_false_iff_ne]; exact h59
   clear h59;go_wp2_with fail;refine sE.out.mono ?_;intro e w3 hres;obtain⟨hkr,hres⟩:=hres;have HKR:=hid ((KR.later HB.out).trans hkr);clear hkr sE
   rcases hlv:bX pt (pl m) (aG x) with _ | ⟨p',M'⟩
   ·rw[hlv]at hres;obtain rfl:=hres
    have HV2:=hid (show V=((k:Int)+1,none) by
     have h:=HVV.out;rw[HTL.out,hlv]at h;exact h.symm)
    have hZ3:w3.heap[w.heap.size]? =some (.cells zV 29):=(HKR.out.block _ (aK HJ.out.z) (fun e=>by have:=HZL.out; rcases e with e | e <;> omega)).trans HJ.out.z
    have HZ3:=hid hZ3;have gk:=hid ((HJ.out.below HLB.out ae).trans ((HKR.out.below (B:=w.heap.size) ae (by have:=HZL.out; omega) (ZW HLB.out.size HJ.out.rf.bw))));obtain⟨⟨z0,z1,z2,z3,z4,z5,z6,z7⟩,y0,y1,y2,y3,y4,y5,y6,y7⟩:=z8 HZ3.out;clear hlv hZ3 HVV HTL;go_wp2_with fail;refine EC (e:=22) (l:=(k:Int)+1) _ HZ3.out ?_ ?_ ?_ ?_
    ·rfl
    ·rfl
    ·rfl
    exact fun w' hk'=>rj.out _ w' (gk.out.trans (hk'.to_below gk.out.size (fun j hj e=>sk))) ⟨fun _=>by rw[HV2.out]; rfl,fun p M h=>by rw[HV2.out]at h; cases h⟩
   rw[hlv]at hres;obtain⟨rfl,m',hrf,hpl⟩:=hres;have HS2:=hid (HJ.out.step HD.out (by rw[HTL.out,hlv]) hxs hrf hpl HKR.out (by have:=HZL.out; omega) ae);clear hlv hrf hpl HVV HTL;go_wp2_with fail;exact⟨⟨k+1,m',p',bu,ae,HS2⟩,bD⟩
  obtain rfl:k=P.length:=ae;have hlt':¬(P.length:Int)<(P.length:Int):=ae
  have HVE:=hid (show V=((P.length:Int),some (pt,pl m)) by
   have h:=HJ.out.v;rw[List.drop_eq_nil_of_le lRn]at h;exact h.symm)
  have c8:wr.cell? (ZA (w.heap.size+1) 8)=some (ZI pt):=HJ.out.rf.cells 8;have gk:=hid (HJ.out.below HLB.out ae);have HZ3:=hid HJ.out.z
  by_cases h5:pt<5
  ·have HP5:=hid h5;obtain⟨⟨z0,z1,z2,z3,z4,z5,z6,z7⟩,y0,y1,y2,y3,y4,y5,y6,y7⟩:=z8 HZ3.out;go_wp2_with fail;refine EC (e:=22) (l:=(P.length:Int)) _ HZ3.out ?_ ?_ ?_ ?_
   ·rfl
   ·rfl
   ·rfl
   refine fun w' hk'=>rj.out _ w' (gk.out.trans (hk'.to_below gk.out.size (fun j hj e=>sk))) ⟨(fun h=>zK),fun p M h=>?_⟩;rw[HVE.out]at h ⊢;cases h;exact⟨fun _=>rfl,fun h=>by have:=HP5.out; omega⟩
  have HP5:=hid h5;have hpl:=HPL.out;have qab:=HJ.out.rf.lens;have hszs:=Vx HJ.out.rf.len HJ.out.pz (by have:=HJ.out.ps; omega) qab.1 qab.2;have F':=hid (LP m wr (fun Rr g h1 h2=>HJ.out.rf.mok HJ.out.pr Rr g h1 h2) hszs);unfold mV at F';have r0:wr.cell? (ZA (w.heap.size+1) 0)=some (.slice m.ta m.tn m.tc):=HJ.out.rf.cells 0;have r1:wr.cell? (ZA (w.heap.size+1) 1)=some (.slice m.ha m.hn m.hc):=HJ.out.rf.cells 1;have r2:wr.cell? (ZA (w.heap.size+1) 2)=some (.slice m.ga m.gn m.gc):=HJ.out.rf.cells 2;have r3:wr.cell? (ZA (w.heap.size+1) 3)=some (ZI m.fi):=HJ.out.rf.cells 3;have r4:wr.cell? (ZA (w.heap.size+1) 4)=some (ZI m.mo):=HJ.out.rf.cells 4;have r5:wr.cell? (ZA (w.heap.size+1) 5)=some (.slice m.fa m.fn m.fc):=HJ.out.rf.cells 5;have r6:wr.cell? (ZA (w.heap.size+1) 6)=some (.slice m.da m.dn m.dc):=HJ.out.rf.cells 6;have r7:wr.cell? (ZA (w.heap.size+1) 7)=some (.slice m.ea m.en m.ec):=HJ.out.rf.cells 7;clear qab hszs hpl;go_wp2_with fail;refine F'.out.mono ?_;rintro e w5⟨rfl,AI⟩;have de:=hid AI;have HBW5:=Zy gk AI;have HZ5:=hid (ar AI HZ3.out);have lE:=hid (HJ.out.rf.later AI);obtain⟨ck,jj⟩:∃ck,cJ m=ck:=⟨_,rfl⟩;rw[jj];have HCKV:=hid jj;clear r0 r1 r2 r3 r4 r5 r6 r7 c8 jj AI F'
  by_cases h0:ck=0
  ·subst h0;have r0:w5.cell? (ZA (w.heap.size+1) 0)=some (.slice m.ta m.tn m.tc):=lE.out.cells 0;have r1:w5.cell? (ZA (w.heap.size+1) 1)=some (.slice m.ha m.hn m.hc):=lE.out.cells 1;have r2:w5.cell? (ZA (w.heap.size+1) 2)=some (.slice m.ga m.gn m.gc):=lE.out.cells 2;have r3:w5.cell? (ZA (w.heap.size+1) 3)=some (ZI m.fi):=lE.out.cells 3;have r4:w5.cell? (ZA (w.heap.size+1) 4)=some (ZI m.mo):=lE.out.cells 4;have r5:w5.cell? (ZA (w.heap.size+1) 5)=some (.slice m.fa m.fn m.fc):=lE.out.cells 5;have r6:w5.cell? (ZA (w.heap.size+1) 6)=some (.slice m.da m.dn m.dc):=lE.out.cells 6;have r7:w5.cell? (ZA (w.heap.size+1) 7)=some (.slice m.ea m.en m.ec):=lE.out.cells 7;obtain⟨⟨z0,z1,z2,z3,z4,z5,z6,z7⟩,y0,y1,y2,y3,y4,y5,y6,y7⟩:=z8 HZ5.out;go_wp2_with fail;refine EC (e:=0) (l:=0) _ HZ5.out ?_ ?_ ?_ ?_
   ·rfl
   ·rfl
   ·rfl
   refine fun w' hk'=>rj.out _ w' (HBW5.out.trans (hk'.to_below HBW5.out.size (fun j hj e=>sk))) ⟨(fun h=>zK),fun p M h=>?_⟩;rw[HVE.out]at h;cases h;exact⟨fun h=>absurd h (by have:=HP5.out; omega),fun _=>⟨m,rfl,lE.out.len,HJ.out.pr,fun h=>absurd HCKV.out h,fun _=>⟨rfl,w1.heap.size,w.heap.size+1,pt,ae,lE.out.keptS hk' (by show ¬w.heap.size+1=w.heap.size; omega) (fun j cs t h1 h2 e=>by have e:j=w.heap.size:=e; have:=HZL.out; omega)⟩⟩⟩
  have hb0:(ck != 0)=true:=bne_iff_ne.2 h0;have HC0:=hid h0;obtain⟨⟨z0,z1,z2,z3,z4,z5,z6,z7⟩,y0,y1,y2,y3,y4,y5,y6,y7⟩:=z8 HZ5.out;clear h0;go_wp2_with fail;refine EC (e:=ck) (l:=0) _ HZ5.out ?_ ?_ ?_ ?_
  ·rfl
  ·rfl
  ·rfl
  refine fun w' hk'=>rj.out _ w' (HBW5.out.trans (hk'.to_below HBW5.out.size (fun j hj e=>sk))) ⟨(fun h=>zK),fun p M h=>?_⟩;rw[HVE.out]at h;cases h;exact⟨fun h=>absurd h (by have:=HP5.out; omega),fun _=>⟨m,rfl,lE.out.len,HJ.out.pr,fun _=>by rw[HCKV.out]; rfl,fun h=>absurd (HCKV.out.symm.trans h) HC0.out⟩⟩
theorem Ap(s:BAz)(w:World)(hs:s.size<=131072\/1048576<s.size):Zw 16 #[.string s] w (vV s w):=hs.elim (wn s w) (AO s w)
variable {o:Obj}
theorem t7(h:w.heap[b]? =some o):b<w.heap.size:=by
 rcases Zae b w.heap.size with h1 | h1
 ·exact h1
 rw[Zaf h1]at h; cases h
theorem uR(w:World)(o:Obj):(w.alloc o).heap[w.heap.size]? =some o:=(ZZ w o).1
def YD(w w':World)(g cap B cap':Nat):Prop:=(B=g/\cap'=cap/\Kept (fun x=>x=B) w w')\/(w.heap.size<=B/\Kept (fun _=>False) w w')
def Own(m:Nat)(N:Zam)(G:Zak):Nat->Prop:=fun b=>∃j,j<m/\N j/\b=G j
variable {e:TypeId}{n B:Nat}{xs:Zah}
theorem dU{v:Value}(h:w.ownsRow base e 1 v n xs)(hB:v.ownBlock=some B):B<w.heap.size/\∃cur,w.heap[B]? =some (.cells cur e):=by
 rcases h.2 with ⟨rfl,_⟩ | ⟨g,cp,cur,rfl,h2,h3,h4⟩
 ·simp[Value.ownBlock]at hB
 obtain rfl:g=B:=by simpa[Value.ownBlock] using hB
 refine⟨?_,cur,h3⟩;exact Hg
def Onto(w w':World)(v:Value)(n B cap:Nat):Prop:=(v=ZL B n cap/\Kept (fun k=>k=B) w w')\/(w.heap.size<=B/\Kept (fun _=>False) w w')
variable {w0:World}{S:Zam}{cap:Nat}
theorem Onto.kept{v:Value}(h:Kept S w0 w)(ho:Onto w w' v n B cap)(hn:∀b,v.ownBlock=some b->w0.heap.size<=b):Kept S w0 w':=by
 rcases ho with ⟨rfl,hk⟩ | ⟨_,hk⟩
 ·refine h.then hk (fun k h1 h2=>?_)
  subst h2;have:=hn k rfl;omega
 exact h.then hk (fun _ _ x=>x.elim)
variable {es:TypeId}{n':Nat}
theorem Onto.other{v u:Value}(ho:Onto w w' v n B cap)(hu:w.ownsRow 0 es 1 u n' xs)(ha:∀b,v.ownBlock=some b->u.ownBlock≠some b):w'.ownsRow 0 es 1 u n' xs:=by
 refine bZ hu fun b hb=>?_
 rcases ho with ⟨rfl,hk⟩ | ⟨_,hk⟩
 ·exact hk.block b (dU hu hb).1 (fun e'=>ha B rfl (e' ▸ hb))
 exact hk.block b (dU hu hb).1 (fun x=>x)
theorem owner(m:Nat)(N:Zam)(G:Zak)(hinj:∀a b,a<m->b<m->N a->N b->G a=G b->a=b):∃f:Nat->Nat,∀j,j<m->N j->f (G j)=j:=by
 refine⟨fun b=>Classical.epsilon fun j=>j<m/\N j/\G j=b,fun j hj hN=>?_⟩;have:=Classical.epsilon_spec (p:=fun i=>i<m/\N i/\G i=G j) ⟨j,hj,hN,rfl⟩;exact hinj _ j this.1 hj this.2.1 hN this.2.2
theorem aR{v:Value}(h:w.ownsRow 0 e 1 v n xs):∃a c,v=.slice a n c/\(n=0\/∃B,a=some (ZA B 0)/\∀j,j<n->w.cell? (ZA B j)=xs[j]?):=by
 rcases h.2 with ⟨rfl,rfl⟩ | ⟨g,cap,cur,rfl,h2⟩
 ·exact⟨none,0,rfl,.inl rfl⟩
 exact⟨_,cap,rfl,.inr ⟨g,rfl,fun j hj=>World.ownsRow.cellAt h j ae⟩⟩
variable {ys:Zah}
theorem ja{c GB n B cap:Nat}{v:Value}(hown:w.ownsRow 0 es 1 v n xs)(hne:v.ownBlock≠some GB)(hc:w.cell? (ZA GB c)=some v)(hf:w.frozen? (ZA GB c)=false)(o:Obj)
  (hrow:Row w2 es B (n+1) cap ys) (AS:(v=ZL B n cap/\Kept (fun k=>k=B) (w.alloc o) w2)\/((w.alloc o).heap.size<=B/\Kept (fun _=>False) (w.alloc o) w2)) :
  w2.cell? (ZA GB c)=some v/\w2.frozen? (ZA GB c)=false/\B≠GB/\(v.ownBlock=some B\/w.heap.size<=B)/\(∀j,w2.cell? (ZA GB j)=w.cell? (ZA GB j))/\Kept (fun b=>v.ownBlock=some b) w w2:=by
 have hlt:GB<w.heap.size:=ZQ hc;have hsz:(w.alloc o).heap.size=w.heap.size+1:=av;have It:=Kept.alloc (fun _=>False) w o
 have hk:Kept (fun b=>v.ownBlock=some b) w w2:=by
  rcases AS with ⟨rfl,h⟩ | ⟨_,h⟩
  ·exact(It.mono (fun _ x=>x.elim)).then h (fun k _ e=>by subst e; rfl)
  exact(It.mono (fun _ x=>x.elim)).then h (fun _ _ x=>x.elim)
 have hblk:=hk.block GB hlt (fun e=>hne e);refine⟨(cell_of_block hblk c).trans hc,(aS hblk c).trans hf,?_,?_,fun j=>cell_of_block hblk j,hk⟩
 ·rcases AS with ⟨rfl,_⟩ | ⟨h,_⟩
  ·intro e; subst e; exact hne rfl
  omega
 rcases AS with ⟨rfl,_⟩ | ⟨h,_⟩
 ·exact .inl rfl
 exact .inr ae
def nm(n i:Nat):Int:=1048576*(n:Int)+(i:Int)+1
theorem mI(n i:Nat)(hn:n<=300)(hi:i<=8388608):IntKind.u64.wrap (nm n i)=nm n i:=by
 rw[IntKind.wrap_u64]; unfold nm; omega
def mlG(sz:Nat)(mk:Zal)(n k:Nat):List Value:=(List.range (k*sz)).map (mk n)
def qG(sz:Nat)(mk:Zal)(n k:Nat):List Value:=(List.range sz).map fun i=>mk n (k*sz+i)
variable {sz:Nat}
theorem Fg{mk:Zal}(n k:Nat):(mlG sz mk n k).length=k*sz:=by simp[mlG]
theorem Fl{mk:Zal}(n k i:Nat)(h:i<k*sz):(mlG sz mk n k)[i]? =some (mk n i):=by simp[mlG,h]
theorem Bg{mk:Zal}(n k:Nat):mlG sz mk n (k+1)=mlG sz mk n k++qG sz mk n k:=by
 unfold mlG qG;rw[Nat.succ_mul,List.range_add,List.map_append,List.map_map];rfl
theorem Oi{mk:Zal}(n k k':Nat)(h:k<=k'):(mlG sz mk n k').take (k*sz)=mlG sz mk n k:=by
 simp only[mlG,<- List.map_take,List.take_range];rw[Nat.min_eq_left (Nat.mul_le_mul_right _ h)]
def dL(sz:Nat)(w:World)(e:TypeId)(B n cap:Nat)(xs:Zah):Prop:=w.ownsRow 0 e sz (ZL B n cap) n xs
theorem dL.of(h:w.ownsRow base e sz (ZL B n cap) n xs):dL sz w e B n cap xs:=by
 exact xq
theorem dL.block(h:dL sz w e B n cap xs):∃cur,w.heap[B]? =some (.cells cur e)/\n<=cap/\cap<=maxLen/\cur.size=cap*sz/\cur.toList.take (n*sz)=xs:=by
 exact Ep
theorem dL.lt(h:dL sz w e B n cap xs):B<w.heap.size:=by
 obtain⟨cur,h,_⟩:=h.block;exact t7 h
theorem dL.keep(h:dL sz w e B n cap xs)(hk:w'.heap[B]? =w.heap[B]?):dL sz w' e B n cap xs:=by
 refine⟨h.1,?_⟩
 rcases h.2 with ⟨h,_⟩ | ⟨g,cp,cur,h1,h2,h3,h4⟩
 ·cases h
 obtain rfl:B=g:=by simp at h1; exact h1.1
 exact .inr ⟨B,cp,cur,h1,h2,hk.trans h3,h4⟩
theorem dL.kept(h:dL sz w e B n cap xs)(hk:Kept S w w')(hs:¬S B):dL sz w' e B n cap xs:=h.keep (hk.block B h.lt hs)
theorem dL.cell(h:dL sz w e B n cap xs)(j:Nat)(hj:j<n*sz):w.cell? (ZA B j)=xs[j]?:=World.ownsRow.cellAt h j hj
theorem dL.free(h:dL sz w e B n cap xs)(j:Nat):w.frozen? (ZA B j)=false:=World.ownsRow.frozenAt h j
theorem dL.put(h:dL sz w e B n cap xs)(j:Nat)(u:Value):dL sz (w.setCell (ZA B j) u) e B n cap (xs.set j u)/\Kept (fun k=>k=B) w (w.setCell (ZA B j) u):=by
 exact Hp
variable {k' c' j:Nat}
theorem dL.pre{mk:Zal}(h:dL sz w e b k' c' (mlG sz mk j k'))(hk:k<=k'):dL sz w e b k c' (mlG sz mk j k):=by
 obtain⟨cur,e1,e2,e3,e4,e5⟩:=h.block;refine⟨by simp[Fg],.inr ⟨b,c',cur,rfl,Z5 _,e1,ae,e3,by simpa using e4,?_⟩⟩;rw[<- Oi j k k' hk,<- e5,List.take_take,Nat.min_eq_left (Nat.mul_le_mul_right _ hk)]
variable {xs':Zah}
theorem dL.capEq[NeZero sz]{b k k' c c':Nat}(h:dL sz w e b k c xs)(h':dL sz w e b k' c' xs'):c=c':=by
 obtain⟨cur,e1,e2,e3,e4,e5⟩:=h.block;obtain⟨cur',f1,f2,f3,f4,f5⟩:=h'.block;rw[e1]at f1;simp at f1;subst f1;exact Nat.eq_of_mul_eq_mul_right (Nat.pos_of_ne_zero (NeZero.ne sz)) (e4.symm.trans f4)
theorem dL.marks{mk:Zal}{b k c j:Nat}(h:dL sz w e b k c xs)(hm:∀i,i<k*sz->w.cell? (ZA b i)=some (mk j i)):dL sz w e b k c (mlG sz mk j k):=by
 have:xs=mlG sz mk j k:=by
  apply List.ext_getElem?;intro i
  by_cases hi:i<k*sz
  ·rw[<- h.cell i hi,hm i hi,Fl j k i hi]
  have hl:=h.1;rw[List.getElem?_eq_none ae,List.getElem?_eq_none (by rw[Fg]; omega)]
 rw[<- this]; exact h
variable {P:Program}{ops:Array Oper}{o:Oper}{a:Act}{Q:Zan}
theorem jF[NeZero sz](w:World){rest:List Oper}(hgd:o.guard=none)
  (s x:Operand) (t:TypeId) (ho:o.op=Op.call { callee:=Callee.builtin Builtin.append,args:=#[s,x],argTypes:=#[t,t] }) (e:TypeId) (i:TypeInfo) (z:Value) (bytes:Nat)
  (h1:P.underlying t=some (.slice e)) (h2:P.info? e=some i) (h3:i.zero=some z) (h4:i.size=sz) (h5:i.bytes=bytes) (h6:z.cells.size=sz)
  (v:Value) (n:Nat) (xs:Zah) (hs:a.eval s=v) (hown:w.ownsRow 0 e sz v n xs) (ad:Addr) (us:Zah) (hus:us.length=sz) (hx:a.eval x=.slice (some ad) 1 1) (hu:∀(j:Nat)(y:Value),us[j]? =some y->w.cell? (ad.add j)=some y) (hu1:∀y∈us,y.oneCell'=true)
  (b1:n+1<=maxLen) (b2:(n+1)*bytes<=140737488355328)
  (h:∀(B cap:Nat)(w':World),dL sz w' e B (n+1) cap (xs++us)->((v=ZL B n cap/\Kept (fun k=>k=B) w w')\/(w.heap.size<=B/\Kept (fun _=>False) w w'))->wpList P ops Q rest (a.put o.dst (ZL B (n+1) cap)) w') :
  wpList P ops Q (o::rest) a w:=by
 have grow:∀(ao:OAz)(cap:Nat),v=.slice ao n cap->(ao=none->n=0/\cap=0)->(∀b,ao=some b->∀(j:Nat)(y:Value),xs[j]? =some y->w.cell? (b.add j)=some y)->cap<n+1->wpList P ops Q (o::rest) a w:=by
  intro ao cap hv hnone holds hfull;refine wpList_append_grows w hgd s x t ho e i z sz bytes h1 h2 h3 h4 h5 h6 (Nat.pos_of_ne_zero (NeZero.ne sz)) ao n cap xs (hs.trans hv) hnone hown.1 holds ad 1 1 us hx (hus.trans (Nat.one_mul sz).symm) hu hu1 hfull b1 b2 ?_;intro v' w' ho' hg'
  rcases ho'.2 with ⟨_,hz⟩ | ⟨g,cp,cur,rfl,hbase,h8⟩
  ·omega
  exact h g cp w' (dL.of ho') (.inr ⟨hbase,(Kept.of_grown hg').mono (fun k hk=>by cases hk)⟩)
 rcases hown.2 with ⟨rfl,rfl⟩ | ⟨g,cap,cur,rfl,_,hh,hnc,hcm,hsz,htk⟩
 ·exact zS
 by_cases hroom:n+1<=cap
 ·refine wpList_append_fits w hgd s x t ho 0 e i sz h1 h2 h4 g n cap xs hs hown ad 1 1 us hx (hus.trans (Nat.one_mul sz).symm) hu hu1 hroom ?_;exact zZ
 exact PT
variable {e':TypeId}
theorem zO{v:Value}{n b k c B:Nat}(h:w.ownsRow 0 e 1 v n xs)(hB:v.ownBlock=some B)(hr:dL sz w e' b k c ys)(he:e≠e'):b≠B:=by
 intro hb;subst hb;obtain⟨_,cur,h1⟩:=dU h hB;obtain⟨cur',h2,_⟩:=hr.block;rw[h1]at h2;simp at h2;exact he h2.2
def TRG(sz:Nat)(e:TypeId)(mk:Zal)(w:World)(f:Zak)(b j k c:Nat):Prop:=dL sz w e b k c (mlG sz mk j k)/\f b=j
theorem TRG.cell{mk:Zal}{f:Zak}{b j k c:Nat}(h:TRG sz e mk w f b j k c)(i:Nat)(hi:i<k*sz):w.cell? (ZA b i)=some (mk j i):=by
 rw[h.1.cell i hi,Fl j k i hi]
theorem TRG.step[NeZero sz]{mk:Zal}{f:Zak}{b j k c g n i cap B cap':Nat}(h:TRG sz e mk w f b j k c)(hl:TRG sz e mk w f g n i cap)(hr:dL sz w' e B (i+1) cap' (mlG sz mk n (i+1)))
  (AS:YD w w' g cap B cap') (hk:b=g->k<=i):TRG sz e mk w' (fun x=>if x=B then n else f x) b j k c:=by
 by_cases hb:b=B
 ·subst hb
  rcases AS with ⟨rfl,rfl,hkp⟩ | ⟨hge,hkp⟩
  ·have hj:j=n:=by rw[<- h.2,hl.2]
   subst hj;obtain rfl:=h.1.capEq hl.1;exact⟨hr.pre (by have:=hk rfl; omega),av⟩
  have:=h.1.lt; omega
 refine⟨?_,by simp[hb]; exact h.2⟩
 rcases AS with ⟨_,_,hkp⟩ | ⟨_,hkp⟩
 ·exact h.1.kept hkp hb
 exact h.1.kept hkp (fun x=>x)
theorem TRG.fresh{mk:Zal}{f:Zak}{b j k c n B:Nat}(h:TRG sz e mk w f b j k c)(hge:w.heap.size<=B)(hkp:Kept (fun _=>False) w w'):TRG sz e mk w' (fun x=>if x=B then n else f x) b j k c:=by
 have hb:b≠B:=by have:=h.1.lt; omega
 exact⟨h.1.kept hkp (fun x=>x),by simp[hb]; exact h.2⟩
theorem TRG.kept{mk:Zal}{f:Zak}{b j k c:Nat}(h:TRG sz e mk w f b j k c)(hk:Kept S w w')(hs:¬S b):TRG sz e mk w' f b j k c:=⟨h.1.kept hk hs,h.2⟩
def fH(sz:Nat)(e:TypeId)(mk:Zal)(w:World)(f:Zak)(L:Zak)(d n:Nat)(vs:Zah):Prop :=
 ∀j,j<n->∃B c,vs[j]? =some (ZL B (L j+d) c)/\TRG sz e mk w f B j (L j+d) c
theorem fH.nil{mk:Zal}(w:World)(f:Zak)(L:Zak)(d:Nat):fH sz e mk w f L d 0 []:=fun j hj=>absurd hj ae
variable {d:Nat}{vs:Zah}
theorem fH.map{mk:Zal}{f f':Zak}{L:Zak}(h:fH sz e mk w f L d n vs)(hm:∀j B c,j<n->TRG sz e mk w f B j (L j+d) c->TRG sz e mk w' f' B j (L j+d) c):fH sz e mk w' f' L d n vs:=by
 intro j hj;obtain⟨B,c,e',t⟩:=h j hj;exact⟨B,c,e',hm j B c hj t⟩
theorem fH.add{mk:Zal}{f:Zak}{L:Zak}{B c:Nat}(h:fH sz e mk w f L d n vs)(hl:vs.length=n)(ht:TRG sz e mk w f B n (L n+d) c):fH sz e mk w f L d (n+1) (vs++[ZL B (L n+d) c]):=by
 intro j hj
 by_cases e':j=n
 ·subst e'
  exact⟨B,c,by rw[Zag ae]; simp[hl],ht⟩
 obtain⟨B',c',e',t'⟩:=h j ae;exact⟨B',c',by rw[Zaa ae]; exact e',t'⟩
structure StG(sz:Nat)(e es:TypeId)(mk:Zal)(w:World)(m:Nat)(N:Zam)(G L C:Zak)(wr:World)(f:Zak)(n1 n2:Nat)(one more:Value)(GO IS:Zah):Prop where
 kept:Kept (Own m N G) w wr
 own:∀j,j<m->N j->TRG sz e mk wr f (G j) j (L j) (C j)
 ownOne:wr.ownsRow 0 es 1 one n1 GO
 ones:fH sz e mk wr f L 1 n1 GO
 ownMore:wr.ownsRow 0 es 1 more n2 IS
 mores:fH sz e mk wr f L 70 n2 IS
 newOne:∀B,one.ownBlock=some B->w.heap.size<=B
 newMore:∀B,more.ownBlock=some B->w.heap.size<=B
 apart:∀B,one.ownBlock=some B->more.ownBlock≠some B
def nU(sz:Nat)(e:TypeId)(mk:Zal)(w:World)(N:Zam)(G:Zak)(wr:World)(f:Zak)(n k:Nat)(v:Value):Prop :=
 (v=ZN/\k=0)\/∃g cap,v=ZL g k cap/\TRG sz e mk wr f g n k cap/\((N n/\g=G n)\/w.heap.size<=g)
variable {N:Zam}
theorem nU.own{mk:Zal}{G:Zak}{f:Zak}{v:Value}(h:nU sz e mk w N G wr f n k v):wr.ownsRow 0 e sz v k (mlG sz mk n k):=by
 rcases h with ⟨rfl,rfl⟩ | ⟨g,cap,rfl,ht,_⟩
 ·unfold mlG;rw[Nat.zero_mul];exact Z7 _ _ _ _
 exact ht.1
theorem nU.kept{mk:Zal}{G:Zak}{f:Zak}{v:Value}(h:nU sz e mk w N G wr f n k v)(hk:Kept (fun _=>False) wr w'):nU sz e mk w N G w' f n k v:=by
 rcases h with ⟨rfl,rfl⟩ | ⟨g,cap,rfl,ht,hg⟩
 ·exact .inl ⟨rfl,rfl⟩
 exact .inr ⟨g,cap,rfl,ht.kept hk (fun x=>x),hg⟩
theorem nU.slice{mk:Zal}{G:Zak}{f:Zak}{v:Value}(h:nU sz e mk w N G wr f n k v):∃a c,v=.slice a k c:=by
 rcases h with ⟨rfl,rfl⟩ | ⟨g,cap,rfl,_⟩
 ·exact⟨_,_,rfl⟩
 exact⟨_,_,rfl⟩
variable {m n1 n2:Nat}{one more:Value}{GO IS:Zah}
theorem StG.alloc{mk:Zal}{G L C:Zak}{f:Zak}(h:StG sz e es mk w m N G L C wr f n1 n2 one more GO IS)(o:Obj) :
  StG sz e es mk w m N G L C (wr.alloc o) f n1 n2 one more GO IS:=by
 have hk:=Kept.alloc (fun _=>False) wr o;exact L9
variable {g i cap':Nat}
theorem StG.list[NeZero sz]{mk:Zal}{G L C:Zak}{f:Zak}(hes:es≠e)(h:StG sz e es mk w m N G L C wr f n1 n2 one more GO IS)
  (hl:TRG sz e mk wr f g n i cap) (hg:(N n/\g=G n)\/w.heap.size<=g) (fj:n<m) (hr:dL sz w' e B (i+1) cap' (mlG sz mk n i++qG sz mk n i)) (hc:YD wr w' g cap B cap')
  (hi:L n<=i) (h1:n1<=n\/(n1=n+1/\L n+1<=i)) (h2:n2<=n) :
  StG sz e es mk w m N G L C w' (fun x=>if x=B then n else f x) n1 n2 one more GO IS/\TRG sz e mk w' (fun x=>if x=B then n else f x) B n (i+1) cap'/\((N n/\B=G n)\/w.heap.size<=B):=by
 rw[<- Bg]at hr;have hw:=h.kept.size;have step:∀b j k c,TRG sz e mk wr f b j k c->(b=g->k<=i)->TRG sz e mk w' (fun x=>if x=B then n else f x) b j k c:=fun b j k c t hk=>t.step hl hr hc hk
 have Nx:∀b,b<wr.heap.size->b≠g->w'.heap[b]? =wr.heap[b]?:=by
  intro b hb hbg
  rcases hc with ⟨rfl,_,hk⟩ | ⟨_,hk⟩
  ·exact hk.block b hb hbg
  exact hk.block b hb (fun x=>x)
 refine⟨⟨?_,fun j hj hN=>step _ _ _ _ (h.own j hj hN) ?_,?_,?_,?_,?_,h.newOne,h.newMore,h.apart⟩,⟨hr,av⟩,?_⟩
 ·rcases hc with ⟨rfl,_,hk⟩ | ⟨_,hk⟩
  ·refine h.kept.then hk (fun k hk' hkb=>?_)
   subst hkb
   rcases hg with ⟨hN,rfl⟩ | hg
   ·exact⟨n,fj,hN,rfl⟩
   omega
  exact h.kept.then hk (fun _ _ x=>x.elim)
 ·intro e';have hj1:=(h.own j hj hN).2;rw[e',hl.2]at hj1;subst hj1;exact hi
 ·exact bZ h.ownOne fun B' hB=>Nx B' (dU h.ownOne hB).1 (fun e'=>(zO h.ownOne hB hl.1 hes) e'.symm)
 ·refine h.ones.map fun j b c hj t=>step _ _ _ _ t (fun e'=>?_)
  have hj1:=t.2;rw[e',hl.2]at hj1;subst hj1
  rcases h1 with h1 | ⟨_,h1⟩
  ·omega
  exact h1
 ·exact bZ h.ownMore fun B' hB=>Nx B' (dU h.ownMore hB).1 (fun e'=>(zO h.ownMore hB hl.1 hes) e'.symm)
 ·refine h.mores.map fun j b c hj t=>step _ _ _ _ t (fun e'=>?_)
  have hj1:=t.2;rw[e',hl.2]at hj1;omega
 rcases hc with ⟨rfl,_,_⟩ | ⟨hge,_⟩
 ·exact hg
 exact .inr ae
theorem StG.fresh{mk:Zal}{G L C:Zak}{f:Zak}(h:StG sz e es mk w m N G L C wr f n1 n2 one more GO IS)
  (hr:dL sz w' e B (i+1) cap' (mlG sz mk n i++qG sz mk n i)) (hge:wr.heap.size<=B) (hk:Kept (fun _=>False) wr w') :
  StG sz e es mk w m N G L C w' (fun x=>if x=B then n else f x) n1 n2 one more GO IS/\TRG sz e mk w' (fun x=>if x=B then n else f x) B n (i+1) cap'/\((N n/\B=G n)\/w.heap.size<=B):=by
 rw[<- Bg]at hr;have hw:=h.kept.size
 refine⟨⟨h.kept.then hk (fun _ _ x=>x.elim),fun j hj hN=>(h.own j hj hN).fresh hge hk,bZ h.ownOne fun B' hB=>hk.block B' (dU h.ownOne hB).1 (fun x=>x),h.ones.map fun j b c _ t=>t.fresh hge hk,
  bZ h.ownMore fun B' hB=>hk.block B' (dU h.ownMore hB).1 (fun x=>x),h.mores.map fun j b c _ t=>t.fresh hge hk,h.newOne,h.newMore,h.apart⟩,⟨hr,av⟩,.inr ae⟩
theorem TRG.onto{mk:Zal}{f:Zak}{b j k c:Nat}{v:Value}(hes:es≠e)(h:TRG sz e mk w f b j k c)(hv:w.ownsRow 0 es 1 v n' xs)(ho:Onto w w' v n B cap):TRG sz e mk w' f b j k c:=by
 rcases ho with ⟨rfl,hk⟩ | ⟨_,hk⟩
 ·exact h.kept hk (zO hv rfl h.1 hes)
 exact h.kept hk (fun x=>x)
theorem StG.pushOne{mk:Zal}{G L C:Zak}{f:Zak}{g c B cap:Nat}(hes:es≠e)(h:StG sz e es mk w m N G L C wr f n n2 one more GO IS)
  (ht:TRG sz e mk wr f g n (L n+1) c) (hr:Row w' es B (n+1) cap (GO++[ZL g (L n+1) c])) (ho:Onto wr w' one n B cap) :
  StG sz e es mk w m N G L C w' f (n+1) n2 (ZL B (n+1) cap) more (GO++[ZL g (L n+1) c]) IS/\TRG sz e mk w' f g n (L n+1) c:=by
 have hw:=h.kept.size;have ht':=ht.onto hes h.ownOne ho
 refine⟨⟨ho.kept h.kept h.newOne,fun j hj hN=>(h.own j hj hN).onto hes h.ownOne ho,hr,fH.add (h.ones.map fun j b c hj t=>t.onto hes h.ownOne ho) (by have:=h.ownOne.1; simpa using this) ht',ho.other h.ownMore h.apart,
  h.mores.map fun j b c hj t=>t.onto hes h.ownOne ho,?_,h.newMore,?_⟩,ht'⟩
 ·intro b hb;obtain rfl:B=b:=lh
  rcases ho with ⟨rfl,_⟩ | ⟨hge,_⟩
  ·exact h.newOne B rfl
  omega
 intro b hb;obtain rfl:B=b:=lh
 rcases ho with ⟨rfl,_⟩ | ⟨hge,_⟩
 ·exact h.apart B rfl
 intro e';have:=(dU h.ownMore e').1;omega
theorem StG.pushMore{mk:Zal}{G L C:Zak}{f:Zak}{g c B cap:Nat}(hes:es≠e)(h:StG sz e es mk w m N G L C wr f n1 n one more GO IS)
  (ht:TRG sz e mk wr f g n (L n+70) c) (hr:Row w' es B (n+1) cap (IS++[ZL g (L n+70) c])) (ho:Onto wr w' more n B cap) :
  StG sz e es mk w m N G L C w' f n1 (n+1) one (ZL B (n+1) cap) GO (IS++[ZL g (L n+70) c]):=by
 have hw:=h.kept.size;have ht':=ht.onto hes h.ownMore ho
 refine⟨ho.kept h.kept h.newMore,fun j hj hN=>(h.own j hj hN).onto hes h.ownMore ho,ho.other h.ownOne (fun b hb e'=>h.apart b e' hb),h.ones.map fun j b c hj t=>t.onto hes h.ownMore ho,hr,
  fH.add (h.mores.map fun j b c hj t=>t.onto hes h.ownMore ho) (by have:=h.ownMore.1; simpa using this) ht',h.newOne,?_,?_⟩
 ·intro b hb;obtain rfl:B=b:=lh
  rcases ho with ⟨rfl,_⟩ | ⟨hge,_⟩
  ·exact h.newMore B rfl
  omega
 intro b hb e'
 obtain rfl:B=b:=by simpa[Value.ownBlock] using e'
 rcases ho with ⟨rfl,_⟩ | ⟨hge,_⟩
 ·exact h.apart B hb rfl
 have:=(dU h.ownOne hb).1;omega
structure MaG(sz:Nat)(e:TypeId)(mk:Zal)(w:World)(m:Nat)(N:Zam)(G L C:Zak)(wr:World)(n:Nat):Prop where
 kept:Kept (Own m N G) w wr
 rows:∀j,j<m->N j->∃xs,dL sz wr e (G j) (L j) (C j) xs
 done:∀j,j<n->∀i,i<L j*sz->wr.cell? (ZA (G j) i)=some (mk j i)
theorem MaG.put[NeZero sz]{mk:Zal}{G L C:Zak}(h:MaG sz e mk w m N G L C wr n)(hn:n<m)(hN:∀j,j<m->0<L j->N j)(hi:i<L n*sz)(hinj:∀a b,a<m->b<m->N a->N b->G a=G b->a=b)
  (hp:∀k,k<i->wr.cell? (ZA (G n) k)=some (mk n k)) :
  MaG sz e mk w m N G L C (wr.setCell (ZA (G n) i) (mk n i)) n/\∀k,k<i+1->(wr.setCell (ZA (G n) i) (mk n i)).cell? (ZA (G n) k)=some (mk n k):=by
 have V0:N n:=hN n hn (Nat.pos_of_ne_zero (fun e=>by rw[e,Nat.zero_mul]at hi; omega));obtain⟨xs,hr⟩:=h.rows n hn V0;obtain⟨hr',hk⟩:=hr.put i (mk n i);have hl:=hr.1
 have hcells:∀k,k<L n*sz->(wr.setCell (ZA (G n) i) (mk n i)).cell? (ZA (G n) k)=if k=i then some (mk n i) else wr.cell? (ZA (G n) k):=by
  intro k hk';rw[hr'.cell k hk',hr.cell k hk',List.getElem?_set]
  by_cases e':i=k
  ·subst e'; simp; omega
  simp[e',Ne.symm e']
 refine⟨⟨h.kept.then hk (fun k _ e'=>⟨n,hn,V0,e'⟩),fun j hj hNj=>?_,fun j hj k hk'=>?_⟩,fun k hk'=>?_⟩
 ·by_cases e':j=n
  ·subst e'; exact⟨_,hr'⟩
  obtain⟨ys,hy⟩:=h.rows j hj hNj;exact⟨ys,hy.kept hk (fun e''=>e' (hinj j n hj hn hNj V0 e''))⟩
 ·have hjm:j<m:=ae
  have hne:¬G j=G n:=fun e'=>by have:=hinj j n hjm hn (hN j hjm (Nat.pos_of_ne_zero (fun e=>by rw[e,Nat.zero_mul]at hk'; omega))) V0 e'; omega
  exact hk.cell (h.done j hj k hk') hne
 rw[hcells k ae]
 by_cases e':k=i
 ·simp[e']
 rw[if_neg e']; exact hp k ae
theorem MaG.state{mk:Zal}{G L C:Zak}(es:TypeId)(h:MaG sz e mk w m N G L C wr m)(hinj:∀a b,a<m->b<m->N a->N b->G a=G b->a=b):∃f,StG sz e es mk w m N G L C wr f 0 0 (ZN) (ZN) [] []:=by
 obtain⟨f,hf⟩:=owner m N G hinj;refine⟨f,h.kept,fun j hj hN=>?_,Z7 _ _ _ _,fH.nil _ _ _ _,Z7 _ _ _ _,fH.nil _ _ _ _,fun B hB=>sY,fun B hB=>sY,fun B hB=>sY⟩;obtain⟨xs,hr⟩:=h.rows j hj hN;exact⟨hr.marks (h.done j hj),hf j hj hN⟩
theorem mn[NeZero sz]{mk:Zal}{G L C:Zak}{f:Zak}{v:Value}(hes:es≠e)(h:StG sz e es mk w m N G L C wr f n1 n2 one more GO IS)
  (hl:nU sz e mk w N G wr f n k v) (fj:n<m) (o:Obj) (hr:dL sz w2 e B (k+1) cap' (mlG sz mk n k++qG sz mk n k))
  (hc:(v=ZL B k cap'/\Kept (fun x=>x=B) (wr.alloc o) w2)\/((wr.alloc o).heap.size<=B/\Kept (fun _=>False) (wr.alloc o) w2))
  (hi:L n<=k) (h1:(k=L n/\n1=n)\/(L n+1<=k/\n1=n+1)) (h2:n2<=n) :
  ∃f',StG sz e es mk w m N G L C w2 f' n1 n2 one more GO IS/\TRG sz e mk w2 f' B n (k+1) cap'/\((N n/\B=G n)\/w.heap.size<=B):=by
 have ha:=h.alloc o
 rcases hl.kept (Kept.alloc (fun _=>False) wr o) with ⟨rfl,rfl⟩ | ⟨g,cap,rfl,ht,hg⟩
 ·rcases hc with ⟨e',_⟩ | ⟨hge,hk⟩
  ·simp at e'
  exact⟨_,ha.fresh hr hge hk⟩
 refine⟨_,ha.list hes ht hg fj hr ?_ hi ae h2⟩
 rcases hc with ⟨e',hk⟩ | ⟨hge,hk⟩
 ·simp at e'
  obtain⟨rfl,rfl⟩:=e';exact .inl ⟨rfl,rfl,hk⟩
 exact .inr ⟨hge,hk⟩
theorem mR{mk:Zal}{G L C:Zak}{f:Zak}{g c B cap kk:Nat}(hes:es≠e)(h:StG sz e es mk w m N G L C wr f n n2 one more GO IS)(hkk:kk=L n+1)
  (ht:TRG sz e mk wr f g n kk c) (o:Obj) (hr:Row w2 es B (n+1) cap (GO++[ZL g kk c])) (ho:Onto (wr.alloc o) w2 one n B cap) :
  StG sz e es mk w m N G L C w2 f (n+1) n2 (ZL B (n+1) cap) more (GO++[ZL g kk c]) IS/\TRG sz e mk w2 f g n kk c:=by
 subst hkk;have ha:=h.alloc o;exact ha.pushOne hes (ht.kept (Kept.alloc (fun _=>False) wr o) (fun x=>x)) hr ho
theorem mZ{mk:Zal}{G L C:Zak}{f:Zak}{g c B cap kk:Nat}(hes:es≠e)(h:StG sz e es mk w m N G L C wr f n1 n one more GO IS)(hkk:kk=L n+70)
  (ht:TRG sz e mk wr f g n kk c) (o:Obj) (hr:Row w2 es B (n+1) cap (IS++[ZL g kk c])) (ho:Onto (wr.alloc o) w2 more n B cap) :
  StG sz e es mk w m N G L C w2 f n1 (n+1) one (ZL B (n+1) cap) GO (IS++[ZL g kk c]):=by
 subst hkk;have ha:=h.alloc o;exact ha.pushMore hes (ht.kept (Kept.alloc (fun _=>False) wr o) (fun x=>x)) hr ho
theorem Mc{mk:Zal}{G L C:Zak}(h:MaG sz e mk w m N G L C wr n):MaG sz e mk w m N G L C wr.drew n :=
 ⟨h.kept.trans ((Kept.drewN _ wr 1).mono (fun _ x=>x)),h.rows,fun j hj i hi=>by rw[World.cell?_drew]; exact h.done j hj i hi⟩
section
variable {w:World}{base e k n b:Nat}{xs:Zah}
theorem kj{v:Value}(h:w.ownsRow base e k v n xs)(hb:v.ownBlock=some b):base<=b/\b<w.heap.size/\∃cur,w.heap[b]? =some (.cells cur e):=by
 rcases h.2 with ⟨h0,_⟩ | ⟨g,cp,cur,rfl,h2,h3,h4⟩
 ·rw[h0]at hb; cases hb
 obtain rfl:g=b:=lh;exact⟨h2,t7 h3,cur,h3⟩
structure Tl where
 b:Option Nat
 n:Nat
 c:Nat
def dT:Tl:=⟨none,0,0⟩
def Tl.ad(p:Tl):Option Addr:=p.b.map fun B=>(ZA B 0)
def Tl.v(p:Tl):Value:=.slice p.ad p.n p.c
def Tl.ok(s:Nat)(e:TypeId)(lo:Nat)(w:World)(p:Tl):Prop :=
 (∃B,p.b=some B/\lo<=B/\∃xs,w.ownsRow 0 e s (ZL B p.n p.c) p.n xs)\/(p.b=none/\p.n=0/\p.c=0)
structure Kd(s:Nat)(e es:TypeId)(lo:Nat)(w:World)(v:Value)(l:List Tl):Prop where
 own:w.ownsRow 0 es 1 v l.length (l.map Tl.v)
 new:∀B,v.ownBlock=some B->lo<=B
 ok:∀p∈l,p.ok s e lo w
 inj:l.Pairwise fun p q=>∀B,p.b=some B->q.b≠some B
 len:∀p∈l,p.n<=4194304
def Kf(v:Value)(l:List Tl)(k:Nat):Prop:=v.ownBlock=some k\/∃p∈l,p.b=some k
section
variable {s:Nat} {e es:TypeId} {lo:Nat} {w w':World} {v:Value} {l:List Tl}
variable {S:Zam}{p:Tl}
theorem Tl.ok.kept(h:p.ok s e lo w)(hk:Kept S w w')(hs:∀k,p.b=some k->¬S k):p.ok s e lo w':=by
 rcases h with ⟨B,h1,h2,xs,h3⟩ | h
 ·exact .inl ⟨B,h1,h2,xs,cf h3 hk (fun b hb=>hs b (by
   obtain rfl:B=b:=lh;exact h1))⟩
 exact .inr h
theorem Kd.kept(h:Kd s e es lo w v l)(hk:Kept S w w')(hs:∀k,Kf v l k->¬S k):Kd s e es lo w' v l :=
 ⟨cf h.own hk (fun B hB=>hs B (.inl hB)),h.new,fun p hp=>(h.ok p hp).kept hk (fun k hk=>hs k (.inr ⟨p,hp,hk⟩)),h.inj,h.len⟩
theorem Kd.ty(h:Kd s e es lo w v l)(hk:Kf v l k):∃cur t,w.heap[k]? =some (.cells cur t)/\(t=e\/t=es)/\lo<=k:=by
 rcases hk with hk | ⟨p,hp,hk⟩
 ·obtain⟨_,_,cur,hc⟩:=kj h.own hk;exact⟨cur,es,hc,.inr rfl,h.new k hk⟩
 rcases h.ok p hp with ⟨B,h1,h2,xs,h3⟩ | ⟨h1,_⟩
 ·rw[hk]at h1;obtain rfl:=i9 h1;obtain⟨_,_,cur,hc⟩:=kj h3 rfl;exact⟨cur,e,hc,.inl rfl,h2⟩
 rw[h1]at hk; cases hk
theorem Kd.lt(h:Kd s e es lo w v l)(hk:Kf v l k):k<w.heap.size:=by
 obtain⟨cur,t,hc,_⟩:=h.ty hk;exact t7 hc
theorem Kd.nil(s:Nat)(e es:TypeId)(lo:Nat)(w:World):Kd s e es lo w (ZN) [] :=
 ⟨Z7 _ _ _ _,fun B hB=>sY,fun p hp=>by simp at hp,List.Pairwise.nil,fun p hp=>by simp at hp⟩
def ltA(l:List Tl)(j:Nat):Option Addr:=(l.getD j dT).ad
def ltN(l:List Tl)(j:Nat):Prop:=(l.getD j dT).b≠none
def ltG(l:List Tl)(j:Nat):Nat:=((l.getD j dT).b).getD 0
def ltL(l:List Tl)(j:Nat):Nat:=(l.getD j dT).n
def ltC(l:List Tl)(j:Nat):Nat:=(l.getD j dT).c
variable {j:Nat}
theorem ji(hj:j<l.length):l.getD j dT∈l/\l[j]? =some (l.getD j dT):=by
 have:l[j]? =some (l.getD j dT):=by rw[Z3,aD hj]; rfl
 exact⟨ZO this,this⟩
variable {B:Nat}
theorem Yt(h:(l.getD j dT).b=some B):ltG l j=B:=by unfold ltG; rw[h]; rfl
theorem Kd.lists(h:Kd s e es lo w v l):∀j,j<l.length->(ltN l j/\ltA l j=some (ZA (ltG l j) 0)/\∃xs,w.ownsRow 0 e s (ZL (ltG l j) (ltL l j) (ltC l j)) (ltL l j) xs)\/(¬ltN l j/\ltA l j=none/\ltL l j=0/\ltC l j=0):=by
 intro j hj
 rcases h.ok _ (ji hj).1 with ⟨B,h1,h2,xs,h3⟩ | ⟨h1,h2,h3⟩
 ·refine .inl ⟨by unfold ltN; rw[h1]; simp,by rw[Yt h1]; unfold ltA Tl.ad; rw[h1]; rfl,xs,by rw[Yt h1]; exact h3⟩
 exact .inr ⟨by unfold ltN; rw[h1]; simp,by unfold ltA Tl.ad; rw[h1]; rfl,h2,h3⟩
theorem ik(h:ltN l j):(l.getD j dT).b=some (ltG l j):=by
 unfold ltN at h;unfold ltG
 cases hb:(l.getD j dT).b with
 | none=>exact absurd hb h
 | some B=>rfl
theorem Kd.injN(h:Kd s e es lo w v l):∀a b,a<l.length->b<l.length->ltN l a->ltN l b->ltG l a=ltG l b->a=b:=by
 intro a b ha hb hna hnb hg;have h1:=ik hna;have h2:=ik hnb;rw[Z3,aD ha]at h1;rw[Z3,aD hb]at h2;have hp:=List.pairwise_iff_getElem.1 h.inj
 rcases Nat.lt_trichotomy a b with hab | hab | hab
 ·exact absurd (hg ▸ h2) (hp a b ha hb hab _ h1)
 ·exact hab
 exact absurd h1 (hp b a hb ha hab _ (hg ▸ h2))
theorem Kd.kf(h:Kd s e es lo w v l)(hj:j<l.length)(hn:ltN l j):Kf v l (ltG l j):=.inr ⟨_,(ji hj).1,ik hn⟩
theorem Kd.lenL(h:Kd s e es lo w v l):∀j,j<l.length->ltL l j<=4194304:=fun j hj=>by
 have:=h.len _ (ji hj).1;unfold ltL; omega
theorem Kd.cases(h:Kd s e es lo w v l):(v=ZN/\l=[])\/∃X cx,v=ZL X l.length cx/\(∀j,j<l.length->w.cell? (ZA X j)=some (.slice (ltA l j) (ltL l j) (ltC l j)))/\Kf v l X:=by
 rcases h.own.2 with ⟨h1,h2⟩ | ⟨g,cap,cur,h1,h2⟩
 ·exact .inl ⟨h1,Z6 h2⟩
 refine .inr ⟨g,cap,h1,fun j hj=>?_,.inl lV⟩;have:=World.ownsRow.cellAt (h1 ▸ h.own) j ae;rw[this,List.getElem?_map,(ji hj).2];rfl
theorem Kd.ownK(h:Kd s e es lo w v l):∀k,Own l.length (ltN l) (ltG l) k->Kf v l k:=fun k ⟨j,hj,hn,e⟩=>e ▸ h.kf hj hn
theorem Kd.row_ne(h:Kd s e es lo w v l)(he:e≠es)(hp:p∈l)(hk:p.b=some k):v.ownBlock≠some k:=by
 intro hv;obtain⟨_,_,c1,h1⟩:=kj h.own hv
 rcases h.ok p hp with ⟨B,h2,_,xs,h3⟩ | ⟨h2,_⟩
 ·rw[hk]at h2;obtain rfl:=i9 h2;obtain⟨_,_,cur,hc⟩:=kj h3 rfl;rw[hc]at h1; simp at h1
  exact he h1.2
 rw[h2]at hk; cases hk
variable {GB cap:Nat}
theorem Kd.snoc(h:Kd s e es lo w v l)(he:e≠es)(hlo:lo<=w.heap.size)(hG:∀k,Kf v l k->k≠GB)(p:Tl)(hp:p.ok s e lo w)(hl:p.n<=4194304)(hfG:∀k,p.b=some k->k≠GB)(hf:∀k,p.b=some k->¬Kf v l k) 
  (hrow:Row w' es B (l.length+1) cap (l.map Tl.v++[.slice p.ad p.n p.c])) (To:v.ownBlock=some B\/w.heap.size<=B) (hk:Kept (fun b=>b=GB\/v.ownBlock=some b) w w'):Kd s e es lo w' (ZL B (l.length+1) cap) (l++[p]):=by
 refine⟨?_,fun b hb=>?_,fun q hq=>?_,?_,fun q hq=>?_⟩
 ·rw[ZV,List.map_append];exact hrow
 ·obtain rfl:B=b:=lh
  exact To.elim (h.new B) (fun x=>ZW hlo x)
 ·rcases List.mem_append.1 hq with hq | hq
  ·exact(h.ok q hq).kept hk (fun k hk' hx=>hx.elim (fun e=>hG k (.inr ⟨q,hq,hk'⟩) e) (fun e=>h.row_ne he hq hk' e))
  obtain rfl:q=p:=by simpa using hq
  exact hp.kept hk (fun k hk' hx=>hx.elim (fun e=>hfG k hk' e) (fun e=>hf k hk' (.inl e)))
 ·rw[List.pairwise_append]
  refine⟨h.inj,List.pairwise_singleton _ _,fun a ha b hb k h1 h2=>?_⟩
  obtain rfl:b=p:=by simpa using hb
  exact hf k h2 (.inr ⟨a,ha,h1⟩)
 rcases List.mem_append.1 hq with hq | hq
 ·exact h.len q hq
 obtain rfl:q=p:=by simpa using hq
 exact hl
end
variable {p:Tl}{N B cap:Nat}
theorem Kf.snoc{v:Value}{l:List Tl}(To:v.ownBlock=some B\/w.heap.size<=B)(hk:Kf (ZL B N cap) (l++[p]) k):Kf v l k\/p.b=some k\/w.heap.size<=k:=by
 rcases hk with hk | ⟨q,hq,hk⟩
 ·obtain rfl:B=k:=by simpa[Value.ownBlock] using hk
  exact To.elim (fun x=>.inl (.inl x)) (fun x=>.inr (.inr x))
 rcases List.mem_append.1 hq with hq | hq
 ·exact .inl (.inr ⟨q,hq,hk⟩)
 obtain rfl:q=p:=by simpa using hq
 exact .inr (.inl hk)
def kSz(q:Nat):Nat:=if q=0 then 1 else if q=1 then 1 else if q=2 then 2 else if q=3 then 3 else if q=4 then 2 else if q=5 then 3 else if q=6 then 3 else 2
def kE(q:Nat):TypeId:=if q=0 then 5 else if q=1 then 3 else if q=2 then 73 else if q=3 then 102 else if q=4 then 83 else if q=5 then 75 else if q=6 then 78 else 81
def kR(q:Nat):TypeId:=if q=0 then 63 else if q=1 then 23 else if q=2 then 22 else if q=3 then 24 else if q=4 then 27 else if q=5 then 76 else if q=6 then 25 else 26
def kC(q:Nat):Nat:=if q=0 then 0 else if q=1 then 1 else if q=2 then 6 else if q=3 then 7 else if q=4 then 8 else if q=5 then 9 else if q=6 then 10 else 11
variable {q:Nat}
theorem kES(hq:q<8):kE q≠kR q:=by
 have h:∀a:Fin 8,kE a≠kR a:=au;exact h ⟨q,hq⟩
variable {r:Nat}
theorem VB(hq:q<8)(hr:r<8)(h:q≠r):kC r≠kC q:=by
 have h':∀a b:Fin 8,a≠b->kC b≠kC a:=au;exact h' ⟨q,hq⟩ ⟨r,hr⟩ (fun e=>h (congrArg Fin.val e))
abbrev KM:=Nat->Value×List Tl
def KF(K:KM)(q k:Nat):Prop:=Kf (K q).1 (K q).2 k
structure BgK(lo base:Nat)(w:World)(GB:Nat)(K:KM):Prop where
 lb:lo<=base
 bs:base<=GB
 c:∀q,q<8->w.cell? (ZA GB (kC q))=some (K q).1
 cz:∀j,j<=16->(∀q,q<8->j≠kC q)->w.cell? (ZA GB j)=some (ZN)
 fz:∀j,w.frozen? (ZA GB j)=false
 kd:∀q,q<8->Kd (kSz q) (kE q) (kR q) lo w (K q).1 (K q).2
 ow:∀q,q<8->∀B,(K q).1.ownBlock=some B->base<=B
 nl:∀q,q<8->(K q).2.length<=300
 n:∀q,q<8->∀k,KF K q k->k≠GB
 dis:∀q r,q<8->r<8->q≠r->∀k,KF K q k->¬KF K r k
def BF(GB:Nat)(K:KM)(k:Nat):Prop:=k=GB\/∃q,q<8/\KF K q k
variable {GB:Nat}{K:KM}
theorem BgK.gl{lo base:Nat}(h:BgK lo base w GB K):GB<w.heap.size:=ZQ (h.c 0 ae)
theorem BgK.low{lo base:Nat}(h:BgK lo base w GB K)(hk:BF GB K k):lo<=k:=by
 rcases hk with rfl | ⟨q,hq,hk⟩
 ·exact ZW h.lb h.bs
 obtain⟨_,_,_,_,hl⟩:=(h.kd q hq).ty hk; exact hl
variable {S:Zam}{w':World}
theorem BgK.kept{lo base:Nat}(h:BgK lo base w GB K)(hk:Kept S w w')(hs:∀k,BF GB K k->¬S k):BgK lo base w' GB K :=
 have hg:=hs GB (.inl rfl)
 ⟨h.lb,h.bs,fun q hq=>hk.cell (h.c q hq) hg,fun j a b=>hk.cell (h.cz j a b) hg,fun j=>(aS (hk.block GB h.gl hg) j).trans (h.fz j),fun q hq=>(h.kd q hq).kept hk (fun k x=>hs k (.inr ⟨q,hq,x⟩)),h.ow,h.nl,h.n,h.dis⟩
def JX(K:KM)(q:Nat)(x:Value×List Tl):KM:=fun r=>if r=q then x else K r
theorem J0(K:KM)(q:Nat)(x:Value×List Tl):JX K q x q=x:=by unfold JX; rw[if_pos rfl]
theorem CR{x:Value×List Tl}(h:r≠q):JX K q x r=K r:=by unfold JX; rw[if_neg h]
def BW(GB:Nat)(K:KM)(k:Nat):Prop:=k=GB\/∃q,q<8/\(K q).1.ownBlock=some k
theorem BW.bf(h:BW GB K k):BF GB K k:=by
 rcases h with h | ⟨q,hq,h⟩
 ·exact .inl h
 exact .inr ⟨q,hq,.inl h⟩
theorem BgK.bfl{lo base:Nat}(h:BgK lo base w GB K)(hk:BF GB K k):k<w.heap.size:=by
 rcases hk with rfl | ⟨q,hq,hk⟩
 ·exact h.gl
 exact(h.kd q hq).lt hk
theorem BgK.bob{lo base:Nat}(h:BgK lo base w GB K)(hk:BW GB K k):base<=k:=by
 rcases hk with rfl | ⟨q,hq,hk⟩
 ·exact h.bs
 exact h.ow q hq k hk
def bB(lo base:Nat)(GB:Nat)(K:KM)(T:Zam)(w w':World):Prop:=∃K',BgK lo base w' GB K'/\Kept (BW GB K) w w'/\(∀k,BF GB K' k->BF GB K k\/T k\/w.heap.size<=k)/\(∀k,BW GB K' k->BW GB K k\/w.heap.size<=k)
variable {T T':Zam}
theorem bB.mono{lo base:Nat}(h:bB lo base GB K T w w')(ht:∀k,T k->T' k):bB lo base GB K T' w w':=by
 obtain⟨K',h1,h2,h3,h4⟩:=h;refine⟨K',h1,h2,fun k hk=>?_,h4⟩
 rcases h3 k hk with x | x | x
 ·exact .inl x
 ·exact .inr (.inl (ht k x))
 exact .inr (.inr x)
variable {K1:KM}{T2:Zam}{w1 w2:World}
theorem bB.then{lo base:Nat}(k1:Kept (BW GB K) w w1)(f1:∀k,BF GB K1 k->BF GB K k\/T k\/w.heap.size<=k)(o1:∀k,BW GB K1 k->BW GB K k\/w.heap.size<=k)(h2:bB lo base GB K1 T2 w1 w2):bB lo base GB K (fun k=>T k\/T2 k) w w2:=by
 obtain⟨K2,g2,k2,f2,o2⟩:=h2;have hs:=k1.size;refine⟨K2,g2,k1.then k2 (fun k hk hx=>(o1 k hx).elim id (fun e=>absurd e ae)),fun k hx=>?_,fun k hx=>?_⟩
 ·rcases f2 k hx with x | x | x
  ·rcases f1 k x with y | y | y
   ·exact .inl y
   ·exact .inr (.inl (.inl y))
   exact .inr (.inr y)
  ·exact .inr (.inl (.inr x))
  exact .inr (.inr ae)
 rcases o2 k hx with x | x
 ·exact o1 k x
 exact .inr ae
theorem bB.refl{lo base:Nat}(h:BgK lo base w GB K):bB lo base GB K T w w:=⟨K,h,Kept.refl _ _,fun k hk=>.inl hk,fun k hk=>.inl hk⟩
theorem BgK.box{lo base:Nat}(h:BgK lo base w GB K)(o:Obj):BgK lo base (w.alloc o) GB K:=h.kept (S:=fun _=>False) (Kept.alloc _ w o) (fun _ _ x=>x)
variable {o:Obj}
theorem bB.boxed{lo base:Nat}(h:bB lo base GB K T (w.alloc o) w2):bB lo base GB K T w w2 :=
 (bB.then (T:=fun _=>False) (Kept.alloc _ w o) (fun k hk=>.inl hk) (fun k hk=>.inl hk) h).mono (fun k hk=>hk.elim False.elim id)
theorem BgK.grow{lo base:Nat}(h:BgK lo base w GB K)(hq:q<8)(p:Tl)(hp:p.ok (kSz q) (kE q) lo w)(hl:p.n<=4194304)(hf:∀k,p.b=some k->¬BF GB K k)(hn:(K q).2.length<300) 
  (hrow:Row w' (kR q) B ((K q).2.length+1) cap ((K q).2.map Tl.v++[.slice p.ad p.n p.c])) (hc:w'.cell? (ZA GB (kC q))=some (ZL B ((K q).2.length+1) cap)) (To:(K q).1.ownBlock=some B\/w.heap.size<=B)
  (hcs:∀j,j≠kC q->w'.cell? (ZA GB j)=w.cell? (ZA GB j)) (hk:Kept (fun b=>b=GB\/(K q).1.ownBlock=some b) w w') (hfs:∀j,w'.frozen? (ZA GB j)=w.frozen? (ZA GB j)):bB lo base GB K (fun k=>p.b=some k) w w':=by
 have hG:=h.gl;have hb:=h.bs;have hlb:=h.lb;have hKq:=J0 K q (ZL B ((K q).2.length+1) cap,(K q).2++[p]);have hKr:∀r,r≠q->JX K q (ZL B ((K q).2.length+1) cap,(K q).2++[p]) r=K r:=fun r hr=>CR hr;generalize JX K q (ZL B ((K q).2.length+1) cap,(K q).2++[p])=K' at hKq hKr
 have sn:∀k,KF K' q k->KF K q k\/p.b=some k\/w.heap.size<=k:=fun k hx=>by
  unfold KF at hx; rw[hKq]at hx; exact Kf.snoc To hx
 have so:∀r k,r≠q->KF K' r k->KF K r k:=fun r k hr hx=>by unfold KF at hx; rw[hKr r hr]at hx; exact hx
 have nk:∀r,r<8->r≠q->∀k,KF K r k->¬(k=GB\/(K q).1.ownBlock=some k):=fun r hr hne k hx hy=>by
  rcases hy with hy | hy
  ·exact h.n r hr k hx hy
  exact h.dis r q hr hq hne k hx (.inl hy)
 refine⟨K',⟨h.lb,h.bs,fun r hr=>?_,fun j a b=>(hcs j (b q hq)).trans (h.cz j a b),fun j=>(hfs j).trans (h.fz j),fun r hr=>?_,fun r hr=>?_,fun r hr=>?_,fun r hr k hx=>?_,fun r t hr ht hne k hx hy=>?_⟩,hk.mono (fun k hx=>?_),fun k hx=>?_,fun k hx=>?_⟩
 ·by_cases e:r=q
  ·subst e; rw[hKq]; exact hc
  rw[hKr r e,hcs (kC r) (VB hq hr (Ne.symm e))]; exact h.c r hr
 ·by_cases e:r=q
  ·subst e;rw[hKq]
   exact(h.kd r hr).snoc (kES hr) ae (h.n r hr) p hp hl (fun k hx e=>hf k hx (.inl e)) (fun k hx y=>hf k hx (.inr ⟨r,hr,y⟩)) hrow To hk
  rw[hKr r e];exact(h.kd r hr).kept hk (nk r hr e)
 ·by_cases e:r=q
  ·subst e;rw[hKq];intro b hb'
   obtain rfl:B=b:=by simpa[Value.ownBlock] using hb'
   exact To.elim (h.ow r hr B) (fun x=>ae)
  rw[hKr r e]; exact h.ow r hr
 ·by_cases e:r=q
  ·subst e; rw[hKq]; simp; omega
  rw[hKr r e]; exact h.nl r hr
 ·by_cases e:r=q
  ·subst e
   rcases sn k hx with x | x | x
   ·exact h.n r hr k x
   ·intro e; exact hf k x (.inl e)
   omega
  exact h.n r hr k (so r k e hx)
 ·by_cases e:r=q
  ·subst e;have hy':=so t k (Ne.symm hne) hy
   rcases sn k hx with x | x | x
   ·exact h.dis r t hr ht hne k x hy'
   ·exact hf k x (.inr ⟨t,ht,hy'⟩)
   have:=(h.kd t ht).lt hy'; omega
  have hx':=so r k e hx
  by_cases e2:t=q
  ·subst e2
   rcases sn k hy with x | x | x
   ·exact h.dis r t hr ht hne k hx' x
   ·exact hf k x (.inr ⟨r,hr,hx'⟩)
   have:=(h.kd r hr).lt hx'; omega
  exact h.dis r t hr ht hne k hx' (so t k e2 hy)
 ·rcases hx with hx | hx
  ·exact .inl hx
  exact .inr ⟨q,hq,hx⟩
 ·rcases hx with hx | ⟨r,hr,hx⟩
  ·exact .inl (.inl hx)
  by_cases e:r=q
  ·subst e
   rcases sn k hx with x | x | x
   ·exact .inl (.inr ⟨r,hr,x⟩)
   ·exact .inr (.inl x)
   exact .inr (.inr x)
  exact .inl (.inr ⟨r,hr,so r k e hx⟩)
 rcases hx with hx | ⟨r,hr,hx⟩
 ·exact .inl (.inl hx)
 by_cases e:r=q
 ·subst e;rw[hKq]at hx;obtain rfl:B=k:=wj
  exact To.elim (fun x=>.inl (.inr ⟨r,hr,x⟩)) .inr
 rw[hKr r e]at hx;exact .inl (.inr ⟨r,hr,hx⟩)
variable {V:Value}
theorem BgK.grow2{lo base:Nat}(h:BgK lo base w GB K)(hq:q<8)(p:Tl)(hp:p.ok (kSz q) (kE q) lo w)(hl:p.n<=4194304)(hf:∀k,p.b=some k->¬BF GB K k)(eV:(K q).1=V)(en:(K q).2.length=n)(ex:(K q).2.map Tl.v=xs)(hn:n<300) 
  (hrow:Row w' (kR q) B (n+1) cap (xs++[.slice p.ad p.n p.c])) (hc:w'.cell? (ZA GB (kC q))=some (ZL B (n+1) cap)) (To:V.ownBlock=some B\/w.heap.size<=B)
  (hcs:∀j,j≠kC q->w'.cell? (ZA GB j)=w.cell? (ZA GB j)) (hk:Kept (fun b=>b=GB\/V.ownBlock=some b) w w') (hfs:∀j,w'.frozen? (ZA GB j)=w.frozen? (ZA GB j)):bB lo base GB K (fun k=>p.b=some k) w w':=by
 subst eV; subst en; subst ex;exact h.grow hq p hp hl hf hn hrow hc To hcs hk hfs
theorem Sq(GB:Nat)(w:World)(hc:w.cell? (ZA GB 0)=some (ZN)) :
  Zw 65 #[ZP GB 0] w (ZG (.bool true) w):=by
 go_enter func65,ntmps65;exact eA
theorem SI(GB:Nat)(w:World)(hc:w.cell? (ZA GB 1)=some (ZN)) :
  Zw 66 #[ZP GB 0] w (ZG (.bool true) w):=by
 go_enter func66,ntmps66;exact eA
theorem TQ(GB:Nat)(w:World)(hc:w.cell? (ZA GB 2)=some (ZN)) :
  Zw 67 #[ZP GB 0] w (ZG (.bool true) w):=by
 go_enter func67,ntmps67;exact eA
theorem Tj(GB:Nat)(w:World)(hc:w.cell? (ZA GB 3)=some (ZN)) :
  Zw 68 #[ZP GB 0] w (ZG (.bool true) w):=by
 go_enter func68,ntmps68;exact eA
theorem SJ(GB:Nat)(w:World)(hc:w.cell? (ZA GB 4)=some (ZN)) :
  Zw 69 #[ZP GB 0] w (ZG (.bool true) w):=by
 go_enter func69,ntmps69;exact eA
theorem QR(GB:Nat)(w:World)(hc:w.cell? (ZA GB 5)=some (ZN)) :
  Zw 70 #[ZP GB 0] w (ZG (.bool true) w):=by
 go_enter func70,ntmps70;exact eA
theorem SP(GB:Nat)(w:World)(hc:w.cell? (ZA GB 6)=some (ZN)) :
  Zw 71 #[ZP GB 0] w (ZG (.bool true) w):=by
 go_enter func71,ntmps71;exact eA
theorem TV(GB:Nat)(w:World)(hc:w.cell? (ZA GB 7)=some (ZN)) :
  Zw 72 #[ZP GB 0] w (ZG (.bool true) w):=by
 go_enter func72,ntmps72;exact eA
theorem S8(GB:Nat)(w:World)(hc:w.cell? (ZA GB 8)=some (ZN)) :
  Zw 73 #[ZP GB 0] w (ZG (.bool true) w):=by
 go_enter func73,ntmps73;exact eA
theorem Rp(GB:Nat)(w:World)(hc:w.cell? (ZA GB 9)=some (ZN)) :
  Zw 74 #[ZP GB 0] w (ZG (.bool true) w):=by
 go_enter func74,ntmps74;exact eA
theorem TW(GB:Nat)(w:World)(hc:w.cell? (ZA GB 10)=some (ZN)) :
  Zw 75 #[ZP GB 0] w (ZG (.bool true) w):=by
 go_enter func75,ntmps75;exact eA
theorem SF(GB:Nat)(w:World)(hc:w.cell? (ZA GB 11)=some (ZN)) :
  Zw 76 #[ZP GB 0] w (ZG (.bool true) w):=by
 go_enter func76,ntmps76;exact eA
theorem QK(GB:Nat)(w:World)(hc:w.cell? (ZA GB 12)=some (ZN)) :
  Zw 77 #[ZP GB 0] w (ZG (.bool true) w):=by
 go_enter func77,ntmps77;exact eA
theorem QQ(GB:Nat)(w:World)(hc:w.cell? (ZA GB 13)=some (ZN)) :
  Zw 78 #[ZP GB 0] w (ZG (.bool true) w):=by
 go_enter func78,ntmps78;exact eA
theorem SK(GB:Nat)(w:World)(hc:w.cell? (ZA GB 14)=some (ZN)) :
  Zw 79 #[ZP GB 0] w (ZG (.bool true) w):=by
 go_enter func79,ntmps79;exact eA
theorem QN(GB:Nat)(w:World)(hc:w.cell? (ZA GB 15)=some (ZN)) :
  Zw 80 #[ZP GB 0] w (ZG (.bool true) w):=by
 go_enter func80,ntmps80;exact eA
theorem Ue(GB:Nat)(w:World)(hc:w.cell? (ZA GB 16)=some (ZN)) :
  Zw 81 #[ZP GB 0] w (ZG (.bool true) w):=by
 go_enter func81,ntmps81;exact eA
variable {o:Nat}
theorem kpZ{v:Value}:Kept (fun q=>q=b) w (w.setCell (ZA b o) v):=aB w b o v
theorem gG(n i:Nat)(w:World)(hn:n<=300)(hi:i<=8388608):Zw 89 #[ZI n,ZI i] w (ZG (ZI (nm n i)) w):=by
 go_enter func89,ntmps89
 go_wp2;go_ret
 exact⟨by simp[nm],rfl⟩
theorem NW(w:World)(t:TypeId)(u0 u1:Value):∀(j:Nat)(y:Value),[u0,u1][j]? =some y->(w.alloc (.cells #[u0,u1] t)).cell? (((ZA w.heap.size 0):Addr).add j)=some y:=by
 intro j y hj
 match j,hj with
 | 0,hj | 1,hj=>simp at hj; subst hj; simp[Addr.add]
 | j+2,hj=>simp at hj
theorem Mk(w:World)(t:TypeId)(u0 u1 u2:Value):∀(j:Nat)(y:Value),[u0,u1,u2][j]? =some y->(w.alloc (.cells #[u0,u1,u2] t)).cell? (((ZA w.heap.size 0):Addr).add j)=some y:=by
 intro j y hj
 match j,hj with
 | 0,hj | 1,hj | 2,hj=>simp at hj; subst hj; simp[Addr.add]
 | j+3,hj=>simp at hj
structure XqG(wa:World)(xb:Nat)(cs:AVz)(E:TypeId)(W:World):Prop where
 b:Zx wa W
 lo:wa.heap.size<=xb
 o:W.heap[xb]? =some (.cells cs E)
variable {wa W:World}{xb:Nat}{cs:AVz}{E:TypeId}
theorem XqG.c(h:XqG wa xb cs E W)(i:Nat)(v:Value)(hv:cs[i]? =some v):W.cell? (ZA xb i)=some v:=(ag h.o).trans hv
theorem XqG.f(h:XqG wa xb cs E W)(i:Nat):W.frozen? (ZA xb i)=false:=free_at h.o
variable {wr:World}
theorem XqG.new(hb:Zx wa wr)(cs:AVz)(E:TypeId):XqG wa wr.heap.size cs E (wr.alloc (.cells cs E)):=⟨hb.trans ((aj wr _).mono hb.size),hb.size,uR wr _⟩
variable {W':World}
theorem XqG.puts(h:XqG wa xb cs E W)(hk:Kept (fun q=>q=xb) W W')(ho:W'.heap[xb]? =some (.cells cs E)):XqG wa xb cs E W':=⟨h.b.trans (hk.to_below h.b.size (fun q hq e=>by have:=h.lo; have e:q=xb:=e; omega)),h.lo,ho⟩
theorem XqG.drew(h:XqG wa xb cs E W):XqG wa xb cs E W.drew:=⟨h.b.trans ((ZT W.heap.size W).drew.mono h.b.size),h.lo,h.o⟩
theorem cd(h:Zx w w'):Kept S w w':=⟨h.os,h.tape,h.output,h.size,fun k hk _=>h.block k hk⟩
theorem Tryz.infCzZ:(prog.info? 75).map (fun i=>(i.zero,i.size,i.bytes))=some (some (.agg #[ZU 0,ZI 0,ZN]),3,40):=ak
theorem Tryz.inlCzZ:(prog.info? 76).map (fun i=>(i.zero,i.size,i.bytes))=some (some (ZN),1,24):=ak
def jq(n p:Nat):Value:=if p%3=0 then ZU 0 else if p%3=1 then ZI (nm n (p / 3)) else ZN
theorem Ld(n k:Nat):jq n (k*3)=ZU 0:=by unfold jq; rw[if_pos ae]
theorem Mn(n k:Nat):jq n (k*3+1)=ZI (nm n k):=by unfold jq; rw[if_neg ae,if_pos ae,show(k*3+1) / 3=k by omega]
theorem MG(n k:Nat):jq n (k*3+2)=ZN:=by unfold jq; rw[if_neg ae,if_neg ae]
theorem qCz(n k:Nat):qG 3 jq n k=[ZU 0,ZI (nm n k),ZN]:=by
 show [jq n (k*3+0),jq n (k*3+1),jq n (k*3+2)]=_;rw[show jq n (k*3+0)=_ from Ld n k,Mn,MG]
variable {m:Nat}{N:Zam}
theorem Yj{G L C:Zak}(h:MaG 3 75 jq w m N G L C wr n)(hn:n<m)(hN:∀j,j<m->0<L j->N j)(hk:k<L n)(hinj:∀a b,a<m->b<m->N a->N b->G a=G b->a=b)
  (hp:∀t,t<k*3->wr.cell? (ZA (G n) t)=some (jq n t)) :
  MaG 3 75 jq w m N G L C (((wr.setCell (ZA (G n) (k*3)) (ZU 0)).setCell (ZA (G n) (k*3+1)) (ZI (nm n k))).setCell (ZA (G n) (k*3+2)) (ZN)) n/\∀t,t<(k+1)*3->(((wr.setCell (ZA (G n) (k*3)) (ZU 0)).setCell (ZA (G n) (k*3+1)) (ZI (nm n k))).setCell (ZA (G n) (k*3+2)) (ZN)).cell? (ZA (G n) t)=some (jq n t):=by
 have p0:=h.put hn hN (i:=k*3) ae hinj hp;rw[Ld]at p0;have p1:=p0.1.put hn hN (i:=k*3+1) ae hinj p0.2;rw[Mn]at p1;have p2:=p1.1.put hn hN (i:=k*3+2) ae hinj p1.2;rw[MG]at p2;exact wL
variable {z:Int}
theorem YC  : ∀y∈([ZU 0,ZI z,ZN]:Zah),y.oneCell'=true:=by
 exact zI
theorem wu{f:Zak}{B j K c k:Nat}(h:TRG 3 75 jq wa f B j K c)(hk:k<K)(hb:Zx wa W):W.cell? (ZA B (k*3))=some (ZU 0)/\W.cell? (ZA B (k*3+1))=some (ZI (nm j k))/\W.cell? (ZA B (k*3+2))=some (ZN) :=
 ⟨ai hb ((h.cell _ ae).trans (congrArg some (Ld j k))),ai hb ((h.cell _ ae).trans (congrArg some (Mn j k))),ai hb ((h.cell _ ae).trans (congrArg some (MG j k)))⟩
theorem DV(h:XqG wa xb #[ZU 0,ZI z,ZN] 75 W):XqG wa xb #[ZU 0,ZI z,ZN] 75 (((W.setCell (ZA xb 0) (ZU 0)).setCell (ZA xb 1) (ZI z)).setCell (ZA xb 2) (ZN)) :=
 h.puts ((kpZ.trans kpZ).trans kpZ) ((aT (aT (aT h.o))))
def RZ(w:World)(m:Nat)(N:Zam)(A:Zao)(G L C:Zak):Prop :=
 ∀j,j<m->(N j/\A j=some (ZA (G j) 0)/\∃xs,dL 3 w 75 (G j) (L j) (C j) xs)\/(¬N j/\A j=none/\L j=0/\C j=0)
theorem Tz(GB X m cx:Nat)(N:Zam)(A:Zao)(G L C:Zak)(w:World)(hm:m<=300)
  (hg:w.cell? (ZA GB 9)=some (ZL X m cx))
  (hx:∀j,j<m->w.cell? (ZA X j)=some (.slice (A j) (L j) (C j)))
  (ho:RZ w m N A G L C) (hL:∀j,j<m->L j<=4194304)
  (hinj:∀a b,a<m->b<m->N a->N b->G a=G b->a=b) (ce:∀j,j<m->N j->¬GB=G j/\¬X=G j) :
  Zw 74 #[ZP GB 0] w fun e w'=>e=.returned (.bool true)/\Kept (Own m N G) w w':=by
 have hN:∀j,j<m->0<L j->N j/\A j=some (ZA (G j) 0):=fun j hj h0=>by
  exact kH
 have hR:∀j,j<m->N j->∃xs,dL 3 w 75 (G j) (L j) (C j) xs:=fun j hj h0=>by
  exact kD
 have hS:∀j,j<m->(N j/\A j=some (ZA (G j) 0))\/(A j=none/\L j=0/\C j=0):=fun j hj=>by
  exact kq
 obtain⟨HX,HL,HI,E',HN,HR⟩:=ZK hx hL hinj ce hN hR;obtain⟨HSN,HG⟩:=Zz hS hg;have mT:¬Own m N G GB:=fun⟨j,hj,hn,e⟩=>(ce j hj hn).1 e;have nX:¬Own m N G X:=fun⟨j,hj,hn,e⟩=>(ce j hj hn).2 e;obtain⟨NGB,NX⟩:=Zz mT nX;clear hx hL hinj ce ho hg mT nX hN hR hS;go_enter func74,ntmps74;go_wp2_with fail
 go_loopw [3] (fun i wr=>∃n:Nat,n<=m/\i=ZI n/\MaG 3 75 jq w m N G L C wr n) (fun i _=>m-(intOf i).toNat)
 case atStart=>exact⟨0,ae,rfl,Kept.refl _ _,HR.out,fun j hj=>absurd hj ae⟩
 case round =>
  obtain⟨n,hn,rfl,Cd⟩:=hrel;have c0:wr.cell? (ZA GB 9)=some (ZL X m cx):=Cd.kept.cell HG.out NGB.out
  by_cases hlt:n<m
  ·have HM:=hid Cd;clear Cd;go_wp2_with fail
   go_loopw [4] (fun i wr=>∃k:Nat,k<=L n/\i=ZI k/\MaG 3 75 jq w m N G L C wr n/\∀t,t<k*3->wr.cell? (ZA (G n) t)=some (jq n t)) (fun i _=>L n-(intOf i).toNat)
   case atStart=>exact⟨0,ae,rfl,HM.out,fun t ht=>absurd ht ae⟩
   case round =>
    obtain⟨k,hk,rfl,Cd,eh⟩:=hrel;clear c0;have hLn:=HL.out n hlt;have c0:wr.cell? (ZA GB 9)=some (ZL X m cx):=Cd.kept.cell HG.out NGB.out;have c1:wr.cell? (ZA X n)=some (.slice (A n) (L n) (C n)):=Cd.kept.cell (HX.out n hlt) NX.out
    by_cases hkl:k<L n
    ·obtain⟨V0,dp⟩:=HN.out n hlt ae;rw[dp]at c1;obtain⟨xs,hrow⟩:=Cd.rows n hlt V0
     have hcl:∀q,q<3->∃u,wr.cell? (ZA (G n) (k*3+q))=some u:=fun q hq=>⟨_,(hrow.cell (k*3+q) ae).trans (aD m8)⟩;obtain⟨u0,d0⟩:=hcl 0 ae;obtain⟨u1,d1⟩:=hcl 1 ae;obtain⟨u2,d2⟩:=hcl 2 ae;rw[Nat.add_zero]at d0;have z0:=hrow.free (k*3);have z1:=hrow.free (k*3+1);have z2:=hrow.free (k*3+2);have P:=hid (Yj Cd hlt (fun j hj h0=>(HN.out j hj h0).1) hkl HI.out eh);have gx:=E'.out n hlt V0;have g1:¬GB=G n:=gx.1;have g2:¬X=G n:=gx.2;have RE:n<=300:=ae;have hk3:k<=8388608:=ae;have kx:Kept (fun q=>q=G n) wr (((wr.setCell (ZA (G n) (k*3)) (ZU 0)).setCell (ZA (G n) (k*3+1)) (ZI (nm n k))).setCell (ZA (G n) (k*3+2)) (ZN)):=(kpZ.trans kpZ).trans kpZ;have s0:(((wr.setCell (ZA (G n) (k*3)) (ZU 0)).setCell (ZA (G n) (k*3+1)) (ZI (nm n k))).setCell (ZA (G n) (k*3+2)) (ZN)).cell? (ZA GB 9)=some (ZL X m cx):=kx.cell c0 g1;have s1:(((wr.setCell (ZA (G n) (k*3)) (ZU 0)).setCell (ZA (G n) (k*3+1)) (ZI (nm n k))).setCell (ZA (G n) (k*3+2)) (ZN)).cell? (ZA X n)=some (ZL (G n) (L n) (C n)):=kx.cell c1 g2;clear Cd eh hrow HM gx hcl kx;go_wp2_with fail
     go_region_held3 (fun W=>W.cell? (ZA GB 9)=some (ZL X m cx)/\W.cell? (ZA X n)=some (ZL (G n) (L n) (C n))) (first | go_keep | (simp only[World.cell?_drew]; exact⟨s0,s1⟩))
      (first | (go_at_call 89; refine(gG n k _ RE hk3).mono ?_; rintro e w' ⟨rfl,rfl⟩))
     exact px
    have hkk:k=L n:=ae;subst hkk
    have D:=hid (show MaG 3 75 jq w m N G L C wr (n+1) from⟨Cd.kept,Cd.rows,fun j hj i hi=>by
     by_cases e:j=n
     ·subst e; exact eh i hi
     exact Cd.done j ae i hi⟩)
    exact jY
  have fj:m=n:=ae;subst fj;obtain⟨f0,UP⟩:=Cd.state 76 HI.out;have ge:=hid UP;obtain⟨i5,q0,q1,q2,q3⟩:=Z0 Tryz.infCzZ;obtain⟨b8,p0,p1,p2,p3⟩:=Z0 Tryz.inlCzZ;have hes:(76:TypeId)≠75:=au;clear Cd UP;go_wp2_with fail;clear c0
  go_loopw [5,6,7] (fun one more i wr=>∃(n:Nat)(f:Zak)(GO IS:Zah),n<=m/\i=ZI n/\StG 3 75 76 jq w m N G L C wr f n n one more GO IS) (fun _ _ i _=>m-(intOf i).toNat)
  case atStart=>exact⟨0,f0,[],[],ae,rfl,ge.out⟩
  case round =>
   obtain⟨n,f,GO,IS,fj,rfl,hst⟩:=hrel;have c0:wr.cell? (ZA GB 9)=some (ZL X m cx):=hst.kept.cell HG.out NGB.out
   by_cases FG:n<m
   ·have hLn:=HL.out n FG;have c1:wr.cell? (ZA X n)=some (.slice (A n) (L n) (C n)):=hst.kept.cell (HX.out n FG) NX.out;have HST:=hid hst;clear hst ge;go_wp2_with fail;clear c0 c1
    go_loopw [5,8,9] (fun one l i wr=>∃(k n1:Nat)(f:Zak)(GO:Zah),L n<=k/\k<=L n+70/\i=ZI k/\nU 3 75 jq w N G wr f n k l/\((k=L n/\n1=n)\/(L n+1<=k/\n1=n+1))/\StG 3 75 76 jq w m N G L C wr f n1 n one u6 GO IS) (fun _ _ i _=>L n+70-(intOf i).toNat)
    case atStart =>
     exact mq
    case round =>
     obtain⟨k,n1,f,GO,It,hk1,rfl,GE,On,hst⟩:=hrel;obtain⟨la,lc,rfl⟩:=GE.slice;have c0:wr.cell? (ZA GB 9)=some (ZL X m cx):=hst.kept.cell HG.out NGB.out;have c1:wr.cell? (ZA X n)=some (.slice (A n) (L n) (C n)):=hst.kept.cell (HX.out n FG) NX.out
     by_cases hk:k<L n+70
     ·skip
      have RE:n<=300:=ae;have hk3:k<=8388608:=ae;have hown:(wr.alloc (aH 0 (nm n k) none 0 0)).ownsRow 0 75 3 (.slice la k lc) k (mlG 3 jq n k):=(GE.kept (Kept.alloc (fun _=>False) wr _)).own;obtain⟨HOW,IF,D',sC⟩:=ZF hown hst GE On;have hb1:k+1<=maxLen:=aP;have hb2:(k+1)*40<=140737488355328:=ae;have hb3:n+1<=maxLen:=aP;have hb4:(n+1)*24<=140737488355328:=ae;clear hown hst GE On
      go_upto_region 17 with (first
       | (go_at_call 89; refine(gG n k _ RE hk3).mono ?_; rintro e w' ⟨rfl,rfl⟩)
       | (at_builtin; refine jF _ rfl (.tmp 79) (.tmp 84) 76 rfl 75 i5 (.agg #[ZU 0,ZI 0,ZN]) 40 underlying76 q0 q1 q2 q3 rfl _ k _ rfl HOW.out (ZA w'.heap.size 0) [ZU 0,ZI (nm n k),ZN] rfl rfl (Mk _ _ _ _ _) YC hb1 hb2 ?_; intro B cap' w2 hrow AS; rw[<- qCz]at hrow; obtain⟨f',hs2,ht2,hg2⟩:=mn hes IF.out D'.out FG _ hrow AS It sC.out lRn; have c0':=hs2.kept.cell HG.out NGB.out; have c1':=hs2.kept.cell (HX.out n FG) NX.out; have S2:=hid hs2; have T2:=hid ht2; have G2:=hid hg2; clear hs2 ht2 hg2 hrow AS))
      by_cases hke:k=L n
      ·have hkb:((k:Int)==(L n:Int))=true:=gu;have hIO:n1=n:=kY;subst hIO;have KE:=hid hke;clear hke
       go_wp2_with (first
        | (at_builtin; refine bO _ rfl (.tmp 96) (.tmp 98) 50 rfl 76 b8 (ZN) 24 underlying50 p0 p1 p2 p3 rfl _ n1 _ rfl mt (ZA w2.heap.size 0) (ZL B (k+1) cap') rfl dh rfl hb3 hb4 ?_; intro B2 cap2 w3 hrow2 AM; obtain⟨hs3,eq⟩:=mR hes S2.out mY T2.out _ hrow2 AM; have S3:=hid hs3; have T3:=hid eq; clear hs3 eq hrow2 AM))
       exact ke
      exact mQ
     obtain rfl:k=L n+70:=ae;have hIO:n1=n+1:=ae;subst hIO;have hb3:n+1<=maxLen:=aP;have hb4:(n+1)*24<=140737488355328:=ae
     rcases GE with ⟨_,h0⟩ | ⟨g,cap,hv,htr,_⟩
     ·omega
     simp only[Value.slice.injEq,true_and]at hv;obtain⟨rfl,rfl⟩:=hv;obtain⟨IF,q'⟩:=Zz hst htr;clear hst htr On
     go_wp2_with (first
       | (at_builtin; refine bO _ rfl (.tmp 100) (.tmp 102) 50 rfl 76 b8 (ZN) 24 underlying50 p0 p1 p2 p3 rfl _ n _ rfl mG (ZA wr.heap.size 0) (ZL g (L n+70) lc) rfl dh rfl hb3 hb4 ?_; intro B2 cap2 w3 hrow2 AM; have S3:=hid (mZ hes IF.out rfl q'.out _ hrow2 AM); clear hrow2 AM))
     exact ku
   have eS:m=n:=ae;subst eS;obtain⟨oa,oc,e5,h5⟩:=aR hst.ownOne;obtain⟨ma,mc,e6,h6⟩:=aR hst.ownMore;subst e5;subst e6;obtain⟨HST,H5,H6⟩:=ZH hst h5 h6;clear hst ge h5 h6;go_wp2_with fail;clear c0;generalize wr=wa at *
   go_loopw [10] (fun i wq=>∃n:Nat,n<=m/\i=ZI n/\Zx wa wq) (fun i _=>m-(intOf i).toNat)
   case atStart=>exact⟨0,ae,rfl,ZT _ _⟩
   case round =>
    obtain⟨n,zd,rfl,lp⟩:=hrel
    by_cases By:n<m
    ·have hLn:=HL.out n By
     obtain⟨OB,rfl,ZS⟩:∃B,oa=some (ZA B 0)/\∀j,j<m->wa.cell? (ZA B j)=GO[j]?:=by
      exact j6
     obtain⟨MB,rfl,lk⟩:∃B,ma=some (ZA B 0)/\∀j,j<m->wa.cell? (ZA B j)=IS[j]?:=by
      exact ko
     obtain⟨B1,b1c,hb1,ht1⟩:=HST.out.ones n By;obtain⟨B2,b2c,hb2,ht2⟩:=HST.out.mores n By;have CO:=hid ((ZS n By).trans hb1);have CM:=hid ((lk n By).trans hb2);have C0:=hid (show wa.cell? (ZA GB 9)=some (ZL X m cx) from HST.out.kept.cell HG.out NGB.out);have C1:=hid (show wa.cell? (ZA X n)=some (.slice (A n) (L n) (C n)) from HST.out.kept.cell (HX.out n By) NX.out);have T0:=hid (fun hN=>HST.out.own n By hN);obtain⟨T1,T2,gk⟩:=ZH ht1 ht2 lp;clear ZS lk hb1 hb2 ht1 ht2 H5 H6 HST lp;go_wp2_with fail;generalize wr=wb at *
     go_loopw [11] (fun i wq=>∃k:Nat,k<=L n+70/\i=ZI k/\Zx wa wq) (fun i _=>L n+70-(intOf i).toNat)
     case atStart=>exact⟨0,ae,rfl,gk.out⟩
     case round =>
      obtain⟨k,hk,rfl,oj⟩:=hrel;have cm:=ai oj CM.out;have vm:=hid oj;clear oj gk
      by_cases am:k<L n+70
      ·obtain⟨m0,m1,m2⟩:=wu T2.out am vm.out;have RE:n<=300:=ae;have hk3:k<=8388608:=ae
       go_upto_region 26 with fail
       go_cut [12] from 119 to 125 (fun v wx=>∃xb,v=ZP xb 0/\Hid (XqG wa xb #[ZU 0,ZI (nm n k),ZN] 75 wx))
       case first =>
        go_wp2_with fail
        go_meet
        exact⟨_,rfl,hid (XqG.new vm.out #[ZU 0,ZI (nm n k),ZN] 75)⟩
       case rest =>
       obtain⟨xb,rfl,XQ⟩:=hcut;clear cm m0 m1 m2;generalize wc=W1 at *;rename_i K5 hK5;refine hK5 _ _ (wp_seq_k fun K6 vj=>?_);clear hK5
       go_cut [] from 126 to 145 (fun wx=>Hid (XqG wa xb #[ZU 0,ZI (nm n k),ZN] 75 wx))
       case first =>
        have c0:=ai XQ.out.b C0.out;have c1:=ai XQ.out.b C1.out
        by_cases hka:k<L n
        ·obtain⟨V0,dp⟩:=HN.out n By ae;rw[dp]at c1;obtain⟨m0,m1,m2⟩:=wu (T0.out V0) hka XQ.out.b;have x0:=XQ.out.c 0 (ZU 0) rfl;have x1:=XQ.out.c 1 (ZI (nm n k)) rfl;have x2:=XQ.out.c 2 (ZN) rfl;have z0:=XQ.out.f 0;have z1:=XQ.out.f 1;have z2:=XQ.out.f 2;go_wp2_with fail
         go_meet
         exact hid (DV XQ.out)
        exact nS
       case rest =>
       clear XQ;have XQ:=hid hcut.out;clear hcut;generalize wc=W2 at *;refine vj _ _ (wp_seq_k fun K7 hK7=>?_);clear vj
       go_cut [] from 146 to 162 (fun wx=>Hid (XqG wa xb #[ZU 0,ZI (nm n k),ZN] 75 wx))
       case first =>
        have c0:=ai XQ.out.b C0.out;have c1:=ai XQ.out.b C1.out
        by_cases hke:k=L n
        ·have co:=ai XQ.out.b CO.out;have hkb:((k:Int)==(L n:Int))=true:=gu;have hkl:k<L n+1:=ae;obtain⟨m0,m1,m2⟩:=wu T1.out hkl XQ.out.b;have x0:=XQ.out.c 0 (ZU 0) rfl;have x1:=XQ.out.c 1 (ZI (nm n k)) rfl;have x2:=XQ.out.c 2 (ZN) rfl;have z0:=XQ.out.f 0;have z1:=XQ.out.f 1;have z2:=XQ.out.f 2;clear hke;go_wp2_with fail
         go_meet
         exact hid (DV XQ.out)
        exact nA
       case rest =>
       clear XQ;have XQ:=hid hcut.out;clear hcut;generalize wc=W3 at *
       go_upto_region 31 with fail
       have x0:=XQ.out.c 0 (ZU 0) rfl;have x1:=XQ.out.c 1 (ZI (nm n k)) rfl;have x2:=XQ.out.c 2 (ZN) rfl
       go_region_held3 (fun W=>W.cell? (ZA xb 1)=some (ZI (nm n k))/\W.cell? (ZA xb 2)=some (ZN)) (first | go_keep | (simp only[World.cell?_drew]; exact⟨x1,x2⟩))
        (first | (go_at_call 89; refine(gG n k _ RE hk3).mono ?_; rintro e w' ⟨rfl,rfl⟩))
       clear x0 x1 x2;have ap:=hid XQ.out.drew;generalize W3.drew=W4 at *;clear XQ;have XQ:=hid ap.out;clear ap;have cm:=ai XQ.out.b CM.out;obtain⟨m0,m1,m2⟩:=wu T2.out am XQ.out.b;have x0:=XQ.out.c 0 (ZU 0) rfl;have x1:=XQ.out.c 1 (ZI (nm n k)) rfl;have x2:=XQ.out.c 2 (ZN) rfl;have z0:=XQ.out.f 0;have z1:=XQ.out.f 1;have z2:=XQ.out.f 2
       go_upto_region 33 with fail
       clear cm m0 m1 m2 x0 x1 x2 z0 z1 z2;have ap:=hid (DV XQ.out);generalize (((W4.setCell (ZA xb 0) (ZU 0)).setCell (ZA xb 1) (ZI (nm n k))).setCell (ZA xb 2) (ZN))=W5 at *;clear XQ;have XQ:=hid ap.out;clear ap;have x0:=XQ.out.c 0 (ZU 0) rfl;have x1:=XQ.out.c 1 (ZI (nm n k)) rfl;have x2:=XQ.out.c 2 (ZN) rfl
       go_region_held3 (fun W=>W.cell? (ZA xb 1)=some (ZI (nm n k))/\W.cell? (ZA xb 2)=some (ZN)) (first | go_keep | (simp only[World.cell?_drew]; exact⟨x1,x2⟩))
        (first | (go_at_call 89; refine(gG n k _ RE hk3).mono ?_; rintro e w' ⟨rfl,rfl⟩))
       exact xx
      exact nH
    exact nM
end
end Go.Proofs.YtheefojaplnnoaaGreatDoor

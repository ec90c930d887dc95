/-
  Texts Nb Ne Nf Ng Nh Ni Bi Bj Bk.
-/
import Derived.Test.YtheefojaplnnoaaGreatDoorY09
set_option linter.unusedVariables false
set_option maxRecDepth 100000
set_option maxHeartbeats 16000000
namespace Go.Proofs.YtheefojaplnnoaaGreatDoor
open Go.Proofs.Tryz
open Go.RowKit Go.Shelf
theorem Ru(s:BAz)(w:World):Zw 176 #[.string s,.string ⟨#[10]⟩] w (ZG (ZI (Lib.indexByte s.data.toList 10)) w):=Tryz.strings_Index_one s 10 w
def bp:List UInt8->List (List UInt8)
 | []=>[[]]
 | b::l=>if b==10 then []::bp l else match bp l with
  | []=>[[b]]
  | p::r=>(b::p)::r
theorem zw:∀l,bp l≠[]
 | []=>by simp[bp]
 | b::l=>by
  unfold bp
  split
  ·simp
  split <;> simp
theorem jr:∀(l:Zaj),Lib.indexByte l 10=-1\/(0<=Lib.indexByte l 10/\Lib.indexByte l 10<l.length)
 | []=>.inl rfl
 | b::l=>by
  have:=jr l;exact I6
theorem mK:∀(l:Zaj),Lib.indexByte l 10=-1->bp l=[l]
 | [],_=>rfl
 | b::l,h=>by
  have hr:=jr l;unfold Lib.indexByte at h
  split at h
  ·simp at h
  rename_i hb
  split at h
  ·rename_i hi
   have:=mK l (by simpa using hi);unfold bp;rw[if_neg hb,this]
  rename_i hi;simp at hi;omega
theorem mC:∀(l:Zaj)(k:Nat),Lib.indexByte l 10=k->bp l=l.take k::bp (l.drop (k+1))
 | [],k,h=>by simp[Lib.indexByte]at h
 | b::l,k,h=>by
  have hr:=jr l;unfold Lib.indexByte at h
  split at h
  ·rename_i hb
   obtain rfl:k=0:=ae;rw[bp,if_pos hb];simp
  rename_i hb
  split at h
  ·omega
  rename_i hi;simp at hi;obtain⟨m,rfl⟩:∃m,k=m+1:=⟨k-1,ae⟩;have:=mC l m ae;rw[bp,if_neg hb,this];simp
def bg(s:BAz):List ByteArray:=(bp s.data.toList).map fun l=>⟨l.toArray⟩
variable {a b:BAz}
theorem vZ(h:a.data.toList=b.data.toList):a=b:=by
 cases a; cases b; congr; exact Array.toList_inj.1 h
theorem oX(a:BAz):a.size=a.data.toList.length:=Zab.symm
theorem Ds(s:BAz)(k:Nat):s.extract 0 k=⟨(s.data.toList.take k).toArray⟩:=by
 apply vZ; simp[ByteArray.data_extract,Array.toList_extract]
theorem Cu(s:BAz)(k:Nat):s.extract k s.size=⟨(s.data.toList.drop k).toArray⟩:=by
 apply vZ;simp[ByteArray.data_extract,Array.toList_extract];rw[ZY];have:=oX s;simp only[List.length_drop];omega
theorem rR(s:BAz)(h:Lib.indexByte s.data.toList 10=-1):bg s=[s]:=by
 simp[bg,mK _ h]
theorem rW(s:BAz)(k:Nat)(h:Lib.indexByte s.data.toList 10=k):bg s=s.extract 0 k::bg (s.extract (k+1) s.size):=by
 rw[Ds,Cu];simp[bg,mC _ k h]
theorem mA:∀(l:Zaj)(p:Zaj),p∈bp l->p.length<=l.length
 | [],p,h=>by simp[bp]at h; simp[h]
 | b::l,p,h=>by
  have ih:=mA l;unfold bp at h
  split at h
  ·exact Ff
  exact Gk
theorem rS(s p:BAz)(h:p∈bg s):p.size<=s.size:=by
 unfold bg at h;obtain⟨l,hl,rfl⟩:=List.mem_map.1 h;have:=mA _ _ hl;rw[oX,oX];exact cR
theorem MI(n l b1 b2 b3:Nat)(h12:b1≠b2)(h32:b3≠b2)(s:BAz)(J:List ByteArray->World->Prop)(Jp:List PanicEntry->World->Prop)
  (hJ:∀r A v,J r A->J r (A.setCell ⟨b2,0,none⟩ v))
  (hY:∀x r A,J (x::r) A->YieldAt Fence.wide (n-1) prog l #[.string x] A fun e B=>(e=.returned (.bool true)/\J r B/\eN [⟨b1,0,none⟩,⟨b2,0,none⟩,⟨b3,0,none⟩] A B)\/(∃ch,e=.panicked ch/\Jp ch B))
  (W:World) (c1:W.cell? ⟨b1,0,none⟩=some (.string ⟨#[10]⟩)) (c2:W.cell? ⟨b2,0,none⟩=some (.string s)) (f2:W.frozen? ⟨b2,0,none⟩=false) (c3:W.cell? ⟨b3,0,none⟩=some (.int .i64 0)) (h0:J (bg s) W) (hsz:s.size<=1099511627776) :
  CallsIn Fence.wide n prog 174 #[.func (.yield l) #[] #[],.pointer (some ⟨b1,0,none⟩),.pointer (some ⟨b2,0,none⟩),.pointer (some ⟨b3,0,none⟩)] W fun e B=>((∃v,e=.returned v)/\J [] B)\/(∃ch,e=.panicked ch/\Jp ch B):=by
 refine callsIn_of_wp func174 rfl trivial ?_ rfl;simp only[ntmps174,List.size_toArray,Z1,List.length_nil,Nat.reduceAdd,Nat.reduceSub,Array.replicate_succ,Array.replicate_zero,List.push_toArray,List.append_toArray,List.nil_append,List.cons_append]
 gi_wp2
 gi_loopw [] (fun wr=>∃s:ByteArray,wr.cell? ⟨b1,0,none⟩=some (.string ⟨#[10]⟩)/\wr.cell? ⟨b2,0,none⟩=some (.string s)/\wr.frozen? ⟨b2,0,none⟩=false/\wr.cell? ⟨b3,0,none⟩=some (.int .i64 0)/\J (bg s) wr/\s.size<=1099511627776)
  (fun wr=>(uG wr ⟨b2,0,none⟩).size)
 case atStart=>exact⟨s,c1,c2,f2,c3,h0,hsz⟩
 case round =>
  clear c1 c2 f2 c3 h0 hsz;obtain⟨s,c1,c2,f2,c3,hj,hsz⟩:=hrel;have hI:=callsIn_wide (n:=n-1).2 (Ru s wr)
  rcases jr s.data.toList with hneg | ⟨hge,hlt⟩
  ·rw[hneg]at hI;rw[rR s hneg]at hj;obtain⟨fn,tmps,assign,body,hy,hR⟩:=hY s [] wr hj
   gi_wp2_with fail
   refine⟨trivial,(fun h=>nomatch h),?_⟩;refine hI.mono ?_;rintro e w' ⟨rfl,rfl⟩
   gi_wp2_with fail
   refine⟨(fun h=>nomatch h),?_⟩;refine hR.mono ?_;rintro e W3 (⟨rfl,hJ3,hk3⟩ | ⟨ch,rfl,i'⟩)
   ·gi_wp2_with fail
    go_end0;exact .inl ⟨⟨_,rfl⟩,hJ3⟩
   exact⟨rfl,.inr ⟨ch,rfl,i'⟩⟩
  obtain⟨k,hk⟩:∃k:Nat,Lib.indexByte s.data.toList 10=k:=⟨(Lib.indexByte s.data.toList 10).toNat,ae⟩;rw[hk]at hI hlt;rw[<- cQ]at hlt;rw[rW s k hk]at hj;obtain⟨fn,tmps,assign,body,hy,hR⟩:=hY _ _ wr hj;have k0:(0:Int)<=k:=ae;have k1:(k:Int)<s.size:=ae;have k2:(s.size:Int)<=1099511627776:=ae;have k3:wrap64 (k:Int)=k:=dV;have k4:wrap64 ((k:Int)+1)=k+1:=dV
  gi_wp2_with fail
  refine⟨trivial,(fun h=>nomatch h),?_⟩;refine hI.mono ?_;rintro e w' ⟨rfl,rfl⟩
  gi_wp2_with fail
  refine⟨(fun h=>nomatch h),?_⟩;refine hR.mono ?_;rintro e W3 (⟨rfl,hJ3,hk3⟩ | ⟨ch,rfl,i'⟩)
  ·exact Mv
  exact⟨rfl,.inr ⟨ch,rfl,i'⟩⟩
theorem Mi(n b1 b2 b3:Nat)(h12:b1≠b2)(h32:b3≠b2)(s:BAz)(W:World)(c1:W.cell? (ZA b1 0)=some (.string ⟨#[10]⟩))(c2:W.cell? (ZA b2 0)=some (.string s))(f2:W.frozen? (ZA b2 0)=false)(c3:W.cell? (ZA b3 0)=some (ZI 0))(hsz:s.size<=1099511627776) :
  MQ Fence.wide n prog 174 #[ZP b1 0,ZP b2 0,ZP b3 0] (fun x:ByteArray=>#[.string x]) (ZA b2 0) [(ZA b1 0),(ZA b2 0),(ZA b3 0)] (bg s) W:=fun l J Jp W1 hk hJ hY h0=>by
 obtain⟨d1,_⟩:=hk _ av _ c1;obtain⟨d2,e2⟩:=hk _ av _ c2;obtain⟨d3,_⟩:=hk _ av _ c3;exact MI n l b1 b2 b3 h12 h32 s J Jp hJ hY W1 d1 d2 (e2.trans f2) d3 h0 hsz
theorem BK(s:BAz)(w:World) :
  Zw 55 #[.string s,.string ⟨#[10]⟩] w fun e w'=>e=.returned (.func (.func 174) #[] #[.pointer (some ⟨w.heap.size+1,0,none⟩),.pointer (some ⟨w.heap.size,0,none⟩),.pointer (some ⟨w.heap.size+2,0,none⟩)]) /\
   w'=((w.alloc (cA s)).alloc (cA ⟨#[10]⟩)).alloc (bR 0):=by
 go_enter func55,ntmps55
 go_wp2;go_ret;exact⟨rfl,rfl⟩
open Go.RowKit
theorem yu(w:World):Zw 53 #[.nilIface] w (ZC (.tuple #[.agg #[ZI 0],.bool false]) w):=by
 have BN:=hid (aj w (ue 0));go_enter func53,ntmps53
 go_wp2_with fail;refine i4 (v:=.tuple #[.agg #[ZI 0],.bool false]) ?_ rfl ⟨rfl,BN.out⟩;exact kG
theorem O9(x:Int)(w:World):Zw 53 #[.iface 119 (.agg #[ZI x])] w (ZC (.tuple #[.agg #[ZI x],.bool true]) w):=by
 have Up:∀(v:Value)(w:World),(Instr.typeAssert (.iface 119 v) 20 119 true).run prog w=.ok (.tuple #[v,.bool true]) w:=fun _ _=>rfl;go_enter func53,ntmps53
 go_wp2_with fail;refine i4 (v:=.tuple #[.agg #[ZI x],.bool true]) ?_ rfl ⟨rfl,?_⟩
 ·exact kG
 exact((ZT _ w).alloc lRn _).alloc av _
theorem Xj(A B C:Nat)(w:World) :
  CallsD prog 52 #[ZP A 0,ZP B 0,ZP C 0] .returning w fun e u' w'=>e=.returned (.tuple #[])/\u'=.returning/\Zx w w':=by
 have HC:=hid (yu w);refine callsD_of_wpS func52 rfl fun c₀ cs hu=>?_;apply wpS_seq;apply wpS_region;simp[wpOpsS,go_sem,recoverD,hu,ntmps52,Exit.thenS];refine HC.out.mono ?_;rintro e w1⟨rfl,hb1⟩;have BN:=hid (jJ hb1 (aj w1 (ue 0)));simp[go_sem,Array.replicate];refine wpS_of_wp ?_;go_wp2_with fail
 cases c₀
 simp_all [bodyPostS,results,results52];exact BN.out
variable {w:World}{A:Nat}{t:TypeId}{u0 u1 u2 u3 u4 u5 u6 u7:Value}
theorem Tg(v0 v1 v2 v3 v4 v5 v6 v7:Value)(h:w.heap[A]? =some (.cells #[u0,u1,u2,u3,u4,u5,u6,u7] t)) :
  ((((((((w.setCell (ZA A 0) v0).setCell (ZA A 1) v1).setCell (ZA A 2) v2).setCell (ZA A 3) v3).setCell (ZA A 4) v4).setCell (ZA A 5) v5).setCell (ZA A 6) v6).setCell (ZA A 7) v7).heap[A]? =some (.cells #[v0,v1,v2,v3,v4,v5,v6,v7] t)/\Kept (fun k=>k=A) w ((((((((w.setCell (ZA A 0) v0).setCell (ZA A 1) v1).setCell (ZA A 2) v2).setCell (ZA A 3) v3).setCell (ZA A 4) v4).setCell (ZA A 5) v5).setCell (ZA A 6) v6).setCell (ZA A 7) v7):=by
 have h0:=aT (i:=0) (u:=v0) h;simp only[sIB,sC0]at h0;have h1:=aT (i:=1) (u:=v1) h0;simp only[sIB,sC0,sCs]at h1;have h2:=aT (i:=2) (u:=v2) h1;simp only[sIB,sC0,sCs]at h2;have h3:=aT (i:=3) (u:=v3) h2;simp only[sIB,sC0,sCs]at h3;have h4:=aT (i:=4) (u:=v4) h3;simp only[sIB,sC0,sCs]at h4;have h5:=aT (i:=5) (u:=v5) h4;simp only[sIB,sC0,sCs]at h5;have h6:=aT (i:=6) (u:=v6) h5;simp only[sIB,sC0,sCs]at h6;have h7:=aT (i:=7) (u:=v7) h6;simp only[sIB,sC0,sCs]at h7;refine⟨h7,?_⟩;exact(((((((aB w A 0 v0).trans (aB _ A 1 v1)).trans (aB _ A 2 v2)).trans (aB _ A 3 v3)).trans (aB _ A 4 v4)).trans (aB _ A 5 v5)).trans (aB _ A 6 v6)).trans (aB _ A 7 v7)
theorem TU(x:Int)(A B C:Nat)(bv cv:Value)(w:World)(ha:w.heap[A]? =some (.cells zV 29))(hb:w.cell? (ZA B 0)=some bv)(hbf:w.frozen? (ZA B 0)=false)(hc:w.cell? (ZA C 0)=some cv)(hcf:w.frozen? (ZA C 0)=false)(hAB:A≠B)(hAC:A≠C)(hBC:B≠C) :
  CallsD prog 52 #[ZP A 0,ZP B 0,ZP C 0] (.panicking ({ v:=.iface 119 (.agg #[ZI x]),recovered:=false }::[])) w fun e u' w' =>
   e=.returned (.tuple #[])/\u'=.panicking ({ v:=.iface 119 (.agg #[ZI x]),recovered:=true }::[])/\w'.heap[A]? =some (.cells zV 29)/\w'.cell? (ZA B 0)=some (ZI 22)/\w'.cell? (ZA C 0)=some (ZI x)/\Kept (fun k=>k=A\/k=B\/k=C) w w':=by
 have HC:=hid (O9 x w);have hAl:A<w.heap.size:=aK ha;have hBl:B<w.heap.size:=ZQ hb;have hCl:C<w.heap.size:=ZQ hc;refine callsD_of_wpS func52 rfl fun c₀ cs hu=>?_;apply wpS_seq;apply wpS_region;simp[wpOpsS,go_sem,recoverD,hu,ntmps52,Exit.thenS];refine HC.out.mono ?_;rintro e w1⟨rfl,hb1⟩;have BN:=aj w1 (ue x);have n0:(w1.alloc (ue x)).cell? (ZA w1.heap.size 0)=some (ZI x):=dB;have ya:=(BN.block A (Z8 hAl hb1.size)).trans ((hb1.block A hAl).trans ha);have y0:=(BN.cell (p:=(ZA B 0)) (Z8 hBl hb1.size)).trans ((hb1.cell oq).trans hb);have y1:=(BN.frozen (p:=(ZA B 0)) (Z8 hBl hb1.size)).trans ((hb1.frozen oq).trans hbf);have y2:=(BN.cell (p:=(ZA C 0)) (Z8 hCl hb1.size)).trans ((hb1.cell oG).trans hc);have y3:=(BN.frozen (p:=(ZA C 0)) (Z8 hCl hb1.size)).trans ((hb1.frozen oG).trans hcf);have K2:=hid ((bC (S:=fun k=>k=A\/k=B\/k=C) hb1).trans (bC BN));have hz1:=hb1.size;have io:A≠w1.heap.size:=ae;have hB1:B≠w1.heap.size:=ae;have hC1:C≠w1.heap.size:=ae;simp[go_sem,Array.replicate];refine wpS_of_wp ?_;clear HC hb hbf hc hcf BN;go_wp2_with fail;generalize w1.alloc (ue x)=W at *;have ed:Zx W W.drew:=(ZT _ _).drew;have hd:Hid (W.drew=W.drew):=hid rfl;refine ZX (S:=fun V=>V.cell? (ZA w1.heap.size 0)=some (ZI x)) ak (by show W.drew.cell? _=_; exact n0) (fun hS=>?_);have ya':W.drew.heap[A]? =some (.cells zV 29):=ya;have y0':W.drew.cell? (ZA B 0)=some bv:=y0;have y1':W.drew.frozen? (ZA B 0)=false:=y1;have y2':W.drew.cell? (ZA C 0)=some cv:=y2;have y3':W.drew.frozen? (ZA C 0)=false:=y3;have K3:=hid (K2.out.trans (Kept.drewN _ _ 1));have K4:Hid (Kept (fun k=>k=A\/k=B\/k=C) w W.drew):=K3
 clear ya y0 y1 y2 y3 n0 K2 K3 ed hd;generalize W.drew=Wd at *;obtain⟨⟨m0,m1,m2,m3,m4,m5,m6,m7⟩,g0,g1,g2,g3,g4,g5,g6,g7⟩:=ax ya';refine Zt 0 ?_;refine Zt 1 ?_;refine Zt 2 ?_;refine ZR 3 fun K hK=>?_;go_simp;obtain⟨p1,p2⟩:=Tg (ZN) (ZN) (ZN) (ZI 0) (ZI 0) (ZN) (ZN) (ZN) ya';refine hK.out _ _ (p2.cell hS (fun e=>io (Eq.symm e))) (fun hS2=>?_);clear hK K m0 m1 m2 m3 m4 m5 m6 m7 g0 g1 g2 g3 g4 g5 g6 g7 ya';have z0:=p2.cell y0' (fun e=>hAB (Eq.symm e));have z1:=(aS (p2.block B (ZQ y0') (fun e=>hAB (Eq.symm e))) 0).trans y1';have z2:=p2.cell y2' (fun e=>hAC (Eq.symm e));have z3:=(aS (p2.block C (ZQ y2') (fun e=>hAC (Eq.symm e))) 0).trans y3';have K5:=hid (K4.out.then p2 (fun k _ h=>.inl h));clear p2 y0' y1' y2' y3' K4 hS;generalize ((((((((Wd.setCell (ZA A 0) (ZN)).setCell (ZA A 1) (ZN)).setCell (ZA A 2) (ZN)).setCell (ZA A 3) (ZI 0)).setCell (ZA A 4) (ZI 0)).setCell (ZA A 5) (ZN)).setCell (ZA A 6) (ZN)).setCell (ZA A 7) (ZN))=W3 at *;refine ZR 4 fun K hK=>?_;go_simp;have t1:=World.cell?_setCell_same W3 (ZA B 0) (ZI 22) z0;have t2:=aB W3 B 0 (ZI 22);refine hK.out _ _ (t2.cell hS2 (fun e=>hB1 (Eq.symm e))) (fun hS3=>?_);clear hK K z0 z1 hS2;have q1:=(t2.block A (aK p1) hAB).trans p1;have q2:=t2.cell z2 (fun e=>hBC (Eq.symm e));have q3:=(aS (t2.block C (ZQ z2) (fun e=>hBC (Eq.symm e))) 0).trans z3;have K6:=hid (K5.out.then t2 (fun k _ h=>.inr (.inl h)));clear p1 t2 z2 z3 K5;generalize W3.setCell (ZA B 0) (ZI 22)=W4 at *;refine ZR 5 fun K hK=>?_;go_simp;have r1:=World.cell?_setCell_same W4 (ZA C 0) (ZI x) q2;have r2:=aB W4 C 0 (ZI x);refine hK.out _ _ (r2.cell hS3 (fun e=>hC1 (Eq.symm e))) (fun hS4=>?_);clear hK K;have HA:=hid ((r2.block A (aK q1) hAC).trans q1);have HBc:=hid (r2.cell t1 hBC);have HCc:=hid r1;have K7:=hid (K6.out.then r2 (fun k _ h=>.inr (.inr h)));refine Z4 ak ?_ _;exact⟨rfl,_,rfl,_,results_none rfl _ _ _,rfl,rfl,HA.out,HBc.out,HCc.out,K7.out⟩
def LvK(P:Program)(fn:Func)(tmps:AVz)(R:Ending->World->Prop)(ds:List Deferred)(u:FrameMode)(w:World):Prop :=
 Go.Leaves P fn tmps R ds u w\/∃D es w',ds={ target:=.collected D,args:=#[] }::es/\(Instr.takeDeferred D).run P w=.ok [] w'/\Go.Leaves P fn tmps R es u w'
def J2(P:Program)(fn:Func)(R:Ending->World->Prop):Exit->Act->World->Prop
 | .normal,a,w | .ret,a,w=>LvK P fn a.tmps R a.defers .returning w
 | .panic chain,a,w=>LvK P fn a.tmps R a.defers (.panicking chain) w
 | .outgrown,_,w=>R .outgrown w
 | _,_,_=>False
variable {P:Program}{fn:Func}{tmps:AVz}
theorem ry{R:Ending->World->Prop}{ds:List Deferred}{u:FrameMode}{fr:Frame}{cs:List Frame}(hm:fr.mode=u)(hu:u≠.run)(hd:fr.defers=ds)(ht:fr.tmps=tmps)(hf:P.funcs[fr.fn]? =some fn)(hk:fr.kind=.normal)(h:LvK P fn tmps R ds u w) :
  ∃e w' fr',R e w'/\Comes P (lone fr cs w) (lone fr' cs w') e/\fr'.fn=fr.fn/\fr'.leaving P w' e:=by
 rcases h with h | ⟨D,es,w1,rfl,htake,h⟩
 ·exact leaves_steps ds u w fr cs hm hd ht hf hk h
 have h1:=step_collected (P:=P) (cs:=cs) (hm ▸ hu) hd rfl htake;obtain⟨e,w',fr',hR,hs,hfn,hl⟩:=leaves_steps es u w1 { fr with defers:=[]++es } cs hm rfl ht hf hk h;exact⟨e,w',fr',hR,Comes.of_steps (.one h1) hs,hfn,hl⟩
variable {n:Nat}{args:AVz}
theorem jI{f:FuncId}{c:Code}{R:Ending->World->Prop}(hf:P.funcs[f]? =some fn)(hb:fn.body=some c)
  (h:c.wpIn Fence.wide n P (J2 P fn R) { tmps:=args++Array.replicate (fn.ntmps-args.size) undef,defers:=[] } w):Calls P f args w R:=by
 intro cs
 let b:Frame:={ (default:Frame) with fn:=f,kind:=.normal,roundOf:=none }
 have henter:Frame.enter P f args .normal=b.atR { tmps:=args++Array.replicate (fn.ntmps-args.size) undef,defers:=[] } [.code c]:=by
  simp[Frame.enter,Frame.atR,hf,hb,b]
 obtain⟨e,a',w',hq,harr⟩:=h b [] cs rfl trivial (room_wide _);rw[<- henter]at harr
 cases e with
 | normal =>
  obtain⟨e',w'',fr',hR,hs,hfn,hl⟩:=ry (fr:={ b.atR a' []with mode:=.returning }) (cs:=cs) rfl av rfl rfl hf rfl hq;exact⟨e',w'',fr',hR,Comes.of_steps (Steps.trans (stepsIn_wide.1 harr) (.one (stepR_end rfl))) hs,hfn,hl⟩
 | ret =>
  obtain⟨todo,hs₀⟩:=harr.1 rfl;obtain⟨e',w'',fr',hR,hs,hfn,hl⟩:=ry (fr:={ b.atR a' todo with mode:=.returning }) (cs:=cs) rfl av rfl rfl hf rfl hq;exact⟨e',w'',fr',hR,Comes.of_steps (stepsIn_wide.1 hs₀) hs,hfn,hl⟩
 | panic chain =>
  obtain⟨todo,hs₀⟩:=harr;obtain⟨e',w'',fr',hR,hs,hfn,hl⟩:=ry (fr:={ b.atR a' todo with mode:=.panicking chain }) (cs:=cs) rfl av rfl rfl hf rfl hq;exact⟨e',w'',fr',hR,Comes.of_steps (stepsIn_wide.1 hs₀) hs,hfn,hl⟩
 | exit id=>exact hq.elim
 | goto l=>exact hq.elim
 | outgrown=>exact⟨.outgrown,w',b,hq,harr.resolve_left (by simp[b]),rfl,trivial⟩
variable {S:Zam}{base R:Nat}{mp:Value}{m:MM}{ln pt:Int}{w':World}
theorem RQ.keptS(h:RQ base R mp m ln pt w)(hk:Kept S w w')(hR:¬S R)(hS:∀k cs t,base<=k->w.heap[k]? =some (.cells cs t)->¬S k):RQ base R mp m ln pt w':=by
 have ho:∀{e k n:Nat} {v:Value} {xs:Zah},w.ownsRow base e k v n xs->w'.ownsRow base e k v n xs:=fun {e k n v xs} h=>cf h hk (fun b hb hs=>by
  obtain⟨h1,cur,h2⟩:=dN h hb;exact hS b _ _ h1 h2 hs)
 exact⟨(hk.block R (aK h.blk) hR).trans h.blk,h.low,ZW h.bw hk.size,ho h.rt,ho h.rh,ho h.rg,ho h.rf,ho h.rd,ho h.re,fun x hx=>⟨ho (h.fo x hx).code,fun y hy=>ho ((h.fo x hx).lab y hy)⟩,h.fd,fun x hx=>ho (h.dd x hx),h.nf,h.di⟩
def mm0:MM:={ ta:=none,tn:=0,tc:=0,types:=[],ha:=none,hn:=0,hc:=0,hosts:=[],ga:=none,gn:=0,gc:=0,globals:=[],fi:=0,mo:=0,fa:=none,fn:=0,fc:=0,fns:=[],da:=none,dn:=0,dc:=0,data:=[],ea:=none,en:=0,ec:=0,exps:=[] }
theorem dt(w:World)(base e k:Nat):w.ownsRow base e k (ZN) 0 []:=⟨av,.inl ⟨rfl,rfl⟩⟩
theorem RQ.zero(h:w.heap[R]? =some (.cells (lU mp mm0 0 0) 126))(hR:R<base)(hb:base<=w.heap.size):RQ base R mp mm0 0 0 w :=
 ⟨h,hR,hb,dt _ _ _ _,dt _ _ _ _,dt _ _ _ _,dt _ _ _ _,dt _ _ _ _,dt _ _ _ _,(fun x hx=>fG),(fun i j x y k hx=>by simp[mm0]at hx),(fun x hx=>fG),fun _=>rfl,⟨I3,List.Pairwise.nil⟩⟩
def Core(base R:Nat)(mp:Value)(m:MM)(ln pt:Int)(w:World):Prop :=
 RQ base R mp m ln pt w\/(w.heap.size<base/\m=mm0/\ln=0/\pt=0/\w.heap[R]? =some (.cells (lU mp mm0 0 0) 126))
theorem Core.rq(h:Core base R mp m ln pt w)(hb:base<=w.heap.size):RQ base R mp m ln pt w:=by
 rcases h with h | ⟨h,_⟩
 ·exact h
 omega
theorem Core.keptS(h:Core base R mp m ln pt w)(hk:Kept S w w')(hb:R<base)(hR:¬S R)(hS:∀k cs t,base<=k->w.heap[k]? =some (.cells cs t)->¬S k):Core base R mp m ln pt w':=by
 rcases h with h | ⟨h1,rfl,rfl,rfl,h2⟩
 ·exact .inl (h.keptS hk hR hS)
 have h3:=(hk.block R (aK h2) hR).trans h2
 by_cases hb2:base<=w'.heap.size
 ·exact .inl (RQ.zero h3 hb hb2)
 exact .inr ⟨ae,rfl,rfl,rfl,h3⟩
variable {W W':World}
theorem Dp{row:Option Nat}(h:W.grownBy W' row):Kept (fun k=>row=some k) W W':=⟨h.os,h.tape,h.output,h.size,fun k hk hs=>h.block k hk (fun e=>hs e.symm)⟩
set_option maxHeartbeats 8000000
abbrev KW(R:Nat)(W0 W:World):Prop:=Kept (fun k=>k=R\/k=R+2\/W0.heap.size<=k) W0 W
def LpI(R KB:Nat)(W0:World)(n:Nat)(V:Int×Option (Int×PM))(r:Zai)(W:World):Prop :=
 KW R W0 W/\(∀x∈r,x.size<=2097152)/\∃m ln pt,Core (R+7) R (.map (some KB)) m ln pt W/\PR (pl m)/\(pt=6->m.fns≠[])/\0<=ln/\ln+r.length=n/\(psz (pl m):Int)<=ln/\iO ln pt (pl m) r=V
def LpP(R:Nat)(W0:World)(V:Int×Option (Int×PM))(ch:List PanicEntry)(W:World):Prop :=
 KW R W0 W/\V.2=none/\ch=[{ v:=.iface 119 (.agg #[ZI V.1]),recovered:=false }]
theorem UZ(R KB:Nat)(W0:World)(n:Nat)(V:Int×Option (Int×PM))(hz:W0.heap.size=R+5):OwnFrom W0.heap.size (LpI R KB W0 n V):=by
 rintro r W W' row ⟨hk,hx,m,ln,pt,hc,h⟩ hg hr;have hk2:=Dp hg;refine⟨hk.then hk2 (fun k _ e=>.inr (.inr (hr k e).1)),hx,m,ln,pt,?_,h⟩;refine hc.keptS hk2 ae (fun e=>by have:=(hr R e).1; omega) (fun k cs t _ hk3 e=>?_);obtain⟨_,o,ho,hn⟩:=hr k e;rw[hk3]at ho
 cases ho
 simp[Obj.isCells]at hn
theorem Ta(R KB:Nat)(W0:World)(n:Nat)(V:Int×Option (Int×PM))(r:Zai)(A:World)(v:Value)(h:LpI R KB W0 n V r A):LpI R KB W0 n V r (A.setCell (ZA (R+2) 0) v):=by
 obtain⟨hk,hx,m,ln,pt,hc,h⟩:=h;have hk2:=aB A (R+2) 0 v;exact⟨hk.then hk2 (fun k _ e=>.inr (.inl e)),hx,m,ln,pt,hc.keptS hk2 ae (fun e=>ae) (fun k _ _ hb _ e=>ae),h⟩
variable {B KB:Nat}{W0:World}{x:BAz}{r:Zai}
theorem TF{V:Int×Option (Int×PM)}(hz:W0.heap.size=R+5)(hn:n<=2097152)(hE:cY B W0)(Fo:B<=R)(hK:W0.heap[KB]? =some (.map kdE 8))(hKR:KB<R)
  (hsz:W0.heap.size+2<=W.heap.size) (h:LpI R KB W0 n V (x::r) W) :
  Zw 56 #[ZP R 0,.string x] W fun e W'=>(∃v,e=.returned v/\(∀k,W0.heap.size<=k->k<W0.heap.size+2->W'.heap[k]? =W.heap[k]?)/\eN [(ZA (R+3) 0),(ZA (R+2) 0),(ZA (R+4) 0)] W W'/\LpI R KB W0 n V r W') \/
   (∃ch,e=.panicked ch/\(∀k,W0.heap.size<=k->k<W0.heap.size+2->W'.heap[k]? =W.heap[k]?)/\LpP R W0 V ch W'):=by
 obtain⟨hk,hx,m,ln,pt,hc,tw,hne,hl0,hl,hps,hV⟩:=h;have hq:=hc.rq ae
 have hbl:Below B W0 W:=⟨hk.os,hk.tape,hk.output,hk.size,fun k hk'=>hk.block k (by have:=hE.bw; omega) (fun e=>by rcases e with e | e | e <;> omega)⟩
 have hxs:=hx x av;simp only[Z1]at hl
 refine(WN x hq hxs ⟨hl0,ae⟩ (hE.later hbl) Fo ae hne ((hk.block KB ae (fun e=>by rcases e with e | e | e <;> omega)).trans hK) ae ae).mono ?_
 rintro e W' ⟨hkr,hres⟩
 have hsame:∀k,W0.heap.size<=k->k<W0.heap.size+2->W'.heap[k]? =W.heap[k]?:=fun k h1 h2=>hkr.block k ae (fun e=>by rcases e with e | e <;> omega)
 have hkk:KW R W0 W':=hk.then hkr (fun k _ e=>by rcases e with e | e; exact .inl e; exact .inr (.inr ae));unfold iO at hV
 cases ht:gh pt (pl m) x with
 | none =>
  rw[ht]at hres hV;have hres:e=thL (ln+1):=hres;subst hres;dsimp only at hV;subst hV;exact .inr ⟨_,rfl,hsame,hkk,rfl,rfl⟩
 | some y =>
  obtain⟨p',M'⟩:=y;rw[ht]at hres hV;obtain⟨rfl,m',hq',rfl⟩:=hres;dsimp only at hV;have hst:=Fa ht tw (fun e=>by have:=hne e; unfold pl; simpa using this) hxs;refine .inl ⟨_,rfl,hsame,?_,hkk,fun y hy=>hx y (by simp[hy]),m',ln+1,p',.inl hq',hst.pr,fun e=>Ih,ae,ae,by have:=hst.sz; omega,hV⟩;intro p hp v hv;have hlt:=ZQ hv
  have hb:∀k,k<R+7->k≠R->k<W.heap.size->W'.heap[k]? =W.heap[k]?:=fun k h1 h2 h3=>hkr.block k h3 (fun e=>by rcases e with e | e <;> omega)
  simp only[List.mem_cons,List.not_mem_nil,or_false]at hp
  rcases hp with rfl | rfl | rfl
  ·have h5:=hb (R+3) ae ae hlt;exact yQ
  ·have h5:=hb (R+2) ae ae hlt;exact yQ
  have h5:=hb (R+4) ae ae hlt;exact yQ
set_option maxHeartbeats 16000000
theorem od:∀(l:Zaj),(bp l).length<=l.length+1
 | []=>by simp[bp]
 | b::l=>by
  have ih:=od l;unfold bp
  split
  ·simp; omega
  split
  ·simp
  rename_i p r h;rw[h]at ih;simp at ih ⊢;omega
theorem jM(s:BAz):(bg s).length<=s.size+1:=by
 unfold bg;rw[List.length_map];have:=od s.data.toList;have e:s.data.toList.length=s.size:=Zab;omega
def rt3(v:AVz)(e l:Int):Ending:=.returned (.tuple #[.agg v,ZI e,ZI l])
theorem RQ.len(h:RQ base R mp m ln pt w):LnM m :=
 ⟨(cE (g:=iy) (fun _=>rfl) au h.rt).symm,(cE (g:=fJ) (fun _=>rfl) au h.rh).symm,(cE (g:=fQ) (fun _=>rfl) au h.rg).symm,(cE (g:=dA) (fun _=>rfl) au h.rf).symm,(cE (g:=iD) (fun _=>rfl) au h.rd).symm,(cE (g:=jV) (fun _=>rfl) au h.re).symm⟩
def vp(s:BAz)(w:World)(e:Ending)(w':World):Prop :=
 Zx w w'/\(1048576<s.size->e=rt3 zV 13 0) /\
 (s.size<=1048576->∀l o,iO 0 0 pm0 (bg s)=(l,o)->(o=none->e=rt3 zV 22 l) /\
  ∀p M,o=some (p,M)->(p<5->e=rt3 zV 22 l)/\(5<=p->∃m,pl m=M/\LnM m/\PR M/\(cJ m≠0->e=rt3 zV (cJ m) 0)/\(cJ m=0->e=rt3 (mV m) 0 0/\∃base R mp ln,w.heap.size<=R/\RQ base R mp m ln p w')))
structure YS(s:BAz)(w W0:World)(R:Nat):Prop where
 z:W0.heap.size=R+5
 lo:w.heap.size+3<R
 below:Zx w W0
 a:W0.heap[w.heap.size]? =some (.cells zV 29)
 b:W0.heap[w.heap.size+1]? =some (dQ 0)
 c:W0.heap[w.heap.size+2]? =some (bR 0)
 k:W0.heap[w.heap.size+3]? =some (.map kdE 8)
 r:W0.heap[R]? =some (.cells (lU (.map (some (w.heap.size+3))) mm0 0 0) 126)
 v:W0.heap[R+1]? =some (qY (some (ZA R 0)))
 s2:W0.heap[R+2]? =some (cA s)
 s1:W0.heap[R+3]? =some (cA ⟨#[10]⟩)
 s3:W0.heap[R+4]? =some (bR 0)
def wA(w:World):World:=((w.alloc (.cells zV 29)).alloc (dQ 0)).alloc (bR 0)
def wB(s:BAz)(w w1:World):World:=((((w1.alloc (.cells (lU (.map (some (w.heap.size+3))) mm0 0 0) 126)).alloc (qY (some (ZA w1.heap.size 0)))).alloc (cA s)).alloc (cA ⟨#[10]⟩)).alloc (bR 0)
theorem Sz(w:World):(wA w).heap.size=w.heap.size+3:=by simp[wA]
theorem Um(w:World):(wA w).heap[w.heap.size]? =some (.cells zV 29)/\(wA w).heap[w.heap.size+1]? =some (dQ 0)/\(wA w).heap[w.heap.size+2]? =some (bR 0)/\Zx w (wA w):=by
 refine⟨?_,?_,?_,(((ZT _ w).alloc av _).alloc bI _).alloc bI _⟩
 ·unfold wA;rw[(aj ((w.alloc (.cells zV 29)).alloc (dQ 0)) _).block _ bI,(aj (w.alloc (.cells zV 29)) _).block _ av];exact hZn w _
 ·unfold wA;rw[(aj ((w.alloc (.cells zV 29)).alloc (dQ 0)) _).block _ av]
  have:=hZn (w.alloc (.cells zV 29)) (dQ 0);exact cR
 have:=hZn ((w.alloc (.cells zV 29)).alloc (dQ 0)) (bR 0)
 simpa[wA] using this
theorem XS(s:BAz)(w w1:World)(hm:w1.heap[w.heap.size+3]? =some (.map kdE 8))(hb:Below (w.heap.size+3) (wA w) w1):YS s w (wB s w w1) w1.heap.size:=by
 obtain⟨a1,a2,a3,a4⟩:=Um w;have z:=Sz w;have hz:=hb.size;have hlt:=aK hm;have B1:Zx w1 (wB s w w1):=(((((ZT _ w1).alloc av _).alloc bI _).alloc bI _).alloc bI _).alloc bI _;obtain⟨y0,hy0⟩:∃y,w1.alloc (.cells (lU (.map (some (w.heap.size+3))) mm0 0 0) 126)=y:=⟨_,rfl⟩;obtain⟨y1,hy1⟩:∃y,y0.alloc (qY (some (ZA w1.heap.size 0)))=y:=⟨_,rfl⟩;obtain⟨y2,hy2⟩:∃y,y1.alloc (cA s)=y:=⟨_,rfl⟩;obtain⟨y3,hy3⟩:∃y,y2.alloc (cA ⟨#[10]⟩)=y:=⟨_,rfl⟩;obtain⟨y4,hy4⟩:∃y,y3.alloc (bR 0)=y:=⟨_,rfl⟩
 have e:wB s w w1=y4:=by unfold wB; rw[hy0,hy1,hy2,hy3,hy4]
 have z0:y0.heap.size=w1.heap.size+1:=by rw[<- hy0]; simp
 have z1:y1.heap.size=w1.heap.size+2:=by rw[<- hy1]; simp[z0]
 have z2:y2.heap.size=w1.heap.size+3:=by rw[<- hy2]; simp[z1]
 have z3:y3.heap.size=w1.heap.size+4:=by rw[<- hy3]; simp[z2]
 have z4:y4.heap.size=w1.heap.size+5:=by rw[<- hy4]; simp[z3]
 have c0:y0.heap[w1.heap.size]? =some (.cells (lU (.map (some (w.heap.size+3))) mm0 0 0) 126):=by rw[<- hy0]; exact hZn _ _
 have c1:y1.heap[w1.heap.size+1]? =some (qY (some (ZA w1.heap.size 0))):=by rw[<- hy1,<- z0]; exact hZn _ _
 have c2:y2.heap[w1.heap.size+2]? =some (cA s):=by rw[<- hy2,<- z1]; exact hZn _ _
 have c3:y3.heap[w1.heap.size+3]? =some (cA ⟨#[10]⟩):=by rw[<- hy3,<- z2]; exact hZn _ _
 have c4:y4.heap[w1.heap.size+4]? =some (bR 0):=by rw[<- hy4,<- z3]; exact hZn _ _
 have b1:=hy1 ▸ aj y0 (qY (some (ZA w1.heap.size 0)));have b2:=hy2 ▸ aj y1 (cA s);have b3:=hy3 ▸ aj y2 (cA ⟨#[10]⟩);have b4:=hy4 ▸ aj y3 (bR 0);rw[e]at B1 ⊢;have old:∀k,k<w.heap.size+3->y4.heap[k]? =(wA w).heap[k]?:=fun k hk=>(B1.block k ae).trans (hb.block k ae);refine⟨z4,hlt,(a4.trans (hb.mono ae)).trans (B1.mono ae),(old _ ae).trans a1,(old _ ae).trans a2,(old _ ae).trans a3,(B1.block _ ae).trans hm,?_,?_,?_,?_,c4⟩
 ·exact(b4.block _ ae).trans ((b3.block _ ae).trans ((b2.block _ ae).trans ((b1.block _ ae).trans c0)))
 ·exact(b4.block _ ae).trans ((b3.block _ ae).trans ((b2.block _ ae).trans c1))
 ·exact(b4.block _ ae).trans ((b3.block _ ae).trans c2)
 exact(b4.block _ ae).trans c3
section
def dK(A:Nat):Deferred:={ target:=.fn (.func 52) #[.pointer (some ⟨A,0,none⟩),.pointer (some ⟨A+1,0,none⟩),.pointer (some ⟨A+2,0,none⟩)],args:=#[] }
variable {tmps:AVz}{A:Nat}{w:World}{v0 v1 v2 v3 v4 v5 v6 v7:Value}{e l:Int}
theorem UD(t2:tmps[2]? =some (ZP A 0))(t3:tmps[3]? =some (ZP (A+1) 0))(t4:tmps[4]? =some (ZP (A+2) 0))
  (hA:w.heap[A]? =some (.cells #[v0,v1,v2,v3,v4,v5,v6,v7] 29)) (hB:w.cell? (ZA (A+1) 0)=some (ZI e)) (hC:w.cell? (ZA (A+2) 0)=some (ZI l)) :
  (results Tryz.f15 tmps).run prog w=.ok (.tuple #[.agg #[v0,v1,v2,v3,v4,v5,v6,v7],ZI e,ZI l]) w:=by
 obtain⟨⟨m0,m1,m2,m3,m4,m5,m6,m7⟩,_⟩:=ax hA;simp[results,results15,go_sem,t2,t3,t4,m0,m1,m2,m3,m4,m5,m6,m7,hB,hC]
variable {x a b:Int}{W:World}
theorem AY{PP:Ending->World->Prop}(t2:tmps[2]? =some (ZP A 0))(t3:tmps[3]? =some (ZP (A+1) 0))(t4:tmps[4]? =some (ZP (A+2) 0))
  (hA:W.heap[A]? =some (.cells zV 29)) (hB:W.heap[A+1]? =some (dQ a)) (hC:W.heap[A+2]? =some (bR b))
  (hP:∀w',Kept (fun k=>k=A\/k=A+1\/k=A+2) W w'->PP (rt3 zV 22 x) w'):Go.Leaves prog Tryz.f15 tmps PP [dK A] (.panicking [{ v:=.iface 119 (.agg #[ZI x]),recovered:=false }]) W:=by
 refine leaves_cons (f:=52) (args:=#[ZP A 0,ZP (A+1) 0,ZP (A+2) 0]) av dB ?_;refine(TU x A (A+1) (A+2) _ _ W hA (ag (i:=0) hB) (free_at (i:=0) hB) (ag (i:=0) hC) (free_at (i:=0) hC) ae ae ae).mono ?_;rintro e u' w' ⟨rfl,rfl,q0,q1,q2,q3⟩;exact⟨_,UD t2 t3 t4 q0 q1 q2,hP w' q3⟩
theorem PW{PP:Ending->World->Prop}(t2:tmps[2]? =some (ZP A 0))(t3:tmps[3]? =some (ZP (A+1) 0))(t4:tmps[4]? =some (ZP (A+2) 0))
  (hA:W.heap[A]? =some (.cells #[v0,v1,v2,v3,v4,v5,v6,v7] 29)) (hB:W.heap[A+1]? =some (dQ e)) (hC:W.heap[A+2]? =some (bR l))
  (hP:∀w',Zx W w'->PP (rt3 #[v0,v1,v2,v3,v4,v5,v6,v7] e l) w'):Go.Leaves prog Tryz.f15 tmps PP [dK A] .returning W:=by
 refine leaves_cons (f:=52) (args:=#[ZP A 0,ZP (A+1) 0,ZP (A+2) 0]) av dB ?_;refine(Xj A (A+1) (A+2) W).mono ?_;rintro e' u' w' ⟨rfl,rfl,hb⟩;exact⟨_,UD t2 t3 t4 (ar hb hA) (ag (i:=0) (ar hb hB)) (ag (i:=0) (ar hb hC)),hP w' hb⟩
theorem Lr(W:World)(D:Nat)(o:Obj):Kept (fun k=>k=D) W (W.putObj D o):=⟨rfl,rfl,rfl,by simp[World.putObj],fun k _ h=>World.putObj_heap_other h⟩
variable {D:Nat}
theorem MC{PP:Ending->World->Prop}(t2:tmps[2]? =some (ZP A 0))(t3:tmps[3]? =some (ZP (A+1) 0))(t4:tmps[4]? =some (ZP (A+2) 0))
  (hA:W.heap[A]? =some (.cells #[v0,v1,v2,v3,v4,v5,v6,v7] 29)) (hB:W.heap[A+1]? =some (dQ e)) (hC:W.heap[A+2]? =some (bR l)) (hD:W.heap[D]? =some (.deferred (some []))) (hn:A+2<D)
  (hP:∀w',Kept (fun k=>k=D) W w'->PP (rt3 #[v0,v1,v2,v3,v4,v5,v6,v7] e l) w'):LvK prog Tryz.f15 tmps PP [{ target:=.collected D,args:=#[] },dK A] .returning W:=by
 have hk:=Lr W D (.deferred none);refine .inr ⟨D,[dK A],_,rfl,run_takeDeferred hD,PW t2 t3 t4 ((hk.block _ (aK hA) ae).trans hA) ((hk.block _ (aK hB) ae).trans hB) ((hk.block _ (aK hC) ae).trans hC) fun w' hb=>hP w' (hk.trans (bC hb))⟩
theorem Bu(s:BAz)(w:World)(hs:s.size<=1048576)(hE:cY w.heap.size w):Zw 15 #[.string s] w (vp s w):=by
 have hmf:∀(fn:Fn)(first cap:AVz)(w:World),(Instr.makeFunc fn first cap).run prog w=.ok (.func fn first cap) w:=fun _ _ _ _=>rfl
 refine jI (n:=5) func15 rfl ?_;simp only[ntmps15,List.size_toArray,Z1,List.length_nil,Nat.reduceAdd,Nat.reduceSub,Array.replicate_succ,Array.replicate_zero,List.push_toArray,List.append_toArray,List.nil_append,List.cons_append];have hs':(s.size:Int)<=1048576:=ae;have HP:Hid (vp s w=vp s w):=hid rfl;generalize my:vp s w=PP at *;have HR0:=hid my;clear my HP
 gi_wp2_with fail
 refine⟨trivial,?_⟩;refine(callsIn_wide.2 (Ui _)).mono ?_;rintro e w1⟨rfl,lk,hb1⟩
 gi_wp2_with fail
 refine⟨trivial,?_⟩;refine(callsIn_wide.2 (BK s _)).mono ?_;rintro e w2⟨rfl,rfl⟩
 gi_wp2_with fail
 have hm1':w1.heap[w.heap.size+3]? =some (.map kdE 8):=by simpa[Nat.add_assoc] using lk
 have hb1':Below (w.heap.size+3) (wA w) w1:=by have h:=hb1; unfold Zx at h; simp[Nat.add_assoc]at h; exact h
 have hok:=XS s w w1 hm1' hb1';clear lk hb1 hm1' hb1';have hW0:wB s w w1=((((w1.alloc (.cells #[.map (some (w.heap.size+1+1+1)),ZN,ZN,ZN,ZI 0,ZI 0,ZN,ZN,ZN,ZI 0,ZI 0] 126)).alloc (qY (some (ZA w1.heap.size 0)))).alloc (cA s)).alloc (cA ⟨#[10]⟩)).alloc (bR 0):=rfl;rw[<- hW0];clear hW0;generalize wB s w w1=W0 at *;generalize w1.heap.size=R at *;simp only[Nat.add_assoc,Nat.reduceAdd];have c1:=ag (i:=0) hok.s1;have c2:=ag (i:=0) hok.s2;have f2:=free_at (i:=0) hok.s2;have c3:=ag (i:=0) hok.s3;have HF:=Mi 4 (R+3) (R+2) (R+4) ae ae s W0 c1 c2 f2 c3 ae;obtain⟨V,hV⟩:∃V,iO 0 0 pm0 (bg s)=V:=⟨_,rfl⟩;have hlen:=jM s
 refine xV au (gf:=174) (lb:=#[ZP (R+3) 0,ZP (R+2) 0,ZP (R+4) 0]) rfl (enters_of func174 ak rfl) (encs:=fun x:ByteArray=>#[.string x]) (fun _=>rfl) HF
  (LpI R (w.heap.size+3) W0 (bg s).length V) (LpP R W0 V) (UZ _ _ _ _ _ hok.z) (Ta _ _ _ _ _) ?start
  (fun x=>{ tmps:=#[.string s,undef,ZP w.heap.size 0,ZP (w.heap.size+1) 0,ZP (w.heap.size+2) 0,ZP (R+1) 0,.string x,.func (.func 52) #[] #[.pointer (some ⟨w.heap.size,0,none⟩),.pointer (some ⟨w.heap.size+1,0,none⟩),.pointer (some ⟨w.heap.size+2,0,none⟩)],.string s,ZI s.size,.bool (decide (1048576<(s.size:Int))),undef,.map (some (w.heap.size+3)),.agg #[.map (some (w.heap.size+3)),ZN,ZN,ZN,ZI 0,ZI 0,ZN,ZN,ZN,ZI 0,ZI 0],ZP R 0,.string s,.func (.func 174) #[] #[.pointer (some ⟨R+3,0,none⟩),.pointer (some ⟨R+2,0,none⟩),.pointer (some ⟨R+4,0,none⟩)],.string x,undef,undef,undef,undef,undef,undef,undef,undef,undef,undef,undef,undef,undef,undef,undef,undef,undef,undef],defers:=[] }) (fun _=>rfl) ?assign (fun _ h=>bS) (fun _ h=>bS) (fun _ h=>bS) ?body ?done ?throw
 case start =>
  refine⟨Kept.refl _ _,(fun x hx=>by have:=rS s x hx; omega),mm0,0,0,.inr ⟨by have:=hok.z; omega,rfl,rfl,rfl,hok.r⟩,QD,(fun e=>eO),ae,ae,(by show((psz pm0:Nat):Int)<=0; simp[pm0,psz]),hV⟩
 case assign =>
  exact yI
 case body =>
  intro x r W hsz hi;have hk:=hi.1
  have cv:W.cell? (ZA (R+1) 0)=some (ZP R 0):=by
   have h5:=hk.block (R+1) (by have:=hok.z; omega) (fun e=>by have:=hok.z; rcases e with e | e | e <;> omega)
   exact(World.cell?_of_block h5).trans (ag (i:=0) hok.v)
  refine⟨ZP R 0,.string x,56,#[ZP R 0,.string x],rfl,?_,rfl,?_,rfl,?_,TF (B:=w.heap.size) hok.z ae (hE.later hok.below) (by have:=hok.lo; omega) hok.k (by have:=hok.lo; omega) hsz hi⟩
  ·go_simp
  ·go_simp
  go_simp
 case throw =>
  rintro D ch W hD⟨hk,hv,rfl⟩ hK;have hz:=hok.z;have hlo:=hok.lo
  have hold:∀k,k<R->(W.putObj D (.deferred none)).heap[k]? =W0.heap[k]?:=fun k hk2=>(World.putObj_heap_other ae).trans (hk.block k ae (fun e=>by rcases e with e | e | e <;> omega))
  have hbl:Below w.heap.size W0 (W.putObj D (.deferred none)):=⟨hk.os,hk.tape,hk.output,by have:=hk.size; simpa[World.putObj] using this,fun k hk2=>hold k ae⟩;refine .inr ⟨D,[dK w.heap.size],_,rfl,run_takeDeferred hK,AY rfl rfl rfl ((hold _ ae).trans hok.a) ((hold _ ae).trans hok.b) ((hold _ ae).trans hok.c) fun w' hk2=>?_⟩;rw[<- HR0.out];refine⟨(hok.below.trans hbl).trans ⟨hk2.os,hk2.tape,hk2.output,hk2.size,fun k hk3=>hk2.block k (by have:=hbl.size; omega) ae⟩,fun h=>ae,fun _ l o hlo2=>?_⟩;rw[hV]at hlo2;subst hlo2;dsimp only at hv ⊢;subst hv;exact⟨fun _=>rfl,fun p M h=>bS⟩
 case done =>
  rintro D W hD⟨hk,_,m,ln,pt,hc,tw,hne,hl0,hl,hps,hV2⟩ hK;have hz:=hok.z;have hlo:=hok.lo
  have On:1<=(bg s).length:=by
   have:=zw s.data.toList;unfold bg;rw[List.length_map];exact List.length_pos_iff.2 this
  have hq:RQ (R+7) R (.map (some (w.heap.size+3))) m ln pt W:=by
   rcases hc with hc | ⟨_,_,h0,_⟩
   ·exact hc
   simp at hl; omega
  have eV:V=(ln,some (pt,pl m)):=hV2.symm
  have hold:∀k,k<R->W.heap[k]? =W0.heap[k]?:=fun k hk2=>hk.block k ae (fun e=>by rcases e with e | e | e <;> omega)
  have cv:W.cell? (ZA (R+1) 0)=some (ZP R 0):=by
   have h5:=hk.block (R+1) ae (fun e=>by rcases e with e | e | e <;> omega)
   exact(World.cell?_of_block h5).trans (ag (i:=0) hok.v)
  have hbW:Zx w W:=hok.below.trans ⟨hk.os,hk.tape,hk.output,hk.size,fun k hk2=>hold k ae⟩;have hA:=(hold _ ae).trans hok.a;have hB:=(hold _ ae).trans hok.b;have hC:=(hold _ ae).trans hok.c;clear hold hk hc HF
  by_cases h5:5<=pt
  rotate_left
  ·have HN:=hid (Wv R pt ln W (hq.cells 9) (hq.cells 10) h5)
   gi_wp2_with fail
   refine⟨trivial,?_⟩;refine(callsIn_wide.2 HN.out).mono ?_;rintro e W2⟨rfl,hw2⟩;have hw3:=hw2.symm;subst hw3;have S':∀k,k<R->(W.putObj D (.deferred none)).heap[k]? =W.heap[k]?:=fun k hk2=>World.putObj_heap_other ae;have hbl:Below w.heap.size W (W.putObj D (.deferred none)):=⟨rfl,rfl,rfl,by simp[World.putObj],fun k hk2=>S' k ae⟩;refine .inr ⟨D,[dK w.heap.size],_,rfl,run_takeDeferred hK,AY rfl rfl rfl ((S' _ ae).trans hA) ((S' _ ae).trans hB) ((S' _ ae).trans hC) fun w' hk2=>?_⟩;rw[<- HR0.out];refine⟨(hbW.trans hbl).trans ⟨hk2.os,hk2.tape,hk2.output,hk2.size,fun k hk3=>hk2.block k (by have:=hbl.size; have:=hbW.size; omega) ae⟩,fun h=>ae,fun _ l o hlo2=>?_⟩;rw[hV,eV]at hlo2
   cases hlo2
   exact⟨(fun h=>bS),(fun p M h=>by cases h; exact⟨fun _=>rfl,fun h=>absurd h ae⟩)⟩
  have HY:=hid (QU R pt W (hq.cells 10) h5);have q1:=hq.cells 1;have q2:=hq.cells 2;have q3:=hq.cells 3;have q4:=hq.cells 4;have q5:=hq.cells 5;have q6:=hq.cells 6;have q7:=hq.cells 7;have q8:=hq.cells 8;simp[lU]at q1 q2 q3 q4 q5 q6 q7 q8;have HCk:=hid (FJ m W ((hE.later hbW).kinds) (fun R' g h1 h2=>hq.mok tw R' g h1 h2));unfold mV at HCk
  gi_wp2_with fail
  refine⟨trivial,?_⟩;refine(callsIn_wide.2 HY.out).mono ?_;rintro e W2⟨rfl,hw2⟩;have hw3:=hw2.symm;subst hw3
  gi_wp2_with fail
  refine⟨trivial,?_⟩;refine(callsIn_wide.2 HCk.out).mono ?_;rintro e W3⟨rfl,hb3⟩;have hA3:=ar hb3 hA;have hB3:=ar hb3 hB;have hC3:=ar hb3 hC;have hK3:=ar hb3 hK;have hbW3:=hbW.trans (hb3.mono hbW.size);have hq3:=hid (hq.later hb3);have HLE:=hid hq.len;have cv3:=(hb3.cell (p:=(ZA (R+1) 0)) (by exact ZQ cv)).trans cv;have OF:R+1<W.heap.size:=ZQ cv;clear q1 q2 q3 q4 q5 q6 q7 q8 HY HCk hA hB hC hK hbW cv hq;have cB:=ag (i:=0) hB3;have fB:=free_at (i:=0) hB3;obtain⟨E,hEq⟩:∃E,cJ m=E:=⟨_,rfl⟩;rw[hEq];have kB:=aB W3 (w.heap.size+1) 0 (ZI E);have tA:=(kB.block w.heap.size (aK hA3) ae).trans hA3;have tB:(W3.setCell (ZA (w.heap.size+1) 0) (ZI E)).heap[w.heap.size+1]? =some (dQ E):=aT hB3;have tC:=(kB.block (w.heap.size+2) (aK hC3) ae).trans hC3;have tK:=(kB.block D (aK hK3) ae).trans hK3;have tv:=kB.cell cv3 ae;have qae:Zx w (W3.setCell (ZA (w.heap.size+1) 0) (ZI E)):=hbW3.setCell (p:=(ZA (w.heap.size+1) 0)) av _;have hq4:=hid (hq3.out.keptS kB ae (fun k _ _ h1 _ h2=>ae));have cB4:=ag (i:=0) tB;have fB4:=free_at (i:=0) tB
  by_cases hx:E=0
  rotate_left
  ·have hxb:(E==0)=false:=oK
   gi_wp2_with fail
   clear cB fB hA3 hB3 hC3 hK3 cv3 hq3 kB hbW3 hb3;generalize W3.setCell (ZA (w.heap.size+1) 0) (ZI E)=W4 at *;refine wpIn_wide.2 ?_;obtain⟨⟨m0,m1,m2,m3,m4,m5,m6,m7⟩,g0,g1,g2,g3,g4,g5,g6,g7⟩:=ax tA;have cC:=ag (i:=0) tC;have fC:=free_at (i:=0) tC;have bd:Zx W4 W4.drew:=(ZT _ _).drew;have tA':=ar bd tA;have tB':=ar bd tB;have tC':=ar bd tC;have tK':=ar bd tK;have hb':=qae.trans (bd.mono qae.size);clear m0 m1 m2 m3 m4 m5 m6 m7 g0 g1 g2 g3 g4 g5 g6 g7 cC fC cB4 fB4 tA tB tC tK qae bd tv;refine ZX (S:=fun V=>V.cell? (ZA (w.heap.size+1) 0)=some (ZI E)) ak (ag (i:=0) tB') (fun hS=>?_);generalize W4.drew=Wd at *;obtain⟨⟨m0,m1,m2,m3,m4,m5,m6,m7⟩,g0,g1,g2,g3,g4,g5,g6,g7⟩:=ax tA';refine Zu 0 1 (fun K hK=>?_) fun K hK=>?_
   ·have cb4:=ag (i:=0) tB';go_simp
    refine Zv hK ?_ hS;clear hK K;refine Zu 1 2 (fun K hK=>?_) fun K hK=>?_
    ·exact Uv
    go_simp;obtain⟨p1,p2⟩:=Tg (ZN) (ZN) (ZN) (ZI 0) (ZI 0) (ZN) (ZN) (ZN) tA';have b5:=(p2.block (w.heap.size+1) (aK tB') ae).trans tB';have c5:=(p2.block (w.heap.size+2) (aK tC') ae).trans tC';have d5:=(p2.block D (aK tK') ae).trans tK';have f5:=hb'.trans (p2.to_below (B:=w.heap.size) (by have:=hb'.size; omega) (fun k hk=>ae));refine hK.out _ _ (ag (i:=0) b5) (fun hS2=>?_);clear hK K m0 m1 m2 m3 m4 m5 m6 m7 g0 g1 g2 g3 g4 g5 g6 g7 tA' tB' tC' tK' hb' p2 hS;generalize ((((((((Wd.setCell (ZA w.heap.size 0) (ZN)).setCell (ZA w.heap.size 1) (ZN)).setCell (ZA w.heap.size 2) (ZN)).setCell (ZA w.heap.size 3) (ZI 0)).setCell (ZA w.heap.size 4) (ZI 0)).setCell (ZA w.heap.size 5) (ZN)).setCell (ZA w.heap.size 6) (ZN)).setCell (ZA w.heap.size 7) (ZN))=W5 at *;refine ZR 1 fun K hK=>?_;have cb5:=ag (i:=0) b5;go_simp;refine Zv hK ?_ hS2;clear hK K cb5;refine ZR 3 fun K hK=>?_;have cb5:=ag (i:=0) b5;have fb5:=free_at (i:=0) b5;go_simp;have k6:=aB W5 (w.heap.size+1) 0 (ZI E);have b6:(W5.setCell (ZA (w.heap.size+1) 0) (ZI E)).heap[w.heap.size+1]? =some (dQ E):=aT b5;have a6:=(k6.block w.heap.size (aK p1) ae).trans p1;have c6:=(k6.block (w.heap.size+2) (aK c5) ae).trans c5;have d6:=(k6.block D (aK d5) ae).trans d5;have f6:=f5.trans (k6.to_below (B:=w.heap.size) (by have:=f5.size; omega) (fun k hk=>ae));refine hK.out _ _ (ag (i:=0) b6) (fun hS3=>?_);clear hK K k6 p1 b5 c5 d5 f5 cb5 fb5 hS2;generalize W5.setCell (ZA (w.heap.size+1) 0) (ZI E)=W6 at *;refine ZR 4 fun K hK=>?_;have cc6:=ag (i:=0) c6;have fc6:=free_at (i:=0) c6;go_simp;have k7:=aB W6 (w.heap.size+2) 0 (ZI 0);have c7:(W6.setCell (ZA (w.heap.size+2) 0) (ZI 0)).heap[w.heap.size+2]? =some (bR 0):=aT c6;have a7:=(k7.block w.heap.size (aK a6) ae).trans a6;have b7:=(k7.block (w.heap.size+1) (aK b6) ae).trans b6;have d7:=(k7.block D (aK d6) ae).trans d6;have f7:=f6.trans (k7.to_below (B:=w.heap.size) (by have:=f6.size; omega) (fun k hk=>ae));refine hK.out _ _ (ag (i:=0) b7) (fun hS4=>?_);clear hK K k7 a6 b6 c6 d6 f6 cc6 fc6 hS3;generalize W6.setCell (ZA (w.heap.size+2) 0) (ZI 0)=W7 at *;refine Z4 ak ?_ _
    gi_wp2_with fail
    refine MC rfl rfl rfl a7 b7 c7 d7 ae fun w' hk'=>?_;rw[<- HR0.out];refine⟨f7.trans (hk'.to_below (by have:=f7.size; omega) (fun k hk=>ae)),(fun h=>ae),fun _ l o hlo2=>?_⟩;rw[hV,eV]at hlo2
    cases hlo2
    refine⟨(fun h=>bS),fun p M h=>?_⟩
    cases h
    refine⟨(fun h=>ae),fun _=>⟨m,rfl,HLE.out,tw,fun _=>by rw[hEq]; rfl,fun h=>absurd (hEq.symm.trans h) hx⟩⟩
   have cb4:=ag (i:=0) tB';go_simp;refine Zv hK ?_ hS;clear hK K;refine ZR 0 fun K hK=>?_;exact Uv
  subst hx;have q1:=hq3.out.cells 1;have q2:=hq3.out.cells 2;have q3:=hq3.out.cells 3;have q4:=hq3.out.cells 4;have q5:=hq3.out.cells 5;have q6:=hq3.out.cells 6;have q7:=hq3.out.cells 7;have q8:=hq3.out.cells 8;simp[lU]at q1 q2 q3 q4 q5 q6 q7 q8;have hRn:¬(w.heap.size+1=R):=ae;obtain⟨⟨m0,m1,m2,m3,m4,m5,m6,m7⟩,g0,g1,g2,g3,g4,g5,g6,g7⟩:=ax hA3;have cC:=ag (i:=0) hC3;have fC:=free_at (i:=0) hC3
  gi_wp2_with fail
  clear q1 q2 q3 q4 q5 q6 q7 q8 m0 m1 m2 m3 m4 m5 m6 m7 g0 g1 g2 g3 g4 g5 g6 g7 cC fC cB fB hA3 hB3 hC3 hK3 cv3 hq3 kB hbW3 hb3 cB4 fB4;generalize W3.setCell (ZA (w.heap.size+1) 0) (ZI 0)=W4 at *;obtain⟨p1,p2⟩:=Tg (.slice m.ta m.tn m.tc) (.slice m.ha m.hn m.hc) (.slice m.ga m.gn m.gc) (ZI m.fi) (ZI m.mo) (.slice m.fa m.fn m.fc) (.slice m.da m.dn m.dc) (.slice m.ea m.en m.ec) tA;have b5:=(p2.block (w.heap.size+1) (aK tB) ae).trans tB;have c5:=(p2.block (w.heap.size+2) (aK tC) ae).trans tC;have d5:=(p2.block D (aK tK) ae).trans tK;have e5:=hq4.out.keptS p2 ae (fun k _ _ h1 _ h2=>ae);have f5:Zx w _:=qae.trans (p2.to_below (by have:=qae.size; omega) (fun k hk=>ae));clear p2 tA tB tC tK hq4 qae tv;generalize ((((((((W4.setCell (ZA w.heap.size 0) (.slice m.ta m.tn m.tc)).setCell (ZA w.heap.size 1) (.slice m.ha m.hn m.hc)).setCell (ZA w.heap.size 2) (.slice m.ga m.gn m.gc)).setCell (ZA w.heap.size 3) (ZI m.fi)).setCell (ZA w.heap.size 4) (ZI m.mo)).setCell (ZA w.heap.size 5) (.slice m.fa m.fn m.fc)).setCell (ZA w.heap.size 6) (.slice m.da m.dn m.dc)).setCell (ZA w.heap.size 7) (.slice m.ea m.en m.ec))=W5 at *;have k6:=aB W5 (w.heap.size+1) 0 (ZI 0);have b6:(W5.setCell (ZA (w.heap.size+1) 0) (ZI 0)).heap[w.heap.size+1]? =some (dQ 0):=aT b5;have a6:=(k6.block w.heap.size (aK p1) ae).trans p1;have c6:=(k6.block (w.heap.size+2) (aK c5) ae).trans c5;have d6:=(k6.block D (aK d5) ae).trans d5;have e6:=e5.keptS k6 ae (fun k _ _ h1 _ h2=>ae);have f6:=f5.trans (k6.to_below (B:=w.heap.size) (by have:=f5.size; omega) (fun k hk=>ae));clear k6 p1 b5 c5 d5 e5 f5;generalize W5.setCell (ZA (w.heap.size+1) 0) (ZI 0)=W6 at *;have k7:=aB W6 (w.heap.size+2) 0 (ZI 0);have c7:(W6.setCell (ZA (w.heap.size+2) 0) (ZI 0)).heap[w.heap.size+2]? =some (bR 0):=aT c6;have a7:=(k7.block w.heap.size (aK a6) ae).trans a6;have b7:=(k7.block (w.heap.size+1) (aK b6) ae).trans b6;have d7:=(k7.block D (aK d6) ae).trans d6;have e7:=e6.keptS k7 ae (fun k _ _ h1 _ h2=>ae);have f7:=f6.trans (k7.to_below (B:=w.heap.size) (by have:=f6.size; omega) (fun k hk=>ae));clear k7 a6 b6 c6 d6 e6 f6;generalize W6.setCell (ZA (w.heap.size+2) 0) (ZI 0)=W7 at *;refine MC rfl rfl rfl a7 b7 c7 d7 ae fun w' hk'=>?_;rw[<- HR0.out];refine⟨f7.trans (hk'.to_below (by have:=f7.size; omega) (fun k hk=>ae)),(fun h=>ae),fun _ l o hlo2=>?_⟩;rw[hV,eV]at hlo2
  cases hlo2
  refine⟨(fun h=>bS),fun p M h=>?_⟩
  cases h
  refine⟨(fun h=>ae),fun _=>⟨m,rfl,HLE.out,tw,fun h=>absurd hEq h,fun _=>⟨rfl,R+7,R,.map (some (w.heap.size+3)),ln,ae,?_⟩⟩⟩;refine e7.keptS hk' ae (fun k cs t h1 h2 h3=>?_);rw[h3,d7]at h2
  cases h2
theorem DY(s:BAz)(w:World)(hs:1048576<s.size):Zw 15 #[.string s] w (vp s w):=by
 have hmf:∀(fn:Fn)(first cap:AVz)(w:World),(Instr.makeFunc fn first cap).run prog w=.ok (.func fn first cap) w:=fun _ _ _ _=>rfl
 refine jI (n:=5) func15 rfl ?_;simp only[ntmps15,List.size_toArray,Z1,List.length_nil,Nat.reduceAdd,Nat.reduceSub,Array.replicate_succ,Array.replicate_zero,List.push_toArray,List.append_toArray,List.nil_append,List.cons_append];have hs':(1048576:Int)<s.size:=ae;generalize my:vp s w=PP at *;have HR0:=hid my;clear my
 gi_wp2_with fail
 simp only[Nat.add_assoc,Nat.reduceAdd];obtain⟨a1,a2,a3,a4⟩:=Um w;have hblk:∀(o:Obj),(((w.alloc (bM none 0 0 none 0 0 none 0 0 0 0 none 0 0 none 0 0 none 0 0)).alloc (dQ 13)).alloc o).heap.size=w.heap.size+3:=fun o=>av;obtain⟨W,hW⟩:∃W,(((w.alloc (bM none 0 0 none 0 0 none 0 0 0 0 none 0 0 none 0 0 none 0 0)).alloc (dQ 13)).alloc (bR 0))=W:=⟨_,rfl⟩;rw[hW]
 have bW:Zx w W:=by rw[<- hW]; exact(((ZT _ w).alloc av _).alloc bI _).alloc bI _
 have b1:W.heap[w.heap.size]? =some (bM none 0 0 none 0 0 none 0 0 0 0 none 0 0 none 0 0 none 0 0):=by
  rw[<- hW,(aj ((w.alloc (bM none 0 0 none 0 0 none 0 0 0 0 none 0 0 none 0 0 none 0 0)).alloc (dQ 13)) _).block _ bI,(aj (w.alloc (bM none 0 0 none 0 0 none 0 0 0 0 none 0 0 none 0 0 none 0 0)) _).block _ av];exact hZn w _
 have b2:W.heap[w.heap.size+1]? =some (dQ 13):=by
  rw[<- hW,(aj ((w.alloc (bM none 0 0 none 0 0 none 0 0 0 0 none 0 0 none 0 0 none 0 0)).alloc (dQ 13)) _).block _ av];have:=hZn (w.alloc (bM none 0 0 none 0 0 none 0 0 0 0 none 0 0 none 0 0 none 0 0)) (dQ 13);exact cR
 have b3:W.heap[w.heap.size+2]? =some (bR 0):=by
  have:=hZn ((w.alloc (bM none 0 0 none 0 0 none 0 0 0 0 none 0 0 none 0 0 none 0 0)).alloc (dQ 13)) (bR 0);rw[<- hW];exact cR
 refine .inl (PW rfl rfl rfl b1 b2 b3 fun w' hb=>?_);rw[<- HR0.out];exact⟨bW.trans (hb.mono bW.size),fun _=>rfl,fun h=>ae⟩
theorem sO(s:BAz)(w:World)(hE:cY w.heap.size w):Zw 15 #[.string s] w (vp s w):=by
 by_cases hs:s.size<=1048576
 ·exact Bu s w hs hE
 exact DY s w ae
open Go.RowKit
theorem Xu:prog.underlying 64=some (.slice 9):=ak
theorem Mb:(prog.info? 9).map (fun i=>(i.zero,i.size,i.bytes))=some (some (.string ⟨#[]⟩),1,16):=ak
def iA(t:Int)(wd:BAz)(a:Int)(l:LIz):List ByteArray:=(⟨#[32,32]⟩++wd)::(if t=0 then [] else if t=3 then l.map bT else [bT a])
theorem qQ(x:BAz)(xs:Zai):x.size+1<=(bL (x::xs)).length:=by
 rw[bL,ZV,List.map_cons]
 cases xs with
 | nil=>simp[Lib.join]
 | cons y ys=>simp[Lib.join]
theorem qc(wd:BAz):(⟨#[32,32]⟩++wd:BAz).size=2+wd.size:=by
 rw[ByteArray.size_append]; rfl
variable {base n:Nat}{xs:Zai}
theorem vR{v:Value}(h:w.ownsRow base 9 1 v n (xs.map Value.string))(hn:n≠0) :
  xs.length=n/\∃g cap,v=ZL g n cap/\n<=cap/\g<w.heap.size/\∀(j:Nat)x,xs[j]? =some x->w.cell? (ZA g (0+j))=some (.string x):=by
 have hl:xs.length=n:=by have:=h.1; simpa using this
 rcases h.2 with ⟨_,hz⟩ | ⟨g,cap,cur,hv,hb,hg,hnc,hcm,hcs,htk⟩
 ·exact absurd hz hn
 refine⟨hl,g,cap,hv,hnc,?_,?_⟩
 ·rcases Zae g w.heap.size with h' | h'
  ·exact h'
  simp[Zaf h']at hg
 intro j x hx;have:=h.cells (g:=g) (by rw[hv]; rfl) j (.string x) mB
 cases j with
 | zero=>simpa[Addr.add] using this
 | succ j=>simpa[Addr.add] using this
theorem vB(B b:Nat)(s:Zaj)(c a:Int)(la:OAz)(ln lc:Nat)(w:World)(h:Lib.IsBuilder 96 5 B b (Lib.byteCells s) w)(hB:B<=w.heap.size)(hk:aX w)(h0:0<=c)(h1:c<=255)
  (l:LIz) (htt:(ofV c).1.2.2.1=0) (hlen:s.length+l.length+2+(bL (iA (ofV c).1.2.2.1 (ofV c).1.2.1 a l)).length<=140737488355328) :
  Zw 159 #[ZP b 0,.agg #[ZU c,ZI a,.slice la ln lc]] w fun e w'=>e=.returned (.tuple #[])/\Lib.BuilderAt 96 5 B b (ZP b 0) (Lib.byteCells (s++bL (iA (ofV c).1.2.2.1 (ofV c).1.2.1 a l))) w'/\Below B w w'/\dR b w w':=by
 have B0:=aj w (aH c a la ln lc);have HO:=hid (of6 c _ (hk.later B0 hk.pos) h0 h1);generalize (ofV c).1=row at *;obtain⟨rc,wd,t,pp,ps,pl⟩:=row;obtain rfl:t=0:=htt;unfold rv dP at HO;have BB:=hid B0;go_enter func159,ntmps159
 go_wp2_with fail;refine HO.out.mono ?_;rintro e w1⟨rfl,hb1⟩;have B1:=hid (BB.out.trans (hb1.mono av))
 have B3:=hid (Below.trans (Below.trans B1.out ((aj w1 (bV rc wd 0 pp ps pl)).mono B1.out.size)) ((aj _ (cA (⟨#[32,32]⟩++wd))).mono (by have:=B1.out.size; simp; omega)));have h3:s.length+l.length+2+(bL [⟨#[32,32]⟩++wd]).length<=140737488355328:=hlen
 have hwd:wd.size+2<=140737488355328:=by
  have h1:=qQ (⟨#[32,32]⟩++wd) [];have h2:=qc wd;omega
 have HL:=hid (fun x=>pc B b (w1.heap.size+1) 0 1 [⟨#[32,32]⟩++wd] s _ (dH h B3.out) (ZW hB B3.out.size) x av av (by show s.length+1+_<=_; omega));clear hb1 BB;have hws:(⟨#[32,32]⟩:BAz).size+wd.size<=9223372036854775807:=zj;go_wp2_with fail;refine(HL.out ?_).mono ?_
 ·intro j x hx
  match j,hx with
  | 0,hx=>simp at hx; subst hx; simp[go_sem]
 rintro e w2⟨rfl,h2,hb2,hh2⟩;go_wp2_with fail;go_end0;exact⟨rfl,by simpa[iA] using h2,(B3.out.mono hB).trans hb2,(dR.of_below B3.out).trans hh2⟩
variable {w':World}{e:TypeId}{xs:Zah}
theorem uq{v:Value}(h:w.ownsRow base e 1 v n xs)(hb:Zx w w'):w'.ownsRow base e 1 v n xs :=
 h.kept (row:=none) ⟨hb.os,hb.tape,hb.output,hb.size,fun k hk _=>hb.block k hk⟩ (by cases v.ownBlock <;> simp)
theorem AP(w:World)(x:BAz)(base:Nat)(h:base<=w.heap.size):(w.alloc (cA x)).ownsRow base 9 1 (ZL w.heap.size 1 1) 1 ([x].map Value.string) :=
 ⟨rfl,.inr ⟨w.heap.size,1,#[.string x],rfl,h,(ZZ w _).1,Nat.le_refl _,au,rfl,rfl⟩⟩
theorem wk(B b:Nat)(s:Zaj)(c a:Int)(la:OAz)(ln lc:Nat)(w:World)(h:Lib.IsBuilder 96 5 B b (Lib.byteCells s) w)(hB:B<=w.heap.size)(htn:fq B w)(hk:aX w)(h0:0<=c)(h1:c<=255)
  (ha:-9223372036854775808<=a/\a<=9223372036854775807) (l:LIz) (ht0:(ofV c).1.2.2.1≠0) (eq:(ofV c).1.2.2.1≠3) (hlen:s.length+l.length+2+(bL (iA (ofV c).1.2.2.1 (ofV c).1.2.1 a l)).length<=140737488355328) :
  Zw 159 #[ZP b 0,.agg #[ZU c,ZI a,.slice la ln lc]] w fun e w'=>e=.returned (.tuple #[])/\Lib.BuilderAt 96 5 B b (ZP b 0) (Lib.byteCells (s++bL (iA (ofV c).1.2.2.1 (ofV c).1.2.1 a l))) w'/\Below B w w'/\dR b w w':=by
 have B0:=aj w (aH c a la ln lc);have HO:=hid (of6 c _ (hk.later B0 hk.pos) h0 h1);generalize (ofV c).1=row at *;obtain⟨rc,wd,t,pp,ps,pl⟩:=row;have ht0':t≠0:=ht0;have ht3':t≠3:=eq;unfold rv dP at HO;have BB:=hid B0
 have hi:iA t wd a l=[⟨#[32,32]⟩++wd,bT a]:=by simp[iA,ht0',ht3']
 rw[show iA (rc,wd,t,pp,ps,pl).2.2.1 (rc,wd,t,pp,ps,pl).2.1 a l=[⟨#[32,32]⟩++wd,bT a] from hi]at hlen ⊢;clear ht0 eq hi
 have hwd:wd.size+2<=140737488355328:=by
  have h1:=qQ (⟨#[32,32]⟩++wd) [bT a];have h2:=qc wd;omega
 have hws:(⟨#[32,32]⟩:BAz).size+wd.size<=9223372036854775807:=zj;obtain⟨i0,hi,hz0,hz1,hz2⟩:=Z0 Mb;go_enter func159,ntmps159
 go_wp2_with fail;refine HO.out.mono ?_;rintro e w1⟨rfl,hb1⟩;have x1:w1.cell? (ZA w.heap.size 1)=some (ZI a):=aY;have hx:=ZQ x1;have B1:=hid (BB.out.trans (hb1.mono av));have z1:=B1.out.size;obtain⟨wr,hwr⟩:∃wr,w1.alloc (bV rc wd t pp ps pl)=wr:=⟨_,rfl⟩
 have B2:=hid (show Zx w wr by rw[<- hwr]; exact B1.out.alloc z1 _)
 have zr:wr.heap.size=w1.heap.size+1:=by rw[<- hwr]; simp
 have B3:=hid (B2.out.trans ((aj wr (cA (⟨#[32,32]⟩++wd))).mono ae));have O3:=hid (AP wr (⟨#[32,32]⟩++wd) w.heap.size ae);have HF:=hid (tN B a ha.1 ha.2 _ (htn.later (B3.out.mono hB)))
 have y1:(wr.alloc (cA (⟨#[32,32]⟩++wd))).cell? (ZA w.heap.size 1)=some (ZI a):=by
  exact EJ
 have r1:wr.cell? (ZA w1.heap.size 1)=some (.string wd):=rY;have r2:wr.cell? (ZA w1.heap.size 2)=some (.int .i8 t):=rY;have hxr:=ZQ r2
 have r2':(wr.alloc (cA (⟨#[32,32]⟩++wd))).cell? (ZA w1.heap.size 2)=some (.int .i8 t):=by
  rw[World.cell?_alloc_past _ _ _ hxr]; exact r2
 rw[<- zr]at *;clear hb1 BB;go_wp2_with fail;refine HF.out.mono ?_;rintro e w4⟨rfl,hb4⟩;have O4:=hid (uq O3.out hb4);have B4:=Zy B3 hb4;have z4:=B4.out.size;clear hb4 O3 HF HO y1 r1 r2 r2' x1
 go_wp2_with (at_builtin; refine wpList_append_own _ rfl _ _ 64 rfl w.heap.size 9 i0 (.string ⟨#[]⟩) 1 16 Xu hi hz0 hz1 hz2 rfl au _ _ _ rfl (O4.out.alloc _) (ZA w4.heap.size 0) 1 1 [.string (bT a)] rfl rfl ?c1 ?c2 ?c3 ?c4 ?c5 ?_)
 case c1 =>
  exact wP
 case c2=>intro u hu; simp at hu; subst hu; rfl
 case c3=>decide
 case c4=>decide
 case c5=>simp; omega
 intro v' w5 hown' hgrow _;have B5:=hid (show Zx w w5 from((B4.out.alloc z4 _).grown hgrow aA (fun k hk=>(O4.out.lt k hk).1)));have Lo:=dH h B5.out;have OW:w5.ownsRow w.heap.size 9 1 v' 2 ([⟨#[32,32]⟩++wd,bT a].map Value.string):=hown';obtain⟨_,g,cap,rfl,hcap,hg,hcl⟩:=vR OW au;have HL:=hid (pc B b g 0 cap [⟨#[32,32]⟩++wd,bT a] s w5 Lo (ZW hB B5.out.size) hcl hg hcap (by show s.length+2+_<=_; omega));clear hown' hgrow OW Lo hcl;go_wp2_with fail;refine HL.out.mono ?_;rintro e w6⟨rfl,h6,LE,hh6⟩;go_wp2_with fail;go_end0;exact⟨rfl,h6,(B5.out.mono hB).trans LE,(dR.of_below B5.out).trans hh6⟩
theorem vq(B b:Nat)(s:Zaj)(c a:Int)(la:OAz)(ln lc:Nat)(w:World)(h:Lib.IsBuilder 96 5 B b (Lib.byteCells s) w)(hB:B<=w.heap.size)(htn:fq B w)(hk:aX w)(h0:0<=c)(h1:c<=255)
  (ha:-9223372036854775808<=a/\a<=9223372036854775807) (l:LIz) (hs:gW w la ln lc l) (htt:(ofV c).1.2.2.1=3) (hlen:s.length+l.length+2+(bL (iA (ofV c).1.2.2.1 (ofV c).1.2.1 a l)).length<=140737488355328) :
  Zw 159 #[ZP b 0,.agg #[ZU c,ZI a,.slice la ln lc]] w fun e w'=>e=.returned (.tuple #[])/\Lib.BuilderAt 96 5 B b (ZP b 0) (Lib.byteCells (s++bL (iA (ofV c).1.2.2.1 (ofV c).1.2.1 a l))) w'/\Below B w w'/\dR b w w':=by
 have B0:=aj w (aH c a la ln lc);have HO:=hid (of6 c _ (hk.later B0 hk.pos) h0 h1);generalize (ofV c).1=row at *;obtain⟨rc,wd,t,pp,ps,pl⟩:=row;obtain rfl:t=3:=htt;unfold rv dP at HO;have BB:=hid B0
 have hi:iA 3 wd a l=(⟨#[32,32]⟩++wd)::l.map bT:=by simp[iA]
 rw[show iA (rc,wd,(3:Int),pp,ps,pl).2.2.1 (rc,wd,(3:Int),pp,ps,pl).2.1 a l=(⟨#[32,32]⟩++wd)::l.map bT from hi]at hlen ⊢;clear hi
 have hwd:wd.size+2<=140737488355328:=by
  have h1:=qQ (⟨#[32,32]⟩++wd) (l.map bT);have h2:=qc wd;omega
 have hws:(⟨#[32,32]⟩:BAz).size+wd.size<=9223372036854775807:=zj;obtain⟨i0,hi,hz0,hz1,hz2⟩:=Z0 Mb;go_enter func159,ntmps159
 go_wp2_with fail;refine HO.out.mono ?_;rintro e w1⟨rfl,hb1⟩;have x1:w1.cell? (ZA w.heap.size 2)=some (.slice la ln lc):=aY;have hx:=ZQ x1;have B1:=hid (BB.out.trans (hb1.mono av));have z1:=B1.out.size;obtain⟨wr,hwr⟩:∃wr,w1.alloc (bV rc wd 3 pp ps pl)=wr:=⟨_,rfl⟩
 have B2:=hid (show Zx w wr by rw[<- hwr]; exact B1.out.alloc z1 _)
 have zr:wr.heap.size=w1.heap.size+1:=by rw[<- hwr]; simp
 have B3:=hid (B2.out.trans ((aj wr (cA (⟨#[32,32]⟩++wd))).mono ae));have O3:=hid (AP wr (⟨#[32,32]⟩++wd) w.heap.size ae)
 have y1:(wr.alloc (cA (⟨#[32,32]⟩++wd))).cell? (ZA w.heap.size 2)=some (.slice la ln lc):=by
  exact EJ
 have r1:wr.cell? (ZA w1.heap.size 1)=some (.string wd):=rY;have r2:wr.cell? (ZA w1.heap.size 2)=some (.int .i8 3):=rY;have hxr:=ZQ r2
 have r2':(wr.alloc (cA (⟨#[32,32]⟩++wd))).cell? (ZA w1.heap.size 2)=some (.int .i8 3):=by
  rw[World.cell?_alloc_past _ _ _ hxr]; exact r2
 rw[<- zr]at *;clear hb1 BB;go_wp2_with fail;obtain⟨hl,hlc,hln,hlr,hcs⟩:=hs;obtain⟨HC,HR⟩:=Zz hcs hlr;clear hcs hlr y1 r1 r2 r2' x1 HO;obtain⟨HS,HN⟩:=Zz h htn;clear h htn
 go_loopw [6,34] (fun v i W=>∃k:Nat,k<=ln/\i=ZI k/\W.ownsRow w.heap.size 9 1 v (1+k) (((⟨#[32,32]⟩++wd)::(l.take k).map bT).map Value.string)/\Zx w W) (fun _ i _=>ln-(intOf i).toNat)
 case atStart=>exact⟨0,Z5 _,rfl,O3.out,B3.out⟩
 case round =>
  obtain⟨k,hk,rfl,hown,hb⟩:=hrel;obtain⟨OW,BR⟩:=Zz hown hb;clear hown hb O3 B3
  by_cases hlt:k<ln
  ·obtain⟨bb,off,rfl,hx⟩:∃bb off,la=some (ZA bb off)/\w.cell? (ZA bb (off+k))=some (ZI (l.getD k 0)):=by
    rcases HC.out with h | ⟨bb,off,h,h'⟩
    ·omega
    exact⟨bb,off,h,h' k hlt⟩
   have hx':=(BR.out.cell (ZQ hx)).trans hx;clear hx;have hxr:=HR.out (l.getD k 0) Ev;have HT:=hid (show l.take (k+1)=l.take k++[l.getD k 0] by rw[List.take_add_one,aD ae,Z3,aD ae]; rfl);generalize l.getD k 0=x at hx' hxr HT;have HF:=hid (xB B x hxr.1 hxr.2 _ (HN.out.later (BR.out.mono hB)));go_wp2_with fail;refine HF.out.mono ?_;rintro e w4⟨rfl,hb4⟩;have O4:=hid (uq OW.out hb4);have B4:=Zy BR hb4;have z4:=B4.out.size;clear hb4 OW HF hx'
   go_wp2_with (at_builtin; refine wpList_append_own _ rfl _ _ 64 rfl w.heap.size 9 i0 (.string ⟨#[]⟩) 1 16 Xu hi hz0 hz1 hz2 rfl au _ _ _ rfl (O4.out.alloc _) (ZA w4.heap.size 0) 1 1 [.string (bT x)] rfl rfl ?c1 ?c2 ?c3 ?c4 ?c5 ?_)
   case c1 =>
    exact wP
   case c2=>intro u hu; simp at hu; subst hu; rfl
   case c3=>unfold maxLen; omega
   case c4=>omega
   case c5=>simp; omega
   intro v' w5 hown' hgrow _;have B5:=hid (show Zx w w5 from((B4.out.alloc z4 _).grown hgrow aA (fun k hk=>(O4.out.lt k hk).1)));have O5:=hid hown';clear hown' hgrow O4;go_wp2_with fail
   go_roundw
   case rel =>
    refine⟨k+1,ae,av,?_,B5.out⟩;rw[HT.out,show 1+(k+1)=1+k+1 by omega]
    simpa using O5.out
   case measure=>show ln-((k:Int)+1).toNat<ln-(k:Int).toNat; omega
  obtain rfl:k=ln:=ae;have htk:l.take k=l:=ZY ae;have OW2:=OW.out;rw[htk]at OW2;have Lo:=dH HS.out BR.out;obtain⟨hl2,g,cap,rfl,hcap,hg,hcl⟩:=vR OW2 ae;have HL:=hid (pc B b g 0 cap ((⟨#[32,32]⟩++wd)::l.map bT) s _ Lo (ZW hB BR.out.size) hcl hg (by rw[hl2]; exact hcap) (by rw[hl2]; omega));rw[hl2]at HL;clear OW OW2 Lo hcl;go_wp2_with fail;refine HL.out.mono ?_;rintro e w6⟨rfl,h6,LE,hh6⟩;go_wp2_with fail;go_end0;exact⟨rfl,h6,(BR.out.mono hB).trans LE,(dR.of_below BR.out).trans hh6⟩
theorem Nv(B b:Nat)(s:Zaj)(c a:Int)(la:OAz)(ln lc:Nat)(l:LIz)(w:World)(h:Lib.IsBuilder 96 5 B b (Lib.byteCells s) w)(hB:B<=w.heap.size)(htn:fq B w)(hk:aX w)(h0:0<=c)(h1:c<=255)
  (ha:-9223372036854775808<=a/\a<=9223372036854775807) (hs:gW w la ln lc l) (hlen:s.length+l.length+2+(bL (iA (ofV c).1.2.2.1 (ofV c).1.2.1 a l)).length<=140737488355328) :
  Zw 159 #[ZP b 0,.agg #[ZU c,ZI a,.slice la ln lc]] w fun e w'=>e=.returned (.tuple #[])/\Lib.BuilderAt 96 5 B b (ZP b 0) (Lib.byteCells (s++bL (iA (ofV c).1.2.2.1 (ofV c).1.2.1 a l))) w'/\Below B w w'/\dR b w w':=by
 by_cases ht0:(ofV c).1.2.2.1=0
 ·exact vB B b s c a la ln lc w h hB hk h0 h1 l ht0 hlen
 by_cases eq:(ofV c).1.2.2.1=3
 ·exact vq B b s c a la ln lc w h hB htn hk h0 h1 ha l hs eq hlen
 exact wk B b s c a la ln lc w h hB htn hk h0 h1 ha l ht0 eq hlen
end
end Go.Proofs.YtheefojaplnnoaaGreatDoor

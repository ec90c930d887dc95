/-
  Texts Ni Bi.
-/
import Derived.Test.YtheefojaplnnoaaGreatDoorY00
import Derived.Test.YtheefojaplnnoaaGreatDoorY06
import Derived.Test.YtheefojaplnnoaaGreatDoorY20
import Derived.Test.YtheefojaplnnoaaGreatDoorY33
set_option linter.unusedVariables false
set_option maxRecDepth 100000
set_option maxHeartbeats 16000000
namespace Go.Proofs.YtheefojaplnnoaaGreatDoor
open Go.RowKit Go.Shelf
set_option maxHeartbeats 16000000
def dK(A:Nat):Deferred:={ target:=.fn (.func 52) #[.pointer (some ⟨A,0,none⟩),.pointer (some ⟨A+1,0,none⟩),.pointer (some ⟨A+2,0,none⟩)],args:=#[] }
theorem Oe{tmps:Array Value}{A:Nat}{w:World}{v0 v1 v2 v3 v4 v5 v6 v7:Value}{e l:Int}(t2:tmps[2]? =some (.pointer (some ⟨A,0,none⟩)))(t3:tmps[3]? =some (.pointer (some ⟨A+1,0,none⟩)))(t4:tmps[4]? =some (.pointer (some ⟨A+2,0,none⟩)))
  (hA:w.heap[A]? =some (.cells #[v0,v1,v2,v3,v4,v5,v6,v7] 29)) (hB:w.cell? ⟨A+1,0,none⟩=some (.int .i64 e)) (hC:w.cell? ⟨A+2,0,none⟩=some (.int .i64 l)) :
  (results Tryz.f15 tmps).run Tryz.prog w=.ok (.tuple #[.agg #[v0,v1,v2,v3,v4,v5,v6,v7],.int .i64 e,.int .i64 l]) w:=by
 obtain⟨⟨m0,m1,m2,m3,m4,m5,m6,m7⟩,_⟩:=av hA
 simp[results,Tryz.results15,go_sem,t2,t3,t4,m0,m1,m2,m3,m4,m5,m6,m7,hB,hC]
theorem xD{PP:Ending→World→Prop}{tmps:Array Value}{A:Nat}{x a b:Int}{W:World}(t2:tmps[2]? =some (.pointer (some ⟨A,0,none⟩)))(t3:tmps[3]? =some (.pointer (some ⟨A+1,0,none⟩)))(t4:tmps[4]? =some (.pointer (some ⟨A+2,0,none⟩)))
  (hA:W.heap[A]? =some (.cells zV 29)) (hB:W.heap[A+1]? =some (dz a)) (hC:W.heap[A+2]? =some (bq b))
  (hP:∀w',Kept (fun k=>k=A∨k=A+1∨k=A+2) W w'→PP (rt3 zV 22 x) w'):Go.Leaves Tryz.prog Tryz.f15 tmps PP [dK A] (.panicking [{ v:=.iface 119 (.agg #[.int .i64 x]),recovered:=false }]) W:=by
 refine leaves_cons (f:=52) (args:=#[.pointer (some ⟨A,0,none⟩),.pointer (some ⟨A+1,0,none⟩),.pointer (some ⟨A+2,0,none⟩)]) ar cg ?_;refine(Nk x A (A+1) (A+2) _ _ W hA (ak (i:=0) hB) (free_at (i:=0) hB) (ak (i:=0) hC) (free_at (i:=0) hC) ae ae ae).mono ?_;rintro e u' w' ⟨rfl,rfl,q0,q1,q2,q3⟩;exact⟨_,Oe t2 t3 t4 q0 q1 q2,hP w' q3⟩
theorem Ik{PP:Ending→World→Prop}{tmps:Array Value}{A:Nat}{e l:Int}{W:World}{v0 v1 v2 v3 v4 v5 v6 v7:Value}(t2:tmps[2]? =some (.pointer (some ⟨A,0,none⟩)))(t3:tmps[3]? =some (.pointer (some ⟨A+1,0,none⟩)))(t4:tmps[4]? =some (.pointer (some ⟨A+2,0,none⟩)))
  (hA:W.heap[A]? =some (.cells #[v0,v1,v2,v3,v4,v5,v6,v7] 29)) (hB:W.heap[A+1]? =some (dz e)) (hC:W.heap[A+2]? =some (bq l))
  (hP:∀w',Below W.heap.size W w'→PP (rt3 #[v0,v1,v2,v3,v4,v5,v6,v7] e l) w'):Go.Leaves Tryz.prog Tryz.f15 tmps PP [dK A] .returning W:=by
 refine leaves_cons (f:=52) (args:=#[.pointer (some ⟨A,0,none⟩),.pointer (some ⟨A+1,0,none⟩),.pointer (some ⟨A+2,0,none⟩)]) ar cg ?_;refine(QK A (A+1) (A+2) W).mono ?_;rintro e' u' w' ⟨rfl,rfl,hb⟩;exact⟨_,Oe t2 t3 t4 (au hb hA) (ak (i:=0) (au hb hB)) (ak (i:=0) (au hb hC)),hP w' hb⟩
theorem Hi(W:World)(D:Nat)(o:Obj):Kept (fun k=>k=D) W (W.putObj D o):=⟨rfl,rfl,rfl,by simp[World.putObj],fun k _ h=>World.putObj_heap_other h⟩
theorem Gk{PP:Ending→World→Prop}{tmps:Array Value}{A D:Nat}{e l:Int}{W:World}{v0 v1 v2 v3 v4 v5 v6 v7:Value}(t2:tmps[2]? =some (.pointer (some ⟨A,0,none⟩)))(t3:tmps[3]? =some (.pointer (some ⟨A+1,0,none⟩)))(t4:tmps[4]? =some (.pointer (some ⟨A+2,0,none⟩)))
  (hA:W.heap[A]? =some (.cells #[v0,v1,v2,v3,v4,v5,v6,v7] 29)) (hB:W.heap[A+1]? =some (dz e)) (hC:W.heap[A+2]? =some (bq l)) (hD:W.heap[D]? =some (.deferred (some []))) (hn:A+2<D)
  (hP:∀w',Kept (fun k=>k=D) W w'→PP (rt3 #[v0,v1,v2,v3,v4,v5,v6,v7] e l) w'):LvK Tryz.prog Tryz.f15 tmps PP [{ target:=.collected D,args:=#[] },dK A] .returning W:=by
 have hk:=Hi W D (.deferred none)
 refine .inr ⟨D,[dK A],_,rfl,run_takeDeferred hD,Ik t2 t3 t4 ((hk.block _ (aJ hA) ae).trans hA) ((hk.block _ (aJ hB) ae).trans hB) ((hk.block _ (aJ hC) ae).trans hC) fun w' hb=>hP w' (hk.trans (aN hb))⟩
theorem yU(s:ByteArray)(w:World)(hs:s.size≤1048576)(hE:cw w.heap.size w):Calls Tryz.prog 15 #[.string s] w (sZ s w):=by
 have hmf:∀(fn:Fn)(first cap:Array Value)(w:World),(Instr.makeFunc fn first cap).run Tryz.prog w=.ok (.func fn first cap) w:=fun _ _ _ _=>rfl
 refine iV (n:=5) Tryz.func15 rfl ?_
 simp only[Tryz.ntmps15,List.size_toArray,List.length_cons,List.length_nil,Nat.reduceAdd,Nat.reduceSub,Array.replicate_succ,Array.replicate_zero,List.push_toArray,List.append_toArray,List.nil_append,List.cons_append]
 have hs':(s.size:Int)≤1048576:=ae;have HP:Hid (sZ s w=sZ s w):=hid rfl;generalize hR0:sZ s w=PP at *;have HR0:=hid hR0;clear hR0 HP
 gi_wp2_with fail
 refine⟨trivial,?_⟩;refine(callsIn_wide.2 (LV _)).mono ?_;rintro e w1⟨rfl,hm1,hb1⟩
 gi_wp2_with fail
 refine⟨trivial,?_⟩;refine(callsIn_wide.2 (x9 s _)).mono ?_;rintro e w2⟨rfl,rfl⟩
 gi_wp2_with fail
 have hm1':w1.heap[w.heap.size+3]? =some (.map kdE 8):=by simpa[Nat.add_assoc] using hm1
 have hb1':Below (w.heap.size+3) (wA w) w1:=by have h:=hb1; simp[Nat.add_assoc]at h; exact h
 have hok:=Rf s w w1 hm1' hb1';clear hm1 hb1 hm1' hb1';have hW0:wB s w w1=((((w1.alloc (.cells #[.map (some (w.heap.size+1+1+1)),.slice none 0 0,.slice none 0 0,.slice none 0 0,.int .i64 0,.int .i64 0,.slice none 0 0,.slice none 0 0,.slice none 0 0,.int .i64 0,.int .i64 0] 126)).alloc (px (some ⟨w1.heap.size,0,none⟩))).alloc (bQ s)).alloc (bQ ⟨#[10]⟩)).alloc (bq 0):=rfl;rw[← hW0];clear hW0;generalize wB s w w1=W0 at *;generalize w1.heap.size=R at *
 simp only[Nat.add_assoc,Nat.reduceAdd]
 have c1:=ak (i:=0) hok.s1;have c2:=ak (i:=0) hok.s2;have f2:=free_at (i:=0) hok.s2;have c3:=ak (i:=0) hok.s3;have HF:=JG 4 (R+3) (R+2) (R+4) ae ae s W0 c1 c2 f2 c3 ae;obtain⟨V,hV⟩:∃V,bT 0 0 pm0 (bo s)=V:=⟨_,rfl⟩;have hlen:=qR s
 refine vJ aj (gf:=174) (lb:=#[.pointer (some ⟨R+3,0,none⟩),.pointer (some ⟨R+2,0,none⟩),.pointer (some ⟨R+4,0,none⟩)]) rfl (enters_of Tryz.func174 ai rfl) (encs:=fun x:ByteArray=>#[.string x]) (fun _=>rfl) HF
  (LpI R (w.heap.size+3) W0 (bo s).length V) (LpP R W0 V) (PO _ _ _ _ _ hok.z) (Nu _ _ _ _ _) ?start
  (fun x=>{ tmps:=#[.string s,undef,.pointer (some ⟨w.heap.size,0,none⟩),.pointer (some ⟨w.heap.size+1,0,none⟩),.pointer (some ⟨w.heap.size+2,0,none⟩),.pointer (some ⟨R+1,0,none⟩),.string x,.func (.func 52) #[] #[.pointer (some ⟨w.heap.size,0,none⟩),.pointer (some ⟨w.heap.size+1,0,none⟩),.pointer (some ⟨w.heap.size+2,0,none⟩)],.string s,.int .i64 s.size,.bool (decide (1048576<(s.size:Int))),undef,.map (some (w.heap.size+3)),.agg #[.map (some (w.heap.size+3)),.slice none 0 0,.slice none 0 0,.slice none 0 0,.int .i64 0,.int .i64 0,.slice none 0 0,.slice none 0 0,.slice none 0 0,.int .i64 0,.int .i64 0],.pointer (some ⟨R,0,none⟩),.string s,.func (.func 174) #[] #[.pointer (some ⟨R+3,0,none⟩),.pointer (some ⟨R+2,0,none⟩),.pointer (some ⟨R+4,0,none⟩)],.string x,undef,undef,undef,undef,undef,undef,undef,undef,undef,undef,undef,undef,undef,undef,undef,undef,undef,undef],defers:=[] }) (fun _=>rfl) ?assign (fun _ h=>cj) (fun _ h=>cj) (fun _ h=>cj) ?body ?done ?throw
 case start =>
  refine⟨Kept.refl _ _,(fun x hx=>by have:=qw s x hx; omega),mm0,0,0,.inr ⟨by have:=hok.z; omega,rfl,rfl,rfl,hok.r⟩,P6,(fun e=>dS),ae,ae,(by show((psz pm0:Nat):Int)≤0; simp[pm0,psz]),hV⟩
 case assign =>
  exact vt
 case body =>
  intro x r W hsz hi;have hk:=hi.1
  have cv:W.cell? ⟨R+1,0,none⟩=some (.pointer (some ⟨R,0,none⟩)):=by
   have h5:=hk.block (R+1) (by have:=hok.z; omega) (fun e=>by have:=hok.z; rcases e with e | e | e <;> omega)
   exact(World.cell?_of_block h5).trans (ak (i:=0) hok.v)
  refine⟨.pointer (some ⟨R,0,none⟩),.string x,56,#[.pointer (some ⟨R,0,none⟩),.string x],rfl,?_,rfl,?_,rfl,?_,Mr (B:=w.heap.size) hok.z ae (hE.later hok.below) (by have:=hok.lo; omega) hok.k (by have:=hok.lo; omega) hsz hi⟩
  ·go_simp
  ·go_simp
  ·go_simp
 case throw =>
  rintro D ch W hD⟨hk,hv,rfl⟩ hK;have hz:=hok.z;have hlo:=hok.lo
  have hold:∀k,k<R→(W.putObj D (.deferred none)).heap[k]? =W0.heap[k]?:=fun k hk2=>(World.putObj_heap_other ae).trans (hk.block k ae (fun e=>by rcases e with e | e | e <;> omega))
  have hbl:Below w.heap.size W0 (W.putObj D (.deferred none)):=⟨hk.os,hk.tape,hk.output,by have:=hk.size; simpa[World.putObj] using this,fun k hk2=>hold k ae⟩
  refine .inr ⟨D,[dK w.heap.size],_,rfl,run_takeDeferred hK,xD rfl rfl rfl ((hold _ ae).trans hok.a) ((hold _ ae).trans hok.b) ((hold _ ae).trans hok.c) fun w' hk2=>?_⟩
  rw[← HR0.out]
  refine⟨(hok.below.trans hbl).trans ⟨hk2.os,hk2.tape,hk2.output,hk2.size,fun k hk3=>hk2.block k (by have:=hbl.size; omega) ae⟩,fun h=>ae,fun _ l o hlo2=>?_⟩
  rw[hV]at hlo2;subst hlo2;dsimp only at hv ⊢;subst hv
  exact⟨fun _=>rfl,fun p M h=>cj⟩
 case done =>
  rintro D W hD⟨hk,_,m,ln,pt,hc,hpr,hne,hl0,hl,hps,hV2⟩ hK;have hz:=hok.z;have hlo:=hok.lo
  have hn1:1≤(bo s).length:=by
   have:=vo s.data.toList
   unfold bo;rw[List.length_map];exact List.length_pos_iff.2 this
  have hq:RQ (R+7) R (.map (some (w.heap.size+3))) m ln pt W:=by
   rcases hc with hc | ⟨_,_,h0,_⟩
   ·exact hc
   ·simp at hl; omega
  have eV:V=(ln,some (pt,pl m)):=hV2.symm
  have hold:∀k,k<R→W.heap[k]? =W0.heap[k]?:=fun k hk2=>hk.block k ae (fun e=>by rcases e with e | e | e <;> omega)
  have cv:W.cell? ⟨R+1,0,none⟩=some (.pointer (some ⟨R,0,none⟩)):=by
   have h5:=hk.block (R+1) ae (fun e=>by rcases e with e | e | e <;> omega)
   exact(World.cell?_of_block h5).trans (ak (i:=0) hok.v)
  have hbW:Below w.heap.size w W:=hok.below.trans ⟨hk.os,hk.tape,hk.output,hk.size,fun k hk2=>hold k ae⟩
  have hA:=(hold _ ae).trans hok.a;have hB:=(hold _ ae).trans hok.b;have hC:=(hold _ ae).trans hok.c;clear hold hk hc HF
  by_cases h5:5≤pt
  rotate_left
  ·have HN:=hid (PF R pt ln W (hq.cells 9) (hq.cells 10) h5)
   gi_wp2_with fail
   refine⟨trivial,?_⟩;refine(callsIn_wide.2 HN.out).mono ?_;rintro e W2⟨rfl,hw2⟩;have hw3:=hw2.symm;subst hw3
   have hold2:∀k,k<R→(W.putObj D (.deferred none)).heap[k]? =W.heap[k]?:=fun k hk2=>World.putObj_heap_other ae
   have hbl:Below w.heap.size W (W.putObj D (.deferred none)):=⟨rfl,rfl,rfl,by simp[World.putObj],fun k hk2=>hold2 k ae⟩
   refine .inr ⟨D,[dK w.heap.size],_,rfl,run_takeDeferred hK,xD rfl rfl rfl ((hold2 _ ae).trans hA) ((hold2 _ ae).trans hB) ((hold2 _ ae).trans hC) fun w' hk2=>?_⟩
   rw[← HR0.out]
   refine⟨(hbW.trans hbl).trans ⟨hk2.os,hk2.tape,hk2.output,hk2.size,fun k hk3=>hk2.block k (by have:=hbl.size; have:=hbW.size; omega) ae⟩,fun h=>ae,fun _ l o hlo2=>?_⟩
   rw[hV,eV]at hlo2
   cases hlo2
   exact⟨(fun h=>cj),(fun p M h=>by cases h; exact⟨fun _=>rfl,fun h=>absurd h ae⟩)⟩
  ·have HY:=hid (LZ R pt W (hq.cells 10) h5);have q1:=hq.cells 1;have q2:=hq.cells 2;have q3:=hq.cells 3;have q4:=hq.cells 4;have q5:=hq.cells 5;have q6:=hq.cells 6;have q7:=hq.cells 7;have q8:=hq.cells 8
   simp[kC]at q1 q2 q3 q4 q5 q6 q7 q8
   have HCk:=hid (DR m W ((hE.later hbW).kinds) (fun R' g h1 h2=>hq.mok hpr R' g h1 h2))
   unfold mV at HCk
   gi_wp2_with fail
   refine⟨trivial,?_⟩;refine(callsIn_wide.2 HY.out).mono ?_;rintro e W2⟨rfl,hw2⟩;have hw3:=hw2.symm;subst hw3
   gi_wp2_with fail
   refine⟨trivial,?_⟩;refine(callsIn_wide.2 HCk.out).mono ?_;rintro e W3⟨rfl,hb3⟩;have hA3:=au hb3 hA;have hB3:=au hb3 hB;have hC3:=au hb3 hC;have hK3:=au hb3 hK;have hbW3:=hbW.trans (hb3.mono hbW.size);have hq3:=hid (hq.later hb3);have HLE:=hid hq.len
   have cv3:=(hb3.cell (p:=⟨R+1,0,none⟩) (by exact block_lt_of_cell cv)).trans cv
   have hRl:R+1<W.heap.size:=block_lt_of_cell cv;clear q1 q2 q3 q4 q5 q6 q7 q8 HY HCk hA hB hC hK hbW cv hq;have cB:=ak (i:=0) hB3;have fB:=free_at (i:=0) hB3;obtain⟨E,hEq⟩:∃E,dh m=E:=⟨_,rfl⟩;rw[hEq];have kB:=aw W3 (w.heap.size+1) 0 (.int .i64 E);have tA:=(kB.block w.heap.size (aJ hA3) ae).trans hA3;have tB:(W3.setCell ⟨w.heap.size+1,0,none⟩ (.int .i64 E)).heap[w.heap.size+1]? =some (dz E):=bS hB3;have tC:=(kB.block (w.heap.size+2) (aJ hC3) ae).trans hC3;have tK:=(kB.block D (aJ hK3) ae).trans hK3;have tv:=kB.cell cv3 ae;have hbW4:Below w.heap.size w (W3.setCell ⟨w.heap.size+1,0,none⟩ (.int .i64 E)):=hbW3.setCell (p:=⟨w.heap.size+1,0,none⟩) ar _
   have hq4:=hid (hq3.out.keptS kB ae (fun k _ _ h1 _ h2=>ae))
   have cB4:=ak (i:=0) tB;have fB4:=free_at (i:=0) tB
   by_cases hx:E=0
   rotate_left
   ·have hxb:(E==0)=false:=xx
    gi_wp2_with fail
    clear cB fB hA3 hB3 hC3 hK3 cv3 hq3 kB hbW3 hb3;generalize W3.setCell ⟨w.heap.size+1,0,none⟩ (.int .i64 E)=W4 at *;refine wpIn_wide.2 ?_;obtain⟨⟨m0,m1,m2,m3,m4,m5,m6,m7⟩,g0,g1,g2,g3,g4,g5,g6,g7⟩:=av tA;have cC:=ak (i:=0) tC;have fC:=free_at (i:=0) tC;have bd:Below W4.heap.size W4 W4.drew:=(Below.refl _ _).drew;have tA':=au bd tA;have tB':=au bd tB;have tC':=au bd tC;have tK':=au bd tK;have hb':=hbW4.trans (bd.mono hbW4.size);clear m0 m1 m2 m3 m4 m5 m6 m7 g0 g1 g2 g3 g4 g5 g6 g7 cC fC cB4 fB4 tA tB tC tK hbW4 bd tv
    refine wp_region_held_drew (S:=fun V=>V.cell? ⟨w.heap.size+1,0,none⟩=some (.int .i64 E)) ai (ak (i:=0) tB') (fun hS=>?_)
    generalize W4.drew=Wd at *;obtain⟨⟨m0,m1,m2,m3,m4,m5,m6,m7⟩,g0,g1,g2,g3,g4,g5,g6,g7⟩:=av tA';refine ryQ (rs:=[0,1]) ?_
    refine rcQ (i:=0) rfl (fun K hK=>?_) (rcQ (i:=1) rfl (fun K hK=>?_) rN)
    ·have cb4:=ak (i:=0) tB';go_simp
     refine hK.out _ _ hS (fun _=>?_)
     clear hK K;refine ryQ (rs:=[1,2]) ?_
     refine rcQ (i:=1) rfl (fun K hK=>?_) (rcQ (i:=2) rfl (fun K hK=>?_) rN)
     ·exact Od
     ·go_simp;obtain⟨p1,p2⟩:=zT (.slice none 0 0) (.slice none 0 0) (.slice none 0 0) (.int .i64 0) (.int .i64 0) (.slice none 0 0) (.slice none 0 0) (.slice none 0 0) tA';have b5:=(p2.block (w.heap.size+1) (aJ tB') ae).trans tB';have c5:=(p2.block (w.heap.size+2) (aJ tC') ae).trans tC';have d5:=(p2.block D (aJ tK') ae).trans tK'
      have f5:=hb'.trans (p2.to_below (B:=w.heap.size) (by have:=hb'.size; omega) (fun k hk=>ae))
      refine hK.out _ _ (ak (i:=0) b5) (fun hS2=>?_)
      clear hK K m0 m1 m2 m3 m4 m5 m6 m7 g0 g1 g2 g3 g4 g5 g6 g7 tA' tB' tC' tK' hb' p2 hS;generalize ((((((((Wd.setCell ⟨w.heap.size,0,none⟩ (.slice none 0 0)).setCell ⟨w.heap.size,1,none⟩ (.slice none 0 0)).setCell ⟨w.heap.size,2,none⟩ (.slice none 0 0)).setCell ⟨w.heap.size,3,none⟩ (.int .i64 0)).setCell ⟨w.heap.size,4,none⟩ (.int .i64 0)).setCell ⟨w.heap.size,5,none⟩ (.slice none 0 0)).setCell ⟨w.heap.size,6,none⟩ (.slice none 0 0)).setCell ⟨w.heap.size,7,none⟩ (.slice none 0 0))=W5 at *;refine ryQ (rs:=[1]) ?_
      refine rcQ (i:=1) rfl (fun K hK=>?_) rN
      have cb5:=ak (i:=0) b5;go_simp
      refine hK.out _ _ hS2 (fun _=>?_)
      clear hK K cb5;refine ryQ (rs:=[3]) ?_
      refine rcQ (i:=3) rfl (fun K hK=>?_) rN
      have cb5:=ak (i:=0) b5;have fb5:=free_at (i:=0) b5;go_simp;have k6:=aw W5 (w.heap.size+1) 0 (.int .i64 E);have b6:(W5.setCell ⟨w.heap.size+1,0,none⟩ (.int .i64 E)).heap[w.heap.size+1]? =some (dz E):=bS b5;have a6:=(k6.block w.heap.size (aJ p1) ae).trans p1;have c6:=(k6.block (w.heap.size+2) (aJ c5) ae).trans c5;have d6:=(k6.block D (aJ d5) ae).trans d5
      have f6:=f5.trans (k6.to_below (B:=w.heap.size) (by have:=f5.size; omega) (fun k hk=>ae))
      refine hK.out _ _ (ak (i:=0) b6) (fun hS3=>?_)
      clear hK K k6 p1 b5 c5 d5 f5 cb5 fb5 hS2;generalize W5.setCell ⟨w.heap.size+1,0,none⟩ (.int .i64 E)=W6 at *;refine ryQ (rs:=[4]) ?_
      refine rcQ (i:=4) rfl (fun K hK=>?_) rN
      have cc6:=ak (i:=0) c6;have fc6:=free_at (i:=0) c6;go_simp;have k7:=aw W6 (w.heap.size+2) 0 (.int .i64 0);have c7:(W6.setCell ⟨w.heap.size+2,0,none⟩ (.int .i64 0)).heap[w.heap.size+2]? =some (bq 0):=bS c6;have a7:=(k7.block w.heap.size (aJ a6) ae).trans a6;have b7:=(k7.block (w.heap.size+1) (aJ b6) ae).trans b6;have d7:=(k7.block D (aJ d6) ae).trans d6
      have f7:=f6.trans (k7.to_below (B:=w.heap.size) (by have:=f6.size; omega) (fun k hk=>ae))
      refine hK.out _ _ (ak (i:=0) b7) (fun hS4=>?_)
      clear hK K k7 a6 b6 c6 d6 f6 cc6 fc6 hS3;generalize W6.setCell ⟨w.heap.size+2,0,none⟩ (.int .i64 0)=W7 at *;refine wpAnyH_done ai ?_ _
      gi_wp2_with fail
      refine Gk rfl rfl rfl a7 b7 c7 d7 ae fun w' hk'=>?_
      rw[← HR0.out]
      refine⟨f7.trans (hk'.to_below (by have:=f7.size; omega) (fun k hk=>ae)),(fun h=>ae),fun _ l o hlo2=>?_⟩
      rw[hV,eV]at hlo2
      cases hlo2
      refine⟨(fun h=>cj),fun p M h=>?_⟩
      cases h
      refine⟨(fun h=>ae),fun _=>⟨m,rfl,HLE.out,hpr,fun _=>by rw[hEq]; rfl,fun h=>absurd (hEq.symm.trans h) hx⟩⟩
    ·have cb4:=ak (i:=0) tB';go_simp
     refine hK.out _ _ hS (fun _=>?_)
     clear hK K;refine ryQ (rs:=[0]) ?_
     refine rcQ (i:=0) rfl (fun K hK=>?_) rN
     exact Od
   ·subst hx;have q1:=hq3.out.cells 1;have q2:=hq3.out.cells 2;have q3:=hq3.out.cells 3;have q4:=hq3.out.cells 4;have q5:=hq3.out.cells 5;have q6:=hq3.out.cells 6;have q7:=hq3.out.cells 7;have q8:=hq3.out.cells 8
    simp[kC]at q1 q2 q3 q4 q5 q6 q7 q8
    have hRn:¬(w.heap.size+1=R):=ae;obtain⟨⟨m0,m1,m2,m3,m4,m5,m6,m7⟩,g0,g1,g2,g3,g4,g5,g6,g7⟩:=av hA3;have cC:=ak (i:=0) hC3;have fC:=free_at (i:=0) hC3
    gi_wp2_with fail
    clear q1 q2 q3 q4 q5 q6 q7 q8 m0 m1 m2 m3 m4 m5 m6 m7 g0 g1 g2 g3 g4 g5 g6 g7 cC fC cB fB hA3 hB3 hC3 hK3 cv3 hq3 kB hbW3 hb3 cB4 fB4;generalize W3.setCell ⟨w.heap.size+1,0,none⟩ (.int .i64 0)=W4 at *;obtain⟨p1,p2⟩:=zT (.slice m.ta m.tn m.tc) (.slice m.ha m.hn m.hc) (.slice m.ga m.gn m.gc) (.int .i64 m.fi) (.int .i64 m.mo) (.slice m.fa m.fn m.fc) (.slice m.da m.dn m.dc) (.slice m.ea m.en m.ec) tA;have b5:=(p2.block (w.heap.size+1) (aJ tB) ae).trans tB;have c5:=(p2.block (w.heap.size+2) (aJ tC) ae).trans tC;have d5:=(p2.block D (aJ tK) ae).trans tK
    have e5:=hq4.out.keptS p2 ae (fun k _ _ h1 _ h2=>ae)
    have f5:Below w.heap.size w _:=hbW4.trans (p2.to_below (by have:=hbW4.size; omega) (fun k hk=>ae))
    clear p2 tA tB tC tK hq4 hbW4 tv;generalize ((((((((W4.setCell ⟨w.heap.size,0,none⟩ (.slice m.ta m.tn m.tc)).setCell ⟨w.heap.size,1,none⟩ (.slice m.ha m.hn m.hc)).setCell ⟨w.heap.size,2,none⟩ (.slice m.ga m.gn m.gc)).setCell ⟨w.heap.size,3,none⟩ (.int .i64 m.fi)).setCell ⟨w.heap.size,4,none⟩ (.int .i64 m.mo)).setCell ⟨w.heap.size,5,none⟩ (.slice m.fa m.fn m.fc)).setCell ⟨w.heap.size,6,none⟩ (.slice m.da m.dn m.dc)).setCell ⟨w.heap.size,7,none⟩ (.slice m.ea m.en m.ec))=W5 at *;have k6:=aw W5 (w.heap.size+1) 0 (.int .i64 0);have b6:(W5.setCell ⟨w.heap.size+1,0,none⟩ (.int .i64 0)).heap[w.heap.size+1]? =some (dz 0):=bS b5;have a6:=(k6.block w.heap.size (aJ p1) ae).trans p1;have c6:=(k6.block (w.heap.size+2) (aJ c5) ae).trans c5;have d6:=(k6.block D (aJ d5) ae).trans d5
    have e6:=e5.keptS k6 ae (fun k _ _ h1 _ h2=>ae)
    have f6:=f5.trans (k6.to_below (B:=w.heap.size) (by have:=f5.size; omega) (fun k hk=>ae))
    clear k6 p1 b5 c5 d5 e5 f5;generalize W5.setCell ⟨w.heap.size+1,0,none⟩ (.int .i64 0)=W6 at *;have k7:=aw W6 (w.heap.size+2) 0 (.int .i64 0);have c7:(W6.setCell ⟨w.heap.size+2,0,none⟩ (.int .i64 0)).heap[w.heap.size+2]? =some (bq 0):=bS c6;have a7:=(k7.block w.heap.size (aJ a6) ae).trans a6;have b7:=(k7.block (w.heap.size+1) (aJ b6) ae).trans b6;have d7:=(k7.block D (aJ d6) ae).trans d6
    have e7:=e6.keptS k7 ae (fun k _ _ h1 _ h2=>ae)
    have f7:=f6.trans (k7.to_below (B:=w.heap.size) (by have:=f6.size; omega) (fun k hk=>ae))
    clear k7 a6 b6 c6 d6 e6 f6;generalize W6.setCell ⟨w.heap.size+2,0,none⟩ (.int .i64 0)=W7 at *
    refine Gk rfl rfl rfl a7 b7 c7 d7 ae fun w' hk'=>?_
    rw[← HR0.out]
    refine⟨f7.trans (hk'.to_below (by have:=f7.size; omega) (fun k hk=>ae)),(fun h=>ae),fun _ l o hlo2=>?_⟩
    rw[hV,eV]at hlo2
    cases hlo2
    refine⟨(fun h=>cj),fun p M h=>?_⟩
    cases h
    refine⟨(fun h=>ae),fun _=>⟨m,rfl,HLE.out,hpr,fun h=>absurd hEq h,fun _=>⟨rfl,R+7,R,.map (some (w.heap.size+3)),ln,ae,?_⟩⟩⟩
    refine e7.keptS hk' ae (fun k cs t h1 h2 h3=>?_)
    rw[h3,d7]at h2
    cases h2
theorem A6(s:ByteArray)(w:World)(hs:1048576<s.size):Calls Tryz.prog 15 #[.string s] w (sZ s w):=by
 have hmf:∀(fn:Fn)(first cap:Array Value)(w:World),(Instr.makeFunc fn first cap).run Tryz.prog w=.ok (.func fn first cap) w:=fun _ _ _ _=>rfl
 refine iV (n:=5) Tryz.func15 rfl ?_
 simp only[Tryz.ntmps15,List.size_toArray,List.length_cons,List.length_nil,Nat.reduceAdd,Nat.reduceSub,Array.replicate_succ,Array.replicate_zero,List.push_toArray,List.append_toArray,List.nil_append,List.cons_append]
 have hs':(1048576:Int)<s.size:=ae;generalize hR0:sZ s w=PP at *;have HR0:=hid hR0;clear hR0
 gi_wp2_with fail
 simp only[Nat.add_assoc,Nat.reduceAdd]
 obtain⟨a1,a2,a3,a4⟩:=Jt w
 have hblk:∀(o:Obj),(((w.alloc (cA none 0 0 none 0 0 none 0 0 0 0 none 0 0 none 0 0 none 0 0)).alloc (dz 13)).alloc o).heap.size=w.heap.size+3:=fun o=>ar
 obtain⟨W,hW⟩:∃W,(((w.alloc (cA none 0 0 none 0 0 none 0 0 0 0 none 0 0 none 0 0 none 0 0)).alloc (dz 13)).alloc (bq 0))=W:=⟨_,rfl⟩;rw[hW]
 have bW:Below w.heap.size w W:=by rw[← hW]; exact(((Below.refl _ w).alloc ar _).alloc bu _).alloc bu _
 have b1:W.heap[w.heap.size]? =some (cA none 0 0 none 0 0 none 0 0 0 0 none 0 0 none 0 0 none 0 0):=by
  rw[← hW,(ag ((w.alloc (cA none 0 0 none 0 0 none 0 0 0 0 none 0 0 none 0 0 none 0 0)).alloc (dz 13)) _).block _ bu,(ag (w.alloc (cA none 0 0 none 0 0 none 0 0 0 0 none 0 0 none 0 0 none 0 0)) _).block _ ar];exact heap_alloc_new w _
 have b2:W.heap[w.heap.size+1]? =some (dz 13):=by
  rw[← hW,(ag ((w.alloc (cA none 0 0 none 0 0 none 0 0 0 0 none 0 0 none 0 0 none 0 0)).alloc (dz 13)) _).block _ ar]
  have:=heap_alloc_new (w.alloc (cA none 0 0 none 0 0 none 0 0 0 0 none 0 0 none 0 0 none 0 0)) (dz 13)
  exact bJ
 have b3:W.heap[w.heap.size+2]? =some (bq 0):=by
  have:=heap_alloc_new ((w.alloc (cA none 0 0 none 0 0 none 0 0 0 0 none 0 0 none 0 0 none 0 0)).alloc (dz 13)) (bq 0)
  rw[← hW];exact bJ
 refine .inl (Ik rfl rfl rfl b1 b2 b3 fun w' hb=>?_)
 rw[← HR0.out]
 exact⟨bW.trans (hb.mono bW.size),fun _=>rfl,fun h=>ae⟩
theorem vO(s:ByteArray)(w:World)(hE:cw w.heap.size w):Calls Tryz.prog 15 #[.string s] w (sZ s w):=by
 by_cases hs:s.size≤1048576
 ·exact yU s w hs hE
 ·exact A6 s w ae
open Go.RowKit
theorem Rk:Tryz.prog.underlying 64=some (.slice 9):=ai
theorem Oa:(Tryz.prog.info? 9).map (fun i=>(i.zero,i.size,i.bytes))=some (some (.string ⟨#[]⟩),1,16):=ai
def fq(t:Int)(wd:ByteArray)(a:Int)(l:List Int):List ByteArray:=(⟨#[32,32]⟩++wd)::(if t=0 then [] else if t=3 then l.map aW else [aW a])
theorem py(x:ByteArray)(xs:List ByteArray):x.size+1≤(bI (x::xs)).length:=by
 rw[bI,List.length_append,List.map_cons]
 cases xs with
 | nil=>simp[Lib.join]
 | cons y ys=>simp[Lib.join]
theorem lq(wd:ByteArray):(⟨#[32,32]⟩++wd:ByteArray).size=2+wd.size:=by
 rw[ByteArray.size_append]; rfl
theorem tN{w:World}{base n:Nat}{v:Value}{xs:List ByteArray}(h:w.ownsRow base 9 1 v n (xs.map Value.string))(hn:n≠0) :
  xs.length=n∧∃g cap,v=.slice (some ⟨g,0,none⟩) n cap∧n≤cap∧g<w.heap.size∧∀(j:Nat)x,xs[j]? =some x→w.cell? ⟨g,0+j,none⟩=some (.string x):=by
 have hl:xs.length=n:=by have:=h.1; simpa using this
 rcases h.2 with ⟨_,hz⟩ | ⟨g,cap,cur,hv,hb,hg,hnc,hcm,hcs,htk⟩
 ·exact absurd hz hn
 ·refine⟨hl,g,cap,hv,hnc,?_,?_⟩
  ·rcases Nat.lt_or_ge g w.heap.size with h' | h'
   ·exact h'
   ·simp[Array.getElem?_eq_none h']at hg
  ·intro j x hx
   have:=h.cells (g:=g) (by rw[hv]; rfl) j (.string x) fZ
   cases j with
   | zero=>simpa[Addr.add] using this
   | succ j=>simpa[Addr.add] using this
theorem sY(B b:Nat)(s:List UInt8)(c a:Int)(la:Option Addr)(ln lc:Nat)(w:World)(h:Lib.IsBuilder 96 5 B b (Lib.byteCells s) w)(hB:B≤w.heap.size)(hk:aP w)(h0:0≤c)(h1:c≤255)
  (l:List Int) (htt:(ofV c).1.2.2.1=0) (hlen:s.length+l.length+2+(bI (fq (ofV c).1.2.2.1 (ofV c).1.2.1 a l)).length≤140737488355328) :
  Calls Tryz.prog 159 #[.pointer (some ⟨b,0,none⟩),.agg #[.int .u8 c,.int .i64 a,.slice la ln lc]] w fun e w'=>e=.returned (.tuple #[])∧Lib.BuilderAt 96 5 B b (.pointer (some ⟨b,0,none⟩)) (Lib.byteCells (s++bI (fq (ofV c).1.2.2.1 (ofV c).1.2.1 a l))) w'∧Below B w w'∧cY b w w':=by
 have B0:=ag w (aF c a la ln lc);have HO:=hid (of6 c _ (hk.later B0 hk.pos) h0 h1);generalize (ofV c).1=row at *;obtain⟨rc,wd,t,pp,ps,pl⟩:=row;obtain rfl:t=0:=htt;unfold rv mS at HO;have BB:=hid B0
 go_enter Tryz.func159,Tryz.ntmps159
 go_wp2_with fail;refine HO.out.mono ?_;rintro e w1⟨rfl,hb1⟩;have B1:=hid (BB.out.trans (hb1.mono ar))
 have B3:=hid (Below.trans (Below.trans B1.out ((ag w1 (br rc wd 0 pp ps pl)).mono B1.out.size)) ((ag _ (bQ (⟨#[32,32]⟩++wd))).mono (by have:=B1.out.size; simp; omega)))
 have h3:s.length+l.length+2+(bI [⟨#[32,32]⟩++wd]).length≤140737488355328:=hlen
 have hwd:wd.size+2≤140737488355328:=by
  have h1:=py (⟨#[32,32]⟩++wd) [];have h2:=lq wd;omega
 have HL:=hid (fun x=>mP B b (w1.heap.size+1) 0 1 [⟨#[32,32]⟩++wd] s _ (cP h B3.out) (Nat.le_trans hB B3.out.size) x ar ar (by show s.length+1+_≤_; omega))
 clear hb1 BB;have hws:(⟨#[32,32]⟩:ByteArray).size+wd.size≤9223372036854775807:=xw;go_wp2_with fail;refine(HL.out ?_).mono ?_
 ·intro j x hx
  match j,hx with
  | 0,hx=>simp at hx; subst hx; simp[go_sem]
 rintro e w2⟨rfl,h2,hb2,hh2⟩;go_wp2_with fail;go_end0
 exact⟨rfl,by simpa[fq] using h2,(B3.out.mono hB).trans hb2,(cY.of_below B3.out).trans hh2⟩
end Go.Proofs.YtheefojaplnnoaaGreatDoor

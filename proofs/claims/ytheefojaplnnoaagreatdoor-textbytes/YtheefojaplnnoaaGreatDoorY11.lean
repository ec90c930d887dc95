/-
  Texts Word Kinds Small Ref Of.
-/
import Derived.BigQuiet
import Derived.Deep.QuietTactic
import Derived.Deep.RegionHeld3
import Derived.KernelRfl
import Derived.RangeFuncBox
import Derived.RowKit
import Derived.Test.YtheefojaplnnoaaGreatDoorProg
import Derived.WalkKit
import Derived.WalkLawsBesides
import Derived.WalkSpells
import Derived.Test.YtheefojaplnnoaaGreatDoorY00
import Derived.Test.YtheefojaplnnoaaGreatDoorY10
set_option linter.unusedVariables false
set_option maxRecDepth 100000
set_option maxHeartbeats 16000000
namespace Go.Proofs.YtheefojaplnnoaaGreatDoor
open Go.RowKit Go.Shelf
def aD(cs:List (Addr×Value))(W:World):Prop:=∀p∈cs,W.cell? p.1=some p.2∧W.frozen? p.1=false
theorem aD.grown{cs:List (Addr×Value)}{A B:World}{row:Option Nat}(h:aD cs A)(hg:A.grownBy B row)(hr:∀r,row=some r→∃o:Obj,A.heap[r]? =some o∧o.isCells=false):aD cs B :=
 fun p hp=>⟨cell_kept (h p hp).1 hg hr,(frozen_kept (h p hp).1 hg hr).trans (h p hp).2⟩
theorem aD.turned{cs:List (Addr×Value)}{W:World}(h:aD cs W){l:Nat}{o:Obj}(o':Obj)(hl:W.heap[l]? =some o)(ho:o.isCells=false):aD cs (W.putObj l o') :=
 h.grown (grownBy_putObj' W l o') (fun r e=>by cases e; exact⟨o,hl,ho⟩)
theorem aD.other{cs:List (Addr×Value)}{W:World}(h:aD cs W)(c:Addr)(v:Value)(hc:∀p∈cs,c≠p.1):aD cs (W.setCell c v) :=
 fun p hp=>⟨(World.cell?_setCell_other _ _ _ _ (hc p hp)).trans (h p hp).1,(World.frozen?_setCell _ _ _ _).trans (h p hp).2⟩
theorem aD.cons{p:Addr×Value}{cs:List (Addr×Value)}{W:World}(h1:W.cell? p.1=some p.2)(h2:W.frozen? p.1=false)(h:aD cs W):aD (p::cs) W :=
 fun q hq=>by
  rcases List.mem_cons.1 hq with rfl | hq
  ·exact⟨h1,h2⟩
  ·exact h q hq
theorem aD.set{c:Addr}{u v:Value}{cs:List (Addr×Value)}{W:World}(h:aD ((c,u)::cs) W)(hc:∀p∈cs,c≠p.1):aD ((c,v)::cs) (W.setCell c v):=by
 have h1:=h (c,u) ar
 refine aD.cons (World.cell?_setCell_same' _ _ _ (by rw[h1.1]; rfl)) ((World.frozen?_setCell _ _ _ _).trans h1.2) (aD.other (fun p hp=>h p (by simp[hp])) _ _ hc)
theorem aD.set2{c d:Addr}{u1 u2 v1 v2:Value}{W:World}(h:aD [(c,u1),(d,u2)] W)(hc:c≠d):aD [(c,v1),(d,v2)] ((W.setCell c v1).setCell d v2):=by
 have h1:=h (c,u1) ar;have h2:=h (d,u2) ar
 have k1:aD [(d,u2)] (W.setCell c v1):=aD.other (aD.cons (cs:=[]) h2.1 h2.2 ky) _ _ (by simpa using hc)
 have k2:aD [(c,v1)] (W.setCell c v1):=aD.set (aD.cons (cs:=[]) h1.1 h1.2 ky) ar
 have k3:aD [(c,v1)] ((W.setCell c v1).setCell d v2):=aD.other k2 _ _ (by simpa using Ne.symm hc)
 have k4:aD [(d,v2)] ((W.setCell c v1).setCell d v2):=aD.set k1 ar;exact aD.cons (k3 _ ar).1 (k3 _ ar).2 k4
theorem dP.other{ps:List Addr}(W:World)(c:Addr)(v:Value)(hc:∀p∈ps,c≠p):dP ps W (W.setCell c v) :=
 fun p hp u hu=>⟨(World.cell?_setCell_other _ _ _ _ (hc p hp)).trans hu,World.frozen?_setCell _ _ _ _⟩
theorem qg{fn:Func}{p:Tmp}{ty:TypeId}(h:fn.results=#[.cell p ty])(tmps:Array Value)(P:Program)(w:World) :
  (results fn tmps).run P w=((asAddr (tmps.getD p undef)).run P w).andThen fun a w₁=>(loadVar ty a).run P w₁:=by
 simp only[results,h]
 simp[Sem.run_bind,Result.andThen]
theorem kV{fn:Func}{p q:Tmp}{ty tz:TypeId}(h:fn.results=#[.cell p ty,.cell q tz])(tmps:Array Value)(P:Program)(w:World) :
  (results fn tmps).run P w=((asAddr (tmps.getD p undef)).run P w).andThen fun a w₁=>((loadVar ty a).run P w₁).andThen fun v w₂=>((asAddr (tmps.getD q undef)).run P w₂).andThen fun b w₃=>((loadVar tz b).run P w₃).andThen fun u w₄=>.ok (.tuple #[v,u]) w₄:=by
 simp only[results,h]
 simp[Sem.run_bind,Result.andThen]
def mH(f op:Int)(a:ByteArray):List ByteArray→ByteArray
 | []=>⟨#[]⟩
 | p::r=>if f=op then a++p else mH (f+1) op a r
theorem OP(f l op:Int)(a ws:ByteArray)(w:World)(h0:0≤f)(hb:f+(cV ws).length≤255)(hsz:ws.size≤1099511627776)(ha:a.size≤1099511627776) :
  Calls Tryz.prog 226 #[.agg #[.int .u8 f,.int .u8 l,.string a,.string ws],.int .u8 op] w fun e w'=>e=.returned (.string (mH f op a (cV ws)))∧Below w.heap.size w w':=by
 obtain⟨xs,hxs⟩:∃xs,cV ws=xs:=⟨_,rfl⟩;have hlen:=vI ws;rw[hxs]at hb hlen ⊢;obtain⟨V,hV⟩:∃V,mH f op a xs=V:=⟨_,rfl⟩;rw[hV];refine(callsIn_wide (n:=5)).1 ?_;refine callsIn_of_wp_marks Tryz.func226 rfl trivial ?_ rfl
 simp only[Tryz.ntmps226,List.size_toArray,List.length_cons,List.length_nil,Nat.reduceAdd,Nat.reduceSub,Array.replicate_succ,Array.replicate_zero,List.push_toArray,List.append_toArray,List.nil_append,List.cons_append]
 gi_wp2_with fail
 refine⟨trivial,?_⟩;refine(callsIn_wide.2 (rX ws _)).mono ?_;rintro e w' ⟨rfl,rfl⟩
 gi_wp2_with fail
 simp only[Nat.add_assoc,Nat.reduceAdd]
 obtain⟨W0,hW0⟩:∃W0,(((((((w.alloc (pu f l a ws)).alloc (jr op)).alloc (bQ ⟨#[]⟩)).alloc (jr f)).alloc (bQ ws)).alloc (bQ ⟨#[32]⟩)).alloc (bq 0))=W0:=⟨_,rfl⟩;rw[hW0]
 have B0:Below w.heap.size w W0:=by rw[← hW0]; exact(((((((Below.refl _ w).alloc ar _).alloc bu _).alloc bu _).alloc bu _).alloc bu _).alloc bu _).alloc bu _
 have z0:W0.heap.size=w.heap.size+7:=eI;have k2:W0.cell? ⟨w.heap.size,2,none⟩=some (.string a):=eI;have o1:W0.cell? ⟨w.heap.size+1,0,none⟩=some (.int .u8 op):=eI;have r0:W0.cell? ⟨w.heap.size+2,0,none⟩=some (.string ⟨#[]⟩):=eI;have rf:W0.frozen? ⟨w.heap.size+2,0,none⟩=false:=eI;have a0:W0.cell? ⟨w.heap.size+3,0,none⟩=some (.int .u8 f):=eI;have af:W0.frozen? ⟨w.heap.size+3,0,none⟩=false:=eI;have c2:W0.cell? ⟨w.heap.size+4,0,none⟩=some (.string ws):=eI;have f2:W0.frozen? ⟨w.heap.size+4,0,none⟩=false:=eI;have c1:W0.cell? ⟨w.heap.size+5,0,none⟩=some (.string ⟨#[32]⟩):=eI;have c3:W0.cell? ⟨w.heap.size+6,0,none⟩=some (.int .i64 0):=eI;have kf:W0.frozen? ⟨w.heap.size,2,none⟩=false:=eI;have of:W0.frozen? ⟨w.heap.size+1,0,none⟩=false:=eI;clear hW0;have HF:=Dx 4 (w.heap.size+5) (w.heap.size+4) (w.heap.size+6) ae ae ws W0 c1 c2 f2 c3 hsz;rw[hxs]at HF
 refine qi rfl aj (gf:=174) (lb:=#[.pointer (some ⟨w.heap.size+5,0,none⟩),.pointer (some ⟨w.heap.size+4,0,none⟩),.pointer (some ⟨w.heap.size+6,0,none⟩)]) rfl trivial (enters_of Tryz.func174 ai rfl) (encs:=fun x:ByteArray=>#[.string x]) (fun _=>rfl)
  HF
  (fun r W=>aD [(⟨w.heap.size+3,0,none⟩,.int .u8 (f+xs.length-r.length)),(⟨w.heap.size,2,none⟩,.string a),(⟨w.heap.size+1,0,none⟩,.int .u8 op),(⟨w.heap.size+2,0,none⟩,.string ⟨#[]⟩)] W∧Below w.heap.size w W∧r.length≤xs.length∧(∀p∈r,p.size≤ws.size)∧mH (f+xs.length-r.length) op a r=V)
  (fun j W=>j=.ret∧aD [(⟨w.heap.size+2,0,none⟩,.string V)] W∧Below w.heap.size w W)
  ?own ?ownx ?cells ?start
  (fun x=>{ tmps:=#[.agg #[.int .u8 f,.int .u8 l,.string a,.string ws],.int .u8 op,.pointer (some ⟨w.heap.size,0,none⟩),.pointer (some ⟨w.heap.size+1,0,none⟩),.pointer (some ⟨w.heap.size+2,0,none⟩),.pointer (some ⟨w.heap.size+3,0,none⟩),.string x,.pointer (some ⟨w.heap.size,0,none⟩),.int .u8 f,.pointer (some ⟨w.heap.size,3,none⟩),.string ws,
   .func (.func 174) #[] #[.pointer (some ⟨w.heap.size+5,0,none⟩),.pointer (some ⟨w.heap.size+4,0,none⟩),.pointer (some ⟨w.heap.size+6,0,none⟩)],.string x,undef,undef,undef,undef,undef,undef,undef,undef,undef],defers:=[] }) ?assign ?body ?done ?stop
 case own =>
  exact Jm
 case ownx =>
  exact Kw
 case cells =>
  exact fun r A v hs=>⟨hs.1.other _ _ ar,hs.2.1.setCell (p:=⟨w.heap.size+4,0,none⟩) ar _,hs.2.2⟩
 case start =>
  refine⟨?_,B0,Nat.le_refl _,hlen,by rw[← hV]; congr 1; omega⟩
  refine aD.cons (by simp only[a0]; congr 2; omega) af (aD.cons k2 kf (aD.cons o1 of (aD.cons r0 rf ky)))
 case assign =>
  exact vt
 case body =>
  rintro m x r W⟨hc,hB,hr,hp,hv⟩;have hsem:=@Oper.semAt_some;have d1:=hc _ (List.mem_cons_self ..);have d2:=hc _ (List.mem_cons_of_mem _ (List.mem_cons_self ..));have d3:=hc _ (List.mem_cons_of_mem _ (List.mem_cons_of_mem _ (List.mem_cons_self ..)));have d4:=hc _ (List.mem_cons_of_mem _ (List.mem_cons_of_mem _ (List.mem_cons_of_mem _ (List.mem_cons_self ..))));obtain⟨q,hq⟩:∃q:Int,f+xs.length-(x::r).length=q:=⟨_,rfl⟩;rw[hq]at hc d1 hv;have q0:0≤q:=uB;have q1:q+1≤255:=uB
  have q2:f+xs.length-r.length=q+1:=by simp at hq; omega
  have hx:x.size≤ws.size:=hp x ar;have hax:¬(a.size+x.size > 9223372036854775807):=ae
  by_cases he:q=op
  ·subst he
   gi_wp2_with fail
   refine⟨(KeepsOthers.setCell _ _ _).from _,rfl,?_,hB.setCell (p:=⟨w.heap.size+2,0,none⟩) ar _⟩;rw[mH,if_pos rfl]at hv;rw[← hv];exact aD.set (aD.cons d4.1 d4.2 ky) ar
  ·gi_wp2_with fail
   rw[mH,if_neg he]at hv
   refine⟨(KeepsOthers.setCell _ _ _).from _,?_,?_,hB.setCell (p:=⟨w.heap.size+3,0,none⟩) ar _,by simp at hr; omega,fun p h=>hp p (by simp[h]),hv⟩
   ·exact dP.other _ _ _ ar
   ·exact aD.set hc ar
 case done =>
  rintro D W hD⟨hc,hB,_,_,hv⟩ hK;have d4:=hc _ (List.mem_cons_of_mem _ (List.mem_cons_of_mem _ (List.mem_cons_of_mem _ (List.mem_cons_self ..))));have d5:=d4.1;have d6:=d4.2
  gi_wp2_with fail
  have hK2:=(KeepsOthers.setCell W ⟨w.heap.size+2,0,none⟩ (.string ⟨#[]⟩)).same _ _ hK rfl;refine⟨ar,.inl ⟨_,_,rfl,run_takeDeferred hK2,?_⟩⟩;have hH:=(aD.set (v:=.string ⟨#[]⟩) (aD.cons (cs:=[]) d4.1 d4.2 ky) ar).turned (.deferred none) hK2 rfl;have e1:=(hH _ (List.mem_cons_self ..)).1;have hBB:=(hB.setCell (p:=⟨w.heap.size+2,0,none⟩) ar (.string ⟨#[]⟩)).trans (belowK_b (w:=w) (Nat.le_refl _) _ D _ (.deferred none) ae hK2 rfl rfl);generalize World.putObj _ D (.deferred none)=W5 at e1 hBB ⊢;refine⟨.string V,?_,rfl,hBB⟩;rw[qg rfl];rw[← hv,mH];go_simp
 case stop =>
  rintro D j W hD⟨rfl,hc,hB⟩ hK
  gi_wp2_with fail
  refine⟨ar,.inl ⟨_,_,rfl,run_takeDeferred hK,?_⟩⟩;have e1:=((hc.turned (.deferred none) hK rfl) _ (List.mem_cons_self ..)).1;have hBB:=hB.trans (belowK_b (w:=w) (Nat.le_refl _) _ D _ (.deferred none) ae hK rfl rfl);generalize World.putObj _ D (.deferred none)=W5 at e1 hBB ⊢;refine⟨.string V,?_,rfl,hBB⟩;rw[qg rfl];go_simp
theorem LU(a b:ByteArray):(a.toList==b.toList)=decide (a=b):=by
 rw[ByteArray.toList_eq,ByteArray.toList_eq]
 by_cases h:a=b
 ·simp[h]
 ·rw[decide_eq_false h,beq_eq_false_iff_ne]
  exact fun e=>h (ko e)
open Go.RowKit
def kW0:ByteArray:=⟨#[116,114,97,112,32,110,111,112,32,98,108,111,99,107,32,108,111,111,112,32,105,102,32,101,108,115,101,32,101,110,100,32,98,114,32,98,114,105,102,32,98,114,116,97,98,108,101,32,114,101,116,117,114,110,32,99,97,108,108,32,104,111,115,116]⟩
def kW1:ByteArray:=⟨#[100,114,111,112,32,115,101,108,101,99,116,32,103,101,116,32,115,101,116,32,116,101,101,32,103,103,101,116,32,103,115,101,116]⟩
def kW2:ByteArray:=⟨#[119,46,99,111,110,115,116,32,108,46,99,111,110,115,116]⟩
def kW3:ByteArray:=⟨#[119,46,108,111,97,100,56,117,32,119,46,108,111,97,100,56,115,32,119,46,108,111,97,100,49,54,117,32,119,46,108,111,97,100,49,54,115,32,119,46,108,111,97,100,32,108,46,108,111,97,100,32,119,46,115,116,111,114,101,56,32,119,46,115,116,111,114,101,49,54,32,119,46,115,116,111,114,101,32,108,46,115,116,111,114,101,32,115,105,122,101,32,103,114,111,119]⟩
def kW4:ByteArray:=⟨#[101,113,122,32,101,113,32,110,101,32,108,116,115,32,108,116,117,32,108,101,115,32,108,101,117,32,99,108,122,32,99,116,122,32,112,111,112,32,97,100,100,32,115,117,98,32,109,117,108,32,100,105,118,115,32,100,105,118,117,32,114,101,109,115,32,114,101,109,117,32,97,110,100,32,111,114,32,120,111,114,32,115,104,108,32,115,104,114,115,32,115,104,114,117,32,114,111,116,108,32,114,111,116,114]⟩
def kW5:ByteArray:=⟨#[101,113,122,32,101,113,32,110,101,32,108,116,115,32,108,116,117,32,108,101,115,32,108,101,117,32,99,108,122,32,99,116,122,32,112,111,112,32,97,100,100,32,115,117,98,32,109,117,108,32,100,105,118,115,32,100,105,118,117,32,114,101,109,115,32,114,101,109,117,32,97,110,100,32,111,114,32,120,111,114,32,115,104,108,32,115,104,114,115,32,115,104,114,117,32,114,111,116,108,32,114,111,116,114]⟩
def kW6:ByteArray:=⟨#[119,46,119,114,97,112,32,108,46,101,120,116,101,110,100,115,32,108,46,101,120,116,101,110,100,117,32,119,46,101,120,116,56,32,119,46,101,120,116,49,54,32,108,46,101,120,116,51,50]⟩
def kF:Nat→Int
 | 0=>0
 | 1=>16
 | 2=>24
 | 3=>32
 | 4=>48
 | 5=>80
 | _=>112
def kL:Nat→Int
 | 0=>12
 | 1=>22
 | 2=>25
 | 3=>43
 | 4=>72
 | 5=>104
 | _=>117
def kA:Nat→ByteArray
 | 0=>⟨#[]⟩
 | 1=>⟨#[]⟩
 | 2=>⟨#[]⟩
 | 3=>⟨#[]⟩
 | 4=>⟨#[119,46]⟩
 | 5=>⟨#[108,46]⟩
 | _=>⟨#[]⟩
def kW:Nat→ByteArray
 | 0=>kW0
 | 1=>kW1
 | 2=>kW2
 | 3=>kW3
 | 4=>kW4
 | 5=>kW5
 | _=>kW6
def pD:List Value:=[.int .u8 0,.int .u8 12,.string ⟨#[]⟩,.string kW0,.int .u8 16,.int .u8 22,.string ⟨#[]⟩,.string kW1,.int .u8 24,.int .u8 25,.string ⟨#[]⟩,.string kW2,.int .u8 32,.int .u8 43,.string ⟨#[]⟩,.string kW3,.int .u8 48,.int .u8 72,.string ⟨#[119,46]⟩,.string kW4,.int .u8 80,.int .u8 104,.string ⟨#[108,46]⟩,.string kW5,.int .u8 112,.int .u8 117,.string ⟨#[]⟩,.string kW6]
def pG:Value:=.agg pD.toArray
def aP(w:World):Prop:=∀j v,pD[j]? =some v→w.cell? ⟨0,j,none⟩=some v
theorem aP.pos{w:World}(h:aP w):0<w.heap.size:=World.block_lt_of_cell? w ⟨0,0,none⟩ (h 0 _ rfl)
theorem aP.later{n:Nat}{w w':World}(h:aP w)(hb:Below n w w')(hn:0<n):aP w' :=
 fun j v hj=>(hb.cell (p:=⟨0,j,none⟩) hn).trans (h j v hj)
theorem EB{w:World}(h:aP w):(loadVar 288 ⟨0,0,none⟩).run Tryz.prog w=.ok pG w:=by
 have hl:(loadCells ⟨0,0,none⟩ 28).run Tryz.prog w=.ok pD.toArray w:=run_loadCells_list (P:=Tryz.prog) w ⟨0,0,none⟩ pD (fun j v hj=>by
  have e:(⟨0,0,none⟩:Addr).add j=⟨0,j,none⟩:=iG;rw[e];exact h j v hj)
 unfold loadVar
 simp only[Sem.run_bind,Tryz.isAgg288,Result.andThen,if_true,Tryz.sizeOf288,hl,Sem.run_pure]
 rfl
theorem r9{w:World}(h:aP w)(a:Act)(d:Option Tmp)(p:String)(af:Array Edge)(g:Option (Nat×Bool)) :
  (execOp a.eval { dst:=d,op:=Op.load 288 (Operand.global 0),type:=288,pos:=p,after:=af,guard:=g }).run Tryz.prog w=.ok (.value pG) w:=by
 show(do pure (Next.value (← Instr.loadAt 288 (.pointer (some ⟨0,0,none⟩)))):Sem Next).run Tryz.prog w=_
 have e:(Instr.sureAddr (.pointer (some ⟨0,0,none⟩))).run Tryz.prog w=.ok ⟨0,0,none⟩ w:=rfl;unfold Instr.loadAt
 simp only[Sem.run_bind,e,Sem.run_pure,Result.andThen,EB h]
set_option maxRecDepth 20000 in
theorem zf{w:World}(i:Nat)(hi:i<7):(Instr.index 288 pG (.int .i64 i)).run Tryz.prog w=.ok (.agg #[.int .u8 (kF i),.int .u8 (kL i),.string (kA i),.string (kW i)]) w:=by
 have h:i=0∨i=1∨i=2∨i=3∨i=4∨i=5∨i=6:=ae
 rcases h with rfl | rfl | rfl | rfl | rfl | rfl | rfl <;> simp[Instr.index,go_sem,pG,pD,kF,kL,kA,kW]
theorem mX(i:Nat)(hi:i<7):0≤kF i∧kF i≤kL i∧kL i≤117∧kF i+(cV (kW i)).length≤255∧(kW i).size≤1099511627776∧(kA i).size≤1099511627776:=by
 have h:i=0∨i=1∨i=2∨i=3∨i=4∨i=5∨i=6:=ae
 rcases h with rfl | rfl | rfl | rfl | rfl | rfl | rfl <;> decide +kernel
def vL(c:Int):Int :=
 if c=2 then 1 else if c=3 then 1 else if c=4 then 1 else if c=7 then 2 else if c=8 then 2 else if c=9 then 3 else if c=11 then 4 else if c=12 then 5
 else if c=18 then 6 else if c=19 then 6 else if c=20 then 6 else if c=21 then 7 else if c=22 then 7 else if c=24 then 8 else if c=25 then 8
 else if c=32 then 9 else if c=33 then 9 else if c=34 then 9 else if c=35 then 9 else if c=36 then 9 else if c=37 then 9 else if c=38 then 9 else if c=39 then 9 else if c=40 then 9 else if c=41 then 9 else 0
def wq(c:Int):Bool:=decide (c=1∨24≤c)
def zC(k:Int)(s:ByteArray):ByteArray×ByteArray :=
 if k=0 then (s,⟨#[119]⟩) else if k≤6 then (s++s,⟨#[119]⟩) else if k≤9 then (s,s) else (s++s,s)
def sV(c:Int):ByteArray×ByteArray :=
 if 48≤c∧c≤72 then zC (c-48) ⟨#[119]⟩ else if 80≤c∧c≤104 then zC (c-80) ⟨#[108]⟩
 else if c=24 then (⟨#[]⟩,⟨#[119]⟩) else if c=42 then (⟨#[]⟩,⟨#[119]⟩) else if c=25 then (⟨#[]⟩,⟨#[108]⟩)
 else if c=32 then (⟨#[119]⟩,⟨#[119]⟩) else if c=33 then (⟨#[119]⟩,⟨#[119]⟩) else if c=34 then (⟨#[119]⟩,⟨#[119]⟩) else if c=35 then (⟨#[119]⟩,⟨#[119]⟩) else if c=36 then (⟨#[119]⟩,⟨#[119]⟩) else if c=43 then (⟨#[119]⟩,⟨#[119]⟩) else if c=115 then (⟨#[119]⟩,⟨#[119]⟩) else if c=116 then (⟨#[119]⟩,⟨#[119]⟩)
 else if c=37 then (⟨#[119]⟩,⟨#[108]⟩) else if c=113 then (⟨#[119]⟩,⟨#[108]⟩) else if c=114 then (⟨#[119]⟩,⟨#[108]⟩)
 else if c=112 then (⟨#[108]⟩,⟨#[119]⟩) else if c=117 then (⟨#[108]⟩,⟨#[108]⟩)
 else if c=38 then (⟨#[119,119]⟩,⟨#[]⟩) else if c=39 then (⟨#[119,119]⟩,⟨#[]⟩) else if c=40 then (⟨#[119,119]⟩,⟨#[]⟩) else if c=41 then (⟨#[119,108]⟩,⟨#[]⟩) else (⟨#[]⟩,⟨#[]⟩)
theorem MO(c:Int)(w:World):Calls Tryz.prog 227 #[.int .u8 c] w fun e w'=>e=.returned (.int .i8 (vL c))∧w'=w:=by
 go_enter Tryz.func227,Tryz.ntmps227
 go_wp2
 all_goals (go_ret; exact⟨by unfold vL; simp_all,rfl⟩)
theorem LJ(c:Int)(w:World):Calls Tryz.prog 228 #[.int .u8 c] w fun e w'=>e=.returned (.bool (wq c))∧w'=w:=by
 go_enter Tryz.func228,Tryz.ntmps228
 go_wp2
 all_goals (go_ret; refine⟨?_,rfl⟩; unfold wq; simp_all)
theorem Oo(k:Int)(s:ByteArray)(w:World)(hs:s.size≤1099511627776):Calls Tryz.prog 255 #[.int .u8 k,.string s] w fun e w'=>e=.returned (.tuple #[.string (zC k s).1,.string (zC k s).2])∧w'=w:=by
 have hax:¬(s.size+s.size > 9223372036854775807):=ae
 go_enter Tryz.func255,Tryz.ntmps255
 go_wp2
 all_goals (go_ret2; refine⟨?_,rfl⟩; unfold zC; simp_all)
 all_goals (repeat rw[if_neg ae])
 all_goals exact⟨rfl,rfl⟩
theorem Jz(c:Int)(w:World)(h0:0≤c)(h1:c≤255):Calls Tryz.prog 225 #[.int .u8 c] w fun e w'=>e=.returned (.tuple #[.string (sV c).1,.string (sV c).2])∧w'=w:=by
 by_cases ha:48≤c∧c≤72
 ·rw[show sV c=zC (c-48) ⟨#[119]⟩ by unfold sV; rw[if_pos ha]]
  obtain⟨ha1,ha2⟩:=ha
  go_enter Tryz.func225,Tryz.ntmps225
  go_wp2_with fail;refine(Oo (c-48) ⟨#[119]⟩ w aj).mono ?_;rintro e w' ⟨rfl,rfl⟩;go_wp2;go_ret2;exact⟨rfl,rfl⟩
 ·by_cases hb:80≤c∧c≤104
  ·rw[show sV c=zC (c-80) ⟨#[108]⟩ by unfold sV; rw[if_neg ha,if_pos hb]]
   obtain⟨hb1,hb2⟩:=hb;have hx:¬c≤72:=ae
   go_enter Tryz.func225,Tryz.ntmps225
   go_wp2_with fail;refine(Oo (c-80) ⟨#[108]⟩ w aj).mono ?_;rintro e w' ⟨rfl,rfl⟩;go_wp2;go_ret2;exact⟨rfl,rfl⟩
  ·unfold sV;rw[if_neg ha,if_neg hb]
   go_enter Tryz.func225,Tryz.ntmps225
   go_wp2_with fail
   all_goals (go_ret2; first | exact⟨rfl,rfl⟩ | (refine⟨?_,rfl⟩; simp_all))
theorem jI{ops:Array Oper}{Q:Exit→Act→World→Prop}{o:Oper}{rest:List Oper}{a:Act}{w w':World}{v:Value}(hg:o.guard=none)(he:(execOp a.eval o).run Tryz.prog w=.ok (.value v) w')
  (h:wpList Tryz.prog ops Q rest (a.put o.dst v) w'):wpList Tryz.prog ops Q (o::rest) a w :=
 wpList_plain hg fun K hK=>by simp only[Oper.wp,he,Oper.upon_value]; exact hK _ _ h
def mS(k:Int)(wd:ByteArray)(tk:Int)(pp ps:ByteArray)(pl:Bool):Array Value:=#[.int .u8 k,.string wd,.int .i8 tk,.string pp,.string ps,.bool pl]
abbrev mJ:=Int×ByteArray×Int×ByteArray×ByteArray×Bool
def jR:mJ:=(0,⟨#[]⟩,0,⟨#[]⟩,⟨#[]⟩,false)
def rv(x:mJ):Array Value:=mS x.1 x.2.1 x.2.2.1 x.2.2.2.1 x.2.2.2.2.1 x.2.2.2.2.2
def rowAt(b:Nat)(x:mJ):List (Addr×Value):=[(⟨b,0,none⟩,.int .u8 x.1),(⟨b,1,none⟩,.string x.2.1),(⟨b,2,none⟩,.int .i8 x.2.2.1),(⟨b,3,none⟩,.string x.2.2.2.1),(⟨b,4,none⟩,.string x.2.2.2.2.1),(⟨b,5,none⟩,.bool x.2.2.2.2.2)]
theorem jo{b:Nat}{x:mJ}{W:World}(h:aD (rowAt b x) W) :
  (W.cell? ⟨b,0,none⟩=some (.int .u8 x.1)∧W.cell? ⟨b,1,none⟩=some (.string x.2.1)∧W.cell? ⟨b,2,none⟩=some (.int .i8 x.2.2.1)∧W.cell? ⟨b,3,none⟩=some (.string x.2.2.2.1)∧W.cell? ⟨b,4,none⟩=some (.string x.2.2.2.2.1)∧W.cell? ⟨b,5,none⟩=some (.bool x.2.2.2.2.2)) ∧
  (W.frozen? ⟨b,0,none⟩=false∧W.frozen? ⟨b,1,none⟩=false∧W.frozen? ⟨b,2,none⟩=false∧W.frozen? ⟨b,3,none⟩=false∧W.frozen? ⟨b,4,none⟩=false∧W.frozen? ⟨b,5,none⟩=false):=by
 unfold rowAt at h;exact⟨⟨(h (⟨b,0,none⟩,_) ar).1,(h (⟨b,1,none⟩,_) ar).1,(h (⟨b,2,none⟩,_) ar).1,(h (⟨b,3,none⟩,_) ar).1,(h (⟨b,4,none⟩,_) ar).1,(h (⟨b,5,none⟩,_) ar).1⟩,
  (h _ (List.mem_cons_self ..)).2,(h (⟨b,1,none⟩,.string x.2.1) ar).2,(h (⟨b,2,none⟩,.int .i8 x.2.2.1) ar).2,(h (⟨b,3,none⟩,.string x.2.2.2.1) ar).2,(h (⟨b,4,none⟩,.string x.2.2.2.2.1) ar).2,(h (⟨b,5,none⟩,.bool x.2.2.2.2.2) ar).2⟩
theorem aD.later{cs:List (Addr×Value)}{n:Nat}{A B:World}(h:aD cs A)(hb:Below n A B)(hn:∀p∈cs,p.1.block<n):aD cs B :=
 fun p hp=>⟨(hb.cell (hn p hp)).trans (h p hp).1,(hb.frozen (hn p hp)).trans (h p hp).2⟩
def Kl(i:Nat)(c:Int):mJ:=(c,mH (kF i) c (kA i) (cV (kW i)),vL c,(sV c).1,(sV c).2,wq c)
def uC:Nat→Nat→Int→mJ×Bool
 | 0,_,_=>(jR,false)
 | n+1,i,c=>if kF i≤c∧c≤kL i then (Kl i c,true) else uC n (i+1) c
def ofV(c:Int):mJ×Bool:=uC 7 0 c
theorem of6(c:Int)(w:World)(hk:aP w)(h0:0≤c)(h1:c≤255):Calls Tryz.prog 178 #[.int .u8 c] w fun e w'=>e=.returned (.tuple #[.agg (rv (ofV c).1),.bool (ofV c).2])∧Below w.heap.size w w':=by
 obtain⟨V,hV⟩:∃V,ofV c=V:=⟨_,rfl⟩;rw[hV]
 go_enter Tryz.func178,Tryz.ntmps178
 refine wp_seq_k fun K1 hK1=>wp_region_lit ?_
 refine jI rfl (v:=.pointer (some ⟨w.heap.size,0,none⟩)) (w':=w.alloc (br 0 ⟨#[]⟩ 0 ⟨#[]⟩ ⟨#[]⟩ false)) cg ?_;refine jI rfl (v:=.bool false) (w':=w.alloc (br 0 ⟨#[]⟩ 0 ⟨#[]⟩ ⟨#[]⟩ false)) cg ?_;refine wpList_nil (hK1 _ _ ?_);clear hK1;have hb:Below w.heap.size w (w.alloc (br 0 ⟨#[]⟩ 0 ⟨#[]⟩ ⟨#[]⟩ false)):=(Below.refl _ w).alloc (Nat.le_refl _) _
 have hc:aD (rowAt w.heap.size jR) (w.alloc (br 0 ⟨#[]⟩ 0 ⟨#[]⟩ ⟨#[]⟩ false)):=by
  unfold rowAt jR
  refine aD.cons ?_ ?_ (aD.cons ?_ ?_ (aD.cons ?_ ?_ (aD.cons ?_ ?_ (aD.cons ?_ ?_ (aD.cons ?_ ?_ ky))))) <;> simp[go_sem]
 refine wp_seq_k fun K2 hK2=>wp_seq_k fun K3 hK3=>wp_region_lit ?_
 refine jI rfl (r9 (hk.later hb hk.pos) _ _ _ _ _) ?_;obtain⟨kv,hkv⟩:∃kv,pG=kv:=⟨_,rfl⟩;rw[hkv]
 have run_kind':∀(w:World)(i:Nat)(hi:i<7),(Instr.index 288 kv (.int .i64 i)).run Tryz.prog w=.ok (.agg #[.int .u8 (kF i),.int .u8 (kL i),.string (kA i),.string (kW i)]) w:=fun w i hi=>hkv ▸ zf i hi
 have HK:=hid run_kind';clear run_kind' hkv;go_wp2_with fail
 go_loopw [9] (fun p wr=>∃i:Nat,p=.int .i64 i∧i≤7∧Below w.heap.size w wr∧aD (rowAt w.heap.size jR) wr∧uC (7-i) i c=V) (fun p wr=>7-(intOf p).toNat)
 case atStart=>exact⟨0,rfl,aj,hb,hc,hV⟩
 case round =>
  clear hb hc hV;obtain⟨i,rfl,hi,hB,hR,hV⟩:=hrel
  by_cases h7:i=7
  ·subst h7;have hx:V=(jR,false):=hV.symm;subst hx;obtain⟨⟨d0,d1,d2,d3,d4,d5⟩,e0,e1,e2,e3,e4,e5⟩:=jo hR;go_wp2_with fail;refine bodyPost_ret (v:=.tuple #[.agg (rv jR),.bool false]) ?_ rfl ⟨rfl,?_⟩
   ·rw[results_cell_tmp rfl];go_simp;rfl
   ·exact(((((hB.setCell (p:=⟨w.heap.size,0,none⟩) ar _).setCell (p:=⟨w.heap.size,1,none⟩) ar _).setCell (p:=⟨w.heap.size,2,none⟩) ar _).setCell (p:=⟨w.heap.size,3,none⟩) ar _).setCell (p:=⟨w.heap.size,4,none⟩) ar _).setCell (p:=⟨w.heap.size,5,none⟩) ar _
  have hlt:(i:Int)<7:=ae;have hix:=HK.out wr i ae;obtain⟨f0,f1,f2,f3,f4,f5⟩:=mX i ae
  have HF:=hid ((OP (kF i) (kL i) c (kA i) (kW i) · f0 f3 f4 f5))
  obtain⟨n,hn⟩:∃n,7-i=n+1:=⟨6-i,ae⟩;rw[hn,uC]at hV;have hwd:(Kl i c).2.1=mH (kF i) c (kA i) (cV (kW i)):=rfl;generalize mH (kF i) c (kA i) (cV (kW i))=wd at HF hwd
  by_cases hin:kF i≤c∧c≤kL i
  ·obtain⟨g1,g2⟩:=hin;rw[if_pos ⟨g1,g2⟩]at hV;generalize kF i=f at *;generalize kL i=l at *;generalize kA i=a at *;generalize kW i=ws at *;go_wp2_with fail;refine(Jz c _ h0 h1).mono ?_;rintro e w2⟨rfl,rfl⟩;go_wp2_with fail;refine(HF.out _).mono ?_;rintro e w3⟨rfl,hb3⟩;go_wp2_with fail;refine(MO c w3).mono ?_;rintro e w4⟨rfl,rfl⟩;go_wp2_with fail;refine(LJ c w4).mono ?_;rintro e w5⟨rfl,rfl⟩;have hwr:w.heap.size<wr.heap.size:=World.block_lt_of_cell? wr ⟨w.heap.size,0,none⟩ (jo hR).1.1
   have hR3:aD (rowAt w.heap.size jR) w5:=(hR.grown (World.grownBy_alloc wr _ none) (fun r e=>dS)).later hb3 (by simp[rowAt]; omega)
   have hB3:Below w.heap.size w w5:=(hB.alloc hB.size _).trans (hb3.mono aI);clear hb3 hR;obtain⟨⟨d0,d1,d2,d3,d4,d5⟩,e0,e1,e2,e3,e4,e5⟩:=jo hR3;go_wp2_with fail;subst hV
   refine bodyPost_ret (v:=.tuple #[.agg #[.int .u8 c,.string wd,.int .i8 (vL c),.string (sV c).1,.string (sV c).2,.bool (wq c)],.bool true]) ?_ rfl ⟨by rw[← hwd]; rfl,?_⟩
   ·exact jp
   ·exact(((((hB3.setCell (p:=⟨w.heap.size,0,none⟩) ar _).setCell (p:=⟨w.heap.size,1,none⟩) ar _).setCell (p:=⟨w.heap.size,2,none⟩) ar _).setCell (p:=⟨w.heap.size,3,none⟩) ar _).setCell (p:=⟨w.heap.size,4,none⟩) ar _).setCell (p:=⟨w.heap.size,5,none⟩) ar _
  ·rw[if_neg hin]at hV;have hwr:w.heap.size<wr.heap.size:=World.block_lt_of_cell? wr ⟨w.heap.size,0,none⟩ (jo hR).1.1
   have hR2:=hid (hR.grown (World.grownBy_alloc wr (pu (kF i) (kL i) (kA i) (kW i)) none) (fun r e=>dS))
   have hB2:=hid (hB.alloc hB.size (pu (kF i) (kL i) (kA i) (kW i)));have hV2:=hid hV;clear hV hR hB;have hw:wrap64 ((i:Int)+1)=i+1:=dv;clear HF hwd f0 f1 f2 f3 f4 f5;generalize kF i=f at *;generalize kL i=l at *;generalize kA i=a at *;generalize kW i=ws at *
   by_cases hlow:c<f
   ·exact DL
   ·have hhigh:l<c:=ae;exact DL
end Go.Proofs.YtheefojaplnnoaaGreatDoor

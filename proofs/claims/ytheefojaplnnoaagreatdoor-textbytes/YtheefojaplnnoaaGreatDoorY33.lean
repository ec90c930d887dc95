/-
  Texts Nf Ng Nh.
-/
import Derived.Test.YtheefojaplnnoaaGreatDoorY00
import Derived.Test.YtheefojaplnnoaaGreatDoorY32
set_option linter.unusedVariables false
set_option maxRecDepth 100000
set_option maxHeartbeats 16000000
namespace Go.Proofs.YtheefojaplnnoaaGreatDoor
open Go.RowKit
def LvK(P:Program)(fn:Func)(tmps:Array Value)(R:Ending→World→Prop)(ds:List Deferred)(u:FrameMode)(w:World):Prop :=
 Go.Leaves P fn tmps R ds u w∨∃D es w',ds={ target:=.collected D,args:=#[] }::es∧(Instr.takeDeferred D).run P w=.ok [] w'∧Go.Leaves P fn tmps R es u w'
def EY(P:Program)(fn:Func)(R:Ending→World→Prop):Exit→Act→World→Prop
 | .normal,a,w | .ret,a,w=>LvK P fn a.tmps R a.defers .returning w
 | .panic chain,a,w=>LvK P fn a.tmps R a.defers (.panicking chain) w
 | .outgrown,_,w=>R .outgrown w
 | _,_,_=>False
theorem pR{P:Program}{fn:Func}{tmps:Array Value}{R:Ending→World→Prop}{ds:List Deferred}{u:FrameMode}{w:World}{fr:Frame}{cs:List Frame}(hm:fr.mode=u)(hu:u≠.run)(hd:fr.defers=ds)(ht:fr.tmps=tmps)(hf:P.funcs[fr.fn]? =some fn)(hk:fr.kind=.normal)(h:LvK P fn tmps R ds u w) :
  ∃e w' fr',R e w'∧Comes P (lone fr cs w) (lone fr' cs w') e∧fr'.fn=fr.fn∧fr'.leaving P w' e:=by
 rcases h with h | ⟨D,es,w1,rfl,htake,h⟩
 ·exact leaves_steps ds u w fr cs hm hd ht hf hk h
 ·have h1:=step_collected (P:=P) (cs:=cs) (hm ▸ hu) hd rfl htake
  obtain⟨e,w',fr',hR,hs,hfn,hl⟩:=leaves_steps es u w1 { fr with defers:=[]++es } cs hm rfl ht hf hk h
  exact⟨e,w',fr',hR,Comes.of_steps (.one h1) hs,hfn,hl⟩
theorem iV{P:Program}{n:Nat}{f:FuncId}{fn:Func}{c:Code}{args:Array Value}{w:World}{R:Ending→World→Prop}(hf:P.funcs[f]? =some fn)(hb:fn.body=some c)
  (h:c.wpIn Fence.wide n P (EY P fn R) { tmps:=args++Array.replicate (fn.ntmps-args.size) undef,defers:=[] } w):Calls P f args w R:=by
 intro cs
 let b:Frame:={ (default:Frame) with fn:=f,kind:=.normal,roundOf:=none }
 have henter:Frame.enter P f args .normal=b.atR { tmps:=args++Array.replicate (fn.ntmps-args.size) undef,defers:=[] } [.code c]:=by
  simp[Frame.enter,Frame.atR,hf,hb,b]
 obtain⟨e,a',w',hq,harr⟩:=h b [] cs rfl trivial (room_wide _);rw[← henter]at harr
 cases e with
 | normal =>
  obtain⟨e',w'',fr',hR,hs,hfn,hl⟩:=pR (fr:={ b.atR a' []with mode:=.returning }) (cs:=cs) rfl ar rfl rfl hf rfl hq
  exact⟨e',w'',fr',hR,Comes.of_steps (Steps.trans (stepsIn_wide.1 harr) (.one (stepR_end rfl))) hs,hfn,hl⟩
 | ret =>
  obtain⟨todo,hs₀⟩:=harr.1 rfl
  obtain⟨e',w'',fr',hR,hs,hfn,hl⟩:=pR (fr:={ b.atR a' todo with mode:=.returning }) (cs:=cs) rfl ar rfl rfl hf rfl hq
  exact⟨e',w'',fr',hR,Comes.of_steps (stepsIn_wide.1 hs₀) hs,hfn,hl⟩
 | panic chain =>
  obtain⟨todo,hs₀⟩:=harr
  obtain⟨e',w'',fr',hR,hs,hfn,hl⟩:=pR (fr:={ b.atR a' todo with mode:=.panicking chain }) (cs:=cs) rfl ar rfl rfl hf rfl hq
  exact⟨e',w'',fr',hR,Comes.of_steps (stepsIn_wide.1 hs₀) hs,hfn,hl⟩
 | exit id=>exact hq.elim
 | goto l=>exact hq.elim
 | outgrown=>exact⟨.outgrown,w',b,hq,harr.resolve_left (by simp[b]),rfl,trivial⟩
theorem RQ.keptS{S:Nat→Prop}{base R:Nat}{mp:Value}{m:MM}{ln pt:Int}{w w':World}(h:RQ base R mp m ln pt w)(hk:Kept S w w')(hR:¬S R)(hS:∀k cs t,base≤k→w.heap[k]? =some (.cells cs t)→¬S k):RQ base R mp m ln pt w':=by
 have ho:∀{e k n:Nat} {v:Value} {xs:List Value},w.ownsRow base e k v n xs→w'.ownsRow base e k v n xs:=fun {e k n v xs} h=>jE h hk (fun b hb hs=>by
  obtain⟨h1,cur,h2⟩:=iK h hb;exact hS b _ _ h1 h2 hs)
 exact⟨(hk.block R (aJ h.blk) hR).trans h.blk,h.low,Nat.le_trans h.bw hk.size,ho h.rt,ho h.rh,ho h.rg,ho h.rf,ho h.rd,ho h.re,fun x hx=>⟨ho (h.fo x hx).code,fun y hy=>ho ((h.fo x hx).lab y hy)⟩,h.fd,fun x hx=>ho (h.dd x hx),h.nf⟩
def mm0:MM:={ ta:=none,tn:=0,tc:=0,types:=[],ha:=none,hn:=0,hc:=0,hosts:=[],ga:=none,gn:=0,gc:=0,globals:=[],fi:=0,mo:=0,fa:=none,fn:=0,fc:=0,fns:=[],da:=none,dn:=0,dc:=0,data:=[],ea:=none,en:=0,ec:=0,exps:=[] }
theorem jM(w:World)(base e k:Nat):w.ownsRow base e k (.slice none 0 0) 0 []:=⟨ar,.inl ⟨rfl,rfl⟩⟩
theorem RQ.zero{base R:Nat}{mp:Value}{w:World}(h:w.heap[R]? =some (.cells (kC mp mm0 0 0) 126))(hR:R<base)(hb:base≤w.heap.size):RQ base R mp mm0 0 0 w :=
 ⟨h,hR,hb,jM _ _ _ _,jM _ _ _ _,jM _ _ _ _,jM _ _ _ _,jM _ _ _ _,jM _ _ _ _,(fun x hx=>lC),(fun i j x y k hx=>by simp[mm0]at hx),(fun x hx=>lC),fun _=>rfl⟩
def Core(base R:Nat)(mp:Value)(m:MM)(ln pt:Int)(w:World):Prop :=
 RQ base R mp m ln pt w∨(w.heap.size<base∧m=mm0∧ln=0∧pt=0∧w.heap[R]? =some (.cells (kC mp mm0 0 0) 126))
theorem Core.rq{base R:Nat}{mp:Value}{m:MM}{ln pt:Int}{w:World}(h:Core base R mp m ln pt w)(hb:base≤w.heap.size):RQ base R mp m ln pt w:=by
 rcases h with h | ⟨h,_⟩
 ·exact h
 ·omega
theorem Core.keptS{S:Nat→Prop}{base R:Nat}{mp:Value}{m:MM}{ln pt:Int}{w w':World}(h:Core base R mp m ln pt w)(hk:Kept S w w')(hb:R<base)(hR:¬S R)(hS:∀k cs t,base≤k→w.heap[k]? =some (.cells cs t)→¬S k):Core base R mp m ln pt w':=by
 rcases h with h | ⟨h1,rfl,rfl,rfl,h2⟩
 ·exact .inl (h.keptS hk hR hS)
 ·have h3:=(hk.block R (aJ h2) hR).trans h2
  by_cases hb2:base≤w'.heap.size
  ·exact .inl (RQ.zero h3 hb hb2)
  ·exact .inr ⟨ae,rfl,rfl,rfl,h3⟩
theorem zA{W W':World}{row:Option Nat}(h:W.grownBy W' row):Kept (fun k=>row=some k) W W':=⟨h.os,h.tape,h.output,h.size,fun k hk hs=>h.block k hk (fun e=>hs e.symm)⟩
open Go.RowKit Go.Shelf
set_option maxHeartbeats 8000000
abbrev KW(R:Nat)(W0 W:World):Prop:=Kept (fun k=>k=R∨k=R+2∨W0.heap.size≤k) W0 W
def LpI(R KB:Nat)(W0:World)(n:Nat)(V:Int×Option (Int×PM))(r:List ByteArray)(W:World):Prop :=
 KW R W0 W∧(∀x∈r,x.size≤2097152)∧∃m ln pt,Core (R+7) R (.map (some KB)) m ln pt W∧PR (pl m)∧(pt=6→m.fns≠[])∧0≤ln∧ln+r.length=n∧(psz (pl m):Int)≤ln∧bT ln pt (pl m) r=V
def LpP(R:Nat)(W0:World)(V:Int×Option (Int×PM))(ch:List PanicEntry)(W:World):Prop :=
 KW R W0 W∧V.2=none∧ch=[{ v:=.iface 119 (.agg #[.int .i64 V.1]),recovered:=false }]
theorem PO(R KB:Nat)(W0:World)(n:Nat)(V:Int×Option (Int×PM))(hz:W0.heap.size=R+5):OwnFrom W0.heap.size (LpI R KB W0 n V):=by
 rintro r W W' row ⟨hk,hx,m,ln,pt,hc,h⟩ hg hr;have hk2:=zA hg
 refine⟨hk.then hk2 (fun k _ e=>.inr (.inr (hr k e).1)),hx,m,ln,pt,?_,h⟩
 refine hc.keptS hk2 ae (fun e=>by have:=(hr R e).1; omega) (fun k cs t _ hk3 e=>?_)
 obtain⟨_,o,ho,hn⟩:=hr k e;rw[hk3]at ho
 cases ho
 simp[Obj.isCells]at hn
theorem Nu(R KB:Nat)(W0:World)(n:Nat)(V:Int×Option (Int×PM))(r:List ByteArray)(A:World)(v:Value)(h:LpI R KB W0 n V r A):LpI R KB W0 n V r (A.setCell ⟨R+2,0,none⟩ v):=by
 obtain⟨hk,hx,m,ln,pt,hc,h⟩:=h;have hk2:=aw A (R+2) 0 v
 exact⟨hk.then hk2 (fun k _ e=>.inr (.inl e)),hx,m,ln,pt,hc.keptS hk2 ae (fun e=>ae) (fun k _ _ hb _ e=>ae),h⟩
theorem Mr{B R KB:Nat}{W0 W:World}{n:Nat}{V:Int×Option (Int×PM)}{x:ByteArray}{r:List ByteArray}(hz:W0.heap.size=R+5)(hn:n≤2097152)(hE:cw B W0)(hBR:B≤R)(hK:W0.heap[KB]? =some (.map kdE 8))(hKR:KB<R)
  (hsz:W0.heap.size+2≤W.heap.size) (h:LpI R KB W0 n V (x::r) W) :
  Calls Tryz.prog 56 #[.pointer (some ⟨R,0,none⟩),.string x] W fun e W'=>(∃v,e=.returned v∧(∀k,W0.heap.size≤k→k<W0.heap.size+2→W'.heap[k]? =W.heap[k]?)∧dP [⟨R+3,0,none⟩,⟨R+2,0,none⟩,⟨R+4,0,none⟩] W W'∧LpI R KB W0 n V r W') ∨
   (∃ch,e=.panicked ch∧(∀k,W0.heap.size≤k→k<W0.heap.size+2→W'.heap[k]? =W.heap[k]?)∧LpP R W0 V ch W'):=by
 obtain⟨hk,hx,m,ln,pt,hc,hpr,hne,hl0,hl,hps,hV⟩:=h;have hq:=hc.rq ae
 have hbl:Below B W0 W:=⟨hk.os,hk.tape,hk.output,hk.size,fun k hk'=>hk.block k (by have:=hE.bw; omega) (fun e=>by rcases e with e | e | e <;> omega)⟩
 have hxs:=hx x ar
 simp only[List.length_cons]at hl
 refine(QJ x hq hxs ⟨hl0,ae⟩ (hE.later hbl) hBR ae hne ((hk.block KB ae (fun e=>by rcases e with e | e | e <;> omega)).trans hK) ae ae).mono ?_
 rintro e W' ⟨hkr,hres⟩
 have hsame:∀k,W0.heap.size≤k→k<W0.heap.size+2→W'.heap[k]? =W.heap[k]?:=fun k h1 h2=>hkr.block k ae (fun e=>by rcases e with e | e <;> omega)
 have hkk:KW R W0 W':=hk.then hkr (fun k _ e=>by rcases e with e | e; exact .inl e; exact .inr (.inr ae))
 unfold bT at hV
 cases ht:dB pt (pl m) x with
 | none =>
  rw[ht]at hres hV;have hres:e=thL (ln+1):=hres;subst hres;dsimp only at hV;subst hV;exact .inr ⟨_,rfl,hsame,hkk,rfl,rfl⟩
 | some y =>
  obtain⟨p',M'⟩:=y;rw[ht]at hres hV;obtain⟨rfl,m',hq',rfl⟩:=hres;dsimp only at hV
  have hst:=Mm ht hpr (fun e=>by have:=hne e; unfold pl; simpa using this) hxs
  refine .inl ⟨_,rfl,hsame,?_,hkk,fun y hy=>hx y lO,m',ln+1,p',.inl hq',hst.pr,fun e=>by have:=hst.ne e; unfold pl at this; simpa using this,ae,ae,by have:=hst.sz; omega,hV⟩
  intro p hp v hv;have hlt:=block_lt_of_cell hv
  have hb:∀k,k<R+7→k≠R→k<W.heap.size→W'.heap[k]? =W.heap[k]?:=fun k h1 h2 h3=>hkr.block k h3 (fun e=>by rcases e with e | e <;> omega)
  simp only[List.mem_cons,List.not_mem_nil,or_false]at hp
  rcases hp with rfl | rfl | rfl
  ·have h5:=hb (R+3) ae ae hlt;exact wU
  ·have h5:=hb (R+2) ae ae hlt;exact wU
  ·have h5:=hb (R+4) ae ae hlt;exact wU
set_option maxHeartbeats 16000000
theorem mD:∀(l:List UInt8),(bA l).length≤l.length+1
 | []=>by simp[bA]
 | b::l=>by
  have ih:=mD l;unfold bA
  split
  ·simp; omega
  ·split
   ·simp
   ·rename_i p r h
    rw[h]at ih
    simp at ih ⊢
    omega
theorem qR(s:ByteArray):(bo s).length≤s.size+1:=by
 unfold bo;rw[List.length_map]
 have:=mD s.data.toList
 have e:s.data.toList.length=s.size:=Array.length_toList;omega
def rt3(v:Array Value)(e l:Int):Ending:=.returned (.tuple #[.agg v,.int .i64 e,.int .i64 l])
theorem RQ.len{base R:Nat}{mp:Value}{m:MM}{ln pt:Int}{w:World}(h:RQ base R mp m ln pt w):LnM m :=
 ⟨(ei (g:=nU) (fun _=>rfl) aj h.rt).symm,(ei (g:=iw) (fun _=>rfl) aj h.rh).symm,(ei (g:=eT) (fun _=>rfl) aj h.rg).symm,(ei (g:=dR) (fun _=>rfl) aj h.rf).symm,(ei (g:=nX) (fun _=>rfl) aj h.rd).symm,(ei (g:=oU) (fun _=>rfl) aj h.re).symm⟩
def sZ(s:ByteArray)(w:World)(e:Ending)(w':World):Prop :=
 Below w.heap.size w w'∧(1048576<s.size→e=rt3 zV 13 0) ∧
 (s.size≤1048576→∀l o,bT 0 0 pm0 (bo s)=(l,o)→(o=none→e=rt3 zV 22 l) ∧
  ∀p M,o=some (p,M)→(p<5→e=rt3 zV 22 l)∧(5≤p→∃m,pl m=M∧LnM m∧PR M∧(dh m≠0→e=rt3 zV (dh m) 0)∧(dh m=0→e=rt3 (mV m) 0 0∧∃base R mp ln,w.heap.size≤R∧RQ base R mp m ln p w')))
structure SC(s:ByteArray)(w W0:World)(R:Nat):Prop where
 z:W0.heap.size=R+5
 lo:w.heap.size+3<R
 below:Below w.heap.size w W0
 a:W0.heap[w.heap.size]? =some (.cells zV 29)
 b:W0.heap[w.heap.size+1]? =some (dz 0)
 c:W0.heap[w.heap.size+2]? =some (bq 0)
 k:W0.heap[w.heap.size+3]? =some (.map kdE 8)
 r:W0.heap[R]? =some (.cells (kC (.map (some (w.heap.size+3))) mm0 0 0) 126)
 v:W0.heap[R+1]? =some (px (some ⟨R,0,none⟩))
 s2:W0.heap[R+2]? =some (bQ s)
 s1:W0.heap[R+3]? =some (bQ ⟨#[10]⟩)
 s3:W0.heap[R+4]? =some (bq 0)
def wA(w:World):World:=((w.alloc (.cells zV 29)).alloc (dz 0)).alloc (bq 0)
def wB(s:ByteArray)(w w1:World):World:=((((w1.alloc (.cells (kC (.map (some (w.heap.size+3))) mm0 0 0) 126)).alloc (px (some ⟨w1.heap.size,0,none⟩))).alloc (bQ s)).alloc (bQ ⟨#[10]⟩)).alloc (bq 0)
theorem CL(w:World):(wA w).heap.size=w.heap.size+3:=by simp[wA]
theorem Jt(w:World):(wA w).heap[w.heap.size]? =some (.cells zV 29)∧(wA w).heap[w.heap.size+1]? =some (dz 0)∧(wA w).heap[w.heap.size+2]? =some (bq 0)∧Below w.heap.size w (wA w):=by
 refine⟨?_,?_,?_,(((Below.refl _ w).alloc ar _).alloc bu _).alloc bu _⟩
 ·unfold wA;rw[(ag ((w.alloc (.cells zV 29)).alloc (dz 0)) _).block _ bu,(ag (w.alloc (.cells zV 29)) _).block _ ar];exact heap_alloc_new w _
 ·unfold wA;rw[(ag ((w.alloc (.cells zV 29)).alloc (dz 0)) _).block _ ar]
  have:=heap_alloc_new (w.alloc (.cells zV 29)) (dz 0)
  exact bJ
 ·have:=heap_alloc_new ((w.alloc (.cells zV 29)).alloc (dz 0)) (bq 0)
  simpa[wA] using this
theorem Rf(s:ByteArray)(w w1:World)(hm:w1.heap[w.heap.size+3]? =some (.map kdE 8))(hb:Below (w.heap.size+3) (wA w) w1):SC s w (wB s w w1) w1.heap.size:=by
 obtain⟨a1,a2,a3,a4⟩:=Jt w;have z:=CL w;have hz:=hb.size;have hlt:=aJ hm;have B1:Below w1.heap.size w1 (wB s w w1):=(((((Below.refl _ w1).alloc ar _).alloc bu _).alloc bu _).alloc bu _).alloc bu _;obtain⟨y0,hy0⟩:∃y,w1.alloc (.cells (kC (.map (some (w.heap.size+3))) mm0 0 0) 126)=y:=⟨_,rfl⟩;obtain⟨y1,hy1⟩:∃y,y0.alloc (px (some ⟨w1.heap.size,0,none⟩))=y:=⟨_,rfl⟩;obtain⟨y2,hy2⟩:∃y,y1.alloc (bQ s)=y:=⟨_,rfl⟩;obtain⟨y3,hy3⟩:∃y,y2.alloc (bQ ⟨#[10]⟩)=y:=⟨_,rfl⟩;obtain⟨y4,hy4⟩:∃y,y3.alloc (bq 0)=y:=⟨_,rfl⟩
 have e:wB s w w1=y4:=by unfold wB; rw[hy0,hy1,hy2,hy3,hy4]
 have z0:y0.heap.size=w1.heap.size+1:=by rw[← hy0]; simp
 have z1:y1.heap.size=w1.heap.size+2:=by rw[← hy1]; simp[z0]
 have z2:y2.heap.size=w1.heap.size+3:=by rw[← hy2]; simp[z1]
 have z3:y3.heap.size=w1.heap.size+4:=by rw[← hy3]; simp[z2]
 have z4:y4.heap.size=w1.heap.size+5:=by rw[← hy4]; simp[z3]
 have c0:y0.heap[w1.heap.size]? =some (.cells (kC (.map (some (w.heap.size+3))) mm0 0 0) 126):=by rw[← hy0]; exact heap_alloc_new _ _
 have c1:y1.heap[w1.heap.size+1]? =some (px (some ⟨w1.heap.size,0,none⟩)):=by rw[← hy1,← z0]; exact heap_alloc_new _ _
 have c2:y2.heap[w1.heap.size+2]? =some (bQ s):=by rw[← hy2,← z1]; exact heap_alloc_new _ _
 have c3:y3.heap[w1.heap.size+3]? =some (bQ ⟨#[10]⟩):=by rw[← hy3,← z2]; exact heap_alloc_new _ _
 have c4:y4.heap[w1.heap.size+4]? =some (bq 0):=by rw[← hy4,← z3]; exact heap_alloc_new _ _
 have b1:=hy1 ▸ ag y0 (px (some ⟨w1.heap.size,0,none⟩));have b2:=hy2 ▸ ag y1 (bQ s);have b3:=hy3 ▸ ag y2 (bQ ⟨#[10]⟩);have b4:=hy4 ▸ ag y3 (bq 0);rw[e]at B1 ⊢
 have old:∀k,k<w.heap.size+3→y4.heap[k]? =(wA w).heap[k]?:=fun k hk=>(B1.block k ae).trans (hb.block k ae)
 refine⟨z4,hlt,(a4.trans (hb.mono ae)).trans (B1.mono ae),(old _ ae).trans a1,(old _ ae).trans a2,(old _ ae).trans a3,(B1.block _ ae).trans hm,?_,?_,?_,?_,c4⟩
 ·exact(b4.block _ ae).trans ((b3.block _ ae).trans ((b2.block _ ae).trans ((b1.block _ ae).trans c0)))
 ·exact(b4.block _ ae).trans ((b3.block _ ae).trans ((b2.block _ ae).trans c1))
 ·exact(b4.block _ ae).trans ((b3.block _ ae).trans c2)
 ·exact(b4.block _ ae).trans c3
end Go.Proofs.YtheefojaplnnoaaGreatDoor

/-
  Texts Nd Na Nb Ne.
-/
import Derived.RangeFuncLeaves
import Derived.Test.YtheefojaplnnoaaGreatDoorY00
import Derived.Test.YtheefojaplnnoaaGreatDoorY10
import Derived.Test.YtheefojaplnnoaaGreatDoorY20
import Derived.Test.YtheefojaplnnoaaGreatDoorY31
set_option linter.unusedVariables false
set_option maxRecDepth 100000
set_option maxHeartbeats 16000000
namespace Go.Proofs.YtheefojaplnnoaaGreatDoor
open Go.RowKit
theorem gY{α:Type}{w:World}{base e k n c:Nat}{a:Option Addr}{l:List α}(gc:α→List Value)(hk:∀x,(gc x).length=k)(hp:0<k)(h:w.ownsRow base e k (.slice a n c) n (l.flatMap gc)) :
  l.length=n∧(n=0∨∃b off,a=some ⟨b,off,none⟩∧∀(j:Nat)x,l[j]? =some x→∀q y,(gc x)[q]? =some y→w.cell? ⟨b,off+j*k+q,none⟩=some y):=by
 refine⟨ei hk hp h,?_⟩
 rcases h.2 with ⟨h0,hz⟩ | ⟨b,cp,cur,h1,h2,h3,h4,h5,h6,h7⟩
 ·exact .inl hz
 ·injection h1 with e1 e2 e3
  refine .inr ⟨b,0,e1,fun j x hj q y hq=>?_⟩
  have hq':q<k:=by have:=(List.getElem?_eq_some_iff.1 hq).1; rw[hk]at this; exact this
  have hx:(l.flatMap gc)[j*k+q]? =some y:=by rw[zQ gc k hk l j q hq',hj]; exact hq
  have hlt:j*k+q<n*k:=by have:=(List.getElem?_eq_some_iff.1 hx).1; rw[h.1]at this; exact this
  subst e1
  have:=h.cellAt (j*k+q) hlt
  rw[hx]at this
  rw[show 0+j*k+q=j*k+q by omega]
  exact this
theorem fg{w:World}{base e k n c R g:Nat}{a:Option Addr}{xs:List Value}(h:w.ownsRow base e k (.slice a n c) n xs)(hR:w.heap.size≤R)(hg:w.heap.size≤g):Far w R g a:=by
 intro b off cc hb
 obtain⟨_,cur,hc⟩:=iK h (b:=b) (by rw[hb]; rfl)
 have:=aJ hc
 omega
theorem I8{w:World}{base e k n c:Nat}{a:Option Addr}{xs:List Value}(h:w.ownsRow base e k (.slice a n c) n xs):n≤c:=by
 rcases h.2 with ⟨h0,hz⟩ | ⟨b,cp,cur,h1,h2,h3,h4,h5,h6,h7⟩
 ·omega
 ·injection h1 with e1 e2 e3
  omega
theorem RQ.mok{base R0:Nat}{mp:Value}{m:MM}{ln pt:Int}{w:World}(h:RQ base R0 mp m ln pt w)(hp:PR (pl m))(R g:Nat)(hR:w.heap.size≤R)(hg:w.heap.size≤g):MOk w R g m:=by
 have ht:=gY nU (fun _=>rfl) aj h.rt
 have hh:=gY iw (fun _=>rfl) aj h.rh
 have hgl:=gY eT (fun _=>rfl) aj h.rg
 have hf:=gY dR (fun _=>rfl) aj h.rf
 have hd:=gY nX (fun _=>rfl) aj h.rd
 have he:=gY oU (fun _=>rfl) aj h.re
 refine⟨⟨ht.1,ht.2.imp id ?_⟩,fg h.rt hR hg,⟨hh.1,hh.2.imp id ?_⟩,fg h.rh hR hg,?_,⟨hgl.1,hgl.2.imp id ?_⟩,fg h.rg hR hg,?_,hp.i.1,by have:=hp.i.2; show m.fi<_; unfold pl at this; dsimp only at this; omega,hp.o.1,by have:=hp.o.2; unfold pl at this; dsimp only at this; omega,⟨hf.1,hf.2.imp id ?_⟩,fg h.rf hR hg,?_,⟨hd.1,hd.2.imp id ?_⟩,fg h.rd hR hg,?_,⟨he.1,he.2.imp id ?_⟩,fg h.re hR hg,?_⟩
 ·exact mi
 ·exact DU
 ·intro j x hj
  have:=hp.hr x (List.mem_of_getElem? hj)
  unfold I64 at this;omega
 ·exact lX
 ·intro j x hj;exact hp.gr x (List.mem_of_getElem? hj)
 ·exact lX
 ·intro j x hj;have hm:=List.mem_of_getElem? hj;have hx:=hp.fr (plF x) (List.mem_map.2 ⟨x,hm,rfl⟩);have hfo:=h.fo x hm
  have hco:=gY eQ (fun _=>rfl) aj hfo.code
  have hx1:I64 x.1:=hx.1;unfold I64 at hx1
  refine⟨ae,⟨hco.1,hco.2.imp id ?_⟩,(fg hfo.code hR hg).nz _,fun i y hi=>?_⟩
  ·exact lX
  ·have hym:=List.mem_of_getElem? hi;have hy:=hx.2 (plI y) (List.mem_map.2 ⟨y,hym,rfl⟩)
   have hlo:=gY iw (fun _=>rfl) aj (hfo.lab y hym)
   refine⟨hy.1,hy.2.1,⟨hlo.1,I8 (hfo.lab y hym),?_,fun z hz=>hy.2.2.2.2 z hz,hlo.2.imp id ?_⟩,(fg (hfo.lab y hym) hR hg).nz _⟩
   ·have h1:y.2.2.2.length≤2097152:=hy.2.2.2.1;have h2:=hlo.1;omega
   ·exact GA
 ·exact mi
 ·intro j x hj;have hm:=List.mem_of_getElem? hj;have hx:=hp.dr (plD x) (List.mem_map.2 ⟨x,hm,rfl⟩);have hfo:=h.dd x hm
  have hco:=gY tu (fun _=>rfl) aj hfo
  have hx1:I64 x.1:=hx.1;unfold I64 at hx1;refine⟨ae,⟨hco.1,I8 hfo,?_,hx.2.2,hco.2.imp id ?_⟩,(fg hfo hR hg).nz _⟩
  ·have h1:x.2.2.length≤2097152:=hx.2.1;have h2:=hco.1;omega
  ·rintro⟨b,off,ha,hc⟩
   refine⟨b,off,ha,fun j hj=>?_⟩
   have hl:=hco.1
   have:=hc j (x.2.2[j]'(ae)) (aO _) 0 _ rfl
   rw[List.getD_eq_getElem?_getD,aO ae];exact bJ
 ·exact mi
 ·intro j x hj
  have:=hp.er x (List.mem_of_getElem? hj)
  unfold I64 at this;omega
section
variable {P:Program} {b:Frame} {a:Act} {k:List Item} {cs:List Frame} {w w':World} {ops:Array Oper} {i:Nat} {rest:List Nat} {o:Oper}
theorem CE(ho:ops[i]? =some o)(hw:Region.wanted o (yielded ops a.tmps)=true)(hn:∀c,o.op≠.defer c){v:Value}(hr:(execOp a.eval o).run P w=.ok (.value v) w') :
  step P (lone (b.atR a (.inRegion ops (i::rest)::k)) cs w)=.next (lone (b.atR (a.put o.dst v) (.inRegion ops rest::k)) cs w'):=by
 have hfin:(b.atR a (.inRegion ops (i::rest)::k)).finish v=b.atR (a.put o.dst v) (.inRegion ops rest::k):=by rw[Frame.finish_atR,ho]; rfl
 refine step_lone_go ?_;rw[stepGR_op ho hw,Oper.semAt_eq _ _ _ hn,← hfin]
 simp[stepG.apply,hr]
theorem Mi(ho:ops[i]? =some o)(hw:Region.wanted o (yielded ops a.tmps)=true)(hn:∀c,o.op≠.defer c){f:FuncId}{args:Array Value}(hr:(execOp a.eval o).run P w=.ok (.enter f args) w') :
  step P (lone (b.atR a (.inRegion ops (i::rest)::k)) cs w)=.next (lone (Frame.enter P f args .normal) (b.atR a (.inRegion ops (i::rest)::k)::cs) w'):=by
 refine step_lone_go ?_;rw[stepGR_op ho hw,Oper.semAt_eq _ _ _ hn]
 simp[stepG.apply,hr,Frame.atR]
end
theorem yK{n l:Nat}{P:Program}{fn:FuncId}{tmps:Array Value}{assign:Code}{id rid:Nat}{o0 o1 o2:Oper}{a₁:Act}{w w₂:World}{R:Ending→World→Prop}{v0 v1:Value}{f:FuncId}{args:Array Value}(hd1:a₁.defers=[])
  (hassign:assign.wpIn (Fence.wide.inRound l) n P (Exit.then (fun a w₁=>a=a₁∧w₁=w) (fun _ _ _=>False)) { tmps:=tmps,defers:=[] } w)
  (hbr:(Instr.beginRound l).run P w=.ok () w₂)
  (n0:∀c,o0.op≠.defer c) (n1:∀c,o1.op≠.defer c) (n2:∀c,o2.op≠.defer c)
  (g0:Region.wanted o0 (yielded #[o0,o1,o2] a₁.tmps)=true) (h0:(execOp a₁.eval o0).run P w₂=.ok (.value v0) w₂)
  (g1:Region.wanted o1 (yielded #[o0,o1,o2] (a₁.put o0.dst v0).tmps)=true) (h1:(execOp (a₁.put o0.dst v0).eval o1).run P w₂=.ok (.value v1) w₂)
  (g2:Region.wanted o2 (yielded #[o0,o1,o2] ((a₁.put o0.dst v0).put o1.dst v1).tmps)=true) (h2:(execOp ((a₁.put o0.dst v0).put o1.dst v1).eval o2).run P w₂=.ok (.enter f args) w₂)
  (hc:Calls P f args w₂ fun e w3=>(∃v,e=.returned v∧∃v' w4,(Instr.endRound l none).run P w3=.ok v' w4∧R (.returned v') w4)∨(∃ch,e=.panicked ch∧R (.panicked ch) w3)) :
  RoundIn Fence.wide n P l fn tmps assign (.block id (.region rid #[o0,o1,o2] false)) w R:=by
 refine⟨trivial,fun c cs hr=>?_⟩
 let b:Frame:={ (default:Frame) with fn:=fn,kind:=.normal,roundOf:=some l }
 have hb0:Frame.round l fn tmps assign (.block id (.region rid #[o0,o1,o2] false)) .normal=b.atR { tmps:=tmps,defers:=[] } [.code assign,.beginRound,.code (.block id (.region rid #[o0,o1,o2] false))]:=by
  simp[Frame.round,Frame.atR,b]
 obtain⟨e,a₀,w₀,hq,harr⟩:=hassign b [.beginRound,.code (.block id (.region rid #[o0,o1,o2] false))] (c::cs) rfl trivial (room_wide _);rw[← hb0]at harr
 cases e with
 | exit id=>exact hq.elim
 | goto t=>exact hq.elim
 | ret=>exact hq.elim
 | panic chain=>exact hq.elim
 | outgrown=>exact hq.elim
 | normal =>
  obtain⟨rfl,rfl⟩:=hq
  have s1:Steps P (lone (b.atR a₀ [.beginRound,.code (.block id (.region rid #[o0,o1,o2] false))]) (c::cs) w₀) (lone (Frame.enter P f args .normal) (b.atR ((a₀.put o0.dst v0).put o1.dst v1) (.inRegion #[o0,o1,o2] [2]::[.inBlock id])::c::cs) w₂):=by
   refine .head (stepR_beginRound rfl hbr) (.head stepR_block (.head stepR_region ?_));exact .head (CE (i:=0) (rest:=[1,2]) rfl g0 n0 h0) (.head (CE (i:=1) (rest:=[2]) rfl g1 n1 h1) (.one (Mi (i:=2) (rest:=[]) rfl g2 n2 h2)))
  have s0:Steps P (lone (Frame.round l fn tmps assign (.block id (.region rid #[o0,o1,o2] false)) .normal) (c::cs) w₀) (lone (Frame.enter P f args .normal) (b.atR ((a₀.put o0.dst v0).put o1.dst v1) (.inRegion #[o0,o1,o2] [2]::[.inBlock id])::c::cs) w₂):=(stepsIn_wide.1 harr).trans s1;obtain⟨e,w₃,fr,hR,hs,hfn,hl⟩:=hc (b.atR ((a₀.put o0.dst v0).put o1.dst v1) (.inRegion #[o0,o1,o2] [2]::[.inBlock id])::c::cs)
  rcases hR with ⟨v,rfl,v',w₄,hend,hR⟩ | ⟨ch,rfl,hR⟩
  ·have hfin:(b.atR ((a₀.put o0.dst v0).put o1.dst v1) (.inRegion #[o0,o1,o2] [2]::[.inBlock id])).finish v=b.atR (((a₀.put o0.dst v0).put o1.dst v1).put o2.dst v) (.inRegion #[o0,o1,o2] []::[.inBlock id]):=by rw[Frame.finish_atR]; rfl
   have s2:=step_leave_returned (c:=b.atR ((a₀.put o0.dst v0).put o1.dst v1) (.inRegion #[o0,o1,o2] [2]::[.inBlock id])) (cs:=c::cs) hl;rw[hfin]at s2;exact⟨.returned v',w₄,hR,comesIn_wide.2 (s0.trans (Steps.trans hs (.head s2 (.head stepR_region_end (.head stepR_inBlock (.one (stepR_round_end rfl rfl hend)))))))⟩
  ·have s2:=step_leave_panicked (c:=b.atR ((a₀.put o0.dst v0).put o1.dst v1) (.inRegion #[o0,o1,o2] [2]::[.inBlock id])) (cs:=c::cs) hl;rw[Frame.raise_atR]at s2
   have hd:((a₀.put o0.dst v0).put o1.dst v1).defers=[]:=by
    have:∀(a:Act)d v,(a.put d v).defers=a.defers:=fun a d v=>by cases d <;> rfl
    rw[this,this,hd1]
   have s3:step P (lone { b.atR ((a₀.put o0.dst v0).put o1.dst v1) (.inRegion #[o0,o1,o2] [2]::[.inBlock id]) with mode:=.panicking ch } (c::cs) w₃)=.next (lone (c.raise ch) cs w₃):=by
    refine step_lone_go ?_
    have hca:Frame.catches P { b.atR ((a₀.put o0.dst v0).put o1.dst v1) (.inRegion #[o0,o1,o2] [2]::[.inBlock id]) with mode:=.panicking ch }=false:=by
     unfold Frame.catches
     simp only[Frame.atR]
     split <;> simp_all
    simp only[stepG,unwind,Frame.atR,hd]at hca ⊢
    rw[hca];rfl
   exact⟨.panicked ch,w₃,hR,comesIn_wide.2 (s0.trans (Steps.trans hs (.head s2 (.one s3))))⟩
def Kj{α:Type}(F:Fence)(n:Nat)(P:Program)(gf:Nat)(lb:Array Value)(encs:α→Array Value)(c:Addr)(ps:List Addr)(xs:List α)(W:World):Prop :=
 ∀(l:Nat)(J:List α→World→Prop)(Jp:List PanicEntry→World→Prop)(W1:World),dP ps W W1 →
  (∀r A v,J r A→J r (A.setCell c v)) →
  (∀x r A,J (x::r) A→YieldAt F (n-1) P l (encs x) A fun e B=>(e=.returned (.bool true)∧J r B∧dP ps A B)∨(∃ch,e=.panicked ch∧Jp ch B)) →
  J xs W1 →
  CallsIn F n P gf (#[.func (.yield l) #[] #[]]++lb) W1 fun e B=>((∃v,e=.returned v)∧J [] B)∨(∃ch,e=.panicked ch∧Jp ch B)
theorem vJ{α:Type}{n:Nat}{P:Program}{g:Operand}{prm:Array Tmp}{assign:Code}{id rid:Nat}{o0 o1 o2:Oper}{Q:Exit→Act→World→Prop}{a:Act}{w:World}
  (h1:1≤n) {gf:Nat} {lb:Array Value} (hg:a.eval g=.func (.func gf) #[] lb) (eg:∀args w,(callFunc gf args).run P w=.ok (.enter gf args) w)
  {encs:α→Array Value} {c:Addr} {ps:List Addr} {xs:List α} (hps:∀x,(encs x).size=prm.size)
  (hseq:Kj Fence.wide (n-1) P gf lb encs c ps xs w)
  (I:List α→World→Prop) (Ip:List PanicEntry→World→Prop) (hI:OwnFrom w.heap.size I)
  (hIc:∀r A v,I r A→I r (A.setCell c v)) (h0:I xs w) (a₁:α→Act) (hd1:∀x,(a₁ x).defers=[])
  (hassign:∀(l:Nat)(x:α)(W:World)(K:Act→World→Prop),K (a₁ x) W →
   assign.wpIn (Fence.wide.inRound l) (n-1-1) P (Exit.then K (fun _ _ _=>False)) { tmps:=(prm.zip (encs x)).foldl (fun t (p,v)=>t.setIfInBounds p v) a.tmps,defers:=[] } W)
  (n0:∀c,o0.op≠.defer c) (n1:∀c,o1.op≠.defer c) (n2:∀c,o2.op≠.defer c)
  (hbody:∀(x:α)(r:List α)(W:World),w.heap.size+2≤W.heap.size→I (x::r) W→∃v0 v1 f args,Region.wanted o0 (yielded #[o0,o1,o2] (a₁ x).tmps)=true∧(execOp (a₁ x).eval o0).run P W=.ok (.value v0) W ∧
   Region.wanted o1 (yielded #[o0,o1,o2] ((a₁ x).put o0.dst v0).tmps)=true∧(execOp ((a₁ x).put o0.dst v0).eval o1).run P W=.ok (.value v1) W ∧
   Region.wanted o2 (yielded #[o0,o1,o2] (((a₁ x).put o0.dst v0).put o1.dst v1).tmps)=true∧(execOp (((a₁ x).put o0.dst v0).put o1.dst v1).eval o2).run P W=.ok (.enter f args) W ∧
   Calls P f args W fun e W'=>(∃v,e=.returned v∧(∀k,w.heap.size≤k→k<w.heap.size+2→W'.heap[k]? =W.heap[k]?)∧dP ps W W'∧I r W')∨(∃ch,e=.panicked ch∧(∀k,w.heap.size≤k→k<w.heap.size+2→W'.heap[k]? =W.heap[k]?)∧Ip ch W'))
  (hdone:∀(D:Nat)(W:World),w.heap.size≤D→I [] W→W.heap[D]? =some (.deferred (some []))→Q .normal { a with defers:={ target:=.collected D,args:=#[] }::a.defers } W)
  (hthrow:∀(D:Nat)(ch:List PanicEntry)(W:World),w.heap.size≤D→Ip ch W→W.heap[D]? =some (.deferred (some []))→Q (.panic ch) { a with defers:={ target:=.collected D,args:=#[] }::a.defers } W) :
  (Code.rangeFunc g prm assign (.block id (.region rid #[o0,o1,o2] false))).wpIn Fence.wide n P Q a w:=by
 refine wpIn_rangeFunc fun fn hfn=>?_
 rw[show Fence.wide.round=none from rfl]
 let record:LoopState→Option Code→Loop:=fun st pe=>{ state:=st,pending:=pe,fn,tmps:=a.tmps,params:=prm,assign,body:=.block id (.region rid #[o0,o1,o2] false),defers:=w.heap.size }
 let D:=w.heap.size
 let L:=w.heap.size+1
 let W0:=(w.alloc (.deferred (some []))).alloc (.loop (record .ready none))
 let Book:Loop→World→Prop:=fun rc W=>W.heap[L]? =some (.loop rc)∧W.heap[D]? =some (.deferred (some []))
 have hbook:Book (record .ready none) W0:=by
  constructor
  ·exact Dm
  ·exact C4
 have turn:∀{rc rc':Loop} {W:World},Book rc W→Book rc' (W.putObj L (.loop rc')):=fun h =>
  ⟨World.putObj_heap_same (Array.getElem?_eq_some_iff.1 h.1).1,(World.putObj_heap_other (by simp[L,D])).trans h.2⟩
 have over:∀{rc:Loop} {W W':World},Book rc W→(∀k,w.heap.size≤k→k<w.heap.size+2→W'.heap[k]? =W.heap[k]?)→Book rc W':=fun h k =>
  ⟨(k L j3 j3).trans h.1,(k D (by simp[D]) (by simp[D])).trans h.2⟩
 have cells:∀{rc:Loop} {W:World} (v:Value),Book rc W→Book rc (W.setCell c v):=fun v h =>
  ⟨(KeepsOthers.setCell _ _ _).same _ _ h.1 rfl,(KeepsOthers.setCell _ _ _).same _ _ h.2 rfl⟩
 have hk0:dP ps w W0:=fun p _ v hv=>by
  exact Hu
 refine⟨L,[{ target:=.collected D,args:=#[] }],W0,{ target:=.fn (.func gf) lb,args:=#[.func (.yield L) #[] #[]] },W0,gf,#[.func (.yield L) #[] #[]]++lb,W0,
  run_enterLoop_outer _ _ _ _ _,?_,?_,?_,fun _=>h1,?_⟩
 ·simp only[resolve,hg]; simp[go_sem]
 ·intro f' hf'; trivial
 ·simp[invoke,go_sem,eg]
 refine(hseq L (fun r W=>I r W∧Book (record .ready none) W) (fun ch W=>Ip ch W∧W.heap[D]? =some (.deferred (some []))) W0 hk0
  (fun r A v h=>⟨hIc r A v h.1,cells v h.2⟩) ?_ ⟨hI.alloc _ (hI.alloc _ h0),hbook⟩).mono ?_
 ·
  rintro x r W⟨hi,hb⟩;have hy:=run_yield (P:=P) (args:=encs x) hb.1 (hps x)
  have hb2:Book { record .ready none with state:=.busy } (W.putObj L (.loop { record .ready none with state:=.busy })):=turn hb
  obtain⟨v0,v1,f,args,g0,r0,g1,r1,g2,r2,hc⟩:=hbody x r _ ((Array.getElem?_eq_some_iff.1 hb2.1).1) (hI.putObj (.loop { record .ready none with state:=.busy }) hi j3 hb.1 rfl)
  refine⟨fn,_,assign,_,hy,yK (hd1 x) (hassign _ x W _ ⟨rfl,rfl⟩) (run_beginRound hb.1 rfl) n0 n1 n2 g0 r0 g1 r1 g2 r2 (hc.mono ?_)⟩
  rintro e W3 (⟨v,rfl,hk3,hkp3,hi3⟩ | ⟨ch,rfl,hk3,hi3⟩)
  ·have hb3:=over hb2 hk3;exact .inl ⟨v,rfl,_,_,run_endRound none hb3.1,.inl ⟨rfl,⟨hI.putObj _ hi3 j3 hb3.1 rfl,turn hb3⟩,((dP.turned _ _ _ _ hb.1 rfl).trans hkp3).trans (dP.turned _ _ _ _ hb3.1 rfl)⟩⟩
  ·have hb3:=over hb2 hk3;exact .inr ⟨ch,rfl,.inr ⟨ch,rfl,hi3,hb3.2⟩⟩
 ·
  rintro e W2 (⟨⟨v,rfl⟩,hi,hb⟩ | ⟨ch,rfl,hi,hb⟩)
  ·exact CV
  ·exact hthrow D ch _ (Nat.le_refl _) hi hb
open Go.RowKit Go.Shelf
theorem Lp(s:ByteArray)(w:World):Calls Tryz.prog 176 #[.string s,.string ⟨#[10]⟩] w fun e w'=>e=.returned (.int .i64 (Lib.indexByte s.data.toList 10))∧w'=w:=Tryz.strings_Index_one s 10 w
def bA:List UInt8→List (List UInt8)
 | []=>[[]]
 | b::l=>if b==10 then []::bA l else match bA l with
  | []=>[[b]]
  | p::r=>(b::p)::r
theorem vo:∀l,bA l≠[]
 | []=>by simp[bA]
 | b::l=>by
  unfold bA
  split
  ·simp
  ·split <;> simp
theorem iz:∀(l:List UInt8),Lib.indexByte l 10=-1∨(0≤Lib.indexByte l 10∧Lib.indexByte l 10<l.length)
 | []=>.inl rfl
 | b::l=>by
  have:=iz l
  exact Cm
theorem kZ:∀(l:List UInt8),Lib.indexByte l 10=-1→bA l=[l]
 | [],_=>rfl
 | b::l,h=>by
  have hr:=iz l;unfold Lib.indexByte at h
  split at h
  ·simp at h
  ·rename_i hb
   split at h
   ·rename_i hi
    have:=kZ l (by simpa using hi)
    unfold bA;rw[if_neg hb,this]
   ·rename_i hi
    simp at hi
    omega
theorem kY:∀(l:List UInt8)(k:Nat),Lib.indexByte l 10=k→bA l=l.take k::bA (l.drop (k+1))
 | [],k,h=>by simp[Lib.indexByte]at h
 | b::l,k,h=>by
  have hr:=iz l;unfold Lib.indexByte at h
  split at h
  ·rename_i hb
   obtain rfl:k=0:=ae;rw[bA,if_pos hb]
   simp
  ·rename_i hb
   split at h
   ·omega
   ·rename_i hi
    simp at hi
    obtain⟨m,rfl⟩:∃m,k=m+1:=⟨k-1,ae⟩
    have:=kY l m ae
    rw[bA,if_neg hb,this]
    simp
def bo(s:ByteArray):List ByteArray:=(bA s.data.toList).map fun l=>⟨l.toArray⟩
theorem uo{a b:ByteArray}(h:a.data.toList=b.data.toList):a=b:=by
 cases a; cases b; congr; exact Array.toList_inj.1 h
theorem nv(a:ByteArray):a.size=a.data.toList.length:=Array.length_toList.symm
theorem Am(s:ByteArray)(k:Nat):s.extract 0 k=⟨(s.data.toList.take k).toArray⟩:=by
 apply uo; simp[ByteArray.data_extract,Array.toList_extract]
theorem A1(s:ByteArray)(k:Nat):s.extract k s.size=⟨(s.data.toList.drop k).toArray⟩:=by
 apply uo
 simp[ByteArray.data_extract,Array.toList_extract]
 rw[List.take_of_length_le]
 have:=nv s
 simp only[List.length_drop]
 omega
theorem qA(s:ByteArray)(h:Lib.indexByte s.data.toList 10=-1):bo s=[s]:=by
 simp[bo,kZ _ h]
theorem qy(s:ByteArray)(k:Nat)(h:Lib.indexByte s.data.toList 10=k):bo s=s.extract 0 k::bo (s.extract (k+1) s.size):=by
 rw[Am,A1]
 simp[bo,kY _ k h]
theorem lS:∀(l:List UInt8)(p:List UInt8),p∈bA l→p.length≤l.length
 | [],p,h=>by simp[bA]at h; simp[h]
 | b::l,p,h=>by
  have ih:=lS l;unfold bA at h
  split at h
  ·exact Dc
  ·exact Gs
theorem qw(s p:ByteArray)(h:p∈bo s):p.size≤s.size:=by
 unfold bo at h;obtain⟨l,hl,rfl⟩:=List.mem_map.1 h
 have:=lS _ _ hl
 rw[nv,nv];exact bJ
theorem KI(n l b1 b2 b3:Nat)(h12:b1≠b2)(h32:b3≠b2)(s:ByteArray)(J:List ByteArray→World→Prop)(Jp:List PanicEntry→World→Prop)
  (hJ:∀r A v,J r A→J r (A.setCell ⟨b2,0,none⟩ v))
  (hY:∀x r A,J (x::r) A→YieldAt Fence.wide (n-1) Tryz.prog l #[.string x] A fun e B=>(e=.returned (.bool true)∧J r B∧dP [⟨b1,0,none⟩,⟨b2,0,none⟩,⟨b3,0,none⟩] A B)∨(∃ch,e=.panicked ch∧Jp ch B))
  (W:World) (c1:W.cell? ⟨b1,0,none⟩=some (.string ⟨#[10]⟩)) (c2:W.cell? ⟨b2,0,none⟩=some (.string s)) (f2:W.frozen? ⟨b2,0,none⟩=false) (c3:W.cell? ⟨b3,0,none⟩=some (.int .i64 0)) (h0:J (bo s) W) (hsz:s.size≤1099511627776) :
  CallsIn Fence.wide n Tryz.prog 174 #[.func (.yield l) #[] #[],.pointer (some ⟨b1,0,none⟩),.pointer (some ⟨b2,0,none⟩),.pointer (some ⟨b3,0,none⟩)] W fun e B=>((∃v,e=.returned v)∧J [] B)∨(∃ch,e=.panicked ch∧Jp ch B):=by
 refine callsIn_of_wp Tryz.func174 rfl trivial ?_ rfl
 simp only[Tryz.ntmps174,List.size_toArray,List.length_cons,List.length_nil,Nat.reduceAdd,Nat.reduceSub,Array.replicate_succ,Array.replicate_zero,List.push_toArray,List.append_toArray,List.nil_append,List.cons_append]
 gi_wp2
 gi_loopw [] (fun wr=>∃s:ByteArray,wr.cell? ⟨b1,0,none⟩=some (.string ⟨#[10]⟩)∧wr.cell? ⟨b2,0,none⟩=some (.string s)∧wr.frozen? ⟨b2,0,none⟩=false∧wr.cell? ⟨b3,0,none⟩=some (.int .i64 0)∧J (bo s) wr∧s.size≤1099511627776)
  (fun wr=>(sK wr ⟨b2,0,none⟩).size)
 case atStart=>exact⟨s,c1,c2,f2,c3,h0,hsz⟩
 case round =>
  clear c1 c2 f2 c3 h0 hsz;obtain⟨s,c1,c2,f2,c3,hj,hsz⟩:=hrel;have hI:=callsIn_wide (n:=n-1).2 (Lp s wr)
  rcases iz s.data.toList with hneg | ⟨hge,hlt⟩
  ·rw[hneg]at hI;rw[qA s hneg]at hj;obtain⟨fn,tmps,assign,body,hy,hR⟩:=hY s [] wr hj
   gi_wp2_with fail
   refine⟨trivial,(fun h=>nomatch h),?_⟩
   refine hI.mono ?_;rintro e w' ⟨rfl,rfl⟩
   gi_wp2_with fail
   refine⟨(fun h=>nomatch h),?_⟩
   refine hR.mono ?_
   rintro e W3 (⟨rfl,hJ3,hk3⟩ | ⟨ch,rfl,hJx3⟩)
   ·gi_wp2_with fail
    go_end0;exact .inl ⟨⟨_,rfl⟩,hJ3⟩
   ·exact⟨rfl,.inr ⟨ch,rfl,hJx3⟩⟩
  ·obtain⟨k,hk⟩:∃k:Nat,Lib.indexByte s.data.toList 10=k:=⟨(Lib.indexByte s.data.toList 10).toNat,ae⟩;rw[hk]at hI hlt;rw[← fT]at hlt;rw[qy s k hk]at hj;obtain⟨fn,tmps,assign,body,hy,hR⟩:=hY _ _ wr hj;have k0:(0:Int)≤k:=ae;have k1:(k:Int)<s.size:=ae;have k2:(s.size:Int)≤1099511627776:=ae;have k3:wrap64 (k:Int)=k:=dv;have k4:wrap64 ((k:Int)+1)=k+1:=dv
   gi_wp2_with fail
   refine⟨trivial,(fun h=>nomatch h),?_⟩
   refine hI.mono ?_;rintro e w' ⟨rfl,rfl⟩
   gi_wp2_with fail
   refine⟨(fun h=>nomatch h),?_⟩
   refine hR.mono ?_
   rintro e W3 (⟨rfl,hJ3,hk3⟩ | ⟨ch,rfl,hJx3⟩)
   ·exact J7
   ·exact⟨rfl,.inr ⟨ch,rfl,hJx3⟩⟩
theorem JG(n b1 b2 b3:Nat)(h12:b1≠b2)(h32:b3≠b2)(s:ByteArray)(W:World)(c1:W.cell? ⟨b1,0,none⟩=some (.string ⟨#[10]⟩))(c2:W.cell? ⟨b2,0,none⟩=some (.string s))(f2:W.frozen? ⟨b2,0,none⟩=false)(c3:W.cell? ⟨b3,0,none⟩=some (.int .i64 0))(hsz:s.size≤1099511627776) :
  Kj Fence.wide n Tryz.prog 174 #[.pointer (some ⟨b1,0,none⟩),.pointer (some ⟨b2,0,none⟩),.pointer (some ⟨b3,0,none⟩)] (fun x:ByteArray=>#[.string x]) ⟨b2,0,none⟩ [⟨b1,0,none⟩,⟨b2,0,none⟩,⟨b3,0,none⟩] (bo s) W:=fun l J Jp W1 hk hJ hY h0=>by
 obtain⟨d1,_⟩:=hk _ ar _ c1;obtain⟨d2,e2⟩:=hk _ ar _ c2;obtain⟨d3,_⟩:=hk _ ar _ c3;exact KI n l b1 b2 b3 h12 h32 s J Jp hJ hY W1 d1 d2 (e2.trans f2) d3 h0 hsz
theorem x9(s:ByteArray)(w:World) :
  Calls Tryz.prog 55 #[.string s,.string ⟨#[10]⟩] w fun e w'=>e=.returned (.func (.func 174) #[] #[.pointer (some ⟨w.heap.size+1,0,none⟩),.pointer (some ⟨w.heap.size,0,none⟩),.pointer (some ⟨w.heap.size+2,0,none⟩)]) ∧
   w'=((w.alloc (bQ s)).alloc (bQ ⟨#[10]⟩)).alloc (bq 0):=by
 go_enter Tryz.func55,Tryz.ntmps55
 go_wp2;go_ret;exact⟨rfl,rfl⟩
theorem vg(w:World):Calls Tryz.prog 53 #[.nilIface] w fun e w'=>e=.returned (.tuple #[.agg #[.int .i64 0],.bool false])∧Below w.heap.size w w':=by
 have BN:=hid (ag w (sA 0))
 go_enter Tryz.func53,Tryz.ntmps53
 go_wp2_with fail;refine bodyPost_ret (v:=.tuple #[.agg #[.int .i64 0],.bool false]) ?_ rfl ⟨rfl,BN.out⟩;exact jp
theorem FU(x:Int)(w:World):Calls Tryz.prog 53 #[.iface 119 (.agg #[.int .i64 x])] w fun e w'=>e=.returned (.tuple #[.agg #[.int .i64 x],.bool true])∧Below w.heap.size w w':=by
 have hta:∀(v:Value)(w:World),(Instr.typeAssert (.iface 119 v) 20 119 true).run Tryz.prog w=.ok (.tuple #[v,.bool true]) w:=fun _ _=>rfl
 go_enter Tryz.func53,Tryz.ntmps53
 go_wp2_with fail;refine bodyPost_ret (v:=.tuple #[.agg #[.int .i64 x],.bool true]) ?_ rfl ⟨rfl,?_⟩
 ·exact jp
 ·exact((Below.refl _ w).alloc (Nat.le_refl _) _).alloc ar _
theorem QK(A B C:Nat)(w:World) :
  CallsD Tryz.prog 52 #[.pointer (some ⟨A,0,none⟩),.pointer (some ⟨B,0,none⟩),.pointer (some ⟨C,0,none⟩)] .returning w fun e u' w'=>e=.returned (.tuple #[])∧u'=.returning∧Below w.heap.size w w':=by
 have HC:=hid (vg w)
 refine callsD_of_wpS Tryz.func52 rfl fun c₀ cs hu=>?_
 apply wpS_seq
 apply wpS_region
 simp[wpOpsS,go_sem,recoverD,hu,Tryz.ntmps52,Exit.thenS]
 refine HC.out.mono ?_;rintro e w1⟨rfl,hb1⟩;have BN:=hid (gS hb1 (ag w1 (sA 0)))
 simp[go_sem,Array.replicate]
 refine wpS_of_wp ?_;go_wp2_with fail
 cases c₀
 simp_all [bodyPostS,results,Tryz.results52]
 exact BN.out
theorem zT{w:World}{A:Nat}{t:TypeId}{u0 u1 u2 u3 u4 u5 u6 u7:Value}(v0 v1 v2 v3 v4 v5 v6 v7:Value)(h:w.heap[A]? =some (.cells #[u0,u1,u2,u3,u4,u5,u6,u7] t)) :
  ((((((((w.setCell ⟨A,0,none⟩ v0).setCell ⟨A,1,none⟩ v1).setCell ⟨A,2,none⟩ v2).setCell ⟨A,3,none⟩ v3).setCell ⟨A,4,none⟩ v4).setCell ⟨A,5,none⟩ v5).setCell ⟨A,6,none⟩ v6).setCell ⟨A,7,none⟩ v7).heap[A]? =some (.cells #[v0,v1,v2,v3,v4,v5,v6,v7] t)∧Kept (fun k=>k=A) w ((((((((w.setCell ⟨A,0,none⟩ v0).setCell ⟨A,1,none⟩ v1).setCell ⟨A,2,none⟩ v2).setCell ⟨A,3,none⟩ v3).setCell ⟨A,4,none⟩ v4).setCell ⟨A,5,none⟩ v5).setCell ⟨A,6,none⟩ v6).setCell ⟨A,7,none⟩ v7):=by
 have h0:=bS (i:=0) (u:=v0) h
 simp only[sIB,sC0]at h0
 have h1:=bS (i:=1) (u:=v1) h0
 simp only[sIB,sC0,sCs]at h1
 have h2:=bS (i:=2) (u:=v2) h1
 simp only[sIB,sC0,sCs]at h2
 have h3:=bS (i:=3) (u:=v3) h2
 simp only[sIB,sC0,sCs]at h3
 have h4:=bS (i:=4) (u:=v4) h3
 simp only[sIB,sC0,sCs]at h4
 have h5:=bS (i:=5) (u:=v5) h4
 simp only[sIB,sC0,sCs]at h5
 have h6:=bS (i:=6) (u:=v6) h5
 simp only[sIB,sC0,sCs]at h6
 have h7:=bS (i:=7) (u:=v7) h6
 simp only[sIB,sC0,sCs]at h7
 refine⟨h7,?_⟩;exact(((((((aw w A 0 v0).trans (aw _ A 1 v1)).trans (aw _ A 2 v2)).trans (aw _ A 3 v3)).trans (aw _ A 4 v4)).trans (aw _ A 5 v5)).trans (aw _ A 6 v6)).trans (aw _ A 7 v7)
theorem Nk(x:Int)(A B C:Nat)(bv cv:Value)(w:World)(ha:w.heap[A]? =some (.cells zV 29))(hb:w.cell? ⟨B,0,none⟩=some bv)(hbf:w.frozen? ⟨B,0,none⟩=false)(hc:w.cell? ⟨C,0,none⟩=some cv)(hcf:w.frozen? ⟨C,0,none⟩=false)(hAB:A≠B)(hAC:A≠C)(hBC:B≠C) :
  CallsD Tryz.prog 52 #[.pointer (some ⟨A,0,none⟩),.pointer (some ⟨B,0,none⟩),.pointer (some ⟨C,0,none⟩)] (.panicking ({ v:=.iface 119 (.agg #[.int .i64 x]),recovered:=false }::[])) w fun e u' w' =>
   e=.returned (.tuple #[])∧u'=.panicking ({ v:=.iface 119 (.agg #[.int .i64 x]),recovered:=true }::[])∧w'.heap[A]? =some (.cells zV 29)∧w'.cell? ⟨B,0,none⟩=some (.int .i64 22)∧w'.cell? ⟨C,0,none⟩=some (.int .i64 x)∧Kept (fun k=>k=A∨k=B∨k=C) w w':=by
 have HC:=hid (FU x w);have hAl:A<w.heap.size:=aJ ha;have hBl:B<w.heap.size:=block_lt_of_cell hb;have hCl:C<w.heap.size:=block_lt_of_cell hc
 refine callsD_of_wpS Tryz.func52 rfl fun c₀ cs hu=>?_
 apply wpS_seq
 apply wpS_region
 simp[wpOpsS,go_sem,recoverD,hu,Tryz.ntmps52,Exit.thenS]
 refine HC.out.mono ?_;rintro e w1⟨rfl,hb1⟩;have BN:=ag w1 (sA x);have n0:(w1.alloc (sA x)).cell? ⟨w1.heap.size,0,none⟩=some (.int .i64 x):=cg;have ya:=(BN.block A (Nat.lt_of_lt_of_le hAl hb1.size)).trans ((hb1.block A hAl).trans ha);have y0:=(BN.cell (p:=⟨B,0,none⟩) (Nat.lt_of_lt_of_le hBl hb1.size)).trans ((hb1.cell kE).trans hb);have y1:=(BN.frozen (p:=⟨B,0,none⟩) (Nat.lt_of_lt_of_le hBl hb1.size)).trans ((hb1.frozen kE).trans hbf);have y2:=(BN.cell (p:=⟨C,0,none⟩) (Nat.lt_of_lt_of_le hCl hb1.size)).trans ((hb1.cell kz).trans hc);have y3:=(BN.frozen (p:=⟨C,0,none⟩) (Nat.lt_of_lt_of_le hCl hb1.size)).trans ((hb1.frozen kz).trans hcf)
 have K2:=hid ((aN (S:=fun k=>k=A∨k=B∨k=C) hb1).trans (aN BN))
 have hz1:=hb1.size;have hA1:A≠w1.heap.size:=ae;have hB1:B≠w1.heap.size:=ae;have hC1:C≠w1.heap.size:=ae
 simp[go_sem,Array.replicate]
 refine wpS_of_wp ?_;clear HC hb hbf hc hcf BN;go_wp2_with fail;generalize w1.alloc (sA x)=W at *;have ed:Below W.heap.size W W.drew:=(Below.refl _ _).drew;have hd:Hid (W.drew=W.drew):=hid rfl
 refine wp_region_held_drew (S:=fun V=>V.cell? ⟨w1.heap.size,0,none⟩=some (.int .i64 x)) ai (by show W.drew.cell? _=_; exact n0) (fun hS=>?_)
 have ya':W.drew.heap[A]? =some (.cells zV 29):=ya;have y0':W.drew.cell? ⟨B,0,none⟩=some bv:=y0;have y1':W.drew.frozen? ⟨B,0,none⟩=false:=y1;have y2':W.drew.cell? ⟨C,0,none⟩=some cv:=y2;have y3':W.drew.frozen? ⟨C,0,none⟩=false:=y3;have K3:=hid (K2.out.trans (Kept.drewN _ _ 1))
 have K4:Hid (Kept (fun k=>k=A∨k=B∨k=C) w W.drew):=K3
 clear ya y0 y1 y2 y3 n0 K2 K3 ed hd;generalize W.drew=Wd at *;obtain⟨⟨m0,m1,m2,m3,m4,m5,m6,m7⟩,g0,g1,g2,g3,g4,g5,g6,g7⟩:=av ya';refine tkD (i:=0) (d:=some 11) rfl ?_;(try simp only[Act.put,sIB,sC0,sCs]);refine tkD (i:=1) (d:=some 12) rfl ?_;(try simp only[Act.put,sIB,sC0,sCs]);refine tkD (i:=2) (d:=some 13) rfl ?_;(try simp only[Act.put,sIB,sC0,sCs]);refine ryQ (rs:=[3]) ?_
 refine rcQ (i:=3) rfl (fun K hK=>?_) rN
 go_simp;obtain⟨p1,p2⟩:=zT (.slice none 0 0) (.slice none 0 0) (.slice none 0 0) (.int .i64 0) (.int .i64 0) (.slice none 0 0) (.slice none 0 0) (.slice none 0 0) ya'
 refine hK.out _ _ (p2.cell hS (fun e=>hA1 (Eq.symm e))) (fun hS2=>?_)
 clear hK K m0 m1 m2 m3 m4 m5 m6 m7 g0 g1 g2 g3 g4 g5 g6 g7 ya'
 have z0:=p2.cell y0' (fun e=>hAB (Eq.symm e))
 have z1:=(aC (p2.block B (block_lt_of_cell y0') (fun e=>hAB (Eq.symm e))) 0).trans y1'
 have z2:=p2.cell y2' (fun e=>hAC (Eq.symm e))
 have z3:=(aC (p2.block C (block_lt_of_cell y2') (fun e=>hAC (Eq.symm e))) 0).trans y3'
 have K5:=hid (K4.out.then p2 (fun k _ h=>.inl h))
 clear p2 y0' y1' y2' y3' K4 hS;generalize ((((((((Wd.setCell ⟨A,0,none⟩ (.slice none 0 0)).setCell ⟨A,1,none⟩ (.slice none 0 0)).setCell ⟨A,2,none⟩ (.slice none 0 0)).setCell ⟨A,3,none⟩ (.int .i64 0)).setCell ⟨A,4,none⟩ (.int .i64 0)).setCell ⟨A,5,none⟩ (.slice none 0 0)).setCell ⟨A,6,none⟩ (.slice none 0 0)).setCell ⟨A,7,none⟩ (.slice none 0 0))=W3 at *;refine ryQ (rs:=[4]) ?_
 refine rcQ (i:=4) rfl (fun K hK=>?_) rN
 go_simp;have t1:=World.cell?_setCell_same W3 ⟨B,0,none⟩ (.int .i64 22) z0;have t2:=aw W3 B 0 (.int .i64 22)
 refine hK.out _ _ (t2.cell hS2 (fun e=>hB1 (Eq.symm e))) (fun hS3=>?_)
 clear hK K z0 z1 hS2;have q1:=(t2.block A (aJ p1) hAB).trans p1
 have q2:=t2.cell z2 (fun e=>hBC (Eq.symm e))
 have q3:=(aC (t2.block C (block_lt_of_cell z2) (fun e=>hBC (Eq.symm e))) 0).trans z3
 have K6:=hid (K5.out.then t2 (fun k _ h=>.inr (.inl h)))
 clear p1 t2 z2 z3 K5;generalize W3.setCell ⟨B,0,none⟩ (.int .i64 22)=W4 at *;refine ryQ (rs:=[5]) ?_
 refine rcQ (i:=5) rfl (fun K hK=>?_) rN
 go_simp;have r1:=World.cell?_setCell_same W4 ⟨C,0,none⟩ (.int .i64 x) q2;have r2:=aw W4 C 0 (.int .i64 x)
 refine hK.out _ _ (r2.cell hS3 (fun e=>hC1 (Eq.symm e))) (fun hS4=>?_)
 exact JZ
end Go.Proofs.YtheefojaplnnoaaGreatDoor

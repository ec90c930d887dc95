/-
  Texts Lin Lfu Feed Pieces Lib Split.
-/
import Derived.KernelRfl
import Derived.Lib.Bytealg
import Derived.LoopIn
import Derived.LoopNIn
import Derived.OwnWalkIn
import Derived.RangeFuncCalls
import Derived.RangeFuncLeaves
import Derived.RangeFuncWrites
import Derived.RowKit
import Derived.Shelf.Abstract
import Derived.Shelf.RegionOpen
import Derived.TacticsInMore
import Derived.Test.YtheefojaplnnoaaGreatDoorY00
import Derived.Test.YtheefojaplnnoaaGreatDoorProg
import Derived.WalkKit
import Derived.Test.YtheefojaplnnoaaGreatDoorY01
import Derived.Test.YtheefojaplnnoaaGreatDoorY04
import Derived.Test.YtheefojaplnnoaaGreatDoorY05
set_option linter.unusedVariables false
set_option maxRecDepth 100000
set_option maxHeartbeats 16000000
namespace Go.Proofs.YtheefojaplnnoaaGreatDoor
open Go.RowKit
theorem Ia:∃i,Tryz.prog.info? 75=some i∧i.zero=some (.agg #[.int .u8 0,.int .i64 0,.slice none 0 0])∧i.size=3∧i.bytes=40:=A7 ai
def lh(y:(Int×Int×(Option Addr×Nat×Nat))):List Value:=[.int .u8 y.1,.int .i64 y.2.1,.slice y.2.2.1 y.2.2.2.1 y.2.2.2.2]
abbrev Ry(x:(Int×Int×(Option Addr×Nat×Nat)×List Int)):Value:=.agg #[.int .u8 x.1,.int .i64 x.2.1,.slice x.2.2.1.1 x.2.2.1.2.1 x.2.2.1.2.2]
abbrev SY(y:(Int×Int×(Option Addr×Nat×Nat))):Value:=.agg #[.int .u8 y.1,.int .i64 y.2.1,.slice y.2.2.1 y.2.2.2.1 y.2.2.2.2]
def AtIn(w:World)(a:Option Addr)(n:Nat)(xs:List (Int×Int×(Option Addr×Nat×Nat)×List Int)):Prop :=
 xs.length=n∧(n=0∨∃b off,a=some ⟨b,off,none⟩∧∀(j:Nat)x,xs[j]? =some x→w.cell? ⟨b,off+j*3,none⟩=some (.int .u8 x.1)∧w.cell? ⟨b,off+j*3+1,none⟩=some (.int .i64 x.2.1)∧w.cell? ⟨b,off+j*3+2,none⟩=some (.slice x.2.2.1.1 x.2.2.1.2.1 x.2.2.1.2.2))
theorem AtIn.kept{S:Nat→Prop}{w w':World}{a:Option Addr}{n:Nat}{xs:List (Int×Int×(Option Addr×Nat×Nat)×List Int)}(h:AtIn w a n xs)(hk:Kept S w w')(hS:∀b off c,nz n a=some ⟨b,off,c⟩→¬S b):AtIn w' a n xs:=by
 refine⟨h.1,h.2.imp id ?_⟩;rintro⟨b,off,ha,hc⟩
 refine⟨b,off,ha,fun j x hj=>?_⟩
 have ha:=N1 (n:=n) (by have:=h.1; have:=(List.getElem?_eq_some_iff.1 hj).1; omega) ha
 have:=hc j x hj
 exact⟨hk.cell this.1 (hS _ _ _ ha),hk.cell this.2.1 (hS _ _ _ ha),hk.cell this.2.2 (hS _ _ _ ha)⟩
theorem qc(w:World)(y:(Int×Int×(Option Addr×Nat×Nat))):∀j u,(lh y)[j]? =some u→(w.alloc (aF y.1 y.2.1 y.2.2.1 y.2.2.2.1 y.2.2.2.2)).cell? ((⟨w.heap.size,0,none⟩:Addr).add j)=some u:=by
 intro j u hj;have hlt:=aK hj;have hl:(lh y).length=3:=rfl;rw[hl]at hlt;have hadd:(⟨w.heap.size,0,none⟩:Addr).add j=⟨w.heap.size,j,none⟩:=iG;rw[hadd];have hb:=(MapKept.heap_alloc w (aF y.1 y.2.1 y.2.2.1 y.2.2.2.1 y.2.2.2.2)).1
 simp only[World.cell?,hb]
 simpa[lh] using hj
theorem qd(y:(Int×Int×(Option Addr×Nat×Nat))):∀u∈lh y,u.oneCell'=true:=by
 intro u hu
 simp[lh]at hu
 rcases hu with rfl | rfl | rfl <;> rfl
abbrev zI:=@qh (Int×Int×(Option Addr×Nat×Nat)×List Int) (Int×Int×(Option Addr×Nat×Nat)) lh Ry SY 75 3
abbrev I6:=@Ej (Int×Int×(Option Addr×Nat×Nat)×List Int) (Int×Int×(Option Addr×Nat×Nat)) lh Ry 75 3
namespace LIn
abbrev oC0:=lh
abbrev cL(x:(Int×Int×(Option Addr×Nat×Nat)×List Int)):Obj:=.cells #[.int .u8 x.1,.int .i64 x.2.1,.slice x.2.2.1.1 x.2.2.1.2.1 x.2.2.1.2.2] 75
abbrev cM(y:(Int×Int×(Option Addr×Nat×Nat))):Obj:=.cells #[.int .u8 y.1,.int .i64 y.2.1,.slice y.2.2.1 y.2.2.2.1 y.2.2.2.2] 75
theorem nC(w:World)(y:(Int×Int×(Option Addr×Nat×Nat))):∀j u,(lh y)[j]? =some u→(w.alloc (cM y)).cell? ((⟨w.heap.size,0,none⟩:Addr).add j)=some u:=qc w y
theorem oC(y:(Int×Int×(Option Addr×Nat×Nat))):∀u∈lh y,u.oneCell'=true:=qd y
theorem uN:Tryz.prog.underlying 76=some (.slice 75):=Tryz.underlying76
end LIn
open LIn in
theorem yE(R g cap:Nat)(bs:List Int)(ha:Option Addr)(n hc:Nat)(most:Int)(K:Nat)(cs:Array Value)(w:World)(xs:List (Int×Int×(Option Addr×Nat×Nat)×List Int))(enc:(Int×Int×(Option Addr×Nat×Nat)×List Int)→List Int)(Ok:(Int×Int×(Option Addr×Nat×Nat)×List Int)→(Int×Int×(Option Addr×Nat×Nat))→Prop)(M:Nat)
  (h:Wr w R g cap bs) (hn:n≤100000) (hm:(n:Int)≤most) (hmem:AtIn w ha n xs) (hne:∀b off c,nz n ha=some ⟨b,off,c⟩→b≠R∧b≠g)
  (hK:∀args w,(callFunc K args).run Tryz.prog w=.ok (.enter K args) w) (hlen:∀(j:Nat)x,xs[j]? =some x→(enc x).length≤M) (hM:M≤1000000) (hb:bs.length+200000000000≤1099511627776)
  (heach:∀(j:Nat)x,xs[j]? =some x→zI R g w K cs bs n xs enc Ok j x) :
  Calls Tryz.prog 194 #[cW R,.slice ha n hc,.int .i64 most,.func (.func K) #[] cs] w fun e w'=>∃(aa:Option Addr)(ac:Nat)(ys:List (Int×Int×(Option Addr×Nat×Nat))),e=.returned (.slice aa n ac)∧ys.length=n∧(∀(i:Nat)y,ys[i]? =some y→∃x,xs[i]? =some x∧Ok x y) ∧
   w'.ownsRow 0 75 3 (.slice aa n ac) n (ys.flatMap lh)∧∃g' cap',(∀b,aa=some b→w.heap.size≤b.block∧b.block≠g')∧Wr w' R g' cap' (bs++ax n++xs.flatMap enc)∧Stp R g g' w w':=by
 have hmc:=bz;have hcc:=cf;have HC:=hid (bN R g cap bs n most w h hm ae ae);have hRl:=h.lt;have hgl:=h.g_lt;have hxl:=hmem.1;have HM:=hid hmem;have HNE:=hid hne;have HE:=hid heach;obtain⟨i0,hi,hz0,hz1,hz2⟩:=Ia;clear h hmem heach hne
 go_enter Tryz.func194,Tryz.ntmps194
 go_wp2_with fail;refine HC.out.mono ?_;rintro e w2⟨rfl,g1,cap1,hw2,hs2⟩;have W2:=hid hw2;have S2:=hid hs2;clear hw2 hs2 HC hmc hcc;go_wp2_with fail
 go_loopw [9,17] (fun o i wr=>qz oC0 75 3 R g w bs n xs enc Ok n o i wr) (fun _ i _=>n-(intOf i).toNat)
 case atStart=>exact⟨0,[],none,0,g1,cap1,ae,rfl,rfl,rfl,(fun i y h=>fX),World.ownsRow_nil _ _ _ _,(fun b h=>cj),gw,S2.out⟩
 case round =>
  exact Ol
open LIn in
theorem A4(R g cap:Nat)(bs:List Int)(ha:Option Addr)(n hc:Nat)(most:Int)(K:Nat)(cs:Array Value)(w:World)(xs:List (Int×Int×(Option Addr×Nat×Nat)×List Int))(enc:(Int×Int×(Option Addr×Nat×Nat)×List Int)→List Int)(Ok:(Int×Int×(Option Addr×Nat×Nat)×List Int)→(Int×Int×(Option Addr×Nat×Nat))→Prop)(M:Nat)
  (h:Wr w R g cap bs) (hn:n≤100000) (hm:(n:Int)≤most) (hmem:AtIn w ha n xs) (hne:∀b off c,nz n ha=some ⟨b,off,c⟩→b≠R∧b≠g)
  (hK:∀args w,(callFunc K args).run Tryz.prog w=.ok (.enter K args) w) (hlen:∀(j:Nat)x,xs[j]? =some x→(enc x).length≤M) (hM:M≤1000000) (hb:bs.length+200000000000≤1099511627776)
  (k:Nat) (xk:(Int×Int×(Option Addr×Nat×Nat)×List Int)) (er:Int) (hk:xs[k]? =some xk) (heach:∀(j:Nat)x,xs[j]? =some x→j<k→zI R g w K cs bs n xs enc Ok j x) (hno:I6 R g w K cs bs n xs enc Ok k xk er) :
  Calls Tryz.prog 194 #[cW R,.slice ha n hc,.int .i64 most,.func (.func K) #[] cs] w (aT R g er w):=by
 have hkn:=aK hk;have hmc:=bz;have hcc:=cf;have HC:=hid (bN R g cap bs n most w h hm ae ae);have hRl:=h.lt;have hgl:=h.g_lt;have hxl:=hmem.1;have HM:=hid hmem;have HNE:=hid hne;have HE:=hid heach;have HN:=hid hno;obtain⟨i0,hi,hz0,hz1,hz2⟩:=Ia;clear h hmem heach hne hno
 go_enter Tryz.func194,Tryz.ntmps194
 go_wp2_with fail;refine HC.out.mono ?_;rintro e w2⟨rfl,g1,cap1,hw2,hs2⟩;have W2:=hid hw2;have S2:=hid hs2;clear hw2 hs2 HC hmc hcc;go_wp2_with fail
 go_loopw [9,17] (fun o i wr=>qz oC0 75 3 R g w bs n xs enc Ok k o i wr) (fun _ i _=>n-(intOf i).toNat)
 case atStart=>exact⟨0,[],none,0,g1,cap1,ae,rfl,rfl,rfl,(fun i y h=>fX),World.ownsRow_nil _ _ _ _,(fun b h=>cj),gw,S2.out⟩
 case round =>
  exact N9
theorem vv(R g cap:Nat)(bs:List Int)(ha:Option Addr)(n hc:Nat)(most:Int)(f:Value)(w:World)(h:Wr w R g cap bs)(hm:most<(n:Int)) :
  Calls Tryz.prog 194 #[cW R,.slice ha n hc,.int .i64 most,f] w (aT R g 20 w):=by
 have hmc:=bz;have hcc:=cf;have HC:=hid (eW R g cap bs n most w h hm);clear h
 go_enter Tryz.func194,Tryz.ntmps194
 exact jX
theorem IV:∃i,Tryz.prog.info? 78=some i∧i.zero=some (.agg #[.int .i64 0,.string ⟨#[]⟩,.slice none 0 0])∧i.size=3∧i.bytes=48:=A7 ai
def iA(y:(Int×ByteArray×(Option Addr×Nat×Nat))):List Value:=[.int .i64 y.1,.string y.2.1,.slice y.2.2.1 y.2.2.2.1 y.2.2.2.2]
abbrev Rm(x:(Int×ByteArray×(Option Addr×Nat×Nat)×List (Int×Int×(Option Addr×Nat×Nat)×List Int))):Value:=.agg #[.int .i64 x.1,.string x.2.1,.slice x.2.2.1.1 x.2.2.1.2.1 x.2.2.1.2.2]
abbrev SU(y:(Int×ByteArray×(Option Addr×Nat×Nat))):Value:=.agg #[.int .i64 y.1,.string y.2.1,.slice y.2.2.1 y.2.2.2.1 y.2.2.2.2]
def oq(w:World)(a:Option Addr)(n:Nat)(xs:List (Int×ByteArray×(Option Addr×Nat×Nat)×List (Int×Int×(Option Addr×Nat×Nat)×List Int))):Prop :=
 xs.length=n∧(n=0∨∃b off,a=some ⟨b,off,none⟩∧∀(j:Nat)x,xs[j]? =some x→w.cell? ⟨b,off+j*3,none⟩=some (.int .i64 x.1)∧w.cell? ⟨b,off+j*3+1,none⟩=some (.string x.2.1)∧w.cell? ⟨b,off+j*3+2,none⟩=some (.slice x.2.2.1.1 x.2.2.1.2.1 x.2.2.1.2.2))
theorem oq.kept{S:Nat→Prop}{w w':World}{a:Option Addr}{n:Nat}{xs:List (Int×ByteArray×(Option Addr×Nat×Nat)×List (Int×Int×(Option Addr×Nat×Nat)×List Int))}(h:oq w a n xs)(hk:Kept S w w')(hS:∀b off c,a=some ⟨b,off,c⟩→¬S b):oq w' a n xs:=by
 exact I5
theorem lG(w:World)(y:(Int×ByteArray×(Option Addr×Nat×Nat))):∀j u,(iA y)[j]? =some u→(w.alloc (aR y.1 y.2.1 y.2.2.1 y.2.2.2.1 y.2.2.2.2)).cell? ((⟨w.heap.size,0,none⟩:Addr).add j)=some u:=by
 intro j u hj;have hlt:=aK hj;have hl:(iA y).length=3:=rfl;rw[hl]at hlt;have hadd:(⟨w.heap.size,0,none⟩:Addr).add j=⟨w.heap.size,j,none⟩:=iG;rw[hadd];have hb:=(MapKept.heap_alloc w (aR y.1 y.2.1 y.2.2.1 y.2.2.2.1 y.2.2.2.2)).1
 simp only[World.cell?,hb]
 simpa[iA] using hj
theorem lQ(y:(Int×ByteArray×(Option Addr×Nat×Nat))):∀u∈iA y,u.oneCell'=true:=by
 intro u hu
 simp[iA]at hu
 rcases hu with rfl | rfl | rfl <;> rfl
namespace LFu
abbrev oC0:=iA
abbrev cL(x:(Int×ByteArray×(Option Addr×Nat×Nat)×List (Int×Int×(Option Addr×Nat×Nat)×List Int))):Obj:=.cells #[.int .i64 x.1,.string x.2.1,.slice x.2.2.1.1 x.2.2.1.2.1 x.2.2.1.2.2] 78
abbrev cM(y:(Int×ByteArray×(Option Addr×Nat×Nat))):Obj:=.cells #[.int .i64 y.1,.string y.2.1,.slice y.2.2.1 y.2.2.2.1 y.2.2.2.2] 78
theorem nC(w:World)(y:(Int×ByteArray×(Option Addr×Nat×Nat))):∀j u,(iA y)[j]? =some u→(w.alloc (cM y)).cell? ((⟨w.heap.size,0,none⟩:Addr).add j)=some u:=lG w y
theorem oC(y:(Int×ByteArray×(Option Addr×Nat×Nat))):∀u∈iA y,u.oneCell'=true:=lQ y
theorem uN:Tryz.prog.underlying 25=some (.slice 78):=Tryz.underlying25
end LFu
theorem nW(R g cap:Nat)(bs:List Int)(ha:Option Addr)(n hc:Nat)(most:Int)(f:Value)(w:World)(h:Wr w R g cap bs)(hm:most<(n:Int)) :
  Calls Tryz.prog 141 #[cW R,.slice ha n hc,.int .i64 most,f] w (aT R g 20 w):=by
 have hmc:=bz;have hcc:=cf;have HC:=hid (eW R g cap bs n most w h hm);clear h
 go_enter Tryz.func141,Tryz.ntmps141
 exact jX
def dP(ps:List Addr)(W W':World):Prop:=∀p∈ps,∀v,W.cell? p=some v→W'.cell? p=some v∧W'.frozen? p=W.frozen? p
theorem dP.refl(ps:List Addr)(W:World):dP ps W W:=fun _ _ _ h=>⟨h,rfl⟩
theorem dP.trans{ps:List Addr}{A B C:World}(h:dP ps A B)(k:dP ps B C):dP ps A C:=fun p hp v hv=>by
 obtain⟨h1,h2⟩:=h p hp v hv;obtain⟨k1,k2⟩:=k p hp v h1;exact⟨k1,k2.trans h2⟩
theorem dP.turned{ps:List Addr}(W:World)(l:Nat)(o o':Obj)(h:W.heap[l]? =some o)(ho:o.isCells=false):dP ps W (W.putObj l o'):=fun p _ v hv =>
 have hr:∀r,some l=some r→∃q:Obj,W.heap[r]? =some q∧q.isCells=false:=fun r e=>by cases e; exact⟨o,h,ho⟩
 ⟨cell_kept hv (grownBy_putObj' W l o') hr,frozen_kept hv (grownBy_putObj' W l o') hr⟩
def N5{α:Type}(F:Fence)(n:Nat)(P:Program)(gf:Nat)(lb:Array Value)(encs:α→Array Value)(c:Addr)(ps:List Addr)(xs:List α)(W:World):Prop :=
 ∀(l:Nat)(J:List α→World→Prop)(Jx:World→Prop)(W1:World),dP ps W W1 →
  (∀r A v,J r A→J r (A.setCell c v)) →
  (∀x r A,J (x::r) A→YieldAt F (n-1) P l (encs x) A fun e B=>(e=.returned (.bool true)∧J r B∧dP ps A B)∨(e=.returned (.bool false)∧Jx B)) →
  J xs W1 →
  CallsIn F n P gf (#[.func (.yield l) #[] #[]]++lb) W1 fun e B=>(∃v,e=.returned v)∧(J [] B∨Jx B)
def Leaves(B:Nat)(ps:List Addr)(I:World→Prop)(Ix:Code→World→Prop)(W:World):Exit→Act→World→Prop
 | .normal,_,W'=>KeepsFrom B W W'∧dP ps W W'∧I W'
 | .ret,_,W'=>KeepsFrom B W W'∧Ix .ret W'
 | .exit _,_,_=>False
 | .goto _,_,_=>False
 | .panic _,_,_=>False
 | .outgrown,_,_=>False
theorem qi{α:Type}{F:Fence}{n:Nat}{P:Program}{g:Operand}{prm:Array Tmp}{assign body:Code}{Q:Exit→Act→World→Prop}{a:Act}{w:World}
  (hro:F.round=none) (h1:1≤n) {gf:Nat} {lb:Array Value} (hg:a.eval g=.func (.func gf) #[] lb) (hFg:F.fn gf) (eg:∀args w,(callFunc gf args).run P w=.ok (.enter gf args) w)
  {encs:α→Array Value} {c:Addr} {ps:List Addr} {xs:List α} (hps:∀x,(encs x).size=prm.size)
  (hseq:N5 F (n-1) P gf lb encs c ps xs w)
  (I:List α→World→Prop) (Ix:Code→World→Prop) (hI:OwnFrom w.heap.size I) (hIx:OwnFrom w.heap.size Ix)
  (hIc:∀r A v,I r A→I r (A.setCell c v)) (h0:I xs w) (a₁:α→Act)
  (hassign:∀(l:Nat)(x:α)(W:World)(K:Act→World→Prop),K (a₁ x) W →
   assign.wpIn (F.inRound l) (n-1-1) P (Exit.then K (fun _ _ _=>False)) { tmps:=(prm.zip (encs x)).foldl (fun t (p,v)=>t.setIfInBounds p v) a.tmps,defers:=[] } W)
  (hbody:∀(l:Nat)(x:α)(r:List α)(W:World),I (x::r) W→body.wpIn (F.inRound l) (n-1-1) P (Leaves w.heap.size ps (I r) Ix W) (a₁ x) W)
  (hdone:∀(D:Nat)(W:World),w.heap.size≤D→I [] W→W.heap[D]? =some (.deferred (some []))→Q .normal { a with defers:={ target:=.collected D,args:=#[] }::a.defers } W)
  (hstop:∀(D:Nat)(j:Code)(W:World),w.heap.size≤D→Ix j W→W.heap[D]? =some (.deferred (some []))→j.wpIn F n P Q { a with defers:={ target:=.collected D,args:=#[] }::a.defers } W) :
  (Code.rangeFunc g prm assign body).wpIn F n P Q a w:=by
 refine wpIn_rangeFunc fun fn hfn=>?_
 rw[hro]
 let record:LoopState→Option Code→Loop:=fun st pe=>{ state:=st,pending:=pe,fn,tmps:=a.tmps,params:=prm,assign,body,defers:=w.heap.size }
 let D:=w.heap.size
 let L:=w.heap.size+1
 let W0:=(w.alloc (.deferred (some []))).alloc (.loop (record .ready none))
 let Book:Loop→World→Prop:=fun rc W=>W.heap[L]? =some (.loop rc)∧W.heap[D]? =some (.deferred (some []))
 have hbook:Book (record .ready none) W0:=by
  constructor
  ·exact Dm
  ·exact C4
 have turn:∀{rc rc':Loop} {W:World},Book rc W→Book rc' (W.putObj L (.loop rc')):=fun h =>
  ⟨World.putObj_heap_same (Array.getElem?_eq_some_iff.1 h.1).1,(World.putObj_heap_other (by simp[L,D])).trans h.2⟩
 have over:∀{rc:Loop} {W W':World},Book rc W→KeepsFrom D W W'→Book rc W':=fun h k =>
  ⟨k.same _ _ (by simp[L,D]) h.1 rfl,k.same _ _ (Nat.le_refl _) h.2 rfl⟩
 have cells:∀{rc:Loop} {W:World} (v:Value),Book rc W→Book rc (W.setCell c v):=fun v h =>
  ⟨(KeepsOthers.setCell _ _ _).same _ _ h.1 rfl,(KeepsOthers.setCell _ _ _).same _ _ h.2 rfl⟩
 have hk0:dP ps w W0:=fun p _ v hv=>by
  exact Hu
 refine⟨L,[{ target:=.collected D,args:=#[] }],W0,{ target:=.fn (.func gf) lb,args:=#[.func (.yield L) #[] #[]] },W0,gf,#[.func (.yield L) #[] #[]]++lb,W0,
  run_enterLoop_outer _ _ _ _ _,?_,?_,?_,fun _=>h1,?_⟩
 ·simp only[resolve,hg]; simp[go_sem]
 ·intro f' hf'; simp[Target.leads]at hf'; subst hf'; exact hFg
 ·simp[invoke,go_sem,eg]
 refine(hseq L (fun r W=>I r W∧Book (record .ready none) W) (fun W=>∃j,Ix j W∧Book (record .done (some j)) W) W0 hk0
  (fun r A v h=>⟨hIc r A v h.1,cells v h.2⟩) ?_ ⟨hI.alloc _ (hI.alloc _ h0),hbook⟩).mono ?_
 ·
  rintro x r W⟨hi,hb⟩;have hy:=run_yield (P:=P) (args:=encs x) hb.1 (hps x);refine⟨fn,_,assign,body,hy,roundIn_of_wpIn hfn (hassign _ x W _ ⟨_,run_beginRound hb.1 rfl,?_⟩)⟩
  have hb2:Book { record .ready none with state:=.busy } (W.putObj L (.loop { record .ready none with state:=.busy })):=turn hb
  refine wpIn_mono (hbody _ x r _ (hI.putObj _ hi j3 hb.1 rfl)) ?_;rintro e a3 W3 hp
  cases e with
  | normal =>
   obtain⟨hk3,hkp3,hi3⟩:=hp;have hb3:=over hb2 hk3;exact⟨_,_,run_endRound none hb3.1,.inl ⟨rfl,⟨hI.putObj _ hi3 j3 hb3.1 rfl,turn hb3⟩,((dP.turned _ _ _ _ hb.1 rfl).trans hkp3).trans (dP.turned _ _ _ _ hb3.1 rfl)⟩⟩
  | ret =>
   obtain⟨hk3,hi3⟩:=hp;have hb3:=over hb2 hk3;exact⟨_,_,run_endRound (some .ret) hb3.1,.inr ⟨rfl,.ret,hIx.putObj _ hi3 j3 hb3.1 rfl,turn hb3⟩⟩
  | exit id=>exact hp.elim
  | goto t=>exact hp.elim
  | panic ch=>exact hp.elim
  | outgrown=>exact hp.elim
 ·
  rintro e W2⟨⟨v,rfl⟩,(⟨hi,hb⟩ | ⟨j,hi,hb⟩)⟩
  ·exact CV
  ·exact⟨some j,_,run_endLoop hb.1 (by simp[record]),hstop D j _ (Nat.le_refl _) (hIx.putObj _ hi j3 hb.1 rfl) (turn (rc':=_) hb).2⟩
def pieces:List UInt8→List (List UInt8)
 | []=>[[]]
 | b::l=>if b==32 then []::pieces l else match pieces l with
  | []=>[[b]]
  | p::r=>(b::p)::r
theorem lW:∀(l:List UInt8),Lib.indexByte l 32=-1∨(0≤Lib.indexByte l 32∧Lib.indexByte l 32<l.length)
 | []=>.inl rfl
 | b::l=>by
  have:=lW l
  exact Cm
theorem pZ:∀(l:List UInt8),Lib.indexByte l 32=-1→pieces l=[l]
 | [],_=>rfl
 | b::l,h=>by
  have hr:=lW l;unfold Lib.indexByte at h
  split at h
  ·simp at h
  ·rename_i hb
   split at h
   ·rename_i hi
    have:=pZ l (by simpa using hi)
    unfold pieces;rw[if_neg hb,this]
   ·rename_i hi
    simp at hi
    omega
theorem qu:∀(l:List UInt8)(k:Nat),Lib.indexByte l 32=k→pieces l=l.take k::pieces (l.drop (k+1))
 | [],k,h=>by simp[Lib.indexByte]at h
 | b::l,k,h=>by
  have hr:=lW l;unfold Lib.indexByte at h
  split at h
  ·rename_i hb
   obtain rfl:k=0:=ae;rw[pieces,if_pos hb]
   simp
  ·rename_i hb
   split at h
   ·omega
   ·rename_i hi
    simp at hi
    obtain⟨m,rfl⟩:∃m,k=m+1:=⟨k-1,ae⟩
    have:=qu l m ae
    rw[pieces,if_neg hb,this]
    simp
def cV(s:ByteArray):List ByteArray:=(pieces s.data.toList).map fun l=>⟨l.toArray⟩
theorem MW(s:ByteArray)(k:Nat):s.extract 0 k=⟨(s.data.toList.take k).toArray⟩:=by
 apply ko; simp[ByteArray.data_extract,Array.toList_extract]
theorem Li(s:ByteArray)(k:Nat):s.extract k s.size=⟨(s.data.toList.drop k).toArray⟩:=by
 apply ko
 simp[ByteArray.data_extract,Array.toList_extract]
 rw[List.take_of_length_le]
 have:=fT s
 simp only[List.length_drop]
 omega
theorem wj(s:ByteArray)(h:Lib.indexByte s.data.toList 32=-1):cV s=[s]:=by
 simp[cV,pZ _ h]
theorem xj(s:ByteArray)(k:Nat)(h:Lib.indexByte s.data.toList 32=k):cV s=s.extract 0 k::cV (s.extract (k+1) s.size):=by
 rw[MW,Li]
 simp[cV,qu _ k h]
theorem qj:∀(l:List UInt8)(p:List UInt8),p∈pieces l→p.length≤l.length
 | [],p,h=>by simp[pieces]at h; simp[h]
 | b::l,p,h=>by
  have ih:=qj l;unfold pieces at h
  split at h
  ·exact Dc
  ·exact Gs
theorem vI(s p:ByteArray)(h:p∈cV s):p.size≤s.size:=by
 unfold cV at h;obtain⟨l,hl,rfl⟩:=List.mem_map.1 h
 have:=qj _ _ hl
 rw[fT,fT];exact bJ
open Go.Shelf Go.RowKit Go.Lib
theorem Ll(s:ByteArray)(w:World) :
  Calls Tryz.prog 176 #[.string s,.string ⟨#[32]⟩] w fun e w'=>e=.returned (.int .i64 (Lib.indexByte s.data.toList 32))∧w'=w:=Tryz.strings_Index_one s 32 w
open Go.RowKit Go.Shelf
def sK(W:World)(c:Addr):ByteArray:=match W.cell? c with
 | some (.string s)=>s
 | _=>ByteArray.empty
theorem Ig(n l b1 b2 b3:Nat)(h12:b1≠b2)(h32:b3≠b2)(s:ByteArray)(J:List ByteArray→World→Prop)(Jx:World→Prop)
  (hJ:∀r A v,J r A→J r (A.setCell ⟨b2,0,none⟩ v))
  (hY:∀x r A,J (x::r) A→YieldAt Fence.wide (n-1) Tryz.prog l #[.string x] A fun e B=>(e=.returned (.bool true)∧J r B∧dP [⟨b1,0,none⟩,⟨b2,0,none⟩,⟨b3,0,none⟩] A B)∨(e=.returned (.bool false)∧Jx B))
  (W:World) (c1:W.cell? ⟨b1,0,none⟩=some (.string ⟨#[32]⟩)) (c2:W.cell? ⟨b2,0,none⟩=some (.string s)) (f2:W.frozen? ⟨b2,0,none⟩=false) (c3:W.cell? ⟨b3,0,none⟩=some (.int .i64 0)) (h0:J (cV s) W) (hsz:s.size≤1099511627776) :
  CallsIn Fence.wide n Tryz.prog 174 #[.func (.yield l) #[] #[],.pointer (some ⟨b1,0,none⟩),.pointer (some ⟨b2,0,none⟩),.pointer (some ⟨b3,0,none⟩)] W fun e B=>(∃v,e=.returned v)∧(J [] B∨Jx B):=by
 refine callsIn_of_wp Tryz.func174 rfl trivial ?_ rfl
 simp only[Tryz.ntmps174,List.size_toArray,List.length_cons,List.length_nil,Nat.reduceAdd,Nat.reduceSub,Array.replicate_succ,Array.replicate_zero,List.push_toArray,List.append_toArray,List.nil_append,List.cons_append]
 gi_wp2
 gi_loopw [] (fun wr=>∃s:ByteArray,wr.cell? ⟨b1,0,none⟩=some (.string ⟨#[32]⟩)∧wr.cell? ⟨b2,0,none⟩=some (.string s)∧wr.frozen? ⟨b2,0,none⟩=false∧wr.cell? ⟨b3,0,none⟩=some (.int .i64 0)∧J (cV s) wr∧s.size≤1099511627776)
  (fun wr=>(sK wr ⟨b2,0,none⟩).size)
 case atStart=>exact⟨s,c1,c2,f2,c3,h0,hsz⟩
 case round =>
  clear c1 c2 f2 c3 h0 hsz;obtain⟨s,c1,c2,f2,c3,hj,hsz⟩:=hrel;have hI:=callsIn_wide (n:=n-1).2 (Ll s wr)
  rcases lW s.data.toList with hneg | ⟨hge,hlt⟩
  ·rw[hneg]at hI;rw[wj s hneg]at hj;obtain⟨fn,tmps,assign,body,hy,hR⟩:=hY s [] wr hj
   gi_wp2_with fail
   refine⟨trivial,(fun h=>nomatch h),?_⟩
   refine hI.mono ?_;rintro e w' ⟨rfl,rfl⟩
   gi_wp2_with fail
   refine⟨(fun h=>nomatch h),?_⟩
   refine hR.mono ?_
   rintro e W3 (⟨rfl,hJ3,hk3⟩ | ⟨rfl,hJx3⟩)
   ·gi_wp2_with fail
    go_end0;exact⟨⟨_,rfl⟩,.inl hJ3⟩
   ·gi_wp2_with fail
    go_end0;exact⟨⟨_,rfl⟩,.inr hJx3⟩
  ·obtain⟨k,hk⟩:∃k:Nat,Lib.indexByte s.data.toList 32=k:=⟨(Lib.indexByte s.data.toList 32).toNat,ae⟩;rw[hk]at hI hlt;rw[← fT]at hlt;rw[xj s k hk]at hj;obtain⟨fn,tmps,assign,body,hy,hR⟩:=hY _ _ wr hj;have k0:(0:Int)≤k:=ae;have k1:(k:Int)<s.size:=ae;have k2:(s.size:Int)≤1099511627776:=ae;have k3:wrap64 (k:Int)=k:=dv;have k4:wrap64 ((k:Int)+1)=k+1:=dv
   gi_wp2_with fail
   refine⟨trivial,(fun h=>nomatch h),?_⟩
   refine hI.mono ?_;rintro e w' ⟨rfl,rfl⟩
   gi_wp2_with fail
   refine⟨(fun h=>nomatch h),?_⟩
   refine hR.mono ?_
   rintro e W3 (⟨rfl,hJ3,hk3⟩ | ⟨rfl,hJx3⟩)
   ·exact J7
   ·gi_wp2_with fail
    refine bodyPost_ret (results_none rfl _ _ _) rfl ?_;exact⟨⟨_,rfl⟩,.inr hJx3⟩
theorem Dx(n b1 b2 b3:Nat)(h12:b1≠b2)(h32:b3≠b2)(s:ByteArray)(W:World)(c1:W.cell? ⟨b1,0,none⟩=some (.string ⟨#[32]⟩))(c2:W.cell? ⟨b2,0,none⟩=some (.string s))(f2:W.frozen? ⟨b2,0,none⟩=false)(c3:W.cell? ⟨b3,0,none⟩=some (.int .i64 0))(hsz:s.size≤1099511627776) :
  N5 Fence.wide n Tryz.prog 174 #[.pointer (some ⟨b1,0,none⟩),.pointer (some ⟨b2,0,none⟩),.pointer (some ⟨b3,0,none⟩)] (fun x:ByteArray=>#[.string x]) ⟨b2,0,none⟩ [⟨b1,0,none⟩,⟨b2,0,none⟩,⟨b3,0,none⟩] (cV s) W:=fun l J Jx W1 hk hJ hY h0=>by
 obtain⟨d1,_⟩:=hk _ ar _ c1;obtain⟨d2,e2⟩:=hk _ ar _ c2;obtain⟨d3,_⟩:=hk _ ar _ c3;exact Ig n l b1 b2 b3 h12 h32 s J Jx hJ hY W1 d1 d2 (e2.trans f2) d3 h0 hsz
theorem rX(s:ByteArray)(w:World) :
  Calls Tryz.prog 55 #[.string s,.string ⟨#[32]⟩] w fun e w'=>e=.returned (.func (.func 174) #[] #[.pointer (some ⟨w.heap.size+1,0,none⟩),.pointer (some ⟨w.heap.size,0,none⟩),.pointer (some ⟨w.heap.size+2,0,none⟩)]) ∧
   w'=((w.alloc (bQ s)).alloc (bQ ⟨#[32]⟩)).alloc (bq 0):=by
 go_enter Tryz.func55,Tryz.ntmps55
 go_wp2;go_ret;exact⟨rfl,rfl⟩
end Go.Proofs.YtheefojaplnnoaaGreatDoor

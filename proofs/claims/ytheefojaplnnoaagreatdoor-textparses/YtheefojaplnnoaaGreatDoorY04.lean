/-
  Texts Kinds Small Ref Of Ins Span Chk Enc Wn.
-/
import Derived.Test.YtheefojaplnnoaaGreatDoorY03
set_option linter.unusedVariables false
set_option maxRecDepth 100000
set_option maxHeartbeats 16000000
namespace Go.Proofs.YtheefojaplnnoaaGreatDoor
open Go.Proofs.Tryz
open Go.RowKit
def kW0:ByteArray:=⟨#[116,114,97,112,32,110,111,112,32,98,108,111,99,107,32,108,111,111,112,32,105,102,32,101,108,115,101,32,101,110,100,32,98,114,32,98,114,105,102,32,98,114,116,97,98,108,101,32,114,101,116,117,114,110,32,99,97,108,108,32,104,111,115,116]⟩
def kW1:ByteArray:=⟨#[100,114,111,112,32,115,101,108,101,99,116,32,103,101,116,32,115,101,116,32,116,101,101,32,103,103,101,116,32,103,115,101,116]⟩
def kW2:ByteArray:=⟨#[119,46,99,111,110,115,116,32,108,46,99,111,110,115,116]⟩
def kW3:ByteArray:=⟨#[119,46,108,111,97,100,56,117,32,119,46,108,111,97,100,56,115,32,119,46,108,111,97,100,49,54,117,32,119,46,108,111,97,100,49,54,115,32,119,46,108,111,97,100,32,108,46,108,111,97,100,32,119,46,115,116,111,114,101,56,32,119,46,115,116,111,114,101,49,54,32,119,46,115,116,111,114,101,32,108,46,115,116,111,114,101,32,115,105,122,101,32,103,114,111,119]⟩
def kW4:ByteArray:=⟨#[101,113,122,32,101,113,32,110,101,32,108,116,115,32,108,116,117,32,108,101,115,32,108,101,117,32,99,108,122,32,99,116,122,32,112,111,112,32,97,100,100,32,115,117,98,32,109,117,108,32,100,105,118,115,32,100,105,118,117,32,114,101,109,115,32,114,101,109,117,32,97,110,100,32,111,114,32,120,111,114,32,115,104,108,32,115,104,114,115,32,115,104,114,117,32,114,111,116,108,32,114,111,116,114]⟩
def kW5:ByteArray:=⟨#[101,113,122,32,101,113,32,110,101,32,108,116,115,32,108,116,117,32,108,101,115,32,108,101,117,32,99,108,122,32,99,116,122,32,112,111,112,32,97,100,100,32,115,117,98,32,109,117,108,32,100,105,118,115,32,100,105,118,117,32,114,101,109,115,32,114,101,109,117,32,97,110,100,32,111,114,32,120,111,114,32,115,104,108,32,115,104,114,115,32,115,104,114,117,32,114,111,116,108,32,114,111,116,114]⟩
def kW6:ByteArray:=⟨#[119,46,119,114,97,112,32,108,46,101,120,116,101,110,100,115,32,108,46,101,120,116,101,110,100,117,32,119,46,101,120,116,56,32,119,46,101,120,116,49,54,32,108,46,101,120,116,51,50]⟩
def kF:Nat->Int
 | 0=>0
 | 1=>16
 | 2=>24
 | 3=>32
 | 4=>48
 | 5=>80
 | _=>112
def kL:Nat->Int
 | 0=>12
 | 1=>22
 | 2=>25
 | 3=>43
 | 4=>72
 | 5=>104
 | _=>117
def kA:Nat->ByteArray
 | 0=>⟨#[]⟩
 | 1=>⟨#[]⟩
 | 2=>⟨#[]⟩
 | 3=>⟨#[]⟩
 | 4=>⟨#[119,46]⟩
 | 5=>⟨#[108,46]⟩
 | _=>⟨#[]⟩
def kW:Nat->ByteArray
 | 0=>kW0
 | 1=>kW1
 | 2=>kW2
 | 3=>kW3
 | 4=>kW4
 | 5=>kW5
 | _=>kW6
def qR:List Value:=[ZU 0,ZU 12,.string ⟨#[]⟩,.string kW0,ZU 16,ZU 22,.string ⟨#[]⟩,.string kW1,ZU 24,ZU 25,.string ⟨#[]⟩,.string kW2,ZU 32,ZU 43,.string ⟨#[]⟩,.string kW3,ZU 48,ZU 72,.string ⟨#[119,46]⟩,.string kW4,ZU 80,ZU 104,.string ⟨#[108,46]⟩,.string kW5,ZU 112,ZU 117,.string ⟨#[]⟩,.string kW6]
def qH:Value:=.agg qR.toArray
def aX(w:World):Prop:=∀j v,qR[j]? =some v->w.cell? (ZA 0 j)=some v
variable {w:World}
theorem aX.pos(h:aX w):0<w.heap.size:=World.block_lt_of_cell? w (ZA 0 0) (h 0 _ rfl)
variable {n:Nat}{w':World}
theorem aX.later(h:aX w)(hb:Below n w w')(hn:0<n):aX w' :=
 fun j v hj=>(hb.cell (p:=(ZA 0 j)) hn).trans (h j v hj)
theorem Kh(h:aX w):(loadVar 288 (ZA 0 0)).run prog w=.ok qH w:=by
 have hl:(loadCells (ZA 0 0) 28).run prog w=.ok qR.toArray w:=run_loadCells_list (P:=prog) w (ZA 0 0) qR (fun j v hj=>by
  have e:((ZA 0 0):Addr).add j=(ZA 0 j):=iI;rw[e];exact h j v hj)
 unfold loadVar;simp only[Sem.run_bind,Tryz.isAgg288,Result.andThen,if_true,Tryz.sizeOf288,hl,Sem.run_pure];rfl
theorem tO(h:aX w)(a:Act)(d:Option Tmp)(p:String)(af:Array Edge)(g:Option (Nat×Bool)) :
  (execOp a.eval { dst:=d,op:=Op.load 288 (Operand.global 0),type:=288,pos:=p,after:=af,guard:=g }).run prog w=.ok (.value qH) w:=by
 show(do pure (Next.value (<- Instr.loadAt 288 (ZP 0 0))):Sem Next).run prog w=_;have e:(Instr.sureAddr (ZP 0 0)).run prog w=.ok (ZA 0 0) w:=rfl;unfold Instr.loadAt;simp only[Sem.run_bind,e,Sem.run_pure,Result.andThen,Kh h]
set_option maxRecDepth 20000 in
theorem BS(i:Nat)(hi:i<7):(Instr.index 288 qH (ZI i)).run prog w=.ok (.agg #[ZU (kF i),ZU (kL i),.string (kA i),.string (kW i)]) w:=by
 have h:i=0\/i=1\/i=2\/i=3\/i=4\/i=5\/i=6:=ae
 rcases h with rfl | rfl | rfl | rfl | rfl | rfl | rfl <;> simp[Instr.index,go_sem,qH,qR,kF,kL,kA,kW]
theorem oH(i:Nat)(hi:i<7):0<=kF i/\kF i<=kL i/\kL i<=117/\kF i+(dm (kW i)).length<=255/\(kW i).size<=1099511627776/\(kA i).size<=1099511627776:=by
 have h:i=0\/i=1\/i=2\/i=3\/i=4\/i=5\/i=6:=ae
 rcases h with rfl | rfl | rfl | rfl | rfl | rfl | rfl <;> decide +kernel
def wN(c:Int):Int :=
 if c=2 then 1 else if c=3 then 1 else if c=4 then 1 else if c=7 then 2 else if c=8 then 2 else if c=9 then 3 else if c=11 then 4 else if c=12 then 5
 else if c=18 then 6 else if c=19 then 6 else if c=20 then 6 else if c=21 then 7 else if c=22 then 7 else if c=24 then 8 else if c=25 then 8
 else if c=32 then 9 else if c=33 then 9 else if c=34 then 9 else if c=35 then 9 else if c=36 then 9 else if c=37 then 9 else if c=38 then 9 else if c=39 then 9 else if c=40 then 9 else if c=41 then 9 else 0
def zU(c:Int):Bool:=decide (c=1\/24<=c)
def CK(k:Int)(s:BAz):ByteArray×ByteArray :=
 if k=0 then (s,⟨#[119]⟩) else if k<=6 then (s++s,⟨#[119]⟩) else if k<=9 then (s,s) else (s++s,s)
def tW(c:Int):ByteArray×ByteArray :=
 if 48<=c/\c<=72 then CK (c-48) ⟨#[119]⟩ else if 80<=c/\c<=104 then CK (c-80) ⟨#[108]⟩
 else if c=24 then (⟨#[]⟩,⟨#[119]⟩) else if c=42 then (⟨#[]⟩,⟨#[119]⟩) else if c=25 then (⟨#[]⟩,⟨#[108]⟩)
 else if c=32 then (⟨#[119]⟩,⟨#[119]⟩) else if c=33 then (⟨#[119]⟩,⟨#[119]⟩) else if c=34 then (⟨#[119]⟩,⟨#[119]⟩) else if c=35 then (⟨#[119]⟩,⟨#[119]⟩) else if c=36 then (⟨#[119]⟩,⟨#[119]⟩) else if c=43 then (⟨#[119]⟩,⟨#[119]⟩) else if c=115 then (⟨#[119]⟩,⟨#[119]⟩) else if c=116 then (⟨#[119]⟩,⟨#[119]⟩)
 else if c=37 then (⟨#[119]⟩,⟨#[108]⟩) else if c=113 then (⟨#[119]⟩,⟨#[108]⟩) else if c=114 then (⟨#[119]⟩,⟨#[108]⟩)
 else if c=112 then (⟨#[108]⟩,⟨#[119]⟩) else if c=117 then (⟨#[108]⟩,⟨#[108]⟩)
 else if c=38 then (⟨#[119,119]⟩,⟨#[]⟩) else if c=39 then (⟨#[119,119]⟩,⟨#[]⟩) else if c=40 then (⟨#[119,119]⟩,⟨#[]⟩) else if c=41 then (⟨#[119,108]⟩,⟨#[]⟩) else (⟨#[]⟩,⟨#[]⟩)
theorem Tn(c:Int)(w:World):Zw 227 #[ZU c] w (ZG (.int .i8 (wN c)) w):=by
 go_enter func227,ntmps227
 go_wp2
 all_goals (go_ret; exact⟨by unfold wN; simp_all,rfl⟩)
theorem Q4(c:Int)(w:World):Zw 228 #[ZU c] w (ZG (.bool (zU c)) w):=by
 go_enter func228,ntmps228
 go_wp2
 all_goals (go_ret; refine⟨?_,rfl⟩; unfold zU; simp_all)
theorem UN(k:Int)(s:BAz)(w:World)(hs:s.size<=1099511627776):Zw 255 #[ZU k,.string s] w (ZG (.tuple #[.string (CK k s).1,.string (CK k s).2]) w):=by
 have hax:¬(s.size+s.size > 9223372036854775807):=ae;go_enter func255,ntmps255
 go_wp2
 all_goals (go_ret2; refine⟨?_,rfl⟩; unfold CK; simp_all)
 all_goals (repeat rw[if_neg ae])
 all_goals exact⟨rfl,rfl⟩
theorem OI(c:Int)(w:World)(h0:0<=c)(h1:c<=255):Zw 225 #[ZU c] w (ZG (.tuple #[.string (tW c).1,.string (tW c).2]) w):=by
 by_cases ha:48<=c/\c<=72
 ·rw[show tW c=CK (c-48) ⟨#[119]⟩ by unfold tW; rw[if_pos ha]]
  obtain⟨ha1,ha2⟩:=ha;go_enter func225,ntmps225
  go_wp2_with fail;refine(UN (c-48) ⟨#[119]⟩ w au).mono ?_;rintro e w' ⟨rfl,rfl⟩;go_wp2;go_ret2;exact⟨rfl,rfl⟩
 by_cases hb:80<=c/\c<=104
 ·rw[show tW c=CK (c-80) ⟨#[108]⟩ by unfold tW; rw[if_neg ha,if_pos hb]]
  obtain⟨hb1,hb2⟩:=hb;have hx:¬c<=72:=ae;go_enter func225,ntmps225
  go_wp2_with fail;refine(UN (c-80) ⟨#[108]⟩ w au).mono ?_;rintro e w' ⟨rfl,rfl⟩;go_wp2;go_ret2;exact⟨rfl,rfl⟩
 unfold tW;rw[if_neg ha,if_neg hb];go_enter func225,ntmps225;go_wp2_with fail
 all_goals (go_ret2; first | exact⟨rfl,rfl⟩ | (refine⟨?_,rfl⟩; simp_all))
variable {ops:Array Oper}{Q:Zan}{o:Oper}{a:Act}
theorem fZ{rest:List Oper}{v:Value}(hg:o.guard=none)(he:(execOp a.eval o).run prog w=.ok (.value v) w')
  (h:wpList prog ops Q rest (a.put o.dst v) w'):wpList prog ops Q (o::rest) a w :=
 wpList_plain hg fun K hK=>by simp only[Oper.wp,he,Oper.upon_value]; exact hK _ _ h
theorem step_skip{rest:List Oper}(hg:o.guard=none)(he:(execOp a.eval o).run prog w=.ok .skip w')
  (h:wpList prog ops Q rest (a.put o.dst undef) w'):wpList prog ops Q (o::rest) a w :=
 wpList_plain hg fun K hK=>by simp only[Oper.wp,he,Oper.upon_skip]; exact hK _ _ h
variable {id s s':Nat}{x y:Code}{ts:AVz}
theorem KI{k c:Int}{pos pos':String}{af:Array Edge}    
  (h4:ts[4]?.getD undef=ZU c) (hz:s<ts.size) (hz':s'<ts.size)
  (hx:c=k->x.wp prog Q ⟨(ts.setIfInBounds s' (.bool (c==k))).setIfInBounds s (.bool (c==k)),[]⟩ w)
  (hy:c≠k->y.wp prog Q ⟨(ts.setIfInBounds s' (.bool (c==k))).setIfInBounds s (.bool (c==k)),[]⟩ w) :
  ((Code.region id #[{dst:=some s',op:=.binOp .eql 5 (.tmp 4) (.const (ZU k)) 5,type:=4,pos:=pos,after:=#[],guard:=none},{dst:=some s,op:=.assign (.tmp s'),type:=4,pos:=pos',after:=af,guard:=none}] false).seq (Code.cond (.tmp s) x y)).wp prog Q ⟨ts,[]⟩ w:=by
 refine wp_seq (wp_region_lit ?_);refine wpList_plain rfl fun K hK=>?_
 have e1:(execOp ({ tmps:=ts,defers:=[] }:Act).eval { dst:=some s',op:=Op.binOp BinOp.eql 5 (Operand.tmp 4) (Operand.const (Value.int IntKind.u8 k)) 5,type:=4,pos:=pos,after:=#[],guard:=none }).run prog w=.ok (.value (.bool (c==k))) w:=by
  simp[go_sem,h4]
 simp only[Oper.wp,e1,Oper.upon_value];refine hK _ _ (wpList_plain rfl fun K' hK'=>?_)
 have e3:(execOp ({ tmps:=ts.setIfInBounds s' (.bool (c==k)),defers:=[] }:Act).eval { dst:=some s,op:=Op.assign (Operand.tmp s'),type:=4,pos:=pos',after:=af,guard:=none }).run prog w=.ok (.value (.bool (c==k))) w:=by
  simp[go_sem,hz']
 show Oper.upon _ _ _ _ _ (Sem.run prog (execOp ({ tmps:=ts.setIfInBounds s' (.bool (c==k)),defers:=[] }:Act).eval _) w);rw[e3,Oper.upon_value];refine hK' _ _ ?_
 have e5:({ tmps:=(ts.setIfInBounds s' (.bool (c==k))).setIfInBounds s (.bool (c==k)),defers:=[] }:Act).eval (.tmp s)=.bool (c==k):=by
  show((ts.setIfInBounds s' (.bool (c==k))).setIfInBounds s (.bool (c==k))).getD s undef=_;simp[hz]
 refine wpList_nil (wp_cond_split e5 (fun h=>hx lY) (fun h=>hy lY))
def dP(k:Int)(wd:BAz)(tk:Int)(pp ps:BAz)(pl:Bool):Array Value:=#[ZU k,.string wd,.int .i8 tk,.string pp,.string ps,.bool pl]
variable {k tk:Int}{wd pp ps:BAz}
set_option maxRecDepth 10000 in
theorem QA{pl:Bool}{p1 p2 p3:String}{a2 a3:Array Edge}   
  (h2:ts[2]?.getD undef=ZP w.heap.size 0) (hz:s<ts.size) (hs:4<s)
  (hq:Q .ret ⟨(ts.setIfInBounds s (.agg (dP k wd tk pp ps pl))).setIfInBounds 3 (.bool true),[]⟩ (w.alloc (.cells (dP k wd tk pp ps pl) 233))) :
  ((Code.region id #[{dst:=some s,op:=.build 233 #[(0,.const (ZU k)),(1,.const (.string wd)),(2,.const (.int .i8 tk)),(3,.const (.string pp)),(4,.const (.string ps)),(5,.const (.bool pl))],type:=233,pos:=p1,after:=#[],guard:=none},
   {dst:=none,op:=.store 233 (.tmp 2) (.tmp s),type:=0,pos:=p2,after:=a2,guard:=none},{dst:=some 3,op:=.assign (.const (.bool true)),type:=4,pos:=p3,after:=a3,guard:=none}] false).seq .ret).wp prog Q ⟨ts,[]⟩ (w.alloc (.cells (dP 0 ⟨#[]⟩ 0 ⟨#[]⟩ ⟨#[]⟩ false) 233)):=by
 refine wp_seq (wp_region_lit ?_);refine wpList_plain rfl fun K hK=>?_
 have e1:(execOp ({ tmps:=ts,defers:=[] }:Act).eval { dst:=some s,op:=.build 233 #[(0,.const (ZU k)),(1,.const (.string wd)),(2,.const (.int .i8 tk)),(3,.const (.string pp)),(4,.const (.string ps)),(5,.const (.bool pl))],type:=233,pos:=p1,after:=#[],guard:=none }).run prog (w.alloc (.cells (dP 0 ⟨#[]⟩ 0 ⟨#[]⟩ ⟨#[]⟩ false) 233))=.ok (.value (.agg (dP k wd tk pp ps pl))) (w.alloc (.cells (dP 0 ⟨#[]⟩ 0 ⟨#[]⟩ ⟨#[]⟩ false) 233)):=by
  simp[go_sem,dP]
 simp only[Oper.wp,e1,Oper.upon_value];refine hK _ _ (wpList_plain rfl fun K' hK'=>?_)
 have e2:(execOp ({ tmps:=ts.setIfInBounds s (.agg (dP k wd tk pp ps pl)),defers:=[] }:Act).eval { dst:=none,op:=.store 233 (.tmp 2) (.tmp s),type:=0,pos:=p2,after:=a2,guard:=none }).run prog (w.alloc (.cells (dP 0 ⟨#[]⟩ 0 ⟨#[]⟩ ⟨#[]⟩ false) 233))=.ok .skip (w.alloc (.cells (dP k wd tk pp ps pl) 233)):=by
  have g2:(ts.setIfInBounds s (.agg (dP k wd tk pp ps pl)))[2]?.getD undef=ZP w.heap.size 0:=by
   rw[Array.getElem?_setIfInBounds_ne ae]; exact h2
  simp only[dP]at g2 ⊢;simp[go_sem,g2,hz]
 show Oper.upon _ _ _ _ _ (Sem.run prog (execOp ({ tmps:=ts.setIfInBounds s (.agg (dP k wd tk pp ps pl)),defers:=[] }:Act).eval _) _);rw[e2,Oper.upon_skip];refine hK' _ _ (wpList_plain rfl fun K2 hK2=>?_)
 have e3:(execOp ({ tmps:=ts.setIfInBounds s (.agg (dP k wd tk pp ps pl)),defers:=[] }:Act).eval { dst:=some 3,op:=.assign (.const (.bool true)),type:=4,pos:=p3,after:=a3,guard:=none }).run prog (w.alloc (.cells (dP k wd tk pp ps pl) 233))=.ok (.value (.bool true)) (w.alloc (.cells (dP k wd tk pp ps pl) 233)):=by
  simp[go_sem]
 show Oper.upon _ _ _ _ _ (Sem.run prog (execOp ({ tmps:=ts.setIfInBounds s (.agg (dP k wd tk pp ps pl)),defers:=[] }:Act).eval _) _);rw[e3,Oper.upon_value];exact hK2 _ _ (wpList_nil (wp_ret hq))
abbrev az:=Int×ByteArray×Int×ByteArray×ByteArray×Bool
def jx:List az->Int->Array Value×Bool
 | [],_=>(dP 0 ⟨#[]⟩ 0 ⟨#[]⟩ ⟨#[]⟩ false,false)
 | x::r,c=>if c=x.1 then (dP x.1 x.2.1 x.2.2.1 x.2.2.2.1 x.2.2.2.2.1 x.2.2.2.2.2,true) else jx r c
def iE:List az:=[
 ((0,⟨#[116,114,97,112]⟩,0,⟨#[]⟩,⟨#[]⟩,false):az),
 ((1,⟨#[110,111,112]⟩,0,⟨#[]⟩,⟨#[]⟩,true):az),
 ((2,⟨#[98,108,111,99,107]⟩,1,⟨#[]⟩,⟨#[]⟩,false):az),
 ((3,⟨#[108,111,111,112]⟩,1,⟨#[]⟩,⟨#[]⟩,false):az),
 ((4,⟨#[105,102]⟩,1,⟨#[]⟩,⟨#[]⟩,false):az),
 ((5,⟨#[101,108,115,101]⟩,0,⟨#[]⟩,⟨#[]⟩,false):az),
 ((6,⟨#[101,110,100]⟩,0,⟨#[]⟩,⟨#[]⟩,false):az),
 ((7,⟨#[98,114]⟩,2,⟨#[]⟩,⟨#[]⟩,false):az),
 ((8,⟨#[98,114,105,102]⟩,2,⟨#[]⟩,⟨#[]⟩,false):az),
 ((9,⟨#[98,114,116,97,98,108,101]⟩,3,⟨#[]⟩,⟨#[]⟩,false):az),
 ((10,⟨#[114,101,116,117,114,110]⟩,0,⟨#[]⟩,⟨#[]⟩,false):az),
 ((11,⟨#[99,97,108,108]⟩,4,⟨#[]⟩,⟨#[]⟩,false):az),
 ((12,⟨#[104,111,115,116]⟩,5,⟨#[]⟩,⟨#[]⟩,false):az),
 ((16,⟨#[100,114,111,112]⟩,0,⟨#[]⟩,⟨#[]⟩,false):az),
 ((17,⟨#[115,101,108,101,99,116]⟩,0,⟨#[]⟩,⟨#[]⟩,false):az),
 ((18,⟨#[103,101,116]⟩,6,⟨#[]⟩,⟨#[]⟩,false):az),
 ((19,⟨#[115,101,116]⟩,6,⟨#[]⟩,⟨#[]⟩,false):az),
 ((20,⟨#[116,101,101]⟩,6,⟨#[]⟩,⟨#[]⟩,false):az),
 ((21,⟨#[103,103,101,116]⟩,7,⟨#[]⟩,⟨#[]⟩,false):az),
 ((22,⟨#[103,115,101,116]⟩,7,⟨#[]⟩,⟨#[]⟩,false):az),
 ((24,⟨#[119,46,99,111,110,115,116]⟩,8,⟨#[]⟩,⟨#[119]⟩,true):az),
 ((25,⟨#[108,46,99,111,110,115,116]⟩,8,⟨#[]⟩,⟨#[108]⟩,true):az),
 ((32,⟨#[119,46,108,111,97,100,56,117]⟩,9,⟨#[119]⟩,⟨#[119]⟩,true):az),
 ((33,⟨#[119,46,108,111,97,100,56,115]⟩,9,⟨#[119]⟩,⟨#[119]⟩,true):az),
 ((34,⟨#[119,46,108,111,97,100,49,54,117]⟩,9,⟨#[119]⟩,⟨#[119]⟩,true):az),
 ((35,⟨#[119,46,108,111,97,100,49,54,115]⟩,9,⟨#[119]⟩,⟨#[119]⟩,true):az),
 ((36,⟨#[119,46,108,111,97,100]⟩,9,⟨#[119]⟩,⟨#[119]⟩,true):az),
 ((37,⟨#[108,46,108,111,97,100]⟩,9,⟨#[119]⟩,⟨#[108]⟩,true):az),
 ((38,⟨#[119,46,115,116,111,114,101,56]⟩,9,⟨#[119,119]⟩,⟨#[]⟩,true):az),
 ((39,⟨#[119,46,115,116,111,114,101,49,54]⟩,9,⟨#[119,119]⟩,⟨#[]⟩,true):az),
 ((40,⟨#[119,46,115,116,111,114,101]⟩,9,⟨#[119,119]⟩,⟨#[]⟩,true):az),
 ((41,⟨#[108,46,115,116,111,114,101]⟩,9,⟨#[119,108]⟩,⟨#[]⟩,true):az),
 ((42,⟨#[115,105,122,101]⟩,0,⟨#[]⟩,⟨#[119]⟩,true):az),
 ((43,⟨#[103,114,111,119]⟩,0,⟨#[119]⟩,⟨#[119]⟩,true):az),
 ((48,⟨#[119,46,101,113,122]⟩,0,⟨#[119]⟩,⟨#[119]⟩,true):az),
 ((49,⟨#[119,46,101,113]⟩,0,⟨#[119,119]⟩,⟨#[119]⟩,true):az),
 ((50,⟨#[119,46,110,101]⟩,0,⟨#[119,119]⟩,⟨#[119]⟩,true):az),
 ((51,⟨#[119,46,108,116,115]⟩,0,⟨#[119,119]⟩,⟨#[119]⟩,true):az),
 ((52,⟨#[119,46,108,116,117]⟩,0,⟨#[119,119]⟩,⟨#[119]⟩,true):az),
 ((53,⟨#[119,46,108,101,115]⟩,0,⟨#[119,119]⟩,⟨#[119]⟩,true):az),
 ((54,⟨#[119,46,108,101,117]⟩,0,⟨#[119,119]⟩,⟨#[119]⟩,true):az),
 ((55,⟨#[119,46,99,108,122]⟩,0,⟨#[119]⟩,⟨#[119]⟩,true):az),
 ((56,⟨#[119,46,99,116,122]⟩,0,⟨#[119]⟩,⟨#[119]⟩,true):az),
 ((57,⟨#[119,46,112,111,112]⟩,0,⟨#[119]⟩,⟨#[119]⟩,true):az),
 ((58,⟨#[119,46,97,100,100]⟩,0,⟨#[119,119]⟩,⟨#[119]⟩,true):az),
 ((59,⟨#[119,46,115,117,98]⟩,0,⟨#[119,119]⟩,⟨#[119]⟩,true):az),
 ((60,⟨#[119,46,109,117,108]⟩,0,⟨#[119,119]⟩,⟨#[119]⟩,true):az),
 ((61,⟨#[119,46,100,105,118,115]⟩,0,⟨#[119,119]⟩,⟨#[119]⟩,true):az),
 ((62,⟨#[119,46,100,105,118,117]⟩,0,⟨#[119,119]⟩,⟨#[119]⟩,true):az),
 ((63,⟨#[119,46,114,101,109,115]⟩,0,⟨#[119,119]⟩,⟨#[119]⟩,true):az),
 ((64,⟨#[119,46,114,101,109,117]⟩,0,⟨#[119,119]⟩,⟨#[119]⟩,true):az),
 ((65,⟨#[119,46,97,110,100]⟩,0,⟨#[119,119]⟩,⟨#[119]⟩,true):az),
 ((66,⟨#[119,46,111,114]⟩,0,⟨#[119,119]⟩,⟨#[119]⟩,true):az),
 ((67,⟨#[119,46,120,111,114]⟩,0,⟨#[119,119]⟩,⟨#[119]⟩,true):az),
 ((68,⟨#[119,46,115,104,108]⟩,0,⟨#[119,119]⟩,⟨#[119]⟩,true):az),
 ((69,⟨#[119,46,115,104,114,115]⟩,0,⟨#[119,119]⟩,⟨#[119]⟩,true):az),
 ((70,⟨#[119,46,115,104,114,117]⟩,0,⟨#[119,119]⟩,⟨#[119]⟩,true):az),
 ((71,⟨#[119,46,114,111,116,108]⟩,0,⟨#[119,119]⟩,⟨#[119]⟩,true):az),
 ((72,⟨#[119,46,114,111,116,114]⟩,0,⟨#[119,119]⟩,⟨#[119]⟩,true):az),
 ((80,⟨#[108,46,101,113,122]⟩,0,⟨#[108]⟩,⟨#[119]⟩,true):az),
 ((81,⟨#[108,46,101,113]⟩,0,⟨#[108,108]⟩,⟨#[119]⟩,true):az),
 ((82,⟨#[108,46,110,101]⟩,0,⟨#[108,108]⟩,⟨#[119]⟩,true):az),
 ((83,⟨#[108,46,108,116,115]⟩,0,⟨#[108,108]⟩,⟨#[119]⟩,true):az),
 ((84,⟨#[108,46,108,116,117]⟩,0,⟨#[108,108]⟩,⟨#[119]⟩,true):az),
 ((85,⟨#[108,46,108,101,115]⟩,0,⟨#[108,108]⟩,⟨#[119]⟩,true):az),
 ((86,⟨#[108,46,108,101,117]⟩,0,⟨#[108,108]⟩,⟨#[119]⟩,true):az),
 ((87,⟨#[108,46,99,108,122]⟩,0,⟨#[108]⟩,⟨#[108]⟩,true):az),
 ((88,⟨#[108,46,99,116,122]⟩,0,⟨#[108]⟩,⟨#[108]⟩,true):az),
 ((89,⟨#[108,46,112,111,112]⟩,0,⟨#[108]⟩,⟨#[108]⟩,true):az),
 ((90,⟨#[108,46,97,100,100]⟩,0,⟨#[108,108]⟩,⟨#[108]⟩,true):az),
 ((91,⟨#[108,46,115,117,98]⟩,0,⟨#[108,108]⟩,⟨#[108]⟩,true):az),
 ((92,⟨#[108,46,109,117,108]⟩,0,⟨#[108,108]⟩,⟨#[108]⟩,true):az),
 ((93,⟨#[108,46,100,105,118,115]⟩,0,⟨#[108,108]⟩,⟨#[108]⟩,true):az),
 ((94,⟨#[108,46,100,105,118,117]⟩,0,⟨#[108,108]⟩,⟨#[108]⟩,true):az),
 ((95,⟨#[108,46,114,101,109,115]⟩,0,⟨#[108,108]⟩,⟨#[108]⟩,true):az),
 ((96,⟨#[108,46,114,101,109,117]⟩,0,⟨#[108,108]⟩,⟨#[108]⟩,true):az),
 ((97,⟨#[108,46,97,110,100]⟩,0,⟨#[108,108]⟩,⟨#[108]⟩,true):az),
 ((98,⟨#[108,46,111,114]⟩,0,⟨#[108,108]⟩,⟨#[108]⟩,true):az),
 ((99,⟨#[108,46,120,111,114]⟩,0,⟨#[108,108]⟩,⟨#[108]⟩,true):az),
 ((100,⟨#[108,46,115,104,108]⟩,0,⟨#[108,108]⟩,⟨#[108]⟩,true):az),
 ((101,⟨#[108,46,115,104,114,115]⟩,0,⟨#[108,108]⟩,⟨#[108]⟩,true):az),
 ((102,⟨#[108,46,115,104,114,117]⟩,0,⟨#[108,108]⟩,⟨#[108]⟩,true):az),
 ((103,⟨#[108,46,114,111,116,108]⟩,0,⟨#[108,108]⟩,⟨#[108]⟩,true):az),
 ((104,⟨#[108,46,114,111,116,114]⟩,0,⟨#[108,108]⟩,⟨#[108]⟩,true):az),
 ((112,⟨#[119,46,119,114,97,112]⟩,0,⟨#[108]⟩,⟨#[119]⟩,true):az),
 ((113,⟨#[108,46,101,120,116,101,110,100,115]⟩,0,⟨#[119]⟩,⟨#[108]⟩,true):az),
 ((114,⟨#[108,46,101,120,116,101,110,100,117]⟩,0,⟨#[119]⟩,⟨#[108]⟩,true):az),
 ((115,⟨#[119,46,101,120,116,56]⟩,0,⟨#[119]⟩,⟨#[119]⟩,true):az),
 ((116,⟨#[119,46,101,120,116,49,54]⟩,0,⟨#[119]⟩,⟨#[119]⟩,true):az),
 ((117,⟨#[108,46,101,120,116,51,50]⟩,0,⟨#[108]⟩,⟨#[108]⟩,true):az)]
def Fr(c:Int)(b:Nat)(ts:AVz):Prop:=ts.size=276/\ts[2]?.getD undef=ZP b 0/\ts[4]?.getD undef=ZU c
variable {b:Nat}
theorem Fr.put{c:Int}(h:Fr c b ts)(hs:4<s)(v:Value):Fr c b (ts.setIfInBounds s v):=by
 refine⟨by simpa using h.1,?_,?_⟩
 ·rw[Array.getElem?_setIfInBounds_ne ae]; exact h.2.1
 rw[Array.getElem?_setIfInBounds_ne ae]; exact h.2.2
def yz(w:World)(V:Array Value×Bool):Ending->World->Prop:=fun e w'=>e=.returned (.tuple #[.agg V.1,.bool V.2])/\w'=w.alloc (.cells V.1 233)
theorem BU{V:Array Value×Bool}{pl ok:Bool}(hV:(dP k wd tk pp ps pl,ok)=V)
  (h2:ts[2]?.getD undef=ZP w.heap.size 0) (h3:ts[3]?.getD undef=.bool ok):bodyPost prog Tryz.f163 (yz w V) .ret ⟨ts,[]⟩ (w.alloc (.cells (dP k wd tk pp ps pl) 233)):=by
 subst hV;refine i4 (v:=.tuple #[.agg (dP k wd tk pp ps pl),.bool ok]) ?_ rfl ⟨rfl,rfl⟩;rw[results_cell_tmp rfl];simp only[dP];simp[go_sem,h2,h3]
variable {id' s2:Nat}{x:az}
theorem link{c:Int}{r:List az}{V:Array Value×Bool}{pos pos' p1 p2 p3:String}{af a2 a3:Array Edge}    
  (hQ:∀a w',bodyPost prog Tryz.f163 (yz w V) .ret a w'->Q .ret a w') (ht:Fr c w.heap.size ts) (hV:jx (x::r) c=V) (l1:4<s/\s<276) (l2:4<s'/\s'<276) (l3:4<s2/\s2<276)
  (next:jx r c=V->∀ts',Fr c w.heap.size ts'->y.wp prog Q ⟨ts',[]⟩ (w.alloc (.cells (dP 0 ⟨#[]⟩ 0 ⟨#[]⟩ ⟨#[]⟩ false) 233))) :
  ((Code.region id #[{dst:=some s',op:=.binOp .eql 5 (.tmp 4) (.const (ZU x.1)) 5,type:=4,pos:=pos,after:=#[],guard:=none},{dst:=some s,op:=.assign (.tmp s'),type:=4,pos:=pos',after:=af,guard:=none}] false).seq (Code.cond (.tmp s)
   ((Code.region id' #[{dst:=some s2,op:=.build 233 #[(0,.const (ZU x.1)),(1,.const (.string x.2.1)),(2,.const (.int .i8 x.2.2.1)),(3,.const (.string x.2.2.2.1)),(4,.const (.string x.2.2.2.2.1)),(5,.const (.bool x.2.2.2.2.2))],type:=233,pos:=p1,after:=#[],guard:=none},
   {dst:=none,op:=.store 233 (.tmp 2) (.tmp s2),type:=0,pos:=p2,after:=a2,guard:=none},{dst:=some 3,op:=.assign (.const (.bool true)),type:=4,pos:=p3,after:=a3,guard:=none}] false).seq .ret) y)).wp prog Q ⟨ts,[]⟩ (w.alloc (.cells (dP 0 ⟨#[]⟩ 0 ⟨#[]⟩ ⟨#[]⟩ false) 233)):=by
 have hts:=(ht.put l2.1 (.bool (c==x.1))).put l1.1 (.bool (c==x.1));refine KI ht.2.2 (by rw[ht.1]; exact l1.2) (by rw[ht.1]; exact l2.2) (fun h=>?_) (fun h=>next (by rw[jx,if_neg h]at hV; exact hV) _ hts);refine QA hts.2.1 (by rw[hts.1]; exact l3.2) l3.1 (hQ _ _ (BU (by rw[jx,if_pos h]at hV; exact hV) ?_ ?_))
 ·rw[Array.getElem?_setIfInBounds_ne ae];exact(hts.put l3.1 _).2.1
 rw[Array.getElem?_setIfInBounds_self_of_lt (by simp; have:=hts.1; simp at this; omega)];rfl
theorem Xz(c:Int)(w:World):Zw 163 #[ZU c] w (yz w (jx iE c)):=by
 obtain⟨V,hV⟩:∃V,jx iE c=V:=⟨_,rfl⟩;rw[hV];refine calls_of_wp func163 rfl ?_;obtain⟨ts,hts⟩:∃ts:Array Value,(#[ZU c]:AVz)++Array.replicate (Tryz.f163.ntmps-(#[ZU c]:AVz).size) undef=ts:=⟨_,rfl⟩
 have z0:ts.size=276:=by rw[<- hts]; simp[ntmps163]
 have t0:ts[0]?.getD undef=ZU c:=by rw[<- hts]; simp
 rw[hts];clear hts;refine wp_seq (wp_region_lit ?_);refine fZ rfl (v:=ZP w.heap.size 0) (w':=w.alloc (.cells (dP 0 ⟨#[]⟩ 0 ⟨#[]⟩ ⟨#[]⟩ false) 233)) (by simp only[dP]; simp[go_sem]) ?_;refine fZ rfl (v:=.bool false) (w':=w.alloc (.cells (dP 0 ⟨#[]⟩ 0 ⟨#[]⟩ ⟨#[]⟩ false) 233)) dB ?_;refine wpList_nil (wp_seq (wp_seq (wp_region_lit ?_)));refine fZ rfl (v:=ZU c) (w':=w.alloc (.cells (dP 0 ⟨#[]⟩ 0 ⟨#[]⟩ ⟨#[]⟩ false) 233)) (by simp[go_sem,Act.put,t0]) ?_;refine wpList_nil (wp_block ?_)
 have hts:Fr c w.heap.size (((ts.setIfInBounds 2 (ZP w.heap.size 0)).setIfInBounds 3 (.bool false)).setIfInBounds 4 (ZU c)):=by
  refine⟨s9,?_,?_⟩
  ·rw[Array.getElem?_setIfInBounds_ne ae,Array.getElem?_setIfInBounds_ne ae,Array.getElem?_setIfInBounds_self_of_lt ae]; rfl
  rw[Array.getElem?_setIfInBounds_self_of_lt aA]; rfl
 show Code.wp _ _ _ ⟨((ts.setIfInBounds 2 (ZP w.heap.size 0)).setIfInBounds 3 (.bool false)).setIfInBounds 4 (ZU c),[]⟩ _;generalize ((ts.setIfInBounds 2 (ZP w.heap.size 0)).setIfInBounds 3 (.bool false)).setIfInBounds 4 (ZU c)=ts1 at hts ⊢;clear z0 t0;clear ts;unfold iE at hV
 iterate 90
  refine link ?_ hts hV ?_ ?_ ?_ ?_
  ·exact fun _ _ h=>h
  ·decide
  ·decide
  ·decide
  clear hV hts;intro hV ts hts
 refine wp_skip ?_;show Code.wp _ _ _ _ _;refine wp_seq (wp_region_lit ?_)
 have h275:(275:Nat)<ts.size:=by rw[hts.1]; decide
 refine fZ rfl (v:=.agg (dP 0 ⟨#[]⟩ 0 ⟨#[]⟩ ⟨#[]⟩ false)) (w':=w.alloc (.cells (dP 0 ⟨#[]⟩ 0 ⟨#[]⟩ ⟨#[]⟩ false) 233)) (by simp only[dP]; simp[go_sem]) ?_;have g2:(ts.setIfInBounds 275 (.agg (dP 0 ⟨#[]⟩ 0 ⟨#[]⟩ ⟨#[]⟩ false)))[2]?.getD undef=ZP w.heap.size 0:=(hts.put au _).2.1;refine step_skip rfl (w':=w.alloc (.cells (dP 0 ⟨#[]⟩ 0 ⟨#[]⟩ ⟨#[]⟩ false) 233)) (by simp only[dP]; simp[go_sem,Act.put,h275,hts.2.1]) ?_;refine fZ rfl (v:=.bool false) (w':=w.alloc (.cells (dP 0 ⟨#[]⟩ 0 ⟨#[]⟩ ⟨#[]⟩ false) 233)) dB ?_;refine wpList_nil (wp_ret (BU hV ?_ ?_))
 ·show((ts.setIfInBounds 275 _).setIfInBounds 3 _)[2]?.getD undef=_
  rw[Array.getElem?_setIfInBounds_ne ae];exact g2
 show((ts.setIfInBounds 275 _).setIfInBounds 3 _)[3]?.getD undef=_;rw[Array.getElem?_setIfInBounds_self_of_lt aA];rfl
def kw:az:=(0,⟨#[]⟩,0,⟨#[]⟩,⟨#[]⟩,false)
def rv(x:az):Array Value:=dP x.1 x.2.1 x.2.2.1 x.2.2.2.1 x.2.2.2.2.1 x.2.2.2.2.2
def rowAt(b:Nat)(x:az):List (Addr×Value):=[((ZA b 0),ZU x.1),((ZA b 1),.string x.2.1),((ZA b 2),.int .i8 x.2.2.1),((ZA b 3),.string x.2.2.2.1),((ZA b 4),.string x.2.2.2.2.1),((ZA b 5),.bool x.2.2.2.2.2)]
variable {W:World}
theorem ki(h:aC (rowAt b x) W) :
  (W.cell? (ZA b 0)=some (ZU x.1)/\W.cell? (ZA b 1)=some (.string x.2.1)/\W.cell? (ZA b 2)=some (.int .i8 x.2.2.1)/\W.cell? (ZA b 3)=some (.string x.2.2.2.1)/\W.cell? (ZA b 4)=some (.string x.2.2.2.2.1)/\W.cell? (ZA b 5)=some (.bool x.2.2.2.2.2)) /\
  (W.frozen? (ZA b 0)=false/\W.frozen? (ZA b 1)=false/\W.frozen? (ZA b 2)=false/\W.frozen? (ZA b 3)=false/\W.frozen? (ZA b 4)=false/\W.frozen? (ZA b 5)=false):=by
 unfold rowAt at h;exact⟨⟨(h ((ZA b 0),_) av).1,(h ((ZA b 1),_) av).1,(h ((ZA b 2),_) av).1,(h ((ZA b 3),_) av).1,(h ((ZA b 4),_) av).1,(h ((ZA b 5),_) av).1⟩,
  (h _ (Zad ..)).2,(h ((ZA b 1),.string x.2.1) av).2,(h ((ZA b 2),.int .i8 x.2.2.1) av).2,(h ((ZA b 3),.string x.2.2.2.1) av).2,(h ((ZA b 4),.string x.2.2.2.2.1) av).2,(h ((ZA b 5),.bool x.2.2.2.2.2) av).2⟩
variable {A B:World}
theorem aC.later{cs:List (Addr×Value)}(h:aC cs A)(hb:Below n A B)(hn:∀p∈cs,p.1.block<n):aC cs B :=
 fun p hp=>⟨(hb.cell (hn p hp)).trans (h p hp).1,(hb.frozen (hn p hp)).trans (h p hp).2⟩
def Ny(i:Nat)(c:Int):az:=(c,nZ (kF i) c (kA i) (dm (kW i)),wN c,(tW c).1,(tW c).2,zU c)
def zR:Nat->Nat->Int->az×Bool
 | 0,_,_=>(kw,false)
 | n+1,i,c=>if kF i<=c/\c<=kL i then (Ny i c,true) else zR n (i+1) c
def ofV(c:Int):az×Bool:=zR 7 0 c
theorem of6(c:Int)(w:World)(hk:aX w)(h0:0<=c)(h1:c<=255):Zw 178 #[ZU c] w (ZC (.tuple #[.agg (rv (ofV c).1),.bool (ofV c).2]) w):=by
 obtain⟨V,hV⟩:∃V,ofV c=V:=⟨_,rfl⟩;rw[hV];go_enter func178,ntmps178;refine wp_seq_k fun K1 hK1=>wp_region_lit ?_;refine fZ rfl (v:=ZP w.heap.size 0) (w':=w.alloc (bV 0 ⟨#[]⟩ 0 ⟨#[]⟩ ⟨#[]⟩ false)) dB ?_;refine fZ rfl (v:=.bool false) (w':=w.alloc (bV 0 ⟨#[]⟩ 0 ⟨#[]⟩ ⟨#[]⟩ false)) dB ?_;refine wpList_nil (hK1 _ _ ?_);clear hK1;have hb:Zx w (w.alloc (bV 0 ⟨#[]⟩ 0 ⟨#[]⟩ ⟨#[]⟩ false)):=(ZT _ w).alloc lRn _
 have hc:aC (rowAt w.heap.size kw) (w.alloc (bV 0 ⟨#[]⟩ 0 ⟨#[]⟩ ⟨#[]⟩ false)):=by
  unfold rowAt kw
  refine aC.cons ?_ ?_ (aC.cons ?_ ?_ (aC.cons ?_ ?_ (aC.cons ?_ ?_ (aC.cons ?_ ?_ (aC.cons ?_ ?_ lJ))))) <;> simp[go_sem]
 refine wp_seq_k fun K2 hK2=>wp_seq_k fun K3 hK3=>wp_region_lit ?_;refine fZ rfl (tO (hk.later hb hk.pos) _ _ _ _ _) ?_;obtain⟨kv,hkv⟩:∃kv,qH=kv:=⟨_,rfl⟩;rw[hkv];have run_kind':∀(w:World)(i:Nat)(hi:i<7),(Instr.index 288 kv (ZI i)).run prog w=.ok (.agg #[ZU (kF i),ZU (kL i),.string (kA i),.string (kW i)]) w:=fun w i hi=>hkv ▸ BS i hi;have HK:=hid run_kind';clear run_kind' hkv;go_wp2_with fail
 go_loopw [9] (fun p wr=>∃i:Nat,p=ZI i/\i<=7/\Zx w wr/\aC (rowAt w.heap.size kw) wr/\zR (7-i) i c=V) (fun p wr=>7-(intOf p).toNat)
 case atStart=>exact⟨0,rfl,au,hb,hc,hV⟩
 case round =>
  clear hb hc hV;obtain⟨i,rfl,hi,hB,hR,hV⟩:=hrel
  by_cases h7:i=7
  ·subst h7;have hx:V=(kw,false):=hV.symm;subst hx;obtain⟨⟨d0,d1,d2,d3,d4,d5⟩,e0,e1,e2,e3,e4,e5⟩:=ki hR;go_wp2_with fail;refine i4 (v:=.tuple #[.agg (rv kw),.bool false]) ?_ rfl ⟨rfl,?_⟩
   ·rw[results_cell_tmp rfl];go_simp;rfl
   exact(((((hB.setCell (p:=(ZA w.heap.size 0)) av _).setCell (p:=(ZA w.heap.size 1)) av _).setCell (p:=(ZA w.heap.size 2)) av _).setCell (p:=(ZA w.heap.size 3)) av _).setCell (p:=(ZA w.heap.size 4)) av _).setCell (p:=(ZA w.heap.size 5)) av _
  have hlt:(i:Int)<7:=ae;have hix:=HK.out wr i ae;obtain⟨f0,f1,f2,f3,f4,f5⟩:=oH i ae;have HF:=hid ((Xc (kF i) (kL i) c (kA i) (kW i) · f0 f3 f4 f5));obtain⟨n,hn⟩:∃n,7-i=n+1:=⟨6-i,ae⟩;rw[hn,zR]at hV;have hwd:(Ny i c).2.1=nZ (kF i) c (kA i) (dm (kW i)):=rfl;generalize nZ (kF i) c (kA i) (dm (kW i))=wd at HF hwd
  by_cases hin:kF i<=c/\c<=kL i
  ·obtain⟨g1,g2⟩:=hin;rw[if_pos ⟨g1,g2⟩]at hV;generalize kF i=f at *;generalize kL i=l at *;generalize kA i=a at *;generalize kW i=ws at *;go_wp2_with fail;refine(OI c _ h0 h1).mono ?_;rintro e w2⟨rfl,rfl⟩;go_wp2_with fail;refine(HF.out _).mono ?_;rintro e w3⟨rfl,hb3⟩;go_wp2_with fail;refine(Tn c w3).mono ?_;rintro e w4⟨rfl,rfl⟩;go_wp2_with fail;refine(Q4 c w4).mono ?_;rintro e w5⟨rfl,rfl⟩;have hwr:w.heap.size<wr.heap.size:=World.block_lt_of_cell? wr (ZA w.heap.size 0) (ki hR).1.1
   have hR3:aC (rowAt w.heap.size kw) w5:=(hR.grown (World.grownBy_alloc wr _ none) (fun r e=>eO)).later hb3 (by simp[rowAt]; omega);have hB3:Zx w w5:=(hB.alloc hB.size _).trans (hb3.mono aA);clear hb3 hR;obtain⟨⟨d0,d1,d2,d3,d4,d5⟩,e0,e1,e2,e3,e4,e5⟩:=ki hR3;go_wp2_with fail;subst hV;refine i4 (v:=.tuple #[.agg #[ZU c,.string wd,.int .i8 (wN c),.string (tW c).1,.string (tW c).2,.bool (zU c)],.bool true]) ?_ rfl ⟨by rw[<- hwd]; rfl,?_⟩
   ·exact kG
   exact(((((hB3.setCell (p:=(ZA w.heap.size 0)) av _).setCell (p:=(ZA w.heap.size 1)) av _).setCell (p:=(ZA w.heap.size 2)) av _).setCell (p:=(ZA w.heap.size 3)) av _).setCell (p:=(ZA w.heap.size 4)) av _).setCell (p:=(ZA w.heap.size 5)) av _
  rw[if_neg hin]at hV;have hwr:w.heap.size<wr.heap.size:=World.block_lt_of_cell? wr (ZA w.heap.size 0) (ki hR).1.1;have hR2:=hid (hR.grown (World.grownBy_alloc wr (ru (kF i) (kL i) (kA i) (kW i)) none) (fun r e=>eO));have sq:=hid (hB.alloc hB.size (ru (kF i) (kL i) (kA i) (kW i)));have hV2:=hid hV;clear hV hR hB;have hw:wrap64 ((i:Int)+1)=i+1:=dV;clear HF hwd f0 f1 f2 f3 f4 f5;generalize kF i=f at *;generalize kL i=l at *;generalize kA i=a at *;generalize kW i=ws at *
  by_cases qap:c<f
  ·exact GI
  have hhigh:l<c:=ae;exact GI
def lo(t:Int)(g:Bool):Int:=if t=8 then (if g=true then -9223372036854775808 else -2147483648) else 0
def hi(t:Int)(g:Bool):Int :=
 if t=0\/t=3 then 0 else if t=9 then 4294967295 else if t=8 then (if g=true then 9223372036854775807 else 2147483647) else 2147483647
theorem qg(t:Int)(g:Bool):-9223372036854775808<=lo t g/\lo t g<=0:=by
 unfold lo; split
 ·split <;> omega
 omega
theorem p8(t:Int)(g:Bool):0<=hi t g/\hi t g<=9223372036854775807/\(t≠8->hi t g<=4294967295/\lo t g=0):=by
 unfold hi lo
 split
 ·refine⟨ae,ae,fun h=>?_⟩
  rw[if_neg h]; omega
 split
 ·refine⟨ae,ae,fun h=>?_⟩
  rw[if_neg h]; omega
 split
 ·refine⟨by split <;> omega,by split <;> omega,fun h=>ae⟩
 refine⟨ae,ae,fun h=>?_⟩;omega
def okL:List Int->Prop
 | []=>True
 | z::l=>(0<=z/\z<=2147483647)/\okL l
instance decOkL:(l:LIz)->Decidable (okL l)
 | []=>.isTrue trivial
 | z::l=>match decOkL l with
  | .isTrue h=>if hz:0<=z/\z<=2147483647 then .isTrue ⟨hz,h⟩ else .isFalse fun x=>hz x.1
  | .isFalse h=>.isFalse fun x=>h x.2
theorem wX:∀(l:LIz),okL l↔∀z∈l,0<=z/\z<=2147483647
 | []=>by simp[okL]
 | z::l=>by simp[okL,wX l]
def chk(t:Int)(g:Bool)(a:Int)(l:LIz):Int :=
 if t=-1 then 21
 else if a<lo t g\/hi t g<a then 17
 else if t=3 then (if l.length<1\/16<l.length then 17 else if okL l then 0 else 17)
 else if l.length=0 then 0 else 17
def eX:List Int->List Int
 | []=>[]
 | z::l=>aw z++eX l
def Bz(t a:Int)(l:LIz):List Int :=
 if t=0 then [] else if t=8 then aw (fo a) else if t=3 then aw l.length++eX l else aw a
theorem pQ:∀(l:LIz),(eX l).length<=10*l.length
 | []=>by simp[eX]
 | z::l=>by
  have:=pQ l;have:=ay z;simp only[eX,ZV,Z1]; omega
theorem Vq(f:Nat):∀(v:Int),0<=v->v<128 ^ f*256->∀z∈uv f v,0<=z/\z<=255:=by
 induction f with
 | zero=>intro v h0 h1 z hz; simp[uv]at hz; simp at h1; omega
 | succ f ih =>
  intro v h0 h1 z hz
  by_cases h:v<128
  ·simp[uv,h]at hz; omega
  simp only[uv,h,if_false,List.mem_cons]at hz
  rcases hz with rfl | hz
  ·omega
  refine ih (v / 128) ae ?_ z hz;have hs:(128:Int) ^ (f+1)=128 ^ f*128:=Int.pow_succ _ _;rw[hs]at h1;generalize (128:Int) ^ f=X at h1 ⊢;omega
theorem pP(v:Int)(h0:0<=v)(h1:v<18446744073709551616):∀z∈aw v,0<=z/\z<=255:=by
 have e:(128:Int) ^ 9=9223372036854775808:=au;refine Vq 9 v h0 ?_;rw[e]; omega
theorem BP:∀(l:LIz),okL l->∀z∈eX l,0<=z/\z<=255
 | [],_,z,hz=>by simp[eX]at hz
 | y::l,h,z,hz=>by
  simp only[eX,List.mem_append]at hz
  rcases hz with hz | hz
  ·exact pP y h.1.1 (by have:=h.1.2; omega) z hz
  exact BP l h.2 z hz
variable {t a:Int}{g:Bool}{l:LIz}
theorem qB(h:chk t g a l=0) :
  t≠-1/\lo t g<=a/\a<=hi t g/\(t=3->1<=l.length/\l.length<=16/\okL l)/\(t≠3->l=[]):=by
 unfold chk at h
 by_cases h1:t=-1
 ·rw[if_pos h1]at h; omega
 rw[if_neg h1]at h
 by_cases h2:a<lo t g\/hi t g<a
 ·rw[if_pos h2]at h; omega
 rw[if_neg h2]at h
 by_cases h3:t=3
 ·rw[if_pos h3]at h
  by_cases h4:l.length<1\/16<l.length
  ·rw[if_pos h4]at h; omega
  rw[if_neg h4]at h
  by_cases h5:okL l
  ·exact⟨h1,ae,ae,fun _=>⟨ae,ae,h5⟩,fun h=>absurd h3 h⟩
  rw[if_neg h5]at h; omega
 rw[if_neg h3]at h
 by_cases h4:l.length=0
 ·exact⟨h1,ae,ae,fun h=>absurd h h3,fun _=>Z6 h4⟩
 rw[if_neg h4]at h; omega
theorem Ai(t a:Int)(l:LIz)(h:l.length<=16):(Bz t a l).length<=170:=by
 unfold Bz
 split
 ·simp
 split
 ·have:=ay (fo a); omega
 split
 ·have:=ay l.length
  have:=pQ l;rw[ZV]; omega
 have:=ay a; omega
theorem Ll(h:chk t g a l=0):∀z∈Bz t a l,0<=z/\z<=255:=by
 obtain⟨h1,h2,h3,h4,h5⟩:=qB h;have hl:=qg t g;have hh:=p8 t g;intro z hz;unfold Bz at hz
 by_cases t0:t=0
 ·rw[if_pos t0]at hz; simp at hz
 rw[if_neg t0]at hz
 by_cases t8:t=8
 ·rw[if_pos t8]at hz
  have:=mN a ae ae;exact pP _ this.1 this.2 z hz
 rw[if_neg t8]at hz
 by_cases t3:t=3
 ·rw[if_pos t3]at hz;obtain⟨a1,a2,a3⟩:=h4 t3
  rcases List.mem_append.1 hz with hz | hz
  ·exact pP _ ae ae z hz
  exact BP l a3 z hz
 rw[if_neg t3]at hz;have:=hh.2.2 t8;exact pP _ ae ae z hz
def mj(a b:Int):Value:=.agg #[ZI a,ZI b]
def inB(a b v:Int):Bool:=decide (a<=v/\v<=b)
theorem TP{a b v:Int}(h1:a<=v)(h2:v<=b):inB a b v=true:=by unfold inB; simp[h1,h2]
theorem Mw{a b v:Int}(h:v<a\/b<v):inB a b v=false:=by unfold inB; simp; omega
theorem pq(a b v:Int)(w:World):Zw 315 #[mj a b,ZI v] w (ZC (.bool (inB a b v)) w):=by
 unfold mj
 by_cases h1:a<=v
 ·by_cases h2:v<=b
  ·have HR:=show Hid _ from TP h1 h2;exact yY
  have HR:=show Hid _ from Mw (a:=a) (.inr (by omega:b<v));exact yY
 have HR:=show Hid _ from Mw (b:=b) (.inl (by omega:v<a));exact yY
theorem qN(w:World):Zw 316 #[] w (ZC (mj 0 2147483647) w):=by
 go_enter func316,ntmps316
 go_wp2
 refine i4 (v:=.agg #[ZI 0,ZI 2147483647]) (by simp[results,results316,go_sem]) rfl ⟨rfl,?_⟩;exact(ZT _ _).alloc lRn _
def fA(ps:BAz):Bool:=decide (ps=⟨#[108]⟩)
theorem DL(ps:BAz):(ps.toList==[108])=fA ps:=by
 rw[ByteArray.toList_eq];unfold fA
 by_cases h:ps=⟨#[108]⟩
 ·simp[h]
 rw[decide_eq_false h,beq_eq_false_iff_ne];intro e;apply h
 cases ps with
 | mk d =>
  have e2:d.toList=(#[108]:Array UInt8).toList:=e;rw[Array.toList_inj.1 e2]
theorem qP(c t:Int)(wd pp ps:BAz)(pl:Bool)(w:World) :
  Zw 314 #[.agg #[ZU c,.string wd,.int .i8 t,.string pp,.string ps,.bool pl]] w (ZC (mj (lo t (fA ps)) (hi t (fA ps))) w):=by
 by_cases h0:t=0
 ·subst h0;exact NP
 by_cases h3:t=3
 ·subst h3;exact NP
 by_cases h9:t=9
 ·subst h9
  go_enter func314,ntmps314
  go_wp2;refine i4 (v:=.agg #[ZI 0,ZI 4294967295]) yA rfl ⟨rfl,?_⟩;exact pW
 by_cases h8:t=8
 ·subst h8;have hl:=DL ps
  cases hb:fA ps
  ·rw[hb]at hl
   go_enter func314,ntmps314
   go_wp2;refine i4 (v:=.agg #[ZI (-2147483648),ZI 2147483647]) yA rfl ⟨rfl,?_⟩;exact pW
  rw[hb]at hl;go_enter func314,ntmps314
  go_wp2;refine i4 (v:=.agg #[ZI (-9223372036854775808),ZI 9223372036854775807]) yA rfl ⟨rfl,?_⟩;exact pW
 have e0:(t==0)=false:=by simp[h0]
 have e3:(t==3)=false:=by simp[h3]
 have e9:(t==9)=false:=by simp[h9]
 have e8:(t==8)=false:=by simp[h8]
 have HV:=show Hid (mj (lo t (fA ps)) (hi t (fA ps))=mj 0 2147483647) by
  show mj (lo t (fA ps)) (hi t (fA ps))=mj 0 2147483647;unfold lo hi;rw[if_neg h8,if_neg ae,if_neg h9,if_neg h8]
 clear h0 h3 h9 h8;go_enter func314,ntmps314
 go_wp2_with fail;refine(qN _).mono ?_;rintro e w1⟨rfl,hb⟩;unfold mj at *
 have c0:w1.cell? (ZA (w.heap.size+1) 0)=some (ZI 0):=by rw[hb.cell av]; simp[go_sem]
 have c1:w1.cell? (ZA (w.heap.size+1) 1)=some (ZI 0):=by rw[hb.cell av]; simp[go_sem]
 have f0:w1.frozen? (ZA (w.heap.size+1) 0)=false:=by rw[hb.frozen av]; simp[go_sem]
 have f1:w1.frozen? (ZA (w.heap.size+1) 1)=false:=by rw[hb.frozen av]; simp[go_sem]
 go_wp2
 refine i4 (v:=.agg #[ZI 0,ZI 2147483647]) (by simp[results,results314,go_sem,c0,c1]) rfl ⟨congrArg Ending.returned HV.out.symm,?_⟩;exact((((((ZT _ _).alloc lRn _).alloc av _).trans (hb.mono aA)).setCell av _).setCell av _)
theorem LK(c t:Int)(wd pp ps:BAz)(pl:Bool)(w:World) :
  Zw 312 #[.agg #[ZU c,.string wd,.int .i8 t,.string pp,.string ps,.bool pl]] w (ZC (if t=3 then mj 1 16 else mj 0 0) w):=by
 by_cases h3:t=3
 ·subst h3;rw[if_pos rfl]
  go_enter func312,ntmps312
  go_wp2
  refine i4 (v:=.agg #[ZI 1,ZI 16]) (by simp[results,results312,go_sem]) rfl ⟨rfl,?_⟩;exact pW
 rw[if_neg h3]
 have e3:(t==3)=false:=by simp[h3]
 clear h3;go_enter func312,ntmps312
 go_wp2
 refine i4 (v:=.agg #[ZI 0,ZI 0]) (by simp[results,results312,go_sem]) rfl ⟨rfl,?_⟩;exact pW
section
def tkV(c:Int):Int:=if (ofV c).2=true then (ofV c).1.2.2.1 else -1
def lgV(c:Int):Bool:=fA (ofV c).1.2.2.2.2.1
def gW(w:World)(a:OAz)(n cap:Nat)(l:LIz):Prop :=
 l.length=n/\n<=cap/\n<=1099511627776/\(∀z∈l,-9223372036854775808<=z/\z<=9223372036854775807) /\
 (n=0\/∃b off,a=some (ZA b off)/\∀j,j<n->w.cell? (ZA b (off+j))=some (ZI (l.getD j 0)))
variable {w w':World}{a:OAz}{n cap B:Nat}{l:LIz}
theorem gW.later(h:gW w a n cap l)(hb:Below B w w')(hB:w.heap.size<=B):gW w' a n cap l:=by
 exact Dd
def jW(c a:Int)(s:Value):Value:=.agg #[ZU c,ZI a,s]
variable {X Y ln lc:Nat}{la:OAz}{wd pp ps:BAz}{w2 W W':World}
theorem gD{c a rc t:Int}{pl:Bool}(hb:Zx W W')
  (h:W.cell? (ZA X 0)=some (ZU c)/\W.cell? (ZA X 1)=some (ZI a)/\W.cell? (ZA X 2)=some (.slice la ln lc)/\W.cell? (ZA Y 0)=some (ZU rc)/\W.cell? (ZA Y 1)=some (.string wd)/\W.cell? (ZA Y 2)=some (.int .i8 t)/\W.cell? (ZA Y 3)=some (.string pp)/\W.cell? (ZA Y 4)=some (.string ps)/\W.cell? (ZA Y 5)=some (.bool pl)/\Zx w2 W) :
  W'.cell? (ZA X 0)=some (ZU c)/\W'.cell? (ZA X 1)=some (ZI a)/\W'.cell? (ZA X 2)=some (.slice la ln lc)/\W'.cell? (ZA Y 0)=some (ZU rc)/\W'.cell? (ZA Y 1)=some (.string wd)/\W'.cell? (ZA Y 2)=some (.int .i8 t)/\W'.cell? (ZA Y 3)=some (.string pp)/\W'.cell? (ZA Y 4)=some (.string ps)/\W'.cell? (ZA Y 5)=some (.bool pl)/\Zx w2 W':=by
 obtain⟨h0,h1,h2,h3,h4,h5,h6,h7,h8,h9⟩:=h;have hX:=ZQ h0;have hY:=ZQ h3
 exact⟨(hb.cell (by simpa using hX)).trans h0,(hb.cell (by simpa using hX)).trans h1,(hb.cell (by simpa using hX)).trans h2,(hb.cell qU).trans h3,(hb.cell qU).trans h4,
  (hb.cell qU).trans h5,(hb.cell qU).trans h6,(hb.cell qU).trans h7,(hb.cell qU).trans h8,h9.trans (hb.mono h9.size)⟩
variable {g:Bool}{a:Int}
theorem Cg    : chk (-1) g a l=21:=by unfold chk; rw[if_pos rfl]
theorem AH(l:LIz)(k:Nat)(hk:k<l.length):okL (l.drop k)↔(0<=l.getD k 0/\l.getD k 0<=2147483647)/\okL (l.drop (k+1)):=by
 rw[List.drop_eq_getElem_cons hk];simp[okL,hk]
theorem PK(l:LIz)(hr:∀z∈l,-9223372036854775808<=z/\z<=9223372036854775807)(j:Nat):-9223372036854775808<=l.getD j 0/\l.getD j 0<=9223372036854775807:=by
 by_cases h:j<l.length
 ·simp only[Z3,aD h,Option.getD_some]; exact hr _ (List.getElem_mem h)
 simp only[Z3,List.getElem?_eq_none (by omega:l.length<=j),Option.getD_none]; omega
def cLo(t:Int):Int:=if t=3 then 1 else 0
def cHi(t:Int):Int:=if t=3 then 16 else 0
variable {t:Int}
theorem Mf(ht:t≠-1)(h1:inB (lo t g) (hi t g) a=true)(h2:inB (cLo t) (cHi t) l.length=true) :
  chk t g a l=if okL l then 0 else 17:=by
 unfold inB cLo cHi at *;have h1:=of_decide_eq_true h1;have h2:=of_decide_eq_true h2;unfold chk;rw[if_neg ht,if_neg ae]
 by_cases h3:t=3
 ·rw[if_pos h3]at *;rw[if_pos h3]at h2;rw[if_neg ae]
 rw[if_neg h3]at *;rw[if_neg h3]at h2;have:l=[]:=Z6 ae;subst this;rfl
theorem Hw(ht:t≠-1)(h:inB (lo t g) (hi t g) a=false\/inB (cLo t) (cHi t) l.length=false):chk t g a l=17:=by
 unfold inB cLo cHi at h;unfold chk;rw[if_neg ht]
 by_cases ha:a<lo t g\/hi t g<a
 ·rw[if_pos ha]
 rw[if_neg ha]
 have h:¬((if t=3 then 1 else 0:Int)<=l.length/\(l.length:Int)<=(if t=3 then 16 else 0:Int)):=by
  rcases h with h | h
  ·exact absurd (of_decide_eq_false h) ae
  exact of_decide_eq_false h
 by_cases h3:t=3
 ·rw[if_pos h3]at h ⊢;rw[if_pos h3]at h;rw[if_pos ae]
 rw[if_neg h3]at h ⊢;rw[if_neg h3]at h;rw[if_neg ae]
theorem UL(c:Int)(h0:0<=c)(h1:c<=255):((ofV c).1.2.2.1≠-1):=by
 obtain⟨n,rfl⟩:=Int.eq_ofNat_of_zero_le h0;have hall:((List.range 256).all fun(n:Nat)=>decide ((ofV (n:Int)).1.2.2.1≠-1))=true:=kO;exact of_decide_eq_true (List.all_eq_true.1 hall n (List.mem_range.2 ae))
theorem pI(c t:Int)(wd pp ps:BAz)(pl:Bool)(w:World) :
  Zw 312 #[.agg #[ZU c,.string wd,.int .i8 t,.string pp,.string ps,.bool pl]] w (ZC (mj (cLo t) (cHi t)) w):=by
 refine(LK c t wd pp ps pl w).mono fun e w' ⟨he,hb⟩=>⟨?_,hb⟩;rw[he];unfold cLo cHi
 by_cases h:t=3
 ·rw[if_pos h,if_pos h,if_pos h]
 (iterate 3 rw[if_neg h])
theorem Ju(c a:Int)(la:OAz)(ln lc:Nat)(l:LIz)(w:World)(hk:aX w)(h0:0<=c)(h1:c<=255)(hl:gW w la ln lc l) :
  Zw 330 #[jW c a (.slice la ln lc)] w (ZC (ZI (chk (tkV c) (lgV c) a l)) w):=by
 have hof:=hid (fun W hW=>of6 c W hW h0 h1);have hne:=UL c h0 h1;unfold tkV lgV jW;generalize ofV c=V at *;obtain⟨⟨rc,wd,t,pp,ps,pl⟩,fnd⟩:=V;simp only[rv,dP]at hof hne ⊢;have HL:=hid hl;have hln:=hl.2.2.1;have hlen:=hl.1;clear hl;have hb0:Zx w (w.alloc (aH c a la ln lc)):=(ZT _ _).alloc lRn _;have HO:=hid (hof.out _ (hk.later hb0 hk.pos));clear hof
 cases fnd
 ·go_enter func330,ntmps330
  go_wp2_with fail;refine HO.out.mono ?_;rintro e w1⟨rfl,hb1⟩;go_wp2;go_ret;refine⟨?_,?_⟩
  ·rw[Cg]; rfl
  exact(hb0.trans (hb1.mono av)).alloc uH _
 simp only[if_true];go_enter func330,ntmps330
 go_wp2_with fail;refine HO.out.mono ?_;rintro e w1⟨rfl,hb1⟩;have x0:w1.cell? (ZA w.heap.size 0)=some (ZU c):=aY;have x1:w1.cell? (ZA w.heap.size 1)=some (ZI a):=aY;have x2:w1.cell? (ZA w.heap.size 2)=some (.slice la ln lc):=aY;have hx:=ZQ x0;have B1:=hid (hb0.trans (hb1.mono av));clear hb1;go_wp2_with fail;obtain⟨w2,hw2⟩:∃w2,w1.alloc (bV rc wd t pp ps pl)=w2:=⟨_,rfl⟩;rw[hw2]
 have B2:=hid (show Zx w w2 by rw[<- hw2]; exact B1.out.alloc fL _)
 have y:w2.cell? (ZA w.heap.size 0)=some (ZU c)/\w2.cell? (ZA w.heap.size 1)=some (ZI a)/\w2.cell? (ZA w.heap.size 2)=some (.slice la ln lc)/\w2.cell? (ZA w1.heap.size 0)=some (ZU rc)/\w2.cell? (ZA w1.heap.size 1)=some (.string wd)/\w2.cell? (ZA w1.heap.size 2)=some (.int .i8 t)/\w2.cell? (ZA w1.heap.size 3)=some (.string pp)/\w2.cell? (ZA w1.heap.size 4)=some (.string ps)/\w2.cell? (ZA w1.heap.size 5)=some (.bool pl)/\Zx w2 w2:=by
  rw[<- hw2];refine⟨?_,?_,?_,?_,?_,?_,?_,?_,?_,(ZT _ _)⟩
  ·rw[World.cell?_alloc_past _ _ _ hx]; exact x0
  ·rw[World.cell?_alloc_past _ _ _ hx]; exact x1
  ·rw[World.cell?_alloc_past _ _ _ hx]; exact x2
  all_goals simp[go_sem]
 clear hw2 x0 x1 x2 B1 HO hb0;have yd:=y;obtain⟨y0,y1,y2,y3,y4,y5,y6,y7,y8,_⟩:=y
 have hwrap:IntKind.i64.wrap (ln:Int)=ln:=by simp[IntKind.wrap,IntKind.bits,IntKind.signed]; omega
 by_cases hA:inB (lo t (fA ps)) (hi t (fA ps)) a=true
 ·by_cases hC:inB (cLo t) (cHi t) l.length=true
  ·have HV:=hid (Mf (a:=a) (l:=l) hne hA hC);rw[hlen]at hC
   go_region_held3 (fun W=>W.cell? (ZA w.heap.size 0)=some (ZU c)/\W.cell? (ZA w.heap.size 1)=some (ZI a)/\W.cell? (ZA w.heap.size 2)=some (.slice la ln lc)/\W.cell? (ZA w1.heap.size 0)=some (ZU rc)/\W.cell? (ZA w1.heap.size 1)=some (.string wd)/\W.cell? (ZA w1.heap.size 2)=some (.int .i8 t)/\W.cell? (ZA w1.heap.size 3)=some (.string pp)/\W.cell? (ZA w1.heap.size 4)=some (.string ps)/\W.cell? (ZA w1.heap.size 5)=some (.bool pl)/\Zx w2 W)
    (first | assumption | (refine gD ?_ ?_ <;> assumption) | (exact⟨y0,y1,y2,y3,y4,y5,y6,y7,y8,(ZT _ _).drew⟩))
    (first
     | (go_at_call 314; refine(qP rc t wd pp ps pl _).mono ?_; rintro e w' ⟨rfl,qn⟩; have qt:=gD (X:=w.heap.size) (Y:=w1.heap.size) (w2:=w2) qn mF; clear qn)
     | (go_at_call 312; refine(pI rc t wd pp ps pl _).mono ?_; rintro e w' ⟨rfl,qn⟩; have qt:=gD (X:=w.heap.size) (Y:=w1.heap.size) (w2:=w2) qn mF; clear qn)
     | (go_at_call 315; refine(pq _ _ _ _).mono ?_; rintro e w' ⟨rfl,qn⟩; have qt:=gD (X:=w.heap.size) (Y:=w1.heap.size) (w2:=w2) qn mF; clear qn))
   have B3:=hid (B2.out.trans (qt.2.2.2.2.2.2.2.2.2.mono B2.out.size));have z2:=qt.2.2.1;clear qt yd y0 y1 y2 y3 y4 y5 y6 y7 y8 hC hA;go_wp2_with fail
   go_loopw [33] (fun i wr=>∃k:Nat,k<=ln/\i=ZI k/\Zx w wr/\(okL l↔okL (l.drop k))) (fun i _=>ln-(intOf i).toNat)
   case atStart=>exact⟨0,Z5 _,rfl,B3.out,av⟩
   case round =>
    obtain⟨k,hk,rfl,hb,hok⟩:=hrel;obtain⟨HB,HK⟩:=Zz hb hok;clear hb hok B3 z2
    by_cases hlt:k<ln
    ·rcases HL.out.2.2.2.2 with hz | ⟨b,off,rfl,hc⟩
     ·omega
     have hcell:wr.cell? (ZA b (off+k))=some (ZI (l.getD k 0)):=(HB.out.cell (p:=(ZA b (off+k))) (ZQ (hc k hlt))).trans (hc k hlt);have hd:=AH l k ae;have hrz:=PK l HL.out.2.2.2.1 k;generalize l.getD k 0=z at *;have HD:=hid hd;clear hd hc
     by_cases hin:inB 0 2147483647 z=true
     ·go_wp2_with fail;refine(qN _).mono ?_;rintro e w3⟨rfl,hb3⟩;go_wp2_with fail;refine(pq _ _ _ _).mono ?_;rintro e w4⟨rfl,hb4⟩;go_wp2_with fail;have hz2:=of_decide_eq_true hin
      exact⟨⟨k+1,ae,bu,(HB.out.trans (hb3.mono HB.out.size)).trans (hb4.mono (ZW HB.out.size hb3.size)),by rw[HK.out,HD.out]; simp[hz2]⟩,bD⟩
     have hin':inB 0 2147483647 z=false:=by simpa using hin
     clear hin;go_wp2_with fail;refine(qN _).mono ?_;rintro e w3⟨rfl,hb3⟩;go_wp2_with fail;refine(pq _ _ _ _).mono ?_;rintro e w4⟨rfl,hb4⟩;go_wp2_with fail;go_ret;have hz2:=of_decide_eq_false hin';refine⟨?_,(HB.out.trans (hb3.mono HB.out.size)).trans (hb4.mono (ZW HB.out.size hb3.size))⟩;rw[HV.out,if_neg (by rw[HK.out,HD.out]; exact fun h=>hz2 h.1)];rfl
    go_wp2_with fail;go_ret;refine⟨?_,HB.out⟩;rw[HV.out,if_pos GV];rfl
  have hC':inB (cLo t) (cHi t) l.length=false:=by simpa using hC
  have HV:=hid (Hw (a:=a) (l:=l) (g:=fA ps) hne (.inr hC'));rw[hlen]at hC';clear hC
  go_region_held3 (fun W=>W.cell? (ZA w.heap.size 0)=some (ZU c)/\W.cell? (ZA w.heap.size 1)=some (ZI a)/\W.cell? (ZA w.heap.size 2)=some (.slice la ln lc)/\W.cell? (ZA w1.heap.size 0)=some (ZU rc)/\W.cell? (ZA w1.heap.size 1)=some (.string wd)/\W.cell? (ZA w1.heap.size 2)=some (.int .i8 t)/\W.cell? (ZA w1.heap.size 3)=some (.string pp)/\W.cell? (ZA w1.heap.size 4)=some (.string ps)/\W.cell? (ZA w1.heap.size 5)=some (.bool pl)/\Zx w2 W)
   (first | assumption | (refine gD ?_ ?_ <;> assumption) | (exact⟨y0,y1,y2,y3,y4,y5,y6,y7,y8,(ZT _ _).drew⟩))
   (first
    | (go_at_call 314; refine(qP rc t wd pp ps pl _).mono ?_; rintro e w' ⟨rfl,qn⟩; have qt:=gD (X:=w.heap.size) (Y:=w1.heap.size) (w2:=w2) qn mF; clear qn)
    | (go_at_call 312; refine(pI rc t wd pp ps pl _).mono ?_; rintro e w' ⟨rfl,qn⟩; have qt:=gD (X:=w.heap.size) (Y:=w1.heap.size) (w2:=w2) qn mF; clear qn)
    | (go_at_call 315; refine(pq _ _ _ _).mono ?_; rintro e w' ⟨rfl,qn⟩; have qt:=gD (X:=w.heap.size) (Y:=w1.heap.size) (w2:=w2) qn mF; clear qn))
  have B3:=hid (B2.out.trans (qt.2.2.2.2.2.2.2.2.2.mono B2.out.size));exact II
 have hA':inB (lo t (fA ps)) (hi t (fA ps)) a=false:=by simpa using hA
 have HV:=hid (Hw (a:=a) (l:=l) hne (.inl hA'));clear hA
 first | (go_region_with (first
  | (go_at_call 314; refine(qP rc t wd pp ps pl _).mono ?_; rintro e w3⟨rfl,hb3⟩; have hS3:=gD (X:=w.heap.size) (Y:=w1.heap.size) (w2:=w2) hb3 ⟨y0,y1,y2,y3,y4,y5,y6,y7,y8,(ZT _ _).drew⟩; clear hb3)
  | (go_at_call 315; refine(pq _ _ _ _).mono ?_; rintro e w4⟨rfl,hb4⟩; have qt:=gD (X:=w.heap.size) (Y:=w1.heap.size) (w2:=w2) hb4 hS3; clear hb4))) | fail
 all_goals
  have B3:=hid (B2.out.trans (qt.2.2.2.2.2.2.2.2.2.mono B2.out.size));exact II
theorem Ez(w:World)(c:Int)(base:Nat)(hb:base<=w.heap.size):(w.alloc (eK c)).ownsRow base 5 1 (ZL w.heap.size 1 1) 1 ([c].map (ZU)):=by
 refine⟨rfl,.inr ⟨w.heap.size,1,#[ZU c],rfl,hb,(ZZ w _).1,Nat.le_refl _,au,rfl,rfl⟩⟩
theorem rC:∀(l m:LIz),eX (l++m)=eX l++eX m
 | [],m=>rfl
 | z::l,m=>by simp[eX,rC l m]
theorem vK(l:LIz)(k:Nat)(hk:k<l.length):eX (l.take (k+1))=eX (l.take k)++aw (l.getD k 0):=by
 rw[List.take_succ_eq_append_getElem hk,rC];simp[eX,hk]
theorem PE(v:Int)(w:World)(h0:0<=v)(h1:v<18446744073709551616) :
  Zw 325 #[.int .u64 v] w fun e w'=>∃B,e=.returned (ZL B (aw v).length (aw v).length)/\Seg w' (some (ZA B 0)) (aw v).length (aw v).length (aw v)/\Zx w w' :=
 (wE v w h0 h1).mono fun e w' ⟨he,hs,hb,_⟩=>⟨_,he,hs,hb⟩
theorem X4(v:Int)(w:World)(h0:-9223372036854775808<=v)(h1:v<9223372036854775808) :
  Zw 327 #[ZI v] w fun e w'=>∃B,e=.returned (ZL B (aw (fo v)).length (aw (fo v)).length)/\Seg w' (some (ZA B 0)) (aw (fo v)).length (aw (fo v)).length (aw (fo v))/\Zx w w' :=
 (NS v w h0 h1).mono fun e w' ⟨he,hs,hb,_⟩=>⟨_,he,hs,hb⟩
def lS(c a:Int)(l:LIz):List Int:=c::Bz (tkV c) a l
theorem OM{c:Int}(h:tkV c≠-1):(ofV c).2=true/\tkV c=(ofV c).1.2.2.1:=by
 unfold tkV at h ⊢
 cases hf:(ofV c).2
 ·rw[hf]at h; simp at h
 simp
theorem Ee(c a:Int)(la:OAz)(ln lc:Nat)(l:LIz)(w:World)(hk:aX w)(h0:0<=c)(h1:c<=255)(hl:gW w la ln lc l)(hx:chk (tkV c) (lgV c) a l≠0) :
  Zw 326 #[jW c a (.slice la ln lc)] w (ZC (.tuple #[ZN,ZI (chk (tkV c) (lgV c) a l)]) w):=by
 have hb0:Zx w (w.alloc (aH c a la ln lc)):=(ZT _ _).alloc lRn _;have HC:=hid (Ju c a la ln lc l _ (hk.later hb0 hk.pos) h0 h1 (hl.later hb0 lRn));clear hl hk;generalize chk (tkV c) (lgV c) a l=x at *;have hx':(x != 0)=true:=mB;unfold jW at *;go_enter func326,ntmps326
 go_wp2_with fail;refine HC.out.mono ?_;rintro e w1⟨rfl,hb1⟩;go_wp2_with fail;go_ret2;exact⟨rfl,hb0.trans (hb1.mono av)⟩
variable {w1:World}
theorem ct(h1:Zx w w1)(h2:Zx w1 w2):Zx w w2:=h1.trans (h2.mono h1.size)
theorem Su(c a:Int)(la:OAz)(ln lc:Nat)(l:LIz)(w:World)(hk:aX w)(h0:0<=c)(h1:c<=255)(hl:gW w la ln lc l)(hx:chk (tkV c) (lgV c) a l=0) :
  Zw 326 #[jW c a (.slice la ln lc)] w fun e w'=>∃v,e=.returned (.tuple #[v,ZI 0])/\w'.ownsRow w.heap.size 5 1 v (lS c a l).length ((lS c a l).map (ZU))/\Zx w w':=by
 have hb0:Zx w (w.alloc (aH c a la ln lc)):=(ZT _ _).alloc lRn _;have If:=Ju c a la ln lc l _ (hk.later hb0 hk.pos) h0 h1 (hl.later hb0 lRn);rw[hx]at If;have HC:=hid If;obtain⟨k1,k2,k3,k4,k5⟩:=qB hx;obtain⟨hf,ht⟩:=OM k1;have lr:=qg (tkV c) (lgV c);have hr:=p8 (tkV c) (lgV c);have HO:=hid (fun W hW=>of6 c W hW h0 h1)
 have qaf:tkV c=0\/tkV c=3->hi (tkV c) (lgV c)=0:=by intro h; unfold hi; rw[if_pos h]
 unfold lS Bz;rw[ht]at k1 k2 k3 k4 k5 lr hr qaf ⊢;generalize lgV c=g at *;generalize ofV c=V at *;obtain⟨⟨rc,wd,t,pp,ps,pl⟩,fnd⟩:=V;simp only[rv,dP]at HO hf k1 k2 k3 k4 k5 lr hr qaf ⊢;subst hf;clear hx ht If;have HL:=hid hl;have hln:=hl.2.2.1;have hlen:=hl.1;have HK:=hid hk;clear hl hk;unfold jW at *;obtain⟨E,hE⟩:∃E,c::(if t=0 then [] else if t=8 then aw (fo a) else if t=3 then aw l.length++eX l else aw a)=E:=⟨_,rfl⟩;rw[hE];have HE:=hid hE;clear hE;go_enter func326,ntmps326
 go_wp2_with fail;refine HC.out.mono ?_;rintro e w1⟨rfl,hb1⟩;have x0:w1.cell? (ZA w.heap.size 0)=some (ZU c):=aY;have x1:w1.cell? (ZA w.heap.size 1)=some (ZI a):=aY;have x2:w1.cell? (ZA w.heap.size 2)=some (.slice la ln lc):=aY;have hx:=ZQ x0;have B1:=hid (hb0.trans (hb1.mono av));have HO1:=hid (HO.out w1 (HK.out.later B1.out HK.out.pos));clear hb1 HC HO hb0;go_wp2_with fail;refine HO1.out.mono ?_;rintro e w2⟨rfl,hb2⟩
 have u0:w2.cell? (ZA w.heap.size 0)=some (ZU c):=(hb2.cell (by exact hx)).trans x0;have u1:w2.cell? (ZA w.heap.size 1)=some (ZI a):=(hb2.cell (by exact hx)).trans x1;have u2:w2.cell? (ZA w.heap.size 2)=some (.slice la ln lc):=(hb2.cell (by exact hx)).trans x2;have hx2:=ZQ u0;have B2:=hid (ct B1.out hb2);clear hb2 HO1 B1 x0 x1 x2 hx;obtain⟨w3,hw3⟩:∃w3,w2.alloc (bV rc wd t pp ps pl)=w3:=⟨_,rfl⟩;have z3:=hid (show w3.heap.size=w2.heap.size+1 by rw[<- hw3]; simp)
 have b3:Zx w2 w3:=by rw[<- hw3]; exact(ZT _ _).alloc lRn _
 have B3:=hid (ct B2.out b3);have O3:=hid (Ez w3 c w3.heap.size lRn);have b4:Zx w3 (w3.alloc (eK c)):=(ZT _ _).alloc lRn _;have HW:=hid hw3;clear hw3 b3
 by_cases t0:t=0
 ·subst t0;go_wp2_with fail;rw[HW.out];go_ret2;refine⟨_,rfl,?_,ct B3.out b4⟩;have h:=jO O3.out B3.out.size;rw[z3.out]at h
  have we:E=[c]:=by rw[<- HE.out]; simp
  rw[we];exact h
 have e0:(t==0)=false:=by simp[t0]
 by_cases t8:t=8
 ·subst t8
  have SV:=hid (fun W=>X4 a W ae ae);have i3:=ay (fo a);have HE2:=hid (show E=[c]++aw (fo a) by rw[<- HE.out]; simp);clear HE HL;generalize aw (fo a)=U at *;go_wp2_with fail;rw[HW.out];refine(SV.out _).mono ?_;rintro e w4⟨B,rfl,hs4,hb4⟩;have S4:=hid hs4;have B4:=hid (b4.trans (hb4.mono b4.size));have O4:=hid (bZ O3.out (fun B' hB=>hb4.block B' yH));clear hs4 hb4 SV;rw[<- z3.out]
  go_wp2_with (at_builtin; (refine kz _ rfl (.tmp 36) (.tmp 39) rfl w3.heap.size _ 1 [c] rfl O4.out _ _ _ U rfl S4.out (fun h=>bS) ae B4.out.size ?_; intro v5 w5 As AI; have O5:=hid As; have B5:=hid (B4.out.trans AI); clear As AI))
  exact GQ
 have e8:(t==8)=false:=by simp[t8]
 have hh:=hr.2.2 t8
 by_cases t3:t=3
 ·subst t3;obtain⟨q1,q2,q3⟩:=k4 rfl
  have UV:=hid (fun W=>PE (ln:Int) W ae ae);have i3:=ay (ln:Int);have HE2:=hid (show E=([c]++aw (ln:Int))++eX l by rw[<- HE.out]; simp[hlen]);have hw:=dJ (ln:Int) ae ae;clear HE;generalize aw (ln:Int)=U at *;go_wp2_with fail;rw[HW.out];refine(UV.out _).mono ?_;rintro e w4⟨B,rfl,hs4,hb4⟩;have S4:=hid hs4;have B4:=hid (b4.trans (hb4.mono b4.size));have O4:=hid (bZ O3.out (fun B' hB=>hb4.block B' yH));clear hs4 hb4 UV;rw[<- z3.out]
  go_wp2_with (at_builtin; (refine kz _ rfl (.tmp 43) (.tmp 48) rfl w3.heap.size _ 1 [c] rfl O4.out _ _ _ U rfl S4.out (fun h=>bS) ae B4.out.size ?_; intro v5 w5 As AI; have O5:=hid As; have B5:=hid (B4.out.trans AI); have f2:w5.cell? (ZA w.heap.size 2)=some (.slice la ln lc):=(B5.out.cell (by have:=z3.out; simp; omega)).trans ((by rw[<- HW.out,World.cell?_alloc_past _ _ _ hx2]; exact u2)); clear As AI))
  have BW:=hid (ct B3.out B5.out);have HQ:=hid q3
  have O5':=hid (show w5.ownsRow w3.heap.size 5 1 v5 (([c]++U)++eX (l.take 0)).length ((([c]++U)++eX (l.take 0)).map (ZU)) by
   have h:=O5.out;rw[show 1+U.length=(([c]++U)++eX (l.take 0)).length by simp[eX]; omega]at h
   simpa[eX] using h)
  have hU:([c]++U).length<=11:=aA;generalize [c]++U=C at *;clear O5 O4 S4 u0 u1 u2 f2
  go_loopw [7,53] (fun v i wr=>∃k:Nat,k<=ln/\i=ZI k/\wr.ownsRow w3.heap.size 5 1 v (C++eX (l.take k)).length ((C++eX (l.take k)).map (ZU))/\Zx w3 wr) (fun _ i _=>ln-(intOf i).toNat)
  case atStart=>exact⟨0,Z5 _,rfl,O5'.out,B5.out⟩
  case round =>
   obtain⟨k,hk,rfl,hown,hb⟩:=hrel;obtain⟨OW,BR⟩:=Zz hown hb;clear hown hb O5' B5
   by_cases hlt:k<ln
   ·have V':=(wX l).1 HQ.out
    rcases HL.out.2.2.2.2 with hz | ⟨b,off,rfl,hc⟩
    ·omega
    have hcell:wr.cell? (ZA b (off+k))=some (ZI (l.getD k 0)):=((ct B3.out BR.out).cell (p:=(ZA b (off+k))) (ZQ (hc k hlt))).trans (hc k hlt)
    have hz:0<=l.getD k 0/\l.getD k 0<=2147483647:=by
     exact FE
    have HT:=hid (vK l k ae);have hlab:=pQ (l.take k);have FG:(l.take k).length<=16:=aA;have hlen2:(C++eX (l.take k)).length<=171:=gw;generalize l.getD k 0=z at *;have UV:=hid (fun W=>PE z W ae ae);have hul2:=ay z;have hw2:=dJ z ae ae;clear hc V' hlab;generalize aw z=Z at *;go_wp2_with fail;refine(UV.out _).mono ?_;rintro e w6⟨B',rfl,vu,LE⟩;have S6:=hid vu;have B6:=Zy BR LE
    have O6:=hid (bZ OW.out (fun B'' hB=>LE.block B'' (by
     rcases OW.out.2 with ⟨rfl,_⟩ | ⟨g,cp,cur,rfl,hg,hh,_⟩
     ·simp[Value.ownBlock]at hB
     simp[Value.ownBlock]at hB; subst hB
     rcases Zae g wr.heap.size with h | h
     ·exact h
     rw[Zaf h]at hh; cases hh)))
    clear vu LE UV
    go_wp2_with (at_builtin; (refine kz _ rfl (.tmp 57) (.tmp 60) rfl w3.heap.size _ _ (C++eX (l.take k)) rfl O6.out _ _ _ Z rfl S6.out (fun h=>bS) ae B6.out.size ?_; intro v7 w7 vy MY; have O7:=hid vy; have B7:=hid (B6.out.trans MY); clear vy MY))
    refine⟨⟨k+1,ae,bu,?_,B7.out⟩,bD⟩;exact GN
   go_wp2_with fail;go_ret2;refine⟨_,rfl,?_,ct B3.out BR.out⟩;have h:=jO OW.out B3.out.size;rw[ZY ae]at h;rw[HE2.out];exact h
 have e3:(t==3)=false:=by simp[t3]
 have UV:=hid (fun W=>PE a W ae ae);have i3:=ay a;have HE2:=hid (show E=[c]++aw a by rw[<- HE.out,if_neg t0,if_neg t8,if_neg t3]; rfl);have ha0:0<=a:=ae;have ha1:a<=4294967295:=ae;clear HE HL;generalize aw a=U at *;go_wp2_with fail;rw[HW.out];refine(UV.out _).mono ?_;rintro e w4⟨B,rfl,hs4,hb4⟩;have S4:=hid hs4;have B4:=hid (b4.trans (hb4.mono b4.size));have O4:=hid (bZ O3.out (fun B' hB=>hb4.block B' yH));clear hs4 hb4 UV;rw[<- z3.out]
 go_wp2_with (at_builtin; (refine kz _ rfl (.tmp 26) (.tmp 30) rfl w3.heap.size _ 1 [c] rfl O4.out _ _ _ U rfl S4.out (fun h=>bS) ae B4.out.size ?_; intro v5 w5 As AI; have O5:=hid As; have B5:=hid (B4.out.trans AI); clear As AI))
 exact GQ
def oP(w:World)(c a:Int)(la:OAz)(ln lc:Nat):World:=(w.alloc (aH c a la ln lc)).alloc (aH 0 0 none 0 0)
theorem lO(w:World)(c a:Int)(la:OAz)(ln lc:Nat):Zx w (oP w c a la ln lc)/\(oP w c a la ln lc).heap.size=w.heap.size+1+1/\(oP w c a la ln lc).heap[w.heap.size]? =some (aH c a la ln lc)/\(oP w c a la ln lc).heap[w.heap.size+1]? =some (aH 0 0 none 0 0):=by
 unfold oP;refine⟨((ZT _ w).alloc lRn _).alloc av _,av,?_,?_⟩
 ·exact G8
 have:=(ZZ (w.alloc (aH c a la ln lc)) (aH 0 0 none 0 0)).1;exact cR
section
variable (R g cap:Nat) (bs:LIz) (c a:Int) (la:OAz) (ln lc:Nat) (l:LIz) (w:World)
theorem KU(h:Wr w R g cap bs)(hk:aX w)(h0:0<=c)(h1:c<=255)(hl:gW w la ln lc l)(hx:chk (tkV c) (lgV c) a l≠0) :
  Zw 318 #[ZP R 0,jW c a (.slice la ln lc)] w (aQ R g (chk (tkV c) (lgV c) a l) w):=by
 obtain⟨B0,z0,x0,x1⟩:=lO w c a la ln lc;have HW:(w.alloc (aH c a la ln lc)).alloc (aH 0 0 none 0 0)=oP w c a la ln lc:=rfl;generalize oP w c a la ln lc=W1 at *;have HE:=hid (Ee c a la ln lc l W1 (hk.later B0 hk.pos) h0 h1 (hl.later B0 lRn) hx);have OF:=h.lt;have H1:=hid (h.later B0);have BW:=hid B0;obtain⟨a0,a1,a2,_,_,_⟩:=aI x0;generalize chk (tkV c) (lgV c) a l=x at *;have hx':(x==0)=false:=mB;clear h hk hl B0;unfold jW at *;go_enter func318,ntmps318
 go_wp2_with fail;refine HE.out.mono ?_;rintro e w2⟨rfl,hb2⟩;have H2:=H1.out.later hb2;have c0:=H2.c0;have B2:=hid (jJ BW.out hb2);clear hb2 HE;go_wp2_with fail;refine(eF R _ _ _ _ c0).mono ?_;rintro e w3⟨rfl,rfl⟩;go_wp2_with fail
 refine(gi (by first | rfl | exact hx')).mono ?_
 rintro e w4⟨rfl,rfl⟩;exact⟨rfl,⟨_,rfl⟩,bC B2.out⟩
theorem C5(h:Wr w R g cap bs)(hb:bs.length+1000<=1099511627776)(hk:aX w)(h0:0<=c)(h1:c<=255)(hl:gW w la ln lc l)(hx:chk (tkV c) (lgV c) a l=0) :
  Zw 318 #[ZP R 0,jW c a (.slice la ln lc)] w (qX R g bs (lS c a l) (jW c a (.slice la ln lc)) w):=by
 obtain⟨B0,z0,x0,x1⟩:=lO w c a la ln lc;have HW:(w.alloc (aH c a la ln lc)).alloc (aH 0 0 none 0 0)=oP w c a la ln lc:=rfl;generalize oP w c a la ln lc=W1 at *;have HE:=hid (Su c a la ln lc l W1 (hk.later B0 hk.pos) h0 h1 (hl.later B0 lRn) hx)
 have hle:(lS c a l).length<=171:=by
  have:=qB hx
  have h16:l.length<=16:=by
   by_cases ht:tkV c=3
   ·exact(this.2.2.2.1 ht).2.1
   rw[this.2.2.2.2 ht]; simp
  have:=Ai (tkV c) a l h16;simp[lS]; omega
 have hpos:0<(lS c a l).length:=by simp[lS]
 have hmem:∀z∈lS c a l,0<=z/\z<=255:=by
  intro z hz;simp only[lS,List.mem_cons]at hz
  rcases hz with rfl | hz
  ·exact⟨h0,h1⟩
  exact Ll hx z hz
 have OF:=h.lt;have hgl:=h.g_lt;have H1:=hid (h.later B0);obtain⟨BW,HMEM⟩:=Zz B0 hmem;obtain⟨a0,a1,a2,_,_,_⟩:=aI x0;generalize lS c a l=E at *;clear h hk hl B0 hx hmem;unfold jW at *;go_enter func318,ntmps318
 go_wp2_with fail;refine HE.out.mono ?_;rintro e w2⟨v,rfl,ho,hb2⟩;obtain⟨va,vc,rfl,X1,_⟩:=lM ho ae HMEM.out;have H2:=H1.out.later hb2;have c0:=H2.c0;have B2:=hid (jJ BW.out hb2);obtain⟨SG,W2⟩:=Zz X1 H2;have y0:=(hb2.block w.heap.size ae).trans x0;have y1:=(hb2.block (w.heap.size+1) ae).trans x1;have z2:=hb2.size;clear hb2 HE ho X1 H2;go_wp2_with fail;refine(eF R _ _ _ _ c0).mono ?_;rintro e w3⟨rfl,rfl⟩;go_wp2_with fail;refine(dG rfl).mono ?_;rintro e w4⟨rfl,rfl⟩;clear c0;go_wp2_with fail;refine(zq R g cap bs va E.length vc E _ W2.out SG.out hpos ae).mono ?_;rintro e w5⟨rfl,g',cap',Lo,hs5⟩;have q0:=(hs5.block (b:=w.heap.size) ae ae ae).trans y0;have q1:=(hs5.block (b:=w.heap.size+1) ae ae ae).trans y1;have n1:w.heap.size+1≠g':=hs5.ne ae ae;obtain⟨b0,b1,b2,_,_,_⟩:=aI q0;obtain⟨k0,k1,k2,k3,k4,k5⟩:=aI q1;have hl0:=ZQ b0;have mm:=ZQ k0;have W5:=hid Lo;have S5:=hid ((Stp.of_below B2.out).trans hs5);clear Lo hs5 y0 y1 x0 x1 a0 a1 a2 q0 q1;exact O8
variable (A:Nat) (aa:OAz) (an ac:Nat)
theorem JA(h:Wr w R g cap bs)(hk:aX w)(h0:0<=c)(h1:c<=255)(hl:gW w la ln lc l)(hA:w.cell? (ZA A 0)=some (cW R))(hx:chk (tkV c) (lgV c) a l≠0) :
  Zw 195 #[jW c a (.slice la ln lc),.slice aa an ac,ZP A 0] w (aQ R g (chk (tkV c) (lgV c) a l) w):=by
 have hm:=lm;have hc:=BG;obtain⟨B0,z0,x0,x1⟩:=lO w c a la ln lc;have HW:(w.alloc (aH c a la ln lc)).alloc (aH 0 0 none 0 0)=oP w c a la ln lc:=rfl;have io:(oP w c a la ln lc).cell? (ZA A 0)=some (cW R):=(B0.cell jg).trans hA;have HE:=hid (KU R g cap bs c a la ln lc l _ (h.later B0) (hk.later B0 hk.pos) h0 h1 (hl.later B0 lRn) hx);generalize oP w c a la ln lc=W1 at *;have BW:=hid B0;obtain⟨a0,a1,a2,_,_,_⟩:=aI x0;generalize chk (tkV c) (lgV c) a l=x at *;clear h hk hl B0 hA;unfold jW at *;go_enter func195,ntmps195
 go_wp2_with fail;refine HE.out.mono ?_;rintro e w2⟨⟨q,rfl⟩,hk2⟩;exact⟨rfl,⟨q,rfl⟩,(bC BW.out).trans hk2⟩
theorem Cx(h:Wr w R g cap bs)(hb:bs.length+1000<=1099511627776)(hk:aX w)(h0:0<=c)(h1:c<=255)(hl:gW w la ln lc l)(hA:w.cell? (ZA A 0)=some (cW R))(hx:chk (tkV c) (lgV c) a l=0) :
  Zw 195 #[jW c a (.slice la ln lc),.slice aa an ac,ZP A 0] w (qX R g bs (lS c a l) (jW c a (.slice la ln lc)) w):=by
 have hm:=lm;have hc:=BG;obtain⟨B0,z0,x0,x1⟩:=lO w c a la ln lc;have HW:(w.alloc (aH c a la ln lc)).alloc (aH 0 0 none 0 0)=oP w c a la ln lc:=rfl;have io:(oP w c a la ln lc).cell? (ZA A 0)=some (cW R):=(B0.cell jg).trans hA;have HE:=hid (C5 R g cap bs c a la ln lc l _ (h.later B0) hb (hk.later B0 hk.pos) h0 h1 (hl.later B0 lRn) hx);have OF:=h.lt;have hgl:=h.g_lt;generalize oP w c a la ln lc=W1 at *;have BW:=hid B0;obtain⟨a0,a1,a2,_,_,_⟩:=aI x0;generalize lS c a l=E at *;clear h hk hl B0 hA hx;unfold jW at *;go_enter func195,ntmps195
 go_wp2_with fail;refine HE.out.mono ?_;rintro e w5⟨rfl,g',cap',Lo,hs5⟩;have q1:=(hs5.block (b:=w.heap.size+1) ae ae ae).trans x1;have n1:w.heap.size+1≠g':=hs5.ne ae ae;obtain⟨k0,k1,k2,k3,k4,k5⟩:=aI q1;have mm:=ZQ k0;have W5:=hid Lo;have S5:=hid ((Stp.of_below BW.out).trans hs5);clear Lo hs5 x0 x1 a0 a1 a2 q1 HE;exact O8
end
end
end Go.Proofs.YtheefojaplnnoaaGreatDoor

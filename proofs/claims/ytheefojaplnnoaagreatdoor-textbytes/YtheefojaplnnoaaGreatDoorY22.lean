/-
  Texts Pg Ph Pi.
-/
import Derived.Deep.AppendLies
import Derived.Deep.RegionHeld3
import Derived.Test.YtheefojaplnnoaaGreatDoorY00
import Derived.Test.YtheefojaplnnoaaGreatDoorY11
import Derived.Test.YtheefojaplnnoaaGreatDoorY21
set_option linter.unusedVariables false
set_option maxRecDepth 100000
set_option maxHeartbeats 16000000
namespace Go.Proofs.YtheefojaplnnoaaGreatDoor
open Go.RowKit
abbrev PIn:=Int×Int×List Int
abbrev PFn:=Int×ByteArray×List PIn
structure PM where
 types:List Sg
 hosts:List Int
 globals:List Gl
 fi:Int
 mo:Int
 fns:List PFn
 data:List (Int×List Int)
 exps:List Ex
def plI(y:InM):PIn:=(y.1,y.2.1,y.2.2.2)
def plF(x:FuM):PFn:=(x.1,x.2.1,x.2.2.2.map plI)
def plD(x:DaM):Int×List Int:=(x.1,x.2.2)
def pl(m:MM):PM:=⟨m.types,m.hosts,m.globals,m.fi,m.mo,m.fns.map plF,m.data.map plD,m.exps⟩
structure LnM(m:MM):Prop where
 t:m.tn=m.types.length
 h:m.hn=m.hosts.length
 g:m.gn=m.globals.length
 f:m.fn=m.fns.length
 d:m.dn=m.data.length
 e:m.en=m.exps.length
def dC(xs:List ByteArray):ByteArray:=⟨(Lib.join (xs.map (·.data.toList)) [32]).toArray⟩
def x7:ByteArray:=⟨#[118,97,114]⟩
def wP:ByteArray:=⟨#[99,111,110,115,116]⟩
def wdx(ws:List ByteArray)(i:Nat):ByteArray:=ws.getD i ⟨#[]⟩
def jB(p:Int)(M:PM)(ws:List ByteArray):Option (Int×PM):=if (0≤p∧p<1)∧ws.length=1 then some (1,M) else none
def gN(p:Int)(M:PM)(ws:List ByteArray):Option (Int×PM):=if (1≤p∧p≤2)∧rdE (dC ws.tail)=0 then some (2,{ M with types:=M.types++[(rdP (dC ws.tail),rdR (dC ws.tail))] }) else none
def gL(p:Int)(M:PM)(ws:List ByteArray):Option (Int×PM):=if (1≤p∧p≤3)∧ws.length=2 then (nmV (wdx ws 1)).map fun v=>(3,{ M with hosts:=M.hosts++[v] }) else none
def gvV(l:ByteArray)(v:Int):Option (Int×Int):=if l.toList=[119] then (if v=wrap32 v then some (119,v%4294967296) else none) else if l.toList=[108] then some (108,v%18446744073709551616) else none
def bR(p:Int)(M:PM)(ws:List ByteArray):Option (Int×PM):=if (1≤p∧p≤4)∧ws.length=4∧((wdx ws 2).toList=x7.toList∨(wdx ws 2).toList=wP.toList) then (nmV (wdx ws 3)).bind fun v=>(gvV (wdx ws 1) v).map fun x=>(4,{ M with globals:=M.globals++[(x.1,(wdx ws 2).toList==x7.toList,x.2)] }) else none
def js(p:Int)(M:PM)(ws:List ByteArray):Option (Int×PM):=if (1≤p∧p<5)∧ws.length=3 then (nmV (wdx ws 1)).bind fun a=>(nmV (wdx ws 2)).map fun b=>(5,{ M with fi:=a,mo:=b }) else none
def tJ(l:ByteArray):ByteArray:=if l.toList=[45] then ⟨#[]⟩ else l
def iZ(p:Int)(M:PM)(ws:List ByteArray):Option (Int×PM):=if (5≤p∧p≤6)∧ws.length=3 then (nmV (wdx ws 1)).map fun v=>(6,{ M with fns:=M.fns++[(v,tJ (wdx ws 2),[])] }) else none
def fA:List UInt8→Option (List Int)
 | []=>some []
 | [_]=>none
 | a::b::r=>if 0≤fJ a.toNat∧0≤fJ b.toNat then (fA r).map (fun t=>(fJ a.toNat*16+fJ b.toNat)::t) else none
def nQ(s:ByteArray):Option (List Int):=fA s.data.toList
def jt(p:Int)(M:PM)(ws:List ByteArray):Option (Int×PM):=if (5≤p∧p≤7)∧ws.length=3 then (nmV (wdx ws 1)).bind fun v=>(nQ (wdx ws 2)).map fun b=>(7,{ M with data:=M.data++[(v,b)] }) else none
def kN(p:Int)(M:PM)(ws:List ByteArray):Option (Int×PM):=if (5≤p∧p≤8)∧ws.length=3 then (nmV (wdx ws 2)).map fun v=>(8,{ M with exps:=M.exps++[(wdx ws 1,v)] }) else none
def dm:List ByteArray→Option (List Int)
 | []=>some []
 | x::r=>(nmV x).bind fun v=>(dm r).map fun t=>v::t
def su(fs:List PFn)(y:PIn):List PFn:=match fs.getLast? with
 | none=>fs
 | some f=>fs.dropLast++[(f.1,f.2.1,f.2.2++[y])]
def jP(op:Int)(ws:List ByteArray):Option PIn :=
 if (ofV op).1.2.2.1=0 then (if ws.length=1 then some (op,0,[]) else none) else if (ofV op).1.2.2.1=3 then (dm ws.tail).map (fun l=>(op,0,l)) else if ws.length=2 then (nmV (wdx ws 1)).map (fun a=>(op,a,[])) else none
def cO(p:Int)(M:PM)(ws:List ByteArray):Option (Int×PM):=if (6≤p∧p≤6)∧(bC (wdx ws 0)).2=true then (jP (bC (wdx ws 0)).1 ws).map fun y=>(6,{ M with fns:=su M.fns y }) else none
section
variable {base R:Nat} {mp:Value} {m:MM} {ln pt:Int} {w:World}
theorem bL(h:RQ base R mp m ln pt w)(f q:Int)(h1:f≤pt)(h2:pt≤q) :
  Calls Tryz.prog 168 #[.pointer (some ⟨R,0,none⟩),.int .i64 f,.int .i64 q] w fun e w'=>e=.returned (.tuple #[])∧w'=w.setCell ⟨R,10,none⟩ (.int .i64 q):=xB R f pt q w (h.cells 10) (h.free 10) h1 h2
theorem na(h:RQ base R mp m ln pt w)(f q:Int)(hn:¬(f≤pt∧pt≤q)) :
  Calls Tryz.prog 168 #[.pointer (some ⟨R,0,none⟩),.int .i64 f,.int .i64 q] w fun e w'=>e=thL ln∧w'=w:=BO R f pt q ln w (h.cells 9) (h.cells 10) hn
theorem sO(h:RQ base R mp m ln pt w)(f q:Int)(h1:f≤pt)(h2:pt<q) :
  Calls Tryz.prog 167 #[.pointer (some ⟨R,0,none⟩),.int .i64 f,.int .i64 q] w fun e w'=>e=.returned (.tuple #[])∧w'=w.setCell ⟨R,10,none⟩ (.int .i64 q):=Jc R f pt q w (h.cells 10) (h.free 10) h1 h2
theorem Kg(h:RQ base R mp m ln pt w)(f q:Int)(hn:¬(f≤pt∧pt<q)) :
  Calls Tryz.prog 167 #[.pointer (some ⟨R,0,none⟩),.int .i64 f,.int .i64 q] w fun e w'=>e=thL ln∧w'=w:=MG R f pt q ln w (h.cells 9) (h.cells 10) hn
theorem gu(h:RQ base R mp m ln pt w):Calls Tryz.prog 120 #[.pointer (some ⟨R,0,none⟩),.bool false] w fun e w'=>e=thL ln∧w'=w:=lY R ln w (h.cells 9)
end
theorem Wds.setR{w:World}{A n c R o base:Nat}{u:Value}{ws:List ByteArray}(h:Wds w A n c ws)(hA:base≤A)(hR:R<base):Wds (w.setCell ⟨R,o,none⟩ u) A n c ws :=
 ⟨h.len,by have:=h.lt; simpa[World.setCell] using this,h.cap,fun j x hj=>((aw w R o u).cell (S:=fun k=>k=R) (h.at_ j x hj) (by show ¬A=R; omega)),h.sz,h.few⟩
def LnP(base R:Nat)(mp:Value)(ln:Int)(w:World)(res:Option (Int×PM))(e:Ending)(w':World):Prop :=
 KR base R w w'∧match res with
 | some (p,M)=>e=.returned (.tuple #[])∧∃m',RQ base R mp m' ln p w'∧pl m'=M
 | none=>e=thL ln
theorem Mn{base R A n c:Nat}{mp:Value}{m:MM}{ln pt:Int}{w:World}{ws:List ByteArray}(h:RQ base R mp m ln pt w)(hw:Wds w A n c ws) :
  Calls Tryz.prog 108 #[.pointer (some ⟨R,0,none⟩),.slice (some ⟨A,0,none⟩) n c] w (LnP base R mp ln w (jB pt (pl m) ws)):=by
 have hl:=hw.len
 by_cases h1:0≤pt∧pt<1
 ·have HO:=hid (sO h 0 1 h1.1 h1.2);have HR:=hid (h.part 1 ae)
  by_cases h2:n=1
  ·have e:jB pt (pl m) ws=some (1,pl m):=by unfold jB; rw[if_pos ⟨h1,ae⟩]
   rw[e];subst h2;clear hw hl h
   go_enter Tryz.func108,Tryz.ntmps108
   go_wp2_with fail;refine HO.out.mono ?_;rintro e w1⟨rfl,hw1⟩;have hw2:=hw1.symm;subst hw2;go_wp2_with fail;refine(aH R _).mono ?_;rintro e w2⟨rfl,hw1⟩;have hw2:=hw1.symm;subst hw2;go_wp2_with fail;go_end0;exact⟨KR.set base R 10 w _,rfl,m,HR.out,rfl⟩
  ·have e:jB pt (pl m) ws=none:=by unfold jB; rw[if_neg (fun x=>h2 ae)]
   rw[e];have hne:((n:Int)==1)=false:=aI;have HM:=hid (gu HR.out);clear hw hl h
   go_enter Tryz.func108,Tryz.ntmps108
   exact nA
 ·have e:jB pt (pl m) ws=none:=by unfold jB; rw[if_neg (fun x=>h1 x.1)]
  rw[e];have HO:=hid (Kg h 0 1 h1);clear hw hl h
  go_enter Tryz.func108,Tryz.ntmps108
  exact iD
theorem tkQ{P:Program}{ops:Array Oper}{Q:Exit→Act→World→Prop}{md:Region.Mode}{S:World→Prop}{i:Nat}{oi:Oper}{v:Value}{fuel:Nat}{listed:Array Bool}{a:Act}{w:World}(hi:ops[i]? =some oi)(h:wpAnyH P md ops Q S fuel (listed.setIfInBounds i true) (a.put oi.dst v) w)(hv:∀w,S w→(execOp a.eval oi).run P w=.ok (.value v) w:=by (intro w h; (try dsimp only at h); go_simp; try with_reducible rfl))
  (hc:(Region.noSelect ops&&Region.free md ops listed i&&(Region.ready md ops listed).contains i)=true:=by kernel_rfl) (hw:Region.wanted oi (yielded ops a.tmps)=true:=by rfl) (hQ:∀c a w,Q (.panic c) (a.put oi.dst v) w→Q (.panic c) a w:=by exact fun _ _ _ h=>h) (hS:S w:=by assumption):wpAnyH P md ops Q S (fuel+1) listed a w:=by
 simp only[Bool.and_eq_true]at hc
 exact ww
theorem rcQ{P:Program}{ops:Array Oper}{Q:Exit→Act→World→Prop}{md:Region.Mode}{S:World→Prop}{i:Nat}{o:Oper}{fuel:Nat}{listed:Array Bool}{a:Act}{w:World}{rs:List Nat}(ho:ops[i]? =some o)(h:∀K:Act→World→Prop,Shut (∀a w,S w→(S w→wpAnyH P md ops Q S fuel (listed.setIfInBounds i true) a w)→K a w)→Oper.wp P o a w K Q)(hs:AllReadyH P md ops Q S fuel listed a w rs)(hw:Region.wanted o (yielded ops a.tmps)=true:=by rfl):AllReadyH P md ops Q S fuel listed a w (i::rs):=AllReadyH.cons ho (fun K hK=>by rw[if_pos hw]; exact h K hK) hs
theorem ryQ{P:Program}{ops:Array Oper}{Q:Exit→Act→World→Prop}{md:Region.Mode}{S:World→Prop}{rs:List Nat}{fuel:Nat}{listed:Array Bool}{a:Act}{w:World}(h:AllReadyH P md ops Q S fuel listed a w rs)(hr:Region.ready md ops listed=rs:=by kernel_rfl)(hne:rs≠[]:=by simp):wpAnyH P md ops Q S (fuel+1) listed a w:=wpAnyH_ready hr hne h
def psz(M:PM):Nat:=M.types.length+M.hosts.length+M.globals.length+M.fns.length+(M.fns.map fun f=>f.2.2.length).sum+M.data.length+M.exps.length
theorem ei{w:World}{base e k n:Nat}{v:Value}{α:Type}{g:α→List Value}{l:List α}(hk:∀x,(g x).length=k)(hp:0<k)(h:w.ownsRow base e k v n (l.flatMap g)):l.length=n:=by
 have:=h.1
 rw[nE g k hk]at this;exact Nat.eq_of_mul_eq_mul_right hp this
theorem JM:(Tryz.prog.info? 3).map (fun i=>(i.zero,i.size,i.bytes))=some (some (.int .i64 0),1,8):=ai
theorem FY{B base R A n c:Nat}{mp:Value}{m:MM}{ln pt:Int}{w:World}{ws:List ByteArray}(h:RQ base R mp m ln pt w)(hw:Wds w A n c ws)(hA:base≤A)(hE:cw B w)(hBR:B≤R)(hps:psz (pl m)≤2097152)(h1:1≤pt∧pt≤3)(h2:n=2){v:Int}(h3:nmV (wdx ws 1)=some v) :
  Calls Tryz.prog 110 #[.pointer (some ⟨R,0,none⟩),.slice (some ⟨A,0,none⟩) n c] w (LnP base R mp ln w (gL pt (pl m) ws)):=by
 obtain⟨i0,hi,hz0,hz1,hz2⟩:=info_parts JM;obtain⟨x,hx⟩:∃x,ws[1]? =some x:=⟨_,aO aY⟩;have ex:wdx ws 1=x:=bZ
 have e:gL pt (pl m) ws=some (3,{ pl m with hosts:=(pl m).hosts++[v] }):=Dn
 rw[e];rw[ex]at h3;subst h2
 have hn:m.hn≤2097152:=by
  exact DF
 have HO:=hid (bL h 1 3 h1.1 h1.2);have q1:=h.part 3 h1.2;have d1:=hw.setR (o:=10) (u:=.int .i64 3) hA h.low;have k1:=KR.set base R 10 w (.int .i64 3);have e1:=hE.later (k1.below hBR bM hE.bw);have HM:=hid (aH R (w.setCell ⟨R,10,none⟩ (.int .i64 3)));generalize w.setCell ⟨R,10,none⟩ (.int .i64 3)=w1 at *;have Q1:=hid q1;have D1:=hid d1;have HX:=hid hx;have HK1:=hid k1;have hxs:=hw.sz x (List.mem_of_getElem? hx)
 have HI:=hid (fun(W:World) (hW:Below w1.heap.size w1 W)=>gV B R x v W (e1.tens.later (hW.mono e1.bw)) (Nat.le_trans e1.bw hW.size) ae h3)
 have B1:=hid ((Below.refl w1.heap.size w1).drew);clear h hw hE hps h1 h3 q1 d1 k1 e1 e ex hx
 go_enter Tryz.func110,Tryz.ntmps110
 go_wp2_with fail;refine HO.out.mono ?_;rintro e w1' ⟨rfl,hw1⟩;have hw2:=hw1.symm;subst hw2;go_wp2_with fail;refine HM.out.mono ?_;rintro e w1'' ⟨rfl,hw1⟩;have hw2:=hw1.symm;subst hw2;go_wp2_with fail
 refine wp_region_held_drew (S:=fun _=>True) ai trivial (fun _=>?_)
 refine tkQ (i:=0) rfl ?_;(try simp only[Act.put,sIB]);refine tkQ (i:=1) rfl ?_;(try simp only[Act.put]);refine tkQ (i:=6) rfl ?_;(try simp only[Act.put]);refine tkQ (i:=7) rfl ?_;(try simp only[Act.put]);refine tkQ (i:=2) rfl ?_;(try simp only[Act.put]);refine tkQ (i:=8) rfl ?_;(try simp only[Act.put]);refine tkQ (i:=3) rfl ?_;(try simp only[Act.put]);refine tkQ (i:=4) rfl ?_;(try simp only[Act.put]);refine ryQ (rs:=[5,9]) ?_
 refine rcQ (i:=5) rfl (fun K hK=>?_) (rcQ (i:=9) rfl (fun K hK=>?_) rN)
 ·have c5:w1.drew.cell? ⟨R,2,none⟩=some (.slice m.ha m.hn m.hc):=(Q1.out.later B1.out).cells 2;go_simp
  refine hK.out _ _ trivial (fun _=>?_)
  clear hK K;refine ryQ (rs:=[9]) ?_
  refine rcQ (i:=9) rfl (fun K hK=>?_) rN
  have c9:w1.drew.cell? ⟨A,1,none⟩=some (.string x):=vX;exact GC
 ·have c9:w1.drew.cell? ⟨A,1,none⟩=some (.string x):=vX;go_simp
  refine hK.out _ _ trivial (fun _=>?_)
  clear hK K;refine ryQ (rs:=[5,10]) ?_
  refine rcQ (i:=5) rfl (fun K hK=>?_) (rcQ (i:=10) rfl (fun K hK=>?_) rN)
  ·have c5:w1.drew.cell? ⟨R,2,none⟩=some (.slice m.ha m.hn m.hc):=(Q1.out.later B1.out).cells 2;exact GC
  ·go_simp;refine(HI.out _ B1.out).mono ?_;rintro e w5⟨rfl,hb5⟩;have B5:=hid (B1.out.trans (hb5.mono B1.out.size));clear hb5
   refine hK.out _ _ trivial (fun _=>?_)
   clear hK K;refine ryQ (rs:=[5,11]) ?_
   refine rcQ (i:=5) rfl (fun K hK=>?_) (rcQ (i:=11) rfl (fun K hK=>?_) rN)
   ·have c5:w5.cell? ⟨R,2,none⟩=some (.slice m.ha m.hn m.hc):=(Q1.out.later B5.out).cells 2;go_simp
    refine hK.out _ _ trivial (fun _=>?_)
    clear hK K;refine ryQ (rs:=[11]) ?_
    refine rcQ (i:=11) rfl (fun K hK=>?_) rN
    go_simp;have BN:=hid (B5.out.trans ((ag w5 (bq v)).mono B5.out.size));exact J6
   ·go_simp;have BN:=hid (B5.out.trans ((ag w5 (bq v)).mono B5.out.size))
    refine hK.out _ _ trivial (fun _=>?_)
    clear hK K;refine ryQ (rs:=[5]) ?_
    refine rcQ (i:=5) rfl (fun K hK=>?_) rN
    have c5:(w5.alloc (bq v)).cell? ⟨R,2,none⟩=some (.slice m.ha m.hn m.hc):=(Q1.out.later BN.out).cells 2;go_simp;exact J6
theorem Lq{B base R A n c:Nat}{mp:Value}{m:MM}{ln pt:Int}{w:World}{ws:List ByteArray}(h:RQ base R mp m ln pt w)(hw:Wds w A n c ws)(hA:base≤A)(hE:cw B w)(hBR:B≤R)(hps:psz (pl m)≤2097152)(h1:1≤pt∧pt≤3)(h2:n=2)(h3:nmV (wdx ws 1)=none) :
  Calls Tryz.prog 110 #[.pointer (some ⟨R,0,none⟩),.slice (some ⟨A,0,none⟩) n c] w (LnP base R mp ln w (gL pt (pl m) ws)):=by
 obtain⟨i0,hi,hz0,hz1,hz2⟩:=info_parts JM;obtain⟨x,hx⟩:∃x,ws[1]? =some x:=⟨_,aO aY⟩;have ex:wdx ws 1=x:=bZ;have e:gL pt (pl m) ws=none:=Dn;rw[e];rw[ex]at h3;subst h2
 have hn:m.hn≤2097152:=by
  exact DF
 have HO:=hid (bL h 1 3 h1.1 h1.2);have q1:=h.part 3 h1.2;have d1:=hw.setR (o:=10) (u:=.int .i64 3) hA h.low;have k1:=KR.set base R 10 w (.int .i64 3);have e1:=hE.later (k1.below hBR bM hE.bw);have HM:=hid (aH R (w.setCell ⟨R,10,none⟩ (.int .i64 3)));generalize w.setCell ⟨R,10,none⟩ (.int .i64 3)=w1 at *;have Q1:=hid q1;have D1:=hid d1;have HX:=hid hx;have HK1:=hid k1;have hxs:=hw.sz x (List.mem_of_getElem? hx)
 have HI:=hid (fun(W:World) (hW:Below w1.heap.size w1 W)=>mU B R x ln W (e1.tens.later (hW.mono e1.bw)) (e1.errs.later (hW.mono e1.bw)) (Nat.le_trans e1.bw hW.size) ae ((q1.later hW).cells 9) h3)
 have B1:=hid ((Below.refl w1.heap.size w1).drew);clear h hw hE hps h1 h3 q1 d1 k1 e1 e ex hx
 go_enter Tryz.func110,Tryz.ntmps110
 go_wp2_with fail;refine HO.out.mono ?_;rintro e w1' ⟨rfl,hw1⟩;have hw2:=hw1.symm;subst hw2;go_wp2_with fail;refine HM.out.mono ?_;rintro e w1'' ⟨rfl,hw1⟩;have hw2:=hw1.symm;subst hw2;go_wp2_with fail
 refine wp_region_held_drew (S:=fun _=>True) ai trivial (fun _=>?_)
 refine tkQ (i:=0) rfl ?_;(try simp only[Act.put,sIB]);refine tkQ (i:=1) rfl ?_;(try simp only[Act.put]);refine tkQ (i:=6) rfl ?_;(try simp only[Act.put]);refine tkQ (i:=7) rfl ?_;(try simp only[Act.put]);refine tkQ (i:=2) rfl ?_;(try simp only[Act.put]);refine tkQ (i:=8) rfl ?_;(try simp only[Act.put]);refine tkQ (i:=3) rfl ?_;(try simp only[Act.put]);refine tkQ (i:=4) rfl ?_;(try simp only[Act.put]);refine ryQ (rs:=[5,9]) ?_
 refine rcQ (i:=5) rfl (fun K hK=>?_) (rcQ (i:=9) rfl (fun K hK=>?_) rN)
 ·have c5:w1.drew.cell? ⟨R,2,none⟩=some (.slice m.ha m.hn m.hc):=(Q1.out.later B1.out).cells 2;go_simp
  refine hK.out _ _ trivial (fun _=>?_)
  clear hK K;refine ryQ (rs:=[9]) ?_
  refine rcQ (i:=9) rfl (fun K hK=>?_) rN
  have c9:w1.drew.cell? ⟨A,1,none⟩=some (.string x):=vX;exact H8
 ·have c9:w1.drew.cell? ⟨A,1,none⟩=some (.string x):=vX;go_simp
  refine hK.out _ _ trivial (fun _=>?_)
  clear hK K;refine ryQ (rs:=[5,10]) ?_
  refine rcQ (i:=5) rfl (fun K hK=>?_) (rcQ (i:=10) rfl (fun K hK=>?_) rN)
  ·have c5:w1.drew.cell? ⟨R,2,none⟩=some (.slice m.ha m.hn m.hc):=(Q1.out.later B1.out).cells 2;exact H8
  ·go_simp;refine(HI.out _ B1.out).mono ?_;rintro e w5⟨rfl,hb5⟩;exact⟨rfl,HK1.out.trans (KR.later (B1.out.trans (hb5.mono B1.out.size))),rfl⟩
theorem M4{base R A n c:Nat}{mp:Value}{m:MM}{ln pt:Int}{w:World}{ws:List ByteArray}(h:RQ base R mp m ln pt w)(h1:¬(1≤pt∧pt≤2)) :
  Calls Tryz.prog 109 #[.pointer (some ⟨R,0,none⟩),.slice (some ⟨A,0,none⟩) n c] w (LnP base R mp ln w (gN pt (pl m) ws)):=by
 have e:gN pt (pl m) ws=none:=by unfold gN; rw[if_neg (fun x=>h1 x.1)]
 rw[e];have HO:=hid (na h 1 2 h1);clear h
 go_enter Tryz.func109,Tryz.ntmps109
 exact iD
theorem Lm{base R A n c:Nat}{mp:Value}{m:MM}{ln pt:Int}{w:World}{ws:List ByteArray}(h:RQ base R mp m ln pt w)(h1:¬(1≤pt∧pt≤3)) :
  Calls Tryz.prog 110 #[.pointer (some ⟨R,0,none⟩),.slice (some ⟨A,0,none⟩) n c] w (LnP base R mp ln w (gL pt (pl m) ws)):=by
 have e:gL pt (pl m) ws=none:=by unfold gL; rw[if_neg (fun x=>h1 x.1)]
 rw[e];have HO:=hid (na h 1 3 h1);clear h
 go_enter Tryz.func110,Tryz.ntmps110
 exact iD
theorem Lf{base R A n c:Nat}{mp:Value}{m:MM}{ln pt:Int}{w:World}{ws:List ByteArray}(h:RQ base R mp m ln pt w)(hw:Wds w A n c ws)(h1:1≤pt∧pt≤3)(h2:n≠2) :
  Calls Tryz.prog 110 #[.pointer (some ⟨R,0,none⟩),.slice (some ⟨A,0,none⟩) n c] w (LnP base R mp ln w (gL pt (pl m) ws)):=by
 have e:gL pt (pl m) ws=none:=by unfold gL; rw[if_neg (fun x=>h2 sB)]
 rw[e];have HO:=hid (bL h 1 3 h1.1 h1.2);have HR:=hid (h.part 3 ae);have HM:=hid (gu HR.out);have hne:((n:Int)==2)=false:=aI;clear h hw
 go_enter Tryz.func110,Tryz.ntmps110
 exact nA
theorem Mp{base R A n c:Nat}{mp:Value}{m:MM}{ln pt:Int}{w:World}{ws:List ByteArray}(h:RQ base R mp m ln pt w)(h1:¬(1≤pt∧pt≤4)) :
  Calls Tryz.prog 111 #[.pointer (some ⟨R,0,none⟩),.slice (some ⟨A,0,none⟩) n c] w (LnP base R mp ln w (bR pt (pl m) ws)):=by
 have e:bR pt (pl m) ws=none:=by unfold bR; rw[if_neg (fun x=>h1 x.1)]
 rw[e];have HO:=hid (na h 1 4 h1);clear h
 go_enter Tryz.func111,Tryz.ntmps111
 exact iD
theorem Lz{base R A n c:Nat}{mp:Value}{m:MM}{ln pt:Int}{w:World}{ws:List ByteArray}(h:RQ base R mp m ln pt w)(hw:Wds w A n c ws)(h1:1≤pt∧pt≤4)(h2:n≠4) :
  Calls Tryz.prog 111 #[.pointer (some ⟨R,0,none⟩),.slice (some ⟨A,0,none⟩) n c] w (LnP base R mp ln w (bR pt (pl m) ws)):=by
 have e:bR pt (pl m) ws=none:=by unfold bR; rw[if_neg (fun x=>h2 (by rw[← hw.len]; exact x.2.1))]
 rw[e];have HO:=hid (bL h 1 4 h1.1 h1.2);have HR:=hid (h.part 4 ae);have HM:=hid (gu HR.out);have hne:((n:Int)==4)=false:=aI;clear h hw
 go_enter Tryz.func111,Tryz.ntmps111
 exact nA
theorem LK{base R A n c:Nat}{mp:Value}{m:MM}{ln pt:Int}{w:World}{ws:List ByteArray}(h:RQ base R mp m ln pt w)(h1:¬(1≤pt∧pt<5)) :
  Calls Tryz.prog 112 #[.pointer (some ⟨R,0,none⟩),.slice (some ⟨A,0,none⟩) n c] w (LnP base R mp ln w (js pt (pl m) ws)):=by
 have e:js pt (pl m) ws=none:=by unfold js; rw[if_neg (fun x=>h1 x.1)]
 rw[e];have HO:=hid (Kg h 1 5 h1);clear h
 go_enter Tryz.func112,Tryz.ntmps112
 exact iD
theorem NF{base R A n c:Nat}{mp:Value}{m:MM}{ln pt:Int}{w:World}{ws:List ByteArray}(h:RQ base R mp m ln pt w)(hw:Wds w A n c ws)(h1:1≤pt∧pt<5)(h2:n≠3) :
  Calls Tryz.prog 112 #[.pointer (some ⟨R,0,none⟩),.slice (some ⟨A,0,none⟩) n c] w (LnP base R mp ln w (js pt (pl m) ws)):=by
 have e:js pt (pl m) ws=none:=by unfold js; rw[if_neg (fun x=>h2 sB)]
 rw[e];have HO:=hid (sO h 1 5 h1.1 h1.2);have HR:=hid (h.part 5 ae);have HM:=hid (gu HR.out);have hne:((n:Int)==3)=false:=aI;clear h hw
 go_enter Tryz.func112,Tryz.ntmps112
 exact nA
theorem Nq{base R A n c:Nat}{mp:Value}{m:MM}{ln pt:Int}{w:World}{ws:List ByteArray}(h:RQ base R mp m ln pt w)(h1:¬(5≤pt∧pt≤6)) :
  Calls Tryz.prog 113 #[.pointer (some ⟨R,0,none⟩),.slice (some ⟨A,0,none⟩) n c] w (LnP base R mp ln w (iZ pt (pl m) ws)):=by
 have e:iZ pt (pl m) ws=none:=by unfold iZ; rw[if_neg (fun x=>h1 x.1)]
 rw[e];have HO:=hid (na h 5 6 h1);clear h
 go_enter Tryz.func113,Tryz.ntmps113
 exact iD
theorem MH{base R A n c:Nat}{mp:Value}{m:MM}{ln pt:Int}{w:World}{ws:List ByteArray}(h:RQ base R mp m ln pt w)(hw:Wds w A n c ws)(h1:5≤pt∧pt≤6)(h2:n≠3) :
  Calls Tryz.prog 113 #[.pointer (some ⟨R,0,none⟩),.slice (some ⟨A,0,none⟩) n c] w (LnP base R mp ln w (iZ pt (pl m) ws)):=by
 have e:iZ pt (pl m) ws=none:=by unfold iZ; rw[if_neg (fun x=>h2 sB)]
 rw[e];have HO:=hid (bL h 5 6 h1.1 h1.2);have HR:=hid (h.part 6 ae);have HM:=hid (gu HR.out);have hne:((n:Int)==3)=false:=aI;clear h hw
 go_enter Tryz.func113,Tryz.ntmps113
 exact nA
theorem MC{base R A n c:Nat}{mp:Value}{m:MM}{ln pt:Int}{w:World}{ws:List ByteArray}(h:RQ base R mp m ln pt w)(h1:¬(5≤pt∧pt≤7)) :
  Calls Tryz.prog 114 #[.pointer (some ⟨R,0,none⟩),.slice (some ⟨A,0,none⟩) n c] w (LnP base R mp ln w (jt pt (pl m) ws)):=by
 have e:jt pt (pl m) ws=none:=by unfold jt; rw[if_neg (fun x=>h1 x.1)]
 rw[e];have HO:=hid (na h 5 7 h1);clear h
 go_enter Tryz.func114,Tryz.ntmps114
 exact iD
theorem NJ{base R A n c:Nat}{mp:Value}{m:MM}{ln pt:Int}{w:World}{ws:List ByteArray}(h:RQ base R mp m ln pt w)(hw:Wds w A n c ws)(h1:5≤pt∧pt≤7)(h2:n≠3) :
  Calls Tryz.prog 114 #[.pointer (some ⟨R,0,none⟩),.slice (some ⟨A,0,none⟩) n c] w (LnP base R mp ln w (jt pt (pl m) ws)):=by
 have e:jt pt (pl m) ws=none:=by unfold jt; rw[if_neg (fun x=>h2 sB)]
 rw[e];have HO:=hid (bL h 5 7 h1.1 h1.2);have HR:=hid (h.part 7 ae);have HM:=hid (gu HR.out);have hne:((n:Int)==3)=false:=aI;clear h hw
 go_enter Tryz.func114,Tryz.ntmps114
 exact nA
theorem Mv{base R A n c:Nat}{mp:Value}{m:MM}{ln pt:Int}{w:World}{ws:List ByteArray}(h:RQ base R mp m ln pt w)(h1:¬(5≤pt∧pt≤8)) :
  Calls Tryz.prog 115 #[.pointer (some ⟨R,0,none⟩),.slice (some ⟨A,0,none⟩) n c] w (LnP base R mp ln w (kN pt (pl m) ws)):=by
 have e:kN pt (pl m) ws=none:=by unfold kN; rw[if_neg (fun x=>h1 x.1)]
 rw[e];have HO:=hid (na h 5 8 h1);clear h
 go_enter Tryz.func115,Tryz.ntmps115
 exact iD
theorem Mt{base R A n c:Nat}{mp:Value}{m:MM}{ln pt:Int}{w:World}{ws:List ByteArray}(h:RQ base R mp m ln pt w)(hw:Wds w A n c ws)(h1:5≤pt∧pt≤8)(h2:n≠3) :
  Calls Tryz.prog 115 #[.pointer (some ⟨R,0,none⟩),.slice (some ⟨A,0,none⟩) n c] w (LnP base R mp ln w (kN pt (pl m) ws)):=by
 have e:kN pt (pl m) ws=none:=by unfold kN; rw[if_neg (fun x=>h2 sB)]
 rw[e];have HO:=hid (bL h 5 8 h1.1 h1.2);have HR:=hid (h.part 8 ae);have HM:=hid (gu HR.out);have hne:((n:Int)==3)=false:=aI;clear h hw
 go_enter Tryz.func115,Tryz.ntmps115
 exact nA
theorem NY{base R A n c:Nat}{mp:Value}{m:MM}{ln pt:Int}{w:World}{ws:List ByteArray}(h:RQ base R mp m ln pt w)(h1:¬(6≤pt∧pt≤6)) :
  Calls Tryz.prog 119 #[.pointer (some ⟨R,0,none⟩),.slice (some ⟨A,0,none⟩) n c] w (LnP base R mp ln w (cO pt (pl m) ws)):=by
 have e:cO pt (pl m) ws=none:=by unfold cO; rw[if_neg (fun x=>h1 x.1)]
 rw[e];have HO:=hid (na h 6 6 h1);clear h
 go_enter Tryz.func119,Tryz.ntmps119
 exact iD
theorem LD{B base R A n c:Nat}{mp:Value}{m:MM}{ln pt:Int}{w:World}{ws:List ByteArray}(h:RQ base R mp m ln pt w)(hw:Wds w A n c ws)(hA:base≤A)(hE:cw B w)(hBR:B≤R)(hps:psz (pl m)≤2097152) :
  Calls Tryz.prog 110 #[.pointer (some ⟨R,0,none⟩),.slice (some ⟨A,0,none⟩) n c] w (LnP base R mp ln w (gL pt (pl m) ws)):=by
 by_cases h1:1≤pt∧pt≤3
 ·by_cases h2:n=2
  ·rcases h3:nmV (wdx ws 1) with _ | v
   ·exact Lq h hw hA hE hBR hps h1 h2 h3
   ·exact FY h hw hA hE hBR hps h1 h2 h3
  ·exact Lf h hw h1 h2
 ·exact Lm h h1
end Go.Proofs.YtheefojaplnnoaaGreatDoor

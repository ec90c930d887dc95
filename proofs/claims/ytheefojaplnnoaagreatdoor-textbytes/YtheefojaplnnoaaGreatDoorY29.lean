/-
  Texts Pq Ps.
-/
import Derived.Carry
import Derived.MapKept
import Derived.Test.YtheefojaplnnoaaGreatDoorY00
import Derived.Test.YtheefojaplnnoaaGreatDoorY28
set_option linter.unusedVariables false
set_option maxRecDepth 100000
set_option maxHeartbeats 16000000
namespace Go.Proofs.YtheefojaplnnoaaGreatDoor
open Go.RowKit
theorem H6(init:List FuM)(t:Int)(lo:ByteArray)(a a':SLv)(c c':List InM):((init++[((t,lo,a,c):FuM)]).flatMap dR).set (init.length*3+2) (.slice a'.1 a'.2.1 a'.2.2)=(init++[((t,lo,a',c'):FuM)]).flatMap dR:=by
 rw[List.flatMap_append,List.flatMap_append,List.flatMap_singleton,List.flatMap_singleton,List.set_append_right _ _ (by rw[nE dR 3 (fun _=>rfl)]; omega),nE dR 3 (fun _=>rfl)]
 congr 1
 rw[show init.length*3+2-init.length*3=2 by omega]
 rfl
theorem RQ.pushI{base R:Nat}{mp:Value}{m:MM}{ln pt:Int}{w W w':World}{g cap:Nat}(h:RQ base R mp m ln pt w)(hW:Below w.heap.size w W){init:List FuM}{t:Int}{lo:ByteArray}{ca:Option Addr}{cn cc:Nat}{code:List InM}(hf:m.fns=init++[((t,lo,(ca,cn,cc),code):FuM)]){fb:Nat}(hfa:m.fa=some ⟨fb,0,none⟩)(y:InM)
  (hy:w.ownsRow base 3 1 (.slice y.2.2.1.1 y.2.2.1.2.1 y.2.2.1.2.2) y.2.2.1.2.1 (y.2.2.2.flatMap iw)) (ho:w'.ownsRow base 75 3 (.slice (some ⟨g,0,none⟩) (cn+1) cap) (cn+1) (code.flatMap eQ++eQ y)) (hg:W.grownBy w' (Value.slice ca cn cc).ownBlock) (hgb:(Value.slice ca cn cc).ownBlock=some g∨g=W.heap.size) :
  RQ base R mp { m with fns:=init++[((t,lo,(some ⟨g,0,none⟩,cn+1,cap),code++[y]):FuM)] } ln pt (w'.setCell ⟨fb,init.length*3+2,none⟩ (.slice (some ⟨g,0,none⟩) (cn+1) cap))∧KR base R w (w'.setCell ⟨fb,init.length*3+2,none⟩ (.slice (some ⟨g,0,none⟩) (cn+1) cap)):=by
 have hq:=h.later hW;have hR:=h.low
 have hlm:((t,lo,(ca,cn,cc),code):FuM)∈m.fns:=by rw[hf]; simp
 have hu:=(hq.fo _ hlm).code;have hrf':=bF hq.rf hu hg aj;rw[hfa]at hrf';obtain⟨hfb,cur,hcur⟩:=iK hrf' (b:=fb) rfl;have kS:=aw w' fb (init.length*3+2) (.slice (some ⟨g,0,none⟩) (cn+1) cap)
 have far:∀{e k n:Nat} {v:Value} {xs:List Value},w'.ownsRow base e k v n xs→e≠78→(w'.setCell ⟨fb,init.length*3+2,none⟩ (.slice (some ⟨g,0,none⟩) (cn+1) cap)).ownsRow base e k v n xs:=fun h0 he=>ra h0 kS hcur he
 have hlast:m.fns[init.length]? =some ((t,lo,(ca,cn,cc),code):FuM):=by rw[hf]; simp
 have codes:∀(i:Nat)x,init[i]? =some x→w'.ownsRow base 75 3 (.slice x.2.2.1.1 x.2.2.1.2.1 x.2.2.1.2.2) x.2.2.1.2.1 (x.2.2.2.flatMap eQ):=fun i x hi=>by
  have hil:=aK hi;have hi':m.fns[i]? =some x:=uW;refine(hq.fo x (List.mem_of_getElem? hi')).code.kept hg ?_
  rcases hv:(Value.slice x.2.2.1.1 x.2.2.1.2.1 x.2.2.1.2.2).ownBlock with _ | b
  ·exact .inl rfl
  ·refine .inr fun hx=>?_
   exact h.fd i init.length x _ b hi' hlast ae hv hx.symm
 refine⟨⟨?_,hR,?_,?_,?_,?_,?_,?_,?_,?_,?_,?_,?_⟩,((KR.later hW).trans (KR.grow hu hg)).trans ⟨kS.os,kS.tape,kS.output,kS.size,fun k hk hs=>kS.block k hk (fun e=>hs (.inr (by have e:k=fb:=e; omega)))⟩⟩
 ·exact(kS.block R (aJ (cr hq.blk hR hu hg)) (by show ¬R=fb; omega)).trans (cr hq.blk hR hu hg)
 ·exact kj
 ·exact far (bF hq.rt hu hg aj) aj
 ·exact far (bF hq.rh hu hg aj) aj
 ·exact far (bF hq.rg hu hg aj) aj
 ·have h1:=(hrf'.stored (init.length*3+2) (.slice (some ⟨g,0,none⟩) (cn+1) cap)).1;rw[hf]at h1;rw[H6 init t lo (ca,cn,cc) (some ⟨g,0,none⟩,cn+1,cap) code (code++[y])]at h1
  show(World.setCell _ _ _).ownsRow base 78 3 (.slice m.fa m.fn m.fc) m.fn _
  rw[hfa];exact h1
 ·exact far (bF hq.rd hu hg aj) aj
 ·exact far (bF hq.re hu hg aj) aj
 ·intro x hx
  rcases List.mem_append.1 hx with hx | hx
  ·obtain⟨i,hi⟩:=List.mem_iff_getElem?.1 hx
   have hxm:x∈m.fns:=by rw[hf]; exact List.mem_append_left _ hx
   exact⟨far (codes i x hi) aj,fun z hz=>far (bF ((hq.fo x hxm).lab z hz) hu hg aj) aj⟩
  ·rw[List.mem_singleton]at hx;subst hx
   refine⟨far (by dsimp only; rw[List.flatMap_append,List.flatMap_singleton]; exact ho) aj,fun z hz=>?_⟩
   rcases List.mem_append.1 hz with hz | hz
   ·exact far (bF ((hq.fo _ hlm).lab z hz) hu hg aj) aj
   ·rw[List.mem_singleton]at hz;subst hz;exact far (bF (eN hy hW) hu hg aj) aj
 ·have key:∀(i:Nat)x k,init[i]? =some x→fcb x=some k→k≠g:=fun i x k hi hk e=>by
   subst e;have hil:=aK hi;have hi':m.fns[i]? =some x:=uW
   rcases hgb with hgb | hgb
   ·exact h.fd i init.length x _ k hi' hlast ae hk hgb
   ·obtain⟨_,cur2,h2⟩:=iK (hq.fo x (List.mem_of_getElem? hi')).code hk
    have:=aJ h2
    omega
  have hnew:fcb ((t,lo,(some ⟨g,0,none⟩,cn+1,cap),code++[y]):FuM)=some g:=rfl;intro i j x z k hi hj hij hk hkz;dsimp only at hi hj
  rcases Nat.lt_or_ge i init.length with hil | hil
  ·rw[List.getElem?_append_left hil]at hi
   rcases Nat.lt_or_ge j init.length with hjl | hjl
   ·rw[List.getElem?_append_left hjl]at hj;have hi':m.fns[i]? =some x:=uW
    have hj':m.fns[j]? =some z:=by rw[hf,List.getElem?_append_left hjl]; exact hj
    exact h.fd i j x z k hi' hj' hij hk hkz
   ·rw[List.getElem?_append_right hjl]at hj
    have:=List.mem_of_getElem? hj
    rw[List.mem_singleton]at this;subst this;rw[hnew]at hkz
    cases hkz
    exact key i x g hi hk rfl
  ·rw[List.getElem?_append_right hil]at hi;have hx:=List.mem_of_getElem? hi;rw[List.mem_singleton]at hx;subst hx;rw[hnew]at hk
   cases hk
   rcases Nat.lt_or_ge j init.length with hjl | hjl
   ·rw[List.getElem?_append_left hjl]at hj;exact key j z g hj hkz rfl
   ·rw[List.getElem?_append_right hjl]at hj;have h1:=aK hi;have h2:=aK hj
    simp at h1 h2
    omega
 ·exact fun x hx=>far (bF (hq.dd x hx) hu hg aj) aj
 ·intro hp
  have:=h.nf hp
  rw[hf]at this
  simp at this
open Go.RowKit Go.MapKept
theorem Rw:Tryz.prog.underlying 123=some (.map 9 172):=ai
theorem u9s:Tryz.prog.underlying 9=some .string:=ai
theorem lJ(W:World)(B:Nat)(es:Array MapEntry)(clock:Nat)(key:ByteArray)(v:Value)(hb:W.heap[B]? =some (.map es clock))(hf:Instr.findNow .string (.string key) es.toList 0=some none) :
  ∃W',(Instr.mapUpdate 123 (.map (some B)) (.string key) v).run Tryz.prog W=.ok () W'∧W'.heap[B]? =some (.map (es.push { key:=.string key,val:=v,born:=clock }) (clock+1))∧Kept (fun k=>k=B) W W':=by
 have hlt:B<W.heap.size:=aJ hb
 refine⟨{ W with heap:=W.heap.setIfInBounds B (.map (es.push { key:=.string key,val:=v,born:=clock }) (clock+1)) },?_,by simp[hlt],⟨rfl,rfl,rfl,ar,fun k hk hne=>by have:k≠B:=hne; simp[Ne.symm this]⟩⟩
 have h1:=run_checkKey (P:=Tryz.prog) (w:=W) (k:=.string key) u9s (by simp[IsKey]) false 9999
 have h2:=run_findKey (P:=Tryz.prog) (w:=W) u9s hf;have h3:=run_setObj_map (P:=Tryz.prog) (.map (es.push { key:=.string key,val:=v,born:=clock }) (clock+1)) hb;unfold Instr.mapUpdate
 simp only[Sem.run_bind,run_underlying Rw,Result.andThen]
 simp[getObj,Sem.run,hb,h1,h2,h3,Result.andThen]
def kdE:Array MapEntry:=#[{ key:=.string ⟨#[102,108,97,103,111,110]⟩,val:=.func (.func 108) #[] #[],born:=0 },{ key:=.string ⟨#[116,121,112,101]⟩,val:=.func (.func 109) #[] #[],born:=1 },{ key:=.string ⟨#[101,120,116,101,114,110]⟩,val:=.func (.func 110) #[] #[],born:=2 },{ key:=.string ⟨#[103,108,111,98,97,108]⟩,val:=.func (.func 111) #[] #[],born:=3 },{ key:=.string ⟨#[109,101,109,111,114,121]⟩,val:=.func (.func 112) #[] #[],born:=4 },{ key:=.string ⟨#[102,117,110,99]⟩,val:=.func (.func 113) #[] #[],born:=5 },{ key:=.string ⟨#[100,97,116,97]⟩,val:=.func (.func 114) #[] #[],born:=6 },{ key:=.string ⟨#[101,120,112,111,114,116]⟩,val:=.func (.func 115) #[] #[],born:=7 }]
theorem LV(w:World):Calls Tryz.prog 54 #[] w fun e w'=>e=.returned (.map (some w.heap.size))∧w'.heap[w.heap.size]? =some (.map kdE 8)∧Below w.heap.size w w':=by
 have hmk:=fun w'=>run_makeMap (P:=Tryz.prog) 123 w'
 have hb0:=heap_alloc_new w (.map #[] 0);have B0:=ag w (.map #[] 0);have hsz:w.heap.size<(w.alloc (.map #[] 0)).heap.size:=ar;obtain⟨W1,r1,hb1,K1⟩:=lJ (w.alloc (.map #[] 0)) w.heap.size _ 0 ⟨#[102,108,97,103,111,110]⟩ (.func (.func 108) #[] #[]) hb0 ai;obtain⟨W2,r2,hb2,K2⟩:=lJ (W1) w.heap.size _ 1 ⟨#[116,121,112,101]⟩ (.func (.func 109) #[] #[]) hb1 ai;obtain⟨W3,r3,hb3,K3⟩:=lJ (W2) w.heap.size _ 2 ⟨#[101,120,116,101,114,110]⟩ (.func (.func 110) #[] #[]) hb2 ai;obtain⟨W4,r4,hb4,K4⟩:=lJ (W3) w.heap.size _ 3 ⟨#[103,108,111,98,97,108]⟩ (.func (.func 111) #[] #[]) hb3 ai;obtain⟨W5,r5,hb5,K5⟩:=lJ (W4) w.heap.size _ 4 ⟨#[109,101,109,111,114,121]⟩ (.func (.func 112) #[] #[]) hb4 ai;obtain⟨W6,r6,hb6,K6⟩:=lJ (W5) w.heap.size _ 5 ⟨#[102,117,110,99]⟩ (.func (.func 113) #[] #[]) hb5 ai;obtain⟨W7,r7,hb7,K7⟩:=lJ (W6) w.heap.size _ 6 ⟨#[100,97,116,97]⟩ (.func (.func 114) #[] #[]) hb6 ai;obtain⟨W8,r8,hb8,K8⟩:=lJ (W7) w.heap.size _ 7 ⟨#[101,120,112,111,114,116]⟩ (.func (.func 115) #[] #[]) hb7 ai;have HB8:=hid hb8;have HK:=hid ((((((((K1.trans K2).trans K3).trans K4).trans K5).trans K6).trans K7).trans K8))
 have BW:=hid (B0.trans (HK.out.to_below (Nat.le_of_lt hsz) (fun k _ hk=>by have e:k=w.heap.size:=hk; omega)))
 clear hb0 hb1 hb2 hb3 hb4 hb5 hb6 hb7 hb8 K1 K2 K3 K4 K5 K6 K7 K8 HK B0 hsz
 go_enter Tryz.func54,Tryz.ntmps54
 go_wp2_with fail;go_ret;exact⟨rfl,HB8.out,BW.out⟩
theorem xI(W:World)(KB:Nat)(x:ByteArray)(r:Option (Nat×Value))(hb:W.heap[KB]? =some (.map kdE 8))(hf:Instr.findNow .string (.string x) kdE.toList 0=some r) :
  (Instr.lookup 123 (.map (some KB)) (.string x) true).run Tryz.prog W=.ok (match r with | some q=>.tuple #[q.2,.bool true] | none=>.tuple #[.nilFunc,.bool false]) W:=by
 have h1:=run_checkKey (P:=Tryz.prog) (w:=W) (k:=.string x) u9s (by simp[IsKey]) kdE.isEmpty 9999
 have h2:=run_findKey (P:=Tryz.prog) (w:=W) u9s hf;have hz:(zeroValue 172).run Tryz.prog W=.ok .nilFunc W:=jx;unfold Instr.lookup
 simp only[Sem.run_bind,run_underlying Rw,Result.andThen]
 simp only[getObj,Sem.run,hb]
 cases r with
 | none=>simp[h1,h2,hz,Result.andThen]
 | some q=>simp[h1,h2,Result.andThen]
theorem GF(W:World)(KB i f:Nat)(x:ByteArray)(hb:W.heap[KB]? =some (.map kdE 8))(hf:Instr.findNow .string (.string x) kdE.toList 0=some (some (i,.func (.func f) #[] #[]))) :
  (Instr.lookup 123 (.map (some KB)) (.string x) true).run Tryz.prog W=.ok (.tuple #[.func (.func f) #[] #[],.bool true]) W:=xI W KB x _ hb hf
theorem EX(W:World)(KB:Nat)(x:ByteArray)(hb:W.heap[KB]? =some (.map kdE 8))(hf:Instr.findNow .string (.string x) kdE.toList 0=some none) :
  (Instr.lookup 123 (.map (some KB)) (.string x) true).run Tryz.prog W=.ok (.tuple #[.nilFunc,.bool false]) W:=xI W KB x _ hb hf
theorem Au:Instr.findNow .string (.string ⟨#[102,108,97,103,111,110]⟩) kdE.toList 0=some (some (0,.func (.func 108) #[] #[])):=ai
theorem JD:Instr.findNow .string (.string ⟨#[116,121,112,101]⟩) kdE.toList 0=some (some (1,.func (.func 109) #[] #[])):=ai
theorem A3:Instr.findNow .string (.string ⟨#[101,120,116,101,114,110]⟩) kdE.toList 0=some (some (2,.func (.func 110) #[] #[])):=ai
theorem A0:Instr.findNow .string (.string ⟨#[103,108,111,98,97,108]⟩) kdE.toList 0=some (some (3,.func (.func 111) #[] #[])):=ai
theorem AB:Instr.findNow .string (.string ⟨#[109,101,109,111,114,121]⟩) kdE.toList 0=some (some (4,.func (.func 112) #[] #[])):=ai
theorem Jj:Instr.findNow .string (.string ⟨#[102,117,110,99]⟩) kdE.toList 0=some (some (5,.func (.func 113) #[] #[])):=ai
theorem Jl:Instr.findNow .string (.string ⟨#[100,97,116,97]⟩) kdE.toList 0=some (some (6,.func (.func 114) #[] #[])):=ai
theorem Ah:Instr.findNow .string (.string ⟨#[101,120,112,111,114,116]⟩) kdE.toList 0=some (some (7,.func (.func 115) #[] #[])):=ai
theorem qq{x y:ByteArray}(h:x≠y):(x==y)=false:=by
 cases hb:x==y
 ·rfl
 ·exfalso
  apply h
  cases x with | mk a=>cases y with | mk b =>
  have hb':(a==b)=true:=hb;rw[eq_of_beq hb']
theorem JU(x:ByteArray)(h0:x≠⟨#[102,108,97,103,111,110]⟩)(h1:x≠⟨#[116,121,112,101]⟩)(h2:x≠⟨#[101,120,116,101,114,110]⟩)(h3:x≠⟨#[103,108,111,98,97,108]⟩)(h4:x≠⟨#[109,101,109,111,114,121]⟩)(h5:x≠⟨#[102,117,110,99]⟩)(h6:x≠⟨#[100,97,116,97]⟩)(h7:x≠⟨#[101,120,112,111,114,116]⟩):Instr.findNow .string (.string x) kdE.toList 0=some none:=by
 have e0:(x==(⟨#[102,108,97,103,111,110]⟩:ByteArray))=false:=qq h0;have e1:(x==(⟨#[116,121,112,101]⟩:ByteArray))=false:=qq h1;have e2:(x==(⟨#[101,120,116,101,114,110]⟩:ByteArray))=false:=qq h2;have e3:(x==(⟨#[103,108,111,98,97,108]⟩:ByteArray))=false:=qq h3;have e4:(x==(⟨#[109,101,109,111,114,121]⟩:ByteArray))=false:=qq h4;have e5:(x==(⟨#[102,117,110,99]⟩:ByteArray))=false:=qq h5;have e6:(x==(⟨#[100,97,116,97]⟩:ByteArray))=false:=qq h6;have e7:(x==(⟨#[101,120,112,111,114,116]⟩:ByteArray))=false:=qq h7
 simp[kdE,Instr.findNow,Instr.sameNow,e0,e1,e2,e3,e4,e5,e6,e7]
end Go.Proofs.YtheefojaplnnoaaGreatDoor

/-
  Texts Lm Dk Dl Dm Zy Zq.
-/
import Derived.Test.YtepcmfegggdjfaaGreatDoorM00
import Derived.Test.YtepcmfegggdjfaaGreatDoorM07
import Derived.Test.YtepcmfegggdjfaaGreatDoorM09
import Derived.Test.YtepcmfegggdjfaaGreatDoorM11
import Derived.Test.YtepcmfegggdjfaaGreatDoorM13
import Derived.Test.YtepcmfegggdjfaaGreatDoorM15
set_option linter.unusedVariables false
set_option maxRecDepth 100000
set_option maxHeartbeats 16000000
namespace Go.Proofs.YtepcmfegggdjfaaGreatDoor
open Go.Proofs.Tryz
open Go.RowKit
theorem pM{O:NIz}:∀(k i:Nat),-1<=elF O k i/\elF O k i<k
 | 0,i=>by simp[elF]
 | k+1,i=>by
  have ih:=pM (O:=O) k i;unfold elF
  split
  ·omega
  split <;> omega
theorem i7(c:Int)(w:World)(h0:0<=c)(h1:c<=255):Calls prog 57 #[.int .u8 c] w fun e w'=>e=.returned (.bool (isO c))/\w'=w:=by
 by_cases h:c=2
 ·subst h;exact qM
 by_cases h':c=3
 ·subst h';exact qM
 have hv:isO c=decide (c=4):=by simp[isO,h,h']
 rw[hv];have b2:(c==2)=false:=kJ
 have b3:(c==3)=false:=by simpa using h'
 by_cases h4:c=4
 ·subst h4;exact qM
 have b4:(c==4)=false:=mP;rw[decide_eq_false h4];exact qM
def RC(w:World)(B n c:Nat)(f:NIz):Prop:=Row w 3 B n c (fl n f)
variable {w:World}{B n c:Nat}{f:NIz}
theorem RC.cell(h:RC w B n c f)(i:Nat)(hi:i<n):w.cell? ⟨B,i,none⟩=some (.int .i64 (f i)):=(Row.cell h i hi).trans (sO n f i hi)
theorem RC.free(h:RC w B n c f)(i:Nat):w.frozen? ⟨B,i,none⟩=false:=Row.free h i
theorem RC.lt(h:RC w B n c f):B<w.heap.size:=Row.lt h
variable {g:NIz}
theorem RC.congr(h:RC w B n c f)(e:∀i,i<n->g i=f i):RC w B n c g:=by
 unfold RC; rw[Al e]; exact h
theorem RC.put(h:RC w B n c f)(t:Nat)(v:Int)(e:∀i,i<n->g i=if i=t then v else f i):RC (w.setCell ⟨B,t,none⟩ (.int .i64 v)) B n c g/\Kept (fun k=>k=B) w (w.setCell ⟨B,t,none⟩ (.int .i64 v)):=by
 have:=Row.put h t (.int .i64 v);rw[Kw e]at this;exact this
variable {w':World}
theorem RC.kept{S:Nat->Prop}(h:RC w B n c f)(hk:Kept S w w')(hs:¬S B):RC w' B n c f:=Row.kept h hk hs
theorem RC.li{base B n c:Nat}(h:RC w B n c f)(hb:base<=B):LI w base (.slice (some ⟨B,0,none⟩) n c) ((List.range n).map f):=by
 have:=mY h hb;unfold LI
 simpa[fl,Function.comp_def] using this
variable {l:LIz}
theorem LI.rc{base n c B:Nat}(h:LI w base (.slice (some ⟨B,0,none⟩) n c) l)(e:l=(List.range n).map f):RC w B n c f:=by
 subst e
 have:=Row.of (w:=w) (base:=base) (e:=3) (B:=B) (n:=n) (cap:=c) (xs:=((List.range n).map f).map (Value.int .i64)) (by
  have:=h; unfold LI at this; simpa using this)
 unfold RC fl
 simpa[Function.comp_def] using this
variable {ops:Array Oper}{o:Oper}{a:Act}{Q:Exit->Act->World->Prop}
theorem lJ(w:World){rest:List Oper}(hgd:o.guard=none)
  (s x:Operand) (ho:o.op=Op.call { callee:=Callee.builtin Builtin.append,args:=#[s,x],argTypes:=#[23,23] })
  (base:Nat) (v:Value) (l:LIz) (hs:a.eval s=v) (hown:LI w base v l) (hbase:base<=w.heap.size) (ad:Addr) (z:Int) (hx:a.eval x=.slice (some ad) 1 1) (hu:w.cell? (ad.add 0)=some (.int .i64 z))
  (hlen:l.length<=1073741824)
  (h:∀(B cap k:Nat)(w':World),k=(l++[z]).length->LI w' base (.slice (some ⟨B,0,none⟩) k cap) (l++[z])->(v.ownBlock=some B\/w.heap.size<=B)->Kept (fun k=>v.ownBlock=some k) w w'->wpList prog ops Q rest (a.put o.dst (.slice (some ⟨B,0,none⟩) k cap)) w') :
  wpList prog ops Q (o::rest) a w:=by
 obtain⟨i0,hi,hz0,hz1,hz2⟩:=info_parts Tryz.infInts;refine yA w hgd s x 23 ho 3 i0 (.int .i64 0) 8 underlying23 hi hz0 hz1 hz2 rfl v l.length (l.map (Value.int .i64)) hs (fR hown (Nat.zero_le _)) ad (.int .i64 z) hx hu rfl dA ae ?_;intro B cap w' hrow hcase
 have hB:base<=B:=by
  rcases hcase with ⟨rfl,_⟩ | ⟨h1,_⟩
  ·exact(LI.block hown rfl).1
  omega
 have hfin:=h B cap (l.length+1) w' aw (by
  have:=mY hrow hB;unfold LI
  simpa using this)
 exact J4
def Ap(v u:Value):Prop:=∀b,v.ownBlock=some b->u.ownBlock≠some b
variable {v u:Value}
theorem Ap.symm(h:Ap v u):Ap u v:=fun b h1 h2=>h b h2 h1
theorem Ap.nil(v:Value):Ap v (.slice none 0 0):=fun b _ h=>by simp[Value.ownBlock]at h
structure R3(w:World)(base k:Nat)(v1 v2 v3:Value)(wr:World):Prop where
 l1:LI wr base v1 (List.replicate k (-1))
 l2:LI wr base v2 (List.replicate k (-1))
 l3:LI wr base v3 (List.replicate k (-1))
 a12:Ap v1 v2
 a13:Ap v1 v3
 a23:Ap v2 v3
 bel:Below base w wr
 le:base<=wr.heap.size
variable {k:Nat}
theorem DV{base:Nat}(ha:Ap v u)(hu:LI w base u l)(hB:v.ownBlock=some B\/w.heap.size<=B):Ap (.slice (some ⟨B,0,none⟩) k c) u:=by
 intro b hb hub;have e:B=b:=pk;subst e
 rcases hB with hB | hB
 ·exact ha B hB hub
 have:=(LI.block hu hub).2; omega
variable {w1 w2:World}
theorem tR{base:Nat}(hb:Below base w w1)(hl:LI w1 base v l)(hbase:base<=w1.heap.size)(hk:Kept (fun k=>v.ownBlock=some k) w1 w2):Below base w w2 :=
 bw hb hk hbase (fun k hx=>(LI.block hl hx).1)
structure T3(w:World)(base:Nat)(v u t:Value)(l m q:LIz)(W:World):Prop where
 lv:LI W base v l
 lu:LI W base u m
 lt:LI W base t q
 vu:Ap v u
 vt:Ap v t
 ut:Ap u t
 bel:Below base w W
 le:base<=W.heap.size
variable {t:Value}{m q:LIz}{W:World}
theorem T3.rot{base:Nat}(h:T3 w base v u t l m q W):T3 w base u t v m q l W:=⟨h.lu,h.lt,h.lv,h.ut,h.vu.symm,h.vt.symm,h.bel,h.le⟩
theorem T3.alloc{base:Nat}(h:T3 w base v u t l m q W)(o:Obj):T3 w base v u t l m q (W.alloc o):=by
 have ob:=(Below.refl W.heap.size W).alloc lRn o;exact⟨h.lv.later ob lRn,h.lu.later ob lRn,h.lt.later ob lRn,h.vu,h.vt,h.ut,h.bel.alloc h.le o,by have:=h.le; simp; omega⟩
variable {l':LIz}
theorem T3.push{base:Nat}(h:T3 w base v u t l m q W)(hL:LI w1 base (.slice (some ⟨B,0,none⟩) k c) l')(hB:v.ownBlock=some B\/W.heap.size<=B)(hk:Kept (fun k=>v.ownBlock=some k) W w1) :
  T3 w base (.slice (some ⟨B,0,none⟩) k c) u t l' m q w1 :=
 ⟨hL,h.lu.kept hk (fun b hb hx=>h.vu b hx hb),h.lt.kept hk (fun b hb hx=>h.vt b hx hb),DV h.vu h.lu hB,DV h.vt h.lt hB,h.ut,tR h.bel h.lv h.le hk,Nat.le_trans h.le hk.size⟩
def opn(O:NIz)(k:Nat):List Int:=((stk O k).reverse).map (fun t:Nat=>(t:Int))
theorem lO(O:NIz)(k:Nat):(opn O k).length=(stk O k).length:=by simp[opn]
variable {O:NIz}{t:Nat}
theorem rX{r:List Nat}(h:stk O k=t::r):opn O k=(r.reverse).map (fun t:Nat=>(t:Int))++[(t:Int)]:=by simp[opn,h]
variable {z:Int}
theorem LI.take{base B k c:Nat}(h:LI w base (.slice (some ⟨B,0,none⟩) k c) (l++[z])):LI w base (.slice (some ⟨B,0,none⟩) l.length c) l:=by
 rcases h.2 with ⟨h0,_⟩ | ⟨g,cp,cur,h1,h2,h3,h4,h5,h6,h7⟩
 ·cases h0
 injection h1 with e1 e2 e3;injection e1 with e1;injection e1 with e1;subst e1 e3;refine⟨aw,.inr ⟨B,c,cur,rfl,h2,h3,by simp at h4; omega,h5,h6,?_⟩⟩
 have e:cur.toList.take (l.length*1)=(cur.toList.take ((l++[z]).length*1)).take (l.length*1):=by
  rw[List.take_take]; congr 1; simp
 rw[e,h7];simp
structure RSt(O:NIz)(n base A B C ca cb cc:Nat)(w:World)(k:Nat)(vo:Value)(wr:World):Prop where
 ok:Okp O k
 rest:res O (n-k) k=res O n 0
 en:RC wr A n ca (enF O k)
 el:RC wr B n cb (elF O k)
 ow:RC wr C n cc (owF O k)
 op:LI wr base vo (opn O k)
 nA:vo.ownBlock≠some A
 nB:vo.ownBlock≠some B
 nC:vo.ownBlock≠some C
 bel:Below base w wr
 le:base<=wr.heap.size
variable {vo:Value}{wr W1:World}{B1 C1 k1:Nat}{o:Obj}
theorem LV{n base A B C ca cb cc:Nat}(h:RSt O n base A B C ca cb cc w k vo wr)(hlt:k<n)(he:er O k=0)(hb6:¬(O k=6/\stk O k=[]))(hO:isO (O k)=true)
  (en:RC W1 A n ca (enF O k)) (el:RC W1 B n cb (elF O k)) (ow:RC W1 C n cc (owF O (k+1))) (bel:Below base w W1) (le:base<=W1.heap.size) (hvo:LI W1 base vo (opn O k))
  (hL:LI w1 base (.slice (some ⟨B1,0,none⟩) k1 C1) (opn O k++[(k:Int)])) (hB:vo.ownBlock=some B1\/(W1.alloc o).heap.size<=B1) (hk:Kept (fun k=>vo.ownBlock=some k) (W1.alloc o) w1) :
  RSt O n base A B C ca cb cc w (k+1) (.slice (some ⟨B1,0,none⟩) k1 C1) w1:=by
 have ka:=Kept.alloc (fun _=>False) W1 o;have n5:=je hO;have hA:=en.lt;have hBl:=el.lt;have hC:=ow.lt;have hs:(W1.alloc o).heap.size=W1.heap.size+1:=aw
 have far:∀X,X<W1.heap.size->vo.ownBlock≠some X->(Value.slice (some ⟨B1,0,none⟩) k1 C1).ownBlock≠some X:=fun X hX hne e=>by
  have e:B1=X:=by simpa[Value.ownBlock] using e
  subst e
  rcases hB with hB | hB
  ·exact hne hB
  omega
 have hvo2:=hvo.later ((Below.refl W1.heap.size W1).alloc lRn o) lRn;refine⟨kK h.ok he hb6,(jA hlt he hb6).symm.trans h.rest,?_,?_,?_,by rw[rX (fU hO)]; exact hL,far A hA h.nA,far B hBl h.nB,far C hC h.nC,tR (bel.alloc le o) hvo2 ae hk,by have:=hk.size; omega⟩
 ·exact((en.kept ka (fun x=>x)).kept hk h.nA).congr (fun i _=>gy n5.2)
 ·exact((el.kept ka (fun x=>x)).kept hk h.nB).congr (fun i _=>gQ n5.1)
 exact(ow.kept ka (fun x=>x)).kept hk h.nC
theorem uA{n base A B C ca cb cc:Nat}(h:RSt O n base A B C ca cb cc w k vo wr)(hlt:k<n)(hO:isO (O k)=false)(h5:O k≠5)(h6:O k≠6)
  (en:RC W1 A n ca (enF O k)) (el:RC W1 B n cb (elF O k)) (ow:RC W1 C n cc (owF O (k+1))) (bel:Below base w W1) (le:base<=W1.heap.size) (hvo:LI W1 base vo (opn O k)) :
  RSt O n base A B C ca cb cc w (k+1) vo W1:=by
 have he:er O k=0:=by unfold er; rw[if_neg (by simp[hO]),if_neg h5]
 have hb6:¬(O k=6/\stk O k=[]):=fun x=>h6 x.1;have hs:=eB hO h6;exact⟨kK h.ok he hb6,(jA hlt he hb6).symm.trans h.rest,en.congr (fun i _=>gy h6),el.congr (fun i _=>gQ h5),ow,by unfold opn at hvo ⊢; rw[hs]; exact hvo,h.nA,h.nB,h.nC,bel,le⟩
theorem KI{n base A B C ca cb cc:Nat}(h:RSt O n base A B C ca cb cc w k vo wr)(hlt:k<n)(h5:O k=5)(hs:stk O k=t::stk O t)(h4:O t=4)(hel:elF O k t=-1)(hAB:A≠B)(hBC:B≠C)(hbB:base<=B)
  (en:RC W1 A n ca (enF O k)) (el:RC W1 B n cb (elF O k)) (ow:RC W1 C n cc (owF O (k+1))) (bel:Below base w W1) (le:base<=W1.heap.size) (hvo:LI W1 base vo (opn O k)) :
  RSt O n base A B C ca cb cc w (k+1) vo (W1.setCell ⟨B,t,none⟩ (.int .i64 k)):=by
 have hO:isO (O k)=false:=by rw[h5]; rfl
 have he:er O k=0:=by unfold er; rw[if_neg (by simp[hO]),if_pos h5,hs]; simp only; rw[if_pos ⟨h4,hel⟩]
 have hb6:¬(O k=6/\stk O k=[]):=fun x=>by have:=x.1; omega
 have hs2:=eB hO (show O k≠6 by omega);have P:=el.put (g:=elF O (k+1)) t k (fun i hi=>td h5 hs i)
 exact⟨kK h.ok he hb6,(jA hlt he hb6).symm.trans h.rest,(en.congr (fun i _=>gy (show O k≠6 by omega))).kept P.2 hAB,P.1,ow.kept P.2 (fun x=>hBC x.symm),
  (by unfold opn at hvo ⊢; rw[hs2]; exact hvo.kept P.2 (fun b hb hx=>h.nB (by rw[<- hx]; exact hb))),h.nA,h.nB,h.nC,bw bel P.2 le (fun k hx=>ae),by rw[World.size_setCell]; exact le⟩
variable {Ob ok1 oc:Nat}{W2:World}
theorem Ee{n base A B C ca cb cc:Nat}(h:RSt O n base A B C ca cb cc w k (.slice (some ⟨Ob,0,none⟩) ok1 oc) wr)(hlt:k<n)(h6:O k=6)(hs:stk O k=t::stk O t)(hAB:A≠B)(hAC:A≠C)(hbA:base<=A)
  (el:RC W1 B n cb (elF O k)) (ow:RC W1 C n cc (owF O (k+1))) (bel:Below base w W1) (le:base<=W1.heap.size) (hvo:LI W1 base (.slice (some ⟨Ob,0,none⟩) ok1 oc) (opn O k))
  (en:RC W2 A n ca (enF O (k+1))) (hk:Kept (fun x=>x=A) W1 W2) :
  RSt O n base A B C ca cb cc w (k+1) (.slice (some ⟨Ob,0,none⟩) (stk O t).length oc) W2:=by
 have hO:isO (O k)=false:=by rw[h6]; rfl
 have he:er O k=0:=by unfold er; rw[if_neg (by simp[hO]),if_neg ae]
 have hb6:¬(O k=6/\stk O k=[]):=fun x=>by rw[hs]at x; cases x.2
 have hs2:stk O (k+1)=stk O t:=by rw[jV h6,hs]; rfl
 have hop:opn O k=opn O t++[(t:Int)]:=by rw[rX hs]; rfl
 have own:(Value.slice (some ⟨Ob,0,none⟩) (stk O t).length oc).ownBlock=(Value.slice (some ⟨Ob,0,none⟩) ok1 oc).ownBlock:=rfl;have hv2:=hvo.kept hk (fun b hb hx=>h.nA (by rw[<- hx]; exact hb));rw[hop]at hv2;have hv3:=hv2.take;rw[lO]at hv3
 have eo:opn O (k+1)=opn O t:=by unfold opn; rw[hs2]
 exact⟨kK h.ok he hb6,(jA hlt he hb6).symm.trans h.rest,en,(el.congr (fun i _=>gQ (show O k≠5 by omega))).kept hk (fun x=>hAB x.symm),ow.kept hk (fun x=>hAC x.symm),
  (by rw[eo]; exact hv3),h.nA,h.nB,h.nC,bw bel hk le (fun k hx=>ae),by have:=hk.size; omega⟩
def qD(O:NIz)(n base:Nat)(w:World)(v1 v2 v3:Value):Prop :=
 ((res O n 0).1≠0/\v1=bi/\v2=bi/\v3=bi) \/
 (res O n 0=(0,0)/\LI w base v1 ((List.range n).map (enF O n))/\LI w base v2 ((List.range n).map (elF O n))/\LI w base v3 ((List.range n).map (owF O n)))
theorem I7(b off n cap:Nat)(xs:List Inx)(w:World)(hn:n<=1048576)(hn0:0<n)(hcap:n<=cap)(hc:Cod w b off n xs) :
  Calls prog 53 #[.slice (some ⟨b,off,none⟩) n cap] w fun e w'=>∃a1 a2 a3 n1 n2 n3 c1 c2 c3,e=.returned (.tuple #[.slice a1 n1 c1,.slice a2 n2 c2,.slice a3 n3 c3,.int .i64 (res (opF xs) n 0).1,.int .i64 (res (opF xs) n 0).2]) /\
   qD (opF xs) n w.heap.size w' (.slice a1 n1 c1) (.slice a2 n2 c2) (.slice a3 n3 c3)/\Below w.heap.size w w':=by
 have HC:=hid hc;have hbl:=hc.lt hn0;clear hc;go_enter func53,ntmps53;go_wp2_with fail
 go_loopw [7,8,9,10] (fun v1 v2 v3 i wr=>∃k:Nat,k<=n/\i=.int .i64 k/\R3 w w.heap.size k v1 v2 v3 wr) (fun _ _ _ i _=>n-(intOf i).toNat)
 case atStart=>exact⟨0,ae,rfl,LI.nil _ _,LI.nil _ _,LI.nil _ _,Ap.nil _,Ap.nil _,Ap.nil _,Below.refl _ _,Nat.le_refl _⟩
 case round =>
  obtain⟨k,hk,rfl,hr3⟩:=hrel;obtain⟨l1,l2,l3,a12,a13,a23,bel,le⟩:=hr3;obtain⟨p1,q1,rfl⟩:=l1.slice;obtain⟨p2,q2,rfl⟩:=l2.slice;obtain⟨p3,q3,rfl⟩:=l3.slice;simp only[List.length_replicate]at l1 l2 l3 a12 a13 a23 ⊢
  by_cases hlt:k<n
  ·have hrep:List.replicate (k+1) (-1:Int)=List.replicate k (-1)++[-1]:=List.replicate_succ';have T0:=hid ((show T3 w w.heap.size _ _ _ _ _ _ wr from⟨l1,l2,l3,a12,a13,a23,bel,le⟩).alloc (bM (-1)));have HREP:=hid hrep;clear l1 l2 l3 a12 a13 a23 bel hrep;have hlen:(List.replicate k (-1:Int)).length<=1073741824:=aK
   go_wp2_with (first
    | (at_builtin; refine lJ _ rfl (.tmp 22) (.tmp 23) rfl w.heap.size _ (List.replicate k (-1)) rfl T0.out.lv T0.out.le ⟨wr.heap.size,0,none⟩ (-1) rfl kQ hlen ?_; intro B1 C1 k1 w1 hk1 m1 n1 o1; have T1:=hid ((T0.out.push m1 n1 o1).alloc (bM (-1))).rot; have K1:=hid hk1; clear m1 n1 o1 hk1)
    | (at_builtin; refine lJ _ rfl (.tmp 25) (.tmp 26) rfl w.heap.size _ (List.replicate k (-1)) rfl T1.out.lv T1.out.le ⟨w1.heap.size,0,none⟩ (-1) rfl kQ hlen ?_; intro B2 C2 k2 w2 hk2 m2 n2 o2; have T2:=hid ((T1.out.push m2 n2 o2).alloc (bM (-1))).rot; have K2:=hid hk2; clear m2 n2 o2 hk2)
    | (at_builtin; refine lJ _ rfl (.tmp 28) (.tmp 29) rfl w.heap.size _ (List.replicate k (-1)) rfl T2.out.lv T2.out.le ⟨w2.heap.size,0,none⟩ (-1) rfl kQ hlen ?_; intro B3 C3 k3 w3 hk3 m3 n3 o3; have T3':=hid (T2.out.push m3 n3 o3).rot; have K3:=hid hk3; clear m3 n3 o3 hk3))
   have F:=T3'.out;refine⟨⟨k+1,ae,bH,?_,?_,?_,F.vu,F.vt,F.ut,F.bel,F.le⟩,bI⟩
   ·rw[HREP.out]; exact F.lv
   ·rw[HREP.out]; exact F.lu
   rw[HREP.out]; exact F.lt
  obtain rfl:n=k:=ae;go_wp2_with fail
  clear hlt hk;have e1:=l1;obtain⟨-,c1⟩:=l1.cell;obtain⟨-,c2⟩:=l2.cell;obtain⟨-,c3⟩:=l3.cell;obtain⟨A,rfl,-⟩:=c1.resolve_left ae;obtain⟨B,rfl,-⟩:=c2.resolve_left ae;obtain⟨C,rfl,-⟩:=c3.resolve_left ae
  have hrp:List.replicate n (-1:Int)=(List.range n).map (fun _=>-1):=by
   apply List.ext_getElem aw; intro i h1 h2; simp
  have rA:=l1.rc hrp;have rB:=l2.rc hrp;have rC:=l3.rc hrp;have hAB:A≠B:=fun e=>a12 A rfl (by rw[e]; rfl);have hAC:A≠C:=fun e=>a13 A rfl (by rw[e]; rfl);have hBC:B≠C:=fun e=>a23 B rfl (by rw[e]; rfl);have gA:w.heap.size<=A:=(LI.block l1 rfl).1;have gB:w.heap.size<=B:=(LI.block l2 rfl).1;have gC:w.heap.size<=C:=(LI.block l3 rfl).1;have hst0:RSt (opF xs) n w.heap.size A B C q1 q2 q3 w 0 (.slice none 0 0) wr:=⟨fun i hi=>absurd hi ae,rfl,rA.congr (fun _ _=>rfl),rB.congr (fun _ _=>rfl),rC.congr (fun _ _=>rfl),LI.nil _ _,xp,xp,xp,bel,le⟩;have HST:=hid hst0;clear hst0 rA rB rC l1 l2 l3 a12 a13 a23 e1 c1 c2 c3 bel le hrp;generalize wr=wz at *;go_wp2_with fail
  go_loopw [11,12,13] (fun vo d p wr=>∃(k:Nat),k<=n/\p=.int .i64 k/\((d=.bool false/\RSt (opF xs) n w.heap.size A B C q1 q2 q3 w k vo wr)\/(d=.bool true/\(∃a c m,vo=.slice a c m)/\res (opF xs) n 0=(if k=n then ((0,0):Int×Int) else (19,(k:Int)))/\RC wr A n q1 (enF (opF xs) k)/\RC wr B n q2 (elF (opF xs) k)/\RC wr C n q3 (owF (opF xs) k)/\Below w.heap.size w wr))) (fun _ _ p _=>n-(intOf p).toNat)
  case atStart=>exact⟨0,ae,rfl,.inl ⟨rfl,HST.out⟩⟩
  case round =>
   obtain⟨k,hk,rfl,hd⟩:=hrel;clear HST
   rcases hd with ⟨rfl,hst⟩ | ⟨rfl,⟨va,vn,vc,rfl⟩,hres,fA,fB,fC,bel⟩
   ·obtain⟨oa,oc,rfl⟩:=hst.op.slice;rw[lO]at hst ⊢
    by_cases hlt:k<n
    ·have g0:wr.cell? ⟨b,off+k*3,none⟩=some (.int .u8 (opF xs k)):=(hst.bel.cell (by exact hbl)).trans (HC.out.op hlt)
     have hcr:=HC.out.range hlt;obtain⟨c,hcO⟩:∃c,opF xs k=c:=⟨_,rfl⟩;rw[hcO]at g0 hcr;have c2:=hst.ow.cell k hlt;have f2:=hst.ow.free k;have P:=hst.ow.put (g:=owF (opF xs) (k+1)) k (top (stk (opF xs) k)) (fun i hi=>Ak (opF xs) k i);have enM:=hst.en.kept P.2 hAC;have elM:=hst.el.kept P.2 hBC;have opM:=hst.op.kept P.2 (fun b hb hx=>hst.nC (hb.trans (by rw[hx])));have belM:=bw hst.bel P.2 hst.le (fun k hx=>ae)
     have leM:w.heap.size<=(wr.setCell ⟨C,k,none⟩ (.int .i64 (top (stk (opF xs) k)))).heap.size:=by rw[World.size_setCell]; exact hst.le
     have HP:=hid P;have ENM:=hid enM;have ELM:=hid elM;have OPM:=hid opM;have BEM:=hid belM;have LEM:=hid leM;have HT:=hid hst;have hlen:=oN hst.ok
     rcases fF (opF xs) k with hs | ⟨t,ht,hOt,hs⟩
     ·have htp:top (stk (opF xs) k)=-1:=jk;have hl0:(stk (opF xs) k).length=0:=jk;rw[hl0]at OPM HT ⊢;rw[htp]at HP ENM ELM OPM BEM LEM;clear hst P enM elM opM belM leM hlen
      by_cases hO:isO c=true
      ·have ho5:=je hO
       have hO':isO (opF xs k)=true:=by rw[hcO]; exact hO
       have her:er (opF xs) k=0:=Em;have hb6:¬(opF xs k=6/\stk (opF xs) k=[]):=fun x=>ho5.2 (hcO.symm.trans x.1);have HER:=hid her;have HB6:=hid hb6;have HO':=hid hO';rw[dR]at hO;obtain⟨W1,hW1⟩:∃W1,wr.setCell ⟨C,k,none⟩ (.int .i64 (-1))=W1:=⟨_,rfl⟩;rw[hW1]at HP ENM ELM OPM BEM LEM;have hbt:=(Below.refl W1.heap.size W1).alloc lRn (bM (k:Int));have HOP2:=hid (OPM.out.later hbt lRn)
       have hle2:w.heap.size<=(W1.alloc (bM (k:Int))).heap.size:=by have:=LEM.out; simp; omega
       have hol:(opn (opF xs) k).length<=1073741824:=by rw[lO]; omega
       skip
       exact Oy
      have hOf:isO (opF xs k)=false:=yg;have hOc:isO c=false:=uZ;obtain⟨no2,no3,no4⟩:=ry hOc
      by_cases h5:c=5
      ·have hO5:opF xs k=5:=hcO.trans h5;have her:er (opF xs) k=37:=Es;have hres:res (opF xs) n 0=(37,(k:Int)):=qP;have HR:=hid hres;obtain⟨W1,hW1⟩:∃W1,wr.setCell ⟨C,k,none⟩ (.int .i64 (-1))=W1:=⟨_,rfl⟩;rw[hW1]at HP ENM ELM OPM BEM LEM;subst h5;clear hres her
       go_wp2_with (first
        | (go_at_call 57; refine(i7 _ _ ae ae).mono ?_; rintro e w5⟨rfl,hw5⟩; have hw6:=hw5.symm; subst hw6))
       (try simp only[Exit.inBlock,Exit.then])
       exact Oh
      by_cases h6:c=6
      ·have hO6:opF xs k=6:=hcO.trans h6
       have her:er (opF xs) k=0:=by unfold er; rw[if_neg rZ,if_neg ae]
       have hres:=(HT.out.rest).symm.trans (tB hlt her ⟨hO6,hs⟩);have HR:=hid hres;have HS:=hid hs;obtain⟨W1,hW1⟩:∃W1,wr.setCell ⟨C,k,none⟩ (.int .i64 (-1))=W1:=⟨_,rfl⟩;rw[hW1]at HP ENM ELM OPM BEM LEM;subst h6;clear hres her hs hl0 htp
       go_wp2_with (first
        | (go_at_call 57; refine(i7 _ _ ae ae).mono ?_; rintro e w5⟨rfl,hw5⟩; have hw6:=hw5.symm; subst hw6))
       refine⟨⟨k+1,ae,bH,.inr ⟨rfl,⟨_,_,_,rfl⟩,?_,ENM.out.congr (fun i _=>zo HS.out i),ELM.out.congr (fun i _=>z8 HS.out i),HP.out.1,BEM.out⟩⟩,bI⟩;rw[HR.out];simp
      have HRS:=hid (uA HT.out hlt hOf xo wN ENM.out ELM.out HP.out.1 BEM.out LEM.out OPM.out);have b5:(c==5)=false:=sy;have b6:(c==6)=false:=pz;obtain⟨W1,hW1⟩:∃W1,wr.setCell ⟨C,k,none⟩ (.int .i64 (-1))=W1:=⟨_,rfl⟩;rw[hW1]at HP ENM ELM OPM BEM LEM;rw[hW1]at HRS;clear hO hOf hs htp;exact NM
     have htp:top (stk (opF xs) k)=(t:Int):=jk;have hl1:(stk (opF xs) k).length=(stk (opF xs) t).length+1:=jk
     have hop:opn (opF xs) k=opn (opF xs) t++[(t:Int)]:=by rw[rX hs]; rfl
     have htn:t<n:=ae;obtain⟨-,hoc⟩:=hst.op.cell;rw[hl1]at hoc;obtain⟨Ob,rfl,hocell⟩:=hoc.resolve_left ae
     have o1:wr.cell? ⟨Ob,(stk (opF xs) t).length,none⟩=some (.int .i64 t):=by
      rw[hocell _ ae,hop];simp[List.getD_eq_getElem?_getD,lO]
     rw[htp]at HP ENM ELM OPM BEM LEM;rw[hl1]at OPM HT ⊢;rw[hl1]at hlen;clear hst P enM elM opM belM leM hoc hocell
     by_cases hO:isO c=true
     ·by_cases hd:(stk (opF xs) k).length=32
      ·have her:er (opF xs) k=35:=by unfold er; rw[hcO,if_pos hO,if_pos hd]
       have hres:res (opF xs) n 0=(35,(k:Int)):=qP;have HR:=hid hres;have hd2:(stk (opF xs) t).length=31:=ae;rw[hd2]at o1 OPM ⊢;rw[dR]at hO;obtain⟨W1,hW1⟩:∃W1,wr.setCell ⟨C,k,none⟩ (.int .i64 (t:Int))=W1:=⟨_,rfl⟩;rw[hW1]at HP ENM ELM OPM BEM LEM;clear hres her hd hl1 hs htp hop hd2
       rcases hO with rfl | rfl | rfl
       all_goals
        go_wp2_with (first
         | (go_at_call 57; refine(i7 _ _ ae ae).mono ?_; rintro e w5⟨rfl,hw5⟩; have hw6:=hw5.symm; subst hw6))
        (try simp only[Exit.inBlock,Exit.then])
        exact Oh
      have ho5:=je hO
      have hO':isO (opF xs k)=true:=by rw[hcO]; exact hO
      have her:er (opF xs) k=0:=Em;have hb6:¬(opF xs k=6/\stk (opF xs) k=[]):=fun x=>ho5.2 (hcO.symm.trans x.1);have HER:=hid her;have HB6:=hid hb6;have HO':=hid hO';rw[dR]at hO;obtain⟨W1,hW1⟩:∃W1,wr.setCell ⟨C,k,none⟩ (.int .i64 (t:Int))=W1:=⟨_,rfl⟩;rw[hW1]at HP ENM ELM OPM BEM LEM;have hbt:=(Below.refl W1.heap.size W1).alloc lRn (bM (k:Int));have HOP2:=hid (OPM.out.later hbt lRn)
      have hle2:w.heap.size<=(W1.alloc (bM (k:Int))).heap.size:=by have:=LEM.out; simp; omega
      have hol:(opn (opF xs) k).length<=1073741824:=by rw[lO]; omega
      have hnl:(stk (opF xs) t).length<31:=ae;clear hd hl1 hs htp hop;generalize (stk (opF xs) t).length=dt at *;exact Oy
     have hOf:isO (opF xs k)=false:=yg;have hOc:isO c=false:=uZ;obtain⟨no2,no3,no4⟩:=ry hOc
     by_cases h5:c=5
     ·have hO5:opF xs k=5:=hcO.trans h5
      have hct:(wr.setCell ⟨C,k,none⟩ (.int .i64 (t:Int))).cell? ⟨b,off+t*3,none⟩=some (.int .u8 (opF xs t)):=(BEM.out.cell (by exact hbl)).trans (HC.out.op htn);have het:=ELM.out.cell t htn;have hft:=ELM.out.free t;have hrt:=HC.out.range htn
      have her37:¬(opF xs t=4/\elF (opF xs) k t=-1)->res (opF xs) n 0=(37,(k:Int)):=fun hx=>by
       exact Mu
      have tb:¬(t:Int)<0:=ae;have hel0:=pM (O:=opF xs) k t;obtain⟨W1,hW1⟩:∃W1,wr.setCell ⟨C,k,none⟩ (.int .i64 (t:Int))=W1:=⟨_,rfl⟩;rw[hW1]at HP ENM ELM OPM BEM LEM;rw[hW1]at hct het hft;have hdl:(stk (opF xs) t).length<=32:=ae
      by_cases h4:opF xs t=4
      ·by_cases hel:elF (opF xs) k t=-1
       ·have HRS:=hid (KI HT.out hlt hO5 hs h4 hel hAB hBC gB ENM.out ELM.out HP.out.1 BEM.out LEM.out OPM.out);rw[h4]at hct;rw[hel]at het;subst h5;clear her37 hel h4 hs htp hl1 hop hO hOf hel0;exact Dw
       have HR:=hid (her37 (fun x=>hel x.2));have hge:0<=elF (opF xs) k t:=ae;rw[h4]at hct;subst h5;clear her37 hel h4 hs htp hl1 hop hO hOf;exact Lz
      have HR:=hid (her37 (fun x=>h4 x.1));have h4b:(opF xs t==4)=false:=mP;have h4c:(opF xs t != 4)=true:=mP;subst h5;clear her37 h4 hs htp hl1 hop hO hOf;generalize opF xs t=ct at *;exact Lz
     by_cases h6:c=6
     ·have hO6:opF xs k=6:=hcO.trans h6;have hiv:=N0 HT.out.ok;have het:=ELM.out.cell t htn;have hat:=ENM.out.cell t htn;have haf:=ENM.out.free t;have hdl:(stk (opF xs) t).length<=31:=ae;obtain⟨W1,hW1⟩:∃W1,wr.setCell ⟨C,k,none⟩ (.int .i64 (t:Int))=W1:=⟨_,rfl⟩;rw[hW1]at HP ENM ELM OPM BEM LEM;rw[hW1]at het hat haf;have tb:¬(t:Int)<0:=ae;have tb2:(0:Int)<=(t:Int):=ae
      have hcapo:(stk (opF xs) t).length+1<=oc:=by
       have h1:=HT.out.op.2
       rcases h1 with ⟨h1,_⟩ | ⟨g,cp,cur,h1,_,_,h4,_⟩
       ·cases h1
       injection h1 with _ _ h3; rw[lO]at h4; omega
      rcases hiv.els t with hel | ⟨j,hel,q2,q3,q4,q5,_⟩
      ·have P1:=ENM.out.put (g:=enF (opF xs) (k+1)) t k (fun i hi=>by
        rw[qV hO6 hs,hel];have:¬(i:Int)=-1:=ae
        simp[this])
       have HRS:=hid (Ee HT.out hlt hO6 hs hAB hAC gA ELM.out HP.out.1 BEM.out LEM.out OPM.out P1.1 P1.2);have P2:=(ELM.out.kept P1.2 (fun x=>hAB x.symm)).cell t htn;rw[hel]at P2 het;subst h6;clear hiv hel hs htp hl1 hop hO hOf P1;exact Dw
      have P1:=ENM.out.put (g:=fun i=>if i=t then (k:Int) else enF (opF xs) k i) t k (fun i hi=>rfl)
      have P2:=P1.1.put (g:=enF (opF xs) (k+1)) j k (fun i hi=>by
       rw[qV hO6 hs,hel]
       by_cases e:i=j
       ·subst e; simp
       have:¬(i:Int)=(j:Int):=ae
       simp[e,this])
      have HRS:=hid (Ee HT.out hlt hO6 hs hAB hAC gA ELM.out HP.out.1 BEM.out LEM.out OPM.out P2.1 (P1.2.trans P2.2));have hj:j<n:=ae;have P3:=(ELM.out.kept P1.2 (fun x=>hAB x.symm)).cell t htn;have P4:=P1.1.cell j hj;have P5:=P1.1.free j;rw[hel]at P3 het;subst h6;clear hiv hel hs htp hl1 hop hO hOf P1 P2;exact Dw
     have HRS:=hid (uA HT.out hlt hOf xo wN ENM.out ELM.out HP.out.1 BEM.out LEM.out OPM.out);have b5:(c==5)=false:=sy;have b6:(c==6)=false:=pz;obtain⟨W1,hW1⟩:∃W1,wr.setCell ⟨C,k,none⟩ (.int .i64 (t:Int))=W1:=⟨_,rfl⟩;rw[hW1]at HP ENM ELM OPM BEM LEM;rw[hW1]at HRS;clear hO hOf hs htp hl1 hop;generalize (stk (opF xs) t).length=dt at *;exact NM
    obtain rfl:n=k:=ae
    have hres:res (opF xs) n 0=(38,(n:Int)):=by rw[<- hst.rest,Nat.sub_self]; rfl
    have HR:=hid hres;have HB:=hid hst.bel;clear hres hst;exact KL
   have HB:=hid bel
   by_cases hlt:k<n
   ·have HR:=hid (hres.trans (if_neg ae));clear hres fA fB fC bel;exact KL
   obtain rfl:n=k:=ae;have HR:=hid (hres.trans (if_pos rfl));have FA:=hid fA;have FB:=hid fB;have FC:=hid fC;clear hres fA fB fC bel;go_wp2_with fail
   (try simp only[Exit.inBlock,Exit.then])
   refine bodyPost_ret (ey rfl _ _ _) rfl ?_;exact⟨_,_,_,_,_,_,_,_,_,sK,.inr ⟨HR.out,FA.out.li gA,FB.out.li gB,FC.out.li gC⟩,HB.out⟩
theorem A6(a:OAz)(cap:Nat)(w:World) :
  Calls prog 53 #[.slice a 0 cap] w fun e w'=>e=.returned (.tuple #[bi,bi,bi,.int .i64 38,.int .i64 0])/\w'=w:=by
 go_enter func53,ntmps53
 go_wp2_with fail;refine wp_loop_rounds 1 ?_;rw[rounds_succ];go_wp2_with fail;refine wp_loop_rounds 1 ?_;rw[rounds_succ];go_wp2_with fail
 (try simp only[Exit.inBlock,Exit.then])
 refine bodyPost_ret (ey rfl _ _ _) rfl ?_;exact⟨rfl,rfl⟩
theorem Sv(a:OAz)(n cap:Nat)(xs:List Inx)(w:World)(hn:n<=1048576)(hcap:n<=cap)(hc:ui w a n xs) :
  Calls prog 53 #[.slice a n cap] w fun e w'=>∃a1 a2 a3 n1 n2 n3 c1 c2 c3,e=.returned (.tuple #[.slice a1 n1 c1,.slice a2 n2 c2,.slice a3 n3 c3,.int .i64 (res (opF xs) n 0).1,.int .i64 (res (opF xs) n 0).2]) /\
   qD (opF xs) n w.heap.size w' (.slice a1 n1 c1) (.slice a2 n2 c2) (.slice a3 n3 c3)/\Below w.heap.size w w':=by
 by_cases h0:n=0
 ·subst h0
  refine(A6 a cap w).mono fun e w' ⟨he,hw⟩=>⟨none,none,none,0,0,0,0,0,0,he,.inl ⟨by simp[res],rfl,rfl,rfl⟩,by rw[hw]; exact Below.refl _ _⟩
 rcases hc.2 with h | ⟨b,off,rfl,hcd⟩
 ·exact absurd h h0
 exact I7 b off n cap xs w hn ae hcap hcd
abbrev eK(g:Wg)(pc:Nat):Value:=.agg #[.int .u8 (opF g.xs pc),.int .i64 (g.xs.getD pc dx).a,.slice (g.xs.getD pc dx).la (g.xs.getD pc dx).ln (g.xs.getD pc dx).lc]
def dw(g:Wg)(w:World)(pc:Nat)(ab pops pushes:BAz)(er:Int):Prop :=
 ∀W,Below w.heap.size w W->Calls prog 55 #[.pointer (some ⟨g.WB,0,none⟩),.int .i64 pc,eK g pc,.string ab] W fun e w'=>e=.returned (.tuple #[.string pops,.string pushes,.int .i64 er])/\Below W.heap.size W w'
def gw(g:Wg)(w:World)(o:Int)(S0:BAz):Prop :=
 ∀W,Below w.heap.size w W->Calls prog 31 #[.pointer (some ⟨g.WB,0,none⟩),.int .i64 o] W fun e w'=>e=.returned (.string S0)/\Below W.heap.size W w'
variable {FB fc SB sc:Nat}{sh:List ByteArray}{s S0 pops pushes:BAz}
theorem IJ(g:Wg)(w:World)(h:Wf g w){fl:NIz}(hs:Ws g FB fc SB sc fl sh w){pc:Nat}(hp:pc<g.cn)(hc5:opF g.xs pc≠5)(hc6:opF g.xs pc≠6)
   {er:Int} (hsh:sh[pc]? =some s) (hss:s.size<=1000000) (HBs:gw g w (g.ow pc) S0) (hS0:S0.size<=s.size) (HE:dw g w pc (s.extract S0.size s.size) pops pushes er) (her:er≠0) :
  Calls prog 33 #[.pointer (some ⟨g.WB,0,none⟩),.int .i64 pc] w fun e w'=>e=.returned (.tuple #[.string ⟨#[]⟩,.int .i64 er])/\Below w.heap.size w w':=by
 have g9:=h.c9;have x0:=h.cod.op hp;have x1:=h.cod.num hp;have x2:=h.cod.lab hp;have hcn:=h.cn;have hp':(pc:Int)<(g.cn:Int):=ae;have hrg:=h.cod.range hp;have g13:=h.c13;have o0:=h.ow pc hp;have g15:=hs.c15;have s0:=hs.shc pc s hsh;have hpl:=az hsh;have hle:=hs.le;have HBs:=hid HBs;have HE:=hid HE;unfold dw eK at HE;unfold gw at HBs;generalize opF g.xs pc=c at *;generalize (g.xs.getD pc dx).a=a at *;generalize (g.xs.getD pc dx).la=la at *;generalize (g.xs.getD pc dx).ln=ln at *;generalize (g.xs.getD pc dx).lc=lc at *;generalize g.ow pc=o at *;generalize sh.length=sl at *;have hpl':(pc:Int)<(sl:Int):=ae;have hb5:(c==5)=false:=pC;have hb6:(c==6)=false:=pJ;have hS0':(S0.size:Int)<=(s.size:Int):=ae;have B1:=aj w (aV c a la ln lc);have k1:=hZn w (aV c a la ln lc);have g9':=ag B1 g9;have g13':=ag B1 g13;have o0':=ag B1 o0;have g15':=ag B1 g15;have s0':=ag B1 s0;have HB1:=hid (And.intro B1 k1);clear B1 k1 h hs hsh hc5 hc6;go_enter func33,ntmps33
 go_wp2_with fail;refine(HBs.out _ HB1.out.1).mono ?_;rintro e w2⟨rfl,hb⟩;have HB2:=hid (HB1.out.1.trans (hb.mono HB1.out.1.size));have k2:=ak hb HB1.out.2;have y0:=iz0 k2;have y1:=iz1 k2;have y2:=iz2 k2;have HK2:=hid k2;clear hb k2 g9 x0 x1 x2 g13 o0 g15 s0 g9' g13' o0' g15' s0';go_wp2_with fail;refine(HE.out _ HB2.out).mono ?_;rintro e w3⟨rfl,hb⟩;have HB3:=hid (HB2.out.trans (hb.mono HB2.out.size));have k3:=ak hb HK2.out;have z0:=iz0 k3;clear hb k3 y0 y1 y2 HK2
 have her':(er==0)=false:=by simpa using her
 go_wp2_with fail;refine bodyPost_ret (v:=.tuple #[.string ⟨#[]⟩,.int .i64 er]) i6 rfl ⟨rfl,?_⟩;exact HB3.out
theorem C7(g:Wg)(w:World)(h:Wf g w){fl:NIz}(hs:Ws g FB fc SB sc fl sh w){pc:Nat}(hp:pc<g.cn)(hc5:opF g.xs pc≠5)(hc6:opF g.xs pc≠6)
   {er:Int} (hsh:sh[pc]? =some s) (hss:s.size<=1000000) (HBs:gw g w (g.ow pc) S0) (hS0:S0.size<=s.size) (HE:dw g w pc (s.extract S0.size s.size) pops pushes er) (her:er=0) (hen:ends (s.extract S0.size s.size) pops=false) :
  Calls prog 33 #[.pointer (some ⟨g.WB,0,none⟩),.int .i64 pc] w fun e w'=>e=.returned (.tuple #[.string ⟨#[]⟩,.int .i64 33])/\Below w.heap.size w w':=by
 have g9:=h.c9;have x0:=h.cod.op hp;have x1:=h.cod.num hp;have x2:=h.cod.lab hp;have hcn:=h.cn;have hp':(pc:Int)<(g.cn:Int):=ae;have hrg:=h.cod.range hp;have g13:=h.c13;have o0:=h.ow pc hp;have g15:=hs.c15;have s0:=hs.shc pc s hsh;have hpl:=az hsh;have hle:=hs.le;have HBs:=hid HBs;have HE:=hid HE;unfold dw eK at HE;unfold gw at HBs;generalize opF g.xs pc=c at *;generalize (g.xs.getD pc dx).a=a at *;generalize (g.xs.getD pc dx).la=la at *;generalize (g.xs.getD pc dx).ln=ln at *;generalize (g.xs.getD pc dx).lc=lc at *;generalize g.ow pc=o at *;generalize sh.length=sl at *;have hpl':(pc:Int)<(sl:Int):=ae;have hb5:(c==5)=false:=pC;have hb6:(c==6)=false:=pJ;have hS0':(S0.size:Int)<=(s.size:Int):=ae;have B1:=aj w (aV c a la ln lc);have k1:=hZn w (aV c a la ln lc);have g9':=ag B1 g9;have g13':=ag B1 g13;have o0':=ag B1 o0;have g15':=ag B1 g15;have s0':=ag B1 s0;have HB1:=hid (And.intro B1 k1);clear B1 k1 h hs hsh hc5 hc6;go_enter func33,ntmps33
 go_wp2_with fail;refine(HBs.out _ HB1.out.1).mono ?_;rintro e w2⟨rfl,hb⟩;have HB2:=hid (HB1.out.1.trans (hb.mono HB1.out.1.size));have k2:=ak hb HB1.out.2;have y0:=iz0 k2;have y1:=iz1 k2;have y2:=iz2 k2;have HK2:=hid k2;clear hb k2 g9 x0 x1 x2 g13 o0 g15 s0 g9' g13' o0' g15' s0';go_wp2_with fail;refine(HE.out _ HB2.out).mono ?_;rintro e w3⟨rfl,hb⟩;have HB3:=hid (HB2.out.trans (hb.mono HB2.out.size));have k3:=ak hb HK2.out;have z0:=iz0 k3;clear hb k3 y0 y1 y2 HK2;subst her;have hxs:(s.extract S0.size s.size).size<=9223372036854775807:=ij;have HF:=hid (sF (s.extract S0.size s.size) pops w3 hxs);rw[hen]at HF;clear hen hxs;go_wp2_with fail;refine HF.out.mono ?_;rintro e w4⟨rfl,rfl⟩;go_wp2_with fail;refine bodyPost_ret (v:=.tuple #[.string ⟨#[]⟩,.int .i64 33]) i6 rfl ⟨rfl,?_⟩;exact HB3.out
variable {t:BAz}
theorem JI(h:ends s t=true):t.size<=s.size:=by
 unfold ends at h;rw[Bool.and_eq_true]at h;exact of_decide_eq_true h.1
theorem zi(g:Wg)(w:World)(h:Wf g w){fl:NIz}(hs:Ws g FB fc SB sc fl sh w){pc:Nat}(hp:pc<g.cn)(hc5:opF g.xs pc≠5)(hc6:opF g.xs pc≠6)
   {er:Int} (hsh:sh[pc]? =some s) (hss:s.size<=1000000) (HBs:gw g w (g.ow pc) S0) (hS0:S0.size<=s.size) (HE:dw g w pc (s.extract S0.size s.size) pops pushes er) (her:er=0) (hen:ends (s.extract S0.size s.size) pops=true) (hop:isO (opF g.xs pc)=false) (hpu:pushes.size<=1000000) (hh:256<s.size-pops.size+pushes.size) :
  Calls prog 33 #[.pointer (some ⟨g.WB,0,none⟩),.int .i64 pc] w fun e w'=>e=.returned (.tuple #[.string ⟨#[]⟩,.int .i64 34])/\Below w.heap.size w w':=by
 have g9:=h.c9;have x0:=h.cod.op hp;have x1:=h.cod.num hp;have x2:=h.cod.lab hp;have hcn:=h.cn;have hp':(pc:Int)<(g.cn:Int):=ae;have hrg:=h.cod.range hp;have g13:=h.c13;have o0:=h.ow pc hp;have g15:=hs.c15;have s0:=hs.shc pc s hsh;have hpl:=az hsh;have hle:=hs.le;have HBs:=hid HBs;have HE:=hid HE;unfold dw eK at HE;unfold gw at HBs;have hrg0:=hrg.1;have hrg1:=hrg.2;generalize opF g.xs pc=c at *;generalize (g.xs.getD pc dx).a=a at *;generalize (g.xs.getD pc dx).la=la at *;generalize (g.xs.getD pc dx).ln=ln at *;generalize (g.xs.getD pc dx).lc=lc at *;generalize g.ow pc=o at *;generalize sh.length=sl at *;have hpl':(pc:Int)<(sl:Int):=ae;have hb5:(c==5)=false:=pC;have hb6:(c==6)=false:=pJ;have hS0':(S0.size:Int)<=(s.size:Int):=ae;have B1:=aj w (aV c a la ln lc);have k1:=hZn w (aV c a la ln lc);have g9':=ag B1 g9;have g13':=ag B1 g13;have o0':=ag B1 o0;have g15':=ag B1 g15;have s0':=ag B1 s0;have HB1:=hid (And.intro B1 k1);clear B1 k1 h hs hsh hc5 hc6;go_enter func33,ntmps33
 go_wp2_with fail;refine(HBs.out _ HB1.out.1).mono ?_;rintro e w2⟨rfl,hb⟩;have HB2:=hid (HB1.out.1.trans (hb.mono HB1.out.1.size));have k2:=ak hb HB1.out.2;have y0:=iz0 k2;have y1:=iz1 k2;have y2:=iz2 k2;have HK2:=hid k2;clear hb k2 g9 x0 x1 x2 g13 o0 g15 s0 g9' g13' o0' g15' s0';go_wp2_with fail;refine(HE.out _ HB2.out).mono ?_;rintro e w3⟨rfl,hb⟩;have HB3:=hid (HB2.out.trans (hb.mono HB2.out.size));have k3:=ak hb HK2.out;have z0:=iz0 k3;clear hb k3 y0 y1 y2 HK2;subst her;have hxs:(s.extract S0.size s.size).size<=9223372036854775807:=ij;have HF:=hid (sF (s.extract S0.size s.size) pops w3 hxs);have hps:pops.size<=s.size:=xW;rw[hen]at HF;have hlf:(s.extract 0 (s.size-pops.size)).size=s.size-pops.size:=ij;have hw1:((s.size:Int)-(pops.size:Int)+9223372036854775808)%18446744073709551616-9223372036854775808=((s.size-pops.size:Nat):Int):=ae;have hw2:((s.size-pops.size:Nat):Int)<=(s.size:Int):=ae;have HO:=hid (i7 c w3 hrg0 hrg1);rw[hop]at HO;clear hen hxs hrg hop;go_wp2_with fail;refine HF.out.mono ?_;rintro e w4⟨rfl,rfl⟩;go_wp2_with fail;refine HO.out.mono ?_;rintro e w5⟨rfl,rfl⟩;generalize hN:s.size-pops.size=N at *;generalize hL:s.extract 0 N=Lf at *;subst hlf;have HN:=hid hN;have HL:=hid hL;obtain⟨T,hT⟩:∃T:Nat,T=Lf.size+pushes.size:=⟨_,rfl⟩;have hv1:IntKind.i64.wrap ((Lf.size:Int)+(pushes.size:Int))=(T:Int):=mF;have hv2:((256:Int)<(T:Int)):=ae;have hv3:¬(9223372036854775807<Lf.size+pushes.size):=ae;clear hw1 hw2 hT hh hps hS0 hS0' hss hpu hN hL;go_wp2_with fail;refine bodyPost_ret (v:=.tuple #[.string ⟨#[]⟩,.int .i64 34]) i6 rfl ⟨rfl,?_⟩;exact HB3.out
theorem I2(g:Wg)(w:World)(h:Wf g w){fl:NIz}(hs:Ws g FB fc SB sc fl sh w){pc:Nat}(hp:pc<g.cn)(hc5:opF g.xs pc≠5)(hc6:opF g.xs pc≠6)
   {er:Int} (hsh:sh[pc]? =some s) (hss:s.size<=1000000) (HBs:gw g w (g.ow pc) S0) (hS0:S0.size<=s.size) (HE:dw g w pc (s.extract S0.size s.size) pops pushes er) (her:er=0) (hen:ends (s.extract S0.size s.size) pops=true) (hop:isO (opF g.xs pc)=false) (hpu:pushes.size<=1000000) (hh:¬256<s.size-pops.size+pushes.size) :
  Calls prog 33 #[.pointer (some ⟨g.WB,0,none⟩),.int .i64 pc] w fun e w'=>e=.returned (.tuple #[.string ((s.extract 0 (s.size-pops.size))++pushes),.int .i64 0])/\Below w.heap.size w w':=by
 have g9:=h.c9;have x0:=h.cod.op hp;have x1:=h.cod.num hp;have x2:=h.cod.lab hp;have hcn:=h.cn;have hp':(pc:Int)<(g.cn:Int):=ae;have hrg:=h.cod.range hp;have g13:=h.c13;have o0:=h.ow pc hp;have g15:=hs.c15;have s0:=hs.shc pc s hsh;have hpl:=az hsh;have hle:=hs.le;have HBs:=hid HBs;have HE:=hid HE;unfold dw eK at HE;unfold gw at HBs;have hrg0:=hrg.1;have hrg1:=hrg.2;generalize opF g.xs pc=c at *;generalize (g.xs.getD pc dx).a=a at *;generalize (g.xs.getD pc dx).la=la at *;generalize (g.xs.getD pc dx).ln=ln at *;generalize (g.xs.getD pc dx).lc=lc at *;generalize g.ow pc=o at *;generalize sh.length=sl at *;have hpl':(pc:Int)<(sl:Int):=ae;have hb5:(c==5)=false:=pC;have hb6:(c==6)=false:=pJ;have hS0':(S0.size:Int)<=(s.size:Int):=ae;have B1:=aj w (aV c a la ln lc);have k1:=hZn w (aV c a la ln lc);have g9':=ag B1 g9;have g13':=ag B1 g13;have o0':=ag B1 o0;have g15':=ag B1 g15;have s0':=ag B1 s0;have HB1:=hid (And.intro B1 k1);clear B1 k1 h hs hsh hc5 hc6;go_enter func33,ntmps33
 go_wp2_with fail;refine(HBs.out _ HB1.out.1).mono ?_;rintro e w2⟨rfl,hb⟩;have HB2:=hid (HB1.out.1.trans (hb.mono HB1.out.1.size));have k2:=ak hb HB1.out.2;have y0:=iz0 k2;have y1:=iz1 k2;have y2:=iz2 k2;have HK2:=hid k2;clear hb k2 g9 x0 x1 x2 g13 o0 g15 s0 g9' g13' o0' g15' s0';go_wp2_with fail;refine(HE.out _ HB2.out).mono ?_;rintro e w3⟨rfl,hb⟩;have HB3:=hid (HB2.out.trans (hb.mono HB2.out.size));have k3:=ak hb HK2.out;have z0:=iz0 k3;clear hb k3 y0 y1 y2 HK2;subst her;have hxs:(s.extract S0.size s.size).size<=9223372036854775807:=ij;have HF:=hid (sF (s.extract S0.size s.size) pops w3 hxs);have hps:pops.size<=s.size:=xW;rw[hen]at HF;have hlf:(s.extract 0 (s.size-pops.size)).size=s.size-pops.size:=ij;have hw1:((s.size:Int)-(pops.size:Int)+9223372036854775808)%18446744073709551616-9223372036854775808=((s.size-pops.size:Nat):Int):=ae;have hw2:((s.size-pops.size:Nat):Int)<=(s.size:Int):=ae;have HO:=hid (i7 c w3 hrg0 hrg1);rw[hop]at HO;clear hen hxs hrg hop;go_wp2_with fail;refine HF.out.mono ?_;rintro e w4⟨rfl,rfl⟩;go_wp2_with fail;refine HO.out.mono ?_;rintro e w5⟨rfl,rfl⟩;generalize hN:s.size-pops.size=N at *;generalize hL:s.extract 0 N=Lf at *;subst hlf;have HN:=hid hN;have HL:=hid hL;obtain⟨T,hT⟩:∃T:Nat,T=Lf.size+pushes.size:=⟨_,rfl⟩;have hv1:IntKind.i64.wrap ((Lf.size:Int)+(pushes.size:Int))=(T:Int):=mF;have hv2:¬((256:Int)<(T:Int)):=ae;have hv3:¬(9223372036854775807<Lf.size+pushes.size):=ae;clear hw1 hw2 hT hh hps hS0 hS0' hss hpu hN hL;go_wp2_with fail
 refine bodyPost_ret (v:=.tuple #[.string (Lf++pushes),.int .i64 0]) i6 rfl ⟨by rw[HN.out,HL.out],?_⟩;exact HB3.out
theorem Ao(g:Wg)(w:World)(h:Wf g w){fl:NIz}(hs:Ws g FB fc SB sc fl sh w){pc:Nat}(hp:pc<g.cn)(hc5:opF g.xs pc≠5)(hc6:opF g.xs pc≠6)
   {er:Int} (hsh:sh[pc]? =some s) (hss:s.size<=1000000) (HBs:gw g w (g.ow pc) S0) (hS0:S0.size<=s.size) (HE:dw g w pc (s.extract S0.size s.size) pops pushes er) (her:er=0) (hen:ends (s.extract S0.size s.size) pops=true) (hop:isO (opF g.xs pc)=true) (hpu:pushes.size<=1000000) (hh:256<s.size-pops.size+pushes.size) (hfr:w.frozen? ⟨FB,pc,none⟩=false) :
  Calls prog 33 #[.pointer (some ⟨g.WB,0,none⟩),.int .i64 pc] w fun e w'=>e=.returned (.tuple #[.string ⟨#[]⟩,.int .i64 34])/\∃W,Below w.heap.size w W/\w'=W.setCell ⟨FB,pc,none⟩ (.int .i64 ((s.size-pops.size:Nat):Int)):=by
 have g9:=h.c9;have x0:=h.cod.op hp;have x1:=h.cod.num hp;have x2:=h.cod.lab hp;have hcn:=h.cn;have hp':(pc:Int)<(g.cn:Int):=ae;have hrg:=h.cod.range hp;have g13:=h.c13;have o0:=h.ow pc hp;have g15:=hs.c15;have s0:=hs.shc pc s hsh;have hpl:=az hsh;have hle:=hs.le;have HBs:=hid HBs;have HE:=hid HE;unfold dw eK at HE;unfold gw at HBs;have hrg0:=hrg.1;have hrg1:=hrg.2;have F14:=hid hs.c14;have FL:=hid (hs.flc pc hp);have HFR:=hid hfr;clear hfr;generalize opF g.xs pc=c at *;generalize (g.xs.getD pc dx).a=a at *;generalize (g.xs.getD pc dx).la=la at *;generalize (g.xs.getD pc dx).ln=ln at *;generalize (g.xs.getD pc dx).lc=lc at *;generalize g.ow pc=o at *;generalize sh.length=sl at *;have hpl':(pc:Int)<(sl:Int):=ae;have hb5:(c==5)=false:=pC;have hb6:(c==6)=false:=pJ;have hS0':(S0.size:Int)<=(s.size:Int):=ae;have B1:=aj w (aV c a la ln lc);have k1:=hZn w (aV c a la ln lc);have g9':=ag B1 g9;have g13':=ag B1 g13;have o0':=ag B1 o0;have g15':=ag B1 g15;have s0':=ag B1 s0;have HB1:=hid (And.intro B1 k1);clear B1 k1 h hs hsh hc5 hc6;go_enter func33,ntmps33
 go_wp2_with fail;refine(HBs.out _ HB1.out.1).mono ?_;rintro e w2⟨rfl,hb⟩;have HB2:=hid (HB1.out.1.trans (hb.mono HB1.out.1.size));have k2:=ak hb HB1.out.2;have y0:=iz0 k2;have y1:=iz1 k2;have y2:=iz2 k2;have HK2:=hid k2;clear hb k2 g9 x0 x1 x2 g13 o0 g15 s0 g9' g13' o0' g15' s0';go_wp2_with fail;refine(HE.out _ HB2.out).mono ?_;rintro e w3⟨rfl,hb⟩;have HB3:=hid (HB2.out.trans (hb.mono HB2.out.size));have k3:=ak hb HK2.out;have z0:=iz0 k3;clear hb k3 y0 y1 y2 HK2;subst her;have hxs:(s.extract S0.size s.size).size<=9223372036854775807:=ij;have HF:=hid (sF (s.extract S0.size s.size) pops w3 hxs);have hps:pops.size<=s.size:=xW;rw[hen]at HF;have hlf:(s.extract 0 (s.size-pops.size)).size=s.size-pops.size:=ij;have hw1:((s.size:Int)-(pops.size:Int)+9223372036854775808)%18446744073709551616-9223372036854775808=((s.size-pops.size:Nat):Int):=ae;have hw2:((s.size-pops.size:Nat):Int)<=(s.size:Int):=ae;have HO:=hid (i7 c w3 hrg0 hrg1);rw[hop]at HO;clear hen hxs hrg hop;have g14:=ag HB3.out F14.out;have gf:=ag HB3.out FL.out;have gz:=aH HB3.out FL.out HFR.out;go_wp2_with fail;refine HF.out.mono ?_;rintro e w4⟨rfl,rfl⟩;go_wp2_with fail;refine HO.out.mono ?_;rintro e w5⟨rfl,rfl⟩;generalize hN:s.size-pops.size=N at *;generalize hL:s.extract 0 N=Lf at *;subst hlf;have HN:=hid hN;have HL:=hid hL;obtain⟨T,hT⟩:∃T:Nat,T=Lf.size+pushes.size:=⟨_,rfl⟩;have hv1:IntKind.i64.wrap ((Lf.size:Int)+(pushes.size:Int))=(T:Int):=mF;have hv2:((256:Int)<(T:Int)):=ae;have hv3:¬(9223372036854775807<Lf.size+pushes.size):=ae;clear hw1 hw2 hT hh hps hS0 hS0' hss hpu hN hL;go_wp2_with fail;refine bodyPost_ret (v:=.tuple #[.string ⟨#[]⟩,.int .i64 34]) i6 rfl ⟨rfl,?_⟩
 exact⟨_,HB3.out,by rw[HN.out]⟩
theorem Jt(g:Wg)(w:World)(h:Wf g w){fl:NIz}(hs:Ws g FB fc SB sc fl sh w){pc:Nat}(hp:pc<g.cn)(hc5:opF g.xs pc≠5)(hc6:opF g.xs pc≠6)
   {er:Int} (hsh:sh[pc]? =some s) (hss:s.size<=1000000) (HBs:gw g w (g.ow pc) S0) (hS0:S0.size<=s.size) (HE:dw g w pc (s.extract S0.size s.size) pops pushes er) (her:er=0) (hen:ends (s.extract S0.size s.size) pops=true) (hop:isO (opF g.xs pc)=true) (hpu:pushes.size<=1000000) (hh:¬256<s.size-pops.size+pushes.size) (hfr:w.frozen? ⟨FB,pc,none⟩=false) :
  Calls prog 33 #[.pointer (some ⟨g.WB,0,none⟩),.int .i64 pc] w fun e w'=>e=.returned (.tuple #[.string ((s.extract 0 (s.size-pops.size))++pushes),.int .i64 0])/\∃W,Below w.heap.size w W/\w'=W.setCell ⟨FB,pc,none⟩ (.int .i64 ((s.size-pops.size:Nat):Int)):=by
 have g9:=h.c9;have x0:=h.cod.op hp;have x1:=h.cod.num hp;have x2:=h.cod.lab hp;have hcn:=h.cn;have hp':(pc:Int)<(g.cn:Int):=ae;have hrg:=h.cod.range hp;have g13:=h.c13;have o0:=h.ow pc hp;have g15:=hs.c15;have s0:=hs.shc pc s hsh;have hpl:=az hsh;have hle:=hs.le;have HBs:=hid HBs;have HE:=hid HE;unfold dw eK at HE;unfold gw at HBs;have hrg0:=hrg.1;have hrg1:=hrg.2;have F14:=hid hs.c14;have FL:=hid (hs.flc pc hp);have HFR:=hid hfr;clear hfr;generalize opF g.xs pc=c at *;generalize (g.xs.getD pc dx).a=a at *;generalize (g.xs.getD pc dx).la=la at *;generalize (g.xs.getD pc dx).ln=ln at *;generalize (g.xs.getD pc dx).lc=lc at *;generalize g.ow pc=o at *;generalize sh.length=sl at *;have hpl':(pc:Int)<(sl:Int):=ae;have hb5:(c==5)=false:=pC;have hb6:(c==6)=false:=pJ;have hS0':(S0.size:Int)<=(s.size:Int):=ae;have B1:=aj w (aV c a la ln lc);have k1:=hZn w (aV c a la ln lc);have g9':=ag B1 g9;have g13':=ag B1 g13;have o0':=ag B1 o0;have g15':=ag B1 g15;have s0':=ag B1 s0;have HB1:=hid (And.intro B1 k1);clear B1 k1 h hs hsh hc5 hc6;go_enter func33,ntmps33
 go_wp2_with fail;refine(HBs.out _ HB1.out.1).mono ?_;rintro e w2⟨rfl,hb⟩;have HB2:=hid (HB1.out.1.trans (hb.mono HB1.out.1.size));have k2:=ak hb HB1.out.2;have y0:=iz0 k2;have y1:=iz1 k2;have y2:=iz2 k2;have HK2:=hid k2;clear hb k2 g9 x0 x1 x2 g13 o0 g15 s0 g9' g13' o0' g15' s0';go_wp2_with fail;refine(HE.out _ HB2.out).mono ?_;rintro e w3⟨rfl,hb⟩;have HB3:=hid (HB2.out.trans (hb.mono HB2.out.size));have k3:=ak hb HK2.out;have z0:=iz0 k3;clear hb k3 y0 y1 y2 HK2;subst her;have hxs:(s.extract S0.size s.size).size<=9223372036854775807:=ij;have HF:=hid (sF (s.extract S0.size s.size) pops w3 hxs);have hps:pops.size<=s.size:=xW;rw[hen]at HF;have hlf:(s.extract 0 (s.size-pops.size)).size=s.size-pops.size:=ij;have hw1:((s.size:Int)-(pops.size:Int)+9223372036854775808)%18446744073709551616-9223372036854775808=((s.size-pops.size:Nat):Int):=ae;have hw2:((s.size-pops.size:Nat):Int)<=(s.size:Int):=ae;have HO:=hid (i7 c w3 hrg0 hrg1);rw[hop]at HO;clear hen hxs hrg hop;have g14:=ag HB3.out F14.out;have gf:=ag HB3.out FL.out;have gz:=aH HB3.out FL.out HFR.out;go_wp2_with fail;refine HF.out.mono ?_;rintro e w4⟨rfl,rfl⟩;go_wp2_with fail;refine HO.out.mono ?_;rintro e w5⟨rfl,rfl⟩;generalize hN:s.size-pops.size=N at *;generalize hL:s.extract 0 N=Lf at *;subst hlf;have HN:=hid hN;have HL:=hid hL;obtain⟨T,hT⟩:∃T:Nat,T=Lf.size+pushes.size:=⟨_,rfl⟩;have hv1:IntKind.i64.wrap ((Lf.size:Int)+(pushes.size:Int))=(T:Int):=mF;have hv2:¬((256:Int)<(T:Int)):=ae;have hv3:¬(9223372036854775807<Lf.size+pushes.size):=ae;clear hw1 hw2 hT hh hps hS0 hS0' hss hpu hN hL;go_wp2_with fail
 refine bodyPost_ret (v:=.tuple #[.string (Lf++pushes),.int .i64 0]) i6 rfl ⟨by rw[HN.out,HL.out],?_⟩;exact⟨_,HB3.out,by rw[HN.out]⟩
structure We(g:Wg)(EB ec:Nat)(el:NIz)(w:World):Prop where
 c12:w.cell? ⟨g.WB,12,none⟩=some (.slice (some ⟨EB,0,none⟩) g.cn ec)
 elc:∀j,j<g.cn->w.cell? ⟨EB,j,none⟩=some (.int .i64 (el j))
variable {g:Wg}{EB ec:Nat}{el:NIz}
theorem We.later(h:We g EB ec el w)(hb:Below w.heap.size w w'):We g EB ec el w' :=
 ⟨ag hb h.c12,fun j hj=>ag hb (h.elc j hj)⟩
variable {a b:BAz}
theorem ng(h:a=b):(!a.toList==b.toList)=false:=by subst h; simp
variable {p:Sg}
theorem Bd(g:Wg)(w:World)(h:Wf g w){fl:NIz}(hs:Ws g FB fc SB sc fl sh w)(he:We g EB ec el w){pc:Nat}(hp:pc<g.cn)(hc:opF g.xs pc=5)
    (hsh:sh[pc]? =some s) (HBs:gw g w (g.ow pc) S0) (hS0:S0.size<=1000000) (hp1:p.1.size<=1000000) (hp2:p.2.size<=1000000) (HO:OpO g (g.ow pc) p) (hne:s≠S0++p.2) :
  Calls prog 33 #[.pointer (some ⟨g.WB,0,none⟩),.int .i64 pc] w fun e w'=>e=.returned (.tuple #[.string ⟨#[]⟩,.int .i64 33])/\Below w.heap.size w w':=by
 have g9:=h.c9;have x0:=h.cod.op hp;rw[hc]at x0;have x1:=h.cod.num hp;have x2:=h.cod.lab hp;have hcn:=h.cn;have hp':(pc:Int)<(g.cn:Int):=ae;have g13:=h.c13;have o0:=h.ow pc hp;have g15:=hs.c15;have s0:=hs.shc pc s hsh;have hpl:=az hsh;have hle:=hs.le;have HBs:=hid HBs;have HW:=hid h;have HS:=hid he;have HT:=hid (fun W (hb:Below w.heap.size w W)=>mj g W (h.later hb) HO);unfold gw at HBs;obtain⟨p1,p2⟩:=p;simp only at hp1 hp2 HT;generalize (g.xs.getD pc dx).a=a at *;generalize (g.xs.getD pc dx).la=la at *;generalize (g.xs.getD pc dx).ln=ln at *;generalize (g.xs.getD pc dx).lc=lc at *;generalize g.ow pc=o at *;generalize sh.length=sl at *;have hpl':(pc:Int)<(sl:Int):=ae;have hv1:¬(9223372036854775807<S0.size+p2.size):=ae;have hv2:¬(9223372036854775807<S0.size+p1.size):=ae;have B1:=aj w (aV 5 a la ln lc);have k1:=hZn w (aV 5 a la ln lc);have g9':=ag B1 g9;have g13':=ag B1 g13;have o0':=ag B1 o0;have g15':=ag B1 g15;have s0':=ag B1 s0;have HB1:=hid (And.intro B1 k1);clear B1 k1 h hs hsh hc he HO;go_enter func33,ntmps33
 go_wp2_with fail;refine(HBs.out _ HB1.out.1).mono ?_;rintro e w2⟨rfl,hb⟩;have HB2:=hid (HB1.out.1.trans (hb.mono HB1.out.1.size));have k2:=ak hb HB1.out.2;have y0:=iz0 k2;have HK2:=hid k2;clear hb k2 g9 x0 x1 x2 g13 o0 g15 s0 g9' g13' o0' g15' s0';go_wp2_with fail;refine(HT.out _ HB2.out).mono ?_;rintro e w3⟨rfl,hb⟩;have B4:=aj w3 (aD p1 p2);have HB3:=hid ((HB2.out.trans (hb.mono HB2.out.size)).trans (B4.mono (HB2.out.trans (hb.mono HB2.out.size)).size));have k3:=ak B4 (ak hb HK2.out);have k4:=hZn w3 (aD p1 p2);have z0:=iz0 k3;exact Nj
theorem A0(g:Wg)(w:World)(h:Wf g w){fl:NIz}(hs:Ws g FB fc SB sc fl sh w)(he:We g EB ec el w){pc:Nat}(hp:pc<g.cn)(hc:opF g.xs pc=6)
    (hsh:sh[pc]? =some s) (HBs:gw g w (g.ow pc) S0) (hS0:S0.size<=1000000) (hp1:p.1.size<=1000000) (hp2:p.2.size<=1000000) (HO:OpO g (g.ow pc) p) (hne:s≠S0++p.2) :
  Calls prog 33 #[.pointer (some ⟨g.WB,0,none⟩),.int .i64 pc] w fun e w'=>e=.returned (.tuple #[.string ⟨#[]⟩,.int .i64 33])/\Below w.heap.size w w':=by
 have g9:=h.c9;have x0:=h.cod.op hp;rw[hc]at x0;have x1:=h.cod.num hp;have x2:=h.cod.lab hp;have hcn:=h.cn;have hp':(pc:Int)<(g.cn:Int):=ae;have g13:=h.c13;have o0:=h.ow pc hp;have g15:=hs.c15;have s0:=hs.shc pc s hsh;have hpl:=az hsh;have hle:=hs.le;have HBs:=hid HBs;have HW:=hid h;have HS:=hid he;have HT:=hid (fun W (hb:Below w.heap.size w W)=>mj g W (h.later hb) HO);unfold gw at HBs;obtain⟨p1,p2⟩:=p;simp only at hp1 hp2 HT;generalize (g.xs.getD pc dx).a=a at *;generalize (g.xs.getD pc dx).la=la at *;generalize (g.xs.getD pc dx).ln=ln at *;generalize (g.xs.getD pc dx).lc=lc at *;generalize g.ow pc=o at *;generalize sh.length=sl at *;have hpl':(pc:Int)<(sl:Int):=ae;have hv1:¬(9223372036854775807<S0.size+p2.size):=ae;have hv2:¬(9223372036854775807<S0.size+p1.size):=ae;have B1:=aj w (aV 6 a la ln lc);have k1:=hZn w (aV 6 a la ln lc);have g9':=ag B1 g9;have g13':=ag B1 g13;have o0':=ag B1 o0;have g15':=ag B1 g15;have s0':=ag B1 s0;have HB1:=hid (And.intro B1 k1);clear B1 k1 h hs hsh hc he HO;go_enter func33,ntmps33
 go_wp2_with fail;refine(HBs.out _ HB1.out.1).mono ?_;rintro e w2⟨rfl,hb⟩;have HB2:=hid (HB1.out.1.trans (hb.mono HB1.out.1.size));have k2:=ak hb HB1.out.2;have y0:=iz0 k2;have HK2:=hid k2;clear hb k2 g9 x0 x1 x2 g13 o0 g15 s0 g9' g13' o0' g15' s0';go_wp2_with fail;refine(HT.out _ HB2.out).mono ?_;rintro e w3⟨rfl,hb⟩;have B4:=aj w3 (aD p1 p2);have HB3:=hid ((HB2.out.trans (hb.mono HB2.out.size)).trans (B4.mono (HB2.out.trans (hb.mono HB2.out.size)).size));have k3:=ak B4 (ak hb HK2.out);have k4:=hZn w3 (aD p1 p2);have z0:=iz0 k3;exact Nj
theorem Jr(g:Wg)(w:World)(h:Wf g w){fl:NIz}(hs:Ws g FB fc SB sc fl sh w)(he:We g EB ec el w){pc:Nat}(hp:pc<g.cn)(hc:opF g.xs pc=5)
    (hsh:sh[pc]? =some s) (HBs:gw g w (g.ow pc) S0) (hS0:S0.size<=1000000) (hp1:p.1.size<=1000000) (hp2:p.2.size<=1000000) (HO:OpO g (g.ow pc) p) (heq:s=S0++p.2) :
  Calls prog 33 #[.pointer (some ⟨g.WB,0,none⟩),.int .i64 pc] w fun e w'=>e=.returned (.tuple #[.string (S0++p.1),.int .i64 0])/\Below w.heap.size w w':=by
 have g9:=h.c9;have x0:=h.cod.op hp;rw[hc]at x0;have x1:=h.cod.num hp;have x2:=h.cod.lab hp;have hcn:=h.cn;have hp':(pc:Int)<(g.cn:Int):=ae;have g13:=h.c13;have o0:=h.ow pc hp;have g15:=hs.c15;have s0:=hs.shc pc s hsh;have hpl:=az hsh;have hle:=hs.le;have HBs:=hid HBs;have HW:=hid h;have HS:=hid he;have HT:=hid (fun W (hb:Below w.heap.size w W)=>mj g W (h.later hb) HO);unfold gw at HBs;obtain⟨p1,p2⟩:=p;simp only at hp1 hp2 HT;generalize (g.xs.getD pc dx).a=a at *;generalize (g.xs.getD pc dx).la=la at *;generalize (g.xs.getD pc dx).ln=ln at *;generalize (g.xs.getD pc dx).lc=lc at *;generalize g.ow pc=o at *;generalize sh.length=sl at *;have hpl':(pc:Int)<(sl:Int):=ae;have hv1:¬(9223372036854775807<S0.size+p2.size):=ae;have hv2:¬(9223372036854775807<S0.size+p1.size):=ae;have B1:=aj w (aV 5 a la ln lc);have k1:=hZn w (aV 5 a la ln lc);have g9':=ag B1 g9;have g13':=ag B1 g13;have o0':=ag B1 o0;have g15':=ag B1 g15;have s0':=ag B1 s0;have HB1:=hid (And.intro B1 k1);clear B1 k1 h hs hsh hc he HO;go_enter func33,ntmps33
 go_wp2_with fail;refine(HBs.out _ HB1.out.1).mono ?_;rintro e w2⟨rfl,hb⟩;have HB2:=hid (HB1.out.1.trans (hb.mono HB1.out.1.size));have k2:=ak hb HB1.out.2;have y0:=iz0 k2;have HK2:=hid k2;clear hb k2 g9 x0 x1 x2 g13 o0 g15 s0 g9' g13' o0' g15' s0';go_wp2_with fail;refine(HT.out _ HB2.out).mono ?_;rintro e w3⟨rfl,hb⟩;have B4:=aj w3 (aD p1 p2);have HB3:=hid ((HB2.out.trans (hb.mono HB2.out.size)).trans (B4.mono (HB2.out.trans (hb.mono HB2.out.size)).size));have k3:=ak B4 (ak hb HK2.out);have k4:=hZn w3 (aD p1 p2);have z0:=iz0 k3;have t0:=iz0 k4;have t1:=iz1 k4;clear hb k3 y0 HK2 B4 k4;have hq:=ng heq;clear heq;go_wp2_with fail;refine bodyPost_ret (v:=.tuple #[.string (S0++p1),.int .i64 0]) i6 rfl ⟨rfl,?_⟩;exact HB3.out
theorem Ai(g:Wg)(w:World)(h:Wf g w){fl:NIz}(hs:Ws g FB fc SB sc fl sh w)(he:We g EB ec el w){pc:Nat}(hp:pc<g.cn)(hc:opF g.xs pc=6)(ho:g.ow pc=-1)
    (hsh:sh[pc]? =some s) (HBs:gw g w (g.ow pc) S0) (hS0:S0.size<=1000000) (hp1:p.1.size<=1000000) (hp2:p.2.size<=1000000) (HO:OpO g (g.ow pc) p) (heq:s=S0++p.2) :
  Calls prog 33 #[.pointer (some ⟨g.WB,0,none⟩),.int .i64 pc] w fun e w'=>e=.returned (.tuple #[.string s,.int .i64 0])/\Below w.heap.size w w':=by
 have g9:=h.c9;have x0:=h.cod.op hp;rw[hc]at x0;have x1:=h.cod.num hp;have x2:=h.cod.lab hp;have hcn:=h.cn;have hp':(pc:Int)<(g.cn:Int):=ae;have g13:=h.c13;have o0:=h.ow pc hp;have g15:=hs.c15;have s0:=hs.shc pc s hsh;have hpl:=az hsh;have hle:=hs.le;have HBs:=hid HBs;have HW:=hid h;have HS:=hid he;have HT:=hid (fun W (hb:Below w.heap.size w W)=>mj g W (h.later hb) HO);unfold gw at HBs;obtain⟨p1,p2⟩:=p;simp only at hp1 hp2 HT;have HQ:=hid heq;clear heq;generalize (g.xs.getD pc dx).a=a at *;generalize (g.xs.getD pc dx).la=la at *;generalize (g.xs.getD pc dx).ln=ln at *;generalize (g.xs.getD pc dx).lc=lc at *;generalize hoo:g.ow pc=o at *;generalize sh.length=sl at *;have hpl':(pc:Int)<(sl:Int):=ae;have hv1:¬(9223372036854775807<S0.size+p2.size):=ae;have hv2:¬(9223372036854775807<S0.size+p1.size):=ae;have B1:=aj w (aV 6 a la ln lc);have k1:=hZn w (aV 6 a la ln lc);have g9':=ag B1 g9;have g13':=ag B1 g13;have o0':=ag B1 o0;have g15':=ag B1 g15;have s0':=ag B1 s0;have HB1:=hid (And.intro B1 k1);clear B1 k1 h hs hsh hc he HO;clear hoo;subst ho;go_enter func33,ntmps33
 go_wp2_with fail;refine(HBs.out _ HB1.out.1).mono ?_;rintro e w2⟨rfl,hb⟩;have HB2:=hid (HB1.out.1.trans (hb.mono HB1.out.1.size));have k2:=ak hb HB1.out.2;have y0:=iz0 k2;have HK2:=hid k2;clear hb k2 g9 x0 x1 x2 g13 o0 g15 s0 g9' g13' o0' g15' s0';go_wp2_with fail;refine(HT.out _ HB2.out).mono ?_;rintro e w3⟨rfl,hb⟩;have B4:=aj w3 (aD p1 p2);have HB3:=hid ((HB2.out.trans (hb.mono HB2.out.size)).trans (B4.mono (HB2.out.trans (hb.mono HB2.out.size)).size));have k3:=ak B4 (ak hb HK2.out);have k4:=hZn w3 (aD p1 p2);have z0:=iz0 k3;have t0:=iz0 k4;have t1:=iz1 k4;clear hb k3 y0 HK2 B4 k4;have hq:=ng HQ.out;exact Gw
variable {oj:Nat}
theorem BQ(g:Wg)(w:World)(h:Wf g w){fl:NIz}(hs:Ws g FB fc SB sc fl sh w)(he:We g EB ec el w){pc:Nat}(hp:pc<g.cn)(hc:opF g.xs pc=6)(ho:g.ow pc=oj)(hoj:oj<g.cn)
    (hsh:sh[pc]? =some s) (HBs:gw g w (g.ow pc) S0) (hS0:S0.size<=1000000) (hp1:p.1.size<=1000000) (hp2:p.2.size<=1000000) (HO:OpO g (g.ow pc) p) (heq:s=S0++p.2) (hop:opF g.xs oj≠4) :
  Calls prog 33 #[.pointer (some ⟨g.WB,0,none⟩),.int .i64 pc] w fun e w'=>e=.returned (.tuple #[.string s,.int .i64 0])/\Below w.heap.size w w':=by
 have g9:=h.c9;have x0:=h.cod.op hp;rw[hc]at x0;have x1:=h.cod.num hp;have x2:=h.cod.lab hp;have hcn:=h.cn;have hp':(pc:Int)<(g.cn:Int):=ae;have g13:=h.c13;have o0:=h.ow pc hp;have g15:=hs.c15;have s0:=hs.shc pc s hsh;have hpl:=az hsh;have hle:=hs.le;have HBs:=hid HBs;have HW:=hid h;have HS:=hid he;have HT:=hid (fun W (hb:Below w.heap.size w W)=>mj g W (h.later hb) HO);unfold gw at HBs;obtain⟨p1,p2⟩:=p;simp only at hp1 hp2 HT;have HQ:=hid heq;clear heq;generalize (g.xs.getD pc dx).a=a at *;generalize (g.xs.getD pc dx).la=la at *;generalize (g.xs.getD pc dx).ln=ln at *;generalize (g.xs.getD pc dx).lc=lc at *;generalize hoo:g.ow pc=o at *;generalize sh.length=sl at *;have hpl':(pc:Int)<(sl:Int):=ae;have hv1:¬(9223372036854775807<S0.size+p2.size):=ae;have hv2:¬(9223372036854775807<S0.size+p1.size):=ae;have B1:=aj w (aV 6 a la ln lc);have k1:=hZn w (aV 6 a la ln lc);have g9':=ag B1 g9;have g13':=ag B1 g13;have o0':=ag B1 o0;have g15':=ag B1 g15;have s0':=ag B1 s0;have HB1:=hid (And.intro B1 k1);clear B1 k1 h hs hsh hc he HO;clear hoo;subst ho;go_enter func33,ntmps33
 go_wp2_with fail;refine(HBs.out _ HB1.out.1).mono ?_;rintro e w2⟨rfl,hb⟩;have HB2:=hid (HB1.out.1.trans (hb.mono HB1.out.1.size));have k2:=ak hb HB1.out.2;have y0:=iz0 k2;have HK2:=hid k2;clear hb k2 g9 x0 x1 x2 g13 o0 g15 s0 g9' g13' o0' g15' s0';go_wp2_with fail;refine(HT.out _ HB2.out).mono ?_;rintro e w3⟨rfl,hb⟩;have B4:=aj w3 (aD p1 p2);have HB3:=hid ((HB2.out.trans (hb.mono HB2.out.size)).trans (B4.mono (HB2.out.trans (hb.mono HB2.out.size)).size));have k3:=ak B4 (ak hb HK2.out);have k4:=hZn w3 (aD p1 p2);have z0:=iz0 k3;have t0:=iz0 k4;have t1:=iz1 k4;clear hb k3 y0 HK2 B4 k4;have hq:=ng HQ.out;have h4:=HW.out.later HB3.out;have gg9:=h4.c9;have xx0:=h4.cod.op hoj;have e12:=(HS.out.later HB3.out).c12;have ee:=(HS.out.later HB3.out).elc oj hoj;have hoj':(oj:Int)<(g.cn:Int):=ae;clear h4
 have hop4:(opF g.xs oj==4)=false:=by simpa using hop
 clear hop;generalize opF g.xs oj=co at *;exact Gw
theorem Cu(g:Wg)(w:World)(h:Wf g w){fl:NIz}(hs:Ws g FB fc SB sc fl sh w)(he:We g EB ec el w){pc:Nat}(hp:pc<g.cn)(hc:opF g.xs pc=6)(ho:g.ow pc=oj)(hoj:oj<g.cn)
    (hsh:sh[pc]? =some s) (HBs:gw g w (g.ow pc) S0) (hS0:S0.size<=1000000) (hp1:p.1.size<=1000000) (hp2:p.2.size<=1000000) (HO:OpO g (g.ow pc) p) (heq:s=S0++p.2) (hop:opF g.xs oj=4) (hel:0<=el oj) :
  Calls prog 33 #[.pointer (some ⟨g.WB,0,none⟩),.int .i64 pc] w fun e w'=>e=.returned (.tuple #[.string s,.int .i64 0])/\Below w.heap.size w w':=by
 have g9:=h.c9;have x0:=h.cod.op hp;rw[hc]at x0;have x1:=h.cod.num hp;have x2:=h.cod.lab hp;have hcn:=h.cn;have hp':(pc:Int)<(g.cn:Int):=ae;have g13:=h.c13;have o0:=h.ow pc hp;have g15:=hs.c15;have s0:=hs.shc pc s hsh;have hpl:=az hsh;have hle:=hs.le;have HBs:=hid HBs;have HW:=hid h;have HS:=hid he;have HT:=hid (fun W (hb:Below w.heap.size w W)=>mj g W (h.later hb) HO);unfold gw at HBs;obtain⟨p1,p2⟩:=p;simp only at hp1 hp2 HT;have HQ:=hid heq;clear heq;generalize (g.xs.getD pc dx).a=a at *;generalize (g.xs.getD pc dx).la=la at *;generalize (g.xs.getD pc dx).ln=ln at *;generalize (g.xs.getD pc dx).lc=lc at *;generalize hoo:g.ow pc=o at *;generalize sh.length=sl at *;have hpl':(pc:Int)<(sl:Int):=ae;have hv1:¬(9223372036854775807<S0.size+p2.size):=ae;have hv2:¬(9223372036854775807<S0.size+p1.size):=ae;have B1:=aj w (aV 6 a la ln lc);have k1:=hZn w (aV 6 a la ln lc);have g9':=ag B1 g9;have g13':=ag B1 g13;have o0':=ag B1 o0;have g15':=ag B1 g15;have s0':=ag B1 s0;have HB1:=hid (And.intro B1 k1);clear B1 k1 h hs hsh hc he HO;clear hoo;subst ho;go_enter func33,ntmps33
 go_wp2_with fail;refine(HBs.out _ HB1.out.1).mono ?_;rintro e w2⟨rfl,hb⟩;have HB2:=hid (HB1.out.1.trans (hb.mono HB1.out.1.size));have k2:=ak hb HB1.out.2;have y0:=iz0 k2;have HK2:=hid k2;clear hb k2 g9 x0 x1 x2 g13 o0 g15 s0 g9' g13' o0' g15' s0';go_wp2_with fail;refine(HT.out _ HB2.out).mono ?_;rintro e w3⟨rfl,hb⟩;have B4:=aj w3 (aD p1 p2);have HB3:=hid ((HB2.out.trans (hb.mono HB2.out.size)).trans (B4.mono (HB2.out.trans (hb.mono HB2.out.size)).size));have k3:=ak B4 (ak hb HK2.out);have k4:=hZn w3 (aD p1 p2);have z0:=iz0 k3;have t0:=iz0 k4;have t1:=iz1 k4;clear hb k3 y0 HK2 B4 k4;have hq:=ng HQ.out;have h4:=HW.out.later HB3.out;have gg9:=h4.c9;have xx0:=h4.cod.op hoj;have e12:=(HS.out.later HB3.out).c12;have ee:=(HS.out.later HB3.out).elc oj hoj;have hoj':(oj:Int)<(g.cn:Int):=ae;clear h4;rw[hop]at xx0;have hel2:¬(el oj<0):=ae;clear hop;exact Ou
theorem IM(g:Wg)(w:World)(h:Wf g w){fl:NIz}(hs:Ws g FB fc SB sc fl sh w)(he:We g EB ec el w){pc:Nat}(hp:pc<g.cn)(hc:opF g.xs pc=6)(ho:g.ow pc=oj)(hoj:oj<g.cn)
    (hsh:sh[pc]? =some s) (HBs:gw g w (g.ow pc) S0) (hS0:S0.size<=1000000) (hp1:p.1.size<=1000000) (hp2:p.2.size<=1000000) (HO:OpO g (g.ow pc) p) (heq:s=S0++p.2) (hop:opF g.xs oj=4) (hel:el oj<0) (hpp:p.1=p.2) :
  Calls prog 33 #[.pointer (some ⟨g.WB,0,none⟩),.int .i64 pc] w fun e w'=>e=.returned (.tuple #[.string s,.int .i64 0])/\Below w.heap.size w w':=by
 have g9:=h.c9;have x0:=h.cod.op hp;rw[hc]at x0;have x1:=h.cod.num hp;have x2:=h.cod.lab hp;have hcn:=h.cn;have hp':(pc:Int)<(g.cn:Int):=ae;have g13:=h.c13;have o0:=h.ow pc hp;have g15:=hs.c15;have s0:=hs.shc pc s hsh;have hpl:=az hsh;have hle:=hs.le;have HBs:=hid HBs;have HW:=hid h;have HS:=hid he;have HT:=hid (fun W (hb:Below w.heap.size w W)=>mj g W (h.later hb) HO);unfold gw at HBs;obtain⟨p1,p2⟩:=p;simp only at hp1 hp2 HT;have HQ:=hid heq;clear heq;generalize (g.xs.getD pc dx).a=a at *;generalize (g.xs.getD pc dx).la=la at *;generalize (g.xs.getD pc dx).ln=ln at *;generalize (g.xs.getD pc dx).lc=lc at *;generalize hoo:g.ow pc=o at *;generalize sh.length=sl at *;have hpl':(pc:Int)<(sl:Int):=ae;have hv1:¬(9223372036854775807<S0.size+p2.size):=ae;have hv2:¬(9223372036854775807<S0.size+p1.size):=ae;have B1:=aj w (aV 6 a la ln lc);have k1:=hZn w (aV 6 a la ln lc);have g9':=ag B1 g9;have g13':=ag B1 g13;have o0':=ag B1 o0;have g15':=ag B1 g15;have s0':=ag B1 s0;have HB1:=hid (And.intro B1 k1);clear B1 k1 h hs hsh hc he HO;clear hoo;subst ho;go_enter func33,ntmps33
 go_wp2_with fail;refine(HBs.out _ HB1.out.1).mono ?_;rintro e w2⟨rfl,hb⟩;have HB2:=hid (HB1.out.1.trans (hb.mono HB1.out.1.size));have k2:=ak hb HB1.out.2;have y0:=iz0 k2;have HK2:=hid k2;clear hb k2 g9 x0 x1 x2 g13 o0 g15 s0 g9' g13' o0' g15' s0';go_wp2_with fail;refine(HT.out _ HB2.out).mono ?_;rintro e w3⟨rfl,hb⟩;have B4:=aj w3 (aD p1 p2);have HB3:=hid ((HB2.out.trans (hb.mono HB2.out.size)).trans (B4.mono (HB2.out.trans (hb.mono HB2.out.size)).size));have k3:=ak B4 (ak hb HK2.out);have k4:=hZn w3 (aD p1 p2);have z0:=iz0 k3;have t0:=iz0 k4;have t1:=iz1 k4;clear hb k3 y0 HK2 B4 k4;have hq:=ng HQ.out;have h4:=HW.out.later HB3.out;have gg9:=h4.c9;have xx0:=h4.cod.op hoj;have e12:=(HS.out.later HB3.out).c12;have ee:=(HS.out.later HB3.out).elc oj hoj;have hoj':(oj:Int)<(g.cn:Int):=ae;clear h4;rw[hop]at xx0;have hqq:=ng hpp;clear hop hpp;exact Ou
theorem JG(g:Wg)(w:World)(h:Wf g w){fl:NIz}(hs:Ws g FB fc SB sc fl sh w)(he:We g EB ec el w){pc:Nat}(hp:pc<g.cn)(hc:opF g.xs pc=6)(ho:g.ow pc=oj)(hoj:oj<g.cn)
    (hsh:sh[pc]? =some s) (HBs:gw g w (g.ow pc) S0) (hS0:S0.size<=1000000) (hp1:p.1.size<=1000000) (hp2:p.2.size<=1000000) (HO:OpO g (g.ow pc) p) (heq:s=S0++p.2) (hop:opF g.xs oj=4) (hel:el oj<0) (hpp:p.1≠p.2) :
  Calls prog 33 #[.pointer (some ⟨g.WB,0,none⟩),.int .i64 pc] w fun e w'=>e=.returned (.tuple #[.string ⟨#[]⟩,.int .i64 37])/\Below w.heap.size w w':=by
 have g9:=h.c9;have x0:=h.cod.op hp;rw[hc]at x0;have x1:=h.cod.num hp;have x2:=h.cod.lab hp;have hcn:=h.cn;have hp':(pc:Int)<(g.cn:Int):=ae;have g13:=h.c13;have o0:=h.ow pc hp;have g15:=hs.c15;have s0:=hs.shc pc s hsh;have hpl:=az hsh;have hle:=hs.le;have HBs:=hid HBs;have HW:=hid h;have HS:=hid he;have HT:=hid (fun W (hb:Below w.heap.size w W)=>mj g W (h.later hb) HO);unfold gw at HBs;obtain⟨p1,p2⟩:=p;simp only at hp1 hp2 HT;have HQ:=hid heq;clear heq;generalize (g.xs.getD pc dx).a=a at *;generalize (g.xs.getD pc dx).la=la at *;generalize (g.xs.getD pc dx).ln=ln at *;generalize (g.xs.getD pc dx).lc=lc at *;generalize hoo:g.ow pc=o at *;generalize sh.length=sl at *;have hpl':(pc:Int)<(sl:Int):=ae;have hv1:¬(9223372036854775807<S0.size+p2.size):=ae;have hv2:¬(9223372036854775807<S0.size+p1.size):=ae;have B1:=aj w (aV 6 a la ln lc);have k1:=hZn w (aV 6 a la ln lc);have g9':=ag B1 g9;have g13':=ag B1 g13;have o0':=ag B1 o0;have g15':=ag B1 g15;have s0':=ag B1 s0;have HB1:=hid (And.intro B1 k1);clear B1 k1 h hs hsh hc he HO;clear hoo;subst ho;go_enter func33,ntmps33
 go_wp2_with fail;refine(HBs.out _ HB1.out.1).mono ?_;rintro e w2⟨rfl,hb⟩;have HB2:=hid (HB1.out.1.trans (hb.mono HB1.out.1.size));have k2:=ak hb HB1.out.2;have y0:=iz0 k2;have HK2:=hid k2;clear hb k2 g9 x0 x1 x2 g13 o0 g15 s0 g9' g13' o0' g15' s0';go_wp2_with fail;refine(HT.out _ HB2.out).mono ?_;rintro e w3⟨rfl,hb⟩;have B4:=aj w3 (aD p1 p2);have HB3:=hid ((HB2.out.trans (hb.mono HB2.out.size)).trans (B4.mono (HB2.out.trans (hb.mono HB2.out.size)).size));have k3:=ak B4 (ak hb HK2.out);have k4:=hZn w3 (aD p1 p2);have z0:=iz0 k3;have t0:=iz0 k4;have t1:=iz1 k4;clear hb k3 y0 HK2 B4 k4;have hq:=ng HQ.out;have h4:=HW.out.later HB3.out;have gg9:=h4.c9;have xx0:=h4.cod.op hoj;have e12:=(HS.out.later HB3.out).c12;have ee:=(HS.out.later HB3.out).elc oj hoj;have hoj':(oj:Int)<(g.cn:Int):=ae;clear h4;rw[hop]at xx0;have hqq:=CE hpp;clear hop hpp;generalize el oj=eo at *;go_wp2_with fail;refine bodyPost_ret (v:=.tuple #[.string ⟨#[]⟩,.int .i64 37]) i6 rfl ⟨rfl,?_⟩;exact HB3.out
def tkO(c:Int):ByteArray:=if c=4 then wT else nT
def ki(m:MM)(lo:LIz)(xs:List Inx)(R:BAz)(n t:Nat):Opn :=
 ⟨(bS m (xs.getD t dx).a).1,(bS m (xs.getD t dx).a).2,um (stA m lo xs R n t) (tkO (opF xs t)) (bS m (xs.getD t dx).a).1,opF xs t,t⟩
def zA(R:BAz):Opn:=⟨⟨#[]⟩,R,⟨#[]⟩,0,0⟩
variable {c:Int}
theorem yS(m:MM)(lo:LIz)(s:Cs)(o:Opn)(a:Int)(h:isO c=true):rwS m lo s o c a=iY s c (tkO c) (bS m a).1 (bS m a).2:=by
 have:=dR.1 h;unfold rwS tkO
 by_cases h4:c=4
 ·rw[if_neg ae,if_pos h4,if_pos h4]
 rw[if_pos ae,if_neg h4]
theorem Qa(m:MM)(lo:LIz)(s:Cs)(o:Opn)(a:Int):rwS m lo s o 6 a=ul s:=rfl
theorem Sw(m:MM)(lo:LIz)(s:Cs)(o:Opn)(a:Int)(h:isO c=false)(h6:c≠6):(rwS m lo s o c a).op=s.op/\(rwS m lo s o c a).fl=s.fl:=by
 have:=ry h;unfold rwS;rw[if_neg ae,if_neg ae]
 split
 ·exact⟨rfl,rfl⟩
 split
 ·exact⟨rfl,rfl⟩
 split
 ·exact⟨rfl,rfl⟩
 generalize efV m lo s o c a=E;unfold qB cN;exact⟨rfl,rfl⟩
section
variable {m:MM} {lo:LIz} {xs:List Inx} {R:BAz} {n:Nat}
theorem jI:∀j,Okp (opF xs) j->(stA m lo xs R n j).op=zA R::(stk (opF xs) j).reverse.map (ki m lo xs R n)
 | 0,_=>rfl
 | j+1,h=>by
  have ih:=jI j (fun i hi=>h i ae);have e:(stA m lo xs R n (j+1)).op=(rwS m lo (fI (fP (stA m lo xs R n j) j)) (aT (stA m lo xs R n j)) (opF xs j) (xs.getD j dx).a).op:=rfl
  cases hO:isO (opF xs j) with
  | true =>
   rw[e,yS m lo _ _ _ hO,fU hO];show(stA m lo xs R n j).op++[_]=_;rw[ih,List.reverse_cons,List.map_append];rfl
  | false =>
   by_cases h6:opF xs j=6
   ·rw[e,h6,Qa,jV h6]
    show(stA m lo xs R n j).op.dropLast=_;rw[ih];have hne:=(h j ae).2
    cases hs:stk (opF xs) j with
    | nil=>exact absurd ⟨h6,hs⟩ hne
    | cons t r =>
     rw[List.reverse_cons,List.map_append,List.tail_cons,<- List.cons_append];exact List.dropLast_concat
   rw[e,(Sw m lo _ _ _ hO h6).1,eB hO h6];exact ih
variable {j t:Nat}
theorem oM{r:List Nat}(h:Okp (opF xs) j)(hs:stk (opF xs) j=t::r):aT (stA m lo xs R n j)=ki m lo xs R n t:=by
 unfold aT;rw[jI j h,hs,List.reverse_cons,List.map_append,<- List.cons_append,List.getD_eq_getElem?_getD];simp
theorem lQ(h:Okp (opF xs) j)(hs:stk (opF xs) j=[]):aT (stA m lo xs R n j)=zA R:=by
 unfold aT;rw[jI j h,hs];rfl
theorem zq(h:Okp (opF xs) j)(hs:(stk (opF xs) j)[k]? =some t):dh (stA m lo xs R n j) (k:Int)=ki m lo xs R n t:=by
 have hk:=az hs;unfold dh;rw[jI j h,List.getD_eq_getElem?_getD,Int.toNat_natCast];simp only[List.length_cons,List.length_map,List.length_reverse,Nat.add_sub_cancel];obtain⟨q,hq⟩:∃q,(stk (opF xs) j).length-k=q+1:=⟨(stk (opF xs) j).length-k-1,ae⟩;rw[hq,List.getElem?_cons_succ,List.getElem?_map,List.getElem?_reverse ae,show(stk (opF xs) j).length-1-q=k by omega,hs];rfl
theorem xj(h:Okp (opF xs) j):dh (stA m lo xs R n j) ((stk (opF xs) j).length:Int)=zA R:=by
 unfold dh;rw[jI j h,List.getD_eq_getElem?_getD,Int.toNat_natCast];simp
theorem MZ(h:Okp (opF xs) j):qy (stA m lo xs R n j)=zA R:=by
 unfold qy;rw[jI j h];rfl
theorem S8(h:Okp (opF xs) j):(stA m lo xs R n j).op.length=(stk (opF xs) j).length+1:=by
 rw[jI j h]; simp
end
abbrev bl(a:BAz):List UInt8:=a.data.toList
theorem xI(s:BAz)(k:Nat):bl (s.extract 0 k)=(bl s).take k:=by
 show(s.extract 0 k).data.toList=_;rw[ByteArray.data_extract,Array.toList_extract,List.extract_eq_take_drop,List.drop_zero,Nat.sub_zero]
theorem ru(s:BAz)(k:Nat):bl (s.extract k s.size)=(bl s).drop k:=by
 show(s.extract k s.size).data.toList=_;rw[ByteArray.data_extract,Array.toList_extract,List.extract_eq_take_drop,dQ,<- List.length_drop,List.take_length]
theorem o8(a b:BAz):bl (a++b)=bl a++bl b:=Q7 a b
theorem ik(a:BAz):(bl a).length=a.size:=(dQ a).symm
theorem BM:bl ⟨#[]⟩=[]:=rfl
theorem Qh(h:bW s t=0):iq s t=s++t:=(qQ h).1
section
variable {m:MM} {lo:LIz} {xs:List Inx} {R:BAz} {n:Nat}
variable {j:Nat}
theorem yj(hG:Good (opF xs) n)(hj:j<n):Okp (opF xs) j:=fun i hi=>hG.2.1 i ae
end
def dTy(m:MM)(xs:List Inx)(Q:BAz)(o:Int):Sg:=if o<0 then (⟨#[]⟩,Q) else bS m (xs.getD o.toNat dx).a
def dBr(m:MM)(xs:List Inx)(Q:BAz)(o:Int):ByteArray:=if 0<=o/\opF xs o.toNat=3 then (dTy m xs Q o).1 else (dTy m xs Q o).2
def lbD(xs:List Inx)(pc:Nat)(n:Int):Int×Bool:=if n<0 then (top (stk (opF xs) pc),false) else (top ((stk (opF xs) pc).drop n.toNat),decide (n.toNat<=(stk (opF xs) pc).length))
def lsD(m:MM)(xs:List Inx)(Q:BAz)(pc:Nat)(c a:Int)(l:LIz):ByteArray×Int :=
 if c≠9 then (if (lbD xs pc a).2=true then (dBr m xs Q (lbD xs pc a).1,0) else (⟨#[]⟩,31))
 else if ∃n∈l,(lbD xs pc n).2=false then (⟨#[]⟩,31)
 else if ∃n∈l,dBr m xs Q (lbD xs pc n).1≠dBr m xs Q (lbD xs pc (l.getD 0 0)).1 then (⟨#[]⟩,32)
 else (dBr m xs Q (lbD xs pc (l.getD 0 0)).1,0)
def ltD(m:MM)(LO:BAz)(c a:Int):ByteArray×Int :=
 if c=18\/c=19\/c=20 then (if 0<=a/\a<(LO.size:Int) then (LO.extract a.toNat (a.toNat+1),0) else (⟨#[]⟩,30))
 else if 0<=a/\a<(m.gn:Int) then (if c=22/\glM m a=false then (⟨#[]⟩,39) else (strOfNums [glC m a],0)) else (⟨#[]⟩,30)
def tyD(m:MM)(c a:Int):Option Sg :=
 if c=11 then (if 0<=a/\a<(m.fn:Int) then some (bS m (tZ m a)) else none)
 else if c=12 then (if 0<=a/\a<(m.hn:Int) then some (bS m (m.hosts.getD a.toNat 0)) else none)
 else if 0<=a/\a<(m.tn:Int) then some (bS m a) else none
def tyE(t:Option Sg)(f:Sg->ByteArray×ByteArray):ByteArray×ByteArray×Int:=match t with
 | some p=>((f p).1,(f p).2,0)
 | none=>(⟨#[]⟩,⟨#[]⟩,30)
def SE:ByteArray:=⟨#[119,119,119]⟩
def efD(m:MM)(LO:BAz)(xs:List Inx)(Q:BAz)(pc:Nat)(c a:Int)(l:LIz)(ab:BAz):ByteArray×ByteArray×Int :=
 if (ofV c).1.2.2.2.2.2=true then ((ofV c).1.2.2.2.1,(ofV c).1.2.2.2.2.1,0)
 else if c=0 then (⟨#[]⟩,⟨#[]⟩,0)
 else if c=2\/c=3 then tyE (tyD m c a) (fun p=>(p.1,p.1))
 else if c=4 then tyE (tyD m c a) (fun p=>(p.1++wT,p.1))
 else if c=11\/c=12 then tyE (tyD m c a) (fun p=>(p.1,p.2))
 else if c=7 then ((lsD m xs Q pc c a l).1,(lsD m xs Q pc c a l).1,(lsD m xs Q pc c a l).2)
 else if c=8\/c=9 then ((lsD m xs Q pc c a l).1++wT,(lsD m xs Q pc c a l).1,(lsD m xs Q pc c a l).2)
 else if c=10 then (Q,Q,0)
 else if c=16 then (if ab.size=0 then (wT,⟨#[]⟩,0) else (ab.extract (ab.size-1) ab.size,⟨#[]⟩,0))
 else if c=17 then (if ab.size<3 then (SE,wT,0) else (ab.extract (ab.size-2) (ab.size-1)++ab.extract (ab.size-2) (ab.size-1)++wT,ab.extract (ab.size-2) (ab.size-1),0))
 else if c=18\/c=21 then (⟨#[]⟩,(ltD m LO c a).1,(ltD m LO c a).2)
 else if c=20 then ((ltD m LO c a).1,(ltD m LO c a).1,(ltD m LO c a).2)
 else ((ltD m LO c a).1,⟨#[]⟩,(ltD m LO c a).2)
theorem wI:∀k:Nat,k<256->((ofV (k:Int)).1.2.2.2.2.2=true->¬(k∈[0,2,3,4,5,6,7,8,9,10,11,12,16,17,18,19,20,21,22]))/\((ofV (k:Int)).2=true->(ofV (k:Int)).1.2.2.2.2.2=false->k∈[0,2,3,4,5,6,7,8,9,10,11,12,16,17,18,19,20,21,22]):=by
 have h:(List.range 256).all (fun k=>(!(ofV (k:Int)).1.2.2.2.2.2 || !([0,2,3,4,5,6,7,8,9,10,11,12,16,17,18,19,20,21,22].contains k))&&(!(ofV (k:Int)).2 || (ofV (k:Int)).1.2.2.2.2.2 || [0,2,3,4,5,6,7,8,9,10,11,12,16,17,18,19,20,21,22].contains k))=true:=cj;intro k hk;have:=List.all_eq_true.1 h k (List.mem_range.2 hk);simp only[Bool.and_eq_true,Bool.or_eq_true,Bool.not_eq_true',List.contains_eq_mem,decide_eq_false_iff_not,decide_eq_true_eq]at this;refine⟨fun h1=>?_,fun h1 h2=>?_⟩
 ·rcases this.1 with h | h
  ·rw[h1]at h; cases h
  exact h
 rcases this.2 with (h | h) | h
 ·rw[h1]at h; cases h
 ·rw[h2]at h; cases h
 exact h
def qp(ow:NIz):Nat->Int->Int×Int
 | 0,o=>(o,0)
 | n+1,o=>if o<0 then (o,(n:Int)+1) else qp ow n (ow o.toNat)
theorem Gg(h:ends s t=true):t.size<=s.size/\bl t=(bl s).drop (s.size-t.size):=by
 unfold ends at h;rw[Bool.and_eq_true,decide_eq_true_eq]at h;refine⟨h.1,?_⟩
 have e:s.extract (s.size-t.size) s.size=t:=by
  have:=h.2;rw[qY,decide_eq_true_eq]at this;exact this
 rw[<- ru,e]
theorem mO(h:bl a=bl b):a=b:=sj h
theorem lV(s:BAz)(h:k<=s.size):(s.extract 0 k).size=k:=by
 rw[<- ik,xI,List.length_take,ik]; omega
theorem lY(hk:k<=s.size)(h:ends (s.extract k s.size) t=true):t.size<=s.size-k/\s.extract 0 (s.size-t.size)++t=s:=by
 have h1:=Gg h
 have hz:(s.extract k s.size).size=s.size-k:=by rw[<- ik,ru,List.length_drop,ik]
 rw[hz,ru,List.drop_drop]at h1;refine⟨h1.1,mO ?_⟩;rw[o8,xI,h1.2,show k+(s.size-k-t.size)=s.size-t.size by omega];exact List.take_append_drop _ _
theorem vM(h:a++b=s):a=s.extract 0 (s.size-b.size):=by
 subst h;apply mO;rw[xI,o8]
 have:(a++b).size-b.size=(bl a).length:=by rw[<- ik,o8,List.length_append,ik,ik]; omega
 rw[this,List.take_left'];rfl
theorem EJ(a b c:BAz):(a++b)++c=a++(b++c):=mO (by simp)
theorem jC(a:BAz):a++(⟨#[]⟩:BAz)=a:=mO (by rw[o8,BM,List.append_nil])
theorem cV(a b:BAz):(a++b).size=a.size+b.size:=by rw[<- ik,o8,List.length_append,ik,ik]
theorem KR(s:BAz):ends s ⟨#[]⟩=true:=by
 unfold ends;rw[Bool.and_eq_true,decide_eq_true_eq];refine⟨Nat.zero_le _,?_⟩
 have:s.extract (s.size-(⟨#[]⟩:BAz).size) s.size=⟨#[]⟩:=mO (by
  rw[ru,BM]
  exact List.drop_eq_nil_iff.2 (by rw[ik]; show s.size<=s.size-0; omega))
 rw[this]; simp
variable {s:Cs}{o:Opn}
theorem nZ(h:bQ s o t=0):ends (s.st.extract o.B.size s.st.size) t=true:=by
 unfold bQ at h
 by_cases ht:uh (s.st.extract o.B.size s.st.size) t=true
 ·unfold uh at ht;rw[Bool.and_eq_true]at ht;exact ht.2
 rw[if_neg ht]at h; cases h
theorem Ah{O ow:NIz}{n:Nat}(how:∀j,j<n->ow j=top (stk O j)):∀(k i:Nat),i<n->qp ow k (top (stk O i))=if k<=(stk O i).length then (top ((stk O i).drop k),0) else (-1,((k-(stk O i).length:Nat):Int))
 | 0,i,hi=>by simp[qp]
 | k+1,i,hi=>by
  rcases fF O i with h | ⟨t,ht,_,h⟩
  ·rw[h]; simp[qp,top]
  rw[h];have ih:=Ah how k t ae
  have e:qp ow (k+1) (top (t::stk O t))=qp ow k (top (stk O t)):=by
   show(if ((t:Nat):Int)<0 then _ else _)=_;rw[if_neg ae];show qp ow k (ow ((t:Nat):Int).toNat)=_;rw[Int.toNat_natCast,how t ae]
  rw[e,ih];simp only[List.length_cons,List.drop_succ_cons]
  by_cases hk:k<=(stk O t).length
  ·rw[if_pos hk,if_pos ae]
  rw[if_neg hk,if_neg ae]; congr 2; omega
section
variable {m:MM} {lo:LIz} {xs:List Inx} {R:BAz} {n:Nat}
variable {j:Nat}{a:Int}
theorem uw(hO:Okp (opF xs) j)(h:eQ (stA m lo xs R n j) a=0):(lbD xs j a).2=true/\dBr m xs R (lbD xs j a).1=brg (dh (stA m lo xs R n j) a):=by
 unfold eQ at h
 by_cases hc:0<=a/\a<((stA m lo xs R n j).op.length:Int)
 ·rw[S8 hO]at hc;obtain⟨k,rfl⟩:∃k:Nat,a=k:=⟨a.toNat,ae⟩;have hk:k<=(stk (opF xs) j).length:=ae
  have e:lbD xs j (k:Int)=(top ((stk (opF xs) j).drop k),true):=by
   unfold lbD; rw[if_neg ae,Int.toNat_natCast,decide_eq_true hk]
  rw[e];refine⟨rfl,?_⟩
  by_cases hl:k<(stk (opF xs) j).length
  ·have hg:(stk (opF xs) j)[k]? =some (stk (opF xs) j)[k]:=aY hl;rw[zq hO hg,List.drop_eq_getElem_cons hl];generalize (stk (opF xs) j)[k]=t
   show dBr m xs R ((t:Nat):Int)=_;unfold dBr brg dTy ki;simp only[Int.toNat_natCast]
   by_cases h3:opF xs t=3
   ·rw[if_pos ⟨ae,h3⟩,if_pos h3,if_neg ae]
   rw[if_neg (by simp[h3]),if_neg h3,if_neg ae]
  have hl':k=(stk (opF xs) j).length:=ae;rw[hl',xj hO,List.drop_length];show dBr m xs R (-1)=_;unfold dBr brg dTy zA;rw[if_neg ae,if_pos ae,if_neg (by show ¬((0:Int)=3); omega)]
 rw[if_neg hc]at h; cases h
end
structure Ag(m:MM)(lo:LIz)(xs:List Inx)(R:BAz)(n j:Nat)(E:ByteArray×ByteArray×Int):Prop where
 er:E.2.2=0
 en:ends ((stA m lo xs R n j).st.extract (aT (stA m lo xs R n j)).B.size (stA m lo xs R n j).st.size) E.1=true
 hi:¬256<(stA m lo xs R n j).st.size-E.1.size+E.2.1.size
 nx:¬(opF xs j=7\/opF xs j=9\/opF xs j=10\/opF xs j=0)->(stA m lo xs R n (j+1)).st=(stA m lo xs R n j).st.extract 0 ((stA m lo xs R n j).st.size-E.1.size)++E.2.1
 op:isO (opF xs j)=true->(ki m lo xs R n j).B=(stA m lo xs R n j).st.extract 0 ((stA m lo xs R n j).st.size-E.1.size)
section
variable {m:MM} {lo:LIz} {xs:List Inx} {R:BAz} {n:Nat}
variable {a:Int}
theorem fQ(h:bD (k:Int) a=0):0<=a/\a<(k:Int):=by
 unfold bD at h
 by_cases hc:a<0\/(k:Int)<=a
 ·rw[if_pos hc]at h; cases h
 omega
theorem oH(j:Nat):(stA m lo xs R n (j+1)).st=(rwS m lo (fI (fP (stA m lo xs R n j) j)) (aT (stA m lo xs R n j)) (opF xs j) (xs.getD j dx).a).st:=rfl
variable {j:Nat}{p q:BAz}
theorem tF(hb:(aT (stA m lo xs R n j)).B.size<=(stA m lo xs R n j).st.size){c a:Int}(hO:isO (opF xs j)=false)
  (ha:bQ (fI (fP (stA m lo xs R n j) j)) (aT (stA m lo xs R n j)) p=0) (hp:bW (cN (fI (fP (stA m lo xs R n j) j)) p).st q=0)
  (hn:(stA m lo xs R n (j+1)).st=iq (cN (fI (fP (stA m lo xs R n j) j)) p).st q):Ag m lo xs R n j (p,q,0):=by
 have e:=nZ ha;have hk:=lY hb e;have hq:=qQ hp;have ez:(cN (fI (fP (stA m lo xs R n j) j)) p).st=(stA m lo xs R n j).st.extract 0 ((stA m lo xs R n j).st.size-p.size):=rfl;rw[ez]at hq hn;rw[lV _ ae]at hq;refine⟨rfl,e,by show ¬256<_-p.size+q.size; omega,fun _=>hn.trans hq.1,fun h=>?_⟩;rw[hO]at h; cases h
theorem rq(hb:(aT (stA m lo xs R n j)).B.size<=(stA m lo xs R n j).st.size)(h256:(stA m lo xs R n j).st.size<=256)(hO:isO (opF xs j)=false)
  (ha:bQ (fI (fP (stA m lo xs R n j) j)) (aT (stA m lo xs R n j)) (p++t)=0)
  (hn:¬(opF xs j=7\/opF xs j=9\/opF xs j=10\/opF xs j=0)->(stA m lo xs R n (j+1)).st=(stA m lo xs R n j).st.extract 0 ((stA m lo xs R n j).st.size-t.size)):Ag m lo xs R n j (p++t,p,0):=by
 have e:=nZ ha;have hk:=lY hb e;have hk1:=hk.1;rw[cV]at hk1;refine⟨rfl,e,by show ¬256<_-(p++t).size+p.size; rw[cV]; omega,fun h=>?_,fun h=>?_⟩
 ·rw[hn h]
  have:=hk.2;rw[<- EJ]at this;exact(vM this).symm
 rw[hO]at h; cases h
theorem wO(hb:(aT (stA m lo xs R n j)).B.size<=(stA m lo xs R n j).st.size)(h256:(stA m lo xs R n j).st.size<=256)(hO:isO (opF xs j)=true)
  (ha:bQ (fI (fP (stA m lo xs R n j) j)) (aT (stA m lo xs R n j)) ((bS m (xs.getD j dx).a).1++tkO (opF xs j))=0):Ag m lo xs R n j ((bS m (xs.getD j dx).a).1++tkO (opF xs j),(bS m (xs.getD j dx).a).1,0):=by
 have e:=nZ ha;have hk:=lY hb e;have hk1:=hk.1;rw[cV]at hk1;have hs:=oH (m:=m) (lo:=lo) (xs:=xs) (R:=R) (n:=n) j;rw[yS m lo _ _ _ hO]at hs
 have hl:(stA m lo xs R n j).st.extract 0 ((stA m lo xs R n j).st.size-((bS m (xs.getD j dx).a).1++tkO (opF xs j)).size)++(bS m (xs.getD j dx).a).1=(stA m lo xs R n j).st.extract 0 ((stA m lo xs R n j).st.size-(tkO (opF xs j)).size):=by
  have:=hk.2;rw[<- EJ]at this;exact vM this
 refine⟨rfl,e,by show ¬256<_-((bS m (xs.getD j dx).a).1++tkO (opF xs j)).size+(bS m (xs.getD j dx).a).1.size; rw[cV]; omega,fun _=>hs.trans hl.symm,fun _=>?_⟩;show((stA m lo xs R n j).st.extract 0 ((stA m lo xs R n j).st.size-(tkO (opF xs j)).size)).extract 0 (((stA m lo xs R n j).st.extract 0 ((stA m lo xs R n j).st.size-(tkO (opF xs j)).size)).size-(bS m (xs.getD j dx).a).1.size)=_;exact(vM hl).symm
theorem RJ(hO:Okp (opF xs) j)(h:kB (stA m lo xs R n j) l=0)(a:Int)(hl:0<l.length):lsD m xs R j 9 a l=(brg (dh (stA m lo xs R n j) (l.getD 0 0)),0):=by
 unfold kB at h
 by_cases h1:(l.all fun n_1=>eQ (stA m lo xs R n j) n_1==0)=true
 ·rw[if_pos h1]at h
  by_cases h2:(l.all fun n_1=>(brg (dh (stA m lo xs R n j) n_1)).toList==(brg (dh (stA m lo xs R n j) (l.getD 0 0))).toList)=true
  ·have a1:∀z∈l,eQ (stA m lo xs R n j) z=0:=fun z hz=>by simpa using List.all_eq_true.1 h1 z hz
   have a2:∀z∈l,brg (dh (stA m lo xs R n j) z)=brg (dh (stA m lo xs R n j) (l.getD 0 0)):=fun z hz=>by
    have:=List.all_eq_true.1 h2 z hz;rw[qY,decide_eq_true_eq]at this;exact this
   have hm:l.getD 0 0∈l:=by
    cases l with
    | nil=>simp at hl
    | cons x r=>simp
   unfold lsD;rw[if_neg aw,if_neg,if_neg,(uw hO (a1 _ hm)).2]
   ·rintro⟨z,hz,hne⟩;rw[(uw hO (a1 z hz)).2,(uw hO (a1 _ hm)).2]at hne;exact hne (a2 z hz)
   rintro⟨z,hz,hf⟩;rw[(uw hO (a1 z hz)).1]at hf; cases hf
  rw[if_neg h2]at h; cases h
 rw[if_neg h1]at h; cases h
end
end Go.Proofs.YtepcmfegggdjfaaGreatDoor

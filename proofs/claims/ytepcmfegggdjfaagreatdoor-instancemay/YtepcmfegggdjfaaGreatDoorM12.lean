/-
  Texts Ij Vii Ma Xv Mb Il Ca Cb Cc Cd.
-/
import Derived.Test.YtepcmfegggdjfaaGreatDoorM00
import Derived.Test.YtepcmfegggdjfaaGreatDoorM01
import Derived.Test.YtepcmfegggdjfaaGreatDoorM02
import Derived.Test.YtepcmfegggdjfaaGreatDoorM11
set_option linter.unusedVariables false
set_option maxRecDepth 100000
set_option maxHeartbeats 16000000
namespace Go.Proofs.YtepcmfegggdjfaaGreatDoor
open Go.Proofs.Tryz
open Go.RowKit
variable {e:TypeId}{w:World}{B n:Nat}{f:NIz}{l:LIz}
theorem EF{k:IntKind}(h:RB k e w B n f)(hl:(List.range n).map f=l):SI k w (some ⟨B,0,none⟩) n l:=by
 subst hl;refine⟨aw,.inr ⟨B,0,rfl,fun j x hj=>?_⟩⟩;have hj':=az hj;simp at hj';rw[List.getElem?_map,List.getElem?_range hj']at hj;injection hj with hj;rw[Nat.zero_add,h.cell j hj',<- hj]
structure WkS(w W:World)(SB XB YB LB R LO BB:Nat):Prop where
 b:Below w.heap.size w W
 s:W.heap[SB]? =some (cB (some ⟨XB,0,none⟩) 1 1 (some ⟨YB,0,none⟩) 1 1 (some ⟨LB,0,none⟩) 1 1 0 1 none 0 0 0 0)
 x:W.heap[XB]? =some (cX 0 0 (some ⟨LO,0,none⟩) 2 2 none 0 0)
 l:RB .u64 53 W LO 2 (ic [5])
 y:RB .u64 53 W YB 1 (glF [(108,false,9)])
 p:W.heap[LB]? =some (.cells (pgL R 1).toArray 49)
 r:RB .u8 5 W R (1*4096) (mW [(16,(some ⟨BB,0,none⟩,1,1),[7])])
variable {W W':World}{SB XB YB LB R LO BB:Nat}
theorem WkS.later(h:WkS w W SB XB YB LB R LO BB)(hb:Below W.heap.size W W'):WkS w W' SB XB YB LB R LO BB :=
 ⟨h.b.trans (hb.mono h.b.size),ak hb h.s,ak hb h.x,h.l.later hb,h.y.later hb,ak hb h.p,h.r.later hb⟩
theorem Ro(w:World)(hk:bg w):Calls prog 5 #[] w fun e w'=>e=.returned (.bool true)/\Below w.heap.size w w':=by
 have HK:=hid (fun(W:World) (hb:Below w.heap.size w W)=>hk.later hb hk.pos);have H1:=hid (fun(W:World)=>Ut W);clear hk;go_enter func5,ntmps5
 go_wp2_with fail;refine(H1.out _).mono ?_;rintro e w1⟨TB,GB,FB,CB,DB,BB,EB,rfl,km1,hb1⟩;have Ba:=aj w1 (oV 5);have HBeg:=hid (VJ (TB:=TB) (GB:=GB) (FB:=FB) (CB:=CB) (DB:=DB) (BB:=BB) (EB:=EB) w1.heap.size (w1.alloc (oV 5)) (HK.out _ (hb1.trans (Ba.mono hb1.size))) (km1.later Ba) (hZn _ _));have HBa:=hid (hb1.trans (Ba.mono hb1.size));clear km1 hb1 Ba;go_wp2_with fail;refine HBeg.out.mono ?_;rintro e w2⟨hb2,XB,YB,LB,R,LO,rfl,x1,x2,x3,x4,x5⟩;have hB2:=HBa.out.trans (hb2.mono HBa.out.size);have hS:=aj w2 (.cells (tP XB YB LB 1 1) 37);have HW:Hid (WkS w (w2.alloc (.cells (tP XB YB LB 1 1) 37)) w2.heap.size XB YB LB R LO BB):=hid ⟨hB2.trans (hS.mono hB2.size),hZn _ _,ak hS x1,x2.later hS,x3.later hS,ak hS x4,x5.later hS⟩;clear hb2 x1 x2 x3 x4 x5 HBeg HBa hB2 hS;unfold tP at HW ⊢;go_wp2_with fail;refine(H1.out _).mono ?_;rintro e w3⟨TB,GB,FB,CB,DB,BB2,EB,rfl,km3,hb3⟩;have HW3:=hid (HW.out.later hb3);have HSg:=hid (UC (TB:=TB) (GB:=GB) (FB:=FB) (CB:=CB) (DB:=DB) (BB:=BB2) (EB:=EB) w3 (HK.out _ HW3.out.b) km3);clear HW km3 hb3;go_wp2_with fail;refine HSg.out.mono ?_;rintro e w4⟨rfl,hb4⟩;have hS:=aj w4 (aD ⟨#[119]⟩ ⟨#[]⟩);have HW4:=hid ((HW3.out.later hb4).later hS);have HG4:=hid (hZn w4 (aD ⟨#[119]⟩ ⟨#[]⟩));clear hb4 hS HW3 HSg;go_wp2_with fail;refine(H1.out _).mono ?_;rintro e w5⟨TB,GB,FB,CB,DB,BB3,EB,rfl,km5,hb5⟩;have HW5:=hid (HW4.out.later hb5);have HG5:=hid (ak hb5 HG4.out);have HBn:=hid (U0 (TB:=TB) (GB:=GB) (FB:=FB) (CB:=CB) (DB:=DB) (BB:=BB3) (EB:=EB) w5 (HK.out _ HW5.out.b) km5);clear km5 hb5 HW4 HG4;go_wp2_with fail;refine HBn.out.mono ?_;rintro e w6⟨hb6,rfl⟩;have hS:=aj w6 zSt;have HW6:=hid ((HW5.out.later hb6).later hS);have HG6:=hid (ak hS (ak hb6 HG5.out));clear hb6 hS HW5 HG5 HBn;have g0:=iz0 HG6.out;have g1:=iz1 HG6.out
 have s0:=iz0 HW6.out.s;have s1:=iz1 HW6.out.s;have s2:=iz2 HW6.out.s;have s4:=iz4 HW6.out.s;have x2:=iz2 HW6.out.x;have p0:=iz0 HW6.out.p;have r0:(w6.alloc zSt).cell? ⟨R,16,none⟩=some (.int .u8 7):=HW6.out.r.cell 16 ae;have hA:=aj (w6.alloc zSt) (.cells #[.int .u64 5,.int .u64 0] 53);have hnA:((w6.alloc zSt).alloc (.cells #[.int .u64 5,.int .u64 0] 53)).heap[w6.heap.size+1]? =some (.cells #[.int .u64 5,.int .u64 0] 53):=jH aw
 have HQ1:=hid (Qw (some ⟨LO,0,none⟩) (some ⟨w6.heap.size+1,0,none⟩) 2 2 2 2 [5,0] [5,0] ((w6.alloc zSt).alloc (.cells #[.int .u64 5,.int .u64 0] 53)) (EF (l:=[5,0]) (HW6.out.later hA).l rfl) ⟨rfl,.inr ⟨_,0,rfl,fun j x hj=>by
  match j,hj with
  | 0,hj=>obtain rfl:=Option.some.inj hj; exact ai hnA
  | 1,hj=>obtain rfl:=Option.some.inj hj; exact ai hnA
  | j+2,hj=>simp at hj⟩⟩ ae)
 have HW7:=hid (HW6.out.later hA);have hE:lE iE ([5,0]:LIz) [5,0]=true:=ar;rw[hE]at HQ1;clear hE hA hnA HW6 HG6;go_wp2_with fail;refine HQ1.out.mono ?_;rintro e w7⟨rfl,hb7⟩;have HW8:=hid (HW7.out.later hb7);clear hb7 HW7 HQ1 g0 g1 s0 s1 s2 s4 x2 p0 r0;have s1:=iz1 HW8.out.s;have hA:=aj w7 (oV 9)
 have HQ2:=hid (Qw (some ⟨YB,0,none⟩) (some ⟨w7.heap.size,0,none⟩) 1 1 1 1 [9] [9] (w7.alloc (oV 9)) (EF (l:=[9]) (HW8.out.later hA).y rfl) ⟨rfl,.inr ⟨_,0,rfl,fun j x hj=>by
  match j,hj with
  | 0,hj=>obtain rfl:=Option.some.inj hj; exact ai (hZn w7 (oV 9))
  | j+1,hj=>simp at hj⟩⟩ ae)
 have HW9:=hid (HW8.out.later hA);have hE:lE iE ([9]:LIz) [9]=true:=ar;rw[hE]at HQ2;clear hE hA HW8;go_wp2_with fail;refine HQ2.out.mono ?_;rintro e w8⟨rfl,hb8⟩;have HWx:=hid (HW9.out.later hb8);clear hb8 HW9 HQ2 s1;have s2:=iz2 HWx.out.s;have s4:=iz4 HWx.out.s;have p0:=iz0 HWx.out.p;have r0:w8.cell? ⟨R,16,none⟩=some (.int .u8 7):=HWx.out.r.cell 16 ae;go_wp2_with fail;go_ret;exact⟨rfl,HWx.out.b⟩
theorem CN(a:OAz)(cap:Nat)(w:World):Calls prog 13 #[.slice a 0 cap] w fun e w'=>e=.returned (.int .i64 0)/\w'=w:=by
 go_enter func13,ntmps13;exact ES
def szG:List InM->Nat->Nat
 | [],z=>z
 | x::r,z=>if z<=2147483647 then szG r (z+x.2.2.1.2.1) else z
variable {x:InM}{z:Nat}
theorem Er{r:List InM}(h:z<=2147483647):szG (x::r) z=szG r (z+x.2.2.1.2.1):=by simp[szG,h]
theorem Fu{r:List InM}(h:¬z<=2147483647):szG (x::r) z=z:=by simp[szG,h]
def pF(l:List DaM):Nat:=(l.map fun x=>x.2.1.2.1).sum
variable {k:Nat}
theorem l5{α:Type}{l:List α}{x:α}(h:l[k]? =some x):l.take (k+1)=l.take k++[x]:=by
 have hk:=(List.getElem?_eq_some_iff.1 h).1;rw[List.take_succ_eq_append_getElem hk];rw[aY hk]at h;rw[Option.some.inj h]
variable {x:DaM}
theorem Jo{l:List DaM}(h:l[k]? =some x):pF (l.take (k+1))=pF (l.take k)+x.2.1.2.1:=by
 rw[l5 h]; simp[pF]
theorem Mh{l:List DaM}(h:l.length=n):pF (l.take n)=pF l:=xN
def tu(l:List Sg):Nat:=(l.map fun x=>x.1.size+x.2.size).sum
def ke(l:List FuM):Nat:=(l.map fun x=>x.2.1.size+szG x.2.2.2 x.2.2.1.2.1).sum
def mR(l:List Ex):Nat:=(l.map fun x=>x.1.size).sum
variable {x:Sg}
theorem IX{l:List Sg}(h:l[k]? =some x):tu (l.take (k+1))=tu (l.take k)+(x.1.size+x.2.size):=by
 rw[l5 h]; simp[tu]
variable {x:FuM}
theorem A9{l:List FuM}(h:l[k]? =some x):ke (l.take (k+1))=ke (l.take k)+(x.2.1.size+szG x.2.2.2 x.2.2.1.2.1):=by
 rw[l5 h]; simp[ke]
variable {x:Ex}
theorem ID{l:List Ex}(h:l[k]? =some x):mR (l.take (k+1))=mR (l.take k)+x.1.size:=by
 rw[l5 h]; simp[mR]
theorem My{l:List Sg}(h:l.length=n):tu (l.take n)=tu l:=xN
theorem H6{l:List FuM}(h:l.length=n):ke (l.take n)=ke l:=xN
theorem Ks{l:List Ex}(h:l.length=n):mR (l.take n)=mR l:=xN
theorem FH:∀(xs:List InM)(z:Nat),(∀(j:Nat)x,xs[j]? =some x->x.2.2.1.2.1<=140737488355328)->z<=281474976710656->szG xs z<=281474976710656
 | [],z,_,hz=>hz
 | x::r,z,hl,hz=>by
  unfold szG
  split
  ·refine FH r _ (fun j y hj=>hl (j+1) y (by simpa using hj)) ?_
   have:=hl 0 x rfl;omega
  exact hz
structure SzC(w:World)(m:MM):Prop where
 tn:m.tn<=140737488355328
 hn:m.hn<=140737488355328
 gn:m.gn<=140737488355328
 fn:m.fn<=140737488355328
 dn:m.dn<=140737488355328
 en:m.en<=140737488355328
 t:∀(j:Nat)x,m.types[j]? =some x->x.1.size<=140737488355328/\x.2.size<=140737488355328
 f:∀(j:Nat)x,m.fns[j]? =some x->x.2.1.size<=140737488355328/\x.2.2.1.2.1<=140737488355328/\AtIn w x.2.2.1.1 x.2.2.1.2.1 x.2.2.2/\∀(i:Nat)y,x.2.2.2[i]? =some y->y.2.2.1.2.1<=140737488355328
 d:∀(j:Nat)x,m.data[j]? =some x->x.2.1.2.1<=140737488355328
 e:∀(j:Nat)x,m.exps[j]? =some x->x.1.size<=140737488355328
theorem Ck(b off cn cap:Nat)(xs:List InM)(w:World)(hn:cn<=140737488355328)(hx:xs.length=cn)
  (hc:∀(j:Nat)x,xs[j]? =some x->w.cell? ⟨b,off+j*3+2,none⟩=some (.slice x.2.2.1.1 x.2.2.1.2.1 x.2.2.1.2.2)) (hl:∀(j:Nat)x,xs[j]? =some x->x.2.2.1.2.1<=140737488355328) :
  Calls prog 13 #[.slice (some ⟨b,off,none⟩) cn cap] w fun e w'=>e=.returned (.int .i64 (szG xs cn:Nat))/\∃q,w'=w.drewN q:=by
 have HC:=hid hc;have HL:=hid hl;clear hc hl;go_enter func13,ntmps13;go_wp2_with fail
 go_loopw [3,4] (fun s i wr=>∃k z:Nat,k<=cn/\s=.int .i64 (z:Nat)/\i=.int .i64 k/\(∃m,wr=w.drewN m)/\z<=281474976710656/\szG (xs.drop k) z=szG xs cn) (fun _ i _=>cn-(intOf i).toNat)
 case atStart=>exact⟨0,cn,ae,rfl,rfl,⟨0,rfl⟩,ae,rfl⟩
 case round =>
  obtain⟨k,z,hk,rfl,rfl,⟨m,rfl⟩,hsz,hG⟩:=hrel;have HG:=hid hG;clear hG
  by_cases hlt:k<cn
  ·obtain⟨x,hxk⟩:∃x,xs[k]? =some x:=⟨_,aY ae⟩
   have hdr:xs.drop k=x::xs.drop (k+1):=by
    have hlk:k<xs.length:=ae;rw[List.drop_eq_getElem_cons hlk];have:=aY hlk;rw[hxk]at this;rw[Option.some.inj this]
   have HD:=hid hdr;clear hdr
   by_cases hbd:z<=2147483647
   ·have g:=HC.out k x hxk;have hln:=HL.out k x hxk;have hlt':(k:Int)<(cn:Int):=ae;have hbd':(z:Int)<=2147483647:=ae;go_wp2_with fail;refine⟨⟨k+1,z+x.2.2.1.2.1,ae,bH,bH,⟨m,rfl⟩,ae,?_⟩,bI⟩;have h:=HG.out;rw[HD.out,Er hbd]at h;exact h
   have hlt':(k:Int)<(cn:Int):=ae;have hbd':¬(z:Int)<=2147483647:=ae;go_wp2_with fail;go_ret;have h:=HG.out;rw[HD.out,Fu hbd]at h;exact⟨by rw[<- h]; rfl,m,rfl⟩
  obtain rfl:k=cn:=ae;go_wp2_with fail;go_ret;have h:=HG.out;rw[List.drop_eq_nil_of_le ae]at h;exact⟨by rw[<- h]; rfl,m,rfl⟩
theorem PM(a:OAz)(cn cap:Nat)(xs:List InM)(w:World)(hn:cn<=140737488355328)(hc:AtIn w a cn xs)(hl:∀(j:Nat)x,xs[j]? =some x->x.2.2.1.2.1<=140737488355328) :
  Calls prog 13 #[.slice a cn cap] w fun e w'=>e=.returned (.int .i64 (szG xs cn:Nat))/\∃q,w'=w.drewN q:=by
 by_cases h0:cn=0
 ·subst h0;have:xs=[]:=List.length_eq_zero_iff.1 hc.1;subst this
  exact(CN a cap w).mono fun e w' ⟨he,hw⟩=>⟨he,0,hw⟩
 rcases hc.2 with h | ⟨b,off,rfl,hcd⟩
 ·exact absurd h h0
 exact Ck b off cn cap xs w hn hc.1 (fun j x hj=>(hcd j x hj).2.2) hl
open Go.ChangeShapes Go.WideShapes Go.ChangeAt Go.RowKit
theorem yK{α:Type}{P:Nat->α->Prop}:∀(n:Nat),(∀j,j<n->∃x,P j x)->∃xs:List α,xs.length=n/\∀j x,xs[j]? =some x->P j x
 | 0,_=>⟨[],rfl,fun j x h=>fZ⟩
 | n+1,h=>by
  obtain⟨xs,hl,hx⟩:=yK n (fun j hj=>h j ae);obtain⟨y,hy⟩:=h n ae;refine⟨xs++[y],by simp[hl],fun j x hj=>?_⟩
  by_cases hjn:j<xs.length
  ·rw[List.getElem?_append_left hjn]at hj;exact hx j x hj
  rw[List.getElem?_append_right ae]at hj
  have hj0:j-xs.length=0:=by
   rcases Nat.eq_zero_or_pos (j-xs.length) with h | h
   ·exact h
   rw[List.getElem?_eq_none aK]at hj; cases hj
  rw[hj0]at hj;simp at hj;subst hj;obtain rfl:j=n:=ae;exact hy
theorem kg{H:Type}{P:Program}{e:TypeId}:∀{l:List (DataW H)} {d:DataW H},d∈l->∀n∈d.weights P e,n∈DataW.weightsAll P e l
 | x::r,d,h,n,hn=>by
  simp only[DataW.weightsAll,List.mem_append]
  rcases List.mem_cons.1 h with rfl | h
  ·exact .inl hn
  exact .inr (kg h n hn)
variable {P:Program}{t u:TypeId}{j r:Nat}
theorem bp{H:Type}{fs:Array Field}{ys:List (DataW H×List MemPlace)}{y:DataW H×List MemPlace}(ht:P.underlying t=some (.struct fs))(hj:(fs.toList.map (·.type))[j]? =some u)(hy:ys[j]? =some y)(hw:∀n∈(DataW.agg (ys.map (·.1))).weights P t,n<=r):∀n∈y.1.weights P u,n<=r:=by
 intro n hn;refine hw n ?_;simp only[DataW.weights,ht];exact DataW.weights_mem_each hj (by rw[List.getElem?_map,hy]; rfl) n hn
structure fD{α:Type}(W:World)(c:Nat)(F:α->List Value)(a:OAz)(n cap:Nat)(xs:List α):Prop where
 cap_:n<=cap
 big:n<=140737488355328
 len:xs.length=n
 lt:∀b off s,nz n a=some ⟨b,off,s⟩->b<W.heap.size
 at_:n=0\/∃b off,a=some ⟨b,off,none⟩/\∀j x,xs[j]? =some x->∀i v,(F x)[i]? =some v->W.cell? ⟨b,off+j*c+i,none⟩=some v
section
variable {H:Type} {enc:TypeId×Value->H} {W:World}
variable {c fuel:Nat}{cs:List Value}
theorem dN{α:Type}(F:α->List Value)(G:α->Prop)(ht:prog.underlying t=some (.slice e))(hc:prog.cellsOf e=c)(h1:1<=c)(hB:prog.bytesOf e=B)(hB1:1<=B)
  (hel:∀fuel ys y,DataW.trod enc prog W 0 (fun _=>true) true fuel e ys=some y->(∀n∈y.1.weights prog e,n<=reachBytes)->∃a:α,ys=F a/\G a)
    {x:DataW H×List MemPlace} (h:DataW.trod enc prog W 0 (fun _=>true) true fuel t cs=some x) (hw:∀n∈x.1.weights prog t,n<=reachBytes) :
  ∃(a:OAz)(n cap:Nat)(xs:List α),cs=[.slice a n cap]/\fD W c F a n cap xs/\∀(j:Nat)x,xs[j]? =some x->G x:=by
 rcases DataW.trod_slice ht h with ⟨hcs,_⟩ | ⟨x,len,cap,elems,rest,n,_,hcs,hx,hb,hl,hm,hlen,hem,hsp,hns⟩
 ·exact⟨none,0,0,[],hcs,⟨Nat.le_refl _,ae,rfl,fun b off s h=>by simp[nz]at h,.inl rfl⟩,fun j x hj=>by simp at hj⟩
 have hd:=congrArg Prod.fst hx;simp only at hd;rw[hd]at hw
 have hbound:len<=140737488355328:=by
  have h2:=hw ((elems.length+rest.length)*B) (by simp[DataW.weights,ht,hB]);simp only[reachBytes]at h2;have h3:(elems.length+rest.length)*1<=(elems.length+rest.length)*B:=Nat.mul_le_mul_left _ hB1;omega
 by_cases h0:len=0
 ·subst h0
  exact⟨_,0,cap,[],hcs,⟨Nat.zero_le _,ae,rfl,fun b off s h=>by simp[nz]at h,.inl rfl⟩,fun j x hj=>by simp at hj⟩
 obtain⟨b,off,spot⟩:=x
 have hadd0:∀(y:Addr),y.add 0=y:=by intro y; cases y with | mk p q r=>cases r <;> simp[Addr.add]
 have hstep:∀j,j<len->∃y:α,(F y).length=c/\G y/\∀i,i<c->W.cell? (((⟨b,off,spot⟩:Addr).add (j*c)).add i)=(F y)[i]?:=by
  intro j hj;have he:=hem j hj;rw[aY ae]at he;obtain⟨ys,hys,htr⟩:=Option.bind_eq_some_iff.1 he;rw[hc]at hys;obtain⟨_,hlc,hcell⟩:=World.cells?_some hys;have hmem:(elems[j]'(ae)).1∈elems.map (·.1):=List.mem_map.2 ⟨_,List.getElem_mem _,rfl⟩
  obtain⟨y,rfl,hG⟩:=hel _ _ _ htr (fun n hn=>hw n (by
   have hin:=kg (P:=prog) (e:=e) hmem n hn;simp only[DataW.weights,ht,List.mem_cons,List.mem_append]
   exact .inr (.inl hin)))
  exact⟨y,hlc,hG,hcell⟩
 have hspot:spot=none:=by
  obtain⟨y,hy,_,hcl⟩:=hstep 0 ae;have h2:=hcl 0 ae;rw[aY ae]at h2;have:=World.cell?_spot h2
  simpa[Addr.add] using this
 subst hspot
 have hplain:∀(p q i:Nat),(⟨p,q,none⟩:Addr).add i=⟨p,q+i,none⟩:=by intro p q i; unfold Addr.add; split <;> simp_all
 obtain⟨xs,hxl,hxs⟩:=yK (P:=fun j (y:α)=>(F y).length=c/\G y/\∀i,i<c->W.cell? ⟨b,off+j*c+i,none⟩=(F y)[i]?) len (fun j hj=>by
  obtain⟨y,q1,q2,q3⟩:=hstep j hj
  exact⟨y,q1,q2,fun i hi=>by have:=q3 i hi; rwa [hplain,hplain]at this⟩)
 refine⟨_,len,cap,xs,hcs,⟨hl,hbound,hxl,fun b' off' s' hb'=>?_,.inr ⟨b,off,rfl,fun j x hj i v hv=>?_⟩⟩,fun j x hj=>(hxs j x hj).2.1⟩
 ·have e:=EC hb'
  cases e
  obtain⟨y,hy,_,hcl⟩:=hstep 0 ae;have h2:=hcl 0 ae;rw[aY ae,hplain,hplain]at h2;exact World.block_lt_of_cell? W _ h2
 have hi:i<(F x).length:=(List.getElem?_eq_some_iff.1 hv).1;have q:=hxs j x hj;rw[q.1]at hi;rw[q.2.2 i hi];exact hv
theorem lS(ht:prog.underlying t=some .string){x:DataW H×List MemPlace}(h:DataW.trod enc prog W 0 (fun _=>true) true fuel t cs=some x)(hw:∀n∈x.1.weights prog t,n<=reachBytes):∃s:ByteArray,cs=[.string s]/\s.size<=140737488355328:=by
 obtain⟨s,hs,hx,_⟩:=DataW.trod_string ht h;refine⟨s,hs,?_⟩;rw[hx]at hw;have:=hw s.data.toList.length GN;exact Gq
theorem yV:prog.cellsOf 55=2:=ar
theorem jK:prog.cellsOf 3=1:=ar
theorem uz:prog.cellsOf 80=3:=ar
theorem zw:prog.cellsOf 61=3:=ar
theorem AA:prog.cellsOf 51=2:=ar
theorem yz:prog.cellsOf 64=2:=ar
theorem zt:prog.cellsOf 82=3:=ar
theorem xg:prog.cellsOf 5=1:=ar
theorem rG:prog.cellsOf 9=1:=ar
theorem PV:prog.cellsOf 4=1:=ar
theorem JJ:prog.cellsOf 53=1:=ar
theorem Qc:prog.cellsOf 2=1:=ar
theorem Nf:prog.cellsOf 59=1:=ar
theorem zK:prog.cellsOf 23=1:=ar
theorem MS:prog.cellsOf 49=1:=ar
theorem LC:prog.cellsOf 22=1:=ar
theorem Ot:prog.cellsOf 24=1:=ar
theorem KS:prog.cellsOf 25=1:=ar
theorem LF:prog.cellsOf 26=1:=ar
theorem Mg:prog.cellsOf 27=1:=ar
theorem ML:prog.cellsOf 29=8:=ar
theorem L9:prog.bytesOf 55=32:=ar
theorem Ec:prog.bytesOf 3=8:=ar
theorem Jm:prog.bytesOf 80=16:=ar
theorem Mt:prog.bytesOf 61=48:=ar
theorem K0:prog.bytesOf 51=32:=ar
theorem Mp:prog.bytesOf 64=24:=ar
theorem LG:prog.bytesOf 82=40:=ar
theorem Qn:prog.bytesOf 5=1:=ar
theorem vN{x:DataW H×List MemPlace}(h:DataW.trod enc prog W 0 (fun _=>true) true fuel 3 cs=some x)(hw:∀n∈x.1.weights prog 3,n<=reachBytes):∃a:Int,cs=[.int .i64 a]/\(-9223372036854775808<=a/\a<9223372036854775808):=by
 obtain⟨n,h1,_,wf⟩:=DataW.trod_int underlying3 h;have:=bounds_i64 wf;exact⟨n,h1,ae,ae⟩
theorem Sq{x:DataW H×List MemPlace}(h:DataW.trod enc prog W 0 (fun _=>true) true fuel 5 cs=some x)(hw:∀n∈x.1.weights prog 5,n<=reachBytes):∃a:Int,cs=[.int .u8 a]/\(0<=a/\a<=255):=by
 obtain⟨n,h1,_,wf⟩:=DataW.trod_int underlying5 h;have:=bounds_u8 wf;exact⟨n,h1,ae,ae⟩
def J1(x:ByteArray×ByteArray):List Value:=[.string x.1,.string x.2]
def PW(W:World)(x:ByteArray×ByteArray):Prop:=x.1.size<=140737488355328/\x.2.size<=140737488355328
theorem K8{x:DataW H×List MemPlace}(h:DataW.trod enc prog W 0 (fun _=>true) true fuel 55 cs=some x)(hw:∀n∈x.1.weights prog 55,n<=reachBytes):∃a:ByteArray×ByteArray,cs=J1 a/\PW W a:=by
 obtain⟨ys,m,_,hx,hl,hyl,hel⟩:=DataW.trod_struct underlying55 h;rw[yV]at hl;have hd:=congrArg Prod.fst hx;simp only at hd;rw[hd]at hw
 match ys,hyl with
 | [y0,y1],_ =>
  match cs,hl with
  | [x0,x1],_ =>
   have e0:DataW.trod enc prog W 0 (fun _=>true) true m 9 (([x0,x1].drop 0).take (prog.cellsOf 9))=some y0:=hel 0 _ rfl;have w0:=bp (j:=0) (u:=9) (y:=y0) underlying55 rfl rfl hw;rw[rG]at e0;obtain⟨p,h0,z0⟩:=lS underlying9 e0 w0;have e1:DataW.trod enc prog W 0 (fun _=>true) true m 9 (([x0,x1].drop 1).take (prog.cellsOf 9))=some y1:=hel 1 _ rfl;have w1:=bp (j:=1) (u:=9) (y:=y1) underlying55 rfl rfl hw;rw[rG]at e1;obtain⟨q,h1,z1⟩:=lS underlying9 e1 w1;simp at h0 h1;subst h0 h1;exact⟨(p,q),rfl,z0,z1⟩
def FGl(x:Int×Bool×Int):List Value:=[.int .u8 x.1,.bool x.2.1,.int .u64 x.2.2]
def GGl(W:World)(x:Int×Bool×Int):Prop:=0<=x.1/\x.1<=255/\0<=x.2.2/\x.2.2<18446744073709551616
theorem PZ{x:DataW H×List MemPlace}(h:DataW.trod enc prog W 0 (fun _=>true) true fuel 80 cs=some x)(hw:∀n∈x.1.weights prog 80,n<=reachBytes):∃a:Int×Bool×Int,cs=FGl a/\GGl W a:=by
 obtain⟨ys,m,_,hx,hl,hyl,hel⟩:=DataW.trod_struct underlying80 h;rw[uz]at hl;have hd:=congrArg Prod.fst hx;simp only at hd;rw[hd]at hw
 match ys,hyl with
 | [y0,y1,y2],_ =>
  match cs,hl with
  | [x0,x1,x2],_ =>
   have e0:DataW.trod enc prog W 0 (fun _=>true) true m 5 (([x0,x1,x2].drop 0).take (prog.cellsOf 5))=some y0:=hel 0 _ rfl;have w0:=bp (j:=0) (u:=5) (y:=y0) underlying80 rfl rfl hw;rw[xg]at e0;obtain⟨p,h0,_,wf0⟩:=DataW.trod_int underlying5 e0;have b0:=bounds_u8 wf0;have e1:DataW.trod enc prog W 0 (fun _=>true) true m 4 (([x0,x1,x2].drop 1).take (prog.cellsOf 4))=some y1:=hel 1 _ rfl;have w1:=bp (j:=1) (u:=4) (y:=y1) underlying80 rfl rfl hw;rw[PV]at e1;obtain⟨q,h1,_⟩:=DataW.trod_bool underlying4 e1;have e2:DataW.trod enc prog W 0 (fun _=>true) true m 53 (([x0,x1,x2].drop 2).take (prog.cellsOf 53))=some y2:=hel 2 _ rfl;have w2:=bp (j:=2) (u:=53) (y:=y2) underlying80 rfl rfl hw;rw[JJ]at e2;obtain⟨r,h2,_,wf2⟩:=DataW.trod_int underlying53 e2;have b2:=bounds_u64 wf2;simp at h0 h1 h2;subst h0 h1 h2;exact⟨(p,q,r),rfl,iC,iC,iC,iC⟩
def FEx(x:ByteArray×Int):List Value:=[.string x.1,.int .i64 x.2]
def GEx(W:World)(x:ByteArray×Int):Prop:=x.1.size<=140737488355328/\-9223372036854775808<=x.2/\x.2<9223372036854775808
theorem PK{x:DataW H×List MemPlace}(h:DataW.trod enc prog W 0 (fun _=>true) true fuel 64 cs=some x)(hw:∀n∈x.1.weights prog 64,n<=reachBytes):∃a:ByteArray×Int,cs=FEx a/\GEx W a:=by
 obtain⟨ys,m,_,hx,hl,hyl,hel⟩:=DataW.trod_struct underlying64 h;rw[yz]at hl;have hd:=congrArg Prod.fst hx;simp only at hd;rw[hd]at hw
 match ys,hyl with
 | [y0,y1],_ =>
  match cs,hl with
  | [x0,x1],_ =>
   have e0:DataW.trod enc prog W 0 (fun _=>true) true m 9 (([x0,x1].drop 0).take (prog.cellsOf 9))=some y0:=hel 0 _ rfl;have w0:=bp (j:=0) (u:=9) (y:=y0) underlying64 rfl rfl hw;rw[rG]at e0;obtain⟨p,h0,z0⟩:=lS underlying9 e0 w0;have e1:DataW.trod enc prog W 0 (fun _=>true) true m 3 (([x0,x1].drop 1).take (prog.cellsOf 3))=some y1:=hel 1 _ rfl;have w1:=bp (j:=1) (u:=3) (y:=y1) underlying64 rfl rfl hw;rw[jK]at e1;obtain⟨q,h1,_,wf1⟩:=DataW.trod_int underlying3 e1;have b1:=bounds_i64 wf1;simp at h0 h1;subst h0 h1;exact⟨(p,q),rfl,z0,iC,iC⟩
def FIn(x:Int×Int×(Option Addr×Nat×Nat)×List Int):List Value:=[.int .u8 x.1,.int .i64 x.2.1,.slice x.2.2.1.1 x.2.2.1.2.1 x.2.2.1.2.2]
def GIn(W:World)(x:Int×Int×(Option Addr×Nat×Nat)×List Int):Prop:=0<=x.1/\x.1<=255/\fD W 1 (fun(z:Int)=>[Value.int .i64 z]) x.2.2.1.1 x.2.2.1.2.1 x.2.2.1.2.2 x.2.2.2/\∀(j:Nat)a,x.2.2.2[j]? =some a->-9223372036854775808<=a/\a<9223372036854775808
theorem Qs{x:DataW H×List MemPlace}(h:DataW.trod enc prog W 0 (fun _=>true) true fuel 82 cs=some x)(hw:∀n∈x.1.weights prog 82,n<=reachBytes):∃a:Int×Int×(Option Addr×Nat×Nat)×List Int,cs=FIn a/\GIn W a:=by
 obtain⟨ys,m,_,hx,hl,hyl,hel⟩:=DataW.trod_struct underlying82 h;rw[zt]at hl;have hd:=congrArg Prod.fst hx;simp only at hd;rw[hd]at hw
 match ys,hyl with
 | [y0,y1,y2],_ =>
  match cs,hl with
  | [x0,x1,x2],_ =>
   have e0:DataW.trod enc prog W 0 (fun _=>true) true m 5 (([x0,x1,x2].drop 0).take (prog.cellsOf 5))=some y0:=hel 0 _ rfl;have w0:=bp (j:=0) (u:=5) (y:=y0) underlying82 rfl rfl hw;rw[xg]at e0;obtain⟨p,h0,_,wf0⟩:=DataW.trod_int underlying5 e0;have b0:=bounds_u8 wf0;have e1:DataW.trod enc prog W 0 (fun _=>true) true m 2 (([x0,x1,x2].drop 1).take (prog.cellsOf 2))=some y1:=hel 1 _ rfl;have w1:=bp (j:=1) (u:=2) (y:=y1) underlying82 rfl rfl hw;rw[Qc]at e1;obtain⟨q,h1,_,wf1⟩:=DataW.trod_int underlying2 e1;have b1:=bounds_i64 wf1;have e2:DataW.trod enc prog W 0 (fun _=>true) true m 23 (([x0,x1,x2].drop 2).take (prog.cellsOf 23))=some y2:=hel 2 _ rfl;have w2:=bp (j:=2) (u:=23) (y:=y2) underlying82 rfl rfl hw;rw[zK]at e2;obtain⟨la,ln,lc,ls,h2,at2,el2⟩:=(dN (c:=1) (B:=8) (fun(z:Int)=>[Value.int .i64 z]) (fun(a:Int)=>-9223372036854775808<=a/\a<9223372036854775808) underlying23 jK aA Ec aA (fun _ _ _ h1 h2=>vN h1 h2)) e2 w2;simp at h0 h1 h2;subst h0 h1 h2;exact⟨(p,q,(la,ln,lc),ls),rfl,iC,iC,at2,el2⟩
def FFu(x:Int×ByteArray×(Option Addr×Nat×Nat)×List (Int×Int×(Option Addr×Nat×Nat)×List Int)):List Value:=[.int .i64 x.1,.string x.2.1,.slice x.2.2.1.1 x.2.2.1.2.1 x.2.2.1.2.2]
def GFu(W:World)(x:Int×ByteArray×(Option Addr×Nat×Nat)×List (Int×Int×(Option Addr×Nat×Nat)×List Int)):Prop:=(-9223372036854775808<=x.1/\x.1<9223372036854775808)/\x.2.1.size<=140737488355328/\fD W 3 FIn x.2.2.1.1 x.2.2.1.2.1 x.2.2.1.2.2 x.2.2.2/\∀(j:Nat)y,x.2.2.2[j]? =some y->GIn W y
theorem Qg{x:DataW H×List MemPlace}(h:DataW.trod enc prog W 0 (fun _=>true) true fuel 61 cs=some x)(hw:∀n∈x.1.weights prog 61,n<=reachBytes):∃a:Int×ByteArray×(Option Addr×Nat×Nat)×List (Int×Int×(Option Addr×Nat×Nat)×List Int),cs=FFu a/\GFu W a:=by
 obtain⟨ys,m,_,hx,hl,hyl,hel⟩:=DataW.trod_struct underlying61 h;rw[zw]at hl;have hd:=congrArg Prod.fst hx;simp only at hd;rw[hd]at hw
 match ys,hyl with
 | [y0,y1,y2],_ =>
  match cs,hl with
  | [x0,x1,x2],_ =>
   have e0:DataW.trod enc prog W 0 (fun _=>true) true m 3 (([x0,x1,x2].drop 0).take (prog.cellsOf 3))=some y0:=hel 0 _ rfl;have w0:=bp (j:=0) (u:=3) (y:=y0) underlying61 rfl rfl hw;rw[jK]at e0;obtain⟨p,h0,_,wf0⟩:=DataW.trod_int underlying3 e0;have b0:=bounds_i64 wf0;have e1:DataW.trod enc prog W 0 (fun _=>true) true m 9 (([x0,x1,x2].drop 1).take (prog.cellsOf 9))=some y1:=hel 1 _ rfl;have w1:=bp (j:=1) (u:=9) (y:=y1) underlying61 rfl rfl hw;rw[rG]at e1;obtain⟨q,h1,z1⟩:=lS underlying9 e1 w1;have e2:DataW.trod enc prog W 0 (fun _=>true) true m 59 (([x0,x1,x2].drop 2).take (prog.cellsOf 59))=some y2:=hel 2 _ rfl;have w2:=bp (j:=2) (u:=59) (y:=y2) underlying61 rfl rfl hw;rw[Nf]at e2;obtain⟨la,ln,lc,ls,h2,at2,el2⟩:=(dN (c:=3) (B:=40) FIn (GIn W) underlying59 zt aA LG aA (fun _ _ _ h1 h2=>Qs h1 h2)) e2 w2;simp at h0 h1 h2;subst h0 h1 h2;exact⟨(p,q,(la,ln,lc),ls),rfl,⟨iC,iC⟩,z1,at2,el2⟩
def FDa(x:Int×(Option Addr×Nat×Nat)×List Int):List Value:=[.int .i64 x.1,.slice x.2.1.1 x.2.1.2.1 x.2.1.2.2]
def GDa(W:World)(x:Int×(Option Addr×Nat×Nat)×List Int):Prop:=(-9223372036854775808<=x.1/\x.1<9223372036854775808)/\fD W 1 (fun(z:Int)=>[Value.int .u8 z]) x.2.1.1 x.2.1.2.1 x.2.1.2.2 x.2.2/\∀(j:Nat)a,x.2.2[j]? =some a->0<=a/\a<=255
theorem PQ{x:DataW H×List MemPlace}(h:DataW.trod enc prog W 0 (fun _=>true) true fuel 51 cs=some x)(hw:∀n∈x.1.weights prog 51,n<=reachBytes):∃a:Int×(Option Addr×Nat×Nat)×List Int,cs=FDa a/\GDa W a:=by
 obtain⟨ys,m,_,hx,hl,hyl,hel⟩:=DataW.trod_struct underlying51 h;rw[AA]at hl;have hd:=congrArg Prod.fst hx;simp only at hd;rw[hd]at hw
 match ys,hyl with
 | [y0,y1],_ =>
  match cs,hl with
  | [x0,x1],_ =>
   have e0:DataW.trod enc prog W 0 (fun _=>true) true m 3 (([x0,x1].drop 0).take (prog.cellsOf 3))=some y0:=hel 0 _ rfl;have w0:=bp (j:=0) (u:=3) (y:=y0) underlying51 rfl rfl hw;rw[jK]at e0;obtain⟨p,h0,_,wf0⟩:=DataW.trod_int underlying3 e0;have b0:=bounds_i64 wf0;have e1:DataW.trod enc prog W 0 (fun _=>true) true m 49 (([x0,x1].drop 1).take (prog.cellsOf 49))=some y1:=hel 1 _ rfl;have w1:=bp (j:=1) (u:=49) (y:=y1) underlying51 rfl rfl hw;rw[MS]at e1;obtain⟨la,ln,lc,ls,h1,at1,el1⟩:=(dN (c:=1) (B:=1) (fun(z:Int)=>[Value.int .u8 z]) (fun(a:Int)=>0<=a/\a<=255) underlying49 xg aA Qn aA (fun _ _ _ h1 h2=>Sq h1 h2)) e1 w1;simp at h0 h1;subst h0 h1;exact⟨(p,(la,ln,lc),ls),rfl,⟨iC,iC⟩,at1,el1⟩
theorem JY{x:DataW H×List MemPlace}(h:DataW.trod enc prog W 0 (fun _=>true) true fuel 29 cs=some x)(hw:∀n∈x.1.weights prog 29,n<=reachBytes) :
  ∃(ta:OAz)(tn tc:Nat)(ts:List (ByteArray×ByteArray)) (ha:OAz) (hn hc:Nat) (hs:LIz) (ga:OAz) (gn gc:Nat) (gs:List (Int×Bool×Int)) (fi mo:Int) (fa:OAz) (fn fc:Nat) (fs:List (Int×ByteArray×(Option Addr×Nat×Nat)×List (Int×Int×(Option Addr×Nat×Nat)×List Int))) (da:OAz) (dn dc:Nat) (ds:List (Int×(Option Addr×Nat×Nat)×List Int)) (ea:OAz) (en ec:Nat) (es:List (ByteArray×Int)),
   cs=[.slice ta tn tc,.slice ha hn hc,.slice ga gn gc,.int .i64 fi,.int .i64 mo,.slice fa fn fc,.slice da dn dc,.slice ea en ec] /\
   (fD W 2 J1 ta tn tc ts/\∀(j:Nat)x,ts[j]? =some x->PW W x)/\(fD W 1 (fun(z:Int)=>[Value.int .i64 z]) ha hn hc hs/\∀(j:Nat)a,hs[j]? =some a->-9223372036854775808<=a/\a<9223372036854775808)/\(fD W 3 FGl ga gn gc gs/\∀(j:Nat)x,gs[j]? =some x->GGl W x)/\(-9223372036854775808<=fi/\fi<9223372036854775808)/\(-9223372036854775808<=mo/\mo<9223372036854775808)/\(fD W 3 FFu fa fn fc fs/\∀(j:Nat)x,fs[j]? =some x->GFu W x)/\(fD W 2 FDa da dn dc ds/\∀(j:Nat)x,ds[j]? =some x->GDa W x)/\(fD W 2 FEx ea en ec es/\∀(j:Nat)x,es[j]? =some x->GEx W x):=by
 obtain⟨ys,m,_,hx,hl,hyl,hel⟩:=DataW.trod_struct underlying29 h;rw[ML]at hl;have hd:=congrArg Prod.fst hx;simp only at hd;rw[hd]at hw
 match ys,hyl with
 | [y0,y1,y2,y3,y4,y5,y6,y7],_ =>
  match cs,hl with
  | [x0,x1,x2,x3,x4,x5,x6,x7],_ =>
   have e0:DataW.trod enc prog W 0 (fun _=>true) true m 22 (([x0,x1,x2,x3,x4,x5,x6,x7].drop 0).take (prog.cellsOf 22))=some y0:=hel 0 _ rfl;have w0:=bp (j:=0) (u:=22) (y:=y0) underlying29 rfl rfl hw;rw[LC]at e0;obtain⟨ta,tn,tc,ts,h0,at0,el0⟩:=(dN (c:=2) (B:=32) J1 (PW W) underlying22 yV aA L9 aA (fun _ _ _ h1 h2=>K8 h1 h2)) e0 w0;have e1:DataW.trod enc prog W 0 (fun _=>true) true m 23 (([x0,x1,x2,x3,x4,x5,x6,x7].drop 1).take (prog.cellsOf 23))=some y1:=hel 1 _ rfl;have w1:=bp (j:=1) (u:=23) (y:=y1) underlying29 rfl rfl hw;rw[zK]at e1;obtain⟨ha,hn,hc,hs,h1,at1,el1⟩:=(dN (c:=1) (B:=8) (fun(z:Int)=>[Value.int .i64 z]) (fun(a:Int)=>-9223372036854775808<=a/\a<9223372036854775808) underlying23 jK aA Ec aA (fun _ _ _ h1 h2=>vN h1 h2)) e1 w1;have e2:DataW.trod enc prog W 0 (fun _=>true) true m 24 (([x0,x1,x2,x3,x4,x5,x6,x7].drop 2).take (prog.cellsOf 24))=some y2:=hel 2 _ rfl;have w2:=bp (j:=2) (u:=24) (y:=y2) underlying29 rfl rfl hw;rw[Ot]at e2;obtain⟨ga,gn,gc,gs,h2,at2,el2⟩:=(dN (c:=3) (B:=16) FGl (GGl W) underlying24 uz aA Jm aA (fun _ _ _ h1 h2=>PZ h1 h2)) e2 w2;have e3:DataW.trod enc prog W 0 (fun _=>true) true m 3 (([x0,x1,x2,x3,x4,x5,x6,x7].drop 3).take (prog.cellsOf 3))=some y3:=hel 3 _ rfl;have w3:=bp (j:=3) (u:=3) (y:=y3) underlying29 rfl rfl hw;rw[jK]at e3;obtain⟨fi,h3,b3⟩:=vN e3 w3;have e4:DataW.trod enc prog W 0 (fun _=>true) true m 3 (([x0,x1,x2,x3,x4,x5,x6,x7].drop 4).take (prog.cellsOf 3))=some y4:=hel 4 _ rfl;have w4:=bp (j:=4) (u:=3) (y:=y4) underlying29 rfl rfl hw;rw[jK]at e4;obtain⟨mo,h4,b4⟩:=vN e4 w4;have e5:DataW.trod enc prog W 0 (fun _=>true) true m 25 (([x0,x1,x2,x3,x4,x5,x6,x7].drop 5).take (prog.cellsOf 25))=some y5:=hel 5 _ rfl;have w5:=bp (j:=5) (u:=25) (y:=y5) underlying29 rfl rfl hw;rw[KS]at e5;obtain⟨fa,fn,fc,fs,h5,at5,el5⟩:=(dN (c:=3) (B:=48) FFu (GFu W) underlying25 zw aA Mt aA (fun _ _ _ h1 h2=>Qg h1 h2)) e5 w5;have e6:DataW.trod enc prog W 0 (fun _=>true) true m 26 (([x0,x1,x2,x3,x4,x5,x6,x7].drop 6).take (prog.cellsOf 26))=some y6:=hel 6 _ rfl;have w6:=bp (j:=6) (u:=26) (y:=y6) underlying29 rfl rfl hw;rw[LF]at e6;obtain⟨da,dn,dc,ds,h6,at6,el6⟩:=(dN (c:=2) (B:=32) FDa (GDa W) underlying26 AA aA K0 aA (fun _ _ _ h1 h2=>PQ h1 h2)) e6 w6;have e7:DataW.trod enc prog W 0 (fun _=>true) true m 27 (([x0,x1,x2,x3,x4,x5,x6,x7].drop 7).take (prog.cellsOf 27))=some y7:=hel 7 _ rfl;have w7:=bp (j:=7) (u:=27) (y:=y7) underlying29 rfl rfl hw;rw[Mg]at e7;obtain⟨ea,en,ec,es,h7,at7,el7⟩:=(dN (c:=2) (B:=24) FEx (GEx W) underlying27 yz aA Mp aA (fun _ _ _ h1 h2=>PK h1 h2)) e7 w7;simp at h0 h1 h2 h3 h4 h5 h6 h7;subst h0 h1 h2 h3 h4 h5 h6 h7;exact⟨ta,tn,tc,ts,ha,hn,hc,hs,ga,gn,gc,gs,fi,mo,fa,fn,fc,fs,da,dn,dc,ds,ea,en,ec,es,rfl,⟨at0,el0⟩,⟨at1,el1⟩,⟨at2,el2⟩,b3,b4,⟨at5,el5⟩,⟨at6,el6⟩,⟨at7,el7⟩⟩
end
structure Raw(W:World)(m:MM):Prop where
 t:fD W 2 J1 m.ta m.tn m.tc m.types
 tg:∀(j:Nat)x,m.types[j]? =some x->PW W x
 h:fD W 1 (fun(z:Int)=>[Value.int .i64 z]) m.ha m.hn m.hc m.hosts
 hg:∀(j:Nat)a,m.hosts[j]? =some a->-9223372036854775808<=a/\a<9223372036854775808
 g:fD W 3 FGl m.ga m.gn m.gc m.globals
 gg:∀(j:Nat)x,m.globals[j]? =some x->GGl W x
 i:-9223372036854775808<=m.fi/\m.fi<9223372036854775808
 o:-9223372036854775808<=m.mo/\m.mo<9223372036854775808
 f:fD W 3 FFu m.fa m.fn m.fc m.fns
 fg:∀(j:Nat)x,m.fns[j]? =some x->GFu W x
 d:fD W 2 FDa m.da m.dn m.dc m.data
 dg:∀(j:Nat)x,m.data[j]? =some x->GDa W x
 e:fD W 2 FEx m.ea m.en m.ec m.exps
 eg:∀(j:Nat)x,m.exps[j]? =some x->GEx W x
 top:∀a∈[m.ta,m.ha,m.ga,m.fa,m.da,m.ea],∀b off s,a=some ⟨b,off,s⟩->b<W.heap.size
def mr(m:MM):Prop:=tu m.types+ke m.fns+pF m.data+mR m.exps<=20000
variable {x:Nat}
theorem I4{l:List Nat}(h:x∈l):x<=l.sum:=by
 induction l with
 | nil=>cases h
 | cons a l ih =>
  rcases List.mem_cons.1 h with rfl | h
  ·simp
  have:=ih h; simp; omega
theorem oL{α:Type}{f:α->Nat}{l:List α}{x:α}(h:x∈l):f x<=(l.map f).sum:=I4 (List.mem_map.2 ⟨x,h,rfl⟩)
theorem tE:∀(xs:List InM)(z:Nat),szG xs z<=20000->z<=20000/\∀x∈xs,x.2.2.1.2.1<=20000
 | [],z,h=>⟨h,fun x hx=>by cases hx⟩
 | y::r,z,h=>by
  by_cases hz:z<=2147483647
  ·rw[Er hz]at h;obtain⟨h1,h2⟩:=tE r _ h
   refine⟨ae,fun x hx=>?_⟩
   rcases List.mem_cons.1 hx with rfl | hx
   ·omega
   exact h2 x hx
  rw[Fu hz]at h;omega
section
variable {W:World} {m:MM}
variable {a:OAz}
theorem fD.sig{n cap:Nat}{xs:List Sg}(h:fD W 2 J1 a n cap xs):iX W a n xs :=
 ⟨h.len,h.at_.imp id fun⟨b,off,e,hc⟩=>⟨b,off,e,fun j x hj=>⟨hc j x hj 0 _ rfl,hc j x hj 1 _ rfl⟩⟩⟩
variable {xs:LIz}
theorem fD.nu{n cap:Nat}(h:fD W 1 (fun(z:Int)=>[Value.int .i64 z]) a n cap xs):m9 W a n xs :=
 ⟨h.len,h.at_.imp id fun⟨b,off,e,hc⟩=>⟨b,off,e,fun j x hj=>by have:=hc j x hj 0 _ rfl; rwa [Nat.mul_one]at this⟩⟩
theorem fD.gl{n cap:Nat}{xs:List Gl}(h:fD W 3 FGl a n cap xs):kq W a n xs :=
 ⟨h.len,h.at_.imp id fun⟨b,off,e,hc⟩=>⟨b,off,e,fun j x hj=>⟨hc j x hj 0 _ rfl,hc j x hj 1 _ rfl,hc j x hj 2 _ rfl⟩⟩⟩
theorem fD.fu{n cap:Nat}{xs:List FuM}(h:fD W 3 FFu a n cap xs):od W a n xs :=
 ⟨h.len,h.at_.imp id fun⟨b,off,e,hc⟩=>⟨b,off,e,fun j x hj=>⟨hc j x hj 0 _ rfl,hc j x hj 1 _ rfl,hc j x hj 2 _ rfl⟩⟩⟩
theorem fD.in_{n cap:Nat}{xs:List InM}(h:fD W 3 FIn a n cap xs):AtIn W a n xs :=
 ⟨h.len,h.at_.imp id fun⟨b,off,e,hc⟩=>⟨b,off,e,fun j x hj=>⟨hc j x hj 0 _ rfl,hc j x hj 1 _ rfl,hc j x hj 2 _ rfl⟩⟩⟩
theorem fD.da{n cap:Nat}{xs:List DaM}(h:fD W 2 FDa a n cap xs):pS W a n xs :=
 ⟨h.len,h.at_.imp id fun⟨b,off,e,hc⟩=>⟨b,off,e,fun j x hj=>⟨hc j x hj 0 _ rfl,hc j x hj 1 _ rfl⟩⟩⟩
theorem fD.ex{n cap:Nat}{xs:List Ex}(h:fD W 2 FEx a n cap xs):qJ W a n xs :=
 ⟨h.len,h.at_.imp id fun⟨b,off,e,hc⟩=>⟨b,off,e,fun j x hj=>⟨hc j x hj 0 _ rfl,hc j x hj 1 _ rfl⟩⟩⟩
theorem fD.segI{n cap:Nat}(h:fD W 1 (fun(z:Int)=>[Value.int .i64 z]) a n cap xs)(hr:∀(j:Nat)a,xs[j]? =some a->-9223372036854775808<=a/\a<9223372036854775808)(hn:n<=20000):gU W a n cap xs:=by
 refine⟨h.len,h.cap_,ae,fun z hz=>?_,h.at_.imp id fun⟨b,off,e,hc⟩=>⟨b,off,e,fun j hj=>?_⟩⟩
 ·obtain⟨j,hj⟩:=List.getElem?_of_mem hz
  have:=hr j z hj;omega
 exact MU
theorem fD.segB{n cap:Nat}(h:fD W 1 (fun(z:Int)=>[Value.int .u8 z]) a n cap xs)(hr:∀(j:Nat)a,xs[j]? =some a->0<=a/\a<=255)(hn:n<=20000):Seg W a n cap xs:=by
 refine⟨h.len,h.cap_,ae,fun z hz=>?_,h.at_.imp id fun⟨b,off,e,hc⟩=>⟨b,off,e,fun j hj=>?_⟩⟩
 ·obtain⟨j,hj⟩:=List.getElem?_of_mem hz;exact hr j z hj
 exact MU
theorem mr.parts(h:mr m):(∀(j:Nat)x,m.types[j]? =some x->x.1.size+x.2.size<=20000)/\(∀(j:Nat)x,m.fns[j]? =some x->x.2.1.size<=20000/\∀(i:Nat)y,x.2.2.2[i]? =some y->y.2.2.1.2.1<=20000)/\(∀(j:Nat)x,m.data[j]? =some x->x.2.1.2.1<=20000)/\∀(j:Nat)x,m.exps[j]? =some x->x.1.size<=20000:=by
 unfold mr at h;refine⟨fun j x hj=>?_,fun j x hj=>?_,fun j x hj=>?_,fun j x hj=>?_⟩
 ·have:x.1.size+x.2.size<=tu m.types:=oL (f:=fun x:Sg=>x.1.size+x.2.size) (List.mem_of_getElem? hj)
  omega
 ·have:x.2.1.size+szG x.2.2.2 x.2.2.1.2.1<=ke m.fns:=oL (f:=fun x:FuM=>x.2.1.size+szG x.2.2.2 x.2.2.1.2.1) (List.mem_of_getElem? hj)
  exact⟨ae,fun i y hi=>(tE x.2.2.2 x.2.2.1.2.1 ae).2 y (List.mem_of_getElem? hi)⟩
 ·have:x.2.1.2.1<=pF m.data:=oL (f:=fun x:DaM=>x.2.1.2.1) (List.mem_of_getElem? hj)
  omega
 have:x.1.size<=mR m.exps:=oL (f:=fun x:Ex=>x.1.size) (List.mem_of_getElem? hj);omega
theorem Raw.ok(h:Raw W m)(hs:mr m):∀R g,W.heap.size<=R->W.heap.size<=g->MOk W R g m:=by
 intro R g hR hg;obtain⟨s1,s2,s3,s4⟩:=hs.parts
 have far:∀a∈[m.ta,m.ha,m.ga,m.fa,m.da,m.ea],Far W R g a:=fun a ha b off c hb=>by have:=h.top a ha b off c hb; omega
 have farN:∀{a:OAz} {n:Nat},(∀b off s,nz n a=some ⟨b,off,s⟩->b<W.heap.size)->Far W R g (nz n a):=fun hl b off c hb=>by have:=hl b off c hb; omega
 refine⟨h.t.sig,far _ aw,h.h.nu,far _ aw,h.hg,h.g.gl,far _ aw,h.gg,h.i.1,h.i.2,h.o.1,h.o.2,h.f.fu,far _ aw,fun j x hj=>?_,h.d.da,far _ aw,fun j x hj=>?_,h.e.ex,far _ aw,fun j x hj=>(h.eg j x hj).2⟩
 ·obtain⟨q1,q2,q3,q4⟩:=h.fg j x hj
  refine⟨q1,q3.in_,farN q3.lt,fun i y hi=>?_⟩;obtain⟨r1,r2,r3,r4⟩:=q4 i y hi;exact⟨r1,r2,r3.segI r4 ((s2 j x hj).2 i y hi),farN r3.lt⟩
 obtain⟨q1,q2,q3⟩:=h.dg j x hj;exact⟨q1,q2.segB q3 (s3 j x hj),farN q2.lt⟩
theorem Raw.szc(h:Raw W m):SzC W m :=
 ⟨h.t.big,h.h.big,h.g.big,h.f.big,h.d.big,h.e.big,h.tg,fun j x hj=>by
  obtain⟨q1,q2,q3,q4⟩:=h.fg j x hj
  exact⟨q2,q3.big,q3.in_,fun i y hi=>(q4 i y hi).2.2.1.big⟩,fun j x hj=>(h.dg j x hj).2.1.big,fun j x hj=>(h.eg j x hj).1⟩
theorem Raw.cap(h:Raw W m):∀x∈m.fns,x.2.2.1.2.1<=x.2.2.1.2.2:=fun x hx=>by
 obtain⟨j,hj⟩:=List.getElem?_of_mem hx;exact(h.fg j x hj).2.2.1.cap_
theorem Raw.later(h:Raw W m)(hb:Below W.heap.size W W'):SzC W' m/\iX W' m.ta m.tn m.types/\od W' m.fa m.fn m.fns/\pS W' m.da m.dn m.data/\qJ W' m.ea m.en m.exps:=by
 have hk:Kept (fun _=>False) W W':=aP hb;have z:=h.szc;exact⟨⟨z.tn,z.hn,z.gn,z.fn,z.dn,z.en,z.t,fun j x hj=>⟨(z.f j x hj).1,(z.f j x hj).2.1,(z.f j x hj).2.2.1.kept hk (fun _ _ _ _=>id),(z.f j x hj).2.2.2⟩,z.d,z.e⟩,h.t.sig.kept hk (fun _ _ _ _=>id),h.f.fu.kept hk (fun _ _ _ _=>id),h.d.da.kept hk (fun _ _ _ _=>id),h.e.ex.kept hk (fun _ _ _ _=>id)⟩
end
section
variable {H:Type} {enc:TypeId×Value->H} {W:World}
variable {a:Addr}{c:Nat}
theorem ND{r:Reach}{base:Nat}(h:Cell.okWide prog W r base u (.slice (some a) n c)):a.block<W.heap.size:=by
 unfold Cell.okWide at h
 cases hu:prog.underlying u with
 | none=>simp[hu,Cell.ok]at h
 | some d =>
  cases d <;> simp[hu,Cell.ok]at h
  obtain⟨_,_,_,_,row,cells,hsh,_⟩:=h;unfold World.shape? at hsh
  rcases Nat.lt_or_ge a.block W.heap.size with hl | hl
  ·exact hl
  rw[Array.getElem?_eq_none hl]at hsh; cases hsh
variable {v:Value}
theorem Ae{base:Nat}{d:DataW H}{ps:List MemPlace}(hval:Value.okWide prog W .any base 29 v)(h:DataW.Trod enc prog W 0 (fun _=>true) true 29 v d ps)(hw:∀n∈d.weights prog 29,n<=reachBytes) :
  ∃m:MM,v=.agg (mV m)/\Raw W m:=by
 have hval':=hval;obtain⟨cs,rfl,hsz⟩:=okWide_struct underlying29 hval;obtain⟨fuel,hf⟩:=h;obtain⟨ta,tn,tc,ts,ha,hn,hc,hs,ga,gn,gc,gs,fi,mo,fa,fn,fc,fs,da,dn,dc,ds,ea,en,ec,es,hcs,⟨t1,t2⟩,⟨h1,h2⟩,⟨g1,g2⟩,i1,o1,⟨f1,f2⟩,⟨d1,d2⟩,e1,e2⟩:=JY hf hw;have e:cs.toList=[.slice ta tn tc,.slice ha hn hc,.slice ga gn gc,.int .i64 fi,.int .i64 mo,.slice fa fn fc,.slice da dn dc,.slice ea en ec]:=hcs
 have ec':cs=#[.slice ta tn tc,.slice ha hn hc,.slice ga gn gc,.int .i64 fi,.int .i64 mo,.slice fa fn fc,.slice da dn dc,.slice ea en ec]:=by
  apply Array.toList_inj.1;rw[e]
 refine⟨⟨ta,tn,tc,ts,ha,hn,hc,hs,ga,gn,gc,gs,fi,mo,fa,fn,fc,fs,da,dn,dc,ds,ea,en,ec,es⟩,by rw[ec']; rfl,⟨t1,t2,h1,h2,g1,g2,i1,o1,f1,f2,d1,d2,e1,e2,?_⟩⟩
 obtain⟨cs',hv,_,⟨tt,htt,_,hall⟩⟩:∃cs',Value.agg cs=.agg cs'/\cs'.size=prog.cellsOf 29/\Row.okWide prog W .any base 29 cs':=by
  have:=hval';simp only[Value.okWide,underlying29]at this;exact this
 injection hv with hv;subst hv
 have look:∀(i:Nat)a n c,cs[i]? =some (.slice (some a) n c)->a.block<W.heap.size:=fun i a n c hi=>by
  obtain⟨u,_,hu⟩:=hall i _ hi;exact ND hu
 rw[ec']at look;intro a hm b off s hb;subst hb;simp only[List.mem_cons,List.not_mem_nil,or_false]at hm
 rcases hm with hm | hm | hm | hm | hm | hm
 ·exact look 0 ⟨b,off,s⟩ tn tc po
 ·exact look 1 ⟨b,off,s⟩ hn hc po
 ·exact look 2 ⟨b,off,s⟩ gn gc po
 ·exact look 5 ⟨b,off,s⟩ fn fc po
 ·exact look 6 ⟨b,off,s⟩ dn dc po
 exact look 7 ⟨b,off,s⟩ en ec po
end
theorem NK:prog.bytesOf 53=8:=ar
theorem NU:prog.cellsOf 53=1:=ar
section
variable {H:Type} {enc:TypeId×Value->H} {W:World}
variable {fuel:Nat}{cs:List Value}
theorem Ru{x:DataW H×List MemPlace}(h:DataW.trod enc prog W 0 (fun _=>true) true fuel 53 cs=some x)(hw:∀n∈x.1.weights prog 53,n<=reachBytes):∃a:Int,cs=[.int .u64 a]/\(0<=a/\a<18446744073709551616):=by
 obtain⟨n,h1,_,wf⟩:=DataW.trod_int underlying53 h;have:=bounds_u64 wf;exact⟨n,h1,ae,ae⟩
variable {v:Value}
theorem A8{base:Nat}{d:DataW H}{ps:List MemPlace}(hval:Value.okWide prog W .any base 30 v)(h:DataW.Trod enc prog W 0 (fun _=>true) true 30 v d ps)(hw:∀n∈d.weights prog 30,n<=reachBytes) :
  ∃(a:OAz)(n c:Nat)(zs:LIz),v=.slice a n c/\n<=281474976710656/\(n<=20000->sN W a n c zs):=by
 obtain⟨a0,n0,c0,rfl⟩:=okWide_slice underlying30 hval;obtain⟨fuel,hf⟩:=h;obtain⟨a,n,c,xs,hcs,hat,hsz⟩:=dN (c:=1) (B:=8) (fun(z:Int)=>[Value.int .u64 z]) (fun(z:Int)=>0<=z/\z<18446744073709551616) underlying30 NU aA NK aA (fun _ _ _ h1 h2=>Ru h1 h2) hf hw
 have e:Value.slice a0 n0 c0=.slice a n c:=by
  have:[Value.slice a0 n0 c0]=[.slice a n c]:=hcs;exact(List.cons.inj this).1
 cases e
 have hl:=hat.len;have hb:=hat.big;refine⟨a0,n0,c0,xs,rfl,ae,fun hn=>⟨hl,hat.cap_,ae,fun z hz=>?_,hat.at_.imp id fun⟨b,off,e,hc⟩=>⟨b,off,e,fun j hj=>?_⟩⟩⟩
 ·obtain⟨j,hj⟩:=List.getElem?_of_mem hz;exact hsz j z hj
 have hx:xs[j]? =some (xs[j]'(ae)):=aY _;have:=hc j _ hx 0 _ rfl;rw[Nat.mul_one]at this;rw[List.getD_eq_getElem?_getD,hx];exact this
end
abbrev pt(P:Nat):Value:=.pointer (some ⟨P,0,none⟩)
structure StM where
 fa:Option Addr
 fn:Nat
 fc:Nat
 fs:List FrM
 ga:Option Addr
 gn:Nat
 gc:Nat
 gs:List Int
 pa:Option Addr
 pn:Nat
 pc:Nat
 ps:List PgM
 rep:Int
 en:Int
 ra:Option Addr
 rn:Nat
 rc:Nat
 rs:List Int
 tr:Int
 us:Int
abbrev U5(s:StM):Array Value:=#[.slice s.fa s.fn s.fc,.slice s.ga s.gn s.gc,.slice s.pa s.pn s.pc,.int .i64 s.rep,.int .i8 s.en,.slice s.ra s.rn s.rc,.int .i8 s.tr,.int .i64 s.us]
structure SSt(w:World)(s:StM):Prop where
 fr:SFr w s.fa s.fn s.fs
 gl:SI .u64 w s.ga s.gn s.gs
 pg:SPg w s.pa s.pn s.ps
 rs:SI .u64 w s.ra s.rn s.rs
variable {w':World}{s:StM}
theorem SSt.later(h:SSt w s)(hb:Below w.heap.size w w'):SSt w' s:=⟨h.fr.later hb,h.gl.later hb,h.pg.later hb,h.rs.later hb⟩
theorem c36(P7 P8 P9:Nat)(b7 b8 b9:Bool)(w:World)(h7:w.cell? ⟨P7,0,none⟩=some (.bool b7))(h8:w.cell? ⟨P8,0,none⟩=some (.bool b8))(h9:w.cell? ⟨P9,0,none⟩=some (.bool b9)) :
  Calls prog 36 #[pt P7,pt P8,pt P9] w fun e w'=>e=.returned (.bool (b7 || (b8 || b9)))/\w'=w:=by
 cases b7 <;> cases b8
 all_goals (go_enter func36,ntmps36; go_wp2_with fail; go_ret; exact⟨rfl,rfl⟩)
def a2(b7:Bool)(n:Nat):Bool:=(b7==decide (0<n))&&decide (n<=64)
theorem c37(P7 S:Nat)(b7:Bool)(fa:OAz)(n c:Nat)(w:World)(hn:n<=281474976710656)(h7:w.cell? ⟨P7,0,none⟩=some (.bool b7))(h0:w.cell? ⟨S,0,none⟩=some (.slice fa n c)) :
  Calls prog 37 #[pt P7,pt S] w fun e w'=>e=.returned (.bool (a2 b7 n))/\w'=w:=by
 unfold a2
 by_cases h1:0<n
 ·have h1':(0:Int)<(n:Int):=ae;have d1:decide ((0:Int)<(n:Int))=true:=aK;have d2:decide (0<n)=true:=aK;rw[d2]
  by_cases h2:n<=64
  ·have h2':(n:Int)<=64:=ae;have d3:decide (n<=64)=true:=aK;exact EW
  have h2':¬(n:Int)<=64:=ae;have d3:decide (n<=64)=false:=aK;exact EW
 obtain rfl:n=0:=ae
 cases b7
 all_goals (go_enter func37,ntmps37; go_wp2_with fail; go_ret; exact⟨rfl,rfl⟩)
def a3(b8:Bool)(n:Nat):Bool:=decide (n=0) || (b8&&decide (n<=8))
theorem c38(P8 S:Nat)(b8:Bool)(ra:OAz)(n c:Nat)(w:World)(hn:n<=281474976710656)(h8:w.cell? ⟨P8,0,none⟩=some (.bool b8))(h0:w.cell? ⟨S,5,none⟩=some (.slice ra n c)) :
  Calls prog 38 #[pt S,pt P8] w fun e w'=>e=.returned (.bool (a3 b8 n))/\w'=w:=by
 unfold a3
 by_cases h1:n=0
 ·subst h1
  cases b8
  all_goals (go_enter func38,ntmps38; go_wp2_with fail; go_ret; exact⟨rfl,rfl⟩)
 have h1':((n:Int)==0)=false:=aK;have h1'':(n==0)=false:=aK;have d2:decide (n=0)=false:=aK;rw[d2]
 by_cases h2:n<=8
 ·have h2':(n:Int)<=8:=ae;have d3:decide (n<=8)=true:=aK;exact Eg
 have h2':¬(n:Int)<=8:=ae;have d3:decide (n<=8)=false:=aK;exact Eg
def a4(b9:Bool)(t:Int):Bool:=(b9==!decide (t=0))&&(decide (0<=t)&&decide (t<=6))
theorem VI(t:Int)(w:World):Calls prog 40 #[.int .i8 t] w fun e w'=>e=.returned (.bool (decide (0<=t)&&decide (t<=6)))/\w'=w:=by
 by_cases h1:0<=t
 ·have d1:decide (0<=t)=true:=aK;rw[d1]
  by_cases h2:t<=6
  ·have d2:decide (t<=6)=true:=aK;exact El
  have d2:decide (t<=6)=false:=aK;exact El
 have d1:decide (0<=t)=false:=aK;rw[d1];go_enter func40,ntmps40;exact jf
theorem c39(P9 S:Nat)(b9:Bool)(t:Int)(w:World)(h9:w.cell? ⟨P9,0,none⟩=some (.bool b9))(h6:w.cell? ⟨S,6,none⟩=some (.int .i8 t)) :
  Calls prog 39 #[pt P9,pt S] w fun e w'=>e=.returned (.bool (a4 b9 t))/\w'=w:=by
 unfold a4;have HT:=hid (VI t w);generalize (decide (0<=t)&&decide (t<=6))=B at *
 by_cases h1:t=0
 ·subst h1
  cases b9
  ·exact NG
  exact EU
 have h2:(t != 0)=true:=il;have d1:decide (t=0)=false:=il;rw[d1];have HD:=hid h1;clear h1 d1
 cases b9
 ·exact EU
 exact NG
theorem c41(S:Nat)(u:Int)(w:World)(h7:w.cell? ⟨S,7,none⟩=some (.int .i64 u)):Calls prog 41 #[pt S] w fun e w'=>e=.returned (.bool (decide (0<=u)&&decide (u<=4611686018427387904)))/\w'=w:=by
 by_cases h1:0<=u
 ·have d1:decide (0<=u)=true:=aK;rw[d1]
  by_cases h2:u<=4611686018427387904
  ·have d2:decide (u<=4611686018427387904)=true:=aK;exact DU
  have d2:decide (u<=4611686018427387904)=false:=aK;exact DU
 have d1:decide (0<=u)=false:=aK;rw[d1];go_enter func41,ntmps41;exact jf
theorem c42(S:Nat)(r:Int)(w:World)(h3:w.cell? ⟨S,3,none⟩=some (.int .i64 r)):Calls prog 42 #[pt S] w fun e w'=>e=.returned (.bool (decide (0<=r)))/\w'=w:=by
 go_enter func42,ntmps42;exact jf
theorem c64(n c:Int)(w:World):Calls prog 64 #[.int .i64 n,.int .i64 c] w fun e w'=>e=.returned (.bool (decide (0<=n)&&decide (n<c)))/\w'=w:=by
 by_cases h1:0<=n
 ·have d1:decide (0<=n)=true:=aK;exact FT
 have d1:decide (0<=n)=false:=aK;exact FT
def lZ{α β:Type}(f:α->β->Bool)(l1:List α)(l2:List β):Bool:=decide (l2.length=l1.length)&&(List.range l1.length).all fun i=>(l1[i]?).elim true fun x=>(l2[i]?).elim true (f x)
theorem SZ{α β:Type}{f:α->β->Bool}{l1:List α}{l2:List β}(h:l2.length≠l1.length):lZ f l1 l2=false:=by simp[lZ,h]
variable {i:Nat}
theorem QP{α β:Type}{f:α->β->Bool}{l1:List α}{l2:List β}{x:α}{y:β}(hx:l1[i]? =some x)(hy:l2[i]? =some y)(h:f x y=false):lZ f l1 l2=false:=by
 have hi:=az hx;unfold lZ;exact Gu
theorem N1{α β:Type}{f:α->β->Bool}{l1:List α}{l2:List β}(hl:l2.length=l1.length)(h:∀(i:Nat)x y,l1[i]? =some x->l2[i]? =some y->f x y=true):lZ f l1 l2=true:=by
 unfold lZ;exact Li
def glB(x:Gl)(v:Int):Bool:=dI v x.1&&(x.2.1 || decide (v=x.2.2))
theorem I1(b off b2 off2 n c c2:Nat)(xs:List Gl)(vs:LIz)(w:World)(hl:xs.length=n)(hv:vs.length=n)(hn:n<=1048576)
  (hc:∀(j:Nat)x,xs[j]? =some x->w.cell? ⟨b,off+j*3,none⟩=some (.int .u8 x.1)/\w.cell? ⟨b,off+j*3+1,none⟩=some (.bool x.2.1)/\w.cell? ⟨b,off+j*3+2,none⟩=some (.int .u64 x.2.2))
  (hc2:∀(j:Nat)x,vs[j]? =some x->w.cell? ⟨b2,off2+j,none⟩=some (.int .u64 x)) :
  Calls prog 44 #[.slice (some ⟨b,off,none⟩) n c,.slice (some ⟨b2,off2,none⟩) n c2] w fun e w'=>e=.returned (.bool (lZ glB xs vs))/\Below w.heap.size w w':=by
 have hne:((n:Int) != n)=false:=aw;have HC:=hid hc;have HC2:=hid hc2;clear hc hc2;go_enter func44,ntmps44;go_wp2_with fail
 go_loopw [14] (fun i wr=>∃k:Nat,k<=n/\i=.int .i64 k/\Hid (Below w.heap.size w wr/\∀(i:Nat)x y,i<k->xs[i]? =some x->vs[i]? =some y->glB x y=true)) (fun i _=>n-(intOf i).toNat)
 case atStart=>exact⟨0,ae,rfl,hid ⟨Below.refl _ _,fun i x y h=>absurd h (Nat.not_lt_zero _)⟩⟩
 case round =>
  obtain⟨k,hk,rfl,HR⟩:=hrel
  by_cases hlt:k<n
  ·obtain⟨⟨lt,mu,va⟩,hx⟩:∃x,xs[k]? =some x:=⟨_,aY ae⟩;obtain⟨v,hv'⟩:∃v,vs[k]? =some v:=⟨_,aY ae⟩;obtain⟨q0,q1,q2⟩:=HC.out k _ hx;have q3:=HC2.out k _ hv'
   simp only at q0 q1 q2;have g0:=ag HR.out.1 q0;have g1:=ag HR.out.1 q1;have g2:=ag HR.out.1 q2;have hal:=aj wr (aZ lt mu va);have g3:=ag hal (ag HR.out.1 q3);have HAL:=hid hal;have hlt':(k:Int)<(n:Int):=ae;have HX:=hid (And.intro hx hv');have HF:=hid (fun(W:World)=>yo v lt W)
   have hcx:∀(i:Nat)x y,i<k+1->glB (lt,mu,va) v=true->xs[i]? =some x->vs[i]? =some y->glB x y=true:=fun i x y hi hg hx' hy'=>by
    by_cases hik:i<k
    ·exact HR.out.2 i x y hik hx' hy'
    obtain rfl:i=k:=ae;rw[HX.out.1]at hx'; rw[HX.out.2]at hy';injection hx' with e1; injection hy' with e2;subst e1; subst e2;exact hg
   have HCX:=hid hcx;have hg:glB (lt,mu,va) v=(dI v lt&&(mu || decide (v=va))):=rfl;have HG:=hid hg;have n0:(wr.alloc (aZ lt mu va)).cell? ⟨wr.heap.size,0,none⟩=some (.int .u8 lt):=ai (hZn _ _);have n1:(wr.alloc (aZ lt mu va)).cell? ⟨wr.heap.size,1,none⟩=some (.bool mu):=ai (hZn _ _);have n2:(wr.alloc (aZ lt mu va)).cell? ⟨wr.heap.size,2,none⟩=some (.int .u64 va):=ai (hZn _ _);have HBW:Hid (Below w.heap.size w (wr.alloc (aZ lt mu va))):=hid (HR.out.1.trans (HAL.out.mono HR.out.1.size));clear q0 q1 q2 q3 hx hv' hal hcx hg HC HC2 HAL;generalize dI v lt=fb at *;go_wp2_with fail;generalize wr.alloc (aZ lt mu va)=W1 at *;clear g0 g1 g2;have hdr:∀q,Below w.heap.size w (W1.drewN q):=fun q=>HBW.out.trans ((below_drewN W1 q).mono HBW.out.size);have HDR:=hid hdr;clear hdr
   cases fb
   ·go_quiet ((go_at_call 25; refine Calls.quiet_of_same (HF.out _)))
    go_wp2_with fail;go_ret
    exact⟨by rw[QP HX.out.1 HX.out.2 HG.out]; rfl,HDR.out _⟩
   cases mu
   ·by_cases hvv:v=va
    ·subst hvv;have hvb:(v != v)=false:=aw;exact Nt
    have hvb:(v != va)=true:=by simpa using hvv
    have HV:=hid hvv;clear hvv
    go_quiet ((go_at_call 25; refine Calls.quiet_of_same (HF.out _)))
    go_wp2_with fail;go_ret
    exact⟨by rw[QP HX.out.1 HX.out.2 (HG.out.trans (by simp[HV.out]))]; rfl,HDR.out _⟩
   exact Nt
  have hlt':¬(k:Int)<(n:Int):=ae;have HK:Hid (k=n):=hid ae;go_wp2_with fail;go_ret;exact⟨by rw[N1 ae (fun i x y hx hy=>HR.out.2 i x y (by have:=az hx; have:=HK.out; omega) hx hy)]; rfl,HR.out.1⟩
theorem CZ(a a2:OAz)(n n2 c c2:Nat)(xs:List Gl)(vs:LIz)(w:World)(hl:xs.length=n)(hv:vs.length=n2)(hne:n2≠n) :
  Calls prog 44 #[.slice a n c,.slice a2 n2 c2] w fun e w'=>e=.returned (.bool (lZ glB xs vs))/\Below w.heap.size w w':=by
 have hb:((n2:Int) != n)=true:=aK;have HV:=hid (SZ (f:=glB) (l1:=xs) (l2:=vs) ae);go_enter func44,ntmps44
 go_wp2_with fail;go_ret;exact⟨cP,Below.refl _ _⟩
theorem zG(a a2:OAz)(c c2:Nat)(w:World) :
  Calls prog 44 #[.slice a 0 c,.slice a2 0 c2] w fun e w'=>e=.returned (.bool (lZ glB [] []))/\Below w.heap.size w w':=by
 go_enter func44,ntmps44
 go_wp2_with fail;refine wp_loop_rounds 1 ?_;rw[rounds_succ];go_wp2_with fail;go_ret;exact lR
theorem Td(a a2:OAz)(n n2 c c2:Nat)(xs:List Gl)(vs:LIz)(w:World)(h:kq w a n xs)(h2:SI .u64 w a2 n2 vs)(hn:n<=1048576) :
  Calls prog 44 #[.slice a n c,.slice a2 n2 c2] w fun e w'=>e=.returned (.bool (lZ glB xs vs))/\Below w.heap.size w w':=by
 by_cases hne:n2=n
 ·subst hne
  by_cases h0:n2=0
  ·subst h0;obtain rfl:=List.eq_nil_of_length_eq_zero h.1;obtain rfl:=List.eq_nil_of_length_eq_zero h2.1;exact zG a a2 c c2 w
  obtain⟨b,off,rfl,hc⟩:=h.2.resolve_left h0;obtain⟨b2,off2,rfl,hc2⟩:=h2.2.resolve_left h0;exact I1 b off b2 off2 n2 c c2 xs vs w h.1 h2.1 hn hc hc2
 exact CZ a a2 n n2 c c2 xs vs w h.1 h2.1 hne
def whB(n:Nat)(f m:Int)(l:List PgM):Bool:=!(decide ((n:Int)<f) || decide (m<(n:Int)))&&l.all fun x=>decide (x.1.2.1=4096)
theorem KQ(b off n c:Nat)(f m:Int)(l:List PgM)(w:World)(hl:l.length=n)(hn:n<=140737488355328)(hs:∀x∈l,x.1.2.1<=140737488355328)(h1:f<=(n:Int))(h2:(n:Int)<=m)
  (hc:∀(j:Nat)x,l[j]? =some x->w.cell? ⟨b,off+j,none⟩=some (.slice x.1.1 x.1.2.1 x.1.2.2)) :
  Calls prog 46 #[.slice (some ⟨b,off,none⟩) n c,.int .i64 f,.int .i64 m] w fun e w'=>e=.returned (.bool (l.all fun x=>decide (x.1.2.1=4096)))/\w'=w:=by
 have HC:=hid hc;have HS:=hid hs;have e1:¬((n:Int)<f):=ae;have e2:¬(m<(n:Int)):=ae;have d1:decide ((n:Int)<f)=false:=aK;have d2:decide (m<(n:Int))=false:=aK;clear hc hs h1 h2;go_enter func46,ntmps46;go_wp2_with fail
 go_loopw [21] (fun i wr=>∃k:Nat,k<=n/\i=.int .i64 k/\wr=w/\Hid (∀(i:Nat)x,i<k->l[i]? =some x->x.1.2.1=4096)) (fun i _=>n-(intOf i).toNat)
 case atStart=>exact⟨0,ae,rfl,rfl,hid (fun i x h=>absurd h (Nat.not_lt_zero _))⟩
 case round =>
  obtain⟨k,hk,rfl,hwr,HR⟩:=hrel;subst hwr
  by_cases hlt:k<n
  ·obtain⟨⟨⟨sa,sn,sc⟩,zs⟩,hx⟩:∃x,l[k]? =some x:=⟨_,aY ae⟩;have g0:=HC.out k _ hx
   simp only at g0;have hsn:=HS.out _ (List.mem_of_getElem? hx);simp only at hsn;have HX:=hid hx;have hlt':(k:Int)<(n:Int):=ae;clear hx HC HS
   by_cases h4:sn=4096
   ·subst h4;go_wp2_with fail
    exact⟨⟨k+1,ae,bH,by first | rfl | trivial,hid (fun i x hi hx=>by
     by_cases hik:i<k
     ·exact HR.out i x hik hx
     obtain rfl:i=k:=ae;rw[HX.out]at hx;injection hx with hx
     rw[<- hx])⟩,bI⟩
   have hb:((sn:Int) != 4096)=true:=aK;have hb2:(sn != 4096)=true:=mP;have H4:=hid h4;clear h4;go_wp2_with fail;go_ret;refine⟨?_,rfl⟩
   have:(l.all fun x=>decide (x.1.2.1=4096))=false:=by
    rw[List.all_eq_false];exact⟨_,List.mem_of_getElem? HX.out,by simpa using H4.out⟩
   rw[this]; rfl
  have hlt':¬(k:Int)<(n:Int):=ae;have HK:Hid (k=n):=hid ae;clear HC HS;go_wp2_with fail;go_ret;refine⟨?_,rfl⟩
  have:(l.all fun x=>decide (x.1.2.1=4096))=true:=by
   rw[List.all_eq_true];intro x hx;obtain⟨i,hi⟩:=List.getElem?_of_mem hx
   simpa using HR.out i x (by have:=az hi; have:=HK.out; omega) hi
  rw[this]; rfl
theorem Uq(a:OAz)(n c:Nat)(f m:Int)(l:List PgM)(w:World)(h:SPg w a n l)(hn:n<=140737488355328)(hs:∀x∈l,x.1.2.1<=140737488355328) :
  Calls prog 46 #[.slice a n c,.int .i64 f,.int .i64 m] w fun e w'=>e=.returned (.bool (whB n f m l))/\w'=w:=by
 by_cases h1:(n:Int)<f
 ·have hv:whB n f m l=false:=by simp[whB,h1]
  exact Hk
 by_cases h2:m<(n:Int)
 ·have hv:whB n f m l=false:=by simp[whB,h2]
  exact Hk
 have hv:whB n f m l=l.all fun x=>decide (x.1.2.1=4096):=by simp[whB,h1,h2]
 rw[hv]
 by_cases h0:n=0
 ·subst h0;obtain rfl:=List.eq_nil_of_length_eq_zero h.len;clear h hv hs;have e1:¬((0:Int)<f):=il
  have e2:¬(m<(0:Int)):=by simpa using h2
  have e3:decide ((0:Int)<f)=false:=il
  have e4:decide (m<(0:Int))=false:=by simpa using h2
  clear h1 h2;go_enter func46,ntmps46;exact ES
 obtain⟨b,off,rfl,hc⟩:=h.at_.resolve_left h0;exact KQ b off n c f m l w h.len hn hs ae ae hc
theorem Tw(k:Nat)(c:Int)(B:Nat)(a:OAz)(n cap:Nat)(zs:LIz)(w:World)(hm:w.cell? ⟨B,0,none⟩=some (.slice a n cap))(hs:SI .u64 w a n zs)(hn:n<=1099511627776)(hk:k<n) :
  Calls prog 24 #[.int .i64 k,.int .u8 c,pt B] w fun e w'=>e=.returned (.bool (dI (zs.getD k 0) c))/\w'=w:=by
 rcases hs.2 with h5 | ⟨b,off,rfl,hc⟩
 ·omega
 have hl:=hs.1;have hx:zs[k]? =some (zs[k]'(ae)):=aY _;have hcell:=hc k _ hx
 have e:zs.getD k 0=zs[k]'(ae):=by rw[List.getD_eq_getElem?_getD,hx]; rfl
 rw[e];generalize zs[k]'(ae)=v at *;have hk':(k:Int)<n:=ae;clear hc hx e hs;go_enter func24,ntmps24
 go_wp2_with fail;refine(yo _ _ _).mono ?_;rintro e w1⟨rfl,rfl⟩;exact np
theorem J3(a:OAz)(n cap:Nat)(zs:LIz)(s:BAz)(w:World)(h:SI .u64 w a n zs)(hn:n<=1099511627776)(hs:s.size<=1073741824) :
  Calls prog 15 #[.slice a n cap,.string s] w fun e w'=>e=.returned (.bool (mf zs s))/\Below w.heap.size w w':=by
 have hmf:∀(fn:Fn)(first cap:AVz)(w:World),(Instr.makeFunc fn first cap).run prog w=.ok (.func fn first cap) w:=fun _ _ _ _=>rfl
 have hb0:Below w.heap.size w (w.alloc (kN a n cap)):=(Below.refl _ _).alloc lRn _
 by_cases hne:n=s.size
 ·have hne':(n:Int)=s.size:=ae
  have HE:=hid (AY s 24 w.heap.size (fun i=>dI (zs.getD i 0) (dB s i)) (w.alloc (kN a n cap)) hs (fun _ _=>bV) (fun pos i hi _=>by
   rw[iu s i hi];have hbi:Below (w.heap.size+1) (w.alloc (kN a n cap)) ((w.alloc (kN a n cap)).iter s pos):=(Below.refl _ _).alloc aw _;refine Tw i _ w.heap.size a n cap zs _ ?_ ((h.later hb0).later (hbi.mono aw)) hn ae
   rw[hbi.cell aw,World.cell?_alloc_at _ _ _ _ rfl]; rfl))
  exact NP
 exact Og
def C6(m:MM)(y:FuM):List ByteArray:=match m.types[y.1.toNat]? with
 | some p=>(stA m (aC (p.1++y.2.1)) (y.2.2.2.map inx) p.2 y.2.2.1.2.1 y.2.2.1.2.1).sh
 | none=>[]
def TbC(m:MM)(TT:Nat)(w:World):Prop:=∀(i:Nat)y,m.fns[i]? =some y->∃SH,w.cell? ⟨TT,i*5,none⟩=some (.slice (some ⟨SH,0,none⟩) y.2.2.1.2.1 y.2.2.1.2.1)/\(C6 m y).length=y.2.2.1.2.1/\∀(p:Nat)b,(C6 m y)[p]? =some b->w.cell? ⟨SH,p,none⟩=some (.string b)
variable {m:MM}{TT:Nat}
theorem TbC.later(h:TbC m TT w)(hb:Below w.heap.size w w'):TbC m TT w':=fun i y hy=>by
 obtain⟨SH,h1,h2,h3⟩:=h i y hy;exact⟨SH,ag hb h1,h2,fun p b hp=>ag hb (h3 p b hp)⟩
variable {arr:AVz}
theorem Tk(hA:w.heap[TT]? =some (.cells arr 74))(ht:∀(i:Nat)y,m.fns[i]? =some y->∃t,uk m y (TT+1) w t/\∀q,q<5->arr[i*5+q]? =t[q]?):TbC m TT w:=fun i y hy=>by
 obtain⟨t,⟨_,P,Q,hP,_,SH,EN,EL,FL,_,_,_,_,rfl,r1,_⟩,hq⟩:=ht i y hy
 have hs:C6 m y=(stA m (aC (P++y.2.1)) (y.2.2.2.map inx) Q y.2.2.1.2.1 y.2.2.1.2.1).sh:=by unfold C6; rw[hP]
 refine⟨SH,?_,?_,fun p b hp=>?_⟩
 ·rw[ai hA]; exact hq 0 ae
 ·rw[hs]; have:=r1.1; simpa using this
 have hl:=az hp;rw[hs]at hp hl
 have hn:p<y.2.2.1.2.1:=by have:=r1.1; simp at this; omega
 rw[r1.cell p hn,List.getElem?_map,hp]; rfl
variable {o:Obj}
theorem uK(h:w.heap.size=n):(w.alloc o).heap[n]? =some o:=by rw[<- h]; exact hZn w o
variable {ops:Array Oper}{Q:Exit->Act->World->Prop}{oi:Oper}{fuel:Nat}{a:Act}
theorem tkN{md:Region.Mode}{S:World->Prop}{listed:Array Bool}(hi:ops[i]? =some oi)(h:wpAnyH P md ops Q S fuel (listed.setIfInBounds i true) (a.put oi.dst undef) w)
  (hc:(Region.noSelect ops&&Region.free md ops listed i&&(Region.ready md ops listed).contains i)=true:=by kernel_rfl) (hw:Region.wanted oi (yielded ops a.tmps)=false:=by rfl) (hQ:∀c a w,Q (.panic c) (a.put oi.dst undef) w->Q (.panic c) a w:=by exact fun _ _ _ h=>h) (hS:S w:=by assumption):wpAnyH P md ops Q S (fuel+1) listed a w:=by
 simp only[Bool.and_eq_true]at hc;exact wpAnyH_take hi hc.1.1 hc.1.2 hc.2 hQ (Or.inr ⟨hw,rfl⟩) hS h
variable {P Q sh:BAz}{ll sl:LIz}
theorem JH{pc q:Nat}(m:MM)(TT gb go_ fc k:Nat)(la sa:OAz)(ln lc sn sc:Nat)(lo:BAz)(ca:OAz)(cn cc:Nat)(co:List InM)(w:World)(hm:MOk w w.heap.size w.heap.size m)(hkl:k<m.fn)(hy:m.fns[k]? =some (↑q,lo,(ca,cn,cc),co))(h0:w.cell? ⟨gb,go_,none⟩=some (.int .i64 k))(h1:w.cell? ⟨gb,go_+1,none⟩=some (.int .i64 pc))(h2:w.cell? ⟨gb,go_+2,none⟩=some (.slice la ln lc))(h3:w.cell? ⟨gb,go_+3,none⟩=some (.slice sa sn sc))(hT:TbC m TT w)(hpn:pc<cn)(hq:m.types[q]? =some (P,Q))(hPl:P.size+lo.size<=64)(hsh:(C6 m (↑q,lo,(ca,cn,cc),co))[pc]? =some sh)(hss:sh.size<=1000000)(hL:SI .u64 w la ln ll)(hSt:SI .u64 w sa sn sl)(hln:ln<=1099511627776)(hsn:sn<=1099511627776)(hcn:cn<=1000000) :
  Calls prog 48 #[.agg (mV m),.slice (some ⟨TT,0,none⟩) m.fn m.fn,.slice (some ⟨gb,go_,none⟩) 1 fc] w fun e w'=>e=.returned (.bool (mf ll (P++lo)&&mf sl sh))/\Below w.heap.size w w':=by
 show Calls prog 48 #[.agg #[.slice m.ta m.tn m.tc,.slice m.ha m.hn m.hc,.slice m.ga m.gn m.gc,.int .i64 m.fi,.int .i64 m.mo,.slice m.fa m.fn m.fc,.slice m.da m.dn m.dc,.slice m.ea m.en m.ec],.slice (some ⟨TT,0,none⟩) m.fn m.fn,.slice (some ⟨gb,go_,none⟩) 1 fc] w _;have B1:=aj w (bF m.ta m.tn m.tc m.ha m.hn m.hc m.ga m.gn m.gc m.fi m.mo m.fa m.fn m.fc m.da m.dn m.dc m.ea m.en m.ec);have B2:=aj (w.alloc (bF m.ta m.tn m.tc m.ha m.hn m.hc m.ga m.gn m.gc m.fi m.mo m.fa m.fn m.fc m.da m.dn m.dc m.ea m.en m.ec)) (cX k pc la ln lc sa sn sc);have B3:=aj ((w.alloc (bF m.ta m.tn m.tc m.ha m.hn m.hc m.ga m.gn m.gc m.fi m.mo m.fa m.fn m.fc m.da m.dn m.dc m.ea m.en m.ec)).alloc (cX k pc la ln lc sa sn sc)) (bk q lo ca cn cc);have B12:=B1.trans (B2.mono B1.size);have B123:=B12.trans (B3.mono B12.size);have HB:=hid B123;have g0:=ag B1 h0;have g1:=ag B1 h1;have g2:=ag B1 h2;have g3:=ag B1 h3;obtain⟨fb,fo,hfa,hfc⟩:=hm.pf.2.resolve_left ae;obtain⟨y0,y1,y2⟩:=hfc k _ hy;simp only at y0 y1 y2;have y0:=ag B12 y0;have y1:=ag B12 y1;have y2:=ag B12 y2;have km:=hZn w (bF m.ta m.tn m.tc m.ha m.hn m.hc m.ga m.gn m.gc m.fi m.mo m.fa m.fn m.fc m.da m.dn m.dc m.ea m.en m.ec);have k1:=ak B2 km;have k2:=ak B3 k1;have kfa:((w.alloc (bF m.ta m.tn m.tc m.ha m.hn m.hc m.ga m.gn m.gc m.fi m.mo m.fa m.fn m.fc m.da m.dn m.dc m.ea m.en m.ec)).alloc (cX k pc la ln lc sa sn sc)).heap[w.heap.size+1]? =some (cX k pc la ln lc sa sn sc):=uK aw;have kfb:=ak B3 kfa;have ky:(((w.alloc (bF m.ta m.tn m.tc m.ha m.hn m.hc m.ga m.gn m.gc m.fi m.mo m.fa m.fn m.fc m.da m.dn m.dc m.ea m.en m.ec)).alloc (cX k pc la ln lc sa sn sc)).alloc (bk q lo ca cn cc)).heap[w.heap.size+1+1]? =some (bk q lo ca cn cc):=uK aw
 have c5:((w.alloc (bF m.ta m.tn m.tc m.ha m.hn m.hc m.ga m.gn m.gc m.fi m.mo m.fa m.fn m.fc m.da m.dn m.dc m.ea m.en m.ec)).alloc (cX k pc la ln lc sa sn sc)).cell? ⟨w.heap.size,5,none⟩=some (.slice (some ⟨fb,fo,none⟩) m.fn m.fc):=by rw[<- hfa]; exact ai k1
 have z0:=iz0 kfa;have zz0:=iz0 kfb;have zz1:=iz1 kfb;have hfl':(0:Int)<((1:Nat):Int):=ae;have hk':(k:Int)<(m.fn:Int):=ae;have HI:=hid (fun(W:World)=>c64 k m.fn W);have e1:(decide (0<=(k:Int))&&decide ((k:Int)<(m.fn:Int)))=true:=aK;rw[e1]at HI;have HI2:=hid (fun(W:World)=>c64 pc cn W);have e2:(decide (0<=(pc:Int))&&decide ((pc:Int)<(cn:Int)))=true:=aK;rw[e2]at HI2;obtain⟨SH,t0,t1,t2⟩:=hT k _ hy;have t2:=t2 pc sh hsh;simp only at t0;have t0:=ag B123 t0;have t2:=ag B123 t2;obtain⟨tb,to_,hta,htc⟩:=hm.pt.2.resolve_left FU;obtain⟨r0,r1⟩:=htc q _ hq;have r0:=ag B123 r0
 have d0:(((w.alloc (bF m.ta m.tn m.tc m.ha m.hn m.hc m.ga m.gn m.gc m.fi m.mo m.fa m.fn m.fc m.da m.dn m.dc m.ea m.en m.ec)).alloc (cX k pc la ln lc sa sn sc)).alloc (bk q lo ca cn cc)).cell? ⟨w.heap.size,0,none⟩=some (.slice (some ⟨tb,to_,none⟩) m.tn m.tc):=by rw[<- hta]; exact ai k2
 have zz2:=iz2 kfb;have zz3:=iz3 kfb;have yy0:=iz0 ky;have yy1:=iz1 ky;have hpn':(pc:Int)<(cn:Int):=ae;have hqt:(q:Int)<(m.tn:Int):=FU;have hsum:¬9223372036854775807<P.size+lo.size:=ae;have HLl:=hid (hL.later B123);have HSl:=hid (hSt.later B123);have HPl:=hid hPl;have hmt:m.tn<=281474976710656\/True:=.inr trivial;clear B1 B2 B3 B12 B123 h0 h1 h2 h3 hfc hfa hta hy hm km k1 k2 kfa kfb ky e1 e2 hT hq hsh t1 htc r1 hL hSt hPl hmt;go_enter func48,ntmps48
 go_wp2_with fail;refine(HI.out _).mono ?_;rintro e w2⟨rfl,hw⟩;have hw:=hw.symm;subst hw;go_wp2_with fail;refine(HI2.out _).mono ?_;rintro e w3⟨rfl,hw⟩;have hw:=hw.symm;subst hw;go_wp2_with fail;generalize (((w.alloc (bF m.ta m.tn m.tc m.ha m.hn m.hc m.ga m.gn m.gc m.fi m.mo m.fa m.fn m.fc m.da m.dn m.dc m.ea m.en m.ec)).alloc (cX k pc la ln lc sa sn sc)).alloc (bk q lo ca cn cc))=W3 at *;clear c5 z0 y0 y1 y2 g0 g1 g2 g3
 go_quiet (fail)
 have bq:=below_drewN W3 nq;have HBz:=hid (HB.out.trans (bq.mono HB.out.size));have HMK0:=And.intro (ag bq zz2) (And.intro (ag bq zz3) (And.intro (ag bq d0) (And.intro (ag bq yy0) (And.intro (ag bq yy1) (ag bq r0)))));have HA1:=hid (fun(W:World) (hb:Below (W3.drewN nq).heap.size (W3.drewN nq) W)=>J3 la ln lc ll (P++lo) W ((HLl.out.later bq).later hb) hln (by rw[ByteArray.size_append]; have:=HPl.out; omega));have HA2:=hid (fun(W:World) (hb:Below (W3.drewN nq).heap.size (W3.drewN nq) W)=>J3 sa sn sc sl sh W ((HSl.out.later bq).later hb) hsn ae);generalize W3.drewN nq=Wz at *;have HMK:=hid (fun(W:World) (hb:Below Wz.heap.size Wz W)=>And.intro (ag hb HMK0.1) (And.intro (ag hb HMK0.2.1) (And.intro (ag hb HMK0.2.2.1) (And.intro (ag hb HMK0.2.2.2.1) (And.intro (ag hb HMK0.2.2.2.2.1) (ag hb HMK0.2.2.2.2.2))))));clear HMK0 bq zz0 zz1 zz2 zz3 d0 yy0 yy1 r0 t0 t2 HB;go_wp2_with fail;refine wp_region_held_drew (S:=fun W=>W.cell? ⟨w.heap.size+1,2,none⟩=some (.slice la ln lc)/\W.cell? ⟨w.heap.size+1,3,none⟩=some (.slice sa sn sc)/\W.cell? ⟨w.heap.size,0,none⟩=some (.slice (some ⟨tb,to_,none⟩) m.tn m.tc)/\W.cell? ⟨w.heap.size+1+1,0,none⟩=some (.int .i64 q)/\W.cell? ⟨w.heap.size+1+1,1,none⟩=some (.string lo)/\W.cell? ⟨tb,to_+q*2,none⟩=some (.string P)) ar (HMK.out _ (below_drewN Wz 1)) (fun hS5=>?_)
 have B5:Hid (Below Wz.heap.size Wz Wz.drew):=hid (below_drewN Wz 1);generalize Wz.drew=w5 at *;refine cZ (i:=0) rfl ?_;(try simp only[Act.put,sIB]);refine cZ (i:=1) rfl ?_;(try simp only[Act.put]);refine cZ (i:=2) rfl ?_;(try simp only[Act.put]);refine cZ (i:=3) rfl ?_;(try simp only[Act.put]);refine cZ (i:=4) rfl ?_;(try simp only[Act.put]);refine cZ (i:=5) rfl ?_;(try simp only[Act.put]);refine cZ (i:=6) rfl ?_;(try simp only[Act.put]);refine cZ (i:=7) rfl ?_;(try simp only[Act.put]);refine cZ (i:=8) rfl ?_;(try simp only[Act.put]);refine cZ (i:=9) rfl ?_;(try simp only[Act.put]);refine cZ (i:=10) rfl ?_;(try simp only[Act.put]);refine cZ (i:=11) rfl ?_;(try simp only[Act.put]);refine eF (rs:=[12]) ?_
 refine dJ (i:=12) rfl (fun K hK=>?_) rN;go_simp;refine(HA1.out _ B5.out).mono ?_;rintro e w6⟨rfl,hb6⟩;have B6:=hid (B5.out.trans (hb6.mono B5.out.size));refine hK.out _ _ (HMK.out _ B6.out) (fun _=>?_);clear hK K hb6 hS5
 cases hall:mf ll (P++lo)
 ·refine cZ (i:=13) (oi:={ dst:=some 83,op:=.move (.tmp 82),type:=4,pos:= "places.go:78",after:=#[⟨12,.data⟩,⟨12,.chain⟩],guard:=none }) rfl ?_;(try simp only[Act.put,sIB,sC0,sCs]);refine tkN (i:=14) (oi:={ dst:=some 84,op:=.fieldAddr 47 (.tmp 7) 3,type:=0,pos:= "places.go:78",after:=#[⟨13,.guard⟩],guard:=some (13,true) }) rfl ?_;(try simp only[Act.put,sIB,sC0,sCs]);refine tkN (i:=15) (oi:={ dst:=some 85,op:=.load 30 (.tmp 84),type:=30,pos:= "places.go:78",after:=#[⟨14,.data⟩,⟨13,.guard⟩],guard:=some (13,true) }) rfl ?_;(try simp only[Act.put,sIB,sC0,sCs]);refine tkN (i:=16) (oi:={ dst:=some 86,op:=.move (.tmp 9),type:=9,pos:= "places.go:78",after:=#[⟨13,.guard⟩],guard:=some (13,true) }) rfl ?_;(try simp only[Act.put,sIB,sC0,sCs]);refine tkN (i:=17) (oi:={ dst:=some 87,op:=.call { callee:=.value (.func 15),args:=#[.tmp 85,.tmp 86],argTypes:=#[30,9] },type:=4,pos:= "places.go:78",after:=#[⟨15,.data⟩,⟨16,.data⟩,⟨13,.chain⟩,⟨13,.guard⟩],guard:=some (13,true) }) rfl ?_;(try simp only[Act.put,sIB,sC0,sCs]);refine cZ (i:=18) (oi:={ dst:=some 88,op:=.pick (.tmp 83) (.tmp 87) (.const (Go.Value.bool false)),type:=4,pos:= "places.go:78",after:=#[⟨13,.data⟩,⟨17,.data⟩],guard:=none }) rfl ?_;(try simp only[Act.put,sIB,sC0,sCs]);refine cZ (i:=19) (oi:={ dst:=some 6,op:=.assign (.tmp 88),type:=4,pos:= "places.go:78",after:=#[⟨18,.data⟩,⟨17,.chain⟩,⟨0,.phase⟩,⟨1,.phase⟩,⟨2,.phase⟩,⟨3,.phase⟩,⟨4,.phase⟩,⟨5,.phase⟩,⟨6,.phase⟩,⟨7,.phase⟩,⟨8,.phase⟩,⟨9,.phase⟩,⟨10,.phase⟩,⟨11,.phase⟩,⟨12,.phase⟩,⟨13,.phase⟩,⟨14,.phase⟩,⟨15,.phase⟩,⟨16,.phase⟩,⟨17,.phase⟩,⟨18,.phase⟩],guard:=none }) rfl ?_;(try simp only[Act.put,sIB,sC0,sCs]);refine wpAnyH_done ar ?_ _;go_wp2_with fail;go_ret
  exact⟨by rw[hall]; rfl,HBz.out.trans (B6.out.mono HBz.out.size)⟩
 refine cZ (i:=13) (oi:={ dst:=some 83,op:=.move (.tmp 82),type:=4,pos:= "places.go:78",after:=#[⟨12,.data⟩,⟨12,.chain⟩],guard:=none }) rfl ?_;(try simp only[Act.put,sIB,sC0,sCs]);refine cZ (i:=14) (oi:={ dst:=some 84,op:=.fieldAddr 47 (.tmp 7) 3,type:=0,pos:= "places.go:78",after:=#[⟨13,.guard⟩],guard:=some (13,true) }) rfl ?_;(try simp only[Act.put,sIB,sC0,sCs]);refine cZ (i:=15) (oi:={ dst:=some 85,op:=.load 30 (.tmp 84),type:=30,pos:= "places.go:78",after:=#[⟨14,.data⟩,⟨13,.guard⟩],guard:=some (13,true) }) rfl ?_;(try simp only[Act.put,sIB,sC0,sCs]);refine cZ (i:=16) (oi:={ dst:=some 86,op:=.move (.tmp 9),type:=9,pos:= "places.go:78",after:=#[⟨13,.guard⟩],guard:=some (13,true) }) rfl ?_;(try simp only[Act.put,sIB,sC0,sCs]);refine eF (rs:=[17]) ?_
 refine dJ (i:=17) rfl (fun K hK=>?_) rN;go_simp;refine(HA2.out _ B6.out).mono ?_;rintro e w7⟨rfl,hb7⟩;have B7:=hid (B6.out.trans (hb7.mono B6.out.size));refine hK.out _ _ (HMK.out _ B7.out) (fun _=>?_)
 clear hK K hb7;refine cZ (i:=18) (oi:={ dst:=some 88,op:=.pick (.tmp 83) (.tmp 87) (.const (Go.Value.bool false)),type:=4,pos:= "places.go:78",after:=#[⟨13,.data⟩,⟨17,.data⟩],guard:=none }) rfl ?_;(try simp only[Act.put,sIB,sC0,sCs]);refine cZ (i:=19) (oi:={ dst:=some 6,op:=.assign (.tmp 88),type:=4,pos:= "places.go:78",after:=#[⟨18,.data⟩,⟨17,.chain⟩,⟨0,.phase⟩,⟨1,.phase⟩,⟨2,.phase⟩,⟨3,.phase⟩,⟨4,.phase⟩,⟨5,.phase⟩,⟨6,.phase⟩,⟨7,.phase⟩,⟨8,.phase⟩,⟨9,.phase⟩,⟨10,.phase⟩,⟨11,.phase⟩,⟨12,.phase⟩,⟨13,.phase⟩,⟨14,.phase⟩,⟨15,.phase⟩,⟨16,.phase⟩,⟨17,.phase⟩,⟨18,.phase⟩],guard:=none }) rfl ?_;(try simp only[Act.put,sIB,sC0,sCs]);refine wpAnyH_done ar ?_ _;go_wp2_with fail;go_ret
 exact⟨by rw[hall]; rfl,HBz.out.trans (B7.out.mono HBz.out.size)⟩
end Go.Proofs.YtepcmfegggdjfaaGreatDoor

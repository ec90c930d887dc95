/-
  Proved: called with any text, TextParses returns true, and its argument reads afterwards as it read before.
  Conditions: the table of kinds, the library's two errors and its listed tables start as the program's text, and the library's, lay them (the card ties them to those texts; one of the library's is pinned by name); none other beyond the row's own.
  (The tie holds over the pruned copy of the project that the seat names.)
-/
import Derived.Test.YtheefojaplnnoaaGreatDoorY19
import Derived.Test.YtheefojaplnnoaaGreatDoorCards
import Derived.Test.YtheefojaplnnoaaGreatDoorTie
set_option linter.unusedVariables false
set_option maxRecDepth 100000
set_option maxHeartbeats 16000000
namespace Go.Proofs.YtheefojaplnnoaaGreatDoor
open Go.Proofs.Tryz
open Go.RowKit
theorem Tryz.inlq7:(prog.info? 26).map (fun i=>(i.zero,i.size,i.bytes))=some (some (ZN),1,24):=ak
variable {w:World}{GB:Nat}{K:KM}
theorem BgK.ad7{lo base:Nat}(h:BgK lo base w GB K)(p:Tl)(A:NIz)(P:Nat->Tl)(T:Nat->Nat->Prop)(hp:p.ok 2 81 lo w)(hl:p.n<=4194304)(hf:∀k,p.b=some k->¬BF GB K k)
  (hc:∀i,i<p.n->∃G,p.b=some G/\w.cell? (ZA G (i*2))=some (ZI (A i))/\w.cell? (ZA G (i*2+1))=some (.slice (P i).ad (P i).n (P i).c))
  (hel:∀i,i<p.n->∀(K1:KM)(w1:World),BgK lo base w1 GB K1->Kept (BW GB K) w w1->(∀k,BF GB K1 k->BF GB K k\/(p.b=some k\/∃j,j<i/\T j k)\/w.heap.size<=k) ->
   Zw 129 #[ZP GB 0,.agg #[ZI (A i),.slice (P i).ad (P i).n (P i).c]] w1 fun e w2=>e=.returned (.tuple #[])/\bB lo base GB K1 (T i) w1 w2) :
  Zw 63 #[ZP GB 0,.slice p.ad p.n p.c] w fun e w'=>e=.returned (.tuple #[])/\bB lo base GB K (fun k=>p.b=some k\/∃j,j<p.n/\T j k) w w':=by
 obtain⟨b8,p0,p1,p2,p3⟩:=Z0 Tryz.inlq7;have hown:w.ownsRow 0 26 1 (K 7).1 (K 7).2.length ((K 7).2.map Tl.v):=(h.kd 7 ae).own;obtain⟨V,hV⟩:∃V,(K 7).1=V:=⟨_,rfl⟩;obtain⟨n,hn⟩:∃n,(K 7).2.length=n:=⟨_,rfl⟩;obtain⟨xs,hxs⟩:∃xs,(K 7).2.map Tl.v=xs:=⟨_,rfl⟩;have hcc:w.cell? (ZA GB 11)=some V:=hV ▸ h.c 7 ae;have hff:w.frozen? (ZA GB 11)=false:=h.fz 11;have hne:V.ownBlock≠some GB:=fun e=>h.n 7 ae GB (.inl (hV ▸ e)) rfl;have v8:=h.nl 7 ae;rw[hV,hn,hxs]at hown;rw[hn]at v8;obtain⟨va,vc,rfl,_⟩:=aR hown;have hb3:n+1<=maxLen:=aP;have hb4:(n+1)*24<=140737488355328:=ae;obtain⟨la,oe⟩:∃la,p.ad=la:=⟨_,rfl⟩;obtain⟨N,hN⟩:∃N,p.n=N:=⟨_,rfl⟩;obtain⟨lc,hlc⟩:∃lc,p.c=lc:=⟨_,rfl⟩;rw[oe,hN,hlc];obtain⟨LA,LN,LC,HO,ZD,HC⟩:=ZK oe hN hlc hown hne hcc;obtain⟨HF,HCL,HEL,H,HP,HL⟩:=ZK hff hc hel h hp hl;obtain⟨EV,EN,EX,HBN⟩:=ZF hV hn hxs hf;have NB:=hid (show ∀G,p.b=some G->¬BW GB K G from fun G hG hx=>hf G hG hx.bf);have It:=Kept.alloc (fun _=>False) w (.cells #[.slice la N lc] 26);have GT:=hid It;clear h hp hl hf hc hel hV hn hxs hown hne It oe hN hlc;go_enter func63,ntmps63;refine wp_seq_k fun K9 hK9=>?_
 go_cut [] from 5 to 20 (fun wx=>Hid (bB lo base GB K (fun k=>p.b=some k\/∃j,j<0/\T j k) w wx))
 case first =>
  by_cases hlt:n<300
  ·have hl2':(n:Int)<300:=ae
   go_wp2_with (first
    | (at_builtin; refine bO _ rfl (.tmp 15) (.tmp 17) 52 rfl 26 b8 (ZN) 24 underlying52 p0 p1 p2 p3 rfl _ n _ rfl (bZ HO.out fun B hB=>GT.out.block B (dU HO.out hB).1 (fun x=>x)) (ZA w.heap.size 0) (.slice la N lc) rfl dh rfl hb3 hb4 ?_; intro B cap w2 hrow AS; obtain⟨d1,d2,d3,d4,d5,d6⟩:=ja HO.out ZD.out HC.out HF.out _ hrow AS; have R1:=hid hrow; have D3:=hid d3; have D4:=hid d4; have D5:=hid d5; have D6:=hid d6; clear hrow AS d3 d4 d5 d6))
   go_meet
   exact hid ((H.out.grow2 (q:=7) ae p HP.out HL.out HBN.out EV.out EN.out EX.out hlt yT (World.cell?_setCell_same _ _ _ d1) D4.out
    (fun j hj=>by
     rw[World.cell?_setCell_other _ _ _ _ (fun h=>hj (congrArg Addr.off h).symm)]
     exact D5.out j)
    (by
     have hk:=D6.out
     exact⟨hk.os,hk.tape,hk.output,xw,fun k h1 h2=>(heap_setCell_other _ _ _ _ (fun e=>h2 (.inl e))).trans (hk.block k h1 (fun e=>h2 (.inr e)))⟩)
    (fun j=>by
     rw[World.frozen?_setCell]
     exact aS (D6.out.block GB (ZQ HC.out) (fun e=>ZD.out e)) j)).mono (fun k hk=>.inl hk))
  exact zA
 case rest =>
 generalize wc=w3 at *;have AD:=hid hcut.out;clear hcut hcc hff p0 p1 p2 p3 hb3 hb4 GT HO ZD HC HF EV EN EX HP HBN;go_wp2_with fail
 go_loopw [4] (fun i wr=>∃j:Nat,j<=N/\i=ZI j/\Hid (bB lo base GB K (fun k=>p.b=some k\/∃t,t<j/\T t k) w wr)) (fun i _=>N-(intOf i).toNat)
 case atStart=>exact⟨0,ae,rfl,AD⟩
 case round =>
  obtain⟨j,hj,rfl,HX⟩:=hrel;clear AD
  by_cases hlt:j<N/\j<300
  ·obtain⟨K1,g1,k1,q1,o1⟩:=HX.out
   have hjp:j<p.n:=by rw[LN.out]; exact hlt.1
   obtain⟨G,hG,d0,d1⟩:=HCL.out j hjp;have hlaG:la=some (ZA G 0):=Hs;have e0:=k1.cell d0 (fun hx=>NB.out G hG hx);have e1:=k1.cell d1 (fun hx=>NB.out G hG hx);have CA:=hid (HEL.out j hjp K1 _ g1 k1 q1)
   have TH:=hid (fun(w3:World) (hx:bB lo base GB K1 (T j) wr w3)=>(bB.then k1 q1 o1 hx).mono (T':=fun k=>p.b=some k\/∃t,t<j+1/\T t k) (fun k hk=>by
    rcases hk with (hk | ⟨t,ht,hk⟩) | hk
    ·exact .inl hk
    ·exact .inr ⟨t,ae,hk⟩
    exact .inr ⟨j,ae,hk⟩))
   have hlt':(j:Int)<N:=ae;have qas:(j:Int)<300:=ae
   have hd3:decide ((j:Int)<300)=true:=by simpa using qas
   have hjN:j+1<=N:=hlt.1;clear g1 k1 q1 o1 HX hlt HCL HEL H hG NB LA d0 d1;exact Gw
  have HY:=hid (HX.out.mono (T':=fun k=>p.b=some k\/∃t,t<N/\T t k) (fun k hk=>hk.imp id (fun⟨t,ht,x⟩=>⟨t,ae,x⟩)));clear HX HCL HEL
  by_cases hjN:j<N
  ·exact IQ
  obtain rfl:j=N:=ae;have hlt':¬(j:Int)<j:=ae;clear hlt;go_wp2_with fail;go_end0;exact⟨rfl,HY.out⟩
def tl(a:OAz)(n c:Nat):Tl:=⟨(Value.slice a n c).ownBlock,n,c⟩
variable {a:OAz}{xs:Zah}
theorem iC{lo e s n c:Nat}(h:w.ownsRow lo e s (.slice a n c) n xs):(tl a n c).ad=a/\(tl a n c).ok s e lo w:=by
 rcases h.2 with ⟨h0,h1⟩ | ⟨g,cp,cur,h1,h2,h3,h4⟩
 ·simp at h0
  obtain⟨rfl,_,rfl⟩:=h0;exact⟨rfl,.inr ⟨rfl,h1,rfl⟩⟩
 simp at h1;obtain⟨rfl,rfl⟩:=h1;exact⟨rfl,.inl ⟨g,rfl,h2,xs,h.1,.inr ⟨g,_,cur,rfl,Z5 _,h3,h4⟩⟩⟩
variable {k:Nat}
theorem dW{lo e s n c:Nat}(h:w.ownsRow lo e s (.slice a n c) n xs)(hk:(tl a n c).b=some k):∃cur,w.heap[k]? =some (.cells cur e):=(kj h hk).2.2
theorem gL{n c G off:Nat}{q:Option Nat}(h:a=some ⟨G,off,q⟩):(tl a n c).b=some G:=by subst h; rfl
variable {s:Nat}{e:TypeId}{p:Tl}
theorem Tl.ok.lt{lo:Nat}(h:p.ok s e lo w)(hk:p.b=some k):k<w.heap.size:=by
 rcases h with ⟨B,h1,_,xs,h3⟩ | ⟨h1,_⟩
 ·rw[hk]at h1;obtain rfl:=i9 h1;exact(kj h3 rfl).2.1
 rw[hk]at h1; cases h1
variable {t u:Nat}
theorem jc(h1:∃cur,w.heap[k]? =some (.cells cur t))(h2:∃cur,w.heap[k]? =some (.cells cur u))(hn:t≠u):False:=by
 obtain⟨c,h1⟩:=h1;obtain⟨d,h2⟩:=h2;rw[h1]at h2;simp at h2;exact hn h2.2
variable {K1:KM}{T:Zam}{w1:World}
theorem carry{lo:Nat}(k1:Kept (BW GB K) w w1)(q1:∀k,BF GB K1 k->BF GB K k\/T k\/w.heap.size<=k)(hp:p.ok s e lo w)(hf:∀k,p.b=some k->¬BF GB K k)(hT:∀k,p.b=some k->¬T k) :
  p.ok s e lo w1/\∀k,p.b=some k->¬BF GB K1 k :=
 ⟨hp.kept k1 (fun k hk hx=>hf k hk hx.bf),fun k hk hx=>(q1 k hx).elim (hf k hk) (fun y=>y.elim (hT k hk) (fun z=>by have:=hp.lt hk; omega))⟩
variable {T2:Zam}{args:AVz}{R:Ending}
theorem bB.next{lo base:Nat}(h:bB lo base GB K T w w1){F:FuncId}  
  (hadd:∀K1,BgK lo base w1 GB K1->Kept (BW GB K) w w1->(∀k,BF GB K1 k->BF GB K k\/T k\/w.heap.size<=k)->Zw F args w1 fun e w2=>e=R/\bB lo base GB K1 T2 w1 w2) :
  Zw F args w1 fun e w2=>e=R/\bB lo base GB K (fun k=>T k\/T2 k) w w2:=by
 obtain⟨K1,g1,k1,q1,o1⟩:=h;refine(hadd K1 g1 k1 q1).mono ?_;rintro e w2⟨rfl,h2⟩;exact⟨rfl,bB.then k1 q1 o1 h2⟩
structure MBk(lo:Nat)(w:World)(m:MM):Prop where
 rt:w.ownsRow lo 73 2 (.slice m.ta m.tn m.tc) m.tn (m.types.flatMap iy)
 rh:w.ownsRow lo 3 1 (.slice m.ha m.hn m.hc) m.hn (m.hosts.flatMap fJ)
 rg:w.ownsRow lo 102 3 (.slice m.ga m.gn m.gc) m.gn (m.globals.flatMap fQ)
 rf:w.ownsRow lo 78 3 (.slice m.fa m.fn m.fc) m.fn (m.fns.flatMap dA)
 rd:w.ownsRow lo 81 2 (.slice m.da m.dn m.dc) m.dn (m.data.flatMap iD)
 re:w.ownsRow lo 83 2 (.slice m.ea m.en m.ec) m.en (m.exps.flatMap jV)
 fo:∀x∈m.fns,FnO w lo x
 fd:∀(i j:Nat)x y k,m.fns[i]? =some x->m.fns[j]? =some y->i≠j->fcb x=some k->fcb y≠some k
 dd:∀x∈m.data,w.ownsRow lo 5 1 (.slice x.2.1.1 x.2.1.2.1 x.2.1.2.2) x.2.1.2.1 (x.2.2.flatMap oV)
 di:DiM m
 sr:MSr w m
def FB(m:MM)(k:Nat):Prop:=(tl m.fa m.fn m.fc).b=some k\/∃(i:Nat)(x:FuM),m.fns[i]? =some x/\(fcb x=some k\/∃y∈x.2.2.2,ibk y=some k)
def DB(m:MM)(k:Nat):Prop:=(tl m.da m.dn m.dc).b=some k\/∃(i:Nat)(x:DaM),m.data[i]? =some x/\dbk x=some k
def MF(m:MM)(k:Nat):Prop:=(tl m.ta m.tn m.tc).b=some k\/(tl m.ha m.hn m.hc).b=some k\/(tl m.ga m.gn m.gc).b=some k\/FB m k\/DB m k\/(tl m.ea m.en m.ec).b=some k
variable {m:MM}
theorem MBk.tyF{lo:Nat}(h:MBk lo w m)(hk:FB m k):∃t,(∃cur,w.heap[k]? =some (.cells cur t))/\(t=78\/t=75\/t=3):=by
 rcases hk with hk | ⟨i,x,hx,hk | ⟨y,hy,hk⟩⟩
 ·exact⟨78,dW h.rf hk,.inl rfl⟩
 ·exact⟨75,dW (h.fo x (ZO hx)).code hk,.inr (.inl rfl)⟩
 exact⟨3,dW ((h.fo x (ZO hx)).lab y hy) hk,.inr (.inr rfl)⟩
theorem MBk.tyD{lo:Nat}(h:MBk lo w m)(hk:DB m k):∃t,(∃cur,w.heap[k]? =some (.cells cur t))/\(t=81\/t=5):=by
 rcases hk with hk | ⟨i,x,hx,hk⟩
 ·exact⟨81,dW h.rd hk,.inl rfl⟩
 exact⟨5,dW (h.dd x (ZO hx)) hk,.inr rfl⟩
variable {i:Nat}{x:FuM}{y:InM}
theorem MBk.labH{lo:Nat}(h:MBk lo w m)(hx:m.fns[i]? =some x)(hy:y∈x.2.2.2)(hk:ibk y=some k):(tl m.ha m.hn m.hc).b≠some k:=by
 have:=(List.pairwise_cons.1 h.di.i).1 (ibk y) (List.mem_flatMap.2 ⟨x,ZO hx,List.mem_map.2 ⟨y,hy,rfl⟩⟩);exact fun e=>this k e hk
variable {j:Nat}{x':FuM}{y':InM}
theorem MBk.labF{lo:Nat}(h:MBk lo w m)(hx:m.fns[i]? =some x)(hx':m.fns[j]? =some x')(hij:j<i)(hy:y∈x.2.2.2)(hy':y'∈x'.2.2.2)(hk:ibk y=some k):ibk y'≠some k:=by
 have h1:=(List.pairwise_flatMap.1 (List.pairwise_cons.1 h.di.i).2).2;have h2:=List.pairwise_iff_getElem.1 h1;obtain⟨li,ei⟩:=List.getElem?_eq_some_iff.1 hx;obtain⟨lj,ej⟩:=List.getElem?_eq_some_iff.1 hx';have h3:=h2 j i lj li hij;rw[ei,ej]at h3;exact fun e=>h3 _ (List.mem_map.2 ⟨y',hy',rfl⟩) _ (List.mem_map.2 ⟨y,hy,rfl⟩) k e hk
variable {p q:Nat}
theorem MBk.labI{lo:Nat}(h:MBk lo w m)(hx:m.fns[i]? =some x)(hp:x.2.2.2[p]? =some y)(hq:x.2.2.2[q]? =some y')(hpq:q<p)(hk:ibk y=some k):ibk y'≠some k:=by
 have h1:=(List.pairwise_flatMap.1 (List.pairwise_cons.1 h.di.i).2).1 x (ZO hx);have h2:=List.pairwise_iff_getElem.1 (List.pairwise_map.1 h1);exact Ig
variable {y y':DaM}
theorem MBk.datD{lo:Nat}(h:MBk lo w m)(hp:m.data[p]? =some y)(hq:m.data[q]? =some y')(hpq:q<p)(hk:dbk y=some k):dbk y'≠some k:=by
 have h2:=List.pairwise_iff_getElem.1 (List.pairwise_map.1 h.di.d);exact Ig
variable {S:Zam}{w':World}
theorem MBk.kept{lo:Nat}(h:MBk lo w m)(hk:Kept S w w')(hs:∀k,MF m k->¬S k)(hsr:MSr w' m):MBk lo w' m :=
 ⟨cf h.rt hk (fun k e=>hs k (.inl e)),cf h.rh hk (fun k e=>hs k (.inr (.inl e))),cf h.rg hk (fun k e=>hs k (.inr (.inr (.inl e)))),cf h.rf hk (fun k e=>hs k (.inr (.inr (.inr (.inl (.inl e)))))),cf h.rd hk (fun k e=>hs k (.inr (.inr (.inr (.inr (.inl (.inl e))))))),cf h.re hk (fun k e=>hs k (.inr (.inr (.inr (.inr (.inr e)))))),
  fun x hx=>by
  obtain⟨i,hi⟩:=List.mem_iff_getElem?.1 hx;exact⟨cf (h.fo x hx).code hk (fun k e=>hs k (.inr (.inr (.inr (.inl (.inr ⟨i,x,hi,.inl e⟩)))))),fun y hy=>cf ((h.fo x hx).lab y hy) hk (fun k e=>hs k (.inr (.inr (.inr (.inl (.inr ⟨i,x,hi,.inr ⟨y,hy,e⟩⟩))))))⟩,
  h.fd,fun x hx=>by
  obtain⟨i,hi⟩:=List.mem_iff_getElem?.1 hx
  exact cf (h.dd x hx) hk (fun k e=>hs k (.inr (.inr (.inr (.inr (.inl (.inr ⟨i,x,hi,e⟩))))))),h.di,hsr⟩
variable {G off:Nat}
theorem zN{lo e s n c:Nat}(h:w.ownsRow lo e s (.slice a n c) n xs){q:Option Nat}(ha:a=some ⟨G,off,q⟩):off=0:=by
 subst ha
 rcases h.2 with ⟨h0,h1⟩ | ⟨g,cp,cur,h1,h2⟩
 ·cases h0
 simp at h1;exact h1.1.2.1
theorem Y0{n c b off:Nat}{q:Option Nat}(h:nz n a=some ⟨b,off,q⟩):(tl a n c).b=some b:=gL (FP h)
theorem zX{lo:Nat}(h:FnO w lo x)(hs:pS w x)(hk:Kept S w w')(hS:∀k,(fcb x=some k\/∃y∈x.2.2.2,ibk y=some k)->¬S k):FnO w' lo x/\pS w' x :=
 ⟨⟨cf h.code hk (fun k e=>hS k (.inl e)),fun y hy=>cf (h.lab y hy) hk (fun k e=>hS k (.inr ⟨y,hy,e⟩))⟩,
  hs.1.kept hk (fun b off c e=>hS b (.inl (Y0 (c:=x.2.2.1.2.2) e))),hs.2.1,fun y hy=>⟨(hs.2.2 y hy).1.kept hk (fun b off c e=>hS b (.inr ⟨y,hy,gL (n:=y.2.2.1.2.1) (c:=y.2.2.1.2.2) e⟩)),(hs.2.2 y hy).2⟩⟩
def dI:InM:=(0,0,(none,0,0),[])
def dF:FuM:=(0,⟨#[]⟩,(none,0,0),[])
def dD:DaM:=(0,(none,0,0),[])
theorem getD_at{α:Type}{l:List α}{d:α}(h:i<l.length):l[i]? =some (l.getD i d):=by
 rw[Z3,aD h]; rfl
theorem BgK.code{lo base:Nat}(h:BgK lo base w GB K)(x:FuM)(hx:FnO w lo x)(hs:pS w x)
  (hd:∀(p q:Nat)y y' k,x.2.2.2[p]? =some y->x.2.2.2[q]? =some y'->q<p->ibk y=some k->ibk y'≠some k) (hf:∀k,fcb x=some k->¬BF GB K k) (hfl:∀y∈x.2.2.2,∀k,ibk y=some k->¬BF GB K k) :
  Zw 181 #[ZP GB 0,.slice x.2.2.1.1 x.2.2.1.2.1 x.2.2.1.2.2] w fun e w'=>e=.returned (.tuple #[])/\bB lo base GB K (fun k=>fcb x=some k\/∃y∈x.2.2.2,ibk y=some k) w w':=by
 obtain⟨ha,hok⟩:=iC hx.code;have hl:x.2.2.2.length=x.2.2.1.2.1:=hs.1.1;have hg:∀i,i<x.2.2.1.2.1->x.2.2.2[i]? =some (x.2.2.2.getD i dI):=fun i hi=>getD_at ae;have:=h.ad5 (tl x.2.2.1.1 x.2.2.1.2.1 x.2.2.1.2.2) (fun i=>(x.2.2.2.getD i dI).1) (fun i=>(x.2.2.2.getD i dI).2.1) (fun i=>tl (x.2.2.2.getD i dI).2.2.1.1 (x.2.2.2.getD i dI).2.2.1.2.1 (x.2.2.2.getD i dI).2.2.1.2.2) (fun i k=>ibk (x.2.2.2.getD i dI)=some k) hok (by show x.2.2.1.2.1<=_; have:=hs.2.1; omega) (fun k hk=>hf k hk) (fun i hi=>?_) (fun i hi K1 w1 g1 k1 q1=>?_)
 ·rw[ha]at this;refine this.mono ?_;rintro e w' ⟨rfl,h2⟩
  exact⟨rfl,h2.mono (fun k hk=>hk.imp id fun⟨j,hj,e⟩=>⟨_,ZO (hg j hj),e⟩)⟩
 ·have hy:=hg i hi;have hmem:=ZO hy
  rcases hs.1.2 with h0 | ⟨b,off,eb,hc⟩
  ·have:i<x.2.2.1.2.1:=hi;omega
  obtain rfl:=zN hx.code eb;obtain⟨c0,c1,c2⟩:=hc i _ hy;rw[Nat.zero_add]at c0 c1 c2;exact⟨b,gL eb,c0,c1,by rw[(iC (hx.lab _ hmem)).1]; exact c2⟩
 have hy:=hg i hi;have hmem:=ZO hy;obtain⟨hya,hyok⟩:=iC (hx.lab _ hmem)
 obtain⟨p1,f1⟩:=carry k1 q1 hyok (fun k hk=>hfl _ hmem k hk) (fun k hk hT=>by
  rcases hT with hT | ⟨j,hj,hT⟩
  ·exact jc (dW (hx.lab _ hmem) hk) (dW hx.code hT) au
  exact hd i j _ _ k hy (hg j (by have:i<x.2.2.1.2.1:=hi; omega)) hj hk hT)
 exact g1.adI _ _ _ (fun w2 g2 k2=>g2.ad1 _ (p1.kept k2 (fun _ _ z=>z)) (by show(x.2.2.2.getD i dI).2.2.1.2.1<=_; have:=(hs.2.2 _ hmem).2; omega) f1)
theorem BgK.fns{lo base:Nat}(h:BgK lo base w GB K)(hm:MBk lo w m)(hf:∀k,FB m k->¬BF GB K k) :
  Zw 62 #[ZP GB 0,.slice m.fa m.fn m.fc] w fun e w'=>e=.returned (.tuple #[])/\bB lo base GB K (FB m) w w':=by
 obtain⟨ha,hok⟩:=iC hm.rf;have hl:m.fns.length=m.fn:=hm.sr.pf.1;have hg:∀i,i<m.fn->m.fns[i]? =some (m.fns.getD i dF):=fun i hi=>getD_at ae;have:=h.ad6 (tl m.fa m.fn m.fc) (fun i=>(m.fns.getD i dF).1) (fun i=>(m.fns.getD i dF).2.1) (fun i=>tl (m.fns.getD i dF).2.2.1.1 (m.fns.getD i dF).2.2.1.2.1 (m.fns.getD i dF).2.2.1.2.2) (fun i k=>fcb (m.fns.getD i dF)=some k\/∃y∈(m.fns.getD i dF).2.2.2,ibk y=some k) hok (by show m.fn<=_; have:=hm.sr.fn; omega) (fun k hk=>hf k (.inl hk)) (fun i hi=>?_) (fun i hi K1 w1 g1 k1 q1=>?_)
 ·exact Ge
 ·have hy:=hg i hi;have hmem:=ZO hy
  rcases hm.sr.pf.2 with h0 | ⟨b,off,eb,hc⟩
  ·have:i<m.fn:=hi;omega
  obtain rfl:=zN hm.rf eb;obtain⟨c0,c1,c2⟩:=hc i _ hy;rw[Nat.zero_add]at c0 c1 c2;exact⟨b,gL eb,c0,c1,by rw[(iC (hm.fo _ hmem).code).1]; exact c2⟩
 have hy:=hg i hi;have hmem:=ZO hy;have hfr:∀k,(fcb (m.fns.getD i dF)=some k\/∃y∈(m.fns.getD i dF).2.2.2,ibk y=some k)->¬BF GB K k:=fun k hk=>hf k (.inr ⟨i,_,hy,hk⟩)
 have qk:∀k,(fcb (m.fns.getD i dF)=some k\/∃y∈(m.fns.getD i dF).2.2.2,ibk y=some k)->¬BF GB K1 k:=fun k hk hx=>by
  have hlt:k<w.heap.size:=by
   obtain⟨t,⟨cur,hc⟩,_⟩:=hm.tyF (.inr ⟨i,_,hy,hk⟩);exact t7 hc
  rcases q1 k hx with z | (z | ⟨j,hj,z⟩) | z
  ·exact hfr k hk z
  ·rcases hk with hk | ⟨y,hy',hk⟩
   ·exact jc (dW (hm.fo _ hmem).code hk) (dW hm.rf z) au
   exact jc (dW ((hm.fo _ hmem).lab y hy') hk) (dW hm.rf z) au
  ·have hyj:=hg j (by have:i<m.fn:=hi; omega)
   have hmj:=ZO hyj
   rcases hk with hk | ⟨y,hy',hk⟩ <;> rcases z with z | ⟨y2,hy2,z⟩
   ·exact hm.fd i j _ _ k hy hyj ae hk z
   ·exact jc (dW (hm.fo _ hmem).code hk) (dW ((hm.fo _ hmj).lab y2 hy2) z) au
   ·exact jc (dW ((hm.fo _ hmem).lab y hy') hk) (dW (hm.fo _ hmj).code z) au
   exact hm.labF hy hyj hj hy' hy2 hk z
  omega
 obtain⟨o1,s1⟩:=zX (hm.fo _ hmem) (hm.sr.fx _ hmem) k1 (fun k hk hx=>hfr k hk hx.bf);have hcode:=iC (hm.fo _ hmem).code;refine g1.adFn _ _ _ (fun w2 g2 k2=>?_);obtain⟨o2,s2⟩:=zX o1 s1 k2 (fun _ _ z=>z);have:=g2.code (m.fns.getD i dF) o2 s2 (fun p q y y' k a b c d=>hm.labI hy a b c d) (fun k hk=>qk k (.inl hk)) (fun y hy' k hk=>qk k (.inr ⟨y,hy',hk⟩));rw[hcode.1];exact this
theorem BgK.dats{lo base:Nat}(h:BgK lo base w GB K)(hm:MBk lo w m)(hf:∀k,DB m k->¬BF GB K k) :
  Zw 63 #[ZP GB 0,.slice m.da m.dn m.dc] w fun e w'=>e=.returned (.tuple #[])/\bB lo base GB K (DB m) w w':=by
 obtain⟨ha,hok⟩:=iC hm.rd;have hl:m.data.length=m.dn:=hm.sr.pd.1;have hg:∀i,i<m.dn->m.data[i]? =some (m.data.getD i dD):=fun i hi=>getD_at ae;have:=h.ad7 (tl m.da m.dn m.dc) (fun i=>(m.data.getD i dD).1) (fun i=>tl (m.data.getD i dD).2.1.1 (m.data.getD i dD).2.1.2.1 (m.data.getD i dD).2.1.2.2) (fun i k=>dbk (m.data.getD i dD)=some k) hok (by show m.dn<=_; have:=hm.sr.dn; omega) (fun k hk=>hf k (.inl hk)) (fun i hi=>?_) (fun i hi K1 w1 g1 k1 q1=>?_)
 ·exact Ge
 ·have hy:=hg i hi;have hmem:=ZO hy
  rcases hm.sr.pd.2 with h0 | ⟨b,off,eb,hc⟩
  ·have:i<m.dn:=hi;omega
  obtain rfl:=zN hm.rd eb;obtain⟨c0,c1⟩:=hc i _ hy;rw[Nat.zero_add]at c0 c1;exact⟨b,gL eb,c0,by rw[(iC (hm.dd _ hmem)).1]; exact c1⟩
 have hy:=hg i hi;have hmem:=ZO hy;obtain⟨hya,hyok⟩:=iC (hm.dd _ hmem)
 obtain⟨p1,f1⟩:=carry k1 q1 hyok (fun k hk=>hf k (.inr ⟨i,_,hy,hk⟩)) (fun k hk hT=>by
  rcases hT with hT | ⟨j,hj,hT⟩
  ·exact jc (dW (hm.dd _ hmem) hk) (dW hm.rd hT) au
  exact hm.datD hy (hg j (by have:i<m.dn:=hi; omega)) hj hk hT)
 exact g1.adDt _ _ (fun w2 g2 k2=>g2.ad0 _ (p1.kept k2 (fun _ _ z=>z)) (by show(m.data.getD i dD).2.1.2.1<=_; have:=(hm.sr.dx _ hmem).2; omega) f1)
theorem MSr.keptM{lo:Nat}(h:MSr w m)(hm:MBk lo w m)(hk:Kept S w w')(hs:∀k,MF m k->¬S k):MSr w' m :=
 ⟨h.pt.kept hk (fun b off c e=>hs b (.inl (gL e))),h.tn,h.ph.kept hk (fun b off c e=>hs b (.inr (.inl (gL e)))),h.hn,h.pg.kept hk (fun b off c e=>hs b (.inr (.inr (.inl (gL e))))),h.gn,
  h.pf.kept hk (fun b off c e=>hs b (.inr (.inr (.inr (.inl (.inl (gL e))))))),h.fn,fun x hx=>by
  obtain⟨i,hi⟩:=List.mem_iff_getElem?.1 hx;exact(zX (hm.fo x hx) (h.fx x hx) hk (fun k hk'=>hs k (.inr (.inr (.inr (.inl (.inr ⟨i,x,hi,hk'⟩))))))).2,
  h.pd.kept hk (fun b off c e=>hs b (.inr (.inr (.inr (.inr (.inl (.inl (gL e)))))))),h.dn,fun x hx=>by
  obtain⟨i,hi⟩:=List.mem_iff_getElem?.1 hx;exact⟨(h.dx x hx).1.kept hk (fun b off c e=>hs b (.inr (.inr (.inr (.inr (.inl (.inr ⟨i,x,hi,gL (n:=x.2.1.2.1) (c:=x.2.1.2.2) e⟩))))))),(h.dx x hx).2⟩,
  h.pe.kept hk (fun b off c e=>hs b (.inr (.inr (.inr (.inr (.inr (gL e))))))),h.en⟩
theorem MBk.keptM{lo:Nat}(h:MBk lo w m)(hk:Kept S w w')(hs:∀k,MF m k->¬S k):MBk lo w' m:=h.kept hk hs (h.sr.keptM h hk hs)
def T3(m:MM)(k:Nat):Prop:=((False\/(tl m.ta m.tn m.tc).b=some k)\/(tl m.ha m.hn m.hc).b=some k)\/(tl m.ga m.gn m.gc).b=some k
theorem MBk.tyT{lo:Nat}(h:MBk lo w m)(hk:T3 m k):∃t,(∃cur,w.heap[k]? =some (.cells cur t))/\(t=73\/t=3\/t=102):=by
 rcases hk with ((hk | hk) | hk) | hk
 ·exact hk.elim
 ·exact⟨73,dW h.rt hk,.inl rfl⟩
 ·exact⟨3,dW h.rh hk,.inr (.inl rfl)⟩
 exact⟨102,dW h.rg hk,.inr (.inr rfl)⟩
theorem MBk.fT{lo:Nat}(h:MBk lo w m)(hf:FB m k)(ht:T3 m k):False:=by
 obtain⟨t,h1,h2⟩:=h.tyT ht
 rcases hf with hk | ⟨i,x,hx,hk | ⟨y,hy,hk⟩⟩
 ·exact jc (dW h.rf hk) h1 (by rcases h2 with rfl | rfl | rfl <;> decide)
 ·exact jc (dW (h.fo x (ZO hx)).code hk) h1 (by rcases h2 with rfl | rfl | rfl <;> decide)
 have h3:=dW ((h.fo x (ZO hx)).lab y hy) hk
 rcases ht with ((ht | ht) | ht) | ht
 ·exact ht
 ·exact jc h3 (dW h.rt ht) au
 ·exact h.labH hx hy hk ht
 exact jc h3 (dW h.rg ht) au
theorem MBk.dT{lo:Nat}(h:MBk lo w m)(hd:DB m k)(ht:T3 m k\/FB m k):False:=by
 obtain⟨u,g1,g2⟩:=h.tyD hd
 rcases ht with ht | ht
 ·obtain⟨t,h1,h2⟩:=h.tyT ht;exact GZ
 obtain⟨t,h1,h2⟩:=h.tyF ht;exact GZ
theorem MBk.eT{lo:Nat}(h:MBk lo w m)(he:(tl m.ea m.en m.ec).b=some k)(ht:(T3 m k\/FB m k)\/DB m k):False:=by
 have g1:=dW h.re he
 rcases ht with (ht | ht) | ht
 ·obtain⟨t,h1,h2⟩:=h.tyT ht
  exact jc g1 h1 (by rcases h2 with rfl | rfl | rfl <;> decide)
 ·obtain⟨t,h1,h2⟩:=h.tyF ht
  exact jc g1 h1 (by rcases h2 with rfl | rfl | rfl <;> decide)
 obtain⟨t,h1,h2⟩:=h.tyD ht
 exact jc g1 h1 (by rcases h2 with rfl | rfl <;> decide)
variable {X:Nat}
theorem bB.cell{lo base:Nat}(h:bB lo base GB K T w w'){v:Value}(hX:¬BW GB K X)(hc:w.cell? (ZA X j)=some v):w'.cell? (ZA X j)=some v:=by
 obtain⟨K1,g1,k1,q1,o1⟩:=h;exact k1.cell hc hX
variable {w0:World}
theorem BgK.addM{lo base:Nat}(h0:BgK lo base w0 GB K)(hm0:MBk lo w0 m)(hf:∀k,MF m k->¬BF GB K k) :
  Zw 17 #[ZP GB 0,.agg (mV m)] w0 fun e w'=>e=.returned (.tuple #[])/\bB lo base GB K (MF m) w0 w':=by
 have h:=h0.box (.cells (mV m) 29);have hm:=hm0.keptM (Kept.alloc (fun _=>False) w0 (.cells (mV m) 29)) (fun _ _ z=>z);have hx0:(w0.alloc (.cells (mV m) 29)).heap[w0.heap.size]? =some (.cells (mV m) 29):=uR w0 _
 have hX:¬BW GB K w0.heap.size:=fun hk=>by have:=h0.bfl hk.bf; omega
 have hend:∀w' T,(∀k,T k->MF m k)->bB lo base GB K T (w0.alloc (.cells (mV m) 29)) w'->bB lo base GB K (MF m) w0 w':=fun w' T hT hx=>hx.boxed.mono hT;have C:=fun(j:Nat)=>ag (i:=j) hx0;unfold mV at hx0 h hm hend C ⊢;obtain⟨HM,HX,HEND,HC,HF⟩:=ZM hm hX hend C hf;have A0:=hid (bB.refl (T:=fun _=>False) h);have c0:=C 0;clear hm hX hend C hf h h0 hm0 hx0;replace c0:=c0.trans (show _=some _ from rfl);go_enter func17,ntmps17
 go_wp2_with fail;clear c0;generalize w0.alloc (bM m.ta m.tn m.tc m.ha m.hn m.hc m.ga m.gn m.gc m.fi m.mo m.fa m.fn m.fc m.da m.dn m.dc m.ea m.en m.ec)=W at *;generalize w0.heap.size=X at *
 refine(A0.out.next (F:=59) (T2:=(fun k=>(tl m.ta m.tn m.tc).b=some k)) (R:=.returned (.tuple #[])) (fun K1 g1 k1 q1=>by
  obtain⟨ha,hok⟩:=iC HM.out.rt;obtain⟨p,f⟩:=carry k1 q1 hok (fun k hk=>HF.out k (.inl hk)) (fun k hk hT=>hT);have:=g1.ad2 _ p (by show m.tn<=_; have:=HM.out.sr.tn; omega) f
  rw[ha]at this;exact this)).mono ?_
 rintro e w1⟨rfl,hx⟩;have c1:=hx.cell HX.out (HC.out 1);replace c1:=c1.trans (show _=some _ from rfl);have A1:=hid hx;clear hx A0;go_wp2_with fail;clear c1
 refine(A1.out.next (F:=60) (T2:=(fun k=>(tl m.ha m.hn m.hc).b=some k)) (R:=.returned (.tuple #[])) (fun K1 g1 k1 q1=>by
  obtain⟨ha,hok⟩:=iC HM.out.rh;obtain⟨p,f⟩:=carry k1 q1 hok (fun k hk=>HF.out k (.inr (.inl hk))) (fun k hk hT=>hT.elim id (fun hT=>jc (dW HM.out.rh hk) (dW HM.out.rt hT) au));have:=g1.ad1 _ p (by show m.hn<=_; have:=HM.out.sr.hn; omega) f
  rw[ha]at this;exact this)).mono ?_
 rintro e w2⟨rfl,hx⟩;have c2:=hx.cell HX.out (HC.out 2);replace c2:=c2.trans (show _=some _ from rfl);have A2:=hid hx;clear hx A1;go_wp2_with fail;clear c2
 refine(A2.out.next (F:=61) (T2:=(fun k=>(tl m.ga m.gn m.gc).b=some k)) (R:=.returned (.tuple #[])) (fun K1 g1 k1 q1=>by
  obtain⟨ha,hok⟩:=iC HM.out.rg;obtain⟨p,f⟩:=carry k1 q1 hok (fun k hk=>HF.out k (.inr (.inr (.inl hk)))) (fun k hk hT=>hT.elim (fun hT=>hT.elim id (fun hT=>jc (dW HM.out.rg hk) (dW HM.out.rt hT) au)) (fun hT=>jc (dW HM.out.rg hk) (dW HM.out.rh hT) au));have:=g1.ad3 _ p (by show m.gn<=_; have:=HM.out.sr.gn; omega) f
  rw[ha]at this;exact this)).mono ?_
 rintro e w3⟨rfl,hx⟩;have c5:=hx.cell HX.out (HC.out 5);replace c5:=c5.trans (show _=some _ from rfl);have A3:=hid hx;clear hx A2;go_wp2_with fail;clear c5
 refine(A3.out.next (F:=62) (T2:=(FB m)) (R:=.returned (.tuple #[])) (fun K1 g1 k1 q1=>by
  have hk2:=HM.out.keptM k1 (fun k hk hx=>HF.out k hk hx.bf)
  exact g1.fns hk2 (fun k hk hx=>(q1 k hx).elim (HF.out k (.inr (.inr (.inr (.inl hk))))) (fun z=>z.elim (fun z=>HM.out.fT hk z) (fun z=>by obtain⟨t,⟨cur,hc⟩,_⟩:=HM.out.tyF hk; have:=t7 hc; omega))))).mono ?_
 rintro e w4⟨rfl,hx⟩;have c6:=hx.cell HX.out (HC.out 6);replace c6:=c6.trans (show _=some _ from rfl);have A4:=hid hx;clear hx A3;go_wp2_with fail;clear c6
 refine(A4.out.next (F:=63) (T2:=(DB m)) (R:=.returned (.tuple #[])) (fun K1 g1 k1 q1=>by
  have hk2:=HM.out.keptM k1 (fun k hk hx=>HF.out k hk hx.bf)
  exact g1.dats hk2 (fun k hk hx=>(q1 k hx).elim (HF.out k (.inr (.inr (.inr (.inr (.inl hk)))))) (fun z=>z.elim (fun z=>HM.out.dT hk z) (fun z=>by obtain⟨t,⟨cur,hc⟩,_⟩:=HM.out.tyD hk; have:=t7 hc; omega))))).mono ?_
 rintro e w5⟨rfl,hx⟩;have c7:=hx.cell HX.out (HC.out 7);replace c7:=c7.trans (show _=some _ from rfl);have A5:=hid hx;clear hx A4;go_wp2_with fail;clear c7
 refine(A5.out.next (F:=64) (T2:=(fun k=>(tl m.ea m.en m.ec).b=some k)) (R:=.returned (.tuple #[])) (fun K1 g1 k1 q1=>by
  obtain⟨ha,hok⟩:=iC HM.out.re;obtain⟨p,f⟩:=carry k1 q1 hok (fun k hk=>HF.out k (.inr (.inr (.inr (.inr (.inr hk)))))) (fun k hk hT=>HM.out.eT hk hT);have:=g1.ad4 _ p (by show m.en<=_; have:=HM.out.sr.en; omega) f
  rw[ha]at this;exact this)).mono ?_
 rintro e w6⟨rfl,hx⟩
 have AE:=hid (HEND.out _ _ (fun k hk=>by
  rcases hk with ((hk | hk) | hk) | hk
  ·rcases hk with ((hk | hk) | hk) | hk
   ·exact hk.elim
   ·exact .inl hk
   ·exact .inr (.inl hk)
   exact .inr (.inr (.inl hk))
  ·exact .inr (.inr (.inr (.inl hk)))
  ·exact .inr (.inr (.inr (.inr (.inl hk))))
  exact .inr (.inr (.inr (.inr (.inr hk))))) hx)
 clear hx A5;go_wp2_with fail;go_end0;exact⟨rfl,AE.out⟩
variable {base base' e n:Nat}
theorem ir{v:Value}(h:w.ownsRow base e k v n xs)(hb:base'<=base):w.ownsRow base' e k v n xs:=by
 exact wI
theorem MBk.low{lo lo':Nat}(h:MBk lo w m)(hl:lo'<=lo):MBk lo' w m :=
 ⟨ir h.rt hl,ir h.rh hl,ir h.rg hl,ir h.rf hl,ir h.rd hl,ir h.re hl,fun x hx=>⟨ir (h.fo x hx).code hl,fun y hy=>ir ((h.fo x hx).lab y hy) hl⟩,h.fd,fun x hx=>ir (h.dd x hx) hl,h.di,h.sr⟩
theorem X3(lo:Nat)(w:World):MBk lo w mm0 :=
 ⟨dt _ _ _ _,dt _ _ _ _,dt _ _ _ _,dt _ _ _ _,dt _ _ _ _,dt _ _ _ _,(fun x hx=>fG),(fun i j x y k hx=>by simp[mm0]at hx),(fun x hx=>fG),⟨I3,List.Pairwise.nil⟩,
  ⟨⟨rfl,.inl rfl⟩,Z5 _,⟨rfl,.inl rfl⟩,Z5 _,⟨rfl,.inl rfl⟩,Z5 _,⟨rfl,.inl rfl⟩,Z5 _,(fun x hx=>fG),⟨rfl,.inl rfl⟩,Z5 _,(fun x hx=>fG),⟨rfl,.inl rfl⟩,Z5 _⟩⟩
theorem MBk.at{lo:Nat}(h:MBk lo w m)(hk:MF m k):lo<=k/\k<w.heap.size:=by
 have g:∀{e s n c:Nat} {a:OAz} {xs:Zah},w.ownsRow lo e s (.slice a n c) n xs->(tl a n c).b=some k->lo<=k/\k<w.heap.size:=fun h1 h2=>⟨(kj h1 h2).1,(kj h1 h2).2.1⟩
 rcases hk with hk | hk | hk | hk | hk | hk
 ·exact g h.rt hk
 ·exact g h.rh hk
 ·exact g h.rg hk
 ·rcases hk with hk | ⟨i,x,hx,hk | ⟨y,hy,hk⟩⟩
  ·exact g h.rf hk
  ·exact g (h.fo x (ZO hx)).code hk
  exact g ((h.fo x (ZO hx)).lab y hy) hk
 ·rcases hk with hk | ⟨i,x,hx,hk⟩
  ·exact g h.rd hk
  exact g (h.dd x (ZO hx)) hk
 exact g h.re hk
structure Got(s:BAz)(e l:Int)(P:PM):Prop where
 p:∀w,cY w.heap.size w->Zw 15 #[.string s] w fun x w'=>Zx w w'/\∃m,x=rt3 (mV m) e l/\pl m=P/\MBk w.heap.size w' m
 r:∀w,Zw 16 #[.string s] w fun x w'=>Zx w w'/\∃m,x=rt3 (mV m) e l/\pl m=P/\MSr w' m
variable {s:BAz}{e l:Int}
theorem Tu(h1:∀w x w',vp s w x w'->x=rt3 zV e l)(h2:∀w x w',vV s w x w'->x=rt3 zV e l)(hs:s.size<=131072\/1048576<s.size):Got s e l (pl mm0) :=
 ⟨fun w hE=>(sO s w hE).mono fun x w' hp=>⟨hp.1,mm0,h1 w x w' hp,rfl,X3 _ _⟩,fun w=>(Ap s w hs).mono fun x w' hp=>⟨hp.1,mm0,h2 w x w' hp,rfl,(X3 0 _).sr⟩⟩
theorem got(s:BAz)(hs:s.size<=131072\/1048576<s.size):∃e l P,Got s e l P:=by
 rcases hs with h | h
 ·have hs:s.size<=131072\/1048576<s.size:=.inl h;have h1:s.size<=1048576:=ae;obtain⟨l,o,hlo⟩:∃l o,iO 0 0 pm0 (bg s)=(l,o):=⟨_,_,rfl⟩
  cases o with
  | none=>exact⟨22,l,_,Tu (fun w x w' hp=>(hp.2.2 h1 l none hlo).1 rfl) (fun w x w' hp=>(hp.2.2 h l none hlo).1 rfl) hs⟩
  | some q =>
   obtain⟨p,M⟩:=q
   by_cases hp5:p<5
   ·exact⟨22,l,_,Tu (fun w x w' hp=>((hp.2.2 h1 l _ hlo).2 p M rfl).1 hp5) (fun w x w' hp=>((hp.2.2 h l _ hlo).2 p M rfl).1 hp5) hs⟩
   have hp5':5<=p:=ae
   by_cases hc:cJ (un M)=0
   ·refine⟨0,0,M,fun w hE=>(sO s w hE).mono fun x w' hp=>⟨hp.1,?_⟩,fun w=>(Ap s w hs).mono fun x w' hp=>⟨hp.1,?_⟩⟩
    ·obtain⟨m,hpl,hlen,tw,-,h5⟩:=((hp.2.2 h1 l _ hlo).2 p M rfl).2 hp5'
     have hc':cJ m=0:=by rw[<- uQ hlen,hpl]; exact hc
     obtain⟨he,base,R,mp,ln,hR,hq⟩:=h5 hc'
     have qap:w.heap.size<=base:=by have:=hq.low; omega
     exact⟨m,he,hpl,MBk.low (lo:=base) ⟨hq.rt,hq.rh,hq.rg,hq.rf,hq.rd,hq.re,hq.fo,hq.fd,hq.dd,hq.di,(hq.mok (by rw[hpl]; exact tw) _ _ lRn lRn).sr (zx hc')⟩ qap⟩
    obtain⟨m,hpl,hlen,tw,-,h5⟩:=((hp.2.2 h l _ hlo).2 p M rfl).2 hp5'
    have hc':cJ m=0:=by rw[<- uQ hlen,hpl]; exact hc
    obtain⟨he,base,R,q,hR,hq⟩:=h5 hc';exact⟨m,he,hpl,(hq.mok (by rw[hpl]; exact tw) _ _ lRn lRn).sr (zx hc')⟩
   refine⟨cJ (un M),0,_,Tu (fun w x w' hp=>?_) (fun w x w' hp=>?_) hs⟩
   ·obtain⟨m,hpl,hlen,tw,h4,-⟩:=((hp.2.2 h1 l _ hlo).2 p M rfl).2 hp5';exact G9
   obtain⟨m,hpl,hlen,tw,h4,-⟩:=((hp.2.2 h l _ hlo).2 p M rfl).2 hp5';exact G9
 exact⟨13,0,_,Tu (fun w x w' hp=>hp.2.1 h) (fun w x w' hp=>hp.2.1 h) (.inr h)⟩
theorem MBk.later{lo:Nat}(h:MBk lo w m)(hb:Zx w w'):MBk lo w' m:=h.keptM (cd (S:=fun _=>False) hb) (fun _ _ z=>z)
theorem bB.below{lo base:Nat}(h:bB lo base GB K T w w')(hg:BgK lo base w GB K):Below base w w':=by
 obtain⟨K1,g1,k1,q1,o1⟩:=h;exact k1.to_below (Nat.le_of_lt (Nat.lt_of_le_of_lt hg.bs hg.gl)) (fun k hk hx=>by have:=hg.bob hx; omega)
theorem belG{w w':World}{g:Nat}(h:w.heap.size=g)(b:Below g w w'):Zx w w':=by subst h; exact b
theorem belH{w w':World}{g:Nat}(h:w.heap.size=g)(b:Zx w w'):Below g w w':=by subst h; exact b
theorem DR(s:BAz)(w:World)(hE:cY w.heap.size w):Zw 4 #[.string s] w (ZC (.bool true) w):=by
 have HE:=hid (fun(W:World) (hb:Zx w W)=>hE.top hb);have HT:=hid (fun(W:World) (hb:Zx w W)=>hE.tens.later hb);have W8:=hid (WT w hE);clear hE;go_enter func4,ntmps4
 go_wp2_with fail;refine W8.out.mono ?_;rintro e w1⟨rfl,hb⟩;have SO:=hid hb;clear hb W8
 by_cases hmid:131072<s.size/\s.size<=1048576
 ·have h1:(131072:Int)<(s.size:Int):=ae;have h2:(s.size:Int)<=1048576:=ae
  have hd:decide ((s.size:Int)<=1048576)=true:=by simpa using h2
  clear hmid;go_wp2_with fail;go_ret;exact⟨rfl,SO.out⟩
 have hs:s.size<=131072\/1048576<s.size:=ae;clear hmid;obtain⟨E,l,P,hG⟩:=got s hs;have HG:=hid hG;clear hG
 go_upto_region 2 with fail
 go_cut [23] from 16 to 23 (fun v wx=>v=.bool false/\wx=w1)
 case first =>
  rcases hs with h | h
  ·have h1:¬(131072:Int)<(s.size:Int):=ae;clear h;go_wp2_with fail;exact jX
  have h1:(131072:Int)<(s.size:Int):=ae;have h2:¬(s.size:Int)<=1048576:=ae
  have hd:decide ((s.size:Int)<=1048576)=false:=by simpa using h2
  clear h;go_wp2_with fail;exact jX
 case rest =>
 obtain⟨rfl,hw⟩:=hcut;have hw':=hw.symm;subst hw';clear hw;clear hs;go_wp2_with fail;refine(HG.out.p _ (HE.out _ SO.out)).mono ?_;rintro x w2⟨hb,ma,rfl,hpa,Cd⟩;have P2:=Zy SO hb;have iS:=hid SO.out.size;have HPA:=hid hpa;have HLA:=hid (fun k (hk:MF ma k)=>(Cd.at hk).2);have BN:=aj w2 (bM ma.ta ma.tn ma.tc ma.ha ma.hn ma.hc ma.ga ma.gn ma.gc ma.fi ma.mo ma.fa ma.fn ma.fc ma.da ma.dn ma.dc ma.ea ma.en ma.ec);have bn:=hZn w2 (bM ma.ta ma.tn ma.tc ma.ha ma.hn ma.hc ma.ga ma.gn ma.gc ma.fi ma.mo ma.fa ma.fn ma.fc ma.da ma.dn ma.dc ma.ea ma.en ma.ec);have xF:=hid (Cd.later BN);have HBa:=Zy P2 BN;have kn:=hid bn;have HS4:=hid (show w1.heap.size<=(w2.alloc (bM ma.ta ma.tn ma.tc ma.ha ma.hn ma.hc ma.ga ma.gn ma.gc ma.fi ma.mo ma.fa ma.fn ma.fc ma.da ma.dn ma.dc ma.ea ma.en ma.ec)).heap.size from ZW hb.size BN.size);have HLA2:=hid (show ∀k,MF ma k->k<(w2.alloc (bM ma.ta ma.tn ma.tc ma.ha ma.hn ma.hc ma.ga ma.gn ma.gc ma.fi ma.mo ma.fa ma.fn ma.fc ma.da ma.dn ma.dc ma.ea ma.en ma.ec)).heap.size from fun k hk=>Z8 (HLA.out k hk) BN.size);clear BN bn hb Cd hpa P2 HLA;unfold rt3 mV;go_wp2_with fail;generalize w2.alloc (bM ma.ta ma.tn ma.tc ma.ha ma.hn ma.hc ma.ga ma.gn ma.gc ma.fi ma.mo ma.fa ma.fn ma.fc ma.da ma.dn ma.dc ma.ea ma.en ma.ec)=wa at *;generalize w2.heap.size=XA at *;refine(HG.out.p _ (HE.out _ HBa.out)).mono ?_;rintro x w3⟨hb,mb,rfl,hpb,hmb⟩;have cq:=Zy HBa hb;have HS2:=hid HBa.out.size;have HPB:=hid hpb;replace xF:=hid (xF.out.later hb);replace kn:=hid (ar hb kn.out);have BN:=aj w3 (bM mb.ta mb.tn mb.tc mb.ha mb.hn mb.hc mb.ga mb.gn mb.gc mb.fi mb.mo mb.fa mb.fn mb.fc mb.da mb.dn mb.dc mb.ea mb.en mb.ec);have bn:=hZn w3 (bM mb.ta mb.tn mb.tc mb.ha mb.hn mb.hc mb.ga mb.gn mb.gc mb.fi mb.mo mb.fa mb.fn mb.fc mb.da mb.dn mb.dc mb.ea mb.en mb.ec);have HMB:=hid (hmb.later BN);replace xF:=hid (xF.out.later BN);replace kn:=hid (ar BN kn.out);have HBb:=Zy cq BN;have AT:=hid bn;have HS3:=hid (show wa.heap.size<=(w3.alloc (bM mb.ta mb.tn mb.tc mb.ha mb.hn mb.hc mb.ga mb.gn mb.gc mb.fi mb.mo mb.fa mb.fn mb.fc mb.da mb.dn mb.dc mb.ea mb.en mb.ec)).heap.size from ZW hb.size BN.size);clear BN bn hb hmb hpb cq;unfold rt3 mV;go_wp2_with fail;generalize w3.alloc (bM mb.ta mb.tn mb.tc mb.ha mb.hn mb.hc mb.ga mb.gn mb.gc mb.fi mb.mo mb.fa mb.fn mb.fc mb.da mb.dn mb.dc mb.ea mb.en mb.ec)=wb at *;generalize w3.heap.size=XB at *;refine(HG.out.r _).mono ?_;rintro x w4⟨hb,mw,rfl,hpw,hmw⟩;have pi:=Zy HBb hb;have HPW:=hid hpw;replace xF:=hid (xF.out.later hb);replace kn:=hid (ar hb kn.out);replace HMB:=hid (HMB.out.later hb);replace AT:=hid (ar hb AT.out);have BN:=aj w4 (bM mw.ta mw.tn mw.tc mw.ha mw.hn mw.hc mw.ga mw.gn mw.gc mw.fi mw.mo mw.fa mw.fn mw.fc mw.da mw.dn mw.dc mw.ea mw.en mw.ec);have bn:=hZn w4 (bM mw.ta mw.tn mw.tc mw.ha mw.hn mw.hc mw.ga mw.gn mw.gc mw.fi mw.mo mw.fa mw.fn mw.fc mw.da mw.dn mw.dc mw.ea mw.en mw.ec);have HMW:=hid (hmw.later BN);replace xF:=hid (xF.out.later BN);replace kn:=hid (ar BN kn.out);replace HMB:=hid (HMB.out.later BN);replace AT:=hid (ar BN AT.out);have HBc:=Zy pi BN;have lz:=hid bn;replace HS3:=hid (ZW HS3.out (ZW hb.size BN.size));clear BN bn hb hmw hpw pi;unfold rt3 mV
 go_upto_region 7 with fail
 generalize w4.alloc (bM mw.ta mw.tn mw.tc mw.ha mw.hn mw.hc mw.ga mw.gn mw.gc mw.fi mw.mo mw.fa mw.fn mw.fc mw.da mw.dn mw.dc mw.ea mw.en mw.ec)=wc at *;generalize w4.heap.size=XW at *;have BN:=aj wc Om;have HK:=hid (YJ (lo:=w1.heap.size) (w:=wc) (ZW HS4.out HS3.out));have HWL:=hid (show ∀W',Below wc.heap.size (wc.alloc Om) W'->Zx wc W' from fun W' hb=>BN.trans hb);have HBd:=hid BN
 go_upto_region 8 with fail
 generalize wc.alloc Om=wd at *;clear BN;obtain⟨GB,hGB⟩:∃GB,wc.heap.size=GB:=⟨_,rfl⟩;have rl:=hid hGB;change Hid (Below wc.heap.size wc wd) at HBd;rw[hGB]at HK HWL HBd;rw[hGB]
 have H17:=hid (HK.out.addM (m:=ma) (by have:=xF.out.later (belG rl.out HBd.out); exact this.low lRn) (fun k hk hx=>by
  have h1:=BF0 hx;have h2:=(xF.out.at hk).2;have:=rl.out
  omega))
 unfold mV at H17;have m0:=iz0 (ar (belG rl.out HBd.out) kn.out);have m1:=iz1 (ar (belG rl.out HBd.out) kn.out);have m2:=iz2 (ar (belG rl.out HBd.out) kn.out);have m3:=iz3 (ar (belG rl.out HBd.out) kn.out);have m4:=iz4 (ar (belG rl.out HBd.out) kn.out);have m5:=iz5 (ar (belG rl.out HBd.out) kn.out);have m6:=iz6 (ar (belG rl.out HBd.out) kn.out);have m7:=iz7 (ar (belG rl.out HBd.out) kn.out);clear hGB;go_wp2_with fail;clear m0 m1 m2 m3 m4 m5 m6 m7;refine H17.out.mono ?_;rintro e w5⟨rfl,hx⟩;have de:=hid (HWL.out _ (hx.below HK.out));obtain⟨K1,g1,k1,q1,o1⟩:=hx
 have H17b:=hid (g1.addM (m:=mb) ((HMB.out.later de.out).low HS4.out) (fun k hk hx=>by
  have h2:=HMB.out.at hk;have h4:=rl.out
  rcases q1 k hx with h | h | h
  ·have:=BF0 h; omega
  ·have:=HLA2.out k h; omega
  have:=HBd.out.size; omega))
 have G1:=hid g1;unfold mV at H17b;have m0:=iz0 (ar de.out AT.out);have m1:=iz1 (ar de.out AT.out);have m2:=iz2 (ar de.out AT.out);have m3:=iz3 (ar de.out AT.out);have m4:=iz4 (ar de.out AT.out);have m5:=iz5 (ar de.out AT.out);have m6:=iz6 (ar de.out AT.out);have m7:=iz7 (ar de.out AT.out);have HWL5:=hid (show ∀W',Below GB w5 W'->Below GB wc W' from fun W' hb=>(belH rl.out de.out).trans hb);clear g1 k1 q1 o1 H17 de;go_wp2_with fail;clear m0 m1 m2 m3 m4 m5 m6 m7;refine H17b.out.mono ?_;rintro e w6⟨rfl,hx⟩;have LE:=HWL5.out _ (hx.below G1.out);rw[<- rl.out]at LE;obtain⟨K2,g2,k2,q2,o2⟩:=hx;have G2:=hid g2;have SA:=hid (xF.out.later LE).sr;have SB:=hid (HMB.out.later LE).sr;have SW:=hid (HMW.out.later LE);replace kn:=hid (ar LE kn.out);replace AT:=hid (ar LE AT.out);replace lz:=hid (ar LE lz.out);have HB6:=Zy HBc LE;clear LE g2 k2 q2 o2 H17b HWL HWL5 HK G1 xF HMB HMW;have H13:=hid (PU SW.out SA.out (Ql (HPW.out.trans HPA.out.symm) SW.out SA.out));unfold mV at H13;have m0:=iz0 kn.out;have m1:=iz1 kn.out;have m2:=iz2 kn.out;have m3:=iz3 kn.out;have m4:=iz4 kn.out;have m5:=iz5 kn.out;have m6:=iz6 kn.out;have m7:=iz7 kn.out;have n0:=iz0 lz.out;have n1:=iz1 lz.out;have n2:=iz2 lz.out;have n3:=iz3 lz.out;have n4:=iz4 lz.out;have n5:=iz5 lz.out;have n6:=iz6 lz.out;have n7:=iz7 lz.out;go_wp2_with fail;clear m0 m1 m2 m3 m4 m5 m6 m7 n0 n1 n2 n3 n4 n5 n6 n7;refine H13.out.mono ?_;rintro e w7⟨rfl,hb⟩;replace SB:=hid (SB.out.later hb);replace SW:=hid (SW.out.later hb);replace AT:=hid (ar hb AT.out);replace lz:=hid (ar hb lz.out);have HB7:=Zy HB6 hb;have G3:=hid (G2.out.kept (cd (S:=fun _=>False) hb) (fun _ _ z=>z));clear hb H13 HB6 G2 SA kn;have H13:=hid (PU SW.out SB.out (Ql (HPW.out.trans HPB.out.symm) SW.out SB.out));unfold mV at H13;have m0:=iz0 AT.out;have m1:=iz1 AT.out;have m2:=iz2 AT.out;have m3:=iz3 AT.out;have m4:=iz4 AT.out;have m5:=iz5 AT.out;have m6:=iz6 AT.out;have m7:=iz7 AT.out;have n0:=iz0 lz.out;have n1:=iz1 lz.out;have n2:=iz2 lz.out;have n3:=iz3 lz.out;have n4:=iz4 lz.out;have n5:=iz5 lz.out;have n6:=iz6 lz.out;have n7:=iz7 lz.out;go_wp2_with fail;clear m0 m1 m2 m3 m4 m5 m6 m7 n0 n1 n2 n3 n4 n5 n6 n7;refine H13.out.mono ?_;rintro e w8⟨rfl,hb⟩;have HB8:=Zy HB7 hb;have G4:=hid (G3.out.kept (cd (S:=fun _=>False) hb) (fun _ _ z=>z));clear hb H13 HB7 G3 SB SW AT lz;have H18:=hid (G4.out.apart (HT.out _ HB8.out) iS.out);go_wp2_with fail;refine H18.out.mono ?_;rintro e w9⟨rfl,hk⟩;have HB9:=hid (HB8.out.trans (hk.to_below HB8.out.size (fun k hk hx=>by have:=G4.out.low hx; have:=iS.out; omega)));clear hk H18;go_wp2_with fail;go_ret;exact⟨rfl,HB9.out⟩
end Go.Proofs.YtheefojaplnnoaaGreatDoor
namespace Go.Proofs.YtheefojaplnnoaaGreatDoor.textParses
open Go.Proofs.Tryz
open Go.ChangeShapes Go.WideShapes Go.ChangeAt Go.RowKit
open Go.ChangeMaps (open_string shut_string)
theorem lifted(os:Os)(started:os.Started)(H:Type)(enc:TypeId×Value->H) :
  ReturnsInHanded {} Tryz.checked os 4 .any (fun w args=>(Rows.textParsesSpec.pre enc prog Tryz.f4 [] false w args/\laidMetH prog mi w)/\sizedMet enc prog Tryz.f4 (OpenSpec.ofChange Rows.textParsesSpec) false w args) (Rows.textParsesSpec.post enc prog Tryz.f4 false true false false):=by
 refine returnsInHanded_of_row (C:=Tryz.checked) (s:=OpenSpec.ofChange Rows.textParsesSpec) (F:=fun _ _ _=>0) (laid:=mi) Ul started ak func4
  (ChangeSpec.witness_shaped (enc:=enc) (C:=Tryz.checked) (os:=os) (X:=fun w _=>laidMetH prog mi w) false (World.laidAll prog os mi) #[.string ⟨#[]⟩] 8 (World.laidAll_os _ _ _)
   (World.shaped_of_ZipB ak ak) ak ak ak (met os _)) ?_
 intro W base args ds gs before qah hW _ _ hsz0 hL hshape _;have hsz:(DataW.weightsEach prog (Tryz.f4.params.toList++Rows.textParsesSpec.plain.varTypes prog) (ds++gs)).all (· <= reachBytes)=true:=hsz0;have hW':=hW;obtain⟨p,q,hA0,hV,rfl,hfz,hnd⟩:=hW;have hA:DataW.TrodAll enc prog W 0 (fun _=>true) true Tryz.f4.params.toList args.toList ds p:=hA0;have hval:∀(j:Nat)t v,Tryz.f4.params[j]? =some t->args[j]? =some v->Value.okWide prog W .any base t v:=qah;rw[Tryz.params4]at hA hval hsz;obtain⟨v0,vs0,d0,ds0,p0,q0,hargs,rfl,rfl,h0,r0⟩:=trodAll_cons hA;obtain⟨rfl,rfl,rfl⟩:=trodAll_nil r0
 obtain rfl:args=#[v0]:=by cases args; simp_all
 obtain⟨rfl,rfl⟩:=trodVars_none hV;obtain⟨a0,rfl,rfl,rfl,w1⟩:=open_string underlying9 (hval 0 9 v0 rfl rfl) h0;clear hA0 qah;refine(DR a0 W (Rs hL hshape)).mono fun e W' ⟨he,bel⟩=>?_;subst he;exact⟨_,rfl,_,_,_,[],_,[],hW',trodAll_mk1 (shut_bool underlying4 _),(trodAll_cons_mk (shut_string underlying9 w1) trodAll_mk0),rfl,bel.frame _,fun h=>bS⟩
end Go.Proofs.YtheefojaplnnoaaGreatDoor.textParses
namespace Go.Proofs.YtheefojaplnnoaaGreatDoor.textParses
open Go.RowKit
variable {a b:Bool}
theorem VF(ha:a=true)(hb:b=true):(a&&b)=true:=by rw[ha,hb]; rfl
theorem facts:joinedFacts Tryz.pinned.checked.prog 4 Tryz.f4 Rows.textParsesSpec Rows.textParsesRow=true:=by
 unfold joinedFacts
 repeat' (with_reducible refine VF ?_ ?_)
 all_goals (as_aux_lemma=>kernel_rfl)
end Go.Proofs.YtheefojaplnnoaaGreatDoor.textParses
namespace Go.Proofs.YtheefojaplnnoaaGreatDoor.textParses
open Go.Proofs.Tryz
open Go.ChangeShapes Go.WideShapes Go.ChangeAt Go.RowKit
theorem over:Rows.textParsesRow.holds Tryz.pinned (OpenSpec.ofChange Rows.textParsesSpec) :=
 OpenClaim.holds_of_wide 4 Tryz.f4 rfl rfl rfl rfl rfl rfl rfl ⟨rfl,rfl,rfl,rfl,rfl⟩ rfl rfl rfl rfl rfl (by as_aux_lemma=>kernel_rfl) func4 facts
  (by as_aux_lemma=>exact of_decide_eq_true ak) (by as_aux_lemma=>unfold Func.isWrapper; first | (rw[if_pos kO]; kernel_rfl) | (rw[if_neg kO]; exact⟨rfl,rfl⟩))
  (fun os started H enc _=>lifted os started H enc)
theorem proved:Rows.TextParsesSaid:=over
theorem card:Rows.TextParsesCardSaid :=
 Claim7.holds_tied_plain_at .later [] [.data,.data,.data,.data,.sentinel,.sentinel,.data,.pinned] true Rows.textParsesCard.stood.harness true
  over (fun _ h=>bS) ak (fun _ h=>bS) textParses_row_tie rfl ⟨rfl,rfl⟩ ak rfl
  (fun f fn hf hfn=>by
   obtain rfl:f=4:=i9 ((show prog.funcNamed Rows.textParsesRow.func=some 4 by kernel_rfl).symm.trans hf) |>.symm;obtain rfl:fn=Tryz.f4:=(i9 (func4.symm.trans hfn)).symm
   exact⟨ak,fun j t ht=>by
    rw[Tryz.params4]at ht
    have hm:t∈[9]:=by simpa using Array.mem_of_getElem? ht
    have hall:([9].all fun u=>!prog.wantsStandIn u)=true:=ak
    exact(show prog.wantsStandIn t=false by simpa using List.all_eq_true.1 hall t hm)⟩)
  ak
#print axioms card
end Go.Proofs.YtheefojaplnnoaaGreatDoor.textParses
namespace Go.Proofs.YtheefojaplnnoaaGreatDoor
theorem textParses_holds:Rows.TextParsesCardSaid:=textParses.card
end Go.Proofs.YtheefojaplnnoaaGreatDoor

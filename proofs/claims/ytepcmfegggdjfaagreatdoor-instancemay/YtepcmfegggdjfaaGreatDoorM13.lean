/-
  Texts Ce Cf Cj Na Cg Nb Da Db Dc Ra.
-/
import Derived.Test.YtepcmfegggdjfaaGreatDoorM00
import Derived.Test.YtepcmfegggdjfaaGreatDoorM11
import Derived.Test.YtepcmfegggdjfaaGreatDoorM12
set_option linter.unusedVariables false
set_option maxRecDepth 100000
set_option maxHeartbeats 16000000
namespace Go.Proofs.YtepcmfegggdjfaaGreatDoor
open Go.Proofs.Tryz
open Go.RowKit
variable {W:World}{b:Nat}{o:Obj}
theorem FI(h:W.heap[b]? =some o):b<W.heap.size:=aN h
variable {w w':World}
theorem bz(hb:Below w.heap.size w w')(h:w.heap[b]? =some o):w'.heap[b]? =some o:=ak hb h
theorem eI(w:World)(o:Obj):(w.alloc o).heap[w.heap.size]? =some o:=hZn w o
variable {n:Nat}
theorem Fv(h:w.heap.size=n):(w.alloc o).heap[n]? =some o:=uK h
variable {G j:Nat}{u:Value}
theorem bY(h:W.heap[b]? =some o)(hb:b≠G):(W.setCell ⟨G,j,none⟩ u).heap[b]? =some o:=((ax W G j u).block b (FI h) hb).trans h
abbrev fnv(k:Nat)(cs:AVz):Value:=.func (.func k) #[] cs
def eight(MB SX P7 P8 P9:Nat):List Value:=[fnv 36 #[pt P7,pt P8,pt P9],fnv 37 #[pt P7,pt SX],fnv 38 #[pt SX,pt P8],fnv 39 #[pt P9,pt SX],fnv 41 #[pt SX],fnv 42 #[pt SX],fnv 43 #[pt MB,pt SX],fnv 45 #[pt SX,pt MB]]
def pR(MB TX SX P7 P8 P9:Nat)(KX:Nat->Nat)(n:Nat):List Value:=eight MB SX P7 P8 P9++(List.range n).map fun i=>fnv 47 #[pt MB,pt TX,pt SX,pt (KX i)]
theorem MP(MB TX SX P7 P8 P9:Nat)(KX:Nat->Nat)(n:Nat):(pR MB TX SX P7 P8 P9 KX n).length=8+n:=by simp[pR,eight]; omega
theorem Jb(MB TX SX P7 P8 P9:Nat)(KX:Nat->Nat)(n Z:Nat):pR MB TX SX P7 P8 P9 KX n++[fnv 47 #[pt MB,pt TX,pt SX,pt Z]]=pR MB TX SX P7 P8 P9 (fun i=>if i=n then Z else KX i) (n+1):=by
 unfold pR;rw[List.range_succ,List.map_append,List.append_assoc]
 congr 1
 congr 1
 ·apply List.map_congr_left
  intro i hi
  have:i≠n:=by have:=List.mem_range.1 hi; omega
  simp[this]
 simp
structure AK(w:World)(mv sv:AVz)(tv:Value)(MB TX SX P7 P8 P9:Nat)(b7 b8 b9:Bool):Prop where
 m:w.heap[MB]? =some (.cells mv 29)
 x:w.heap[TX]? =some (.cells #[tv] 41)
 s:w.heap[SX]? =some (.cells sv 37)
 p7:w.heap[P7]? =some (aR b7)
 p8:w.heap[P8]? =some (aR b8)
 p9:w.heap[P9]? =some (aR b9)
variable {mv sv:AVz}{tv:Value}{MB TX SX P7 P8 P9:Nat}{b7 b8 b9:Bool}
theorem AK.later(h:AK w mv sv tv MB TX SX P7 P8 P9 b7 b8 b9)(hb:Below w.heap.size w w'):AK w' mv sv tv MB TX SX P7 P8 P9 b7 b8 b9:=⟨bz hb h.m,bz hb h.x,bz hb h.s,bz hb h.p7,bz hb h.p8,bz hb h.p9⟩
variable {a:AVz}{t:TypeId}
theorem jv{S:Nat->Prop}(h:w.heap[b]? =some (.cells a t))(hk:Kept S w w')(hS:∀b,S b->∃cur,w.heap[b]? =some (.cells cur 31))(ht:t≠31):w'.heap[b]? =some (.cells a t) :=
 (hk.block b (FI h) (fun hs=>by
  obtain⟨cur,hc⟩:=hS b hs;rw[h]at hc;simp at hc
  exact ht hc.2)).trans h
theorem AK.kept{S:Nat->Prop}(h:AK w mv sv tv MB TX SX P7 P8 P9 b7 b8 b9)(hk:Kept S w w')(hS:∀b,S b->∃cur,w.heap[b]? =some (.cells cur 31)):AK w' mv sv tv MB TX SX P7 P8 P9 b7 b8 b9 :=
 ⟨jv h.m hk hS aA,jv h.x hk hS aA,jv h.s hk hS aA,jv h.p7 hk hS aA,jv h.p8 hk hS aA,jv h.p9 hk hS aA⟩
theorem Tryz.infQ:(prog.info? 31).map (fun i=>(i.zero,i.size,i.bytes))=some (some .nilFunc,1,8):=ar
variable {v:Value}{xs:List Value}
theorem Lp{base e k n b:Nat}(h:w.ownsRow base e k v n xs)(hb:v.ownBlock=some b):base<=b/\b<w.heap.size/\∃cur,w.heap[b]? =some (.cells cur e):=by
 rcases h.2 with ⟨h0,_⟩ | ⟨g,cp,cur,rfl,h2,h3,h4⟩
 ·rw[h0]at hb; cases hb
 obtain rfl:g=b:=pk;exact⟨h2,FI h3,cur,h3⟩
variable {z:Int}
theorem CC{base n b:Nat}(h:w.ownsRow base 31 1 v n xs)(hb:v.ownBlock=some b)(hc:w.cell? ⟨b,0,none⟩=some (.int .i64 z))(hn:0<n)(hx:∀u,xs[0]? =some u->∀z,u≠.int .i64 z):False:=by
 rcases h.2 with ⟨h0,_⟩ | ⟨g,cp,cur,rfl,h2,h3,h4⟩
 ·rw[h0]at hb; cases hb
 obtain rfl:g=b:=pk;have h9:=World.ownsRow.cellAt h 0 ae;rw[hc]at h9;exact hx _ h9.symm z rfl
theorem O8{base e k n:Nat}(h:w.ownsRow base e k v n xs)(hb:Below w.heap.size w w'):w'.ownsRow base e k v n xs:=by
 refine⟨h.1,?_⟩
 rcases h.2 with h0 | ⟨g,cp,cur,rfl,h2,h3,h4⟩
 ·exact .inl h0
 exact .inr ⟨g,cp,cur,rfl,h2,bz hb h3,h4⟩
theorem Uf(v0 v1 v2 v3 v4 v5 v6 v7:Value)(xa:OAz)(xn xc:Nat)(fa ga pa ra:OAz)(fn fc gn gc pn pc rn rc:Nat)(rep en tr us:Int)(b7 b8 b9:Bool)(K:Nat)(w:World)(hfn:fn<=281474976710656)(hKm:min fn 64=K)(e7:(en==1)=b7)(e8:(en==2)=b8)(e9:(en==3)=b9) :
  Calls prog 22 #[.agg #[v0,v1,v2,v3,v4,v5,v6,v7],.slice xa xn xc,.agg #[.slice fa fn fc,.slice ga gn gc,.slice pa pn pc,.int .i64 rep,.int .i8 en,.slice ra rn rc,.int .i8 tr,.int .i64 us]] w fun e w'=>∃MB TX SX P7 P8 P9 KX LB cap,e=.returned (.slice (some ⟨LB,0,none⟩) (8+K) cap)/\AK w' #[v0,v1,v2,v3,v4,v5,v6,v7] #[.slice fa fn fc,.slice ga gn gc,.slice pa pn pc,.int .i64 rep,.int .i8 en,.slice ra rn rc,.int .i8 tr,.int .i64 us] (.slice xa xn xc) MB TX SX P7 P8 P9 b7 b8 b9/\(∀i,i<K->w'.cell? ⟨KX i,0,none⟩=some (.int .i64 i))/\w'.ownsRow w.heap.size 31 1 (.slice (some ⟨LB,0,none⟩) (8+K) cap) (8+K) (pR MB TX SX P7 P8 P9 KX K)/\Below w.heap.size w w':=by
 have B0:=aj w (.cells #[v0,v1,v2,v3,v4,v5,v6,v7] 29);have B1:=aj (w.alloc (.cells #[v0,v1,v2,v3,v4,v5,v6,v7] 29)) (.cells #[.slice xa xn xc] 41);have B2:=aj ((w.alloc (.cells #[v0,v1,v2,v3,v4,v5,v6,v7] 29)).alloc (.cells #[.slice xa xn xc] 41)) (cB fa fn fc ga gn gc pa pn pc rep en ra rn rc tr us);have km:=bz B2 (bz B1 (eI w (.cells #[v0,v1,v2,v3,v4,v5,v6,v7] 29)));have kx:(((w.alloc (.cells #[v0,v1,v2,v3,v4,v5,v6,v7] 29)).alloc (.cells #[.slice xa xn xc] 41)).alloc (cB fa fn fc ga gn gc pa pn pc rep en ra rn rc tr us)).heap[w.heap.size+1]? =some (.cells #[.slice xa xn xc] 41):=bz B2 (Fv aw);have ks:(((w.alloc (.cells #[v0,v1,v2,v3,v4,v5,v6,v7] 29)).alloc (.cells #[.slice xa xn xc] 41)).alloc (cB fa fn fc ga gn gc pa pn pc rep en ra rn rc tr us)).heap[w.heap.size+1+1]? =some (cB fa fn fc ga gn gc pa pn pc rep en ra rn rc tr us):=Fv aw;have HB0:=hid (B0.trans ((B1.trans (B2.mono B1.size)).mono B0.size));have g4:=iz4 ks;have hG:=FI ks;have HK:=hid (And.intro km (And.intro kx ks));clear B0 B1 B2 km kx ks;obtain⟨i0,hi,hz0,hz1,hz2⟩:=info_parts Tryz.infQ;have hK64:K<=64:=ae;have HKm:Hid (min (fn:Int) 64=(K:Int)):=hid ae;clear hKm;go_enter func22,ntmps22
 go_wp2_with fail;generalize (((w.alloc (.cells #[v0,v1,v2,v3,v4,v5,v6,v7] 29)).alloc (.cells #[.slice xa xn xc] 41)).alloc (cB fa fn fc ga gn gc pa pn pc rep en ra rn rc tr us))=W0 at *
 go_cut [7,8,9] from 12 to 20 (fun a b c W=>∃P7 P8 P9,a=pt P7/\b=pt P8/\c=pt P9/\W.heap[P7]? =some (aR b7)/\W.heap[P8]? =some (aR b8)/\W.heap[P9]? =some (aR b9)/\Hid (Below W0.heap.size W0 W))
 case first =>
  have HBD:=hid (show Below W0.heap.size W0 W0.drew from below_drewN W0 1);have hG':w.heap.size+1+1<W0.drew.heap.size:=hG;refine wp_region_held_drew (S:=fun W=>W.cell? ⟨w.heap.size+1+1,4,none⟩=some (.int .i8 en)) ar g4 (fun hHeld=>?_)
  generalize W0.drew=V0 at *;have hV0:=HBD.out.size;refine cZ (i:=0) rfl ?_;(try simp only[Act.put,sIB]);refine cZ (i:=1) rfl ?_;(try simp only[Act.put]);refine cZ (i:=2) rfl ?_;(try simp only[Act.put]);refine cZ (i:=3) rfl ?_;(try simp only[Act.put]);refine cZ (i:=4) rfl ?_;(try simp only[Act.put]);refine cZ (i:=5) rfl ?_;(try simp only[Act.put]);refine cZ (i:=6) rfl ?_;(try simp only[Act.put]);refine cZ (i:=7) rfl ?_;(try simp only[Act.put]);refine cZ (i:=8) rfl ?_;(try simp only[Act.put]);refine eF (rs:=[9,10,11]) ?_
  refine dJ (i:=9) rfl (fun K hK=>?_) (dJ (i:=10) rfl (fun K hK=>?_) (dJ (i:=11) rfl (fun K hK=>?_) rN))
  ·go_simp;have hn:=aj V0 (aR false);have k9:(V0.alloc (aR false)).heap[V0.heap.size]? =some (aR false):=eI V0 _;have hlt1:V0.heap.size<(V0.alloc (aR false)).heap.size:=aw;have hb1:=HBD.out.trans (hn.mono HBD.out.size);have s1:=ag hn hHeld
   refine hK.out _ _ s1 (fun _=>?_)
   clear hK K hn;(try simp only[Act.put,sIB,sC0,sCs]);generalize V0.alloc (aR false)=V19 at *;refine eF (rs:=[10,11]) ?_
   refine dJ (i:=10) rfl (fun K hK=>?_) (dJ (i:=11) rfl (fun K hK=>?_) rN)
   ·go_simp;have hn:=aj V19 (aR false);have k10:(V19.alloc (aR false)).heap[V19.heap.size]? =some (aR false):=eI V19 _;have hlt2:V19.heap.size<(V19.alloc (aR false)).heap.size:=aw
    replace k9:=bz hn k9;have hb2:=hb1.trans (hn.mono hb1.size);have s2:=ag hn s1;refine hK.out _ _ s2 (fun _=>?_)
    clear hK K hn;(try simp only[Act.put,sIB,sC0,sCs]);generalize V19.alloc (aR false)=V210 at *;refine eF (rs:=[11]) ?_
    refine dJ (i:=11) rfl (fun K hK=>?_) rN;go_simp;have hn:=aj V210 (aR false);have k11:(V210.alloc (aR false)).heap[V210.heap.size]? =some (aR false):=eI V210 _;have hlt3:V210.heap.size<(V210.alloc (aR false)).heap.size:=aw;replace k9:=bz hn k9;replace k10:=bz hn k10;have hb3:=hb2.trans (hn.mono hb2.size);have s3:=ag hn s2;refine hK.out _ _ s3 (fun _=>?_)
    clear hK K hn;(try simp only[Act.put,sIB,sC0,sCs]);generalize V210.alloc (aR false)=V311 at *;have l01:V0.heap.size<V19.heap.size:=hlt1;have l12:V19.heap.size<V210.heap.size:=hlt2;have c9:=iz0 k9;have z9:=free_at (i:=0) k9;refine eF (rs:=[12]) ?_
    refine dJ (i:=12) rfl (fun K hK=>?_) rN;go_simp;have kk9:(V311.setCell ⟨V0.heap.size,0,none⟩ (.bool b7)).heap[V0.heap.size]? =some (aR b7):=aM (i:=0) (u:=.bool b7) k9;have kk10:=bY (G:=V0.heap.size) (j:=0) (u:=.bool b7) k10 ae;have kk11:=bY (G:=V0.heap.size) (j:=0) (u:=.bool b7) k11 ae
    have sb:(V311.setCell ⟨V0.heap.size,0,none⟩ (.bool b7)).cell? ⟨w.heap.size+1+1,4,none⟩=some (.int .i8 en):=by
     exact dS
    have bb9:=hb3.trans ((ax V311 V0.heap.size 0 (.bool b7)).to_below hb3.size (fun k hk e=>rL));refine hK.out _ _ sb (fun _=>?_);clear hK K c9 z9 k9 k10 k11;have k9:=kk9;have k10:=kk10;have k11:=kk11;clear kk9 kk10 kk11;generalize V311.setCell ⟨V0.heap.size,0,none⟩ (.bool b7)=X9 at *;have c10:=iz0 k10;have z10:=free_at (i:=0) k10;refine eF (rs:=[13]) ?_;refine dJ (i:=13) rfl (fun K hK=>?_) rN;go_simp;have kk10:(X9.setCell ⟨V19.heap.size,0,none⟩ (.bool b8)).heap[V19.heap.size]? =some (aR b8):=aM (i:=0) (u:=.bool b8) k10;have kk9:=bY (G:=V19.heap.size) (j:=0) (u:=.bool b8) k9 ae;have kk11:=bY (G:=V19.heap.size) (j:=0) (u:=.bool b8) k11 ae
    have sb:(X9.setCell ⟨V19.heap.size,0,none⟩ (.bool b8)).cell? ⟨w.heap.size+1+1,4,none⟩=some (.int .i8 en):=by
     exact dS
    have bb10:=bb9.trans ((ax X9 V19.heap.size 0 (.bool b8)).to_below bb9.size (fun k hk e=>by have e:k=V19.heap.size:=e; omega));refine hK.out _ _ sb (fun _=>?_);clear hK K c10 z10 k9 k10 k11;have k9:=kk9;have k10:=kk10;have k11:=kk11;clear kk9 kk10 kk11;generalize X9.setCell ⟨V19.heap.size,0,none⟩ (.bool b8)=X10 at *;have c11:=iz0 k11;have z11:=free_at (i:=0) k11;refine eF (rs:=[14]) ?_;refine dJ (i:=14) rfl (fun K hK=>?_) rN;go_simp;have kk11:(X10.setCell ⟨V210.heap.size,0,none⟩ (.bool b9)).heap[V210.heap.size]? =some (aR b9):=aM (i:=0) (u:=.bool b9) k11;have kk9:=bY (G:=V210.heap.size) (j:=0) (u:=.bool b9) k9 ae;have kk10:=bY (G:=V210.heap.size) (j:=0) (u:=.bool b9) k10 ae
    have sb:(X10.setCell ⟨V210.heap.size,0,none⟩ (.bool b9)).cell? ⟨w.heap.size+1+1,4,none⟩=some (.int .i8 en):=by
     exact dS
    have bb11:=bb10.trans ((ax X10 V210.heap.size 0 (.bool b9)).to_below bb10.size (fun k hk e=>by have e:k=V210.heap.size:=e; omega));refine hK.out _ _ sb (fun _=>?_);clear hK K c11 z11 k9 k10 k11;have k9:=kk9;have k10:=kk10;have k11:=kk11;clear kk9 kk10 kk11;generalize X10.setCell ⟨V210.heap.size,0,none⟩ (.bool b9)=X11 at *;exact qR
   go_simp;have hn:=aj V19 (aR false);have k11:(V19.alloc (aR false)).heap[V19.heap.size]? =some (aR false):=eI V19 _;have hlt2:V19.heap.size<(V19.alloc (aR false)).heap.size:=aw;replace k9:=bz hn k9;have hb2:=hb1.trans (hn.mono hb1.size);have s2:=ag hn s1;refine hK.out _ _ s2 (fun _=>?_)
   clear hK K hn;(try simp only[Act.put,sIB,sC0,sCs]);generalize V19.alloc (aR false)=V211 at *;refine eF (rs:=[10]) ?_
   refine dJ (i:=10) rfl (fun K hK=>?_) rN;go_simp;have hn:=aj V211 (aR false);have k10:(V211.alloc (aR false)).heap[V211.heap.size]? =some (aR false):=eI V211 _;have hlt3:V211.heap.size<(V211.alloc (aR false)).heap.size:=aw;replace k9:=bz hn k9;replace k11:=bz hn k11;have hb3:=hb2.trans (hn.mono hb2.size);have s3:=ag hn s2;refine hK.out _ _ s3 (fun _=>?_)
   clear hK K hn;(try simp only[Act.put,sIB,sC0,sCs]);generalize V211.alloc (aR false)=V310 at *;have l01:V0.heap.size<V19.heap.size:=hlt1;have l12:V19.heap.size<V211.heap.size:=hlt2;have c9:=iz0 k9;have z9:=free_at (i:=0) k9;refine eF (rs:=[12]) ?_
   refine dJ (i:=12) rfl (fun K hK=>?_) rN;go_simp;have kk9:(V310.setCell ⟨V0.heap.size,0,none⟩ (.bool b7)).heap[V0.heap.size]? =some (aR b7):=aM (i:=0) (u:=.bool b7) k9;have kk10:=bY (G:=V0.heap.size) (j:=0) (u:=.bool b7) k10 ae;have kk11:=bY (G:=V0.heap.size) (j:=0) (u:=.bool b7) k11 ae
   have sb:(V310.setCell ⟨V0.heap.size,0,none⟩ (.bool b7)).cell? ⟨w.heap.size+1+1,4,none⟩=some (.int .i8 en):=by
    exact dS
   have bb9:=hb3.trans ((ax V310 V0.heap.size 0 (.bool b7)).to_below hb3.size (fun k hk e=>rL));refine hK.out _ _ sb (fun _=>?_);clear hK K c9 z9 k9 k10 k11;have k9:=kk9;have k10:=kk10;have k11:=kk11;clear kk9 kk10 kk11;generalize V310.setCell ⟨V0.heap.size,0,none⟩ (.bool b7)=X9 at *;have c10:=iz0 k10;have z10:=free_at (i:=0) k10;refine eF (rs:=[13]) ?_;refine dJ (i:=13) rfl (fun K hK=>?_) rN;go_simp;have kk10:(X9.setCell ⟨V211.heap.size,0,none⟩ (.bool b8)).heap[V211.heap.size]? =some (aR b8):=aM (i:=0) (u:=.bool b8) k10;have kk9:=bY (G:=V211.heap.size) (j:=0) (u:=.bool b8) k9 ae;have kk11:=bY (G:=V211.heap.size) (j:=0) (u:=.bool b8) k11 ae
   have sb:(X9.setCell ⟨V211.heap.size,0,none⟩ (.bool b8)).cell? ⟨w.heap.size+1+1,4,none⟩=some (.int .i8 en):=by
    exact dS
   have bb10:=bb9.trans ((ax X9 V211.heap.size 0 (.bool b8)).to_below bb9.size (fun k hk e=>by have e:k=V211.heap.size:=e; omega));refine hK.out _ _ sb (fun _=>?_);clear hK K c10 z10 k9 k10 k11;have k9:=kk9;have k10:=kk10;have k11:=kk11;clear kk9 kk10 kk11;generalize X9.setCell ⟨V211.heap.size,0,none⟩ (.bool b8)=X10 at *;have c11:=iz0 k11;have z11:=free_at (i:=0) k11;refine eF (rs:=[14]) ?_;refine dJ (i:=14) rfl (fun K hK=>?_) rN;go_simp;have kk11:(X10.setCell ⟨V19.heap.size,0,none⟩ (.bool b9)).heap[V19.heap.size]? =some (aR b9):=aM (i:=0) (u:=.bool b9) k11;have kk9:=bY (G:=V19.heap.size) (j:=0) (u:=.bool b9) k9 ae;have kk10:=bY (G:=V19.heap.size) (j:=0) (u:=.bool b9) k10 ae
   have sb:(X10.setCell ⟨V19.heap.size,0,none⟩ (.bool b9)).cell? ⟨w.heap.size+1+1,4,none⟩=some (.int .i8 en):=by
    exact dS
   have bb11:=bb10.trans ((ax X10 V19.heap.size 0 (.bool b9)).to_below bb10.size (fun k hk e=>by have e:k=V19.heap.size:=e; omega));refine hK.out _ _ sb (fun _=>?_);clear hK K c11 z11 k9 k10 k11;have k9:=kk9;have k10:=kk10;have k11:=kk11;clear kk9 kk10 kk11;generalize X10.setCell ⟨V19.heap.size,0,none⟩ (.bool b9)=X11 at *;exact qR
  ·go_simp;have hn:=aj V0 (aR false);have k10:(V0.alloc (aR false)).heap[V0.heap.size]? =some (aR false):=eI V0 _;have hlt1:V0.heap.size<(V0.alloc (aR false)).heap.size:=aw;have hb1:=HBD.out.trans (hn.mono HBD.out.size);have s1:=ag hn hHeld
   refine hK.out _ _ s1 (fun _=>?_)
   clear hK K hn;(try simp only[Act.put,sIB,sC0,sCs]);generalize V0.alloc (aR false)=V110 at *;refine eF (rs:=[9,11]) ?_
   refine dJ (i:=9) rfl (fun K hK=>?_) (dJ (i:=11) rfl (fun K hK=>?_) rN)
   ·go_simp;have hn:=aj V110 (aR false);have k9:(V110.alloc (aR false)).heap[V110.heap.size]? =some (aR false):=eI V110 _;have hlt2:V110.heap.size<(V110.alloc (aR false)).heap.size:=aw
    replace k10:=bz hn k10;have hb2:=hb1.trans (hn.mono hb1.size);have s2:=ag hn s1;refine hK.out _ _ s2 (fun _=>?_)
    clear hK K hn;(try simp only[Act.put,sIB,sC0,sCs]);generalize V110.alloc (aR false)=V29 at *;refine eF (rs:=[11]) ?_
    refine dJ (i:=11) rfl (fun K hK=>?_) rN;go_simp;have hn:=aj V29 (aR false);have k11:(V29.alloc (aR false)).heap[V29.heap.size]? =some (aR false):=eI V29 _;have hlt3:V29.heap.size<(V29.alloc (aR false)).heap.size:=aw;replace k10:=bz hn k10;replace k9:=bz hn k9;have hb3:=hb2.trans (hn.mono hb2.size);have s3:=ag hn s2;refine hK.out _ _ s3 (fun _=>?_)
    clear hK K hn;(try simp only[Act.put,sIB,sC0,sCs]);generalize V29.alloc (aR false)=V311 at *;have l01:V0.heap.size<V110.heap.size:=hlt1;have l12:V110.heap.size<V29.heap.size:=hlt2;have c9:=iz0 k9;have z9:=free_at (i:=0) k9;refine eF (rs:=[12]) ?_
    refine dJ (i:=12) rfl (fun K hK=>?_) rN;go_simp;have kk9:(V311.setCell ⟨V110.heap.size,0,none⟩ (.bool b7)).heap[V110.heap.size]? =some (aR b7):=aM (i:=0) (u:=.bool b7) k9;have kk10:=bY (G:=V110.heap.size) (j:=0) (u:=.bool b7) k10 ae;have kk11:=bY (G:=V110.heap.size) (j:=0) (u:=.bool b7) k11 ae
    have sb:(V311.setCell ⟨V110.heap.size,0,none⟩ (.bool b7)).cell? ⟨w.heap.size+1+1,4,none⟩=some (.int .i8 en):=by
     exact dS
    have bb9:=hb3.trans ((ax V311 V110.heap.size 0 (.bool b7)).to_below hb3.size (fun k hk e=>by have e:k=V110.heap.size:=e; omega));refine hK.out _ _ sb (fun _=>?_);clear hK K c9 z9 k9 k10 k11;have k9:=kk9;have k10:=kk10;have k11:=kk11;clear kk9 kk10 kk11;generalize V311.setCell ⟨V110.heap.size,0,none⟩ (.bool b7)=X9 at *;have c10:=iz0 k10;have z10:=free_at (i:=0) k10;refine eF (rs:=[13]) ?_;refine dJ (i:=13) rfl (fun K hK=>?_) rN;go_simp;have kk10:(X9.setCell ⟨V0.heap.size,0,none⟩ (.bool b8)).heap[V0.heap.size]? =some (aR b8):=aM (i:=0) (u:=.bool b8) k10;have kk9:=bY (G:=V0.heap.size) (j:=0) (u:=.bool b8) k9 ae;have kk11:=bY (G:=V0.heap.size) (j:=0) (u:=.bool b8) k11 ae
    have sb:(X9.setCell ⟨V0.heap.size,0,none⟩ (.bool b8)).cell? ⟨w.heap.size+1+1,4,none⟩=some (.int .i8 en):=by
     exact dS
    have bb10:=bb9.trans ((ax X9 V0.heap.size 0 (.bool b8)).to_below bb9.size (fun k hk e=>rL));refine hK.out _ _ sb (fun _=>?_);clear hK K c10 z10 k9 k10 k11;have k9:=kk9;have k10:=kk10;have k11:=kk11;clear kk9 kk10 kk11;generalize X9.setCell ⟨V0.heap.size,0,none⟩ (.bool b8)=X10 at *;have c11:=iz0 k11;have z11:=free_at (i:=0) k11;refine eF (rs:=[14]) ?_;refine dJ (i:=14) rfl (fun K hK=>?_) rN;go_simp;have kk11:(X10.setCell ⟨V29.heap.size,0,none⟩ (.bool b9)).heap[V29.heap.size]? =some (aR b9):=aM (i:=0) (u:=.bool b9) k11;have kk9:=bY (G:=V29.heap.size) (j:=0) (u:=.bool b9) k9 ae;have kk10:=bY (G:=V29.heap.size) (j:=0) (u:=.bool b9) k10 ae
    have sb:(X10.setCell ⟨V29.heap.size,0,none⟩ (.bool b9)).cell? ⟨w.heap.size+1+1,4,none⟩=some (.int .i8 en):=by
     exact dS
    have bb11:=bb10.trans ((ax X10 V29.heap.size 0 (.bool b9)).to_below bb10.size (fun k hk e=>by have e:k=V29.heap.size:=e; omega));refine hK.out _ _ sb (fun _=>?_);clear hK K c11 z11 k9 k10 k11;have k9:=kk9;have k10:=kk10;have k11:=kk11;clear kk9 kk10 kk11;generalize X10.setCell ⟨V29.heap.size,0,none⟩ (.bool b9)=X11 at *;exact qR
   go_simp;have hn:=aj V110 (aR false);have k11:(V110.alloc (aR false)).heap[V110.heap.size]? =some (aR false):=eI V110 _;have hlt2:V110.heap.size<(V110.alloc (aR false)).heap.size:=aw;replace k10:=bz hn k10;have hb2:=hb1.trans (hn.mono hb1.size);have s2:=ag hn s1;refine hK.out _ _ s2 (fun _=>?_)
   clear hK K hn;(try simp only[Act.put,sIB,sC0,sCs]);generalize V110.alloc (aR false)=V211 at *;refine eF (rs:=[9]) ?_
   refine dJ (i:=9) rfl (fun K hK=>?_) rN;go_simp;have hn:=aj V211 (aR false);have k9:(V211.alloc (aR false)).heap[V211.heap.size]? =some (aR false):=eI V211 _;have hlt3:V211.heap.size<(V211.alloc (aR false)).heap.size:=aw;replace k10:=bz hn k10;replace k11:=bz hn k11;have hb3:=hb2.trans (hn.mono hb2.size);have s3:=ag hn s2;refine hK.out _ _ s3 (fun _=>?_)
   clear hK K hn;(try simp only[Act.put,sIB,sC0,sCs]);generalize V211.alloc (aR false)=V39 at *;have l01:V0.heap.size<V110.heap.size:=hlt1;have l12:V110.heap.size<V211.heap.size:=hlt2;have c9:=iz0 k9;have z9:=free_at (i:=0) k9;refine eF (rs:=[12]) ?_
   refine dJ (i:=12) rfl (fun K hK=>?_) rN;go_simp;have kk9:(V39.setCell ⟨V211.heap.size,0,none⟩ (.bool b7)).heap[V211.heap.size]? =some (aR b7):=aM (i:=0) (u:=.bool b7) k9;have kk10:=bY (G:=V211.heap.size) (j:=0) (u:=.bool b7) k10 ae;have kk11:=bY (G:=V211.heap.size) (j:=0) (u:=.bool b7) k11 ae
   have sb:(V39.setCell ⟨V211.heap.size,0,none⟩ (.bool b7)).cell? ⟨w.heap.size+1+1,4,none⟩=some (.int .i8 en):=by
    exact dS
   have bb9:=hb3.trans ((ax V39 V211.heap.size 0 (.bool b7)).to_below hb3.size (fun k hk e=>by have e:k=V211.heap.size:=e; omega));refine hK.out _ _ sb (fun _=>?_);clear hK K c9 z9 k9 k10 k11;have k9:=kk9;have k10:=kk10;have k11:=kk11;clear kk9 kk10 kk11;generalize V39.setCell ⟨V211.heap.size,0,none⟩ (.bool b7)=X9 at *;have c10:=iz0 k10;have z10:=free_at (i:=0) k10;refine eF (rs:=[13]) ?_;refine dJ (i:=13) rfl (fun K hK=>?_) rN;go_simp;have kk10:(X9.setCell ⟨V0.heap.size,0,none⟩ (.bool b8)).heap[V0.heap.size]? =some (aR b8):=aM (i:=0) (u:=.bool b8) k10;have kk9:=bY (G:=V0.heap.size) (j:=0) (u:=.bool b8) k9 ae;have kk11:=bY (G:=V0.heap.size) (j:=0) (u:=.bool b8) k11 ae
   have sb:(X9.setCell ⟨V0.heap.size,0,none⟩ (.bool b8)).cell? ⟨w.heap.size+1+1,4,none⟩=some (.int .i8 en):=by
    exact dS
   have bb10:=bb9.trans ((ax X9 V0.heap.size 0 (.bool b8)).to_below bb9.size (fun k hk e=>rL));refine hK.out _ _ sb (fun _=>?_);clear hK K c10 z10 k9 k10 k11;have k9:=kk9;have k10:=kk10;have k11:=kk11;clear kk9 kk10 kk11;generalize X9.setCell ⟨V0.heap.size,0,none⟩ (.bool b8)=X10 at *;have c11:=iz0 k11;have z11:=free_at (i:=0) k11;refine eF (rs:=[14]) ?_;refine dJ (i:=14) rfl (fun K hK=>?_) rN;go_simp;have kk11:(X10.setCell ⟨V110.heap.size,0,none⟩ (.bool b9)).heap[V110.heap.size]? =some (aR b9):=aM (i:=0) (u:=.bool b9) k11;have kk9:=bY (G:=V110.heap.size) (j:=0) (u:=.bool b9) k9 ae;have kk10:=bY (G:=V110.heap.size) (j:=0) (u:=.bool b9) k10 ae
   have sb:(X10.setCell ⟨V110.heap.size,0,none⟩ (.bool b9)).cell? ⟨w.heap.size+1+1,4,none⟩=some (.int .i8 en):=by
    exact dS
   have bb11:=bb10.trans ((ax X10 V110.heap.size 0 (.bool b9)).to_below bb10.size (fun k hk e=>by have e:k=V110.heap.size:=e; omega));refine hK.out _ _ sb (fun _=>?_);clear hK K c11 z11 k9 k10 k11;have k9:=kk9;have k10:=kk10;have k11:=kk11;clear kk9 kk10 kk11;generalize X10.setCell ⟨V110.heap.size,0,none⟩ (.bool b9)=X11 at *;exact qR
  go_simp;have hn:=aj V0 (aR false);have k11:(V0.alloc (aR false)).heap[V0.heap.size]? =some (aR false):=eI V0 _;have hlt1:V0.heap.size<(V0.alloc (aR false)).heap.size:=aw;have hb1:=HBD.out.trans (hn.mono HBD.out.size);have s1:=ag hn hHeld;refine hK.out _ _ s1 (fun _=>?_)
  clear hK K hn;(try simp only[Act.put,sIB,sC0,sCs]);generalize V0.alloc (aR false)=V111 at *;refine eF (rs:=[9,10]) ?_
  refine dJ (i:=9) rfl (fun K hK=>?_) (dJ (i:=10) rfl (fun K hK=>?_) rN)
  ·go_simp;have hn:=aj V111 (aR false);have k9:(V111.alloc (aR false)).heap[V111.heap.size]? =some (aR false):=eI V111 _;have hlt2:V111.heap.size<(V111.alloc (aR false)).heap.size:=aw
   replace k11:=bz hn k11;have hb2:=hb1.trans (hn.mono hb1.size);have s2:=ag hn s1;refine hK.out _ _ s2 (fun _=>?_)
   clear hK K hn;(try simp only[Act.put,sIB,sC0,sCs]);generalize V111.alloc (aR false)=V29 at *;refine eF (rs:=[10]) ?_
   refine dJ (i:=10) rfl (fun K hK=>?_) rN;go_simp;have hn:=aj V29 (aR false);have k10:(V29.alloc (aR false)).heap[V29.heap.size]? =some (aR false):=eI V29 _;have hlt3:V29.heap.size<(V29.alloc (aR false)).heap.size:=aw;replace k11:=bz hn k11;replace k9:=bz hn k9;have hb3:=hb2.trans (hn.mono hb2.size);have s3:=ag hn s2;refine hK.out _ _ s3 (fun _=>?_)
   clear hK K hn;(try simp only[Act.put,sIB,sC0,sCs]);generalize V29.alloc (aR false)=V310 at *;have l01:V0.heap.size<V111.heap.size:=hlt1;have l12:V111.heap.size<V29.heap.size:=hlt2;have c9:=iz0 k9;have z9:=free_at (i:=0) k9;refine eF (rs:=[12]) ?_
   refine dJ (i:=12) rfl (fun K hK=>?_) rN;go_simp;have kk9:(V310.setCell ⟨V111.heap.size,0,none⟩ (.bool b7)).heap[V111.heap.size]? =some (aR b7):=aM (i:=0) (u:=.bool b7) k9;have kk10:=bY (G:=V111.heap.size) (j:=0) (u:=.bool b7) k10 ae;have kk11:=bY (G:=V111.heap.size) (j:=0) (u:=.bool b7) k11 ae
   have sb:(V310.setCell ⟨V111.heap.size,0,none⟩ (.bool b7)).cell? ⟨w.heap.size+1+1,4,none⟩=some (.int .i8 en):=by
    exact dS
   have bb9:=hb3.trans ((ax V310 V111.heap.size 0 (.bool b7)).to_below hb3.size (fun k hk e=>by have e:k=V111.heap.size:=e; omega));refine hK.out _ _ sb (fun _=>?_);clear hK K c9 z9 k9 k10 k11;have k9:=kk9;have k10:=kk10;have k11:=kk11;clear kk9 kk10 kk11;generalize V310.setCell ⟨V111.heap.size,0,none⟩ (.bool b7)=X9 at *;have c10:=iz0 k10;have z10:=free_at (i:=0) k10;refine eF (rs:=[13]) ?_;refine dJ (i:=13) rfl (fun K hK=>?_) rN;go_simp;have kk10:(X9.setCell ⟨V29.heap.size,0,none⟩ (.bool b8)).heap[V29.heap.size]? =some (aR b8):=aM (i:=0) (u:=.bool b8) k10;have kk9:=bY (G:=V29.heap.size) (j:=0) (u:=.bool b8) k9 ae;have kk11:=bY (G:=V29.heap.size) (j:=0) (u:=.bool b8) k11 ae
   have sb:(X9.setCell ⟨V29.heap.size,0,none⟩ (.bool b8)).cell? ⟨w.heap.size+1+1,4,none⟩=some (.int .i8 en):=by
    exact dS
   have bb10:=bb9.trans ((ax X9 V29.heap.size 0 (.bool b8)).to_below bb9.size (fun k hk e=>by have e:k=V29.heap.size:=e; omega));refine hK.out _ _ sb (fun _=>?_);clear hK K c10 z10 k9 k10 k11;have k9:=kk9;have k10:=kk10;have k11:=kk11;clear kk9 kk10 kk11;generalize X9.setCell ⟨V29.heap.size,0,none⟩ (.bool b8)=X10 at *;exact M5
  go_simp;have hn:=aj V111 (aR false);have k10:(V111.alloc (aR false)).heap[V111.heap.size]? =some (aR false):=eI V111 _;have hlt2:V111.heap.size<(V111.alloc (aR false)).heap.size:=aw;replace k11:=bz hn k11;have hb2:=hb1.trans (hn.mono hb1.size);have s2:=ag hn s1;refine hK.out _ _ s2 (fun _=>?_)
  clear hK K hn;(try simp only[Act.put,sIB,sC0,sCs]);generalize V111.alloc (aR false)=V210 at *;refine eF (rs:=[9]) ?_
  refine dJ (i:=9) rfl (fun K hK=>?_) rN;go_simp;have hn:=aj V210 (aR false);have k9:(V210.alloc (aR false)).heap[V210.heap.size]? =some (aR false):=eI V210 _;have hlt3:V210.heap.size<(V210.alloc (aR false)).heap.size:=aw;replace k11:=bz hn k11;replace k10:=bz hn k10;have hb3:=hb2.trans (hn.mono hb2.size);have s3:=ag hn s2;refine hK.out _ _ s3 (fun _=>?_)
  clear hK K hn;(try simp only[Act.put,sIB,sC0,sCs]);generalize V210.alloc (aR false)=V39 at *;have l01:V0.heap.size<V111.heap.size:=hlt1;have l12:V111.heap.size<V210.heap.size:=hlt2;have c9:=iz0 k9;have z9:=free_at (i:=0) k9;refine eF (rs:=[12]) ?_
  refine dJ (i:=12) rfl (fun K hK=>?_) rN;go_simp;have kk9:(V39.setCell ⟨V210.heap.size,0,none⟩ (.bool b7)).heap[V210.heap.size]? =some (aR b7):=aM (i:=0) (u:=.bool b7) k9;have kk10:=bY (G:=V210.heap.size) (j:=0) (u:=.bool b7) k10 ae;have kk11:=bY (G:=V210.heap.size) (j:=0) (u:=.bool b7) k11 ae
  have sb:(V39.setCell ⟨V210.heap.size,0,none⟩ (.bool b7)).cell? ⟨w.heap.size+1+1,4,none⟩=some (.int .i8 en):=by
   exact dS
  have bb9:=hb3.trans ((ax V39 V210.heap.size 0 (.bool b7)).to_below hb3.size (fun k hk e=>by have e:k=V210.heap.size:=e; omega));refine hK.out _ _ sb (fun _=>?_);clear hK K c9 z9 k9 k10 k11;have k9:=kk9;have k10:=kk10;have k11:=kk11;clear kk9 kk10 kk11;generalize V39.setCell ⟨V210.heap.size,0,none⟩ (.bool b7)=X9 at *;have c10:=iz0 k10;have z10:=free_at (i:=0) k10;refine eF (rs:=[13]) ?_;refine dJ (i:=13) rfl (fun K hK=>?_) rN;go_simp;have kk10:(X9.setCell ⟨V111.heap.size,0,none⟩ (.bool b8)).heap[V111.heap.size]? =some (aR b8):=aM (i:=0) (u:=.bool b8) k10;have kk9:=bY (G:=V111.heap.size) (j:=0) (u:=.bool b8) k9 ae;have kk11:=bY (G:=V111.heap.size) (j:=0) (u:=.bool b8) k11 ae
  have sb:(X9.setCell ⟨V111.heap.size,0,none⟩ (.bool b8)).cell? ⟨w.heap.size+1+1,4,none⟩=some (.int .i8 en):=by
   exact dS
  have bb10:=bb9.trans ((ax X9 V111.heap.size 0 (.bool b8)).to_below bb9.size (fun k hk e=>by have e:k=V111.heap.size:=e; omega));refine hK.out _ _ sb (fun _=>?_);clear hK K c10 z10 k9 k10 k11;have k9:=kk9;have k10:=kk10;have k11:=kk11;clear kk9 kk10 kk11;generalize X9.setCell ⟨V111.heap.size,0,none⟩ (.bool b8)=X10 at *;exact M5
 case rest =>
  obtain⟨P7,P8,P9,rfl,rfl,rfl,h7,h8,h9,HB1⟩:=hcut;have HA:=hid (show AK wc #[v0,v1,v2,v3,v4,v5,v6,v7] #[.slice fa fn fc,.slice ga gn gc,.slice pa pn pc,.int .i64 rep,.int .i8 en,.slice ra rn rc,.int .i8 tr,.int .i64 us] (.slice xa xn xc) w.heap.size (w.heap.size+1) (w.heap.size+1+1) P7 P8 P9 b7 b8 b9 from⟨bz HB1.out HK.out.1,bz HB1.out HK.out.2.1,bz HB1.out HK.out.2.2,h7,h8,h9⟩);have HBc:=hid (HB0.out.trans (HB1.out.mono HB0.out.size));clear h7 h8 h9 HB1 HK HB0 g4 hG e7 e8 e9;generalize wc=W1 at *;clear W0;obtain⟨LO,hLO⟩:∃o,o=Obj.cells #[fnv 36 #[pt P7,pt P8,pt P9],fnv 37 #[pt P7,pt (w.heap.size+1+1)],fnv 38 #[pt (w.heap.size+1+1),pt P8],fnv 39 #[pt P9,pt (w.heap.size+1+1)],fnv 41 #[pt (w.heap.size+1+1)],fnv 42 #[pt (w.heap.size+1+1)],fnv 43 #[pt w.heap.size,pt (w.heap.size+1+1)],fnv 45 #[pt (w.heap.size+1+1),pt w.heap.size]] 31:=⟨_,rfl⟩;have BL:=aj W1 LO;have kl:=eI W1 LO;have HA2:=hid (HA.out.later BL);have HB2:=hid (HBc.out.trans (BL.mono HBc.out.size));have q0:=iz0 HA2.out.s;have hW1:=HBc.out.size;have HROW:=hid (show(W1.alloc LO).ownsRow w.heap.size 31 1 (.slice (some ⟨W1.heap.size,0,none⟩) (8+0) 8) (8+0) (pR w.heap.size (w.heap.size+1) (w.heap.size+1+1) P7 P8 P9 (fun _=>0) 0) from⟨rfl,.inr ⟨W1.heap.size,8,_,rfl,hW1,by rw[kl,hLO],Nat.le_refl _,dA,rfl,rfl⟩⟩);clear BL kl HA HBc;subst hLO;have hmi:=HKm.out;have HQ:=hid hi;go_wp2_with fail;generalize W1.alloc (.cells #[fnv 36 #[pt P7,pt P8,pt P9],fnv 37 #[pt P7,pt (w.heap.size+1+1)],fnv 38 #[pt (w.heap.size+1+1),pt P8],fnv 39 #[pt P9,pt (w.heap.size+1+1)],fnv 41 #[pt (w.heap.size+1+1)],fnv 42 #[pt (w.heap.size+1+1)],fnv 43 #[pt w.heap.size,pt (w.heap.size+1+1)],fnv 45 #[pt (w.heap.size+1+1),pt w.heap.size]] 31)=W2 at *;clear q0 hmi
  go_loopw [10,34] (fun l i wr=>∃(k LB cap:Nat)(KX:Nat->Nat),k<=K/\i=.int .i64 k/\l=.slice (some ⟨LB,0,none⟩) (8+k) cap/\Hid (AK wr #[v0,v1,v2,v3,v4,v5,v6,v7] #[.slice fa fn fc,.slice ga gn gc,.slice pa pn pc,.int .i64 rep,.int .i8 en,.slice ra rn rc,.int .i8 tr,.int .i64 us] (.slice xa xn xc) w.heap.size (w.heap.size+1) (w.heap.size+1+1) P7 P8 P9 b7 b8 b9/\(∀i,i<k->wr.cell? ⟨KX i,0,none⟩=some (.int .i64 i))/\wr.ownsRow w.heap.size 31 1 (.slice (some ⟨LB,0,none⟩) (8+k) cap) (8+k) (pR w.heap.size (w.heap.size+1) (w.heap.size+1+1) P7 P8 P9 KX k)/\Below w.heap.size w wr)) (fun _ i _=>K-(intOf i).toNat)
  case atStart=>exact⟨0,W1.heap.size,8,fun _=>0,Nat.zero_le _,rfl,rfl,hid ⟨HA2.out,fun i h=>absurd h (Nat.not_lt_zero _),HROW.out,HB2.out⟩⟩
  case round =>
   obtain⟨k,LB,cap,KX,hk,rfl,rfl,HR⟩:=hrel
   by_cases hlt:k<K
   ·have hlt':(k:Int)<(K:Int):=ae;have BK:=aj wr (bM k);have BF:=aj (wr.alloc (bM k)) (.cells #[fnv 47 #[pt w.heap.size,pt (w.heap.size+1),pt (w.heap.size+1+1),pt wr.heap.size]] 31);have kk:=bz BF (eI wr (bM k));have kf:((wr.alloc (bM k)).alloc (.cells #[fnv 47 #[pt w.heap.size,pt (w.heap.size+1),pt (w.heap.size+1+1),pt wr.heap.size]] 31)).heap[wr.heap.size+1]? =some (.cells #[fnv 47 #[pt w.heap.size,pt (w.heap.size+1),pt (w.heap.size+1+1),pt wr.heap.size]] 31):=Fv aw;have B4:=BK.trans (BF.mono BK.size);have HA4:=hid (HR.out.1.later B4);have HB4:=hid (HR.out.2.2.2.trans (B4.mono HR.out.2.2.2.size));have HR4:=hid (O8 HR.out.2.2.1 B4)
    have HC4:=hid (fun i (h:i<k)=>ag B4 (HR.out.2.1 i h));have HKX:=hid kk
    have hnews:∀(j:Nat)(y:Value),([fnv 47 #[pt w.heap.size,pt (w.heap.size+1),pt (w.heap.size+1+1),pt wr.heap.size]]:List Value)[j]? =some y->((wr.alloc (bM k)).alloc (.cells #[fnv 47 #[pt w.heap.size,pt (w.heap.size+1),pt (w.heap.size+1+1),pt wr.heap.size]] 31)).cell? ((⟨wr.heap.size+1,0,none⟩:Addr).add j)=some y:=by
     intro j y hj;have hplain:(⟨wr.heap.size+1,0,none⟩:Addr).add j=⟨wr.heap.size+1,j,none⟩:=eJ;rw[hplain,ai kf]
     match j,hj with
     | 0,hj=>exact hj
     | j+1,hj=>simp at hj
    have hone:∀u∈([fnv 47 #[pt w.heap.size,pt (w.heap.size+1),pt (w.heap.size+1+1),pt wr.heap.size]]:List Value),u.oneCell'=true:=by
     intro u hu;obtain rfl:=List.mem_singleton.1 hu;rfl
    have HN:=hid (And.intro hnews hone);have hwr:=HR.out.2.2.2.size;have HW:=hid hwr;clear BK BF kk kf B4 hnews hone HR
    go_wp2_with (first
     | (at_builtin; refine wpList_append_own _ rfl (.tmp 37) (.tmp 39) 77 rfl w.heap.size 31 i0 _ 1 8 underlying77 hi hz0 hz1 hz2 rfl aA _ (8+k) _ rfl HR4.out ⟨wr.heap.size+1,0,none⟩ 1 1 [fnv 47 #[pt w.heap.size,pt (w.heap.size+1),pt (w.heap.size+1+1),pt wr.heap.size]] rfl rfl HN.out.1 HN.out.2 dA ae aK ?_; intro v' w2 hown hg _; have HO:=hid hown; have HKp:=hid (Kept.of_grown hg); clear hown hg))
    obtain⟨LB2,cap2,hv,_⟩:∃LB2 cap2,v'=.slice (some ⟨LB2,0,none⟩) (8+k+1) cap2/\True:=by
     rcases HO.out.2 with ⟨_,h1⟩ | ⟨g,cp,cur,h1,_⟩
     ·omega
     exact⟨_,_,h1,trivial⟩
    subst hv
    have hS:∀b,some b=(Value.slice (some ⟨LB,0,none⟩) (8+k) cap).ownBlock->∃cur,((wr.alloc (bM k)).alloc (.cells #[fnv 47 #[pt w.heap.size,pt (w.heap.size+1),pt (w.heap.size+1+1),pt wr.heap.size]] 31)).heap[b]? =some (.cells cur 31):=fun b hb=>by
     obtain⟨_,_,cur,hc⟩:=Lp HR4.out hb.symm;exact⟨cur,hc⟩
    have hlo:∀b,some b=(Value.slice (some ⟨LB,0,none⟩) (8+k) cap).ownBlock->w.heap.size<=b:=fun b hb=>(Lp HR4.out hb.symm).1;have HFA:=hid (HA4.out.kept HKp.out hS)
    have hcellK:∀(b:Nat)(z:Int),((wr.alloc (bM k)).alloc (.cells #[fnv 47 #[pt w.heap.size,pt (w.heap.size+1),pt (w.heap.size+1+1),pt wr.heap.size]] 31)).cell? ⟨b,0,none⟩=some (.int .i64 z)->w2.cell? ⟨b,0,none⟩=some (.int .i64 z):=fun b z hc=>HKp.out.cell hc (fun e=>by
     obtain⟨cur,h31⟩:=hS b e
     have h9:=CC HR4.out e.symm hc ae (fun u hu z=>by
      have:u=fnv 36 #[pt P7,pt P8,pt P9]:=by
       have h8:=hu;simp[pR,eight]at h8;exact h8.symm
      rw[this]; simp)
     exact h9)
    have HFC:=hid (fun i (h:i<k+1)=>by
     by_cases hik:i=k
     ·have:=hcellK wr.heap.size k (ai HKX.out)
      show w2.cell? ⟨(if i=k then wr.heap.size else KX i),0,none⟩=some (.int .i64 i);rw[if_pos hik,hik]; exact this
     show w2.cell? ⟨(if i=k then wr.heap.size else KX i),0,none⟩=some (.int .i64 i)
     rw[if_neg hik]; exact hcellK _ _ (HC4.out i ae))
    have HFB:=hid (HB4.out.trans (HKp.out.to_below HB4.out.size (fun b hb e=>by have:=hlo b e; omega)));have HOX:=hid (show w2.ownsRow w.heap.size 31 1 (.slice (some ⟨LB2,0,none⟩) (8+(k+1)) cap2) (8+(k+1)) (pR w.heap.size (w.heap.size+1) (w.heap.size+1+1) P7 P8 P9 (fun i=>if i=k then wr.heap.size else KX i) (k+1)) by rw[<- Jb]; exact HO.out);clear hS hlo hcellK HA4 HKX HKp HR4 HN HB4 HC4 HO;go_wp2_with fail;exact⟨⟨k+1,LB2,cap2,fun i=>if i=k then wr.heap.size else KX i,ae,bH,rfl,hid ⟨HFA.out,HFC.out,HOX.out,HFB.out⟩⟩,bI⟩
   have hlt':¬(k:Int)<(K:Int):=ae;have hkK:k=K:=ae;subst hkK;go_wp2_with fail;go_ret;exact⟨w.heap.size,w.heap.size+1,w.heap.size+1+1,P7,P8,P9,KX,LB,cap,rfl,HR.out⟩
structure Clo(ab:Bool)(W0:World)(v:Value):Prop where
 ex:∃f cs,v=fnv f cs/\(∀(args:AVz)(w:World),(callFunc f args).run prog w=.ok (.enter f args) w)/\∀W,Below W0.heap.size W0 W->Calls prog f cs W fun e w'=>e=.returned (.bool ab)/\Below W.heap.size W w'
variable {P:Program}{args:AVz}
theorem fY{f:FuncId}(h:Calls P f args w fun e w'=>e=.returned v/\w'=w):Calls P f args w fun e w'=>e=.returned v/\Below w.heap.size w w' :=
 h.mono fun e w' ⟨h1,h2⟩=>⟨h1,by rw[h2]; exact Below.refl _ _⟩
theorem c43(MB S:Nat)(mv:AVz)(ga sa:OAz)(gn gc sn sc:Nat)(xs:List Gl)(vs:LIz)(w:World)(h2:w.cell? ⟨MB,2,none⟩=some (.slice ga gn gc))(h1:w.cell? ⟨S,1,none⟩=some (.slice sa sn sc))(hx:kq w ga gn xs)(hv:SI .u64 w sa sn vs)(hn:gn<=1048576) :
  Calls prog 43 #[pt MB,pt S] w fun e w'=>e=.returned (.bool (lZ glB xs vs))/\Below w.heap.size w w':=by
 have HH:=hid (Td ga sa gn sn gc sc xs vs w hx hv hn);clear hx hv;go_enter func43,ntmps43
 go_wp2_with fail;refine HH.out.mono ?_;rintro e w1⟨rfl,hb⟩;go_wp2_with fail;go_ret;exact⟨rfl,hb⟩
theorem c45(MB S:Nat)(pa:OAz)(pn pc:Nat)(f m:Int)(l:List PgM)(w:World)(h2:w.cell? ⟨S,2,none⟩=some (.slice pa pn pc))(h3:w.cell? ⟨MB,3,none⟩=some (.int .i64 f))(h4:w.cell? ⟨MB,4,none⟩=some (.int .i64 m))(hp:SPg w pa pn l)(hn:pn<=140737488355328)(hs:∀x∈l,x.1.2.1<=140737488355328) :
  Calls prog 45 #[pt S,pt MB] w fun e w'=>e=.returned (.bool (whB pn f m l))/\w'=w:=by
 have HH:=hid (Uq pa pn pc f m l w hp hn hs);clear hp hs;go_enter func45,ntmps45
 go_wp2_with fail;refine HH.out.mono ?_;rintro e w1⟨rfl,hw⟩;have hw:=hw.symm;subst hw;exact jf
def Sp(b7 b8 b9:Bool)(fn rn pn:Nat)(tr us rep fi mo:Int)(xs:List Gl)(gs:LIz)(ps:List PgM)(sb:Nat->Bool):Nat->Bool
 | 0=>b7 || (b8 || b9)
 | 1=>a2 b7 fn
 | 2=>a3 b8 rn
 | 3=>a4 b9 tr
 | 4=>decide (0<=us)&&decide (us<=4611686018427387904)
 | 5=>decide (0<=rep)
 | 6=>lZ glB xs gs
 | 7=>whB pn fi mo ps
 | i+8=>sb i
def ddC(c:Int)(d:Bool):Bool:=if c=7\/c=9\/c=10\/c=0 then true else d
theorem rP(m:MM)(lo:LIz)(s:Cs)(o:Opn)(c a:Int):(rwS m lo s o c a).sh=s.sh/\(rwS m lo s o c a).hi=s.hi/\(rwS m lo s o c a).dead=ddC c s.dead:=by
 unfold rwS ddC
 by_cases h1:c=2\/c=3
 ·rw[if_pos h1,if_neg ae]; exact⟨rfl,rfl,rfl⟩
 rw[if_neg h1]
 by_cases h2:c=4
 ·rw[if_pos h2,if_neg ae]; exact⟨rfl,rfl,rfl⟩
 rw[if_neg h2]
 by_cases h3:c=5
 ·rw[if_pos h3,if_neg ae]; exact⟨rfl,rfl,rfl⟩
 rw[if_neg h3]
 by_cases h4:c=6
 ·rw[if_pos h4,if_neg ae]; exact⟨rfl,rfl,rfl⟩
 rw[if_neg h4]
 by_cases h5:c=7\/c=9\/c=10\/c=0
 ·rw[if_pos h5,if_pos h5]; exact⟨rfl,rfl,rfl⟩
 rw[if_neg h5,if_neg h5]
 by_cases h6:c=8
 ·rw[if_pos h6]; exact⟨rfl,rfl,rfl⟩
 rw[if_neg h6];generalize efV m lo s o c a=E;have key:∀u:ByteArray,({ cN s E.1 with st:=u }:Cs).sh=s.sh/\({ cN s E.1 with st:=u }:Cs).hi=s.hi/\({ cN s E.1 with st:=u }:Cs).dead=s.dead:=fun u=>⟨rfl,rfl,rfl⟩;unfold qB;exact key _
theorem J9(m:MM)(lo:LIz)(xs:List Inx)(R:BAz)(n:Nat):∀j,(stA m lo xs R n j).sh.length=n
 | 0=>List.length_replicate
 | j+1=>by
  show(rwS m lo (fI (fP (stA m lo xs R n j) j)) _ _ _).sh.length=n;rw[(rP m lo _ _ _ _).1];show((stA m lo xs R n j).sh.set _ _).length=n;rw[List.length_set];exact J9 m lo xs R n j
section
variable {m:MM} {lo:LIz} {xs:List Inx} {R:BAz} {n:Nat}
theorem Ol:∀j i,i<j->j<=n->(stA m lo xs R n j).sh[i]? =some (stA m lo xs R n i).st
 | 0,i,h,_=>absurd h ae
 | j+1,i,h,hn=>by
  have e:(stA m lo xs R n (j+1)).sh=(stA m lo xs R n j).sh.set j (stA m lo xs R n j).st:=(rP m lo _ _ _ _).1;rw[e,List.getElem?_set]
  by_cases hi:j=i
  ·subst hi
   rw[if_pos rfl,if_pos (by rw[J9]; omega)]
  rw[if_neg hi];exact Ol j i ae ae
theorem Oa{v:Ev}{w1:World}(hM:EvM v w1 m lo)(hG:Good (opF xs) n)(hR:R.size<=8)(hn:0<n)(hx:∀j,j<n->0<=(xs.getD j dx).c/\(xs.getD j dx).c<=255)(he:∀j,j<n->erA m lo xs R n j=0):∀j,j<n->Iv3 (opF xs) n j (stA m lo xs R n j)
 | 0,_=>Ug hR hn
 | j+1,hj=>Fz hM hG (hx j ae).1 (hx j ae).2 hj (Oa hM hG hR hn hx he j ae) (he j ae)
end
variable {m:MM}
theorem Kn(h:bO m=0):lZ glB m.globals ((List.range m.globals.length).map (glF m.globals))=true:=by
 have h3:=(cK (jY h).2.2.1).2;refine N1 aw (fun i x y hx hy=>?_);have hi:=az hx;rw[List.getElem?_map,List.getElem?_range hi]at hy
 obtain rfl:glF m.globals i=y:=by injection hy
 have hv:glF m.globals i=x.2.2:=by unfold glF; rw[hx]; rfl
 have hc:=h3 i x hx;unfold eu at hc;rw[hv];unfold glB
 by_cases a1:isL x.1=false
 ·rw[if_pos a1]at hc; cases hc
 rw[if_neg a1]at hc
 by_cases a2:dI x.2.2 x.1=false
 ·rw[if_pos a2]at hc; cases hc
 rw[show dI x.2.2 x.1=true by simpa using a2];simp
def pgM(R n:Nat)(f:NIz):List PgM:=(List.range n).map fun p=>((some ⟨R,p*4096,none⟩,4096,4096),(List.range 4096).map fun q=>f (p*4096+q))
theorem PS(R n p:Nat)(f:NIz)(h:p<n):(pgM R n f)[p]? =some ((some ⟨R,p*4096,none⟩,4096,4096),(List.range 4096).map fun q=>f (p*4096+q)):=by simp[pgM,h]
variable {R p:Nat}{f:NIz}{x:PgM}
theorem OY(h:(pgM R n f)[p]? =some x):p<n/\x=((some ⟨R,p*4096,none⟩,4096,4096),(List.range 4096).map fun q=>f (p*4096+q)):=by
 have hl:=az h
 have hl:p<n:=by simpa[pgM] using hl
 rw[PS R n p f hl]at h;injection h with h;exact⟨hl,h.symm⟩
theorem Kz(h:bO m=0)(hn:m.fi=(n:Int))(R:Nat)(f:NIz):whB n m.fi m.mo (pgM R n f)=true:=by
 obtain⟨h,_⟩:=aI h;obtain⟨_,h⟩:=aI h;obtain⟨_,h⟩:=aI h;obtain⟨_,h⟩:=aI h;obtain⟨_,h⟩:=aI h;obtain⟨h5,_⟩:=aI h
 have hp:m.fi<=m.mo:=by
  unfold e5 iV at h5
  by_cases a:m.mo<m.fi\/64<m.mo
  ·rw[if_pos a]at h5; cases h5
  omega
 unfold whB;have e1:decide ((n:Int)<m.fi)=false:=aK;have e2:decide (m.mo<(n:Int))=false:=aK;rw[e1,e2];simp only[Bool.or_self,Bool.not_false,Bool.true_and,List.all_eq_true];intro x hx;unfold pgM at hx;obtain⟨p,_,rfl⟩:=List.mem_map.1 hx;rfl
theorem JB(P Q:BAz)(i:Nat)(h:i<P.size):dB (P++Q) i=dB P i:=by
 unfold dB
 have e:(P++Q).data.toList=P.data.toList++Q.data.toList:=by simp[ByteArray.data_append]
 rw[e,List.getElem?_append_left kJ]
variable {zs:LIz}
theorem PR{P lo:BAz}(hall:mf zs P=true)(hlet:cC (P++lo) (P++lo).size=true):mf ((List.range (P.size+lo.size)).map (ic zs)) (P++lo)=true:=by
 obtain⟨hl,hf⟩:=(lh _ _).1 hall;have hs:(P++lo).size=P.size+lo.size:=ByteArray.size_append;refine(lh _ _).2 ⟨by rw[hs]; simp,fun i hi=>?_⟩;have hi':i<P.size+lo.size:=ae
 have e:((List.range (P.size+lo.size)).map (ic zs)).getD i 0=zs.getD i 0:=by
  simp[List.getD,hi',ic]
 rw[e]
 by_cases h:i<P.size
 ·rw[JB P lo i h]; exact hf i h
 have e0:zs.getD i 0=0:=by simp[List.getD,List.getElem?_eq_none (show zs.length<=i by omega)]
 rw[e0];have hb:=((r9 _ _).1 hlet).1 i hi
 rcases jx (dB (P++lo) i) with ⟨h,_⟩ | ⟨h,_⟩ | ⟨_,_,h⟩
 ·rw[h]; rfl
 ·rw[h]; rfl
 rw[h]at hb; cases hb
variable {y:FuM}
theorem Pf(h:Pt m y):(C6 m y)[0]? =some ⟨#[]⟩/\0<y.2.2.1.2.1:=by
 obtain⟨hG,P,Q,hP,_⟩:=h;have h0:0<y.2.2.1.2.1:=hG.1;refine⟨?_,h0⟩;unfold C6;rw[hP];exact Ol y.2.2.1.2.1 0 h0 lRn
theorem OI(h:bO m=0)(hA:Hy m):¬KH m:=by
 rintro(h1 | ⟨k,x,E,pc,hx,hE,h0⟩)
 ·exact h1 h
 obtain⟨hG,P,Q,hP,hz⟩:=hA k x hx
 rcases hE with ⟨h1,_⟩ | ⟨_,P2,Q2,hP2,j,hj,_,h2,h3,_⟩
 ·exact h1 (by rw[fN hG])
 rw[hP]at hP2;injection hP2 with hP2;injection hP2 with e1 e2;subst e1 e2;exact h2 (hz j hj)
theorem OH{m:MM}(h:bO m=0){n R:Nat}(hn:m.fi=(n:Int)){sb:Nat->Bool}(hs:sb 0=true) :
  ∀j,j<9->Sp true false false 1 0 n 0 0 0 m.fi m.mo m.globals ((List.range m.globals.length).map (glF m.globals)) (pgM R n (mW m.data)) sb j=true
 | 0,_=>rfl
 | 1,_=>rfl
 | 2,_=>rfl
 | 3,_=>rfl
 | 4,_=>rfl
 | 5,_=>rfl
 | 6,_=>Kn h
 | 7,_=>Kz h hn R _
 | 8,_=>hs
 | j+9,hj=>absurd hj ae
theorem c47(MB TX SX KB gb go_ fn fc i:Nat)(m:MM)(xa:OAz)(xn xc:Nat)(ab:Bool)(w:World)(hi:i<fn)(hfc:fn<=fc)(hfn:fn<=281474976710656)(hM:w.heap[MB]? =some (bF m.ta m.tn m.tc m.ha m.hn m.hc m.ga m.gn m.gc m.fi m.mo m.fa m.fn m.fc m.da m.dn m.dc m.ea m.en m.ec))(hX:w.cell? ⟨TX,0,none⟩=some (.slice xa xn xc))(hS:w.cell? ⟨SX,0,none⟩=some (.slice (some ⟨gb,go_,none⟩) fn fc))(hK:w.cell? ⟨KB,0,none⟩=some (.int .i64 i))
  (H:∀W,Below w.heap.size w W->Calls prog 48 #[.agg #[.slice m.ta m.tn m.tc,.slice m.ha m.hn m.hc,.slice m.ga m.gn m.gc,.int .i64 m.fi,.int .i64 m.mo,.slice m.fa m.fn m.fc,.slice m.da m.dn m.dc,.slice m.ea m.en m.ec],.slice xa xn xc,.slice (some ⟨gb,go_+i*4,none⟩) (fn-i) (fc-i)] W fun e w'=>e=.returned (.bool ab)/\Below W.heap.size W w') :
  Calls prog 47 #[pt MB,pt TX,pt SX,pt KB] w fun e w'=>e=.returned (.bool ab)/\Below w.heap.size w w':=by
 have HH:=hid H;have d0:=iz0 hM;have d1:=iz1 hM;have d2:=iz2 hM;have d3:=iz3 hM;have d4:=iz4 hM;have d5:=iz5 hM;have d6:=iz6 hM;have d7:=iz7 hM;have HMK:=hid (fun(W:World) (hb:Below w.heap.size w W)=>And.intro (ag hb d0) (And.intro (ag hb d1) (And.intro (ag hb d2) (And.intro (ag hb d3) (And.intro (ag hb d4) (And.intro (ag hb d5) (And.intro (ag hb d6) (And.intro (ag hb d7) (And.intro (ag hb hX) (And.intro (ag hb hS) (ag hb hK)))))))))));have hil:(i:Int)<=(fn:Int):=ae;have hcp:i<fc:=ae;clear H hM hX hS hK d0 d1 d2 d3 d4 d5 d6 d7;go_enter func47,ntmps47;go_wp2_with fail;refine wp_region_held_drew (S:=fun W=>W.cell? ⟨MB,0,none⟩=some (.slice m.ta m.tn m.tc)/\W.cell? ⟨MB,1,none⟩=some (.slice m.ha m.hn m.hc)/\W.cell? ⟨MB,2,none⟩=some (.slice m.ga m.gn m.gc)/\W.cell? ⟨MB,3,none⟩=some (.int .i64 m.fi)/\W.cell? ⟨MB,4,none⟩=some (.int .i64 m.mo)/\W.cell? ⟨MB,5,none⟩=some (.slice m.fa m.fn m.fc)/\W.cell? ⟨MB,6,none⟩=some (.slice m.da m.dn m.dc)/\W.cell? ⟨MB,7,none⟩=some (.slice m.ea m.en m.ec)/\W.cell? ⟨TX,0,none⟩=some (.slice xa xn xc)/\W.cell? ⟨SX,0,none⟩=some (.slice (some ⟨gb,go_,none⟩) fn fc)/\W.cell? ⟨KB,0,none⟩=some (.int .i64 i)) ar (HMK.out _ (below_drewN w 1)) (fun hS5=>?_)
 have B5:Hid (Below w.heap.size w w.drew):=hid (below_drewN w 1);generalize w.drew=w5 at *;refine cZ (i:=0) rfl ?_;(try simp only[Act.put,sIB]);refine cZ (i:=1) rfl ?_;(try simp only[Act.put]);refine cZ (i:=2) rfl ?_;(try simp only[Act.put]);refine cZ (i:=3) rfl ?_;(try simp only[Act.put]);refine cZ (i:=4) rfl ?_;(try simp only[Act.put]);refine cZ (i:=5) (v:=.slice (some ⟨gb,go_+i*4,none⟩) (fn-i) (fc-i)) rfl ?_ ?_;rotate_left
 ·intro W h;clear h hS5;go_simp;omega
 (try simp only[Act.put]);refine eF (rs:=[6]) ?_
 refine dJ (i:=6) rfl (fun K hK=>?_) rN;go_simp;refine(HH.out _ B5.out).mono ?_;rintro e w6⟨rfl,hb6⟩;have B6:=hid (B5.out.trans (hb6.mono B5.out.size));refine hK.out _ _ (HMK.out _ B6.out) (fun _=>?_)
 clear hK K hb6 hS5;refine cZ (i:=7) (oi:={ dst:=some 4,op:=.assign (.tmp 11),type:=4,pos:= "places.go:24",after:=#[⟨6,.data⟩,⟨6,.chain⟩,⟨0,.phase⟩,⟨1,.phase⟩,⟨2,.phase⟩,⟨3,.phase⟩,⟨4,.phase⟩,⟨5,.phase⟩,⟨6,.phase⟩],guard:=none }) rfl ?_;(try simp only[Act.put,sIB,sC0,sCs]);refine wpAnyH_done ar ?_ _;go_wp2_with fail;go_ret;exact⟨rfl,B6.out⟩
def Uh(m:MM)(N:Nat)(ab:Nat->Bool)(w:World)(e:Ending)(w':World):Prop :=
 Below w.heap.size w w' /\
 ((KH m/\∃E,E≠0/\e=.returned (.tuple #[.int .i64 E,.int .i64 0])) \/
  (bO m=0/\(∀j,j<N->ab j=true)/\e=.returned (.tuple #[.int .i64 0,.int .i64 0])) \/
  (bO m=0/\∃j,j<N/\ab j=false/\(∀i,i<j->ab i=true)/\e=.returned (.tuple #[.int .i64 44,.int .i64 ((j:Int)+1)])))
structure CkB(s:StM):Prop where
 f:s.fn<=281474976710656
 r:s.rn<=281474976710656
 p:s.pn<=140737488355328
 pb:∀x∈s.ps,x.1.2.1<=140737488355328
 fc:s.fn<=s.fc
theorem U8(m:MM)(s:StM)(b7 b8 b9:Bool)(K:Nat)(sb:Nat->Bool)(w:World)(hk:bg w)(hp:0<w.heap.size)(hm:∀R g,w.heap.size<=R->w.heap.size<=g->MOk w R g m)(hcap:∀x∈m.fns,x.2.2.1.2.1<=x.2.2.1.2.2)(hs:SSt w s)(hb:CkB s)(e7:(s.en==1)=b7)(e8:(s.en==2)=b8)(e9:(s.en==3)=b9)(hK:min s.fn 64=K)
  (HS:bO m=0->∀gb go_,s.fa=some ⟨gb,go_,none⟩->∀TT W,Below w.heap.size w W->TbC m TT W->∀i,i<K->Calls prog 48 #[.agg (mV m),.slice (some ⟨TT,0,none⟩) m.fn m.fn,.slice (some ⟨gb,go_+i*4,none⟩) (s.fn-i) (s.fc-i)] W fun e w'=>e=.returned (.bool (sb i))/\Below W.heap.size W w') :
  Calls prog 9 #[.agg (mV m),.agg (U5 s)] w (Uh m (8+K) (Sp b7 b8 b9 s.fn s.rn s.pn s.tr s.us s.rep m.fi m.mo m.globals s.gs s.ps sb) w):=by
 show Calls prog 9 #[.agg #[.slice m.ta m.tn m.tc,.slice m.ha m.hn m.hc,.slice m.ga m.gn m.gc,.int .i64 m.fi,.int .i64 m.mo,.slice m.fa m.fn m.fc,.slice m.da m.dn m.dc,.slice m.ea m.en m.ec],.agg #[.slice s.fa s.fn s.fc,.slice s.ga s.gn s.gc,.slice s.pa s.pn s.pc,.int .i64 s.rep,.int .i8 s.en,.slice s.ra s.rn s.rc,.int .i8 s.tr,.int .i64 s.us]] w _;have B1:=aj w (bF m.ta m.tn m.tc m.ha m.hn m.hc m.ga m.gn m.gc m.fi m.mo m.fa m.fn m.fc m.da m.dn m.dc m.ea m.en m.ec);have B2:=aj (w.alloc (bF m.ta m.tn m.tc m.ha m.hn m.hc m.ga m.gn m.gc m.fi m.mo m.fa m.fn m.fc m.da m.dn m.dc m.ea m.en m.ec)) (cB s.fa s.fn s.fc s.ga s.gn s.gc s.pa s.pn s.pc s.rep s.en s.ra s.rn s.rc s.tr s.us);have B0:=B1.trans (B2.mono B1.size);have hz2:((w.alloc (bF m.ta m.tn m.tc m.ha m.hn m.hc m.ga m.gn m.gc m.fi m.mo m.fa m.fn m.fc m.da m.dn m.dc m.ea m.en m.ec)).alloc (cB s.fa s.fn s.fc s.ga s.gn s.gc s.pa s.pn s.pc s.rep s.en s.ra s.rn s.rc s.tr s.us)).heap.size=w.heap.size+1+1:=aw;have ka:=ak B2 (hZn w (bF m.ta m.tn m.tc m.ha m.hn m.hc m.ga m.gn m.gc m.fi m.mo m.fa m.fn m.fc m.da m.dn m.dc m.ea m.en m.ec));have kb:((w.alloc (bF m.ta m.tn m.tc m.ha m.hn m.hc m.ga m.gn m.gc m.fi m.mo m.fa m.fn m.fc m.da m.dn m.dc m.ea m.en m.ec)).alloc (cB s.fa s.fn s.fc s.ga s.gn s.gc s.pa s.pn s.pc s.rep s.en s.ra s.rn s.rc s.tr s.us)).heap[w.heap.size+1]? =some (cB s.fa s.fn s.fc s.ga s.gn s.gc s.pa s.pn s.pc s.rep s.en s.ra s.rn s.rc s.tr s.us):=Fv aw;have HE:=hid (zg m ((w.alloc (bF m.ta m.tn m.tc m.ha m.hn m.hc m.ga m.gn m.gc m.fi m.mo m.fa m.fn m.fc m.da m.dn m.dc m.ea m.en m.ec)).alloc (cB s.fa s.fn s.fc s.ga s.gn s.gc s.pa s.pn s.pc s.rep s.en s.ra s.rn s.rc s.tr s.us)) (hk.later B0 hp) ae (fun R g h1 h2=>(hm R g ae ae).later B0) hcap);unfold mV at HE;have HM:=hid (hm w.heap.size w.heap.size lRn lRn);have HSS:=hid hs;have HKB:=hid (And.intro ka (And.intro kb (And.intro B0 hz2)));have HSt:=hid HS;have HBd:=hid hb;have m0:=iz0 ka;have m1:=iz1 ka;have m2:=iz2 ka;have m3:=iz3 ka;have m4:=iz4 ka;have m5:=iz5 ka;have m6:=iz6 ka;have m7:=iz7 ka;clear hk hm hcap hs HS hb B1 B2 B0 ka kb hz2;generalize hab:Sp b7 b8 b9 s.fn s.rn s.pn s.tr s.us s.rep m.fi m.mo m.globals s.gs s.ps sb=ab at *;have HAB:=hid hab;clear hab;go_enter func9,ntmps9
 go_wp2_with fail;refine HE.out.mono ?_;rintro e w2 hO;have hb2:=hO.1;have HB2:Hid (Below w.heap.size w w2):=hid (HKB.out.2.2.1.trans (hb2.mono HKB.out.2.2.1.size));have ka2:=ak hb2 HKB.out.1;have kb2:=ak hb2 HKB.out.2.1;have HK2:=hid (And.intro ka2 kb2);clear m0 m1 m2 m3 m4 m5 m6 m7 hb2
 rcases hO.2 with ⟨h1,rfl⟩ | ⟨h1,k,x,E,pc,hx,hE,hE0,_,rfl⟩ | ⟨h1,TT,arr,_,rfl,hA,_,hT⟩
 ·have hx':(bO m==0)=false:=il;have HX:=hid h1;clear h1 hO ka2 kb2;generalize hce:bO m=ce at *;go_wp2_with fail;exact bodyPost_ret (v:=.tuple #[.int .i64 ce,.int .i64 0]) vq rfl ⟨HB2.out,.inl ⟨.inl vw,ce,HX.out,rfl⟩⟩
 ·have hx':(E==0)=false:=by simpa using hE0
  have HX:=hid (And.intro hx (And.intro hE hE0));clear hx hE hE0 hO ka2 kb2;go_wp2_with fail;exact bodyPost_ret (v:=.tuple #[.int .i64 E,.int .i64 0]) vq rfl ⟨HB2.out,.inl ⟨.inr ⟨k,x,E,pc,HX.out⟩,E,HX.out.2.2,rfl⟩⟩
 have HTb:=hid (Tk hA hT);have HX:=hid h1;have H22:=hid (Uf (.slice m.ta m.tn m.tc) (.slice m.ha m.hn m.hc) (.slice m.ga m.gn m.gc) (.int .i64 m.fi) (.int .i64 m.mo) (.slice m.fa m.fn m.fc) (.slice m.da m.dn m.dc) (.slice m.ea m.en m.ec) (some ⟨TT,0,none⟩) m.fn m.fn s.fa s.ga s.pa s.ra s.fn s.fc s.gn s.gc s.pn s.pc s.rn s.rc s.rep s.en s.tr s.us b7 b8 b9 K w2 HBd.out.f hK e7 e8 e9);have m0:=iz0 ka2;have m1:=iz1 ka2;have m2:=iz2 ka2;have m3:=iz3 ka2;have m4:=iz4 ka2;have m5:=iz5 ka2;have m6:=iz6 ka2;have m7:=iz7 ka2;have s0:=iz0 kb2;have s1:=iz1 kb2;have s2:=iz2 kb2;have s3:=iz3 kb2;have s4:=iz4 kb2;have s5:=iz5 kb2;have s6:=iz6 kb2;have s7:=iz7 kb2;clear hO hA hT h1 ka2 kb2 e7 e8 e9;go_wp2_with fail;refine H22.out.mono ?_;rintro e w3⟨MB,TX,SX,P7,P8,P9,KX,LB,cap,rfl,hAK,hKX,hrow,hb3⟩;clear m0 m1 m2 m3 m4 m5 m6 m7 s0 s1 s2 s3 s4 s5 s6 s7;have HB3:Hid (Below w.heap.size w w3):=hid (HB2.out.trans (hb3.mono HB2.out.size));have HTc:=hid (HTb.out.later hb3);have hK64:K<=64:=ae
 have HAsk:Hid (∀j,j<8+K->∃v,w3.cell? ⟨LB,j,none⟩=some v/\Clo (ab j) w3 v):=hid (by
  intro j hj
  have hgn:m.gn<=1048576:=by
   have h2:=(cK (jY HX.out).2.2.1).1;rw[HM.out.pg.1]at h2;omega
  have hlen:=MP MB TX SX P7 P8 P9 KX K;have hcell:w3.cell? ⟨LB,j,none⟩=(pR MB TX SX P7 P8 P9 KX K)[j]?:=World.ownsRow.cellAt hrow j ae;have SS:=fun(W:World) (hb:Below w3.heap.size w3 W)=>HSS.out.later (HB3.out.trans (hb.mono HB3.out.size));rw[<- HAB.out]
  match j,hj,hcell with
  | 0,hj,hcell=>exact⟨_,hcell.trans rfl,⟨36,_,rfl,fun _ _=>bV,fun W hb=>fY (c36 P7 P8 P9 b7 b8 b9 W (ai (hAK.later hb).p7) (ai (hAK.later hb).p8) (ai (hAK.later hb).p9))⟩⟩
  | 1,hj,hcell=>exact⟨_,hcell.trans rfl,⟨37,_,rfl,fun _ _=>bV,fun W hb=>fY (c37 P7 SX b7 s.fa s.fn s.fc W HBd.out.f (ai (hAK.later hb).p7) (ai (hAK.later hb).s))⟩⟩
  | 2,hj,hcell=>exact⟨_,hcell.trans rfl,⟨38,_,rfl,fun _ _=>bV,fun W hb=>fY (c38 P8 SX b8 s.ra s.rn s.rc W HBd.out.r (ai (hAK.later hb).p8) (ai (hAK.later hb).s))⟩⟩
  | 3,hj,hcell=>exact⟨_,hcell.trans rfl,⟨39,_,rfl,fun _ _=>bV,fun W hb=>fY (c39 P9 SX b9 s.tr W (ai (hAK.later hb).p9) (ai (hAK.later hb).s))⟩⟩
  | 4,hj,hcell=>exact⟨_,hcell.trans rfl,⟨41,_,rfl,fun _ _=>bV,fun W hb=>fY (c41 SX s.us W (ai (hAK.later hb).s))⟩⟩
  | 5,hj,hcell=>exact⟨_,hcell.trans rfl,⟨42,_,rfl,fun _ _=>bV,fun W hb=>fY (c42 SX s.rep W (ai (hAK.later hb).s))⟩⟩
  | 6,hj,hcell=>exact⟨_,hcell.trans rfl,⟨43,_,rfl,fun _ _=>bV,fun W hb=>c43 MB SX #[] m.ga s.ga m.gn m.gc s.gn s.gc m.globals s.gs W (ai (hAK.later hb).m) (ai (hAK.later hb).s) (HM.out.pg.kept (aP (S:=fun _=>False) (HB3.out.trans (hb.mono HB3.out.size))) (fun _ _ _ _=>id)) (SS W hb).gl hgn⟩⟩
  | 7,hj,hcell=>exact⟨_,hcell.trans rfl,⟨45,_,rfl,fun _ _=>bV,fun W hb=>fY (c45 MB SX s.pa s.pn s.pc m.fi m.mo s.ps W (ai (hAK.later hb).s) (ai (hAK.later hb).m) (ai (hAK.later hb).m) (SS W hb).pg HBd.out.p HBd.out.pb)⟩⟩
  | i+8,hj,hcell =>
   have hi:i<K:=ae;obtain⟨gb,go_,hfa,_⟩:=HSS.out.fr.at_.resolve_left ae
   have hv:(pR MB TX SX P7 P8 P9 KX K)[i+8]? =some (fnv 47 #[pt MB,pt TX,pt SX,pt (KX i)]):=by
    unfold pR;rw[List.getElem?_append_right (by show 8<=i+8; omega)];show(List.map _ _)[i+8-8]? =_;rw[Nat.add_sub_cancel,List.getElem?_map,List.getElem?_range hi];rfl
   refine⟨_,hcell.trans hv,⟨47,_,rfl,fun _ _=>bV,fun W hb=>?_⟩⟩
   have hsx:W.cell? ⟨SX,0,none⟩=some (.slice (some ⟨gb,go_,none⟩) s.fn s.fc):=by rw[<- hfa]; exact ai (hAK.later hb).s
   exact c47 MB TX SX (KX i) gb go_ s.fn s.fc i m (some ⟨TT,0,none⟩) m.fn m.fn _ W ae HBd.out.fc HBd.out.f (hAK.later hb).m (ai (hAK.later hb).x) hsx (ag hb (hKX i hi)) (fun W' hb'=>HSt.out HX.out gb go_ hfa TT W' (HB3.out.trans ((hb.trans (hb'.mono hb.size)).mono HB3.out.size)) ((HTc.out.later hb).later hb') i hi))
 clear hAK hKX hrow hb3;go_wp2_with fail
 go_loopw [26] (fun i wr=>∃k:Nat,k<=8+K/\i=.int .i64 k/\Hid (Below w3.heap.size w3 wr/\∀i,i<k->ab i=true)) (fun i _=>8+K-(intOf i).toNat)
 case atStart=>exact⟨0,Nat.zero_le _,rfl,hid ⟨Below.refl _ _,fun i h=>absurd h (Nat.not_lt_zero _)⟩⟩
 case round =>
  obtain⟨k,hkn,rfl,HR⟩:=hrel
  by_cases hlt:k<8+K
  ·obtain⟨v,hv,⟨f,cs,hvv,hen,hcall⟩⟩:=HAsk.out k hlt;subst hvv;have g0:=ag HR.out.1 hv;have HC:=hid (hcall wr HR.out.1);have hlt':(k:Int)<((8+K:Nat):Int):=ae;clear hv hcall;generalize hak:ab k=B at *;have HAk:=hid hak;clear hak;go_wp2_with fail;refine HC.out.mono ?_;rintro e w4⟨rfl,hb4⟩;have HB4:Hid (Below w3.heap.size w3 w4):=hid (HR.out.1.trans (hb4.mono HR.out.1.size));clear hb4
   cases B
   ·go_wp2_with fail;exact bodyPost_ret (v:=.tuple #[.int .i64 44,.int .i64 ((k:Int)+1)]) vq rfl ⟨HB3.out.trans (HB4.out.mono HB3.out.size),.inr (.inr ⟨HX.out,k,hlt,HAk.out,HR.out.2,rfl⟩)⟩
   go_wp2_with fail
   exact⟨⟨k+1,ae,bH,hid ⟨HB4.out,fun i hi=>by
    by_cases hik:i<k
    ·exact HR.out.2 i hik
    obtain rfl:i=k:=ae;exact HAk.out⟩⟩,bI⟩
  have hlt':¬(k:Int)<((8+K:Nat):Int):=ae;have HKe:Hid (k=8+K):=hid ae;go_wp2_with fail;exact bodyPost_ret (v:=.tuple #[.int .i64 0,.int .i64 0]) vq rfl ⟨HB3.out.trans (HR.out.1.mono HB3.out.size),.inr (.inl ⟨HX.out,fun j hj=>HR.out.2 j (by have:=HKe.out; omega),rfl⟩)⟩
def RH(m:MM)(zs:LIz)(k:Int)(c FB GB LB R LO n:Nat):StM :=
 { fa:=some ⟨FB,0,none⟩,fn:=1,fc:=1,fs:=[(k,0,((some ⟨LO,0,none⟩,c,c),(List.range c).map (ic zs)),((none,0,0),[]))],ga:=some ⟨GB,0,none⟩,gn:=m.gn,gc:=m.gn,gs:=(List.range m.globals.length).map (glF m.globals),pa:=some ⟨LB,0,none⟩,pn:=n,pc:=n,ps:=pgM R n (mW m.data),rep:=0,en:=1,ra:=none,rn:=0,rc:=0,rs:=[],tr:=0,us:=0 }
theorem S9(h:RB .u8 5 w R (n*4096) f)(hp:p<n):SI .u8 w (some ⟨R,p*4096,none⟩) 4096 ((List.range 4096).map fun q=>f (p*4096+q)):=by
 refine⟨aw,.inr ⟨R,p*4096,rfl,fun j x hj=>?_⟩⟩;have hj':=az hj
 have hj':j<4096:=by simpa using hj'
 rw[List.getElem?_map,List.getElem?_range hj']at hj;injection hj with hj;rw[h.cell (p*4096+j) ae,<- hj]
variable {s P:BAz}{FB GB LB LO k:Nat}
theorem RR{base:Nat}(h:Beg m s zs base w FB GB LB R LO n)(hg:m.globals.length=m.gn)
  (hf:w.heap[FB]? =some (cX k 0 (some ⟨LO,0,none⟩) (P.size+y.2.1.size) (P.size+y.2.1.size) none 0 0)) (hl:RB .u64 53 w LO (P.size+y.2.1.size) (ic zs)):SSt w (RH m zs k (P.size+y.2.1.size) FB GB LB R LO n):=by
 refine⟨⟨rfl,.inr ⟨FB,0,rfl,fun j x hj=>?_⟩,fun x hx=>?_⟩,?_,⟨?_,.inr ⟨LB,0,rfl,fun j x hj=>?_⟩,fun x hx=>?_⟩,⟨rfl,.inl rfl⟩⟩
 ·match j,hj with
  | 0,hj =>
   obtain rfl:=Option.some.inj hj;exact⟨ai hf,ai hf,ai hf,ai hf⟩
  | j+1,hj=>simp[RH]at hj
 ·obtain rfl:x=_:=List.mem_singleton.1 hx;exact⟨EF hl rfl,⟨rfl,.inl rfl⟩⟩
 ·have:=h.gl
  rw[<- hg]at this;show SI .u64 w (some ⟨GB,0,none⟩) m.gn _;rw[<- hg];exact EF this rfl
 ·show(pgM R n (mW m.data)).length=n
  simp[pgM]
 ·obtain⟨hp,rfl⟩:=OY hj;rw[Nat.zero_add,ai h.pg,List.getElem?_toArray,FM R n j hp]
 obtain⟨p,hp,rfl⟩:=List.mem_map.1 hx;exact S9 h.by_ (List.mem_range.1 hp)
theorem Pb{base:Nat}(w:World)(hk:bg w)(hp:0<w.heap.size)(hm:∀R g,w.heap.size<=R->w.heap.size<=g->MOk w R g m)(hcap:∀x∈m.fns,x.2.2.1.2.1<=x.2.2.1.2.2)(h:Beg m s zs base w FB GB LB R LO n) :
  Calls prog 9 #[.agg (mV m),.agg (tP FB GB LB n m.gn)] w fun e w'=>e=.returned (.tuple #[.int .i64 0,.int .i64 0])/\Below w.heap.size w w':=by
 obtain⟨k,⟨t0,lo,⟨ca,cn,cc⟩,co⟩,P,⟨j,x,Q,_,_,hy,hP⟩,hall,hf,hl⟩:=h.fn;have hm0:=hm w.heap.size w.heap.size lRn lRn;obtain⟨t,P',Q',ht,htp,hPl,hlet,hcn,_⟩:=Hm h.chk hm0 hy;simp only at ht hPl hlet hcn hP hl hf;subst ht;rw[Int.toNat_natCast,htp]at hP;injection hP with hP;injection hP with e1 e2;subst e1 e2;obtain⟨N,hfi,hN,_⟩:=wX h.chk
 have hNn:N=n:=by have:=h.fi; omega
 subst hNn;have hgl:m.globals.length=m.gn:=hm0.pg.1;have hS:=RR (y:=(↑t,lo,(ca,cn,cc),co)) h hgl hf hl;have hz:=Pf (h.all k _ hy)
 have hkl:k<m.fn:=by have:=az hy; rw[hm0.pf.1]at this; exact this
 have hlt:=AH hlet
 have hC:=U8 m (RH m zs k (P'.size+lo.size) FB GB LB R LO N) true false false 1 (fun _=>true) w hk hp hm hcap hS ⟨by show 1<=281474976710656; omega,by show 0<=281474976710656; omega,by show N<=140737488355328; omega,fun x hx=>by
   obtain⟨p,hp,rfl⟩:=List.mem_map.1 hx;show 4096<=140737488355328
   omega,Nat.le_refl _⟩ rfl rfl rfl rfl (fun _ gb go_ hfa TT W hb hT i hi=>by
   obtain rfl:i=0:=ae;have hfa:(some ⟨FB,0,none⟩:OAz)=some ⟨gb,go_,none⟩:=hfa;injection hfa with hfa;injection hfa with e1 e2;subst e1 e2;have hfW:=ak hb hf;have hSW:=hS.later hb;obtain⟨hL,hE⟩:=hSW.fr.in_ _ (List.mem_singleton.2 rfl);have:=JH (pc:=0) (q:=t) m TT FB 0 1 k (some ⟨LO,0,none⟩) none (P'.size+lo.size) (P'.size+lo.size) 0 0 lo ca cn cc co W ((hm W.heap.size W.heap.size hb.size hb.size).later hb) hkl hy (ai hfW) (ai hfW) (ai hfW) (ai hfW) hT (P:=P') (Q:=Q') (sh:=⟨#[]⟩) (ll:=(List.range (P'.size+lo.size)).map (ic zs)) (sl:=[]) hz.2 htp hPl hz.1 (by show 0<=1000000; omega) hL hE ae ae ae;refine this.mono (fun e w' hh=>⟨?_,hh.2⟩);rw[hh.1,PR hall hlt]
   rfl)
 refine hC.mono (fun e w' hO=>?_)
 rcases hO.2 with ⟨hb,_⟩ | ⟨_,_,he⟩ | ⟨_,j,hj,hab,_⟩
 ·exact absurd hb (OI h.chk h.all)
 ·exact⟨he,hO.1⟩
 have:=OH h.chk h.fi (R:=R) (sb:=fun _=>true) rfl j hj;exact absurd (this.symm.trans hab) aA
structure Wg where
 WB:Nat
 m:MM
 f:Nat
 t:Nat
 lo:ByteArray
 cb:Nat
 coff:Nat
 cn:Nat
 cc:Nat
 xs:List Inx
 P:ByteArray
 Q:ByteArray
 tb:Nat
 tof:Nat
 fb:Nat
 fof:Nat
 OB:Nat
 oc:Nat
 ow:Nat->Int
structure Wf(g:Wg)(w:World):Prop where
 c0:w.cell? ⟨g.WB,0,none⟩=some (.slice (some ⟨g.tb,g.tof,none⟩) g.m.tn g.m.tc)
 c1:w.cell? ⟨g.WB,1,none⟩=some (.slice g.m.ha g.m.hn g.m.hc)
 c2:w.cell? ⟨g.WB,2,none⟩=some (.slice g.m.ga g.m.gn g.m.gc)
 c5:w.cell? ⟨g.WB,5,none⟩=some (.slice (some ⟨g.fb,g.fof,none⟩) g.m.fn g.m.fc)
 c8:w.cell? ⟨g.WB,8,none⟩=some (.int .i64 g.f)
 c9:w.cell? ⟨g.WB,9,none⟩=some (.slice (some ⟨g.cb,g.coff,none⟩) g.cn g.cc)
 c10:w.cell? ⟨g.WB,10,none⟩=some (.string (g.P++g.lo))
 c13:w.cell? ⟨g.WB,13,none⟩=some (.slice (some ⟨g.OB,0,none⟩) g.cn g.oc)
 ow:∀j,j<g.cn->w.cell? ⟨g.OB,j,none⟩=some (.int .i64 (g.ow j))
 cod:Cod w g.cb g.coff g.cn g.xs
 ty:∀(j:Nat)x,g.m.types[j]? =some x->w.cell? ⟨g.tb,g.tof+j*2,none⟩=some (.string x.1)/\w.cell? ⟨g.tb,g.tof+j*2+1,none⟩=some (.string x.2)
 tyl:g.m.types.length=g.m.tn
 fu:∀(j:Nat)x,g.m.fns[j]? =some x->w.cell? ⟨g.fb,g.fof+j*3,none⟩=some (.int .i64 x.1)
 ful:g.m.fns.length=g.m.fn
 fl:g.f<g.m.fn
 fy:∃ca co,g.m.fns[g.f]? =some ((g.t:Int),g.lo,ca,co)
 tq:g.m.types[g.t]? =some (g.P,g.Q)
 cn:g.cn<=2048
 tn:g.m.tn<=64
 fn:g.m.fn<=128
variable {g:Wg}
theorem Wf.later(h:Wf g w)(hb:Below w.heap.size w w'):Wf g w' :=
 ⟨ag hb h.c0,ag hb h.c1,ag hb h.c2,ag hb h.c5,ag hb h.c8,ag hb h.c9,ag hb h.c10,ag hb h.c13,fun j hj=>ag hb (h.ow j hj),h.cod.later hb lRn,fun j x hj=>⟨ag hb (h.ty j x hj).1,ag hb (h.ty j x hj).2⟩,h.tyl,fun j x hj=>ag hb (h.fu j x hj),h.ful,h.fl,h.fy,h.tq,h.cn,h.tn,h.fn⟩
theorem QR(g:Wg)(w:World)(h:Wf g w):Calls prog 54 #[.pointer (some ⟨g.WB,0,none⟩)] w fun e w'=>e=.returned (.string g.Q)/\∃n,w'=w.drewN n:=by
 obtain⟨ca,co,hy⟩:=h.fy;have g0:=h.c0;have g5:=h.c5;have g8:=h.c8;have y0:=h.fu g.f _ hy;simp only at y0;have t1:=(h.ty g.t _ h.tq).2;simp only at t1;have hfl:=h.fl
 have htl:g.t<g.m.tn:=by have:=az h.tq; rw[h.tyl]at this; exact this
 have hf':(g.f:Int)<(g.m.fn:Int):=ae;have ht':(g.t:Int)<(g.m.tn:Int):=ae;clear h hy;go_enter func54,ntmps54;exact FO
variable {TB:Nat}{t0 t1:Value}{tmps:AVz}
theorem Om(bT:W.heap[TB]? =some (.cells #[t0,t1] 55))(h4:tmps[4]? =some (.pointer (some ⟨TB,0,none⟩))) :
  (results Tryz.f32 tmps).run prog W=.ok (.agg #[t0,t1]) W:=by
 have c0:=iz0 bT;have c1:=iz1 bT;simp[results,results32,go_sem,h4,c0,c1]
theorem AJ(g:Wg)(w:World)(h:Wf g w):Calls prog 32 #[.pointer (some ⟨g.WB,0,none⟩),.int .i64 (-1)] w fun e w'=>e=.returned (.agg #[.string ⟨#[]⟩,.string g.Q])/\Below w.heap.size w w':=by
 have B1:=aj w (aD ⟨#[]⟩ ⟨#[]⟩);have k1:=hZn w (aD ⟨#[]⟩ ⟨#[]⟩);have HR:=hid (QR g (w.alloc (aD ⟨#[]⟩ ⟨#[]⟩)) (h.later B1));have HB:=hid (And.intro B1 k1);clear h B1 k1;go_enter func32,ntmps32
 go_wp2_with fail;refine HR.out.mono ?_;rintro e w2⟨rfl,n,hw⟩
 have hb2:Below (w.alloc (aD ⟨#[]⟩ ⟨#[]⟩)).heap.size (w.alloc (aD ⟨#[]⟩ ⟨#[]⟩)) w2:=by rw[hw]; exact below_drewN _ n
 have k2:=ak hb2 HB.out.2;have HB2:=hid (And.intro (HB.out.1.trans (hb2.mono HB.out.1.size)) k2);clear hw hb2;have a0:=iz0 k2;have a1:=iz1 k2;have f0:=free_at (i:=0) k2;have f1:=free_at (i:=1) k2;clear k2;go_wp2_with fail;have z:=aM (i:=1) (u:=.string g.Q) (aM (i:=0) (u:=.string ⟨#[]⟩) HB2.out.2);have zk:=(ax w2 w.heap.size 0 (.string ⟨#[]⟩)).trans (ax _ w.heap.size 1 (.string g.Q));exact bodyPost_ret (v:=.agg #[.string ⟨#[]⟩,.string g.Q]) (Om z rfl) rfl ⟨rfl,HB2.out.1.trans (zk.to_below HB2.out.1.size (fun q hq e=>by have e:q=w.heap.size:=e; omega))⟩
variable {o q:Nat}{p:Sg}
theorem Od(g:Wg)(w:World)(h:Wf g w)(ho:o<g.cn)(ha:(g.xs.getD o dx).a=q)(hq:g.m.types[q]? =some p):Calls prog 32 #[.pointer (some ⟨g.WB,0,none⟩),.int .i64 o] w fun e w'=>e=.returned (.agg #[.string p.1,.string p.2])/\Below w.heap.size w w':=by
 have B1:=aj w (aD ⟨#[]⟩ ⟨#[]⟩);have k1:=hZn w (aD ⟨#[]⟩ ⟨#[]⟩);have h1:=h.later B1;have g0:=h1.c0;have g9:=h1.c9;have x1:=h1.cod.num ho;rw[ha]at x1;obtain⟨t0,t1⟩:=h1.ty q p hq
 have hql:q<g.m.tn:=by have:=az hq; rw[h.tyl]at this; exact this
 have ht:=h.tn;have hc:=h.cn;have hq':(q:Int)<(g.m.tn:Int):=ae;have ho':(o:Int)<(g.cn:Int):=ae;have a0:=iz0 k1;have a1:=iz1 k1;have f0:=free_at (i:=0) k1;have f1:=free_at (i:=1) k1;have HB:=hid (And.intro B1 k1);obtain⟨p1,p2⟩:=p;simp only at t0 t1;clear h h1 B1 k1 ha hq;go_enter func32,ntmps32
 go_wp2_with fail;generalize w.alloc (aD ⟨#[]⟩ ⟨#[]⟩)=W1 at *
 go_region
 go_wp2_with fail;have z:=aM (i:=1) (u:=.string p2) (aM (i:=0) (u:=.string p1) HB.out.2);have zk:=(ax W1 w.heap.size 0 (.string p1)).trans (ax _ w.heap.size 1 (.string p2));refine bodyPost_ret (v:=.agg #[.string p1,.string p2]) (Om (ak (below_drewN _ 1) z) rfl) rfl ⟨rfl,?_⟩;have hz:=HB.out.1.size
 exact(HB.out.1.trans (zk.to_below hz (fun q hq e=>by have e:q=w.heap.size:=e; omega))).trans ((below_drewN _ 1).mono (Nat.le_trans hz zk.size))
structure Ws(g:Wg)(FB fc SB sc:Nat)(fl:NIz)(sh:List ByteArray)(w:World):Prop where
 c14:w.cell? ⟨g.WB,14,none⟩=some (.slice (some ⟨FB,0,none⟩) g.cn fc)
 flc:∀j,j<g.cn->w.cell? ⟨FB,j,none⟩=some (.int .i64 (fl j))
 c15:w.cell? ⟨g.WB,15,none⟩=some (.slice (some ⟨SB,0,none⟩) sh.length sc)
 shc:∀(j:Nat)b,sh[j]? =some b->w.cell? ⟨SB,j,none⟩=some (.string b)
 le:sh.length<=2048
variable {fc SB sc:Nat}{sh:List ByteArray}
theorem Ws.later{fl:NIz}(h:Ws g FB fc SB sc fl sh w)(hb:Below w.heap.size w w'):Ws g FB fc SB sc fl sh w' :=
 ⟨ag hb h.c14,fun j hj=>ag hb (h.flc j hj),ag hb h.c15,fun j b hj=>ag hb (h.shc j b hj),h.le⟩
theorem CV(g:Wg)(w:World):Calls prog 31 #[.pointer (some ⟨g.WB,0,none⟩),.int .i64 (-1)] w fun e w'=>e=.returned (.string ⟨#[]⟩)/\w'=w:=by
 go_enter func31,ntmps31;exact jf
variable {b:BAz}
theorem LM(g:Wg)(w:World){fl:NIz}(h:Wf g w)(hs:Ws g FB fc SB sc fl sh w)(ho:o<g.cn)(hb:sh[o]? =some b)(hk:fl o=k)(hkb:k<=b.size)(hbs:b.size<=1000000) :
  Calls prog 31 #[.pointer (some ⟨g.WB,0,none⟩),.int .i64 o] w fun e w'=>e=.returned (.string (b.extract 0 k))/\∃n,w'=w.drewN n:=by
 have g14:=hs.c14;have g15:=hs.c15;have x0:=hs.flc o ho;rw[hk]at x0;have y0:=hs.shc o b hb;have hl:=az hb;have hle:=hs.le;have hcn:=h.cn;generalize sh.length=sl at *;have ho':(o:Int)<(g.cn:Int):=ae;have hl':(o:Int)<(sl:Int):=ae;have hkb':(k:Int)<=(b.size:Int):=ae;clear h hs hk hb;go_enter func31,ntmps31;exact FO
def mI(ow:NIz):Nat->Int->Int×Int
 | 0,o=>(o,0)
 | n+1,o=>if o<0 then (o,(n:Int)+1) else mI ow n (ow o.toNat)
variable {o:Int}
theorem Lg(ow:NIz)(n:Nat)(h:o<0):mI ow n o=(o,(n:Int)):=by
 cases n with
 | zero=>rfl
 | succ n=>simp[mI,h]
theorem Iq(g:Wg)(w:World)(h:Wf g w){pc:Nat}(hp:pc<g.cn)(N:Nat)(hN:(N:Int)<=9223372036854775807)(how:∀j,j<g.cn->g.ow j<(g.cn:Int)/\-1<=g.ow j) :
  Calls prog 97 #[.pointer (some ⟨g.WB,0,none⟩),.int .i64 pc,.int .i64 N] w fun e w'=>e=.returned (.tuple #[.int .i64 (mI g.ow N (g.ow pc)).1,.bool ((mI g.ow N (g.ow pc)).2==0)])/\w'=w:=by
 have g13:=h.c13;have x0:=h.ow pc hp;have HW:=hid h.ow;have HO:=hid how;have hcn:=h.cn;have hp':(pc:Int)<(g.cn:Int):=ae;clear h how;go_enter func97,ntmps97;go_wp2_with fail
 go_loop [2,8] (fun n o=>∃(k:Nat)(oo:Int),k<=N/\n=.int .i64 k/\o=.int .i64 oo/\Hid (mI g.ow k oo=mI g.ow N (g.ow pc)/\oo<(g.cn:Int)/\-1<=oo)) (fun n _=>(intOf n).toNat)
 case atStart=>exact⟨N,_,Nat.le_refl _,rfl,rfl,hid ⟨rfl,(HO.out pc hp).1,(HO.out pc hp).2⟩⟩
 case round =>
  obtain⟨k,oo,hk,rfl,rfl,HR⟩:=hrel
  by_cases h0:k=0
  ·subst h0;go_wp2_with fail;refine bodyPost_ret (v:=.tuple #[.int .i64 oo,.bool true]) vI rfl ⟨?_,rfl⟩
   rw[<- HR.out.1]; rfl
  have hk1:(0:Int)<(k:Int):=ae;have hk2:0<k:=ae
  by_cases ho:oo<0
  ·have ho2:¬(0<=oo):=ae;have HOn:=hid ho;have HK0:=hid h0;have hkb:((k:Int)==0)=false:=gX;clear ho h0;go_wp2_with fail;refine bodyPost_ret (v:=.tuple #[.int .i64 oo,.bool false]) vI rfl ⟨?_,rfl⟩;rw[<- HR.out.1,Lg g.ow k HOn.out]
   have:((k:Int)==0)=false:=by have:=HK0.out; simpa using this
   rw[this]
  obtain⟨t,ht⟩:∃t:Nat,oo=t:=⟨oo.toNat,ae⟩;subst ht
  have htl:t<g.cn:=by have:=HR.out.2.1; omega
  have y0:=HW.out t htl;have htl':(t:Int)<(g.cn:Int):=ae;have HY:=hid (HO.out t htl);obtain⟨k1,hk3⟩:∃k1,k=k1+1:=⟨k-1,ae⟩;subst hk3
  have HE:Hid (mI g.ow (k1+1) (t:Int)=mI g.ow k1 (g.ow t)):=hid (by
   show(if (t:Int)<0 then _ else mI g.ow k1 (g.ow ((t:Int)).toNat))=_
   rw[if_neg ae,Int.toNat_natCast])
  clear h0 ho;go_wp2_with fail;exact⟨⟨k1,_,ae,bH,rfl,hid ⟨HE.out.symm.trans HR.out.1,HY.out.1,HY.out.2⟩⟩,by simp[intOf]⟩
theorem SU(c:Int)(w:World):Calls prog 30 #[.int .u8 c] w fun e w'=>e=.returned (.bool (decide (c=7\/c=9\/c=10\/c=0)))/\w'=w:=by
 by_cases h0:c=0
 ·subst h0;exact ny
 by_cases h7:c=7
 ·subst h7;exact ny
 by_cases h9:c=9
 ·subst h9;exact ny
 by_cases h10:c=10
 ·subst h10;exact ny
 have e:decide (c=7\/c=9\/c=10\/c=0)=false:=decide_eq_false ae;rw[e];have b0:(c==0)=false:=gX
 have b7:(c==7)=false:=by simpa using h7
 have b9:(c==9)=false:=by simpa using h9
 have b10:(c==10)=false:=by simpa using h10
 exact ny
theorem mn(n k:Int)(w:World):Calls prog 96 #[.int .i64 n,.int .i64 k] w fun e w'=>e=.returned (.bool (decide (0<=n/\n<k)))/\w'=w:=by
 by_cases h0:0<=n
 ·by_cases h1:n<k
  ·have e:decide (0<=n/\n<k)=true:=decide_eq_true ⟨h0,h1⟩;exact D5
  have e:decide (0<=n/\n<k)=false:=decide_eq_false ae;exact D5
 have e:decide (0<=n/\n<k)=false:=decide_eq_false ae;rw[e];go_enter func96,ntmps96;exact np
def OpO(g:Wg)(o:Int)(p:Sg):Prop:=(o=-1/\p=(⟨#[]⟩,g.Q))\/∃j q:Nat,o=j/\j<g.cn/\(g.xs.getD j dx).a=q/\g.m.types[q]? =some p
theorem mj(g:Wg)(w:World)(h:Wf g w)(H:OpO g o p):Calls prog 32 #[.pointer (some ⟨g.WB,0,none⟩),.int .i64 o] w fun e w'=>e=.returned (.agg #[.string p.1,.string p.2])/\Below w.heap.size w w':=by
 rcases H with ⟨rfl,rfl⟩ | ⟨j,q,rfl,hj,ha,hq⟩
 ·exact AJ g w h
 exact Od g w h hj ha hq
def brF(g:Wg)(o:Int)(p:Sg):ByteArray:=if 0<=o/\opF g.xs o.toNat=3 then p.1 else p.2
theorem QL(g:Wg)(w:World)(h:Wf g w)(H:OpO g o p):Calls prog 98 #[.pointer (some ⟨g.WB,0,none⟩),.int .i64 o] w fun e w'=>e=.returned (.string (brF g o p))/\Below w.heap.size w w':=by
 have HT:=fun w' (h':Wf g w')=>mj g w' h' H;have fld0:∀(a b:Value)(W:World),(Instr.field 55 (.agg #[a,b]) 0).run prog W=.ok a W:=fun _ _ _=>rfl;have fld1:∀(a b:Value)(W:World),(Instr.field 55 (.agg #[a,b]) 1).run prog W=.ok b W:=fun _ _ _=>rfl
 rcases H with ⟨rfl,hp⟩ | ⟨j,q,rfl,hj,ha,hq⟩
 ·have HT:=hid (HT w h)
  have HE:Hid (brF g (-1) p=p.2):=hid (by unfold brF; rw[if_neg ae]);clear h hp;go_enter func98,ntmps98
  go_wp2_with fail;refine HT.out.mono ?_;rintro e w2⟨rfl,hb⟩;have HB:=hid hb;clear hb;go_wp2_with fail;go_ret
  exact⟨by rw[HE.out]; rfl,HB.out⟩
 have x0:=h.cod.op hj;have g9:=h.c9;have hc:=h.cn;have hj':(j:Int)<(g.cn:Int):=ae;have HT:=hid HT;have HW:=hid h;clear h ha hq
 by_cases h3:opF g.xs j=3
 ·have HE:Hid (brF g j p=p.1):=hid (by unfold brF; rw[Int.toNat_natCast,if_pos ⟨ae,h3⟩])
  rw[h3]at x0;clear h3;exact J6
 have HE:Hid (brF g j p=p.2):=hid (by unfold brF; rw[Int.toNat_natCast,if_neg ae])
 have hb3:(opF g.xs j==3)=false:=by simpa using h3
 clear h3;generalize opF g.xs j=c at *;exact J6
variable {ops:Array Oper}{o:Oper}{a:Act}{Q:Exit->Act->World->Prop}
theorem zj(w:World){rest:List Oper}(hgd:o.guard=none)
  (s x:Operand) (ho:o.op=Op.call { callee:=Callee.builtin Builtin.append,args:=#[s,x],argTypes:=#[49,49] }) (base:Nat) (v:Value) (n:Nat) (xs:LIz)
  (hs:a.eval s=v) (hown:w.ownsRow base 5 1 v n (xs.map (Value.int .u8))) (ad:Addr) (z:Int) (hx:a.eval x=.slice (some ad) 1 1) (hu:w.cell? (ad.add 0)=some (.int .u8 z)) (hb:n+1<=1099511627776) (hbase:base<=w.heap.size)
  (h:∀(v':Value)(w':World),w'.ownsRow base 5 1 v' (n+1) ((xs++[z]).map (Value.int .u8))->Below base w w'->wpList prog ops Q rest (a.put o.dst v') w') :
  wpList prog ops Q (o::rest) a w:=by
 obtain⟨i0,hi,hz0,hz1,hz2⟩:=info_parts Tryz.info5;refine wpList_append_own w hgd s x 49 ho base 5 i0 (.int .u8 0) 1 1 underlying49 hi hz0 hz1 hz2 rfl aA v n _ hs hown ad 1 1 [.int .u8 z] hx rfl ?_ ?_ dA ae hbase ?_
 ·intro j u hj
  match j,hj with
  | 0,hj=>simp at hj; subst hj; exact hu
  | j+1,hj=>simp at hj
 ·intro u hu; simp at hu; subst hu; rfl
 exact Gb
theorem yf(v:Int)(w:World)(h0:0<=v)(h1:v<18446744073709551616) :
  Calls prog 93 #[.int .u64 v] w fun e w'=>∃y,e=.returned y/\w'.ownsRow w.heap.size 5 1 y (ay v).length ((ay v).map (Value.int .u8))/\Below w.heap.size w w':=by
 go_enter func93,ntmps93;go_wp2_with fail
 go_loopw [0,3] (fun x l wr=>∃(k:Nat)(V:Int)(pre:LIz),k<=9/\x=.int .u64 V/\pre.length=k/\0<=V/\V<18446744073709551616/\V*128 ^ k<18446744073709551616/\ay v=pre++uv (9-k) V/\wr.ownsRow w.heap.size 5 1 l k (pre.map (Value.int .u8))/\Below w.heap.size w wr) (fun x _ _=>(intOf x).toNat)
 case atStart=>exact⟨0,v,[],ae,rfl,rfl,h0,h1,il,rfl,World.ownsRow_nil _ _ _ _,Below.refl _ _⟩
 case round =>
  obtain⟨k,V,pre,hk,rfl,hpl,hV0,hV1,hroom,huv,hown,hb⟩:=hrel;have HU:=hid huv;have HP:=hid hpl;have HR:=hid hroom;have HO:=hid hown;have HB:=hid hb;clear huv hpl hroom hown hb
  by_cases h128:128<=V
  ·have hk8:=room_end V k HR.out hk h128
   have HN:=hid (show ay v=(pre++[V%128+128])++uv (9-(k+1)) (V / 128) by
    rw[HU.out,show 9-k=9-(k+1)+1 by omega];have hn:¬V<128:=ae
    simp[uv,hn])
   go_wp2_with (first
    | (at_builtin; refine zj _ rfl (.tmp 6) (.tmp 11) rfl w.heap.size _ k pre rfl (HO.out.alloc _) ⟨wr.heap.size,0,none⟩ (V%128+128) rfl kQ ae (by have:=HB.out.size; simp; omega) ?_; intro v' w2 hown2 hb2; have O2:=hid hown2; have B2:=hid ((HB.out.alloc HB.out.size _).trans hb2); clear hown2 hb2))
   exact⟨⟨k+1,V / 128,pre++[V%128+128],ae,rfl,by simp[HP.out],ae,ae,Gv V k HR.out hV0,HN.out,O2.out,B2.out⟩,bI⟩
  have HF:=hid (show ay v=pre++[V] by
   rw[HU.out]
   cases h9:9-k with
   | zero=>rfl
   | succ f =>
    have hn:V<128:=ae
    simp[uv,hn])
  have HLn:=hid (show(ay v).length=k+1 by rw[HF.out]; simp[HP.out])
  go_wp2_with (first
   | (at_builtin; refine zj _ rfl (.tmp 15) (.tmp 18) rfl w.heap.size _ k pre rfl (HO.out.alloc _) ⟨wr.heap.size,0,none⟩ V rfl kQ ae (by have:=HB.out.size; simp; omega) ?_; intro v' w2 hown2 hb2; have O2:=hid hown2; have B2:=hid ((HB.out.alloc HB.out.size _).trans hb2); clear hown2 hb2))
  go_ret;refine⟨v',rfl,?_,B2.out⟩;rw[HLn.out,HF.out];exact O2.out
theorem LP(f:Nat):∀v,0<=v->v<128 ^ (f+1)->∀z∈uv f v,0<=z/\z<=255:=by
 induction f with
 | zero=>intro v h0 h1 z hz; simp[uv]at hz; simp at h1; omega
 | succ f ih =>
  intro v h0 h1 z hz
  by_cases h:v<128
  ·simp[uv,h]at hz; omega
  simp only[uv,h,if_false,List.mem_cons]at hz
  rcases hz with rfl | hz
  ·omega
  refine ih (v / 128) ae ?_ z hz;have hs:(128:Int) ^ (f+1+1)=128 ^ (f+1)*128:=Int.pow_succ _ _;rw[hs]at h1;omega
theorem gp(v:Int)(h0:0<=v)(h1:v<18446744073709551616):∀z∈ay v,0<=z/\z<=255:=by
 refine LP 9 v h0 (Int.lt_trans h1 aA)
theorem LN(v:Int)(w:World)(h0:-9223372036854775808<=v)(h1:v<9223372036854775808) :
  Calls prog 94 #[.int .i64 v] w fun e w'=>e=.returned (.int .u64 (fo v))/\w'=w:=by
 by_cases h:v<0
 ·have HF:=hid (show 2*-(v+1)+1=fo v by unfold fo; rw[if_pos h]; omega)
  exact EX
 have HF:=hid (show 2*v=fo v by unfold fo; rw[if_neg h]);exact EX
theorem Pj(v:Int)(w:World)(h0:-9223372036854775808<=v)(h1:v<9223372036854775808) :
  Calls prog 73 #[.int .i64 v] w fun e w'=>∃y,e=.returned y/\w'.ownsRow w.heap.size 5 1 y (ay (fo v)).length ((ay (fo v)).map (Value.int .u8))/\Below w.heap.size w w':=by
 have hr:=kI v h0 h1;have HA:=hid (LN v w h0 h1);have HB:=hid (yf (fo v) w hr.1 hr.2);clear hr;generalize fo v=u at *;generalize ay u=l at *;go_enter func73,ntmps73
 go_wp2_with fail;refine HA.out.mono ?_;rintro e w1⟨rfl,rfl⟩;go_wp2_with fail;refine HB.out.mono ?_;rintro e w2⟨y,rfl,hs,hb⟩;go_wp2;go_ret;exact⟨y,rfl,hs,hb⟩
end Go.Proofs.YtepcmfegggdjfaaGreatDoor

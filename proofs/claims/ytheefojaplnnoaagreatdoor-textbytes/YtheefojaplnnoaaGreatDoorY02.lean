/-
  Texts Wr Wm Wi.
-/
import Derived.Test.YtheefojaplnnoaaGreatDoorY00
import Derived.Test.YtheefojaplnnoaaGreatDoorY01
set_option linter.unusedVariables false
set_option maxRecDepth 100000
set_option maxHeartbeats 16000000
namespace Go.Proofs.YtheefojaplnnoaaGreatDoor
open Go.RowKit
def thr(e p:Int):Ending:=.panicked [{ v:=.iface 142 (.agg #[.int .i64 e,.int .i64 p]),recovered:=false }]
theorem fe(e at_:Int)(w:World):Calls Tryz.prog 84 #[.bool true,.int .i64 e,.int .i64 at_] w fun e w'=>e=.returned (.tuple #[])∧w'=w:=by
 go_enter Tryz.func84,Tryz.ntmps84
 exact lV
theorem iF(x p:Int)(w:World):Calls Tryz.prog 84 #[.bool false,.int .i64 x,.int .i64 p] w fun e w'=>e=thr x p∧w'=w:=by
 go_enter Tryz.func84,Tryz.ntmps84
 go_wp2_with fail
 simp[bodyPost,thr]
def Buf(w:World)(g n cap:Nat)(xs:List Value):Prop:=iu w 5 1 g n cap xs∨(cap=n∧n≤maxLen∧g<w.heap.size∧xs.length=n∧∀j u,xs[j]? =some u→w.cell? ⟨g,j,none⟩=some u)
theorem Buf.lt{w:World}{g n cap:Nat}{xs:List Value}(h:Buf w g n cap xs):g<w.heap.size:=by
 rcases h with h | h
 ·exact h.lt
 ·exact h.2.2.1
theorem Buf.kept{S:Nat→Prop}{w w':World}{g n cap:Nat}{xs:List Value}(h:Buf w g n cap xs)(hk:Kept S w w')(hs:¬S g):Buf w' g n cap xs:=by
 rcases h with h | ⟨h1,h2,h3,h4,h5⟩
 ·exact .inl (h.kept hk hs)
 ·exact .inr ⟨h1,h2,Nat.lt_of_lt_of_le h3 hk.size,h4,fun j u hj=>hk.cell (h5 j u hj) hs⟩
theorem LH{P:Program}(w:World){ops:Array Oper}{rest:List Oper}{o:Oper}{a:Act}{Q:Exit→Act→World→Prop}(hgd:o.guard=none)
  (s x:Operand) (t:TypeId) (ho:o.op=Op.call { callee:=Callee.builtin Builtin.append,args:=#[s,x],argTypes:=#[t,t] }) (i:TypeInfo) (z:Value)
  (h1:P.underlying t=some (.slice 5)) (h2:P.info? 5=some i) (h3:i.zero=some z) (h4:i.size=1) (h5:i.bytes=1) (h6:z.cells.size=1)
  (g n cap:Nat) (xs:List Value) (hs:a.eval s=.slice (some ⟨g,0,none⟩) n cap) (hown:Buf w g n cap xs) (ad:Addr) (m c:Nat) (news:List Value) (hx:a.eval x=.slice (some ad) m c) (hn:news.length=m*1)
  (hc:∀j u,news[j]? =some u→w.cell? (ad.add j)=some u) (hone:∀u∈news,u.oneCell'=true) (hm:0<m)
  (b1:n+m≤maxLen) (b2:(n+m)*1≤140737488355328)
  (h:∀(B cap:Nat)(w':World),iu w' 5 1 B (n+m) cap (xs++news)→Kept (fun k=>k=g) w w'→(B=g∨w.heap.size≤B)→wpList P ops Q rest (a.put o.dst (.slice (some ⟨B,0,none⟩) (n+m) cap)) w') :
  wpList P ops Q (o::rest) a w:=by
 rcases hown with hr | ⟨rfl,_,_,hl,hcells⟩
 ·exact Gi w hgd s x t ho 5 i z 1 1 h1 h2 h3 h4 h5 h6 aj g n cap xs hs hr ad m c news hx hn hc hone hm b1 b2 h
 ·refine wpList_append_grows w hgd s x t ho 5 i z 1 1 h1 h2 h3 h4 h5 h6 aj (some ⟨g,0,none⟩) cap cap xs hs (fun hh=>by cases hh) ae (fun b hb j u hj=>?_) ad m c news hx hn hc hone ae b1 b2 ?_
  ·simp at hb
   subst hb;have hplain:(⟨g,0,none⟩:Addr).add j=⟨g,j,none⟩:=iG;rw[hplain];exact hcells j u hj
  ·intro v' w' ho' hg'
   rcases ho'.2 with ⟨_,hz⟩ | ⟨B,cp,cur,rfl,hbase,h8⟩
   ·omega
   ·exact h B cp w' (iu.of ho') ((Kept.of_grown hg').mono (fun k hk=>by cases hk)) (.inr hbase)
structure Wr(w:World)(R g cap:Nat)(bs:List Int):Prop where
 c0:w.cell? ⟨R,0,none⟩=some (.slice (some ⟨g,0,none⟩) bs.length cap)
 f0:w.frozen? ⟨R,0,none⟩=false
 row:Buf w g bs.length cap (bs.map (Value.int .u8))
 ne:g≠R
theorem Wr.lt{w:World}{R g cap:Nat}{bs:List Int}(h:Wr w R g cap bs):R<w.heap.size:=block_lt_of_cell h.c0
theorem Wr.kept{S:Nat→Prop}{w w':World}{R g cap:Nat}{bs:List Int}(h:Wr w R g cap bs)(hk:Kept S w w')(hR:¬S R)(hg:¬S g):Wr w' R g cap bs :=
 ⟨hk.cell h.c0 hR,(aC (hk.block R h.lt hR) 0).trans h.f0,h.row.kept hk hg,h.ne⟩
theorem Wr.later{w w':World}{R g cap:Nat}{bs:List Int}(h:Wr w R g cap bs)(hb:Below w.heap.size w w'):Wr w' R g cap bs :=
 h.kept (S:=fun _=>False) ⟨hb.os,hb.tape,hb.output,hb.size,fun k hk _=>hb.block k hk⟩ id id
structure Stp(R g g':Nat)(w w':World):Prop where
 k:Kept (fun k=>k=R∨k=g) w w'
 m:g'=g∨w.heap.size≤g'
theorem Stp.refl(R g:Nat)(w:World):Stp R g g w w:=⟨Kept.refl _ _,.inl rfl⟩
theorem Stp.trans{R g g' g'':Nat}{w w1 w2:World}(h:Stp R g g' w w1)(h':Stp R g' g'' w1 w2):Stp R g g'' w w2:=by
 refine⟨h.k.then h'.k (fun k hk ht=>?_),?_⟩
 ·rcases ht with rfl | rfl
  ·exact .inl rfl
  ·exact qL
 ·exact xe
theorem Stp.of_below{R g:Nat}{w w':World}(h:Below w.heap.size w w'):Stp R g g w w' :=
 ⟨⟨h.os,h.tape,h.output,h.size,fun k hk _=>h.block k hk⟩,.inl rfl⟩
theorem Stp.size{R g g':Nat}{w w':World}(h:Stp R g g' w w'):w.heap.size≤w'.heap.size:=h.k.size
theorem Stp.cell{R g g':Nat}{w w':World}(h:Stp R g g' w w'){b o:Nat}{v:Value}(hc:w.cell? ⟨b,o,none⟩=some v)(h1:b≠R)(h2:b≠g):w'.cell? ⟨b,o,none⟩=some v:=h.k.cell hc (by simp[h1,h2])
theorem Wr.range{w:World}{R g cap:Nat}{bs:List Int}(h:Wr w R g cap bs):bs.length≤maxLen:=by
 rcases h.row with hr | hr
 ·obtain⟨cur,h1,h2,h3,_⟩:=hr.block;omega
 ·exact hr.2.1
theorem uw(R g cap:Nat)(bs:List Int)(a:Option Addr)(n c:Nat)(zs:List Int)(w:World)(h:Wr w R g cap bs)(hs:Seg w a n c zs)(hn:0<n)(hb:bs.length+n≤1099511627776) :
  Calls Tryz.prog 324 #[.pointer (some ⟨R,0,none⟩),.slice a n c] w fun e w'=>e=.returned (.tuple #[])∧∃g' cap',Wr w' R g' cap' (bs++zs)∧Stp R g g' w w':=by
 have c0:=h.c0;have f0:=h.f0;have hlt:=h.lt;obtain⟨i0,hi,hz0,hz1,hz2⟩:=info_parts Tryz.info5
 obtain⟨ad,rfl⟩:∃ad,a=some ad:=by
  rcases hs.2.2.2.2 with h0 | ⟨b,off,h,_⟩
  ·omega
  ·exact⟨_,h⟩
 have HR:=hid h.row;have HNE:=hid h.ne;have HS:=hid hs;have hl:=hs.1;clear h hs
 go_enter Tryz.func324,Tryz.ntmps324
 go_wp2_with (at_builtin; (refine LH _ rfl (.tmp 8) (.tmp 9) 63 rfl i0 (.int .u8 0) Tryz.underlying63 hi hz0 hz1 hz2 rfl g bs.length cap _ rfl HR.out ad n c (zs.map (Value.int .u8)) rfl (by simp[hl]) (pC HS.out ad rfl) (rF _) hn bV ae ?_; intro B cap' w1 hrow hk hor; have HO:=hid hrow; have HK:=hid hk; have HOR:=hid hor; have d0:=hk.cell c0 (Ne.symm HNE.out); have e0:=(aC (hk.block R hlt (Ne.symm HNE.out)) 0).trans f0; clear hrow hk hor c0 f0))
 go_end0
 have hne:B≠R:=by
  rcases HOR.out with h1 | h1
  ·have:=HNE.out; omega
  ·omega
 refine⟨rfl,B,cap',⟨?_,?_,?_,hne⟩,⟨?_,HOR.out⟩⟩
 ·have:=World.cell?_setCell_same w1 ⟨R,0,none⟩ (.slice (some ⟨B,0,none⟩) (bs.length+n) cap') d0
  simpa[hl] using this
 ·rw[World.frozen?_setCell]; exact e0
 ·have hk:(w1.setCell ⟨R,0,none⟩ (.slice (some ⟨B,0,none⟩) (bs.length+n) cap')).heap[B]? =w1.heap[B]?:=Below.heap_setCell _ _ _ _ (by simpa using hne)
  have:=HO.out.keep hk
  refine .inl ?_
  simpa[hl] using this
 ·exact(HK.out.mono (T:=fun k=>k=R∨k=g) (fun k hk=>.inr hk)).trans ⟨rfl,rfl,rfl,xq,fun k hk hs=>Below.heap_setCell _ _ _ _ (by simp at hs ⊢; omega)⟩
abbrev pA(R g:Nat)(bs new:List Int)(v:Value)(w:World):Ending→World→Prop:=fun e w'=>e=.returned v∧∃g' cap',Wr w' R g' cap' (bs++new)∧Stp R g g' w w'
abbrev aT(R g:Nat)(x:Int)(w:World):Ending→World→Prop:=fun e w'=>(∃p,e=thr x p)∧Kept (fun k=>k=R∨k=g) w w'
abbrev kX(w:World):Ending→World→Prop:=fun e w'=>e=.returned (.tuple #[])∧Below w.heap.size w w'
abbrev jU(x:Int)(w:World):Ending→World→Prop:=fun e w'=>(∃p,e=thr x p)∧Below w.heap.size w w'
theorem aN{S:Nat→Prop}{w w':World}(h:Below w.heap.size w w'):Kept S w w':=⟨h.os,h.tape,h.output,h.size,fun k hk _=>h.block k hk⟩
theorem dE(R:Nat)(a:Option Addr)(n cap:Nat)(w:World)(h:w.cell? ⟨R,0,none⟩=some (.slice a n cap)):Calls Tryz.prog 321 #[.pointer (some ⟨R,0,none⟩)] w fun e w'=>e=.returned (.int .i64 n)∧w'=w:=by
 go_enter Tryz.func321,Tryz.ntmps321
 exact jS
theorem N3(v:Int)(w:World)(h0:0≤v)(h1:v<18446744073709551616) :
  Calls Tryz.prog 325 #[.int .u64 v] w fun e w'=>∃B,e=.returned (.slice (some ⟨B,0,none⟩) (ax v).length (ax v).length)∧Seg w' (some ⟨B,0,none⟩) (ax v).length (ax v).length (ax v)∧Below w.heap.size w w' :=
 (vV v w h0 h1).mono fun e w' ⟨he,hs,hb,_⟩=>⟨_,he,hs,hb⟩
theorem Sj(v:Int)(w:World)(h0:-9223372036854775808≤v)(h1:v<9223372036854775808) :
  Calls Tryz.prog 327 #[.int .i64 v] w fun e w'=>∃B,e=.returned (.slice (some ⟨B,0,none⟩) (ax (fo v)).length (ax (fo v)).length)∧Seg w' (some ⟨B,0,none⟩) (ax (fo v)).length (ax (fo v)).length (ax (fo v))∧Below w.heap.size w w' :=
 (Gx v w h0 h1).mono fun e w' ⟨he,hs,hb,_⟩=>⟨_,he,hs,hb⟩
theorem Rh(s:ByteArray)(w:World)(hs:s.size≤1000000) :
  Calls Tryz.prog 328 #[.string s] w fun e w'=>∃B,e=.returned (.slice (some ⟨B,0,none⟩) ((ax s.size).length+s.size) ((ax s.size).length+s.size)) ∧
   Seg w' (some ⟨B,0,none⟩) ((ax s.size).length+s.size) ((ax s.size).length+s.size) (ax s.size++bD s)∧Below w.heap.size w w' :=
 (OM s w hs).mono fun e w' ⟨B,he,hs,hb,_⟩=>⟨_,he,hs,hb⟩
theorem gW(R g cap:Nat)(bs:List Int)(v:Int)(K:Nat)(cs:Array Value)(w:World)(h:Wr w R g cap bs)(h0:0≤v)(h1:v<18446744073709551616)(hb:bs.length+10≤1099511627776)
  (hK:∀args w,(callFunc K args).run Tryz.prog w=.ok (.enter K args) w)
  (hask:Calls Tryz.prog K (#[.int .u64 v,.int .i64 bs.length]++cs) w (kX w)) :
  Calls Tryz.prog 319 #[.pointer (some ⟨R,0,none⟩),.int .u64 v,.func (.func K) #[] cs] w (pA R g bs (ax v) (.int .u64 v) w):=by
 have c0:=h.c0;have HW:=hid h
 have HU:=hid (fun W=>N3 v W h0 h1)
 have hul:=aG v;generalize ax v=U at *;clear h
 go_enter Tryz.func319,Tryz.ntmps319
 exact Jg
theorem iC(R g cap:Nat)(bs:List Int)(v:Int)(K:Nat)(cs:Array Value)(x:Int)(w:World)(h:Wr w R g cap bs)
  (hK:∀args w,(callFunc K args).run Tryz.prog w=.ok (.enter K args) w)
  (hask:Calls Tryz.prog K (#[.int .u64 v,.int .i64 bs.length]++cs) w (jU x w)) :
  Calls Tryz.prog 319 #[.pointer (some ⟨R,0,none⟩),.int .u64 v,.func (.func K) #[] cs] w (aT R g x w):=by
 have c0:=h.c0;clear h
 go_enter Tryz.func319,Tryz.ntmps319
 exact AA
theorem tD(R g cap:Nat)(bs:List Int)(v:Int)(K:Nat)(cs:Array Value)(w:World)(h:Wr w R g cap bs)(h0:-9223372036854775808≤v)(h1:v<9223372036854775808)(hb:bs.length+10≤1099511627776)
  (hK:∀args w,(callFunc K args).run Tryz.prog w=.ok (.enter K args) w)
  (hask:Calls Tryz.prog K (#[.int .i64 v,.int .i64 bs.length]++cs) w (kX w)) :
  Calls Tryz.prog 322 #[.pointer (some ⟨R,0,none⟩),.int .i64 v,.func (.func K) #[] cs] w (pA R g bs (ax (fo v)) (.int .i64 v) w):=by
 have c0:=h.c0;have HW:=hid h
 have HU:=hid (fun W=>Sj v W h0 h1)
 have hul:=aG (fo v);generalize ax (fo v)=U at *;clear h
 go_enter Tryz.func322,Tryz.ntmps322
 exact Jg
theorem xg(R g cap:Nat)(bs:List Int)(v:Int)(K:Nat)(cs:Array Value)(x:Int)(w:World)(h:Wr w R g cap bs)
  (hK:∀args w,(callFunc K args).run Tryz.prog w=.ok (.enter K args) w)
  (hask:Calls Tryz.prog K (#[.int .i64 v,.int .i64 bs.length]++cs) w (jU x w)) :
  Calls Tryz.prog 322 #[.pointer (some ⟨R,0,none⟩),.int .i64 v,.func (.func K) #[] cs] w (aT R g x w):=by
 have c0:=h.c0;clear h
 go_enter Tryz.func322,Tryz.ntmps322
 exact AA
theorem bN(R g cap:Nat)(bs:List Int)(k:Nat)(m:Int)(w:World)(h:Wr w R g cap bs)(hk:(k:Int)≤m)(hk1:k≤1099511627776)(hb:bs.length+10≤1099511627776) :
  Calls Tryz.prog 317 #[.pointer (some ⟨R,0,none⟩),.int .i64 k,.int .i64 m] w (pA R g bs (ax k) (.int .i64 k) w):=by
 have c0:=h.c0;have HW:=hid h
 have HU:=hid (fun W=>N3 k W ae ae)
 have hul:=aG k;generalize ax k=U at *
 have hd:decide ((k:Int)≤m)=true:=by simp[hk]
 have hw64:IntKind.u64.wrap (k:Int)=k:=dA _ ae ae;clear h
 go_enter Tryz.func317,Tryz.ntmps317
 go_wp2_with fail;refine(dE R _ _ _ w c0).mono ?_;rintro e w1⟨rfl,rfl⟩;go_wp2_with fail;refine(fe _ _ _).mono ?_;rintro e w1⟨rfl,rfl⟩;clear c0 hd;go_wp2_with fail;refine(HU.out _).mono ?_;rintro e w3⟨B,rfl,s3,b3⟩;have B3:=hid b3;exact FZ
theorem eW(R g cap:Nat)(bs:List Int)(k:Nat)(m:Int)(w:World)(h:Wr w R g cap bs)(hk:m<(k:Int)) :
  Calls Tryz.prog 317 #[.pointer (some ⟨R,0,none⟩),.int .i64 k,.int .i64 m] w (aT R g 20 w):=by
 have c0:=h.c0;have hd:decide ((k:Int)≤m)=false:=aI;clear h
 go_enter Tryz.func317,Tryz.ntmps317
 exact KM
theorem MB(w:World)(v:Int)(h0:0≤v)(h1:v≤255)(t:TypeId):Seg (w.alloc (.cells #[.int .u8 v] t)) (some ⟨w.heap.size,0,none⟩) 1 1 [v]:=by
 refine⟨rfl,Nat.le_refl _,ae,by simp[h0,h1],.inr ⟨_,0,rfl,fun j hj=>?_⟩⟩
 obtain rfl:j=0:=ae
 simp[go_sem]
theorem iB(R g cap:Nat)(bs:List Int)(v:Int)(K:Nat)(cs:Array Value)(w:World)(h:Wr w R g cap bs)(h0:0≤v)(h1:v≤255)(hb:bs.length+1≤1099511627776)
  (hK:∀args w,(callFunc K args).run Tryz.prog w=.ok (.enter K args) w)
  (hask:Calls Tryz.prog K (#[.int .u8 v,.int .i64 bs.length]++cs) w (kX w)) :
  Calls Tryz.prog 320 #[.pointer (some ⟨R,0,none⟩),.int .u8 v,.func (.func K) #[] cs] w (pA R g bs [v] (.int .u8 v) w):=by
 have c0:=h.c0;have HW:=hid h;clear h
 go_enter Tryz.func320,Tryz.ntmps320
 go_wp2_with fail;refine(dE R _ _ _ w c0).mono ?_;rintro e w1⟨rfl,rfl⟩;go_wp2_with fail;refine hask.mono ?_;rintro e w2⟨rfl,b2⟩;have hb2:=b2.trans (((Below.refl _ w2).alloc (Nat.le_refl _) (jr v)).mono b2.size);have HS:=hid (MB w2 v h0 h1 5);have B3:=hid hb2;clear b2 hb2 hask hK c0;go_wp2_with fail;refine(uw R g cap bs _ _ _ _ _ (HW.out.later B3.out) HS.out ae ae).mono ?_;rintro e w4⟨rfl,g',cap',hw4,hs4⟩;have W4:=hid hw4;have S4:=hid ((Stp.of_below B3.out).trans hs4);clear hw4 hs4;go_wp2_with fail;go_ret;exact⟨rfl,g',cap',W4.out,S4.out⟩
theorem xY(R g cap:Nat)(bs:List Int)(v:Int)(K:Nat)(cs:Array Value)(x:Int)(w:World)(h:Wr w R g cap bs)
  (hK:∀args w,(callFunc K args).run Tryz.prog w=.ok (.enter K args) w)
  (hask:Calls Tryz.prog K (#[.int .u8 v,.int .i64 bs.length]++cs) w (jU x w)) :
  Calls Tryz.prog 320 #[.pointer (some ⟨R,0,none⟩),.int .u8 v,.func (.func K) #[] cs] w (aT R g x w):=by
 have c0:=h.c0;clear h
 go_enter Tryz.func320,Tryz.ntmps320
 exact AA
theorem dU(R g cap:Nat)(bs:List Int)(s:ByteArray)(m:Int)(K:Nat)(cs:Array Value)(w:World)(h:Wr w R g cap bs)(hm:(s.size:Int)≤m)(hs:s.size≤1000000)(hb:bs.length+10+s.size≤1099511627776)
  (hK:∀args w,(callFunc K args).run Tryz.prog w=.ok (.enter K args) w)
  (hask:Calls Tryz.prog K (#[.string s,.int .i64 bs.length]++cs) w (kX w)) :
  Calls Tryz.prog 323 #[.pointer (some ⟨R,0,none⟩),.string s,.int .i64 m,.func (.func K) #[] cs] w (pA R g bs (ax s.size++bD s) (.string s) w):=by
 have c0:=h.c0;have HW:=hid h
 have HU:=hid (fun W=>Rh s W hs)
 have hul:=aG s.size
 have hd:decide ((s.size:Int)≤m)=true:=by simp[hm]
 generalize ax s.size=U at *;clear h
 go_enter Tryz.func323,Tryz.ntmps323
 go_wp2_with fail;refine(dE R _ _ _ w c0).mono ?_;rintro e w1⟨rfl,rfl⟩;go_wp2_with fail;refine(fe _ _ _).mono ?_;rintro e w1⟨rfl,rfl⟩;clear hd;go_wp2_with fail;refine(dE R _ _ _ _ c0).mono ?_;rintro e w1⟨rfl,rfl⟩;go_wp2_with fail;refine hask.mono ?_;rintro e w2⟨rfl,b2⟩;have B2:=hid b2;clear b2 hask hK c0;go_wp2_with fail;refine(HU.out _).mono ?_;rintro e w3⟨B,rfl,s3,b3⟩;have B3:=hid (B2.out.trans (b3.mono B2.out.size));exact FZ
theorem gz(R g cap:Nat)(bs:List Int)(s:ByteArray)(m:Int)(f:Value)(w:World)(h:Wr w R g cap bs)(hm:m<(s.size:Int)) :
  Calls Tryz.prog 323 #[.pointer (some ⟨R,0,none⟩),.string s,.int .i64 m,f] w (aT R g 13 w):=by
 have c0:=h.c0;have hd:decide ((s.size:Int)≤m)=false:=aI;clear h
 go_enter Tryz.func323,Tryz.ntmps323
 exact KM
theorem gh(R g cap:Nat)(bs:List Int)(s:ByteArray)(m:Int)(K:Nat)(cs:Array Value)(x:Int)(w:World)(h:Wr w R g cap bs)(hm:(s.size:Int)≤m)
  (hK:∀args w,(callFunc K args).run Tryz.prog w=.ok (.enter K args) w)
  (hask:Calls Tryz.prog K (#[.string s,.int .i64 bs.length]++cs) w (jU x w)) :
  Calls Tryz.prog 323 #[.pointer (some ⟨R,0,none⟩),.string s,.int .i64 m,.func (.func K) #[] cs] w (aT R g x w):=by
 have c0:=h.c0
 have hd:decide ((s.size:Int)≤m)=true:=by simp[hm]
 clear h
 go_enter Tryz.func323,Tryz.ntmps323
 go_wp2_with fail;refine(dE R _ _ _ w c0).mono ?_;rintro e w1⟨rfl,rfl⟩;go_wp2_with fail;refine(fe _ _ _).mono ?_;rintro e w1⟨rfl,rfl⟩;clear hd;go_wp2_with fail;refine(dE R _ _ _ _ c0).mono ?_;rintro e w1⟨rfl,rfl⟩;go_wp2_with fail;refine hask.mono ?_;rintro e w2⟨⟨p,rfl⟩,b2⟩;exact⟨rfl,⟨p,rfl⟩,aN b2⟩
abbrev cW(R:Nat):Value:=.iface 150 (.pointer (some ⟨R,0,none⟩))
theorem eY(v:Value)(w:World):(method 481 150 v "flagon/module.number").run Tryz.prog w=.ok (319,v) w:=rfl
theorem qb(v:Value)(w:World):(method 481 150 v "flagon/module.signed").run Tryz.prog w=.ok (322,v) w:=rfl
theorem nJ(v:Value)(w:World):(method 481 150 v "flagon/module.octet").run Tryz.prog w=.ok (320,v) w:=rfl
theorem dQ(v:Value)(w:World):(method 481 150 v "flagon/module.text").run Tryz.prog w=.ok (323,v) w:=rfl
theorem bz(v:Value)(w:World):(method 481 150 v "flagon/module.count").run Tryz.prog w=.ok (317,v) w:=rfl
theorem nM(v:Value)(w:World):(method 481 150 v "flagon/module.place").run Tryz.prog w=.ok (321,v) w:=rfl
theorem jJ(v:Value)(w:World):(method 481 150 v "flagon/module.instruction").run Tryz.prog w=.ok (318,v) w:=rfl
theorem iQ(args:Array Value)(w:World):(callFunc 319 args).run Tryz.prog w=.ok (.enter 319 args) w:=rfl
theorem yb(args:Array Value)(w:World):(callFunc 322 args).run Tryz.prog w=.ok (.enter 322 args) w:=rfl
theorem qV(args:Array Value)(w:World):(callFunc 320 args).run Tryz.prog w=.ok (.enter 320 args) w:=rfl
theorem eZ(args:Array Value)(w:World):(callFunc 323 args).run Tryz.prog w=.ok (.enter 323 args) w:=rfl
theorem cf(args:Array Value)(w:World):(callFunc 317 args).run Tryz.prog w=.ok (.enter 317 args) w:=rfl
theorem sH(args:Array Value)(w:World):(callFunc 321 args).run Tryz.prog w=.ok (.enter 321 args) w:=rfl
theorem yX(args:Array Value)(w:World):(callFunc 318 args).run Tryz.prog w=.ok (.enter 318 args) w:=rfl
theorem cG{b:Bool}{x p:Int}{w:World}(h:b=true):Calls Tryz.prog 84 #[.bool b,.int .i64 x,.int .i64 p] w fun e w'=>e=.returned (.tuple #[])∧w'=w:=by subst h; exact fe _ _ _
theorem dZ{b:Bool}{x p:Int}{w:World}(h:b=false):Calls Tryz.prog 84 #[.bool b,.int .i64 x,.int .i64 p] w fun e w'=>e=thr x p∧w'=w:=by subst h; exact iF _ _ _
theorem yP(x:Int)(h0:-9223372036854775808≤x)(h1:x<0):IntKind.u64.wrap x=x+18446744073709551616:=by
 simp[IntKind.wrap,IntKind.bits,IntKind.signed]; omega
theorem rW(B:Nat)(v p n:Int)(w:World)(h:w.cell? ⟨B,0,none⟩=some (.int .i64 n))(hn:0≤n)(hn1:n<9223372036854775808)(hv:v<n):Calls Tryz.prog 185 #[.int .u64 v,.int .i64 p,.pointer (some ⟨B,0,none⟩)] w (kX w):=by
 have hw:=dA n hn ae
 go_enter Tryz.func185,Tryz.ntmps185
 exact DI
theorem tI(B:Nat)(v p n:Int)(w:World)(h:w.cell? ⟨B,0,none⟩=some (.int .i64 n))(hn:0≤n)(hn1:n<9223372036854775808)(hv:n≤v):Calls Tryz.prog 185 #[.int .u64 v,.int .i64 p,.pointer (some ⟨B,0,none⟩)] w (jU 30 w):=by
 have hw:=dA n hn ae
 go_enter Tryz.func185,Tryz.ntmps185
 go_wp2_with fail;refine(dZ aI).mono ?_;exact o9
theorem eB(w:World)(v:Value)(t:TypeId):(w.alloc (.cells #[v] t)).cell? ⟨w.heap.size,0,none⟩=some v:=cg
theorem ag(w:World)(o:Obj):Below w.heap.size w (w.alloc o):=(Below.refl _ _).alloc (Nat.le_refl _) _
theorem gI(R g cap:Nat)(bs:List Int)(x n:Int)(w:World)(h:Wr w R g cap bs)(hb:bs.length+10≤1099511627776)(hx0:0≤x)(hx:x<n)(hn1:n<9223372036854775808) :
  Calls Tryz.prog 136 #[cW R,.int .i64 x,.int .i64 n] w (pA R g bs (ax x) (.int .i64 x) w):=by
 have hm:=eY;have hc:=iQ;have hw:=dA x hx0 ae;have hi:=i64_in x ae ae;have B1:=hid (ag w (bq n))
 have HN:=hid (gW R g cap bs x 185 #[.pointer (some ⟨w.heap.size,0,none⟩)] _ (h.later B1.out) hx0 ae hb (fun _ _=>rfl) (rW w.heap.size x _ n _ (eB _ _ _) ae hn1 hx))
 clear h
 go_enter Tryz.func136,Tryz.ntmps136
 exact Gq
theorem lj(R g cap:Nat)(bs:List Int)(x n:Int)(w:World)(h:Wr w R g cap bs)(hx0:-9223372036854775808≤x)(hx1:x<9223372036854775808)(hx:x<0∨n≤x)(hn:0≤n)(hn1:n<9223372036854775808) :
  Calls Tryz.prog 136 #[cW R,.int .i64 x,.int .i64 n] w (aT R g 30 w):=by
 have hm:=eY;have hc:=iQ
 have hw:n≤IntKind.u64.wrap x:=by
  exact Dz
 have B1:=hid (ag w (bq n))
 have HN:=hid (iC R g cap bs (IntKind.u64.wrap x) 185 #[.pointer (some ⟨w.heap.size,0,none⟩)] 30 _ (h.later B1.out) (fun _ _=>rfl) (tI w.heap.size (IntKind.u64.wrap x) _ n _ (eB _ _ _) hn hn1 hw))
 clear h hw hx
 go_enter Tryz.func136,Tryz.ntmps136
 exact Dy
theorem sj(B:Nat)(v p n:Int)(w:World)(h:w.cell? ⟨B,0,none⟩=some (.int .i64 n))(hn:0≤n)(hn1:n<9223372036854775808)(hv:n≤v)(hv1:v≤64):Calls Tryz.prog 193 #[.int .u64 v,.int .i64 p,.pointer (some ⟨B,0,none⟩)] w (kX w):=by
 have hw:=dA n hn ae
 have d1:decide (n≤v)=true:=by simp[hv]
 have d2:decide (v≤64)=true:=by simp[hv1]
 go_enter Tryz.func193,Tryz.ntmps193
 exact DI
theorem tL(B:Nat)(v p n:Int)(w:World)(h:w.cell? ⟨B,0,none⟩=some (.int .i64 n))(hn:0≤n)(hn1:n<9223372036854775808)(hv:v<n∨64<v):Calls Tryz.prog 193 #[.int .u64 v,.int .i64 p,.pointer (some ⟨B,0,none⟩)] w (jU 17 w):=by
 have hw:=dA n hn ae
 by_cases h1:n≤v
 ·have d1:decide (n≤v)=true:=by simp[h1]
  have d2:decide (v≤64)=false:=aI;exact JP
 ·have d1:decide (n≤v)=false:=aI;exact JP
theorem oH(R g cap:Nat)(bs:List Int)(x n:Int)(w:World)(h:Wr w R g cap bs)(hb:bs.length+10≤1099511627776)(hn:0≤n)(hx0:n≤x)(hx:x≤64) :
  Calls Tryz.prog 140 #[cW R,.int .i64 x,.int .i64 n] w (pA R g bs (ax x) (.int .i64 x) w):=by
 have hm:=eY;have hc:=iQ;have hw:=dA x ae ae;have hi:=i64_in x ae ae;have B1:=hid (ag w (bq n))
 have HN:=hid (gW R g cap bs x 193 #[.pointer (some ⟨w.heap.size,0,none⟩)] _ (h.later B1.out) ae ae hb (fun _ _=>rfl) (sj w.heap.size x _ n _ (eB _ _ _) ae ae hx0 hx))
 clear h
 go_enter Tryz.func140,Tryz.ntmps140
 exact Gq
theorem p8(R g cap:Nat)(bs:List Int)(x n:Int)(w:World)(h:Wr w R g cap bs)(hx0:-9223372036854775808≤x)(hx1:x<9223372036854775808)(hx:x<n∨64<x)(hn:0≤n)(hn1:n<9223372036854775808) :
  Calls Tryz.prog 140 #[cW R,.int .i64 x,.int .i64 n] w (aT R g 17 w):=by
 have hm:=eY;have hc:=iQ
 have hw:IntKind.u64.wrap x<n∨64<IntKind.u64.wrap x:=by
  exact Dz
 have B1:=hid (ag w (bq n))
 have HN:=hid (iC R g cap bs (IntKind.u64.wrap x) 193 #[.pointer (some ⟨w.heap.size,0,none⟩)] 17 _ (h.later B1.out) (fun _ _=>rfl) (tL w.heap.size (IntKind.u64.wrap x) _ n _ (eB _ _ _) hn hn1 hw))
 clear h hw hx
 go_enter Tryz.func140,Tryz.ntmps140
 exact Dy
theorem dt(s:ByteArray)(p:Int)(w:World)(hs:s.size≤1073741824)(h:bO s 256=true):Calls Tryz.prog 183 #[.string s,.int .i64 p] w (kX w):=by
 have HS:=hid (Dw s w hs);rw[h]at HS;clear h
 go_enter Tryz.func183,Tryz.ntmps183
 go_wp2_with fail;refine HS.out.mono ?_;rintro e w1⟨rfl,hb⟩;have B1:=hid hb;clear hb HS;go_wp2_with fail;refine(cG rfl).mono ?_;rintro e w1⟨rfl,rfl⟩;go_wp2_with fail;go_end0;exact⟨rfl,B1.out⟩
theorem gX(s:ByteArray)(p:Int)(w:World)(hs:s.size≤1073741824)(h:bO s 256=false):Calls Tryz.prog 183 #[.string s,.int .i64 p] w (jU 15 w):=by
 have HS:=hid (Dw s w hs);rw[h]at HS;clear h
 go_enter Tryz.func183,Tryz.ntmps183
 go_wp2_with fail;refine HS.out.mono ?_;rintro e w1⟨rfl,hb⟩;have B1:=hid hb;clear hb HS;go_wp2_with fail;refine(dZ rfl).mono ?_;rintro e w1⟨rfl,rfl⟩;exact⟨rfl,⟨_,rfl⟩,B1.out⟩
end Go.Proofs.YtheefojaplnnoaaGreatDoor

/-
  Texts Yb Yc Yd Ye.
-/
import Derived.Test.YtheefojaplnnoaaGreatDoorY00
import Derived.Test.YtheefojaplnnoaaGreatDoorY03
import Derived.Test.YtheefojaplnnoaaGreatDoorY05
import Derived.Test.YtheefojaplnnoaaGreatDoorY09
import Derived.Test.YtheefojaplnnoaaGreatDoorY13
import Derived.Test.YtheefojaplnnoaaGreatDoorY16
import Derived.Test.YtheefojaplnnoaaGreatDoorY40
set_option linter.unusedVariables false
set_option maxRecDepth 100000
set_option maxHeartbeats 16000000
namespace Go.Proofs.YtheefojaplnnoaaGreatDoor
open Go.RowKit
def ip(zs:List Int)(p m x:Int):Int×Int×Int :=
 if p<0∨(zs.length:Int)<p∨m<0 then (0,0,1)
 else if (bE zs p).2.2≠0 then (0,0,(bE zs p).2.2)
 else if m<(bE zs p).1 then (0,0,x)
 else ((bE zs p).1,(bE zs p).2.1,0)
theorem RF(a:Option Addr)(n cap:Nat)(zs:List Int)(p m x:Int)(w:World)(h:Seg w a n cap zs)(hm:m<9223372036854775808) :
  Calls Tryz.prog 306 #[.slice a n cap,.int .i64 p,.int .i64 m,.int .i64 x] w fun e w'=>e=.returned (mC .i64 (ip zs p m x))∧w'=w:=by
 have hn:=h.2.2.1
 have hz:(zs.length:Int)=n:=by have:=h.1; omega
 have hg:=cd zs p h.2.2.2.1;have hc:=ru7 a n cap zs p w h;clear h;unfold ip;generalize bE zs p=r at *;obtain⟨u,q,y⟩:=r;rw[hz]
 simp only[mC]at hc hg
 have HC:=hid hc;clear hc hz;obtain⟨h0,h1,_,_,_,_,_,h8⟩:=hg;clear h8
 by_cases hp0:p<0
 ·have hp0':¬0≤p:=ae;rw[if_pos (Or.inl hp0)];exact pI
 by_cases hpn:(n:Int)<p
 ·have hp0':0≤p:=ae;have hpn':¬p≤(n:Int):=ae;rw[if_pos (Or.inr (Or.inl hpn))];exact pI
 have hp0':0≤p:=ae;have hpn':p≤(n:Int):=ae
 by_cases hm0:m<0
 ·rw[if_pos (Or.inr (Or.inr hm0))];exact pI
 rw[if_neg ae];have hmw:=dA m ae ae
 by_cases hy:y=0
 ·subst hy;rw[if_neg ar]
  by_cases hmu:m<u
  ·rw[if_pos hmu];exact pI
  ·rw[if_neg hmu];have huw:=i64_in u ae ae;exact pI
 ·rw[if_pos hy];have hy':(y != 0)=true:=lO;exact pI
theorem SI(a:Option Addr)(n cap:Nat)(zs:List Int)(p m:Int)(w:World)(h:Seg w a n cap zs)(hm:m<9223372036854775808) :
  Calls Tryz.prog 300 #[.slice a n cap,.int .i64 p,.int .i64 m] w fun e w'=>e=.returned (mC .i64 (ip zs p m 20))∧w'=w:=by
 have hc:=RF a n cap zs p m 20 w h hm;clear h;generalize ip zs p m 20=r at *;obtain⟨u,q,y⟩:=r
 simp only[mC]at hc ⊢
 have HC:=hid hc;clear hc
 go_enter Tryz.func300,Tryz.ntmps300
 go_wp2_with (first | (go_at_call 306; refine HC.out.mono ?_; rintro e w' ⟨rfl,rfl⟩))
 exact mj
def Ic(zs:List Int)(p m:Int):List Int×Int×Int :=
 if (ip zs p m 13).2.2≠0 then ([],0,(ip zs p m 13).2.2)
 else if (zs.length:Int)-(ip zs p m 13).2.1<(ip zs p m 13).1 then ([],0,10)
 else ((zs.drop (ip zs p m 13).2.1.toNat).take (ip zs p m 13).1.toNat,(ip zs p m 13).2.1+(ip zs p m 13).1,0)
def RL(r:List Int×Int×Int):Value:=.tuple #[.string (strOfNums r.1),.int .i64 r.2.1,.int .i64 r.2.2]
theorem A8(zs:List Int)(p m x:Int)(hz:∀z∈zs,0≤z∧z≤255)(hx:x≠0) :
  0≤(ip zs p m x).1∧((ip zs p m x).2.2=0→(ip zs p m x).1≤m)∧0≤(ip zs p m x).2.1∧(ip zs p m x).2.1≤zs.length∧((ip zs p m x).2.2=0→0≤p∧p<(ip zs p m x).2.1):=by
 have h:=cd zs p hz;unfold ip
 by_cases h1:p<0∨(zs.length:Int)<p∨m<0
 ·rw[if_pos h1]; simp
 rw[if_neg h1]
 by_cases h2:(bE zs p).2.2≠0
 ·rw[if_pos h2]; simp; exact⟨fun e=>absurd e h2,fun e=>absurd e h2⟩
 rw[if_neg h2]
 by_cases h3:m<(bE zs p).1
 ·rw[if_pos h3]; simp; exact⟨fun e=>absurd e hx,fun e=>absurd e hx⟩
 rw[if_neg h3]
 refine⟨h.1,fun _=>pP,h.2.2.1,h.2.2.2.1,fun _=>h.2.2.2.2.2.2.1 (by simpa using h2)⟩
theorem NE(w:World)(b off n cap:Nat)(zs:List Int)(q u:Nat)(hz:zs.length=n)(hq:q+u≤n)
  (hc:∀j,j<n→w.cell? ⟨b,off+j,none⟩=some (.int .u8 (zs.getD j 0))) (c':Nat) :
  (convert 63 9 (.slice (some ⟨b,off+q,none⟩) u c')).run Tryz.prog w=.ok (.string (strOfNums ((zs.drop q).take u))) w:=by
 refine run_convert_bytes_arg w 63 5 Tryz.underlying63 Tryz.underlying5 b (off+q) u c' ((zs.drop q).take u) aI ?_ 9 Tryz.underlying9;intro i hi
 have:=hc (q+i) ae
 rw[Nat.add_assoc,this]
 simp[hi]
theorem Fv(w:World)(b off c:Nat)(zs:List Int) :
  (convert 63 9 (.slice (some ⟨b,off,none⟩) 0 c)).run Tryz.prog w=.ok (.string (strOfNums (zs.take 0))) w :=
 run_convert_bytes_arg w 63 5 Tryz.underlying63 Tryz.underlying5 b off 0 c (zs.take 0) ar (fun i hi=>absurd hi ae) 9 Tryz.underlying9
theorem SN(a:Option Addr)(n cap:Nat)(zs:List Int)(p m:Int)(w:World)(h:Seg w a n cap zs)(hm:m<9223372036854775808) :
  Calls Tryz.prog 305 #[.slice a n cap,.int .i64 p,.int .i64 m] w fun e w'=>e=.returned (RL (Ic zs p m))∧w'=w:=by
 have hg:=A8 zs p m 13 h.2.2.2.1 aj;have hc:=RF a n cap zs p m 13 w h hm;obtain⟨hz,hcap,hn,hr,ha⟩:=h;unfold Ic;generalize ip zs p m 13=r at *;obtain⟨u,q,x⟩:=r
 simp only[mC]at hc hg ⊢
 have HC:=hid hc;clear hc hr;obtain⟨h0,h1,h2,h3,h4⟩:=hg
 by_cases hx:x=0
 ·subst hx;have g1:=h1 rfl;have g4:=h4 rfl;clear h1 h4;rw[if_neg ar];obtain⟨u,rfl⟩:=Int.eq_ofNat_of_zero_le h0;obtain⟨q,rfl⟩:=Int.eq_ofNat_of_zero_le h2;have hlen:(zs.length:Int)=n:=ae
  rcases ha with ha | ⟨b,off,rfl,hcell⟩
  ·omega
  by_cases hb:(zs.length:Int)-q<u
  ·rw[if_pos hb];rw[hlen]at hb h3;clear hcell g4 hz hlen;exact Ke
  ·rw[if_neg hb];rw[Int.toNat_natCast,Int.toNat_natCast];have hv:=NE w b off n cap zs q u hz ae hcell;rw[hlen]at hb h3
   by_cases hqc:q=cap
   ·obtain rfl:u=0:=ae
    have hv0:∀c,(convert 63 9 (.slice (some ⟨b,off,none⟩) 0 c)).run Tryz.prog w=.ok (.string (strOfNums ((zs.drop q).take 0))) w:=fun c=>Fv w b off c _
    subst hqc;exact FW
   ·have hv':=hv (cap-q);exact FW
 ·rw[if_pos hx];have hx':(x != 0)=true:=fZ;clear ha h1 h4;exact Ke
abbrev cR(R:Nat):Value:=.iface 146 (.pointer (some ⟨R,0,none⟩))
theorem kw(v:Value)(w:World):(method 481 146 v "flagon/module.number").run Tryz.prog w=.ok (295,v) w:=rfl
theorem wk(v:Value)(w:World):(method 481 146 v "flagon/module.signed").run Tryz.prog w=.ok (298,v) w:=rfl
theorem yO(v:Value)(w:World):(method 481 146 v "flagon/module.octet").run Tryz.prog w=.ok (296,v) w:=rfl
theorem jT(v:Value)(w:World):(method 481 146 v "flagon/module.text").run Tryz.prog w=.ok (299,v) w:=rfl
theorem fw(v:Value)(w:World):(method 481 146 v "flagon/module.count").run Tryz.prog w=.ok (293,v) w:=rfl
theorem yG(v:Value)(w:World):(method 481 146 v "flagon/module.place").run Tryz.prog w=.ok (297,v) w:=rfl
theorem oo(v:Value)(w:World):(method 481 146 v "flagon/module.instruction").run Tryz.prog w=.ok (294,v) w:=rfl
theorem iL(args:Array Value)(w:World):(callFunc 293 args).run Tryz.prog w=.ok (.enter 293 args) w:=rfl
theorem Hd(args:Array Value)(w:World):(callFunc 294 args).run Tryz.prog w=.ok (.enter 294 args) w:=rfl
theorem rJ(args:Array Value)(w:World):(callFunc 295 args).run Tryz.prog w=.ok (.enter 295 args) w:=rfl
theorem J2(args:Array Value)(w:World):(callFunc 296 args).run Tryz.prog w=.ok (.enter 296 args) w:=rfl
theorem GX(args:Array Value)(w:World):(callFunc 297 args).run Tryz.prog w=.ok (.enter 297 args) w:=rfl
theorem Jr(args:Array Value)(w:World):(callFunc 298 args).run Tryz.prog w=.ok (.enter 298 args) w:=rfl
theorem oP(args:Array Value)(w:World):(callFunc 299 args).run Tryz.prog w=.ok (.enter 299 args) w:=rfl
structure Rr(w:World)(R:Nat)(A:Option Addr×Nat×Nat)(ds rs:List Int):Prop where
 c0:w.cell? ⟨R,0,none⟩=some (.slice A.1 A.2.1 A.2.2)
 c1:w.cell? ⟨R,1,none⟩=some (.int .i64 ds.length)
 f1:w.frozen? ⟨R,1,none⟩=false
 seg:Seg w A.1 A.2.1 A.2.2 (ds++rs)
 lo:∀b off c,A.1=some ⟨b,off,c⟩→b<R
 nm:A.2.1≤65536
theorem Rr.ne{w:World}{R:Nat}{A:Option Addr×Nat×Nat}{ds rs:List Int}(h:Rr w R A ds rs):∀b off c,A.1=some ⟨b,off,c⟩→b≠R:=fun b off c hb=>Nat.ne_of_lt (h.lo b off c hb)
theorem Rr.lt{w:World}{R:Nat}{A:Option Addr×Nat×Nat}{ds rs:List Int}(h:Rr w R A ds rs):R<w.heap.size:=block_lt_of_cell h.c0
theorem gT{S:Nat→Prop}{w w':World}{a:Option Addr}{n cap:Nat}{zs:List Int}(h:Seg w a n cap zs)(hk:Kept S w w')(hs:∀b off c,a=some ⟨b,off,c⟩→¬S b):Seg w' a n cap zs:=by
 obtain⟨h1,h2,h3,h4,h5⟩:=h;refine⟨h1,h2,h3,h4,?_⟩
 rcases h5 with h0 | ⟨b,off,rfl,hc⟩
 ·exact .inl h0
 ·exact .inr ⟨b,off,rfl,fun j hj=>hk.cell (hc j hj) (hs b off none rfl)⟩
theorem Rr.kept{S:Nat→Prop}{w w':World}{R:Nat}{A:Option Addr×Nat×Nat}{ds rs:List Int}(h:Rr w R A ds rs)(hk:Kept S w w')(hR:¬S R)(hA:∀b off c,A.1=some ⟨b,off,c⟩→¬S b):Rr w' R A ds rs :=
 ⟨hk.cell h.c0 hR,hk.cell h.c1 hR,(aC (hk.block R h.lt hR) 1).trans h.f1,gT h.seg hk hA,h.lo,h.nm⟩
theorem Rr.later{w w':World}{R:Nat}{A:Option Addr×Nat×Nat}{ds rs:List Int}(h:Rr w R A ds rs)(hb:Below w.heap.size w w'):Rr w' R A ds rs :=
 h.kept (S:=fun _=>False) ⟨hb.os,hb.tape,hb.output,hb.size,fun k hk _=>hb.block k hk⟩ id (fun _ _ _ _=>id)
abbrev KO(R:Nat)(w w':World):Prop:=Kept (fun k=>k=R) w w'
theorem KO.trans{R:Nat}{w w1 w2:World}(h:KO R w w1)(h':KO R w1 w2):KO R w w2:=Kept.trans h h'
theorem KO.of_below{R:Nat}{w w':World}(h:Below w.heap.size w w'):KO R w w':=aN h
theorem KO.set{R:Nat}{w w':World}(h:KO R w w'){b o:Nat}{v:Value}(hb:w.heap.size≤b):KO R w (w'.setCell ⟨b,o,none⟩ v) :=
 Kept.then h (aw w' b o v) (fun k hk hb'=>ae)
theorem KO.block{R:Nat}{w w':World}(h:KO R w w'){b:Nat}(hb:b<w.heap.size)(h1:b≠R):w'.heap[b]? =w.heap[b]?:=Kept.block h b hb h1
theorem KO.cell{R:Nat}{w w':World}(h:KO R w w'){b o:Nat}{v:Value}(hc:w.cell? ⟨b,o,none⟩=some v)(h1:b≠R):w'.cell? ⟨b,o,none⟩=some v:=Kept.cell h hc h1
theorem Rr.set{w:World}{R:Nat}{A:Option Addr×Nat×Nat}{ds rs:List Int}(h:Rr w R A ds rs){b o:Nat}{v:Value}(h1:R<b):Rr (w.setCell ⟨b,o,none⟩ v) R A ds rs:=h.kept (aw w b o v) ae (fun b' off c hb=>by have:=h.lo b' off c hb; omega)
theorem Rr.go{w:World}{R:Nat}{A:Option Addr×Nat×Nat}{ds new rs:List Int}(h:Rr w R A ds (new++rs)):Rr (w.setCell ⟨R,1,none⟩ (.int .i64 ((ds.length+new.length:Nat):Int))) R A (ds++new) rs:=by
 have hk:=aw w R 1 (.int .i64 ((ds.length+new.length:Nat):Int));refine⟨?_,?_,?_,?_,h.lo,h.nm⟩
 ·rw[World.cell?_setCell_other _ _ _ _ ar]; exact h.c0
 ·rw[List.length_append]; exact World.cell?_setCell_same w ⟨R,1,none⟩ _ h.c1
 ·rw[World.frozen?_setCell]; exact h.f1
 ·rw[List.append_assoc]; exact gT h.seg hk h.ne
theorem Rr.bytes{w:World}{R:Nat}{A:Option Addr×Nat×Nat}{ds rs:List Int}(h:Rr w R A ds rs):∀z∈rs,0≤z∧z≤255:=fun z hz=>h.seg.2.2.2.1 z pJ
theorem Rr.len{w:World}{R:Nat}{A:Option Addr×Nat×Nat}{ds rs:List Int}(h:Rr w R A ds rs):ds.length+rs.length≤65536:=by
 have h1:=h.seg.1;have h2:=h.nm;rw[List.length_append]at h1;omega
def Bad(R:Nat)(w:World)(e:Ending)(w':World):Prop:=(∃x p,x≠0∧e=thr x p)∧KO R w w'
def fE(R:Nat)(A:Option Addr×Nat×Nat)(ds rs new:List Int)(w w':World):Prop:=∃rs',rs=new++rs'∧Rr w' R A (ds++new) rs'∧KO R w w'
def kU(P:Prop)(w:World)(e:Ending)(w':World):Prop:=(P∧e=.returned (.tuple #[])∧Below w.heap.size w w')∨((∃x p,x≠0∧e=thr x p)∧Below w.heap.size w w')
theorem fh{P:Prop}{K:Nat}{args:Array Value}{w:World}(hP:P)(h:Calls Tryz.prog K args w (kX w)):Calls Tryz.prog K args w (kU P w):=h.mono fun e w' ⟨h1,h2⟩=>.inl ⟨hP,h1,h2⟩
theorem fD{P:Prop}{K:Nat}{args:Array Value}{w:World}{x:Int}(hx:x≠0)(h:Calls Tryz.prog K args w (jU x w)):Calls Tryz.prog K args w (kU P w):=h.mono fun e w' ⟨⟨p,h1⟩,h2⟩=>.inr ⟨⟨x,p,hx,h1⟩,h2⟩
theorem GK(R:Nat)(p:Int)(w:World)(h:w.cell? ⟨R,1,none⟩=some (.int .i64 p)):Calls Tryz.prog 297 #[.pointer (some ⟨R,0,none⟩)] w fun e w'=>e=.returned (.int .i64 p)∧w'=w:=by
 go_enter Tryz.func297,Tryz.ntmps297
 exact jS
theorem iR(R:Nat)(p q:Int)(w:World)(h:w.cell? ⟨R,1,none⟩=some (.int .i64 p))(hf:w.frozen? ⟨R,1,none⟩=false):Calls Tryz.prog 301 #[.pointer (some ⟨R,0,none⟩),.int .i64 q,.int .i64 0] w fun e w'=>e=.returned (.tuple #[])∧w'=w.setCell ⟨R,1,none⟩ (.int .i64 q):=by
 have hlt:=block_lt_of_cell h
 go_enter Tryz.func301,Tryz.ntmps301
 go_wp2_with fail;refine(fe _ _ _).mono ?_;rintro e w1⟨rfl,rfl⟩;exact lV
theorem mQ(R:Nat)(p q x:Int)(w:World)(h:w.cell? ⟨R,1,none⟩=some (.int .i64 p))(hx:x≠0):Calls Tryz.prog 301 #[.pointer (some ⟨R,0,none⟩),.int .i64 q,.int .i64 x] w fun e w'=>e=thr x p∧w'=w:=by
 have hd:(x==0)=false:=xx
 go_enter Tryz.func301,Tryz.ntmps301
 go_wp2_with fail;refine(iF _ _ _).mono ?_;rintro e w1⟨rfl,rfl⟩;exact⟨rfl,rfl,rfl⟩
theorem yS{ds rs new:List Int}{p q:Int}(hp:p=ds.length)(h:((ds++rs).drop p.toNat).take (q-p).toNat=new)(h0:p<q)(h1:q≤((ds++rs).length:Int)):∃rs',rs=new++rs'∧q=((ds.length+new.length:Nat):Int):=by
 subst hp;rw[Int.toNat_natCast,List.drop_left]at h;refine⟨rs.drop (q-ds.length).toNat,?_,?_⟩
 ·rw[← h,List.take_append_drop]
 ·rw[← h,List.length_take];rw[List.length_append]at h1;omega
theorem sG{ds rs:List Int}{v q:Int}(hz:∀z∈ds++rs,0≤z∧z≤255)(h:bE (ds++rs) ds.length=(v,q,0)):(∃rs',rs=ax v++rs'∧q=((ds.length+(ax v).length:Nat):Int))∧0≤v∧v<18446744073709551616:=by
 obtain⟨h1,h2,h3,h4,h5,h6⟩:=pz _ _ _ _ hz h;exact⟨yS rfl h1 h5 h6,h2,h3⟩
theorem pM(R:Nat)(A:Option Addr×Nat×Nat)(ds rs:List Int)(v0:Int)(K:Nat)(cs:Array Value)(OK:Int→Prop)(w:World)(h:Rr w R A ds rs)
  (hK:∀args w,(callFunc K args).run Tryz.prog w=.ok (.enter K args) w)
  (hask:∀v W,0≤v→v<18446744073709551616→KO R w W→Calls Tryz.prog K (#[.int .u64 v,.int .i64 ds.length]++cs) W (kU (OK v) W)) :
  Calls Tryz.prog 295 #[.pointer (some ⟨R,0,none⟩),.int .u64 v0,.func (.func K) #[] cs] w fun e w'=>Bad R w e w'∨∃v,e=.returned (.int .u64 v)∧0≤v∧v<18446744073709551616∧OK v∧fE R A ds rs (ax v) w w':=by
 have c0:=h.c0;have c1:=h.c1;have f1:=h.f1;have HR:=hid h;have HA:=hid hask;have HU:=hid (ru7 A.1 A.2.1 A.2.2 (ds++rs) ds.length w h.seg);obtain⟨r,hr⟩:∃r,bE (ds++rs) ds.length=r:=⟨_,rfl⟩;rw[hr]at HU;obtain⟨v,q,x⟩:=r;have HE:=hid hr;clear h hask hr
 go_enter Tryz.func295,Tryz.ntmps295
 go_wp2_with fail;refine HU.out.mono ?_;rintro e w1⟨rfl,rfl⟩;unfold mC
 by_cases hx:x=0
 rotate_left
 ·exact xh
 subst hx;obtain⟨⟨rs',rfl,rfl⟩,hv0,hv1⟩:=sG HR.out.seg.2.2.2.1 HE.out;have G:=hid HR.out.go;have KG:=hid (aw w1 R 1 (.int .i64 ((ds.length+(ax v).length:Nat):Int)));have HP:=hid (iR R _ ((ds.length+(ax v).length:Nat):Int) w1 c1 f1);generalize ((ds.length+(ax v).length:Nat):Int)=Q at *;exact Je
theorem Jq{ds rs:List Int}{v q:Int}(hz:∀z∈ds++rs,0≤z∧z≤255)(h:ic (ds++rs) ds.length=(v,q,0)):(∃rs',rs=ax (fo v)++rs'∧q=((ds.length+(ax (fo v)).length:Nat):Int))∧-9223372036854775808≤v∧v<9223372036854775808:=by
 unfold ic at h;obtain⟨r,hr⟩:∃r,bE (ds++rs) ds.length=r:=⟨_,rfl⟩;rw[hr]at h;obtain⟨u,q',x⟩:=r
 simp only[Prod.mk.injEq]at h
 obtain⟨h1,h2,h3⟩:=h;subst h1 h2 h3;obtain⟨h4,h5,h6⟩:=sG hz hr;rw[Ov u h5];refine⟨h4,?_⟩;unfold uf
 split <;> omega
theorem yJ{ds rs:List Int}{m x v q:Int}(hx:x≠0)(hz:∀z∈ds++rs,0≤z∧z≤255)(h:ip (ds++rs) ds.length m x=(v,q,0)):(∃rs',rs=ax v++rs'∧q=((ds.length+(ax v).length:Nat):Int))∧0≤v∧v≤m:=by
 unfold ip at h
 split at h
 ·exact oz
 split at h
 ·exact oz
 split at h
 ·exact oz
 obtain⟨r,hr⟩:∃r,bE (ds++rs) ds.length=r:=⟨_,rfl⟩;rw[hr]at h
 rename_i h1 h2 h3
 rw[hr]at h2 h3;obtain⟨u,q',y⟩:=r
 simp only[Prod.mk.injEq]at h
 obtain⟨g1,g2,g3⟩:=h
 simp only at h2 h3
 obtain rfl:y=0:=ae;subst g1 g2;obtain⟨h4,h5,h6⟩:=sG hz hr;exact⟨h4,h5,ae⟩
theorem IB{ds rs l:List Int}{m q:Int}(hz:∀z∈ds++rs,0≤z∧z≤255)(h:Ic (ds++rs) ds.length m=(l,q,0)):(∃rs',rs=(ax l.length++l)++rs'∧q=((ds.length+(ax l.length++l).length:Nat):Int))∧(l.length:Int)≤m∧∀z∈l,0≤z∧z≤255:=by
 unfold Ic at h
 split at h
 ·exact oz
 split at h
 ·exact oz
 obtain⟨r,hr⟩:∃r,ip (ds++rs) ds.length m 13=r:=⟨_,rfl⟩
 rename_i h1 h2
 rw[hr]at h h1 h2;obtain⟨u,q',y⟩:=r
 simp only[Prod.mk.injEq]at h
 obtain⟨g1,g2,g3⟩:=h
 simp only at g1 g2 h1 h2
 obtain rfl:y=0:=ae;obtain⟨⟨rs',h4,h5⟩,h6,h7⟩:=yJ aj hz hr;subst h4 h5;obtain⟨k,rfl⟩:=Int.eq_ofNat_of_zero_le h6;rw[Int.toNat_natCast,Int.toNat_natCast,← List.append_assoc,← List.length_append,List.drop_left]at g1
 simp only[List.length_append]at h2
 have hk:k≤rs'.length:=ae
 have hl:l.length=k:=by rw[← g1,List.length_take]; omega
 refine⟨⟨rs'.drop k,?_,?_⟩,ae,?_⟩
 ·rw[hl,List.append_assoc,← g1,List.take_append_drop]
 ·rw[hl,List.length_append,hl]; omega
 ·intro z hzz;rw[← g1]at hzz
  exact hz z (by simp[List.mem_of_mem_take hzz])
theorem Fl(R:Nat)(A:Option Addr×Nat×Nat)(ds rs:List Int)(v0:Int)(K:Nat)(cs:Array Value)(OK:Int→Prop)(w:World)(h:Rr w R A ds rs)
  (hK:∀args w,(callFunc K args).run Tryz.prog w=.ok (.enter K args) w)
  (hask:∀v W,-9223372036854775808≤v→v<9223372036854775808→KO R w W→Calls Tryz.prog K (#[.int .i64 v,.int .i64 ds.length]++cs) W (kU (OK v) W)) :
  Calls Tryz.prog 298 #[.pointer (some ⟨R,0,none⟩),.int .i64 v0,.func (.func K) #[] cs] w fun e w'=>Bad R w e w'∨∃v,e=.returned (.int .i64 v)∧-9223372036854775808≤v∧v<9223372036854775808∧OK v∧fE R A ds rs (ax (fo v)) w w':=by
 have c0:=h.c0;have c1:=h.c1;have f1:=h.f1;have HR:=hid h;have HA:=hid hask;have HU:=hid (rs9 A.1 A.2.1 A.2.2 (ds++rs) ds.length w h.seg);obtain⟨r,hr⟩:∃r,ic (ds++rs) ds.length=r:=⟨_,rfl⟩;rw[hr]at HU;obtain⟨v,q,x⟩:=r;have HE:=hid hr;clear h hask hr
 go_enter Tryz.func298,Tryz.ntmps298
 go_wp2_with fail;refine HU.out.mono ?_;rintro e w1⟨rfl,rfl⟩;unfold mC
 by_cases hx:x=0
 rotate_left
 ·exact xh
 subst hx;obtain⟨⟨rs',rfl,rfl⟩,hv0,hv1⟩:=Jq HR.out.seg.2.2.2.1 HE.out;have G:=hid HR.out.go;have KG:=hid (aw w1 R 1 (.int .i64 ((ds.length+(ax (fo v)).length:Nat):Int)));have HP:=hid (iR R _ ((ds.length+(ax (fo v)).length:Nat):Int) w1 c1 f1);generalize ((ds.length+(ax (fo v)).length:Nat):Int)=Q at *;exact Je
theorem iH(R:Nat)(A:Option Addr×Nat×Nat)(ds rs:List Int)(v0 m:Int)(w:World)(h:Rr w R A ds rs)(hm:m<9223372036854775808) :
  Calls Tryz.prog 293 #[.pointer (some ⟨R,0,none⟩),.int .i64 v0,.int .i64 m] w fun e w'=>Bad R w e w'∨∃n:Nat,e=.returned (.int .i64 n)∧(n:Int)≤m∧fE R A ds rs (ax n) w w':=by
 have c0:=h.c0;have c1:=h.c1;have HR:=hid h
 have BW:=hid (fun m=>mF w m)
 have HU:=hid (fun(W:World) (hW:Below w.heap.size w W)=>SI A.1 A.2.1 A.2.2 (ds++rs) ds.length m W (h.later hW).seg hm)
 have HN:=hid (fun(x q:Int)(hx:x≠0)(W:World) (hW:Below w.heap.size w W)=>mQ R ds.length q x W (h.later hW).c1 hx)
 have HP:=hid (fun(q:Int)(W:World) (hW:Below w.heap.size w W)=>iR R ds.length q W (h.later hW).c1 (h.later hW).f1)
 obtain⟨r,hr⟩:∃r,ip (ds++rs) ds.length m 20=r:=⟨_,rfl⟩;rw[hr]at HU;obtain⟨v,q,x⟩:=r
 simp only[mC]at HU
 have HE:=hid hr;clear h hr
 go_enter Tryz.func293,Tryz.ntmps293
 go_wp2_with fail
 go_quiet ((go_at_call 300; exact Calls.quiet_of_same (HU.out _ (BW.out _))))
 by_cases hx:x=0
 rotate_left
 ·go_wp2_with fail;refine(HN.out x q hx _ (BW.out _)).mono ?_;rintro e w2⟨rfl,rfl⟩;exact⟨rfl,.inl ⟨⟨x,_,hx,rfl⟩,KO.of_below (BW.out _)⟩⟩
 subst hx;obtain⟨⟨rs',rfl,rfl⟩,hv0,hv1⟩:=yJ aj HR.out.seg.2.2.2.1 HE.out;have G:=hid (HR.out.later (BW.out nq)).go;have KG:=hid (Kept.trans (KO.of_below (R:=R) (BW.out nq)) (aw _ R 1 (.int .i64 ((ds.length+(ax v).length:Nat):Int))));clear HE HN HU;generalize ((ds.length+(ax v).length:Nat):Int)=Q at *;go_wp2_with fail;refine(HP.out _ _ (BW.out _)).mono ?_;rintro e w2⟨rfl,hw2⟩;rw[← hw2]at G KG;clear hw2 c0 c1;go_wp2_with fail;go_ret;obtain⟨k,rfl⟩:=Int.eq_ofNat_of_zero_le hv0;exact .inr ⟨k,rfl,hv1,rs',rfl,G.out,KG.out⟩
theorem oQ(R:Nat)(A:Option Addr×Nat×Nat)(ds rs:List Int)(s0:ByteArray)(m:Int)(K:Nat)(cs:Array Value)(OK:ByteArray→Prop)(w:World)(h:Rr w R A ds rs)(hm:m<9223372036854775808)
  (hK:∀args w,(callFunc K args).run Tryz.prog w=.ok (.enter K args) w)
  (hask:∀s W,(s.size:Int)≤m→s.size≤65536→KO R w W→Calls Tryz.prog K (#[.string s,.int .i64 ds.length]++cs) W (kU (OK s) W)) :
  Calls Tryz.prog 299 #[.pointer (some ⟨R,0,none⟩),.string s0,.int .i64 m,.func (.func K) #[] cs] w fun e w'=>Bad R w e w'∨∃s,e=.returned (.string s)∧(s.size:Int)≤m∧s.size≤65536∧OK s∧fE R A ds rs (ia s) w w':=by
 have c0:=h.c0;have c1:=h.c1;have f1:=h.f1;have HR:=hid h;have HA:=hid hask;have HU:=hid (SN A.1 A.2.1 A.2.2 (ds++rs) ds.length m w h.seg hm);obtain⟨r,hr⟩:∃r,Ic (ds++rs) ds.length m=r:=⟨_,rfl⟩;rw[hr]at HU;obtain⟨l,q,x⟩:=r;have HE:=hid hr;clear h hask hr
 go_enter Tryz.func299,Tryz.ntmps299
 go_wp2_with fail;refine HU.out.mono ?_;rintro e w1⟨rfl,rfl⟩;unfold RL
 by_cases hx:x=0
 rotate_left
 ·exact xh
 subst hx;obtain⟨⟨rs',hrs,rfl⟩,hl,hlb⟩:=IB HR.out.seg.2.2.2.1 HE.out;have hs:bD (strOfNums l)=l:=jm l hlb;have hz:(strOfNums l).size=l.length:=mN l;have hn:=HR.out.len
 have hl64:l.length≤65536:=by rw[hrs,List.length_append,List.length_append]at hn; omega
 have hE:ia (strOfNums l)=ax l.length++l:=by unfold ia; rw[hs,hz]
 rw[← hE]at hrs;subst hrs;rw[← hE];obtain⟨s,hS⟩:∃s,strOfNums l=s:=⟨_,rfl⟩;rw[hS]at hs hz hE HR ⊢;have HS:=hid hS;clear hS;have hl2:(s.size:Int)≤m:=ae;have hl3:s.size≤65536:=ae;have G:=hid HR.out.go;have KG:=hid (aw w1 R 1 (.int .i64 ((ds.length+(ia s).length:Nat):Int)));have HP:=hid (iR R _ ((ds.length+(ia s).length:Nat):Int) w1 c1 f1);generalize ((ds.length+(ia s).length:Nat):Int)=Q at *;go_wp2_with fail;refine HP.out.mono ?_;rintro e w2⟨rfl,hw2⟩;rw[← hw2]at G KG;have HQ:=hid (HA.out s w2 hl2 hl3 KG.out);clear hw2 c0 c1 f1 HU HA hE hs hz HE;go_wp2_with fail;refine HQ.out.mono ?_
 rintro e w3 (⟨hok,rfl,hb⟩ | ⟨⟨y,p,hy,rfl⟩,hb⟩)
 ·have G3:=hid (G.out.later hb);have K3:=hid (KG.out.trans (KO.of_below hb));clear hb;go_wp2_with fail;go_ret
  exact .inr ⟨s,rfl,hl2,hl3,hok,rs',by rw[HS.out],G3.out,K3.out⟩
 ·exact⟨rfl,.inl ⟨⟨y,p,hy,rfl⟩,KG.out.trans (KO.of_below hb)⟩⟩
theorem vH(R:Nat)(A:Option Addr×Nat×Nat)(ds:List Int)(v0:Int)(K:Nat)(cs:Array Value)(w:World)(h:Rr w R A ds []) :
  Calls Tryz.prog 296 #[.pointer (some ⟨R,0,none⟩),.int .u8 v0,.func (.func K) #[] cs] w fun e w'=>Bad R w e w':=by
 have c0:=h.c0;have c1:=h.c1;have hl:=h.seg.1;rw[List.append_nil]at hl;obtain⟨a,n,cap⟩:=A;dsimp only at c0 hl;have hd:decide (ds.length<n)=false:=aI;clear h hl
 go_enter Tryz.func296,Tryz.ntmps296
 go_wp2_with fail;refine(iF _ _ _).mono ?_;rintro e w1⟨rfl,rfl⟩;exact⟨rfl,⟨10,_,aj,rfl⟩,Kept.refl _ _⟩
theorem yD(R:Nat)(A:Option Addr×Nat×Nat)(ds rs:List Int)(x v0:Int)(K:Nat)(cs:Array Value)(OK:Int→Prop)(w:World)(h:Rr w R A ds (x::rs))
  (hK:∀args w,(callFunc K args).run Tryz.prog w=.ok (.enter K args) w)
  (hask:∀W,0≤x→x≤255→KO R w W→Calls Tryz.prog K (#[.int .u8 x,.int .i64 ds.length]++cs) W (kU (OK x) W)) :
  Calls Tryz.prog 296 #[.pointer (some ⟨R,0,none⟩),.int .u8 v0,.func (.func K) #[] cs] w fun e w'=>Bad R w e w'∨(e=.returned (.int .u8 x)∧0≤x∧x≤255∧OK x∧fE R A ds (x::rs) [x] w w'):=by
 have c0:=h.c0;have c1:=h.c1;have f1:=h.f1;have hl:=h.seg.1;have hlen:=h.len;have hx:=h.bytes x ar;have hgo:=h.go (new:=[x]) (rs:=rs)
 have hcell:∃b off,A.1=some ⟨b,off,none⟩∧b≠R∧w.cell? ⟨b,off+ds.length,none⟩=some (.int .u8 x):=by
  rcases h.seg.2.2.2.2 with h0 | ⟨b,off,hb,hc⟩
  ·rw[List.length_append,List.length_cons]at hl; omega
  ·refine⟨b,off,hb,h.ne b off none hb,?_⟩
   have:=hc ds.length (by rw[List.length_append,List.length_cons]at hl; omega)
   exact bJ
 obtain⟨a,n,cap⟩:=A;obtain⟨b,off,hb,hne,hc⟩:=hcell;dsimp only at hb c0 hl;subst hb;rw[List.length_append,List.length_cons]at hl;have hd:decide (ds.length<n)=true:=aI;have hlt:ds.length<n:=ae;have hwr:wrap64 ((ds.length:Int)+1)=((ds.length+1:Nat):Int):=dv;have hbl:=block_lt_of_cell hc;have KG:=hid (aw w R 1 (.int .i64 ((ds.length+1:Nat):Int)));have G:=hid hgo;have HA:=hid hask;have HX:=hid hx
 have hcW:(w.setCell ⟨R,1,none⟩ (.int .i64 ((ds.length+1:Nat):Int))).cell? ⟨b,off+ds.length,none⟩=some (.int .u8 x):=by rw[World.cell?_setCell_other _ _ _ _ bu]; exact hc
 have c0W:(w.setCell ⟨R,1,none⟩ (.int .i64 ((ds.length+1:Nat):Int))).cell? ⟨R,0,none⟩=some (.slice (some ⟨b,off,none⟩) n cap):=by rw[World.cell?_setCell_other _ _ _ _ ar]; exact c0
 clear h hask hgo hx hlen hl
 go_enter Tryz.func296,Tryz.ntmps296
 go_wp2_with fail;refine(fe _ _ _).mono ?_;rintro e w1⟨rfl,rfl⟩;obtain⟨Q,hQ⟩:∃Q,((ds.length+1:Nat):Int)=Q:=⟨_,rfl⟩
 have hQ':((ds.length+[x].length:Nat):Int)=Q:=by simpa using hQ
 rw[hQ]at KG hcW c0W hwr;rw[hQ']at G;clear hQ hQ' hd;go_wp2_with fail;have HQ:=hid (HA.out _ HX.out.1 HX.out.2 KG.out);have hblW:=block_lt_of_cell hcW;clear HA;generalize w1.setCell ⟨R,1,none⟩ (.int .i64 Q)=w2 at *;refine HQ.out.mono ?_
 rintro e w3 (⟨hok,rfl,hb⟩ | ⟨⟨y,p,hy,rfl⟩,hb⟩)
 ·have G3:=hid (G.out.later hb);have K3:=hid (KG.out.trans (KO.of_below hb))
  have d0:=(hb.cell (by exact block_lt_of_cell c0W)).trans c0W
  have d1:=(hb.cell (by exact hblW)).trans hcW
  clear hb HQ c0 c1 f1 hc c0W hcW;go_wp2_with fail;go_ret;exact .inr ⟨rfl,HX.out.1,HX.out.2,hok,rs,rfl,G3.out,K3.out⟩
 ·exact⟨rfl,.inl ⟨⟨y,p,hy,rfl⟩,KG.out.trans (KO.of_below hb)⟩⟩
end Go.Proofs.YtheefojaplnnoaaGreatDoor

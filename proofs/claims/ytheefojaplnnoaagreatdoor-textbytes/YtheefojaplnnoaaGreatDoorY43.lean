/-
  Texts Yi Yj.
-/
import Derived.Test.YtheefojaplnnoaaGreatDoorY00
import Derived.Test.YtheefojaplnnoaaGreatDoorY16
import Derived.Test.YtheefojaplnnoaaGreatDoorY17
import Derived.Test.YtheefojaplnnoaaGreatDoorY42
set_option linter.unusedVariables false
set_option maxRecDepth 100000
set_option maxHeartbeats 16000000
namespace Go.Proofs.YtheefojaplnnoaaGreatDoor
open Go.RowKit
theorem tY(R:Nat)(A:Option Addr×Nat×Nat)(ds rs:List Int)(v0:Int)(K:Nat)(cs:Array Value)(OK:Int→Prop)(w:World)(h:Rr w R A ds rs)
  (hK:∀args w,(callFunc K args).run Tryz.prog w=.ok (.enter K args) w)
  (hask:∀x W,0≤x→x≤255→KO R w W→Calls Tryz.prog K (#[.int .u8 x,.int .i64 ds.length]++cs) W (kU (OK x) W)) :
  Calls Tryz.prog 296 #[.pointer (some ⟨R,0,none⟩),.int .u8 v0,.func (.func K) #[] cs] w fun e w'=>Bad R w e w'∨∃x,e=.returned (.int .u8 x)∧0≤x∧x≤255∧OK x∧fE R A ds rs [x] w w':=by
 cases rs with
 | nil=>exact(vH R A ds v0 K cs w h).mono fun e w' hb=>.inl hb
 | cons x r=>exact(yD R A ds r x v0 K cs OK w h hK (hask x)).mono fun e w' hb=>hb.imp id fun⟨h1,h2,h3,h4,h5⟩=>⟨x,h1,h2,h3,h4,h5⟩
theorem FK(v p:Int)(w:World)(h0:v≠0)(h1:v≠1):Calls Tryz.prog 189 #[.int .u8 v,.int .i64 p] w (jU 17 w):=by
 have HF:=hid KQ;have HT:=hid Bg
 have d0:(v==0)=false:=by simpa using h0
 have d1:(v==1)=false:=rx;clear h0 h1
 go_enter Tryz.func189,Tryz.ntmps189
 go_wp2_with fail;refine(HF.out _).mono ?_;rintro e w' ⟨rfl,rfl⟩;go_wp2_with fail;refine(HT.out _).mono ?_;rintro e w'' ⟨rfl,h⟩;obtain rfl:=h.symm;go_wp2_with fail
 refine(dZ (by first | rfl | assumption)).mono ?_
 exact o9
theorem L8(v p:Int)(w:World):Calls Tryz.prog 189 #[.int .u8 v,.int .i64 p] w (kU (∃b,v=bit b) w):=by
 by_cases h0:v=0
 ·subst h0; exact fh ⟨false,rfl⟩ (zn p w)
 ·by_cases h1:v=1
  ·subst h1; exact fh ⟨true,rfl⟩ (xK p w)
  ·exact fD aj (FK v p w h0 h1)
theorem JX(c s:Int)(h0:-9223372036854775808≤s)(h1:s<9223372036854775808)(hc:c=119→-2147483648≤s∧s<2147483648):∃u,0≤u∧u<18446744073709551616∧sgn c u=s∧(c=119→u<4294967296):=by
 by_cases h:c=119
 ·have:=hc h
  refine⟨if s<0 then s+4294967296 else s,?_,?_,?_,?_⟩
  ·split <;> omega
  ·split <;> omega
  ·unfold sgn;rw[if_pos h]
   split <;> (split <;> (try split) <;> omega)
  ·intro _; split <;> omega
 ·refine⟨if s<0 then s+18446744073709551616 else s,?_,?_,?_,fun h'=>absurd h' h⟩
  ·split <;> omega
  ·split <;> omega
  ·unfold sgn;rw[if_neg h]
   split <;> (first | omega | (split <;> omega))
theorem Gt(B:Nat)(x p:Int)(w:World)(h0:-9223372036854775808≤x)(h1:x<9223372036854775808)(hB:w.cell? ⟨B,0,none⟩=some (.int .u8 119))(h:¬(-2147483648≤x∧x<2147483648)) :
  Calls Tryz.prog 191 #[.int .i64 x,.int .i64 p,.pointer (some ⟨B,0,none⟩)] w (jU 17 w):=by
 have hs:(x==wrap64 (wrap32 x))=false:=by
  unfold wrap64 wrap32
  simp only[beq_eq_false_iff_ne,ne_eq]
  omega
 clear h;exact JA
theorem NW(B:Nat)(c x p:Int)(w:World)(h0:-9223372036854775808≤x)(h1:x<9223372036854775808)(hB:w.cell? ⟨B,0,none⟩=some (.int .u8 c)) :
  Calls Tryz.prog 191 #[.int .i64 x,.int .i64 p,.pointer (some ⟨B,0,none⟩)] w (kU (c=119→-2147483648≤x∧x<2147483648) w):=by
 by_cases h:c=119→-2147483648≤x∧x<2147483648
 ·obtain⟨u,u0,u1,rfl,u2⟩:=JX c x h0 h1 h;exact fh h (si B c u p w u0 u1 hB u2)
 ·have hc:c=119:=by
   apply Classical.byContradiction; intro hn; exact h (fun hh=>absurd hh hn)
  subst hc
  exact fD aj (Gt B x p w h0 h1 hB (fun hh=>h (fun _=>hh)))
theorem zq(a:Addr)(w:World):(nilAhead 481 146 (.pointer (some a)) "flagon/module.octet").run Tryz.prog w=.ok (some false) w:=rfl
theorem yI(a:Addr)(w:World):(nilAhead 481 146 (.pointer (some a)) "flagon/module.signed").run Tryz.prog w=.ok (some false) w:=rfl
theorem IU(R:Nat)(A:Option Addr×Nat×Nat)(ds rs:List Int)(w:World)(h:Rr w R A ds rs) :
  Calls Tryz.prog 139 #[cR R,.agg #[.int .u8 0,.bool false,.int .u64 0]] w fun e w'=>Bad R w e w'∨∃x:Gl,e=.returned (.agg #[.int .u8 x.1,.bool x.2.1,.int .u64 x.2.2])∧gH x=0∧0≤x.1∧x.1≤255∧0≤x.2.2∧x.2.2<18446744073709551616∧fE R A ds rs (cT x) w w':=by
 have hmo:=yO;have hco:=J2;have hms:=wk;have hcs:=Jr;have hno:=zq;have hns:=yI;obtain⟨B0,z0,x0,x1⟩:=ki w 0 0 false;have HW:(w.alloc (aQ 0 false 0)).alloc (aQ 0 false 0)=pO w 0 0 false:=rfl;have hRl:=h.lt;generalize pO w 0 0 false=W1 at *
 have H1:=hid (tY R A ds rs 0 186 #[] (fun v=>isL v=true) W1 (h.later B0) (fun _ _=>rfl) (fun x W _ _ _=>NS x _ W))
 have BW:=hid B0;obtain⟨a0,a1,a2,_,_,_⟩:=aB x0;clear h B0
 go_enter Tryz.func139,Tryz.ntmps139
 go_wp2_with fail;refine H1.out.mono ?_
 rintro e w2 (⟨⟨y,p,hy,rfl⟩,hk⟩ | ⟨c,rfl,c0,c1,hl,rs1,hrs1,hr2,hk2⟩)
 ·exact jc
 have y0:=(hk2.block (b:=w.heap.size) ae ae).trans x0;have y1:=(hk2.block (b:=w.heap.size+1) ae ae).trans x1;have K2:=hid ((KO.of_below BW.out).trans hk2);have z2':=hk2.size;obtain⟨w3,hw3⟩:∃w3,w2.alloc (jr c)=w3:=⟨_,rfl⟩;have B3:Below w2.heap.size w2 w3:=uO
 have z3:w3.heap.size=w2.heap.size+1:=by rw[← hw3]; simp
 have l3:w3.cell? ⟨w2.heap.size,0,none⟩=some (.int .u8 c):=wV;have q0:=(B3.block w.heap.size ae).trans y0;have q1:=(B3.block (w.heap.size+1) ae).trans y1;obtain⟨b0,b1,b2,_,_,_⟩:=aB q0;have R3:=hid (hr2.later B3)
 have HO2:=hid (fun(v0:Int)=>tY R A (ds++[c]) rs1 v0 189 #[] (fun v=>∃b,v=bit b) w3.drew (R3.out.later (Below.refl _ _).drew) (fun _ _=>rfl) (fun x W _ _ _=>L8 x _ W))
 have HF:=hid (Jk false);have K3:=hid (K2.out.trans (KO.of_below B3));have HR1:=hid hrs1;have zw:w.heap.size+1<w2.heap.size:=ae;have HZ3:=hid z3;clear hk2 H1 x0 x1 a0 a1 a2 y0 y1 B3 HW hr2 hrs1 z0 z3 z2';go_wp2_with fail
 refine wp_region_held_drew (S:=fun W=>W.cell? ⟨w.heap.size,1,none⟩=some (.bool false)) ai b1 (fun hHeld=>?_)
 refine tkC (i:=0) rfl ?_;(try simp only[Act.put,sIB]);refine tkC (i:=1) rfl ?_;(try simp only[Act.put]);refine tkC (i:=2) rfl ?_;(try simp only[Act.put]);refine tkC (i:=4) rfl ?_;(try simp only[Act.put]);refine tkC (i:=5) rfl ?_;(try simp only[Act.put]);refine tkC (i:=6) rfl ?_;(try simp only[Act.put]);refine rdY (rs:=[3]) ?_
 refine AllReadyH.cons rfl (fun K hK=>?_) rN
 go_simp;refine(HF.out _).mono ?_;rintro e w4⟨rfl,rfl⟩
 refine hK.out _ _ b1 (fun _=>?_)
 clear hK K;refine rdY (rs:=[7]) ?_
 refine AllReadyH.cons rfl (fun K hK=>?_) rN
 go_simp;refine(HO2.out _).mono ?_;clear HO2 hHeld
 rintro e w5 (⟨⟨y,p,hy,rfl⟩,hk⟩ | ⟨x,rfl,-,-,⟨mu,rfl⟩,rs2,hrs2,hr5,hk5⟩)
 ·exact⟨rfl,.inl ⟨⟨y,p,hy,rfl⟩,(K3.out.trans (KO.of_below (Below.refl _ _).drew)).trans hk⟩⟩
 have hz3:=HZ3.out;have hdz:w3.drew.heap.size=w3.heap.size:=rfl;have f0:=(KO.block hk5 (b:=w.heap.size) ae ae).trans q0;have f1:=(KO.block hk5 (b:=w.heap.size+1) ae ae).trans q1;have f2:=KO.cell hk5 (b:=w2.heap.size) (o:=0) l3 ae;obtain⟨d0,d1,d2,_,_,_⟩:=aB f0;have hz5:=hk5.size
 refine hK.out _ _ d1 (fun _=>?_)
 clear hK K;refine rdY (rs:=[8]) ?_
 refine AllReadyH.cons rfl (fun K hK=>?_) rN
 go_simp
 refine hK.out _ _ d1 (fun _=>?_)
 clear hK K;refine wpAnyH_done ai ?_ _;have R5:=hid hr5;have K5:=hid ((K3.out.trans (KO.of_below (Below.refl _ _).drew)).trans hk5);have HR2:=hid hrs2;have zw5:w2.heap.size<w5.heap.size:=ae;clear hr5 hk5 hrs2 q0 q1 b0 b1 b2 l3 hno hmo hco HZ3 hz3 hdz hz5 K3 R3 K2;generalize w2.heap.size=L at *
 have HWS:=hid (fun W=>lR 0 0 false W aj aj)
 have HSG:=hid (fun(W:World)(hW:Below w5.heap.size w5 W) (v0:Int)=>Fl R A (ds++[c]++[bit mu]) rs2 v0 191 #[.pointer (some ⟨L,0,none⟩)] (fun s=>c=119→-2147483648≤s∧s<2147483648) W (R5.out.later hW) (fun _ _=>rfl) (fun x W' x0 x1 hk=>NW L c x _ W' x0 x1 (hk.cell (az hW f2) ae)))
 have F1:=hid f1;go_wp2_with fail
 refine wp_region_held_drew (S:=fun W=>W.cell? ⟨w.heap.size,0,none⟩=some (.int .u8 0)∧W.cell? ⟨w.heap.size,1,none⟩=some (.bool false)∧W.cell? ⟨w.heap.size,2,none⟩=some (.int .u64 0)) ai ⟨d0,d1,d2⟩ (fun hHeld=>?_)
 refine tkC (i:=0) rfl ?_;(try simp only[Act.put,sIB]);refine tkC (i:=1) rfl ?_;(try simp only[Act.put]);refine tkC (i:=3) rfl ?_;(try simp only[Act.put]);refine tkC (i:=4) rfl ?_;(try simp only[Act.put]);refine tkC (i:=5) rfl ?_;(try simp only[Act.put]);refine tkC (i:=6) rfl ?_;(try simp only[Act.put]);refine rdY (rs:=[2]) ?_
 refine AllReadyH.cons rfl (fun K hK=>?_) rN
 go_simp;refine(HWS.out _).mono ?_;rintro e w6⟨rfl,hb6'⟩;have hb6:Below w5.heap.size w5 w6:=Below.trans ((Below.refl w5.heap.size w5).drew) hb6';have g0:=az hb6 d0;have g1:=az hb6 d1;have g2:=az hb6 d2
 refine hK.out _ _ ⟨g0,g1,g2⟩ (fun _=>?_)
 clear hK K hb6';refine rdY (rs:=[7]) ?_
 refine AllReadyH.cons rfl (fun K hK=>?_) rN
 go_simp;refine(HSG.out _ hb6 _).mono ?_
 rintro e w7 (⟨⟨y,p,hy,rfl⟩,hk⟩ | ⟨s,rfl,s0,s1,hs,rs3,hrs3,hr7,hk7⟩)
 ·exact⟨rfl,.inl ⟨⟨y,p,hy,rfl⟩,(K5.out.trans (KO.of_below hb6)).trans hk⟩⟩
 have hz6:=hb6.size;have t0:=KO.cell hk7 g0 ae;have t1:=KO.cell hk7 g1 ae;have t2:=KO.cell hk7 g2 ae
 refine hK.out _ _ ⟨t0,t1,t2⟩ (fun _=>?_)
 clear hK K;refine rdY (rs:=[8]) ?_
 refine AllReadyH.cons rfl (fun K hK=>?_) rN
 go_simp
 refine hK.out _ _ ⟨t0,t1,t2⟩ (fun _=>?_)
 clear hK K;refine wpAnyH_done ai ?_ _;have e1:=(KO.block hk7 (b:=w.heap.size+1) ae ae).trans (au hb6 F1.out);have e2:=KO.cell hk7 (az hb6 f2) ae;have R7:=hid hr7;have K7:=hid ((K5.out.trans (KO.of_below hb6)).trans hk7);have HR3:=hid hrs3;obtain⟨u,u0,u1,rfl,u2⟩:=JX c s s0 s1 hs;obtain⟨k0,k1,k2,k3,k4,k5⟩:=aB e1;have hlt6:=block_lt_of_cell e2;have hlt7:=block_lt_of_cell k0;have HFT:=hid Bg
 have HWO:=hid (fun W=>lN c u W u0 u1 u2)
 have hbb:=yN mu;have HU:=hid u2;clear u2 hs s0 s1 hr7 hk7 hrs3 hb6 hz6 t0 t1 t2 g0 g1 g2 d0 d1 d2 f0 f1 f2 HSG HWS hns hms hcs e1 F1 hHeld;go_wp2_with fail
 go_region_held3 (fun W=>W.cell? ⟨L,0,none⟩=some (.int .u8 c)) (first | assumption | (simp[go_sem]; assumption) | (rw[World.cell?_setCell_other _ _ _ _ aI,World.cell?_setCell_other _ _ _ _ aI,World.cell?_setCell_other _ _ _ _ aI]; assumption)) (first
  | (go_at_call 188; refine(HFT.out _).mono ?_; rintro e w' ⟨rfl,rfl⟩)
  | (go_at_call 192; refine(HWO.out _).mono ?_; rintro e w' ⟨rfl,rfl⟩))
 all_goals
  go_wp2_with fail;refine bodyPost_ret (v:=.agg #[.int .u8 c,.bool mu,.int .u64 u]) ?_ rfl (.inr ⟨(c,mu,u),rfl,?_,c0,c1,u0,u1,rs3,?_,?_,?_⟩)
  ·exact cu
  ·unfold gH
   rw[if_neg (by simp[hl]),if_neg ?_]
   have h2:=HU.out;unfold isL at hl;unfold gy
   simp only[Bool.or_eq_true,decide_eq_true_eq]at hl
   simp
   omega
  ·rw[HR1.out,HR2.out,HR3.out]; simp[cT,bit]
  ·have:=(((R7.out.set (b:=w.heap.size+1) (o:=0) (v:=.int .u8 c) ae).set (b:=w.heap.size+1) (o:=1) (v:=.bool mu) ae).set (b:=w.heap.size+1) (o:=2) (v:=.int .u64 u) ae).later (Below.refl _ _).drew
   simpa[cT,bit,List.append_assoc] using this
  ·exact(KO.set (KO.set (KO.set K7.out ae) ae) ae).trans (KO.of_below ((Below.refl _ _).drew))
def kP(Q:Nat→Prop)(w:World)(e:Ending)(w':World):Prop:=(∃x p,x≠0∧e=thr x p)∧Kept Q w w'
def gM(Q:Nat→Prop)(R:Nat)(A:Option Addr×Nat×Nat)(ds rs new:List Int)(w w':World):Prop:=∃rs',rs=new++rs'∧Rr w' R A (ds++new) rs'∧Kept Q w w'
theorem kP.of{R:Nat}{w w':World}{e:Ending}(h:kP (fun k=>k=R) w e w'):Bad R w e w':=h
theorem gM.of{R:Nat}{A:Option Addr×Nat×Nat}{ds rs new:List Int}{w w':World}(h:gM (fun k=>k=R) R A ds rs new w w'):fE R A ds rs new w w':=h
structure Ow(α:Type) where
 own:World→α→Prop
 blk:α→Nat→Prop
 kp:∀y w w' (S:Nat→Prop),own w y→Kept S w w'→(∀b,blk y b→¬S b)→own w' y
 lt:∀y w b,own w y→blk y b→b<w.heap.size
structure Iv(Q:Nat→Prop)(R:Nat)(w:World)(α:Type) where
 inv:World→List α→Prop
 i0:∀W,Kept (fun k=>k=R) w W→inv W []
 ik:∀W W' ys,inv W ys→(∀k,Q k→k≠R→W'.heap[k]? =W.heap[k]?)→inv W' ys
theorem y9{α:Type}(f:List α→α→Int)(ys:List α)(y:α)(h:aU f [] ys=0)(hy:f ys y=0):aU f [] (ys++[y])=0:=by
 rw[mG,h]
 simp[orE,aU,hy]
theorem JY(O:Ow Sg)(Q:Nat→Prop)(f:List Sg→Sg→Int)(enc:Sg→List Int)(R:Nat)(A:Option Addr×Nat×Nat)(ds rs:List Int)(most:Int)(K:Nat)(cs:Array Value)(w:World)(I:Iv Q R w Sg)(h:Rr w R A ds rs)(hQ:Q R)(hQl:∀k,Q k→k<w.heap.size)(hQA:∀b off c,A.1=some ⟨b,off,c⟩→¬Q b)(hm:most≤100000)
  (hK:∀args w,(callFunc K args).run Tryz.prog w=.ok (.enter K args) w)
  (heach:∀(W:World)(ys:List Sg)(aa:Option Addr)(j ac:Nat)(ds' rs':List Int),Kept Q w W→Rr W R A ds' rs'→ys.length=j→(j:Int)<most→aU f [] ys=0→W.ownsRow 0 73 2 (.slice aa j ac) j (ys.flatMap eP)→(∀b,aa=some b→w.heap.size≤b.block)→(∀y∈ys,O.own W y)→I.inv W ys →
   Calls Tryz.prog K (#[.agg #[.string ⟨#[]⟩,.string ⟨#[]⟩],.slice aa j ac]++cs) W fun e w'=>kP Q W e w'∨∃y:Sg,e=.returned (.agg #[.string y.1,.string y.2])∧f ys y=0∧O.own w' y∧(∀b,O.blk y b→W.heap.size≤b)∧I.inv w' (ys++[y])∧gM Q R A ds' rs' (enc y) W w') :
  Calls Tryz.prog 131 #[cR R,.slice none 0 0,.int .i64 most,.func (.func K) #[] cs] w fun e w'=>kP Q w e w'∨∃(ys:List Sg)(aa:Option Addr)(n ac:Nat),e=.returned (.slice aa n ac)∧ys.length=n∧(n:Int)≤most∧aU f [] ys=0∧w'.ownsRow 0 73 2 (.slice aa n ac) n (ys.flatMap eP)∧(∀b,aa=some b→w.heap.size≤b.block)∧(∀y∈ys,O.own w' y∧∀b,O.blk y b→w.heap.size≤b)∧gM Q R A ds rs (ax n++ys.flatMap enc) w w':=by
 have hmc:=fw;have hcc:=iL;have HC:=hid (iH R A ds rs 0 most w h ae);have hRl:=h.lt;have HE:=hid heach;have HQ:=hid hQ;have HQL:=hid hQl;have HQA:=hid hQA;have HI0:=hid I.i0;have HIK:=hid I.ik;obtain⟨i0,hi,hz0,hz1,hz2⟩:=KD;clear h heach hQ hQl hQA
 go_enter Tryz.func131,Tryz.ntmps131
 go_wp2_with fail;refine HC.out.mono ?_
 rintro e w2 (⟨⟨y,p,hy,rfl⟩,hk⟩ | ⟨n,rfl,hn,rs1,hrs,hr2,hk2⟩)
 ·exact jN
 have R2:=hid hr2
 have K2:=hid (Kept.mono (T:=Q) hk2 (fun k hk=>lL))
 have II:=hid (HI0.out w2 hk2);have HRS:=hid hrs;clear hr2 hk2 HC hmc hcc hrs HI0;go_wp2_with fail
 go_loopw [9,17] (fun o i wr=>∃(j:Nat)(ys:List Sg)(aa:Option Addr)(ac:Nat)(rs2:List Int),j≤n∧i=.int .i64 j∧o=.slice aa j ac∧ys.length=j∧aU f [] ys=0∧wr.ownsRow 0 73 2 (.slice aa j ac) j (ys.flatMap eP)∧(∀b,aa=some b→w.heap.size≤b.block) ∧
   (∀y∈ys,O.own wr y∧∀b,O.blk y b→w.heap.size≤b∧∀a,aa=some a→b≠a.block)∧I.inv wr ys∧rs1=ys.flatMap enc++rs2∧Rr wr R A (ds++ax n++ys.flatMap enc) rs2∧Kept Q w wr) (fun _ i _=>n-(intOf i).toNat)
 case atStart=>exact⟨0,[],none,0,rs1,ae,rfl,rfl,rfl,rfl,World.ownsRow_nil _ _ _ _,(fun b h=>cj),(fun y hy=>jy),II.out,ar,nj,K2.out⟩
 case round =>
  obtain⟨j,ys,aa,ac,rs2,hj,rfl,rfl,hyl,hfe,hrow,hab,hown,hinv,hrs2,hrr,hkk⟩:=hrel;have HF:=hid hfe;have HRW:=hid hrow;have HAB:=hid hab;have HOW:=hid hown;have HIV:=hid hinv;have HRS2:=hid hrs2;have HRR:=hid hrr;have HKK:=hid hkk;clear hfe hrow hab hown hinv hrs2 hrr hkk R2 K2 II;have hj0:decide ((j:Int)<0)=false:=ar
  by_cases hlt:j<n
  ·have BN:=hid (ag wr (aX ⟨#[]⟩ ⟨#[]⟩));have hjm:(j:Int)<most:=ae
   have BK:=hid (show Kept (fun _=>False) wr (wr.alloc (aX ⟨#[]⟩ ⟨#[]⟩)) from aN BN.out)
   have HC1:=hid (HE.out (wr.alloc (aX ⟨#[]⟩ ⟨#[]⟩)) ys aa j ac _ rs2 (HKK.out.trans (aN BN.out)) (HRR.out.later BN.out) hyl hjm HF.out (aA HRW.out (fun B hB=>BN.out.block B (ay HRW.out hB))) HAB.out (fun y hy=>O.kp y _ _ _ (HOW.out y hy).1 BK.out (fun _ _=>id)) (HIK.out _ _ _ HIV.out (fun k hk hne=>BN.out.block k (Nat.lt_of_lt_of_le (HQL.out k hk) HKK.out.size))))
   have hszW:=BN.out.size;clear hjm;go_wp2_with fail;generalize wr.alloc (aX ⟨#[]⟩ ⟨#[]⟩)=W at *;refine HC1.out.mono ?_
   rintro e w5 (⟨⟨y,p,hy,rfl⟩,hk5⟩ | ⟨y,rfl,hfy,hoy,hby,hiv5,rs3,hrs3,hr5,hk5⟩)
   ·exact jY
   have hsz5:=hk5.size;have hwsz:=HKK.out.size
   have hqa:∀b,aa=some b→¬Q b.block:=fun b hb hq=>by
    exact kH
   have row5:w5.ownsRow 0 73 2 (.slice aa j ac) j (ys.flatMap eP):=aA HRW.out (fun B hB=>by
    have h1:=ay HRW.out hB;obtain⟨a,ha1,ha2⟩:=dF hB;exact(hk5.block B ae nr).trans (BN.out.block B h1))
   have halt:∀b,aa=some b→b.block<wr.heap.size:=fun a ha1=>ay HRW.out (dM HRW.out ha1)
   have own5:∀y'∈ys++[y],O.own w5 y'∧∀b,O.blk y' b→w.heap.size≤b∧∀a,aa=some a→b≠a.block:=by
    exact nG
   have W5:=hid hr5;have K5:=hid ((HKK.out.trans (aN BN.out)).trans hk5);have BN5:=hid (ag w5 (aX y.1 y.2))
   have R6:=hid (aA (w':=w5.alloc (aX y.1 y.2)) row5 (fun B hB=>BN5.out.block B (ay row5 hB)))
   have NC:=hid (oD w5 y)
   have hz6:=hid (show(w5.alloc (aX y.1 y.2)).heap.size=w5.heap.size+1 by simp)
   have HFY:=hid hfy;have HO5:=hid own5;have HI5:=hid hiv5;have HR3:=hid hrs3;have HAL:=hid halt;clear hr5 hk5 row5 HC1 hfy own5 hiv5 hrs3 hoy hby hqa halt
   go_wp2_with (at_builtin; (refine eD _ rfl (.tmp 28) (.tmp 33) 22 rfl 73 i0 _ 2 32 Tryz.underlying22 hi hz0 hz1 hz2 rfl aj _ j _ rfl R6.out ⟨w5.heap.size,0,none⟩ 1 1 (eP y) rfl rfl NC.out (oL y) ae bV ae ?_; intro B cap7 w7 hrow7 hor7; have R7:=hid hrow7; have OR7:=hid hor7; clear hrow7 hor7))
   generalize w5.alloc (aX y.1 y.2)=W6 at *;exact mZ
  ·exact ny
end Go.Proofs.YtheefojaplnnoaaGreatDoor

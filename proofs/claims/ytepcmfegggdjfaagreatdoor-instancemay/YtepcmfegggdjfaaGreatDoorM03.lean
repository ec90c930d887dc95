/-
  Texts Wc Wh Lin Lfu Feed Pieces Shelf Lib Split Word Kinds mr Ref Of.
-/
import Derived.Test.YtepcmfegggdjfaaGreatDoorProg
import Derived.Test.YtepcmfegggdjfaaGreatDoorM00
import Derived.Test.YtepcmfegggdjfaaGreatDoorM01
import Derived.Test.YtepcmfegggdjfaaGreatDoorM02
set_option linter.unusedVariables false
set_option maxRecDepth 100000
set_option maxHeartbeats 16000000
namespace Go.Proofs.YtepcmfegggdjfaaGreatDoor
open Go.Proofs.Tryz
open Go.RowKit
theorem im(w:World)(a b:Obj):Below w.heap.size w ((w.alloc a).alloc b)/\((w.alloc a).alloc b).heap.size=w.heap.size+1+1/\((w.alloc a).alloc b).heap[w.heap.size]? =some a/\((w.alloc a).alloc b).heap[w.heap.size+1]? =some b:=by
 refine⟨((Below.refl _ w).alloc lRn _).alloc aw _,aw,?_,?_⟩
 ·rw[(aj (w.alloc a) b).block _ aw];exact(MapKept.heap_alloc w a).1
 have:=(MapKept.heap_alloc (w.alloc a) b).1;exact cF
theorem CK(R g cap:Nat)(bs:LIz)(x:(ByteArray×ByteArray))(aa:OAz)(an ac:Nat)(A:Nat)(w:World)(h:Wr w R g cap bs)(hA:w.cell? ⟨A,0,none⟩=some (cW R))
  (P:(ByteArray×ByteArray)->Prop) (new:LIz) (hcall:∀W,Below w.heap.size w W->Calls prog 101 #[cW R,.agg #[.string x.1,.string x.2],.slice aa an ac] W (fun e w'=>∃y:(ByteArray×ByteArray),e=.returned (.agg #[.string y.1,.string y.2])/\P y/\∃g' cap',Wr w' R g' cap' new/\Stp R g g' W w')) :
  Calls prog 100 #[.agg #[.string x.1,.string x.2],.slice aa an ac,.pointer (some ⟨A,0,none⟩)] w (fun e w'=>∃y:(ByteArray×ByteArray),e=.returned (.agg #[.string y.1,.string y.2])/\P y/\∃g' cap',Wr w' R g' cap' new/\Stp R g g' w w'):=by
 obtain⟨B0,z0,x0,x1⟩:=im w (aD x.1 x.2) (aD ⟨#[]⟩ ⟨#[]⟩);have hRl:=h.lt;have hgl:=h.g_lt;have hA1:=(B0.cell iA).trans hA;have HC:=hid (hcall _ B0);obtain⟨W1,hW1⟩:∃W1,(w.alloc (aD x.1 x.2)).alloc (aD ⟨#[]⟩ ⟨#[]⟩)=W1:=⟨_,rfl⟩;rw[hW1]at B0 z0 x0 x1 hA1 HC;have BW:=hid B0;obtain⟨a0,a1,_,_⟩:=cE x0;clear h B0 hA hcall;go_enter func100,ntmps100
 go_wp2_with fail;refine HC.out.mono ?_;rintro e w5⟨y,rfl,hP,g',cap',hw5,hs5⟩;have q1:=(hs5.block (b:=w.heap.size+1) ae ae ae).trans x1;have n1:w.heap.size+1≠g':=hs5.ne ae ae;obtain⟨k0,k1,k2,k3⟩:=cE q1;have hl1:=block_lt_of_cell k0;have W5:=hid hw5;have S5:=hid ((Stp.of_below BW.out).trans hs5);clear hw5 hs5 x0 x1 q1 HC;go_wp2_with fail;refine bodyPost_ret (v:=.agg #[.string y.1,.string y.2]) ?_ rfl ⟨y,rfl,hP,g',cap',?_,?_⟩
 ·exact dF
 ·exact xu
 exact uM
theorem Hp(R g cap:Nat)(bs:LIz)(x:(ByteArray×ByteArray))(aa:OAz)(an ac:Nat)(A:Nat)(w:World)(h:Wr w R g cap bs)(hA:w.cell? ⟨A,0,none⟩=some (cW R))
  (er:Int) (hcall:∀W,Below w.heap.size w W->Calls prog 101 #[cW R,.agg #[.string x.1,.string x.2],.slice aa an ac] W (bo R g er W)) :
  Calls prog 100 #[.agg #[.string x.1,.string x.2],.slice aa an ac,.pointer (some ⟨A,0,none⟩)] w (bo R g er w):=by
 obtain⟨B0,z0,x0,x1⟩:=im w (aD x.1 x.2) (aD ⟨#[]⟩ ⟨#[]⟩);have hRl:=h.lt;have hgl:=h.g_lt;have hA1:=(B0.cell iA).trans hA;have HC:=hid (hcall _ B0);obtain⟨W1,hW1⟩:∃W1,(w.alloc (aD x.1 x.2)).alloc (aD ⟨#[]⟩ ⟨#[]⟩)=W1:=⟨_,rfl⟩;rw[hW1]at B0 z0 x0 x1 hA1 HC;have BW:=hid B0;obtain⟨a0,a1,_,_⟩:=cE x0;clear h B0 hA hcall;go_enter func100,ntmps100;exact nQ
theorem Bt(R g cap:Nat)(bs:LIz)(x:(Int×Bool×Int))(aa:OAz)(an ac:Nat)(A:Nat)(w:World)(h:Wr w R g cap bs)(hA:w.cell? ⟨A,0,none⟩=some (cW R))
  (P:(Int×Bool×Int)->Prop) (new:LIz) (hcall:∀W,Below w.heap.size w W->Calls prog 107 #[cW R,.agg #[.int .u8 x.1,.bool x.2.1,.int .u64 x.2.2]] W (fun e w'=>∃y:(Int×Bool×Int),e=.returned (.agg #[.int .u8 y.1,.bool y.2.1,.int .u64 y.2.2])/\P y/\∃g' cap',Wr w' R g' cap' new/\Stp R g g' W w')) :
  Calls prog 106 #[.agg #[.int .u8 x.1,.bool x.2.1,.int .u64 x.2.2],.slice aa an ac,.pointer (some ⟨A,0,none⟩)] w (fun e w'=>∃y:(Int×Bool×Int),e=.returned (.agg #[.int .u8 y.1,.bool y.2.1,.int .u64 y.2.2])/\P y/\∃g' cap',Wr w' R g' cap' new/\Stp R g g' w w'):=by
 obtain⟨B0,z0,x0,x1⟩:=im w (aZ x.1 x.2.1 x.2.2) (aZ 0 false 0);have hRl:=h.lt;have hgl:=h.g_lt;have hA1:=(B0.cell iA).trans hA;have HC:=hid (hcall _ B0);obtain⟨W1,hW1⟩:∃W1,(w.alloc (aZ x.1 x.2.1 x.2.2)).alloc (aZ 0 false 0)=W1:=⟨_,rfl⟩;rw[hW1]at B0 z0 x0 x1 hA1 HC;have BW:=hid B0;obtain⟨a0,a1,a2,_,_,_⟩:=aS x0;clear h B0 hA hcall;go_enter func106,ntmps106
 go_wp2_with fail;refine HC.out.mono ?_;rintro e w5⟨y,rfl,hP,g',cap',hw5,hs5⟩;have q1:=(hs5.block (b:=w.heap.size+1) ae ae ae).trans x1;have n1:w.heap.size+1≠g':=hs5.ne ae ae;obtain⟨k0,k1,k2,k3,k4,k5⟩:=aS q1;have hl1:=block_lt_of_cell k0;have W5:=hid hw5;have S5:=hid ((Stp.of_below BW.out).trans hs5);clear hw5 hs5 x0 x1 q1 HC;go_wp2_with fail;refine bodyPost_ret (v:=.agg #[.int .u8 y.1,.bool y.2.1,.int .u64 y.2.2]) ?_ rfl ⟨y,rfl,hP,g',cap',?_,?_⟩
 ·exact dF
 ·exact(((W5.out.set (b:=w.heap.size+1) ae n1).set (b:=w.heap.size+1) ae n1).set (b:=w.heap.size+1) ae n1)
 exact(((S5.out.set ae).set ae).set ae)
theorem IR(R g cap:Nat)(bs:LIz)(x:(Int×Bool×Int))(aa:OAz)(an ac:Nat)(A:Nat)(w:World)(h:Wr w R g cap bs)(hA:w.cell? ⟨A,0,none⟩=some (cW R))
  (er:Int) (hcall:∀W,Below w.heap.size w W->Calls prog 107 #[cW R,.agg #[.int .u8 x.1,.bool x.2.1,.int .u64 x.2.2]] W (bo R g er W)) :
  Calls prog 106 #[.agg #[.int .u8 x.1,.bool x.2.1,.int .u64 x.2.2],.slice aa an ac,.pointer (some ⟨A,0,none⟩)] w (bo R g er w):=by
 obtain⟨B0,z0,x0,x1⟩:=im w (aZ x.1 x.2.1 x.2.2) (aZ 0 false 0);have hRl:=h.lt;have hgl:=h.g_lt;have hA1:=(B0.cell iA).trans hA;have HC:=hid (hcall _ B0);obtain⟨W1,hW1⟩:∃W1,(w.alloc (aZ x.1 x.2.1 x.2.2)).alloc (aZ 0 false 0)=W1:=⟨_,rfl⟩;rw[hW1]at B0 z0 x0 x1 hA1 HC;have BW:=hid B0;obtain⟨a0,a1,a2,_,_,_⟩:=aS x0;clear h B0 hA hcall;go_enter func106,ntmps106;exact nQ
theorem Ct(R g cap:Nat)(bs:LIz)(x:(Int×(Option Addr×Nat×Nat)×List Int))(aa:OAz)(an ac:Nat)(A:Nat)(O:Nat)(fi:Int)(w:World)(h:Wr w R g cap bs)(hA:w.cell? ⟨A,0,none⟩=some (cW R))(hO:w.cell? ⟨O,3,none⟩=some (.int .i64 fi))(hf0:0<=fi)(hf1:fi<=64)
  (P:(Int×(Option Addr×Nat×Nat))->Prop) (new:LIz) (hcall:∀W,Below w.heap.size w W->Calls prog 114 #[cW R,.agg #[.int .i64 x.1,.slice x.2.1.1 x.2.1.2.1 x.2.1.2.2],.slice aa an ac,.int .i64 (fi*4096)] W (fun e w'=>∃y:(Int×(Option Addr×Nat×Nat)),e=.returned (.agg #[.int .i64 y.1,.slice y.2.1 y.2.2.1 y.2.2.2])/\P y/\∃g' cap',Wr w' R g' cap' new/\Stp R g g' W w')) :
  Calls prog 113 #[.agg #[.int .i64 x.1,.slice x.2.1.1 x.2.1.2.1 x.2.1.2.2],.slice aa an ac,.pointer (some ⟨A,0,none⟩),.pointer (some ⟨O,0,none⟩)] w (fun e w'=>∃y:(Int×(Option Addr×Nat×Nat)),e=.returned (.agg #[.int .i64 y.1,.slice y.2.1 y.2.2.1 y.2.2.2])/\P y/\∃g' cap',Wr w' R g' cap' new/\Stp R g g' w w'):=by
 obtain⟨B0,z0,x0,x1⟩:=im w (cG x.1 x.2.1.1 x.2.1.2.1 x.2.1.2.2) (cG 0 none 0 0);have hRl:=h.lt;have hgl:=h.g_lt;have hA1:=(B0.cell iA).trans hA;have hO1:=(B0.cell (p:=⟨O,3,none⟩) pj).trans hO;have hwf:wrap64 (fi*4096)=fi*4096:=eP;have HC:=hid (hcall _ B0);obtain⟨W1,hW1⟩:∃W1,(w.alloc (cG x.1 x.2.1.1 x.2.1.2.1 x.2.1.2.2)).alloc (cG 0 none 0 0)=W1:=⟨_,rfl⟩;rw[hW1]at B0 z0 x0 x1 hA1 HC hO1;have BW:=hid B0;obtain⟨a0,a1,_,_⟩:=cE x0;clear h B0 hA hcall;go_enter func113,ntmps113
 go_wp2_with fail;refine HC.out.mono ?_;rintro e w5⟨y,rfl,hP,g',cap',hw5,hs5⟩;have q1:=(hs5.block (b:=w.heap.size+1) ae ae ae).trans x1;have n1:w.heap.size+1≠g':=hs5.ne ae ae;obtain⟨k0,k1,k2,k3⟩:=cE q1;have hl1:=block_lt_of_cell k0;have W5:=hid hw5;have S5:=hid ((Stp.of_below BW.out).trans hs5);clear hw5 hs5 x0 x1 q1 HC;go_wp2_with fail;refine bodyPost_ret (v:=.agg #[.int .i64 y.1,.slice y.2.1 y.2.2.1 y.2.2.2]) ?_ rfl ⟨y,rfl,hP,g',cap',?_,?_⟩
 ·exact dF
 ·exact xu
 exact uM
theorem Iz(R g cap:Nat)(bs:LIz)(x:(Int×(Option Addr×Nat×Nat)×List Int))(aa:OAz)(an ac:Nat)(A:Nat)(O:Nat)(fi:Int)(w:World)(h:Wr w R g cap bs)(hA:w.cell? ⟨A,0,none⟩=some (cW R))(hO:w.cell? ⟨O,3,none⟩=some (.int .i64 fi))(hf0:0<=fi)(hf1:fi<=64)
  (er:Int) (hcall:∀W,Below w.heap.size w W->Calls prog 114 #[cW R,.agg #[.int .i64 x.1,.slice x.2.1.1 x.2.1.2.1 x.2.1.2.2],.slice aa an ac,.int .i64 (fi*4096)] W (bo R g er W)) :
  Calls prog 113 #[.agg #[.int .i64 x.1,.slice x.2.1.1 x.2.1.2.1 x.2.1.2.2],.slice aa an ac,.pointer (some ⟨A,0,none⟩),.pointer (some ⟨O,0,none⟩)] w (bo R g er w):=by
 obtain⟨B0,z0,x0,x1⟩:=im w (cG x.1 x.2.1.1 x.2.1.2.1 x.2.1.2.2) (cG 0 none 0 0);have hRl:=h.lt;have hgl:=h.g_lt;have hA1:=(B0.cell iA).trans hA;have hO1:=(B0.cell (p:=⟨O,3,none⟩) pj).trans hO;have hwf:wrap64 (fi*4096)=fi*4096:=eP;have HC:=hid (hcall _ B0);obtain⟨W1,hW1⟩:∃W1,(w.alloc (cG x.1 x.2.1.1 x.2.1.2.1 x.2.1.2.2)).alloc (cG 0 none 0 0)=W1:=⟨_,rfl⟩;rw[hW1]at B0 z0 x0 x1 hA1 HC hO1;have BW:=hid B0;obtain⟨a0,a1,_,_⟩:=cE x0;clear h B0 hA hcall;go_enter func113,ntmps113;exact nQ
theorem CQ(R g cap:Nat)(bs:LIz)(x:(ByteArray×Int))(aa:OAz)(an ac:Nat)(A:Nat)(O:Nat)(fa:OAz)(fn fc:Nat)(w:World)(h:Wr w R g cap bs)(hA:w.cell? ⟨A,0,none⟩=some (cW R))(hO:w.cell? ⟨O,5,none⟩=some (.slice fa fn fc))
  (P:(ByteArray×Int)->Prop) (new:LIz) (hcall:∀W,Below w.heap.size w W->Calls prog 117 #[cW R,.agg #[.string x.1,.int .i64 x.2],.slice aa an ac,.int .i64 fn] W (fun e w'=>∃y:(ByteArray×Int),e=.returned (.agg #[.string y.1,.int .i64 y.2])/\P y/\∃g' cap',Wr w' R g' cap' new/\Stp R g g' W w')) :
  Calls prog 116 #[.agg #[.string x.1,.int .i64 x.2],.slice aa an ac,.pointer (some ⟨A,0,none⟩),.pointer (some ⟨O,0,none⟩)] w (fun e w'=>∃y:(ByteArray×Int),e=.returned (.agg #[.string y.1,.int .i64 y.2])/\P y/\∃g' cap',Wr w' R g' cap' new/\Stp R g g' w w'):=by
 obtain⟨B0,z0,x0,x1⟩:=im w (di x.1 x.2) (di ⟨#[]⟩ 0);have hRl:=h.lt;have hgl:=h.g_lt;have hA1:=(B0.cell iA).trans hA;have hO1:=(B0.cell (p:=⟨O,5,none⟩) pj).trans hO;have HC:=hid (hcall _ B0);obtain⟨W1,hW1⟩:∃W1,(w.alloc (di x.1 x.2)).alloc (di ⟨#[]⟩ 0)=W1:=⟨_,rfl⟩;rw[hW1]at B0 z0 x0 x1 hA1 HC hO1;have BW:=hid B0;obtain⟨a0,a1,_,_⟩:=cE x0;clear h B0 hA hcall;go_enter func116,ntmps116
 go_wp2_with fail;refine HC.out.mono ?_;rintro e w5⟨y,rfl,hP,g',cap',hw5,hs5⟩;have q1:=(hs5.block (b:=w.heap.size+1) ae ae ae).trans x1;have n1:w.heap.size+1≠g':=hs5.ne ae ae;obtain⟨k0,k1,k2,k3⟩:=cE q1;have hl1:=block_lt_of_cell k0;have W5:=hid hw5;have S5:=hid ((Stp.of_below BW.out).trans hs5);clear hw5 hs5 x0 x1 q1 HC;go_wp2_with fail;refine bodyPost_ret (v:=.agg #[.string y.1,.int .i64 y.2]) ?_ rfl ⟨y,rfl,hP,g',cap',?_,?_⟩
 ·exact dF
 ·exact xu
 exact uM
theorem JU(R g cap:Nat)(bs:LIz)(x:(ByteArray×Int))(aa:OAz)(an ac:Nat)(A:Nat)(O:Nat)(fa:OAz)(fn fc:Nat)(w:World)(h:Wr w R g cap bs)(hA:w.cell? ⟨A,0,none⟩=some (cW R))(hO:w.cell? ⟨O,5,none⟩=some (.slice fa fn fc))
  (er:Int) (hcall:∀W,Below w.heap.size w W->Calls prog 117 #[cW R,.agg #[.string x.1,.int .i64 x.2],.slice aa an ac,.int .i64 fn] W (bo R g er W)) :
  Calls prog 116 #[.agg #[.string x.1,.int .i64 x.2],.slice aa an ac,.pointer (some ⟨A,0,none⟩),.pointer (some ⟨O,0,none⟩)] w (bo R g er w):=by
 obtain⟨B0,z0,x0,x1⟩:=im w (di x.1 x.2) (di ⟨#[]⟩ 0);have hRl:=h.lt;have hgl:=h.g_lt;have hA1:=(B0.cell iA).trans hA;have hO1:=(B0.cell (p:=⟨O,5,none⟩) pj).trans hO;have HC:=hid (hcall _ B0);obtain⟨W1,hW1⟩:∃W1,(w.alloc (di x.1 x.2)).alloc (di ⟨#[]⟩ 0)=W1:=⟨_,rfl⟩;rw[hW1]at B0 z0 x0 x1 hA1 HC hO1;have BW:=hid B0;obtain⟨a0,a1,_,_⟩:=cE x0;clear h B0 hA hcall;go_enter func116,ntmps116;exact nQ
theorem AL(R g cap:Nat)(bs:LIz)(x:Int)(aa:OAz)(an ac:Nat)(A O:Nat)(ta:OAz)(tn tc:Nat)(w:World)(h:Wr w R g cap bs)(hb:bs.length+10<=1099511627776)(hA:w.cell? ⟨A,0,none⟩=some (cW R))(hO:w.cell? ⟨O,0,none⟩=some (.slice ta tn tc))(h0:0<=x)(h1:x<tn)(h2:tn<=100000) :
  Calls prog 103 #[.int .i64 x,.slice aa an ac,.pointer (some ⟨A,0,none⟩),.pointer (some ⟨O,0,none⟩)] w (pH R g bs (ay x) (.int .i64 x) w):=by
 have HX:=hid (gN R g cap bs x tn w h hb h0 h1 ae);clear h;go_enter func103,ntmps103
 go_wp2_with fail;refine HX.out.mono ?_;rintro e w1⟨rfl,g',cap',hw1,hs1⟩;have W1:=hid hw1;have S1:=hid hs1;clear hw1 hs1 HX hA hO;go_wp2_with fail;go_ret;exact⟨rfl,g',cap',W1.out,S1.out⟩
theorem IG(R g cap:Nat)(bs:LIz)(x:Int)(aa:OAz)(an ac:Nat)(A O:Nat)(ta:OAz)(tn tc:Nat)(w:World)(h:Wr w R g cap bs)(hA:w.cell? ⟨A,0,none⟩=some (cW R))(hO:w.cell? ⟨O,0,none⟩=some (.slice ta tn tc))(h0:-9223372036854775808<=x)(h1:x<9223372036854775808)(hx:x<0\/(tn:Int)<=x)(h2:tn<=100000) :
  Calls prog 103 #[.int .i64 x,.slice aa an ac,.pointer (some ⟨A,0,none⟩),.pointer (some ⟨O,0,none⟩)] w (bo R g 30 w):=by
 have HX:=hid (ly R g cap bs x tn w h h0 h1 hx ae ae);clear h;go_enter func103,ntmps103
 go_wp2_with fail;refine HX.out.mono ?_;rintro e w1⟨⟨q,rfl⟩,hk⟩;exact⟨rfl,⟨q,rfl⟩,hk⟩
theorem Dx(R g cap:Nat)(bs:LIz)(c v:Int)(mu:Bool)(w:World)(h:Wr w R g cap bs)(hl:isL c=false) :
  Calls prog 107 #[cW R,.agg #[.int .u8 c,.bool mu,.int .u64 v]] w (bo R g 15 w):=by
 have hmo:=m8;have hco:=tW;obtain⟨B0,z0,x0,x1⟩:=mQ w c v mu;have HW:(w.alloc (aZ c mu v)).alloc (aZ 0 false 0)=sk w c v mu:=rfl;generalize sk w c v mu=W1 at *;have H1:=hid (ze R g cap bs c 134 #[] 15 W1 (h.later B0) (fun _ _=>rfl) (IZ c _ W1 hl));have BW:=hid B0;obtain⟨a0,a1,a2,_,_,_⟩:=aS x0;clear h B0;go_enter func107,ntmps107
 go_wp2_with fail;refine H1.out.mono ?_;rintro e w2⟨⟨p,rfl⟩,hk⟩;exact⟨rfl,⟨p,rfl⟩,(aP BW.out).trans hk⟩
theorem AQ(R g cap:Nat)(bs:LIz)(v:Int)(mu:Bool)(w:World)(h:Wr w R g cap bs)(hb:bs.length+100<=1099511627776)(v0:0<=v)(v1:v<18446744073709551616)(hv:¬v<4294967296) :
  Calls prog 107 #[cW R,.agg #[.int .u8 119,.bool mu,.int .u64 v]] w (bo R g 17 w):=by
 have hmo:=m8;have hco:=tW;have hms:=pX;have hcs:=Ar;have hno:=uJ;have hns:=tA;obtain⟨B0,z0,x0,x1⟩:=mQ w 119 v mu;have HW:(w.alloc (aZ 119 mu v)).alloc (aZ 0 false 0)=sk w 119 v mu:=rfl;have hRl:=h.lt;have hgl:=h.g_lt;generalize sk w 119 v mu=W1 at *;have H1:=hid (iJ R g cap bs 119 134 #[] W1 (h.later B0) aA aA ae (fun _ _=>rfl) (tG 119 _ W1 rfl));have BW:=hid B0;obtain⟨a0,a1,a2,_,_,_⟩:=aS x0;clear h B0;go_enter func107,ntmps107
 go_wp2_with fail;refine H1.out.mono ?_;rintro e w2⟨rfl,g1,cap1,hw2,hs2⟩;have y0:=(hs2.block (b:=w.heap.size) ae ae ae).trans x0;have y1:=(hs2.block (b:=w.heap.size+1) ae ae ae).trans x1;have n0:w.heap.size≠g1:=hs2.ne ae ae;have n1:w.heap.size+1≠g1:=hs2.ne ae ae;have S2:=hid ((Stp.of_below BW.out).trans hs2);have z2:=S2.out.size;have z2':=hs2.size;have gl2:=hw2.g_lt;obtain⟨w3,hw3⟩:∃w3,w2.alloc (ei 119)=w3:=⟨_,rfl⟩
 have B3:Below w2.heap.size w2 w3:=by rw[<- hw3]; exact aj _ _
 have z3:w3.heap.size=w2.heap.size+1:=by rw[<- hw3]; simp
 have l3:w3.cell? ⟨w2.heap.size,0,none⟩=some (.int .u8 119):=by rw[<- hw3]; exact gK _ _ _
 have q0:=(B3.block w.heap.size ae).trans y0;have q1:=(B3.block (w.heap.size+1) ae).trans y1;obtain⟨b0,b1,b2,_,_,_⟩:=aS q0;have HO2:=hid (iJ R g1 cap1 (bs++[119]) (bit mu) 136 #[] w3.drew ((hw2.later B3).later (Below.refl _ _).drew) (l8 mu).1 (l8 mu).2 aK (fun _ _=>rfl) (L4 mu _ w3.drew));have HF:=hid (QT mu);have BB3:=hid B3;clear hs2 hw2 H1 x0 x1 a0 a1 a2 y0 y1 B3 HW;go_wp2_with fail
 go_region_held3 (fun W=>W.cell? ⟨w.heap.size,1,none⟩=some (.bool mu)) (assumption) (first
  | (go_at_call 135; refine(HF.out _).mono ?_; rintro e w' ⟨rfl,rfl⟩)
  | (go_at_call 204; refine HO2.out.mono ?_; rintro e w4⟨rfl,g2,cap2,hw4,hs4⟩; have hS':w4.cell? ⟨w.heap.size,1,none⟩=some (.bool mu):=hs4.cell b1 ae n0; have W4:=hid hw4; have S4:=hid hs4; clear hw4 hs4))
 all_goals
  have f0:=(S4.out.block (b:=w.heap.size) aK ae n0).trans q0;have f1:=(S4.out.block (b:=w.heap.size+1) aK ae n1).trans q1;have f2:=S4.out.cell (b:=w2.heap.size) l3 ae ae;obtain⟨d0,d1,d2,_,_,_⟩:=aS f0;have m0:w.heap.size≠g2:=S4.out.ne aK n0;have m1:w.heap.size+1≠g2:=S4.out.ne aK n1;have m2:w2.heap.size≠g2:=S4.out.ne aK ae;have z4:w3.heap.size<=w4.heap.size:=S4.out.size;have S4':=hid ((S2.out.trans (Stp.of_below BB3.out)).trans ((Stp.of_below ((Below.refl _ _).drew)).trans S4.out));have HWS:=hid (fun W=>qg 119 v mu W v0 v1);clear S4 HO2 HF hS' q0 q1 b0 b1 b2 l3 hno hmo hco;go_wp2_with fail;have HSG:=hid (fun W (hW:Below w4.heap.size w4 W)=>vY R g2 cap2 (bs++[119]++[bit mu]) (sgn 119 v) 138 #[.pointer (some ⟨w2.heap.size,0,none⟩)] 17 W (W4.out.later hW) (fun _ _=>rfl) (IY w2.heap.size v _ W v0 v1 ((hW.cell xP).trans f2) ae));have HB4:=hid (fun(W5:World) (hb:Below w4.heap.size w4.drew W5)=>(Below.trans ((Below.refl w4.heap.size w4).drew) hb:Below w4.heap.size w4 W5));have HC4:=hid (fun(W5:World) (hb:Below w4.heap.size w4 W5)=>(⟨(hb.cell (by exact block_lt_of_cell d0)).trans d0,(hb.cell (by exact block_lt_of_cell d1)).trans d1,(hb.cell (by exact block_lt_of_cell d2)).trans d2⟩:W5.cell? ⟨w.heap.size,0,none⟩=some (.int .u8 119)/\W5.cell? ⟨w.heap.size,1,none⟩=some (.bool mu)/\W5.cell? ⟨w.heap.size,2,none⟩=some (.int .u64 v)));refine wp_region_held_drew (S:=(fun W=>W.cell? ⟨w.heap.size,0,none⟩=some (.int .u8 119)/\W.cell? ⟨w.heap.size,1,none⟩=some (.bool mu)/\W.cell? ⟨w.heap.size,2,none⟩=some (.int .u64 v))) ar ⟨d0,d1,d2⟩ (fun hHeld=>?_)
  refine tkC (i:=0) rfl ?_;(try simp only[Act.put,sIB]);refine tkC (i:=1) rfl ?_;(try simp only[Act.put]);refine tkC (i:=3) rfl ?_;(try simp only[Act.put]);refine tkC (i:=4) rfl ?_;(try simp only[Act.put]);refine rdY (rs:=[2,5]) ?_
  refine AllReadyH.cons rfl (fun K hK=>?_) (AllReadyH.cons rfl (fun K hK=>?_) rN)
  ·go_simp;refine(HWS.out _).mono ?_;rintro e w5⟨rfl,hb5⟩;have hB5:=hid (HB4.out w5 hb5);clear hb5
   refine hK.out _ _ (HC4.out w5 hB5.out) (fun hHeld2=>?_);clear hK K;refine rdY (rs:=[5]) ?_;refine AllReadyH.cons rfl (fun K hK=>?_) rN;go_simp;refine hK.out _ _ hHeld2 (fun hHeld3=>?_)
   clear hK K;refine tkC (i:=6) rfl ?_;(try simp only[Act.put,sIB]);exact Ld
  go_simp;refine hK.out _ _ hHeld (fun hHeld2=>?_)
  clear hK K;refine tkC (i:=6) rfl ?_;(try simp only[Act.put,sIB]);refine rdY (rs:=[2]) ?_
  refine AllReadyH.cons rfl (fun K hK=>?_) rN;go_simp;refine(HWS.out _).mono ?_;rintro e w5⟨rfl,hb5⟩;have hB5:=hid (HB4.out w5 hb5);clear hb5;refine hK.out _ _ (HC4.out w5 hB5.out) (fun hHeld3=>?_);clear hK K;exact Ld
theorem QQ:∃i,prog.info? 82=some i/\i.zero=some (.agg #[.int .u8 0,.int .i64 0,.slice none 0 0])/\i.size=3/\i.bytes=40:=Co ar
def sS(y:(Int×Int×(Option Addr×Nat×Nat))):List Value:=[.int .u8 y.1,.int .i64 y.2.1,.slice y.2.2.1 y.2.2.2.1 y.2.2.2.2]
abbrev Uu(x:(Int×Int×(Option Addr×Nat×Nat)×List Int)):Value:=.agg #[.int .u8 x.1,.int .i64 x.2.1,.slice x.2.2.1.1 x.2.2.1.2.1 x.2.2.1.2.2]
abbrev VK(y:(Int×Int×(Option Addr×Nat×Nat))):Value:=.agg #[.int .u8 y.1,.int .i64 y.2.1,.slice y.2.2.1 y.2.2.2.1 y.2.2.2.2]
def AtIn(w:World)(a:OAz)(n:Nat)(xs:List (Int×Int×(Option Addr×Nat×Nat)×List Int)):Prop :=
 xs.length=n/\(n=0\/∃b off,a=some ⟨b,off,none⟩/\∀(j:Nat)x,xs[j]? =some x->w.cell? ⟨b,off+j*3,none⟩=some (.int .u8 x.1)/\w.cell? ⟨b,off+j*3+1,none⟩=some (.int .i64 x.2.1)/\w.cell? ⟨b,off+j*3+2,none⟩=some (.slice x.2.2.1.1 x.2.2.1.2.1 x.2.2.1.2.2))
variable {w w':World}{a:OAz}{n:Nat}
theorem AtIn.kept{S:Nat->Prop}{xs:List (Int×Int×(Option Addr×Nat×Nat)×List Int)}(h:AtIn w a n xs)(hk:Kept S w w')(hS:∀b off c,nz n a=some ⟨b,off,c⟩->¬S b):AtIn w' a n xs:=by
 refine⟨h.1,h.2.imp id ?_⟩;rintro⟨b,off,ha,hc⟩;refine⟨b,off,ha,fun j x hj=>?_⟩;have ha:=Qv (n:=n) (by have:=h.1; have:=(List.getElem?_eq_some_iff.1 hj).1; omega) ha;have:=hc j x hj;exact⟨hk.cell this.1 (hS _ _ _ ha),hk.cell this.2.1 (hS _ _ _ ha),hk.cell this.2.2 (hS _ _ _ ha)⟩
theorem yL(w:World)(y:(Int×Int×(Option Addr×Nat×Nat))):∀j u,(sS y)[j]? =some u->(w.alloc (aV y.1 y.2.1 y.2.2.1 y.2.2.2.1 y.2.2.2.2)).cell? ((⟨w.heap.size,0,none⟩:Addr).add j)=some u:=by
 intro j u hj;have hlt:=az hj;have hl:(sS y).length=3:=rfl;rw[hl]at hlt;have hadd:(⟨w.heap.size,0,none⟩:Addr).add j=⟨w.heap.size,j,none⟩:=eJ;rw[hadd];have hb:=(MapKept.heap_alloc w (aV y.1 y.2.1 y.2.2.1 y.2.2.2.1 y.2.2.2.2)).1;simp only[World.cell?,hb]
 simpa[sS] using hj
theorem zm(y:(Int×Int×(Option Addr×Nat×Nat))):∀u∈sS y,u.oneCell'=true:=by
 intro u hu;simp[sS]at hu
 rcases hu with rfl | rfl | rfl <;> rfl
abbrev DL:=@qf (Int×Int×(Option Addr×Nat×Nat)×List Int) (Int×Int×(Option Addr×Nat×Nat)) sS Uu VK 82 3
abbrev N3:=@Fx (Int×Int×(Option Addr×Nat×Nat)×List Int) (Int×Int×(Option Addr×Nat×Nat)) sS Uu 82 3
namespace LIn
abbrev oC0:=sS
abbrev cL(x:(Int×Int×(Option Addr×Nat×Nat)×List Int)):Obj:=.cells #[.int .u8 x.1,.int .i64 x.2.1,.slice x.2.2.1.1 x.2.2.1.2.1 x.2.2.1.2.2] 82
abbrev cM(y:(Int×Int×(Option Addr×Nat×Nat))):Obj:=.cells #[.int .u8 y.1,.int .i64 y.2.1,.slice y.2.2.1 y.2.2.2.1 y.2.2.2.2] 82
theorem nC(w:World)(y:(Int×Int×(Option Addr×Nat×Nat))):∀j u,(sS y)[j]? =some u->(w.alloc (cM y)).cell? ((⟨w.heap.size,0,none⟩:Addr).add j)=some u:=yL w y
theorem oC(y:(Int×Int×(Option Addr×Nat×Nat))):∀u∈sS y,u.oneCell'=true:=zm y
theorem uN:Tryz.prog.underlying 59=some (.slice 82):=Tryz.underlying59
end LIn
open LIn in
theorem zH(R g cap:Nat)(bs:LIz)(ha:OAz)(n hc:Nat)(most:Int)(K:Nat)(cs:AVz)(w:World)(xs:List (Int×Int×(Option Addr×Nat×Nat)×List Int))(enc:(Int×Int×(Option Addr×Nat×Nat)×List Int)->List Int)(Ok:(Int×Int×(Option Addr×Nat×Nat)×List Int)->(Int×Int×(Option Addr×Nat×Nat))->Prop)(M:Nat)
  (h:Wr w R g cap bs) (hn:n<=100000) (hm:(n:Int)<=most) (hmem:AtIn w ha n xs) (hne:∀b off c,nz n ha=some ⟨b,off,c⟩->b≠R/\b≠g)
  (hK:∀args w,(callFunc K args).run Tryz.prog w=.ok (.enter K args) w) (hlen:∀(j:Nat)x,xs[j]? =some x->(enc x).length<=M) (hM:M<=1000000) (hb:bs.length+200000000000<=1099511627776)
  (heach:∀(j:Nat)x,xs[j]? =some x->DL R g w K cs bs n xs enc Ok j x) :
  Calls Tryz.prog 141 #[cW R,.slice ha n hc,.int .i64 most,.func (.func K) #[] cs] w fun e w'=>∃(aa:OAz)(ac:Nat)(ys:List (Int×Int×(Option Addr×Nat×Nat))),e=.returned (.slice aa n ac)/\ys.length=n/\(∀(i:Nat)y,ys[i]? =some y->∃x,xs[i]? =some x/\Ok x y) /\
   w'.ownsRow 0 82 3 (.slice aa n ac) n (ys.flatMap sS)/\∃g' cap',(∀b,aa=some b->w.heap.size<=b.block/\b.block≠g')/\Wr w' R g' cap' (bs++ay n++xs.flatMap enc)/\Stp R g g' w w':=by
 have hmc:=bG;have hcc:=cy;have HC:=hid (bU R g cap bs n most w h hm ae ae);have hRl:=h.lt;have hgl:=h.g_lt;have hxl:=hmem.1;have HM:=hid hmem;have HNE:=hid hne;have HE:=hid heach;obtain⟨i0,hi,hz0,hz1,hz2⟩:=QQ;clear h hmem heach hne;go_enter Tryz.func141,Tryz.ntmps141
 go_wp2_with fail;refine HC.out.mono ?_;rintro e w2⟨rfl,g1,cap1,hw2,hs2⟩;have W2:=hid hw2;have S2:=hid hs2;clear hw2 hs2 HC hmc hcc;go_wp2_with fail
 go_loopw [9,17] (fun o i wr=>qC oC0 82 3 R g w bs n xs enc Ok n o i wr) (fun _ i _=>n-(intOf i).toNat)
 case atStart=>exact⟨0,[],none,0,g1,cap1,ae,rfl,rfl,rfl,(fun i y h=>fZ),World.ownsRow_nil _ _ _ _,(fun b h=>cm),gJ,S2.out⟩
 case round =>
  exact Qz
open LIn in
theorem Ch(R g cap:Nat)(bs:LIz)(ha:OAz)(n hc:Nat)(most:Int)(K:Nat)(cs:AVz)(w:World)(xs:List (Int×Int×(Option Addr×Nat×Nat)×List Int))(enc:(Int×Int×(Option Addr×Nat×Nat)×List Int)->List Int)(Ok:(Int×Int×(Option Addr×Nat×Nat)×List Int)->(Int×Int×(Option Addr×Nat×Nat))->Prop)(M:Nat)
  (h:Wr w R g cap bs) (hn:n<=100000) (hm:(n:Int)<=most) (hmem:AtIn w ha n xs) (hne:∀b off c,nz n ha=some ⟨b,off,c⟩->b≠R/\b≠g)
  (hK:∀args w,(callFunc K args).run Tryz.prog w=.ok (.enter K args) w) (hlen:∀(j:Nat)x,xs[j]? =some x->(enc x).length<=M) (hM:M<=1000000) (hb:bs.length+200000000000<=1099511627776)
  (k:Nat) (xk:(Int×Int×(Option Addr×Nat×Nat)×List Int)) (er:Int) (hk:xs[k]? =some xk) (heach:∀(j:Nat)x,xs[j]? =some x->j<k->DL R g w K cs bs n xs enc Ok j x) (hno:N3 R g w K cs bs n xs enc Ok k xk er) :
  Calls Tryz.prog 141 #[cW R,.slice ha n hc,.int .i64 most,.func (.func K) #[] cs] w (bo R g er w):=by
 have hkn:=az hk;have hmc:=bG;have hcc:=cy;have HC:=hid (bU R g cap bs n most w h hm ae ae);have hRl:=h.lt;have hgl:=h.g_lt;have hxl:=hmem.1;have HM:=hid hmem;have HNE:=hid hne;have HE:=hid heach;have HN:=hid hno;obtain⟨i0,hi,hz0,hz1,hz2⟩:=QQ;clear h hmem heach hne hno;go_enter Tryz.func141,Tryz.ntmps141
 go_wp2_with fail;refine HC.out.mono ?_;rintro e w2⟨rfl,g1,cap1,hw2,hs2⟩;have W2:=hid hw2;have S2:=hid hs2;clear hw2 hs2 HC hmc hcc;go_wp2_with fail
 go_loopw [9,17] (fun o i wr=>qC oC0 82 3 R g w bs n xs enc Ok k o i wr) (fun _ i _=>n-(intOf i).toNat)
 case atStart=>exact⟨0,[],none,0,g1,cap1,ae,rfl,rfl,rfl,(fun i y h=>fZ),World.ownsRow_nil _ _ _ _,(fun b h=>cm),gJ,S2.out⟩
 case round =>
  exact QO
theorem uT(R g cap:Nat)(bs:LIz)(ha:OAz)(n hc:Nat)(most:Int)(f:Value)(w:World)(h:Wr w R g cap bs)(hm:most<(n:Int)) :
  Calls Tryz.prog 141 #[cW R,.slice ha n hc,.int .i64 most,f] w (bo R g 20 w):=by
 have hmc:=bG;have hcc:=cy;have HC:=hid (eZ R g cap bs n most w h hm);clear h;go_enter Tryz.func141,Tryz.ntmps141;exact jO
theorem Qy:∃i,Tryz.prog.info? 61=some i/\i.zero=some (.agg #[.int .i64 0,.string ⟨#[]⟩,.slice none 0 0])/\i.size=3/\i.bytes=48:=Co ar
def mZ(y:(Int×ByteArray×(Option Addr×Nat×Nat))):List Value:=[.int .i64 y.1,.string y.2.1,.slice y.2.2.1 y.2.2.2.1 y.2.2.2.2]
abbrev UW(x:(Int×ByteArray×(Option Addr×Nat×Nat)×List (Int×Int×(Option Addr×Nat×Nat)×List Int))):Value:=.agg #[.int .i64 x.1,.string x.2.1,.slice x.2.2.1.1 x.2.2.1.2.1 x.2.2.1.2.2]
abbrev UZ(y:(Int×ByteArray×(Option Addr×Nat×Nat))):Value:=.agg #[.int .i64 y.1,.string y.2.1,.slice y.2.2.1 y.2.2.2.1 y.2.2.2.2]
def od(w:World)(a:OAz)(n:Nat)(xs:List (Int×ByteArray×(Option Addr×Nat×Nat)×List (Int×Int×(Option Addr×Nat×Nat)×List Int))):Prop :=
 xs.length=n/\(n=0\/∃b off,a=some ⟨b,off,none⟩/\∀(j:Nat)x,xs[j]? =some x->w.cell? ⟨b,off+j*3,none⟩=some (.int .i64 x.1)/\w.cell? ⟨b,off+j*3+1,none⟩=some (.string x.2.1)/\w.cell? ⟨b,off+j*3+2,none⟩=some (.slice x.2.2.1.1 x.2.2.1.2.1 x.2.2.1.2.2))
theorem od.kept{S:Nat->Prop}{xs:List (Int×ByteArray×(Option Addr×Nat×Nat)×List (Int×Int×(Option Addr×Nat×Nat)×List Int))}(h:od w a n xs)(hk:Kept S w w')(hS:∀b off c,a=some ⟨b,off,c⟩->¬S b):od w' a n xs:=by
 exact KD
theorem qu(w:World)(y:(Int×ByteArray×(Option Addr×Nat×Nat))):∀j u,(mZ y)[j]? =some u->(w.alloc (bk y.1 y.2.1 y.2.2.1 y.2.2.2.1 y.2.2.2.2)).cell? ((⟨w.heap.size,0,none⟩:Addr).add j)=some u:=by
 intro j u hj;have hlt:=az hj;have hl:(mZ y).length=3:=rfl;rw[hl]at hlt;have hadd:(⟨w.heap.size,0,none⟩:Addr).add j=⟨w.heap.size,j,none⟩:=eJ;rw[hadd];have hb:=(MapKept.heap_alloc w (bk y.1 y.2.1 y.2.2.1 y.2.2.2.1 y.2.2.2.2)).1;simp only[World.cell?,hb]
 simpa[mZ] using hj
theorem qc(y:(Int×ByteArray×(Option Addr×Nat×Nat))):∀u∈mZ y,u.oneCell'=true:=by
 intro u hu;simp[mZ]at hu
 rcases hu with rfl | rfl | rfl <;> rfl
namespace LFu
abbrev oC0:=mZ
abbrev cL(x:(Int×ByteArray×(Option Addr×Nat×Nat)×List (Int×Int×(Option Addr×Nat×Nat)×List Int))):Obj:=.cells #[.int .i64 x.1,.string x.2.1,.slice x.2.2.1.1 x.2.2.1.2.1 x.2.2.1.2.2] 61
abbrev cM(y:(Int×ByteArray×(Option Addr×Nat×Nat))):Obj:=.cells #[.int .i64 y.1,.string y.2.1,.slice y.2.2.1 y.2.2.2.1 y.2.2.2.2] 61
theorem nC(w:World)(y:(Int×ByteArray×(Option Addr×Nat×Nat))):∀j u,(mZ y)[j]? =some u->(w.alloc (cM y)).cell? ((⟨w.heap.size,0,none⟩:Addr).add j)=some u:=qu w y
theorem oC(y:(Int×ByteArray×(Option Addr×Nat×Nat))):∀u∈mZ y,u.oneCell'=true:=qc y
theorem uN:Tryz.prog.underlying 25=some (.slice 61):=Tryz.underlying25
end LFu
theorem nX(R g cap:Nat)(bs:LIz)(ha:OAz)(n hc:Nat)(most:Int)(f:Value)(w:World)(h:Wr w R g cap bs)(hm:most<(n:Int)) :
  Calls Tryz.prog 109 #[cW R,.slice ha n hc,.int .i64 most,f] w (bo R g 20 w):=by
 have hmc:=bG;have hcc:=cy;have HC:=hid (eZ R g cap bs n most w h hm);clear h;go_enter Tryz.func109,Tryz.ntmps109;exact jO
def gV(ps:List Addr)(W W':World):Prop:=∀p∈ps,∀v,W.cell? p=some v->W'.cell? p=some v/\W'.frozen? p=W.frozen? p
theorem gV.refl(ps:List Addr)(W:World):gV ps W W:=fun _ _ _ h=>⟨h,rfl⟩
variable {A B C:World}
theorem gV.trans{ps:List Addr}(h:gV ps A B)(k:gV ps B C):gV ps A C:=fun p hp v hv=>by
 obtain⟨h1,h2⟩:=h p hp v hv;obtain⟨k1,k2⟩:=k p hp v h1;exact⟨k1,k2.trans h2⟩
theorem gV.turned{ps:List Addr}(W:World)(l:Nat)(o o':Obj)(h:W.heap[l]? =some o)(ho:o.isCells=false):gV ps W (W.putObj l o'):=fun p _ v hv =>
 have hr:∀r,some l=some r->∃q:Obj,W.heap[r]? =some q/\q.isCells=false:=fun r e=>by cases e; exact⟨o,h,ho⟩
 ⟨cell_kept hv (grownBy_putObj' W l o') hr,frozen_kept hv (grownBy_putObj' W l o') hr⟩
def QM{α:Type}(F:Fence)(n:Nat)(P:Program)(gf:Nat)(lb:AVz)(encs:α->Array Value)(c:Addr)(ps:List Addr)(xs:List α)(W:World):Prop :=
 ∀(l:Nat)(J:List α->World->Prop)(Jx:World->Prop)(W1:World),gV ps W W1 ->
  (∀r A v,J r A->J r (A.setCell c v)) ->
  (∀x r A,J (x::r) A->YieldAt F (n-1) P l (encs x) A fun e B=>(e=.returned (.bool true)/\J r B/\gV ps A B)\/(e=.returned (.bool false)/\Jx B)) ->
  J xs W1 ->
  CallsIn F n P gf (#[.func (.yield l) #[] #[]]++lb) W1 fun e B=>(∃v,e=.returned v)/\(J [] B\/Jx B)
def Leaves(B:Nat)(ps:List Addr)(I:World->Prop)(Ix:Code->World->Prop)(W:World):Exit->Act->World->Prop
 | .normal,_,W'=>KeepsFrom B W W'/\gV ps W W'/\I W'
 | .ret,_,W'=>KeepsFrom B W W'/\Ix .ret W'
 | .exit _,_,_=>False
 | .goto _,_,_=>False
 | .panic _,_,_=>False
 | .outgrown,_,_=>False
variable {P:Program}{g:Operand}{assign body:Code}{Q:Exit->Act->World->Prop}{a:Act}{gf:Nat}{lb:AVz}{c:Addr}
theorem Aj{α:Type}{F:Fence}{prm:Array Tmp}    
  (hro:F.round=none) (h1:1<=n)   (hg:a.eval g=.func (.func gf) #[] lb) (hFg:F.fn gf) (eg:∀args w,(callFunc gf args).run P w=.ok (.enter gf args) w)
  {encs:α->Array Value}  {ps:List Addr} {xs:List α} (hps:∀x,(encs x).size=prm.size)
  (hseq:QM F (n-1) P gf lb encs c ps xs w)
  (I:List α->World->Prop) (Ix:Code->World->Prop) (hI:OwnFrom w.heap.size I) (hIx:OwnFrom w.heap.size Ix)
  (hIc:∀r A v,I r A->I r (A.setCell c v)) (h0:I xs w) (a₁:α->Act)
  (hassign:∀(l:Nat)(x:α)(W:World)(K:Act->World->Prop),K (a₁ x) W ->
   assign.wpIn (F.inRound l) (n-1-1) P (Exit.then K (fun _ _ _=>False)) { tmps:=(prm.zip (encs x)).foldl (fun t (p,v)=>t.setIfInBounds p v) a.tmps,defers:=[] } W)
  (hbody:∀(l:Nat)(x:α)(r:List α)(W:World),I (x::r) W->body.wpIn (F.inRound l) (n-1-1) P (Leaves w.heap.size ps (I r) Ix W) (a₁ x) W)
  (hdone:∀(D:Nat)(W:World),w.heap.size<=D->I [] W->W.heap[D]? =some (.deferred (some []))->Q .normal { a with defers:={ target:=.collected D,args:=#[] }::a.defers } W)
  (hstop:∀(D:Nat)(j:Code)(W:World),w.heap.size<=D->Ix j W->W.heap[D]? =some (.deferred (some []))->j.wpIn F n P Q { a with defers:={ target:=.collected D,args:=#[] }::a.defers } W) :
  (Code.rangeFunc g prm assign body).wpIn F n P Q a w:=by
 refine wpIn_rangeFunc fun fn hfn=>?_;rw[hro]
 let record:LoopState->Option Code->Loop:=fun st pe=>{ state:=st,pending:=pe,fn,tmps:=a.tmps,params:=prm,assign,body,defers:=w.heap.size }
 let D:=w.heap.size
 let L:=w.heap.size+1
 let W0:=(w.alloc (.deferred (some []))).alloc (.loop (record .ready none))
 let Book:Loop->World->Prop:=fun rc W=>W.heap[L]? =some (.loop rc)/\W.heap[D]? =some (.deferred (some []))
 have hbook:Book (record .ready none) W0:=by
  constructor
  ·have:=World.alloc_heap_new (w.alloc (.deferred (some []))) (.loop (record .ready none))
   rwa [World.size_alloc]at this
  exact(Below.heap_alloc _ _ _ (by simp[D])).trans (World.alloc_heap_new w _)
 have turn:∀{rc rc':Loop} {W:World},Book rc W->Book rc' (W.putObj L (.loop rc')):=fun h =>
  ⟨World.putObj_heap_same (Array.getElem?_eq_some_iff.1 h.1).1,(World.putObj_heap_other (by simp[L,D])).trans h.2⟩
 have over:∀{rc:Loop} {W W':World},Book rc W->KeepsFrom D W W'->Book rc W':=fun h k =>
  ⟨k.same _ _ (by simp[L,D]) h.1 rfl,k.same _ _ lRn h.2 rfl⟩
 have cells:∀{rc:Loop} {W:World} (v:Value),Book rc W->Book rc (W.setCell c v):=fun v h =>
  ⟨(KeepsOthers.setCell _ _ _).same _ _ h.1 rfl,(KeepsOthers.setCell _ _ _).same _ _ h.2 rfl⟩
 have hk0:gV ps w W0:=fun p _ v hv=>by
  have g1:=World.grownBy_alloc w (.deferred (some [])) none;have g2:=World.grownBy_alloc (w.alloc (.deferred (some []))) (.loop (record .ready none)) none;have e1:=cell_kept hv g1 (fun r e=>iT);exact⟨cell_kept e1 g2 (fun r e=>iT),(frozen_kept e1 g2 (fun r e=>iT)).trans (frozen_kept hv g1 (fun r e=>iT))⟩
 refine⟨L,[{ target:=.collected D,args:=#[] }],W0,{ target:=.fn (.func gf) lb,args:=#[.func (.yield L) #[] #[]] },W0,gf,#[.func (.yield L) #[] #[]]++lb,W0,
  run_enterLoop_outer _ _ _ _ _,?_,?_,?_,fun _=>h1,?_⟩
 ·simp only[resolve,hg]; simp[go_sem]
 ·intro f' hf'; simp[Target.leads]at hf'; subst hf'; exact hFg
 ·simp[invoke,go_sem,eg]
 refine(hseq L (fun r W=>I r W/\Book (record .ready none) W) (fun W=>∃j,Ix j W/\Book (record .done (some j)) W) W0 hk0
  (fun r A v h=>⟨hIc r A v h.1,cells v h.2⟩) ?_ ⟨hI.alloc _ (hI.alloc _ h0),hbook⟩).mono ?_
 ·
  rintro x r W⟨hi,hb⟩;have hy:=run_yield (P:=P) (args:=encs x) hb.1 (hps x);refine⟨fn,_,assign,body,hy,roundIn_of_wpIn hfn (hassign _ x W _ ⟨_,run_beginRound hb.1 rfl,?_⟩)⟩;have hb2:Book { record .ready none with state:=.busy } (W.putObj L (.loop { record .ready none with state:=.busy })):=turn hb;refine wpIn_mono (hbody _ x r _ (hI.putObj _ hi (by simp[L]) hb.1 rfl)) ?_;rintro e a3 W3 hp
  cases e with
  | normal =>
   obtain⟨hk3,hkp3,hi3⟩:=hp;have hb3:=over hb2 hk3;exact⟨_,_,run_endRound none hb3.1,.inl ⟨rfl,⟨hI.putObj _ hi3 (by simp[L]) hb3.1 rfl,turn hb3⟩,((gV.turned _ _ _ _ hb.1 rfl).trans hkp3).trans (gV.turned _ _ _ _ hb3.1 rfl)⟩⟩
  | ret =>
   obtain⟨hk3,hi3⟩:=hp;have hb3:=over hb2 hk3;exact⟨_,_,run_endRound (some .ret) hb3.1,.inr ⟨rfl,.ret,hIx.putObj _ hi3 (by simp[L]) hb3.1 rfl,turn hb3⟩⟩
  | exit id=>exact hp.elim
  | goto t=>exact hp.elim
  | panic ch=>exact hp.elim
  | outgrown=>exact hp.elim
 
 rintro e W2⟨⟨v,rfl⟩,(⟨hi,hb⟩ | ⟨j,hi,hb⟩)⟩
 ·exact⟨none,_,run_endLoop hb.1 (by simp[record]),hdone D _ lRn (hI.putObj _ hi (by simp[L]) hb.1 rfl) (turn (rc':=_) hb).2⟩
 exact⟨some j,_,run_endLoop hb.1 (by simp[record]),hstop D j _ lRn (hIx.putObj _ hi (by simp[L]) hb.1 rfl) (turn (rc':=_) hb).2⟩
def pieces:List UInt8->List (List UInt8)
 | []=>[[]]
 | b::l=>if b==32 then []::pieces l else match pieces l with
  | []=>[[b]]
  | p::r=>(b::p)::r
theorem lN:∀(l:List UInt8),Lib.indexByte l 32=-1\/(0<=Lib.indexByte l 32/\Lib.indexByte l 32<l.length)
 | []=>.inl rfl
 | b::l=>by
  have:=lN l;unfold Lib.indexByte
  split
  ·right; simp
  split
  ·exact .inl rfl
  rename_i h;simp at h
  right; simp; omega
theorem qw:∀(l:List UInt8),Lib.indexByte l 32=-1->pieces l=[l]
 | [],_=>rfl
 | b::l,h=>by
  have hr:=lN l;unfold Lib.indexByte at h
  split at h
  ·simp at h
  rename_i hb
  split at h
  ·rename_i hi
   have:=qw l vX;unfold pieces;rw[if_neg hb,this]
  rename_i hi;simp at hi;omega
theorem qh:∀(l:List UInt8)(k:Nat),Lib.indexByte l 32=k->pieces l=l.take k::pieces (l.drop (k+1))
 | [],k,h=>by simp[Lib.indexByte]at h
 | b::l,k,h=>by
  have hr:=lN l;unfold Lib.indexByte at h
  split at h
  ·rename_i hb
   obtain rfl:k=0:=ae;rw[pieces,if_pos hb];simp
  rename_i hb
  split at h
  ·omega
  rename_i hi;simp at hi;obtain⟨m,rfl⟩:∃m,k=m+1:=⟨k-1,ae⟩;have:=qh l m ae;rw[pieces,if_neg hb,this];simp
def dK(s:BAz):List ByteArray:=(pieces s.data.toList).map fun l=>⟨l.toArray⟩
theorem PX(s:BAz)(k:Nat):s.extract 0 k=⟨(s.data.toList.take k).toArray⟩:=by
 apply sj; simp[ByteArray.data_extract,Array.toList_extract]
theorem Ph(s:BAz)(k:Nat):s.extract k s.size=⟨(s.data.toList.drop k).toArray⟩:=by
 apply sj;simp[ByteArray.data_extract,Array.toList_extract];rw[List.take_of_length_le];have:=dQ s;simp only[List.length_drop];omega
theorem xL(s:BAz)(h:Lib.indexByte s.data.toList 32=-1):dK s=[s]:=by
 simp[dK,qw _ h]
theorem xO(s:BAz)(k:Nat)(h:Lib.indexByte s.data.toList 32=k):dK s=s.extract 0 k::dK (s.extract (k+1) s.size):=by
 rw[PX,Ph];simp[dK,qh _ k h]
theorem pY:∀(l:List UInt8)(p:List UInt8),p∈pieces l->p.length<=l.length
 | [],p,h=>by simp[pieces]at h; simp[h]
 | b::l,p,h=>by
  have ih:=pY l;unfold pieces at h
  split at h
  ·simp only[List.mem_cons]at h
   rcases h with rfl | h
   ·simp
   have:=ih p h; simp; omega
  split at h
  ·simp at h; simp[h]
  rename_i q r hq;simp only[List.mem_cons]at h
  rcases h with rfl | h
  ·have:=ih q (by rw[hq]; simp); simp; omega
  have:=ih p (by rw[hq]; simp[h]); simp; omega
theorem xK(s p:BAz)(h:p∈dK s):p.size<=s.size:=by
 unfold dK at h;obtain⟨l,hl,rfl⟩:=List.mem_map.1 h;have:=pY _ _ hl;rw[dQ,dQ];exact cF
end Go.Proofs.YtepcmfegggdjfaaGreatDoor
namespace Go.Proofs
open Go.Shelf YtepcmfegggdjfaaGreatDoor
def Tryz.lays143_ren:Go.Shelf.Ren:=⟨fun | 143=>176 | 219=>178 | 217=>179 | 225=>180 | 224=>181 | 267=>182 | 266=>183 | 314=>184 | n=>n,fun | 9=>9 | 3=>3 | 4=>4 | 5=>5 | 46=>235 | 146=>241 | 51=>218 | n=>n,fun | 1=>3 | n=>n⟩
theorem Tryz.lays143:Go.Proofs.Lays.n143 Tryz.prog Tryz.lays143_ren:={
 mixed:=ar
 f143:=Tryz.func176.trans (congrArg some ar)
 f217:=Tryz.func179.trans (congrArg some ar)
 f219:=Tryz.func178.trans (congrArg some ar)
 f224:=Tryz.func181.trans (congrArg some ar)
 f225:=Tryz.func180.trans (congrArg some ar)
 f266:=Tryz.func183.trans (congrArg some ar)
 f267:=Tryz.func182.trans (congrArg some ar)
 f314:=Tryz.func184.trans (congrArg some ar)
 t3:=Tryz.underlying3
 a3:=Tryz.isAgg3
 z3:=Tryz.sizeOf3
 v3:=Tryz.zeroValue3
 t4:=Tryz.underlying4
 a4:=Tryz.isAgg4
 z4:=Tryz.sizeOf4
 v4:=Tryz.zeroValue4
 t5:=Tryz.underlying5
 a5:=Tryz.isAgg5
 z5:=Tryz.sizeOf5
 v5:=Tryz.zeroValue5
 t9:=Tryz.underlying9
 a9:=Tryz.isAgg9
 z9:=Tryz.sizeOf9
 v9:=Tryz.zeroValue9
 t46:=Tryz.underlying235
 a46:=Tryz.isAgg235
 z46:=Tryz.sizeOf235
 v46:=Tryz.zeroValue235
 t51:=Tryz.underlying218
 a51:=Tryz.isAgg218
 z51:=Tryz.sizeOf218
 v51:=Tryz.zeroValue218
 t146:=Tryz.underlying241
 a146:=Tryz.isAgg241
 z146:=Tryz.sizeOf241
 v146:=Tryz.zeroValue241
 g1:=ar }
open Go.RowKit in
theorem Tryz.strings_Index_one(s:BAz)(c:UInt8)(w:World) :
  Calls Tryz.prog 176 #[.string s,.string ⟨#[c]⟩] w fun e w'=>e=.returned (.int .i64 (Lib.indexByte s.data.toList c))/\w'=w:=Any.strings_Index_one Tryz.lays143 s c w
end Go.Proofs
namespace Go.Proofs.YtepcmfegggdjfaaGreatDoor
open Go.Proofs.Tryz
open Go.Shelf Go.RowKit
theorem PY(s:BAz)(w:World) :
  Calls prog 176 #[.string s,.string ⟨#[32]⟩] w fun e w'=>e=.returned (.int .i64 (Lib.indexByte s.data.toList 32))/\w'=w:=Tryz.strings_Index_one s 32 w
open Go.RowKit Go.Shelf
def vQ(W:World)(c:Addr):ByteArray:=match W.cell? c with
 | some (.string s)=>s
 | _=>ByteArray.empty
theorem Nr(n l b1 b2 b3:Nat)(h12:b1≠b2)(h32:b3≠b2)(s:BAz)(J:List ByteArray->World->Prop)(Jx:World->Prop)
  (hJ:∀r A v,J r A->J r (A.setCell ⟨b2,0,none⟩ v))
  (hY:∀x r A,J (x::r) A->YieldAt Fence.wide (n-1) prog l #[.string x] A fun e B=>(e=.returned (.bool true)/\J r B/\gV [⟨b1,0,none⟩,⟨b2,0,none⟩,⟨b3,0,none⟩] A B)\/(e=.returned (.bool false)/\Jx B))
  (W:World) (c1:W.cell? ⟨b1,0,none⟩=some (.string ⟨#[32]⟩)) (c2:W.cell? ⟨b2,0,none⟩=some (.string s)) (f2:W.frozen? ⟨b2,0,none⟩=false) (c3:W.cell? ⟨b3,0,none⟩=some (.int .i64 0)) (h0:J (dK s) W) (hsz:s.size<=1099511627776) :
  CallsIn Fence.wide n prog 174 #[.func (.yield l) #[] #[],.pointer (some ⟨b1,0,none⟩),.pointer (some ⟨b2,0,none⟩),.pointer (some ⟨b3,0,none⟩)] W fun e B=>(∃v,e=.returned v)/\(J [] B\/Jx B):=by
 refine callsIn_of_wp func174 rfl trivial ?_ rfl;simp only[ntmps174,List.size_toArray,List.length_cons,List.length_nil,Nat.reduceAdd,Nat.reduceSub,Array.replicate_succ,Array.replicate_zero,List.push_toArray,List.append_toArray,List.nil_append,List.cons_append]
 gi_wp2
 gi_loopw [] (fun wr=>∃s:ByteArray,wr.cell? ⟨b1,0,none⟩=some (.string ⟨#[32]⟩)/\wr.cell? ⟨b2,0,none⟩=some (.string s)/\wr.frozen? ⟨b2,0,none⟩=false/\wr.cell? ⟨b3,0,none⟩=some (.int .i64 0)/\J (dK s) wr/\s.size<=1099511627776)
  (fun wr=>(vQ wr ⟨b2,0,none⟩).size)
 case atStart=>exact⟨s,c1,c2,f2,c3,h0,hsz⟩
 case round =>
  clear c1 c2 f2 c3 h0 hsz;obtain⟨s,c1,c2,f2,c3,hj,hsz⟩:=hrel;have hI:=callsIn_wide (n:=n-1).2 (PY s wr)
  rcases lN s.data.toList with hneg | ⟨hge,hlt⟩
  ·rw[hneg]at hI;rw[xL s hneg]at hj;obtain⟨fn,tmps,assign,body,hy,hR⟩:=hY s [] wr hj
   gi_wp2_with fail
   refine⟨trivial,(fun h=>nomatch h),?_⟩;refine hI.mono ?_;rintro e w' ⟨rfl,rfl⟩
   gi_wp2_with fail
   refine⟨(fun h=>nomatch h),?_⟩;refine hR.mono ?_;rintro e W3 (⟨rfl,hJ3,hk3⟩ | ⟨rfl,hJx3⟩)
   ·gi_wp2_with fail
    go_end0;exact⟨⟨_,rfl⟩,.inl hJ3⟩
   gi_wp2_with fail
   go_end0;exact⟨⟨_,rfl⟩,.inr hJx3⟩
  obtain⟨k,hk⟩:∃k:Nat,Lib.indexByte s.data.toList 32=k:=⟨(Lib.indexByte s.data.toList 32).toNat,ae⟩;rw[hk]at hI hlt;rw[<- dQ]at hlt;rw[xO s k hk]at hj;obtain⟨fn,tmps,assign,body,hy,hR⟩:=hY _ _ wr hj;have k0:(0:Int)<=k:=ae;have k1:(k:Int)<s.size:=ae;have k2:(s.size:Int)<=1099511627776:=ae;have k3:wrap64 (k:Int)=k:=eP;have k4:wrap64 ((k:Int)+1)=k+1:=eP
  gi_wp2_with fail
  refine⟨trivial,(fun h=>nomatch h),?_⟩;refine hI.mono ?_;rintro e w' ⟨rfl,rfl⟩
  gi_wp2_with fail
  refine⟨(fun h=>nomatch h),?_⟩;refine hR.mono ?_;rintro e W3 (⟨rfl,hJ3,hk3⟩ | ⟨rfl,hJx3⟩)
  ·obtain⟨d1,_⟩:=hk3 _ aw _ c1;obtain⟨d2,e2⟩:=hk3 _ aw _ c2;obtain⟨d3,_⟩:=hk3 _ aw _ c3;rw[f2]at e2;have k5:(k:Int)+1<=s.size:=ae
   gi_wp2_with fail
   go_roundw
   case rel =>
    refine⟨s.extract (k+1) s.size,?_,?_,?_,?_,hJ _ _ _ hJ3,?_⟩
    ·rw[World.cell?_setCell_other _ _ _ _ aw]; exact d1
    ·exact World.cell?_setCell_same' _ _ _ (by rw[d2]; rfl)
    ·rw[World.frozen?_setCell]; exact e2
    ·rw[World.cell?_setCell_other _ _ _ _ aw]; exact d3
    simp; omega
   case measure =>
    rw[show vQ w' ⟨b2,0,none⟩=s by simp[vQ,c2]];rw[vQ,World.cell?_setCell_same' _ _ _ (by rw[d2]; rfl)];simp;omega
  gi_wp2_with fail
  refine bodyPost_ret (results_none rfl _ _ _) rfl ?_;exact⟨⟨_,rfl⟩,.inr hJx3⟩
theorem PU(n b1 b2 b3:Nat)(h12:b1≠b2)(h32:b3≠b2)(s:BAz)(W:World)(c1:W.cell? ⟨b1,0,none⟩=some (.string ⟨#[32]⟩))(c2:W.cell? ⟨b2,0,none⟩=some (.string s))(f2:W.frozen? ⟨b2,0,none⟩=false)(c3:W.cell? ⟨b3,0,none⟩=some (.int .i64 0))(hsz:s.size<=1099511627776) :
  QM Fence.wide n prog 174 #[.pointer (some ⟨b1,0,none⟩),.pointer (some ⟨b2,0,none⟩),.pointer (some ⟨b3,0,none⟩)] (fun x:ByteArray=>#[.string x]) ⟨b2,0,none⟩ [⟨b1,0,none⟩,⟨b2,0,none⟩,⟨b3,0,none⟩] (dK s) W:=fun l J Jx W1 hk hJ hY h0=>by
 obtain⟨d1,_⟩:=hk _ aw _ c1;obtain⟨d2,e2⟩:=hk _ aw _ c2;obtain⟨d3,_⟩:=hk _ aw _ c3;exact Nr n l b1 b2 b3 h12 h32 s J Jx hJ hY W1 d1 d2 (e2.trans f2) d3 h0 hsz
theorem Cz(s:BAz)(w:World) :
  Calls prog 172 #[.string s,.string ⟨#[32]⟩] w fun e w'=>e=.returned (.func (.func 174) #[] #[.pointer (some ⟨w.heap.size+1,0,none⟩),.pointer (some ⟨w.heap.size,0,none⟩),.pointer (some ⟨w.heap.size+2,0,none⟩)]) /\
   w'=((w.alloc (iy s)).alloc (iy ⟨#[32]⟩)).alloc (bM 0):=by
 go_enter func172,ntmps172;exact np
def Holds(cs:List (Addr×Value))(W:World):Prop:=∀p∈cs,W.cell? p.1=some p.2/\W.frozen? p.1=false
variable {A B:World}
theorem Holds.grown{cs:List (Addr×Value)}{row:Option Nat}(h:Holds cs A)(hg:A.grownBy B row)(hr:∀r,row=some r->∃o:Obj,A.heap[r]? =some o/\o.isCells=false):Holds cs B :=
 fun p hp=>⟨cell_kept (h p hp).1 hg hr,(frozen_kept (h p hp).1 hg hr).trans (h p hp).2⟩
variable {W:World}{l:Nat}{o:Obj}
theorem Holds.turned{cs:List (Addr×Value)}(h:Holds cs W)(o':Obj)(hl:W.heap[l]? =some o)(ho:o.isCells=false):Holds cs (W.putObj l o') :=
 h.grown (grownBy_putObj' W l o') (fun r e=>by cases e; exact⟨o,hl,ho⟩)
theorem Holds.other{cs:List (Addr×Value)}(h:Holds cs W)(c:Addr)(v:Value)(hc:∀p∈cs,c≠p.1):Holds cs (W.setCell c v) :=
 fun p hp=>⟨(World.cell?_setCell_other _ _ _ _ (hc p hp)).trans (h p hp).1,(World.frozen?_setCell _ _ _ _).trans (h p hp).2⟩
theorem Holds.cons{p:Addr×Value}{cs:List (Addr×Value)}(h1:W.cell? p.1=some p.2)(h2:W.frozen? p.1=false)(h:Holds cs W):Holds (p::cs) W :=
 fun q hq=>by
  rcases List.mem_cons.1 hq with rfl | hq
  ·exact⟨h1,h2⟩
  exact h q hq
variable {c:Addr}{u v:Value}
theorem Holds.set{cs:List (Addr×Value)}(h:Holds ((c,u)::cs) W)(hc:∀p∈cs,c≠p.1):Holds ((c,v)::cs) (W.setCell c v):=by
 have h1:=h (c,u) aw;refine Holds.cons (World.cell?_setCell_same' _ _ _ (by rw[h1.1]; rfl)) ((World.frozen?_setCell _ _ _ _).trans h1.2) (Holds.other (fun p hp=>h p (by simp[hp])) _ _ hc)
theorem gV.other{ps:List Addr}(W:World)(c:Addr)(v:Value)(hc:∀p∈ps,c≠p):gV ps W (W.setCell c v) :=
 fun p hp u hu=>⟨(World.cell?_setCell_other _ _ _ _ (hc p hp)).trans hu,World.frozen?_setCell _ _ _ _⟩
variable {fn:Func}
theorem pZ{p:Tmp}{ty:TypeId}(h:fn.results=#[.cell p ty])(tmps:AVz)(P:Program)(w:World) :
  (results fn tmps).run P w=((asAddr (tmps.getD p undef)).run P w).andThen fun a w₁=>(loadVar ty a).run P w₁:=by
 simp only[results,h];simp[Sem.run_bind,Result.andThen]
def mt(f op:Int)(a:BAz):List ByteArray->ByteArray
 | []=>⟨#[]⟩
 | p::r=>if f=op then a++p else mt (f+1) op a r
theorem RD(f l op:Int)(a ws:BAz)(w:World)(h0:0<=f)(hb:f+(dK ws).length<=255)(hsz:ws.size<=1099511627776)(ha:a.size<=1099511627776) :
  Calls prog 167 #[.agg #[.int .u8 f,.int .u8 l,.string a,.string ws],.int .u8 op] w fun e w'=>e=.returned (.string (mt f op a (dK ws)))/\Below w.heap.size w w':=by
 obtain⟨xs,hxs⟩:∃xs,dK ws=xs:=⟨_,rfl⟩;have hlen:=xK ws;rw[hxs]at hb hlen ⊢;obtain⟨V,hV⟩:∃V,mt f op a xs=V:=⟨_,rfl⟩;rw[hV];refine(callsIn_wide (n:=5)).1 ?_;refine callsIn_of_wp_marks func167 rfl trivial ?_ rfl;simp only[ntmps167,List.size_toArray,List.length_cons,List.length_nil,Nat.reduceAdd,Nat.reduceSub,Array.replicate_succ,Array.replicate_zero,List.push_toArray,List.append_toArray,List.nil_append,List.cons_append]
 gi_wp2_with fail
 refine⟨trivial,?_⟩;refine(callsIn_wide.2 (Cz ws _)).mono ?_;rintro e w' ⟨rfl,rfl⟩
 gi_wp2_with fail
 simp only[Nat.add_assoc,Nat.reduceAdd];obtain⟨W0,hW0⟩:∃W0,(((((((w.alloc (.cells #[.int .u8 f,.int .u8 l,.string a,.string ws] 221)).alloc (ei op)).alloc (iy ⟨#[]⟩)).alloc (ei f)).alloc (iy ws)).alloc (iy ⟨#[32]⟩)).alloc (bM 0))=W0:=⟨_,rfl⟩;rw[hW0]
 have B0:Below w.heap.size w W0:=by rw[<- hW0]; exact(((((((Below.refl _ w).alloc aw _).alloc dC _).alloc dC _).alloc dC _).alloc dC _).alloc dC _).alloc dC _
 have z0:W0.heap.size=w.heap.size+7:=gY;have k2:W0.cell? ⟨w.heap.size,2,none⟩=some (.string a):=gY;have o1:W0.cell? ⟨w.heap.size+1,0,none⟩=some (.int .u8 op):=gY;have r0:W0.cell? ⟨w.heap.size+2,0,none⟩=some (.string ⟨#[]⟩):=gY;have rf:W0.frozen? ⟨w.heap.size+2,0,none⟩=false:=gY;have a0:W0.cell? ⟨w.heap.size+3,0,none⟩=some (.int .u8 f):=gY;have af:W0.frozen? ⟨w.heap.size+3,0,none⟩=false:=gY;have c2:W0.cell? ⟨w.heap.size+4,0,none⟩=some (.string ws):=gY;have f2:W0.frozen? ⟨w.heap.size+4,0,none⟩=false:=gY;have c1:W0.cell? ⟨w.heap.size+5,0,none⟩=some (.string ⟨#[32]⟩):=gY;have c3:W0.cell? ⟨w.heap.size+6,0,none⟩=some (.int .i64 0):=gY;have kf:W0.frozen? ⟨w.heap.size,2,none⟩=false:=gY;have of:W0.frozen? ⟨w.heap.size+1,0,none⟩=false:=gY;clear hW0;have HF:=PU 4 (w.heap.size+5) (w.heap.size+4) (w.heap.size+6) ae ae ws W0 c1 c2 f2 c3 hsz;rw[hxs]at HF
 refine Aj rfl aA (gf:=174) (lb:=#[.pointer (some ⟨w.heap.size+5,0,none⟩),.pointer (some ⟨w.heap.size+4,0,none⟩),.pointer (some ⟨w.heap.size+6,0,none⟩)]) rfl trivial (enters_of func174 ar rfl) (encs:=fun x:ByteArray=>#[.string x]) (fun _=>rfl)
  HF
  (fun r W=>Holds [(⟨w.heap.size+3,0,none⟩,.int .u8 (f+xs.length-r.length)),(⟨w.heap.size,2,none⟩,.string a),(⟨w.heap.size+1,0,none⟩,.int .u8 op),(⟨w.heap.size+2,0,none⟩,.string ⟨#[]⟩)] W/\Below w.heap.size w W/\r.length<=xs.length/\(∀p∈r,p.size<=ws.size)/\mt (f+xs.length-r.length) op a r=V)
  (fun j W=>j=.ret/\Holds [(⟨w.heap.size+2,0,none⟩,.string V)] W/\Below w.heap.size w W)
  ?own ?ownx ?cells ?start
  (fun x=>{ tmps:=#[.agg #[.int .u8 f,.int .u8 l,.string a,.string ws],.int .u8 op,.pointer (some ⟨w.heap.size,0,none⟩),.pointer (some ⟨w.heap.size+1,0,none⟩),.pointer (some ⟨w.heap.size+2,0,none⟩),.pointer (some ⟨w.heap.size+3,0,none⟩),.string x,.pointer (some ⟨w.heap.size,0,none⟩),.int .u8 f,.pointer (some ⟨w.heap.size,3,none⟩),.string ws,
   .func (.func 174) #[] #[.pointer (some ⟨w.heap.size+5,0,none⟩),.pointer (some ⟨w.heap.size+4,0,none⟩),.pointer (some ⟨w.heap.size+6,0,none⟩)],.string x,undef,undef,undef,undef,undef,undef,undef,undef,undef],defers:=[] }) ?assign ?body ?done ?stop
 case own =>
  exact fun r A B row hs hg hr=>⟨hs.1.grown hg (fun q e=>(hr q e).2),ownFrom_below (β:=Unit) lRn ae () A B row hs.2.1 hg hr,hs.2.2⟩
 case ownx =>
  exact fun j A B row hs hg hr=>⟨hs.1,hs.2.1.grown hg (fun q e=>(hr q e).2),ownFrom_below (β:=Unit) lRn ae () A B row hs.2.2 hg hr⟩
 case cells =>
  exact fun r A v hs=>⟨hs.1.other _ _ aw,hs.2.1.setCell (p:=⟨w.heap.size+4,0,none⟩) aw _,hs.2.2⟩
 case start =>
  refine⟨?_,B0,Nat.le_refl _,hlen,by rw[<- hV]; congr 1; omega⟩;refine Holds.cons (by simp only[a0]; congr 2; omega) af (Holds.cons k2 kf (Holds.cons o1 of (Holds.cons r0 rf (by simp[Holds]))))
 case assign =>
  intro l x W K hK;have hsem:=@Oper.semAt_some
  gi_wp2
  exact hK
 case body =>
  rintro m x r W⟨hc,hB,hr,hp,hv⟩;have hsem:=@Oper.semAt_some;have d1:=hc _ (List.mem_cons_self ..);have d2:=hc _ (List.mem_cons_of_mem _ (List.mem_cons_self ..));have d3:=hc _ (List.mem_cons_of_mem _ (List.mem_cons_of_mem _ (List.mem_cons_self ..)));have d4:=hc _ (List.mem_cons_of_mem _ (List.mem_cons_of_mem _ (List.mem_cons_of_mem _ (List.mem_cons_self ..))));obtain⟨q,hq⟩:∃q:Int,f+xs.length-(x::r).length=q:=⟨_,rfl⟩;rw[hq]at hc d1 hv
  have q0:0<=q:=by simp at hq hr; omega
  have q1:q+1<=255:=by simp at hq hr; omega
  have q2:f+xs.length-r.length=q+1:=by simp at hq; omega
  have hx:x.size<=ws.size:=hp x aw;have hax:¬(a.size+x.size > 9223372036854775807):=ae
  by_cases he:q=op
  ·subst he
   gi_wp2_with fail
   refine⟨(KeepsOthers.setCell _ _ _).from _,rfl,?_,hB.setCell (p:=⟨w.heap.size+2,0,none⟩) aw _⟩;rw[mt,if_pos rfl]at hv;rw[<- hv];exact Holds.set (Holds.cons d4.1 d4.2 (by simp[Holds])) aw
  gi_wp2_with fail
  rw[mt,if_neg he]at hv;refine⟨(KeepsOthers.setCell _ _ _).from _,?_,?_,hB.setCell (p:=⟨w.heap.size+3,0,none⟩) aw _,by simp at hr; omega,fun p h=>hp p (by simp[h]),hv⟩
  ·exact gV.other _ _ _ aw
  exact Holds.set hc aw
 case done =>
  rintro D W hD⟨hc,hB,_,_,hv⟩ hK;have d4:=hc _ (List.mem_cons_of_mem _ (List.mem_cons_of_mem _ (List.mem_cons_of_mem _ (List.mem_cons_self ..))));have d5:=d4.1;have d6:=d4.2
  gi_wp2_with fail
  have hK2:=(KeepsOthers.setCell W ⟨w.heap.size+2,0,none⟩ (.string ⟨#[]⟩)).same _ _ hK rfl;refine⟨aw,.inl ⟨_,_,rfl,run_takeDeferred hK2,?_⟩⟩;have hH:=(Holds.set (v:=.string ⟨#[]⟩) (Holds.cons (cs:=[]) d4.1 d4.2 (by simp[Holds])) aw).turned (.deferred none) hK2 rfl;have e1:=(hH _ (List.mem_cons_self ..)).1;have hBB:=(hB.setCell (p:=⟨w.heap.size+2,0,none⟩) aw (.string ⟨#[]⟩)).trans (belowK_b (w:=w) lRn _ D _ (.deferred none) ae hK2 rfl rfl);generalize World.putObj _ D (.deferred none)=W5 at e1 hBB ⊢;refine⟨.string V,?_,rfl,hBB⟩;rw[pZ rfl];rw[<- hv,mt];go_simp
 case stop =>
  rintro D j W hD⟨rfl,hc,hB⟩ hK
  gi_wp2_with fail
  refine⟨aw,.inl ⟨_,_,rfl,run_takeDeferred hK,?_⟩⟩;have e1:=((hc.turned (.deferred none) hK rfl) _ (List.mem_cons_self ..)).1;have hBB:=hB.trans (belowK_b (w:=w) lRn _ D _ (.deferred none) ae hK rfl rfl);generalize World.putObj _ D (.deferred none)=W5 at e1 hBB ⊢;refine⟨.string V,?_,rfl,hBB⟩;rw[pZ rfl];go_simp
theorem qY(a b:BAz):(a.toList==b.toList)=decide (a=b):=by
 rw[ByteArray.toList_eq,ByteArray.toList_eq]
 by_cases h:a=b
 ·simp[h]
 rw[decide_eq_false h,beq_eq_false_iff_ne];exact fun e=>h (sj e)
open Go.RowKit
def kW0:ByteArray:=⟨#[116,114,97,112,32,110,111,112,32,98,108,111,99,107,32,108,111,111,112,32,105,102,32,101,108,115,101,32,101,110,100,32,98,114,32,98,114,105,102,32,98,114,116,97,98,108,101,32,114,101,116,117,114,110,32,99,97,108,108,32,104,111,115,116]⟩
def kW1:ByteArray:=⟨#[100,114,111,112,32,115,101,108,101,99,116,32,103,101,116,32,115,101,116,32,116,101,101,32,103,103,101,116,32,103,115,101,116]⟩
def kW2:ByteArray:=⟨#[119,46,99,111,110,115,116,32,108,46,99,111,110,115,116]⟩
def kW3:ByteArray:=⟨#[119,46,108,111,97,100,56,117,32,119,46,108,111,97,100,56,115,32,119,46,108,111,97,100,49,54,117,32,119,46,108,111,97,100,49,54,115,32,119,46,108,111,97,100,32,108,46,108,111,97,100,32,119,46,115,116,111,114,101,56,32,119,46,115,116,111,114,101,49,54,32,119,46,115,116,111,114,101,32,108,46,115,116,111,114,101,32,115,105,122,101,32,103,114,111,119]⟩
def kW4:ByteArray:=⟨#[101,113,122,32,101,113,32,110,101,32,108,116,115,32,108,116,117,32,108,101,115,32,108,101,117,32,99,108,122,32,99,116,122,32,112,111,112,32,97,100,100,32,115,117,98,32,109,117,108,32,100,105,118,115,32,100,105,118,117,32,114,101,109,115,32,114,101,109,117,32,97,110,100,32,111,114,32,120,111,114,32,115,104,108,32,115,104,114,115,32,115,104,114,117,32,114,111,116,108,32,114,111,116,114]⟩
def kW5:ByteArray:=⟨#[101,113,122,32,101,113,32,110,101,32,108,116,115,32,108,116,117,32,108,101,115,32,108,101,117,32,99,108,122,32,99,116,122,32,112,111,112,32,97,100,100,32,115,117,98,32,109,117,108,32,100,105,118,115,32,100,105,118,117,32,114,101,109,115,32,114,101,109,117,32,97,110,100,32,111,114,32,120,111,114,32,115,104,108,32,115,104,114,115,32,115,104,114,117,32,114,111,116,108,32,114,111,116,114]⟩
def kW6:ByteArray:=⟨#[119,46,119,114,97,112,32,108,46,101,120,116,101,110,100,115,32,108,46,101,120,116,101,110,100,117,32,119,46,101,120,116,56,32,119,46,101,120,116,49,54,32,108,46,101,120,116,51,50]⟩
def kF:Nat->Int
 | 0=>0
 | 1=>16
 | 2=>24
 | 3=>32
 | 4=>48
 | 5=>80
 | _=>112
def kL:Nat->Int
 | 0=>12
 | 1=>22
 | 2=>25
 | 3=>43
 | 4=>72
 | 5=>104
 | _=>117
def kA:Nat->ByteArray
 | 0=>⟨#[]⟩
 | 1=>⟨#[]⟩
 | 2=>⟨#[]⟩
 | 3=>⟨#[]⟩
 | 4=>⟨#[119,46]⟩
 | 5=>⟨#[108,46]⟩
 | _=>⟨#[]⟩
def kW:Nat->ByteArray
 | 0=>kW0
 | 1=>kW1
 | 2=>kW2
 | 3=>kW3
 | 4=>kW4
 | 5=>kW5
 | _=>kW6
def oW:List Value:=[.int .u8 0,.int .u8 12,.string ⟨#[]⟩,.string kW0,.int .u8 16,.int .u8 22,.string ⟨#[]⟩,.string kW1,.int .u8 24,.int .u8 25,.string ⟨#[]⟩,.string kW2,.int .u8 32,.int .u8 43,.string ⟨#[]⟩,.string kW3,.int .u8 48,.int .u8 72,.string ⟨#[119,46]⟩,.string kW4,.int .u8 80,.int .u8 104,.string ⟨#[108,46]⟩,.string kW5,.int .u8 112,.int .u8 117,.string ⟨#[]⟩,.string kW6]
def s9:Value:=.agg oW.toArray
def bg(w:World):Prop:=∀j v,oW[j]? =some v->w.cell? ⟨0,j,none⟩=some v
variable {w:World}
theorem bg.pos(h:bg w):0<w.heap.size:=World.block_lt_of_cell? w ⟨0,0,none⟩ (h 0 _ rfl)
variable {n:Nat}{w':World}
theorem bg.later(h:bg w)(hb:Below n w w')(hn:0<n):bg w' :=
 fun j v hj=>(hb.cell (p:=⟨0,j,none⟩) hn).trans (h j v hj)
theorem Jd(h:bg w):(loadVar 222 ⟨0,0,none⟩).run prog w=.ok s9 w:=by
 have hl:(loadCells ⟨0,0,none⟩ 28).run prog w=.ok oW.toArray w:=run_loadCells_list (P:=prog) w ⟨0,0,none⟩ oW (fun j v hj=>by
  have e:(⟨0,0,none⟩:Addr).add j=⟨0,j,none⟩:=eJ;rw[e];exact h j v hj)
 unfold loadVar;simp only[Sem.run_bind,Tryz.isAgg222,Result.andThen,if_true,Tryz.sizeOf222,hl,Sem.run_pure];rfl
theorem Bg(h:bg w)(a:Act)(d:Option Tmp)(p:String)(af:Array Edge)(g:Option (Nat×Bool)) :
  (execOp a.eval { dst:=d,op:=Op.load 222 (Operand.global 0),type:=222,pos:=p,after:=af,guard:=g }).run prog w=.ok (.value s9) w:=by
 show(do pure (Next.value (<- Instr.loadAt 222 (.pointer (some ⟨0,0,none⟩)))):Sem Next).run prog w=_;have e:(Instr.sureAddr (.pointer (some ⟨0,0,none⟩))).run prog w=.ok ⟨0,0,none⟩ w:=rfl;unfold Instr.loadAt;simp only[Sem.run_bind,e,Sem.run_pure,Result.andThen,Jd h]
set_option maxRecDepth 20000 in
theorem Ms(i:Nat)(hi:i<7):(Instr.index 222 s9 (.int .i64 i)).run prog w=.ok (.agg #[.int .u8 (kF i),.int .u8 (kL i),.string (kA i),.string (kW i)]) w:=by
 have h:i=0\/i=1\/i=2\/i=3\/i=4\/i=5\/i=6:=ae
 rcases h with rfl | rfl | rfl | rfl | rfl | rfl | rfl <;> simp[Instr.index,go_sem,s9,oW,kF,kL,kA,kW]
theorem C8(i:Nat)(hi:i<7):0<=kF i/\kF i<=kL i/\kL i<=117/\kF i+(dK (kW i)).length<=255/\(kW i).size<=1099511627776/\(kA i).size<=1099511627776:=by
 have h:i=0\/i=1\/i=2\/i=3\/i=4\/i=5\/i=6:=ae
 rcases h with rfl | rfl | rfl | rfl | rfl | rfl | rfl <;> decide +kernel
def vh(c:Int):Int :=
 if c=2 then 1 else if c=3 then 1 else if c=4 then 1 else if c=7 then 2 else if c=8 then 2 else if c=9 then 3 else if c=11 then 4 else if c=12 then 5
 else if c=18 then 6 else if c=19 then 6 else if c=20 then 6 else if c=21 then 7 else if c=22 then 7 else if c=24 then 8 else if c=25 then 8
 else if c=32 then 9 else if c=33 then 9 else if c=34 then 9 else if c=35 then 9 else if c=36 then 9 else if c=37 then 9 else if c=38 then 9 else if c=39 then 9 else if c=40 then 9 else if c=41 then 9 else 0
def vC(c:Int):Bool:=decide (c=1\/24<=c)
def Bf(k:Int)(s:BAz):ByteArray×ByteArray :=
 if k=0 then (s,⟨#[119]⟩) else if k<=6 then (s++s,⟨#[119]⟩) else if k<=9 then (s,s) else (s++s,s)
def rO(c:Int):ByteArray×ByteArray :=
 if 48<=c/\c<=72 then Bf (c-48) ⟨#[119]⟩ else if 80<=c/\c<=104 then Bf (c-80) ⟨#[108]⟩
 else if c=24 then (⟨#[]⟩,⟨#[119]⟩) else if c=42 then (⟨#[]⟩,⟨#[119]⟩) else if c=25 then (⟨#[]⟩,⟨#[108]⟩)
 else if c=32 then (⟨#[119]⟩,⟨#[119]⟩) else if c=33 then (⟨#[119]⟩,⟨#[119]⟩) else if c=34 then (⟨#[119]⟩,⟨#[119]⟩) else if c=35 then (⟨#[119]⟩,⟨#[119]⟩) else if c=36 then (⟨#[119]⟩,⟨#[119]⟩) else if c=43 then (⟨#[119]⟩,⟨#[119]⟩) else if c=115 then (⟨#[119]⟩,⟨#[119]⟩) else if c=116 then (⟨#[119]⟩,⟨#[119]⟩)
 else if c=37 then (⟨#[119]⟩,⟨#[108]⟩) else if c=113 then (⟨#[119]⟩,⟨#[108]⟩) else if c=114 then (⟨#[119]⟩,⟨#[108]⟩)
 else if c=112 then (⟨#[108]⟩,⟨#[119]⟩) else if c=117 then (⟨#[108]⟩,⟨#[108]⟩)
 else if c=38 then (⟨#[119,119]⟩,⟨#[]⟩) else if c=39 then (⟨#[119,119]⟩,⟨#[]⟩) else if c=40 then (⟨#[119,119]⟩,⟨#[]⟩) else if c=41 then (⟨#[119,108]⟩,⟨#[]⟩) else (⟨#[]⟩,⟨#[]⟩)
theorem Pm(c:Int)(w:World):Calls prog 168 #[.int .u8 c] w fun e w'=>e=.returned (.int .i8 (vh c))/\w'=w:=by
 go_enter func168,ntmps168
 go_wp2
 all_goals (go_ret; exact⟨by unfold vh; simp_all,rfl⟩)
theorem Qr(c:Int)(w:World):Calls prog 169 #[.int .u8 c] w fun e w'=>e=.returned (.bool (vC c))/\w'=w:=by
 go_enter func169,ntmps169
 go_wp2
 all_goals (go_ret; refine⟨?_,rfl⟩; unfold vC; simp_all)
theorem QF(k:Int)(s:BAz)(w:World)(hs:s.size<=1099511627776):Calls prog 171 #[.int .u8 k,.string s] w fun e w'=>e=.returned (.tuple #[.string (Bf k s).1,.string (Bf k s).2])/\w'=w:=by
 have hax:¬(s.size+s.size > 9223372036854775807):=ae;go_enter func171,ntmps171
 go_wp2
 all_goals (go_ret2; refine⟨?_,rfl⟩; unfold Bf; simp_all)
 all_goals (repeat rw[if_neg ae])
 all_goals exact⟨rfl,rfl⟩
theorem Nh(c:Int)(w:World)(h0:0<=c)(h1:c<=255):Calls prog 166 #[.int .u8 c] w fun e w'=>e=.returned (.tuple #[.string (rO c).1,.string (rO c).2])/\w'=w:=by
 by_cases ha:48<=c/\c<=72
 ·rw[show rO c=Bf (c-48) ⟨#[119]⟩ by unfold rO; rw[if_pos ha]]
  obtain⟨ha1,ha2⟩:=ha;go_enter func166,ntmps166
  go_wp2_with fail;refine(QF (c-48) ⟨#[119]⟩ w aA).mono ?_;rintro e w' ⟨rfl,rfl⟩;go_wp2;go_ret2;exact⟨rfl,rfl⟩
 by_cases hb:80<=c/\c<=104
 ·rw[show rO c=Bf (c-80) ⟨#[108]⟩ by unfold rO; rw[if_neg ha,if_pos hb]]
  obtain⟨hb1,hb2⟩:=hb;have hx:¬c<=72:=ae;go_enter func166,ntmps166
  go_wp2_with fail;refine(QF (c-80) ⟨#[108]⟩ w aA).mono ?_;rintro e w' ⟨rfl,rfl⟩;go_wp2;go_ret2;exact⟨rfl,rfl⟩
 unfold rO;rw[if_neg ha,if_neg hb];go_enter func166,ntmps166;go_wp2_with fail
 all_goals (go_ret2; first | exact⟨rfl,rfl⟩ | (refine⟨?_,rfl⟩; simp_all))
variable {ops:Array Oper}{Q:Exit->Act->World->Prop}{o:Oper}{a:Act}
theorem iw{rest:List Oper}(hg:o.guard=none)(he:(execOp a.eval o).run prog w=.ok (.value v) w')
  (h:wpList prog ops Q rest (a.put o.dst v) w'):wpList prog ops Q (o::rest) a w :=
 wpList_plain hg fun K hK=>by simp only[Oper.wp,he,Oper.upon_value]; exact hK _ _ h
theorem step_skip{rest:List Oper}(hg:o.guard=none)(he:(execOp a.eval o).run prog w=.ok .skip w')
  (h:wpList prog ops Q rest (a.put o.dst undef) w'):wpList prog ops Q (o::rest) a w :=
 wpList_plain hg fun K hK=>by simp only[Oper.wp,he,Oper.upon_skip]; exact hK _ _ h
variable {id s s':Nat}{k c:Int}{x y:Code}{ts:AVz}
theorem Hr{pos pos':String}{af:Array Edge}    
  (h4:ts[4]?.getD undef=.int .u8 c) (hz:s<ts.size) (hz':s'<ts.size)
  (hx:c=k->x.wp prog Q ⟨(ts.setIfInBounds s' (.bool (c==k))).setIfInBounds s (.bool (c==k)),[]⟩ w)
  (hy:c≠k->y.wp prog Q ⟨(ts.setIfInBounds s' (.bool (c==k))).setIfInBounds s (.bool (c==k)),[]⟩ w) :
  ((Code.region id #[{dst:=some s',op:=.binOp .eql 5 (.tmp 4) (.const (.int .u8 k)) 5,type:=4,pos:=pos,after:=#[],guard:=none},{dst:=some s,op:=.assign (.tmp s'),type:=4,pos:=pos',after:=af,guard:=none}] false).seq (Code.cond (.tmp s) x y)).wp prog Q ⟨ts,[]⟩ w:=by
 refine wp_seq (wp_region_lit ?_);refine wpList_plain rfl fun K hK=>?_
 have e1:(execOp ({ tmps:=ts,defers:=[] }:Act).eval { dst:=some s',op:=Op.binOp BinOp.eql 5 (Operand.tmp 4) (Operand.const (Value.int IntKind.u8 k)) 5,type:=4,pos:=pos,after:=#[],guard:=none }).run prog w=.ok (.value (.bool (c==k))) w:=by
  simp[go_sem,h4]
 simp only[Oper.wp,e1,Oper.upon_value];refine hK _ _ (wpList_plain rfl fun K' hK'=>?_)
 have e3:(execOp ({ tmps:=ts.setIfInBounds s' (.bool (c==k)),defers:=[] }:Act).eval { dst:=some s,op:=Op.assign (Operand.tmp s'),type:=4,pos:=pos',after:=af,guard:=none }).run prog w=.ok (.value (.bool (c==k))) w:=by
  simp[go_sem,hz']
 show Oper.upon _ _ _ _ _ (Sem.run prog (execOp ({ tmps:=ts.setIfInBounds s' (.bool (c==k)),defers:=[] }:Act).eval _) w);rw[e3,Oper.upon_value];refine hK' _ _ ?_
 have e5:({ tmps:=(ts.setIfInBounds s' (.bool (c==k))).setIfInBounds s (.bool (c==k)),defers:=[] }:Act).eval (.tmp s)=.bool (c==k):=by
  show((ts.setIfInBounds s' (.bool (c==k))).setIfInBounds s (.bool (c==k))).getD s undef=_;simp[hz]
 refine wpList_nil (wp_cond_split e5 (fun h=>hx kJ) (fun h=>hy kJ))
def cx(k:Int)(wd:BAz)(tk:Int)(pp ps:BAz)(pl:Bool):Array Value:=#[.int .u8 k,.string wd,.int .i8 tk,.string pp,.string ps,.bool pl]
variable {tk:Int}{wd pp ps:BAz}{pl:Bool}
set_option maxRecDepth 10000 in
theorem MD{p1 p2 p3:String}{a2 a3:Array Edge}   
  (h2:ts[2]?.getD undef=.pointer (some ⟨w.heap.size,0,none⟩)) (hz:s<ts.size) (hs:4<s)
  (hq:Q .ret ⟨(ts.setIfInBounds s (.agg (cx k wd tk pp ps pl))).setIfInBounds 3 (.bool true),[]⟩ (w.alloc (.cells (cx k wd tk pp ps pl) 131))) :
  ((Code.region id #[{dst:=some s,op:=.build 131 #[(0,.const (.int .u8 k)),(1,.const (.string wd)),(2,.const (.int .i8 tk)),(3,.const (.string pp)),(4,.const (.string ps)),(5,.const (.bool pl))],type:=131,pos:=p1,after:=#[],guard:=none},
   {dst:=none,op:=.store 131 (.tmp 2) (.tmp s),type:=0,pos:=p2,after:=a2,guard:=none},{dst:=some 3,op:=.assign (.const (.bool true)),type:=4,pos:=p3,after:=a3,guard:=none}] false).seq .ret).wp prog Q ⟨ts,[]⟩ (w.alloc (.cells (cx 0 ⟨#[]⟩ 0 ⟨#[]⟩ ⟨#[]⟩ false) 131)):=by
 refine wp_seq (wp_region_lit ?_);refine wpList_plain rfl fun K hK=>?_
 have e1:(execOp ({ tmps:=ts,defers:=[] }:Act).eval { dst:=some s,op:=.build 131 #[(0,.const (.int .u8 k)),(1,.const (.string wd)),(2,.const (.int .i8 tk)),(3,.const (.string pp)),(4,.const (.string ps)),(5,.const (.bool pl))],type:=131,pos:=p1,after:=#[],guard:=none }).run prog (w.alloc (.cells (cx 0 ⟨#[]⟩ 0 ⟨#[]⟩ ⟨#[]⟩ false) 131))=.ok (.value (.agg (cx k wd tk pp ps pl))) (w.alloc (.cells (cx 0 ⟨#[]⟩ 0 ⟨#[]⟩ ⟨#[]⟩ false) 131)):=by
  simp[go_sem,cx]
 simp only[Oper.wp,e1,Oper.upon_value];refine hK _ _ (wpList_plain rfl fun K' hK'=>?_)
 have e2:(execOp ({ tmps:=ts.setIfInBounds s (.agg (cx k wd tk pp ps pl)),defers:=[] }:Act).eval { dst:=none,op:=.store 131 (.tmp 2) (.tmp s),type:=0,pos:=p2,after:=a2,guard:=none }).run prog (w.alloc (.cells (cx 0 ⟨#[]⟩ 0 ⟨#[]⟩ ⟨#[]⟩ false) 131))=.ok .skip (w.alloc (.cells (cx k wd tk pp ps pl) 131)):=by
  have g2:(ts.setIfInBounds s (.agg (cx k wd tk pp ps pl)))[2]?.getD undef=.pointer (some ⟨w.heap.size,0,none⟩):=by
   rw[Array.getElem?_setIfInBounds_ne ae]; exact h2
  simp only[cx]at g2 ⊢;simp[go_sem,g2,hz]
 show Oper.upon _ _ _ _ _ (Sem.run prog (execOp ({ tmps:=ts.setIfInBounds s (.agg (cx k wd tk pp ps pl)),defers:=[] }:Act).eval _) _);rw[e2,Oper.upon_skip];refine hK' _ _ (wpList_plain rfl fun K2 hK2=>?_)
 have e3:(execOp ({ tmps:=ts.setIfInBounds s (.agg (cx k wd tk pp ps pl)),defers:=[] }:Act).eval { dst:=some 3,op:=.assign (.const (.bool true)),type:=4,pos:=p3,after:=a3,guard:=none }).run prog (w.alloc (.cells (cx k wd tk pp ps pl) 131))=.ok (.value (.bool true)) (w.alloc (.cells (cx k wd tk pp ps pl) 131)):=by
  simp[go_sem]
 show Oper.upon _ _ _ _ _ (Sem.run prog (execOp ({ tmps:=ts.setIfInBounds s (.agg (cx k wd tk pp ps pl)),defers:=[] }:Act).eval _) _);rw[e3,Oper.upon_value];exact hK2 _ _ (wpList_nil (wp_ret hq))
abbrev aJ:=Int×ByteArray×Int×ByteArray×ByteArray×Bool
def iL:List aJ->Int->Array Value×Bool
 | [],_=>(cx 0 ⟨#[]⟩ 0 ⟨#[]⟩ ⟨#[]⟩ false,false)
 | x::r,c=>if c=x.1 then (cx x.1 x.2.1 x.2.2.1 x.2.2.2.1 x.2.2.2.2.1 x.2.2.2.2.2,true) else iL r c
def sA:List aJ:=[
 ((0,⟨#[116,114,97,112]⟩,0,⟨#[]⟩,⟨#[]⟩,false):aJ),
 ((1,⟨#[110,111,112]⟩,0,⟨#[]⟩,⟨#[]⟩,true):aJ),
 ((2,⟨#[98,108,111,99,107]⟩,1,⟨#[]⟩,⟨#[]⟩,false):aJ),
 ((3,⟨#[108,111,111,112]⟩,1,⟨#[]⟩,⟨#[]⟩,false):aJ),
 ((4,⟨#[105,102]⟩,1,⟨#[]⟩,⟨#[]⟩,false):aJ),
 ((5,⟨#[101,108,115,101]⟩,0,⟨#[]⟩,⟨#[]⟩,false):aJ),
 ((6,⟨#[101,110,100]⟩,0,⟨#[]⟩,⟨#[]⟩,false):aJ),
 ((7,⟨#[98,114]⟩,2,⟨#[]⟩,⟨#[]⟩,false):aJ),
 ((8,⟨#[98,114,105,102]⟩,2,⟨#[]⟩,⟨#[]⟩,false):aJ),
 ((9,⟨#[98,114,116,97,98,108,101]⟩,3,⟨#[]⟩,⟨#[]⟩,false):aJ),
 ((10,⟨#[114,101,116,117,114,110]⟩,0,⟨#[]⟩,⟨#[]⟩,false):aJ),
 ((11,⟨#[99,97,108,108]⟩,4,⟨#[]⟩,⟨#[]⟩,false):aJ),
 ((12,⟨#[104,111,115,116]⟩,5,⟨#[]⟩,⟨#[]⟩,false):aJ),
 ((16,⟨#[100,114,111,112]⟩,0,⟨#[]⟩,⟨#[]⟩,false):aJ),
 ((17,⟨#[115,101,108,101,99,116]⟩,0,⟨#[]⟩,⟨#[]⟩,false):aJ),
 ((18,⟨#[103,101,116]⟩,6,⟨#[]⟩,⟨#[]⟩,false):aJ),
 ((19,⟨#[115,101,116]⟩,6,⟨#[]⟩,⟨#[]⟩,false):aJ),
 ((20,⟨#[116,101,101]⟩,6,⟨#[]⟩,⟨#[]⟩,false):aJ),
 ((21,⟨#[103,103,101,116]⟩,7,⟨#[]⟩,⟨#[]⟩,false):aJ),
 ((22,⟨#[103,115,101,116]⟩,7,⟨#[]⟩,⟨#[]⟩,false):aJ),
 ((24,⟨#[119,46,99,111,110,115,116]⟩,8,⟨#[]⟩,⟨#[119]⟩,true):aJ),
 ((25,⟨#[108,46,99,111,110,115,116]⟩,8,⟨#[]⟩,⟨#[108]⟩,true):aJ),
 ((32,⟨#[119,46,108,111,97,100,56,117]⟩,9,⟨#[119]⟩,⟨#[119]⟩,true):aJ),
 ((33,⟨#[119,46,108,111,97,100,56,115]⟩,9,⟨#[119]⟩,⟨#[119]⟩,true):aJ),
 ((34,⟨#[119,46,108,111,97,100,49,54,117]⟩,9,⟨#[119]⟩,⟨#[119]⟩,true):aJ),
 ((35,⟨#[119,46,108,111,97,100,49,54,115]⟩,9,⟨#[119]⟩,⟨#[119]⟩,true):aJ),
 ((36,⟨#[119,46,108,111,97,100]⟩,9,⟨#[119]⟩,⟨#[119]⟩,true):aJ),
 ((37,⟨#[108,46,108,111,97,100]⟩,9,⟨#[119]⟩,⟨#[108]⟩,true):aJ),
 ((38,⟨#[119,46,115,116,111,114,101,56]⟩,9,⟨#[119,119]⟩,⟨#[]⟩,true):aJ),
 ((39,⟨#[119,46,115,116,111,114,101,49,54]⟩,9,⟨#[119,119]⟩,⟨#[]⟩,true):aJ),
 ((40,⟨#[119,46,115,116,111,114,101]⟩,9,⟨#[119,119]⟩,⟨#[]⟩,true):aJ),
 ((41,⟨#[108,46,115,116,111,114,101]⟩,9,⟨#[119,108]⟩,⟨#[]⟩,true):aJ),
 ((42,⟨#[115,105,122,101]⟩,0,⟨#[]⟩,⟨#[119]⟩,true):aJ),
 ((43,⟨#[103,114,111,119]⟩,0,⟨#[119]⟩,⟨#[119]⟩,true):aJ),
 ((48,⟨#[119,46,101,113,122]⟩,0,⟨#[119]⟩,⟨#[119]⟩,true):aJ),
 ((49,⟨#[119,46,101,113]⟩,0,⟨#[119,119]⟩,⟨#[119]⟩,true):aJ),
 ((50,⟨#[119,46,110,101]⟩,0,⟨#[119,119]⟩,⟨#[119]⟩,true):aJ),
 ((51,⟨#[119,46,108,116,115]⟩,0,⟨#[119,119]⟩,⟨#[119]⟩,true):aJ),
 ((52,⟨#[119,46,108,116,117]⟩,0,⟨#[119,119]⟩,⟨#[119]⟩,true):aJ),
 ((53,⟨#[119,46,108,101,115]⟩,0,⟨#[119,119]⟩,⟨#[119]⟩,true):aJ),
 ((54,⟨#[119,46,108,101,117]⟩,0,⟨#[119,119]⟩,⟨#[119]⟩,true):aJ),
 ((55,⟨#[119,46,99,108,122]⟩,0,⟨#[119]⟩,⟨#[119]⟩,true):aJ),
 ((56,⟨#[119,46,99,116,122]⟩,0,⟨#[119]⟩,⟨#[119]⟩,true):aJ),
 ((57,⟨#[119,46,112,111,112]⟩,0,⟨#[119]⟩,⟨#[119]⟩,true):aJ),
 ((58,⟨#[119,46,97,100,100]⟩,0,⟨#[119,119]⟩,⟨#[119]⟩,true):aJ),
 ((59,⟨#[119,46,115,117,98]⟩,0,⟨#[119,119]⟩,⟨#[119]⟩,true):aJ),
 ((60,⟨#[119,46,109,117,108]⟩,0,⟨#[119,119]⟩,⟨#[119]⟩,true):aJ),
 ((61,⟨#[119,46,100,105,118,115]⟩,0,⟨#[119,119]⟩,⟨#[119]⟩,true):aJ),
 ((62,⟨#[119,46,100,105,118,117]⟩,0,⟨#[119,119]⟩,⟨#[119]⟩,true):aJ),
 ((63,⟨#[119,46,114,101,109,115]⟩,0,⟨#[119,119]⟩,⟨#[119]⟩,true):aJ),
 ((64,⟨#[119,46,114,101,109,117]⟩,0,⟨#[119,119]⟩,⟨#[119]⟩,true):aJ),
 ((65,⟨#[119,46,97,110,100]⟩,0,⟨#[119,119]⟩,⟨#[119]⟩,true):aJ),
 ((66,⟨#[119,46,111,114]⟩,0,⟨#[119,119]⟩,⟨#[119]⟩,true):aJ),
 ((67,⟨#[119,46,120,111,114]⟩,0,⟨#[119,119]⟩,⟨#[119]⟩,true):aJ),
 ((68,⟨#[119,46,115,104,108]⟩,0,⟨#[119,119]⟩,⟨#[119]⟩,true):aJ),
 ((69,⟨#[119,46,115,104,114,115]⟩,0,⟨#[119,119]⟩,⟨#[119]⟩,true):aJ),
 ((70,⟨#[119,46,115,104,114,117]⟩,0,⟨#[119,119]⟩,⟨#[119]⟩,true):aJ),
 ((71,⟨#[119,46,114,111,116,108]⟩,0,⟨#[119,119]⟩,⟨#[119]⟩,true):aJ),
 ((72,⟨#[119,46,114,111,116,114]⟩,0,⟨#[119,119]⟩,⟨#[119]⟩,true):aJ),
 ((80,⟨#[108,46,101,113,122]⟩,0,⟨#[108]⟩,⟨#[119]⟩,true):aJ),
 ((81,⟨#[108,46,101,113]⟩,0,⟨#[108,108]⟩,⟨#[119]⟩,true):aJ),
 ((82,⟨#[108,46,110,101]⟩,0,⟨#[108,108]⟩,⟨#[119]⟩,true):aJ),
 ((83,⟨#[108,46,108,116,115]⟩,0,⟨#[108,108]⟩,⟨#[119]⟩,true):aJ),
 ((84,⟨#[108,46,108,116,117]⟩,0,⟨#[108,108]⟩,⟨#[119]⟩,true):aJ),
 ((85,⟨#[108,46,108,101,115]⟩,0,⟨#[108,108]⟩,⟨#[119]⟩,true):aJ),
 ((86,⟨#[108,46,108,101,117]⟩,0,⟨#[108,108]⟩,⟨#[119]⟩,true):aJ),
 ((87,⟨#[108,46,99,108,122]⟩,0,⟨#[108]⟩,⟨#[108]⟩,true):aJ),
 ((88,⟨#[108,46,99,116,122]⟩,0,⟨#[108]⟩,⟨#[108]⟩,true):aJ),
 ((89,⟨#[108,46,112,111,112]⟩,0,⟨#[108]⟩,⟨#[108]⟩,true):aJ),
 ((90,⟨#[108,46,97,100,100]⟩,0,⟨#[108,108]⟩,⟨#[108]⟩,true):aJ),
 ((91,⟨#[108,46,115,117,98]⟩,0,⟨#[108,108]⟩,⟨#[108]⟩,true):aJ),
 ((92,⟨#[108,46,109,117,108]⟩,0,⟨#[108,108]⟩,⟨#[108]⟩,true):aJ),
 ((93,⟨#[108,46,100,105,118,115]⟩,0,⟨#[108,108]⟩,⟨#[108]⟩,true):aJ),
 ((94,⟨#[108,46,100,105,118,117]⟩,0,⟨#[108,108]⟩,⟨#[108]⟩,true):aJ),
 ((95,⟨#[108,46,114,101,109,115]⟩,0,⟨#[108,108]⟩,⟨#[108]⟩,true):aJ),
 ((96,⟨#[108,46,114,101,109,117]⟩,0,⟨#[108,108]⟩,⟨#[108]⟩,true):aJ),
 ((97,⟨#[108,46,97,110,100]⟩,0,⟨#[108,108]⟩,⟨#[108]⟩,true):aJ),
 ((98,⟨#[108,46,111,114]⟩,0,⟨#[108,108]⟩,⟨#[108]⟩,true):aJ),
 ((99,⟨#[108,46,120,111,114]⟩,0,⟨#[108,108]⟩,⟨#[108]⟩,true):aJ),
 ((100,⟨#[108,46,115,104,108]⟩,0,⟨#[108,108]⟩,⟨#[108]⟩,true):aJ),
 ((101,⟨#[108,46,115,104,114,115]⟩,0,⟨#[108,108]⟩,⟨#[108]⟩,true):aJ),
 ((102,⟨#[108,46,115,104,114,117]⟩,0,⟨#[108,108]⟩,⟨#[108]⟩,true):aJ),
 ((103,⟨#[108,46,114,111,116,108]⟩,0,⟨#[108,108]⟩,⟨#[108]⟩,true):aJ),
 ((104,⟨#[108,46,114,111,116,114]⟩,0,⟨#[108,108]⟩,⟨#[108]⟩,true):aJ),
 ((112,⟨#[119,46,119,114,97,112]⟩,0,⟨#[108]⟩,⟨#[119]⟩,true):aJ),
 ((113,⟨#[108,46,101,120,116,101,110,100,115]⟩,0,⟨#[119]⟩,⟨#[108]⟩,true):aJ),
 ((114,⟨#[108,46,101,120,116,101,110,100,117]⟩,0,⟨#[119]⟩,⟨#[108]⟩,true):aJ),
 ((115,⟨#[119,46,101,120,116,56]⟩,0,⟨#[119]⟩,⟨#[119]⟩,true):aJ),
 ((116,⟨#[119,46,101,120,116,49,54]⟩,0,⟨#[119]⟩,⟨#[119]⟩,true):aJ),
 ((117,⟨#[108,46,101,120,116,51,50]⟩,0,⟨#[108]⟩,⟨#[108]⟩,true):aJ)]
def Fr(c:Int)(b:Nat)(ts:AVz):Prop:=ts.size=276/\ts[2]?.getD undef=.pointer (some ⟨b,0,none⟩)/\ts[4]?.getD undef=.int .u8 c
variable {b:Nat}
theorem Fr.put(h:Fr c b ts)(hs:4<s)(v:Value):Fr c b (ts.setIfInBounds s v):=by
 refine⟨by simpa using h.1,?_,?_⟩
 ·rw[Array.getElem?_setIfInBounds_ne ae]; exact h.2.1
 rw[Array.getElem?_setIfInBounds_ne ae]; exact h.2.2
def wP(w:World)(V:Array Value×Bool):Ending->World->Prop:=fun e w'=>e=.returned (.tuple #[.agg V.1,.bool V.2])/\w'=w.alloc (.cells V.1 131)
theorem Ax{V:Array Value×Bool}{pl ok:Bool}(hV:(cx k wd tk pp ps pl,ok)=V)
  (h2:ts[2]?.getD undef=.pointer (some ⟨w.heap.size,0,none⟩)) (h3:ts[3]?.getD undef=.bool ok):bodyPost prog Tryz.f76 (wP w V) .ret ⟨ts,[]⟩ (w.alloc (.cells (cx k wd tk pp ps pl) 131)):=by
 subst hV;refine bodyPost_ret (v:=.tuple #[.agg (cx k wd tk pp ps pl),.bool ok]) ?_ rfl ⟨rfl,rfl⟩;rw[results_cell_tmp rfl];simp only[cx];simp[go_sem,h2,h3]
variable {id' s2:Nat}{x:aJ}
theorem link{r:List aJ}{V:Array Value×Bool}{pos pos' p1 p2 p3:String}{af a2 a3:Array Edge}    
  (hQ:∀a w',bodyPost prog Tryz.f76 (wP w V) .ret a w'->Q .ret a w') (ht:Fr c w.heap.size ts) (hV:iL (x::r) c=V) (l1:4<s/\s<276) (l2:4<s'/\s'<276) (l3:4<s2/\s2<276)
  (next:iL r c=V->∀ts',Fr c w.heap.size ts'->y.wp prog Q ⟨ts',[]⟩ (w.alloc (.cells (cx 0 ⟨#[]⟩ 0 ⟨#[]⟩ ⟨#[]⟩ false) 131))) :
  ((Code.region id #[{dst:=some s',op:=.binOp .eql 5 (.tmp 4) (.const (.int .u8 x.1)) 5,type:=4,pos:=pos,after:=#[],guard:=none},{dst:=some s,op:=.assign (.tmp s'),type:=4,pos:=pos',after:=af,guard:=none}] false).seq (Code.cond (.tmp s)
   ((Code.region id' #[{dst:=some s2,op:=.build 131 #[(0,.const (.int .u8 x.1)),(1,.const (.string x.2.1)),(2,.const (.int .i8 x.2.2.1)),(3,.const (.string x.2.2.2.1)),(4,.const (.string x.2.2.2.2.1)),(5,.const (.bool x.2.2.2.2.2))],type:=131,pos:=p1,after:=#[],guard:=none},
   {dst:=none,op:=.store 131 (.tmp 2) (.tmp s2),type:=0,pos:=p2,after:=a2,guard:=none},{dst:=some 3,op:=.assign (.const (.bool true)),type:=4,pos:=p3,after:=a3,guard:=none}] false).seq .ret) y)).wp prog Q ⟨ts,[]⟩ (w.alloc (.cells (cx 0 ⟨#[]⟩ 0 ⟨#[]⟩ ⟨#[]⟩ false) 131)):=by
 have hts:=(ht.put l2.1 (.bool (c==x.1))).put l1.1 (.bool (c==x.1));refine Hr ht.2.2 (by rw[ht.1]; exact l1.2) (by rw[ht.1]; exact l2.2) (fun h=>?_) (fun h=>next (by rw[iL,if_neg h]at hV; exact hV) _ hts);refine MD hts.2.1 (by rw[hts.1]; exact l3.2) l3.1 (hQ _ _ (Ax (by rw[iL,if_pos h]at hV; exact hV) ?_ ?_))
 ·rw[Array.getElem?_setIfInBounds_ne ae];exact(hts.put l3.1 _).2.1
 rw[Array.getElem?_setIfInBounds_self_of_lt (by simp; have:=hts.1; simp at this; omega)];rfl
theorem VE(c:Int)(w:World):Calls prog 76 #[.int .u8 c] w (wP w (iL sA c)):=by
 obtain⟨V,hV⟩:∃V,iL sA c=V:=⟨_,rfl⟩;rw[hV];refine calls_of_wp func76 rfl ?_;obtain⟨ts,hts⟩:∃ts:Array Value,(#[.int .u8 c]:AVz)++Array.replicate (Tryz.f76.ntmps-(#[.int .u8 c]:AVz).size) undef=ts:=⟨_,rfl⟩
 have z0:ts.size=276:=by rw[<- hts]; simp[ntmps76]
 have t0:ts[0]?.getD undef=.int .u8 c:=by rw[<- hts]; simp
 rw[hts];clear hts;refine wp_seq (wp_region_lit ?_);refine iw rfl (v:=.pointer (some ⟨w.heap.size,0,none⟩)) (w':=w.alloc (.cells (cx 0 ⟨#[]⟩ 0 ⟨#[]⟩ ⟨#[]⟩ false) 131)) (by simp only[cx]; simp[go_sem]) ?_;refine iw rfl (v:=.bool false) (w':=w.alloc (.cells (cx 0 ⟨#[]⟩ 0 ⟨#[]⟩ ⟨#[]⟩ false) 131)) aG ?_;refine wpList_nil (wp_seq (wp_seq (wp_region_lit ?_)));refine iw rfl (v:=.int .u8 c) (w':=w.alloc (.cells (cx 0 ⟨#[]⟩ 0 ⟨#[]⟩ ⟨#[]⟩ false) 131)) (by simp[go_sem,Act.put,t0]) ?_;refine wpList_nil (wp_block ?_)
 have hts:Fr c w.heap.size (((ts.setIfInBounds 2 (.pointer (some ⟨w.heap.size,0,none⟩))).setIfInBounds 3 (.bool false)).setIfInBounds 4 (.int .u8 c)):=by
  refine⟨wU,?_,?_⟩
  ·rw[Array.getElem?_setIfInBounds_ne ae,Array.getElem?_setIfInBounds_ne ae,Array.getElem?_setIfInBounds_self_of_lt ae]; rfl
  rw[Array.getElem?_setIfInBounds_self_of_lt aK]; rfl
 show Code.wp _ _ _ ⟨((ts.setIfInBounds 2 (.pointer (some ⟨w.heap.size,0,none⟩))).setIfInBounds 3 (.bool false)).setIfInBounds 4 (.int .u8 c),[]⟩ _;generalize ((ts.setIfInBounds 2 (.pointer (some ⟨w.heap.size,0,none⟩))).setIfInBounds 3 (.bool false)).setIfInBounds 4 (.int .u8 c)=ts1 at hts ⊢;clear z0 t0;clear ts;unfold sA at hV
 iterate 90
  refine link ?_ hts hV ?_ ?_ ?_ ?_
  ·exact fun _ _ h=>h
  ·decide
  ·decide
  ·decide
  clear hV hts;intro hV ts hts
 refine wp_skip ?_;show Code.wp _ _ _ _ _;refine wp_seq (wp_region_lit ?_)
 have h275:(275:Nat)<ts.size:=by rw[hts.1]; decide
 refine iw rfl (v:=.agg (cx 0 ⟨#[]⟩ 0 ⟨#[]⟩ ⟨#[]⟩ false)) (w':=w.alloc (.cells (cx 0 ⟨#[]⟩ 0 ⟨#[]⟩ ⟨#[]⟩ false) 131)) (by simp only[cx]; simp[go_sem]) ?_;have g2:(ts.setIfInBounds 275 (.agg (cx 0 ⟨#[]⟩ 0 ⟨#[]⟩ ⟨#[]⟩ false)))[2]?.getD undef=.pointer (some ⟨w.heap.size,0,none⟩):=(hts.put aA _).2.1;refine step_skip rfl (w':=w.alloc (.cells (cx 0 ⟨#[]⟩ 0 ⟨#[]⟩ ⟨#[]⟩ false) 131)) (by simp only[cx]; simp[go_sem,Act.put,h275,hts.2.1]) ?_;refine iw rfl (v:=.bool false) (w':=w.alloc (.cells (cx 0 ⟨#[]⟩ 0 ⟨#[]⟩ ⟨#[]⟩ false) 131)) aG ?_;refine wpList_nil (wp_ret (Ax hV ?_ ?_))
 ·show((ts.setIfInBounds 275 _).setIfInBounds 3 _)[2]?.getD undef=_
  rw[Array.getElem?_setIfInBounds_ne ae];exact g2
 show((ts.setIfInBounds 275 _).setIfInBounds 3 _)[3]?.getD undef=_;rw[Array.getElem?_setIfInBounds_self_of_lt aK];rfl
def jg:aJ:=(0,⟨#[]⟩,0,⟨#[]⟩,⟨#[]⟩,false)
def rv(x:aJ):Array Value:=cx x.1 x.2.1 x.2.2.1 x.2.2.2.1 x.2.2.2.2.1 x.2.2.2.2.2
def rowAt(b:Nat)(x:aJ):List (Addr×Value):=[(⟨b,0,none⟩,.int .u8 x.1),(⟨b,1,none⟩,.string x.2.1),(⟨b,2,none⟩,.int .i8 x.2.2.1),(⟨b,3,none⟩,.string x.2.2.2.1),(⟨b,4,none⟩,.string x.2.2.2.2.1),(⟨b,5,none⟩,.bool x.2.2.2.2.2)]
theorem jb(h:Holds (rowAt b x) W) :
  (W.cell? ⟨b,0,none⟩=some (.int .u8 x.1)/\W.cell? ⟨b,1,none⟩=some (.string x.2.1)/\W.cell? ⟨b,2,none⟩=some (.int .i8 x.2.2.1)/\W.cell? ⟨b,3,none⟩=some (.string x.2.2.2.1)/\W.cell? ⟨b,4,none⟩=some (.string x.2.2.2.2.1)/\W.cell? ⟨b,5,none⟩=some (.bool x.2.2.2.2.2)) /\
  (W.frozen? ⟨b,0,none⟩=false/\W.frozen? ⟨b,1,none⟩=false/\W.frozen? ⟨b,2,none⟩=false/\W.frozen? ⟨b,3,none⟩=false/\W.frozen? ⟨b,4,none⟩=false/\W.frozen? ⟨b,5,none⟩=false):=by
 unfold rowAt at h;exact⟨⟨(h (⟨b,0,none⟩,_) aw).1,(h (⟨b,1,none⟩,_) aw).1,(h (⟨b,2,none⟩,_) aw).1,(h (⟨b,3,none⟩,_) aw).1,(h (⟨b,4,none⟩,_) aw).1,(h (⟨b,5,none⟩,_) aw).1⟩,
  (h _ (List.mem_cons_self ..)).2,(h (⟨b,1,none⟩,.string x.2.1) aw).2,(h (⟨b,2,none⟩,.int .i8 x.2.2.1) aw).2,(h (⟨b,3,none⟩,.string x.2.2.2.1) aw).2,(h (⟨b,4,none⟩,.string x.2.2.2.2.1) aw).2,(h (⟨b,5,none⟩,.bool x.2.2.2.2.2) aw).2⟩
theorem Holds.later{cs:List (Addr×Value)}(h:Holds cs A)(hb:Below n A B)(hn:∀p∈cs,p.1.block<n):Holds cs B :=
 fun p hp=>⟨(hb.cell (hn p hp)).trans (h p hp).1,(hb.frozen (hn p hp)).trans (h p hp).2⟩
def LZ(i:Nat)(c:Int):aJ:=(c,mt (kF i) c (kA i) (dK (kW i)),vh c,(rO c).1,(rO c).2,vC c)
def xy:Nat->Nat->Int->aJ×Bool
 | 0,_,_=>(jg,false)
 | n+1,i,c=>if kF i<=c/\c<=kL i then (LZ i c,true) else xy n (i+1) c
def ofV(c:Int):aJ×Bool:=xy 7 0 c
theorem of6(c:Int)(w:World)(hk:bg w)(h0:0<=c)(h1:c<=255):Calls prog 161 #[.int .u8 c] w fun e w'=>e=.returned (.tuple #[.agg (rv (ofV c).1),.bool (ofV c).2])/\Below w.heap.size w w':=by
 obtain⟨V,hV⟩:∃V,ofV c=V:=⟨_,rfl⟩;rw[hV];go_enter func161,ntmps161;refine wp_seq_k fun K1 hK1=>wp_region_lit ?_;refine iw rfl (v:=.pointer (some ⟨w.heap.size,0,none⟩)) (w':=w.alloc (mz 0 ⟨#[]⟩ 0 ⟨#[]⟩ ⟨#[]⟩ false)) aG ?_;refine iw rfl (v:=.bool false) (w':=w.alloc (mz 0 ⟨#[]⟩ 0 ⟨#[]⟩ ⟨#[]⟩ false)) aG ?_;refine wpList_nil (hK1 _ _ ?_);clear hK1;have hb:Below w.heap.size w (w.alloc (mz 0 ⟨#[]⟩ 0 ⟨#[]⟩ ⟨#[]⟩ false)):=(Below.refl _ w).alloc lRn _
 have hc:Holds (rowAt w.heap.size jg) (w.alloc (mz 0 ⟨#[]⟩ 0 ⟨#[]⟩ ⟨#[]⟩ false)):=by
  unfold rowAt jg
  refine Holds.cons ?_ ?_ (Holds.cons ?_ ?_ (Holds.cons ?_ ?_ (Holds.cons ?_ ?_ (Holds.cons ?_ ?_ (Holds.cons ?_ ?_ (by simp[Holds])))))) <;> simp[go_sem]
 refine wp_seq_k fun K2 hK2=>wp_seq_k fun K3 hK3=>wp_region_lit ?_;refine iw rfl (Bg (hk.later hb hk.pos) _ _ _ _ _) ?_;obtain⟨kv,hkv⟩:∃kv,s9=kv:=⟨_,rfl⟩;rw[hkv];have run_kind':∀(w:World)(i:Nat)(hi:i<7),(Instr.index 222 kv (.int .i64 i)).run prog w=.ok (.agg #[.int .u8 (kF i),.int .u8 (kL i),.string (kA i),.string (kW i)]) w:=fun w i hi=>hkv ▸ Ms i hi;have HK:=hid run_kind';clear run_kind' hkv;go_wp2_with fail
 go_loopw [9] (fun p wr=>∃i:Nat,p=.int .i64 i/\i<=7/\Below w.heap.size w wr/\Holds (rowAt w.heap.size jg) wr/\xy (7-i) i c=V) (fun p wr=>7-(intOf p).toNat)
 case atStart=>exact⟨0,rfl,aA,hb,hc,hV⟩
 case round =>
  clear hb hc hV;obtain⟨i,rfl,hi,hB,hR,hV⟩:=hrel
  by_cases h7:i=7
  ·subst h7;have hx:V=(jg,false):=hV.symm;subst hx;obtain⟨⟨d0,d1,d2,d3,d4,d5⟩,e0,e1,e2,e3,e4,e5⟩:=jb hR;go_wp2_with fail;refine bodyPost_ret (v:=.tuple #[.agg (rv jg),.bool false]) ?_ rfl ⟨rfl,?_⟩
   ·rw[results_cell_tmp rfl];go_simp;rfl
   exact(((((hB.setCell (p:=⟨w.heap.size,0,none⟩) aw _).setCell (p:=⟨w.heap.size,1,none⟩) aw _).setCell (p:=⟨w.heap.size,2,none⟩) aw _).setCell (p:=⟨w.heap.size,3,none⟩) aw _).setCell (p:=⟨w.heap.size,4,none⟩) aw _).setCell (p:=⟨w.heap.size,5,none⟩) aw _
  have hlt:(i:Int)<7:=ae;have hix:=HK.out wr i ae;obtain⟨f0,f1,f2,f3,f4,f5⟩:=C8 i ae;have HF:=hid ((RD (kF i) (kL i) c (kA i) (kW i) · f0 f3 f4 f5));obtain⟨n,hn⟩:∃n,7-i=n+1:=⟨6-i,ae⟩;rw[hn,xy]at hV;have hwd:(LZ i c).2.1=mt (kF i) c (kA i) (dK (kW i)):=rfl;generalize mt (kF i) c (kA i) (dK (kW i))=wd at HF hwd
  by_cases hin:kF i<=c/\c<=kL i
  ·obtain⟨g1,g2⟩:=hin;rw[if_pos ⟨g1,g2⟩]at hV;generalize kF i=f at *;generalize kL i=l at *;generalize kA i=a at *;generalize kW i=ws at *;go_wp2_with fail;refine(Nh c _ h0 h1).mono ?_;rintro e w2⟨rfl,rfl⟩;go_wp2_with fail;refine(HF.out _).mono ?_;rintro e w3⟨rfl,hb3⟩;go_wp2_with fail;refine(Pm c w3).mono ?_;rintro e w4⟨rfl,rfl⟩;go_wp2_with fail;refine(Qr c w4).mono ?_;rintro e w5⟨rfl,rfl⟩;have hwr:w.heap.size<wr.heap.size:=World.block_lt_of_cell? wr ⟨w.heap.size,0,none⟩ (jb hR).1.1
   have hR3:Holds (rowAt w.heap.size jg) w5:=(hR.grown (World.grownBy_alloc wr _ none) (fun r e=>iT)).later hb3 (by simp[rowAt]; omega);have hB3:Below w.heap.size w w5:=(hB.alloc hB.size _).trans (hb3.mono aK);clear hb3 hR;obtain⟨⟨d0,d1,d2,d3,d4,d5⟩,e0,e1,e2,e3,e4,e5⟩:=jb hR3;go_wp2_with fail;subst hV;refine bodyPost_ret (v:=.tuple #[.agg #[.int .u8 c,.string wd,.int .i8 (vh c),.string (rO c).1,.string (rO c).2,.bool (vC c)],.bool true]) ?_ rfl ⟨by rw[<- hwd]; rfl,?_⟩
   ·rw[results_cell_tmp rfl];go_simp
   exact(((((hB3.setCell (p:=⟨w.heap.size,0,none⟩) aw _).setCell (p:=⟨w.heap.size,1,none⟩) aw _).setCell (p:=⟨w.heap.size,2,none⟩) aw _).setCell (p:=⟨w.heap.size,3,none⟩) aw _).setCell (p:=⟨w.heap.size,4,none⟩) aw _).setCell (p:=⟨w.heap.size,5,none⟩) aw _
  rw[if_neg hin]at hV;have hwr:w.heap.size<wr.heap.size:=World.block_lt_of_cell? wr ⟨w.heap.size,0,none⟩ (jb hR).1.1;have hR2:=hid (hR.grown (World.grownBy_alloc wr (.cells #[.int .u8 (kF i),.int .u8 (kL i),.string (kA i),.string (kW i)] 221) none) (fun r e=>iT));have hB2:=hid (hB.alloc hB.size (.cells #[.int .u8 (kF i),.int .u8 (kL i),.string (kA i),.string (kW i)] 221));have hV2:=hid hV;clear hV hR hB;have hw:wrap64 ((i:Int)+1)=i+1:=eP;clear HF hwd f0 f1 f2 f3 f4 f5;generalize kF i=f at *;generalize kL i=l at *;generalize kA i=a at *;generalize kW i=ws at *
  by_cases hlow:c<f
  ·exact Mn
  have hhigh:l<c:=ae;exact Mn
end Go.Proofs.YtepcmfegggdjfaaGreatDoor

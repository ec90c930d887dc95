/-
  Texts Wc Wh.
-/
import Derived.RegionDies
import Derived.Test.YtheefojaplnnoaaGreatDoorY00
import Derived.Test.YtheefojaplnnoaaGreatDoorY05
import Derived.Test.YtheefojaplnnoaaGreatDoorY08
set_option linter.unusedVariables false
set_option maxRecDepth 100000
set_option maxHeartbeats 16000000
namespace Go.Proofs.YtheefojaplnnoaaGreatDoor
open Go.RowKit
theorem dL(w:World)(a b:Obj):Below w.heap.size w ((w.alloc a).alloc b)∧((w.alloc a).alloc b).heap.size=w.heap.size+1+1∧((w.alloc a).alloc b).heap[w.heap.size]? =some a∧((w.alloc a).alloc b).heap[w.heap.size+1]? =some b:=by
 refine⟨((Below.refl _ w).alloc (Nat.le_refl _) _).alloc ar _,ar,?_,?_⟩
 ·rw[(ag (w.alloc a) b).block _ ar];exact(MapKept.heap_alloc w a).1
 ·have:=(MapKept.heap_alloc (w.alloc a) b).1
  exact bJ
theorem AX(R g cap:Nat)(bs:List Int)(x:(ByteArray×ByteArray))(aa:Option Addr)(an ac:Nat)(A:Nat)(w:World)(h:Wr w R g cap bs)(hA:w.cell? ⟨A,0,none⟩=some (cW R))
  (P:(ByteArray×ByteArray)→Prop) (new:List Int) (hcall:∀W,Below w.heap.size w W→Calls Tryz.prog 133 #[cW R,.agg #[.string x.1,.string x.2],.slice aa an ac] W (fun e w'=>∃y:(ByteArray×ByteArray),e=.returned (.agg #[.string y.1,.string y.2])∧P y∧∃g' cap',Wr w' R g' cap' new∧Stp R g g' W w')) :
  Calls Tryz.prog 132 #[.agg #[.string x.1,.string x.2],.slice aa an ac,.pointer (some ⟨A,0,none⟩)] w (fun e w'=>∃y:(ByteArray×ByteArray),e=.returned (.agg #[.string y.1,.string y.2])∧P y∧∃g' cap',Wr w' R g' cap' new∧Stp R g g' w w'):=by
 obtain⟨B0,z0,x0,x1⟩:=dL w (aX x.1 x.2) (aX ⟨#[]⟩ ⟨#[]⟩);have hRl:=h.lt;have hgl:=h.g_lt;have hA1:=(B0.cell eH).trans hA;have HC:=hid (hcall _ B0);obtain⟨W1,hW1⟩:∃W1,(w.alloc (aX x.1 x.2)).alloc (aX ⟨#[]⟩ ⟨#[]⟩)=W1:=⟨_,rfl⟩;rw[hW1]at B0 z0 x0 x1 hA1 HC;have BW:=hid B0;obtain⟨a0,a1,_,_⟩:=bi x0;clear h B0 hA hcall
 go_enter Tryz.func132,Tryz.ntmps132
 go_wp2_with fail;refine HC.out.mono ?_;rintro e w5⟨y,rfl,hP,g',cap',hw5,hs5⟩;have q1:=(hs5.block (b:=w.heap.size+1) ae ae ae).trans x1;have n1:w.heap.size+1≠g':=hs5.ne ae ae;obtain⟨k0,k1,k2,k3⟩:=bi q1;have hl1:=block_lt_of_cell k0;have W5:=hid hw5;have S5:=hid ((Stp.of_below BW.out).trans hs5);clear hw5 hs5 x0 x1 q1 HC;go_wp2_with fail;refine bodyPost_ret (v:=.agg #[.string y.1,.string y.2]) ?_ rfl ⟨y,rfl,hP,g',cap',?_,?_⟩
 ·exact cu
 ·exact vz
 ·exact uM
theorem Fy(R g cap:Nat)(bs:List Int)(x:(ByteArray×ByteArray))(aa:Option Addr)(an ac:Nat)(A:Nat)(w:World)(h:Wr w R g cap bs)(hA:w.cell? ⟨A,0,none⟩=some (cW R))
  (er:Int) (hcall:∀W,Below w.heap.size w W→Calls Tryz.prog 133 #[cW R,.agg #[.string x.1,.string x.2],.slice aa an ac] W (aT R g er W)) :
  Calls Tryz.prog 132 #[.agg #[.string x.1,.string x.2],.slice aa an ac,.pointer (some ⟨A,0,none⟩)] w (aT R g er w):=by
 obtain⟨B0,z0,x0,x1⟩:=dL w (aX x.1 x.2) (aX ⟨#[]⟩ ⟨#[]⟩);have hRl:=h.lt;have hgl:=h.g_lt;have hA1:=(B0.cell eH).trans hA;have HC:=hid (hcall _ B0);obtain⟨W1,hW1⟩:∃W1,(w.alloc (aX x.1 x.2)).alloc (aX ⟨#[]⟩ ⟨#[]⟩)=W1:=⟨_,rfl⟩;rw[hW1]at B0 z0 x0 x1 hA1 HC;have BW:=hid B0;obtain⟨a0,a1,_,_⟩:=bi x0;clear h B0 hA hcall
 go_enter Tryz.func132,Tryz.ntmps132
 exact om
theorem AQ(R g cap:Nat)(bs:List Int)(x:(Int×Bool×Int))(aa:Option Addr)(an ac:Nat)(A:Nat)(w:World)(h:Wr w R g cap bs)(hA:w.cell? ⟨A,0,none⟩=some (cW R))
  (P:(Int×Bool×Int)→Prop) (new:List Int) (hcall:∀W,Below w.heap.size w W→Calls Tryz.prog 139 #[cW R,.agg #[.int .u8 x.1,.bool x.2.1,.int .u64 x.2.2]] W (fun e w'=>∃y:(Int×Bool×Int),e=.returned (.agg #[.int .u8 y.1,.bool y.2.1,.int .u64 y.2.2])∧P y∧∃g' cap',Wr w' R g' cap' new∧Stp R g g' W w')) :
  Calls Tryz.prog 138 #[.agg #[.int .u8 x.1,.bool x.2.1,.int .u64 x.2.2],.slice aa an ac,.pointer (some ⟨A,0,none⟩)] w (fun e w'=>∃y:(Int×Bool×Int),e=.returned (.agg #[.int .u8 y.1,.bool y.2.1,.int .u64 y.2.2])∧P y∧∃g' cap',Wr w' R g' cap' new∧Stp R g g' w w'):=by
 obtain⟨B0,z0,x0,x1⟩:=dL w (aQ x.1 x.2.1 x.2.2) (aQ 0 false 0);have hRl:=h.lt;have hgl:=h.g_lt;have hA1:=(B0.cell eH).trans hA;have HC:=hid (hcall _ B0);obtain⟨W1,hW1⟩:∃W1,(w.alloc (aQ x.1 x.2.1 x.2.2)).alloc (aQ 0 false 0)=W1:=⟨_,rfl⟩;rw[hW1]at B0 z0 x0 x1 hA1 HC;have BW:=hid B0;obtain⟨a0,a1,a2,_,_,_⟩:=aB x0;clear h B0 hA hcall
 go_enter Tryz.func138,Tryz.ntmps138
 go_wp2_with fail;refine HC.out.mono ?_;rintro e w5⟨y,rfl,hP,g',cap',hw5,hs5⟩;have q1:=(hs5.block (b:=w.heap.size+1) ae ae ae).trans x1;have n1:w.heap.size+1≠g':=hs5.ne ae ae;obtain⟨k0,k1,k2,k3,k4,k5⟩:=aB q1;have hl1:=block_lt_of_cell k0;have W5:=hid hw5;have S5:=hid ((Stp.of_below BW.out).trans hs5);clear hw5 hs5 x0 x1 q1 HC;go_wp2_with fail;refine bodyPost_ret (v:=.agg #[.int .u8 y.1,.bool y.2.1,.int .u64 y.2.2]) ?_ rfl ⟨y,rfl,hP,g',cap',?_,?_⟩
 ·exact cu
 ·exact(((W5.out.set (b:=w.heap.size+1) ae n1).set (b:=w.heap.size+1) ae n1).set (b:=w.heap.size+1) ae n1)
 ·exact(((S5.out.set ae).set ae).set ae)
theorem FJ(R g cap:Nat)(bs:List Int)(x:(Int×Bool×Int))(aa:Option Addr)(an ac:Nat)(A:Nat)(w:World)(h:Wr w R g cap bs)(hA:w.cell? ⟨A,0,none⟩=some (cW R))
  (er:Int) (hcall:∀W,Below w.heap.size w W→Calls Tryz.prog 139 #[cW R,.agg #[.int .u8 x.1,.bool x.2.1,.int .u64 x.2.2]] W (aT R g er W)) :
  Calls Tryz.prog 138 #[.agg #[.int .u8 x.1,.bool x.2.1,.int .u64 x.2.2],.slice aa an ac,.pointer (some ⟨A,0,none⟩)] w (aT R g er w):=by
 obtain⟨B0,z0,x0,x1⟩:=dL w (aQ x.1 x.2.1 x.2.2) (aQ 0 false 0);have hRl:=h.lt;have hgl:=h.g_lt;have hA1:=(B0.cell eH).trans hA;have HC:=hid (hcall _ B0);obtain⟨W1,hW1⟩:∃W1,(w.alloc (aQ x.1 x.2.1 x.2.2)).alloc (aQ 0 false 0)=W1:=⟨_,rfl⟩;rw[hW1]at B0 z0 x0 x1 hA1 HC;have BW:=hid B0;obtain⟨a0,a1,a2,_,_,_⟩:=aB x0;clear h B0 hA hcall
 go_enter Tryz.func138,Tryz.ntmps138
 exact om
theorem zt(R g cap:Nat)(bs:List Int)(x:(Int×(Option Addr×Nat×Nat)×List Int))(aa:Option Addr)(an ac:Nat)(A:Nat)(O:Nat)(fi:Int)(w:World)(h:Wr w R g cap bs)(hA:w.cell? ⟨A,0,none⟩=some (cW R))(hO:w.cell? ⟨O,3,none⟩=some (.int .i64 fi))(hf0:0≤fi)(hf1:fi≤64)
  (P:(Int×(Option Addr×Nat×Nat))→Prop) (new:List Int) (hcall:∀W,Below w.heap.size w W→Calls Tryz.prog 146 #[cW R,.agg #[.int .i64 x.1,.slice x.2.1.1 x.2.1.2.1 x.2.1.2.2],.slice aa an ac,.int .i64 (fi*4096)] W (fun e w'=>∃y:(Int×(Option Addr×Nat×Nat)),e=.returned (.agg #[.int .i64 y.1,.slice y.2.1 y.2.2.1 y.2.2.2])∧P y∧∃g' cap',Wr w' R g' cap' new∧Stp R g g' W w')) :
  Calls Tryz.prog 145 #[.agg #[.int .i64 x.1,.slice x.2.1.1 x.2.1.2.1 x.2.1.2.2],.slice aa an ac,.pointer (some ⟨A,0,none⟩),.pointer (some ⟨O,0,none⟩)] w (fun e w'=>∃y:(Int×(Option Addr×Nat×Nat)),e=.returned (.agg #[.int .i64 y.1,.slice y.2.1 y.2.2.1 y.2.2.2])∧P y∧∃g' cap',Wr w' R g' cap' new∧Stp R g g' w w'):=by
 obtain⟨B0,z0,x0,x1⟩:=dL w (aZ x.1 x.2.1.1 x.2.1.2.1 x.2.1.2.2) (aZ 0 none 0 0);have hRl:=h.lt;have hgl:=h.g_lt;have hA1:=(B0.cell eH).trans hA;have hO1:=(B0.cell (p:=⟨O,3,none⟩) j6).trans hO;have hwf:wrap64 (fi*4096)=fi*4096:=dv;have HC:=hid (hcall _ B0);obtain⟨W1,hW1⟩:∃W1,(w.alloc (aZ x.1 x.2.1.1 x.2.1.2.1 x.2.1.2.2)).alloc (aZ 0 none 0 0)=W1:=⟨_,rfl⟩;rw[hW1]at B0 z0 x0 x1 hA1 HC hO1;have BW:=hid B0;obtain⟨a0,a1,_,_⟩:=bi x0;clear h B0 hA hcall
 go_enter Tryz.func145,Tryz.ntmps145
 go_wp2_with fail;refine HC.out.mono ?_;rintro e w5⟨y,rfl,hP,g',cap',hw5,hs5⟩;have q1:=(hs5.block (b:=w.heap.size+1) ae ae ae).trans x1;have n1:w.heap.size+1≠g':=hs5.ne ae ae;obtain⟨k0,k1,k2,k3⟩:=bi q1;have hl1:=block_lt_of_cell k0;have W5:=hid hw5;have S5:=hid ((Stp.of_below BW.out).trans hs5);clear hw5 hs5 x0 x1 q1 HC;go_wp2_with fail;refine bodyPost_ret (v:=.agg #[.int .i64 y.1,.slice y.2.1 y.2.2.1 y.2.2.2]) ?_ rfl ⟨y,rfl,hP,g',cap',?_,?_⟩
 ·exact cu
 ·exact vz
 ·exact uM
theorem EO(R g cap:Nat)(bs:List Int)(x:(Int×(Option Addr×Nat×Nat)×List Int))(aa:Option Addr)(an ac:Nat)(A:Nat)(O:Nat)(fi:Int)(w:World)(h:Wr w R g cap bs)(hA:w.cell? ⟨A,0,none⟩=some (cW R))(hO:w.cell? ⟨O,3,none⟩=some (.int .i64 fi))(hf0:0≤fi)(hf1:fi≤64)
  (er:Int) (hcall:∀W,Below w.heap.size w W→Calls Tryz.prog 146 #[cW R,.agg #[.int .i64 x.1,.slice x.2.1.1 x.2.1.2.1 x.2.1.2.2],.slice aa an ac,.int .i64 (fi*4096)] W (aT R g er W)) :
  Calls Tryz.prog 145 #[.agg #[.int .i64 x.1,.slice x.2.1.1 x.2.1.2.1 x.2.1.2.2],.slice aa an ac,.pointer (some ⟨A,0,none⟩),.pointer (some ⟨O,0,none⟩)] w (aT R g er w):=by
 obtain⟨B0,z0,x0,x1⟩:=dL w (aZ x.1 x.2.1.1 x.2.1.2.1 x.2.1.2.2) (aZ 0 none 0 0);have hRl:=h.lt;have hgl:=h.g_lt;have hA1:=(B0.cell eH).trans hA;have hO1:=(B0.cell (p:=⟨O,3,none⟩) j6).trans hO;have hwf:wrap64 (fi*4096)=fi*4096:=dv;have HC:=hid (hcall _ B0);obtain⟨W1,hW1⟩:∃W1,(w.alloc (aZ x.1 x.2.1.1 x.2.1.2.1 x.2.1.2.2)).alloc (aZ 0 none 0 0)=W1:=⟨_,rfl⟩;rw[hW1]at B0 z0 x0 x1 hA1 HC hO1;have BW:=hid B0;obtain⟨a0,a1,_,_⟩:=bi x0;clear h B0 hA hcall
 go_enter Tryz.func145,Tryz.ntmps145
 exact om
theorem Ba(R g cap:Nat)(bs:List Int)(x:(ByteArray×Int))(aa:Option Addr)(an ac:Nat)(A:Nat)(O:Nat)(fa:Option Addr)(fn fc:Nat)(w:World)(h:Wr w R g cap bs)(hA:w.cell? ⟨A,0,none⟩=some (cW R))(hO:w.cell? ⟨O,5,none⟩=some (.slice fa fn fc))
  (P:(ByteArray×Int)→Prop) (new:List Int) (hcall:∀W,Below w.heap.size w W→Calls Tryz.prog 149 #[cW R,.agg #[.string x.1,.int .i64 x.2],.slice aa an ac,.int .i64 fn] W (fun e w'=>∃y:(ByteArray×Int),e=.returned (.agg #[.string y.1,.int .i64 y.2])∧P y∧∃g' cap',Wr w' R g' cap' new∧Stp R g g' W w')) :
  Calls Tryz.prog 148 #[.agg #[.string x.1,.int .i64 x.2],.slice aa an ac,.pointer (some ⟨A,0,none⟩),.pointer (some ⟨O,0,none⟩)] w (fun e w'=>∃y:(ByteArray×Int),e=.returned (.agg #[.string y.1,.int .i64 y.2])∧P y∧∃g' cap',Wr w' R g' cap' new∧Stp R g g' w w'):=by
 obtain⟨B0,z0,x0,x1⟩:=dL w (bj x.1 x.2) (bj ⟨#[]⟩ 0);have hRl:=h.lt;have hgl:=h.g_lt;have hA1:=(B0.cell eH).trans hA;have hO1:=(B0.cell (p:=⟨O,5,none⟩) j6).trans hO;have HC:=hid (hcall _ B0);obtain⟨W1,hW1⟩:∃W1,(w.alloc (bj x.1 x.2)).alloc (bj ⟨#[]⟩ 0)=W1:=⟨_,rfl⟩;rw[hW1]at B0 z0 x0 x1 hA1 HC hO1;have BW:=hid B0;obtain⟨a0,a1,_,_⟩:=bi x0;clear h B0 hA hcall
 go_enter Tryz.func148,Tryz.ntmps148
 go_wp2_with fail;refine HC.out.mono ?_;rintro e w5⟨y,rfl,hP,g',cap',hw5,hs5⟩;have q1:=(hs5.block (b:=w.heap.size+1) ae ae ae).trans x1;have n1:w.heap.size+1≠g':=hs5.ne ae ae;obtain⟨k0,k1,k2,k3⟩:=bi q1;have hl1:=block_lt_of_cell k0;have W5:=hid hw5;have S5:=hid ((Stp.of_below BW.out).trans hs5);clear hw5 hs5 x0 x1 q1 HC;go_wp2_with fail;refine bodyPost_ret (v:=.agg #[.string y.1,.int .i64 y.2]) ?_ rfl ⟨y,rfl,hP,g',cap',?_,?_⟩
 ·exact cu
 ·exact vz
 ·exact uM
theorem Fj(R g cap:Nat)(bs:List Int)(x:(ByteArray×Int))(aa:Option Addr)(an ac:Nat)(A:Nat)(O:Nat)(fa:Option Addr)(fn fc:Nat)(w:World)(h:Wr w R g cap bs)(hA:w.cell? ⟨A,0,none⟩=some (cW R))(hO:w.cell? ⟨O,5,none⟩=some (.slice fa fn fc))
  (er:Int) (hcall:∀W,Below w.heap.size w W→Calls Tryz.prog 149 #[cW R,.agg #[.string x.1,.int .i64 x.2],.slice aa an ac,.int .i64 fn] W (aT R g er W)) :
  Calls Tryz.prog 148 #[.agg #[.string x.1,.int .i64 x.2],.slice aa an ac,.pointer (some ⟨A,0,none⟩),.pointer (some ⟨O,0,none⟩)] w (aT R g er w):=by
 obtain⟨B0,z0,x0,x1⟩:=dL w (bj x.1 x.2) (bj ⟨#[]⟩ 0);have hRl:=h.lt;have hgl:=h.g_lt;have hA1:=(B0.cell eH).trans hA;have hO1:=(B0.cell (p:=⟨O,5,none⟩) j6).trans hO;have HC:=hid (hcall _ B0);obtain⟨W1,hW1⟩:∃W1,(w.alloc (bj x.1 x.2)).alloc (bj ⟨#[]⟩ 0)=W1:=⟨_,rfl⟩;rw[hW1]at B0 z0 x0 x1 hA1 HC hO1;have BW:=hid B0;obtain⟨a0,a1,_,_⟩:=bi x0;clear h B0 hA hcall
 go_enter Tryz.func148,Tryz.ntmps148
 exact om
theorem zH(R g cap:Nat)(bs:List Int)(x:Int)(aa:Option Addr)(an ac:Nat)(A O:Nat)(ta:Option Addr)(tn tc:Nat)(w:World)(h:Wr w R g cap bs)(hb:bs.length+10≤1099511627776)(hA:w.cell? ⟨A,0,none⟩=some (cW R))(hO:w.cell? ⟨O,0,none⟩=some (.slice ta tn tc))(h0:0≤x)(h1:x<tn)(h2:tn≤100000) :
  Calls Tryz.prog 135 #[.int .i64 x,.slice aa an ac,.pointer (some ⟨A,0,none⟩),.pointer (some ⟨O,0,none⟩)] w (pA R g bs (ax x) (.int .i64 x) w):=by
 have HX:=hid (gI R g cap bs x tn w h hb h0 h1 ae);clear h
 go_enter Tryz.func135,Tryz.ntmps135
 go_wp2_with fail;refine HX.out.mono ?_;rintro e w1⟨rfl,g',cap',hw1,hs1⟩;have W1:=hid hw1;have S1:=hid hs1;clear hw1 hs1 HX hA hO;go_wp2_with fail;go_ret;exact⟨rfl,g',cap',W1.out,S1.out⟩
theorem Fi(R g cap:Nat)(bs:List Int)(x:Int)(aa:Option Addr)(an ac:Nat)(A O:Nat)(ta:Option Addr)(tn tc:Nat)(w:World)(h:Wr w R g cap bs)(hA:w.cell? ⟨A,0,none⟩=some (cW R))(hO:w.cell? ⟨O,0,none⟩=some (.slice ta tn tc))(h0:-9223372036854775808≤x)(h1:x<9223372036854775808)(hx:x<0∨(tn:Int)≤x)(h2:tn≤100000) :
  Calls Tryz.prog 135 #[.int .i64 x,.slice aa an ac,.pointer (some ⟨A,0,none⟩),.pointer (some ⟨O,0,none⟩)] w (aT R g 30 w):=by
 have HX:=hid (lj R g cap bs x tn w h h0 h1 hx ae ae);clear h
 go_enter Tryz.func135,Tryz.ntmps135
 go_wp2_with fail;refine HX.out.mono ?_;rintro e w1⟨⟨q,rfl⟩,hk⟩;exact⟨rfl,⟨q,rfl⟩,hk⟩
theorem Ar(R g cap:Nat)(bs:List Int)(c v:Int)(mu:Bool)(w:World)(h:Wr w R g cap bs)(hl:isL c=false) :
  Calls Tryz.prog 139 #[cW R,.agg #[.int .u8 c,.bool mu,.int .u64 v]] w (aT R g 15 w):=by
 have hmo:=nJ;have hco:=qV;obtain⟨B0,z0,x0,x1⟩:=ki w c v mu;have HW:(w.alloc (aQ c mu v)).alloc (aQ 0 false 0)=pO w c v mu:=rfl;generalize pO w c v mu=W1 at *
 have H1:=hid (xY R g cap bs c 186 #[] 15 W1 (h.later B0) (fun _ _=>rfl) (um c _ W1 hl))
 have BW:=hid B0;obtain⟨a0,a1,a2,_,_,_⟩:=aB x0;clear h B0
 go_enter Tryz.func139,Tryz.ntmps139
 go_wp2_with fail;refine H1.out.mono ?_;rintro e w2⟨⟨p,rfl⟩,hk⟩;exact⟨rfl,⟨p,rfl⟩,(aN BW.out).trans hk⟩
theorem zJ(R g cap:Nat)(bs:List Int)(v:Int)(mu:Bool)(w:World)(h:Wr w R g cap bs)(hb:bs.length+100≤1099511627776)(v0:0≤v)(v1:v<18446744073709551616)(hv:¬v<4294967296) :
  Calls Tryz.prog 139 #[cW R,.agg #[.int .u8 119,.bool mu,.int .u64 v]] w (aT R g 17 w):=by
 have hmo:=nJ;have hco:=qV;have hms:=qb;have hcs:=yb;have hno:=tM;have hns:=qP;obtain⟨B0,z0,x0,x1⟩:=ki w 119 v mu;have HW:(w.alloc (aQ 119 mu v)).alloc (aQ 0 false 0)=pO w 119 v mu:=rfl;have hRl:=h.lt;have hgl:=h.g_lt;generalize pO w 119 v mu=W1 at *
 have H1:=hid (iB R g cap bs 119 186 #[] W1 (h.later B0) aj aj ae (fun _ _=>rfl) (nB 119 _ W1 rfl))
 have BW:=hid B0;obtain⟨a0,a1,a2,_,_,_⟩:=aB x0;clear h B0
 go_enter Tryz.func139,Tryz.ntmps139
 go_wp2_with fail;refine H1.out.mono ?_;rintro e w2⟨rfl,g1,cap1,hw2,hs2⟩;have y0:=(hs2.block (b:=w.heap.size) ae ae ae).trans x0;have y1:=(hs2.block (b:=w.heap.size+1) ae ae ae).trans x1;have n0:w.heap.size≠g1:=hs2.ne ae ae;have n1:w.heap.size+1≠g1:=hs2.ne ae ae;have S2:=hid ((Stp.of_below BW.out).trans hs2);have z2:=S2.out.size;have z2':=hs2.size;have gl2:=hw2.g_lt;obtain⟨w3,hw3⟩:∃w3,w2.alloc (jr 119)=w3:=⟨_,rfl⟩;have B3:Below w2.heap.size w2 w3:=uO
 have z3:w3.heap.size=w2.heap.size+1:=by rw[← hw3]; simp
 have l3:w3.cell? ⟨w2.heap.size,0,none⟩=some (.int .u8 119):=wV;have q0:=(B3.block w.heap.size ae).trans y0;have q1:=(B3.block (w.heap.size+1) ae).trans y1;obtain⟨b0,b1,b2,_,_,_⟩:=aB q0
 have HO2:=hid (iB R g1 cap1 (bs++[119]) (bit mu) 189 #[] w3.drew ((hw2.later B3).later (Below.refl _ _).drew) (mh mu).1 (mh mu).2 aI (fun _ _=>rfl) (J1 mu _ w3.drew))
 have HF:=hid (Jk mu);have BB3:=hid B3;clear hs2 hw2 H1 x0 x1 a0 a1 a2 y0 y1 B3 HW;go_wp2_with fail
 go_region_held3 (fun W=>W.cell? ⟨w.heap.size,1,none⟩=some (.bool mu)) (assumption) (first
  | (go_at_call 188; refine(HF.out _).mono ?_; rintro e w' ⟨rfl,rfl⟩)
  | (go_at_call 320; refine HO2.out.mono ?_; rintro e w4⟨rfl,g2,cap2,hw4,hs4⟩; have hS':w4.cell? ⟨w.heap.size,1,none⟩=some (.bool mu):=hs4.cell b1 ae n0; have W4:=hid hw4; have S4:=hid hs4; clear hw4 hs4))
 all_goals
  have f0:=(S4.out.block (b:=w.heap.size) aI ae n0).trans q0;have f1:=(S4.out.block (b:=w.heap.size+1) aI ae n1).trans q1;have f2:=S4.out.cell (b:=w2.heap.size) l3 ae ae;obtain⟨d0,d1,d2,_,_,_⟩:=aB f0;have m0:w.heap.size≠g2:=S4.out.ne aI n0;have m1:w.heap.size+1≠g2:=S4.out.ne aI n1;have m2:w2.heap.size≠g2:=S4.out.ne aI ae;have z4:w3.heap.size≤w4.heap.size:=S4.out.size;have S4':=hid ((S2.out.trans (Stp.of_below BB3.out)).trans ((Stp.of_below ((Below.refl _ _).drew)).trans S4.out))
  have HWS:=hid (fun W=>lR 119 v mu W v0 v1)
  clear S4 HO2 HF hS' q0 q1 b0 b1 b2 l3 hno hmo hco;go_wp2_with fail
  have HSG:=hid (fun W (hW:Below w4.heap.size w4 W)=>xg R g2 cap2 (bs++[119]++[bit mu]) (sgn 119 v) 191 #[.pointer (some ⟨w2.heap.size,0,none⟩)] 17 W (W4.out.later hW) (fun _ _=>rfl) (Fu w2.heap.size v _ W v0 v1 ((hW.cell wJ).trans f2) ae))
  have HB4:=hid (fun(W5:World) (hb:Below w4.heap.size w4.drew W5)=>(Below.trans ((Below.refl w4.heap.size w4).drew) hb:Below w4.heap.size w4 W5))
  have HC4:=hid (fun(W5:World) (hb:Below w4.heap.size w4 W5)=>(⟨(hb.cell (by exact block_lt_of_cell d0)).trans d0,(hb.cell (by exact block_lt_of_cell d1)).trans d1,(hb.cell (by exact block_lt_of_cell d2)).trans d2⟩:W5.cell? ⟨w.heap.size,0,none⟩=some (.int .u8 119)∧W5.cell? ⟨w.heap.size,1,none⟩=some (.bool mu)∧W5.cell? ⟨w.heap.size,2,none⟩=some (.int .u64 v)))
  refine wp_region_held_drew (S:=(fun W=>W.cell? ⟨w.heap.size,0,none⟩=some (.int .u8 119)∧W.cell? ⟨w.heap.size,1,none⟩=some (.bool mu)∧W.cell? ⟨w.heap.size,2,none⟩=some (.int .u64 v))) ai ⟨d0,d1,d2⟩ (fun hHeld=>?_)
  refine tkC (i:=0) rfl ?_;(try simp only[Act.put,sIB]);refine tkC (i:=1) rfl ?_;(try simp only[Act.put]);refine tkC (i:=3) rfl ?_;(try simp only[Act.put]);refine tkC (i:=4) rfl ?_;(try simp only[Act.put]);refine rdY (rs:=[2,5]) ?_
  refine AllReadyH.cons rfl (fun K hK=>?_) (AllReadyH.cons rfl (fun K hK=>?_) rN)
  ·go_simp;refine(HWS.out _).mono ?_;rintro e w5⟨rfl,hb5⟩;have hB5:=hid (HB4.out w5 hb5);clear hb5
   refine hK.out _ _ (HC4.out w5 hB5.out) (fun hHeld2=>?_)
   clear hK K;refine rdY (rs:=[5]) ?_
   refine AllReadyH.cons rfl (fun K hK=>?_) rN
   go_simp
   refine hK.out _ _ hHeld2 (fun hHeld3=>?_)
   clear hK K;refine tkC (i:=6) rfl ?_;(try simp only[Act.put,sIB]);exact F8
  ·go_simp
   refine hK.out _ _ hHeld (fun hHeld2=>?_)
   clear hK K;refine tkC (i:=6) rfl ?_;(try simp only[Act.put,sIB]);refine rdY (rs:=[2]) ?_
   refine AllReadyH.cons rfl (fun K hK=>?_) rN
   go_simp;refine(HWS.out _).mono ?_;rintro e w5⟨rfl,hb5⟩;have hB5:=hid (HB4.out w5 hb5);clear hb5
   refine hK.out _ _ (HC4.out w5 hB5.out) (fun hHeld3=>?_)
   clear hK K;exact F8
end Go.Proofs.YtheefojaplnnoaaGreatDoor

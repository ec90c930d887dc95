/-
  Texts Wc Wh Nz Lin.
-/
import Derived.RegionDies
import Derived.Test.YtepnnenohjfkbaaGreatDoorP00
import Derived.Test.YtepnnenohjfkbaaGreatDoorP03
import Derived.Test.YtepnnenohjfkbaaGreatDoorP04
set_option linter.unusedVariables false
set_option maxRecDepth 100000
set_option maxHeartbeats 16000000
namespace Go.Proofs.YtepnnenohjfkbaaGreatDoor
open Go.RowKit
theorem gj (w : World) (a b : Obj) : Below w.heap.size w ((w.alloc a).alloc b) ∧ ((w.alloc a).alloc b).heap.size = w.heap.size + 1 + 1 ∧ ((w.alloc a).alloc b).heap[w.heap.size]? = some a ∧ ((w.alloc a).alloc b).heap[w.heap.size + 1]? = some b:=by
 refine ⟨((Below.refl _ w).alloc (Nat.le_refl _) _).alloc ak _,ak,?_,?_⟩
 ·rw [(aj (w.alloc a) b).block _ ak];exact (MapKept.heap_alloc w a).1
 ·have:=(MapKept.heap_alloc (w.alloc a) b).1
  exact bY
theorem AO (R g cap : Nat) (bs : List Int) (x : (ByteArray × ByteArray)) (aa : Option Addr) (an ac : Nat) (A : Nat)  (w : World) (h : Wr w R g cap bs) (hA : w.cell? ⟨A,0,none⟩ = some (cW R))
  (P : (ByteArray × ByteArray) → Prop) (new : List Int) (hcall : ∀ W,Below w.heap.size w W → Calls Tryz.prog 115 #[cW R,.agg #[.string x.1,.string x.2],.slice aa an ac] W (fun e w' => ∃ y : (ByteArray × ByteArray),e = .returned (.agg #[.string y.1,.string y.2]) ∧ P y ∧ ∃ g' cap',Wr w' R g' cap' new ∧ Stp R g g' W w')) :
  Calls Tryz.prog 114 #[.agg #[.string x.1,.string x.2],.slice aa an ac,.pointer (some ⟨A,0,none⟩)] w (fun e w' => ∃ y : (ByteArray × ByteArray),e = .returned (.agg #[.string y.1,.string y.2]) ∧ P y ∧ ∃ g' cap',Wr w' R g' cap' new ∧ Stp R g g' w w'):=by
 obtain ⟨B0,z0,x0,x1⟩:=gj w (aB x.1 x.2) (aB ⟨#[]⟩ ⟨#[]⟩);have hRl:=h.lt;have hgl:=h.g_lt;have hA1:=(B0.cell gP).trans hA;have HC:=hid (hcall _ B0);obtain ⟨W1,hW1⟩ : ∃ W1,(w.alloc (aB x.1 x.2)).alloc (aB ⟨#[]⟩ ⟨#[]⟩) = W1:=⟨_,rfl⟩;rw [hW1] at B0 z0 x0 x1 hA1 HC;have BW:=hid B0;obtain ⟨a0,a1,_,_⟩:=bS x0;clear h B0 hA hcall
 go_enter Tryz.func114,Tryz.ntmps114
 go_wp2_with fail;refine HC.out.mono ?_;rintro e w5 ⟨y,rfl,hP,g',cap',hw5,hs5⟩;have q1:=(hs5.block (b:=w.heap.size + 1) ae ae ae).trans x1;have n1 : w.heap.size + 1 ≠ g':=hs5.ne ae ae;obtain ⟨k0,k1,k2,k3⟩:=bS q1;have hl1:=block_lt_of_cell k0;have W5:=hid hw5;have S5:=hid ((Stp.of_below BW.out).trans hs5);clear hw5 hs5 x0 x1 q1 HC;go_wp2_with fail;refine bodyPost_ret (v:=.agg #[.string y.1,.string y.2]) ?_ rfl ⟨y,rfl,hP,g',cap',?_,?_⟩
 ·exact fH
 ·exact tY
 ·exact vw
theorem FO (R g cap : Nat) (bs : List Int) (x : (ByteArray × ByteArray)) (aa : Option Addr) (an ac : Nat) (A : Nat)  (w : World) (h : Wr w R g cap bs) (hA : w.cell? ⟨A,0,none⟩ = some (cW R))
  (er : Int) (hcall : ∀ W,Below w.heap.size w W → Calls Tryz.prog 115 #[cW R,.agg #[.string x.1,.string x.2],.slice aa an ac] W (aR R g er W)) :
  Calls Tryz.prog 114 #[.agg #[.string x.1,.string x.2],.slice aa an ac,.pointer (some ⟨A,0,none⟩)] w (aR R g er w):=by
 obtain ⟨B0,z0,x0,x1⟩:=gj w (aB x.1 x.2) (aB ⟨#[]⟩ ⟨#[]⟩);have hRl:=h.lt;have hgl:=h.g_lt;have hA1:=(B0.cell gP).trans hA;have HC:=hid (hcall _ B0);obtain ⟨W1,hW1⟩ : ∃ W1,(w.alloc (aB x.1 x.2)).alloc (aB ⟨#[]⟩ ⟨#[]⟩) = W1:=⟨_,rfl⟩;rw [hW1] at B0 z0 x0 x1 hA1 HC;have BW:=hid B0;obtain ⟨a0,a1,_,_⟩:=bS x0;clear h B0 hA hcall
 go_enter Tryz.func114,Tryz.ntmps114
 exact mZ
theorem zZ (R g cap : Nat) (bs : List Int) (x : (Int × Bool × Int)) (aa : Option Addr) (an ac : Nat) (A : Nat)  (w : World) (h : Wr w R g cap bs) (hA : w.cell? ⟨A,0,none⟩ = some (cW R))
  (P : (Int × Bool × Int) → Prop) (new : List Int) (hcall : ∀ W,Below w.heap.size w W → Calls Tryz.prog 121 #[cW R,.agg #[.int .u8 x.1,.bool x.2.1,.int .u64 x.2.2]] W (fun e w' => ∃ y : (Int × Bool × Int),e = .returned (.agg #[.int .u8 y.1,.bool y.2.1,.int .u64 y.2.2]) ∧ P y ∧ ∃ g' cap',Wr w' R g' cap' new ∧ Stp R g g' W w')) :
  Calls Tryz.prog 120 #[.agg #[.int .u8 x.1,.bool x.2.1,.int .u64 x.2.2],.slice aa an ac,.pointer (some ⟨A,0,none⟩)] w (fun e w' => ∃ y : (Int × Bool × Int),e = .returned (.agg #[.int .u8 y.1,.bool y.2.1,.int .u64 y.2.2]) ∧ P y ∧ ∃ g' cap',Wr w' R g' cap' new ∧ Stp R g g' w w'):=by
 obtain ⟨B0,z0,x0,x1⟩:=gj w (bC x.1 x.2.1 x.2.2) (bC 0 false 0);have hRl:=h.lt;have hgl:=h.g_lt;have hA1:=(B0.cell gP).trans hA;have HC:=hid (hcall _ B0);obtain ⟨W1,hW1⟩ : ∃ W1,(w.alloc (bC x.1 x.2.1 x.2.2)).alloc (bC 0 false 0) = W1:=⟨_,rfl⟩;rw [hW1] at B0 z0 x0 x1 hA1 HC;have BW:=hid B0;obtain ⟨a0,a1,a2,_,_,_⟩:=aK x0;clear h B0 hA hcall
 go_enter Tryz.func120,Tryz.ntmps120
 go_wp2_with fail;refine HC.out.mono ?_;rintro e w5 ⟨y,rfl,hP,g',cap',hw5,hs5⟩;have q1:=(hs5.block (b:=w.heap.size + 1) ae ae ae).trans x1;have n1 : w.heap.size + 1 ≠ g':=hs5.ne ae ae;obtain ⟨k0,k1,k2,k3,k4,k5⟩:=aK q1;have hl1:=block_lt_of_cell k0;have W5:=hid hw5;have S5:=hid ((Stp.of_below BW.out).trans hs5);clear hw5 hs5 x0 x1 q1 HC;go_wp2_with fail;refine bodyPost_ret (v:=.agg #[.int .u8 y.1,.bool y.2.1,.int .u64 y.2.2]) ?_ rfl ⟨y,rfl,hP,g',cap',?_,?_⟩
 ·exact fH
 ·exact (((W5.out.set (b:=w.heap.size + 1) ae n1).set (b:=w.heap.size + 1) ae n1).set (b:=w.heap.size + 1) ae n1)
 ·exact (((S5.out.set ae).set ae).set ae)
theorem Gh (R g cap : Nat) (bs : List Int) (x : (Int × Bool × Int)) (aa : Option Addr) (an ac : Nat) (A : Nat)  (w : World) (h : Wr w R g cap bs) (hA : w.cell? ⟨A,0,none⟩ = some (cW R))
  (er : Int) (hcall : ∀ W,Below w.heap.size w W → Calls Tryz.prog 121 #[cW R,.agg #[.int .u8 x.1,.bool x.2.1,.int .u64 x.2.2]] W (aR R g er W)) :
  Calls Tryz.prog 120 #[.agg #[.int .u8 x.1,.bool x.2.1,.int .u64 x.2.2],.slice aa an ac,.pointer (some ⟨A,0,none⟩)] w (aR R g er w):=by
 obtain ⟨B0,z0,x0,x1⟩:=gj w (bC x.1 x.2.1 x.2.2) (bC 0 false 0);have hRl:=h.lt;have hgl:=h.g_lt;have hA1:=(B0.cell gP).trans hA;have HC:=hid (hcall _ B0);obtain ⟨W1,hW1⟩ : ∃ W1,(w.alloc (bC x.1 x.2.1 x.2.2)).alloc (bC 0 false 0) = W1:=⟨_,rfl⟩;rw [hW1] at B0 z0 x0 x1 hA1 HC;have BW:=hid B0;obtain ⟨a0,a1,a2,_,_,_⟩:=aK x0;clear h B0 hA hcall
 go_enter Tryz.func120,Tryz.ntmps120
 exact mZ
theorem zx (R g cap : Nat) (bs : List Int) (x : (Int × (Option Addr × Nat × Nat) × List Int)) (aa : Option Addr) (an ac : Nat) (A : Nat) (O : Nat) (fi : Int) (w : World) (h : Wr w R g cap bs) (hA : w.cell? ⟨A,0,none⟩ = some (cW R)) (hO : w.cell? ⟨O,3,none⟩ = some (.int .i64 fi)) (hf0 : 0 ≤ fi) (hf1 : fi ≤ 64)
  (P : (Int × (Option Addr × Nat × Nat)) → Prop) (new : List Int) (hcall : ∀ W,Below w.heap.size w W → Calls Tryz.prog 128 #[cW R,.agg #[.int .i64 x.1,.slice x.2.1.1 x.2.1.2.1 x.2.1.2.2],.slice aa an ac,.int .i64 (fi * 4096)] W (fun e w' => ∃ y : (Int × (Option Addr × Nat × Nat)),e = .returned (.agg #[.int .i64 y.1,.slice y.2.1 y.2.2.1 y.2.2.2]) ∧ P y ∧ ∃ g' cap',Wr w' R g' cap' new ∧ Stp R g g' W w')) :
  Calls Tryz.prog 127 #[.agg #[.int .i64 x.1,.slice x.2.1.1 x.2.1.2.1 x.2.1.2.2],.slice aa an ac,.pointer (some ⟨A,0,none⟩),.pointer (some ⟨O,0,none⟩)] w (fun e w' => ∃ y : (Int × (Option Addr × Nat × Nat)),e = .returned (.agg #[.int .i64 y.1,.slice y.2.1 y.2.2.1 y.2.2.2]) ∧ P y ∧ ∃ g' cap',Wr w' R g' cap' new ∧ Stp R g g' w w'):=by
 obtain ⟨B0,z0,x0,x1⟩:=gj w (bi x.1 x.2.1.1 x.2.1.2.1 x.2.1.2.2) (bi 0 none 0 0);have hRl:=h.lt;have hgl:=h.g_lt;have hA1:=(B0.cell gP).trans hA;have hO1:=(B0.cell (p:=⟨O,3,none⟩) nR).trans hO;have hwf : wrap64 (fi * 4096) = fi * 4096:=dS;have HC:=hid (hcall _ B0);obtain ⟨W1,hW1⟩ : ∃ W1,(w.alloc (bi x.1 x.2.1.1 x.2.1.2.1 x.2.1.2.2)).alloc (bi 0 none 0 0) = W1:=⟨_,rfl⟩;rw [hW1] at B0 z0 x0 x1 hA1 HC hO1;have BW:=hid B0;obtain ⟨a0,a1,_,_⟩:=bS x0;clear h B0 hA hcall
 go_enter Tryz.func127,Tryz.ntmps127
 go_wp2_with fail;refine HC.out.mono ?_;rintro e w5 ⟨y,rfl,hP,g',cap',hw5,hs5⟩;have q1:=(hs5.block (b:=w.heap.size + 1) ae ae ae).trans x1;have n1 : w.heap.size + 1 ≠ g':=hs5.ne ae ae;obtain ⟨k0,k1,k2,k3⟩:=bS q1;have hl1:=block_lt_of_cell k0;have W5:=hid hw5;have S5:=hid ((Stp.of_below BW.out).trans hs5);clear hw5 hs5 x0 x1 q1 HC;go_wp2_with fail;refine bodyPost_ret (v:=.agg #[.int .i64 y.1,.slice y.2.1 y.2.2.1 y.2.2.2]) ?_ rfl ⟨y,rfl,hP,g',cap',?_,?_⟩
 ·exact fH
 ·exact tY
 ·exact vw
theorem FT (R g cap : Nat) (bs : List Int) (x : (Int × (Option Addr × Nat × Nat) × List Int)) (aa : Option Addr) (an ac : Nat) (A : Nat) (O : Nat) (fi : Int) (w : World) (h : Wr w R g cap bs) (hA : w.cell? ⟨A,0,none⟩ = some (cW R)) (hO : w.cell? ⟨O,3,none⟩ = some (.int .i64 fi)) (hf0 : 0 ≤ fi) (hf1 : fi ≤ 64)
  (er : Int) (hcall : ∀ W,Below w.heap.size w W → Calls Tryz.prog 128 #[cW R,.agg #[.int .i64 x.1,.slice x.2.1.1 x.2.1.2.1 x.2.1.2.2],.slice aa an ac,.int .i64 (fi * 4096)] W (aR R g er W)) :
  Calls Tryz.prog 127 #[.agg #[.int .i64 x.1,.slice x.2.1.1 x.2.1.2.1 x.2.1.2.2],.slice aa an ac,.pointer (some ⟨A,0,none⟩),.pointer (some ⟨O,0,none⟩)] w (aR R g er w):=by
 obtain ⟨B0,z0,x0,x1⟩:=gj w (bi x.1 x.2.1.1 x.2.1.2.1 x.2.1.2.2) (bi 0 none 0 0);have hRl:=h.lt;have hgl:=h.g_lt;have hA1:=(B0.cell gP).trans hA;have hO1:=(B0.cell (p:=⟨O,3,none⟩) nR).trans hO;have hwf : wrap64 (fi * 4096) = fi * 4096:=dS;have HC:=hid (hcall _ B0);obtain ⟨W1,hW1⟩ : ∃ W1,(w.alloc (bi x.1 x.2.1.1 x.2.1.2.1 x.2.1.2.2)).alloc (bi 0 none 0 0) = W1:=⟨_,rfl⟩;rw [hW1] at B0 z0 x0 x1 hA1 HC hO1;have BW:=hid B0;obtain ⟨a0,a1,_,_⟩:=bS x0;clear h B0 hA hcall
 go_enter Tryz.func127,Tryz.ntmps127
 exact mZ
theorem zt (R g cap : Nat) (bs : List Int) (x : (ByteArray × Int)) (aa : Option Addr) (an ac : Nat) (A : Nat) (O : Nat) (fa : Option Addr) (fn fc : Nat) (w : World) (h : Wr w R g cap bs) (hA : w.cell? ⟨A,0,none⟩ = some (cW R)) (hO : w.cell? ⟨O,5,none⟩ = some (.slice fa fn fc))
  (P : (ByteArray × Int) → Prop) (new : List Int) (hcall : ∀ W,Below w.heap.size w W → Calls Tryz.prog 131 #[cW R,.agg #[.string x.1,.int .i64 x.2],.slice aa an ac,.int .i64 fn] W (fun e w' => ∃ y : (ByteArray × Int),e = .returned (.agg #[.string y.1,.int .i64 y.2]) ∧ P y ∧ ∃ g' cap',Wr w' R g' cap' new ∧ Stp R g g' W w')) :
  Calls Tryz.prog 130 #[.agg #[.string x.1,.int .i64 x.2],.slice aa an ac,.pointer (some ⟨A,0,none⟩),.pointer (some ⟨O,0,none⟩)] w (fun e w' => ∃ y : (ByteArray × Int),e = .returned (.agg #[.string y.1,.int .i64 y.2]) ∧ P y ∧ ∃ g' cap',Wr w' R g' cap' new ∧ Stp R g g' w w'):=by
 obtain ⟨B0,z0,x0,x1⟩:=gj w (bH x.1 x.2) (bH ⟨#[]⟩ 0);have hRl:=h.lt;have hgl:=h.g_lt;have hA1:=(B0.cell gP).trans hA;have hO1:=(B0.cell (p:=⟨O,5,none⟩) nR).trans hO;have HC:=hid (hcall _ B0);obtain ⟨W1,hW1⟩ : ∃ W1,(w.alloc (bH x.1 x.2)).alloc (bH ⟨#[]⟩ 0) = W1:=⟨_,rfl⟩;rw [hW1] at B0 z0 x0 x1 hA1 HC hO1;have BW:=hid B0;obtain ⟨a0,a1,_,_⟩:=bS x0;clear h B0 hA hcall
 go_enter Tryz.func130,Tryz.ntmps130
 go_wp2_with fail;refine HC.out.mono ?_;rintro e w5 ⟨y,rfl,hP,g',cap',hw5,hs5⟩;have q1:=(hs5.block (b:=w.heap.size + 1) ae ae ae).trans x1;have n1 : w.heap.size + 1 ≠ g':=hs5.ne ae ae;obtain ⟨k0,k1,k2,k3⟩:=bS q1;have hl1:=block_lt_of_cell k0;have W5:=hid hw5;have S5:=hid ((Stp.of_below BW.out).trans hs5);clear hw5 hs5 x0 x1 q1 HC;go_wp2_with fail;refine bodyPost_ret (v:=.agg #[.string y.1,.int .i64 y.2]) ?_ rfl ⟨y,rfl,hP,g',cap',?_,?_⟩
 ·exact fH
 ·exact tY
 ·exact vw
theorem Gj (R g cap : Nat) (bs : List Int) (x : (ByteArray × Int)) (aa : Option Addr) (an ac : Nat) (A : Nat) (O : Nat) (fa : Option Addr) (fn fc : Nat) (w : World) (h : Wr w R g cap bs) (hA : w.cell? ⟨A,0,none⟩ = some (cW R)) (hO : w.cell? ⟨O,5,none⟩ = some (.slice fa fn fc))
  (er : Int) (hcall : ∀ W,Below w.heap.size w W → Calls Tryz.prog 131 #[cW R,.agg #[.string x.1,.int .i64 x.2],.slice aa an ac,.int .i64 fn] W (aR R g er W)) :
  Calls Tryz.prog 130 #[.agg #[.string x.1,.int .i64 x.2],.slice aa an ac,.pointer (some ⟨A,0,none⟩),.pointer (some ⟨O,0,none⟩)] w (aR R g er w):=by
 obtain ⟨B0,z0,x0,x1⟩:=gj w (bH x.1 x.2) (bH ⟨#[]⟩ 0);have hRl:=h.lt;have hgl:=h.g_lt;have hA1:=(B0.cell gP).trans hA;have hO1:=(B0.cell (p:=⟨O,5,none⟩) nR).trans hO;have HC:=hid (hcall _ B0);obtain ⟨W1,hW1⟩ : ∃ W1,(w.alloc (bH x.1 x.2)).alloc (bH ⟨#[]⟩ 0) = W1:=⟨_,rfl⟩;rw [hW1] at B0 z0 x0 x1 hA1 HC hO1;have BW:=hid B0;obtain ⟨a0,a1,_,_⟩:=bS x0;clear h B0 hA hcall
 go_enter Tryz.func130,Tryz.ntmps130
 exact mZ
theorem AP (R g cap : Nat) (bs : List Int) (x : Int) (aa : Option Addr) (an ac : Nat) (A O : Nat) (ta : Option Addr) (tn tc : Nat) (w : World) (h : Wr w R g cap bs) (hb : bs.length + 10 ≤ 1099511627776) (hA : w.cell? ⟨A,0,none⟩ = some (cW R)) (hO : w.cell? ⟨O,0,none⟩ = some (.slice ta tn tc)) (h0 : 0 ≤ x) (h1 : x < tn) (h2 : tn ≤ 100000) :
  Calls Tryz.prog 117 #[.int .i64 x,.slice aa an ac,.pointer (some ⟨A,0,none⟩),.pointer (some ⟨O,0,none⟩)] w (oo R g bs (au x) (.int .i64 x) w):=by
 have HX:=hid (fI R g cap bs x tn w h hb h0 h1 ae);clear h
 go_enter Tryz.func117,Tryz.ntmps117
 go_wp2_with fail;refine HX.out.mono ?_;rintro e w1 ⟨rfl,g',cap',hw1,hs1⟩;have W1:=hid hw1;have S1:=hid hs1;clear hw1 hs1 HX hA hO;go_wp2_with fail;go_ret;exact ⟨rfl,g',cap',W1.out,S1.out⟩
theorem FK (R g cap : Nat) (bs : List Int) (x : Int) (aa : Option Addr) (an ac : Nat) (A O : Nat) (ta : Option Addr) (tn tc : Nat) (w : World) (h : Wr w R g cap bs) (hA : w.cell? ⟨A,0,none⟩ = some (cW R)) (hO : w.cell? ⟨O,0,none⟩ = some (.slice ta tn tc)) (h0 : -9223372036854775808 ≤ x) (h1 : x < 9223372036854775808) (hx : x < 0 ∨ (tn : Int) ≤ x) (h2 : tn ≤ 100000) :
  Calls Tryz.prog 117 #[.int .i64 x,.slice aa an ac,.pointer (some ⟨A,0,none⟩),.pointer (some ⟨O,0,none⟩)] w (aR R g 30 w):=by
 have HX:=hid (jU R g cap bs x tn w h h0 h1 hx ae ae);clear h
 go_enter Tryz.func117,Tryz.ntmps117
 go_wp2_with fail;refine HX.out.mono ?_;rintro e w1 ⟨⟨q,rfl⟩,hk⟩;exact ⟨rfl,⟨q,rfl⟩,hk⟩
theorem zh (R g cap : Nat) (bs : List Int) (c v : Int) (mu : Bool) (w : World) (h : Wr w R g cap bs) (hl : isL c = false) :
  Calls Tryz.prog 121 #[cW R,.agg #[.int .u8 c,.bool mu,.int .u64 v]] w (aR R g 15 w):=by
 have hmo:=lN;have hco:=qC;obtain ⟨B0,z0,x0,x1⟩:=mf w c v mu;have HW : (w.alloc (bC c mu v)).alloc (bC 0 false 0) = qu w c v mu:=rfl;generalize qu w c v mu = W1 at *
 have H1:=hid (xq R g cap bs c 180 #[] 15 W1 (h.later B0) (fun _ _ => rfl) (FY c _ W1 hl))
 have BW:=hid B0;obtain ⟨a0,a1,a2,_,_,_⟩:=aK x0;clear h B0
 go_enter Tryz.func121,Tryz.ntmps121
 go_wp2_with fail;refine H1.out.mono ?_;rintro e w2 ⟨⟨p,rfl⟩,hk⟩;exact ⟨rfl,⟨p,rfl⟩,(az BW.out).trans hk⟩
theorem zi (R g cap : Nat) (bs : List Int) (v : Int) (mu : Bool) (w : World) (h : Wr w R g cap bs) (hb : bs.length + 100 ≤ 1099511627776) (v0 : 0 ≤ v) (v1 : v < 18446744073709551616) (hv : ¬ v < 4294967296) :
  Calls Tryz.prog 121 #[cW R,.agg #[.int .u8 119,.bool mu,.int .u64 v]] w (aR R g 17 w):=by
 have hmo:=lN;have hco:=qC;have hms:=oQ;have hcs:=y9;have hno:=tu;have hns:=rO;obtain ⟨B0,z0,x0,x1⟩:=mf w 119 v mu;have HW : (w.alloc (bC 119 mu v)).alloc (bC 0 false 0) = qu w 119 v mu:=rfl;have hRl:=h.lt;have hgl:=h.g_lt;generalize qu w 119 v mu = W1 at *
 have H1:=hid (gW R g cap bs 119 180 #[] W1 (h.later B0) aH aH ae (fun _ _ => rfl) (rY 119 _ W1 rfl))
 have BW:=hid B0;obtain ⟨a0,a1,a2,_,_,_⟩:=aK x0;clear h B0
 go_enter Tryz.func121,Tryz.ntmps121
 go_wp2_with fail;refine H1.out.mono ?_;rintro e w2 ⟨rfl,g1,aQ,hw2,hs2⟩;have y0:=(hs2.block (b:=w.heap.size) ae ae ae).trans x0;have y1:=(hs2.block (b:=w.heap.size + 1) ae ae ae).trans x1;have n0 : w.heap.size ≠ g1:=hs2.ne ae ae;have n1 : w.heap.size + 1 ≠ g1:=hs2.ne ae ae;have S2:=hid ((Stp.of_below BW.out).trans hs2);have z2:=S2.out.size;have z2':=hs2.size;have gl2:=hw2.g_lt;obtain ⟨w3,hw3⟩ : ∃ w3,w2.alloc (dN 119) = w3:=⟨_,rfl⟩
 have B3 : Below w2.heap.size w2 w3:=by rw [← hw3]; exact aj _ _
 have z3 : w3.heap.size = w2.heap.size + 1:=by rw [← hw3]; simp
 have l3 : w3.cell? ⟨w2.heap.size,0,none⟩ = some (.int .u8 119):=by rw [← hw3]; exact fw _ _ _
 have q0:=(B3.block w.heap.size ae).trans y0;have q1:=(B3.block (w.heap.size + 1) ae).trans y1;obtain ⟨b0,b1,b2,_,_,_⟩:=aK q0
 have HO2:=hid (gW R g1 aQ (bs ++ [119]) (bit mu) 183 #[] w3.drew ((hw2.later B3).later (Below.refl _ _).drew) (kZ mu).1 (kZ mu).2 aG (fun _ _ => rfl) (GM mu _ w3.drew))
 have HF:=hid (NA mu);have BB3:=hid B3;clear hs2 hw2 H1 x0 x1 a0 a1 a2 y0 y1 B3 HW;go_wp2_with fail
 go_region_held3 (fun W => W.cell? ⟨w.heap.size,1,none⟩ = some (.bool mu)) (assumption) (first
  | (go_at_call 182; refine (HF.out _).mono ?_; rintro e w' ⟨rfl,rfl⟩)
  | (go_at_call 313; refine HO2.out.mono ?_; rintro e w4 ⟨rfl,g2,cap2,hw4,hs4⟩; have hS' : w4.cell? ⟨w.heap.size,1,none⟩ = some (.bool mu):=hs4.cell b1 ae n0; have W4:=hid hw4; have S4:=hid hs4; clear hw4 hs4))
 all_goals
  have f0:=(S4.out.block (b:=w.heap.size) aG ae n0).trans q0;have f1:=(S4.out.block (b:=w.heap.size + 1) aG ae n1).trans q1;have f2:=S4.out.cell (b:=w2.heap.size) l3 ae ae;obtain ⟨d0,d1,d2,_,_,_⟩:=aK f0;have m0 : w.heap.size ≠ g2:=S4.out.ne aG n0;have m1 : w.heap.size + 1 ≠ g2:=S4.out.ne aG n1;have m2 : w2.heap.size ≠ g2:=S4.out.ne aG ae;have z4 : w3.heap.size ≤ w4.heap.size:=S4.out.size;have S4':=hid ((S2.out.trans (Stp.of_below BB3.out)).trans ((Stp.of_below ((Below.refl _ _).drew)).trans S4.out))
  have HWS:=hid (fun W => o8 119 v mu W v0 v1)
  clear S4 HO2 HF hS' q0 q1 b0 b1 b2 l3 hno hmo hco;go_wp2_with fail
  have HSG:=hid (fun W (hW : Below w4.heap.size w4 W) => wy R g2 cap2 (bs ++ [119] ++ [bit mu]) (sgn 119 v) 185 #[.pointer (some ⟨w2.heap.size,0,none⟩)] 17 W (W4.out.later hW) (fun _ _ => rfl) (F9 w2.heap.size v _ W v0 v1 ((hW.cell Be).trans f2) ae))
  have HB4:=hid (fun (W5 : World) (hb : Below w4.heap.size w4.drew W5) => (Below.trans ((Below.refl w4.heap.size w4).drew) hb : Below w4.heap.size w4 W5))
  have HC4:=hid (fun (W5 : World) (hb : Below w4.heap.size w4 W5) => (⟨(hb.cell (by exact block_lt_of_cell d0)).trans d0,(hb.cell (by exact block_lt_of_cell d1)).trans d1,(hb.cell (by exact block_lt_of_cell d2)).trans d2⟩ : W5.cell? ⟨w.heap.size,0,none⟩ = some (.int .u8 119) ∧ W5.cell? ⟨w.heap.size,1,none⟩ = some (.bool mu) ∧ W5.cell? ⟨w.heap.size,2,none⟩ = some (.int .u64 v)))
  refine wp_region_held_drew (S:=(fun W => W.cell? ⟨w.heap.size,0,none⟩ = some (.int .u8 119) ∧ W.cell? ⟨w.heap.size,1,none⟩ = some (.bool mu) ∧ W.cell? ⟨w.heap.size,2,none⟩ = some (.int .u64 v))) aw ⟨d0,d1,d2⟩ (fun hHeld => ?_)
  refine tkC (i:=0) rfl ?_;(try simp only [Act.put,sIB]);refine tkC (i:=1) rfl ?_;(try simp only [Act.put]);refine tkC (i:=3) rfl ?_;(try simp only [Act.put]);refine tkC (i:=4) rfl ?_;(try simp only [Act.put]);refine rdY (rs:=[2,5]) ?_
  refine AllReadyH.cons rfl (fun K hK => ?_) (AllReadyH.cons rfl (fun K hK => ?_) rN)
  ·go_simp;refine (HWS.out _).mono ?_;rintro e w5 ⟨rfl,hb5⟩;have hB5:=hid (HB4.out w5 hb5);clear hb5
   refine hK.out _ _ (HC4.out w5 hB5.out) (fun hHeld2 => ?_)
   clear hK K;refine rdY (rs:=[5]) ?_
   refine AllReadyH.cons rfl (fun K hK => ?_) rN
   go_simp
   refine hK.out _ _ hHeld2 (fun hHeld3 => ?_)
   clear hK K;refine tkC (i:=6) rfl ?_;(try simp only [Act.put,sIB]);exact Iu
  ·go_simp
   refine hK.out _ _ hHeld (fun hHeld2 => ?_)
   clear hK K;refine tkC (i:=6) rfl ?_;(try simp only [Act.put,sIB]);refine rdY (rs:=[2]) ?_
   refine AllReadyH.cons rfl (fun K hK => ?_) rN
   go_simp;refine (HWS.out _).mono ?_;rintro e w5 ⟨rfl,hb5⟩;have hB5:=hid (HB4.out w5 hb5);clear hb5
   refine hK.out _ _ (HC4.out w5 hB5.out) (fun hHeld3 => ?_)
   clear hK K;exact Iu
def nz (n : Nat) (a : Option Addr) : Option Addr:=if n = 0 then none else a
theorem DD {n : Nat} {a : Option Addr} {p : Addr} (h : nz n a = some p) : a = some p:=by
 unfold nz at h
 split at h
 ·cases h
 ·exact h
theorem Nv {n : Nat} {a : Option Addr} {p : Addr} (hn : n ≠ 0) (h : a = some p) : nz n a = some p:=by
 unfold nz
 rw [if_neg hn]; exact h
theorem NB : ∃ i,Tryz.prog.info? 51 = some i ∧ i.zero = some (.agg #[.int .u8 0,.int .i64 0,.slice none 0 0]) ∧ i.size = 3 ∧ i.bytes = 40:=AZ aw
def qM (y : (Int × Int × (Option Addr × Nat × Nat))) : List Value:=[.int .u8 y.1,.int .i64 y.2.1,.slice y.2.2.1 y.2.2.2.1 y.2.2.2.2]
abbrev Ru (x : (Int × Int × (Option Addr × Nat × Nat) × List Int)) : Value:=.agg #[.int .u8 x.1,.int .i64 x.2.1,.slice x.2.2.1.1 x.2.2.1.2.1 x.2.2.1.2.2]
abbrev RL (y : (Int × Int × (Option Addr × Nat × Nat))) : Value:=.agg #[.int .u8 y.1,.int .i64 y.2.1,.slice y.2.2.1 y.2.2.2.1 y.2.2.2.2]
def AtIn (w : World) (a : Option Addr) (n : Nat) (xs : List (Int × Int × (Option Addr × Nat × Nat) × List Int)) : Prop :=
 xs.length = n ∧ (n = 0 ∨ ∃ b off,a = some ⟨b,off,none⟩ ∧ ∀ (j : Nat) x,xs[j]? = some x → w.cell? ⟨b,off + j * 3,none⟩ = some (.int .u8 x.1) ∧ w.cell? ⟨b,off + j * 3 + 1,none⟩ = some (.int .i64 x.2.1) ∧ w.cell? ⟨b,off + j * 3 + 2,none⟩ = some (.slice x.2.2.1.1 x.2.2.1.2.1 x.2.2.1.2.2))
theorem AtIn.kept {S : Nat → Prop} {w w' : World} {a : Option Addr} {n : Nat} {xs : List (Int × Int × (Option Addr × Nat × Nat) × List Int)} (h : AtIn w a n xs) (hk : Kept S w w') (hS : ∀ b off c,nz n a = some ⟨b,off,c⟩ → ¬ S b) : AtIn w' a n xs:=by
 refine ⟨h.1,h.2.imp id ?_⟩;rintro ⟨b,off,ha,hc⟩
 refine ⟨b,off,ha,fun j x hj => ?_⟩
 have ha:=Nv (n:=n) (by have:=h.1; have:=(List.getElem?_eq_some_iff.1 hj).1; omega) ha
 have:=hc j x hj
 exact ⟨hk.cell this.1 (hS _ _ _ ha),hk.cell this.2.1 (hS _ _ _ ha),hk.cell this.2.2 (hS _ _ _ ha)⟩
theorem xK (w : World) (y : (Int × Int × (Option Addr × Nat × Nat))) : ∀ j u,(qM y)[j]? = some u → (w.alloc (aC y.1 y.2.1 y.2.2.1 y.2.2.2.1 y.2.2.2.2)).cell? ((⟨w.heap.size,0,none⟩ : Addr).add j) = some u:=by
 intro j u hj;have hlt:=ax hj;have hl : (qM y).length = 3:=rfl;rw [hl] at hlt;have hadd : (⟨w.heap.size,0,none⟩ : Addr).add j = ⟨w.heap.size,j,none⟩:=fZ;rw [hadd];have hb:=(MapKept.heap_alloc w (aC y.1 y.2.1 y.2.2.1 y.2.2.2.1 y.2.2.2.2)).1
 simp only [World.cell?,hb]
 simpa [qM] using hj
theorem yI (y : (Int × Int × (Option Addr × Nat × Nat))) : ∀ u ∈ qM y,u.oneCell' = true:=by
 intro u hu
 simp [qM] at hu
 rcases hu with rfl | rfl | rfl <;> rfl
abbrev AV:=@oY (Int × Int × (Option Addr × Nat × Nat) × List Int) (Int × Int × (Option Addr × Nat × Nat)) qM Ru RL 51 3
abbrev KQ:=@El (Int × Int × (Option Addr × Nat × Nat) × List Int) (Int × Int × (Option Addr × Nat × Nat)) qM Ru 51 3
namespace LIn
abbrev oC0:=qM
abbrev cL (x : (Int × Int × (Option Addr × Nat × Nat) × List Int)) : Obj:=.cells #[.int .u8 x.1,.int .i64 x.2.1,.slice x.2.2.1.1 x.2.2.1.2.1 x.2.2.1.2.2] 51
abbrev cM (y : (Int × Int × (Option Addr × Nat × Nat))) : Obj:=.cells #[.int .u8 y.1,.int .i64 y.2.1,.slice y.2.2.1 y.2.2.2.1 y.2.2.2.2] 51
theorem nC (w : World) (y : (Int × Int × (Option Addr × Nat × Nat))) : ∀ j u,(qM y)[j]? = some u → (w.alloc (cM y)).cell? ((⟨w.heap.size,0,none⟩ : Addr).add j) = some u:=xK w y
theorem oC (y : (Int × Int × (Option Addr × Nat × Nat))) : ∀ u ∈ qM y,u.oneCell' = true:=yI y
theorem uN : Tryz.prog.underlying 40 = some (.slice 51):=Tryz.underlying40
end LIn
open LIn in
theorem xS (R g cap : Nat) (bs : List Int) (ha : Option Addr) (n hc : Nat) (most : Int) (K : Nat) (cs : Array Value) (w : World) (xs : List (Int × Int × (Option Addr × Nat × Nat) × List Int)) (enc : (Int × Int × (Option Addr × Nat × Nat) × List Int) → List Int) (Ok : (Int × Int × (Option Addr × Nat × Nat) × List Int) → (Int × Int × (Option Addr × Nat × Nat)) → Prop) (M : Nat)
  (h : Wr w R g cap bs) (hn : n ≤ 100000) (hm : (n : Int) ≤ most) (hmem : AtIn w ha n xs) (hne : ∀ b off c,nz n ha = some ⟨b,off,c⟩ → b ≠ R ∧ b ≠ g)
  (hK : ∀ args w,(callFunc K args).run Tryz.prog w = .ok (.enter K args) w) (hlen : ∀ (j : Nat) x,xs[j]? = some x → (enc x).length ≤ M) (hM : M ≤ 1000000) (hb : bs.length + 200000000000 ≤ 1099511627776)
  (heach : ∀ (j : Nat) x,xs[j]? = some x → AV R g w K cs bs n xs enc Ok j x) :
  Calls Tryz.prog 188 #[cW R,.slice ha n hc,.int .i64 most,.func (.func K) #[] cs] w fun e w' => ∃ (aa : Option Addr) (ac : Nat) (ys : List (Int × Int × (Option Addr × Nat × Nat))),e = .returned (.slice aa n ac) ∧ ys.length = n ∧ (∀ (i : Nat) y,ys[i]? = some y → ∃ x,xs[i]? = some x ∧ Ok x y) ∧
   w'.ownsRow 0 51 3 (.slice aa n ac) n (ys.flatMap qM) ∧ ∃ g' cap',(∀ b,aa = some b → w.heap.size ≤ b.block ∧ b.block ≠ g') ∧ Wr w' R g' cap' (bs ++ au n ++ xs.flatMap enc) ∧ Stp R g g' w w':=by
 have hmc:=bz;have hcc:=bQ;have HC:=hid (bK R g cap bs n most w h hm ae ae);have hRl:=h.lt;have hgl:=h.g_lt;have hxl:=hmem.1;have HM:=hid hmem;have HNE:=hid hne;have HE:=hid heach;obtain ⟨i0,hi,hz0,hz1,hz2⟩:=NB;clear h hmem heach hne
 go_enter Tryz.func188,Tryz.ntmps188
 go_wp2_with fail;refine HC.out.mono ?_;rintro e w2 ⟨rfl,g1,aQ,hw2,hs2⟩;have W2:=hid hw2;have S2:=hid hs2;clear hw2 hs2 HC hmc hcc;go_wp2_with fail
 go_loopw [9,17] (fun o i wr => pF oC0 51 3 R g w bs n xs enc Ok n o i wr) (fun _ i _ => n - (intOf i).toNat)
 case atStart => exact ⟨0,[],none,0,g1,aQ,ae,rfl,rfl,rfl,(fun i y h => eF),World.ownsRow_nil _ _ _ _,(fun b h => cE),fK,S2.out⟩
 case round =>
  exact Nr
open LIn in
theorem Ai (R g cap : Nat) (bs : List Int) (ha : Option Addr) (n hc : Nat) (most : Int) (K : Nat) (cs : Array Value) (w : World) (xs : List (Int × Int × (Option Addr × Nat × Nat) × List Int)) (enc : (Int × Int × (Option Addr × Nat × Nat) × List Int) → List Int) (Ok : (Int × Int × (Option Addr × Nat × Nat) × List Int) → (Int × Int × (Option Addr × Nat × Nat)) → Prop) (M : Nat)
  (h : Wr w R g cap bs) (hn : n ≤ 100000) (hm : (n : Int) ≤ most) (hmem : AtIn w ha n xs) (hne : ∀ b off c,nz n ha = some ⟨b,off,c⟩ → b ≠ R ∧ b ≠ g)
  (hK : ∀ args w,(callFunc K args).run Tryz.prog w = .ok (.enter K args) w) (hlen : ∀ (j : Nat) x,xs[j]? = some x → (enc x).length ≤ M) (hM : M ≤ 1000000) (hb : bs.length + 200000000000 ≤ 1099511627776)
  (k : Nat) (xk : (Int × Int × (Option Addr × Nat × Nat) × List Int)) (er : Int) (hk : xs[k]? = some xk) (heach : ∀ (j : Nat) x,xs[j]? = some x → j < k → AV R g w K cs bs n xs enc Ok j x) (hno : KQ R g w K cs bs n xs enc Ok k xk er) :
  Calls Tryz.prog 188 #[cW R,.slice ha n hc,.int .i64 most,.func (.func K) #[] cs] w (aR R g er w):=by
 have hkn:=ax hk;have hmc:=bz;have hcc:=bQ;have HC:=hid (bK R g cap bs n most w h hm ae ae);have hRl:=h.lt;have hgl:=h.g_lt;have hxl:=hmem.1;have HM:=hid hmem;have HNE:=hid hne;have HE:=hid heach;have HN:=hid hno;obtain ⟨i0,hi,hz0,hz1,hz2⟩:=NB;clear h hmem heach hne hno
 go_enter Tryz.func188,Tryz.ntmps188
 go_wp2_with fail;refine HC.out.mono ?_;rintro e w2 ⟨rfl,g1,aQ,hw2,hs2⟩;have W2:=hid hw2;have S2:=hid hs2;clear hw2 hs2 HC hmc hcc;go_wp2_with fail
 go_loopw [9,17] (fun o i wr => pF oC0 51 3 R g w bs n xs enc Ok k o i wr) (fun _ i _ => n - (intOf i).toNat)
 case atStart => exact ⟨0,[],none,0,g1,aQ,ae,rfl,rfl,rfl,(fun i y h => eF),World.ownsRow_nil _ _ _ _,(fun b h => cE),fK,S2.out⟩
 case round =>
  exact NF
theorem uX (R g cap : Nat) (bs : List Int) (ha : Option Addr) (n hc : Nat) (most : Int) (f : Value) (w : World) (h : Wr w R g cap bs) (hm : most < (n : Int)) :
  Calls Tryz.prog 188 #[cW R,.slice ha n hc,.int .i64 most,f] w (aR R g 20 w):=by
 have hmc:=bz;have hcc:=bQ;have HC:=hid (dU R g cap bs n most w h hm);clear h
 go_enter Tryz.func188,Tryz.ntmps188
 exact jq
end Go.Proofs.YtepnnenohjfkbaaGreatDoor

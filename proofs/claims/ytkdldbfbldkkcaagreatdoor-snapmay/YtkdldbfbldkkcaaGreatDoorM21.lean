/-
  Texts Wc Wh.
-/
import Derived.RegionDies
import Derived.Test.YtkdldbfbldkkcaaGreatDoorM00
import Derived.Test.YtkdldbfbldkkcaaGreatDoorM03
import Derived.Test.YtkdldbfbldkkcaaGreatDoorM20
set_option linter.unusedVariables false
set_option maxRecDepth 100000
set_option maxHeartbeats 16000000
namespace Go.Proofs.YtkdldbfbldkkcaaGreatDoor
open Go.RowKit
theorem fR (w : World) (a b : Obj) : Below w.heap.size w ((w.alloc a).alloc b) ∧ ((w.alloc a).alloc b).heap.size = w.heap.size + 1 + 1 ∧ ((w.alloc a).alloc b).heap[w.heap.size]? = some a ∧ ((w.alloc a).alloc b).heap[w.heap.size + 1]? = some b:=by
 refine ⟨((Below.refl _ w).alloc (Nat.le_refl _) _).alloc au _,au,?_,?_⟩
 ·rw [(aj (w.alloc a) b).block _ au];exact (MapKept.heap_alloc w a).1
 ·have:=(MapKept.heap_alloc (w.alloc a) b).1
  exact cm
theorem xz (R g cap : Nat) (bs : List Int) (x : (ByteArray × ByteArray)) (aa : Option Addr) (an ac : Nat) (A : Nat)  (w : World) (h : Wr w R g cap bs) (hA : w.cell? ⟨A,0,none⟩ = some (cW R))
  (P : (ByteArray × ByteArray) → Prop) (new : List Int) (hcall : ∀ W,Below w.heap.size w W → Calls Tryz.prog 90 #[cW R,.agg #[.string x.1,.string x.2],.slice aa an ac] W (fun e w' => ∃ y : (ByteArray × ByteArray),e = .returned (.agg #[.string y.1,.string y.2]) ∧ P y ∧ ∃ g' cap',Wr w' R g' cap' new ∧ Stp R g g' W w')) :
  Calls Tryz.prog 89 #[.agg #[.string x.1,.string x.2],.slice aa an ac,.pointer (some ⟨A,0,none⟩)] w (fun e w' => ∃ y : (ByteArray × ByteArray),e = .returned (.agg #[.string y.1,.string y.2]) ∧ P y ∧ ∃ g' cap',Wr w' R g' cap' new ∧ Stp R g g' w w'):=by
 obtain ⟨B0,z0,x0,x1⟩:=fR w (bD x.1 x.2) (bD ⟨#[]⟩ ⟨#[]⟩);have hRl:=h.lt;have hgl:=h.g_lt;have hA1:=(B0.cell gm).trans hA;have HC:=hid (hcall _ B0);obtain ⟨W1,hW1⟩ : ∃ W1,(w.alloc (bD x.1 x.2)).alloc (bD ⟨#[]⟩ ⟨#[]⟩) = W1:=⟨_,rfl⟩;rw [hW1] at B0 z0 x0 x1 hA1 HC;have BW:=hid B0;obtain ⟨a0,a1,_,_⟩:=bY x0;clear h B0 hA hcall
 go_enter Tryz.func89,Tryz.ntmps89
 go_wp2_with fail;refine HC.out.mono ?_;rintro e w5 ⟨y,rfl,hP,g',cap',hw5,hs5⟩;have q1:=(hs5.block (b:=w.heap.size + 1) ae ae ae).trans x1;have n1 : w.heap.size + 1 ≠ g':=hs5.ne ae ae;obtain ⟨k0,k1,k2,k3⟩:=bY q1;have hl1:=block_lt_of_cell k0;have W5:=hid hw5;have S5:=hid ((Stp.of_below BW.out).trans hs5);clear hw5 hs5 x0 x1 q1 HC;go_wp2_with fail;refine bodyPost_ret (v:=.agg #[.string y.1,.string y.2]) ?_ rfl ⟨y,rfl,hP,g',cap',?_,?_⟩
 ·exact cF
 ·exact su
 ·exact uP
theorem Dj (R g cap : Nat) (bs : List Int) (x : (ByteArray × ByteArray)) (aa : Option Addr) (an ac : Nat) (A : Nat)  (w : World) (h : Wr w R g cap bs) (hA : w.cell? ⟨A,0,none⟩ = some (cW R))
  (er : Int) (hcall : ∀ W,Below w.heap.size w W → Calls Tryz.prog 90 #[cW R,.agg #[.string x.1,.string x.2],.slice aa an ac] W (aU R g er W)) :
  Calls Tryz.prog 89 #[.agg #[.string x.1,.string x.2],.slice aa an ac,.pointer (some ⟨A,0,none⟩)] w (aU R g er w):=by
 obtain ⟨B0,z0,x0,x1⟩:=fR w (bD x.1 x.2) (bD ⟨#[]⟩ ⟨#[]⟩);have hRl:=h.lt;have hgl:=h.g_lt;have hA1:=(B0.cell gm).trans hA;have HC:=hid (hcall _ B0);obtain ⟨W1,hW1⟩ : ∃ W1,(w.alloc (bD x.1 x.2)).alloc (bD ⟨#[]⟩ ⟨#[]⟩) = W1:=⟨_,rfl⟩;rw [hW1] at B0 z0 x0 x1 hA1 HC;have BW:=hid B0;obtain ⟨a0,a1,_,_⟩:=bY x0;clear h B0 hA hcall
 go_enter Tryz.func89,Tryz.ntmps89
 exact pK
theorem zg (R g cap : Nat) (bs : List Int) (x : (Int × Bool × Int)) (aa : Option Addr) (an ac : Nat) (A : Nat)  (w : World) (h : Wr w R g cap bs) (hA : w.cell? ⟨A,0,none⟩ = some (cW R))
  (P : (Int × Bool × Int) → Prop) (new : List Int) (hcall : ∀ W,Below w.heap.size w W → Calls Tryz.prog 96 #[cW R,.agg #[.int .u8 x.1,.bool x.2.1,.int .u64 x.2.2]] W (fun e w' => ∃ y : (Int × Bool × Int),e = .returned (.agg #[.int .u8 y.1,.bool y.2.1,.int .u64 y.2.2]) ∧ P y ∧ ∃ g' cap',Wr w' R g' cap' new ∧ Stp R g g' W w')) :
  Calls Tryz.prog 95 #[.agg #[.int .u8 x.1,.bool x.2.1,.int .u64 x.2.2],.slice aa an ac,.pointer (some ⟨A,0,none⟩)] w (fun e w' => ∃ y : (Int × Bool × Int),e = .returned (.agg #[.int .u8 y.1,.bool y.2.1,.int .u64 y.2.2]) ∧ P y ∧ ∃ g' cap',Wr w' R g' cap' new ∧ Stp R g g' w w'):=by
 obtain ⟨B0,z0,x0,x1⟩:=fR w (bh x.1 x.2.1 x.2.2) (bh 0 false 0);have hRl:=h.lt;have hgl:=h.g_lt;have hA1:=(B0.cell gm).trans hA;have HC:=hid (hcall _ B0);obtain ⟨W1,hW1⟩ : ∃ W1,(w.alloc (bh x.1 x.2.1 x.2.2)).alloc (bh 0 false 0) = W1:=⟨_,rfl⟩;rw [hW1] at B0 z0 x0 x1 hA1 HC;have BW:=hid B0;obtain ⟨a0,a1,a2,_,_,_⟩:=aP x0;clear h B0 hA hcall
 go_enter Tryz.func95,Tryz.ntmps95
 go_wp2_with fail;refine HC.out.mono ?_;rintro e w5 ⟨y,rfl,hP,g',cap',hw5,hs5⟩;have q1:=(hs5.block (b:=w.heap.size + 1) ae ae ae).trans x1;have n1 : w.heap.size + 1 ≠ g':=hs5.ne ae ae;obtain ⟨k0,k1,k2,k3,k4,k5⟩:=aP q1;have hl1:=block_lt_of_cell k0;have W5:=hid hw5;have S5:=hid ((Stp.of_below BW.out).trans hs5);clear hw5 hs5 x0 x1 q1 HC;go_wp2_with fail;refine bodyPost_ret (v:=.agg #[.int .u8 y.1,.bool y.2.1,.int .u64 y.2.2]) ?_ rfl ⟨y,rfl,hP,g',cap',?_,?_⟩
 ·exact cF
 ·exact (((W5.out.set (b:=w.heap.size + 1) ae n1).set (b:=w.heap.size + 1) ae n1).set (b:=w.heap.size + 1) ae n1)
 ·exact (((S5.out.set ae).set ae).set ae)
theorem Dw (R g cap : Nat) (bs : List Int) (x : (Int × Bool × Int)) (aa : Option Addr) (an ac : Nat) (A : Nat)  (w : World) (h : Wr w R g cap bs) (hA : w.cell? ⟨A,0,none⟩ = some (cW R))
  (er : Int) (hcall : ∀ W,Below w.heap.size w W → Calls Tryz.prog 96 #[cW R,.agg #[.int .u8 x.1,.bool x.2.1,.int .u64 x.2.2]] W (aU R g er W)) :
  Calls Tryz.prog 95 #[.agg #[.int .u8 x.1,.bool x.2.1,.int .u64 x.2.2],.slice aa an ac,.pointer (some ⟨A,0,none⟩)] w (aU R g er w):=by
 obtain ⟨B0,z0,x0,x1⟩:=fR w (bh x.1 x.2.1 x.2.2) (bh 0 false 0);have hRl:=h.lt;have hgl:=h.g_lt;have hA1:=(B0.cell gm).trans hA;have HC:=hid (hcall _ B0);obtain ⟨W1,hW1⟩ : ∃ W1,(w.alloc (bh x.1 x.2.1 x.2.2)).alloc (bh 0 false 0) = W1:=⟨_,rfl⟩;rw [hW1] at B0 z0 x0 x1 hA1 HC;have BW:=hid B0;obtain ⟨a0,a1,a2,_,_,_⟩:=aP x0;clear h B0 hA hcall
 go_enter Tryz.func95,Tryz.ntmps95
 exact pK
theorem xH (R g cap : Nat) (bs : List Int) (x : (Int × (Option Addr × Nat × Nat) × List Int)) (aa : Option Addr) (an ac : Nat) (A : Nat) (O : Nat) (fi : Int) (w : World) (h : Wr w R g cap bs) (hA : w.cell? ⟨A,0,none⟩ = some (cW R)) (hO : w.cell? ⟨O,3,none⟩ = some (.int .i64 fi)) (hf0 : 0 ≤ fi) (hf1 : fi ≤ 64)
  (P : (Int × (Option Addr × Nat × Nat)) → Prop) (new : List Int) (hcall : ∀ W,Below w.heap.size w W → Calls Tryz.prog 103 #[cW R,.agg #[.int .i64 x.1,.slice x.2.1.1 x.2.1.2.1 x.2.1.2.2],.slice aa an ac,.int .i64 (fi * 4096)] W (fun e w' => ∃ y : (Int × (Option Addr × Nat × Nat)),e = .returned (.agg #[.int .i64 y.1,.slice y.2.1 y.2.2.1 y.2.2.2]) ∧ P y ∧ ∃ g' cap',Wr w' R g' cap' new ∧ Stp R g g' W w')) :
  Calls Tryz.prog 102 #[.agg #[.int .i64 x.1,.slice x.2.1.1 x.2.1.2.1 x.2.1.2.2],.slice aa an ac,.pointer (some ⟨A,0,none⟩),.pointer (some ⟨O,0,none⟩)] w (fun e w' => ∃ y : (Int × (Option Addr × Nat × Nat)),e = .returned (.agg #[.int .i64 y.1,.slice y.2.1 y.2.2.1 y.2.2.2]) ∧ P y ∧ ∃ g' cap',Wr w' R g' cap' new ∧ Stp R g g' w w'):=by
 obtain ⟨B0,z0,x0,x1⟩:=fR w (bO x.1 x.2.1.1 x.2.1.2.1 x.2.1.2.2) (bO 0 none 0 0);have hRl:=h.lt;have hgl:=h.g_lt;have hA1:=(B0.cell gm).trans hA;have hO1:=(B0.cell (p:=⟨O,3,none⟩) ni).trans hO;have hwf : wrap64 (fi * 4096) = fi * 4096:=gp;have HC:=hid (hcall _ B0);obtain ⟨W1,hW1⟩ : ∃ W1,(w.alloc (bO x.1 x.2.1.1 x.2.1.2.1 x.2.1.2.2)).alloc (bO 0 none 0 0) = W1:=⟨_,rfl⟩;rw [hW1] at B0 z0 x0 x1 hA1 HC hO1;have BW:=hid B0;obtain ⟨a0,a1,_,_⟩:=bY x0;clear h B0 hA hcall
 go_enter Tryz.func102,Tryz.ntmps102
 go_wp2_with fail;refine HC.out.mono ?_;rintro e w5 ⟨y,rfl,hP,g',cap',hw5,hs5⟩;have q1:=(hs5.block (b:=w.heap.size + 1) ae ae ae).trans x1;have n1 : w.heap.size + 1 ≠ g':=hs5.ne ae ae;obtain ⟨k0,k1,k2,k3⟩:=bY q1;have hl1:=block_lt_of_cell k0;have W5:=hid hw5;have S5:=hid ((Stp.of_below BW.out).trans hs5);clear hw5 hs5 x0 x1 q1 HC;go_wp2_with fail;refine bodyPost_ret (v:=.agg #[.int .i64 y.1,.slice y.2.1 y.2.2.1 y.2.2.2]) ?_ rfl ⟨y,rfl,hP,g',cap',?_,?_⟩
 ·exact cF
 ·exact su
 ·exact uP
theorem CQ (R g cap : Nat) (bs : List Int) (x : (Int × (Option Addr × Nat × Nat) × List Int)) (aa : Option Addr) (an ac : Nat) (A : Nat) (O : Nat) (fi : Int) (w : World) (h : Wr w R g cap bs) (hA : w.cell? ⟨A,0,none⟩ = some (cW R)) (hO : w.cell? ⟨O,3,none⟩ = some (.int .i64 fi)) (hf0 : 0 ≤ fi) (hf1 : fi ≤ 64)
  (er : Int) (hcall : ∀ W,Below w.heap.size w W → Calls Tryz.prog 103 #[cW R,.agg #[.int .i64 x.1,.slice x.2.1.1 x.2.1.2.1 x.2.1.2.2],.slice aa an ac,.int .i64 (fi * 4096)] W (aU R g er W)) :
  Calls Tryz.prog 102 #[.agg #[.int .i64 x.1,.slice x.2.1.1 x.2.1.2.1 x.2.1.2.2],.slice aa an ac,.pointer (some ⟨A,0,none⟩),.pointer (some ⟨O,0,none⟩)] w (aU R g er w):=by
 obtain ⟨B0,z0,x0,x1⟩:=fR w (bO x.1 x.2.1.1 x.2.1.2.1 x.2.1.2.2) (bO 0 none 0 0);have hRl:=h.lt;have hgl:=h.g_lt;have hA1:=(B0.cell gm).trans hA;have hO1:=(B0.cell (p:=⟨O,3,none⟩) ni).trans hO;have hwf : wrap64 (fi * 4096) = fi * 4096:=gp;have HC:=hid (hcall _ B0);obtain ⟨W1,hW1⟩ : ∃ W1,(w.alloc (bO x.1 x.2.1.1 x.2.1.2.1 x.2.1.2.2)).alloc (bO 0 none 0 0) = W1:=⟨_,rfl⟩;rw [hW1] at B0 z0 x0 x1 hA1 HC hO1;have BW:=hid B0;obtain ⟨a0,a1,_,_⟩:=bY x0;clear h B0 hA hcall
 go_enter Tryz.func102,Tryz.ntmps102
 exact pK
theorem xW (R g cap : Nat) (bs : List Int) (x : (ByteArray × Int)) (aa : Option Addr) (an ac : Nat) (A : Nat) (O : Nat) (fa : Option Addr) (fn fc : Nat) (w : World) (h : Wr w R g cap bs) (hA : w.cell? ⟨A,0,none⟩ = some (cW R)) (hO : w.cell? ⟨O,5,none⟩ = some (.slice fa fn fc))
  (P : (ByteArray × Int) → Prop) (new : List Int) (hcall : ∀ W,Below w.heap.size w W → Calls Tryz.prog 106 #[cW R,.agg #[.string x.1,.int .i64 x.2],.slice aa an ac,.int .i64 fn] W (fun e w' => ∃ y : (ByteArray × Int),e = .returned (.agg #[.string y.1,.int .i64 y.2]) ∧ P y ∧ ∃ g' cap',Wr w' R g' cap' new ∧ Stp R g g' W w')) :
  Calls Tryz.prog 105 #[.agg #[.string x.1,.int .i64 x.2],.slice aa an ac,.pointer (some ⟨A,0,none⟩),.pointer (some ⟨O,0,none⟩)] w (fun e w' => ∃ y : (ByteArray × Int),e = .returned (.agg #[.string y.1,.int .i64 y.2]) ∧ P y ∧ ∃ g' cap',Wr w' R g' cap' new ∧ Stp R g g' w w'):=by
 obtain ⟨B0,z0,x0,x1⟩:=fR w (bM x.1 x.2) (bM ⟨#[]⟩ 0);have hRl:=h.lt;have hgl:=h.g_lt;have hA1:=(B0.cell gm).trans hA;have hO1:=(B0.cell (p:=⟨O,5,none⟩) ni).trans hO;have HC:=hid (hcall _ B0);obtain ⟨W1,hW1⟩ : ∃ W1,(w.alloc (bM x.1 x.2)).alloc (bM ⟨#[]⟩ 0) = W1:=⟨_,rfl⟩;rw [hW1] at B0 z0 x0 x1 hA1 HC hO1;have BW:=hid B0;obtain ⟨a0,a1,_,_⟩:=bY x0;clear h B0 hA hcall
 go_enter Tryz.func105,Tryz.ntmps105
 go_wp2_with fail;refine HC.out.mono ?_;rintro e w5 ⟨y,rfl,hP,g',cap',hw5,hs5⟩;have q1:=(hs5.block (b:=w.heap.size + 1) ae ae ae).trans x1;have n1 : w.heap.size + 1 ≠ g':=hs5.ne ae ae;obtain ⟨k0,k1,k2,k3⟩:=bY q1;have hl1:=block_lt_of_cell k0;have W5:=hid hw5;have S5:=hid ((Stp.of_below BW.out).trans hs5);clear hw5 hs5 x0 x1 q1 HC;go_wp2_with fail;refine bodyPost_ret (v:=.agg #[.string y.1,.int .i64 y.2]) ?_ rfl ⟨y,rfl,hP,g',cap',?_,?_⟩
 ·exact cF
 ·exact su
 ·exact uP
theorem Dh (R g cap : Nat) (bs : List Int) (x : (ByteArray × Int)) (aa : Option Addr) (an ac : Nat) (A : Nat) (O : Nat) (fa : Option Addr) (fn fc : Nat) (w : World) (h : Wr w R g cap bs) (hA : w.cell? ⟨A,0,none⟩ = some (cW R)) (hO : w.cell? ⟨O,5,none⟩ = some (.slice fa fn fc))
  (er : Int) (hcall : ∀ W,Below w.heap.size w W → Calls Tryz.prog 106 #[cW R,.agg #[.string x.1,.int .i64 x.2],.slice aa an ac,.int .i64 fn] W (aU R g er W)) :
  Calls Tryz.prog 105 #[.agg #[.string x.1,.int .i64 x.2],.slice aa an ac,.pointer (some ⟨A,0,none⟩),.pointer (some ⟨O,0,none⟩)] w (aU R g er w):=by
 obtain ⟨B0,z0,x0,x1⟩:=fR w (bM x.1 x.2) (bM ⟨#[]⟩ 0);have hRl:=h.lt;have hgl:=h.g_lt;have hA1:=(B0.cell gm).trans hA;have hO1:=(B0.cell (p:=⟨O,5,none⟩) ni).trans hO;have HC:=hid (hcall _ B0);obtain ⟨W1,hW1⟩ : ∃ W1,(w.alloc (bM x.1 x.2)).alloc (bM ⟨#[]⟩ 0) = W1:=⟨_,rfl⟩;rw [hW1] at B0 z0 x0 x1 hA1 HC hO1;have BW:=hid B0;obtain ⟨a0,a1,_,_⟩:=bY x0;clear h B0 hA hcall
 go_enter Tryz.func105,Tryz.ntmps105
 exact pK
theorem zC (R g cap : Nat) (bs : List Int) (x : Int) (aa : Option Addr) (an ac : Nat) (A O : Nat) (ta : Option Addr) (tn tc : Nat) (w : World) (h : Wr w R g cap bs) (hb : bs.length + 10 ≤ 1099511627776) (hA : w.cell? ⟨A,0,none⟩ = some (cW R)) (hO : w.cell? ⟨O,0,none⟩ = some (.slice ta tn tc)) (h0 : 0 ≤ x) (h1 : x < tn) (h2 : tn ≤ 100000) :
  Calls Tryz.prog 92 #[.int .i64 x,.slice aa an ac,.pointer (some ⟨A,0,none⟩),.pointer (some ⟨O,0,none⟩)] w (nv R g bs (aw x) (.int .i64 x) w):=by
 have HX:=hid (fB R g cap bs x tn w h hb h0 h1 ae);clear h
 go_enter Tryz.func92,Tryz.ntmps92
 go_wp2_with fail;refine HX.out.mono ?_;rintro e w1 ⟨rfl,g',cap',hw1,hs1⟩;have W1:=hid hw1;have S1:=hid hs1;clear hw1 hs1 HX hA hO;go_wp2_with fail;go_ret;exact ⟨rfl,g',cap',W1.out,S1.out⟩
theorem DN (R g cap : Nat) (bs : List Int) (x : Int) (aa : Option Addr) (an ac : Nat) (A O : Nat) (ta : Option Addr) (tn tc : Nat) (w : World) (h : Wr w R g cap bs) (hA : w.cell? ⟨A,0,none⟩ = some (cW R)) (hO : w.cell? ⟨O,0,none⟩ = some (.slice ta tn tc)) (h0 : -9223372036854775808 ≤ x) (h1 : x < 9223372036854775808) (hx : x < 0 ∨ (tn : Int) ≤ x) (h2 : tn ≤ 100000) :
  Calls Tryz.prog 92 #[.int .i64 x,.slice aa an ac,.pointer (some ⟨A,0,none⟩),.pointer (some ⟨O,0,none⟩)] w (aU R g 30 w):=by
 have HX:=hid (jD R g cap bs x tn w h h0 h1 hx ae ae);clear h
 go_enter Tryz.func92,Tryz.ntmps92
 go_wp2_with fail;refine HX.out.mono ?_;rintro e w1 ⟨⟨q,rfl⟩,hk⟩;exact ⟨rfl,⟨q,rfl⟩,hk⟩
theorem xN (R g cap : Nat) (bs : List Int) (c v : Int) (mu : Bool) (w : World) (h : Wr w R g cap bs) (hl : isL c = false) :
  Calls Tryz.prog 96 #[cW R,.agg #[.int .u8 c,.bool mu,.int .u64 v]] w (aU R g 15 w):=by
 have hmo:=kJ;have hco:=qF;obtain ⟨B0,z0,x0,x1⟩:=ly w c v mu;have HW : (w.alloc (bh c mu v)).alloc (bh 0 false 0) = qG w c v mu:=rfl;generalize qG w c v mu = W1 at *
 have H1:=hid (wQ R g cap bs c 123 #[] 15 W1 (h.later B0) (fun _ _ => rfl) (Dr c _ W1 hl))
 have BW:=hid B0;obtain ⟨a0,a1,a2,_,_,_⟩:=aP x0;clear h B0
 go_enter Tryz.func96,Tryz.ntmps96
 go_wp2_with fail;refine H1.out.mono ?_;rintro e w2 ⟨⟨p,rfl⟩,hk⟩;exact ⟨rfl,⟨p,rfl⟩,(aX BW.out).trans hk⟩
theorem yS (R g cap : Nat) (bs : List Int) (v : Int) (mu : Bool) (w : World) (h : Wr w R g cap bs) (hb : bs.length + 100 ≤ 1099511627776) (v0 : 0 ≤ v) (v1 : v < 18446744073709551616) (hv : ¬ v < 4294967296) :
  Calls Tryz.prog 96 #[cW R,.agg #[.int .u8 119,.bool mu,.int .u64 v]] w (aU R g 17 w):=by
 have hmo:=kJ;have hco:=qF;have hms:=nR;have hcs:=wm;have hno:=rC;have hns:=oZ;obtain ⟨B0,z0,x0,x1⟩:=ly w 119 v mu;have HW : (w.alloc (bh 119 mu v)).alloc (bh 0 false 0) = qG w 119 v mu:=rfl;have hRl:=h.lt;have hgl:=h.g_lt;generalize qG w 119 v mu = W1 at *
 have H1:=hid (gD R g cap bs 119 123 #[] W1 (h.later B0) ax ax ae (fun _ _ => rfl) (qj 119 _ W1 rfl))
 have BW:=hid B0;obtain ⟨a0,a1,a2,_,_,_⟩:=aP x0;clear h B0
 go_enter Tryz.func96,Tryz.ntmps96
 go_wp2_with fail;refine H1.out.mono ?_;rintro e w2 ⟨rfl,g1,cap1,hw2,hs2⟩;have y0:=(hs2.block (b:=w.heap.size) ae ae ae).trans x0;have y1:=(hs2.block (b:=w.heap.size + 1) ae ae ae).trans x1;have n0 : w.heap.size ≠ g1:=hs2.ne ae ae;have n1 : w.heap.size + 1 ≠ g1:=hs2.ne ae ae;have S2:=hid ((Stp.of_below BW.out).trans hs2);have z2:=S2.out.size;have z2':=hs2.size;have gl2:=hw2.g_lt;obtain ⟨w3,hw3⟩ : ∃ w3,w2.alloc (fN 119) = w3:=⟨_,rfl⟩
 have B3 : Below w2.heap.size w2 w3:=by rw [← hw3]; exact aj _ _
 have z3 : w3.heap.size = w2.heap.size + 1:=by rw [← hw3]; simp
 have l3 : w3.cell? ⟨w2.heap.size,0,none⟩ = some (.int .u8 119):=by rw [← hw3]; exact fD _ _ _
 have q0:=(B3.block w.heap.size ae).trans y0;have q1:=(B3.block (w.heap.size + 1) ae).trans y1;obtain ⟨b0,b1,b2,_,_,_⟩:=aP q0
 have HO2:=hid (gD R g1 cap1 (bs ++ [119]) (bit mu) 125 #[] w3.drew ((hw2.later B3).later (Below.refl _ _).drew) (jV mu).1 (jV mu).2 aI (fun _ _ => rfl) (Ho mu _ w3.drew))
 have HF:=hid (Kv mu);have BB3:=hid B3;clear hs2 hw2 H1 x0 x1 a0 a1 a2 y0 y1 B3 HW;go_wp2_with fail
 go_region_held3 (fun W => W.cell? ⟨w.heap.size,1,none⟩ = some (.bool mu)) (assumption) (first
  | (go_at_call 124; refine (HF.out _).mono ?_; rintro e w' ⟨rfl,rfl⟩)
  | (go_at_call 195; refine HO2.out.mono ?_; rintro e w4 ⟨rfl,g2,cap2,hw4,hs4⟩; have hS' : w4.cell? ⟨w.heap.size,1,none⟩ = some (.bool mu):=hs4.cell b1 ae n0; have W4:=hid hw4; have S4:=hid hs4; clear hw4 hs4))
 all_goals
  have f0:=(S4.out.block (b:=w.heap.size) aI ae n0).trans q0;have f1:=(S4.out.block (b:=w.heap.size + 1) aI ae n1).trans q1;have f2:=S4.out.cell (b:=w2.heap.size) l3 ae ae;obtain ⟨d0,d1,d2,_,_,_⟩:=aP f0;have m0 : w.heap.size ≠ g2:=S4.out.ne aI n0;have m1 : w.heap.size + 1 ≠ g2:=S4.out.ne aI n1;have m2 : w2.heap.size ≠ g2:=S4.out.ne aI ae;have z4 : w3.heap.size ≤ w4.heap.size:=S4.out.size;have S4':=hid ((S2.out.trans (Stp.of_below BB3.out)).trans ((Stp.of_below ((Below.refl _ _).drew)).trans S4.out))
  have HWS:=hid (fun W => nU 119 v mu W v0 v1)
  clear S4 HO2 HF hS' q0 q1 b0 b1 b2 l3 hno hmo hco;go_wp2_with fail
  have HSG:=hid (fun W (hW : Below w4.heap.size w4 W) => s9 R g2 cap2 (bs ++ [119] ++ [bit mu]) (sgn 119 v) 127 #[.pointer (some ⟨w2.heap.size,0,none⟩)] 17 W (W4.out.later hW) (fun _ _ => rfl) (C6 w2.heap.size v _ W v0 v1 ((hW.cell zl).trans f2) ae))
  have HB4:=hid (fun (W5 : World) (hb : Below w4.heap.size w4.drew W5) => (Below.trans ((Below.refl w4.heap.size w4).drew) hb : Below w4.heap.size w4 W5))
  have HC4:=hid (fun (W5 : World) (hb : Below w4.heap.size w4 W5) => (⟨(hb.cell (by exact block_lt_of_cell d0)).trans d0,(hb.cell (by exact block_lt_of_cell d1)).trans d1,(hb.cell (by exact block_lt_of_cell d2)).trans d2⟩ : W5.cell? ⟨w.heap.size,0,none⟩ = some (.int .u8 119) ∧ W5.cell? ⟨w.heap.size,1,none⟩ = some (.bool mu) ∧ W5.cell? ⟨w.heap.size,2,none⟩ = some (.int .u64 v)))
  refine wp_region_held_drew (S:=(fun W => W.cell? ⟨w.heap.size,0,none⟩ = some (.int .u8 119) ∧ W.cell? ⟨w.heap.size,1,none⟩ = some (.bool mu) ∧ W.cell? ⟨w.heap.size,2,none⟩ = some (.int .u64 v))) ak ⟨d0,d1,d2⟩ (fun hHeld => ?_)
  refine tkC (i:=0) rfl ?_;(try simp only [Act.put,sIB]);refine tkC (i:=1) rfl ?_;(try simp only [Act.put]);refine tkC (i:=3) rfl ?_;(try simp only [Act.put]);refine tkC (i:=4) rfl ?_;(try simp only [Act.put]);refine rdY (rs:=[2,5]) ?_
  refine AllReadyH.cons rfl (fun K hK => ?_) (AllReadyH.cons rfl (fun K hK => ?_) rN)
  ·go_simp;refine (HWS.out _).mono ?_;rintro e w5 ⟨rfl,hb5⟩;have hB5:=hid (HB4.out w5 hb5);clear hb5
   refine hK.out _ _ (HC4.out w5 hB5.out) (fun hHeld2 => ?_)
   clear hK K;refine rdY (rs:=[5]) ?_
   refine AllReadyH.cons rfl (fun K hK => ?_) rN
   go_simp
   refine hK.out _ _ hHeld2 (fun hHeld3 => ?_)
   clear hK K;refine tkC (i:=6) rfl ?_;(try simp only [Act.put,sIB]);exact Ee
  ·go_simp
   refine hK.out _ _ hHeld (fun hHeld2 => ?_)
   clear hK K;refine tkC (i:=6) rfl ?_;(try simp only [Act.put,sIB]);refine rdY (rs:=[2]) ?_
   refine AllReadyH.cons rfl (fun K hK => ?_) rN
   go_simp;refine (HWS.out _).mono ?_;rintro e w5 ⟨rfl,hb5⟩;have hB5:=hid (HB4.out w5 hb5);clear hb5
   refine hK.out _ _ (HC4.out w5 hB5.out) (fun hHeld3 => ?_)
   clear hK K;exact Ee
end Go.Proofs.YtkdldbfbldkkcaaGreatDoor

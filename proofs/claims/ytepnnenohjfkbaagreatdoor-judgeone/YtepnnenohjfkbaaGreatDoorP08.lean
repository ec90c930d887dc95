/-
  Texts Wc Wh Nz.
-/
import Derived.RegionDies
import Derived.Test.YtepnnenohjfkbaaGreatDoorP00
import Derived.Test.YtepnnenohjfkbaaGreatDoorP05
import Derived.Test.YtepnnenohjfkbaaGreatDoorP07
set_option linter.unusedVariables false
set_option maxRecDepth 100000
set_option maxHeartbeats 16000000
namespace Go.Proofs.YtepnnenohjfkbaaGreatDoor
open Go.RowKit
theorem dz (w : World) (a b : Obj) : Below w.heap.size w ((w.alloc a).alloc b) ∧ ((w.alloc a).alloc b).heap.size = w.heap.size + 1 + 1 ∧ ((w.alloc a).alloc b).heap[w.heap.size]? = some a ∧ ((w.alloc a).alloc b).heap[w.heap.size + 1]? = some b:=by
 refine ⟨((Below.refl _ w).alloc (Nat.le_refl _) _).alloc (by simp) _,by simp,?_,?_⟩
 ·rw [(ag (w.alloc a) b).block _ (by simp)]
  exact (MapKept.heap_alloc w a).1
 ·have:=(MapKept.heap_alloc (w.alloc a) b).1
  simpa using this
theorem rh (R g cap : Nat) (bs : List Int) (x : (ByteArray × ByteArray)) (aa : Option Addr) (an ac : Nat) (A : Nat)  (w : World) (h : Wr w R g cap bs) (hA : w.cell? ⟨A,0,none⟩ = some (cW R))
  (P : (ByteArray × ByteArray) → Prop) (new : List Int) (hcall : ∀ W,Below w.heap.size w W → Calls Tryz.prog 115 #[cW R,.agg #[.string x.1,.string x.2],.slice aa an ac] W (fun e w' => ∃ y : (ByteArray × ByteArray),e = .returned (.agg #[.string y.1,.string y.2]) ∧ P y ∧ ∃ g' cap',Wr w' R g' cap' new ∧ Stp R g g' W w')) :
  Calls Tryz.prog 114 #[.agg #[.string x.1,.string x.2],.slice aa an ac,.pointer (some ⟨A,0,none⟩)] w (fun e w' => ∃ y : (ByteArray × ByteArray),e = .returned (.agg #[.string y.1,.string y.2]) ∧ P y ∧ ∃ g' cap',Wr w' R g' cap' new ∧ Stp R g g' w w'):=by
 obtain ⟨B0,z0,x0,x1⟩:=dz w (.cells #[.string x.1,.string x.2] 62) (.cells #[.string ⟨#[]⟩,.string ⟨#[]⟩] 62);have hRl:=h.lt;have hgl:=h.g_lt
 have hA1:=(B0.cell (by exact block_lt_of_cell hA)).trans hA
 have HC:=hid (hcall _ B0);obtain ⟨W1,hW1⟩ : ∃ W1,(w.alloc (.cells #[.string x.1,.string x.2] 62)).alloc (.cells #[.string ⟨#[]⟩,.string ⟨#[]⟩] 62) = W1:=⟨_,rfl⟩;rw [hW1] at B0 z0 x0 x1 hA1 HC;have BW:=hid B0;obtain ⟨a0,a1,_,_⟩:=be x0;clear h B0 hA hcall
 go_enter Tryz.func114,Tryz.ntmps114
 go_wp2_with fail;refine HC.out.mono ?_;rintro e w5 ⟨y,rfl,hP,g',cap',hw5,hs5⟩
 have q1:=(hs5.block (b:=w.heap.size + 1) (by omega) (by omega) (by omega)).trans x1
 have n1 : w.heap.size + 1 ≠ g':=hs5.ne (by omega) (by omega)
 obtain ⟨k0,k1,k2,k3⟩:=be q1;have hl1:=block_lt_of_cell k0;have W5:=hid hw5;have S5:=hid ((Stp.of_below BW.out).trans hs5);clear hw5 hs5 x0 x1 q1 HC;go_wp2_with fail;refine bodyPost_ret (v:=.agg #[.string y.1,.string y.2]) ?_ rfl ⟨y,rfl,hP,g',cap',?_,?_⟩
 ·rw [ay rfl];go_simp
 ·exact ((W5.out.set (b:=w.heap.size + 1) (by omega) n1).set (b:=w.heap.size + 1) (by omega) n1)
 ·exact ((S5.out.set (by omega)).set (by omega))
theorem uU (R g cap : Nat) (bs : List Int) (x : (ByteArray × ByteArray)) (aa : Option Addr) (an ac : Nat) (A : Nat)  (w : World) (h : Wr w R g cap bs) (hA : w.cell? ⟨A,0,none⟩ = some (cW R))
  (er : Int) (hcall : ∀ W,Below w.heap.size w W → Calls Tryz.prog 115 #[cW R,.agg #[.string x.1,.string x.2],.slice aa an ac] W (aG R g er W)) :
  Calls Tryz.prog 114 #[.agg #[.string x.1,.string x.2],.slice aa an ac,.pointer (some ⟨A,0,none⟩)] w (aG R g er w):=by
 obtain ⟨B0,z0,x0,x1⟩:=dz w (.cells #[.string x.1,.string x.2] 62) (.cells #[.string ⟨#[]⟩,.string ⟨#[]⟩] 62);have hRl:=h.lt;have hgl:=h.g_lt
 have hA1:=(B0.cell (by exact block_lt_of_cell hA)).trans hA
 have HC:=hid (hcall _ B0);obtain ⟨W1,hW1⟩ : ∃ W1,(w.alloc (.cells #[.string x.1,.string x.2] 62)).alloc (.cells #[.string ⟨#[]⟩,.string ⟨#[]⟩] 62) = W1:=⟨_,rfl⟩;rw [hW1] at B0 z0 x0 x1 hA1 HC;have BW:=hid B0;obtain ⟨a0,a1,_,_⟩:=be x0;clear h B0 hA hcall
 go_enter Tryz.func114,Tryz.ntmps114
 go_wp2_with fail;refine HC.out.mono ?_;rintro e w2 ⟨⟨q,rfl⟩,hk2⟩;exact ⟨rfl,⟨q,rfl⟩,(aB BW.out).trans hk2⟩
theorem su (R g cap : Nat) (bs : List Int) (x : (Int × Bool × Int)) (aa : Option Addr) (an ac : Nat) (A : Nat)  (w : World) (h : Wr w R g cap bs) (hA : w.cell? ⟨A,0,none⟩ = some (cW R))
  (P : (Int × Bool × Int) → Prop) (new : List Int) (hcall : ∀ W,Below w.heap.size w W → Calls Tryz.prog 121 #[cW R,.agg #[.int .u8 x.1,.bool x.2.1,.int .u64 x.2.2]] W (fun e w' => ∃ y : (Int × Bool × Int),e = .returned (.agg #[.int .u8 y.1,.bool y.2.1,.int .u64 y.2.2]) ∧ P y ∧ ∃ g' cap',Wr w' R g' cap' new ∧ Stp R g g' W w')) :
  Calls Tryz.prog 120 #[.agg #[.int .u8 x.1,.bool x.2.1,.int .u64 x.2.2],.slice aa an ac,.pointer (some ⟨A,0,none⟩)] w (fun e w' => ∃ y : (Int × Bool × Int),e = .returned (.agg #[.int .u8 y.1,.bool y.2.1,.int .u64 y.2.2]) ∧ P y ∧ ∃ g' cap',Wr w' R g' cap' new ∧ Stp R g g' w w'):=by
 obtain ⟨B0,z0,x0,x1⟩:=dz w (.cells #[.int .u8 x.1,.bool x.2.1,.int .u64 x.2.2] 141) (.cells #[.int .u8 0,.bool false,.int .u64 0] 141);have hRl:=h.lt;have hgl:=h.g_lt
 have hA1:=(B0.cell (by exact block_lt_of_cell hA)).trans hA
 have HC:=hid (hcall _ B0);obtain ⟨W1,hW1⟩ : ∃ W1,(w.alloc (.cells #[.int .u8 x.1,.bool x.2.1,.int .u64 x.2.2] 141)).alloc (.cells #[.int .u8 0,.bool false,.int .u64 0] 141) = W1:=⟨_,rfl⟩;rw [hW1] at B0 z0 x0 x1 hA1 HC;have BW:=hid B0;obtain ⟨a0,a1,a2,_,_,_⟩:=aE x0;clear h B0 hA hcall
 go_enter Tryz.func120,Tryz.ntmps120
 go_wp2_with fail;refine HC.out.mono ?_;rintro e w5 ⟨y,rfl,hP,g',cap',hw5,hs5⟩
 have q1:=(hs5.block (b:=w.heap.size + 1) (by omega) (by omega) (by omega)).trans x1
 have n1 : w.heap.size + 1 ≠ g':=hs5.ne (by omega) (by omega)
 obtain ⟨k0,k1,k2,k3,k4,k5⟩:=aE q1;have hl1:=block_lt_of_cell k0;have W5:=hid hw5;have S5:=hid ((Stp.of_below BW.out).trans hs5);clear hw5 hs5 x0 x1 q1 HC;go_wp2_with fail;refine bodyPost_ret (v:=.agg #[.int .u8 y.1,.bool y.2.1,.int .u64 y.2.2]) ?_ rfl ⟨y,rfl,hP,g',cap',?_,?_⟩
 ·rw [ay rfl];go_simp
 ·exact (((W5.out.set (b:=w.heap.size + 1) (by omega) n1).set (b:=w.heap.size + 1) (by omega) n1).set (b:=w.heap.size + 1) (by omega) n1)
 ·exact (((S5.out.set (by omega)).set (by omega)).set (by omega))
theorem uY (R g cap : Nat) (bs : List Int) (x : (Int × Bool × Int)) (aa : Option Addr) (an ac : Nat) (A : Nat)  (w : World) (h : Wr w R g cap bs) (hA : w.cell? ⟨A,0,none⟩ = some (cW R))
  (er : Int) (hcall : ∀ W,Below w.heap.size w W → Calls Tryz.prog 121 #[cW R,.agg #[.int .u8 x.1,.bool x.2.1,.int .u64 x.2.2]] W (aG R g er W)) :
  Calls Tryz.prog 120 #[.agg #[.int .u8 x.1,.bool x.2.1,.int .u64 x.2.2],.slice aa an ac,.pointer (some ⟨A,0,none⟩)] w (aG R g er w):=by
 obtain ⟨B0,z0,x0,x1⟩:=dz w (.cells #[.int .u8 x.1,.bool x.2.1,.int .u64 x.2.2] 141) (.cells #[.int .u8 0,.bool false,.int .u64 0] 141);have hRl:=h.lt;have hgl:=h.g_lt
 have hA1:=(B0.cell (by exact block_lt_of_cell hA)).trans hA
 have HC:=hid (hcall _ B0);obtain ⟨W1,hW1⟩ : ∃ W1,(w.alloc (.cells #[.int .u8 x.1,.bool x.2.1,.int .u64 x.2.2] 141)).alloc (.cells #[.int .u8 0,.bool false,.int .u64 0] 141) = W1:=⟨_,rfl⟩;rw [hW1] at B0 z0 x0 x1 hA1 HC;have BW:=hid B0;obtain ⟨a0,a1,a2,_,_,_⟩:=aE x0;clear h B0 hA hcall
 go_enter Tryz.func120,Tryz.ntmps120
 go_wp2_with fail;refine HC.out.mono ?_;rintro e w2 ⟨⟨q,rfl⟩,hk2⟩;exact ⟨rfl,⟨q,rfl⟩,(aB BW.out).trans hk2⟩
theorem sF (R g cap : Nat) (bs : List Int) (x : (Int × (Option Addr × Nat × Nat) × List Int)) (aa : Option Addr) (an ac : Nat) (A : Nat) (O : Nat) (fi : Int) (w : World) (h : Wr w R g cap bs) (hA : w.cell? ⟨A,0,none⟩ = some (cW R)) (hO : w.cell? ⟨O,3,none⟩ = some (.int .i64 fi)) (hf0 : 0 ≤ fi) (hf1 : fi ≤ 64)
  (P : (Int × (Option Addr × Nat × Nat)) → Prop) (new : List Int) (hcall : ∀ W,Below w.heap.size w W → Calls Tryz.prog 128 #[cW R,.agg #[.int .i64 x.1,.slice x.2.1.1 x.2.1.2.1 x.2.1.2.2],.slice aa an ac,.int .i64 (fi * 4096)] W (fun e w' => ∃ y : (Int × (Option Addr × Nat × Nat)),e = .returned (.agg #[.int .i64 y.1,.slice y.2.1 y.2.2.1 y.2.2.2]) ∧ P y ∧ ∃ g' cap',Wr w' R g' cap' new ∧ Stp R g g' W w')) :
  Calls Tryz.prog 127 #[.agg #[.int .i64 x.1,.slice x.2.1.1 x.2.1.2.1 x.2.1.2.2],.slice aa an ac,.pointer (some ⟨A,0,none⟩),.pointer (some ⟨O,0,none⟩)] w (fun e w' => ∃ y : (Int × (Option Addr × Nat × Nat)),e = .returned (.agg #[.int .i64 y.1,.slice y.2.1 y.2.2.1 y.2.2.2]) ∧ P y ∧ ∃ g' cap',Wr w' R g' cap' new ∧ Stp R g g' w w'):=by
 obtain ⟨B0,z0,x0,x1⟩:=dz w (.cells #[.int .i64 x.1,.slice x.2.1.1 x.2.1.2.1 x.2.1.2.2] 66) (.cells #[.int .i64 0,.slice none 0 0] 66);have hRl:=h.lt;have hgl:=h.g_lt
 have hA1:=(B0.cell (by exact block_lt_of_cell hA)).trans hA
 have hO1:=(B0.cell (p:=⟨O,3,none⟩) (by exact block_lt_of_cell hO)).trans hO
 have hwf : wrap64 (fi * 4096) = fi * 4096:=by unfold wrap64; omega
 have HC:=hid (hcall _ B0);obtain ⟨W1,hW1⟩ : ∃ W1,(w.alloc (.cells #[.int .i64 x.1,.slice x.2.1.1 x.2.1.2.1 x.2.1.2.2] 66)).alloc (.cells #[.int .i64 0,.slice none 0 0] 66) = W1:=⟨_,rfl⟩;rw [hW1] at B0 z0 x0 x1 hA1 HC hO1;have BW:=hid B0;obtain ⟨a0,a1,_,_⟩:=be x0;clear h B0 hA hcall
 go_enter Tryz.func127,Tryz.ntmps127
 go_wp2_with fail;refine HC.out.mono ?_;rintro e w5 ⟨y,rfl,hP,g',cap',hw5,hs5⟩
 have q1:=(hs5.block (b:=w.heap.size + 1) (by omega) (by omega) (by omega)).trans x1
 have n1 : w.heap.size + 1 ≠ g':=hs5.ne (by omega) (by omega)
 obtain ⟨k0,k1,k2,k3⟩:=be q1;have hl1:=block_lt_of_cell k0;have W5:=hid hw5;have S5:=hid ((Stp.of_below BW.out).trans hs5);clear hw5 hs5 x0 x1 q1 HC;go_wp2_with fail;refine bodyPost_ret (v:=.agg #[.int .i64 y.1,.slice y.2.1 y.2.2.1 y.2.2.2]) ?_ rfl ⟨y,rfl,hP,g',cap',?_,?_⟩
 ·rw [ay rfl];go_simp
 ·exact ((W5.out.set (b:=w.heap.size + 1) (by omega) n1).set (b:=w.heap.size + 1) (by omega) n1)
 ·exact ((S5.out.set (by omega)).set (by omega))
theorem vb (R g cap : Nat) (bs : List Int) (x : (Int × (Option Addr × Nat × Nat) × List Int)) (aa : Option Addr) (an ac : Nat) (A : Nat) (O : Nat) (fi : Int) (w : World) (h : Wr w R g cap bs) (hA : w.cell? ⟨A,0,none⟩ = some (cW R)) (hO : w.cell? ⟨O,3,none⟩ = some (.int .i64 fi)) (hf0 : 0 ≤ fi) (hf1 : fi ≤ 64)
  (er : Int) (hcall : ∀ W,Below w.heap.size w W → Calls Tryz.prog 128 #[cW R,.agg #[.int .i64 x.1,.slice x.2.1.1 x.2.1.2.1 x.2.1.2.2],.slice aa an ac,.int .i64 (fi * 4096)] W (aG R g er W)) :
  Calls Tryz.prog 127 #[.agg #[.int .i64 x.1,.slice x.2.1.1 x.2.1.2.1 x.2.1.2.2],.slice aa an ac,.pointer (some ⟨A,0,none⟩),.pointer (some ⟨O,0,none⟩)] w (aG R g er w):=by
 obtain ⟨B0,z0,x0,x1⟩:=dz w (.cells #[.int .i64 x.1,.slice x.2.1.1 x.2.1.2.1 x.2.1.2.2] 66) (.cells #[.int .i64 0,.slice none 0 0] 66);have hRl:=h.lt;have hgl:=h.g_lt
 have hA1:=(B0.cell (by exact block_lt_of_cell hA)).trans hA
 have hO1:=(B0.cell (p:=⟨O,3,none⟩) (by exact block_lt_of_cell hO)).trans hO
 have hwf : wrap64 (fi * 4096) = fi * 4096:=by unfold wrap64; omega
 have HC:=hid (hcall _ B0);obtain ⟨W1,hW1⟩ : ∃ W1,(w.alloc (.cells #[.int .i64 x.1,.slice x.2.1.1 x.2.1.2.1 x.2.1.2.2] 66)).alloc (.cells #[.int .i64 0,.slice none 0 0] 66) = W1:=⟨_,rfl⟩;rw [hW1] at B0 z0 x0 x1 hA1 HC hO1;have BW:=hid B0;obtain ⟨a0,a1,_,_⟩:=be x0;clear h B0 hA hcall
 go_enter Tryz.func127,Tryz.ntmps127
 go_wp2_with fail;refine HC.out.mono ?_;rintro e w2 ⟨⟨q,rfl⟩,hk2⟩;exact ⟨rfl,⟨q,rfl⟩,(aB BW.out).trans hk2⟩
theorem sq (R g cap : Nat) (bs : List Int) (x : (ByteArray × Int)) (aa : Option Addr) (an ac : Nat) (A : Nat) (O : Nat) (fa : Option Addr) (fn fc : Nat) (w : World) (h : Wr w R g cap bs) (hA : w.cell? ⟨A,0,none⟩ = some (cW R)) (hO : w.cell? ⟨O,5,none⟩ = some (.slice fa fn fc))
  (P : (ByteArray × Int) → Prop) (new : List Int) (hcall : ∀ W,Below w.heap.size w W → Calls Tryz.prog 131 #[cW R,.agg #[.string x.1,.int .i64 x.2],.slice aa an ac,.int .i64 fn] W (fun e w' => ∃ y : (ByteArray × Int),e = .returned (.agg #[.string y.1,.int .i64 y.2]) ∧ P y ∧ ∃ g' cap',Wr w' R g' cap' new ∧ Stp R g g' W w')) :
  Calls Tryz.prog 130 #[.agg #[.string x.1,.int .i64 x.2],.slice aa an ac,.pointer (some ⟨A,0,none⟩),.pointer (some ⟨O,0,none⟩)] w (fun e w' => ∃ y : (ByteArray × Int),e = .returned (.agg #[.string y.1,.int .i64 y.2]) ∧ P y ∧ ∃ g' cap',Wr w' R g' cap' new ∧ Stp R g g' w w'):=by
 obtain ⟨B0,z0,x0,x1⟩:=dz w (.cells #[.string x.1,.int .i64 x.2] 68) (.cells #[.string ⟨#[]⟩,.int .i64 0] 68);have hRl:=h.lt;have hgl:=h.g_lt
 have hA1:=(B0.cell (by exact block_lt_of_cell hA)).trans hA
 have hO1:=(B0.cell (p:=⟨O,5,none⟩) (by exact block_lt_of_cell hO)).trans hO
 have HC:=hid (hcall _ B0);obtain ⟨W1,hW1⟩ : ∃ W1,(w.alloc (.cells #[.string x.1,.int .i64 x.2] 68)).alloc (.cells #[.string ⟨#[]⟩,.int .i64 0] 68) = W1:=⟨_,rfl⟩;rw [hW1] at B0 z0 x0 x1 hA1 HC hO1;have BW:=hid B0;obtain ⟨a0,a1,_,_⟩:=be x0;clear h B0 hA hcall
 go_enter Tryz.func130,Tryz.ntmps130
 go_wp2_with fail;refine HC.out.mono ?_;rintro e w5 ⟨y,rfl,hP,g',cap',hw5,hs5⟩
 have q1:=(hs5.block (b:=w.heap.size + 1) (by omega) (by omega) (by omega)).trans x1
 have n1 : w.heap.size + 1 ≠ g':=hs5.ne (by omega) (by omega)
 obtain ⟨k0,k1,k2,k3⟩:=be q1;have hl1:=block_lt_of_cell k0;have W5:=hid hw5;have S5:=hid ((Stp.of_below BW.out).trans hs5);clear hw5 hs5 x0 x1 q1 HC;go_wp2_with fail;refine bodyPost_ret (v:=.agg #[.string y.1,.int .i64 y.2]) ?_ rfl ⟨y,rfl,hP,g',cap',?_,?_⟩
 ·rw [ay rfl];go_simp
 ·exact ((W5.out.set (b:=w.heap.size + 1) (by omega) n1).set (b:=w.heap.size + 1) (by omega) n1)
 ·exact ((S5.out.set (by omega)).set (by omega))
theorem tZ (R g cap : Nat) (bs : List Int) (x : (ByteArray × Int)) (aa : Option Addr) (an ac : Nat) (A : Nat) (O : Nat) (fa : Option Addr) (fn fc : Nat) (w : World) (h : Wr w R g cap bs) (hA : w.cell? ⟨A,0,none⟩ = some (cW R)) (hO : w.cell? ⟨O,5,none⟩ = some (.slice fa fn fc))
  (er : Int) (hcall : ∀ W,Below w.heap.size w W → Calls Tryz.prog 131 #[cW R,.agg #[.string x.1,.int .i64 x.2],.slice aa an ac,.int .i64 fn] W (aG R g er W)) :
  Calls Tryz.prog 130 #[.agg #[.string x.1,.int .i64 x.2],.slice aa an ac,.pointer (some ⟨A,0,none⟩),.pointer (some ⟨O,0,none⟩)] w (aG R g er w):=by
 obtain ⟨B0,z0,x0,x1⟩:=dz w (.cells #[.string x.1,.int .i64 x.2] 68) (.cells #[.string ⟨#[]⟩,.int .i64 0] 68);have hRl:=h.lt;have hgl:=h.g_lt
 have hA1:=(B0.cell (by exact block_lt_of_cell hA)).trans hA
 have hO1:=(B0.cell (p:=⟨O,5,none⟩) (by exact block_lt_of_cell hO)).trans hO
 have HC:=hid (hcall _ B0);obtain ⟨W1,hW1⟩ : ∃ W1,(w.alloc (.cells #[.string x.1,.int .i64 x.2] 68)).alloc (.cells #[.string ⟨#[]⟩,.int .i64 0] 68) = W1:=⟨_,rfl⟩;rw [hW1] at B0 z0 x0 x1 hA1 HC hO1;have BW:=hid B0;obtain ⟨a0,a1,_,_⟩:=be x0;clear h B0 hA hcall
 go_enter Tryz.func130,Tryz.ntmps130
 go_wp2_with fail;refine HC.out.mono ?_;rintro e w2 ⟨⟨q,rfl⟩,hk2⟩;exact ⟨rfl,⟨q,rfl⟩,(aB BW.out).trans hk2⟩
theorem rJ (R g cap : Nat) (bs : List Int) (x : Int) (aa : Option Addr) (an ac : Nat) (A O : Nat) (ta : Option Addr) (tn tc : Nat) (w : World) (h : Wr w R g cap bs) (hb : bs.length + 10 ≤ 1099511627776) (hA : w.cell? ⟨A,0,none⟩ = some (cW R)) (hO : w.cell? ⟨O,0,none⟩ = some (.slice ta tn tc)) (h0 : 0 ≤ x) (h1 : x < tn) (h2 : tn ≤ 100000) :
  Calls Tryz.prog 117 #[.int .i64 x,.slice aa an ac,.pointer (some ⟨A,0,none⟩),.pointer (some ⟨O,0,none⟩)] w (i6 R g bs (am x) (.int .i64 x) w):=by
 have HX:=hid (cY R g cap bs x tn w h hb h0 h1 (by omega))
 clear h
 go_enter Tryz.func117,Tryz.ntmps117
 go_wp2_with fail;refine HX.out.mono ?_;rintro e w1 ⟨rfl,g',cap',hw1,hs1⟩;have W1:=hid hw1;have S1:=hid hs1;clear hw1 hs1 HX hA hO;go_wp2_with fail;go_ret;exact ⟨rfl,g',cap',W1.out,S1.out⟩
theorem vg (R g cap : Nat) (bs : List Int) (x : Int) (aa : Option Addr) (an ac : Nat) (A O : Nat) (ta : Option Addr) (tn tc : Nat) (w : World) (h : Wr w R g cap bs) (hA : w.cell? ⟨A,0,none⟩ = some (cW R)) (hO : w.cell? ⟨O,0,none⟩ = some (.slice ta tn tc)) (h0 : -9223372036854775808 ≤ x) (h1 : x < 9223372036854775808) (hx : x < 0 ∨ (tn : Int) ≤ x) (h2 : tn ≤ 100000) :
  Calls Tryz.prog 117 #[.int .i64 x,.slice aa an ac,.pointer (some ⟨A,0,none⟩),.pointer (some ⟨O,0,none⟩)] w (aG R g 30 w):=by
 have HX:=hid (fY R g cap bs x tn w h h0 h1 hx (by omega) (by omega))
 clear h
 go_enter Tryz.func117,Tryz.ntmps117
 go_wp2_with fail;refine HX.out.mono ?_;rintro e w1 ⟨⟨q,rfl⟩,hk⟩;exact ⟨rfl,⟨q,rfl⟩,hk⟩
theorem rX (R g cap : Nat) (bs : List Int) (c v : Int) (mu : Bool) (w : World) (h : Wr w R g cap bs) (hl : isL c = false) :
  Calls Tryz.prog 121 #[cW R,.agg #[.int .u8 c,.bool mu,.int .u64 v]] w (aG R g 15 w):=by
 have hmo:=gY;have hco:=kM;obtain ⟨B0,z0,x0,x1⟩:=gN w c v mu;have HW : (w.alloc (.cells #[.int .u8 c,.bool mu,.int .u64 v] 141)).alloc (.cells #[.int .u8 0,.bool false,.int .u64 0] 141) = kC w c v mu:=rfl;generalize kC w c v mu = W1 at *
 have H1:=hid (pE R g cap bs c 180 #[] 15 W1 (h.later B0) (fun _ _ => rfl) (ul c _ W1 hl))
 have BW:=hid B0;obtain ⟨a0,a1,a2,_,_,_⟩:=aE x0;clear h B0
 go_enter Tryz.func121,Tryz.ntmps121
 go_wp2_with fail;refine H1.out.mono ?_;rintro e w2 ⟨⟨p,rfl⟩,hk⟩;exact ⟨rfl,⟨p,rfl⟩,(aB BW.out).trans hk⟩
theorem rP (R g cap : Nat) (bs : List Int) (v : Int) (mu : Bool) (w : World) (h : Wr w R g cap bs) (hb : bs.length + 100 ≤ 1099511627776) (v0 : 0 ≤ v) (v1 : v < 18446744073709551616) (hv : ¬ v < 4294967296) :
  Calls Tryz.prog 121 #[cW R,.agg #[.int .u8 119,.bool mu,.int .u64 v]] w (aG R g 17 w):=by
 have hmo:=gY;have hco:=kM;have hms:=jp;have hcs:=o9;have hno:=mh;have hns:=lj;obtain ⟨B0,z0,x0,x1⟩:=gN w 119 v mu;have HW : (w.alloc (.cells #[.int .u8 119,.bool mu,.int .u64 v] 141)).alloc (.cells #[.int .u8 0,.bool false,.int .u64 0] 141) = kC w 119 v mu:=rfl;have hRl:=h.lt;have hgl:=h.g_lt;generalize kC w 119 v mu = W1 at *
 have H1:=hid (dK R g cap bs 119 180 #[] W1 (h.later B0) (by decide) (by decide) (by omega) (fun _ _ => rfl) (k6 119 _ W1 rfl))
 have BW:=hid B0;obtain ⟨a0,a1,a2,_,_,_⟩:=aE x0;clear h B0
 go_enter Tryz.func121,Tryz.ntmps121
 go_wp2_with fail;refine H1.out.mono ?_;rintro e w2 ⟨rfl,g1,cap1,hw2,hs2⟩
 have y0:=(hs2.block (b:=w.heap.size) (by omega) (by omega) (by omega)).trans x0
 have y1:=(hs2.block (b:=w.heap.size + 1) (by omega) (by omega) (by omega)).trans x1
 have n0 : w.heap.size ≠ g1:=hs2.ne (by omega) (by omega)
 have n1 : w.heap.size + 1 ≠ g1:=hs2.ne (by omega) (by omega)
 have S2:=hid ((Stp.of_below BW.out).trans hs2);have z2:=S2.out.size;have z2':=hs2.size;have gl2:=hw2.g_lt;obtain ⟨w3,hw3⟩ : ∃ w3,w2.alloc (.cells #[.int .u8 119] 5) = w3:=⟨_,rfl⟩
 have B3 : Below w2.heap.size w2 w3:=by rw [← hw3]; exact ag _ _
 have z3 : w3.heap.size = w2.heap.size + 1:=by rw [← hw3]; simp
 have l3 : w3.cell? ⟨w2.heap.size,0,none⟩ = some (.int .u8 119):=by rw [← hw3]; exact cZ _ _ _
 have q0:=(B3.block w.heap.size (by omega)).trans y0
 have q1:=(B3.block (w.heap.size + 1) (by omega)).trans y1
 obtain ⟨b0,b1,b2,_,_,_⟩:=aE q0
 have HO2:=hid (dK R g1 cap1 (bs ++ [119]) (bit mu) 183 #[] w3.drew ((hw2.later B3).later (Below.refl _ _).drew) (gu mu).1 (gu mu).2 (by simp; omega) (fun _ _ => rfl) (wX mu _ w3.drew))
 have HF:=hid (yQ mu);have BB3:=hid B3;clear hs2 hw2 H1 x0 x1 a0 a1 a2 y0 y1 B3 HW;go_wp2_with fail
 go_region_held3 (fun W => W.cell? ⟨w.heap.size,1,none⟩ = some (.bool mu)) (assumption) (first
  | (go_at_call 182; refine (HF.out _).mono ?_; rintro e w' ⟨rfl,rfl⟩)
  | (go_at_call 313; refine HO2.out.mono ?_; rintro e w4 ⟨rfl,g2,cap2,hw4,hs4⟩; have hS' : w4.cell? ⟨w.heap.size,1,none⟩ = some (.bool mu):=hs4.cell b1 (by omega) n0; have W4:=hid hw4; have S4:=hid hs4; clear hw4 hs4))
 all_goals
  have f0:=(S4.out.block (b:=w.heap.size) (by simp; omega) (by omega) n0).trans q0
  have f1:=(S4.out.block (b:=w.heap.size + 1) (by simp; omega) (by omega) n1).trans q1
  have f2:=S4.out.cell (b:=w2.heap.size) l3 (by omega) (by omega)
  obtain ⟨d0,d1,d2,_,_,_⟩:=aE f0
  have m0 : w.heap.size ≠ g2:=S4.out.ne (by simp; omega) n0
  have m1 : w.heap.size + 1 ≠ g2:=S4.out.ne (by simp; omega) n1
  have m2 : w2.heap.size ≠ g2:=S4.out.ne (by simp; omega) (by omega)
  have z4 : w3.heap.size ≤ w4.heap.size:=S4.out.size;have S4':=hid ((S2.out.trans (Stp.of_below BB3.out)).trans ((Stp.of_below ((Below.refl _ _).drew)).trans S4.out))
  have HWS:=hid (fun W => jx 119 v mu W v0 v1)
  clear S4 HO2 HF hS' q0 q1 b0 b1 b2 l3 hno hmo hco;go_wp2_with fail
  have HSG:=hid (fun W (hW : Below w4.heap.size w4 W) => m8 R g2 cap2 (bs ++ [119] ++ [bit mu]) (sgn 119 v) 185 #[.pointer (some ⟨w2.heap.size,0,none⟩)] 17 W (W4.out.later hW) (fun _ _ => rfl) (uQ w2.heap.size v _ W v0 v1 ((hW.cell (by exact block_lt_of_cell f2)).trans f2) (by omega)))
  have HB4:=hid (fun (W5 : World) (hb : Below w4.heap.size w4.drew W5) => (Below.trans ((Below.refl w4.heap.size w4).drew) hb : Below w4.heap.size w4 W5))
  have HC4:=hid (fun (W5 : World) (hb : Below w4.heap.size w4 W5) => (⟨(hb.cell (by exact block_lt_of_cell d0)).trans d0,(hb.cell (by exact block_lt_of_cell d1)).trans d1,(hb.cell (by exact block_lt_of_cell d2)).trans d2⟩ : W5.cell? ⟨w.heap.size,0,none⟩ = some (.int .u8 119) ∧ W5.cell? ⟨w.heap.size,1,none⟩ = some (.bool mu) ∧ W5.cell? ⟨w.heap.size,2,none⟩ = some (.int .u64 v)))
  refine wp_region_held_drew (S:=(fun W => W.cell? ⟨w.heap.size,0,none⟩ = some (.int .u8 119) ∧ W.cell? ⟨w.heap.size,1,none⟩ = some (.bool mu) ∧ W.cell? ⟨w.heap.size,2,none⟩ = some (.int .u64 v))) (by kernel_rfl) ⟨d0,d1,d2⟩ (fun hHeld => ?_)
  refine tkC (i:=0) rfl ?_;try simp only [Act.put,sIB];refine tkC (i:=1) rfl ?_;try simp only [Act.put];refine tkC (i:=3) rfl ?_;try simp only [Act.put];refine tkC (i:=4) rfl ?_;try simp only [Act.put];refine rdY (rs:=[2,5]) ?_
  refine AllReadyH.cons rfl (fun K hK => ?_) (AllReadyH.cons rfl (fun K hK => ?_) rN)
  ·go_simp;refine (HWS.out _).mono ?_;rintro e w5 ⟨rfl,hb5⟩;have hB5:=hid (HB4.out w5 hb5);clear hb5
   refine hK.out _ _ (HC4.out w5 hB5.out) (fun hHeld2 => ?_)
   clear hK K;refine rdY (rs:=[5]) ?_
   refine AllReadyH.cons rfl (fun K hK => ?_) rN
   go_simp
   refine hK.out _ _ hHeld2 (fun hHeld3 => ?_)
   clear hK K;refine tkC (i:=6) rfl ?_;try simp only [Act.put,sIB];refine rdY (rs:=[7]) ?_
   refine AllReadyH.cons rfl (fun K hK => ?_) rN
   go_simp;refine (HSG.out _ hB5.out).mono ?_;rintro e w6 ⟨⟨q,rfl⟩,hk6⟩;exact ⟨rfl,⟨q,rfl⟩,(S4'.out.trans (Stp.of_below hB5.out)).throw hk6⟩
  ·go_simp
   refine hK.out _ _ hHeld (fun hHeld2 => ?_)
   clear hK K;refine tkC (i:=6) rfl ?_;try simp only [Act.put,sIB];refine rdY (rs:=[2]) ?_
   refine AllReadyH.cons rfl (fun K hK => ?_) rN
   go_simp;refine (HWS.out _).mono ?_;rintro e w5 ⟨rfl,hb5⟩;have hB5:=hid (HB4.out w5 hb5);clear hb5
   refine hK.out _ _ (HC4.out w5 hB5.out) (fun hHeld3 => ?_)
   clear hK K;refine rdY (rs:=[7]) ?_
   refine AllReadyH.cons rfl (fun K hK => ?_) rN
   go_simp;refine (HSG.out _ hB5.out).mono ?_;rintro e w6 ⟨⟨q,rfl⟩,hk6⟩;exact ⟨rfl,⟨q,rfl⟩,(S4'.out.trans (Stp.of_below hB5.out)).throw hk6⟩
def nz (n : Nat) (a : Option Addr) : Option Addr:=if n = 0 then none else a
theorem tA {n : Nat} {a : Option Addr} {p : Addr} (h : nz n a = some p) : a = some p:=by
 unfold nz at h
 split at h
 ·cases h
 ·exact h
theorem vN {n : Nat} {a : Option Addr} {p : Addr} (hn : n ≠ 0) (h : a = some p) : nz n a = some p:=by
 unfold nz
 rw [if_neg hn]; exact h
end Go.Proofs.YtepnnenohjfkbaaGreatDoor

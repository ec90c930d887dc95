/-
  Texts Vj.
-/
import Derived.Test.YtkdldbfbldkkcaaGreatDoorM00
import Derived.Test.YtkdldbfbldkkcaaGreatDoorM30
set_option linter.unusedVariables false
set_option maxRecDepth 100000
set_option maxHeartbeats 16000000
namespace Go.Proofs.YtkdldbfbldkkcaaGreatDoor
open Go.RowKit
theorem gQ {B : Nat} {w W : World} {g i j : Nat} {u x : Value} (h : Below B w W) (hB : B ≤ g) (hs : B ≤ W.heap.size) : Below B w ((W.setCell ⟨g,i,none⟩ u).setCell ⟨g,j,none⟩ x) :=
 bF (bF h hB hs) hB (by simpa [World.setCell] using hs)
abbrev loS (C X i : Nat) (lv : Value) (op q : Int) (w W : World) : Prop :=
 W.cell? ⟨C,i,none⟩ = some lv ∧ W.cell? ⟨X,0,none⟩ = some (.int .u8 op) ∧ W.cell? ⟨X,1,none⟩ = some (.int .i64 q) ∧ Below w.heap.size w W
theorem loS.later {C X i : Nat} {lv : Value} {op q : Int} {w W W' : World} (h : loS C X i lv op q w W) (hb : Below W.heap.size W W') : loS C X i lv op q w W' :=
 ⟨ag hb h.1,ag hb h.2.1,ag hb h.2.2.1,h.2.2.2.trans (hb.mono h.2.2.2.size)⟩
theorem loS.put {C X i : Nat} {lv : Value} {op q : Int} {w W : World} {j : Nat} {u : Value} (h : loS C X i lv op q w W) (hC : C < w.heap.size) (hX : X = w.heap.size) : loS C X i lv op q w (W.setCell ⟨w.heap.size + 1,j,none⟩ u) :=
 ⟨aT h.1 ae,aT h.2.1 ae,aT h.2.2.1 ae,bF h.2.2.2 ae h.2.2.2.size⟩
section
variable {v : Ev} {w1 w : World} {s : Cs} {m : MM} {lo : List Int}
theorem qJ (hA : EvA v w1) (h : CI v w1 w s) {k : Nat} {o : Opn} (hw : CW s k o) (a : Int) (L : Value) :
  Calls Tryz.prog 117 #[.pointer (some ⟨v.C,0,none⟩),.agg #[.int .u8 16,.int .i64 a,L]] w (Rdz w (lN s o 0) (.agg #[.string (iG s o 0),.string ⟨#[]⟩])):=by
 have BW : Below w.heap.size w ((w.alloc (aA 16 a L)).alloc (aG ⟨#[]⟩ ⟨#[]⟩)):=((Below.refl _ _).alloc (Nat.le_refl _) _).alloc au _;have x1 : ((w.alloc (aA 16 a L)).alloc (aG ⟨#[]⟩ ⟨#[]⟩)).cell? ⟨w.heap.size,1,none⟩ = some (.int .i64 a):=aB;have x0 : ((w.alloc (aA 16 a L)).alloc (aG ⟨#[]⟩ ⟨#[]⟩)).cell? ⟨w.heap.size,0,none⟩ = some (.int .u8 16):=aB;have y0 : ((w.alloc (aA 16 a L)).alloc (aG ⟨#[]⟩ ⟨#[]⟩)).cell? ⟨w.heap.size + 1,0,none⟩ = some (.string ⟨#[]⟩):=aB;have y1 : ((w.alloc (aA 16 a L)).alloc (aG ⟨#[]⟩ ⟨#[]⟩)).cell? ⟨w.heap.size + 1,1,none⟩ = some (.string ⟨#[]⟩):=aB;have z0 : ((w.alloc (aA 16 a L)).alloc (aG ⟨#[]⟩ ⟨#[]⟩)).frozen? ⟨w.heap.size + 1,0,none⟩ = false:=aB;have z1 : ((w.alloc (aA 16 a L)).alloc (aG ⟨#[]⟩ ⟨#[]⟩)).frozen? ⟨w.heap.size + 1,1,none⟩ = false:=aB;have HL:=hid (rO hA (h.later hA BW) hw 0 ae);have HB:=hid BW;generalize lN s o 0 = E at *;generalize iG s o 0 = V at *;clear h hw BW
 go_enter Tryz.func117,Tryz.ntmps117
 go_wp2_with fail;generalize (w.alloc (aA 16 a L)).alloc (aG ⟨#[]⟩ ⟨#[]⟩) = W0 at *;refine HL.out.mono ?_
 rintro e w2 (⟨h0,rfl,hb⟩ | ⟨h0,rfl,hb⟩)
 ·have k0:=ag hb y0;have k1:=ag hb y1;have j0:=aC hb y0 z0;have j1:=aC hb y1 z1;have HB2:=hid (HB.out.trans (hb.mono HB.out.size));clear hb;go_wp2_with fail;refine bodyPost_ret (v:=.agg #[.string V,.string ⟨#[]⟩]) ?_ rfl (.inl ⟨h0,rfl,gQ HB2.out ae HB2.out.size⟩);exact cF
 ·exact ⟨rfl,.inr ⟨h0,rfl,HB.out.trans (hb.mono HB.out.size)⟩⟩
theorem nr (hA : EvA v w1) (h : CI v w1 w s) {k : Nat} {o : Opn} (hw : CW s k o) (a : Int) (L : Value) :
  Calls Tryz.prog 117 #[.pointer (some ⟨v.C,0,none⟩),.agg #[.int .u8 17,.int .i64 a,L]] w (Rdz w (lN s o 1) (.agg #[.string (iG s o 1 ++ iG s o 1 ++ ⟨#[119]⟩),.string (iG s o 1)])):=by
 have BW : Below w.heap.size w ((w.alloc (aA 17 a L)).alloc (aG ⟨#[]⟩ ⟨#[]⟩)):=((Below.refl _ _).alloc (Nat.le_refl _) _).alloc au _;have x1 : ((w.alloc (aA 17 a L)).alloc (aG ⟨#[]⟩ ⟨#[]⟩)).cell? ⟨w.heap.size,1,none⟩ = some (.int .i64 a):=aB;have x0 : ((w.alloc (aA 17 a L)).alloc (aG ⟨#[]⟩ ⟨#[]⟩)).cell? ⟨w.heap.size,0,none⟩ = some (.int .u8 17):=aB;have y0 : ((w.alloc (aA 17 a L)).alloc (aG ⟨#[]⟩ ⟨#[]⟩)).cell? ⟨w.heap.size + 1,0,none⟩ = some (.string ⟨#[]⟩):=aB;have y1 : ((w.alloc (aA 17 a L)).alloc (aG ⟨#[]⟩ ⟨#[]⟩)).cell? ⟨w.heap.size + 1,1,none⟩ = some (.string ⟨#[]⟩):=aB;have z0 : ((w.alloc (aA 17 a L)).alloc (aG ⟨#[]⟩ ⟨#[]⟩)).frozen? ⟨w.heap.size + 1,0,none⟩ = false:=aB;have z1 : ((w.alloc (aA 17 a L)).alloc (aG ⟨#[]⟩ ⟨#[]⟩)).frozen? ⟨w.heap.size + 1,1,none⟩ = false:=aB;have HL:=hid (rO hA (h.later hA BW) hw 1 ae);have HB:=hid BW
 have hV : (iG s o 1).size ≤ 1:=by simp [iG]; omega
 generalize lN s o 1 = E at *;generalize iG s o 1 = V at *;clear h hw BW
 go_enter Tryz.func117,Tryz.ntmps117
 go_wp2_with fail;generalize (w.alloc (aA 17 a L)).alloc (aG ⟨#[]⟩ ⟨#[]⟩) = W0 at *;refine HL.out.mono ?_
 rintro e w2 (⟨h0,rfl,hb⟩ | ⟨h0,rfl,hb⟩)
 ·have k0:=ag hb y0;have k1:=ag hb y1;have j0:=aC hb y0 z0;have j1:=aC hb y1 z1;have HB2:=hid (HB.out.trans (hb.mono HB.out.size));clear hb;go_wp2_with fail;refine bodyPost_ret (v:=.agg #[.string (V ++ V ++ ⟨#[119]⟩),.string V]) ?_ rfl (.inl ⟨h0,rfl,gQ HB2.out ae HB2.out.size⟩);exact cF
 ·exact ⟨rfl,.inr ⟨h0,rfl,HB.out.trans (hb.mono HB.out.size)⟩⟩
theorem lQ (hA : EvA v w1) (hM : EvM v w1 m lo) (h : CI v w1 w s) {q : Nat} {c : Int} (L : Value) (hq : lo[q]? = some c) :
  Calls Tryz.prog 117 #[.pointer (some ⟨v.C,0,none⟩),.agg #[.int .u8 18,.int .i64 q,L]] w (Rdz w 0 (.agg #[.string (jb 18 (ltr c)),.string (js 18 (ltr c))])):=by
 have BW : Below w.heap.size w ((w.alloc (aA 18 q L)).alloc (aG ⟨#[]⟩ ⟨#[]⟩)):=((Below.refl _ _).alloc (Nat.le_refl _) _).alloc au _;have x1 : ((w.alloc (aA 18 q L)).alloc (aG ⟨#[]⟩ ⟨#[]⟩)).cell? ⟨w.heap.size,1,none⟩ = some (.int .i64 q):=aB;have x0 : ((w.alloc (aA 18 q L)).alloc (aG ⟨#[]⟩ ⟨#[]⟩)).cell? ⟨w.heap.size,0,none⟩ = some (.int .u8 18):=aB;have y0 : ((w.alloc (aA 18 q L)).alloc (aG ⟨#[]⟩ ⟨#[]⟩)).cell? ⟨w.heap.size + 1,0,none⟩ = some (.string ⟨#[]⟩):=aB;have y1 : ((w.alloc (aA 18 q L)).alloc (aG ⟨#[]⟩ ⟨#[]⟩)).cell? ⟨w.heap.size + 1,1,none⟩ = some (.string ⟨#[]⟩):=aB;have z0 : ((w.alloc (aA 18 q L)).alloc (aG ⟨#[]⟩ ⟨#[]⟩)).frozen? ⟨w.heap.size + 1,0,none⟩ = false:=aB;have z1 : ((w.alloc (aA 18 q L)).alloc (aG ⟨#[]⟩ ⟨#[]⟩)).frozen? ⟨w.heap.size + 1,1,none⟩ = false:=aB;obtain ⟨la,ln,lcp,hlv,hln,hl64,hcells⟩:=hM.lv;have hqn : q < ln:=yY
 obtain ⟨lb,loff,rfl,hlS,hlc⟩ : ∃ b off,la = some ⟨b,off,none⟩ ∧ ¬ v.S b ∧ ∀ (j : Nat) x,lo[j]? = some x → w1.cell? ⟨b,off + j,none⟩ = some (.int .u8 x):=by
  exact sG
 have f0:=h.kept.cell (hlc q c hq) hlS
 have HF:=hid (fun W (hb : Below w.heap.size w W) => jC (w:=W) (cap:=lcp) hqn ae (ag hb f0))
 have HH:=hid (fun W => iH (w:=W) 18 c (hM.lL c (List.mem_of_getElem? hq)) ae)
 have c8:=h.lc;have HK:=hid h.kept.size;rw [hlv] at c8;have d8:=ag BW c8;have HB:=hid BW;clear h c8 f0 hlc hcells hq BW;generalize jb 18 (ltr c) = P at *;generalize js 18 (ltr c) = R at *;have hCl : v.C < w.heap.size:=Nat.lt_of_lt_of_le hA.c HK.out
 go_enter Tryz.func117,Tryz.ntmps117
 go_wp2_with fail;generalize (w.alloc (aA 18 q L)).alloc (aG ⟨#[]⟩ ⟨#[]⟩) = W0 at *
 go_region_held3 (loS v.C w.heap.size 8 (.slice (some ⟨lb,loff,none⟩) ln lcp) 18 q w)
  (first | assumption | exact loS.put (loS.put bB hCl rfl) hCl rfl | exact (loS.put (loS.put bB hCl rfl) hCl rfl).later (below_drewN _ 1) | exact ⟨d8,x0,x1,HB.out.drew⟩)
  (first
   | (go_at_call 148; refine (HF.out _ (And.right (And.right (And.right bB)))).mono ?_; rintro e w' ⟨rfl,hbx⟩; have hS':=loS.later bB hbx; have k0:=ag hbx (show World.cell? _ _ = _ from y0); have k1:=ag hbx (show World.cell? _ _ = _ from y1); have j0:=aC hbx (show World.cell? _ _ = _ from y0) (show World.frozen? _ _ = _ from z0); have j1:=aC hbx (show World.cell? _ _ = _ from y1) (show World.frozen? _ _ = _ from z1); clear hbx)
   | (go_at_call 147; refine (HH.out _).mono ?_; rintro e w'' ⟨rfl,hbx⟩; have hS'':=loS.later hS' hbx; have l0:=ag hbx k0; have l1:=ag hbx k1; have i0:=aC hbx k0 j0; have i1:=aC hbx k1 j1; clear hbx))
 exact xx
theorem jM (hA : EvA v w1) (hM : EvM v w1 m lo) (h : CI v w1 w s) {z : Int} (L : Value) (hz : z < 0 ∨ (lo.length : Int) ≤ z) :
  Calls Tryz.prog 117 #[.pointer (some ⟨v.C,0,none⟩),.agg #[.int .u8 18,.int .i64 z,L]] w (Rdz w 30 (.agg #[.string ⟨#[]⟩,.string ⟨#[]⟩])):=by
 have BW : Below w.heap.size w ((w.alloc (aA 18 z L)).alloc (aG ⟨#[]⟩ ⟨#[]⟩)):=((Below.refl _ _).alloc (Nat.le_refl _) _).alloc au _;have x1 : ((w.alloc (aA 18 z L)).alloc (aG ⟨#[]⟩ ⟨#[]⟩)).cell? ⟨w.heap.size,1,none⟩ = some (.int .i64 z):=aB;have x0 : ((w.alloc (aA 18 z L)).alloc (aG ⟨#[]⟩ ⟨#[]⟩)).cell? ⟨w.heap.size,0,none⟩ = some (.int .u8 18):=aB;obtain ⟨la,ln,lcp,hlv,hln,hl64,hcells⟩:=hM.lv;rw [hln] at hz
 have HF:=hid (fun W => lg (w:=W) (a:=la) (cap:=lcp) hz ae)
 have c8:=h.lc;rw [hlv] at c8;have d8:=ag BW c8;have HB:=hid BW;clear h c8 hcells BW
 go_enter Tryz.func117,Tryz.ntmps117
 go_wp2_with fail;generalize (w.alloc (aA 18 z L)).alloc (aG ⟨#[]⟩ ⟨#[]⟩) = W0 at *
 refine wp_region_held_drew (S:=(fun W => W.cell? ⟨v.C,8,none⟩ = some (.slice la ln lcp) ∧ W.cell? ⟨w.heap.size,0,none⟩ = some (.int .u8 18) ∧ W.cell? ⟨w.heap.size,1,none⟩ = some (.int .i64 z))) ak ⟨d8,x0,x1⟩ (fun hHeld => ?_)
 exact zI
theorem mz (hA : EvA v w1) (hM : EvM v w1 m lo) (h : CI v w1 w s) {q : Nat} {c : Int} (L : Value) (hq : lo[q]? = some c) :
  Calls Tryz.prog 117 #[.pointer (some ⟨v.C,0,none⟩),.agg #[.int .u8 19,.int .i64 q,L]] w (Rdz w 0 (.agg #[.string (jb 19 (ltr c)),.string (js 19 (ltr c))])):=by
 have BW : Below w.heap.size w ((w.alloc (aA 19 q L)).alloc (aG ⟨#[]⟩ ⟨#[]⟩)):=((Below.refl _ _).alloc (Nat.le_refl _) _).alloc au _;have x1 : ((w.alloc (aA 19 q L)).alloc (aG ⟨#[]⟩ ⟨#[]⟩)).cell? ⟨w.heap.size,1,none⟩ = some (.int .i64 q):=aB;have x0 : ((w.alloc (aA 19 q L)).alloc (aG ⟨#[]⟩ ⟨#[]⟩)).cell? ⟨w.heap.size,0,none⟩ = some (.int .u8 19):=aB;have y0 : ((w.alloc (aA 19 q L)).alloc (aG ⟨#[]⟩ ⟨#[]⟩)).cell? ⟨w.heap.size + 1,0,none⟩ = some (.string ⟨#[]⟩):=aB;have y1 : ((w.alloc (aA 19 q L)).alloc (aG ⟨#[]⟩ ⟨#[]⟩)).cell? ⟨w.heap.size + 1,1,none⟩ = some (.string ⟨#[]⟩):=aB;have z0 : ((w.alloc (aA 19 q L)).alloc (aG ⟨#[]⟩ ⟨#[]⟩)).frozen? ⟨w.heap.size + 1,0,none⟩ = false:=aB;have z1 : ((w.alloc (aA 19 q L)).alloc (aG ⟨#[]⟩ ⟨#[]⟩)).frozen? ⟨w.heap.size + 1,1,none⟩ = false:=aB;obtain ⟨la,ln,lcp,hlv,hln,hl64,hcells⟩:=hM.lv;have hqn : q < ln:=yY
 obtain ⟨lb,loff,rfl,hlS,hlc⟩ : ∃ b off,la = some ⟨b,off,none⟩ ∧ ¬ v.S b ∧ ∀ (j : Nat) x,lo[j]? = some x → w1.cell? ⟨b,off + j,none⟩ = some (.int .u8 x):=by
  exact sG
 have f0:=h.kept.cell (hlc q c hq) hlS
 have HF:=hid (fun W (hb : Below w.heap.size w W) => jC (w:=W) (cap:=lcp) hqn ae (ag hb f0))
 have HH:=hid (fun W => iH (w:=W) 19 c (hM.lL c (List.mem_of_getElem? hq)) ae)
 have c8:=h.lc;have HK:=hid h.kept.size;rw [hlv] at c8;have d8:=ag BW c8;have HB:=hid BW;clear h c8 f0 hlc hcells hq BW;generalize jb 19 (ltr c) = P at *;generalize js 19 (ltr c) = R at *;have hCl : v.C < w.heap.size:=Nat.lt_of_lt_of_le hA.c HK.out
 go_enter Tryz.func117,Tryz.ntmps117
 go_wp2_with fail;generalize (w.alloc (aA 19 q L)).alloc (aG ⟨#[]⟩ ⟨#[]⟩) = W0 at *
 go_region_held3 (loS v.C w.heap.size 8 (.slice (some ⟨lb,loff,none⟩) ln lcp) 19 q w)
  (first | assumption | exact loS.put (loS.put bB hCl rfl) hCl rfl | exact (loS.put (loS.put bB hCl rfl) hCl rfl).later (below_drewN _ 1) | exact ⟨d8,x0,x1,HB.out.drew⟩)
  (first
   | (go_at_call 148; refine (HF.out _ (And.right (And.right (And.right bB)))).mono ?_; rintro e w' ⟨rfl,hbx⟩; have hS':=loS.later bB hbx; have k0:=ag hbx (show World.cell? _ _ = _ from y0); have k1:=ag hbx (show World.cell? _ _ = _ from y1); have j0:=aC hbx (show World.cell? _ _ = _ from y0) (show World.frozen? _ _ = _ from z0); have j1:=aC hbx (show World.cell? _ _ = _ from y1) (show World.frozen? _ _ = _ from z1); clear hbx)
   | (go_at_call 147; refine (HH.out _).mono ?_; rintro e w'' ⟨rfl,hbx⟩; have hS'':=loS.later hS' hbx; have l0:=ag hbx k0; have l1:=ag hbx k1; have i0:=aC hbx k0 j0; have i1:=aC hbx k1 j1; clear hbx))
 exact xx
theorem jB (hA : EvA v w1) (hM : EvM v w1 m lo) (h : CI v w1 w s) {z : Int} (L : Value) (hz : z < 0 ∨ (lo.length : Int) ≤ z) :
  Calls Tryz.prog 117 #[.pointer (some ⟨v.C,0,none⟩),.agg #[.int .u8 19,.int .i64 z,L]] w (Rdz w 30 (.agg #[.string ⟨#[]⟩,.string ⟨#[]⟩])):=by
 have BW : Below w.heap.size w ((w.alloc (aA 19 z L)).alloc (aG ⟨#[]⟩ ⟨#[]⟩)):=((Below.refl _ _).alloc (Nat.le_refl _) _).alloc au _;have x1 : ((w.alloc (aA 19 z L)).alloc (aG ⟨#[]⟩ ⟨#[]⟩)).cell? ⟨w.heap.size,1,none⟩ = some (.int .i64 z):=aB;have x0 : ((w.alloc (aA 19 z L)).alloc (aG ⟨#[]⟩ ⟨#[]⟩)).cell? ⟨w.heap.size,0,none⟩ = some (.int .u8 19):=aB;obtain ⟨la,ln,lcp,hlv,hln,hl64,hcells⟩:=hM.lv;rw [hln] at hz
 have HF:=hid (fun W => lg (w:=W) (a:=la) (cap:=lcp) hz ae)
 have c8:=h.lc;rw [hlv] at c8;have d8:=ag BW c8;have HB:=hid BW;clear h c8 hcells BW
 go_enter Tryz.func117,Tryz.ntmps117
 go_wp2_with fail;generalize (w.alloc (aA 19 z L)).alloc (aG ⟨#[]⟩ ⟨#[]⟩) = W0 at *
 refine wp_region_held_drew (S:=(fun W => W.cell? ⟨v.C,8,none⟩ = some (.slice la ln lcp) ∧ W.cell? ⟨w.heap.size,0,none⟩ = some (.int .u8 19) ∧ W.cell? ⟨w.heap.size,1,none⟩ = some (.int .i64 z))) ak ⟨d8,x0,x1⟩ (fun hHeld => ?_)
 exact zI
theorem ml (hA : EvA v w1) (hM : EvM v w1 m lo) (h : CI v w1 w s) {q : Nat} {c : Int} (L : Value) (hq : lo[q]? = some c) :
  Calls Tryz.prog 117 #[.pointer (some ⟨v.C,0,none⟩),.agg #[.int .u8 20,.int .i64 q,L]] w (Rdz w 0 (.agg #[.string (jb 20 (ltr c)),.string (js 20 (ltr c))])):=by
 have BW : Below w.heap.size w ((w.alloc (aA 20 q L)).alloc (aG ⟨#[]⟩ ⟨#[]⟩)):=((Below.refl _ _).alloc (Nat.le_refl _) _).alloc au _;have x1 : ((w.alloc (aA 20 q L)).alloc (aG ⟨#[]⟩ ⟨#[]⟩)).cell? ⟨w.heap.size,1,none⟩ = some (.int .i64 q):=aB;have x0 : ((w.alloc (aA 20 q L)).alloc (aG ⟨#[]⟩ ⟨#[]⟩)).cell? ⟨w.heap.size,0,none⟩ = some (.int .u8 20):=aB;have y0 : ((w.alloc (aA 20 q L)).alloc (aG ⟨#[]⟩ ⟨#[]⟩)).cell? ⟨w.heap.size + 1,0,none⟩ = some (.string ⟨#[]⟩):=aB;have y1 : ((w.alloc (aA 20 q L)).alloc (aG ⟨#[]⟩ ⟨#[]⟩)).cell? ⟨w.heap.size + 1,1,none⟩ = some (.string ⟨#[]⟩):=aB;have z0 : ((w.alloc (aA 20 q L)).alloc (aG ⟨#[]⟩ ⟨#[]⟩)).frozen? ⟨w.heap.size + 1,0,none⟩ = false:=aB;have z1 : ((w.alloc (aA 20 q L)).alloc (aG ⟨#[]⟩ ⟨#[]⟩)).frozen? ⟨w.heap.size + 1,1,none⟩ = false:=aB;obtain ⟨la,ln,lcp,hlv,hln,hl64,hcells⟩:=hM.lv;have hqn : q < ln:=yY
 obtain ⟨lb,loff,rfl,hlS,hlc⟩ : ∃ b off,la = some ⟨b,off,none⟩ ∧ ¬ v.S b ∧ ∀ (j : Nat) x,lo[j]? = some x → w1.cell? ⟨b,off + j,none⟩ = some (.int .u8 x):=by
  exact sG
 have f0:=h.kept.cell (hlc q c hq) hlS
 have HF:=hid (fun W (hb : Below w.heap.size w W) => jC (w:=W) (cap:=lcp) hqn ae (ag hb f0))
 have HH:=hid (fun W => iH (w:=W) 20 c (hM.lL c (List.mem_of_getElem? hq)) ae)
 have c8:=h.lc;have HK:=hid h.kept.size;rw [hlv] at c8;have d8:=ag BW c8;have HB:=hid BW;clear h c8 f0 hlc hcells hq BW;generalize jb 20 (ltr c) = P at *;generalize js 20 (ltr c) = R at *;have hCl : v.C < w.heap.size:=Nat.lt_of_lt_of_le hA.c HK.out
 go_enter Tryz.func117,Tryz.ntmps117
 go_wp2_with fail;generalize (w.alloc (aA 20 q L)).alloc (aG ⟨#[]⟩ ⟨#[]⟩) = W0 at *
 go_region_held3 (loS v.C w.heap.size 8 (.slice (some ⟨lb,loff,none⟩) ln lcp) 20 q w)
  (first | assumption | exact loS.put (loS.put bB hCl rfl) hCl rfl | exact (loS.put (loS.put bB hCl rfl) hCl rfl).later (below_drewN _ 1) | exact ⟨d8,x0,x1,HB.out.drew⟩)
  (first
   | (go_at_call 148; refine (HF.out _ (And.right (And.right (And.right bB)))).mono ?_; rintro e w' ⟨rfl,hbx⟩; have hS':=loS.later bB hbx; have k0:=ag hbx (show World.cell? _ _ = _ from y0); have k1:=ag hbx (show World.cell? _ _ = _ from y1); have j0:=aC hbx (show World.cell? _ _ = _ from y0) (show World.frozen? _ _ = _ from z0); have j1:=aC hbx (show World.cell? _ _ = _ from y1) (show World.frozen? _ _ = _ from z1); clear hbx)
   | (go_at_call 147; refine (HH.out _).mono ?_; rintro e w'' ⟨rfl,hbx⟩; have hS'':=loS.later hS' hbx; have l0:=ag hbx k0; have l1:=ag hbx k1; have i0:=aC hbx k0 j0; have i1:=aC hbx k1 j1; clear hbx))
 exact xx
theorem jP (hA : EvA v w1) (hM : EvM v w1 m lo) (h : CI v w1 w s) {z : Int} (L : Value) (hz : z < 0 ∨ (lo.length : Int) ≤ z) :
  Calls Tryz.prog 117 #[.pointer (some ⟨v.C,0,none⟩),.agg #[.int .u8 20,.int .i64 z,L]] w (Rdz w 30 (.agg #[.string ⟨#[]⟩,.string ⟨#[]⟩])):=by
 have BW : Below w.heap.size w ((w.alloc (aA 20 z L)).alloc (aG ⟨#[]⟩ ⟨#[]⟩)):=((Below.refl _ _).alloc (Nat.le_refl _) _).alloc au _;have x1 : ((w.alloc (aA 20 z L)).alloc (aG ⟨#[]⟩ ⟨#[]⟩)).cell? ⟨w.heap.size,1,none⟩ = some (.int .i64 z):=aB;have x0 : ((w.alloc (aA 20 z L)).alloc (aG ⟨#[]⟩ ⟨#[]⟩)).cell? ⟨w.heap.size,0,none⟩ = some (.int .u8 20):=aB;obtain ⟨la,ln,lcp,hlv,hln,hl64,hcells⟩:=hM.lv;rw [hln] at hz
 have HF:=hid (fun W => lg (w:=W) (a:=la) (cap:=lcp) hz ae)
 have c8:=h.lc;rw [hlv] at c8;have d8:=ag BW c8;have HB:=hid BW;clear h c8 hcells BW
 go_enter Tryz.func117,Tryz.ntmps117
 go_wp2_with fail;generalize (w.alloc (aA 20 z L)).alloc (aG ⟨#[]⟩ ⟨#[]⟩) = W0 at *
 refine wp_region_held_drew (S:=(fun W => W.cell? ⟨v.C,8,none⟩ = some (.slice la ln lcp) ∧ W.cell? ⟨w.heap.size,0,none⟩ = some (.int .u8 20) ∧ W.cell? ⟨w.heap.size,1,none⟩ = some (.int .i64 z))) ak ⟨d8,x0,x1⟩ (fun hHeld => ?_)
 exact zI
end
end Go.Proofs.YtkdldbfbldkkcaaGreatDoor

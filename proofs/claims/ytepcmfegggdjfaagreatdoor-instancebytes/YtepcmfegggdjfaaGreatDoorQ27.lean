/-
  Texts Vj.
-/
import Derived.Test.YtepcmfegggdjfaaGreatDoorQ00
import Derived.Test.YtepcmfegggdjfaaGreatDoorQ26
set_option linter.unusedVariables false
set_option maxRecDepth 100000
set_option maxHeartbeats 16000000
namespace Go.Proofs.YtepcmfegggdjfaaGreatDoor
open Go.RowKit
theorem below_put2 {B : Nat} {w W : World} {g i j : Nat} {u x : Value} (h : Below B w W) (hB : B ≤ g) (hs : B ≤ W.heap.size) : Below B w ((W.setCell ⟨g,i,none⟩ u).setCell ⟨g,j,none⟩ x) :=
 below_put (below_put h hB hs) hB (by simpa [World.setCell] using hs)
abbrev loS (C X i : Nat) (lv : Value) (op q : Int) (w W : World) : Prop :=
 W.cell? ⟨C,i,none⟩ = some lv ∧ W.cell? ⟨X,0,none⟩ = some (.int .u8 op) ∧ W.cell? ⟨X,1,none⟩ = some (.int .i64 q) ∧ Below w.heap.size w W
theorem loS.later {C X i : Nat} {lv : Value} {op q : Int} {w W W' : World} (h : loS C X i lv op q w W) (hb : Below W.heap.size W W') : loS C X i lv op q w W' :=
 ⟨later_cell hb h.1,later_cell hb h.2.1,later_cell hb h.2.2.1,h.2.2.2.trans (hb.mono h.2.2.2.size)⟩
theorem loS.put {C X i : Nat} {lv : Value} {op q : Int} {w W : World} {j : Nat} {u : Value} (h : loS C X i lv op q w W) (hC : C < w.heap.size) (hX : X = w.heap.size) : loS C X i lv op q w (W.setCell ⟨w.heap.size + 1,j,none⟩ u) :=
 ⟨put_cell h.1 (by omega),put_cell h.2.1 (by omega),put_cell h.2.2.1 (by omega),below_put h.2.2.2 (by omega) h.2.2.2.size⟩
section
variable {v : Ev} {w1 w : World} {s : Cs} {m : MM} {lo : List Int}
theorem effect175_drop (hA : EvA v w1) (h : CI v w1 w s) {k : Nat} {o : Opn} (hw : CW s k o) (a : Int) (L : Value) :
  Calls Tryz.prog 128 #[.pointer (some ⟨v.C,0,none⟩),.agg #[.int .u8 16,.int .i64 a,L]] w (Rdz w (letE s o 0) (.agg #[.string (letV s o 0),.string ⟨#[]⟩])):=by
 have BW : Below w.heap.size w ((w.alloc (.cells #[.int .u8 16,.int .i64 a,L] 82)).alloc (.cells #[.string ⟨#[]⟩,.string ⟨#[]⟩] 114)):=((Below.refl _ _).alloc (Nat.le_refl _) _).alloc (by simp) _
 have x1 : ((w.alloc (.cells #[.int .u8 16,.int .i64 a,L] 82)).alloc (.cells #[.string ⟨#[]⟩,.string ⟨#[]⟩] 114)).cell? ⟨w.heap.size,1,none⟩ = some (.int .i64 a):=by simp [go_sem]
 have x0 : ((w.alloc (.cells #[.int .u8 16,.int .i64 a,L] 82)).alloc (.cells #[.string ⟨#[]⟩,.string ⟨#[]⟩] 114)).cell? ⟨w.heap.size,0,none⟩ = some (.int .u8 16):=by simp [go_sem]
 have y0 : ((w.alloc (.cells #[.int .u8 16,.int .i64 a,L] 82)).alloc (.cells #[.string ⟨#[]⟩,.string ⟨#[]⟩] 114)).cell? ⟨w.heap.size + 1,0,none⟩ = some (.string ⟨#[]⟩):=by simp [go_sem]
 have y1 : ((w.alloc (.cells #[.int .u8 16,.int .i64 a,L] 82)).alloc (.cells #[.string ⟨#[]⟩,.string ⟨#[]⟩] 114)).cell? ⟨w.heap.size + 1,1,none⟩ = some (.string ⟨#[]⟩):=by simp [go_sem]
 have z0 : ((w.alloc (.cells #[.int .u8 16,.int .i64 a,L] 82)).alloc (.cells #[.string ⟨#[]⟩,.string ⟨#[]⟩] 114)).frozen? ⟨w.heap.size + 1,0,none⟩ = false:=by simp [go_sem]
 have z1 : ((w.alloc (.cells #[.int .u8 16,.int .i64 a,L] 82)).alloc (.cells #[.string ⟨#[]⟩,.string ⟨#[]⟩] 114)).frozen? ⟨w.heap.size + 1,1,none⟩ = false:=by simp [go_sem]
 have HL:=hid (letter238 hA (h.later hA BW) hw 0 (by omega))
 have HB:=hid BW
 generalize letE s o 0 = E at *
 generalize letV s o 0 = V at *
 clear h hw BW
 go_enter Tryz.func128,Tryz.ntmps128
 go_wp2_with fail
 generalize (w.alloc (.cells #[.int .u8 16,.int .i64 a,L] 82)).alloc (.cells #[.string ⟨#[]⟩,.string ⟨#[]⟩] 114) = W0 at *
 refine HL.out.mono ?_
 rintro e w2 (⟨h0,rfl,hb⟩ | ⟨h0,rfl,hb⟩)
 ·have k0:=later_cell hb y0
  have k1:=later_cell hb y1
  have j0:=later_free hb y0 z0
  have j1:=later_free hb y1 z1
  have HB2:=hid (HB.out.trans (hb.mono HB.out.size))
  clear hb
  go_wp2_with fail
  refine bodyPost_ret (v:=.agg #[.string V,.string ⟨#[]⟩]) ?_ rfl (.inl ⟨h0,rfl,below_put2 HB2.out (by omega) HB2.out.size⟩)
  rw [results_cell1 rfl]
  go_simp
 ·exact ⟨rfl,.inr ⟨h0,rfl,HB.out.trans (hb.mono HB.out.size)⟩⟩
theorem effect175_select (hA : EvA v w1) (h : CI v w1 w s) {k : Nat} {o : Opn} (hw : CW s k o) (a : Int) (L : Value) :
  Calls Tryz.prog 128 #[.pointer (some ⟨v.C,0,none⟩),.agg #[.int .u8 17,.int .i64 a,L]] w (Rdz w (letE s o 1) (.agg #[.string (letV s o 1 ++ letV s o 1 ++ ⟨#[119]⟩),.string (letV s o 1)])):=by
 have BW : Below w.heap.size w ((w.alloc (.cells #[.int .u8 17,.int .i64 a,L] 82)).alloc (.cells #[.string ⟨#[]⟩,.string ⟨#[]⟩] 114)):=((Below.refl _ _).alloc (Nat.le_refl _) _).alloc (by simp) _
 have x1 : ((w.alloc (.cells #[.int .u8 17,.int .i64 a,L] 82)).alloc (.cells #[.string ⟨#[]⟩,.string ⟨#[]⟩] 114)).cell? ⟨w.heap.size,1,none⟩ = some (.int .i64 a):=by simp [go_sem]
 have x0 : ((w.alloc (.cells #[.int .u8 17,.int .i64 a,L] 82)).alloc (.cells #[.string ⟨#[]⟩,.string ⟨#[]⟩] 114)).cell? ⟨w.heap.size,0,none⟩ = some (.int .u8 17):=by simp [go_sem]
 have y0 : ((w.alloc (.cells #[.int .u8 17,.int .i64 a,L] 82)).alloc (.cells #[.string ⟨#[]⟩,.string ⟨#[]⟩] 114)).cell? ⟨w.heap.size + 1,0,none⟩ = some (.string ⟨#[]⟩):=by simp [go_sem]
 have y1 : ((w.alloc (.cells #[.int .u8 17,.int .i64 a,L] 82)).alloc (.cells #[.string ⟨#[]⟩,.string ⟨#[]⟩] 114)).cell? ⟨w.heap.size + 1,1,none⟩ = some (.string ⟨#[]⟩):=by simp [go_sem]
 have z0 : ((w.alloc (.cells #[.int .u8 17,.int .i64 a,L] 82)).alloc (.cells #[.string ⟨#[]⟩,.string ⟨#[]⟩] 114)).frozen? ⟨w.heap.size + 1,0,none⟩ = false:=by simp [go_sem]
 have z1 : ((w.alloc (.cells #[.int .u8 17,.int .i64 a,L] 82)).alloc (.cells #[.string ⟨#[]⟩,.string ⟨#[]⟩] 114)).frozen? ⟨w.heap.size + 1,1,none⟩ = false:=by simp [go_sem]
 have HL:=hid (letter238 hA (h.later hA BW) hw 1 (by omega))
 have HB:=hid BW
 have hV : (letV s o 1).size ≤ 1:=by simp [letV]; omega
 generalize letE s o 1 = E at *
 generalize letV s o 1 = V at *
 clear h hw BW
 go_enter Tryz.func128,Tryz.ntmps128
 go_wp2_with fail
 generalize (w.alloc (.cells #[.int .u8 17,.int .i64 a,L] 82)).alloc (.cells #[.string ⟨#[]⟩,.string ⟨#[]⟩] 114) = W0 at *
 refine HL.out.mono ?_
 rintro e w2 (⟨h0,rfl,hb⟩ | ⟨h0,rfl,hb⟩)
 ·have k0:=later_cell hb y0
  have k1:=later_cell hb y1
  have j0:=later_free hb y0 z0
  have j1:=later_free hb y1 z1
  have HB2:=hid (HB.out.trans (hb.mono HB.out.size))
  clear hb
  go_wp2_with fail
  refine bodyPost_ret (v:=.agg #[.string (V ++ V ++ ⟨#[119]⟩),.string V]) ?_ rfl (.inl ⟨h0,rfl,below_put2 HB2.out (by omega) HB2.out.size⟩)
  rw [results_cell1 rfl]
  go_simp
 ·exact ⟨rfl,.inr ⟨h0,rfl,HB.out.trans (hb.mono HB.out.size)⟩⟩
theorem effect175_local18 (hA : EvA v w1) (hM : EvM v w1 m lo) (h : CI v w1 w s) {q : Nat} {c : Int} (L : Value) (hq : lo[q]? = some c) :
  Calls Tryz.prog 128 #[.pointer (some ⟨v.C,0,none⟩),.agg #[.int .u8 18,.int .i64 q,L]] w (Rdz w 0 (.agg #[.string (hldP 18 (ltr c)),.string (hldR 18 (ltr c))])):=by
 have BW : Below w.heap.size w ((w.alloc (.cells #[.int .u8 18,.int .i64 q,L] 82)).alloc (.cells #[.string ⟨#[]⟩,.string ⟨#[]⟩] 114)):=((Below.refl _ _).alloc (Nat.le_refl _) _).alloc (by simp) _
 have x1 : ((w.alloc (.cells #[.int .u8 18,.int .i64 q,L] 82)).alloc (.cells #[.string ⟨#[]⟩,.string ⟨#[]⟩] 114)).cell? ⟨w.heap.size,1,none⟩ = some (.int .i64 q):=by simp [go_sem]
 have x0 : ((w.alloc (.cells #[.int .u8 18,.int .i64 q,L] 82)).alloc (.cells #[.string ⟨#[]⟩,.string ⟨#[]⟩] 114)).cell? ⟨w.heap.size,0,none⟩ = some (.int .u8 18):=by simp [go_sem]
 have y0 : ((w.alloc (.cells #[.int .u8 18,.int .i64 q,L] 82)).alloc (.cells #[.string ⟨#[]⟩,.string ⟨#[]⟩] 114)).cell? ⟨w.heap.size + 1,0,none⟩ = some (.string ⟨#[]⟩):=by simp [go_sem]
 have y1 : ((w.alloc (.cells #[.int .u8 18,.int .i64 q,L] 82)).alloc (.cells #[.string ⟨#[]⟩,.string ⟨#[]⟩] 114)).cell? ⟨w.heap.size + 1,1,none⟩ = some (.string ⟨#[]⟩):=by simp [go_sem]
 have z0 : ((w.alloc (.cells #[.int .u8 18,.int .i64 q,L] 82)).alloc (.cells #[.string ⟨#[]⟩,.string ⟨#[]⟩] 114)).frozen? ⟨w.heap.size + 1,0,none⟩ = false:=by simp [go_sem]
 have z1 : ((w.alloc (.cells #[.int .u8 18,.int .i64 q,L] 82)).alloc (.cells #[.string ⟨#[]⟩,.string ⟨#[]⟩] 114)).frozen? ⟨w.heap.size + 1,1,none⟩ = false:=by simp [go_sem]
 obtain ⟨la,ln,lcp,hlv,hln,hl64,hcells⟩:=hM.lv
 have hqn : q < ln:=by rw [← hln]; exact lt_of_get hq
 obtain ⟨lb,loff,rfl,hlS,hlc⟩ : ∃ b off,la = some ⟨b,off,none⟩ ∧ ¬ v.S b ∧ ∀ (j : Nat) x,lo[j]? = some x → w1.cell? ⟨b,off + j,none⟩ = some (.int .u8 x):=by
  rcases hcells with h0 | hx
  ·omega
  ·exact hx
 have f0:=h.kept.cell (hlc q c hq) hlS
 have HF:=hid (fun W (hb : Below w.heap.size w W) => pick240_yes (w:=W) (cap:=lcp) hqn (by omega) (later_cell hb f0))
 have HH:=hid (fun W => holder239 (w:=W) 18 c (hM.lL c (List.mem_of_getElem? hq)) (by omega))
 have c8:=h.lc
 have HK:=hid h.kept.size
 rw [hlv] at c8
 have d8:=later_cell BW c8
 have HB:=hid BW
 clear h c8 f0 hlc hcells hq BW
 generalize hldP 18 (ltr c) = P at *
 generalize hldR 18 (ltr c) = R at *
 have hCl : v.C < w.heap.size:=Nat.lt_of_lt_of_le hA.c HK.out
 go_enter Tryz.func128,Tryz.ntmps128
 go_wp2_with fail
 generalize (w.alloc (.cells #[.int .u8 18,.int .i64 q,L] 82)).alloc (.cells #[.string ⟨#[]⟩,.string ⟨#[]⟩] 114) = W0 at *
 go_region_held3 (loS v.C w.heap.size 8 (.slice (some ⟨lb,loff,none⟩) ln lcp) 18 q w)
  (first | assumption | exact loS.put (loS.put (by assumption) hCl rfl) hCl rfl | exact (loS.put (loS.put (by assumption) hCl rfl) hCl rfl).later (below_drewN _ 1) | exact ⟨d8,x0,x1,HB.out.drew⟩)
  (first
   | (go_at_call 159; refine (HF.out _ (And.right (And.right (And.right (by assumption))))).mono ?_; rintro e w' ⟨rfl,hbx⟩; have hS':=loS.later (by assumption) hbx; have k0:=later_cell hbx (show World.cell? _ _ = _ from y0); have k1:=later_cell hbx (show World.cell? _ _ = _ from y1); have j0:=later_free hbx (show World.cell? _ _ = _ from y0) (show World.frozen? _ _ = _ from z0); have j1:=later_free hbx (show World.cell? _ _ = _ from y1) (show World.frozen? _ _ = _ from z1); clear hbx)
   | (go_at_call 158; refine (HH.out _).mono ?_; rintro e w'' ⟨rfl,hbx⟩; have hS'':=loS.later hS' hbx; have l0:=later_cell hbx k0; have l1:=later_cell hbx k1; have i0:=later_free hbx k0 j0; have i1:=later_free hbx k1 j1; clear hbx))
 go_wp2_with fail
 refine bodyPost_ret (v:=.agg #[.string P,.string R]) ?_ rfl (.inl ⟨rfl,rfl,(loS.put (loS.put hS'' hCl rfl) hCl rfl).2.2.2⟩)
 rw [results_cell1 rfl]
 go_simp
theorem effect175_local18_no (hA : EvA v w1) (hM : EvM v w1 m lo) (h : CI v w1 w s) {z : Int} (L : Value) (hz : z < 0 ∨ (lo.length : Int) ≤ z) :
  Calls Tryz.prog 128 #[.pointer (some ⟨v.C,0,none⟩),.agg #[.int .u8 18,.int .i64 z,L]] w (Rdz w 30 (.agg #[.string ⟨#[]⟩,.string ⟨#[]⟩])):=by
 have BW : Below w.heap.size w ((w.alloc (.cells #[.int .u8 18,.int .i64 z,L] 82)).alloc (.cells #[.string ⟨#[]⟩,.string ⟨#[]⟩] 114)):=((Below.refl _ _).alloc (Nat.le_refl _) _).alloc (by simp) _
 have x1 : ((w.alloc (.cells #[.int .u8 18,.int .i64 z,L] 82)).alloc (.cells #[.string ⟨#[]⟩,.string ⟨#[]⟩] 114)).cell? ⟨w.heap.size,1,none⟩ = some (.int .i64 z):=by simp [go_sem]
 have x0 : ((w.alloc (.cells #[.int .u8 18,.int .i64 z,L] 82)).alloc (.cells #[.string ⟨#[]⟩,.string ⟨#[]⟩] 114)).cell? ⟨w.heap.size,0,none⟩ = some (.int .u8 18):=by simp [go_sem]
 obtain ⟨la,ln,lcp,hlv,hln,hl64,hcells⟩:=hM.lv
 rw [hln] at hz
 have HF:=hid (fun W => pick240_no (w:=W) (a:=la) (cap:=lcp) hz (by omega))
 have c8:=h.lc
 rw [hlv] at c8
 have d8:=later_cell BW c8
 have HB:=hid BW
 clear h c8 hcells BW
 go_enter Tryz.func128,Tryz.ntmps128
 go_wp2_with fail
 generalize (w.alloc (.cells #[.int .u8 18,.int .i64 z,L] 82)).alloc (.cells #[.string ⟨#[]⟩,.string ⟨#[]⟩] 114) = W0 at *
 refine wp_region_held_drew (S:=(fun W => W.cell? ⟨v.C,8,none⟩ = some (.slice la ln lcp) ∧ W.cell? ⟨w.heap.size,0,none⟩ = some (.int .u8 18) ∧ W.cell? ⟨w.heap.size,1,none⟩ = some (.int .i64 z))) (by kernel_rfl) ⟨d8,x0,x1⟩ (fun hHeld => ?_)
 refine tkH (i:=0) (v:=?_) rfl ?_ ?_
 rotate_left
 ·intro w h;(try dsimp only at h);go_simp;try with_reducible rfl
 try simp only [Act.put,sIB]
 refine tkH (i:=1) (v:=?_) rfl ?_ ?_
 rotate_left
 ·intro w h;(try dsimp only at h);go_simp;try with_reducible rfl
 try simp only [Act.put]
 refine tkH (i:=2) (v:=?_) rfl ?_ ?_
 rotate_left
 ·intro w h;(try dsimp only at h);go_simp;try with_reducible rfl
 try simp only [Act.put]
 refine tkH (i:=3) (v:=?_) rfl ?_ ?_
 rotate_left
 ·intro w h;(try dsimp only at h);go_simp;try with_reducible rfl
 try simp only [Act.put]
 refine tkH (i:=4) (v:=?_) rfl ?_ ?_
 rotate_left
 ·intro w h;(try dsimp only at h);go_simp;try with_reducible rfl
 try simp only [Act.put]
 refine tkH (i:=5) (v:=?_) rfl ?_ ?_
 rotate_left
 ·intro w h;(try dsimp only at h);go_simp;try with_reducible rfl
 try simp only [Act.put]
 refine tkH (i:=6) (v:=?_) rfl ?_ ?_
 rotate_left
 ·intro w h;(try dsimp only at h);go_simp;try with_reducible rfl
 try simp only [Act.put]
 refine tkH (i:=7) (v:=?_) rfl ?_ ?_
 rotate_left
 ·intro w h;(try dsimp only at h);go_simp;try with_reducible rfl
 try simp only [Act.put]
 refine wpAnyH_ready (rs:=[8]) (by kernel_rfl) (by simp) ?_
 refine AllReadyH.cons rfl (fun K hK => ?_) AllReadyH.nil
 go_simp
 refine (HF.out _).mono ?_
 rintro e w5 ⟨rfl,hb⟩
 exact ⟨rfl,.inr ⟨by decide,rfl,HB.out.drew.trans (hb ▸ Below.refl _ _)⟩⟩
theorem effect175_local19 (hA : EvA v w1) (hM : EvM v w1 m lo) (h : CI v w1 w s) {q : Nat} {c : Int} (L : Value) (hq : lo[q]? = some c) :
  Calls Tryz.prog 128 #[.pointer (some ⟨v.C,0,none⟩),.agg #[.int .u8 19,.int .i64 q,L]] w (Rdz w 0 (.agg #[.string (hldP 19 (ltr c)),.string (hldR 19 (ltr c))])):=by
 have BW : Below w.heap.size w ((w.alloc (.cells #[.int .u8 19,.int .i64 q,L] 82)).alloc (.cells #[.string ⟨#[]⟩,.string ⟨#[]⟩] 114)):=((Below.refl _ _).alloc (Nat.le_refl _) _).alloc (by simp) _
 have x1 : ((w.alloc (.cells #[.int .u8 19,.int .i64 q,L] 82)).alloc (.cells #[.string ⟨#[]⟩,.string ⟨#[]⟩] 114)).cell? ⟨w.heap.size,1,none⟩ = some (.int .i64 q):=by simp [go_sem]
 have x0 : ((w.alloc (.cells #[.int .u8 19,.int .i64 q,L] 82)).alloc (.cells #[.string ⟨#[]⟩,.string ⟨#[]⟩] 114)).cell? ⟨w.heap.size,0,none⟩ = some (.int .u8 19):=by simp [go_sem]
 have y0 : ((w.alloc (.cells #[.int .u8 19,.int .i64 q,L] 82)).alloc (.cells #[.string ⟨#[]⟩,.string ⟨#[]⟩] 114)).cell? ⟨w.heap.size + 1,0,none⟩ = some (.string ⟨#[]⟩):=by simp [go_sem]
 have y1 : ((w.alloc (.cells #[.int .u8 19,.int .i64 q,L] 82)).alloc (.cells #[.string ⟨#[]⟩,.string ⟨#[]⟩] 114)).cell? ⟨w.heap.size + 1,1,none⟩ = some (.string ⟨#[]⟩):=by simp [go_sem]
 have z0 : ((w.alloc (.cells #[.int .u8 19,.int .i64 q,L] 82)).alloc (.cells #[.string ⟨#[]⟩,.string ⟨#[]⟩] 114)).frozen? ⟨w.heap.size + 1,0,none⟩ = false:=by simp [go_sem]
 have z1 : ((w.alloc (.cells #[.int .u8 19,.int .i64 q,L] 82)).alloc (.cells #[.string ⟨#[]⟩,.string ⟨#[]⟩] 114)).frozen? ⟨w.heap.size + 1,1,none⟩ = false:=by simp [go_sem]
 obtain ⟨la,ln,lcp,hlv,hln,hl64,hcells⟩:=hM.lv
 have hqn : q < ln:=by rw [← hln]; exact lt_of_get hq
 obtain ⟨lb,loff,rfl,hlS,hlc⟩ : ∃ b off,la = some ⟨b,off,none⟩ ∧ ¬ v.S b ∧ ∀ (j : Nat) x,lo[j]? = some x → w1.cell? ⟨b,off + j,none⟩ = some (.int .u8 x):=by
  rcases hcells with h0 | hx
  ·omega
  ·exact hx
 have f0:=h.kept.cell (hlc q c hq) hlS
 have HF:=hid (fun W (hb : Below w.heap.size w W) => pick240_yes (w:=W) (cap:=lcp) hqn (by omega) (later_cell hb f0))
 have HH:=hid (fun W => holder239 (w:=W) 19 c (hM.lL c (List.mem_of_getElem? hq)) (by omega))
 have c8:=h.lc
 have HK:=hid h.kept.size
 rw [hlv] at c8
 have d8:=later_cell BW c8
 have HB:=hid BW
 clear h c8 f0 hlc hcells hq BW
 generalize hldP 19 (ltr c) = P at *
 generalize hldR 19 (ltr c) = R at *
 have hCl : v.C < w.heap.size:=Nat.lt_of_lt_of_le hA.c HK.out
 go_enter Tryz.func128,Tryz.ntmps128
 go_wp2_with fail
 generalize (w.alloc (.cells #[.int .u8 19,.int .i64 q,L] 82)).alloc (.cells #[.string ⟨#[]⟩,.string ⟨#[]⟩] 114) = W0 at *
 go_region_held3 (loS v.C w.heap.size 8 (.slice (some ⟨lb,loff,none⟩) ln lcp) 19 q w)
  (first | assumption | exact loS.put (loS.put (by assumption) hCl rfl) hCl rfl | exact (loS.put (loS.put (by assumption) hCl rfl) hCl rfl).later (below_drewN _ 1) | exact ⟨d8,x0,x1,HB.out.drew⟩)
  (first
   | (go_at_call 159; refine (HF.out _ (And.right (And.right (And.right (by assumption))))).mono ?_; rintro e w' ⟨rfl,hbx⟩; have hS':=loS.later (by assumption) hbx; have k0:=later_cell hbx (show World.cell? _ _ = _ from y0); have k1:=later_cell hbx (show World.cell? _ _ = _ from y1); have j0:=later_free hbx (show World.cell? _ _ = _ from y0) (show World.frozen? _ _ = _ from z0); have j1:=later_free hbx (show World.cell? _ _ = _ from y1) (show World.frozen? _ _ = _ from z1); clear hbx)
   | (go_at_call 158; refine (HH.out _).mono ?_; rintro e w'' ⟨rfl,hbx⟩; have hS'':=loS.later hS' hbx; have l0:=later_cell hbx k0; have l1:=later_cell hbx k1; have i0:=later_free hbx k0 j0; have i1:=later_free hbx k1 j1; clear hbx))
 go_wp2_with fail
 refine bodyPost_ret (v:=.agg #[.string P,.string R]) ?_ rfl (.inl ⟨rfl,rfl,(loS.put (loS.put hS'' hCl rfl) hCl rfl).2.2.2⟩)
 rw [results_cell1 rfl]
 go_simp
theorem effect175_local19_no (hA : EvA v w1) (hM : EvM v w1 m lo) (h : CI v w1 w s) {z : Int} (L : Value) (hz : z < 0 ∨ (lo.length : Int) ≤ z) :
  Calls Tryz.prog 128 #[.pointer (some ⟨v.C,0,none⟩),.agg #[.int .u8 19,.int .i64 z,L]] w (Rdz w 30 (.agg #[.string ⟨#[]⟩,.string ⟨#[]⟩])):=by
 have BW : Below w.heap.size w ((w.alloc (.cells #[.int .u8 19,.int .i64 z,L] 82)).alloc (.cells #[.string ⟨#[]⟩,.string ⟨#[]⟩] 114)):=((Below.refl _ _).alloc (Nat.le_refl _) _).alloc (by simp) _
 have x1 : ((w.alloc (.cells #[.int .u8 19,.int .i64 z,L] 82)).alloc (.cells #[.string ⟨#[]⟩,.string ⟨#[]⟩] 114)).cell? ⟨w.heap.size,1,none⟩ = some (.int .i64 z):=by simp [go_sem]
 have x0 : ((w.alloc (.cells #[.int .u8 19,.int .i64 z,L] 82)).alloc (.cells #[.string ⟨#[]⟩,.string ⟨#[]⟩] 114)).cell? ⟨w.heap.size,0,none⟩ = some (.int .u8 19):=by simp [go_sem]
 obtain ⟨la,ln,lcp,hlv,hln,hl64,hcells⟩:=hM.lv
 rw [hln] at hz
 have HF:=hid (fun W => pick240_no (w:=W) (a:=la) (cap:=lcp) hz (by omega))
 have c8:=h.lc
 rw [hlv] at c8
 have d8:=later_cell BW c8
 have HB:=hid BW
 clear h c8 hcells BW
 go_enter Tryz.func128,Tryz.ntmps128
 go_wp2_with fail
 generalize (w.alloc (.cells #[.int .u8 19,.int .i64 z,L] 82)).alloc (.cells #[.string ⟨#[]⟩,.string ⟨#[]⟩] 114) = W0 at *
 refine wp_region_held_drew (S:=(fun W => W.cell? ⟨v.C,8,none⟩ = some (.slice la ln lcp) ∧ W.cell? ⟨w.heap.size,0,none⟩ = some (.int .u8 19) ∧ W.cell? ⟨w.heap.size,1,none⟩ = some (.int .i64 z))) (by kernel_rfl) ⟨d8,x0,x1⟩ (fun hHeld => ?_)
 refine tkH (i:=0) (v:=?_) rfl ?_ ?_
 rotate_left
 ·intro w h;(try dsimp only at h);go_simp;try with_reducible rfl
 try simp only [Act.put,sIB]
 refine tkH (i:=1) (v:=?_) rfl ?_ ?_
 rotate_left
 ·intro w h;(try dsimp only at h);go_simp;try with_reducible rfl
 try simp only [Act.put]
 refine tkH (i:=2) (v:=?_) rfl ?_ ?_
 rotate_left
 ·intro w h;(try dsimp only at h);go_simp;try with_reducible rfl
 try simp only [Act.put]
 refine tkH (i:=3) (v:=?_) rfl ?_ ?_
 rotate_left
 ·intro w h;(try dsimp only at h);go_simp;try with_reducible rfl
 try simp only [Act.put]
 refine tkH (i:=4) (v:=?_) rfl ?_ ?_
 rotate_left
 ·intro w h;(try dsimp only at h);go_simp;try with_reducible rfl
 try simp only [Act.put]
 refine tkH (i:=5) (v:=?_) rfl ?_ ?_
 rotate_left
 ·intro w h;(try dsimp only at h);go_simp;try with_reducible rfl
 try simp only [Act.put]
 refine tkH (i:=6) (v:=?_) rfl ?_ ?_
 rotate_left
 ·intro w h;(try dsimp only at h);go_simp;try with_reducible rfl
 try simp only [Act.put]
 refine tkH (i:=7) (v:=?_) rfl ?_ ?_
 rotate_left
 ·intro w h;(try dsimp only at h);go_simp;try with_reducible rfl
 try simp only [Act.put]
 refine wpAnyH_ready (rs:=[8]) (by kernel_rfl) (by simp) ?_
 refine AllReadyH.cons rfl (fun K hK => ?_) AllReadyH.nil
 go_simp
 refine (HF.out _).mono ?_
 rintro e w5 ⟨rfl,hb⟩
 exact ⟨rfl,.inr ⟨by decide,rfl,HB.out.drew.trans (hb ▸ Below.refl _ _)⟩⟩
theorem effect175_local20 (hA : EvA v w1) (hM : EvM v w1 m lo) (h : CI v w1 w s) {q : Nat} {c : Int} (L : Value) (hq : lo[q]? = some c) :
  Calls Tryz.prog 128 #[.pointer (some ⟨v.C,0,none⟩),.agg #[.int .u8 20,.int .i64 q,L]] w (Rdz w 0 (.agg #[.string (hldP 20 (ltr c)),.string (hldR 20 (ltr c))])):=by
 have BW : Below w.heap.size w ((w.alloc (.cells #[.int .u8 20,.int .i64 q,L] 82)).alloc (.cells #[.string ⟨#[]⟩,.string ⟨#[]⟩] 114)):=((Below.refl _ _).alloc (Nat.le_refl _) _).alloc (by simp) _
 have x1 : ((w.alloc (.cells #[.int .u8 20,.int .i64 q,L] 82)).alloc (.cells #[.string ⟨#[]⟩,.string ⟨#[]⟩] 114)).cell? ⟨w.heap.size,1,none⟩ = some (.int .i64 q):=by simp [go_sem]
 have x0 : ((w.alloc (.cells #[.int .u8 20,.int .i64 q,L] 82)).alloc (.cells #[.string ⟨#[]⟩,.string ⟨#[]⟩] 114)).cell? ⟨w.heap.size,0,none⟩ = some (.int .u8 20):=by simp [go_sem]
 have y0 : ((w.alloc (.cells #[.int .u8 20,.int .i64 q,L] 82)).alloc (.cells #[.string ⟨#[]⟩,.string ⟨#[]⟩] 114)).cell? ⟨w.heap.size + 1,0,none⟩ = some (.string ⟨#[]⟩):=by simp [go_sem]
 have y1 : ((w.alloc (.cells #[.int .u8 20,.int .i64 q,L] 82)).alloc (.cells #[.string ⟨#[]⟩,.string ⟨#[]⟩] 114)).cell? ⟨w.heap.size + 1,1,none⟩ = some (.string ⟨#[]⟩):=by simp [go_sem]
 have z0 : ((w.alloc (.cells #[.int .u8 20,.int .i64 q,L] 82)).alloc (.cells #[.string ⟨#[]⟩,.string ⟨#[]⟩] 114)).frozen? ⟨w.heap.size + 1,0,none⟩ = false:=by simp [go_sem]
 have z1 : ((w.alloc (.cells #[.int .u8 20,.int .i64 q,L] 82)).alloc (.cells #[.string ⟨#[]⟩,.string ⟨#[]⟩] 114)).frozen? ⟨w.heap.size + 1,1,none⟩ = false:=by simp [go_sem]
 obtain ⟨la,ln,lcp,hlv,hln,hl64,hcells⟩:=hM.lv
 have hqn : q < ln:=by rw [← hln]; exact lt_of_get hq
 obtain ⟨lb,loff,rfl,hlS,hlc⟩ : ∃ b off,la = some ⟨b,off,none⟩ ∧ ¬ v.S b ∧ ∀ (j : Nat) x,lo[j]? = some x → w1.cell? ⟨b,off + j,none⟩ = some (.int .u8 x):=by
  rcases hcells with h0 | hx
  ·omega
  ·exact hx
 have f0:=h.kept.cell (hlc q c hq) hlS
 have HF:=hid (fun W (hb : Below w.heap.size w W) => pick240_yes (w:=W) (cap:=lcp) hqn (by omega) (later_cell hb f0))
 have HH:=hid (fun W => holder239 (w:=W) 20 c (hM.lL c (List.mem_of_getElem? hq)) (by omega))
 have c8:=h.lc
 have HK:=hid h.kept.size
 rw [hlv] at c8
 have d8:=later_cell BW c8
 have HB:=hid BW
 clear h c8 f0 hlc hcells hq BW
 generalize hldP 20 (ltr c) = P at *
 generalize hldR 20 (ltr c) = R at *
 have hCl : v.C < w.heap.size:=Nat.lt_of_lt_of_le hA.c HK.out
 go_enter Tryz.func128,Tryz.ntmps128
 go_wp2_with fail
 generalize (w.alloc (.cells #[.int .u8 20,.int .i64 q,L] 82)).alloc (.cells #[.string ⟨#[]⟩,.string ⟨#[]⟩] 114) = W0 at *
 go_region_held3 (loS v.C w.heap.size 8 (.slice (some ⟨lb,loff,none⟩) ln lcp) 20 q w)
  (first | assumption | exact loS.put (loS.put (by assumption) hCl rfl) hCl rfl | exact (loS.put (loS.put (by assumption) hCl rfl) hCl rfl).later (below_drewN _ 1) | exact ⟨d8,x0,x1,HB.out.drew⟩)
  (first
   | (go_at_call 159; refine (HF.out _ (And.right (And.right (And.right (by assumption))))).mono ?_; rintro e w' ⟨rfl,hbx⟩; have hS':=loS.later (by assumption) hbx; have k0:=later_cell hbx (show World.cell? _ _ = _ from y0); have k1:=later_cell hbx (show World.cell? _ _ = _ from y1); have j0:=later_free hbx (show World.cell? _ _ = _ from y0) (show World.frozen? _ _ = _ from z0); have j1:=later_free hbx (show World.cell? _ _ = _ from y1) (show World.frozen? _ _ = _ from z1); clear hbx)
   | (go_at_call 158; refine (HH.out _).mono ?_; rintro e w'' ⟨rfl,hbx⟩; have hS'':=loS.later hS' hbx; have l0:=later_cell hbx k0; have l1:=later_cell hbx k1; have i0:=later_free hbx k0 j0; have i1:=later_free hbx k1 j1; clear hbx))
 go_wp2_with fail
 refine bodyPost_ret (v:=.agg #[.string P,.string R]) ?_ rfl (.inl ⟨rfl,rfl,(loS.put (loS.put hS'' hCl rfl) hCl rfl).2.2.2⟩)
 rw [results_cell1 rfl]
 go_simp
theorem effect175_local20_no (hA : EvA v w1) (hM : EvM v w1 m lo) (h : CI v w1 w s) {z : Int} (L : Value) (hz : z < 0 ∨ (lo.length : Int) ≤ z) :
  Calls Tryz.prog 128 #[.pointer (some ⟨v.C,0,none⟩),.agg #[.int .u8 20,.int .i64 z,L]] w (Rdz w 30 (.agg #[.string ⟨#[]⟩,.string ⟨#[]⟩])):=by
 have BW : Below w.heap.size w ((w.alloc (.cells #[.int .u8 20,.int .i64 z,L] 82)).alloc (.cells #[.string ⟨#[]⟩,.string ⟨#[]⟩] 114)):=((Below.refl _ _).alloc (Nat.le_refl _) _).alloc (by simp) _
 have x1 : ((w.alloc (.cells #[.int .u8 20,.int .i64 z,L] 82)).alloc (.cells #[.string ⟨#[]⟩,.string ⟨#[]⟩] 114)).cell? ⟨w.heap.size,1,none⟩ = some (.int .i64 z):=by simp [go_sem]
 have x0 : ((w.alloc (.cells #[.int .u8 20,.int .i64 z,L] 82)).alloc (.cells #[.string ⟨#[]⟩,.string ⟨#[]⟩] 114)).cell? ⟨w.heap.size,0,none⟩ = some (.int .u8 20):=by simp [go_sem]
 obtain ⟨la,ln,lcp,hlv,hln,hl64,hcells⟩:=hM.lv
 rw [hln] at hz
 have HF:=hid (fun W => pick240_no (w:=W) (a:=la) (cap:=lcp) hz (by omega))
 have c8:=h.lc
 rw [hlv] at c8
 have d8:=later_cell BW c8
 have HB:=hid BW
 clear h c8 hcells BW
 go_enter Tryz.func128,Tryz.ntmps128
 go_wp2_with fail
 generalize (w.alloc (.cells #[.int .u8 20,.int .i64 z,L] 82)).alloc (.cells #[.string ⟨#[]⟩,.string ⟨#[]⟩] 114) = W0 at *
 refine wp_region_held_drew (S:=(fun W => W.cell? ⟨v.C,8,none⟩ = some (.slice la ln lcp) ∧ W.cell? ⟨w.heap.size,0,none⟩ = some (.int .u8 20) ∧ W.cell? ⟨w.heap.size,1,none⟩ = some (.int .i64 z))) (by kernel_rfl) ⟨d8,x0,x1⟩ (fun hHeld => ?_)
 refine tkH (i:=0) (v:=?_) rfl ?_ ?_
 rotate_left
 ·intro w h;(try dsimp only at h);go_simp;try with_reducible rfl
 try simp only [Act.put,sIB]
 refine tkH (i:=1) (v:=?_) rfl ?_ ?_
 rotate_left
 ·intro w h;(try dsimp only at h);go_simp;try with_reducible rfl
 try simp only [Act.put]
 refine tkH (i:=2) (v:=?_) rfl ?_ ?_
 rotate_left
 ·intro w h;(try dsimp only at h);go_simp;try with_reducible rfl
 try simp only [Act.put]
 refine tkH (i:=3) (v:=?_) rfl ?_ ?_
 rotate_left
 ·intro w h;(try dsimp only at h);go_simp;try with_reducible rfl
 try simp only [Act.put]
 refine tkH (i:=4) (v:=?_) rfl ?_ ?_
 rotate_left
 ·intro w h;(try dsimp only at h);go_simp;try with_reducible rfl
 try simp only [Act.put]
 refine tkH (i:=5) (v:=?_) rfl ?_ ?_
 rotate_left
 ·intro w h;(try dsimp only at h);go_simp;try with_reducible rfl
 try simp only [Act.put]
 refine tkH (i:=6) (v:=?_) rfl ?_ ?_
 rotate_left
 ·intro w h;(try dsimp only at h);go_simp;try with_reducible rfl
 try simp only [Act.put]
 refine tkH (i:=7) (v:=?_) rfl ?_ ?_
 rotate_left
 ·intro w h;(try dsimp only at h);go_simp;try with_reducible rfl
 try simp only [Act.put]
 refine wpAnyH_ready (rs:=[8]) (by kernel_rfl) (by simp) ?_
 refine AllReadyH.cons rfl (fun K hK => ?_) AllReadyH.nil
 go_simp
 refine (HF.out _).mono ?_
 rintro e w5 ⟨rfl,hb⟩
 exact ⟨rfl,.inr ⟨by decide,rfl,HB.out.drew.trans (hb ▸ Below.refl _ _)⟩⟩
end
end Go.Proofs.YtepcmfegggdjfaaGreatDoor

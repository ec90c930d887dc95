/-
  Texts Vi.
-/
import Derived.Test.YtkdldbfbldkkcaaGreatDoorM00
import Derived.Test.YtkdldbfbldkkcaaGreatDoorM29
set_option linter.unusedVariables false
set_option maxRecDepth 100000
set_option maxHeartbeats 16000000
namespace Go.Proofs.YtkdldbfbldkkcaaGreatDoor
open Go.RowKit
section
variable {v : Ev} {w1 w : World} {s : Cs} {m : MM} {lo : List Int}
theorem qz (hA : EvA v w1) (hM : EvM v w1 m lo) (h : CI v w1 w s) {q t : Nat} {P R : ByteArray} (L : Value) (hq : m.hosts[q]? = some (t : Int)) (hP : m.types[t]? = some (P,R)) :
  Calls Tryz.prog 117 #[.pointer (some ⟨v.C,0,none⟩),.agg #[.int .u8 12,.int .i64 q,L]] w (Rdz w 0 (.agg #[.string P,.string R])):=by
 obtain ⟨c0,c1,c2,c5⟩:=h.mc;rw [hM.mv] at c0 c1 c2 c5;have HC:=hid h;have pt:=hM.pt.kept h.kept hM.tS;have pf:=hM.ph.kept h.kept hM.hS
 have hqn : q < m.hn:=by rw [← pf.1]; exact az hq
 have htn : t < m.tn:=tJ
 obtain ⟨tb,toff,hta,htc⟩ : ∃ b off,m.ta = some ⟨b,off,none⟩ ∧ ∀ (j : Nat) x,m.types[j]? = some x → w.cell? ⟨b,off + j * 2,none⟩ = some (.string x.1) ∧ w.cell? ⟨b,off + j * 2 + 1,none⟩ = some (.string x.2):=by
  exact oO
 obtain ⟨fb,foff,hfa,hfc⟩ : ∃ b off,m.ha = some ⟨b,off,none⟩ ∧ ∀ (j : Nat) x,m.hosts[j]? = some x → w.cell? ⟨b,off + j,none⟩ = some (.int .i64 x):=by
  rcases pf.2 with h0 | hx
  ·omega
  ·exact hx
 obtain ⟨t0,t1⟩:=htc t _ hP;have f0:=hfc q _ hq
 have HF:=hid (fun W (hb : Below w.heap.size w W) => vJ (w:=W) (cap:=m.hc) hqn (by have:=hM.h32; omega) (ag hb f0))
 change w.cell? ⟨v.C,0,none⟩ = some (.slice m.ta m.tn m.tc) at c0
 change w.cell? ⟨v.C,1,none⟩ = some (.slice m.ha m.hn m.hc) at c1
 rw [hta] at c0;rw [hfa] at c1
 simp only at t0 t1
 have hCl : v.C < w.heap.size:=block_lt_of_cell c0;have htl : tb < w.heap.size:=block_lt_of_cell t0;have g0 : (0 : Int) ≤ (t : Int):=ae;have g1 : (t : Int) < (m.tn : Int):=ae;have BW : Below w.heap.size w ((w.alloc (aA 12 q L)).alloc (aG ⟨#[]⟩ ⟨#[]⟩)):=((Below.refl _ _).alloc (Nat.le_refl _) _).alloc au _;have x1 : ((w.alloc (aA 12 q L)).alloc (aG ⟨#[]⟩ ⟨#[]⟩)).cell? ⟨w.heap.size,1,none⟩ = some (.int .i64 q):=aB;have y0 : ((w.alloc (aA 12 q L)).alloc (aG ⟨#[]⟩ ⟨#[]⟩)).cell? ⟨w.heap.size + 1,0,none⟩ = some (.string ⟨#[]⟩):=aB;have y1 : ((w.alloc (aA 12 q L)).alloc (aG ⟨#[]⟩ ⟨#[]⟩)).cell? ⟨w.heap.size + 1,1,none⟩ = some (.string ⟨#[]⟩):=aB;have z0 : ((w.alloc (aA 12 q L)).alloc (aG ⟨#[]⟩ ⟨#[]⟩)).frozen? ⟨w.heap.size + 1,0,none⟩ = false:=aB;have z1 : ((w.alloc (aA 12 q L)).alloc (aG ⟨#[]⟩ ⟨#[]⟩)).frozen? ⟨w.heap.size + 1,1,none⟩ = false:=aB;have d0:=ag BW c0;have d5:=ag BW c1;have e0:=ag BW t0;have e1:=ag BW t1;have HB:=hid BW;clear htc hfc hP hq pt pf c1 c2 h c0 c5 t0 t1 f0
 go_enter Tryz.func117,Tryz.ntmps117
 go_wp2_with fail;generalize (w.alloc (aA 12 q L)).alloc (aG ⟨#[]⟩ ⟨#[]⟩) = W0 at *
 go_region_held3 (sgS v.C w.heap.size 1 (.slice (some ⟨tb,toff,none⟩) m.tn m.tc) (.slice (some ⟨fb,foff,none⟩) m.hn m.hc) q tb (toff + t * 2) P R w)
  (first | assumption | exact sgS.put (sgS.put bB hCl htl rfl) hCl htl rfl | exact (sgS.put (sgS.put bB hCl htl rfl) hCl htl rfl).later (below_drewN _ 1) | exact ⟨d0,d5,x1,e0,e1,HB.out.drew⟩)
  (first
   | (go_at_call 145; refine (HF.out _ (And.right (And.right (And.right (And.right (And.right bB)))))).mono ?_; rintro e w' ⟨rfl,hbx⟩; have hS':=sgS.later bB hbx; have k0:=ag hbx (show World.cell? _ _ = _ from y0); have k1:=ag hbx (show World.cell? _ _ = _ from y1); have j0:=aC hbx (show World.cell? _ _ = _ from y0) (show World.frozen? _ _ = _ from z0); have j1:=aC hbx (show World.cell? _ _ = _ from y1) (show World.frozen? _ _ = _ from z1); clear hbx))
 exact EY
theorem mj (hA : EvA v w1) (hM : EvM v w1 m lo) (h : CI v w1 w s) {z : Int} (L : Value) (hz : z < 0 ∨ (m.fn : Int) ≤ z) :
  Calls Tryz.prog 117 #[.pointer (some ⟨v.C,0,none⟩),.agg #[.int .u8 11,.int .i64 z,L]] w (Rdz w 30 (.agg #[.string ⟨#[]⟩,.string ⟨#[]⟩])):=by
 obtain ⟨c0,c1,c2,c5⟩:=h.mc;rw [hM.mv] at c0 c1 c2 c5;have HC:=hid h
 have HF:=hid (fun W => yR (w:=W) (a:=m.fa) (cap:=m.fc) hz (by have:=hM.f128; omega))
 change w.cell? ⟨v.C,0,none⟩ = some (.slice m.ta m.tn m.tc) at c0
 change w.cell? ⟨v.C,5,none⟩ = some (.slice m.fa m.fn m.fc) at c5
 have BW : Below w.heap.size w ((w.alloc (aA 11 z L)).alloc (aG ⟨#[]⟩ ⟨#[]⟩)):=((Below.refl _ _).alloc (Nat.le_refl _) _).alloc au _;have x1 : ((w.alloc (aA 11 z L)).alloc (aG ⟨#[]⟩ ⟨#[]⟩)).cell? ⟨w.heap.size,1,none⟩ = some (.int .i64 z):=aB;have d0:=ag BW c0;have d5:=ag BW c5;have HB:=hid BW;clear c0 c1 c2 c5 h
 go_enter Tryz.func117,Tryz.ntmps117
 go_wp2_with fail;generalize (w.alloc (aA 11 z L)).alloc (aG ⟨#[]⟩ ⟨#[]⟩) = W0 at *
 refine wp_region_held_drew (S:=(fun W => W.cell? ⟨v.C,0,none⟩ = some (.slice m.ta m.tn m.tc) ∧ W.cell? ⟨v.C,5,none⟩ = some (.slice m.fa m.fn m.fc) ∧ W.cell? ⟨w.heap.size,1,none⟩ = some (.int .i64 z))) ak ⟨d0,d5,x1⟩ (fun hHeld => ?_)
 refine tkC (i:=0) rfl ?_;(try simp only [Act.put,sIB]);refine tkC (i:=1) rfl ?_;(try simp only [Act.put]);refine tkC (i:=2) rfl ?_;(try simp only [Act.put]);refine tkC (i:=3) rfl ?_;(try simp only [Act.put]);refine tkC (i:=4) rfl ?_;(try simp only [Act.put]);refine tkC (i:=5) rfl ?_;(try simp only [Act.put]);refine tkC (i:=6) rfl ?_;(try simp only [Act.put]);refine tkC (i:=7) rfl ?_;(try simp only [Act.put]);refine tkC (i:=8) rfl ?_;(try simp only [Act.put]);refine tkC (i:=9) rfl ?_;(try simp only [Act.put]);refine tkC (i:=10) rfl ?_;(try simp only [Act.put]);refine tkC (i:=11) rfl ?_;(try simp only [Act.put]);refine rdY (rs:=[12]) ?_
 refine AllReadyH.cons rfl (fun K hK => ?_) rN
 go_simp;refine (HF.out _).mono ?_;rintro e w5 ⟨rfl,hb⟩;exact ⟨rfl,.inr ⟨ax,rfl,HB.out.drew.trans (hb.mono HB.out.size)⟩⟩
theorem lO (hA : EvA v w1) (hM : EvM v w1 m lo) (h : CI v w1 w s) {z : Int} (L : Value) (hz : z < 0 ∨ (m.hn : Int) ≤ z) :
  Calls Tryz.prog 117 #[.pointer (some ⟨v.C,0,none⟩),.agg #[.int .u8 12,.int .i64 z,L]] w (Rdz w 30 (.agg #[.string ⟨#[]⟩,.string ⟨#[]⟩])):=by
 obtain ⟨c0,c1,c2,c5⟩:=h.mc;rw [hM.mv] at c0 c1 c2 c5;have HC:=hid h
 have HF:=hid (fun W => xL (w:=W) (a:=m.ha) (cap:=m.hc) hz (by have:=hM.h32; omega))
 change w.cell? ⟨v.C,0,none⟩ = some (.slice m.ta m.tn m.tc) at c0
 change w.cell? ⟨v.C,1,none⟩ = some (.slice m.ha m.hn m.hc) at c1
 have BW : Below w.heap.size w ((w.alloc (aA 12 z L)).alloc (aG ⟨#[]⟩ ⟨#[]⟩)):=((Below.refl _ _).alloc (Nat.le_refl _) _).alloc au _;have x1 : ((w.alloc (aA 12 z L)).alloc (aG ⟨#[]⟩ ⟨#[]⟩)).cell? ⟨w.heap.size,1,none⟩ = some (.int .i64 z):=aB;have d0:=ag BW c0;have d5:=ag BW c1;have HB:=hid BW;clear c0 c1 c2 c5 h
 go_enter Tryz.func117,Tryz.ntmps117
 go_wp2_with fail;generalize (w.alloc (aA 12 z L)).alloc (aG ⟨#[]⟩ ⟨#[]⟩) = W0 at *
 refine wp_region_held_drew (S:=(fun W => W.cell? ⟨v.C,0,none⟩ = some (.slice m.ta m.tn m.tc) ∧ W.cell? ⟨v.C,1,none⟩ = some (.slice m.ha m.hn m.hc) ∧ W.cell? ⟨w.heap.size,1,none⟩ = some (.int .i64 z))) ak ⟨d0,d5,x1⟩ (fun hHeld => ?_)
 refine tkC (i:=0) rfl ?_;(try simp only [Act.put,sIB]);refine tkC (i:=1) rfl ?_;(try simp only [Act.put]);refine tkC (i:=2) rfl ?_;(try simp only [Act.put]);refine tkC (i:=3) rfl ?_;(try simp only [Act.put]);refine tkC (i:=4) rfl ?_;(try simp only [Act.put]);refine tkC (i:=5) rfl ?_;(try simp only [Act.put]);refine tkC (i:=6) rfl ?_;(try simp only [Act.put]);refine tkC (i:=7) rfl ?_;(try simp only [Act.put]);refine tkC (i:=8) rfl ?_;(try simp only [Act.put]);refine tkC (i:=9) rfl ?_;(try simp only [Act.put]);refine tkC (i:=10) rfl ?_;(try simp only [Act.put]);refine tkC (i:=11) rfl ?_;(try simp only [Act.put]);refine rdY (rs:=[12]) ?_
 refine AllReadyH.cons rfl (fun K hK => ?_) rN
 go_simp;refine (HF.out _).mono ?_;rintro e w5 ⟨rfl,hb⟩;exact ⟨rfl,.inr ⟨ax,rfl,HB.out.drew.trans (hb ▸ Below.refl _ _)⟩⟩
end
end Go.Proofs.YtkdldbfbldkkcaaGreatDoor

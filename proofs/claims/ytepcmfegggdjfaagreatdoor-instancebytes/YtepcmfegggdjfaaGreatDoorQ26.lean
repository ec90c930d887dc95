/-
  Texts Vh Vi.
-/
import Derived.Test.YtepcmfegggdjfaaGreatDoorQ00
import Derived.Test.YtepcmfegggdjfaaGreatDoorQ09
import Derived.Test.YtepcmfegggdjfaaGreatDoorQ15
import Derived.Test.YtepcmfegggdjfaaGreatDoorQ25
set_option linter.unusedVariables false
set_option maxRecDepth 100000
set_option maxHeartbeats 16000000
namespace Go.Proofs.YtepcmfegggdjfaaGreatDoor
open Go.RowKit
structure EvM (v : Ev) (w1 : World) (m : MM) (lo : List Int) : Prop where
 mv : v.mv = mV m
 pt : AtSig w1 m.ta m.tn m.types
 tS : ∀ b off c,m.ta = some ⟨b,off,c⟩ → ¬ v.S b
 t64 : m.tn ≤ 64
 ph : AtNu w1 m.ha m.hn m.hosts
 hS : ∀ b off c,m.ha = some ⟨b,off,c⟩ → ¬ v.S b
 h32 : m.hn ≤ 32
 pg : AtGl w1 m.ga m.gn m.globals
 gS : ∀ b off c,m.ga = some ⟨b,off,c⟩ → ¬ v.S b
 g64 : m.gn ≤ 64
 pf : AtFu w1 m.fa m.fn m.fns
 fS : ∀ b off c,m.fa = some ⟨b,off,c⟩ → ¬ v.S b
 f128 : m.fn ≤ 128
 lv : ∃ a n cap,v.lv = .slice a n cap ∧ lo.length = n ∧ n ≤ 64 ∧ (n = 0 ∨ ∃ b off,a = some ⟨b,off,none⟩ ∧ ¬ v.S b ∧ ∀ (j : Nat) x,lo[j]? = some x → w1.cell? ⟨b,off + j,none⟩ = some (.int .u8 x))
 lL : ∀ x ∈ lo,x = 119 ∨ x = 108
 gL : ∀ x ∈ m.globals,x.1 = 119 ∨ x.1 = 108
 tL : ∀ x ∈ m.types,x.1.size ≤ 8 ∧ x.2.size ≤ 8
 hT : ∀ x ∈ m.hosts,0 ≤ x ∧ x < m.tn
 fT : ∀ x ∈ m.fns,0 ≤ x.1 ∧ x.1 < m.tn
 kinds : KindsOk w1
 kS : ∀ k,v.S k → 1 ≤ k
section
variable {v : Ev} {w1 w : World} {s : Cs} {m : MM} {lo : List Int}
theorem put_cell {W : World} {b o Y i : Nat} {u x : Value} (h : W.cell? ⟨b,o,none⟩ = some u) (hne : b ≠ Y) : (W.setCell ⟨Y,i,none⟩ x).cell? ⟨b,o,none⟩ = some u:=by
 rw [World.cell?_setCell_other _ _ _ _ (by simp)]; exact h
theorem later_free {W W' : World} {b o : Nat} {u : Value} (hb : Below W.heap.size W W') (h : W.cell? ⟨b,o,none⟩ = some u) (hf : W.frozen? ⟨b,o,none⟩ = false) : W'.frozen? ⟨b,o,none⟩ = false:=(hb.frozen (by exact block_lt_of_cell h)).trans hf
abbrev sgS (C X : Nat) (i : Nat) (tv lv : Value) (q : Int) (tb to : Nat) (P R : ByteArray) (w : World) (W : World) : Prop :=
 W.cell? ⟨C,0,none⟩ = some tv ∧ W.cell? ⟨C,i,none⟩ = some lv ∧ W.cell? ⟨X,1,none⟩ = some (.int .i64 q) ∧ W.cell? ⟨tb,to,none⟩ = some (.string P) ∧ W.cell? ⟨tb,to + 1,none⟩ = some (.string R) ∧ Below w.heap.size w W
theorem sgS.later {C X i : Nat} {tv lv : Value} {q : Int} {tb to : Nat} {P R : ByteArray} {w W W' : World} (h : sgS C X i tv lv q tb to P R w W) (hb : Below W.heap.size W W') : sgS C X i tv lv q tb to P R w W' :=
 ⟨later_cell hb h.1,later_cell hb h.2.1,later_cell hb h.2.2.1,later_cell hb h.2.2.2.1,later_cell hb h.2.2.2.2.1,h.2.2.2.2.2.trans (hb.mono h.2.2.2.2.2.size)⟩
theorem sgS.put {C X i : Nat} {tv lv : Value} {q : Int} {tb to : Nat} {P R : ByteArray} {w W : World} {j : Nat} {u : Value} (h : sgS C X i tv lv q tb to P R w W) (hC : C < w.heap.size) (ht : tb < w.heap.size) (hX : X = w.heap.size) : sgS C X i tv lv q tb to P R w (W.setCell ⟨w.heap.size + 1,j,none⟩ u) :=
 ⟨put_cell h.1 (by omega),put_cell h.2.1 (by omega),put_cell h.2.2.1 (by omega),put_cell h.2.2.2.1 (by omega),put_cell h.2.2.2.2.1 (by omega),below_put h.2.2.2.2.2 (by omega) h.2.2.2.2.2.size⟩
theorem effect175_call (hA : EvA v w1) (hM : EvM v w1 m lo) (h : CI v w1 w s) {q t : Nat} {fu : FuM} {P R : ByteArray} (L : Value) (hq : m.fns[q]? = some fu) (ht : fu.1 = t) (hP : m.types[t]? = some (P,R)) :
  Calls Tryz.prog 128 #[.pointer (some ⟨v.C,0,none⟩),.agg #[.int .u8 11,.int .i64 q,L]] w (Rdz w 0 (.agg #[.string P,.string R])):=by
 obtain ⟨c0,c1,c2,c5⟩:=h.mc
 rw [hM.mv] at c0 c1 c2 c5
 have HC:=hid h
 have pt:=hM.pt.kept h.kept hM.tS
 have pf:=hM.pf.kept h.kept hM.fS
 have hqn : q < m.fn:=by rw [← pf.1]; exact lt_of_get hq
 have htn : t < m.tn:=by rw [← pt.1]; exact lt_of_get hP
 obtain ⟨tb,toff,hta,htc⟩ : ∃ b off,m.ta = some ⟨b,off,none⟩ ∧ ∀ (j : Nat) x,m.types[j]? = some x → w.cell? ⟨b,off + j * 2,none⟩ = some (.string x.1) ∧ w.cell? ⟨b,off + j * 2 + 1,none⟩ = some (.string x.2):=by
  rcases pt.2 with h0 | hx
  ·omega
  ·exact hx
 obtain ⟨fb,foff,hfa,hfc⟩ : ∃ b off,m.fa = some ⟨b,off,none⟩ ∧ ∀ (j : Nat) x,m.fns[j]? = some x → w.cell? ⟨b,off + j * 3,none⟩ = some (.int .i64 x.1) ∧ w.cell? ⟨b,off + j * 3 + 1,none⟩ = some (.string x.2.1) ∧ w.cell? ⟨b,off + j * 3 + 2,none⟩ = some (.slice x.2.2.1.1 x.2.2.1.2.1 x.2.2.1.2.2):=by
  rcases pf.2 with h0 | hx
  ·omega
  ·exact hx
 obtain ⟨t0,t1⟩:=htc t _ hP
 obtain ⟨f0,f1,f2⟩:=hfc q _ hq
 have HF:=hid (fun W (hb : Below w.heap.size w W) => pick236_yes (w:=W) (cap:=m.fc) hqn (by have:=hM.f128; omega) (later_cell hb f0) (later_cell hb f1) (later_cell hb f2))
 rw [ht] at HF
 change w.cell? ⟨v.C,0,none⟩ = some (.slice m.ta m.tn m.tc) at c0
 change w.cell? ⟨v.C,5,none⟩ = some (.slice m.fa m.fn m.fc) at c5
 rw [hta] at c0
 rw [hfa] at c5
 simp only at t0 t1
 have hCl : v.C < w.heap.size:=block_lt_of_cell c0
 have htl : tb < w.heap.size:=block_lt_of_cell t0
 have g0 : (0 : Int) ≤ (t : Int):=by omega
 have g1 : (t : Int) < (m.tn : Int):=by omega
 have BW : Below w.heap.size w ((w.alloc (.cells #[.int .u8 11,.int .i64 q,L] 82)).alloc (.cells #[.string ⟨#[]⟩,.string ⟨#[]⟩] 114)):=((Below.refl _ _).alloc (Nat.le_refl _) _).alloc (by simp) _
 have x1 : ((w.alloc (.cells #[.int .u8 11,.int .i64 q,L] 82)).alloc (.cells #[.string ⟨#[]⟩,.string ⟨#[]⟩] 114)).cell? ⟨w.heap.size,1,none⟩ = some (.int .i64 q):=by simp [go_sem]
 have y0 : ((w.alloc (.cells #[.int .u8 11,.int .i64 q,L] 82)).alloc (.cells #[.string ⟨#[]⟩,.string ⟨#[]⟩] 114)).cell? ⟨w.heap.size + 1,0,none⟩ = some (.string ⟨#[]⟩):=by simp [go_sem]
 have y1 : ((w.alloc (.cells #[.int .u8 11,.int .i64 q,L] 82)).alloc (.cells #[.string ⟨#[]⟩,.string ⟨#[]⟩] 114)).cell? ⟨w.heap.size + 1,1,none⟩ = some (.string ⟨#[]⟩):=by simp [go_sem]
 have z0 : ((w.alloc (.cells #[.int .u8 11,.int .i64 q,L] 82)).alloc (.cells #[.string ⟨#[]⟩,.string ⟨#[]⟩] 114)).frozen? ⟨w.heap.size + 1,0,none⟩ = false:=by simp [go_sem]
 have z1 : ((w.alloc (.cells #[.int .u8 11,.int .i64 q,L] 82)).alloc (.cells #[.string ⟨#[]⟩,.string ⟨#[]⟩] 114)).frozen? ⟨w.heap.size + 1,1,none⟩ = false:=by simp [go_sem]
 have d0:=later_cell BW c0
 have d5:=later_cell BW c5
 have e0:=later_cell BW t0
 have e1:=later_cell BW t1
 have HB:=hid BW
 have hfld : ∀ (a b c : Value) (W : World),(Instr.field 61 (.agg #[a,b,c]) 0).run Tryz.prog W = .ok a W:=fun _ _ _ _ => rfl
 clear htc hfc hP hq ht pt pf c1 c2 h c0 c5 t0 t1 f0 f1 f2
 go_enter Tryz.func128,Tryz.ntmps128
 go_wp2_with fail
 generalize (w.alloc (.cells #[.int .u8 11,.int .i64 q,L] 82)).alloc (.cells #[.string ⟨#[]⟩,.string ⟨#[]⟩] 114) = W0 at *
 go_region_held3 (sgS v.C w.heap.size 5 (.slice (some ⟨tb,toff,none⟩) m.tn m.tc) (.slice (some ⟨fb,foff,none⟩) m.fn m.fc) q tb (toff + t * 2) P R w)
  (first | assumption | exact sgS.put (sgS.put (by assumption) hCl htl rfl) hCl htl rfl | exact (sgS.put (sgS.put (by assumption) hCl htl rfl) hCl htl rfl).later (below_drewN _ 1) | exact ⟨d0,d5,x1,e0,e1,HB.out.drew⟩)
  (first
   | (go_at_call 155; refine (HF.out _ (And.right (And.right (And.right (And.right (And.right (by assumption))))))).mono ?_; rintro e w' ⟨rfl,hbx⟩; have hS':=sgS.later (by assumption) hbx; have k0:=later_cell hbx (show World.cell? _ _ = _ from y0); have k1:=later_cell hbx (show World.cell? _ _ = _ from y1); have j0:=later_free hbx (show World.cell? _ _ = _ from y0) (show World.frozen? _ _ = _ from z0); have j1:=later_free hbx (show World.cell? _ _ = _ from y1) (show World.frozen? _ _ = _ from z1); clear hbx))
 go_wp2_with fail
 refine bodyPost_ret (v:=.agg #[.string P,.string R]) ?_ rfl (.inl ⟨rfl,rfl,(sgS.put (sgS.put hS' hCl htl rfl) hCl htl rfl).2.2.2.2.2⟩)
 rw [results_cell1 rfl]
 go_simp
end
section
variable {v : Ev} {w1 w : World} {s : Cs} {m : MM} {lo : List Int}
theorem effect175_host (hA : EvA v w1) (hM : EvM v w1 m lo) (h : CI v w1 w s) {q t : Nat} {P R : ByteArray} (L : Value) (hq : m.hosts[q]? = some (t : Int)) (hP : m.types[t]? = some (P,R)) :
  Calls Tryz.prog 128 #[.pointer (some ⟨v.C,0,none⟩),.agg #[.int .u8 12,.int .i64 q,L]] w (Rdz w 0 (.agg #[.string P,.string R])):=by
 obtain ⟨c0,c1,c2,c5⟩:=h.mc
 rw [hM.mv] at c0 c1 c2 c5
 have HC:=hid h
 have pt:=hM.pt.kept h.kept hM.tS
 have pf:=hM.ph.kept h.kept hM.hS
 have hqn : q < m.hn:=by rw [← pf.1]; exact lt_of_get hq
 have htn : t < m.tn:=by rw [← pt.1]; exact lt_of_get hP
 obtain ⟨tb,toff,hta,htc⟩ : ∃ b off,m.ta = some ⟨b,off,none⟩ ∧ ∀ (j : Nat) x,m.types[j]? = some x → w.cell? ⟨b,off + j * 2,none⟩ = some (.string x.1) ∧ w.cell? ⟨b,off + j * 2 + 1,none⟩ = some (.string x.2):=by
  rcases pt.2 with h0 | hx
  ·omega
  ·exact hx
 obtain ⟨fb,foff,hfa,hfc⟩ : ∃ b off,m.ha = some ⟨b,off,none⟩ ∧ ∀ (j : Nat) x,m.hosts[j]? = some x → w.cell? ⟨b,off + j,none⟩ = some (.int .i64 x):=by
  rcases pf.2 with h0 | hx
  ·omega
  ·exact hx
 obtain ⟨t0,t1⟩:=htc t _ hP
 have f0:=hfc q _ hq
 have HF:=hid (fun W (hb : Below w.heap.size w W) => pick237_yes (w:=W) (cap:=m.hc) hqn (by have:=hM.h32; omega) (later_cell hb f0))
 change w.cell? ⟨v.C,0,none⟩ = some (.slice m.ta m.tn m.tc) at c0
 change w.cell? ⟨v.C,1,none⟩ = some (.slice m.ha m.hn m.hc) at c1
 rw [hta] at c0
 rw [hfa] at c1
 simp only at t0 t1
 have hCl : v.C < w.heap.size:=block_lt_of_cell c0
 have htl : tb < w.heap.size:=block_lt_of_cell t0
 have g0 : (0 : Int) ≤ (t : Int):=by omega
 have g1 : (t : Int) < (m.tn : Int):=by omega
 have BW : Below w.heap.size w ((w.alloc (.cells #[.int .u8 12,.int .i64 q,L] 82)).alloc (.cells #[.string ⟨#[]⟩,.string ⟨#[]⟩] 114)):=((Below.refl _ _).alloc (Nat.le_refl _) _).alloc (by simp) _
 have x1 : ((w.alloc (.cells #[.int .u8 12,.int .i64 q,L] 82)).alloc (.cells #[.string ⟨#[]⟩,.string ⟨#[]⟩] 114)).cell? ⟨w.heap.size,1,none⟩ = some (.int .i64 q):=by simp [go_sem]
 have y0 : ((w.alloc (.cells #[.int .u8 12,.int .i64 q,L] 82)).alloc (.cells #[.string ⟨#[]⟩,.string ⟨#[]⟩] 114)).cell? ⟨w.heap.size + 1,0,none⟩ = some (.string ⟨#[]⟩):=by simp [go_sem]
 have y1 : ((w.alloc (.cells #[.int .u8 12,.int .i64 q,L] 82)).alloc (.cells #[.string ⟨#[]⟩,.string ⟨#[]⟩] 114)).cell? ⟨w.heap.size + 1,1,none⟩ = some (.string ⟨#[]⟩):=by simp [go_sem]
 have z0 : ((w.alloc (.cells #[.int .u8 12,.int .i64 q,L] 82)).alloc (.cells #[.string ⟨#[]⟩,.string ⟨#[]⟩] 114)).frozen? ⟨w.heap.size + 1,0,none⟩ = false:=by simp [go_sem]
 have z1 : ((w.alloc (.cells #[.int .u8 12,.int .i64 q,L] 82)).alloc (.cells #[.string ⟨#[]⟩,.string ⟨#[]⟩] 114)).frozen? ⟨w.heap.size + 1,1,none⟩ = false:=by simp [go_sem]
 have d0:=later_cell BW c0
 have d5:=later_cell BW c1
 have e0:=later_cell BW t0
 have e1:=later_cell BW t1
 have HB:=hid BW
 clear htc hfc hP hq pt pf c1 c2 h c0 c5 t0 t1 f0
 go_enter Tryz.func128,Tryz.ntmps128
 go_wp2_with fail
 generalize (w.alloc (.cells #[.int .u8 12,.int .i64 q,L] 82)).alloc (.cells #[.string ⟨#[]⟩,.string ⟨#[]⟩] 114) = W0 at *
 go_region_held3 (sgS v.C w.heap.size 1 (.slice (some ⟨tb,toff,none⟩) m.tn m.tc) (.slice (some ⟨fb,foff,none⟩) m.hn m.hc) q tb (toff + t * 2) P R w)
  (first | assumption | exact sgS.put (sgS.put (by assumption) hCl htl rfl) hCl htl rfl | exact (sgS.put (sgS.put (by assumption) hCl htl rfl) hCl htl rfl).later (below_drewN _ 1) | exact ⟨d0,d5,x1,e0,e1,HB.out.drew⟩)
  (first
   | (go_at_call 156; refine (HF.out _ (And.right (And.right (And.right (And.right (And.right (by assumption))))))).mono ?_; rintro e w' ⟨rfl,hbx⟩; have hS':=sgS.later (by assumption) hbx; have k0:=later_cell hbx (show World.cell? _ _ = _ from y0); have k1:=later_cell hbx (show World.cell? _ _ = _ from y1); have j0:=later_free hbx (show World.cell? _ _ = _ from y0) (show World.frozen? _ _ = _ from z0); have j1:=later_free hbx (show World.cell? _ _ = _ from y1) (show World.frozen? _ _ = _ from z1); clear hbx))
 go_wp2_with fail
 refine bodyPost_ret (v:=.agg #[.string P,.string R]) ?_ rfl (.inl ⟨rfl,rfl,(sgS.put (sgS.put hS' hCl htl rfl) hCl htl rfl).2.2.2.2.2⟩)
 rw [results_cell1 rfl]
 go_simp
theorem effect175_call_no (hA : EvA v w1) (hM : EvM v w1 m lo) (h : CI v w1 w s) {z : Int} (L : Value) (hz : z < 0 ∨ (m.fn : Int) ≤ z) :
  Calls Tryz.prog 128 #[.pointer (some ⟨v.C,0,none⟩),.agg #[.int .u8 11,.int .i64 z,L]] w (Rdz w 30 (.agg #[.string ⟨#[]⟩,.string ⟨#[]⟩])):=by
 obtain ⟨c0,c1,c2,c5⟩:=h.mc
 rw [hM.mv] at c0 c1 c2 c5
 have HC:=hid h
 have HF:=hid (fun W => pick236_no (w:=W) (a:=m.fa) (cap:=m.fc) hz (by have:=hM.f128; omega))
 change w.cell? ⟨v.C,0,none⟩ = some (.slice m.ta m.tn m.tc) at c0
 change w.cell? ⟨v.C,5,none⟩ = some (.slice m.fa m.fn m.fc) at c5
 have BW : Below w.heap.size w ((w.alloc (.cells #[.int .u8 11,.int .i64 z,L] 82)).alloc (.cells #[.string ⟨#[]⟩,.string ⟨#[]⟩] 114)):=((Below.refl _ _).alloc (Nat.le_refl _) _).alloc (by simp) _
 have x1 : ((w.alloc (.cells #[.int .u8 11,.int .i64 z,L] 82)).alloc (.cells #[.string ⟨#[]⟩,.string ⟨#[]⟩] 114)).cell? ⟨w.heap.size,1,none⟩ = some (.int .i64 z):=by simp [go_sem]
 have d0:=later_cell BW c0
 have d5:=later_cell BW c5
 have HB:=hid BW
 clear c0 c1 c2 c5 h
 go_enter Tryz.func128,Tryz.ntmps128
 go_wp2_with fail
 generalize (w.alloc (.cells #[.int .u8 11,.int .i64 z,L] 82)).alloc (.cells #[.string ⟨#[]⟩,.string ⟨#[]⟩] 114) = W0 at *
 refine wp_region_held_drew (S:=(fun W => W.cell? ⟨v.C,0,none⟩ = some (.slice m.ta m.tn m.tc) ∧ W.cell? ⟨v.C,5,none⟩ = some (.slice m.fa m.fn m.fc) ∧ W.cell? ⟨w.heap.size,1,none⟩ = some (.int .i64 z))) (by kernel_rfl) ⟨d0,d5,x1⟩ (fun hHeld => ?_)
 refine tkH (i:=0) (v:=?_) rfl ?_ ?_
 rotate_left
 ·intro w h;(try dsimp only at h);go_simp;try with_reducible rfl
 try simp only [Act.put,sIB]
 refine tkH (i:=1) (v:=?_) rfl ?_ ?_
 rotate_left
 ·intro w h;(try dsimp only at h);go_simp;try with_reducible rfl
 try simp only [Act.put]
 refine tkH (i:=2) (v:=?_) rfl ?_ ?_
 rotate_left
 ·intro w h;(try dsimp only at h);go_simp;try with_reducible rfl
 try simp only [Act.put]
 refine tkH (i:=3) (v:=?_) rfl ?_ ?_
 rotate_left
 ·intro w h;(try dsimp only at h);go_simp;try with_reducible rfl
 try simp only [Act.put]
 refine tkH (i:=4) (v:=?_) rfl ?_ ?_
 rotate_left
 ·intro w h;(try dsimp only at h);go_simp;try with_reducible rfl
 try simp only [Act.put]
 refine tkH (i:=5) (v:=?_) rfl ?_ ?_
 rotate_left
 ·intro w h;(try dsimp only at h);go_simp;try with_reducible rfl
 try simp only [Act.put]
 refine tkH (i:=6) (v:=?_) rfl ?_ ?_
 rotate_left
 ·intro w h;(try dsimp only at h);go_simp;try with_reducible rfl
 try simp only [Act.put]
 refine tkH (i:=7) (v:=?_) rfl ?_ ?_
 rotate_left
 ·intro w h;(try dsimp only at h);go_simp;try with_reducible rfl
 try simp only [Act.put]
 refine tkH (i:=8) (v:=?_) rfl ?_ ?_
 rotate_left
 ·intro w h;(try dsimp only at h);go_simp;try with_reducible rfl
 try simp only [Act.put]
 refine tkH (i:=9) (v:=?_) rfl ?_ ?_
 rotate_left
 ·intro w h;(try dsimp only at h);go_simp;try with_reducible rfl
 try simp only [Act.put]
 refine tkH (i:=10) (v:=?_) rfl ?_ ?_
 rotate_left
 ·intro w h;(try dsimp only at h);go_simp;try with_reducible rfl
 try simp only [Act.put]
 refine tkH (i:=11) (v:=?_) rfl ?_ ?_
 rotate_left
 ·intro w h;(try dsimp only at h);go_simp;try with_reducible rfl
 try simp only [Act.put]
 refine wpAnyH_ready (rs:=[12]) (by kernel_rfl) (by simp) ?_
 refine AllReadyH.cons rfl (fun K hK => ?_) AllReadyH.nil
 go_simp
 refine (HF.out _).mono ?_
 rintro e w5 ⟨rfl,hb⟩
 exact ⟨rfl,.inr ⟨by decide,rfl,HB.out.drew.trans (hb.mono HB.out.size)⟩⟩
theorem effect175_host_no (hA : EvA v w1) (hM : EvM v w1 m lo) (h : CI v w1 w s) {z : Int} (L : Value) (hz : z < 0 ∨ (m.hn : Int) ≤ z) :
  Calls Tryz.prog 128 #[.pointer (some ⟨v.C,0,none⟩),.agg #[.int .u8 12,.int .i64 z,L]] w (Rdz w 30 (.agg #[.string ⟨#[]⟩,.string ⟨#[]⟩])):=by
 obtain ⟨c0,c1,c2,c5⟩:=h.mc
 rw [hM.mv] at c0 c1 c2 c5
 have HC:=hid h
 have HF:=hid (fun W => pick237_no (w:=W) (a:=m.ha) (cap:=m.hc) hz (by have:=hM.h32; omega))
 change w.cell? ⟨v.C,0,none⟩ = some (.slice m.ta m.tn m.tc) at c0
 change w.cell? ⟨v.C,1,none⟩ = some (.slice m.ha m.hn m.hc) at c1
 have BW : Below w.heap.size w ((w.alloc (.cells #[.int .u8 12,.int .i64 z,L] 82)).alloc (.cells #[.string ⟨#[]⟩,.string ⟨#[]⟩] 114)):=((Below.refl _ _).alloc (Nat.le_refl _) _).alloc (by simp) _
 have x1 : ((w.alloc (.cells #[.int .u8 12,.int .i64 z,L] 82)).alloc (.cells #[.string ⟨#[]⟩,.string ⟨#[]⟩] 114)).cell? ⟨w.heap.size,1,none⟩ = some (.int .i64 z):=by simp [go_sem]
 have d0:=later_cell BW c0
 have d5:=later_cell BW c1
 have HB:=hid BW
 clear c0 c1 c2 c5 h
 go_enter Tryz.func128,Tryz.ntmps128
 go_wp2_with fail
 generalize (w.alloc (.cells #[.int .u8 12,.int .i64 z,L] 82)).alloc (.cells #[.string ⟨#[]⟩,.string ⟨#[]⟩] 114) = W0 at *
 refine wp_region_held_drew (S:=(fun W => W.cell? ⟨v.C,0,none⟩ = some (.slice m.ta m.tn m.tc) ∧ W.cell? ⟨v.C,1,none⟩ = some (.slice m.ha m.hn m.hc) ∧ W.cell? ⟨w.heap.size,1,none⟩ = some (.int .i64 z))) (by kernel_rfl) ⟨d0,d5,x1⟩ (fun hHeld => ?_)
 refine tkH (i:=0) (v:=?_) rfl ?_ ?_
 rotate_left
 ·intro w h;(try dsimp only at h);go_simp;try with_reducible rfl
 try simp only [Act.put,sIB]
 refine tkH (i:=1) (v:=?_) rfl ?_ ?_
 rotate_left
 ·intro w h;(try dsimp only at h);go_simp;try with_reducible rfl
 try simp only [Act.put]
 refine tkH (i:=2) (v:=?_) rfl ?_ ?_
 rotate_left
 ·intro w h;(try dsimp only at h);go_simp;try with_reducible rfl
 try simp only [Act.put]
 refine tkH (i:=3) (v:=?_) rfl ?_ ?_
 rotate_left
 ·intro w h;(try dsimp only at h);go_simp;try with_reducible rfl
 try simp only [Act.put]
 refine tkH (i:=4) (v:=?_) rfl ?_ ?_
 rotate_left
 ·intro w h;(try dsimp only at h);go_simp;try with_reducible rfl
 try simp only [Act.put]
 refine tkH (i:=5) (v:=?_) rfl ?_ ?_
 rotate_left
 ·intro w h;(try dsimp only at h);go_simp;try with_reducible rfl
 try simp only [Act.put]
 refine tkH (i:=6) (v:=?_) rfl ?_ ?_
 rotate_left
 ·intro w h;(try dsimp only at h);go_simp;try with_reducible rfl
 try simp only [Act.put]
 refine tkH (i:=7) (v:=?_) rfl ?_ ?_
 rotate_left
 ·intro w h;(try dsimp only at h);go_simp;try with_reducible rfl
 try simp only [Act.put]
 refine tkH (i:=8) (v:=?_) rfl ?_ ?_
 rotate_left
 ·intro w h;(try dsimp only at h);go_simp;try with_reducible rfl
 try simp only [Act.put]
 refine tkH (i:=9) (v:=?_) rfl ?_ ?_
 rotate_left
 ·intro w h;(try dsimp only at h);go_simp;try with_reducible rfl
 try simp only [Act.put]
 refine tkH (i:=10) (v:=?_) rfl ?_ ?_
 rotate_left
 ·intro w h;(try dsimp only at h);go_simp;try with_reducible rfl
 try simp only [Act.put]
 refine tkH (i:=11) (v:=?_) rfl ?_ ?_
 rotate_left
 ·intro w h;(try dsimp only at h);go_simp;try with_reducible rfl
 try simp only [Act.put]
 refine wpAnyH_ready (rs:=[12]) (by kernel_rfl) (by simp) ?_
 refine AllReadyH.cons rfl (fun K hK => ?_) AllReadyH.nil
 go_simp
 refine (HF.out _).mono ?_
 rintro e w5 ⟨rfl,hb⟩
 exact ⟨rfl,.inr ⟨by decide,rfl,HB.out.drew.trans (hb ▸ Below.refl _ _)⟩⟩
end
end Go.Proofs.YtepcmfegggdjfaaGreatDoor

/-
  Texts Wt Vb.
-/
import Derived.Test.YtepcmfegggdjfaaGreatDoorQ03
set_option linter.unusedVariables false
set_option maxRecDepth 100000
set_option maxHeartbeats 16000000
namespace Go.Proofs.YtepcmfegggdjfaaGreatDoor
open Go.RowKit
theorem below_then {w w1 w2 : World} (h : Below w.heap.size w w1) (h' : Below w1.heap.size w1 w2) : Below w.heap.size w w2:=h.trans (h'.mono h.size)
theorem Stp.ne {R g g' b : Nat} {w w' : World} (h : Stp R g g' w w') (hb : b < w.heap.size) (hn : b ≠ g) : b ≠ g':=by
 rcases h.m with rfl | h
 ·exact hn
 ·omega
theorem Wr.g_lt {w : World} {R g cap : Nat} {bs : List Int} (h : Wr w R g cap bs) : g < w.heap.size:=h.row.lt
theorem results_cell1 {fn : Func} {p : Tmp} {ty : TypeId} (h : fn.results = #[.cell p ty]) (tmps : Array Value) (P : Program) (w : World) :
  (results fn tmps).run P w = ((asAddr (tmps.getD p undef)).run P w).andThen fun a w₁ => (loadVar ty a).run P w₁:=by
 simp only [results,h]
 simp [Sem.run_bind,Result.andThen]
theorem kept_set (w : World) (b o : Nat) (v : Value) : Kept (fun k => k = b) w (w.setCell ⟨b,o,none⟩ v):=⟨rfl,rfl,rfl,by simp [World.setCell],fun k hk hs => Below.heap_setCell _ _ _ _ (by simpa using hs)⟩
theorem Wr.set {w : World} {R g cap : Nat} {bs : List Int} (h : Wr w R g cap bs) {b o : Nat} {v : Value} (h1 : b ≠ R) (h2 : b ≠ g) : Wr (w.setCell ⟨b,o,none⟩ v) R g cap bs:=h.kept (kept_set w b o v) (Ne.symm h1) (Ne.symm h2)
theorem Stp.set {R g g' : Nat} {w w' : World} (h : Stp R g g' w w') {b o : Nat} {v : Value} (hb : w.heap.size ≤ b) : Stp R g g' w (w'.setCell ⟨b,o,none⟩ v) :=
 ⟨h.k.then (kept_set w' b o v) (fun k hk hb' => by omega),h.m⟩
theorem Stp.block {R g g' : Nat} {w w' : World} (h : Stp R g g' w w') {b : Nat} (hb : b < w.heap.size) (h1 : b ≠ R) (h2 : b ≠ g) : w'.heap[b]? = w.heap[b]?:=h.k.block b hb (by simp [h1,h2])
theorem two_cells {w : World} {b : Nat} {u v : Value} {t : TypeId} (h : w.heap[b]? = some (.cells #[u,v] t)) : w.cell? ⟨b,0,none⟩ = some u ∧ w.cell? ⟨b,1,none⟩ = some v ∧ w.frozen? ⟨b,0,none⟩ = false ∧ w.frozen? ⟨b,1,none⟩ = false:=by
 simp [World.cell?,World.frozen?,h]
def W133 (w : World) (p r : ByteArray) (aa : Option Addr) (an ac : Nat) (n : Nat) : World :=
 (((w.alloc (.cells #[.string p,.string r] 55)).alloc (.cells #[.slice aa an ac] 22)).alloc (.cells #[.string ⟨#[]⟩,.string ⟨#[]⟩] 55)).alloc (.cells #[.int .i64 n] 3)
theorem w133_facts (w : World) (p r : ByteArray) (aa : Option Addr) (an ac n : Nat) : Below w.heap.size w (W133 w p r aa an ac n) ∧ (W133 w p r aa an ac n).heap.size = w.heap.size + 4 ∧
  (W133 w p r aa an ac n).cell? ⟨w.heap.size,0,none⟩ = some (.string p) ∧ (W133 w p r aa an ac n).cell? ⟨w.heap.size,1,none⟩ = some (.string r) ∧
  (W133 w p r aa an ac n).cell? ⟨w.heap.size + 1,0,none⟩ = some (.slice aa an ac) ∧ (W133 w p r aa an ac n).cell? ⟨w.heap.size + 1 + 1 + 1,0,none⟩ = some (.int .i64 n) ∧ (W133 w p r aa an ac n).heap[w.heap.size + 1 + 1]? = some (.cells #[.string ⟨#[]⟩,.string ⟨#[]⟩] 55):=by
 unfold W133
 refine ⟨?_,by simp,by simp [go_sem],by simp [go_sem],by simp [go_sem],by simp [go_sem],?_⟩
 rotate_left
 ·have h1:=(MapKept.heap_alloc ((w.alloc (.cells #[.string p,.string r] 55)).alloc (.cells #[.slice aa an ac] 22)) (.cells #[.string ⟨#[]⟩,.string ⟨#[]⟩] 55)).1
  have h2:=(below_new (((w.alloc (.cells #[.string p,.string r] 55)).alloc (.cells #[.slice aa an ac] 22)).alloc (.cells #[.string ⟨#[]⟩,.string ⟨#[]⟩] 55)) (.cells #[.int .i64 n] 3)).block (w.heap.size + 1 + 1) (by simp)
  rw [h2]
  simpa using h1
 exact ((((Below.refl _ w).alloc (Nat.le_refl _) _).alloc (by simp <;> omega) _).alloc (by simp <;> omega) _).alloc (by simp <;> omega) _
theorem sig133_yes (R g cap : Nat) (bs : List Int) (p r : ByteArray) (aa : Option Addr) (an ac : Nat) (ah : List Sg) (w : World) (h : Wr w R g cap bs) (hb : bs.length + 100 ≤ 1099511627776)
  (hah : SigsAt w aa an ah) (hne : ∀ b off c,aa = some ⟨b,off,c⟩ → b ≠ R ∧ b ≠ g) (hx : chkSig ah (p,r) = 0) :
  Calls Tryz.prog 101 #[cW R,.agg #[.string p,.string r],.slice aa an ac] w (Puts R g bs (encSig (p,r)) (.agg #[.string p,.string r]) w):=by
 obtain ⟨s1,l1,s2,l2,t2⟩:=chkSig_ok hx
 simp only at s1 l1 s2 l2 t2
 clear hx
 obtain ⟨B0,z0,x0,x1,x2,x3,x4⟩:=w133_facts w p r aa an ac bs.length
 have H4:=hid (h.later B0)
 have HAH:=hid (hah.later B0)
 have hRl:=h.lt
 have hgl:=h.g_lt
 have u1:=encT_le p 8 s1
 have u2:=encT_le r 8 s2
 have hmp:=meth_place
 have hcp:=enter321
 have hmt:=meth_text
 have hct:=enter323
 have c0 : (((w.alloc (.cells #[.string p,.string r] 55)).alloc (.cells #[.slice aa an ac] 22)).alloc (.cells #[.string ⟨#[]⟩,.string ⟨#[]⟩] 55)).cell? ⟨R,0,none⟩ = some (.slice (some ⟨g,0,none⟩) bs.length cap):=by
  rw [(((Below.refl _ w).alloc (Nat.le_refl _) _).alloc (by simp <;> omega) _ |>.alloc (by simp <;> omega) _).cell (by exact hRl)]; exact h.c0
 have HW4 : (((w.alloc (.cells #[.string p,.string r] 55)).alloc (.cells #[.slice aa an ac] 22)).alloc (.cells #[.string ⟨#[]⟩,.string ⟨#[]⟩] 55)).alloc (.cells #[.int .i64 bs.length] 3) = W133 w p r aa an ac bs.length:=rfl
 generalize W133 w p r aa an ac bs.length = W4 at *
 have B4:=hid B0
 clear h hah B0
 have HT1:=hid (text323_yes R g cap bs p 8 131 #[] W4 H4.out (by omega) (by omega) (by omega) (fun _ _ => rfl) (letters183_yes p bs.length W4 (by omega) (by rw [lett_short p 256 8 (by omega) s1]; exact l1)))
 go_enter Tryz.func101,Tryz.ntmps101
 go_wp2_with fail
 refine (place321 R _ _ _ _ c0).mono ?_
 rintro e w1 ⟨rfl,rfl⟩
 clear c0
 go_wp2_with fail
 refine HT1.out.mono ?_
 rintro e w5 ⟨rfl,g1,cap1,hw5,hs5⟩
 have y0:=hs5.cell x0 (by omega) (by omega)
 have y1:=hs5.cell x1 (by omega) (by omega)
 have y2:=hs5.cell x2 (by omega) (by omega)
 have y3:=hs5.cell x3 (by omega) (by omega)
 have hN1 : w.heap.size + 1 + 1 ≠ g1:=hs5.ne (by omega) (by omega)
 have y4:=(hs5.block (b:=w.heap.size + 1 + 1) (by omega) (by omega) (by omega)).trans x4
 have hl5:=block_lt_of_cell y3
 have hl5':=block_lt_of_cell y1
 have B6:=hid (below_new w5 (.cells #[.string p] 9))
 have N6:=hid (new_cell w5 (.string p) 9)
 have W5:=hid hw5
 have S5:=hid ((Stp.of_below B4.out).trans hs5)
 have A5:=hid (HAH.out.kept hs5.k (fun b off c ha => by have:=hne b off c ha; simp; omega))
 clear HT1 hw5 hs5 x0 x1 x2 x3 H4 HW4
 have HT2:=hid (text323_yes R g1 cap1 (bs ++ encT p) r 8 132 #[.pointer (some ⟨w.heap.size + 1,0,none⟩),.pointer (some ⟨w5.heap.size,0,none⟩),.pointer (some ⟨w.heap.size + 1 + 1 + 1,0,none⟩)] _ (W5.out.later B6.out) (by omega) (by omega) (by simp; omega) (fun _ _ => rfl)
  (ask184_yes r p _ bs.length (w.heap.size + 1) w5.heap.size (w.heap.size + 1 + 1 + 1) aa an ac ah _ (by omega) (by rw [lett_short r 256 8 (by omega) s2]; exact l2) (A5.out.later B6.out) t2 ((B6.out.cell (by exact block_lt_of_cell y2)).trans y2) N6.out ((B6.out.cell (by exact hl5)).trans y3)))
 go_wp2_with fail
 refine HT2.out.mono ?_
 rintro e w7 ⟨rfl,g2,cap2,hw7,hs7⟩
 have W7:=hid hw7
 have S7:=hid ((S5.out.trans (Stp.of_below B6.out)).trans hs7)
 have q0:=hs7.cell N6.out (by omega) (by have:=W5.out.g_lt; omega)
 have q1:=block_lt_of_cell q0
 have hz6 : (w5.alloc (.cells #[.string p] 9)).heap.size = w5.heap.size + 1:=by simp
 have q2:=(hs7.block (b:=w.heap.size + 1 + 1) (by omega) (by omega) hN1).trans ((B6.out.block _ (by omega)).trans y4)
 obtain ⟨q3,q4,q5,q6⟩:=two_cells q2
 have hN2 : w.heap.size + 1 + 1 ≠ g2:=hs7.ne (by omega) hN1
 clear hw7 hs7 HT2 y0 y1 y2 y3 y4 q2
 go_wp2_with fail
 refine bodyPost_ret (v:=.agg #[.string p,.string r]) ?_ rfl ⟨rfl,g2,cap2,?_,?_⟩
 ·rw [results_cell1 rfl]
  go_simp
 ·have:=(W7.out.set (b:=w.heap.size + 1 + 1) (o:=0) (v:=.string p) (by omega) hN2).set (b:=w.heap.size + 1 + 1) (o:=1) (v:=.string r) (by omega) hN2
  simpa [encSig,encT,List.append_assoc] using this
 ·exact (S7.out.set (by omega)).set (by omega)
theorem sig133_t1 (R g cap : Nat) (bs : List Int) (p r : ByteArray) (aa : Option Addr) (an ac : Nat) (w : World) (h : Wr w R g cap bs) (x : Int)
  (ht : ∀ W,Wr W R g cap bs → Calls Tryz.prog 207 #[.pointer (some ⟨R,0,none⟩),.string p,.int .i64 8,.func (.func 131) #[] #[]] W (Throws R g x W)) :
  Calls Tryz.prog 101 #[cW R,.agg #[.string p,.string r],.slice aa an ac] w (Throws R g x w):=by
 obtain ⟨B0,z0,x0,x1,x2,x3,x4⟩:=w133_facts w p r aa an ac bs.length
 have H4:=hid (h.later B0)
 have hRl:=h.lt
 have hgl:=h.g_lt
 have hmp:=meth_place
 have hcp:=enter321
 have hmt:=meth_text
 have hct:=enter323
 have c0 : (((w.alloc (.cells #[.string p,.string r] 55)).alloc (.cells #[.slice aa an ac] 22)).alloc (.cells #[.string ⟨#[]⟩,.string ⟨#[]⟩] 55)).cell? ⟨R,0,none⟩ = some (.slice (some ⟨g,0,none⟩) bs.length cap):=by
  rw [(((Below.refl _ w).alloc (Nat.le_refl _) _).alloc (by simp <;> omega) _ |>.alloc (by simp <;> omega) _).cell (by exact hRl)]; exact h.c0
 have HW4 : (((w.alloc (.cells #[.string p,.string r] 55)).alloc (.cells #[.slice aa an ac] 22)).alloc (.cells #[.string ⟨#[]⟩,.string ⟨#[]⟩] 55)).alloc (.cells #[.int .i64 bs.length] 3) = W133 w p r aa an ac bs.length:=rfl
 generalize W133 w p r aa an ac bs.length = W4 at *
 have B4:=hid B0
 clear h B0
 have HT1:=hid (ht W4 H4.out)
 clear ht
 go_enter Tryz.func101,Tryz.ntmps101
 go_wp2_with fail
 refine (place321 R _ _ _ _ c0).mono ?_
 rintro e w1 ⟨rfl,rfl⟩
 clear c0
 go_wp2_with fail
 refine HT1.out.mono ?_
 rintro e w5 ⟨⟨q,rfl⟩,hk⟩
 exact ⟨rfl,⟨q,rfl⟩,(kept_of B4.out).trans hk⟩
theorem sig133_t2 (R g cap : Nat) (bs : List Int) (p r : ByteArray) (aa : Option Addr) (an ac : Nat) (ah : List Sg) (w : World) (h : Wr w R g cap bs) (hb : bs.length + 100 ≤ 1099511627776)
  (hah : SigsAt w aa an ah) (hne : ∀ b off c,aa = some ⟨b,off,c⟩ → b ≠ R ∧ b ≠ g) (s1 : p.size ≤ 8) (l1 : lett p 8 = true) (x : Int)
  (ht : ∀ W g1 cap1 bs1 A B C beg,Wr W R g1 cap1 bs1 → SigsAt W aa an ah → W.cell? ⟨A,0,none⟩ = some (.slice aa an ac) → W.cell? ⟨B,0,none⟩ = some (.string p) → W.cell? ⟨C,0,none⟩ = some (.int .i64 beg) →
   Calls Tryz.prog 207 #[.pointer (some ⟨R,0,none⟩),.string r,.int .i64 8,.func (.func 132) #[] #[.pointer (some ⟨A,0,none⟩),.pointer (some ⟨B,0,none⟩),.pointer (some ⟨C,0,none⟩)]] W (Throws R g1 x W)) :
  Calls Tryz.prog 101 #[cW R,.agg #[.string p,.string r],.slice aa an ac] w (Throws R g x w):=by
 obtain ⟨B0,z0,x0,x1,x2,x3,x4⟩:=w133_facts w p r aa an ac bs.length
 have H4:=hid (h.later B0)
 have HAH:=hid (hah.later B0)
 have hRl:=h.lt
 have hgl:=h.g_lt
 have u1:=encT_le p 8 s1
 have hmp:=meth_place
 have hcp:=enter321
 have hmt:=meth_text
 have hct:=enter323
 have c0 : (((w.alloc (.cells #[.string p,.string r] 55)).alloc (.cells #[.slice aa an ac] 22)).alloc (.cells #[.string ⟨#[]⟩,.string ⟨#[]⟩] 55)).cell? ⟨R,0,none⟩ = some (.slice (some ⟨g,0,none⟩) bs.length cap):=by
  rw [(((Below.refl _ w).alloc (Nat.le_refl _) _).alloc (by simp <;> omega) _ |>.alloc (by simp <;> omega) _).cell (by exact hRl)]; exact h.c0
 have HW4 : (((w.alloc (.cells #[.string p,.string r] 55)).alloc (.cells #[.slice aa an ac] 22)).alloc (.cells #[.string ⟨#[]⟩,.string ⟨#[]⟩] 55)).alloc (.cells #[.int .i64 bs.length] 3) = W133 w p r aa an ac bs.length:=rfl
 generalize W133 w p r aa an ac bs.length = W4 at *
 have B4:=hid B0
 clear h hah B0
 have HT1:=hid (text323_yes R g cap bs p 8 131 #[] W4 H4.out (by omega) (by omega) (by omega) (fun _ _ => rfl) (letters183_yes p bs.length W4 (by omega) (by rw [lett_short p 256 8 (by omega) s1]; exact l1)))
 have HT:=hid ht
 clear ht
 go_enter Tryz.func101,Tryz.ntmps101
 go_wp2_with fail
 refine (place321 R _ _ _ _ c0).mono ?_
 rintro e w1 ⟨rfl,rfl⟩
 clear c0
 go_wp2_with fail
 refine HT1.out.mono ?_
 rintro e w5 ⟨rfl,g1,cap1,hw5,hs5⟩
 have y0:=hs5.cell x0 (by omega) (by omega)
 have y1:=hs5.cell x1 (by omega) (by omega)
 have y2:=hs5.cell x2 (by omega) (by omega)
 have y3:=hs5.cell x3 (by omega) (by omega)
 have hN1 : w.heap.size + 1 + 1 ≠ g1:=hs5.ne (by omega) (by omega)
 have y4:=(hs5.block (b:=w.heap.size + 1 + 1) (by omega) (by omega) (by omega)).trans x4
 have hl5:=block_lt_of_cell y3
 have hl5':=block_lt_of_cell y1
 have B6:=hid (below_new w5 (.cells #[.string p] 9))
 have N6:=hid (new_cell w5 (.string p) 9)
 have W5:=hid hw5
 have S5:=hid ((Stp.of_below B4.out).trans hs5)
 have A5:=hid (HAH.out.kept hs5.k (fun b off c ha => by have:=hne b off c ha; simp; omega))
 clear HT1 hw5 hs5 x0 x1 x2 x3 H4 HW4
 have HT2:=hid (HT.out _ g1 cap1 _ (w.heap.size + 1) w5.heap.size (w.heap.size + 1 + 1 + 1) bs.length (W5.out.later B6.out) (A5.out.later B6.out) ((B6.out.cell (by exact block_lt_of_cell y2)).trans y2) N6.out ((B6.out.cell (by exact hl5)).trans y3))
 clear HT
 go_wp2_with fail
 refine HT2.out.mono ?_
 rintro e w7 ⟨⟨q,rfl⟩,hk⟩
 refine ⟨rfl,⟨q,rfl⟩,?_⟩
 refine (S5.out.k.trans (kept_of B6.out)).then hk (fun k hkl hh => ?_)
 rcases hh with rfl | rfl
 ·exact .inl rfl
 ·rcases S5.out.m with h | h
  ·exact .inr h
  ·omega
theorem sig133_no (R g cap : Nat) (bs : List Int) (p r : ByteArray) (aa : Option Addr) (an ac : Nat) (ah : List Sg) (w : World) (h : Wr w R g cap bs) (hb : bs.length + 100 ≤ 1099511627776)
  (hah : SigsAt w aa an ah) (hne : ∀ b off c,aa = some ⟨b,off,c⟩ → b ≠ R ∧ b ≠ g) (hx : chkSig ah (p,r) ≠ 0) :
  Calls Tryz.prog 101 #[cW R,.agg #[.string p,.string r],.slice aa an ac] w (Throws R g (chkSig ah (p,r)) w):=by
 unfold chkSig at hx ⊢
 simp only at hx ⊢
 by_cases s1 : 8 < p.size
 ·rw [if_pos s1]
  exact sig133_t1 R g cap bs p r aa an ac w h 13 (fun W hW => text323_long R g cap bs p 8 _ W hW (by omega))
 rw [if_neg s1] at hx ⊢
 by_cases l1 : lett p 8 = false
 ·rw [if_pos l1]
  exact sig133_t1 R g cap bs p r aa an ac w h 15 (fun W hW => text323_no R g cap bs p 8 131 #[] 15 W hW (by omega) (fun _ _ => rfl) (letters183_no p bs.length W (by omega) (by rw [lett_short p 256 8 (by omega) (by omega)]; exact l1)))
 rw [if_neg l1] at hx ⊢
 have l1' : lett p 8 = true:=by simpa using l1
 by_cases s2 : 8 < r.size
 ·rw [if_pos s2]
  exact sig133_t2 R g cap bs p r aa an ac ah w h hb hah hne (by omega) l1' 13 (fun W g1 cap1 bs1 A B C beg hW _ _ _ _ => text323_long R g1 cap1 bs1 r 8 _ W hW (by omega))
 rw [if_neg s2] at hx ⊢
 by_cases l2 : lett r 8 = false
 ·rw [if_pos l2]
  exact sig133_t2 R g cap bs p r aa an ac ah w h hb hah hne (by omega) l1' 15 (fun W g1 cap1 bs1 A B C beg hW _ _ _ _ => text323_no R g1 cap1 bs1 r 8 132 _ 15 W hW (by omega) (fun _ _ => rfl) (ask184_no r _ A B C W (by omega) (by rw [lett_short r 256 8 (by omega) (by omega)]; exact l2)))
 rw [if_neg l2] at hx ⊢
 have l2' : lett r 8 = true:=by simpa using l2
 by_cases t2 : twice ah (p,r) = true
 ·rw [if_pos t2]
  obtain ⟨k,y,h1,h2,h3,h4⟩:=twice_at t2
  exact sig133_t2 R g cap bs p r aa an ac ah w h hb hah hne (by omega) l1' 16 (fun W g1 cap1 bs1 A B C beg hW hA hc1 hc2 hc3 => text323_no R g1 cap1 bs1 r 8 132 _ 16 W hW (by omega) (fun _ _ => rfl)
   (ask184_twice r p _ beg A B C aa an ac ah W (by omega) (by rw [lett_short r 256 8 (by omega) (by omega)]; exact l2') hA k ⟨y,h1,h2,h3⟩ h4 hc1 hc2 hc3))
 ·rw [if_neg t2] at hx; exact absurd rfl hx
theorem setBlk {w : World} {b i : Nat} {a : Array Value} {t : TypeId} {u : Value} (h : w.heap[b]? = some (.cells a t)) : (w.setCell ⟨b,i,none⟩ u).heap[b]? = some (.cells (a.setIfInBounds i u) t):=by
 have hl : b < w.heap.size:=by
  rcases Nat.lt_or_ge b w.heap.size with hx | hx
  ·exact hx
  ·rw [Array.getElem?_eq_none hx] at h; cases h
 rw [Array.getElem?_eq_getElem hl] at h
 simp only [Option.some.injEq] at h
 simp [World.setCell,hl,Array.getElem_modify,h]
theorem own_kept {S : Nat → Prop} {w w' : World} {base sz OB n oc : Nat} {e : TypeId} {xs : List Value} (h : w.ownsRow base e sz (.slice (some ⟨OB,0,none⟩) n oc) n xs) (hk : Kept S w w') (hS : ¬ S OB) : w'.ownsRow base e sz (.slice (some ⟨OB,0,none⟩) n oc) n xs:=by
 rcases h.2 with ⟨e,_⟩ | ⟨g,cap,cur,e,h4,h5,h6⟩
 ·cases e
 ·cases e
  have hl : OB < w.heap.size:=by
   rcases Nat.lt_or_ge OB w.heap.size with hx | hx
   ·exact hx
   ·rw [Array.getElem?_eq_none hx] at h5; cases h5
  exact ⟨h.1,.inr ⟨_,_,cur,rfl,h4,(hk.block _ hl hS).trans h5,h6⟩⟩
theorem below_drewN (w : World) (m : Nat) : Below w.heap.size w (w.drewN m):=(Kept.drewN (fun _ => False) w m).to_below (Nat.le_refl _) (fun _ _ h => h)
theorem later_cell {W W' : World} {b o : Nat} {u : Value} (hb : Below W.heap.size W W') (h : W.cell? ⟨b,o,none⟩ = some u) : W'.cell? ⟨b,o,none⟩ = some u:=(hb.cell (by exact block_lt_of_cell h)).trans h
section
variable {v : Ev} {w1 w : World} {s : Cs}
theorem CI.OB_ne (hA : EvA v w1) {OB : Nat} (h : OB = v.O0 ∨ w1.heap.size ≤ OB) : OB ≠ v.C ∧ OB ≠ v.SH ∧ OB ≠ v.FL:=by
 have h1:=hA.c
 have h2:=hA.s
 have h3:=hA.f
 have h4:=hA.co
 have h5:=hA.so
 have h6:=hA.fo
 omega
theorem CI.put (hA : EvA v w1) (h : CI v w1 w s) (i : Nat) (u : Value) (s' : Cs) (hop : s'.op = s.op) (hsh : s'.sh = s.sh) (hfl : s'.fl = s.fl)
  (hv : ∀ ov,(ckV v s ov).setIfInBounds i u = ckV v s' ov) : CI v w1 (w.setCell ⟨v.C,i,none⟩ u) s':=by
 obtain ⟨OB,oc,h1,h2,h3⟩:=h.ck
 have hk:=kept_set w v.C i u
 have hne:=CI.OB_ne hA h3
 refine ⟨h.kept.then hk (fun k _ e => .inl e),⟨OB,oc,?_,?_,h3⟩,?_,?_⟩
 ·rw [setBlk h1,hv,hop]
 ·rw [hop]; exact own_kept h2 hk (fun e => hne.1 e)
 ·rw [hsh]; exact h.sh.kept hk (fun e => hA.cs e.symm)
 ·rw [hfl]; exact h.fl.kept hk (fun e => hA.cf e.symm)
theorem CI.putSt (hA : EvA v w1) (h : CI v w1 w s) (t : ByteArray) : CI v w1 (w.setCell ⟨v.C,15,none⟩ (.string t)) { s with st:=t }:=h.put hA 15 _ _ rfl rfl rfl (fun _ => rfl)
theorem CI.putDead (hA : EvA v w1) (h : CI v w1 w s) (b : Bool) : CI v w1 (w.setCell ⟨v.C,17,none⟩ (.bool b)) { s with dead:=b }:=h.put hA 17 _ _ rfl rfl rfl (fun _ => rfl)
theorem CI.putPc (hA : EvA v w1) (h : CI v w1 w s) (p : Nat) : CI v w1 (w.setCell ⟨v.C,16,none⟩ (.int .i64 p)) { s with pc:=p }:=h.put hA 16 _ _ rfl rfl rfl (fun _ => rfl)
theorem CI.putHi (hA : EvA v w1) (h : CI v w1 w s) (p : Nat) : CI v w1 (w.setCell ⟨v.C,13,none⟩ (.int .i64 p)) { s with hi:=p }:=h.put hA 13 _ _ rfl rfl rfl (fun _ => rfl)
def thv (x : Int) : Ending:=.panicked [{ v:=.iface 38 (.int .i64 x),recovered:=false }]
structure Bad (v : Ev) (w1 : World) (pc : Nat) (w : World) : Prop where
 kept : Kept v.S w1 w
 pc : w.cell? ⟨v.C,16,none⟩ = some (.int .i64 pc)
theorem CI.bad (h : CI v w1 w s) : Bad v w1 s.pc w:=⟨h.kept,h.pc⟩
abbrev Doz (v : Ev) (w1 w : World) (pc : Nat) (E : Int) (val : Value) (s' : Cs) : Ending → World → Prop:=fun e w' => (E = 0 ∧ e = .returned val ∧ CI v w1 w' s' ∧ Kept (fun k => k = v.C) w w') ∨ (E ≠ 0 ∧ e = thv E ∧ Bad v w1 pc w')
abbrev Rdz (w : World) (E : Int) (val : Value) : Ending → World → Prop:=fun e w' => (E = 0 ∧ e = .returned val ∧ Below w.heap.size w w') ∨ (E ≠ 0 ∧ e = thv E ∧ Below w.heap.size w w')
abbrev unitV : Value:=.tuple #[]
theorem must_yes (x : Int) (w : World) : Calls Tryz.prog 86 #[.bool true,.int .i64 x] w fun e w' => e = .returned unitV ∧ w' = w:=by
 go_enter Tryz.func86,Tryz.ntmps86
 go_wp2_with fail
 go_end0
 exact ⟨rfl,rfl⟩
theorem must_no (x : Int) (w : World) : Calls Tryz.prog 86 #[.bool false,.int .i64 x] w fun e w' => e = thv x ∧ w' = w:=by
 go_enter Tryz.func86,Tryz.ntmps86
 go_wp2_with fail
 first | exact ⟨rfl,rfl,rfl⟩ | (refine ⟨rfl,?_,rfl⟩; rfl)
theorem mustB (b : Bool) (x : Int) (w : World) : Calls Tryz.prog 86 #[.bool b,.int .i64 x] w fun e w' => (b = true ∧ e = .returned unitV ∧ w' = w) ∨ (b = false ∧ e = thv x ∧ w' = w):=by
 cases b
 ·exact (must_no x w).mono fun e w' h => .inr ⟨rfl,h⟩
 ·exact (must_yes x w).mono fun e w' h => .inl ⟨rfl,h⟩
theorem inner230 {C OB k oc : Nat} (h1 : w.cell? ⟨C,14,none⟩ = some (.slice (some ⟨OB,0,none⟩) (k + 1) oc)) (hm : k < 64) : Calls Tryz.prog 149 #[.pointer (some ⟨C,0,none⟩)] w fun e w' => e = .returned (.pointer (some ⟨OB,k * 5,none⟩)) ∧ Below w.heap.size w w':=by
 go_enter Tryz.func149,Tryz.ntmps149
 go_wp2_with fail
 go_quiet (fail)
 go_wp2_with fail
 go_ret
 exact ⟨by simp,below_drewN _ _⟩
end
end Go.Proofs.YtepcmfegggdjfaaGreatDoor

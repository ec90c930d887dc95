/-
  Texts Vn.
-/
import Derived.Deep.CutRange
import Derived.Test.YtepcmfegggdjfaaGreatDoorQ00
import Derived.Test.YtepcmfegggdjfaaGreatDoorQ31
set_option linter.unusedVariables false
set_option maxRecDepth 100000
set_option maxHeartbeats 16000000
namespace Go.Proofs.YtepcmfegggdjfaaGreatDoor
open Go.RowKit
section
variable {v : Ev} {w1 w : World} {s : Cs} {m : MM} {lo : List Int}
theorem own_ne {w : World} {G OB n oc sz : Nat} {a : Array Value} {t e : TypeId} {xs : List Value} (hG : w.heap[G]? = some (.cells a t)) (h : w.ownsRow 0 e sz (.slice (some ⟨OB,0,none⟩) n oc) n xs) (he : t ≠ e) : G ≠ OB:=by
 rintro rfl
 rcases h.2 with ⟨e1,_⟩ | ⟨g,cap,cur,e1,h4,h5,h6⟩
 ·cases e1
 ·cases e1
  rw [hG] at h5
  simp at h5
  exact he h5.2
theorem blk_lt {w : World} {b : Nat} {o : Obj} (h : w.heap[b]? = some o) : b < w.heap.size:=by
 rcases Nat.lt_or_ge b w.heap.size with hx | hx
 ·exact hx
 ·rw [Array.getElem?_eq_none hx] at h; cases h
theorem blk_later {w w' : World} {b : Nat} {o : Obj} (hb : Below w.heap.size w w') (h : w.heap[b]? = some o) : w'.heap[b]? = some o:=(hb.block b (blk_lt h)).trans h
abbrev emS (C G X : Nat) (P R : ByteArray) (c pc : Int) (W : World) : Prop :=
 W.cell? ⟨G,0,none⟩ = some (.string P) ∧ W.cell? ⟨G,1,none⟩ = some (.string R) ∧ W.cell? ⟨X,0,none⟩ = some (.int .u8 c) ∧ W.cell? ⟨C,16,none⟩ = some (.int .i64 pc)
theorem emS.later {C G X : Nat} {P R : ByteArray} {c pc : Int} {W W' : World} (h : emS C G X P R c pc W) (hb : Below W.heap.size W W') : emS C G X P R c pc W' :=
 ⟨later_cell hb h.1,later_cell hb h.2.1,later_cell hb h.2.2.1,later_cell hb h.2.2.2⟩
theorem emS.kept {C G X OB : Nat} {P R : ByteArray} {c pc : Int} {W W' : World} (h : emS C G X P R c pc W) (hb : Kept (fun k => k = OB) W W') (h1 : C ≠ OB) (h2 : G ≠ OB) (h3 : X ≠ OB) : emS C G X P R c pc W' :=
 ⟨hb.cell h.1 h2,hb.cell h.2.1 h2,hb.cell h.2.2.1 h3,hb.cell h.2.2.2 h1⟩
theorem emS.put {C G X : Nat} {P R : ByteArray} {c pc : Int} {W : World} {u : Value} (h : emS C G X P R c pc W) (h2 : G ≠ C) (h3 : X ≠ C) : emS C G X P R c pc (W.setCell ⟨C,14,none⟩ u) :=
 ⟨put_cell h.1 h2,put_cell h.2.1 h2,put_cell h.2.2.1 h3,by rw [World.cell?_setCell_other _ _ _ _ (by simp)]; exact h.2.2.2⟩
theorem enter166_no (hA : EvA v w1) (hM : EvM v w1 m lo) (h : CI v w1 w s) {z c : Int} (L : Value) (tk : ByteArray) (hz : z < 0 ∨ (m.tn : Int) ≤ z) :
  Calls Tryz.prog 119 #[.pointer (some ⟨v.C,0,none⟩),.agg #[.int .u8 c,.int .i64 z,L],.string tk] w fun e w' => e = thv 30 ∧ Bad v w1 s.pc w':=by
 have BW:=below_new w (.cells #[.int .u8 c,.int .i64 z,L] 82)
 have x0 : (w.alloc (.cells #[.int .u8 c,.int .i64 z,L] 82)).cell? ⟨w.heap.size,0,none⟩ = some (.int .u8 c):=by simp [go_sem]
 have x1 : (w.alloc (.cells #[.int .u8 c,.int .i64 z,L] 82)).cell? ⟨w.heap.size,1,none⟩ = some (.int .i64 z):=by simp [go_sem]
 obtain ⟨c0,c1,c2,c5⟩:=h.mc
 rw [hM.mv] at c0
 change w.cell? ⟨v.C,0,none⟩ = some (.slice m.ta m.tn m.tc) at c0
 have HF:=hid (fun W => pick229_no (w:=W) (a:=m.ta) (cap:=m.tc) hz (by have:=hM.t64; omega))
 have d0:=later_cell BW c0
 have HB:=hid BW
 have HC:=hid h
 clear h c0 c1 c2 c5 BW
 go_enter Tryz.func119,Tryz.ntmps119
 go_wp2_with fail
 generalize w.alloc (.cells #[.int .u8 c,.int .i64 z,L] 82) = W0 at *
 refine wp_region_held_drew (S:=loS v.C w.heap.size 0 (.slice m.ta m.tn m.tc) c z w) (by kernel_rfl) ⟨d0,x0,x1,HB.out.drew⟩ (fun hHeld => ?_)
 refine tkH (i:=0) (v:=?_) rfl ?_ ?_
 rotate_left
 ·intro w h;(try dsimp only at h);go_simp;try with_reducible rfl
 try simp only [Act.put,sIB]
 refine tkH (i:=1) (v:=?_) rfl ?_ ?_
 rotate_left
 ·intro w h;(try dsimp only at h);go_simp;try with_reducible rfl
 try simp only [Act.put]
 refine tkH (i:=2) (v:=?_) rfl ?_ ?_
 rotate_left
 ·intro w h;(try dsimp only at h);go_simp;try with_reducible rfl
 try simp only [Act.put]
 refine tkH (i:=3) (v:=?_) rfl ?_ ?_
 rotate_left
 ·intro w h;(try dsimp only at h);go_simp;try with_reducible rfl
 try simp only [Act.put]
 refine tkH (i:=4) (v:=?_) rfl ?_ ?_
 rotate_left
 ·intro w h;(try dsimp only at h);go_simp;try with_reducible rfl
 try simp only [Act.put]
 refine tkH (i:=5) (v:=?_) rfl ?_ ?_
 rotate_left
 ·intro w h;(try dsimp only at h);go_simp;try with_reducible rfl
 try simp only [Act.put]
 refine tkH (i:=6) (v:=?_) rfl ?_ ?_
 rotate_left
 ·intro w h;(try dsimp only at h);go_simp;try with_reducible rfl
 try simp only [Act.put]
 refine wpAnyH_ready (rs:=[7,8]) (by kernel_rfl) (by simp) ?_
 refine AllReadyH.cons rfl (fun K hK => ?_) (AllReadyH.cons rfl (fun K hK => ?_) AllReadyH.nil)
 ·go_simp
  refine (HF.out _).mono ?_
  rintro e w5 ⟨rfl,hb⟩
  exact ⟨rfl,rfl,(HC.out.later hA (hHeld.2.2.2.trans (hb.mono hHeld.2.2.2.size))).bad⟩
 ·go_simp
  have BN:=(below_new W0 (.cells #[.string ⟨#[]⟩,.string ⟨#[]⟩] 114)).drew
  have hS5:=loS.later (W:=W0) ⟨d0,x0,x1,HB.out⟩ BN
  refine hK.out _ _ hS5 (fun hHeld2 => ?_)
  clear hK K
  generalize (W0.alloc (.cells #[.string ⟨#[]⟩,.string ⟨#[]⟩] 114)).drew = W1 at *
  refine wpAnyH_ready (rs:=[7]) (by kernel_rfl) (by simp) ?_
  refine AllReadyH.cons rfl (fun K hK => ?_) AllReadyH.nil
  go_simp
  refine (HF.out _).mono ?_
  rintro e w5 ⟨rfl,hb⟩
  exact ⟨rfl,rfl,(HC.out.later hA (hS5.2.2.2.trans (hb.mono hS5.2.2.2.size))).bad⟩
def entB (s : Cs) (tk P : ByteArray) : ByteArray:=(s.st.extract 0 (s.st.size - tk.size)).extract 0 ((s.st.extract 0 (s.st.size - tk.size)).size - P.size)
def entS (s : Cs) (c : Int) (tk P R : ByteArray) : Cs:={ s with st:=s.st.extract 0 (s.st.size - tk.size),fl:=fun i => if i = s.pc then ((entB s tk P).size : Int) else s.fl i,op:=s.op ++ [⟨P,R,entB s tk P,c,s.pc⟩] }
theorem enter166 (hA : EvA v w1) (hM : EvM v w1 m lo) (h : CI v w1 w s) {k : Nat} {o : Opn} (hw : CW s k o) {q : Nat} {c : Int} {P R : ByteArray} (L : Value) (tk : ByteArray) (htk : tk.size ≤ 1) (hP : m.types[q]? = some (P,R)) (hc0 : 0 ≤ c) (hc1 : c ≤ 255) (hpn : s.pc < v.n) (hn : v.n ≤ 1000000) (hk : k < 63) :
  Calls Tryz.prog 119 #[.pointer (some ⟨v.C,0,none⟩),.agg #[.int .u8 c,.int .i64 q,L],.string tk] w fun e w' =>
   (orE (askE s o (P ++ tk)) (askE s o tk) = 0 ∧ e = .returned unitV ∧ CI v w1 w' (entS s c tk P R)) ∨ (orE (askE s o (P ++ tk)) (askE s o tk) ≠ 0 ∧ e = thv (orE (askE s o (P ++ tk)) (askE s o tk)) ∧ Bad v w1 s.pc w'):=by
 have BW:=below_new w (.cells #[.int .u8 c,.int .i64 q,L] 82)
 have x0 : (w.alloc (.cells #[.int .u8 c,.int .i64 q,L] 82)).cell? ⟨w.heap.size,0,none⟩ = some (.int .u8 c):=by simp [go_sem]
 have x1 : (w.alloc (.cells #[.int .u8 c,.int .i64 q,L] 82)).cell? ⟨w.heap.size,1,none⟩ = some (.int .i64 q):=by simp [go_sem]
 obtain ⟨c0,c1,c2,c5⟩:=h.mc
 rw [hM.mv] at c0
 change w.cell? ⟨v.C,0,none⟩ = some (.slice m.ta m.tn m.tc) at c0
 have pt:=hM.pt.kept h.kept hM.tS
 have hqn : q < m.tn:=by rw [← pt.1]; exact lt_of_get hP
 obtain ⟨tb,toff,hta,htc⟩ : ∃ b off,m.ta = some ⟨b,off,none⟩ ∧ ∀ (j : Nat) x,m.types[j]? = some x → w.cell? ⟨b,off + j * 2,none⟩ = some (.string x.1) ∧ w.cell? ⟨b,off + j * 2 + 1,none⟩ = some (.string x.2):=by
  rcases pt.2 with h0 | hx
  ·omega
  ·exact hx
 obtain ⟨t0,t1⟩:=htc q _ hP
 simp only at t0 t1
 have h8:=hM.tL _ (List.mem_of_getElem? hP)
 simp only at h8
 have HF:=hid (fun W (hb : Below w.heap.size w W) => pick229_yes (w:=W) (cap:=m.tc) hqn (by have:=hM.t64; omega) (later_cell hb t0) (later_cell hb t1))
 rw [hta] at c0
 have d0:=later_cell BW c0
 have HB:=hid BW
 have HC:=hid h
 have hCl : v.C < w.heap.size:=block_lt_of_cell c0
 clear h c0 c1 c2 c5 BW t0 t1 htc pt hP
 obtain ⟨E,hE⟩ : ∃ E,orE (askE s o (P ++ tk)) (askE s o tk) = E:=⟨_,rfl⟩
 rw [hE]
 have HE:=hid hE
 clear hE
 go_enter Tryz.func119,Tryz.ntmps119
 go_wp2_with fail
 generalize w.alloc (.cells #[.int .u8 c,.int .i64 q,L] 82) = W0 at *
 go_cut [6] from 8 to 15 (fun g wx => ∃ G,g = .pointer (some ⟨G,0,none⟩) ∧ w.heap.size < G ∧ wx.heap[G]? = some (.cells #[.string P,.string R] 114) ∧ wx.cell? ⟨w.heap.size,0,none⟩ = some (.int .u8 c) ∧ Below w.heap.size w wx)
 case first =>
  refine wp_region_held_drew (S:=loS v.C w.heap.size 0 (.slice (some ⟨tb,toff,none⟩) m.tn m.tc) c q w) (by kernel_rfl) ⟨d0,x0,x1,HB.out.drew⟩ (fun hHeld => ?_)
  refine tkH (i:=0) (v:=?_) rfl ?_ ?_
  rotate_left
  ·intro w h;(try dsimp only at h);go_simp;try with_reducible rfl
  try simp only [Act.put,sIB]
  refine tkH (i:=1) (v:=?_) rfl ?_ ?_
  rotate_left
  ·intro w h;(try dsimp only at h);go_simp;try with_reducible rfl
  try simp only [Act.put]
  refine tkH (i:=2) (v:=?_) rfl ?_ ?_
  rotate_left
  ·intro w h;(try dsimp only at h);go_simp;try with_reducible rfl
  try simp only [Act.put]
  refine tkH (i:=3) (v:=?_) rfl ?_ ?_
  rotate_left
  ·intro w h;(try dsimp only at h);go_simp;try with_reducible rfl
  try simp only [Act.put]
  refine tkH (i:=4) (v:=?_) rfl ?_ ?_
  rotate_left
  ·intro w h;(try dsimp only at h);go_simp;try with_reducible rfl
  try simp only [Act.put]
  refine tkH (i:=5) (v:=?_) rfl ?_ ?_
  rotate_left
  ·intro w h;(try dsimp only at h);go_simp;try with_reducible rfl
  try simp only [Act.put]
  refine tkH (i:=6) (v:=?_) rfl ?_ ?_
  rotate_left
  ·intro w h;(try dsimp only at h);go_simp;try with_reducible rfl
  try simp only [Act.put]
  refine wpAnyH_ready (rs:=[7,8]) (by kernel_rfl) (by simp) ?_
  refine AllReadyH.cons rfl (fun K hK => ?_) (AllReadyH.cons rfl (fun K hK => ?_) AllReadyH.nil)
  ·go_simp
   refine (HF.out _ hHeld.2.2.2).mono ?_
   rintro e w5 ⟨rfl,hb5⟩
   have hS5:=loS.later hHeld hb5
   refine hK.out _ _ hS5 (fun hHeld2 => ?_)
   clear hK K hb5
   refine wpAnyH_ready (rs:=[8]) (by kernel_rfl) (by simp) ?_
   refine AllReadyH.cons rfl (fun K hK => ?_) AllReadyH.nil
   go_simp
   refine hK.out _ _ (hS5.later (below_new _ _)) (fun hHeld3 => ?_)
   clear hK K
   refine wpAnyH_ready (rs:=[9]) (by kernel_rfl) (by simp) ?_
   refine AllReadyH.cons rfl (fun K hK => ?_) AllReadyH.nil
   go_simp
   have BN:=below_new w5 (.cells #[.string P,.string R] 114)
   have hS:=hS5.later BN
   refine hK.out _ _ hS (fun hHeld4 => ?_)
   clear hK K
   refine wpAnyH_done (by kernel_rfl) ?_ _
   have hlt : w.heap.size < w5.heap.size:=block_lt_of_cell hS5.2.1
   have gB : (w5.alloc (.cells #[.string P,.string R] 114)).heap[w5.heap.size]? = some (.cells #[.string P,.string R] 114):=heap_alloc_new w5 _
   go_wp2_with fail
   go_meet
   exact ⟨_,rfl,hlt,gB,hS.2.1,hS.2.2.2⟩
  ·go_simp
   have BN:=(below_new W0 (.cells #[.string ⟨#[]⟩,.string ⟨#[]⟩] 114)).drew
   have hS5:=loS.later (W:=W0) ⟨d0,x0,x1,HB.out⟩ BN
   have g0 : ((W0.alloc (.cells #[.string ⟨#[]⟩,.string ⟨#[]⟩] 114)).drew).cell? ⟨W0.heap.size,0,none⟩ = some (.string ⟨#[]⟩):=by simp [go_sem]
   have g1 : ((W0.alloc (.cells #[.string ⟨#[]⟩,.string ⟨#[]⟩] 114)).drew).cell? ⟨W0.heap.size,1,none⟩ = some (.string ⟨#[]⟩):=by simp [go_sem]
   have q0 : ((W0.alloc (.cells #[.string ⟨#[]⟩,.string ⟨#[]⟩] 114)).drew).frozen? ⟨W0.heap.size,0,none⟩ = false:=by simp [go_sem]
   have q1 : ((W0.alloc (.cells #[.string ⟨#[]⟩,.string ⟨#[]⟩] 114)).drew).frozen? ⟨W0.heap.size,1,none⟩ = false:=by simp [go_sem]
   have hlt : w.heap.size < W0.heap.size:=block_lt_of_cell x0
   have gB0 : ((W0.alloc (.cells #[.string ⟨#[]⟩,.string ⟨#[]⟩] 114)).drew).heap[W0.heap.size]? = some (.cells #[.string ⟨#[]⟩,.string ⟨#[]⟩] 114):=heap_alloc_new W0 _
   refine hK.out _ _ hS5 (fun hHeld2 => ?_)
   clear hK K
   generalize (W0.alloc (.cells #[.string ⟨#[]⟩,.string ⟨#[]⟩] 114)).drew = W1 at *
   refine wpAnyH_ready (rs:=[7]) (by kernel_rfl) (by simp) ?_
   refine AllReadyH.cons rfl (fun K hK => ?_) AllReadyH.nil
   go_simp
   refine (HF.out _ hS5.2.2.2).mono ?_
   rintro e w5 ⟨rfl,hb5⟩
   have hS6:=loS.later hS5 hb5
   have r0:=later_cell hb5 g0
   have r1:=later_cell hb5 g1
   have t0:=later_free hb5 g0 q0
   have t1:=later_free hb5 g1 q1
   have rB:=blk_later hb5 gB0
   refine hK.out _ _ hS6 (fun hHeld3 => ?_)
   clear hK K hb5 g0 g1 q0 q1
   generalize W0.heap.size = G at *
   refine wpAnyH_ready (rs:=[9]) (by kernel_rfl) (by simp) ?_
   refine AllReadyH.cons rfl (fun K hK => ?_) AllReadyH.nil
   go_simp
   have hS:=(hS6.putG (g:=G) (j:=0) (u:=.string P) (by omega) (by omega) (by omega)).putG (g:=G) (j:=1) (u:=.string R) (by omega) (by omega) (by omega)
   refine hK.out _ _ hS (fun hHeld4 => ?_)
   clear hK K
   refine wpAnyH_done (by kernel_rfl) ?_ _
   have gB:=setBlk (i:=1) (u:=.string R) (setBlk (i:=0) (u:=.string P) rB)
   go_wp2_with fail
   go_meet
   exact ⟨_,rfl,hlt,gB,hS.2.1,hS.2.2.2⟩
 case rest =>
  obtain ⟨G,rfl,hG,gB,gx,hb⟩:=hcut
  have g0 : wc.cell? ⟨G,0,none⟩ = some (.string P):=cell_at gB
  have g1 : wc.cell? ⟨G,1,none⟩ = some (.string R):=cell_at gB
  have HC2:=hid (HC.out.later hA hb)
  have HB2:=hid hb
  have hPt : (P ++ tk).size ≤ 1000000:=by simp; omega
  have HK1:=hid (ask169 hA HC2.out hw (P ++ tk) hPt)
  clear HF HB d0 x0 x1 hb
  go_wp2_with fail
  refine HK1.out.mono ?_
  rintro e w3 (⟨h0,rfl,hb⟩ | ⟨h0,rfl,hb⟩)
  rotate_left
  ·have hE : E = askE s o (P ++ tk):=by rw [← HE.out]; simp [orE,h0]
   exact ⟨rfl,.inr ⟨by rw [hE]; exact h0,by rw [hE]; rfl,(HC2.out.later hA hb).bad⟩⟩
  have hE : E = askE s o tk:=by rw [← HE.out]; simp [orE,h0]
  have HC3:=hid (HC2.out.later hA hb)
  have y0:=later_cell hb g0
  have y1:=later_cell hb g1
  have yx:=later_cell hb gx
  have yB:=blk_later hb gB
  have HB3:=hid (HB2.out.trans (hb.mono HB2.out.size))
  have hG3 : G < w3.heap.size:=block_lt_of_cell y0
  have HK2:=hid (take173 hA HC3.out hw tk (by omega))
  have hle:=askE_le h0
  clear g0 g1 gx gB hb HK1 HC2 HB2
  go_wp2_with fail
  refine HK2.out.mono ?_
  rintro e w4 (⟨h1,rfl,hc4,hk4⟩ | ⟨h1,rfl,hb⟩)
  rotate_left
  ·exact ⟨rfl,.inr ⟨by rw [hE]; exact h1,by rw [hE]; rfl,hb⟩⟩
  have hE0 : E = 0:=hE.trans h1
  subst hE0
  have z0:=hk4.cell y0 (by intro e; omega)
  have z1:=hk4.cell y1 (by intro e; omega)
  have zx:=hk4.cell yx (by intro e; omega)
  have zB:=(hk4.block G hG3 (by intro e; omega)).trans yB
  have HC4:=hid hc4
  have HB4:=hid hk4
  clear y0 y1 yx yB HK2 hE HE hc4 hk4
  have c15:=HC4.out.st
  have hst : (takeS s tk).st = s.st.extract 0 (s.st.size - tk.size):=rfl
  have hPs : P.size ≤ (s.st.extract 0 (s.st.size - tk.size)).size:=by
   simp at hle ⊢
   omega
  have hbs : (s.st.extract 0 (s.st.size - tk.size)).size ≤ 1000000:=by
   have:=hw.big
   simp
   omega
  have hBe : entB s tk P = (s.st.extract 0 (s.st.size - tk.size)).extract 0 ((s.st.extract 0 (s.st.size - tk.size)).size - P.size):=rfl
  rw [hst] at c15
  obtain ⟨T,hT⟩ : ∃ T,s.st.extract 0 (s.st.size - tk.size) = T:=⟨_,rfl⟩
  rw [hT] at c15 hPs hbs hBe
  obtain ⟨d,hd⟩ : ∃ d,T.size - P.size = d:=⟨_,rfl⟩
  rw [hd] at hBe
  have hd1 : (0 : Int) ≤ (d : Int):=by omega
  have hd2 : (d : Int) ≤ (T.size : Int):=by omega
  have hsub2 : IntKind.i64.wrap ((T.size : Int) - (P.size : Int)) = (d : Int):=by
   simp [IntKind.wrap,IntKind.bits,IntKind.signed]; omega
  go_wp2_with fail
  go_quiet (fail)
  have HCq:=hid (HC4.out.later hA (below_drewN w4 nq))
  have r0:=later_cell (below_drewN w4 nq) z0
  have r1:=later_cell (below_drewN w4 nq) z1
  have rx:=later_cell (below_drewN w4 nq) zx
  have rB:=blk_later (below_drewN w4 nq) zB
  clear z0 z1 zx zB c15
  rw [← hBe]
  generalize w4.drewN nq = w5 at *
  have c12:=HCq.out.flc
  have c16:=HCq.out.pc
  have cfl:=HCq.out.fl.cell s.pc hpn
  have ffl:=HCq.out.fl.free s.pc
  have c16' : w5.cell? ⟨v.C,16,none⟩ = some (.int .i64 s.pc):=c16
  have p0 : (0 : Int) ≤ (s.pc : Int):=by omega
  have p1 : (s.pc : Int) < (v.n : Int):=by omega
  clear c16
  have hBs : (entB s tk P).size ≤ 1000000:=by rw [hBe]; simp; omega
  obtain ⟨B,hB⟩ : ∃ B,entB s tk P = B:=⟨_,rfl⟩
  have HBq:=hid hB
  rw [hB] at hBs ⊢
  clear hBe hB
  go_wp2_with fail
  go_region
  have HC6:=hid ((HCq.out.putFl hA s.pc B.size).later hA (below_drewN _ 1))
  have hGF : G ≠ v.FL:=by have:=hA.f; have:=HC.out.kept.size; omega
  have hXF : w.heap.size ≠ v.FL:=by have:=hA.f; have:=HC.out.kept.size; omega
  have s0:=later_cell (below_drewN _ 1) (put_cell (i:=s.pc) (x:=.int .i64 B.size) r0 hGF)
  have s1:=later_cell (below_drewN _ 1) (put_cell (i:=s.pc) (x:=.int .i64 B.size) r1 hGF)
  have sx:=later_cell (below_drewN _ 1) (put_cell (i:=s.pc) (x:=.int .i64 B.size) rx hXF)
  have sB:=blk_later (below_drewN _ 1) (((kept_set w5 v.FL s.pc (.int .i64 B.size)).block G (blk_lt rB) hGF).trans rB)
  clear r0 r1 rx rB c12 cfl ffl c16'
  have HC6:=hid (show CI v w1 (w5.setCell ⟨v.FL,s.pc,none⟩ (.int .i64 B.size)).drew _ from HC6.out)
  change (w5.setCell ⟨v.FL,s.pc,none⟩ (.int .i64 B.size)).drew.cell? _ = _ at s0 s1 sx
  change (w5.setCell ⟨v.FL,s.pc,none⟩ (.int .i64 B.size)).drew.heap[G]? = _ at sB
  have hG6 : G < (w5.setCell ⟨v.FL,s.pc,none⟩ (.int .i64 B.size)).drew.heap.size:=block_lt_of_cell s0
  go_wp2_with fail
  generalize (w5.setCell ⟨v.FL,s.pc,none⟩ (.int .i64 B.size)).drew = w6 at *
  have HFin:=hid (show entS s c tk P R = { (takeS s tk) with fl:=(fun i => if i = s.pc then (B.size : Int) else (takeS s tk).fl i),op:=(takeS s tk).op ++ [⟨P,R,B,c,s.pc⟩] } by rw [← HBq.out]; rfl)
  obtain ⟨s6,hs6⟩ : ∃ s6,({ takeS s tk with fl:=fun i => if i = s.pc then (B.size : Int) else (takeS s tk).fl i } : Cs) = s6:=⟨_,rfl⟩
  rw [hs6] at HC6
  have hop6 : s6.op = s.op:=by rw [← hs6]; rfl
  have hpc6 : s6.pc = s.pc:=by rw [← hs6]; rfl
  have hl6 : s6.op.length = k + 1:=by rw [hop6]; exact hw.len
  obtain ⟨OB,oc,h14,hrow,hOB⟩ : ∃ OB oc,w6.cell? ⟨v.C,14,none⟩ = some (.slice (some ⟨OB,0,none⟩) s6.op.length oc) ∧ w6.ownsRow 0 116 5 (.slice (some ⟨OB,0,none⟩) s6.op.length oc) s6.op.length (opV s6.op) ∧ (OB = v.O0 ∨ w1.heap.size ≤ OB):=by
   obtain ⟨OB,oc,u1,u2,u3⟩:=HC6.out.ck
   exact ⟨OB,oc,by rw [cell_at u1]; rfl,u2,u3⟩
  have h14':=h14
  rw [hl6] at h14
  have c16:=HC6.out.pc
  rw [hpc6] at c16
  have hne:=CI.OB_ne hA hOB
  have hz6:=HC6.out.kept.size
  have hCl6 : v.C < w6.heap.size:=Nat.lt_of_lt_of_le hA.c hz6
  have HEND:=hid (show ∀ (g cap : Nat) (W w7 : World),Below w6.heap.size w6 W → W.heap.size ≤ w7.heap.size → w7.ownsRow 0 116 5 (.slice (some ⟨g,0,none⟩) (k + 1 + 1) cap) (k + 1 + 1) (opV (s6.op ++ [⟨P,R,B,c,s.pc⟩])) → Kept (fun k => k = OB) W w7 → (g = OB ∨ g = W.heap.size) → w7.cell? ⟨v.C,14,none⟩ = some (.slice (some ⟨OB,0,none⟩) (k + 1) oc) ∧ w7.frozen? ⟨v.C,14,none⟩ = false ∧ CI v w1 (w7.setCell ⟨v.C,14,none⟩ (.slice (some ⟨g,0,none⟩) (k + 1 + 1) cap)) (entS s c tk P R) from by
   intro g cap W w7 hb hsz ho hk hg
   have hCW:=HC6.out.later hA hb
   have hc:=later_cell hb h14'
   rw [← hl6] at ho
   have hpush:=CI.push hA hCW hc hk (by
    rcases hg with e | e
    ·exact .inl e
    ·right; have:=hb.size; omega) ho
   refine ⟨?_,?_,?_⟩
   ·rw [← hl6]; exact hk.cell hc (fun e => hne.1 e.symm)
   ·rw [frozen_of_block (hk.block v.C (Nat.lt_of_lt_of_le hCl6 hb.size) (fun e => hne.1 e.symm))]; exact hCW.free 14
   ·rw [HFin.out,← hl6]
    rw [← hs6] at hpush ⊢
    exact hpush)
  clear HFin HC HC3 HC4 HB3 HB4 HCq HC6 h14' hst hT hd hd1 hd2 hsub2 hPs hbs
  refine wp_region_held_drew (S:=emS v.C G w.heap.size P R c s.pc) (by kernel_rfl) ⟨s0,s1,sx,c16⟩ (fun hHeld => ?_)
  refine tkH (i:=0) (v:=?_) rfl ?_ ?_
  rotate_left
  ·intro w h;(try dsimp only at h);go_simp;try with_reducible rfl
  try simp only [Act.put,sIB]
  refine tkH (i:=1) (v:=?_) rfl ?_ ?_
  rotate_left
  ·intro w h;(try dsimp only at h);go_simp;try with_reducible rfl
  try simp only [Act.put]
  refine tkH (i:=2) (v:=?_) rfl ?_ ?_
  rotate_left
  ·intro w h;(try dsimp only at h);go_simp;try with_reducible rfl
  try simp only [Act.put]
  refine tkH (i:=3) (v:=?_) rfl ?_ ?_
  rotate_left
  ·intro w h;(try dsimp only at h);go_simp;try with_reducible rfl
  try simp only [Act.put]
  refine tkH (i:=5) (v:=?_) rfl ?_ ?_
  rotate_left
  ·intro w h;(try dsimp only at h);go_simp;try with_reducible rfl
  try simp only [Act.put]
  refine tkH (i:=6) (v:=?_) rfl ?_ ?_
  rotate_left
  ·intro w h;(try dsimp only at h);go_simp;try with_reducible rfl
  try simp only [Act.put]
  refine tkH (i:=7) (v:=?_) rfl ?_ ?_
  rotate_left
  ·intro w h;(try dsimp only at h);go_simp;try with_reducible rfl
  try simp only [Act.put]
  refine tkH (i:=8) (v:=?_) rfl ?_ ?_
  rotate_left
  ·intro w h;(try dsimp only at h);go_simp;try with_reducible rfl
  try simp only [Act.put]
  refine tkH (i:=9) (v:=?_) rfl ?_ ?_
  rotate_left
  ·intro w h;(try dsimp only at h);go_simp;try with_reducible rfl
  try simp only [Act.put]
  refine tkH (i:=10) (v:=?_) rfl ?_ ?_
  rotate_left
  ·intro w h;(try dsimp only at h);go_simp;try with_reducible rfl
  try simp only [Act.put]
  refine tkH (i:=11) (v:=?_) rfl ?_ ?_
  rotate_left
  ·intro w h;(try dsimp only at h);go_simp;try with_reducible rfl
  try simp only [Act.put]
  refine tkH (i:=12) (v:=?_) rfl ?_ ?_
  rotate_left
  ·intro w h;(try dsimp only at h);go_simp;try with_reducible rfl
  try simp only [Act.put]
  refine tkH (i:=13) (v:=?_) rfl ?_ ?_
  rotate_left
  ·intro w h;(try dsimp only at h);go_simp;try with_reducible rfl
  try simp only [Act.put]
  have hrow6:=hrow
  rw [hl6] at hrow6
  have BWA : Below w6.heap.size w6 (w6.alloc (.cells #[.string P,.string R,.string B,.int .u8 c,.int .i64 s.pc] 116)).drew:=(below_new w6 (.cells #[.string P,.string R,.string B,.int .u8 c,.int .i64 s.pc] 116)).drew
  have hrowA:=own_kept (S:=fun _ => False) hrow6 (kept_of BWA) (fun e => e)
  have hblk : (w6.alloc (.cells #[.string P,.string R,.string B,.int .u8 c,.int .i64 s.pc] 116)).drew.heap[w6.heap.size]? = some (.cells #[.string P,.string R,.string B,.int .u8 c,.int .i64 s.pc] 116):=heap_alloc_new w6 _
  have hSA:=emS.later ⟨s0,s1,sx,c16⟩ BWA
  have hGO : G ≠ OB:=own_ne sB hrow6 (by decide)
  have hXO : w.heap.size ≠ OB:=by
   intro e
   obtain ⟨o0,ho0⟩ : ∃ o0,s6.op[0]? = some o0:=⟨_,List.getElem?_eq_getElem (by omega)⟩
   have h0:=World.ownsRow.cellAt hrow 0 (by omega)
   have h1:=(opV_get s6.op 0 o0 ho0).1
   simp only [Nat.zero_mul] at h1
   rw [h1,← e,sx] at h0
   simp at h0
  have hGC : G ≠ v.C:=by omega
  have hXC : w.heap.size ≠ v.C:=by omega
  clear hrow hrow6
  refine wpAnyH_ready (rs:=[4,14]) (by kernel_rfl) (by simp) ?_
  refine AllReadyH.cons rfl (fun K hK => ?_) (AllReadyH.cons rfl (fun K hK => ?_) AllReadyH.nil)
  ·go_simp
   refine hK.out _ _ hHeld (fun hHeld2 => ?_)
   clear hK K hHeld2
   refine wpAnyH_ready (rs:=[14]) (by kernel_rfl) (by simp) ?_
   refine AllReadyH.cons rfl (fun K hK => ?_) AllReadyH.nil
   go_simp
   refine hK.out _ _ hSA (fun hHeld3 => ?_)
   clear hK K
   refine wpAnyH_ready (rs:=[15]) (by kernel_rfl) (by simp) ?_
   refine AllReadyH.cons rfl (fun K hK => ?_) AllReadyH.nil
   refine step_opn _ rfl (.tmp 55) (.tmp 65) rfl hl6 rfl hrowA ⟨P,R,B,c,s.pc⟩ rfl hblk (by omega) ?_
   intro g cap w7 ho hk7 hg7
   obtain ⟨e14,f14,hfin⟩:=HEND.out g cap _ w7 BWA hk7.size ho hk7 hg7
   have hS7:=emS.kept hSA hk7 (fun e => hne.1 e.symm) hGO hXO
   have HFIN:=hid hfin
   clear ho hk7 hg7 hfin HEND
   refine hK.out _ _ hS7 (fun hHeld4 => ?_)
   clear hK K
   refine tkH (i:=16) (v:=?_) rfl ?_ ?_
   rotate_left
   ·intro w h;(try dsimp only at h);go_simp;try with_reducible rfl
   try simp only [Act.put,sIB]
   refine tkH (i:=17) (v:=?_) rfl ?_ ?_
   rotate_left
   ·intro w h;(try dsimp only at h);go_simp;try with_reducible rfl
   try simp only [Act.put]
   refine wpAnyH_ready (rs:=[18]) (by kernel_rfl) (by simp) ?_
   refine AllReadyH.cons rfl (fun K hK => ?_) AllReadyH.nil
   go_simp
   refine hK.out _ _ (hS7.put hGC hXC) (fun hHeld5 => ?_)
   clear hK K
   refine wpAnyH_done (by kernel_rfl) ?_ _
   clear hSA hrowA hblk BWA s0 s1 sx c16 h14 hHeld hHeld3 hHeld4 hHeld5 hS7 e14 f14
   go_wp2_with fail
   go_end0
   exact ⟨rfl,HFIN.out⟩
  ·go_simp
   refine hK.out _ _ hSA (fun hHeld3 => ?_)
   clear hK K
   have hA14:=later_cell BWA h14
   refine wpAnyH_ready (rs:=[4]) (by kernel_rfl) (by simp) ?_
   refine AllReadyH.cons rfl (fun K hK => ?_) AllReadyH.nil
   go_simp
   refine hK.out _ _ hSA (fun hHeld2 => ?_)
   clear hK K hHeld2 hA14
   refine wpAnyH_ready (rs:=[15]) (by kernel_rfl) (by simp) ?_
   refine AllReadyH.cons rfl (fun K hK => ?_) AllReadyH.nil
   refine step_opn _ rfl (.tmp 55) (.tmp 65) rfl hl6 rfl hrowA ⟨P,R,B,c,s.pc⟩ rfl hblk (by omega) ?_
   intro g cap w7 ho hk7 hg7
   obtain ⟨e14,f14,hfin⟩:=HEND.out g cap _ w7 BWA hk7.size ho hk7 hg7
   have hS7:=emS.kept hSA hk7 (fun e => hne.1 e.symm) hGO hXO
   have HFIN:=hid hfin
   clear ho hk7 hg7 hfin HEND
   refine hK.out _ _ hS7 (fun hHeld4 => ?_)
   clear hK K
   refine tkH (i:=16) (v:=?_) rfl ?_ ?_
   rotate_left
   ·intro w h;(try dsimp only at h);go_simp;try with_reducible rfl
   try simp only [Act.put,sIB]
   refine tkH (i:=17) (v:=?_) rfl ?_ ?_
   rotate_left
   ·intro w h;(try dsimp only at h);go_simp;try with_reducible rfl
   try simp only [Act.put]
   refine wpAnyH_ready (rs:=[18]) (by kernel_rfl) (by simp) ?_
   refine AllReadyH.cons rfl (fun K hK => ?_) AllReadyH.nil
   go_simp
   refine hK.out _ _ (hS7.put hGC hXC) (fun hHeld5 => ?_)
   clear hK K
   refine wpAnyH_done (by kernel_rfl) ?_ _
   clear hSA hrowA hblk BWA s0 s1 sx c16 h14 hHeld hHeld3 hHeld4 hHeld5 hS7 e14 f14
   go_wp2_with fail
   go_end0
   exact ⟨rfl,HFIN.out⟩
end
end Go.Proofs.YtepcmfegggdjfaaGreatDoor

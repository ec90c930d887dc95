/-
  Texts Wf Wq.
-/
import Derived.Test.YtmgjhfookhaajaaGreatDoorQ00
import Derived.Test.YtmgjhfookhaajaaGreatDoorQ01
import Derived.Test.YtmgjhfookhaajaaGreatDoorQ14
import Derived.Test.YtmgjhfookhaajaaGreatDoorQ17
set_option linter.unusedVariables false
set_option maxRecDepth 100000
set_option maxHeartbeats 16000000
namespace Go.Proofs.YtmgjhfookhaajaaGreatDoor
open Go.RowKit
theorem nil_text (a : Addr) (w : World) : (nilAhead 353 122 (.pointer (some a)) "flagon/module.text").run Tryz.prog w = .ok (some false) w:=rfl
abbrev SLv:=Option Addr × Nat × Nat
abbrev InM:=Int × Int × SLv × List Int
def W143 (w : World) (R : Nat) (ty : Int) (lo : ByteArray) (ca : Option Addr) (cn cc : Nat) : World :=
 ((w.alloc (.cells #[cW R] 136)).alloc (.cells #[.int .i64 ty,.string lo,.slice ca cn cc] 71)).alloc (.cells #[.int .i64 0,.string ⟨#[]⟩,.slice none 0 0] 71)
theorem w143_facts (w : World) (R : Nat) (ty : Int) (lo : ByteArray) (ca : Option Addr) (cn cc : Nat) : Below w.heap.size w (W143 w R ty lo ca cn cc) ∧ (W143 w R ty lo ca cn cc).heap.size = w.heap.size + 1 + 1 + 1 ∧
  (W143 w R ty lo ca cn cc).cell? ⟨w.heap.size,0,none⟩ = some (cW R) ∧ (W143 w R ty lo ca cn cc).heap[w.heap.size + 1]? = some (.cells #[.int .i64 ty,.string lo,.slice ca cn cc] 71) ∧
  (W143 w R ty lo ca cn cc).heap[w.heap.size + 1 + 1]? = some (.cells #[.int .i64 0,.string ⟨#[]⟩,.slice none 0 0] 71):=by
 unfold W143
 refine ⟨(((Below.refl _ w).alloc (Nat.le_refl _) _).alloc (by simp) _).alloc (by simp <;> omega) _,by simp,by simp [go_sem],?_,?_⟩
 ·rw [(below_new ((w.alloc (.cells #[cW R] 136)).alloc (.cells #[.int .i64 ty,.string lo,.slice ca cn cc] 71)) _).block (w.heap.size + 1) (by simp)]
  have:=(MapKept.heap_alloc (w.alloc (.cells #[cW R] 136)) (.cells #[.int .i64 ty,.string lo,.slice ca cn cc] 71)).1
  simpa using this
 ·have:=(MapKept.heap_alloc ((w.alloc (.cells #[cW R] 136)).alloc (.cells #[.int .i64 ty,.string lo,.slice ca cn cc] 71)) (.cells #[.int .i64 0,.string ⟨#[]⟩,.slice none 0 0] 71)).1
  simpa using this
section
variable (R g cap : Nat) (bs : List Int) (t : Nat) (left : Int) (lo : ByteArray) (ca : Option Addr) (cn cc : Nat) (sa : Option Addr) (sn sc : Nat) (sg : List Sg) (w : World)
theorem fun143_30 (ty : Int) (h : Wr w R g cap bs) (h0 : -9223372036854775808 ≤ ty) (h1 : ty < 9223372036854775808) (hbad : ty < 0 ∨ (sn : Int) ≤ ty) (hs : sn ≤ 100000) :
  Calls Tryz.prog 89 #[cW R,.agg #[.int .i64 ty,.string lo,.slice ca cn cc],.slice sa sn sc,.int .i64 left] w (Throws R g 30 w):=by
 obtain ⟨B0,z0,x0,x1,x2⟩:=w143_facts w R ty lo ca cn cc
 have HW : ((w.alloc (.cells #[cW R] 136)).alloc (.cells #[.int .i64 ty,.string lo,.slice ca cn cc] 71)).alloc (.cells #[.int .i64 0,.string ⟨#[]⟩,.slice none 0 0] 71) = W143 w R ty lo ca cn cc:=rfl
 generalize W143 w R ty lo ca cn cc = W1 at *
 have HX:=hid (index136_no R g cap bs ty sn W1 (h.later B0) h0 h1 hbad (by omega) (by omega))
 have BW:=hid B0
 obtain ⟨a0,a1,a2,_,_,_⟩:=three_cells x1
 clear h B0
 go_enter Tryz.func89,Tryz.ntmps89
 go_wp2_with fail
 refine HX.out.mono ?_
 rintro e w2 ⟨⟨q,rfl⟩,hk⟩
 exact ⟨rfl,⟨q,rfl⟩,(kept_of BW.out).trans hk⟩
theorem fun143_t (h : Wr w R g cap bs) (hb : bs.length + 10000000 ≤ 1099511627776) (hs : sn ≤ 100000) (ht : t < sn) (hsg : SigsAt w sa sn sg) (hne : ∀ b off c,sa = some ⟨b,off,c⟩ → b ≠ R ∧ b ≠ g) (hp8 : ∀ p r,sg[t]? = some (p,r) → p.size ≤ 8) (x : Int)
  (htx : ∀ W g1 cap1 p r,sg[t]? = some (p,r) → p.size ≤ 8 → Wr W R g1 cap1 (bs ++ uvar t) → Calls Tryz.prog 187 #[.pointer (some ⟨R,0,none⟩),.string lo,.int .i64 (64 - p.size),.func (.func 109) #[] #[]] W (Throws R g1 x W)) :
  Calls Tryz.prog 89 #[cW R,.agg #[.int .i64 t,.string lo,.slice ca cn cc],.slice sa sn sc,.int .i64 left] w (Throws R g x w):=by
 obtain ⟨B0,z0,x0,x1,x2⟩:=w143_facts w R t lo ca cn cc
 have HW : ((w.alloc (.cells #[cW R] 136)).alloc (.cells #[.int .i64 t,.string lo,.slice ca cn cc] 71)).alloc (.cells #[.int .i64 0,.string ⟨#[]⟩,.slice none 0 0] 71) = W143 w R t lo ca cn cc:=rfl
 have hRl:=h.lt
 have hgl:=h.g_lt
 have hlen:=hsg.1
 obtain ⟨p,r,hp⟩ : ∃ p r,sg[t]? = some (p,r):=⟨_,_,List.getElem?_eq_getElem (by omega)⟩
 have hps:=hp8 p r hp
 obtain ⟨sb,so,rfl,hsc⟩ : ∃ b off,sa = some ⟨b,off,none⟩ ∧ ∀ j x,sg[j]? = some x → w.cell? ⟨b,off + j * 2,none⟩ = some (.string x.1) ∧ w.cell? ⟨b,off + j * 2 + 1,none⟩ = some (.string x.2):=by
  rcases hsg.2.2 with h0 | h
  ·omega
  ·exact h
 have hsp:=(hsc t (p,r) hp).1
 simp only at hsp
 have hsbn:=hne _ _ _ rfl
 have hsbl:=block_lt_of_cell hsp
 have u1:=uvar_len (t : Int)
 generalize W143 w R t lo ca cn cc = W1 at *
 have HX:=hid (index136_yes R g cap bs t sn W1 (h.later B0) (by omega) (by omega) (by omega) (by omega))
 have s0:=(B0.cell (p:=⟨sb,so + t * 2,none⟩) (by exact hsbl)).trans hsp
 have BW:=hid B0
 obtain ⟨a0,a1,a2,_,_,_⟩:=three_cells x1
 have hsub:=i64_in (64 - (p.size : Int)) (by omega) (by omega)
 have hmt:=meth_text
 have hct:=enter323
 have hnt:=nil_text
 clear h B0 hsc hsg
 go_enter Tryz.func89,Tryz.ntmps89
 go_wp2_with fail
 refine HX.out.mono ?_
 rintro e w2 ⟨rfl,g1,cap1,hw2,hs2⟩
 have y0:=hs2.cell x0 (by omega) (by omega)
 have y1:=(hs2.block (b:=w.heap.size + 1) (by omega) (by omega) (by omega)).trans x1
 have y2:=(hs2.block (b:=w.heap.size + 1 + 1) (by omega) (by omega) (by omega)).trans x2
 have ys:=hs2.cell s0 hsbn.1 hsbn.2
 have n0 : w.heap.size ≠ g1:=hs2.ne (by omega) (by omega)
 have n1 : w.heap.size + 1 ≠ g1:=hs2.ne (by omega) (by omega)
 have n2 : w.heap.size + 1 + 1 ≠ g1:=hs2.ne (by omega) (by omega)
 have ns : sb ≠ g1:=hs2.ne (by omega) hsbn.2
 obtain ⟨b0,b1,b2,_,_,_⟩:=three_cells y1
 have S2:=hid ((Stp.of_below BW.out).trans hs2)
 have z2:=hs2.size
 have W2:=hid hw2
 clear hw2 hs2 HX x0 x1 x2 a0 a1 a2 s0 HW
 go_wp2_with fail
 have HTX:=hid (htx w2.drew g1 cap1 p r hp hps (W2.out.later (Below.refl _ _).drew))
 clear htx
 refine wp_region_held_drew (S:=(fun W => W.cell? ⟨w.heap.size,0,none⟩ = some (cW R) ∧ W.cell? ⟨w.heap.size + 1,1,none⟩ = some (.string lo) ∧ W.cell? ⟨sb,so + t * 2,none⟩ = some (.string p))) (by kernel_rfl) ⟨y0,b1,ys⟩ (fun hHeld => ?_)
 refine tkH (i:=0) (v:=?_) rfl ?_ ?_
 rotate_left
 ·intro w h;(try dsimp only at h);go_simp;try with_reducible rfl
 try simp only [Act.put,sIB]
 refine tkH (i:=1) (v:=?_) rfl ?_ ?_
 rotate_left
 ·intro w h;(try dsimp only at h);go_simp;try with_reducible rfl
 try simp only [Act.put]
 refine tkH (i:=2) (v:=?_) rfl ?_ ?_
 rotate_left
 ·intro w h;(try dsimp only at h);go_simp;try with_reducible rfl
 try simp only [Act.put]
 refine tkH (i:=3) (v:=?_) rfl ?_ ?_
 rotate_left
 ·intro w h;(try dsimp only at h);go_simp;try with_reducible rfl
 try simp only [Act.put]
 refine tkH (i:=4) (v:=?_) rfl ?_ ?_
 rotate_left
 ·intro w h;(try dsimp only at h);go_simp;try with_reducible rfl
 try simp only [Act.put]
 refine tkH (i:=5) (v:=?_) rfl ?_ ?_
 rotate_left
 ·intro w h;(try dsimp only at h);go_simp;try with_reducible rfl
 try simp only [Act.put]
 refine tkH (i:=6) (v:=?_) rfl ?_ ?_
 rotate_left
 ·intro w h;(try dsimp only at h);go_simp;try with_reducible rfl
 try simp only [Act.put]
 refine tkH (i:=7) (v:=?_) rfl ?_ ?_
 rotate_left
 ·intro w h;(try dsimp only at h);go_simp;try with_reducible rfl
 try simp only [Act.put]
 refine tkH (i:=8) (v:=?_) rfl ?_ ?_
 rotate_left
 ·intro w h;(try dsimp only at h);go_simp;try with_reducible rfl
 try simp only [Act.put]
 refine tkH (i:=9) (v:=?_) rfl ?_ ?_
 rotate_left
 ·intro w h;(try dsimp only at h);go_simp;try with_reducible rfl
 try simp only [Act.put]
 refine tkH (i:=10) (v:=?_) rfl ?_ ?_
 rotate_left
 ·intro w h;(try dsimp only at h);go_simp;try with_reducible rfl
 try simp only [Act.put]
 refine wpAnyH_ready (rs:=[11]) (by kernel_rfl) (by simp) ?_
 refine AllReadyH.cons rfl (fun K hK => ?_) AllReadyH.nil
 go_simp
 refine hK.out _ _ hHeld (fun hHeld2 => ?_)
 clear hK K
 refine tkH (i:=12) (v:=?_) rfl ?_ ?_
 rotate_left
 ·intro w h;(try dsimp only at h);go_simp;try with_reducible rfl
 try simp only [Act.put,sIB]
 refine wpAnyH_ready (rs:=[13]) (by kernel_rfl) (by simp) ?_
 refine AllReadyH.cons rfl (fun K hK => ?_) AllReadyH.nil
 go_simp
 refine HTX.out.mono ?_
 rintro e w3 ⟨⟨q,rfl⟩,hk⟩
 exact ⟨rfl,⟨q,rfl⟩,(S2.out.trans (Stp.of_below (Below.refl _ _).drew)).throw hk⟩
theorem fun143_c (h : Wr w R g cap bs) (hb : bs.length + 10000000 ≤ 1099511627776) (hs : sn ≤ 100000) (ht : t < sn) (hsg : SigsAt w sa sn sg) (hne : ∀ b off c,sa = some ⟨b,off,c⟩ → b ≠ R ∧ b ≠ g) (hp8 : ∀ p r,sg[t]? = some (p,r) → p.size ≤ 8) (hlo : ∀ p r,sg[t]? = some (p,r) → lo.size + p.size ≤ 64) (hlt : lett lo 64 = true) (x : Int)
  (htl : ∀ W g2 cap2,Wr W R g2 cap2 (bs ++ uvar t ++ encT lo) → Stp R g g2 w W → W.cell? ⟨w.heap.size,0,none⟩ = some (cW R) → w.heap.size ≠ g2 → Calls Tryz.prog 119 #[cW R,.slice ca cn cc,.int .i64 (min 2048 left),.func (.func 120) #[] #[.pointer (some ⟨w.heap.size,0,none⟩)]] W (Throws R g2 x W)) :
  Calls Tryz.prog 89 #[cW R,.agg #[.int .i64 t,.string lo,.slice ca cn cc],.slice sa sn sc,.int .i64 left] w (Throws R g x w):=by
 have HTL:=hid htl
 clear htl
 obtain ⟨B0,z0,x0,x1,x2⟩:=w143_facts w R t lo ca cn cc
 have HW : ((w.alloc (.cells #[cW R] 136)).alloc (.cells #[.int .i64 t,.string lo,.slice ca cn cc] 71)).alloc (.cells #[.int .i64 0,.string ⟨#[]⟩,.slice none 0 0] 71) = W143 w R t lo ca cn cc:=rfl
 have hRl:=h.lt
 have hgl:=h.g_lt
 have hlen:=hsg.1
 obtain ⟨p,r,hp⟩ : ∃ p r,sg[t]? = some (p,r):=⟨_,_,List.getElem?_eq_getElem (by omega)⟩
 have hps:=hp8 p r hp
 have hlo1:=hlo p r hp
 obtain ⟨sb,so,rfl,hsc⟩ : ∃ b off,sa = some ⟨b,off,none⟩ ∧ ∀ j x,sg[j]? = some x → w.cell? ⟨b,off + j * 2,none⟩ = some (.string x.1) ∧ w.cell? ⟨b,off + j * 2 + 1,none⟩ = some (.string x.2):=by
  rcases hsg.2.2 with h0 | h
  ·omega
  ·exact h
 have hsp:=(hsc t (p,r) hp).1
 simp only at hsp
 have hsbn:=hne _ _ _ rfl
 have hsbl:=block_lt_of_cell hsp
 have u1:=uvar_len (t : Int)
 generalize W143 w R t lo ca cn cc = W1 at *
 have HX:=hid (index136_yes R g cap bs t sn W1 (h.later B0) (by omega) (by omega) (by omega) (by omega))
 have s0:=(B0.cell (p:=⟨sb,so + t * 2,none⟩) (by exact hsbl)).trans hsp
 have BW:=hid B0
 obtain ⟨a0,a1,a2,_,_,_⟩:=three_cells x1
 have hsub:=i64_in (64 - (p.size : Int)) (by omega) (by omega)
 have hmt:=meth_text
 have hct:=enter323
 have hnt:=nil_text
 clear h B0 hsc hsg
 go_enter Tryz.func89,Tryz.ntmps89
 go_wp2_with fail
 refine HX.out.mono ?_
 rintro e w2 ⟨rfl,g1,cap1,hw2,hs2⟩
 have y0:=hs2.cell x0 (by omega) (by omega)
 have y1:=(hs2.block (b:=w.heap.size + 1) (by omega) (by omega) (by omega)).trans x1
 have y2:=(hs2.block (b:=w.heap.size + 1 + 1) (by omega) (by omega) (by omega)).trans x2
 have ys:=hs2.cell s0 hsbn.1 hsbn.2
 have n0 : w.heap.size ≠ g1:=hs2.ne (by omega) (by omega)
 have n1 : w.heap.size + 1 ≠ g1:=hs2.ne (by omega) (by omega)
 have n2 : w.heap.size + 1 + 1 ≠ g1:=hs2.ne (by omega) (by omega)
 have ns : sb ≠ g1:=hs2.ne (by omega) hsbn.2
 obtain ⟨b0,b1,b2,_,_,_⟩:=three_cells y1
 have S2:=hid ((Stp.of_below BW.out).trans hs2)
 have z2:=hs2.size
 have W2:=hid hw2
 clear hw2 hs2 HX x0 x1 x2 a0 a1 a2 s0 HW
 go_wp2_with fail
 have HTX:=hid (text323_yes R g1 cap1 (bs ++ uvar t) lo (64 - p.size) 109 #[] w2.drew (W2.out.later (Below.refl _ _).drew) (by omega) (by omega) (by simp; omega) (fun _ _ => rfl) (letters183_yes lo _ _ (by omega) (by rw [lett_short lo 256 64 (by omega) (by omega)]; exact hlt)))
 refine wp_region_held_drew (S:=(fun W => W.cell? ⟨w.heap.size,0,none⟩ = some (cW R) ∧ W.cell? ⟨w.heap.size + 1,1,none⟩ = some (.string lo) ∧ W.cell? ⟨sb,so + t * 2,none⟩ = some (.string p))) (by kernel_rfl) ⟨y0,b1,ys⟩ (fun hHeld => ?_)
 refine tkH (i:=0) (v:=?_) rfl ?_ ?_
 rotate_left
 ·intro w h;(try dsimp only at h);go_simp;try with_reducible rfl
 try simp only [Act.put,sIB]
 refine tkH (i:=1) (v:=?_) rfl ?_ ?_
 rotate_left
 ·intro w h;(try dsimp only at h);go_simp;try with_reducible rfl
 try simp only [Act.put]
 refine tkH (i:=2) (v:=?_) rfl ?_ ?_
 rotate_left
 ·intro w h;(try dsimp only at h);go_simp;try with_reducible rfl
 try simp only [Act.put]
 refine tkH (i:=3) (v:=?_) rfl ?_ ?_
 rotate_left
 ·intro w h;(try dsimp only at h);go_simp;try with_reducible rfl
 try simp only [Act.put]
 refine tkH (i:=4) (v:=?_) rfl ?_ ?_
 rotate_left
 ·intro w h;(try dsimp only at h);go_simp;try with_reducible rfl
 try simp only [Act.put]
 refine tkH (i:=5) (v:=?_) rfl ?_ ?_
 rotate_left
 ·intro w h;(try dsimp only at h);go_simp;try with_reducible rfl
 try simp only [Act.put]
 refine tkH (i:=6) (v:=?_) rfl ?_ ?_
 rotate_left
 ·intro w h;(try dsimp only at h);go_simp;try with_reducible rfl
 try simp only [Act.put]
 refine tkH (i:=7) (v:=?_) rfl ?_ ?_
 rotate_left
 ·intro w h;(try dsimp only at h);go_simp;try with_reducible rfl
 try simp only [Act.put]
 refine tkH (i:=8) (v:=?_) rfl ?_ ?_
 rotate_left
 ·intro w h;(try dsimp only at h);go_simp;try with_reducible rfl
 try simp only [Act.put]
 refine tkH (i:=9) (v:=?_) rfl ?_ ?_
 rotate_left
 ·intro w h;(try dsimp only at h);go_simp;try with_reducible rfl
 try simp only [Act.put]
 refine tkH (i:=10) (v:=?_) rfl ?_ ?_
 rotate_left
 ·intro w h;(try dsimp only at h);go_simp;try with_reducible rfl
 try simp only [Act.put]
 refine wpAnyH_ready (rs:=[11]) (by kernel_rfl) (by simp) ?_
 refine AllReadyH.cons rfl (fun K hK => ?_) AllReadyH.nil
 go_simp
 refine hK.out _ _ hHeld (fun hHeld2 => ?_)
 clear hK K
 refine tkH (i:=12) (v:=?_) rfl ?_ ?_
 rotate_left
 ·intro w h;(try dsimp only at h);go_simp;try with_reducible rfl
 try simp only [Act.put,sIB]
 refine wpAnyH_ready (rs:=[13]) (by kernel_rfl) (by simp) ?_
 refine AllReadyH.cons rfl (fun K hK => ?_) AllReadyH.nil
 go_simp
 refine HTX.out.mono ?_
 rintro e w3 ⟨rfl,g2,cap2,hw3,hs3⟩
 have q0:=hs3.cell (b:=w.heap.size) y0 (by omega) n0
 have q1:=(hs3.block (b:=w.heap.size + 1) (by simp; omega) (by omega) n1).trans y1
 have q2:=(hs3.block (b:=w.heap.size + 1 + 1) (by simp; omega) (by omega) n2).trans y2
 have qs:=hs3.cell (b:=sb) ys hsbn.1 ns
 have m0 : w.heap.size ≠ g2:=hs3.ne (by simp; omega) n0
 have m2 : w.heap.size + 1 + 1 ≠ g2:=hs3.ne (by simp; omega) n2
 obtain ⟨e0,e1,e2,_,_,_⟩:=three_cells q1
 have z3 : w2.heap.size ≤ w3.heap.size:=hs3.size
 have W3:=hid hw3
 have S3:=hid ((S2.out.trans (Stp.of_below (Below.refl _ _).drew)).trans hs3)
 refine hK.out _ _ ⟨q0,e1,qs⟩ (fun hHeld3 => ?_)
 clear hK K hw3 hs3
 refine tkH (i:=14) (v:=?_) rfl ?_ ?_
 rotate_left
 ·intro w h;(try dsimp only at h);go_simp;try with_reducible rfl
 try simp only [Act.put,sIB]
 refine wpAnyH_done (by kernel_rfl) ?_ _
 clear hHeld hHeld2 hHeld3 y0 y1 y2 ys b0 b1 b2
 have HL:=hid (HTL.out w3 g2 cap2 W3.out S3.out q0 m0)
 clear HTL
 go_wp2_with fail
 refine HL.out.mono ?_
 rintro e w4 ⟨⟨q,rfl⟩,hk⟩
 exact ⟨rfl,⟨q,rfl⟩,S3.out.throw hk⟩
theorem fun143_yes (h : Wr w R g cap bs) (hb : bs.length + 10000000 ≤ 1099511627776) (hs : sn ≤ 100000) (ht : t < sn) (hsg : SigsAt w sa sn sg) (hne : ∀ b off c,sa = some ⟨b,off,c⟩ → b ≠ R ∧ b ≠ g) (hp8 : ∀ p r,sg[t]? = some (p,r) → p.size ≤ 8) (hlo : ∀ p r,sg[t]? = some (p,r) → lo.size + p.size ≤ 64) (hlt : lett lo 64 = true) (E : List Int)
  (htl : ∀ W g2 cap2,Wr W R g2 cap2 (bs ++ uvar t ++ encT lo) → Stp R g g2 w W → W.cell? ⟨w.heap.size,0,none⟩ = some (cW R) → w.heap.size ≠ g2 → Calls Tryz.prog 119 #[cW R,.slice ca cn cc,.int .i64 (min 2048 left),.func (.func 120) #[] #[.pointer (some ⟨w.heap.size,0,none⟩)]] W (fun e w' => ∃ (aa : Option Addr) (ac : Nat),e = .returned (.slice aa cn ac) ∧ ∃ g' cap',Wr w' R g' cap' (bs ++ uvar t ++ encT lo ++ E) ∧ Stp R g2 g' W w')) :
  Calls Tryz.prog 89 #[cW R,.agg #[.int .i64 t,.string lo,.slice ca cn cc],.slice sa sn sc,.int .i64 left] w (fun e w' => ∃ (aa : Option Addr) (ac : Nat),e = .returned (.agg #[.int .i64 t,.string lo,.slice aa cn ac]) ∧ ∃ g' cap',Wr w' R g' cap' (bs ++ uvar t ++ encT lo ++ E) ∧ Stp R g g' w w'):=by
 have HTL:=hid htl
 clear htl
 obtain ⟨B0,z0,x0,x1,x2⟩:=w143_facts w R t lo ca cn cc
 have HW : ((w.alloc (.cells #[cW R] 136)).alloc (.cells #[.int .i64 t,.string lo,.slice ca cn cc] 71)).alloc (.cells #[.int .i64 0,.string ⟨#[]⟩,.slice none 0 0] 71) = W143 w R t lo ca cn cc:=rfl
 have hRl:=h.lt
 have hgl:=h.g_lt
 have hlen:=hsg.1
 obtain ⟨p,r,hp⟩ : ∃ p r,sg[t]? = some (p,r):=⟨_,_,List.getElem?_eq_getElem (by omega)⟩
 have hps:=hp8 p r hp
 have hlo1:=hlo p r hp
 obtain ⟨sb,so,rfl,hsc⟩ : ∃ b off,sa = some ⟨b,off,none⟩ ∧ ∀ j x,sg[j]? = some x → w.cell? ⟨b,off + j * 2,none⟩ = some (.string x.1) ∧ w.cell? ⟨b,off + j * 2 + 1,none⟩ = some (.string x.2):=by
  rcases hsg.2.2 with h0 | h
  ·omega
  ·exact h
 have hsp:=(hsc t (p,r) hp).1
 simp only at hsp
 have hsbn:=hne _ _ _ rfl
 have hsbl:=block_lt_of_cell hsp
 have u1:=uvar_len (t : Int)
 generalize W143 w R t lo ca cn cc = W1 at *
 have HX:=hid (index136_yes R g cap bs t sn W1 (h.later B0) (by omega) (by omega) (by omega) (by omega))
 have s0:=(B0.cell (p:=⟨sb,so + t * 2,none⟩) (by exact hsbl)).trans hsp
 have BW:=hid B0
 obtain ⟨a0,a1,a2,_,_,_⟩:=three_cells x1
 have hsub:=i64_in (64 - (p.size : Int)) (by omega) (by omega)
 have hmt:=meth_text
 have hct:=enter323
 have hnt:=nil_text
 clear h B0 hsc hsg
 go_enter Tryz.func89,Tryz.ntmps89
 go_wp2_with fail
 refine HX.out.mono ?_
 rintro e w2 ⟨rfl,g1,cap1,hw2,hs2⟩
 have y0:=hs2.cell x0 (by omega) (by omega)
 have y1:=(hs2.block (b:=w.heap.size + 1) (by omega) (by omega) (by omega)).trans x1
 have y2:=(hs2.block (b:=w.heap.size + 1 + 1) (by omega) (by omega) (by omega)).trans x2
 have ys:=hs2.cell s0 hsbn.1 hsbn.2
 have n0 : w.heap.size ≠ g1:=hs2.ne (by omega) (by omega)
 have n1 : w.heap.size + 1 ≠ g1:=hs2.ne (by omega) (by omega)
 have n2 : w.heap.size + 1 + 1 ≠ g1:=hs2.ne (by omega) (by omega)
 have ns : sb ≠ g1:=hs2.ne (by omega) hsbn.2
 obtain ⟨b0,b1,b2,_,_,_⟩:=three_cells y1
 have S2:=hid ((Stp.of_below BW.out).trans hs2)
 have z2:=hs2.size
 have W2:=hid hw2
 clear hw2 hs2 HX x0 x1 x2 a0 a1 a2 s0 HW
 go_wp2_with fail
 have HTX:=hid (text323_yes R g1 cap1 (bs ++ uvar t) lo (64 - p.size) 109 #[] w2.drew (W2.out.later (Below.refl _ _).drew) (by omega) (by omega) (by simp; omega) (fun _ _ => rfl) (letters183_yes lo _ _ (by omega) (by rw [lett_short lo 256 64 (by omega) (by omega)]; exact hlt)))
 refine wp_region_held_drew (S:=(fun W => W.cell? ⟨w.heap.size,0,none⟩ = some (cW R) ∧ W.cell? ⟨w.heap.size + 1,1,none⟩ = some (.string lo) ∧ W.cell? ⟨sb,so + t * 2,none⟩ = some (.string p))) (by kernel_rfl) ⟨y0,b1,ys⟩ (fun hHeld => ?_)
 refine tkH (i:=0) (v:=?_) rfl ?_ ?_
 rotate_left
 ·intro w h;(try dsimp only at h);go_simp;try with_reducible rfl
 try simp only [Act.put,sIB]
 refine tkH (i:=1) (v:=?_) rfl ?_ ?_
 rotate_left
 ·intro w h;(try dsimp only at h);go_simp;try with_reducible rfl
 try simp only [Act.put]
 refine tkH (i:=2) (v:=?_) rfl ?_ ?_
 rotate_left
 ·intro w h;(try dsimp only at h);go_simp;try with_reducible rfl
 try simp only [Act.put]
 refine tkH (i:=3) (v:=?_) rfl ?_ ?_
 rotate_left
 ·intro w h;(try dsimp only at h);go_simp;try with_reducible rfl
 try simp only [Act.put]
 refine tkH (i:=4) (v:=?_) rfl ?_ ?_
 rotate_left
 ·intro w h;(try dsimp only at h);go_simp;try with_reducible rfl
 try simp only [Act.put]
 refine tkH (i:=5) (v:=?_) rfl ?_ ?_
 rotate_left
 ·intro w h;(try dsimp only at h);go_simp;try with_reducible rfl
 try simp only [Act.put]
 refine tkH (i:=6) (v:=?_) rfl ?_ ?_
 rotate_left
 ·intro w h;(try dsimp only at h);go_simp;try with_reducible rfl
 try simp only [Act.put]
 refine tkH (i:=7) (v:=?_) rfl ?_ ?_
 rotate_left
 ·intro w h;(try dsimp only at h);go_simp;try with_reducible rfl
 try simp only [Act.put]
 refine tkH (i:=8) (v:=?_) rfl ?_ ?_
 rotate_left
 ·intro w h;(try dsimp only at h);go_simp;try with_reducible rfl
 try simp only [Act.put]
 refine tkH (i:=9) (v:=?_) rfl ?_ ?_
 rotate_left
 ·intro w h;(try dsimp only at h);go_simp;try with_reducible rfl
 try simp only [Act.put]
 refine tkH (i:=10) (v:=?_) rfl ?_ ?_
 rotate_left
 ·intro w h;(try dsimp only at h);go_simp;try with_reducible rfl
 try simp only [Act.put]
 refine wpAnyH_ready (rs:=[11]) (by kernel_rfl) (by simp) ?_
 refine AllReadyH.cons rfl (fun K hK => ?_) AllReadyH.nil
 go_simp
 refine hK.out _ _ hHeld (fun hHeld2 => ?_)
 clear hK K
 refine tkH (i:=12) (v:=?_) rfl ?_ ?_
 rotate_left
 ·intro w h;(try dsimp only at h);go_simp;try with_reducible rfl
 try simp only [Act.put,sIB]
 refine wpAnyH_ready (rs:=[13]) (by kernel_rfl) (by simp) ?_
 refine AllReadyH.cons rfl (fun K hK => ?_) AllReadyH.nil
 go_simp
 refine HTX.out.mono ?_
 rintro e w3 ⟨rfl,g2,cap2,hw3,hs3⟩
 have q0:=hs3.cell (b:=w.heap.size) y0 (by omega) n0
 have q1:=(hs3.block (b:=w.heap.size + 1) (by simp; omega) (by omega) n1).trans y1
 have q2:=(hs3.block (b:=w.heap.size + 1 + 1) (by simp; omega) (by omega) n2).trans y2
 have qs:=hs3.cell (b:=sb) ys hsbn.1 ns
 have m0 : w.heap.size ≠ g2:=hs3.ne (by simp; omega) n0
 have m2 : w.heap.size + 1 + 1 ≠ g2:=hs3.ne (by simp; omega) n2
 obtain ⟨e0,e1,e2,_,_,_⟩:=three_cells q1
 have z3 : w2.heap.size ≤ w3.heap.size:=hs3.size
 have W3:=hid hw3
 have S3:=hid ((S2.out.trans (Stp.of_below (Below.refl _ _).drew)).trans hs3)
 refine hK.out _ _ ⟨q0,e1,qs⟩ (fun hHeld3 => ?_)
 clear hK K hw3 hs3
 refine tkH (i:=14) (v:=?_) rfl ?_ ?_
 rotate_left
 ·intro w h;(try dsimp only at h);go_simp;try with_reducible rfl
 try simp only [Act.put,sIB]
 refine wpAnyH_done (by kernel_rfl) ?_ _
 clear hHeld hHeld2 hHeld3 y0 y1 y2 ys b0 b1 b2
 have HL:=hid (HTL.out w3 g2 cap2 W3.out S3.out q0 m0)
 clear HTL
 go_wp2_with fail
 refine HL.out.mono ?_
 rintro e w4 ⟨aa,ac,rfl,g3,cap3,hw4,hs4⟩
 have f2:=(hs4.block (b:=w.heap.size + 1 + 1) (by omega) (by omega) m2).trans q2
 have m3 : w.heap.size + 1 + 1 ≠ g3:=hs4.ne (by omega) m2
 obtain ⟨k0,k1,k2,k3,k4,k5⟩:=three_cells f2
 have W4:=hid hw4
 have S4:=hid (S3.out.trans hs4)
 clear hw4 hs4 HL q0 q1 q2 qs e0 e1 e2
 go_wp2_with fail
 refine bodyPost_ret (v:=.agg #[.int .i64 t,.string lo,.slice aa cn ac]) ?_ rfl ⟨aa,ac,rfl,g3,cap3,?_,?_⟩
 ·rw [results_cell1 rfl]
  go_simp
 ·exact ((W4.out.set (b:=w.heap.size + 1 + 1) (by omega) m3).set (b:=w.heap.size + 1 + 1) (by omega) m3).set (b:=w.heap.size + 1 + 1) (by omega) m3
 ·exact ((S4.out.set (by omega)).set (by omega)).set (by omega)
end
theorem firstE_some {α : Type} (f : List α → α → Int) : ∀ (xs ah : List α),firstE f ah xs ≠ 0 → ∃ k x,xs[k]? = some x ∧ firstE f ah (xs.take k) = 0 ∧ f (ah ++ xs.take k) x ≠ 0 ∧ firstE f ah xs = f (ah ++ xs.take k) x
 | [],ah,h => absurd rfl h
 | x :: r,ah,h => by
  by_cases hx : f ah x = 0
  ·have h' : firstE f ah (x :: r) = firstE f (ah ++ [x]) r:=by simp [firstE,hx]
   rw [h'] at h
   obtain ⟨k,y,h1,h2,h3,h4⟩:=firstE_some f r (ah ++ [x]) h
   refine ⟨k + 1,y,by simpa using h1,?_,?_,?_⟩
   ·simp [firstE,hx,h2]
   ·simpa using h3
   ·rw [h',h4]; simp
  ·exact ⟨0,x,rfl,rfl,by simpa using hx,by simp [firstE,hx]⟩
theorem firstE_all {α : Type} (f : List α → α → Int) : ∀ (xs ah : List α),firstE f ah xs = 0 → ∀ (j : Nat) x,xs[j]? = some x → f (ah ++ xs.take j) x = 0
 | [],ah,_,j,x,hj => by simp at hj
 | y :: r,ah,h,j,x,hj => by
  by_cases hy : f ah y = 0
  ·have h' : firstE f (ah ++ [y]) r = 0:=by simpa [firstE,hy] using h
   cases j with
   | zero => simp at hj; subst hj; simpa using hy
   | succ j =>
    have:=firstE_all f r (ah ++ [y]) h' j x (by simpa using hj)
    simpa using this
  ·exfalso
   have : firstE f ah (y :: r) = f ah y:=by simp [firstE,hy]
   rw [this] at h; exact hy h
theorem flat_congr {α : Type} {f h : α → List Int} : ∀ {xs : List α},(∀ z ∈ xs,f z = h z) → xs.flatMap f = xs.flatMap h
 | [],_ => rfl
 | x :: r,hh => by
  simp only [List.flatMap_cons]
  rw [hh x (List.mem_cons_self ..),flat_congr (fun z hz => hh z (List.mem_cons_of_mem _ hz))]
def chkIn (x : InM) : Int:=chk (tkV x.1) (lgV x.1) x.2.1 x.2.2.2
def encIn (x : InM) : List Int:=encV x.1 x.2.1 x.2.2.2
structure InOk (w : World) (R g : Nat) (x : InM) : Prop where
 r0 : 0 ≤ x.1
 r1 : x.1 ≤ 255
 seg : SegI w x.2.2.1.1 x.2.2.1.2.1 x.2.2.1.2.2 x.2.2.2
 ne : ∀ b off c,nz x.2.2.1.2.1 x.2.2.1.1 = some ⟨b,off,c⟩ → b ≠ R ∧ b ≠ g
theorem SegI.kept' {S : Nat → Prop} {w w' : World} {a : Option Addr} {n cap : Nat} {zs : List Int} (h : SegI w a n cap zs) (hk : Kept S w w') (hS : ∀ b off c,nz n a = some ⟨b,off,c⟩ → ¬ S b) : SegI w' a n cap zs:=by
 refine ⟨h.1,h.2.1,h.2.2.1,h.2.2.2.1,h.2.2.2.2.imp id ?_⟩
 rintro ⟨b,off,ha,hc⟩
 exact ⟨b,off,ha,fun j hj => hk.cell (hc j hj) (hS _ _ _ (nz_of (by omega) ha))⟩
theorem InOk.seg' {w W : World} {R g g1 : Nat} {x : InM} (h : InOk w R g x) (hs : Stp R g g1 w W) : SegI W x.2.2.1.1 x.2.2.1.2.1 x.2.2.1.2.2 x.2.2.2 :=
 h.seg.kept' hs.k (fun b off c hb => by have:=h.ne b off c hb; simp; omega)
theorem KindsOk.kept {S : Nat → Prop} {w w' : World} (h : KindsOk w) (hk : Kept S w w') (h0 : ¬ S 0) : KindsOk w':=fun j v hj => hk.cell (h j v hj) h0
theorem encIn_le {x : InM} (h : chkIn x = 0) : (encIn x).length ≤ 171:=by
 have:=chk_ok h
 have h16 : x.2.2.2.length ≤ 16:=by
  by_cases ht : tkV x.1 = 3
  ·exact (this.2.2.2.1 ht).2.1
  ·rw [this.2.2.2.2 ht]; simp
 have:=encB_len (tkV x.1) x.2.1 x.2.2.2 h16
 simp [encIn,encV]; omega
section
variable (R g cap : Nat) (bs : List Int) (ca : Option Addr) (cn cc : Nat) (most : Int) (A : Nat) (xs : List InM) (w : World)
theorem each_in (h : Wr w R g cap bs) (hb : bs.length + 300000000000 ≤ 1099511627776) (hn : cn ≤ 100000) (hR0 : R ≠ 0) (hg0 : g ≠ 0) (hk : KindsOk w) (hA : w.cell? ⟨A,0,none⟩ = some (cW R)) (hAR : A ≠ R) (hAg : A ≠ g) (hok : ∀ (j : Nat) x,xs[j]? = some x → InOk w R g x) (hl : xs.length = cn)
  (k : Nat) (hall : ∀ (j : Nat) x,xs[j]? = some x → j < k → chkIn x = 0) (j : Nat) (x : InM) (hx : xs[j]? = some x) (hjk : j < k) : EachIn R g w 120 #[.pointer (some ⟨A,0,none⟩)] bs cn xs encIn (fun _ _ => True) j x:=by
 intro ys W g1 cap1 aa ac _ _ hst hwr _ _
 have ho:=hok j x hx
 have hlt:=lt_of_get hx
 have hlen : ((xs.take j).flatMap encIn).length ≤ j * 171:=by
  have:=flat_le encIn 171 (xs.take j) (fun i y hi => by
   have hij : i < j:=by have:=lt_of_get hi; simp at this; omega
   rw [List.getElem?_take_of_lt hij] at hi
   exact encIn_le (hall i y hi (by omega)))
  rw [List.length_take] at this
  have e : min j xs.length = j:=by omega
  rwa [e] at this
 have hu:=uvar_len (cn : Int)
 refine (ask195_yes R g1 cap1 _ x.1 x.2.1 x.2.2.1.1 x.2.2.1.2.1 x.2.2.1.2.2 x.2.2.2 W A aa j ac hwr (by rw [List.length_append,List.length_append]; omega) (hk.kept hst.k (by simp; omega)) ho.r0 ho.r1 (ho.seg' hst) (hst.cell hA hAR hAg) (hall j x hx hjk)).mono ?_
 rintro e w' ⟨he,g',cap',hw',hs'⟩
 exact ⟨(x.1,x.2.1,x.2.2.1),he,trivial,g',cap',hw',hs'⟩
theorem code194_yes (h : Wr w R g cap bs) (hb : bs.length + 300000000000 ≤ 1099511627776) (hn : cn ≤ 100000) (hm : (cn : Int) ≤ most) (hR0 : R ≠ 0) (hg0 : g ≠ 0) (hk : KindsOk w) (hA : w.cell? ⟨A,0,none⟩ = some (cW R)) (hAR : A ≠ R) (hAg : A ≠ g) (hmem : AtIn w ca cn xs) (hne : ∀ b off c,nz cn ca = some ⟨b,off,c⟩ → b ≠ R ∧ b ≠ g) (hok : ∀ (j : Nat) x,xs[j]? = some x → InOk w R g x)
  (hx : firstE (fun _ x => chkIn x) [] xs = 0) :
  Calls Tryz.prog 119 #[cW R,.slice ca cn cc,.int .i64 most,.func (.func 120) #[] #[.pointer (some ⟨A,0,none⟩)]] w (fun e w' => ∃ (aa : Option Addr) (ac : Nat),e = .returned (.slice aa cn ac) ∧ ∃ g' cap',Wr w' R g' cap' (bs ++ (uvar cn ++ xs.flatMap encIn)) ∧ Stp R g g' w w'):=by
 have hall:=firstE_all (fun _ x => chkIn x) xs [] hx
 refine (list194_yes R g cap bs ca cn cc most 120 _ w xs encIn (fun _ _ => True) 171 h hn hm hmem hne (fun _ _ => rfl) (fun j x hj => encIn_le (hall j x hj)) (by omega) (by omega)
  (fun j x hj => each_in R g cap bs cn A xs w h hb hn hR0 hg0 hk hA hAR hAg hok hmem.1 (j + 1) (fun i y hi _ => hall i y hi) j x hj (by omega))).mono ?_
 rintro e w' ⟨aa,ac,ys,he,_,_,_,g',cap',_,hw',hs'⟩
 exact ⟨aa,ac,he,g',cap',by simpa [List.append_assoc] using hw',hs'⟩
theorem code194_no (h : Wr w R g cap bs) (hb : bs.length + 300000000000 ≤ 1099511627776) (hn : cn ≤ 100000) (hm : (cn : Int) ≤ most) (hR0 : R ≠ 0) (hg0 : g ≠ 0) (hk : KindsOk w) (hA : w.cell? ⟨A,0,none⟩ = some (cW R)) (hAR : A ≠ R) (hAg : A ≠ g) (hmem : AtIn w ca cn xs) (hne : ∀ b off c,nz cn ca = some ⟨b,off,c⟩ → b ≠ R ∧ b ≠ g) (hok : ∀ (j : Nat) x,xs[j]? = some x → InOk w R g x)
  (hx : firstE (fun _ x => chkIn x) [] xs ≠ 0) :
  Calls Tryz.prog 119 #[cW R,.slice ca cn cc,.int .i64 most,.func (.func 120) #[] #[.pointer (some ⟨A,0,none⟩)]] w (Throws R g (firstE (fun _ x => chkIn x) [] xs) w):=by
 obtain ⟨k,x,h1,h2,h3,h4⟩:=firstE_some (fun _ x => chkIn x) xs [] hx
 have hall:=firstE_all (fun _ x => chkIn x) (xs.take k) [] h2
 have hall' : ∀ (j : Nat) y,xs[j]? = some y → j < k → chkIn y = 0:=fun j y hj hjk => hall j y (by rw [List.getElem?_take_of_lt hjk]; exact hj)
 rw [h4]
 have hM : ∀ (j : Nat) y,xs[j]? = some y → (encIn y).length ≤ 100000000 ∨ True:=fun _ _ _ => .inr trivial
 refine list194_no R g cap bs ca cn cc most 120 _ w xs (fun y => if chkIn y = 0 then encIn y else []) (fun _ _ => True) 171 h hn hm hmem hne (fun _ _ => rfl) (fun j y hj => ?_) (by omega) (by omega) k x (chkIn x) h1 (fun j y hj hjk => ?_) ?_
 ·split
  ·exact encIn_le (by assumption)
  ·simp
 ·have he:=each_in R g cap bs cn A xs w h hb hn hR0 hg0 hk hA hAR hAg hok hmem.1 k hall' j y hj hjk
  intro ys W g1 cap1 aa ac q1 q2 hst hwr q3 q4
  have hfl : (xs.take j).flatMap (fun y => if chkIn y = 0 then encIn y else []) = (xs.take j).flatMap encIn:=by
   apply flat_congr
   intro z hz
   obtain ⟨i,hi,rfl⟩:=List.getElem_of_mem hz
   have hi' : i < j:=by simp at hi; omega
   have : chkIn ((xs.take j)[i]) = 0:=by
    apply hall' i _ _ (by omega)
    rw [List.getElem_take]
    exact List.getElem?_eq_getElem (by simp at hi; omega)
   rw [if_pos this]
  rw [hfl] at hwr
  refine (he ys W g1 cap1 aa ac q1 q2 hst hwr q3 q4).mono ?_
  rintro e w' ⟨y',e1,e2,g',cap',e3,e4⟩
  refine ⟨y',e1,e2,g',cap',?_,e4⟩
  have hy : (fun y => if chkIn y = 0 then encIn y else []) y = encIn y:=if_pos (hall' j y hj hjk)
  rw [hfl,hy]
  exact e3
 ·intro ys W g1 cap1 aa ac _ _ hst hwr _ _
  have ho:=hok k x h1
  exact ask195_no R g1 cap1 _ x.1 x.2.1 x.2.2.1.1 x.2.2.1.2.1 x.2.2.1.2.2 x.2.2.2 W A aa k ac hwr (hk.kept hst.k (by simp; omega)) ho.r0 ho.r1 (ho.seg' hst) (hst.cell hA hAR hAg) (show chkIn x ≠ 0 from h3)
end
end Go.Proofs.YtmgjhfookhaajaaGreatDoor

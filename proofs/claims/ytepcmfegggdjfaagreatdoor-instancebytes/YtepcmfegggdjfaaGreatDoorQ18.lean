/-
  Texts Wf.
-/
import Derived.Test.YtepcmfegggdjfaaGreatDoorQ00
import Derived.Test.YtepcmfegggdjfaaGreatDoorQ01
import Derived.Test.YtepcmfegggdjfaaGreatDoorQ13
import Derived.Test.YtepcmfegggdjfaaGreatDoorQ17
set_option linter.unusedVariables false
set_option maxRecDepth 100000
set_option maxHeartbeats 16000000
namespace Go.Proofs.YtepcmfegggdjfaaGreatDoor
open Go.RowKit
theorem nil_text (a : Addr) (w : World) : (nilAhead 365 142 (.pointer (some a)) "flagon/module.text").run Tryz.prog w = .ok (some false) w:=rfl
abbrev SLv:=Option Addr × Nat × Nat
abbrev InM:=Int × Int × SLv × List Int
def W143 (w : World) (R : Nat) (ty : Int) (lo : ByteArray) (ca : Option Addr) (cn cc : Nat) : World :=
 ((w.alloc (.cells #[cW R] 163)).alloc (.cells #[.int .i64 ty,.string lo,.slice ca cn cc] 61)).alloc (.cells #[.int .i64 0,.string ⟨#[]⟩,.slice none 0 0] 61)
theorem w143_facts (w : World) (R : Nat) (ty : Int) (lo : ByteArray) (ca : Option Addr) (cn cc : Nat) : Below w.heap.size w (W143 w R ty lo ca cn cc) ∧ (W143 w R ty lo ca cn cc).heap.size = w.heap.size + 1 + 1 + 1 ∧
  (W143 w R ty lo ca cn cc).cell? ⟨w.heap.size,0,none⟩ = some (cW R) ∧ (W143 w R ty lo ca cn cc).heap[w.heap.size + 1]? = some (.cells #[.int .i64 ty,.string lo,.slice ca cn cc] 61) ∧
  (W143 w R ty lo ca cn cc).heap[w.heap.size + 1 + 1]? = some (.cells #[.int .i64 0,.string ⟨#[]⟩,.slice none 0 0] 61):=by
 unfold W143
 refine ⟨(((Below.refl _ w).alloc (Nat.le_refl _) _).alloc (by simp) _).alloc (by simp <;> omega) _,by simp,by simp [go_sem],?_,?_⟩
 ·rw [(below_new ((w.alloc (.cells #[cW R] 163)).alloc (.cells #[.int .i64 ty,.string lo,.slice ca cn cc] 61)) _).block (w.heap.size + 1) (by simp)]
  have:=(MapKept.heap_alloc (w.alloc (.cells #[cW R] 163)) (.cells #[.int .i64 ty,.string lo,.slice ca cn cc] 61)).1
  simpa using this
 ·have:=(MapKept.heap_alloc ((w.alloc (.cells #[cW R] 163)).alloc (.cells #[.int .i64 ty,.string lo,.slice ca cn cc] 61)) (.cells #[.int .i64 0,.string ⟨#[]⟩,.slice none 0 0] 61)).1
  simpa using this
section
variable (R g cap : Nat) (bs : List Int) (t : Nat) (left : Int) (lo : ByteArray) (ca : Option Addr) (cn cc : Nat) (sa : Option Addr) (sn sc : Nat) (sg : List Sg) (w : World)
theorem fun143_30 (ty : Int) (h : Wr w R g cap bs) (h0 : -9223372036854775808 ≤ ty) (h1 : ty < 9223372036854775808) (hbad : ty < 0 ∨ (sn : Int) ≤ ty) (hs : sn ≤ 100000) :
  Calls Tryz.prog 111 #[cW R,.agg #[.int .i64 ty,.string lo,.slice ca cn cc],.slice sa sn sc,.int .i64 left] w (Throws R g 30 w):=by
 obtain ⟨B0,z0,x0,x1,x2⟩:=w143_facts w R ty lo ca cn cc
 have HW : ((w.alloc (.cells #[cW R] 163)).alloc (.cells #[.int .i64 ty,.string lo,.slice ca cn cc] 61)).alloc (.cells #[.int .i64 0,.string ⟨#[]⟩,.slice none 0 0] 61) = W143 w R ty lo ca cn cc:=rfl
 generalize W143 w R ty lo ca cn cc = W1 at *
 have HX:=hid (index136_no R g cap bs ty sn W1 (h.later B0) h0 h1 hbad (by omega) (by omega))
 have BW:=hid B0
 obtain ⟨a0,a1,a2,_,_,_⟩:=three_cells x1
 clear h B0
 go_enter Tryz.func111,Tryz.ntmps111
 go_wp2_with fail
 refine HX.out.mono ?_
 rintro e w2 ⟨⟨q,rfl⟩,hk⟩
 exact ⟨rfl,⟨q,rfl⟩,(kept_of BW.out).trans hk⟩
theorem fun143_t (h : Wr w R g cap bs) (hb : bs.length + 10000000 ≤ 1099511627776) (hs : sn ≤ 100000) (ht : t < sn) (hsg : SigsAt w sa sn sg) (hne : ∀ b off c,sa = some ⟨b,off,c⟩ → b ≠ R ∧ b ≠ g) (hp8 : ∀ p r,sg[t]? = some (p,r) → p.size ≤ 8) (x : Int)
  (htx : ∀ W g1 cap1 p r,sg[t]? = some (p,r) → p.size ≤ 8 → Wr W R g1 cap1 (bs ++ uvar t) → Calls Tryz.prog 207 #[.pointer (some ⟨R,0,none⟩),.string lo,.int .i64 (64 - p.size),.func (.func 131) #[] #[]] W (Throws R g1 x W)) :
  Calls Tryz.prog 111 #[cW R,.agg #[.int .i64 t,.string lo,.slice ca cn cc],.slice sa sn sc,.int .i64 left] w (Throws R g x w):=by
 obtain ⟨B0,z0,x0,x1,x2⟩:=w143_facts w R t lo ca cn cc
 have HW : ((w.alloc (.cells #[cW R] 163)).alloc (.cells #[.int .i64 t,.string lo,.slice ca cn cc] 61)).alloc (.cells #[.int .i64 0,.string ⟨#[]⟩,.slice none 0 0] 61) = W143 w R t lo ca cn cc:=rfl
 have hRl:=h.lt
 have hgl:=h.g_lt
 have hlen:=hsg.1
 obtain ⟨p,r,hp⟩ : ∃ p r,sg[t]? = some (p,r):=⟨_,_,List.getElem?_eq_getElem (by omega)⟩
 have hps:=hp8 p r hp
 obtain ⟨sb,so,rfl,hsc⟩ : ∃ b off,sa = some ⟨b,off,none⟩ ∧ ∀ j x,sg[j]? = some x → w.cell? ⟨b,off + j * 2,none⟩ = some (.string x.1) ∧ w.cell? ⟨b,off + j * 2 + 1,none⟩ = some (.string x.2):=by
  rcases hsg.2.2 with h0 | h
  ·omega
  ·exact h
 have hsp:=(hsc t (p,r) hp).1
 simp only at hsp
 have hsbn:=hne _ _ _ rfl
 have hsbl:=block_lt_of_cell hsp
 have u1:=uvar_len (t : Int)
 generalize W143 w R t lo ca cn cc = W1 at *
 have HX:=hid (index136_yes R g cap bs t sn W1 (h.later B0) (by omega) (by omega) (by omega) (by omega))
 have s0:=(B0.cell (p:=⟨sb,so + t * 2,none⟩) (by exact hsbl)).trans hsp
 have BW:=hid B0
 obtain ⟨a0,a1,a2,_,_,_⟩:=three_cells x1
 have hsub:=i64_in (64 - (p.size : Int)) (by omega) (by omega)
 have hmt:=meth_text
 have hct:=enter323
 have hnt:=nil_text
 clear h B0 hsc hsg
 go_enter Tryz.func111,Tryz.ntmps111
 go_wp2_with fail
 refine HX.out.mono ?_
 rintro e w2 ⟨rfl,g1,cap1,hw2,hs2⟩
 have y0:=hs2.cell x0 (by omega) (by omega)
 have y1:=(hs2.block (b:=w.heap.size + 1) (by omega) (by omega) (by omega)).trans x1
 have y2:=(hs2.block (b:=w.heap.size + 1 + 1) (by omega) (by omega) (by omega)).trans x2
 have ys:=hs2.cell s0 hsbn.1 hsbn.2
 have n0 : w.heap.size ≠ g1:=hs2.ne (by omega) (by omega)
 have n1 : w.heap.size + 1 ≠ g1:=hs2.ne (by omega) (by omega)
 have n2 : w.heap.size + 1 + 1 ≠ g1:=hs2.ne (by omega) (by omega)
 have ns : sb ≠ g1:=hs2.ne (by omega) hsbn.2
 obtain ⟨b0,b1,b2,_,_,_⟩:=three_cells y1
 have S2:=hid ((Stp.of_below BW.out).trans hs2)
 have z2:=hs2.size
 have W2:=hid hw2
 clear hw2 hs2 HX x0 x1 x2 a0 a1 a2 s0 HW
 go_wp2_with fail
 have HTX:=hid (htx w2.drew g1 cap1 p r hp hps (W2.out.later (Below.refl _ _).drew))
 clear htx
 refine wp_region_held_drew (S:=(fun W => W.cell? ⟨w.heap.size,0,none⟩ = some (cW R) ∧ W.cell? ⟨w.heap.size + 1,1,none⟩ = some (.string lo) ∧ W.cell? ⟨sb,so + t * 2,none⟩ = some (.string p))) (by kernel_rfl) ⟨y0,b1,ys⟩ (fun hHeld => ?_)
 refine tkH (i:=0) (v:=?_) rfl ?_ ?_
 rotate_left
 ·intro w h;(try dsimp only at h);go_simp;try with_reducible rfl
 try simp only [Act.put,sIB]
 refine tkH (i:=1) (v:=?_) rfl ?_ ?_
 rotate_left
 ·intro w h;(try dsimp only at h);go_simp;try with_reducible rfl
 try simp only [Act.put]
 refine tkH (i:=2) (v:=?_) rfl ?_ ?_
 rotate_left
 ·intro w h;(try dsimp only at h);go_simp;try with_reducible rfl
 try simp only [Act.put]
 refine tkH (i:=3) (v:=?_) rfl ?_ ?_
 rotate_left
 ·intro w h;(try dsimp only at h);go_simp;try with_reducible rfl
 try simp only [Act.put]
 refine tkH (i:=4) (v:=?_) rfl ?_ ?_
 rotate_left
 ·intro w h;(try dsimp only at h);go_simp;try with_reducible rfl
 try simp only [Act.put]
 refine tkH (i:=5) (v:=?_) rfl ?_ ?_
 rotate_left
 ·intro w h;(try dsimp only at h);go_simp;try with_reducible rfl
 try simp only [Act.put]
 refine tkH (i:=6) (v:=?_) rfl ?_ ?_
 rotate_left
 ·intro w h;(try dsimp only at h);go_simp;try with_reducible rfl
 try simp only [Act.put]
 refine tkH (i:=7) (v:=?_) rfl ?_ ?_
 rotate_left
 ·intro w h;(try dsimp only at h);go_simp;try with_reducible rfl
 try simp only [Act.put]
 refine tkH (i:=8) (v:=?_) rfl ?_ ?_
 rotate_left
 ·intro w h;(try dsimp only at h);go_simp;try with_reducible rfl
 try simp only [Act.put]
 refine tkH (i:=9) (v:=?_) rfl ?_ ?_
 rotate_left
 ·intro w h;(try dsimp only at h);go_simp;try with_reducible rfl
 try simp only [Act.put]
 refine tkH (i:=10) (v:=?_) rfl ?_ ?_
 rotate_left
 ·intro w h;(try dsimp only at h);go_simp;try with_reducible rfl
 try simp only [Act.put]
 refine wpAnyH_ready (rs:=[11]) (by kernel_rfl) (by simp) ?_
 refine AllReadyH.cons rfl (fun K hK => ?_) AllReadyH.nil
 go_simp
 refine hK.out _ _ hHeld (fun hHeld2 => ?_)
 clear hK K
 refine tkH (i:=12) (v:=?_) rfl ?_ ?_
 rotate_left
 ·intro w h;(try dsimp only at h);go_simp;try with_reducible rfl
 try simp only [Act.put,sIB]
 refine wpAnyH_ready (rs:=[13]) (by kernel_rfl) (by simp) ?_
 refine AllReadyH.cons rfl (fun K hK => ?_) AllReadyH.nil
 go_simp
 refine HTX.out.mono ?_
 rintro e w3 ⟨⟨q,rfl⟩,hk⟩
 exact ⟨rfl,⟨q,rfl⟩,(S2.out.trans (Stp.of_below (Below.refl _ _).drew)).throw hk⟩
theorem fun143_c (h : Wr w R g cap bs) (hb : bs.length + 10000000 ≤ 1099511627776) (hs : sn ≤ 100000) (ht : t < sn) (hsg : SigsAt w sa sn sg) (hne : ∀ b off c,sa = some ⟨b,off,c⟩ → b ≠ R ∧ b ≠ g) (hp8 : ∀ p r,sg[t]? = some (p,r) → p.size ≤ 8) (hlo : ∀ p r,sg[t]? = some (p,r) → lo.size + p.size ≤ 64) (hlt : lett lo 64 = true) (x : Int)
  (htl : ∀ W g2 cap2,Wr W R g2 cap2 (bs ++ uvar t ++ encT lo) → Stp R g g2 w W → W.cell? ⟨w.heap.size,0,none⟩ = some (cW R) → w.heap.size ≠ g2 → Calls Tryz.prog 141 #[cW R,.slice ca cn cc,.int .i64 (min 2048 left),.func (.func 142) #[] #[.pointer (some ⟨w.heap.size,0,none⟩)]] W (Throws R g2 x W)) :
  Calls Tryz.prog 111 #[cW R,.agg #[.int .i64 t,.string lo,.slice ca cn cc],.slice sa sn sc,.int .i64 left] w (Throws R g x w):=by
 have HTL:=hid htl
 clear htl
 obtain ⟨B0,z0,x0,x1,x2⟩:=w143_facts w R t lo ca cn cc
 have HW : ((w.alloc (.cells #[cW R] 163)).alloc (.cells #[.int .i64 t,.string lo,.slice ca cn cc] 61)).alloc (.cells #[.int .i64 0,.string ⟨#[]⟩,.slice none 0 0] 61) = W143 w R t lo ca cn cc:=rfl
 have hRl:=h.lt
 have hgl:=h.g_lt
 have hlen:=hsg.1
 obtain ⟨p,r,hp⟩ : ∃ p r,sg[t]? = some (p,r):=⟨_,_,List.getElem?_eq_getElem (by omega)⟩
 have hps:=hp8 p r hp
 have hlo1:=hlo p r hp
 obtain ⟨sb,so,rfl,hsc⟩ : ∃ b off,sa = some ⟨b,off,none⟩ ∧ ∀ j x,sg[j]? = some x → w.cell? ⟨b,off + j * 2,none⟩ = some (.string x.1) ∧ w.cell? ⟨b,off + j * 2 + 1,none⟩ = some (.string x.2):=by
  rcases hsg.2.2 with h0 | h
  ·omega
  ·exact h
 have hsp:=(hsc t (p,r) hp).1
 simp only at hsp
 have hsbn:=hne _ _ _ rfl
 have hsbl:=block_lt_of_cell hsp
 have u1:=uvar_len (t : Int)
 generalize W143 w R t lo ca cn cc = W1 at *
 have HX:=hid (index136_yes R g cap bs t sn W1 (h.later B0) (by omega) (by omega) (by omega) (by omega))
 have s0:=(B0.cell (p:=⟨sb,so + t * 2,none⟩) (by exact hsbl)).trans hsp
 have BW:=hid B0
 obtain ⟨a0,a1,a2,_,_,_⟩:=three_cells x1
 have hsub:=i64_in (64 - (p.size : Int)) (by omega) (by omega)
 have hmt:=meth_text
 have hct:=enter323
 have hnt:=nil_text
 clear h B0 hsc hsg
 go_enter Tryz.func111,Tryz.ntmps111
 go_wp2_with fail
 refine HX.out.mono ?_
 rintro e w2 ⟨rfl,g1,cap1,hw2,hs2⟩
 have y0:=hs2.cell x0 (by omega) (by omega)
 have y1:=(hs2.block (b:=w.heap.size + 1) (by omega) (by omega) (by omega)).trans x1
 have y2:=(hs2.block (b:=w.heap.size + 1 + 1) (by omega) (by omega) (by omega)).trans x2
 have ys:=hs2.cell s0 hsbn.1 hsbn.2
 have n0 : w.heap.size ≠ g1:=hs2.ne (by omega) (by omega)
 have n1 : w.heap.size + 1 ≠ g1:=hs2.ne (by omega) (by omega)
 have n2 : w.heap.size + 1 + 1 ≠ g1:=hs2.ne (by omega) (by omega)
 have ns : sb ≠ g1:=hs2.ne (by omega) hsbn.2
 obtain ⟨b0,b1,b2,_,_,_⟩:=three_cells y1
 have S2:=hid ((Stp.of_below BW.out).trans hs2)
 have z2:=hs2.size
 have W2:=hid hw2
 clear hw2 hs2 HX x0 x1 x2 a0 a1 a2 s0 HW
 go_wp2_with fail
 have HTX:=hid (text323_yes R g1 cap1 (bs ++ uvar t) lo (64 - p.size) 131 #[] w2.drew (W2.out.later (Below.refl _ _).drew) (by omega) (by omega) (by simp; omega) (fun _ _ => rfl) (letters183_yes lo _ _ (by omega) (by rw [lett_short lo 256 64 (by omega) (by omega)]; exact hlt)))
 refine wp_region_held_drew (S:=(fun W => W.cell? ⟨w.heap.size,0,none⟩ = some (cW R) ∧ W.cell? ⟨w.heap.size + 1,1,none⟩ = some (.string lo) ∧ W.cell? ⟨sb,so + t * 2,none⟩ = some (.string p))) (by kernel_rfl) ⟨y0,b1,ys⟩ (fun hHeld => ?_)
 refine tkH (i:=0) (v:=?_) rfl ?_ ?_
 rotate_left
 ·intro w h;(try dsimp only at h);go_simp;try with_reducible rfl
 try simp only [Act.put,sIB]
 refine tkH (i:=1) (v:=?_) rfl ?_ ?_
 rotate_left
 ·intro w h;(try dsimp only at h);go_simp;try with_reducible rfl
 try simp only [Act.put]
 refine tkH (i:=2) (v:=?_) rfl ?_ ?_
 rotate_left
 ·intro w h;(try dsimp only at h);go_simp;try with_reducible rfl
 try simp only [Act.put]
 refine tkH (i:=3) (v:=?_) rfl ?_ ?_
 rotate_left
 ·intro w h;(try dsimp only at h);go_simp;try with_reducible rfl
 try simp only [Act.put]
 refine tkH (i:=4) (v:=?_) rfl ?_ ?_
 rotate_left
 ·intro w h;(try dsimp only at h);go_simp;try with_reducible rfl
 try simp only [Act.put]
 refine tkH (i:=5) (v:=?_) rfl ?_ ?_
 rotate_left
 ·intro w h;(try dsimp only at h);go_simp;try with_reducible rfl
 try simp only [Act.put]
 refine tkH (i:=6) (v:=?_) rfl ?_ ?_
 rotate_left
 ·intro w h;(try dsimp only at h);go_simp;try with_reducible rfl
 try simp only [Act.put]
 refine tkH (i:=7) (v:=?_) rfl ?_ ?_
 rotate_left
 ·intro w h;(try dsimp only at h);go_simp;try with_reducible rfl
 try simp only [Act.put]
 refine tkH (i:=8) (v:=?_) rfl ?_ ?_
 rotate_left
 ·intro w h;(try dsimp only at h);go_simp;try with_reducible rfl
 try simp only [Act.put]
 refine tkH (i:=9) (v:=?_) rfl ?_ ?_
 rotate_left
 ·intro w h;(try dsimp only at h);go_simp;try with_reducible rfl
 try simp only [Act.put]
 refine tkH (i:=10) (v:=?_) rfl ?_ ?_
 rotate_left
 ·intro w h;(try dsimp only at h);go_simp;try with_reducible rfl
 try simp only [Act.put]
 refine wpAnyH_ready (rs:=[11]) (by kernel_rfl) (by simp) ?_
 refine AllReadyH.cons rfl (fun K hK => ?_) AllReadyH.nil
 go_simp
 refine hK.out _ _ hHeld (fun hHeld2 => ?_)
 clear hK K
 refine tkH (i:=12) (v:=?_) rfl ?_ ?_
 rotate_left
 ·intro w h;(try dsimp only at h);go_simp;try with_reducible rfl
 try simp only [Act.put,sIB]
 refine wpAnyH_ready (rs:=[13]) (by kernel_rfl) (by simp) ?_
 refine AllReadyH.cons rfl (fun K hK => ?_) AllReadyH.nil
 go_simp
 refine HTX.out.mono ?_
 rintro e w3 ⟨rfl,g2,cap2,hw3,hs3⟩
 have q0:=hs3.cell (b:=w.heap.size) y0 (by omega) n0
 have q1:=(hs3.block (b:=w.heap.size + 1) (by simp; omega) (by omega) n1).trans y1
 have q2:=(hs3.block (b:=w.heap.size + 1 + 1) (by simp; omega) (by omega) n2).trans y2
 have qs:=hs3.cell (b:=sb) ys hsbn.1 ns
 have m0 : w.heap.size ≠ g2:=hs3.ne (by simp; omega) n0
 have m2 : w.heap.size + 1 + 1 ≠ g2:=hs3.ne (by simp; omega) n2
 obtain ⟨e0,e1,e2,_,_,_⟩:=three_cells q1
 have z3 : w2.heap.size ≤ w3.heap.size:=hs3.size
 have W3:=hid hw3
 have S3:=hid ((S2.out.trans (Stp.of_below (Below.refl _ _).drew)).trans hs3)
 refine hK.out _ _ ⟨q0,e1,qs⟩ (fun hHeld3 => ?_)
 clear hK K hw3 hs3
 refine tkH (i:=14) (v:=?_) rfl ?_ ?_
 rotate_left
 ·intro w h;(try dsimp only at h);go_simp;try with_reducible rfl
 try simp only [Act.put,sIB]
 refine wpAnyH_done (by kernel_rfl) ?_ _
 clear hHeld hHeld2 hHeld3 y0 y1 y2 ys b0 b1 b2
 have HL:=hid (HTL.out w3 g2 cap2 W3.out S3.out q0 m0)
 clear HTL
 go_wp2_with fail
 refine HL.out.mono ?_
 rintro e w4 ⟨⟨q,rfl⟩,hk⟩
 exact ⟨rfl,⟨q,rfl⟩,S3.out.throw hk⟩
theorem fun143_yes (h : Wr w R g cap bs) (hb : bs.length + 10000000 ≤ 1099511627776) (hs : sn ≤ 100000) (ht : t < sn) (hsg : SigsAt w sa sn sg) (hne : ∀ b off c,sa = some ⟨b,off,c⟩ → b ≠ R ∧ b ≠ g) (hp8 : ∀ p r,sg[t]? = some (p,r) → p.size ≤ 8) (hlo : ∀ p r,sg[t]? = some (p,r) → lo.size + p.size ≤ 64) (hlt : lett lo 64 = true) (E : List Int)
  (htl : ∀ W g2 cap2,Wr W R g2 cap2 (bs ++ uvar t ++ encT lo) → Stp R g g2 w W → W.cell? ⟨w.heap.size,0,none⟩ = some (cW R) → w.heap.size ≠ g2 → Calls Tryz.prog 141 #[cW R,.slice ca cn cc,.int .i64 (min 2048 left),.func (.func 142) #[] #[.pointer (some ⟨w.heap.size,0,none⟩)]] W (fun e w' => ∃ (aa : Option Addr) (ac : Nat),e = .returned (.slice aa cn ac) ∧ ∃ g' cap',Wr w' R g' cap' (bs ++ uvar t ++ encT lo ++ E) ∧ Stp R g2 g' W w')) :
  Calls Tryz.prog 111 #[cW R,.agg #[.int .i64 t,.string lo,.slice ca cn cc],.slice sa sn sc,.int .i64 left] w (fun e w' => ∃ (aa : Option Addr) (ac : Nat),e = .returned (.agg #[.int .i64 t,.string lo,.slice aa cn ac]) ∧ ∃ g' cap',Wr w' R g' cap' (bs ++ uvar t ++ encT lo ++ E) ∧ Stp R g g' w w'):=by
 have HTL:=hid htl
 clear htl
 obtain ⟨B0,z0,x0,x1,x2⟩:=w143_facts w R t lo ca cn cc
 have HW : ((w.alloc (.cells #[cW R] 163)).alloc (.cells #[.int .i64 t,.string lo,.slice ca cn cc] 61)).alloc (.cells #[.int .i64 0,.string ⟨#[]⟩,.slice none 0 0] 61) = W143 w R t lo ca cn cc:=rfl
 have hRl:=h.lt
 have hgl:=h.g_lt
 have hlen:=hsg.1
 obtain ⟨p,r,hp⟩ : ∃ p r,sg[t]? = some (p,r):=⟨_,_,List.getElem?_eq_getElem (by omega)⟩
 have hps:=hp8 p r hp
 have hlo1:=hlo p r hp
 obtain ⟨sb,so,rfl,hsc⟩ : ∃ b off,sa = some ⟨b,off,none⟩ ∧ ∀ j x,sg[j]? = some x → w.cell? ⟨b,off + j * 2,none⟩ = some (.string x.1) ∧ w.cell? ⟨b,off + j * 2 + 1,none⟩ = some (.string x.2):=by
  rcases hsg.2.2 with h0 | h
  ·omega
  ·exact h
 have hsp:=(hsc t (p,r) hp).1
 simp only at hsp
 have hsbn:=hne _ _ _ rfl
 have hsbl:=block_lt_of_cell hsp
 have u1:=uvar_len (t : Int)
 generalize W143 w R t lo ca cn cc = W1 at *
 have HX:=hid (index136_yes R g cap bs t sn W1 (h.later B0) (by omega) (by omega) (by omega) (by omega))
 have s0:=(B0.cell (p:=⟨sb,so + t * 2,none⟩) (by exact hsbl)).trans hsp
 have BW:=hid B0
 obtain ⟨a0,a1,a2,_,_,_⟩:=three_cells x1
 have hsub:=i64_in (64 - (p.size : Int)) (by omega) (by omega)
 have hmt:=meth_text
 have hct:=enter323
 have hnt:=nil_text
 clear h B0 hsc hsg
 go_enter Tryz.func111,Tryz.ntmps111
 go_wp2_with fail
 refine HX.out.mono ?_
 rintro e w2 ⟨rfl,g1,cap1,hw2,hs2⟩
 have y0:=hs2.cell x0 (by omega) (by omega)
 have y1:=(hs2.block (b:=w.heap.size + 1) (by omega) (by omega) (by omega)).trans x1
 have y2:=(hs2.block (b:=w.heap.size + 1 + 1) (by omega) (by omega) (by omega)).trans x2
 have ys:=hs2.cell s0 hsbn.1 hsbn.2
 have n0 : w.heap.size ≠ g1:=hs2.ne (by omega) (by omega)
 have n1 : w.heap.size + 1 ≠ g1:=hs2.ne (by omega) (by omega)
 have n2 : w.heap.size + 1 + 1 ≠ g1:=hs2.ne (by omega) (by omega)
 have ns : sb ≠ g1:=hs2.ne (by omega) hsbn.2
 obtain ⟨b0,b1,b2,_,_,_⟩:=three_cells y1
 have S2:=hid ((Stp.of_below BW.out).trans hs2)
 have z2:=hs2.size
 have W2:=hid hw2
 clear hw2 hs2 HX x0 x1 x2 a0 a1 a2 s0 HW
 go_wp2_with fail
 have HTX:=hid (text323_yes R g1 cap1 (bs ++ uvar t) lo (64 - p.size) 131 #[] w2.drew (W2.out.later (Below.refl _ _).drew) (by omega) (by omega) (by simp; omega) (fun _ _ => rfl) (letters183_yes lo _ _ (by omega) (by rw [lett_short lo 256 64 (by omega) (by omega)]; exact hlt)))
 refine wp_region_held_drew (S:=(fun W => W.cell? ⟨w.heap.size,0,none⟩ = some (cW R) ∧ W.cell? ⟨w.heap.size + 1,1,none⟩ = some (.string lo) ∧ W.cell? ⟨sb,so + t * 2,none⟩ = some (.string p))) (by kernel_rfl) ⟨y0,b1,ys⟩ (fun hHeld => ?_)
 refine tkH (i:=0) (v:=?_) rfl ?_ ?_
 rotate_left
 ·intro w h;(try dsimp only at h);go_simp;try with_reducible rfl
 try simp only [Act.put,sIB]
 refine tkH (i:=1) (v:=?_) rfl ?_ ?_
 rotate_left
 ·intro w h;(try dsimp only at h);go_simp;try with_reducible rfl
 try simp only [Act.put]
 refine tkH (i:=2) (v:=?_) rfl ?_ ?_
 rotate_left
 ·intro w h;(try dsimp only at h);go_simp;try with_reducible rfl
 try simp only [Act.put]
 refine tkH (i:=3) (v:=?_) rfl ?_ ?_
 rotate_left
 ·intro w h;(try dsimp only at h);go_simp;try with_reducible rfl
 try simp only [Act.put]
 refine tkH (i:=4) (v:=?_) rfl ?_ ?_
 rotate_left
 ·intro w h;(try dsimp only at h);go_simp;try with_reducible rfl
 try simp only [Act.put]
 refine tkH (i:=5) (v:=?_) rfl ?_ ?_
 rotate_left
 ·intro w h;(try dsimp only at h);go_simp;try with_reducible rfl
 try simp only [Act.put]
 refine tkH (i:=6) (v:=?_) rfl ?_ ?_
 rotate_left
 ·intro w h;(try dsimp only at h);go_simp;try with_reducible rfl
 try simp only [Act.put]
 refine tkH (i:=7) (v:=?_) rfl ?_ ?_
 rotate_left
 ·intro w h;(try dsimp only at h);go_simp;try with_reducible rfl
 try simp only [Act.put]
 refine tkH (i:=8) (v:=?_) rfl ?_ ?_
 rotate_left
 ·intro w h;(try dsimp only at h);go_simp;try with_reducible rfl
 try simp only [Act.put]
 refine tkH (i:=9) (v:=?_) rfl ?_ ?_
 rotate_left
 ·intro w h;(try dsimp only at h);go_simp;try with_reducible rfl
 try simp only [Act.put]
 refine tkH (i:=10) (v:=?_) rfl ?_ ?_
 rotate_left
 ·intro w h;(try dsimp only at h);go_simp;try with_reducible rfl
 try simp only [Act.put]
 refine wpAnyH_ready (rs:=[11]) (by kernel_rfl) (by simp) ?_
 refine AllReadyH.cons rfl (fun K hK => ?_) AllReadyH.nil
 go_simp
 refine hK.out _ _ hHeld (fun hHeld2 => ?_)
 clear hK K
 refine tkH (i:=12) (v:=?_) rfl ?_ ?_
 rotate_left
 ·intro w h;(try dsimp only at h);go_simp;try with_reducible rfl
 try simp only [Act.put,sIB]
 refine wpAnyH_ready (rs:=[13]) (by kernel_rfl) (by simp) ?_
 refine AllReadyH.cons rfl (fun K hK => ?_) AllReadyH.nil
 go_simp
 refine HTX.out.mono ?_
 rintro e w3 ⟨rfl,g2,cap2,hw3,hs3⟩
 have q0:=hs3.cell (b:=w.heap.size) y0 (by omega) n0
 have q1:=(hs3.block (b:=w.heap.size + 1) (by simp; omega) (by omega) n1).trans y1
 have q2:=(hs3.block (b:=w.heap.size + 1 + 1) (by simp; omega) (by omega) n2).trans y2
 have qs:=hs3.cell (b:=sb) ys hsbn.1 ns
 have m0 : w.heap.size ≠ g2:=hs3.ne (by simp; omega) n0
 have m2 : w.heap.size + 1 + 1 ≠ g2:=hs3.ne (by simp; omega) n2
 obtain ⟨e0,e1,e2,_,_,_⟩:=three_cells q1
 have z3 : w2.heap.size ≤ w3.heap.size:=hs3.size
 have W3:=hid hw3
 have S3:=hid ((S2.out.trans (Stp.of_below (Below.refl _ _).drew)).trans hs3)
 refine hK.out _ _ ⟨q0,e1,qs⟩ (fun hHeld3 => ?_)
 clear hK K hw3 hs3
 refine tkH (i:=14) (v:=?_) rfl ?_ ?_
 rotate_left
 ·intro w h;(try dsimp only at h);go_simp;try with_reducible rfl
 try simp only [Act.put,sIB]
 refine wpAnyH_done (by kernel_rfl) ?_ _
 clear hHeld hHeld2 hHeld3 y0 y1 y2 ys b0 b1 b2
 have HL:=hid (HTL.out w3 g2 cap2 W3.out S3.out q0 m0)
 clear HTL
 go_wp2_with fail
 refine HL.out.mono ?_
 rintro e w4 ⟨aa,ac,rfl,g3,cap3,hw4,hs4⟩
 have f2:=(hs4.block (b:=w.heap.size + 1 + 1) (by omega) (by omega) m2).trans q2
 have m3 : w.heap.size + 1 + 1 ≠ g3:=hs4.ne (by omega) m2
 obtain ⟨k0,k1,k2,k3,k4,k5⟩:=three_cells f2
 have W4:=hid hw4
 have S4:=hid (S3.out.trans hs4)
 clear hw4 hs4 HL q0 q1 q2 qs e0 e1 e2
 go_wp2_with fail
 refine bodyPost_ret (v:=.agg #[.int .i64 t,.string lo,.slice aa cn ac]) ?_ rfl ⟨aa,ac,rfl,g3,cap3,?_,?_⟩
 ·rw [results_cell1 rfl]
  go_simp
 ·exact ((W4.out.set (b:=w.heap.size + 1 + 1) (by omega) m3).set (b:=w.heap.size + 1 + 1) (by omega) m3).set (b:=w.heap.size + 1 + 1) (by omega) m3
 ·exact ((S4.out.set (by omega)).set (by omega)).set (by omega)
end
end Go.Proofs.YtepcmfegggdjfaaGreatDoor

/-
  Texts Wf Wq Sa.
-/
import Derived.Test.YtepnnenohjfkbaaGreatDoorP00
import Derived.Test.YtepnnenohjfkbaaGreatDoorP01
import Derived.Test.YtepnnenohjfkbaaGreatDoorP03
import Derived.Test.YtepnnenohjfkbaaGreatDoorP04
import Derived.Test.YtepnnenohjfkbaaGreatDoorP05
import Derived.Test.YtepnnenohjfkbaaGreatDoorP06
import Derived.Test.YtepnnenohjfkbaaGreatDoorP08
set_option linter.unusedVariables false
set_option maxRecDepth 100000
set_option maxHeartbeats 16000000
namespace Go.Proofs.YtepnnenohjfkbaaGreatDoor
open Go.RowKit
theorem qB (a : Addr) (w : World) : (nilAhead 445 127 (.pointer (some a)) "flagon/module.text").run Tryz.prog w = .ok (some false) w:=rfl
abbrev SLv:=Option Addr × Nat × Nat
abbrev InM:=Int × Int × SLv × List Int
def nG (w : World) (R : Nat) (ty : Int) (lo : ByteArray) (ca : Option Addr) (cn cc : Nat) : World :=
 ((w.alloc (eD (cW R))).alloc (aI ty lo ca cn cc)).alloc (aI 0 ⟨#[]⟩ none 0 0)
theorem jp (w : World) (R : Nat) (ty : Int) (lo : ByteArray) (ca : Option Addr) (cn cc : Nat) : Below w.heap.size w (nG w R ty lo ca cn cc) ∧ (nG w R ty lo ca cn cc).heap.size = w.heap.size + 1 + 1 + 1 ∧
  (nG w R ty lo ca cn cc).cell? ⟨w.heap.size,0,none⟩ = some (cW R) ∧ (nG w R ty lo ca cn cc).heap[w.heap.size + 1]? = some (aI ty lo ca cn cc) ∧
  (nG w R ty lo ca cn cc).heap[w.heap.size + 1 + 1]? = some (aI 0 ⟨#[]⟩ none 0 0):=by
 unfold nG;refine ⟨(((Below.refl _ w).alloc (Nat.le_refl _) _).alloc ak _).alloc cH _,ak,cP,?_,?_⟩
 ·rw [(aj ((w.alloc (eD (cW R))).alloc (aI ty lo ca cn cc)) _).block (w.heap.size + 1) ak]
  have:=(MapKept.heap_alloc (w.alloc (eD (cW R))) (aI ty lo ca cn cc)).1
  exact bY
 ·have:=(MapKept.heap_alloc ((w.alloc (eD (cW R))).alloc (aI ty lo ca cn cc)) (aI 0 ⟨#[]⟩ none 0 0)).1
  exact bY
section
variable (R g cap : Nat) (bs : List Int) (t : Nat) (left : Int) (lo : ByteArray) (ca : Option Addr) (cn cc : Nat) (sa : Option Addr) (sn sc : Nat) (sg : List Sg) (w : World)
theorem EM (ty : Int) (h : Wr w R g cap bs) (h0 : -9223372036854775808 ≤ ty) (h1 : ty < 9223372036854775808) (hbad : ty < 0 ∨ (sn : Int) ≤ ty) (hs : sn ≤ 100000) :
  Calls Tryz.prog 125 #[cW R,.agg #[.int .i64 ty,.string lo,.slice ca cn cc],.slice sa sn sc,.int .i64 left] w (aR R g 30 w):=by
 obtain ⟨B0,z0,x0,x1,x2⟩:=jp w R ty lo ca cn cc;have HW : ((w.alloc (eD (cW R))).alloc (aI ty lo ca cn cc)).alloc (aI 0 ⟨#[]⟩ none 0 0) = nG w R ty lo ca cn cc:=rfl;generalize nG w R ty lo ca cn cc = W1 at *;have HX:=hid (jU R g cap bs ty sn W1 (h.later B0) h0 h1 hbad ae ae);have BW:=hid B0;obtain ⟨a0,a1,a2,_,_,_⟩:=aK x1;clear h B0
 go_enter Tryz.func125,Tryz.ntmps125
 go_wp2_with fail;refine HX.out.mono ?_;rintro e w2 ⟨⟨q,rfl⟩,hk⟩;exact ⟨rfl,⟨q,rfl⟩,(az BW.out).trans hk⟩
theorem yJ (h : Wr w R g cap bs) (hb : bs.length + 10000000 ≤ 1099511627776) (hs : sn ≤ 100000) (ht : t < sn) (hsg : cj w sa sn sg) (hne : ∀ b off c,sa = some ⟨b,off,c⟩ → b ≠ R ∧ b ≠ g) (hp8 : ∀ p r,sg[t]? = some (p,r) → p.size ≤ 8) (x : Int)
  (htx : ∀ W g1 aQ p r,sg[t]? = some (p,r) → p.size ≤ 8 → Wr W R g1 aQ (bs ++ au t) → Calls Tryz.prog 316 #[.pointer (some ⟨R,0,none⟩),.string lo,.int .i64 (64 - p.size),.func (.func 177) #[] #[]] W (aR R g1 x W)) :
  Calls Tryz.prog 125 #[cW R,.agg #[.int .i64 t,.string lo,.slice ca cn cc],.slice sa sn sc,.int .i64 left] w (aR R g x w):=by
 obtain ⟨B0,z0,x0,x1,x2⟩:=jp w R t lo ca cn cc;have HW : ((w.alloc (eD (cW R))).alloc (aI t lo ca cn cc)).alloc (aI 0 ⟨#[]⟩ none 0 0) = nG w R t lo ca cn cc:=rfl;have hRl:=h.lt;have hgl:=h.g_lt;have hlen:=hsg.1;obtain ⟨p,r,hp⟩ : ∃ p r,sg[t]? = some (p,r):=⟨_,_,aN ae⟩;have hps:=hp8 p r hp
 obtain ⟨sb,so,rfl,hsc⟩ : ∃ b off,sa = some ⟨b,off,none⟩ ∧ ∀ j x,sg[j]? = some x → w.cell? ⟨b,off + j * 2,none⟩ = some (.string x.1) ∧ w.cell? ⟨b,off + j * 2 + 1,none⟩ = some (.string x.2):=by
  exact wP
 have hsp:=(hsc t (p,r) hp).1
 simp only at hsp
 have hsbn:=hne _ _ _ rfl;have hsbl:=block_lt_of_cell hsp;have u1:=aA (t : Int);generalize nG w R t lo ca cn cc = W1 at *;have HX:=hid (fI R g cap bs t sn W1 (h.later B0) ae ae ae ae)
 have s0:=(B0.cell (p:=⟨sb,so + t * 2,none⟩) (by exact hsbl)).trans hsp
 have BW:=hid B0;obtain ⟨a0,a1,a2,_,_,_⟩:=aK x1;have hsub:=i64_in (64 - (p.size : Int)) ae ae;have hmt:=dv;have hct:=ei;have hnt:=qB;clear h B0 hsc hsg
 go_enter Tryz.func125,Tryz.ntmps125
 go_wp2_with fail;refine HX.out.mono ?_;rintro e w2 ⟨rfl,g1,aQ,hw2,hs2⟩;have y0:=hs2.cell x0 ae ae;have y1:=(hs2.block (b:=w.heap.size + 1) ae ae ae).trans x1;have y2:=(hs2.block (b:=w.heap.size + 1 + 1) ae ae ae).trans x2;have ys:=hs2.cell s0 hsbn.1 hsbn.2;have n0 : w.heap.size ≠ g1:=hs2.ne ae ae;have n1 : w.heap.size + 1 ≠ g1:=hs2.ne ae ae;have n2 : w.heap.size + 1 + 1 ≠ g1:=hs2.ne ae ae;have ns : sb ≠ g1:=hs2.ne ae hsbn.2;obtain ⟨b0,b1,b2,_,_,_⟩:=aK y1;have S2:=hid ((Stp.of_below BW.out).trans hs2);have z2:=hs2.size;have W2:=hid hw2;clear hw2 hs2 HX x0 x1 x2 a0 a1 a2 s0 HW;go_wp2_with fail;have HTX:=hid (htx w2.drew g1 aQ p r hp hps (W2.out.later (Below.refl _ _).drew));clear htx
 refine wp_region_held_drew (S:=(fun W => W.cell? ⟨w.heap.size,0,none⟩ = some (cW R) ∧ W.cell? ⟨w.heap.size + 1,1,none⟩ = some (.string lo) ∧ W.cell? ⟨sb,so + t * 2,none⟩ = some (.string p))) aw ⟨y0,b1,ys⟩ (fun hHeld => ?_)
 refine tkC (i:=0) rfl ?_;(try simp only [Act.put,sIB]);refine tkC (i:=1) rfl ?_;(try simp only [Act.put]);refine tkC (i:=2) rfl ?_;(try simp only [Act.put]);refine tkC (i:=3) rfl ?_;(try simp only [Act.put]);refine tkC (i:=4) rfl ?_;(try simp only [Act.put]);refine tkC (i:=5) rfl ?_;(try simp only [Act.put]);refine tkC (i:=6) rfl ?_;(try simp only [Act.put]);refine tkC (i:=7) rfl ?_;(try simp only [Act.put]);refine tkC (i:=8) rfl ?_;(try simp only [Act.put]);refine tkC (i:=9) rfl ?_;(try simp only [Act.put]);refine tkC (i:=10) rfl ?_;(try simp only [Act.put]);refine rdY (rs:=[11]) ?_
 refine AllReadyH.cons rfl (fun K hK => ?_) rN
 go_simp
 refine hK.out _ _ hHeld (fun hHeld2 => ?_)
 clear hK K;refine tkC (i:=12) rfl ?_;(try simp only [Act.put,sIB]);refine rdY (rs:=[13]) ?_
 refine AllReadyH.cons rfl (fun K hK => ?_) rN
 go_simp;refine HTX.out.mono ?_;rintro e w3 ⟨⟨q,rfl⟩,hk⟩;exact ⟨rfl,⟨q,rfl⟩,(S2.out.trans (Stp.of_below (Below.refl _ _).drew)).throw hk⟩
theorem yD (h : Wr w R g cap bs) (hb : bs.length + 10000000 ≤ 1099511627776) (hs : sn ≤ 100000) (ht : t < sn) (hsg : cj w sa sn sg) (hne : ∀ b off c,sa = some ⟨b,off,c⟩ → b ≠ R ∧ b ≠ g) (hp8 : ∀ p r,sg[t]? = some (p,r) → p.size ≤ 8) (hlo : ∀ p r,sg[t]? = some (p,r) → lo.size + p.size ≤ 64) (hlt : lett lo 64 = true) (x : Int)
  (htl : ∀ W g2 cap2,Wr W R g2 cap2 (bs ++ au t ++ eI lo) → Stp R g g2 w W → W.cell? ⟨w.heap.size,0,none⟩ = some (cW R) → w.heap.size ≠ g2 → Calls Tryz.prog 188 #[cW R,.slice ca cn cc,.int .i64 (min 2048 left),.func (.func 189) #[] #[.pointer (some ⟨w.heap.size,0,none⟩)]] W (aR R g2 x W)) :
  Calls Tryz.prog 125 #[cW R,.agg #[.int .i64 t,.string lo,.slice ca cn cc],.slice sa sn sc,.int .i64 left] w (aR R g x w):=by
 have HTL:=hid htl;clear htl;obtain ⟨B0,z0,x0,x1,x2⟩:=jp w R t lo ca cn cc;have HW : ((w.alloc (eD (cW R))).alloc (aI t lo ca cn cc)).alloc (aI 0 ⟨#[]⟩ none 0 0) = nG w R t lo ca cn cc:=rfl;have hRl:=h.lt;have hgl:=h.g_lt;have hlen:=hsg.1;obtain ⟨p,r,hp⟩ : ∃ p r,sg[t]? = some (p,r):=⟨_,_,aN ae⟩;have hps:=hp8 p r hp;have hlo1:=hlo p r hp
 obtain ⟨sb,so,rfl,hsc⟩ : ∃ b off,sa = some ⟨b,off,none⟩ ∧ ∀ j x,sg[j]? = some x → w.cell? ⟨b,off + j * 2,none⟩ = some (.string x.1) ∧ w.cell? ⟨b,off + j * 2 + 1,none⟩ = some (.string x.2):=by
  exact wP
 have hsp:=(hsc t (p,r) hp).1
 simp only at hsp
 have hsbn:=hne _ _ _ rfl;have hsbl:=block_lt_of_cell hsp;have u1:=aA (t : Int);generalize nG w R t lo ca cn cc = W1 at *;have HX:=hid (fI R g cap bs t sn W1 (h.later B0) ae ae ae ae)
 have s0:=(B0.cell (p:=⟨sb,so + t * 2,none⟩) (by exact hsbl)).trans hsp
 have BW:=hid B0;obtain ⟨a0,a1,a2,_,_,_⟩:=aK x1;have hsub:=i64_in (64 - (p.size : Int)) ae ae;have hmt:=dv;have hct:=ei;have hnt:=qB;clear h B0 hsc hsg
 go_enter Tryz.func125,Tryz.ntmps125
 go_wp2_with fail;refine HX.out.mono ?_;rintro e w2 ⟨rfl,g1,aQ,hw2,hs2⟩;have y0:=hs2.cell x0 ae ae;have y1:=(hs2.block (b:=w.heap.size + 1) ae ae ae).trans x1;have y2:=(hs2.block (b:=w.heap.size + 1 + 1) ae ae ae).trans x2;have ys:=hs2.cell s0 hsbn.1 hsbn.2;have n0 : w.heap.size ≠ g1:=hs2.ne ae ae;have n1 : w.heap.size + 1 ≠ g1:=hs2.ne ae ae;have n2 : w.heap.size + 1 + 1 ≠ g1:=hs2.ne ae ae;have ns : sb ≠ g1:=hs2.ne ae hsbn.2;obtain ⟨b0,b1,b2,_,_,_⟩:=aK y1;have S2:=hid ((Stp.of_below BW.out).trans hs2);have z2:=hs2.size;have W2:=hid hw2;clear hw2 hs2 HX x0 x1 x2 a0 a1 a2 s0 HW;go_wp2_with fail
 have HTX:=hid (dD R g1 aQ (bs ++ au t) lo (64 - p.size) 177 #[] w2.drew (W2.out.later (Below.refl _ _).drew) ae ae aG (fun _ _ => rfl) (dm lo _ _ ae DC))
 refine wp_region_held_drew (S:=(fun W => W.cell? ⟨w.heap.size,0,none⟩ = some (cW R) ∧ W.cell? ⟨w.heap.size + 1,1,none⟩ = some (.string lo) ∧ W.cell? ⟨sb,so + t * 2,none⟩ = some (.string p))) aw ⟨y0,b1,ys⟩ (fun hHeld => ?_)
 refine tkC (i:=0) rfl ?_;(try simp only [Act.put,sIB]);refine tkC (i:=1) rfl ?_;(try simp only [Act.put]);refine tkC (i:=2) rfl ?_;(try simp only [Act.put]);refine tkC (i:=3) rfl ?_;(try simp only [Act.put]);refine tkC (i:=4) rfl ?_;(try simp only [Act.put]);refine tkC (i:=5) rfl ?_;(try simp only [Act.put]);refine tkC (i:=6) rfl ?_;(try simp only [Act.put]);refine tkC (i:=7) rfl ?_;(try simp only [Act.put]);refine tkC (i:=8) rfl ?_;(try simp only [Act.put]);refine tkC (i:=9) rfl ?_;(try simp only [Act.put]);refine tkC (i:=10) rfl ?_;(try simp only [Act.put]);refine rdY (rs:=[11]) ?_
 refine AllReadyH.cons rfl (fun K hK => ?_) rN
 go_simp
 refine hK.out _ _ hHeld (fun hHeld2 => ?_)
 clear hK K;refine tkC (i:=12) rfl ?_;(try simp only [Act.put,sIB]);refine rdY (rs:=[13]) ?_
 refine AllReadyH.cons rfl (fun K hK => ?_) rN
 go_simp;refine HTX.out.mono ?_;rintro e w3 ⟨rfl,g2,cap2,hw3,hs3⟩;have q0:=hs3.cell (b:=w.heap.size) y0 ae n0;have q1:=(hs3.block (b:=w.heap.size + 1) aG ae n1).trans y1;have q2:=(hs3.block (b:=w.heap.size + 1 + 1) aG ae n2).trans y2;have qs:=hs3.cell (b:=sb) ys hsbn.1 ns;have m0 : w.heap.size ≠ g2:=hs3.ne aG n0;have m2 : w.heap.size + 1 + 1 ≠ g2:=hs3.ne aG n2;obtain ⟨e0,e1,e2,_,_,_⟩:=aK q1;have z3 : w2.heap.size ≤ w3.heap.size:=hs3.size;have W3:=hid hw3;have S3:=hid ((S2.out.trans (Stp.of_below (Below.refl _ _).drew)).trans hs3)
 refine hK.out _ _ ⟨q0,e1,qs⟩ (fun hHeld3 => ?_)
 clear hK K hw3 hs3;refine tkC (i:=14) rfl ?_;(try simp only [Act.put,sIB]);refine wpAnyH_done aw ?_ _;clear hHeld hHeld2 hHeld3 y0 y1 y2 ys b0 b1 b2;have HL:=hid (HTL.out w3 g2 cap2 W3.out S3.out q0 m0);clear HTL;go_wp2_with fail;refine HL.out.mono ?_;rintro e w4 ⟨⟨q,rfl⟩,hk⟩;exact ⟨rfl,⟨q,rfl⟩,S3.out.throw hk⟩
theorem Bb (h : Wr w R g cap bs) (hb : bs.length + 10000000 ≤ 1099511627776) (hs : sn ≤ 100000) (ht : t < sn) (hsg : cj w sa sn sg) (hne : ∀ b off c,sa = some ⟨b,off,c⟩ → b ≠ R ∧ b ≠ g) (hp8 : ∀ p r,sg[t]? = some (p,r) → p.size ≤ 8) (hlo : ∀ p r,sg[t]? = some (p,r) → lo.size + p.size ≤ 64) (hlt : lett lo 64 = true) (E : List Int)
  (htl : ∀ W g2 cap2,Wr W R g2 cap2 (bs ++ au t ++ eI lo) → Stp R g g2 w W → W.cell? ⟨w.heap.size,0,none⟩ = some (cW R) → w.heap.size ≠ g2 → Calls Tryz.prog 188 #[cW R,.slice ca cn cc,.int .i64 (min 2048 left),.func (.func 189) #[] #[.pointer (some ⟨w.heap.size,0,none⟩)]] W (fun e w' => ∃ (aa : Option Addr) (ac : Nat),e = .returned (.slice aa cn ac) ∧ ∃ g' cap',Wr w' R g' cap' (bs ++ au t ++ eI lo ++ E) ∧ Stp R g2 g' W w')) :
  Calls Tryz.prog 125 #[cW R,.agg #[.int .i64 t,.string lo,.slice ca cn cc],.slice sa sn sc,.int .i64 left] w (fun e w' => ∃ (aa : Option Addr) (ac : Nat),e = .returned (.agg #[.int .i64 t,.string lo,.slice aa cn ac]) ∧ ∃ g' cap',Wr w' R g' cap' (bs ++ au t ++ eI lo ++ E) ∧ Stp R g g' w w'):=by
 have HTL:=hid htl;clear htl;obtain ⟨B0,z0,x0,x1,x2⟩:=jp w R t lo ca cn cc;have HW : ((w.alloc (eD (cW R))).alloc (aI t lo ca cn cc)).alloc (aI 0 ⟨#[]⟩ none 0 0) = nG w R t lo ca cn cc:=rfl;have hRl:=h.lt;have hgl:=h.g_lt;have hlen:=hsg.1;obtain ⟨p,r,hp⟩ : ∃ p r,sg[t]? = some (p,r):=⟨_,_,aN ae⟩;have hps:=hp8 p r hp;have hlo1:=hlo p r hp
 obtain ⟨sb,so,rfl,hsc⟩ : ∃ b off,sa = some ⟨b,off,none⟩ ∧ ∀ j x,sg[j]? = some x → w.cell? ⟨b,off + j * 2,none⟩ = some (.string x.1) ∧ w.cell? ⟨b,off + j * 2 + 1,none⟩ = some (.string x.2):=by
  exact wP
 have hsp:=(hsc t (p,r) hp).1
 simp only at hsp
 have hsbn:=hne _ _ _ rfl;have hsbl:=block_lt_of_cell hsp;have u1:=aA (t : Int);generalize nG w R t lo ca cn cc = W1 at *;have HX:=hid (fI R g cap bs t sn W1 (h.later B0) ae ae ae ae)
 have s0:=(B0.cell (p:=⟨sb,so + t * 2,none⟩) (by exact hsbl)).trans hsp
 have BW:=hid B0;obtain ⟨a0,a1,a2,_,_,_⟩:=aK x1;have hsub:=i64_in (64 - (p.size : Int)) ae ae;have hmt:=dv;have hct:=ei;have hnt:=qB;clear h B0 hsc hsg
 go_enter Tryz.func125,Tryz.ntmps125
 go_wp2_with fail;refine HX.out.mono ?_;rintro e w2 ⟨rfl,g1,aQ,hw2,hs2⟩;have y0:=hs2.cell x0 ae ae;have y1:=(hs2.block (b:=w.heap.size + 1) ae ae ae).trans x1;have y2:=(hs2.block (b:=w.heap.size + 1 + 1) ae ae ae).trans x2;have ys:=hs2.cell s0 hsbn.1 hsbn.2;have n0 : w.heap.size ≠ g1:=hs2.ne ae ae;have n1 : w.heap.size + 1 ≠ g1:=hs2.ne ae ae;have n2 : w.heap.size + 1 + 1 ≠ g1:=hs2.ne ae ae;have ns : sb ≠ g1:=hs2.ne ae hsbn.2;obtain ⟨b0,b1,b2,_,_,_⟩:=aK y1;have S2:=hid ((Stp.of_below BW.out).trans hs2);have z2:=hs2.size;have W2:=hid hw2;clear hw2 hs2 HX x0 x1 x2 a0 a1 a2 s0 HW;go_wp2_with fail
 have HTX:=hid (dD R g1 aQ (bs ++ au t) lo (64 - p.size) 177 #[] w2.drew (W2.out.later (Below.refl _ _).drew) ae ae aG (fun _ _ => rfl) (dm lo _ _ ae DC))
 refine wp_region_held_drew (S:=(fun W => W.cell? ⟨w.heap.size,0,none⟩ = some (cW R) ∧ W.cell? ⟨w.heap.size + 1,1,none⟩ = some (.string lo) ∧ W.cell? ⟨sb,so + t * 2,none⟩ = some (.string p))) aw ⟨y0,b1,ys⟩ (fun hHeld => ?_)
 refine tkC (i:=0) rfl ?_;(try simp only [Act.put,sIB]);refine tkC (i:=1) rfl ?_;(try simp only [Act.put]);refine tkC (i:=2) rfl ?_;(try simp only [Act.put]);refine tkC (i:=3) rfl ?_;(try simp only [Act.put]);refine tkC (i:=4) rfl ?_;(try simp only [Act.put]);refine tkC (i:=5) rfl ?_;(try simp only [Act.put]);refine tkC (i:=6) rfl ?_;(try simp only [Act.put]);refine tkC (i:=7) rfl ?_;(try simp only [Act.put]);refine tkC (i:=8) rfl ?_;(try simp only [Act.put]);refine tkC (i:=9) rfl ?_;(try simp only [Act.put]);refine tkC (i:=10) rfl ?_;(try simp only [Act.put]);refine rdY (rs:=[11]) ?_
 refine AllReadyH.cons rfl (fun K hK => ?_) rN
 go_simp
 refine hK.out _ _ hHeld (fun hHeld2 => ?_)
 clear hK K;refine tkC (i:=12) rfl ?_;(try simp only [Act.put,sIB]);refine rdY (rs:=[13]) ?_
 refine AllReadyH.cons rfl (fun K hK => ?_) rN
 go_simp;refine HTX.out.mono ?_;rintro e w3 ⟨rfl,g2,cap2,hw3,hs3⟩;have q0:=hs3.cell (b:=w.heap.size) y0 ae n0;have q1:=(hs3.block (b:=w.heap.size + 1) aG ae n1).trans y1;have q2:=(hs3.block (b:=w.heap.size + 1 + 1) aG ae n2).trans y2;have qs:=hs3.cell (b:=sb) ys hsbn.1 ns;have m0 : w.heap.size ≠ g2:=hs3.ne aG n0;have m2 : w.heap.size + 1 + 1 ≠ g2:=hs3.ne aG n2;obtain ⟨e0,e1,e2,_,_,_⟩:=aK q1;have z3 : w2.heap.size ≤ w3.heap.size:=hs3.size;have W3:=hid hw3;have S3:=hid ((S2.out.trans (Stp.of_below (Below.refl _ _).drew)).trans hs3)
 refine hK.out _ _ ⟨q0,e1,qs⟩ (fun hHeld3 => ?_)
 clear hK K hw3 hs3;refine tkC (i:=14) rfl ?_;(try simp only [Act.put,sIB]);refine wpAnyH_done aw ?_ _;clear hHeld hHeld2 hHeld3 y0 y1 y2 ys b0 b1 b2;have HL:=hid (HTL.out w3 g2 cap2 W3.out S3.out q0 m0);clear HTL;go_wp2_with fail;refine HL.out.mono ?_;rintro e w4 ⟨aa,ac,rfl,g3,eT,hw4,hs4⟩;have f2:=(hs4.block (b:=w.heap.size + 1 + 1) ae ae m2).trans q2;have m3 : w.heap.size + 1 + 1 ≠ g3:=hs4.ne ae m2;obtain ⟨k0,k1,k2,k3,k4,k5⟩:=aK f2;have W4:=hid hw4;have S4:=hid (S3.out.trans hs4);clear hw4 hs4 HL q0 q1 q2 qs e0 e1 e2;go_wp2_with fail;refine bodyPost_ret (v:=.agg #[.int .i64 t,.string lo,.slice aa cn ac]) ?_ rfl ⟨aa,ac,rfl,g3,eT,?_,?_⟩
 ·exact fH
 ·exact ((W4.out.set (b:=w.heap.size + 1 + 1) ae m3).set (b:=w.heap.size + 1 + 1) ae m3).set (b:=w.heap.size + 1 + 1) ae m3
 ·exact ((S4.out.set ae).set ae).set ae
end
theorem dC {α : Type} (f : List α → α → Int) : ∀ (xs ah : List α),aV f ah xs ≠ 0 → ∃ k x,xs[k]? = some x ∧ aV f ah (xs.take k) = 0 ∧ f (ah ++ xs.take k) x ≠ 0 ∧ aV f ah xs = f (ah ++ xs.take k) x
 | [],ah,h => absurd rfl h
 | x :: r,ah,h => by
  by_cases hx : f ah x = 0
  ·have h' : aV f ah (x :: r) = aV f (ah ++ [x]) r:=by simp [aV,hx]
   rw [h'] at h;obtain ⟨k,y,h1,h2,h3,h4⟩:=dC f r (ah ++ [x]) h;refine ⟨k + 1,y,lW,?_,?_,?_⟩
   ·simp [aV,hx,h2]
   ·simpa using h3
   ·rw [h',h4]; simp
  ·exact ⟨0,x,rfl,rfl,by simpa using hx,by simp [aV,hx]⟩
theorem bp {α : Type} (f : List α → α → Int) : ∀ (xs ah : List α),aV f ah xs = 0 → ∀ (j : Nat) x,xs[j]? = some x → f (ah ++ xs.take j) x = 0
 | [],ah,_,j,x,hj => by simp at hj
 | y :: r,ah,h,j,x,hj => by
  by_cases hy : f ah y = 0
  ·have h' : aV f (ah ++ [y]) r = 0:=by simpa [aV,hy] using h
   cases j with
   | zero => simp at hj; subst hj; simpa using hy
   | succ j =>
    have:=bp f r (ah ++ [y]) h' j x nY
    exact bY
  ·exfalso
   have : aV f ah (y :: r) = f ah y:=by simp [aV,hy]
   rw [this] at h; exact hy h
theorem qa {α : Type} {f h : α → List Int} : ∀ {xs : List α},(∀ z ∈ xs,f z = h z) → xs.flatMap f = xs.flatMap h
 | [],_ => rfl
 | x :: r,hh => by
  simp only [List.flatMap_cons]
  rw [hh x (List.mem_cons_self ..),qa (fun z hz => hh z (List.mem_cons_of_mem _ hz))]
def cA (x : InM) : Int:=chk (tkV x.1) (lgV x.1) x.2.1 x.2.2.2
def cK (x : InM) : List Int:=jh x.1 x.2.1 x.2.2.2
structure p9 (w : World) (R g : Nat) (x : InM) : Prop where
 r0 : 0 ≤ x.1
 r1 : x.1 ≤ 255
 seg : fN w x.2.2.1.1 x.2.2.1.2.1 x.2.2.1.2.2 x.2.2.2
 ne : ∀ b off c,nz x.2.2.1.2.1 x.2.2.1.1 = some ⟨b,off,c⟩ → b ≠ R ∧ b ≠ g
theorem fN.kept' {S : Nat → Prop} {w w' : World} {a : Option Addr} {n cap : Nat} {zs : List Int} (h : fN w a n cap zs) (hk : Kept S w w') (hS : ∀ b off c,nz n a = some ⟨b,off,c⟩ → ¬ S b) : fN w' a n cap zs:=by
 exact Hm
theorem p9.seg' {w W : World} {R g g1 : Nat} {x : InM} (h : p9 w R g x) (hs : Stp R g g1 w W) : fN W x.2.2.1.1 x.2.2.1.2.1 x.2.2.1.2.2 x.2.2.2 :=
 h.seg.kept' hs.k (fun b off c hb => by have:=h.ne b off c hb; simp; omega)
theorem aW.kept {S : Nat → Prop} {w w' : World} (h : aW w) (hk : Kept S w w') (h0 : ¬ S 0) : aW w':=fun j v hj => hk.cell (h j v hj) h0
theorem iq {x : InM} (h : cA x = 0) : (cK x).length ≤ 171:=by
 have:=oq h
 have h16 : x.2.2.2.length ≤ 16:=by
  by_cases ht : tkV x.1 = 3
  ·exact (this.2.2.2.1 ht).2.1
  ·rw [this.2.2.2.2 ht]; simp
 have:=xg (tkV x.1) x.2.1 x.2.2.2 h16
 simp [cK,jh]; omega
section
variable (R g cap : Nat) (bs : List Int) (ca : Option Addr) (cn cc : Nat) (most : Int) (A : Nat) (xs : List InM) (w : World)
theorem CQ (h : Wr w R g cap bs) (hb : bs.length + 300000000000 ≤ 1099511627776) (hn : cn ≤ 100000) (hR0 : R ≠ 0) (hg0 : g ≠ 0) (hk : aW w) (hA : w.cell? ⟨A,0,none⟩ = some (cW R)) (hAR : A ≠ R) (hAg : A ≠ g) (hok : ∀ (j : Nat) x,xs[j]? = some x → p9 w R g x) (hl : xs.length = cn)
  (k : Nat) (hall : ∀ (j : Nat) x,xs[j]? = some x → j < k → cA x = 0) (j : Nat) (x : InM) (hx : xs[j]? = some x) (hjk : j < k) : AV R g w 189 #[.pointer (some ⟨A,0,none⟩)] bs cn xs cK (fun _ _ => True) j x:=by
 intro ys W g1 aQ aa ac _ _ hst hwr _ _;have ho:=hok j x hx;have hlt:=ax hx
 have hlen : ((xs.take j).flatMap cK).length ≤ j * 171:=by
  have:=bV cK 171 (xs.take j) (fun i y hi => by
   have hij : i < j:=lM;rw [List.getElem?_take_of_lt hij] at hi;exact iq (hall i y hi ae))
  exact Ed
 have hu:=aA (cn : Int);refine (zS R g1 aQ _ x.1 x.2.1 x.2.2.1.1 x.2.2.1.2.1 x.2.2.1.2.2 x.2.2.2 W A aa j ac hwr qh (hk.kept hst.k aG) ho.r0 ho.r1 (ho.seg' hst) (hst.cell hA hAR hAg) (hall j x hx hjk)).mono ?_;rintro e w' ⟨he,g',cap',hw',hs'⟩;exact ⟨(x.1,x.2.1,x.2.2.1),he,trivial,g',cap',hw',hs'⟩
theorem yY (h : Wr w R g cap bs) (hb : bs.length + 300000000000 ≤ 1099511627776) (hn : cn ≤ 100000) (hm : (cn : Int) ≤ most) (hR0 : R ≠ 0) (hg0 : g ≠ 0) (hk : aW w) (hA : w.cell? ⟨A,0,none⟩ = some (cW R)) (hAR : A ≠ R) (hAg : A ≠ g) (hmem : AtIn w ca cn xs) (hne : ∀ b off c,nz cn ca = some ⟨b,off,c⟩ → b ≠ R ∧ b ≠ g) (hok : ∀ (j : Nat) x,xs[j]? = some x → p9 w R g x)
  (hx : aV (fun _ x => cA x) [] xs = 0) :
  Calls Tryz.prog 188 #[cW R,.slice ca cn cc,.int .i64 most,.func (.func 189) #[] #[.pointer (some ⟨A,0,none⟩)]] w (fun e w' => ∃ (aa : Option Addr) (ac : Nat),e = .returned (.slice aa cn ac) ∧ ∃ g' cap',Wr w' R g' cap' (bs ++ (au cn ++ xs.flatMap cK)) ∧ Stp R g g' w w'):=by
 have hall:=bp (fun _ x => cA x) xs [] hx
 refine (xS R g cap bs ca cn cc most 189 _ w xs cK (fun _ _ => True) 171 h hn hm hmem hne (fun _ _ => rfl) (fun j x hj => iq (hall j x hj)) ae ae
  (fun j x hj => CQ R g cap bs cn A xs w h hb hn hR0 hg0 hk hA hAR hAg hok hmem.1 (j + 1) (fun i y hi _ => hall i y hi) j x hj ae)).mono ?_
 rintro e w' ⟨aa,ac,ys,he,_,_,_,g',cap',_,hw',hs'⟩;exact ⟨aa,ac,he,g',cap',wN,hs'⟩
theorem Aa (h : Wr w R g cap bs) (hb : bs.length + 300000000000 ≤ 1099511627776) (hn : cn ≤ 100000) (hm : (cn : Int) ≤ most) (hR0 : R ≠ 0) (hg0 : g ≠ 0) (hk : aW w) (hA : w.cell? ⟨A,0,none⟩ = some (cW R)) (hAR : A ≠ R) (hAg : A ≠ g) (hmem : AtIn w ca cn xs) (hne : ∀ b off c,nz cn ca = some ⟨b,off,c⟩ → b ≠ R ∧ b ≠ g) (hok : ∀ (j : Nat) x,xs[j]? = some x → p9 w R g x)
  (hx : aV (fun _ x => cA x) [] xs ≠ 0) :
  Calls Tryz.prog 188 #[cW R,.slice ca cn cc,.int .i64 most,.func (.func 189) #[] #[.pointer (some ⟨A,0,none⟩)]] w (aR R g (aV (fun _ x => cA x) [] xs) w):=by
 obtain ⟨k,x,h1,h2,h3,h4⟩:=dC (fun _ x => cA x) xs [] hx
 have hall:=bp (fun _ x => cA x) (xs.take k) [] h2
 have hall' : ∀ (j : Nat) y,xs[j]? = some y → j < k → cA y = 0:=fun j y hj hjk => hall j y (by rw [List.getElem?_take_of_lt hjk]; exact hj)
 rw [h4]
 have hM : ∀ (j : Nat) y,xs[j]? = some y → (cK y).length ≤ 100000000 ∨ True:=fun _ _ _ => .inr trivial
 refine Ai R g cap bs ca cn cc most 189 _ w xs (fun y => if cA y = 0 then cK y else []) (fun _ _ => True) 171 h hn hm hmem hne (fun _ _ => rfl) (fun j y hj => ?_) ae ae k x (cA x) h1 (fun j y hj hjk => ?_) ?_
 ·split
  ·exact iq cU
  ·simp
 ·have he:=CQ R g cap bs cn A xs w h hb hn hR0 hg0 hk hA hAR hAg hok hmem.1 k hall' j y hj hjk;intro ys W g1 aQ aa ac q1 q2 hst hwr q3 q4
  have hfl : (xs.take j).flatMap (fun y => if cA y = 0 then cK y else []) = (xs.take j).flatMap cK:=by
   apply qa
   intro z hz;obtain ⟨i,hi,rfl⟩:=List.getElem_of_mem hz
   have hi' : i < j:=by simp at hi; omega
   have : cA ((xs.take j)[i]) = 0:=by
    apply hall' i _ _ ae
    rw [List.getElem_take]
    exact aN (by simp at hi; omega)
   rw [if_pos this]
  rw [hfl] at hwr;refine (he ys W g1 aQ aa ac q1 q2 hst hwr q3 q4).mono ?_;rintro e w' ⟨y',e1,e2,g',cap',e3,e4⟩;refine ⟨y',e1,e2,g',cap',?_,e4⟩
  have hy : (fun y => if cA y = 0 then cK y else []) y = cK y:=if_pos (hall' j y hj hjk)
  rw [hfl,hy];exact e3
 ·intro ys W g1 aQ aa ac _ _ hst hwr _ _;have ho:=hok k x h1;exact E9 R g1 aQ _ x.1 x.2.1 x.2.2.1.1 x.2.2.1.2.1 x.2.2.1.2.2 x.2.2.2 W A aa k ac hwr (hk.kept hst.k aG) ho.r0 ho.r1 (ho.seg' hst) (hst.cell hA hAR hAg) (show cA x ≠ 0 from h3)
end
theorem Fx {w : World} {b i : Nat} {cs : Array Value} {t : TypeId} {v : Value} (h : w.heap[b]? = some (.cells cs t)) (hi : i < cs.size) : (w.setCell ⟨b,i,none⟩ v).heap[b]? = some (.cells (cs.setIfInBounds i v) t):=by
 have hb : b < w.heap.size:=by
  rcases Nat.lt_or_ge b w.heap.size with hl | hl
  ·exact hl
  ·rw [Array.getElem?_eq_none hl] at h; cases h
 have hg : w.heap[b] = .cells cs t:=by rw [Array.getElem?_eq_getElem hb] at h; simpa using h
 simp [World.setCell,hb,Array.getElem_modify,hg]
theorem aJ {w : World} {b : Nat} {v0 v1 v2 v3 v4 v5 v6 v7 : Value} {t : TypeId} (h : w.heap[b]? = some (.cells #[v0,v1,v2,v3,v4,v5,v6,v7] t)) :
  (w.cell? ⟨b,0,none⟩ = some v0 ∧ w.cell? ⟨b,1,none⟩ = some v1 ∧ w.cell? ⟨b,2,none⟩ = some v2 ∧ w.cell? ⟨b,3,none⟩ = some v3 ∧ w.cell? ⟨b,4,none⟩ = some v4 ∧ w.cell? ⟨b,5,none⟩ = some v5 ∧ w.cell? ⟨b,6,none⟩ = some v6 ∧ w.cell? ⟨b,7,none⟩ = some v7) ∧
  (w.frozen? ⟨b,0,none⟩ = false ∧ w.frozen? ⟨b,1,none⟩ = false ∧ w.frozen? ⟨b,2,none⟩ = false ∧ w.frozen? ⟨b,3,none⟩ = false ∧ w.frozen? ⟨b,4,none⟩ = false ∧ w.frozen? ⟨b,5,none⟩ = false ∧ w.frozen? ⟨b,6,none⟩ = false ∧ w.frozen? ⟨b,7,none⟩ = false):=by
 simp [World.cell?,World.frozen?,h]
theorem ok_eq {α : Type} {xs ys : List α} (hl : ys.length ≤ xs.length) (h : ∀ (i : Nat) y,ys[i]? = some y → ∃ x,xs[i]? = some x ∧ y = x) : ys = xs.take ys.length:=by
 apply List.ext_getElem?
 intro i
 by_cases hi : i < ys.length
 ·rw [List.getElem?_take_of_lt hi];obtain ⟨x,h1,h2⟩:=h i ys[i] (aN hi);rw [aN hi,h1,h2]
 ·rw [List.getElem?_eq_none ae,List.getElem?_eq_none aG]
theorem qp {w : World} {aa : Option Addr} {j ac : Nat} {ys : List Sg} (hl : ys.length = j) (hj : j ≤ 1099511627776) (h : w.ownsRow 0 62 2 (.slice aa j ac) j (ys.flatMap iu)) : cj w aa j ys:=by
 refine ⟨hl,hj,?_⟩
 rcases Nat.eq_zero_or_pos j with h0 | h0
 ·exact .inl h0
 ·right;obtain ⟨y,hy⟩ : ∃ y,ys[0]? = some y:=⟨_,aN ae⟩
  obtain ⟨B,hB,_⟩:=iV (oc:=iu) (t:=0) (u:=.string y.1) (fun _ => rfl) h hy rfl
  refine ⟨B,0,hB,fun i x hi => ?_⟩
  obtain ⟨B1,hB1,c1⟩:=iV (oc:=iu) (t:=0) (u:=.string x.1) (fun _ => rfl) h hi rfl
  obtain ⟨B2,hB2,c2⟩:=iV (oc:=iu) (t:=1) (u:=.string x.2) (fun _ => rfl) h hi rfl
  rw [hB] at hB1 hB2
  simp at hB1 hB2
  subst hB1 hB2
  exact ⟨by simpa using c1,by simpa using c2⟩
section
variable (R g cap : Nat) (bs : List Int) (ha : Option Addr) (n hc : Nat) (A : Nat) (w : World)
theorem yg (xs : List Sg) (h : Wr w R g cap bs) (hb : bs.length + 300000000000 ≤ 1099511627776) (hn : n ≤ 100000) (hA : w.cell? ⟨A,0,none⟩ = some (cW R)) (hAR : A ≠ R) (hAg : A ≠ g) (hl : xs.length = n) (enc : Sg → List Int) (k : Nat) (henc : ∀ (i : Nat) y,xs[i]? = some y → i < k → enc y = bG y) (hall : ∀ (i : Nat) y,xs[i]? = some y → i < k → bW (xs.take i) y = 0)
  (j : Nat) (x : Sg) (hx : xs[j]? = some x) (hjk : j < k) : MD R g w 114 #[.pointer (some ⟨A,0,none⟩)] bs n xs enc (fun x y => y = x) j x:=by
 intro ys W g1 aQ aa ac hyl hys hst hwr hrow hab;have hlt:=ax hx;have hye:=ok_eq ae hys;rw [hyl] at hye;have hchk:=hall j x hx hjk;have hok:=di hchk
 have hlen : ((xs.take j).flatMap enc).length ≤ j * 36:=by
  have:=bV enc 36 (xs.take j) (fun i y hi => by
   have hij : i < j:=lM;rw [List.getElem?_take_of_lt hij] at hi;rw [henc i y hi ae]
   have:=di (hall i y hi ae)
   exact fQ y this.1 this.2.2.1)
  exact Ed
 have hu:=aA (n : Int);have hRs:=hst.size
 refine (AO R g1 aQ _ x aa j ac A W hwr (hst.cell hA hAR hAg) (fun y => y = x) (bs ++ au n ++ (xs.take j).flatMap enc ++ enc x) (fun W2 hb2 => ?_)).mono ?_
 ·have hsig:=(qp hyl ae hrow).later hb2;rw [hye] at hsig
  refine (Am R g1 aQ _ x.1 x.2 aa j ac (xs.take j) W2 (hwr.later hb2) qh hsig (fun b off c hbb => ⟨?_,(hab _ hbb).2⟩) hchk).mono ?_
  ·have h1:=(hab _ hbb).1;have h2:=h.lt
   simp only at h1
   omega
  ·rintro e w' ⟨he,g',cap',hw',hs'⟩;refine ⟨x,he,rfl,g',cap',?_,hs'⟩;rw [henc j x hx hjk];exact hw'
 ·rintro e w' ⟨y,he,hy,g',cap',hw',hs'⟩;exact ⟨y,he,hy,g',cap',hw',hs'⟩
theorem EY (xs : List Sg) (h : Wr w R g cap bs) (hb : bs.length + 300000000000 ≤ 1099511627776) (hA : w.cell? ⟨A,0,none⟩ = some (cW R)) (hAR : A ≠ R) (hAg : A ≠ g) (hmem : eA w ha n xs) (hne : ∀ b off c,ha = some ⟨b,off,c⟩ → b ≠ R ∧ b ≠ g) (hx : bq bW 64 xs = 0) :
  Calls Tryz.prog 113 #[cW R,.slice ha n hc,.int .i64 64,.func (.func 114) #[] #[.pointer (some ⟨A,0,none⟩)]] w fun e w' => ∃ (aa : Option Addr) (ac : Nat),e = .returned (.slice aa n ac) ∧ cj w' aa n xs ∧ ∃ g' cap',(∀ b,aa = some b → w.heap.size ≤ b.block ∧ b.block ≠ g' ∧ b.block < w'.heap.size) ∧ Wr w' R g' cap' (bs ++ (au n ++ xs.flatMap bG)) ∧ Stp R g g' w w':=by
 have hl:=hmem.1;unfold bq at hx
 split at hx
 ·cases hx
 rename_i hm
 have hall:=bp bW xs [] hx
 have hall' : ∀ (i : Nat) y,xs[i]? = some y → bW (xs.take i) y = 0:=fun i y hi => by simpa using hall i y hi
 refine (ze R g cap bs ha n hc 64 114 _ w xs bG (fun x y => y = x) 36 h ae ae hmem hne (fun _ _ => rfl) (fun j x hj => by have:=di (hall' j x hj); exact fQ x this.1 this.2.2.1) ae ae
  (fun j x hj => yg R g cap bs n A w xs h hb ae hA hAR hAg hl bG (j + 1) (fun _ _ _ _ => rfl) (fun i y hi _ => hall' i y hi) j x hj ae)).mono ?_
 rintro e w' ⟨aa,ac,ys,he,hyl,hys,hrow,g',cap',hab,hw',hs'⟩;have hye:=ok_eq ae hys;rw [hyl,List.take_of_length_le ae] at hye;subst hye
 exact ⟨aa,ac,he,qp hyl ae hrow,g',cap',fun b hb' => ⟨(hab b hb').1,(hab b hb').2,aO hrow (ou hrow hb')⟩,wN,hs'⟩
theorem KM (xs : List Sg) (h : Wr w R g cap bs) (hb : bs.length + 300000000000 ≤ 1099511627776) (hA : w.cell? ⟨A,0,none⟩ = some (cW R)) (hAR : A ≠ R) (hAg : A ≠ g) (hmem : eA w ha n xs) (hne : ∀ b off c,ha = some ⟨b,off,c⟩ → b ≠ R ∧ b ≠ g) (hx : bq bW 64 xs ≠ 0) :
  Calls Tryz.prog 113 #[cW R,.slice ha n hc,.int .i64 64,.func (.func 114) #[] #[.pointer (some ⟨A,0,none⟩)]] w (aR R g (bq bW 64 xs) w):=by
 have hl:=hmem.1;unfold bq at hx ⊢
 by_cases hm : (64 : Int) < xs.length
 ·rw [if_pos hm];exact uD R g cap bs ha n hc 64 _ w h ae
 rw [if_neg hm] at hx ⊢;obtain ⟨k,x,h1,h2,h3,h4⟩:=dC bW xs [] hx;have hall:=bp bW (xs.take k) [] h2
 have hall' : ∀ (i : Nat) y,xs[i]? = some y → i < k → bW (xs.take i) y = 0:=fun i y hi hik => by
  have:=hall i y zU
  rw [List.take_take] at this;have e : min i k = i:=ae;rw [e] at this;exact bY
 rw [h4]
 simp only [List.nil_append] at h3 h4 ⊢
 refine AR R g cap bs ha n hc 64 114 _ w xs (fun y => if y.1.size ≤ 8 ∧ y.2.size ≤ 8 then bG y else []) (fun x y => y = x) 36 h ae ae hmem hne (fun _ _ => rfl) (fun j y hj => ?_) ae ae k x _ h1
  (fun j y hj hjk => yg R g cap bs n A w xs h hb ae hA hAR hAg hl _ k (fun i z hi hik => ?_) hall' j y hj hjk) ?_
 ·show (if y.1.size ≤ 8 ∧ y.2.size ≤ 8 then bG y else []).length ≤ 36
  split
  ·rename_i hh; exact fQ y hh.1 hh.2
  ·simp
 ·have:=di (hall' i z hi hik)
  exact if_pos ⟨this.1,this.2.2.1⟩
 ·intro ys W g1 aQ aa ac hyl hys hst hwr hrow hab;have hlt:=ax h1;have hye:=ok_eq ae hys;rw [hyl] at hye
  refine FO R g1 aQ _ x aa k ac A W hwr (hst.cell hA hAR hAg) _ (fun W2 hb2 => ?_)
  have hsig:=(qp hyl ae hrow).later hb2;rw [hye] at hsig
  have hbb2 : ((xs.take k).flatMap (fun y => if y.1.size ≤ 8 ∧ y.2.size ≤ 8 then bG y else [])).length ≤ k * 36:=by
   have:=bV (fun y : Sg => if y.1.size ≤ 8 ∧ y.2.size ≤ 8 then bG y else []) 36 (xs.take k) (fun i y hi => by
    show (if y.1.size ≤ 8 ∧ y.2.size ≤ 8 then bG y else []).length ≤ 36
    split
    ·rename_i hh; exact fQ y hh.1 hh.2
    ·simp)
   rw [List.length_take] at this;have e : min k xs.length = k:=ae
   rwa [e] at this
  have hu:=aA (n : Int)
  exact EZ R g1 aQ _ x.1 x.2 aa k ac (xs.take k) W2 (hwr.later hb2) qh hsig (fun b off c hbb => ⟨by have q1:=(hab _ hbb).1; have q2:=h.lt; simp only at q1; omega,(hab _ hbb).2⟩) h3
end
end Go.Proofs.YtepnnenohjfkbaaGreatDoor

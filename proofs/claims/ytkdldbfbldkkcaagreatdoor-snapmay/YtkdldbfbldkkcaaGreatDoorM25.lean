/-
  Texts We Lda.
-/
import Derived.Test.YtkdldbfbldkkcaaGreatDoorM00
import Derived.Test.YtkdldbfbldkkcaaGreatDoorM01
import Derived.Test.YtkdldbfbldkkcaaGreatDoorM03
import Derived.Test.YtkdldbfbldkkcaaGreatDoorM24
set_option linter.unusedVariables false
set_option maxRecDepth 100000
set_option maxHeartbeats 16000000
namespace Go.Proofs.YtkdldbfbldkkcaaGreatDoor
open Go.RowKit
theorem ng (s : ByteArray) (w : World) (hs : s.size ≤ 1000000) : Calls Tryz.prog 136 #[.string s] w fun e w' => e = .returned (.bool (qy s)) ∧ Below w.heap.size w w':=by
 obtain ⟨c,W,hrun,hseg,hbl,hsz⟩:=dD w s hs
 have hc : ∀ j,j < s.size → W.cell? ⟨w.heap.size,j,none⟩ = some (.int .u8 ((aL s).getD j 0)):=by
  rcases hseg.2.2.2.2 with h0 | ⟨b,off,hb,h⟩
  ·intro j hj; omega
  ·simp at hb
   obtain ⟨rfl,rfl⟩:=hb;intro j hj
   have:=h j hj
   rwa [Nat.zero_add] at this
 have hcap:=hseg.2.1;have hsl:=dV s;have HB:=hid hbl
 have HNM : Hid (qy s = ((aL s).all (fun b => decide (33 ≤ b) && decide (b ≤ 126)) && !s.toList.isEmpty)):=rfl
 generalize qy s = N at *;generalize aL s = zs at *;clear hseg hbl
 go_enter Tryz.func136,Tryz.ntmps136
 go_wp2_with fail;clear hrun
 go_loopw [8] (fun i wr => ∃ j : Nat,j ≤ s.size ∧ i = .int .i64 j ∧ wr = W ∧ (zs.take j).all (fun b => decide (33 ≤ b) && decide (b ≤ 126)) = true) (fun i _ => s.size - (intOf i).toNat)
 case atStart => exact ⟨0,ae,rfl,rfl,au⟩
 case round =>
  obtain ⟨j,hj,rfl,rfl,hall⟩:=hrel;have HALL:=hid hall;clear hall
  by_cases hlt : j < s.size
  ·have hcj:=hc j hlt;have hjz : j < zs.length:=ae
   have hgd : zs.getD j 0 = zs[j]:=by simp [List.getD,hjz]
   have HZ:=hid hgd;rw [hgd] at hcj;have HJ:=hid (List.take_succ_eq_append_getElem hjz);have HMEM : Hid (zs[j] ∈ zs):=List.getElem_mem hjz;generalize zs[j] = b at *;clear hgd hc
   by_cases h33 : b < 33
   ·have d1 : decide (b < 33) = true:=by simp [h33]
    exact IG
   ·have d1 : decide (b < 33) = false:=aI
    by_cases h126 : 126 < b
    ·have d2 : decide (126 < b) = true:=by simp [h126]
     exact IG
    ·have d2 : decide (126 < b) = false:=aI;go_wp2_with fail
     go_roundw
     ·refine ⟨j + 1,ae,rfl,?_,?_⟩
      ·first | rfl | trivial
      rw [HJ.out,List.all_append,HALL.out]
      simp; omega
     ·simp [intOf]; omega
  ·obtain rfl : j = s.size:=ae;have ht : zs.take s.size = zs:=List.take_of_length_le ae;rw [ht] at HALL;go_wp2_with fail;go_ret;refine ⟨?_,HB.out⟩;rw [HNM.out,HALL.out]
   simp
section
variable (s : ByteArray) (p : Int) (A : Nat) (aa : Option Addr) (an ac : Nat) (ys : List Ex) (w : World)
theorem CO (hs : s.size ≤ 1000000) (hn : qy s = false) : Calls Tryz.prog 135 #[.string s,.int .i64 p,.pointer (some ⟨A,0,none⟩)] w (kC 23 w):=by
 have HI:=hid (ng s w hs);rw [hn] at HI
 go_enter Tryz.func135,Tryz.ntmps135
 go_wp2_with fail;refine HI.out.mono ?_;rintro e w1 ⟨rfl,hb⟩;have HB:=hid hb;clear hb HI;go_wp2_with fail;refine (dX rfl).mono ?_;rintro e w1 ⟨rfl,rfl⟩;exact ⟨rfl,⟨_,rfl⟩,HB.out⟩
theorem rq (hl : ys.length = an) (hrow : w.ownsRow 0 64 2 (.slice aa an ac) an (ys.flatMap iB)) (h0 : 0 < an) : ∃ B y,aa = some ⟨B,0,none⟩ ∧ ys.getLast? = some y ∧ w.cell? ⟨B,(an - 1) * 2,none⟩ = some (.string y.1):=by
 obtain ⟨y,hy⟩ : ∃ y,ys[an - 1]? = some y:=⟨_,ba ae⟩
 obtain ⟨B,hB,hc⟩:=iM (oc:=iB) (t:=0) (u:=.string y.1) (fun _ => rfl) hrow hy rfl
 refine ⟨B,y,hB,?_,hc⟩;rw [List.getLast?_eq_getElem?,hl];exact hy
theorem qo (hs : s.size ≤ 1000000) (hn : qy s = true) (hl : ys.length = an) (han : an ≤ 100000) (hrow : w.ownsRow 0 64 2 (.slice aa an ac) an (ys.flatMap iB)) (ho : iD ys s = false) (hA : w.cell? ⟨A,0,none⟩ = some (.slice aa an ac)) :
  Calls Tryz.prog 135 #[.string s,.int .i64 p,.pointer (some ⟨A,0,none⟩)] w (kr w):=by
 have HI:=hid (ng s w hs);rw [hn] at HI;have hAl:=block_lt_of_cell hA;have HA:=hid hA;have HR:=hid hrow;clear hA hrow
 go_enter Tryz.func135,Tryz.ntmps135
 go_wp2_with fail;refine HI.out.mono ?_;rintro e w1 ⟨rfl,hb⟩;have HB:=hid hb
 have hA1:=(hb.cell (by exact hAl)).trans HA.out
 have R1:=hid (aJ HR.out (fun B hB => hb.block B (aF HR.out hB)))
 clear hb HI
 by_cases h0 : an = 0
 ·subst h0;go_wp2_with fail;refine (cu rfl).mono ?_;rintro e w1 ⟨rfl,rfl⟩;go_wp2_with fail;refine (cu rfl).mono ?_;rintro e w1 ⟨rfl,rfl⟩;go_wp2_with fail;go_end0;exact ⟨rfl,HB.out⟩
 ·obtain ⟨B,y,rfl,hy,hcell⟩:=rq aa an ac ys w1 hl R1.out ae
  have hg : (!Op.bytesLess s.toList y.1.toList && !s.toList == y.1.toList) = true:=by
   have:=ho
   unfold iD at this;rw [hy] at this
   simpa [sGt] using this
  have hz : ((an : Int) == 0) = false:=aI;go_wp2_with fail;refine (cu rfl).mono ?_;rintro e w1 ⟨rfl,rfl⟩;go_wp2_with fail
  refine (cu (by first | rfl | exact hg)).mono ?_
  rintro e w1 ⟨rfl,rfl⟩;go_wp2_with fail;go_end0;exact ⟨rfl,HB.out⟩
theorem De (hs : s.size ≤ 1000000) (hn : qy s = true) (hl : ys.length = an) (han : an ≤ 100000) (hrow : w.ownsRow 0 64 2 (.slice aa an ac) an (ys.flatMap iB)) (ho : iD ys s = true) (hA : w.cell? ⟨A,0,none⟩ = some (.slice aa an ac)) :
  Calls Tryz.prog 135 #[.string s,.int .i64 p,.pointer (some ⟨A,0,none⟩)] w (kC 18 w):=by
 have HI:=hid (ng s w hs);rw [hn] at HI;have hAl:=block_lt_of_cell hA;have HA:=hid hA;have HR:=hid hrow;clear hA hrow
 go_enter Tryz.func135,Tryz.ntmps135
 go_wp2_with fail;refine HI.out.mono ?_;rintro e w1 ⟨rfl,hb⟩;have HB:=hid hb
 have hA1:=(hb.cell (by exact hAl)).trans HA.out
 have R1:=hid (aJ HR.out (fun B hB => hb.block B (aF HR.out hB)))
 clear hb HI
 have h0 : 0 < an:=by
  rcases Nat.eq_zero_or_pos an with h | h
  ·have : ys = []:=List.eq_nil_of_length_eq_zero ae;subst this
   simp [iD] at ho
  ·exact h
 obtain ⟨B,y,rfl,hy,hcell⟩:=rq aa an ac ys w1 hl R1.out h0
 have hg : (!Op.bytesLess s.toList y.1.toList && !s.toList == y.1.toList) = false:=by
  have:=ho
  unfold iD at this;rw [hy] at this
  cases hq : (!Op.bytesLess s.toList y.1.toList && !s.toList == y.1.toList)
  ·rfl
  ·simp [sGt,hq] at this
 have hz : ((an : Int) == 0) = false:=aI;go_wp2_with fail;refine (cu rfl).mono ?_;rintro e w1 ⟨rfl,rfl⟩;go_wp2_with fail
 refine (dX (by first | rfl | exact hg)).mono ?_
 rintro e w1 ⟨rfl,rfl⟩;exact ⟨rfl,⟨_,rfl⟩,HB.out⟩
end
def oa (w : World) (nm : ByteArray) (fn : Int) (aa : Option Addr) (an ac : Nat) : World :=
 ((w.alloc (bM nm fn)).alloc (.cells #[.slice aa an ac] 27)).alloc (bM ⟨#[]⟩ 0)
theorem kT (w : World) (nm : ByteArray) (fn : Int) (aa : Option Addr) (an ac : Nat) : Below w.heap.size w (oa w nm fn aa an ac) ∧ (oa w nm fn aa an ac).heap.size = w.heap.size + 1 + 1 + 1 ∧
  (oa w nm fn aa an ac).heap[w.heap.size]? = some (bM nm fn) ∧ (oa w nm fn aa an ac).cell? ⟨w.heap.size + 1,0,none⟩ = some (.slice aa an ac) ∧ (oa w nm fn aa an ac).heap[w.heap.size + 1 + 1]? = some (bM ⟨#[]⟩ 0):=by
 unfold oa;refine ⟨(((Below.refl _ w).alloc (Nat.le_refl _) _).alloc au _).alloc cE _,au,?_,aB,?_⟩
 ·rw [(aj ((w.alloc (bM nm fn)).alloc (.cells #[.slice aa an ac] 27)) _).block w.heap.size cE,(aj (w.alloc (bM nm fn)) _).block w.heap.size au];exact (MapKept.heap_alloc w _).1
 ·have:=(MapKept.heap_alloc ((w.alloc (bM nm fn)).alloc (.cells #[.slice aa an ac] 27)) (bM ⟨#[]⟩ 0)).1
  exact cm
section
variable (R g cap : Nat) (bs : List Int) (nm : ByteArray) (fn nf : Int) (aa : Option Addr) (an ac : Nat) (ys : List Ex) (w : World)
theorem qw (h : Wr w R g cap bs) (x : Int) (hrow : w.ownsRow 0 64 2 (.slice aa an ac) an (ys.flatMap iB))
  (ht : ∀ W,Wr W R g cap bs → W.ownsRow 0 64 2 (.slice aa an ac) an (ys.flatMap iB) → W.cell? ⟨w.heap.size + 1,0,none⟩ = some (.slice aa an ac) → Calls Tryz.prog 198 #[.pointer (some ⟨R,0,none⟩),.string nm,.int .i64 32,.func (.func 135) #[] #[.pointer (some ⟨w.heap.size + 1,0,none⟩)]] W (aU R g x W)) :
  Calls Tryz.prog 106 #[cW R,.agg #[.string nm,.int .i64 fn],.slice aa an ac,.int .i64 nf] w (aU R g x w):=by
 have hmt:=cX;have hct:=dP;obtain ⟨B0,z0,x0,x1,x2⟩:=kT w nm fn aa an ac;obtain ⟨a0,a1,_,_⟩:=bY x0;have HW : ((w.alloc (bM nm fn)).alloc (.cells #[.slice aa an ac] 27)).alloc (bM ⟨#[]⟩ 0) = oa w nm fn aa an ac:=rfl;generalize oa w nm fn aa an ac = W1 at *
 have HT:=hid (ht W1 (h.later B0) (aJ hrow (fun B hB => B0.block B (aF hrow hB))) x1)
 have BW:=hid B0;clear ht h B0 hrow
 go_enter Tryz.func106,Tryz.ntmps106
 exact Gr
theorem zy (h : Wr w R g cap bs) (hb : bs.length + 200 ≤ 1099511627776) (hl : ys.length = an) (han : an ≤ 100000) (hrow : w.ownsRow 0 64 2 (.slice aa an ac) an (ys.flatMap iB)) (hne : ∀ b,aa = some b → b.block ≠ R ∧ b.block ≠ g)
  (hf0 : -9223372036854775808 ≤ fn) (hf1 : fn < 9223372036854775808) (hnf0 : 0 ≤ nf) (hnf : nf < 9223372036854775808) (hx : gy nf ys (nm,fn) = 0) :
  Calls Tryz.prog 106 #[cW R,.agg #[.string nm,.int .i64 fn],.slice aa an ac,.int .i64 nf] w (nv R g bs (fG (nm,fn)) (.agg #[.string nm,.int .i64 fn]) w):=by
 have hx' : nm.size ≤ 32 ∧ qy nm = true ∧ iD ys nm = false ∧ 0 ≤ fn ∧ fn < nf:=by
  unfold gy cd at hx
  simp only at hx
  split at hx
  ·cases hx
  ·split at hx
   ·cases hx
   ·split at hx
    ·cases hx
    ·split at hx
     ·cases hx
     ·refine ⟨ae,by simp_all,by simp_all,ae,ae⟩
 obtain ⟨s1,n1,o1,f0,f1⟩:=hx';clear hx;have hmt:=cX;have hct:=dP;obtain ⟨B0,z0,x0,x1,x2⟩:=kT w nm fn aa an ac;obtain ⟨a0,a1,_,_⟩:=bY x0;have HW : ((w.alloc (bM nm fn)).alloc (.cells #[.slice aa an ac] 27)).alloc (bM ⟨#[]⟩ 0) = oa w nm fn aa an ac:=rfl;have hRl:=h.lt;have hgl:=h.g_lt;have u1:=eB nm 32 s1;generalize oa w nm fn aa an ac = W1 at *
 have HT:=hid (di R g cap bs nm 32 135 #[.pointer (some ⟨w.heap.size + 1,0,none⟩)] W1 (h.later B0) ae ae ae (fun _ _ => rfl) (qo nm _ (w.heap.size + 1) aa an ac ys W1 ae n1 hl han (aJ hrow (fun B hB => B0.block B (aF hrow hB))) o1 x1))
 have BW:=hid B0;clear h B0 hrow
 go_enter Tryz.func106,Tryz.ntmps106
 go_wp2_with fail;refine HT.out.mono ?_;rintro e w2 ⟨rfl,g1,cap1,hw2,hs2⟩;have y0:=(hs2.block (b:=w.heap.size) ae ae ae).trans x0;have y2:=(hs2.block (b:=w.heap.size + 1 + 1) ae ae ae).trans x2;have n2 : w.heap.size + 1 + 1 ≠ g1:=hs2.ne ae ae;obtain ⟨b0,b1,_,_⟩:=bY y0;have S2:=hid ((Stp.of_below BW.out).trans hs2);have z2:=hs2.size;have HX:=hid (fB R g1 cap1 (bs ++ lA nm) fn nf w2 hw2 aI f0 f1 hnf);clear hs2 HT hw2 x0 x1 x2 a0 a1 hmt hct HW;go_wp2_with fail;refine HX.out.mono ?_;rintro e w3 ⟨rfl,g2,cap2,hw3,hs3⟩;have q2:=(hs3.block (b:=w.heap.size + 1 + 1) ae ae n2).trans y2;have n3 : w.heap.size + 1 + 1 ≠ g2:=hs3.ne ae n2;obtain ⟨c0,c1,c2,c3⟩:=bY q2;have W3:=hid hw3;have S3:=hid (S2.out.trans hs3);clear hw3 hs3 HX y0 y2 b0 b1;go_wp2_with fail;refine bodyPost_ret (v:=.agg #[.string nm,.int .i64 fn]) ?_ rfl ⟨rfl,g2,cap2,?_,?_⟩
 ·exact cF
 ·have:=(W3.out.set (b:=w.heap.size + 1 + 1) (o:=0) (v:=.string nm) ae n3).set (b:=w.heap.size + 1 + 1) (o:=1) (v:=.int .i64 fn) ae n3
  simpa [fG,List.append_assoc] using this
 ·exact (S3.out.set ae).set ae
theorem C0 (h : Wr w R g cap bs) (hb : bs.length + 200 ≤ 1099511627776) (hl : ys.length = an) (han : an ≤ 100000) (hrow : w.ownsRow 0 64 2 (.slice aa an ac) an (ys.flatMap iB))
  (hf0 : -9223372036854775808 ≤ fn) (hf1 : fn < 9223372036854775808) (hnf0 : 0 ≤ nf) (hnf : nf < 9223372036854775808) (s1 : nm.size ≤ 32) (n1 : qy nm = true) (o1 : iD ys nm = false) (hbad : fn < 0 ∨ nf ≤ fn) :
  Calls Tryz.prog 106 #[cW R,.agg #[.string nm,.int .i64 fn],.slice aa an ac,.int .i64 nf] w (aU R g 30 w):=by
 have hmt:=cX;have hct:=dP;obtain ⟨B0,z0,x0,x1,x2⟩:=kT w nm fn aa an ac;obtain ⟨a0,a1,_,_⟩:=bY x0;have HW : ((w.alloc (bM nm fn)).alloc (.cells #[.slice aa an ac] 27)).alloc (bM ⟨#[]⟩ 0) = oa w nm fn aa an ac:=rfl;have hRl:=h.lt;have hgl:=h.g_lt;generalize oa w nm fn aa an ac = W1 at *
 have HT:=hid (di R g cap bs nm 32 135 #[.pointer (some ⟨w.heap.size + 1,0,none⟩)] W1 (h.later B0) ae ae ae (fun _ _ => rfl) (qo nm _ (w.heap.size + 1) aa an ac ys W1 ae n1 hl han (aJ hrow (fun B hB => B0.block B (aF hrow hB))) o1 x1))
 have BW:=hid B0;clear h B0 hrow
 go_enter Tryz.func106,Tryz.ntmps106
 go_wp2_with fail;refine HT.out.mono ?_;rintro e w2 ⟨rfl,g1,cap1,hw2,hs2⟩;have y0:=(hs2.block (b:=w.heap.size) ae ae ae).trans x0;obtain ⟨b0,b1,_,_⟩:=bY y0;have S2:=hid ((Stp.of_below BW.out).trans hs2);have HX:=hid (jD R g1 cap1 _ fn nf w2 hw2 hf0 hf1 hbad hnf0 hnf);clear hs2 HT hw2 x0 x1 x2 a0 a1 hmt hct HW;exact Aj
theorem CR (h : Wr w R g cap bs) (hb : bs.length + 200 ≤ 1099511627776) (hs : nm.size ≤ 1000000 ∨ 32 < nm.size) (hl : ys.length = an) (han : an ≤ 100000) (hrow : w.ownsRow 0 64 2 (.slice aa an ac) an (ys.flatMap iB))
  (hf0 : -9223372036854775808 ≤ fn) (hf1 : fn < 9223372036854775808) (hnf0 : 0 ≤ nf) (hnf : nf < 9223372036854775808) (hx : gy nf ys (nm,fn) ≠ 0) :
  Calls Tryz.prog 106 #[cW R,.agg #[.string nm,.int .i64 fn],.slice aa an ac,.int .i64 nf] w (aU R g (gy nf ys (nm,fn)) w):=by
 unfold gy cd at hx ⊢
 simp only at hx ⊢
 by_cases s1 : 32 < nm.size
 ·rw [if_pos s1]
  exact qw R g cap bs nm fn nf aa an ac ys w h 13 hrow (fun W hW _ _ => fh R g cap bs nm 32 _ W hW ae)
 rw [if_neg s1] at hx ⊢
 by_cases n1 : qy nm = false
 ·rw [if_pos n1]
  exact qw R g cap bs nm fn nf aa an ac ys w h 23 hrow (fun W hW _ _ => eQ R g cap bs nm 32 135 _ 23 W hW ae (fun _ _ => rfl) (CO nm _ _ W ae n1))
 rw [if_neg n1] at hx ⊢
 have n1' : qy nm = true:=by simpa using n1
 by_cases o1 : iD ys nm = true
 ·rw [if_pos o1]
  exact qw R g cap bs nm fn nf aa an ac ys w h 18 hrow (fun W hW hr hc => eQ R g cap bs nm 32 135 _ 18 W hW ae (fun _ _ => rfl) (De nm _ _ aa an ac ys W ae n1' hl han hr o1 hc))
 rw [if_neg o1] at hx ⊢
 have o1' : iD ys nm = false:=by simpa using o1
 by_cases f1 : fn < 0 ∨ nf ≤ fn
 ·rw [if_pos f1];exact C0 R g cap bs nm fn nf aa an ac ys w h hb hl han hrow hf0 hf1 hnf0 hnf ae n1' o1' f1
 ·rw [if_neg f1] at hx; exact absurd rfl hx
end
theorem Ks : ∃ i,Tryz.prog.info? 62 = some i ∧ i.zero = some (.agg #[.int .i64 0,.slice none 0 0]) ∧ i.size = 2 ∧ i.bytes = 32:=by
 have h : (Tryz.prog.info? 62).map (fun i => (i.zero,i.size,i.bytes)) = some (some (.agg #[.int .i64 0,.slice none 0 0]),2,32):=ak
 cases hi : Tryz.prog.info? 62 with
 | none => rw [hi] at h; cases h
 | some i => rw [hi] at h; simp at h; exact ⟨i,rfl,h.1,h.2.1,h.2.2⟩
def ig (y : (Int × (Option Addr × Nat × Nat))) : List Value:=[.int .i64 y.1,.slice y.2.1 y.2.2.1 y.2.2.2]
abbrev Nj (x : (Int × (Option Addr × Nat × Nat) × List Int)) : Value:=.agg #[.int .i64 x.1,.slice x.2.1.1 x.2.1.2.1 x.2.1.2.2]
abbrev MF (y : (Int × (Option Addr × Nat × Nat))) : Value:=.agg #[.int .i64 y.1,.slice y.2.1 y.2.2.1 y.2.2.2]
def qq (w : World) (a : Option Addr) (n : Nat) (xs : List (Int × (Option Addr × Nat × Nat) × List Int)) : Prop :=
 xs.length = n ∧ (n = 0 ∨ ∃ b off,a = some ⟨b,off,none⟩ ∧ ∀ (j : Nat) x,xs[j]? = some x → w.cell? ⟨b,off + j * 2,none⟩ = some (.int .i64 x.1) ∧ w.cell? ⟨b,off + j * 2 + 1,none⟩ = some (.slice x.2.1.1 x.2.1.2.1 x.2.1.2.2))
theorem qq.kept {S : Nat → Prop} {w w' : World} {a : Option Addr} {n : Nat} {xs : List (Int × (Option Addr × Nat × Nat) × List Int)} (h : qq w a n xs) (hk : Kept S w w') (hS : ∀ b off c,a = some ⟨b,off,c⟩ → ¬ S b) : qq w' a n xs:=by
 exact yG
theorem vt (w : World) (y : (Int × (Option Addr × Nat × Nat))) : ∀ j u,(ig y)[j]? = some u → (w.alloc (bO y.1 y.2.1 y.2.2.1 y.2.2.2)).cell? ((⟨w.heap.size,0,none⟩ : Addr).add j) = some u:=by
 intro j u hj;have hlt:=az hj;have hl : (ig y).length = 2:=rfl;rw [hl] at hlt;have hadd : (⟨w.heap.size,0,none⟩ : Addr).add j = ⟨w.heap.size,j,none⟩:=dJ;rw [hadd];have hb:=(MapKept.heap_alloc w (bO y.1 y.2.1 y.2.2.1 y.2.2.2)).1
 simp only [World.cell?,hb]
 simpa [ig] using hj
theorem vH (y : (Int × (Option Addr × Nat × Nat))) : ∀ u ∈ ig y,u.oneCell' = true:=by
 intro u hu
 simp [ig] at hu
 rcases hu with rfl | rfl <;> rfl
def yU (R g : Nat) (w : World) (K : Nat) (cs : Array Value) (bs : List Int) (n : Nat) (xs : List (Int × (Option Addr × Nat × Nat) × List Int)) (enc : (Int × (Option Addr × Nat × Nat) × List Int) → List Int) (Ok : (Int × (Option Addr × Nat × Nat) × List Int) → (Int × (Option Addr × Nat × Nat)) → Prop) (j : Nat) (x : (Int × (Option Addr × Nat × Nat) × List Int)) : Prop :=
 ∀ (ys : List (Int × (Option Addr × Nat × Nat))) (W : World) (g1 cap1 : Nat) (aa : Option Addr) (ac : Nat),ys.length = j → (∀ (i : Nat) y,ys[i]? = some y → ∃ x',xs[i]? = some x' ∧ Ok x' y) → Stp R g g1 w W → Wr W R g1 cap1 (bs ++ aw n ++ (xs.take j).flatMap enc) →
  W.ownsRow 0 62 2 (.slice aa j ac) j (ys.flatMap ig) → (∀ b,aa = some b → w.heap.size ≤ b.block ∧ b.block ≠ g1) →
  Calls Tryz.prog K (#[Nj x,.slice aa j ac] ++ cs) W (fun e w' => ∃ y,e = .returned (MF y) ∧ Ok x y ∧ ∃ g' cap',Wr w' R g' cap' (bs ++ aw n ++ (xs.take j).flatMap enc ++ enc x) ∧ Stp R g1 g' W w')
def H6 (R g : Nat) (w : World) (K : Nat) (cs : Array Value) (bs : List Int) (n : Nat) (xs : List (Int × (Option Addr × Nat × Nat) × List Int)) (enc : (Int × (Option Addr × Nat × Nat) × List Int) → List Int) (Ok : (Int × (Option Addr × Nat × Nat) × List Int) → (Int × (Option Addr × Nat × Nat)) → Prop) (j : Nat) (x : (Int × (Option Addr × Nat × Nat) × List Int)) (er : Int) : Prop :=
 ∀ (ys : List (Int × (Option Addr × Nat × Nat))) (W : World) (g1 cap1 : Nat) (aa : Option Addr) (ac : Nat),ys.length = j → (∀ (i : Nat) y,ys[i]? = some y → ∃ x',xs[i]? = some x' ∧ Ok x' y) → Stp R g g1 w W → Wr W R g1 cap1 (bs ++ aw n ++ (xs.take j).flatMap enc) →
  W.ownsRow 0 62 2 (.slice aa j ac) j (ys.flatMap ig) → (∀ b,aa = some b → w.heap.size ≤ b.block ∧ b.block ≠ g1) →
  Calls Tryz.prog K (#[Nj x,.slice aa j ac] ++ cs) W (aU R g1 er W)
theorem wH (R g cap : Nat) (bs : List Int) (ha : Option Addr) (n hc : Nat) (most : Int) (K : Nat) (cs : Array Value) (w : World) (xs : List (Int × (Option Addr × Nat × Nat) × List Int)) (enc : (Int × (Option Addr × Nat × Nat) × List Int) → List Int) (Ok : (Int × (Option Addr × Nat × Nat) × List Int) → (Int × (Option Addr × Nat × Nat)) → Prop) (M : Nat)
  (h : Wr w R g cap bs) (hn : n ≤ 100000) (hm : (n : Int) ≤ most) (hmem : qq w ha n xs) (hne : ∀ b off c,ha = some ⟨b,off,c⟩ → b ≠ R ∧ b ≠ g)
  (hK : ∀ args w,(callFunc K args).run Tryz.prog w = .ok (.enter K args) w) (hlen : ∀ (j : Nat) x,xs[j]? = some x → (enc x).length ≤ M) (hM : M ≤ 1000000) (hb : bs.length + 200000000000 ≤ 1099511627776)
  (heach : ∀ (j : Nat) x,xs[j]? = some x → yU R g w K cs bs n xs enc Ok j x) :
  Calls Tryz.prog 101 #[cW R,.slice ha n hc,.int .i64 most,.func (.func K) #[] cs] w fun e w' => ∃ (aa : Option Addr) (ac : Nat) (ys : List (Int × (Option Addr × Nat × Nat))),e = .returned (.slice aa n ac) ∧ ys.length = n ∧ (∀ (i : Nat) y,ys[i]? = some y → ∃ x,xs[i]? = some x ∧ Ok x y) ∧
   w'.ownsRow 0 62 2 (.slice aa n ac) n (ys.flatMap ig) ∧ ∃ g' cap',(∀ b,aa = some b → w.heap.size ≤ b.block ∧ b.block ≠ g') ∧ Wr w' R g' cap' (bs ++ aw n ++ xs.flatMap enc) ∧ Stp R g g' w w':=by
 have hmc:=br;have hcc:=bR;have HC:=hid (bH R g cap bs n most w h hm ae ae);have hRl:=h.lt;have hgl:=h.g_lt;have hxl:=hmem.1;have HM:=hid hmem;have HNE:=hid hne;have HE:=hid heach;obtain ⟨i0,hi,hz0,hz1,hz2⟩:=Ks;clear h hmem heach hne
 go_enter Tryz.func101,Tryz.ntmps101
 go_wp2_with fail;refine HC.out.mono ?_;rintro e w2 ⟨rfl,g1,cap1,hw2,hs2⟩;have W2:=hid hw2;have S2:=hid hs2;clear hw2 hs2 HC hmc hcc;go_wp2_with fail
 go_loopw [9,17] (fun o i wr => ∃ (j : Nat) (ys : List (Int × (Option Addr × Nat × Nat))) (aa : Option Addr) (ac g1 cap1 : Nat),j ≤ n ∧ i = .int .i64 j ∧ o = .slice aa j ac ∧ ys.length = j ∧ (∀ (i : Nat) y,ys[i]? = some y → ∃ x,xs[i]? = some x ∧ Ok x y) ∧
   wr.ownsRow 0 62 2 (.slice aa j ac) j (ys.flatMap ig) ∧ (∀ b,aa = some b → w.heap.size ≤ b.block ∧ b.block ≠ g1) ∧ Wr wr R g1 cap1 (bs ++ aw n ++ (xs.take j).flatMap enc) ∧ Stp R g g1 w wr) (fun _ i _ => n - (intOf i).toNat)
 case atStart => exact ⟨0,[],none,0,g1,cap1,ae,rfl,rfl,rfl,(fun i y h => ei),World.ownsRow_nil _ _ _ _,(fun b h => cj),fy,S2.out⟩
 case round =>
  obtain ⟨j,ys,aa,ac,g3,cap3,hj,rfl,rfl,hyl,hys,hrow,hab,hwr,hst⟩:=hrel;have HY:=hid hys;have HRW:=hid hrow;have HAB:=hid hab;have HWR:=hid hwr;have HST:=hid hst;clear hys hrow hab hwr hst W2 S2
  by_cases hlt : j < n
  ·obtain ⟨x,hx⟩ : ∃ x,xs[j]? = some x:=⟨_,ba ae⟩
   obtain ⟨b,off,rfl,hcell⟩ : ∃ b off,ha = some ⟨b,off,none⟩ ∧ ∀ (j : Nat) x,xs[j]? = some x → wr.cell? ⟨b,off + j * 2,none⟩ = some (.int .i64 x.1) ∧ wr.cell? ⟨b,off + j * 2 + 1,none⟩ = some (.slice x.2.1.1 x.2.1.2.1 x.2.1.2.2):=by
    exact dL
   have hcj:=hcell j x hx;have hbl:=block_lt_of_cell hcj.1;clear hcell;obtain ⟨v0,v1⟩:=hcj;have BN:=hid (aj wr (bO x.1 x.2.1.1 x.2.1.2.1 x.2.1.2.2))
   have HC1:=hid (HE.out j x hx ys (wr.alloc (bO x.1 x.2.1.1 x.2.1.2.1 x.2.1.2.2)) g3 cap3 aa ac hyl HY.out (HST.out.trans (Stp.of_below BN.out)) (HWR.out.later BN.out) (aJ HRW.out (fun B hB => BN.out.block B (aF HRW.out hB))) HAB.out)
   exact K9
  ·exact nj
theorem yL (R g cap : Nat) (bs : List Int) (ha : Option Addr) (n hc : Nat) (most : Int) (K : Nat) (cs : Array Value) (w : World) (xs : List (Int × (Option Addr × Nat × Nat) × List Int)) (enc : (Int × (Option Addr × Nat × Nat) × List Int) → List Int) (Ok : (Int × (Option Addr × Nat × Nat) × List Int) → (Int × (Option Addr × Nat × Nat)) → Prop) (M : Nat)
  (h : Wr w R g cap bs) (hn : n ≤ 100000) (hm : (n : Int) ≤ most) (hmem : qq w ha n xs) (hne : ∀ b off c,ha = some ⟨b,off,c⟩ → b ≠ R ∧ b ≠ g)
  (hK : ∀ args w,(callFunc K args).run Tryz.prog w = .ok (.enter K args) w) (hlen : ∀ (j : Nat) x,xs[j]? = some x → (enc x).length ≤ M) (hM : M ≤ 1000000) (hb : bs.length + 200000000000 ≤ 1099511627776)
  (k : Nat) (xk : (Int × (Option Addr × Nat × Nat) × List Int)) (er : Int) (hk : xs[k]? = some xk) (heach : ∀ (j : Nat) x,xs[j]? = some x → j < k → yU R g w K cs bs n xs enc Ok j x) (hno : H6 R g w K cs bs n xs enc Ok k xk er) :
  Calls Tryz.prog 101 #[cW R,.slice ha n hc,.int .i64 most,.func (.func K) #[] cs] w (aU R g er w):=by
 have hkn:=az hk;have hmc:=br;have hcc:=bR;have HC:=hid (bH R g cap bs n most w h hm ae ae);have hRl:=h.lt;have hgl:=h.g_lt;have hxl:=hmem.1;have HM:=hid hmem;have HNE:=hid hne;have HE:=hid heach;have HN:=hid hno;obtain ⟨i0,hi,hz0,hz1,hz2⟩:=Ks;clear h hmem heach hne hno
 go_enter Tryz.func101,Tryz.ntmps101
 go_wp2_with fail;refine HC.out.mono ?_;rintro e w2 ⟨rfl,g1,cap1,hw2,hs2⟩;have W2:=hid hw2;have S2:=hid hs2;clear hw2 hs2 HC hmc hcc;go_wp2_with fail
 go_loopw [9,17] (fun o i wr => ∃ (j : Nat) (ys : List (Int × (Option Addr × Nat × Nat))) (aa : Option Addr) (ac g1 cap1 : Nat),j ≤ k ∧ i = .int .i64 j ∧ o = .slice aa j ac ∧ ys.length = j ∧ (∀ (i : Nat) y,ys[i]? = some y → ∃ x,xs[i]? = some x ∧ Ok x y) ∧
   wr.ownsRow 0 62 2 (.slice aa j ac) j (ys.flatMap ig) ∧ (∀ b,aa = some b → w.heap.size ≤ b.block ∧ b.block ≠ g1) ∧ Wr wr R g1 cap1 (bs ++ aw n ++ (xs.take j).flatMap enc) ∧ Stp R g g1 w wr) (fun _ i _ => n - (intOf i).toNat)
 case atStart => exact ⟨0,[],none,0,g1,cap1,ae,rfl,rfl,rfl,(fun i y h => ei),World.ownsRow_nil _ _ _ _,(fun b h => cj),fy,S2.out⟩
 case round =>
  obtain ⟨j,ys,aa,ac,g3,cap3,hj,rfl,rfl,hyl,hys,hrow,hab,hwr,hst⟩:=hrel;have HY:=hid hys;have HRW:=hid hrow;have HAB:=hid hab;have HWR:=hid hwr;have HST:=hid hst;clear hys hrow hab hwr hst W2 S2;have hlt : j < n:=ae
  ·obtain ⟨x,hx⟩ : ∃ x,xs[j]? = some x:=⟨_,ba ae⟩
   obtain ⟨b,off,rfl,hcell⟩ : ∃ b off,ha = some ⟨b,off,none⟩ ∧ ∀ (j : Nat) x,xs[j]? = some x → wr.cell? ⟨b,off + j * 2,none⟩ = some (.int .i64 x.1) ∧ wr.cell? ⟨b,off + j * 2 + 1,none⟩ = some (.slice x.2.1.1 x.2.1.2.1 x.2.1.2.2):=by
    exact dL
   have hcj:=hcell j x hx;have hbl:=block_lt_of_cell hcj.1;clear hcell;obtain ⟨v0,v1⟩:=hcj;have BN:=hid (aj wr (bO x.1 x.2.1.1 x.2.1.2.1 x.2.1.2.2))
   by_cases hjk : j < k
   ·skip
    have HC1:=hid (HE.out j x hx hjk ys (wr.alloc (bO x.1 x.2.1.1 x.2.1.2.1 x.2.1.2.2)) g3 cap3 aa ac hyl HY.out (HST.out.trans (Stp.of_below BN.out)) (HWR.out.later BN.out) (aJ HRW.out (fun B hB => BN.out.block B (aF HRW.out hB))) HAB.out)
    exact K9
   ·obtain rfl : j = k:=ae;obtain rfl : x = xk:=lj
    have HC1:=hid (HN.out ys (wr.alloc (bO x.1 x.2.1.1 x.2.1.2.1 x.2.1.2.2)) g3 cap3 aa ac hyl HY.out (HST.out.trans (Stp.of_below BN.out)) (HWR.out.later BN.out) (aJ HRW.out (fun B hB => BN.out.block B (aF HRW.out hB))) HAB.out)
    exact mS
theorem uO (R g cap : Nat) (bs : List Int) (ha : Option Addr) (n hc : Nat) (most : Int) (f : Value) (w : World) (h : Wr w R g cap bs) (hm : most < (n : Int)) :
  Calls Tryz.prog 101 #[cW R,.slice ha n hc,.int .i64 most,f] w (aU R g 20 w):=by
 have hmc:=br;have hcc:=bR;have HC:=hid (dS R g cap bs n most w h hm);clear h
 go_enter Tryz.func101,Tryz.ntmps101
 exact jk
end Go.Proofs.YtkdldbfbldkkcaaGreatDoor

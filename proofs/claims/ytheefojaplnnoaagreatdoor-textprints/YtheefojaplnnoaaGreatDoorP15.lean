/-
  Texts We Sc.
-/
import Derived.Test.YtheefojaplnnoaaGreatDoorP00
import Derived.Test.YtheefojaplnnoaaGreatDoorP01
import Derived.Test.YtheefojaplnnoaaGreatDoorP05
import Derived.Test.YtheefojaplnnoaaGreatDoorP14
set_option linter.unusedVariables false
set_option maxRecDepth 100000
set_option maxHeartbeats 16000000
namespace Go.Proofs.YtheefojaplnnoaaGreatDoor
open Go.RowKit
theorem oh (s : ByteArray) (w : World) (hs : s.size ≤ 1000000) : Calls Tryz.prog 200 #[.string s] w fun e w' => e = .returned (.bool (iR s)) ∧ Below w.heap.size w w':=by
 obtain ⟨c,W,hrun,hseg,hbl,hsz⟩:=qF w s hs
 have hc : ∀ j,j < s.size → W.cell? ⟨w.heap.size,j,none⟩ = some (.int .u8 ((aZ s).getD j 0)):=by
  rcases hseg.2.2.2.2 with h0 | ⟨b,off,hb,h⟩
  ·intro j hj; omega
  ·simp at hb
   obtain ⟨rfl,rfl⟩:=hb;intro j hj
   have:=h j hj
   rwa [Nat.zero_add] at this
 have hcap:=hseg.2.1;have hsl:=eO s;have HB:=hid hbl
 have HNM : Hid (iR s = ((aZ s).all (fun b => decide (33 ≤ b) && decide (b ≤ 126)) && !s.toList.isEmpty)):=rfl
 generalize iR s = N at *;generalize aZ s = zs at *;clear hseg hbl
 go_enter Tryz.func200,Tryz.ntmps200
 go_wp2_with fail;clear hrun
 go_loopw [8] (fun i wr => ∃ j : Nat,j ≤ s.size ∧ i = .int .i64 j ∧ wr = W ∧ (zs.take j).all (fun b => decide (33 ≤ b) && decide (b ≤ 126)) = true) (fun i _ => s.size - (intOf i).toNat)
 case atStart => exact ⟨0,ae,rfl,rfl,aq⟩
 case round =>
  obtain ⟨j,hj,rfl,rfl,hall⟩:=hrel;have HALL:=hid hall;clear hall
  by_cases hlt : j < s.size
  ·have hcj:=hc j hlt;have hjz : j < zs.length:=ae
   have hgd : zs.getD j 0 = zs[j]:=by simp [List.getD,hjz]
   have HZ:=hid hgd;rw [hgd] at hcj;have HJ:=hid (List.take_succ_eq_append_getElem hjz);have HMEM : Hid (zs[j] ∈ zs):=List.getElem_mem hjz;generalize zs[j] = b at *;clear hgd hc
   by_cases h33 : b < 33
   ·have d1 : decide (b < 33) = true:=by simp [h33]
    exact Eh
   ·have d1 : decide (b < 33) = false:=aG
    by_cases h126 : 126 < b
    ·have d2 : decide (126 < b) = true:=by simp [h126]
     exact Eh
    ·have d2 : decide (126 < b) = false:=aG;go_wp2_with fail
     go_roundw
     ·refine ⟨j + 1,ae,rfl,?_,?_⟩
      ·first | rfl | trivial
      rw [HJ.out,List.all_append,HALL.out]
      simp; omega
     ·simp [intOf]; omega
  ·obtain rfl : j = s.size:=ae;have ht : zs.take s.size = zs:=List.take_of_length_le ae;rw [ht] at HALL;go_wp2_with fail;go_ret;refine ⟨?_,HB.out⟩;rw [HNM.out,HALL.out]
   simp
section
variable (s : ByteArray) (p : Int) (A : Nat) (aa : Option Addr) (an ac : Nat) (ys : List Ex) (w : World)
theorem Dj (hs : s.size ≤ 1000000) (hn : iR s = false) : Calls Tryz.prog 199 #[.string s,.int .i64 p,.pointer (some ⟨A,0,none⟩)] w (kZ 23 w):=by
 have HI:=hid (oh s w hs);rw [hn] at HI
 go_enter Tryz.func199,Tryz.ntmps199
 go_wp2_with fail;refine HI.out.mono ?_;rintro e w1 ⟨rfl,hb⟩;have HB:=hid hb;clear hb HI;go_wp2_with fail;refine (eP rfl).mono ?_;rintro e w1 ⟨rfl,rfl⟩;exact ⟨rfl,⟨_,rfl⟩,HB.out⟩
theorem rQ (hl : ys.length = an) (hrow : w.ownsRow 0 83 2 (.slice aa an ac) an (ys.flatMap jd)) (h0 : 0 < an) : ∃ B y,aa = some ⟨B,0,none⟩ ∧ ys.getLast? = some y ∧ w.cell? ⟨B,(an - 1) * 2,none⟩ = some (.string y.1):=by
 obtain ⟨y,hy⟩ : ∃ y,ys[an - 1]? = some y:=⟨_,aN ae⟩
 obtain ⟨B,hB,hc⟩:=ji (oc:=jd) (t:=0) (u:=.string y.1) (fun _ => rfl) hrow hy rfl
 refine ⟨B,y,hB,?_,hc⟩;rw [List.getLast?_eq_getElem?,hl];exact hy
theorem pT (hs : s.size ≤ 1000000) (hn : iR s = true) (hl : ys.length = an) (han : an ≤ 100000) (hrow : w.ownsRow 0 83 2 (.slice aa an ac) an (ys.flatMap jd)) (ho : fy ys s = false) (hA : w.cell? ⟨A,0,none⟩ = some (.slice aa an ac)) :
  Calls Tryz.prog 199 #[.string s,.int .i64 p,.pointer (some ⟨A,0,none⟩)] w (lg w):=by
 have HI:=hid (oh s w hs);rw [hn] at HI;have hAl:=block_lt_of_cell hA;have HA:=hid hA;have HR:=hid hrow;clear hA hrow
 go_enter Tryz.func199,Tryz.ntmps199
 go_wp2_with fail;refine HI.out.mono ?_;rintro e w1 ⟨rfl,hb⟩;have HB:=hid hb
 have hA1:=(hb.cell (by exact hAl)).trans HA.out
 have R1:=hid (aF HR.out (fun B hB => hb.block B (aC HR.out hB)))
 clear hb HI
 by_cases h0 : an = 0
 ·subst h0;go_wp2_with fail;refine (cA rfl).mono ?_;rintro e w1 ⟨rfl,rfl⟩;go_wp2_with fail;refine (cA rfl).mono ?_;rintro e w1 ⟨rfl,rfl⟩;go_wp2_with fail;go_end0;exact ⟨rfl,HB.out⟩
 ·obtain ⟨B,y,rfl,hy,hcell⟩:=rQ aa an ac ys w1 hl R1.out ae
  have hg : (!Op.bytesLess s.toList y.1.toList && !s.toList == y.1.toList) = true:=by
   have:=ho
   unfold fy at this;rw [hy] at this
   simpa [sGt] using this
  have hz : ((an : Int) == 0) = false:=aG;go_wp2_with fail;refine (cA rfl).mono ?_;rintro e w1 ⟨rfl,rfl⟩;go_wp2_with fail
  refine (cA (by first | rfl | exact hg)).mono ?_
  rintro e w1 ⟨rfl,rfl⟩;go_wp2_with fail;go_end0;exact ⟨rfl,HB.out⟩
theorem CP (hs : s.size ≤ 1000000) (hn : iR s = true) (hl : ys.length = an) (han : an ≤ 100000) (hrow : w.ownsRow 0 83 2 (.slice aa an ac) an (ys.flatMap jd)) (ho : fy ys s = true) (hA : w.cell? ⟨A,0,none⟩ = some (.slice aa an ac)) :
  Calls Tryz.prog 199 #[.string s,.int .i64 p,.pointer (some ⟨A,0,none⟩)] w (kZ 18 w):=by
 have HI:=hid (oh s w hs);rw [hn] at HI;have hAl:=block_lt_of_cell hA;have HA:=hid hA;have HR:=hid hrow;clear hA hrow
 go_enter Tryz.func199,Tryz.ntmps199
 go_wp2_with fail;refine HI.out.mono ?_;rintro e w1 ⟨rfl,hb⟩;have HB:=hid hb
 have hA1:=(hb.cell (by exact hAl)).trans HA.out
 have R1:=hid (aF HR.out (fun B hB => hb.block B (aC HR.out hB)))
 clear hb HI
 have h0 : 0 < an:=by
  rcases Nat.eq_zero_or_pos an with h | h
  ·have : ys = []:=List.eq_nil_of_length_eq_zero ae;subst this
   simp [fy] at ho
  ·exact h
 obtain ⟨B,y,rfl,hy,hcell⟩:=rQ aa an ac ys w1 hl R1.out h0
 have hg : (!Op.bytesLess s.toList y.1.toList && !s.toList == y.1.toList) = false:=by
  have:=ho
  unfold fy at this;rw [hy] at this
  cases hq : (!Op.bytesLess s.toList y.1.toList && !s.toList == y.1.toList)
  ·rfl
  ·simp [sGt,hq] at this
 have hz : ((an : Int) == 0) = false:=aG;go_wp2_with fail;refine (cA rfl).mono ?_;rintro e w1 ⟨rfl,rfl⟩;go_wp2_with fail
 refine (eP (by first | rfl | exact hg)).mono ?_
 rintro e w1 ⟨rfl,rfl⟩;exact ⟨rfl,⟨_,rfl⟩,HB.out⟩
end
def oP (w : World) (nm : ByteArray) (fn : Int) (aa : Option Addr) (an ac : Nat) : World :=
 ((w.alloc (bF nm fn)).alloc (.cells #[.slice aa an ac] 27)).alloc (bF ⟨#[]⟩ 0)
theorem lW (w : World) (nm : ByteArray) (fn : Int) (aa : Option Addr) (an ac : Nat) : Below w.heap.size w (oP w nm fn aa an ac) ∧ (oP w nm fn aa an ac).heap.size = w.heap.size + 1 + 1 + 1 ∧
  (oP w nm fn aa an ac).heap[w.heap.size]? = some (bF nm fn) ∧ (oP w nm fn aa an ac).cell? ⟨w.heap.size + 1,0,none⟩ = some (.slice aa an ac) ∧ (oP w nm fn aa an ac).heap[w.heap.size + 1 + 1]? = some (bF ⟨#[]⟩ 0):=by
 unfold oP;refine ⟨(((Below.refl _ w).alloc (Nat.le_refl _) _).alloc aq _).alloc bZ _,aq,?_,cu,?_⟩
 ·rw [(ak ((w.alloc (bF nm fn)).alloc (.cells #[.slice aa an ac] 27)) _).block w.heap.size bZ,(ak (w.alloc (bF nm fn)) _).block w.heap.size aq];exact (MapKept.heap_alloc w _).1
 ·have:=(MapKept.heap_alloc ((w.alloc (bF nm fn)).alloc (.cells #[.slice aa an ac] 27)) (bF ⟨#[]⟩ 0)).1
  exact b9
section
variable (R g cap : Nat) (bs : List Int) (nm : ByteArray) (fn nf : Int) (aa : Option Addr) (an ac : Nat) (ys : List Ex) (w : World)
theorem qM (h : Wr w R g cap bs) (x : Int) (hrow : w.ownsRow 0 83 2 (.slice aa an ac) an (ys.flatMap jd))
  (ht : ∀ W,Wr W R g cap bs → W.ownsRow 0 83 2 (.slice aa an ac) an (ys.flatMap jd) → W.cell? ⟨w.heap.size + 1,0,none⟩ = some (.slice aa an ac) → Calls Tryz.prog 323 #[.pointer (some ⟨R,0,none⟩),.string nm,.int .i64 32,.func (.func 199) #[] #[.pointer (some ⟨w.heap.size + 1,0,none⟩)]] W (aO R g x W)) :
  Calls Tryz.prog 149 #[cW R,.agg #[.string nm,.int .i64 fn],.slice aa an ac,.int .i64 nf] w (aO R g x w):=by
 have hmt:=dD;have hct:=eK;obtain ⟨B0,z0,x0,x1,x2⟩:=lW w nm fn aa an ac;obtain ⟨a0,a1,_,_⟩:=bV x0;have HW : ((w.alloc (bF nm fn)).alloc (.cells #[.slice aa an ac] 27)).alloc (bF ⟨#[]⟩ 0) = oP w nm fn aa an ac:=rfl;generalize oP w nm fn aa an ac = W1 at *
 have HT:=hid (ht W1 (h.later B0) (aF hrow (fun B hB => B0.block B (aC hrow hB))) x1)
 have BW:=hid B0;clear ht h B0 hrow
 go_enter Tryz.func149,Tryz.ntmps149
 exact Aq
theorem y9 (h : Wr w R g cap bs) (hb : bs.length + 200 ≤ 1099511627776) (hl : ys.length = an) (han : an ≤ 100000) (hrow : w.ownsRow 0 83 2 (.slice aa an ac) an (ys.flatMap jd)) (hne : ∀ b,aa = some b → b.block ≠ R ∧ b.block ≠ g)
  (hf0 : -9223372036854775808 ≤ fn) (hf1 : fn < 9223372036854775808) (hnf0 : 0 ≤ nf) (hnf : nf < 9223372036854775808) (hx : dw nf ys (nm,fn) = 0) :
  Calls Tryz.prog 149 #[cW R,.agg #[.string nm,.int .i64 fn],.slice aa an ac,.int .i64 nf] w (nT R g bs (dz (nm,fn)) (.agg #[.string nm,.int .i64 fn]) w):=by
 have hx' : nm.size ≤ 32 ∧ iR nm = true ∧ fy ys nm = false ∧ 0 ≤ fn ∧ fn < nf:=by
  unfold dw bQ at hx
  simp only at hx
  split at hx
  ·cases hx
  ·split at hx
   ·cases hx
   ·split at hx
    ·cases hx
    ·split at hx
     ·cases hx
     ·refine ⟨ae,by simp_all,by simp_all,ae,ae⟩
 obtain ⟨s1,n1,o1,f0,f1⟩:=hx';clear hx;have hmt:=dD;have hct:=eK;obtain ⟨B0,z0,x0,x1,x2⟩:=lW w nm fn aa an ac;obtain ⟨a0,a1,_,_⟩:=bV x0;have HW : ((w.alloc (bF nm fn)).alloc (.cells #[.slice aa an ac] 27)).alloc (bF ⟨#[]⟩ 0) = oP w nm fn aa an ac:=rfl;have hRl:=h.lt;have hgl:=h.g_lt;have u1:=cX nm 32 s1;generalize oP w nm fn aa an ac = W1 at *
 have HT:=hid (dJ R g cap bs nm 32 199 #[.pointer (some ⟨w.heap.size + 1,0,none⟩)] W1 (h.later B0) ae ae ae (fun _ _ => rfl) (pT nm _ (w.heap.size + 1) aa an ac ys W1 ae n1 hl han (aF hrow (fun B hB => B0.block B (aC hrow hB))) o1 x1))
 have BW:=hid B0;clear h B0 hrow
 go_enter Tryz.func149,Tryz.ntmps149
 go_wp2_with fail;refine HT.out.mono ?_;rintro e w2 ⟨rfl,g1,cap1,hw2,hs2⟩;have y0:=(hs2.block (b:=w.heap.size) ae ae ae).trans x0;have y2:=(hs2.block (b:=w.heap.size + 1 + 1) ae ae ae).trans x2;have n2 : w.heap.size + 1 + 1 ≠ g1:=hs2.ne ae ae;obtain ⟨b0,b1,_,_⟩:=bV y0;have S2:=hid ((Stp.of_below BW.out).trans hs2);have z2:=hs2.size;have HX:=hid (fQ R g1 cap1 (bs ++ eY nm) fn nf w2 hw2 aG f0 f1 hnf);clear hs2 HT hw2 x0 x1 x2 a0 a1 hmt hct HW;go_wp2_with fail;refine HX.out.mono ?_;rintro e w3 ⟨rfl,g2,cap2,hw3,hs3⟩;have q2:=(hs3.block (b:=w.heap.size + 1 + 1) ae ae n2).trans y2;have n3 : w.heap.size + 1 + 1 ≠ g2:=hs3.ne ae n2;obtain ⟨c0,c1,c2,c3⟩:=bV q2;have W3:=hid hw3;have S3:=hid (S2.out.trans hs3);clear hw3 hs3 HX y0 y2 b0 b1;go_wp2_with fail;refine bodyPost_ret (v:=.agg #[.string nm,.int .i64 fn]) ?_ rfl ⟨rfl,g2,cap2,?_,?_⟩
 ·exact fV
 ·have:=(W3.out.set (b:=w.heap.size + 1 + 1) (o:=0) (v:=.string nm) ae n3).set (b:=w.heap.size + 1 + 1) (o:=1) (v:=.int .i64 fn) ae n3
  simpa [dz,List.append_assoc] using this
 ·exact (S3.out.set ae).set ae
theorem Dx (h : Wr w R g cap bs) (hb : bs.length + 200 ≤ 1099511627776) (hl : ys.length = an) (han : an ≤ 100000) (hrow : w.ownsRow 0 83 2 (.slice aa an ac) an (ys.flatMap jd))
  (hf0 : -9223372036854775808 ≤ fn) (hf1 : fn < 9223372036854775808) (hnf0 : 0 ≤ nf) (hnf : nf < 9223372036854775808) (s1 : nm.size ≤ 32) (n1 : iR nm = true) (o1 : fy ys nm = false) (hbad : fn < 0 ∨ nf ≤ fn) :
  Calls Tryz.prog 149 #[cW R,.agg #[.string nm,.int .i64 fn],.slice aa an ac,.int .i64 nf] w (aO R g 30 w):=by
 have hmt:=dD;have hct:=eK;obtain ⟨B0,z0,x0,x1,x2⟩:=lW w nm fn aa an ac;obtain ⟨a0,a1,_,_⟩:=bV x0;have HW : ((w.alloc (bF nm fn)).alloc (.cells #[.slice aa an ac] 27)).alloc (bF ⟨#[]⟩ 0) = oP w nm fn aa an ac:=rfl;have hRl:=h.lt;have hgl:=h.g_lt;generalize oP w nm fn aa an ac = W1 at *
 have HT:=hid (dJ R g cap bs nm 32 199 #[.pointer (some ⟨w.heap.size + 1,0,none⟩)] W1 (h.later B0) ae ae ae (fun _ _ => rfl) (pT nm _ (w.heap.size + 1) aa an ac ys W1 ae n1 hl han (aF hrow (fun B hB => B0.block B (aC hrow hB))) o1 x1))
 have BW:=hid B0;clear h B0 hrow
 go_enter Tryz.func149,Tryz.ntmps149
 go_wp2_with fail;refine HT.out.mono ?_;rintro e w2 ⟨rfl,g1,cap1,hw2,hs2⟩;have y0:=(hs2.block (b:=w.heap.size) ae ae ae).trans x0;obtain ⟨b0,b1,_,_⟩:=bV y0;have S2:=hid ((Stp.of_below BW.out).trans hs2);have HX:=hid (kE R g1 cap1 _ fn nf w2 hw2 hf0 hf1 hbad hnf0 hnf);clear hs2 HT hw2 x0 x1 x2 a0 a1 hmt hct HW;exact BU
theorem DM (h : Wr w R g cap bs) (hb : bs.length + 200 ≤ 1099511627776) (hs : nm.size ≤ 1000000 ∨ 32 < nm.size) (hl : ys.length = an) (han : an ≤ 100000) (hrow : w.ownsRow 0 83 2 (.slice aa an ac) an (ys.flatMap jd))
  (hf0 : -9223372036854775808 ≤ fn) (hf1 : fn < 9223372036854775808) (hnf0 : 0 ≤ nf) (hnf : nf < 9223372036854775808) (hx : dw nf ys (nm,fn) ≠ 0) :
  Calls Tryz.prog 149 #[cW R,.agg #[.string nm,.int .i64 fn],.slice aa an ac,.int .i64 nf] w (aO R g (dw nf ys (nm,fn)) w):=by
 unfold dw bQ at hx ⊢
 simp only at hx ⊢
 by_cases s1 : 32 < nm.size
 ·rw [if_pos s1]
  exact qM R g cap bs nm fn nf aa an ac ys w h 13 hrow (fun W hW _ _ => fK R g cap bs nm 32 _ W hW ae)
 rw [if_neg s1] at hx ⊢
 by_cases n1 : iR nm = false
 ·rw [if_pos n1]
  exact qM R g cap bs nm fn nf aa an ac ys w h 23 hrow (fun W hW _ _ => fD R g cap bs nm 32 199 _ 23 W hW ae (fun _ _ => rfl) (Dj nm _ _ W ae n1))
 rw [if_neg n1] at hx ⊢
 have n1' : iR nm = true:=by simpa using n1
 by_cases o1 : fy ys nm = true
 ·rw [if_pos o1]
  exact qM R g cap bs nm fn nf aa an ac ys w h 18 hrow (fun W hW hr hc => fD R g cap bs nm 32 199 _ 18 W hW ae (fun _ _ => rfl) (CP nm _ _ aa an ac ys W ae n1' hl han hr o1 hc))
 rw [if_neg o1] at hx ⊢
 have o1' : fy ys nm = false:=by simpa using o1
 by_cases f1 : fn < 0 ∨ nf ≤ fn
 ·rw [if_pos f1];exact Dx R g cap bs nm fn nf aa an ac ys w h hb hl han hrow hf0 hf1 hnf0 hnf ae n1' o1' f1
 ·rw [if_neg f1] at hx; exact absurd rfl hx
end
def d9 (ah : List DaM) (v : Int) : Bool:=match ah.getLast? with | none => false | some y => decide (v ≤ y.1 + (y.2.2.length : Int))
def bK (room : Int) (ah : List DaM) (x : DaM) : Int :=
 if x.1 < 0 ∨ room < x.1 then 17 else if d9 ah x.1 = true then 18 else if room - x.1 < (x.2.2.length : Int) then 13 else if x.2.2.length = 0 then 17 else 0
def ck (x : DaM) : List Int:=au x.1 ++ (au x.2.2.length ++ x.2.2)
theorem ij {room : Int} {ah : List DaM} {x : DaM} (hr : room ≤ 262144) (h : bK room ah x = 0) : (ck x).length ≤ 300000:=by
 unfold bK at h
 split at h
 ·cases h
 ·split at h
  ·cases h
  ·split at h
   ·cases h
   ·have a:=ay x.1;have b:=ay x.2.2.length
    simp only [ck,List.length_append]
    omega
theorem uS {xs : List DaM} {ys : List (Int × SL)} {j : Nat} (hj : j ≤ xs.length) (hl : ys.length = j) (h : ∀ (i : Nat) y,ys[i]? = some y → ∃ x,xs[i]? = some x ∧ xR x y) (v : Int) : gK ys v = d9 (xs.take j) v:=by
 unfold gK d9
 rcases Nat.eq_zero_or_pos j with h0 | h0
 ·subst h0;have : ys = []:=List.eq_nil_of_length_eq_zero hl;subst this
  simp
 ·obtain ⟨y,hy⟩ : ∃ y,ys[j - 1]? = some y:=⟨_,aN ae⟩;obtain ⟨x,hx,hok⟩:=h (j - 1) y hy
  have e1 : ys.getLast? = some y:=by rw [List.getLast?_eq_getElem?,hl]; exact hy
  have e2 : (xs.take j).getLast? = some x:=by
   rw [List.getLast?_eq_getElem?,List.length_take];have e : min j xs.length - 1 = j - 1:=ae;rw [e,List.getElem?_take_of_lt ae];exact hx
  rw [e1,e2]
  simp only [hok.1,hok.2]
structure Jy (w : World) (R g : Nat) (x : DaM) : Prop where
 r0 : -9223372036854775808 ≤ x.1
 r1 : x.1 < 9223372036854775808
 seg : Seg w x.2.1.1 x.2.1.2.1 x.2.1.2.2 x.2.2
 ne : ∀ b off c,nz x.2.1.2.1 x.2.1.1 = some ⟨b,off,c⟩ → b ≠ R ∧ b ≠ g
 lt : ∀ b off c,nz x.2.1.2.1 x.2.1.1 = some ⟨b,off,c⟩ → b < w.heap.size
theorem mZ (R g cap : Nat) (bs : List Int) (n : Nat) (A : Nat) (w : World) (O : Nat) (fa : Option Addr) (fn fc : Nat) (xs : List Ex) (h : Wr w R g cap bs) (hb : bs.length + 300000000000 ≤ 1099511627776) (hn : n ≤ 1000) (hA : w.cell? ⟨A,0,none⟩ = some (cW R)) (hAR : A ≠ R) (hAg : A ≠ g) (hO : w.cell? ⟨O,5,none⟩ = some (.slice fa fn fc)) (hOR : O ≠ R) (hOg : O ≠ g) (hfn : fn ≤ 100000) (hr : ∀ (j : Nat) x,xs[j]? = some x → -9223372036854775808 ≤ x.2 ∧ x.2 < 9223372036854775808) (hl : xs.length = n) (e : Ex → List Int) (k : Nat) (he : ∀ (i : Nat) y,xs[i]? = some y → i < k → e y = (dz) y) (hall : ∀ (i : Nat) y,xs[i]? = some y → i < k → (fun (ah : List Ex) x => dw fn ah x) (xs.take i) y = 0)
  (j : Nat) (x : Ex) (hx : xs[j]? = some x) (hjk : j < k) : xD R g w 148 #[.pointer (some ⟨A,0,none⟩),.pointer (some ⟨O,0,none⟩)] bs n xs e (fun x y => y = x) j x:=by
 intro ys W g1 cap1 aa ac hyl hys hst hwr hrow hab;have hlt:=aA hx;have hchk:=hall j x hx hjk
 try simp only at hchk
 have henc:=he j x hx hjk
 have hlen : ((xs.take j).flatMap e).length ≤ j * 100:=by
  have:=cf e 100 (xs.take j) (fun i y hi => by
   have hij : i < j:=lT;rw [List.getElem?_take_of_lt hij] at hi;rw [he i y hi ae];have hc:=hall i y hi ae
   have hs32 : (y).1.size ≤ 32:=by
    exact sP
   have a1:=cX (y).1 32 hs32;have a2:=ay (y).2
   simp only [dz,List.length_append]
   omega)
  exact mX
 have hu:=ay (n : Int)
 have hbb : (bs ++ au n ++ (xs.take j).flatMap e).length ≤ bs.length + 10 + 1000 * 100:=by
  rw [List.length_append,List.length_append];have : j * 100 ≤ 1000 * 100:=Nat.mul_le_mul_right _ ae;omega
 have hrx:=hr j x hx;have hye:=wP ae hys;rw [hyl] at hye
 refine (zA R g1 cap1 _ x aa j ac A O fa fn fc W hwr (hst.cell hA hAR hAg) (hst.cell hO hOR hOg) (fun y => y = x) (bs ++ au n ++ (xs.take j).flatMap e ++ e x) (fun W2 hb2 => ?_)).mono ?_
 ·refine (y9 R g1 cap1 _ x.1 x.2 fn aa j ac ys W2 (hwr.later hb2) ae hyl ae (aF hrow (fun B hB => hb2.block B (aC hrow hB))) (fun b hb' => ⟨by have q1:=(hab b hb').1; have q2:=h.lt; omega,(hab b hb').2⟩) hrx.1 hrx.2 ae ae (by rw [hye]; exact hchk)).mono ?_
  exact si
 ·exact sQ
theorem wn (R g cap : Nat) (bs : List Int) (ha : Option Addr) (n hc : Nat) (A : Nat) (w : World) (O : Nat) (fa : Option Addr) (fn fc : Nat) (xs : List Ex) (h : Wr w R g cap bs) (hb : bs.length + 300000000000 ≤ 1099511627776) (hA : w.cell? ⟨A,0,none⟩ = some (cW R)) (hAR : A ≠ R) (hAg : A ≠ g) (hO : w.cell? ⟨O,5,none⟩ = some (.slice fa fn fc)) (hOR : O ≠ R) (hOg : O ≠ g) (hfn : fn ≤ 100000) (hr : ∀ (j : Nat) x,xs[j]? = some x → -9223372036854775808 ≤ x.2 ∧ x.2 < 9223372036854775808) (hmem : jD w ha n xs) (hne : ∀ b off c,ha = some ⟨b,off,c⟩ → b ≠ R ∧ b ≠ g) (hx : bu (fun (ah : List Ex) x => dw fn ah x) 64 xs = 0) :
  Calls Tryz.prog 147 #[cW R,.slice ha n hc,.int .i64 64,.func (.func 148) #[] #[.pointer (some ⟨A,0,none⟩),.pointer (some ⟨O,0,none⟩)]] w fun e w' => ∃ (aa : Option Addr) (ac : Nat) (ys : List Ex),e = .returned (.slice aa n ac) ∧ ys.length = n ∧ (∀ (i : Nat) y,ys[i]? = some y → ∃ x,xs[i]? = some x ∧ (fun x y => y = x) x y) ∧ ∃ g' cap',Wr w' R g' cap' (bs ++ (au n ++ xs.flatMap (dz))) ∧ Stp R g g' w w':=by
 have hl:=hmem.1;unfold bu at hx
 split at hx
 ·cases hx
 rename_i hm
 have hall:=bq (fun (ah : List Ex) x => dw fn ah x) xs [] hx
 have hall' : ∀ (i : Nat) y,xs[i]? = some y → (fun (ah : List Ex) x => dw fn ah x) (xs.take i) y = 0:=fun i y hi => hall i y hi
 refine (vt R g cap bs ha n hc 64 148 _ w xs (dz) (fun x y => y = x) 100 h ae ae hmem hne (fun _ _ => rfl) (fun j x hj => by
   have hc:=hall' j x hj
   have hs32 : (x).1.size ≤ 32:=by
    exact sP
   have a1:=cX (x).1 32 hs32;have a2:=ay (x).2
   simp only [dz,List.length_append]
   omega) ae ae
  (fun j x hj => mZ R g cap bs n A w O fa fn fc xs h hb ae hA hAR hAg hO hOR hOg hfn hr hl (dz) (j + 1) (fun _ _ _ _ => rfl) (fun i y hi _ => hall' i y hi) j x hj ae)).mono ?_
 exact um
theorem xL (R g cap : Nat) (bs : List Int) (ha : Option Addr) (n hc : Nat) (A : Nat) (w : World) (O : Nat) (fa : Option Addr) (fn fc : Nat) (xs : List Ex) (h : Wr w R g cap bs) (hb : bs.length + 300000000000 ≤ 1099511627776) (hA : w.cell? ⟨A,0,none⟩ = some (cW R)) (hAR : A ≠ R) (hAg : A ≠ g) (hO : w.cell? ⟨O,5,none⟩ = some (.slice fa fn fc)) (hOR : O ≠ R) (hOg : O ≠ g) (hfn : fn ≤ 100000) (hr : ∀ (j : Nat) x,xs[j]? = some x → -9223372036854775808 ≤ x.2 ∧ x.2 < 9223372036854775808) (hmem : jD w ha n xs) (hne : ∀ b off c,ha = some ⟨b,off,c⟩ → b ≠ R ∧ b ≠ g) (hx : bu (fun (ah : List Ex) x => dw fn ah x) 64 xs ≠ 0) :
  Calls Tryz.prog 147 #[cW R,.slice ha n hc,.int .i64 64,.func (.func 148) #[] #[.pointer (some ⟨A,0,none⟩),.pointer (some ⟨O,0,none⟩)]] w (aO R g (bu (fun (ah : List Ex) x => dw fn ah x) 64 xs) w):=by
 have hl:=hmem.1;unfold bu at hx ⊢
 by_cases hm : (64 : Int) < xs.length
 ·rw [if_pos hm];exact tU R g cap bs ha n hc 64 _ w h ae
 rw [if_neg hm] at hx ⊢
 obtain ⟨k,x,h1,h2,h3,h4⟩:=dN (fun (ah : List Ex) x => dw fn ah x) xs [] hx
 have hall:=bq (fun (ah : List Ex) x => dw fn ah x) (xs.take k) [] h2
 have hall' : ∀ (i : Nat) y,xs[i]? = some y → i < k → (fun (ah : List Ex) x => dw fn ah x) (xs.take i) y = 0:=fun i y hi hik => by
  exact sA
 rw [h4];try simp only [List.nil_append] at h3 ⊢
 obtain ⟨E,hE⟩ : ∃ E : Ex → List Int,E = fun y => if ((dz) y).length ≤ 100 then (dz) y else []:=⟨_,rfl⟩
 have hEl : ∀ y,(E y).length ≤ 100:=fun y => by
  rw [hE]
  show (if ((dz) y).length ≤ 100 then (dz) y else []).length ≤ 100
  split
  ·assumption
  ·simp
 have hEe : ∀ (i : Nat) z,xs[i]? = some z → i < k → E z = (dz) z:=fun i z hi hik => by
  have hc:=hall' i z hi hik
  have hq : ((dz) z).length ≤ 100:=by
   have hs32 : (z).1.size ≤ 32:=by
    exact sP
   have a1:=cX (z).1 32 hs32;have a2:=ay (z).2
   simp only [dz,List.length_append]
   omega
  rw [hE];exact if_pos hq
 refine yj R g cap bs ha n hc 64 148 _ w xs E (fun x y => y = x) 100 h ae ae hmem hne (fun _ _ => rfl) (fun j y hj => hEl y) ae ae k x _ h1
  (fun j y hj hjk => mZ R g cap bs n A w O fa fn fc xs h hb ae hA hAR hAg hO hOR hOg hfn hr hl E k hEe hall' j y hj hjk) ?_
 intro ys W g1 cap1 aa ac hyl hys hst hwr hrow hab;have hlt:=aA h1;have hu:=ay (n : Int)
 have hbb : (bs ++ au n ++ (xs.take k).flatMap E).length ≤ bs.length + 10 + 1000 * 100:=by
  have hf:=cf E 100 (xs.take k) (fun i y _ => hEl y)
  rw [List.length_take] at hf;have e1 : min k xs.length = k:=ae;rw [e1] at hf;rw [List.length_append,List.length_append];have : k * 100 ≤ 1000 * 100:=Nat.mul_le_mul_right _ ae;omega
 have hrx:=hr k x h1;have hye:=wP ae hys;rw [hyl] at hye
 refine DC R g1 cap1 _ x aa k ac A O fa fn fc W hwr (hst.cell hA hAR hAg) (hst.cell hO hOR hOg) _ (fun W2 hb2 => ?_)
 rw [← hye] at h3 ⊢
 exact DM R g1 cap1 _ x.1 x.2 fn aa k ac ys W2 (hwr.later hb2) ae ae hyl ae (aF hrow (fun B hB => hb2.block B (aC hrow hB))) hrx.1 hrx.2 ae ae h3
theorem rz (R g cap : Nat) (bs : List Int) (n : Nat) (A : Nat) (w : World) (O : Nat) (fi : Int) (xs : List DaM) (h : Wr w R g cap bs) (hb : bs.length + 300000000000 ≤ 1099511627776) (hn : n ≤ 1000) (hA : w.cell? ⟨A,0,none⟩ = some (cW R)) (hAR : A ≠ R) (hAg : A ≠ g) (hO : w.cell? ⟨O,3,none⟩ = some (.int .i64 fi)) (hOR : O ≠ R) (hOg : O ≠ g) (hf0 : 0 ≤ fi) (hf1 : fi ≤ 64) (hr : ∀ (j : Nat) x,xs[j]? = some x → Jy w R g x) (hl : xs.length = n) (e : DaM → List Int) (k : Nat) (he : ∀ (i : Nat) y,xs[i]? = some y → i < k → e y = (ck) y) (hall : ∀ (i : Nat) y,xs[i]? = some y → i < k → (fun (ah : List DaM) x => bK (fi * 4096) ah x) (xs.take i) y = 0)
  (j : Nat) (x : DaM) (hx : xs[j]? = some x) (hjk : j < k) : zo R g w 145 #[.pointer (some ⟨A,0,none⟩),.pointer (some ⟨O,0,none⟩)] bs n xs e (xR) j x:=by
 intro ys W g1 cap1 aa ac hyl hys hst hwr hrow hab;have hlt:=aA hx;have hchk:=hall j x hx hjk
 try simp only at hchk
 have henc:=he j x hx hjk
 have hlen : ((xs.take j).flatMap e).length ≤ j * 300000:=by
  have:=cf e 300000 (xs.take j) (fun i y hi => by
   have hij : i < j:=lT;rw [List.getElem?_take_of_lt hij] at hi;rw [he i y hi ae];have hc:=hall i y hi ae;exact ij ae hc)
  exact mX
 have hu:=ay (n : Int)
 have hbb : (bs ++ au n ++ (xs.take j).flatMap e).length ≤ bs.length + 10 + 1000 * 300000:=by
  rw [List.length_append,List.length_append];have : j * 300000 ≤ 1000 * 300000:=Nat.mul_le_mul_right _ ae;omega
 have hrx:=hr j x hx;have hti:=uS ae hyl hys
 have hys' : ∀ y ∈ ys,0 ≤ y.1 ∧ y.1 ≤ 1099511627776 ∧ y.2.2.1 ≤ 1099511627776:=fun y hy => by
  obtain ⟨i,hi,rfl⟩:=List.getElem_of_mem hy;obtain ⟨x',hx',hok⟩:=hys i _ (aN hi);have hcx:=hall i x' hx' ae;exact Ht
 have hc2 : (0 ≤ x.1 ∧ x.1 ≤ fi * 4096) ∧ d9 (xs.take j) x.1 = false ∧ (x.2.2.length : Int) ≤ fi * 4096 - x.1 ∧ x.2.2.length ≠ 0:=by
  unfold bK at hchk
  split at hchk
  ·cases hchk
  ·split at hchk
   ·cases hchk
   ·split at hchk
    ·cases hchk
    ·split at hchk
     ·cases hchk
     ·rename_i q1 q2 q3 q4
      exact ⟨⟨ae,ae⟩,by simpa using q2,ae,q4⟩
 refine (yT R g1 cap1 _ x aa j ac A O fi W hwr (hst.cell hA hAR hAg) (hst.cell hO hOR hOg) hf0 hf1 (fun y => xR x y) (bs ++ au n ++ (xs.take j).flatMap e ++ e x) (fun W2 hb2 => ?_)).mono ?_
 ·refine (uV R g1 cap1 _ x.1 (fi * 4096) x.2.1.1 x.2.1.2.1 x.2.1.2.2 x.2.2 aa j ac ys W2 (hwr.later hb2) ae ae ae hc2.1.1 hc2.1.2 hyl ae hys' (aF hrow (fun B hB => hb2.block B (aC hrow hB))) (by rw [hti]; exact hc2.2.1)
   ((hrx.seg.kept' hst.k (fun b off c hb' => by have:=hrx.ne b off c hb'; simp; omega)).later hb2 (Nat.le_refl _)) (fun b off c hb' => ⟨(hrx.ne b off c hb').1,hst.ne (hrx.lt b off c hb') (hrx.ne b off c hb').2⟩) hc2.2.2.1 hc2.2.2.2).mono ?_
  rintro e' w' ⟨y,he',hy,g',cap',hw',hs'⟩;refine ⟨y,he',hy,g',cap',?_,hs'⟩;rw [henc];exact hw'
 ·exact sQ
theorem GN (R g cap : Nat) (bs : List Int) (ha : Option Addr) (n hc : Nat) (A : Nat) (w : World) (O : Nat) (fi : Int) (xs : List DaM) (h : Wr w R g cap bs) (hb : bs.length + 300000000000 ≤ 1099511627776) (hA : w.cell? ⟨A,0,none⟩ = some (cW R)) (hAR : A ≠ R) (hAg : A ≠ g) (hO : w.cell? ⟨O,3,none⟩ = some (.int .i64 fi)) (hOR : O ≠ R) (hOg : O ≠ g) (hf0 : 0 ≤ fi) (hf1 : fi ≤ 64) (hr : ∀ (j : Nat) x,xs[j]? = some x → Jy w R g x) (hmem : jn w ha n xs) (hne : ∀ b off c,ha = some ⟨b,off,c⟩ → b ≠ R ∧ b ≠ g) (hx : bu (fun (ah : List DaM) x => bK (fi * 4096) ah x) 64 xs = 0) :
  Calls Tryz.prog 144 #[cW R,.slice ha n hc,.int .i64 64,.func (.func 145) #[] #[.pointer (some ⟨A,0,none⟩),.pointer (some ⟨O,0,none⟩)]] w fun e w' => ∃ (aa : Option Addr) (ac : Nat) (ys : List (Int × SL)),e = .returned (.slice aa n ac) ∧ ys.length = n ∧ (∀ (i : Nat) y,ys[i]? = some y → ∃ x,xs[i]? = some x ∧ (xR) x y) ∧ ∃ g' cap',Wr w' R g' cap' (bs ++ (au n ++ xs.flatMap (ck))) ∧ Stp R g g' w w':=by
 have hl:=hmem.1;unfold bu at hx
 split at hx
 ·cases hx
 rename_i hm
 have hall:=bq (fun (ah : List DaM) x => bK (fi * 4096) ah x) xs [] hx
 have hall' : ∀ (i : Nat) y,xs[i]? = some y → (fun (ah : List DaM) x => bK (fi * 4096) ah x) (xs.take i) y = 0:=fun i y hi => hall i y hi
 refine (vF R g cap bs ha n hc 64 145 _ w xs (ck) (xR) 300000 h ae ae hmem hne (fun _ _ => rfl) (fun j x hj => by
   have hc:=hall' j x hj;exact ij ae hc) ae ae
  (fun j x hj => rz R g cap bs n A w O fi xs h hb ae hA hAR hAg hO hOR hOg hf0 hf1 hr hl (ck) (j + 1) (fun _ _ _ _ => rfl) (fun i y hi _ => hall' i y hi) j x hj ae)).mono ?_
 exact um
theorem Ke (R g cap : Nat) (bs : List Int) (ha : Option Addr) (n hc : Nat) (A : Nat) (w : World) (O : Nat) (fi : Int) (xs : List DaM) (h : Wr w R g cap bs) (hb : bs.length + 300000000000 ≤ 1099511627776) (hA : w.cell? ⟨A,0,none⟩ = some (cW R)) (hAR : A ≠ R) (hAg : A ≠ g) (hO : w.cell? ⟨O,3,none⟩ = some (.int .i64 fi)) (hOR : O ≠ R) (hOg : O ≠ g) (hf0 : 0 ≤ fi) (hf1 : fi ≤ 64) (hr : ∀ (j : Nat) x,xs[j]? = some x → Jy w R g x) (hmem : jn w ha n xs) (hne : ∀ b off c,ha = some ⟨b,off,c⟩ → b ≠ R ∧ b ≠ g) (hx : bu (fun (ah : List DaM) x => bK (fi * 4096) ah x) 64 xs ≠ 0) :
  Calls Tryz.prog 144 #[cW R,.slice ha n hc,.int .i64 64,.func (.func 145) #[] #[.pointer (some ⟨A,0,none⟩),.pointer (some ⟨O,0,none⟩)]] w (aO R g (bu (fun (ah : List DaM) x => bK (fi * 4096) ah x) 64 xs) w):=by
 have hl:=hmem.1;unfold bu at hx ⊢
 by_cases hm : (64 : Int) < xs.length
 ·rw [if_pos hm];exact s8 R g cap bs ha n hc 64 _ w h ae
 rw [if_neg hm] at hx ⊢
 obtain ⟨k,x,h1,h2,h3,h4⟩:=dN (fun (ah : List DaM) x => bK (fi * 4096) ah x) xs [] hx
 have hall:=bq (fun (ah : List DaM) x => bK (fi * 4096) ah x) (xs.take k) [] h2
 have hall' : ∀ (i : Nat) y,xs[i]? = some y → i < k → (fun (ah : List DaM) x => bK (fi * 4096) ah x) (xs.take i) y = 0:=fun i y hi hik => by
  exact sA
 rw [h4];try simp only [List.nil_append] at h3 ⊢
 obtain ⟨E,hE⟩ : ∃ E : DaM → List Int,E = fun y => if ((ck) y).length ≤ 300000 then (ck) y else []:=⟨_,rfl⟩
 have hEl : ∀ y,(E y).length ≤ 300000:=fun y => by
  rw [hE]
  show (if ((ck) y).length ≤ 300000 then (ck) y else []).length ≤ 300000
  split
  ·assumption
  ·simp
 have hEe : ∀ (i : Nat) z,xs[i]? = some z → i < k → E z = (ck) z:=fun i z hi hik => by
  have hc:=hall' i z hi hik
  have hq : ((ck) z).length ≤ 300000:=by
   exact ij ae hc
  rw [hE];exact if_pos hq
 refine xx R g cap bs ha n hc 64 145 _ w xs E (xR) 300000 h ae ae hmem hne (fun _ _ => rfl) (fun j y hj => hEl y) ae ae k x _ h1
  (fun j y hj hjk => rz R g cap bs n A w O fi xs h hb ae hA hAR hAg hO hOR hOg hf0 hf1 hr hl E k hEe hall' j y hj hjk) ?_
 intro ys W g1 cap1 aa ac hyl hys hst hwr hrow hab;have hlt:=aA h1;have hu:=ay (n : Int)
 have hbb : (bs ++ au n ++ (xs.take k).flatMap E).length ≤ bs.length + 10 + 1000 * 300000:=by
  have hf:=cf E 300000 (xs.take k) (fun i y _ => hEl y)
  rw [List.length_take] at hf;have e1 : min k xs.length = k:=ae;rw [e1] at hf;rw [List.length_append,List.length_append];have : k * 300000 ≤ 1000 * 300000:=Nat.mul_le_mul_right _ ae;omega
 have hrx:=hr k x h1;have hti:=uS ae hyl hys
 have hys' : ∀ y ∈ ys,0 ≤ y.1 ∧ y.1 ≤ 1099511627776 ∧ y.2.2.1 ≤ 1099511627776:=fun y hy => by
  obtain ⟨i,hi,rfl⟩:=List.getElem_of_mem hy;obtain ⟨x',hx',hok⟩:=hys i _ (aN hi);have hcx:=hall' i x' hx' ae;exact Ht
 have heq : bK (fi * 4096) (xs.take k) x = qz (fi * 4096) ys x.1 x.2.2.length:=by
  unfold bK qz;rw [hti]
 rw [heq] at h3 ⊢
 refine Dz R g1 cap1 _ x aa k ac A O fi W hwr (hst.cell hA hAR hAg) (hst.cell hO hOR hOg) hf0 hf1 _ (fun W2 hb2 => ?_)
 exact yO R g1 cap1 _ x.1 (fi * 4096) x.2.1.1 x.2.1.2.1 x.2.1.2.2 x.2.2 aa k ac ys W2 (hwr.later hb2) ae ae ae hrx.r0 hrx.r1 hyl ae hys' (aF hrow (fun B hB => hb2.block B (aC hrow hB)))
   ((hrx.seg.kept' hst.k (fun b off c hb' => by have:=hrx.ne b off c hb'; simp; omega)).later hb2 (Nat.le_refl _)) (fun b off c hb' => ⟨(hrx.ne b off c hb').1,hst.ne (hrx.lt b off c hb') (hrx.ne b off c hb').2⟩) h3
end Go.Proofs.YtheefojaplnnoaaGreatDoor

/-
  Texts We.
-/
import Derived.Test.YtepcmfegggdjfaaGreatDoorQ01
import Derived.Test.YtepcmfegggdjfaaGreatDoorQ20
set_option linter.unusedVariables false
set_option maxRecDepth 100000
set_option maxHeartbeats 16000000
namespace Go.Proofs.YtepcmfegggdjfaaGreatDoor
open Go.RowKit
theorem isName200 (s : ByteArray) (w : World) (hs : s.size ≤ 1000000) : Calls Tryz.prog 147 #[.string s] w fun e w' => e = .returned (.bool (isNm s)) ∧ Below w.heap.size w w':=by
 obtain ⟨c,W,hrun,hseg,hbl,hsz⟩:=conv_str w s hs
 have hc : ∀ j,j < s.size → W.cell? ⟨w.heap.size,j,none⟩ = some (.int .u8 ((strBytes s).getD j 0)):=by
  rcases hseg.2.2.2.2 with h0 | ⟨b,off,hb,h⟩
  ·intro j hj; omega
  ·simp at hb
   obtain ⟨rfl,rfl⟩:=hb
   intro j hj
   have:=h j hj
   rwa [Nat.zero_add] at this
 have hcap:=hseg.2.1
 have hsl:=strBytes_len s
 have HB:=hid hbl
 have HNM : Hid (isNm s = ((strBytes s).all (fun b => decide (33 ≤ b) && decide (b ≤ 126)) && !s.toList.isEmpty)):=rfl
 generalize isNm s = N at *
 generalize strBytes s = zs at *
 clear hseg hbl
 go_enter Tryz.func147,Tryz.ntmps147
 go_wp2_with fail
 clear hrun
 go_loopw [8] (fun i wr => ∃ j : Nat,j ≤ s.size ∧ i = .int .i64 j ∧ wr = W ∧ (zs.take j).all (fun b => decide (33 ≤ b) && decide (b ≤ 126)) = true) (fun i _ => s.size - (intOf i).toNat)
 case atStart => exact ⟨0,by omega,rfl,rfl,by simp⟩
 case round =>
  obtain ⟨j,hj,rfl,rfl,hall⟩:=hrel
  have HALL:=hid hall
  clear hall
  by_cases hlt : j < s.size
  ·have hcj:=hc j hlt
   have hjz : j < zs.length:=by omega
   have hgd : zs.getD j 0 = zs[j]:=by simp [List.getD,hjz]
   have HZ:=hid hgd
   rw [hgd] at hcj
   have HJ:=hid (List.take_succ_eq_append_getElem hjz)
   have HMEM : Hid (zs[j] ∈ zs):=List.getElem_mem hjz
   generalize zs[j] = b at *
   clear hgd hc
   by_cases h33 : b < 33
   ·have d1 : decide (b < 33) = true:=by simp [h33]
    go_wp2_with fail
    go_ret
    refine ⟨?_,HB.out⟩
    have hf : zs.all (fun b => decide (33 ≤ b) && decide (b ≤ 126)) = false:=by
     rw [List.all_eq_false]
     exact ⟨b,HMEM.out,by simp; omega⟩
    rw [HNM.out,hf]
    rfl
   ·have d1 : decide (b < 33) = false:=by simp; omega
    by_cases h126 : 126 < b
    ·have d2 : decide (126 < b) = true:=by simp [h126]
     go_wp2_with fail
     go_ret
     refine ⟨?_,HB.out⟩
     have hf : zs.all (fun b => decide (33 ≤ b) && decide (b ≤ 126)) = false:=by
      rw [List.all_eq_false]
      exact ⟨b,HMEM.out,by simp; omega⟩
     rw [HNM.out,hf]
     rfl
    ·have d2 : decide (126 < b) = false:=by simp; omega
     go_wp2_with fail
     go_roundw
     ·refine ⟨j + 1,by omega,rfl,?_,?_⟩
      ·first | rfl | trivial
      rw [HJ.out,List.all_append,HALL.out]
      simp; omega
     ·simp [intOf]; omega
  ·obtain rfl : j = s.size:=by omega
   have ht : zs.take s.size = zs:=List.take_of_length_le (by omega)
   rw [ht] at HALL
   go_wp2_with fail
   go_ret
   refine ⟨?_,HB.out⟩
   rw [HNM.out,HALL.out]
   simp
section
variable (s : ByteArray) (p : Int) (A : Nat) (aa : Option Addr) (an ac : Nat) (ys : List Ex) (w : World)
theorem ask199_23 (hs : s.size ≤ 1000000) (hn : isNm s = false) : Calls Tryz.prog 146 #[.string s,.int .i64 p,.pointer (some ⟨A,0,none⟩)] w (Bars 23 w):=by
 have HI:=hid (isName200 s w hs)
 rw [hn] at HI
 go_enter Tryz.func146,Tryz.ntmps146
 go_wp2_with fail
 refine HI.out.mono ?_
 rintro e w1 ⟨rfl,hb⟩
 have HB:=hid hb
 clear hb HI
 go_wp2_with fail
 refine (bars_of rfl).mono ?_
 rintro e w1 ⟨rfl,rfl⟩
 exact ⟨rfl,⟨_,rfl⟩,HB.out⟩
theorem last_cell (hl : ys.length = an) (hrow : w.ownsRow 0 64 2 (.slice aa an ac) an (ys.flatMap ocEx)) (h0 : 0 < an) : ∃ B y,aa = some ⟨B,0,none⟩ ∧ ys.getLast? = some y ∧ w.cell? ⟨B,(an - 1) * 2,none⟩ = some (.string y.1):=by
 obtain ⟨y,hy⟩ : ∃ y,ys[an - 1]? = some y:=⟨_,List.getElem?_eq_getElem (by omega)⟩
 obtain ⟨B,hB,hc⟩:=row_cell (oc:=ocEx) (t:=0) (u:=.string y.1) (fun _ => rfl) hrow hy rfl
 refine ⟨B,y,hB,?_,hc⟩
 rw [List.getLast?_eq_getElem?,hl]
 exact hy
theorem ask199_yes (hs : s.size ≤ 1000000) (hn : isNm s = true) (hl : ys.length = an) (han : an ≤ 100000) (hrow : w.ownsRow 0 64 2 (.slice aa an ac) an (ys.flatMap ocEx)) (ho : badOrd ys s = false) (hA : w.cell? ⟨A,0,none⟩ = some (.slice aa an ac)) :
  Calls Tryz.prog 146 #[.string s,.int .i64 p,.pointer (some ⟨A,0,none⟩)] w (Asks w):=by
 have HI:=hid (isName200 s w hs)
 rw [hn] at HI
 have hAl:=block_lt_of_cell hA
 have HA:=hid hA
 have HR:=hid hrow
 clear hA hrow
 go_enter Tryz.func146,Tryz.ntmps146
 go_wp2_with fail
 refine HI.out.mono ?_
 rintro e w1 ⟨rfl,hb⟩
 have HB:=hid hb
 have hA1:=(hb.cell (by exact hAl)).trans HA.out
 have R1:=hid (ownS_keep HR.out (fun B hB => hb.block B (lt_of_ownS HR.out hB)))
 clear hb HI
 by_cases h0 : an = 0
 ·subst h0
  go_wp2_with fail
  refine (asks_of rfl).mono ?_
  rintro e w1 ⟨rfl,rfl⟩
  go_wp2_with fail
  refine (asks_of rfl).mono ?_
  rintro e w1 ⟨rfl,rfl⟩
  go_wp2_with fail
  go_end0
  exact ⟨rfl,HB.out⟩
 ·obtain ⟨B,y,rfl,hy,hcell⟩:=last_cell aa an ac ys w1 hl R1.out (by omega)
  have hg : (!Op.bytesLess s.toList y.1.toList && !s.toList == y.1.toList) = true:=by
   have:=ho
   unfold badOrd at this
   rw [hy] at this
   simpa [sGt] using this
  have hz : ((an : Int) == 0) = false:=by simp; omega
  go_wp2_with fail
  refine (asks_of rfl).mono ?_
  rintro e w1 ⟨rfl,rfl⟩
  go_wp2_with fail
  refine (asks_of (by first | rfl | exact hg)).mono ?_
  rintro e w1 ⟨rfl,rfl⟩
  go_wp2_with fail
  go_end0
  exact ⟨rfl,HB.out⟩
theorem ask199_18 (hs : s.size ≤ 1000000) (hn : isNm s = true) (hl : ys.length = an) (han : an ≤ 100000) (hrow : w.ownsRow 0 64 2 (.slice aa an ac) an (ys.flatMap ocEx)) (ho : badOrd ys s = true) (hA : w.cell? ⟨A,0,none⟩ = some (.slice aa an ac)) :
  Calls Tryz.prog 146 #[.string s,.int .i64 p,.pointer (some ⟨A,0,none⟩)] w (Bars 18 w):=by
 have HI:=hid (isName200 s w hs)
 rw [hn] at HI
 have hAl:=block_lt_of_cell hA
 have HA:=hid hA
 have HR:=hid hrow
 clear hA hrow
 go_enter Tryz.func146,Tryz.ntmps146
 go_wp2_with fail
 refine HI.out.mono ?_
 rintro e w1 ⟨rfl,hb⟩
 have HB:=hid hb
 have hA1:=(hb.cell (by exact hAl)).trans HA.out
 have R1:=hid (ownS_keep HR.out (fun B hB => hb.block B (lt_of_ownS HR.out hB)))
 clear hb HI
 have h0 : 0 < an:=by
  rcases Nat.eq_zero_or_pos an with h | h
  ·have : ys = []:=List.eq_nil_of_length_eq_zero (by omega)
   subst this
   simp [badOrd] at ho
  ·exact h
 obtain ⟨B,y,rfl,hy,hcell⟩:=last_cell aa an ac ys w1 hl R1.out h0
 have hg : (!Op.bytesLess s.toList y.1.toList && !s.toList == y.1.toList) = false:=by
  have:=ho
  unfold badOrd at this
  rw [hy] at this
  cases hq : (!Op.bytesLess s.toList y.1.toList && !s.toList == y.1.toList)
  ·rfl
  ·simp [sGt,hq] at this
 have hz : ((an : Int) == 0) = false:=by simp; omega
 go_wp2_with fail
 refine (asks_of rfl).mono ?_
 rintro e w1 ⟨rfl,rfl⟩
 go_wp2_with fail
 refine (bars_of (by first | rfl | exact hg)).mono ?_
 rintro e w1 ⟨rfl,rfl⟩
 exact ⟨rfl,⟨_,rfl⟩,HB.out⟩
end
def W149 (w : World) (nm : ByteArray) (fn : Int) (aa : Option Addr) (an ac : Nat) : World :=
 ((w.alloc (.cells #[.string nm,.int .i64 fn] 64)).alloc (.cells #[.slice aa an ac] 27)).alloc (.cells #[.string ⟨#[]⟩,.int .i64 0] 64)
theorem w149_facts (w : World) (nm : ByteArray) (fn : Int) (aa : Option Addr) (an ac : Nat) : Below w.heap.size w (W149 w nm fn aa an ac) ∧ (W149 w nm fn aa an ac).heap.size = w.heap.size + 1 + 1 + 1 ∧
  (W149 w nm fn aa an ac).heap[w.heap.size]? = some (.cells #[.string nm,.int .i64 fn] 64) ∧ (W149 w nm fn aa an ac).cell? ⟨w.heap.size + 1,0,none⟩ = some (.slice aa an ac) ∧ (W149 w nm fn aa an ac).heap[w.heap.size + 1 + 1]? = some (.cells #[.string ⟨#[]⟩,.int .i64 0] 64):=by
 unfold W149
 refine ⟨(((Below.refl _ w).alloc (Nat.le_refl _) _).alloc (by simp) _).alloc (by simp <;> omega) _,by simp,?_,by simp [go_sem],?_⟩
 ·rw [(below_new ((w.alloc (.cells #[.string nm,.int .i64 fn] 64)).alloc (.cells #[.slice aa an ac] 27)) _).block w.heap.size (by simp <;> omega),(below_new (w.alloc (.cells #[.string nm,.int .i64 fn] 64)) _).block w.heap.size (by simp)]
  exact (MapKept.heap_alloc w _).1
 ·have:=(MapKept.heap_alloc ((w.alloc (.cells #[.string nm,.int .i64 fn] 64)).alloc (.cells #[.slice aa an ac] 27)) (.cells #[.string ⟨#[]⟩,.int .i64 0] 64)).1
  simpa using this
section
variable (R g cap : Nat) (bs : List Int) (nm : ByteArray) (fn nf : Int) (aa : Option Addr) (an ac : Nat) (ys : List Ex) (w : World)
theorem exp149_t (h : Wr w R g cap bs) (x : Int) (hrow : w.ownsRow 0 64 2 (.slice aa an ac) an (ys.flatMap ocEx))
  (ht : ∀ W,Wr W R g cap bs → W.ownsRow 0 64 2 (.slice aa an ac) an (ys.flatMap ocEx) → W.cell? ⟨w.heap.size + 1,0,none⟩ = some (.slice aa an ac) → Calls Tryz.prog 207 #[.pointer (some ⟨R,0,none⟩),.string nm,.int .i64 32,.func (.func 146) #[] #[.pointer (some ⟨w.heap.size + 1,0,none⟩)]] W (Throws R g x W)) :
  Calls Tryz.prog 117 #[cW R,.agg #[.string nm,.int .i64 fn],.slice aa an ac,.int .i64 nf] w (Throws R g x w):=by
 have hmt:=meth_text
 have hct:=enter323
 obtain ⟨B0,z0,x0,x1,x2⟩:=w149_facts w nm fn aa an ac
 obtain ⟨a0,a1,_,_⟩:=two_cells x0
 have HW : ((w.alloc (.cells #[.string nm,.int .i64 fn] 64)).alloc (.cells #[.slice aa an ac] 27)).alloc (.cells #[.string ⟨#[]⟩,.int .i64 0] 64) = W149 w nm fn aa an ac:=rfl
 generalize W149 w nm fn aa an ac = W1 at *
 have HT:=hid (ht W1 (h.later B0) (ownS_keep hrow (fun B hB => B0.block B (lt_of_ownS hrow hB))) x1)
 have BW:=hid B0
 clear ht h B0 hrow
 go_enter Tryz.func117,Tryz.ntmps117
 go_wp2_with fail
 refine HT.out.mono ?_
 rintro e w2 ⟨⟨q,rfl⟩,hk⟩
 exact ⟨rfl,⟨q,rfl⟩,(kept_of BW.out).trans hk⟩
theorem exp149_yes (h : Wr w R g cap bs) (hb : bs.length + 200 ≤ 1099511627776) (hl : ys.length = an) (han : an ≤ 100000) (hrow : w.ownsRow 0 64 2 (.slice aa an ac) an (ys.flatMap ocEx)) (hne : ∀ b,aa = some b → b.block ≠ R ∧ b.block ≠ g)
  (hf0 : -9223372036854775808 ≤ fn) (hf1 : fn < 9223372036854775808) (hnf0 : 0 ≤ nf) (hnf : nf < 9223372036854775808) (hx : chkEx nf ys (nm,fn) = 0) :
  Calls Tryz.prog 117 #[cW R,.agg #[.string nm,.int .i64 fn],.slice aa an ac,.int .i64 nf] w (Puts R g bs (encEx (nm,fn)) (.agg #[.string nm,.int .i64 fn]) w):=by
 have hx' : nm.size ≤ 32 ∧ isNm nm = true ∧ badOrd ys nm = false ∧ 0 ≤ fn ∧ fn < nf:=by
  unfold chkEx chkIdx at hx
  simp only at hx
  split at hx
  ·cases hx
  ·split at hx
   ·cases hx
   ·split at hx
    ·cases hx
    ·split at hx
     ·cases hx
     ·refine ⟨by omega,by simp_all,by simp_all,by omega,by omega⟩
 obtain ⟨s1,n1,o1,f0,f1⟩:=hx'
 clear hx
 have hmt:=meth_text
 have hct:=enter323
 obtain ⟨B0,z0,x0,x1,x2⟩:=w149_facts w nm fn aa an ac
 obtain ⟨a0,a1,_,_⟩:=two_cells x0
 have HW : ((w.alloc (.cells #[.string nm,.int .i64 fn] 64)).alloc (.cells #[.slice aa an ac] 27)).alloc (.cells #[.string ⟨#[]⟩,.int .i64 0] 64) = W149 w nm fn aa an ac:=rfl
 have hRl:=h.lt
 have hgl:=h.g_lt
 have u1:=encT_le nm 32 s1
 generalize W149 w nm fn aa an ac = W1 at *
 have HT:=hid (text323_yes R g cap bs nm 32 146 #[.pointer (some ⟨w.heap.size + 1,0,none⟩)] W1 (h.later B0) (by omega) (by omega) (by omega) (fun _ _ => rfl) (ask199_yes nm _ (w.heap.size + 1) aa an ac ys W1 (by omega) n1 hl han (ownS_keep hrow (fun B hB => B0.block B (lt_of_ownS hrow hB))) o1 x1))
 have BW:=hid B0
 clear h B0 hrow
 go_enter Tryz.func117,Tryz.ntmps117
 go_wp2_with fail
 refine HT.out.mono ?_
 rintro e w2 ⟨rfl,g1,cap1,hw2,hs2⟩
 have y0:=(hs2.block (b:=w.heap.size) (by omega) (by omega) (by omega)).trans x0
 have y2:=(hs2.block (b:=w.heap.size + 1 + 1) (by omega) (by omega) (by omega)).trans x2
 have n2 : w.heap.size + 1 + 1 ≠ g1:=hs2.ne (by omega) (by omega)
 obtain ⟨b0,b1,_,_⟩:=two_cells y0
 have S2:=hid ((Stp.of_below BW.out).trans hs2)
 have z2:=hs2.size
 have HX:=hid (index136_yes R g1 cap1 (bs ++ encT nm) fn nf w2 hw2 (by simp; omega) f0 f1 hnf)
 clear hs2 HT hw2 x0 x1 x2 a0 a1 hmt hct HW
 go_wp2_with fail
 refine HX.out.mono ?_
 rintro e w3 ⟨rfl,g2,cap2,hw3,hs3⟩
 have q2:=(hs3.block (b:=w.heap.size + 1 + 1) (by omega) (by omega) n2).trans y2
 have n3 : w.heap.size + 1 + 1 ≠ g2:=hs3.ne (by omega) n2
 obtain ⟨c0,c1,c2,c3⟩:=two_cells q2
 have W3:=hid hw3
 have S3:=hid (S2.out.trans hs3)
 clear hw3 hs3 HX y0 y2 b0 b1
 go_wp2_with fail
 refine bodyPost_ret (v:=.agg #[.string nm,.int .i64 fn]) ?_ rfl ⟨rfl,g2,cap2,?_,?_⟩
 ·rw [results_cell1 rfl]
  go_simp
 ·have:=(W3.out.set (b:=w.heap.size + 1 + 1) (o:=0) (v:=.string nm) (by omega) n3).set (b:=w.heap.size + 1 + 1) (o:=1) (v:=.int .i64 fn) (by omega) n3
  simpa [encEx,List.append_assoc] using this
 ·exact (S3.out.set (by omega)).set (by omega)
theorem exp149_30 (h : Wr w R g cap bs) (hb : bs.length + 200 ≤ 1099511627776) (hl : ys.length = an) (han : an ≤ 100000) (hrow : w.ownsRow 0 64 2 (.slice aa an ac) an (ys.flatMap ocEx))
  (hf0 : -9223372036854775808 ≤ fn) (hf1 : fn < 9223372036854775808) (hnf0 : 0 ≤ nf) (hnf : nf < 9223372036854775808) (s1 : nm.size ≤ 32) (n1 : isNm nm = true) (o1 : badOrd ys nm = false) (hbad : fn < 0 ∨ nf ≤ fn) :
  Calls Tryz.prog 117 #[cW R,.agg #[.string nm,.int .i64 fn],.slice aa an ac,.int .i64 nf] w (Throws R g 30 w):=by
 have hmt:=meth_text
 have hct:=enter323
 obtain ⟨B0,z0,x0,x1,x2⟩:=w149_facts w nm fn aa an ac
 obtain ⟨a0,a1,_,_⟩:=two_cells x0
 have HW : ((w.alloc (.cells #[.string nm,.int .i64 fn] 64)).alloc (.cells #[.slice aa an ac] 27)).alloc (.cells #[.string ⟨#[]⟩,.int .i64 0] 64) = W149 w nm fn aa an ac:=rfl
 have hRl:=h.lt
 have hgl:=h.g_lt
 generalize W149 w nm fn aa an ac = W1 at *
 have HT:=hid (text323_yes R g cap bs nm 32 146 #[.pointer (some ⟨w.heap.size + 1,0,none⟩)] W1 (h.later B0) (by omega) (by omega) (by omega) (fun _ _ => rfl) (ask199_yes nm _ (w.heap.size + 1) aa an ac ys W1 (by omega) n1 hl han (ownS_keep hrow (fun B hB => B0.block B (lt_of_ownS hrow hB))) o1 x1))
 have BW:=hid B0
 clear h B0 hrow
 go_enter Tryz.func117,Tryz.ntmps117
 go_wp2_with fail
 refine HT.out.mono ?_
 rintro e w2 ⟨rfl,g1,cap1,hw2,hs2⟩
 have y0:=(hs2.block (b:=w.heap.size) (by omega) (by omega) (by omega)).trans x0
 obtain ⟨b0,b1,_,_⟩:=two_cells y0
 have S2:=hid ((Stp.of_below BW.out).trans hs2)
 have HX:=hid (index136_no R g1 cap1 _ fn nf w2 hw2 hf0 hf1 hbad hnf0 hnf)
 clear hs2 HT hw2 x0 x1 x2 a0 a1 hmt hct HW
 go_wp2_with fail
 refine HX.out.mono ?_
 rintro e w3 ⟨⟨q,rfl⟩,hk⟩
 exact ⟨rfl,⟨q,rfl⟩,S2.out.throw hk⟩
theorem exp149_no (h : Wr w R g cap bs) (hb : bs.length + 200 ≤ 1099511627776) (hs : nm.size ≤ 1000000 ∨ 32 < nm.size) (hl : ys.length = an) (han : an ≤ 100000) (hrow : w.ownsRow 0 64 2 (.slice aa an ac) an (ys.flatMap ocEx))
  (hf0 : -9223372036854775808 ≤ fn) (hf1 : fn < 9223372036854775808) (hnf0 : 0 ≤ nf) (hnf : nf < 9223372036854775808) (hx : chkEx nf ys (nm,fn) ≠ 0) :
  Calls Tryz.prog 117 #[cW R,.agg #[.string nm,.int .i64 fn],.slice aa an ac,.int .i64 nf] w (Throws R g (chkEx nf ys (nm,fn)) w):=by
 unfold chkEx chkIdx at hx ⊢
 simp only at hx ⊢
 by_cases s1 : 32 < nm.size
 ·rw [if_pos s1]
  exact exp149_t R g cap bs nm fn nf aa an ac ys w h 13 hrow (fun W hW _ _ => text323_long R g cap bs nm 32 _ W hW (by omega))
 rw [if_neg s1] at hx ⊢
 by_cases n1 : isNm nm = false
 ·rw [if_pos n1]
  exact exp149_t R g cap bs nm fn nf aa an ac ys w h 23 hrow (fun W hW _ _ => text323_no R g cap bs nm 32 146 _ 23 W hW (by omega) (fun _ _ => rfl) (ask199_23 nm _ _ W (by omega) n1))
 rw [if_neg n1] at hx ⊢
 have n1' : isNm nm = true:=by simpa using n1
 by_cases o1 : badOrd ys nm = true
 ·rw [if_pos o1]
  exact exp149_t R g cap bs nm fn nf aa an ac ys w h 18 hrow (fun W hW hr hc => text323_no R g cap bs nm 32 146 _ 18 W hW (by omega) (fun _ _ => rfl) (ask199_18 nm _ _ aa an ac ys W (by omega) n1' hl han hr o1 hc))
 rw [if_neg o1] at hx ⊢
 have o1' : badOrd ys nm = false:=by simpa using o1
 by_cases f1 : fn < 0 ∨ nf ≤ fn
 ·rw [if_pos f1]
  exact exp149_30 R g cap bs nm fn nf aa an ac ys w h hb hl han hrow hf0 hf1 hnf0 hnf (by omega) n1' o1' f1
 ·rw [if_neg f1] at hx; exact absurd rfl hx
end
end Go.Proofs.YtepcmfegggdjfaaGreatDoor

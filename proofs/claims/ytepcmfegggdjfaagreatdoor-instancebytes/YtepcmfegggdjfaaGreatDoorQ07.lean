/-
  Texts Wx Id Ip.
-/
import Derived.Test.YtepcmfegggdjfaaGreatDoorQ00
import Derived.Test.YtepcmfegggdjfaaGreatDoorQ05
import Derived.Test.YtepcmfegggdjfaaGreatDoorQ06
set_option linter.unusedVariables false
set_option maxRecDepth 100000
set_option maxHeartbeats 16000000
namespace Go.Proofs.YtepcmfegggdjfaaGreatDoor
open Go.RowKit
def W146 (w : World) (pl room : Int) (da : Option Addr) (dn dc : Nat) (aa : Option Addr) (an ac : Nat) : World :=
 (((w.alloc (.cells #[.int .i64 pl,.slice da dn dc] 51)).alloc (.cells #[.slice aa an ac] 26)).alloc (.cells #[.int .i64 room] 3)).alloc (.cells #[.int .i64 0,.slice none 0 0] 51)
theorem w146_facts (w : World) (pl room : Int) (da : Option Addr) (dn dc : Nat) (aa : Option Addr) (an ac : Nat) : Below w.heap.size w (W146 w pl room da dn dc aa an ac) ∧ (W146 w pl room da dn dc aa an ac).heap.size = w.heap.size + 1 + 1 + 1 + 1 ∧
  (W146 w pl room da dn dc aa an ac).cell? ⟨w.heap.size,0,none⟩ = some (.int .i64 pl) ∧ (W146 w pl room da dn dc aa an ac).cell? ⟨w.heap.size,1,none⟩ = some (.slice da dn dc) ∧
  (W146 w pl room da dn dc aa an ac).cell? ⟨w.heap.size + 1,0,none⟩ = some (.slice aa an ac) ∧ (W146 w pl room da dn dc aa an ac).cell? ⟨w.heap.size + 1 + 1,0,none⟩ = some (.int .i64 room) ∧
  (W146 w pl room da dn dc aa an ac).heap[w.heap.size + 1 + 1 + 1]? = some (.cells #[.int .i64 0,.slice none 0 0] 51):=by
 unfold W146
 refine ⟨((((Below.refl _ w).alloc (Nat.le_refl _) _).alloc (by simp) _).alloc (by simp <;> omega) _).alloc (by simp <;> omega) _,by simp,by simp [go_sem],by simp [go_sem],by simp [go_sem],by simp [go_sem],?_⟩
 have:=(MapKept.heap_alloc (((w.alloc (.cells #[.int .i64 pl,.slice da dn dc] 51)).alloc (.cells #[.slice aa an ac] 26)).alloc (.cells #[.int .i64 room] 3)) (.cells #[.int .i64 0,.slice none 0 0] 51)).1
 simpa using this
theorem Seg.kept' {S : Nat → Prop} {w w' : World} {a : Option Addr} {n cap : Nat} {zs : List Int} (h : Seg w a n cap zs) (hk : Kept S w w') (hS : ∀ b off c,nz n a = some ⟨b,off,c⟩ → ¬ S b) : Seg w' a n cap zs:=by
 refine ⟨h.1,h.2.1,h.2.2.1,h.2.2.2.1,h.2.2.2.2.imp id ?_⟩
 rintro ⟨b,off,ha,hc⟩
 exact ⟨b,off,ha,fun j hj => hk.cell (hc j hj) (hS _ _ _ (nz_of (by omega) ha))⟩
section
variable (R g cap : Nat) (bs : List Int) (pl room : Int) (da : Option Addr) (dn dc : Nat) (zs : List Int) (aa : Option Addr) (an ac : Nat) (ys : List (Int × SL)) (w : World)
theorem data146_t1 (h : Wr w R g cap bs) (x : Int) (hrow : w.ownsRow 0 51 2 (.slice aa an ac) an (ys.flatMap ocDa))
  (ht : ∀ W,Wr W R g cap bs → W.ownsRow 0 51 2 (.slice aa an ac) an (ys.flatMap ocDa) → W.cell? ⟨w.heap.size + 1 + 1,0,none⟩ = some (.int .i64 room) → W.cell? ⟨w.heap.size + 1,0,none⟩ = some (.slice aa an ac) →
   Calls Tryz.prog 203 #[.pointer (some ⟨R,0,none⟩),.int .u64 (IntKind.u64.wrap pl),.func (.func 143) #[] #[.pointer (some ⟨w.heap.size + 1 + 1,0,none⟩),.pointer (some ⟨w.heap.size + 1,0,none⟩)]] W (Throws R g x W)) :
  Calls Tryz.prog 114 #[cW R,.agg #[.int .i64 pl,.slice da dn dc],.slice aa an ac,.int .i64 room] w (Throws R g x w):=by
 have hmn:=meth_number
 have hcn:=enter319
 obtain ⟨B0,z0,x0,x1,x2,x3,x4⟩:=w146_facts w pl room da dn dc aa an ac
 have HW : (((w.alloc (.cells #[.int .i64 pl,.slice da dn dc] 51)).alloc (.cells #[.slice aa an ac] 26)).alloc (.cells #[.int .i64 room] 3)).alloc (.cells #[.int .i64 0,.slice none 0 0] 51) = W146 w pl room da dn dc aa an ac:=rfl
 generalize W146 w pl room da dn dc aa an ac = W1 at *
 have HT:=hid (ht W1 (h.later B0) (ownS_keep hrow (fun B hB => B0.block B (lt_of_ownS hrow hB))) x3 x2)
 have BW:=hid B0
 clear ht h B0 hrow
 go_enter Tryz.func114,Tryz.ntmps114
 go_wp2_with fail
 refine HT.out.mono ?_
 rintro e w2 ⟨⟨q,rfl⟩,hk⟩
 exact ⟨rfl,⟨q,rfl⟩,(kept_of BW.out).trans hk⟩
theorem data146_t2 (h : Wr w R g cap bs) (hb : bs.length + 2000000 ≤ 1099511627776) (hr : 0 ≤ room) (hr1 : room ≤ 1000000) (hp0 : 0 ≤ pl) (hp : pl ≤ room) (hl : ys.length = an) (han : an ≤ 100000) (hys : ∀ y ∈ ys,0 ≤ y.1 ∧ y.1 ≤ 1099511627776 ∧ y.2.2.1 ≤ 1099511627776)
  (hrow : w.ownsRow 0 51 2 (.slice aa an ac) an (ys.flatMap ocDa)) (ht : touchM ys pl = false) (hseg : Seg w da dn dc zs) (hne : ∀ b off c,nz dn da = some ⟨b,off,c⟩ → b ≠ R ∧ b ≠ g) (x : Int)
  (htx : ∀ W g1 cap1,Wr W R g1 cap1 (bs ++ uvar pl) → Calls Tryz.prog 207 #[.pointer (some ⟨R,0,none⟩),.string (strOfNums zs),.int .i64 (room - pl),.func (.func 145) #[] #[]] W (Throws R g1 x W)) :
  Calls Tryz.prog 114 #[cW R,.agg #[.int .i64 pl,.slice da dn dc],.slice aa an ac,.int .i64 room] w (Throws R g x w):=by
 have hmn:=meth_number
 have hcn:=enter319
 have hmt:=meth_text
 have hct:=enter323
 have hwp:=wrap_in pl hp0 (by omega)
 have hip : wrap64 pl = pl:=by unfold wrap64; omega
 have hsub : wrap64 (room - pl) = room - pl:=by unfold wrap64; omega
 obtain ⟨B0,z0,x0,x1,x2,x3,x4⟩:=w146_facts w pl room da dn dc aa an ac
 have HW : (((w.alloc (.cells #[.int .i64 pl,.slice da dn dc] 51)).alloc (.cells #[.slice aa an ac] 26)).alloc (.cells #[.int .i64 room] 3)).alloc (.cells #[.int .i64 0,.slice none 0 0] 51) = W146 w pl room da dn dc aa an ac:=rfl
 have hRl:=h.lt
 have hgl:=h.g_lt
 have u1:=uvar_len pl
 generalize W146 w pl room da dn dc aa an ac = W1 at *
 have HT:=hid (number319_yes R g cap bs pl 143 #[.pointer (some ⟨w.heap.size + 1 + 1,0,none⟩),.pointer (some ⟨w.heap.size + 1,0,none⟩)] W1 (h.later B0) hp0 (by omega) (by omega) (fun _ _ => rfl)
  (ask196_x pl _ room (w.heap.size + 1 + 1) (w.heap.size + 1) aa an ac ys W1 hr (by omega) hp0 hp hl han hys (ownS_keep hrow (fun B hB => B0.block B (lt_of_ownS hrow hB))) ht x3 x2))
 have SG:=hid (hseg.later B0 (Nat.le_refl _))
 have BW:=hid B0
 have HTX:=hid htx
 clear h B0 hrow hseg htx
 go_enter Tryz.func114,Tryz.ntmps114
 go_wp2_with fail
 refine HT.out.mono ?_
 rintro e w2 ⟨rfl,g1,cap1,hw2,hs2⟩
 have y0:=hs2.cell (b:=w.heap.size) x0 (by omega) (by omega)
 have y1:=hs2.cell (b:=w.heap.size) x1 (by omega) (by omega)
 have y3:=hs2.cell (b:=w.heap.size + 1 + 1) x3 (by omega) (by omega)
 have hconv:=convB w2 da dn dc zs (SG.out.kept' hs2.k (fun b off c h => by have:=hne b off c h; simp; omega))
 have S2:=hid ((Stp.of_below BW.out).trans hs2)
 have HX:=hid (HTX.out w2 g1 cap1 hw2)
 clear hs2 HT hw2 x0 x1 x2 x3 x4 HTX hmn hcn HW
 go_wp2_with fail
 refine HX.out.mono ?_
 rintro e w3 ⟨⟨q,rfl⟩,hk⟩
 exact ⟨rfl,⟨q,rfl⟩,S2.out.throw hk⟩
theorem data146_yes (h : Wr w R g cap bs) (hb : bs.length + 2000000 ≤ 1099511627776) (hr : 0 ≤ room) (hr1 : room ≤ 1000000) (hp0 : 0 ≤ pl) (hp : pl ≤ room) (hl : ys.length = an) (han : an ≤ 100000) (hys : ∀ y ∈ ys,0 ≤ y.1 ∧ y.1 ≤ 1099511627776 ∧ y.2.2.1 ≤ 1099511627776)
  (hrow : w.ownsRow 0 51 2 (.slice aa an ac) an (ys.flatMap ocDa)) (ht : touchM ys pl = false) (hseg : Seg w da dn dc zs) (hne : ∀ b off c,nz dn da = some ⟨b,off,c⟩ → b ≠ R ∧ b ≠ g) (hlen : (zs.length : Int) ≤ room - pl) (hz : zs.length ≠ 0) :
  Calls Tryz.prog 114 #[cW R,.agg #[.int .i64 pl,.slice da dn dc],.slice aa an ac,.int .i64 room] w fun e w' => ∃ y : Int × SL,e = .returned (ovDa y) ∧ okDa (pl,(da,dn,dc),zs) y ∧ ∃ g' cap',Wr w' R g' cap' (bs ++ (uvar pl ++ (uvar zs.length ++ zs))) ∧ Stp R g g' w w':=by
 have hmn:=meth_number
 have hcn:=enter319
 have hmt:=meth_text
 have hct:=enter323
 have hwp:=wrap_in pl hp0 (by omega)
 have hip : wrap64 pl = pl:=by unfold wrap64; omega
 have hsub : wrap64 (room - pl) = room - pl:=by unfold wrap64; omega
 obtain ⟨B0,z0,x0,x1,x2,x3,x4⟩:=w146_facts w pl room da dn dc aa an ac
 have HW : (((w.alloc (.cells #[.int .i64 pl,.slice da dn dc] 51)).alloc (.cells #[.slice aa an ac] 26)).alloc (.cells #[.int .i64 room] 3)).alloc (.cells #[.int .i64 0,.slice none 0 0] 51) = W146 w pl room da dn dc aa an ac:=rfl
 have hRl:=h.lt
 have hgl:=h.g_lt
 have u1:=uvar_len pl
 have hss:=strOf_size zs
 have HSB:=hid (strOf_bytes zs hseg.2.2.2.1)
 generalize W146 w pl room da dn dc aa an ac = W1 at *
 have HT:=hid (number319_yes R g cap bs pl 143 #[.pointer (some ⟨w.heap.size + 1 + 1,0,none⟩),.pointer (some ⟨w.heap.size + 1,0,none⟩)] W1 (h.later B0) hp0 (by omega) (by omega) (fun _ _ => rfl)
  (ask196_x pl _ room (w.heap.size + 1 + 1) (w.heap.size + 1) aa an ac ys W1 hr (by omega) hp0 hp hl han hys (ownS_keep hrow (fun B hB => B0.block B (lt_of_ownS hrow hB))) ht x3 x2))
 have SG:=hid (hseg.later B0 (Nat.le_refl _))
 have BW:=hid B0
 have HSZ:=hid hss
 clear h B0 hrow hseg
 go_enter Tryz.func114,Tryz.ntmps114
 go_wp2_with fail
 refine HT.out.mono ?_
 rintro e w2 ⟨rfl,g1,cap1,hw2,hs2⟩
 have y0:=hs2.cell (b:=w.heap.size) x0 (by omega) (by omega)
 have y1:=hs2.cell (b:=w.heap.size) x1 (by omega) (by omega)
 have y3:=hs2.cell (b:=w.heap.size + 1 + 1) x3 (by omega) (by omega)
 have y4:=(hs2.block (b:=w.heap.size + 1 + 1 + 1) (by omega) (by omega) (by omega)).trans x4
 have n4 : w.heap.size + 1 + 1 + 1 ≠ g1:=hs2.ne (by omega) (by omega)
 have hconv:=convB w2 da dn dc zs (SG.out.kept' hs2.k (fun b off c h => by have:=hne b off c h; simp; omega))
 have S2:=hid ((Stp.of_below BW.out).trans hs2)
 have z2:=hs2.size
 have HX:=hid (text323_yes R g1 cap1 (bs ++ uvar pl) (strOfNums zs) (room - pl) 145 #[] w2 hw2 (by omega) (by omega) (by simp; omega) (fun _ _ => rfl) (ask198_yes _ _ w2 (by omega)))
 clear hs2 HT hw2 x0 x1 x2 x3 x4 hmn hcn HW hss
 generalize strOfNums zs = sb at *
 go_wp2_with fail
 refine HX.out.mono ?_
 rintro e w3 ⟨rfl,g2,cap2,hw3,hs3⟩
 obtain ⟨c3,W4,hrun,hseg4,hbl4,hsz4⟩:=conv_str w3 sb (by rw [HSZ.out]; omega)
 have q4:=(hs3.block (b:=w.heap.size + 1 + 1 + 1) (by omega) (by omega) n4).trans y4
 have z3:=hs3.size
 have q5:=(hbl4.block (w.heap.size + 1 + 1 + 1) (by omega)).trans q4
 have n5 : w.heap.size + 1 + 1 + 1 ≠ g2:=hs3.ne (by omega) n4
 obtain ⟨k0,k1,k2,k3⟩:=two_cells q5
 have W4':=hid (hw3.later hbl4)
 have S4:=hid ((S2.out.trans hs3).trans (Stp.of_below hbl4))
 clear hw3 hs3 HX y0 y1 y3 y4 hseg4 hbl4 q4 hconv
 go_wp2_with fail
 refine bodyPost_ret (v:=ovDa (pl,(some ⟨w3.heap.size,0,none⟩,sb.size,c3))) ?_ rfl ⟨(pl,(some ⟨w3.heap.size,0,none⟩,sb.size,c3)),rfl,⟨rfl,HSZ.out⟩,g2,cap2,?_,?_⟩
 ·rw [results_cell1 rfl]
  go_simp
 ·have:=(W4'.out.set (b:=w.heap.size + 1 + 1 + 1) (o:=0) (v:=.int .i64 pl) (by omega) n5).set (b:=w.heap.size + 1 + 1 + 1) (o:=1) (v:=.slice (some ⟨w3.heap.size,0,none⟩) sb.size c3) (by omega) n5
  rw [HSB.out,HSZ.out] at this
  rw [HSZ.out]
  simpa [List.append_assoc] using this
 ·exact (S4.out.set (by omega)).set (by omega)
def chkDaM (room : Int) (ys : List (Int × SL)) (pl : Int) (n : Nat) : Int :=
 if pl < 0 ∨ room < pl then 17 else if touchM ys pl = true then 18 else if room - pl < (n : Int) then 13 else if n = 0 then 17 else 0
theorem data146_no (h : Wr w R g cap bs) (hb : bs.length + 2000000 ≤ 1099511627776) (hr : 0 ≤ room) (hr1 : room ≤ 1000000) (hp0 : -9223372036854775808 ≤ pl) (hp : pl < 9223372036854775808) (hl : ys.length = an) (han : an ≤ 100000) (hys : ∀ y ∈ ys,0 ≤ y.1 ∧ y.1 ≤ 1099511627776 ∧ y.2.2.1 ≤ 1099511627776)
  (hrow : w.ownsRow 0 51 2 (.slice aa an ac) an (ys.flatMap ocDa)) (hseg : Seg w da dn dc zs) (hne : ∀ b off c,nz dn da = some ⟨b,off,c⟩ → b ≠ R ∧ b ≠ g) (hx : chkDaM room ys pl zs.length ≠ 0) :
  Calls Tryz.prog 114 #[cW R,.agg #[.int .i64 pl,.slice da dn dc],.slice aa an ac,.int .i64 room] w (Throws R g (chkDaM room ys pl zs.length) w):=by
 unfold chkDaM at hx ⊢
 have hss:=strOf_size zs
 by_cases c1 : pl < 0 ∨ room < pl
 ·rw [if_pos c1]
  have hw : room < IntKind.u64.wrap pl:=by
   by_cases h0 : 0 ≤ pl
   ·rw [wrap_in pl h0 (by omega)]; omega
   ·rw [wrap_neg pl hp0 (by omega)]; omega
  exact data146_t1 R g cap bs pl room da dn dc aa an ac ys w h 17 hrow (fun W hW _ h2 _ => number319_no R g cap bs _ 143 _ 17 W hW (fun _ _ => rfl) (ask196_17 _ _ room _ _ W hr (by omega) hw h2))
 rw [if_neg c1] at hx ⊢
 have hwp:=wrap_in pl (by omega) (by omega)
 by_cases c2 : touchM ys pl = true
 ·rw [if_pos c2]
  exact data146_t1 R g cap bs pl room da dn dc aa an ac ys w h 18 hrow (fun W hW hrw h2 h3 => number319_no R g cap bs _ 143 _ 18 W hW (fun _ _ => rfl) (by rw [hwp]; exact ask196_18 pl _ room _ _ aa an ac ys W hr (by omega) (by omega) (by omega) hl han hys hrw c2 h2 h3))
 rw [if_neg c2] at hx ⊢
 have c2' : touchM ys pl = false:=by simpa using c2
 by_cases c3 : room - pl < (zs.length : Int)
 ·rw [if_pos c3]
  exact data146_t2 R g cap bs pl room da dn dc zs aa an ac ys w h hb hr hr1 (by omega) (by omega) hl han hys hrow c2' hseg hne 13 (fun W g1 cap1 hW => text323_long R g1 cap1 _ (strOfNums zs) (room - pl) _ W hW (by omega))
 rw [if_neg c3] at hx ⊢
 by_cases c4 : zs.length = 0
 ·rw [if_pos c4]
  exact data146_t2 R g cap bs pl room da dn dc zs aa an ac ys w h hb hr hr1 (by omega) (by omega) hl han hys hrow c2' hseg hne 17 (fun W g1 cap1 hW => text323_no R g1 cap1 _ (strOfNums zs) (room - pl) 145 #[] 17 W hW (by omega) (fun _ _ => rfl) (ask198_no _ _ W (by omega)))
 ·rw [if_neg c4] at hx; exact absurd rfl hx
end
def pgK (R n k : Nat) : List Value:=(List.range n).map fun i => if i < k then Value.slice (some ⟨R,i * 4096,none⟩) 4096 4096 else .slice none 0 0
theorem pgK_len (R n k : Nat) : (pgK R n k).length = n:=by simp [pgK]
theorem pgK_get (R n k i : Nat) (h : i < n) : (pgK R n k)[i]? = some (if i < k then Value.slice (some ⟨R,i * 4096,none⟩) 4096 4096 else .slice none 0 0):=by simp [pgK,h]
theorem pgK_all (R n : Nat) : pgK R n n = pgL R n:=by
 unfold pgK pgL; apply List.map_congr_left; intro i hi; rw [if_pos (by simpa using hi)]
theorem pgK_set (R n k : Nat) : (pgK R n k).set k (.slice (some ⟨R,k * 4096,none⟩) 4096 4096) = pgK R n (k + 1):=by
 apply List.ext_getElem?
 intro j
 by_cases hj : j < n
 ·rw [pgK_get R n (k + 1) j hj]
  by_cases e : j = k
  ·subst e
   rw [List.getElem?_set_self (by rw [pgK_len]; exact hj),if_pos (by omega)]
  ·rw [List.getElem?_set_ne (fun x => e x.symm),pgK_get R n k j hj]
   by_cases h1 : j < k
   ·rw [if_pos h1,if_pos (by omega)]
   ·rw [if_neg h1,if_neg (by omega)]
 ·rw [List.getElem?_eq_none (by rw [List.length_set,pgK_len]; omega),List.getElem?_eq_none (by rw [pgK_len]; omega)]
theorem pgK_made {w : World} {base B n R : Nat} (h : w.ownsRow base 49 1 (.slice (some ⟨B,0,none⟩) n n) n (madeCells (Value.slice none 0 0).cells (n * 1)).toList) : w.heap[B]? = some (.cells (pgK R n 0).toArray 49):=by
 rcases h.2 with ⟨h0,_⟩ | ⟨b,cap,cur,h1,h2,h3,h4,h5,h6,h7⟩
 ·cases h0
 ·injection h1 with e1 e2 e3
  injection e1 with e1
  injection e1 with e1
  subst e1; subst e3
  rw [h3]
  have hl : cur.toList = pgK R n 0:=by
   have a : cur.toList.take (n * 1) = cur.toList:=List.take_of_length_le (by simp; omega)
   rw [← a,h7,Nat.mul_one]
   refine (toList_madeCells_one _ _).trans ?_
   apply List.ext_getElem?
   intro j
   by_cases hj : j < n
   ·rw [pgK_get R n 0 j hj]; simp [hj]
   ·rw [List.getElem?_eq_none (by simp; omega),List.getElem?_eq_none (by rw [pgK_len]; omega)]
  rw [← hl]
def layA (l : List DaM) : Nat → Int:=l.foldl (fun f x => layF f x.1.toNat x.2.2) (fun _ => 0)
theorem layA_snoc (l : List DaM) (x : DaM) : layA (l ++ [x]) = layF (layA l) x.1.toNat x.2.2:=by simp [layA]
def FitD (N : Nat) (l : List DaM) : Prop:=∀ (j : Nat) x,l[j]? = some x → 0 ≤ x.1 ∧ x.1 + (x.2.2.length : Int) ≤ N ∧ x.2.2.length ≠ 0
theorem Tryz.infBy : (Tryz.prog.info? 5).map (fun i => (i.zero,i.size,i.bytes)) = some (some (.int .u8 0),1,1):=by kernel_rfl
theorem Tryz.infSl : (Tryz.prog.info? 49).map (fun i => (i.zero,i.size,i.bytes)) = some (some (.slice none 0 0),1,24):=by kernel_rfl
theorem pag18 (v0 v1 v2 v4 v5 v7 : Value) (n : Nat) (da : Option Addr) (dn dc : Nat) (data : List DaM) (w : World) (hn : n ≤ 64) (hdn : dn ≤ 64) (hd : AtDa w da dn data) (hs : ∀ (j : Nat) x,data[j]? = some x → Seg w x.2.1.1 x.2.1.2.1 x.2.1.2.2 x.2.2) (hf : FitD (n * 4096) data) :
  Calls Tryz.prog 18 #[.agg #[v0,v1,v2,.int .i64 n,v4,v5,.slice da dn dc,v7]] w fun e w' => ∃ LB R,e = .returned (.slice (some ⟨LB,0,none⟩) n n) ∧ w.heap.size ≤ LB ∧ w.heap.size ≤ R ∧ w'.heap[LB]? = some (.cells (pgL R n).toArray 49) ∧ RB .u8 5 w' R (n * 4096) (layA data) ∧ Below w.heap.size w w':=by
 obtain ⟨i0,hi,hz0,hz1,hz2⟩:=info_parts Tryz.infBy
 obtain ⟨i1,hi1,hy0,hy1,hy2⟩:=info_parts Tryz.infSl
 have hb2 : i0.bytes * (n * 4096) ≤ 281474976710656:=by rw [hz2]; omega
 have hb3 : i1.bytes * n ≤ 281474976710656:=by rw [hy2]; omega
 have hml : n * 4096 ≤ maxLen:=by unfold maxLen; omega
 have hml2 : n ≤ maxLen:=by unfold maxLen; omega
 obtain ⟨W0,hW0⟩ : ∃ W,W = w.alloc (.cells #[v0,v1,v2,.int .i64 n,v4,v5,.slice da dn dc,v7] 29):=⟨_,rfl⟩
 have B0 : Below w.heap.size w W0:=by rw [hW0]; exact (Below.refl _ _).alloc (Nat.le_refl _) _
 have hz : W0.heap.size = w.heap.size + 1:=by rw [hW0]; simp
 have c3 : W0.cell? ⟨w.heap.size,3,none⟩ = some (.int .i64 n):=by rw [hW0,World.cell?_alloc_new]; rfl
 have c6 : W0.cell? ⟨w.heap.size,6,none⟩ = some (.slice da dn dc):=by rw [hW0,World.cell?_alloc_new]; rfl
 have HB0:=hid (And.intro B0 hz)
 clear B0 hz
 subst hW0
 go_enter Tryz.func18,Tryz.ntmps18
 go_wp2_with (first
  | (at_make; refine wpList_make_full _ rfl _ _ 49 rfl (w.heap.size + 1) 5 i0 (.int .u8 0) 1 Tryz.underlying49 hi hz0 hz1 .i64 .i64 _ _ (n * 4096) rfl rfl (by omega) (by omega) hb2 hml (by simp) ?_; intro w1 hown hgrow; have K1:=(Kept.of_grown hgrow).to_below (Nat.le_refl _) (fun k hk e => by cases e); have H1:=hid (And.intro (RB.made hown) K1); have c3:=later_cell K1 c3; have c6:=later_cell K1 c6; clear hown hgrow K1)
  | (at_make; refine wpList_make_full _ rfl _ _ 34 rfl w1.heap.size 49 i1 (.slice none 0 0) 1 Tryz.underlying34 hi1 hy0 hy1 .i64 .i64 _ _ n rfl rfl (by omega) (by omega) hb3 hml2 (Nat.le_refl _) ?_; intro w2 hown hgrow; have K2:=(Kept.of_grown hgrow).to_below (Nat.le_refl _) (fun k hk e => by cases e); have H2:=hid (And.intro (pgK_made (R:=w.heap.size + 1) hown) K2); have c3:=later_cell K2 c3; have c6:=later_cell K2 c6; clear hown hgrow K2))
 have hz0':=HB0.out.2
 have hz1' : w.heap.size + 1 < w1.heap.size:=by have:=H1.out.1.lt; omega
 have hz2':=blk_ltI H2.out.1
 have HBX : Hid (Below w.heap.size w w2):=hid (HB0.out.1.trans ((H1.out.2.trans (H2.out.2.mono H1.out.2.size)).mono HB0.out.1.size))
 have HR2:=hid (H1.out.1.later H2.out.2)
 rw [hz0'] at HR2
 have HL2:=hid H2.out.1
 have HCC:=hid (And.intro c3 c6)
 clear hi hz0 hz1 hz2 hi1 hy0 hy1 hy2 hb2 hb3 hml hml2 c3 c6 hz0'
 go_loopw [19] (fun i wr => ∃ k : Nat,k ≤ n ∧ i = .int .i64 k ∧ Hid (wr.heap[w1.heap.size]? = some (.cells (pgK (w.heap.size + 1) n k).toArray 49) ∧ Kept (fun b => b = w1.heap.size) w2 wr)) (fun i _ => n - (intOf i).toNat)
 case atStart => exact ⟨0,by omega,rfl,hid ⟨HL2.out,Kept.refl _ _⟩⟩
 case round =>
  obtain ⟨k,hk,rfl,HR⟩:=hrel
  by_cases hlt : k < n
  ·have hlt' : (k : Int) < (n : Int):=by omega
   have gc : wr.cell? ⟨w1.heap.size,k,none⟩ = some (.slice none 0 0):=by rw [cell_at HR.out.1,List.getElem?_toArray,pgK_get _ n k k hlt,if_neg (by omega)]
   have gf : wr.frozen? ⟨w1.heap.size,k,none⟩ = false:=free_at HR.out.1
   have HS:=setBlk (i:=k) (u:=.slice (some ⟨w.heap.size + 1,k * 4096,none⟩) 4096 4096) HR.out.1
   rw [sIB,pgK_set] at HS
   have HS:=hid (And.intro HS (HR.out.2.trans (kept_set wr w1.heap.size k (.slice (some ⟨w.heap.size + 1,k * 4096,none⟩) 4096 4096))))
   go_wp2_with fail
   rw [show (k + 1) * 4096 - k * 4096 = 4096 by omega]
   exact ⟨⟨k + 1,by omega,by go_num,hid HS.out⟩,by simp [intOf]; omega⟩
  ·obtain rfl : k = n:=by omega
   have HP : Hid (wr.heap[w1.heap.size]? = some (.cells (pgL (w.heap.size + 1) k).toArray 49)):=hid (by rw [← pgK_all]; exact HR.out.1)
   have HK2:=hid HR.out.2
   have c6:=HK2.out.cell HCC.out.2 (by show ¬ w.heap.size = w1.heap.size; omega)
   have HRB:=hid (HR2.out.kept HK2.out (by show ¬ w.heap.size + 1 = w1.heap.size; omega))
   have HBW : Hid (Below w.heap.size w wr):=hid (HBX.out.trans (HK2.out.to_below HBX.out.size (fun b hb e => by have e : b = w1.heap.size:=e; omega)))
   have hzr:=HK2.out.size
   clear HR HL2 HR2 HCC
   go_wp2_with fail
   generalize wr = wa at *
   go_loopw [39] (fun i wr => ∃ q : Nat,q ≤ dn ∧ i = .int .i64 q ∧ Hid (RB .u8 5 wr (w.heap.size + 1) (k * 4096) (layA (data.take q)) ∧ Kept (fun b => b = w.heap.size + 1) wa wr)) (fun i _ => dn - (intOf i).toNat)
   case atStart => exact ⟨0,by omega,rfl,hid ⟨HRB.out.congr (fun i _ => rfl),Kept.refl _ _⟩⟩
   case round =>
    obtain ⟨q,hq,rfl,HR⟩:=hrel
    by_cases hlt : q < dn
    ·obtain ⟨⟨px,⟨sa,sn,sc⟩,zs⟩,hx⟩ : ∃ x,data[q]? = some x:=⟨_,List.getElem?_eq_getElem (by rw [hd.1]; exact hlt)⟩
     obtain ⟨b0,off0,hda,hc⟩:=hd.2.resolve_left (by omega)
     obtain ⟨q0,q1⟩:=hc q _ hx
     obtain ⟨f1,f2,f3⟩:=hf q _ hx
     obtain ⟨s1,s2,s3,s4,s5⟩:=hs q _ hx
     simp only at q0 q1 f1 f2 f3 s1 s2 s3 s4 s5
     obtain ⟨b,off,hsa,hcs⟩:=s5.resolve_left (by omega)
     obtain ⟨At,hAt⟩ : ∃ At : Nat,px = At:=⟨px.toNat,by omega⟩
     have HX:=hid hx
     subst hAt hsa hda
     have hb0 : b0 < w.heap.size:=block_lt_of_cell q0
     have hb : b < w.heap.size:=block_lt_of_cell (hcs 0 (by omega))
     have g0:=HR.out.2.cell (later_cell HBW.out q0) (by show ¬ b0 = w.heap.size + 1; omega)
     have g1:=HR.out.2.cell (later_cell HBW.out q1) (by show ¬ b0 = w.heap.size + 1; omega)
     have hal:=(Below.refl wr.heap.size wr).alloc (Nat.le_refl _) (.cells #[.int .i64 At,.slice (some ⟨b,off,none⟩) sn sc] 51)
     have hka : Kept (fun b => b = w.heap.size + 1) wa (wr.alloc (.cells #[.int .i64 At,.slice (some ⟨b,off,none⟩) sn sc] 51)):=HR.out.2.trans (kept_of hal)
     have HLY:=hid (lay27 w1.heap.size (w.heap.size + 1) k (layA (data.take q)) At b off sn sc zs _ ((hka.block _ (by omega) (by show ¬ w1.heap.size = w.heap.size + 1; omega)).trans HP.out) (HR.out.1.later hal) s1 s2 (fun j hj => hka.cell (later_cell HBW.out (hcs j hj)) (by show ¬ b = w.heap.size + 1; omega)) (by omega) (by omega) hn)
     have HKA:=hid hka
     have hlt' : (q : Int) < (dn : Int):=by omega
     clear hx q0 q1 f1 f2 f3 s1 s2 s3 s4 s5 hcs hc hal hka
     go_wp2_with fail
     refine HLY.out.mono ?_
     rintro e w5 ⟨rfl,hrb,hkp⟩
     have HN:=hid (And.intro hrb (HKA.out.trans hkp))
     clear hrb hkp
     go_wp2_with fail
     refine ⟨⟨q + 1,by omega,by go_num,hid ⟨?_,HN.out.2⟩⟩,by simp [intOf]; omega⟩
     have e1 : data.take (q + 1) = data.take q ++ [((At : Int),(some ⟨b,off,none⟩,sn,sc),zs)]:=by
      have hql:=lt_of_get HX.out
      rw [List.take_succ_eq_append_getElem hql]
      have:=HX.out
      rw [List.getElem?_eq_getElem hql] at this
      rw [Option.some.inj this]
     rw [e1,layA_snoc,show (((At : Int),(some (⟨b,off,none⟩ : Addr),sn,sc),zs) : DaM).1.toNat = At from Int.toNat_natCast At]
     exact HN.out.1
    ·obtain rfl : q = dn:=by omega
     go_wp2
     go_ret
     refine ⟨w1.heap.size,w.heap.size + 1,rfl,by omega,by omega,?_,?_,?_⟩
     ·exact (HR.out.2.block _ (by omega) (by show ¬ w1.heap.size = w.heap.size + 1; omega)).trans HP.out
     ·exact HR.out.1.congr (fun i _ => by rw [List.take_of_length_le (Nat.le_of_eq hd.1)])
     ·exact HBW.out.trans (HR.out.2.to_below HBW.out.size (fun b hb e => by have e : b = w.heap.size + 1:=e; omega))
def cnt (f : Nat → Int) : Nat → Nat
 | 0 => 0
 | n + 1 => cnt f n + (if f n = 0 then 0 else 1)
theorem cnt_congr {f g : Nat → Int} : ∀ {n : Nat},(∀ i,i < n → f i = g i) → cnt f n = cnt g n
 | 0,_ => rfl
 | n + 1,h => by rw [cnt,cnt,cnt_congr (fun i hi => h i (by omega)),h n (by omega)]
theorem cnt_add (f : Nat → Int) (a : Nat) : ∀ b,cnt f (a + b) = cnt f a + cnt (fun i => f (a + i)) b
 | 0 => rfl
 | b + 1 => by
  have:=cnt_add f a b
  show cnt f (a + b) + (if f (a + b) = 0 then 0 else 1) = cnt f a + (cnt (fun i => f (a + i)) b + (if f (a + b) = 0 then 0 else 1))
  rw [this]
  omega
theorem cnt_zero {f : Nat → Int} : ∀ {n : Nat},(∀ i,i < n → f i = 0) → cnt f n = 0
 | 0,_ => rfl
 | n + 1,h => by rw [cnt,cnt_zero (fun i hi => h i (by omega)),h n (by omega),if_pos rfl]
theorem cnt_le (f : Nat → Int) : ∀ n,cnt f n ≤ n
 | 0 => Nat.le_refl _
 | n + 1 => by
  have:=cnt_le f n
  rw [cnt]
  split <;> omega
def lnz (zs : List Int) : Nat:=cnt (fun i => zs.getD i 0) zs.length
def lnS (l : List DaM) : Nat:=(l.map fun x => lnz x.2.2).sum
theorem lnS_snoc (l : List DaM) (x : DaM) : lnS (l ++ [x]) = lnS l + lnz x.2.2:=by simp [lnS]
def OrdD (l : List DaM) : Prop:=∀ (i j : Nat) x y,i < j → l[i]? = some x → l[j]? = some y → x.1 + (x.2.2.length : Int) < y.1
theorem OrdD.left {l : List DaM} {x : DaM} (h : OrdD (l ++ [x])) : OrdD l:=fun i j a b hij ha hb => by
 have h1:=lt_of_get ha
 have h2:=lt_of_get hb
 exact h i j a b hij (by rw [List.getElem?_append_left h1]; exact ha) (by rw [List.getElem?_append_left h2]; exact hb)
theorem OrdD.last {l : List DaM} {x : DaM} (h : OrdD (l ++ [x])) : ∀ (i : Nat) a,l[i]? = some a → a.1 + (a.2.2.length : Int) < x.1:=fun i a ha => by
 have h1:=lt_of_get ha
 exact h i l.length a x h1 (by rw [List.getElem?_append_left h1]; exact ha) (by simp)
theorem FitD.left {N : Nat} {l : List DaM} {x : DaM} (h : FitD N (l ++ [x])) : FitD N l:=fun i a ha => by
 have h1:=lt_of_get ha
 exact h i a (by rw [List.getElem?_append_left h1]; exact ha)
theorem FitD.last {N : Nat} {l : List DaM} {x : DaM} (h : FitD N (l ++ [x])) : 0 ≤ x.1 ∧ x.1 + (x.2.2.length : Int) ≤ N ∧ x.2.2.length ≠ 0:=h l.length x (by simp)
theorem snoc_ind {α : Type} {P : List α → Prop} (h0 : P []) (h1 : ∀ l x,P l → P (l ++ [x])) : ∀ l,P l:=by
 intro l
 have key : ∀ r : List α,P r.reverse:=fun r => by
  induction r with
  | nil => exact h0
  | cons a r ih => rw [List.reverse_cons]; exact h1 _ _ ih
 have:=key l.reverse
 rwa [List.reverse_reverse] at this
theorem lay_behind {N : Nat} (l : List DaM) : FitD N l → ∀ p : Nat,(∀ (i : Nat) a,l[i]? = some a → a.1 + (a.2.2.length : Int) ≤ p) → layA l p = 0:=by
 refine snoc_ind (P:=fun l => FitD N l → ∀ p : Nat,(∀ (i : Nat) a,l[i]? = some a → a.1 + (a.2.2.length : Int) ≤ p) → layA l p = 0) (fun _ _ _ => rfl) (fun l x ih hF p hp => ?_) l
 have hx:=hp l.length x (by simp)
 have h0:=hF.last
 rw [layA_snoc]
 unfold layF
 rw [if_neg (by omega)]
 exact ih hF.left p (fun i a ha => hp i a (by rw [List.getElem?_append_left (lt_of_get ha)]; exact ha))
theorem lay_at {N : Nat} (l : List DaM) : FitD N l → OrdD l → ∀ (i : Nat) x,l[i]? = some x → ∀ k,k < x.2.2.length → layA l (x.1.toNat + k) = x.2.2.getD k 0:=by
 refine snoc_ind (P:=fun l => FitD N l → OrdD l → ∀ (i : Nat) x,l[i]? = some x → ∀ k,k < x.2.2.length → layA l (x.1.toNat + k) = x.2.2.getD k 0) (fun _ _ i x h => by simp at h) (fun l y ih hF hO i x hx k hk => ?_) l
 rw [layA_snoc]
 rcases Nat.lt_or_ge i l.length with hi | hi
 ·rw [List.getElem?_append_left hi] at hx
  have h1:=hO.last i x hx
  have h2:=(hF.left i x hx).1
  unfold layF
  rw [if_neg (by omega)]
  exact ih hF.left hO.left i x hx k hk
 ·have hl:=lt_of_get hx
  rw [List.length_append,List.length_singleton] at hl
  obtain rfl : i = l.length:=by omega
  rw [List.getElem?_append_right (Nat.le_refl _),Nat.sub_self] at hx
  obtain rfl : y = x:=by simpa using hx
  unfold layF
  rw [if_pos (by omega),Nat.add_sub_cancel_left]
theorem cnt_lay {f : Nat → Int} {At N : Nat} {zs : List Int} (hN : At + zs.length ≤ N) (hz : ∀ i,At ≤ i → f i = 0) : cnt (layF f At zs) N = cnt f N + lnz zs:=by
 obtain ⟨r,rfl⟩ : ∃ r,N = At + (zs.length + r):=⟨N - At - zs.length,by omega⟩
 rw [cnt_add,cnt_add f,cnt_add (fun i => layF f At zs (At + i))]
 have a1 : cnt (layF f At zs) At = cnt f At:=cnt_congr (fun i hi => by unfold layF; rw [if_neg (by omega)])
 have a2 : cnt (fun i => layF f At zs (At + i)) zs.length = lnz zs:=cnt_congr (fun i hi => by show layF f At zs (At + i) = zs.getD i 0; unfold layF; rw [if_pos (by omega),Nat.add_sub_cancel_left])
 have a3 : cnt (fun i => layF f At zs (At + (zs.length + i))) r = 0:=cnt_zero (fun i hi => by show layF f At zs (At + (zs.length + i)) = 0; unfold layF; rw [if_neg (by omega)]; exact hz _ (by omega))
 have a4 : cnt (fun i => f (At + i)) (zs.length + r) = 0:=cnt_zero (fun i hi => hz _ (by omega))
 rw [a1,a2,a3,a4]
 omega
theorem lay_cnt {N : Nat} (l : List DaM) : FitD N l → OrdD l → cnt (layA l) N = lnS l:=by
 refine snoc_ind (P:=fun l => FitD N l → OrdD l → cnt (layA l) N = lnS l) (fun _ _ => cnt_zero (fun _ _ => rfl)) (fun l y ih hF hO => ?_) l
 have h0:=hF.last
 rw [layA_snoc,lnS_snoc,cnt_lay (by omega) (fun i hi => lay_behind l hF.left i (fun j a ha => by have:=hO.last j a ha; omega)),ih hF.left hO.left]
theorem lnz_succ (zs : List Int) (k : Nat) : cnt (fun i => zs.getD i 0) (k + 1) = cnt (fun i => zs.getD i 0) k + (if zs.getD k 0 = 0 then 0 else 1):=rfl
end Go.Proofs.YtepcmfegggdjfaaGreatDoor

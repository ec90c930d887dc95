/-
  Texts Wx Sc.
-/
import Derived.Test.YtmgjhfookhaajaaGreatDoorQ14
import Derived.Test.YtmgjhfookhaajaaGreatDoorQ19
import Derived.Test.YtmgjhfookhaajaaGreatDoorQ20
import Derived.Test.YtmgjhfookhaajaaGreatDoorQ21
set_option linter.unusedVariables false
set_option maxRecDepth 100000
set_option maxHeartbeats 16000000
namespace Go.Proofs.YtmgjhfookhaajaaGreatDoor
open Go.RowKit
def W146 (w : World) (pl room : Int) (da : Option Addr) (dn dc : Nat) (aa : Option Addr) (an ac : Nat) : World :=
 (((w.alloc (.cells #[.int .i64 pl,.slice da dn dc] 74)).alloc (.cells #[.slice aa an ac] 33)).alloc (.cells #[.int .i64 room] 3)).alloc (.cells #[.int .i64 0,.slice none 0 0] 74)
theorem w146_facts (w : World) (pl room : Int) (da : Option Addr) (dn dc : Nat) (aa : Option Addr) (an ac : Nat) : Below w.heap.size w (W146 w pl room da dn dc aa an ac) ∧ (W146 w pl room da dn dc aa an ac).heap.size = w.heap.size + 1 + 1 + 1 + 1 ∧
  (W146 w pl room da dn dc aa an ac).cell? ⟨w.heap.size,0,none⟩ = some (.int .i64 pl) ∧ (W146 w pl room da dn dc aa an ac).cell? ⟨w.heap.size,1,none⟩ = some (.slice da dn dc) ∧
  (W146 w pl room da dn dc aa an ac).cell? ⟨w.heap.size + 1,0,none⟩ = some (.slice aa an ac) ∧ (W146 w pl room da dn dc aa an ac).cell? ⟨w.heap.size + 1 + 1,0,none⟩ = some (.int .i64 room) ∧
  (W146 w pl room da dn dc aa an ac).heap[w.heap.size + 1 + 1 + 1]? = some (.cells #[.int .i64 0,.slice none 0 0] 74):=by
 unfold W146
 refine ⟨((((Below.refl _ w).alloc (Nat.le_refl _) _).alloc (by simp) _).alloc (by simp <;> omega) _).alloc (by simp <;> omega) _,by simp,by simp [go_sem],by simp [go_sem],by simp [go_sem],by simp [go_sem],?_⟩
 have:=(MapKept.heap_alloc (((w.alloc (.cells #[.int .i64 pl,.slice da dn dc] 74)).alloc (.cells #[.slice aa an ac] 33)).alloc (.cells #[.int .i64 room] 3)) (.cells #[.int .i64 0,.slice none 0 0] 74)).1
 simpa using this
theorem Seg.kept' {S : Nat → Prop} {w w' : World} {a : Option Addr} {n cap : Nat} {zs : List Int} (h : Seg w a n cap zs) (hk : Kept S w w') (hS : ∀ b off c,nz n a = some ⟨b,off,c⟩ → ¬ S b) : Seg w' a n cap zs:=by
 refine ⟨h.1,h.2.1,h.2.2.1,h.2.2.2.1,h.2.2.2.2.imp id ?_⟩
 rintro ⟨b,off,ha,hc⟩
 exact ⟨b,off,ha,fun j hj => hk.cell (hc j hj) (hS _ _ _ (nz_of (by omega) ha))⟩
section
variable (R g cap : Nat) (bs : List Int) (pl room : Int) (da : Option Addr) (dn dc : Nat) (zs : List Int) (aa : Option Addr) (an ac : Nat) (ys : List (Int × SL)) (w : World)
theorem data146_t1 (h : Wr w R g cap bs) (x : Int) (hrow : w.ownsRow 0 74 2 (.slice aa an ac) an (ys.flatMap ocDa))
  (ht : ∀ W,Wr W R g cap bs → W.ownsRow 0 74 2 (.slice aa an ac) an (ys.flatMap ocDa) → W.cell? ⟨w.heap.size + 1 + 1,0,none⟩ = some (.int .i64 room) → W.cell? ⟨w.heap.size + 1,0,none⟩ = some (.slice aa an ac) →
   Calls Tryz.prog 183 #[.pointer (some ⟨R,0,none⟩),.int .u64 (IntKind.u64.wrap pl),.func (.func 121) #[] #[.pointer (some ⟨w.heap.size + 1 + 1,0,none⟩),.pointer (some ⟨w.heap.size + 1,0,none⟩)]] W (Throws R g x W)) :
  Calls Tryz.prog 92 #[cW R,.agg #[.int .i64 pl,.slice da dn dc],.slice aa an ac,.int .i64 room] w (Throws R g x w):=by
 have hmn:=meth_number
 have hcn:=enter319
 obtain ⟨B0,z0,x0,x1,x2,x3,x4⟩:=w146_facts w pl room da dn dc aa an ac
 have HW : (((w.alloc (.cells #[.int .i64 pl,.slice da dn dc] 74)).alloc (.cells #[.slice aa an ac] 33)).alloc (.cells #[.int .i64 room] 3)).alloc (.cells #[.int .i64 0,.slice none 0 0] 74) = W146 w pl room da dn dc aa an ac:=rfl
 generalize W146 w pl room da dn dc aa an ac = W1 at *
 have HT:=hid (ht W1 (h.later B0) (ownS_keep hrow (fun B hB => B0.block B (lt_of_ownS hrow hB))) x3 x2)
 have BW:=hid B0
 clear ht h B0 hrow
 go_enter Tryz.func92,Tryz.ntmps92
 go_wp2_with fail
 refine HT.out.mono ?_
 rintro e w2 ⟨⟨q,rfl⟩,hk⟩
 exact ⟨rfl,⟨q,rfl⟩,(kept_of BW.out).trans hk⟩
theorem data146_t2 (h : Wr w R g cap bs) (hb : bs.length + 2000000 ≤ 1099511627776) (hr : 0 ≤ room) (hr1 : room ≤ 1000000) (hp0 : 0 ≤ pl) (hp : pl ≤ room) (hl : ys.length = an) (han : an ≤ 100000) (hys : ∀ y ∈ ys,0 ≤ y.1 ∧ y.1 ≤ 1099511627776 ∧ y.2.2.1 ≤ 1099511627776)
  (hrow : w.ownsRow 0 74 2 (.slice aa an ac) an (ys.flatMap ocDa)) (ht : touchM ys pl = false) (hseg : Seg w da dn dc zs) (hne : ∀ b off c,nz dn da = some ⟨b,off,c⟩ → b ≠ R ∧ b ≠ g) (x : Int)
  (htx : ∀ W g1 cap1,Wr W R g1 cap1 (bs ++ uvar pl) → Calls Tryz.prog 187 #[.pointer (some ⟨R,0,none⟩),.string (strOfNums zs),.int .i64 (room - pl),.func (.func 123) #[] #[]] W (Throws R g1 x W)) :
  Calls Tryz.prog 92 #[cW R,.agg #[.int .i64 pl,.slice da dn dc],.slice aa an ac,.int .i64 room] w (Throws R g x w):=by
 have hmn:=meth_number
 have hcn:=enter319
 have hmt:=meth_text
 have hct:=enter323
 have hwp:=wrap_in pl hp0 (by omega)
 have hip : wrap64 pl = pl:=by unfold wrap64; omega
 have hsub : wrap64 (room - pl) = room - pl:=by unfold wrap64; omega
 obtain ⟨B0,z0,x0,x1,x2,x3,x4⟩:=w146_facts w pl room da dn dc aa an ac
 have HW : (((w.alloc (.cells #[.int .i64 pl,.slice da dn dc] 74)).alloc (.cells #[.slice aa an ac] 33)).alloc (.cells #[.int .i64 room] 3)).alloc (.cells #[.int .i64 0,.slice none 0 0] 74) = W146 w pl room da dn dc aa an ac:=rfl
 have hRl:=h.lt
 have hgl:=h.g_lt
 have u1:=uvar_len pl
 generalize W146 w pl room da dn dc aa an ac = W1 at *
 have HT:=hid (number319_yes R g cap bs pl 121 #[.pointer (some ⟨w.heap.size + 1 + 1,0,none⟩),.pointer (some ⟨w.heap.size + 1,0,none⟩)] W1 (h.later B0) hp0 (by omega) (by omega) (fun _ _ => rfl)
  (ask196_x pl _ room (w.heap.size + 1 + 1) (w.heap.size + 1) aa an ac ys W1 hr (by omega) hp0 hp hl han hys (ownS_keep hrow (fun B hB => B0.block B (lt_of_ownS hrow hB))) ht x3 x2))
 have SG:=hid (hseg.later B0 (Nat.le_refl _))
 have BW:=hid B0
 have HTX:=hid htx
 clear h B0 hrow hseg htx
 go_enter Tryz.func92,Tryz.ntmps92
 go_wp2_with fail
 refine HT.out.mono ?_
 rintro e w2 ⟨rfl,g1,cap1,hw2,hs2⟩
 have y0:=hs2.cell (b:=w.heap.size) x0 (by omega) (by omega)
 have y1:=hs2.cell (b:=w.heap.size) x1 (by omega) (by omega)
 have y3:=hs2.cell (b:=w.heap.size + 1 + 1) x3 (by omega) (by omega)
 have hconv:=convB w2 da dn dc zs (SG.out.kept' hs2.k (fun b off c h => by have:=hne b off c h; simp; omega))
 have S2:=hid ((Stp.of_below BW.out).trans hs2)
 have HX:=hid (HTX.out w2 g1 cap1 hw2)
 clear hs2 HT hw2 x0 x1 x2 x3 x4 HTX hmn hcn HW
 go_wp2_with fail
 refine HX.out.mono ?_
 rintro e w3 ⟨⟨q,rfl⟩,hk⟩
 exact ⟨rfl,⟨q,rfl⟩,S2.out.throw hk⟩
theorem data146_yes (h : Wr w R g cap bs) (hb : bs.length + 2000000 ≤ 1099511627776) (hr : 0 ≤ room) (hr1 : room ≤ 1000000) (hp0 : 0 ≤ pl) (hp : pl ≤ room) (hl : ys.length = an) (han : an ≤ 100000) (hys : ∀ y ∈ ys,0 ≤ y.1 ∧ y.1 ≤ 1099511627776 ∧ y.2.2.1 ≤ 1099511627776)
  (hrow : w.ownsRow 0 74 2 (.slice aa an ac) an (ys.flatMap ocDa)) (ht : touchM ys pl = false) (hseg : Seg w da dn dc zs) (hne : ∀ b off c,nz dn da = some ⟨b,off,c⟩ → b ≠ R ∧ b ≠ g) (hlen : (zs.length : Int) ≤ room - pl) (hz : zs.length ≠ 0) :
  Calls Tryz.prog 92 #[cW R,.agg #[.int .i64 pl,.slice da dn dc],.slice aa an ac,.int .i64 room] w fun e w' => ∃ y : Int × SL,e = .returned (ovDa y) ∧ okDa (pl,(da,dn,dc),zs) y ∧ ∃ g' cap',Wr w' R g' cap' (bs ++ (uvar pl ++ (uvar zs.length ++ zs))) ∧ Stp R g g' w w':=by
 have hmn:=meth_number
 have hcn:=enter319
 have hmt:=meth_text
 have hct:=enter323
 have hwp:=wrap_in pl hp0 (by omega)
 have hip : wrap64 pl = pl:=by unfold wrap64; omega
 have hsub : wrap64 (room - pl) = room - pl:=by unfold wrap64; omega
 obtain ⟨B0,z0,x0,x1,x2,x3,x4⟩:=w146_facts w pl room da dn dc aa an ac
 have HW : (((w.alloc (.cells #[.int .i64 pl,.slice da dn dc] 74)).alloc (.cells #[.slice aa an ac] 33)).alloc (.cells #[.int .i64 room] 3)).alloc (.cells #[.int .i64 0,.slice none 0 0] 74) = W146 w pl room da dn dc aa an ac:=rfl
 have hRl:=h.lt
 have hgl:=h.g_lt
 have u1:=uvar_len pl
 have hss:=strOf_size zs
 have HSB:=hid (strOf_bytes zs hseg.2.2.2.1)
 generalize W146 w pl room da dn dc aa an ac = W1 at *
 have HT:=hid (number319_yes R g cap bs pl 121 #[.pointer (some ⟨w.heap.size + 1 + 1,0,none⟩),.pointer (some ⟨w.heap.size + 1,0,none⟩)] W1 (h.later B0) hp0 (by omega) (by omega) (fun _ _ => rfl)
  (ask196_x pl _ room (w.heap.size + 1 + 1) (w.heap.size + 1) aa an ac ys W1 hr (by omega) hp0 hp hl han hys (ownS_keep hrow (fun B hB => B0.block B (lt_of_ownS hrow hB))) ht x3 x2))
 have SG:=hid (hseg.later B0 (Nat.le_refl _))
 have BW:=hid B0
 have HSZ:=hid hss
 clear h B0 hrow hseg
 go_enter Tryz.func92,Tryz.ntmps92
 go_wp2_with fail
 refine HT.out.mono ?_
 rintro e w2 ⟨rfl,g1,cap1,hw2,hs2⟩
 have y0:=hs2.cell (b:=w.heap.size) x0 (by omega) (by omega)
 have y1:=hs2.cell (b:=w.heap.size) x1 (by omega) (by omega)
 have y3:=hs2.cell (b:=w.heap.size + 1 + 1) x3 (by omega) (by omega)
 have y4:=(hs2.block (b:=w.heap.size + 1 + 1 + 1) (by omega) (by omega) (by omega)).trans x4
 have n4 : w.heap.size + 1 + 1 + 1 ≠ g1:=hs2.ne (by omega) (by omega)
 have hconv:=convB w2 da dn dc zs (SG.out.kept' hs2.k (fun b off c h => by have:=hne b off c h; simp; omega))
 have S2:=hid ((Stp.of_below BW.out).trans hs2)
 have z2:=hs2.size
 have HX:=hid (text323_yes R g1 cap1 (bs ++ uvar pl) (strOfNums zs) (room - pl) 123 #[] w2 hw2 (by omega) (by omega) (by simp; omega) (fun _ _ => rfl) (ask198_yes _ _ w2 (by omega)))
 clear hs2 HT hw2 x0 x1 x2 x3 x4 hmn hcn HW hss
 generalize strOfNums zs = sb at *
 go_wp2_with fail
 refine HX.out.mono ?_
 rintro e w3 ⟨rfl,g2,cap2,hw3,hs3⟩
 obtain ⟨c3,W4,hrun,hseg4,hbl4,hsz4⟩:=conv_str w3 sb (by rw [HSZ.out]; omega)
 have q4:=(hs3.block (b:=w.heap.size + 1 + 1 + 1) (by omega) (by omega) n4).trans y4
 have z3:=hs3.size
 have q5:=(hbl4.block (w.heap.size + 1 + 1 + 1) (by omega)).trans q4
 have n5 : w.heap.size + 1 + 1 + 1 ≠ g2:=hs3.ne (by omega) n4
 obtain ⟨k0,k1,k2,k3⟩:=two_cells q5
 have W4':=hid (hw3.later hbl4)
 have S4:=hid ((S2.out.trans hs3).trans (Stp.of_below hbl4))
 clear hw3 hs3 HX y0 y1 y3 y4 hseg4 hbl4 q4 hconv
 go_wp2_with fail
 refine bodyPost_ret (v:=ovDa (pl,(some ⟨w3.heap.size,0,none⟩,sb.size,c3))) ?_ rfl ⟨(pl,(some ⟨w3.heap.size,0,none⟩,sb.size,c3)),rfl,⟨rfl,HSZ.out⟩,g2,cap2,?_,?_⟩
 ·rw [results_cell1 rfl]
  go_simp
 ·have:=(W4'.out.set (b:=w.heap.size + 1 + 1 + 1) (o:=0) (v:=.int .i64 pl) (by omega) n5).set (b:=w.heap.size + 1 + 1 + 1) (o:=1) (v:=.slice (some ⟨w3.heap.size,0,none⟩) sb.size c3) (by omega) n5
  rw [HSB.out,HSZ.out] at this
  rw [HSZ.out]
  simpa [List.append_assoc] using this
 ·exact (S4.out.set (by omega)).set (by omega)
def chkDaM (room : Int) (ys : List (Int × SL)) (pl : Int) (n : Nat) : Int :=
 if pl < 0 ∨ room < pl then 17 else if touchM ys pl = true then 18 else if room - pl < (n : Int) then 13 else if n = 0 then 17 else 0
theorem data146_no (h : Wr w R g cap bs) (hb : bs.length + 2000000 ≤ 1099511627776) (hr : 0 ≤ room) (hr1 : room ≤ 1000000) (hp0 : -9223372036854775808 ≤ pl) (hp : pl < 9223372036854775808) (hl : ys.length = an) (han : an ≤ 100000) (hys : ∀ y ∈ ys,0 ≤ y.1 ∧ y.1 ≤ 1099511627776 ∧ y.2.2.1 ≤ 1099511627776)
  (hrow : w.ownsRow 0 74 2 (.slice aa an ac) an (ys.flatMap ocDa)) (hseg : Seg w da dn dc zs) (hne : ∀ b off c,nz dn da = some ⟨b,off,c⟩ → b ≠ R ∧ b ≠ g) (hx : chkDaM room ys pl zs.length ≠ 0) :
  Calls Tryz.prog 92 #[cW R,.agg #[.int .i64 pl,.slice da dn dc],.slice aa an ac,.int .i64 room] w (Throws R g (chkDaM room ys pl zs.length) w):=by
 unfold chkDaM at hx ⊢
 have hss:=strOf_size zs
 by_cases c1 : pl < 0 ∨ room < pl
 ·rw [if_pos c1]
  have hw : room < IntKind.u64.wrap pl:=by
   by_cases h0 : 0 ≤ pl
   ·rw [wrap_in pl h0 (by omega)]; omega
   ·rw [wrap_neg pl hp0 (by omega)]; omega
  exact data146_t1 R g cap bs pl room da dn dc aa an ac ys w h 17 hrow (fun W hW _ h2 _ => number319_no R g cap bs _ 121 _ 17 W hW (fun _ _ => rfl) (ask196_17 _ _ room _ _ W hr (by omega) hw h2))
 rw [if_neg c1] at hx ⊢
 have hwp:=wrap_in pl (by omega) (by omega)
 by_cases c2 : touchM ys pl = true
 ·rw [if_pos c2]
  exact data146_t1 R g cap bs pl room da dn dc aa an ac ys w h 18 hrow (fun W hW hrw h2 h3 => number319_no R g cap bs _ 121 _ 18 W hW (fun _ _ => rfl) (by rw [hwp]; exact ask196_18 pl _ room _ _ aa an ac ys W hr (by omega) (by omega) (by omega) hl han hys hrw c2 h2 h3))
 rw [if_neg c2] at hx ⊢
 have c2' : touchM ys pl = false:=by simpa using c2
 by_cases c3 : room - pl < (zs.length : Int)
 ·rw [if_pos c3]
  exact data146_t2 R g cap bs pl room da dn dc zs aa an ac ys w h hb hr hr1 (by omega) (by omega) hl han hys hrow c2' hseg hne 13 (fun W g1 cap1 hW => text323_long R g1 cap1 _ (strOfNums zs) (room - pl) _ W hW (by omega))
 rw [if_neg c3] at hx ⊢
 by_cases c4 : zs.length = 0
 ·rw [if_pos c4]
  exact data146_t2 R g cap bs pl room da dn dc zs aa an ac ys w h hb hr hr1 (by omega) (by omega) hl han hys hrow c2' hseg hne 17 (fun W g1 cap1 hW => text323_no R g1 cap1 _ (strOfNums zs) (room - pl) 123 #[] 17 W hW (by omega) (fun _ _ => rfl) (ask198_no _ _ W (by omega)))
 ·rw [if_neg c4] at hx; exact absurd rfl hx
end
def touchT (ah : List DaM) (v : Int) : Bool:=match ah.getLast? with | none => false | some y => decide (v ≤ y.1 + (y.2.2.length : Int))
def chkDaT (room : Int) (ah : List DaM) (x : DaM) : Int :=
 if x.1 < 0 ∨ room < x.1 then 17 else if touchT ah x.1 = true then 18 else if room - x.1 < (x.2.2.length : Int) then 13 else if x.2.2.length = 0 then 17 else 0
def encDaT (x : DaM) : List Int:=uvar x.1 ++ (uvar x.2.2.length ++ x.2.2)
theorem encDaT_le {room : Int} {ah : List DaM} {x : DaM} (hr : room ≤ 262144) (h : chkDaT room ah x = 0) : (encDaT x).length ≤ 300000:=by
 unfold chkDaT at h
 split at h
 ·cases h
 ·split at h
  ·cases h
  ·split at h
   ·cases h
   ·have a:=uvar_len x.1
    have b:=uvar_len x.2.2.length
    simp only [encDaT,List.length_append]
    omega
theorem touch_eq {xs : List DaM} {ys : List (Int × SL)} {j : Nat} (hj : j ≤ xs.length) (hl : ys.length = j) (h : ∀ (i : Nat) y,ys[i]? = some y → ∃ x,xs[i]? = some x ∧ okDa x y) (v : Int) : touchM ys v = touchT (xs.take j) v:=by
 unfold touchM touchT
 rcases Nat.eq_zero_or_pos j with h0 | h0
 ·subst h0
  have : ys = []:=List.eq_nil_of_length_eq_zero hl
  subst this
  simp
 ·obtain ⟨y,hy⟩ : ∃ y,ys[j - 1]? = some y:=⟨_,List.getElem?_eq_getElem (by omega)⟩
  obtain ⟨x,hx,hok⟩:=h (j - 1) y hy
  have e1 : ys.getLast? = some y:=by rw [List.getLast?_eq_getElem?,hl]; exact hy
  have e2 : (xs.take j).getLast? = some x:=by
   rw [List.getLast?_eq_getElem?,List.length_take]
   have e : min j xs.length - 1 = j - 1:=by omega
   rw [e,List.getElem?_take_of_lt (by omega)]
   exact hx
  rw [e1,e2]
  simp only [hok.1,hok.2]
structure DaOk (w : World) (R g : Nat) (x : DaM) : Prop where
 r0 : -9223372036854775808 ≤ x.1
 r1 : x.1 < 9223372036854775808
 seg : Seg w x.2.1.1 x.2.1.2.1 x.2.1.2.2 x.2.2
 ne : ∀ b off c,nz x.2.1.2.1 x.2.1.1 = some ⟨b,off,c⟩ → b ≠ R ∧ b ≠ g
 lt : ∀ b off c,nz x.2.1.2.1 x.2.1.1 = some ⟨b,off,c⟩ → b < w.heap.size
theorem each_exports (R g cap : Nat) (bs : List Int) (n : Nat) (A : Nat) (w : World) (O : Nat) (fa : Option Addr) (fn fc : Nat) (xs : List Ex) (h : Wr w R g cap bs) (hb : bs.length + 300000000000 ≤ 1099511627776) (hn : n ≤ 1000) (hA : w.cell? ⟨A,0,none⟩ = some (cW R)) (hAR : A ≠ R) (hAg : A ≠ g) (hO : w.cell? ⟨O,5,none⟩ = some (.slice fa fn fc)) (hOR : O ≠ R) (hOg : O ≠ g) (hfn : fn ≤ 100000) (hr : ∀ (j : Nat) x,xs[j]? = some x → -9223372036854775808 ≤ x.2 ∧ x.2 < 9223372036854775808) (hl : xs.length = n) (e : Ex → List Int) (k : Nat) (he : ∀ (i : Nat) y,xs[i]? = some y → i < k → e y = (encEx) y) (hall : ∀ (i : Nat) y,xs[i]? = some y → i < k → (fun (ah : List Ex) x => chkEx fn ah x) (xs.take i) y = 0)
  (j : Nat) (x : Ex) (hx : xs[j]? = some x) (hjk : j < k) : EachEx R g w 94 #[.pointer (some ⟨A,0,none⟩),.pointer (some ⟨O,0,none⟩)] bs n xs e (fun x y => y = x) j x:=by
 intro ys W g1 cap1 aa ac hyl hys hst hwr hrow hab
 have hlt:=lt_of_get hx
 have hchk:=hall j x hx hjk
 try simp only at hchk
 have henc:=he j x hx hjk
 have hlen : ((xs.take j).flatMap e).length ≤ j * 100:=by
  have:=flat_le e 100 (xs.take j) (fun i y hi => by
   have hij : i < j:=by have:=lt_of_get hi; simp at this; omega
   rw [List.getElem?_take_of_lt hij] at hi
   rw [he i y hi (by omega)]
   have hc:=hall i y hi (by omega)
   have hs32 : (y).1.size ≤ 32:=by
    simp only at hc
    unfold chkEx at hc
    split at hc
    ·cases hc
    ·omega
   have a1:=encT_le (y).1 32 hs32
   have a2:=uvar_len (y).2
   simp only [encEx,List.length_append]
   omega)
  rw [List.length_take] at this
  have e1 : min j xs.length = j:=by omega
  rwa [e1] at this
 have hu:=uvar_len (n : Int)
 have hbb : (bs ++ uvar n ++ (xs.take j).flatMap e).length ≤ bs.length + 10 + 1000 * 100:=by
  rw [List.length_append,List.length_append]
  have : j * 100 ≤ 1000 * 100:=Nat.mul_le_mul_right _ (by omega)
  omega
 have hrx:=hr j x hx
 have hye:=ok_eq (by omega) hys
 rw [hyl] at hye
 refine (clo148_yes R g1 cap1 _ x aa j ac A O fa fn fc W hwr (hst.cell hA hAR hAg) (hst.cell hO hOR hOg) (fun y => y = x) (bs ++ uvar n ++ (xs.take j).flatMap e ++ e x) (fun W2 hb2 => ?_)).mono ?_
 ·refine (exp149_yes R g1 cap1 _ x.1 x.2 fn aa j ac ys W2 (hwr.later hb2) (by omega) hyl (by omega) (ownS_keep hrow (fun B hB => hb2.block B (lt_of_ownS hrow hB))) (fun b hb' => ⟨by have q1:=(hab b hb').1; have q2:=h.lt; omega,(hab b hb').2⟩) hrx.1 hrx.2 (by omega) (by omega) (by rw [hye]; exact hchk)).mono ?_
  rintro e' w' ⟨he',g',cap',hw',hs'⟩
  refine ⟨x,he',rfl,g',cap',?_,hs'⟩
  rw [henc]
  exact hw'
 ·rintro e' w' ⟨y,he',hy,g',cap',hw',hs'⟩
  exact ⟨y,he',hy,g',cap',hw',hs'⟩
theorem exports_yes (R g cap : Nat) (bs : List Int) (ha : Option Addr) (n hc : Nat) (A : Nat) (w : World) (O : Nat) (fa : Option Addr) (fn fc : Nat) (xs : List Ex) (h : Wr w R g cap bs) (hb : bs.length + 300000000000 ≤ 1099511627776) (hA : w.cell? ⟨A,0,none⟩ = some (cW R)) (hAR : A ≠ R) (hAg : A ≠ g) (hO : w.cell? ⟨O,5,none⟩ = some (.slice fa fn fc)) (hOR : O ≠ R) (hOg : O ≠ g) (hfn : fn ≤ 100000) (hr : ∀ (j : Nat) x,xs[j]? = some x → -9223372036854775808 ≤ x.2 ∧ x.2 < 9223372036854775808) (hmem : AtEx w ha n xs) (hne : ∀ b off c,ha = some ⟨b,off,c⟩ → b ≠ R ∧ b ≠ g) (hx : listE (fun (ah : List Ex) x => chkEx fn ah x) 64 xs = 0) :
  Calls Tryz.prog 93 #[cW R,.slice ha n hc,.int .i64 64,.func (.func 94) #[] #[.pointer (some ⟨A,0,none⟩),.pointer (some ⟨O,0,none⟩)]] w fun e w' => ∃ (aa : Option Addr) (ac : Nat) (ys : List Ex),e = .returned (.slice aa n ac) ∧ ys.length = n ∧ (∀ (i : Nat) y,ys[i]? = some y → ∃ x,xs[i]? = some x ∧ (fun x y => y = x) x y) ∧ ∃ g' cap',Wr w' R g' cap' (bs ++ (uvar n ++ xs.flatMap (encEx))) ∧ Stp R g g' w w':=by
 have hl:=hmem.1
 unfold listE at hx
 split at hx
 ·cases hx
 rename_i hm
 have hall:=firstE_all (fun (ah : List Ex) x => chkEx fn ah x) xs [] hx
 have hall' : ∀ (i : Nat) y,xs[i]? = some y → (fun (ah : List Ex) x => chkEx fn ah x) (xs.take i) y = 0:=fun i y hi => hall i y hi
 refine (list147_yes R g cap bs ha n hc 64 94 _ w xs (encEx) (fun x y => y = x) 100 h (by omega) (by omega) hmem hne (fun _ _ => rfl) (fun j x hj => by
   have hc:=hall' j x hj
   have hs32 : (x).1.size ≤ 32:=by
    simp only at hc
    unfold chkEx at hc
    split at hc
    ·cases hc
    ·omega
   have a1:=encT_le (x).1 32 hs32
   have a2:=uvar_len (x).2
   simp only [encEx,List.length_append]
   omega) (by omega) (by omega)
  (fun j x hj => each_exports R g cap bs n A w O fa fn fc xs h hb (by omega) hA hAR hAg hO hOR hOg hfn hr hl (encEx) (j + 1) (fun _ _ _ _ => rfl) (fun i y hi _ => hall' i y hi) j x hj (by omega))).mono ?_
 rintro e w' ⟨aa,ac,ys,he,hyl,hys,hrow,g',cap',hab,hw',hs'⟩
 exact ⟨aa,ac,ys,he,hyl,hys,g',cap',by simpa [List.append_assoc] using hw',hs'⟩
theorem exports_no (R g cap : Nat) (bs : List Int) (ha : Option Addr) (n hc : Nat) (A : Nat) (w : World) (O : Nat) (fa : Option Addr) (fn fc : Nat) (xs : List Ex) (h : Wr w R g cap bs) (hb : bs.length + 300000000000 ≤ 1099511627776) (hA : w.cell? ⟨A,0,none⟩ = some (cW R)) (hAR : A ≠ R) (hAg : A ≠ g) (hO : w.cell? ⟨O,5,none⟩ = some (.slice fa fn fc)) (hOR : O ≠ R) (hOg : O ≠ g) (hfn : fn ≤ 100000) (hr : ∀ (j : Nat) x,xs[j]? = some x → -9223372036854775808 ≤ x.2 ∧ x.2 < 9223372036854775808) (hmem : AtEx w ha n xs) (hne : ∀ b off c,ha = some ⟨b,off,c⟩ → b ≠ R ∧ b ≠ g) (hx : listE (fun (ah : List Ex) x => chkEx fn ah x) 64 xs ≠ 0) :
  Calls Tryz.prog 93 #[cW R,.slice ha n hc,.int .i64 64,.func (.func 94) #[] #[.pointer (some ⟨A,0,none⟩),.pointer (some ⟨O,0,none⟩)]] w (Throws R g (listE (fun (ah : List Ex) x => chkEx fn ah x) 64 xs) w):=by
 have hl:=hmem.1
 unfold listE at hx ⊢
 by_cases hm : (64 : Int) < xs.length
 ·rw [if_pos hm]
  exact list147_many R g cap bs ha n hc 64 _ w h (by omega)
 rw [if_neg hm] at hx ⊢
 obtain ⟨k,x,h1,h2,h3,h4⟩:=firstE_some (fun (ah : List Ex) x => chkEx fn ah x) xs [] hx
 have hall:=firstE_all (fun (ah : List Ex) x => chkEx fn ah x) (xs.take k) [] h2
 have hall' : ∀ (i : Nat) y,xs[i]? = some y → i < k → (fun (ah : List Ex) x => chkEx fn ah x) (xs.take i) y = 0:=fun i y hi hik => by
  have hh:=hall i y (by rw [List.getElem?_take_of_lt hik]; exact hi)
  have e : (xs.take k).take i = xs.take i:=by rw [List.take_take]; congr 1; omega
  try simp only [List.nil_append,e] at hh
  exact hh
 rw [h4]
 try simp only [List.nil_append] at h3 ⊢
 obtain ⟨E,hE⟩ : ∃ E : Ex → List Int,E = fun y => if ((encEx) y).length ≤ 100 then (encEx) y else []:=⟨_,rfl⟩
 have hEl : ∀ y,(E y).length ≤ 100:=fun y => by
  rw [hE]
  show (if ((encEx) y).length ≤ 100 then (encEx) y else []).length ≤ 100
  split
  ·assumption
  ·simp
 have hEe : ∀ (i : Nat) z,xs[i]? = some z → i < k → E z = (encEx) z:=fun i z hi hik => by
  have hc:=hall' i z hi hik
  have hq : ((encEx) z).length ≤ 100:=by
   have hs32 : (z).1.size ≤ 32:=by
    simp only at hc
    unfold chkEx at hc
    split at hc
    ·cases hc
    ·omega
   have a1:=encT_le (z).1 32 hs32
   have a2:=uvar_len (z).2
   simp only [encEx,List.length_append]
   omega
  rw [hE]
  exact if_pos hq
 refine list147_no R g cap bs ha n hc 64 94 _ w xs E (fun x y => y = x) 100 h (by omega) (by omega) hmem hne (fun _ _ => rfl) (fun j y hj => hEl y) (by omega) (by omega) k x _ h1
  (fun j y hj hjk => each_exports R g cap bs n A w O fa fn fc xs h hb (by omega) hA hAR hAg hO hOR hOg hfn hr hl E k hEe hall' j y hj hjk) ?_
 intro ys W g1 cap1 aa ac hyl hys hst hwr hrow hab
 have hlt:=lt_of_get h1
 have hu:=uvar_len (n : Int)
 have hbb : (bs ++ uvar n ++ (xs.take k).flatMap E).length ≤ bs.length + 10 + 1000 * 100:=by
  have hf:=flat_le E 100 (xs.take k) (fun i y _ => hEl y)
  rw [List.length_take] at hf
  have e1 : min k xs.length = k:=by omega
  rw [e1] at hf
  rw [List.length_append,List.length_append]
  have : k * 100 ≤ 1000 * 100:=Nat.mul_le_mul_right _ (by omega)
  omega
 have hrx:=hr k x h1
 have hye:=ok_eq (by omega) hys
 rw [hyl] at hye
 refine clo148_no R g1 cap1 _ x aa k ac A O fa fn fc W hwr (hst.cell hA hAR hAg) (hst.cell hO hOR hOg) _ (fun W2 hb2 => ?_)
 rw [← hye] at h3 ⊢
 exact exp149_no R g1 cap1 _ x.1 x.2 fn aa k ac ys W2 (hwr.later hb2) (by omega) (by omega) hyl (by omega) (ownS_keep hrow (fun B hB => hb2.block B (lt_of_ownS hrow hB))) hrx.1 hrx.2 (by omega) (by omega) h3
theorem each_data (R g cap : Nat) (bs : List Int) (n : Nat) (A : Nat) (w : World) (O : Nat) (fi : Int) (xs : List DaM) (h : Wr w R g cap bs) (hb : bs.length + 300000000000 ≤ 1099511627776) (hn : n ≤ 1000) (hA : w.cell? ⟨A,0,none⟩ = some (cW R)) (hAR : A ≠ R) (hAg : A ≠ g) (hO : w.cell? ⟨O,3,none⟩ = some (.int .i64 fi)) (hOR : O ≠ R) (hOg : O ≠ g) (hf0 : 0 ≤ fi) (hf1 : fi ≤ 64) (hr : ∀ (j : Nat) x,xs[j]? = some x → DaOk w R g x) (hl : xs.length = n) (e : DaM → List Int) (k : Nat) (he : ∀ (i : Nat) y,xs[i]? = some y → i < k → e y = (encDaT) y) (hall : ∀ (i : Nat) y,xs[i]? = some y → i < k → (fun (ah : List DaM) x => chkDaT (fi * 4096) ah x) (xs.take i) y = 0)
  (j : Nat) (x : DaM) (hx : xs[j]? = some x) (hjk : j < k) : EachDa R g w 91 #[.pointer (some ⟨A,0,none⟩),.pointer (some ⟨O,0,none⟩)] bs n xs e (okDa) j x:=by
 intro ys W g1 cap1 aa ac hyl hys hst hwr hrow hab
 have hlt:=lt_of_get hx
 have hchk:=hall j x hx hjk
 try simp only at hchk
 have henc:=he j x hx hjk
 have hlen : ((xs.take j).flatMap e).length ≤ j * 300000:=by
  have:=flat_le e 300000 (xs.take j) (fun i y hi => by
   have hij : i < j:=by have:=lt_of_get hi; simp at this; omega
   rw [List.getElem?_take_of_lt hij] at hi
   rw [he i y hi (by omega)]
   have hc:=hall i y hi (by omega)
   exact encDaT_le (by omega) hc)
  rw [List.length_take] at this
  have e1 : min j xs.length = j:=by omega
  rwa [e1] at this
 have hu:=uvar_len (n : Int)
 have hbb : (bs ++ uvar n ++ (xs.take j).flatMap e).length ≤ bs.length + 10 + 1000 * 300000:=by
  rw [List.length_append,List.length_append]
  have : j * 300000 ≤ 1000 * 300000:=Nat.mul_le_mul_right _ (by omega)
  omega
 have hrx:=hr j x hx
 have hti:=touch_eq (by omega) hyl hys
 have hys' : ∀ y ∈ ys,0 ≤ y.1 ∧ y.1 ≤ 1099511627776 ∧ y.2.2.1 ≤ 1099511627776:=fun y hy => by
  obtain ⟨i,hi,rfl⟩:=List.getElem_of_mem hy
  obtain ⟨x',hx',hok⟩:=hys i _ (List.getElem?_eq_getElem hi)
  have hcx:=hall i x' hx' (by omega)
  simp only at hcx
  unfold chkDaT at hcx
  split at hcx
  ·cases hcx
  ·split at hcx
   ·cases hcx
   ·split at hcx
    ·cases hcx
    ·rw [hok.1,hok.2]; omega
 have hc2 : (0 ≤ x.1 ∧ x.1 ≤ fi * 4096) ∧ touchT (xs.take j) x.1 = false ∧ (x.2.2.length : Int) ≤ fi * 4096 - x.1 ∧ x.2.2.length ≠ 0:=by
  unfold chkDaT at hchk
  split at hchk
  ·cases hchk
  ·split at hchk
   ·cases hchk
   ·split at hchk
    ·cases hchk
    ·split at hchk
     ·cases hchk
     ·rename_i q1 q2 q3 q4
      exact ⟨⟨by omega,by omega⟩,by simpa using q2,by omega,q4⟩
 refine (clo145_yes R g1 cap1 _ x aa j ac A O fi W hwr (hst.cell hA hAR hAg) (hst.cell hO hOR hOg) hf0 hf1 (fun y => okDa x y) (bs ++ uvar n ++ (xs.take j).flatMap e ++ e x) (fun W2 hb2 => ?_)).mono ?_
 ·refine (data146_yes R g1 cap1 _ x.1 (fi * 4096) x.2.1.1 x.2.1.2.1 x.2.1.2.2 x.2.2 aa j ac ys W2 (hwr.later hb2) (by omega) (by omega) (by omega) hc2.1.1 hc2.1.2 hyl (by omega) hys' (ownS_keep hrow (fun B hB => hb2.block B (lt_of_ownS hrow hB))) (by rw [hti]; exact hc2.2.1)
   ((hrx.seg.kept' hst.k (fun b off c hb' => by have:=hrx.ne b off c hb'; simp; omega)).later hb2 (Nat.le_refl _)) (fun b off c hb' => ⟨(hrx.ne b off c hb').1,hst.ne (hrx.lt b off c hb') (hrx.ne b off c hb').2⟩) hc2.2.2.1 hc2.2.2.2).mono ?_
  rintro e' w' ⟨y,he',hy,g',cap',hw',hs'⟩
  refine ⟨y,he',hy,g',cap',?_,hs'⟩
  rw [henc]
  exact hw'
 ·rintro e' w' ⟨y,he',hy,g',cap',hw',hs'⟩
  exact ⟨y,he',hy,g',cap',hw',hs'⟩
theorem data_yes (R g cap : Nat) (bs : List Int) (ha : Option Addr) (n hc : Nat) (A : Nat) (w : World) (O : Nat) (fi : Int) (xs : List DaM) (h : Wr w R g cap bs) (hb : bs.length + 300000000000 ≤ 1099511627776) (hA : w.cell? ⟨A,0,none⟩ = some (cW R)) (hAR : A ≠ R) (hAg : A ≠ g) (hO : w.cell? ⟨O,3,none⟩ = some (.int .i64 fi)) (hOR : O ≠ R) (hOg : O ≠ g) (hf0 : 0 ≤ fi) (hf1 : fi ≤ 64) (hr : ∀ (j : Nat) x,xs[j]? = some x → DaOk w R g x) (hmem : AtDa w ha n xs) (hne : ∀ b off c,ha = some ⟨b,off,c⟩ → b ≠ R ∧ b ≠ g) (hx : listE (fun (ah : List DaM) x => chkDaT (fi * 4096) ah x) 64 xs = 0) :
  Calls Tryz.prog 90 #[cW R,.slice ha n hc,.int .i64 64,.func (.func 91) #[] #[.pointer (some ⟨A,0,none⟩),.pointer (some ⟨O,0,none⟩)]] w fun e w' => ∃ (aa : Option Addr) (ac : Nat) (ys : List (Int × SL)),e = .returned (.slice aa n ac) ∧ ys.length = n ∧ (∀ (i : Nat) y,ys[i]? = some y → ∃ x,xs[i]? = some x ∧ (okDa) x y) ∧ ∃ g' cap',Wr w' R g' cap' (bs ++ (uvar n ++ xs.flatMap (encDaT))) ∧ Stp R g g' w w':=by
 have hl:=hmem.1
 unfold listE at hx
 split at hx
 ·cases hx
 rename_i hm
 have hall:=firstE_all (fun (ah : List DaM) x => chkDaT (fi * 4096) ah x) xs [] hx
 have hall' : ∀ (i : Nat) y,xs[i]? = some y → (fun (ah : List DaM) x => chkDaT (fi * 4096) ah x) (xs.take i) y = 0:=fun i y hi => hall i y hi
 refine (list144_yes R g cap bs ha n hc 64 91 _ w xs (encDaT) (okDa) 300000 h (by omega) (by omega) hmem hne (fun _ _ => rfl) (fun j x hj => by
   have hc:=hall' j x hj
   exact encDaT_le (by omega) hc) (by omega) (by omega)
  (fun j x hj => each_data R g cap bs n A w O fi xs h hb (by omega) hA hAR hAg hO hOR hOg hf0 hf1 hr hl (encDaT) (j + 1) (fun _ _ _ _ => rfl) (fun i y hi _ => hall' i y hi) j x hj (by omega))).mono ?_
 rintro e w' ⟨aa,ac,ys,he,hyl,hys,hrow,g',cap',hab,hw',hs'⟩
 exact ⟨aa,ac,ys,he,hyl,hys,g',cap',by simpa [List.append_assoc] using hw',hs'⟩
theorem data_no (R g cap : Nat) (bs : List Int) (ha : Option Addr) (n hc : Nat) (A : Nat) (w : World) (O : Nat) (fi : Int) (xs : List DaM) (h : Wr w R g cap bs) (hb : bs.length + 300000000000 ≤ 1099511627776) (hA : w.cell? ⟨A,0,none⟩ = some (cW R)) (hAR : A ≠ R) (hAg : A ≠ g) (hO : w.cell? ⟨O,3,none⟩ = some (.int .i64 fi)) (hOR : O ≠ R) (hOg : O ≠ g) (hf0 : 0 ≤ fi) (hf1 : fi ≤ 64) (hr : ∀ (j : Nat) x,xs[j]? = some x → DaOk w R g x) (hmem : AtDa w ha n xs) (hne : ∀ b off c,ha = some ⟨b,off,c⟩ → b ≠ R ∧ b ≠ g) (hx : listE (fun (ah : List DaM) x => chkDaT (fi * 4096) ah x) 64 xs ≠ 0) :
  Calls Tryz.prog 90 #[cW R,.slice ha n hc,.int .i64 64,.func (.func 91) #[] #[.pointer (some ⟨A,0,none⟩),.pointer (some ⟨O,0,none⟩)]] w (Throws R g (listE (fun (ah : List DaM) x => chkDaT (fi * 4096) ah x) 64 xs) w):=by
 have hl:=hmem.1
 unfold listE at hx ⊢
 by_cases hm : (64 : Int) < xs.length
 ·rw [if_pos hm]
  exact list144_many R g cap bs ha n hc 64 _ w h (by omega)
 rw [if_neg hm] at hx ⊢
 obtain ⟨k,x,h1,h2,h3,h4⟩:=firstE_some (fun (ah : List DaM) x => chkDaT (fi * 4096) ah x) xs [] hx
 have hall:=firstE_all (fun (ah : List DaM) x => chkDaT (fi * 4096) ah x) (xs.take k) [] h2
 have hall' : ∀ (i : Nat) y,xs[i]? = some y → i < k → (fun (ah : List DaM) x => chkDaT (fi * 4096) ah x) (xs.take i) y = 0:=fun i y hi hik => by
  have hh:=hall i y (by rw [List.getElem?_take_of_lt hik]; exact hi)
  have e : (xs.take k).take i = xs.take i:=by rw [List.take_take]; congr 1; omega
  try simp only [List.nil_append,e] at hh
  exact hh
 rw [h4]
 try simp only [List.nil_append] at h3 ⊢
 obtain ⟨E,hE⟩ : ∃ E : DaM → List Int,E = fun y => if ((encDaT) y).length ≤ 300000 then (encDaT) y else []:=⟨_,rfl⟩
 have hEl : ∀ y,(E y).length ≤ 300000:=fun y => by
  rw [hE]
  show (if ((encDaT) y).length ≤ 300000 then (encDaT) y else []).length ≤ 300000
  split
  ·assumption
  ·simp
 have hEe : ∀ (i : Nat) z,xs[i]? = some z → i < k → E z = (encDaT) z:=fun i z hi hik => by
  have hc:=hall' i z hi hik
  have hq : ((encDaT) z).length ≤ 300000:=by
   exact encDaT_le (by omega) hc
  rw [hE]
  exact if_pos hq
 refine list144_no R g cap bs ha n hc 64 91 _ w xs E (okDa) 300000 h (by omega) (by omega) hmem hne (fun _ _ => rfl) (fun j y hj => hEl y) (by omega) (by omega) k x _ h1
  (fun j y hj hjk => each_data R g cap bs n A w O fi xs h hb (by omega) hA hAR hAg hO hOR hOg hf0 hf1 hr hl E k hEe hall' j y hj hjk) ?_
 intro ys W g1 cap1 aa ac hyl hys hst hwr hrow hab
 have hlt:=lt_of_get h1
 have hu:=uvar_len (n : Int)
 have hbb : (bs ++ uvar n ++ (xs.take k).flatMap E).length ≤ bs.length + 10 + 1000 * 300000:=by
  have hf:=flat_le E 300000 (xs.take k) (fun i y _ => hEl y)
  rw [List.length_take] at hf
  have e1 : min k xs.length = k:=by omega
  rw [e1] at hf
  rw [List.length_append,List.length_append]
  have : k * 300000 ≤ 1000 * 300000:=Nat.mul_le_mul_right _ (by omega)
  omega
 have hrx:=hr k x h1
 have hti:=touch_eq (by omega) hyl hys
 have hys' : ∀ y ∈ ys,0 ≤ y.1 ∧ y.1 ≤ 1099511627776 ∧ y.2.2.1 ≤ 1099511627776:=fun y hy => by
  obtain ⟨i,hi,rfl⟩:=List.getElem_of_mem hy
  obtain ⟨x',hx',hok⟩:=hys i _ (List.getElem?_eq_getElem hi)
  have hcx:=hall' i x' hx' (by omega)
  simp only at hcx
  unfold chkDaT at hcx
  split at hcx
  ·cases hcx
  ·split at hcx
   ·cases hcx
   ·split at hcx
    ·cases hcx
    ·rw [hok.1,hok.2]; omega
 have heq : chkDaT (fi * 4096) (xs.take k) x = chkDaM (fi * 4096) ys x.1 x.2.2.length:=by
  unfold chkDaT chkDaM
  rw [hti]
 rw [heq] at h3 ⊢
 refine clo145_no R g1 cap1 _ x aa k ac A O fi W hwr (hst.cell hA hAR hAg) (hst.cell hO hOR hOg) hf0 hf1 _ (fun W2 hb2 => ?_)
 exact data146_no R g1 cap1 _ x.1 (fi * 4096) x.2.1.1 x.2.1.2.1 x.2.1.2.2 x.2.2 aa k ac ys W2 (hwr.later hb2) (by omega) (by omega) (by omega) hrx.r0 hrx.r1 hyl (by omega) hys' (ownS_keep hrow (fun B hB => hb2.block B (lt_of_ownS hrow hB)))
   ((hrx.seg.kept' hst.k (fun b off c hb' => by have:=hrx.ne b off c hb'; simp; omega)).later hb2 (Nat.le_refl _)) (fun b off c hb' => ⟨(hrx.ne b off c hb').1,hst.ne (hrx.lt b off c hb') (hrx.ne b off c hb').2⟩) h3
end Go.Proofs.YtmgjhfookhaajaaGreatDoor

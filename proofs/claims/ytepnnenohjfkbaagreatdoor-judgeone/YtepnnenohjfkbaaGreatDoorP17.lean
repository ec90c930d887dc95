/-
  Texts Wx Sc.
-/
import Derived.Test.YtepnnenohjfkbaaGreatDoorP08
import Derived.Test.YtepnnenohjfkbaaGreatDoorP14
import Derived.Test.YtepnnenohjfkbaaGreatDoorP15
import Derived.Test.YtepnnenohjfkbaaGreatDoorP16
set_option linter.unusedVariables false
set_option maxRecDepth 100000
set_option maxHeartbeats 16000000
namespace Go.Proofs.YtepnnenohjfkbaaGreatDoor
open Go.RowKit
def iQ (w : World) (pl room : Int) (da : Option Addr) (dn dc : Nat) (aa : Option Addr) (an ac : Nat) : World :=
 (((w.alloc (.cells #[.int .i64 pl,.slice da dn dc] 66)).alloc (.cells #[.slice aa an ac] 26)).alloc (.cells #[.int .i64 room] 3)).alloc (.cells #[.int .i64 0,.slice none 0 0] 66)
theorem gW (w : World) (pl room : Int) (da : Option Addr) (dn dc : Nat) (aa : Option Addr) (an ac : Nat) : Below w.heap.size w (iQ w pl room da dn dc aa an ac) ∧ (iQ w pl room da dn dc aa an ac).heap.size = w.heap.size + 1 + 1 + 1 + 1 ∧
  (iQ w pl room da dn dc aa an ac).cell? ⟨w.heap.size,0,none⟩ = some (.int .i64 pl) ∧ (iQ w pl room da dn dc aa an ac).cell? ⟨w.heap.size,1,none⟩ = some (.slice da dn dc) ∧
  (iQ w pl room da dn dc aa an ac).cell? ⟨w.heap.size + 1,0,none⟩ = some (.slice aa an ac) ∧ (iQ w pl room da dn dc aa an ac).cell? ⟨w.heap.size + 1 + 1,0,none⟩ = some (.int .i64 room) ∧
  (iQ w pl room da dn dc aa an ac).heap[w.heap.size + 1 + 1 + 1]? = some (.cells #[.int .i64 0,.slice none 0 0] 66):=by
 unfold iQ
 refine ⟨((((Below.refl _ w).alloc (Nat.le_refl _) _).alloc (by simp) _).alloc (by simp <;> omega) _).alloc (by simp <;> omega) _,by simp,by simp [go_sem],by simp [go_sem],by simp [go_sem],by simp [go_sem],?_⟩
 have:=(MapKept.heap_alloc (((w.alloc (.cells #[.int .i64 pl,.slice da dn dc] 66)).alloc (.cells #[.slice aa an ac] 26)).alloc (.cells #[.int .i64 room] 3)) (.cells #[.int .i64 0,.slice none 0 0] 66)).1
 simpa using this
theorem Seg.kept' {S : Nat → Prop} {w w' : World} {a : Option Addr} {n cap : Nat} {zs : List Int} (h : Seg w a n cap zs) (hk : Kept S w w') (hS : ∀ b off c,nz n a = some ⟨b,off,c⟩ → ¬ S b) : Seg w' a n cap zs:=by
 refine ⟨h.1,h.2.1,h.2.2.1,h.2.2.2.1,h.2.2.2.2.imp id ?_⟩;rintro ⟨b,off,ha,hc⟩
 exact ⟨b,off,ha,fun j hj => hk.cell (hc j hj) (hS _ _ _ (vN (by omega) ha))⟩
section
variable (R g cap : Nat) (bs : List Int) (pl room : Int) (da : Option Addr) (dn dc : Nat) (zs : List Int) (aa : Option Addr) (an ac : Nat) (ys : List (Int × SL)) (w : World)
theorem kV (h : Wr w R g cap bs) (x : Int) (hrow : w.ownsRow 0 66 2 (.slice aa an ac) an (ys.flatMap dL))
  (ht : ∀ W,Wr W R g cap bs → W.ownsRow 0 66 2 (.slice aa an ac) an (ys.flatMap dL) → W.cell? ⟨w.heap.size + 1 + 1,0,none⟩ = some (.int .i64 room) → W.cell? ⟨w.heap.size + 1,0,none⟩ = some (.slice aa an ac) →
   Calls Tryz.prog 312 #[.pointer (some ⟨R,0,none⟩),.int .u64 (IntKind.u64.wrap pl),.func (.func 190) #[] #[.pointer (some ⟨w.heap.size + 1 + 1,0,none⟩),.pointer (some ⟨w.heap.size + 1,0,none⟩)]] W (aG R g x W)) :
  Calls Tryz.prog 128 #[cW R,.agg #[.int .i64 pl,.slice da dn dc],.slice aa an ac,.int .i64 room] w (aG R g x w):=by
 have hmn:=cC;have hcn:=dX;obtain ⟨B0,z0,x0,x1,x2,x3,x4⟩:=gW w pl room da dn dc aa an ac;have HW : (((w.alloc (.cells #[.int .i64 pl,.slice da dn dc] 66)).alloc (.cells #[.slice aa an ac] 26)).alloc (.cells #[.int .i64 room] 3)).alloc (.cells #[.int .i64 0,.slice none 0 0] 66) = iQ w pl room da dn dc aa an ac:=rfl;generalize iQ w pl room da dn dc aa an ac = W1 at *
 have HT:=hid (ht W1 (h.later B0) (ar hrow (fun B hB => B0.block B (ak hrow hB))) x3 x2)
 have BW:=hid B0;clear ht h B0 hrow
 go_enter Tryz.func128,Tryz.ntmps128
 go_wp2_with fail;refine HT.out.mono ?_;rintro e w2 ⟨⟨q,rfl⟩,hk⟩;exact ⟨rfl,⟨q,rfl⟩,(aB BW.out).trans hk⟩
theorem ky (h : Wr w R g cap bs) (hb : bs.length + 2000000 ≤ 1099511627776) (hr : 0 ≤ room) (hr1 : room ≤ 1000000) (hp0 : 0 ≤ pl) (hp : pl ≤ room) (hl : ys.length = an) (han : an ≤ 100000) (hys : ∀ y ∈ ys,0 ≤ y.1 ∧ y.1 ≤ 1099511627776 ∧ y.2.2.1 ≤ 1099511627776)
  (hrow : w.ownsRow 0 66 2 (.slice aa an ac) an (ys.flatMap dL)) (ht : dF ys pl = false) (hseg : Seg w da dn dc zs) (hne : ∀ b off c,nz dn da = some ⟨b,off,c⟩ → b ≠ R ∧ b ≠ g) (x : Int)
  (htx : ∀ W g1 cap1,Wr W R g1 cap1 (bs ++ am pl) → Calls Tryz.prog 316 #[.pointer (some ⟨R,0,none⟩),.string (strOfNums zs),.int .i64 (room - pl),.func (.func 192) #[] #[]] W (aG R g1 x W)) :
  Calls Tryz.prog 128 #[cW R,.agg #[.int .i64 pl,.slice da dn dc],.slice aa an ac,.int .i64 room] w (aG R g x w):=by
 have hmn:=cC;have hcn:=dX;have hmt:=bW;have hct:=cD
 have hwp:=bD pl hp0 (by omega)
 have hip : wrap64 pl = pl:=by unfold wrap64; omega
 have hsub : wrap64 (room - pl) = room - pl:=by unfold wrap64; omega
 obtain ⟨B0,z0,x0,x1,x2,x3,x4⟩:=gW w pl room da dn dc aa an ac;have HW : (((w.alloc (.cells #[.int .i64 pl,.slice da dn dc] 66)).alloc (.cells #[.slice aa an ac] 26)).alloc (.cells #[.int .i64 room] 3)).alloc (.cells #[.int .i64 0,.slice none 0 0] 66) = iQ w pl room da dn dc aa an ac:=rfl;have hRl:=h.lt;have hgl:=h.g_lt;have u1:=aC pl;generalize iQ w pl room da dn dc aa an ac = W1 at *
 have HT:=hid (dA R g cap bs pl 190 #[.pointer (some ⟨w.heap.size + 1 + 1,0,none⟩),.pointer (some ⟨w.heap.size + 1,0,none⟩)] W1 (h.later B0) hp0 (by omega) (by omega) (fun _ _ => rfl)
  (oP pl _ room (w.heap.size + 1 + 1) (w.heap.size + 1) aa an ac ys W1 hr (by omega) hp0 hp hl han hys (ar hrow (fun B hB => B0.block B (ak hrow hB))) ht x3 x2))
 have SG:=hid (hseg.later B0 (Nat.le_refl _));have BW:=hid B0;have HTX:=hid htx;clear h B0 hrow hseg htx
 go_enter Tryz.func128,Tryz.ntmps128
 go_wp2_with fail;refine HT.out.mono ?_;rintro e w2 ⟨rfl,g1,cap1,hw2,hs2⟩
 have y0:=hs2.cell (b:=w.heap.size) x0 (by omega) (by omega)
 have y1:=hs2.cell (b:=w.heap.size) x1 (by omega) (by omega)
 have y3:=hs2.cell (b:=w.heap.size + 1 + 1) x3 (by omega) (by omega)
 have hconv:=yW w2 da dn dc zs (SG.out.kept' hs2.k (fun b off c h => by have:=hne b off c h; simp; omega))
 have S2:=hid ((Stp.of_below BW.out).trans hs2);have HX:=hid (HTX.out w2 g1 cap1 hw2);clear hs2 HT hw2 x0 x1 x2 x3 x4 HTX hmn hcn HW;go_wp2_with fail;refine HX.out.mono ?_;rintro e w3 ⟨⟨q,rfl⟩,hk⟩;exact ⟨rfl,⟨q,rfl⟩,S2.out.throw hk⟩
theorem pP (h : Wr w R g cap bs) (hb : bs.length + 2000000 ≤ 1099511627776) (hr : 0 ≤ room) (hr1 : room ≤ 1000000) (hp0 : 0 ≤ pl) (hp : pl ≤ room) (hl : ys.length = an) (han : an ≤ 100000) (hys : ∀ y ∈ ys,0 ≤ y.1 ∧ y.1 ≤ 1099511627776 ∧ y.2.2.1 ≤ 1099511627776)
  (hrow : w.ownsRow 0 66 2 (.slice aa an ac) an (ys.flatMap dL)) (ht : dF ys pl = false) (hseg : Seg w da dn dc zs) (hne : ∀ b off c,nz dn da = some ⟨b,off,c⟩ → b ≠ R ∧ b ≠ g) (hlen : (zs.length : Int) ≤ room - pl) (hz : zs.length ≠ 0) :
  Calls Tryz.prog 128 #[cW R,.agg #[.int .i64 pl,.slice da dn dc],.slice aa an ac,.int .i64 room] w fun e w' => ∃ y : Int × SL,e = .returned (Al y) ∧ qW (pl,(da,dn,dc),zs) y ∧ ∃ g' cap',Wr w' R g' cap' (bs ++ (am pl ++ (am zs.length ++ zs))) ∧ Stp R g g' w w':=by
 have hmn:=cC;have hcn:=dX;have hmt:=bW;have hct:=cD
 have hwp:=bD pl hp0 (by omega)
 have hip : wrap64 pl = pl:=by unfold wrap64; omega
 have hsub : wrap64 (room - pl) = room - pl:=by unfold wrap64; omega
 obtain ⟨B0,z0,x0,x1,x2,x3,x4⟩:=gW w pl room da dn dc aa an ac;have HW : (((w.alloc (.cells #[.int .i64 pl,.slice da dn dc] 66)).alloc (.cells #[.slice aa an ac] 26)).alloc (.cells #[.int .i64 room] 3)).alloc (.cells #[.int .i64 0,.slice none 0 0] 66) = iQ w pl room da dn dc aa an ac:=rfl;have hRl:=h.lt;have hgl:=h.g_lt;have u1:=aC pl;have hss:=ku zs;have HSB:=hid (qt zs hseg.2.2.2.1);generalize iQ w pl room da dn dc aa an ac = W1 at *
 have HT:=hid (dA R g cap bs pl 190 #[.pointer (some ⟨w.heap.size + 1 + 1,0,none⟩),.pointer (some ⟨w.heap.size + 1,0,none⟩)] W1 (h.later B0) hp0 (by omega) (by omega) (fun _ _ => rfl)
  (oP pl _ room (w.heap.size + 1 + 1) (w.heap.size + 1) aa an ac ys W1 hr (by omega) hp0 hp hl han hys (ar hrow (fun B hB => B0.block B (ak hrow hB))) ht x3 x2))
 have SG:=hid (hseg.later B0 (Nat.le_refl _));have BW:=hid B0;have HSZ:=hid hss;clear h B0 hrow hseg
 go_enter Tryz.func128,Tryz.ntmps128
 go_wp2_with fail;refine HT.out.mono ?_;rintro e w2 ⟨rfl,g1,cap1,hw2,hs2⟩
 have y0:=hs2.cell (b:=w.heap.size) x0 (by omega) (by omega)
 have y1:=hs2.cell (b:=w.heap.size) x1 (by omega) (by omega)
 have y3:=hs2.cell (b:=w.heap.size + 1 + 1) x3 (by omega) (by omega)
 have y4:=(hs2.block (b:=w.heap.size + 1 + 1 + 1) (by omega) (by omega) (by omega)).trans x4
 have n4 : w.heap.size + 1 + 1 + 1 ≠ g1:=hs2.ne (by omega) (by omega)
 have hconv:=yW w2 da dn dc zs (SG.out.kept' hs2.k (fun b off c h => by have:=hne b off c h; simp; omega))
 have S2:=hid ((Stp.of_below BW.out).trans hs2);have z2:=hs2.size
 have HX:=hid (bZ R g1 cap1 (bs ++ am pl) (strOfNums zs) (room - pl) 192 #[] w2 hw2 (by omega) (by omega) (by simp; omega) (fun _ _ => rfl) (sC _ _ w2 (by omega)))
 clear hs2 HT hw2 x0 x1 x2 x3 x4 hmn hcn HW hss;generalize strOfNums zs = sb at *;go_wp2_with fail;refine HX.out.mono ?_;rintro e w3 ⟨rfl,g2,cap2,hw3,hs3⟩
 obtain ⟨c3,W4,hrun,hseg4,hbl4,hsz4⟩:=bY w3 sb (by rw [HSZ.out]; omega)
 have q4:=(hs3.block (b:=w.heap.size + 1 + 1 + 1) (by omega) (by omega) n4).trans y4
 have z3:=hs3.size
 have q5:=(hbl4.block (w.heap.size + 1 + 1 + 1) (by omega)).trans q4
 have n5 : w.heap.size + 1 + 1 + 1 ≠ g2:=hs3.ne (by omega) n4
 obtain ⟨k0,k1,k2,k3⟩:=be q5;have W4':=hid (hw3.later hbl4);have S4:=hid ((S2.out.trans hs3).trans (Stp.of_below hbl4));clear hw3 hs3 HX y0 y1 y3 y4 hseg4 hbl4 q4 hconv;go_wp2_with fail;refine bodyPost_ret (v:=Al (pl,(some ⟨w3.heap.size,0,none⟩,sb.size,c3))) ?_ rfl ⟨(pl,(some ⟨w3.heap.size,0,none⟩,sb.size,c3)),rfl,⟨rfl,HSZ.out⟩,g2,cap2,?_,?_⟩
 ·rw [ay rfl];go_simp
 ·have:=(W4'.out.set (b:=w.heap.size + 1 + 1 + 1) (o:=0) (v:=.int .i64 pl) (by omega) n5).set (b:=w.heap.size + 1 + 1 + 1) (o:=1) (v:=.slice (some ⟨w3.heap.size,0,none⟩) sb.size c3) (by omega) n5
  rw [HSB.out,HSZ.out] at this;rw [HSZ.out]
  simpa [List.append_assoc] using this
 ·exact (S4.out.set (by omega)).set (by omega)
def lB (room : Int) (ys : List (Int × SL)) (pl : Int) (n : Nat) : Int :=
 if pl < 0 ∨ room < pl then 17 else if dF ys pl = true then 18 else if room - pl < (n : Int) then 13 else if n = 0 then 17 else 0
theorem rY (h : Wr w R g cap bs) (hb : bs.length + 2000000 ≤ 1099511627776) (hr : 0 ≤ room) (hr1 : room ≤ 1000000) (hp0 : -9223372036854775808 ≤ pl) (hp : pl < 9223372036854775808) (hl : ys.length = an) (han : an ≤ 100000) (hys : ∀ y ∈ ys,0 ≤ y.1 ∧ y.1 ≤ 1099511627776 ∧ y.2.2.1 ≤ 1099511627776)
  (hrow : w.ownsRow 0 66 2 (.slice aa an ac) an (ys.flatMap dL)) (hseg : Seg w da dn dc zs) (hne : ∀ b off c,nz dn da = some ⟨b,off,c⟩ → b ≠ R ∧ b ≠ g) (hx : lB room ys pl zs.length ≠ 0) :
  Calls Tryz.prog 128 #[cW R,.agg #[.int .i64 pl,.slice da dn dc],.slice aa an ac,.int .i64 room] w (aG R g (lB room ys pl zs.length) w):=by
 unfold lB at hx ⊢;have hss:=ku zs
 by_cases c1 : pl < 0 ∨ room < pl
 ·rw [if_pos c1]
  have hw : room < IntKind.u64.wrap pl:=by
   by_cases h0 : 0 ≤ pl
   ·rw [bD pl h0 (by omega)]; omega
   ·rw [lC pl hp0 (by omega)]; omega
  exact kV R g cap bs pl room da dn dc aa an ac ys w h 17 hrow (fun W hW _ h2 _ => dM R g cap bs _ 190 _ 17 W hW (fun _ _ => rfl) (uW _ _ room _ _ W hr (by omega) hw h2))
 rw [if_neg c1] at hx ⊢
 have hwp:=bD pl (by omega) (by omega)
 by_cases c2 : dF ys pl = true
 ·rw [if_pos c2]
  exact kV R g cap bs pl room da dn dc aa an ac ys w h 18 hrow (fun W hW hrw h2 h3 => dM R g cap bs _ 190 _ 18 W hW (fun _ _ => rfl) (by rw [hwp]; exact uH pl _ room _ _ aa an ac ys W hr (by omega) (by omega) (by omega) hl han hys hrw c2 h2 h3))
 rw [if_neg c2] at hx ⊢
 have c2' : dF ys pl = false:=by simpa using c2
 by_cases c3 : room - pl < (zs.length : Int)
 ·rw [if_pos c3]
  exact ky R g cap bs pl room da dn dc zs aa an ac ys w h hb hr hr1 (by omega) (by omega) hl han hys hrow c2' hseg hne 13 (fun W g1 cap1 hW => dh R g1 cap1 _ (strOfNums zs) (room - pl) _ W hW (by omega))
 rw [if_neg c3] at hx ⊢
 by_cases c4 : zs.length = 0
 ·rw [if_pos c4]
  exact ky R g cap bs pl room da dn dc zs aa an ac ys w h hb hr hr1 (by omega) (by omega) hl han hys hrow c2' hseg hne 17 (fun W g1 cap1 hW => cO R g1 cap1 _ (strOfNums zs) (room - pl) 192 #[] 17 W hW (by omega) (fun _ _ => rfl) (uK _ _ W (by omega)))
 ·rw [if_neg c4] at hx; exact absurd rfl hx
end
def nr (ah : List DaM) (v : Int) : Bool:=match ah.getLast? with | none => false | some y => decide (v ≤ y.1 + (y.2.2.length : Int))
def cB (room : Int) (ah : List DaM) (x : DaM) : Int :=
 if x.1 < 0 ∨ room < x.1 then 17 else if nr ah x.1 = true then 18 else if room - x.1 < (x.2.2.length : Int) then 13 else if x.2.2.length = 0 then 17 else 0
def cx (x : DaM) : List Int:=am x.1 ++ (am x.2.2.length ++ x.2.2)
theorem gm {room : Int} {ah : List DaM} {x : DaM} (hr : room ≤ 262144) (h : cB room ah x = 0) : (cx x).length ≤ 300000:=by
 unfold cB at h
 split at h
 ·cases h
 ·split at h
  ·cases h
  ·split at h
   ·cases h
   ·have a:=aC x.1;have b:=aC x.2.2.length
    simp only [cx,List.length_append]
    omega
theorem C7 {xs : List DaM} {ys : List (Int × SL)} {j : Nat} (hj : j ≤ xs.length) (hl : ys.length = j) (h : ∀ (i : Nat) y,ys[i]? = some y → ∃ x,xs[i]? = some x ∧ qW x y) (v : Int) : dF ys v = nr (xs.take j) v:=by
 unfold dF nr
 rcases Nat.eq_zero_or_pos j with h0 | h0
 ·subst h0;have : ys = []:=List.eq_nil_of_length_eq_zero hl;subst this
  simp
 ·obtain ⟨y,hy⟩ : ∃ y,ys[j - 1]? = some y:=⟨_,List.getElem?_eq_getElem (by omega)⟩
  obtain ⟨x,hx,hok⟩:=h (j - 1) y hy
  have e1 : ys.getLast? = some y:=by rw [List.getLast?_eq_getElem?,hl]; exact hy
  have e2 : (xs.take j).getLast? = some x:=by
   rw [List.getLast?_eq_getElem?,List.length_take]
   have e : min j xs.length - 1 = j - 1:=by omega
   rw [e,List.getElem?_take_of_lt (by omega)]
   exact hx
  rw [e1,e2]
  simp only [hok.1,hok.2]
structure yF (w : World) (R g : Nat) (x : DaM) : Prop where
 r0 : -9223372036854775808 ≤ x.1
 r1 : x.1 < 9223372036854775808
 seg : Seg w x.2.1.1 x.2.1.2.1 x.2.1.2.2 x.2.2
 ne : ∀ b off c,nz x.2.1.2.1 x.2.1.1 = some ⟨b,off,c⟩ → b ≠ R ∧ b ≠ g
 lt : ∀ b off c,nz x.2.1.2.1 x.2.1.1 = some ⟨b,off,c⟩ → b < w.heap.size
theorem iA (R g cap : Nat) (bs : List Int) (n : Nat) (A : Nat) (w : World) (O : Nat) (fa : Option Addr) (fn fc : Nat) (xs : List Ex) (h : Wr w R g cap bs) (hb : bs.length + 300000000000 ≤ 1099511627776) (hn : n ≤ 1000) (hA : w.cell? ⟨A,0,none⟩ = some (cW R)) (hAR : A ≠ R) (hAg : A ≠ g) (hO : w.cell? ⟨O,5,none⟩ = some (.slice fa fn fc)) (hOR : O ≠ R) (hOg : O ≠ g) (hfn : fn ≤ 100000) (hr : ∀ (j : Nat) x,xs[j]? = some x → -9223372036854775808 ≤ x.2 ∧ x.2 < 9223372036854775808) (hl : xs.length = n) (e : Ex → List Int) (k : Nat) (he : ∀ (i : Nat) y,xs[i]? = some y → i < k → e y = (dk) y) (hall : ∀ (i : Nat) y,xs[i]? = some y → i < k → (fun (ah : List Ex) x => dp fn ah x) (xs.take i) y = 0)
  (j : Nat) (x : Ex) (hx : xs[j]? = some x) (hjk : j < k) : qR R g w 130 #[.pointer (some ⟨A,0,none⟩),.pointer (some ⟨O,0,none⟩)] bs n xs e (fun x y => y = x) j x:=by
 intro ys W g1 cap1 aa ac hyl hys hst hwr hrow hab;have hlt:=au hx;have hchk:=hall j x hx hjk
 try simp only at hchk
 have henc:=he j x hx hjk
 have hlen : ((xs.take j).flatMap e).length ≤ j * 100:=by
  have:=bR e 100 (xs.take j) (fun i y hi => by
   have hij : i < j:=by have:=au hi; simp at this; omega
   rw [List.getElem?_take_of_lt hij] at hi
   rw [he i y hi (by omega)]
   have hc:=hall i y hi (by omega)
   have hs32 : (y).1.size ≤ 32:=by
    simp only at hc
    unfold dp at hc
    split at hc
    ·cases hc
    ·omega
   have a1:=cM (y).1 32 hs32;have a2:=aC (y).2
   simp only [dk,List.length_append]
   omega)
  rw [List.length_take] at this
  have e1 : min j xs.length = j:=by omega
  rwa [e1] at this
 have hu:=aC (n : Int)
 have hbb : (bs ++ am n ++ (xs.take j).flatMap e).length ≤ bs.length + 10 + 1000 * 100:=by
  rw [List.length_append,List.length_append]
  have : j * 100 ≤ 1000 * 100:=Nat.mul_le_mul_right _ (by omega)
  omega
 have hrx:=hr j x hx
 have hye:=ok_eq (by omega) hys
 rw [hyl] at hye
 refine (sq R g1 cap1 _ x aa j ac A O fa fn fc W hwr (hst.cell hA hAR hAg) (hst.cell hO hOR hOg) (fun y => y = x) (bs ++ am n ++ (xs.take j).flatMap e ++ e x) (fun W2 hb2 => ?_)).mono ?_
 ·refine (qN R g1 cap1 _ x.1 x.2 fn aa j ac ys W2 (hwr.later hb2) (by omega) hyl (by omega) (ar hrow (fun B hB => hb2.block B (ak hrow hB))) (fun b hb' => ⟨by have q1:=(hab b hb').1; have q2:=h.lt; omega,(hab b hb').2⟩) hrx.1 hrx.2 (by omega) (by omega) (by rw [hye]; exact hchk)).mono ?_
  rintro e' w' ⟨he',g',cap',hw',hs'⟩;refine ⟨x,he',rfl,g',cap',?_,hs'⟩;rw [henc];exact hw'
 ·rintro e' w' ⟨y,he',hy,g',cap',hw',hs'⟩;exact ⟨y,he',hy,g',cap',hw',hs'⟩
theorem qo (R g cap : Nat) (bs : List Int) (ha : Option Addr) (n hc : Nat) (A : Nat) (w : World) (O : Nat) (fa : Option Addr) (fn fc : Nat) (xs : List Ex) (h : Wr w R g cap bs) (hb : bs.length + 300000000000 ≤ 1099511627776) (hA : w.cell? ⟨A,0,none⟩ = some (cW R)) (hAR : A ≠ R) (hAg : A ≠ g) (hO : w.cell? ⟨O,5,none⟩ = some (.slice fa fn fc)) (hOR : O ≠ R) (hOg : O ≠ g) (hfn : fn ≤ 100000) (hr : ∀ (j : Nat) x,xs[j]? = some x → -9223372036854775808 ≤ x.2 ∧ x.2 < 9223372036854775808) (hmem : kJ w ha n xs) (hne : ∀ b off c,ha = some ⟨b,off,c⟩ → b ≠ R ∧ b ≠ g) (hx : bc (fun (ah : List Ex) x => dp fn ah x) 64 xs = 0) :
  Calls Tryz.prog 129 #[cW R,.slice ha n hc,.int .i64 64,.func (.func 130) #[] #[.pointer (some ⟨A,0,none⟩),.pointer (some ⟨O,0,none⟩)]] w fun e w' => ∃ (aa : Option Addr) (ac : Nat) (ys : List Ex),e = .returned (.slice aa n ac) ∧ ys.length = n ∧ (∀ (i : Nat) y,ys[i]? = some y → ∃ x,xs[i]? = some x ∧ (fun x y => y = x) x y) ∧ ∃ g' cap',Wr w' R g' cap' (bs ++ (am n ++ xs.flatMap (dk))) ∧ Stp R g g' w w':=by
 have hl:=hmem.1;unfold bc at hx
 split at hx
 ·cases hx
 rename_i hm
 have hall:=aR (fun (ah : List Ex) x => dp fn ah x) xs [] hx
 have hall' : ∀ (i : Nat) y,xs[i]? = some y → (fun (ah : List Ex) x => dp fn ah x) (xs.take i) y = 0:=fun i y hi => hall i y hi
 refine (pu R g cap bs ha n hc 64 130 _ w xs (dk) (fun x y => y = x) 100 h (by omega) (by omega) hmem hne (fun _ _ => rfl) (fun j x hj => by
   have hc:=hall' j x hj
   have hs32 : (x).1.size ≤ 32:=by
    simp only at hc
    unfold dp at hc
    split at hc
    ·cases hc
    ·omega
   have a1:=cM (x).1 32 hs32;have a2:=aC (x).2
   simp only [dk,List.length_append]
   omega) (by omega) (by omega)
  (fun j x hj => iA R g cap bs n A w O fa fn fc xs h hb (by omega) hA hAR hAg hO hOR hOg hfn hr hl (dk) (j + 1) (fun _ _ _ _ => rfl) (fun i y hi _ => hall' i y hi) j x hj (by omega))).mono ?_
 rintro e w' ⟨aa,ac,ys,he,hyl,hys,hrow,g',cap',hab,hw',hs'⟩
 exact ⟨aa,ac,ys,he,hyl,hys,g',cap',by simpa [List.append_assoc] using hw',hs'⟩
theorem sA (R g cap : Nat) (bs : List Int) (ha : Option Addr) (n hc : Nat) (A : Nat) (w : World) (O : Nat) (fa : Option Addr) (fn fc : Nat) (xs : List Ex) (h : Wr w R g cap bs) (hb : bs.length + 300000000000 ≤ 1099511627776) (hA : w.cell? ⟨A,0,none⟩ = some (cW R)) (hAR : A ≠ R) (hAg : A ≠ g) (hO : w.cell? ⟨O,5,none⟩ = some (.slice fa fn fc)) (hOR : O ≠ R) (hOg : O ≠ g) (hfn : fn ≤ 100000) (hr : ∀ (j : Nat) x,xs[j]? = some x → -9223372036854775808 ≤ x.2 ∧ x.2 < 9223372036854775808) (hmem : kJ w ha n xs) (hne : ∀ b off c,ha = some ⟨b,off,c⟩ → b ≠ R ∧ b ≠ g) (hx : bc (fun (ah : List Ex) x => dp fn ah x) 64 xs ≠ 0) :
  Calls Tryz.prog 129 #[cW R,.slice ha n hc,.int .i64 64,.func (.func 130) #[] #[.pointer (some ⟨A,0,none⟩),.pointer (some ⟨O,0,none⟩)]] w (aG R g (bc (fun (ah : List Ex) x => dp fn ah x) 64 xs) w):=by
 have hl:=hmem.1;unfold bc at hx ⊢
 by_cases hm : (64 : Int) < xs.length
 ·rw [if_pos hm]
  exact mC R g cap bs ha n hc 64 _ w h (by omega)
 rw [if_neg hm] at hx ⊢
 obtain ⟨k,x,h1,h2,h3,h4⟩:=b7 (fun (ah : List Ex) x => dp fn ah x) xs [] hx
 have hall:=aR (fun (ah : List Ex) x => dp fn ah x) (xs.take k) [] h2
 have hall' : ∀ (i : Nat) y,xs[i]? = some y → i < k → (fun (ah : List Ex) x => dp fn ah x) (xs.take i) y = 0:=fun i y hi hik => by
  have hh:=hall i y (by rw [List.getElem?_take_of_lt hik]; exact hi)
  have e : (xs.take k).take i = xs.take i:=by rw [List.take_take]; congr 1; omega
  (try simp only [List.nil_append,e] at hh);exact hh
 rw [h4];try simp only [List.nil_append] at h3 ⊢
 obtain ⟨E,hE⟩ : ∃ E : Ex → List Int,E = fun y => if ((dk) y).length ≤ 100 then (dk) y else []:=⟨_,rfl⟩
 have hEl : ∀ y,(E y).length ≤ 100:=fun y => by
  rw [hE]
  show (if ((dk) y).length ≤ 100 then (dk) y else []).length ≤ 100
  split
  ·assumption
  ·simp
 have hEe : ∀ (i : Nat) z,xs[i]? = some z → i < k → E z = (dk) z:=fun i z hi hik => by
  have hc:=hall' i z hi hik
  have hq : ((dk) z).length ≤ 100:=by
   have hs32 : (z).1.size ≤ 32:=by
    simp only at hc
    unfold dp at hc
    split at hc
    ·cases hc
    ·omega
   have a1:=cM (z).1 32 hs32;have a2:=aC (z).2
   simp only [dk,List.length_append]
   omega
  rw [hE];exact if_pos hq
 refine rG R g cap bs ha n hc 64 130 _ w xs E (fun x y => y = x) 100 h (by omega) (by omega) hmem hne (fun _ _ => rfl) (fun j y hj => hEl y) (by omega) (by omega) k x _ h1
  (fun j y hj hjk => iA R g cap bs n A w O fa fn fc xs h hb (by omega) hA hAR hAg hO hOR hOg hfn hr hl E k hEe hall' j y hj hjk) ?_
 intro ys W g1 cap1 aa ac hyl hys hst hwr hrow hab;have hlt:=au h1;have hu:=aC (n : Int)
 have hbb : (bs ++ am n ++ (xs.take k).flatMap E).length ≤ bs.length + 10 + 1000 * 100:=by
  have hf:=bR E 100 (xs.take k) (fun i y _ => hEl y)
  rw [List.length_take] at hf
  have e1 : min k xs.length = k:=by omega
  rw [e1] at hf;rw [List.length_append,List.length_append]
  have : k * 100 ≤ 1000 * 100:=Nat.mul_le_mul_right _ (by omega)
  omega
 have hrx:=hr k x h1
 have hye:=ok_eq (by omega) hys
 rw [hyl] at hye
 refine tZ R g1 cap1 _ x aa k ac A O fa fn fc W hwr (hst.cell hA hAR hAg) (hst.cell hO hOR hOg) _ (fun W2 hb2 => ?_)
 rw [← hye] at h3 ⊢
 exact uD R g1 cap1 _ x.1 x.2 fn aa k ac ys W2 (hwr.later hb2) (by omega) (by omega) hyl (by omega) (ar hrow (fun B hB => hb2.block B (ak hrow hB))) hrx.1 hrx.2 (by omega) (by omega) h3
theorem mg (R g cap : Nat) (bs : List Int) (n : Nat) (A : Nat) (w : World) (O : Nat) (fi : Int) (xs : List DaM) (h : Wr w R g cap bs) (hb : bs.length + 300000000000 ≤ 1099511627776) (hn : n ≤ 1000) (hA : w.cell? ⟨A,0,none⟩ = some (cW R)) (hAR : A ≠ R) (hAg : A ≠ g) (hO : w.cell? ⟨O,3,none⟩ = some (.int .i64 fi)) (hOR : O ≠ R) (hOg : O ≠ g) (hf0 : 0 ≤ fi) (hf1 : fi ≤ 64) (hr : ∀ (j : Nat) x,xs[j]? = some x → yF w R g x) (hl : xs.length = n) (e : DaM → List Int) (k : Nat) (he : ∀ (i : Nat) y,xs[i]? = some y → i < k → e y = (cx) y) (hall : ∀ (i : Nat) y,xs[i]? = some y → i < k → (fun (ah : List DaM) x => cB (fi * 4096) ah x) (xs.take i) y = 0)
  (j : Nat) (x : DaM) (hx : xs[j]? = some x) (hjk : j < k) : rm R g w 127 #[.pointer (some ⟨A,0,none⟩),.pointer (some ⟨O,0,none⟩)] bs n xs e (qW) j x:=by
 intro ys W g1 cap1 aa ac hyl hys hst hwr hrow hab;have hlt:=au hx;have hchk:=hall j x hx hjk
 try simp only at hchk
 have henc:=he j x hx hjk
 have hlen : ((xs.take j).flatMap e).length ≤ j * 300000:=by
  have:=bR e 300000 (xs.take j) (fun i y hi => by
   have hij : i < j:=by have:=au hi; simp at this; omega
   rw [List.getElem?_take_of_lt hij] at hi
   rw [he i y hi (by omega)]
   have hc:=hall i y hi (by omega)
   exact gm (by omega) hc)
  rw [List.length_take] at this
  have e1 : min j xs.length = j:=by omega
  rwa [e1] at this
 have hu:=aC (n : Int)
 have hbb : (bs ++ am n ++ (xs.take j).flatMap e).length ≤ bs.length + 10 + 1000 * 300000:=by
  rw [List.length_append,List.length_append]
  have : j * 300000 ≤ 1000 * 300000:=Nat.mul_le_mul_right _ (by omega)
  omega
 have hrx:=hr j x hx
 have hti:=C7 (by omega) hyl hys
 have hys' : ∀ y ∈ ys,0 ≤ y.1 ∧ y.1 ≤ 1099511627776 ∧ y.2.2.1 ≤ 1099511627776:=fun y hy => by
  obtain ⟨i,hi,rfl⟩:=List.getElem_of_mem hy;obtain ⟨x',hx',hok⟩:=hys i _ (List.getElem?_eq_getElem hi)
  have hcx:=hall i x' hx' (by omega)
  simp only at hcx
  unfold cB at hcx
  split at hcx
  ·cases hcx
  ·split at hcx
   ·cases hcx
   ·split at hcx
    ·cases hcx
    ·rw [hok.1,hok.2]; omega
 have hc2 : (0 ≤ x.1 ∧ x.1 ≤ fi * 4096) ∧ nr (xs.take j) x.1 = false ∧ (x.2.2.length : Int) ≤ fi * 4096 - x.1 ∧ x.2.2.length ≠ 0:=by
  unfold cB at hchk
  split at hchk
  ·cases hchk
  ·split at hchk
   ·cases hchk
   ·split at hchk
    ·cases hchk
    ·split at hchk
     ·cases hchk
     ·rename_i q1 q2 q3 q4
      exact ⟨⟨by omega,by omega⟩,by simpa using q2,by omega,q4⟩
 refine (sF R g1 cap1 _ x aa j ac A O fi W hwr (hst.cell hA hAR hAg) (hst.cell hO hOR hOg) hf0 hf1 (fun y => qW x y) (bs ++ am n ++ (xs.take j).flatMap e ++ e x) (fun W2 hb2 => ?_)).mono ?_
 ·refine (pP R g1 cap1 _ x.1 (fi * 4096) x.2.1.1 x.2.1.2.1 x.2.1.2.2 x.2.2 aa j ac ys W2 (hwr.later hb2) (by omega) (by omega) (by omega) hc2.1.1 hc2.1.2 hyl (by omega) hys' (ar hrow (fun B hB => hb2.block B (ak hrow hB))) (by rw [hti]; exact hc2.2.1)
   ((hrx.seg.kept' hst.k (fun b off c hb' => by have:=hrx.ne b off c hb'; simp; omega)).later hb2 (Nat.le_refl _)) (fun b off c hb' => ⟨(hrx.ne b off c hb').1,hst.ne (hrx.lt b off c hb') (hrx.ne b off c hb').2⟩) hc2.2.2.1 hc2.2.2.2).mono ?_
  rintro e' w' ⟨y,he',hy,g',cap',hw',hs'⟩;refine ⟨y,he',hy,g',cap',?_,hs'⟩;rw [henc];exact hw'
 ·rintro e' w' ⟨y,he',hy,g',cap',hw',hs'⟩;exact ⟨y,he',hy,g',cap',hw',hs'⟩
theorem wM (R g cap : Nat) (bs : List Int) (ha : Option Addr) (n hc : Nat) (A : Nat) (w : World) (O : Nat) (fi : Int) (xs : List DaM) (h : Wr w R g cap bs) (hb : bs.length + 300000000000 ≤ 1099511627776) (hA : w.cell? ⟨A,0,none⟩ = some (cW R)) (hAR : A ≠ R) (hAg : A ≠ g) (hO : w.cell? ⟨O,3,none⟩ = some (.int .i64 fi)) (hOR : O ≠ R) (hOg : O ≠ g) (hf0 : 0 ≤ fi) (hf1 : fi ≤ 64) (hr : ∀ (j : Nat) x,xs[j]? = some x → yF w R g x) (hmem : lI w ha n xs) (hne : ∀ b off c,ha = some ⟨b,off,c⟩ → b ≠ R ∧ b ≠ g) (hx : bc (fun (ah : List DaM) x => cB (fi * 4096) ah x) 64 xs = 0) :
  Calls Tryz.prog 126 #[cW R,.slice ha n hc,.int .i64 64,.func (.func 127) #[] #[.pointer (some ⟨A,0,none⟩),.pointer (some ⟨O,0,none⟩)]] w fun e w' => ∃ (aa : Option Addr) (ac : Nat) (ys : List (Int × SL)),e = .returned (.slice aa n ac) ∧ ys.length = n ∧ (∀ (i : Nat) y,ys[i]? = some y → ∃ x,xs[i]? = some x ∧ (qW) x y) ∧ ∃ g' cap',Wr w' R g' cap' (bs ++ (am n ++ xs.flatMap (cx))) ∧ Stp R g g' w w':=by
 have hl:=hmem.1;unfold bc at hx
 split at hx
 ·cases hx
 rename_i hm
 have hall:=aR (fun (ah : List DaM) x => cB (fi * 4096) ah x) xs [] hx
 have hall' : ∀ (i : Nat) y,xs[i]? = some y → (fun (ah : List DaM) x => cB (fi * 4096) ah x) (xs.take i) y = 0:=fun i y hi => hall i y hi
 refine (py R g cap bs ha n hc 64 127 _ w xs (cx) (qW) 300000 h (by omega) (by omega) hmem hne (fun _ _ => rfl) (fun j x hj => by
   have hc:=hall' j x hj
   exact gm (by omega) hc) (by omega) (by omega)
  (fun j x hj => mg R g cap bs n A w O fi xs h hb (by omega) hA hAR hAg hO hOR hOg hf0 hf1 hr hl (cx) (j + 1) (fun _ _ _ _ => rfl) (fun i y hi _ => hall' i y hi) j x hj (by omega))).mono ?_
 rintro e w' ⟨aa,ac,ys,he,hyl,hys,hrow,g',cap',hab,hw',hs'⟩
 exact ⟨aa,ac,ys,he,hyl,hys,g',cap',by simpa [List.append_assoc] using hw',hs'⟩
theorem yJ (R g cap : Nat) (bs : List Int) (ha : Option Addr) (n hc : Nat) (A : Nat) (w : World) (O : Nat) (fi : Int) (xs : List DaM) (h : Wr w R g cap bs) (hb : bs.length + 300000000000 ≤ 1099511627776) (hA : w.cell? ⟨A,0,none⟩ = some (cW R)) (hAR : A ≠ R) (hAg : A ≠ g) (hO : w.cell? ⟨O,3,none⟩ = some (.int .i64 fi)) (hOR : O ≠ R) (hOg : O ≠ g) (hf0 : 0 ≤ fi) (hf1 : fi ≤ 64) (hr : ∀ (j : Nat) x,xs[j]? = some x → yF w R g x) (hmem : lI w ha n xs) (hne : ∀ b off c,ha = some ⟨b,off,c⟩ → b ≠ R ∧ b ≠ g) (hx : bc (fun (ah : List DaM) x => cB (fi * 4096) ah x) 64 xs ≠ 0) :
  Calls Tryz.prog 126 #[cW R,.slice ha n hc,.int .i64 64,.func (.func 127) #[] #[.pointer (some ⟨A,0,none⟩),.pointer (some ⟨O,0,none⟩)]] w (aG R g (bc (fun (ah : List DaM) x => cB (fi * 4096) ah x) 64 xs) w):=by
 have hl:=hmem.1;unfold bc at hx ⊢
 by_cases hm : (64 : Int) < xs.length
 ·rw [if_pos hm]
  exact mL R g cap bs ha n hc 64 _ w h (by omega)
 rw [if_neg hm] at hx ⊢
 obtain ⟨k,x,h1,h2,h3,h4⟩:=b7 (fun (ah : List DaM) x => cB (fi * 4096) ah x) xs [] hx
 have hall:=aR (fun (ah : List DaM) x => cB (fi * 4096) ah x) (xs.take k) [] h2
 have hall' : ∀ (i : Nat) y,xs[i]? = some y → i < k → (fun (ah : List DaM) x => cB (fi * 4096) ah x) (xs.take i) y = 0:=fun i y hi hik => by
  have hh:=hall i y (by rw [List.getElem?_take_of_lt hik]; exact hi)
  have e : (xs.take k).take i = xs.take i:=by rw [List.take_take]; congr 1; omega
  (try simp only [List.nil_append,e] at hh);exact hh
 rw [h4];try simp only [List.nil_append] at h3 ⊢
 obtain ⟨E,hE⟩ : ∃ E : DaM → List Int,E = fun y => if ((cx) y).length ≤ 300000 then (cx) y else []:=⟨_,rfl⟩
 have hEl : ∀ y,(E y).length ≤ 300000:=fun y => by
  rw [hE]
  show (if ((cx) y).length ≤ 300000 then (cx) y else []).length ≤ 300000
  split
  ·assumption
  ·simp
 have hEe : ∀ (i : Nat) z,xs[i]? = some z → i < k → E z = (cx) z:=fun i z hi hik => by
  have hc:=hall' i z hi hik
  have hq : ((cx) z).length ≤ 300000:=by
   exact gm (by omega) hc
  rw [hE];exact if_pos hq
 refine qF R g cap bs ha n hc 64 127 _ w xs E (qW) 300000 h (by omega) (by omega) hmem hne (fun _ _ => rfl) (fun j y hj => hEl y) (by omega) (by omega) k x _ h1
  (fun j y hj hjk => mg R g cap bs n A w O fi xs h hb (by omega) hA hAR hAg hO hOR hOg hf0 hf1 hr hl E k hEe hall' j y hj hjk) ?_
 intro ys W g1 cap1 aa ac hyl hys hst hwr hrow hab;have hlt:=au h1;have hu:=aC (n : Int)
 have hbb : (bs ++ am n ++ (xs.take k).flatMap E).length ≤ bs.length + 10 + 1000 * 300000:=by
  have hf:=bR E 300000 (xs.take k) (fun i y _ => hEl y)
  rw [List.length_take] at hf
  have e1 : min k xs.length = k:=by omega
  rw [e1] at hf;rw [List.length_append,List.length_append]
  have : k * 300000 ≤ 1000 * 300000:=Nat.mul_le_mul_right _ (by omega)
  omega
 have hrx:=hr k x h1
 have hti:=C7 (by omega) hyl hys
 have hys' : ∀ y ∈ ys,0 ≤ y.1 ∧ y.1 ≤ 1099511627776 ∧ y.2.2.1 ≤ 1099511627776:=fun y hy => by
  obtain ⟨i,hi,rfl⟩:=List.getElem_of_mem hy;obtain ⟨x',hx',hok⟩:=hys i _ (List.getElem?_eq_getElem hi)
  have hcx:=hall' i x' hx' (by omega)
  simp only at hcx
  unfold cB at hcx
  split at hcx
  ·cases hcx
  ·split at hcx
   ·cases hcx
   ·split at hcx
    ·cases hcx
    ·rw [hok.1,hok.2]; omega
 have heq : cB (fi * 4096) (xs.take k) x = lB (fi * 4096) ys x.1 x.2.2.length:=by
  unfold cB lB;rw [hti]
 rw [heq] at h3 ⊢
 refine vb R g1 cap1 _ x aa k ac A O fi W hwr (hst.cell hA hAR hAg) (hst.cell hO hOR hOg) hf0 hf1 _ (fun W2 hb2 => ?_)
 exact rY R g1 cap1 _ x.1 (fi * 4096) x.2.1.1 x.2.1.2.1 x.2.1.2.2 x.2.2 aa k ac ys W2 (hwr.later hb2) (by omega) (by omega) (by omega) hrx.r0 hrx.r1 hyl (by omega) hys' (ar hrow (fun B hB => hb2.block B (ak hrow hB)))
   ((hrx.seg.kept' hst.k (fun b off c hb' => by have:=hrx.ne b off c hb'; simp; omega)).later hb2 (Nat.le_refl _)) (fun b off c hb' => ⟨(hrx.ne b off c hb').1,hst.ne (hrx.lt b off c hb') (hrx.ne b off c hb').2⟩) h3
end Go.Proofs.YtepnnenohjfkbaaGreatDoor

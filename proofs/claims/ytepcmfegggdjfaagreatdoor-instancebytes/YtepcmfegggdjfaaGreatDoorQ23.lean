/-
  Texts Lfl Wk.
-/
import Derived.Test.YtepcmfegggdjfaaGreatDoorQ13
import Derived.Test.YtepcmfegggdjfaaGreatDoorQ19
import Derived.Test.YtepcmfegggdjfaaGreatDoorQ22
set_option linter.unusedVariables false
set_option maxRecDepth 100000
set_option maxHeartbeats 16000000
namespace Go.Proofs.YtepcmfegggdjfaaGreatDoor
open Go.RowKit
structure LAt (w : World) (L : Nat) (v : Int) : Prop where
 c : w.cell? ⟨L,0,none⟩ = some (.int .i64 v)
 f : w.frozen? ⟨L,0,none⟩ = false
theorem LAt.lt {w : World} {L : Nat} {v : Int} (h : LAt w L v) : L < w.heap.size:=block_lt_of_cell h.c
theorem LAt.kept {S : Nat → Prop} {w w' : World} {L : Nat} {v : Int} (h : LAt w L v) (hk : Kept S w w') (hs : ¬ S L) : LAt w' L v:=⟨hk.cell h.c hs,(frozen_of_block (hk.block L h.lt hs) 0).trans h.f⟩
theorem LAt.later {w w' : World} {L : Nat} {v : Int} (h : LAt w L v) (hb : Below w.heap.size w w') : LAt w' L v:=h.kept (S:=fun _ => False) (kept_of hb) id
abbrev ThrowsL (R L g : Nat) (x : Int) (w : World) : Ending → World → Prop:=fun e w' => (∃ p,e = thr x p) ∧ Kept (fun k => k = R ∨ k = g ∨ k = L) w w'
def EachFl (R g L : Nat) (lv : Nat → Int) (w : World) (K : Nat) (cs : Array Value) (bs : List Int) (n : Nat) (xs : List (Int × ByteArray × (Option Addr × Nat × Nat) × List (Int × Int × (Option Addr × Nat × Nat) × List Int))) (enc : (Int × ByteArray × (Option Addr × Nat × Nat) × List (Int × Int × (Option Addr × Nat × Nat) × List Int)) → List Int) (Ok : (Int × ByteArray × (Option Addr × Nat × Nat) × List (Int × Int × (Option Addr × Nat × Nat) × List Int)) → (Int × ByteArray × (Option Addr × Nat × Nat)) → Prop) (j : Nat) (x : (Int × ByteArray × (Option Addr × Nat × Nat) × List (Int × Int × (Option Addr × Nat × Nat) × List Int))) : Prop :=
 ∀ (ys : List (Int × ByteArray × (Option Addr × Nat × Nat))) (W : World) (g1 cap1 : Nat) (aa : Option Addr) (ac : Nat),ys.length = j → (∀ (i : Nat) y,ys[i]? = some y → ∃ x',xs[i]? = some x' ∧ Ok x' y) → StpL R L g g1 w W → LAt W L (lv j) → L ≠ g1 → Wr W R g1 cap1 (bs ++ uvar n ++ (xs.take j).flatMap enc) →
  W.ownsRow 0 61 3 (.slice aa j ac) j (ys.flatMap ocFu) → (∀ b,aa = some b → w.heap.size ≤ b.block ∧ b.block ≠ g1) →
  Calls Tryz.prog K (#[ivFu x,.slice aa j ac] ++ cs) W (fun e w' => ∃ y,e = .returned (ovFu y) ∧ Ok x y ∧ ∃ g' cap',Wr w' R g' cap' (bs ++ uvar n ++ (xs.take j).flatMap enc ++ enc x) ∧ StpL R L g1 g' W w' ∧ LAt w' L (lv (j + 1)))
def EachNoFl (R g L : Nat) (lv : Nat → Int) (w : World) (K : Nat) (cs : Array Value) (bs : List Int) (n : Nat) (xs : List (Int × ByteArray × (Option Addr × Nat × Nat) × List (Int × Int × (Option Addr × Nat × Nat) × List Int))) (enc : (Int × ByteArray × (Option Addr × Nat × Nat) × List (Int × Int × (Option Addr × Nat × Nat) × List Int)) → List Int) (Ok : (Int × ByteArray × (Option Addr × Nat × Nat) × List (Int × Int × (Option Addr × Nat × Nat) × List Int)) → (Int × ByteArray × (Option Addr × Nat × Nat)) → Prop) (j : Nat) (x : (Int × ByteArray × (Option Addr × Nat × Nat) × List (Int × Int × (Option Addr × Nat × Nat) × List Int))) (er : Int) : Prop :=
 ∀ (ys : List (Int × ByteArray × (Option Addr × Nat × Nat))) (W : World) (g1 cap1 : Nat) (aa : Option Addr) (ac : Nat),ys.length = j → (∀ (i : Nat) y,ys[i]? = some y → ∃ x',xs[i]? = some x' ∧ Ok x' y) → StpL R L g g1 w W → LAt W L (lv j) → L ≠ g1 → Wr W R g1 cap1 (bs ++ uvar n ++ (xs.take j).flatMap enc) →
  W.ownsRow 0 61 3 (.slice aa j ac) j (ys.flatMap ocFu) → (∀ b,aa = some b → w.heap.size ≤ b.block ∧ b.block ≠ g1) →
  Calls Tryz.prog K (#[ivFu x,.slice aa j ac] ++ cs) W (Throws R g1 er W)
theorem listL141_yes (R g cap : Nat) (bs : List Int) (ha : Option Addr) (n hc : Nat) (most : Int) (K : Nat) (cs : Array Value) (w : World) (xs : List (Int × ByteArray × (Option Addr × Nat × Nat) × List (Int × Int × (Option Addr × Nat × Nat) × List Int))) (enc : (Int × ByteArray × (Option Addr × Nat × Nat) × List (Int × Int × (Option Addr × Nat × Nat) × List Int)) → List Int) (Ok : (Int × ByteArray × (Option Addr × Nat × Nat) × List (Int × Int × (Option Addr × Nat × Nat) × List Int)) → (Int × ByteArray × (Option Addr × Nat × Nat)) → Prop) (M : Nat)
  (L : Nat) (lv : Nat → Int) (hL : LAt w L (lv 0)) (hLR : L ≠ R) (hLg : L ≠ g) (h : Wr w R g cap bs) (hn : n ≤ 100000) (hm : (n : Int) ≤ most) (hmem : AtFu w ha n xs) (hne : ∀ b off c,ha = some ⟨b,off,c⟩ → b ≠ R ∧ b ≠ g ∧ b ≠ L)
  (hK : ∀ args w,(callFunc K args).run Tryz.prog w = .ok (.enter K args) w) (hlen : ∀ (j : Nat) x,xs[j]? = some x → (enc x).length ≤ M) (hM : M ≤ 1000000) (hb : bs.length + 200000000000 ≤ 1099511627776)
  (heach : ∀ (j : Nat) x,xs[j]? = some x → EachFl R g L lv w K cs bs n xs enc Ok j x) :
  Calls Tryz.prog 109 #[cW R,.slice ha n hc,.int .i64 most,.func (.func K) #[] cs] w fun e w' => ∃ (aa : Option Addr) (ac : Nat) (ys : List (Int × ByteArray × (Option Addr × Nat × Nat))),e = .returned (.slice aa n ac) ∧ ys.length = n ∧ (∀ (i : Nat) y,ys[i]? = some y → ∃ x,xs[i]? = some x ∧ Ok x y) ∧
   w'.ownsRow 0 61 3 (.slice aa n ac) n (ys.flatMap ocFu) ∧ ∃ g' cap',(∀ b,aa = some b → w.heap.size ≤ b.block ∧ b.block ≠ g') ∧ Wr w' R g' cap' (bs ++ uvar n ++ xs.flatMap enc) ∧ StpL R L g g' w w' ∧ LAt w' L (lv n) ∧ L ≠ g':=by
 have hmc:=meth_count
 have hcc:=enter317
 have HC:=hid (count317_yes R g cap bs n most w h hm (by omega) (by omega))
 have hRl:=h.lt
 have hLl:=hL.lt
 have hgl:=h.g_lt
 have hxl:=hmem.1
 have HM:=hid hmem
 have HNE:=hid hne
 have HE:=hid heach
 obtain ⟨i0,hi,hz0,hz1,hz2⟩:=inf78
 clear h hmem heach hne
 go_enter Tryz.func109,Tryz.ntmps109
 go_wp2_with fail
 refine HC.out.mono ?_
 rintro e w2 ⟨rfl,g1,cap1,hw2,hs2⟩
 have L2:=hid (hL.kept hs2.k (by simp; omega))
 have NL2 : L ≠ g1:=hs2.ne hLl hLg
 have W2:=hid hw2
 have S2:=hid hs2
 clear hw2 hs2 HC hmc hcc
 go_wp2_with fail
 go_loopw [9,17] (fun o i wr => ∃ (j : Nat) (ys : List (Int × ByteArray × (Option Addr × Nat × Nat))) (aa : Option Addr) (ac g1 cap1 : Nat),j ≤ n ∧ i = .int .i64 j ∧ o = .slice aa j ac ∧ ys.length = j ∧ (∀ (i : Nat) y,ys[i]? = some y → ∃ x,xs[i]? = some x ∧ Ok x y) ∧
   wr.ownsRow 0 61 3 (.slice aa j ac) j (ys.flatMap ocFu) ∧ (∀ b,aa = some b → w.heap.size ≤ b.block ∧ b.block ≠ g1) ∧ Wr wr R g1 cap1 (bs ++ uvar n ++ (xs.take j).flatMap enc) ∧ StpL R L g g1 w wr ∧ LAt wr L (lv j) ∧ L ≠ g1) (fun _ i _ => n - (intOf i).toNat)
 case atStart => exact ⟨0,[],none,0,g1,cap1,by omega,rfl,rfl,rfl,(fun i y h => by simp at h),World.ownsRow_nil _ _ _ _,(fun b h => by cases h),by simpa using W2.out,S2.out.toL,L2.out,NL2⟩
 case round =>
  obtain ⟨j,ys,aa,ac,g3,cap3,hj,rfl,rfl,hyl,hys,hrow,hab,hwr,hst,hla,hlg⟩:=hrel
  have HLA:=hid hla
  clear hla L2 NL2
  have HY:=hid hys
  have HRW:=hid hrow
  have HAB:=hid hab
  have HWR:=hid hwr
  have HST:=hid hst
  clear hys hrow hab hwr hst W2 S2
  by_cases hlt : j < n
  ·obtain ⟨x,hx⟩ : ∃ x,xs[j]? = some x:=⟨_,List.getElem?_eq_getElem (by omega)⟩
   obtain ⟨b,off,rfl,hcell⟩ : ∃ b off,ha = some ⟨b,off,none⟩ ∧ ∀ (j : Nat) x,xs[j]? = some x → wr.cell? ⟨b,off + j * 3,none⟩ = some (.int .i64 x.1) ∧ wr.cell? ⟨b,off + j * 3 + 1,none⟩ = some (.string x.2.1) ∧ wr.cell? ⟨b,off + j * 3 + 2,none⟩ = some (.slice x.2.2.1.1 x.2.2.1.2.1 x.2.2.1.2.2):=by
    rcases (HM.out.kept HST.out.k (fun b off c h => by have:=HNE.out b off c h; simp; omega)).2 with h0 | h
    ·omega
    ·exact h
   have hcj:=hcell j x hx
   have hbl:=block_lt_of_cell hcj.1
   clear hcell
   obtain ⟨v0,v1,v2⟩:=hcj
   have BN:=hid (below_new wr (.cells #[.int .i64 x.1,.string x.2.1,.slice x.2.2.1.1 x.2.2.1.2.1 x.2.2.1.2.2] 61))
   have HC1:=hid (HE.out j x hx ys (wr.alloc (.cells #[.int .i64 x.1,.string x.2.1,.slice x.2.2.1.1 x.2.2.1.2.1 x.2.2.1.2.2] 61)) g3 cap3 aa ac hyl HY.out (HST.out.trans (StpL.of_below BN.out)) (HLA.out.later BN.out) hlg (HWR.out.later BN.out) (ownS_keep HRW.out (fun B hB => BN.out.block B (lt_of_ownS HRW.out hB))) HAB.out)
   go_wp2_with fail
   generalize wr.alloc (.cells #[.int .i64 x.1,.string x.2.1,.slice x.2.2.1.1 x.2.2.1.2.1 x.2.2.1.2.2] 61) = W at *
   have hszW:=BN.out.size
   refine HC1.out.mono ?_
   rintro e w5 ⟨y,rfl,hok,g4,cap4,hw5,hs5,hl5⟩
   have hgr : g3 < wr.heap.size:=HWR.out.g_lt
   have hRr : R < wr.heap.size:=HWR.out.lt
   have row5 : w5.ownsRow 0 61 3 (.slice aa j ac) j (ys.flatMap ocFu):=ownS_keep HRW.out (fun B hB => by
    have h1:=lt_of_ownS HRW.out hB
    have h2 : ∃ a,aa = some a ∧ a.block = B:=own_addr hB
    obtain ⟨a,ha1,ha2⟩:=h2
    have h3:=HAB.out a ha1
    have h4:=HST.out.size
    exact (hs5.block (b:=B) (by omega) (by omega) (by omega) (by omega)).trans (BN.out.block B h1))
   have gg4:=hw5.g_lt
   have hab5 : ∀ b,aa = some b → b.block ≠ g4 ∧ b.block < w5.heap.size:=fun a ha1 => by
    have h3:=HAB.out a ha1
    have h1 : a.block < wr.heap.size:=lt_of_ownS HRW.out (own_addr' HRW.out ha1)
    exact ⟨hs5.ne (by omega) h3.2,Nat.lt_of_lt_of_le h1 (Nat.le_trans hszW hs5.size)⟩
   have W5:=hid hw5
   have S5:=hid (HST.out.trans ((StpL.of_below BN.out).trans hs5))
   have L5:=hid hl5
   have hL4 : L ≠ g4:=hs5.ne (by have:=HST.out.size; omega) hlg
   have O5:=hid hok
   have BN5:=hid (below_new w5 (.cells #[.int .i64 y.1,.string y.2.1,.slice y.2.2.1 y.2.2.2.1 y.2.2.2.2] 61))
   have R6:=hid (ownS_keep (w':=w5.alloc (.cells #[.int .i64 y.1,.string y.2.1,.slice y.2.2.1 y.2.2.2.1 y.2.2.2.2] 61)) row5 (fun B hB => BN5.out.block B (lt_of_ownS row5 hB)))
   have HAB5:=hid hab5
   have NC:=hid (new_cellsFu w5 y)
   have hz6 : (w5.alloc (.cells #[.int .i64 y.1,.string y.2.1,.slice y.2.2.1 y.2.2.2.1 y.2.2.2.2] 61)).heap.size = w5.heap.size + 1:=by simp
   clear hw5 hs5 row5 hab5 HC1 hok hl5
   go_wp2_with (at_builtin; (refine app_rows _ rfl (.tmp 28) (.tmp 33) 25 rfl 61 i0 _ 3 48 Tryz.underlying25 hi hz0 hz1 hz2 rfl (by decide) _ j _ rfl R6.out ⟨w5.heap.size,0,none⟩ 1 1 (ocFu y) rfl rfl NC.out (one_cellsFu y) (by omega) (by unfold maxLen; omega) (by omega) ?_; intro B cap7 w7 hrow7 hor7; have R7:=hid hrow7; have OR7:=hid hor7; clear hrow7 hor7))
   generalize w5.alloc (.cells #[.int .i64 y.1,.string y.2.1,.slice y.2.2.1 y.2.2.2.1 y.2.2.2.2] 61) = W6 at *
   have hBn : w.heap.size ≤ B ∧ B ≠ g4 ∧ Kept (fun k => k = B) W6 w7:=by
    rcases OR7.out with ⟨h1,h2⟩ | ⟨h1,h2⟩
    ·have h1' : aa = some ⟨B,0,none⟩:=(Value.slice.inj h1).1
     exact ⟨(HAB.out _ h1').1,(HAB5.out _ h1').1,h2⟩
    ·have:=S5.out.size
     exact ⟨by omega,by omega,h2.mono (fun k hk => hk.elim)⟩
   have hRw:=S5.out.size
   go_roundw
   ·refine ⟨j + 1,ys ++ [y],some ⟨B,0,none⟩,cap7,g4,cap4,by omega,rfl,rfl,by simp [hyl],?_,?_,?_,?_,?_,?_,hL4⟩
    ·intro i y' hi'
     by_cases hij : i < ys.length
     ·rw [List.getElem?_append_left hij] at hi'
      exact HY.out i y' hi'
     ·rw [List.getElem?_append_right (by omega)] at hi'
      have hi0 : i - ys.length = 0:=by
       rcases Nat.eq_zero_or_pos (i - ys.length) with h | h
       ·exact h
       ·rw [List.getElem?_eq_none (by simp; omega)] at hi'; cases hi'
      rw [hi0] at hi'
      simp at hi'
      subst hi'
      obtain rfl : i = j:=by omega
      exact ⟨x,hx,O5.out⟩
    ·have:=R7.out
     simpa [RowS] using this
    ·intro b' hb'
     simp at hb'
     subst hb'
     exact ⟨hBn.1,hBn.2.1⟩
    ·have:=(W5.out.later BN5.out).kept hBn.2.2 (by omega) (Ne.symm hBn.2.1)
     rw [take_flat enc hx]
     simpa [List.append_assoc] using this
    ·exact ⟨(S5.out.k.trans (kept_of BN5.out)).then hBn.2.2 (fun k hk hkB => by have:=hBn.1; omega),S5.out.m⟩
    ·exact (L5.out.later BN5.out).kept hBn.2.2 (by have:=hBn.1; omega)
   ·simp [intOf]; omega
  ·obtain rfl : j = n:=by omega
   have hxs : xs.take j = xs:=List.take_of_length_le (by omega)
   go_wp2_with fail
   go_ret
   refine ⟨aa,ac,ys,rfl,hyl,HY.out,HRW.out,g3,cap3,HAB.out,?_,HST.out,HLA.out,hlg⟩
   rw [← hxs]
   exact HWR.out
theorem listL141_no (R g cap : Nat) (bs : List Int) (ha : Option Addr) (n hc : Nat) (most : Int) (K : Nat) (cs : Array Value) (w : World) (xs : List (Int × ByteArray × (Option Addr × Nat × Nat) × List (Int × Int × (Option Addr × Nat × Nat) × List Int))) (enc : (Int × ByteArray × (Option Addr × Nat × Nat) × List (Int × Int × (Option Addr × Nat × Nat) × List Int)) → List Int) (Ok : (Int × ByteArray × (Option Addr × Nat × Nat) × List (Int × Int × (Option Addr × Nat × Nat) × List Int)) → (Int × ByteArray × (Option Addr × Nat × Nat)) → Prop) (M : Nat)
  (L : Nat) (lv : Nat → Int) (hL : LAt w L (lv 0)) (hLR : L ≠ R) (hLg : L ≠ g) (h : Wr w R g cap bs) (hn : n ≤ 100000) (hm : (n : Int) ≤ most) (hmem : AtFu w ha n xs) (hne : ∀ b off c,ha = some ⟨b,off,c⟩ → b ≠ R ∧ b ≠ g ∧ b ≠ L)
  (hK : ∀ args w,(callFunc K args).run Tryz.prog w = .ok (.enter K args) w) (hlen : ∀ (j : Nat) x,xs[j]? = some x → (enc x).length ≤ M) (hM : M ≤ 1000000) (hb : bs.length + 200000000000 ≤ 1099511627776)
  (k : Nat) (xk : (Int × ByteArray × (Option Addr × Nat × Nat) × List (Int × Int × (Option Addr × Nat × Nat) × List Int))) (er : Int) (hk : xs[k]? = some xk) (heach : ∀ (j : Nat) x,xs[j]? = some x → j < k → EachFl R g L lv w K cs bs n xs enc Ok j x) (hno : EachNoFl R g L lv w K cs bs n xs enc Ok k xk er) :
  Calls Tryz.prog 109 #[cW R,.slice ha n hc,.int .i64 most,.func (.func K) #[] cs] w (ThrowsL R L g er w):=by
 have hkn:=lt_of_get hk
 have hmc:=meth_count
 have hcc:=enter317
 have HC:=hid (count317_yes R g cap bs n most w h hm (by omega) (by omega))
 have hRl:=h.lt
 have hLl:=hL.lt
 have hgl:=h.g_lt
 have hxl:=hmem.1
 have HM:=hid hmem
 have HNE:=hid hne
 have HE:=hid heach
 have HN:=hid hno
 obtain ⟨i0,hi,hz0,hz1,hz2⟩:=inf78
 clear h hmem heach hne hno
 go_enter Tryz.func109,Tryz.ntmps109
 go_wp2_with fail
 refine HC.out.mono ?_
 rintro e w2 ⟨rfl,g1,cap1,hw2,hs2⟩
 have L2:=hid (hL.kept hs2.k (by simp; omega))
 have NL2 : L ≠ g1:=hs2.ne hLl hLg
 have W2:=hid hw2
 have S2:=hid hs2
 clear hw2 hs2 HC hmc hcc
 go_wp2_with fail
 go_loopw [9,17] (fun o i wr => ∃ (j : Nat) (ys : List (Int × ByteArray × (Option Addr × Nat × Nat))) (aa : Option Addr) (ac g1 cap1 : Nat),j ≤ k ∧ i = .int .i64 j ∧ o = .slice aa j ac ∧ ys.length = j ∧ (∀ (i : Nat) y,ys[i]? = some y → ∃ x,xs[i]? = some x ∧ Ok x y) ∧
   wr.ownsRow 0 61 3 (.slice aa j ac) j (ys.flatMap ocFu) ∧ (∀ b,aa = some b → w.heap.size ≤ b.block ∧ b.block ≠ g1) ∧ Wr wr R g1 cap1 (bs ++ uvar n ++ (xs.take j).flatMap enc) ∧ StpL R L g g1 w wr ∧ LAt wr L (lv j) ∧ L ≠ g1) (fun _ i _ => n - (intOf i).toNat)
 case atStart => exact ⟨0,[],none,0,g1,cap1,by omega,rfl,rfl,rfl,(fun i y h => by simp at h),World.ownsRow_nil _ _ _ _,(fun b h => by cases h),by simpa using W2.out,S2.out.toL,L2.out,NL2⟩
 case round =>
  obtain ⟨j,ys,aa,ac,g3,cap3,hj,rfl,rfl,hyl,hys,hrow,hab,hwr,hst,hla,hlg⟩:=hrel
  have HLA:=hid hla
  clear hla L2 NL2
  have HY:=hid hys
  have HRW:=hid hrow
  have HAB:=hid hab
  have HWR:=hid hwr
  have HST:=hid hst
  clear hys hrow hab hwr hst W2 S2
  have hlt : j < n:=by omega
  ·obtain ⟨x,hx⟩ : ∃ x,xs[j]? = some x:=⟨_,List.getElem?_eq_getElem (by omega)⟩
   obtain ⟨b,off,rfl,hcell⟩ : ∃ b off,ha = some ⟨b,off,none⟩ ∧ ∀ (j : Nat) x,xs[j]? = some x → wr.cell? ⟨b,off + j * 3,none⟩ = some (.int .i64 x.1) ∧ wr.cell? ⟨b,off + j * 3 + 1,none⟩ = some (.string x.2.1) ∧ wr.cell? ⟨b,off + j * 3 + 2,none⟩ = some (.slice x.2.2.1.1 x.2.2.1.2.1 x.2.2.1.2.2):=by
    rcases (HM.out.kept HST.out.k (fun b off c h => by have:=HNE.out b off c h; simp; omega)).2 with h0 | h
    ·omega
    ·exact h
   have hcj:=hcell j x hx
   have hbl:=block_lt_of_cell hcj.1
   clear hcell
   obtain ⟨v0,v1,v2⟩:=hcj
   have BN:=hid (below_new wr (.cells #[.int .i64 x.1,.string x.2.1,.slice x.2.2.1.1 x.2.2.1.2.1 x.2.2.1.2.2] 61))
   by_cases hjk : j < k
   ·skip
    have HC1:=hid (HE.out j x hx hjk ys (wr.alloc (.cells #[.int .i64 x.1,.string x.2.1,.slice x.2.2.1.1 x.2.2.1.2.1 x.2.2.1.2.2] 61)) g3 cap3 aa ac hyl HY.out (HST.out.trans (StpL.of_below BN.out)) (HLA.out.later BN.out) hlg (HWR.out.later BN.out) (ownS_keep HRW.out (fun B hB => BN.out.block B (lt_of_ownS HRW.out hB))) HAB.out)
    go_wp2_with fail
    generalize wr.alloc (.cells #[.int .i64 x.1,.string x.2.1,.slice x.2.2.1.1 x.2.2.1.2.1 x.2.2.1.2.2] 61) = W at *
    have hszW:=BN.out.size
    refine HC1.out.mono ?_
    rintro e w5 ⟨y,rfl,hok,g4,cap4,hw5,hs5,hl5⟩
    have hgr : g3 < wr.heap.size:=HWR.out.g_lt
    have hRr : R < wr.heap.size:=HWR.out.lt
    have row5 : w5.ownsRow 0 61 3 (.slice aa j ac) j (ys.flatMap ocFu):=ownS_keep HRW.out (fun B hB => by
     have h1:=lt_of_ownS HRW.out hB
     have h2 : ∃ a,aa = some a ∧ a.block = B:=own_addr hB
     obtain ⟨a,ha1,ha2⟩:=h2
     have h3:=HAB.out a ha1
     have h4:=HST.out.size
     exact (hs5.block (b:=B) (by omega) (by omega) (by omega) (by omega)).trans (BN.out.block B h1))
    have gg4:=hw5.g_lt
    have hab5 : ∀ b,aa = some b → b.block ≠ g4 ∧ b.block < w5.heap.size:=fun a ha1 => by
     have h3:=HAB.out a ha1
     have h1 : a.block < wr.heap.size:=lt_of_ownS HRW.out (own_addr' HRW.out ha1)
     exact ⟨hs5.ne (by omega) h3.2,Nat.lt_of_lt_of_le h1 (Nat.le_trans hszW hs5.size)⟩
    have W5:=hid hw5
    have S5:=hid (HST.out.trans ((StpL.of_below BN.out).trans hs5))
    have L5:=hid hl5
    have hL4 : L ≠ g4:=hs5.ne (by have:=HST.out.size; omega) hlg
    have O5:=hid hok
    have BN5:=hid (below_new w5 (.cells #[.int .i64 y.1,.string y.2.1,.slice y.2.2.1 y.2.2.2.1 y.2.2.2.2] 61))
    have R6:=hid (ownS_keep (w':=w5.alloc (.cells #[.int .i64 y.1,.string y.2.1,.slice y.2.2.1 y.2.2.2.1 y.2.2.2.2] 61)) row5 (fun B hB => BN5.out.block B (lt_of_ownS row5 hB)))
    have HAB5:=hid hab5
    have NC:=hid (new_cellsFu w5 y)
    have hz6 : (w5.alloc (.cells #[.int .i64 y.1,.string y.2.1,.slice y.2.2.1 y.2.2.2.1 y.2.2.2.2] 61)).heap.size = w5.heap.size + 1:=by simp
    clear hw5 hs5 row5 hab5 HC1 hok hl5
    go_wp2_with (at_builtin; (refine app_rows _ rfl (.tmp 28) (.tmp 33) 25 rfl 61 i0 _ 3 48 Tryz.underlying25 hi hz0 hz1 hz2 rfl (by decide) _ j _ rfl R6.out ⟨w5.heap.size,0,none⟩ 1 1 (ocFu y) rfl rfl NC.out (one_cellsFu y) (by omega) (by unfold maxLen; omega) (by omega) ?_; intro B cap7 w7 hrow7 hor7; have R7:=hid hrow7; have OR7:=hid hor7; clear hrow7 hor7))
    generalize w5.alloc (.cells #[.int .i64 y.1,.string y.2.1,.slice y.2.2.1 y.2.2.2.1 y.2.2.2.2] 61) = W6 at *
    have hBn : w.heap.size ≤ B ∧ B ≠ g4 ∧ Kept (fun k => k = B) W6 w7:=by
     rcases OR7.out with ⟨h1,h2⟩ | ⟨h1,h2⟩
     ·have h1' : aa = some ⟨B,0,none⟩:=(Value.slice.inj h1).1
      exact ⟨(HAB.out _ h1').1,(HAB5.out _ h1').1,h2⟩
     ·have:=S5.out.size
      exact ⟨by omega,by omega,h2.mono (fun k hk => hk.elim)⟩
    have hRw:=S5.out.size
    go_roundw
    ·refine ⟨j + 1,ys ++ [y],some ⟨B,0,none⟩,cap7,g4,cap4,by omega,rfl,rfl,by simp [hyl],?_,?_,?_,?_,?_,?_,hL4⟩
     ·intro i y' hi'
      by_cases hij : i < ys.length
      ·rw [List.getElem?_append_left hij] at hi'
       exact HY.out i y' hi'
      ·rw [List.getElem?_append_right (by omega)] at hi'
       have hi0 : i - ys.length = 0:=by
        rcases Nat.eq_zero_or_pos (i - ys.length) with h | h
        ·exact h
        ·rw [List.getElem?_eq_none (by simp; omega)] at hi'; cases hi'
       rw [hi0] at hi'
       simp at hi'
       subst hi'
       obtain rfl : i = j:=by omega
       exact ⟨x,hx,O5.out⟩
     ·have:=R7.out
      simpa [RowS] using this
     ·intro b' hb'
      simp at hb'
      subst hb'
      exact ⟨hBn.1,hBn.2.1⟩
     ·have:=(W5.out.later BN5.out).kept hBn.2.2 (by omega) (Ne.symm hBn.2.1)
      rw [take_flat enc hx]
      simpa [List.append_assoc] using this
     ·exact ⟨(S5.out.k.trans (kept_of BN5.out)).then hBn.2.2 (fun k hk hkB => by have:=hBn.1; omega),S5.out.m⟩
     ·exact (L5.out.later BN5.out).kept hBn.2.2 (by have:=hBn.1; omega)
    ·simp [intOf]; omega
   ·obtain rfl : j = k:=by omega
    obtain rfl : x = xk:=by rw [hx] at hk; simpa using hk
    have HC1:=hid (HN.out ys (wr.alloc (.cells #[.int .i64 x.1,.string x.2.1,.slice x.2.2.1.1 x.2.2.1.2.1 x.2.2.1.2.2] 61)) g3 cap3 aa ac hyl HY.out (HST.out.trans (StpL.of_below BN.out)) (HLA.out.later BN.out) hlg (HWR.out.later BN.out) (ownS_keep HRW.out (fun B hB => BN.out.block B (lt_of_ownS HRW.out hB))) HAB.out)
    go_wp2_with fail
    refine HC1.out.mono ?_
    rintro e w5 ⟨⟨p,rfl⟩,hk5⟩
    exact ⟨rfl,⟨p,rfl⟩,(HST.out.trans (StpL.of_below BN.out)).throw hk5⟩
abbrev FuM:=Int × ByteArray × SLv × List InM
def parsOf (sg : List Sg) (ty : Int) : ByteArray:=(sg.getD ty.toNat (⟨#[]⟩,⟨#[]⟩)).1
def chkFuM (sg : List Sg) (left : Int) (ty : Int) (lo : ByteArray) (xs : List InM) : Int :=
 if ty < 0 ∨ (sg.length : Int) ≤ ty then 30 else if 64 < lo.size + (parsOf sg ty).size then 13 else if lett lo 64 = false then 15 else if min 2048 left < (xs.length : Int) then 20 else firstE (fun _ x => chkIn x) [] xs
def encFuM (ty : Int) (lo : ByteArray) (xs : List InM) : List Int:=uvar ty ++ encT lo ++ (uvar xs.length ++ xs.flatMap encIn)
theorem parsOf_eq {sg : List Sg} {t : Nat} {p r : ByteArray} (h : sg[t]? = some (p,r)) : parsOf sg (t : Int) = p:=by
 simp [parsOf,List.getD,h]
section
variable (R g cap : Nat) (bs : List Int) (ty left : Int) (lo : ByteArray) (ca : Option Addr) (cn cc : Nat) (sa : Option Addr) (sn sc : Nat) (sg : List Sg) (xs : List InM) (w : World)
theorem code_at (hmem : AtIn w ca cn xs) (hne : ∀ b off c,nz cn ca = some ⟨b,off,c⟩ → b ≠ R ∧ b ≠ g) (hbl : ∀ b off c,nz cn ca = some ⟨b,off,c⟩ → b < w.heap.size) (hok : ∀ (j : Nat) x,xs[j]? = some x → InOk w R g x) (hil : ∀ (j : Nat) x,xs[j]? = some x → ∀ b off c,nz x.2.2.1.2.1 x.2.2.1.1 = some ⟨b,off,c⟩ → b < w.heap.size) {W : World} {g2 : Nat} (hst : Stp R g g2 w W) :
  AtIn W ca cn xs ∧ (∀ b off c,nz cn ca = some ⟨b,off,c⟩ → b ≠ R ∧ b ≠ g2) ∧ (∀ (j : Nat) x,xs[j]? = some x → InOk W R g2 x):=by
 refine ⟨hmem.kept hst.k (fun b off c h => by have:=hne b off c h; simp; omega),fun b off c h => ⟨(hne b off c h).1,hst.ne (hbl b off c h) (hne b off c h).2⟩,fun j x hj => ?_⟩
 have h:=hok j x hj
 exact ⟨h.r0,h.r1,h.seg' hst,fun b off c hb => ⟨(h.ne b off c hb).1,hst.ne (hil j x hj b off c hb) (h.ne b off c hb).2⟩⟩
theorem fun143_ok (h : Wr w R g cap bs) (hb : bs.length + 400000000000 ≤ 1099511627776) (hs : sn ≤ 100000) (hR0 : R ≠ 0) (hg0 : g ≠ 0) (hk : KindsOk w) (hsg : SigsAt w sa sn sg) (hne : ∀ b off c,sa = some ⟨b,off,c⟩ → b ≠ R ∧ b ≠ g) (hp8 : ∀ (t : Nat) p r,sg[t]? = some (p,r) → p.size ≤ 8) (hcn : cn ≤ 100000 ∨ 2048 < cn) (hmem : AtIn w ca cn xs) (hcne : ∀ b off c,nz cn ca = some ⟨b,off,c⟩ → b ≠ R ∧ b ≠ g) (hcbl : ∀ b off c,nz cn ca = some ⟨b,off,c⟩ → b < w.heap.size) (hok : ∀ (j : Nat) x,xs[j]? = some x → InOk w R g x) (hil : ∀ (j : Nat) x,xs[j]? = some x → ∀ b off c,nz x.2.2.1.2.1 x.2.2.1.1 = some ⟨b,off,c⟩ → b < w.heap.size) (hx : chkFuM sg left ty lo xs = 0) :
  Calls Tryz.prog 111 #[cW R,.agg #[.int .i64 ty,.string lo,.slice ca cn cc],.slice sa sn sc,.int .i64 left] w (fun e w' => ∃ (aa : Option Addr) (ac : Nat),e = .returned (.agg #[.int .i64 ty,.string lo,.slice aa cn ac]) ∧ ∃ g' cap',Wr w' R g' cap' (bs ++ encFuM ty lo xs) ∧ Stp R g g' w w'):=by
 have hxl:=hmem.1
 have hsl:=hsg.1
 unfold chkFuM at hx
 split at hx
 ·cases hx
 ·rename_i c1
  split at hx
  ·cases hx
  ·rename_i c2
   split at hx
   ·cases hx
   ·rename_i c3
    split at hx
    ·cases hx
    ·rename_i c4
     obtain ⟨t,rfl⟩ : ∃ t : Nat,ty = t:=⟨ty.toNat,by omega⟩
     have hlt : lett lo 64 = true:=by simpa using c3
     refine (fun143_yes R g cap bs t left lo ca cn cc sa sn sc sg w h (by omega) hs (by omega) hsg hne (fun p r hp => hp8 t p r hp) (fun p r hp => by have:=parsOf_eq hp; rw [this] at c2; omega) hlt (uvar cn ++ xs.flatMap encIn)
      (fun W g2 cap2 hW hst hA hAg => ?_)).mono ?_
     ·obtain ⟨m1,m2,m3⟩:=code_at R g ca cn xs w hmem hcne hcbl hok hil hst
      have hg2 : g2 ≠ 0:=Ne.symm (hst.ne (by have:=h.lt; omega) (Ne.symm hg0))
      have hu:=uvar_len (t : Int)
      have hlo:=encT_le lo 64 (by omega)
      exact code194_yes R g2 cap2 _ ca cn cc (min 2048 left) w.heap.size xs W hW (by rw [List.length_append,List.length_append]; omega) (by omega) (by omega) hR0 hg2 (hk.kept hst.k (by simp; omega)) hA (by have:=h.lt; omega) hAg m1 m2 m3 hx
     ·rintro e w' ⟨aa,ac,he,g',cap',hw',hs'⟩
      refine ⟨aa,ac,he,g',cap',?_,hs'⟩
      rw [← hxl] at hw'
      simpa [encFuM,List.append_assoc] using hw'
theorem fun143_no (h : Wr w R g cap bs) (hb : bs.length + 400000000000 ≤ 1099511627776) (hs : sn ≤ 100000) (hR0 : R ≠ 0) (hg0 : g ≠ 0) (hk : KindsOk w) (hsg : SigsAt w sa sn sg) (hne : ∀ b off c,sa = some ⟨b,off,c⟩ → b ≠ R ∧ b ≠ g) (hp8 : ∀ (t : Nat) p r,sg[t]? = some (p,r) → p.size ≤ 8) (hcn : cn ≤ 100000 ∨ 2048 < cn) (hmem : AtIn w ca cn xs) (hcne : ∀ b off c,nz cn ca = some ⟨b,off,c⟩ → b ≠ R ∧ b ≠ g) (hcbl : ∀ b off c,nz cn ca = some ⟨b,off,c⟩ → b < w.heap.size) (hok : ∀ (j : Nat) x,xs[j]? = some x → InOk w R g x) (hil : ∀ (j : Nat) x,xs[j]? = some x → ∀ b off c,nz x.2.2.1.2.1 x.2.2.1.1 = some ⟨b,off,c⟩ → b < w.heap.size) (hty : -9223372036854775808 ≤ ty) (hty1 : ty < 9223372036854775808) (hlo : lo.size ≤ 1073741824 ∨ 64 < lo.size) (hx : chkFuM sg left ty lo xs ≠ 0) :
  Calls Tryz.prog 111 #[cW R,.agg #[.int .i64 ty,.string lo,.slice ca cn cc],.slice sa sn sc,.int .i64 left] w (Throws R g (chkFuM sg left ty lo xs) w):=by
 have hxl:=hmem.1
 have hsl:=hsg.1
 have hRl:=h.lt
 unfold chkFuM at hx ⊢
 by_cases c1 : ty < 0 ∨ (sg.length : Int) ≤ ty
 ·rw [if_pos c1]
  exact fun143_30 R g cap bs left lo ca cn cc sa sn sc w ty h hty hty1 (by omega) hs
 rw [if_neg c1] at hx ⊢
 obtain ⟨t,rfl⟩ : ∃ t : Nat,ty = t:=⟨ty.toNat,by omega⟩
 by_cases c2 : 64 < lo.size + (parsOf sg t).size
 ·rw [if_pos c2]
  exact fun143_t R g cap bs t left lo ca cn cc sa sn sc sg w h (by omega) hs (by omega) hsg hne (fun p r hp => hp8 t p r hp) 13 (fun W g1 cap1 p r hp hps hW => text323_long R g1 cap1 _ lo _ _ W hW (by have:=parsOf_eq hp; rw [this] at c2; omega))
 rw [if_neg c2] at hx ⊢
 by_cases c3 : lett lo 64 = false
 ·rw [if_pos c3]
  exact fun143_t R g cap bs t left lo ca cn cc sa sn sc sg w h (by omega) hs (by omega) hsg hne (fun p r hp => hp8 t p r hp) 15 (fun W g1 cap1 p r hp hps hW => text323_no R g1 cap1 _ lo _ 131 #[] 15 W hW (by have:=parsOf_eq hp; rw [this] at c2; omega) (fun _ _ => rfl) (letters183_no lo _ W (by omega) (by rw [lett_short lo 256 64 (by omega) (by omega)]; exact c3)))
 rw [if_neg c3] at hx ⊢
 have c3' : lett lo 64 = true:=by simpa using c3
 have hlo8 : ∀ p r,sg[t]? = some (p,r) → lo.size + p.size ≤ 64:=fun p r hp => by have:=parsOf_eq hp; rw [this] at c2; omega
 have hu:=uvar_len (t : Int)
 have hle:=encT_le lo 64 (by omega)
 by_cases c4 : min 2048 left < (xs.length : Int)
 ·rw [if_pos c4]
  exact fun143_c R g cap bs t left lo ca cn cc sa sn sc sg w h (by omega) hs (by omega) hsg hne (fun p r hp => hp8 t p r hp) hlo8 c3' 20 (fun W g2 cap2 hW hst hA hAg => list194_many R g2 cap2 _ ca cn cc _ _ W hW (by omega))
 rw [if_neg c4] at hx ⊢
 refine fun143_c R g cap bs t left lo ca cn cc sa sn sc sg w h (by omega) hs (by omega) hsg hne (fun p r hp => hp8 t p r hp) hlo8 c3' _ (fun W g2 cap2 hW hst hA hAg => ?_)
 obtain ⟨m1,m2,m3⟩:=code_at R g ca cn xs w hmem hcne hcbl hok hil hst
 have hg2 : g2 ≠ 0:=Ne.symm (hst.ne (by omega) (Ne.symm hg0))
 exact code194_no R g2 cap2 _ ca cn cc (min 2048 left) w.heap.size xs W hW (by rw [List.length_append,List.length_append]; omega) (by omega) (by omega) hR0 hg2 (hk.kept hst.k (by simp; omega)) hA (by omega) hAg m1 m2 m3 hx
end
end Go.Proofs.YtepcmfegggdjfaaGreatDoor

/-
  Texts Lfl Wk Sd.
-/
import Derived.Test.YtepnnenohjfkbaaGreatDoorP00
import Derived.Test.YtepnnenohjfkbaaGreatDoorP06
import Derived.Test.YtepnnenohjfkbaaGreatDoorP09
import Derived.Test.YtepnnenohjfkbaaGreatDoorP12
set_option linter.unusedVariables false
set_option maxRecDepth 100000
set_option maxHeartbeats 16000000
namespace Go.Proofs.YtepnnenohjfkbaaGreatDoor
open Go.RowKit
structure LAt (w : World) (L : Nat) (v : Int) : Prop where
 c : w.cell? ⟨L,0,none⟩ = some (.int .i64 v)
 f : w.frozen? ⟨L,0,none⟩ = false
theorem LAt.lt {w : World} {L : Nat} {v : Int} (h : LAt w L v) : L < w.heap.size:=block_lt_of_cell h.c
theorem LAt.kept {S : Nat → Prop} {w w' : World} {L : Nat} {v : Int} (h : LAt w L v) (hk : Kept S w w') (hs : ¬ S L) : LAt w' L v:=⟨hk.cell h.c hs,(bX (hk.block L h.lt hs) 0).trans h.f⟩
theorem LAt.later {w w' : World} {L : Nat} {v : Int} (h : LAt w L v) (hb : Below w.heap.size w w') : LAt w' L v:=h.kept (S:=fun _ => False) (az hb) id
abbrev Bn (R L g : Nat) (x : Int) (w : World) : Ending → World → Prop:=fun e w' => (∃ p,e = thr x p) ∧ Kept (fun k => k = R ∨ k = g ∨ k = L) w w'
def zk (R g L : Nat) (lv : Nat → Int) (w : World) (K : Nat) (cs : Array Value) (bs : List Int) (n : Nat) (xs : List (Int × ByteArray × (Option Addr × Nat × Nat) × List (Int × Int × (Option Addr × Nat × Nat) × List Int))) (enc : (Int × ByteArray × (Option Addr × Nat × Nat) × List (Int × Int × (Option Addr × Nat × Nat) × List Int)) → List Int) (Ok : (Int × ByteArray × (Option Addr × Nat × Nat) × List (Int × Int × (Option Addr × Nat × Nat) × List Int)) → (Int × ByteArray × (Option Addr × Nat × Nat)) → Prop) (j : Nat) (x : (Int × ByteArray × (Option Addr × Nat × Nat) × List (Int × Int × (Option Addr × Nat × Nat) × List Int))) : Prop :=
 ∀ (ys : List (Int × ByteArray × (Option Addr × Nat × Nat))) (W : World) (g1 aQ : Nat) (aa : Option Addr) (ac : Nat),ys.length = j → (∀ (i : Nat) y,ys[i]? = some y → ∃ x',xs[i]? = some x' ∧ Ok x' y) → ek R L g g1 w W → LAt W L (lv j) → L ≠ g1 → Wr W R g1 aQ (bs ++ au n ++ (xs.take j).flatMap enc) →
  W.ownsRow 0 42 3 (.slice aa j ac) j (ys.flatMap lZ) → (∀ b,aa = some b → w.heap.size ≤ b.block ∧ b.block ≠ g1) →
  Calls Tryz.prog K (#[QR x,.slice aa j ac] ++ cs) W (fun e w' => ∃ y,e = .returned (RN y) ∧ Ok x y ∧ ∃ g' cap',Wr w' R g' cap' (bs ++ au n ++ (xs.take j).flatMap enc ++ enc x) ∧ ek R L g1 g' W w' ∧ LAt w' L (lv (j + 1)))
def IU (R g L : Nat) (lv : Nat → Int) (w : World) (K : Nat) (cs : Array Value) (bs : List Int) (n : Nat) (xs : List (Int × ByteArray × (Option Addr × Nat × Nat) × List (Int × Int × (Option Addr × Nat × Nat) × List Int))) (enc : (Int × ByteArray × (Option Addr × Nat × Nat) × List (Int × Int × (Option Addr × Nat × Nat) × List Int)) → List Int) (Ok : (Int × ByteArray × (Option Addr × Nat × Nat) × List (Int × Int × (Option Addr × Nat × Nat) × List Int)) → (Int × ByteArray × (Option Addr × Nat × Nat)) → Prop) (j : Nat) (x : (Int × ByteArray × (Option Addr × Nat × Nat) × List (Int × Int × (Option Addr × Nat × Nat) × List Int))) (er : Int) : Prop :=
 ∀ (ys : List (Int × ByteArray × (Option Addr × Nat × Nat))) (W : World) (g1 aQ : Nat) (aa : Option Addr) (ac : Nat),ys.length = j → (∀ (i : Nat) y,ys[i]? = some y → ∃ x',xs[i]? = some x' ∧ Ok x' y) → ek R L g g1 w W → LAt W L (lv j) → L ≠ g1 → Wr W R g1 aQ (bs ++ au n ++ (xs.take j).flatMap enc) →
  W.ownsRow 0 42 3 (.slice aa j ac) j (ys.flatMap lZ) → (∀ b,aa = some b → w.heap.size ≤ b.block ∧ b.block ≠ g1) →
  Calls Tryz.prog K (#[QR x,.slice aa j ac] ++ cs) W (aR R g1 er W)
theorem uE (R g cap : Nat) (bs : List Int) (ha : Option Addr) (n hc : Nat) (most : Int) (K : Nat) (cs : Array Value) (w : World) (xs : List (Int × ByteArray × (Option Addr × Nat × Nat) × List (Int × Int × (Option Addr × Nat × Nat) × List Int))) (enc : (Int × ByteArray × (Option Addr × Nat × Nat) × List (Int × Int × (Option Addr × Nat × Nat) × List Int)) → List Int) (Ok : (Int × ByteArray × (Option Addr × Nat × Nat) × List (Int × Int × (Option Addr × Nat × Nat) × List Int)) → (Int × ByteArray × (Option Addr × Nat × Nat)) → Prop) (M : Nat)
  (L : Nat) (lv : Nat → Int) (hL : LAt w L (lv 0)) (hLR : L ≠ R) (hLg : L ≠ g) (h : Wr w R g cap bs) (hn : n ≤ 100000) (hm : (n : Int) ≤ most) (hmem : i7 w ha n xs) (hne : ∀ b off c,ha = some ⟨b,off,c⟩ → b ≠ R ∧ b ≠ g ∧ b ≠ L)
  (hK : ∀ args w,(callFunc K args).run Tryz.prog w = .ok (.enter K args) w) (hlen : ∀ (j : Nat) x,xs[j]? = some x → (enc x).length ≤ M) (hM : M ≤ 1000000) (hb : bs.length + 200000000000 ≤ 1099511627776)
  (heach : ∀ (j : Nat) x,xs[j]? = some x → zk R g L lv w K cs bs n xs enc Ok j x) :
  Calls Tryz.prog 123 #[cW R,.slice ha n hc,.int .i64 most,.func (.func K) #[] cs] w fun e w' => ∃ (aa : Option Addr) (ac : Nat) (ys : List (Int × ByteArray × (Option Addr × Nat × Nat))),e = .returned (.slice aa n ac) ∧ ys.length = n ∧ (∀ (i : Nat) y,ys[i]? = some y → ∃ x,xs[i]? = some x ∧ Ok x y) ∧
   w'.ownsRow 0 42 3 (.slice aa n ac) n (ys.flatMap lZ) ∧ ∃ g' cap',(∀ b,aa = some b → w.heap.size ≤ b.block ∧ b.block ≠ g') ∧ Wr w' R g' cap' (bs ++ au n ++ xs.flatMap enc) ∧ ek R L g g' w w' ∧ LAt w' L (lv n) ∧ L ≠ g':=by
 have hmc:=bz;have hcc:=bQ;have HC:=hid (bK R g cap bs n most w h hm ae ae);have hRl:=h.lt;have hLl:=hL.lt;have hgl:=h.g_lt;have hxl:=hmem.1;have HM:=hid hmem;have HNE:=hid hne;have HE:=hid heach;obtain ⟨i0,hi,hz0,hz1,hz2⟩:=N0;clear h hmem heach hne
 go_enter Tryz.func123,Tryz.ntmps123
 go_wp2_with fail;refine HC.out.mono ?_;rintro e w2 ⟨rfl,g1,aQ,hw2,hs2⟩;have L2:=hid (hL.kept hs2.k aG);have NL2 : L ≠ g1:=hs2.ne hLl hLg;have W2:=hid hw2;have S2:=hid hs2;clear hw2 hs2 HC hmc hcc;go_wp2_with fail
 go_loopw [9,17] (fun o i wr => ∃ (j : Nat) (ys : List (Int × ByteArray × (Option Addr × Nat × Nat))) (aa : Option Addr) (ac g1 aQ : Nat),j ≤ n ∧ i = .int .i64 j ∧ o = .slice aa j ac ∧ ys.length = j ∧ (∀ (i : Nat) y,ys[i]? = some y → ∃ x,xs[i]? = some x ∧ Ok x y) ∧
   wr.ownsRow 0 42 3 (.slice aa j ac) j (ys.flatMap lZ) ∧ (∀ b,aa = some b → w.heap.size ≤ b.block ∧ b.block ≠ g1) ∧ Wr wr R g1 aQ (bs ++ au n ++ (xs.take j).flatMap enc) ∧ ek R L g g1 w wr ∧ LAt wr L (lv j) ∧ L ≠ g1) (fun _ i _ => n - (intOf i).toNat)
 case atStart => exact ⟨0,[],none,0,g1,aQ,ae,rfl,rfl,rfl,(fun i y h => eF),World.ownsRow_nil _ _ _ _,(fun b h => cE),fK,S2.out.toL,L2.out,NL2⟩
 case round =>
  obtain ⟨j,ys,aa,ac,g3,eT,hj,rfl,rfl,hyl,hys,hrow,hab,hwr,hst,hla,hlg⟩:=hrel;have HLA:=hid hla;clear hla L2 NL2;have HY:=hid hys;have HRW:=hid hrow;have HAB:=hid hab;have HWR:=hid hwr;have HST:=hid hst;clear hys hrow hab hwr hst W2 S2
  by_cases hlt : j < n
  ·obtain ⟨x,hx⟩ : ∃ x,xs[j]? = some x:=⟨_,aN ae⟩
   obtain ⟨b,off,rfl,hcell⟩ : ∃ b off,ha = some ⟨b,off,none⟩ ∧ ∀ (j : Nat) x,xs[j]? = some x → wr.cell? ⟨b,off + j * 3,none⟩ = some (.int .i64 x.1) ∧ wr.cell? ⟨b,off + j * 3 + 1,none⟩ = some (.string x.2.1) ∧ wr.cell? ⟨b,off + j * 3 + 2,none⟩ = some (.slice x.2.2.1.1 x.2.2.1.2.1 x.2.2.1.2.2):=by
    exact Dw
   have hcj:=hcell j x hx;have hbl:=block_lt_of_cell hcj.1;clear hcell;obtain ⟨v0,v1,v2⟩:=hcj;have BN:=hid (aj wr (aI x.1 x.2.1 x.2.2.1.1 x.2.2.1.2.1 x.2.2.1.2.2))
   have HC1:=hid (HE.out j x hx ys (wr.alloc (aI x.1 x.2.1 x.2.2.1.1 x.2.2.1.2.1 x.2.2.1.2.2)) g3 eT aa ac hyl HY.out (HST.out.trans (ek.of_below BN.out)) (HLA.out.later BN.out) hlg (HWR.out.later BN.out) (aU HRW.out (fun B hB => BN.out.block B (aO HRW.out hB))) HAB.out)
   exact NS
  ·obtain rfl : j = n:=ae;have hxs : xs.take j = xs:=List.take_of_length_le ae;go_wp2_with fail;go_ret;refine ⟨aa,ac,ys,rfl,hyl,HY.out,HRW.out,g3,eT,HAB.out,?_,HST.out,HLA.out,hlg⟩;rw [← hxs];exact HWR.out
theorem xL (R g cap : Nat) (bs : List Int) (ha : Option Addr) (n hc : Nat) (most : Int) (K : Nat) (cs : Array Value) (w : World) (xs : List (Int × ByteArray × (Option Addr × Nat × Nat) × List (Int × Int × (Option Addr × Nat × Nat) × List Int))) (enc : (Int × ByteArray × (Option Addr × Nat × Nat) × List (Int × Int × (Option Addr × Nat × Nat) × List Int)) → List Int) (Ok : (Int × ByteArray × (Option Addr × Nat × Nat) × List (Int × Int × (Option Addr × Nat × Nat) × List Int)) → (Int × ByteArray × (Option Addr × Nat × Nat)) → Prop) (M : Nat)
  (L : Nat) (lv : Nat → Int) (hL : LAt w L (lv 0)) (hLR : L ≠ R) (hLg : L ≠ g) (h : Wr w R g cap bs) (hn : n ≤ 100000) (hm : (n : Int) ≤ most) (hmem : i7 w ha n xs) (hne : ∀ b off c,ha = some ⟨b,off,c⟩ → b ≠ R ∧ b ≠ g ∧ b ≠ L)
  (hK : ∀ args w,(callFunc K args).run Tryz.prog w = .ok (.enter K args) w) (hlen : ∀ (j : Nat) x,xs[j]? = some x → (enc x).length ≤ M) (hM : M ≤ 1000000) (hb : bs.length + 200000000000 ≤ 1099511627776)
  (k : Nat) (xk : (Int × ByteArray × (Option Addr × Nat × Nat) × List (Int × Int × (Option Addr × Nat × Nat) × List Int))) (er : Int) (hk : xs[k]? = some xk) (heach : ∀ (j : Nat) x,xs[j]? = some x → j < k → zk R g L lv w K cs bs n xs enc Ok j x) (hno : IU R g L lv w K cs bs n xs enc Ok k xk er) :
  Calls Tryz.prog 123 #[cW R,.slice ha n hc,.int .i64 most,.func (.func K) #[] cs] w (Bn R L g er w):=by
 have hkn:=ax hk;have hmc:=bz;have hcc:=bQ;have HC:=hid (bK R g cap bs n most w h hm ae ae);have hRl:=h.lt;have hLl:=hL.lt;have hgl:=h.g_lt;have hxl:=hmem.1;have HM:=hid hmem;have HNE:=hid hne;have HE:=hid heach;have HN:=hid hno;obtain ⟨i0,hi,hz0,hz1,hz2⟩:=N0;clear h hmem heach hne hno
 go_enter Tryz.func123,Tryz.ntmps123
 go_wp2_with fail;refine HC.out.mono ?_;rintro e w2 ⟨rfl,g1,aQ,hw2,hs2⟩;have L2:=hid (hL.kept hs2.k aG);have NL2 : L ≠ g1:=hs2.ne hLl hLg;have W2:=hid hw2;have S2:=hid hs2;clear hw2 hs2 HC hmc hcc;go_wp2_with fail
 go_loopw [9,17] (fun o i wr => ∃ (j : Nat) (ys : List (Int × ByteArray × (Option Addr × Nat × Nat))) (aa : Option Addr) (ac g1 aQ : Nat),j ≤ k ∧ i = .int .i64 j ∧ o = .slice aa j ac ∧ ys.length = j ∧ (∀ (i : Nat) y,ys[i]? = some y → ∃ x,xs[i]? = some x ∧ Ok x y) ∧
   wr.ownsRow 0 42 3 (.slice aa j ac) j (ys.flatMap lZ) ∧ (∀ b,aa = some b → w.heap.size ≤ b.block ∧ b.block ≠ g1) ∧ Wr wr R g1 aQ (bs ++ au n ++ (xs.take j).flatMap enc) ∧ ek R L g g1 w wr ∧ LAt wr L (lv j) ∧ L ≠ g1) (fun _ i _ => n - (intOf i).toNat)
 case atStart => exact ⟨0,[],none,0,g1,aQ,ae,rfl,rfl,rfl,(fun i y h => eF),World.ownsRow_nil _ _ _ _,(fun b h => cE),fK,S2.out.toL,L2.out,NL2⟩
 case round =>
  obtain ⟨j,ys,aa,ac,g3,eT,hj,rfl,rfl,hyl,hys,hrow,hab,hwr,hst,hla,hlg⟩:=hrel;have HLA:=hid hla;clear hla L2 NL2;have HY:=hid hys;have HRW:=hid hrow;have HAB:=hid hab;have HWR:=hid hwr;have HST:=hid hst;clear hys hrow hab hwr hst W2 S2;have hlt : j < n:=ae
  ·obtain ⟨x,hx⟩ : ∃ x,xs[j]? = some x:=⟨_,aN ae⟩
   obtain ⟨b,off,rfl,hcell⟩ : ∃ b off,ha = some ⟨b,off,none⟩ ∧ ∀ (j : Nat) x,xs[j]? = some x → wr.cell? ⟨b,off + j * 3,none⟩ = some (.int .i64 x.1) ∧ wr.cell? ⟨b,off + j * 3 + 1,none⟩ = some (.string x.2.1) ∧ wr.cell? ⟨b,off + j * 3 + 2,none⟩ = some (.slice x.2.2.1.1 x.2.2.1.2.1 x.2.2.1.2.2):=by
    exact Dw
   have hcj:=hcell j x hx;have hbl:=block_lt_of_cell hcj.1;clear hcell;obtain ⟨v0,v1,v2⟩:=hcj;have BN:=hid (aj wr (aI x.1 x.2.1 x.2.2.1.1 x.2.2.1.2.1 x.2.2.1.2.2))
   by_cases hjk : j < k
   ·skip
    have HC1:=hid (HE.out j x hx hjk ys (wr.alloc (aI x.1 x.2.1 x.2.2.1.1 x.2.2.1.2.1 x.2.2.1.2.2)) g3 eT aa ac hyl HY.out (HST.out.trans (ek.of_below BN.out)) (HLA.out.later BN.out) hlg (HWR.out.later BN.out) (aU HRW.out (fun B hB => BN.out.block B (aO HRW.out hB))) HAB.out)
    exact NS
   ·obtain rfl : j = k:=ae;obtain rfl : x = xk:=vQ
    have HC1:=hid (HN.out ys (wr.alloc (aI x.1 x.2.1 x.2.2.1.1 x.2.2.1.2.1 x.2.2.1.2.2)) g3 eT aa ac hyl HY.out (HST.out.trans (ek.of_below BN.out)) (HLA.out.later BN.out) hlg (HWR.out.later BN.out) (aU HRW.out (fun B hB => BN.out.block B (aO HRW.out hB))) HAB.out)
    go_wp2_with fail;refine HC1.out.mono ?_;rintro e w5 ⟨⟨p,rfl⟩,hk5⟩;exact ⟨rfl,⟨p,rfl⟩,(HST.out.trans (ek.of_below BN.out)).throw hk5⟩
abbrev FuM:=Int × ByteArray × SLv × List InM
def jY (sg : List Sg) (ty : Int) : ByteArray:=(sg.getD ty.toNat (⟨#[]⟩,⟨#[]⟩)).1
def eW (sg : List Sg) (left : Int) (ty : Int) (lo : ByteArray) (xs : List InM) : Int :=
 if ty < 0 ∨ (sg.length : Int) ≤ ty then 30 else if 64 < lo.size + (jY sg ty).size then 13 else if lett lo 64 = false then 15 else if min 2048 left < (xs.length : Int) then 20 else aV (fun _ x => cA x) [] xs
def p8 (ty : Int) (lo : ByteArray) (xs : List InM) : List Int:=au ty ++ eI lo ++ (au xs.length ++ xs.flatMap cK)
theorem oM {sg : List Sg} {t : Nat} {p r : ByteArray} (h : sg[t]? = some (p,r)) : jY sg (t : Int) = p:=by
 simp [jY,List.getD,h]
section
variable (R g cap : Nat) (bs : List Int) (ty left : Int) (lo : ByteArray) (ca : Option Addr) (cn cc : Nat) (sa : Option Addr) (sn sc : Nat) (sg : List Sg) (xs : List InM) (w : World)
theorem Cv (hmem : AtIn w ca cn xs) (hne : ∀ b off c,nz cn ca = some ⟨b,off,c⟩ → b ≠ R ∧ b ≠ g) (hbl : ∀ b off c,nz cn ca = some ⟨b,off,c⟩ → b < w.heap.size) (hok : ∀ (j : Nat) x,xs[j]? = some x → p9 w R g x) (hil : ∀ (j : Nat) x,xs[j]? = some x → ∀ b off c,nz x.2.2.1.2.1 x.2.2.1.1 = some ⟨b,off,c⟩ → b < w.heap.size) {W : World} {g2 : Nat} (hst : Stp R g g2 w W) :
  AtIn W ca cn xs ∧ (∀ b off c,nz cn ca = some ⟨b,off,c⟩ → b ≠ R ∧ b ≠ g2) ∧ (∀ (j : Nat) x,xs[j]? = some x → p9 W R g2 x):=by
 refine ⟨hmem.kept hst.k (fun b off c h => Ad),fun b off c h => ⟨(hne b off c h).1,hst.ne (hbl b off c h) (hne b off c h).2⟩,fun j x hj => ?_⟩
 have h:=hok j x hj
 exact ⟨h.r0,h.r1,h.seg' hst,fun b off c hb => ⟨(h.ne b off c hb).1,hst.ne (hil j x hj b off c hb) (h.ne b off c hb).2⟩⟩
theorem Ff (h : Wr w R g cap bs) (hb : bs.length + 400000000000 ≤ 1099511627776) (hs : sn ≤ 100000) (hR0 : R ≠ 0) (hg0 : g ≠ 0) (hk : aW w) (hsg : cj w sa sn sg) (hne : ∀ b off c,sa = some ⟨b,off,c⟩ → b ≠ R ∧ b ≠ g) (hp8 : ∀ (t : Nat) p r,sg[t]? = some (p,r) → p.size ≤ 8) (hcn : cn ≤ 100000 ∨ 2048 < cn) (hmem : AtIn w ca cn xs) (hcne : ∀ b off c,nz cn ca = some ⟨b,off,c⟩ → b ≠ R ∧ b ≠ g) (hcbl : ∀ b off c,nz cn ca = some ⟨b,off,c⟩ → b < w.heap.size) (hok : ∀ (j : Nat) x,xs[j]? = some x → p9 w R g x) (hil : ∀ (j : Nat) x,xs[j]? = some x → ∀ b off c,nz x.2.2.1.2.1 x.2.2.1.1 = some ⟨b,off,c⟩ → b < w.heap.size) (hx : eW sg left ty lo xs = 0) :
  Calls Tryz.prog 125 #[cW R,.agg #[.int .i64 ty,.string lo,.slice ca cn cc],.slice sa sn sc,.int .i64 left] w (fun e w' => ∃ (aa : Option Addr) (ac : Nat),e = .returned (.agg #[.int .i64 ty,.string lo,.slice aa cn ac]) ∧ ∃ g' cap',Wr w' R g' cap' (bs ++ p8 ty lo xs) ∧ Stp R g g' w w'):=by
 have hxl:=hmem.1;have hsl:=hsg.1;unfold eW at hx
 split at hx
 ·cases hx
 ·rename_i c1
  split at hx
  ·cases hx
  ·rename_i c2
   split at hx
   ·cases hx
   ·rename_i c3
    split at hx
    ·cases hx
    ·rename_i c4
     obtain ⟨t,rfl⟩ : ∃ t : Nat,ty = t:=⟨ty.toNat,ae⟩
     have hlt : lett lo 64 = true:=by simpa using c3
     refine (Bb R g cap bs t left lo ca cn cc sa sn sc sg w h ae hs ae hsg hne (fun p r hp => hp8 t p r hp) (fun p r hp => uj) hlt (au cn ++ xs.flatMap cK)
      (fun W g2 cap2 hW hst hA hAg => ?_)).mono ?_
     ·obtain ⟨m1,m2,m3⟩:=Cv R g ca cn xs w hmem hcne hcbl hok hil hst;have hg2 : g2 ≠ 0:=Ne.symm (hst.ne ui (Ne.symm hg0));have hu:=aA (t : Int);have hlo:=cI lo 64 ae;exact yY R g2 cap2 _ ca cn cc (min 2048 left) w.heap.size xs W hW qh ae ae hR0 hg2 (hk.kept hst.k aG) hA ui hAg m1 m2 m3 hx
     ·rintro e w' ⟨aa,ac,he,g',cap',hw',hs'⟩;refine ⟨aa,ac,he,g',cap',?_,hs'⟩;rw [← hxl] at hw'
      simpa [p8,List.append_assoc] using hw'
theorem ER (h : Wr w R g cap bs) (hb : bs.length + 400000000000 ≤ 1099511627776) (hs : sn ≤ 100000) (hR0 : R ≠ 0) (hg0 : g ≠ 0) (hk : aW w) (hsg : cj w sa sn sg) (hne : ∀ b off c,sa = some ⟨b,off,c⟩ → b ≠ R ∧ b ≠ g) (hp8 : ∀ (t : Nat) p r,sg[t]? = some (p,r) → p.size ≤ 8) (hcn : cn ≤ 100000 ∨ 2048 < cn) (hmem : AtIn w ca cn xs) (hcne : ∀ b off c,nz cn ca = some ⟨b,off,c⟩ → b ≠ R ∧ b ≠ g) (hcbl : ∀ b off c,nz cn ca = some ⟨b,off,c⟩ → b < w.heap.size) (hok : ∀ (j : Nat) x,xs[j]? = some x → p9 w R g x) (hil : ∀ (j : Nat) x,xs[j]? = some x → ∀ b off c,nz x.2.2.1.2.1 x.2.2.1.1 = some ⟨b,off,c⟩ → b < w.heap.size) (hty : -9223372036854775808 ≤ ty) (hty1 : ty < 9223372036854775808) (hlo : lo.size ≤ 1073741824 ∨ 64 < lo.size) (hx : eW sg left ty lo xs ≠ 0) :
  Calls Tryz.prog 125 #[cW R,.agg #[.int .i64 ty,.string lo,.slice ca cn cc],.slice sa sn sc,.int .i64 left] w (aR R g (eW sg left ty lo xs) w):=by
 have hxl:=hmem.1;have hsl:=hsg.1;have hRl:=h.lt;unfold eW at hx ⊢
 by_cases c1 : ty < 0 ∨ (sg.length : Int) ≤ ty
 ·rw [if_pos c1];exact EM R g cap bs left lo ca cn cc sa sn sc w ty h hty hty1 ae hs
 rw [if_neg c1] at hx ⊢;obtain ⟨t,rfl⟩ : ∃ t : Nat,ty = t:=⟨ty.toNat,ae⟩
 by_cases c2 : 64 < lo.size + (jY sg t).size
 ·rw [if_pos c2]
  exact yJ R g cap bs t left lo ca cn cc sa sn sc sg w h ae hs ae hsg hne (fun p r hp => hp8 t p r hp) 13 (fun W g1 aQ p r hp hps hW => fh R g1 aQ _ lo _ _ W hW uj)
 rw [if_neg c2] at hx ⊢
 by_cases c3 : lett lo 64 = false
 ·rw [if_pos c3]
  exact yJ R g cap bs t left lo ca cn cc sa sn sc sg w h ae hs ae hsg hne (fun p r hp => hp8 t p r hp) 15 (fun W g1 aQ p r hp hps hW => eX R g1 aQ _ lo _ 177 #[] 15 W hW uj (fun _ _ => rfl) (iI lo _ W ae (by rw [d9 lo 256 64 ae ae]; exact c3)))
 rw [if_neg c3] at hx ⊢
 have c3' : lett lo 64 = true:=by simpa using c3
 have hlo8 : ∀ p r,sg[t]? = some (p,r) → lo.size + p.size ≤ 64:=fun p r hp => uj
 have hu:=aA (t : Int);have hle:=cI lo 64 ae
 by_cases c4 : min 2048 left < (xs.length : Int)
 ·rw [if_pos c4]
  exact yD R g cap bs t left lo ca cn cc sa sn sc sg w h ae hs ae hsg hne (fun p r hp => hp8 t p r hp) hlo8 c3' 20 (fun W g2 cap2 hW hst hA hAg => uX R g2 cap2 _ ca cn cc _ _ W hW ae)
 rw [if_neg c4] at hx ⊢
 refine yD R g cap bs t left lo ca cn cc sa sn sc sg w h ae hs ae hsg hne (fun p r hp => hp8 t p r hp) hlo8 c3' _ (fun W g2 cap2 hW hst hA hAg => ?_)
 obtain ⟨m1,m2,m3⟩:=Cv R g ca cn xs w hmem hcne hcbl hok hil hst;have hg2 : g2 ≠ 0:=Ne.symm (hst.ne ae (Ne.symm hg0));exact Aa R g2 cap2 _ ca cn cc (min 2048 left) w.heap.size xs W hW qh ae ae hR0 hg2 (hk.kept hst.k aG) hA ae hAg m1 m2 m3 hx
end
def bM (xs : List FuM) : Nat:=(xs.map fun x => x.2.2.2.length).sum
theorem mI {xs : List FuM} {j : Nat} {x : FuM} (hx : xs[j]? = some x) : bM (xs.take (j + 1)) = bM (xs.take j) + x.2.2.2.length:=by
 have hj:=ax hx;rw [List.take_succ_eq_append_getElem hj];rw [aN hj] at hx
 simp at hx
 simp [bM,hx]
def cz (sg : List Sg) (ah : List FuM) (x : FuM) : Int:=eW sg (16384 - bM ah) x.1 x.2.1 x.2.2.2
def bR (x : FuM) : List Int:=p8 x.1 x.2.1 x.2.2.2
structure GF (w : World) (R g L : Nat) (x : FuM) : Prop where
 r0 : -9223372036854775808 ≤ x.1
 r1 : x.1 < 9223372036854775808
 mem : AtIn w x.2.2.1.1 x.2.2.1.2.1 x.2.2.2
 ne : ∀ b off c,nz x.2.2.1.2.1 x.2.2.1.1 = some ⟨b,off,c⟩ → b ≠ R ∧ b ≠ g ∧ b ≠ L
 lt : ∀ b off c,nz x.2.2.1.2.1 x.2.2.1.1 = some ⟨b,off,c⟩ → b < w.heap.size
 ins : ∀ (j : Nat) y,x.2.2.2[j]? = some y → p9 w R g y
 inl : ∀ (j : Nat) y,x.2.2.2[j]? = some y → ∀ b off c,nz y.2.2.1.2.1 y.2.2.1.1 = some ⟨b,off,c⟩ → b < w.heap.size ∧ b ≠ L
theorem oz {sg : List Sg} {left : Int} {ty : Int} {lo : ByteArray} {xs : List InM} (h : eW sg left ty lo xs = 0) : lo.size ≤ 64 ∧ (xs.length : Int) ≤ left ∧ xs.length ≤ 2048 ∧ aV (fun _ x => cA x) [] xs = 0:=by
 unfold eW at h
 split at h
 ·cases h
 ·split at h
  ·cases h
  ·split at h
   ·cases h
   ·split at h
    ·cases h
    ·refine ⟨ae,ae,ae,h⟩
theorem ig {sg : List Sg} {left : Int} {x : FuM} (h : eW sg left x.1 x.2.1 x.2.2.2 = 0) : (bR x).length ≤ 400000:=by
 obtain ⟨h1,h2,h3,h4⟩:=oz h;have a:=aA x.1;have b:=cI x.2.1 64 h1;have c:=aA x.2.2.2.length
 have d:=bV cK 171 x.2.2.2 (fun j y hj => iq (bp (fun _ x => cA x) x.2.2.2 [] h4 j y hj))
 simp only [bR,p8,List.length_append]
 have : x.2.2.2.length * 171 ≤ 2048 * 171:=Nat.mul_le_mul_right _ h3;omega
section
variable (R g cap : Nat) (bs : List Int) (n : Nat) (A O L : Nat) (ta : Option Addr) (tn tc : Nat) (sg : List Sg) (w : World) (xs : List FuM)
theorem KX (hok : ∀ (j : Nat) x,xs[j]? = some x → GF w R g L x) {W : World} {g1 : Nat} (hst : ek R L g g1 w W) (j : Nat) (x : FuM) (hx : xs[j]? = some x) :
  AtIn W x.2.2.1.1 x.2.2.1.2.1 x.2.2.2 ∧ (∀ b off c,nz x.2.2.1.2.1 x.2.2.1.1 = some ⟨b,off,c⟩ → b ≠ R ∧ b ≠ g1) ∧ (∀ b off c,nz x.2.2.1.2.1 x.2.2.1.1 = some ⟨b,off,c⟩ → b < W.heap.size) ∧ (∀ (i : Nat) y,x.2.2.2[i]? = some y → p9 W R g1 y) ∧ (∀ (i : Nat) y,x.2.2.2[i]? = some y → ∀ b off c,nz y.2.2.1.2.1 y.2.2.1.1 = some ⟨b,off,c⟩ → b < W.heap.size):=by
 have h:=hok j x hx;have hz:=hst.size
 refine ⟨h.mem.kept hst.k (fun b off c hb => by have:=h.ne b off c hb; simp; omega),fun b off c hb => ⟨(h.ne b off c hb).1,hst.ne (h.lt b off c hb) (h.ne b off c hb).2.1⟩,fun b off c hb => Nat.lt_of_lt_of_le (h.lt b off c hb) hz,fun i y hi => ?_,fun i y hi b off c hb => Nat.lt_of_lt_of_le (h.inl i y hi b off c hb).1 hz⟩
 have q:=h.ins i y hi
 exact ⟨q.r0,q.r1,q.seg.kept' hst.k (fun b off c hb => by have:=q.ne b off c hb; have:=(h.inl i y hi b off c hb).2; simp; omega),fun b off c hb => ⟨(q.ne b off c hb).1,hst.ne (h.inl i y hi b off c hb).1 (q.ne b off c hb).2⟩⟩
theorem yj (h : Wr w R g cap bs) (hb : bs.length + 500000000000 ≤ 1099511627776) (hn : n ≤ 1000) (hR0 : R ≠ 0) (hg0 : g ≠ 0) (hk : aW w) (hL0 : L ≠ 0) (hA : w.cell? ⟨A,0,none⟩ = some (cW R)) (hAR : A ≠ R) (hAg : A ≠ g) (hAL : A ≠ L) (hO : w.cell? ⟨O,0,none⟩ = some (.slice ta tn tc)) (hOR : O ≠ R) (hOg : O ≠ g) (hOL : O ≠ L) (htn : tn ≤ 100000) (hsg : cj w ta tn sg) (hsn : ∀ b off c,ta = some ⟨b,off,c⟩ → b ≠ R ∧ b ≠ g ∧ b ≠ L) (hsl : ∀ b off c,ta = some ⟨b,off,c⟩ → b < w.heap.size) (hp8 : ∀ (t : Nat) p r,sg[t]? = some (p,r) → p.size ≤ 8) (hLR : L ≠ R) (hLg : L ≠ g) (hok : ∀ (j : Nat) x,xs[j]? = some x → GF w R g L x) (hl : xs.length = n) (e : FuM → List Int) (k : Nat) (he : ∀ (i : Nat) y,xs[i]? = some y → i < k → e y = bR y) (hall : ∀ (i : Nat) y,xs[i]? = some y → i < k → cz sg (xs.take i) y = 0) (j : Nat) (x : FuM) (hx : xs[j]? = some x) (hjk : j < k) :
  zk R g L (fun j => 16384 - (bM (xs.take j) : Int)) w 124 #[.pointer (some ⟨A,0,none⟩),.pointer (some ⟨O,0,none⟩),.pointer (some ⟨L,0,none⟩)] bs n xs e (fun _ _ => True) j x:=by
 intro ys W g1 aQ aa ac hyl hys hst hla hlg hwr hrow hab;have hlt:=ax hx;have hchk:=hall j x hx hjk;have henc:=he j x hx hjk
 have hlen : ((xs.take j).flatMap e).length ≤ j * 400000:=by
  have:=bV e 400000 (xs.take j) (fun i y hi => by
   have hij : i < j:=lM;rw [List.getElem?_take_of_lt hij] at hi;rw [he i y hi ae];exact ig (hall i y hi ae))
  exact mA
 have hu:=aA (n : Int)
 have hbb : (bs ++ au n ++ (xs.take j).flatMap e).length ≤ bs.length + 10 + 1000 * 400000:=by
  rw [List.length_append,List.length_append];have : j * 400000 ≤ 1000 * 400000:=Nat.mul_le_mul_right _ ae;omega
 obtain ⟨m1,m2,m3,m4,m5⟩:=KX R g L w xs hok hst j x hx;have hkk:=oz hchk;have hxl:=(hok j x hx).mem.1;have hg1 : g1 ≠ 0:=Ne.symm (hst.ne ui (Ne.symm hg0));have hkW : aW W:=hk.kept hst.k aG
 have hsgW:=hsg.kept hst.k (fun b off c hb' => by have:=hsn b off c hb'; simp; omega)
 have hcell:=hla.c
 refine (AJ R g1 aQ _ x.1 x.2.1 x.2.2.1.1 x.2.2.1.2.1 x.2.2.1.2.2 aa j ac A O L ta tn tc (16384 - (bM (xs.take j) : Int)) W hwr (hst.cell hA hAR hAg hAL) (hst.cell hO hOR hOg hOL) hla.c hla.f hLR hlg ae ae (bs ++ au n ++ (xs.take j).flatMap e ++ e x) (fun W2 hb2 => ?_)).mono ?_
 ·have hst2:=hst.trans (ek.of_below (L:=L) (R:=R) (g:=g1) hb2);obtain ⟨p1,p2,p3,p4,p5⟩:=KX R g L w xs hok hst2 j x hx
  refine (Ff R g1 aQ _ x.1 (16384 - (bM (xs.take j) : Int)) x.2.1 x.2.2.1.1 x.2.2.1.2.1 x.2.2.1.2.2 ta tn tc sg x.2.2.2 W2 (hwr.later hb2) ae htn hR0 hg1 (hkW.later hb2 hkW.pos) (hsgW.later hb2) (fun b off c hb' => ⟨(hsn b off c hb').1,hst.ne (hsl b off c hb') (hsn b off c hb').2.1⟩) hp8 ae p1 p2 p3 p4 p5 hchk).mono ?_
  rintro e' w' ⟨fa,fc,he',g',cap',hw',hs'⟩;refine ⟨fa,fc,he',g',cap',?_,hs'⟩;rw [henc];exact hw'
 ·rintro e' w' ⟨fa,fc,he',hlc,hlf,g',cap',hw',hk',hm'⟩;refine ⟨(x.1,x.2.1,(fa,x.2.2.1.2.1,fc)),he',trivial,g',cap',hw',⟨hk',hm'⟩,⟨?_,hlf⟩⟩;rw [hlc]
  show some (Value.int IntKind.i64 (16384 - (bM (xs.take j) : Int) - (x.2.2.1.2.1 : Int))) = some (Value.int IntKind.i64 (16384 - (bM (xs.take (j + 1)) : Int)))
  rw [mI hx]
  congr 2
  omega
theorem MB (h : Wr w R g cap bs) (hb : bs.length + 500000000000 ≤ 1099511627776) (hn : n ≤ 1000) (hR0 : R ≠ 0) (hg0 : g ≠ 0) (hk : aW w) (hL0 : L ≠ 0) (hA : w.cell? ⟨A,0,none⟩ = some (cW R)) (hAR : A ≠ R) (hAg : A ≠ g) (hAL : A ≠ L) (hO : w.cell? ⟨O,0,none⟩ = some (.slice ta tn tc)) (hOR : O ≠ R) (hOg : O ≠ g) (hOL : O ≠ L) (htn : tn ≤ 100000) (hsg : cj w ta tn sg) (hsn : ∀ b off c,ta = some ⟨b,off,c⟩ → b ≠ R ∧ b ≠ g ∧ b ≠ L) (hsl : ∀ b off c,ta = some ⟨b,off,c⟩ → b < w.heap.size) (hp8 : ∀ (t : Nat) p r,sg[t]? = some (p,r) → p.size ≤ 8) (hLR : L ≠ R) (hLg : L ≠ g) (hok : ∀ (j : Nat) x,xs[j]? = some x → GF w R g L x) (hl : xs.length = n) (ha : Option Addr) (hc : Nat) (hL : LAt w L 16384) (hmem : i7 w ha n xs) (hne : ∀ b off c,ha = some ⟨b,off,c⟩ → b ≠ R ∧ b ≠ g ∧ b ≠ L) (hx : bq (cz sg) 128 xs = 0) :
  Calls Tryz.prog 123 #[cW R,.slice ha n hc,.int .i64 128,.func (.func 124) #[] #[.pointer (some ⟨A,0,none⟩),.pointer (some ⟨O,0,none⟩),.pointer (some ⟨L,0,none⟩)]] w fun e w' => ∃ (aa : Option Addr) (ac : Nat),e = .returned (.slice aa n ac) ∧ ∃ g' cap',Wr w' R g' cap' (bs ++ (au n ++ xs.flatMap bR)) ∧ ek R L g g' w w':=by
 unfold bq at hx
 split at hx
 ·cases hx
 rename_i hm
 have hall:=bp (cz sg) xs [] hx
 have hall' : ∀ (i : Nat) y,xs[i]? = some y → cz sg (xs.take i) y = 0:=fun i y hi => hall i y hi
 refine (uE R g cap bs ha n hc 128 124 _ w xs bR (fun _ _ => True) 400000 L (fun j => 16384 - (bM (xs.take j) : Int)) (by simpa [bM] using hL) hLR hLg h ae ae hmem hne (fun _ _ => rfl) (fun j x hj => ig (hall' j x hj)) ae ae
  (fun j x hj => yj R g cap bs n A O L ta tn tc sg w xs h hb hn hR0 hg0 hk hL0 hA hAR hAg hAL hO hOR hOg hOL htn hsg hsn hsl hp8 hLR hLg hok hl bR (j + 1) (fun _ _ _ _ => rfl) (fun i y hi _ => hall' i y hi) j x hj ae)).mono ?_
 rintro e w' ⟨aa,ac,ys,he,hyl,hys,hrow,g',cap',hab,hw',hs',_⟩;exact ⟨aa,ac,he,g',cap',wN,hs'⟩
theorem Oa (h : Wr w R g cap bs) (hb : bs.length + 500000000000 ≤ 1099511627776) (hn : n ≤ 1000) (hR0 : R ≠ 0) (hg0 : g ≠ 0) (hk : aW w) (hL0 : L ≠ 0) (hA : w.cell? ⟨A,0,none⟩ = some (cW R)) (hAR : A ≠ R) (hAg : A ≠ g) (hAL : A ≠ L) (hO : w.cell? ⟨O,0,none⟩ = some (.slice ta tn tc)) (hOR : O ≠ R) (hOg : O ≠ g) (hOL : O ≠ L) (htn : tn ≤ 100000) (hsg : cj w ta tn sg) (hsn : ∀ b off c,ta = some ⟨b,off,c⟩ → b ≠ R ∧ b ≠ g ∧ b ≠ L) (hsl : ∀ b off c,ta = some ⟨b,off,c⟩ → b < w.heap.size) (hp8 : ∀ (t : Nat) p r,sg[t]? = some (p,r) → p.size ≤ 8) (hLR : L ≠ R) (hLg : L ≠ g) (hok : ∀ (j : Nat) x,xs[j]? = some x → GF w R g L x) (hl : xs.length = n) (ha : Option Addr) (hc : Nat) (hL : LAt w L 16384) (hmem : i7 w ha n xs) (hne : ∀ b off c,ha = some ⟨b,off,c⟩ → b ≠ R ∧ b ≠ g ∧ b ≠ L) (hx : bq (cz sg) 128 xs ≠ 0) :
  Calls Tryz.prog 123 #[cW R,.slice ha n hc,.int .i64 128,.func (.func 124) #[] #[.pointer (some ⟨A,0,none⟩),.pointer (some ⟨O,0,none⟩),.pointer (some ⟨L,0,none⟩)]] w (Bn R L g (bq (cz sg) 128 xs) w):=by
 unfold bq at hx ⊢
 by_cases hm : (128 : Int) < xs.length
 ·rw [if_pos hm];refine (nI R g cap bs ha n hc 128 _ w h ae).mono ?_;rintro e w' ⟨hp,hk'⟩
  exact ⟨hp,hk'.mono (fun k hk => ae)⟩
 rw [if_neg hm] at hx ⊢;obtain ⟨k,x,h1,h2,h3,h4⟩:=dC (cz sg) xs [] hx;have hall:=bp (cz sg) (xs.take k) [] h2
 have hall' : ∀ (i : Nat) y,xs[i]? = some y → i < k → cz sg (xs.take i) y = 0:=fun i y hi hik => by
  have hh:=hall i y zU
  have e : (xs.take k).take i = xs.take i:=by rw [List.take_take]; congr 1; omega
  simp only [List.nil_append,e] at hh
  exact hh
 rw [h4]
 simp only [List.nil_append] at h3 ⊢
 obtain ⟨E,hE⟩ : ∃ E : FuM → List Int,E = fun y => if (bR y).length ≤ 400000 then bR y else []:=⟨_,rfl⟩
 have hEl : ∀ y,(E y).length ≤ 400000:=fun y => by
  rw [hE]
  show (if (bR y).length ≤ 400000 then bR y else []).length ≤ 400000
  split
  ·assumption
  ·simp
 have hEe : ∀ (i : Nat) z,xs[i]? = some z → i < k → E z = bR z:=fun i z hi hik => by
  rw [hE];exact if_pos (ig (hall' i z hi hik))
 refine xL R g cap bs ha n hc 128 124 _ w xs E (fun _ _ => True) 400000 L (fun j => 16384 - (bM (xs.take j) : Int)) (by simpa [bM] using hL) hLR hLg h ae ae hmem hne (fun _ _ => rfl) (fun j y hj => hEl y) ae ae k x _ h1
  (fun j y hj hjk => yj R g cap bs n A O L ta tn tc sg w xs h hb hn hR0 hg0 hk hL0 hA hAR hAg hAL hO hOR hOg hOL htn hsg hsn hsl hp8 hLR hLg hok hl E k hEe hall' j y hj hjk) ?_
 intro ys W g1 aQ aa ac hyl hys hst hla hlg hwr hrow hab;have hlt:=ax h1;have hu:=aA (n : Int)
 have hbb : (bs ++ au n ++ (xs.take k).flatMap E).length ≤ bs.length + 10 + 1000 * 400000:=by
  have hf:=bV E 400000 (xs.take k) (fun i y _ => hEl y)
  rw [List.length_take] at hf;have e1 : min k xs.length = k:=ae;rw [e1] at hf;rw [List.length_append,List.length_append];have : k * 400000 ≤ 1000 * 400000:=Nat.mul_le_mul_right _ ae;omega
 have hg1 : g1 ≠ 0:=Ne.symm (hst.ne ui (Ne.symm hg0));have hkW : aW W:=hk.kept hst.k aG
 have hsgW:=hsg.kept hst.k (fun b off c hb' => by have:=hsn b off c hb'; simp; omega)
 refine EB R g1 aQ _ x.1 x.2.1 x.2.2.1.1 x.2.2.1.2.1 x.2.2.1.2.2 aa k ac A O L ta tn tc (16384 - (bM (xs.take k) : Int)) W hwr (hst.cell hA hAR hAg hAL) (hst.cell hO hOR hOg hOL) hla.c _ (fun W2 hb2 => ?_)
 have hst2:=hst.trans (ek.of_below (L:=L) (R:=R) (g:=g1) hb2);obtain ⟨p1,p2,p3,p4,p5⟩:=KX R g L w xs hok hst2 k x h1
 exact ER R g1 aQ _ x.1 (16384 - (bM (xs.take k) : Int)) x.2.1 x.2.2.1.1 x.2.2.1.2.1 x.2.2.1.2.2 ta tn tc sg x.2.2.2 W2 (hwr.later hb2) ae htn hR0 hg1 (hkW.later hb2 hkW.pos) (hsgW.later hb2) (fun b off c hb' => ⟨(hsn b off c hb').1,hst.ne (hsl b off c hb') (hsn b off c hb').2.1⟩) hp8 ae p1 p2 p3 p4 p5 (hok k x h1).r0 (hok k x h1).r1 ae h3
end
end Go.Proofs.YtepnnenohjfkbaaGreatDoor

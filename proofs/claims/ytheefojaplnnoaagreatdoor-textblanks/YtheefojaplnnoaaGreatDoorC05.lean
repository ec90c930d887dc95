/-
  Texts Lda Wd Wx.
-/
import Derived.Laws.BytesArg
import Derived.Test.YtheefojaplnnoaaGreatDoorC00
import Derived.Test.YtheefojaplnnoaaGreatDoorC01
import Derived.Test.YtheefojaplnnoaaGreatDoorC04
set_option linter.unusedVariables false
set_option maxRecDepth 100000
set_option maxHeartbeats 16000000
namespace Go.Proofs.YtheefojaplnnoaaGreatDoor
open Go.RowKit
theorem LZ : ∃ i,Tryz.prog.info? 81 = some i ∧ i.zero = some (.agg #[.int .i64 0,.slice none 0 0]) ∧ i.size = 2 ∧ i.bytes = 32:=by
 have h : (Tryz.prog.info? 81).map (fun i => (i.zero,i.size,i.bytes)) = some (some (.agg #[.int .i64 0,.slice none 0 0]),2,32):=ai
 cases hi : Tryz.prog.info? 81 with
 | none => rw [hi] at h; cases h
 | some i => rw [hi] at h; simp at h; exact ⟨i,rfl,h.1,h.2.1,h.2.2⟩
def ip (y : (Int × (Option Addr × Nat × Nat))) : List Value:=[.int .i64 y.1,.slice y.2.1 y.2.2.1 y.2.2.2]
abbrev NV (x : (Int × (Option Addr × Nat × Nat) × List Int)) : Value:=.agg #[.int .i64 x.1,.slice x.2.1.1 x.2.1.2.1 x.2.1.2.2]
abbrev MQ (y : (Int × (Option Addr × Nat × Nat))) : Value:=.agg #[.int .i64 y.1,.slice y.2.1 y.2.2.1 y.2.2.2]
def lI (w : World) (a : Option Addr) (n : Nat) (xs : List (Int × (Option Addr × Nat × Nat) × List Int)) : Prop :=
 xs.length = n ∧ (n = 0 ∨ ∃ b off,a = some ⟨b,off,none⟩ ∧ ∀ (j : Nat) x,xs[j]? = some x → w.cell? ⟨b,off + j * 2,none⟩ = some (.int .i64 x.1) ∧ w.cell? ⟨b,off + j * 2 + 1,none⟩ = some (.slice x.2.1.1 x.2.1.2.1 x.2.1.2.2))
theorem lI.kept {S : Nat → Prop} {w w' : World} {a : Option Addr} {n : Nat} {xs : List (Int × (Option Addr × Nat × Nat) × List Int)} (h : lI w a n xs) (hk : aP S w w') (hS : ∀ b off c,a = some ⟨b,off,c⟩ → ¬ S b) : lI w' a n xs:=by
 exact xM
theorem vk (w : World) (y : (Int × (Option Addr × Nat × Nat))) : ∀ j u,(ip y)[j]? = some u → (w.alloc (aW y.1 y.2.1 y.2.2.1 y.2.2.2)).cell? ((⟨w.heap.size,0,none⟩ : Addr).add j) = some u:=by
 intro j u hj;have hlt:=aF hj;have hl : (ip y).length = 2:=rfl;rw [hl] at hlt;have hadd : (⟨w.heap.size,0,none⟩ : Addr).add j = ⟨w.heap.size,j,none⟩:=ic;rw [hadd];have hb:=(MapKept.heap_alloc w (aW y.1 y.2.1 y.2.2.1 y.2.2.2)).1
 simp only [World.cell?,hb]
 simpa [ip] using hj
theorem vg (y : (Int × (Option Addr × Nat × Nat))) : ∀ u ∈ ip y,u.oneCell' = true:=by
 intro u hu
 simp [ip] at hu
 rcases hu with rfl | rfl <;> rfl
def yj (R g : Nat) (w : World) (K : Nat) (cs : Array Value) (bs : List Int) (n : Nat) (xs : List (Int × (Option Addr × Nat × Nat) × List Int)) (enc : (Int × (Option Addr × Nat × Nat) × List Int) → List Int) (Ok : (Int × (Option Addr × Nat × Nat) × List Int) → (Int × (Option Addr × Nat × Nat)) → Prop) (j : Nat) (x : (Int × (Option Addr × Nat × Nat) × List Int)) : Prop :=
 ∀ (ys : List (Int × (Option Addr × Nat × Nat))) (W : World) (g1 cap1 : Nat) (aa : Option Addr) (ac : Nat),ys.length = j → (∀ (i : Nat) y,ys[i]? = some y → ∃ x',xs[i]? = some x' ∧ Ok x' y) → Stp R g g1 w W → Wr W R g1 cap1 (bs ++ au n ++ (xs.take j).flatMap enc) →
  W.ownsRow 0 81 2 (.slice aa j ac) j (ys.flatMap ip) → (∀ b,aa = some b → w.heap.size ≤ b.block ∧ b.block ≠ g1) →
  Calls Tryz.prog K (#[NV x,.slice aa j ac] ++ cs) W (fun e w' => ∃ y,e = .returned (MQ y) ∧ Ok x y ∧ ∃ g' cap',Wr w' R g' cap' (bs ++ au n ++ (xs.take j).flatMap enc ++ enc x) ∧ Stp R g1 g' W w')
def Im (R g : Nat) (w : World) (K : Nat) (cs : Array Value) (bs : List Int) (n : Nat) (xs : List (Int × (Option Addr × Nat × Nat) × List Int)) (enc : (Int × (Option Addr × Nat × Nat) × List Int) → List Int) (Ok : (Int × (Option Addr × Nat × Nat) × List Int) → (Int × (Option Addr × Nat × Nat)) → Prop) (j : Nat) (x : (Int × (Option Addr × Nat × Nat) × List Int)) (er : Int) : Prop :=
 ∀ (ys : List (Int × (Option Addr × Nat × Nat))) (W : World) (g1 cap1 : Nat) (aa : Option Addr) (ac : Nat),ys.length = j → (∀ (i : Nat) y,ys[i]? = some y → ∃ x',xs[i]? = some x' ∧ Ok x' y) → Stp R g g1 w W → Wr W R g1 cap1 (bs ++ au n ++ (xs.take j).flatMap enc) →
  W.ownsRow 0 81 2 (.slice aa j ac) j (ys.flatMap ip) → (∀ b,aa = some b → w.heap.size ≤ b.block ∧ b.block ≠ g1) →
  Calls Tryz.prog K (#[NV x,.slice aa j ac] ++ cs) W (aJ R g1 er W)
theorem wN (R g cap : Nat) (bs : List Int) (ha : Option Addr) (n hc : Nat) (most : Int) (K : Nat) (cs : Array Value) (w : World) (xs : List (Int × (Option Addr × Nat × Nat) × List Int)) (enc : (Int × (Option Addr × Nat × Nat) × List Int) → List Int) (Ok : (Int × (Option Addr × Nat × Nat) × List Int) → (Int × (Option Addr × Nat × Nat)) → Prop) (M : Nat)
  (h : Wr w R g cap bs) (hn : n ≤ 100000) (hm : (n : Int) ≤ most) (hmem : lI w ha n xs) (hne : ∀ b off c,ha = some ⟨b,off,c⟩ → b ≠ R ∧ b ≠ g)
  (hK : ∀ args w,(callFunc K args).run Tryz.prog w = .ok (.enter K args) w) (hlen : ∀ (j : Nat) x,xs[j]? = some x → (enc x).length ≤ M) (hM : M ≤ 1000000) (hb : bs.length + 200000000000 ≤ 1099511627776)
  (heach : ∀ (j : Nat) x,xs[j]? = some x → yj R g w K cs bs n xs enc Ok j x) :
  Calls Tryz.prog 144 #[cW R,.slice ha n hc,.int .i64 most,.func (.func K) #[] cs] w fun e w' => ∃ (aa : Option Addr) (ac : Nat) (ys : List (Int × (Option Addr × Nat × Nat))),e = .returned (.slice aa n ac) ∧ ys.length = n ∧ (∀ (i : Nat) y,ys[i]? = some y → ∃ x,xs[i]? = some x ∧ Ok x y) ∧
   w'.ownsRow 0 81 2 (.slice aa n ac) n (ys.flatMap ip) ∧ ∃ g' cap',(∀ b,aa = some b → w.heap.size ≤ b.block ∧ b.block ≠ g') ∧ Wr w' R g' cap' (bs ++ au n ++ xs.flatMap enc) ∧ Stp R g g' w w':=by
 have hmc:=bg;have hcc:=bN;have HC:=hid (bC R g cap bs n most w h hm ae ae);have hRl:=h.lt;have hgl:=h.g_lt;have hxl:=hmem.1;have HM:=hid hmem;have HNE:=hid hne;have HE:=hid heach;obtain ⟨i0,hi,hz0,hz1,hz2⟩:=LZ;clear h hmem heach hne
 go_enter Tryz.func144,Tryz.ntmps144
 go_wp2_with fail;refine HC.out.mono ?_;rintro e w2 ⟨rfl,g1,cap1,hw2,hs2⟩;have W2:=hid hw2;have S2:=hid hs2;clear hw2 hs2 HC hmc hcc;go_wp2_with fail
 go_loopw [9,17] (fun o i wr => ∃ (j : Nat) (ys : List (Int × (Option Addr × Nat × Nat))) (aa : Option Addr) (ac g1 cap1 : Nat),j ≤ n ∧ i = .int .i64 j ∧ o = .slice aa j ac ∧ ys.length = j ∧ (∀ (i : Nat) y,ys[i]? = some y → ∃ x,xs[i]? = some x ∧ Ok x y) ∧
   wr.ownsRow 0 81 2 (.slice aa j ac) j (ys.flatMap ip) ∧ (∀ b,aa = some b → w.heap.size ≤ b.block ∧ b.block ≠ g1) ∧ Wr wr R g1 cap1 (bs ++ au n ++ (xs.take j).flatMap enc) ∧ Stp R g g1 w wr) (fun _ i _ => n - (intOf i).toNat)
 case atStart => exact ⟨0,[],none,0,g1,cap1,ae,rfl,rfl,rfl,(fun i y h => eY),World.ownsRow_nil _ _ _ _,(fun b h => bG),fw,S2.out⟩
 case round =>
  obtain ⟨j,ys,aa,ac,g3,cap3,hj,rfl,rfl,hyl,hys,hrow,hab,hwr,hst⟩:=hrel;have HY:=hid hys;have HRW:=hid hrow;have HAB:=hid hab;have HWR:=hid hwr;have HST:=hid hst;clear hys hrow hab hwr hst W2 S2
  by_cases hlt : j < n
  ·obtain ⟨x,hx⟩ : ∃ x,xs[j]? = some x:=⟨_,aD ae⟩
   obtain ⟨b,off,rfl,hcell⟩ : ∃ b off,ha = some ⟨b,off,none⟩ ∧ ∀ (j : Nat) x,xs[j]? = some x → wr.cell? ⟨b,off + j * 2,none⟩ = some (.int .i64 x.1) ∧ wr.cell? ⟨b,off + j * 2 + 1,none⟩ = some (.slice x.2.1.1 x.2.1.2.1 x.2.1.2.2):=by
    exact dU
   have hcj:=hcell j x hx;have hbl:=block_lt_of_cell hcj.1;clear hcell;obtain ⟨v0,v1⟩:=hcj;have BN:=hid (ag wr (aW x.1 x.2.1.1 x.2.1.2.1 x.2.1.2.2))
   have HC1:=hid (HE.out j x hx ys (wr.alloc (aW x.1 x.2.1.1 x.2.1.2.1 x.2.1.2.2)) g3 cap3 aa ac hyl HY.out (HST.out.trans (Stp.of_below BN.out)) (HWR.out.later BN.out) (aA HRW.out (fun B hB => BN.out.block B (ax HRW.out hB))) HAB.out)
   exact Lv
  ·exact nT
theorem yE (R g cap : Nat) (bs : List Int) (ha : Option Addr) (n hc : Nat) (most : Int) (K : Nat) (cs : Array Value) (w : World) (xs : List (Int × (Option Addr × Nat × Nat) × List Int)) (enc : (Int × (Option Addr × Nat × Nat) × List Int) → List Int) (Ok : (Int × (Option Addr × Nat × Nat) × List Int) → (Int × (Option Addr × Nat × Nat)) → Prop) (M : Nat)
  (h : Wr w R g cap bs) (hn : n ≤ 100000) (hm : (n : Int) ≤ most) (hmem : lI w ha n xs) (hne : ∀ b off c,ha = some ⟨b,off,c⟩ → b ≠ R ∧ b ≠ g)
  (hK : ∀ args w,(callFunc K args).run Tryz.prog w = .ok (.enter K args) w) (hlen : ∀ (j : Nat) x,xs[j]? = some x → (enc x).length ≤ M) (hM : M ≤ 1000000) (hb : bs.length + 200000000000 ≤ 1099511627776)
  (k : Nat) (xk : (Int × (Option Addr × Nat × Nat) × List Int)) (er : Int) (hk : xs[k]? = some xk) (heach : ∀ (j : Nat) x,xs[j]? = some x → j < k → yj R g w K cs bs n xs enc Ok j x) (hno : Im R g w K cs bs n xs enc Ok k xk er) :
  Calls Tryz.prog 144 #[cW R,.slice ha n hc,.int .i64 most,.func (.func K) #[] cs] w (aJ R g er w):=by
 have hkn:=aF hk;have hmc:=bg;have hcc:=bN;have HC:=hid (bC R g cap bs n most w h hm ae ae);have hRl:=h.lt;have hgl:=h.g_lt;have hxl:=hmem.1;have HM:=hid hmem;have HNE:=hid hne;have HE:=hid heach;have HN:=hid hno;obtain ⟨i0,hi,hz0,hz1,hz2⟩:=LZ;clear h hmem heach hne hno
 go_enter Tryz.func144,Tryz.ntmps144
 go_wp2_with fail;refine HC.out.mono ?_;rintro e w2 ⟨rfl,g1,cap1,hw2,hs2⟩;have W2:=hid hw2;have S2:=hid hs2;clear hw2 hs2 HC hmc hcc;go_wp2_with fail
 go_loopw [9,17] (fun o i wr => ∃ (j : Nat) (ys : List (Int × (Option Addr × Nat × Nat))) (aa : Option Addr) (ac g1 cap1 : Nat),j ≤ k ∧ i = .int .i64 j ∧ o = .slice aa j ac ∧ ys.length = j ∧ (∀ (i : Nat) y,ys[i]? = some y → ∃ x,xs[i]? = some x ∧ Ok x y) ∧
   wr.ownsRow 0 81 2 (.slice aa j ac) j (ys.flatMap ip) ∧ (∀ b,aa = some b → w.heap.size ≤ b.block ∧ b.block ≠ g1) ∧ Wr wr R g1 cap1 (bs ++ au n ++ (xs.take j).flatMap enc) ∧ Stp R g g1 w wr) (fun _ i _ => n - (intOf i).toNat)
 case atStart => exact ⟨0,[],none,0,g1,cap1,ae,rfl,rfl,rfl,(fun i y h => eY),World.ownsRow_nil _ _ _ _,(fun b h => bG),fw,S2.out⟩
 case round =>
  obtain ⟨j,ys,aa,ac,g3,cap3,hj,rfl,rfl,hyl,hys,hrow,hab,hwr,hst⟩:=hrel;have HY:=hid hys;have HRW:=hid hrow;have HAB:=hid hab;have HWR:=hid hwr;have HST:=hid hst;clear hys hrow hab hwr hst W2 S2;have hlt : j < n:=ae
  ·obtain ⟨x,hx⟩ : ∃ x,xs[j]? = some x:=⟨_,aD ae⟩
   obtain ⟨b,off,rfl,hcell⟩ : ∃ b off,ha = some ⟨b,off,none⟩ ∧ ∀ (j : Nat) x,xs[j]? = some x → wr.cell? ⟨b,off + j * 2,none⟩ = some (.int .i64 x.1) ∧ wr.cell? ⟨b,off + j * 2 + 1,none⟩ = some (.slice x.2.1.1 x.2.1.2.1 x.2.1.2.2):=by
    exact dU
   have hcj:=hcell j x hx;have hbl:=block_lt_of_cell hcj.1;clear hcell;obtain ⟨v0,v1⟩:=hcj;have BN:=hid (ag wr (aW x.1 x.2.1.1 x.2.1.2.1 x.2.1.2.2))
   by_cases hjk : j < k
   ·skip
    have HC1:=hid (HE.out j x hx hjk ys (wr.alloc (aW x.1 x.2.1.1 x.2.1.2.1 x.2.1.2.2)) g3 cap3 aa ac hyl HY.out (HST.out.trans (Stp.of_below BN.out)) (HWR.out.later BN.out) (aA HRW.out (fun B hB => BN.out.block B (ax HRW.out hB))) HAB.out)
    exact Lv
   ·obtain rfl : j = k:=ae;obtain rfl : x = xk:=lJ
    have HC1:=hid (HN.out ys (wr.alloc (aW x.1 x.2.1.1 x.2.1.2.1 x.2.1.2.2)) g3 cap3 aa ac hyl HY.out (HST.out.trans (Stp.of_below BN.out)) (HWR.out.later BN.out) (aA HRW.out (fun B hB => BN.out.block B (ax HRW.out hB))) HAB.out)
    exact oa
theorem tO (R g cap : Nat) (bs : List Int) (ha : Option Addr) (n hc : Nat) (most : Int) (f : Value) (w : World) (h : Wr w R g cap bs) (hm : most < (n : Int)) :
  Calls Tryz.prog 144 #[cW R,.slice ha n hc,.int .i64 most,f] w (aJ R g 20 w):=by
 have hmc:=bg;have hcc:=bN;have HC:=hid (ei R g cap bs n most w h hm);clear h
 go_enter Tryz.func144,Tryz.ntmps144
 exact jo
abbrev SL:=Option Addr × Nat × Nat
abbrev DaM:=Int × SL × List Int
def yO (x : DaM) (y : Int × SL) : Prop:=y.1 = x.1 ∧ y.2.2.1 = x.2.2.length
def gG (ys : List (Int × SL)) (v : Int) : Bool:=match ys.getLast? with | none => false | some y => decide (v ≤ y.1 + (y.2.2.1 : Int))
theorem qT (B an ac : Nat) (pl : Int) (da : Option Addr) (dn dc : Nat) (w : World) (h0 : 0 < an) (h1 : an ≤ 100000) (hp0 : 0 ≤ pl) (hp : pl ≤ 1099511627776) (hd : dn ≤ 1099511627776) (hc0 : w.cell? ⟨B,(an - 1) * 2,none⟩ = some (.int .i64 pl)) (hc1 : w.cell? ⟨B,(an - 1) * 2 + 1,none⟩ = some (.slice da dn dc)) :
  Calls Tryz.prog 197 #[.slice (some ⟨B,0,none⟩) an ac] w fun e w' => e = .returned (.int .i64 (pl + dn)) ∧ Below w.heap.size w w':=by
 have BN:=hid (ag w (aW pl da dn dc));have hw : wrap64 (pl + dn) = pl + dn:=eu
 go_enter Tryz.func197,Tryz.ntmps197
 go_wp2_with fail;go_ret;exact ⟨rfl,BN.out⟩
section
variable (v p room : Int) (A C : Nat) (aa : Option Addr) (an ac : Nat) (ys : List (Int × SL)) (w : World)
theorem Af (hl : ys.length = an) (hrow : w.ownsRow 0 81 2 (.slice aa an ac) an (ys.flatMap ip)) (h0 : 0 < an) : ∃ B y,aa = some ⟨B,0,none⟩ ∧ ys.getLast? = some y ∧ w.cell? ⟨B,(an - 1) * 2,none⟩ = some (.int .i64 y.1) ∧ w.cell? ⟨B,(an - 1) * 2 + 1,none⟩ = some (.slice y.2.1 y.2.2.1 y.2.2.2):=by
 obtain ⟨y,hy⟩ : ∃ y,ys[an - 1]? = some y:=⟨_,aD ae⟩
 obtain ⟨B,hB,hc⟩:=iV (oc:=ip) (t:=0) (u:=.int .i64 y.1) (fun _ => rfl) hrow hy rfl
 obtain ⟨B',hB',hc'⟩:=iV (oc:=ip) (t:=1) (u:=.slice y.2.1 y.2.2.1 y.2.2.2) (fun _ => rfl) hrow hy rfl
 rw [hB] at hB'
 simp at hB'
 subst hB';refine ⟨B,y,hB,?_,hc,hc'⟩;rw [List.getLast?_eq_getElem?,hl];exact hy
theorem CM (hr : 0 ≤ room) (hr1 : room ≤ 1099511627776) (hv : room < v) (hA : w.cell? ⟨A,0,none⟩ = some (.int .i64 room)) :
  Calls Tryz.prog 196 #[.int .u64 v,.int .i64 p,.pointer (some ⟨A,0,none⟩),.pointer (some ⟨C,0,none⟩)] w (kM 17 w):=by
 have hw:=cV room hr ae;have d : decide (v ≤ room) = false:=aL
 go_enter Tryz.func196,Tryz.ntmps196
 go_wp2_with fail;refine (eF sN).mono ?_;exact pc
theorem wj (hr : 0 ≤ room) (hr1 : room ≤ 1099511627776) (hv0 : 0 ≤ v) (hv : v ≤ room) (hl : ys.length = an) (han : an ≤ 100000) (hys : ∀ y ∈ ys,0 ≤ y.1 ∧ y.1 ≤ 1099511627776 ∧ y.2.2.1 ≤ 1099511627776) (hrow : w.ownsRow 0 81 2 (.slice aa an ac) an (ys.flatMap ip)) (ht : gG ys v = false)
  (hA : w.cell? ⟨A,0,none⟩ = some (.int .i64 room)) (hC : w.cell? ⟨C,0,none⟩ = some (.slice aa an ac)) :
  Calls Tryz.prog 196 #[.int .u64 v,.int .i64 p,.pointer (some ⟨A,0,none⟩),.pointer (some ⟨C,0,none⟩)] w (kO w):=by
 have hw:=cV room hr ae;have hi:=i64_in v ae ae
 have d : decide (v ≤ room) = true:=by simp [hv]
 by_cases h0 : an = 0
 ·subst h0
  go_enter Tryz.func196,Tryz.ntmps196
  go_wp2_with fail;refine (cr sN).mono ?_;rintro e w1 ⟨rfl,rfl⟩;exact Ae
 ·obtain ⟨B,y,rfl,hy,hc0,hc1⟩:=Af aa an ac ys w hl hrow ae;have hyr:=hys y (List.mem_of_getLast? hy)
  have HBH:=hid (fun W (h0' : W.cell? ⟨B,(an - 1) * 2,none⟩ = some (.int .i64 y.1)) h1' => qT B an ac y.1 y.2.1 y.2.2.1 y.2.2.2 W ae han hyr.1 hyr.2.1 hyr.2.2 h0' h1')
  have hlast : y.1 + (y.2.2.1 : Int) < v:=by
   unfold gG at ht;rw [hy] at ht
   simpa using ht
  have hz : ((an : Int) == 0) = false:=aL
  go_enter Tryz.func196,Tryz.ntmps196
  go_wp2_with fail;refine (cr sN).mono ?_;rintro e w1 ⟨rfl,rfl⟩;go_wp2_with fail;refine (HBH.out _ hc0 hc1).mono ?_;rintro e w2 ⟨rfl,hb2⟩;have B2:=hid hb2;have dd : decide (y.1 + (y.2.2.1 : Int) < v) = true:=aL;clear hb2 HBH;go_wp2_with fail
  refine (cr (by first | rfl | exact dd)).mono ?_
  rintro e w1 ⟨rfl,rfl⟩;go_wp2_with fail;go_end0;exact ⟨rfl,B2.out⟩
theorem CK (hr : 0 ≤ room) (hr1 : room ≤ 1099511627776) (hv0 : 0 ≤ v) (hv : v ≤ room) (hl : ys.length = an) (han : an ≤ 100000) (hys : ∀ y ∈ ys,0 ≤ y.1 ∧ y.1 ≤ 1099511627776 ∧ y.2.2.1 ≤ 1099511627776) (hrow : w.ownsRow 0 81 2 (.slice aa an ac) an (ys.flatMap ip)) (ht : gG ys v = true)
  (hA : w.cell? ⟨A,0,none⟩ = some (.int .i64 room)) (hC : w.cell? ⟨C,0,none⟩ = some (.slice aa an ac)) :
  Calls Tryz.prog 196 #[.int .u64 v,.int .i64 p,.pointer (some ⟨A,0,none⟩),.pointer (some ⟨C,0,none⟩)] w (kM 18 w):=by
 have hw:=cV room hr ae;have hi:=i64_in v ae ae
 have d : decide (v ≤ room) = true:=by simp [hv]
 have h0 : 0 < an:=by
  rcases Nat.eq_zero_or_pos an with h | h
  ·have : ys = []:=List.eq_nil_of_length_eq_zero ae;subst this
   simp [gG] at ht
  ·exact h
 obtain ⟨B,y,rfl,hy,hc0,hc1⟩:=Af aa an ac ys w hl hrow ae;have hyr:=hys y (List.mem_of_getLast? hy)
 have HBH:=hid (fun W (h0' : W.cell? ⟨B,(an - 1) * 2,none⟩ = some (.int .i64 y.1)) h1' => qT B an ac y.1 y.2.1 y.2.2.1 y.2.2.2 W ae han hyr.1 hyr.2.1 hyr.2.2 h0' h1')
 have hlast : v ≤ y.1 + (y.2.2.1 : Int):=by
  unfold gG at ht;rw [hy] at ht
  simpa using ht
 have hz : ((an : Int) == 0) = false:=aL
 go_enter Tryz.func196,Tryz.ntmps196
 go_wp2_with fail;refine (cr sN).mono ?_;rintro e w1 ⟨rfl,rfl⟩;go_wp2_with fail;refine (HBH.out _ hc0 hc1).mono ?_;rintro e w2 ⟨rfl,hb2⟩;have B2:=hid hb2;have dd : decide (y.1 + (y.2.2.1 : Int) < v) = false:=aL;clear hb2 HBH;go_wp2_with fail
 refine (eF (by first | rfl | exact dd)).mono ?_
 rintro e w1 ⟨rfl,rfl⟩;exact ⟨rfl,⟨_,rfl⟩,B2.out⟩
end
theorem LU (w : World) (a : Option Addr) (n c : Nat) (zs : List Int) (h : Seg w a n c zs) : (convert 63 9 (.slice a n c)).run Tryz.prog w = .ok (.string (strOfNums zs)) w:=by
 rcases h.2.2.2.2 with h0 | ⟨b,off,rfl,hc⟩
 ·subst h0;have : zs = []:=List.eq_nil_of_length_eq_zero h.1;subst this
  cases a <;> rfl
 ·exact run_convert_bytes_arg w 63 5 Tryz.underlying63 Tryz.underlying5 b off n c zs h.1 hc 9 Tryz.underlying9
theorem p9 (zs : List Int) : (strOfNums zs).size = zs.length:=by
 show (strOfNums zs).data.size = _
 simp [strOfNums]
theorem wS (zs : List Int) (h : ∀ z ∈ zs,0 ≤ z ∧ z ≤ 255) : bE (strOfNums zs) = zs:=by
 unfold bE;rw [strOfNums_data,List.map_map]
 conv => rhs; rw [← List.map_id zs]
 apply List.map_congr_left
 intro z hz
 have:=h z hz
 simp only [Function.comp,id]
 have e : (UInt8.ofNat z.toNat).toNat = z.toNat:=by
  simp
  omega
 rw [e]; omega
theorem zM (s : ByteArray) (p : Int) (w : World) (h : s.size ≠ 0) : Calls Tryz.prog 198 #[.string s,.int .i64 p] w (kO w):=by
 have he : (!s.toList.isEmpty) = true:=by
  rw [cg]
  have : s.data.toList ≠ []:=by intro hh; apply h; rw [eN,hh]; rfl
  cases hl : s.data.toList with
  | nil => exact absurd hl this
  | cons a b => rfl
 go_enter Tryz.func198,Tryz.ntmps198
 go_wp2_with fail
 refine (cr (by first | rfl | exact he)).mono ?_
 rintro e w1 ⟨rfl,rfl⟩;go_wp2_with fail;go_end0;exact ⟨rfl,Below.refl _ _⟩
theorem DU (s : ByteArray) (p : Int) (w : World) (h : s.size = 0) : Calls Tryz.prog 198 #[.string s,.int .i64 p] w (kM 17 w):=by
 have he : (!s.toList.isEmpty) = false:=by
  rw [cg]
  have : s.data.toList = []:=List.eq_nil_of_length_eq_zero (by rw [← eN]; exact h)
  rw [this]; rfl
 go_enter Tryz.func198,Tryz.ntmps198
 go_wp2_with fail
 refine (eF (by first | rfl | exact he)).mono ?_
 exact pc
def mK (w : World) (pl room : Int) (da : Option Addr) (dn dc : Nat) (aa : Option Addr) (an ac : Nat) : World :=
 (((w.alloc (aW pl da dn dc)).alloc (.cells #[.slice aa an ac] 26)).alloc (bz room)).alloc (aW 0 none 0 0)
theorem lB (w : World) (pl room : Int) (da : Option Addr) (dn dc : Nat) (aa : Option Addr) (an ac : Nat) : Below w.heap.size w (mK w pl room da dn dc aa an ac) ∧ (mK w pl room da dn dc aa an ac).heap.size = w.heap.size + 1 + 1 + 1 + 1 ∧
  (mK w pl room da dn dc aa an ac).cell? ⟨w.heap.size,0,none⟩ = some (.int .i64 pl) ∧ (mK w pl room da dn dc aa an ac).cell? ⟨w.heap.size,1,none⟩ = some (.slice da dn dc) ∧
  (mK w pl room da dn dc aa an ac).cell? ⟨w.heap.size + 1,0,none⟩ = some (.slice aa an ac) ∧ (mK w pl room da dn dc aa an ac).cell? ⟨w.heap.size + 1 + 1,0,none⟩ = some (.int .i64 room) ∧
  (mK w pl room da dn dc aa an ac).heap[w.heap.size + 1 + 1 + 1]? = some (aW 0 none 0 0):=by
 unfold mK;refine ⟨((((Below.refl _ w).alloc (Nat.le_refl _) _).alloc ar _).alloc bM _).alloc bM _,ar,cE,cE,cE,cE,?_⟩
 have:=(MapKept.heap_alloc (((w.alloc (aW pl da dn dc)).alloc (.cells #[.slice aa an ac] 26)).alloc (bz room)) (aW 0 none 0 0)).1
 exact bX
theorem Seg.kept' {S : Nat → Prop} {w w' : World} {a : Option Addr} {n cap : Nat} {zs : List Int} (h : Seg w a n cap zs) (hk : aP S w w') (hS : ∀ b off c,nz n a = some ⟨b,off,c⟩ → ¬ S b) : Seg w' a n cap zs:=by
 exact ID
section
variable (R g cap : Nat) (bs : List Int) (pl room : Int) (da : Option Addr) (dn dc : Nat) (zs : List Int) (aa : Option Addr) (an ac : Nat) (ys : List (Int × SL)) (w : World)
theorem qB (h : Wr w R g cap bs) (x : Int) (hrow : w.ownsRow 0 81 2 (.slice aa an ac) an (ys.flatMap ip))
  (ht : ∀ W,Wr W R g cap bs → W.ownsRow 0 81 2 (.slice aa an ac) an (ys.flatMap ip) → W.cell? ⟨w.heap.size + 1 + 1,0,none⟩ = some (.int .i64 room) → W.cell? ⟨w.heap.size + 1,0,none⟩ = some (.slice aa an ac) →
   Calls Tryz.prog 319 #[.pointer (some ⟨R,0,none⟩),.int .u64 (IntKind.u64.wrap pl),.func (.func 196) #[] #[.pointer (some ⟨w.heap.size + 1 + 1,0,none⟩),.pointer (some ⟨w.heap.size + 1,0,none⟩)]] W (aJ R g x W)) :
  Calls Tryz.prog 146 #[cW R,.agg #[.int .i64 pl,.slice da dn dc],.slice aa an ac,.int .i64 room] w (aJ R g x w):=by
 have hmn:=d9;have hcn:=ib;obtain ⟨B0,z0,x0,x1,x2,x3,x4⟩:=lB w pl room da dn dc aa an ac;have HW : (((w.alloc (aW pl da dn dc)).alloc (.cells #[.slice aa an ac] 26)).alloc (bz room)).alloc (aW 0 none 0 0) = mK w pl room da dn dc aa an ac:=rfl;generalize mK w pl room da dn dc aa an ac = W1 at *
 have HT:=hid (ht W1 (h.later B0) (aA hrow (fun B hB => B0.block B (ax hrow hB))) x3 x2)
 have BW:=hid B0;clear ht h B0 hrow
 go_enter Tryz.func146,Tryz.ntmps146
 exact AE
theorem pA (h : Wr w R g cap bs) (hb : bs.length + 2000000 ≤ 1099511627776) (hr : 0 ≤ room) (hr1 : room ≤ 1000000) (hp0 : 0 ≤ pl) (hp : pl ≤ room) (hl : ys.length = an) (han : an ≤ 100000) (hys : ∀ y ∈ ys,0 ≤ y.1 ∧ y.1 ≤ 1099511627776 ∧ y.2.2.1 ≤ 1099511627776)
  (hrow : w.ownsRow 0 81 2 (.slice aa an ac) an (ys.flatMap ip)) (ht : gG ys pl = false) (hseg : Seg w da dn dc zs) (hne : ∀ b off c,nz dn da = some ⟨b,off,c⟩ → b ≠ R ∧ b ≠ g) (x : Int)
  (htx : ∀ W g1 cap1,Wr W R g1 cap1 (bs ++ au pl) → Calls Tryz.prog 323 #[.pointer (some ⟨R,0,none⟩),.string (strOfNums zs),.int .i64 (room - pl),.func (.func 198) #[] #[]] W (aJ R g1 x W)) :
  Calls Tryz.prog 146 #[cW R,.agg #[.int .i64 pl,.slice da dn dc],.slice aa an ac,.int .i64 room] w (aJ R g x w):=by
 have hmn:=d9;have hcn:=ib;have hmt:=dB;have hct:=dY;have hwp:=cV pl hp0 ae;have hip : wrap64 pl = pl:=eu;have hsub : wrap64 (room - pl) = room - pl:=eu;obtain ⟨B0,z0,x0,x1,x2,x3,x4⟩:=lB w pl room da dn dc aa an ac;have HW : (((w.alloc (aW pl da dn dc)).alloc (.cells #[.slice aa an ac] 26)).alloc (bz room)).alloc (aW 0 none 0 0) = mK w pl room da dn dc aa an ac:=rfl;have hRl:=h.lt;have hgl:=h.g_lt;have u1:=aC pl;generalize mK w pl room da dn dc aa an ac = W1 at *
 have HT:=hid (gb R g cap bs pl 196 #[.pointer (some ⟨w.heap.size + 1 + 1,0,none⟩),.pointer (some ⟨w.heap.size + 1,0,none⟩)] W1 (h.later B0) hp0 ae ae (fun _ _ => rfl)
  (wj pl _ room (w.heap.size + 1 + 1) (w.heap.size + 1) aa an ac ys W1 hr ae hp0 hp hl han hys (aA hrow (fun B hB => B0.block B (ax hrow hB))) ht x3 x2))
 have SG:=hid (hseg.later B0 (Nat.le_refl _));have BW:=hid B0;have HTX:=hid htx;clear h B0 hrow hseg htx
 go_enter Tryz.func146,Tryz.ntmps146
 go_wp2_with fail;refine HT.out.mono ?_;rintro e w2 ⟨rfl,g1,cap1,hw2,hs2⟩;have y0:=hs2.cell (b:=w.heap.size) x0 ae ae;have y1:=hs2.cell (b:=w.heap.size) x1 ae ae;have y3:=hs2.cell (b:=w.heap.size + 1 + 1) x3 ae ae
 have hconv:=LU w2 da dn dc zs (SG.out.kept' hs2.k (fun b off c h => yF))
 have S2:=hid ((Stp.of_below BW.out).trans hs2);have HX:=hid (HTX.out w2 g1 cap1 hw2);clear hs2 HT hw2 x0 x1 x2 x3 x4 HTX hmn hcn HW;exact AC
theorem wX (h : Wr w R g cap bs) (hb : bs.length + 2000000 ≤ 1099511627776) (hr : 0 ≤ room) (hr1 : room ≤ 1000000) (hp0 : 0 ≤ pl) (hp : pl ≤ room) (hl : ys.length = an) (han : an ≤ 100000) (hys : ∀ y ∈ ys,0 ≤ y.1 ∧ y.1 ≤ 1099511627776 ∧ y.2.2.1 ≤ 1099511627776)
  (hrow : w.ownsRow 0 81 2 (.slice aa an ac) an (ys.flatMap ip)) (ht : gG ys pl = false) (hseg : Seg w da dn dc zs) (hne : ∀ b off c,nz dn da = some ⟨b,off,c⟩ → b ≠ R ∧ b ≠ g) (hlen : (zs.length : Int) ≤ room - pl) (hz : zs.length ≠ 0) :
  Calls Tryz.prog 146 #[cW R,.agg #[.int .i64 pl,.slice da dn dc],.slice aa an ac,.int .i64 room] w fun e w' => ∃ y : Int × SL,e = .returned (MQ y) ∧ yO (pl,(da,dn,dc),zs) y ∧ ∃ g' cap',Wr w' R g' cap' (bs ++ (au pl ++ (au zs.length ++ zs))) ∧ Stp R g g' w w':=by
 have hmn:=d9;have hcn:=ib;have hmt:=dB;have hct:=dY;have hwp:=cV pl hp0 ae;have hip : wrap64 pl = pl:=eu;have hsub : wrap64 (room - pl) = room - pl:=eu;obtain ⟨B0,z0,x0,x1,x2,x3,x4⟩:=lB w pl room da dn dc aa an ac;have HW : (((w.alloc (aW pl da dn dc)).alloc (.cells #[.slice aa an ac] 26)).alloc (bz room)).alloc (aW 0 none 0 0) = mK w pl room da dn dc aa an ac:=rfl;have hRl:=h.lt;have hgl:=h.g_lt;have u1:=aC pl;have hss:=p9 zs;have HSB:=hid (wS zs hseg.2.2.2.1);generalize mK w pl room da dn dc aa an ac = W1 at *
 have HT:=hid (gb R g cap bs pl 196 #[.pointer (some ⟨w.heap.size + 1 + 1,0,none⟩),.pointer (some ⟨w.heap.size + 1,0,none⟩)] W1 (h.later B0) hp0 ae ae (fun _ _ => rfl)
  (wj pl _ room (w.heap.size + 1 + 1) (w.heap.size + 1) aa an ac ys W1 hr ae hp0 hp hl han hys (aA hrow (fun B hB => B0.block B (ax hrow hB))) ht x3 x2))
 have SG:=hid (hseg.later B0 (Nat.le_refl _));have BW:=hid B0;have HSZ:=hid hss;clear h B0 hrow hseg
 go_enter Tryz.func146,Tryz.ntmps146
 go_wp2_with fail;refine HT.out.mono ?_;rintro e w2 ⟨rfl,g1,cap1,hw2,hs2⟩;have y0:=hs2.cell (b:=w.heap.size) x0 ae ae;have y1:=hs2.cell (b:=w.heap.size) x1 ae ae;have y3:=hs2.cell (b:=w.heap.size + 1 + 1) x3 ae ae;have y4:=(hs2.block (b:=w.heap.size + 1 + 1 + 1) ae ae ae).trans x4;have n4 : w.heap.size + 1 + 1 + 1 ≠ g1:=hs2.ne ae ae
 have hconv:=LU w2 da dn dc zs (SG.out.kept' hs2.k (fun b off c h => yF))
 have S2:=hid ((Stp.of_below BW.out).trans hs2);have z2:=hs2.size
 have HX:=hid (dH R g1 cap1 (bs ++ au pl) (strOfNums zs) (room - pl) 198 #[] w2 hw2 ae ae aL (fun _ _ => rfl) (zM _ _ w2 ae))
 clear hs2 HT hw2 x0 x1 x2 x3 x4 hmn hcn HW hss;generalize strOfNums zs = sb at *;go_wp2_with fail;refine HX.out.mono ?_;rintro e w3 ⟨rfl,g2,cap2,hw3,hs3⟩
 obtain ⟨c3,W4,hrun,hseg4,hbl4,hsz4⟩:=qd w3 sb (by rw [HSZ.out]; omega)
 have q4:=(hs3.block (b:=w.heap.size + 1 + 1 + 1) ae ae n4).trans y4;have z3:=hs3.size;have q5:=(hbl4.block (w.heap.size + 1 + 1 + 1) ae).trans q4;have n5 : w.heap.size + 1 + 1 + 1 ≠ g2:=hs3.ne ae n4;obtain ⟨k0,k1,k2,k3⟩:=bU q5;have W4':=hid (hw3.later hbl4);have S4:=hid ((S2.out.trans hs3).trans (Stp.of_below hbl4));clear hw3 hs3 HX y0 y1 y3 y4 hseg4 hbl4 q4 hconv;go_wp2_with fail;refine bodyPost_ret (v:=MQ (pl,(some ⟨w3.heap.size,0,none⟩,sb.size,c3))) ?_ rfl ⟨(pl,(some ⟨w3.heap.size,0,none⟩,sb.size,c3)),rfl,⟨rfl,HSZ.out⟩,g2,cap2,?_,?_⟩
 ·exact fF
 ·have:=(W4'.out.set (b:=w.heap.size + 1 + 1 + 1) (o:=0) (v:=.int .i64 pl) ae n5).set (b:=w.heap.size + 1 + 1 + 1) (o:=1) (v:=.slice (some ⟨w3.heap.size,0,none⟩) sb.size c3) ae n5
  rw [HSB.out,HSZ.out] at this;rw [HSZ.out]
  simpa [List.append_assoc] using this
 ·exact (S4.out.set ae).set ae
def pS (room : Int) (ys : List (Int × SL)) (pl : Int) (n : Nat) : Int :=
 if pl < 0 ∨ room < pl then 17 else if gG ys pl = true then 18 else if room - pl < (n : Int) then 13 else if n = 0 then 17 else 0
theorem zC (h : Wr w R g cap bs) (hb : bs.length + 2000000 ≤ 1099511627776) (hr : 0 ≤ room) (hr1 : room ≤ 1000000) (hp0 : -9223372036854775808 ≤ pl) (hp : pl < 9223372036854775808) (hl : ys.length = an) (han : an ≤ 100000) (hys : ∀ y ∈ ys,0 ≤ y.1 ∧ y.1 ≤ 1099511627776 ∧ y.2.2.1 ≤ 1099511627776)
  (hrow : w.ownsRow 0 81 2 (.slice aa an ac) an (ys.flatMap ip)) (hseg : Seg w da dn dc zs) (hne : ∀ b off c,nz dn da = some ⟨b,off,c⟩ → b ≠ R ∧ b ≠ g) (hx : pS room ys pl zs.length ≠ 0) :
  Calls Tryz.prog 146 #[cW R,.agg #[.int .i64 pl,.slice da dn dc],.slice aa an ac,.int .i64 room] w (aJ R g (pS room ys pl zs.length) w):=by
 unfold pS at hx ⊢;have hss:=p9 zs
 by_cases c1 : pl < 0 ∨ room < pl
 ·rw [if_pos c1]
  have hw : room < IntKind.u64.wrap pl:=by
   by_cases h0 : 0 ≤ pl
   ·rw [cV pl h0 ae]; omega
   ·rw [vv pl hp0 ae]; omega
  exact qB R g cap bs pl room da dn dc aa an ac ys w h 17 hrow (fun W hW _ h2 _ => gM R g cap bs _ 196 _ 17 W hW (fun _ _ => rfl) (CM _ _ room _ _ W hr ae hw h2))
 rw [if_neg c1] at hx ⊢;have hwp:=cV pl ae ae
 by_cases c2 : gG ys pl = true
 ·rw [if_pos c2]
  exact qB R g cap bs pl room da dn dc aa an ac ys w h 18 hrow (fun W hW hrw h2 h3 => gM R g cap bs _ 196 _ 18 W hW (fun _ _ => rfl) (by rw [hwp]; exact CK pl _ room _ _ aa an ac ys W hr ae ae ae hl han hys hrw c2 h2 h3))
 rw [if_neg c2] at hx ⊢
 have c2' : gG ys pl = false:=by simpa using c2
 by_cases c3 : room - pl < (zs.length : Int)
 ·rw [if_pos c3]
  exact pA R g cap bs pl room da dn dc zs aa an ac ys w h hb hr hr1 ae ae hl han hys hrow c2' hseg hne 13 (fun W g1 cap1 hW => fK R g1 cap1 _ (strOfNums zs) (room - pl) _ W hW ae)
 rw [if_neg c3] at hx ⊢
 by_cases c4 : zs.length = 0
 ·rw [if_pos c4]
  exact pA R g cap bs pl room da dn dc zs aa an ac ys w h hb hr hr1 ae ae hl han hys hrow c2' hseg hne 17 (fun W g1 cap1 hW => eT R g1 cap1 _ (strOfNums zs) (room - pl) 198 #[] 17 W hW ae (fun _ _ => rfl) (DU _ _ W ae))
 ·rw [if_neg c4] at hx; exact absurd rfl hx
end
end Go.Proofs.YtheefojaplnnoaaGreatDoor

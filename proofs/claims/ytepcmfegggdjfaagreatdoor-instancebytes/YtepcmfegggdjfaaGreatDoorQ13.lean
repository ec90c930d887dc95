/-
  Texts Wh Lin Lfu.
-/
import Derived.RegionDies
import Derived.Test.YtepcmfegggdjfaaGreatDoorQ00
import Derived.Test.YtepcmfegggdjfaaGreatDoorQ05
import Derived.Test.YtepcmfegggdjfaaGreatDoorQ12
set_option linter.unusedVariables false
set_option maxRecDepth 100000
set_option maxHeartbeats 16000000
namespace Go.Proofs.YtepcmfegggdjfaaGreatDoor
open Go.RowKit
theorem glob139_15 (R g cap : Nat) (bs : List Int) (c v : Int) (mu : Bool) (w : World) (h : Wr w R g cap bs) (hl : isL c = false) :
  Calls Tryz.prog 107 #[cW R,.agg #[.int .u8 c,.bool mu,.int .u64 v]] w (Throws R g 15 w):=by
 have hmo:=meth_octet
 have hco:=enter320
 obtain ⟨B0,z0,x0,x1⟩:=w139_facts w c v mu
 have HW : (w.alloc (.cells #[.int .u8 c,.bool mu,.int .u64 v] 80)).alloc (.cells #[.int .u8 0,.bool false,.int .u64 0] 80) = W139 w c v mu:=rfl
 generalize W139 w c v mu = W1 at *
 have H1:=hid (octet320_no R g cap bs c 134 #[] 15 W1 (h.later B0) (fun _ _ => rfl) (ask186_no c _ W1 hl))
 have BW:=hid B0
 obtain ⟨a0,a1,a2,_,_,_⟩:=three_cells x0
 clear h B0
 go_enter Tryz.func107,Tryz.ntmps107
 go_wp2_with fail
 refine H1.out.mono ?_
 rintro e w2 ⟨⟨p,rfl⟩,hk⟩
 exact ⟨rfl,⟨p,rfl⟩,(kept_of BW.out).trans hk⟩
theorem glob139_17 (R g cap : Nat) (bs : List Int) (v : Int) (mu : Bool) (w : World) (h : Wr w R g cap bs) (hb : bs.length + 100 ≤ 1099511627776) (v0 : 0 ≤ v) (v1 : v < 18446744073709551616) (hv : ¬ v < 4294967296) :
  Calls Tryz.prog 107 #[cW R,.agg #[.int .u8 119,.bool mu,.int .u64 v]] w (Throws R g 17 w):=by
 have hmo:=meth_octet
 have hco:=enter320
 have hms:=meth_signed
 have hcs:=enter322
 have hno:=nil_octet
 have hns:=nil_signed
 obtain ⟨B0,z0,x0,x1⟩:=w139_facts w 119 v mu
 have HW : (w.alloc (.cells #[.int .u8 119,.bool mu,.int .u64 v] 80)).alloc (.cells #[.int .u8 0,.bool false,.int .u64 0] 80) = W139 w 119 v mu:=rfl
 have hRl:=h.lt
 have hgl:=h.g_lt
 generalize W139 w 119 v mu = W1 at *
 have H1:=hid (octet320_yes R g cap bs 119 134 #[] W1 (h.later B0) (by decide) (by decide) (by omega) (fun _ _ => rfl) (ask186_yes 119 _ W1 rfl))
 have BW:=hid B0
 obtain ⟨a0,a1,a2,_,_,_⟩:=three_cells x0
 clear h B0
 go_enter Tryz.func107,Tryz.ntmps107
 go_wp2_with fail
 refine H1.out.mono ?_
 rintro e w2 ⟨rfl,g1,cap1,hw2,hs2⟩
 have y0:=(hs2.block (b:=w.heap.size) (by omega) (by omega) (by omega)).trans x0
 have y1:=(hs2.block (b:=w.heap.size + 1) (by omega) (by omega) (by omega)).trans x1
 have n0 : w.heap.size ≠ g1:=hs2.ne (by omega) (by omega)
 have n1 : w.heap.size + 1 ≠ g1:=hs2.ne (by omega) (by omega)
 have S2:=hid ((Stp.of_below BW.out).trans hs2)
 have z2:=S2.out.size
 have z2':=hs2.size
 have gl2:=hw2.g_lt
 obtain ⟨w3,hw3⟩ : ∃ w3,w2.alloc (.cells #[.int .u8 119] 5) = w3:=⟨_,rfl⟩
 have B3 : Below w2.heap.size w2 w3:=by rw [← hw3]; exact below_new _ _
 have z3 : w3.heap.size = w2.heap.size + 1:=by rw [← hw3]; simp
 have l3 : w3.cell? ⟨w2.heap.size,0,none⟩ = some (.int .u8 119):=by rw [← hw3]; exact new_cell _ _ _
 have q0:=(B3.block w.heap.size (by omega)).trans y0
 have q1:=(B3.block (w.heap.size + 1) (by omega)).trans y1
 obtain ⟨b0,b1,b2,_,_,_⟩:=three_cells q0
 have HO2:=hid (octet320_yes R g1 cap1 (bs ++ [119]) (bit mu) 136 #[] w3.drew ((hw2.later B3).later (Below.refl _ _).drew) (bit_range mu).1 (bit_range mu).2 (by simp; omega) (fun _ _ => rfl) (ask189 mu _ w3.drew))
 have HF:=hid (flagB mu)
 have BB3:=hid B3
 clear hs2 hw2 H1 x0 x1 a0 a1 a2 y0 y1 B3 HW
 go_wp2_with fail
 go_region_held3 (fun W => W.cell? ⟨w.heap.size,1,none⟩ = some (.bool mu)) (assumption) (first
  | (go_at_call 135; refine (HF.out _).mono ?_; rintro e w' ⟨rfl,rfl⟩)
  | (go_at_call 204; refine HO2.out.mono ?_; rintro e w4 ⟨rfl,g2,cap2,hw4,hs4⟩; have hS' : w4.cell? ⟨w.heap.size,1,none⟩ = some (.bool mu):=hs4.cell b1 (by omega) n0; have W4:=hid hw4; have S4:=hid hs4; clear hw4 hs4))
 all_goals
  have f0:=(S4.out.block (b:=w.heap.size) (by simp; omega) (by omega) n0).trans q0
  have f1:=(S4.out.block (b:=w.heap.size + 1) (by simp; omega) (by omega) n1).trans q1
  have f2:=S4.out.cell (b:=w2.heap.size) l3 (by omega) (by omega)
  obtain ⟨d0,d1,d2,_,_,_⟩:=three_cells f0
  have m0 : w.heap.size ≠ g2:=S4.out.ne (by simp; omega) n0
  have m1 : w.heap.size + 1 ≠ g2:=S4.out.ne (by simp; omega) n1
  have m2 : w2.heap.size ≠ g2:=S4.out.ne (by simp; omega) (by omega)
  have z4 : w3.heap.size ≤ w4.heap.size:=S4.out.size
  have S4':=hid ((S2.out.trans (Stp.of_below BB3.out)).trans ((Stp.of_below ((Below.refl _ _).drew)).trans S4.out))
  have HWS:=hid (fun W => withSign190 119 v mu W v0 v1)
  clear S4 HO2 HF hS' q0 q1 b0 b1 b2 l3 hno hmo hco
  go_wp2_with fail
  have HSG:=hid (fun W (hW : Below w4.heap.size w4 W) => signed322_no R g2 cap2 (bs ++ [119] ++ [bit mu]) (sgn 119 v) 138 #[.pointer (some ⟨w2.heap.size,0,none⟩)] 17 W (W4.out.later hW) (fun _ _ => rfl) (ask191_no w2.heap.size v _ W v0 v1 ((hW.cell (by exact block_lt_of_cell f2)).trans f2) (by omega)))
  have HB4:=hid (fun (W5 : World) (hb : Below w4.heap.size w4.drew W5) => (Below.trans ((Below.refl w4.heap.size w4).drew) hb : Below w4.heap.size w4 W5))
  have HC4:=hid (fun (W5 : World) (hb : Below w4.heap.size w4 W5) => (⟨(hb.cell (by exact block_lt_of_cell d0)).trans d0,(hb.cell (by exact block_lt_of_cell d1)).trans d1,(hb.cell (by exact block_lt_of_cell d2)).trans d2⟩ : W5.cell? ⟨w.heap.size,0,none⟩ = some (.int .u8 119) ∧ W5.cell? ⟨w.heap.size,1,none⟩ = some (.bool mu) ∧ W5.cell? ⟨w.heap.size,2,none⟩ = some (.int .u64 v)))
  refine wp_region_held_drew (S:=(fun W => W.cell? ⟨w.heap.size,0,none⟩ = some (.int .u8 119) ∧ W.cell? ⟨w.heap.size,1,none⟩ = some (.bool mu) ∧ W.cell? ⟨w.heap.size,2,none⟩ = some (.int .u64 v))) (by kernel_rfl) ⟨d0,d1,d2⟩ (fun hHeld => ?_)
  refine tkH (i:=0) (v:=?_) rfl ?_ ?_
  rotate_left
  ·intro w h;(try dsimp only at h);go_simp;try with_reducible rfl
  try simp only [Act.put,sIB]
  refine tkH (i:=1) (v:=?_) rfl ?_ ?_
  rotate_left
  ·intro w h;(try dsimp only at h);go_simp;try with_reducible rfl
  try simp only [Act.put]
  refine tkH (i:=3) (v:=?_) rfl ?_ ?_
  rotate_left
  ·intro w h;(try dsimp only at h);go_simp;try with_reducible rfl
  try simp only [Act.put]
  refine tkH (i:=4) (v:=?_) rfl ?_ ?_
  rotate_left
  ·intro w h;(try dsimp only at h);go_simp;try with_reducible rfl
  try simp only [Act.put]
  refine wpAnyH_ready (rs:=[2,5]) (by kernel_rfl) (by simp) ?_
  refine AllReadyH.cons rfl (fun K hK => ?_) (AllReadyH.cons rfl (fun K hK => ?_) AllReadyH.nil)
  ·go_simp
   refine (HWS.out _).mono ?_
   rintro e w5 ⟨rfl,hb5⟩
   have hB5:=hid (HB4.out w5 hb5)
   clear hb5
   refine hK.out _ _ (HC4.out w5 hB5.out) (fun hHeld2 => ?_)
   clear hK K
   refine wpAnyH_ready (rs:=[5]) (by kernel_rfl) (by simp) ?_
   refine AllReadyH.cons rfl (fun K hK => ?_) AllReadyH.nil
   go_simp
   refine hK.out _ _ hHeld2 (fun hHeld3 => ?_)
   clear hK K
   refine tkH (i:=6) (v:=?_) rfl ?_ ?_
   rotate_left
   ·intro w h;(try dsimp only at h);go_simp;try with_reducible rfl
   try simp only [Act.put,sIB]
   refine wpAnyH_ready (rs:=[7]) (by kernel_rfl) (by simp) ?_
   refine AllReadyH.cons rfl (fun K hK => ?_) AllReadyH.nil
   go_simp
   refine (HSG.out _ hB5.out).mono ?_
   rintro e w6 ⟨⟨q,rfl⟩,hk6⟩
   exact ⟨rfl,⟨q,rfl⟩,(S4'.out.trans (Stp.of_below hB5.out)).throw hk6⟩
  ·go_simp
   refine hK.out _ _ hHeld (fun hHeld2 => ?_)
   clear hK K
   refine tkH (i:=6) (v:=?_) rfl ?_ ?_
   rotate_left
   ·intro w h;(try dsimp only at h);go_simp;try with_reducible rfl
   try simp only [Act.put,sIB]
   refine wpAnyH_ready (rs:=[2]) (by kernel_rfl) (by simp) ?_
   refine AllReadyH.cons rfl (fun K hK => ?_) AllReadyH.nil
   go_simp
   refine (HWS.out _).mono ?_
   rintro e w5 ⟨rfl,hb5⟩
   have hB5:=hid (HB4.out w5 hb5)
   clear hb5
   refine hK.out _ _ (HC4.out w5 hB5.out) (fun hHeld3 => ?_)
   clear hK K
   refine wpAnyH_ready (rs:=[7]) (by kernel_rfl) (by simp) ?_
   refine AllReadyH.cons rfl (fun K hK => ?_) AllReadyH.nil
   go_simp
   refine (HSG.out _ hB5.out).mono ?_
   rintro e w6 ⟨⟨q,rfl⟩,hk6⟩
   exact ⟨rfl,⟨q,rfl⟩,(S4'.out.trans (Stp.of_below hB5.out)).throw hk6⟩
theorem inf75 : ∃ i,Tryz.prog.info? 82 = some i ∧ i.zero = some (.agg #[.int .u8 0,.int .i64 0,.slice none 0 0]) ∧ i.size = 3 ∧ i.bytes = 40:=by
 have h : (Tryz.prog.info? 82).map (fun i => (i.zero,i.size,i.bytes)) = some (some (.agg #[.int .u8 0,.int .i64 0,.slice none 0 0]),3,40):=by kernel_rfl
 cases hi : Tryz.prog.info? 82 with
 | none => rw [hi] at h; cases h
 | some i => rw [hi] at h; simp at h; exact ⟨i,rfl,h.1,h.2.1,h.2.2⟩
def ocIn (y : (Int × Int × (Option Addr × Nat × Nat))) : List Value:=[.int .u8 y.1,.int .i64 y.2.1,.slice y.2.2.1 y.2.2.2.1 y.2.2.2.2]
abbrev ivIn (x : (Int × Int × (Option Addr × Nat × Nat) × List Int)) : Value:=.agg #[.int .u8 x.1,.int .i64 x.2.1,.slice x.2.2.1.1 x.2.2.1.2.1 x.2.2.1.2.2]
abbrev ovIn (y : (Int × Int × (Option Addr × Nat × Nat))) : Value:=.agg #[.int .u8 y.1,.int .i64 y.2.1,.slice y.2.2.1 y.2.2.2.1 y.2.2.2.2]
def AtIn (w : World) (a : Option Addr) (n : Nat) (xs : List (Int × Int × (Option Addr × Nat × Nat) × List Int)) : Prop :=
 xs.length = n ∧ (n = 0 ∨ ∃ b off,a = some ⟨b,off,none⟩ ∧ ∀ (j : Nat) x,xs[j]? = some x → w.cell? ⟨b,off + j * 3,none⟩ = some (.int .u8 x.1) ∧ w.cell? ⟨b,off + j * 3 + 1,none⟩ = some (.int .i64 x.2.1) ∧ w.cell? ⟨b,off + j * 3 + 2,none⟩ = some (.slice x.2.2.1.1 x.2.2.1.2.1 x.2.2.1.2.2))
theorem AtIn.kept {S : Nat → Prop} {w w' : World} {a : Option Addr} {n : Nat} {xs : List (Int × Int × (Option Addr × Nat × Nat) × List Int)} (h : AtIn w a n xs) (hk : Kept S w w') (hS : ∀ b off c,nz n a = some ⟨b,off,c⟩ → ¬ S b) : AtIn w' a n xs:=by
 refine ⟨h.1,h.2.imp id ?_⟩
 rintro ⟨b,off,ha,hc⟩
 refine ⟨b,off,ha,fun j x hj => ?_⟩
 have ha:=nz_of (n:=n) (by have:=h.1; have:=(List.getElem?_eq_some_iff.1 hj).1; omega) ha
 have:=hc j x hj
 exact ⟨hk.cell this.1 (hS _ _ _ ha),hk.cell this.2.1 (hS _ _ _ ha),hk.cell this.2.2 (hS _ _ _ ha)⟩
theorem new_cellsIn (w : World) (y : (Int × Int × (Option Addr × Nat × Nat))) : ∀ j u,(ocIn y)[j]? = some u → (w.alloc (.cells #[.int .u8 y.1,.int .i64 y.2.1,.slice y.2.2.1 y.2.2.2.1 y.2.2.2.2] 82)).cell? ((⟨w.heap.size,0,none⟩ : Addr).add j) = some u:=by
 intro j u hj
 have hlt:=lt_of_get hj
 have hl : (ocIn y).length = 3:=rfl
 rw [hl] at hlt
 have hadd : (⟨w.heap.size,0,none⟩ : Addr).add j = ⟨w.heap.size,j,none⟩:=by unfold Addr.add; split <;> simp_all
 rw [hadd]
 have hb:=(MapKept.heap_alloc w (.cells #[.int .u8 y.1,.int .i64 y.2.1,.slice y.2.2.1 y.2.2.2.1 y.2.2.2.2] 82)).1
 simp only [World.cell?,hb]
 simpa [ocIn] using hj
theorem one_cellsIn (y : (Int × Int × (Option Addr × Nat × Nat))) : ∀ u ∈ ocIn y,u.oneCell' = true:=by
 intro u hu
 simp [ocIn] at hu
 rcases hu with rfl | rfl | rfl <;> rfl
def EachIn (R g : Nat) (w : World) (K : Nat) (cs : Array Value) (bs : List Int) (n : Nat) (xs : List (Int × Int × (Option Addr × Nat × Nat) × List Int)) (enc : (Int × Int × (Option Addr × Nat × Nat) × List Int) → List Int) (Ok : (Int × Int × (Option Addr × Nat × Nat) × List Int) → (Int × Int × (Option Addr × Nat × Nat)) → Prop) (j : Nat) (x : (Int × Int × (Option Addr × Nat × Nat) × List Int)) : Prop :=
 ∀ (ys : List (Int × Int × (Option Addr × Nat × Nat))) (W : World) (g1 cap1 : Nat) (aa : Option Addr) (ac : Nat),ys.length = j → (∀ (i : Nat) y,ys[i]? = some y → ∃ x',xs[i]? = some x' ∧ Ok x' y) → Stp R g g1 w W → Wr W R g1 cap1 (bs ++ uvar n ++ (xs.take j).flatMap enc) →
  W.ownsRow 0 82 3 (.slice aa j ac) j (ys.flatMap ocIn) → (∀ b,aa = some b → w.heap.size ≤ b.block ∧ b.block ≠ g1) →
  Calls Tryz.prog K (#[ivIn x,.slice aa j ac] ++ cs) W (fun e w' => ∃ y,e = .returned (ovIn y) ∧ Ok x y ∧ ∃ g' cap',Wr w' R g' cap' (bs ++ uvar n ++ (xs.take j).flatMap enc ++ enc x) ∧ Stp R g1 g' W w')
def EachNoIn (R g : Nat) (w : World) (K : Nat) (cs : Array Value) (bs : List Int) (n : Nat) (xs : List (Int × Int × (Option Addr × Nat × Nat) × List Int)) (enc : (Int × Int × (Option Addr × Nat × Nat) × List Int) → List Int) (Ok : (Int × Int × (Option Addr × Nat × Nat) × List Int) → (Int × Int × (Option Addr × Nat × Nat)) → Prop) (j : Nat) (x : (Int × Int × (Option Addr × Nat × Nat) × List Int)) (er : Int) : Prop :=
 ∀ (ys : List (Int × Int × (Option Addr × Nat × Nat))) (W : World) (g1 cap1 : Nat) (aa : Option Addr) (ac : Nat),ys.length = j → (∀ (i : Nat) y,ys[i]? = some y → ∃ x',xs[i]? = some x' ∧ Ok x' y) → Stp R g g1 w W → Wr W R g1 cap1 (bs ++ uvar n ++ (xs.take j).flatMap enc) →
  W.ownsRow 0 82 3 (.slice aa j ac) j (ys.flatMap ocIn) → (∀ b,aa = some b → w.heap.size ≤ b.block ∧ b.block ≠ g1) →
  Calls Tryz.prog K (#[ivIn x,.slice aa j ac] ++ cs) W (Throws R g1 er W)
theorem list194_yes (R g cap : Nat) (bs : List Int) (ha : Option Addr) (n hc : Nat) (most : Int) (K : Nat) (cs : Array Value) (w : World) (xs : List (Int × Int × (Option Addr × Nat × Nat) × List Int)) (enc : (Int × Int × (Option Addr × Nat × Nat) × List Int) → List Int) (Ok : (Int × Int × (Option Addr × Nat × Nat) × List Int) → (Int × Int × (Option Addr × Nat × Nat)) → Prop) (M : Nat)
  (h : Wr w R g cap bs) (hn : n ≤ 100000) (hm : (n : Int) ≤ most) (hmem : AtIn w ha n xs) (hne : ∀ b off c,nz n ha = some ⟨b,off,c⟩ → b ≠ R ∧ b ≠ g)
  (hK : ∀ args w,(callFunc K args).run Tryz.prog w = .ok (.enter K args) w) (hlen : ∀ (j : Nat) x,xs[j]? = some x → (enc x).length ≤ M) (hM : M ≤ 1000000) (hb : bs.length + 200000000000 ≤ 1099511627776)
  (heach : ∀ (j : Nat) x,xs[j]? = some x → EachIn R g w K cs bs n xs enc Ok j x) :
  Calls Tryz.prog 141 #[cW R,.slice ha n hc,.int .i64 most,.func (.func K) #[] cs] w fun e w' => ∃ (aa : Option Addr) (ac : Nat) (ys : List (Int × Int × (Option Addr × Nat × Nat))),e = .returned (.slice aa n ac) ∧ ys.length = n ∧ (∀ (i : Nat) y,ys[i]? = some y → ∃ x,xs[i]? = some x ∧ Ok x y) ∧
   w'.ownsRow 0 82 3 (.slice aa n ac) n (ys.flatMap ocIn) ∧ ∃ g' cap',(∀ b,aa = some b → w.heap.size ≤ b.block ∧ b.block ≠ g') ∧ Wr w' R g' cap' (bs ++ uvar n ++ xs.flatMap enc) ∧ Stp R g g' w w':=by
 have hmc:=meth_count
 have hcc:=enter317
 have HC:=hid (count317_yes R g cap bs n most w h hm (by omega) (by omega))
 have hRl:=h.lt
 have hgl:=h.g_lt
 have hxl:=hmem.1
 have HM:=hid hmem
 have HNE:=hid hne
 have HE:=hid heach
 obtain ⟨i0,hi,hz0,hz1,hz2⟩:=inf75
 clear h hmem heach hne
 go_enter Tryz.func141,Tryz.ntmps141
 go_wp2_with fail
 refine HC.out.mono ?_
 rintro e w2 ⟨rfl,g1,cap1,hw2,hs2⟩
 have W2:=hid hw2
 have S2:=hid hs2
 clear hw2 hs2 HC hmc hcc
 go_wp2_with fail
 go_loopw [9,17] (fun o i wr => ∃ (j : Nat) (ys : List (Int × Int × (Option Addr × Nat × Nat))) (aa : Option Addr) (ac g1 cap1 : Nat),j ≤ n ∧ i = .int .i64 j ∧ o = .slice aa j ac ∧ ys.length = j ∧ (∀ (i : Nat) y,ys[i]? = some y → ∃ x,xs[i]? = some x ∧ Ok x y) ∧
   wr.ownsRow 0 82 3 (.slice aa j ac) j (ys.flatMap ocIn) ∧ (∀ b,aa = some b → w.heap.size ≤ b.block ∧ b.block ≠ g1) ∧ Wr wr R g1 cap1 (bs ++ uvar n ++ (xs.take j).flatMap enc) ∧ Stp R g g1 w wr) (fun _ i _ => n - (intOf i).toNat)
 case atStart => exact ⟨0,[],none,0,g1,cap1,by omega,rfl,rfl,rfl,(fun i y h => by simp at h),World.ownsRow_nil _ _ _ _,(fun b h => by cases h),by simpa using W2.out,S2.out⟩
 case round =>
  obtain ⟨j,ys,aa,ac,g3,cap3,hj,rfl,rfl,hyl,hys,hrow,hab,hwr,hst⟩:=hrel
  have HY:=hid hys
  have HRW:=hid hrow
  have HAB:=hid hab
  have HWR:=hid hwr
  have HST:=hid hst
  clear hys hrow hab hwr hst W2 S2
  by_cases hlt : j < n
  ·obtain ⟨x,hx⟩ : ∃ x,xs[j]? = some x:=⟨_,List.getElem?_eq_getElem (by omega)⟩
   obtain ⟨b,off,rfl,hcell⟩ : ∃ b off,ha = some ⟨b,off,none⟩ ∧ ∀ (j : Nat) x,xs[j]? = some x → wr.cell? ⟨b,off + j * 3,none⟩ = some (.int .u8 x.1) ∧ wr.cell? ⟨b,off + j * 3 + 1,none⟩ = some (.int .i64 x.2.1) ∧ wr.cell? ⟨b,off + j * 3 + 2,none⟩ = some (.slice x.2.2.1.1 x.2.2.1.2.1 x.2.2.1.2.2):=by
    rcases (HM.out.kept HST.out.k (fun b off c h => by have:=HNE.out b off c h; simp; omega)).2 with h0 | h
    ·omega
    ·exact h
   have hcj:=hcell j x hx
   have hbl:=block_lt_of_cell hcj.1
   clear hcell
   obtain ⟨v0,v1,v2⟩:=hcj
   have BN:=hid (below_new wr (.cells #[.int .u8 x.1,.int .i64 x.2.1,.slice x.2.2.1.1 x.2.2.1.2.1 x.2.2.1.2.2] 82))
   have HC1:=hid (HE.out j x hx ys (wr.alloc (.cells #[.int .u8 x.1,.int .i64 x.2.1,.slice x.2.2.1.1 x.2.2.1.2.1 x.2.2.1.2.2] 82)) g3 cap3 aa ac hyl HY.out (HST.out.trans (Stp.of_below BN.out)) (HWR.out.later BN.out) (ownS_keep HRW.out (fun B hB => BN.out.block B (lt_of_ownS HRW.out hB))) HAB.out)
   go_wp2_with fail
   generalize wr.alloc (.cells #[.int .u8 x.1,.int .i64 x.2.1,.slice x.2.2.1.1 x.2.2.1.2.1 x.2.2.1.2.2] 82) = W at *
   have hszW:=BN.out.size
   refine HC1.out.mono ?_
   rintro e w5 ⟨y,rfl,hok,g4,cap4,hw5,hs5⟩
   have hgr : g3 < wr.heap.size:=HWR.out.g_lt
   have hRr : R < wr.heap.size:=HWR.out.lt
   have row5 : w5.ownsRow 0 82 3 (.slice aa j ac) j (ys.flatMap ocIn):=ownS_keep HRW.out (fun B hB => by
    have h1:=lt_of_ownS HRW.out hB
    have h2 : ∃ a,aa = some a ∧ a.block = B:=own_addr hB
    obtain ⟨a,ha1,ha2⟩:=h2
    have h3:=HAB.out a ha1
    have h4:=HST.out.size
    exact (hs5.block (b:=B) (by omega) (by omega) (by omega)).trans (BN.out.block B h1))
   have gg4:=hw5.g_lt
   have hab5 : ∀ b,aa = some b → b.block ≠ g4 ∧ b.block < w5.heap.size:=fun a ha1 => by
    have h3:=HAB.out a ha1
    have h1 : a.block < wr.heap.size:=lt_of_ownS HRW.out (own_addr' HRW.out ha1)
    exact ⟨hs5.ne (by omega) h3.2,Nat.lt_of_lt_of_le h1 (Nat.le_trans hszW hs5.size)⟩
   have W5:=hid hw5
   have S5:=hid (HST.out.trans ((Stp.of_below BN.out).trans hs5))
   have O5:=hid hok
   have BN5:=hid (below_new w5 (.cells #[.int .u8 y.1,.int .i64 y.2.1,.slice y.2.2.1 y.2.2.2.1 y.2.2.2.2] 82))
   have R6:=hid (ownS_keep (w':=w5.alloc (.cells #[.int .u8 y.1,.int .i64 y.2.1,.slice y.2.2.1 y.2.2.2.1 y.2.2.2.2] 82)) row5 (fun B hB => BN5.out.block B (lt_of_ownS row5 hB)))
   have HAB5:=hid hab5
   have NC:=hid (new_cellsIn w5 y)
   have hz6 : (w5.alloc (.cells #[.int .u8 y.1,.int .i64 y.2.1,.slice y.2.2.1 y.2.2.2.1 y.2.2.2.2] 82)).heap.size = w5.heap.size + 1:=by simp
   clear hw5 hs5 row5 hab5 HC1 hok
   go_wp2_with (at_builtin; (refine app_rows _ rfl (.tmp 28) (.tmp 33) 59 rfl 82 i0 _ 3 40 Tryz.underlying59 hi hz0 hz1 hz2 rfl (by decide) _ j _ rfl R6.out ⟨w5.heap.size,0,none⟩ 1 1 (ocIn y) rfl rfl NC.out (one_cellsIn y) (by omega) (by unfold maxLen; omega) (by omega) ?_; intro B cap7 w7 hrow7 hor7; have R7:=hid hrow7; have OR7:=hid hor7; clear hrow7 hor7))
   generalize w5.alloc (.cells #[.int .u8 y.1,.int .i64 y.2.1,.slice y.2.2.1 y.2.2.2.1 y.2.2.2.2] 82) = W6 at *
   have hBn : w.heap.size ≤ B ∧ B ≠ g4 ∧ Kept (fun k => k = B) W6 w7:=by
    rcases OR7.out with ⟨h1,h2⟩ | ⟨h1,h2⟩
    ·have h1' : aa = some ⟨B,0,none⟩:=(Value.slice.inj h1).1
     exact ⟨(HAB.out _ h1').1,(HAB5.out _ h1').1,h2⟩
    ·have:=S5.out.size
     exact ⟨by omega,by omega,h2.mono (fun k hk => hk.elim)⟩
   have hRw:=S5.out.size
   go_roundw
   ·refine ⟨j + 1,ys ++ [y],some ⟨B,0,none⟩,cap7,g4,cap4,by omega,rfl,rfl,by simp [hyl],?_,?_,?_,?_,?_⟩
    ·intro i y' hi'
     by_cases hij : i < ys.length
     ·rw [List.getElem?_append_left hij] at hi'
      exact HY.out i y' hi'
     ·rw [List.getElem?_append_right (by omega)] at hi'
      have hi0 : i - ys.length = 0:=by
       rcases Nat.eq_zero_or_pos (i - ys.length) with h | h
       ·exact h
       ·rw [List.getElem?_eq_none (by simp; omega)] at hi'; cases hi'
      rw [hi0] at hi'
      simp at hi'
      subst hi'
      obtain rfl : i = j:=by omega
      exact ⟨x,hx,O5.out⟩
    ·have:=R7.out
     simpa [RowS] using this
    ·intro b' hb'
     simp at hb'
     subst hb'
     exact ⟨hBn.1,hBn.2.1⟩
    ·have:=(W5.out.later BN5.out).kept hBn.2.2 (by omega) (Ne.symm hBn.2.1)
     rw [take_flat enc hx]
     simpa [List.append_assoc] using this
    ·exact ⟨(S5.out.k.trans (kept_of BN5.out)).then hBn.2.2 (fun k hk hkB => by have:=hBn.1; omega),S5.out.m⟩
   ·simp [intOf]; omega
  ·obtain rfl : j = n:=by omega
   have hxs : xs.take j = xs:=List.take_of_length_le (by omega)
   go_wp2_with fail
   go_ret
   refine ⟨aa,ac,ys,rfl,hyl,HY.out,HRW.out,g3,cap3,HAB.out,?_,HST.out⟩
   rw [← hxs]
   exact HWR.out
theorem list194_no (R g cap : Nat) (bs : List Int) (ha : Option Addr) (n hc : Nat) (most : Int) (K : Nat) (cs : Array Value) (w : World) (xs : List (Int × Int × (Option Addr × Nat × Nat) × List Int)) (enc : (Int × Int × (Option Addr × Nat × Nat) × List Int) → List Int) (Ok : (Int × Int × (Option Addr × Nat × Nat) × List Int) → (Int × Int × (Option Addr × Nat × Nat)) → Prop) (M : Nat)
  (h : Wr w R g cap bs) (hn : n ≤ 100000) (hm : (n : Int) ≤ most) (hmem : AtIn w ha n xs) (hne : ∀ b off c,nz n ha = some ⟨b,off,c⟩ → b ≠ R ∧ b ≠ g)
  (hK : ∀ args w,(callFunc K args).run Tryz.prog w = .ok (.enter K args) w) (hlen : ∀ (j : Nat) x,xs[j]? = some x → (enc x).length ≤ M) (hM : M ≤ 1000000) (hb : bs.length + 200000000000 ≤ 1099511627776)
  (k : Nat) (xk : (Int × Int × (Option Addr × Nat × Nat) × List Int)) (er : Int) (hk : xs[k]? = some xk) (heach : ∀ (j : Nat) x,xs[j]? = some x → j < k → EachIn R g w K cs bs n xs enc Ok j x) (hno : EachNoIn R g w K cs bs n xs enc Ok k xk er) :
  Calls Tryz.prog 141 #[cW R,.slice ha n hc,.int .i64 most,.func (.func K) #[] cs] w (Throws R g er w):=by
 have hkn:=lt_of_get hk
 have hmc:=meth_count
 have hcc:=enter317
 have HC:=hid (count317_yes R g cap bs n most w h hm (by omega) (by omega))
 have hRl:=h.lt
 have hgl:=h.g_lt
 have hxl:=hmem.1
 have HM:=hid hmem
 have HNE:=hid hne
 have HE:=hid heach
 have HN:=hid hno
 obtain ⟨i0,hi,hz0,hz1,hz2⟩:=inf75
 clear h hmem heach hne hno
 go_enter Tryz.func141,Tryz.ntmps141
 go_wp2_with fail
 refine HC.out.mono ?_
 rintro e w2 ⟨rfl,g1,cap1,hw2,hs2⟩
 have W2:=hid hw2
 have S2:=hid hs2
 clear hw2 hs2 HC hmc hcc
 go_wp2_with fail
 go_loopw [9,17] (fun o i wr => ∃ (j : Nat) (ys : List (Int × Int × (Option Addr × Nat × Nat))) (aa : Option Addr) (ac g1 cap1 : Nat),j ≤ k ∧ i = .int .i64 j ∧ o = .slice aa j ac ∧ ys.length = j ∧ (∀ (i : Nat) y,ys[i]? = some y → ∃ x,xs[i]? = some x ∧ Ok x y) ∧
   wr.ownsRow 0 82 3 (.slice aa j ac) j (ys.flatMap ocIn) ∧ (∀ b,aa = some b → w.heap.size ≤ b.block ∧ b.block ≠ g1) ∧ Wr wr R g1 cap1 (bs ++ uvar n ++ (xs.take j).flatMap enc) ∧ Stp R g g1 w wr) (fun _ i _ => n - (intOf i).toNat)
 case atStart => exact ⟨0,[],none,0,g1,cap1,by omega,rfl,rfl,rfl,(fun i y h => by simp at h),World.ownsRow_nil _ _ _ _,(fun b h => by cases h),by simpa using W2.out,S2.out⟩
 case round =>
  obtain ⟨j,ys,aa,ac,g3,cap3,hj,rfl,rfl,hyl,hys,hrow,hab,hwr,hst⟩:=hrel
  have HY:=hid hys
  have HRW:=hid hrow
  have HAB:=hid hab
  have HWR:=hid hwr
  have HST:=hid hst
  clear hys hrow hab hwr hst W2 S2
  have hlt : j < n:=by omega
  ·obtain ⟨x,hx⟩ : ∃ x,xs[j]? = some x:=⟨_,List.getElem?_eq_getElem (by omega)⟩
   obtain ⟨b,off,rfl,hcell⟩ : ∃ b off,ha = some ⟨b,off,none⟩ ∧ ∀ (j : Nat) x,xs[j]? = some x → wr.cell? ⟨b,off + j * 3,none⟩ = some (.int .u8 x.1) ∧ wr.cell? ⟨b,off + j * 3 + 1,none⟩ = some (.int .i64 x.2.1) ∧ wr.cell? ⟨b,off + j * 3 + 2,none⟩ = some (.slice x.2.2.1.1 x.2.2.1.2.1 x.2.2.1.2.2):=by
    rcases (HM.out.kept HST.out.k (fun b off c h => by have:=HNE.out b off c h; simp; omega)).2 with h0 | h
    ·omega
    ·exact h
   have hcj:=hcell j x hx
   have hbl:=block_lt_of_cell hcj.1
   clear hcell
   obtain ⟨v0,v1,v2⟩:=hcj
   have BN:=hid (below_new wr (.cells #[.int .u8 x.1,.int .i64 x.2.1,.slice x.2.2.1.1 x.2.2.1.2.1 x.2.2.1.2.2] 82))
   by_cases hjk : j < k
   ·skip
    have HC1:=hid (HE.out j x hx hjk ys (wr.alloc (.cells #[.int .u8 x.1,.int .i64 x.2.1,.slice x.2.2.1.1 x.2.2.1.2.1 x.2.2.1.2.2] 82)) g3 cap3 aa ac hyl HY.out (HST.out.trans (Stp.of_below BN.out)) (HWR.out.later BN.out) (ownS_keep HRW.out (fun B hB => BN.out.block B (lt_of_ownS HRW.out hB))) HAB.out)
    go_wp2_with fail
    generalize wr.alloc (.cells #[.int .u8 x.1,.int .i64 x.2.1,.slice x.2.2.1.1 x.2.2.1.2.1 x.2.2.1.2.2] 82) = W at *
    have hszW:=BN.out.size
    refine HC1.out.mono ?_
    rintro e w5 ⟨y,rfl,hok,g4,cap4,hw5,hs5⟩
    have hgr : g3 < wr.heap.size:=HWR.out.g_lt
    have hRr : R < wr.heap.size:=HWR.out.lt
    have row5 : w5.ownsRow 0 82 3 (.slice aa j ac) j (ys.flatMap ocIn):=ownS_keep HRW.out (fun B hB => by
     have h1:=lt_of_ownS HRW.out hB
     have h2 : ∃ a,aa = some a ∧ a.block = B:=own_addr hB
     obtain ⟨a,ha1,ha2⟩:=h2
     have h3:=HAB.out a ha1
     have h4:=HST.out.size
     exact (hs5.block (b:=B) (by omega) (by omega) (by omega)).trans (BN.out.block B h1))
    have gg4:=hw5.g_lt
    have hab5 : ∀ b,aa = some b → b.block ≠ g4 ∧ b.block < w5.heap.size:=fun a ha1 => by
     have h3:=HAB.out a ha1
     have h1 : a.block < wr.heap.size:=lt_of_ownS HRW.out (own_addr' HRW.out ha1)
     exact ⟨hs5.ne (by omega) h3.2,Nat.lt_of_lt_of_le h1 (Nat.le_trans hszW hs5.size)⟩
    have W5:=hid hw5
    have S5:=hid (HST.out.trans ((Stp.of_below BN.out).trans hs5))
    have O5:=hid hok
    have BN5:=hid (below_new w5 (.cells #[.int .u8 y.1,.int .i64 y.2.1,.slice y.2.2.1 y.2.2.2.1 y.2.2.2.2] 82))
    have R6:=hid (ownS_keep (w':=w5.alloc (.cells #[.int .u8 y.1,.int .i64 y.2.1,.slice y.2.2.1 y.2.2.2.1 y.2.2.2.2] 82)) row5 (fun B hB => BN5.out.block B (lt_of_ownS row5 hB)))
    have HAB5:=hid hab5
    have NC:=hid (new_cellsIn w5 y)
    have hz6 : (w5.alloc (.cells #[.int .u8 y.1,.int .i64 y.2.1,.slice y.2.2.1 y.2.2.2.1 y.2.2.2.2] 82)).heap.size = w5.heap.size + 1:=by simp
    clear hw5 hs5 row5 hab5 HC1 hok
    go_wp2_with (at_builtin; (refine app_rows _ rfl (.tmp 28) (.tmp 33) 59 rfl 82 i0 _ 3 40 Tryz.underlying59 hi hz0 hz1 hz2 rfl (by decide) _ j _ rfl R6.out ⟨w5.heap.size,0,none⟩ 1 1 (ocIn y) rfl rfl NC.out (one_cellsIn y) (by omega) (by unfold maxLen; omega) (by omega) ?_; intro B cap7 w7 hrow7 hor7; have R7:=hid hrow7; have OR7:=hid hor7; clear hrow7 hor7))
    generalize w5.alloc (.cells #[.int .u8 y.1,.int .i64 y.2.1,.slice y.2.2.1 y.2.2.2.1 y.2.2.2.2] 82) = W6 at *
    have hBn : w.heap.size ≤ B ∧ B ≠ g4 ∧ Kept (fun k => k = B) W6 w7:=by
     rcases OR7.out with ⟨h1,h2⟩ | ⟨h1,h2⟩
     ·have h1' : aa = some ⟨B,0,none⟩:=(Value.slice.inj h1).1
      exact ⟨(HAB.out _ h1').1,(HAB5.out _ h1').1,h2⟩
     ·have:=S5.out.size
      exact ⟨by omega,by omega,h2.mono (fun k hk => hk.elim)⟩
    have hRw:=S5.out.size
    go_roundw
    ·refine ⟨j + 1,ys ++ [y],some ⟨B,0,none⟩,cap7,g4,cap4,by omega,rfl,rfl,by simp [hyl],?_,?_,?_,?_,?_⟩
     ·intro i y' hi'
      by_cases hij : i < ys.length
      ·rw [List.getElem?_append_left hij] at hi'
       exact HY.out i y' hi'
      ·rw [List.getElem?_append_right (by omega)] at hi'
       have hi0 : i - ys.length = 0:=by
        rcases Nat.eq_zero_or_pos (i - ys.length) with h | h
        ·exact h
        ·rw [List.getElem?_eq_none (by simp; omega)] at hi'; cases hi'
       rw [hi0] at hi'
       simp at hi'
       subst hi'
       obtain rfl : i = j:=by omega
       exact ⟨x,hx,O5.out⟩
     ·have:=R7.out
      simpa [RowS] using this
     ·intro b' hb'
      simp at hb'
      subst hb'
      exact ⟨hBn.1,hBn.2.1⟩
     ·have:=(W5.out.later BN5.out).kept hBn.2.2 (by omega) (Ne.symm hBn.2.1)
      rw [take_flat enc hx]
      simpa [List.append_assoc] using this
     ·exact ⟨(S5.out.k.trans (kept_of BN5.out)).then hBn.2.2 (fun k hk hkB => by have:=hBn.1; omega),S5.out.m⟩
    ·simp [intOf]; omega
   ·obtain rfl : j = k:=by omega
    obtain rfl : x = xk:=by rw [hx] at hk; simpa using hk
    have HC1:=hid (HN.out ys (wr.alloc (.cells #[.int .u8 x.1,.int .i64 x.2.1,.slice x.2.2.1.1 x.2.2.1.2.1 x.2.2.1.2.2] 82)) g3 cap3 aa ac hyl HY.out (HST.out.trans (Stp.of_below BN.out)) (HWR.out.later BN.out) (ownS_keep HRW.out (fun B hB => BN.out.block B (lt_of_ownS HRW.out hB))) HAB.out)
    go_wp2_with fail
    refine HC1.out.mono ?_
    rintro e w5 ⟨⟨p,rfl⟩,hk5⟩
    exact ⟨rfl,⟨p,rfl⟩,(HST.out.trans (Stp.of_below BN.out)).throw hk5⟩
theorem list194_many (R g cap : Nat) (bs : List Int) (ha : Option Addr) (n hc : Nat) (most : Int) (f : Value) (w : World) (h : Wr w R g cap bs) (hm : most < (n : Int)) :
  Calls Tryz.prog 141 #[cW R,.slice ha n hc,.int .i64 most,f] w (Throws R g 20 w):=by
 have hmc:=meth_count
 have hcc:=enter317
 have HC:=hid (count317_no R g cap bs n most w h hm)
 clear h
 go_enter Tryz.func141,Tryz.ntmps141
 go_wp2_with fail
 refine HC.out.mono ?_
 rintro e w2 ⟨⟨p,rfl⟩,hk⟩
 exact ⟨rfl,⟨p,rfl⟩,hk⟩
theorem inf78 : ∃ i,Tryz.prog.info? 61 = some i ∧ i.zero = some (.agg #[.int .i64 0,.string ⟨#[]⟩,.slice none 0 0]) ∧ i.size = 3 ∧ i.bytes = 48:=by
 have h : (Tryz.prog.info? 61).map (fun i => (i.zero,i.size,i.bytes)) = some (some (.agg #[.int .i64 0,.string ⟨#[]⟩,.slice none 0 0]),3,48):=by kernel_rfl
 cases hi : Tryz.prog.info? 61 with
 | none => rw [hi] at h; cases h
 | some i => rw [hi] at h; simp at h; exact ⟨i,rfl,h.1,h.2.1,h.2.2⟩
def ocFu (y : (Int × ByteArray × (Option Addr × Nat × Nat))) : List Value:=[.int .i64 y.1,.string y.2.1,.slice y.2.2.1 y.2.2.2.1 y.2.2.2.2]
abbrev ivFu (x : (Int × ByteArray × (Option Addr × Nat × Nat) × List (Int × Int × (Option Addr × Nat × Nat) × List Int))) : Value:=.agg #[.int .i64 x.1,.string x.2.1,.slice x.2.2.1.1 x.2.2.1.2.1 x.2.2.1.2.2]
abbrev ovFu (y : (Int × ByteArray × (Option Addr × Nat × Nat))) : Value:=.agg #[.int .i64 y.1,.string y.2.1,.slice y.2.2.1 y.2.2.2.1 y.2.2.2.2]
def AtFu (w : World) (a : Option Addr) (n : Nat) (xs : List (Int × ByteArray × (Option Addr × Nat × Nat) × List (Int × Int × (Option Addr × Nat × Nat) × List Int))) : Prop :=
 xs.length = n ∧ (n = 0 ∨ ∃ b off,a = some ⟨b,off,none⟩ ∧ ∀ (j : Nat) x,xs[j]? = some x → w.cell? ⟨b,off + j * 3,none⟩ = some (.int .i64 x.1) ∧ w.cell? ⟨b,off + j * 3 + 1,none⟩ = some (.string x.2.1) ∧ w.cell? ⟨b,off + j * 3 + 2,none⟩ = some (.slice x.2.2.1.1 x.2.2.1.2.1 x.2.2.1.2.2))
theorem AtFu.kept {S : Nat → Prop} {w w' : World} {a : Option Addr} {n : Nat} {xs : List (Int × ByteArray × (Option Addr × Nat × Nat) × List (Int × Int × (Option Addr × Nat × Nat) × List Int))} (h : AtFu w a n xs) (hk : Kept S w w') (hS : ∀ b off c,a = some ⟨b,off,c⟩ → ¬ S b) : AtFu w' a n xs:=by
 refine ⟨h.1,h.2.imp id ?_⟩
 rintro ⟨b,off,ha,hc⟩
 refine ⟨b,off,ha,fun j x hj => ?_⟩
 have:=hc j x hj
 exact ⟨hk.cell this.1 (hS _ _ _ ha),hk.cell this.2.1 (hS _ _ _ ha),hk.cell this.2.2 (hS _ _ _ ha)⟩
theorem new_cellsFu (w : World) (y : (Int × ByteArray × (Option Addr × Nat × Nat))) : ∀ j u,(ocFu y)[j]? = some u → (w.alloc (.cells #[.int .i64 y.1,.string y.2.1,.slice y.2.2.1 y.2.2.2.1 y.2.2.2.2] 61)).cell? ((⟨w.heap.size,0,none⟩ : Addr).add j) = some u:=by
 intro j u hj
 have hlt:=lt_of_get hj
 have hl : (ocFu y).length = 3:=rfl
 rw [hl] at hlt
 have hadd : (⟨w.heap.size,0,none⟩ : Addr).add j = ⟨w.heap.size,j,none⟩:=by unfold Addr.add; split <;> simp_all
 rw [hadd]
 have hb:=(MapKept.heap_alloc w (.cells #[.int .i64 y.1,.string y.2.1,.slice y.2.2.1 y.2.2.2.1 y.2.2.2.2] 61)).1
 simp only [World.cell?,hb]
 simpa [ocFu] using hj
theorem one_cellsFu (y : (Int × ByteArray × (Option Addr × Nat × Nat))) : ∀ u ∈ ocFu y,u.oneCell' = true:=by
 intro u hu
 simp [ocFu] at hu
 rcases hu with rfl | rfl | rfl <;> rfl
theorem list141_many (R g cap : Nat) (bs : List Int) (ha : Option Addr) (n hc : Nat) (most : Int) (f : Value) (w : World) (h : Wr w R g cap bs) (hm : most < (n : Int)) :
  Calls Tryz.prog 109 #[cW R,.slice ha n hc,.int .i64 most,f] w (Throws R g 20 w):=by
 have hmc:=meth_count
 have hcc:=enter317
 have HC:=hid (count317_no R g cap bs n most w h hm)
 clear h
 go_enter Tryz.func109,Tryz.ntmps109
 go_wp2_with fail
 refine HC.out.mono ?_
 rintro e w2 ⟨⟨p,rfl⟩,hk⟩
 exact ⟨rfl,⟨p,rfl⟩,hk⟩
end Go.Proofs.YtepcmfegggdjfaaGreatDoor

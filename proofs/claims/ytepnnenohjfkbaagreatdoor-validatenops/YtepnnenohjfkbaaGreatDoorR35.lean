/-
  Texts Vgg Vjj Vkk Xa.
-/
import Derived.BigQuiet
import Derived.Deep.QuietTactic
import Derived.Test.YtepnnenohjfkbaaGreatDoorR34
set_option linter.unusedVariables false
set_option maxRecDepth 100000
set_option maxHeartbeats 16000000
namespace Go.Proofs.YtepnnenohjfkbaaGreatDoor
open Go.RowKit
def ErrF (m : MM) (x : FuM) (E pc : Int) : Prop :=
 ((res (opF (x.2.2.2.map inx)) x.2.2.1.2.1 0).1 ≠ 0 ∧ E = (res (opF (x.2.2.2.map inx)) x.2.2.1.2.1 0).1 ∧ pc = (res (opF (x.2.2.2.map inx)) x.2.2.1.2.1 0).2) ∨
 (Good (opF (x.2.2.2.map inx)) x.2.2.1.2.1 ∧ ∃ P Q,m.types[x.1.toNat]? = some (P,Q) ∧ ∃ j,j < x.2.2.1.2.1 ∧ (∀ i,i < j → erA m (strBytes (P ++ x.2.1)) (x.2.2.2.map inx) Q x.2.2.1.2.1 i = 0) ∧ erA m (strBytes (P ++ x.2.1)) (x.2.2.2.map inx) Q x.2.2.1.2.1 j ≠ 0 ∧ E = erA m (strBytes (P ++ x.2.1)) (x.2.2.2.map inx) Q x.2.2.1.2.1 j ∧ pc = (j : Int))
def TabV (m : MM) (x : FuM) (base : Nat) (w : World) (t : Array Value) : Prop :=
 Good (opF (x.2.2.2.map inx)) x.2.2.1.2.1 ∧ ∃ P Q,m.types[x.1.toNat]? = some (P,Q) ∧ (∀ i,i < x.2.2.1.2.1 → erA m (strBytes (P ++ x.2.1)) (x.2.2.2.map inx) Q x.2.2.1.2.1 i = 0) ∧ ∃ SH EN EL FL,base ≤ SH ∧ base ≤ EN ∧ base ≤ EL ∧ base ≤ FL ∧
  t = #[.slice (some ⟨SH,0,none⟩) x.2.2.1.2.1 x.2.2.1.2.1,.slice (some ⟨EN,0,none⟩) x.2.2.1.2.1 x.2.2.1.2.1,.slice (some ⟨EL,0,none⟩) x.2.2.1.2.1 x.2.2.1.2.1,.slice (some ⟨FL,0,none⟩) x.2.2.1.2.1 x.2.2.1.2.1,.int .i64 (stA m (strBytes (P ++ x.2.1)) (x.2.2.2.map inx) Q x.2.2.1.2.1 x.2.2.1.2.1).hi] ∧
  Row w 9 SH x.2.2.1.2.1 x.2.2.1.2.1 ((stA m (strBytes (P ++ x.2.1)) (x.2.2.2.map inx) Q x.2.2.1.2.1 x.2.2.1.2.1).sh.map Value.string) ∧ RI w EN x.2.2.1.2.1 (enF (opF (x.2.2.2.map inx)) x.2.2.1.2.1) ∧ RI w EL x.2.2.1.2.1 (elF (opF (x.2.2.2.map inx)) x.2.2.1.2.1) ∧ RI w FL x.2.2.1.2.1 (stA m (strBytes (P ++ x.2.1)) (x.2.2.2.map inx) Q x.2.2.1.2.1 x.2.2.1.2.1).fl
theorem TabV.kept {m : MM} {x : FuM} {base base' T : Nat} {w w' : World} {t : Array Value} (h : TabV m x base w t) (hk : Kept (fun k => k = T) w w') (hT : T < base) (hb : base' ≤ base) : TabV m x base' w' t:=by
 obtain ⟨hG,P,Q,hP,hz,SH,EN,EL,FL,l1,l2,l3,l4,ht,r1,r2,r3,r4⟩:=h
 exact ⟨hG,P,Q,hP,hz,SH,EN,EL,FL,by omega,by omega,by omega,by omega,ht,r1.kept hk (by show ¬ (SH = T); omega),r2.kept hk (by show ¬ (EN = T); omega),r3.kept hk (by show ¬ (EL = T); omega),r4.kept hk (by show ¬ (FL = T); omega)⟩
theorem OutF.cases {m : MM} {x : FuM} {w w' : World} {e : Ending} (h : OutF m x w e w') :
  (∃ E pc,ErrF m x E pc ∧ E ≠ 0 ∧ e = .returned (.tuple #[.agg zT,.int .i64 E,.int .i64 pc])) ∨
  (∃ a0 a1 a2 a3 n0 n1 n2 n3 c0 c1 c2 c3 hi,e = .returned (.tuple #[.agg #[.slice a0 n0 c0,.slice a1 n1 c1,.slice a2 n2 c2,.slice a3 n3 c3,.int .i64 hi],.int .i64 0,.int .i64 0]) ∧ TabV m x w.heap.size w' #[.slice a0 n0 c0,.slice a1 n1 c1,.slice a2 n2 c2,.slice a3 n3 c3,.int .i64 hi]):=by
 rcases h.2 with ⟨h1,h⟩ | ⟨hG,P,Q,hP,_,⟨j,hj,hz,he,h⟩ | ⟨hz,SH,EN,EL,FL,l1,l2,l3,l4,_,_,_,_,h,r1,r2,r3,r4⟩⟩
 ·exact .inl ⟨_,_,.inl ⟨h1,rfl,rfl⟩,h1,h⟩
 ·exact .inl ⟨_,_,.inr ⟨hG,P,Q,hP,j,hj,hz,he,rfl,rfl⟩,he,h⟩
 ·exact .inr ⟨_,_,_,_,_,_,_,_,_,_,_,_,_,h,hG,P,Q,hP,hz,SH,EN,EL,FL,l1,l2,l3,l4,rfl,r1,r2,r3,r4⟩
def OutM (m : MM) (w : World) (e : Ending) (w' : World) : Prop :=
 Below w.heap.size w w' ∧
 ((chkMM m ≠ 0 ∧ e = .returned (.tuple #[.slice none 0 0,.int .i64 (chkMM m),.int .i64 (-1),.int .i64 0])) ∨
  (chkMM m = 0 ∧ ∃ (k : Nat) (x : FuM) (E pc : Int),m.fns[k]? = some x ∧ ErrF m x E pc ∧ E ≠ 0 ∧ (∀ i y,i < k → m.fns[i]? = some y → ∃ W b t,TabV m y b W t) ∧ e = .returned (.tuple #[.slice none 0 0,.int .i64 E,.int .i64 k,.int .i64 pc])) ∨
  (chkMM m = 0 ∧ ∃ TT arr,w.heap.size ≤ TT ∧ e = .returned (.tuple #[.slice (some ⟨TT,0,none⟩) m.fn m.fn,.int .i64 0,.int .i64 0,.int .i64 0]) ∧ w'.heap[TT]? = some (.cells arr 39) ∧ arr.size = m.fn * 5 ∧
   ∀ (i : Nat) y,m.fns[i]? = some y → ∃ t,TabV m y (TT + 1) w' t ∧ ∀ q,q < 5 → arr[i * 5 + q]? = t[q]?))
theorem Tryz.infTab : (Tryz.prog.info? 39).map (fun i => (i.zero,i.size,i.bytes)) = some (some (.agg zT),5,104):=by kernel_rfl
theorem put5 {w : World} {T k : Nat} {arr : Array Value} (h : w.heap[T]? = some (.cells arr 39)) (hl : k * 5 + 5 ≤ arr.size) (t0 t1 t2 t3 t4 : Value) (o : Obj) :
  ∃ arr',((((((w.setCell ⟨T,k * 5,none⟩ t0).setCell ⟨T,k * 5 + 1,none⟩ t1).setCell ⟨T,k * 5 + 2,none⟩ t2).setCell ⟨T,k * 5 + 3,none⟩ t3).setCell ⟨T,k * 5 + 4,none⟩ t4).alloc o).heap[T]? = some (.cells arr' 39) ∧ arr'.size = arr.size ∧
   (∀ q,q < 5 → arr'[k * 5 + q]? = #[t0,t1,t2,t3,t4][q]?) ∧ (∀ p,p < k * 5 ∨ k * 5 + 5 ≤ p → arr'[p]? = arr[p]?) ∧ Kept (fun b => b = T) w ((((((w.setCell ⟨T,k * 5,none⟩ t0).setCell ⟨T,k * 5 + 1,none⟩ t1).setCell ⟨T,k * 5 + 2,none⟩ t2).setCell ⟨T,k * 5 + 3,none⟩ t3).setCell ⟨T,k * 5 + 4,none⟩ t4).alloc o):=by
 refine ⟨_,blk_later (below_new _ o) (setBlk (setBlk (setBlk (setBlk (setBlk h))))),by simp,fun q hq => ?_,fun p hp => ?_,((((kept_set w T _ t0).trans (kept_set _ T _ t1)).trans (kept_set _ T _ t2)).trans (kept_set _ T _ t3)).trans ((kept_set _ T _ t4).trans (kept_of (below_new _ o)))⟩
 ·have : q = 0 ∨ q = 1 ∨ q = 2 ∨ q = 3 ∨ q = 4:=by omega
  rcases this with rfl | rfl | rfl | rfl | rfl
  ·simp [Array.getElem?_setIfInBounds]; omega
  ·simp [Array.getElem?_setIfInBounds]; omega
  ·simp [Array.getElem?_setIfInBounds]; omega
  ·simp [Array.getElem?_setIfInBounds]; omega
  ·simp [Array.getElem?_setIfInBounds]; omega
 ·simp only [Array.getElem?_setIfInBounds,Array.size_setIfInBounds]
  rw [if_neg (by omega),if_neg (by omega),if_neg (by omega),if_neg (by omega),if_neg (by omega)]
theorem module10 (m : MM) (w : World) (hk : KindsOk w) (hp : 0 < w.heap.size) (hm : ∀ R g,w.heap.size ≤ R → w.heap.size ≤ g → MOk w R g m) (hcap : ∀ x ∈ m.fns,x.2.2.1.2.1 ≤ x.2.2.1.2.2) :
  Calls Tryz.prog 10 #[.agg (mV m)] w (OutM m w):=by
 have B0:=below_new w (.cells (mV m) 29)
 have b0:=heap_alloc_new w (.cells (mV m) 29)
 have hz : (w.alloc (.cells (mV m) 29)).heap.size = w.heap.size + 1:=by simp
 have HE:=hid (check31 m (w.alloc (.cells (mV m) 29)) (hk.later B0 hp) (fun R g h1 h2 => (hm R g (by omega) (by omega)).later B0))
 have HM:=hid (fun (W : World) (hb : Below w.heap.size w W) => (hm w.heap.size w.heap.size (Nat.le_refl _) (Nat.le_refl _)).later hb)
 have HK:=hid (fun (W : World) (hb : Below w.heap.size w W) => hk.later hb hp)
 have HF:=hid (hm w.heap.size w.heap.size (Nat.le_refl _) (Nat.le_refl _)).pf
 have HCP:=hid hcap
 clear hm hk hcap
 have m0 : (w.alloc (.cells (mV m) 29)).cell? ⟨w.heap.size,0,none⟩ = some (.slice m.ta m.tn m.tc):=cell_at b0
 have m1 : (w.alloc (.cells (mV m) 29)).cell? ⟨w.heap.size,1,none⟩ = some (.slice m.ha m.hn m.hc):=cell_at b0
 have m2 : (w.alloc (.cells (mV m) 29)).cell? ⟨w.heap.size,2,none⟩ = some (.slice m.ga m.gn m.gc):=cell_at b0
 have m3 : (w.alloc (.cells (mV m) 29)).cell? ⟨w.heap.size,3,none⟩ = some (.int .i64 m.fi):=cell_at b0
 have m4 : (w.alloc (.cells (mV m) 29)).cell? ⟨w.heap.size,4,none⟩ = some (.int .i64 m.mo):=cell_at b0
 have m5 : (w.alloc (.cells (mV m) 29)).cell? ⟨w.heap.size,5,none⟩ = some (.slice m.fa m.fn m.fc):=cell_at b0
 have m6 : (w.alloc (.cells (mV m) 29)).cell? ⟨w.heap.size,6,none⟩ = some (.slice m.da m.dn m.dc):=cell_at b0
 have m7 : (w.alloc (.cells (mV m) 29)).cell? ⟨w.heap.size,7,none⟩ = some (.slice m.ea m.en m.ec):=cell_at b0
 have HW : w.alloc (.cells #[.slice m.ta m.tn m.tc,.slice m.ha m.hn m.hc,.slice m.ga m.gn m.gc,.int .i64 m.fi,.int .i64 m.mo,.slice m.fa m.fn m.fc,.slice m.da m.dn m.dc,.slice m.ea m.en m.ec] 29) = w.alloc (.cells (mV m) 29):=rfl
 generalize w.alloc (.cells (mV m) 29) = W0 at *
 unfold mV at HE
 show Calls Tryz.prog 10 #[.agg #[.slice m.ta m.tn m.tc,.slice m.ha m.hn m.hc,.slice m.ga m.gn m.gc,.int .i64 m.fi,.int .i64 m.mo,.slice m.fa m.fn m.fc,.slice m.da m.dn m.dc,.slice m.ea m.en m.ec]] w _
 obtain ⟨i0,hi,hz0,hz1,hz2⟩:=info_parts Tryz.infTab
 go_enter Tryz.func10,Tryz.ntmps10
 go_wp2_with fail
 refine HE.out.mono ?_
 rintro e w2 ⟨rfl,hb2⟩
 have m0:=later_cell hb2 m0
 have m1:=later_cell hb2 m1
 have m2:=later_cell hb2 m2
 have m3:=later_cell hb2 m3
 have m4:=later_cell hb2 m4
 have m5:=later_cell hb2 m5
 have m6:=later_cell hb2 m6
 have m7:=later_cell hb2 m7
 have hB2 : Below w.heap.size w w2:=B0.trans (hb2.mono B0.size)
 have hs2 : w.heap.size + 1 ≤ w2.heap.size:=by have:=hb2.size; omega
 have HB2:=hid hB2
 have HM8:=hid (And.intro m0 (And.intro m1 (And.intro m2 (And.intro m3 (And.intro m4 (And.intro m5 (And.intro m6 m7)))))))
 clear hB2 b0 B0 HE HW hb2
 by_cases hx : chkMM m = 0
 rotate_left
 ·have hx' : (chkMM m == 0) = false:=by simpa using hx
  have HX:=hid hx
  clear m0 m1 m2 m3 m4 m5 m6 m7 hx
  generalize hce : chkMM m = ce at *
  go_wp2_with fail
  refine bodyPost_ret (v:=.tuple #[.slice none 0 0,.int .i64 ce,.int .i64 (-1),.int .i64 0]) (by simp [results,Tryz.results10,go_sem]) rfl ⟨HB2.out,.inl ⟨by rw [hce]; exact HX.out,by rw [hce]⟩⟩
 ·rw [hx]
  have hfn : m.fn ≤ 128:=by
   have:=(listE_zero (chkW_of hx).2.2.2).1
   have:=HF.out.1
   omega
  have hb3 : i0.bytes * m.fn ≤ 281474976710656:=by rw [hz2]; omega
  have hml : m.fn ≤ maxLen:=by unfold maxLen; omega
  go_wp2_with (first | (at_make; refine wpList_make_full _ rfl _ _ 32 rfl w2.heap.size 39 i0 (.agg zT) 5 Tryz.underlying32 hi hz0 hz1 .i64 .i64 _ _ m.fn rfl rfl rfl rfl hb3 hml (Nat.le_refl _) ?_; intro w1 hown hgrow; have hbel : Below w2.heap.size w2 w1:=(Below.refl _ _).grown hgrow (Nat.le_refl _) (by simp); have m5:=later_cell hbel m5))
  obtain ⟨arr0,hTT,hsz0⟩ : ∃ arr,w1.heap[w2.heap.size]? = some (.cells arr 39) ∧ arr.size = m.fn * 5:=by
   rcases hown.2 with ⟨e,_⟩ | ⟨g,cap,cur,e,h4,h5,h6,h7,h8,h9⟩
   ·cases e
   ·cases e; exact ⟨cur,h5,h8⟩
  have hT1 : w2.heap.size < w1.heap.size:=blk_lt hTT
  have hB1 : Below w.heap.size w w1:=HB2.out.trans (hbel.mono HB2.out.size)
  obtain ⟨q0,q1,q2,q3,q4,q5,q6,q7⟩:=HM8.out
  have H8:=hid (And.intro (later_cell hbel q0) (And.intro (later_cell hbel q1) (And.intro (later_cell hbel q2) (And.intro (later_cell hbel q3) (And.intro (later_cell hbel q4) (And.intro (later_cell hbel q5) (And.intro (later_cell hbel q6) (later_cell hbel q7))))))))
  have HT:=hid (And.intro hTT hsz0)
  have HB1:=hid hB1
  clear hown hgrow hi hz0 hz1 hz2 hb3 hml q0 q1 q2 q3 q4 q5 q6 q7 m0 m1 m2 m3 m4 m5 m6 m7 HM8 hTT hsz0 hB1 hbel
  go_loopw [25] (fun i wr => ∃ k : Nat,k ≤ m.fn ∧ i = .int .i64 k ∧ Kept (fun b => b = w2.heap.size) w1 wr ∧ ∃ arr,wr.heap[w2.heap.size]? = some (.cells arr 39) ∧ arr.size = m.fn * 5 ∧ ∀ (i : Nat) y,i < k → m.fns[i]? = some y → ∃ t,TabV m y (w2.heap.size + 1) wr t ∧ ∀ q,q < 5 → arr[i * 5 + q]? = t[q]?) (fun i _ => m.fn - (intOf i).toNat)
  case atStart => exact ⟨0,Nat.zero_le _,rfl,Kept.refl _ _,arr0,HT.out.1,HT.out.2,fun i y h => absurd h (Nat.not_lt_zero _)⟩
  case round =>
   obtain ⟨k,hkf,rfl,hkept,arr,hTT,hsz,htab⟩:=hrel
   obtain ⟨m0,m1,m2,m3,m4,m5,m6,m7⟩:=H8.out
   have hzr:=hkept.size
   have hBr : Below w.heap.size w wr:=HB1.out.trans (hkept.to_below (B:=w.heap.size) HB1.out.size (fun k hk h => by have : k = w2.heap.size:=h; omega))
   by_cases hlt : k < m.fn
   ·obtain ⟨x,hxk⟩ : ∃ x,m.fns[k]? = some x:=⟨_,List.getElem?_eq_getElem (by rw [HF.out.1]; exact hlt)⟩
    obtain ⟨b,off,hfa,hat⟩:=HF.out.2.resolve_left (by omega)
    have hat:=hat k x hxk
    have hbw : b < w.heap.size:=block_lt_of_cell hat.1
    have n0:=later_cell hBr hat.1
    have n1:=later_cell hBr hat.2.1
    have n2:=later_cell hBr hat.2.2
    have hwn : w.heap.size ≠ w2.heap.size:=by omega
    have m0:=hkept.cell m0 hwn
    have m1:=hkept.cell m1 hwn
    have m2:=hkept.cell m2 hwn
    have m3:=hkept.cell m3 hwn
    have m4:=hkept.cell m4 hwn
    have m5:=hkept.cell m5 hwn
    have m6:=hkept.cell m6 hwn
    have m7:=hkept.cell m7 hwn
    have H30:=hid (fun (W : World) (hb : Below w.heap.size w W) => check30 hx (HM.out W hb) (HK.out W hb) (Nat.lt_of_lt_of_le hp hb.size) hxk (HCP.out x (List.mem_of_getElem? hxk)))
    unfold mV at H30
    rw [hfa] at H30 m5
    have hk0 : (0 : Int) ≤ (k : Int):=by omega
    have hk1 : (k : Int) < (m.fn : Int):=by omega
    have HKP:=hid hkept
    have HTT:=hid hTT
    have HTB:=hid htab
    have HBR:=hid hBr
    have hwl : w.heap.size < wr.heap.size:=by omega
    have hbl : b < wr.heap.size:=by omega
    clear hkept hTT htab hBr hat
    rw [hfa]
    go_wp2_with fail
    have BA:=below_new wr (.cells #[.int .i64 x.1,.string x.2.1,.slice x.2.2.1.1 x.2.2.1.2.1 x.2.2.1.2.2] 42)
    have hBA:=HBR.out.trans (BA.mono HBR.out.size)
    have hTA:=blk_later BA HTT.out
    refine (H30.out _ hBA).mono ?_
    generalize wr.alloc (.cells #[.int .i64 x.1,.string x.2.1,.slice x.2.2.1.1 x.2.2.1.2.1 x.2.2.1.2.2] 42) = WA at *
    rintro e w3 hO
    have hb3:=hO.1
    have hT3:=blk_later hb3 hTA
    have hB3 : Below w.heap.size w w3:=hBA.trans (hb3.mono hBA.size)
    have hK3 : Kept (fun b => b = w2.heap.size) wr w3:=(kept_of BA).trans (kept_of hb3)
    have hzA:=BA.size
    have hz3:=hb3.size
    rcases hO.cases with ⟨E,pc,hErr,hE,rfl⟩ | ⟨s0,s1,s2,s3,l0,l1,l2,l3,c0,c1,c2,c3,hi,rfl,hTab⟩
    ·have hE' : (E == 0) = false:=by simpa using hE
     have HErr:=hid (And.intro hErr hE)
     have HB3:=hid hB3
     clear hErr hE hO hb3 hT3 hB3 hK3 m0 m1 m2 m3 m4 m5 m6 m7 n0 n1 n2 hTA hBA BA H30
     go_wp2_with fail
     refine bodyPost_ret (v:=.tuple #[.slice none 0 0,.int .i64 E,.int .i64 k,.int .i64 pc]) (by simp [results,Tryz.results10,go_sem]) rfl ⟨HB3.out.trans ((below_new w3 _).mono HB3.out.size),.inr (.inl ⟨hx,k,x,E,pc,hxk,HErr.out.1,HErr.out.2,fun i y hi hy => ?_,rfl⟩)⟩
     obtain ⟨t,ht,_⟩:=HTB.out i y hi hy
     exact ⟨_,_,_,ht⟩
    ·have hlen : k * 5 + 5 ≤ arr.size:=by omega
     have g : ∀ q,q < 5 → ∃ v,w3.cell? ⟨w2.heap.size,k * 5 + q,none⟩ = some v:=fun q hq => ⟨_,by rw [cell_at hT3]; exact Array.getElem?_eq_getElem (by omega)⟩
     obtain ⟨v0,g0⟩:=g 0 (by omega)
     obtain ⟨v1,g1⟩:=g 1 (by omega)
     obtain ⟨v2,g2⟩:=g 2 (by omega)
     obtain ⟨v3,g3⟩:=g 3 (by omega)
     obtain ⟨v4,g4⟩:=g 4 (by omega)
     rw [Nat.add_zero] at g0
     have fz : ∀ q,w3.frozen? ⟨w2.heap.size,q,none⟩ = false:=fun q => free_at hT3
     have f0:=fz (k * 5)
     have f1:=fz (k * 5 + 1)
     have f2:=fz (k * 5 + 2)
     have f3:=fz (k * 5 + 3)
     have f4:=fz (k * 5 + 4)
     have hTl : w2.heap.size < w3.heap.size:=blk_lt hT3
     have HTab:=hid hTab
     have HP3:=hid (And.intro hT3 (And.intro hB3 hK3))
     clear hTab hT3 hB3 hK3 g fz hO hb3 m0 m1 m2 m3 m4 m5 m6 m7 n0 n1 n2 hTA hBA BA H30
     go_wp2_with fail
     obtain ⟨hT3,hB3,hK3⟩:=HP3.out
     obtain ⟨arr',p1,p2,p3,p4,p5⟩:=put5 hT3 hlen (.slice s0 l0 c0) (.slice s1 l1 c1) (.slice s2 l2 c2) (.slice s3 l3 c3) (.int .i64 hi) (.cells #[.slice s0 l0 c0,.slice s1 l1 c1,.slice s2 l2 c2,.slice s3 l3 c3,.int .i64 hi] 39)
     refine ⟨⟨k + 1,by omega,by go_num,(HKP.out.trans hK3).trans p5,arr',p1,by omega,fun i y hi hy => ?_⟩,by simp [intOf]; omega⟩
     by_cases hik : i = k
     ·subst hik
      obtain rfl : x = y:=by rw [hxk] at hy; exact Option.some.inj hy
      exact ⟨_,HTab.out.kept p5 (by omega) (by omega),p3⟩
     ·obtain ⟨t,ht,hq⟩:=HTB.out i y (by omega) hy
      exact ⟨t,ht.kept (hK3.trans p5) (by omega) (Nat.le_refl _),fun q hq' => by rw [p4 _ (by omega)]; exact hq q hq'⟩
   ·obtain rfl : k = m.fn:=by omega
    have HQ:=hid (And.intro hBr (And.intro hTT htab))
    clear m0 m1 m2 m3 m4 m5 m6 m7 hBr hTT htab hkept
    go_wp2_with fail
    obtain ⟨hBr,hTT,htab⟩:=HQ.out
    refine bodyPost_ret (v:=.tuple #[.slice (some ⟨w2.heap.size,0,none⟩) m.fn m.fn,.int .i64 0,.int .i64 0,.int .i64 0]) (by simp [results,Tryz.results10,go_sem]) rfl ⟨hBr,.inr (.inr ⟨hx,w2.heap.size,arr,by omega,rfl,hTT,hsz,fun i y hy => htab i y (by rw [← HF.out.1]; exact lt_of_get hy) hy⟩)⟩
theorem eqt19 (b1 b2 n c1 c2 : Nat) (xs : List ByteArray) (w : World) (hz : xs.length = n) (hn : n ≤ 1099511627776)
  (hc1 : ∀ (j : Nat) x,xs[j]? = some x → w.cell? ⟨b1,j,none⟩ = some (.string x)) (hc2 : ∀ (j : Nat) x,xs[j]? = some x → w.cell? ⟨b2,j,none⟩ = some (.string x)) :
  Calls Tryz.prog 19 #[.slice (some ⟨b1,0,none⟩) n c1,.slice (some ⟨b2,0,none⟩) n c2] w fun e w' => e = .returned (.bool true) ∧ ∃ q,w' = w.drewN q:=by
 have hne : ((n : Int) != n) = false:=by simp
 have H1:=hid hc1
 have H2:=hid hc2
 clear hc1 hc2
 go_enter Tryz.func19,Tryz.ntmps19
 go_wp2
 go_loopw [5] (fun i wr => ∃ k m : Nat,k ≤ n ∧ i = .int .i64 k ∧ wr = w.drewN m) (fun i _ => n - (intOf i).toNat)
 case atStart => exact ⟨0,0,by omega,rfl,rfl⟩
 case round =>
  obtain ⟨k,m,hk,rfl,rfl⟩:=hrel
  by_cases hlt : k < n
  ·obtain ⟨x,hxk⟩ : ∃ x,xs[k]? = some x:=⟨_,List.getElem?_eq_getElem (by omega)⟩
   have g1:=H1.out k x hxk
   have g2:=H2.out k x hxk
   have hlt' : (k : Int) < (n : Int):=by omega
   have hb : (x.toList != x.toList) = false:=by simp
   have hb' : (x.toList == x.toList) = true:=by simp
   go_wp2
   go_quiet (fail)
   go_wp2
   exact ⟨⟨k + 1,m + nq,by omega,by go_num,rfl⟩,by simp [intOf]; omega⟩
  ·have hkn : k = n:=by omega
   subst hkn
   go_wp2
   go_ret
   exact ⟨rfl,m,rfl⟩
structure SameM (m m' : MM) : Prop where
 tn : m'.tn = m.tn
 hn : m'.hn = m.hn
 gn : m'.gn = m.gn
 fn : m'.fn = m.fn
 types : m'.types = m.types
 hosts : m'.hosts = m.hosts
 globals : m'.globals = m.globals
 ft : m'.fns.map (fun f => f.1) = m.fns.map (fun f => f.1)
def SameX (xs ys : List Inx) : Prop:=∀ j,(ys.getD j dx).c = (xs.getD j dx).c ∧ (ys.getD j dx).a = (xs.getD j dx).a ∧ (ys.getD j dx).l = (xs.getD j dx).l
section
variable {m m' : MM}
theorem SameM.tyAt (h : SameM m m') (i : Int) : tyAt m' i = tyAt m i:=by simp only [Go.Proofs.YtepnnenohjfkbaaGreatDoor.tyAt,h.types]
theorem SameM.fnTy (h : SameM m m') (i : Int) : fnTy m' i = fnTy m i:=by
 unfold Go.Proofs.YtepnnenohjfkbaaGreatDoor.fnTy
 rw [← List.getElem?_map,← List.getElem?_map,h.ft]
theorem SameM.glC (h : SameM m m') (i : Int) : glC m' i = glC m i:=by simp only [Go.Proofs.YtepnnenohjfkbaaGreatDoor.glC,h.globals]
theorem SameM.glM (h : SameM m m') (i : Int) : glM m' i = glM m i:=by simp only [Go.Proofs.YtepnnenohjfkbaaGreatDoor.glM,h.globals]
theorem SameM.efE (h : SameM m m') (lo : List Int) (s : Cs) (o : Opn) (c a : Int) : efE m' lo s o c a = efE m lo s o c a:=by
 unfold Go.Proofs.YtepnnenohjfkbaaGreatDoor.efE
 rw [h.fn,h.hn,h.gn,h.glM]
theorem SameM.efV (h : SameM m m') (lo : List Int) (s : Cs) (o : Opn) (c a : Int) : efV m' lo s o c a = efV m lo s o c a:=by
 unfold Go.Proofs.YtepnnenohjfkbaaGreatDoor.efV
 rw [h.tyAt,h.tyAt,h.fnTy,h.hosts,h.glC]
theorem SameM.rwE (h : SameM m m') (lo : List Int) (el : Int) (s : Cs) (o : Opn) (c a : Int) (l : List Int) : rwE m' lo el s o c a l = rwE m lo el s o c a l:=by
 unfold Go.Proofs.YtepnnenohjfkbaaGreatDoor.rwE opE
 rw [h.efE,h.efV,h.tn,h.tyAt]
theorem SameM.rwS (h : SameM m m') (lo : List Int) (s : Cs) (o : Opn) (c a : Int) : rwS m' lo s o c a = rwS m lo s o c a:=by
 unfold Go.Proofs.YtepnnenohjfkbaaGreatDoor.rwS
 rw [h.efV,h.tyAt]
theorem SameM.stA (h : SameM m m') {xs ys : List Inx} (hx : SameX xs ys) (lo : List Int) (R : ByteArray) (n : Nat) : ∀ j,stA m' lo ys R n j = stA m lo xs R n j
 | 0 => rfl
 | j + 1 => by
  show Go.Proofs.YtepnnenohjfkbaaGreatDoor.rwS m' lo _ _ _ _ = Go.Proofs.YtepnnenohjfkbaaGreatDoor.rwS m lo _ _ _ _
  rw [SameM.stA h hx lo R n j,(hx j).1,(hx j).2.1,h.rwS]
theorem SameM.erA (h : SameM m m') {xs ys : List Inx} (hx : SameX xs ys) (lo : List Int) (R : ByteArray) (n j : Nat) : erA m' lo ys R n j = erA m lo xs R n j:=by
 have ho : opF ys = opF xs:=funext fun i => (hx i).1
 unfold Go.Proofs.YtepnnenohjfkbaaGreatDoor.erA visE
 rw [h.stA hx,(hx j).1,(hx j).2.1,(hx j).2.2,ho,h.rwE]
end
def oneM (TB FB : Nat) (ca : Option Addr) (n c : Nat) (co : List InM) : MM :=
 { ta:=some ⟨TB,0,none⟩,tn:=1,tc:=1,types:=[(⟨#[]⟩,⟨#[119]⟩)],ha:=none,hn:=0,hc:=0,hosts:=[],ga:=none,gn:=0,gc:=0,globals:=[],fi:=0,mo:=0,fa:=some ⟨FB,0,none⟩,fn:=1,fc:=1,fns:=[(0,⟨#[]⟩,(ca,n,c),co)],da:=none,dn:=0,dc:=0,data:=[],ea:=none,en:=0,ec:=0,exps:=[] }
theorem one28 (ca : Option Addr) (n c : Nat) (co : List InM) (w : World) :
  Calls Tryz.prog 28 #[.slice ca n c] w fun e w' => ∃ TB FB,e = .returned (.agg (mV (oneM TB FB ca n c co))) ∧ w.heap.size ≤ TB ∧ w.heap.size ≤ FB ∧ w'.heap[TB]? = some (.cells #[.string ⟨#[]⟩,.string ⟨#[119]⟩] 62) ∧ w'.heap[FB]? = some (.cells #[.int .i64 0,.string ⟨#[]⟩,.slice ca n c] 42) ∧ Below w.heap.size w w':=by
 go_enter Tryz.func28,Tryz.ntmps28
 go_wp2_with fail
 obtain ⟨W0,hW0⟩ : ∃ W,W = w.alloc (Obj.cells #[.slice (some ⟨w.heap.size + 1,0,none⟩) 1 1,.slice none 0 0,.slice none 0 0,.int .i64 0,.int .i64 0,.slice (some ⟨w.heap.size + 1 + 1,0,none⟩) 1 1,.slice none 0 0,.slice none 0 0] 29):=⟨_,rfl⟩
 have z0 : W0.heap.size = w.heap.size + 1:=by rw [hW0]; simp
 have h0 : W0.heap[w.heap.size]? = some (Obj.cells #[.slice (some ⟨w.heap.size + 1,0,none⟩) 1 1,.slice none 0 0,.slice none 0 0,.int .i64 0,.int .i64 0,.slice (some ⟨w.heap.size + 1 + 1,0,none⟩) 1 1,.slice none 0 0,.slice none 0 0] 29):=by rw [hW0]; exact heap_alloc_new _ _
 have B0 : Below w.heap.size w W0:=by rw [hW0]; exact below_new _ _
 rw [← hW0]
 have B1:=below_new W0 (.cells #[.string ⟨#[]⟩,.string ⟨#[119]⟩] 62)
 have h1:=heap_alloc_new W0 (.cells #[.string ⟨#[]⟩,.string ⟨#[119]⟩] 62)
 have z1 : (W0.alloc (.cells #[.string ⟨#[]⟩,.string ⟨#[119]⟩] 62)).heap.size = w.heap.size + 1 + 1:=by simp [z0]
 rw [z0] at h1
 have h01:=blk_later B1 h0
 generalize W0.alloc (.cells #[.string ⟨#[]⟩,.string ⟨#[119]⟩] 62) = W1 at *
 have B2:=below_new W1 (.cells #[.int .i64 0,.string ⟨#[]⟩,.slice ca n c] 42)
 have h2:=heap_alloc_new W1 (.cells #[.int .i64 0,.string ⟨#[]⟩,.slice ca n c] 42)
 rw [z1] at h2
 have h02:=blk_later B2 h01
 have h12:=blk_later B2 h1
 generalize W1.alloc (.cells #[.int .i64 0,.string ⟨#[]⟩,.slice ca n c] 42) = W2 at *
 have c0 : W2.cell? ⟨w.heap.size,0,none⟩ = some (.slice (some ⟨w.heap.size + 1,0,none⟩) 1 1):=cell_at h02
 have c1 : W2.cell? ⟨w.heap.size,1,none⟩ = some (.slice none 0 0):=cell_at h02
 have c2 : W2.cell? ⟨w.heap.size,2,none⟩ = some (.slice none 0 0):=cell_at h02
 have c3 : W2.cell? ⟨w.heap.size,3,none⟩ = some (.int .i64 0):=cell_at h02
 have c4 : W2.cell? ⟨w.heap.size,4,none⟩ = some (.int .i64 0):=cell_at h02
 have c5 : W2.cell? ⟨w.heap.size,5,none⟩ = some (.slice (some ⟨w.heap.size + 1 + 1,0,none⟩) 1 1):=cell_at h02
 have c6 : W2.cell? ⟨w.heap.size,6,none⟩ = some (.slice none 0 0):=cell_at h02
 have c7 : W2.cell? ⟨w.heap.size,7,none⟩ = some (.slice none 0 0):=cell_at h02
 refine bodyPost_ret (v:=.agg (mV (oneM (w.heap.size + 1) (w.heap.size + 1 + 1) ca n c co))) (by simp [results,Tryz.results28,go_sem,c0,c1,c2,c3,c4,c5,c6,c7,mV,oneM]) rfl ⟨_,_,rfl,by omega,by omega,h12,h2,B0.trans ((B1.trans (B2.mono B1.size)).mono B0.size)⟩
theorem oneM_ok {W : World} {TB FB : Nat} {ca : Option Addr} {n c : Nat} {co : List InM} (hT : W.heap[TB]? = some (.cells #[.string ⟨#[]⟩,.string ⟨#[119]⟩] 62)) (hF : W.heap[FB]? = some (.cells #[.int .i64 0,.string ⟨#[]⟩,.slice ca n c] 42)) (hc : AtIn W ca n co)
  (ha : ∀ b off cc,ca = some ⟨b,off,cc⟩ → b < W.heap.size) (hi : ∀ y ∈ co,0 ≤ y.1 ∧ y.1 ≤ 255 ∧ y.2.2.1 = (none,0,0) ∧ y.2.2.2 = []) :
  ∀ R g,W.heap.size ≤ R → W.heap.size ≤ g → MOk W R g (oneM TB FB ca n c co):=by
 intro R g hR hg
 have far : ∀ (a : Option Addr),(∀ b off cc,a = some ⟨b,off,cc⟩ → b < W.heap.size) → Far W R g a:=fun a h b off cc hb => by have:=h b off cc hb; omega
 have lT : TB < W.heap.size:=blk_lt hT
 have lF : FB < W.heap.size:=blk_lt hF
 have fn : Far W R g none:=far none (fun b off cc h => by cases h)
 refine ⟨⟨rfl,.inr ⟨TB,0,rfl,fun j x hj => ?_⟩⟩,far _ (fun b off cc h => by cases h; exact lT),⟨rfl,.inl rfl⟩,fn,fun j x hj => by simp [oneM] at hj,⟨rfl,.inl rfl⟩,fn,fun j x hj => by simp [oneM] at hj,by simp [oneM],by simp [oneM],by simp [oneM],by simp [oneM],⟨rfl,.inr ⟨FB,0,rfl,fun j x hj => ?_⟩⟩,far _ (fun b off cc h => by cases h; exact lF),fun j x hj => ?_,⟨rfl,.inl rfl⟩,fn,fun j x hj => by simp [oneM] at hj,⟨rfl,.inl rfl⟩,fn,fun j x hj => by simp [oneM] at hj⟩
 ·match j,hj with
  | 0,hj =>
   obtain rfl:=Option.some.inj hj
   exact ⟨cell_at hT,cell_at hT⟩
  | j + 1,hj => simp [oneM] at hj
 ·match j,hj with
  | 0,hj =>
   obtain rfl:=Option.some.inj hj
   exact ⟨cell_at hF,cell_at hF,cell_at hF⟩
  | j + 1,hj => simp [oneM] at hj
 ·match j,hj with
  | 0,hj =>
   obtain rfl:=Option.some.inj hj
   refine ⟨by simp,hc,(far _ ha).nz _,fun i y hi' => ?_⟩
   obtain ⟨h1,h2,h3,h4⟩:=hi y (List.mem_of_getElem? hi')
   refine ⟨h1,h2,?_,?_⟩
   ·rw [h3,h4]; exact ⟨rfl,Nat.zero_le _,Nat.zero_le _,fun z hz => by simp at hz,.inl rfl⟩
   ·rw [h3]; exact fn.nz _
  | j + 1,hj => simp [oneM] at hj
def inn (c a : Int) : InM:=(c,a,(none,0,0),[])
def co1 : List InM:=[inn 2 0,inn 24 1,inn 7 0,inn 6 0,inn 6 0]
def co2 : List InM:=[inn 24 0,inn 24 0,inn 6 0]
theorem chk1 (TB FB : Nat) (ca : Option Addr) (n c : Nat) : chkMM (oneM TB FB ca n c co1) = 0:=by kernel_rfl
theorem chk2 (TB FB : Nat) (ca : Option Addr) (n c : Nat) : chkMM (oneM TB FB ca n c co2) = 0:=by kernel_rfl
theorem er1 (TB FB : Nat) (ca : Option Addr) : ∀ i,i < 5 → erA (oneM TB FB ca 5 5 co1) (strBytes ((⟨#[]⟩ : ByteArray) ++ ⟨#[]⟩)) (co1.map inx) ⟨#[119]⟩ 5 i = 0
 | 0,_ => by kernel_rfl
 | 1,_ => by kernel_rfl
 | 2,_ => by kernel_rfl
 | 3,_ => by kernel_rfl
 | 4,_ => by kernel_rfl
 | i + 5,h => absurd h (by omega)
theorem er2 (TB FB : Nat) (ca : Option Addr) : ∀ i,i < 2 → erA (oneM TB FB ca 3 3 co2) (strBytes ((⟨#[]⟩ : ByteArray) ++ ⟨#[]⟩)) (co2.map inx) ⟨#[119]⟩ 3 i = 0
 | 0,_ => by kernel_rfl
 | 1,_ => by kernel_rfl
 | i + 2,h => absurd h (by omega)
theorem er2x (TB FB : Nat) (ca : Option Addr) : erA (oneM TB FB ca 3 3 co2) (strBytes ((⟨#[]⟩ : ByteArray) ++ ⟨#[]⟩)) (co2.map inx) ⟨#[119]⟩ 3 2 = 33:=by kernel_rfl
theorem re1 : (res (opF (co1.map inx)) 5 0).1 = 0:=by kernel_rfl
theorem re2 : (res (opF (co2.map inx)) 3 0).1 = 0:=by kernel_rfl
theorem sh1 (TB FB : Nat) (ca : Option Addr) : (stA (oneM TB FB ca 5 5 co1) (strBytes ((⟨#[]⟩ : ByteArray) ++ ⟨#[]⟩)) (co1.map inx) ⟨#[119]⟩ 5 5).sh = [⟨#[]⟩,⟨#[]⟩,⟨#[119]⟩,⟨#[119]⟩,⟨#[119]⟩]:=by kernel_rfl
theorem hi1 (TB FB : Nat) (ca : Option Addr) : (stA (oneM TB FB ca 5 5 co1) (strBytes ((⟨#[]⟩ : ByteArray) ++ ⟨#[]⟩)) (co1.map inx) ⟨#[119]⟩ 5 5).hi = 1:=by kernel_rfl
theorem out1 {TB FB : Nat} {ca : Option Addr} {w w' : World} {e : Ending} (h : OutM (oneM TB FB ca 5 5 co1) w e w') : Below w.heap.size w w' ∧ ∃ TT SH,w.heap.size ≤ TT ∧ w.heap.size ≤ SH ∧ e = .returned (.tuple #[.slice (some ⟨TT,0,none⟩) 1 1,.int .i64 0,.int .i64 0,.int .i64 0]) ∧
  w'.cell? ⟨TT,0,none⟩ = some (.slice (some ⟨SH,0,none⟩) 5 5) ∧ w'.cell? ⟨TT,4,none⟩ = some (.int .i64 1) ∧ ∀ (j : Nat) x,[(⟨#[]⟩ : ByteArray),⟨#[]⟩,⟨#[119]⟩,⟨#[119]⟩,⟨#[119]⟩][j]? = some x → w'.cell? ⟨SH,j,none⟩ = some (.string x):=by
 refine ⟨h.1,?_⟩
 rcases h.2 with ⟨h1,_⟩ | ⟨_,k,x,E,pc,hx,hE,hE0,_,_⟩ | ⟨_,TT,arr,hTT,he,hA,hs,ht⟩
 ·exact absurd (chk1 _ _ _ _ _) h1
 ·exfalso
  match k,hx with
  | 0,hx =>
   obtain rfl:=Option.some.inj hx
   rcases hE with ⟨hr,_⟩ | ⟨_,P,Q,hP,j,hj,_,hj2,_⟩
   ·exact hr re1
   ·obtain ⟨rfl,rfl⟩:=Prod.mk.inj (Option.some.inj hP)
    exact hj2 (er1 TB FB ca j hj)
  | k + 1,hx => simp [oneM] at hx
 ·obtain ⟨t,hT,hq⟩:=ht 0 (0,⟨#[]⟩,(ca,5,5),co1) rfl
  obtain ⟨_,P,Q,hP,_,SH,EN,EL,FL,l1,_,_,_,rfl,r1,_⟩:=hT
  obtain ⟨rfl,rfl⟩:=Prod.mk.inj (Option.some.inj hP)
  have hsz : arr.size = 5:=hs
  have h0:=hq 0 (by omega)
  have h4:=hq 4 (by omega)
  have hh:=hi1 TB FB ca
  refine ⟨TT,SH,hTT,by omega,he,?_,?_,fun j x hj => ?_⟩
  ·rw [cell_at hA]; exact h0
  ·rw [cell_at hA]
   refine h4.trans ?_
   show some (Value.int .i64 ((stA (oneM TB FB ca 5 5 co1) (strBytes ((⟨#[]⟩ : ByteArray) ++ ⟨#[]⟩)) (co1.map inx) ⟨#[119]⟩ 5 5).hi : Int)) = _
   rw [hh]; rfl
  ·rw [sh1] at r1
   rw [r1.cell j (by have:=lt_of_get hj; simpa using this),List.getElem?_map,hj]; rfl
theorem out2 {TB FB : Nat} {ca : Option Addr} {w w' : World} {e : Ending} (h : OutM (oneM TB FB ca 3 3 co2) w e w') : Below w.heap.size w w' ∧ e = .returned (.tuple #[.slice none 0 0,.int .i64 33,.int .i64 0,.int .i64 2]):=by
 refine ⟨h.1,?_⟩
 rcases h.2 with ⟨h1,_⟩ | ⟨_,k,x,E,pc,hx,hE,hE0,_,he⟩ | ⟨_,TT,arr,hTT,he,hA,hs,ht⟩
 ·exact absurd (chk2 _ _ _ _ _) h1
 ·match k,hx with
  | 0,hx =>
   obtain rfl:=Option.some.inj hx
   rcases hE with ⟨hr,_⟩ | ⟨_,P,Q,hP,j,hj,hz,hj2,rfl,rfl⟩
   ·exact absurd re2 hr
   ·obtain ⟨rfl,rfl⟩:=Prod.mk.inj (Option.some.inj hP)
    have hj3 : j < 3:=hj
    have : j = 2:=by
     rcases Nat.lt_or_ge j 2 with h | h
     ·exact absurd (er2 TB FB ca j h) hj2
     ·omega
    subst this
    rw [he]
    have hx2:=er2x TB FB ca
    show Ending.returned (.tuple #[_,.int .i64 (erA (oneM TB FB ca 3 3 co2) (strBytes ((⟨#[]⟩ : ByteArray) ++ ⟨#[]⟩)) (co2.map inx) ⟨#[119]⟩ 3 2),_,_]) = _
    rw [hx2]; rfl
  | k + 1,hx => simp [oneM] at hx
 ·exfalso
  obtain ⟨t,hT,hq⟩:=ht 0 (0,⟨#[]⟩,(ca,3,3),co2) rfl
  obtain ⟨_,P,Q,hP,hz,_⟩:=hT
  obtain ⟨rfl,rfl⟩:=Prod.mk.inj (Option.some.inj hP)
  have h3 : erA (oneM TB FB ca 3 3 co2) (strBytes ((⟨#[]⟩ : ByteArray) ++ ⟨#[]⟩)) (co2.map inx) ⟨#[119]⟩ 3 2 = 0:=hz 2 (by show 2 < 3; omega)
  have hx2:=er2x TB FB ca
  rw [h3] at hx2
  exact absurd hx2 (by decide)
end Go.Proofs.YtepnnenohjfkbaaGreatDoor

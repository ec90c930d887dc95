/-
  Texts Vee Vgg Ie.
-/
import Derived.Test.YtepcmfegggdjfaaGreatDoorQ07
import Derived.Test.YtepcmfegggdjfaaGreatDoorQ39
set_option linter.unusedVariables false
set_option maxRecDepth 100000
set_option maxHeartbeats 16000000
namespace Go.Proofs.YtepcmfegggdjfaaGreatDoor
open Go.RowKit
theorem listE_zero {α : Type} {f : List α → α → Int} {most : Int} {xs : List α} (h : listE f most xs = 0) : (xs.length : Int) ≤ most ∧ ∀ (j : Nat) x,xs[j]? = some x → f (xs.take j) x = 0:=by
 unfold listE at h
 split at h
 ·cases h
 ·rename_i hl
  refine ⟨by omega,fun j x hj => ?_⟩
  have:=firstE_all f xs [] h j x hj
  simpa using this
theorem chkW_of {m : MM} (h : chkMM m = 0) : e1 m = 0 ∧ e2 m = 0 ∧ e3 m = 0 ∧ e6 m = 0:=by
 obtain ⟨h,_⟩:=orE_zero h
 obtain ⟨h1,h⟩:=orE_zero h
 obtain ⟨h2,h⟩:=orE_zero h
 obtain ⟨h3,h⟩:=orE_zero h
 obtain ⟨_,h⟩:=orE_zero h
 obtain ⟨_,h⟩:=orE_zero h
 exact ⟨h1,h2,h3,(orE_zero h).1⟩
theorem chkSig_zero {ah : List Sg} {x : Sg} (h : chkSig ah x = 0) : x.1.size ≤ 8 ∧ lett x.1 8 = true ∧ x.2.size ≤ 8 ∧ lett x.2 8 = true:=by
 unfold chkSig at h
 by_cases a1 : 8 < x.1.size
 ·rw [if_pos a1] at h; cases h
 rw [if_neg a1] at h
 by_cases a2 : lett x.1 8 = false
 ·rw [if_pos a2] at h; cases h
 rw [if_neg a2] at h
 by_cases a3 : 8 < x.2.size
 ·rw [if_pos a3] at h; cases h
 rw [if_neg a3] at h
 by_cases a4 : lett x.2 8 = false
 ·rw [if_pos a4] at h; cases h
 exact ⟨by omega,by simpa using a2,by omega,by simpa using a4⟩
theorem chkFuM_zero {sg : List Sg} {left ty : Int} {lo : ByteArray} {xs : List InM} (h : chkFuM sg left ty lo xs = 0) : 0 ≤ ty ∧ ty < sg.length ∧ lo.size + (parsOf sg ty).size ≤ 64 ∧ lett lo 64 = true ∧ xs.length ≤ 2048 ∧ ∀ (j : Nat) x,xs[j]? = some x → chkIn x = 0:=by
 unfold chkFuM at h
 by_cases a1 : ty < 0 ∨ (sg.length : Int) ≤ ty
 ·rw [if_pos a1] at h; cases h
 rw [if_neg a1] at h
 by_cases a2 : 64 < lo.size + (parsOf sg ty).size
 ·rw [if_pos a2] at h; cases h
 rw [if_neg a2] at h
 by_cases a3 : lett lo 64 = false
 ·rw [if_pos a3] at h; cases h
 rw [if_neg a3] at h
 by_cases a4 : min 2048 left < (xs.length : Int)
 ·rw [if_pos a4] at h; cases h
 rw [if_neg a4] at h
 exact ⟨by omega,by omega,by omega,by simpa using a3,by omega,fun j x hj => by simpa using firstE_all _ xs [] h j x hj⟩
theorem chk_zero {t : Int} {g : Bool} {a : Int} {l : List Int} (h : chk t g a l = 0) : lo t g ≤ a ∧ a ≤ hi t g ∧ l.length ≤ 16 ∧ (t = 3 → 0 < l.length):=by
 unfold chk at h
 by_cases a1 : t = -1
 ·rw [if_pos a1] at h; cases h
 rw [if_neg a1] at h
 by_cases a2 : a < lo t g ∨ hi t g < a
 ·rw [if_pos a2] at h; cases h
 rw [if_neg a2] at h
 by_cases a3 : t = 3
 ·rw [if_pos a3] at h
  by_cases a4 : l.length < 1 ∨ 16 < l.length
  ·rw [if_pos a4] at h; cases h
  ·exact ⟨by omega,by omega,by omega,fun _ => by omega⟩
 ·rw [if_neg a3] at h
  by_cases a4 : l.length = 0
  ·exact ⟨by omega,by omega,by omega,fun e => absurd e a3⟩
  ·rw [if_neg a4] at h; cases h
theorem tk9 : tkV 9 = 3:=by kernel_rfl
theorem evw_of {w : World} {R g : Nat} {m : MM} (h0 : chkMM m = 0) (hm : MOk w R g m) (hk : KindsOk w) (hp : 0 < w.heap.size) : EvW w m:=by
 obtain ⟨h1,h2,h3,h6⟩:=chkW_of h0
 obtain ⟨l1,a1⟩:=listE_zero h1
 obtain ⟨l2,a2⟩:=listE_zero h2
 obtain ⟨l3,a3⟩:=listE_zero h3
 obtain ⟨l6,a6⟩:=listE_zero h6
 have n1:=hm.pt.1
 have n2:=hm.ph.1
 have n3:=hm.pg.1
 have n6:=hm.pf.1
 refine ⟨hm.pt,fun b off c e => (hm.tf b off c e).2.2,by omega,hm.ph,fun b off c e => (hm.hf b off c e).2.2,by omega,hm.pg,fun b off c e => (hm.gf b off c e).2.2,by omega,hm.pf,fun b off c e => (hm.ff b off c e).2.2,by omega,?_,?_,?_,?_,hk,hp⟩
 ·intro x hx
  obtain ⟨j,hj⟩:=List.mem_iff_getElem?.1 hx
  have h:=a3 j x hj
  unfold chkGl at h
  by_cases b1 : isL x.1 = false
  ·rw [if_pos b1] at h; cases h
  ·have b2 : isL x.1 = true:=by simpa using b1
   simp only [isL,Bool.or_eq_true,decide_eq_true_eq] at b2
   exact b2
 ·intro x hx
  obtain ⟨j,hj⟩:=List.mem_iff_getElem?.1 hx
  have h:=chkSig_zero (a1 j x hj)
  exact ⟨h.1,h.2.2.1⟩
 ·intro x hx
  obtain ⟨j,hj⟩:=List.mem_iff_getElem?.1 hx
  have h : chkIdx m.tn x = 0:=a2 j x hj
  unfold chkIdx at h
  by_cases b1 : x < 0 ∨ (m.tn : Int) ≤ x
  ·rw [if_pos b1] at h; cases h
  ·omega
 ·intro x hx
  obtain ⟨j,hj⟩:=List.mem_iff_getElem?.1 hx
  have h:=chkFuM_zero (a6 j x hj)
  exact ⟨h.1,by rw [← n1]; exact h.2.1⟩
def inx (y : InM) : Inx:=⟨y.1,y.2.1,y.2.2.1.1,y.2.2.1.2.1,y.2.2.1.2.2,y.2.2.2⟩
theorem getD_inx {xs : List InM} {j : Nat} {y : InM} (h : xs[j]? = some y) : (xs.map inx).getD j dx = inx y:=by
 simp [List.getD,h]
theorem letters_cat {a b : ByteArray} {m n : Nat} (ha : lett a m = true) (hb : lett b n = true) : ∀ z ∈ strBytes (a ++ b),z = 119 ∨ z = 108:=by
 intro z hz
 unfold strBytes at hz
 rw [List.mem_map] at hz
 obtain ⟨c,hc,rfl⟩:=hz
 rw [ByteArray.data_append,Array.toList_append,List.mem_append] at hc
 have h : c = 119 ∨ c = 108:=by
  rcases hc with hc | hc
  ·exact ((lett_mem a m).1 ha).1 c hc
  ·exact ((lett_mem b n).1 hb).1 c hc
 rcases h with rfl | rfl
 ·exact .inl rfl
 ·exact .inr rfl
theorem fn_of {w : World} {R g : Nat} {m : MM} (h0 : chkMM m = 0) (hm : MOk w R g m) {k : Nat} {x : FuM} (hx : m.fns[k]? = some x) :
  ∃ (t : Nat) (P Q : ByteArray),x.1 = (t : Int) ∧ m.types[t]? = some (P,Q) ∧ P.size + x.2.1.size ≤ 64 ∧ (∀ z ∈ strBytes (P ++ x.2.1),z = 119 ∨ z = 108) ∧ x.2.2.1.2.1 ≤ 2048 ∧ CodS w x.2.2.1.1 x.2.2.1.2.1 (x.2.2.2.map inx) ∧
   ∀ j,j < x.2.2.1.2.1 → ((x.2.2.2.map inx).getD j dx).ln ≤ 100000 ∧ (((x.2.2.2.map inx).getD j dx).c = 9 → 0 < ((x.2.2.2.map inx).getD j dx).ln):=by
 obtain ⟨h1,h2,h3,h6⟩:=chkW_of h0
 have hs:=(listE_zero h1).2
 have hf:=chkFuM_zero ((listE_zero h6).2 k x hx)
 obtain ⟨b1,b2,b3,b4,b5,b6⟩:=hf
 obtain ⟨_,hin,_,hy⟩:=hm.fr k x hx
 obtain ⟨t,ht⟩ : ∃ t : Nat,x.1 = (t : Int):=⟨x.1.toNat,by omega⟩
 have htl : t < m.types.length:=by omega
 obtain ⟨p,hp⟩ : ∃ p,m.types[t]? = some p:=⟨_,List.getElem?_eq_getElem htl⟩
 have hsz : x.2.2.2.length = x.2.2.1.2.1:=hin.1
 have hpar : parsOf m.types x.1 = p.1:=by rw [ht]; exact parsOf_eq (p:=p.1) (r:=p.2) hp
 rw [hpar] at b3
 have hI : ∀ (i : Nat) y,x.2.2.2[i]? = some y → y.2.2.1.2.1 ≤ 16 ∧ (y.1 = 9 → 0 < y.2.2.1.2.1) ∧ -9223372036854775808 ≤ y.2.1 ∧ y.2.1 ≤ 9223372036854775807:=by
  intro i y hi'
  have hc:=chk_zero (b6 i y hi')
  have hg:=(hy i y hi').2.2.1
  have hl : y.2.2.2.length = y.2.2.1.2.1:=hg.1
  have q1:=(lo_range (tkV y.1) (lgV y.1)).1
  have q2:=hi_range (tkV y.1) (lgV y.1)
  refine ⟨by omega,fun e => ?_,by omega,by omega⟩
  rw [← hl]
  exact hc.2.2.2 (by rw [e]; exact tk9)
 refine ⟨t,p.1,p.2,ht,hp,by omega,letters_cat (chkSig_zero (hs t p hp)).2.1 b4,by omega,⟨by rw [List.length_map]; exact hsz,hin.2.imp id ?_⟩,?_⟩
 ·rintro ⟨b,off,ha,hc⟩
  refine ⟨b,off,ha,by rw [List.length_map]; exact hsz,fun j hj => ?_⟩
  obtain ⟨y,hyj⟩ : ∃ y,x.2.2.2[j]? = some y:=⟨_,List.getElem?_eq_getElem (by omega)⟩
  rw [getD_inx hyj]
  have c:=hc j y hyj
  have r:=hy j y hyj
  have i:=hI j y hyj
  exact ⟨c.1,c.2.1,c.2.2,r.1,r.2.1,i.2.2.1,i.2.2.2,by show y.2.2.1.2.1 ≤ _; omega,fun _ => r.2.2.1⟩
 ·intro j hj
  obtain ⟨y,hyj⟩ : ∃ y,x.2.2.2[j]? = some y:=⟨_,List.getElem?_eq_getElem (by omega)⟩
  rw [getD_inx hyj]
  have i:=hI j y hyj
  exact ⟨by show y.2.2.1.2.1 ≤ _; omega,i.2.1⟩
def OutF (m : MM) (x : FuM) (w : World) (e : Ending) (w' : World) : Prop :=
 Below w.heap.size w w' ∧
 (((res (opF (x.2.2.2.map inx)) x.2.2.1.2.1 0).1 ≠ 0 ∧ e = .returned (.tuple #[.agg zT,.int .i64 (res (opF (x.2.2.2.map inx)) x.2.2.1.2.1 0).1,.int .i64 (res (opF (x.2.2.2.map inx)) x.2.2.1.2.1 0).2])) ∨
  (Good (opF (x.2.2.2.map inx)) x.2.2.1.2.1 ∧ ∃ P Q,m.types[x.1.toNat]? = some (P,Q) ∧ Out30 m (strBytes (P ++ x.2.1)) (x.2.2.2.map inx) Q x.2.2.1.2.1 w e w'))
theorem check30 {w : World} {R g : Nat} {m : MM} (h0 : chkMM m = 0) (hm : MOk w R g m) (hk : KindsOk w) (hp : 0 < w.heap.size) {k : Nat} {x : FuM} (hx : m.fns[k]? = some x) (hcap : x.2.2.1.2.1 ≤ x.2.2.1.2.2) :
  Calls Tryz.prog 35 #[.agg (mV m),.agg #[.int .i64 x.1,.string x.2.1,.slice x.2.2.1.1 x.2.2.1.2.1 x.2.2.1.2.2]] w (OutF m x w):=by
 obtain ⟨t,P,Q,ht,hP,h64,hll,hn,hc,hbr⟩:=fn_of h0 hm hx
 by_cases hE : (res (opF (x.2.2.2.map inx)) x.2.2.1.2.1 0).1 = 0
 ·have hG : Good (opF (x.2.2.2.map inx)) x.2.2.1.2.1:=res_okp _ 0 (Nat.zero_add _) (fun i hi => absurd hi (Nat.not_lt_zero _)) hE
  rw [ht]
  refine (check30_in m t P Q x.2.1 _ _ _ _ hn hcap hc (res_good_back hG) hG (evw_of h0 hm hk hp) hP h64 hll hbr).mono fun e w' h => ⟨h.1,.inr ⟨hG,P,Q,by rw [ht]; exact hP,h⟩⟩
 ·exact (check30_map m x.1 x.2.1 _ _ _ _ hn hcap hc hE).mono fun e w' h => ⟨h.2,.inl ⟨hE,h.1⟩⟩
def ErrF (m : MM) (x : FuM) (E pc : Int) : Prop :=
 ((res (opF (x.2.2.2.map inx)) x.2.2.1.2.1 0).1 ≠ 0 ∧ E = (res (opF (x.2.2.2.map inx)) x.2.2.1.2.1 0).1 ∧ pc = (res (opF (x.2.2.2.map inx)) x.2.2.1.2.1 0).2) ∨
 (Good (opF (x.2.2.2.map inx)) x.2.2.1.2.1 ∧ ∃ P Q,m.types[x.1.toNat]? = some (P,Q) ∧ ∃ j,j < x.2.2.1.2.1 ∧ (∀ i,i < j → erA m (strBytes (P ++ x.2.1)) (x.2.2.2.map inx) Q x.2.2.1.2.1 i = 0) ∧ erA m (strBytes (P ++ x.2.1)) (x.2.2.2.map inx) Q x.2.2.1.2.1 j ≠ 0 ∧ E = erA m (strBytes (P ++ x.2.1)) (x.2.2.2.map inx) Q x.2.2.1.2.1 j ∧ pc = (j : Int))
def TabV (m : MM) (x : FuM) (base : Nat) (w : World) (t : Array Value) : Prop :=
 Good (opF (x.2.2.2.map inx)) x.2.2.1.2.1 ∧ ∃ P Q,m.types[x.1.toNat]? = some (P,Q) ∧ (∀ i,i < x.2.2.1.2.1 → erA m (strBytes (P ++ x.2.1)) (x.2.2.2.map inx) Q x.2.2.1.2.1 i = 0) ∧ ∃ SH EN EL FL,base ≤ SH ∧ base ≤ EN ∧ base ≤ EL ∧ base ≤ FL ∧
  t = #[.slice (some ⟨SH,0,none⟩) x.2.2.1.2.1 x.2.2.1.2.1,.slice (some ⟨EN,0,none⟩) x.2.2.1.2.1 x.2.2.1.2.1,.slice (some ⟨EL,0,none⟩) x.2.2.1.2.1 x.2.2.1.2.1,.slice (some ⟨FL,0,none⟩) x.2.2.1.2.1 x.2.2.1.2.1,.int .i64 (stA m (strBytes (P ++ x.2.1)) (x.2.2.2.map inx) Q x.2.2.1.2.1 x.2.2.1.2.1).hi] ∧
  Row w 9 SH x.2.2.1.2.1 x.2.2.1.2.1 ((stA m (strBytes (P ++ x.2.1)) (x.2.2.2.map inx) Q x.2.2.1.2.1 x.2.2.1.2.1).sh.map Value.string) ∧ RI w EN x.2.2.1.2.1 (enF (opF (x.2.2.2.map inx)) x.2.2.1.2.1) ∧ RI w EL x.2.2.1.2.1 (elF (opF (x.2.2.2.map inx)) x.2.2.1.2.1) ∧ RI w FL x.2.2.1.2.1 (stA m (strBytes (P ++ x.2.1)) (x.2.2.2.map inx) Q x.2.2.1.2.1 x.2.2.1.2.1).fl
theorem TabV.kept {m : MM} {x : FuM} {base base' T : Nat} {w w' : World} {t : Array Value} (h : TabV m x base w t) (hk : Kept (fun k => k = T) w w') (hT : T < base) (hb : base' ≤ base) : TabV m x base' w' t:=by
 obtain ⟨hG,P,Q,hP,hz,SH,EN,EL,FL,l1,l2,l3,l4,ht,r1,r2,r3,r4⟩:=h
 exact ⟨hG,P,Q,hP,hz,SH,EN,EL,FL,by omega,by omega,by omega,by omega,ht,r1.kept hk (by show ¬ (SH = T); omega),r2.kept hk (by show ¬ (EN = T); omega),r3.kept hk (by show ¬ (EL = T); omega),r4.kept hk (by show ¬ (FL = T); omega)⟩
theorem OutF.cases {m : MM} {x : FuM} {w w' : World} {e : Ending} (h : OutF m x w e w') :
  (∃ E pc,ErrF m x E pc ∧ E ≠ 0 ∧ e = .returned (.tuple #[.agg zT,.int .i64 E,.int .i64 pc])) ∨
  (∃ a0 a1 a2 a3 n0 n1 n2 n3 c0 c1 c2 c3 hi,e = .returned (.tuple #[.agg #[.slice a0 n0 c0,.slice a1 n1 c1,.slice a2 n2 c2,.slice a3 n3 c3,.int .i64 hi],.int .i64 0,.int .i64 0]) ∧ TabV m x w.heap.size w' #[.slice a0 n0 c0,.slice a1 n1 c1,.slice a2 n2 c2,.slice a3 n3 c3,.int .i64 hi]):=by
 rcases h.2 with ⟨h1,h⟩ | ⟨hG,P,Q,hP,_,⟨j,hj,hz,he,h⟩ | ⟨hz,SH,EN,EL,FL,l1,l2,l3,l4,_,_,_,_,h,r1,r2,r3,r4⟩⟩
 ·exact .inl ⟨_,_,.inl ⟨h1,rfl,rfl⟩,h1,h⟩
 ·exact .inl ⟨_,_,.inr ⟨hG,P,Q,hP,j,hj,hz,he,rfl,rfl⟩,he,h⟩
 ·exact .inr ⟨_,_,_,_,_,_,_,_,_,_,_,_,_,h,hG,P,Q,hP,hz,SH,EN,EL,FL,l1,l2,l3,l4,rfl,r1,r2,r3,r4⟩
def OutM (m : MM) (w : World) (e : Ending) (w' : World) : Prop :=
 Below w.heap.size w w' ∧
 ((chkMM m ≠ 0 ∧ e = .returned (.tuple #[.slice none 0 0,.int .i64 (chkMM m),.int .i64 (-1),.int .i64 0])) ∨
  (chkMM m = 0 ∧ ∃ (k : Nat) (x : FuM) (E pc : Int),m.fns[k]? = some x ∧ ErrF m x E pc ∧ E ≠ 0 ∧ (∀ i y,i < k → m.fns[i]? = some y → ∃ W b t,TabV m y b W t) ∧ e = .returned (.tuple #[.slice none 0 0,.int .i64 E,.int .i64 k,.int .i64 pc])) ∨
  (chkMM m = 0 ∧ ∃ TT arr,w.heap.size ≤ TT ∧ e = .returned (.tuple #[.slice (some ⟨TT,0,none⟩) m.fn m.fn,.int .i64 0,.int .i64 0,.int .i64 0]) ∧ w'.heap[TT]? = some (.cells arr 74) ∧ arr.size = m.fn * 5 ∧
   ∀ (i : Nat) y,m.fns[i]? = some y → ∃ t,TabV m y (TT + 1) w' t ∧ ∀ q,q < 5 → arr[i * 5 + q]? = t[q]?))
theorem Tryz.infTab : (Tryz.prog.info? 74).map (fun i => (i.zero,i.size,i.bytes)) = some (some (.agg zT),5,104):=by kernel_rfl
theorem put5 {w : World} {T k : Nat} {arr : Array Value} (h : w.heap[T]? = some (.cells arr 74)) (hl : k * 5 + 5 ≤ arr.size) (t0 t1 t2 t3 t4 : Value) (o : Obj) :
  ∃ arr',((((((w.setCell ⟨T,k * 5,none⟩ t0).setCell ⟨T,k * 5 + 1,none⟩ t1).setCell ⟨T,k * 5 + 2,none⟩ t2).setCell ⟨T,k * 5 + 3,none⟩ t3).setCell ⟨T,k * 5 + 4,none⟩ t4).alloc o).heap[T]? = some (.cells arr' 74) ∧ arr'.size = arr.size ∧
   (∀ q,q < 5 → arr'[k * 5 + q]? = #[t0,t1,t2,t3,t4][q]?) ∧ (∀ p,p < k * 5 ∨ k * 5 + 5 ≤ p → arr'[p]? = arr[p]?) ∧ Kept (fun b => b = T) w ((((((w.setCell ⟨T,k * 5,none⟩ t0).setCell ⟨T,k * 5 + 1,none⟩ t1).setCell ⟨T,k * 5 + 2,none⟩ t2).setCell ⟨T,k * 5 + 3,none⟩ t3).setCell ⟨T,k * 5 + 4,none⟩ t4).alloc o):=by
 refine ⟨_,blk_later (below_new _ o) (setBlk (setBlk (setBlk (setBlk (setBlk h))))),by simp,fun q hq => ?_,fun p hp => ?_,((((kept_set w T _ t0).trans (kept_set _ T _ t1)).trans (kept_set _ T _ t2)).trans (kept_set _ T _ t3)).trans ((kept_set _ T _ t4).trans (kept_of (below_new _ o)))⟩
 ·have : q = 0 ∨ q = 1 ∨ q = 2 ∨ q = 3 ∨ q = 4:=by omega
  rcases this with rfl | rfl | rfl | rfl | rfl
  ·simp [Array.getElem?_setIfInBounds]; omega
  ·simp [Array.getElem?_setIfInBounds]; omega
  ·simp [Array.getElem?_setIfInBounds]; omega
  ·simp [Array.getElem?_setIfInBounds]; omega
  ·simp [Array.getElem?_setIfInBounds]; omega
 ·simp only [Array.getElem?_setIfInBounds,Array.size_setIfInBounds]
  rw [if_neg (by omega),if_neg (by omega),if_neg (by omega),if_neg (by omega),if_neg (by omega)]
theorem module10 (m : MM) (w : World) (hk : KindsOk w) (hp : 0 < w.heap.size) (hm : ∀ R g,w.heap.size ≤ R → w.heap.size ≤ g → MOk w R g m) (hcap : ∀ x ∈ m.fns,x.2.2.1.2.1 ≤ x.2.2.1.2.2) :
  Calls Tryz.prog 21 #[.agg (mV m)] w (OutM m w):=by
 have B0:=below_new w (.cells (mV m) 29)
 have b0:=heap_alloc_new w (.cells (mV m) 29)
 have hz : (w.alloc (.cells (mV m) 29)).heap.size = w.heap.size + 1:=by simp
 have HE:=hid (check31 m (w.alloc (.cells (mV m) 29)) (hk.later B0 hp) (fun R g h1 h2 => (hm R g (by omega) (by omega)).later B0))
 have HM:=hid (fun (W : World) (hb : Below w.heap.size w W) => (hm w.heap.size w.heap.size (Nat.le_refl _) (Nat.le_refl _)).later hb)
 have HK:=hid (fun (W : World) (hb : Below w.heap.size w W) => hk.later hb hp)
 have HF:=hid (hm w.heap.size w.heap.size (Nat.le_refl _) (Nat.le_refl _)).pf
 have HCP:=hid hcap
 clear hm hk hcap
 have m0 : (w.alloc (.cells (mV m) 29)).cell? ⟨w.heap.size,0,none⟩ = some (.slice m.ta m.tn m.tc):=cell_at b0
 have m1 : (w.alloc (.cells (mV m) 29)).cell? ⟨w.heap.size,1,none⟩ = some (.slice m.ha m.hn m.hc):=cell_at b0
 have m2 : (w.alloc (.cells (mV m) 29)).cell? ⟨w.heap.size,2,none⟩ = some (.slice m.ga m.gn m.gc):=cell_at b0
 have m3 : (w.alloc (.cells (mV m) 29)).cell? ⟨w.heap.size,3,none⟩ = some (.int .i64 m.fi):=cell_at b0
 have m4 : (w.alloc (.cells (mV m) 29)).cell? ⟨w.heap.size,4,none⟩ = some (.int .i64 m.mo):=cell_at b0
 have m5 : (w.alloc (.cells (mV m) 29)).cell? ⟨w.heap.size,5,none⟩ = some (.slice m.fa m.fn m.fc):=cell_at b0
 have m6 : (w.alloc (.cells (mV m) 29)).cell? ⟨w.heap.size,6,none⟩ = some (.slice m.da m.dn m.dc):=cell_at b0
 have m7 : (w.alloc (.cells (mV m) 29)).cell? ⟨w.heap.size,7,none⟩ = some (.slice m.ea m.en m.ec):=cell_at b0
 have HW : w.alloc (.cells #[.slice m.ta m.tn m.tc,.slice m.ha m.hn m.hc,.slice m.ga m.gn m.gc,.int .i64 m.fi,.int .i64 m.mo,.slice m.fa m.fn m.fc,.slice m.da m.dn m.dc,.slice m.ea m.en m.ec] 29) = w.alloc (.cells (mV m) 29):=rfl
 generalize w.alloc (.cells (mV m) 29) = W0 at *
 unfold mV at HE
 show Calls Tryz.prog 21 #[.agg #[.slice m.ta m.tn m.tc,.slice m.ha m.hn m.hc,.slice m.ga m.gn m.gc,.int .i64 m.fi,.int .i64 m.mo,.slice m.fa m.fn m.fc,.slice m.da m.dn m.dc,.slice m.ea m.en m.ec]] w _
 obtain ⟨i0,hi,hz0,hz1,hz2⟩:=info_parts Tryz.infTab
 go_enter Tryz.func21,Tryz.ntmps21
 go_wp2_with fail
 refine HE.out.mono ?_
 rintro e w2 ⟨rfl,hb2⟩
 have m0:=later_cell hb2 m0
 have m1:=later_cell hb2 m1
 have m2:=later_cell hb2 m2
 have m3:=later_cell hb2 m3
 have m4:=later_cell hb2 m4
 have m5:=later_cell hb2 m5
 have m6:=later_cell hb2 m6
 have m7:=later_cell hb2 m7
 have hB2 : Below w.heap.size w w2:=B0.trans (hb2.mono B0.size)
 have hs2 : w.heap.size + 1 ≤ w2.heap.size:=by have:=hb2.size; omega
 have HB2:=hid hB2
 have HM8:=hid (And.intro m0 (And.intro m1 (And.intro m2 (And.intro m3 (And.intro m4 (And.intro m5 (And.intro m6 m7)))))))
 clear hB2 b0 B0 HE HW hb2
 by_cases hx : chkMM m = 0
 rotate_left
 ·have hx' : (chkMM m == 0) = false:=by simpa using hx
  have HX:=hid hx
  clear m0 m1 m2 m3 m4 m5 m6 m7 hx
  generalize hce : chkMM m = ce at *
  go_wp2_with fail
  refine bodyPost_ret (v:=.tuple #[.slice none 0 0,.int .i64 ce,.int .i64 (-1),.int .i64 0]) (by simp [results,Tryz.results21,go_sem]) rfl ⟨HB2.out,.inl ⟨by rw [hce]; exact HX.out,by rw [hce]⟩⟩
 ·rw [hx]
  have hfn : m.fn ≤ 128:=by
   have:=(listE_zero (chkW_of hx).2.2.2).1
   have:=HF.out.1
   omega
  have hb3 : i0.bytes * m.fn ≤ 281474976710656:=by rw [hz2]; omega
  have hml : m.fn ≤ maxLen:=by unfold maxLen; omega
  go_wp2_with (first | (at_make; refine wpList_make_full _ rfl _ _ 41 rfl w2.heap.size 74 i0 (.agg zT) 5 Tryz.underlying41 hi hz0 hz1 .i64 .i64 _ _ m.fn rfl rfl rfl rfl hb3 hml (Nat.le_refl _) ?_; intro w1 hown hgrow; have hbel : Below w2.heap.size w2 w1:=(Below.refl _ _).grown hgrow (Nat.le_refl _) (by simp); have m5:=later_cell hbel m5))
  obtain ⟨arr0,hTT,hsz0⟩ : ∃ arr,w1.heap[w2.heap.size]? = some (.cells arr 74) ∧ arr.size = m.fn * 5:=by
   rcases hown.2 with ⟨e,_⟩ | ⟨g,cap,cur,e,h4,h5,h6,h7,h8,h9⟩
   ·cases e
   ·cases e; exact ⟨cur,h5,h8⟩
  have hT1 : w2.heap.size < w1.heap.size:=blk_lt hTT
  have hB1 : Below w.heap.size w w1:=HB2.out.trans (hbel.mono HB2.out.size)
  obtain ⟨q0,q1,q2,q3,q4,q5,q6,q7⟩:=HM8.out
  have H8:=hid (And.intro (later_cell hbel q0) (And.intro (later_cell hbel q1) (And.intro (later_cell hbel q2) (And.intro (later_cell hbel q3) (And.intro (later_cell hbel q4) (And.intro (later_cell hbel q5) (And.intro (later_cell hbel q6) (later_cell hbel q7))))))))
  have HT:=hid (And.intro hTT hsz0)
  have HB1:=hid hB1
  clear hown hgrow hi hz0 hz1 hz2 hb3 hml q0 q1 q2 q3 q4 q5 q6 q7 m0 m1 m2 m3 m4 m5 m6 m7 HM8 hTT hsz0 hB1 hbel
  go_loopw [25] (fun i wr => ∃ k : Nat,k ≤ m.fn ∧ i = .int .i64 k ∧ Kept (fun b => b = w2.heap.size) w1 wr ∧ ∃ arr,wr.heap[w2.heap.size]? = some (.cells arr 74) ∧ arr.size = m.fn * 5 ∧ ∀ (i : Nat) y,i < k → m.fns[i]? = some y → ∃ t,TabV m y (w2.heap.size + 1) wr t ∧ ∀ q,q < 5 → arr[i * 5 + q]? = t[q]?) (fun i _ => m.fn - (intOf i).toNat)
  case atStart => exact ⟨0,Nat.zero_le _,rfl,Kept.refl _ _,arr0,HT.out.1,HT.out.2,fun i y h => absurd h (Nat.not_lt_zero _)⟩
  case round =>
   obtain ⟨k,hkf,rfl,hkept,arr,hTT,hsz,htab⟩:=hrel
   obtain ⟨m0,m1,m2,m3,m4,m5,m6,m7⟩:=H8.out
   have hzr:=hkept.size
   have hBr : Below w.heap.size w wr:=HB1.out.trans (hkept.to_below (B:=w.heap.size) HB1.out.size (fun k hk h => by have : k = w2.heap.size:=h; omega))
   by_cases hlt : k < m.fn
   ·obtain ⟨x,hxk⟩ : ∃ x,m.fns[k]? = some x:=⟨_,List.getElem?_eq_getElem (by rw [HF.out.1]; exact hlt)⟩
    obtain ⟨b,off,hfa,hat⟩:=HF.out.2.resolve_left (by omega)
    have hat:=hat k x hxk
    have hbw : b < w.heap.size:=block_lt_of_cell hat.1
    have n0:=later_cell hBr hat.1
    have n1:=later_cell hBr hat.2.1
    have n2:=later_cell hBr hat.2.2
    have hwn : w.heap.size ≠ w2.heap.size:=by omega
    have m0:=hkept.cell m0 hwn
    have m1:=hkept.cell m1 hwn
    have m2:=hkept.cell m2 hwn
    have m3:=hkept.cell m3 hwn
    have m4:=hkept.cell m4 hwn
    have m5:=hkept.cell m5 hwn
    have m6:=hkept.cell m6 hwn
    have m7:=hkept.cell m7 hwn
    have H30:=hid (fun (W : World) (hb : Below w.heap.size w W) => check30 hx (HM.out W hb) (HK.out W hb) (Nat.lt_of_lt_of_le hp hb.size) hxk (HCP.out x (List.mem_of_getElem? hxk)))
    unfold mV at H30
    rw [hfa] at H30 m5
    have hk0 : (0 : Int) ≤ (k : Int):=by omega
    have hk1 : (k : Int) < (m.fn : Int):=by omega
    have HKP:=hid hkept
    have HTT:=hid hTT
    have HTB:=hid htab
    have HBR:=hid hBr
    have hwl : w.heap.size < wr.heap.size:=by omega
    have hbl : b < wr.heap.size:=by omega
    clear hkept hTT htab hBr hat
    rw [hfa]
    go_wp2_with fail
    have BA:=below_new wr (.cells #[.int .i64 x.1,.string x.2.1,.slice x.2.2.1.1 x.2.2.1.2.1 x.2.2.1.2.2] 61)
    have hBA:=HBR.out.trans (BA.mono HBR.out.size)
    have hTA:=blk_later BA HTT.out
    refine (H30.out _ hBA).mono ?_
    generalize wr.alloc (.cells #[.int .i64 x.1,.string x.2.1,.slice x.2.2.1.1 x.2.2.1.2.1 x.2.2.1.2.2] 61) = WA at *
    rintro e w3 hO
    have hb3:=hO.1
    have hT3:=blk_later hb3 hTA
    have hB3 : Below w.heap.size w w3:=hBA.trans (hb3.mono hBA.size)
    have hK3 : Kept (fun b => b = w2.heap.size) wr w3:=(kept_of BA).trans (kept_of hb3)
    have hzA:=BA.size
    have hz3:=hb3.size
    rcases hO.cases with ⟨E,pc,hErr,hE,rfl⟩ | ⟨s0,s1,s2,s3,l0,l1,l2,l3,c0,c1,c2,c3,hi,rfl,hTab⟩
    ·have hE' : (E == 0) = false:=by simpa using hE
     have HErr:=hid (And.intro hErr hE)
     have HB3:=hid hB3
     clear hErr hE hO hb3 hT3 hB3 hK3 m0 m1 m2 m3 m4 m5 m6 m7 n0 n1 n2 hTA hBA BA H30
     go_wp2_with fail
     refine bodyPost_ret (v:=.tuple #[.slice none 0 0,.int .i64 E,.int .i64 k,.int .i64 pc]) (by simp [results,Tryz.results21,go_sem]) rfl ⟨HB3.out.trans ((below_new w3 _).mono HB3.out.size),.inr (.inl ⟨hx,k,x,E,pc,hxk,HErr.out.1,HErr.out.2,fun i y hi hy => ?_,rfl⟩)⟩
     obtain ⟨t,ht,_⟩:=HTB.out i y hi hy
     exact ⟨_,_,_,ht⟩
    ·have hlen : k * 5 + 5 ≤ arr.size:=by omega
     have g : ∀ q,q < 5 → ∃ v,w3.cell? ⟨w2.heap.size,k * 5 + q,none⟩ = some v:=fun q hq => ⟨_,by rw [cell_at hT3]; exact Array.getElem?_eq_getElem (by omega)⟩
     obtain ⟨v0,g0⟩:=g 0 (by omega)
     obtain ⟨v1,g1⟩:=g 1 (by omega)
     obtain ⟨v2,g2⟩:=g 2 (by omega)
     obtain ⟨v3,g3⟩:=g 3 (by omega)
     obtain ⟨v4,g4⟩:=g 4 (by omega)
     rw [Nat.add_zero] at g0
     have fz : ∀ q,w3.frozen? ⟨w2.heap.size,q,none⟩ = false:=fun q => free_at hT3
     have f0:=fz (k * 5)
     have f1:=fz (k * 5 + 1)
     have f2:=fz (k * 5 + 2)
     have f3:=fz (k * 5 + 3)
     have f4:=fz (k * 5 + 4)
     have hTl : w2.heap.size < w3.heap.size:=blk_lt hT3
     have HTab:=hid hTab
     have HP3:=hid (And.intro hT3 (And.intro hB3 hK3))
     clear hTab hT3 hB3 hK3 g fz hO hb3 m0 m1 m2 m3 m4 m5 m6 m7 n0 n1 n2 hTA hBA BA H30
     go_wp2_with fail
     obtain ⟨hT3,hB3,hK3⟩:=HP3.out
     obtain ⟨arr',p1,p2,p3,p4,p5⟩:=put5 hT3 hlen (.slice s0 l0 c0) (.slice s1 l1 c1) (.slice s2 l2 c2) (.slice s3 l3 c3) (.int .i64 hi) (.cells #[.slice s0 l0 c0,.slice s1 l1 c1,.slice s2 l2 c2,.slice s3 l3 c3,.int .i64 hi] 74)
     refine ⟨⟨k + 1,by omega,by go_num,(HKP.out.trans hK3).trans p5,arr',p1,by omega,fun i y hi hy => ?_⟩,by simp [intOf]; omega⟩
     by_cases hik : i = k
     ·subst hik
      obtain rfl : x = y:=by rw [hxk] at hy; exact Option.some.inj hy
      exact ⟨_,HTab.out.kept p5 (by omega) (by omega),p3⟩
     ·obtain ⟨t,ht,hq⟩:=HTB.out i y (by omega) hy
      exact ⟨t,ht.kept (hK3.trans p5) (by omega) (Nat.le_refl _),fun q hq' => by rw [p4 _ (by omega)]; exact hq q hq'⟩
   ·obtain rfl : k = m.fn:=by omega
    have HQ:=hid (And.intro hBr (And.intro hTT htab))
    clear m0 m1 m2 m3 m4 m5 m6 m7 hBr hTT htab hkept
    go_wp2_with fail
    obtain ⟨hBr,hTT,htab⟩:=HQ.out
    refine bodyPost_ret (v:=.tuple #[.slice (some ⟨w2.heap.size,0,none⟩) m.fn m.fn,.int .i64 0,.int .i64 0,.int .i64 0]) (by simp [results,Tryz.results21,go_sem]) rfl ⟨hBr,.inr (.inr ⟨hx,w2.heap.size,arr,by omega,rfl,hTT,hsz,fun i y hy => htab i y (by rw [← HF.out.1]; exact lt_of_get hy) hy⟩)⟩
theorem chkW_all {m : MM} (h : chkMM m = 0) : e4 m = 0 ∧ e7 m = 0 ∧ e8 m = 0:=by
 obtain ⟨h,_⟩:=orE_zero h
 obtain ⟨_,h⟩:=orE_zero h
 obtain ⟨_,h⟩:=orE_zero h
 obtain ⟨_,h⟩:=orE_zero h
 obtain ⟨h4,h⟩:=orE_zero h
 obtain ⟨_,h⟩:=orE_zero h
 obtain ⟨_,h⟩:=orE_zero h
 obtain ⟨h7,h8⟩:=orE_zero h
 exact ⟨h4,h7,h8⟩
theorem chkDaT_zero {room : Int} {ah : List DaM} {x : DaM} (h : chkDaT room ah x = 0) : 0 ≤ x.1 ∧ touchT ah x.1 = false ∧ x.1 + (x.2.2.length : Int) ≤ room ∧ x.2.2.length ≠ 0:=by
 unfold chkDaT at h
 by_cases a1 : x.1 < 0 ∨ room < x.1
 ·rw [if_pos a1] at h; cases h
 rw [if_neg a1] at h
 by_cases a2 : touchT ah x.1 = true
 ·rw [if_pos a2] at h; cases h
 rw [if_neg a2] at h
 by_cases a3 : room - x.1 < (x.2.2.length : Int)
 ·rw [if_pos a3] at h; cases h
 rw [if_neg a3] at h
 by_cases a4 : x.2.2.length = 0
 ·rw [if_pos a4] at h; cases h
 exact ⟨by omega,by simpa using a2,by omega,a4⟩
theorem data_of {m : MM} (h : chkMM m = 0) : ∃ n : Nat,m.fi = (n : Int) ∧ n ≤ 64 ∧ m.data.length ≤ 64 ∧ m.exps.length ≤ 64 ∧ FitD (n * 4096) m.data ∧ OrdD m.data:=by
 obtain ⟨h4,h7,h8⟩:=chkW_all h
 have hp : 0 ≤ m.fi ∧ m.fi ≤ 64:=by
  unfold e4 chkPg at h4
  by_cases a : m.fi < 0 ∨ 64 < m.fi
  ·rw [if_pos a] at h4; cases h4
  ·omega
 obtain ⟨hl,hd⟩:=listE_zero h7
 obtain ⟨n,hn⟩ : ∃ n : Nat,m.fi = (n : Int):=⟨m.fi.toNat,by omega⟩
 have he:=(listE_zero h8).1
 have hfit : FitD (n * 4096) m.data:=fun j x hj => by
  have:=chkDaT_zero (hd j x hj)
  exact ⟨this.1,by have:=this.2.2.1; rw [hn] at this; omega,this.2.2.2⟩
 refine ⟨n,hn,by omega,by omega,by omega,hfit,?_⟩
 have step : ∀ (i : Nat) x y,m.data[i]? = some x → m.data[i + 1]? = some y → x.1 + (x.2.2.length : Int) < y.1:=fun i x y hx hy => by
  have hc:=(chkDaT_zero (hd (i + 1) y hy)).2.1
  have hi:=lt_of_get hx
  have e2 : (m.data.take (i + 1)).getLast? = some x:=by
   rw [List.take_succ_eq_append_getElem hi]
   rw [List.getElem?_eq_getElem hi] at hx
   simp at hx
   simp [hx]
  unfold touchT at hc
  rw [e2] at hc
  simp at hc
  omega
 intro i j x y hij hx hy
 obtain ⟨q,rfl⟩ : ∃ q,j = i + 1 + q:=⟨j - i - 1,by omega⟩
 clear hij
 induction q generalizing y with
 | zero => exact step i x y hx hy
 | succ q ih =>
  have hl:=lt_of_get hy
  obtain ⟨z,hz⟩ : ∃ z,m.data[i + 1 + q]? = some z:=⟨_,List.getElem?_eq_getElem (by omega)⟩
  have h1:=ih z hz
  have h2:=step (i + 1 + q) z y hz hy
  omega
def BadM (m : MM) : Prop:=chkMM m ≠ 0 ∨ ∃ (k : Nat) (x : FuM) (E pc : Int),m.fns[k]? = some x ∧ ErrF m x E pc ∧ E ≠ 0
def OutFd (m : MM) (s : ByteArray) (w : World) (e : Ending) (w' : World) : Prop :=
 Below w.heap.size w w' ∧
 ((BadM m ∧ ∃ E,E ≠ 0 ∧ e = .returned (.tuple #[.int .i64 0,.int .i64 E])) ∨
  (chkMM m = 0 ∧ (∀ (i : Nat) x,m.exps[i]? = some x → x.1 ≠ s) ∧ e = .returned (.tuple #[.int .i64 0,.int .i64 41])) ∨
  (chkMM m = 0 ∧ ∃ (j : Nat) (x : Ex),m.exps[j]? = some x ∧ x.1 = s ∧ (∀ (i : Nat) y,i < j → m.exps[i]? = some y → y.1 ≠ s) ∧ e = .returned (.tuple #[.int .i64 x.2,.int .i64 0])))
theorem fnd14 (m : MM) (s : ByteArray) (w : World) (hk : KindsOk w) (hp : 0 < w.heap.size) (hm : ∀ R g,w.heap.size ≤ R → w.heap.size ≤ g → MOk w R g m) (hcap : ∀ x ∈ m.fns,x.2.2.1.2.1 ≤ x.2.2.1.2.2) :
  Calls Tryz.prog 14 #[.agg (mV m),.string s] w (OutFd m s w):=by
 have B0:=below_new w (.cells (mV m) 29)
 have hz : (w.alloc (.cells (mV m) 29)).heap.size = w.heap.size + 1:=by simp
 have HE:=hid (module10 m (w.alloc (.cells (mV m) 29)) (hk.later B0 hp) (by omega) (fun R g h1 h2 => (hm R g (by omega) (by omega)).later B0) hcap)
 have HP:=hid (hm w.heap.size w.heap.size (Nat.le_refl _) (Nat.le_refl _)).pe
 have HB0:=hid B0
 have b0:=heap_alloc_new w (.cells (mV m) 29)
 have m7 : (w.alloc (.cells (mV m) 29)).cell? ⟨w.heap.size,7,none⟩ = some (.slice m.ea m.en m.ec):=cell_at b0
 have HM7:=hid m7
 clear hm hk hcap B0 b0 hz m7
 unfold mV at HE HM7 HB0
 show Calls Tryz.prog 14 #[.agg #[.slice m.ta m.tn m.tc,.slice m.ha m.hn m.hc,.slice m.ga m.gn m.gc,.int .i64 m.fi,.int .i64 m.mo,.slice m.fa m.fn m.fc,.slice m.da m.dn m.dc,.slice m.ea m.en m.ec],.string s] w _
 go_enter Tryz.func14,Tryz.ntmps14
 go_wp2_with fail
 refine HE.out.mono ?_
 rintro e w2 hO
 have hb2:=hO.1
 have HB2 : Hid (Below w.heap.size w w2):=hid (HB0.out.trans (hb2.mono HB0.out.size))
 have m7:=later_cell hb2 HM7.out
 have HN : Hid (w.heap.size < w2.heap.size):=hid (by have:=hb2.size; simp at this; omega)
 rcases hO.2 with ⟨h1,rfl⟩ | ⟨h1,k,x,E,pc,hx,hE,hE0,_,rfl⟩ | ⟨h1,TT,arr,_,rfl,_⟩
 ·have hx' : (chkMM m == 0) = false:=by simpa using h1
  have HX:=hid h1
  clear h1 hO
  generalize hce : chkMM m = ce at *
  go_wp2_with fail
  exact bodyPost_ret (v:=.tuple #[.int .i64 0,.int .i64 ce]) (by simp [results,Tryz.results14,go_sem]) rfl ⟨HB2.out,.inl ⟨.inl (by rw [hce]; exact HX.out),ce,HX.out,rfl⟩⟩
 ·have hx' : (E == 0) = false:=by simpa using hE0
  have HX:=hid (And.intro hx (And.intro hE hE0))
  clear hx hE hE0 hO
  go_wp2_with fail
  exact bodyPost_ret (v:=.tuple #[.int .i64 0,.int .i64 E]) (by simp [results,Tryz.results14,go_sem]) rfl ⟨HB2.out,.inl ⟨.inr ⟨k,x,E,pc,HX.out⟩,E,HX.out.2.2,rfl⟩⟩
 ·clear hO
  have HX:=hid h1
  have hen : m.en ≤ 64:=by
   obtain ⟨_,_,_,_,h,_⟩:=data_of h1
   rw [HP.out.1] at h
   exact h
  clear h1
  go_wp2_with fail
  go_loopw [25] (fun i wr => ∃ k : Nat,k ≤ m.en ∧ i = .int .i64 k ∧ Hid (Below w2.heap.size w2 wr ∧ ∀ (i : Nat) x,i < k → m.exps[i]? = some x → x.1 ≠ s)) (fun i _ => m.en - (intOf i).toNat)
  case atStart => exact ⟨0,Nat.zero_le _,rfl,hid ⟨Below.refl _ _,fun i x h => absurd h (Nat.not_lt_zero _)⟩⟩
  case round =>
   obtain ⟨k,hkn,rfl,HR⟩:=hrel
   by_cases hlt : k < m.en
   ·obtain ⟨x,hx⟩ : ∃ x,m.exps[k]? = some x:=⟨_,List.getElem?_eq_getElem (by rw [HP.out.1]; exact hlt)⟩
    obtain ⟨b,off,hea,hat⟩:=HP.out.2.resolve_left (by omega)
    obtain ⟨q0,q1⟩:=hat k x hx
    have hbb : Below w.heap.size w wr:=HB2.out.trans (HR.out.1.mono HB2.out.size)
    have g0:=later_cell hbb q0
    have g1:=later_cell hbb q1
    have HBB:=hid hbb
    have HX1:=hid hx
    have hlt' : (k : Int) < (m.en : Int):=by omega
    generalize m.ea = ea at *
    subst hea
    have hal:=below_new wr (.cells #[.string x.1,.int .i64 x.2] 64)
    have HAL:=hid hal
    clear q0 q1 hat hx hbb hal
    by_cases hs : x.1 = s
    ·have hs1 : (x.1.toList == s.toList) = true:=by rw [hs]; simp
     have HSS:=hid hs
     clear hs
     go_wp2_with fail
     exact bodyPost_ret (v:=.tuple #[.int .i64 x.2,.int .i64 0]) (by simp [results,Tryz.results14,go_sem]) rfl ⟨HBB.out.trans (HAL.out.mono HBB.out.size),.inr (.inr ⟨HX.out,k,x,HX1.out,HSS.out,HR.out.2,rfl⟩)⟩
    ·have hs1 : (x.1.toList == s.toList) = false:=by
      rw [ba_toList,ba_toList]
      simpa using fun h : x.1.data.toList = s.data.toList => hs (ba_ext h)
     have HSS:=hid hs
     clear hs
     go_wp2_with fail
     exact ⟨⟨k + 1,by omega,by go_num,hid ⟨HR.out.1.trans (HAL.out.mono HR.out.1.size),fun i y hi hy => by
      by_cases hik : i < k
      ·exact HR.out.2 i y hik hy
      ·obtain rfl : i = k:=by omega
       rw [HX1.out] at hy
       injection hy with hy
       rw [← hy]; exact HSS.out⟩⟩,by simp [intOf]; omega⟩
   ·obtain hke : k = m.en:=by omega
    have hle : ¬ (k : Int) < (m.en : Int):=by omega
    have HKE:=hid hke
    clear hke
    go_wp2_with fail
    exact bodyPost_ret (v:=.tuple #[.int .i64 0,.int .i64 41]) (by simp [results,Tryz.results14,go_sem]) rfl ⟨HB2.out.trans (HR.out.1.mono HB2.out.size),.inr (.inl ⟨HX.out,fun i x hx => HR.out.2 i x (by have:=lt_of_get hx; rw [HP.out.1] at this; have:=HKE.out; omega) hx,rfl⟩)⟩
end Go.Proofs.YtepcmfegggdjfaaGreatDoor

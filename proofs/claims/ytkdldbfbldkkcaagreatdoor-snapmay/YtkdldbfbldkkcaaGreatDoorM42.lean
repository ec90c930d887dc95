/-
  Texts Vee Vgg Cj Cb.
-/
import Derived.BigQuiet
import Derived.Deep.QuietTactic
import Derived.Test.YtkdldbfbldkkcaaGreatDoorM00
import Derived.Test.YtkdldbfbldkkcaaGreatDoorM04
import Derived.Test.YtkdldbfbldkkcaaGreatDoorM41
set_option linter.unusedVariables false
set_option maxRecDepth 100000
set_option maxHeartbeats 16000000
namespace Go.Proofs.YtkdldbfbldkkcaaGreatDoor
open Go.RowKit
theorem dB {α : Type} {f : List α → α → Int} {most : Int} {xs : List α} (h : bS f most xs = 0) : (xs.length : Int) ≤ most ∧ ∀ (j : Nat) x,xs[j]? = some x → f (xs.take j) x = 0:=by
 unfold bS at h
 split at h
 ·cases h
 ·rename_i hl
  refine ⟨ae,fun j x hj => ?_⟩
  have:=bu f xs [] h j x hj
  exact cm
theorem mg {m : MM} (h : cN m = 0) : e1 m = 0 ∧ e2 m = 0 ∧ e3 m = 0 ∧ e6 m = 0:=by
 obtain ⟨h,_⟩:=bA h;obtain ⟨h1,h⟩:=bA h;obtain ⟨h2,h⟩:=bA h;obtain ⟨h3,h⟩:=bA h;obtain ⟨_,h⟩:=bA h;obtain ⟨_,h⟩:=bA h;exact ⟨h1,h2,h3,(bA h).1⟩
theorem nV {ah : List Sg} {x : Sg} (h : cZ ah x = 0) : x.1.size ≤ 8 ∧ cA x.1 8 = true ∧ x.2.size ≤ 8 ∧ cA x.2 8 = true:=by
 unfold cZ at h
 by_cases a1 : 8 < x.1.size
 ·rw [if_pos a1] at h; cases h
 rw [if_neg a1] at h
 by_cases a2 : cA x.1 8 = false
 ·rw [if_pos a2] at h; cases h
 rw [if_neg a2] at h
 by_cases a3 : 8 < x.2.size
 ·rw [if_pos a3] at h; cases h
 rw [if_neg a3] at h
 by_cases a4 : cA x.2 8 = false
 ·rw [if_pos a4] at h; cases h
 exact ⟨ae,by simpa using a2,ae,by simpa using a4⟩
theorem nK {sg : List Sg} {left ty : Int} {lo : ByteArray} {xs : List InM} (h : gY sg left ty lo xs = 0) : 0 ≤ ty ∧ ty < sg.length ∧ lo.size + (kO sg ty).size ≤ 64 ∧ cA lo 64 = true ∧ xs.length ≤ 2048 ∧ ∀ (j : Nat) x,xs[j]? = some x → fA x = 0:=by
 unfold gY at h
 by_cases a1 : ty < 0 ∨ (sg.length : Int) ≤ ty
 ·rw [if_pos a1] at h; cases h
 rw [if_neg a1] at h
 by_cases a2 : 64 < lo.size + (kO sg ty).size
 ·rw [if_pos a2] at h; cases h
 rw [if_neg a2] at h
 by_cases a3 : cA lo 64 = false
 ·rw [if_pos a3] at h; cases h
 rw [if_neg a3] at h
 by_cases a4 : min 2048 left < (xs.length : Int)
 ·rw [if_pos a4] at h; cases h
 rw [if_neg a4] at h
 exact ⟨ae,ae,ae,by simpa using a3,ae,fun j x hj => by simpa using bu _ xs [] h j x hj⟩
theorem GH {t : Int} {g : Bool} {a : Int} {l : List Int} (h : chk t g a l = 0) : lo t g ≤ a ∧ a ≤ hi t g ∧ l.length ≤ 16 ∧ (t = 3 → 0 < l.length):=by
 unfold chk at h
 by_cases a1 : t = -1
 ·rw [if_pos a1] at h; cases h
 rw [if_neg a1] at h
 by_cases a2 : a < lo t g ∨ hi t g < a
 ·rw [if_pos a2] at h; cases h
 rw [if_neg a2] at h
 by_cases a3 : t = 3
 ·rw [if_pos a3] at h
  by_cases a4 : l.length < 1 ∨ 16 < l.length
  ·rw [if_pos a4] at h; cases h
  ·exact ⟨ae,ae,ae,fun _ => ae⟩
 ·rw [if_neg a3] at h
  by_cases a4 : l.length = 0
  ·exact ⟨ae,ae,ae,fun e => absurd e a3⟩
  ·rw [if_neg a4] at h; cases h
theorem tk9 : tkV 9 = 3:=ak
theorem y9 {w : World} {R g : Nat} {m : MM} (h0 : cN m = 0) (hm : MOk w R g m) (hk : bf w) (hp : 0 < w.heap.size) : EvW w m:=by
 obtain ⟨h1,h2,h3,h6⟩:=mg h0;obtain ⟨l1,a1⟩:=dB h1;obtain ⟨l2,a2⟩:=dB h2;obtain ⟨l3,a3⟩:=dB h3;obtain ⟨l6,a6⟩:=dB h6;have n1:=hm.pt.1;have n2:=hm.ph.1;have n3:=hm.pg.1;have n6:=hm.pf.1
 refine ⟨hm.pt,fun b off c e => (hm.tf b off c e).2.2,ae,hm.ph,fun b off c e => (hm.hf b off c e).2.2,ae,hm.pg,fun b off c e => (hm.gf b off c e).2.2,ae,hm.pf,fun b off c e => (hm.ff b off c e).2.2,ae,?_,?_,?_,?_,hk,hp⟩
 ·intro x hx;obtain ⟨j,hj⟩:=List.mem_iff_getElem?.1 hx;have h:=a3 j x hj;unfold iR at h
  by_cases b1 : isL x.1 = false
  ·rw [if_pos b1] at h; cases h
  ·have b2 : isL x.1 = true:=by simpa using b1
   simp only [isL,Bool.or_eq_true,decide_eq_true_eq] at b2
   exact b2
 ·intro x hx;obtain ⟨j,hj⟩:=List.mem_iff_getElem?.1 hx;have h:=nV (a1 j x hj);exact ⟨h.1,h.2.2.1⟩
 ·intro x hx;obtain ⟨j,hj⟩:=List.mem_iff_getElem?.1 hx;have h : cd m.tn x = 0:=a2 j x hj;unfold cd at h
  by_cases b1 : x < 0 ∨ (m.tn : Int) ≤ x
  ·rw [if_pos b1] at h; cases h
  ·omega
 ·intro x hx;obtain ⟨j,hj⟩:=List.mem_iff_getElem?.1 hx;have h:=nK (a6 j x hj)
  exact ⟨h.1,by rw [← n1]; exact h.2.1⟩
def inx (y : InM) : Inx:=⟨y.1,y.2.1,y.2.2.1.1,y.2.2.1.2.1,y.2.2.1.2.2,y.2.2.2⟩
theorem pO {xs : List InM} {j : Nat} {y : InM} (h : xs[j]? = some y) : (xs.map inx).getD j dx = inx y:=by
 simp [List.getD,h]
theorem wD {a b : ByteArray} {m n : Nat} (ha : cA a m = true) (hb : cA b n = true) : ∀ z ∈ aL (a ++ b),z = 119 ∨ z = 108:=by
 intro z hz;unfold aL at hz;rw [List.mem_map] at hz;obtain ⟨c,hc,rfl⟩:=hz;rw [ByteArray.data_append,Array.toList_append,List.mem_append] at hc
 have h : c = 119 ∨ c = 108:=by
  rcases hc with hc | hc
  ·exact ((iV a m).1 ha).1 c hc
  ·exact ((iV b n).1 hb).1 c hc
 rcases h with rfl | rfl
 ·exact .inl rfl
 ·exact .inr rfl
theorem AJ {w : World} {R g : Nat} {m : MM} (h0 : cN m = 0) (hm : MOk w R g m) {k : Nat} {x : FuM} (hx : m.fns[k]? = some x) :
  ∃ (t : Nat) (P Q : ByteArray),x.1 = (t : Int) ∧ m.types[t]? = some (P,Q) ∧ P.size + x.2.1.size ≤ 64 ∧ (∀ z ∈ aL (P ++ x.2.1),z = 119 ∨ z = 108) ∧ x.2.2.1.2.1 ≤ 2048 ∧ xy w x.2.2.1.1 x.2.2.1.2.1 (x.2.2.2.map inx) ∧
   ∀ j,j < x.2.2.1.2.1 → ((x.2.2.2.map inx).getD j dx).ln ≤ 100000 ∧ (((x.2.2.2.map inx).getD j dx).c = 9 → 0 < ((x.2.2.2.map inx).getD j dx).ln):=by
 obtain ⟨h1,h2,h3,h6⟩:=mg h0;have hs:=(dB h1).2;have hf:=nK ((dB h6).2 k x hx);obtain ⟨b1,b2,b3,b4,b5,b6⟩:=hf;obtain ⟨_,hin,_,hy⟩:=hm.fr k x hx;obtain ⟨t,ht⟩ : ∃ t : Nat,x.1 = (t : Int):=⟨x.1.toNat,ae⟩;have htl : t < m.types.length:=ae;obtain ⟨p,hp⟩ : ∃ p,m.types[t]? = some p:=⟨_,ba htl⟩;have hsz : x.2.2.2.length = x.2.2.1.2.1:=hin.1
 have hpar : kO m.types x.1 = p.1:=by rw [ht]; exact rJ (p:=p.1) (r:=p.2) hp
 rw [hpar] at b3
 have hI : ∀ (i : Nat) y,x.2.2.2[i]? = some y → y.2.2.1.2.1 ≤ 16 ∧ (y.1 = 9 → 0 < y.2.2.1.2.1) ∧ -9223372036854775808 ≤ y.2.1 ∧ y.2.1 ≤ 9223372036854775807:=by
  intro i y hi';have hc:=GH (b6 i y hi');have hg:=(hy i y hi').2.2.1;have hl : y.2.2.2.length = y.2.2.1.2.1:=hg.1;have q1:=(qm (tkV y.1) (lgV y.1)).1;have q2:=pN (tkV y.1) (lgV y.1)
  refine ⟨ae,fun e => ?_,ae,ae⟩
  rw [← hl]
  exact hc.2.2.2 (by rw [e]; exact tk9)
 refine ⟨t,p.1,p.2,ht,hp,ae,wD (nV (hs t p hp)).2.1 b4,ae,⟨by rw [List.length_map]; exact hsz,hin.2.imp id ?_⟩,?_⟩
 ·rintro ⟨b,off,ha,hc⟩
  refine ⟨b,off,ha,by rw [List.length_map]; exact hsz,fun j hj => ?_⟩
  obtain ⟨y,hyj⟩ : ∃ y,x.2.2.2[j]? = some y:=⟨_,ba ae⟩;rw [pO hyj];have c:=hc j y hyj;have r:=hy j y hyj;have i:=hI j y hyj
  exact ⟨c.1,c.2.1,c.2.2,r.1,r.2.1,i.2.2.1,i.2.2.2,by show y.2.2.1.2.1 ≤ _; omega,fun _ => r.2.2.1⟩
 ·intro j hj;obtain ⟨y,hyj⟩ : ∃ y,x.2.2.2[j]? = some y:=⟨_,ba ae⟩;rw [pO hyj];have i:=hI j y hyj
  exact ⟨by show y.2.2.1.2.1 ≤ _; omega,i.2.1⟩
def MO (m : MM) (x : FuM) (w : World) (e : Ending) (w' : World) : Prop :=
 Below w.heap.size w w' ∧
 (((res (opF (x.2.2.2.map inx)) x.2.2.1.2.1 0).1 ≠ 0 ∧ e = .returned (.tuple #[.agg zT,.int .i64 (res (opF (x.2.2.2.map inx)) x.2.2.1.2.1 0).1,.int .i64 (res (opF (x.2.2.2.map inx)) x.2.2.1.2.1 0).2])) ∨
  (Good (opF (x.2.2.2.map inx)) x.2.2.1.2.1 ∧ ∃ P Q,m.types[x.1.toNat]? = some (P,Q) ∧ KH m (aL (P ++ x.2.1)) (x.2.2.2.map inx) Q x.2.2.1.2.1 w e w'))
theorem JN {w : World} {R g : Nat} {m : MM} (h0 : cN m = 0) (hm : MOk w R g m) (hk : bf w) (hp : 0 < w.heap.size) {k : Nat} {x : FuM} (hx : m.fns[k]? = some x) (hcap : x.2.2.1.2.1 ≤ x.2.2.1.2.2) :
  Calls Tryz.prog 25 #[.agg (mV m),.agg #[.int .i64 x.1,.string x.2.1,.slice x.2.2.1.1 x.2.2.1.2.1 x.2.2.1.2.2]] w (MO m x w):=by
 obtain ⟨t,P,Q,ht,hP,h64,hll,hn,hc,hbr⟩:=AJ h0 hm hx
 by_cases hE : (res (opF (x.2.2.2.map inx)) x.2.2.1.2.1 0).1 = 0
 ·have hG : Good (opF (x.2.2.2.map inx)) x.2.2.1.2.1:=uD _ 0 (Nat.zero_add _) (fun i hi => absurd hi (Nat.not_lt_zero _)) hE
  rw [ht]
  refine (yq m t P Q x.2.1 _ _ _ _ hn hcap hc (kH hG) hG (y9 h0 hm hk hp) hP h64 hll hbr).mono fun e w' h => ⟨h.1,.inr ⟨hG,P,Q,by rw [ht]; exact hP,h⟩⟩
 ·exact (wB m x.1 x.2.1 _ _ _ _ hn hcap hc hE).mono fun e w' h => ⟨h.2,.inl ⟨hE,h.1⟩⟩
def Mt (m : MM) (x : FuM) (E pc : Int) : Prop :=
 ((res (opF (x.2.2.2.map inx)) x.2.2.1.2.1 0).1 ≠ 0 ∧ E = (res (opF (x.2.2.2.map inx)) x.2.2.1.2.1 0).1 ∧ pc = (res (opF (x.2.2.2.map inx)) x.2.2.1.2.1 0).2) ∨
 (Good (opF (x.2.2.2.map inx)) x.2.2.1.2.1 ∧ ∃ P Q,m.types[x.1.toNat]? = some (P,Q) ∧ ∃ j,j < x.2.2.1.2.1 ∧ (∀ i,i < j → erA m (aL (P ++ x.2.1)) (x.2.2.2.map inx) Q x.2.2.1.2.1 i = 0) ∧ erA m (aL (P ++ x.2.1)) (x.2.2.2.map inx) Q x.2.2.1.2.1 j ≠ 0 ∧ E = erA m (aL (P ++ x.2.1)) (x.2.2.2.map inx) Q x.2.2.1.2.1 j ∧ pc = (j : Int))
def qY (m : MM) (x : FuM) (base : Nat) (w : World) (t : Array Value) : Prop :=
 Good (opF (x.2.2.2.map inx)) x.2.2.1.2.1 ∧ ∃ P Q,m.types[x.1.toNat]? = some (P,Q) ∧ (∀ i,i < x.2.2.1.2.1 → erA m (aL (P ++ x.2.1)) (x.2.2.2.map inx) Q x.2.2.1.2.1 i = 0) ∧ ∃ SH EN EL FL,base ≤ SH ∧ base ≤ EN ∧ base ≤ EL ∧ base ≤ FL ∧
  t = #[.slice (some ⟨SH,0,none⟩) x.2.2.1.2.1 x.2.2.1.2.1,.slice (some ⟨EN,0,none⟩) x.2.2.1.2.1 x.2.2.1.2.1,.slice (some ⟨EL,0,none⟩) x.2.2.1.2.1 x.2.2.1.2.1,.slice (some ⟨FL,0,none⟩) x.2.2.1.2.1 x.2.2.1.2.1,.int .i64 (stA m (aL (P ++ x.2.1)) (x.2.2.2.map inx) Q x.2.2.1.2.1 x.2.2.1.2.1).hi] ∧
  Row w 9 SH x.2.2.1.2.1 x.2.2.1.2.1 ((stA m (aL (P ++ x.2.1)) (x.2.2.2.map inx) Q x.2.2.1.2.1 x.2.2.1.2.1).sh.map Value.string) ∧ RI w EN x.2.2.1.2.1 (enF (opF (x.2.2.2.map inx)) x.2.2.1.2.1) ∧ RI w EL x.2.2.1.2.1 (elF (opF (x.2.2.2.map inx)) x.2.2.1.2.1) ∧ RI w FL x.2.2.1.2.1 (stA m (aL (P ++ x.2.1)) (x.2.2.2.map inx) Q x.2.2.1.2.1 x.2.2.1.2.1).fl
theorem qY.kept {m : MM} {x : FuM} {base base' T : Nat} {w w' : World} {t : Array Value} (h : qY m x base w t) (hk : Kept (fun k => k = T) w w') (hT : T < base) (hb : base' ≤ base) : qY m x base' w' t:=by
 obtain ⟨hG,P,Q,hP,hz,SH,EN,EL,FL,l1,l2,l3,l4,ht,r1,r2,r3,r4⟩:=h
 exact ⟨hG,P,Q,hP,hz,SH,EN,EL,FL,ae,ae,ae,ae,ht,r1.kept hk (by show ¬ (SH = T); omega),r2.kept hk (by show ¬ (EN = T); omega),r3.kept hk (by show ¬ (EL = T); omega),r4.kept hk (by show ¬ (FL = T); omega)⟩
theorem MO.cases {m : MM} {x : FuM} {w w' : World} {e : Ending} (h : MO m x w e w') :
  (∃ E pc,Mt m x E pc ∧ E ≠ 0 ∧ e = .returned (.tuple #[.agg zT,.int .i64 E,.int .i64 pc])) ∨
  (∃ a0 a1 a2 a3 n0 n1 n2 n3 c0 c1 c2 c3 hi,e = .returned (.tuple #[.agg #[.slice a0 n0 c0,.slice a1 n1 c1,.slice a2 n2 c2,.slice a3 n3 c3,.int .i64 hi],.int .i64 0,.int .i64 0]) ∧ qY m x w.heap.size w' #[.slice a0 n0 c0,.slice a1 n1 c1,.slice a2 n2 c2,.slice a3 n3 c3,.int .i64 hi]):=by
 rcases h.2 with ⟨h1,h⟩ | ⟨hG,P,Q,hP,_,⟨j,hj,hz,he,h⟩ | ⟨hz,SH,EN,EL,FL,l1,l2,l3,l4,_,_,_,_,h,r1,r2,r3,r4⟩⟩
 ·exact .inl ⟨_,_,.inl ⟨h1,rfl,rfl⟩,h1,h⟩
 ·exact .inl ⟨_,_,.inr ⟨hG,P,Q,hP,j,hj,hz,he,rfl,rfl⟩,he,h⟩
 ·exact .inr ⟨_,_,_,_,_,_,_,_,_,_,_,_,_,h,hG,P,Q,hP,hz,SH,EN,EL,FL,l1,l2,l3,l4,rfl,r1,r2,r3,r4⟩
def Oj (m : MM) (w : World) (e : Ending) (w' : World) : Prop :=
 Below w.heap.size w w' ∧
 ((cN m ≠ 0 ∧ e = .returned (.tuple #[.slice none 0 0,.int .i64 (cN m),.int .i64 (-1),.int .i64 0])) ∨
  (cN m = 0 ∧ ∃ (k : Nat) (x : FuM) (E pc : Int),m.fns[k]? = some x ∧ Mt m x E pc ∧ E ≠ 0 ∧ (∀ i y,i < k → m.fns[i]? = some y → ∃ W b t,qY m y b W t) ∧ e = .returned (.tuple #[.slice none 0 0,.int .i64 E,.int .i64 k,.int .i64 pc])) ∨
  (cN m = 0 ∧ ∃ TT arr,w.heap.size ≤ TT ∧ e = .returned (.tuple #[.slice (some ⟨TT,0,none⟩) m.fn m.fn,.int .i64 0,.int .i64 0,.int .i64 0]) ∧ w'.heap[TT]? = some (.cells arr 86) ∧ arr.size = m.fn * 5 ∧
   ∀ (i : Nat) y,m.fns[i]? = some y → ∃ t,qY m y (TT + 1) w' t ∧ ∀ q,q < 5 → arr[i * 5 + q]? = t[q]?))
theorem Tryz.infTab : (Tryz.prog.info? 86).map (fun i => (i.zero,i.size,i.bytes)) = some (some (.agg zT),5,104):=ak
theorem Oy {w : World} {T k : Nat} {arr : Array Value} (h : w.heap[T]? = some (.cells arr 86)) (hl : k * 5 + 5 ≤ arr.size) (t0 t1 t2 t3 t4 : Value) (o : Obj) :
  ∃ arr',((((((w.setCell ⟨T,k * 5,none⟩ t0).setCell ⟨T,k * 5 + 1,none⟩ t1).setCell ⟨T,k * 5 + 2,none⟩ t2).setCell ⟨T,k * 5 + 3,none⟩ t3).setCell ⟨T,k * 5 + 4,none⟩ t4).alloc o).heap[T]? = some (.cells arr' 86) ∧ arr'.size = arr.size ∧
   (∀ q,q < 5 → arr'[k * 5 + q]? = #[t0,t1,t2,t3,t4][q]?) ∧ (∀ p,p < k * 5 ∨ k * 5 + 5 ≤ p → arr'[p]? = arr[p]?) ∧ Kept (fun b => b = T) w ((((((w.setCell ⟨T,k * 5,none⟩ t0).setCell ⟨T,k * 5 + 1,none⟩ t1).setCell ⟨T,k * 5 + 2,none⟩ t2).setCell ⟨T,k * 5 + 3,none⟩ t3).setCell ⟨T,k * 5 + 4,none⟩ t4).alloc o):=by
 refine ⟨_,ar (aj _ o) (aS (aS (aS (aS (aS h))))),au,fun q hq => ?_,fun p hp => ?_,((((ay w T _ t0).trans (ay _ T _ t1)).trans (ay _ T _ t2)).trans (ay _ T _ t3)).trans ((ay _ T _ t4).trans (aX (aj _ o)))⟩
 ·have : q = 0 ∨ q = 1 ∨ q = 2 ∨ q = 3 ∨ q = 4:=ae
  rcases this with rfl | rfl | rfl | rfl | rfl
  ·exact mB
  ·exact mB
  ·exact mB
  ·exact mB
  ·exact mB
 ·simp only [Array.getElem?_setIfInBounds,Array.size_setIfInBounds]
  rw [if_neg ae,if_neg ae,if_neg ae,if_neg ae,if_neg ae]
theorem GQ (m : MM) (w : World) (hk : bf w) (hp : 0 < w.heap.size) (hm : ∀ R g,w.heap.size ≤ R → w.heap.size ≤ g → MOk w R g m) (hcap : ∀ x ∈ m.fns,x.2.2.1.2.1 ≤ x.2.2.1.2.2) :
  Calls Tryz.prog 15 #[.agg (mV m)] w (Oj m w):=by
 have B0:=aj w (.cells (mV m) 29);have b0:=heap_alloc_new w (.cells (mV m) 29);have hz : (w.alloc (.cells (mV m) 29)).heap.size = w.heap.size + 1:=au
 have HE:=hid (JD m (w.alloc (.cells (mV m) 29)) (hk.later B0 hp) (fun R g h1 h2 => (hm R g ae ae).later B0))
 have HM:=hid (fun (W : World) (hb : Below w.heap.size w W) => (hm w.heap.size w.heap.size (Nat.le_refl _) (Nat.le_refl _)).later hb)
 have HK:=hid (fun (W : World) (hb : Below w.heap.size w W) => hk.later hb hp)
 have HF:=hid (hm w.heap.size w.heap.size (Nat.le_refl _) (Nat.le_refl _)).pf;have HCP:=hid hcap;clear hm hk hcap;have m0 : (w.alloc (.cells (mV m) 29)).cell? ⟨w.heap.size,0,none⟩ = some (.slice m.ta m.tn m.tc):=ai b0;have m1 : (w.alloc (.cells (mV m) 29)).cell? ⟨w.heap.size,1,none⟩ = some (.slice m.ha m.hn m.hc):=ai b0;have m2 : (w.alloc (.cells (mV m) 29)).cell? ⟨w.heap.size,2,none⟩ = some (.slice m.ga m.gn m.gc):=ai b0;have m3 : (w.alloc (.cells (mV m) 29)).cell? ⟨w.heap.size,3,none⟩ = some (.int .i64 m.fi):=ai b0;have m4 : (w.alloc (.cells (mV m) 29)).cell? ⟨w.heap.size,4,none⟩ = some (.int .i64 m.mo):=ai b0;have m5 : (w.alloc (.cells (mV m) 29)).cell? ⟨w.heap.size,5,none⟩ = some (.slice m.fa m.fn m.fc):=ai b0;have m6 : (w.alloc (.cells (mV m) 29)).cell? ⟨w.heap.size,6,none⟩ = some (.slice m.da m.dn m.dc):=ai b0;have m7 : (w.alloc (.cells (mV m) 29)).cell? ⟨w.heap.size,7,none⟩ = some (.slice m.ea m.en m.ec):=ai b0;have HW : w.alloc (aR m.ta m.tn m.tc m.ha m.hn m.hc m.ga m.gn m.gc m.fi m.mo m.fa m.fn m.fc m.da m.dn m.dc m.ea m.en m.ec) = w.alloc (.cells (mV m) 29):=rfl;generalize w.alloc (.cells (mV m) 29) = W0 at *;unfold mV at HE
 show Calls Tryz.prog 15 #[.agg #[.slice m.ta m.tn m.tc,.slice m.ha m.hn m.hc,.slice m.ga m.gn m.gc,.int .i64 m.fi,.int .i64 m.mo,.slice m.fa m.fn m.fc,.slice m.da m.dn m.dc,.slice m.ea m.en m.ec]] w _
 obtain ⟨i0,hi,hz0,hz1,hz2⟩:=info_parts Tryz.infTab
 go_enter Tryz.func15,Tryz.ntmps15
 go_wp2_with fail;refine HE.out.mono ?_;rintro e w2 ⟨rfl,hb2⟩;have m0:=ag hb2 m0;have m1:=ag hb2 m1;have m2:=ag hb2 m2;have m3:=ag hb2 m3;have m4:=ag hb2 m4;have m5:=ag hb2 m5;have m6:=ag hb2 m6;have m7:=ag hb2 m7;have hB2 : Below w.heap.size w w2:=B0.trans (hb2.mono B0.size)
 have hs2 : w.heap.size + 1 ≤ w2.heap.size:=by have:=hb2.size; omega
 have HB2:=hid hB2;have HM8:=hid (And.intro m0 (And.intro m1 (And.intro m2 (And.intro m3 (And.intro m4 (And.intro m5 (And.intro m6 m7)))))));clear hB2 b0 B0 HE HW hb2
 by_cases hx : cN m = 0
 rotate_left
 ·have hx' : (cN m == 0) = false:=pE;have HX:=hid hx;clear m0 m1 m2 m3 m4 m5 m6 m7 hx;generalize hce : cN m = ce at *;go_wp2_with fail
  refine bodyPost_ret (v:=.tuple #[.slice none 0 0,.int .i64 ce,.int .i64 (-1),.int .i64 0]) zj rfl ⟨HB2.out,.inl ⟨by rw [hce]; exact HX.out,by rw [hce]⟩⟩
 ·rw [hx]
  have hfn : m.fn ≤ 128:=by
   have:=(dB (mg hx).2.2.2).1
   have:=HF.out.1
   omega
  have hb3 : i0.bytes * m.fn ≤ 281474976710656:=uy;have hml : m.fn ≤ maxLen:=cH
  go_wp2_with (first | (at_make; refine wpList_make_full _ rfl _ _ 65 rfl w2.heap.size 86 i0 (.agg zT) 5 Tryz.underlying65 hi hz0 hz1 .i64 .i64 _ _ m.fn rfl rfl rfl rfl hb3 hml (Nat.le_refl _) ?_; intro w1 hown hgrow; have hbel : Below w2.heap.size w2 w1:=(Below.refl _ _).grown hgrow (Nat.le_refl _) au; have m5:=ag hbel m5))
  obtain ⟨arr0,hTT,hsz0⟩ : ∃ arr,w1.heap[w2.heap.size]? = some (.cells arr 86) ∧ arr.size = m.fn * 5:=by
   rcases hown.2 with ⟨e,_⟩ | ⟨g,cap,cur,e,h4,h5,h6,h7,h8,h9⟩
   ·cases e
   ·cases e; exact ⟨cur,h5,h8⟩
  have hT1 : w2.heap.size < w1.heap.size:=aM hTT;have hB1 : Below w.heap.size w w1:=HB2.out.trans (hbel.mono HB2.out.size);obtain ⟨q0,q1,q2,q3,q4,q5,q6,q7⟩:=HM8.out;have H8:=hid (And.intro (ag hbel q0) (And.intro (ag hbel q1) (And.intro (ag hbel q2) (And.intro (ag hbel q3) (And.intro (ag hbel q4) (And.intro (ag hbel q5) (And.intro (ag hbel q6) (ag hbel q7))))))));have HT:=hid (And.intro hTT hsz0);have HB1:=hid hB1;clear hown hgrow hi hz0 hz1 hz2 hb3 hml q0 q1 q2 q3 q4 q5 q6 q7 m0 m1 m2 m3 m4 m5 m6 m7 HM8 hTT hsz0 hB1 hbel
  go_loopw [25] (fun i wr => ∃ k : Nat,k ≤ m.fn ∧ i = .int .i64 k ∧ Kept (fun b => b = w2.heap.size) w1 wr ∧ ∃ arr,wr.heap[w2.heap.size]? = some (.cells arr 86) ∧ arr.size = m.fn * 5 ∧ ∀ (i : Nat) y,i < k → m.fns[i]? = some y → ∃ t,qY m y (w2.heap.size + 1) wr t ∧ ∀ q,q < 5 → arr[i * 5 + q]? = t[q]?) (fun i _ => m.fn - (intOf i).toNat)
  case atStart => exact ⟨0,Nat.zero_le _,rfl,Kept.refl _ _,arr0,HT.out.1,HT.out.2,fun i y h => absurd h (Nat.not_lt_zero _)⟩
  case round =>
   obtain ⟨k,hkf,rfl,hkept,arr,hTT,hsz,htab⟩:=hrel;obtain ⟨m0,m1,m2,m3,m4,m5,m6,m7⟩:=H8.out;have hzr:=hkept.size
   have hBr : Below w.heap.size w wr:=HB1.out.trans (hkept.to_below (B:=w.heap.size) HB1.out.size (fun k hk h => by have : k = w2.heap.size:=h; omega))
   by_cases hlt : k < m.fn
   ·obtain ⟨x,hxk⟩ : ∃ x,m.fns[k]? = some x:=⟨_,ba (by rw [HF.out.1]; exact hlt)⟩
    obtain ⟨b,off,hfa,hat⟩:=HF.out.2.resolve_left ae;have hat:=hat k x hxk;have hbw : b < w.heap.size:=block_lt_of_cell hat.1;have n0:=ag hBr hat.1;have n1:=ag hBr hat.2.1;have n2:=ag hBr hat.2.2;have hwn : w.heap.size ≠ w2.heap.size:=ae;have m0:=hkept.cell m0 hwn;have m1:=hkept.cell m1 hwn;have m2:=hkept.cell m2 hwn;have m3:=hkept.cell m3 hwn;have m4:=hkept.cell m4 hwn;have m5:=hkept.cell m5 hwn;have m6:=hkept.cell m6 hwn;have m7:=hkept.cell m7 hwn
    have H30:=hid (fun (W : World) (hb : Below w.heap.size w W) => JN hx (HM.out W hb) (HK.out W hb) (Nat.lt_of_lt_of_le hp hb.size) hxk (HCP.out x (List.mem_of_getElem? hxk)))
    unfold mV at H30;rw [hfa] at H30 m5;have hk0 : (0 : Int) ≤ (k : Int):=ae;have hk1 : (k : Int) < (m.fn : Int):=ae;have HKP:=hid hkept;have HTT:=hid hTT;have HTB:=hid htab;have HBR:=hid hBr;have hwl : w.heap.size < wr.heap.size:=ae;have hbl : b < wr.heap.size:=ae;clear hkept hTT htab hBr hat;rw [hfa];go_wp2_with fail;have BA:=aj wr (aW x.1 x.2.1 x.2.2.1.1 x.2.2.1.2.1 x.2.2.1.2.2);have hBA:=HBR.out.trans (BA.mono HBR.out.size);have hTA:=ar BA HTT.out;refine (H30.out _ hBA).mono ?_;generalize wr.alloc (aW x.1 x.2.1 x.2.2.1.1 x.2.2.1.2.1 x.2.2.1.2.2) = WA at *;rintro e w3 hO;have hb3:=hO.1;have hT3:=ar hb3 hTA;have hB3 : Below w.heap.size w w3:=hBA.trans (hb3.mono hBA.size)
    have hK3 : Kept (fun b => b = w2.heap.size) wr w3:=(aX BA).trans (aX hb3)
    have hzA:=BA.size;have hz3:=hb3.size
    rcases hO.cases with ⟨E,pc,hErr,hE,rfl⟩ | ⟨s0,s1,s2,s3,l0,l1,l2,l3,c0,c1,c2,c3,hi,rfl,hTab⟩
    ·have hE' : (E == 0) = false:=by simpa using hE
     have HErr:=hid (And.intro hErr hE);have HB3:=hid hB3;clear hErr hE hO hb3 hT3 hB3 hK3 m0 m1 m2 m3 m4 m5 m6 m7 n0 n1 n2 hTA hBA BA H30;go_wp2_with fail
     refine bodyPost_ret (v:=.tuple #[.slice none 0 0,.int .i64 E,.int .i64 k,.int .i64 pc]) zj rfl ⟨HB3.out.trans ((aj w3 _).mono HB3.out.size),.inr (.inl ⟨hx,k,x,E,pc,hxk,HErr.out.1,HErr.out.2,fun i y hi hy => ?_,rfl⟩)⟩
     obtain ⟨t,ht,_⟩:=HTB.out i y hi hy;exact ⟨_,_,_,ht⟩
    ·have hlen : k * 5 + 5 ≤ arr.size:=ae
     have g : ∀ q,q < 5 → ∃ v,w3.cell? ⟨w2.heap.size,k * 5 + q,none⟩ = some v:=fun q hq => ⟨_,by rw [ai hT3]; exact Array.getElem?_eq_getElem ae⟩
     obtain ⟨v0,g0⟩:=g 0 ae;obtain ⟨v1,g1⟩:=g 1 ae;obtain ⟨v2,g2⟩:=g 2 ae;obtain ⟨v3,g3⟩:=g 3 ae;obtain ⟨v4,g4⟩:=g 4 ae;rw [Nat.add_zero] at g0
     have fz : ∀ q,w3.frozen? ⟨w2.heap.size,q,none⟩ = false:=fun q => free_at hT3
     have f0:=fz (k * 5);have f1:=fz (k * 5 + 1);have f2:=fz (k * 5 + 2);have f3:=fz (k * 5 + 3);have f4:=fz (k * 5 + 4);have hTl : w2.heap.size < w3.heap.size:=aM hT3;have HTab:=hid hTab;have HP3:=hid (And.intro hT3 (And.intro hB3 hK3));clear hTab hT3 hB3 hK3 g fz hO hb3 m0 m1 m2 m3 m4 m5 m6 m7 n0 n1 n2 hTA hBA BA H30;go_wp2_with fail;obtain ⟨hT3,hB3,hK3⟩:=HP3.out;obtain ⟨arr',p1,p2,p3,p4,p5⟩:=Oy hT3 hlen (.slice s0 l0 c0) (.slice s1 l1 c1) (.slice s2 l2 c2) (.slice s3 l3 c3) (.int .i64 hi) (.cells #[.slice s0 l0 c0,.slice s1 l1 c1,.slice s2 l2 c2,.slice s3 l3 c3,.int .i64 hi] 86)
     refine ⟨⟨k + 1,ae,bU,(HKP.out.trans hK3).trans p5,arr',p1,ae,fun i y hi hy => ?_⟩,cC⟩
     by_cases hik : i = k
     ·subst hik
      obtain rfl : x = y:=by rw [hxk] at hy; exact Option.some.inj hy
      exact ⟨_,HTab.out.kept p5 ae ae,p3⟩
     ·obtain ⟨t,ht,hq⟩:=HTB.out i y ae hy
      exact ⟨t,ht.kept (hK3.trans p5) ae (Nat.le_refl _),fun q hq' => by rw [p4 _ ae]; exact hq q hq'⟩
   ·obtain rfl : k = m.fn:=ae;have HQ:=hid (And.intro hBr (And.intro hTT htab));clear m0 m1 m2 m3 m4 m5 m6 m7 hBr hTT htab hkept;go_wp2_with fail;obtain ⟨hBr,hTT,htab⟩:=HQ.out
    refine bodyPost_ret (v:=.tuple #[.slice (some ⟨w2.heap.size,0,none⟩) m.fn m.fn,.int .i64 0,.int .i64 0,.int .i64 0]) zj rfl ⟨hBr,.inr (.inr ⟨hx,w2.heap.size,arr,ae,rfl,hTT,hsz,fun i y hy => htab i y (by rw [← HF.out.1]; exact az hy) hy⟩)⟩
def ddC (c : Int) (d : Bool) : Bool:=if c = 7 ∨ c = 9 ∨ c = 10 ∨ c = 0 then true else d
theorem uZ (m : MM) (lo : List Int) (s : Cs) (o : Opn) (c a : Int) : (rwS m lo s o c a).sh = s.sh ∧ (rwS m lo s o c a).hi = s.hi ∧ (rwS m lo s o c a).dead = ddC c s.dead:=by
 unfold rwS ddC
 by_cases h1 : c = 2 ∨ c = 3
 ·rw [if_pos h1,if_neg ae]; exact ⟨rfl,rfl,rfl⟩
 rw [if_neg h1]
 by_cases h2 : c = 4
 ·rw [if_pos h2,if_neg ae]; exact ⟨rfl,rfl,rfl⟩
 rw [if_neg h2]
 by_cases h3 : c = 5
 ·rw [if_pos h3,if_neg ae]; exact ⟨rfl,rfl,rfl⟩
 rw [if_neg h3]
 by_cases h4 : c = 6
 ·rw [if_pos h4,if_neg ae]; exact ⟨rfl,rfl,rfl⟩
 rw [if_neg h4]
 by_cases h5 : c = 7 ∨ c = 9 ∨ c = 10 ∨ c = 0
 ·rw [if_pos h5,if_pos h5]; exact ⟨rfl,rfl,rfl⟩
 rw [if_neg h5,if_neg h5]
 by_cases h6 : c = 8
 ·rw [if_pos h6]; exact ⟨rfl,rfl,rfl⟩
 rw [if_neg h6];generalize efV m lo s o c a = E
 have key : ∀ u : ByteArray,({ cB s E.1 with st:=u } : Cs).sh = s.sh ∧ ({ cB s E.1 with st:=u } : Cs).hi = s.hi ∧ ({ cB s E.1 with st:=u } : Cs).dead = s.dead:=fun u => ⟨rfl,rfl,rfl⟩
 unfold tP;exact key _
theorem IM (m : MM) (lo : List Int) (xs : List Inx) (R : ByteArray) (n : Nat) : ∀ j,(stA m lo xs R n j).sh.length = n
 | 0 => List.length_replicate
 | j + 1 => by
  show (rwS m lo (nD (qL (stA m lo xs R n j) j)) _ _ _).sh.length = n
  rw [(uZ m lo _ _ _ _).1]
  show ((stA m lo xs R n j).sh.set _ _).length = n
  rw [List.length_set];exact IM m lo xs R n j
section
variable {m : MM} {lo : List Int} {xs : List Inx} {R : ByteArray} {n : Nat}
theorem FR : ∀ j i,i < j → j ≤ n → (stA m lo xs R n j).sh[i]? = some (stA m lo xs R n i).st
 | 0,i,h,_ => absurd h ae
 | j + 1,i,h,hn => by
  have e : (stA m lo xs R n (j + 1)).sh = (stA m lo xs R n j).sh.set j (stA m lo xs R n j).st:=(uZ m lo _ _ _ _).1;rw [e,List.getElem?_set]
  by_cases hi : j = i
  ·subst hi
   rw [if_pos rfl,if_pos (by rw [IM]; omega)]
  ·rw [if_neg hi];exact FR j i ae ae
theorem Jp {j : Nat} (he : erA m lo xs R n j = 0) (hc : (xs.getD j dx).c = 11) : ∃ kc : Nat,(xs.getD j dx).a = kc ∧ kc < m.fn ∧ (cG m (wF m (xs.getD j dx).a)).1.size ≤ (stA m lo xs R n j).st.size:=by
 have h:=wq he;rw [hc] at h;unfold rwE at h;rw [if_neg ae,if_neg ae,if_neg ae,if_neg ae,if_neg ae,if_neg ae,if_neg ae,if_neg ae,if_neg ae] at h;obtain ⟨h1,h2⟩:=bA h;obtain ⟨h3,_⟩:=bA h2;unfold efE at h1;rw [if_pos rfl] at h1;have h4:=oY h3;unfold efV at h4;rw [if_pos rfl] at h4
 rcases gK m.fn (xs.getD j dx).a with ⟨e,_⟩ | ⟨_,q,e,hq⟩
 ·rw [e] at h1; cases h1
 ·refine ⟨q,e,hq,Nat.le_trans h4 ?_⟩;rw [ByteArray.size_extract]
  show min (stA m lo xs R n j).st.size (stA m lo xs R n j).st.size - _ ≤ (stA m lo xs R n j).st.size
  omega
theorem Gu {v : Ev} {w1 : World} (hM : EvM v w1 m lo) (hG : Good (opF xs) n) (hR : R.size ≤ 8) (hn : 0 < n) (hx : ∀ j,j < n → 0 ≤ (xs.getD j dx).c ∧ (xs.getD j dx).c ≤ 255) (he : ∀ j,j < n → erA m lo xs R n j = 0) : ∀ j,j < n → Iv3 (opF xs) n j (stA m lo xs R n j)
 | 0,_ => NN hR hn
 | j + 1,hj => Aa hM hG (hx j ae).1 (hx j ae).2 hj (Gu hM hG hR hn hx he j ae) (he j ae)
end
def lZ {α β : Type} (f : α → β → Bool) (l1 : List α) (l2 : List β) : Bool:=decide (l2.length = l1.length) && (List.range l1.length).all fun i => (l1[i]?).elim true fun x => (l2[i]?).elim true (f x)
theorem LK {α β : Type} {f : α → β → Bool} {l1 : List α} {l2 : List β} (h : l2.length ≠ l1.length) : lZ f l1 l2 = false:=by simp [lZ,h]
theorem KQ {α β : Type} {f : α → β → Bool} {l1 : List α} {l2 : List β} {i : Nat} {x : α} {y : β} (hx : l1[i]? = some x) (hy : l2[i]? = some y) (h : f x y = false) : lZ f l1 l2 = false:=by
 have hi:=az hx;unfold lZ;exact Cy
theorem Mz {α β : Type} {f : α → β → Bool} {l1 : List α} {l2 : List β} (hl : l2.length = l1.length) (h : ∀ (i : Nat) x y,l1[i]? = some x → l2[i]? = some y → f x y = true) : lZ f l1 l2 = true:=by
 unfold lZ;exact GJ
def glB (x : Gl) (v : Int) : Bool:=eu v x.1 && (x.2.1 || decide (v = x.2.2))
theorem CF (b off b2 off2 n c c2 : Nat) (xs : List Gl) (vs : List Int) (w : World) (hl : xs.length = n) (hv : vs.length = n) (hn : n ≤ 1048576)
  (hc : ∀ (j : Nat) x,xs[j]? = some x → w.cell? ⟨b,off + j * 3,none⟩ = some (.int .u8 x.1) ∧ w.cell? ⟨b,off + j * 3 + 1,none⟩ = some (.bool x.2.1) ∧ w.cell? ⟨b,off + j * 3 + 2,none⟩ = some (.int .u64 x.2.2))
  (hc2 : ∀ (j : Nat) x,vs[j]? = some x → w.cell? ⟨b2,off2 + j,none⟩ = some (.int .u64 x)) :
  Calls Tryz.prog 34 #[.slice (some ⟨b,off,none⟩) n c,.slice (some ⟨b2,off2,none⟩) n c2] w fun e w' => e = .returned (.bool (lZ glB xs vs)) ∧ Below w.heap.size w w':=by
 have hne : ((n : Int) != n) = false:=au;have HC:=hid hc;have HC2:=hid hc2;clear hc hc2
 go_enter Tryz.func34,Tryz.ntmps34
 go_wp2_with fail
 go_loopw [14] (fun i wr => ∃ k : Nat,k ≤ n ∧ i = .int .i64 k ∧ Hid (Below w.heap.size w wr ∧ ∀ (i : Nat) x y,i < k → xs[i]? = some x → vs[i]? = some y → glB x y = true)) (fun i _ => n - (intOf i).toNat)
 case atStart => exact ⟨0,ae,rfl,hid ⟨Below.refl _ _,fun i x y h => absurd h (Nat.not_lt_zero _)⟩⟩
 case round =>
  obtain ⟨k,hk,rfl,HR⟩:=hrel
  by_cases hlt : k < n
  ·obtain ⟨⟨lt,mu,va⟩,hx⟩ : ∃ x,xs[k]? = some x:=⟨_,ba ae⟩;obtain ⟨v,hv'⟩ : ∃ v,vs[k]? = some v:=⟨_,ba ae⟩;obtain ⟨q0,q1,q2⟩:=HC.out k _ hx;have q3:=HC2.out k _ hv'
   simp only at q0 q1 q2
   have g0:=ag HR.out.1 q0;have g1:=ag HR.out.1 q1;have g2:=ag HR.out.1 q2;have hal:=aj wr (bh lt mu va);have g3:=ag hal (ag HR.out.1 q3);have HAL:=hid hal;have hlt' : (k : Int) < (n : Int):=ae;have HX:=hid (And.intro hx hv')
   have HF:=hid (fun (W : World) => xf v lt W)
   have hcx : ∀ (i : Nat) x y,i < k + 1 → glB (lt,mu,va) v = true → xs[i]? = some x → vs[i]? = some y → glB x y = true:=fun i x y hi hg hx' hy' => by
    by_cases hik : i < k
    ·exact HR.out.2 i x y hik hx' hy'
    ·obtain rfl : i = k:=ae;rw [HX.out.1] at hx'; rw [HX.out.2] at hy'
     injection hx' with e1; injection hy' with e2
     subst e1; subst e2
     exact hg
   have HCX:=hid hcx
   have hg : glB (lt,mu,va) v = (eu v lt && (mu || decide (v = va))):=rfl
   have HG:=hid hg;have n0 : (wr.alloc (bh lt mu va)).cell? ⟨wr.heap.size,0,none⟩ = some (.int .u8 lt):=ai (heap_alloc_new _ _);have n1 : (wr.alloc (bh lt mu va)).cell? ⟨wr.heap.size,1,none⟩ = some (.bool mu):=ai (heap_alloc_new _ _);have n2 : (wr.alloc (bh lt mu va)).cell? ⟨wr.heap.size,2,none⟩ = some (.int .u64 va):=ai (heap_alloc_new _ _);have HBW : Hid (Below w.heap.size w (wr.alloc (bh lt mu va))):=hid (HR.out.1.trans (HAL.out.mono HR.out.1.size));clear q0 q1 q2 q3 hx hv' hal hcx hg HC HC2 HAL;generalize eu v lt = fb at *;go_wp2_with fail;generalize wr.alloc (bh lt mu va) = W1 at *;clear g0 g1 g2
   have hdr : ∀ q,Below w.heap.size w (W1.drewN q):=fun q => HBW.out.trans ((below_drewN W1 q).mono HBW.out.size)
   have HDR:=hid hdr;clear hdr
   cases fb
   ·go_quiet ((go_at_call 62; refine Calls.quiet_of_same (HF.out _)))
    go_wp2_with fail;go_ret
    exact ⟨by rw [KQ HX.out.1 HX.out.2 HG.out]; rfl,HDR.out _⟩
   ·cases mu
    ·by_cases hvv : v = va
     ·subst hvv;have hvb : (v != v) = false:=au;exact GD
     ·have hvb : (v != va) = true:=by simpa using hvv
      have HV:=hid hvv;clear hvv
      go_quiet ((go_at_call 62; refine Calls.quiet_of_same (HF.out _)))
      go_wp2_with fail;go_ret
      exact ⟨by rw [KQ HX.out.1 HX.out.2 (HG.out.trans (by simp [HV.out]))]; rfl,HDR.out _⟩
    ·exact GD
  ·have hlt' : ¬ (k : Int) < (n : Int):=ae;have HK : Hid (k = n):=hid ae;go_wp2_with fail;go_ret
   exact ⟨by rw [Mz ae (fun i x y hx hy => HR.out.2 i x y (by have:=az hx; have:=HK.out; omega) hx hy)]; rfl,HR.out.1⟩
theorem xK (a a2 : Option Addr) (n n2 c c2 : Nat) (xs : List Gl) (vs : List Int) (w : World) (hl : xs.length = n) (hv : vs.length = n2) (hne : n2 ≠ n) :
  Calls Tryz.prog 34 #[.slice a n c,.slice a2 n2 c2] w fun e w' => e = .returned (.bool (lZ glB xs vs)) ∧ Below w.heap.size w w':=by
 have hb : ((n2 : Int) != n) = true:=aI;have HV:=hid (LK (f:=glB) (l1:=xs) (l2:=vs) ae)
 go_enter Tryz.func34,Tryz.ntmps34
 go_wp2_with fail;go_ret;exact ⟨sP,Below.refl _ _⟩
theorem xe (a a2 : Option Addr) (c c2 : Nat) (w : World) :
  Calls Tryz.prog 34 #[.slice a 0 c,.slice a2 0 c2] w fun e w' => e = .returned (.bool (lZ glB [] [])) ∧ Below w.heap.size w w':=by
 go_enter Tryz.func34,Tryz.ntmps34
 go_wp2_with fail;refine wp_loop_rounds 1 ?_;rw [rounds_succ];go_wp2_with fail;go_ret;exact mh
theorem My (a a2 : Option Addr) (n n2 c c2 : Nat) (xs : List Gl) (vs : List Int) (w : World) (h : na w a n xs) (h2 : SI .u64 w a2 n2 vs) (hn : n ≤ 1048576) :
  Calls Tryz.prog 34 #[.slice a n c,.slice a2 n2 c2] w fun e w' => e = .returned (.bool (lZ glB xs vs)) ∧ Below w.heap.size w w':=by
 by_cases hne : n2 = n
 ·subst hne
  by_cases h0 : n2 = 0
  ·subst h0;obtain rfl:=List.eq_nil_of_length_eq_zero h.1;obtain rfl:=List.eq_nil_of_length_eq_zero h2.1;exact xe a a2 c c2 w
  ·obtain ⟨b,off,rfl,hc⟩:=h.2.resolve_left h0;obtain ⟨b2,off2,rfl,hc2⟩:=h2.2.resolve_left h0;exact CF b off b2 off2 n2 c c2 xs vs w h.1 h2.1 hn hc hc2
 ·exact xK a a2 n n2 c c2 xs vs w h.1 h2.1 hne
def whB (n : Nat) (f m : Int) (l : List PgM) : Bool:=!(decide ((n : Int) < f) || decide (m < (n : Int))) && l.all fun x => decide (x.1.2.1 = 4096)
theorem EM (b off n c : Nat) (f m : Int) (l : List PgM) (w : World) (hl : l.length = n) (hn : n ≤ 140737488355328) (hs : ∀ x ∈ l,x.1.2.1 ≤ 140737488355328) (h1 : f ≤ (n : Int)) (h2 : (n : Int) ≤ m)
  (hc : ∀ (j : Nat) x,l[j]? = some x → w.cell? ⟨b,off + j,none⟩ = some (.slice x.1.1 x.1.2.1 x.1.2.2)) :
  Calls Tryz.prog 36 #[.slice (some ⟨b,off,none⟩) n c,.int .i64 f,.int .i64 m] w fun e w' => e = .returned (.bool (l.all fun x => decide (x.1.2.1 = 4096))) ∧ w' = w:=by
 have HC:=hid hc;have HS:=hid hs;have e1 : ¬ ((n : Int) < f):=ae;have e2 : ¬ (m < (n : Int)):=ae;have d1 : decide ((n : Int) < f) = false:=aI;have d2 : decide (m < (n : Int)) = false:=aI;clear hc hs h1 h2
 go_enter Tryz.func36,Tryz.ntmps36
 go_wp2_with fail
 go_loopw [21] (fun i wr => ∃ k : Nat,k ≤ n ∧ i = .int .i64 k ∧ wr = w ∧ Hid (∀ (i : Nat) x,i < k → l[i]? = some x → x.1.2.1 = 4096)) (fun i _ => n - (intOf i).toNat)
 case atStart => exact ⟨0,ae,rfl,rfl,hid (fun i x h => absurd h (Nat.not_lt_zero _))⟩
 case round =>
  obtain ⟨k,hk,rfl,hwr,HR⟩:=hrel;subst hwr
  by_cases hlt : k < n
  ·obtain ⟨⟨⟨sa,sn,sc⟩,zs⟩,hx⟩ : ∃ x,l[k]? = some x:=⟨_,ba ae⟩;have g0:=HC.out k _ hx
   simp only at g0
   have hsn:=HS.out _ (List.mem_of_getElem? hx)
   simp only at hsn
   have HX:=hid hx;have hlt' : (k : Int) < (n : Int):=ae;clear hx HC HS
   by_cases h4 : sn = 4096
   ·subst h4;go_wp2_with fail
    exact ⟨⟨k + 1,ae,bU,by first | rfl | trivial,hid (fun i x hi hx => by
     by_cases hik : i < k
     ·exact HR.out i x hik hx
     ·obtain rfl : i = k:=ae;rw [HX.out] at hx
      injection hx with hx
      rw [← hx])⟩,cC⟩
   ·have hb : ((sn : Int) != 4096) = true:=aI;have hb2 : (sn != 4096) = true:=sk;have H4:=hid h4;clear h4;go_wp2_with fail;go_ret;refine ⟨?_,rfl⟩
    have : (l.all fun x => decide (x.1.2.1 = 4096)) = false:=by
     rw [List.all_eq_false]
     exact ⟨_,List.mem_of_getElem? HX.out,by simpa using H4.out⟩
    rw [this]; rfl
  ·have hlt' : ¬ (k : Int) < (n : Int):=ae;have HK : Hid (k = n):=hid ae;clear HC HS;go_wp2_with fail;go_ret;refine ⟨?_,rfl⟩
   have : (l.all fun x => decide (x.1.2.1 = 4096)) = true:=by
    rw [List.all_eq_true];intro x hx;obtain ⟨i,hi⟩:=List.getElem?_of_mem hx
    simpa using HR.out i x (by have:=az hi; have:=HK.out; omega) hi
   rw [this]; rfl
theorem Ni (a : Option Addr) (n c : Nat) (f m : Int) (l : List PgM) (w : World) (h : SPg w a n l) (hn : n ≤ 140737488355328) (hs : ∀ x ∈ l,x.1.2.1 ≤ 140737488355328) :
  Calls Tryz.prog 36 #[.slice a n c,.int .i64 f,.int .i64 m] w fun e w' => e = .returned (.bool (whB n f m l)) ∧ w' = w:=by
 by_cases h1 : (n : Int) < f
 ·have hv : whB n f m l = false:=by simp [whB,h1]
  exact AP
 ·by_cases h2 : m < (n : Int)
  ·have hv : whB n f m l = false:=by simp [whB,h2]
   exact AP
  ·have hv : whB n f m l = l.all fun x => decide (x.1.2.1 = 4096):=by simp [whB,h1,h2]
   rw [hv]
   by_cases h0 : n = 0
   ·subst h0;obtain rfl:=List.eq_nil_of_length_eq_zero h.len;clear h hv hs;have e1 : ¬ ((0 : Int) < f):=gj;have e2 : ¬ (m < (0 : Int)):=tD;have e3 : decide ((0 : Int) < f) = false:=gj;have e4 : decide (m < (0 : Int)) = false:=tD;clear h1 h2
    go_enter Tryz.func36,Tryz.ntmps36
    exact BJ
   ·obtain ⟨b,off,rfl,hc⟩:=h.at_.resolve_left h0;exact EM b off n c f m l w h.len hn hs ae ae hc
end Go.Proofs.YtkdldbfbldkkcaaGreatDoor

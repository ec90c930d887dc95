/-
  Texts Vee Vff Vgg Vii.
-/
import Derived.BigQuiet
import Derived.Deep.QuietTactic
import Derived.Test.YtepnnenohjfkbaaGreatDoorP00
import Derived.Test.YtepnnenohjfkbaaGreatDoorP32
set_option linter.unusedVariables false
set_option maxRecDepth 100000
set_option maxHeartbeats 16000000
namespace Go.Proofs.YtepnnenohjfkbaaGreatDoor
open Go.RowKit
theorem cP {α : Type} {f : List α → α → Int} {most : Int} {xs : List α} (h : bc f most xs = 0) : (xs.length : Int) ≤ most ∧ ∀ (j : Nat) x,xs[j]? = some x → f (xs.take j) x = 0:=by
 unfold bc at h
 split at h
 ·cases h
 ·rename_i hl
  refine ⟨by omega,fun j x hj => ?_⟩
  have:=aR f xs [] h j x hj
  simpa using this
theorem mI {m : MM} (h : bX m = 0) : e1 m = 0 ∧ e2 m = 0 ∧ e3 m = 0 ∧ e6 m = 0:=by
 obtain ⟨h,_⟩:=aI h;obtain ⟨h1,h⟩:=aI h;obtain ⟨h2,h⟩:=aI h;obtain ⟨h3,h⟩:=aI h;obtain ⟨_,h⟩:=aI h;obtain ⟨_,h⟩:=aI h;exact ⟨h1,h2,h3,(aI h).1⟩
theorem fQ {ah : List Sg} {x : Sg} (h : bV ah x = 0) : x.1.size ≤ 8 ∧ lett x.1 8 = true ∧ x.2.size ≤ 8 ∧ lett x.2 8 = true:=by
 unfold bV at h
 by_cases a1 : 8 < x.1.size
 ·rw [if_pos a1] at h; cases h
 rw [if_neg a1] at h
 by_cases a2 : lett x.1 8 = false
 ·rw [if_pos a2] at h; cases h
 rw [if_neg a2] at h
 by_cases a3 : 8 < x.2.size
 ·rw [if_pos a3] at h; cases h
 rw [if_neg a3] at h
 by_cases a4 : lett x.2 8 = false
 ·rw [if_pos a4] at h; cases h
 exact ⟨by omega,by simpa using a2,by omega,by simpa using a4⟩
theorem jH {sg : List Sg} {left ty : Int} {lo : ByteArray} {xs : List InM} (h : dU sg left ty lo xs = 0) : 0 ≤ ty ∧ ty < sg.length ∧ lo.size + (gP sg ty).size ≤ 64 ∧ lett lo 64 = true ∧ xs.length ≤ 2048 ∧ ∀ (j : Nat) x,xs[j]? = some x → cX x = 0:=by
 unfold dU at h
 by_cases a1 : ty < 0 ∨ (sg.length : Int) ≤ ty
 ·rw [if_pos a1] at h; cases h
 rw [if_neg a1] at h
 by_cases a2 : 64 < lo.size + (gP sg ty).size
 ·rw [if_pos a2] at h; cases h
 rw [if_neg a2] at h
 by_cases a3 : lett lo 64 = false
 ·rw [if_pos a3] at h; cases h
 rw [if_neg a3] at h
 by_cases a4 : min 2048 left < (xs.length : Int)
 ·rw [if_pos a4] at h; cases h
 rw [if_neg a4] at h
 exact ⟨by omega,by omega,by omega,by simpa using a3,by omega,fun j x hj => by simpa using aR _ xs [] h j x hj⟩
theorem wU {t : Int} {g : Bool} {a : Int} {l : List Int} (h : chk t g a l = 0) : lo t g ≤ a ∧ a ≤ hi t g ∧ l.length ≤ 16 ∧ (t = 3 → 0 < l.length):=by
 unfold chk at h
 by_cases a1 : t = -1
 ·rw [if_pos a1] at h; cases h
 rw [if_neg a1] at h
 by_cases a2 : a < lo t g ∨ hi t g < a
 ·rw [if_pos a2] at h; cases h
 rw [if_neg a2] at h
 by_cases a3 : t = 3
 ·rw [if_pos a3] at h
  by_cases a4 : l.length < 1 ∨ 16 < l.length
  ·rw [if_pos a4] at h; cases h
  ·exact ⟨by omega,by omega,by omega,fun _ => by omega⟩
 ·rw [if_neg a3] at h
  by_cases a4 : l.length = 0
  ·exact ⟨by omega,by omega,by omega,fun e => absurd e a3⟩
  ·rw [if_neg a4] at h; cases h
theorem tk9 : tkV 9 = 3:=by kernel_rfl
theorem rV {w : World} {R g : Nat} {m : MM} (h0 : bX m = 0) (hm : MOk w R g m) (hk : aL w) (hp : 0 < w.heap.size) : EvW w m:=by
 obtain ⟨h1,h2,h3,h6⟩:=mI h0;obtain ⟨l1,a1⟩:=cP h1;obtain ⟨l2,a2⟩:=cP h2;obtain ⟨l3,a3⟩:=cP h3;obtain ⟨l6,a6⟩:=cP h6;have n1:=hm.pt.1;have n2:=hm.ph.1;have n3:=hm.pg.1;have n6:=hm.pf.1
 refine ⟨hm.pt,fun b off c e => (hm.tf b off c e).2.2,by omega,hm.ph,fun b off c e => (hm.hf b off c e).2.2,by omega,hm.pg,fun b off c e => (hm.gf b off c e).2.2,by omega,hm.pf,fun b off c e => (hm.ff b off c e).2.2,by omega,?_,?_,?_,?_,hk,hp⟩
 ·intro x hx;obtain ⟨j,hj⟩:=List.mem_iff_getElem?.1 hx;have h:=a3 j x hj;unfold eO at h
  by_cases b1 : isL x.1 = false
  ·rw [if_pos b1] at h; cases h
  ·have b2 : isL x.1 = true:=by simpa using b1
   simp only [isL,Bool.or_eq_true,decide_eq_true_eq] at b2
   exact b2
 ·intro x hx;obtain ⟨j,hj⟩:=List.mem_iff_getElem?.1 hx;have h:=fQ (a1 j x hj);exact ⟨h.1,h.2.2.1⟩
 ·intro x hx;obtain ⟨j,hj⟩:=List.mem_iff_getElem?.1 hx;have h : aT m.tn x = 0:=a2 j x hj;unfold aT at h
  by_cases b1 : x < 0 ∨ (m.tn : Int) ≤ x
  ·rw [if_pos b1] at h; cases h
  ·omega
 ·intro x hx;obtain ⟨j,hj⟩:=List.mem_iff_getElem?.1 hx;have h:=jH (a6 j x hj)
  exact ⟨h.1,by rw [← n1]; exact h.2.1⟩
def inx (y : InM) : Inx:=⟨y.1,y.2.1,y.2.2.1.1,y.2.2.1.2.1,y.2.2.1.2.2,y.2.2.2⟩
theorem pW {xs : List InM} {j : Nat} {y : InM} (h : xs[j]? = some y) : (xs.map inx).getD j dx = inx y:=by
 simp [List.getD,h]
theorem oK {a b : ByteArray} {m n : Nat} (ha : lett a m = true) (hb : lett b n = true) : ∀ z ∈ ax (a ++ b),z = 119 ∨ z = 108:=by
 intro z hz;unfold ax at hz;rw [List.mem_map] at hz;obtain ⟨c,hc,rfl⟩:=hz;rw [ByteArray.data_append,Array.toList_append,List.mem_append] at hc
 have h : c = 119 ∨ c = 108:=by
  rcases hc with hc | hc
  ·exact ((dE a m).1 ha).1 c hc
  ·exact ((dE b n).1 hb).1 c hc
 rcases h with rfl | rfl
 ·exact .inl rfl
 ·exact .inr rfl
theorem tQ {w : World} {R g : Nat} {m : MM} (h0 : bX m = 0) (hm : MOk w R g m) {k : Nat} {x : FuM} (hx : m.fns[k]? = some x) :
  ∃ (t : Nat) (P Q : ByteArray),x.1 = (t : Int) ∧ m.types[t]? = some (P,Q) ∧ P.size + x.2.1.size ≤ 64 ∧ (∀ z ∈ ax (P ++ x.2.1),z = 119 ∨ z = 108) ∧ x.2.2.1.2.1 ≤ 2048 ∧ sJ w x.2.2.1.1 x.2.2.1.2.1 (x.2.2.2.map inx) ∧
   ∀ j,j < x.2.2.1.2.1 → ((x.2.2.2.map inx).getD j dx).ln ≤ 100000 ∧ (((x.2.2.2.map inx).getD j dx).c = 9 → 0 < ((x.2.2.2.map inx).getD j dx).ln):=by
 obtain ⟨h1,h2,h3,h6⟩:=mI h0;have hs:=(cP h1).2;have hf:=jH ((cP h6).2 k x hx);obtain ⟨b1,b2,b3,b4,b5,b6⟩:=hf;obtain ⟨_,hin,_,hy⟩:=hm.fr k x hx
 obtain ⟨t,ht⟩ : ∃ t : Nat,x.1 = (t : Int):=⟨x.1.toNat,by omega⟩
 have htl : t < m.types.length:=by omega
 obtain ⟨p,hp⟩ : ∃ p,m.types[t]? = some p:=⟨_,List.getElem?_eq_getElem htl⟩;have hsz : x.2.2.2.length = x.2.2.1.2.1:=hin.1
 have hpar : gP m.types x.1 = p.1:=by rw [ht]; exact eP (p:=p.1) (r:=p.2) hp
 rw [hpar] at b3
 have hI : ∀ (i : Nat) y,x.2.2.2[i]? = some y → y.2.2.1.2.1 ≤ 16 ∧ (y.1 = 9 → 0 < y.2.2.1.2.1) ∧ -9223372036854775808 ≤ y.2.1 ∧ y.2.1 ≤ 9223372036854775807:=by
  intro i y hi';have hc:=wU (b6 i y hi');have hg:=(hy i y hi').2.2.1;have hl : y.2.2.2.length = y.2.2.1.2.1:=hg.1;have q1:=(kn (tkV y.1) (lgV y.1)).1;have q2:=lh (tkV y.1) (lgV y.1)
  refine ⟨by omega,fun e => ?_,by omega,by omega⟩
  rw [← hl]
  exact hc.2.2.2 (by rw [e]; exact tk9)
 refine ⟨t,p.1,p.2,ht,hp,by omega,oK (fQ (hs t p hp)).2.1 b4,by omega,⟨by rw [List.length_map]; exact hsz,hin.2.imp id ?_⟩,?_⟩
 ·rintro ⟨b,off,ha,hc⟩
  refine ⟨b,off,ha,by rw [List.length_map]; exact hsz,fun j hj => ?_⟩
  obtain ⟨y,hyj⟩ : ∃ y,x.2.2.2[j]? = some y:=⟨_,List.getElem?_eq_getElem (by omega)⟩
  rw [pW hyj];have c:=hc j y hyj;have r:=hy j y hyj;have i:=hI j y hyj
  exact ⟨c.1,c.2.1,c.2.2,r.1,r.2.1,i.2.2.1,i.2.2.2,by show y.2.2.1.2.1 ≤ _; omega,fun _ => r.2.2.1⟩
 ·intro j hj
  obtain ⟨y,hyj⟩ : ∃ y,x.2.2.2[j]? = some y:=⟨_,List.getElem?_eq_getElem (by omega)⟩
  rw [pW hyj];have i:=hI j y hyj
  exact ⟨by show y.2.2.1.2.1 ≤ _; omega,i.2.1⟩
def C0 (m : MM) (x : FuM) (w : World) (e : Ending) (w' : World) : Prop :=
 Below w.heap.size w w' ∧
 (((res (opF (x.2.2.2.map inx)) x.2.2.1.2.1 0).1 ≠ 0 ∧ e = .returned (.tuple #[.agg zT,.int .i64 (res (opF (x.2.2.2.map inx)) x.2.2.1.2.1 0).1,.int .i64 (res (opF (x.2.2.2.map inx)) x.2.2.1.2.1 0).2])) ∨
  (Good (opF (x.2.2.2.map inx)) x.2.2.1.2.1 ∧ ∃ P Q,m.types[x.1.toNat]? = some (P,Q) ∧ qf m (ax (P ++ x.2.1)) (x.2.2.2.map inx) Q x.2.2.1.2.1 w e w'))
theorem ym {w : World} {R g : Nat} {m : MM} (h0 : bX m = 0) (hm : MOk w R g m) (hk : aL w) (hp : 0 < w.heap.size) {k : Nat} {x : FuM} (hx : m.fns[k]? = some x) (hcap : x.2.2.1.2.1 ≤ x.2.2.1.2.2) :
  Calls Tryz.prog 30 #[.agg (mV m),.agg #[.int .i64 x.1,.string x.2.1,.slice x.2.2.1.1 x.2.2.1.2.1 x.2.2.1.2.2]] w (C0 m x w):=by
 obtain ⟨t,P,Q,ht,hP,h64,hll,hn,hc,hbr⟩:=tQ h0 hm hx
 by_cases hE : (res (opF (x.2.2.2.map inx)) x.2.2.1.2.1 0).1 = 0
 ·have hG : Good (opF (x.2.2.2.map inx)) x.2.2.1.2.1:=nX _ 0 (Nat.zero_add _) (fun i hi => absurd hi (Nat.not_lt_zero _)) hE
  rw [ht]
  refine (rp m t P Q x.2.1 _ _ _ _ hn hcap hc (ez hG) hG (rV h0 hm hk hp) hP h64 hll hbr).mono fun e w' h => ⟨h.1,.inr ⟨hG,P,Q,by rw [ht]; exact hP,h⟩⟩
 ·exact (qg m x.1 x.2.1 _ _ _ _ hn hcap hc hE).mono fun e w' h => ⟨h.2,.inl ⟨hE,h.1⟩⟩
theorem qf.move {m : MM} {lo : List Int} {xs : List Inx} {R : ByteArray} {n T : Nat} {w W2 w3 w4 : World} {e : Ending} (h : qf m lo xs R n W2 e w3) (hb : Below w.heap.size w W2) (hk : Kept (fun k => k = T) w3 w4) (h1 : w.heap.size ≤ T) (h2 : T < W2.heap.size) : qf m lo xs R n w e w4:=by
 obtain ⟨b,h⟩:=h;have hz:=hb.size
 refine ⟨(hb.trans (b.mono hz)).trans (hk.to_below (B:=w.heap.size) (Nat.le_trans hz b.size) (fun k hk' h => by have : k = T:=h; omega)),?_⟩
 rcases h with h | ⟨hz0,SH,EN,EL,FL,l1,l2,l3,l4,n1,n2,n3,n4,he,r1,r2,r3,r4⟩
 ·exact .inl h
 ·exact .inr ⟨hz0,SH,EN,EL,FL,by omega,by omega,by omega,by omega,n1,n2,n3,n4,he,r1.kept hk (by show ¬ (SH = T); omega),r2.kept hk (by show ¬ (EN = T); omega),r3.kept hk (by show ¬ (EL = T); omega),r4.kept hk (by show ¬ (FL = T); omega)⟩
theorem C0.move {m : MM} {x : FuM} {T : Nat} {w W2 w3 w4 : World} {e : Ending} (h : C0 m x W2 e w3) (hb : Below w.heap.size w W2) (hk : Kept (fun k => k = T) w3 w4) (h1 : w.heap.size ≤ T) (h2 : T < W2.heap.size) : C0 m x w e w4:=by
 obtain ⟨b,h⟩:=h;have hz:=hb.size
 refine ⟨(hb.trans (b.mono hz)).trans (hk.to_below (B:=w.heap.size) (Nat.le_trans hz b.size) (fun k hk' h => by have : k = T:=h; omega)),?_⟩
 rcases h with h | ⟨hG,P,Q,hP,ho⟩
 ·exact .inl h
 ·exact .inr ⟨hG,P,Q,hP,ho.move hb hk h1 h2⟩
theorem C0.shape {m : MM} {x : FuM} {w w' : World} {e : Ending} (h : C0 m x w e w') : ∃ a0 a1 a2 a3 n0 n1 n2 n3 c0 c1 c2 c3 hi ev pv,e = .returned (.tuple #[.agg #[.slice a0 n0 c0,.slice a1 n1 c1,.slice a2 n2 c2,.slice a3 n3 c3,.int .i64 hi],.int .i64 ev,.int .i64 pv]):=by
 rcases h.2 with ⟨_,h⟩ | ⟨_,_,_,_,_,⟨j,_,_,_,h⟩ | ⟨_,SH,EN,EL,FL,_,_,_,_,_,_,_,_,h,_⟩⟩
 ·exact ⟨_,_,_,_,_,_,_,_,_,_,_,_,_,_,_,h⟩
 ·exact ⟨_,_,_,_,_,_,_,_,_,_,_,_,_,_,_,h⟩
 ·exact ⟨_,_,_,_,_,_,_,_,_,_,_,_,_,_,_,h⟩
def DT (m : MM) (f : Int) (w : World) (e : Ending) (w' : World) : Prop :=
 (bX m ≠ 0 ∧ e = .returned (.tuple #[.agg zT,.int .i64 (bX m),.int .i64 (-1)]) ∧ Below w.heap.size w w') ∨
 (bX m = 0 ∧ (f < 0 ∨ (m.fn : Int) ≤ f) ∧ e = .returned (.tuple #[.agg zT,.int .i64 1,.int .i64 (-1)]) ∧ Below w.heap.size w w') ∨
 (bX m = 0 ∧ ∃ x,0 ≤ f ∧ m.fns[f.toNat]? = some x ∧ C0 m x w e w')
abbrev ko (MB : Nat) (m : MM) (b off0 off : Nat) (x : FuM) (W : World) : Prop :=
 W.cell? ⟨MB,0,none⟩ = some (.slice m.ta m.tn m.tc) ∧ W.cell? ⟨MB,1,none⟩ = some (.slice m.ha m.hn m.hc) ∧ W.cell? ⟨MB,2,none⟩ = some (.slice m.ga m.gn m.gc) ∧ W.cell? ⟨MB,3,none⟩ = some (.int .i64 m.fi) ∧ W.cell? ⟨MB,4,none⟩ = some (.int .i64 m.mo) ∧ W.cell? ⟨MB,5,none⟩ = some (.slice (some ⟨b,off0,none⟩) m.fn m.fc) ∧ W.cell? ⟨MB,6,none⟩ = some (.slice m.da m.dn m.dc) ∧ W.cell? ⟨MB,7,none⟩ = some (.slice m.ea m.en m.ec) ∧
 W.cell? ⟨b,off,none⟩ = some (.int .i64 x.1) ∧ W.cell? ⟨b,off + 1,none⟩ = some (.string x.2.1) ∧ W.cell? ⟨b,off + 2,none⟩ = some (.slice x.2.2.1.1 x.2.2.1.2.1 x.2.2.1.2.2)
theorem ko.later {MB b off0 off : Nat} {m : MM} {x : FuM} {W W' : World} (h : ko MB m b off0 off x W) (hb : Below W.heap.size W W') : ko MB m b off0 off x W':=by
 obtain ⟨h0,h1,h2,h3,h4,h5,h6,h7,h8,h9,h10⟩:=h;exact ⟨ae hb h0,ae hb h1,ae hb h2,ae hb h3,ae hb h4,ae hb h5,ae hb h6,ae hb h7,ae hb h8,ae hb h9,ae hb h10⟩
theorem ko.kept {MB b off0 off T : Nat} {m : MM} {x : FuM} {W W' : World} (h : ko MB m b off0 off x W) (hb : Kept (fun k => k = T) W W') (n1 : MB ≠ T) (n2 : b ≠ T) : ko MB m b off0 off x W':=by
 obtain ⟨h0,h1,h2,h3,h4,h5,h6,h7,h8,h9,h10⟩:=h;exact ⟨hb.cell h0 n1,hb.cell h1 n1,hb.cell h2 n1,hb.cell h3 n1,hb.cell h4 n1,hb.cell h5 n1,hb.cell h6 n1,hb.cell h7 n1,hb.cell h8 n2,hb.cell h9 n2,hb.cell h10 n2⟩
theorem tN {w1 : World} {TB : Nat} {a0 a1 a2 a3 a4 : Value} (t0 t1 t2 t3 t4 : Value) (bT : w1.heap[TB]? = some (.cells #[a0,a1,a2,a3,a4] 39)) :
  let W:=((((w1.setCell ⟨TB,0,none⟩ t0).setCell ⟨TB,1,none⟩ t1).setCell ⟨TB,2,none⟩ t2).setCell ⟨TB,3,none⟩ t3).setCell ⟨TB,4,none⟩ t4
  W.heap[TB]? = some (.cells #[t0,t1,t2,t3,t4] 39) ∧ Kept (fun k => k = TB) w1 W :=
 ⟨aF (i:=4) (u:=t4) (aF (i:=3) (u:=t3) (aF (i:=2) (u:=t2) (aF (i:=1) (u:=t1) (aF (i:=0) (u:=t0) bT)))),(((((al w1 TB 0 t0).trans (al _ TB 1 t1)).trans (al _ TB 2 t2)).trans (al _ TB 3 t3)).trans (al _ TB 4 t4))⟩
theorem Dp {W : World} {TB : Nat} {t0 t1 t2 t3 t4 ev pv : Value} {tmps : Array Value} (bT : W.heap[TB]? = some (.cells #[t0,t1,t2,t3,t4] 39)) (h4 : tmps[4]? = some (.pointer (some ⟨TB,0,none⟩))) (h5 : tmps[5]? = some ev) (h6 : tmps[6]? = some pv) :
  (results Tryz.f15 tmps).run Tryz.prog W = .ok (.tuple #[.agg #[t0,t1,t2,t3,t4],ev,pv]) W:=by
 have c0 : W.cell? ⟨TB,0,none⟩ = some t0:=ai bT;have c1 : W.cell? ⟨TB,1,none⟩ = some t1:=ai bT;have c2 : W.cell? ⟨TB,2,none⟩ = some t2:=ai bT;have c3 : W.cell? ⟨TB,3,none⟩ = some t3:=ai bT;have c4 : W.cell? ⟨TB,4,none⟩ = some t4:=ai bT
 simp [results,Tryz.results15,go_sem,h4,h5,h6,c0,c1,c2,c3,c4]
theorem sD (m : MM) (f : Int) (w : World) (hf0 : -9223372036854775808 ≤ f) (hf1 : f ≤ 9223372036854775807) (hk : aL w) (hp : 0 < w.heap.size) (hm : ∀ R g,w.heap.size ≤ R → w.heap.size ≤ g → MOk w R g m) (hcap : ∀ x ∈ m.fns,x.2.2.1.2.1 ≤ x.2.2.1.2.2) :
  Calls Tryz.prog 15 #[.agg (mV m),.int .i64 f] w (DT m f w):=by
 have B1:=ag w (.cells (mV m) 29);have B2:=ag (w.alloc (.cells (mV m) 29)) (.cells zT 39);have b0:=aj B2 (heap_alloc_new w (.cells (mV m) 29))
 have b1 : ((w.alloc (.cells (mV m) 29)).alloc (.cells zT 39)).heap[w.heap.size + 1]? = some (.cells zT 39):=alloc_at (by simp)
 have B0 : Below w.heap.size w ((w.alloc (.cells (mV m) 29)).alloc (.cells zT 39)):=B1.trans (B2.mono (by simp))
 have hz : ((w.alloc (.cells (mV m) 29)).alloc (.cells zT 39)).heap.size = w.heap.size + 2:=by simp
 have HE:=hid (sP m ((w.alloc (.cells (mV m) 29)).alloc (.cells zT 39)) (hk.later B0 hp) (fun R g h1 h2 => (hm R g (by omega) (by omega)).later B0))
 have HM:=hid (fun (W : World) (hb : Below w.heap.size w W) => (hm w.heap.size w.heap.size (Nat.le_refl _) (Nat.le_refl _)).later hb)
 have HK:=hid (fun (W : World) (hb : Below w.heap.size w W) => hk.later hb hp)
 have HF:=hid (hm w.heap.size w.heap.size (Nat.le_refl _) (Nat.le_refl _)).pf;have HCP:=hid hcap;clear hm hk hcap B1 B2;have m0 : ((w.alloc (.cells (mV m) 29)).alloc (.cells zT 39)).cell? ⟨w.heap.size,0,none⟩ = some (.slice m.ta m.tn m.tc):=ai b0;have m1 : ((w.alloc (.cells (mV m) 29)).alloc (.cells zT 39)).cell? ⟨w.heap.size,1,none⟩ = some (.slice m.ha m.hn m.hc):=ai b0;have m2 : ((w.alloc (.cells (mV m) 29)).alloc (.cells zT 39)).cell? ⟨w.heap.size,2,none⟩ = some (.slice m.ga m.gn m.gc):=ai b0;have m3 : ((w.alloc (.cells (mV m) 29)).alloc (.cells zT 39)).cell? ⟨w.heap.size,3,none⟩ = some (.int .i64 m.fi):=ai b0;have m4 : ((w.alloc (.cells (mV m) 29)).alloc (.cells zT 39)).cell? ⟨w.heap.size,4,none⟩ = some (.int .i64 m.mo):=ai b0;have m5 : ((w.alloc (.cells (mV m) 29)).alloc (.cells zT 39)).cell? ⟨w.heap.size,5,none⟩ = some (.slice m.fa m.fn m.fc):=ai b0;have m6 : ((w.alloc (.cells (mV m) 29)).alloc (.cells zT 39)).cell? ⟨w.heap.size,6,none⟩ = some (.slice m.da m.dn m.dc):=ai b0;have m7 : ((w.alloc (.cells (mV m) 29)).alloc (.cells zT 39)).cell? ⟨w.heap.size,7,none⟩ = some (.slice m.ea m.en m.ec):=ai b0;have HW : ((w.alloc (.cells #[.slice m.ta m.tn m.tc,.slice m.ha m.hn m.hc,.slice m.ga m.gn m.gc,.int .i64 m.fi,.int .i64 m.mo,.slice m.fa m.fn m.fc,.slice m.da m.dn m.dc,.slice m.ea m.en m.ec] 29)).alloc (.cells #[.slice none 0 0,.slice none 0 0,.slice none 0 0,.slice none 0 0,.int .i64 0] 39)) = ((w.alloc (.cells (mV m) 29)).alloc (.cells zT 39)):=rfl;generalize ((w.alloc (.cells (mV m) 29)).alloc (.cells zT 39)) = W0 at *;unfold mV at HE
 show Calls Tryz.prog 15 #[.agg #[.slice m.ta m.tn m.tc,.slice m.ha m.hn m.hc,.slice m.ga m.gn m.gc,.int .i64 m.fi,.int .i64 m.mo,.slice m.fa m.fn m.fc,.slice m.da m.dn m.dc,.slice m.ea m.en m.ec],.int .i64 f] w _
 go_enter Tryz.func15,Tryz.ntmps15
 go_wp2_with fail;refine HE.out.mono ?_;rintro e w2 ⟨rfl,hb2⟩;have m0:=ae hb2 m0;have m1:=ae hb2 m1;have m2:=ae hb2 m2;have m3:=ae hb2 m3;have m4:=ae hb2 m4;have m5:=ae hb2 m5;have m6:=ae hb2 m6;have m7:=ae hb2 m7;have t1:=aj hb2 b1;have hB2 : Below w.heap.size w w2:=B0.trans (hb2.mono B0.size)
 have hs2 : w.heap.size + 2 ≤ w2.heap.size:=by have:=hb2.size; omega
 have a0 : w2.cell? ⟨w.heap.size + 1,0,none⟩ = some (.slice none 0 0):=ai t1;have f0 : w2.frozen? ⟨w.heap.size + 1,0,none⟩ = false:=free_at t1;have a1 : w2.cell? ⟨w.heap.size + 1,1,none⟩ = some (.slice none 0 0):=ai t1;have f1 : w2.frozen? ⟨w.heap.size + 1,1,none⟩ = false:=free_at t1;have a2 : w2.cell? ⟨w.heap.size + 1,2,none⟩ = some (.slice none 0 0):=ai t1;have f2 : w2.frozen? ⟨w.heap.size + 1,2,none⟩ = false:=free_at t1;have a3 : w2.cell? ⟨w.heap.size + 1,3,none⟩ = some (.slice none 0 0):=ai t1;have f3 : w2.frozen? ⟨w.heap.size + 1,3,none⟩ = false:=free_at t1;have a4 : w2.cell? ⟨w.heap.size + 1,4,none⟩ = some (.int .i64 0):=ai t1;have f4 : w2.frozen? ⟨w.heap.size + 1,4,none⟩ = false:=free_at t1;have HB2:=hid hB2;have HT1:=hid t1;clear hB2 t1 b0 b1 B0 HE HW hb2
 by_cases hx : bX m = 0
 rotate_left
 ·have hx' : (bX m == 0) = false:=by simpa using hx
  have HX:=hid hx;clear m0 m1 m2 m3 m4 m5 m6 m7 hx;generalize hce : bX m = ce at *;go_wp2_with fail;obtain ⟨z1,zk⟩:=tN (.slice none 0 0) (.slice none 0 0) (.slice none 0 0) (.slice none 0 0) (.int .i64 0) HT1.out
  refine bodyPost_ret (v:=.tuple #[.agg zT,.int .i64 ce,.int .i64 (-1)]) (Dp z1 rfl rfl rfl) rfl (.inl ⟨by rw [hce]; exact HX.out,by rw [hce],HB2.out.trans (zk.to_below (B:=w.heap.size) HB2.out.size (fun k hk h => by omega))⟩)
 ·rw [hx]
  by_cases hr : f < 0 ∨ (m.fn : Int) ≤ f
  ·have HR:=hid hr
   by_cases hf : f < 0
   ·have d1 : decide (f < 0) = true:=by simpa using hf
    clear hr;go_wp2_with fail;obtain ⟨z1,zk⟩:=tN (.slice none 0 0) (.slice none 0 0) (.slice none 0 0) (.slice none 0 0) (.int .i64 0) HT1.out
    refine bodyPost_ret (v:=.tuple #[.agg zT,.int .i64 1,.int .i64 (-1)]) (Dp z1 rfl rfl rfl) rfl (.inr (.inl ⟨hx,HR.out,rfl,HB2.out.trans (zk.to_below (B:=w.heap.size) HB2.out.size (fun k hk h => by omega))⟩))
   ·have d1 : decide (f < 0) = false:=by simpa using hf
    have d2 : decide ((m.fn : Int) ≤ f) = true:=by simp; omega
    clear hr;go_wp2_with fail;obtain ⟨z1,zk⟩:=tN (.slice none 0 0) (.slice none 0 0) (.slice none 0 0) (.slice none 0 0) (.int .i64 0) HT1.out
    refine bodyPost_ret (v:=.tuple #[.agg zT,.int .i64 1,.int .i64 (-1)]) (Dp z1 rfl rfl rfl) rfl (.inr (.inl ⟨hx,HR.out,rfl,HB2.out.trans (zk.to_below (B:=w.heap.size) HB2.out.size (fun k hk h => by omega))⟩))
  ·obtain ⟨k,rfl⟩ : ∃ k : Nat,f = (k : Int):=⟨f.toNat,by omega⟩
   have hkn : k < m.fn:=by omega
   have d1 : decide ((k : Int) < 0) = false:=by simp
   have d2 : decide ((m.fn : Int) ≤ (k : Int)) = false:=by simp; omega
   obtain ⟨x,hxk⟩ : ∃ x,m.fns[k]? = some x:=⟨_,List.getElem?_eq_getElem (by rw [HF.out.1]; exact hkn)⟩
   obtain ⟨b,off,hfa,hat⟩:=HF.out.2.resolve_left (by omega)
   have hat:=hat k x hxk;have hbw : b < w.heap.size:=block_lt_of_cell hat.1;rw [hfa] at m5;have n0:=ae HB2.out hat.1;have n1:=ae HB2.out hat.2.1;have n2:=ae HB2.out hat.2.2
   have hk0 : (0 : Int) ≤ (k : Int):=by omega
   have hk1 : (k : Int) < (m.fn : Int):=by omega
   have hH0 : ko w.heap.size m b off (off + k * 3) x w2:=⟨m0,m1,m2,m3,m4,m5,m6,m7,n0,n1,n2⟩
   have H30:=hid (fun (W : World) (hb : Below w.heap.size w W) => ym hx (HM.out W hb) (HK.out W hb) (Nat.lt_of_lt_of_le hp hb.size) hxk (HCP.out x (List.mem_of_getElem? hxk)))
   unfold mV at H30;rw [hfa] at H30;clear hr hat m0 m1 m2 m3 m4 n0 n1 n2;go_wp2_with fail;have HBB : Below w2.heap.size w2 w2.drew:=(Below.refl _ _).drew;have hH : ko w.heap.size m b off (off + k * 3) x w2.drew:=hH0;have hT : w2.drew.heap[w.heap.size + 1]? = some (.cells zT 39):=HT1.out;clear hH0 m5 m6 m7 a0 a1 a2 a3 a4 f0 f1 f2 f3 f4
   refine wp_region_held_drew (S:=ko w.heap.size m b off (off + k * 3) x) (by kernel_rfl) hH (fun hHeld => ?_)
   generalize w2.drew = WD at *;refine tkB (i:=0) (oi:={ dst:=some 24,op:=.load 29 (.tmp 2),type:=29,pos:= "validate.go:19",after:=#[],guard:=none }) (d:=some 24) ?_;(try simp only [Act.put,sIB,sC0,sCs]);refine tkB (i:=1) (oi:={ dst:=some 25,op:=.fieldAddr 29 (.tmp 2) 5,type:=0,pos:= "validate.go:19",after:=#[],guard:=none }) (d:=some 25) ?_;(try simp only [Act.put,sIB,sC0,sCs]);refine tkB (i:=2) (oi:={ dst:=some 26,op:=.load 25 (.tmp 25),type:=25,pos:= "validate.go:19",after:=#[⟨1,.data⟩],guard:=none }) (d:=some 26) ?_;(try simp only [Act.put,sIB,sC0,sCs]);refine tkB (i:=3) (oi:={ dst:=some 27,op:=.move (.tmp 1),type:=3,pos:= "validate.go:19",after:=#[],guard:=none }) (d:=some 27) ?_;(try simp only [Act.put,sIB,sC0,sCs]);refine tkB (i:=4) (oi:={ dst:=some 28,op:=.indexAddr 25 (.tmp 26) (.tmp 27),type:=0,pos:= "validate.go:19",after:=#[⟨2,.data⟩,⟨3,.data⟩],guard:=none }) (d:=some 28) ?_;(try simp only [Act.put,sIB,sC0,sCs]);refine tkB (i:=5) (oi:={ dst:=some 29,op:=.load 42 (.tmp 28),type:=42,pos:= "validate.go:19",after:=#[⟨4,.data⟩],guard:=none }) (d:=some 29) ?_;(try simp only [Act.put,sIB,sC0,sCs]);refine rdY (rs:=[6]) ?_
   refine rdA (o:={ dst:=some 30,op:=.call { callee:=.value (.func 30),args:=#[.tmp 24,.tmp 29],argTypes:=#[29,42] },type:=47,pos:= "validate.go:19",after:=#[⟨0,.data⟩,⟨5,.data⟩],guard:=none }) (fun K hK => ?_) ?_
   ·have hBD : Below w.heap.size w WD:=HB2.out.trans (HBB.mono HB2.out.size)
    have hsD : w.heap.size + 2 ≤ WD.heap.size:=by have:=HBB.size; omega
    go_simp;refine (H30.out WD hBD).mono ?_;rintro e w3 hO;obtain ⟨s0,s1,s2,s3,k0,k1,k2,k3,c0,c1,c2,c3,hi,ev,pv,rfl⟩:=hO.shape;have hb3:=hO.1;have hH:=ko.later hH hb3;have hT:=aj hb3 hT
    refine hK.out _ _ hH (fun _ => ?_)
    clear hK K;refine tkB (i:=7) (oi:={ dst:=some 31,op:=.extract (.tmp 30) 0,type:=39,pos:= "validate.go:19",after:=#[⟨6,.data⟩],guard:=none }) (d:=some 31) ?_;(try simp only [Act.put,sIB,sC0,sCs]);refine tkB (i:=8) (oi:={ dst:=some 32,op:=.extract (.tmp 30) 1,type:=33,pos:= "validate.go:19",after:=#[⟨6,.data⟩],guard:=none }) (d:=some 32) ?_;(try simp only [Act.put,sIB,sC0,sCs]);refine tkB (i:=9) (oi:={ dst:=some 33,op:=.extract (.tmp 30) 2,type:=3,pos:= "validate.go:19",after:=#[⟨6,.data⟩],guard:=none }) (d:=some 33) ?_;(try simp only [Act.put,sIB,sC0,sCs]);refine rdY (rs:=[10]) ?_
    refine rdA (o:={ dst:=none,op:=.store 39 (.tmp 4) (.tmp 31),type:=0,pos:= "validate.go:19",after:=#[⟨7,.data⟩,⟨6,.chain⟩,⟨0,.phase⟩,⟨1,.phase⟩,⟨2,.phase⟩,⟨3,.phase⟩,⟨4,.phase⟩,⟨5,.phase⟩,⟨6,.phase⟩,⟨7,.phase⟩,⟨8,.phase⟩,⟨9,.phase⟩],guard:=none }) (fun K hK => ?_) ?_
    ·have a0 : w3.cell? ⟨w.heap.size + 1,0,none⟩ = some (.slice none 0 0):=ai hT;have a1 : w3.cell? ⟨w.heap.size + 1,1,none⟩ = some (.slice none 0 0):=ai hT;have a2 : w3.cell? ⟨w.heap.size + 1,2,none⟩ = some (.slice none 0 0):=ai hT;have a3 : w3.cell? ⟨w.heap.size + 1,3,none⟩ = some (.slice none 0 0):=ai hT;have a4 : w3.cell? ⟨w.heap.size + 1,4,none⟩ = some (.int .i64 0):=ai hT;have f0 : w3.frozen? ⟨w.heap.size + 1,0,none⟩ = false:=free_at hT;have f1 : w3.frozen? ⟨w.heap.size + 1,1,none⟩ = false:=free_at hT;have f2 : w3.frozen? ⟨w.heap.size + 1,2,none⟩ = false:=free_at hT;have f3 : w3.frozen? ⟨w.heap.size + 1,3,none⟩ = false:=free_at hT;have f4 : w3.frozen? ⟨w.heap.size + 1,4,none⟩ = false:=free_at hT;go_simp;obtain ⟨z1,zk⟩:=tN (.slice s0 k0 c0) (.slice s1 k1 c1) (.slice s2 k2 c2) (.slice s3 k3 c3) (.int .i64 hi) hT
     have hH:=ko.kept hH zk (by omega) (by omega)
     have hO4:=hO.move hBD zk (by omega) (by omega)
     clear a0 a1 a2 a3 a4 f0 f1 f2 f3 f4
     refine hK.out _ _ hH (fun _ => ?_)
     clear hK K;generalize ((((w3.setCell ⟨w.heap.size + 1,0,none⟩ (.slice s0 k0 c0)).setCell ⟨w.heap.size + 1,1,none⟩ (.slice s1 k1 c1)).setCell ⟨w.heap.size + 1,2,none⟩ (.slice s2 k2 c2)).setCell ⟨w.heap.size + 1,3,none⟩ (.slice s3 k3 c3)).setCell ⟨w.heap.size + 1,4,none⟩ (.int .i64 hi) = W4 at *;refine tkB (i:=11) (oi:={ dst:=some 5,op:=.assign (.tmp 32),type:=33,pos:= "validate.go:19",after:=#[⟨8,.data⟩,⟨10,.chain⟩,⟨0,.phase⟩,⟨1,.phase⟩,⟨2,.phase⟩,⟨3,.phase⟩,⟨4,.phase⟩,⟨5,.phase⟩,⟨6,.phase⟩,⟨7,.phase⟩,⟨8,.phase⟩,⟨9,.phase⟩,⟨10,.phase⟩],guard:=none }) (d:=some 5) ?_;(try simp only [Act.put,sIB,sC0,sCs]);refine tkB (i:=12) (oi:={ dst:=some 6,op:=.assign (.tmp 33),type:=3,pos:= "validate.go:19",after:=#[⟨9,.data⟩,⟨11,.chain⟩,⟨0,.phase⟩,⟨1,.phase⟩,⟨2,.phase⟩,⟨3,.phase⟩,⟨4,.phase⟩,⟨5,.phase⟩,⟨6,.phase⟩,⟨7,.phase⟩,⟨8,.phase⟩,⟨9,.phase⟩,⟨10,.phase⟩,⟨11,.phase⟩],guard:=none }) (d:=some 6) ?_;try simp only [Act.put,sIB,sC0,sCs]
     refine wpAnyH_done (by kernel_rfl) ?_ _
     go_wp2_with fail
     refine bodyPost_ret (v:=.tuple #[.agg #[.slice s0 k0 c0,.slice s1 k1 c1,.slice s2 k2 c2,.slice s3 k3 c3,.int .i64 hi],.int .i64 ev,.int .i64 pv]) (Dp z1 rfl rfl rfl) rfl (.inr (.inr ⟨hx,x,by omega,hxk,hO4⟩))
    exact rN
   exact rN
def A1 (m : MM) (x : FuM) (E pc : Int) : Prop :=
 ((res (opF (x.2.2.2.map inx)) x.2.2.1.2.1 0).1 ≠ 0 ∧ E = (res (opF (x.2.2.2.map inx)) x.2.2.1.2.1 0).1 ∧ pc = (res (opF (x.2.2.2.map inx)) x.2.2.1.2.1 0).2) ∨
 (Good (opF (x.2.2.2.map inx)) x.2.2.1.2.1 ∧ ∃ P Q,m.types[x.1.toNat]? = some (P,Q) ∧ ∃ j,j < x.2.2.1.2.1 ∧ (∀ i,i < j → erA m (ax (P ++ x.2.1)) (x.2.2.2.map inx) Q x.2.2.1.2.1 i = 0) ∧ erA m (ax (P ++ x.2.1)) (x.2.2.2.map inx) Q x.2.2.1.2.1 j ≠ 0 ∧ E = erA m (ax (P ++ x.2.1)) (x.2.2.2.map inx) Q x.2.2.1.2.1 j ∧ pc = (j : Int))
def Bh (m : MM) (x : FuM) (base : Nat) (w : World) (t : Array Value) : Prop :=
 Good (opF (x.2.2.2.map inx)) x.2.2.1.2.1 ∧ ∃ P Q,m.types[x.1.toNat]? = some (P,Q) ∧ (∀ i,i < x.2.2.1.2.1 → erA m (ax (P ++ x.2.1)) (x.2.2.2.map inx) Q x.2.2.1.2.1 i = 0) ∧ ∃ SH EN EL FL,base ≤ SH ∧ base ≤ EN ∧ base ≤ EL ∧ base ≤ FL ∧
  t = #[.slice (some ⟨SH,0,none⟩) x.2.2.1.2.1 x.2.2.1.2.1,.slice (some ⟨EN,0,none⟩) x.2.2.1.2.1 x.2.2.1.2.1,.slice (some ⟨EL,0,none⟩) x.2.2.1.2.1 x.2.2.1.2.1,.slice (some ⟨FL,0,none⟩) x.2.2.1.2.1 x.2.2.1.2.1,.int .i64 (stA m (ax (P ++ x.2.1)) (x.2.2.2.map inx) Q x.2.2.1.2.1 x.2.2.1.2.1).hi] ∧
  Row w 9 SH x.2.2.1.2.1 x.2.2.1.2.1 ((stA m (ax (P ++ x.2.1)) (x.2.2.2.map inx) Q x.2.2.1.2.1 x.2.2.1.2.1).sh.map Value.string) ∧ RI w EN x.2.2.1.2.1 (enF (opF (x.2.2.2.map inx)) x.2.2.1.2.1) ∧ RI w EL x.2.2.1.2.1 (elF (opF (x.2.2.2.map inx)) x.2.2.1.2.1) ∧ RI w FL x.2.2.1.2.1 (stA m (ax (P ++ x.2.1)) (x.2.2.2.map inx) Q x.2.2.1.2.1 x.2.2.1.2.1).fl
theorem C0.cases {m : MM} {x : FuM} {w w' : World} {e : Ending} (h : C0 m x w e w') :
  (∃ E pc,A1 m x E pc ∧ E ≠ 0 ∧ e = .returned (.tuple #[.agg zT,.int .i64 E,.int .i64 pc])) ∨
  (∃ a0 a1 a2 a3 n0 n1 n2 n3 c0 c1 c2 c3 hi,e = .returned (.tuple #[.agg #[.slice a0 n0 c0,.slice a1 n1 c1,.slice a2 n2 c2,.slice a3 n3 c3,.int .i64 hi],.int .i64 0,.int .i64 0]) ∧ Bh m x w.heap.size w' #[.slice a0 n0 c0,.slice a1 n1 c1,.slice a2 n2 c2,.slice a3 n3 c3,.int .i64 hi]):=by
 rcases h.2 with ⟨h1,h⟩ | ⟨hG,P,Q,hP,_,⟨j,hj,hz,he,h⟩ | ⟨hz,SH,EN,EL,FL,l1,l2,l3,l4,_,_,_,_,h,r1,r2,r3,r4⟩⟩
 ·exact .inl ⟨_,_,.inl ⟨h1,rfl,rfl⟩,h1,h⟩
 ·exact .inl ⟨_,_,.inr ⟨hG,P,Q,hP,j,hj,hz,he,rfl,rfl⟩,he,h⟩
 ·exact .inr ⟨_,_,_,_,_,_,_,_,_,_,_,_,_,h,hG,P,Q,hP,hz,SH,EN,EL,FL,l1,l2,l3,l4,rfl,r1,r2,r3,r4⟩
theorem rS (a : Option Addr) (cap : Nat) (w : World) : Calls Tryz.prog 29 #[.slice a 0 cap] w fun e w' => e = .returned (.int .i64 0) ∧ w' = w:=by
 go_enter Tryz.func29,Tryz.ntmps29
 go_wp2_with fail;refine wp_loop_rounds 1 ?_;rw [rounds_succ];go_wp2_with fail;go_ret;exact ⟨rfl,rfl⟩
def szG : List InM → Nat → Nat
 | [],z => z
 | x :: r,z => if z ≤ 2147483647 then szG r (z + x.2.2.1.2.1) else z
theorem tO {x : InM} {r : List InM} {z : Nat} (h : z ≤ 2147483647) : szG (x :: r) z = szG r (z + x.2.2.1.2.1):=by simp [szG,h]
theorem Dn {x : InM} {r : List InM} {z : Nat} (h : ¬ z ≤ 2147483647) : szG (x :: r) z = z:=by simp [szG,h]
end Go.Proofs.YtepnnenohjfkbaaGreatDoor

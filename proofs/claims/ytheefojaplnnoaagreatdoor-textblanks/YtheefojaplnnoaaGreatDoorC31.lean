/-
  Texts Ng Nh.
-/
import Derived.Test.YtheefojaplnnoaaGreatDoorC00
import Derived.Test.YtheefojaplnnoaaGreatDoorC30
set_option linter.unusedVariables false
set_option maxRecDepth 100000
set_option maxHeartbeats 16000000
namespace Go.Proofs.YtheefojaplnnoaaGreatDoor
open Go.RowKit Go.Shelf
set_option maxHeartbeats 8000000
abbrev KW (R : Nat) (W0 W : World) : Prop:=aP (fun k => k = R ∨ k = R + 2 ∨ W0.heap.size ≤ k) W0 W
def LpI (R KB : Nat) (W0 : World) (n : Nat) (V : Int × Option (Int × PM)) (r : List ByteArray) (W : World) : Prop :=
 KW R W0 W ∧ (∀ x ∈ r,x.size ≤ 2097152) ∧ ∃ m ln pt,DL (R + 7) R (.map (some KB)) m ln pt W ∧ PR (pl m) ∧ (pt = 6 → m.fns ≠ []) ∧ 0 ≤ ln ∧ ln + r.length = n ∧ (psz (pl m) : Int) ≤ ln ∧ bh ln pt (pl m) r = V
def LpP (R : Nat) (W0 : World) (V : Int × Option (Int × PM)) (ch : List PanicEntry) (W : World) : Prop :=
 KW R W0 W ∧ V.2 = none ∧ ch = [{ v:=.iface 119 (.agg #[.int .i64 V.1]),recovered:=false }]
theorem Nj (R KB : Nat) (W0 : World) (n : Nat) (V : Int × Option (Int × PM)) (hz : W0.heap.size = R + 5) : OwnFrom W0.heap.size (LpI R KB W0 n V):=by
 rintro r W W' row ⟨hk,hx,m,ln,pt,hc,h⟩ hg hr;have hk2:=yS hg
 refine ⟨hk.then hk2 (fun k _ e => .inr (.inr (hr k e).1)),hx,m,ln,pt,?_,h⟩
 refine hc.keptS hk2 ae (fun e => by have:=(hr R e).1; omega) (fun k cs t _ hk3 e => ?_)
 obtain ⟨_,o,ho,hn⟩:=hr k e;rw [hk3] at ho
 cases ho
 simp [Obj.isCells] at hn
theorem La (R KB : Nat) (W0 : World) (n : Nat) (V : Int × Option (Int × PM)) (r : List ByteArray) (A : World) (v : Value) (h : LpI R KB W0 n V r A) : LpI R KB W0 n V r (A.setCell ⟨R + 2,0,none⟩ v):=by
 obtain ⟨hk,hx,m,ln,pt,hc,h⟩:=h;have hk2:=az A (R + 2) 0 v
 exact ⟨hk.then hk2 (fun k _ e => .inr (.inl e)),hx,m,ln,pt,hc.keptS hk2 ae (fun e => ae) (fun k _ _ hb _ e => ae),h⟩
theorem JG {B R KB : Nat} {W0 W : World} {n : Nat} {V : Int × Option (Int × PM)} {x : ByteArray} {r : List ByteArray} (hz : W0.heap.size = R + 5) (hn : n ≤ 2097152) (hE : bY B W0) (hBR : B ≤ R) (hK : W0.heap[KB]? = some (.map kdE 8)) (hKR : KB < R)
  (hsz : W0.heap.size + 2 ≤ W.heap.size) (h : LpI R KB W0 n V (x :: r) W) :
  Calls Tryz.prog 56 #[.pointer (some ⟨R,0,none⟩),.string x] W fun e W' => (∃ v,e = .returned v ∧ (∀ k,W0.heap.size ≤ k → k < W0.heap.size + 2 → W'.heap[k]? = W.heap[k]?) ∧ dE [⟨R + 3,0,none⟩,⟨R + 2,0,none⟩,⟨R + 4,0,none⟩] W W' ∧ LpI R KB W0 n V r W') ∨
   (∃ ch,e = .panicked ch ∧ (∀ k,W0.heap.size ≤ k → k < W0.heap.size + 2 → W'.heap[k]? = W.heap[k]?) ∧ LpP R W0 V ch W'):=by
 obtain ⟨hk,hx,m,ln,pt,hc,hpr,hne,hl0,hl,hps,hV⟩:=h;have hq:=hc.rq ae
 have hbl : Below B W0 W:=⟨hk.os,hk.tape,hk.output,hk.size,fun k hk' => hk.block k (by have:=hE.bw; omega) (fun e => by rcases e with e | e | e <;> omega)⟩
 have hxs:=hx x ar
 simp only [List.length_cons] at hl
 refine (MN x hq hxs ⟨hl0,ae⟩ (hE.later hbl) hBR ae hne ((hk.block KB ae (fun e => by rcases e with e | e | e <;> omega)).trans hK) ae ae).mono ?_
 rintro e W' ⟨hkr,hres⟩
 have hsame : ∀ k,W0.heap.size ≤ k → k < W0.heap.size + 2 → W'.heap[k]? = W.heap[k]?:=fun k h1 h2 => hkr.block k ae (fun e => by rcases e with e | e <;> omega)
 have hkk : KW R W0 W':=hk.then hkr (fun k _ e => by rcases e with e | e; exact .inl e; exact .inr (.inr ae))
 unfold bh at hV
 cases ht : bO pt (pl m) x with
 | none =>
  rw [ht] at hres hV;have hres : e = thL (ln + 1):=hres;subst hres;dsimp only at hV;subst hV;exact .inr ⟨_,rfl,hsame,hkk,rfl,rfl⟩
 | some y =>
  obtain ⟨p',M'⟩:=y;rw [ht] at hres hV;obtain ⟨rfl,m',hq',rfl⟩:=hres;dsimp only at hV
  have hst:=Lj ht hpr (fun e => by have:=hne e; unfold pl; simpa using this) hxs
  refine .inl ⟨_,rfl,hsame,?_,hkk,fun y hy => hx y jL,m',ln + 1,p',.inl hq',hst.pr,fun e => by have:=hst.ne e; unfold pl at this; simpa using this,ae,ae,by have:=hst.sz; omega,hV⟩
  intro p hp v hv;have hlt:=block_lt_of_cell hv
  have hb : ∀ k,k < R + 7 → k ≠ R → k < W.heap.size → W'.heap[k]? = W.heap[k]?:=fun k h1 h2 h3 => hkr.block k h3 (fun e => by rcases e with e | e <;> omega)
  simp only [List.mem_cons,List.not_mem_nil,or_false] at hp
  rcases hp with rfl | rfl | rfl
  ·have h5:=hb (R + 3) ae ae hlt;exact ub
  ·have h5:=hb (R + 2) ae ae hlt;exact ub
  ·have h5:=hb (R + 4) ae ae hlt;exact ub
set_option maxHeartbeats 16000000
theorem kQ : ∀ (l : List UInt8),(aV l).length ≤ l.length + 1
 | [] => by simp [aV]
 | b :: l => by
  have ih:=kQ l;unfold aV
  split
  ·simp; omega
  ·split
   ·simp
   ·rename_i p r h
    rw [h] at ih
    simp at ih ⊢
    omega
theorem il (s : ByteArray) : (aI s).length ≤ s.size + 1:=by
 unfold aI;rw [List.length_map]
 have:=kQ s.data.toList
 have e : s.data.toList.length = s.size:=Array.length_toList;omega
def rt3 (v : Array Value) (e l : Int) : Ending:=.returned (.tuple #[.agg v,.int .i64 e,.int .i64 l])
theorem RQ.len {base R : Nat} {mp : Value} {m : MM} {ln pt : Int} {w : World} (h : RQ base R mp m ln pt w) : LnM m :=
 ⟨(dL (g:=mM) (fun _ => rfl) aq h.rt).symm,(dL (g:=ir) (fun _ => rfl) aq h.rh).symm,(dL (g:=dW) (fun _ => rfl) aq h.rg).symm,(dL (g:=dD) (fun _ => rfl) aq h.rf).symm,(dL (g:=mL) (fun _ => rfl) aq h.rd).symm,(dL (g:=mz) (fun _ => rfl) aq h.re).symm⟩
def qM (s : ByteArray) (w : World) (e : Ending) (w' : World) : Prop :=
 Below w.heap.size w w' ∧ (1048576 < s.size → e = rt3 zV 13 0) ∧
 (s.size ≤ 1048576 → ∀ l o,bh 0 0 pm0 (aI s) = (l,o) → (o = none → e = rt3 zV 22 l) ∧
  ∀ p M,o = some (p,M) → (p < 5 → e = rt3 zV 22 l) ∧ (5 ≤ p → ∃ m,pl m = M ∧ LnM m ∧ PR M ∧ (cS m ≠ 0 → e = rt3 zV (cS m) 0) ∧ (cS m = 0 → e = rt3 (mV m) 0 0 ∧ ∃ base R mp ln,w.heap.size ≤ R ∧ RQ base R mp m ln p w')))
structure PA (s : ByteArray) (w W0 : World) (R : Nat) : Prop where
 z : W0.heap.size = R + 5
 lo : w.heap.size + 3 < R
 below : Below w.heap.size w W0
 a : W0.heap[w.heap.size]? = some (.cells zV 29)
 b : W0.heap[w.heap.size + 1]? = some (cG 0)
 c : W0.heap[w.heap.size + 2]? = some (bz 0)
 k : W0.heap[w.heap.size + 3]? = some (.map kdE 8)
 r : W0.heap[R]? = some (.cells (iZ (.map (some (w.heap.size + 3))) mm0 0 0) 126)
 v : W0.heap[R + 1]? = some (ny (some ⟨R,0,none⟩))
 s2 : W0.heap[R + 2]? = some (cK s)
 s1 : W0.heap[R + 3]? = some (cK ⟨#[10]⟩)
 s3 : W0.heap[R + 4]? = some (bz 0)
def wA (w : World) : World:=((w.alloc (.cells zV 29)).alloc (cG 0)).alloc (bz 0)
def wB (s : ByteArray) (w w1 : World) : World:=((((w1.alloc (.cells (iZ (.map (some (w.heap.size + 3))) mm0 0 0) 126)).alloc (ny (some ⟨w1.heap.size,0,none⟩))).alloc (cK s)).alloc (cK ⟨#[10]⟩)).alloc (bz 0)
theorem Ll (w : World) : (wA w).heap.size = w.heap.size + 3:=by simp [wA]
theorem LF (w : World) : (wA w).heap[w.heap.size]? = some (.cells zV 29) ∧ (wA w).heap[w.heap.size + 1]? = some (cG 0) ∧ (wA w).heap[w.heap.size + 2]? = some (bz 0) ∧ Below w.heap.size w (wA w):=by
 refine ⟨?_,?_,?_,(((Below.refl _ w).alloc ar _).alloc bM _).alloc bM _⟩
 ·unfold wA;rw [(ag ((w.alloc (.cells zV 29)).alloc (cG 0)) _).block _ bM,(ag (w.alloc (.cells zV 29)) _).block _ ar];exact heap_alloc_new w _
 ·unfold wA;rw [(ag ((w.alloc (.cells zV 29)).alloc (cG 0)) _).block _ ar]
  have:=heap_alloc_new (w.alloc (.cells zV 29)) (cG 0)
  exact bX
 ·have:=heap_alloc_new ((w.alloc (.cells zV 29)).alloc (cG 0)) (bz 0)
  simpa [wA] using this
theorem Oa (s : ByteArray) (w w1 : World) (hm : w1.heap[w.heap.size + 3]? = some (.map kdE 8)) (hb : Below (w.heap.size + 3) (wA w) w1) : PA s w (wB s w w1) w1.heap.size:=by
 obtain ⟨a1,a2,a3,a4⟩:=LF w;have z:=Ll w;have hz:=hb.size;have hlt:=aS hm;have B1 : Below w1.heap.size w1 (wB s w w1):=(((((Below.refl _ w1).alloc ar _).alloc bM _).alloc bM _).alloc bM _).alloc bM _;obtain ⟨y0,hy0⟩ : ∃ y,w1.alloc (.cells (iZ (.map (some (w.heap.size + 3))) mm0 0 0) 126) = y:=⟨_,rfl⟩;obtain ⟨y1,hy1⟩ : ∃ y,y0.alloc (ny (some ⟨w1.heap.size,0,none⟩)) = y:=⟨_,rfl⟩;obtain ⟨y2,hy2⟩ : ∃ y,y1.alloc (cK s) = y:=⟨_,rfl⟩;obtain ⟨y3,hy3⟩ : ∃ y,y2.alloc (cK ⟨#[10]⟩) = y:=⟨_,rfl⟩;obtain ⟨y4,hy4⟩ : ∃ y,y3.alloc (bz 0) = y:=⟨_,rfl⟩
 have e : wB s w w1 = y4:=by unfold wB; rw [hy0,hy1,hy2,hy3,hy4]
 have z0 : y0.heap.size = w1.heap.size + 1:=by rw [← hy0]; simp
 have z1 : y1.heap.size = w1.heap.size + 2:=by rw [← hy1]; simp [z0]
 have z2 : y2.heap.size = w1.heap.size + 3:=by rw [← hy2]; simp [z1]
 have z3 : y3.heap.size = w1.heap.size + 4:=by rw [← hy3]; simp [z2]
 have z4 : y4.heap.size = w1.heap.size + 5:=by rw [← hy4]; simp [z3]
 have c0 : y0.heap[w1.heap.size]? = some (.cells (iZ (.map (some (w.heap.size + 3))) mm0 0 0) 126):=by rw [← hy0]; exact heap_alloc_new _ _
 have c1 : y1.heap[w1.heap.size + 1]? = some (ny (some ⟨w1.heap.size,0,none⟩)):=by rw [← hy1,← z0]; exact heap_alloc_new _ _
 have c2 : y2.heap[w1.heap.size + 2]? = some (cK s):=by rw [← hy2,← z1]; exact heap_alloc_new _ _
 have c3 : y3.heap[w1.heap.size + 3]? = some (cK ⟨#[10]⟩):=by rw [← hy3,← z2]; exact heap_alloc_new _ _
 have c4 : y4.heap[w1.heap.size + 4]? = some (bz 0):=by rw [← hy4,← z3]; exact heap_alloc_new _ _
 have b1:=hy1 ▸ ag y0 (ny (some ⟨w1.heap.size,0,none⟩));have b2:=hy2 ▸ ag y1 (cK s);have b3:=hy3 ▸ ag y2 (cK ⟨#[10]⟩);have b4:=hy4 ▸ ag y3 (bz 0);rw [e] at B1 ⊢
 have old : ∀ k,k < w.heap.size + 3 → y4.heap[k]? = (wA w).heap[k]?:=fun k hk => (B1.block k ae).trans (hb.block k ae)
 refine ⟨z4,hlt,(a4.trans (hb.mono ae)).trans (B1.mono ae),(old _ ae).trans a1,(old _ ae).trans a2,(old _ ae).trans a3,(B1.block _ ae).trans hm,?_,?_,?_,?_,c4⟩
 ·exact (b4.block _ ae).trans ((b3.block _ ae).trans ((b2.block _ ae).trans ((b1.block _ ae).trans c0)))
 ·exact (b4.block _ ae).trans ((b3.block _ ae).trans ((b2.block _ ae).trans c1))
 ·exact (b4.block _ ae).trans ((b3.block _ ae).trans c2)
 ·exact (b4.block _ ae).trans c3
end Go.Proofs.YtheefojaplnnoaaGreatDoor

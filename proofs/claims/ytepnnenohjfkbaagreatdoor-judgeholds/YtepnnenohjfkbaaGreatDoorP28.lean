/-
  Texts Lm Ln.
-/
import Derived.Test.YtepnnenohjfkbaaGreatDoorP00
import Derived.Test.YtepnnenohjfkbaaGreatDoorP16
import Derived.Test.YtepnnenohjfkbaaGreatDoorP22
import Derived.Test.YtepnnenohjfkbaaGreatDoorP23
import Derived.Test.YtepnnenohjfkbaaGreatDoorP27
set_option linter.unusedVariables false
set_option maxRecDepth 100000
set_option maxHeartbeats 16000000
namespace Go.Proofs.YtepnnenohjfkbaaGreatDoor
open Go.RowKit
theorem lO (c : Int) (w : World) (h0 : 0 ≤ c) (h1 : c ≤ 255) : Calls Tryz.prog 97 #[.int .u8 c] w fun e w' => e = .returned (.bool (isO c)) ∧ w' = w:=by
 by_cases h : c = 2
 ·subst h;exact pP
 by_cases h' : c = 3
 ·subst h';exact pP
 have hv : isO c = decide (c = 4):=by simp [isO,h,h']
 rw [hv];have b2 : (c == 2) = false:=jZ
 have b3 : (c == 3) = false:=by simpa using h'
 by_cases h4 : c = 4
 ·subst h4;exact pP
 ·have b4 : (c == 4) = false:=qo;rw [decide_eq_false h4];exact pP
def RC (w : World) (B n c : Nat) (f : Nat → Int) : Prop:=Row w 3 B n c (fl n f)
theorem RC.cell {w : World} {B n c : Nat} {f : Nat → Int} (h : RC w B n c f) (i : Nat) (hi : i < n) : w.cell? ⟨B,i,none⟩ = some (.int .i64 (f i)):=(Row.cell h i hi).trans (rh n f i hi)
theorem RC.free {w : World} {B n c : Nat} {f : Nat → Int} (h : RC w B n c f) (i : Nat) : w.frozen? ⟨B,i,none⟩ = false:=Row.free h i
theorem RC.lt {w : World} {B n c : Nat} {f : Nat → Int} (h : RC w B n c f) : B < w.heap.size:=Row.lt h
theorem RC.congr {w : World} {B n c : Nat} {f g : Nat → Int} (h : RC w B n c f) (e : ∀ i,i < n → g i = f i) : RC w B n c g:=by
 unfold RC; rw [xy e]; exact h
theorem RC.put {w : World} {B n c : Nat} {f g : Nat → Int} (h : RC w B n c f) (t : Nat) (v : Int) (e : ∀ i,i < n → g i = if i = t then v else f i) : RC (w.setCell ⟨B,t,none⟩ (.int .i64 v)) B n c g ∧ Kept (fun k => k = B) w (w.setCell ⟨B,t,none⟩ (.int .i64 v)):=by
 have:=Row.put h t (.int .i64 v)
 rw [IM e] at this;exact this
theorem RC.kept {S : Nat → Prop} {w w' : World} {B n c : Nat} {f : Nat → Int} (h : RC w B n c f) (hk : Kept S w w') (hs : ¬ S B) : RC w' B n c f:=Row.kept h hk hs
theorem RC.li {w : World} {base B n c : Nat} {f : Nat → Int} (h : RC w B n c f) (hb : base ≤ B) : LI w base (.slice (some ⟨B,0,none⟩) n c) ((List.range n).map f):=by
 have:=lB h hb
 unfold LI
 simpa [fl,Function.comp_def] using this
theorem LI.rc {w : World} {base n c B : Nat} {l : List Int} {f : Nat → Int} (h : LI w base (.slice (some ⟨B,0,none⟩) n c) l) (e : l = (List.range n).map f) : RC w B n c f:=by
 subst e
 have:=Row.of (w:=w) (base:=base) (e:=3) (B:=B) (n:=n) (cap:=c) (xs:=((List.range n).map f).map (Value.int .i64)) (by
  have:=h; unfold LI at this; simpa using this)
 unfold RC fl
 simpa [Function.comp_def] using this
theorem mM (w : World) {ops : Array Oper} {rest : List Oper} {o : Oper} {a : Act} {Q : Exit → Act → World → Prop} (hgd : o.guard = none)
  (s x : Operand) (ho : o.op = Op.call { callee:=Callee.builtin Builtin.append,args:=#[s,x],argTypes:=#[23,23] })
  (base : Nat) (v : Value) (l : List Int) (hs : a.eval s = v) (hown : LI w base v l) (hbase : base ≤ w.heap.size) (ad : Addr) (z : Int) (hx : a.eval x = .slice (some ad) 1 1) (hu : w.cell? (ad.add 0) = some (.int .i64 z))
  (hlen : l.length ≤ 1073741824)
  (h : ∀ (B cap k : Nat) (w' : World),k = (l ++ [z]).length → LI w' base (.slice (some ⟨B,0,none⟩) k cap) (l ++ [z]) → (v.ownBlock = some B ∨ w.heap.size ≤ B) → Kept (fun k => v.ownBlock = some k) w w' → wpList Tryz.prog ops Q rest (a.put o.dst (.slice (some ⟨B,0,none⟩) k cap)) w') :
  wpList Tryz.prog ops Q (o :: rest) a w:=by
 obtain ⟨i0,hi,hz0,hz1,hz2⟩:=info_parts Tryz.infInts;refine yo w hgd s x 23 ho 3 i0 (.int .i64 0) 8 Tryz.underlying23 hi hz0 hz1 hz2 rfl v l.length (l.map (Value.int .i64)) hs (fD hown (Nat.zero_le _)) ad (.int .i64 z) hx hu rfl cG ae ?_;intro B cap w' hrow hcase
 have hB : base ≤ B:=by
  exact D7
 have hfin:=h B cap (l.length + 1) w' ak (by
  have:=lB hrow hB
  unfold LI
  simpa using this)
 refine hfin ?_ ?_
 ·rcases hcase with ⟨rfl,_⟩ | ⟨h1,_⟩
  ·exact .inl rfl
  ·exact .inr h1
 ·rcases hcase with ⟨rfl,h1⟩ | ⟨_,h1⟩
  ·exact h1.mono (fun k e => by subst e; rfl)
  ·exact h1.mono (fun _ x => x.elim)
def Ap (v u : Value) : Prop:=∀ b,v.ownBlock = some b → u.ownBlock ≠ some b
theorem Ap.symm {v u : Value} (h : Ap v u) : Ap u v:=fun b h1 h2 => h b h2 h1
theorem Ap.nil (v : Value) : Ap v (.slice none 0 0):=fun b _ h => by simp [Value.ownBlock] at h
structure R3 (w : World) (base k : Nat) (v1 v2 v3 : Value) (wr : World) : Prop where
 l1 : LI wr base v1 (List.replicate k (-1))
 l2 : LI wr base v2 (List.replicate k (-1))
 l3 : LI wr base v3 (List.replicate k (-1))
 a12 : Ap v1 v2
 a13 : Ap v1 v3
 a23 : Ap v2 v3
 bel : Below base w wr
 le : base ≤ wr.heap.size
theorem De {w : World} {base : Nat} {v u : Value} {l : List Int} {B c k : Nat} (ha : Ap v u) (hu : LI w base u l) (hB : v.ownBlock = some B ∨ w.heap.size ≤ B) : Ap (.slice (some ⟨B,0,none⟩) k c) u:=by
 intro b hb hub;have e : B = b:=ry;subst e
 rcases hB with hB | hB
 ·exact ha B hB hub
 ·have:=(LI.block hu hub).2; omega
theorem rz {base : Nat} {w w1 w2 : World} {v : Value} {l : List Int} (hb : Below base w w1) (hl : LI w1 base v l) (hbase : base ≤ w1.heap.size) (hk : Kept (fun k => v.ownBlock = some k) w1 w2) : Below base w w2 :=
 bA hb hk hbase (fun k hx => (LI.block hl hx).1)
structure T3 (w : World) (base : Nat) (v u t : Value) (l m q : List Int) (W : World) : Prop where
 lv : LI W base v l
 lu : LI W base u m
 lt : LI W base t q
 vu : Ap v u
 vt : Ap v t
 ut : Ap u t
 bel : Below base w W
 le : base ≤ W.heap.size
theorem T3.rot {w : World} {base : Nat} {v u t : Value} {l m q : List Int} {W : World} (h : T3 w base v u t l m q W) : T3 w base u t v m q l W:=⟨h.lu,h.lt,h.lv,h.ut,h.vu.symm,h.vt.symm,h.bel,h.le⟩
theorem T3.alloc {w : World} {base : Nat} {v u t : Value} {l m q : List Int} {W : World} (h : T3 w base v u t l m q W) (o : Obj) : T3 w base v u t l m q (W.alloc o):=by
 have ob:=(Below.refl W.heap.size W).alloc (Nat.le_refl _) o
 exact ⟨h.lv.later ob (Nat.le_refl _),h.lu.later ob (Nat.le_refl _),h.lt.later ob (Nat.le_refl _),h.vu,h.vt,h.ut,h.bel.alloc h.le o,by have:=h.le; simp; omega⟩
theorem T3.push {w : World} {base : Nat} {v u t : Value} {l l' m q : List Int} {W w1 : World} {B c k : Nat} (h : T3 w base v u t l m q W) (hL : LI w1 base (.slice (some ⟨B,0,none⟩) k c) l') (hB : v.ownBlock = some B ∨ W.heap.size ≤ B) (hk : Kept (fun k => v.ownBlock = some k) W w1) :
  T3 w base (.slice (some ⟨B,0,none⟩) k c) u t l' m q w1 :=
 ⟨hL,h.lu.kept hk (fun b hb hx => h.vu b hx hb),h.lt.kept hk (fun b hb hx => h.vt b hx hb),De h.vu h.lu hB,De h.vt h.lt hB,h.ut,rz h.bel h.lv h.le hk,Nat.le_trans h.le hk.size⟩
def opn (O : Nat → Int) (k : Nat) : List Int:=((stk O k).reverse).map (fun t : Nat => (t : Int))
theorem kS (O : Nat → Int) (k : Nat) : (opn O k).length = (stk O k).length:=by simp [opn]
theorem qj {O : Nat → Int} {k t : Nat} {r : List Nat} (h : stk O k = t :: r) : opn O k = (r.reverse).map (fun t : Nat => (t : Int)) ++ [(t : Int)]:=by simp [opn,h]
theorem LI.take {w : World} {base B k c : Nat} {l : List Int} {z : Int} (h : LI w base (.slice (some ⟨B,0,none⟩) k c) (l ++ [z])) : LI w base (.slice (some ⟨B,0,none⟩) l.length c) l:=by
 rcases h.2 with ⟨h0,_⟩ | ⟨g,cp,cur,h1,h2,h3,h4,h5,h6,h7⟩
 ·cases h0
 injection h1 with e1 e2 e3
 injection e1 with e1
 injection e1 with e1
 subst e1 e3
 refine ⟨ak,.inr ⟨B,c,cur,rfl,h2,h3,by simp at h4; omega,h5,h6,?_⟩⟩
 have e : cur.toList.take (l.length * 1) = (cur.toList.take ((l ++ [z]).length * 1)).take (l.length * 1):=by
  rw [List.take_take]; congr 1; simp
 rw [e,h7]
 simp
structure RSt (O : Nat → Int) (n base A B C ca cb cc : Nat) (w : World) (k : Nat) (vo : Value) (wr : World) : Prop where
 ok : Okp O k
 rest : res O (n - k) k = res O n 0
 en : RC wr A n ca (enF O k)
 el : RC wr B n cb (elF O k)
 ow : RC wr C n cc (owF O k)
 op : LI wr base vo (opn O k)
 nA : vo.ownBlock ≠ some A
 nB : vo.ownBlock ≠ some B
 nC : vo.ownBlock ≠ some C
 bel : Below base w wr
 le : base ≤ wr.heap.size
theorem IB {O : Nat → Int} {n base A B C ca cb cc : Nat} {w : World} {k : Nat} {vo : Value} {wr W1 w1 : World} {B1 C1 k1 : Nat} {o : Obj} (h : RSt O n base A B C ca cb cc w k vo wr) (hlt : k < n) (he : er O k = 0) (hb6 : ¬ (O k = 6 ∧ stk O k = [])) (hO : isO (O k) = true)
  (en : RC W1 A n ca (enF O k)) (el : RC W1 B n cb (elF O k)) (ow : RC W1 C n cc (owF O (k + 1))) (bel : Below base w W1) (le : base ≤ W1.heap.size) (hvo : LI W1 base vo (opn O k))
  (hL : LI w1 base (.slice (some ⟨B1,0,none⟩) k1 C1) (opn O k ++ [(k : Int)])) (hB : vo.ownBlock = some B1 ∨ (W1.alloc o).heap.size ≤ B1) (hk : Kept (fun k => vo.ownBlock = some k) (W1.alloc o) w1) :
  RSt O n base A B C ca cb cc w (k + 1) (.slice (some ⟨B1,0,none⟩) k1 C1) w1:=by
 have ka:=Kept.alloc (fun _ => False) W1 o
 have n5:=gV hO;have hA:=en.lt;have hBl:=el.lt;have hC:=ow.lt;have hs : (W1.alloc o).heap.size = W1.heap.size + 1:=ak
 have far : ∀ X,X < W1.heap.size → vo.ownBlock ≠ some X → (Value.slice (some ⟨B1,0,none⟩) k1 C1).ownBlock ≠ some X:=fun X hX hne e => by
  have e : B1 = X:=by simpa [Value.ownBlock] using e
  subst e
  rcases hB with hB | hB
  ·exact hne hB
  ·omega
 have hvo2:=hvo.later ((Below.refl W1.heap.size W1).alloc (Nat.le_refl _) o) (Nat.le_refl _)
 refine ⟨jV h.ok he hb6,(iX hlt he hb6).symm.trans h.rest,?_,?_,?_,by rw [qj (kq hO)]; exact hL,far A hA h.nA,far B hBl h.nB,far C hC h.nC,rz (bel.alloc le o) hvo2 ae hk,by have:=hk.size; omega⟩
 ·exact ((en.kept ka (fun x => x)).kept hk h.nA).congr (fun i _ => fp n5.2)
 ·exact ((el.kept ka (fun x => x)).kept hk h.nB).congr (fun i _ => fF n5.1)
 ·exact (ow.kept ka (fun x => x)).kept hk h.nC
theorem sQ {O : Nat → Int} {n base A B C ca cb cc : Nat} {w : World} {k : Nat} {vo : Value} {wr W1 : World} (h : RSt O n base A B C ca cb cc w k vo wr) (hlt : k < n) (hO : isO (O k) = false) (h5 : O k ≠ 5) (h6 : O k ≠ 6)
  (en : RC W1 A n ca (enF O k)) (el : RC W1 B n cb (elF O k)) (ow : RC W1 C n cc (owF O (k + 1))) (bel : Below base w W1) (le : base ≤ W1.heap.size) (hvo : LI W1 base vo (opn O k)) :
  RSt O n base A B C ca cb cc w (k + 1) vo W1:=by
 have he : er O k = 0:=by unfold er; rw [if_neg (by simp [hO]),if_neg h5]
 have hb6 : ¬ (O k = 6 ∧ stk O k = []):=fun x => h6 x.1
 have hs:=iw hO h6
 exact ⟨jV h.ok he hb6,(iX hlt he hb6).symm.trans h.rest,en.congr (fun i _ => fp h6),el.congr (fun i _ => fF h5),ow,by unfold opn at hvo ⊢; rw [hs]; exact hvo,h.nA,h.nB,h.nC,bel,le⟩
theorem IL {O : Nat → Int} {n base A B C ca cb cc : Nat} {w : World} {k t : Nat} {vo : Value} {wr W1 : World} (h : RSt O n base A B C ca cb cc w k vo wr) (hlt : k < n) (h5 : O k = 5) (hs : stk O k = t :: stk O t) (h4 : O t = 4) (hel : elF O k t = -1) (hAB : A ≠ B) (hBC : B ≠ C) (hbB : base ≤ B)
  (en : RC W1 A n ca (enF O k)) (el : RC W1 B n cb (elF O k)) (ow : RC W1 C n cc (owF O (k + 1))) (bel : Below base w W1) (le : base ≤ W1.heap.size) (hvo : LI W1 base vo (opn O k)) :
  RSt O n base A B C ca cb cc w (k + 1) vo (W1.setCell ⟨B,t,none⟩ (.int .i64 k)):=by
 have hO : isO (O k) = false:=by rw [h5]; rfl
 have he : er O k = 0:=by unfold er; rw [if_neg (by simp [hO]),if_pos h5,hs]; simp only; rw [if_pos ⟨h4,hel⟩]
 have hb6 : ¬ (O k = 6 ∧ stk O k = []):=fun x => by have:=x.1; omega
 have hs2:=iw hO (show O k ≠ 6 by omega)
 have P:=el.put (g:=elF O (k + 1)) t k (fun i hi => rI h5 hs i)
 exact ⟨jV h.ok he hb6,(iX hlt he hb6).symm.trans h.rest,(en.congr (fun i _ => fp (show O k ≠ 6 by omega))).kept P.2 hAB,P.1,ow.kept P.2 (fun x => hBC x.symm),
  (by unfold opn at hvo ⊢; rw [hs2]; exact hvo.kept P.2 (fun b hb hx => h.nB (by rw [← hx]; exact hb))),h.nA,h.nB,h.nC,bA bel P.2 le (fun k hx => ae),by rw [World.size_setCell]; exact le⟩
theorem Di {O : Nat → Int} {n base A B C ca cb cc : Nat} {w : World} {k t : Nat} {Ob ok1 oc : Nat} {wr W1 W2 : World} (h : RSt O n base A B C ca cb cc w k (.slice (some ⟨Ob,0,none⟩) ok1 oc) wr) (hlt : k < n) (h6 : O k = 6) (hs : stk O k = t :: stk O t) (hAB : A ≠ B) (hAC : A ≠ C) (hbA : base ≤ A)
  (el : RC W1 B n cb (elF O k)) (ow : RC W1 C n cc (owF O (k + 1))) (bel : Below base w W1) (le : base ≤ W1.heap.size) (hvo : LI W1 base (.slice (some ⟨Ob,0,none⟩) ok1 oc) (opn O k))
  (en : RC W2 A n ca (enF O (k + 1))) (hk : Kept (fun x => x = A) W1 W2) :
  RSt O n base A B C ca cb cc w (k + 1) (.slice (some ⟨Ob,0,none⟩) (stk O t).length oc) W2:=by
 have hO : isO (O k) = false:=by rw [h6]; rfl
 have he : er O k = 0:=by unfold er; rw [if_neg (by simp [hO]),if_neg ae]
 have hb6 : ¬ (O k = 6 ∧ stk O k = []):=fun x => by rw [hs] at x; cases x.2
 have hs2 : stk O (k + 1) = stk O t:=by rw [pN h6,hs]; rfl
 have hop : opn O k = opn O t ++ [(t : Int)]:=by rw [qj hs]; rfl
 have own : (Value.slice (some ⟨Ob,0,none⟩) (stk O t).length oc).ownBlock = (Value.slice (some ⟨Ob,0,none⟩) ok1 oc).ownBlock:=rfl
 have hv2:=hvo.kept hk (fun b hb hx => h.nA (by rw [← hx]; exact hb))
 rw [hop] at hv2;have hv3:=hv2.take;rw [kS] at hv3
 have eo : opn O (k + 1) = opn O t:=by unfold opn; rw [hs2]
 exact ⟨jV h.ok he hb6,(iX hlt he hb6).symm.trans h.rest,en,(el.congr (fun i _ => fF (show O k ≠ 5 by omega))).kept hk (fun x => hAB x.symm),ow.kept hk (fun x => hAC x.symm),
  (by rw [eo]; exact hv3),h.nA,h.nB,h.nC,bA bel hk le (fun k hx => ae),by have:=hk.size; omega⟩
def QZ (O : Nat → Int) (n base : Nat) (w : World) (v1 v2 v3 : Value) : Prop :=
 ((res O n 0).1 ≠ 0 ∧ v1 = Fz ∧ v2 = Fz ∧ v3 = Fz) ∨
 (res O n 0 = (0,0) ∧ LI w base v1 ((List.range n).map (enF O n)) ∧ LI w base v2 ((List.range n).map (elF O n)) ∧ LI w base v3 ((List.range n).map (owF O n)))
theorem FJ (b off n cap : Nat) (xs : List Inx) (w : World) (hn : n ≤ 1048576) (hn0 : 0 < n) (hcap : n ≤ cap) (hc : Cod w b off n xs) :
  Calls Tryz.prog 56 #[.slice (some ⟨b,off,none⟩) n cap] w fun e w' => ∃ a1 a2 a3 n1 n2 n3 c1 c2 c3,e = .returned (.tuple #[.slice a1 n1 c1,.slice a2 n2 c2,.slice a3 n3 c3,.int .i64 (res (opF xs) n 0).1,.int .i64 (res (opF xs) n 0).2]) ∧
   QZ (opF xs) n w.heap.size w' (.slice a1 n1 c1) (.slice a2 n2 c2) (.slice a3 n3 c3) ∧ Below w.heap.size w w':=by
 have HC:=hid hc;have hbl:=hc.lt hn0;clear hc
 go_enter Tryz.func56,Tryz.ntmps56
 go_wp2_with fail
 go_loopw [7,8,9,10] (fun v1 v2 v3 i wr => ∃ k : Nat,k ≤ n ∧ i = .int .i64 k ∧ R3 w w.heap.size k v1 v2 v3 wr) (fun _ _ _ i _ => n - (intOf i).toNat)
 case atStart => exact ⟨0,ae,rfl,LI.nil _ _,LI.nil _ _,LI.nil _ _,Ap.nil _,Ap.nil _,Ap.nil _,Below.refl _ _,Nat.le_refl _⟩
 case round =>
  obtain ⟨k,hk,rfl,hr3⟩:=hrel;obtain ⟨l1,l2,l3,a12,a13,a23,bel,le⟩:=hr3;obtain ⟨p1,q1,rfl⟩:=l1.slice;obtain ⟨p2,q2,rfl⟩:=l2.slice;obtain ⟨p3,q3,rfl⟩:=l3.slice
  simp only [List.length_replicate] at l1 l2 l3 a12 a13 a23 ⊢
  by_cases hlt : k < n
  ·have hrep : List.replicate (k + 1) (-1 : Int) = List.replicate k (-1) ++ [-1]:=List.replicate_succ';have T0:=hid ((show T3 w w.heap.size _ _ _ _ _ _ wr from ⟨l1,l2,l3,a12,a13,a23,bel,le⟩).alloc (aM (-1)));have HREP:=hid hrep;clear l1 l2 l3 a12 a13 a23 bel hrep;have hlen : (List.replicate k (-1 : Int)).length ≤ 1073741824:=aG
   go_wp2_with (first
    | (at_builtin; refine mM _ rfl (.tmp 22) (.tmp 23) rfl w.heap.size _ (List.replicate k (-1)) rfl T0.out.lv T0.out.le ⟨wr.heap.size,0,none⟩ (-1) rfl kG hlen ?_; intro B1 C1 k1 w1 hk1 m1 n1 o1; have T1:=hid ((T0.out.push m1 n1 o1).alloc (aM (-1))).rot; have K1:=hid hk1; clear m1 n1 o1 hk1)
    | (at_builtin; refine mM _ rfl (.tmp 25) (.tmp 26) rfl w.heap.size _ (List.replicate k (-1)) rfl T1.out.lv T1.out.le ⟨w1.heap.size,0,none⟩ (-1) rfl kG hlen ?_; intro B2 C2 k2 w2 hk2 m2 n2 o2; have T2:=hid ((T1.out.push m2 n2 o2).alloc (aM (-1))).rot; have K2:=hid hk2; clear m2 n2 o2 hk2)
    | (at_builtin; refine mM _ rfl (.tmp 28) (.tmp 29) rfl w.heap.size _ (List.replicate k (-1)) rfl T2.out.lv T2.out.le ⟨w2.heap.size,0,none⟩ (-1) rfl kG hlen ?_; intro B3 C3 k3 w3 hk3 m3 n3 o3; have T3':=hid (T2.out.push m3 n3 o3).rot; have K3:=hid hk3; clear m3 n3 o3 hk3))
   have F:=T3'.out;refine ⟨⟨k + 1,ae,aX,?_,?_,?_,F.vu,F.vt,F.ut,F.bel,F.le⟩,aZ⟩
   ·rw [HREP.out]; exact F.lv
   ·rw [HREP.out]; exact F.lu
   ·rw [HREP.out]; exact F.lt
  ·obtain rfl : n = k:=ae;go_wp2_with fail
   --LOOP2
   clear hlt hk;have e1:=l1;obtain ⟨-,c1⟩:=l1.cell;obtain ⟨-,c2⟩:=l2.cell;obtain ⟨-,c3⟩:=l3.cell;obtain ⟨A,rfl,-⟩:=c1.resolve_left ae;obtain ⟨B,rfl,-⟩:=c2.resolve_left ae;obtain ⟨C,rfl,-⟩:=c3.resolve_left ae
   have hrp : List.replicate n (-1 : Int) = (List.range n).map (fun _ => -1):=by
    apply List.ext_getElem ak; intro i h1 h2; simp
   have rA:=l1.rc hrp;have rB:=l2.rc hrp;have rC:=l3.rc hrp
   have hAB : A ≠ B:=fun e => a12 A rfl (by rw [e]; rfl)
   have hAC : A ≠ C:=fun e => a13 A rfl (by rw [e]; rfl)
   have hBC : B ≠ C:=fun e => a23 B rfl (by rw [e]; rfl)
   have gA : w.heap.size ≤ A:=(LI.block l1 rfl).1;have gB : w.heap.size ≤ B:=(LI.block l2 rfl).1;have gC : w.heap.size ≤ C:=(LI.block l3 rfl).1
   have hst0 : RSt (opF xs) n w.heap.size A B C q1 q2 q3 w 0 (.slice none 0 0) wr:=⟨fun i hi => absurd hi ae,rfl,rA.congr (fun _ _ => rfl),rB.congr (fun _ _ => rfl),rC.congr (fun _ _ => rfl),LI.nil _ _,uA,uA,uA,bel,le⟩
   have HST:=hid hst0;clear hst0 rA rB rC l1 l2 l3 a12 a13 a23 e1 c1 c2 c3 bel le hrp;generalize wr = wz at *;go_wp2_with fail
   go_loopw [11,12,13] (fun vo d p wr => ∃ (k : Nat),k ≤ n ∧ p = .int .i64 k ∧ ((d = .bool false ∧ RSt (opF xs) n w.heap.size A B C q1 q2 q3 w k vo wr) ∨ (d = .bool true ∧ (∃ a c m,vo = .slice a c m) ∧ res (opF xs) n 0 = (if k = n then ((0,0) : Int × Int) else (19,(k : Int))) ∧ RC wr A n q1 (enF (opF xs) k) ∧ RC wr B n q2 (elF (opF xs) k) ∧ RC wr C n q3 (owF (opF xs) k) ∧ Below w.heap.size w wr))) (fun _ _ p _ => n - (intOf p).toNat)
   case atStart => exact ⟨0,ae,rfl,.inl ⟨rfl,HST.out⟩⟩
   case round =>
    obtain ⟨k,hk,rfl,hd⟩:=hrel;clear HST
    rcases hd with ⟨rfl,hst⟩ | ⟨rfl,⟨va,vn,vc,rfl⟩,hres,fA,fB,fC,bel⟩
    ·obtain ⟨oa,oc,rfl⟩:=hst.op.slice;rw [kS] at hst ⊢
     by_cases hlt : k < n
     ·have g0 : wr.cell? ⟨b,off + k * 3,none⟩ = some (.int .u8 (opF xs k)):=(hst.bel.cell (by exact hbl)).trans (HC.out.op hlt)
      have hcr:=HC.out.range hlt;obtain ⟨c,hcO⟩ : ∃ c,opF xs k = c:=⟨_,rfl⟩;rw [hcO] at g0 hcr;have c2:=hst.ow.cell k hlt;have f2:=hst.ow.free k
      have P:=hst.ow.put (g:=owF (opF xs) (k + 1)) k (top (stk (opF xs) k)) (fun i hi => yu (opF xs) k i)
      have enM:=hst.en.kept P.2 hAC;have elM:=hst.el.kept P.2 hBC
      have opM:=hst.op.kept P.2 (fun b hb hx => hst.nC (hb.trans (by rw [hx])))
      have belM:=bA hst.bel P.2 hst.le (fun k hx => ae)
      have leM : w.heap.size ≤ (wr.setCell ⟨C,k,none⟩ (.int .i64 (top (stk (opF xs) k)))).heap.size:=by rw [World.size_setCell]; exact hst.le
      have HP:=hid P;have ENM:=hid enM;have ELM:=hid elM;have OPM:=hid opM;have BEM:=hid belM;have LEM:=hid leM;have HT:=hid hst;have hlen:=jn hst.ok
      rcases cQ (opF xs) k with hs | ⟨t,ht,hOt,hs⟩
      ·have htp : top (stk (opF xs) k) = -1:=jA;have hl0 : (stk (opF xs) k).length = 0:=jA;rw [hl0] at OPM HT ⊢;rw [htp] at HP ENM ELM OPM BEM LEM;clear hst P enM elM opM belM leM hlen
       by_cases hO : isO c = true
       ·have ho5:=gV hO
        have hO' : isO (opF xs k) = true:=by rw [hcO]; exact hO
        have her : er (opF xs) k = 0:=DJ
        have hb6 : ¬ (opF xs k = 6 ∧ stk (opF xs) k = []):=fun x => ho5.2 (hcO.symm.trans x.1)
        have HER:=hid her;have HB6:=hid hb6;have HO':=hid hO';rw [cD] at hO;obtain ⟨W1,hW1⟩ : ∃ W1,wr.setCell ⟨C,k,none⟩ (.int .i64 (-1)) = W1:=⟨_,rfl⟩;rw [hW1] at HP ENM ELM OPM BEM LEM;have hbt:=(Below.refl W1.heap.size W1).alloc (Nat.le_refl _) (aM (k : Int));have HOP2:=hid (OPM.out.later hbt (Nat.le_refl _))
        have hle2 : w.heap.size ≤ (W1.alloc (aM (k : Int))).heap.size:=by have:=LEM.out; simp; omega
        have hol : (opn (opF xs) k).length ≤ 1073741824:=by rw [kS]; omega
        skip
        exact I1
       have hOf : isO (opF xs k) = false:=zA;have hOc : isO c = false:=vL;obtain ⟨no2,no3,no4⟩:=mR hOc
       by_cases h5 : c = 5
       ·have hO5 : opF xs k = 5:=hcO.trans h5;have her : er (opF xs) k = 37:=D5;have hres : res (opF xs) n 0 = (37,(k : Int)):=pY;have HR:=hid hres;obtain ⟨W1,hW1⟩ : ∃ W1,wr.setCell ⟨C,k,none⟩ (.int .i64 (-1)) = W1:=⟨_,rfl⟩;rw [hW1] at HP ENM ELM OPM BEM LEM;subst h5;clear hres her
        go_wp2_with (first
         | (go_at_call 97; refine (lO _ _ ae ae).mono ?_; rintro e w5 ⟨rfl,hw5⟩; have hw6:=hw5.symm; subst hw6))
        (try simp only [Exit.inBlock,Exit.then])
        exact Lu
       by_cases h6 : c = 6
       ·have hO6 : opF xs k = 6:=hcO.trans h6
        have her : er (opF xs) k = 0:=by unfold er; rw [if_neg qL,if_neg ae]
        have hres:=(HT.out.rest).symm.trans (qb hlt her ⟨hO6,hs⟩);have HR:=hid hres;have HS:=hid hs;obtain ⟨W1,hW1⟩ : ∃ W1,wr.setCell ⟨C,k,none⟩ (.int .i64 (-1)) = W1:=⟨_,rfl⟩;rw [hW1] at HP ENM ELM OPM BEM LEM;subst h6;clear hres her hs hl0 htp
        go_wp2_with (first
         | (go_at_call 97; refine (lO _ _ ae ae).mono ?_; rintro e w5 ⟨rfl,hw5⟩; have hw6:=hw5.symm; subst hw6))
        refine ⟨⟨k + 1,ae,aX,.inr ⟨rfl,⟨_,_,_,rfl⟩,?_,ENM.out.congr (fun i _ => qV HS.out i),ELM.out.congr (fun i _ => qg HS.out i),HP.out.1,BEM.out⟩⟩,aZ⟩
        rw [HR.out]
        simp
       have HRS:=hid (sQ HT.out hlt hOf uJ t6 ENM.out ELM.out HP.out.1 BEM.out LEM.out OPM.out);have b5 : (c == 5) = false:=qO;have b6 : (c == 6) = false:=lD;obtain ⟨W1,hW1⟩ : ∃ W1,wr.setCell ⟨C,k,none⟩ (.int .i64 (-1)) = W1:=⟨_,rfl⟩;rw [hW1] at HP ENM ELM OPM BEM LEM;rw [hW1] at HRS;clear hO hOf hs htp;exact Hk
      ·have htp : top (stk (opF xs) k) = (t : Int):=jA;have hl1 : (stk (opF xs) k).length = (stk (opF xs) t).length + 1:=jA
       have hop : opn (opF xs) k = opn (opF xs) t ++ [(t : Int)]:=by rw [qj hs]; rfl
       have htn : t < n:=ae;obtain ⟨-,hoc⟩:=hst.op.cell;rw [hl1] at hoc;obtain ⟨Ob,rfl,hocell⟩:=hoc.resolve_left ae
       have o1 : wr.cell? ⟨Ob,(stk (opF xs) t).length,none⟩ = some (.int .i64 t):=by
        rw [hocell _ ae,hop]
        simp [List.getD_eq_getElem?_getD,kS]
       rw [htp] at HP ENM ELM OPM BEM LEM;rw [hl1] at OPM HT ⊢;rw [hl1] at hlen;clear hst P enM elM opM belM leM hoc hocell
       by_cases hO : isO c = true
       ·by_cases hd : (stk (opF xs) k).length = 32
        ·have her : er (opF xs) k = 35:=by unfold er; rw [hcO,if_pos hO,if_pos hd]
         have hres : res (opF xs) n 0 = (35,(k : Int)):=pY;have HR:=hid hres;have hd2 : (stk (opF xs) t).length = 31:=ae;rw [hd2] at o1 OPM ⊢;rw [cD] at hO;obtain ⟨W1,hW1⟩ : ∃ W1,wr.setCell ⟨C,k,none⟩ (.int .i64 (t : Int)) = W1:=⟨_,rfl⟩;rw [hW1] at HP ENM ELM OPM BEM LEM;clear hres her hd hl1 hs htp hop hd2
         rcases hO with rfl | rfl | rfl
         all_goals
          go_wp2_with (first
           | (go_at_call 97; refine (lO _ _ ae ae).mono ?_; rintro e w5 ⟨rfl,hw5⟩; have hw6:=hw5.symm; subst hw6))
          (try simp only [Exit.inBlock,Exit.then])
          exact Lu
        ·have ho5:=gV hO
         have hO' : isO (opF xs k) = true:=by rw [hcO]; exact hO
         have her : er (opF xs) k = 0:=DJ
         have hb6 : ¬ (opF xs k = 6 ∧ stk (opF xs) k = []):=fun x => ho5.2 (hcO.symm.trans x.1)
         have HER:=hid her;have HB6:=hid hb6;have HO':=hid hO';rw [cD] at hO;obtain ⟨W1,hW1⟩ : ∃ W1,wr.setCell ⟨C,k,none⟩ (.int .i64 (t : Int)) = W1:=⟨_,rfl⟩;rw [hW1] at HP ENM ELM OPM BEM LEM;have hbt:=(Below.refl W1.heap.size W1).alloc (Nat.le_refl _) (aM (k : Int));have HOP2:=hid (OPM.out.later hbt (Nat.le_refl _))
         have hle2 : w.heap.size ≤ (W1.alloc (aM (k : Int))).heap.size:=by have:=LEM.out; simp; omega
         have hol : (opn (opF xs) k).length ≤ 1073741824:=by rw [kS]; omega
         have hnl : (stk (opF xs) t).length < 31:=ae;clear hd hl1 hs htp hop;generalize (stk (opF xs) t).length = dt at *;exact I1
       have hOf : isO (opF xs k) = false:=zA;have hOc : isO c = false:=vL;obtain ⟨no2,no3,no4⟩:=mR hOc
       by_cases h5 : c = 5
       ·have hO5 : opF xs k = 5:=hcO.trans h5
        have hct : (wr.setCell ⟨C,k,none⟩ (.int .i64 (t : Int))).cell? ⟨b,off + t * 3,none⟩ = some (.int .u8 (opF xs t)):=(BEM.out.cell (by exact hbl)).trans (HC.out.op htn)
        have het:=ELM.out.cell t htn;have hft:=ELM.out.free t;have hrt:=HC.out.range htn
        have her37 : ¬ (opF xs t = 4 ∧ elF (opF xs) k t = -1) → res (opF xs) n 0 = (37,(k : Int)):=fun hx => by
         exact Ij
        have tb : ¬ (t : Int) < 0:=ae;have hel0:=sH (O:=opF xs) k t;obtain ⟨W1,hW1⟩ : ∃ W1,wr.setCell ⟨C,k,none⟩ (.int .i64 (t : Int)) = W1:=⟨_,rfl⟩;rw [hW1] at HP ENM ELM OPM BEM LEM;rw [hW1] at hct het hft;have hdl : (stk (opF xs) t).length ≤ 32:=ae
        by_cases h4 : opF xs t = 4
        ·by_cases hel : elF (opF xs) k t = -1
         ·have HRS:=hid (IL HT.out hlt hO5 hs h4 hel hAB hBC gB ENM.out ELM.out HP.out.1 BEM.out LEM.out OPM.out);rw [h4] at hct;rw [hel] at het;subst h5;clear her37 hel h4 hs htp hl1 hop hO hOf hel0;exact A8
         ·have HR:=hid (her37 (fun x => hel x.2))
          have hge : 0 ≤ elF (opF xs) k t:=ae;rw [h4] at hct;subst h5;clear her37 hel h4 hs htp hl1 hop hO hOf;exact IV
        ·have HR:=hid (her37 (fun x => h4 x.1))
         have h4b : (opF xs t == 4) = false:=qo;have h4c : (opF xs t != 4) = true:=qo;subst h5;clear her37 h4 hs htp hl1 hop hO hOf;generalize opF xs t = ct at *;exact IV
       by_cases h6 : c = 6
       ·have hO6 : opF xs k = 6:=hcO.trans h6;have hiv:=sJ HT.out.ok;have het:=ELM.out.cell t htn;have hat:=ENM.out.cell t htn;have haf:=ENM.out.free t;have hdl : (stk (opF xs) t).length ≤ 31:=ae;obtain ⟨W1,hW1⟩ : ∃ W1,wr.setCell ⟨C,k,none⟩ (.int .i64 (t : Int)) = W1:=⟨_,rfl⟩;rw [hW1] at HP ENM ELM OPM BEM LEM;rw [hW1] at het hat haf;have tb : ¬ (t : Int) < 0:=ae;have tb2 : (0 : Int) ≤ (t : Int):=ae
        have hcapo : (stk (opF xs) t).length + 1 ≤ oc:=by
         have h1:=HT.out.op.2
         rcases h1 with ⟨h1,_⟩ | ⟨g,cp,cur,h1,_,_,h4,_⟩
         ·cases h1
         ·injection h1 with _ _ h3; rw [kS] at h4; omega
        rcases hiv.els t with hel | ⟨j,hel,q2,q3,q4,q5,_⟩
        ·have P1:=ENM.out.put (g:=enF (opF xs) (k + 1)) t k (fun i hi => by
          rw [pK hO6 hs,hel];have : ¬ (i : Int) = -1:=ae
          simp [this])
         have HRS:=hid (Di HT.out hlt hO6 hs hAB hAC gA ELM.out HP.out.1 BEM.out LEM.out OPM.out P1.1 P1.2)
         have P2:=(ELM.out.kept P1.2 (fun x => hAB x.symm)).cell t htn
         rw [hel] at P2 het;subst h6;clear hiv hel hs htp hl1 hop hO hOf P1;exact A8
        ·have P1:=ENM.out.put (g:=fun i => if i = t then (k : Int) else enF (opF xs) k i) t k (fun i hi => rfl)
         have P2:=P1.1.put (g:=enF (opF xs) (k + 1)) j k (fun i hi => by
          rw [pK hO6 hs,hel]
          by_cases e : i = j
          ·subst e; simp
          ·have : ¬ (i : Int) = (j : Int):=ae
           simp [e,this])
         have HRS:=hid (Di HT.out hlt hO6 hs hAB hAC gA ELM.out HP.out.1 BEM.out LEM.out OPM.out P2.1 (P1.2.trans P2.2));have hj : j < n:=ae
         have P3:=(ELM.out.kept P1.2 (fun x => hAB x.symm)).cell t htn
         have P4:=P1.1.cell j hj;have P5:=P1.1.free j;rw [hel] at P3 het;subst h6;clear hiv hel hs htp hl1 hop hO hOf P1 P2;exact A8
       have HRS:=hid (sQ HT.out hlt hOf uJ t6 ENM.out ELM.out HP.out.1 BEM.out LEM.out OPM.out);have b5 : (c == 5) = false:=qO;have b6 : (c == 6) = false:=lD;obtain ⟨W1,hW1⟩ : ∃ W1,wr.setCell ⟨C,k,none⟩ (.int .i64 (t : Int)) = W1:=⟨_,rfl⟩;rw [hW1] at HP ENM ELM OPM BEM LEM;rw [hW1] at HRS;clear hO hOf hs htp hl1 hop;generalize (stk (opF xs) t).length = dt at *;exact Hk
     ·obtain rfl : n = k:=ae
      have hres : res (opF xs) n 0 = (38,(n : Int)):=by rw [← hst.rest,Nat.sub_self]; rfl
      have HR:=hid hres;have HB:=hid hst.bel;clear hres hst;exact JZ
    ·have HB:=hid bel
     by_cases hlt : k < n
     ·have HR:=hid (hres.trans (if_neg ae));clear hres fA fB fC bel;exact JZ
     ·obtain rfl : n = k:=ae;have HR:=hid (hres.trans (if_pos rfl));have FA:=hid fA;have FB:=hid fB;have FC:=hid fC;clear hres fA fB fC bel;go_wp2_with fail
      (try simp only [Exit.inBlock,Exit.then])
      refine bodyPost_ret (dE rfl _ _ _) rfl ?_;exact ⟨_,_,_,_,_,_,_,_,_,pZ,.inr ⟨HR.out,FA.out.li gA,FB.out.li gB,FC.out.li gC⟩,HB.out⟩
theorem zj (a : Option Addr) (cap : Nat) (w : World) :
  Calls Tryz.prog 56 #[.slice a 0 cap] w fun e w' => e = .returned (.tuple #[Fz,Fz,Fz,.int .i64 38,.int .i64 0]) ∧ w' = w:=by
 go_enter Tryz.func56,Tryz.ntmps56
 go_wp2_with fail;refine wp_loop_rounds 1 ?_;rw [rounds_succ];go_wp2_with fail;refine wp_loop_rounds 1 ?_;rw [rounds_succ];go_wp2_with fail
 (try simp only [Exit.inBlock,Exit.then])
 refine bodyPost_ret (dE rfl _ _ _) rfl ?_;exact ⟨rfl,rfl⟩
theorem G7 (a : Option Addr) (n cap : Nat) (xs : List Inx) (w : World) (hn : n ≤ 1048576) (hcap : n ≤ cap) (hc : zn w a n xs) :
  Calls Tryz.prog 56 #[.slice a n cap] w fun e w' => ∃ a1 a2 a3 n1 n2 n3 c1 c2 c3,e = .returned (.tuple #[.slice a1 n1 c1,.slice a2 n2 c2,.slice a3 n3 c3,.int .i64 (res (opF xs) n 0).1,.int .i64 (res (opF xs) n 0).2]) ∧
   QZ (opF xs) n w.heap.size w' (.slice a1 n1 c1) (.slice a2 n2 c2) (.slice a3 n3 c3) ∧ Below w.heap.size w w':=by
 by_cases h0 : n = 0
 ·subst h0
  refine (zj a cap w).mono fun e w' ⟨he,hw⟩ => ⟨none,none,none,0,0,0,0,0,0,he,.inl ⟨by simp [res],rfl,rfl,rfl⟩,by rw [hw]; exact Below.refl _ _⟩
 ·rcases hc.2 with h | ⟨b,off,rfl,hcd⟩
  ·exact absurd h h0
  ·exact FJ b off n cap xs w hn ae hcap hcd
theorem mS {w : World} {base n k c : Nat} {a : Option Addr} {f : Nat → Int} (h : LI w base (.slice a k c) ((List.range n).map f)) (hn : 0 < n) : k = n ∧ ∃ B,a = some ⟨B,0,none⟩ ∧ base ≤ B ∧ B < w.heap.size ∧ ∀ j,j < n → w.cell? ⟨B,j,none⟩ = some (.int .i64 (f j)):=by
 obtain ⟨e,hc⟩:=h.cell
 have e2 : k = n:=by simpa using e
 subst e2;obtain ⟨B,rfl,hcell⟩:=hc.resolve_left ae;have hb:=LI.block h rfl
 refine ⟨rfl,B,rfl,hb.1,hb.2,fun j hj => ?_⟩
 rw [hcell j hj]
 simp [List.getD_eq_getElem?_getD,hj]
theorem FI (a : Option Addr) (n cap : Nat) (xs : List Inx) (pc : Int) (w : World) (hn : n ≤ 1048576) (hcap : n ≤ cap) (hc : zn w a n xs) :
  Calls Tryz.prog 159 #[.slice a n cap,.int .i64 pc] w fun e w' => ∃ v,e = .returned v ∧ LI w' w.heap.size v (tK (opF xs) n pc) ∧ Below w.heap.size w w':=by
 have H1:=hid (G7 a n cap xs w hn hcap hc);clear hc
 go_enter Tryz.func159,Tryz.ntmps159
 go_wp2_with fail;refine H1.out.mono ?_;rintro e w1 ⟨a1,a2,a3,n1,n2,n3,c1,c2,c3,rfl,hM,hb⟩;have HB:=hid hb;have hbs:=hb.size
 by_cases h0 : (res (opF xs) n 0).1 = 0
 ·by_cases hp : pc < 0
  ·exact Ks
  ·by_cases hp2 : (n : Int) ≤ pc
   ·exact Ks
   ·obtain ⟨j,rfl⟩ : ∃ j : Nat,pc = (j : Int):=⟨pc.toNat,ae⟩;have hj : j < n:=ae
    rcases hM with ⟨hx,_⟩ | ⟨hr,y1,y2,y3⟩
    ·exact absurd h0 hx
    obtain ⟨e3,B3,rfl,b3,l3,k3⟩:=mS y3 ae;subst e3
    have HV:=hid (show tK (opF xs) n3 j = dG (opF xs) j by unfold tK; rw [if_pos ⟨h0,ae,ae⟩,Int.toNat_natCast])
    have hlen:=J8 (ra (ku h0) hj);have K3:=hid k3
    have c0 : w1.cell? ⟨B3,j,none⟩ = some (.int .i64 (top (stk (opF xs) j))):=by rw [k3 j hj]; unfold owF; rw [if_pos hj]
    have hz : ((res (opF xs) n3 0).1 != 0) = false:=oL;have hz' : ((res (opF xs) n3 0).1 == 0) = true:=oL;have hjd : decide ((j : Int) < 0) = false:=ak;have hnd : decide (n3 ≤ j) = false:=aG;have hnd2 : decide ((n3 : Int) ≤ (j : Int)) = false:=aG;have ht0:=GX (opF xs) j;have HLS:=hid (sU (opF xs) j);have HLN:=hid hlen;clear hr y1 y2 y3 k3 h0 hb hlen;generalize (res (opF xs) n3 0).1 = r1 at *;generalize (res (opF xs) n3 0).2 = r2 at *;generalize htp : top (stk (opF xs) j) = tp at *;have HTP:=hid htp;clear htp;go_wp2_with fail
    go_loopw [10,11] (fun v p wr => ∃ (q : Int) (l : List Int),p = .int .i64 q ∧ -1 ≤ q ∧ q < n3 ∧ LI wr w1.heap.size v l ∧ l ++ (q :: rst (opF xs) q) = dG (opF xs) j ∧ Below w1.heap.size w1 wr) (fun _ p _ => (intOf p + 1).toNat)
    case atStart => exact ⟨tp,[],rfl,ae,ae,LI.nil _ _,by rw [HLS.out]; rfl,Below.refl _ _⟩
    case round =>
     obtain ⟨q,l,rfl,hq0,hq1,hli,he,hbr⟩:=hrel;obtain ⟨la,lc,rfl⟩:=hli.slice;have hsz:=hbr.size
     have hll : l.length ≤ 1073741824:=by
      have h1:=HLN.out;rw [← he] at h1
      simp at h1; omega
     clear c0
     by_cases hq : q = -1
     ·subst hq
      have HE:=hid (show l ++ [-1] = dG (opF xs) j by rw [← he]; simp [rst])
      have HLI:=hid (hli.later ((Below.refl wr.heap.size wr).alloc (Nat.le_refl _) (aM (-1))) (Nat.le_refl _));have HBR:=hid (hbr.alloc hsz (aM (-1)));have hsa : w1.heap.size ≤ (wr.alloc (aM (-1))).heap.size:=aG;clear hli hbr he
      go_wp2_with (first
       | (at_builtin; refine Bh _ rfl (.tmp 46) (.tmp 47) rfl w1.heap.size _ l rfl HLI.out hsa ⟨wr.heap.size,0,none⟩ (-1) rfl kG hll ?_; intro B1 aQ w2 hL2 hB2 hb2; have HL2:=hid hL2; have HB2:=hid (HBR.out.trans hb2); clear hL2 hb2))
      go_ret
      exact ⟨_,rfl,by rw [HV.out,← HE.out]; exact HL2.out.mono hbs,HB.out.trans (HB2.out.mono hbs)⟩
     ·obtain ⟨t,rfl⟩ : ∃ t : Nat,q = (t : Int):=⟨q.toNat,ae⟩;have ht : t < n3:=ae
      have c4 : w1.cell? ⟨B3,t,none⟩ = some (.int .i64 (top (stk (opF xs) t))):=by rw [K3.out t ht]; unfold owF; rw [if_pos ht]
      have hr : rst (opF xs) (t : Int) = top (stk (opF xs) t) :: rst (opF xs) (top (stk (opF xs) t)):=by
       have : ¬ (t : Int) = -1:=ae
       have e : rst (opF xs) (t : Int) = dG (opF xs) t:=by simp [rst,this]
       rw [e]; exact sU _ _
      rw [hr] at he;have htl:=GX (opF xs) t;have HE:=hid he;have HLI:=hid (hli.later ((Below.refl wr.heap.size wr).alloc (Nat.le_refl _) (aM (t : Int))) (Nat.le_refl _));have HBR:=hid (hbr.alloc hsz (aM (t : Int)));have hsa : w1.heap.size ≤ (wr.alloc (aM (t : Int))).heap.size:=aG;clear hli hbr he hr;generalize top (stk (opF xs) t) = z at *;have hge : (0 : Int) ≤ (t : Int):=ae
      go_wp2_with (first
       | (at_builtin; refine Bh _ rfl (.tmp 38) (.tmp 40) rfl w1.heap.size _ l rfl HLI.out hsa ⟨wr.heap.size,0,none⟩ t rfl kG hll ?_; intro B1 aQ w2 hL2 hB2 hb2; have HL2:=hid hL2; have HB2:=hid (HBR.out.trans hb2); have c5:=((HB2.out).cell (p:=⟨B3,t,none⟩) (by exact l3)).trans c4; clear hL2 hb2))
      refine ⟨⟨z,l ++ [(t : Int)],rfl,ae,ae,HL2.out,?_,HB2.out⟩,by simp only [intOf]; omega⟩
      rw [List.append_assoc]; exact HE.out
 ·have HV:=hid (show tK (opF xs) n pc = [] by unfold tK; rw [if_neg (fun x => h0 x.1)])
  have hz : ((res (opF xs) n 0).1 != 0) = true:=fV;have hz' : ((res (opF xs) n 0).1 == 0) = false:=fV;clear hM hb h0;generalize (res (opF xs) n 0).1 = r1 at *;generalize (res (opF xs) n 0).2 = r2 at *;go_wp2_with fail;go_ret
  exact ⟨_,rfl,by rw [HV.out]; exact LI.nil _ _,HB.out⟩
end Go.Proofs.YtepnnenohjfkbaaGreatDoor

/-
  Texts Lc Ld Le Lf.
-/
import Derived.Test.YtepnnenohjfkbaaGreatDoorP00
import Derived.Test.YtepnnenohjfkbaaGreatDoorP18
import Derived.Test.YtepnnenohjfkbaaGreatDoorP20
set_option linter.unusedVariables false
set_option maxRecDepth 100000
set_option maxHeartbeats 16000000
namespace Go.Proofs.YtepnnenohjfkbaaGreatDoor
open Go.RowKit
section
variable {g : Rg} {w : World}
theorem mE (h : Rw g w) (hN : g.N ≤ 2048) {t : Nat} (ht : t < g.N) (hsh : ∀ j,(g.sh j).size ≤ 256) {P R : ByteArray} (hP : P.size ≤ 8) {ok : Bool} {x : ByteArray} {b : Bool}
  (HF : Hid (∀ W,Below w.heap.size w W → Calls Tryz.prog 104 #[.pointer (some ⟨g.J,0,none⟩),.int .i64 t] W fun e w' => e = .returned (.tuple #[.agg #[.string P,.string R],.bool ok]) ∧ Below W.heap.size W w'))
  (HN : Hid (ok = false → x = ⟨#[]⟩ ∧ b = false)) (HY : Hid (ok = true → x = cutV (g.sh t) (if opF g.xs t = 4 then P ++ ⟨#[119]⟩ else P) ∧ b = ends (g.sh t) (if opF g.xs t = 4 then P ++ ⟨#[119]⟩ else P))) :
  Calls Tryz.prog 158 #[.pointer (some ⟨g.J,0,none⟩),.int .i64 t] w fun e w' => e = .returned (.tuple #[.string x,.bool b]) ∧ Below w.heap.size w w':=by
 have HC:=hid (fun W (hb : Below w.heap.size w W) => (⟨ag hb h.c,ag hb h.s,ag hb (h.cod.op ht),ag hb (h.shs t ht)⟩ : W.cell? ⟨g.J,9,none⟩ = some (.slice (some ⟨g.cb,g.coff,none⟩) g.N g.cc) ∧ W.cell? ⟨g.J,13,none⟩ = some (.slice (some ⟨g.sb,g.soff,none⟩) g.N g.sc) ∧ W.cell? ⟨g.cb,g.coff + t * 3,none⟩ = some (.int .u8 (opF g.xs t)) ∧ W.cell? ⟨g.sb,g.soff + t,none⟩ = some (.string (g.sh t))))
 have hs8:=hsh t;have e0 : decide ((t : Int) < 0) = false:=ak;have e1 : (t : Int) < (g.N : Int):=ae;clear h hsh;generalize opF g.xs t = op at *;generalize g.sh t = S at *;generalize g.J = J at *;generalize g.cb = cb at *;generalize g.coff = coff at *;generalize g.cc = cc at *;generalize g.sb = sb at *;generalize g.soff = soff at *;generalize g.sc = sc at *;generalize g.N = N at *
 have HK:=hid (fun (y : ByteArray) (W : World) => GN S y W (Nat.le_trans hs8 aH))
 have HB0 : Hid (Below w.heap.size w w):=hid (Below.refl _ _)
 go_enter Tryz.func158,Tryz.ntmps158
 go_wp2_with fail;refine (HF.out _ HB0.out).mono ?_;rintro e w5 ⟨rfl,hb5⟩;have gB:=heap_alloc_new w5 (aB P R);have g0 : (w5.alloc (aB P R)).cell? ⟨w5.heap.size,0,none⟩ = some (.string P):=ai gB;have BN:=aj w5 (aB P R);have hS:=hb5.trans (BN.mono hb5.size);obtain ⟨c9,c13,co,cs⟩:=HC.out _ hS;have HS:=hid hS;clear gB hS BN hb5
 cases ok with
 | false =>
  exact Bz
 | true =>
  have HZ:=hid (HY.out rfl);clear HN HY
  by_cases h4 : op = 4
  ·have g4 : (op == (4 : Int)) = true:=by simp [h4]
   have HO:=hid h4;clear h4;go_wp2_with fail;refine (HK.out _ _).mono ?_;rintro e w6 ⟨rfl,rfl⟩;go_wp2_with fail;go_ret2;refine ⟨?_,HS.out⟩;have e1:=HZ.out.1;have e2:=HZ.out.2;rw [if_pos HO.out] at e1 e2;subst e1 e2;rfl
  ·have g4 : (op == (4 : Int)) = false:=by simp [h4]
   have HO:=hid h4;clear h4;go_wp2_with fail;refine (HK.out _ _).mono ?_;rintro e w6 ⟨rfl,rfl⟩;go_wp2_with fail;go_ret2;refine ⟨?_,HS.out⟩;have e1:=HZ.out.1;have e2:=HZ.out.2;rw [if_neg HO.out] at e1 e2;subst e1 e2;rfl
def rbV (m : MM) (R : ByteArray) (xs : List Inx) (sh : Nat → ByteArray) (o : Int) : ByteArray:=if (bT m R xs sh o).2 = true then (bT m R xs sh o).1 else ⟨#[]⟩
theorem xJ (h : Rw g w) (hN : g.N ≤ 2048) (hT : g.m.tn ≤ 1000000) (hTS : ∀ a,(bE g.m a).1.size ≤ 8) (hsh : ∀ j,(g.sh j).size ≤ 256) {o : Int} (ho : o = -1 ∨ ∃ t : Nat,o = t ∧ t < g.N) :
  Calls Tryz.prog 158 #[.pointer (some ⟨g.J,0,none⟩),.int .i64 o] w fun e w' => e = .returned (.tuple #[.string (rbV g.m g.R g.xs g.sh o),.bool (bT g.m g.R g.xs g.sh o).2]) ∧ Below w.heap.size w w':=by
 rcases ho with rfl | ⟨t,rfl,ht⟩
 ·unfold rbV bT;rw [if_pos rfl];clear h;generalize g.J = J at *
  go_enter Tryz.func158,Tryz.ntmps158
  go_wp2_with fail;go_ret2;exact kX
 ·have hb : bT g.m g.R g.xs g.sh t = (if ends (g.sh t) (fy g.m g.R g.xs t) = true then below (g.sh t) (fy g.m g.R g.xs t) else g.sh t,(bu g.m g.R g.xs t).2 && ends (g.sh t) (fy g.m g.R g.xs t)):=by
   unfold bT;rw [if_neg ae,Int.toNat_natCast]
  unfold rbV;rw [hb]
  rcases dw g.m.tn (g.xs.getD t dx).a with ⟨h1,h2⟩ | ⟨h1,q,hq,hqn⟩
  ·have hs : bu g.m g.R g.xs t = ((⟨#[]⟩,⟨#[]⟩),false):=by
    unfold bu;rw [if_neg ae,Int.toNat_natCast,h1,if_neg aH]
   rw [hs]
   refine mE h hN ht hsh (P:=⟨#[]⟩) (R:=⟨#[]⟩) aH (ok:=false) (hid fun W hw => qc (h.later hw) hN hT ht ae) (hid fun _ => ak) (hid fun e => ju)
  ·have hl:=h.pt.1;obtain ⟨p,hp⟩ : ∃ p,g.m.types[q]? = some p:=⟨_,aN ae⟩
   have e : bE g.m (g.xs.getD t dx).a = p:=by
    exact vq
   have hs : bu g.m g.R g.xs t = (p,true):=by
    unfold bu;rw [if_neg ae,Int.toNat_natCast,h1,if_pos rfl,e]
   have h8:=hTS (g.xs.getD t dx).a;rw [e] at h8
   refine mE h hN ht hsh (P:=p.1) (R:=p.2) h8 (ok:=true) (hid fun W hw => po (h.later hw) hN hT ht hq hp) (hid fun e => ju) (hid fun _ => ?_)
   have ho : fy g.m g.R g.xs t = if opF g.xs t = 4 then p.1 ++ ⟨#[119]⟩ else p.1:=by
    unfold fy;rw [hs]
   rw [hs,← ho];unfold cutV
   by_cases hc : ends (g.sh t) (fy g.m g.R g.xs t) = true
   ·simp [hc]
   ·simp [hc]
end
section
variable {g : Rg} {w : World}
theorem Fj (h : Rw g w) (hN : g.N ≤ 2048) {p : Nat} (hp : p < g.N) (hsh : ∀ j,(g.sh j).size ≤ 256) {y B : ByteArray} (hB : B.size ≤ 256) {ok : Bool} {x : ByteArray} {b : Bool}
  (HF : Hid (∀ W,Below w.heap.size w W → Calls Tryz.prog 158 #[.pointer (some ⟨g.J,0,none⟩),.int .i64 (owF (opF g.xs) g.N p)] W fun e w' => e = .returned (.tuple #[.string B,.bool ok]) ∧ Below W.heap.size W w'))
  (HN : Hid (ok = false → x = ⟨#[]⟩ ∧ b = false)) (HY : Hid (ok = true → x = cutV (g.sh p) y ∧ b = (ends (g.sh p) y && (decide (B.size ≤ (cutV (g.sh p) y).size) && (((cutV (g.sh p) y).extract 0 B.size).toList == B.toList))))) :
  Calls Tryz.prog 103 #[.pointer (some ⟨g.J,0,none⟩),.int .i64 p,.string y] w fun e w' => e = .returned (.tuple #[.string x,.bool b]) ∧ Below w.heap.size w w':=by
 have HC:=hid (fun W (hb : Below w.heap.size w W) => (⟨ag hb h.s,ag hb (h.shs p hp)⟩ : W.cell? ⟨g.J,13,none⟩ = some (.slice (some ⟨g.sb,g.soff,none⟩) g.N g.sc) ∧ W.cell? ⟨g.sb,g.soff + p,none⟩ = some (.string (g.sh p))))
 have o0:=h.ow;have o1:=h.owc p hp;have hs8:=hsh p;have e1 : (p : Int) < (g.N : Int):=ae
 have hcs : (cutV (g.sh p) y).size ≤ 256:=by
  unfold cutV
  split
  ·exact vr
  ·decide
 have HS8:=hid hs8;clear h hsh hs8;generalize owF (opF g.xs) g.N p = ow at *;generalize g.sh p = S at *;generalize g.J = J at *;generalize g.OW = OW at *;generalize g.oc = oc at *;generalize g.sb = sb at *;generalize g.soff = soff at *;generalize g.sc = sc at *;generalize g.N = N at *
 have HK:=hid (fun (W : World) => GN S y W (Nat.le_trans HS8.out aH))
 generalize hcu : cutV S y = cu at *;generalize ends S y = en at *;clear hcu HS8;have HB0 : Hid (Below w.heap.size w w):=hid (Below.refl _ _)
 go_enter Tryz.func103,Tryz.ntmps103
 go_wp2_with fail;refine (HF.out _ HB0.out).mono ?_;rintro e w5 ⟨rfl,hb5⟩;obtain ⟨c13,cs⟩:=HC.out _ hb5;have HS:=hid hb5;clear hb5 o0 o1
 cases ok with
 | false =>
  exact Bz
 | true =>
  have HZ:=hid (HY.out rfl);clear HN HY;go_wp2_with fail;refine (HK.out _).mono ?_;rintro e w6 ⟨rfl,rfl⟩
  cases en with
  | false =>
   go_wp2_with fail
   go_quiet (fail)
   go_wp2_with fail;go_ret2
   exact ⟨by rw [HZ.out.1,HZ.out.2]; rfl,HS.out.trans ((below_drewN _ nq).mono HS.out.size)⟩
  | true =>
   by_cases hle : B.size ≤ cu.size
   ·have d0 : decide ((B.size : Int) ≤ (cu.size : Int)) = true:=by simp; exact hle
    have d1 : (B.size : Int) ≤ (cu.size : Int):=ae;exact Hy
   ·have d0 : decide (B.size ≤ cu.size) = false:=by simpa using hle
    exact Hy
def rxV (m : MM) (R : ByteArray) (xs : List Inx) (sh : Nat → ByteArray) (p : Nat) (y : ByteArray) : ByteArray:=if (bT m R xs sh (top (stk (opF xs) p))).2 = true then cutV (sh p) y else ⟨#[]⟩
theorem K7 (m : MM) (R : ByteArray) (xs : List Inx) (sh : Nat → ByteArray) (p : Nat) (y : ByteArray) (h : (isV m R xs sh p y).2 = true) : rxV m R xs sh p y = (isV m R xs sh p y).1:=by
 unfold isV at h ⊢
 simp only [Bool.and_eq_true] at h
 unfold rxV cutV;rw [if_pos h.1.1,if_pos h.1.2,if_pos h.1.2]
theorem uz {O : Nat → Int} {N p : Nat} (hp : p < N) : owF O N p = top (stk O p):=by
 unfold owF;rw [if_pos hp]
theorem LF (O : Nat → Int) {N p : Nat} (hp : p < N) : top (stk O p) = -1 ∨ ∃ t : Nat,top (stk O p) = t ∧ t < N:=by
 cases hs : stk O p with
 | nil => exact .inl rfl
 | cons t l =>
  have:=(nE O p t (by rw [hs]; exact List.mem_cons_self)).1
  exact .inr ⟨t,rfl,ae⟩
theorem Cu (h : Rw g w) (hN : g.N ≤ 2048) (hT : g.m.tn ≤ 1000000) (hTS : ∀ a,(bE g.m a).1.size ≤ 8) (hsh : ∀ j,(g.sh j).size ≤ 256) {p : Nat} (hp : p < g.N) (y : ByteArray) :
  Calls Tryz.prog 103 #[.pointer (some ⟨g.J,0,none⟩),.int .i64 p,.string y] w fun e w' => e = .returned (.tuple #[.string (rxV g.m g.R g.xs g.sh p y),.bool (isV g.m g.R g.xs g.sh p y).2]) ∧ Below w.heap.size w w':=by
 have ho:=LF (opF g.xs) hp
 refine Fj h hN hp hsh (B:=rbV g.m g.R g.xs g.sh (top (stk (opF g.xs) p))) ?_ (ok:=(bT g.m g.R g.xs g.sh (top (stk (opF g.xs) p))).2) (hid fun W hb => by rw [uz hp]; exact xJ (h.later hb) hN hT hTS hsh ho) (hid fun e => ?_) (hid fun e => ?_)
 ·unfold rbV
  split
  ·unfold bT
   split
   ·decide
   ·dsimp only
    split
    ·unfold below;rw [ByteArray.size_extract]
     have:=hsh (top (stk (opF g.xs) p)).toNat
     omega
    ·exact hsh _
  ·decide
 ·unfold rxV isV;rw [e,if_neg aH];exact ⟨rfl,rfl⟩
 ·unfold rxV isV rbV E0;rw [e,if_pos rfl,if_pos rfl];refine ⟨rfl,?_⟩;unfold cutV
  by_cases hc : ends (g.sh p) y = true
  ·rw [if_pos hc,if_pos hc,hc]; rfl
  ·have hf : ends (g.sh p) y = false:=by simpa using hc
   rw [hf]; rfl
theorem sx (h : Rw g w) (hN : g.N ≤ 2048) {p : Nat} (hp : p < g.N) {off on x : ByteArray} (hx : x.size ≤ 256) (hon : on.size ≤ 1000) {ok b : Bool}
  (HF : Hid (∀ W,Below w.heap.size w W → Calls Tryz.prog 103 #[.pointer (some ⟨g.J,0,none⟩),.int .i64 p,.string off] W fun e w' => e = .returned (.tuple #[.string x,.bool ok]) ∧ Below W.heap.size W w'))
  (HI : Hid (ok = true → ∀ W,Below w.heap.size w W → Calls Tryz.prog 157 #[.pointer (some ⟨g.J,0,none⟩),.int .i64 ((p : Int) + 1),.string (x ++ on)] W fun e w' => e = .returned (.bool b) ∧ w' = W)) :
  Calls Tryz.prog 102 #[.pointer (some ⟨g.J,0,none⟩),.int .i64 p,.string off,.string on] w fun e w' => e = .returned (.bool (ok && b)) ∧ Below w.heap.size w w':=by
 have e1 : (p : Int) < (g.N : Int):=ae;clear h;generalize g.J = J at *;generalize g.N = N at *;have HB0 : Hid (Below w.heap.size w w):=hid (Below.refl _ _)
 go_enter Tryz.func102,Tryz.ntmps102
 go_wp2_with fail;refine (HF.out _ HB0.out).mono ?_;rintro e w5 ⟨rfl,hb5⟩;have HS:=hid hb5;clear hb5
 cases ok with
 | false =>
  clear HI;go_wp2_with fail;go_ret;exact ⟨rfl,HS.out⟩
 | true =>
  have HJ:=hid (HI.out rfl);clear HI;go_wp2_with fail;refine (HJ.out _ HS.out).mono ?_;rintro e w6 ⟨rfl,rfl⟩;go_wp2_with fail;go_ret
  exact ⟨by cases b <;> rfl,HS.out⟩
def iG (N : Nat) (sh : Nat → ByteArray) (p : Nat) (t : ByteArray) : Bool:=decide (p < N) && ((sh p).toList == t.toList)
theorem Ax (h : Rw g w) (hN : g.N ≤ 2048) (p : Nat) (t : ByteArray) :
  Calls Tryz.prog 157 #[.pointer (some ⟨g.J,0,none⟩),.int .i64 p,.string t] w fun e w' => e = .returned (.bool (iG g.N g.sh p t)) ∧ w' = w:=by
 unfold iG
 by_cases hp : p < g.N
 ·have : decide (p < g.N) = true:=by simpa using hp
  rw [this,Bool.true_and];exact AH h hN hp t
 ·have : decide (p < g.N) = false:=by simpa using hp
  rw [this,Bool.false_and];exact Gk h hN ae t
def fk (m : MM) (R : ByteArray) (xs : List Inx) (N : Nat) (sh : Nat → ByteArray) (p : Nat) (off on : ByteArray) : Bool:=(isV m R xs sh p off).2 && iG N sh (p + 1) ((isV m R xs sh p off).1 ++ on)
theorem s8 (m : MM) (R : ByteArray) (xs : List Inx) {sh : Nat → ByteArray} (hsh : ∀ j,(sh j).size ≤ 256) (p : Nat) (y : ByteArray) : (rxV m R xs sh p y).size ≤ 256:=by
 unfold rxV cutV
 split
 ·split
  ·unfold below;rw [ByteArray.size_extract]
   have:=hsh p
   omega
  ·decide
 ·decide
theorem Fa (h : Rw g w) (hN : g.N ≤ 2048) (hT : g.m.tn ≤ 1000000) (hTS : ∀ a,(bE g.m a).1.size ≤ 8) (hsh : ∀ j,(g.sh j).size ≤ 256) {p : Nat} (hp : p < g.N) (off on : ByteArray) (hon : on.size ≤ 1000) :
  Calls Tryz.prog 102 #[.pointer (some ⟨g.J,0,none⟩),.int .i64 p,.string off,.string on] w fun e w' => e = .returned (.bool (fk g.m g.R g.xs g.N g.sh p off on)) ∧ Below w.heap.size w w':=by
 unfold fk
 refine sx h hN hp (s8 g.m g.R g.xs hsh p off) hon (hid fun W hb => Cu (h.later hb) hN hT hTS hsh hp off) (hid fun e W hb => ?_)
 rw [K7 _ _ _ _ _ _ e];exact Ax (h.later hb) hN (p + 1) _
end
theorem lf {w W : World} {b i j k : Nat} {u v : Value} (h : W.cell? ⟨b,i,none⟩ = some v) (hb : b < w.heap.size + k) : (W.setCell ⟨w.heap.size + k,j,none⟩ u).cell? ⟨b,i,none⟩ = some v :=
 (World.cell?_setCell_other _ _ _ _ (fun e => rK)).trans h
theorem ml {w W : World} {u v : Value} {k : Nat} (h : Below w.heap.size w W) : Below w.heap.size w ((W.setCell ⟨w.heap.size + k,0,none⟩ u).setCell ⟨w.heap.size + k,1,none⟩ v) :=
 bN (bN h (Nat.le_add_right _ _) h.size) (Nat.le_add_right _ _) (bN h (Nat.le_add_right _ _) h.size).size
abbrev rvS (J k fb fo tb tof : Nat) (tv fv iv nv : Value) (P R : ByteArray) (w : World) (W : World) : Prop :=
 W.cell? ⟨J,0,none⟩ = some tv ∧ W.cell? ⟨J,k,none⟩ = some fv ∧ W.cell? ⟨w.heap.size,1,none⟩ = some iv ∧ W.cell? ⟨fb,fo,none⟩ = some nv ∧ W.cell? ⟨tb,tof,none⟩ = some (.string P) ∧ W.cell? ⟨tb,tof + 1,none⟩ = some (.string R) ∧ Below w.heap.size w W
theorem rvS.put {J k fb fo tb tof : Nat} {tv fv iv nv : Value} {P R : ByteArray} {w W : World} {j : Nat} {u : Value} (h : rvS J k fb fo tb tof tv fv iv nv P R w W) (hJ : J < w.heap.size) (hf : fb < w.heap.size) (ht : tb < w.heap.size) : rvS J k fb fo tb tof tv fv iv nv P R w (W.setCell ⟨w.heap.size + 1,j,none⟩ u) :=
 ⟨lf h.1 ae,lf h.2.1 ae,lf h.2.2.1 ae,lf h.2.2.2.1 ae,lf h.2.2.2.2.1 ae,lf h.2.2.2.2.2.1 ae,bN h.2.2.2.2.2.2 (Nat.le_add_right _ _) h.2.2.2.2.2.2.size⟩
theorem rvS.later {J k fb fo tb tof : Nat} {tv fv iv nv : Value} {P R : ByteArray} {w W W' : World} (h : rvS J k fb fo tb tof tv fv iv nv P R w W) (hb : Below W.heap.size W W') : rvS J k fb fo tb tof tv fv iv nv P R w W' :=
 ⟨ag hb h.1,ag hb h.2.1,ag hb h.2.2.1,ag hb h.2.2.2.1,ag hb h.2.2.2.2.1,ag hb h.2.2.2.2.2.1,h.2.2.2.2.2.2.trans (hb.mono h.2.2.2.2.2.2.size)⟩
section
variable {g : Rg} {w : World}
theorem oO (h : Rw g w) {op a : Int} {lv : Value} (hop : op = 11) (hF : g.m.fn ≤ 1000000) (ha : a < 0 ∨ (g.m.fn : Int) ≤ a) :
  Calls Tryz.prog 105 #[.pointer (some ⟨g.J,0,none⟩),.agg #[.int .u8 op,.int .i64 a,lv]] w fun e w' => e = .returned (.tuple #[.agg #[.string ⟨#[]⟩,.string ⟨#[]⟩],.bool false]) ∧ Below w.heap.size w w':=by
 have B0:=aj w (aT op a lv);have B1:=aj (w.alloc (aT op a lv)) (aB ⟨#[]⟩ ⟨#[]⟩);have BW:=B0.trans (B1.mono B0.size);have hz : (w.alloc (aT op a lv)).heap.size = w.heap.size + 1:=ak;have bx:=ar B1 (heap_alloc_new w (aT op a lv));have bt:=heap_alloc_new (w.alloc (aT op a lv)) (aB ⟨#[]⟩ ⟨#[]⟩);rw [hz] at bt;have x0 : ((w.alloc (aT op a lv)).alloc (aB ⟨#[]⟩ ⟨#[]⟩)).cell? ⟨w.heap.size,0,none⟩ = some (.int .u8 op):=ai bx;have x1 : ((w.alloc (aT op a lv)).alloc (aB ⟨#[]⟩ ⟨#[]⟩)).cell? ⟨w.heap.size,1,none⟩ = some (.int .i64 a):=ai bx;have y0 : ((w.alloc (aT op a lv)).alloc (aB ⟨#[]⟩ ⟨#[]⟩)).cell? ⟨w.heap.size + 1,0,none⟩ = some (.string ⟨#[]⟩):=ai bt;have y1 : ((w.alloc (aT op a lv)).alloc (aB ⟨#[]⟩ ⟨#[]⟩)).cell? ⟨w.heap.size + 1,1,none⟩ = some (.string ⟨#[]⟩):=ai bt;have z0 : ((w.alloc (aT op a lv)).alloc (aB ⟨#[]⟩ ⟨#[]⟩)).frozen? ⟨w.heap.size + 1,0,none⟩ = false:=free_at bt;have z1 : ((w.alloc (aT op a lv)).alloc (aB ⟨#[]⟩ ⟨#[]⟩)).frozen? ⟨w.heap.size + 1,1,none⟩ = false:=free_at bt;have HB:=hid BW;have hJl : g.J < w.heap.size:=block_lt_of_cell h.m0;have d5:=ag BW h.m5
 have g0 : (op == (11 : Int)) = true:=by simp [hop]
 clear h hop B0 B1 BW bx bt;generalize g.m.fa = fa at *;generalize g.m.fn = fn at *;generalize g.m.fc = fc at *;exact KR
theorem lU (h : Rw g w) {op a : Int} {lv : Value} (hop : op ≠ 11) (hF : g.m.hn ≤ 1000000) (ha : a < 0 ∨ (g.m.hn : Int) ≤ a) :
  Calls Tryz.prog 105 #[.pointer (some ⟨g.J,0,none⟩),.agg #[.int .u8 op,.int .i64 a,lv]] w fun e w' => e = .returned (.tuple #[.agg #[.string ⟨#[]⟩,.string ⟨#[]⟩],.bool false]) ∧ Below w.heap.size w w':=by
 have B0:=aj w (aT op a lv);have B1:=aj (w.alloc (aT op a lv)) (aB ⟨#[]⟩ ⟨#[]⟩);have BW:=B0.trans (B1.mono B0.size);have hz : (w.alloc (aT op a lv)).heap.size = w.heap.size + 1:=ak;have bx:=ar B1 (heap_alloc_new w (aT op a lv));have bt:=heap_alloc_new (w.alloc (aT op a lv)) (aB ⟨#[]⟩ ⟨#[]⟩);rw [hz] at bt;have x0 : ((w.alloc (aT op a lv)).alloc (aB ⟨#[]⟩ ⟨#[]⟩)).cell? ⟨w.heap.size,0,none⟩ = some (.int .u8 op):=ai bx;have x1 : ((w.alloc (aT op a lv)).alloc (aB ⟨#[]⟩ ⟨#[]⟩)).cell? ⟨w.heap.size,1,none⟩ = some (.int .i64 a):=ai bx;have y0 : ((w.alloc (aT op a lv)).alloc (aB ⟨#[]⟩ ⟨#[]⟩)).cell? ⟨w.heap.size + 1,0,none⟩ = some (.string ⟨#[]⟩):=ai bt;have y1 : ((w.alloc (aT op a lv)).alloc (aB ⟨#[]⟩ ⟨#[]⟩)).cell? ⟨w.heap.size + 1,1,none⟩ = some (.string ⟨#[]⟩):=ai bt;have z0 : ((w.alloc (aT op a lv)).alloc (aB ⟨#[]⟩ ⟨#[]⟩)).frozen? ⟨w.heap.size + 1,0,none⟩ = false:=free_at bt;have z1 : ((w.alloc (aT op a lv)).alloc (aB ⟨#[]⟩ ⟨#[]⟩)).frozen? ⟨w.heap.size + 1,1,none⟩ = false:=free_at bt;have HB:=hid BW;have hJl : g.J < w.heap.size:=block_lt_of_cell h.m0;have d5:=ag BW h.m1
 have g0 : (op == (11 : Int)) = false:=by simp [hop]
 clear h hop B0 B1 BW bx bt;generalize g.m.ha = fa at *;generalize g.m.hn = fn at *;generalize g.m.hc = fc at *;exact KR
theorem r8 (h : Rw g w) {op : Int} {lv : Value} (hop : op = 11) (hF : g.m.fn ≤ 1000000) (hT : g.m.tn ≤ 1000000) {q t : Nat} {y : _} {p : Sg} (hy : g.m.fns[q]? = some y) (hyt : y.1 = t) (hp : g.m.types[t]? = some p) :
  Calls Tryz.prog 105 #[.pointer (some ⟨g.J,0,none⟩),.agg #[.int .u8 op,.int .i64 (q : Int),lv]] w fun e w' => e = .returned (.tuple #[.agg #[.string p.1,.string p.2],.bool true]) ∧ Below w.heap.size w w':=by
 have B0:=aj w (aT op (q : Int) lv);have B1:=aj (w.alloc (aT op (q : Int) lv)) (aB ⟨#[]⟩ ⟨#[]⟩);have BW:=B0.trans (B1.mono B0.size);have hz : (w.alloc (aT op (q : Int) lv)).heap.size = w.heap.size + 1:=ak;have bx:=ar B1 (heap_alloc_new w (aT op (q : Int) lv));have bt:=heap_alloc_new (w.alloc (aT op (q : Int) lv)) (aB ⟨#[]⟩ ⟨#[]⟩);rw [hz] at bt;have x0 : ((w.alloc (aT op (q : Int) lv)).alloc (aB ⟨#[]⟩ ⟨#[]⟩)).cell? ⟨w.heap.size,0,none⟩ = some (.int .u8 op):=ai bx;have x1 : ((w.alloc (aT op (q : Int) lv)).alloc (aB ⟨#[]⟩ ⟨#[]⟩)).cell? ⟨w.heap.size,1,none⟩ = some (.int .i64 (q : Int)):=ai bx;have y0 : ((w.alloc (aT op (q : Int) lv)).alloc (aB ⟨#[]⟩ ⟨#[]⟩)).cell? ⟨w.heap.size + 1,0,none⟩ = some (.string ⟨#[]⟩):=ai bt;have y1 : ((w.alloc (aT op (q : Int) lv)).alloc (aB ⟨#[]⟩ ⟨#[]⟩)).cell? ⟨w.heap.size + 1,1,none⟩ = some (.string ⟨#[]⟩):=ai bt;have z0 : ((w.alloc (aT op (q : Int) lv)).alloc (aB ⟨#[]⟩ ⟨#[]⟩)).frozen? ⟨w.heap.size + 1,0,none⟩ = false:=free_at bt;have z1 : ((w.alloc (aT op (q : Int) lv)).alloc (aB ⟨#[]⟩ ⟨#[]⟩)).frozen? ⟨w.heap.size + 1,1,none⟩ = false:=free_at bt;have HB:=hid BW;have hJl : g.J < w.heap.size:=block_lt_of_cell h.m0;have hfl0:=h.pf.1;have htl:=h.pt.1;have hqn:=ax hy;have htn:=ax hp;obtain ⟨fb,fo,hfa,hfc⟩:=h.pf.2.resolve_left ae;obtain ⟨tb,tof,hta,htc⟩:=h.pt.2.resolve_left ae;have hfl : fb < w.heap.size:=block_lt_of_cell (hfc _ _ hy).1;have hbl : tb < w.heap.size:=block_lt_of_cell (htc _ _ hp).1;have d0:=ag BW h.m0;have d5:=ag BW h.m5;have c0:=ag BW (hfc _ _ hy).1;have c1:=ag BW (htc _ _ hp).1;have c2:=ag BW (htc _ _ hp).2;rw [hta] at d0;rw [hfa] at d5;rw [hyt] at c0
 have g0 : (op == (11 : Int)) = true:=by simp [hop]
 have g2 : decide ((q : Int) < 0) = false:=ak;have g4 : (q : Int) < (g.m.fn : Int):=ae;have g3 : decide ((g.m.fn : Int) ≤ (q : Int)) = false:=aG;have g5 : (t : Int) < (g.m.tn : Int):=ae;clear h hop B0 B1 BW bx bt hfc htc hfa hta hy hyt hp hfl0 htl hqn htn;generalize g.m.fn = fn at *;generalize g.m.fc = fc at *;generalize g.m.tn = tn at *;generalize g.m.tc = tc at *;generalize g.J = J at *;obtain ⟨P,R⟩:=p;dsimp only at c1 c2 ⊢
 go_enter Tryz.func105,Tryz.ntmps105
 go_wp2_with fail;generalize ((w.alloc (aT op (q : Int) lv)).alloc (aB ⟨#[]⟩ ⟨#[]⟩)) = W0 at *
 go_quiet (fail)
 go_wp2_with fail;have HQ:=hid ((below_drewN W0 nq).mono HB.out.size);have k0:=ag (below_drewN W0 nq) d0;have k5:=ag (below_drewN W0 nq) d5;have k1:=ag (below_drewN W0 nq) x1;have k2:=ag (below_drewN W0 nq) c0;have k3:=ag (below_drewN W0 nq) c1;have k4:=ag (below_drewN W0 nq) c2;have y0':=ag (below_drewN W0 nq) y0;have y1':=ag (below_drewN W0 nq) y1;have z0':=dZ (below_drewN W0 nq) y0 z0;have z1':=dZ (below_drewN W0 nq) y1 z1;clear d0 d5 x0 x1 c0 c1 c2 y0 y1 z0 z1;generalize W0.drewN nq = W1 at *
 go_region_held3 (rvS J 5 fb (fo + q * 3) tb (tof + t * 2) (.slice (some ⟨tb,tof,none⟩) tn tc) (.slice (some ⟨fb,fo,none⟩) fn fc) (.int .i64 q) (.int .i64 t) P R w)
  (first | assumption | exact rvS.put (rvS.put cU hJl hfl hbl) hJl hfl hbl | exact (rvS.put (rvS.put cU hJl hfl hbl) hJl hfl hbl).later (below_drewN _ 1) | exact ⟨k0,k5,k1,k2,k3,k4,(HB.out.trans HQ.out).drew⟩)
  (fail)
 exact J4
theorem pA (h : Rw g w) {op : Int} {lv : Value} (hop : op ≠ 11) (hF : g.m.hn ≤ 1000000) (hT : g.m.tn ≤ 1000000) {q t : Nat} {y : _} {p : Sg} (hy : g.m.hosts[q]? = some y) (hyt : y = t) (hp : g.m.types[t]? = some p) :
  Calls Tryz.prog 105 #[.pointer (some ⟨g.J,0,none⟩),.agg #[.int .u8 op,.int .i64 (q : Int),lv]] w fun e w' => e = .returned (.tuple #[.agg #[.string p.1,.string p.2],.bool true]) ∧ Below w.heap.size w w':=by
 have B0:=aj w (aT op (q : Int) lv);have B1:=aj (w.alloc (aT op (q : Int) lv)) (aB ⟨#[]⟩ ⟨#[]⟩);have BW:=B0.trans (B1.mono B0.size);have hz : (w.alloc (aT op (q : Int) lv)).heap.size = w.heap.size + 1:=ak;have bx:=ar B1 (heap_alloc_new w (aT op (q : Int) lv));have bt:=heap_alloc_new (w.alloc (aT op (q : Int) lv)) (aB ⟨#[]⟩ ⟨#[]⟩);rw [hz] at bt;have x0 : ((w.alloc (aT op (q : Int) lv)).alloc (aB ⟨#[]⟩ ⟨#[]⟩)).cell? ⟨w.heap.size,0,none⟩ = some (.int .u8 op):=ai bx;have x1 : ((w.alloc (aT op (q : Int) lv)).alloc (aB ⟨#[]⟩ ⟨#[]⟩)).cell? ⟨w.heap.size,1,none⟩ = some (.int .i64 (q : Int)):=ai bx;have y0 : ((w.alloc (aT op (q : Int) lv)).alloc (aB ⟨#[]⟩ ⟨#[]⟩)).cell? ⟨w.heap.size + 1,0,none⟩ = some (.string ⟨#[]⟩):=ai bt;have y1 : ((w.alloc (aT op (q : Int) lv)).alloc (aB ⟨#[]⟩ ⟨#[]⟩)).cell? ⟨w.heap.size + 1,1,none⟩ = some (.string ⟨#[]⟩):=ai bt;have z0 : ((w.alloc (aT op (q : Int) lv)).alloc (aB ⟨#[]⟩ ⟨#[]⟩)).frozen? ⟨w.heap.size + 1,0,none⟩ = false:=free_at bt;have z1 : ((w.alloc (aT op (q : Int) lv)).alloc (aB ⟨#[]⟩ ⟨#[]⟩)).frozen? ⟨w.heap.size + 1,1,none⟩ = false:=free_at bt;have HB:=hid BW;have hJl : g.J < w.heap.size:=block_lt_of_cell h.m0;have hfl0:=h.ph.1;have htl:=h.pt.1;have hqn:=ax hy;have htn:=ax hp;obtain ⟨fb,fo,hfa,hfc⟩:=h.ph.2.resolve_left ae;obtain ⟨tb,tof,hta,htc⟩:=h.pt.2.resolve_left ae;have hfl : fb < w.heap.size:=block_lt_of_cell (hfc _ _ hy);have hbl : tb < w.heap.size:=block_lt_of_cell (htc _ _ hp).1;have d0:=ag BW h.m0;have d5:=ag BW h.m1;have c0:=ag BW (hfc _ _ hy);have c1:=ag BW (htc _ _ hp).1;have c2:=ag BW (htc _ _ hp).2;rw [hta] at d0;rw [hfa] at d5;rw [hyt] at c0
 have g0 : (op == (11 : Int)) = false:=by simp [hop]
 have g2 : decide ((q : Int) < 0) = false:=ak;have g4 : (q : Int) < (g.m.hn : Int):=ae;have g3 : decide ((g.m.hn : Int) ≤ (q : Int)) = false:=aG;have g5 : (t : Int) < (g.m.tn : Int):=ae;clear h hop B0 B1 BW bx bt hfc htc hfa hta hy hyt hp hfl0 htl hqn htn;generalize g.m.hn = fn at *;generalize g.m.hc = fc at *;generalize g.m.tn = tn at *;generalize g.m.tc = tc at *;generalize g.J = J at *;obtain ⟨P,R⟩:=p;dsimp only at c1 c2 ⊢
 go_enter Tryz.func105,Tryz.ntmps105
 go_wp2_with fail;generalize ((w.alloc (aT op (q : Int) lv)).alloc (aB ⟨#[]⟩ ⟨#[]⟩)) = W0 at *
 go_quiet (fail)
 go_wp2_with fail;have HQ:=hid ((below_drewN W0 nq).mono HB.out.size);have k0:=ag (below_drewN W0 nq) d0;have k5:=ag (below_drewN W0 nq) d5;have k1:=ag (below_drewN W0 nq) x1;have k2:=ag (below_drewN W0 nq) c0;have k3:=ag (below_drewN W0 nq) c1;have k4:=ag (below_drewN W0 nq) c2;have y0':=ag (below_drewN W0 nq) y0;have y1':=ag (below_drewN W0 nq) y1;have z0':=dZ (below_drewN W0 nq) y0 z0;have z1':=dZ (below_drewN W0 nq) y1 z1;clear d0 d5 x0 x1 c0 c1 c2 y0 y1 z0 z1;generalize W0.drewN nq = W1 at *
 go_region_held3 (rvS J 1 fb (fo + q) tb (tof + t * 2) (.slice (some ⟨tb,tof,none⟩) tn tc) (.slice (some ⟨fb,fo,none⟩) fn fc) (.int .i64 q) (.int .i64 t) P R w)
  (first | assumption | exact rvS.put (rvS.put cU hJl hfl hbl) hJl hfl hbl | exact (rvS.put (rvS.put cU hJl hfl hbl) hJl hfl hbl).later (below_drewN _ 1) | exact ⟨k0,k5,k1,k2,k3,k4,(HB.out.trans HQ.out).drew⟩)
  (fail)
 exact J4
end
section
variable {g : Rg} {w : World}
theorem vB (h : Rw g w) (hN : g.N ≤ 2048) (hT : g.m.tn ≤ 1000000) {o : Int} (ho : o = -1 ∨ ∃ t : Nat,o = t ∧ t < g.N) :
  Calls Tryz.prog 104 #[.pointer (some ⟨g.J,0,none⟩),.int .i64 o] w fun e w' => e = .returned (.tuple #[.agg #[.string (bu g.m g.R g.xs o).1.1,.string (bu g.m g.R g.xs o).1.2],.bool (bu g.m g.R g.xs o).2]) ∧ Below w.heap.size w w':=by
 rcases ho with rfl | ⟨t,rfl,ht⟩
 ·exact ni h
 ·unfold bu;rw [if_neg ae,Int.toNat_natCast]
  rcases dw g.m.tn (g.xs.getD t dx).a with ⟨h1,h2⟩ | ⟨h1,q,hq,hqn⟩
  ·rw [h1,if_neg aH];exact qc h hN hT ht ae
  ·rw [h1,if_pos rfl];have hl:=h.pt.1;obtain ⟨p,hp⟩ : ∃ p,g.m.types[q]? = some p:=⟨_,aN ae⟩
   have e : bE g.m (g.xs.getD t dx).a = p:=by
    exact vq
   rw [e];exact po h hN hT ht hq hp
theorem qQ (h : Rw g w) (hN : g.N ≤ 2048) {p : Nat} (hp : p < g.N) (hsh : ∀ j,(g.sh j).size ≤ 256) {P R B : ByteArray} (hB : B.size ≤ 256) (hR : R.size ≤ 8) {ok1 ok2 b : Bool} {en : Nat} (hen : opF g.xs p = 5 → enF (opF g.xs) g.N p = en)
  (HF : Hid (∀ W,Below w.heap.size w W → Calls Tryz.prog 104 #[.pointer (some ⟨g.J,0,none⟩),.int .i64 (owF (opF g.xs) g.N p)] W fun e w' => e = .returned (.tuple #[.agg #[.string P,.string R],.bool ok1]) ∧ Below W.heap.size W w'))
  (HG : Hid (∀ W,Below w.heap.size w W → Calls Tryz.prog 158 #[.pointer (some ⟨g.J,0,none⟩),.int .i64 (owF (opF g.xs) g.N p)] W fun e w' => e = .returned (.tuple #[.string B,.bool ok2]) ∧ Below W.heap.size W w'))
  (HI : Hid (∀ (q : Nat) (t : ByteArray) W,Below w.heap.size w W → Calls Tryz.prog 157 #[.pointer (some ⟨g.J,0,none⟩),.int .i64 q,.string t] W fun e w' => e = .returned (.bool (iG g.N g.sh q t)) ∧ w' = W))
  (HV : Hid (b = (ok1 && ok2 && ((g.sh p).toList == (B ++ R).toList) && (if opF g.xs p = 5 then iG g.N g.sh en (B ++ R) else (decide (owF (opF g.xs) g.N p < 0) || iG g.N g.sh (p + 1) (B ++ R)))))) :
  Calls Tryz.prog 100 #[.pointer (some ⟨g.J,0,none⟩),.int .i64 p] w fun e w' => e = .returned (.bool b) ∧ Below w.heap.size w w':=by
 have HC:=hid (fun W (hb : Below w.heap.size w W) => (⟨ag hb h.c,ag hb h.en,ag hb h.s,ag hb (h.shs p hp),ag hb (h.cod.op hp),ag hb (h.enc p hp)⟩ : W.cell? ⟨g.J,9,none⟩ = some (.slice (some ⟨g.cb,g.coff,none⟩) g.N g.cc) ∧ W.cell? ⟨g.J,10,none⟩ = some (.slice (some ⟨g.EN,0,none⟩) g.N g.ec) ∧ W.cell? ⟨g.J,13,none⟩ = some (.slice (some ⟨g.sb,g.soff,none⟩) g.N g.sc) ∧ W.cell? ⟨g.sb,g.soff + p,none⟩ = some (.string (g.sh p)) ∧ W.cell? ⟨g.cb,g.coff + p * 3,none⟩ = some (.int .u8 (opF g.xs p)) ∧ W.cell? ⟨g.EN,p,none⟩ = some (.int .i64 (enF (opF g.xs) g.N p))))
 have o0:=h.ow;have o1:=h.owc p hp;have hs8:=hsh p;have e1 : (p : Int) < (g.N : Int):=ae;have HEN:=hid hen;clear h hsh hen;generalize iG g.N g.sh = rs at *;generalize owF (opF g.xs) g.N p = ow at *;generalize enF (opF g.xs) g.N p = ex at *;generalize opF g.xs p = op at *;generalize g.sh p = S at *;generalize g.J = J at *;generalize g.OW = OW at *;generalize g.oc = oc at *;generalize g.EN = EN at *;generalize g.ec = ec at *;generalize g.sb = sb at *;generalize g.soff = soff at *;generalize g.sc = sc at *;generalize g.cb = cb at *;generalize g.coff = coff at *;generalize g.cc = cc at *;generalize g.N = N at *;have HB0 : Hid (Below w.heap.size w w):=hid (Below.refl _ _)
 go_enter Tryz.func100,Tryz.ntmps100
 go_wp2_with fail;refine (HF.out _ HB0.out).mono ?_;rintro e w5 ⟨rfl,hb5⟩;have BN:=aj w5 (aB P R);have HS5:=hid (hb5.trans (BN.mono hb5.size));have GB:=hid (heap_alloc_new w5 (aB P R));clear BN hb5 o0 o1;go_wp2_with fail;have hS5:=HS5.out;have gB5:=GB.out;clear HS5 GB;generalize w5.alloc (aB P R) = W5 at *;generalize w5.heap.size = G at *;refine (HG.out _ hS5).mono ?_;rintro e w6 ⟨rfl,hb6⟩;have gB6:=ar hb6 gB5;have g1 : w6.cell? ⟨G,1,none⟩ = some (.string R):=ai gB6;have hS6:=hS5.trans (hb6.mono hS5.size);obtain ⟨c9,c10,c13,cs,co,ce⟩:=HC.out _ hS6;have HS:=hid hS6;clear hb6 hS5 hS6 gB5 gB6
 cases ok1 with
 | false =>
  exact vK
 | true =>
  cases ok2 with
  | false =>
   exact vK
  | true =>
   have hsm : ¬ 9223372036854775807 < B.size + R.size:=ae
   cases hq : (S.toList == (B ++ R).toList) with
   | false =>
    have hq2 : (S.toList != (B ++ R).toList) = true:=gI;rw [hq] at HV;exact vK
   | true =>
    have hq2 : (S.toList != (B ++ R).toList) = false:=gI;rw [hq] at HV;go_wp2_with fail
    go_quiet (fail)
    have HS7:=hid (HS.out.trans ((below_drewN w6 nq).mono HS.out.size));have k9:=ag (below_drewN w6 nq) c9;have k10:=ag (below_drewN w6 nq) c10;have ko:=ag (below_drewN w6 nq) co;have ke:=ag (below_drewN w6 nq) ce;have kg:=ag (below_drewN w6 nq) g1;clear c9 c10 c13 cs co ce g1 HS;generalize w6.drewN nq = w7 at *
    have HQ:=hid (fun n => HS7.out.trans ((below_drewN w7 n).mono HS7.out.size))
    by_cases h5 : op = 5
    ·have g5 : (op == (5 : Int)) = true:=by simp [h5]
     rw [HEN.out h5] at ke;have HV2:=HV.out;rw [if_pos h5] at HV2;have HV3:=hid HV2;clear HV2 HV HEN h5;go_wp2_with fail
     go_quiet ((go_at_call 157; exact Calls.quiet_of_same (HI.out _ _ _ (HQ.out _))))
     go_wp2_with fail;go_ret
     exact ⟨by rw [HV3.out]; rfl,HQ.out _⟩
    ·have g5 : (op == (5 : Int)) = false:=by simp [h5]
     have HV2:=HV.out;rw [if_neg h5] at HV2;have HV3:=hid HV2;clear HV2 HV HEN h5
     by_cases ho : ow < 0
     ·have g6 : decide (ow < 0) = true:=by simpa using ho
      go_wp2_with fail;go_ret
      exact ⟨by rw [HV3.out,g6]; rfl,HS7.out⟩
     ·have g6 : decide (ow < 0) = false:=by simpa using ho
      go_wp2_with fail;refine (HI.out (p + 1) _ _ HS7.out).mono ?_;rintro e w8 ⟨rfl,rfl⟩;go_wp2_with fail;go_ret
      exact ⟨by rw [HV3.out,g6]; rfl,HS7.out⟩
end
end Go.Proofs.YtepnnenohjfkbaaGreatDoor

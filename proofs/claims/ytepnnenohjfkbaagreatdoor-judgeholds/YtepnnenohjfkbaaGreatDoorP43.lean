/-
  Texts Qf.
-/
import Derived.Test.YtepnnenohjfkbaaGreatDoorP00
import Derived.Test.YtepnnenohjfkbaaGreatDoorP42
set_option linter.unusedVariables false
set_option maxRecDepth 100000
set_option maxHeartbeats 16000000
namespace Go.Proofs.YtepnnenohjfkbaaGreatDoor
open Go.RowKit
def fR (y : InM) : List Value:=[.int .u8 y.1,.int .i64 y.2.1,.slice y.2.2.1.1 y.2.2.1.2.1 y.2.2.1.2.2]
def xj (w : World) (x : InM) : Prop:=iN w x.2.2.1.1 x.2.2.1.2.1 x.2.2.2 ∧ x.2.2.1.2.1 ≤ 100000
def xN (w : World) (x : DaM) : Prop:=sB w x.2.1.1 x.2.1.2.1 x.2.2 ∧ x.2.1.2.1 ≤ 1000000
def xP (w : World) (x : FuM) : Prop:=AtIn w x.2.2.1.1 x.2.2.1.2.1 x.2.2.2 ∧ x.2.2.1.2.1 ≤ 100000 ∧ ∀ y ∈ x.2.2.2,xj w y
theorem sB.kept {S : Nat → Prop} {w w' : World} {a : Option Addr} {n : Nat} {xs : List Int} (h : sB w a n xs) (hk : Kept S w w') (hS : ∀ b off c,a = some ⟨b,off,c⟩ → ¬ S b) : sB w' a n xs :=
 ⟨h.1,h.2.imp id fun ⟨b,off,ha,hc⟩ => ⟨b,off,ha,fun j x hj => hk.cell (hc j x hj) (hS _ _ _ ha)⟩⟩
theorem xj.later {w w' : World} {x : InM} (h : xj w x) (hb : Below w.heap.size w w') : xj w' x:=⟨h.1.kept (az hb) (fun _ _ _ _ => id),h.2⟩
theorem xN.later {w w' : World} {x : DaM} (h : xN w x) (hb : Below w.heap.size w w') : xN w' x:=⟨h.1.kept (az hb) (fun _ _ _ _ => id),h.2⟩
theorem xP.later {w w' : World} {x : FuM} (h : xP w x) (hb : Below w.heap.size w w') : xP w' x:=⟨h.1.kept (az hb) (fun _ _ _ _ => id),h.2.1,fun y hy => (h.2.2 y hy).later hb⟩
def lh (w : World) (base : Nat) (y : InM) : Prop:=∃ B n,y.2.2.1 = (some ⟨B,0,none⟩,n,n + 64) ∧ y.2.2.2.length = n ∧ w.ownsRow base 3 1 (.slice (some ⟨B,0,none⟩) (n + 64) (n + 64)) (n + 64) ((y.2.2.2 ++ iE n).flatMap fX)
def jI (w : World) (base : Nat) (y : DaM) : Prop:=∃ B n,y.2.1 = (some ⟨B,0,none⟩,n,n + 64) ∧ y.2.2.length = n ∧ w.ownsRow base 5 1 (.slice (some ⟨B,0,none⟩) (n + 64) (n + 64)) (n + 64) ((y.2.2 ++ iL n).flatMap iK)
theorem lh.stay {S : Nat → Prop} {w w' : World} {base : Nat} {y : InM} (h : lh w base y) (hk : Kept S w w') (hS : ∀ k,S k → k < base ∨ w.heap.size ≤ k) : lh w' base y:=by
 exact BC
theorem jI.stay {S : Nat → Prop} {w w' : World} {base : Nat} {y : DaM} (h : jI w base y) (hk : Kept S w w') (hS : ∀ k,S k → k < base ∨ w.heap.size ≤ k) : jI w' base y:=by
 exact BC
theorem lh.low {w : World} {base base' : Nat} {y : InM} (h : lh w base y) (hb : base' ≤ base) : lh w base' y:=by
 obtain ⟨B,n,e,hl,ho⟩:=h;exact ⟨B,n,e,hl,dO ho hb⟩
theorem jI.low {w : World} {base base' : Nat} {y : DaM} (h : jI w base y) (hb : base' ≤ base) : jI w base' y:=by
 obtain ⟨B,n,e,hl,ho⟩:=h;exact ⟨B,n,e,hl,dO ho hb⟩
def sk (x y : InM) : Prop:=y.1 = x.1 ∧ y.2.1 = x.2.1 ∧ y.2.2.1.2.1 = x.2.2.1.2.1 ∧ y.2.2.2 = x.2.2.2
def rP (x y : DaM) : Prop:=y.1 = x.1 ∧ y.2.1.2.1 = x.2.1.2.1 ∧ y.2.2 = x.2.2
theorem Gf (x : InM) (w : World) (hs : xj w x) :
  Calls Tryz.prog 207 #[.agg #[.int .u8 x.1,.int .i64 x.2.1,.slice x.2.2.1.1 x.2.2.1.2.1 x.2.2.1.2.2]] w fun e w' => ∃ y,e = .returned (.agg #[.int .u8 y.1,.int .i64 y.2.1,.slice y.2.2.1.1 y.2.2.1.2.1 y.2.2.1.2.2]) ∧ lh w' w.heap.size y ∧ sk x y ∧ Below w.heap.size w w':=by
 have HS:=hid (fun (W : World) (hb : Below w.heap.size w W) => hs.later hb)
 have B1:=aj w (aC x.1 x.2.1 x.2.2.1.1 x.2.2.1.2.1 x.2.2.1.2.2);have B2:=aj (w.alloc (aC x.1 x.2.1 x.2.2.1.1 x.2.2.1.2.1 x.2.2.1.2.2)) (aC 0 0 none 0 0);have b1:=ar B2 (heap_alloc_new w (aC x.1 x.2.1 x.2.2.1.1 x.2.2.1.2.1 x.2.2.1.2.2));have b2 : ((w.alloc (aC x.1 x.2.1 x.2.2.1.1 x.2.2.1.2.1 x.2.2.1.2.2)).alloc (aC 0 0 none 0 0)).heap[w.heap.size + 1]? = some (aC 0 0 none 0 0):=alloc_at ak;have B0 : Below w.heap.size w ((w.alloc (aC x.1 x.2.1 x.2.2.1.1 x.2.2.1.2.1 x.2.2.1.2.2)).alloc (aC 0 0 none 0 0)):=B1.trans (B2.mono ak);have z : ((w.alloc (aC x.1 x.2.1 x.2.2.1.1 x.2.2.1.2.1 x.2.2.1.2.2)).alloc (aC 0 0 none 0 0)).heap.size = w.heap.size + 2:=ak;have HB:=hid (And.intro B0 z);have c2 : ((w.alloc (aC x.1 x.2.1 x.2.2.1.1 x.2.2.1.2.1 x.2.2.1.2.2)).alloc (aC 0 0 none 0 0)).cell? ⟨w.heap.size,2,none⟩ = some (.slice x.2.2.1.1 x.2.2.1.2.1 x.2.2.1.2.2):=ai b1;clear hs B1 B2 B0 z
 go_enter Tryz.func207,Tryz.ntmps207
 go_wp2_with fail;generalize ((w.alloc (aC x.1 x.2.1 x.2.2.1.1 x.2.2.1.2.1 x.2.2.1.2.2)).alloc (aC 0 0 none 0 0)) = W1 at *
 refine (I7 0 x.2.2.1.1 x.2.2.1.2.1 x.2.2.1.2.2 x.2.2.2 W1 (HS.out _ HB.out.1).1 (by have:=(HS.out _ HB.out.1).2; omega)).mono ?_
 rintro e w1 ⟨rfl,ho,hbel⟩;have HO:=hid ho;have HBE:=hid hbel;have d1:=ar hbel b1;have d2:=ar hbel b2;have x0 : w1.cell? ⟨w.heap.size,0,none⟩ = some (.int .u8 x.1):=ai d1;have x1 : w1.cell? ⟨w.heap.size,1,none⟩ = some (.int .i64 x.2.1):=ai d1;have x2 : w1.cell? ⟨w.heap.size,2,none⟩ = some (.slice x.2.2.1.1 x.2.2.1.2.1 x.2.2.1.2.2):=ai d1;have f2 : w1.frozen? ⟨w.heap.size,2,none⟩ = false:=free_at d1;have y0 : w1.cell? ⟨w.heap.size + 1,0,none⟩ = some (.int .u8 0):=ai d2;have g0 : w1.frozen? ⟨w.heap.size + 1,0,none⟩ = false:=free_at d2;have y1 : w1.cell? ⟨w.heap.size + 1,1,none⟩ = some (.int .i64 0):=ai d2;have g1 : w1.frozen? ⟨w.heap.size + 1,1,none⟩ = false:=free_at d2;have y2 : w1.cell? ⟨w.heap.size + 1,2,none⟩ = some (.slice none 0 0):=ai d2;have g2 : w1.frozen? ⟨w.heap.size + 1,2,none⟩ = false:=free_at d2;clear ho hbel c2 b1 b2 d1 d2;go_wp2_with fail;have hz:=HB.out.2
 have hkk : Kept (fun k => w.heap.size ≤ k ∧ k < W1.heap.size) w1 ((((w1.setCell ⟨w.heap.size,2,none⟩ (.slice (some ⟨W1.heap.size,0,none⟩) x.2.2.1.2.1 (x.2.2.1.2.1 + 64))).setCell ⟨w.heap.size + 1,0,none⟩ (.int .u8 x.1)).setCell ⟨w.heap.size + 1,1,none⟩ (.int .i64 x.2.1)).setCell ⟨w.heap.size + 1,2,none⟩ (.slice (some ⟨W1.heap.size,0,none⟩) x.2.2.1.2.1 (x.2.2.1.2.1 + 64))):=(((((ay w1 w.heap.size 2 _).mono (fun k hk => ae)).trans ((ay _ (w.heap.size + 1) 0 _).mono (fun k hk => ae))).trans ((ay _ (w.heap.size + 1) 1 _).mono (fun k hk => ae))).trans ((ay _ (w.heap.size + 1) 2 _).mono (fun k hk => ae)))
 have h1 : Below w.heap.size w w1:=HB.out.1.trans (HBE.out.mono HB.out.1.size)
 refine bodyPost_ret (v:=.agg #[.int .u8 x.1,.int .i64 x.2.1,.slice (some ⟨W1.heap.size,0,none⟩) x.2.2.1.2.1 (x.2.2.1.2.1 + 64)]) (by simp [results,Tryz.results207,go_sem,y0,y1,y2]) rfl ⟨(x.1,x.2.1,(some ⟨W1.heap.size,0,none⟩,x.2.2.1.2.1,x.2.2.1.2.1 + 64),x.2.2.2),rfl,⟨_,_,rfl,(HS.out _ HB.out.1).1.1,dO (bg HO.out hkk (fun b hb hx => vW)) HB.out.1.size⟩,⟨rfl,rfl,rfl,rfl⟩,h1.trans (hkk.to_below (B:=w.heap.size) h1.size (fun k hk hx => ae))⟩
def jg (n : Nat) : List InM:=(List.range 64).map fun j => (fun (i : Nat) => ((0,9437184 + (i : Int) + 1,(none,0,0),[]) : InM)) (n + j)
theorem kB (n : Nat) : (jg n).length = 64:=by simp [jg]
theorem Pk : (Tryz.prog.info? 51).map (fun i => (i.zero,i.size,i.bytes)) = some (some (.agg #[.int .u8 0,.int .i64 0,.slice none 0 0]),3,40):=aw
theorem ED (n : Nat) {t : Nat} (h0 : n ≤ t) (h1 : t < n + 64) : (jg n).take (t + 1 - n) = (jg n).take (t - n) ++ [(fun (i : Nat) => ((0,9437184 + (i : Int) + 1,(none,0,0),[]) : InM)) t]:=by
 rw [show t + 1 - n = (t - n) + 1 by omega,List.take_add_one]
 congr 1
 unfold jg;rw [List.getElem?_map,List.getElem?_range ae]
 show [(fun (i : Nat) => ((0,9437184 + (i : Int) + 1,(none,0,0),[]) : InM)) (n + (t - n))] = _
 rw [Nat.add_sub_cancel' h0]
def RV (l : List InM) (n : Nat) (w : World) (ys : List InM) (w' : World) : Prop:=ys.length = n ∧ w'.ownsRow w.heap.size 51 3 (.slice (some ⟨w.heap.size,0,none⟩) (n + 64) (n + 64)) (n + 64) ((ys ++ jg n).flatMap fR) ∧ (∀ y ∈ ys,lh w' (w.heap.size + 1) y) ∧ (∀ (j : Nat) x y,l[j]? = some x → ys[j]? = some y → sk x y) ∧ Below w.heap.size w w'
theorem Pi (a : Option Addr) (n c : Nat) (l : List InM) (w : World) (h : AtIn w a n l) (hn : n ≤ 100000) (hs : ∀ x ∈ l,xj w x) :
  Calls Tryz.prog 136 #[.slice a n c] w fun e w' => ∃ ys,e = .returned (.slice (some ⟨w.heap.size,0,none⟩) n (n + 64)) ∧ RV l n w ys w':=by
 obtain ⟨i0,hi,hz0,hz1,hz2⟩:=info_parts Pk;have hb2 : i0.bytes * (n + 64) ≤ 281474976710656:=gN;have hml : n + 64 ≤ maxLen:=cG;have hll:=h.1;have HA:=hid h;have HS:=hid hs;clear h hs
 go_enter Tryz.func136,Tryz.ntmps136
 go_wp2_with (first | (at_make; refine wpList_make_full _ rfl _ _ 40 rfl w.heap.size 51 i0 (.agg #[.int .u8 0,.int .i64 0,.slice none 0 0]) 3 Tryz.underlying40 hi hz0 hz1 .i64 .i64 _ _ (n + 64) rfl rfl ae ae hb2 hml (Nat.le_refl _) ?_; intro w1 hown hgrow))
 have hZ : (madeCells (Value.agg #[.int .u8 0,.int .i64 0,.slice none 0 0]).cells ((n + 64) * 3)).toList.length = (n + 64) * 3:=hown.1;have HF0 : Hid (FLd w 51 3 (n + 64) [] (madeCells (Value.agg #[.int .u8 0,.int .i64 0,.slice none 0 0]).cells ((n + 64) * 3)).toList w1):=hid ⟨jb,(Below.refl _ _).grown hgrow (Nat.le_refl _) ak⟩;generalize (madeCells (Value.agg #[.int .u8 0,.int .i64 0,.slice none 0 0]).cells ((n + 64) * 3)).toList = Z at *;clear hown hgrow hi hz0 hz1 hz2 hb2 hml
 go_loopw [4] (fun i wr => ∃ (t : Nat) (ys : List InM),t ≤ n + 64 ∧ i = .int .i64 t ∧ Hid (ys.length = min t n) ∧ Hid (FLd w 51 3 (n + 64) ((ys ++ (jg n).take (t - n)).flatMap fR) Z wr) ∧ Hid ((∀ y ∈ ys,lh wr (w.heap.size + 1) y) ∧ ∀ (j : Nat) x y,l[j]? = some x → ys[j]? = some y → sk x y)) (fun i _ => n + 64 - (intOf i).toNat)
 case atStart => exact ⟨0,[],ae,rfl,hid ak,hid (by simpa using HF0.out),hid ⟨fun y hy => (by cases hy),fun j x y _ hy => by simp at hy⟩⟩
 case round =>
  obtain ⟨t,ys,ht,rfl,HYL,HF,HW⟩:=hrel;clear HF0
  by_cases hlt : t < n + 64
  ·have hlt' : (t : Int) < (n : Int) + 64:=ae
   have hdl : ((ys ++ (jg n).take (t - n)).flatMap fR).length = t * 3:=by
    rw [ji fR 3 (fun _ => rfl),List.length_append,List.length_take,HYL.out,kB]
    congr 1; omega
   by_cases hkn : t < n
   ·obtain ⟨x,hx⟩ : ∃ x,l[t]? = some x:=⟨_,aN ae⟩;have hkn' : (t : Int) < (n : Int):=ae;obtain ⟨b,off,rfl,hat⟩:=HA.out.2.resolve_left ae;obtain ⟨e0,e1,e2⟩:=hat t x hx;have e0:=ag HF.out.bel e0;have e1:=ag HF.out.bel e1;have e2:=ag HF.out.bel e2;have H1:=hid (Gf x wr ((HS.out x (List.mem_of_getElem? hx)).later HF.out.bel));have HXT:=hid hx;clear hat hx;go_wp2_with fail;refine H1.out.mono ?_;rintro e w5 ⟨y,rfl,hwy,hsy,hb5⟩;have HF5:=HF.out.later hb5;have HY:=hid (And.intro hwy hsy);have hls:=HF.out.lt
    obtain ⟨u0,q0⟩:=HF5.cell hZ (show t * 3 < (n + 64) * 3 by omega)
    have r0:=HF5.free (t * 3)
    obtain ⟨u1,q1⟩:=HF5.cell hZ (show t * 3 + 1 < (n + 64) * 3 by omega)
    have r1:=HF5.free (t * 3 + 1)
    obtain ⟨u2,q2⟩:=HF5.cell hZ (show t * 3 + 2 < (n + 64) * 3 by omega)
    have r2:=HF5.free (t * 3 + 2);have P0:=HF5.put (j:=t * 3) hdl ae (.int .u8 y.1);have P1:=P0.put (j:=t * 3 + 1) dM ae (.int .i64 y.2.1);have P2:=P1.put (j:=t * 3 + 2) dM ae (.slice y.2.2.1.1 y.2.2.1.2.1 y.2.2.1.2.2)
    have hkk : Kept (fun k => k = w.heap.size) w5 (((w5.setCell ⟨w.heap.size,t * 3,none⟩ (.int .u8 y.1)).setCell ⟨w.heap.size,t * 3 + 1,none⟩ (.int .i64 y.2.1)).setCell ⟨w.heap.size,t * 3 + 2,none⟩ (.slice y.2.2.1.1 y.2.2.1.2.1 y.2.2.1.2.2)):=(((ay w5 w.heap.size (t * 3) (.int .u8 y.1)).trans (ay _ w.heap.size (t * 3 + 1) (.int .i64 y.2.1))).trans (ay _ w.heap.size (t * 3 + 2) (.slice y.2.2.1.1 y.2.2.1.2.1 y.2.2.1.2.2)))
    have hyl:=HYL.out;have ht0 : t - n = 0:=ae;have ht1 : t + 1 - n = 0:=ae
    have HN : Hid (FLd w 51 3 (n + 64) (((ys ++ [y]) ++ (jg n).take (t + 1 - n)).flatMap fR) Z _):=hid (by rw [ht1]; rw [ht0] at P2; simpa [fR,List.flatMap_append] using P2)
    have HN1:=hid (show (ys ++ [y]).length = min (t + 1) n by rw [List.length_append,hyl]; simp; omega)
    have HN2 : Hid ((∀ z ∈ ys ++ [y],lh _ (w.heap.size + 1) z) ∧ ∀ (j : Nat) x z,l[j]? = some x → (ys ++ [y])[j]? = some z → sk x z):=hid ⟨fun z hz => by
      rcases List.mem_append.1 hz with hz | hz
      ·exact uk
      ·obtain rfl : z = y:=nO
       exact (HY.out.1.low ae).stay hkk (fun k hk => .inl ae),fun j x2 z hj hz => by
      by_cases hjt : j < ys.length
      ·exact tH
      ·have hjl:=ax hz
       simp at hjl
       have hje : j = t:=ae;subst hje
       rw [List.getElem?_append_right ae,show j - ys.length = 0 by omega] at hz
       obtain rfl : y = z:=nO;rw [HXT.out] at hj;obtain rfl : x = x2:=nY;exact HY.out.2⟩
    exact Lv
   ·have hkn' : ¬ (t : Int) < (n : Int):=ae;have hls:=HF.out.lt
    obtain ⟨u0,q0⟩:=HF.out.cell hZ (show t * 3 < (n + 64) * 3 by omega)
    have r0:=HF.out.free (t * 3)
    obtain ⟨u1,q1⟩:=HF.out.cell hZ (show t * 3 + 1 < (n + 64) * 3 by omega)
    have r1:=HF.out.free (t * 3 + 1)
    obtain ⟨u2,q2⟩:=HF.out.cell hZ (show t * 3 + 2 < (n + 64) * 3 by omega)
    have r2:=HF.out.free (t * 3 + 2);have P0:=HF.out.put (j:=t * 3) hdl ae (.int .u8 0);have P1:=P0.put (j:=t * 3 + 1) dM ae (.int .i64 (9437184 + (t : Int) + 1));have P2:=P1.put (j:=t * 3 + 2) dM ae (.slice none 0 0)
    have hkk : Kept (fun k => k = w.heap.size) wr (((wr.setCell ⟨w.heap.size,t * 3,none⟩ (.int .u8 0)).setCell ⟨w.heap.size,t * 3 + 1,none⟩ (.int .i64 (9437184 + (t : Int) + 1))).setCell ⟨w.heap.size,t * 3 + 2,none⟩ (.slice none 0 0)):=(((ay wr w.heap.size (t * 3) (.int .u8 0)).trans (ay _ w.heap.size (t * 3 + 1) (.int .i64 (9437184 + (t : Int) + 1)))).trans (ay _ w.heap.size (t * 3 + 2) (.slice none 0 0)))
    have hmt:=ED n (show n ≤ t by omega) hlt
    have HN : Hid (FLd w 51 3 (n + 64) ((ys ++ (jg n).take (t + 1 - n)).flatMap fR) Z _):=hid (by rw [hmt]; simpa [fR,List.flatMap_append] using P2)
    have HN1:=hid (show ys.length = min (t + 1) n by rw [HYL.out]; omega)
    have HN2 : Hid ((∀ z ∈ ys,lh _ (w.heap.size + 1) z) ∧ ∀ (j : Nat) x z,l[j]? = some x → ys[j]? = some z → sk x z):=hid ⟨fun z hz => (HW.out.1 z hz).stay hkk (fun k hk => .inl ae),HW.out.2⟩
    exact JU
  ·obtain rfl : t = n + 64:=ae;have hlt' : ¬ ((n + 64 : Nat) : Int) < (n : Int) + 64:=ae;go_wp2_with fail;go_ret
   have hyl : ys.length = n:=by rw [HYL.out]; omega
   have hmm : (jg n).take (n + 64 - n) = jg n:=List.take_of_length_le (by rw [kB]; omega)
   have hff:=HF.out;rw [hmm] at hff
   have hff:=hff.full (by rw [hZ,ji fR 3 (fun _ => rfl),List.length_append,hyl,kB])
   first
    | exact ⟨rfl,ys,hyl,hff,HW.out.1,HW.out.2,HF.out.bel⟩
    | exact ⟨ys,rfl,hyl,hff,HW.out.1,HW.out.2,HF.out.bel⟩
theorem Gr (x : DaM) (w : World) (hs : xN w x) :
  Calls Tryz.prog 87 #[.agg #[.int .i64 x.1,.slice x.2.1.1 x.2.1.2.1 x.2.1.2.2]] w fun e w' => ∃ y,e = .returned (.agg #[.int .i64 y.1,.slice y.2.1.1 y.2.1.2.1 y.2.1.2.2]) ∧ jI w' w.heap.size y ∧ rP x y ∧ Below w.heap.size w w':=by
 have HS:=hid (fun (W : World) (hb : Below w.heap.size w W) => hs.later hb)
 have B1:=aj w (bi x.1 x.2.1.1 x.2.1.2.1 x.2.1.2.2);have B2:=aj (w.alloc (bi x.1 x.2.1.1 x.2.1.2.1 x.2.1.2.2)) (bi 0 none 0 0);have b1:=ar B2 (heap_alloc_new w (bi x.1 x.2.1.1 x.2.1.2.1 x.2.1.2.2));have b2 : ((w.alloc (bi x.1 x.2.1.1 x.2.1.2.1 x.2.1.2.2)).alloc (bi 0 none 0 0)).heap[w.heap.size + 1]? = some (bi 0 none 0 0):=alloc_at ak;have B0 : Below w.heap.size w ((w.alloc (bi x.1 x.2.1.1 x.2.1.2.1 x.2.1.2.2)).alloc (bi 0 none 0 0)):=B1.trans (B2.mono ak);have z : ((w.alloc (bi x.1 x.2.1.1 x.2.1.2.1 x.2.1.2.2)).alloc (bi 0 none 0 0)).heap.size = w.heap.size + 2:=ak;have HB:=hid (And.intro B0 z);have c2 : ((w.alloc (bi x.1 x.2.1.1 x.2.1.2.1 x.2.1.2.2)).alloc (bi 0 none 0 0)).cell? ⟨w.heap.size,1,none⟩ = some (.slice x.2.1.1 x.2.1.2.1 x.2.1.2.2):=ai b1;clear hs B1 B2 B0 z
 go_enter Tryz.func87,Tryz.ntmps87
 go_wp2_with fail;generalize ((w.alloc (bi x.1 x.2.1.1 x.2.1.2.1 x.2.1.2.2)).alloc (bi 0 none 0 0)) = W1 at *;refine (Qn 0 x.2.1.1 x.2.1.2.1 x.2.1.2.2 x.2.2 W1 (HS.out _ HB.out.1).1 (HS.out _ HB.out.1).2).mono ?_;rintro e w1 ⟨rfl,ho,hbel⟩;have HO:=hid ho;have HBE:=hid hbel;have d1:=ar hbel b1;have d2:=ar hbel b2;have x0 : w1.cell? ⟨w.heap.size,0,none⟩ = some (.int .i64 x.1):=ai d1;have x1 : w1.cell? ⟨w.heap.size,1,none⟩ = some (.slice x.2.1.1 x.2.1.2.1 x.2.1.2.2):=ai d1;have f1 : w1.frozen? ⟨w.heap.size,1,none⟩ = false:=free_at d1;have y0 : w1.cell? ⟨w.heap.size + 1,0,none⟩ = some (.int .i64 0):=ai d2;have g0 : w1.frozen? ⟨w.heap.size + 1,0,none⟩ = false:=free_at d2;have y1 : w1.cell? ⟨w.heap.size + 1,1,none⟩ = some (.slice none 0 0):=ai d2;have g1 : w1.frozen? ⟨w.heap.size + 1,1,none⟩ = false:=free_at d2;clear ho hbel c2 b1 b2 d1 d2;go_wp2_with fail;have hz:=HB.out.2
 have hkk : Kept (fun k => w.heap.size ≤ k ∧ k < W1.heap.size) w1 (((w1.setCell ⟨w.heap.size,1,none⟩ (.slice (some ⟨W1.heap.size,0,none⟩) x.2.1.2.1 (x.2.1.2.1 + 64))).setCell ⟨w.heap.size + 1,0,none⟩ (.int .i64 x.1)).setCell ⟨w.heap.size + 1,1,none⟩ (.slice (some ⟨W1.heap.size,0,none⟩) x.2.1.2.1 (x.2.1.2.1 + 64))):=((((ay w1 w.heap.size 1 _).mono (fun k hk => ae)).trans ((ay _ (w.heap.size + 1) 0 _).mono (fun k hk => ae))).trans ((ay _ (w.heap.size + 1) 1 _).mono (fun k hk => ae)))
 have h1 : Below w.heap.size w w1:=HB.out.1.trans (HBE.out.mono HB.out.1.size)
 refine bodyPost_ret (v:=.agg #[.int .i64 x.1,.slice (some ⟨W1.heap.size,0,none⟩) x.2.1.2.1 (x.2.1.2.1 + 64)]) (by simp [results,Tryz.results87,go_sem,y0,y1]) rfl ⟨(x.1,(some ⟨W1.heap.size,0,none⟩,x.2.1.2.1,x.2.1.2.1 + 64),x.2.2),rfl,⟨_,_,rfl,(HS.out _ HB.out.1).1.1,dO (bg HO.out hkk (fun b hb hx => vW)) HB.out.1.size⟩,⟨rfl,rfl,rfl⟩,h1.trans (hkk.to_below (B:=w.heap.size) h1.size (fun k hk hx => ae))⟩
def jt (n : Nat) : List DaM:=(List.range 64).map fun j => (fun (i : Nat) => ((9437184 + (i : Int) + 1,(none,0,0),[]) : DaM)) (n + j)
theorem kI (n : Nat) : (jt n).length = 64:=by simp [jt]
theorem Po : (Tryz.prog.info? 66).map (fun i => (i.zero,i.size,i.bytes)) = some (some (.agg #[.int .i64 0,.slice none 0 0]),2,32):=aw
theorem FZ (n : Nat) {t : Nat} (h0 : n ≤ t) (h1 : t < n + 64) : (jt n).take (t + 1 - n) = (jt n).take (t - n) ++ [(fun (i : Nat) => ((9437184 + (i : Int) + 1,(none,0,0),[]) : DaM)) t]:=by
 rw [show t + 1 - n = (t - n) + 1 by omega,List.take_add_one]
 congr 1
 unfold jt;rw [List.getElem?_map,List.getElem?_range ae]
 show [(fun (i : Nat) => ((9437184 + (i : Int) + 1,(none,0,0),[]) : DaM)) (n + (t - n))] = _
 rw [Nat.add_sub_cancel' h0]
def Sy (l : List DaM) (n : Nat) (w : World) (ys : List DaM) (w' : World) : Prop:=ys.length = n ∧ w'.ownsRow w.heap.size 66 2 (.slice (some ⟨w.heap.size,0,none⟩) (n + 64) (n + 64)) (n + 64) ((ys ++ jt n).flatMap gQ) ∧ (∀ y ∈ ys,jI w' (w.heap.size + 1) y) ∧ (∀ (j : Nat) x y,l[j]? = some x → ys[j]? = some y → rP x y) ∧ Below w.heap.size w w'
theorem N9 (a : Option Addr) (n c : Nat) (l : List DaM) (w : World) (h : ki w a n l) (hn : n ≤ 100000) (hs : ∀ x ∈ l,xN w x) :
  Calls Tryz.prog 48 #[.slice a n c] w fun e w' => ∃ ys,e = .returned (.slice (some ⟨w.heap.size,0,none⟩) n (n + 64)) ∧ Sy l n w ys w':=by
 obtain ⟨i0,hi,hz0,hz1,hz2⟩:=info_parts Po;have hb2 : i0.bytes * (n + 64) ≤ 281474976710656:=gN;have hml : n + 64 ≤ maxLen:=cG;have hll:=h.1;have HA:=hid h;have HS:=hid hs;clear h hs
 go_enter Tryz.func48,Tryz.ntmps48
 go_wp2_with (first | (at_make; refine wpList_make_full _ rfl _ _ 26 rfl w.heap.size 66 i0 (.agg #[.int .i64 0,.slice none 0 0]) 2 Tryz.underlying26 hi hz0 hz1 .i64 .i64 _ _ (n + 64) rfl rfl ae ae hb2 hml (Nat.le_refl _) ?_; intro w1 hown hgrow))
 have hZ : (madeCells (Value.agg #[.int .i64 0,.slice none 0 0]).cells ((n + 64) * 2)).toList.length = (n + 64) * 2:=hown.1;have HF0 : Hid (FLd w 66 2 (n + 64) [] (madeCells (Value.agg #[.int .i64 0,.slice none 0 0]).cells ((n + 64) * 2)).toList w1):=hid ⟨jb,(Below.refl _ _).grown hgrow (Nat.le_refl _) ak⟩;generalize (madeCells (Value.agg #[.int .i64 0,.slice none 0 0]).cells ((n + 64) * 2)).toList = Z at *;clear hown hgrow hi hz0 hz1 hz2 hb2 hml
 go_loopw [4] (fun i wr => ∃ (t : Nat) (ys : List DaM),t ≤ n + 64 ∧ i = .int .i64 t ∧ Hid (ys.length = min t n) ∧ Hid (FLd w 66 2 (n + 64) ((ys ++ (jt n).take (t - n)).flatMap gQ) Z wr) ∧ Hid ((∀ y ∈ ys,jI wr (w.heap.size + 1) y) ∧ ∀ (j : Nat) x y,l[j]? = some x → ys[j]? = some y → rP x y)) (fun i _ => n + 64 - (intOf i).toNat)
 case atStart => exact ⟨0,[],ae,rfl,hid ak,hid (by simpa using HF0.out),hid ⟨fun y hy => (by cases hy),fun j x y _ hy => by simp at hy⟩⟩
 case round =>
  obtain ⟨t,ys,ht,rfl,HYL,HF,HW⟩:=hrel;clear HF0
  by_cases hlt : t < n + 64
  ·have hlt' : (t : Int) < (n : Int) + 64:=ae
   have hdl : ((ys ++ (jt n).take (t - n)).flatMap gQ).length = t * 2:=by
    rw [ji gQ 2 (fun _ => rfl),List.length_append,List.length_take,HYL.out,kI]
    congr 1; omega
   by_cases hkn : t < n
   ·obtain ⟨x,hx⟩ : ∃ x,l[t]? = some x:=⟨_,aN ae⟩;have hkn' : (t : Int) < (n : Int):=ae;obtain ⟨b,off,rfl,hat⟩:=HA.out.2.resolve_left ae;obtain ⟨e0,e1⟩:=hat t x hx;have e0:=ag HF.out.bel e0;have e1:=ag HF.out.bel e1;have H1:=hid (Gr x wr ((HS.out x (List.mem_of_getElem? hx)).later HF.out.bel));have HXT:=hid hx;clear hat hx;go_wp2_with fail;refine H1.out.mono ?_;rintro e w5 ⟨y,rfl,hwy,hsy,hb5⟩;have HF5:=HF.out.later hb5;have HY:=hid (And.intro hwy hsy);have hls:=HF.out.lt
    obtain ⟨u0,q0⟩:=HF5.cell hZ (show t * 2 < (n + 64) * 2 by omega)
    have r0:=HF5.free (t * 2)
    obtain ⟨u1,q1⟩:=HF5.cell hZ (show t * 2 + 1 < (n + 64) * 2 by omega)
    have r1:=HF5.free (t * 2 + 1);have P0:=HF5.put (j:=t * 2) hdl ae (.int .i64 y.1);have P1:=P0.put (j:=t * 2 + 1) dM ae (.slice y.2.1.1 y.2.1.2.1 y.2.1.2.2)
    have hkk : Kept (fun k => k = w.heap.size) w5 ((w5.setCell ⟨w.heap.size,t * 2,none⟩ (.int .i64 y.1)).setCell ⟨w.heap.size,t * 2 + 1,none⟩ (.slice y.2.1.1 y.2.1.2.1 y.2.1.2.2)):=((ay w5 w.heap.size (t * 2) (.int .i64 y.1)).trans (ay _ w.heap.size (t * 2 + 1) (.slice y.2.1.1 y.2.1.2.1 y.2.1.2.2)))
    have hyl:=HYL.out;have ht0 : t - n = 0:=ae;have ht1 : t + 1 - n = 0:=ae
    have HN : Hid (FLd w 66 2 (n + 64) (((ys ++ [y]) ++ (jt n).take (t + 1 - n)).flatMap gQ) Z _):=hid (by rw [ht1]; rw [ht0] at P1; simpa [gQ,List.flatMap_append] using P1)
    have HN1:=hid (show (ys ++ [y]).length = min (t + 1) n by rw [List.length_append,hyl]; simp; omega)
    have HN2 : Hid ((∀ z ∈ ys ++ [y],jI _ (w.heap.size + 1) z) ∧ ∀ (j : Nat) x z,l[j]? = some x → (ys ++ [y])[j]? = some z → rP x z):=hid ⟨fun z hz => by
      rcases List.mem_append.1 hz with hz | hz
      ·exact uk
      ·obtain rfl : z = y:=nO
       exact (HY.out.1.low ae).stay hkk (fun k hk => .inl ae),fun j x2 z hj hz => by
      by_cases hjt : j < ys.length
      ·exact tH
      ·have hjl:=ax hz
       simp at hjl
       have hje : j = t:=ae;subst hje
       rw [List.getElem?_append_right ae,show j - ys.length = 0 by omega] at hz
       obtain rfl : y = z:=nO;rw [HXT.out] at hj;obtain rfl : x = x2:=nY;exact HY.out.2⟩
    clear HF HW H1 HF5 hwy hsy hb5 hkk HYL hyl hls P0 P1;go_wp2_with fail;exact ⟨⟨t + 1,ys ++ [y],ae,aX,HN1,HN,HN2⟩,aZ⟩
   ·have hkn' : ¬ (t : Int) < (n : Int):=ae;have hls:=HF.out.lt
    obtain ⟨u0,q0⟩:=HF.out.cell hZ (show t * 2 < (n + 64) * 2 by omega)
    have r0:=HF.out.free (t * 2)
    obtain ⟨u1,q1⟩:=HF.out.cell hZ (show t * 2 + 1 < (n + 64) * 2 by omega)
    have r1:=HF.out.free (t * 2 + 1);have P0:=HF.out.put (j:=t * 2) hdl ae (.int .i64 (9437184 + (t : Int) + 1));have P1:=P0.put (j:=t * 2 + 1) dM ae (.slice none 0 0)
    have hkk : Kept (fun k => k = w.heap.size) wr ((wr.setCell ⟨w.heap.size,t * 2,none⟩ (.int .i64 (9437184 + (t : Int) + 1))).setCell ⟨w.heap.size,t * 2 + 1,none⟩ (.slice none 0 0)):=((ay wr w.heap.size (t * 2) (.int .i64 (9437184 + (t : Int) + 1))).trans (ay _ w.heap.size (t * 2 + 1) (.slice none 0 0)))
    have hmt:=FZ n (show n ≤ t by omega) hlt
    have HN : Hid (FLd w 66 2 (n + 64) ((ys ++ (jt n).take (t + 1 - n)).flatMap gQ) Z _):=hid (by rw [hmt]; simpa [gQ,List.flatMap_append] using P1)
    have HN1:=hid (show ys.length = min (t + 1) n by rw [HYL.out]; omega)
    have HN2 : Hid ((∀ z ∈ ys,jI _ (w.heap.size + 1) z) ∧ ∀ (j : Nat) x z,l[j]? = some x → ys[j]? = some z → rP x z):=hid ⟨fun z hz => (HW.out.1 z hz).stay hkk (fun k hk => .inl ae),HW.out.2⟩
    clear HF HW hkk HYL hls hmt P0 P1
    go_wp2_with (first | (go_at_call 85; refine (mD t _ ae ae).mono ?_; rintro e w' ⟨rfl,hw'⟩; have hw2:=hw'.symm; subst hw2))
    exact ⟨⟨t + 1,ys,ae,aX,HN1,HN,HN2⟩,aZ⟩
  ·obtain rfl : t = n + 64:=ae;have hlt' : ¬ ((n + 64 : Nat) : Int) < (n : Int) + 64:=ae;go_wp2_with fail;go_ret
   have hyl : ys.length = n:=by rw [HYL.out]; omega
   have hmm : (jt n).take (n + 64 - n) = jt n:=List.take_of_length_le (by rw [kI]; omega)
   have hff:=HF.out;rw [hmm] at hff
   have hff:=hff.full (by rw [hZ,ji gQ 2 (fun _ => rfl),List.length_append,hyl,kI])
   first
    | exact ⟨rfl,ys,hyl,hff,HW.out.1,HW.out.2,HF.out.bel⟩
    | exact ⟨ys,rfl,hyl,hff,HW.out.1,HW.out.2,HF.out.bel⟩
def jK (w : World) (base : Nat) (y : FuM) : Prop:=∃ B n,y.2.2.1 = (some ⟨B,0,none⟩,n,n + 64) ∧ y.2.2.2.length = n ∧ w.ownsRow base 51 3 (.slice (some ⟨B,0,none⟩) (n + 64) (n + 64)) (n + 64) ((y.2.2.2 ++ jg n).flatMap fR) ∧ ∀ z ∈ y.2.2.2,lh w base z
theorem jK.stay {S : Nat → Prop} {w w' : World} {base : Nat} {y : FuM} (h : jK w base y) (hk : Kept S w w') (hS : ∀ k,S k → k < base ∨ w.heap.size ≤ k) : jK w' base y:=by
 obtain ⟨B,n,e,hl,ho,hz⟩:=h
 exact ⟨B,n,e,hl,bg ho hk (fun b hb hs => CR),fun z hzm => (hz z hzm).stay hk hS⟩
theorem jK.low {w : World} {base base' : Nat} {y : FuM} (h : jK w base y) (hb : base' ≤ base) : jK w base' y:=by
 obtain ⟨B,n,e,hl,ho,hz⟩:=h
 exact ⟨B,n,e,hl,dO ho hb,fun z hzm => (hz z hzm).low hb⟩
def nV (x y : FuM) : Prop:=y.1 = x.1 ∧ y.2.1 = x.2.1 ∧ y.2.2.1.2.1 = x.2.2.1.2.1 ∧ y.2.2.2.length = x.2.2.2.length ∧ ∀ (j : Nat) a b,x.2.2.2[j]? = some a → y.2.2.2[j]? = some b → sk a b
theorem EC (x : FuM) (w : World) (hs : xP w x) :
  Calls Tryz.prog 86 #[.agg #[.int .i64 x.1,.string x.2.1,.slice x.2.2.1.1 x.2.2.1.2.1 x.2.2.1.2.2]] w fun e w' => ∃ y,e = .returned (.agg #[.int .i64 y.1,.string y.2.1,.slice y.2.2.1.1 y.2.2.1.2.1 y.2.2.1.2.2]) ∧ jK w' w.heap.size y ∧ nV x y ∧ Below w.heap.size w w':=by
 have HS:=hid (fun (W : World) (hb : Below w.heap.size w W) => hs.later hb)
 have B1:=aj w (aI x.1 x.2.1 x.2.2.1.1 x.2.2.1.2.1 x.2.2.1.2.2);have B2:=aj (w.alloc (aI x.1 x.2.1 x.2.2.1.1 x.2.2.1.2.1 x.2.2.1.2.2)) (aI 0 ⟨#[]⟩ none 0 0);have b1:=ar B2 (heap_alloc_new w (aI x.1 x.2.1 x.2.2.1.1 x.2.2.1.2.1 x.2.2.1.2.2));have b2 : ((w.alloc (aI x.1 x.2.1 x.2.2.1.1 x.2.2.1.2.1 x.2.2.1.2.2)).alloc (aI 0 ⟨#[]⟩ none 0 0)).heap[w.heap.size + 1]? = some (aI 0 ⟨#[]⟩ none 0 0):=alloc_at ak;have B0 : Below w.heap.size w ((w.alloc (aI x.1 x.2.1 x.2.2.1.1 x.2.2.1.2.1 x.2.2.1.2.2)).alloc (aI 0 ⟨#[]⟩ none 0 0)):=B1.trans (B2.mono ak);have z : ((w.alloc (aI x.1 x.2.1 x.2.2.1.1 x.2.2.1.2.1 x.2.2.1.2.2)).alloc (aI 0 ⟨#[]⟩ none 0 0)).heap.size = w.heap.size + 2:=ak;have HB:=hid (And.intro B0 z);have c2 : ((w.alloc (aI x.1 x.2.1 x.2.2.1.1 x.2.2.1.2.1 x.2.2.1.2.2)).alloc (aI 0 ⟨#[]⟩ none 0 0)).cell? ⟨w.heap.size,2,none⟩ = some (.slice x.2.2.1.1 x.2.2.1.2.1 x.2.2.1.2.2):=ai b1;clear hs B1 B2 B0 z
 go_enter Tryz.func86,Tryz.ntmps86
 go_wp2_with fail;generalize ((w.alloc (aI x.1 x.2.1 x.2.2.1.1 x.2.2.1.2.1 x.2.2.1.2.2)).alloc (aI 0 ⟨#[]⟩ none 0 0)) = W1 at *;refine (Pi x.2.2.1.1 x.2.2.1.2.1 x.2.2.1.2.2 x.2.2.2 W1 (HS.out _ HB.out.1).1 (HS.out _ HB.out.1).2.1 (HS.out _ HB.out.1).2.2).mono ?_;rintro e w1 ⟨ys,rfl,hyl,ho,hwd,hsm,hbel⟩;have HYS:=hid (And.intro hyl (And.intro hwd hsm));clear hyl hwd hsm;have HO:=hid ho;have HBE:=hid hbel;have d1:=ar hbel b1;have d2:=ar hbel b2;have x0 : w1.cell? ⟨w.heap.size,0,none⟩ = some (.int .i64 x.1):=ai d1;have x1 : w1.cell? ⟨w.heap.size,1,none⟩ = some (.string x.2.1):=ai d1;have x2 : w1.cell? ⟨w.heap.size,2,none⟩ = some (.slice x.2.2.1.1 x.2.2.1.2.1 x.2.2.1.2.2):=ai d1;have f2 : w1.frozen? ⟨w.heap.size,2,none⟩ = false:=free_at d1;have y0 : w1.cell? ⟨w.heap.size + 1,0,none⟩ = some (.int .i64 0):=ai d2;have g0 : w1.frozen? ⟨w.heap.size + 1,0,none⟩ = false:=free_at d2;have y1 : w1.cell? ⟨w.heap.size + 1,1,none⟩ = some (.string ⟨#[]⟩):=ai d2;have g1 : w1.frozen? ⟨w.heap.size + 1,1,none⟩ = false:=free_at d2;have y2 : w1.cell? ⟨w.heap.size + 1,2,none⟩ = some (.slice none 0 0):=ai d2;have g2 : w1.frozen? ⟨w.heap.size + 1,2,none⟩ = false:=free_at d2;clear ho hbel c2 b1 b2 d1 d2;go_wp2_with fail;have hz:=HB.out.2
 have hkk : Kept (fun k => w.heap.size ≤ k ∧ k < W1.heap.size) w1 ((((w1.setCell ⟨w.heap.size,2,none⟩ (.slice (some ⟨W1.heap.size,0,none⟩) x.2.2.1.2.1 (x.2.2.1.2.1 + 64))).setCell ⟨w.heap.size + 1,0,none⟩ (.int .i64 x.1)).setCell ⟨w.heap.size + 1,1,none⟩ (.string x.2.1)).setCell ⟨w.heap.size + 1,2,none⟩ (.slice (some ⟨W1.heap.size,0,none⟩) x.2.2.1.2.1 (x.2.2.1.2.1 + 64))):=(((((ay w1 w.heap.size 2 _).mono (fun k hk => ae)).trans ((ay _ (w.heap.size + 1) 0 _).mono (fun k hk => ae))).trans ((ay _ (w.heap.size + 1) 1 _).mono (fun k hk => ae))).trans ((ay _ (w.heap.size + 1) 2 _).mono (fun k hk => ae)))
 have h1 : Below w.heap.size w w1:=HB.out.1.trans (HBE.out.mono HB.out.1.size)
 refine bodyPost_ret (v:=.agg #[.int .i64 x.1,.string x.2.1,.slice (some ⟨W1.heap.size,0,none⟩) x.2.2.1.2.1 (x.2.2.1.2.1 + 64)]) (by simp [results,Tryz.results86,go_sem,y0,y1,y2]) rfl ⟨(x.1,x.2.1,(some ⟨W1.heap.size,0,none⟩,x.2.2.1.2.1,x.2.2.1.2.1 + 64),ys),rfl,⟨_,_,rfl,HYS.out.1,dO (bg HO.out hkk (fun b hb hx => vW)) HB.out.1.size,fun z hz => ((HYS.out.2.1 z hz).stay hkk (fun k hk => .inl ae)).low (by have:=HB.out.1.size; omega)⟩,⟨rfl,rfl,rfl,by rw [HYS.out.1]; exact (HS.out _ HB.out.1).1.1.symm,HYS.out.2.2⟩,h1.trans (hkk.to_below (B:=w.heap.size) h1.size (fun k hk hx => ae))⟩
def jl (n : Nat) : List FuM:=(List.range 64).map fun j => (fun (i : Nat) => ((9437184 + (i : Int) + 1,⟨#[]⟩,(none,0,0),[]) : FuM)) (n + j)
theorem jQ (n : Nat) : (jl n).length = 64:=by simp [jl]
theorem Pt : (Tryz.prog.info? 42).map (fun i => (i.zero,i.size,i.bytes)) = some (some (.agg #[.int .i64 0,.string ⟨#[]⟩,.slice none 0 0]),3,48):=aw
theorem FM (n : Nat) {t : Nat} (h0 : n ≤ t) (h1 : t < n + 64) : (jl n).take (t + 1 - n) = (jl n).take (t - n) ++ [(fun (i : Nat) => ((9437184 + (i : Int) + 1,⟨#[]⟩,(none,0,0),[]) : FuM)) t]:=by
 rw [show t + 1 - n = (t - n) + 1 by omega,List.take_add_one]
 congr 1
 unfold jl;rw [List.getElem?_map,List.getElem?_range ae]
 show [(fun (i : Nat) => ((9437184 + (i : Int) + 1,⟨#[]⟩,(none,0,0),[]) : FuM)) (n + (t - n))] = _
 rw [Nat.add_sub_cancel' h0]
def Sk (l : List FuM) (n : Nat) (w : World) (ys : List FuM) (w' : World) : Prop:=ys.length = n ∧ w'.ownsRow w.heap.size 42 3 (.slice (some ⟨w.heap.size,0,none⟩) (n + 64) (n + 64)) (n + 64) ((ys ++ jl n).flatMap fE) ∧ (∀ y ∈ ys,jK w' (w.heap.size + 1) y) ∧ (∀ (j : Nat) x y,l[j]? = some x → ys[j]? = some y → nV x y) ∧ Below w.heap.size w w'
theorem Ol (a : Option Addr) (n c : Nat) (l : List FuM) (w : World) (h : i7 w a n l) (hn : n ≤ 100000) (hs : ∀ x ∈ l,xP w x) :
  Calls Tryz.prog 47 #[.slice a n c] w fun e w' => ∃ ys,e = .returned (.slice (some ⟨w.heap.size,0,none⟩) n (n + 64)) ∧ Sk l n w ys w':=by
 obtain ⟨i0,hi,hz0,hz1,hz2⟩:=info_parts Pt;have hb2 : i0.bytes * (n + 64) ≤ 281474976710656:=gN;have hml : n + 64 ≤ maxLen:=cG;have hll:=h.1;have HA:=hid h;have HS:=hid hs;clear h hs
 go_enter Tryz.func47,Tryz.ntmps47
 go_wp2_with (first | (at_make; refine wpList_make_full _ rfl _ _ 25 rfl w.heap.size 42 i0 (.agg #[.int .i64 0,.string ⟨#[]⟩,.slice none 0 0]) 3 Tryz.underlying25 hi hz0 hz1 .i64 .i64 _ _ (n + 64) rfl rfl ae ae hb2 hml (Nat.le_refl _) ?_; intro w1 hown hgrow))
 have hZ : (madeCells (Value.agg #[.int .i64 0,.string ⟨#[]⟩,.slice none 0 0]).cells ((n + 64) * 3)).toList.length = (n + 64) * 3:=hown.1;have HF0 : Hid (FLd w 42 3 (n + 64) [] (madeCells (Value.agg #[.int .i64 0,.string ⟨#[]⟩,.slice none 0 0]).cells ((n + 64) * 3)).toList w1):=hid ⟨jb,(Below.refl _ _).grown hgrow (Nat.le_refl _) ak⟩;generalize (madeCells (Value.agg #[.int .i64 0,.string ⟨#[]⟩,.slice none 0 0]).cells ((n + 64) * 3)).toList = Z at *;clear hown hgrow hi hz0 hz1 hz2 hb2 hml
 go_loopw [4] (fun i wr => ∃ (t : Nat) (ys : List FuM),t ≤ n + 64 ∧ i = .int .i64 t ∧ Hid (ys.length = min t n) ∧ Hid (FLd w 42 3 (n + 64) ((ys ++ (jl n).take (t - n)).flatMap fE) Z wr) ∧ Hid ((∀ y ∈ ys,jK wr (w.heap.size + 1) y) ∧ ∀ (j : Nat) x y,l[j]? = some x → ys[j]? = some y → nV x y)) (fun i _ => n + 64 - (intOf i).toNat)
 case atStart => exact ⟨0,[],ae,rfl,hid ak,hid (by simpa using HF0.out),hid ⟨fun y hy => (by cases hy),fun j x y _ hy => by simp at hy⟩⟩
 case round =>
  obtain ⟨t,ys,ht,rfl,HYL,HF,HW⟩:=hrel;clear HF0
  by_cases hlt : t < n + 64
  ·have hlt' : (t : Int) < (n : Int) + 64:=ae
   have hdl : ((ys ++ (jl n).take (t - n)).flatMap fE).length = t * 3:=by
    rw [ji fE 3 (fun _ => rfl),List.length_append,List.length_take,HYL.out,jQ]
    congr 1; omega
   by_cases hkn : t < n
   ·obtain ⟨x,hx⟩ : ∃ x,l[t]? = some x:=⟨_,aN ae⟩;have hkn' : (t : Int) < (n : Int):=ae;obtain ⟨b,off,rfl,hat⟩:=HA.out.2.resolve_left ae;obtain ⟨e0,e1,e2⟩:=hat t x hx;have e0:=ag HF.out.bel e0;have e1:=ag HF.out.bel e1;have e2:=ag HF.out.bel e2;have H1:=hid (EC x wr ((HS.out x (List.mem_of_getElem? hx)).later HF.out.bel));have HXT:=hid hx;clear hat hx;go_wp2_with fail;refine H1.out.mono ?_;rintro e w5 ⟨y,rfl,hwy,hsy,hb5⟩;have HF5:=HF.out.later hb5;have HY:=hid (And.intro hwy hsy);have hls:=HF.out.lt
    obtain ⟨u0,q0⟩:=HF5.cell hZ (show t * 3 < (n + 64) * 3 by omega)
    have r0:=HF5.free (t * 3)
    obtain ⟨u1,q1⟩:=HF5.cell hZ (show t * 3 + 1 < (n + 64) * 3 by omega)
    have r1:=HF5.free (t * 3 + 1)
    obtain ⟨u2,q2⟩:=HF5.cell hZ (show t * 3 + 2 < (n + 64) * 3 by omega)
    have r2:=HF5.free (t * 3 + 2);have P0:=HF5.put (j:=t * 3) hdl ae (.int .i64 y.1);have P1:=P0.put (j:=t * 3 + 1) dM ae (.string y.2.1);have P2:=P1.put (j:=t * 3 + 2) dM ae (.slice y.2.2.1.1 y.2.2.1.2.1 y.2.2.1.2.2)
    have hkk : Kept (fun k => k = w.heap.size) w5 (((w5.setCell ⟨w.heap.size,t * 3,none⟩ (.int .i64 y.1)).setCell ⟨w.heap.size,t * 3 + 1,none⟩ (.string y.2.1)).setCell ⟨w.heap.size,t * 3 + 2,none⟩ (.slice y.2.2.1.1 y.2.2.1.2.1 y.2.2.1.2.2)):=(((ay w5 w.heap.size (t * 3) (.int .i64 y.1)).trans (ay _ w.heap.size (t * 3 + 1) (.string y.2.1))).trans (ay _ w.heap.size (t * 3 + 2) (.slice y.2.2.1.1 y.2.2.1.2.1 y.2.2.1.2.2)))
    have hyl:=HYL.out;have ht0 : t - n = 0:=ae;have ht1 : t + 1 - n = 0:=ae
    have HN : Hid (FLd w 42 3 (n + 64) (((ys ++ [y]) ++ (jl n).take (t + 1 - n)).flatMap fE) Z _):=hid (by rw [ht1]; rw [ht0] at P2; simpa [fE,List.flatMap_append] using P2)
    have HN1:=hid (show (ys ++ [y]).length = min (t + 1) n by rw [List.length_append,hyl]; simp; omega)
    have HN2 : Hid ((∀ z ∈ ys ++ [y],jK _ (w.heap.size + 1) z) ∧ ∀ (j : Nat) x z,l[j]? = some x → (ys ++ [y])[j]? = some z → nV x z):=hid ⟨fun z hz => by
      rcases List.mem_append.1 hz with hz | hz
      ·exact uk
      ·obtain rfl : z = y:=nO
       exact (HY.out.1.low ae).stay hkk (fun k hk => .inl ae),fun j x2 z hj hz => by
      by_cases hjt : j < ys.length
      ·exact tH
      ·have hjl:=ax hz
       simp at hjl
       have hje : j = t:=ae;subst hje
       rw [List.getElem?_append_right ae,show j - ys.length = 0 by omega] at hz
       obtain rfl : y = z:=nO;rw [HXT.out] at hj;obtain rfl : x = x2:=nY;exact HY.out.2⟩
    exact Lv
   ·have hkn' : ¬ (t : Int) < (n : Int):=ae;have hls:=HF.out.lt
    obtain ⟨u0,q0⟩:=HF.out.cell hZ (show t * 3 < (n + 64) * 3 by omega)
    have r0:=HF.out.free (t * 3)
    obtain ⟨u1,q1⟩:=HF.out.cell hZ (show t * 3 + 1 < (n + 64) * 3 by omega)
    have r1:=HF.out.free (t * 3 + 1)
    obtain ⟨u2,q2⟩:=HF.out.cell hZ (show t * 3 + 2 < (n + 64) * 3 by omega)
    have r2:=HF.out.free (t * 3 + 2);have P0:=HF.out.put (j:=t * 3) hdl ae (.int .i64 (9437184 + (t : Int) + 1));have P1:=P0.put (j:=t * 3 + 1) dM ae (.string ⟨#[]⟩);have P2:=P1.put (j:=t * 3 + 2) dM ae (.slice none 0 0)
    have hkk : Kept (fun k => k = w.heap.size) wr (((wr.setCell ⟨w.heap.size,t * 3,none⟩ (.int .i64 (9437184 + (t : Int) + 1))).setCell ⟨w.heap.size,t * 3 + 1,none⟩ (.string ⟨#[]⟩)).setCell ⟨w.heap.size,t * 3 + 2,none⟩ (.slice none 0 0)):=(((ay wr w.heap.size (t * 3) (.int .i64 (9437184 + (t : Int) + 1))).trans (ay _ w.heap.size (t * 3 + 1) (.string ⟨#[]⟩))).trans (ay _ w.heap.size (t * 3 + 2) (.slice none 0 0)))
    have hmt:=FM n (show n ≤ t by omega) hlt
    have HN : Hid (FLd w 42 3 (n + 64) ((ys ++ (jl n).take (t + 1 - n)).flatMap fE) Z _):=hid (by rw [hmt]; simpa [fE,List.flatMap_append] using P2)
    have HN1:=hid (show ys.length = min (t + 1) n by rw [HYL.out]; omega)
    have HN2 : Hid ((∀ z ∈ ys,jK _ (w.heap.size + 1) z) ∧ ∀ (j : Nat) x z,l[j]? = some x → ys[j]? = some z → nV x z):=hid ⟨fun z hz => (HW.out.1 z hz).stay hkk (fun k hk => .inl ae),HW.out.2⟩
    exact JU
  ·obtain rfl : t = n + 64:=ae;have hlt' : ¬ ((n + 64 : Nat) : Int) < (n : Int) + 64:=ae;go_wp2_with fail;go_ret
   have hyl : ys.length = n:=by rw [HYL.out]; omega
   have hmm : (jl n).take (n + 64 - n) = jl n:=List.take_of_length_le (by rw [jQ]; omega)
   have hff:=HF.out;rw [hmm] at hff
   have hff:=hff.full (by rw [hZ,ji fE 3 (fun _ => rfl),List.length_append,hyl,jQ])
   first
    | exact ⟨rfl,ys,hyl,hff,HW.out.1,HW.out.2,HF.out.bel⟩
    | exact ⟨ys,rfl,hyl,hff,HW.out.1,HW.out.2,HF.out.bel⟩
end Go.Proofs.YtepnnenohjfkbaaGreatDoor

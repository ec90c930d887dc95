/-
  Texts Qf.
-/
import Derived.Test.YtheefojaplnnoaaGreatDoorP00
import Derived.Test.YtheefojaplnnoaaGreatDoorP21
set_option linter.unusedVariables false
set_option maxRecDepth 100000
set_option maxHeartbeats 16000000
namespace Go.Proofs.YtheefojaplnnoaaGreatDoor
open Go.RowKit
def cM (y : InM) : List Value:=[.int .u8 y.1,.int .i64 y.2.1,.slice y.2.2.1.1 y.2.2.1.2.1 y.2.2.1.2.2]
def mG (w : World) (x : InM) : Prop:=i6 w x.2.2.1.1 x.2.2.1.2.1 x.2.2.2 ∧ x.2.2.1.2.1 ≤ 200000
def lJ (w : World) (x : DaM) : Prop:=qK w x.2.1.1 x.2.1.2.1 x.2.2 ∧ x.2.1.2.1 ≤ 1000000
def lG (w : World) (x : FuM) : Prop:=fO w x.2.2.1.1 x.2.2.1.2.1 x.2.2.2 ∧ x.2.2.1.2.1 ≤ 200000 ∧ ∀ y ∈ x.2.2.2,mG w y
theorem qK.kept {S : Nat → Prop} {w w' : World} {a : Option Addr} {n : Nat} {xs : List Int} (h : qK w a n xs) (hk : aJ S w w') (hS : ∀ b off c,a = some ⟨b,off,c⟩ → ¬ S b) : qK w' a n xs :=
 ⟨h.1,h.2.imp id fun ⟨b,off,ha,hc⟩ => ⟨b,off,ha,fun j x hj => hk.cell (hc j x hj) (hS _ _ _ ha)⟩⟩
theorem mG.later {w w' : World} {x : InM} (h : mG w x) (hb : Below w.heap.size w w') : mG w' x:=⟨h.1.kept (az hb) (fun _ _ _ _ => id),h.2⟩
theorem lJ.later {w w' : World} {x : DaM} (h : lJ w x) (hb : Below w.heap.size w w') : lJ w' x:=⟨h.1.kept (az hb) (fun _ _ _ _ => id),h.2⟩
theorem lG.later {w w' : World} {x : FuM} (h : lG w x) (hb : Below w.heap.size w w') : lG w' x:=⟨h.1.kept (az hb) (fun _ _ _ _ => id),h.2.1,fun y hy => (h.2.2 y hy).later hb⟩
def lf (w : World) (base : Nat) (y : InM) : Prop:=∃ B n,y.2.2.1 = (some ⟨B,0,none⟩,n,n + 64) ∧ y.2.2.2.length = n ∧ w.ownsRow base 3 1 (.slice (some ⟨B,0,none⟩) (n + 64) (n + 64)) (n + 64) ((y.2.2.2 ++ iX n).flatMap dR)
def jU (w : World) (base : Nat) (y : DaM) : Prop:=∃ B n,y.2.1 = (some ⟨B,0,none⟩,n,n + 64) ∧ y.2.2.length = n ∧ w.ownsRow base 5 1 (.slice (some ⟨B,0,none⟩) (n + 64) (n + 64)) (n + 64) ((y.2.2 ++ js n).flatMap iw)
theorem lf.stay {S : Nat → Prop} {w w' : World} {base : Nat} {y : InM} (h : lf w base y) (hk : aJ S w w') (hS : ∀ k,S k → k < base ∨ w.heap.size ≤ k) : lf w' base y:=by
 exact zZ
theorem jU.stay {S : Nat → Prop} {w w' : World} {base : Nat} {y : DaM} (h : jU w base y) (hk : aJ S w w') (hS : ∀ k,S k → k < base ∨ w.heap.size ≤ k) : jU w' base y:=by
 exact zZ
theorem lf.low {w : World} {base base' : Nat} {y : InM} (h : lf w base y) (hb : base' ≤ base) : lf w base' y:=by
 obtain ⟨B,n,e,hl,ho⟩:=h;exact ⟨B,n,e,hl,eo ho hb⟩
theorem jU.low {w : World} {base base' : Nat} {y : DaM} (h : jU w base y) (hb : base' ≤ base) : jU w base' y:=by
 obtain ⟨B,n,e,hl,ho⟩:=h;exact ⟨B,n,e,hl,eo ho hb⟩
def mY (x y : InM) : Prop:=y.1 = x.1 ∧ y.2.1 = x.2.1 ∧ y.2.2.1.2.1 = x.2.2.1.2.1 ∧ y.2.2.2 = x.2.2.2
def kY (x y : DaM) : Prop:=y.1 = x.1 ∧ y.2.1.2.1 = x.2.1.2.1 ∧ y.2.2 = x.2.2
theorem CC (x : InM) (w : World) (hs : mG w x) :
  Calls Tryz.prog 201 #[.agg #[.int .u8 x.1,.int .i64 x.2.1,.slice x.2.2.1.1 x.2.2.1.2.1 x.2.2.1.2.2]] w fun e w' => ∃ y,e = .returned (.agg #[.int .u8 y.1,.int .i64 y.2.1,.slice y.2.2.1.1 y.2.2.1.2.1 y.2.2.1.2.2]) ∧ lf w' w.heap.size y ∧ mY x y ∧ Below w.heap.size w w':=by
 have HS:=hid (fun (W : World) (hb : Below w.heap.size w W) => hs.later hb)
 have B1:=ak w (aH x.1 x.2.1 x.2.2.1.1 x.2.2.1.2.1 x.2.2.1.2.2);have B2:=ak (w.alloc (aH x.1 x.2.1 x.2.2.1.1 x.2.2.1.2.1 x.2.2.1.2.2)) (aH 0 0 none 0 0);have b1:=ar B2 (heap_alloc_new w (aH x.1 x.2.1 x.2.2.1.1 x.2.2.1.2.1 x.2.2.1.2.2));have b2 : ((w.alloc (aH x.1 x.2.1 x.2.2.1.1 x.2.2.1.2.1 x.2.2.1.2.2)).alloc (aH 0 0 none 0 0)).heap[w.heap.size + 1]? = some (aH 0 0 none 0 0):=jm aq;have B0 : Below w.heap.size w ((w.alloc (aH x.1 x.2.1 x.2.2.1.1 x.2.2.1.2.1 x.2.2.1.2.2)).alloc (aH 0 0 none 0 0)):=B1.trans (B2.mono aq);have z : ((w.alloc (aH x.1 x.2.1 x.2.2.1.1 x.2.2.1.2.1 x.2.2.1.2.2)).alloc (aH 0 0 none 0 0)).heap.size = w.heap.size + 2:=aq;have HB:=hid (And.intro B0 z);have c2 : ((w.alloc (aH x.1 x.2.1 x.2.2.1.1 x.2.2.1.2.1 x.2.2.1.2.2)).alloc (aH 0 0 none 0 0)).cell? ⟨w.heap.size,2,none⟩ = some (.slice x.2.2.1.1 x.2.2.1.2.1 x.2.2.1.2.2):=ag b1;clear hs B1 B2 B0 z
 go_enter Tryz.func201,Tryz.ntmps201
 go_wp2_with fail;generalize ((w.alloc (aH x.1 x.2.1 x.2.2.1.1 x.2.2.1.2.1 x.2.2.1.2.2)).alloc (aH 0 0 none 0 0)) = W1 at *
 refine (Hj 0 x.2.2.1.1 x.2.2.1.2.1 x.2.2.1.2.2 x.2.2.2 W1 (HS.out _ HB.out.1).1 (by have:=(HS.out _ HB.out.1).2; omega)).mono ?_
 rintro e w1 ⟨rfl,ho,hbel⟩;have HO:=hid ho;have HBE:=hid hbel;have d1:=ar hbel b1;have d2:=ar hbel b2;have x0 : w1.cell? ⟨w.heap.size,0,none⟩ = some (.int .u8 x.1):=ag d1;have x1 : w1.cell? ⟨w.heap.size,1,none⟩ = some (.int .i64 x.2.1):=ag d1;have x2 : w1.cell? ⟨w.heap.size,2,none⟩ = some (.slice x.2.2.1.1 x.2.2.1.2.1 x.2.2.1.2.2):=ag d1;have f2 : w1.frozen? ⟨w.heap.size,2,none⟩ = false:=aU d1;have y0 : w1.cell? ⟨w.heap.size + 1,0,none⟩ = some (.int .u8 0):=ag d2;have g0 : w1.frozen? ⟨w.heap.size + 1,0,none⟩ = false:=aU d2;have y1 : w1.cell? ⟨w.heap.size + 1,1,none⟩ = some (.int .i64 0):=ag d2;have g1 : w1.frozen? ⟨w.heap.size + 1,1,none⟩ = false:=aU d2;have y2 : w1.cell? ⟨w.heap.size + 1,2,none⟩ = some (.slice none 0 0):=ag d2;have g2 : w1.frozen? ⟨w.heap.size + 1,2,none⟩ = false:=aU d2;clear ho hbel c2 b1 b2 d1 d2;go_wp2_with fail;have hz:=HB.out.2
 have hkk : aJ (fun k => w.heap.size ≤ k ∧ k < W1.heap.size) w1 ((((w1.setCell ⟨w.heap.size,2,none⟩ (.slice (some ⟨W1.heap.size,0,none⟩) x.2.2.1.2.1 (x.2.2.1.2.1 + 64))).setCell ⟨w.heap.size + 1,0,none⟩ (.int .u8 x.1)).setCell ⟨w.heap.size + 1,1,none⟩ (.int .i64 x.2.1)).setCell ⟨w.heap.size + 1,2,none⟩ (.slice (some ⟨W1.heap.size,0,none⟩) x.2.2.1.2.1 (x.2.2.1.2.1 + 64))):=(((((aw w1 w.heap.size 2 _).mono (fun k hk => ae)).trans ((aw _ (w.heap.size + 1) 0 _).mono (fun k hk => ae))).trans ((aw _ (w.heap.size + 1) 1 _).mono (fun k hk => ae))).trans ((aw _ (w.heap.size + 1) 2 _).mono (fun k hk => ae)))
 have h1 : Below w.heap.size w w1:=HB.out.1.trans (HBE.out.mono HB.out.1.size)
 refine bodyPost_ret (v:=.agg #[.int .u8 x.1,.int .i64 x.2.1,.slice (some ⟨W1.heap.size,0,none⟩) x.2.2.1.2.1 (x.2.2.1.2.1 + 64)]) (by simp [results,Tryz.results201,go_sem,y0,y1,y2]) rfl ⟨(x.1,x.2.1,(some ⟨W1.heap.size,0,none⟩,x.2.2.1.2.1,x.2.2.1.2.1 + 64),x.2.2.2),rfl,⟨_,_,rfl,(HS.out _ HB.out.1).1.1,eo (aW HO.out hkk (fun b hb hx => yu)) HB.out.1.size⟩,⟨rfl,rfl,rfl,rfl⟩,h1.trans (hkk.to_below (B:=w.heap.size) h1.size (fun k hk hx => ae))⟩
def jJ (n : Nat) : List InM:=(List.range 64).map fun j => (fun (i : Nat) => ((0,9437184 + (i : Int) + 1,(none,0,0),[]) : InM)) (n + j)
theorem ke (n : Nat) : (jJ n).length = 64:=by simp [jJ]
theorem Me : (Tryz.prog.info? 75).map (fun i => (i.zero,i.size,i.bytes)) = some (some (.agg #[.int .u8 0,.int .i64 0,.slice none 0 0]),3,40):=aj
theorem CU (n : Nat) {t : Nat} (h0 : n ≤ t) (h1 : t < n + 64) : (jJ n).take (t + 1 - n) = (jJ n).take (t - n) ++ [(fun (i : Nat) => ((0,9437184 + (i : Int) + 1,(none,0,0),[]) : InM)) t]:=by
 rw [show t + 1 - n = (t - n) + 1 by omega,List.take_add_one]
 congr 1
 unfold jJ;rw [List.getElem?_map,List.getElem?_range ae]
 show [(fun (i : Nat) => ((0,9437184 + (i : Int) + 1,(none,0,0),[]) : InM)) (n + (t - n))] = _
 rw [Nat.add_sub_cancel' h0]
def Pz (l : List InM) (n : Nat) (w : World) (ys : List InM) (w' : World) : Prop:=ys.length = n ∧ w'.ownsRow w.heap.size 75 3 (.slice (some ⟨w.heap.size,0,none⟩) (n + 64) (n + 64)) (n + 64) ((ys ++ jJ n).flatMap cM) ∧ (∀ y ∈ ys,lf w' (w.heap.size + 1) y) ∧ (∀ (j : Nat) x y,l[j]? = some x → ys[j]? = some y → mY x y) ∧ Below w.heap.size w w'
theorem NF (a : Option Addr) (n c : Nat) (l : List InM) (w : World) (h : fO w a n l) (hn : n ≤ 200000) (hs : ∀ x ∈ l,mG w x) :
  Calls Tryz.prog 150 #[.slice a n c] w fun e w' => ∃ ys,e = .returned (.slice (some ⟨w.heap.size,0,none⟩) n (n + 64)) ∧ Pz l n w ys w':=by
 obtain ⟨i0,hi,hz0,hz1,hz2⟩:=info_parts Me;have hb2 : i0.bytes * (n + 64) ≤ 281474976710656:=iV;have hml : n + 64 ≤ maxLen:=bU;have hll:=h.1;have HA:=hid h;have HS:=hid hs;clear h hs
 go_enter Tryz.func150,Tryz.ntmps150
 go_wp2_with (first | (at_make; refine wpList_make_full _ rfl _ _ 76 rfl w.heap.size 75 i0 (.agg #[.int .u8 0,.int .i64 0,.slice none 0 0]) 3 Tryz.underlying76 hi hz0 hz1 .i64 .i64 _ _ (n + 64) rfl rfl ae ae hb2 hml (Nat.le_refl _) ?_; intro w1 hown hgrow))
 have hZ : (madeCells (Value.agg #[.int .u8 0,.int .i64 0,.slice none 0 0]).cells ((n + 64) * 3)).toList.length = (n + 64) * 3:=hown.1;have HF0 : Hid (FLd w 75 3 (n + 64) [] (madeCells (Value.agg #[.int .u8 0,.int .i64 0,.slice none 0 0]).cells ((n + 64) * 3)).toList w1):=hid ⟨jy,(Below.refl _ _).grown hgrow (Nat.le_refl _) aq⟩;generalize (madeCells (Value.agg #[.int .u8 0,.int .i64 0,.slice none 0 0]).cells ((n + 64) * 3)).toList = Z at *;clear hown hgrow hi hz0 hz1 hz2 hb2 hml
 go_loopw [4] (fun i wr => ∃ (t : Nat) (ys : List InM),t ≤ n + 64 ∧ i = .int .i64 t ∧ Hid (ys.length = min t n) ∧ Hid (FLd w 75 3 (n + 64) ((ys ++ (jJ n).take (t - n)).flatMap cM) Z wr) ∧ Hid ((∀ y ∈ ys,lf wr (w.heap.size + 1) y) ∧ ∀ (j : Nat) x y,l[j]? = some x → ys[j]? = some y → mY x y)) (fun i _ => n + 64 - (intOf i).toNat)
 case atStart => exact ⟨0,[],ae,rfl,hid aq,hid (by simpa using HF0.out),hid ⟨fun y hy => (by cases hy),fun j x y _ hy => by simp at hy⟩⟩
 case round =>
  obtain ⟨t,ys,ht,rfl,HYL,HF,HW⟩:=hrel;clear HF0
  by_cases hlt : t < n + 64
  ·have hlt' : (t : Int) < (n : Int) + 64:=ae
   have hdl : ((ys ++ (jJ n).take (t - n)).flatMap cM).length = t * 3:=by
    rw [gu cM 3 (fun _ => rfl),List.length_append,List.length_take,HYL.out,ke]
    congr 1; omega
   by_cases hkn : t < n
   ·obtain ⟨x,hx⟩ : ∃ x,l[t]? = some x:=⟨_,aN ae⟩;have hkn' : (t : Int) < (n : Int):=ae;obtain ⟨b,off,rfl,hat⟩:=HA.out.2.resolve_left ae;obtain ⟨e0,e1,e2⟩:=hat t x hx;have e0:=ai HF.out.bel e0;have e1:=ai HF.out.bel e1;have e2:=ai HF.out.bel e2;have H1:=hid (CC x wr ((HS.out x (List.mem_of_getElem? hx)).later HF.out.bel));have HXT:=hid hx;clear hat hx;go_wp2_with fail;refine H1.out.mono ?_;rintro e w5 ⟨y,rfl,hwy,hsy,hb5⟩;have HF5:=HF.out.later hb5;have HY:=hid (And.intro hwy hsy);have hls:=HF.out.lt
    obtain ⟨u0,q0⟩:=HF5.cell hZ (show t * 3 < (n + 64) * 3 by omega)
    have r0:=HF5.free (t * 3)
    obtain ⟨u1,q1⟩:=HF5.cell hZ (show t * 3 + 1 < (n + 64) * 3 by omega)
    have r1:=HF5.free (t * 3 + 1)
    obtain ⟨u2,q2⟩:=HF5.cell hZ (show t * 3 + 2 < (n + 64) * 3 by omega)
    have r2:=HF5.free (t * 3 + 2);have P0:=HF5.put (j:=t * 3) hdl ae (.int .u8 y.1);have P1:=P0.put (j:=t * 3 + 1) dZ ae (.int .i64 y.2.1);have P2:=P1.put (j:=t * 3 + 2) dZ ae (.slice y.2.2.1.1 y.2.2.1.2.1 y.2.2.1.2.2)
    have hkk : aJ (fun k => k = w.heap.size) w5 (((w5.setCell ⟨w.heap.size,t * 3,none⟩ (.int .u8 y.1)).setCell ⟨w.heap.size,t * 3 + 1,none⟩ (.int .i64 y.2.1)).setCell ⟨w.heap.size,t * 3 + 2,none⟩ (.slice y.2.2.1.1 y.2.2.1.2.1 y.2.2.1.2.2)):=(((aw w5 w.heap.size (t * 3) (.int .u8 y.1)).trans (aw _ w.heap.size (t * 3 + 1) (.int .i64 y.2.1))).trans (aw _ w.heap.size (t * 3 + 2) (.slice y.2.2.1.1 y.2.2.1.2.1 y.2.2.1.2.2)))
    have hyl:=HYL.out;have ht0 : t - n = 0:=ae;have ht1 : t + 1 - n = 0:=ae
    have HN : Hid (FLd w 75 3 (n + 64) (((ys ++ [y]) ++ (jJ n).take (t + 1 - n)).flatMap cM) Z _):=hid (by rw [ht1]; rw [ht0] at P2; simpa [cM,List.flatMap_append] using P2)
    have HN1:=hid (show (ys ++ [y]).length = min (t + 1) n by rw [List.length_append,hyl]; simp; omega)
    have HN2 : Hid ((∀ z ∈ ys ++ [y],lf _ (w.heap.size + 1) z) ∧ ∀ (j : Nat) x z,l[j]? = some x → (ys ++ [y])[j]? = some z → mY x z):=hid ⟨fun z hz => by
      rcases List.mem_append.1 hz with hz | hz
      ·exact sU
      ·obtain rfl : z = y:=nS
       exact (HY.out.1.low ae).stay hkk (fun k hk => .inl ae),fun j x2 z hj hz => by
      by_cases hjt : j < ys.length
      ·exact sL
      ·have hjl:=aA hz
       simp at hjl
       have hje : j = t:=ae;subst hje
       rw [List.getElem?_append_right ae,show j - ys.length = 0 by omega] at hz
       obtain rfl : y = z:=nS;rw [HXT.out] at hj;obtain rfl : x = x2:=nC;exact HY.out.2⟩
    exact Hc
   ·have hkn' : ¬ (t : Int) < (n : Int):=ae;have hls:=HF.out.lt
    obtain ⟨u0,q0⟩:=HF.out.cell hZ (show t * 3 < (n + 64) * 3 by omega)
    have r0:=HF.out.free (t * 3)
    obtain ⟨u1,q1⟩:=HF.out.cell hZ (show t * 3 + 1 < (n + 64) * 3 by omega)
    have r1:=HF.out.free (t * 3 + 1)
    obtain ⟨u2,q2⟩:=HF.out.cell hZ (show t * 3 + 2 < (n + 64) * 3 by omega)
    have r2:=HF.out.free (t * 3 + 2);have P0:=HF.out.put (j:=t * 3) hdl ae (.int .u8 0);have P1:=P0.put (j:=t * 3 + 1) dZ ae (.int .i64 (9437184 + (t : Int) + 1));have P2:=P1.put (j:=t * 3 + 2) dZ ae (.slice none 0 0)
    have hkk : aJ (fun k => k = w.heap.size) wr (((wr.setCell ⟨w.heap.size,t * 3,none⟩ (.int .u8 0)).setCell ⟨w.heap.size,t * 3 + 1,none⟩ (.int .i64 (9437184 + (t : Int) + 1))).setCell ⟨w.heap.size,t * 3 + 2,none⟩ (.slice none 0 0)):=(((aw wr w.heap.size (t * 3) (.int .u8 0)).trans (aw _ w.heap.size (t * 3 + 1) (.int .i64 (9437184 + (t : Int) + 1)))).trans (aw _ w.heap.size (t * 3 + 2) (.slice none 0 0)))
    have hmt:=CU n (show n ≤ t by omega) hlt
    have HN : Hid (FLd w 75 3 (n + 64) ((ys ++ (jJ n).take (t + 1 - n)).flatMap cM) Z _):=hid (by rw [hmt]; simpa [cM,List.flatMap_append] using P2)
    have HN1:=hid (show ys.length = min (t + 1) n by rw [HYL.out]; omega)
    have HN2 : Hid ((∀ z ∈ ys,lf _ (w.heap.size + 1) z) ∧ ∀ (j : Nat) x z,l[j]? = some x → ys[j]? = some z → mY x z):=hid ⟨fun z hz => (HW.out.1 z hz).stay hkk (fun k hk => .inl ae),HW.out.2⟩
    exact Fu
  ·obtain rfl : t = n + 64:=ae;have hlt' : ¬ ((n + 64 : Nat) : Int) < (n : Int) + 64:=ae;go_wp2_with fail;go_ret
   have hyl : ys.length = n:=by rw [HYL.out]; omega
   have hmm : (jJ n).take (n + 64 - n) = jJ n:=List.take_of_length_le (by rw [ke]; omega)
   have hff:=HF.out;rw [hmm] at hff
   have hff:=hff.full (by rw [hZ,gu cM 3 (fun _ => rfl),List.length_append,hyl,ke])
   first
    | exact ⟨rfl,ys,hyl,hff,HW.out.1,HW.out.2,HF.out.bel⟩
    | exact ⟨ys,rfl,hyl,hff,HW.out.1,HW.out.2,HF.out.bel⟩
theorem C8 (x : DaM) (w : World) (hs : lJ w x) :
  Calls Tryz.prog 91 #[.agg #[.int .i64 x.1,.slice x.2.1.1 x.2.1.2.1 x.2.1.2.2]] w fun e w' => ∃ y,e = .returned (.agg #[.int .i64 y.1,.slice y.2.1.1 y.2.1.2.1 y.2.1.2.2]) ∧ jU w' w.heap.size y ∧ kY x y ∧ Below w.heap.size w w':=by
 have HS:=hid (fun (W : World) (hb : Below w.heap.size w W) => hs.later hb)
 have B1:=ak w (bh x.1 x.2.1.1 x.2.1.2.1 x.2.1.2.2);have B2:=ak (w.alloc (bh x.1 x.2.1.1 x.2.1.2.1 x.2.1.2.2)) (bh 0 none 0 0);have b1:=ar B2 (heap_alloc_new w (bh x.1 x.2.1.1 x.2.1.2.1 x.2.1.2.2));have b2 : ((w.alloc (bh x.1 x.2.1.1 x.2.1.2.1 x.2.1.2.2)).alloc (bh 0 none 0 0)).heap[w.heap.size + 1]? = some (bh 0 none 0 0):=jm aq;have B0 : Below w.heap.size w ((w.alloc (bh x.1 x.2.1.1 x.2.1.2.1 x.2.1.2.2)).alloc (bh 0 none 0 0)):=B1.trans (B2.mono aq);have z : ((w.alloc (bh x.1 x.2.1.1 x.2.1.2.1 x.2.1.2.2)).alloc (bh 0 none 0 0)).heap.size = w.heap.size + 2:=aq;have HB:=hid (And.intro B0 z);have c2 : ((w.alloc (bh x.1 x.2.1.1 x.2.1.2.1 x.2.1.2.2)).alloc (bh 0 none 0 0)).cell? ⟨w.heap.size,1,none⟩ = some (.slice x.2.1.1 x.2.1.2.1 x.2.1.2.2):=ag b1;clear hs B1 B2 B0 z
 go_enter Tryz.func91,Tryz.ntmps91
 go_wp2_with fail;generalize ((w.alloc (bh x.1 x.2.1.1 x.2.1.2.1 x.2.1.2.2)).alloc (bh 0 none 0 0)) = W1 at *;refine (NA 0 x.2.1.1 x.2.1.2.1 x.2.1.2.2 x.2.2 W1 (HS.out _ HB.out.1).1 (HS.out _ HB.out.1).2).mono ?_;rintro e w1 ⟨rfl,ho,hbel⟩;have HO:=hid ho;have HBE:=hid hbel;have d1:=ar hbel b1;have d2:=ar hbel b2;have x0 : w1.cell? ⟨w.heap.size,0,none⟩ = some (.int .i64 x.1):=ag d1;have x1 : w1.cell? ⟨w.heap.size,1,none⟩ = some (.slice x.2.1.1 x.2.1.2.1 x.2.1.2.2):=ag d1;have f1 : w1.frozen? ⟨w.heap.size,1,none⟩ = false:=aU d1;have y0 : w1.cell? ⟨w.heap.size + 1,0,none⟩ = some (.int .i64 0):=ag d2;have g0 : w1.frozen? ⟨w.heap.size + 1,0,none⟩ = false:=aU d2;have y1 : w1.cell? ⟨w.heap.size + 1,1,none⟩ = some (.slice none 0 0):=ag d2;have g1 : w1.frozen? ⟨w.heap.size + 1,1,none⟩ = false:=aU d2;clear ho hbel c2 b1 b2 d1 d2;go_wp2_with fail;have hz:=HB.out.2
 have hkk : aJ (fun k => w.heap.size ≤ k ∧ k < W1.heap.size) w1 (((w1.setCell ⟨w.heap.size,1,none⟩ (.slice (some ⟨W1.heap.size,0,none⟩) x.2.1.2.1 (x.2.1.2.1 + 64))).setCell ⟨w.heap.size + 1,0,none⟩ (.int .i64 x.1)).setCell ⟨w.heap.size + 1,1,none⟩ (.slice (some ⟨W1.heap.size,0,none⟩) x.2.1.2.1 (x.2.1.2.1 + 64))):=((((aw w1 w.heap.size 1 _).mono (fun k hk => ae)).trans ((aw _ (w.heap.size + 1) 0 _).mono (fun k hk => ae))).trans ((aw _ (w.heap.size + 1) 1 _).mono (fun k hk => ae)))
 have h1 : Below w.heap.size w w1:=HB.out.1.trans (HBE.out.mono HB.out.1.size)
 refine bodyPost_ret (v:=.agg #[.int .i64 x.1,.slice (some ⟨W1.heap.size,0,none⟩) x.2.1.2.1 (x.2.1.2.1 + 64)]) (by simp [results,Tryz.results91,go_sem,y0,y1]) rfl ⟨(x.1,(some ⟨W1.heap.size,0,none⟩,x.2.1.2.1,x.2.1.2.1 + 64),x.2.2),rfl,⟨_,_,rfl,(HS.out _ HB.out.1).1.1,eo (aW HO.out hkk (fun b hb hx => yu)) HB.out.1.size⟩,⟨rfl,rfl,rfl⟩,h1.trans (hkk.to_below (B:=w.heap.size) h1.size (fun k hk hx => ae))⟩
def jN (n : Nat) : List DaM:=(List.range 64).map fun j => (fun (i : Nat) => ((9437184 + (i : Int) + 1,(none,0,0),[]) : DaM)) (n + j)
theorem ku (n : Nat) : (jN n).length = 64:=by simp [jN]
theorem My : (Tryz.prog.info? 81).map (fun i => (i.zero,i.size,i.bytes)) = some (some (.agg #[.int .i64 0,.slice none 0 0]),2,32):=aj
theorem CM (n : Nat) {t : Nat} (h0 : n ≤ t) (h1 : t < n + 64) : (jN n).take (t + 1 - n) = (jN n).take (t - n) ++ [(fun (i : Nat) => ((9437184 + (i : Int) + 1,(none,0,0),[]) : DaM)) t]:=by
 rw [show t + 1 - n = (t - n) + 1 by omega,List.take_add_one]
 congr 1
 unfold jN;rw [List.getElem?_map,List.getElem?_range ae]
 show [(fun (i : Nat) => ((9437184 + (i : Int) + 1,(none,0,0),[]) : DaM)) (n + (t - n))] = _
 rw [Nat.add_sub_cancel' h0]
def PU (l : List DaM) (n : Nat) (w : World) (ys : List DaM) (w' : World) : Prop:=ys.length = n ∧ w'.ownsRow w.heap.size 81 2 (.slice (some ⟨w.heap.size,0,none⟩) (n + 64) (n + 64)) (n + 64) ((ys ++ jN n).flatMap fY) ∧ (∀ y ∈ ys,jU w' (w.heap.size + 1) y) ∧ (∀ (j : Nat) x y,l[j]? = some x → ys[j]? = some y → kY x y) ∧ Below w.heap.size w w'
theorem LZ (a : Option Addr) (n c : Nat) (l : List DaM) (w : World) (h : jn w a n l) (hn : n ≤ 200000) (hs : ∀ x ∈ l,lJ w x) :
  Calls Tryz.prog 29 #[.slice a n c] w fun e w' => ∃ ys,e = .returned (.slice (some ⟨w.heap.size,0,none⟩) n (n + 64)) ∧ PU l n w ys w':=by
 obtain ⟨i0,hi,hz0,hz1,hz2⟩:=info_parts My;have hb2 : i0.bytes * (n + 64) ≤ 281474976710656:=iV;have hml : n + 64 ≤ maxLen:=bU;have hll:=h.1;have HA:=hid h;have HS:=hid hs;clear h hs
 go_enter Tryz.func29,Tryz.ntmps29
 go_wp2_with (first | (at_make; refine wpList_make_full _ rfl _ _ 26 rfl w.heap.size 81 i0 (.agg #[.int .i64 0,.slice none 0 0]) 2 Tryz.underlying26 hi hz0 hz1 .i64 .i64 _ _ (n + 64) rfl rfl ae ae hb2 hml (Nat.le_refl _) ?_; intro w1 hown hgrow))
 have hZ : (madeCells (Value.agg #[.int .i64 0,.slice none 0 0]).cells ((n + 64) * 2)).toList.length = (n + 64) * 2:=hown.1;have HF0 : Hid (FLd w 81 2 (n + 64) [] (madeCells (Value.agg #[.int .i64 0,.slice none 0 0]).cells ((n + 64) * 2)).toList w1):=hid ⟨jy,(Below.refl _ _).grown hgrow (Nat.le_refl _) aq⟩;generalize (madeCells (Value.agg #[.int .i64 0,.slice none 0 0]).cells ((n + 64) * 2)).toList = Z at *;clear hown hgrow hi hz0 hz1 hz2 hb2 hml
 go_loopw [4] (fun i wr => ∃ (t : Nat) (ys : List DaM),t ≤ n + 64 ∧ i = .int .i64 t ∧ Hid (ys.length = min t n) ∧ Hid (FLd w 81 2 (n + 64) ((ys ++ (jN n).take (t - n)).flatMap fY) Z wr) ∧ Hid ((∀ y ∈ ys,jU wr (w.heap.size + 1) y) ∧ ∀ (j : Nat) x y,l[j]? = some x → ys[j]? = some y → kY x y)) (fun i _ => n + 64 - (intOf i).toNat)
 case atStart => exact ⟨0,[],ae,rfl,hid aq,hid (by simpa using HF0.out),hid ⟨fun y hy => (by cases hy),fun j x y _ hy => by simp at hy⟩⟩
 case round =>
  obtain ⟨t,ys,ht,rfl,HYL,HF,HW⟩:=hrel;clear HF0
  by_cases hlt : t < n + 64
  ·have hlt' : (t : Int) < (n : Int) + 64:=ae
   have hdl : ((ys ++ (jN n).take (t - n)).flatMap fY).length = t * 2:=by
    rw [gu fY 2 (fun _ => rfl),List.length_append,List.length_take,HYL.out,ku]
    congr 1; omega
   by_cases hkn : t < n
   ·obtain ⟨x,hx⟩ : ∃ x,l[t]? = some x:=⟨_,aN ae⟩;have hkn' : (t : Int) < (n : Int):=ae;obtain ⟨b,off,rfl,hat⟩:=HA.out.2.resolve_left ae;obtain ⟨e0,e1⟩:=hat t x hx;have e0:=ai HF.out.bel e0;have e1:=ai HF.out.bel e1;have H1:=hid (C8 x wr ((HS.out x (List.mem_of_getElem? hx)).later HF.out.bel));have HXT:=hid hx;clear hat hx;go_wp2_with fail;refine H1.out.mono ?_;rintro e w5 ⟨y,rfl,hwy,hsy,hb5⟩;have HF5:=HF.out.later hb5;have HY:=hid (And.intro hwy hsy);have hls:=HF.out.lt
    obtain ⟨u0,q0⟩:=HF5.cell hZ (show t * 2 < (n + 64) * 2 by omega)
    have r0:=HF5.free (t * 2)
    obtain ⟨u1,q1⟩:=HF5.cell hZ (show t * 2 + 1 < (n + 64) * 2 by omega)
    have r1:=HF5.free (t * 2 + 1);have P0:=HF5.put (j:=t * 2) hdl ae (.int .i64 y.1);have P1:=P0.put (j:=t * 2 + 1) dZ ae (.slice y.2.1.1 y.2.1.2.1 y.2.1.2.2)
    have hkk : aJ (fun k => k = w.heap.size) w5 ((w5.setCell ⟨w.heap.size,t * 2,none⟩ (.int .i64 y.1)).setCell ⟨w.heap.size,t * 2 + 1,none⟩ (.slice y.2.1.1 y.2.1.2.1 y.2.1.2.2)):=((aw w5 w.heap.size (t * 2) (.int .i64 y.1)).trans (aw _ w.heap.size (t * 2 + 1) (.slice y.2.1.1 y.2.1.2.1 y.2.1.2.2)))
    have hyl:=HYL.out;have ht0 : t - n = 0:=ae;have ht1 : t + 1 - n = 0:=ae
    have HN : Hid (FLd w 81 2 (n + 64) (((ys ++ [y]) ++ (jN n).take (t + 1 - n)).flatMap fY) Z _):=hid (by rw [ht1]; rw [ht0] at P1; simpa [fY,List.flatMap_append] using P1)
    have HN1:=hid (show (ys ++ [y]).length = min (t + 1) n by rw [List.length_append,hyl]; simp; omega)
    have HN2 : Hid ((∀ z ∈ ys ++ [y],jU _ (w.heap.size + 1) z) ∧ ∀ (j : Nat) x z,l[j]? = some x → (ys ++ [y])[j]? = some z → kY x z):=hid ⟨fun z hz => by
      rcases List.mem_append.1 hz with hz | hz
      ·exact sU
      ·obtain rfl : z = y:=nS
       exact (HY.out.1.low ae).stay hkk (fun k hk => .inl ae),fun j x2 z hj hz => by
      by_cases hjt : j < ys.length
      ·exact sL
      ·have hjl:=aA hz
       simp at hjl
       have hje : j = t:=ae;subst hje
       rw [List.getElem?_append_right ae,show j - ys.length = 0 by omega] at hz
       obtain rfl : y = z:=nS;rw [HXT.out] at hj;obtain rfl : x = x2:=nC;exact HY.out.2⟩
    clear HF HW H1 HF5 hwy hsy hb5 hkk HYL hyl hls P0 P1;go_wp2_with fail;exact ⟨⟨t + 1,ys ++ [y],ae,bB,HN1,HN,HN2⟩,bD⟩
   ·have hkn' : ¬ (t : Int) < (n : Int):=ae;have hls:=HF.out.lt
    obtain ⟨u0,q0⟩:=HF.out.cell hZ (show t * 2 < (n + 64) * 2 by omega)
    have r0:=HF.out.free (t * 2)
    obtain ⟨u1,q1⟩:=HF.out.cell hZ (show t * 2 + 1 < (n + 64) * 2 by omega)
    have r1:=HF.out.free (t * 2 + 1);have P0:=HF.out.put (j:=t * 2) hdl ae (.int .i64 (9437184 + (t : Int) + 1));have P1:=P0.put (j:=t * 2 + 1) dZ ae (.slice none 0 0)
    have hkk : aJ (fun k => k = w.heap.size) wr ((wr.setCell ⟨w.heap.size,t * 2,none⟩ (.int .i64 (9437184 + (t : Int) + 1))).setCell ⟨w.heap.size,t * 2 + 1,none⟩ (.slice none 0 0)):=((aw wr w.heap.size (t * 2) (.int .i64 (9437184 + (t : Int) + 1))).trans (aw _ w.heap.size (t * 2 + 1) (.slice none 0 0)))
    have hmt:=CM n (show n ≤ t by omega) hlt
    have HN : Hid (FLd w 81 2 (n + 64) ((ys ++ (jN n).take (t + 1 - n)).flatMap fY) Z _):=hid (by rw [hmt]; simpa [fY,List.flatMap_append] using P1)
    have HN1:=hid (show ys.length = min (t + 1) n by rw [HYL.out]; omega)
    have HN2 : Hid ((∀ z ∈ ys,jU _ (w.heap.size + 1) z) ∧ ∀ (j : Nat) x z,l[j]? = some x → ys[j]? = some z → kY x z):=hid ⟨fun z hz => (HW.out.1 z hz).stay hkk (fun k hk => .inl ae),HW.out.2⟩
    clear HF HW hkk HYL hls hmt P0 P1
    go_wp2_with (first | (go_at_call 89; refine (mi t _ ae ae).mono ?_; rintro e w' ⟨rfl,hw'⟩; have hw2:=hw'.symm; subst hw2))
    exact ⟨⟨t + 1,ys,ae,bB,HN1,HN,HN2⟩,bD⟩
  ·obtain rfl : t = n + 64:=ae;have hlt' : ¬ ((n + 64 : Nat) : Int) < (n : Int) + 64:=ae;go_wp2_with fail;go_ret
   have hyl : ys.length = n:=by rw [HYL.out]; omega
   have hmm : (jN n).take (n + 64 - n) = jN n:=List.take_of_length_le (by rw [ku]; omega)
   have hff:=HF.out;rw [hmm] at hff
   have hff:=hff.full (by rw [hZ,gu fY 2 (fun _ => rfl),List.length_append,hyl,ku])
   first
    | exact ⟨rfl,ys,hyl,hff,HW.out.1,HW.out.2,HF.out.bel⟩
    | exact ⟨ys,rfl,hyl,hff,HW.out.1,HW.out.2,HF.out.bel⟩
def jV (w : World) (base : Nat) (y : FuM) : Prop:=∃ B n,y.2.2.1 = (some ⟨B,0,none⟩,n,n + 64) ∧ y.2.2.2.length = n ∧ w.ownsRow base 75 3 (.slice (some ⟨B,0,none⟩) (n + 64) (n + 64)) (n + 64) ((y.2.2.2 ++ jJ n).flatMap cM) ∧ ∀ z ∈ y.2.2.2,lf w base z
theorem jV.stay {S : Nat → Prop} {w w' : World} {base : Nat} {y : FuM} (h : jV w base y) (hk : aJ S w w') (hS : ∀ k,S k → k < base ∨ w.heap.size ≤ k) : jV w' base y:=by
 obtain ⟨B,n,e,hl,ho,hz⟩:=h
 exact ⟨B,n,e,hl,aW ho hk (fun b hb hs => Cg),fun z hzm => (hz z hzm).stay hk hS⟩
theorem jV.low {w : World} {base base' : Nat} {y : FuM} (h : jV w base y) (hb : base' ≤ base) : jV w base' y:=by
 obtain ⟨B,n,e,hl,ho,hz⟩:=h
 exact ⟨B,n,e,hl,eo ho hb,fun z hzm => (hz z hzm).low hb⟩
def ki (x y : FuM) : Prop:=y.1 = x.1 ∧ y.2.1 = x.2.1 ∧ y.2.2.1.2.1 = x.2.2.1.2.1 ∧ y.2.2.2.length = x.2.2.2.length ∧ ∀ (j : Nat) a b,x.2.2.2[j]? = some a → y.2.2.2[j]? = some b → mY a b
theorem CI (x : FuM) (w : World) (hs : lG w x) :
  Calls Tryz.prog 90 #[.agg #[.int .i64 x.1,.string x.2.1,.slice x.2.2.1.1 x.2.2.1.2.1 x.2.2.1.2.2]] w fun e w' => ∃ y,e = .returned (.agg #[.int .i64 y.1,.string y.2.1,.slice y.2.2.1.1 y.2.2.1.2.1 y.2.2.1.2.2]) ∧ jV w' w.heap.size y ∧ ki x y ∧ Below w.heap.size w w':=by
 have HS:=hid (fun (W : World) (hb : Below w.heap.size w W) => hs.later hb)
 have B1:=ak w (aL x.1 x.2.1 x.2.2.1.1 x.2.2.1.2.1 x.2.2.1.2.2);have B2:=ak (w.alloc (aL x.1 x.2.1 x.2.2.1.1 x.2.2.1.2.1 x.2.2.1.2.2)) (aL 0 ⟨#[]⟩ none 0 0);have b1:=ar B2 (heap_alloc_new w (aL x.1 x.2.1 x.2.2.1.1 x.2.2.1.2.1 x.2.2.1.2.2));have b2 : ((w.alloc (aL x.1 x.2.1 x.2.2.1.1 x.2.2.1.2.1 x.2.2.1.2.2)).alloc (aL 0 ⟨#[]⟩ none 0 0)).heap[w.heap.size + 1]? = some (aL 0 ⟨#[]⟩ none 0 0):=jm aq;have B0 : Below w.heap.size w ((w.alloc (aL x.1 x.2.1 x.2.2.1.1 x.2.2.1.2.1 x.2.2.1.2.2)).alloc (aL 0 ⟨#[]⟩ none 0 0)):=B1.trans (B2.mono aq);have z : ((w.alloc (aL x.1 x.2.1 x.2.2.1.1 x.2.2.1.2.1 x.2.2.1.2.2)).alloc (aL 0 ⟨#[]⟩ none 0 0)).heap.size = w.heap.size + 2:=aq;have HB:=hid (And.intro B0 z);have c2 : ((w.alloc (aL x.1 x.2.1 x.2.2.1.1 x.2.2.1.2.1 x.2.2.1.2.2)).alloc (aL 0 ⟨#[]⟩ none 0 0)).cell? ⟨w.heap.size,2,none⟩ = some (.slice x.2.2.1.1 x.2.2.1.2.1 x.2.2.1.2.2):=ag b1;clear hs B1 B2 B0 z
 go_enter Tryz.func90,Tryz.ntmps90
 go_wp2_with fail;generalize ((w.alloc (aL x.1 x.2.1 x.2.2.1.1 x.2.2.1.2.1 x.2.2.1.2.2)).alloc (aL 0 ⟨#[]⟩ none 0 0)) = W1 at *;refine (NF x.2.2.1.1 x.2.2.1.2.1 x.2.2.1.2.2 x.2.2.2 W1 (HS.out _ HB.out.1).1 (HS.out _ HB.out.1).2.1 (HS.out _ HB.out.1).2.2).mono ?_;rintro e w1 ⟨ys,rfl,hyl,ho,hwd,hsm,hbel⟩;have HYS:=hid (And.intro hyl (And.intro hwd hsm));clear hyl hwd hsm;have HO:=hid ho;have HBE:=hid hbel;have d1:=ar hbel b1;have d2:=ar hbel b2;have x0 : w1.cell? ⟨w.heap.size,0,none⟩ = some (.int .i64 x.1):=ag d1;have x1 : w1.cell? ⟨w.heap.size,1,none⟩ = some (.string x.2.1):=ag d1;have x2 : w1.cell? ⟨w.heap.size,2,none⟩ = some (.slice x.2.2.1.1 x.2.2.1.2.1 x.2.2.1.2.2):=ag d1;have f2 : w1.frozen? ⟨w.heap.size,2,none⟩ = false:=aU d1;have y0 : w1.cell? ⟨w.heap.size + 1,0,none⟩ = some (.int .i64 0):=ag d2;have g0 : w1.frozen? ⟨w.heap.size + 1,0,none⟩ = false:=aU d2;have y1 : w1.cell? ⟨w.heap.size + 1,1,none⟩ = some (.string ⟨#[]⟩):=ag d2;have g1 : w1.frozen? ⟨w.heap.size + 1,1,none⟩ = false:=aU d2;have y2 : w1.cell? ⟨w.heap.size + 1,2,none⟩ = some (.slice none 0 0):=ag d2;have g2 : w1.frozen? ⟨w.heap.size + 1,2,none⟩ = false:=aU d2;clear ho hbel c2 b1 b2 d1 d2;go_wp2_with fail;have hz:=HB.out.2
 have hkk : aJ (fun k => w.heap.size ≤ k ∧ k < W1.heap.size) w1 ((((w1.setCell ⟨w.heap.size,2,none⟩ (.slice (some ⟨W1.heap.size,0,none⟩) x.2.2.1.2.1 (x.2.2.1.2.1 + 64))).setCell ⟨w.heap.size + 1,0,none⟩ (.int .i64 x.1)).setCell ⟨w.heap.size + 1,1,none⟩ (.string x.2.1)).setCell ⟨w.heap.size + 1,2,none⟩ (.slice (some ⟨W1.heap.size,0,none⟩) x.2.2.1.2.1 (x.2.2.1.2.1 + 64))):=(((((aw w1 w.heap.size 2 _).mono (fun k hk => ae)).trans ((aw _ (w.heap.size + 1) 0 _).mono (fun k hk => ae))).trans ((aw _ (w.heap.size + 1) 1 _).mono (fun k hk => ae))).trans ((aw _ (w.heap.size + 1) 2 _).mono (fun k hk => ae)))
 have h1 : Below w.heap.size w w1:=HB.out.1.trans (HBE.out.mono HB.out.1.size)
 refine bodyPost_ret (v:=.agg #[.int .i64 x.1,.string x.2.1,.slice (some ⟨W1.heap.size,0,none⟩) x.2.2.1.2.1 (x.2.2.1.2.1 + 64)]) (by simp [results,Tryz.results90,go_sem,y0,y1,y2]) rfl ⟨(x.1,x.2.1,(some ⟨W1.heap.size,0,none⟩,x.2.2.1.2.1,x.2.2.1.2.1 + 64),ys),rfl,⟨_,_,rfl,HYS.out.1,eo (aW HO.out hkk (fun b hb hx => yu)) HB.out.1.size,fun z hz => ((HYS.out.2.1 z hz).stay hkk (fun k hk => .inl ae)).low (by have:=HB.out.1.size; omega)⟩,⟨rfl,rfl,rfl,by rw [HYS.out.1]; exact (HS.out _ HB.out.1).1.1.symm,HYS.out.2.2⟩,h1.trans (hkk.to_below (B:=w.heap.size) h1.size (fun k hk hx => ae))⟩
def ju (n : Nat) : List FuM:=(List.range 64).map fun j => (fun (i : Nat) => ((9437184 + (i : Int) + 1,⟨#[]⟩,(none,0,0),[]) : FuM)) (n + j)
theorem kC (n : Nat) : (ju n).length = 64:=by simp [ju]
theorem M0 : (Tryz.prog.info? 78).map (fun i => (i.zero,i.size,i.bytes)) = some (some (.agg #[.int .i64 0,.string ⟨#[]⟩,.slice none 0 0]),3,48):=aj
theorem Di (n : Nat) {t : Nat} (h0 : n ≤ t) (h1 : t < n + 64) : (ju n).take (t + 1 - n) = (ju n).take (t - n) ++ [(fun (i : Nat) => ((9437184 + (i : Int) + 1,⟨#[]⟩,(none,0,0),[]) : FuM)) t]:=by
 rw [show t + 1 - n = (t - n) + 1 by omega,List.take_add_one]
 congr 1
 unfold ju;rw [List.getElem?_map,List.getElem?_range ae]
 show [(fun (i : Nat) => ((9437184 + (i : Int) + 1,⟨#[]⟩,(none,0,0),[]) : FuM)) (n + (t - n))] = _
 rw [Nat.add_sub_cancel' h0]
def PK (l : List FuM) (n : Nat) (w : World) (ys : List FuM) (w' : World) : Prop:=ys.length = n ∧ w'.ownsRow w.heap.size 78 3 (.slice (some ⟨w.heap.size,0,none⟩) (n + 64) (n + 64)) (n + 64) ((ys ++ ju n).flatMap cm) ∧ (∀ y ∈ ys,jV w' (w.heap.size + 1) y) ∧ (∀ (j : Nat) x y,l[j]? = some x → ys[j]? = some y → ki x y) ∧ Below w.heap.size w w'
theorem ND (a : Option Addr) (n c : Nat) (l : List FuM) (w : World) (h : iU w a n l) (hn : n ≤ 200000) (hs : ∀ x ∈ l,lG w x) :
  Calls Tryz.prog 28 #[.slice a n c] w fun e w' => ∃ ys,e = .returned (.slice (some ⟨w.heap.size,0,none⟩) n (n + 64)) ∧ PK l n w ys w':=by
 obtain ⟨i0,hi,hz0,hz1,hz2⟩:=info_parts M0;have hb2 : i0.bytes * (n + 64) ≤ 281474976710656:=iV;have hml : n + 64 ≤ maxLen:=bU;have hll:=h.1;have HA:=hid h;have HS:=hid hs;clear h hs
 go_enter Tryz.func28,Tryz.ntmps28
 go_wp2_with (first | (at_make; refine wpList_make_full _ rfl _ _ 25 rfl w.heap.size 78 i0 (.agg #[.int .i64 0,.string ⟨#[]⟩,.slice none 0 0]) 3 Tryz.underlying25 hi hz0 hz1 .i64 .i64 _ _ (n + 64) rfl rfl ae ae hb2 hml (Nat.le_refl _) ?_; intro w1 hown hgrow))
 have hZ : (madeCells (Value.agg #[.int .i64 0,.string ⟨#[]⟩,.slice none 0 0]).cells ((n + 64) * 3)).toList.length = (n + 64) * 3:=hown.1;have HF0 : Hid (FLd w 78 3 (n + 64) [] (madeCells (Value.agg #[.int .i64 0,.string ⟨#[]⟩,.slice none 0 0]).cells ((n + 64) * 3)).toList w1):=hid ⟨jy,(Below.refl _ _).grown hgrow (Nat.le_refl _) aq⟩;generalize (madeCells (Value.agg #[.int .i64 0,.string ⟨#[]⟩,.slice none 0 0]).cells ((n + 64) * 3)).toList = Z at *;clear hown hgrow hi hz0 hz1 hz2 hb2 hml
 go_loopw [4] (fun i wr => ∃ (t : Nat) (ys : List FuM),t ≤ n + 64 ∧ i = .int .i64 t ∧ Hid (ys.length = min t n) ∧ Hid (FLd w 78 3 (n + 64) ((ys ++ (ju n).take (t - n)).flatMap cm) Z wr) ∧ Hid ((∀ y ∈ ys,jV wr (w.heap.size + 1) y) ∧ ∀ (j : Nat) x y,l[j]? = some x → ys[j]? = some y → ki x y)) (fun i _ => n + 64 - (intOf i).toNat)
 case atStart => exact ⟨0,[],ae,rfl,hid aq,hid (by simpa using HF0.out),hid ⟨fun y hy => (by cases hy),fun j x y _ hy => by simp at hy⟩⟩
 case round =>
  obtain ⟨t,ys,ht,rfl,HYL,HF,HW⟩:=hrel;clear HF0
  by_cases hlt : t < n + 64
  ·have hlt' : (t : Int) < (n : Int) + 64:=ae
   have hdl : ((ys ++ (ju n).take (t - n)).flatMap cm).length = t * 3:=by
    rw [gu cm 3 (fun _ => rfl),List.length_append,List.length_take,HYL.out,kC]
    congr 1; omega
   by_cases hkn : t < n
   ·obtain ⟨x,hx⟩ : ∃ x,l[t]? = some x:=⟨_,aN ae⟩;have hkn' : (t : Int) < (n : Int):=ae;obtain ⟨b,off,rfl,hat⟩:=HA.out.2.resolve_left ae;obtain ⟨e0,e1,e2⟩:=hat t x hx;have e0:=ai HF.out.bel e0;have e1:=ai HF.out.bel e1;have e2:=ai HF.out.bel e2;have H1:=hid (CI x wr ((HS.out x (List.mem_of_getElem? hx)).later HF.out.bel));have HXT:=hid hx;clear hat hx;go_wp2_with fail;refine H1.out.mono ?_;rintro e w5 ⟨y,rfl,hwy,hsy,hb5⟩;have HF5:=HF.out.later hb5;have HY:=hid (And.intro hwy hsy);have hls:=HF.out.lt
    obtain ⟨u0,q0⟩:=HF5.cell hZ (show t * 3 < (n + 64) * 3 by omega)
    have r0:=HF5.free (t * 3)
    obtain ⟨u1,q1⟩:=HF5.cell hZ (show t * 3 + 1 < (n + 64) * 3 by omega)
    have r1:=HF5.free (t * 3 + 1)
    obtain ⟨u2,q2⟩:=HF5.cell hZ (show t * 3 + 2 < (n + 64) * 3 by omega)
    have r2:=HF5.free (t * 3 + 2);have P0:=HF5.put (j:=t * 3) hdl ae (.int .i64 y.1);have P1:=P0.put (j:=t * 3 + 1) dZ ae (.string y.2.1);have P2:=P1.put (j:=t * 3 + 2) dZ ae (.slice y.2.2.1.1 y.2.2.1.2.1 y.2.2.1.2.2)
    have hkk : aJ (fun k => k = w.heap.size) w5 (((w5.setCell ⟨w.heap.size,t * 3,none⟩ (.int .i64 y.1)).setCell ⟨w.heap.size,t * 3 + 1,none⟩ (.string y.2.1)).setCell ⟨w.heap.size,t * 3 + 2,none⟩ (.slice y.2.2.1.1 y.2.2.1.2.1 y.2.2.1.2.2)):=(((aw w5 w.heap.size (t * 3) (.int .i64 y.1)).trans (aw _ w.heap.size (t * 3 + 1) (.string y.2.1))).trans (aw _ w.heap.size (t * 3 + 2) (.slice y.2.2.1.1 y.2.2.1.2.1 y.2.2.1.2.2)))
    have hyl:=HYL.out;have ht0 : t - n = 0:=ae;have ht1 : t + 1 - n = 0:=ae
    have HN : Hid (FLd w 78 3 (n + 64) (((ys ++ [y]) ++ (ju n).take (t + 1 - n)).flatMap cm) Z _):=hid (by rw [ht1]; rw [ht0] at P2; simpa [cm,List.flatMap_append] using P2)
    have HN1:=hid (show (ys ++ [y]).length = min (t + 1) n by rw [List.length_append,hyl]; simp; omega)
    have HN2 : Hid ((∀ z ∈ ys ++ [y],jV _ (w.heap.size + 1) z) ∧ ∀ (j : Nat) x z,l[j]? = some x → (ys ++ [y])[j]? = some z → ki x z):=hid ⟨fun z hz => by
      rcases List.mem_append.1 hz with hz | hz
      ·exact sU
      ·obtain rfl : z = y:=nS
       exact (HY.out.1.low ae).stay hkk (fun k hk => .inl ae),fun j x2 z hj hz => by
      by_cases hjt : j < ys.length
      ·exact sL
      ·have hjl:=aA hz
       simp at hjl
       have hje : j = t:=ae;subst hje
       rw [List.getElem?_append_right ae,show j - ys.length = 0 by omega] at hz
       obtain rfl : y = z:=nS;rw [HXT.out] at hj;obtain rfl : x = x2:=nC;exact HY.out.2⟩
    exact Hc
   ·have hkn' : ¬ (t : Int) < (n : Int):=ae;have hls:=HF.out.lt
    obtain ⟨u0,q0⟩:=HF.out.cell hZ (show t * 3 < (n + 64) * 3 by omega)
    have r0:=HF.out.free (t * 3)
    obtain ⟨u1,q1⟩:=HF.out.cell hZ (show t * 3 + 1 < (n + 64) * 3 by omega)
    have r1:=HF.out.free (t * 3 + 1)
    obtain ⟨u2,q2⟩:=HF.out.cell hZ (show t * 3 + 2 < (n + 64) * 3 by omega)
    have r2:=HF.out.free (t * 3 + 2);have P0:=HF.out.put (j:=t * 3) hdl ae (.int .i64 (9437184 + (t : Int) + 1));have P1:=P0.put (j:=t * 3 + 1) dZ ae (.string ⟨#[]⟩);have P2:=P1.put (j:=t * 3 + 2) dZ ae (.slice none 0 0)
    have hkk : aJ (fun k => k = w.heap.size) wr (((wr.setCell ⟨w.heap.size,t * 3,none⟩ (.int .i64 (9437184 + (t : Int) + 1))).setCell ⟨w.heap.size,t * 3 + 1,none⟩ (.string ⟨#[]⟩)).setCell ⟨w.heap.size,t * 3 + 2,none⟩ (.slice none 0 0)):=(((aw wr w.heap.size (t * 3) (.int .i64 (9437184 + (t : Int) + 1))).trans (aw _ w.heap.size (t * 3 + 1) (.string ⟨#[]⟩))).trans (aw _ w.heap.size (t * 3 + 2) (.slice none 0 0)))
    have hmt:=Di n (show n ≤ t by omega) hlt
    have HN : Hid (FLd w 78 3 (n + 64) ((ys ++ (ju n).take (t + 1 - n)).flatMap cm) Z _):=hid (by rw [hmt]; simpa [cm,List.flatMap_append] using P2)
    have HN1:=hid (show ys.length = min (t + 1) n by rw [HYL.out]; omega)
    have HN2 : Hid ((∀ z ∈ ys,jV _ (w.heap.size + 1) z) ∧ ∀ (j : Nat) x z,l[j]? = some x → ys[j]? = some z → ki x z):=hid ⟨fun z hz => (HW.out.1 z hz).stay hkk (fun k hk => .inl ae),HW.out.2⟩
    exact Fu
  ·obtain rfl : t = n + 64:=ae;have hlt' : ¬ ((n + 64 : Nat) : Int) < (n : Int) + 64:=ae;go_wp2_with fail;go_ret
   have hyl : ys.length = n:=by rw [HYL.out]; omega
   have hmm : (ju n).take (n + 64 - n) = ju n:=List.take_of_length_le (by rw [kC]; omega)
   have hff:=HF.out;rw [hmm] at hff
   have hff:=hff.full (by rw [hZ,gu cm 3 (fun _ => rfl),List.length_append,hyl,kC])
   first
    | exact ⟨rfl,ys,hyl,hff,HW.out.1,HW.out.2,HF.out.bel⟩
    | exact ⟨ys,rfl,hyl,hff,HW.out.1,HW.out.2,HF.out.bel⟩
end Go.Proofs.YtheefojaplnnoaaGreatDoor

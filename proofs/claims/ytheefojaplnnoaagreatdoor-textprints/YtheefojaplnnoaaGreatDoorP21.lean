/-
  Texts Qe.
-/
import Derived.Test.YtheefojaplnnoaaGreatDoorP00
import Derived.Test.YtheefojaplnnoaaGreatDoorP20
set_option linter.unusedVariables false
set_option maxRecDepth 100000
set_option maxHeartbeats 16000000
namespace Go.Proofs.YtheefojaplnnoaaGreatDoor
open Go.RowKit
def iw (x : Int) : List Value:=[.int .u8 x]
def qK (w : World) (a : Option Addr) (n : Nat) (xs : List Int) : Prop :=
 xs.length = n ∧ (n = 0 ∨ ∃ b off,a = some ⟨b,off,none⟩ ∧ ∀ (j : Nat) x,xs[j]? = some x → w.cell? ⟨b,off + j,none⟩ = some (.int .u8 x))
theorem qK.of {w : World} {a : Option Addr} {n c : Nat} {zs : List Int} (h : Seg w a n c zs) : qK w a n zs:=by
 obtain ⟨hl,_,_,_,hc⟩:=h
 refine ⟨hl,hc.imp id fun ⟨b,off,e,hc⟩ => ⟨b,off,e,fun j x hj => ?_⟩⟩
 have hjl:=aA hj
 rw [hc j ae,List.getD_eq_getElem?_getD,hj]; rfl
def js (n : Nat) : List Int:=(List.range 64).map fun j => (fun (i : Nat) => (((279 + 7 * (i : Int) + 3) % 256) : Int)) (n + j)
theorem qN (n : Nat) : (js n).length = 64:=by simp [js]
theorem MX : (Tryz.prog.info? 5).map (fun i => (i.zero,i.size,i.bytes)) = some (some (.int .u8 0),1,1):=aj
theorem NA (TB : Nat) (a : Option Addr) (n c : Nat) (l : List Int) (w : World) (h : qK w a n l) (hn : n ≤ 1000000) :
  Calls Tryz.prog 151 #[.slice a n c] w fun e w' => e = .returned (.slice (some ⟨w.heap.size,0,none⟩) n (n + 64)) ∧ w'.ownsRow w.heap.size 5 1 (.slice (some ⟨w.heap.size,0,none⟩) (n + 64) (n + 64)) (n + 64) ((l ++ js n).flatMap iw) ∧ Below w.heap.size w w':=by
 obtain ⟨i0,hi,hz0,hz1,hz2⟩:=info_parts MX;have hb2 : i0.bytes * (n + 64) ≤ 281474976710656:=iV;have hml : n + 64 ≤ maxLen:=bU;have hll:=h.1
 have hLL : (l ++ js n).length = n + 64:=by rw [List.length_append,hll,qN]
 have HA:=hid h;clear h
 go_enter Tryz.func151,Tryz.ntmps151
 go_wp2_with (first | (at_make; refine wpList_make_full _ rfl _ _ 63 rfl w.heap.size 5 i0 (.int .u8 0) 1 Tryz.underlying63 hi hz0 hz1 .i64 .i64 _ _ (n + 64) rfl rfl ae ae hb2 hml (Nat.le_refl _) ?_; intro w1 hown hgrow))
 have hZ : (madeCells (Value.int .u8 0).cells ((n + 64) * 1)).toList.length = (n + 64) * 1:=hown.1;have HF0 : Hid (FLd w 5 1 (n + 64) (((l ++ js n).take 0).flatMap iw) (madeCells (Value.int .u8 0).cells ((n + 64) * 1)).toList w1):=hid ⟨jy,(Below.refl _ _).grown hgrow (Nat.le_refl _) aq⟩;generalize (madeCells (Value.int .u8 0).cells ((n + 64) * 1)).toList = Z at *;clear hown hgrow hi hz0 hz1 hz2 hb2 hml
 go_loopw [4] (fun i wr => ∃ t : Nat,t ≤ n + 64 ∧ i = .int .i64 t ∧ Hid (FLd w 5 1 (n + 64) (((l ++ js n).take t).flatMap iw) Z wr)) (fun i _ => n + 64 - (intOf i).toNat)
 case atStart => exact ⟨0,ae,rfl,HF0⟩
 case round =>
  obtain ⟨t,ht,rfl,HF⟩:=hrel;clear HF0
  by_cases hlt : t < n + 64
  ·have hdl:=i7 iw 1 (fun _ => rfl) (l ++ js n) (show t ≤ _ by omega)
   have hlt' : (t : Int) < (n : Int) + 64:=ae
   by_cases hkn : t < n
   ·obtain ⟨x,hx⟩ : ∃ x,l[t]? = some x:=⟨_,aN ae⟩;have hkn' : (t : Int) < (n : Int):=ae;obtain ⟨b,off,rfl,hat⟩:=HA.out.2.resolve_left ae;have e0:=hat t x hx;have e0:=ai HF.out.bel e0
    obtain ⟨u0,q0⟩:=HF.out.cell hZ (show t < (n + 64) * 1 by omega)
    have r0:=HF.out.free (t);have P0:=HF.out.put (j:=t) (hdl.trans (Nat.mul_one t)) ae (.int .u8 x);have hnx : (((l ++ js n).take (t + 1)).flatMap iw) = _:=gD iw (l ++ js n) ((dt _ l ae).trans hx);have HN : Hid (FLd w 5 1 (n + 64) (((l ++ js n).take (t + 1)).flatMap iw) Z _):=hid zE;exact A8
   ·have hkn' : ¬ (t : Int) < (n : Int):=ae
    have hnx : (((l ++ js n).take (t + 1)).flatMap iw) = _:=gD iw (l ++ js n) (cY (fun (i : Nat) => (((279 + 7 * (i : Int) + 3) % 256) : Int)) l hll ae hlt)
    obtain ⟨u0,q0⟩:=HF.out.cell hZ (show t < (n + 64) * 1 by omega)
    have r0:=HF.out.free (t);have P0:=HF.out.put (j:=t) (hdl.trans (Nat.mul_one t)) ae (.int .u8 ((279 + 7 * (t : Int) + 3) % 256));have HN : Hid (FLd w 5 1 (n + 64) (((l ++ js n).take (t + 1)).flatMap iw) Z _):=hid zE;clear HF hnx P0;exact Cn
  ·obtain rfl : t = n + 64:=ae;have hlt' : ¬ ((n + 64 : Nat) : Int) < (n : Int) + 64:=ae;go_wp2_with fail;go_ret
   have hfl:=i7 iw 1 (fun _ => rfl) (l ++ js n) (show n + 64 ≤ _ by omega)
   exact pI
theorem JW (TB base B n : Nat) (l : List Int) (w : World) (hl : l.length = n) (hn : n ≤ 1000000) (h : w.ownsRow base 5 1 (.slice (some ⟨B,0,none⟩) (n + 64) (n + 64)) (n + 64) ((l ++ js n).flatMap iw)) :
  Calls Tryz.prog 166 #[.slice (some ⟨B,0,none⟩) n (n + 64)] w fun e w' => e = .returned (.bool true) ∧ Below w.heap.size w w':=by
 have hLL : (l ++ js n).length = n + 64:=by rw [List.length_append,hl,qN]
 have HR:=hid h;clear h
 go_enter Tryz.func166,Tryz.ntmps166
 go_wp2_with fail
 go_loopw [4] (fun i wr => ∃ t : Nat,n ≤ t ∧ t ≤ n + 64 ∧ i = .int .i64 t ∧ Hid (Below w.heap.size w wr)) (fun i _ => n + 64 - (intOf i).toNat)
 case atStart => exact ⟨n,ae,ae,rfl,hid (Below.refl _ _)⟩
 case round =>
  obtain ⟨t,ht0,ht,rfl,HB⟩:=hrel
  by_cases hlt : t < n + 64
  ·have hlt' : (t : Int) < (n : Int) + 64:=ae
   have hR:=aW HR.out (az HB.out) (fun _ _ => id)
   have g0 : wr.cell? ⟨B,t,none⟩ = some (.int .u8 ((279 + 7 * (t : Int) + 3) % 256)):=by simpa [iw] using br (k:=1) iw (fun _ => rfl) hR hLL (cY (fun (i : Nat) => (((279 + 7 * (i : Int) + 3) % 256) : Int)) l hl ht0 hlt) 0 ae
   clear hR;have heq : (((279 + 7 * (t : Int) + 3) % 256) == ((279 + 7 * (t : Int) + 3) % 256)) = true:=aq;go_wp2_with fail;exact BC
  ·exact qm
theorem Oc (a1 a2 : Option Addr) (n c1 c2 : Nat) (l : List Int) (w : World) (h1 : qK w a1 n l) (h2 : qK w a2 n l) (hn : n ≤ 1000000) :
  Calls Tryz.prog 23 #[.slice a1 n c1,.slice a2 n c2] w fun e w' => e = .returned (.bool true) ∧ Below w.heap.size w w':=by
 have hne : ((n : Int) != n) = false:=aq;have H1:=hid h1;have H2:=hid h2;have hll:=h1.1;clear h1 h2
 go_enter Tryz.func23,Tryz.ntmps23
 exact Ib
theorem IV (a1 a2 : Option Addr) (n c1 c2 : Nat) (l : List Int) (w : World) (h1 : i6 w a1 n l) (h2 : i6 w a2 n l) (hn : n ≤ 1000000) :
  Calls Tryz.prog 41 #[.slice a1 n c1,.slice a2 n c2] w fun e w' => e = .returned (.bool true) ∧ Below w.heap.size w w':=by
 have hne : ((n : Int) != n) = false:=aq;have H1:=hid h1;have H2:=hid h2;have hll:=h1.1;clear h1 h2
 go_enter Tryz.func41,Tryz.ntmps41
 exact Ib
end Go.Proofs.YtheefojaplnnoaaGreatDoor

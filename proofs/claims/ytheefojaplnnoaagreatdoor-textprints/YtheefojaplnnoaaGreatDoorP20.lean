/-
  Texts Qb Qc Qd.
-/
import Derived.Test.YtheefojaplnnoaaGreatDoorP00
import Derived.Test.YtheefojaplnnoaaGreatDoorP19
set_option linter.unusedVariables false
set_option maxRecDepth 100000
set_option maxHeartbeats 16000000
namespace Go.Proofs.YtheefojaplnnoaaGreatDoor
open Go.RowKit
def jf (n : Nat) : List Sg:=(List.range 64).map fun j => (fun (i : Nat) => ((txt i,⟨#[]⟩) : Sg)) (n + j)
theorem qp (n : Nat) : (jf n).length = 64:=by simp [jf]
theorem NG : (Tryz.prog.info? 73).map (fun i => (i.zero,i.size,i.bytes)) = some (some (.agg #[.string ⟨#[]⟩,.string ⟨#[]⟩]),2,32):=aj
theorem Mu (TB : Nat) (a : Option Addr) (n c : Nat) (l : List Sg) (w : World) (h : fk w a n l) (hn : n ≤ 1000000) (ht : eW TB w) (hTB : TB ≤ w.heap.size) :
  Calls Tryz.prog 25 #[.slice a n c] w fun e w' => e = .returned (.slice (some ⟨w.heap.size,0,none⟩) n (n + 64)) ∧ w'.ownsRow w.heap.size 73 2 (.slice (some ⟨w.heap.size,0,none⟩) (n + 64) (n + 64)) (n + 64) ((l ++ jf n).flatMap dP) ∧ Below w.heap.size w w':=by
 obtain ⟨i0,hi,hz0,hz1,hz2⟩:=info_parts NG;have hb2 : i0.bytes * (n + 64) ≤ 281474976710656:=iV;have hml : n + 64 ≤ maxLen:=bU;have hll:=h.1
 have hLL : (l ++ jf n).length = n + 64:=by rw [List.length_append,hll,qp]
 have HA:=hid h;have HT:=hid ht;clear h ht
 go_enter Tryz.func25,Tryz.ntmps25
 go_wp2_with (first | (at_make; refine wpList_make_full _ rfl _ _ 22 rfl w.heap.size 73 i0 (.agg #[.string ⟨#[]⟩,.string ⟨#[]⟩]) 2 Tryz.underlying22 hi hz0 hz1 .i64 .i64 _ _ (n + 64) rfl rfl ae ae hb2 hml (Nat.le_refl _) ?_; intro w1 hown hgrow))
 have hZ : (madeCells (Value.agg #[.string ⟨#[]⟩,.string ⟨#[]⟩]).cells ((n + 64) * 2)).toList.length = (n + 64) * 2:=hown.1;have HF0 : Hid (FLd w 73 2 (n + 64) (((l ++ jf n).take 0).flatMap dP) (madeCells (Value.agg #[.string ⟨#[]⟩,.string ⟨#[]⟩]).cells ((n + 64) * 2)).toList w1):=hid ⟨jy,(Below.refl _ _).grown hgrow (Nat.le_refl _) aq⟩;generalize (madeCells (Value.agg #[.string ⟨#[]⟩,.string ⟨#[]⟩]).cells ((n + 64) * 2)).toList = Z at *;clear hown hgrow hi hz0 hz1 hz2 hb2 hml
 go_loopw [4] (fun i wr => ∃ t : Nat,t ≤ n + 64 ∧ i = .int .i64 t ∧ Hid (FLd w 73 2 (n + 64) (((l ++ jf n).take t).flatMap dP) Z wr)) (fun i _ => n + 64 - (intOf i).toNat)
 case atStart => exact ⟨0,ae,rfl,HF0⟩
 case round =>
  obtain ⟨t,ht,rfl,HF⟩:=hrel;clear HF0
  by_cases hlt : t < n + 64
  ·have hdl:=i7 dP 2 (fun _ => rfl) (l ++ jf n) (show t ≤ _ by omega)
   have hlt' : (t : Int) < (n : Int) + 64:=ae
   by_cases hkn : t < n
   ·obtain ⟨x,hx⟩ : ∃ x,l[t]? = some x:=⟨_,aN ae⟩;have hkn' : (t : Int) < (n : Int):=ae;obtain ⟨b,off,rfl,hat⟩:=HA.out.2.resolve_left ae;obtain ⟨e0,e1⟩:=hat t x hx;have e0:=ai HF.out.bel e0;have e1:=ai HF.out.bel e1
    obtain ⟨u0,q0⟩:=HF.out.cell hZ (show t * 2 < (n + 64) * 2 by omega)
    have r0:=HF.out.free (t * 2)
    obtain ⟨u1,q1⟩:=HF.out.cell hZ (show t * 2 + 1 < (n + 64) * 2 by omega)
    have r1:=HF.out.free (t * 2 + 1);have P0:=HF.out.put (j:=t * 2) hdl ae (.string x.1);have P1:=P0.put (j:=t * 2 + 1) dZ ae (.string x.2);have hnx : (((l ++ jf n).take (t + 1)).flatMap dP) = _:=gD dP (l ++ jf n) ((dt _ l ae).trans hx);have HN : Hid (FLd w 73 2 (n + 64) (((l ++ jf n).take (t + 1)).flatMap dP) Z _):=hid Cv;exact Bb
   ·have hkn' : ¬ (t : Int) < (n : Int):=ae
    have hnx : (((l ++ jf n).take (t + 1)).flatMap dP) = _:=gD dP (l ++ jf n) (cY (fun (i : Nat) => ((txt i,⟨#[]⟩) : Sg)) l hll ae hlt)
    have HX:=hid (sM TB t wr ae (HT.out.later (HF.out.bel.mono hTB)));go_wp2_with fail;refine HX.out.mono ?_;rintro e w5 ⟨rfl,hb5⟩;have HF5:=HF.out.later hb5
    obtain ⟨u0,q0⟩:=HF5.cell hZ (show t * 2 < (n + 64) * 2 by omega)
    have r0:=HF5.free (t * 2)
    obtain ⟨u1,q1⟩:=HF5.cell hZ (show t * 2 + 1 < (n + 64) * 2 by omega)
    have r1:=HF5.free (t * 2 + 1);have P0:=HF5.put (j:=t * 2) hdl ae (.string (txt t));have P1:=P0.put (j:=t * 2 + 1) dZ ae (.string ⟨#[]⟩);have HN : Hid (FLd w 73 2 (n + 64) (((l ++ jf n).take (t + 1)).flatMap dP) Z _):=hid Cv;exact GH
  ·obtain rfl : t = n + 64:=ae;have hlt' : ¬ ((n + 64 : Nat) : Int) < (n : Int) + 64:=ae;go_wp2_with fail;go_ret
   have hfl:=i7 dP 2 (fun _ => rfl) (l ++ jf n) (show n + 64 ≤ _ by omega)
   exact pI
def jg (n : Nat) : List Gl:=(List.range 64).map fun j => (fun (i : Nat) => ((0,false,9437184 + (i : Int) + 1) : Gl)) (n + j)
theorem p9 (n : Nat) : (jg n).length = 64:=by simp [jg]
theorem LD : (Tryz.prog.info? 102).map (fun i => (i.zero,i.size,i.bytes)) = some (some (.agg #[.int .u8 0,.bool false,.int .u64 0]),3,16):=aj
theorem LW (TB : Nat) (a : Option Addr) (n c : Nat) (l : List Gl) (w : World) (h : kg w a n l) (hn : n ≤ 1000000) :
  Calls Tryz.prog 27 #[.slice a n c] w fun e w' => e = .returned (.slice (some ⟨w.heap.size,0,none⟩) n (n + 64)) ∧ w'.ownsRow w.heap.size 102 3 (.slice (some ⟨w.heap.size,0,none⟩) (n + 64) (n + 64)) (n + 64) ((l ++ jg n).flatMap fF) ∧ Below w.heap.size w w':=by
 obtain ⟨i0,hi,hz0,hz1,hz2⟩:=info_parts LD;have hb2 : i0.bytes * (n + 64) ≤ 281474976710656:=iV;have hml : n + 64 ≤ maxLen:=bU;have hll:=h.1
 have hLL : (l ++ jg n).length = n + 64:=by rw [List.length_append,hll,p9]
 have HA:=hid h;clear h
 go_enter Tryz.func27,Tryz.ntmps27
 go_wp2_with (first | (at_make; refine wpList_make_full _ rfl _ _ 24 rfl w.heap.size 102 i0 (.agg #[.int .u8 0,.bool false,.int .u64 0]) 3 Tryz.underlying24 hi hz0 hz1 .i64 .i64 _ _ (n + 64) rfl rfl ae ae hb2 hml (Nat.le_refl _) ?_; intro w1 hown hgrow))
 have hZ : (madeCells (Value.agg #[.int .u8 0,.bool false,.int .u64 0]).cells ((n + 64) * 3)).toList.length = (n + 64) * 3:=hown.1;have HF0 : Hid (FLd w 102 3 (n + 64) (((l ++ jg n).take 0).flatMap fF) (madeCells (Value.agg #[.int .u8 0,.bool false,.int .u64 0]).cells ((n + 64) * 3)).toList w1):=hid ⟨jy,(Below.refl _ _).grown hgrow (Nat.le_refl _) aq⟩;generalize (madeCells (Value.agg #[.int .u8 0,.bool false,.int .u64 0]).cells ((n + 64) * 3)).toList = Z at *;clear hown hgrow hi hz0 hz1 hz2 hb2 hml
 go_loopw [4] (fun i wr => ∃ t : Nat,t ≤ n + 64 ∧ i = .int .i64 t ∧ Hid (FLd w 102 3 (n + 64) (((l ++ jg n).take t).flatMap fF) Z wr)) (fun i _ => n + 64 - (intOf i).toNat)
 case atStart => exact ⟨0,ae,rfl,HF0⟩
 case round =>
  obtain ⟨t,ht,rfl,HF⟩:=hrel;clear HF0
  by_cases hlt : t < n + 64
  ·have hdl:=i7 fF 3 (fun _ => rfl) (l ++ jg n) (show t ≤ _ by omega)
   have hlt' : (t : Int) < (n : Int) + 64:=ae
   by_cases hkn : t < n
   ·obtain ⟨x,hx⟩ : ∃ x,l[t]? = some x:=⟨_,aN ae⟩;have hkn' : (t : Int) < (n : Int):=ae;obtain ⟨b,off,rfl,hat⟩:=HA.out.2.resolve_left ae;obtain ⟨e0,e1,e2⟩:=hat t x hx;have e0:=ai HF.out.bel e0;have e1:=ai HF.out.bel e1;have e2:=ai HF.out.bel e2
    obtain ⟨u0,q0⟩:=HF.out.cell hZ (show t * 3 < (n + 64) * 3 by omega)
    have r0:=HF.out.free (t * 3)
    obtain ⟨u1,q1⟩:=HF.out.cell hZ (show t * 3 + 1 < (n + 64) * 3 by omega)
    have r1:=HF.out.free (t * 3 + 1)
    obtain ⟨u2,q2⟩:=HF.out.cell hZ (show t * 3 + 2 < (n + 64) * 3 by omega)
    have r2:=HF.out.free (t * 3 + 2);have P0:=HF.out.put (j:=t * 3) hdl ae (.int .u8 x.1);have P1:=P0.put (j:=t * 3 + 1) dZ ae (.bool x.2.1);have P2:=P1.put (j:=t * 3 + 2) dZ ae (.int .u64 x.2.2);have hnx : (((l ++ jg n).take (t + 1)).flatMap fF) = _:=gD fF (l ++ jg n) ((dt _ l ae).trans hx);have HN : Hid (FLd w 102 3 (n + 64) (((l ++ jg n).take (t + 1)).flatMap fF) Z _):=hid AZ;clear hat HF hnx P0 P1 P2;exact Cn
   ·have hkn' : ¬ (t : Int) < (n : Int):=ae
    have hnx : (((l ++ jg n).take (t + 1)).flatMap fF) = _:=gD fF (l ++ jg n) (cY (fun (i : Nat) => ((0,false,9437184 + (i : Int) + 1) : Gl)) l hll ae hlt)
    obtain ⟨u0,q0⟩:=HF.out.cell hZ (show t * 3 < (n + 64) * 3 by omega)
    have r0:=HF.out.free (t * 3)
    obtain ⟨u1,q1⟩:=HF.out.cell hZ (show t * 3 + 1 < (n + 64) * 3 by omega)
    have r1:=HF.out.free (t * 3 + 1)
    obtain ⟨u2,q2⟩:=HF.out.cell hZ (show t * 3 + 2 < (n + 64) * 3 by omega)
    have r2:=HF.out.free (t * 3 + 2);have P0:=HF.out.put (j:=t * 3) hdl ae (.int .u8 0);have P1:=P0.put (j:=t * 3 + 1) dZ ae (.bool false);have P2:=P1.put (j:=t * 3 + 2) dZ ae (.int .u64 (9437184 + (t : Int) + 1));have HN : Hid (FLd w 102 3 (n + 64) (((l ++ jg n).take (t + 1)).flatMap fF) Z _):=hid AZ;clear HF hnx P0 P1 P2;exact E9
  ·obtain rfl : t = n + 64:=ae;have hlt' : ¬ ((n + 64 : Nat) : Int) < (n : Int) + 64:=ae;go_wp2_with fail;go_ret
   have hfl:=i7 fF 3 (fun _ => rfl) (l ++ jg n) (show n + 64 ≤ _ by omega)
   exact pI
def jq (n : Nat) : List Ex:=(List.range 64).map fun j => (fun (i : Nat) => ((txt i,0) : Ex)) (n + j)
theorem qL (n : Nat) : (jq n).length = 64:=by simp [jq]
theorem Mm : (Tryz.prog.info? 83).map (fun i => (i.zero,i.size,i.bytes)) = some (some (.agg #[.string ⟨#[]⟩,.int .i64 0]),2,24):=aj
theorem Mq (TB : Nat) (a : Option Addr) (n c : Nat) (l : List Ex) (w : World) (h : jD w a n l) (hn : n ≤ 1000000) (ht : eW TB w) (hTB : TB ≤ w.heap.size) :
  Calls Tryz.prog 30 #[.slice a n c] w fun e w' => e = .returned (.slice (some ⟨w.heap.size,0,none⟩) n (n + 64)) ∧ w'.ownsRow w.heap.size 83 2 (.slice (some ⟨w.heap.size,0,none⟩) (n + 64) (n + 64)) (n + 64) ((l ++ jq n).flatMap fX) ∧ Below w.heap.size w w':=by
 obtain ⟨i0,hi,hz0,hz1,hz2⟩:=info_parts Mm;have hb2 : i0.bytes * (n + 64) ≤ 281474976710656:=iV;have hml : n + 64 ≤ maxLen:=bU;have hll:=h.1
 have hLL : (l ++ jq n).length = n + 64:=by rw [List.length_append,hll,qL]
 have HA:=hid h;have HT:=hid ht;clear h ht
 go_enter Tryz.func30,Tryz.ntmps30
 go_wp2_with (first | (at_make; refine wpList_make_full _ rfl _ _ 27 rfl w.heap.size 83 i0 (.agg #[.string ⟨#[]⟩,.int .i64 0]) 2 Tryz.underlying27 hi hz0 hz1 .i64 .i64 _ _ (n + 64) rfl rfl ae ae hb2 hml (Nat.le_refl _) ?_; intro w1 hown hgrow))
 have hZ : (madeCells (Value.agg #[.string ⟨#[]⟩,.int .i64 0]).cells ((n + 64) * 2)).toList.length = (n + 64) * 2:=hown.1;have HF0 : Hid (FLd w 83 2 (n + 64) (((l ++ jq n).take 0).flatMap fX) (madeCells (Value.agg #[.string ⟨#[]⟩,.int .i64 0]).cells ((n + 64) * 2)).toList w1):=hid ⟨jy,(Below.refl _ _).grown hgrow (Nat.le_refl _) aq⟩;generalize (madeCells (Value.agg #[.string ⟨#[]⟩,.int .i64 0]).cells ((n + 64) * 2)).toList = Z at *;clear hown hgrow hi hz0 hz1 hz2 hb2 hml
 go_loopw [4] (fun i wr => ∃ t : Nat,t ≤ n + 64 ∧ i = .int .i64 t ∧ Hid (FLd w 83 2 (n + 64) (((l ++ jq n).take t).flatMap fX) Z wr)) (fun i _ => n + 64 - (intOf i).toNat)
 case atStart => exact ⟨0,ae,rfl,HF0⟩
 case round =>
  obtain ⟨t,ht,rfl,HF⟩:=hrel;clear HF0
  by_cases hlt : t < n + 64
  ·have hdl:=i7 fX 2 (fun _ => rfl) (l ++ jq n) (show t ≤ _ by omega)
   have hlt' : (t : Int) < (n : Int) + 64:=ae
   by_cases hkn : t < n
   ·obtain ⟨x,hx⟩ : ∃ x,l[t]? = some x:=⟨_,aN ae⟩;have hkn' : (t : Int) < (n : Int):=ae;obtain ⟨b,off,rfl,hat⟩:=HA.out.2.resolve_left ae;obtain ⟨e0,e1⟩:=hat t x hx;have e0:=ai HF.out.bel e0;have e1:=ai HF.out.bel e1
    obtain ⟨u0,q0⟩:=HF.out.cell hZ (show t * 2 < (n + 64) * 2 by omega)
    have r0:=HF.out.free (t * 2)
    obtain ⟨u1,q1⟩:=HF.out.cell hZ (show t * 2 + 1 < (n + 64) * 2 by omega)
    have r1:=HF.out.free (t * 2 + 1);have P0:=HF.out.put (j:=t * 2) hdl ae (.string x.1);have P1:=P0.put (j:=t * 2 + 1) dZ ae (.int .i64 x.2);have hnx : (((l ++ jq n).take (t + 1)).flatMap fX) = _:=gD fX (l ++ jq n) ((dt _ l ae).trans hx);have HN : Hid (FLd w 83 2 (n + 64) (((l ++ jq n).take (t + 1)).flatMap fX) Z _):=hid Ah;exact Bb
   ·have hkn' : ¬ (t : Int) < (n : Int):=ae
    have hnx : (((l ++ jq n).take (t + 1)).flatMap fX) = _:=gD fX (l ++ jq n) (cY (fun (i : Nat) => ((txt i,0) : Ex)) l hll ae hlt)
    have HX:=hid (sM TB t wr ae (HT.out.later (HF.out.bel.mono hTB)));go_wp2_with fail;refine HX.out.mono ?_;rintro e w5 ⟨rfl,hb5⟩;have HF5:=HF.out.later hb5
    obtain ⟨u0,q0⟩:=HF5.cell hZ (show t * 2 < (n + 64) * 2 by omega)
    have r0:=HF5.free (t * 2)
    obtain ⟨u1,q1⟩:=HF5.cell hZ (show t * 2 + 1 < (n + 64) * 2 by omega)
    have r1:=HF5.free (t * 2 + 1);have P0:=HF5.put (j:=t * 2) hdl ae (.string (txt t));have P1:=P0.put (j:=t * 2 + 1) dZ ae (.int .i64 0);have HN : Hid (FLd w 83 2 (n + 64) (((l ++ jq n).take (t + 1)).flatMap fX) Z _):=hid Ah;exact GH
  ·obtain rfl : t = n + 64:=ae;have hlt' : ¬ ((n + 64 : Nat) : Int) < (n : Int) + 64:=ae;go_wp2_with fail;go_ret
   have hfl:=i7 fX 2 (fun _ => rfl) (l ++ jq n) (show n + 64 ≤ _ by omega)
   exact pI
def iX (n : Nat) : List Int:=(List.range 64).map fun j => (fun (i : Nat) => ((9437184 + (i : Int) + 1) : Int)) (n + j)
theorem qC (n : Nat) : (iX n).length = 64:=by simp [iX]
theorem Mr : (Tryz.prog.info? 3).map (fun i => (i.zero,i.size,i.bytes)) = some (some (.int .i64 0),1,8):=aj
theorem Hj (TB : Nat) (a : Option Addr) (n c : Nat) (l : List Int) (w : World) (h : i6 w a n l) (hn : n ≤ 1000000) :
  Calls Tryz.prog 26 #[.slice a n c] w fun e w' => e = .returned (.slice (some ⟨w.heap.size,0,none⟩) n (n + 64)) ∧ w'.ownsRow w.heap.size 3 1 (.slice (some ⟨w.heap.size,0,none⟩) (n + 64) (n + 64)) (n + 64) ((l ++ iX n).flatMap dR) ∧ Below w.heap.size w w':=by
 obtain ⟨i0,hi,hz0,hz1,hz2⟩:=info_parts Mr;have hb2 : i0.bytes * (n + 64) ≤ 281474976710656:=iV;have hml : n + 64 ≤ maxLen:=bU;have hll:=h.1
 have hLL : (l ++ iX n).length = n + 64:=by rw [List.length_append,hll,qC]
 have HA:=hid h;clear h
 go_enter Tryz.func26,Tryz.ntmps26
 go_wp2_with (first | (at_make; refine wpList_make_full _ rfl _ _ 23 rfl w.heap.size 3 i0 (.int .i64 0) 1 Tryz.underlying23 hi hz0 hz1 .i64 .i64 _ _ (n + 64) rfl rfl ae ae hb2 hml (Nat.le_refl _) ?_; intro w1 hown hgrow))
 have hZ : (madeCells (Value.int .i64 0).cells ((n + 64) * 1)).toList.length = (n + 64) * 1:=hown.1;have HF0 : Hid (FLd w 3 1 (n + 64) (((l ++ iX n).take 0).flatMap dR) (madeCells (Value.int .i64 0).cells ((n + 64) * 1)).toList w1):=hid ⟨jy,(Below.refl _ _).grown hgrow (Nat.le_refl _) aq⟩;generalize (madeCells (Value.int .i64 0).cells ((n + 64) * 1)).toList = Z at *;clear hown hgrow hi hz0 hz1 hz2 hb2 hml
 go_loopw [4] (fun i wr => ∃ t : Nat,t ≤ n + 64 ∧ i = .int .i64 t ∧ Hid (FLd w 3 1 (n + 64) (((l ++ iX n).take t).flatMap dR) Z wr)) (fun i _ => n + 64 - (intOf i).toNat)
 case atStart => exact ⟨0,ae,rfl,HF0⟩
 case round =>
  obtain ⟨t,ht,rfl,HF⟩:=hrel;clear HF0
  by_cases hlt : t < n + 64
  ·have hdl:=i7 dR 1 (fun _ => rfl) (l ++ iX n) (show t ≤ _ by omega)
   have hlt' : (t : Int) < (n : Int) + 64:=ae
   by_cases hkn : t < n
   ·obtain ⟨x,hx⟩ : ∃ x,l[t]? = some x:=⟨_,aN ae⟩;have hkn' : (t : Int) < (n : Int):=ae;obtain ⟨b,off,rfl,hat⟩:=HA.out.2.resolve_left ae;have e0:=hat t x hx;have e0:=ai HF.out.bel e0
    obtain ⟨u0,q0⟩:=HF.out.cell hZ (show t < (n + 64) * 1 by omega)
    have r0:=HF.out.free (t);have P0:=HF.out.put (j:=t) (hdl.trans (Nat.mul_one t)) ae (.int .i64 x);have hnx : (((l ++ iX n).take (t + 1)).flatMap dR) = _:=gD dR (l ++ iX n) ((dt _ l ae).trans hx);have HN : Hid (FLd w 3 1 (n + 64) (((l ++ iX n).take (t + 1)).flatMap dR) Z _):=hid zR;exact A8
   ·have hkn' : ¬ (t : Int) < (n : Int):=ae
    have hnx : (((l ++ iX n).take (t + 1)).flatMap dR) = _:=gD dR (l ++ iX n) (cY (fun (i : Nat) => ((9437184 + (i : Int) + 1) : Int)) l hll ae hlt)
    obtain ⟨u0,q0⟩:=HF.out.cell hZ (show t < (n + 64) * 1 by omega)
    have r0:=HF.out.free (t);have P0:=HF.out.put (j:=t) (hdl.trans (Nat.mul_one t)) ae (.int .i64 (9437184 + (t : Int) + 1));have HN : Hid (FLd w 3 1 (n + 64) (((l ++ iX n).take (t + 1)).flatMap dR) Z _):=hid zR;clear HF hnx P0;exact E9
  ·obtain rfl : t = n + 64:=ae;have hlt' : ¬ ((n + 64 : Nat) : Int) < (n : Int) + 64:=ae;go_wp2_with fail;go_ret
   have hfl:=i7 dR 1 (fun _ => rfl) (l ++ iX n) (show n + 64 ≤ _ by omega)
   exact pI
theorem Kb (TB base B n : Nat) (l : List Sg) (w : World) (hl : l.length = n) (hn : n ≤ 1000000) (ht : eW TB w) (hTB : TB ≤ w.heap.size) (h : w.ownsRow base 73 2 (.slice (some ⟨B,0,none⟩) (n + 64) (n + 64)) (n + 64) ((l ++ jf n).flatMap dP)) :
  Calls Tryz.prog 46 #[.slice (some ⟨B,0,none⟩) n (n + 64)] w fun e w' => e = .returned (.bool true) ∧ Below w.heap.size w w':=by
 have hLL : (l ++ jf n).length = n + 64:=by rw [List.length_append,hl,qp]
 have HR:=hid h;have HT:=hid ht;clear h ht
 go_enter Tryz.func46,Tryz.ntmps46
 go_wp2_with fail
 go_loopw [4] (fun i wr => ∃ t : Nat,n ≤ t ∧ t ≤ n + 64 ∧ i = .int .i64 t ∧ Hid (Below w.heap.size w wr)) (fun i _ => n + 64 - (intOf i).toNat)
 case atStart => exact ⟨n,ae,ae,rfl,hid (Below.refl _ _)⟩
 case round =>
  obtain ⟨t,ht0,ht,rfl,HB⟩:=hrel
  by_cases hlt : t < n + 64
  ·have hlt' : (t : Int) < (n : Int) + 64:=ae
   have hR:=aW HR.out (az HB.out) (fun _ _ => id)
   have g0 : wr.cell? ⟨B,t * 2,none⟩ = some (.string (txt t)):=by simpa [dP] using br (k:=2) dP (fun _ => rfl) hR hLL (cY (fun (i : Nat) => ((txt i,⟨#[]⟩) : Sg)) l hl ht0 hlt) 0 ae
   have g1 : wr.cell? ⟨B,t * 2 + 1,none⟩ = some (.string ⟨#[]⟩):=by simpa [dP] using br (k:=2) dP (fun _ => rfl) hR hLL (cY (fun (i : Nat) => ((txt i,⟨#[]⟩) : Sg)) l hl ht0 hlt) 1 ae
   clear hR;have x0 : (wr.alloc (aS (txt t) ⟨#[]⟩)).cell? ⟨wr.heap.size,0,none⟩ = some (.string (txt t)):=dV;have x1 : (wr.alloc (aS (txt t) ⟨#[]⟩)).cell? ⟨wr.heap.size,1,none⟩ = some (.string ⟨#[]⟩):=dV;have HBA:=hid (HB.out.alloc HB.out.size (aS (txt t) ⟨#[]⟩))
   have kd : Below (wr.alloc (aS (txt t) ⟨#[]⟩)).heap.size (wr.alloc (aS (txt t) ⟨#[]⟩)) (wr.alloc (aS (txt t) ⟨#[]⟩)).drew:=(aJ.drewN (fun _ => False) (wr.alloc (aS (txt t) ⟨#[]⟩)) 1).to_below (Nat.le_refl _) (fun _ _ x => x)
   have HX:=hid ((sM TB t (wr.alloc (aS (txt t) ⟨#[]⟩)).drew ae (HT.out.later ((HBA.out.trans (kd.mono HBA.out.size)).mono hTB))).mono (fun e w' h => (⟨h.1,kd.trans h.2⟩ : e = .returned (.string (txt t)) ∧ Below (wr.alloc (aS (txt t) ⟨#[]⟩)).heap.size (wr.alloc (aS (txt t) ⟨#[]⟩)) w')))
   have HFA:=hid (fun (W : World) (hW : Below (wr.alloc (aS (txt t) ⟨#[]⟩)).heap.size (wr.alloc (aS (txt t) ⟨#[]⟩)) W) => (⟨ai hW x0,ai hW x1⟩ : W.cell? ⟨wr.heap.size,0,none⟩ = some (.string (txt t)) ∧ W.cell? ⟨wr.heap.size,1,none⟩ = some (.string ⟨#[]⟩)))
   clear kd;generalize txt t = tx at *;have heq : (tx.toList == tx.toList) = true:=aq;have hee : ((⟨#[]⟩ : ByteArray).toList == (⟨#[]⟩ : ByteArray).toList) = true:=aq;go_wp2_with fail;generalize hwz : (wr.alloc (aS (tx) ⟨#[]⟩)) = wz at *
   go_region_held3 (fun W => W.cell? ⟨wr.heap.size,0,none⟩ = some (.string (tx)) ∧ W.cell? ⟨wr.heap.size,1,none⟩ = some (.string ⟨#[]⟩)) (go_keep)
    (first | (go_at_call 88; refine HX.out.mono ?_; rintro e w5 ⟨rfl,hb5⟩; obtain ⟨t0,t1⟩:=HFA.out _ hb5; have HB5:=hid (HBA.out.trans (hb5.mono HBA.out.size)); clear hb5))
   exact Aa
  ·exact qm
theorem JB (TB base B n : Nat) (l : List Gl) (w : World) (hl : l.length = n) (hn : n ≤ 1000000) (h : w.ownsRow base 102 3 (.slice (some ⟨B,0,none⟩) (n + 64) (n + 64)) (n + 64) ((l ++ jg n).flatMap fF)) :
  Calls Tryz.prog 48 #[.slice (some ⟨B,0,none⟩) n (n + 64)] w fun e w' => e = .returned (.bool true) ∧ Below w.heap.size w w':=by
 have hLL : (l ++ jg n).length = n + 64:=by rw [List.length_append,hl,p9]
 have HR:=hid h;clear h
 go_enter Tryz.func48,Tryz.ntmps48
 go_wp2_with fail
 go_loopw [4] (fun i wr => ∃ t : Nat,n ≤ t ∧ t ≤ n + 64 ∧ i = .int .i64 t ∧ Hid (Below w.heap.size w wr)) (fun i _ => n + 64 - (intOf i).toNat)
 case atStart => exact ⟨n,ae,ae,rfl,hid (Below.refl _ _)⟩
 case round =>
  obtain ⟨t,ht0,ht,rfl,HB⟩:=hrel
  by_cases hlt : t < n + 64
  ·have hlt' : (t : Int) < (n : Int) + 64:=ae
   have hR:=aW HR.out (az HB.out) (fun _ _ => id)
   have g0 : wr.cell? ⟨B,t * 3,none⟩ = some (.int .u8 0):=by simpa [fF] using br (k:=3) fF (fun _ => rfl) hR hLL (cY (fun (i : Nat) => ((0,false,9437184 + (i : Int) + 1) : Gl)) l hl ht0 hlt) 0 ae
   have g1 : wr.cell? ⟨B,t * 3 + 1,none⟩ = some (.bool false):=by simpa [fF] using br (k:=3) fF (fun _ => rfl) hR hLL (cY (fun (i : Nat) => ((0,false,9437184 + (i : Int) + 1) : Gl)) l hl ht0 hlt) 1 ae
   have g2 : wr.cell? ⟨B,t * 3 + 2,none⟩ = some (.int .u64 (9437184 + (t : Int) + 1)):=by simpa [fF] using br (k:=3) fF (fun _ => rfl) hR hLL (cY (fun (i : Nat) => ((0,false,9437184 + (i : Int) + 1) : Gl)) l hl ht0 hlt) 2 ae
   clear hR;have x0 : (wr.alloc (bo 0 false (9437184 + (t : Int) + 1))).cell? ⟨wr.heap.size,0,none⟩ = some (.int .u8 0):=dV;have x1 : (wr.alloc (bo 0 false (9437184 + (t : Int) + 1))).cell? ⟨wr.heap.size,1,none⟩ = some (.bool false):=dV;have x2 : (wr.alloc (bo 0 false (9437184 + (t : Int) + 1))).cell? ⟨wr.heap.size,2,none⟩ = some (.int .u64 (9437184 + (t : Int) + 1)):=dV;have HBA:=hid (HB.out.alloc HB.out.size (bo 0 false (9437184 + (t : Int) + 1)));have heq : ((9437184 : Int) + t + 1 == 9437184 + t + 1) = true:=aq;have hwr:=cg (9437184 + (t : Int) + 1) ae ae
   have HDR:=hid (show Below w.heap.size w (wr.alloc (bo 0 false (9437184 + (t : Int) + 1))).drew from bT HBA.out (aJ.drewN (fun _ => False) _ 1) HBA.out.size (fun _ x => x.elim))
   go_wp2_with fail;generalize hwz : (wr.alloc (bo 0 false (9437184 + (t : Int) + 1))) = wz at *
   go_region_held3 (fun W => W.cell? ⟨wr.heap.size,0,none⟩ = some (.int .u8 0) ∧ W.cell? ⟨wr.heap.size,1,none⟩ = some (.bool false) ∧ W.cell? ⟨wr.heap.size,2,none⟩ = some (.int .u64 (9437184 + (t : Int) + 1))) (go_keep)
    (first | (go_at_call 89; refine (mi t _ ae ae).mono ?_; rintro e w' ⟨rfl,hw'⟩; have hw2:=hw'.symm; subst hw2))
   exact pB
  ·exact qm
theorem JT (TB base B n : Nat) (l : List Ex) (w : World) (hl : l.length = n) (hn : n ≤ 1000000) (ht : eW TB w) (hTB : TB ≤ w.heap.size) (h : w.ownsRow base 83 2 (.slice (some ⟨B,0,none⟩) (n + 64) (n + 64)) (n + 64) ((l ++ jq n).flatMap fX)) :
  Calls Tryz.prog 51 #[.slice (some ⟨B,0,none⟩) n (n + 64)] w fun e w' => e = .returned (.bool true) ∧ Below w.heap.size w w':=by
 have hLL : (l ++ jq n).length = n + 64:=by rw [List.length_append,hl,qL]
 have HR:=hid h;have HT:=hid ht;clear h ht
 go_enter Tryz.func51,Tryz.ntmps51
 go_wp2_with fail
 go_loopw [4] (fun i wr => ∃ t : Nat,n ≤ t ∧ t ≤ n + 64 ∧ i = .int .i64 t ∧ Hid (Below w.heap.size w wr)) (fun i _ => n + 64 - (intOf i).toNat)
 case atStart => exact ⟨n,ae,ae,rfl,hid (Below.refl _ _)⟩
 case round =>
  obtain ⟨t,ht0,ht,rfl,HB⟩:=hrel
  by_cases hlt : t < n + 64
  ·have hlt' : (t : Int) < (n : Int) + 64:=ae
   have hR:=aW HR.out (az HB.out) (fun _ _ => id)
   have g0 : wr.cell? ⟨B,t * 2,none⟩ = some (.string (txt t)):=by simpa [fX] using br (k:=2) fX (fun _ => rfl) hR hLL (cY (fun (i : Nat) => ((txt i,0) : Ex)) l hl ht0 hlt) 0 ae
   have g1 : wr.cell? ⟨B,t * 2 + 1,none⟩ = some (.int .i64 0):=by simpa [fX] using br (k:=2) fX (fun _ => rfl) hR hLL (cY (fun (i : Nat) => ((txt i,0) : Ex)) l hl ht0 hlt) 1 ae
   clear hR;have x0 : (wr.alloc (bF (txt t) 0)).cell? ⟨wr.heap.size,0,none⟩ = some (.string (txt t)):=dV;have x1 : (wr.alloc (bF (txt t) 0)).cell? ⟨wr.heap.size,1,none⟩ = some (.int .i64 0):=dV;have HBA:=hid (HB.out.alloc HB.out.size (bF (txt t) 0))
   have kd : Below (wr.alloc (bF (txt t) 0)).heap.size (wr.alloc (bF (txt t) 0)) (wr.alloc (bF (txt t) 0)).drew:=(aJ.drewN (fun _ => False) (wr.alloc (bF (txt t) 0)) 1).to_below (Nat.le_refl _) (fun _ _ x => x)
   have HX:=hid ((sM TB t (wr.alloc (bF (txt t) 0)).drew ae (HT.out.later ((HBA.out.trans (kd.mono HBA.out.size)).mono hTB))).mono (fun e w' h => (⟨h.1,kd.trans h.2⟩ : e = .returned (.string (txt t)) ∧ Below (wr.alloc (bF (txt t) 0)).heap.size (wr.alloc (bF (txt t) 0)) w')))
   have HFA:=hid (fun (W : World) (hW : Below (wr.alloc (bF (txt t) 0)).heap.size (wr.alloc (bF (txt t) 0)) W) => (⟨ai hW x0,ai hW x1⟩ : W.cell? ⟨wr.heap.size,0,none⟩ = some (.string (txt t)) ∧ W.cell? ⟨wr.heap.size,1,none⟩ = some (.int .i64 0)))
   clear kd;generalize txt t = tx at *;have heq : (tx.toList == tx.toList) = true:=aq;have hee : ((⟨#[]⟩ : ByteArray).toList == (⟨#[]⟩ : ByteArray).toList) = true:=aq;go_wp2_with fail;generalize hwz : (wr.alloc (bF (tx) 0)) = wz at *
   go_region_held3 (fun W => W.cell? ⟨wr.heap.size,0,none⟩ = some (.string (tx)) ∧ W.cell? ⟨wr.heap.size,1,none⟩ = some (.int .i64 0)) (go_keep)
    (first | (go_at_call 88; refine HX.out.mono ?_; rintro e w5 ⟨rfl,hb5⟩; obtain ⟨t0,t1⟩:=HFA.out _ hb5; have HB5:=hid (HBA.out.trans (hb5.mono HBA.out.size)); clear hb5))
   exact Aa
  ·exact qm
theorem BJ (TB base B n : Nat) (l : List Int) (w : World) (hl : l.length = n) (hn : n ≤ 1000000) (h : w.ownsRow base 3 1 (.slice (some ⟨B,0,none⟩) (n + 64) (n + 64)) (n + 64) ((l ++ iX n).flatMap dR)) :
  Calls Tryz.prog 47 #[.slice (some ⟨B,0,none⟩) n (n + 64)] w fun e w' => e = .returned (.bool true) ∧ Below w.heap.size w w':=by
 have hLL : (l ++ iX n).length = n + 64:=by rw [List.length_append,hl,qC]
 have HR:=hid h;clear h
 go_enter Tryz.func47,Tryz.ntmps47
 go_wp2_with fail
 go_loopw [4] (fun i wr => ∃ t : Nat,n ≤ t ∧ t ≤ n + 64 ∧ i = .int .i64 t ∧ Hid (Below w.heap.size w wr)) (fun i _ => n + 64 - (intOf i).toNat)
 case atStart => exact ⟨n,ae,ae,rfl,hid (Below.refl _ _)⟩
 case round =>
  obtain ⟨t,ht0,ht,rfl,HB⟩:=hrel
  by_cases hlt : t < n + 64
  ·have hlt' : (t : Int) < (n : Int) + 64:=ae
   have hR:=aW HR.out (az HB.out) (fun _ _ => id)
   have g0 : wr.cell? ⟨B,t,none⟩ = some (.int .i64 (9437184 + (t : Int) + 1)):=by simpa [dR] using br (k:=1) dR (fun _ => rfl) hR hLL (cY (fun (i : Nat) => ((9437184 + (i : Int) + 1) : Int)) l hl ht0 hlt) 0 ae
   clear hR;have heq : ((9437184 : Int) + t + 1 == 9437184 + t + 1) = true:=aq
   go_wp2_with (first | (go_at_call 89; refine (mi t _ ae ae).mono ?_; rintro e w' ⟨rfl,hw'⟩; have hw2:=hw'.symm; subst hw2))
   exact BC
  ·exact qm
theorem Oh (a1 a2 : Option Addr) (n c1 c2 : Nat) (l : List Sg) (w : World) (h1 : fk w a1 n l) (h2 : fk w a2 n l) (hn : n ≤ 1000000) :
  Calls Tryz.prog 40 #[.slice a1 n c1,.slice a2 n c2] w fun e w' => e = .returned (.bool true) ∧ Below w.heap.size w w':=by
 have hne : ((n : Int) != n) = false:=aq;have H1:=hid h1;have H2:=hid h2;have hll:=h1.1;clear h1 h2
 go_enter Tryz.func40,Tryz.ntmps40
 exact Ha
theorem OJ (a1 a2 : Option Addr) (n c1 c2 : Nat) (l : List Gl) (w : World) (h1 : kg w a1 n l) (h2 : kg w a2 n l) (hn : n ≤ 1000000) :
  Calls Tryz.prog 42 #[.slice a1 n c1,.slice a2 n c2] w fun e w' => e = .returned (.bool true) ∧ Below w.heap.size w w':=by
 have hne : ((n : Int) != n) = false:=aq;have H1:=hid h1;have H2:=hid h2;have hll:=h1.1;clear h1 h2
 go_enter Tryz.func42,Tryz.ntmps42
 go_wp2_with fail
 go_loopw [5] (fun p wr => ∃ t : Nat,t ≤ n ∧ p = .int .i64 t ∧ Hid (Below w.heap.size w wr)) (fun p _ => n - (intOf p).toNat)
 case atStart => exact ⟨0,ae,rfl,hid (Below.refl _ _)⟩
 case round =>
  obtain ⟨t,ht,rfl,HB⟩:=hrel
  by_cases hlt : t < n
  ·have hlt' : (t : Int) < (n : Int):=ae;obtain ⟨x,hx⟩ : ∃ x,l[t]? = some x:=⟨_,aN ae⟩;obtain ⟨b1,o1,rfl,hat1⟩:=H1.out.2.resolve_left ae;obtain ⟨b2,o2,rfl,hat2⟩:=H2.out.2.resolve_left ae;obtain ⟨e10,e11,e12⟩:=hat1 t x hx;have e10:=ai HB.out e10;have e11:=ai HB.out e11;have e12:=ai HB.out e12;obtain ⟨e20,e21,e22⟩:=hat2 t x hx;have e20:=ai HB.out e20;have e21:=ai HB.out e21;have e22:=ai HB.out e22;clear hat1 hat2 hx
   have HBD:=hid (fun (n : Nat) => (show Below w.heap.size w (wr.drewN n) from bT HB.out (aJ.drewN (fun _ => False) _ n) HB.out.size (fun _ x => x.elim)))
   obtain ⟨x0,x1,x2⟩:=x;exact uA
  ·exact jA
theorem Oa (a1 a2 : Option Addr) (n c1 c2 : Nat) (l : List Ex) (w : World) (h1 : jD w a1 n l) (h2 : jD w a2 n l) (hn : n ≤ 1000000) :
  Calls Tryz.prog 45 #[.slice a1 n c1,.slice a2 n c2] w fun e w' => e = .returned (.bool true) ∧ Below w.heap.size w w':=by
 have hne : ((n : Int) != n) = false:=aq;have H1:=hid h1;have H2:=hid h2;have hll:=h1.1;clear h1 h2
 go_enter Tryz.func45,Tryz.ntmps45
 exact Ha
end Go.Proofs.YtheefojaplnnoaaGreatDoor

/-
  Texts Qa Qb.
-/
import Derived.Lib.AppendIntMem
import Derived.Lib.ItoaLen
import Derived.Test.YtepnnenohjfkbaaGreatDoorP00
import Derived.Test.YtepnnenohjfkbaaGreatDoorP06
import Derived.Test.YtepnnenohjfkbaaGreatDoorP27
set_option linter.unusedVariables false
set_option maxRecDepth 100000
set_option maxHeartbeats 16000000
namespace Go.Proofs.YtepnnenohjfkbaaGreatDoor
open Go.RowKit
structure FLd (w : World) (e k N : Nat) (done Z : List Value) (wr : World) : Prop where
 row : wr.ownsRow w.heap.size e k (.slice (some ⟨w.heap.size,0,none⟩) N N) N (done ++ Z.drop done.length)
 bel : Below w.heap.size w wr
section
variable {w : World} {e k N : Nat} {done Z : List Value} {wr : World}
theorem FLd.lt (h : FLd w e k N done Z wr) : w.heap.size < wr.heap.size:=(lJ h.row rfl).2.1
theorem FLd.put (h : FLd w e k N done Z wr) {j : Nat} (hj : done.length = j) (hlt : j < Z.length) (v : Value) : FLd w e k N (done ++ [v]) Z (wr.setCell ⟨w.heap.size,j,none⟩ v):=by
 subst hj;have h1:=(h.row.stored done.length v).1
 have he : (done ++ Z.drop done.length).set done.length v = (done ++ [v]) ++ Z.drop (done ++ [v]).length:=by
  have hd : (Z.drop done.length).set 0 v = v :: Z.drop (done.length + 1):=by
   rw [List.drop_eq_getElem_cons hlt]; rfl
  rw [List.set_append_right _ _ (Nat.le_refl _),Nat.sub_self,hd]
  simp
 rw [he] at h1;exact ⟨h1,h.bel.setCell ak _⟩
theorem FLd.later (h : FLd w e k N done Z wr) {w' : World} (hb : Below wr.heap.size wr w') : FLd w e k N done Z w' :=
 ⟨bg h.row (az hb) (fun _ _ => id),h.bel.trans (hb.mono h.bel.size)⟩
theorem FLd.cell (h : FLd w e k N done Z wr) (hZ : Z.length = N * k) {j : Nat} (hj : j < N * k) : ∃ v,wr.cell? ⟨w.heap.size,j,none⟩ = some v:=by
 have h1:=h.row.cellAt j hj;have h2:=h.row.1;exact ⟨_,h1.trans (aN ae)⟩
theorem FLd.free (h : FLd w e k N done Z wr) (j : Nat) : wr.frozen? ⟨w.heap.size,j,none⟩ = false:=h.row.frozenAt j
theorem FLd.full (h : FLd w e k N done Z wr) (hZ : Z.length = done.length) : wr.ownsRow w.heap.size e k (.slice (some ⟨w.heap.size,0,none⟩) N N) N done:=by
 have:=h.row
 rwa [List.drop_of_length_le ae,List.append_nil] at this
end
theorem eN {α β : Type} (g : α → List β) (L : List α) {t : Nat} {x : α} (h : L[t]? = some x) : (L.take (t + 1)).flatMap g = (L.take t).flatMap g ++ g x:=by
 rw [List.take_add_one,h]
 simp
theorem gT {α β : Type} (g : α → List β) (k : Nat) (hk : ∀ x,(g x).length = k) (L : List α) {t : Nat} (h : t ≤ L.length) : ((L.take t).flatMap g).length = t * k:=by
 rw [ji g k hk,List.length_take,Nat.min_eq_left h]
theorem GH {w : World} {base e k N n c : Nat} {a : Option Addr} {xs : List Value} (h : w.ownsRow base e k (.slice a N c) N xs) (hn : n ≤ N) (h0 : a ≠ none) : w.ownsRow base e k (.slice a n c) n (xs.take (n * k)):=by
 have hk : n * k ≤ N * k:=Nat.mul_le_mul_right k hn
 refine ⟨by rw [List.length_take,h.1]; omega,.inr ?_⟩
 rcases h.2 with ⟨h1,_⟩ | ⟨g,cp,cur,h1,h2,h3,h4,h5,h6,h7⟩
 ·injection h1 with h1; exact absurd h1 h0
 ·injection h1 with e1 e2 e3
  subst e1 e3;refine ⟨g,c,cur,rfl,h2,h3,ae,h5,h6,?_⟩;rw [← h7,List.take_take,Nat.min_eq_left hk]
theorem ej {α : Type} {w : World} {base e k n c B : Nat} (g : α → List Value) (hk : ∀ x,(g x).length = k) {l m : List α} (h : w.ownsRow base e k (.slice (some ⟨B,0,none⟩) (n + 64) c) (n + 64) ((l ++ m).flatMap g)) (hl : l.length = n) : w.ownsRow base e k (.slice (some ⟨B,0,none⟩) n c) n (l.flatMap g):=by
 have:=GH h (show n ≤ n + 64 by omega) ak
 rwa [List.flatMap_append,List.take_left' (by rw [ji g k hk,hl])] at this
theorem bw {α : Type} {w : World} {base e k N c B : Nat} (g : α → List Value) (hk : ∀ x,(g x).length = k) {L : List α} (h : w.ownsRow base e k (.slice (some ⟨B,0,none⟩) N c) N (L.flatMap g)) (hL : L.length = N) {j : Nat} {x : α} (hj : L[j]? = some x) (q : Nat) (hq : q < k) : w.cell? ⟨B,j * k + q,none⟩ = (g x)[q]?:=by
 have hjn:=ax hj
 have hlt : j * k + q < N * k:=by
  have : (j + 1) * k ≤ N * k:=Nat.mul_le_mul_right k ae;rw [Nat.succ_mul] at this; omega
 rw [h.cellAt _ hlt,A6 g k hk L j q hq,hj]; rfl
theorem cC {α : Type} (f : Nat → α) (l : List α) {n t : Nat} (hl : l.length = n) (h0 : n ≤ t) (h1 : t < n + 64) : (l ++ (List.range 64).map fun j => f (n + j))[t]? = some (f t):=by
 rw [List.getElem?_append_right ae,hl,List.getElem?_map,List.getElem?_range ae]
 show some (f (n + (t - n))) = _
 rw [Nat.add_sub_cancel' h0]
theorem cF {α : Type} (m l : List α) {t : Nat} (h : t < l.length) : (l ++ m)[t]? = l[t]?:=List.getElem?_append_left h
abbrev jW (B : Nat) (w : World) : Prop:=Lib.TabBelow Tryz.prog B w "internal/strconv.uint64pow10" .u64 Lib.pow10Tab
theorem jW.later {B : Nat} {w w' : World} (h : jW B w) (hb : Below B w w') : jW B w':=fun W hW => h W (hb.trans hW)
def EE (n : Int) : ByteArray:=⟨(Lib.itoa n).toArray⟩
theorem EF (n : Int) (h0 : -9223372036854775808 ≤ n) (h1 : n ≤ 9223372036854775807) : (EE n).size ≤ 21:=by
 have:=Lib.itoa_length_le n h0 h1
 simpa [EE,ByteArray.size] using this
theorem QD (B : Nat) (n : Int) (h0 : -9223372036854775808 ≤ n) (h1 : n ≤ 9223372036854775807) (w : World) (ht : jW B w) :
  Calls Tryz.prog 88 #[.int .i64 n] w fun e w' => e = .returned (.string (EE n)) ∧ Below w.heap.size w w':=by
 refine (Tryz.strconv_Itoa n h0 h1 w ht.here).mono ?_;rintro e w' ⟨rfl,k,os,rfl⟩;exact ⟨rfl,Lib.below_grow _ _ (Nat.le_refl _) _ _⟩
theorem mD (i : Int) (w : World) (h0 : 0 ≤ i) (h1 : i ≤ 70368744177664) : Calls Tryz.prog 85 #[.int .i64 9,.int .i64 i] w fun e w' => e = .returned (.int .i64 (9437184 + i + 1)) ∧ w' = w:=by
 go_enter Tryz.func85,Tryz.ntmps85
 exact nj
def txt (i : Nat) : ByteArray:=⟨#[33]⟩ ++ EE (9437184 + (i : Int) + 1)
theorem nX (B i : Nat) (w : World) (hi : i ≤ 70368744177664) (ht : jW B w) :
  Calls Tryz.prog 50 #[.int .i64 9,.int .i64 i] w fun e w' => e = .returned (.string (txt i)) ∧ Below w.heap.size w w':=by
 have HM:=hid (mD i w ae ae);have HI:=hid (QD B (9437184 + (i : Int) + 1) ae ae w ht);have hs:=EF (9437184 + (i : Int) + 1) ae ae;have HT:=hid (show txt i = ⟨#[33]⟩ ++ EE (9437184 + (i : Int) + 1) from rfl);generalize EE (9437184 + (i : Int) + 1) = nb at *;have hsz : ¬ (9223372036854775807 < 1 + nb.size):=ae;clear ht
 go_enter Tryz.func50,Tryz.ntmps50
 go_wp2_with fail;refine HM.out.mono ?_;rintro e w' ⟨rfl,hw⟩;have hw2:=hw.symm;subst hw2;go_wp2_with fail;refine HI.out.mono ?_;rintro e w2 ⟨rfl,hb⟩;have HB:=hid hb;clear hb;go_wp2_with fail;go_ret
 exact ⟨by rw [HT.out]; rfl,HB.out⟩
def kD (x : ByteArray) : List Value:=[.string x]
def Qz (w : World) (a : Option Addr) (n : Nat) (xs : List ByteArray) : Prop :=
 xs.length = n ∧ (n = 0 ∨ ∃ b off,a = some ⟨b,off,none⟩ ∧ ∀ (j : Nat) x,xs[j]? = some x → w.cell? ⟨b,off + j,none⟩ = some (.string x))
def iM (n : Nat) : List Sg:=(List.range 64).map fun j => (fun (i : Nat) => ((txt i,⟨#[]⟩) : Sg)) (n + j)
theorem rx (n : Nat) : (iM n).length = 64:=by simp [iM]
theorem Pv : (Tryz.prog.info? 62).map (fun i => (i.zero,i.size,i.bytes)) = some (some (.agg #[.string ⟨#[]⟩,.string ⟨#[]⟩]),2,32):=aw
theorem P6 (TB : Nat) (a : Option Addr) (n c : Nat) (l : List Sg) (w : World) (h : eA w a n l) (hn : n ≤ 1000000) (ht : jW TB w) (hTB : TB ≤ w.heap.size) :
  Calls Tryz.prog 44 #[.slice a n c] w fun e w' => e = .returned (.slice (some ⟨w.heap.size,0,none⟩) n (n + 64)) ∧ w'.ownsRow w.heap.size 62 2 (.slice (some ⟨w.heap.size,0,none⟩) (n + 64) (n + 64)) (n + 64) ((l ++ iM n).flatMap gH) ∧ Below w.heap.size w w':=by
 obtain ⟨i0,hi,hz0,hz1,hz2⟩:=info_parts Pv;have hb2 : i0.bytes * (n + 64) ≤ 281474976710656:=gN;have hml : n + 64 ≤ maxLen:=cG;have hll:=h.1
 have hLL : (l ++ iM n).length = n + 64:=by rw [List.length_append,hll,rx]
 have HA:=hid h;have HT:=hid ht;clear h ht
 go_enter Tryz.func44,Tryz.ntmps44
 go_wp2_with (first | (at_make; refine wpList_make_full _ rfl _ _ 22 rfl w.heap.size 62 i0 (.agg #[.string ⟨#[]⟩,.string ⟨#[]⟩]) 2 Tryz.underlying22 hi hz0 hz1 .i64 .i64 _ _ (n + 64) rfl rfl ae ae hb2 hml (Nat.le_refl _) ?_; intro w1 hown hgrow))
 have hZ : (madeCells (Value.agg #[.string ⟨#[]⟩,.string ⟨#[]⟩]).cells ((n + 64) * 2)).toList.length = (n + 64) * 2:=hown.1;have HF0 : Hid (FLd w 62 2 (n + 64) (((l ++ iM n).take 0).flatMap gH) (madeCells (Value.agg #[.string ⟨#[]⟩,.string ⟨#[]⟩]).cells ((n + 64) * 2)).toList w1):=hid ⟨jb,(Below.refl _ _).grown hgrow (Nat.le_refl _) ak⟩;generalize (madeCells (Value.agg #[.string ⟨#[]⟩,.string ⟨#[]⟩]).cells ((n + 64) * 2)).toList = Z at *;clear hown hgrow hi hz0 hz1 hz2 hb2 hml
 go_loopw [4] (fun i wr => ∃ t : Nat,t ≤ n + 64 ∧ i = .int .i64 t ∧ Hid (FLd w 62 2 (n + 64) (((l ++ iM n).take t).flatMap gH) Z wr)) (fun i _ => n + 64 - (intOf i).toNat)
 case atStart => exact ⟨0,ae,rfl,HF0⟩
 case round =>
  obtain ⟨t,ht,rfl,HF⟩:=hrel;clear HF0
  by_cases hlt : t < n + 64
  ·have hdl:=gT gH 2 (fun _ => rfl) (l ++ iM n) (show t ≤ _ by omega)
   have hlt' : (t : Int) < (n : Int) + 64:=ae
   by_cases hkn : t < n
   ·obtain ⟨x,hx⟩ : ∃ x,l[t]? = some x:=⟨_,aN ae⟩;have hkn' : (t : Int) < (n : Int):=ae;obtain ⟨b,off,rfl,hat⟩:=HA.out.2.resolve_left ae;obtain ⟨e0,e1⟩:=hat t x hx;have e0:=ag HF.out.bel e0;have e1:=ag HF.out.bel e1
    obtain ⟨u0,q0⟩:=HF.out.cell hZ (show t * 2 < (n + 64) * 2 by omega)
    have r0:=HF.out.free (t * 2)
    obtain ⟨u1,q1⟩:=HF.out.cell hZ (show t * 2 + 1 < (n + 64) * 2 by omega)
    have r1:=HF.out.free (t * 2 + 1);have P0:=HF.out.put (j:=t * 2) hdl ae (.string x.1);have P1:=P0.put (j:=t * 2 + 1) dM ae (.string x.2);have hnx : (((l ++ iM n).take (t + 1)).flatMap gH) = _:=eN gH (l ++ iM n) ((cF _ l ae).trans hx);have HN : Hid (FLd w 62 2 (n + 64) (((l ++ iM n).take (t + 1)).flatMap gH) Z _):=hid Em;exact Cf
   ·have hkn' : ¬ (t : Int) < (n : Int):=ae
    have hnx : (((l ++ iM n).take (t + 1)).flatMap gH) = _:=eN gH (l ++ iM n) (cC (fun (i : Nat) => ((txt i,⟨#[]⟩) : Sg)) l hll ae hlt)
    have HX:=hid (nX TB t wr ae (HT.out.later (HF.out.bel.mono hTB)));go_wp2_with fail;refine HX.out.mono ?_;rintro e w5 ⟨rfl,hb5⟩;have HF5:=HF.out.later hb5
    obtain ⟨u0,q0⟩:=HF5.cell hZ (show t * 2 < (n + 64) * 2 by omega)
    have r0:=HF5.free (t * 2)
    obtain ⟨u1,q1⟩:=HF5.cell hZ (show t * 2 + 1 < (n + 64) * 2 by omega)
    have r1:=HF5.free (t * 2 + 1);have P0:=HF5.put (j:=t * 2) hdl ae (.string (txt t));have P1:=P0.put (j:=t * 2 + 1) dM ae (.string ⟨#[]⟩);have HN : Hid (FLd w 62 2 (n + 64) (((l ++ iM n).take (t + 1)).flatMap gH) Z _):=hid Em;exact C6
  ·obtain rfl : t = n + 64:=ae;have hlt' : ¬ ((n + 64 : Nat) : Int) < (n : Int) + 64:=ae;go_wp2_with fail;go_ret
   have hfl:=gT gH 2 (fun _ => rfl) (l ++ iM n) (show n + 64 ≤ _ by omega)
   exact nQ
def i6 (n : Nat) : List Gl:=(List.range 64).map fun j => (fun (i : Nat) => ((0,false,9437184 + (i : Int) + 1) : Gl)) (n + j)
theorem qP (n : Nat) : (i6 n).length = 64:=by simp [i6]
theorem Ox : (Tryz.prog.info? 141).map (fun i => (i.zero,i.size,i.bytes)) = some (some (.agg #[.int .u8 0,.bool false,.int .u64 0]),3,16):=aw
theorem Pg (TB : Nat) (a : Option Addr) (n c : Nat) (l : List Gl) (w : World) (h : jf w a n l) (hn : n ≤ 1000000) :
  Calls Tryz.prog 46 #[.slice a n c] w fun e w' => e = .returned (.slice (some ⟨w.heap.size,0,none⟩) n (n + 64)) ∧ w'.ownsRow w.heap.size 141 3 (.slice (some ⟨w.heap.size,0,none⟩) (n + 64) (n + 64)) (n + 64) ((l ++ i6 n).flatMap fO) ∧ Below w.heap.size w w':=by
 obtain ⟨i0,hi,hz0,hz1,hz2⟩:=info_parts Ox;have hb2 : i0.bytes * (n + 64) ≤ 281474976710656:=gN;have hml : n + 64 ≤ maxLen:=cG;have hll:=h.1
 have hLL : (l ++ i6 n).length = n + 64:=by rw [List.length_append,hll,qP]
 have HA:=hid h;clear h
 go_enter Tryz.func46,Tryz.ntmps46
 go_wp2_with (first | (at_make; refine wpList_make_full _ rfl _ _ 24 rfl w.heap.size 141 i0 (.agg #[.int .u8 0,.bool false,.int .u64 0]) 3 Tryz.underlying24 hi hz0 hz1 .i64 .i64 _ _ (n + 64) rfl rfl ae ae hb2 hml (Nat.le_refl _) ?_; intro w1 hown hgrow))
 have hZ : (madeCells (Value.agg #[.int .u8 0,.bool false,.int .u64 0]).cells ((n + 64) * 3)).toList.length = (n + 64) * 3:=hown.1;have HF0 : Hid (FLd w 141 3 (n + 64) (((l ++ i6 n).take 0).flatMap fO) (madeCells (Value.agg #[.int .u8 0,.bool false,.int .u64 0]).cells ((n + 64) * 3)).toList w1):=hid ⟨jb,(Below.refl _ _).grown hgrow (Nat.le_refl _) ak⟩;generalize (madeCells (Value.agg #[.int .u8 0,.bool false,.int .u64 0]).cells ((n + 64) * 3)).toList = Z at *;clear hown hgrow hi hz0 hz1 hz2 hb2 hml
 go_loopw [4] (fun i wr => ∃ t : Nat,t ≤ n + 64 ∧ i = .int .i64 t ∧ Hid (FLd w 141 3 (n + 64) (((l ++ i6 n).take t).flatMap fO) Z wr)) (fun i _ => n + 64 - (intOf i).toNat)
 case atStart => exact ⟨0,ae,rfl,HF0⟩
 case round =>
  obtain ⟨t,ht,rfl,HF⟩:=hrel;clear HF0
  by_cases hlt : t < n + 64
  ·have hdl:=gT fO 3 (fun _ => rfl) (l ++ i6 n) (show t ≤ _ by omega)
   have hlt' : (t : Int) < (n : Int) + 64:=ae
   by_cases hkn : t < n
   ·obtain ⟨x,hx⟩ : ∃ x,l[t]? = some x:=⟨_,aN ae⟩;have hkn' : (t : Int) < (n : Int):=ae;obtain ⟨b,off,rfl,hat⟩:=HA.out.2.resolve_left ae;obtain ⟨e0,e1,e2⟩:=hat t x hx;have e0:=ag HF.out.bel e0;have e1:=ag HF.out.bel e1;have e2:=ag HF.out.bel e2
    obtain ⟨u0,q0⟩:=HF.out.cell hZ (show t * 3 < (n + 64) * 3 by omega)
    have r0:=HF.out.free (t * 3)
    obtain ⟨u1,q1⟩:=HF.out.cell hZ (show t * 3 + 1 < (n + 64) * 3 by omega)
    have r1:=HF.out.free (t * 3 + 1)
    obtain ⟨u2,q2⟩:=HF.out.cell hZ (show t * 3 + 2 < (n + 64) * 3 by omega)
    have r2:=HF.out.free (t * 3 + 2);have P0:=HF.out.put (j:=t * 3) hdl ae (.int .u8 x.1);have P1:=P0.put (j:=t * 3 + 1) dM ae (.bool x.2.1);have P2:=P1.put (j:=t * 3 + 2) dM ae (.int .u64 x.2.2);have hnx : (((l ++ i6 n).take (t + 1)).flatMap fO) = _:=eN fO (l ++ i6 n) ((cF _ l ae).trans hx);have HN : Hid (FLd w 141 3 (n + 64) (((l ++ i6 n).take (t + 1)).flatMap fO) Z _):=hid Dq;clear hat HF hnx P0 P1 P2;exact vX
   ·have hkn' : ¬ (t : Int) < (n : Int):=ae
    have hnx : (((l ++ i6 n).take (t + 1)).flatMap fO) = _:=eN fO (l ++ i6 n) (cC (fun (i : Nat) => ((0,false,9437184 + (i : Int) + 1) : Gl)) l hll ae hlt)
    obtain ⟨u0,q0⟩:=HF.out.cell hZ (show t * 3 < (n + 64) * 3 by omega)
    have r0:=HF.out.free (t * 3)
    obtain ⟨u1,q1⟩:=HF.out.cell hZ (show t * 3 + 1 < (n + 64) * 3 by omega)
    have r1:=HF.out.free (t * 3 + 1)
    obtain ⟨u2,q2⟩:=HF.out.cell hZ (show t * 3 + 2 < (n + 64) * 3 by omega)
    have r2:=HF.out.free (t * 3 + 2);have P0:=HF.out.put (j:=t * 3) hdl ae (.int .u8 0);have P1:=P0.put (j:=t * 3 + 1) dM ae (.bool false);have P2:=P1.put (j:=t * 3 + 2) dM ae (.int .u64 (9437184 + (t : Int) + 1));have HN : Hid (FLd w 141 3 (n + 64) (((l ++ i6 n).take (t + 1)).flatMap fO) Z _):=hid Dq;clear HF hnx P0 P1 P2;exact Ir
  ·obtain rfl : t = n + 64:=ae;have hlt' : ¬ ((n + 64 : Nat) : Int) < (n : Int) + 64:=ae;go_wp2_with fail;go_ret
   have hfl:=gT fO 3 (fun _ => rfl) (l ++ i6 n) (show n + 64 ≤ _ by omega)
   exact nQ
def iW (n : Nat) : List Ex:=(List.range 64).map fun j => (fun (i : Nat) => ((txt i,0) : Ex)) (n + j)
theorem rJ (n : Nat) : (iW n).length = 64:=by simp [iW]
theorem Oi : (Tryz.prog.info? 68).map (fun i => (i.zero,i.size,i.bytes)) = some (some (.agg #[.string ⟨#[]⟩,.int .i64 0]),2,24):=aw
theorem N5 (TB : Nat) (a : Option Addr) (n c : Nat) (l : List Ex) (w : World) (h : jL w a n l) (hn : n ≤ 1000000) (ht : jW TB w) (hTB : TB ≤ w.heap.size) :
  Calls Tryz.prog 49 #[.slice a n c] w fun e w' => e = .returned (.slice (some ⟨w.heap.size,0,none⟩) n (n + 64)) ∧ w'.ownsRow w.heap.size 68 2 (.slice (some ⟨w.heap.size,0,none⟩) (n + 64) (n + 64)) (n + 64) ((l ++ iW n).flatMap gM) ∧ Below w.heap.size w w':=by
 obtain ⟨i0,hi,hz0,hz1,hz2⟩:=info_parts Oi;have hb2 : i0.bytes * (n + 64) ≤ 281474976710656:=gN;have hml : n + 64 ≤ maxLen:=cG;have hll:=h.1
 have hLL : (l ++ iW n).length = n + 64:=by rw [List.length_append,hll,rJ]
 have HA:=hid h;have HT:=hid ht;clear h ht
 go_enter Tryz.func49,Tryz.ntmps49
 go_wp2_with (first | (at_make; refine wpList_make_full _ rfl _ _ 27 rfl w.heap.size 68 i0 (.agg #[.string ⟨#[]⟩,.int .i64 0]) 2 Tryz.underlying27 hi hz0 hz1 .i64 .i64 _ _ (n + 64) rfl rfl ae ae hb2 hml (Nat.le_refl _) ?_; intro w1 hown hgrow))
 have hZ : (madeCells (Value.agg #[.string ⟨#[]⟩,.int .i64 0]).cells ((n + 64) * 2)).toList.length = (n + 64) * 2:=hown.1;have HF0 : Hid (FLd w 68 2 (n + 64) (((l ++ iW n).take 0).flatMap gM) (madeCells (Value.agg #[.string ⟨#[]⟩,.int .i64 0]).cells ((n + 64) * 2)).toList w1):=hid ⟨jb,(Below.refl _ _).grown hgrow (Nat.le_refl _) ak⟩;generalize (madeCells (Value.agg #[.string ⟨#[]⟩,.int .i64 0]).cells ((n + 64) * 2)).toList = Z at *;clear hown hgrow hi hz0 hz1 hz2 hb2 hml
 go_loopw [4] (fun i wr => ∃ t : Nat,t ≤ n + 64 ∧ i = .int .i64 t ∧ Hid (FLd w 68 2 (n + 64) (((l ++ iW n).take t).flatMap gM) Z wr)) (fun i _ => n + 64 - (intOf i).toNat)
 case atStart => exact ⟨0,ae,rfl,HF0⟩
 case round =>
  obtain ⟨t,ht,rfl,HF⟩:=hrel;clear HF0
  by_cases hlt : t < n + 64
  ·have hdl:=gT gM 2 (fun _ => rfl) (l ++ iW n) (show t ≤ _ by omega)
   have hlt' : (t : Int) < (n : Int) + 64:=ae
   by_cases hkn : t < n
   ·obtain ⟨x,hx⟩ : ∃ x,l[t]? = some x:=⟨_,aN ae⟩;have hkn' : (t : Int) < (n : Int):=ae;obtain ⟨b,off,rfl,hat⟩:=HA.out.2.resolve_left ae;obtain ⟨e0,e1⟩:=hat t x hx;have e0:=ag HF.out.bel e0;have e1:=ag HF.out.bel e1
    obtain ⟨u0,q0⟩:=HF.out.cell hZ (show t * 2 < (n + 64) * 2 by omega)
    have r0:=HF.out.free (t * 2)
    obtain ⟨u1,q1⟩:=HF.out.cell hZ (show t * 2 + 1 < (n + 64) * 2 by omega)
    have r1:=HF.out.free (t * 2 + 1);have P0:=HF.out.put (j:=t * 2) hdl ae (.string x.1);have P1:=P0.put (j:=t * 2 + 1) dM ae (.int .i64 x.2);have hnx : (((l ++ iW n).take (t + 1)).flatMap gM) = _:=eN gM (l ++ iW n) ((cF _ l ae).trans hx);have HN : Hid (FLd w 68 2 (n + 64) (((l ++ iW n).take (t + 1)).flatMap gM) Z _):=hid Et;exact Cf
   ·have hkn' : ¬ (t : Int) < (n : Int):=ae
    have hnx : (((l ++ iW n).take (t + 1)).flatMap gM) = _:=eN gM (l ++ iW n) (cC (fun (i : Nat) => ((txt i,0) : Ex)) l hll ae hlt)
    have HX:=hid (nX TB t wr ae (HT.out.later (HF.out.bel.mono hTB)));go_wp2_with fail;refine HX.out.mono ?_;rintro e w5 ⟨rfl,hb5⟩;have HF5:=HF.out.later hb5
    obtain ⟨u0,q0⟩:=HF5.cell hZ (show t * 2 < (n + 64) * 2 by omega)
    have r0:=HF5.free (t * 2)
    obtain ⟨u1,q1⟩:=HF5.cell hZ (show t * 2 + 1 < (n + 64) * 2 by omega)
    have r1:=HF5.free (t * 2 + 1);have P0:=HF5.put (j:=t * 2) hdl ae (.string (txt t));have P1:=P0.put (j:=t * 2 + 1) dM ae (.int .i64 0);have HN : Hid (FLd w 68 2 (n + 64) (((l ++ iW n).take (t + 1)).flatMap gM) Z _):=hid Et;exact C6
  ·obtain rfl : t = n + 64:=ae;have hlt' : ¬ ((n + 64 : Nat) : Int) < (n : Int) + 64:=ae;go_wp2_with fail;go_ret
   have hfl:=gT gM 2 (fun _ => rfl) (l ++ iW n) (show n + 64 ≤ _ by omega)
   exact nQ
def iE (n : Nat) : List Int:=(List.range 64).map fun j => (fun (i : Nat) => ((9437184 + (i : Int) + 1) : Int)) (n + j)
theorem qi (n : Nat) : (iE n).length = 64:=by simp [iE]
theorem PO : (Tryz.prog.info? 3).map (fun i => (i.zero,i.size,i.bytes)) = some (some (.int .i64 0),1,8):=aw
theorem I7 (TB : Nat) (a : Option Addr) (n c : Nat) (l : List Int) (w : World) (h : iN w a n l) (hn : n ≤ 1000000) :
  Calls Tryz.prog 45 #[.slice a n c] w fun e w' => e = .returned (.slice (some ⟨w.heap.size,0,none⟩) n (n + 64)) ∧ w'.ownsRow w.heap.size 3 1 (.slice (some ⟨w.heap.size,0,none⟩) (n + 64) (n + 64)) (n + 64) ((l ++ iE n).flatMap fX) ∧ Below w.heap.size w w':=by
 obtain ⟨i0,hi,hz0,hz1,hz2⟩:=info_parts PO;have hb2 : i0.bytes * (n + 64) ≤ 281474976710656:=gN;have hml : n + 64 ≤ maxLen:=cG;have hll:=h.1
 have hLL : (l ++ iE n).length = n + 64:=by rw [List.length_append,hll,qi]
 have HA:=hid h;clear h
 go_enter Tryz.func45,Tryz.ntmps45
 go_wp2_with (first | (at_make; refine wpList_make_full _ rfl _ _ 23 rfl w.heap.size 3 i0 (.int .i64 0) 1 Tryz.underlying23 hi hz0 hz1 .i64 .i64 _ _ (n + 64) rfl rfl ae ae hb2 hml (Nat.le_refl _) ?_; intro w1 hown hgrow))
 have hZ : (madeCells (Value.int .i64 0).cells ((n + 64) * 1)).toList.length = (n + 64) * 1:=hown.1;have HF0 : Hid (FLd w 3 1 (n + 64) (((l ++ iE n).take 0).flatMap fX) (madeCells (Value.int .i64 0).cells ((n + 64) * 1)).toList w1):=hid ⟨jb,(Below.refl _ _).grown hgrow (Nat.le_refl _) ak⟩;generalize (madeCells (Value.int .i64 0).cells ((n + 64) * 1)).toList = Z at *;clear hown hgrow hi hz0 hz1 hz2 hb2 hml
 go_loopw [4] (fun i wr => ∃ t : Nat,t ≤ n + 64 ∧ i = .int .i64 t ∧ Hid (FLd w 3 1 (n + 64) (((l ++ iE n).take t).flatMap fX) Z wr)) (fun i _ => n + 64 - (intOf i).toNat)
 case atStart => exact ⟨0,ae,rfl,HF0⟩
 case round =>
  obtain ⟨t,ht,rfl,HF⟩:=hrel;clear HF0
  by_cases hlt : t < n + 64
  ·have hdl:=gT fX 1 (fun _ => rfl) (l ++ iE n) (show t ≤ _ by omega)
   have hlt' : (t : Int) < (n : Int) + 64:=ae
   by_cases hkn : t < n
   ·obtain ⟨x,hx⟩ : ∃ x,l[t]? = some x:=⟨_,aN ae⟩;have hkn' : (t : Int) < (n : Int):=ae;obtain ⟨b,off,rfl,hat⟩:=HA.out.2.resolve_left ae;have e0:=hat t x hx;have e0:=ag HF.out.bel e0
    obtain ⟨u0,q0⟩:=HF.out.cell hZ (show t < (n + 64) * 1 by omega)
    have r0:=HF.out.free (t);have P0:=HF.out.put (j:=t) (hdl.trans (Nat.mul_one t)) ae (.int .i64 x);have hnx : (((l ++ iE n).take (t + 1)).flatMap fX) = _:=eN fX (l ++ iE n) ((cF _ l ae).trans hx);have HN : Hid (FLd w 3 1 (n + 64) (((l ++ iE n).take (t + 1)).flatMap fX) Z _):=hid D3;exact wO
   ·have hkn' : ¬ (t : Int) < (n : Int):=ae
    have hnx : (((l ++ iE n).take (t + 1)).flatMap fX) = _:=eN fX (l ++ iE n) (cC (fun (i : Nat) => ((9437184 + (i : Int) + 1) : Int)) l hll ae hlt)
    obtain ⟨u0,q0⟩:=HF.out.cell hZ (show t < (n + 64) * 1 by omega)
    have r0:=HF.out.free (t);have P0:=HF.out.put (j:=t) (hdl.trans (Nat.mul_one t)) ae (.int .i64 (9437184 + (t : Int) + 1));have HN : Hid (FLd w 3 1 (n + 64) (((l ++ iE n).take (t + 1)).flatMap fX) Z _):=hid D3;clear HF hnx P0;exact Ir
  ·obtain rfl : t = n + 64:=ae;have hlt' : ¬ ((n + 64 : Nat) : Int) < (n : Int) + 64:=ae;go_wp2_with fail;go_ret
   have hfl:=gT fX 1 (fun _ => rfl) (l ++ iE n) (show n + 64 ≤ _ by omega)
   exact nQ
def jJ (n : Nat) : List ByteArray:=(List.range 64).map fun j => (fun (i : Nat) => ((txt i) : ByteArray)) (n + j)
theorem rq (n : Nat) : (jJ n).length = 64:=by simp [jJ]
theorem P9 : (Tryz.prog.info? 9).map (fun i => (i.zero,i.size,i.bytes)) = some (some (.string ⟨#[]⟩),1,16):=aw
theorem Pp (TB : Nat) (a : Option Addr) (n c : Nat) (l : List ByteArray) (w : World) (h : Qz w a n l) (hn : n ≤ 1000000) (ht : jW TB w) (hTB : TB ≤ w.heap.size) :
  Calls Tryz.prog 22 #[.slice a n c] w fun e w' => e = .returned (.slice (some ⟨w.heap.size,0,none⟩) n (n + 64)) ∧ w'.ownsRow w.heap.size 9 1 (.slice (some ⟨w.heap.size,0,none⟩) (n + 64) (n + 64)) (n + 64) ((l ++ jJ n).flatMap kD) ∧ Below w.heap.size w w':=by
 obtain ⟨i0,hi,hz0,hz1,hz2⟩:=info_parts P9;have hb2 : i0.bytes * (n + 64) ≤ 281474976710656:=gN;have hml : n + 64 ≤ maxLen:=cG;have hll:=h.1
 have hLL : (l ++ jJ n).length = n + 64:=by rw [List.length_append,hll,rq]
 have HA:=hid h;have HT:=hid ht;clear h ht
 go_enter Tryz.func22,Tryz.ntmps22
 go_wp2_with (first | (at_make; refine wpList_make_full _ rfl _ _ 37 rfl w.heap.size 9 i0 (.string ⟨#[]⟩) 1 Tryz.underlying37 hi hz0 hz1 .i64 .i64 _ _ (n + 64) rfl rfl ae ae hb2 hml (Nat.le_refl _) ?_; intro w1 hown hgrow))
 have hZ : (madeCells (Value.string ⟨#[]⟩).cells ((n + 64) * 1)).toList.length = (n + 64) * 1:=hown.1;have HF0 : Hid (FLd w 9 1 (n + 64) (((l ++ jJ n).take 0).flatMap kD) (madeCells (Value.string ⟨#[]⟩).cells ((n + 64) * 1)).toList w1):=hid ⟨jb,(Below.refl _ _).grown hgrow (Nat.le_refl _) ak⟩;generalize (madeCells (Value.string ⟨#[]⟩).cells ((n + 64) * 1)).toList = Z at *;clear hown hgrow hi hz0 hz1 hz2 hb2 hml
 go_loopw [4] (fun i wr => ∃ t : Nat,t ≤ n + 64 ∧ i = .int .i64 t ∧ Hid (FLd w 9 1 (n + 64) (((l ++ jJ n).take t).flatMap kD) Z wr)) (fun i _ => n + 64 - (intOf i).toNat)
 case atStart => exact ⟨0,ae,rfl,HF0⟩
 case round =>
  obtain ⟨t,ht,rfl,HF⟩:=hrel;clear HF0
  by_cases hlt : t < n + 64
  ·have hdl:=gT kD 1 (fun _ => rfl) (l ++ jJ n) (show t ≤ _ by omega)
   have hlt' : (t : Int) < (n : Int) + 64:=ae
   by_cases hkn : t < n
   ·obtain ⟨x,hx⟩ : ∃ x,l[t]? = some x:=⟨_,aN ae⟩;have hkn' : (t : Int) < (n : Int):=ae;obtain ⟨b,off,rfl,hat⟩:=HA.out.2.resolve_left ae;have e0:=hat t x hx;have e0:=ag HF.out.bel e0
    obtain ⟨u0,q0⟩:=HF.out.cell hZ (show t < (n + 64) * 1 by omega)
    have r0:=HF.out.free (t);have P0:=HF.out.put (j:=t) (hdl.trans (Nat.mul_one t)) ae (.string x);have hnx : (((l ++ jJ n).take (t + 1)).flatMap kD) = _:=eN kD (l ++ jJ n) ((cF _ l ae).trans hx);have HN : Hid (FLd w 9 1 (n + 64) (((l ++ jJ n).take (t + 1)).flatMap kD) Z _):=hid CF;exact wO
   ·have hkn' : ¬ (t : Int) < (n : Int):=ae
    have hnx : (((l ++ jJ n).take (t + 1)).flatMap kD) = _:=eN kD (l ++ jJ n) (cC (fun (i : Nat) => ((txt i) : ByteArray)) l hll ae hlt)
    have HX:=hid (nX TB t wr ae (HT.out.later (HF.out.bel.mono hTB)));go_wp2_with fail;refine HX.out.mono ?_;rintro e w5 ⟨rfl,hb5⟩;have HF5:=HF.out.later hb5
    obtain ⟨u0,q0⟩:=HF5.cell hZ (show t < (n + 64) * 1 by omega)
    have r0:=HF5.free (t);have P0:=HF5.put (j:=t) (hdl.trans (Nat.mul_one t)) ae (.string (txt t));have HN : Hid (FLd w 9 1 (n + 64) (((l ++ jJ n).take (t + 1)).flatMap kD) Z _):=hid CF;clear HF hnx P0 HX hb5 HF5;generalize txt t = tx at *;exact vX
  ·obtain rfl : t = n + 64:=ae;have hlt' : ¬ ((n + 64 : Nat) : Int) < (n : Int) + 64:=ae;go_wp2_with fail;go_ret
   have hfl:=gT kD 1 (fun _ => rfl) (l ++ jJ n) (show n + 64 ≤ _ by omega)
   exact nQ
end Go.Proofs.YtepnnenohjfkbaaGreatDoor

/-
  Texts Mc Ki Me Laid HldLift.
-/
import Derived.ChangeArms
import Derived.FnData
import Derived.Lib.LaidTab
import Derived.OpenShut
import Derived.Stop.Joined
import Derived.Stop.LaidErr
import Derived.Test.YtepnnenohjfkbaaGreatDoorCards
import Derived.Test.YtepnnenohjfkbaaGreatDoorP00
import Derived.Test.YtepnnenohjfkbaaGreatDoorP06
import Derived.Test.YtepnnenohjfkbaaGreatDoorP39
import Derived.Test.YtepnnenohjfkbaaGreatDoorP40
import Derived.Test.YtepnnenohjfkbaaGreatDoorP47
import Derived.Test.YtepnnenohjfkbaaGreatDoorP48
set_option linter.unusedVariables false
set_option maxRecDepth 100000
set_option maxHeartbeats 16000000
namespace Go.Proofs.YtepnnenohjfkbaaGreatDoor
open Go.RowKit
def co3 : List InM:=[inn 24 0,inn 6 0]
theorem at3 {W : World} {B : Nat} (h : W.heap[B]? = some (rX 24 0 none 0 0 6 0 none 0 0)) : AtIn W (some ⟨B,0,none⟩) 2 co3:=by
 refine ⟨rfl,.inr ⟨B,0,rfl,fun j x hj => ?_⟩⟩
 match j,hj with
 | 0,hj | 1,hj =>
  exact tT
 | j + 2,hj => simp [co3] at hj
theorem Qq : ∀ y ∈ co3,0 ≤ y.1 ∧ y.1 ≤ 255 ∧ y.2.2.1 = (none,0,0) ∧ y.2.2.2 = []:=by simp [co3,inn]
theorem eT {TB FB : Nat} {ca : Option Addr} {n : Nat} {co : List InM} : ∀ x ∈ (mq TB FB ca n n co).fns,x.2.2.1.2.1 ≤ x.2.2.1.2.2:=nJ
def tx2 (a b : ByteArray) (j : Nat) : ByteArray:=if j = 0 then a else b
theorem SC (TB FB CB : Nat) : ky (mq TB FB (some ⟨CB,0,none⟩) 2 2 co3) 0 (tx2 ⟨#[]⟩ ⟨#[119]⟩) 2 = true:=aw
theorem Sq (TB FB CB : Nat) : ky (mq TB FB (some ⟨CB,0,none⟩) 2 2 co3) 0 (tx2 ⟨#[]⟩ ⟨#[108]⟩) 2 = false:=aw
theorem Sw (TB FB CB : Nat) : ky (mq TB FB (some ⟨CB,0,none⟩) 2 2 co3) 0 (tx2 ⟨#[]⟩ ⟨#[]⟩) 1 = false:=aw
theorem Ss (TB FB CB : Nat) : ky (mq TB FB (some ⟨CB,0,none⟩) 2 2 co3) 1 (tx2 ⟨#[]⟩ ⟨#[119]⟩) 2 = false:=aw
theorem Og {W : World} {B : Nat} {a b : ByteArray} (h : W.heap[B]? = some (ma a b)) : AtT W (some ⟨B,0,none⟩) 2 (tx2 a b) :=
 .inr ⟨B,0,rfl,fun j hj => by
  have : j = 0 ∨ j = 1:=ae
  rcases this with rfl | rfl
  ·exact ai h
  ·exact ai h⟩
theorem RR {W : World} {B : Nat} {a b : ByteArray} (h : W.heap[B]? = some (im a)) : AtT W (some ⟨B,0,none⟩) 1 (tx2 a b) :=
 .inr ⟨B,0,rfl,fun j hj => by
  have : j = 0:=ae;subst this;exact ai h⟩
theorem KU {a b : ByteArray} (ha : a.size ≤ 1) (hb : b.size ≤ 1) (j : Nat) : (tx2 a b j).size ≤ 281474976710656:=by
 unfold tx2
 split <;> omega
theorem LP (w : World) (hk : aW w) (hp : 0 < w.heap.size) : Calls Tryz.prog 20 #[] w fun e w' => e = .returned (.bool true) ∧ Below w.heap.size w w':=by
 have HK:=hid hk;clear hk
 go_enter Tryz.func20,Tryz.ntmps20
 go_wp2_with fail;have B1:=aj w (aB ⟨#[]⟩ ⟨#[119]⟩);have b1:=heap_alloc_new w (aB ⟨#[]⟩ ⟨#[119]⟩);have z1 : (w.alloc (aB ⟨#[]⟩ ⟨#[119]⟩)).heap.size = w.heap.size + 1:=ak;generalize w.alloc (aB ⟨#[]⟩ ⟨#[119]⟩) = W1 at *;have B2:=aj W1 (rX 24 0 none 0 0 6 0 none 0 0);have b2:=heap_alloc_new W1 (rX 24 0 none 0 0 6 0 none 0 0)
 have z2 : (W1.alloc (rX 24 0 none 0 0 6 0 none 0 0)).heap.size = w.heap.size + 1 + 1:=by simp [z1]
 rw [z1] at b2;have b1:=ar B2 b1;have B2:=B1.trans (B2.mono B1.size);generalize W1.alloc (rX 24 0 none 0 0 6 0 none 0 0) = W2 at *;have B3:=aj W2 (aI 0 ⟨#[]⟩ (some ⟨w.heap.size + 1,0,none⟩) 2 2);have b3:=heap_alloc_new W2 (aI 0 ⟨#[]⟩ (some ⟨w.heap.size + 1,0,none⟩) 2 2)
 have z3 : (W2.alloc (aI 0 ⟨#[]⟩ (some ⟨w.heap.size + 1,0,none⟩) 2 2)).heap.size = w.heap.size + 1 + 1 + 1:=by simp [z2]
 rw [z2] at b3;have b1:=ar B3 b1;have b2:=ar B3 b2;have B3:=B2.trans (B3.mono B2.size);generalize W2.alloc (aI 0 ⟨#[]⟩ (some ⟨w.heap.size + 1,0,none⟩) 2 2) = W3 at *;have B4:=aj W3 (bD (some ⟨w.heap.size,0,none⟩) 1 1 none 0 0 none 0 0 0 0 (some ⟨w.heap.size + 1 + 1,0,none⟩) 1 1 none 0 0 none 0 0);have b4:=heap_alloc_new W3 (bD (some ⟨w.heap.size,0,none⟩) 1 1 none 0 0 none 0 0 0 0 (some ⟨w.heap.size + 1 + 1,0,none⟩) 1 1 none 0 0 none 0 0)
 have z4 : (W3.alloc (bD (some ⟨w.heap.size,0,none⟩) 1 1 none 0 0 none 0 0 0 0 (some ⟨w.heap.size + 1 + 1,0,none⟩) 1 1 none 0 0 none 0 0)).heap.size = w.heap.size + 1 + 1 + 1 + 1:=by simp [z3]
 rw [z3] at b4;have b1:=ar B4 b1;have b2:=ar B4 b2;have b3:=ar B4 b3;have B4:=B3.trans (B4.mono B3.size);generalize W3.alloc (bD (some ⟨w.heap.size,0,none⟩) 1 1 none 0 0 none 0 0 0 0 (some ⟨w.heap.size + 1 + 1,0,none⟩) 1 1 none 0 0 none 0 0) = W4 at *
 have HH:=hid (fun (W : World) (hb : Below W4.heap.size W4 W) (f : Int) (sb sn : Nat) (a b : ByteArray) (hf : 0 ≤ f ∧ f ≤ 1) (hs : sn ≤ 2) (ha : a.size ≤ 1) (hbs : b.size ≤ 1) (hT : AtT W (some ⟨sb,0,none⟩) sn (tx2 a b)) =>
  (Dz (mq w.heap.size (w.heap.size + 1 + 1) (some ⟨w.heap.size + 1,0,none⟩) 2 2 co3) f W ae ae (HK.out.later (B4.trans (hb.mono B4.size)) hp) (Nat.lt_of_lt_of_le hp (B4.trans (hb.mono B4.size)).size) (MG (ar hb b1) (ar hb b3) (at3 (ar hb b2)) (fun bb off cc hh => by cases hh; exact dY (ar hb b2)) Qq) eT (sc:=sn) hT ae (fun j _ => KU ha hbs j) : Calls Tryz.prog 23 #[.agg #[.slice (some ⟨w.heap.size,0,none⟩) 1 1,.slice none 0 0,.slice none 0 0,.int .i64 0,.int .i64 0,.slice (some ⟨w.heap.size + 1 + 1,0,none⟩) 1 1,.slice none 0 0,.slice none 0 0],.int .i64 f,.slice (some ⟨sb,0,none⟩) sn sn] W _))
 have HM:=hid (fun (W : World) (hb : Below W4.heap.size W4 W) => ar hb b4)
 have HB4:=hid B4;have B5:=aj W4 (ma ⟨#[]⟩ ⟨#[119]⟩);have b5:=heap_alloc_new W4 (ma ⟨#[]⟩ ⟨#[119]⟩);rw [z4] at b5;have HB5:=hid B5;clear b1 b2 b3 b4 B1 B2 B3 B4 B5 z1 z2 z3 z4;refine (HH.out _ HB5.out 0 (w.heap.size + 1 + 1 + 1 + 1) 2 ⟨#[]⟩ ⟨#[119]⟩ ae ae aH aH (Og b5)).mono ?_;rintro e w6 ⟨rfl,hb6⟩;rw [SC];have HB6:=hid (HB5.out.trans (hb6.mono HB5.out.size));clear hb6 b5 HB5;have mb:=HM.out _ HB6.out;have m0:=ai (i:=0) mb;have m1:=ai (i:=1) mb;have m2:=ai (i:=2) mb;have m3:=ai (i:=3) mb;have m4:=ai (i:=4) mb;have m5:=ai (i:=5) mb;have m6:=ai (i:=6) mb;have m7:=ai (i:=7) mb;have hml:=dY mb;go_wp2_with fail;have Bw7:=aj w6 (ma ⟨#[]⟩ ⟨#[108]⟩);have bw7:=heap_alloc_new w6 (ma ⟨#[]⟩ ⟨#[108]⟩);have BB:=HB6.out.trans (Bw7.mono HB6.out.size);clear mb m0 m1 m2 m3 m4 m5 m6 m7 hml;refine (HH.out _ BB 0 w6.heap.size 2 ⟨#[]⟩ ⟨#[108]⟩ ae ae aH aH (Og bw7)).mono ?_;rintro e w7 ⟨rfl,hbx⟩;rw [Sq];have HB7:=hid (BB.trans (hbx.mono BB.size));clear hbx BB Bw7 bw7 HB6;have mb:=HM.out _ HB7.out;have m0:=ai (i:=0) mb;have m1:=ai (i:=1) mb;have m2:=ai (i:=2) mb;have m3:=ai (i:=3) mb;have m4:=ai (i:=4) mb;have m5:=ai (i:=5) mb;have m6:=ai (i:=6) mb;have m7:=ai (i:=7) mb;have hml:=dY mb;go_wp2_with fail;have Bw8:=aj w7 (im ⟨#[]⟩);have bw8:=heap_alloc_new w7 (im ⟨#[]⟩);have BB:=HB7.out.trans (Bw8.mono HB7.out.size);clear mb m0 m1 m2 m3 m4 m5 m6 m7 hml;refine (HH.out _ BB 0 w7.heap.size 1 ⟨#[]⟩ ⟨#[]⟩ ae ae aH aH (RR bw8)).mono ?_;rintro e w8 ⟨rfl,hbx⟩;rw [Sw];have HB8:=hid (BB.trans (hbx.mono BB.size));clear hbx BB Bw8 bw8 HB7;have mb:=HM.out _ HB8.out;have m0:=ai (i:=0) mb;have m1:=ai (i:=1) mb;have m2:=ai (i:=2) mb;have m3:=ai (i:=3) mb;have m4:=ai (i:=4) mb;have m5:=ai (i:=5) mb;have m6:=ai (i:=6) mb;have m7:=ai (i:=7) mb;have hml:=dY mb;go_wp2_with fail;have Bw9:=aj w8 (ma ⟨#[]⟩ ⟨#[119]⟩);have bw9:=heap_alloc_new w8 (ma ⟨#[]⟩ ⟨#[119]⟩);have BB:=HB8.out.trans (Bw9.mono HB8.out.size);clear mb m0 m1 m2 m3 m4 m5 m6 m7 hml
 refine (HH.out _ BB 1 w8.heap.size 2 ⟨#[]⟩ ⟨#[119]⟩ ae ae aH aH (Og bw9)).mono ?_;rintro e w9 ⟨rfl,hbx⟩;rw [Ss];have HB9:=hid (BB.trans (hbx.mono BB.size));clear hbx BB Bw9 bw9 HB8;go_wp2_with fail;go_ret;exact ⟨rfl,HB4.out.trans (HB9.out.mono HB4.out.size)⟩
def eqT (n1 n2 : Nat) (T U : Nat → ByteArray) : Bool:=decide (n1 = n2) && (List.range n1).all fun j => (T j).toList == (U j).toList
theorem vh {n1 n2 : Nat} {T U : Nat → ByteArray} : eqT n1 n2 T U = true ↔ n1 = n2 ∧ ∀ j,j < n1 → T j = U j:=by
 unfold eqT;rw [Bool.and_eq_true,decide_eq_true_eq,List.all_eq_true]
 exact ⟨fun ⟨h1,h2⟩ => ⟨h1,fun j hj => D9.1 (h2 j (List.mem_range.2 hj))⟩,fun ⟨h1,h2⟩ => ⟨h1,fun j hj => D9.2 (h2 j (List.mem_range.1 hj))⟩⟩
theorem Qm {w : World} {a1 a2 : Option Addr} {n1 n2 c1 c2 : Nat} {T U : Nat → ByteArray} (h1 : AtT w a1 n1 T) (h2 : AtT w a2 n2 U) (hn1 : n1 ≤ 1099511627776) (hn2 : n2 ≤ 1099511627776) :
  Calls Tryz.prog 19 #[.slice a1 n1 c1,.slice a2 n2 c2] w fun e w' => e = .returned (.bool (eqT n1 n2 T U)) ∧ Below w.heap.size w w':=by
 by_cases hne : n1 = n2
 rotate_left
 ·have hd : ((n1 : Int) != (n2 : Int)) = true:=aG
  have HV:=hid (show eqT n1 n2 T U = false by unfold eqT; rw [decide_eq_false hne,Bool.false_and])
  clear h1 h2 hne
  go_enter Tryz.func19,Tryz.ntmps19
  go_wp2_with fail;go_ret;exact ⟨cd,Below.refl _ _⟩
 subst hne;have hd : ((n1 : Int) != (n1 : Int)) = false:=ak;have H1:=hid h1;have H2:=hid h2;clear h1 h2
 go_enter Tryz.func19,Tryz.ntmps19
 go_wp2_with fail
 go_loopw [5] (fun i wr => ∃ k m : Nat,k ≤ n1 ∧ i = .int .i64 k ∧ wr = w.drewN m ∧ Hid (∀ j,j < k → T j = U j)) (fun i _ => n1 - (intOf i).toNat)
 case atStart => exact ⟨0,0,ae,rfl,rfl,hid fun j hj => absurd hj ae⟩
 case round =>
  obtain ⟨k,m,hk,rfl,rfl,hall⟩:=hrel
  by_cases hlt : k < n1
  ·obtain ⟨b1,o1,e1,G1⟩:=H1.out.resolve_left ae;obtain ⟨b2,o2,e2,G2⟩:=H2.out.resolve_left ae;have g1:=G1 k hlt;have g2:=G2 k hlt;clear G1 G2;have hlt' : (k : Int) < (n1 : Int):=ae;rw [e1,e2]
   by_cases hx : T k = U k
   ·have HX : Hid (∀ j,j < k + 1 → T j = U j):=hid fun j hj => by
     rcases Nat.lt_or_ge j k with hy | hy
     ·exact hall.out j hy
     ·obtain rfl : j = k:=ae;exact hx
    rw [hx] at g1;clear hx e1 e2;generalize U k = x at *;have hb : (x.toList != x.toList) = false:=ak;have hb' : (x.toList == x.toList) = true:=ak;go_wp2_with fail
    go_quiet (fail)
    go_wp2_with fail;exact ⟨⟨k + 1,m + nq,ae,aX,rfl,HX⟩,aZ⟩
   ·have HV:=hid (show eqT n1 n1 T U = false by
     cases h : eqT n1 n1 T U with
     | false => rfl
     | true => exact absurd ((vh.1 h).2 k hlt) hx)
    have hb' : ((T k).toList == (U k).toList) = false:=by
     cases h : ((T k).toList == (U k).toList) with
     | false => rfl
     | true => exact absurd (D9.1 h) hx
    have hb : ((T k).toList != (U k).toList) = true:=by rw [bne,hb']; rfl
    have HBQ:=hid (fun (q : Nat) => (below_drewN w m).trans ((below_drewN (w.drewN m) q).mono (below_drewN w m).size))
    clear hx e1 e2;generalize T k = x at *;generalize U k = y at *;go_wp2_with fail
    go_quiet (fail)
    go_wp2_with fail;go_ret;exact ⟨cd,HBQ.out _⟩
  ·have hkn : k = n1:=ae;subst hkn;have HV:=hid (show eqT k k T U = true from vh.2 ⟨rfl,hall.out⟩);have HBQ:=hid (below_drewN w m);go_wp2_with fail;go_ret;exact ⟨cd,HBQ.out⟩
def wI (T : Nat → ByteArray) (n : Nat) : List ByteArray:=(List.range n).map T
theorem jN (T : Nat → ByteArray) (n : Nat) : (wI T n).length = n:=by simp [wI]
theorem yG {T : Nat → ByteArray} {n j : Nat} (hj : j < n) : (wI T n)[j]? = some (T j):=by simp [wI,hj]
theorem Ph {w : World} {a : Option Addr} {n : Nat} {T : Nat → ByteArray} (h : AtT w a n T) : Qz w a n (wI T n) :=
 ⟨jN T n,h.imp id fun ⟨b,off,e,hc⟩ => ⟨b,off,e,fun j x hj => by
  have hl:=ax hj;rw [jN] at hl;rw [yG hl] at hj
  cases hj
  exact hc j hl⟩⟩
theorem N7 {w : World} {base B n c : Nat} {T : Nat → ByteArray} (h : w.ownsRow base 9 1 (.slice (some ⟨B,0,none⟩) (n + 64) c) (n + 64) ((wI T n ++ jJ n).flatMap kD)) : AtT w (some ⟨B,0,none⟩) n T :=
 .inr ⟨B,0,rfl,fun j hj => by
  have hj' : (wI T n ++ jJ n)[j]? = some (T j):=(cF _ _ (by rw [jN]; exact hj)).trans (yG hj)
  have:=bw (k:=1) kD (fun _ => rfl) h (by rw [List.length_append,jN,rq]) hj' 0 ae
  rw [Nat.mul_one] at this;rw [Nat.zero_add];exact this⟩
abbrev lhS (A K : Nat) (a0 a1 a2 a3 a4 a5 a6 a7 k0 k1 k2 k3 k4 k5 k6 k7 : Value) (w W : World) : Prop :=
 W.cell? ⟨A,0,none⟩ = some a0 ∧ W.cell? ⟨A,1,none⟩ = some a1 ∧ W.cell? ⟨A,2,none⟩ = some a2 ∧ W.cell? ⟨A,3,none⟩ = some a3 ∧ W.cell? ⟨A,4,none⟩ = some a4 ∧ W.cell? ⟨A,5,none⟩ = some a5 ∧ W.cell? ⟨A,6,none⟩ = some a6 ∧ W.cell? ⟨A,7,none⟩ = some a7 ∧ W.cell? ⟨K,0,none⟩ = some k0 ∧ W.cell? ⟨K,1,none⟩ = some k1 ∧ W.cell? ⟨K,2,none⟩ = some k2 ∧ W.cell? ⟨K,3,none⟩ = some k3 ∧ W.cell? ⟨K,4,none⟩ = some k4 ∧ W.cell? ⟨K,5,none⟩ = some k5 ∧ W.cell? ⟨K,6,none⟩ = some k6 ∧ W.cell? ⟨K,7,none⟩ = some k7 ∧ Below w.heap.size w W
theorem lhS.later {A K : Nat} {a0 a1 a2 a3 a4 a5 a6 a7 k0 k1 k2 k3 k4 k5 k6 k7 : Value} {w W W' : World} (h : lhS A K a0 a1 a2 a3 a4 a5 a6 a7 k0 k1 k2 k3 k4 k5 k6 k7 w W) (hb : Below W.heap.size W W') : lhS A K a0 a1 a2 a3 a4 a5 a6 a7 k0 k1 k2 k3 k4 k5 k6 k7 w W':=by
 obtain ⟨h0,h1,h2,h3,h4,h5,h6,h7,h8,h9,h10,h11,h12,h13,h14,h15,h16⟩:=h;exact ⟨ag hb h0,ag hb h1,ag hb h2,ag hb h3,ag hb h4,ag hb h5,ag hb h6,ag hb h7,ag hb h8,ag hb h9,ag hb h10,ag hb h11,ag hb h12,ag hb h13,ag hb h14,ag hb h15,h16.trans (hb.mono h16.size)⟩
theorem Gb (TB : Nat) (m : MM) (f : Int) (w : World) (hf : -9223372036854775808 ≤ f ∧ f ≤ 9223372036854775807) (hk : aW w) (hp : 0 < w.heap.size) (hr : Raw w m) (hTn : jW TB w) (hTB : TB ≤ w.heap.size) {sa : Option Addr} {sn sc : Nat} {T : Nat → ByteArray} (hT : AtT w sa sn T) (hsn : sn ≤ 281474976710656) (hsz : ∀ j,j < sn → (T j).size ≤ 281474976710656) :
  Calls Tryz.prog 6 #[.agg (mV m),.int .i64 f,.slice sa sn sc] w fun e w' => e = .returned (.bool true) ∧ Below w.heap.size w w':=by
 have HK:=hid (fun (W : World) (hb : Below w.heap.size w W) => And.intro (hk.later hb hp) (Nat.lt_of_lt_of_le hp hb.size))
 have HR:=hid (fun (W : World) (hb : Below w.heap.size w W) => hr.later hb)
 have HM:=hid (fun (hs : Small m) => hr.ok hs)
 have HSR:=hid (fun hs => Mg hr hs)
 have HCP:=hid hr.cap
 have HTT:=hid (fun (W : World) (hb : Below w.heap.size w W) => hT.later hb)
 have HTE:=hid (fun (W : World) (hb : Below w.heap.size w W) => (⟨hTn.later (hb.mono hTB),Nat.le_trans hTB hb.size⟩ : jW TB W ∧ TB ≤ W.heap.size))
 have HSZ:=hid hsz;have B0:=aj w (.cells (mV m) 29);have bx : (w.alloc (.cells (mV m) 29)).heap[w.heap.size]? = some (.cells (mV m) 29):=heap_alloc_new w (.cells (mV m) 29);have HW : w.alloc (bD m.ta m.tn m.tc m.ha m.hn m.hc m.ga m.gn m.gc m.fi m.mo m.fa m.fn m.fc m.da m.dn m.dc m.ea m.en m.ec) = w.alloc (.cells (mV m) 29):=rfl;clear hk hr hT hsz hTn hTB;generalize w.alloc (.cells (mV m) 29) = W0 at *;have HB0:=hid B0;have HBX:=hid bx;clear B0 bx
 show Calls Tryz.prog 6 #[.agg #[.slice m.ta m.tn m.tc,.slice m.ha m.hn m.hc,.slice m.ga m.gn m.gc,.int .i64 m.fi,.int .i64 m.mo,.slice m.fa m.fn m.fc,.slice m.da m.dn m.dc,.slice m.ea m.en m.ec],.int .i64 f,.slice sa sn sc] w _
 go_enter Tryz.func6,Tryz.ntmps6
 go_wp2_with fail;refine (LP W0 (HK.out W0 HB0.out).1 (HK.out W0 HB0.out).2).mono ?_;rintro e w1 ⟨rfl,hb⟩;have HB1:=hid (HB0.out.trans (hb.mono HB0.out.size));have HBX:=hid (ar hb HBX.out);clear hb HB0 HW;obtain ⟨z1,z2,z3,z4,z5⟩:=HR.out w1 HB1.out;have H9:=Om m w1 z1 z2 z3 z4 z5;unfold mV at H9;have HH9:=hid H9;clear H9 z1 z2 z3 z4 z5;have m0 : w1.cell? ⟨w.heap.size,0,none⟩ = some (.slice m.ta m.tn m.tc):=ai HBX.out;have m1 : w1.cell? ⟨w.heap.size,1,none⟩ = some (.slice m.ha m.hn m.hc):=ai HBX.out;have m2 : w1.cell? ⟨w.heap.size,2,none⟩ = some (.slice m.ga m.gn m.gc):=ai HBX.out;have m3 : w1.cell? ⟨w.heap.size,3,none⟩ = some (.int .i64 m.fi):=ai HBX.out;have m4 : w1.cell? ⟨w.heap.size,4,none⟩ = some (.int .i64 m.mo):=ai HBX.out;have m5 : w1.cell? ⟨w.heap.size,5,none⟩ = some (.slice m.fa m.fn m.fc):=ai HBX.out;have m6 : w1.cell? ⟨w.heap.size,6,none⟩ = some (.slice m.da m.dn m.dc):=ai HBX.out;have m7 : w1.cell? ⟨w.heap.size,7,none⟩ = some (.slice m.ea m.en m.ec):=ai HBX.out;go_wp2_with fail;clear m0 m1 m2 m3 m4 m5 m6 m7;refine HH9.out.mono ?_;rintro e w2 ⟨s,rfl,hb,hs⟩;have HB2:=hid (HB1.out.trans (hb.mono HB1.out.size));have HBX:=hid (ar hb HBX.out);clear hb HH9 HB1
 by_cases hs4 : s ≤ 20000
 rotate_left
 ·have h4' : (20000 : Int) < (s : Int):=ae;clear hs hs4;exact kK
 have h4' : ¬ (20000 : Int) < (s : Int):=ae;obtain ⟨hsr,hszs⟩:=HSR.out (hs hs4)
 have hsm : Small m:=by have:=hs hs4; unfold Small; omega
 clear hs hs4
 by_cases hs5 : sn ≤ 20000
 rotate_left
 ·have h5' : (20000 : Int) < (sn : Int):=ae;clear hs5;exact kK
 have h5' : ¬ (20000 : Int) < (sn : Int):=ae
 have HMO:=hid (fun (W : World) (hb : Below w.heap.size w W) => fun R g h1 h2 => (HM.out hsm R g (Nat.le_trans hb.size h1) (Nat.le_trans hb.size h2)).later hb)
 have HMS:=hid (fun (W : World) (hb : Below w.heap.size w W) => hsr.later hb)
 have HZZ:=hid hszs;have H21:=hid (Md TB m w2 (HMS.out w2 HB2.out) (HTE.out w2 HB2.out).1 (HTE.out w2 HB2.out).2);unfold mV at H21;clear hsr hszs;have m0 : w2.cell? ⟨w.heap.size,0,none⟩ = some (.slice m.ta m.tn m.tc):=ai HBX.out;have m1 : w2.cell? ⟨w.heap.size,1,none⟩ = some (.slice m.ha m.hn m.hc):=ai HBX.out;have m2 : w2.cell? ⟨w.heap.size,2,none⟩ = some (.slice m.ga m.gn m.gc):=ai HBX.out;have m3 : w2.cell? ⟨w.heap.size,3,none⟩ = some (.int .i64 m.fi):=ai HBX.out;have m4 : w2.cell? ⟨w.heap.size,4,none⟩ = some (.int .i64 m.mo):=ai HBX.out;have m5 : w2.cell? ⟨w.heap.size,5,none⟩ = some (.slice m.fa m.fn m.fc):=ai HBX.out;have m6 : w2.cell? ⟨w.heap.size,6,none⟩ = some (.slice m.da m.dn m.dc):=ai HBX.out;have m7 : w2.cell? ⟨w.heap.size,7,none⟩ = some (.slice m.ea m.en m.ec):=ai HBX.out;go_wp2_with fail;clear m0 m1 m2 m3 m4 m5 m6 m7;refine H21.out.mono ?_;rintro e w3 ⟨BT,BH,BG,BF,BD,BE,fs,ds,rfl,hWd,hb⟩;have HWD:=hid hWd;have HB3:=hid (HB2.out.trans (hb.mono HB2.out.size));have HBX:=hid (ar hb HBX.out);clear hb hWd H21 HB2;unfold wMM;dsimp only;go_wp2_with fail;have BK:=aj w3 (bD (some ⟨BT,0,none⟩) m.tn (m.tn + 64) (some ⟨BH,0,none⟩) m.hn (m.hn + 64) (some ⟨BG,0,none⟩) m.gn (m.gn + 64) m.fi m.mo (some ⟨BF,0,none⟩) m.fn (m.fn + 64) (some ⟨BD,0,none⟩) m.dn (m.dn + 64) (some ⟨BE,0,none⟩) m.en (m.en + 64));have bk:=heap_alloc_new w3 (bD (some ⟨BT,0,none⟩) m.tn (m.tn + 64) (some ⟨BH,0,none⟩) m.hn (m.hn + 64) (some ⟨BG,0,none⟩) m.gn (m.gn + 64) m.fi m.mo (some ⟨BF,0,none⟩) m.fn (m.fn + 64) (some ⟨BD,0,none⟩) m.dn (m.dn + 64) (some ⟨BE,0,none⟩) m.en (m.en + 64));have HB4:=hid (HB3.out.trans (BK.mono HB3.out.size));have HBX:=hid (ar BK HBX.out);have HWD:=hid (HWD.out.later BK);have HBK:=hid bk;clear bk BK HB3;generalize w3.alloc (bD (some ⟨BT,0,none⟩) m.tn (m.tn + 64) (some ⟨BH,0,none⟩) m.hn (m.hn + 64) (some ⟨BG,0,none⟩) m.gn (m.gn + 64) m.fi m.mo (some ⟨BF,0,none⟩) m.fn (m.fn + 64) (some ⟨BD,0,none⟩) m.dn (m.dn + 64) (some ⟨BE,0,none⟩) m.en (m.en + 64)) = W4 at *
 generalize w3.heap.size = K4 at *;have H22:=hid (Pp TB sa sn sc (wI T sn) W4 (Ph (HTT.out W4 HB4.out)) ae (HTE.out W4 HB4.out).1 (HTE.out W4 HB4.out).2);refine H22.out.mono ?_;rintro e W5 ⟨rfl,hrow,hb⟩;have HB5:=hid (HB4.out.trans (hb.mono HB4.out.size));have HBX:=hid (ar hb HBX.out);have HBK:=hid (ar hb HBK.out);have HWD:=hid (HWD.out.later hb);have HROW:=hid hrow;clear hb hrow H22 HB4;generalize W4.heap.size = TBk at *
 have HMK:=hid (fun (W : World) (hb : Below W5.heap.size W5 W) => (ME (HWD.out.later hb) (HMS.out W5 HB5.out)).ok (HM.out hsm _ _ (Nat.le_refl _) (Nat.le_refl _)))
 have HBW:=hid (fun (W : World) (hb : Below W5.heap.size W5 W) => HB5.out.trans (hb.mono HB5.out.size))
 have hfl : m.fns.length = m.fn:=(HMS.out W5 HB5.out).pf.1;have hdl : m.data.length = m.dn:=(HMS.out W5 HB5.out).pd.1
 have HAT:=hid (fun (W : World) (hb : Below W5.heap.size W5 W) => (N7 HROW.out).later hb)
 have H23:=hid (fun (W : World) (hb : Below W5.heap.size W5 W) => Dz (wMM m BT BH BG BF BD BE fs ds) f W hf.1 hf.2 (HK.out W (HBW.out W hb)).1 (HK.out W (HBW.out W hb)).2 (HMK.out W hb) (KE HWD.out) (sc:=sn + 64) (HAT.out W hb) ae HSZ.out)
 have H24:=hid (fun (W : World) (hb : Below W5.heap.size W5 W) => Ni m f W hf.1 hf.2 (HK.out W (HBW.out W hb)).1 (HK.out W (HBW.out W hb)).2 (HMO.out W (HBW.out W hb)) HZZ.out HCP.out (sc:=sc) (HTT.out W (HBW.out W hb)) ae HSZ.out)
 rw [G8 HWD.out hfl hdl] at H23;rw [OU] at H24;unfold wMM mV at H23;unfold mV at H24;dsimp only at H23;generalize ky m f T sn = hv at *;have hS0 : lhS w.heap.size K4 (.slice m.ta m.tn m.tc) (.slice m.ha m.hn m.hc) (.slice m.ga m.gn m.gc) (.int .i64 m.fi) (.int .i64 m.mo) (.slice m.fa m.fn m.fc) (.slice m.da m.dn m.dc) (.slice m.ea m.en m.ec) (.slice (some ⟨BT,0,none⟩) m.tn (m.tn + 64)) (.slice (some ⟨BH,0,none⟩) m.hn (m.hn + 64)) (.slice (some ⟨BG,0,none⟩) m.gn (m.gn + 64)) (.int .i64 m.fi) (.int .i64 m.mo) (.slice (some ⟨BF,0,none⟩) m.fn (m.fn + 64)) (.slice (some ⟨BD,0,none⟩) m.dn (m.dn + 64)) (.slice (some ⟨BE,0,none⟩) m.en (m.en + 64)) W5 W5:=⟨ai HBX.out,ai HBX.out,ai HBX.out,ai HBX.out,ai HBX.out,ai HBX.out,ai HBX.out,ai HBX.out,ai HBK.out,ai HBK.out,ai HBK.out,ai HBK.out,ai HBK.out,ai HBK.out,ai HBK.out,ai HBK.out,Below.refl _ _⟩;have HS0:=hid hS0;clear hS0;go_wp2_with fail
 refine wp_region_held_drew (S:=(lhS w.heap.size K4 (.slice m.ta m.tn m.tc) (.slice m.ha m.hn m.hc) (.slice m.ga m.gn m.gc) (.int .i64 m.fi) (.int .i64 m.mo) (.slice m.fa m.fn m.fc) (.slice m.da m.dn m.dc) (.slice m.ea m.en m.ec) (.slice (some ⟨BT,0,none⟩) m.tn (m.tn + 64)) (.slice (some ⟨BH,0,none⟩) m.hn (m.hn + 64)) (.slice (some ⟨BG,0,none⟩) m.gn (m.gn + 64)) (.int .i64 m.fi) (.int .i64 m.mo) (.slice (some ⟨BF,0,none⟩) m.fn (m.fn + 64)) (.slice (some ⟨BD,0,none⟩) m.dn (m.dn + 64)) (.slice (some ⟨BE,0,none⟩) m.en (m.en + 64)) W5)) aw (HS0.out.later (below_drewN W5 1)) (fun hHeld => ?_)
 refine tkB (i:=0) (oi:={ dst:=some 25,op:=.load 29 (.tmp 8),type:=29,pos:= "law.go:28",after:=#[],guard:=none }) (d:=some 25) ?_;(try simp only [Act.put,sIB,sC0,sCs]);refine tkB (i:=1) (oi:={ dst:=some 26,op:=.move (.tmp 1),type:=3,pos:= "law.go:28",after:=#[],guard:=none }) (d:=some 26) ?_;(try simp only [Act.put,sIB,sC0,sCs]);refine tkB (i:=2) (oi:={ dst:=some 27,op:=.move (.tmp 9),type:=37,pos:= "law.go:28",after:=#[],guard:=none }) (d:=some 27) ?_;(try simp only [Act.put,sIB,sC0,sCs]);refine tkB (i:=4) (oi:={ dst:=some 29,op:=.load 29 (.tmp 3),type:=29,pos:= "law.go:28",after:=#[],guard:=none }) (d:=some 29) ?_;(try simp only [Act.put,sIB,sC0,sCs]);refine tkB (i:=5) (oi:={ dst:=some 30,op:=.move (.tmp 1),type:=3,pos:= "law.go:28",after:=#[],guard:=none }) (d:=some 30) ?_;(try simp only [Act.put,sIB,sC0,sCs]);refine tkB (i:=6) (oi:={ dst:=some 31,op:=.move (.tmp 2),type:=37,pos:= "law.go:28",after:=#[],guard:=none }) (d:=some 31) ?_;(try simp only [Act.put,sIB,sC0,sCs]);refine rdY (rs:=[3]) ?_
 refine rdA (o:={ dst:=some 28,op:=.call { callee:=.value (.func 23),args:=#[.tmp 25,.tmp 26,.tmp 27],argTypes:=#[29,3,37] },type:=4,pos:= "law.go:28",after:=#[⟨0,.data⟩,⟨1,.data⟩,⟨2,.data⟩],guard:=none }) (fun K hK => ?_) rN
 go_simp;refine (H23.out _ hHeld.2.2.2.2.2.2.2.2.2.2.2.2.2.2.2.2).mono ?_;rintro e w7 ⟨rfl,hb7⟩;have hS7:=lhS.later hHeld hb7
 refine hK.out _ _ hS7 (fun _ => ?_)
 clear hK K hb7;refine rdY (rs:=[7]) ?_
 refine rdA (o:={ dst:=some 32,op:=.call { callee:=.value (.func 24),args:=#[.tmp 29,.tmp 30,.tmp 31],argTypes:=#[29,3,37] },type:=4,pos:= "law.go:28",after:=#[⟨4,.data⟩,⟨5,.data⟩,⟨6,.data⟩,⟨3,.chain⟩],guard:=none }) (fun K hK => ?_) rN
 go_simp;refine (H24.out _ hS7.2.2.2.2.2.2.2.2.2.2.2.2.2.2.2.2).mono ?_;rintro e w8 ⟨rfl,hb8⟩;have hS8:=lhS.later hS7 hb8
 refine hK.out _ _ hS8 (fun _ => ?_)
 clear hK K hb8;refine tkB (i:=8) (oi:={ dst:=some 33,op:=.binOp Go.BinOp.eql 4 (.tmp 28) (.tmp 32) 4,type:=4,pos:= "law.go:28",after:=#[⟨3,.data⟩,⟨7,.data⟩],guard:=none }) (d:=some 33) ?_;(try simp only [Act.put,sIB,sC0,sCs]);refine tkB (i:=9) (oi:={ dst:=some 10,op:=.assign (.tmp 33),type:=4,pos:= "law.go:28",after:=#[⟨8,.data⟩,⟨7,.chain⟩,⟨0,.phase⟩,⟨1,.phase⟩,⟨2,.phase⟩,⟨3,.phase⟩,⟨4,.phase⟩,⟨5,.phase⟩,⟨6,.phase⟩,⟨7,.phase⟩,⟨8,.phase⟩],guard:=none }) (d:=some 10) ?_;(try simp only [Act.put,sIB,sC0,sCs]);refine wpAnyH_done aw ?_ _;have HB8:=hid hS8.2.2.2.2.2.2.2.2.2.2.2.2.2.2.2.2;clear hS7 hHeld H23 H24;have HS8:=hid hS8;obtain ⟨m0,m1,m2,m3,m4,m5,m6,m7,n0,n1,n2,n3,n4,n5,n6,n7,-⟩:=hS8;have H25:=hid (QA (HWD.out.later HB8.out) (HMS.out w8 (HBW.out w8 HB8.out)));unfold wMM mV at H25;dsimp only at H25;go_wp2_with fail;refine H25.out.mono ?_;rintro e w9 ⟨rfl,hb9⟩;have HB9:=hid (HB8.out.trans (hb9.mono HB8.out.size));have HS9:=hid (HS8.out.later hb9);clear m0 m1 m2 m3 m4 m5 m6 m7 n0 n1 n2 n3 n4 n5 n6 n7 HS8 HB8 hb9 H25;obtain ⟨m0,m1,m2,m3,m4,m5,m6,m7,n0,n1,n2,n3,n4,n5,n6,n7,-⟩:=HS9.out;have H26:=hid (KD TB (HWD.out.later HB9.out) (HMS.out w9 (HBW.out w9 HB9.out)) (HTE.out w9 (HBW.out w9 HB9.out)).1 (HTE.out w9 (HBW.out w9 HB9.out)).2);unfold wMM mV at H26;dsimp only at H26;go_wp2_with fail;refine H26.out.mono ?_;rintro e w10 ⟨rfl,hb10⟩;have HB10:=hid (HB9.out.trans (hb10.mono HB9.out.size));clear m0 m1 m2 m3 m4 m5 m6 m7 n0 n1 n2 n3 n4 n5 n6 n7 HS9 HB9 hb10 H26;have H19:=hid (Qm (c1:=sn + 64) (c2:=sc) (HAT.out w10 HB10.out) (HTT.out w10 (HBW.out w10 HB10.out)) ae ae)
 rw [vh.2 ⟨rfl,fun _ _ => rfl⟩] at H19
 go_wp2_with fail;refine H19.out.mono ?_;rintro e w11 ⟨rfl,hb11⟩;have HB11:=hid (HB10.out.trans (hb11.mono HB10.out.size))
 have H27:=hid (M0 TB _ _ _ (wI T sn) w11 (jN T sn) ae (HTE.out w11 (HBW.out w11 HB11.out)).1 (HTE.out w11 (HBW.out w11 HB11.out)).2 (bg HROW.out (az HB11.out) (fun _ _ => id)))
 clear HB10 hb11 H19;go_wp2_with fail;refine H27.out.mono ?_;rintro e w12 ⟨rfl,hb12⟩;have HB12:=hid (HB11.out.trans (hb12.mono HB11.out.size));go_wp2_with fail;go_ret;exact ⟨rfl,HBW.out _ HB12.out⟩
open Go.ChangeShapes Go.WideShapes Go.ChangeAt Go.RowKit
theorem LW : Tryz.prog.bytesOf 9 = 16:=aw
section
variable {H : Type} {enc : TypeId × Value → H} {W : World}
theorem z7 {base : Nat} {v : Value} {d : DataW H} {ps : List MemPlace} (hval : Value.okWide Tryz.prog W .any base 37 v) (h : DataW.Trod enc Tryz.prog W 0 (fun _ => true) true 37 v d ps) (hw : ∀ n ∈ d.weights Tryz.prog 37,n ≤ reachBytes) :
  ∃ (a : Option Addr) (n c : Nat) (T : Nat → ByteArray),v = .slice a n c ∧ AtT W a n T ∧ n ≤ 281474976710656 ∧ ∀ j,j < n → (T j).size ≤ 281474976710656:=by
 obtain ⟨a0,n0,c0,rfl⟩:=okWide_slice Tryz.underlying37 hval;obtain ⟨fuel,hf⟩:=h
 obtain ⟨a,n,c,xs,hcs,hat,hsz⟩:=cV (c:=1) (B:=16) (fun (s : ByteArray) => [Value.string s]) (fun (s : ByteArray) => s.size ≤ 140737488355328) Tryz.underlying37 mJ aH LW aH (fun _ _ _ h1 h2 => iU Tryz.underlying9 h1 h2) hf hw
 have e : Value.slice a0 n0 c0 = .slice a n c:=by
  have : [Value.slice a0 n0 c0] = [.slice a n c]:=hcs;exact (List.cons.inj this).1
 cases e
 have hl:=hat.len;have hb:=hat.big
 have h2 : ∀ j,j < n0 → (xs.getD j ⟨#[]⟩).size ≤ 281474976710656:=fun j hj => by
  have hx : xs[j]? = some (xs[j]'(ae)):=aN _
  have:=hsz j _ hx
  rw [gY hx];omega
 have h1 : AtT W a0 n0 (fun j => xs.getD j ⟨#[]⟩):=hat.at_.imp id fun ⟨b,off,e,hc⟩ => ⟨b,off,e,fun j hj => by
  have hx : xs[j]? = some (xs[j]'(ae)):=aN _
  have:=hc j _ hx 0 _ rfl
  rw [Nat.mul_one] at this
  show _ = some (Value.string (xs.getD j ⟨#[]⟩))
  rw [gY hx];exact this⟩
 exact ⟨a0,n0,c0,_,rfl,h1,ae,h2⟩
end
theorem Tryz.cells195 : Tryz.prog.cellsOf 195 = 4:=aw
theorem Tryz.cells196 : Tryz.prog.cellsOf 196 = 28:=aw
theorem Tryz.cells5 : Tryz.prog.cellsOf 5 = 1:=aw
theorem Tryz.cells9 : Tryz.prog.cellsOf 9 = 1:=aw
theorem Tryz.kindsAt : Tryz.prog.globalNamed "flagon/ops.kinds" = some 0:=aw
theorem Tryz.kindsType : (Tryz.prog.globals[0]?).map (·.type) = some 196:=aw
theorem Rp {α : Type} : ∀ (l : List α),l.length = 4 → ∃ a b c d,l = [a,b,c,d]
 | [a,b,c,d],_ => ⟨a,b,c,d,rfl⟩
theorem Sj {α : Type} : ∀ (l : List α),l.length = 7 → ∃ a b c d e f g,l = [a,b,c,d,e,f,g]
 | [a,b,c,d,e,f,g],_ => ⟨a,b,c,d,e,f,g,rfl⟩
theorem eU {H : Type} {enc : TypeId × Value → H} {w : World} {base : Nat} {sp : Nat → Bool} {held : Bool} {fuel : Nat} {cs : List Value} {f l : Int} {a s : List UInt8} {p : List MemPlace}
  (h : DataW.trod enc Tryz.prog w base sp held fuel 195 cs = some (.agg [.lit (.int .u8 f),.lit (.int .u8 l),.lit (.string a),.lit (.string s)],p)) :
  cs = [.int .u8 f,.int .u8 l,.string ⟨a.toArray⟩,.string ⟨s.toArray⟩]:=by
 obtain ⟨xs,n,_,hx,hl,hxl,hel⟩:=DataW.trod_struct Tryz.underlying195 h;rw [Tryz.cells195] at hl;obtain ⟨c0,c1,c2,c3,rfl⟩:=Rp cs hl;obtain ⟨x0,x1,x2,x3,rfl⟩:=Rp xs hxl;have e:=congrArg Prod.fst hx
 simp only [List.map_cons,List.map_nil,DataW.agg.injEq,List.cons.injEq,and_true] at e
 obtain ⟨e0,e1,e2,e3⟩:=e;have h0 : DataW.trod enc Tryz.prog w base sp held n 5 (([c0,c1,c2,c3].drop 0).take (Tryz.prog.cellsOf 5)) = some x0:=hel 0 _ rfl;have h1 : DataW.trod enc Tryz.prog w base sp held n 5 (([c0,c1,c2,c3].drop 1).take (Tryz.prog.cellsOf 5)) = some x1:=hel 1 _ rfl;have h2 : DataW.trod enc Tryz.prog w base sp held n 9 (([c0,c1,c2,c3].drop 2).take (Tryz.prog.cellsOf 9)) = some x2:=hel 2 _ rfl;have h3 : DataW.trod enc Tryz.prog w base sp held n 9 (([c0,c1,c2,c3].drop 3).take (Tryz.prog.cellsOf 9)) = some x3:=hel 3 _ rfl;rw [Tryz.cells5] at h0 h1;rw [Tryz.cells9] at h2 h3;obtain ⟨n0,g0,k0,_⟩:=DataW.trod_int Tryz.underlying5 h0;obtain ⟨n1,g1,k1,_⟩:=DataW.trod_int Tryz.underlying5 h1;obtain ⟨s2,g2,k2,_⟩:=DataW.trod_string Tryz.underlying9 h2;obtain ⟨s3,g3,k3,_⟩:=DataW.trod_string Tryz.underlying9 h3;clear hel h hx h0 h1 h2 h3;rw [k0] at e0;rw [k1] at e1;rw [k2] at e2;rw [k3] at e3
 simp only [DataW.lit.injEq,Lit.int.injEq,true_and,Lit.string.injEq] at e0 e1 e2 e3
 simp only [List.drop_zero,List.drop_succ_cons,List.take_succ_cons,List.take_zero,List.cons.injEq,and_true] at g0 g1 g2 g3
 rw [g0,g1,g2,g3,e0,e1,e2,e3]
theorem chunks (l : List Value) (h : l.length = 28) : l = l.take 4 ++ ((l.drop 4).take 4 ++ ((l.drop 8).take 4 ++ ((l.drop 12).take 4 ++ ((l.drop 16).take 4 ++ ((l.drop 20).take 4 ++ (l.drop 24).take 4))))):=by
 have e : ∀ n,l.drop n = (l.drop n).take 4 ++ l.drop (n + 4):=fun n => by
  have:=(List.take_append_drop 4 (l.drop n)).symm
  rwa [List.drop_drop] at this
 have e6 : l.drop 24 = (l.drop 24).take 4:=by rw [List.take_of_length_le aG]
 have e5:=e 20; have e4:=e 16; have e3:=e 12; have e2:=e 8; have e1:=e 4; have e0:=e 0
 simp only [List.drop_zero,Nat.zero_add,Nat.reduceAdd] at e0 e1 e2 e3 e4 e5
 rw [← e6,← e5,← e4,← e3,← e2,← e1,← e0]
theorem sy {W : World} {rest : List (String × DataW Unit)} (h : laidMet Tryz.prog (("flagon/ops.kinds",Rows.laid_flagon_ops_kinds) :: rest) W) : aW W:=by
 obtain ⟨ps,⟨g',t',cs,fuel,p,q,hg',ht',hvar,hd,_,_⟩,_⟩:=h;obtain rfl:=Option.some.inj (Tryz.kindsAt.symm.trans hg');obtain rfl:=Option.some.inj (Tryz.kindsType.symm.trans ht');obtain ⟨xs,n,_,hx,hl,hxl,hel⟩:=DataW.trod_array Tryz.underlying196 hd;rw [Tryz.cells196] at hl;obtain ⟨x0,x1,x2,x3,x4,x5,x6,rfl⟩:=Sj xs hxl;have e:=congrArg Prod.fst hx
 simp only [Rows.laid_flagon_ops_kinds,List.map_cons,List.map_nil,DataW.agg.injEq,List.cons.injEq,and_true] at e
 obtain ⟨e0,e1,e2,e3,e4,e5,e6⟩:=e;have h0:=hel 0 aH; have h1:=hel 1 aH; have h2:=hel 2 aH; have h3:=hel 3 aH; have h4:=hel 4 aH; have h5:=hel 5 aH; have h6:=hel 6 aH
 simp only [Tryz.cells195,Nat.reduceMul,List.drop_zero,List.getElem?_cons_zero,List.getElem?_cons_succ] at h0 h1 h2 h3 h4 h5 h6
 obtain ⟨d0,p0⟩:=x0; obtain ⟨d1,p1⟩:=x1; obtain ⟨d2,p2⟩:=x2; obtain ⟨d3,p3⟩:=x3; obtain ⟨d4,p4⟩:=x4; obtain ⟨d5,p5⟩:=x5; obtain ⟨d6,p6⟩:=x6
 simp only at e0 e1 e2 e3 e4 e5 e6
 subst e0 e1 e2 e3 e4 e5 e6
 have hcs : cs.toList = od:=by
  rw [chunks _ hl,eU h0,eU h1,eU h2,eU h3,eU h4,eU h5,eU h6];rfl
 intro j v hj;rw [World.var?_cell Tryz.kindsAt hvar j,← Array.getElem?_toList,hcs];exact hj
end Go.Proofs.YtepnnenohjfkbaaGreatDoor
namespace Go.Proofs.YtepnnenohjfkbaaGreatDoor.judgeHolds
open Go.ChangeShapes Go.WideShapes Go.ChangeAt Go.RowKit
theorem own : ownKnob Tryz.prog.godebug = none:=aw
theorem laidOut : laidOutB Tryz.prog = true:=aw
abbrev o9 : List (String × DataW Unit):=Rows.judgeHoldsRow.laid
theorem met (os : Os) (args : Array Value) : laidMetH Tryz.prog o9 ((World.laidAll Tryz.prog os o9).forCall (fun _ _ => 0) ⟨#[],args,[]⟩).memory:=by
 rw [MakeChecks.laidMetH_plain _ _ _ aw];exact laidMet_laidAll _ aw aw
theorem kinds_met {W : World} (h : laidMetH Tryz.prog o9 W) : aW W:=by
 rw [MakeChecks.laidMetH_plain _ _ _ aw] at h;exact sy (laidMet.tail (laidMet.tail (laidMet.tail (laidMet.tail h))))
theorem KY {W : World} (h : laidMetH Tryz.prog o9 W) : jW W.heap.size W:=by
 rw [MakeChecks.laidMetH_plain _ _ _ aw] at h;have h3:=laidMet.tail (laidMet.tail h);exact Lib.tabBelow_of_tabIs (Lib.tabIs_of_head (g:=1) (t:=308) (e:=139) (n:=20) aw aw aw aw aw aw h3)
theorem lifted (os : Os) (started : os.Started) (H : Type) (enc : TypeId × Value → H) :
  ReturnsInHanded {} Tryz.checked os 6 .any (fun w args => (Rows.judgeHoldsSpec.pre enc Tryz.prog Tryz.f6 [] false w args ∧ laidMetH Tryz.prog o9 w) ∧ sizedMet enc Tryz.prog Tryz.f6 (OpenSpec.ofChange Rows.judgeHoldsSpec) false w args) (Rows.judgeHoldsSpec.post enc Tryz.prog Tryz.f6 false true false false):=by
 refine returnsInHanded_of_row (C:=Tryz.checked) (s:=OpenSpec.ofChange Rows.judgeHoldsSpec) (F:=fun _ _ _ => 0) (laid:=o9) own started aw Tryz.func6
  (ChangeSpec.witness_shaped (enc:=enc) (C:=Tryz.checked) (os:=os) (X:=fun w _ => laidMetH Tryz.prog o9 w) false (World.laidAll Tryz.prog os o9) #[.agg #[.slice none 0 0,.slice none 0 0,.slice none 0 0,.int .i64 0,.int .i64 0,.slice none 0 0,.slice none 0 0,.slice none 0 0],.int .i64 0,.slice none 0 0] 8 (World.laidAll_os _ _ _)
   (World.shaped_of_ZipB aw aw) aw aw aw (met os _)) ?_
 intro W base args ds gs before hval0 hW _ _ hsz0 hL hshape _
 have hsz : (DataW.weightsEach Tryz.prog (Tryz.f6.params.toList ++ Rows.judgeHoldsSpec.plain.varTypes Tryz.prog) (ds ++ gs)).all (· ≤ reachBytes) = true:=hsz0
 have hW':=hW;obtain ⟨p,q,hA0,hV,rfl,hfz,hnd⟩:=hW
 have hA : DataW.TrodAll enc Tryz.prog W 0 (fun _ => true) true Tryz.f6.params.toList args.toList ds p:=hA0
 have hval : ∀ (j : Nat) t v,Tryz.f6.params[j]? = some t → args[j]? = some v → Value.okWide Tryz.prog W .any base t v:=hval0;rw [Tryz.params6] at hA hval hsz;obtain ⟨v0,vs0,d0,ds0,p0,q0,hargs,rfl,rfl,h0,r0⟩:=trodAll_cons hA;obtain ⟨v1,vs1,d1,ds1,p1,q1,rfl,rfl,rfl,h1,r1⟩:=trodAll_cons r0;obtain ⟨v2,vs2,d2,ds2,p2,q2,rfl,rfl,rfl,h2,r2⟩:=trodAll_cons r1;obtain ⟨rfl,rfl,rfl⟩:=trodAll_nil r2
 obtain rfl : args = #[v0,v1,v2]:=by cases args; simp_all
 obtain ⟨rfl,rfl⟩:=trodVars_none hV;have k0:=h0
 have lt0 : ∀ x ∈ p0,x.block < W.heap.size:=by obtain ⟨m,hm⟩:=k0; exact DataW.trod_lt m _ _ _ hm
 have hw0 : ∀ n ∈ d0.weights Tryz.prog 29,n ≤ reachBytes:=fun n hn => by
  have:=List.all_eq_true.1 hsz n (DataW.weights_mem_each (j:=0) (t:=29) rfl rfl n hn)
  exact bY
 obtain ⟨m,rfl,hr⟩:=xd (hval 0 29 v0 rfl rfl) h0 hw0;obtain ⟨a1,rfl,rfl,rfl,w1⟩:=open_int Tryz.underlying3 (hval 1 3 v1 rfl rfl) h1;have k2:=h2
 have lt2 : ∀ x ∈ p2,x.block < W.heap.size:=by obtain ⟨m,hm⟩:=k2; exact DataW.trod_lt m _ _ _ hm
 have hw2 : ∀ n ∈ d2.weights Tryz.prog 37,n ≤ reachBytes:=fun n hn => by
  have:=List.all_eq_true.1 hsz n (DataW.weights_mem_each (j:=2) (t:=37) rfl rfl n hn)
  exact bY
 obtain ⟨sa,sn,sc,T,rfl,hT,hsn,hTs⟩:=z7 (hval 2 37 v2 rfl rfl) h2 hw2;have hk:=kinds_met hL;have r1:=bounds_i64 w1;clear hA0 hval0
 refine (Gb W.heap.size m a1 W ae hk hk.pos hr (KY hL) (Nat.le_refl _) hT hsn hTs).mono fun e W' ⟨he,bel⟩ => ?_
 subst he
 exact ⟨_,rfl,_,_,_,[],_,[],hW',trodAll_mk1 (shut_bool Tryz.underlying4 _),(trodAll_cons_mk (Below.trod laidOut aw (of_decide_eq_true aw) k0 bel lt0) (trodAll_cons_mk (shut_int Tryz.underlying3 w1) (trodAll_cons_mk (Below.trod laidOut aw (of_decide_eq_true aw) k2 bel lt2) trodAll_mk0))),rfl,bel.frame _,fun h => cE⟩
end Go.Proofs.YtepnnenohjfkbaaGreatDoor.judgeHolds

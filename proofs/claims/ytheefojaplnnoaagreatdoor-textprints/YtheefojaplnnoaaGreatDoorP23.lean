/-
  Texts Qg Qh.
-/
import Derived.Test.YtheefojaplnnoaaGreatDoorP00
import Derived.Test.YtheefojaplnnoaaGreatDoorP22
set_option linter.unusedVariables false
set_option maxRecDepth 100000
set_option maxHeartbeats 16000000
namespace Go.Proofs.YtheefojaplnnoaaGreatDoor
open Go.RowKit
def H7 (y : InM) : Prop:=y.2.2.1.2.1 ≤ 200000
def FN (y : DaM) : Prop:=y.2.1.2.1 ≤ 1000000
def J5 (y : FuM) : Prop:=y.2.2.1.2.1 ≤ 200000 ∧ ∀ z ∈ y.2.2.2,H7 z
theorem Np {w : World} {base B n c : Nat} {l : List InM} (h : w.ownsRow base 75 3 (.slice (some ⟨B,0,none⟩) (n + 64) c) (n + 64) ((l ++ jJ n).flatMap cM)) (hl : l.length = n) : fO w (some ⟨B,0,none⟩) n l :=
 ⟨hl,.inr ⟨B,0,rfl,fun j x hj => by
  have hj' : (l ++ jJ n)[j]? = some x:=(dt _ l (aA hj)).trans hj
  have hL : (l ++ jJ n).length = n + 64:=by rw [List.length_append,hl,ke]
  rw [Nat.zero_add]
  exact ⟨br (k:=3) cM (fun _ => rfl) h hL hj' 0 ae,br (k:=3) cM (fun _ => rfl) h hL hj' 1 ae,br (k:=3) cM (fun _ => rfl) h hL hj' 2 ae⟩⟩⟩
theorem Lx {w : World} {base B n c : Nat} {l : List FuM} (h : w.ownsRow base 78 3 (.slice (some ⟨B,0,none⟩) (n + 64) c) (n + 64) ((l ++ ju n).flatMap cm)) (hl : l.length = n) : iU w (some ⟨B,0,none⟩) n l :=
 ⟨hl,.inr ⟨B,0,rfl,fun j x hj => by
  have hj' : (l ++ ju n)[j]? = some x:=(dt _ l (aA hj)).trans hj
  have hL : (l ++ ju n).length = n + 64:=by rw [List.length_append,hl,kC]
  rw [Nat.zero_add]
  exact ⟨br (k:=3) cm (fun _ => rfl) h hL hj' 0 ae,br (k:=3) cm (fun _ => rfl) h hL hj' 1 ae,br (k:=3) cm (fun _ => rfl) h hL hj' 2 ae⟩⟩⟩
theorem MJ {w : World} {base B n c : Nat} {l : List DaM} (h : w.ownsRow base 81 2 (.slice (some ⟨B,0,none⟩) (n + 64) c) (n + 64) ((l ++ jN n).flatMap fY)) (hl : l.length = n) : jn w (some ⟨B,0,none⟩) n l :=
 ⟨hl,.inr ⟨B,0,rfl,fun j x hj => by
  have hj' : (l ++ jN n)[j]? = some x:=(dt _ l (aA hj)).trans hj
  have hL : (l ++ jN n).length = n + 64:=by rw [List.length_append,hl,ku]
  rw [Nat.zero_add]
  exact ⟨br (k:=2) fY (fun _ => rfl) h hL hj' 0 ae,br (k:=2) fY (fun _ => rfl) h hL hj' 1 ae⟩⟩⟩
theorem FJ {w : World} {base B n c : Nat} {l : List Int} (h : w.ownsRow base 3 1 (.slice (some ⟨B,0,none⟩) (n + 64) c) (n + 64) ((l ++ iX n).flatMap dR)) (hl : l.length = n) : i6 w (some ⟨B,0,none⟩) n l :=
 ⟨hl,.inr ⟨B,0,rfl,fun j x hj => by
  have hj' : (l ++ iX n)[j]? = some x:=(dt _ l (aA hj)).trans hj
  have hL : (l ++ iX n).length = n + 64:=by rw [List.length_append,hl,qC]
  rw [Nat.zero_add]
  simpa [dR] using br (k:=1) dR (fun _ => rfl) h hL hj' 0 ae⟩⟩
theorem Nt {w : World} {base B n c : Nat} {l : List Int} (h : w.ownsRow base 5 1 (.slice (some ⟨B,0,none⟩) (n + 64) c) (n + 64) ((l ++ js n).flatMap iw)) (hl : l.length = n) : qK w (some ⟨B,0,none⟩) n l :=
 ⟨hl,.inr ⟨B,0,rfl,fun j x hj => by
  have hj' : (l ++ js n)[j]? = some x:=(dt _ l (aA hj)).trans hj
  have hL : (l ++ js n).length = n + 64:=by rw [List.length_append,hl,qN]
  rw [Nat.zero_add]
  simpa [iw] using br (k:=1) iw (fun _ => rfl) h hL hj' 0 ae⟩⟩
theorem xG (y : InM) (base : Nat) (w : World) (hb : H7 y) (h : lf w base y) :
  Calls Tryz.prog 216 #[.agg #[.int .u8 y.1,.int .i64 y.2.1,.slice y.2.2.1.1 y.2.2.1.2.1 y.2.2.1.2.2]] w fun e w' => e = .returned (.bool true) ∧ Below w.heap.size w w':=by
 obtain ⟨c,a,sl,l⟩:=y;obtain ⟨B,n,e,hl,ho⟩:=h;dsimp only at *;subst e;unfold H7 at hb;dsimp only at *;have B0:=ak w (aH c a (some ⟨B,0,none⟩) n (n + 64));have c2 : (w.alloc (aH c a (some ⟨B,0,none⟩) n (n + 64))).cell? ⟨w.heap.size,2,none⟩ = some (.slice (some ⟨B,0,none⟩) n (n + 64)):=ag (heap_alloc_new _ _)
 have H:=hid (BJ 0 base B n l _ hl ae (aW ho (az B0) (fun _ _ => id)))
 have HB:=hid B0;clear ho B0 hl hb
 go_enter Tryz.func216,Tryz.ntmps216
 exact wW
theorem Jq (base base2 B n : Nat) (ys : List InM) (w : World) (hl : ys.length = n) (hn : n ≤ 200000) (h : w.ownsRow base 75 3 (.slice (some ⟨B,0,none⟩) (n + 64) (n + 64)) (n + 64) ((ys ++ jJ n).flatMap cM)) (hw : ∀ y ∈ ys,lf w base2 y) (hb : ∀ y ∈ ys,H7 y) :
  Calls Tryz.prog 165 #[.slice (some ⟨B,0,none⟩) n (n + 64)] w fun e w' => e = .returned (.bool true) ∧ Below w.heap.size w w':=by
 have hLL : (ys ++ jJ n).length = n + 64:=by rw [List.length_append,hl,ke]
 have HR:=hid h;have HWD:=hid hw;have HBD:=hid hb;clear h hw hb
 go_enter Tryz.func165,Tryz.ntmps165
 go_wp2_with fail
 go_loopw [4] (fun i wr => ∃ t : Nat,n ≤ t ∧ t ≤ n + 64 ∧ i = .int .i64 t ∧ Hid (Below w.heap.size w wr)) (fun i _ => n + 64 - (intOf i).toNat)
 case atStart => exact ⟨n,ae,ae,rfl,hid (Below.refl _ _)⟩
 case round =>
  obtain ⟨t,ht0,ht,rfl,HB⟩:=hrel
  by_cases hlt : t < n + 64
  ·have hlt' : (t : Int) < (n : Int) + 64:=ae
   have hR:=aW HR.out (az HB.out) (fun _ _ => id)
   have g0 : wr.cell? ⟨B,t * 3,none⟩ = some (.int .u8 0):=by simpa [cM] using br (k:=3) cM (fun _ => rfl) hR hLL (cY (fun (i : Nat) => ((0,9437184 + (i : Int) + 1,(none,0,0),[]) : InM)) ys hl ht0 hlt) 0 ae
   have g1 : wr.cell? ⟨B,t * 3 + 1,none⟩ = some (.int .i64 (9437184 + (t : Int) + 1)):=by simpa [cM] using br (k:=3) cM (fun _ => rfl) hR hLL (cY (fun (i : Nat) => ((0,9437184 + (i : Int) + 1,(none,0,0),[]) : InM)) ys hl ht0 hlt) 1 ae
   have g2 : wr.cell? ⟨B,t * 3 + 2,none⟩ = some (.slice none 0 0):=by simpa [cM] using br (k:=3) cM (fun _ => rfl) hR hLL (cY (fun (i : Nat) => ((0,9437184 + (i : Int) + 1,(none,0,0),[]) : InM)) ys hl ht0 hlt) 2 ae
   clear hR;have x0 : (wr.alloc (aH 0 (9437184 + (t : Int) + 1) none 0 0)).cell? ⟨wr.heap.size,0,none⟩ = some (.int .u8 0):=dV;have x1 : (wr.alloc (aH 0 (9437184 + (t : Int) + 1) none 0 0)).cell? ⟨wr.heap.size,1,none⟩ = some (.int .i64 (9437184 + (t : Int) + 1)):=dV;have x2 : (wr.alloc (aH 0 (9437184 + (t : Int) + 1) none 0 0)).cell? ⟨wr.heap.size,2,none⟩ = some (.slice none 0 0):=dV;have HBA:=hid (HB.out.alloc HB.out.size (aH 0 (9437184 + (t : Int) + 1) none 0 0));have heq : ((9437184 : Int) + t + 1 == 9437184 + t + 1) = true:=aq
   have HDR:=hid (show Below w.heap.size w (wr.alloc (aH 0 (9437184 + (t : Int) + 1) none 0 0)).drew from bT HBA.out (aJ.drewN (fun _ => False) _ 1) HBA.out.size (fun _ x => x.elim))
   go_wp2_with fail;generalize hwz : (wr.alloc (aH 0 (9437184 + (t : Int) + 1) none 0 0)) = wz at *
   go_region_held3 (fun W => W.cell? ⟨wr.heap.size,0,none⟩ = some (.int .u8 0) ∧ W.cell? ⟨wr.heap.size,1,none⟩ = some (.int .i64 (9437184 + (t : Int) + 1)) ∧ W.cell? ⟨wr.heap.size,2,none⟩ = some (.slice none 0 0)) (go_keep)
    (first | (go_at_call 89; refine (mi t _ ae ae).mono ?_; rintro e w' ⟨rfl,hw'⟩; have hw2:=hw'.symm; subst hw2))
   exact pB
  ·obtain rfl : t = n + 64:=ae;have hlt' : ¬ ((n + 64 : Nat) : Int) < (n : Int) + 64:=ae;go_wp2_with fail
   go_loopw [6] (fun i wr => ∃ t : Nat,t ≤ n ∧ i = .int .i64 t ∧ Hid (Below w.heap.size w wr)) (fun i _ => n - (intOf i).toNat)
   case atStart => exact ⟨0,ae,rfl,HB⟩
   case round =>
    obtain ⟨t,ht,rfl,HB⟩:=hrel
    by_cases hkn : t < n
    ·obtain ⟨y,hy⟩ : ∃ y,ys[t]? = some y:=⟨_,aN ae⟩;have hkn' : (t : Int) < (n : Int):=ae;have hk64 : (t : Int) ≤ (n : Int) + 64:=ae
     have hR:=aW HR.out (az HB.out) (fun _ _ => id)
     have g0 : (_ : World).cell? ⟨B,t * 3,none⟩ = some (.int .u8 y.1):=br (k:=3) cM (fun _ => rfl) hR hLL ((dt _ ys ae).trans hy) 0 ae
     have g1 : (_ : World).cell? ⟨B,t * 3 + 1,none⟩ = some (.int .i64 y.2.1):=br (k:=3) cM (fun _ => rfl) hR hLL ((dt _ ys ae).trans hy) 1 ae
     have g2 : (_ : World).cell? ⟨B,t * 3 + 2,none⟩ = some (.slice y.2.2.1.1 y.2.2.1.2.1 y.2.2.1.2.2):=br (k:=3) cM (fun _ => rfl) hR hLL ((dt _ ys ae).trans hy) 2 ae
     have H1:=hid (xG y base2 _ (HBD.out y (List.mem_of_getElem? hy)) ((HWD.out y (List.mem_of_getElem? hy)).stay (az HB.out) (fun _ h => False.elim h)))
     exact xQ
    ·exact tI
theorem xq (y : DaM) (base : Nat) (w : World) (hb : FN y) (h : jU w base y) :
  Calls Tryz.prog 107 #[.agg #[.int .i64 y.1,.slice y.2.1.1 y.2.1.2.1 y.2.1.2.2]] w fun e w' => e = .returned (.bool true) ∧ Below w.heap.size w w':=by
 obtain ⟨c,sl,l⟩:=y;obtain ⟨B,n,e,hl,ho⟩:=h;dsimp only at *;subst e;unfold FN at hb;dsimp only at *;have B0:=ak w (bh c (some ⟨B,0,none⟩) n (n + 64));have c2 : (w.alloc (bh c (some ⟨B,0,none⟩) n (n + 64))).cell? ⟨w.heap.size,1,none⟩ = some (.slice (some ⟨B,0,none⟩) n (n + 64)):=ag (heap_alloc_new _ _)
 have H:=hid (JW 0 base B n l _ hl ae (aW ho (az B0) (fun _ _ => id)))
 have HB:=hid B0;clear ho B0 hl hb
 go_enter Tryz.func107,Tryz.ntmps107
 exact wW
theorem JZ (base base2 B n : Nat) (ys : List DaM) (w : World) (hl : ys.length = n) (hn : n ≤ 200000) (h : w.ownsRow base 81 2 (.slice (some ⟨B,0,none⟩) (n + 64) (n + 64)) (n + 64) ((ys ++ jN n).flatMap fY)) (hw : ∀ y ∈ ys,jU w base2 y) (hb : ∀ y ∈ ys,FN y) :
  Calls Tryz.prog 50 #[.slice (some ⟨B,0,none⟩) n (n + 64)] w fun e w' => e = .returned (.bool true) ∧ Below w.heap.size w w':=by
 have hLL : (ys ++ jN n).length = n + 64:=by rw [List.length_append,hl,ku]
 have HR:=hid h;have HWD:=hid hw;have HBD:=hid hb;clear h hw hb
 go_enter Tryz.func50,Tryz.ntmps50
 go_wp2_with fail
 go_loopw [4] (fun i wr => ∃ t : Nat,n ≤ t ∧ t ≤ n + 64 ∧ i = .int .i64 t ∧ Hid (Below w.heap.size w wr)) (fun i _ => n + 64 - (intOf i).toNat)
 case atStart => exact ⟨n,ae,ae,rfl,hid (Below.refl _ _)⟩
 case round =>
  obtain ⟨t,ht0,ht,rfl,HB⟩:=hrel
  by_cases hlt : t < n + 64
  ·have hlt' : (t : Int) < (n : Int) + 64:=ae
   have hR:=aW HR.out (az HB.out) (fun _ _ => id)
   have g0 : wr.cell? ⟨B,t * 2,none⟩ = some (.int .i64 (9437184 + (t : Int) + 1)):=by simpa [fY] using br (k:=2) fY (fun _ => rfl) hR hLL (cY (fun (i : Nat) => ((9437184 + (i : Int) + 1,(none,0,0),[]) : DaM)) ys hl ht0 hlt) 0 ae
   have g1 : wr.cell? ⟨B,t * 2 + 1,none⟩ = some (.slice none 0 0):=by simpa [fY] using br (k:=2) fY (fun _ => rfl) hR hLL (cY (fun (i : Nat) => ((9437184 + (i : Int) + 1,(none,0,0),[]) : DaM)) ys hl ht0 hlt) 1 ae
   clear hR;have x0 : (wr.alloc (bh (9437184 + (t : Int) + 1) none 0 0)).cell? ⟨wr.heap.size,0,none⟩ = some (.int .i64 (9437184 + (t : Int) + 1)):=dV;have x1 : (wr.alloc (bh (9437184 + (t : Int) + 1) none 0 0)).cell? ⟨wr.heap.size,1,none⟩ = some (.slice none 0 0):=dV;have HBA:=hid (HB.out.alloc HB.out.size (bh (9437184 + (t : Int) + 1) none 0 0));have heq : ((9437184 : Int) + t + 1 == 9437184 + t + 1) = true:=aq
   have HDR:=hid (show Below w.heap.size w (wr.alloc (bh (9437184 + (t : Int) + 1) none 0 0)).drew from bT HBA.out (aJ.drewN (fun _ => False) _ 1) HBA.out.size (fun _ x => x.elim))
   go_wp2_with fail;generalize hwz : (wr.alloc (bh (9437184 + (t : Int) + 1) none 0 0)) = wz at *
   go_region_held3 (fun W => W.cell? ⟨wr.heap.size,0,none⟩ = some (.int .i64 (9437184 + (t : Int) + 1)) ∧ W.cell? ⟨wr.heap.size,1,none⟩ = some (.slice none 0 0)) (go_keep)
    (first | (go_at_call 89; refine (mi t _ ae ae).mono ?_; rintro e w' ⟨rfl,hw'⟩; have hw2:=hw'.symm; subst hw2))
   exact pB
  ·obtain rfl : t = n + 64:=ae;have hlt' : ¬ ((n + 64 : Nat) : Int) < (n : Int) + 64:=ae;go_wp2_with fail
   go_loopw [6] (fun i wr => ∃ t : Nat,t ≤ n ∧ i = .int .i64 t ∧ Hid (Below w.heap.size w wr)) (fun i _ => n - (intOf i).toNat)
   case atStart => exact ⟨0,ae,rfl,HB⟩
   case round =>
    obtain ⟨t,ht,rfl,HB⟩:=hrel
    by_cases hkn : t < n
    ·obtain ⟨y,hy⟩ : ∃ y,ys[t]? = some y:=⟨_,aN ae⟩;have hkn' : (t : Int) < (n : Int):=ae;have hk64 : (t : Int) ≤ (n : Int) + 64:=ae
     have hR:=aW HR.out (az HB.out) (fun _ _ => id)
     have g0 : (_ : World).cell? ⟨B,t * 2,none⟩ = some (.int .i64 y.1):=br (k:=2) fY (fun _ => rfl) hR hLL ((dt _ ys ae).trans hy) 0 ae
     have g1 : (_ : World).cell? ⟨B,t * 2 + 1,none⟩ = some (.slice y.2.1.1 y.2.1.2.1 y.2.1.2.2):=br (k:=2) fY (fun _ => rfl) hR hLL ((dt _ ys ae).trans hy) 1 ae
     have H1:=hid (xq y base2 _ (HBD.out y (List.mem_of_getElem? hy)) ((HWD.out y (List.mem_of_getElem? hy)).stay (az HB.out) (fun _ h => False.elim h)))
     exact xQ
    ·exact tI
theorem yF (y : FuM) (base : Nat) (w : World) (hb : J5 y) (h : jV w base y) :
  Calls Tryz.prog 106 #[.agg #[.int .i64 y.1,.string y.2.1,.slice y.2.2.1.1 y.2.2.1.2.1 y.2.2.1.2.2]] w fun e w' => e = .returned (.bool true) ∧ Below w.heap.size w w':=by
 obtain ⟨c,a,sl,l⟩:=y;obtain ⟨B,n,e,hl,ho,hz⟩:=h;dsimp only at *;subst e;unfold J5 at hb;dsimp only at *;have B0:=ak w (aL c a (some ⟨B,0,none⟩) n (n + 64));have c2 : (w.alloc (aL c a (some ⟨B,0,none⟩) n (n + 64))).cell? ⟨w.heap.size,2,none⟩ = some (.slice (some ⟨B,0,none⟩) n (n + 64)):=ag (heap_alloc_new _ _)
 have H:=hid (Jq base base B n l _ hl hb.1 (aW ho (az B0) (fun _ _ => id)) (fun z hzm => (hz z hzm).stay (az B0) (fun _ h => False.elim h)) hb.2)
 have HB:=hid B0;clear ho B0 hl hb hz
 go_enter Tryz.func106,Tryz.ntmps106
 exact wW
theorem Ko (base base2 B n : Nat) (ys : List FuM) (w : World) (hl : ys.length = n) (hn : n ≤ 200000) (h : w.ownsRow base 78 3 (.slice (some ⟨B,0,none⟩) (n + 64) (n + 64)) (n + 64) ((ys ++ ju n).flatMap cm)) (hw : ∀ y ∈ ys,jV w base2 y) (hb : ∀ y ∈ ys,J5 y) :
  Calls Tryz.prog 49 #[.slice (some ⟨B,0,none⟩) n (n + 64)] w fun e w' => e = .returned (.bool true) ∧ Below w.heap.size w w':=by
 have hLL : (ys ++ ju n).length = n + 64:=by rw [List.length_append,hl,kC]
 have HR:=hid h;have HWD:=hid hw;have HBD:=hid hb;clear h hw hb
 go_enter Tryz.func49,Tryz.ntmps49
 go_wp2_with fail
 go_loopw [4] (fun i wr => ∃ t : Nat,n ≤ t ∧ t ≤ n + 64 ∧ i = .int .i64 t ∧ Hid (Below w.heap.size w wr)) (fun i _ => n + 64 - (intOf i).toNat)
 case atStart => exact ⟨n,ae,ae,rfl,hid (Below.refl _ _)⟩
 case round =>
  obtain ⟨t,ht0,ht,rfl,HB⟩:=hrel
  by_cases hlt : t < n + 64
  ·have hlt' : (t : Int) < (n : Int) + 64:=ae
   have hR:=aW HR.out (az HB.out) (fun _ _ => id)
   have g0 : wr.cell? ⟨B,t * 3,none⟩ = some (.int .i64 (9437184 + (t : Int) + 1)):=by simpa [cm] using br (k:=3) cm (fun _ => rfl) hR hLL (cY (fun (i : Nat) => ((9437184 + (i : Int) + 1,⟨#[]⟩,(none,0,0),[]) : FuM)) ys hl ht0 hlt) 0 ae
   have g1 : wr.cell? ⟨B,t * 3 + 1,none⟩ = some (.string ⟨#[]⟩):=by simpa [cm] using br (k:=3) cm (fun _ => rfl) hR hLL (cY (fun (i : Nat) => ((9437184 + (i : Int) + 1,⟨#[]⟩,(none,0,0),[]) : FuM)) ys hl ht0 hlt) 1 ae
   have g2 : wr.cell? ⟨B,t * 3 + 2,none⟩ = some (.slice none 0 0):=by simpa [cm] using br (k:=3) cm (fun _ => rfl) hR hLL (cY (fun (i : Nat) => ((9437184 + (i : Int) + 1,⟨#[]⟩,(none,0,0),[]) : FuM)) ys hl ht0 hlt) 2 ae
   clear hR;have x0 : (wr.alloc (aL (9437184 + (t : Int) + 1) ⟨#[]⟩ none 0 0)).cell? ⟨wr.heap.size,0,none⟩ = some (.int .i64 (9437184 + (t : Int) + 1)):=dV;have x1 : (wr.alloc (aL (9437184 + (t : Int) + 1) ⟨#[]⟩ none 0 0)).cell? ⟨wr.heap.size,1,none⟩ = some (.string ⟨#[]⟩):=dV;have x2 : (wr.alloc (aL (9437184 + (t : Int) + 1) ⟨#[]⟩ none 0 0)).cell? ⟨wr.heap.size,2,none⟩ = some (.slice none 0 0):=dV;have HBA:=hid (HB.out.alloc HB.out.size (aL (9437184 + (t : Int) + 1) ⟨#[]⟩ none 0 0));have heq : ((9437184 : Int) + t + 1 == 9437184 + t + 1) = true:=aq
   have HDR:=hid (show Below w.heap.size w (wr.alloc (aL (9437184 + (t : Int) + 1) ⟨#[]⟩ none 0 0)).drew from bT HBA.out (aJ.drewN (fun _ => False) _ 1) HBA.out.size (fun _ x => x.elim))
   go_wp2_with fail;generalize hwz : (wr.alloc (aL (9437184 + (t : Int) + 1) ⟨#[]⟩ none 0 0)) = wz at *
   go_region_held3 (fun W => W.cell? ⟨wr.heap.size,0,none⟩ = some (.int .i64 (9437184 + (t : Int) + 1)) ∧ W.cell? ⟨wr.heap.size,1,none⟩ = some (.string ⟨#[]⟩) ∧ W.cell? ⟨wr.heap.size,2,none⟩ = some (.slice none 0 0)) (go_keep)
    (first | (go_at_call 89; refine (mi t _ ae ae).mono ?_; rintro e w' ⟨rfl,hw'⟩; have hw2:=hw'.symm; subst hw2))
   exact pB
  ·obtain rfl : t = n + 64:=ae;have hlt' : ¬ ((n + 64 : Nat) : Int) < (n : Int) + 64:=ae;go_wp2_with fail
   go_loopw [6] (fun i wr => ∃ t : Nat,t ≤ n ∧ i = .int .i64 t ∧ Hid (Below w.heap.size w wr)) (fun i _ => n - (intOf i).toNat)
   case atStart => exact ⟨0,ae,rfl,HB⟩
   case round =>
    obtain ⟨t,ht,rfl,HB⟩:=hrel
    by_cases hkn : t < n
    ·obtain ⟨y,hy⟩ : ∃ y,ys[t]? = some y:=⟨_,aN ae⟩;have hkn' : (t : Int) < (n : Int):=ae;have hk64 : (t : Int) ≤ (n : Int) + 64:=ae
     have hR:=aW HR.out (az HB.out) (fun _ _ => id)
     have g0 : (_ : World).cell? ⟨B,t * 3,none⟩ = some (.int .i64 y.1):=br (k:=3) cm (fun _ => rfl) hR hLL ((dt _ ys ae).trans hy) 0 ae
     have g1 : (_ : World).cell? ⟨B,t * 3 + 1,none⟩ = some (.string y.2.1):=br (k:=3) cm (fun _ => rfl) hR hLL ((dt _ ys ae).trans hy) 1 ae
     have g2 : (_ : World).cell? ⟨B,t * 3 + 2,none⟩ = some (.slice y.2.2.1.1 y.2.2.1.2.1 y.2.2.1.2.2):=br (k:=3) cm (fun _ => rfl) hR hLL ((dt _ ys ae).trans hy) 2 ae
     have H1:=hid (yF y base2 _ (HBD.out y (List.mem_of_getElem? hy)) ((HWD.out y (List.mem_of_getElem? hy)).stay (az HB.out) (fun _ h => False.elim h)))
     exact xQ
    ·exact tI
theorem IR (x y : InM) (base : Nat) (w : World) (hs : mG w x) (h : lf w base y) (hm : mY x y) :
  Calls Tryz.prog 215 #[.agg #[.int .u8 y.1,.int .i64 y.2.1,.slice y.2.2.1.1 y.2.2.1.2.1 y.2.2.1.2.2],.agg #[.int .u8 x.1,.int .i64 x.2.1,.slice x.2.2.1.1 x.2.2.1.2.1 x.2.2.1.2.2]] w fun e w' => e = .returned (.bool true) ∧ Below w.heap.size w w':=by
 obtain ⟨c,a,⟨xa,xn,xc⟩,xl⟩:=x;obtain ⟨c2,a2,sl,l⟩:=y;obtain ⟨B,n,e,hl,ho⟩:=h;unfold mY at hm;dsimp only at *;subst e;obtain ⟨h1,h2,h3,h4⟩:=hm;dsimp only at *;subst h1 h2 h3 h4;have hb : Below w.heap.size w ((w.alloc (aH c2 a2 (some ⟨B,0,none⟩) n (n + 64))).alloc (aH c2 a2 xa n xc)):=((Below.refl _ _).alloc (Nat.le_refl _) _).alloc aq _
 have HE:=hid (IV (some ⟨B,0,none⟩) xa n (n + 64) xc l _ (FJ (aW ho (az hb) (fun _ _ => id)) hl) (hs.later hb).1 tO)
 have HB:=hid hb;have hcc : (c2 == c2) = true:=aq;have haa : (a2 == a2) = true:=aq;clear hs ho hb hl;exact IC
theorem Py (base B n c1 : Nat) (a2 : Option Addr) (c2 : Nat) (ys xs : List InM) (w : World) (hl : ys.length = n) (hn : n ≤ 200000) {base1 : Nat} (h : w.ownsRow base1 75 3 (.slice (some ⟨B,0,none⟩) (n + 64) (n + 64)) (n + 64) ((ys ++ jJ n).flatMap cM)) (hw : ∀ y ∈ ys,lf w base y) (h2 : fO w a2 n xs) (hs : ∀ x ∈ xs,mG w x) (hm : ∀ (j : Nat) x y,xs[j]? = some x → ys[j]? = some y → mY x y) :
  Calls Tryz.prog 164 #[.slice (some ⟨B,0,none⟩) n c1,.slice a2 n c2] w fun e w' => e = .returned (.bool true) ∧ Below w.heap.size w w':=by
 have hne : ((n : Int) != n) = false:=aq;have H1:=hid (Np h hl);have H2:=hid h2;have HW:=hid hw;have HS:=hid hs;have HM:=hid hm;have hl2:=h2.1;clear h h2 hw hs hm
 go_enter Tryz.func164,Tryz.ntmps164
 go_wp2_with fail
 go_loopw [5] (fun p wr => ∃ t : Nat,t ≤ n ∧ p = .int .i64 t ∧ Hid (Below w.heap.size w wr)) (fun p _ => n - (intOf p).toNat)
 case atStart => exact ⟨0,ae,rfl,hid (Below.refl _ _)⟩
 case round =>
  obtain ⟨t,ht,rfl,HB⟩:=hrel
  by_cases hlt : t < n
  ·have hlt' : (t : Int) < (n : Int):=ae;obtain ⟨y,hy⟩ : ∃ y,ys[t]? = some y:=⟨_,aN ae⟩;obtain ⟨x,hx⟩ : ∃ x,xs[t]? = some x:=⟨_,aN ae⟩;obtain ⟨b1,o1,e1,hat1⟩:=H1.out.2.resolve_left ae;obtain ⟨b2,o2,rfl,hat2⟩:=H2.out.2.resolve_left ae
   injection e1 with e1
   injection e1 with e1 e3
   subst e1 e3;obtain ⟨f0,f1,f2⟩:=hat1 t y hy;obtain ⟨g0,g1,g2⟩:=hat2 t x hx;have f0 : w.cell? ⟨B,t * 3,none⟩ = some (.int .u8 y.1):=yZ;have f1 : w.cell? ⟨B,t * 3 + 1,none⟩ = some (.int .i64 y.2.1):=xP
   have f2 : w.cell? ⟨B,t * 3 + 2,none⟩ = some (.slice y.2.2.1.1 y.2.2.1.2.1 y.2.2.1.2.2):=by have:=f2; rwa [Nat.zero_add] at this
   have kd : Below wr.heap.size wr wr.drew:=(aJ.drewN (fun _ => False) wr 1).to_below (Nat.le_refl _) (fun _ _ x => x)
   have hbd:=HB.out.trans (kd.mono HB.out.size)
   have HQ2:=hid ((IR x y base wr.drew ((HS.out x (List.mem_of_getElem? hx)).later hbd) ((HW.out y (List.mem_of_getElem? hy)).stay (az hbd) (fun _ h => False.elim h)) (HM.out t x y hx hy)).mono (fun e w' h => (⟨h.1,kd.trans h.2⟩ : e = .returned (.bool true) ∧ Below wr.heap.size wr w')))
   have HFA:=hid (fun (W : World) (hW : Below wr.heap.size wr W) => (⟨ai (HB.out.trans (hW.mono HB.out.size)) f0,ai (HB.out.trans (hW.mono HB.out.size)) f1,ai (HB.out.trans (hW.mono HB.out.size)) f2,ai (HB.out.trans (hW.mono HB.out.size)) g0,ai (HB.out.trans (hW.mono HB.out.size)) g1,ai (HB.out.trans (hW.mono HB.out.size)) g2⟩ : W.cell? ⟨B,t * 3,none⟩ = some (.int .u8 y.1) ∧ W.cell? ⟨B,t * 3 + 1,none⟩ = some (.int .i64 y.2.1) ∧ W.cell? ⟨B,t * 3 + 2,none⟩ = some (.slice y.2.2.1.1 y.2.2.1.2.1 y.2.2.1.2.2) ∧ W.cell? ⟨b2,o2 + t * 3,none⟩ = some (.int .u8 x.1) ∧ W.cell? ⟨b2,o2 + t * 3 + 1,none⟩ = some (.int .i64 x.2.1) ∧ W.cell? ⟨b2,o2 + t * 3 + 2,none⟩ = some (.slice x.2.2.1.1 x.2.2.1.2.1 x.2.2.1.2.2)))
   obtain ⟨v0,v1,v2,v3,v4,v5⟩:=HFA.out wr (Below.refl _ _);clear hat1 hat2 kd hbd f0 f1 f2 g0 g1 g2;go_wp2_with fail
   go_region_held3 (fun W => W.cell? ⟨B,t * 3,none⟩ = some (.int .u8 y.1) ∧ W.cell? ⟨B,t * 3 + 1,none⟩ = some (.int .i64 y.2.1) ∧ W.cell? ⟨B,t * 3 + 2,none⟩ = some (.slice y.2.2.1.1 y.2.2.1.2.1 y.2.2.1.2.2) ∧ W.cell? ⟨b2,o2 + t * 3,none⟩ = some (.int .u8 x.1) ∧ W.cell? ⟨b2,o2 + t * 3 + 1,none⟩ = some (.int .i64 x.2.1) ∧ W.cell? ⟨b2,o2 + t * 3 + 2,none⟩ = some (.slice x.2.2.1.1 x.2.2.1.2.1 x.2.2.1.2.2)) (go_keep)
    (first | (go_at_call 215; refine HQ2.out.mono ?_; rintro e w5 ⟨rfl,hb5⟩; obtain ⟨t0,t1,t2,t3,t4,t5⟩:=HFA.out _ hb5; have HB5:=hid (HB.out.trans (hb5.mono HB.out.size)); clear hb5))
   exact kJ
  ·exact jA
theorem I5 (x y : DaM) (base : Nat) (w : World) (hs : lJ w x) (h : jU w base y) (hm : kY x y) :
  Calls Tryz.prog 105 #[.agg #[.int .i64 y.1,.slice y.2.1.1 y.2.1.2.1 y.2.1.2.2],.agg #[.int .i64 x.1,.slice x.2.1.1 x.2.1.2.1 x.2.1.2.2]] w fun e w' => e = .returned (.bool true) ∧ Below w.heap.size w w':=by
 obtain ⟨c,⟨xa,xn,xc⟩,xl⟩:=x;obtain ⟨c2,sl,l⟩:=y;obtain ⟨B,n,e,hl,ho⟩:=h;unfold kY at hm;dsimp only at *;subst e;obtain ⟨h1,h3,h4⟩:=hm;dsimp only at *;subst h1 h3 h4;have hb : Below w.heap.size w ((w.alloc (bh c2 (some ⟨B,0,none⟩) n (n + 64))).alloc (bh c2 xa n xc)):=((Below.refl _ _).alloc (Nat.le_refl _) _).alloc aq _
 have HE:=hid (Oc (some ⟨B,0,none⟩) xa n (n + 64) xc l _ (Nt (aW ho (az hb) (fun _ _ => id)) hl) (hs.later hb).1 tO)
 have HB:=hid hb;have hcc : (c2 == c2) = true:=aq;clear hs ho hb hl;exact Er
theorem PH (base B n c1 : Nat) (a2 : Option Addr) (c2 : Nat) (ys xs : List DaM) (w : World) (hl : ys.length = n) (hn : n ≤ 200000) {base1 : Nat} (h : w.ownsRow base1 81 2 (.slice (some ⟨B,0,none⟩) (n + 64) (n + 64)) (n + 64) ((ys ++ jN n).flatMap fY)) (hw : ∀ y ∈ ys,jU w base y) (h2 : jn w a2 n xs) (hs : ∀ x ∈ xs,lJ w x) (hm : ∀ (j : Nat) x y,xs[j]? = some x → ys[j]? = some y → kY x y) :
  Calls Tryz.prog 44 #[.slice (some ⟨B,0,none⟩) n c1,.slice a2 n c2] w fun e w' => e = .returned (.bool true) ∧ Below w.heap.size w w':=by
 have hne : ((n : Int) != n) = false:=aq;have H1:=hid (MJ h hl);have H2:=hid h2;have HW:=hid hw;have HS:=hid hs;have HM:=hid hm;have hl2:=h2.1;clear h h2 hw hs hm
 go_enter Tryz.func44,Tryz.ntmps44
 go_wp2_with fail
 go_loopw [5] (fun p wr => ∃ t : Nat,t ≤ n ∧ p = .int .i64 t ∧ Hid (Below w.heap.size w wr)) (fun p _ => n - (intOf p).toNat)
 case atStart => exact ⟨0,ae,rfl,hid (Below.refl _ _)⟩
 case round =>
  obtain ⟨t,ht,rfl,HB⟩:=hrel
  by_cases hlt : t < n
  ·have hlt' : (t : Int) < (n : Int):=ae;obtain ⟨y,hy⟩ : ∃ y,ys[t]? = some y:=⟨_,aN ae⟩;obtain ⟨x,hx⟩ : ∃ x,xs[t]? = some x:=⟨_,aN ae⟩;obtain ⟨b1,o1,e1,hat1⟩:=H1.out.2.resolve_left ae;obtain ⟨b2,o2,rfl,hat2⟩:=H2.out.2.resolve_left ae
   injection e1 with e1
   injection e1 with e1 e3
   subst e1 e3;obtain ⟨f0,f1⟩:=hat1 t y hy;obtain ⟨g0,g1⟩:=hat2 t x hx;have f0 : w.cell? ⟨B,t * 2,none⟩ = some (.int .i64 y.1):=yZ;have f1 : w.cell? ⟨B,t * 2 + 1,none⟩ = some (.slice y.2.1.1 y.2.1.2.1 y.2.1.2.2):=xP
   have kd : Below wr.heap.size wr wr.drew:=(aJ.drewN (fun _ => False) wr 1).to_below (Nat.le_refl _) (fun _ _ x => x)
   have hbd:=HB.out.trans (kd.mono HB.out.size)
   have HQ2:=hid ((I5 x y base wr.drew ((HS.out x (List.mem_of_getElem? hx)).later hbd) ((HW.out y (List.mem_of_getElem? hy)).stay (az hbd) (fun _ h => False.elim h)) (HM.out t x y hx hy)).mono (fun e w' h => (⟨h.1,kd.trans h.2⟩ : e = .returned (.bool true) ∧ Below wr.heap.size wr w')))
   have HFA:=hid (fun (W : World) (hW : Below wr.heap.size wr W) => (⟨ai (HB.out.trans (hW.mono HB.out.size)) f0,ai (HB.out.trans (hW.mono HB.out.size)) f1,ai (HB.out.trans (hW.mono HB.out.size)) g0,ai (HB.out.trans (hW.mono HB.out.size)) g1⟩ : W.cell? ⟨B,t * 2,none⟩ = some (.int .i64 y.1) ∧ W.cell? ⟨B,t * 2 + 1,none⟩ = some (.slice y.2.1.1 y.2.1.2.1 y.2.1.2.2) ∧ W.cell? ⟨b2,o2 + t * 2,none⟩ = some (.int .i64 x.1) ∧ W.cell? ⟨b2,o2 + t * 2 + 1,none⟩ = some (.slice x.2.1.1 x.2.1.2.1 x.2.1.2.2)))
   obtain ⟨v0,v1,v2,v3⟩:=HFA.out wr (Below.refl _ _);clear hat1 hat2 kd hbd f0 f1 g0 g1;go_wp2_with fail
   go_region_held3 (fun W => W.cell? ⟨B,t * 2,none⟩ = some (.int .i64 y.1) ∧ W.cell? ⟨B,t * 2 + 1,none⟩ = some (.slice y.2.1.1 y.2.1.2.1 y.2.1.2.2) ∧ W.cell? ⟨b2,o2 + t * 2,none⟩ = some (.int .i64 x.1) ∧ W.cell? ⟨b2,o2 + t * 2 + 1,none⟩ = some (.slice x.2.1.1 x.2.1.2.1 x.2.1.2.2)) (go_keep)
    (first | (go_at_call 105; refine HQ2.out.mono ?_; rintro e w5 ⟨rfl,hb5⟩; obtain ⟨t0,t1,t2,t3⟩:=HFA.out _ hb5; have HB5:=hid (HB.out.trans (hb5.mono HB.out.size)); clear hb5))
   exact kJ
  ·exact jA
theorem Jr (x y : FuM) (base : Nat) (w : World) (hs : lG w x) (h : jV w base y) (hm : ki x y) :
  Calls Tryz.prog 104 #[.agg #[.int .i64 y.1,.string y.2.1,.slice y.2.2.1.1 y.2.2.1.2.1 y.2.2.1.2.2],.agg #[.int .i64 x.1,.string x.2.1,.slice x.2.2.1.1 x.2.2.1.2.1 x.2.2.1.2.2]] w fun e w' => e = .returned (.bool true) ∧ Below w.heap.size w w':=by
 obtain ⟨c,a,⟨xa,xn,xc⟩,xl⟩:=x;obtain ⟨c2,a2,sl,l⟩:=y;obtain ⟨B,n,e,hl,ho,hz⟩:=h;unfold ki at hm;dsimp only at *;subst e;obtain ⟨h1,h2,h3,h5,h4⟩:=hm;dsimp only at *;subst h1 h2 h3;have hb : Below w.heap.size w ((w.alloc (aL c2 a2 (some ⟨B,0,none⟩) n (n + 64))).alloc (aL c2 a2 xa n xc)):=((Below.refl _ _).alloc (Nat.le_refl _) _).alloc aq _
 have HE:=hid (Py base B n (n + 64) xa xc l xl _ hl (hs.later hb).2.1 (aW ho (az hb) (fun _ _ => id)) (fun z hzm => (hz z hzm).stay (az hb) (fun _ h => False.elim h)) (hs.later hb).1 (hs.later hb).2.2 h4)
 have HB:=hid hb;have hcc : (c2 == c2) = true:=aq;have haa : (a2.toList == a2.toList) = true:=aq;clear hs ho hb hl hz h5 h4;exact GI
theorem PY (base B n c1 : Nat) (a2 : Option Addr) (c2 : Nat) (ys xs : List FuM) (w : World) (hl : ys.length = n) (hn : n ≤ 200000) {base1 : Nat} (h : w.ownsRow base1 78 3 (.slice (some ⟨B,0,none⟩) (n + 64) (n + 64)) (n + 64) ((ys ++ ju n).flatMap cm)) (hw : ∀ y ∈ ys,jV w base y) (h2 : iU w a2 n xs) (hs : ∀ x ∈ xs,lG w x) (hm : ∀ (j : Nat) x y,xs[j]? = some x → ys[j]? = some y → ki x y) :
  Calls Tryz.prog 43 #[.slice (some ⟨B,0,none⟩) n c1,.slice a2 n c2] w fun e w' => e = .returned (.bool true) ∧ Below w.heap.size w w':=by
 have hne : ((n : Int) != n) = false:=aq;have H1:=hid (Lx h hl);have H2:=hid h2;have HW:=hid hw;have HS:=hid hs;have HM:=hid hm;have hl2:=h2.1;clear h h2 hw hs hm
 go_enter Tryz.func43,Tryz.ntmps43
 go_wp2_with fail
 go_loopw [5] (fun p wr => ∃ t : Nat,t ≤ n ∧ p = .int .i64 t ∧ Hid (Below w.heap.size w wr)) (fun p _ => n - (intOf p).toNat)
 case atStart => exact ⟨0,ae,rfl,hid (Below.refl _ _)⟩
 case round =>
  obtain ⟨t,ht,rfl,HB⟩:=hrel
  by_cases hlt : t < n
  ·have hlt' : (t : Int) < (n : Int):=ae;obtain ⟨y,hy⟩ : ∃ y,ys[t]? = some y:=⟨_,aN ae⟩;obtain ⟨x,hx⟩ : ∃ x,xs[t]? = some x:=⟨_,aN ae⟩;obtain ⟨b1,o1,e1,hat1⟩:=H1.out.2.resolve_left ae;obtain ⟨b2,o2,rfl,hat2⟩:=H2.out.2.resolve_left ae
   injection e1 with e1
   injection e1 with e1 e3
   subst e1 e3;obtain ⟨f0,f1,f2⟩:=hat1 t y hy;obtain ⟨g0,g1,g2⟩:=hat2 t x hx;have f0 : w.cell? ⟨B,t * 3,none⟩ = some (.int .i64 y.1):=yZ;have f1 : w.cell? ⟨B,t * 3 + 1,none⟩ = some (.string y.2.1):=xP
   have f2 : w.cell? ⟨B,t * 3 + 2,none⟩ = some (.slice y.2.2.1.1 y.2.2.1.2.1 y.2.2.1.2.2):=by have:=f2; rwa [Nat.zero_add] at this
   have kd : Below wr.heap.size wr wr.drew:=(aJ.drewN (fun _ => False) wr 1).to_below (Nat.le_refl _) (fun _ _ x => x)
   have hbd:=HB.out.trans (kd.mono HB.out.size)
   have HQ2:=hid ((Jr x y base wr.drew ((HS.out x (List.mem_of_getElem? hx)).later hbd) ((HW.out y (List.mem_of_getElem? hy)).stay (az hbd) (fun _ h => False.elim h)) (HM.out t x y hx hy)).mono (fun e w' h => (⟨h.1,kd.trans h.2⟩ : e = .returned (.bool true) ∧ Below wr.heap.size wr w')))
   have HFA:=hid (fun (W : World) (hW : Below wr.heap.size wr W) => (⟨ai (HB.out.trans (hW.mono HB.out.size)) f0,ai (HB.out.trans (hW.mono HB.out.size)) f1,ai (HB.out.trans (hW.mono HB.out.size)) f2,ai (HB.out.trans (hW.mono HB.out.size)) g0,ai (HB.out.trans (hW.mono HB.out.size)) g1,ai (HB.out.trans (hW.mono HB.out.size)) g2⟩ : W.cell? ⟨B,t * 3,none⟩ = some (.int .i64 y.1) ∧ W.cell? ⟨B,t * 3 + 1,none⟩ = some (.string y.2.1) ∧ W.cell? ⟨B,t * 3 + 2,none⟩ = some (.slice y.2.2.1.1 y.2.2.1.2.1 y.2.2.1.2.2) ∧ W.cell? ⟨b2,o2 + t * 3,none⟩ = some (.int .i64 x.1) ∧ W.cell? ⟨b2,o2 + t * 3 + 1,none⟩ = some (.string x.2.1) ∧ W.cell? ⟨b2,o2 + t * 3 + 2,none⟩ = some (.slice x.2.2.1.1 x.2.2.1.2.1 x.2.2.1.2.2)))
   obtain ⟨v0,v1,v2,v3,v4,v5⟩:=HFA.out wr (Below.refl _ _);clear hat1 hat2 kd hbd f0 f1 f2 g0 g1 g2;go_wp2_with fail
   go_region_held3 (fun W => W.cell? ⟨B,t * 3,none⟩ = some (.int .i64 y.1) ∧ W.cell? ⟨B,t * 3 + 1,none⟩ = some (.string y.2.1) ∧ W.cell? ⟨B,t * 3 + 2,none⟩ = some (.slice y.2.2.1.1 y.2.2.1.2.1 y.2.2.1.2.2) ∧ W.cell? ⟨b2,o2 + t * 3,none⟩ = some (.int .i64 x.1) ∧ W.cell? ⟨b2,o2 + t * 3 + 1,none⟩ = some (.string x.2.1) ∧ W.cell? ⟨b2,o2 + t * 3 + 2,none⟩ = some (.slice x.2.2.1.1 x.2.2.1.2.1 x.2.2.1.2.2)) (go_keep)
    (first | (go_at_call 104; refine HQ2.out.mono ?_; rintro e w5 ⟨rfl,hb5⟩; obtain ⟨t0,t1,t2,t3,t4,t5⟩:=HFA.out _ hb5; have HB5:=hid (HB.out.trans (hb5.mono HB.out.size)); clear hb5))
   exact kJ
  ·exact jA
end Go.Proofs.YtheefojaplnnoaaGreatDoor

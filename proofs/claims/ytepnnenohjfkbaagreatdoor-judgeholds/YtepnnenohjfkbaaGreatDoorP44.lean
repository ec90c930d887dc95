/-
  Texts Qg Qh.
-/
import Derived.Test.YtepnnenohjfkbaaGreatDoorP00
import Derived.Test.YtepnnenohjfkbaaGreatDoorP43
set_option linter.unusedVariables false
set_option maxRecDepth 100000
set_option maxHeartbeats 16000000
namespace Go.Proofs.YtepnnenohjfkbaaGreatDoor
open Go.RowKit
def Gy (y : InM) : Prop:=y.2.2.1.2.1 ≤ 100000
def H7 (y : DaM) : Prop:=y.2.1.2.1 ≤ 1000000
def MA (y : FuM) : Prop:=y.2.2.1.2.1 ≤ 100000 ∧ ∀ z ∈ y.2.2.2,Gy z
theorem row_in {w : World} {base B n c : Nat} {l : List InM} (h : w.ownsRow base 51 3 (.slice (some ⟨B,0,none⟩) (n + 64) c) (n + 64) ((l ++ jg n).flatMap fR)) (hl : l.length = n) : AtIn w (some ⟨B,0,none⟩) n l :=
 ⟨hl,.inr ⟨B,0,rfl,fun j x hj => by
  have hj' : (l ++ jg n)[j]? = some x:=(cF _ l (ax hj)).trans hj
  have hL : (l ++ jg n).length = n + 64:=by rw [List.length_append,hl,kB]
  rw [Nat.zero_add]
  exact ⟨bw (k:=3) fR (fun _ => rfl) h hL hj' 0 ae,bw (k:=3) fR (fun _ => rfl) h hL hj' 1 ae,bw (k:=3) fR (fun _ => rfl) h hL hj' 2 ae⟩⟩⟩
theorem OS {w : World} {base B n c : Nat} {l : List FuM} (h : w.ownsRow base 42 3 (.slice (some ⟨B,0,none⟩) (n + 64) c) (n + 64) ((l ++ jl n).flatMap fE)) (hl : l.length = n) : i7 w (some ⟨B,0,none⟩) n l :=
 ⟨hl,.inr ⟨B,0,rfl,fun j x hj => by
  have hj' : (l ++ jl n)[j]? = some x:=(cF _ l (ax hj)).trans hj
  have hL : (l ++ jl n).length = n + 64:=by rw [List.length_append,hl,jQ]
  rw [Nat.zero_add]
  exact ⟨bw (k:=3) fE (fun _ => rfl) h hL hj' 0 ae,bw (k:=3) fE (fun _ => rfl) h hL hj' 1 ae,bw (k:=3) fE (fun _ => rfl) h hL hj' 2 ae⟩⟩⟩
theorem OB {w : World} {base B n c : Nat} {l : List DaM} (h : w.ownsRow base 66 2 (.slice (some ⟨B,0,none⟩) (n + 64) c) (n + 64) ((l ++ jt n).flatMap gQ)) (hl : l.length = n) : ki w (some ⟨B,0,none⟩) n l :=
 ⟨hl,.inr ⟨B,0,rfl,fun j x hj => by
  have hj' : (l ++ jt n)[j]? = some x:=(cF _ l (ax hj)).trans hj
  have hL : (l ++ jt n).length = n + 64:=by rw [List.length_append,hl,kI]
  rw [Nat.zero_add]
  exact ⟨bw (k:=2) gQ (fun _ => rfl) h hL hj' 0 ae,bw (k:=2) gQ (fun _ => rfl) h hL hj' 1 ae⟩⟩⟩
theorem KG {w : World} {base B n c : Nat} {l : List Int} (h : w.ownsRow base 3 1 (.slice (some ⟨B,0,none⟩) (n + 64) c) (n + 64) ((l ++ iE n).flatMap fX)) (hl : l.length = n) : iN w (some ⟨B,0,none⟩) n l :=
 ⟨hl,.inr ⟨B,0,rfl,fun j x hj => by
  have hj' : (l ++ iE n)[j]? = some x:=(cF _ l (ax hj)).trans hj
  have hL : (l ++ iE n).length = n + 64:=by rw [List.length_append,hl,qi]
  rw [Nat.zero_add]
  simpa [fX] using bw (k:=1) fX (fun _ => rfl) h hL hj' 0 ae⟩⟩
theorem Qs {w : World} {base B n c : Nat} {l : List Int} (h : w.ownsRow base 5 1 (.slice (some ⟨B,0,none⟩) (n + 64) c) (n + 64) ((l ++ iL n).flatMap iK)) (hl : l.length = n) : sB w (some ⟨B,0,none⟩) n l :=
 ⟨hl,.inr ⟨B,0,rfl,fun j x hj => by
  have hj' : (l ++ iL n)[j]? = some x:=(cF _ l (ax hj)).trans hj
  have hL : (l ++ iL n).length = n + 64:=by rw [List.length_append,hl,qx]
  rw [Nat.zero_add]
  simpa [iK] using bw (k:=1) iK (fun _ => rfl) h hL hj' 0 ae⟩⟩
theorem AY (y : InM) (base : Nat) (w : World) (hb : Gy y) (h : lh w base y) :
  Calls Tryz.prog 228 #[.agg #[.int .u8 y.1,.int .i64 y.2.1,.slice y.2.2.1.1 y.2.2.1.2.1 y.2.2.1.2.2]] w fun e w' => e = .returned (.bool true) ∧ Below w.heap.size w w':=by
 obtain ⟨c,a,sl,l⟩:=y;obtain ⟨B,n,e,hl,ho⟩:=h;dsimp only at *;subst e;unfold Gy at hb;dsimp only at *;have B0:=aj w (aC c a (some ⟨B,0,none⟩) n (n + 64));have c2 : (w.alloc (aC c a (some ⟨B,0,none⟩) n (n + 64))).cell? ⟨w.heap.size,2,none⟩ = some (.slice (some ⟨B,0,none⟩) n (n + 64)):=ai (heap_alloc_new _ _)
 have H:=hid (BM 0 base B n l _ hl ae (bg ho (az B0) (fun _ _ => id)))
 have HB:=hid B0;clear ho B0 hl hb
 go_enter Tryz.func228,Tryz.ntmps228
 exact Ag
theorem MH (base base2 B n : Nat) (ys : List InM) (w : World) (hl : ys.length = n) (hn : n ≤ 100000) (h : w.ownsRow base 51 3 (.slice (some ⟨B,0,none⟩) (n + 64) (n + 64)) (n + 64) ((ys ++ jg n).flatMap fR)) (hw : ∀ y ∈ ys,lh w base2 y) (hb : ∀ y ∈ ys,Gy y) :
  Calls Tryz.prog 164 #[.slice (some ⟨B,0,none⟩) n (n + 64)] w fun e w' => e = .returned (.bool true) ∧ Below w.heap.size w w':=by
 have hLL : (ys ++ jg n).length = n + 64:=by rw [List.length_append,hl,kB]
 have HR:=hid h;have HWD:=hid hw;have HBD:=hid hb;clear h hw hb
 go_enter Tryz.func164,Tryz.ntmps164
 go_wp2_with fail
 go_loopw [4] (fun i wr => ∃ t : Nat,n ≤ t ∧ t ≤ n + 64 ∧ i = .int .i64 t ∧ Hid (Below w.heap.size w wr)) (fun i _ => n + 64 - (intOf i).toNat)
 case atStart => exact ⟨n,ae,ae,rfl,hid (Below.refl _ _)⟩
 case round =>
  obtain ⟨t,ht0,ht,rfl,HB⟩:=hrel
  by_cases hlt : t < n + 64
  ·have hlt' : (t : Int) < (n : Int) + 64:=ae
   have hR:=bg HR.out (az HB.out) (fun _ _ => id)
   have g0 : wr.cell? ⟨B,t * 3,none⟩ = some (.int .u8 0):=by simpa [fR] using bw (k:=3) fR (fun _ => rfl) hR hLL (cC (fun (i : Nat) => ((0,9437184 + (i : Int) + 1,(none,0,0),[]) : InM)) ys hl ht0 hlt) 0 ae
   have g1 : wr.cell? ⟨B,t * 3 + 1,none⟩ = some (.int .i64 (9437184 + (t : Int) + 1)):=by simpa [fR] using bw (k:=3) fR (fun _ => rfl) hR hLL (cC (fun (i : Nat) => ((0,9437184 + (i : Int) + 1,(none,0,0),[]) : InM)) ys hl ht0 hlt) 1 ae
   have g2 : wr.cell? ⟨B,t * 3 + 2,none⟩ = some (.slice none 0 0):=by simpa [fR] using bw (k:=3) fR (fun _ => rfl) hR hLL (cC (fun (i : Nat) => ((0,9437184 + (i : Int) + 1,(none,0,0),[]) : InM)) ys hl ht0 hlt) 2 ae
   clear hR;have x0 : (wr.alloc (aC 0 (9437184 + (t : Int) + 1) none 0 0)).cell? ⟨wr.heap.size,0,none⟩ = some (.int .u8 0):=eY;have x1 : (wr.alloc (aC 0 (9437184 + (t : Int) + 1) none 0 0)).cell? ⟨wr.heap.size,1,none⟩ = some (.int .i64 (9437184 + (t : Int) + 1)):=eY;have x2 : (wr.alloc (aC 0 (9437184 + (t : Int) + 1) none 0 0)).cell? ⟨wr.heap.size,2,none⟩ = some (.slice none 0 0):=eY;have HBA:=hid (HB.out.alloc HB.out.size (aC 0 (9437184 + (t : Int) + 1) none 0 0));have heq : ((9437184 : Int) + t + 1 == 9437184 + t + 1) = true:=ak
   have HDR:=hid (show Below w.heap.size w (wr.alloc (aC 0 (9437184 + (t : Int) + 1) none 0 0)).drew from bA HBA.out (Kept.drewN (fun _ => False) _ 1) HBA.out.size (fun _ x => x.elim))
   go_wp2_with fail;generalize hwz : (wr.alloc (aC 0 (9437184 + (t : Int) + 1) none 0 0)) = wz at *
   go_region_held3 (fun W => W.cell? ⟨wr.heap.size,0,none⟩ = some (.int .u8 0) ∧ W.cell? ⟨wr.heap.size,1,none⟩ = some (.int .i64 (9437184 + (t : Int) + 1)) ∧ W.cell? ⟨wr.heap.size,2,none⟩ = some (.slice none 0 0)) (go_keep)
    (first | (go_at_call 85; refine (mD t _ ae ae).mono ?_; rintro e w' ⟨rfl,hw'⟩; have hw2:=hw'.symm; subst hw2))
   exact pW
  ·obtain rfl : t = n + 64:=ae;have hlt' : ¬ ((n + 64 : Nat) : Int) < (n : Int) + 64:=ae;go_wp2_with fail
   go_loopw [6] (fun i wr => ∃ t : Nat,t ≤ n ∧ i = .int .i64 t ∧ Hid (Below w.heap.size w wr)) (fun i _ => n - (intOf i).toNat)
   case atStart => exact ⟨0,ae,rfl,HB⟩
   case round =>
    obtain ⟨t,ht,rfl,HB⟩:=hrel
    by_cases hkn : t < n
    ·obtain ⟨y,hy⟩ : ∃ y,ys[t]? = some y:=⟨_,aN ae⟩;have hkn' : (t : Int) < (n : Int):=ae;have hk64 : (t : Int) ≤ (n : Int) + 64:=ae
     have hR:=bg HR.out (az HB.out) (fun _ _ => id)
     have g0 : (_ : World).cell? ⟨B,t * 3,none⟩ = some (.int .u8 y.1):=bw (k:=3) fR (fun _ => rfl) hR hLL ((cF _ ys ae).trans hy) 0 ae
     have g1 : (_ : World).cell? ⟨B,t * 3 + 1,none⟩ = some (.int .i64 y.2.1):=bw (k:=3) fR (fun _ => rfl) hR hLL ((cF _ ys ae).trans hy) 1 ae
     have g2 : (_ : World).cell? ⟨B,t * 3 + 2,none⟩ = some (.slice y.2.2.1.1 y.2.2.1.2.1 y.2.2.1.2.2):=bw (k:=3) fR (fun _ => rfl) hR hLL ((cF _ ys ae).trans hy) 2 ae
     have H1:=hid (AY y base2 _ (HBD.out y (List.mem_of_getElem? hy)) ((HWD.out y (List.mem_of_getElem? hy)).stay (az HB.out) (fun _ h => False.elim h)))
     exact A7
    ·exact uP
theorem Ao (y : DaM) (base : Nat) (w : World) (hb : H7 y) (h : jI w base y) :
  Calls Tryz.prog 110 #[.agg #[.int .i64 y.1,.slice y.2.1.1 y.2.1.2.1 y.2.1.2.2]] w fun e w' => e = .returned (.bool true) ∧ Below w.heap.size w w':=by
 obtain ⟨c,sl,l⟩:=y;obtain ⟨B,n,e,hl,ho⟩:=h;dsimp only at *;subst e;unfold H7 at hb;dsimp only at *;have B0:=aj w (bi c (some ⟨B,0,none⟩) n (n + 64));have c2 : (w.alloc (bi c (some ⟨B,0,none⟩) n (n + 64))).cell? ⟨w.heap.size,1,none⟩ = some (.slice (some ⟨B,0,none⟩) n (n + 64)):=ai (heap_alloc_new _ _)
 have H:=hid (MP 0 base B n l _ hl ae (bg ho (az B0) (fun _ _ => id)))
 have HB:=hid B0;clear ho B0 hl hb
 go_enter Tryz.func110,Tryz.ntmps110
 exact Ag
theorem Nf (base base2 B n : Nat) (ys : List DaM) (w : World) (hl : ys.length = n) (hn : n ≤ 100000) (h : w.ownsRow base 66 2 (.slice (some ⟨B,0,none⟩) (n + 64) (n + 64)) (n + 64) ((ys ++ jt n).flatMap gQ)) (hw : ∀ y ∈ ys,jI w base2 y) (hb : ∀ y ∈ ys,H7 y) :
  Calls Tryz.prog 68 #[.slice (some ⟨B,0,none⟩) n (n + 64)] w fun e w' => e = .returned (.bool true) ∧ Below w.heap.size w w':=by
 have hLL : (ys ++ jt n).length = n + 64:=by rw [List.length_append,hl,kI]
 have HR:=hid h;have HWD:=hid hw;have HBD:=hid hb;clear h hw hb
 go_enter Tryz.func68,Tryz.ntmps68
 go_wp2_with fail
 go_loopw [4] (fun i wr => ∃ t : Nat,n ≤ t ∧ t ≤ n + 64 ∧ i = .int .i64 t ∧ Hid (Below w.heap.size w wr)) (fun i _ => n + 64 - (intOf i).toNat)
 case atStart => exact ⟨n,ae,ae,rfl,hid (Below.refl _ _)⟩
 case round =>
  obtain ⟨t,ht0,ht,rfl,HB⟩:=hrel
  by_cases hlt : t < n + 64
  ·have hlt' : (t : Int) < (n : Int) + 64:=ae
   have hR:=bg HR.out (az HB.out) (fun _ _ => id)
   have g0 : wr.cell? ⟨B,t * 2,none⟩ = some (.int .i64 (9437184 + (t : Int) + 1)):=by simpa [gQ] using bw (k:=2) gQ (fun _ => rfl) hR hLL (cC (fun (i : Nat) => ((9437184 + (i : Int) + 1,(none,0,0),[]) : DaM)) ys hl ht0 hlt) 0 ae
   have g1 : wr.cell? ⟨B,t * 2 + 1,none⟩ = some (.slice none 0 0):=by simpa [gQ] using bw (k:=2) gQ (fun _ => rfl) hR hLL (cC (fun (i : Nat) => ((9437184 + (i : Int) + 1,(none,0,0),[]) : DaM)) ys hl ht0 hlt) 1 ae
   clear hR;have x0 : (wr.alloc (bi (9437184 + (t : Int) + 1) none 0 0)).cell? ⟨wr.heap.size,0,none⟩ = some (.int .i64 (9437184 + (t : Int) + 1)):=eY;have x1 : (wr.alloc (bi (9437184 + (t : Int) + 1) none 0 0)).cell? ⟨wr.heap.size,1,none⟩ = some (.slice none 0 0):=eY;have HBA:=hid (HB.out.alloc HB.out.size (bi (9437184 + (t : Int) + 1) none 0 0));have heq : ((9437184 : Int) + t + 1 == 9437184 + t + 1) = true:=ak
   have HDR:=hid (show Below w.heap.size w (wr.alloc (bi (9437184 + (t : Int) + 1) none 0 0)).drew from bA HBA.out (Kept.drewN (fun _ => False) _ 1) HBA.out.size (fun _ x => x.elim))
   go_wp2_with fail;generalize hwz : (wr.alloc (bi (9437184 + (t : Int) + 1) none 0 0)) = wz at *
   go_region_held3 (fun W => W.cell? ⟨wr.heap.size,0,none⟩ = some (.int .i64 (9437184 + (t : Int) + 1)) ∧ W.cell? ⟨wr.heap.size,1,none⟩ = some (.slice none 0 0)) (go_keep)
    (first | (go_at_call 85; refine (mD t _ ae ae).mono ?_; rintro e w' ⟨rfl,hw'⟩; have hw2:=hw'.symm; subst hw2))
   exact pW
  ·obtain rfl : t = n + 64:=ae;have hlt' : ¬ ((n + 64 : Nat) : Int) < (n : Int) + 64:=ae;go_wp2_with fail
   go_loopw [6] (fun i wr => ∃ t : Nat,t ≤ n ∧ i = .int .i64 t ∧ Hid (Below w.heap.size w wr)) (fun i _ => n - (intOf i).toNat)
   case atStart => exact ⟨0,ae,rfl,HB⟩
   case round =>
    obtain ⟨t,ht,rfl,HB⟩:=hrel
    by_cases hkn : t < n
    ·obtain ⟨y,hy⟩ : ∃ y,ys[t]? = some y:=⟨_,aN ae⟩;have hkn' : (t : Int) < (n : Int):=ae;have hk64 : (t : Int) ≤ (n : Int) + 64:=ae
     have hR:=bg HR.out (az HB.out) (fun _ _ => id)
     have g0 : (_ : World).cell? ⟨B,t * 2,none⟩ = some (.int .i64 y.1):=bw (k:=2) gQ (fun _ => rfl) hR hLL ((cF _ ys ae).trans hy) 0 ae
     have g1 : (_ : World).cell? ⟨B,t * 2 + 1,none⟩ = some (.slice y.2.1.1 y.2.1.2.1 y.2.1.2.2):=bw (k:=2) gQ (fun _ => rfl) hR hLL ((cF _ ys ae).trans hy) 1 ae
     have H1:=hid (Ao y base2 _ (HBD.out y (List.mem_of_getElem? hy)) ((HWD.out y (List.mem_of_getElem? hy)).stay (az HB.out) (fun _ h => False.elim h)))
     exact A7
    ·exact uP
theorem AG (y : FuM) (base : Nat) (w : World) (hb : MA y) (h : jK w base y) :
  Calls Tryz.prog 109 #[.agg #[.int .i64 y.1,.string y.2.1,.slice y.2.2.1.1 y.2.2.1.2.1 y.2.2.1.2.2]] w fun e w' => e = .returned (.bool true) ∧ Below w.heap.size w w':=by
 obtain ⟨c,a,sl,l⟩:=y;obtain ⟨B,n,e,hl,ho,hz⟩:=h;dsimp only at *;subst e;unfold MA at hb;dsimp only at *;have B0:=aj w (aI c a (some ⟨B,0,none⟩) n (n + 64));have c2 : (w.alloc (aI c a (some ⟨B,0,none⟩) n (n + 64))).cell? ⟨w.heap.size,2,none⟩ = some (.slice (some ⟨B,0,none⟩) n (n + 64)):=ai (heap_alloc_new _ _)
 have H:=hid (MH base base B n l _ hl hb.1 (bg ho (az B0) (fun _ _ => id)) (fun z hzm => (hz z hzm).stay (az B0) (fun _ h => False.elim h)) hb.2)
 have HB:=hid B0;clear ho B0 hl hb hz
 go_enter Tryz.func109,Tryz.ntmps109
 exact Ag
theorem MV (base base2 B n : Nat) (ys : List FuM) (w : World) (hl : ys.length = n) (hn : n ≤ 100000) (h : w.ownsRow base 42 3 (.slice (some ⟨B,0,none⟩) (n + 64) (n + 64)) (n + 64) ((ys ++ jl n).flatMap fE)) (hw : ∀ y ∈ ys,jK w base2 y) (hb : ∀ y ∈ ys,MA y) :
  Calls Tryz.prog 67 #[.slice (some ⟨B,0,none⟩) n (n + 64)] w fun e w' => e = .returned (.bool true) ∧ Below w.heap.size w w':=by
 have hLL : (ys ++ jl n).length = n + 64:=by rw [List.length_append,hl,jQ]
 have HR:=hid h;have HWD:=hid hw;have HBD:=hid hb;clear h hw hb
 go_enter Tryz.func67,Tryz.ntmps67
 go_wp2_with fail
 go_loopw [4] (fun i wr => ∃ t : Nat,n ≤ t ∧ t ≤ n + 64 ∧ i = .int .i64 t ∧ Hid (Below w.heap.size w wr)) (fun i _ => n + 64 - (intOf i).toNat)
 case atStart => exact ⟨n,ae,ae,rfl,hid (Below.refl _ _)⟩
 case round =>
  obtain ⟨t,ht0,ht,rfl,HB⟩:=hrel
  by_cases hlt : t < n + 64
  ·have hlt' : (t : Int) < (n : Int) + 64:=ae
   have hR:=bg HR.out (az HB.out) (fun _ _ => id)
   have g0 : wr.cell? ⟨B,t * 3,none⟩ = some (.int .i64 (9437184 + (t : Int) + 1)):=by simpa [fE] using bw (k:=3) fE (fun _ => rfl) hR hLL (cC (fun (i : Nat) => ((9437184 + (i : Int) + 1,⟨#[]⟩,(none,0,0),[]) : FuM)) ys hl ht0 hlt) 0 ae
   have g1 : wr.cell? ⟨B,t * 3 + 1,none⟩ = some (.string ⟨#[]⟩):=by simpa [fE] using bw (k:=3) fE (fun _ => rfl) hR hLL (cC (fun (i : Nat) => ((9437184 + (i : Int) + 1,⟨#[]⟩,(none,0,0),[]) : FuM)) ys hl ht0 hlt) 1 ae
   have g2 : wr.cell? ⟨B,t * 3 + 2,none⟩ = some (.slice none 0 0):=by simpa [fE] using bw (k:=3) fE (fun _ => rfl) hR hLL (cC (fun (i : Nat) => ((9437184 + (i : Int) + 1,⟨#[]⟩,(none,0,0),[]) : FuM)) ys hl ht0 hlt) 2 ae
   clear hR;have x0 : (wr.alloc (aI (9437184 + (t : Int) + 1) ⟨#[]⟩ none 0 0)).cell? ⟨wr.heap.size,0,none⟩ = some (.int .i64 (9437184 + (t : Int) + 1)):=eY;have x1 : (wr.alloc (aI (9437184 + (t : Int) + 1) ⟨#[]⟩ none 0 0)).cell? ⟨wr.heap.size,1,none⟩ = some (.string ⟨#[]⟩):=eY;have x2 : (wr.alloc (aI (9437184 + (t : Int) + 1) ⟨#[]⟩ none 0 0)).cell? ⟨wr.heap.size,2,none⟩ = some (.slice none 0 0):=eY;have HBA:=hid (HB.out.alloc HB.out.size (aI (9437184 + (t : Int) + 1) ⟨#[]⟩ none 0 0));have heq : ((9437184 : Int) + t + 1 == 9437184 + t + 1) = true:=ak
   have HDR:=hid (show Below w.heap.size w (wr.alloc (aI (9437184 + (t : Int) + 1) ⟨#[]⟩ none 0 0)).drew from bA HBA.out (Kept.drewN (fun _ => False) _ 1) HBA.out.size (fun _ x => x.elim))
   go_wp2_with fail;generalize hwz : (wr.alloc (aI (9437184 + (t : Int) + 1) ⟨#[]⟩ none 0 0)) = wz at *
   go_region_held3 (fun W => W.cell? ⟨wr.heap.size,0,none⟩ = some (.int .i64 (9437184 + (t : Int) + 1)) ∧ W.cell? ⟨wr.heap.size,1,none⟩ = some (.string ⟨#[]⟩) ∧ W.cell? ⟨wr.heap.size,2,none⟩ = some (.slice none 0 0)) (go_keep)
    (first | (go_at_call 85; refine (mD t _ ae ae).mono ?_; rintro e w' ⟨rfl,hw'⟩; have hw2:=hw'.symm; subst hw2))
   exact pW
  ·obtain rfl : t = n + 64:=ae;have hlt' : ¬ ((n + 64 : Nat) : Int) < (n : Int) + 64:=ae;go_wp2_with fail
   go_loopw [6] (fun i wr => ∃ t : Nat,t ≤ n ∧ i = .int .i64 t ∧ Hid (Below w.heap.size w wr)) (fun i _ => n - (intOf i).toNat)
   case atStart => exact ⟨0,ae,rfl,HB⟩
   case round =>
    obtain ⟨t,ht,rfl,HB⟩:=hrel
    by_cases hkn : t < n
    ·obtain ⟨y,hy⟩ : ∃ y,ys[t]? = some y:=⟨_,aN ae⟩;have hkn' : (t : Int) < (n : Int):=ae;have hk64 : (t : Int) ≤ (n : Int) + 64:=ae
     have hR:=bg HR.out (az HB.out) (fun _ _ => id)
     have g0 : (_ : World).cell? ⟨B,t * 3,none⟩ = some (.int .i64 y.1):=bw (k:=3) fE (fun _ => rfl) hR hLL ((cF _ ys ae).trans hy) 0 ae
     have g1 : (_ : World).cell? ⟨B,t * 3 + 1,none⟩ = some (.string y.2.1):=bw (k:=3) fE (fun _ => rfl) hR hLL ((cF _ ys ae).trans hy) 1 ae
     have g2 : (_ : World).cell? ⟨B,t * 3 + 2,none⟩ = some (.slice y.2.2.1.1 y.2.2.1.2.1 y.2.2.1.2.2):=bw (k:=3) fE (fun _ => rfl) hR hLL ((cF _ ys ae).trans hy) 2 ae
     have H1:=hid (AG y base2 _ (HBD.out y (List.mem_of_getElem? hy)) ((HWD.out y (List.mem_of_getElem? hy)).stay (az HB.out) (fun _ h => False.elim h)))
     exact A7
    ·exact uP
theorem Nc (x y : InM) (base : Nat) (w : World) (hs : xj w x) (h : lh w base y) (hm : sk x y) :
  Calls Tryz.prog 227 #[.agg #[.int .u8 y.1,.int .i64 y.2.1,.slice y.2.2.1.1 y.2.2.1.2.1 y.2.2.1.2.2],.agg #[.int .u8 x.1,.int .i64 x.2.1,.slice x.2.2.1.1 x.2.2.1.2.1 x.2.2.1.2.2]] w fun e w' => e = .returned (.bool true) ∧ Below w.heap.size w w':=by
 obtain ⟨c,a,⟨xa,xn,xc⟩,xl⟩:=x;obtain ⟨c2,a2,sl,l⟩:=y;obtain ⟨B,n,e,hl,ho⟩:=h;unfold sk at hm;dsimp only at *;subst e;obtain ⟨h1,h2,h3,h4⟩:=hm;dsimp only at *;subst h1 h2 h3 h4;have hb : Below w.heap.size w ((w.alloc (aC c2 a2 (some ⟨B,0,none⟩) n (n + 64))).alloc (aC c2 a2 xa n xc)):=((Below.refl _ _).alloc (Nat.le_refl _) _).alloc ak _
 have HE:=hid (Qw (some ⟨B,0,none⟩) xa n (n + 64) xc l _ (KG (bg ho (az hb) (fun _ _ => id)) hl) (hs.later hb).1 (by have:=hs.2; dsimp only at this; omega))
 have HB:=hid hb;have hcc : (c2 == c2) = true:=ak;have haa : (a2 == a2) = true:=ak;clear hs ho hb hl
 go_enter Tryz.func227,Tryz.ntmps227
 exact zr
theorem Sr (base B n c1 : Nat) (a2 : Option Addr) (c2 : Nat) (ys xs : List InM) (w : World) (hl : ys.length = n) (hn : n ≤ 100000) {base1 : Nat} (h : w.ownsRow base1 51 3 (.slice (some ⟨B,0,none⟩) (n + 64) (n + 64)) (n + 64) ((ys ++ jg n).flatMap fR)) (hw : ∀ y ∈ ys,lh w base y) (h2 : AtIn w a2 n xs) (hs : ∀ x ∈ xs,xj w x) (hm : ∀ (j : Nat) x y,xs[j]? = some x → ys[j]? = some y → sk x y) :
  Calls Tryz.prog 162 #[.slice (some ⟨B,0,none⟩) n c1,.slice a2 n c2] w fun e w' => e = .returned (.bool true) ∧ Below w.heap.size w w':=by
 have hne : ((n : Int) != n) = false:=ak;have H1:=hid (row_in h hl);have H2:=hid h2;have HW:=hid hw;have HS:=hid hs;have HM:=hid hm;have hl2:=h2.1;clear h h2 hw hs hm
 go_enter Tryz.func162,Tryz.ntmps162
 go_wp2_with fail
 go_loopw [5] (fun p wr => ∃ t : Nat,t ≤ n ∧ p = .int .i64 t ∧ Hid (Below w.heap.size w wr)) (fun p _ => n - (intOf p).toNat)
 case atStart => exact ⟨0,ae,rfl,hid (Below.refl _ _)⟩
 case round =>
  obtain ⟨t,ht,rfl,HB⟩:=hrel
  by_cases hlt : t < n
  ·have hlt' : (t : Int) < (n : Int):=ae;obtain ⟨y,hy⟩ : ∃ y,ys[t]? = some y:=⟨_,aN ae⟩;obtain ⟨x,hx⟩ : ∃ x,xs[t]? = some x:=⟨_,aN ae⟩;obtain ⟨b1,o1,e1,hat1⟩:=H1.out.2.resolve_left ae;obtain ⟨b2,o2,rfl,hat2⟩:=H2.out.2.resolve_left ae
   injection e1 with e1
   injection e1 with e1 e3
   subst e1 e3;obtain ⟨f0,f1,f2⟩:=hat1 t y hy;obtain ⟨g0,g1,g2⟩:=hat2 t x hx;have f0 : w.cell? ⟨B,t * 3,none⟩ = some (.int .u8 y.1):=uF;have f1 : w.cell? ⟨B,t * 3 + 1,none⟩ = some (.int .i64 y.2.1):=tU
   have f2 : w.cell? ⟨B,t * 3 + 2,none⟩ = some (.slice y.2.2.1.1 y.2.2.1.2.1 y.2.2.1.2.2):=by have:=f2; rwa [Nat.zero_add] at this
   have kd : Below wr.heap.size wr wr.drew:=(Kept.drewN (fun _ => False) wr 1).to_below (Nat.le_refl _) (fun _ _ x => x)
   have hbd:=HB.out.trans (kd.mono HB.out.size)
   have HQ2:=hid ((Nc x y base wr.drew ((HS.out x (List.mem_of_getElem? hx)).later hbd) ((HW.out y (List.mem_of_getElem? hy)).stay (az hbd) (fun _ h => False.elim h)) (HM.out t x y hx hy)).mono (fun e w' h => (⟨h.1,kd.trans h.2⟩ : e = .returned (.bool true) ∧ Below wr.heap.size wr w')))
   have HFA:=hid (fun (W : World) (hW : Below wr.heap.size wr W) => (⟨ag (HB.out.trans (hW.mono HB.out.size)) f0,ag (HB.out.trans (hW.mono HB.out.size)) f1,ag (HB.out.trans (hW.mono HB.out.size)) f2,ag (HB.out.trans (hW.mono HB.out.size)) g0,ag (HB.out.trans (hW.mono HB.out.size)) g1,ag (HB.out.trans (hW.mono HB.out.size)) g2⟩ : W.cell? ⟨B,t * 3,none⟩ = some (.int .u8 y.1) ∧ W.cell? ⟨B,t * 3 + 1,none⟩ = some (.int .i64 y.2.1) ∧ W.cell? ⟨B,t * 3 + 2,none⟩ = some (.slice y.2.2.1.1 y.2.2.1.2.1 y.2.2.1.2.2) ∧ W.cell? ⟨b2,o2 + t * 3,none⟩ = some (.int .u8 x.1) ∧ W.cell? ⟨b2,o2 + t * 3 + 1,none⟩ = some (.int .i64 x.2.1) ∧ W.cell? ⟨b2,o2 + t * 3 + 2,none⟩ = some (.slice x.2.2.1.1 x.2.2.1.2.1 x.2.2.1.2.2)))
   obtain ⟨v0,v1,v2,v3,v4,v5⟩:=HFA.out wr (Below.refl _ _);clear hat1 hat2 kd hbd f0 f1 f2 g0 g1 g2;go_wp2_with fail
   go_region_held3 (fun W => W.cell? ⟨B,t * 3,none⟩ = some (.int .u8 y.1) ∧ W.cell? ⟨B,t * 3 + 1,none⟩ = some (.int .i64 y.2.1) ∧ W.cell? ⟨B,t * 3 + 2,none⟩ = some (.slice y.2.2.1.1 y.2.2.1.2.1 y.2.2.1.2.2) ∧ W.cell? ⟨b2,o2 + t * 3,none⟩ = some (.int .u8 x.1) ∧ W.cell? ⟨b2,o2 + t * 3 + 1,none⟩ = some (.int .i64 x.2.1) ∧ W.cell? ⟨b2,o2 + t * 3 + 2,none⟩ = some (.slice x.2.2.1.1 x.2.2.1.2.1 x.2.2.1.2.2)) (go_keep)
    (first | (go_at_call 227; refine HQ2.out.mono ?_; rintro e w5 ⟨rfl,hb5⟩; obtain ⟨t0,t1,t2,t3,t4,t5⟩:=HFA.out _ hb5; have HB5:=hid (HB.out.trans (hb5.mono HB.out.size)); clear hb5))
   exact tP
  ·exact pH
theorem LO (x y : DaM) (base : Nat) (w : World) (hs : xN w x) (h : jI w base y) (hm : rP x y) :
  Calls Tryz.prog 108 #[.agg #[.int .i64 y.1,.slice y.2.1.1 y.2.1.2.1 y.2.1.2.2],.agg #[.int .i64 x.1,.slice x.2.1.1 x.2.1.2.1 x.2.1.2.2]] w fun e w' => e = .returned (.bool true) ∧ Below w.heap.size w w':=by
 obtain ⟨c,⟨xa,xn,xc⟩,xl⟩:=x;obtain ⟨c2,sl,l⟩:=y;obtain ⟨B,n,e,hl,ho⟩:=h;unfold rP at hm;dsimp only at *;subst e;obtain ⟨h1,h3,h4⟩:=hm;dsimp only at *;subst h1 h3 h4;have hb : Below w.heap.size w ((w.alloc (bi c2 (some ⟨B,0,none⟩) n (n + 64))).alloc (bi c2 xa n xc)):=((Below.refl _ _).alloc (Nat.le_refl _) _).alloc ak _
 have HE:=hid (Si (some ⟨B,0,none⟩) xa n (n + 64) xc l _ (Qs (bg ho (az hb) (fun _ _ => id)) hl) (hs.later hb).1 (by have:=hs.2; dsimp only at this; omega))
 have HB:=hid hb;have hcc : (c2 == c2) = true:=ak;clear hs ho hb hl
 go_enter Tryz.func108,Tryz.ntmps108
 exact zr
theorem Sp (base B n c1 : Nat) (a2 : Option Addr) (c2 : Nat) (ys xs : List DaM) (w : World) (hl : ys.length = n) (hn : n ≤ 100000) {base1 : Nat} (h : w.ownsRow base1 66 2 (.slice (some ⟨B,0,none⟩) (n + 64) (n + 64)) (n + 64) ((ys ++ jt n).flatMap gQ)) (hw : ∀ y ∈ ys,jI w base y) (h2 : ki w a2 n xs) (hs : ∀ x ∈ xs,xN w x) (hm : ∀ (j : Nat) x y,xs[j]? = some x → ys[j]? = some y → rP x y) :
  Calls Tryz.prog 62 #[.slice (some ⟨B,0,none⟩) n c1,.slice a2 n c2] w fun e w' => e = .returned (.bool true) ∧ Below w.heap.size w w':=by
 have hne : ((n : Int) != n) = false:=ak;have H1:=hid (OB h hl);have H2:=hid h2;have HW:=hid hw;have HS:=hid hs;have HM:=hid hm;have hl2:=h2.1;clear h h2 hw hs hm
 go_enter Tryz.func62,Tryz.ntmps62
 go_wp2_with fail
 go_loopw [5] (fun p wr => ∃ t : Nat,t ≤ n ∧ p = .int .i64 t ∧ Hid (Below w.heap.size w wr)) (fun p _ => n - (intOf p).toNat)
 case atStart => exact ⟨0,ae,rfl,hid (Below.refl _ _)⟩
 case round =>
  obtain ⟨t,ht,rfl,HB⟩:=hrel
  by_cases hlt : t < n
  ·have hlt' : (t : Int) < (n : Int):=ae;obtain ⟨y,hy⟩ : ∃ y,ys[t]? = some y:=⟨_,aN ae⟩;obtain ⟨x,hx⟩ : ∃ x,xs[t]? = some x:=⟨_,aN ae⟩;obtain ⟨b1,o1,e1,hat1⟩:=H1.out.2.resolve_left ae;obtain ⟨b2,o2,rfl,hat2⟩:=H2.out.2.resolve_left ae
   injection e1 with e1
   injection e1 with e1 e3
   subst e1 e3;obtain ⟨f0,f1⟩:=hat1 t y hy;obtain ⟨g0,g1⟩:=hat2 t x hx;have f0 : w.cell? ⟨B,t * 2,none⟩ = some (.int .i64 y.1):=uF;have f1 : w.cell? ⟨B,t * 2 + 1,none⟩ = some (.slice y.2.1.1 y.2.1.2.1 y.2.1.2.2):=tU
   have kd : Below wr.heap.size wr wr.drew:=(Kept.drewN (fun _ => False) wr 1).to_below (Nat.le_refl _) (fun _ _ x => x)
   have hbd:=HB.out.trans (kd.mono HB.out.size)
   have HQ2:=hid ((LO x y base wr.drew ((HS.out x (List.mem_of_getElem? hx)).later hbd) ((HW.out y (List.mem_of_getElem? hy)).stay (az hbd) (fun _ h => False.elim h)) (HM.out t x y hx hy)).mono (fun e w' h => (⟨h.1,kd.trans h.2⟩ : e = .returned (.bool true) ∧ Below wr.heap.size wr w')))
   have HFA:=hid (fun (W : World) (hW : Below wr.heap.size wr W) => (⟨ag (HB.out.trans (hW.mono HB.out.size)) f0,ag (HB.out.trans (hW.mono HB.out.size)) f1,ag (HB.out.trans (hW.mono HB.out.size)) g0,ag (HB.out.trans (hW.mono HB.out.size)) g1⟩ : W.cell? ⟨B,t * 2,none⟩ = some (.int .i64 y.1) ∧ W.cell? ⟨B,t * 2 + 1,none⟩ = some (.slice y.2.1.1 y.2.1.2.1 y.2.1.2.2) ∧ W.cell? ⟨b2,o2 + t * 2,none⟩ = some (.int .i64 x.1) ∧ W.cell? ⟨b2,o2 + t * 2 + 1,none⟩ = some (.slice x.2.1.1 x.2.1.2.1 x.2.1.2.2)))
   obtain ⟨v0,v1,v2,v3⟩:=HFA.out wr (Below.refl _ _);clear hat1 hat2 kd hbd f0 f1 g0 g1;go_wp2_with fail
   go_region_held3 (fun W => W.cell? ⟨B,t * 2,none⟩ = some (.int .i64 y.1) ∧ W.cell? ⟨B,t * 2 + 1,none⟩ = some (.slice y.2.1.1 y.2.1.2.1 y.2.1.2.2) ∧ W.cell? ⟨b2,o2 + t * 2,none⟩ = some (.int .i64 x.1) ∧ W.cell? ⟨b2,o2 + t * 2 + 1,none⟩ = some (.slice x.2.1.1 x.2.1.2.1 x.2.1.2.2)) (go_keep)
    (first | (go_at_call 108; refine HQ2.out.mono ?_; rintro e w5 ⟨rfl,hb5⟩; obtain ⟨t0,t1,t2,t3⟩:=HFA.out _ hb5; have HB5:=hid (HB.out.trans (hb5.mono HB.out.size)); clear hb5))
   exact tP
  ·exact pH
theorem LQ (x y : FuM) (base : Nat) (w : World) (hs : xP w x) (h : jK w base y) (hm : nV x y) :
  Calls Tryz.prog 107 #[.agg #[.int .i64 y.1,.string y.2.1,.slice y.2.2.1.1 y.2.2.1.2.1 y.2.2.1.2.2],.agg #[.int .i64 x.1,.string x.2.1,.slice x.2.2.1.1 x.2.2.1.2.1 x.2.2.1.2.2]] w fun e w' => e = .returned (.bool true) ∧ Below w.heap.size w w':=by
 obtain ⟨c,a,⟨xa,xn,xc⟩,xl⟩:=x;obtain ⟨c2,a2,sl,l⟩:=y;obtain ⟨B,n,e,hl,ho,hz⟩:=h;unfold nV at hm;dsimp only at *;subst e;obtain ⟨h1,h2,h3,h5,h4⟩:=hm;dsimp only at *;subst h1 h2 h3;have hb : Below w.heap.size w ((w.alloc (aI c2 a2 (some ⟨B,0,none⟩) n (n + 64))).alloc (aI c2 a2 xa n xc)):=((Below.refl _ _).alloc (Nat.le_refl _) _).alloc ak _
 have HE:=hid (Sr base B n (n + 64) xa xc l xl _ hl (hs.later hb).2.1 (bg ho (az hb) (fun _ _ => id)) (fun z hzm => (hz z hzm).stay (az hb) (fun _ h => False.elim h)) (hs.later hb).1 (hs.later hb).2.2 h4)
 have HB:=hid hb;have hcc : (c2 == c2) = true:=ak;have haa : (a2.toList == a2.toList) = true:=ak;clear hs ho hb hl hz h5 h4
 go_enter Tryz.func107,Tryz.ntmps107
 exact zr
theorem RX (base B n c1 : Nat) (a2 : Option Addr) (c2 : Nat) (ys xs : List FuM) (w : World) (hl : ys.length = n) (hn : n ≤ 100000) {base1 : Nat} (h : w.ownsRow base1 42 3 (.slice (some ⟨B,0,none⟩) (n + 64) (n + 64)) (n + 64) ((ys ++ jl n).flatMap fE)) (hw : ∀ y ∈ ys,jK w base y) (h2 : i7 w a2 n xs) (hs : ∀ x ∈ xs,xP w x) (hm : ∀ (j : Nat) x y,xs[j]? = some x → ys[j]? = some y → nV x y) :
  Calls Tryz.prog 61 #[.slice (some ⟨B,0,none⟩) n c1,.slice a2 n c2] w fun e w' => e = .returned (.bool true) ∧ Below w.heap.size w w':=by
 have hne : ((n : Int) != n) = false:=ak;have H1:=hid (OS h hl);have H2:=hid h2;have HW:=hid hw;have HS:=hid hs;have HM:=hid hm;have hl2:=h2.1;clear h h2 hw hs hm
 go_enter Tryz.func61,Tryz.ntmps61
 go_wp2_with fail
 go_loopw [5] (fun p wr => ∃ t : Nat,t ≤ n ∧ p = .int .i64 t ∧ Hid (Below w.heap.size w wr)) (fun p _ => n - (intOf p).toNat)
 case atStart => exact ⟨0,ae,rfl,hid (Below.refl _ _)⟩
 case round =>
  obtain ⟨t,ht,rfl,HB⟩:=hrel
  by_cases hlt : t < n
  ·have hlt' : (t : Int) < (n : Int):=ae;obtain ⟨y,hy⟩ : ∃ y,ys[t]? = some y:=⟨_,aN ae⟩;obtain ⟨x,hx⟩ : ∃ x,xs[t]? = some x:=⟨_,aN ae⟩;obtain ⟨b1,o1,e1,hat1⟩:=H1.out.2.resolve_left ae;obtain ⟨b2,o2,rfl,hat2⟩:=H2.out.2.resolve_left ae
   injection e1 with e1
   injection e1 with e1 e3
   subst e1 e3;obtain ⟨f0,f1,f2⟩:=hat1 t y hy;obtain ⟨g0,g1,g2⟩:=hat2 t x hx;have f0 : w.cell? ⟨B,t * 3,none⟩ = some (.int .i64 y.1):=uF;have f1 : w.cell? ⟨B,t * 3 + 1,none⟩ = some (.string y.2.1):=tU
   have f2 : w.cell? ⟨B,t * 3 + 2,none⟩ = some (.slice y.2.2.1.1 y.2.2.1.2.1 y.2.2.1.2.2):=by have:=f2; rwa [Nat.zero_add] at this
   have kd : Below wr.heap.size wr wr.drew:=(Kept.drewN (fun _ => False) wr 1).to_below (Nat.le_refl _) (fun _ _ x => x)
   have hbd:=HB.out.trans (kd.mono HB.out.size)
   have HQ2:=hid ((LQ x y base wr.drew ((HS.out x (List.mem_of_getElem? hx)).later hbd) ((HW.out y (List.mem_of_getElem? hy)).stay (az hbd) (fun _ h => False.elim h)) (HM.out t x y hx hy)).mono (fun e w' h => (⟨h.1,kd.trans h.2⟩ : e = .returned (.bool true) ∧ Below wr.heap.size wr w')))
   have HFA:=hid (fun (W : World) (hW : Below wr.heap.size wr W) => (⟨ag (HB.out.trans (hW.mono HB.out.size)) f0,ag (HB.out.trans (hW.mono HB.out.size)) f1,ag (HB.out.trans (hW.mono HB.out.size)) f2,ag (HB.out.trans (hW.mono HB.out.size)) g0,ag (HB.out.trans (hW.mono HB.out.size)) g1,ag (HB.out.trans (hW.mono HB.out.size)) g2⟩ : W.cell? ⟨B,t * 3,none⟩ = some (.int .i64 y.1) ∧ W.cell? ⟨B,t * 3 + 1,none⟩ = some (.string y.2.1) ∧ W.cell? ⟨B,t * 3 + 2,none⟩ = some (.slice y.2.2.1.1 y.2.2.1.2.1 y.2.2.1.2.2) ∧ W.cell? ⟨b2,o2 + t * 3,none⟩ = some (.int .i64 x.1) ∧ W.cell? ⟨b2,o2 + t * 3 + 1,none⟩ = some (.string x.2.1) ∧ W.cell? ⟨b2,o2 + t * 3 + 2,none⟩ = some (.slice x.2.2.1.1 x.2.2.1.2.1 x.2.2.1.2.2)))
   obtain ⟨v0,v1,v2,v3,v4,v5⟩:=HFA.out wr (Below.refl _ _);clear hat1 hat2 kd hbd f0 f1 f2 g0 g1 g2;go_wp2_with fail
   go_region_held3 (fun W => W.cell? ⟨B,t * 3,none⟩ = some (.int .i64 y.1) ∧ W.cell? ⟨B,t * 3 + 1,none⟩ = some (.string y.2.1) ∧ W.cell? ⟨B,t * 3 + 2,none⟩ = some (.slice y.2.2.1.1 y.2.2.1.2.1 y.2.2.1.2.2) ∧ W.cell? ⟨b2,o2 + t * 3,none⟩ = some (.int .i64 x.1) ∧ W.cell? ⟨b2,o2 + t * 3 + 1,none⟩ = some (.string x.2.1) ∧ W.cell? ⟨b2,o2 + t * 3 + 2,none⟩ = some (.slice x.2.2.1.1 x.2.2.1.2.1 x.2.2.1.2.2)) (go_keep)
    (first | (go_at_call 107; refine HQ2.out.mono ?_; rintro e w5 ⟨rfl,hb5⟩; obtain ⟨t0,t1,t2,t3,t4,t5⟩:=HFA.out _ hb5; have HB5:=hid (HB.out.trans (hb5.mono HB.out.size)); clear hb5))
   exact tP
  ·exact pH
end Go.Proofs.YtepnnenohjfkbaaGreatDoor

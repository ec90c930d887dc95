/-
  Texts Qc Qd Qe.
-/
import Derived.Test.YtepnnenohjfkbaaGreatDoorP00
import Derived.Test.YtepnnenohjfkbaaGreatDoorP41
set_option linter.unusedVariables false
set_option maxRecDepth 100000
set_option maxHeartbeats 16000000
namespace Go.Proofs.YtepnnenohjfkbaaGreatDoor
open Go.RowKit
theorem MI (TB base B n : Nat) (l : List Sg) (w : World) (hl : l.length = n) (hn : n ≤ 1000000) (ht : jW TB w) (hTB : TB ≤ w.heap.size) (h : w.ownsRow base 62 2 (.slice (some ⟨B,0,none⟩) (n + 64) (n + 64)) (n + 64) ((l ++ iM n).flatMap gH)) :
  Calls Tryz.prog 64 #[.slice (some ⟨B,0,none⟩) n (n + 64)] w fun e w' => e = .returned (.bool true) ∧ Below w.heap.size w w':=by
 have hLL : (l ++ iM n).length = n + 64:=by rw [List.length_append,hl,rx]
 have HR:=hid h;have HT:=hid ht;clear h ht
 go_enter Tryz.func64,Tryz.ntmps64
 go_wp2_with fail
 go_loopw [4] (fun i wr => ∃ t : Nat,n ≤ t ∧ t ≤ n + 64 ∧ i = .int .i64 t ∧ Hid (Below w.heap.size w wr)) (fun i _ => n + 64 - (intOf i).toNat)
 case atStart => exact ⟨n,ae,ae,rfl,hid (Below.refl _ _)⟩
 case round =>
  obtain ⟨t,ht0,ht,rfl,HB⟩:=hrel
  by_cases hlt : t < n + 64
  ·have hlt' : (t : Int) < (n : Int) + 64:=ae
   have hR:=bg HR.out (az HB.out) (fun _ _ => id)
   have g0 : wr.cell? ⟨B,t * 2,none⟩ = some (.string (txt t)):=by simpa [gH] using bw (k:=2) gH (fun _ => rfl) hR hLL (cC (fun (i : Nat) => ((txt i,⟨#[]⟩) : Sg)) l hl ht0 hlt) 0 ae
   have g1 : wr.cell? ⟨B,t * 2 + 1,none⟩ = some (.string ⟨#[]⟩):=by simpa [gH] using bw (k:=2) gH (fun _ => rfl) hR hLL (cC (fun (i : Nat) => ((txt i,⟨#[]⟩) : Sg)) l hl ht0 hlt) 1 ae
   clear hR;have x0 : (wr.alloc (aB (txt t) ⟨#[]⟩)).cell? ⟨wr.heap.size,0,none⟩ = some (.string (txt t)):=eY;have x1 : (wr.alloc (aB (txt t) ⟨#[]⟩)).cell? ⟨wr.heap.size,1,none⟩ = some (.string ⟨#[]⟩):=eY;have HBA:=hid (HB.out.alloc HB.out.size (aB (txt t) ⟨#[]⟩))
   have kd : Below (wr.alloc (aB (txt t) ⟨#[]⟩)).heap.size (wr.alloc (aB (txt t) ⟨#[]⟩)) (wr.alloc (aB (txt t) ⟨#[]⟩)).drew:=(Kept.drewN (fun _ => False) (wr.alloc (aB (txt t) ⟨#[]⟩)) 1).to_below (Nat.le_refl _) (fun _ _ x => x)
   have HX:=hid ((nX TB t (wr.alloc (aB (txt t) ⟨#[]⟩)).drew ae (HT.out.later ((HBA.out.trans (kd.mono HBA.out.size)).mono hTB))).mono (fun e w' h => (⟨h.1,kd.trans h.2⟩ : e = .returned (.string (txt t)) ∧ Below (wr.alloc (aB (txt t) ⟨#[]⟩)).heap.size (wr.alloc (aB (txt t) ⟨#[]⟩)) w')))
   have HFA:=hid (fun (W : World) (hW : Below (wr.alloc (aB (txt t) ⟨#[]⟩)).heap.size (wr.alloc (aB (txt t) ⟨#[]⟩)) W) => (⟨ag hW x0,ag hW x1⟩ : W.cell? ⟨wr.heap.size,0,none⟩ = some (.string (txt t)) ∧ W.cell? ⟨wr.heap.size,1,none⟩ = some (.string ⟨#[]⟩)))
   clear kd;generalize txt t = tx at *;have heq : (tx.toList == tx.toList) = true:=ak;have hee : ((⟨#[]⟩ : ByteArray).toList == (⟨#[]⟩ : ByteArray).toList) = true:=ak;go_wp2_with fail;generalize hwz : (wr.alloc (aB (tx) ⟨#[]⟩)) = wz at *
   go_region_held3 (fun W => W.cell? ⟨wr.heap.size,0,none⟩ = some (.string (tx)) ∧ W.cell? ⟨wr.heap.size,1,none⟩ = some (.string ⟨#[]⟩)) (go_keep)
    (first | (go_at_call 50; refine HX.out.mono ?_; rintro e w5 ⟨rfl,hb5⟩; obtain ⟨t0,t1⟩:=HFA.out _ hb5; have HB5:=hid (HBA.out.trans (hb5.mono HBA.out.size)); clear hb5))
   exact vC
  ·exact kY
theorem M4 (TB base B n : Nat) (l : List Gl) (w : World) (hl : l.length = n) (hn : n ≤ 1000000) (h : w.ownsRow base 141 3 (.slice (some ⟨B,0,none⟩) (n + 64) (n + 64)) (n + 64) ((l ++ i6 n).flatMap fO)) :
  Calls Tryz.prog 66 #[.slice (some ⟨B,0,none⟩) n (n + 64)] w fun e w' => e = .returned (.bool true) ∧ Below w.heap.size w w':=by
 have hLL : (l ++ i6 n).length = n + 64:=by rw [List.length_append,hl,qP]
 have HR:=hid h;clear h
 go_enter Tryz.func66,Tryz.ntmps66
 go_wp2_with fail
 go_loopw [4] (fun i wr => ∃ t : Nat,n ≤ t ∧ t ≤ n + 64 ∧ i = .int .i64 t ∧ Hid (Below w.heap.size w wr)) (fun i _ => n + 64 - (intOf i).toNat)
 case atStart => exact ⟨n,ae,ae,rfl,hid (Below.refl _ _)⟩
 case round =>
  obtain ⟨t,ht0,ht,rfl,HB⟩:=hrel
  by_cases hlt : t < n + 64
  ·have hlt' : (t : Int) < (n : Int) + 64:=ae
   have hR:=bg HR.out (az HB.out) (fun _ _ => id)
   have g0 : wr.cell? ⟨B,t * 3,none⟩ = some (.int .u8 0):=by simpa [fO] using bw (k:=3) fO (fun _ => rfl) hR hLL (cC (fun (i : Nat) => ((0,false,9437184 + (i : Int) + 1) : Gl)) l hl ht0 hlt) 0 ae
   have g1 : wr.cell? ⟨B,t * 3 + 1,none⟩ = some (.bool false):=by simpa [fO] using bw (k:=3) fO (fun _ => rfl) hR hLL (cC (fun (i : Nat) => ((0,false,9437184 + (i : Int) + 1) : Gl)) l hl ht0 hlt) 1 ae
   have g2 : wr.cell? ⟨B,t * 3 + 2,none⟩ = some (.int .u64 (9437184 + (t : Int) + 1)):=by simpa [fO] using bw (k:=3) fO (fun _ => rfl) hR hLL (cC (fun (i : Nat) => ((0,false,9437184 + (i : Int) + 1) : Gl)) l hl ht0 hlt) 2 ae
   clear hR;have x0 : (wr.alloc (bC 0 false (9437184 + (t : Int) + 1))).cell? ⟨wr.heap.size,0,none⟩ = some (.int .u8 0):=eY;have x1 : (wr.alloc (bC 0 false (9437184 + (t : Int) + 1))).cell? ⟨wr.heap.size,1,none⟩ = some (.bool false):=eY;have x2 : (wr.alloc (bC 0 false (9437184 + (t : Int) + 1))).cell? ⟨wr.heap.size,2,none⟩ = some (.int .u64 (9437184 + (t : Int) + 1)):=eY;have HBA:=hid (HB.out.alloc HB.out.size (bC 0 false (9437184 + (t : Int) + 1)));have heq : ((9437184 : Int) + t + 1 == 9437184 + t + 1) = true:=ak;have hwr:=bZ (9437184 + (t : Int) + 1) ae ae
   have HDR:=hid (show Below w.heap.size w (wr.alloc (bC 0 false (9437184 + (t : Int) + 1))).drew from bA HBA.out (Kept.drewN (fun _ => False) _ 1) HBA.out.size (fun _ x => x.elim))
   go_wp2_with fail;generalize hwz : (wr.alloc (bC 0 false (9437184 + (t : Int) + 1))) = wz at *
   go_region_held3 (fun W => W.cell? ⟨wr.heap.size,0,none⟩ = some (.int .u8 0) ∧ W.cell? ⟨wr.heap.size,1,none⟩ = some (.bool false) ∧ W.cell? ⟨wr.heap.size,2,none⟩ = some (.int .u64 (9437184 + (t : Int) + 1))) (go_keep)
    (first | (go_at_call 85; refine (mD t _ ae ae).mono ?_; rintro e w' ⟨rfl,hw'⟩; have hw2:=hw'.symm; subst hw2))
   exact pW
  ·exact kY
theorem L9 (TB base B n : Nat) (l : List Ex) (w : World) (hl : l.length = n) (hn : n ≤ 1000000) (ht : jW TB w) (hTB : TB ≤ w.heap.size) (h : w.ownsRow base 68 2 (.slice (some ⟨B,0,none⟩) (n + 64) (n + 64)) (n + 64) ((l ++ iW n).flatMap gM)) :
  Calls Tryz.prog 69 #[.slice (some ⟨B,0,none⟩) n (n + 64)] w fun e w' => e = .returned (.bool true) ∧ Below w.heap.size w w':=by
 have hLL : (l ++ iW n).length = n + 64:=by rw [List.length_append,hl,rJ]
 have HR:=hid h;have HT:=hid ht;clear h ht
 go_enter Tryz.func69,Tryz.ntmps69
 go_wp2_with fail
 go_loopw [4] (fun i wr => ∃ t : Nat,n ≤ t ∧ t ≤ n + 64 ∧ i = .int .i64 t ∧ Hid (Below w.heap.size w wr)) (fun i _ => n + 64 - (intOf i).toNat)
 case atStart => exact ⟨n,ae,ae,rfl,hid (Below.refl _ _)⟩
 case round =>
  obtain ⟨t,ht0,ht,rfl,HB⟩:=hrel
  by_cases hlt : t < n + 64
  ·have hlt' : (t : Int) < (n : Int) + 64:=ae
   have hR:=bg HR.out (az HB.out) (fun _ _ => id)
   have g0 : wr.cell? ⟨B,t * 2,none⟩ = some (.string (txt t)):=by simpa [gM] using bw (k:=2) gM (fun _ => rfl) hR hLL (cC (fun (i : Nat) => ((txt i,0) : Ex)) l hl ht0 hlt) 0 ae
   have g1 : wr.cell? ⟨B,t * 2 + 1,none⟩ = some (.int .i64 0):=by simpa [gM] using bw (k:=2) gM (fun _ => rfl) hR hLL (cC (fun (i : Nat) => ((txt i,0) : Ex)) l hl ht0 hlt) 1 ae
   clear hR;have x0 : (wr.alloc (bH (txt t) 0)).cell? ⟨wr.heap.size,0,none⟩ = some (.string (txt t)):=eY;have x1 : (wr.alloc (bH (txt t) 0)).cell? ⟨wr.heap.size,1,none⟩ = some (.int .i64 0):=eY;have HBA:=hid (HB.out.alloc HB.out.size (bH (txt t) 0))
   have kd : Below (wr.alloc (bH (txt t) 0)).heap.size (wr.alloc (bH (txt t) 0)) (wr.alloc (bH (txt t) 0)).drew:=(Kept.drewN (fun _ => False) (wr.alloc (bH (txt t) 0)) 1).to_below (Nat.le_refl _) (fun _ _ x => x)
   have HX:=hid ((nX TB t (wr.alloc (bH (txt t) 0)).drew ae (HT.out.later ((HBA.out.trans (kd.mono HBA.out.size)).mono hTB))).mono (fun e w' h => (⟨h.1,kd.trans h.2⟩ : e = .returned (.string (txt t)) ∧ Below (wr.alloc (bH (txt t) 0)).heap.size (wr.alloc (bH (txt t) 0)) w')))
   have HFA:=hid (fun (W : World) (hW : Below (wr.alloc (bH (txt t) 0)).heap.size (wr.alloc (bH (txt t) 0)) W) => (⟨ag hW x0,ag hW x1⟩ : W.cell? ⟨wr.heap.size,0,none⟩ = some (.string (txt t)) ∧ W.cell? ⟨wr.heap.size,1,none⟩ = some (.int .i64 0)))
   clear kd;generalize txt t = tx at *;have heq : (tx.toList == tx.toList) = true:=ak;have hee : ((⟨#[]⟩ : ByteArray).toList == (⟨#[]⟩ : ByteArray).toList) = true:=ak;go_wp2_with fail;generalize hwz : (wr.alloc (bH (tx) 0)) = wz at *
   go_region_held3 (fun W => W.cell? ⟨wr.heap.size,0,none⟩ = some (.string (tx)) ∧ W.cell? ⟨wr.heap.size,1,none⟩ = some (.int .i64 0)) (go_keep)
    (first | (go_at_call 50; refine HX.out.mono ?_; rintro e w5 ⟨rfl,hb5⟩; obtain ⟨t0,t1⟩:=HFA.out _ hb5; have HB5:=hid (HBA.out.trans (hb5.mono HBA.out.size)); clear hb5))
   exact vC
  ·exact kY
theorem BM (TB base B n : Nat) (l : List Int) (w : World) (hl : l.length = n) (hn : n ≤ 1000000) (h : w.ownsRow base 3 1 (.slice (some ⟨B,0,none⟩) (n + 64) (n + 64)) (n + 64) ((l ++ iE n).flatMap fX)) :
  Calls Tryz.prog 65 #[.slice (some ⟨B,0,none⟩) n (n + 64)] w fun e w' => e = .returned (.bool true) ∧ Below w.heap.size w w':=by
 have hLL : (l ++ iE n).length = n + 64:=by rw [List.length_append,hl,qi]
 have HR:=hid h;clear h
 go_enter Tryz.func65,Tryz.ntmps65
 go_wp2_with fail
 go_loopw [4] (fun i wr => ∃ t : Nat,n ≤ t ∧ t ≤ n + 64 ∧ i = .int .i64 t ∧ Hid (Below w.heap.size w wr)) (fun i _ => n + 64 - (intOf i).toNat)
 case atStart => exact ⟨n,ae,ae,rfl,hid (Below.refl _ _)⟩
 case round =>
  obtain ⟨t,ht0,ht,rfl,HB⟩:=hrel
  by_cases hlt : t < n + 64
  ·have hlt' : (t : Int) < (n : Int) + 64:=ae
   have hR:=bg HR.out (az HB.out) (fun _ _ => id)
   have g0 : wr.cell? ⟨B,t,none⟩ = some (.int .i64 (9437184 + (t : Int) + 1)):=by simpa [fX] using bw (k:=1) fX (fun _ => rfl) hR hLL (cC (fun (i : Nat) => ((9437184 + (i : Int) + 1) : Int)) l hl ht0 hlt) 0 ae
   clear hR;have heq : ((9437184 : Int) + t + 1 == 9437184 + t + 1) = true:=ak
   go_wp2_with (first | (go_at_call 85; refine (mD t _ ae ae).mono ?_; rintro e w' ⟨rfl,hw'⟩; have hw2:=hw'.symm; subst hw2))
   exact Eg
  ·exact kY
theorem M0 (TB base B n : Nat) (l : List ByteArray) (w : World) (hl : l.length = n) (hn : n ≤ 1000000) (ht : jW TB w) (hTB : TB ≤ w.heap.size) (h : w.ownsRow base 9 1 (.slice (some ⟨B,0,none⟩) (n + 64) (n + 64)) (n + 64) ((l ++ jJ n).flatMap kD)) :
  Calls Tryz.prog 27 #[.slice (some ⟨B,0,none⟩) n (n + 64)] w fun e w' => e = .returned (.bool true) ∧ Below w.heap.size w w':=by
 have hLL : (l ++ jJ n).length = n + 64:=by rw [List.length_append,hl,rq]
 have HR:=hid h;have HT:=hid ht;clear h ht
 go_enter Tryz.func27,Tryz.ntmps27
 go_wp2_with fail
 go_loopw [4] (fun i wr => ∃ t : Nat,n ≤ t ∧ t ≤ n + 64 ∧ i = .int .i64 t ∧ Hid (Below w.heap.size w wr)) (fun i _ => n + 64 - (intOf i).toNat)
 case atStart => exact ⟨n,ae,ae,rfl,hid (Below.refl _ _)⟩
 case round =>
  obtain ⟨t,ht0,ht,rfl,HB⟩:=hrel
  by_cases hlt : t < n + 64
  ·have hlt' : (t : Int) < (n : Int) + 64:=ae
   have hR:=bg HR.out (az HB.out) (fun _ _ => id)
   have g0 : wr.cell? ⟨B,t,none⟩ = some (.string (txt t)):=by simpa [kD] using bw (k:=1) kD (fun _ => rfl) hR hLL (cC (fun (i : Nat) => ((txt i) : ByteArray)) l hl ht0 hlt) 0 ae
   clear hR;have HX:=hid (nX TB t wr ae (HT.out.later (HB.out.mono hTB)));generalize txt t = tx at *;have heq : (tx.toList == tx.toList) = true:=ak;go_wp2_with fail;refine HX.out.mono ?_;rintro e w5 ⟨rfl,hb5⟩;have HB5:=hid (HB.out.trans (hb5.mono HB.out.size));clear hb5;exact vC
  ·exact kY
theorem SB (a1 a2 : Option Addr) (n c1 c2 : Nat) (l : List Sg) (w : World) (h1 : eA w a1 n l) (h2 : eA w a2 n l) (hn : n ≤ 1000000) :
  Calls Tryz.prog 59 #[.slice a1 n c1,.slice a2 n c2] w fun e w' => e = .returned (.bool true) ∧ Below w.heap.size w w':=by
 have hne : ((n : Int) != n) = false:=ak;have H1:=hid h1;have H2:=hid h2;have hll:=h1.1;clear h1 h2
 go_enter Tryz.func59,Tryz.ntmps59
 exact J1
theorem SA (a1 a2 : Option Addr) (n c1 c2 : Nat) (l : List Gl) (w : World) (h1 : jf w a1 n l) (h2 : jf w a2 n l) (hn : n ≤ 1000000) :
  Calls Tryz.prog 60 #[.slice a1 n c1,.slice a2 n c2] w fun e w' => e = .returned (.bool true) ∧ Below w.heap.size w w':=by
 have hne : ((n : Int) != n) = false:=ak;have H1:=hid h1;have H2:=hid h2;have hll:=h1.1;clear h1 h2
 go_enter Tryz.func60,Tryz.ntmps60
 go_wp2_with fail
 go_loopw [5] (fun p wr => ∃ t : Nat,t ≤ n ∧ p = .int .i64 t ∧ Hid (Below w.heap.size w wr)) (fun p _ => n - (intOf p).toNat)
 case atStart => exact ⟨0,ae,rfl,hid (Below.refl _ _)⟩
 case round =>
  obtain ⟨t,ht,rfl,HB⟩:=hrel
  by_cases hlt : t < n
  ·have hlt' : (t : Int) < (n : Int):=ae;obtain ⟨x,hx⟩ : ∃ x,l[t]? = some x:=⟨_,aN ae⟩;obtain ⟨b1,o1,rfl,hat1⟩:=H1.out.2.resolve_left ae;obtain ⟨b2,o2,rfl,hat2⟩:=H2.out.2.resolve_left ae;obtain ⟨e10,e11,e12⟩:=hat1 t x hx;have e10:=ag HB.out e10;have e11:=ag HB.out e11;have e12:=ag HB.out e12;obtain ⟨e20,e21,e22⟩:=hat2 t x hx;have e20:=ag HB.out e20;have e21:=ag HB.out e21;have e22:=ag HB.out e22;clear hat1 hat2 hx
   have HBD:=hid (fun (n : Nat) => (show Below w.heap.size w (wr.drewN n) from bA HB.out (Kept.drewN (fun _ => False) _ n) HB.out.size (fun _ x => x.elim)))
   obtain ⟨x0,x1,x2⟩:=x;exact uL
  ·exact pH
theorem RY (a1 a2 : Option Addr) (n c1 c2 : Nat) (l : List Ex) (w : World) (h1 : jL w a1 n l) (h2 : jL w a2 n l) (hn : n ≤ 1000000) :
  Calls Tryz.prog 63 #[.slice a1 n c1,.slice a2 n c2] w fun e w' => e = .returned (.bool true) ∧ Below w.heap.size w w':=by
 have hne : ((n : Int) != n) = false:=ak;have H1:=hid h1;have H2:=hid h2;have hll:=h1.1;clear h1 h2
 go_enter Tryz.func63,Tryz.ntmps63
 exact J1
def iK (x : Int) : List Value:=[.int .u8 x]
def sB (w : World) (a : Option Addr) (n : Nat) (xs : List Int) : Prop :=
 xs.length = n ∧ (n = 0 ∨ ∃ b off,a = some ⟨b,off,none⟩ ∧ ∀ (j : Nat) x,xs[j]? = some x → w.cell? ⟨b,off + j,none⟩ = some (.int .u8 x))
theorem sB.of {w : World} {a : Option Addr} {n c : Nat} {zs : List Int} (h : Seg w a n c zs) : sB w a n zs:=by
 obtain ⟨hl,_,_,_,hc⟩:=h
 refine ⟨hl,hc.imp id fun ⟨b,off,e,hc⟩ => ⟨b,off,e,fun j x hj => ?_⟩⟩
 have hjl:=ax hj
 rw [hc j ae,List.getD_eq_getElem?_getD,hj]; rfl
def iL (n : Nat) : List Int:=(List.range 64).map fun j => (fun (i : Nat) => (((279 + 7 * (i : Int) + 3) % 256) : Int)) (n + j)
theorem qx (n : Nat) : (iL n).length = 64:=by simp [iL]
theorem N8 : (Tryz.prog.info? 5).map (fun i => (i.zero,i.size,i.bytes)) = some (some (.int .u8 0),1,1):=aw
theorem Qn (TB : Nat) (a : Option Addr) (n c : Nat) (l : List Int) (w : World) (h : sB w a n l) (hn : n ≤ 1000000) :
  Calls Tryz.prog 137 #[.slice a n c] w fun e w' => e = .returned (.slice (some ⟨w.heap.size,0,none⟩) n (n + 64)) ∧ w'.ownsRow w.heap.size 5 1 (.slice (some ⟨w.heap.size,0,none⟩) (n + 64) (n + 64)) (n + 64) ((l ++ iL n).flatMap iK) ∧ Below w.heap.size w w':=by
 obtain ⟨i0,hi,hz0,hz1,hz2⟩:=info_parts N8;have hb2 : i0.bytes * (n + 64) ≤ 281474976710656:=gN;have hml : n + 64 ≤ maxLen:=cG;have hll:=h.1
 have hLL : (l ++ iL n).length = n + 64:=by rw [List.length_append,hll,qx]
 have HA:=hid h;clear h
 go_enter Tryz.func137,Tryz.ntmps137
 go_wp2_with (first | (at_make; refine wpList_make_full _ rfl _ _ 64 rfl w.heap.size 5 i0 (.int .u8 0) 1 Tryz.underlying64 hi hz0 hz1 .i64 .i64 _ _ (n + 64) rfl rfl ae ae hb2 hml (Nat.le_refl _) ?_; intro w1 hown hgrow))
 have hZ : (madeCells (Value.int .u8 0).cells ((n + 64) * 1)).toList.length = (n + 64) * 1:=hown.1;have HF0 : Hid (FLd w 5 1 (n + 64) (((l ++ iL n).take 0).flatMap iK) (madeCells (Value.int .u8 0).cells ((n + 64) * 1)).toList w1):=hid ⟨jb,(Below.refl _ _).grown hgrow (Nat.le_refl _) ak⟩;generalize (madeCells (Value.int .u8 0).cells ((n + 64) * 1)).toList = Z at *;clear hown hgrow hi hz0 hz1 hz2 hb2 hml
 go_loopw [4] (fun i wr => ∃ t : Nat,t ≤ n + 64 ∧ i = .int .i64 t ∧ Hid (FLd w 5 1 (n + 64) (((l ++ iL n).take t).flatMap iK) Z wr)) (fun i _ => n + 64 - (intOf i).toNat)
 case atStart => exact ⟨0,ae,rfl,HF0⟩
 case round =>
  obtain ⟨t,ht,rfl,HF⟩:=hrel;clear HF0
  by_cases hlt : t < n + 64
  ·have hdl:=gT iK 1 (fun _ => rfl) (l ++ iL n) (show t ≤ _ by omega)
   have hlt' : (t : Int) < (n : Int) + 64:=ae
   by_cases hkn : t < n
   ·obtain ⟨x,hx⟩ : ∃ x,l[t]? = some x:=⟨_,aN ae⟩;have hkn' : (t : Int) < (n : Int):=ae;obtain ⟨b,off,rfl,hat⟩:=HA.out.2.resolve_left ae;have e0:=hat t x hx;have e0:=ag HF.out.bel e0
    obtain ⟨u0,q0⟩:=HF.out.cell hZ (show t < (n + 64) * 1 by omega)
    have r0:=HF.out.free (t);have P0:=HF.out.put (j:=t) (hdl.trans (Nat.mul_one t)) ae (.int .u8 x);have hnx : (((l ++ iL n).take (t + 1)).flatMap iK) = _:=eN iK (l ++ iL n) ((cF _ l ae).trans hx);have HN : Hid (FLd w 5 1 (n + 64) (((l ++ iL n).take (t + 1)).flatMap iK) Z _):=hid DW;exact wO
   ·have hkn' : ¬ (t : Int) < (n : Int):=ae
    have hnx : (((l ++ iL n).take (t + 1)).flatMap iK) = _:=eN iK (l ++ iL n) (cC (fun (i : Nat) => (((279 + 7 * (i : Int) + 3) % 256) : Int)) l hll ae hlt)
    obtain ⟨u0,q0⟩:=HF.out.cell hZ (show t < (n + 64) * 1 by omega)
    have r0:=HF.out.free (t);have P0:=HF.out.put (j:=t) (hdl.trans (Nat.mul_one t)) ae (.int .u8 ((279 + 7 * (t : Int) + 3) % 256));have HN : Hid (FLd w 5 1 (n + 64) (((l ++ iL n).take (t + 1)).flatMap iK) Z _):=hid DW;clear HF hnx P0;exact vX
  ·obtain rfl : t = n + 64:=ae;have hlt' : ¬ ((n + 64 : Nat) : Int) < (n : Int) + 64:=ae;go_wp2_with fail;go_ret
   have hfl:=gT iK 1 (fun _ => rfl) (l ++ iL n) (show n + 64 ≤ _ by omega)
   exact nQ
theorem MP (TB base B n : Nat) (l : List Int) (w : World) (hl : l.length = n) (hn : n ≤ 1000000) (h : w.ownsRow base 5 1 (.slice (some ⟨B,0,none⟩) (n + 64) (n + 64)) (n + 64) ((l ++ iL n).flatMap iK)) :
  Calls Tryz.prog 165 #[.slice (some ⟨B,0,none⟩) n (n + 64)] w fun e w' => e = .returned (.bool true) ∧ Below w.heap.size w w':=by
 have hLL : (l ++ iL n).length = n + 64:=by rw [List.length_append,hl,qx]
 have HR:=hid h;clear h
 go_enter Tryz.func165,Tryz.ntmps165
 go_wp2_with fail
 go_loopw [4] (fun i wr => ∃ t : Nat,n ≤ t ∧ t ≤ n + 64 ∧ i = .int .i64 t ∧ Hid (Below w.heap.size w wr)) (fun i _ => n + 64 - (intOf i).toNat)
 case atStart => exact ⟨n,ae,ae,rfl,hid (Below.refl _ _)⟩
 case round =>
  obtain ⟨t,ht0,ht,rfl,HB⟩:=hrel
  by_cases hlt : t < n + 64
  ·have hlt' : (t : Int) < (n : Int) + 64:=ae
   have hR:=bg HR.out (az HB.out) (fun _ _ => id)
   have g0 : wr.cell? ⟨B,t,none⟩ = some (.int .u8 ((279 + 7 * (t : Int) + 3) % 256)):=by simpa [iK] using bw (k:=1) iK (fun _ => rfl) hR hLL (cC (fun (i : Nat) => (((279 + 7 * (i : Int) + 3) % 256) : Int)) l hl ht0 hlt) 0 ae
   clear hR;have heq : (((279 + 7 * (t : Int) + 3) % 256) == ((279 + 7 * (t : Int) + 3) % 256)) = true:=ak;go_wp2_with fail;exact Eg
  ·exact kY
theorem Si (a1 a2 : Option Addr) (n c1 c2 : Nat) (l : List Int) (w : World) (h1 : sB w a1 n l) (h2 : sB w a2 n l) (hn : n ≤ 1000000) :
  Calls Tryz.prog 163 #[.slice a1 n c1,.slice a2 n c2] w fun e w' => e = .returned (.bool true) ∧ Below w.heap.size w w':=by
 have hne : ((n : Int) != n) = false:=ak;have H1:=hid h1;have H2:=hid h2;have hll:=h1.1;clear h1 h2
 go_enter Tryz.func163,Tryz.ntmps163
 exact Ih
theorem Qw (a1 a2 : Option Addr) (n c1 c2 : Nat) (l : List Int) (w : World) (h1 : iN w a1 n l) (h2 : iN w a2 n l) (hn : n ≤ 1000000) :
  Calls Tryz.prog 43 #[.slice a1 n c1,.slice a2 n c2] w fun e w' => e = .returned (.bool true) ∧ Below w.heap.size w w':=by
 have hne : ((n : Int) != n) = false:=ak;have H1:=hid h1;have H2:=hid h2;have hll:=h1.1;clear h1 h2
 go_enter Tryz.func43,Tryz.ntmps43
 exact Ih
end Go.Proofs.YtepnnenohjfkbaaGreatDoor

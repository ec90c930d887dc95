/-
  Texts Da Db Dc Dd Rf.
-/
import Derived.Lib.ItoaLen
import Derived.Test.YtheefojaplnnoaaGreatDoorP00
import Derived.Test.YtheefojaplnnoaaGreatDoorP05
import Derived.Test.YtheefojaplnnoaaGreatDoorP06
import Derived.Test.YtheefojaplnnoaaGreatDoorP27
import Derived.Test.YtheefojaplnnoaaGreatDoorP35
import Derived.Test.YtheefojaplnnoaaGreatDoorP36
import Derived.Test.YtheefojaplnnoaaGreatDoorP37
set_option linter.unusedVariables false
set_option maxRecDepth 100000
set_option maxHeartbeats 16000000
namespace Go.Proofs.YtheefojaplnnoaaGreatDoor
open Go.RowKit
set_option maxHeartbeats 4000000
def oQ (u : Nat) : List UInt8:=if u = 0 then [] else Lib.decDigits u
theorem CK (u : Nat) (h : 0 < u) : oQ u = oQ (u / 10) ++ [UInt8.ofNat (48 + u % 10)]:=by
 unfold oQ;rw [if_neg ae,Lib.decDigits]
 by_cases h1 : u < 10
 ·rw [dif_pos h1,if_pos ae,Nat.mod_eq_of_lt h1]; rfl
 ·rw [dif_neg h1,if_neg ae]
theorem Iz (w : World) : Calls Tryz.prog 36 #[.int .i64 0] w fun e w' => e = .returned (.string (bp 0)) ∧ Below w.heap.size w w':=by
 have e : bp 0 = ⟨#[48]⟩:=by
  unfold bp Lib.itoa;rw [if_neg av,Lib.decDigits];rfl
 rw [e]
 go_enter Tryz.func36,Tryz.ntmps36
 go_wp2_with fail;go_ret;exact ⟨rfl,Below.refl _ _⟩
theorem IY (n : Int) (h0 : 0 < n) (h1 : n ≤ 9223372036854775807) (w : World) : Calls Tryz.prog 36 #[.int .i64 n] w fun e w' => e = .returned (.string (bp n)) ∧ Below w.heap.size w w':=by
 obtain ⟨N,rfl⟩ : ∃ N : Nat,n = N:=⟨n.toNat,ae⟩;have hz : ((N : Int) == 0) = false:=aG;have hl : ¬ ((N : Int) < 0):=ae
 have hwu : IntKind.u64.wrap (N : Int) = N:=by show (N : Int) % 18446744073709551616 = N; omega
 have hD : oQ N ++ (⟨#[]⟩ : ByteArray).data.toList = Lib.itoa N:=by
  unfold oQ Lib.itoa;rw [if_neg ae,if_neg ae]
  simp
 obtain ⟨L,hLN⟩ : ∃ L,Lib.itoa N = L:=⟨_,rfl⟩;rw [hLN] at hD
 have hL : L.length ≤ 21:=by rw [← hLN]; exact Lib.itoa_length_le _ ae ae
 go_enter Tryz.func36,Tryz.ntmps36
 go_wp2_with fail
 go_loopw [3,4] (fun p q wr => ∃ (u : Nat) (x : ByteArray),p = .int .u64 u ∧ q = .string x ∧ u ≤ 9223372036854775808 ∧ Below w.heap.size w wr ∧ oQ u ++ x.data.toList = L) (fun p q wr => (intOf p).toNat)
 case atStart => exact ⟨N,⟨#[]⟩,rfl,rfl,ae,Below.refl _ _,hD⟩
 case round =>
  obtain ⟨u,x,rfl,rfl,hu,hB,hx⟩:=hrel
  by_cases h0 : u = 0
  ·subst h0;go_wp2_with fail;go_ret;refine ⟨?_,hB⟩
   have h2 : x = bp N:=by
    cases x with | mk a => cases a with | mk l =>
    have h3 : l = L:=by simpa [oQ] using hx
    unfold bp;rw [h3,hLN]
   rw [h2];rfl
  ·exact Fs
theorem JA (n : Int) (h0 : n < 0) (h1 : -9223372036854775808 ≤ n) (w : World) : Calls Tryz.prog 36 #[.int .i64 n] w fun e w' => e = .returned (.string (bp n)) ∧ Below w.heap.size w w':=by
 obtain ⟨N,rfl⟩ : ∃ N : Nat,n = -(N : Int):=⟨(-n).toNat,ae⟩;have hz : ((-(N : Int)) == 0) = false:=aG;have hl : (-(N : Int)) < 0:=ae
 have hwu : IntKind.u64.wrap (-(N : Int)) = 18446744073709551616 - N:=by show (-(N : Int)) % 18446744073709551616 = _; omega
 have hwn : IntKind.u64.wrap (-(18446744073709551616 - (N : Int))) = N:=by show (-(18446744073709551616 - (N : Int))) % 18446744073709551616 = _; omega
 obtain ⟨L,hLN⟩ : ∃ L,Lib.itoa (-(N : Int)) = 45 :: L:=by
  refine ⟨Lib.decDigits N,?_⟩;unfold Lib.itoa;rw [if_pos ae]
  simp
 have hD : oQ N ++ (⟨#[]⟩ : ByteArray).data.toList = L:=by
  have h2 : Lib.itoa (-(N : Int)) = 45 :: Lib.decDigits N:=by
   unfold Lib.itoa;rw [if_pos ae]
   simp
  rw [h2] at hLN
  injection hLN with _ h3
  rw [← h3];unfold oQ;rw [if_neg ae]
  simp
 have hL : L.length ≤ 21:=by
  have h2:=Lib.itoa_length_le (-(N : Int)) ae ae;rw [hLN] at h2
  simp at h2
  omega
 go_enter Tryz.func36,Tryz.ntmps36
 go_wp2_with fail
 go_loopw [3,4] (fun p q wr => ∃ (u : Nat) (x : ByteArray),p = .int .u64 u ∧ q = .string x ∧ u ≤ 9223372036854775808 ∧ Below w.heap.size w wr ∧ oQ u ++ x.data.toList = L) (fun p q wr => (intOf p).toNat)
 case atStart => exact ⟨N,⟨#[]⟩,rfl,rfl,ae,Below.refl _ _,hD⟩
 case round =>
  obtain ⟨u,x,rfl,rfl,hu,hB,hx⟩:=hrel
  by_cases h0 : u = 0
  ·subst h0
   have hsx : x.size ≤ 100:=by
    exact AP
   have hs1 : (⟨#[45]⟩ : ByteArray).size = 1:=rfl;go_wp2_with fail;go_ret;refine ⟨?_,hB⟩
   have h2 : (⟨#[45]⟩ : ByteArray) ++ x = bp (-(N : Int)):=by
    cases x with | mk a => cases a with | mk l =>
    have h3 : l = L:=by simpa [oQ] using hx
    unfold bp;rw [hLN,h3]
    apply ByteArray.ext
    simp
   rw [← h2];rfl
  ·exact Fs
theorem lj (n : Int) (h0 : -9223372036854775808 ≤ n) (h1 : n ≤ 9223372036854775807) (w : World) : Calls Tryz.prog 36 #[.int .i64 n] w fun e w' => e = .returned (.string (bp n)) ∧ Below w.heap.size w w':=by
 by_cases hz : n = 0
 ·subst hz; exact Iz w
 ·by_cases hp : 0 < n
  ·exact IY n hp h1 w
  ·exact JA n ae h0 w
set_option maxHeartbeats 4000000
def vN (c : Int) : ByteArray:=(ld.extract (c / 16).toNat ((c / 16).toNat + 1)) ++ (ld.extract (c % 16).toNat ((c % 16).toNat + 1))
theorem Og (c : Int) (h0 : 0 ≤ c) (h1 : c ≤ 255) (w : World) : Calls Tryz.prog 39 #[.int .u8 c] w fun e w' => e = .returned (.string (vN c)) ∧ Below w.heap.size w w':=by
 obtain ⟨n,rfl⟩ : ∃ n : Nat,c = n:=⟨c.toNat,ae⟩;have k1 : (n : Int) / 16 ≤ 15:=ae;have k2 : 0 ≤ (n : Int) / 16:=ae;have k3 : (n : Int) % 16 ≤ 15:=ae;have k4 : 0 ≤ (n : Int) % 16:=ae;have k5 : (n : Int) / 16 + 1 ≤ 16:=ae;have k6 : (n : Int) % 16 + 1 ≤ 16:=ae;have k7 : 0 ≤ (n : Int) / 16 + 1:=ae;have k8 : (n : Int) / 16 ≤ (n : Int) / 16 + 1:=ae;have k9 : 0 ≤ (n : Int) % 16 + 1:=ae;have k10 : (n : Int) % 16 ≤ (n : Int) % 16 + 1:=ae;have ut : (n : Int).tmod 16 = (n : Int) % 16:=Int.tmod_eq_emod_of_nonneg ae;have ks : ¬ (9223372036854775807 < ((n : Int) / 16 + 1).toNat - ((n : Int) / 16).toNat + (((n : Int) % 16 + 1).toNat - ((n : Int) % 16).toNat)):=ae
 have u1 : IntKind.u8.wrap ((n : Int) / 16) = (n : Int) / 16:=by show ((n : Int) / 16) % 256 = _; omega
 have u2 : IntKind.u8.wrap ((n : Int) / 16 + 1) = (n : Int) / 16 + 1:=by show ((n : Int) / 16 + 1) % 256 = _; omega
 have u3 : IntKind.u8.wrap ((n : Int) % 16) = (n : Int) % 16:=by show ((n : Int) % 16) % 256 = _; omega
 have u4 : IntKind.u8.wrap ((n : Int) % 16 + 1) = (n : Int) % 16 + 1:=by show ((n : Int) % 16 + 1) % 256 = _; omega
 go_enter Tryz.func39,Tryz.ntmps39
 go_wp2_with fail
 refine wp_region_held_drew (S:=fun _ => True) aj trivial (fun _ => ?_)
 refine tkD (i:=0) (d:=some 3) rfl ?_;(try simp only [Act.put,sIB,sC0,sCs]);refine tkD (i:=1) (d:=some 4) rfl ?_;(try simp only [Act.put,sIB,sC0,sCs]);refine tkD (i:=2) (d:=some 5) rfl ?_;(try simp only [Act.put,sIB,sC0,sCs]);refine tkD (i:=3) (d:=some 6) rfl ?_;(try simp only [Act.put,sIB,sC0,sCs]);refine tkD (i:=4) (d:=some 7) rfl ?_;(try simp only [Act.put,sIB,sC0,sCs]);refine tkD (i:=5) (d:=some 8) rfl ?_;(try simp only [Act.put,sIB,sC0,sCs]);refine tkD (i:=6) (d:=some 9) rfl ?_;(try simp only [Act.put,sIB,sC0,sCs]);refine tkD (i:=7) (d:=some 10) rfl ?_;(try simp only [Act.put,sIB,sC0,sCs]);refine tkD (i:=8) (d:=some 11) rfl ?_;(try simp only [Act.put,sIB,sC0,sCs]);refine tkD (i:=9) (d:=some 12) rfl ?_;(try simp only [Act.put,sIB,sC0,sCs]);refine tkD (i:=10) (d:=some 13) rfl ?_;(try simp only [Act.put,sIB,sC0,sCs]);refine tkD (i:=11) (d:=some 14) rfl ?_;(try simp only [Act.put,sIB,sC0,sCs]);refine tkD (i:=12) (d:=some 15) rfl ?_;(try simp only [Act.put,sIB,sC0,sCs]);refine tkD (i:=13) (d:=some 2) rfl ?_;(try simp only [Act.put,sIB,sC0,sCs]);refine wpAnyH_done aj ?_ _;go_wp2_with fail;go_ret;refine ⟨?_,(Below.refl _ _).drew⟩;have e1 : ((n : Int) / 16 + 1).toNat = ((n : Int) / 16).toNat + 1:=ae;have e2 : ((n : Int) % 16 + 1).toNat = ((n : Int) % 16).toNat + 1:=ae;unfold vN ld;rw [← e1,← e2];rfl
set_option maxHeartbeats 4000000
theorem G0 (c : Int) (w : World) (h0 : 0 ≤ c) (h1 : c ≤ 255) : Calls Tryz.prog 102 #[.int .u8 c] w fun e w' => e = .returned (.string (ofV c).1.2.1) ∧ Below w.heap.size w w':=by
 have hof:=ur c w h0 h1;generalize ofV c = V at *;obtain ⟨⟨rc,wd,t,pp,ps,pl⟩,fnd⟩:=V
 simp only [rv,cT] at hof ⊢
 have HO:=hid hof;clear hof
 go_enter Tryz.func102,Tryz.ntmps102
 go_wp2_with fail;refine HO.out.mono ?_;rintro e w1 ⟨rfl,hb⟩;have HB:=hid hb;clear hb;go_wp2_with fail;go_ret;exact ⟨rfl,HB.out.alloc HB.out.size _⟩
set_option maxHeartbeats 8000000
def kX (zs : List Int) : List UInt8:=zs.flatMap fun z => 32 :: Lib.itoa z
def s9 (op a : Int) (zs : List Int) : List UInt8:=((ofV op).1.2.1.data.toList ++ (if tkV op ≠ 0 ∧ tkV op ≠ 3 then 32 :: Lib.itoa a else [])) ++ kX zs
theorem GW {zs : List Int} {i : Nat} (h : i < zs.length) : kX (zs.drop i) = (32 :: Lib.itoa (zs.getD i 0)) ++ kX (zs.drop (i + 1)):=by
 have e : zs.drop i = zs.getD i 0 :: zs.drop (i + 1):=by
  rw [List.drop_eq_getElem_cons h,List.getD_eq_getElem?_getD,aN h];rfl
 rw [e];unfold kX
 simp
theorem Od (op a : Int) (ad : Option Addr) (n c : Nat) (zs : List Int) (w : World) (h0 : 0 ≤ op) (h1 : op ≤ 255) (ha0 : -9223372036854775808 ≤ a) (ha1 : a ≤ 9223372036854775807) (hs : fe w ad n c zs) :
  Calls Tryz.prog 38 #[.agg #[.int .u8 op,.int .i64 a,.slice ad n c]] w fun e w' => e = .returned (.string ⟨(s9 op a zs).toArray⟩) ∧ Below w.heap.size w w':=by
 have B1:=ak w (aH op a ad n c);have hb1:=heap_alloc_new w (aH op a ad n c);have HW:=hid (G0 op (w.alloc (aH op a ad n c)) h0 h1);have hwd:=wG op.toNat ae
 rw [show ((op.toNat : Nat) : Int) = op by omega] at hwd
 obtain ⟨L,hL⟩ : ∃ L,s9 op a zs = L:=⟨_,rfl⟩;rw [hL];unfold s9 at hL;generalize (ofV op).1.2.1 = wd at *
 go_enter Tryz.func38,Tryz.ntmps38
 go_wp2_with fail;refine HW.out.mono ?_;rintro e w2 ⟨rfl,hb2⟩;have hb2' : Below w.heap.size w w2:=B1.trans (hb2.mono B1.size);have hbk : w2.heap[w.heap.size]? = some (aH op a ad n c):=ar hb2 hb1;have HT:=hid (zC op w2 h0 h1);obtain ⟨tk,htk⟩ : ∃ tk,tkV op = tk:=⟨_,rfl⟩;rw [htk] at hL HT;clear hb1 B1 hb2 HW;have c0:=ag (i:=0) hbk;go_wp2_with fail;refine HT.out.mono ?_;rintro e w3 ⟨rfl,hb3⟩;have hseg:=hs;have c1:=ag (i:=1) (ar hb3 hbk);have hW3 : Below w.heap.size w w3:=hb2'.trans (hb3.mono hb2'.size);have bW3 : w3.heap[w.heap.size]? = _:=ar hb3 hbk;have hl:=hs.1;have hn40:=hs.2.2.1;clear c0 HT hb3
 by_cases h3 : tk = 0
 ·subst h3;exact GG
 ·have h3b : (tk == 0) = false:=by simpa using h3
  by_cases h4 : tk = 3
  ·subst h4;exact GG
  ·have h4b : (tk == 3) = false:=by simpa using h4
   have h3c : (tk != 0) = true:=by simpa using h3
   have h4c : (tk != 3) = true:=by simpa using h4
   have hna : (bp a).size ≤ 21:=by have:=Lib.itoa_length_le a ha0 ha1; exact this
   have HA:=hid (lj a ha0 ha1 w3);go_wp2_with fail;refine HA.out.mono ?_;rintro e w4 ⟨rfl,hb4⟩;have hW : Below w.heap.size w w4:=hW3.trans (hb4.mono hW3.size);have bW:=ar hb4 bW3
   have hx0 : (wd ++ (⟨#[32]⟩ : ByteArray) ++ bp a).data.toList ++ kX (zs.drop 0) = L:=by rw [← hL,if_pos ⟨h3,h4⟩]; simp [bp]
   have hx1 : (wd ++ (⟨#[32]⟩ : ByteArray) ++ bp a).size ≤ 200:=by
    have h32 : (⟨#[32]⟩ : ByteArray).size = 1:=rfl
    simp [ByteArray.size_append]
    omega
   clear HA hb4;go_wp2_with fail
   go_loopw [3,5] (fun p q wr => ∃ (i : Nat) (x : ByteArray),p = .string x ∧ q = .int .i64 i ∧ i ≤ n ∧ Below w4.heap.size w4 wr ∧ x.data.toList ++ kX (zs.drop i) = L ∧ x.size ≤ 200 + 30 * i) (fun p q wr => n - (intOf q).toNat)
   case atStart => exact ⟨0,wd ++ (⟨#[32]⟩ : ByteArray) ++ bp a,rfl,rfl,ae,Below.refl _ _,hx0,ae⟩
   case round =>
    obtain ⟨i,x,rfl,rfl,hi,hB,hx,hxs⟩:=hrel;have d2:=ag (i:=2) (ar hB bW);have HBw:=hid (hW.trans (hB.mono hW.size));have hwi : IntKind.i64.wrap ((i : Int) + 1) = i + 1:=IntWalk.i64_in _ ae
    by_cases hin : i = n
    ·exact Au
    ·have hlt : (i : Int) < n:=ae;have hi0 : (0 : Int) ≤ i:=ae;obtain ⟨b,off,had,hcc⟩:=(hs.2.2.2.2).resolve_left ae;subst had;have d3:=(ai (hW.trans (hB.mono hW.size)) (hcc i ae));have hz:=hs.2.2.2.1 (zs.getD i 0) Bt;have hnl : (bp (zs.getD i 0)).size ≤ 21:=D6
     have hst : (x ++ (⟨#[32]⟩ : ByteArray) ++ bp (zs.getD i 0)).data.toList ++ kX (zs.drop (i + 1)) = L:=by
      rw [← hx,GW (zs:=zs) (i:=i) ae]
      simp [bp]
     have HD:=hid (lj (zs.getD i 0) hz.1 hz.2 wr);generalize zs.getD i 0 = z at *;go_wp2_with fail;refine HD.out.mono ?_;rintro e w6 ⟨rfl,hb6⟩;have hB6:=hid (hB.trans (hb6.mono hB.size));clear hb6 HD d2 d3 hcc;go_wp2_with fail;refine ⟨⟨i + 1,_,rfl,aq,ae,hB6.out,hst,?_⟩,?_⟩
     ·exact AO
     ·simp [intOf]
      omega
theorem H0 {sg : List Sg} {ah : List FuM} {x : FuM} {t : Nat} {P Q : ByteArray} (ht : x.1 = t) (hp : sg[t]? = some (P,Q)) (hP : P.size ≤ 8) :
  cR sg ah x = orE (ltE x.2.1 (64 - P.size)) (if 2048 < x.2.2.2.length then 20 else if 16384 < bN ah + x.2.2.2.length then 20 else bi (fun _ y => cS y) [] x.2.2.2):=by
 unfold cR eX;have hl:=aA hp
 rw [if_neg (by rw [ht]; omega),ht,rI hp]
 unfold ltE orE
 by_cases h1 : 64 < x.2.1.size + P.size
 ·simp [h1,show 64 - P.size < x.2.1.size by omega]
 ·rw [if_neg h1,if_neg (show ¬ 64 - P.size < x.2.1.size by omega),eG x.2.1 (64 - P.size) 64 ae ae]
  by_cases h2 : bP x.2.1 64 = false
  ·rw [if_pos h2,if_pos h2]; rfl
  ·rw [if_neg h2,if_neg h2]
   simp only [ne_eq,not_true_eq_false,if_false]
   by_cases h3 : 2048 < x.2.2.2.length
   ·rw [if_pos h3,if_pos ae]
   ·rw [if_neg h3]
    by_cases h4 : 16384 < bN ah + x.2.2.2.length
    ·rw [if_pos h4,if_pos ae]
    ·rw [if_neg h4,if_neg ae]
theorem DK {sg : List Sg} {ah : List FuM} {x : FuM} (h : x.1 < 0 ∨ (sg.length : Int) ≤ x.1) : cR sg ah x = 30:=by
 unfold cR eX;rw [if_pos h]
theorem wm (m : MM) (w : World) (pt : fk w m.ta m.tn m.types) (hT : ∀ (j : Nat) x,m.types[j]? = some x → x.1.size ≤ 8) (htn : m.tn ≤ 281474976710656) (pf : iU w m.fa m.fn m.fns) (hfn : m.fn ≤ 281474976710656)
  (fr : ∀ (j : Nat) x,m.fns[j]? = some x → (-9223372036854775808 ≤ x.1 ∧ x.1 < 9223372036854775808) ∧ fO w x.2.2.1.1 x.2.2.1.2.1 x.2.2.2 ∧ x.2.1.size ≤ 281474976710656 ∧ x.2.2.1.2.1 ≤ 281474976710656 ∧ ∀ (i : Nat) y,x.2.2.2[i]? = some y → 0 ≤ y.1 ∧ y.1 ≤ 255 ∧ fe w y.2.2.1.1 y.2.2.1.2.1 y.2.2.1.2.2 y.2.2.2) :
  Calls Tryz.prog 208 #[.agg (mV m)] w fun e w' => e = .returned (.int .i64 (e6 m)) ∧ Below w.heap.size w w':=by
 have HPT:=hid (fun (W : World) (hb : Below w.heap.size w W) => pt.kept (az hb) (fun _ _ _ _ => id))
 have HPF:=hid (fun (W : World) (hb : Below w.heap.size w W) => pf.kept (az hb) (fun _ _ _ _ => id))
 have HFR:=hid (fun (W : World) (hb : Below w.heap.size w W) (j : Nat) x (hj : m.fns[j]? = some x) => (⟨(fr j x hj).1,(fr j x hj).2.1.kept (az hb) (fun _ _ _ _ => id),(fr j x hj).2.2.1,(fr j x hj).2.2.2.1,fun i y hi => ⟨((fr j x hj).2.2.2.2 i y hi).1,((fr j x hj).2.2.2.2 i y hi).2.1,((fr j x hj).2.2.2.2 i y hi).2.2.later hb (Nat.le_refl _)⟩⟩ : (-9223372036854775808 ≤ x.1 ∧ x.1 < 9223372036854775808) ∧ fO W x.2.2.1.1 x.2.2.1.2.1 x.2.2.2 ∧ x.2.1.size ≤ 281474976710656 ∧ x.2.2.1.2.1 ≤ 281474976710656 ∧ ∀ (i : Nat) y,x.2.2.2[i]? = some y → 0 ≤ y.1 ∧ y.1 ≤ 255 ∧ fe W y.2.2.1.1 y.2.2.1.2.1 y.2.2.1.2.2 y.2.2.2))
 have HT8:=hid hT;have tl:=pt.1;have fl:=pf.1;clear pt pf fr hT;have B0:=ak w (.cells (mV m) 29);have b0:=heap_alloc_new w (.cells (mV m) 29);have HW : w.alloc (bg m.ta m.tn m.tc m.ha m.hn m.hc m.ga m.gn m.gc m.fi m.mo m.fa m.fn m.fc m.da m.dn m.dc m.ea m.en m.ec) = w.alloc (.cells (mV m) 29):=rfl;generalize w.alloc (.cells (mV m) 29) = W0 at *;have HB0:=hid B0
 have HX:=hid (fun (W : World) (hb : Below W0.heap.size W0 W) => (⟨ai hb (ag b0),ai hb (ag b0)⟩ : W.cell? ⟨w.heap.size,0,none⟩ = some (.slice m.ta m.tn m.tc) ∧ W.cell? ⟨w.heap.size,5,none⟩ = some (.slice m.fa m.fn m.fc)))
 obtain ⟨m0,m5⟩:=HX.out W0 (Below.refl _ _);clear B0 b0
 show Calls Tryz.prog 208 #[.agg #[.slice m.ta m.tn m.tc,.slice m.ha m.hn m.hc,.slice m.ga m.gn m.gc,.int .i64 m.fi,.int .i64 m.mo,.slice m.fa m.fn m.fc,.slice m.da m.dn m.dc,.slice m.ea m.en m.ec]] w _
 by_cases ht : 128 < m.fn
 ·have HV:=hid (show e6 m = 20 by unfold e6 bu; rw [if_pos ae])
  have ht' : (128 : Int) < (m.fn : Int):=ae
  go_enter Tryz.func208,Tryz.ntmps208
  exact o9
 have ht' : ¬ (128 : Int) < (m.fn : Int):=ae
 have HE6:=hid (show e6 m = bi (cR m.types) [] m.fns by unfold e6 bu; rw [if_neg ae])
 go_enter Tryz.func208,Tryz.ntmps208
 go_wp2_with fail;clear m0 m5 HW
 go_loopw [3,4] (fun al i wr => ∃ t : Nat,t ≤ m.fn ∧ al = .int .i64 (bN (m.fns.take t) : Nat) ∧ i = .int .i64 t ∧ bN (m.fns.take t) ≤ 16384 ∧ Hid (bi (cR m.types) [] (m.fns.take t) = 0) ∧ Hid (Below W0.heap.size W0 wr)) (fun _ i _ => m.fn - (intOf i).toNat)
 case atStart => exact ⟨0,Nat.zero_le _,rfl,rfl,by simp [bN],hid rfl,hid (Below.refl _ _)⟩
 case round =>
  obtain ⟨t,htf,rfl,rfl,hal,HF,HB⟩:=hrel;obtain ⟨m0,m5⟩:=HX.out wr HB.out
  by_cases hlt : t < m.fn
  ·have hlt' : (t : Int) < (m.fn : Int):=ae;obtain ⟨x,hx⟩ : ∃ x,m.fns[t]? = some x:=⟨_,aN ae⟩;obtain ⟨fb,fof,hfa,hat⟩:=(HPF.out wr (HB0.out.trans (HB.out.mono HB0.out.size))).2.resolve_left ae;obtain ⟨g0,g1,g2⟩:=hat t x hx;obtain ⟨⟨r0,r1⟩,-,r2,r3,-⟩:=HFR.out wr (HB0.out.trans (HB.out.mono HB0.out.size)) t x hx
   have HFX:=hid (fun (W : World) (hb : Below w.heap.size w W) => HFR.out W hb t x hx)
   have HH:=hid (fun hne => eF (cR m.types) m.fns t x hx HF.out hne)
   have HT:=hid (fun hz => eD (cR m.types) m.fns t x hx HF.out hz)
   have hcs:=mU hx;have HCS:=hid hcs;clear hat;rw [hfa] at m5
   try rw [hfa]
   have FQ:=hid (fun (sg : List Sg) (ah : List FuM) (t : Nat) (P Q : ByteArray) => @H0 sg ah x t P Q)
   have FX:=hid (fun (sg : List Sg) (ah : List FuM) => @DK sg ah x)
   obtain ⟨ty,lo,⟨ca,cn,cc⟩,ins⟩:=x;dsimp only at *;have BN:=ak wr (aL ty lo ca cn cc);have bn:=heap_alloc_new wr (aL ty lo ca cn cc);have HB1:=hid (HB.out.trans (BN.mono HB.out.size))
   have HY:=hid (fun (W : World) (hb : Below (wr.alloc (aL ty lo ca cn cc)).heap.size (wr.alloc (aL ty lo ca cn cc)) W) => (⟨ai hb (ag bn),ai hb (ag bn),ai hb (ag bn)⟩ : W.cell? ⟨wr.heap.size,0,none⟩ = some (.int .i64 ty) ∧ W.cell? ⟨wr.heap.size,1,none⟩ = some (.string lo) ∧ W.cell? ⟨wr.heap.size,2,none⟩ = some (.slice ca cn cc)))
   obtain ⟨y0,y1,y2⟩:=HY.out _ (Below.refl _ _);have m0:=ai BN m0;clear BN bn HF hcs hx
   by_cases hb : ty < 0 ∨ (m.tn : Int) ≤ ty
   ·have HV:=hid (show e6 m = 30 by
     have hc:=FX.out m.types (m.fns.take t) (by rw [tl]; exact hb)
     rw [HE6.out,HH.out gQ,hc])
    by_cases h0 : ty < 0
    ·have d0 : decide (ty < 0) = true:=jG;exact pc
    ·have d0 : decide (ty < 0) = false:=jG;have d1 : decide ((m.tn : Int) ≤ ty) = true:=aG;exact pc
   have d0 : decide (ty < 0) = false:=aG;have d1 : decide ((m.tn : Int) ≤ ty) = false:=aG;obtain ⟨q,hq⟩ : ∃ q : Nat,ty = q:=⟨ty.toNat,ae⟩;subst hq;clear r0 r1;have hqn : (q : Int) < (m.tn : Int):=ae;obtain ⟨P,hP⟩ : ∃ P,m.types[q]? = some P:=⟨_,aN ae⟩;obtain ⟨tb,tof,hta,hatT⟩:=(HPT.out _ (HB0.out.trans (HB1.out.mono HB0.out.size))).2.resolve_left ae;obtain ⟨p0,-⟩:=hatT q P hP;have h8:=HT8.out q P hP;have HC:=hid (FQ.out m.types (m.fns.take t) q P.1 P.2 rfl hP h8);rw [hta] at m0
   try rw [hta]
   clear hatT hP FQ FX hb;obtain ⟨P,Q⟩:=P;dsimp only at *
   have HSUB:=hid (show (64 : Int) - (P.size : Int) = ((64 - P.size : Nat) : Int) by omega)
   have HL:=hid (fun (W : World) => by
    have hL:=mf lo (64 - P.size) W r2 ae;rw [← HSUB.out] at hL;exact hL)
   have HBD:=hid (fun (n : Nat) => (show Below W0.heap.size W0 ((wr.alloc (aL (q : Int) lo ca cn cc)).drewN n) from bT HB1.out (aJ.drewN (fun _ => False) _ n) HB1.out.size (fun _ x => x.elim)))
   have HYD:=hid (fun (n : Nat) => HY.out ((wr.alloc (aL (q : Int) lo ca cn cc)).drewN n) (bT (Below.refl _ _) (aJ.drewN (fun _ => False) _ n) (Nat.le_refl _) (fun _ x => x.elim)))
   by_cases z0 : ltE lo (64 - P.size) = 0
   rotate_left
   ·have HV:=hid (show e6 m = ltE lo (64 - P.size) by
     have hc:=HC.out.trans (cU z0)
     rw [HE6.out,HH.out (by rw [hc]; exact z0),hc])
    generalize ltE lo (64 - P.size) = E at *;have hE : (E != 0) = true:=tD;exact zh
   rw [z0] at HL;have hlen : ins.length = cn:=(HFX.out _ (HB0.out.trans (HB1.out.mono HB0.out.size))).2.1.1;have HC2:=hid (HC.out.trans (aP z0));rw [hlen] at HC2 HCS;clear HC z0
   by_cases z1 : 2048 < cn
   ·have HV:=hid (show e6 m = 20 by
     have hc:=HC2.out;rw [if_pos z1] at hc
     rw [HE6.out,HH.out gQ,hc])
    have z1' : (2048 : Int) < (cn : Int):=ae;exact zh
   have z1' : ¬ (2048 : Int) < (cn : Int):=ae
   by_cases z2 : 16384 < bN (m.fns.take t) + cn
   ·have HV:=hid (show e6 m = 20 by
     have hc:=HC2.out;rw [if_neg z1,if_pos z2] at hc
     rw [HE6.out,HH.out gQ,hc])
    generalize bN (m.fns.take t) = al at *;have z2' : (16384 : Int) < (al : Int) + (cn : Int):=ae;exact zh
   have HC3:=hid (show cR m.types (m.fns.take t) (q,lo,(ca,cn,cc),ins) = bi (fun _ y => cS y) [] ins by
    have hc:=HC2.out;rw [if_neg z1,if_neg z2] at hc;exact hc)
   clear HC2;generalize hal9 : bN (m.fns.take t) = al at *;have HAL:=hid hal9;clear hal9;have z2' : ¬ (16384 : Int) < (al : Int) + (cn : Int):=ae;go_wp2_with fail
   go_quiet ((go_at_call 240; exact Calls.quiet_of_same (HL.out _)))
   go_wp2_with fail;have HBE:=hid (HBD.out nq)
   have HBF:=hid (show Below (wr.alloc (aL (q : Int) lo ca cn cc)).heap.size (wr.alloc (aL (q : Int) lo ca cn cc)) ((wr.alloc (aL (q : Int) lo ca cn cc)).drewN nq) from bT (Below.refl _ _) (aJ.drewN (fun _ => False) _ nq) (Nat.le_refl _) (fun _ x => x.elim))
   clear y0 y1 y2 p0 g0 g1 g2 m0 m5 HL HBD HYD;generalize (wr.alloc (aL (q : Int) lo ca cn cc)).drewN nq = WL at *
   go_loopw [6,7] (fun _ k wq => ∃ j : Nat,j ≤ cn ∧ k = .int .i64 j ∧ Hid (bi (fun _ y => cS y) [] (ins.take j) = 0) ∧ Hid (Below W0.heap.size W0 wq) ∧ Hid (Below (wr.alloc (aL (q : Int) lo ca cn cc)).heap.size (wr.alloc (aL (q : Int) lo ca cn cc)) wq)) (fun _ k _ => cn - (intOf k).toNat)
   case atStart => exact ⟨0,Nat.zero_le _,rfl,hid rfl,HBE,HBF⟩
   case round =>
    obtain ⟨j,hj,rfl,HFI,HBJ,HBK⟩:=hrel;clear HBE HBF;obtain ⟨y0,y1,y2⟩:=HY.out _ HBK.out
    by_cases hjn : j < cn
    ·have hjn' : (j : Int) < (cn : Int):=ae;obtain ⟨y,hy⟩ : ∃ y,ins[j]? = some y:=⟨_,aN ae⟩;obtain ⟨-,hin,-,-,hiy⟩:=HFX.out _ (HB0.out.trans (HBJ.out.mono HB0.out.size));obtain ⟨cb,cof,rfl,hatI⟩:=hin.2.resolve_left ae;obtain ⟨g0,g1,g2⟩:=hatI j y hy;obtain ⟨v0,v1,v2⟩:=hiy j y hy;have HCK:=hid (vL y.1 y.2.1 _ _ _ y.2.2.2 _ v0 v1 v2);unfold iH at HCK
     have HH2:=hid (fun hne => eF (fun _ y => cS y) ins j y hy HFI.out hne)
     have HT2:=hid (fun hz => eD (fun _ y => cS y) ins j y hy HFI.out hz)
     have hk0 : (0 : Int) ≤ (j : Int):=ae;have HE:=hid (show cS y = chk (tkV y.1) (lgV y.1) y.2.1 y.2.2.2 from rfl);clear hin hiy hatI v0 v1 v2 hy;generalize chk (tkV y.1) (lgV y.1) y.2.1 y.2.2.2 = E at *
     by_cases z3 : E = 0
     ·subst z3;have HN:=hid (HT2.out HE.out);go_wp2_with fail;refine HCK.out.mono ?_;rintro e w9 ⟨rfl,hb9⟩;have HB9:=hid (HBJ.out.trans (hb9.mono HBJ.out.size));have HB8:=hid (HBK.out.trans (hb9.mono HBK.out.size));clear hb9;go_wp2_with fail;exact ⟨⟨j + 1,ae,bB,HN,HB9,HB8⟩,bD⟩
     ·have HV:=hid (show e6 m = E by
       have h2:=HH2.out (by rw [HE.out]; exact z3)
       rw [HE6.out,HH.out (by rw [HC3.out,h2,HE.out]; exact z3),HC3.out,h2,HE.out])
      have hE : (E != 0) = true:=by simpa using z3
      go_wp2_with fail;refine HCK.out.mono ?_;rintro e w9 ⟨rfl,hb9⟩;have HB9:=hid (HBJ.out.trans (hb9.mono HBJ.out.size));clear hb9;go_wp2_with fail;go_ret;exact ⟨cO,HB0.out.trans (HB9.out.mono HB0.out.size)⟩
    ·obtain rfl : j = cn:=ae
     have HN:=hid (HT.out (by rw [HC3.out]; have:=HFI.out; rwa [iq hlen] at this))
     go_wp2_with fail
     refine ⟨⟨t + 1,ae,by rw [HCS.out]; go_num,bB,by rw [HCS.out]; omega,HN,HBJ⟩,bD⟩
  ·obtain rfl : t = m.fn:=ae
   have HV:=hid (show e6 m = 0 by rw [HE6.out]; have:=HF.out; rwa [iq fl] at this)
   exact ib
end Go.Proofs.YtheefojaplnnoaaGreatDoor

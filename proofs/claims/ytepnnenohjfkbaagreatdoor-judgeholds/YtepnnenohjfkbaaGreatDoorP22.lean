/-
  Texts Lg Lh Li Lj.
-/
import Derived.Test.YtepnnenohjfkbaaGreatDoorP00
import Derived.Test.YtepnnenohjfkbaaGreatDoorP20
import Derived.Test.YtepnnenohjfkbaaGreatDoorP21
set_option linter.unusedVariables false
set_option maxRecDepth 100000
set_option maxHeartbeats 16000000
namespace Go.Proofs.YtepnnenohjfkbaaGreatDoor
open Go.RowKit
section
variable {g : Rg} {w : World}
theorem uw (h : Rw g w) (hN : g.N ≤ 2048) {p : Nat} (hp : p < g.N) (hsh : ∀ j,(g.sh j).size ≤ 256) {P R x1 x2 : ByteArray} (hP : P.size ≤ 8) (hR : R.size ≤ 8) (hx : x2.size ≤ 256) {ok1 i1 i2 b : Bool} {el en : Nat}
  (hel : 0 ≤ elF (opF g.xs) g.N p → elF (opF g.xs) g.N p = el ∧ el < g.N) (hen : opF g.xs p = 4 → enF (opF g.xs) g.N p = en)
  (HF : Hid (∀ W,Below w.heap.size w W → Calls Tryz.prog 104 #[.pointer (some ⟨g.J,0,none⟩),.int .i64 p] W fun e w' => e = .returned (.tuple #[.agg #[.string P,.string R],.bool ok1]) ∧ Below W.heap.size W w'))
  (HG : Hid (∀ W,Below w.heap.size w W → Calls Tryz.prog 103 #[.pointer (some ⟨g.J,0,none⟩),.int .i64 p,.string P] W fun e w' => e = .returned (.tuple #[.string x1,.bool i1]) ∧ Below W.heap.size W w'))
  (HH : Hid (∀ W,Below w.heap.size w W → ∀ y,y = P ++ ⟨#[119]⟩ → Calls Tryz.prog 103 #[.pointer (some ⟨g.J,0,none⟩),.int .i64 p,.string y] W fun e w' => e = .returned (.tuple #[.string x2,.bool i2]) ∧ Below W.heap.size W w'))
  (HI : Hid (∀ (q : Nat) (t : ByteArray) W,Below w.heap.size w W → Calls Tryz.prog 157 #[.pointer (some ⟨g.J,0,none⟩),.int .i64 q,.string t] W fun e w' => e = .returned (.bool (iG g.N g.sh q t)) ∧ w' = W))
  (HV : Hid (b = (ok1 && (if opF g.xs p = 4 then i2 && iG g.N g.sh (p + 1) (x2 ++ P) && (if 0 ≤ elF (opF g.xs) g.N p then iG g.N g.sh (el + 1) (x2 ++ P) else (P.toList == R.toList) && iG g.N g.sh en (x2 ++ R)) else i1 && iG g.N g.sh (p + 1) (g.sh p))))) :
  Calls Tryz.prog 99 #[.pointer (some ⟨g.J,0,none⟩),.int .i64 p] w fun e w' => e = .returned (.bool b) ∧ Below w.heap.size w w':=by
 have HC:=hid (fun W (hb : Below w.heap.size w W) => (⟨ag hb h.c,ag hb h.en,ag hb h.el,ag hb h.s,ag hb (h.shs p hp),ag hb (h.cod.op hp),ag hb (h.enc p hp),ag hb (h.elc p hp)⟩ : W.cell? ⟨g.J,9,none⟩ = some (.slice (some ⟨g.cb,g.coff,none⟩) g.N g.cc) ∧ W.cell? ⟨g.J,10,none⟩ = some (.slice (some ⟨g.EN,0,none⟩) g.N g.ec) ∧ W.cell? ⟨g.J,11,none⟩ = some (.slice (some ⟨g.EL,0,none⟩) g.N g.lc) ∧ W.cell? ⟨g.J,13,none⟩ = some (.slice (some ⟨g.sb,g.soff,none⟩) g.N g.sc) ∧ W.cell? ⟨g.sb,g.soff + p,none⟩ = some (.string (g.sh p)) ∧ W.cell? ⟨g.cb,g.coff + p * 3,none⟩ = some (.int .u8 (opF g.xs p)) ∧ W.cell? ⟨g.EN,p,none⟩ = some (.int .i64 (enF (opF g.xs) g.N p)) ∧ W.cell? ⟨g.EL,p,none⟩ = some (.int .i64 (elF (opF g.xs) g.N p))))
 have e1 : (p : Int) < (g.N : Int):=ae;have HEN:=hid hen;have HEL:=hid hel;clear h hsh hen hel;generalize iG g.N g.sh = rs at *;generalize elF (opF g.xs) g.N p = ey at *;generalize enF (opF g.xs) g.N p = ex at *;generalize opF g.xs p = op at *;generalize g.sh p = S at *;generalize g.J = J at *;generalize g.EN = EN at *;generalize g.ec = ec at *;generalize g.EL = EL at *;generalize g.lc = lc at *;generalize g.sb = sb at *;generalize g.soff = soff at *;generalize g.sc = sc at *;generalize g.cb = cb at *;generalize g.coff = coff at *;generalize g.cc = cc at *;generalize g.N = N at *;have HB0 : Hid (Below w.heap.size w w):=hid (Below.refl _ _)
 go_enter Tryz.func99,Tryz.ntmps99
 go_wp2_with fail;refine (HF.out _ HB0.out).mono ?_;rintro e w5 ⟨rfl,hb5⟩;have BN:=aj w5 (aB P R);have HS5:=hid (hb5.trans (BN.mono hb5.size));have GB:=hid (heap_alloc_new w5 (aB P R));have g0 : (w5.alloc (aB P R)).cell? ⟨w5.heap.size,0,none⟩ = some (.string P):=ai GB.out;obtain ⟨c9,c10,c11,c13,cs,co,ce,cl⟩:=HC.out _ HS5.out;clear BN hb5
 cases ok1 with
 | false =>
  go_wp2_with fail;go_ret;exact ⟨cd,HS5.out⟩
 | true =>
  by_cases h4 : op = 4
  ·have g4 : (op == (4 : Int)) = true:=by simp [h4]
   have HV2:=HV.out;rw [if_pos h4] at HV2;have HV3:=hid HV2;have hex:=HEN.out h4;rw [hex] at ce;clear HV2 HV HEN h4 hex;go_wp2_with fail;have hS5:=HS5.out;have gB5:=GB.out;clear HS5 GB g0;generalize w5.alloc (aB P R) = W5 at *;generalize w5.heap.size = G at *;refine (HH.out _ hS5 _ rfl).mono ?_;rintro e w6 ⟨rfl,hb6⟩;have gB6:=ar hb6 gB5;have q0 : w6.cell? ⟨G,0,none⟩ = some (.string P):=ai gB6;have q1 : w6.cell? ⟨G,1,none⟩ = some (.string R):=ai gB6;have HS:=hid (hS5.trans (hb6.mono hS5.size));have k10:=ag hb6 c10;have k11:=ag hb6 c11;have ke:=ag hb6 ce;have kl:=ag hb6 cl;clear hb6 hS5 gB5 gB6 c9 c10 c11 c13 cs co ce cl;have hsm : ¬ 9223372036854775807 < x2.size + P.size:=ae;have hsr : ¬ 9223372036854775807 < x2.size + R.size:=ae
   cases i2 with
   | false =>
    exact pJ
   | true =>
    go_wp2_with fail;refine (HI.out (p + 1) _ _ HS.out).mono ?_;rintro e w8 ⟨rfl,rfl⟩
    cases hr : rs (p + 1) (x2 ++ P) with
    | false =>
     rw [hr] at HV3;exact pJ
    | true =>
     rw [hr] at HV3;clear hr
     have HQ:=hid (fun n => HS.out.trans ((below_drewN w8 n).mono HS.out.size))
     by_cases hy : 0 ≤ ey
     ·obtain ⟨hy1,hy2⟩:=HEL.out hy;have HV2:=HV3.out;rw [if_pos hy] at HV2;have HV4:=hid HV2;clear HV2 HV3 HEL hy;rw [hy1] at kl;have d0 : decide ((0 : Int) ≤ (el : Int)) = true:=ak;have d1 : (el : Int) < (N : Int):=ae;clear hy1;go_wp2_with fail
      go_quiet ((go_at_call 157; exact Calls.quiet_of_same (HI.out (el + 1) _ _ (HQ.out _))))
      exact ww
     ·have HV2:=HV3.out;rw [if_neg hy] at HV2;have HV4:=hid HV2
      have d0 : decide ((0 : Int) ≤ ey) = false:=by simpa using hy
      clear HV2 HV3 HEL hy
      cases hq : (P.toList == R.toList) with
      | false =>
       rw [hq] at HV4;go_wp2_with fail
       go_quiet (fail)
       exact ww
      | true =>
       rw [hq] at HV4;go_wp2_with fail
       go_quiet ((go_at_call 157; exact Calls.quiet_of_same (HI.out en _ _ (HQ.out _))))
       exact ww
  ·have g4 : (op == (4 : Int)) = false:=by simp [h4]
   have HV2:=HV.out;rw [if_neg h4] at HV2;have HV3:=hid HV2;clear HV2 HV HEN h4;go_wp2_with fail;have hS5:=HS5.out;clear HS5 GB g0;generalize w5.alloc (aB P R) = W5 at *;generalize w5.heap.size = G at *;refine (HG.out _ hS5).mono ?_;rintro e w6 ⟨rfl,hb6⟩;have HS:=hid (hS5.trans (hb6.mono hS5.size));obtain ⟨-,-,-,d13,ds,-,-,-⟩:=HC.out _ HS.out;clear hb6 hS5 c9 c10 c11 c13 cs co ce cl
   cases i1 with
   | false =>
    exact pJ
   | true =>
    go_wp2_with fail;refine (HI.out (p + 1) _ _ HS.out).mono ?_;rintro e w8 ⟨rfl,rfl⟩;exact pJ
end
def xA (m : MM) (R : ByteArray) (xs : List Inx) (N : Nat) (sh : Nat → ByteArray) (p : Nat) : Bool :=
 (bu m R xs (top (stk (opF xs) p))).2 && (bT m R xs sh (top (stk (opF xs) p))).2 && ((sh p).toList == ((bT m R xs sh (top (stk (opF xs) p))).1 ++ (bu m R xs (top (stk (opF xs) p))).1.2).toList) &&
  (if opF xs p = 5 then iG N sh (enF (opF xs) N p).toNat ((bT m R xs sh (top (stk (opF xs) p))).1 ++ (bu m R xs (top (stk (opF xs) p))).1.2)
   else (decide (top (stk (opF xs) p) < 0) || iG N sh (p + 1) ((bT m R xs sh (top (stk (opF xs) p))).1 ++ (bu m R xs (top (stk (opF xs) p))).1.2)))
def sL (m : MM) (R : ByteArray) (xs : List Inx) (N : Nat) (sh : Nat → ByteArray) (p : Nat) : Bool :=
 (bu m R xs p).2 && (if opF xs p = 4 then (isV m R xs sh p ((bu m R xs p).1.1 ++ ⟨#[119]⟩)).2 && iG N sh (p + 1) ((isV m R xs sh p ((bu m R xs p).1.1 ++ ⟨#[119]⟩)).1 ++ (bu m R xs p).1.1) &&
   (if 0 ≤ elF (opF xs) N p then iG N sh ((elF (opF xs) N p).toNat + 1) ((isV m R xs sh p ((bu m R xs p).1.1 ++ ⟨#[119]⟩)).1 ++ (bu m R xs p).1.1) else ((bu m R xs p).1.1.toList == (bu m R xs p).1.2.toList) && iG N sh (enF (opF xs) N p).toNat ((isV m R xs sh p ((bu m R xs p).1.1 ++ ⟨#[119]⟩)).1 ++ (bu m R xs p).1.2))
  else (isV m R xs sh p (bu m R xs p).1.1).2 && iG N sh (p + 1) (sh p))
theorem qW {m : MM} {R : ByteArray} {xs : List Inx} (hTS : ∀ a,(bE m a).1.size ≤ 8 ∧ (bE m a).2.size ≤ 8) (hR : R.size ≤ 8) (o : Int) : (bu m R xs o).1.1.size ≤ 8 ∧ (bu m R xs o).1.2.size ≤ 8:=by
 unfold bu
 split
 ·exact ⟨show (⟨#[]⟩ : ByteArray).size ≤ 8 by decide,hR⟩
 ·split
  ·exact hTS _
  ·exact ⟨aH,aH⟩
theorem Ga {m : MM} {R : ByteArray} {xs : List Inx} {sh : Nat → ByteArray} (hsh : ∀ j,(sh j).size ≤ 256) (o : Int) : (rbV m R xs sh o).size ≤ 256:=by
 unfold rbV
 split
 ·unfold bT
  split
  ·decide
  ·dsimp only
   split
   ·unfold below;rw [ByteArray.size_extract]
    have:=hsh o.toNat
    omega
   ·exact hsh _
 ·decide
section
variable {g : Rg} {w : World}
theorem AB (h : Rw g w) (hN : g.N ≤ 2048) (hT : g.m.tn ≤ 1000000) (hTS : ∀ a,(bE g.m a).1.size ≤ 8 ∧ (bE g.m a).2.size ≤ 8) (hR8 : g.R.size ≤ 8) (hsh : ∀ j,(g.sh j).size ≤ 256) {p : Nat} (hp : p < g.N) (hen : opF g.xs p = 5 → 0 ≤ enF (opF g.xs) g.N p) :
  Calls Tryz.prog 100 #[.pointer (some ⟨g.J,0,none⟩),.int .i64 p] w fun e w' => e = .returned (.bool (xA g.m g.R g.xs g.N g.sh p)) ∧ Below w.heap.size w w':=by
 have ho:=LF (opF g.xs) hp;have hs:=qW (xs:=g.xs) hTS hR8 (top (stk (opF g.xs) p))
 refine qQ h hN hp hsh (B:=rbV g.m g.R g.xs g.sh (top (stk (opF g.xs) p))) (Ga hsh _) hs.2 (en:=(enF (opF g.xs) g.N p).toNat) (fun e => (Int.toNat_of_nonneg (hen e)).symm)
  (hid fun W hb => by rw [uz hp]; exact vB (h.later hb) hN hT ho) (hid fun W hb => by rw [uz hp]; exact xJ (h.later hb) hN hT (fun a => (hTS a).1) hsh ho) (hid fun q t W hb => Ax (h.later hb) hN q t) (hid ?_)
 rw [uz hp];unfold xA rbV
 cases hb : (bT g.m g.R g.xs g.sh (top (stk (opF g.xs) p))).2 with
 | false => simp
 | true => simp
theorem Kl (h : Rw g w) (hN : g.N ≤ 2048) (hT : g.m.tn ≤ 1000000) (hTS : ∀ a,(bE g.m a).1.size ≤ 8 ∧ (bE g.m a).2.size ≤ 8) (hR8 : g.R.size ≤ 8) (hsh : ∀ j,(g.sh j).size ≤ 256) {p : Nat} (hp : p < g.N) (hel : elF (opF g.xs) g.N p < g.N) (hen : opF g.xs p = 4 → 0 ≤ enF (opF g.xs) g.N p) :
  Calls Tryz.prog 99 #[.pointer (some ⟨g.J,0,none⟩),.int .i64 p] w fun e w' => e = .returned (.bool (sL g.m g.R g.xs g.N g.sh p)) ∧ Below w.heap.size w w':=by
 have hs:=qW (xs:=g.xs) hTS hR8 (p : Int)
 refine uw h hN hp hsh hs.1 hs.2 (x2:=rxV g.m g.R g.xs g.sh p ((bu g.m g.R g.xs p).1.1 ++ ⟨#[119]⟩)) (s8 _ _ _ hsh _ _) (el:=(elF (opF g.xs) g.N p).toNat) (en:=(enF (opF g.xs) g.N p).toNat) (fun e => ⟨(Int.toNat_of_nonneg e).symm,ae⟩) (fun e => (Int.toNat_of_nonneg (hen e)).symm)
  (hid fun W hb => vB (h.later hb) hN hT (.inr ⟨p,rfl,hp⟩)) (hid fun W hb => Cu (h.later hb) hN hT (fun a => (hTS a).1) hsh hp _) (hid fun W hb y hy => by subst hy; exact Cu (h.later hb) hN hT (fun a => (hTS a).1) hsh hp _) (hid fun q t W hb => Ax (h.later hb) hN q t) (hid ?_)
 unfold sL
 cases hb : (isV g.m g.R g.xs g.sh p ((bu g.m g.R g.xs p).1.1 ++ ⟨#[119]⟩)).2 with
 | false => simp
 | true => rw [K7 _ _ _ _ _ _ hb]
end
def fJ (m : MM) (R : ByteArray) (xs : List Inx) (i : Nat) (a : Int) : ByteArray × Bool :=
 ((ltV m R xs i a).1,(dH (opF xs) i a).2 && (bu m R xs (dH (opF xs) i a).1).2)
section
variable {g : Rg} {w : World}
theorem Aq (h : Rw g w) (hN : g.N ≤ 2048) (hT : g.m.tn ≤ 1000000) {i : Nat} (hi : i < g.N) {la : Option Addr} {ln lc : Nat} {l : List Int} (hl : km w la ln lc l) (hln : ln ≤ 100000) (hsl : (stk (opF g.xs) i).length ≤ 2048)
  (HLB : Hid (∀ W,Below w.heap.size w W → Calls Tryz.prog 159 #[.slice (some ⟨g.cb,g.coff,none⟩) g.N g.cc,.int .i64 i] W fun e w' => ∃ ab ac,e = .returned (.slice (some ⟨ab,0,none⟩) ((stk (opF g.xs) i).length + 1) ac) ∧ Below W.heap.size W w' ∧ ∀ j,j ≤ (stk (opF g.xs) i).length → w'.cell? ⟨ab,j,none⟩ = some (.int .i64 ((dG (opF g.xs) i).getD j 0)))) :
  Calls Tryz.prog 101 #[.pointer (some ⟨g.J,0,none⟩),.int .i64 i,.slice la ln lc] w fun e w' => e = .returned (.tuple #[.string (bI (fJ g.m g.R g.xs i) false ⟨#[]⟩ l).1,.bool (bI (fJ g.m g.R g.xs i) false ⟨#[]⟩ l).2]) ∧ Below w.heap.size w w':=by
 have HJ:=hid h;have HL:=hid hl;have hc:=hl.2.2.2.2;have c9:=h.c;have HB0 : Hid (Below w.heap.size w w):=hid (Below.refl _ _);clear h hl
 go_enter Tryz.func101,Tryz.ntmps101
 go_wp2_with fail;refine (HLB.out _ HB0.out).mono ?_;rintro e w1 ⟨ab,ac,rfl,hb1,hlab⟩;have HLA:=hid hlab;have HB1:=hid hb1;clear hb1 hlab c9;go_wp2_with fail
 go_loopw [9,10] (fun co ix wr => ∃ (k : Nat) (c : ByteArray),k ≤ ln ∧ co = .string c ∧ ix = .int .i64 k ∧ bI (fJ g.m g.R g.xs i) false ⟨#[]⟩ l = bI (fJ g.m g.R g.xs i) (decide (0 < k)) c (l.drop k) ∧ (Below w.heap.size w wr ∧ Below w1.heap.size w1 wr)) (fun _ ix _ => ln - (intOf ix).toNat)
 case atStart => exact ⟨0,⟨#[]⟩,Nat.zero_le _,rfl,rfl,rfl,HB1.out,Below.refl _ _⟩
 case round =>
  obtain ⟨k,c,hk,rfl,rfl,hin,hbr⟩:=hrel;have HIN:=hid hin;have HBR:=hid hbr
  by_cases hkl : k < ln
  ·obtain ⟨lb,loff,rfl,hcell⟩:=hc.resolve_left ae;have v0:=ag hbr.1 (hcell k hkl);have hkl2 : (k : Int) < (ln : Int):=ae;have hll:=HL.out.1
   have hdr : l.drop k = l.getD k 0 :: l.drop (k + 1):=by
    exact Cw
   have hzr:=HL.out.2.2.2.1 (l.getD k 0) Cc;generalize l.getD k 0 = z at *;have HDR:=hid hdr;clear hin hcell hdr hll
   by_cases hz : z < 0 ∨ (stk (opF g.xs) i).length < z
   ·have hb : (dH (opF g.xs) i z).2 = false:=by
     unfold dH
     by_cases hz0 : z < 0
     ·rw [if_pos hz0]
     ·rw [if_neg hz0,if_neg ae]
    have HEND:=hid (show bI (fJ g.m g.R g.xs i) (decide (0 < k)) c (z :: l.drop (k + 1)) = (⟨#[]⟩,false) by rw [bI]; unfold fJ; rw [hb]; simp)
    clear hb;generalize (stk (opF g.xs) i).length = sl at *
    by_cases hz0 : z < 0
    ·have e0 : decide (z < 0) = true:=by simpa using hz0
     exact Ca
    ·have e0 : decide (z < 0) = false:=by simpa using hz0
     have e2 : decide ((sl : Int) + 1 ≤ z) = true:=aG;exact Ca
   ·obtain ⟨n,rfl⟩ : ∃ n : Nat,z = n:=⟨z.toNat,ae⟩;have hnl : n ≤ (stk (opF g.xs) i).length:=ae;have a0:=ag hbr.2 (HLA.out n hnl)
    have hlb : dH (opF g.xs) i n = ((dG (opF g.xs) i).getD n 0,true):=by
     unfold dH;rw [if_neg ae,if_pos ae,Int.toNat_natCast]
    have hop:=Lz (O:=opF g.xs) (i:=i) n;have HFZ:=hid (show fJ g.m g.R g.xs i n = (if (dH (opF g.xs) i n).1 ≠ -1 ∧ opF g.xs (dH (opF g.xs) i n).1.toNat = 3 then (bu g.m g.R g.xs (dH (opF g.xs) i n).1).1.1 else (bu g.m g.R g.xs (dH (opF g.xs) i n).1).1.2,(dH (opF g.xs) i n).2 && (bu g.m g.R g.xs (dH (opF g.xs) i n).1).2) from rfl);rw [hlb] at hop HFZ;dsimp only at hop HFZ;have e0 : decide ((n : Int) < 0) = false:=ak;clear hlb;generalize (dG (opF g.xs) i).getD n 0 = op at *;generalize (stk (opF g.xs) i).length = sl at *;have e2 : decide ((sl : Int) + 1 ≤ (n : Int)) = false:=aG;have e3 : (n : Int) < (sl : Int) + 1:=ae
    have H14:=hid (vB (HJ.out.later hbr.1) hN hT (show op = -1 ∨ ∃ t : Nat,op = t ∧ t < g.N from hop.imp id fun ⟨t,h1,h2⟩ => ⟨t,h1,ae⟩))
    clear hz;go_wp2_with fail;refine H14.out.mono ?_;rintro e w2 ⟨rfl,hb2⟩;generalize bu g.m g.R g.xs op = sg at *;obtain ⟨⟨Pa,Re⟩,ok⟩:=sg;dsimp only at HFZ ⊢;have B2:=HBR.out.1.trans (hb2.mono HBR.out.1.size);have B4:=HBR.out.2.trans (hb2.mono HBR.out.2.size);have BN:=aj w2 (aB Pa Re);have HB3:=hid (And.intro (B2.trans (BN.mono B2.size)) (B4.trans (BN.mono B4.size)));have gB:=heap_alloc_new w2 (aB Pa Re);have p0 : (w2.alloc (aB Pa Re)).cell? ⟨w2.heap.size,0,none⟩ = some (.string Pa):=ai gB;have p1 : (w2.alloc (aB Pa Re)).cell? ⟨w2.heap.size,1,none⟩ = some (.string Re):=ai gB;have hJ3:=HJ.out.later HB3.out.1;have r0:=hJ3.c;clear H14 hb2 B2 B4 BN gB hbr v0 a0;generalize hz9 : (n : Int) = z at *;clear hz9
    cases ok with
    | false =>
     have HEND:=hid (show bI (fJ g.m g.R g.xs i) (decide (0 < k)) c (z :: l.drop (k + 1)) = (⟨#[]⟩,false) by rw [bI,HFZ.out]; simp)
     clear HFZ hop hJ3 r0;exact Dk
    | true =>
     rcases hop with rfl | ⟨t,rfl,hti⟩
     ·rw [if_neg ak] at HFZ;have hfz : fJ g.m g.R g.xs i z = (Re,true):=HFZ.out;clear hJ3 r0 HFZ;have f0 : decide ((0 : Int) ≤ -1) = false:=rfl;exact Ie
     ·have f0 : decide ((0 : Int) ≤ (t : Int)) = true:=ak;have htN : (t : Int) < (g.N : Int):=ae
      have r1:=hJ3.cod.op (show t < g.N by omega)
      rw [Int.toNat_natCast] at HFZ;clear hJ3
      by_cases h3 : opF g.xs t = 3
      ·rw [if_pos ⟨ae,h3⟩] at HFZ;rw [h3] at r1;have hfz : fJ g.m g.R g.xs i z = (Pa,true):=HFZ.out;clear HFZ h3
       by_cases hk0 : 0 < k
       ·have d1 : decide ((0 : Int) < (k : Int)) = true:=aG;have d2 : decide (0 < k) = true:=aG
        cases hq : (Pa.toList == c.toList) with
        | true =>
         have hq2 : (Pa.toList != c.toList) = false:=gI
         have HEND:=hid (show bI (fJ g.m g.R g.xs i) (decide (0 < k)) c (z :: l.drop (k + 1)) = bI (fJ g.m g.R g.xs i) (decide (0 < k + 1)) Pa (l.drop (k + 1)) by rw [bI,hfz]; simp [hq])
         exact Dx
        | false =>
         have hq2 : (Pa.toList != c.toList) = true:=gI
         have HEND:=hid (show bI (fJ g.m g.R g.xs i) (decide (0 < k)) c (z :: l.drop (k + 1)) = (⟨#[]⟩,false) by rw [bI,hfz]; simp [hq,hk0])
         clear hfz;exact Dk
       ·have d1 : decide ((0 : Int) < (k : Int)) = false:=aG
        have HEND:=hid (show bI (fJ g.m g.R g.xs i) (decide (0 < k)) c (z :: l.drop (k + 1)) = bI (fJ g.m g.R g.xs i) (decide (0 < k + 1)) Pa (l.drop (k + 1)) by rw [bI,hfz]; simp [hk0])
        exact Dx
      ·rw [if_neg ae] at HFZ;have hfz : fJ g.m g.R g.xs i z = (Re,true):=HFZ.out
       have g3 : (opF g.xs t == (3 : Int)) = false:=by simp [h3]
       clear HFZ h3;generalize opF g.xs t = ot at *;exact Ie
  ·have hkl2 : ¬ (k : Int) < (ln : Int):=ae
   have HEND:=hid (show bI (fJ g.m g.R g.xs i) (decide (0 < k)) c (l.drop k) = (c,true) by rw [List.drop_eq_nil_of_le (by have:=HL.out.1; omega)]; rfl)
   clear hin hbr;go_wp2_with fail;go_ret2
   exact ⟨by rw [HIN.out,HEND.out]; rfl,HBR.out.1⟩
end
abbrev rlS (J fb fo : Nat) (fv iv : Value) (t : Int) (lo : ByteArray) (cv : Value) (w : World) (W : World) : Prop :=
 W.cell? ⟨J,5,none⟩ = some fv ∧ W.cell? ⟨J,8,none⟩ = some iv ∧ W.cell? ⟨fb,fo,none⟩ = some (.int .i64 t) ∧ W.cell? ⟨fb,fo + 1,none⟩ = some (.string lo) ∧ W.cell? ⟨fb,fo + 2,none⟩ = some cv ∧ Below w.heap.size w W
theorem rlS.later {J fb fo : Nat} {fv iv : Value} {t : Int} {lo : ByteArray} {cv : Value} {w W W' : World} (h : rlS J fb fo fv iv t lo cv w W) (hb : Below W.heap.size W W') : rlS J fb fo fv iv t lo cv w W' :=
 ⟨ag hb h.1,ag hb h.2.1,ag hb h.2.2.1,ag hb h.2.2.2.1,ag hb h.2.2.2.2.1,h.2.2.2.2.2.trans (hb.mono h.2.2.2.2.2.size)⟩
section
variable {g : Rg} {w : World}
theorem mQ (h : Rw g w) (hF : g.m.fn ≤ 1000000) (hT : g.m.tn ≤ 1000000) (hG : g.m.gn ≤ 1000000) {op a : Int} {lv : Value} {q : Nat} {lo : ByteArray} {y : FuM} {p : Sg} (hy : g.m.fns[g.f]? = some y) (hq : y.1 = q) (hp : g.m.types[q]? = some p) (hlo : (p.1 ++ y.2.1) = lo) (hls : p.1.size + y.2.1.size ≤ 1000) {tk : Int} (htk : (tk == (6 : Int)) = true) (ha : a < 0 ∨ (lo.size : Int) ≤ a)
  (H61 : Hid (∀ W,Calls Tryz.prog 161 #[.int .u8 op] W fun e w' => e = .returned (.int .i8 tk) ∧ Below W.heap.size W w')) :
  Calls Tryz.prog 106 #[.pointer (some ⟨g.J,0,none⟩),.agg #[.int .u8 op,.int .i64 a,lv]] w fun e w' => e = .returned (.tuple #[.string ⟨#[]⟩,.bool false]) ∧ Below w.heap.size w w':=by
 have B0:=aj w (aT op a lv);have bx:=heap_alloc_new w (aT op a lv);have x0 : (w.alloc (aT op a lv)).cell? ⟨w.heap.size,0,none⟩ = some (.int .u8 op):=ai bx;have x1 : (w.alloc (aT op a lv)).cell? ⟨w.heap.size,1,none⟩ = some (.int .i64 a):=ai bx;have hf0:=h.pf.1;have ht0:=h.pt.1;have hfl:=ax hy;have hql:=ax hp;obtain ⟨fb,fo,hfa,hfc⟩:=h.pf.2.resolve_left ae;obtain ⟨tb,tof,hta,htc⟩:=h.pt.2.resolve_left ae;have c0:=ag B0 (hfc _ _ hy).1;have c1:=ag B0 (hfc _ _ hy).2.1;have c2:=ag B0 (hfc _ _ hy).2.2;have c3:=ag B0 (htc _ _ hp).1;have d0:=ag B0 h.m0;have d2:=ag B0 h.m2;have d5:=ag B0 h.m5;have d8:=ag B0 h.f;rw [hta] at d0;rw [hfa] at d5;rw [hq] at c0;have f1 : (g.f : Int) < (g.m.fn : Int):=ae;have t1 : (q : Int) < (g.m.tn : Int):=ae;clear h hfc htc hta hfa hy hq hp bx hf0 ht0 hfl hql;generalize g.m.fn = fn at *;generalize g.m.fc = fc at *;generalize g.m.tn = tn at *;generalize g.m.tc = tc at *;generalize g.m.ga = ga at *;generalize g.m.gn = gn at *;generalize g.m.gc = gc at *;generalize g.f = f at *;generalize g.J = J at *;obtain ⟨_,yl,⟨ca,cn,cc⟩,_⟩:=y;obtain ⟨Pa,Re⟩:=p;dsimp only at c1 c2 c3 hlo hls;subst hlo;have HH : Hid (rlS J fb (fo + f * 3) (.slice (some ⟨fb,fo,none⟩) fn fc) (.int .i64 f) q yl (.slice ca cn cc) w (w.alloc (aT op a lv))):=hid ⟨d5,d8,c0,c1,c2,B0⟩;have hz : (w.alloc (aT op a lv)).heap.size = w.heap.size + 1:=ak;clear B0
 go_enter Tryz.func106,Tryz.ntmps106
 go_wp2_with fail;generalize w.alloc (aT op a lv) = W0 at *
 go_region_held3 (rlS J fb (fo + f * 3) (.slice (some ⟨fb,fo,none⟩) fn fc) (.int .i64 f) q yl (.slice ca cn cc) w)
  (first | assumption | exact HH.out.later (aj _ _).drew | exact HH.out.later ((aj _ _).trans ((below_drewN _ 1).mono (aj _ _).size)) | exact HH.out.later (below_drewN _ 1))
  (fail)
 have BF:=(aj W0 (aI q yl ca cn cc)).drew;have gB : ((W0.alloc (aI q yl ca cn cc)).drew).heap[W0.heap.size]? = some (aI q yl ca cn cc):=heap_alloc_new W0 _;rw [hz] at gB;have k0:=ag BF d0;have k2:=ag BF d2;have k3:=ag BF c3;have kx0:=ag BF x0;have kx1:=ag BF x1;have p0:=ai (i:=0) gB;have p1:=ai (i:=1) gB;have HB:=hid (HH.out.2.2.2.2.2.trans (BF.mono HH.out.2.2.2.2.2.size));clear d0 d2 d5 d8 c0 c1 c2 c3 x0 x1 BF gB hz HH;generalize (W0.alloc (aI q yl ca cn cc)).drew = W1 at *;have hsm : ¬ 9223372036854775807 < Pa.size + yl.size:=ae;go_wp2_with fail
 go_quiet (fail)
 have HQ:=hid (HB.out.trans ((below_drewN W1 nq).mono HB.out.size));have k2':=ag (below_drewN W1 nq) k2;have y0:=ag (below_drewN W1 nq) kx0;have y1:=ag (below_drewN W1 nq) kx1;clear k0 k2 k3 kx0 kx1 p0 p1 HB;generalize W1.drewN nq = W2 at *;go_wp2_with fail;refine (H61.out _).mono ?_;rintro e w7 ⟨rfl,hb7⟩;have HQ0:=hid (HQ.out.trans (hb7.mono HQ.out.size));have k2:=ag hb7 k2';have v0:=ag hb7 y0;have v1:=ag hb7 y1;clear HQ hb7 k2' y0 y1;have HQ:=hid HQ0.out;clear HQ0;rw [ByteArray.size_append] at ha
 by_cases hn : a < 0
 ·have g2 : decide (a < 0) = true:=jT;exact uR
 ·have g2 : decide (a < 0) = false:=jT;exact uR
theorem l8 (h : Rw g w) (hF : g.m.fn ≤ 1000000) (hT : g.m.tn ≤ 1000000) (hG : g.m.gn ≤ 1000000) {op a : Int} {lv : Value} {q : Nat} {lo : ByteArray} {y : FuM} {p : Sg} (hy : g.m.fns[g.f]? = some y) (hq : y.1 = q) (hp : g.m.types[q]? = some p) (hlo : (p.1 ++ y.2.1) = lo) (hls : p.1.size + y.2.1.size ≤ 1000) {tk : Int} (htk : (tk == (6 : Int)) = true) {n : Nat} (ha : a = n) (hn : n < lo.size)
  (H61 : Hid (∀ W,Calls Tryz.prog 161 #[.int .u8 op] W fun e w' => e = .returned (.int .i8 tk) ∧ Below W.heap.size W w')) :
  Calls Tryz.prog 106 #[.pointer (some ⟨g.J,0,none⟩),.agg #[.int .u8 op,.int .i64 a,lv]] w fun e w' => e = .returned (.tuple #[.string (lo.extract n (n + 1)),.bool true]) ∧ Below w.heap.size w w':=by
 have B0:=aj w (aT op a lv);have bx:=heap_alloc_new w (aT op a lv);have x0 : (w.alloc (aT op a lv)).cell? ⟨w.heap.size,0,none⟩ = some (.int .u8 op):=ai bx;have x1 : (w.alloc (aT op a lv)).cell? ⟨w.heap.size,1,none⟩ = some (.int .i64 a):=ai bx;have hf0:=h.pf.1;have ht0:=h.pt.1;have hfl:=ax hy;have hql:=ax hp;obtain ⟨fb,fo,hfa,hfc⟩:=h.pf.2.resolve_left ae;obtain ⟨tb,tof,hta,htc⟩:=h.pt.2.resolve_left ae;have c0:=ag B0 (hfc _ _ hy).1;have c1:=ag B0 (hfc _ _ hy).2.1;have c2:=ag B0 (hfc _ _ hy).2.2;have c3:=ag B0 (htc _ _ hp).1;have d0:=ag B0 h.m0;have d2:=ag B0 h.m2;have d5:=ag B0 h.m5;have d8:=ag B0 h.f;rw [hta] at d0;rw [hfa] at d5;rw [hq] at c0;have f1 : (g.f : Int) < (g.m.fn : Int):=ae;have t1 : (q : Int) < (g.m.tn : Int):=ae;have HA:=hid ha;clear ha;clear h hfc htc hta hfa hy hq hp bx hf0 ht0 hfl hql;generalize g.m.fn = fn at *;generalize g.m.fc = fc at *;generalize g.m.tn = tn at *;generalize g.m.tc = tc at *;generalize g.m.ga = ga at *;generalize g.m.gn = gn at *;generalize g.m.gc = gc at *;generalize g.f = f at *;generalize g.J = J at *;obtain ⟨_,yl,⟨ca,cn,cc⟩,_⟩:=y;obtain ⟨Pa,Re⟩:=p;dsimp only at c1 c2 c3 hlo hls;subst hlo;have HH : Hid (rlS J fb (fo + f * 3) (.slice (some ⟨fb,fo,none⟩) fn fc) (.int .i64 f) q yl (.slice ca cn cc) w (w.alloc (aT op a lv))):=hid ⟨d5,d8,c0,c1,c2,B0⟩;have hz : (w.alloc (aT op a lv)).heap.size = w.heap.size + 1:=ak;clear B0
 go_enter Tryz.func106,Tryz.ntmps106
 go_wp2_with fail;generalize w.alloc (aT op a lv) = W0 at *
 go_region_held3 (rlS J fb (fo + f * 3) (.slice (some ⟨fb,fo,none⟩) fn fc) (.int .i64 f) q yl (.slice ca cn cc) w)
  (first | assumption | exact HH.out.later (aj _ _).drew | exact HH.out.later ((aj _ _).trans ((below_drewN _ 1).mono (aj _ _).size)) | exact HH.out.later (below_drewN _ 1))
  (fail)
 have BF:=(aj W0 (aI q yl ca cn cc)).drew;have gB : ((W0.alloc (aI q yl ca cn cc)).drew).heap[W0.heap.size]? = some (aI q yl ca cn cc):=heap_alloc_new W0 _;rw [hz] at gB;have k0:=ag BF d0;have k2:=ag BF d2;have k3:=ag BF c3;have kx0:=ag BF x0;have kx1:=ag BF x1;have p0:=ai (i:=0) gB;have p1:=ai (i:=1) gB;have HB:=hid (HH.out.2.2.2.2.2.trans (BF.mono HH.out.2.2.2.2.2.size));clear d0 d2 d5 d8 c0 c1 c2 c3 x0 x1 BF gB hz HH;generalize (W0.alloc (aI q yl ca cn cc)).drew = W1 at *;have hsm : ¬ 9223372036854775807 < Pa.size + yl.size:=ae;go_wp2_with fail
 go_quiet (fail)
 have HQ:=hid (HB.out.trans ((below_drewN W1 nq).mono HB.out.size));have k2':=ag (below_drewN W1 nq) k2;have y0:=ag (below_drewN W1 nq) kx0;have y1:=ag (below_drewN W1 nq) kx1;clear k0 k2 k3 kx0 kx1 p0 p1 HB;generalize W1.drewN nq = W2 at *;go_wp2_with fail;refine (H61.out _).mono ?_;rintro e w7 ⟨rfl,hb7⟩;have HQ0:=hid (HQ.out.trans (hb7.mono HQ.out.size));have k2:=ag hb7 k2';have v0:=ag hb7 y0;have v1:=ag hb7 y1;clear HQ hb7 k2' y0 y1;have HQ:=hid HQ0.out;clear HQ0;have ha:=HA.out;clear HA;subst ha;have g2 : decide ((n : Int) < 0) = false:=ak;rw [ByteArray.size_append] at hn
 have g3 : (n : Int) + 1 ≤ ((Pa ++ yl).size : Int):=by rw [ByteArray.size_append]; omega
 have g4 : ¬ Pa.size + yl.size ≤ n:=ae;exact uR
theorem mj (h : Rw g w) (hF : g.m.fn ≤ 1000000) (hT : g.m.tn ≤ 1000000) (hG : g.m.gn ≤ 1000000) {op a : Int} {lv : Value} {q : Nat} {lo : ByteArray} {y : FuM} {p : Sg} (hy : g.m.fns[g.f]? = some y) (hq : y.1 = q) (hp : g.m.types[q]? = some p) (hlo : (p.1 ++ y.2.1) = lo) (hls : p.1.size + y.2.1.size ≤ 1000) {tk : Int} (htk : (tk == (6 : Int)) = false) (ha : a < 0 ∨ (g.m.gn : Int) ≤ a)
  (H61 : Hid (∀ W,Calls Tryz.prog 161 #[.int .u8 op] W fun e w' => e = .returned (.int .i8 tk) ∧ Below W.heap.size W w')) :
  Calls Tryz.prog 106 #[.pointer (some ⟨g.J,0,none⟩),.agg #[.int .u8 op,.int .i64 a,lv]] w fun e w' => e = .returned (.tuple #[.string ⟨#[]⟩,.bool false]) ∧ Below w.heap.size w w':=by
 have B0:=aj w (aT op a lv);have bx:=heap_alloc_new w (aT op a lv);have x0 : (w.alloc (aT op a lv)).cell? ⟨w.heap.size,0,none⟩ = some (.int .u8 op):=ai bx;have x1 : (w.alloc (aT op a lv)).cell? ⟨w.heap.size,1,none⟩ = some (.int .i64 a):=ai bx;have hf0:=h.pf.1;have ht0:=h.pt.1;have hfl:=ax hy;have hql:=ax hp;obtain ⟨fb,fo,hfa,hfc⟩:=h.pf.2.resolve_left ae;obtain ⟨tb,tof,hta,htc⟩:=h.pt.2.resolve_left ae;have c0:=ag B0 (hfc _ _ hy).1;have c1:=ag B0 (hfc _ _ hy).2.1;have c2:=ag B0 (hfc _ _ hy).2.2;have c3:=ag B0 (htc _ _ hp).1;have d0:=ag B0 h.m0;have d2:=ag B0 h.m2;have d5:=ag B0 h.m5;have d8:=ag B0 h.f;rw [hta] at d0;rw [hfa] at d5;rw [hq] at c0;have f1 : (g.f : Int) < (g.m.fn : Int):=ae;have t1 : (q : Int) < (g.m.tn : Int):=ae;clear h hfc htc hta hfa hy hq hp bx hf0 ht0 hfl hql;generalize g.m.fn = fn at *;generalize g.m.fc = fc at *;generalize g.m.tn = tn at *;generalize g.m.tc = tc at *;generalize g.m.ga = ga at *;generalize g.m.gn = gn at *;generalize g.m.gc = gc at *;generalize g.f = f at *;generalize g.J = J at *;obtain ⟨_,yl,⟨ca,cn,cc⟩,_⟩:=y;obtain ⟨Pa,Re⟩:=p;dsimp only at c1 c2 c3 hlo hls;subst hlo;have HH : Hid (rlS J fb (fo + f * 3) (.slice (some ⟨fb,fo,none⟩) fn fc) (.int .i64 f) q yl (.slice ca cn cc) w (w.alloc (aT op a lv))):=hid ⟨d5,d8,c0,c1,c2,B0⟩;have hz : (w.alloc (aT op a lv)).heap.size = w.heap.size + 1:=ak;clear B0
 go_enter Tryz.func106,Tryz.ntmps106
 go_wp2_with fail;generalize w.alloc (aT op a lv) = W0 at *
 go_region_held3 (rlS J fb (fo + f * 3) (.slice (some ⟨fb,fo,none⟩) fn fc) (.int .i64 f) q yl (.slice ca cn cc) w)
  (first | assumption | exact HH.out.later (aj _ _).drew | exact HH.out.later ((aj _ _).trans ((below_drewN _ 1).mono (aj _ _).size)) | exact HH.out.later (below_drewN _ 1))
  (fail)
 have BF:=(aj W0 (aI q yl ca cn cc)).drew;have gB : ((W0.alloc (aI q yl ca cn cc)).drew).heap[W0.heap.size]? = some (aI q yl ca cn cc):=heap_alloc_new W0 _;rw [hz] at gB;have k0:=ag BF d0;have k2:=ag BF d2;have k3:=ag BF c3;have kx0:=ag BF x0;have kx1:=ag BF x1;have p0:=ai (i:=0) gB;have p1:=ai (i:=1) gB;have HB:=hid (HH.out.2.2.2.2.2.trans (BF.mono HH.out.2.2.2.2.2.size));clear d0 d2 d5 d8 c0 c1 c2 c3 x0 x1 BF gB hz HH;generalize (W0.alloc (aI q yl ca cn cc)).drew = W1 at *;have hsm : ¬ 9223372036854775807 < Pa.size + yl.size:=ae;go_wp2_with fail
 go_quiet (fail)
 have HQ:=hid (HB.out.trans ((below_drewN W1 nq).mono HB.out.size));have k2':=ag (below_drewN W1 nq) k2;have y0:=ag (below_drewN W1 nq) kx0;have y1:=ag (below_drewN W1 nq) kx1;clear k0 k2 k3 kx0 kx1 p0 p1 HB;generalize W1.drewN nq = W2 at *;go_wp2_with fail;refine (H61.out _).mono ?_;rintro e w7 ⟨rfl,hb7⟩;have HQ0:=hid (HQ.out.trans (hb7.mono HQ.out.size));have k2:=ag hb7 k2';have v0:=ag hb7 y0;have v1:=ag hb7 y1;clear HQ hb7 k2' y0 y1;have HQ:=hid HQ0.out;clear HQ0
 by_cases hn : a < 0
 ·have g2 : decide (a < 0) = true:=jT;exact Bq
 ·have g2 : decide (a < 0) = false:=jT;have g3 : decide ((gn : Int) ≤ a) = true:=aG;exact Bq
end
end Go.Proofs.YtepnnenohjfkbaaGreatDoor

/-
  Texts Ve Vf Vg Lsig.
-/
import Derived.Test.YtkdldbfbldkkcaaGreatDoorM00
import Derived.Test.YtkdldbfbldkkcaaGreatDoorM03
import Derived.Test.YtkdldbfbldkkcaaGreatDoorM18
set_option linter.unusedVariables false
set_option maxRecDepth 100000
set_option maxHeartbeats 16000000
namespace Go.Proofs.YtkdldbfbldkkcaaGreatDoor
open Go.RowKit
section
variable {v : Ev} {w1 w : World} {s : Cs}
theorem rV {C OB k oc n : Nat} (h14 : w.cell? ⟨C,14,none⟩ = some (.slice (some ⟨OB,0,none⟩) (k + 1) oc)) (hk : k < 64) (hn : n ≤ k) :
  Calls Tryz.prog 112 #[.pointer (some ⟨C,0,none⟩),.int .i64 n] w fun e w' => e = .returned (.pointer (some ⟨OB,(k - n) * 5,none⟩)) ∧ Below w.heap.size w w':=by
 have g0 : (0 : Int) ≤ (n : Int):=ae
 go_enter Tryz.func112,Tryz.ntmps112
 go_wp2_with fail;refine (gu _ _ _).mono ?_
 rintro e w3 (⟨hb,rfl,rfl⟩ | ⟨hb,rfl,rfl⟩)
 ·clear hb;go_wp2_with fail
  go_quiet (fail)
  go_wp2_with fail;go_ret;refine ⟨?_,below_drewN _ _⟩
  congr 5
 ·exact mi
theorem vC {C OB k oc : Nat} {n : Int} (h14 : w.cell? ⟨C,14,none⟩ = some (.slice (some ⟨OB,0,none⟩) (k + 1) oc)) (hk : k < 64) (hn : n < 0 ∨ (k : Int) < n) :
  Calls Tryz.prog 112 #[.pointer (some ⟨C,0,none⟩),.int .i64 n] w fun e w' => e = thv 31 ∧ Below w.heap.size w w':=by
 by_cases g0 : 0 ≤ n
 ·go_enter Tryz.func112,Tryz.ntmps112
  go_wp2_with fail;refine (gu _ _ _).mono ?_
  rintro e w3 (⟨hb,rfl,rfl⟩ | ⟨hb,rfl,rfl⟩)
  ·exact mi
  ·exact ⟨rfl,rfl,Below.refl _ _⟩
 ·have g1 : n < 0:=ae
  go_enter Tryz.func112,Tryz.ntmps112
  go_wp2_with fail;refine (gu _ _ _).mono ?_
  rintro e w3 (⟨hb,rfl,rfl⟩ | ⟨hb,rfl,rfl⟩)
  ·exact absurd hb au
  ·exact ⟨rfl,rfl,Below.refl _ _⟩
def brg (o : Opn) : ByteArray:=if o.op = 3 then o.P else o.R
theorem DK {b i : Nat} (P R : ByteArray) (op : Int) (h0 : w.cell? ⟨b,i,none⟩ = some (.string P)) (h1 : w.cell? ⟨b,i + 1,none⟩ = some (.string R)) (h3 : w.cell? ⟨b,i + 3,none⟩ = some (.int .u8 op)) :
  Calls Tryz.prog 113 #[.pointer (some ⟨b,i,none⟩)] w fun e w' => e = .returned (.string (if op = 3 then P else R)) ∧ w' = w:=by
 by_cases g : op = 3
 ·subst g;rw [if_pos rfl];exact zX
 ·rw [if_neg g];exact zX
def eF (s : Cs) (n : Int) : Int:=if 0 ≤ n ∧ n < s.op.length then 0 else 31
def dE (s : Cs) (n : Int) : Opn:=s.op.getD (s.op.length - 1 - n.toNat) ⟨⟨#[]⟩,⟨#[]⟩,⟨#[]⟩,0,0⟩
theorem Ae {s : Cs} {k j : Nat} {o : Opn} (hk : s.op.length = k + 1) (hj : j ≤ k) (ho : s.op[k - j]? = some o) : dE s (j : Int) = o:=by
 unfold dE;rw [hk]
 simp only [Int.toNat_natCast,Nat.add_sub_cancel]
 rw [List.getD_eq_getElem?_getD,ho];rfl
def ku (s : Cs) (l : List Int) : Int :=
 if (l.all fun n => eF s n == 0) = true then (if (l.all fun n => (brg (dE s n)).toList == (brg (dE s (l.getD 0 0))).toList) = true then 0 else 32) else 31
theorem wu {s : Cs} {k : Nat} {z : Int} (hk : s.op.length = k + 1) (h : eF s z = 0) : ∃ q : Nat,z = (q : Int) ∧ q ≤ k:=by
 unfold eF at h
 split at h
 ·rename_i g
  exact ⟨z.toNat,ae,ae⟩
 ·cases h
theorem Ao {s : Cs} {k : Nat} {z : Int} (hk : s.op.length = k + 1) (h : eF s z ≠ 0) : eF s z = 31 ∧ (z < 0 ∨ (k : Int) < z):=by
 unfold eF at h ⊢
 split at h
 ·exact absurd rfl h
 ·rename_i g
  exact ⟨if_neg g,ae⟩
theorem xw {l : List Int} {p : Int → Bool} (h : ∀ j,j < l.length → p (l.getD j 0) = true) : l.all p = true:=by
 rw [List.all_eq_true];intro x hx;obtain ⟨j,hj,rfl⟩:=List.getElem_of_mem hx
 have:=h j hj
 rwa [List.getD_eq_getElem?_getD,ba hj] at this
theorem AH {l : List Int} {p : Int → Bool} {j : Nat} (hj : j < l.length) (h : p (l.getD j 0) = false) : l.all p = false:=by
 rw [List.all_eq_false];refine ⟨l[j],List.getElem_mem hj,?_⟩;rw [List.getD_eq_getElem?_getD,ba hj] at h
 simpa using h
theorem jJ (h : CI v w1 w s) {k : Nat} {o : Opn} (hw : CW s k o) (z : Int) (he : eF s z = 0) :
  Calls Tryz.prog 112 #[.pointer (some ⟨v.C,0,none⟩),.int .i64 z] w fun e w' => ∃ b i,e = .returned (.pointer (some ⟨b,i,none⟩)) ∧ Below w.heap.size w w' ∧
   w'.cell? ⟨b,i,none⟩ = some (.string (dE s z).P) ∧ w'.cell? ⟨b,i + 1,none⟩ = some (.string (dE s z).R) ∧ w'.cell? ⟨b,i + 3,none⟩ = some (.int .u8 (dE s z).op):=by
 obtain ⟨q,rfl,hq⟩:=wu hw.len he;obtain ⟨OB,oc,h1,h2,h3⟩:=h.opn
 have hlt : k - q < s.op.length:=by have:=hw.len; omega
 obtain ⟨p,hp⟩ : ∃ p,s.op[k - q]? = some p:=⟨_,ba hlt⟩;obtain ⟨x0,x1,x2,x3,x4⟩:=h3 _ p hp;rw [hw.len] at h1;rw [Ae hw.len hq hp];refine (rV h1 hw.le hq).mono ?_;rintro e w' ⟨rfl,hb⟩;exact ⟨_,_,rfl,hb,ag hb x0,ag hb x1,ag hb x3⟩
theorem lH (hA : EvA v w1) (h : CI v w1 w s) {k : Nat} {o : Opn} (hw : CW s k o) (z : Int) (he : eF s z ≠ 0) :
  Calls Tryz.prog 112 #[.pointer (some ⟨v.C,0,none⟩),.int .i64 z] w fun e w' => e = thv 31 ∧ Below w.heap.size w w':=by
 obtain ⟨OB,oc,h1,h2,h3⟩:=h.opn;rw [hw.len] at h1;refine (vC h1 hw.le (Ao hw.len he).2).mono ?_;rintro e w' ⟨rfl,hb⟩;exact ⟨rfl,hb⟩
theorem iO {b i : Nat} {o : Opn} (h0 : w.cell? ⟨b,i,none⟩ = some (.string o.P)) (h1 : w.cell? ⟨b,i + 1,none⟩ = some (.string o.R)) (h3 : w.cell? ⟨b,i + 3,none⟩ = some (.int .u8 o.op)) :
  Calls Tryz.prog 113 #[.pointer (some ⟨b,i,none⟩)] w fun e w' => e = .returned (.string (brg o)) ∧ w' = w:=DK _ _ _ h0 h1 h3
theorem DF (hA : EvA v w1) (h : CI v w1 w s) {k : Nat} {o : Opn} (hw : CW s k o) (a : Option Addr) (n cap : Nat) (l : List Int) (hl : oo w1 a n cap l) (hn : 0 < n) (hS : ∀ b off,a = some ⟨b,off,none⟩ → n ≠ 0 → ¬ v.S b) :
  Calls Tryz.prog 116 #[.pointer (some ⟨v.C,0,none⟩),.slice a n cap] w (Rdz w (ku s l) (.string (brg (dE s (l.getD 0 0))))):=by
 have hlen:=hl.1;have hcap:=hl.2.1;have hbig:=hl.2.2.1
 obtain ⟨ab,off,rfl,hc0⟩ : ∃ b off,a = some ⟨b,off,none⟩ ∧ ∀ W,CI v w1 W s → ∀ j,j < n → W.cell? ⟨b,off + j,none⟩ = some (.int .i64 (l.getD j 0)):=by
  rcases hl.2.2.2.2 with h0 | ⟨b,off,rfl,hc⟩
  ·omega
  ·exact ⟨b,off,rfl,fun W hW j hj => hW.kept.cell (hc j hj) (hS b off rfl ae)⟩
 have HCL:=hid hc0;have HC:=hid h
 have HE:=hid (show ∀ j,j < n → eF s (l.getD j 0) ≠ 0 → ku s l = 31 from fun j hj hx => by
  have hx' : (eF s (l.getD j 0) == 0) = false:=pE
  have:=AH (p:=fun n => eF s n == 0) (by omega : j < l.length) hx'
  unfold ku; rw [this]; simp)
 have HF:=hid (show (∀ j,j < n → eF s (l.getD j 0) = 0) → ∀ j,j < n → ((brg (dE s (l.getD j 0))).toList == (brg (dE s (l.getD 0 0))).toList) = false → ku s l = 32 from fun hy j hj hx => by
  have h1:=xw (l:=l) (p:=fun n => eF s n == 0) (fun j hj => by have:=hy j ae; simpa using this)
  have h2:=AH (p:=fun n => (brg (dE s n)).toList == (brg (dE s (l.getD 0 0))).toList) (by omega : j < l.length) hx
  unfold ku; rw [h1,h2]; simp)
 have HG:=hid (show (∀ j,j < n → eF s (l.getD j 0) = 0) → (∀ j,j < n → ((brg (dE s (l.getD j 0))).toList == (brg (dE s (l.getD 0 0))).toList) = true) → ku s l = 0 from fun hy hz => by
  have h1:=xw (l:=l) (p:=fun n => eF s n == 0) (fun j hj => by have:=hy j ae; simpa using this)
  have h2:=xw (l:=l) (p:=fun n => (brg (dE s n)).toList == (brg (dE s (l.getD 0 0))).toList) (fun j hj => hz j ae)
  unfold ku; rw [h1,h2]; simp)
 generalize ku s l = E at *;obtain ⟨z0,hz0⟩ : ∃ z,l.getD 0 0 = z:=⟨_,rfl⟩;have HZ0:=hid hz0;rw [hz0] at HG HF ⊢;clear h hc0 hl hS hz0
 go_enter Tryz.func116,Tryz.ntmps116
 go_wp2_with fail
 go_loopw [12] (fun i wr => ∃ j : Nat,j ≤ n ∧ i = .int .i64 j ∧ (∀ m,m < j → eF s (l.getD m 0) = 0) ∧ Below w.heap.size w wr) (fun i _ => n - (intOf i).toNat)
 case atStart => exact ⟨0,ae,rfl,fun m hm => ae,Below.refl _ _⟩
 case round =>
  obtain ⟨j,hj,rfl,hall,hc⟩:=hrel;have HA1:=hid hall;have HB1:=hid hc;have HC1:=hid (HC.out.later hA hc);clear hall hc
  by_cases hlt : j < n
  ·have hx:=HCL.out wr HC1.out j hlt;have hlt' : (j : Int) < n:=ae;have HEJ:=hid (HE.out j hlt);obtain ⟨z,hz⟩ : ∃ z,l.getD j 0 = z:=⟨_,rfl⟩;have HZ:=hid hz;rw [hz] at hx HEJ;clear hz
   by_cases he : eF s z = 0
   ·have HL:=hid (jJ HC1.out hw _ he);go_wp2_with fail;refine HL.out.mono ?_;rintro e w2 ⟨b,i,rfl,hb,y0,y1,y3⟩;have HB2:=hid (HB1.out.trans (hb.mono HB1.out.size));clear hb y0 y1 y3;go_wp2_with fail
    go_roundw
    case rel => exact ⟨j + 1,ae,au,fun m hm => by
     rcases Nat.lt_or_ge m j with g | g
     ·exact HA1.out m g
     ·obtain rfl : m = j:=ae
      rw [HZ.out]; exact he,HB2.out⟩
    case measure => simp [intOf]; omega
   ·have HL:=hid (lH hA HC1.out hw _ he);have hE:=HEJ.out he;subst hE;go_wp2_with fail;refine HL.out.mono ?_;rintro e w2 ⟨rfl,hb⟩;exact ⟨rfl,.inr ⟨ax,rfl,HB1.out.trans (hb.mono HB1.out.size)⟩⟩
  ·obtain rfl : j = n:=ae;have hge : ¬ (j : Int) < j:=ae;have hx:=HCL.out wr HC1.out 0 hn
   simp only [Nat.add_zero] at hx
   have he:=HA1.out 0 hn;have HG1:=hid (HG.out HA1.out);have HF1:=hid (HF.out HA1.out);rw [HZ0.out] at hx he;have HL:=hid (jJ HC1.out hw _ he);clear HE HF HG HZ0;go_wp2_with fail;refine HL.out.mono ?_;rintro e w2 ⟨b,i,rfl,hb,y0,y1,y3⟩;have HB2:=hid (HB1.out.trans (hb.mono HB1.out.size));clear hb;go_wp2_with fail;refine (iO y0 y1 y3).mono ?_;rintro e w3 ⟨rfl,hw3⟩;obtain rfl:=hw3.symm;obtain ⟨L,hL⟩ : ∃ L,brg (dE s z0) = L:=⟨_,rfl⟩;rw [hL] at HG1 HF1 ⊢;clear y0 y1 y3 HL hx HC1 HB1;go_wp2_with fail;generalize w2 = wz at *
   go_loopw [28] (fun i wr => ∃ m : Nat,m ≤ j ∧ i = .int .i64 m ∧ (∀ q,q < m → ((brg (dE s (l.getD q 0))).toList == L.toList) = true) ∧ Below w.heap.size w wr) (fun i _ => j - (intOf i).toNat)
   case atStart => exact ⟨0,ae,rfl,fun m hm => ae,HB2.out⟩
   case round =>
    obtain ⟨m,hm,rfl,hall,hc⟩:=hrel;have HA2:=hid hall;have HB3:=hid hc;have HC3:=hid (HC.out.later hA hc);clear hall hc
    by_cases hlt : m < j
    ·have hx:=HCL.out _ HC3.out m hlt;have hlt' : (m : Int) < j:=ae;have he:=HA1.out m hlt;have HFM:=hid (HF1.out m hlt);obtain ⟨z,hz⟩ : ∃ z,l.getD m 0 = z:=⟨_,rfl⟩;have HZ:=hid hz;rw [hz] at hx he HFM;clear hz;have HL:=hid (jJ HC3.out hw _ he);go_wp2_with fail;refine HL.out.mono ?_;rintro e w4 ⟨b,i,rfl,hb,y0,y1,y3⟩;have HB4:=hid (HB3.out.trans (hb.mono HB3.out.size));clear hb;go_wp2_with fail;refine (iO y0 y1 y3).mono ?_;rintro e w5 ⟨rfl,hw5⟩;obtain rfl:=hw5.symm;clear y0 y1 y3 HL hx;go_wp2_with fail;refine (gu _ _ _).mono ?_
     rintro e w6 (⟨hb,rfl,rfl⟩ | ⟨hb,rfl,rfl⟩)
     ·have HB:=hid hb;clear hb;go_wp2_with fail
      go_roundw
      case rel => exact ⟨m + 1,ae,au,fun q hq => by
       rcases Nat.lt_or_ge q m with g | g
       ·exact HA2.out q g
       ·obtain rfl : q = m:=ae
        rw [HZ.out]; exact HB.out,HB4.out⟩
      case measure => simp [intOf]; omega
     ·have hE:=HFM.out hb;subst hE;exact ⟨rfl,.inr ⟨ax,rfl,HB4.out⟩⟩
    ·obtain rfl : m = j:=ae;have hE:=HG1.out HA2.out;subst hE;go_wp2_with fail;go_ret;exact .inl ⟨rfl,rfl,HB3.out⟩
end
theorem bF {B : Nat} {w W : World} {g i : Nat} {u : Value} (h : Below B w W) (hB : B ≤ g) (hs : B ≤ W.heap.size) : Below B w (W.setCell ⟨g,i,none⟩ u) :=
 h.trans ((ay W g i u).to_below hs (fun k hk e => ae))
section
variable {v : Ev} {w1 w : World} {s : Cs}
theorem vg {b off n cap q : Nat} {P R : ByteArray} (hq : q < n) (hn : n ≤ 1099511627776) (h0 : w.cell? ⟨b,off + q * 2,none⟩ = some (.string P)) (h1 : w.cell? ⟨b,off + q * 2 + 1,none⟩ = some (.string R)) :
  Calls Tryz.prog 137 #[.slice (some ⟨b,off,none⟩) n cap,.int .i64 q] w fun e w' => e = .returned (.agg #[.string P,.string R]) ∧ Below w.heap.size w w':=by
 have g0 : (0 : Int) ≤ (q : Int):=ae;have g1 : (q : Int) < (n : Int):=ae;have BN:=aj w (bD ⟨#[]⟩ ⟨#[]⟩);have z0:=ag BN h0;have z1:=ag BN h1;have BW:=hid BN;clear BN h0 h1
 go_enter Tryz.func137,Tryz.ntmps137
 go_wp2_with fail;refine (fk _ _).mono ?_;rintro e w3 ⟨rfl,hw3⟩;obtain rfl:=hw3.symm;go_wp2_with fail;refine bodyPost_ret (v:=.agg #[.string P,.string R]) ?_ rfl ⟨rfl,?_⟩
 ·exact cF
 ·exact aj _ _
theorem xS {a : Option Addr} {n cap : Nat} {z : Int} (hz : z < 0 ∨ (n : Int) ≤ z) (hn : n ≤ 1099511627776) :
  Calls Tryz.prog 137 #[.slice a n cap,.int .i64 z] w fun e w' => e = thv 30 ∧ Below w.heap.size w w':=by
 by_cases g0 : 0 ≤ z
 ·go_enter Tryz.func137,Tryz.ntmps137
  exact zo
 ·have g1 : z < 0:=ae
  go_enter Tryz.func137,Tryz.ntmps137
  exact xg
theorem wY {b off n cap q : Nat} {ty : Int} {lo : ByteArray} {ca : Option Addr} {cn cc : Nat} (hq : q < n) (hn : n ≤ 1099511627776) (h0 : w.cell? ⟨b,off + q * 3,none⟩ = some (.int .i64 ty)) (h1 : w.cell? ⟨b,off + q * 3 + 1,none⟩ = some (.string lo)) (h2 : w.cell? ⟨b,off + q * 3 + 2,none⟩ = some (.slice ca cn cc)) :
  Calls Tryz.prog 144 #[.slice (some ⟨b,off,none⟩) n cap,.int .i64 q] w fun e w' => e = .returned (.agg #[.int .i64 ty,.string lo,.slice ca cn cc]) ∧ Below w.heap.size w w':=by
 have g0 : (0 : Int) ≤ (q : Int):=ae;have g1 : (q : Int) < (n : Int):=ae;have BN:=aj w (aW 0 ⟨#[]⟩ none 0 0);have z0:=ag BN h0;have z1:=ag BN h1;have z2:=ag BN h2;have BW:=hid BN;clear BN h0 h1 h2
 go_enter Tryz.func144,Tryz.ntmps144
 go_wp2_with fail;refine (fk _ _).mono ?_;rintro e w3 ⟨rfl,hw3⟩;obtain rfl:=hw3.symm;go_wp2_with fail;refine bodyPost_ret (v:=.agg #[.int .i64 ty,.string lo,.slice ca cn cc]) ?_ rfl ⟨rfl,?_⟩
 ·exact cF
 ·exact aj _ _
theorem yR {a : Option Addr} {n cap : Nat} {z : Int} (hz : z < 0 ∨ (n : Int) ≤ z) (hn : n ≤ 1099511627776) :
  Calls Tryz.prog 144 #[.slice a n cap,.int .i64 z] w fun e w' => e = thv 30 ∧ Below w.heap.size w w':=by
 by_cases g0 : 0 ≤ z
 ·go_enter Tryz.func144,Tryz.ntmps144
  exact zo
 ·have g1 : z < 0:=ae
  go_enter Tryz.func144,Tryz.ntmps144
  exact xg
theorem vJ {b off n cap q : Nat} {x : Int} (hq : q < n) (hn : n ≤ 1099511627776) (h0 : w.cell? ⟨b,off + q,none⟩ = some (.int .i64 x)) :
  Calls Tryz.prog 145 #[.slice (some ⟨b,off,none⟩) n cap,.int .i64 q] w fun e w' => e = .returned (.int .i64 x) ∧ Below w.heap.size w w':=by
 have g0 : (0 : Int) ≤ (q : Int):=ae;have g1 : (q : Int) < (n : Int):=ae
 go_enter Tryz.func145,Tryz.ntmps145
 exact He
theorem xL {a : Option Addr} {n cap : Nat} {z : Int} (hz : z < 0 ∨ (n : Int) ≤ z) (hn : n ≤ 1099511627776) :
  Calls Tryz.prog 145 #[.slice a n cap,.int .i64 z] w fun e w' => e = thv 30 ∧ w' = w:=by
 by_cases g0 : 0 ≤ z
 ·go_enter Tryz.func145,Tryz.ntmps145
  exact Iz
 ·have g1 : z < 0:=ae
  go_enter Tryz.func145,Tryz.ntmps145
  exact D5
theorem jC {b off n cap q : Nat} {x : Int} (hq : q < n) (hn : n ≤ 1099511627776) (h0 : w.cell? ⟨b,off + q,none⟩ = some (.int .u8 x)) :
  Calls Tryz.prog 148 #[.slice (some ⟨b,off,none⟩) n cap,.int .i64 q] w fun e w' => e = .returned (.int .u8 x) ∧ Below w.heap.size w w':=by
 have g0 : (0 : Int) ≤ (q : Int):=ae;have g1 : (q : Int) < (n : Int):=ae
 go_enter Tryz.func148,Tryz.ntmps148
 exact He
theorem lg {a : Option Addr} {n cap : Nat} {z : Int} (hz : z < 0 ∨ (n : Int) ≤ z) (hn : n ≤ 1099511627776) :
  Calls Tryz.prog 148 #[.slice a n cap,.int .i64 z] w fun e w' => e = thv 30 ∧ w' = w:=by
 by_cases g0 : 0 ≤ z
 ·go_enter Tryz.func148,Tryz.ntmps148
  exact Iz
 ·have g1 : z < 0:=ae
  go_enter Tryz.func148,Tryz.ntmps148
  exact D5
theorem nN {b off n cap q : Nat} {c : Int} {mu : Bool} {x : Int} (hq : q < n) (hn : n ≤ 1099511627776) (h0 : w.cell? ⟨b,off + q * 3,none⟩ = some (.int .u8 c)) (h1 : w.cell? ⟨b,off + q * 3 + 1,none⟩ = some (.bool mu)) (h2 : w.cell? ⟨b,off + q * 3 + 2,none⟩ = some (.int .u64 x)) :
  Calls Tryz.prog 149 #[.slice (some ⟨b,off,none⟩) n cap,.int .i64 q] w fun e w' => e = .returned (.agg #[.int .u8 c,.bool mu,.int .u64 x]) ∧ Below w.heap.size w w':=by
 have g0 : (0 : Int) ≤ (q : Int):=ae;have g1 : (q : Int) < (n : Int):=ae;have BN:=aj w (bh 0 false 0);have z0:=ag BN h0;have z1:=ag BN h1;have z2:=ag BN h2;have BW:=hid BN;clear BN h0 h1 h2
 go_enter Tryz.func149,Tryz.ntmps149
 go_wp2_with fail;refine (fk _ _).mono ?_;rintro e w3 ⟨rfl,hw3⟩;obtain rfl:=hw3.symm;go_wp2_with fail;refine bodyPost_ret (v:=.agg #[.int .u8 c,.bool mu,.int .u64 x]) ?_ rfl ⟨rfl,?_⟩
 ·exact cF
 ·exact aj _ _
theorem qD {a : Option Addr} {n cap : Nat} {z : Int} (hz : z < 0 ∨ (n : Int) ≤ z) (hn : n ≤ 1099511627776) :
  Calls Tryz.prog 149 #[.slice a n cap,.int .i64 z] w fun e w' => e = thv 30 ∧ Below w.heap.size w w':=by
 by_cases g0 : 0 ≤ z
 ·go_enter Tryz.func149,Tryz.ntmps149
  exact zo
 ·have g1 : z < 0:=ae
  go_enter Tryz.func149,Tryz.ntmps149
  exact xg
theorem Bn (P R B : ByteArray) (hs : B.size + R.size ≤ 1073741824) : Calls Tryz.prog 139 #[.agg #[.string P,.string R],.string B] w fun e w' => e = .returned (.string (B ++ R)) ∧ Below w.heap.size w w':=by
 go_enter Tryz.func139,Tryz.ntmps139
 exact sI
theorem zG (P R B : ByteArray) (hs : B.size + P.size ≤ 1073741824) : Calls Tryz.prog 140 #[.agg #[.string P,.string R],.string B] w fun e w' => e = .returned (.string (B ++ P)) ∧ Below w.heap.size w w':=by
 go_enter Tryz.func140,Tryz.ntmps140
 exact sI
theorem J3 (P R : ByteArray) : Calls Tryz.prog 141 #[.agg #[.string P,.string R]] w fun e w' => e = .returned (.bool (P.toList == R.toList)) ∧ Below w.heap.size w w':=by
 go_enter Tryz.func141,Tryz.ntmps141
 exact sI
end
section
variable {v : Ev} {w1 w : World} {s : Cs}
def lN (s : Cs) (o : Opn) (j : Nat) : Int:=if j < (s.st.extract o.B.size s.st.size).size then 0 else 33
def iG (s : Cs) (o : Opn) (j : Nat) : ByteArray:=(s.st.extract o.B.size s.st.size).extract ((s.st.extract o.B.size s.st.size).size - 1 - j) ((s.st.extract o.B.size s.st.size).size - 1 - j + 1)
theorem rO (hA : EvA v w1) (h : CI v w1 w s) {k : Nat} {o : Opn} (hw : CW s k o) (j : Nat) (hj : j ≤ 1) : Calls Tryz.prog 146 #[.pointer (some ⟨v.C,0,none⟩),.int .i64 j] w (Rdz w (lN s o j) (.string (iG s o j))):=by
 have H1:=hid (wE h hw)
 have hz : (s.st.extract o.B.size s.st.size).size ≤ 1000000:=by
  have:=hw.big
  simp; omega
 have HC:=hid h
 have hT : j < (s.st.extract o.B.size s.st.size).size → lN s o j = 0:=fun h => by simp only [lN,h,if_true]
 have hF : ¬ j < (s.st.extract o.B.size s.st.size).size → lN s o j = 33:=fun h => by simp only [lN,h,if_false]
 have HV:=hid (show iG s o j = (s.st.extract o.B.size s.st.size).extract ((s.st.extract o.B.size s.st.size).size - 1 - j) ((s.st.extract o.B.size s.st.size).size - 1 - j + 1) from rfl);clear h;generalize lN s o j = E at *;generalize iG s o j = V at *;generalize s.st.extract o.B.size s.st.size = a at *
 by_cases hlt : j < a.size
 ·have hE:=hT hlt;subst hE;obtain ⟨d,hd⟩ : ∃ d,a.size = d + 1 + j:=⟨a.size - 1 - j,ae⟩;have hd' : a.size - 1 - j = d:=ae;rw [hd'] at HV;have g1 : (d : Int) + 1 ≤ (a.size : Int):=ae;have a1 : (a.size : Int) - 1 - (j : Int) = (d : Int):=ae;clear hT hF
  go_enter Tryz.func146,Tryz.ntmps146
  go_wp2_with fail;refine H1.out.mono ?_;rintro e w2 ⟨rfl,hb⟩;have HC2:=hid hb;clear hb;go_wp2_with fail;refine (gu _ _ _).mono ?_
  rintro e w3 (⟨hb,rfl,rfl⟩ | ⟨hb,rfl,rfl⟩)
  ·clear hb;go_wp2_with fail;go_ret;refine .inl ⟨rfl,?_,HC2.out⟩;have e1 : d + 1 + j - 1 - j = d:=ae;rw [HV.out]
   show Ending.returned (Value.string (a.extract (d + 1 + j - 1 - j) (d + 1 + j - 1 - j + 1))) = _
   rw [e1]
  ·exact mi
 ·have hE:=hF hlt;subst hE;clear hT hF
  go_enter Tryz.func146,Tryz.ntmps146
  go_wp2_with fail;refine H1.out.mono ?_;rintro e w2 ⟨rfl,hb⟩;have HC2:=hid hb;clear hb;go_wp2_with fail;refine (gu _ _ _).mono ?_
  rintro e w3 (⟨hb,rfl,rfl⟩ | ⟨hb,rfl,rfl⟩)
  ·exfalso
   simp at hb; omega
  ·exact ⟨rfl,.inr ⟨ax,rfl,HC2.out⟩⟩
def ltr (c : Int) : ByteArray:=if c = 119 then ⟨#[119]⟩ else ⟨#[108]⟩
def jb (op : Int) (y : ByteArray) : ByteArray:=if op = 18 ∨ op = 21 then ⟨#[]⟩ else y
def js (op : Int) (y : ByteArray) : ByteArray:=if op = 18 ∨ op = 21 ∨ op = 20 then y else ⟨#[]⟩
theorem NU : Utf8.encode 119 = ⟨#[119]⟩:=ax
theorem NV : Utf8.encode 108 = ⟨#[108]⟩:=ax
theorem iH (op c : Int) (hc : c = 119 ∨ c = 108) (hop : op = 18 ∨ op = 19 ∨ op = 20 ∨ op = 21 ∨ op = 22) : Calls Tryz.prog 147 #[.int .u8 op,.int .u8 c] w fun e w' => e = .returned (.agg #[.string (jb op (ltr c)),.string (js op (ltr c))]) ∧ Below w.heap.size w w':=by
 obtain ⟨P,hP⟩ : ∃ P,jb op (ltr c) = P:=⟨_,rfl⟩;obtain ⟨R,hR⟩ : ∃ R,js op (ltr c) = R:=⟨_,rfl⟩;rw [hP,hR];have HP:=hid hP.symm;have HR:=hid hR.symm;clear hP hR
 rcases hc with rfl | rfl <;> rcases hop with rfl | rfl | rfl | rfl | rfl
 all_goals
  go_enter Tryz.func147,Tryz.ntmps147
  go_wp2_with fail;refine bodyPost_ret (v:=.agg #[.string P,.string R]) ?_ rfl ⟨rfl,?_⟩
  ·rw [cP rfl];go_simp;rw [HP.out,HR.out]
   simp [NU,NV,jb,js,ltr]
  ·exact (aj _ _)
end
theorem Kq : ∃ i,Tryz.prog.info? 56 = some i ∧ i.zero = some (.agg #[.string ⟨#[]⟩,.string ⟨#[]⟩]) ∧ i.size = 2 ∧ i.bytes = 32:=by
 have h : (Tryz.prog.info? 56).map (fun i => (i.zero,i.size,i.bytes)) = some (some (.agg #[.string ⟨#[]⟩,.string ⟨#[]⟩]),2,32):=ak
 cases hi : Tryz.prog.info? 56 with
 | none => rw [hi] at h; cases h
 | some i => rw [hi] at h; simp at h; exact ⟨i,rfl,h.1,h.2.1,h.2.2⟩
def gv (y : Sg) : List Value:=[.string y.1,.string y.2]
abbrev Kt (x : Sg) : Value:=.agg #[.string x.1,.string x.2]
abbrev Oc (y : Sg) : Value:=.agg #[.string y.1,.string y.2]
def i5 (w : World) (a : Option Addr) (n : Nat) (xs : List Sg) : Prop :=
 xs.length = n ∧ (n = 0 ∨ ∃ b off,a = some ⟨b,off,none⟩ ∧ ∀ (j : Nat) x,xs[j]? = some x → w.cell? ⟨b,off + j * 2,none⟩ = some (.string x.1) ∧ w.cell? ⟨b,off + j * 2 + 1,none⟩ = some (.string x.2))
theorem i5.kept {S : Nat → Prop} {w w' : World} {a : Option Addr} {n : Nat} {xs : List Sg} (h : i5 w a n xs) (hk : Kept S w w') (hS : ∀ b off c,a = some ⟨b,off,c⟩ → ¬ S b) : i5 w' a n xs:=by
 exact yG
theorem uS (w : World) (y : Sg) : ∀ j u,(gv y)[j]? = some u → (w.alloc (bD y.1 y.2)).cell? ((⟨w.heap.size,0,none⟩ : Addr).add j) = some u:=by
 intro j u hj;have hlt:=az hj;have hl : (gv y).length = 2:=rfl;rw [hl] at hlt;have hadd : (⟨w.heap.size,0,none⟩ : Addr).add j = ⟨w.heap.size,j,none⟩:=dJ;rw [hadd];have hb:=(MapKept.heap_alloc w (bD y.1 y.2)).1
 simp only [World.cell?,hb]
 simpa [gv] using hj
theorem uV (y : Sg) : ∀ u ∈ gv y,u.oneCell' = true:=by
 intro u hu
 simp [gv] at hu
 rcases hu with rfl | rfl <;> rfl
def uI (R g : Nat) (w : World) (K : Nat) (cs : Array Value) (bs : List Int) (n : Nat) (xs : List Sg) (enc : Sg → List Int) (Ok : Sg → Sg → Prop) (j : Nat) (x : Sg) : Prop :=
 ∀ (ys : List Sg) (W : World) (g1 cap1 : Nat) (aa : Option Addr) (ac : Nat),ys.length = j → (∀ (i : Nat) y,ys[i]? = some y → ∃ x',xs[i]? = some x' ∧ Ok x' y) → Stp R g g1 w W → Wr W R g1 cap1 (bs ++ aw n ++ (xs.take j).flatMap enc) →
  W.ownsRow 0 56 2 (.slice aa j ac) j (ys.flatMap gv) → (∀ b,aa = some b → w.heap.size ≤ b.block ∧ b.block ≠ g1) →
  Calls Tryz.prog K (#[Kt x,.slice aa j ac] ++ cs) W (fun e w' => ∃ y,e = .returned (Oc y) ∧ Ok x y ∧ ∃ g' cap',Wr w' R g' cap' (bs ++ aw n ++ (xs.take j).flatMap enc ++ enc x) ∧ Stp R g1 g' W w')
def Dn (R g : Nat) (w : World) (K : Nat) (cs : Array Value) (bs : List Int) (n : Nat) (xs : List Sg) (enc : Sg → List Int) (Ok : Sg → Sg → Prop) (j : Nat) (x : Sg) (er : Int) : Prop :=
 ∀ (ys : List Sg) (W : World) (g1 cap1 : Nat) (aa : Option Addr) (ac : Nat),ys.length = j → (∀ (i : Nat) y,ys[i]? = some y → ∃ x',xs[i]? = some x' ∧ Ok x' y) → Stp R g g1 w W → Wr W R g1 cap1 (bs ++ aw n ++ (xs.take j).flatMap enc) →
  W.ownsRow 0 56 2 (.slice aa j ac) j (ys.flatMap gv) → (∀ b,aa = some b → w.heap.size ≤ b.block ∧ b.block ≠ g1) →
  Calls Tryz.prog K (#[Kt x,.slice aa j ac] ++ cs) W (aU R g1 er W)
theorem wK (R g cap : Nat) (bs : List Int) (ha : Option Addr) (n hc : Nat) (most : Int) (K : Nat) (cs : Array Value) (w : World) (xs : List Sg) (enc : Sg → List Int) (Ok : Sg → Sg → Prop) (M : Nat)
  (h : Wr w R g cap bs) (hn : n ≤ 100000) (hm : (n : Int) ≤ most) (hmem : i5 w ha n xs) (hne : ∀ b off c,ha = some ⟨b,off,c⟩ → b ≠ R ∧ b ≠ g)
  (hK : ∀ args w,(callFunc K args).run Tryz.prog w = .ok (.enter K args) w) (hlen : ∀ (j : Nat) x,xs[j]? = some x → (enc x).length ≤ M) (hM : M ≤ 1000000) (hb : bs.length + 200000000000 ≤ 1099511627776)
  (heach : ∀ (j : Nat) x,xs[j]? = some x → uI R g w K cs bs n xs enc Ok j x) :
  Calls Tryz.prog 88 #[cW R,.slice ha n hc,.int .i64 most,.func (.func K) #[] cs] w fun e w' => ∃ (aa : Option Addr) (ac : Nat) (ys : List Sg),e = .returned (.slice aa n ac) ∧ ys.length = n ∧ (∀ (i : Nat) y,ys[i]? = some y → ∃ x,xs[i]? = some x ∧ Ok x y) ∧
   w'.ownsRow 0 56 2 (.slice aa n ac) n (ys.flatMap gv) ∧ ∃ g' cap',(∀ b,aa = some b → w.heap.size ≤ b.block ∧ b.block ≠ g') ∧ Wr w' R g' cap' (bs ++ aw n ++ xs.flatMap enc) ∧ Stp R g g' w w':=by
 have hmc:=br;have hcc:=bR;have HC:=hid (bH R g cap bs n most w h hm ae ae);have hRl:=h.lt;have hgl:=h.g_lt;have hxl:=hmem.1;have HM:=hid hmem;have HNE:=hid hne;have HE:=hid heach;obtain ⟨i0,hi,hz0,hz1,hz2⟩:=Kq;clear h hmem heach hne
 go_enter Tryz.func88,Tryz.ntmps88
 go_wp2_with fail;refine HC.out.mono ?_;rintro e w2 ⟨rfl,g1,cap1,hw2,hs2⟩;have W2:=hid hw2;have S2:=hid hs2;clear hw2 hs2 HC hmc hcc;go_wp2_with fail
 go_loopw [9,17] (fun o i wr => ∃ (j : Nat) (ys : List Sg) (aa : Option Addr) (ac g1 cap1 : Nat),j ≤ n ∧ i = .int .i64 j ∧ o = .slice aa j ac ∧ ys.length = j ∧ (∀ (i : Nat) y,ys[i]? = some y → ∃ x,xs[i]? = some x ∧ Ok x y) ∧
   wr.ownsRow 0 56 2 (.slice aa j ac) j (ys.flatMap gv) ∧ (∀ b,aa = some b → w.heap.size ≤ b.block ∧ b.block ≠ g1) ∧ Wr wr R g1 cap1 (bs ++ aw n ++ (xs.take j).flatMap enc) ∧ Stp R g g1 w wr) (fun _ i _ => n - (intOf i).toNat)
 case atStart => exact ⟨0,[],none,0,g1,cap1,ae,rfl,rfl,rfl,(fun i y h => ei),World.ownsRow_nil _ _ _ _,(fun b h => cj),fy,S2.out⟩
 case round =>
  obtain ⟨j,ys,aa,ac,g3,cap3,hj,rfl,rfl,hyl,hys,hrow,hab,hwr,hst⟩:=hrel;have HY:=hid hys;have HRW:=hid hrow;have HAB:=hid hab;have HWR:=hid hwr;have HST:=hid hst;clear hys hrow hab hwr hst W2 S2
  by_cases hlt : j < n
  ·obtain ⟨x,hx⟩ : ∃ x,xs[j]? = some x:=⟨_,ba ae⟩
   obtain ⟨b,off,rfl,hcell⟩ : ∃ b off,ha = some ⟨b,off,none⟩ ∧ ∀ (j : Nat) x,xs[j]? = some x → wr.cell? ⟨b,off + j * 2,none⟩ = some (.string x.1) ∧ wr.cell? ⟨b,off + j * 2 + 1,none⟩ = some (.string x.2):=by
    exact dL
   have hcj:=hcell j x hx;have hbl:=block_lt_of_cell hcj.1;clear hcell;obtain ⟨v0,v1⟩:=hcj;have BN:=hid (aj wr (bD x.1 x.2))
   have HC1:=hid (HE.out j x hx ys (wr.alloc (bD x.1 x.2)) g3 cap3 aa ac hyl HY.out (HST.out.trans (Stp.of_below BN.out)) (HWR.out.later BN.out) (aJ HRW.out (fun B hB => BN.out.block B (aF HRW.out hB))) HAB.out)
   exact KO
  ·exact nj
theorem xp (R g cap : Nat) (bs : List Int) (ha : Option Addr) (n hc : Nat) (most : Int) (K : Nat) (cs : Array Value) (w : World) (xs : List Sg) (enc : Sg → List Int) (Ok : Sg → Sg → Prop) (M : Nat)
  (h : Wr w R g cap bs) (hn : n ≤ 100000) (hm : (n : Int) ≤ most) (hmem : i5 w ha n xs) (hne : ∀ b off c,ha = some ⟨b,off,c⟩ → b ≠ R ∧ b ≠ g)
  (hK : ∀ args w,(callFunc K args).run Tryz.prog w = .ok (.enter K args) w) (hlen : ∀ (j : Nat) x,xs[j]? = some x → (enc x).length ≤ M) (hM : M ≤ 1000000) (hb : bs.length + 200000000000 ≤ 1099511627776)
  (k : Nat) (xk : Sg) (er : Int) (hk : xs[k]? = some xk) (heach : ∀ (j : Nat) x,xs[j]? = some x → j < k → uI R g w K cs bs n xs enc Ok j x) (hno : Dn R g w K cs bs n xs enc Ok k xk er) :
  Calls Tryz.prog 88 #[cW R,.slice ha n hc,.int .i64 most,.func (.func K) #[] cs] w (aU R g er w):=by
 have hkn:=az hk;have hmc:=br;have hcc:=bR;have HC:=hid (bH R g cap bs n most w h hm ae ae);have hRl:=h.lt;have hgl:=h.g_lt;have hxl:=hmem.1;have HM:=hid hmem;have HNE:=hid hne;have HE:=hid heach;have HN:=hid hno;obtain ⟨i0,hi,hz0,hz1,hz2⟩:=Kq;clear h hmem heach hne hno
 go_enter Tryz.func88,Tryz.ntmps88
 go_wp2_with fail;refine HC.out.mono ?_;rintro e w2 ⟨rfl,g1,cap1,hw2,hs2⟩;have W2:=hid hw2;have S2:=hid hs2;clear hw2 hs2 HC hmc hcc;go_wp2_with fail
 go_loopw [9,17] (fun o i wr => ∃ (j : Nat) (ys : List Sg) (aa : Option Addr) (ac g1 cap1 : Nat),j ≤ k ∧ i = .int .i64 j ∧ o = .slice aa j ac ∧ ys.length = j ∧ (∀ (i : Nat) y,ys[i]? = some y → ∃ x,xs[i]? = some x ∧ Ok x y) ∧
   wr.ownsRow 0 56 2 (.slice aa j ac) j (ys.flatMap gv) ∧ (∀ b,aa = some b → w.heap.size ≤ b.block ∧ b.block ≠ g1) ∧ Wr wr R g1 cap1 (bs ++ aw n ++ (xs.take j).flatMap enc) ∧ Stp R g g1 w wr) (fun _ i _ => n - (intOf i).toNat)
 case atStart => exact ⟨0,[],none,0,g1,cap1,ae,rfl,rfl,rfl,(fun i y h => ei),World.ownsRow_nil _ _ _ _,(fun b h => cj),fy,S2.out⟩
 case round =>
  obtain ⟨j,ys,aa,ac,g3,cap3,hj,rfl,rfl,hyl,hys,hrow,hab,hwr,hst⟩:=hrel;have HY:=hid hys;have HRW:=hid hrow;have HAB:=hid hab;have HWR:=hid hwr;have HST:=hid hst;clear hys hrow hab hwr hst W2 S2;have hlt : j < n:=ae
  ·obtain ⟨x,hx⟩ : ∃ x,xs[j]? = some x:=⟨_,ba ae⟩
   obtain ⟨b,off,rfl,hcell⟩ : ∃ b off,ha = some ⟨b,off,none⟩ ∧ ∀ (j : Nat) x,xs[j]? = some x → wr.cell? ⟨b,off + j * 2,none⟩ = some (.string x.1) ∧ wr.cell? ⟨b,off + j * 2 + 1,none⟩ = some (.string x.2):=by
    exact dL
   have hcj:=hcell j x hx;have hbl:=block_lt_of_cell hcj.1;clear hcell;obtain ⟨v0,v1⟩:=hcj;have BN:=hid (aj wr (bD x.1 x.2))
   by_cases hjk : j < k
   ·skip
    have HC1:=hid (HE.out j x hx hjk ys (wr.alloc (bD x.1 x.2)) g3 cap3 aa ac hyl HY.out (HST.out.trans (Stp.of_below BN.out)) (HWR.out.later BN.out) (aJ HRW.out (fun B hB => BN.out.block B (aF HRW.out hB))) HAB.out)
    exact KO
   ·obtain rfl : j = k:=ae;obtain rfl : x = xk:=lj
    have HC1:=hid (HN.out ys (wr.alloc (bD x.1 x.2)) g3 cap3 aa ac hyl HY.out (HST.out.trans (Stp.of_below BN.out)) (HWR.out.later BN.out) (aJ HRW.out (fun B hB => BN.out.block B (aF HRW.out hB))) HAB.out)
    exact mS
theorem rZ (R g cap : Nat) (bs : List Int) (ha : Option Addr) (n hc : Nat) (most : Int) (f : Value) (w : World) (h : Wr w R g cap bs) (hm : most < (n : Int)) :
  Calls Tryz.prog 88 #[cW R,.slice ha n hc,.int .i64 most,f] w (aU R g 20 w):=by
 have hmc:=br;have hcc:=bR;have HC:=hid (dS R g cap bs n most w h hm);clear h
 go_enter Tryz.func88,Tryz.ntmps88
 exact jk
end Go.Proofs.YtkdldbfbldkkcaaGreatDoor

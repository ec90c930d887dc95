/-
  Texts Ve Vf Vg Ls.
-/
import Derived.Test.YtepnnenohjfkbaaGreatDoorP04
set_option linter.unusedVariables false
set_option maxRecDepth 100000
set_option maxHeartbeats 16000000
namespace Go.Proofs.YtepnnenohjfkbaaGreatDoor
open Go.RowKit
section
variable {v : Ev} {w1 w : World} {s : Cs}
theorem nN {C OB k oc n : Nat} (h14 : w.cell? ⟨C,14,none⟩ = some (.slice (some ⟨OB,0,none⟩) (k + 1) oc)) (hk : k < 64) (hn : n ≤ k) :
  Calls Tryz.prog 170 #[.pointer (some ⟨C,0,none⟩),.int .i64 n] w fun e w' => e = .returned (.pointer (some ⟨OB,(k - n) * 5,none⟩)) ∧ Below w.heap.size w w':=by
 have g0 : (0 : Int) ≤ (n : Int):=by omega
 go_enter Tryz.func170,Tryz.ntmps170
 go_wp2_with fail;refine (cF _ _ _).mono ?_
 rintro e w3 (⟨hb,rfl,rfl⟩ | ⟨hb,rfl,rfl⟩)
 ·clear hb;go_wp2_with fail
  go_quiet (fail)
  go_wp2_with fail;go_ret;refine ⟨?_,below_drewN _ _⟩
  congr 5
 ·exact absurd hb (by simp; omega)
theorem pB {C OB k oc : Nat} {n : Int} (h14 : w.cell? ⟨C,14,none⟩ = some (.slice (some ⟨OB,0,none⟩) (k + 1) oc)) (hk : k < 64) (hn : n < 0 ∨ (k : Int) < n) :
  Calls Tryz.prog 170 #[.pointer (some ⟨C,0,none⟩),.int .i64 n] w fun e w' => e = thv 31 ∧ Below w.heap.size w w':=by
 by_cases g0 : 0 ≤ n
 ·go_enter Tryz.func170,Tryz.ntmps170
  go_wp2_with fail;refine (cF _ _ _).mono ?_
  rintro e w3 (⟨hb,rfl,rfl⟩ | ⟨hb,rfl,rfl⟩)
  ·exact absurd hb (by simp; omega)
  ·exact ⟨rfl,rfl,Below.refl _ _⟩
 ·have g1 : n < 0:=by omega
  go_enter Tryz.func170,Tryz.ntmps170
  go_wp2_with fail;refine (cF _ _ _).mono ?_
  rintro e w3 (⟨hb,rfl,rfl⟩ | ⟨hb,rfl,rfl⟩)
  ·exact absurd hb (by simp)
  ·exact ⟨rfl,rfl,Below.refl _ _⟩
def brg (o : Opn) : ByteArray:=if o.op = 3 then o.P else o.R
theorem uB {b i : Nat} (P R : ByteArray) (op : Int) (h0 : w.cell? ⟨b,i,none⟩ = some (.string P)) (h1 : w.cell? ⟨b,i + 1,none⟩ = some (.string R)) (h3 : w.cell? ⟨b,i + 3,none⟩ = some (.int .u8 op)) :
  Calls Tryz.prog 171 #[.pointer (some ⟨b,i,none⟩)] w fun e w' => e = .returned (.string (if op = 3 then P else R)) ∧ w' = w:=by
 by_cases g : op = 3
 ·subst g;rw [if_pos rfl]
  go_enter Tryz.func171,Tryz.ntmps171
  go_wp2_with fail;go_ret;exact ⟨rfl,rfl⟩
 ·rw [if_neg g]
  go_enter Tryz.func171,Tryz.ntmps171
  go_wp2_with fail;go_ret;exact ⟨rfl,rfl⟩
def bB (s : Cs) (n : Int) : Int:=if 0 ≤ n ∧ n < s.op.length then 0 else 31
def bm (s : Cs) (n : Int) : Opn:=s.op.getD (s.op.length - 1 - n.toNat) ⟨⟨#[]⟩,⟨#[]⟩,⟨#[]⟩,0,0⟩
theorem tw {s : Cs} {k j : Nat} {o : Opn} (hk : s.op.length = k + 1) (hj : j ≤ k) (ho : s.op[k - j]? = some o) : bm s (j : Int) = o:=by
 unfold bm;rw [hk]
 simp only [Int.toNat_natCast,Nat.add_sub_cancel]
 rw [List.getD_eq_getElem?_getD,ho];rfl
def ed (s : Cs) (l : List Int) : Int :=
 if (l.all fun n => bB s n == 0) = true then (if (l.all fun n => (brg (bm s n)).toList == (brg (bm s (l.getD 0 0))).toList) = true then 0 else 32) else 31
theorem pa {s : Cs} {k : Nat} {z : Int} (hk : s.op.length = k + 1) (h : bB s z = 0) : ∃ q : Nat,z = (q : Int) ∧ q ≤ k:=by
 unfold bB at h
 split at h
 ·rename_i g
  exact ⟨z.toNat,by omega,by omega⟩
 ·cases h
theorem mQ {s : Cs} {k : Nat} {z : Int} (hk : s.op.length = k + 1) (h : bB s z ≠ 0) : bB s z = 31 ∧ (z < 0 ∨ (k : Int) < z):=by
 unfold bB at h ⊢
 split at h
 ·exact absurd rfl h
 ·rename_i g
  exact ⟨if_neg g,by omega⟩
theorem qS {l : List Int} {p : Int → Bool} (h : ∀ j,j < l.length → p (l.getD j 0) = true) : l.all p = true:=by
 rw [List.all_eq_true];intro x hx;obtain ⟨j,hj,rfl⟩:=List.getElem_of_mem hx
 have:=h j hj
 rwa [List.getD_eq_getElem?_getD,List.getElem?_eq_getElem hj] at this
theorem sN {l : List Int} {p : Int → Bool} {j : Nat} (hj : j < l.length) (h : p (l.getD j 0) = false) : l.all p = false:=by
 rw [List.all_eq_false];refine ⟨l[j],List.getElem_mem hj,?_⟩;rw [List.getD_eq_getElem?_getD,List.getElem?_eq_getElem hj] at h
 simpa using h
theorem fX (h : CI v w1 w s) {k : Nat} {o : Opn} (hw : CW s k o) (z : Int) (he : bB s z = 0) :
  Calls Tryz.prog 170 #[.pointer (some ⟨v.C,0,none⟩),.int .i64 z] w fun e w' => ∃ b i,e = .returned (.pointer (some ⟨b,i,none⟩)) ∧ Below w.heap.size w w' ∧
   w'.cell? ⟨b,i,none⟩ = some (.string (bm s z).P) ∧ w'.cell? ⟨b,i + 1,none⟩ = some (.string (bm s z).R) ∧ w'.cell? ⟨b,i + 3,none⟩ = some (.int .u8 (bm s z).op):=by
 obtain ⟨q,rfl,hq⟩:=pa hw.len he;obtain ⟨OB,oc,h1,h2,h3⟩:=h.opn
 have hlt : k - q < s.op.length:=by have:=hw.len; omega
 obtain ⟨p,hp⟩ : ∃ p,s.op[k - q]? = some p:=⟨_,List.getElem?_eq_getElem hlt⟩;obtain ⟨x0,x1,x2,x3,x4⟩:=h3 _ p hp;rw [hw.len] at h1;rw [tw hw.len hq hp];refine (nN h1 hw.le hq).mono ?_;rintro e w' ⟨rfl,hb⟩;exact ⟨_,_,rfl,hb,ae hb x0,ae hb x1,ae hb x3⟩
theorem eZ (hA : EvA v w1) (h : CI v w1 w s) {k : Nat} {o : Opn} (hw : CW s k o) (z : Int) (he : bB s z ≠ 0) :
  Calls Tryz.prog 170 #[.pointer (some ⟨v.C,0,none⟩),.int .i64 z] w fun e w' => e = thv 31 ∧ Below w.heap.size w w':=by
 obtain ⟨OB,oc,h1,h2,h3⟩:=h.opn;rw [hw.len] at h1;refine (pB h1 hw.le (mQ hw.len he).2).mono ?_;rintro e w' ⟨rfl,hb⟩;exact ⟨rfl,hb⟩
theorem eI {b i : Nat} {o : Opn} (h0 : w.cell? ⟨b,i,none⟩ = some (.string o.P)) (h1 : w.cell? ⟨b,i + 1,none⟩ = some (.string o.R)) (h3 : w.cell? ⟨b,i + 3,none⟩ = some (.int .u8 o.op)) :
  Calls Tryz.prog 171 #[.pointer (some ⟨b,i,none⟩)] w fun e w' => e = .returned (.string (brg o)) ∧ w' = w:=uB _ _ _ h0 h1 h3
theorem uu (hA : EvA v w1) (h : CI v w1 w s) {k : Nat} {o : Opn} (hw : CW s k o) (a : Option Addr) (n cap : Nat) (l : List Int) (hl : iq w1 a n cap l) (hn : 0 < n) (hS : ∀ b off,a = some ⟨b,off,none⟩ → n ≠ 0 → ¬ v.S b) :
  Calls Tryz.prog 174 #[.pointer (some ⟨v.C,0,none⟩),.slice a n cap] w (Rdz w (ed s l) (.string (brg (bm s (l.getD 0 0))))):=by
 have hlen:=hl.1;have hcap:=hl.2.1;have hbig:=hl.2.2.1
 obtain ⟨ab,off,rfl,hc0⟩ : ∃ b off,a = some ⟨b,off,none⟩ ∧ ∀ W,CI v w1 W s → ∀ j,j < n → W.cell? ⟨b,off + j,none⟩ = some (.int .i64 (l.getD j 0)):=by
  rcases hl.2.2.2.2 with h0 | ⟨b,off,rfl,hc⟩
  ·omega
  ·exact ⟨b,off,rfl,fun W hW j hj => hW.kept.cell (hc j hj) (hS b off rfl (by omega))⟩
 have HCL:=hid hc0;have HC:=hid h
 have HE:=hid (show ∀ j,j < n → bB s (l.getD j 0) ≠ 0 → ed s l = 31 from fun j hj hx => by
  have hx' : (bB s (l.getD j 0) == 0) = false:=by simpa using hx
  have:=sN (p:=fun n => bB s n == 0) (by omega : j < l.length) hx'
  unfold ed; rw [this]; simp)
 have HF:=hid (show (∀ j,j < n → bB s (l.getD j 0) = 0) → ∀ j,j < n → ((brg (bm s (l.getD j 0))).toList == (brg (bm s (l.getD 0 0))).toList) = false → ed s l = 32 from fun hy j hj hx => by
  have h1:=qS (l:=l) (p:=fun n => bB s n == 0) (fun j hj => by have:=hy j (by omega); simpa using this)
  have h2:=sN (p:=fun n => (brg (bm s n)).toList == (brg (bm s (l.getD 0 0))).toList) (by omega : j < l.length) hx
  unfold ed; rw [h1,h2]; simp)
 have HG:=hid (show (∀ j,j < n → bB s (l.getD j 0) = 0) → (∀ j,j < n → ((brg (bm s (l.getD j 0))).toList == (brg (bm s (l.getD 0 0))).toList) = true) → ed s l = 0 from fun hy hz => by
  have h1:=qS (l:=l) (p:=fun n => bB s n == 0) (fun j hj => by have:=hy j (by omega); simpa using this)
  have h2:=qS (l:=l) (p:=fun n => (brg (bm s n)).toList == (brg (bm s (l.getD 0 0))).toList) (fun j hj => hz j (by omega))
  unfold ed; rw [h1,h2]; simp)
 generalize ed s l = E at *;obtain ⟨z0,hz0⟩ : ∃ z,l.getD 0 0 = z:=⟨_,rfl⟩;have HZ0:=hid hz0;rw [hz0] at HG HF ⊢;clear h hc0 hl hS hz0
 go_enter Tryz.func174,Tryz.ntmps174
 go_wp2_with fail
 go_loopw [12] (fun i wr => ∃ j : Nat,j ≤ n ∧ i = .int .i64 j ∧ (∀ m,m < j → bB s (l.getD m 0) = 0) ∧ Below w.heap.size w wr) (fun i _ => n - (intOf i).toNat)
 case atStart => exact ⟨0,by omega,rfl,fun m hm => by omega,Below.refl _ _⟩
 case round =>
  obtain ⟨j,hj,rfl,hall,hc⟩:=hrel;have HA1:=hid hall;have HB1:=hid hc;have HC1:=hid (HC.out.later hA hc);clear hall hc
  by_cases hlt : j < n
  ·have hx:=HCL.out wr HC1.out j hlt
   have hlt' : (j : Int) < n:=by omega
   have HEJ:=hid (HE.out j hlt);obtain ⟨z,hz⟩ : ∃ z,l.getD j 0 = z:=⟨_,rfl⟩;have HZ:=hid hz;rw [hz] at hx HEJ;clear hz
   by_cases he : bB s z = 0
   ·have HL:=hid (fX HC1.out hw _ he);go_wp2_with fail;refine HL.out.mono ?_;rintro e w2 ⟨b,i,rfl,hb,y0,y1,y3⟩;have HB2:=hid (HB1.out.trans (hb.mono HB1.out.size));clear hb y0 y1 y3;go_wp2_with fail
    go_roundw
    case rel => exact ⟨j + 1,by omega,by simp,fun m hm => by
     rcases Nat.lt_or_ge m j with g | g
     ·exact HA1.out m g
     ·obtain rfl : m = j:=by omega
      rw [HZ.out]; exact he,HB2.out⟩
    case measure => simp [intOf]; omega
   ·have HL:=hid (eZ hA HC1.out hw _ he);have hE:=HEJ.out he;subst hE;go_wp2_with fail;refine HL.out.mono ?_;rintro e w2 ⟨rfl,hb⟩
    exact ⟨rfl,.inr ⟨by decide,rfl,HB1.out.trans (hb.mono HB1.out.size)⟩⟩
  ·obtain rfl : j = n:=by omega
   have hge : ¬ (j : Int) < j:=by omega
   have hx:=HCL.out wr HC1.out 0 hn
   simp only [Nat.add_zero] at hx
   have he:=HA1.out 0 hn;have HG1:=hid (HG.out HA1.out);have HF1:=hid (HF.out HA1.out);rw [HZ0.out] at hx he;have HL:=hid (fX HC1.out hw _ he);clear HE HF HG HZ0;go_wp2_with fail;refine HL.out.mono ?_;rintro e w2 ⟨b,i,rfl,hb,y0,y1,y3⟩;have HB2:=hid (HB1.out.trans (hb.mono HB1.out.size));clear hb;go_wp2_with fail;refine (eI y0 y1 y3).mono ?_;rintro e w3 ⟨rfl,hw3⟩;obtain rfl:=hw3.symm;obtain ⟨L,hL⟩ : ∃ L,brg (bm s z0) = L:=⟨_,rfl⟩;rw [hL] at HG1 HF1 ⊢;clear y0 y1 y3 HL hx HC1 HB1;go_wp2_with fail;generalize w2 = wz at *
   go_loopw [28] (fun i wr => ∃ m : Nat,m ≤ j ∧ i = .int .i64 m ∧ (∀ q,q < m → ((brg (bm s (l.getD q 0))).toList == L.toList) = true) ∧ Below w.heap.size w wr) (fun i _ => j - (intOf i).toNat)
   case atStart => exact ⟨0,by omega,rfl,fun m hm => by omega,HB2.out⟩
   case round =>
    obtain ⟨m,hm,rfl,hall,hc⟩:=hrel;have HA2:=hid hall;have HB3:=hid hc;have HC3:=hid (HC.out.later hA hc);clear hall hc
    by_cases hlt : m < j
    ·have hx:=HCL.out _ HC3.out m hlt
     have hlt' : (m : Int) < j:=by omega
     have he:=HA1.out m hlt;have HFM:=hid (HF1.out m hlt);obtain ⟨z,hz⟩ : ∃ z,l.getD m 0 = z:=⟨_,rfl⟩;have HZ:=hid hz;rw [hz] at hx he HFM;clear hz;have HL:=hid (fX HC3.out hw _ he);go_wp2_with fail;refine HL.out.mono ?_;rintro e w4 ⟨b,i,rfl,hb,y0,y1,y3⟩;have HB4:=hid (HB3.out.trans (hb.mono HB3.out.size));clear hb;go_wp2_with fail;refine (eI y0 y1 y3).mono ?_;rintro e w5 ⟨rfl,hw5⟩;obtain rfl:=hw5.symm;clear y0 y1 y3 HL hx;go_wp2_with fail;refine (cF _ _ _).mono ?_
     rintro e w6 (⟨hb,rfl,rfl⟩ | ⟨hb,rfl,rfl⟩)
     ·have HB:=hid hb;clear hb;go_wp2_with fail
      go_roundw
      case rel => exact ⟨m + 1,by omega,by simp,fun q hq => by
       rcases Nat.lt_or_ge q m with g | g
       ·exact HA2.out q g
       ·obtain rfl : q = m:=by omega
        rw [HZ.out]; exact HB.out,HB4.out⟩
      case measure => simp [intOf]; omega
     ·have hE:=HFM.out hb;subst hE
      exact ⟨rfl,.inr ⟨by decide,rfl,HB4.out⟩⟩
    ·obtain rfl : m = j:=by omega
     have hE:=HG1.out HA2.out;subst hE;go_wp2_with fail;go_ret;exact .inl ⟨rfl,rfl,HB3.out⟩
end
theorem aN {B : Nat} {w W : World} {g i : Nat} {u : Value} (h : Below B w W) (hB : B ≤ g) (hs : B ≤ W.heap.size) : Below B w (W.setCell ⟨g,i,none⟩ u) :=
 h.trans ((al W g i u).to_below hs (fun k hk e => by omega))
section
variable {v : Ev} {w1 w : World} {s : Cs}
theorem pI {b off n cap q : Nat} {P R : ByteArray} (hq : q < n) (hn : n ≤ 1099511627776) (h0 : w.cell? ⟨b,off + q * 2,none⟩ = some (.string P)) (h1 : w.cell? ⟨b,off + q * 2 + 1,none⟩ = some (.string R)) :
  Calls Tryz.prog 229 #[.slice (some ⟨b,off,none⟩) n cap,.int .i64 q] w fun e w' => e = .returned (.agg #[.string P,.string R]) ∧ Below w.heap.size w w':=by
 have g0 : (0 : Int) ≤ (q : Int):=by omega
 have g1 : (q : Int) < (n : Int):=by omega
 have BN:=ag w (.cells #[.string ⟨#[]⟩,.string ⟨#[]⟩] 62);have z0:=ae BN h0;have z1:=ae BN h1;have BW:=hid BN;clear BN h0 h1
 go_enter Tryz.func229,Tryz.ntmps229
 go_wp2_with fail;refine (bL _ _).mono ?_;rintro e w3 ⟨rfl,hw3⟩;obtain rfl:=hw3.symm;go_wp2_with fail;refine bodyPost_ret (v:=.agg #[.string P,.string R]) ?_ rfl ⟨rfl,?_⟩
 ·rw [ay rfl];go_simp
 ·exact ag _ _
theorem rI {a : Option Addr} {n cap : Nat} {z : Int} (hz : z < 0 ∨ (n : Int) ≤ z) (hn : n ≤ 1099511627776) :
  Calls Tryz.prog 229 #[.slice a n cap,.int .i64 z] w fun e w' => e = thv 30 ∧ Below w.heap.size w w':=by
 by_cases g0 : 0 ≤ z
 ·go_enter Tryz.func229,Tryz.ntmps229
  go_wp2_with fail;refine (cF _ _ _).mono ?_
  rintro e w3 (⟨hb,rfl,rfl⟩ | ⟨hb,rfl,rfl⟩)
  ·exact absurd hb (by simp; omega)
  ·exact ⟨rfl,rfl,ag _ _⟩
 ·have g1 : z < 0:=by omega
  go_enter Tryz.func229,Tryz.ntmps229
  go_wp2_with fail;refine (cF _ _ _).mono ?_
  rintro e w3 (⟨hb,rfl,rfl⟩ | ⟨hb,rfl,rfl⟩)
  ·exact absurd hb (by simp)
  ·exact ⟨rfl,rfl,ag _ _⟩
theorem pq {b off n cap q : Nat} {ty : Int} {lo : ByteArray} {ca : Option Addr} {cn cc : Nat} (hq : q < n) (hn : n ≤ 1099511627776) (h0 : w.cell? ⟨b,off + q * 3,none⟩ = some (.int .i64 ty)) (h1 : w.cell? ⟨b,off + q * 3 + 1,none⟩ = some (.string lo)) (h2 : w.cell? ⟨b,off + q * 3 + 2,none⟩ = some (.slice ca cn cc)) :
  Calls Tryz.prog 236 #[.slice (some ⟨b,off,none⟩) n cap,.int .i64 q] w fun e w' => e = .returned (.agg #[.int .i64 ty,.string lo,.slice ca cn cc]) ∧ Below w.heap.size w w':=by
 have g0 : (0 : Int) ≤ (q : Int):=by omega
 have g1 : (q : Int) < (n : Int):=by omega
 have BN:=ag w (.cells #[.int .i64 0,.string ⟨#[]⟩,.slice none 0 0] 42);have z0:=ae BN h0;have z1:=ae BN h1;have z2:=ae BN h2;have BW:=hid BN;clear BN h0 h1 h2
 go_enter Tryz.func236,Tryz.ntmps236
 go_wp2_with fail;refine (bL _ _).mono ?_;rintro e w3 ⟨rfl,hw3⟩;obtain rfl:=hw3.symm;go_wp2_with fail;refine bodyPost_ret (v:=.agg #[.int .i64 ty,.string lo,.slice ca cn cc]) ?_ rfl ⟨rfl,?_⟩
 ·rw [ay rfl];go_simp
 ·exact ag _ _
theorem se {a : Option Addr} {n cap : Nat} {z : Int} (hz : z < 0 ∨ (n : Int) ≤ z) (hn : n ≤ 1099511627776) :
  Calls Tryz.prog 236 #[.slice a n cap,.int .i64 z] w fun e w' => e = thv 30 ∧ Below w.heap.size w w':=by
 by_cases g0 : 0 ≤ z
 ·go_enter Tryz.func236,Tryz.ntmps236
  go_wp2_with fail;refine (cF _ _ _).mono ?_
  rintro e w3 (⟨hb,rfl,rfl⟩ | ⟨hb,rfl,rfl⟩)
  ·exact absurd hb (by simp; omega)
  ·exact ⟨rfl,rfl,ag _ _⟩
 ·have g1 : z < 0:=by omega
  go_enter Tryz.func236,Tryz.ntmps236
  go_wp2_with fail;refine (cF _ _ _).mono ?_
  rintro e w3 (⟨hb,rfl,rfl⟩ | ⟨hb,rfl,rfl⟩)
  ·exact absurd hb (by simp)
  ·exact ⟨rfl,rfl,ag _ _⟩
theorem oQ {b off n cap q : Nat} {x : Int} (hq : q < n) (hn : n ≤ 1099511627776) (h0 : w.cell? ⟨b,off + q,none⟩ = some (.int .i64 x)) :
  Calls Tryz.prog 237 #[.slice (some ⟨b,off,none⟩) n cap,.int .i64 q] w fun e w' => e = .returned (.int .i64 x) ∧ Below w.heap.size w w':=by
 have g0 : (0 : Int) ≤ (q : Int):=by omega
 have g1 : (q : Int) < (n : Int):=by omega
 go_enter Tryz.func237,Tryz.ntmps237
 go_wp2_with fail;refine (bL _ _).mono ?_;rintro e w3 ⟨rfl,hw3⟩;obtain rfl:=hw3.symm;go_wp2_with fail;go_ret;exact ⟨rfl,Below.refl _ _⟩
theorem qB {a : Option Addr} {n cap : Nat} {z : Int} (hz : z < 0 ∨ (n : Int) ≤ z) (hn : n ≤ 1099511627776) :
  Calls Tryz.prog 237 #[.slice a n cap,.int .i64 z] w fun e w' => e = thv 30 ∧ w' = w:=by
 by_cases g0 : 0 ≤ z
 ·go_enter Tryz.func237,Tryz.ntmps237
  go_wp2_with fail;refine (cF _ _ _).mono ?_
  rintro e w3 (⟨hb,rfl,rfl⟩ | ⟨hb,rfl,rfl⟩)
  ·exact absurd hb (by simp; omega)
  ·exact ⟨rfl,rfl,rfl⟩
 ·have g1 : z < 0:=by omega
  go_enter Tryz.func237,Tryz.ntmps237
  go_wp2_with fail;refine (cF _ _ _).mono ?_
  rintro e w3 (⟨hb,rfl,rfl⟩ | ⟨hb,rfl,rfl⟩)
  ·exact absurd hb (by simp)
  ·exact ⟨rfl,rfl,rfl⟩
theorem fW {b off n cap q : Nat} {x : Int} (hq : q < n) (hn : n ≤ 1099511627776) (h0 : w.cell? ⟨b,off + q,none⟩ = some (.int .u8 x)) :
  Calls Tryz.prog 240 #[.slice (some ⟨b,off,none⟩) n cap,.int .i64 q] w fun e w' => e = .returned (.int .u8 x) ∧ Below w.heap.size w w':=by
 have g0 : (0 : Int) ≤ (q : Int):=by omega
 have g1 : (q : Int) < (n : Int):=by omega
 go_enter Tryz.func240,Tryz.ntmps240
 go_wp2_with fail;refine (bL _ _).mono ?_;rintro e w3 ⟨rfl,hw3⟩;obtain rfl:=hw3.symm;go_wp2_with fail;go_ret;exact ⟨rfl,Below.refl _ _⟩
theorem gZ {a : Option Addr} {n cap : Nat} {z : Int} (hz : z < 0 ∨ (n : Int) ≤ z) (hn : n ≤ 1099511627776) :
  Calls Tryz.prog 240 #[.slice a n cap,.int .i64 z] w fun e w' => e = thv 30 ∧ w' = w:=by
 by_cases g0 : 0 ≤ z
 ·go_enter Tryz.func240,Tryz.ntmps240
  go_wp2_with fail;refine (cF _ _ _).mono ?_
  rintro e w3 (⟨hb,rfl,rfl⟩ | ⟨hb,rfl,rfl⟩)
  ·exact absurd hb (by simp; omega)
  ·exact ⟨rfl,rfl,rfl⟩
 ·have g1 : z < 0:=by omega
  go_enter Tryz.func240,Tryz.ntmps240
  go_wp2_with fail;refine (cF _ _ _).mono ?_
  rintro e w3 (⟨hb,rfl,rfl⟩ | ⟨hb,rfl,rfl⟩)
  ·exact absurd hb (by simp)
  ·exact ⟨rfl,rfl,rfl⟩
theorem jt {b off n cap q : Nat} {c : Int} {mu : Bool} {x : Int} (hq : q < n) (hn : n ≤ 1099511627776) (h0 : w.cell? ⟨b,off + q * 3,none⟩ = some (.int .u8 c)) (h1 : w.cell? ⟨b,off + q * 3 + 1,none⟩ = some (.bool mu)) (h2 : w.cell? ⟨b,off + q * 3 + 2,none⟩ = some (.int .u64 x)) :
  Calls Tryz.prog 241 #[.slice (some ⟨b,off,none⟩) n cap,.int .i64 q] w fun e w' => e = .returned (.agg #[.int .u8 c,.bool mu,.int .u64 x]) ∧ Below w.heap.size w w':=by
 have g0 : (0 : Int) ≤ (q : Int):=by omega
 have g1 : (q : Int) < (n : Int):=by omega
 have BN:=ag w (.cells #[.int .u8 0,.bool false,.int .u64 0] 141);have z0:=ae BN h0;have z1:=ae BN h1;have z2:=ae BN h2;have BW:=hid BN;clear BN h0 h1 h2
 go_enter Tryz.func241,Tryz.ntmps241
 go_wp2_with fail;refine (bL _ _).mono ?_;rintro e w3 ⟨rfl,hw3⟩;obtain rfl:=hw3.symm;go_wp2_with fail;refine bodyPost_ret (v:=.agg #[.int .u8 c,.bool mu,.int .u64 x]) ?_ rfl ⟨rfl,?_⟩
 ·rw [ay rfl];go_simp
 ·exact ag _ _
theorem kH {a : Option Addr} {n cap : Nat} {z : Int} (hz : z < 0 ∨ (n : Int) ≤ z) (hn : n ≤ 1099511627776) :
  Calls Tryz.prog 241 #[.slice a n cap,.int .i64 z] w fun e w' => e = thv 30 ∧ Below w.heap.size w w':=by
 by_cases g0 : 0 ≤ z
 ·go_enter Tryz.func241,Tryz.ntmps241
  go_wp2_with fail;refine (cF _ _ _).mono ?_
  rintro e w3 (⟨hb,rfl,rfl⟩ | ⟨hb,rfl,rfl⟩)
  ·exact absurd hb (by simp; omega)
  ·exact ⟨rfl,rfl,ag _ _⟩
 ·have g1 : z < 0:=by omega
  go_enter Tryz.func241,Tryz.ntmps241
  go_wp2_with fail;refine (cF _ _ _).mono ?_
  rintro e w3 (⟨hb,rfl,rfl⟩ | ⟨hb,rfl,rfl⟩)
  ·exact absurd hb (by simp)
  ·exact ⟨rfl,rfl,ag _ _⟩
theorem sX (P R B : ByteArray) (hs : B.size + R.size ≤ 1073741824) : Calls Tryz.prog 231 #[.agg #[.string P,.string R],.string B] w fun e w' => e = .returned (.string (B ++ R)) ∧ Below w.heap.size w w':=by
 go_enter Tryz.func231,Tryz.ntmps231
 go_wp2_with fail;go_ret;exact ⟨rfl,ag _ _⟩
theorem qZ (P R B : ByteArray) (hs : B.size + P.size ≤ 1073741824) : Calls Tryz.prog 232 #[.agg #[.string P,.string R],.string B] w fun e w' => e = .returned (.string (B ++ P)) ∧ Below w.heap.size w w':=by
 go_enter Tryz.func232,Tryz.ntmps232
 go_wp2_with fail;go_ret;exact ⟨rfl,ag _ _⟩
theorem yn (P R : ByteArray) : Calls Tryz.prog 233 #[.agg #[.string P,.string R]] w fun e w' => e = .returned (.bool (P.toList == R.toList)) ∧ Below w.heap.size w w':=by
 go_enter Tryz.func233,Tryz.ntmps233
 go_wp2_with fail;go_ret;exact ⟨rfl,ag _ _⟩
end
section
variable {v : Ev} {w1 w : World} {s : Cs}
def d7 (s : Cs) (o : Opn) (j : Nat) : Int:=if j < (s.st.extract o.B.size s.st.size).size then 0 else 33
def cm (s : Cs) (o : Opn) (j : Nat) : ByteArray:=(s.st.extract o.B.size s.st.size).extract ((s.st.extract o.B.size s.st.size).size - 1 - j) ((s.st.extract o.B.size s.st.size).size - 1 - j + 1)
theorem mf (hA : EvA v w1) (h : CI v w1 w s) {k : Nat} {o : Opn} (hw : CW s k o) (j : Nat) (hj : j ≤ 1) : Calls Tryz.prog 238 #[.pointer (some ⟨v.C,0,none⟩),.int .i64 j] w (Rdz w (d7 s o j) (.string (cm s o j))):=by
 have H1:=hid (pS h hw)
 have hz : (s.st.extract o.B.size s.st.size).size ≤ 1000000:=by
  have:=hw.big
  simp; omega
 have HC:=hid h
 have hT : j < (s.st.extract o.B.size s.st.size).size → d7 s o j = 0:=fun h => by simp only [d7,h,if_true]
 have hF : ¬ j < (s.st.extract o.B.size s.st.size).size → d7 s o j = 33:=fun h => by simp only [d7,h,if_false]
 have HV:=hid (show cm s o j = (s.st.extract o.B.size s.st.size).extract ((s.st.extract o.B.size s.st.size).size - 1 - j) ((s.st.extract o.B.size s.st.size).size - 1 - j + 1) from rfl);clear h;generalize d7 s o j = E at *;generalize cm s o j = V at *;generalize s.st.extract o.B.size s.st.size = a at *
 by_cases hlt : j < a.size
 ·have hE:=hT hlt;subst hE
  obtain ⟨d,hd⟩ : ∃ d,a.size = d + 1 + j:=⟨a.size - 1 - j,by omega⟩
  have hd' : a.size - 1 - j = d:=by omega
  rw [hd'] at HV
  have g1 : (d : Int) + 1 ≤ (a.size : Int):=by omega
  have a1 : (a.size : Int) - 1 - (j : Int) = (d : Int):=by omega
  clear hT hF
  go_enter Tryz.func238,Tryz.ntmps238
  go_wp2_with fail;refine H1.out.mono ?_;rintro e w2 ⟨rfl,hb⟩;have HC2:=hid hb;clear hb;go_wp2_with fail;refine (cF _ _ _).mono ?_
  rintro e w3 (⟨hb,rfl,rfl⟩ | ⟨hb,rfl,rfl⟩)
  ·clear hb;go_wp2_with fail;go_ret;refine .inl ⟨rfl,?_,HC2.out⟩
   have e1 : d + 1 + j - 1 - j = d:=by omega
   rw [HV.out]
   show Ending.returned (Value.string (a.extract (d + 1 + j - 1 - j) (d + 1 + j - 1 - j + 1))) = _
   rw [e1]
  ·exact absurd hb (by simp; omega)
 ·have hE:=hF hlt;subst hE;clear hT hF
  go_enter Tryz.func238,Tryz.ntmps238
  go_wp2_with fail;refine H1.out.mono ?_;rintro e w2 ⟨rfl,hb⟩;have HC2:=hid hb;clear hb;go_wp2_with fail;refine (cF _ _ _).mono ?_
  rintro e w3 (⟨hb,rfl,rfl⟩ | ⟨hb,rfl,rfl⟩)
  ·exfalso
   simp at hb; omega
  ·exact ⟨rfl,.inr ⟨by decide,rfl,HC2.out⟩⟩
def ltr (c : Int) : ByteArray:=if c = 119 then ⟨#[119]⟩ else ⟨#[108]⟩
def eh (op : Int) (y : ByteArray) : ByteArray:=if op = 18 ∨ op = 21 then ⟨#[]⟩ else y
def dY (op : Int) (y : ByteArray) : ByteArray:=if op = 18 ∨ op = 21 ∨ op = 20 then y else ⟨#[]⟩
theorem tJ : Utf8.encode 119 = ⟨#[119]⟩:=by decide
theorem tm : Utf8.encode 108 = ⟨#[108]⟩:=by decide
theorem eK (op c : Int) (hc : c = 119 ∨ c = 108) (hop : op = 18 ∨ op = 19 ∨ op = 20 ∨ op = 21 ∨ op = 22) : Calls Tryz.prog 239 #[.int .u8 op,.int .u8 c] w fun e w' => e = .returned (.agg #[.string (eh op (ltr c)),.string (dY op (ltr c))]) ∧ Below w.heap.size w w':=by
 obtain ⟨P,hP⟩ : ∃ P,eh op (ltr c) = P:=⟨_,rfl⟩;obtain ⟨R,hR⟩ : ∃ R,dY op (ltr c) = R:=⟨_,rfl⟩;rw [hP,hR];have HP:=hid hP.symm;have HR:=hid hR.symm;clear hP hR
 rcases hc with rfl | rfl <;> rcases hop with rfl | rfl | rfl | rfl | rfl
 all_goals
  go_enter Tryz.func239,Tryz.ntmps239
  go_wp2_with fail;refine bodyPost_ret (v:=.agg #[.string P,.string R]) ?_ rfl ⟨rfl,?_⟩
  ·rw [ay rfl];go_simp;rw [HP.out,HR.out]
   simp [tJ,tm,eh,dY,ltr]
  ·exact (ag _ _)
end
theorem ak {w : World} {base : Nat} {e : TypeId} {size : Nat} {v : Value} {n : Nat} {xs : List Value} {B : Nat} (h : w.ownsRow base e size v n xs) (hB : v.ownBlock = some B) : B < w.heap.size:=by
 rcases h.2 with ⟨rfl,_⟩ | ⟨g,cp,cur,rfl,h2,h3,h4⟩
 ·simp [Value.ownBlock] at hB
 ·obtain rfl : g = B:=by simpa [Value.ownBlock] using hB
  rcases Nat.lt_or_ge g w.heap.size with hl | hl
  ·exact hl
  ·rw [Array.getElem?_eq_none hl] at h3; cases h3
theorem bK {aa : Option Addr} {j ac B : Nat} (h : (Value.slice aa j ac).ownBlock = some B) : ∃ a,aa = some a ∧ a.block = B:=by
 cases aa with
 | none => simp [Value.ownBlock] at h
 | some a => exact ⟨a,rfl,by simpa [Value.ownBlock] using h⟩
theorem bk {w : World} {base : Nat} {e : TypeId} {size : Nat} {aa : Option Addr} {j ac n : Nat} {xs : List Value} {a : Addr} (h : w.ownsRow base e size (.slice aa j ac) n xs) (ha : aa = some a) : (Value.slice aa j ac).ownBlock = some a.block:=by
 subst ha; simp [Value.ownBlock]
theorem bo {α : Type} (enc : α → List Int) {xs : List α} {j : Nat} {x : α} (hx : xs[j]? = some x) : (xs.take (j + 1)).flatMap enc = (xs.take j).flatMap enc ++ enc x:=by
 have hj:=au hx;rw [List.take_succ_eq_append_getElem hj];rw [List.getElem?_eq_getElem hj] at hx
 simp at hx
 simp [hx]
theorem bR {α : Type} (enc : α → List Int) (M : Nat) : ∀ (xs : List α),(∀ (j : Nat) x,xs[j]? = some x → (enc x).length ≤ M) → (xs.flatMap enc).length ≤ xs.length * M
 | [],_ => by simp
 | x :: r,h => by
  have h0:=h 0 x rfl
  have h1:=bR enc M r (fun j y hj => h (j + 1) y (by simpa using hj))
  simp only [List.flatMap_cons,List.length_append,List.length_cons]
  rw [Nat.add_mul,Nat.one_mul];omega
theorem flat_get {α : Type} {oc : α → List Value} {CS : Nat} (hoc : ∀ y,(oc y).length = CS) : ∀ (ys : List α) (i t : Nat) (y : α) (u : Value),ys[i]? = some y → (oc y)[t]? = some u → (ys.flatMap oc)[i * CS + t]? = some u
 | [],i,t,y,u,h,_ => by simp at h
 | z :: r,0,t,y,u,h,hu => by
  simp at h
  subst h;have ht:=au hu
  simp only [List.flatMap_cons,Nat.zero_mul,Nat.zero_add]
  rw [List.getElem?_append_left ht];exact hu
 | z :: r,i + 1,t,y,u,h,hu => by
  have h' : r[i]? = some y:=by simpa using h
  have:=flat_get hoc r i t y u h' hu
  simp only [List.flatMap_cons]
  rw [List.getElem?_append_right (by rw [hoc,Nat.add_mul]; omega),hoc]
  have e : (i + 1) * CS + t - CS = i * CS + t:=by rw [Nat.add_mul]; omega
  rw [e];exact this
theorem eD {w : World} {TE : TypeId} {CS : Nat} {aa : Option Addr} {j ac : Nat} {α : Type} {oc : α → List Value} {ys : List α} (hoc : ∀ y,(oc y).length = CS) (h : w.ownsRow 0 TE CS (.slice aa j ac) j (ys.flatMap oc)) {i t : Nat} {y : α} {u : Value} (hy : ys[i]? = some y) (hu : (oc y)[t]? = some u) :
  ∃ B,aa = some ⟨B,0,none⟩ ∧ w.cell? ⟨B,i * CS + t,none⟩ = some u:=by
 have hg:=flat_get hoc ys i t y u hy hu;have hl:=au hg
 rcases h.2 with ⟨h1,h2⟩ | ⟨g,cp,cur,h1,_⟩
 ·have:=h.1
  rw [h2] at this;omega
 ·obtain ⟨e1,e2⟩:=Value.slice.inj h1;subst e1;refine ⟨g,rfl,?_⟩;have h' : cy w TE CS g j ac (ys.flatMap oc):=h
  rw [h'.cell _ (by rw [← h.1]; exact hl)]
  exact hg
theorem Stp.throw {R g g1 : Nat} {w W w5 : World} (h : Stp R g g1 w W) (hk : Kept (fun k => k = R ∨ k = g1) W w5) : Kept (fun k => k = R ∨ k = g) w w5:=by
 refine h.k.then hk (fun k hkl hh => ?_)
 rcases hh with rfl | rfl
 ·exact .inl rfl
 ·rcases h.m with h | h
  ·exact .inr h
  ·omega
end Go.Proofs.YtepnnenohjfkbaaGreatDoor

/-
  Texts Lint Wg.
-/
import Derived.Test.YtkdldbfbldkkcaaGreatDoorM00
import Derived.Test.YtkdldbfbldkkcaaGreatDoorM03
set_option linter.unusedVariables false
set_option maxRecDepth 100000
set_option maxHeartbeats 16000000
namespace Go.Proofs.YtkdldbfbldkkcaaGreatDoor
open Go.RowKit
theorem inf3 : ∃ i,Tryz.prog.info? 3 = some i ∧ i.zero = some (.int .i64 0) ∧ i.size = 1 ∧ i.bytes = 8:=by
 have h : (Tryz.prog.info? 3).map (fun i => (i.zero,i.size,i.bytes)) = some (some (.int .i64 0),1,8):=ak
 cases hi : Tryz.prog.info? 3 with
 | none => rw [hi] at h; cases h
 | some i => rw [hi] at h; simp at h; exact ⟨i,rfl,h.1,h.2.1,h.2.2⟩
def oh (y : Int) : List Value:=[.int .i64 y]
abbrev Ng (x : Int) : Value:=.int .i64 x
abbrev Ol (y : Int) : Value:=.int .i64 y
def pU (w : World) (a : Option Addr) (n : Nat) (xs : List Int) : Prop :=
 xs.length = n ∧ (n = 0 ∨ ∃ b off,a = some ⟨b,off,none⟩ ∧ ∀ (j : Nat) x,xs[j]? = some x → w.cell? ⟨b,off + j,none⟩ = some (.int .i64 x))
theorem pU.kept {S : Nat → Prop} {w w' : World} {a : Option Addr} {n : Nat} {xs : List Int} (h : pU w a n xs) (hk : Kept S w w') (hS : ∀ b off c,a = some ⟨b,off,c⟩ → ¬ S b) : pU w' a n xs:=by
 refine ⟨h.1,h.2.imp id ?_⟩;rintro ⟨b,off,ha,hc⟩
 refine ⟨b,off,ha,fun j x hj => ?_⟩
 have:=hc j x hj
 exact hk.cell this (hS _ _ _ ha)
theorem vp (w : World) (y : Int) : ∀ j u,(oh y)[j]? = some u → (w.alloc (bJ y)).cell? ((⟨w.heap.size,0,none⟩ : Addr).add j) = some u:=by
 intro j u hj;have hlt:=az hj;have hl : (oh y).length = 1:=rfl;rw [hl] at hlt;have hadd : (⟨w.heap.size,0,none⟩ : Addr).add j = ⟨w.heap.size,j,none⟩:=dJ;rw [hadd];have hb:=(MapKept.heap_alloc w (bJ y)).1
 simp only [World.cell?,hb]
 simpa [oh] using hj
theorem vG (y : Int) : ∀ u ∈ oh y,u.oneCell' = true:=by
 intro u hu
 simp [oh] at hu
 subst hu; rfl
def xM (R g : Nat) (w : World) (K : Nat) (cs : Array Value) (bs : List Int) (n : Nat) (xs : List Int) (enc : Int → List Int) (Ok : Int → Int → Prop) (j : Nat) (x : Int) : Prop :=
 ∀ (ys : List Int) (W : World) (g1 cap1 : Nat) (aa : Option Addr) (ac : Nat),ys.length = j → (∀ (i : Nat) y,ys[i]? = some y → ∃ x',xs[i]? = some x' ∧ Ok x' y) → Stp R g g1 w W → Wr W R g1 cap1 (bs ++ aw n ++ (xs.take j).flatMap enc) →
  W.ownsRow 0 3 1 (.slice aa j ac) j (ys.flatMap oh) → (∀ b,aa = some b → w.heap.size ≤ b.block ∧ b.block ≠ g1) →
  Calls Tryz.prog K (#[Ng x,.slice aa j ac] ++ cs) W (fun e w' => ∃ y,e = .returned (Ol y) ∧ Ok x y ∧ ∃ g' cap',Wr w' R g' cap' (bs ++ aw n ++ (xs.take j).flatMap enc ++ enc x) ∧ Stp R g1 g' W w')
def Em (R g : Nat) (w : World) (K : Nat) (cs : Array Value) (bs : List Int) (n : Nat) (xs : List Int) (enc : Int → List Int) (Ok : Int → Int → Prop) (j : Nat) (x : Int) (er : Int) : Prop :=
 ∀ (ys : List Int) (W : World) (g1 cap1 : Nat) (aa : Option Addr) (ac : Nat),ys.length = j → (∀ (i : Nat) y,ys[i]? = some y → ∃ x',xs[i]? = some x' ∧ Ok x' y) → Stp R g g1 w W → Wr W R g1 cap1 (bs ++ aw n ++ (xs.take j).flatMap enc) →
  W.ownsRow 0 3 1 (.slice aa j ac) j (ys.flatMap oh) → (∀ b,aa = some b → w.heap.size ≤ b.block ∧ b.block ≠ g1) →
  Calls Tryz.prog K (#[Ng x,.slice aa j ac] ++ cs) W (aU R g1 er W)
theorem vR (R g cap : Nat) (bs : List Int) (ha : Option Addr) (n hc : Nat) (most : Int) (K : Nat) (cs : Array Value) (w : World) (xs : List Int) (enc : Int → List Int) (Ok : Int → Int → Prop) (M : Nat)
  (h : Wr w R g cap bs) (hn : n ≤ 100000) (hm : (n : Int) ≤ most) (hmem : pU w ha n xs) (hne : ∀ b off c,ha = some ⟨b,off,c⟩ → b ≠ R ∧ b ≠ g)
  (hK : ∀ args w,(callFunc K args).run Tryz.prog w = .ok (.enter K args) w) (hlen : ∀ (j : Nat) x,xs[j]? = some x → (enc x).length ≤ M) (hM : M ≤ 1000000) (hb : bs.length + 200000000000 ≤ 1099511627776)
  (heach : ∀ (j : Nat) x,xs[j]? = some x → xM R g w K cs bs n xs enc Ok j x) :
  Calls Tryz.prog 91 #[cW R,.slice ha n hc,.int .i64 most,.func (.func K) #[] cs] w fun e w' => ∃ (aa : Option Addr) (ac : Nat) (ys : List Int),e = .returned (.slice aa n ac) ∧ ys.length = n ∧ (∀ (i : Nat) y,ys[i]? = some y → ∃ x,xs[i]? = some x ∧ Ok x y) ∧
   w'.ownsRow 0 3 1 (.slice aa n ac) n (ys.flatMap oh) ∧ ∃ g' cap',(∀ b,aa = some b → w.heap.size ≤ b.block ∧ b.block ≠ g') ∧ Wr w' R g' cap' (bs ++ aw n ++ xs.flatMap enc) ∧ Stp R g g' w w':=by
 have hmc:=br;have hcc:=bR;have HC:=hid (bH R g cap bs n most w h hm ae ae);have hRl:=h.lt;have hgl:=h.g_lt;have hxl:=hmem.1;have HM:=hid hmem;have HNE:=hid hne;have HE:=hid heach;obtain ⟨i0,hi,hz0,hz1,hz2⟩:=inf3;clear h hmem heach hne
 go_enter Tryz.func91,Tryz.ntmps91
 go_wp2_with fail;refine HC.out.mono ?_;rintro e w2 ⟨rfl,g1,cap1,hw2,hs2⟩;have W2:=hid hw2;have S2:=hid hs2;clear hw2 hs2 HC hmc hcc;go_wp2_with fail
 go_loopw [9,17] (fun o i wr => ∃ (j : Nat) (ys : List Int) (aa : Option Addr) (ac g1 cap1 : Nat),j ≤ n ∧ i = .int .i64 j ∧ o = .slice aa j ac ∧ ys.length = j ∧ (∀ (i : Nat) y,ys[i]? = some y → ∃ x,xs[i]? = some x ∧ Ok x y) ∧
   wr.ownsRow 0 3 1 (.slice aa j ac) j (ys.flatMap oh) ∧ (∀ b,aa = some b → w.heap.size ≤ b.block ∧ b.block ≠ g1) ∧ Wr wr R g1 cap1 (bs ++ aw n ++ (xs.take j).flatMap enc) ∧ Stp R g g1 w wr) (fun _ i _ => n - (intOf i).toNat)
 case atStart => exact ⟨0,[],none,0,g1,cap1,ae,rfl,rfl,rfl,(fun i y h => ei),World.ownsRow_nil _ _ _ _,(fun b h => cj),fy,S2.out⟩
 case round =>
  obtain ⟨j,ys,aa,ac,g3,cap3,hj,rfl,rfl,hyl,hys,hrow,hab,hwr,hst⟩:=hrel;have HY:=hid hys;have HRW:=hid hrow;have HAB:=hid hab;have HWR:=hid hwr;have HST:=hid hst;clear hys hrow hab hwr hst W2 S2
  by_cases hlt : j < n
  ·obtain ⟨x,hx⟩ : ∃ x,xs[j]? = some x:=⟨_,ba ae⟩
   obtain ⟨b,off,rfl,hcell⟩ : ∃ b off,ha = some ⟨b,off,none⟩ ∧ ∀ (j : Nat) x,xs[j]? = some x → wr.cell? ⟨b,off + j,none⟩ = some (.int .i64 x):=by
    exact dL
   have hcj:=hcell j x hx;have hbl:=block_lt_of_cell hcj;clear hcell;have v0:=hcj;have BN:=hid (Below.refl wr.heap.size wr)
   have HC1:=hid (HE.out j x hx ys wr g3 cap3 aa ac hyl HY.out (HST.out.trans (Stp.of_below BN.out)) (HWR.out.later BN.out) (aJ HRW.out (fun B hB => BN.out.block B (aF HRW.out hB))) HAB.out)
   go_wp2_with fail
   skip
   exact KT
  ·exact nj
theorem zh (R g cap : Nat) (bs : List Int) (ha : Option Addr) (n hc : Nat) (most : Int) (K : Nat) (cs : Array Value) (w : World) (xs : List Int) (enc : Int → List Int) (Ok : Int → Int → Prop) (M : Nat)
  (h : Wr w R g cap bs) (hn : n ≤ 100000) (hm : (n : Int) ≤ most) (hmem : pU w ha n xs) (hne : ∀ b off c,ha = some ⟨b,off,c⟩ → b ≠ R ∧ b ≠ g)
  (hK : ∀ args w,(callFunc K args).run Tryz.prog w = .ok (.enter K args) w) (hlen : ∀ (j : Nat) x,xs[j]? = some x → (enc x).length ≤ M) (hM : M ≤ 1000000) (hb : bs.length + 200000000000 ≤ 1099511627776)
  (k : Nat) (xk : Int) (er : Int) (hk : xs[k]? = some xk) (heach : ∀ (j : Nat) x,xs[j]? = some x → j < k → xM R g w K cs bs n xs enc Ok j x) (hno : Em R g w K cs bs n xs enc Ok k xk er) :
  Calls Tryz.prog 91 #[cW R,.slice ha n hc,.int .i64 most,.func (.func K) #[] cs] w (aU R g er w):=by
 have hkn:=az hk;have hmc:=br;have hcc:=bR;have HC:=hid (bH R g cap bs n most w h hm ae ae);have hRl:=h.lt;have hgl:=h.g_lt;have hxl:=hmem.1;have HM:=hid hmem;have HNE:=hid hne;have HE:=hid heach;have HN:=hid hno;obtain ⟨i0,hi,hz0,hz1,hz2⟩:=inf3;clear h hmem heach hne hno
 go_enter Tryz.func91,Tryz.ntmps91
 go_wp2_with fail;refine HC.out.mono ?_;rintro e w2 ⟨rfl,g1,cap1,hw2,hs2⟩;have W2:=hid hw2;have S2:=hid hs2;clear hw2 hs2 HC hmc hcc;go_wp2_with fail
 go_loopw [9,17] (fun o i wr => ∃ (j : Nat) (ys : List Int) (aa : Option Addr) (ac g1 cap1 : Nat),j ≤ k ∧ i = .int .i64 j ∧ o = .slice aa j ac ∧ ys.length = j ∧ (∀ (i : Nat) y,ys[i]? = some y → ∃ x,xs[i]? = some x ∧ Ok x y) ∧
   wr.ownsRow 0 3 1 (.slice aa j ac) j (ys.flatMap oh) ∧ (∀ b,aa = some b → w.heap.size ≤ b.block ∧ b.block ≠ g1) ∧ Wr wr R g1 cap1 (bs ++ aw n ++ (xs.take j).flatMap enc) ∧ Stp R g g1 w wr) (fun _ i _ => n - (intOf i).toNat)
 case atStart => exact ⟨0,[],none,0,g1,cap1,ae,rfl,rfl,rfl,(fun i y h => ei),World.ownsRow_nil _ _ _ _,(fun b h => cj),fy,S2.out⟩
 case round =>
  obtain ⟨j,ys,aa,ac,g3,cap3,hj,rfl,rfl,hyl,hys,hrow,hab,hwr,hst⟩:=hrel;have HY:=hid hys;have HRW:=hid hrow;have HAB:=hid hab;have HWR:=hid hwr;have HST:=hid hst;clear hys hrow hab hwr hst W2 S2;have hlt : j < n:=ae
  ·obtain ⟨x,hx⟩ : ∃ x,xs[j]? = some x:=⟨_,ba ae⟩
   obtain ⟨b,off,rfl,hcell⟩ : ∃ b off,ha = some ⟨b,off,none⟩ ∧ ∀ (j : Nat) x,xs[j]? = some x → wr.cell? ⟨b,off + j,none⟩ = some (.int .i64 x):=by
    exact dL
   have hcj:=hcell j x hx;have hbl:=block_lt_of_cell hcj;clear hcell;have v0:=hcj;have BN:=hid (Below.refl wr.heap.size wr)
   by_cases hjk : j < k
   ·skip
    have HC1:=hid (HE.out j x hx hjk ys wr g3 cap3 aa ac hyl HY.out (HST.out.trans (Stp.of_below BN.out)) (HWR.out.later BN.out) (aJ HRW.out (fun B hB => BN.out.block B (aF HRW.out hB))) HAB.out)
    go_wp2_with fail;exact KT
   ·obtain rfl : j = k:=ae;obtain rfl : x = xk:=lj
    have HC1:=hid (HN.out ys wr g3 cap3 aa ac hyl HY.out (HST.out.trans (Stp.of_below BN.out)) (HWR.out.later BN.out) (aJ HRW.out (fun B hB => BN.out.block B (aF HRW.out hB))) HAB.out)
    exact mS
theorem rW (R g cap : Nat) (bs : List Int) (ha : Option Addr) (n hc : Nat) (most : Int) (f : Value) (w : World) (h : Wr w R g cap bs) (hm : most < (n : Int)) :
  Calls Tryz.prog 91 #[cW R,.slice ha n hc,.int .i64 most,f] w (aU R g 20 w):=by
 have hmc:=br;have hcc:=bR;have HC:=hid (dS R g cap bs n most w h hm);clear h
 go_enter Tryz.func91,Tryz.ntmps91
 exact jk
theorem tY (b : Bool) (w : World) : Calls Tryz.prog 124 #[.bool b] w fun e w' => e = .returned (.int .u8 (if b then 1 else 0)) ∧ w' = w:=by
 cases b
 all_goals
  go_enter Tryz.func124,Tryz.ntmps124
  exact jd
theorem qj (v p : Int) (w : World) (h : isL v = true) : Calls Tryz.prog 123 #[.int .u8 v,.int .i64 p] w (kr w):=by
 have HL:=hid (lM v w);rw [h] at HL
 go_enter Tryz.func123,Tryz.ntmps123
 go_wp2_with fail;refine HL.out.mono ?_;rintro e w1 ⟨rfl,rfl⟩;clear HL;exact Gc
theorem Dr (v p : Int) (w : World) (h : isL v = false) : Calls Tryz.prog 123 #[.int .u8 v,.int .i64 p] w (kC 15 w):=by
 have HL:=hid (lM v w);rw [h] at HL
 go_enter Tryz.func123,Tryz.ntmps123
 go_wp2_with fail;refine HL.out.mono ?_;rintro e w1 ⟨rfl,rfl⟩;clear HL;go_wp2_with fail;refine (dX rfl).mono ?_;exact oV
def bit (b : Bool) : Int:=if b then 1 else 0
theorem KI (w : World) : Calls Tryz.prog 124 #[.bool false] w fun e w' => e = .returned (.int .u8 0) ∧ w' = w:=tY false w
theorem KS (w : World) : Calls Tryz.prog 124 #[.bool true] w fun e w' => e = .returned (.int .u8 1) ∧ w' = w:=tY true w
theorem DY (p : Int) (w : World) : Calls Tryz.prog 125 #[.int .u8 0,.int .i64 p] w (kr w):=by
 have HF:=hid KI
 go_enter Tryz.func125,Tryz.ntmps125
 go_wp2_with (first | (go_at_call 124; refine (HF.out _).mono ?_; rintro e w' ⟨rfl,rfl⟩) | (go_at_call 79; refine (cu rfl).mono ?_; rintro e w' ⟨rfl,rfl⟩))
 go_end0;exact mh
theorem Gn (p : Int) (w : World) : Calls Tryz.prog 125 #[.int .u8 1,.int .i64 p] w (kr w):=by
 have HF:=hid KI;have HT:=hid KS
 go_enter Tryz.func125,Tryz.ntmps125
 go_wp2_with fail;refine (HF.out _).mono ?_;rintro e w' ⟨rfl,rfl⟩
 go_wp2_with (first | (go_at_call 124; refine (HT.out _).mono ?_; rintro e w' ⟨rfl,rfl⟩) | (go_at_call 79; refine (cu rfl).mono ?_; rintro e w' ⟨rfl,rfl⟩))
 go_end0;exact mh
theorem rM (c v : Int) (h0 : 0 ≤ v) (h : v < 18446744073709551616) : -9223372036854775808 ≤ sgn c v ∧ sgn c v < 9223372036854775808:=by
 unfold sgn; split <;> split <;> (try split) <;> omega
theorem LY {v : Int} (h0 : 0 ≤ v) (h : v < 4294967296) : wrap64 (wrap32 v) = sgn 119 v:=by
 unfold sgn wrap64 wrap32;rw [if_pos rfl,if_pos h]
 split <;> omega
theorem NW {c v : Int} (hc : c ≠ 119) (h0 : 0 ≤ v) (h : v < 18446744073709551616) : wrap64 v = sgn c v:=by
 unfold sgn wrap64;rw [if_neg hc]
 split <;> omega
theorem nU (c v : Int) (mu : Bool) (w : World) (h0 : 0 ≤ v) (h1 : v < 18446744073709551616) : Calls Tryz.prog 126 #[.agg #[.int .u8 c,.bool mu,.int .u64 v]] w fun e w' => e = .returned (.int .i64 (sgn c v)) ∧ Below w.heap.size w w':=by
 have B1:=hid (aj w (bh c mu v))
 by_cases hc : c = 119
 ·subst hc
  have HF:=hid (fun W => xf v 119 W)
  by_cases hv : v < 4294967296
  ·have hf : eu v 119 = true:=by simp [eu,hv]
   rw [hf] at HF;have HS:=hid (LY h0 hv)
   go_enter Tryz.func126,Tryz.ntmps126
   go_wp2_with (first | (go_at_call 62; refine (HF.out _).mono ?_; rintro e w' ⟨rfl,rfl⟩))
   exact Bp
  ·have hf : eu v 119 = false:=by simp [eu,hv]
   rw [hf] at HF
   have hs : sgn 119 v = 9223372036854775807:=by unfold sgn; rw [if_pos rfl,if_neg hv]
   rw [hs]
   go_enter Tryz.func126,Tryz.ntmps126
   go_wp2_with (first | (go_at_call 62; refine (HF.out _).mono ?_; rintro e w' ⟨rfl,rfl⟩))
   go_ret;exact ⟨rfl,B1.out⟩
 ·have hc' : (c != 119) = true:=by simp [hc]
  have HS:=hid (NW hc h0 h1)
  go_enter Tryz.func126,Tryz.ntmps126
  go_wp2_with fail;exact Bp
theorem MA {v : Int} (h0 : 0 ≤ v) (h : v < 4294967296) : sgn 119 v % 4294967296 = v:=by
 unfold sgn;rw [if_pos rfl,if_pos h]
 split <;> omega
theorem Md {c v : Int} (hc : c ≠ 119) (h0 : 0 ≤ v) (h : v < 18446744073709551616) : IntKind.u64.wrap (sgn c v) = v:=by
 unfold sgn;rw [if_neg hc]
 split <;> simp [IntKind.wrap,IntKind.bits,IntKind.signed] <;> omega
theorem pY (c v : Int) (w : World) (h0 : 0 ≤ v) (h1 : v < 18446744073709551616) (h2 : c = 119 → v < 4294967296) : Calls Tryz.prog 128 #[.int .u8 c,.int .i64 (sgn c v)] w fun e w' => e = .returned (.int .u64 v) ∧ w' = w:=by
 by_cases hc : c = 119
 ·subst hc;have hb:=MA h0 (h2 rfl);generalize sgn 119 v = x at *
  go_enter Tryz.func128,Tryz.ntmps128
  go_wp2_with fail;go_ret
  first | exact ⟨rfl,rfl⟩ | exact ⟨congrArg (fun x => Ending.returned (.int .u64 x)) hb,rfl⟩
 ·have hb:=Md hc h0 h1;generalize sgn c v = x at *
  have hc' : (c == 119) = false:=by simp [hc]
  go_enter Tryz.func128,Tryz.ntmps128
  exact jd
theorem IU {v : Int} (h0 : 0 ≤ v) (h1 : v < 18446744073709551616) : (sgn 119 v == wrap64 (wrap32 (sgn 119 v))) = decide (v < 4294967296):=by
 unfold sgn wrap64 wrap32;rw [if_pos rfl]
 by_cases h : v < 4294967296
 ·rw [if_pos h]
  simp only [h,decide_true,beq_iff_eq]
  split <;> omega
 ·rw [if_neg h]
  simp only [h,decide_false]
  decide
theorem xo (B : Nat) (c v p : Int) (w : World) (h0 : 0 ≤ v) (h1 : v < 18446744073709551616) (hB : w.cell? ⟨B,0,none⟩ = some (.int .u8 c)) (h : c = 119 → v < 4294967296) :
  Calls Tryz.prog 127 #[.int .i64 (sgn c v),.int .i64 p,.pointer (some ⟨B,0,none⟩)] w (kr w):=by
 by_cases hc : c = 119
 ·subst hc;have hs:=IU h0 h1;rw [decide_eq_true (h rfl)] at hs;generalize sgn 119 v = x at *
  go_enter Tryz.func127,Tryz.ntmps127
  go_wp2_with fail
  refine (cu (by first | rfl | exact hs)).mono ?_
  exact A8
 ·have hc' : (c != 119) = true:=by simp [hc]
  generalize sgn c v = x at *
  go_enter Tryz.func127,Tryz.ntmps127
  go_wp2_with fail;refine (cu rfl).mono ?_;exact A8
theorem C6 (B : Nat) (v p : Int) (w : World) (h0 : 0 ≤ v) (h1 : v < 18446744073709551616) (hB : w.cell? ⟨B,0,none⟩ = some (.int .u8 119)) (h : ¬ v < 4294967296) :
  Calls Tryz.prog 127 #[.int .i64 (sgn 119 v),.int .i64 p,.pointer (some ⟨B,0,none⟩)] w (kC 17 w):=by
 have hs:=IU h0 h1;rw [decide_eq_false h] at hs;generalize sgn 119 v = x at *
 go_enter Tryz.func127,Tryz.ntmps127
 go_wp2_with fail
 refine (dX (by first | rfl | exact hs)).mono ?_
 rintro e w' ⟨rfl,rfl⟩;exact ⟨rfl,⟨_,rfl⟩,Below.refl _ _⟩
theorem Kv (b : Bool) (w : World) : Calls Tryz.prog 124 #[.bool b] w fun e w' => e = .returned (.int .u8 (bit b)) ∧ w' = w:=tY b w
theorem Ho (b : Bool) (p : Int) (w : World) : Calls Tryz.prog 125 #[.int .u8 (bit b),.int .i64 p] w (kr w):=by
 cases b
 ·exact DY p w
 ·exact Gn p w
theorem jV (b : Bool) : 0 ≤ bit b ∧ bit b ≤ 255:=by cases b <;> decide
theorem Gm (b : Bool) : (bit b == 1) = b:=by cases b <;> decide
theorem aP {w : World} {b : Nat} {u v x : Value} {t : TypeId} (h : w.heap[b]? = some (.cells #[u,v,x] t)) : w.cell? ⟨b,0,none⟩ = some u ∧ w.cell? ⟨b,1,none⟩ = some v ∧ w.cell? ⟨b,2,none⟩ = some x ∧ w.frozen? ⟨b,0,none⟩ = false ∧ w.frozen? ⟨b,1,none⟩ = false ∧ w.frozen? ⟨b,2,none⟩ = false:=by
 simp [World.cell?,World.frozen?,h]
theorem rC (a : Addr) (w : World) : (nilAhead 374 145 (.pointer (some a)) "flagon/module.octet").run Tryz.prog w = .ok (some false) w:=rfl
theorem oZ (a : Addr) (w : World) : (nilAhead 374 145 (.pointer (some a)) "flagon/module.signed").run Tryz.prog w = .ok (some false) w:=rfl
def qG (w : World) (c v : Int) (mu : Bool) : World:=(w.alloc (bh c mu v)).alloc (bh 0 false 0)
theorem ly (w : World) (c v : Int) (mu : Bool) : Below w.heap.size w (qG w c v mu) ∧ (qG w c v mu).heap.size = w.heap.size + 1 + 1 ∧ (qG w c v mu).heap[w.heap.size]? = some (bh c mu v) ∧ (qG w c v mu).heap[w.heap.size + 1]? = some (bh 0 false 0):=by
 unfold qG;refine ⟨((Below.refl _ w).alloc (Nat.le_refl _) _).alloc au _,au,?_,?_⟩
 ·exact Cm
 ·have:=(MapKept.heap_alloc (w.alloc (bh c mu v)) (bh 0 false 0)).1
  exact cm
theorem vq (R g cap : Nat) (bs : List Int) (c v : Int) (mu : Bool) (w : World) (h : Wr w R g cap bs) (hb : bs.length + 100 ≤ 1099511627776) (h0 : 0 ≤ c) (h1 : c ≤ 255) (v0 : 0 ≤ v) (v1 : v < 18446744073709551616) (hl : isL c = true) (hv : c = 119 → v < 4294967296) :
  Calls Tryz.prog 96 #[cW R,.agg #[.int .u8 c,.bool mu,.int .u64 v]] w (nv R g bs (cQ (c,mu,v)) (.agg #[.int .u8 c,.bool mu,.int .u64 v]) w):=by
 have hmo:=kJ;have hco:=qF;have hms:=nR;have hcs:=wm;have hno:=rC;have hns:=oZ;obtain ⟨B0,z0,x0,x1⟩:=ly w c v mu;have HW : (w.alloc (bh c mu v)).alloc (bh 0 false 0) = qG w c v mu:=rfl;have hRl:=h.lt;have hgl:=h.g_lt;generalize qG w c v mu = W1 at *
 have H1:=hid (gD R g cap bs c 123 #[] W1 (h.later B0) h0 h1 ae (fun _ _ => rfl) (qj c _ W1 hl))
 have BW:=hid B0;obtain ⟨a0,a1,a2,_,_,_⟩:=aP x0;clear h B0
 go_enter Tryz.func96,Tryz.ntmps96
 go_wp2_with fail;refine H1.out.mono ?_;rintro e w2 ⟨rfl,g1,cap1,hw2,hs2⟩;have y0:=(hs2.block (b:=w.heap.size) ae ae ae).trans x0;have y1:=(hs2.block (b:=w.heap.size + 1) ae ae ae).trans x1;have n0 : w.heap.size ≠ g1:=hs2.ne ae ae;have n1 : w.heap.size + 1 ≠ g1:=hs2.ne ae ae;have S2:=hid ((Stp.of_below BW.out).trans hs2);have z2:=S2.out.size;have z2':=hs2.size;have gl2:=hw2.g_lt;obtain ⟨w3,hw3⟩ : ∃ w3,w2.alloc (fN c) = w3:=⟨_,rfl⟩
 have B3 : Below w2.heap.size w2 w3:=by rw [← hw3]; exact aj _ _
 have z3 : w3.heap.size = w2.heap.size + 1:=by rw [← hw3]; simp
 have l3 : w3.cell? ⟨w2.heap.size,0,none⟩ = some (.int .u8 c):=by rw [← hw3]; exact fD _ _ _
 have q0:=(B3.block w.heap.size ae).trans y0;have q1:=(B3.block (w.heap.size + 1) ae).trans y1;obtain ⟨b0,b1,b2,_,_,_⟩:=aP q0
 have HO2:=hid (gD R g1 cap1 (bs ++ [c]) (bit mu) 125 #[] w3.drew ((hw2.later B3).later (Below.refl _ _).drew) (jV mu).1 (jV mu).2 aI (fun _ _ => rfl) (Ho mu _ w3.drew))
 have HF:=hid (Kv mu);have BB3:=hid B3;clear hs2 hw2 H1 x0 x1 a0 a1 a2 y0 y1 B3 HW;go_wp2_with fail
 go_region_held3 (fun W => W.cell? ⟨w.heap.size,1,none⟩ = some (.bool mu)) (assumption) (first
  | (go_at_call 124; refine (HF.out _).mono ?_; rintro e w' ⟨rfl,rfl⟩)
  | (go_at_call 195; refine HO2.out.mono ?_; rintro e w4 ⟨rfl,g2,cap2,hw4,hs4⟩; have hS' : w4.cell? ⟨w.heap.size,1,none⟩ = some (.bool mu):=hs4.cell b1 ae n0; have W4:=hid hw4; have S4:=hid hs4; clear hw4 hs4))
 all_goals
  have f0:=(S4.out.block (b:=w.heap.size) aI ae n0).trans q0;have f1:=(S4.out.block (b:=w.heap.size + 1) aI ae n1).trans q1;have f2:=S4.out.cell (b:=w2.heap.size) l3 ae ae;obtain ⟨d0,d1,d2,_,_,_⟩:=aP f0;have m0 : w.heap.size ≠ g2:=S4.out.ne aI n0;have m1 : w.heap.size + 1 ≠ g2:=S4.out.ne aI n1;have m2 : w2.heap.size ≠ g2:=S4.out.ne aI ae;have z4 : w3.heap.size ≤ w4.heap.size:=S4.out.size;have S4':=hid ((S2.out.trans (Stp.of_below BB3.out)).trans ((Stp.of_below ((Below.refl _ _).drew)).trans S4.out))
  have HWS:=hid (fun W => nU c v mu W v0 v1)
  clear S4 HO2 HF hS' q0 q1 b0 b1 b2 l3 hno hmo hco;go_wp2_with fail
  have HSG:=hid (fun W (hW : Below w4.heap.size w4 W) => qU R g2 cap2 (bs ++ [c] ++ [bit mu]) (sgn c v) 127 #[.pointer (some ⟨w2.heap.size,0,none⟩)] W (W4.out.later hW) (rM c v v0 v1).1 (rM c v v0 v1).2 aI (fun _ _ => rfl) (xo w2.heap.size c v _ W v0 v1 ((hW.cell zl).trans f2) hv))
  have HB4:=hid (fun (W5 : World) (hb : Below w4.heap.size w4.drew W5) => (Below.trans ((Below.refl w4.heap.size w4).drew) hb : Below w4.heap.size w4 W5))
  have HC4:=hid (fun (W5 : World) (hb : Below w4.heap.size w4 W5) => (⟨(hb.cell (by exact block_lt_of_cell d0)).trans d0,(hb.cell (by exact block_lt_of_cell d1)).trans d1,(hb.cell (by exact block_lt_of_cell d2)).trans d2⟩ : W5.cell? ⟨w.heap.size,0,none⟩ = some (.int .u8 c) ∧ W5.cell? ⟨w.heap.size,1,none⟩ = some (.bool mu) ∧ W5.cell? ⟨w.heap.size,2,none⟩ = some (.int .u64 v)))
  go_region_held3 (fun W => W.cell? ⟨w.heap.size,0,none⟩ = some (.int .u8 c) ∧ W.cell? ⟨w.heap.size,1,none⟩ = some (.bool mu) ∧ W.cell? ⟨w.heap.size,2,none⟩ = some (.int .u64 v)) (first | assumption | exact ⟨d0,d1,d2⟩) (first
   | (go_at_call 126; refine (HWS.out _).mono ?_; rintro e w5 ⟨rfl,hb5⟩; have hB5:=hid (HB4.out w5 hb5); have hS':=HC4.out w5 hB5.out; clear hb5)
   | (go_at_call 197; refine (HSG.out _ hB5.out).mono ?_; rintro e w6 ⟨rfl,g3,cap3,hw6,hs6⟩; have hS'' : w6.cell? ⟨w.heap.size,0,none⟩ = some (.int .u8 c) ∧ w6.cell? ⟨w.heap.size,1,none⟩ = some (.bool mu) ∧ w6.cell? ⟨w.heap.size,2,none⟩ = some (.int .u64 v):=⟨hs6.cell hS'.1 ae m0,hs6.cell hS'.2.1 ae m0,hs6.cell hS'.2.2 ae m0⟩; have W6:=hid hw6; have S6:=hid hs6; clear hw6 hs6))
  all_goals
   have z5:=hB5.out.size;have e1:=(S6.out.block (b:=w.heap.size + 1) ae ae m1).trans ((hB5.out.block _ ae).trans f1);have e2:=S6.out.cell (b:=w2.heap.size) ((hB5.out.cell zl).trans f2) ae m2;have p1 : w.heap.size + 1 ≠ g3:=S6.out.ne ae m1;have S6':=hid ((S4'.out.trans (Stp.of_below hB5.out)).trans S6.out);obtain ⟨k0,k1,k2,k3,k4,k5⟩:=aP e1;have hlt6:=block_lt_of_cell e2;have hlt7:=block_lt_of_cell k0;have HF:=hid (KS)
   have HWO:=hid (fun W => pY c v W v0 v1 hv)
   clear S6 HSG HB4 HC4 HWS hS' hS'' f0 f1 f2 d0 d1 d2 hns hms hcs e1;go_wp2_with fail;have hbb:=Gm mu
   go_region_held3 (fun W => W.cell? ⟨w2.heap.size,0,none⟩ = some (.int .u8 c)) (first | assumption | (simp [go_sem]; assumption) | (rw [World.cell?_setCell_other _ _ _ _ aI,World.cell?_setCell_other _ _ _ _ aI,World.cell?_setCell_other _ _ _ _ aI]; assumption)) (first
    | (go_at_call 124; refine (HF.out _).mono ?_; rintro e w' ⟨rfl,rfl⟩)
    | (go_at_call 128; refine (HWO.out _).mono ?_; rintro e w' ⟨rfl,rfl⟩))
   all_goals
    go_wp2_with fail;refine bodyPost_ret (v:=.agg #[.int .u8 c,.bool mu,.int .u64 v]) ?_ rfl ⟨rfl,g3,cap3,?_,?_⟩
    ·exact cF
    ·have:=(((W6.out.set (b:=w.heap.size + 1) (o:=0) (v:=.int .u8 c) ae p1).set (b:=w.heap.size + 1) (o:=1) (v:=.bool mu) ae p1).set (b:=w.heap.size + 1) (o:=2) (v:=.int .u64 v) ae p1).later (Below.refl _ _).drew
     simpa [cQ,bit,List.append_assoc] using this
    ·exact (((S6'.out.set ae).set ae).set ae).trans (Stp.of_below ((Below.refl _ _).drew))
end Go.Proofs.YtkdldbfbldkkcaaGreatDoor

/-
  Texts Lint Lgl Wg.
-/
import Derived.Test.YtepnnenohjfkbaaGreatDoorP00
import Derived.Test.YtepnnenohjfkbaaGreatDoorP03
set_option linter.unusedVariables false
set_option maxRecDepth 100000
set_option maxHeartbeats 16000000
namespace Go.Proofs.YtepnnenohjfkbaaGreatDoor
open Go.RowKit
theorem Q7 : ∃ i,Tryz.prog.info? 3 = some i ∧ i.zero = some (.int .i64 0) ∧ i.size = 1 ∧ i.bytes = 8:=AZ aw
def qX (y : Int) : List Value:=[.int .i64 y]
abbrev OG (x : Int) : Value:=.int .i64 x
abbrev PX (y : Int) : Value:=.int .i64 y
def iN (w : World) (a : Option Addr) (n : Nat) (xs : List Int) : Prop :=
 xs.length = n ∧ (n = 0 ∨ ∃ b off,a = some ⟨b,off,none⟩ ∧ ∀ (j : Nat) x,xs[j]? = some x → w.cell? ⟨b,off + j,none⟩ = some (.int .i64 x))
theorem iN.kept {S : Nat → Prop} {w w' : World} {a : Option Addr} {n : Nat} {xs : List Int} (h : iN w a n xs) (hk : Kept S w w') (hS : ∀ b off c,a = some ⟨b,off,c⟩ → ¬ S b) : iN w' a n xs:=by
 refine ⟨h.1,h.2.imp id ?_⟩;rintro ⟨b,off,ha,hc⟩
 refine ⟨b,off,ha,fun j x hj => ?_⟩
 have:=hc j x hj
 exact hk.cell this (hS _ _ _ ha)
theorem wU (w : World) (y : Int) : ∀ j u,(qX y)[j]? = some u → (w.alloc (aM y)).cell? ((⟨w.heap.size,0,none⟩ : Addr).add j) = some u:=by
 intro j u hj;have hlt:=ax hj;have hl : (qX y).length = 1:=rfl;rw [hl] at hlt;have hadd : (⟨w.heap.size,0,none⟩ : Addr).add j = ⟨w.heap.size,j,none⟩:=fZ;rw [hadd];have hb:=(MapKept.heap_alloc w (aM y)).1
 simp only [World.cell?,hb]
 simpa [qX] using hj
theorem xG (y : Int) : ∀ u ∈ qX y,u.oneCell' = true:=by
 intro u hu
 simp [qX] at hu
 subst hu; rfl
abbrev Pf:=@oY Int Int qX OG PX 3 1
namespace LNu
abbrev oC0:=qX
abbrev cM (y : Int) : Obj:=.cells #[.int .i64 y] 3
theorem nC (w : World) (y : Int) : ∀ j u,(qX y)[j]? = some u → (w.alloc (cM y)).cell? ((⟨w.heap.size,0,none⟩ : Addr).add j) = some u:=wU w y
theorem oC (y : Int) : ∀ u ∈ qX y,u.oneCell' = true:=xG y
theorem uN : Tryz.prog.underlying 23 = some (.slice 3):=Tryz.underlying23
end LNu
open LNu in
theorem xH : mF 116 qX OG PX iN 3 1:=by
 intro R g cap bs ha n hc most K cs w xs enc Ok M h hn hm hmem hne hK hlen hM hb heach;have hmc:=bz;have hcc:=bQ;have HC:=hid (bK R g cap bs n most w h hm ae ae);have hRl:=h.lt;have hgl:=h.g_lt;have hxl:=hmem.1;have HM:=hid hmem;have HNE:=hid hne;have HE:=hid heach;obtain ⟨i0,hi,hz0,hz1,hz2⟩:=Q7;clear h hmem heach hne
 go_enter Tryz.func116,Tryz.ntmps116
 go_wp2_with fail;refine HC.out.mono ?_;rintro e w2 ⟨rfl,g1,aQ,hw2,hs2⟩;have W2:=hid hw2;have S2:=hid hs2;clear hw2 hs2 HC hmc hcc;go_wp2_with fail
 go_loopw [9,17] (fun o i wr => pF oC0 3 1 R g w bs n xs enc Ok n o i wr) (fun _ i _ => n - (intOf i).toNat)
 case atStart => exact ⟨0,[],none,0,g1,aQ,ae,rfl,rfl,rfl,(fun i y h => eF),World.ownsRow_nil _ _ _ _,(fun b h => cE),fK,S2.out⟩
 case round =>
  obtain ⟨j,ys,aa,ac,g3,eT,hj,rfl,rfl,hyl,hys,hrow,hab,hwr,hst⟩:=hrel;have HY:=hid hys;have HRW:=hid hrow;have HAB:=hid hab;have HWR:=hid hwr;have HST:=hid hst;clear hys hrow hab hwr hst W2 S2
  by_cases hlt : j < n
  ·obtain ⟨x,hx⟩ : ∃ x,xs[j]? = some x:=⟨_,aN ae⟩
   obtain ⟨b,off,rfl,hcell⟩:=(HM.out.kept HST.out.k (fun b off c h => l9)).2.resolve_left ae
   have hcj:=hcell j x hx;have hbl:=block_lt_of_cell hcj;clear hcell;have v0:=hcj;have BN:=hid (Below.refl wr.heap.size wr)
   have HC1:=hid (HE.out j x hx ys wr g3 eT aa ac hyl HY.out (HST.out.trans (Stp.of_below BN.out)) (HWR.out.later BN.out) (aU HRW.out (fun B hB => BN.out.block B (aO HRW.out hB))) HAB.out)
   go_wp2_with fail
   skip
   exact ND
  ·obtain rfl : j = n:=ae;have hxs : xs.take j = xs:=List.take_of_length_le ae;go_wp2_with fail;go_ret;refine ⟨aa,ac,ys,rfl,hyl,HY.out,HRW.out,g3,eT,HAB.out,?_,HST.out⟩;rw [← hxs];exact HWR.out
open LNu in
theorem zl : qH 116 qX OG PX iN 3 1:=by
 intro R g cap bs ha n hc most K cs w xs enc Ok M h hn hm hmem hne hK hlen hM hb k xk er hk heach hno;have hkn:=ax hk;have hmc:=bz;have hcc:=bQ;have HC:=hid (bK R g cap bs n most w h hm ae ae);have hRl:=h.lt;have hgl:=h.g_lt;have hxl:=hmem.1;have HM:=hid hmem;have HNE:=hid hne;have HE:=hid heach;have HN:=hid hno;obtain ⟨i0,hi,hz0,hz1,hz2⟩:=Q7;clear h hmem heach hne hno
 go_enter Tryz.func116,Tryz.ntmps116
 go_wp2_with fail;refine HC.out.mono ?_;rintro e w2 ⟨rfl,g1,aQ,hw2,hs2⟩;have W2:=hid hw2;have S2:=hid hs2;clear hw2 hs2 HC hmc hcc;go_wp2_with fail
 go_loopw [9,17] (fun o i wr => pF oC0 3 1 R g w bs n xs enc Ok k o i wr) (fun _ i _ => n - (intOf i).toNat)
 case atStart => exact ⟨0,[],none,0,g1,aQ,ae,rfl,rfl,rfl,(fun i y h => eF),World.ownsRow_nil _ _ _ _,(fun b h => cE),fK,S2.out⟩
 case round =>
  obtain ⟨j,ys,aa,ac,g3,eT,hj,rfl,rfl,hyl,hys,hrow,hab,hwr,hst⟩:=hrel;have HY:=hid hys;have HRW:=hid hrow;have HAB:=hid hab;have HWR:=hid hwr;have HST:=hid hst;clear hys hrow hab hwr hst W2 S2;have hlt : j < n:=ae
  ·obtain ⟨x,hx⟩ : ∃ x,xs[j]? = some x:=⟨_,aN ae⟩
   obtain ⟨b,off,rfl,hcell⟩:=(HM.out.kept HST.out.k (fun b off c h => l9)).2.resolve_left ae
   have hcj:=hcell j x hx;have hbl:=block_lt_of_cell hcj;clear hcell;have v0:=hcj;have BN:=hid (Below.refl wr.heap.size wr)
   by_cases hjk : j < k
   ·skip
    have HC1:=hid (HE.out j x hx hjk ys wr g3 eT aa ac hyl HY.out (HST.out.trans (Stp.of_below BN.out)) (HWR.out.later BN.out) (aU HRW.out (fun B hB => BN.out.block B (aO HRW.out hB))) HAB.out)
    go_wp2_with fail;exact ND
   ·obtain rfl : j = k:=ae;obtain rfl : x = xk:=vQ
    have HC1:=hid (HN.out ys wr g3 eT aa ac hyl HY.out (HST.out.trans (Stp.of_below BN.out)) (HWR.out.later BN.out) (aU HRW.out (fun B hB => BN.out.block B (aO HRW.out hB))) HAB.out)
    go_wp2_with fail;refine HC1.out.mono ?_;rintro e w5 ⟨⟨p,rfl⟩,hk5⟩;exact ⟨rfl,⟨p,rfl⟩,(HST.out.trans (Stp.of_below BN.out)).throw hk5⟩
theorem vE (R g cap : Nat) (bs : List Int) (ha : Option Addr) (n hc : Nat) (most : Int) (f : Value) (w : World) (h : Wr w R g cap bs) (hm : most < (n : Int)) :
  Calls Tryz.prog 116 #[cW R,.slice ha n hc,.int .i64 most,f] w (aR R g 20 w):=by
 have hmc:=bz;have hcc:=bQ;have HC:=hid (dU R g cap bs n most w h hm);clear h
 go_enter Tryz.func116,Tryz.ntmps116
 exact jq
theorem Kc : ∃ i,Tryz.prog.info? 141 = some i ∧ i.zero = some (.agg #[.int .u8 0,.bool false,.int .u64 0]) ∧ i.size = 3 ∧ i.bytes = 16:=AZ aw
def rS (y : Gl) : List Value:=[.int .u8 y.1,.bool y.2.1,.int .u64 y.2.2]
abbrev Oz (x : Gl) : Value:=.agg #[.int .u8 x.1,.bool x.2.1,.int .u64 x.2.2]
abbrev Oy (y : Gl) : Value:=.agg #[.int .u8 y.1,.bool y.2.1,.int .u64 y.2.2]
def jf (w : World) (a : Option Addr) (n : Nat) (xs : List Gl) : Prop :=
 xs.length = n ∧ (n = 0 ∨ ∃ b off,a = some ⟨b,off,none⟩ ∧ ∀ (j : Nat) x,xs[j]? = some x → w.cell? ⟨b,off + j * 3,none⟩ = some (.int .u8 x.1) ∧ w.cell? ⟨b,off + j * 3 + 1,none⟩ = some (.bool x.2.1) ∧ w.cell? ⟨b,off + j * 3 + 2,none⟩ = some (.int .u64 x.2.2))
theorem jf.kept {S : Nat → Prop} {w w' : World} {a : Option Addr} {n : Nat} {xs : List Gl} (h : jf w a n xs) (hk : Kept S w w') (hS : ∀ b off c,a = some ⟨b,off,c⟩ → ¬ S b) : jf w' a n xs:=by
 exact JC
theorem yq (w : World) (y : Gl) : ∀ j u,(rS y)[j]? = some u → (w.alloc (bC y.1 y.2.1 y.2.2)).cell? ((⟨w.heap.size,0,none⟩ : Addr).add j) = some u:=by
 intro j u hj;have hlt:=ax hj;have hl : (rS y).length = 3:=rfl;rw [hl] at hlt;have hadd : (⟨w.heap.size,0,none⟩ : Addr).add j = ⟨w.heap.size,j,none⟩:=fZ;rw [hadd];have hb:=(MapKept.heap_alloc w (bC y.1 y.2.1 y.2.2)).1
 simp only [World.cell?,hb]
 simpa [rS] using hj
theorem xe (y : Gl) : ∀ u ∈ rS y,u.oneCell' = true:=by
 intro u hu
 simp [rS] at hu
 rcases hu with rfl | rfl | rfl <;> rfl
abbrev Oq:=@oY Gl Gl rS Oz Oy 141 3
namespace LGl
abbrev oC0:=rS
abbrev cL (x : Gl) : Obj:=.cells #[.int .u8 x.1,.bool x.2.1,.int .u64 x.2.2] 141
abbrev cM (y : Gl) : Obj:=.cells #[.int .u8 y.1,.bool y.2.1,.int .u64 y.2.2] 141
theorem nC (w : World) (y : Gl) : ∀ j u,(rS y)[j]? = some u → (w.alloc (cM y)).cell? ((⟨w.heap.size,0,none⟩ : Addr).add j) = some u:=yq w y
theorem oC (y : Gl) : ∀ u ∈ rS y,u.oneCell' = true:=xe y
theorem uN : Tryz.prog.underlying 24 = some (.slice 141):=Tryz.underlying24
end LGl
open LGl in
theorem xE : mF 119 rS Oz Oy jf 141 3:=by
 intro R g cap bs ha n hc most K cs w xs enc Ok M h hn hm hmem hne hK hlen hM hb heach;have hmc:=bz;have hcc:=bQ;have HC:=hid (bK R g cap bs n most w h hm ae ae);have hRl:=h.lt;have hgl:=h.g_lt;have hxl:=hmem.1;have HM:=hid hmem;have HNE:=hid hne;have HE:=hid heach;obtain ⟨i0,hi,hz0,hz1,hz2⟩:=Kc;clear h hmem heach hne
 go_enter Tryz.func119,Tryz.ntmps119
 go_wp2_with fail;refine HC.out.mono ?_;rintro e w2 ⟨rfl,g1,aQ,hw2,hs2⟩;have W2:=hid hw2;have S2:=hid hs2;clear hw2 hs2 HC hmc hcc;go_wp2_with fail
 go_loopw [9,17] (fun o i wr => pF oC0 141 3 R g w bs n xs enc Ok n o i wr) (fun _ i _ => n - (intOf i).toNat)
 case atStart => exact ⟨0,[],none,0,g1,aQ,ae,rfl,rfl,rfl,(fun i y h => eF),World.ownsRow_nil _ _ _ _,(fun b h => cE),fK,S2.out⟩
 case round =>
  exact Nr
open LGl in
theorem Ba : qH 119 rS Oz Oy jf 141 3:=by
 intro R g cap bs ha n hc most K cs w xs enc Ok M h hn hm hmem hne hK hlen hM hb k xk er hk heach hno;have hkn:=ax hk;have hmc:=bz;have hcc:=bQ;have HC:=hid (bK R g cap bs n most w h hm ae ae);have hRl:=h.lt;have hgl:=h.g_lt;have hxl:=hmem.1;have HM:=hid hmem;have HNE:=hid hne;have HE:=hid heach;have HN:=hid hno;obtain ⟨i0,hi,hz0,hz1,hz2⟩:=Kc;clear h hmem heach hne hno
 go_enter Tryz.func119,Tryz.ntmps119
 go_wp2_with fail;refine HC.out.mono ?_;rintro e w2 ⟨rfl,g1,aQ,hw2,hs2⟩;have W2:=hid hw2;have S2:=hid hs2;clear hw2 hs2 HC hmc hcc;go_wp2_with fail
 go_loopw [9,17] (fun o i wr => pF oC0 141 3 R g w bs n xs enc Ok k o i wr) (fun _ i _ => n - (intOf i).toNat)
 case atStart => exact ⟨0,[],none,0,g1,aQ,ae,rfl,rfl,rfl,(fun i y h => eF),World.ownsRow_nil _ _ _ _,(fun b h => cE),fK,S2.out⟩
 case round =>
  exact NF
theorem uH (R g cap : Nat) (bs : List Int) (ha : Option Addr) (n hc : Nat) (most : Int) (f : Value) (w : World) (h : Wr w R g cap bs) (hm : most < (n : Int)) :
  Calls Tryz.prog 119 #[cW R,.slice ha n hc,.int .i64 most,f] w (aR R g 20 w):=by
 have hmc:=bz;have hcc:=bQ;have HC:=hid (dU R g cap bs n most w h hm);clear h
 go_enter Tryz.func119,Tryz.ntmps119
 exact jq
theorem uI (b : Bool) (w : World) : Calls Tryz.prog 182 #[.bool b] w fun e w' => e = .returned (.int .u8 (if b then 1 else 0)) ∧ w' = w:=by
 cases b
 all_goals
  go_enter Tryz.func182,Tryz.ntmps182
  exact pT
theorem rY (v p : Int) (w : World) (h : isL v = true) : Calls Tryz.prog 180 #[.int .u8 v,.int .i64 p] w (lj w):=by
 have HL:=hid (mY v w);rw [h] at HL
 go_enter Tryz.func180,Tryz.ntmps180
 go_wp2_with fail;refine HL.out.mono ?_;rintro e w1 ⟨rfl,rfl⟩;clear HL;exact Cx
theorem FY (v p : Int) (w : World) (h : isL v = false) : Calls Tryz.prog 180 #[.int .u8 v,.int .i64 p] w (lg 15 w):=by
 have HL:=hid (mY v w);rw [h] at HL
 go_enter Tryz.func180,Tryz.ntmps180
 go_wp2_with fail;refine HL.out.mono ?_;rintro e w1 ⟨rfl,rfl⟩;clear HL;go_wp2_with fail;refine (ez rfl).mono ?_;exact pX
def bit (b : Bool) : Int:=if b then 1 else 0
theorem NP (w : World) : Calls Tryz.prog 182 #[.bool false] w fun e w' => e = .returned (.int .u8 0) ∧ w' = w:=uI false w
theorem NN (w : World) : Calls Tryz.prog 182 #[.bool true] w fun e w' => e = .returned (.int .u8 1) ∧ w' = w:=uI true w
theorem Jy (p : Int) (w : World) : Calls Tryz.prog 183 #[.int .u8 0,.int .i64 p] w (lj w):=by
 have HF:=hid NP
 go_enter Tryz.func183,Tryz.ntmps183
 go_wp2_with (first | (go_at_call 182; refine (HF.out _).mono ?_; rintro e w' ⟨rfl,rfl⟩) | (go_at_call 77; refine (cr rfl).mono ?_; rintro e w' ⟨rfl,rfl⟩))
 go_end0;exact kX
theorem Kw (p : Int) (w : World) : Calls Tryz.prog 183 #[.int .u8 1,.int .i64 p] w (lj w):=by
 have HF:=hid NP;have HT:=hid NN
 go_enter Tryz.func183,Tryz.ntmps183
 go_wp2_with fail;refine (HF.out _).mono ?_;rintro e w' ⟨rfl,rfl⟩
 go_wp2_with (first | (go_at_call 182; refine (HT.out _).mono ?_; rintro e w' ⟨rfl,rfl⟩) | (go_at_call 77; refine (cr rfl).mono ?_; rintro e w' ⟨rfl,rfl⟩))
 go_end0;exact kX
theorem tB (c v : Int) (h0 : 0 ≤ v) (h : v < 18446744073709551616) : -9223372036854775808 ≤ sgn c v ∧ sgn c v < 9223372036854775808:=by
 unfold sgn; split <;> split <;> (try split) <;> omega
theorem Ow {v : Int} (h0 : 0 ≤ v) (h : v < 4294967296) : wrap64 (wrap32 v) = sgn 119 v:=by
 unfold sgn wrap64 wrap32;rw [if_pos rfl,if_pos h]
 split <;> omega
theorem QL {c v : Int} (hc : c ≠ 119) (h0 : 0 ≤ v) (h : v < 18446744073709551616) : wrap64 v = sgn c v:=by
 unfold sgn wrap64;rw [if_neg hc]
 split <;> omega
theorem o8 (c v : Int) (mu : Bool) (w : World) (h0 : 0 ≤ v) (h1 : v < 18446744073709551616) : Calls Tryz.prog 184 #[.agg #[.int .u8 c,.bool mu,.int .u64 v]] w fun e w' => e = .returned (.int .i64 (sgn c v)) ∧ Below w.heap.size w w':=by
 have B1:=hid (aj w (bC c mu v))
 by_cases hc : c = 119
 ·subst hc
  have HF:=hid (fun W => Qk v 119 W)
  by_cases hv : v < 4294967296
  ·have hf : gq v 119 = true:=by simp [gq,hv]
   rw [hf] at HF;have HS:=hid (Ow h0 hv)
   go_enter Tryz.func184,Tryz.ntmps184
   go_wp2_with (first | (go_at_call 243; refine (HF.out _).mono ?_; rintro e w' ⟨rfl,rfl⟩))
   exact Ds
  ·have hf : gq v 119 = false:=by simp [gq,hv]
   rw [hf] at HF
   have hs : sgn 119 v = 9223372036854775807:=by unfold sgn; rw [if_pos rfl,if_neg hv]
   rw [hs]
   go_enter Tryz.func184,Tryz.ntmps184
   go_wp2_with (first | (go_at_call 243; refine (HF.out _).mono ?_; rintro e w' ⟨rfl,rfl⟩))
   go_ret;exact ⟨rfl,B1.out⟩
 ·have hc' : (c != 119) = true:=by simp [hc]
  have HS:=hid (QL hc h0 h1)
  go_enter Tryz.func184,Tryz.ntmps184
  go_wp2_with fail;exact Ds
theorem Ql {v : Int} (h0 : 0 ≤ v) (h : v < 4294967296) : sgn 119 v % 4294967296 = v:=by
 unfold sgn;rw [if_pos rfl,if_pos h]
 split <;> omega
theorem PZ {c v : Int} (hc : c ≠ 119) (h0 : 0 ≤ v) (h : v < 18446744073709551616) : IntKind.u64.wrap (sgn c v) = v:=by
 unfold sgn;rw [if_neg hc]
 split <;> simp [IntKind.wrap,IntKind.bits,IntKind.signed] <;> omega
theorem ru (c v : Int) (w : World) (h0 : 0 ≤ v) (h1 : v < 18446744073709551616) (h2 : c = 119 → v < 4294967296) : Calls Tryz.prog 186 #[.int .u8 c,.int .i64 (sgn c v)] w fun e w' => e = .returned (.int .u64 v) ∧ w' = w:=by
 by_cases hc : c = 119
 ·subst hc;have hb:=Ql h0 (h2 rfl);generalize sgn 119 v = x at *
  go_enter Tryz.func186,Tryz.ntmps186
  go_wp2_with fail;go_ret
  first | exact ⟨rfl,rfl⟩ | exact ⟨congrArg (fun x => Ending.returned (.int .u64 x)) hb,rfl⟩
 ·have hb:=PZ hc h0 h1;generalize sgn c v = x at *
  have hc' : (c == 119) = false:=by simp [hc]
  go_enter Tryz.func186,Tryz.ntmps186
  exact pT
theorem KL {v : Int} (h0 : 0 ≤ v) (h1 : v < 18446744073709551616) : (sgn 119 v == wrap64 (wrap32 (sgn 119 v))) = decide (v < 4294967296):=by
 unfold sgn wrap64 wrap32;rw [if_pos rfl]
 by_cases h : v < 4294967296
 ·rw [if_pos h]
  simp only [h,decide_true,beq_iff_eq]
  split <;> omega
 ·rw [if_neg h]
  simp only [h,decide_false]
  decide
theorem zX (B : Nat) (c v p : Int) (w : World) (h0 : 0 ≤ v) (h1 : v < 18446744073709551616) (hB : w.cell? ⟨B,0,none⟩ = some (.int .u8 c)) (h : c = 119 → v < 4294967296) :
  Calls Tryz.prog 185 #[.int .i64 (sgn c v),.int .i64 p,.pointer (some ⟨B,0,none⟩)] w (lj w):=by
 by_cases hc : c = 119
 ·subst hc;have hs:=KL h0 h1;rw [decide_eq_true (h rfl)] at hs;generalize sgn 119 v = x at *
  go_enter Tryz.func185,Tryz.ntmps185
  go_wp2_with fail
  refine (cr (by first | rfl | exact hs)).mono ?_
  exact DL
 ·have hc' : (c != 119) = true:=by simp [hc]
  generalize sgn c v = x at *
  go_enter Tryz.func185,Tryz.ntmps185
  go_wp2_with fail;refine (cr rfl).mono ?_;exact DL
theorem F9 (B : Nat) (v p : Int) (w : World) (h0 : 0 ≤ v) (h1 : v < 18446744073709551616) (hB : w.cell? ⟨B,0,none⟩ = some (.int .u8 119)) (h : ¬ v < 4294967296) :
  Calls Tryz.prog 185 #[.int .i64 (sgn 119 v),.int .i64 p,.pointer (some ⟨B,0,none⟩)] w (lg 17 w):=by
 have hs:=KL h0 h1;rw [decide_eq_false h] at hs;generalize sgn 119 v = x at *
 go_enter Tryz.func185,Tryz.ntmps185
 go_wp2_with fail
 refine (ez (by first | rfl | exact hs)).mono ?_
 rintro e w' ⟨rfl,rfl⟩;exact ⟨rfl,⟨_,rfl⟩,Below.refl _ _⟩
theorem NA (b : Bool) (w : World) : Calls Tryz.prog 182 #[.bool b] w fun e w' => e = .returned (.int .u8 (bit b)) ∧ w' = w:=uI b w
theorem GM (b : Bool) (p : Int) (w : World) : Calls Tryz.prog 183 #[.int .u8 (bit b),.int .i64 p] w (lj w):=by
 cases b
 ·exact Jy p w
 ·exact Kw p w
theorem kZ (b : Bool) : 0 ≤ bit b ∧ bit b ≤ 255:=by cases b <;> decide
theorem Kq (b : Bool) : (bit b == 1) = b:=by cases b <;> decide
theorem aK {w : World} {b : Nat} {u v x : Value} {t : TypeId} (h : w.heap[b]? = some (.cells #[u,v,x] t)) : w.cell? ⟨b,0,none⟩ = some u ∧ w.cell? ⟨b,1,none⟩ = some v ∧ w.cell? ⟨b,2,none⟩ = some x ∧ w.frozen? ⟨b,0,none⟩ = false ∧ w.frozen? ⟨b,1,none⟩ = false ∧ w.frozen? ⟨b,2,none⟩ = false:=by
 simp [World.cell?,World.frozen?,h]
theorem tu (a : Addr) (w : World) : (nilAhead 445 127 (.pointer (some a)) "flagon/module.octet").run Tryz.prog w = .ok (some false) w:=rfl
theorem rO (a : Addr) (w : World) : (nilAhead 445 127 (.pointer (some a)) "flagon/module.signed").run Tryz.prog w = .ok (some false) w:=rfl
def qu (w : World) (c v : Int) (mu : Bool) : World:=(w.alloc (bC c mu v)).alloc (bC 0 false 0)
theorem mf (w : World) (c v : Int) (mu : Bool) : Below w.heap.size w (qu w c v mu) ∧ (qu w c v mu).heap.size = w.heap.size + 1 + 1 ∧ (qu w c v mu).heap[w.heap.size]? = some (bC c mu v) ∧ (qu w c v mu).heap[w.heap.size + 1]? = some (bC 0 false 0):=by
 unfold qu;refine ⟨((Below.refl _ w).alloc (Nat.le_refl _) _).alloc ak _,ak,?_,?_⟩
 ·exact D2
 ·have:=(MapKept.heap_alloc (w.alloc (bC c mu v)) (bC 0 false 0)).1
  exact bY
theorem xw (R g cap : Nat) (bs : List Int) (c v : Int) (mu : Bool) (w : World) (h : Wr w R g cap bs) (hb : bs.length + 100 ≤ 1099511627776) (h0 : 0 ≤ c) (h1 : c ≤ 255) (v0 : 0 ≤ v) (v1 : v < 18446744073709551616) (hl : isL c = true) (hv : c = 119 → v < 4294967296) :
  Calls Tryz.prog 121 #[cW R,.agg #[.int .u8 c,.bool mu,.int .u64 v]] w (oo R g bs (cm (c,mu,v)) (.agg #[.int .u8 c,.bool mu,.int .u64 v]) w):=by
 have hmo:=lN;have hco:=qC;have hms:=oQ;have hcs:=y9;have hno:=tu;have hns:=rO;obtain ⟨B0,z0,x0,x1⟩:=mf w c v mu;have HW : (w.alloc (bC c mu v)).alloc (bC 0 false 0) = qu w c v mu:=rfl;have hRl:=h.lt;have hgl:=h.g_lt;generalize qu w c v mu = W1 at *
 have H1:=hid (gW R g cap bs c 180 #[] W1 (h.later B0) h0 h1 ae (fun _ _ => rfl) (rY c _ W1 hl))
 have BW:=hid B0;obtain ⟨a0,a1,a2,_,_,_⟩:=aK x0;clear h B0
 go_enter Tryz.func121,Tryz.ntmps121
 go_wp2_with fail;refine H1.out.mono ?_;rintro e w2 ⟨rfl,g1,aQ,hw2,hs2⟩;have y0:=(hs2.block (b:=w.heap.size) ae ae ae).trans x0;have y1:=(hs2.block (b:=w.heap.size + 1) ae ae ae).trans x1;have n0 : w.heap.size ≠ g1:=hs2.ne ae ae;have n1 : w.heap.size + 1 ≠ g1:=hs2.ne ae ae;have S2:=hid ((Stp.of_below BW.out).trans hs2);have z2:=S2.out.size;have z2':=hs2.size;have gl2:=hw2.g_lt;obtain ⟨w3,hw3⟩ : ∃ w3,w2.alloc (dN c) = w3:=⟨_,rfl⟩
 have B3 : Below w2.heap.size w2 w3:=by rw [← hw3]; exact aj _ _
 have z3 : w3.heap.size = w2.heap.size + 1:=by rw [← hw3]; simp
 have l3 : w3.cell? ⟨w2.heap.size,0,none⟩ = some (.int .u8 c):=by rw [← hw3]; exact fw _ _ _
 have q0:=(B3.block w.heap.size ae).trans y0;have q1:=(B3.block (w.heap.size + 1) ae).trans y1;obtain ⟨b0,b1,b2,_,_,_⟩:=aK q0
 have HO2:=hid (gW R g1 aQ (bs ++ [c]) (bit mu) 183 #[] w3.drew ((hw2.later B3).later (Below.refl _ _).drew) (kZ mu).1 (kZ mu).2 aG (fun _ _ => rfl) (GM mu _ w3.drew))
 have HF:=hid (NA mu);have BB3:=hid B3;clear hs2 hw2 H1 x0 x1 a0 a1 a2 y0 y1 B3 HW;go_wp2_with fail
 go_region_held3 (fun W => W.cell? ⟨w.heap.size,1,none⟩ = some (.bool mu)) (assumption) (first
  | (go_at_call 182; refine (HF.out _).mono ?_; rintro e w' ⟨rfl,rfl⟩)
  | (go_at_call 313; refine HO2.out.mono ?_; rintro e w4 ⟨rfl,g2,cap2,hw4,hs4⟩; have hS' : w4.cell? ⟨w.heap.size,1,none⟩ = some (.bool mu):=hs4.cell b1 ae n0; have W4:=hid hw4; have S4:=hid hs4; clear hw4 hs4))
 all_goals
  have f0:=(S4.out.block (b:=w.heap.size) aG ae n0).trans q0;have f1:=(S4.out.block (b:=w.heap.size + 1) aG ae n1).trans q1;have f2:=S4.out.cell (b:=w2.heap.size) l3 ae ae;obtain ⟨d0,d1,d2,_,_,_⟩:=aK f0;have m0 : w.heap.size ≠ g2:=S4.out.ne aG n0;have m1 : w.heap.size + 1 ≠ g2:=S4.out.ne aG n1;have m2 : w2.heap.size ≠ g2:=S4.out.ne aG ae;have z4 : w3.heap.size ≤ w4.heap.size:=S4.out.size;have S4':=hid ((S2.out.trans (Stp.of_below BB3.out)).trans ((Stp.of_below ((Below.refl _ _).drew)).trans S4.out))
  have HWS:=hid (fun W => o8 c v mu W v0 v1)
  clear S4 HO2 HF hS' q0 q1 b0 b1 b2 l3 hno hmo hco;go_wp2_with fail
  have HSG:=hid (fun W (hW : Below w4.heap.size w4 W) => sf R g2 cap2 (bs ++ [c] ++ [bit mu]) (sgn c v) 185 #[.pointer (some ⟨w2.heap.size,0,none⟩)] W (W4.out.later hW) (tB c v v0 v1).1 (tB c v v0 v1).2 aG (fun _ _ => rfl) (zX w2.heap.size c v _ W v0 v1 ((hW.cell Be).trans f2) hv))
  have HB4:=hid (fun (W5 : World) (hb : Below w4.heap.size w4.drew W5) => (Below.trans ((Below.refl w4.heap.size w4).drew) hb : Below w4.heap.size w4 W5))
  have HC4:=hid (fun (W5 : World) (hb : Below w4.heap.size w4 W5) => (⟨(hb.cell (by exact block_lt_of_cell d0)).trans d0,(hb.cell (by exact block_lt_of_cell d1)).trans d1,(hb.cell (by exact block_lt_of_cell d2)).trans d2⟩ : W5.cell? ⟨w.heap.size,0,none⟩ = some (.int .u8 c) ∧ W5.cell? ⟨w.heap.size,1,none⟩ = some (.bool mu) ∧ W5.cell? ⟨w.heap.size,2,none⟩ = some (.int .u64 v)))
  go_region_held3 (fun W => W.cell? ⟨w.heap.size,0,none⟩ = some (.int .u8 c) ∧ W.cell? ⟨w.heap.size,1,none⟩ = some (.bool mu) ∧ W.cell? ⟨w.heap.size,2,none⟩ = some (.int .u64 v)) (first | assumption | exact ⟨d0,d1,d2⟩) (first
   | (go_at_call 184; refine (HWS.out _).mono ?_; rintro e w5 ⟨rfl,hb5⟩; have hB5:=hid (HB4.out w5 hb5); have hS':=HC4.out w5 hB5.out; clear hb5)
   | (go_at_call 315; refine (HSG.out _ hB5.out).mono ?_; rintro e w6 ⟨rfl,g3,eT,hw6,hs6⟩; have hS'' : w6.cell? ⟨w.heap.size,0,none⟩ = some (.int .u8 c) ∧ w6.cell? ⟨w.heap.size,1,none⟩ = some (.bool mu) ∧ w6.cell? ⟨w.heap.size,2,none⟩ = some (.int .u64 v):=⟨hs6.cell hS'.1 ae m0,hs6.cell hS'.2.1 ae m0,hs6.cell hS'.2.2 ae m0⟩; have W6:=hid hw6; have S6:=hid hs6; clear hw6 hs6))
  all_goals
   have z5:=hB5.out.size;have e1:=(S6.out.block (b:=w.heap.size + 1) ae ae m1).trans ((hB5.out.block _ ae).trans f1);have e2:=S6.out.cell (b:=w2.heap.size) ((hB5.out.cell Be).trans f2) ae m2;have p1 : w.heap.size + 1 ≠ g3:=S6.out.ne ae m1;have S6':=hid ((S4'.out.trans (Stp.of_below hB5.out)).trans S6.out);obtain ⟨k0,k1,k2,k3,k4,k5⟩:=aK e1;have hlt6:=block_lt_of_cell e2;have hlt7:=block_lt_of_cell k0;have HF:=hid (NN)
   have HWO:=hid (fun W => ru c v W v0 v1 hv)
   clear S6 HSG HB4 HC4 HWS hS' hS'' f0 f1 f2 d0 d1 d2 hns hms hcs e1;go_wp2_with fail;have hbb:=Kq mu
   go_region_held3 (fun W => W.cell? ⟨w2.heap.size,0,none⟩ = some (.int .u8 c)) (first | assumption | (simp [go_sem]; assumption) | (rw [World.cell?_setCell_other _ _ _ _ aG,World.cell?_setCell_other _ _ _ _ aG,World.cell?_setCell_other _ _ _ _ aG]; assumption)) (first
    | (go_at_call 182; refine (HF.out _).mono ?_; rintro e w' ⟨rfl,rfl⟩)
    | (go_at_call 186; refine (HWO.out _).mono ?_; rintro e w' ⟨rfl,rfl⟩))
   all_goals
    go_wp2_with fail;refine bodyPost_ret (v:=.agg #[.int .u8 c,.bool mu,.int .u64 v]) ?_ rfl ⟨rfl,g3,eT,?_,?_⟩
    ·exact fH
    ·have:=(((W6.out.set (b:=w.heap.size + 1) (o:=0) (v:=.int .u8 c) ae p1).set (b:=w.heap.size + 1) (o:=1) (v:=.bool mu) ae p1).set (b:=w.heap.size + 1) (o:=2) (v:=.int .u64 v) ae p1).later (Below.refl _ _).drew
     simpa [cm,bit,List.append_assoc] using this
    ·exact (((S6'.out.set ae).set ae).set ae).trans (Stp.of_below ((Below.refl _ _).drew))
end Go.Proofs.YtepnnenohjfkbaaGreatDoor

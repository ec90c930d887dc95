/-
  Texts TLett TEach Heap Own Sh Code Plain ReadA ReadB ReadC Eq.
-/
import Derived.ChangeArms
import Derived.ChangeOld
import Derived.Deep.AppendLies
import Derived.Deep.Cut
import Derived.Deep.CutRange
import Derived.Deep.DeepHandedRow
import Derived.Deep.OwnRows
import Derived.Deep.RegionWith
import Derived.Deep.Strs
import Derived.Deep.WholeRow
import Derived.Defers
import Derived.FnData
import Derived.LaidMore
import Derived.Laws.AppendOwnNone
import Derived.Laws.BytesArg
import Derived.Laws.CopyRow
import Derived.Laws.IdiomCopy
import Derived.Lay
import Derived.Lib.Bytealg
import Derived.Lib.CutLaws
import Derived.Lib.SlBytesConst
import Derived.LoopIn
import Derived.LoopNIn
import Derived.OpenShut
import Derived.OwnWalkIn
import Derived.ProofKit
import Derived.RangeFuncBox
import Derived.RangeFuncCalls
import Derived.RangeFuncLeaves
import Derived.RangeFuncWrites
import Derived.Recover
import Derived.RegionDies
import Derived.SevenTiedAt
import Derived.Shelf.Abstract
import Derived.Shelf.LaysM
import Derived.Shelf.RegionOpen
import Derived.Shelf.Strings.Search1
import Derived.Shelf.Strings.Search2
import Derived.Shelf.Strings.Search3
import Derived.Shelf.Strings.Shaped
import Derived.Shelf.Unicode.Decode
import Derived.Shelf.Unicode.DecodeAny
import Derived.Shelf.Unicode.DecodeSlow
import Derived.ShutString
import Derived.SizedLaws
import Derived.Stop.Joined
import Derived.Stop.LaidErr
import Derived.TacticsInMore
import Derived.WalkMore
import Derived.ArgAppend
import Derived.Below
import Derived.BigQuiet
import Derived.Deep.QuietTactic
import Derived.Deep.RegionHeld3
import Derived.KernelRfl
import Derived.Laws.BitsAllLaws
import Derived.Deep.RegionHeld
import Derived.OrdersHeld
import Derived.RowKit
import Derived.Test.YtkdldbfbldkkcaaGreatDoorProg
import Derived.WalkKit
import Derived.WalkLawsBesides
import Derived.WalkSpells
set_option linter.unusedVariables false
set_option maxRecDepth 100000
set_option maxHeartbeats 16000000
namespace Go.Proofs.YtkdldbfbldkkcaaGreatDoor
open Go.RowKit
theorem ae {P : Prop} (h : P:=by omega) : P:=h
theorem ak {P : Prop} (h : P:=by kernel_rfl) : P:=h
theorem au {P : Prop} (h : P:=by simp) : P:=h
theorem ax {P : Prop} (h : P:=by decide) : P:=h
theorem aB {P : Prop} (h : P:=by simp [go_sem]) : P:=h
theorem aI {P : Prop} (h : P:=by simp; omega) : P:=h
theorem bB {P : Prop} (h : P:=by assumption) : P:=h
theorem bU {P : Prop} (h : P:=by go_num) : P:=h
theorem cj {P : Prop} (h : P:=by cases h) : P:=h
theorem cC {P : Prop} (h : P:=by simp [intOf]; omega) : P:=h
theorem cE {P : Prop} (h : P:=by simp <;> omega) : P:=h
theorem cH {P : Prop} (h : P:=by unfold maxLen; omega) : P:=h
theorem dJ {P : Prop} (h : P:=by unfold Addr.add; split <;> simp_all) : P:=h
theorem dH {P : Prop} (h : P:=by simp [World.setCell]) : P:=h
theorem ei {P : Prop} (h : P:=by simp at h) : P:=h
theorem eK {P : Prop} (h : P:=by simp only; omega) : P:=h
theorem fy {P : Prop} (h : P:=by simpa using W2.out) : P:=h
theorem fL {P : Prop} (h : P:=by rw [← hW0]; simp [go_sem]) : P:=h
theorem fK {P : Prop} (h : P:=by have:=HLO.out b off e hn; omega) : P:=h
theorem gj {P : Prop} (h : P:=by simpa using h1) : P:=h
theorem gp {P : Prop} (h : P:=by unfold wrap64; omega) : P:=h
theorem gm {P : Prop} (h : P:=by exact block_lt_of_cell hA) : P:=h
theorem iu {P : Prop} (h : P:=by unfold rwE; simp) : P:=h
theorem iw {P : Prop} (h : P:=by unfold rwS; simp) : P:=h
theorem jQ {P : Prop} (h : P:=by rw [ai h1]; rfl) : P:=h
theorem jF {P : Prop} (h : P:=by have:=az hq; rw [hm.pt.1] at this; omega) : P:=h
theorem lC {P : Prop} (h : P:=by rw [hE]; exact h0) : P:=h
theorem lu {P : Prop} (h : P:=by simp [hl]) : P:=h
theorem lj {P : Prop} (h : P:=by rw [hx] at hk; simpa using hk) : P:=h
theorem kX {P : Prop} (h : P:=by cases e) : P:=h
theorem lw {P : Prop} (h : P:=by rw [IntKind.wrap_u64]; omega) : P:=h
theorem lh {P : Prop} (h : P:=by rw [← hZ]; simp [encS]) : P:=h
theorem kZ {P : Prop} (h : P:=by have:=az hi; simp at this; omega) : P:=h
theorem lf {P : Prop} (h : P:=by simp only [List.length_append]; omega) : P:=h
theorem mJ {P : Prop} (h : P:=by rw [HV.out]; simp [iE]) : P:=h
theorem nt {P : Prop} (h : P:=by simpa using hs) : P:=h
theorem mP {P : Prop} (h : P:=by simpa using hY) : P:=h
theorem mU {P : Prop} (h : P:=by simp [hz]) : P:=h
theorem mL {P : Prop} (h : P:=by have:=HWS.out; omega) : P:=h
theorem ni {P : Prop} (h : P:=by exact block_lt_of_cell hO) : P:=h
theorem nk {P : Prop} (h : P:=by rw [hm]; rfl) : P:=h
theorem qd {P : Prop} (h : P:=by have e : k = V0.heap.size:=e; omega) : P:=h
theorem qO {P : Prop} (h : P:=by rw [← HE.out,BV h0]) : P:=h
theorem pF {P : Prop} (h : P:=by dsimp only; omega) : P:=h
theorem qa {P : Prop} (h : P:=by simpa using h) : P:=h
theorem ql {P : Prop} (h : P:=by simpa [Value.ownBlock] using hb) : P:=h
theorem pE {P : Prop} (h : P:=by simpa using hx) : P:=h
theorem pP {P : Prop} (h : P:=by rw [List.length_append,List.length_append]; omega) : P:=h
theorem pH {P : Prop} (h : P:=by rw [ho,World.cell?_alloc_new]; rfl) : P:=h
theorem qh {P : Prop} (h : P:=by rw [hs]; rfl) : P:=h
theorem sM {P : Prop} (h : P:=by have e0:=FA (l:=m.types) PT.out.1; have e1:=DU (l:=m.fns) PF.out.1; have e2:=Il (l:=m.data) PD.out.1; have e3:=Ir (l:=m.exps) PE.out.1; have f1:=HF1.out; have f2:=HF2.out; have f3:=HF3.out; have f4:=HF4.out; omega) : P:=h
theorem rP {P : Prop} (h : P:=by rw [hl2]; exact Tryz.siz83) : P:=h
theorem td {P : Prop} (h : P:=by exact Nat.lt_of_lt_of_le hlt hB) : P:=h
theorem uT {P : Prop} (h : P:=by simp [results,Tryz.results205,go_sem]) : P:=h
theorem tQ {P : Prop} (h : P:=by simpa [List.append_assoc] using hw') : P:=h
theorem sP {P : Prop} (h : P:=by rw [HV.out]; rfl) : P:=h
theorem uu {P : Prop} (h : P:=by rw [if_pos hw]; exact h K hK) : P:=h
theorem uz {P : Prop} (h : P:=by simpa using hi) : P:=h
theorem uy {P : Prop} (h : P:=by rw [hz2]; omega) : P:=h
theorem tU {P : Prop} (h : P:=by simpa using hj) : P:=h
theorem sK {P : Prop} (h : P:=by have:=az hj; omega) : P:=h
theorem sW {P : Prop} (h : P:=by rw [List.length_take]; omega) : P:=h
theorem uJ {P : Prop} (h : P:=by have:=hc j x hj 0 _ rfl; rwa [Nat.mul_one] at this) : P:=h
theorem sU {P : Prop} (h : P:=by first | rfl | exact d) : P:=h
theorem tZ {P : Prop} (h : P:=by have:=rJ hp; rw [this] at c2; omega) : P:=h
theorem sS {P : Prop} (h : P:=by have:=h.lt; omega) : P:=h
theorem tJ {P : Prop} (h : P:=by rw [← pt.1]; exact az hP) : P:=h
theorem tG {P : Prop} (h : P:=by have:=hM.g64; omega) : P:=h
theorem sk {P : Prop} (h : P:=by simpa using h4) : P:=h
theorem uL {P : Prop} (h : P:=by intro e; omega) : P:=h
theorem ug {P : Prop} (h : P:=by rw [hOf]; decide) : P:=h
theorem tD {P : Prop} (h : P:=by simpa using h2) : P:=h
theorem sV {P : Prop} (h : P:=by have:=HCX.out; omega) : P:=h
theorem tH {P : Prop} (h : P:=by rw [← hfa]; exact ai k1) : P:=h
theorem uB {P : Prop} (h : P:=by simp [results,Tryz.results7,go_sem]) : P:=h
theorem se {P : Prop} (h : P:=by rw [← h,List.take_length]) : P:=h
theorem G8 {P : Prop} (h : P:=by have:=az hx; omega) : P:=h
theorem xj {P : Prop} (h : P:=by rw [List.getElem?_take_of_lt hik]; exact hi) : P:=h
theorem xu {P : Prop} (h : P:=by simp [Value.ownBlock] at hB; simp; omega) : P:=h
theorem xI {P : Prop} (h : P:=by rw [IntKind.wrap_u8]; omega) : P:=h
theorem xR {P : Prop} (h : P:=by have:=L3.out; have:=HS2.out; omega) : P:=h
theorem yn {P : Prop} (h : P:=by unfold bw; rw [hl]) : P:=h
theorem ya {P : Prop} (h : P:=by have:=HLO.out b1 o1 e hn; omega) : P:=h
theorem zM {P : Prop} (h : P:=by rw [← HLN.out]; rfl) : P:=h
theorem zl {P : Prop} (h : P:=by exact block_lt_of_cell f2) : P:=h
theorem xJ {P : Prop} (h : P:=by have:=hne b off c h; simp; omega) : P:=h
theorem yY {P : Prop} (h : P:=by rw [← hln]; exact az hq) : P:=h
theorem yo {P : Prop} (h : P:=by intro h0; rw [h0] at h; cases h) : P:=h
theorem yX {P : Prop} (h : P:=by rw [e,h1'] at hO; cases hO) : P:=h
theorem yV {P : Prop} (h : P:=by rw [hop,World.cell?_alloc_new]; rfl) : P:=h
theorem zj {P : Prop} (h : P:=by simp [results,Tryz.results15,go_sem]) : P:=h
theorem yM {P : Prop} (h : P:=by rw [← hta]; exact ai k2) : P:=h
theorem Ej {P : Prop} (h : P:=by intro p q i; unfold Addr.add; split <;> simp_all) : P:=h
theorem FM {P : Prop} (h : P:=by have:=q3 i hi; rwa [hplain,hplain] at this) : P:=h
theorem Fj {P : Prop} (h : P:=by rw [h.1]; exact congrArg (fun b => Ending.returned (.bool b)) HV2.out) : P:=h
theorem Gq {P : Prop} (h : P:=by have:=HLO.out b off e hn; have:=HWS.out; omega) : P:=h
theorem Ep {P : Prop} (h : P:=by have:=HLO.out b1 o1 e hn; have:=HWS.out; omega) : P:=h
theorem Fb {P : Prop} (h : P:=by rw [List.take_add_one,List.getElem?_eq_getElem hx]; rfl) : P:=h
theorem Gb {P : Prop} (h : P:=by rw [← ht]; exact (List.take_append_drop _ _).symm) : P:=h
theorem DX {P : Prop} (h : P:=by have:=VL.out.g_lt; have:=V6.out.g_lt; omega) : P:=h
theorem A9 {P : Prop} (h : P:=by rw [ByteArray.size_append]; have:=HPl.out; omega) : P:=h
theorem Cz {P : Prop} (h : P:=by unfold ry; rw [ByteArray.size_extract]; omega) : P:=h
theorem jT {P : Prop} (h : P:=by rw [hb1.cell au]; simp [go_sem]) : P:=h
theorem BS {P : Prop} (h : P:=by rw [xG ae (fun i x y hx hy => HE.out i x y G8 hx hy)]; rfl) : P:=h
theorem Aq {P : Prop} (h : P:=by rw [eG p 256 8 ae s1]; exact l1) : P:=h
theorem Af {P : Prop} (h : P:=by rw [eG lo 256 64 ae ae]; exact hlt) : P:=h
theorem AR {P : Prop} (h : P:=by have q:=F6.out b off c hb'; exact ⟨ae,q.2.1,ae⟩) : P:=h
theorem BI {P : Prop} (h : P:=by have q:=HM.out.ff.at TL.out.s b off c hb'; have q2:=HM.out.ff b off c hb'; have:=TL.out.s.size; exact ⟨q.1,q.2,ae⟩) : P:=h
theorem ba {α : Type _} {l : List α} {i : Nat} (h : i < l.length) : l[i]? = some l[i]:=List.getElem?_eq_getElem h
theorem KL {P : Prop} (h : P:=by
  clear hlt;go_wp2_with fail
  go_loopw [3,5] (fun s i wr => ∃ k z : Nat,k ≤ m.fn ∧ s = .int .i64 (z : Nat) ∧ i = .int .i64 k ∧ (∃ q,wr = W0.drewN q) ∧ z ≤ 1125899906842624 ∧ Hid (z1 + kG (m.fns.take k) ≤ z)) (fun _ i _ => m.fn - (intOf i).toNat)
  case atStart => exact ⟨0,z1,ae,rfl,rfl,⟨_,rfl⟩,ae,hid (by simp [kG])⟩
  case round =>
   obtain ⟨k,z2,hk,rfl,rfl,⟨q2,rfl⟩,hz2,HF2⟩:=hrel
   by_cases hlt : k < m.fn
   ·have hlt' : (k : Int) < (m.fn : Int):=ae
    by_cases hbd : z2 ≤ 2147483647
    ·obtain ⟨x,hxk⟩ : ∃ x,m.fns[k]? = some x:=⟨_,ba (by rw [PF.out.1]; exact hlt)⟩
     obtain ⟨b,off,hfa,hat⟩:=PF.out.2.resolve_left ae;have hat:=hat k x hxk;have hu:=UF.out k x hxk;have hk0 : (0 : Int) ≤ (k : Int):=ae;have hbd' : (z2 : Int) ≤ 2147483647:=ae;have hbq : decide ((z2 : Int) ≤ 2147483647) = true:=decide_eq_true hbd';rw [hfa] at m5;obtain ⟨_,g0,g1⟩:=hat
     have H29 : Hid (∀ n,Calls Tryz.prog 14 #[.slice x.2.2.1.1 x.2.2.1.2.1 x.2.2.1.2.2] (W0.drewN (q2 + n)) fun e w'' => e = .returned (.int .i64 (szG x.2.2.2 x.2.2.1.2.1 : Nat)) ∧ ∃ n',w'' = W0.drewN (q2 + n')):=hid (fun (n : Nat) => (Jf x.2.2.1.1 x.2.2.1.2.1 x.2.2.1.2.2 x.2.2.2 (W0.drewN (q2 + n)) hu.2.1 ((PI.out k x hxk).kept (aX (S:=fun _ => False) (below_drewN W0 (q2 + n))) (fun _ _ _ _ => id)) hu.2.2.2).mono fun e w' ⟨he,q,hq⟩ => ⟨he,n + q,by rw [hq,World.drewN_drewN,Nat.add_assoc]⟩)
     have hsg:=BQ x.2.2.2 x.2.2.1.2.1 hu.2.2.2 ae;have hsl : ((szG x.2.2.2 x.2.2.1.2.1 : Nat) : Int) ≤ 281474976710656:=ae;rw [hfa];go_wp2_with fail
     go_quiet ((go_at_call 14; exact H29.out _))
     go_wp2_with fail
     exact ⟨⟨k + 1,z2 + x.2.1.size + szG x.2.2.2 x.2.2.1.2.1,ae,bU,bU,⟨_,rfl⟩,ae,hid (by have:=HF2.out; rw [yT hxk]; omega)⟩,cC⟩
    ·have hbd' : ¬ (z2 : Int) ≤ 2147483647:=ae;have hbq : decide ((z2 : Int) ≤ 2147483647) = false:=decide_eq_false hbd';clear hlt;go_wp2_with fail
     go_loopw [3,6] (fun s i wr => ∃ k z : Nat,k ≤ m.dn ∧ s = .int .i64 (z : Nat) ∧ i = .int .i64 k ∧ (∃ q,wr = W0.drewN q) ∧ z ≤ 1125899906842624 ∧ Hid (z2 + nZ (m.data.take k) ≤ z)) (fun _ i _ => m.dn - (intOf i).toNat)
     case atStart => exact ⟨0,z2,ae,rfl,rfl,⟨_,rfl⟩,ae,hid (by simp [nZ])⟩
     case round =>
      obtain ⟨k,z3,hk,rfl,rfl,⟨q3,rfl⟩,hz3,HF3⟩:=hrel
      by_cases hlt : k < m.dn
      ·exact AQ
      ·obtain rfl : k = m.dn:=ae;clear hlt;go_wp2_with fail
       go_loopw [3,7] (fun s i wr => ∃ k z : Nat,k ≤ m.en ∧ s = .int .i64 (z : Nat) ∧ i = .int .i64 k ∧ (∃ q,wr = W0.drewN q) ∧ z ≤ 1125899906842624 ∧ Hid (z3 + mF (m.exps.take k) ≤ z)) (fun _ i _ => m.en - (intOf i).toNat)
       case atStart => exact ⟨0,z3,ae,rfl,rfl,⟨_,rfl⟩,ae,hid (by simp [mF])⟩
       case round =>
        obtain ⟨k,z4,hk,rfl,rfl,⟨q4,rfl⟩,hz4,HF4⟩:=hrel
        by_cases hlt : k < m.en
        ·exact zS
        ·obtain rfl : k = m.en:=ae;exact AU
   ·obtain rfl : k = m.fn:=ae;clear hlt;go_wp2_with fail
    go_loopw [3,6] (fun s i wr => ∃ k z : Nat,k ≤ m.dn ∧ s = .int .i64 (z : Nat) ∧ i = .int .i64 k ∧ (∃ q,wr = W0.drewN q) ∧ z ≤ 1125899906842624 ∧ Hid (z2 + nZ (m.data.take k) ≤ z)) (fun _ i _ => m.dn - (intOf i).toNat)
    case atStart => exact ⟨0,z2,ae,rfl,rfl,⟨_,rfl⟩,ae,hid (by simp [nZ])⟩
    case round =>
     obtain ⟨k,z3,hk,rfl,rfl,⟨q3,rfl⟩,hz3,HF3⟩:=hrel
     by_cases hlt : k < m.dn
     ·exact AQ
     ·obtain rfl : k = m.dn:=ae;clear hlt;go_wp2_with fail
      go_loopw [3,7] (fun s i wr => ∃ k z : Nat,k ≤ m.en ∧ s = .int .i64 (z : Nat) ∧ i = .int .i64 k ∧ (∃ q,wr = W0.drewN q) ∧ z ≤ 1125899906842624 ∧ Hid (z3 + mF (m.exps.take k) ≤ z)) (fun _ i _ => m.en - (intOf i).toNat)
      case atStart => exact ⟨0,z3,ae,rfl,rfl,⟨_,rfl⟩,ae,hid (by simp [mF])⟩
      case round =>
       obtain ⟨k,z4,hk,rfl,rfl,⟨q4,rfl⟩,hz4,HF4⟩:=hrel
       by_cases hlt : k < m.en
       ·exact zS
       ·obtain rfl : k = m.en:=ae;clear hlt;go_wp2_with fail;go_ret
        exact ⟨z4,rfl,BW.out.trans (BW2.out _),fun h4 => sM⟩
 ) : P:=h
theorem Ky {P : Prop} (h : P:=by
  refine dK (i:=0) rfl ?_;(try simp only [Act.put,sIB,sC0,sCs]);refine dK (i:=1) rfl ?_;(try simp only [Act.put,sIB,sC0,sCs]);refine dK (i:=2) rfl ?_;(try simp only [Act.put,sIB,sC0,sCs]);refine dK (i:=3) rfl ?_;(try simp only [Act.put,sIB,sC0,sCs]);refine dK (i:=4) rfl ?_;(try simp only [Act.put,sIB,sC0,sCs]);refine dK (i:=5) rfl ?_;(try simp only [Act.put,sIB,sC0,sCs]);refine dK (i:=6) rfl ?_;(try simp only [Act.put,sIB,sC0,sCs]);refine dK (i:=7) rfl ?_;(try simp only [Act.put,sIB,sC0,sCs]);refine dK (i:=8) rfl ?_;(try simp only [Act.put,sIB,sC0,sCs]);refine dK (i:=9) rfl ?_;(try simp only [Act.put,sIB,sC0,sCs]);refine dK (i:=10) rfl ?_;(try simp only [Act.put,sIB,sC0,sCs]);refine dK (i:=11) rfl ?_;(try simp only [Act.put,sIB,sC0,sCs]);refine eZ (rs:=[12]) ?_
  refine dO (i:=12) rfl (fun K hK => ?_) rN
  go_simp;refine (HA1.out _ B5.out).mono ?_;rintro e w6 ⟨rfl,hb6⟩;have B6:=hid (B5.out.trans (hb6.mono B5.out.size))
  refine hK.out _ _ (HMK.out _ B6.out) (fun _ => ?_)
  clear hK K hb6 hS5
  cases hall : nY ll (P ++ lo)
  ·refine dK (i:=13) (oi:={ dst:=some 83,op:=.move (.tmp 82),type:=4,pos:= "places.go:78",after:=#[⟨12,.data⟩,⟨12,.chain⟩],guard:=none }) rfl ?_;(try simp only [Act.put,sIB,sC0,sCs]);refine tkN (i:=14) (oi:={ dst:=some 84,op:=.fieldAddr 54 (.tmp 7) 3,type:=0,pos:= "places.go:78",after:=#[⟨13,.guard⟩],guard:=some (13,true) }) rfl ?_;(try simp only [Act.put,sIB,sC0,sCs]);refine tkN (i:=15) (oi:={ dst:=some 85,op:=.load 31 (.tmp 84),type:=31,pos:= "places.go:78",after:=#[⟨14,.data⟩,⟨13,.guard⟩],guard:=some (13,true) }) rfl ?_;(try simp only [Act.put,sIB,sC0,sCs]);refine tkN (i:=16) (oi:={ dst:=some 86,op:=.move (.tmp 9),type:=9,pos:= "places.go:78",after:=#[⟨13,.guard⟩],guard:=some (13,true) }) rfl ?_;(try simp only [Act.put,sIB,sC0,sCs]);refine tkN (i:=17) (oi:={ dst:=some 87,op:=.call { callee:=.value (.func 65),args:=#[.tmp 85,.tmp 86],argTypes:=#[31,9] },type:=4,pos:= "places.go:78",after:=#[⟨15,.data⟩,⟨16,.data⟩,⟨13,.chain⟩,⟨13,.guard⟩],guard:=some (13,true) }) rfl ?_;(try simp only [Act.put,sIB,sC0,sCs]);refine dK (i:=18) (oi:={ dst:=some 88,op:=.pick (.tmp 83) (.tmp 87) (.const (Go.Value.bool false)),type:=4,pos:= "places.go:78",after:=#[⟨13,.data⟩,⟨17,.data⟩],guard:=none }) rfl ?_;(try simp only [Act.put,sIB,sC0,sCs]);refine dK (i:=19) (oi:={ dst:=some 6,op:=.assign (.tmp 88),type:=4,pos:= "places.go:78",after:=#[⟨18,.data⟩,⟨17,.chain⟩,⟨0,.phase⟩,⟨1,.phase⟩,⟨2,.phase⟩,⟨3,.phase⟩,⟨4,.phase⟩,⟨5,.phase⟩,⟨6,.phase⟩,⟨7,.phase⟩,⟨8,.phase⟩,⟨9,.phase⟩,⟨10,.phase⟩,⟨11,.phase⟩,⟨12,.phase⟩,⟨13,.phase⟩,⟨14,.phase⟩,⟨15,.phase⟩,⟨16,.phase⟩,⟨17,.phase⟩,⟨18,.phase⟩],guard:=none }) rfl ?_;(try simp only [Act.put,sIB,sC0,sCs]);refine wpAnyH_done ak ?_ _;go_wp2_with fail;go_ret
   exact ⟨by rw [hall]; rfl,HBz.out.trans (B6.out.mono HBz.out.size)⟩
  ·refine dK (i:=13) (oi:={ dst:=some 83,op:=.move (.tmp 82),type:=4,pos:= "places.go:78",after:=#[⟨12,.data⟩,⟨12,.chain⟩],guard:=none }) rfl ?_;(try simp only [Act.put,sIB,sC0,sCs]);refine dK (i:=14) (oi:={ dst:=some 84,op:=.fieldAddr 54 (.tmp 7) 3,type:=0,pos:= "places.go:78",after:=#[⟨13,.guard⟩],guard:=some (13,true) }) rfl ?_;(try simp only [Act.put,sIB,sC0,sCs]);refine dK (i:=15) (oi:={ dst:=some 85,op:=.load 31 (.tmp 84),type:=31,pos:= "places.go:78",after:=#[⟨14,.data⟩,⟨13,.guard⟩],guard:=some (13,true) }) rfl ?_;(try simp only [Act.put,sIB,sC0,sCs]);refine dK (i:=16) (oi:={ dst:=some 86,op:=.move (.tmp 9),type:=9,pos:= "places.go:78",after:=#[⟨13,.guard⟩],guard:=some (13,true) }) rfl ?_;(try simp only [Act.put,sIB,sC0,sCs]);refine eZ (rs:=[17]) ?_
   refine dO (i:=17) rfl (fun K hK => ?_) rN
   go_simp;refine (HA2.out _ B6.out).mono ?_;rintro e w7 ⟨rfl,hb7⟩;have B7:=hid (B6.out.trans (hb7.mono B6.out.size))
   refine hK.out _ _ (HMK.out _ B7.out) (fun _ => ?_)
   clear hK K hb7;refine dK (i:=18) (oi:={ dst:=some 88,op:=.pick (.tmp 83) (.tmp 87) (.const (Go.Value.bool false)),type:=4,pos:= "places.go:78",after:=#[⟨13,.data⟩,⟨17,.data⟩],guard:=none }) rfl ?_;(try simp only [Act.put,sIB,sC0,sCs]);refine dK (i:=19) (oi:={ dst:=some 6,op:=.assign (.tmp 88),type:=4,pos:= "places.go:78",after:=#[⟨18,.data⟩,⟨17,.chain⟩,⟨0,.phase⟩,⟨1,.phase⟩,⟨2,.phase⟩,⟨3,.phase⟩,⟨4,.phase⟩,⟨5,.phase⟩,⟨6,.phase⟩,⟨7,.phase⟩,⟨8,.phase⟩,⟨9,.phase⟩,⟨10,.phase⟩,⟨11,.phase⟩,⟨12,.phase⟩,⟨13,.phase⟩,⟨14,.phase⟩,⟨15,.phase⟩,⟨16,.phase⟩,⟨17,.phase⟩,⟨18,.phase⟩],guard:=none }) rfl ?_;(try simp only [Act.put,sIB,sC0,sCs]);refine wpAnyH_done ak ?_ _;go_wp2_with fail;go_ret
   exact ⟨by rw [hall]; rfl,HBz.out.trans (B7.out.mono HBz.out.size)⟩
 ) : P:=h
theorem Gd {P : Prop} (h : P:=by
  refine (fk _ _).mono ?_;rintro e w2 ⟨rfl,hw2⟩;obtain rfl:=hw2.symm;have f17:=HC.out.free 17;go_wp2_with fail;have HC1:=hid (HC.out.putDead hA false);have y0:=aT (i:=17) (x:=.bool false) x0 hX.1;have y1:=aT (i:=17) (x:=.bool false) x1 hX.1;have y2:=aT (i:=17) (x:=.bool false) x2 hX.1;clear c17 f17 x0 x1 x2 HC;generalize W0.setCell ⟨v.C,17,none⟩ (.bool false) = W1 at *;have c9:=HC1.out.shc;have c16 : W1.cell? ⟨v.C,16,none⟩ = some (.int .i64 s.pc):=HC1.out.pc;have c15 : W1.cell? ⟨v.C,15,none⟩ = some (.string s.st):=HC1.out.st;have p0 : (0 : Int) ≤ (s.pc : Int):=ae
  have p1 : (s.pc : Int) < (v.n : Int):=by have:=hk.pn; omega
  obtain ⟨u,hu⟩ : ∃ u,W1.cell? ⟨v.SH,s.pc,none⟩ = some u:=by
   rw [HC1.out.sh.cell s.pc hk.pn]
   exact ⟨_,ba (by simp [hsl]; exact hk.pn)⟩
  have fs:=HC1.out.sh.free s.pc
  go_region
  have HC2:=hid (show CI v w1 (W1.setCell ⟨v.SH,s.pc,none⟩ (.string s.st)).drew _ from (HC1.out.putSh hA s.pc s.st).later hA (below_drewN _ 1));have z0 : (W1.setCell ⟨v.SH,s.pc,none⟩ (.string s.st)).drew.cell? ⟨w.heap.size,0,none⟩ = _:=ag (below_drewN _ 1) (aT (i:=s.pc) (x:=.string s.st) y0 hX.2.1);have z1 : (W1.setCell ⟨v.SH,s.pc,none⟩ (.string s.st)).drew.cell? ⟨w.heap.size,1,none⟩ = _:=ag (below_drewN _ 1) (aT (i:=s.pc) (x:=.string s.st) y1 hX.2.1);have z2 : (W1.setCell ⟨v.SH,s.pc,none⟩ (.string s.st)).drew.cell? ⟨w.heap.size,2,none⟩ = _:=ag (below_drewN _ 1) (aT (i:=s.pc) (x:=.string s.st) y2 hX.2.1);clear c9 c16 c15 hu fs y0 y1 y2 HC1;go_wp2_with fail;generalize (W1.setCell ⟨v.SH,s.pc,none⟩ (.string s.st)).drew = W2 at *;have c12:=HC2.out.flc;have c16 : W2.cell? ⟨v.C,16,none⟩ = some (.int .i64 s.pc):=HC2.out.pc;have cf:=HC2.out.fl.cell s.pc hk.pn;have ff:=HC2.out.fl.free s.pc
  go_region
  have HC3:=hid (show CI v w1 (W2.setCell ⟨v.FL,s.pc,none⟩ (.int .i64 (-1))).drew _ from (HC2.out.putFl hA s.pc (-1)).later hA (below_drewN _ 1));have y0 : (W2.setCell ⟨v.FL,s.pc,none⟩ (.int .i64 (-1))).drew.cell? ⟨w.heap.size,0,none⟩ = _:=ag (below_drewN _ 1) (aT (i:=s.pc) (x:=.int .i64 (-1)) z0 hX.2.2);have y1 : (W2.setCell ⟨v.FL,s.pc,none⟩ (.int .i64 (-1))).drew.cell? ⟨w.heap.size,1,none⟩ = _:=ag (below_drewN _ 1) (aT (i:=s.pc) (x:=.int .i64 (-1)) z1 hX.2.2);have y2 : (W2.setCell ⟨v.FL,s.pc,none⟩ (.int .i64 (-1))).drew.cell? ⟨w.heap.size,2,none⟩ = _:=ag (below_drewN _ 1) (aT (i:=s.pc) (x:=.int .i64 (-1)) z2 hX.2.2);clear c12 c16 cf ff z0 z1 z2 HC2;go_wp2_with fail;generalize (W2.setCell ⟨v.FL,s.pc,none⟩ (.int .i64 (-1))).drew = W3 at *;have c13 : W3.cell? ⟨v.C,13,none⟩ = some (.int .i64 s.hi):=HC3.out.hi;have c15 : W3.cell? ⟨v.C,15,none⟩ = some (.string s.st):=HC3.out.st;have f13:=HC3.out.free 13
  go_region
  have hmax : ((max s.hi s.st.size : Nat) : Int) = max (s.hi : Int) (s.st.size : Int):=ae
  have HC4:=hid (show CI v w1 (W3.setCell ⟨v.C,13,none⟩ (.int .i64 (max (s.hi : Int) (s.st.size : Int)))).drew (nD s) by
   rw [← hmax]; exact (HC3.out.putHi hA (max s.hi s.st.size)).later hA (below_drewN _ 1))
  have z0 : (W3.setCell ⟨v.C,13,none⟩ (.int .i64 (max (s.hi : Int) (s.st.size : Int)))).drew.cell? ⟨w.heap.size,0,none⟩ = _:=ag (below_drewN _ 1) (aT (i:=13) (x:=.int .i64 (max (s.hi : Int) (s.st.size : Int))) y0 hX.1);have z1 : (W3.setCell ⟨v.C,13,none⟩ (.int .i64 (max (s.hi : Int) (s.st.size : Int)))).drew.cell? ⟨w.heap.size,1,none⟩ = _:=ag (below_drewN _ 1) (aT (i:=13) (x:=.int .i64 (max (s.hi : Int) (s.st.size : Int))) y1 hX.1);have z2 : (W3.setCell ⟨v.C,13,none⟩ (.int .i64 (max (s.hi : Int) (s.st.size : Int)))).drew.cell? ⟨w.heap.size,2,none⟩ = _:=ag (below_drewN _ 1) (aT (i:=13) (x:=.int .i64 (max (s.hi : Int) (s.st.size : Int))) y2 hX.1);clear c13 c15 f13 y0 y1 y2 HC3 hmax;go_wp2_with fail;generalize (W3.setCell ⟨v.C,13,none⟩ (.int .i64 (max (s.hi : Int) (s.st.size : Int)))).drew = W4 at *;refine (HR.out _ HC4.out).mono ?_
  rintro e w9 (⟨e0,rfl,hc⟩ | ⟨e0,rfl,hb⟩)
  ·have HC9:=hid hc;clear hc;go_wp2_with fail;go_end0;exact .inl ⟨e0,rfl,HC9.out⟩
  ·exact ⟨rfl,.inr ⟨e0,rfl,hb⟩⟩
 ) : P:=h
theorem Km {P : Prop} (h : P:=by
  go_wp2_with fail;generalize wr.alloc (aW x.1 x.2.1 x.2.2.1.1 x.2.2.1.2.1 x.2.2.1.2.2) = W at *;have hszW:=BN.out.size;refine HC1.out.mono ?_;rintro e w5 ⟨y,rfl,hok,g4,cap4,hw5,hs5,hl5⟩;have hgr : g3 < wr.heap.size:=HWR.out.g_lt;have hRr : R < wr.heap.size:=HWR.out.lt
  have row5 : w5.ownsRow 0 59 3 (.slice aa j ac) j (ys.flatMap ol):=aJ HRW.out (fun B hB => by
   have h1:=aF HRW.out hB;have h2 : ∃ a,aa = some a ∧ a.block = B:=gU hB;obtain ⟨a,ha1,ha2⟩:=h2;have h3:=HAB.out a ha1;have h4:=HST.out.size;exact (hs5.block (b:=B) ae ae ae ae).trans (BN.out.block B h1))
  have gg4:=hw5.g_lt
  have hab5 : ∀ b,aa = some b → b.block ≠ g4 ∧ b.block < w5.heap.size:=fun a ha1 => by
   exact jo
  have W5:=hid hw5;have S5:=hid (HST.out.trans ((dZ.of_below BN.out).trans hs5));have L5:=hid hl5
  have hL4 : L ≠ g4:=hs5.ne (by have:=HST.out.size; omega) hlg
  have O5:=hid hok;have BN5:=hid (aj w5 (aW y.1 y.2.1 y.2.2.1 y.2.2.2.1 y.2.2.2.2))
  have R6:=hid (aJ (w':=w5.alloc (aW y.1 y.2.1 y.2.2.1 y.2.2.2.1 y.2.2.2.2)) row5 (fun B hB => BN5.out.block B (aF row5 hB)))
  have HAB5:=hid hab5;have NC:=hid (vW w5 y);have hz6 : (w5.alloc (aW y.1 y.2.1 y.2.2.1 y.2.2.2.1 y.2.2.2.2)).heap.size = w5.heap.size + 1:=au;clear hw5 hs5 row5 hab5 HC1 hok hl5
  go_wp2_with (at_builtin; (refine fU _ rfl (.tmp 28) (.tmp 33) 25 rfl 59 i0 _ 3 48 Tryz.underlying25 hi hz0 hz1 hz2 rfl ax _ j _ rfl R6.out ⟨w5.heap.size,0,none⟩ 1 1 (ol y) rfl rfl NC.out (vF y) ae cH ae ?_; intro B cap7 w7 hrow7 hor7; have R7:=hid hrow7; have OR7:=hid hor7; clear hrow7 hor7))
  generalize w5.alloc (aW y.1 y.2.1 y.2.2.1 y.2.2.2.1 y.2.2.2.2) = W6 at *
  have hBn : w.heap.size ≤ B ∧ B ≠ g4 ∧ Kept (fun k => k = B) W6 w7:=by
   exact jh
  have hRw:=S5.out.size
  go_roundw
  ·refine ⟨j + 1,ys ++ [y],some ⟨B,0,none⟩,cap7,g4,cap4,ae,rfl,rfl,by simp [hyl],?_,?_,?_,?_,?_,?_,hL4⟩
   ·exact AC
   ·have:=R7.out
    simpa [fO] using this
   ·intro b' hb'
    simp at hb'
    subst hb';exact ⟨hBn.1,hBn.2.1⟩
   ·exact A7
   ·exact ⟨(S5.out.k.trans (aX BN5.out)).then hBn.2.2 (fun k hk hkB => by have:=hBn.1; omega),S5.out.m⟩
   ·exact (L5.out.later BN5.out).kept hBn.2.2 (by have:=hBn.1; omega)
  ·simp [intOf]; omega
 ) : P:=h
theorem Lf {P : Prop} (h : P:=by
  go_wp2_with fail;generalize wr.alloc (bG x.1 x.2.1 x.2.2.1.1 x.2.2.1.2.1 x.2.2.1.2.2) = W at *;have hszW:=BN.out.size;refine HC1.out.mono ?_;rintro e w5 ⟨y,rfl,hok,g4,cap4,hw5,hs5⟩;have hgr : g3 < wr.heap.size:=HWR.out.g_lt;have hRr : R < wr.heap.size:=HWR.out.lt
  have row5 : w5.ownsRow 0 82 3 (.slice aa j ac) j (ys.flatMap og):=aJ HRW.out (fun B hB => by
   have h1:=aF HRW.out hB;have h2 : ∃ a,aa = some a ∧ a.block = B:=gU hB;obtain ⟨a,ha1,ha2⟩:=h2;have h3:=HAB.out a ha1;have h4:=HST.out.size;exact (hs5.block (b:=B) ae ae ae).trans (BN.out.block B h1))
  have gg4:=hw5.g_lt
  have hab5 : ∀ b,aa = some b → b.block ≠ g4 ∧ b.block < w5.heap.size:=fun a ha1 => by
   exact jo
  have W5:=hid hw5;have S5:=hid (HST.out.trans ((Stp.of_below BN.out).trans hs5));have O5:=hid hok;have BN5:=hid (aj w5 (bG y.1 y.2.1 y.2.2.1 y.2.2.2.1 y.2.2.2.2))
  have R6:=hid (aJ (w':=w5.alloc (bG y.1 y.2.1 y.2.2.1 y.2.2.2.1 y.2.2.2.2)) row5 (fun B hB => BN5.out.block B (aF row5 hB)))
  have HAB5:=hid hab5;have NC:=hid (vS w5 y);have hz6 : (w5.alloc (bG y.1 y.2.1 y.2.2.1 y.2.2.2.1 y.2.2.2.2)).heap.size = w5.heap.size + 1:=au;clear hw5 hs5 row5 hab5 HC1 hok
  go_wp2_with (at_builtin; (refine fU _ rfl (.tmp 28) (.tmp 33) 57 rfl 82 i0 _ 3 40 Tryz.underlying57 hi hz0 hz1 hz2 rfl ax _ j _ rfl R6.out ⟨w5.heap.size,0,none⟩ 1 1 (og y) rfl rfl NC.out (wh y) ae cH ae ?_; intro B cap7 w7 hrow7 hor7; have R7:=hid hrow7; have OR7:=hid hor7; clear hrow7 hor7))
  generalize w5.alloc (bG y.1 y.2.1 y.2.2.1 y.2.2.2.1 y.2.2.2.2) = W6 at *
  have hBn : w.heap.size ≤ B ∧ B ≠ g4 ∧ Kept (fun k => k = B) W6 w7:=by
   exact jh
  have hRw:=S5.out.size
  go_roundw
  ·exact jS
  ·simp [intOf]; omega
 ) : P:=h
theorem K9 {P : Prop} (h : P:=by
  go_wp2_with fail;generalize wr.alloc (bO x.1 x.2.1.1 x.2.1.2.1 x.2.1.2.2) = W at *;have hszW:=BN.out.size;refine HC1.out.mono ?_;rintro e w5 ⟨y,rfl,hok,g4,cap4,hw5,hs5⟩;have hgr : g3 < wr.heap.size:=HWR.out.g_lt;have hRr : R < wr.heap.size:=HWR.out.lt
  have row5 : w5.ownsRow 0 62 2 (.slice aa j ac) j (ys.flatMap ig):=aJ HRW.out (fun B hB => by
   have h1:=aF HRW.out hB;have h2 : ∃ a,aa = some a ∧ a.block = B:=gU hB;obtain ⟨a,ha1,ha2⟩:=h2;have h3:=HAB.out a ha1;have h4:=HST.out.size;exact (hs5.block (b:=B) ae ae ae).trans (BN.out.block B h1))
  have gg4:=hw5.g_lt
  have hab5 : ∀ b,aa = some b → b.block ≠ g4 ∧ b.block < w5.heap.size:=fun a ha1 => by
   exact jo
  have W5:=hid hw5;have S5:=hid (HST.out.trans ((Stp.of_below BN.out).trans hs5));have O5:=hid hok;have BN5:=hid (aj w5 (bO y.1 y.2.1 y.2.2.1 y.2.2.2))
  have R6:=hid (aJ (w':=w5.alloc (bO y.1 y.2.1 y.2.2.1 y.2.2.2)) row5 (fun B hB => BN5.out.block B (aF row5 hB)))
  have HAB5:=hid hab5;have NC:=hid (vt w5 y);have hz6 : (w5.alloc (bO y.1 y.2.1 y.2.2.1 y.2.2.2)).heap.size = w5.heap.size + 1:=au;clear hw5 hs5 row5 hab5 HC1 hok
  go_wp2_with (at_builtin; (refine fU _ rfl (.tmp 28) (.tmp 33) 26 rfl 62 i0 _ 2 32 Tryz.underlying26 hi hz0 hz1 hz2 rfl ax _ j _ rfl R6.out ⟨w5.heap.size,0,none⟩ 1 1 (ig y) rfl rfl NC.out (vH y) ae cH ae ?_; intro B cap7 w7 hrow7 hor7; have R7:=hid hrow7; have OR7:=hid hor7; clear hrow7 hor7))
  generalize w5.alloc (bO y.1 y.2.1 y.2.2.1 y.2.2.2) = W6 at *
  have hBn : w.heap.size ≤ B ∧ B ≠ g4 ∧ Kept (fun k => k = B) W6 w7:=by
   exact jh
  have hRw:=S5.out.size
  go_roundw
  ·exact jS
  ·simp [intOf]; omega
 ) : P:=h
theorem Kz {P : Prop} (h : P:=by
  go_wp2_with fail;generalize wr.alloc (bh x.1 x.2.1 x.2.2) = W at *;have hszW:=BN.out.size;refine HC1.out.mono ?_;rintro e w5 ⟨y,rfl,hok,g4,cap4,hw5,hs5⟩;have hgr : g3 < wr.heap.size:=HWR.out.g_lt;have hRr : R < wr.heap.size:=HWR.out.lt
  have row5 : w5.ownsRow 0 123 3 (.slice aa j ac) j (ys.flatMap oq):=aJ HRW.out (fun B hB => by
   have h1:=aF HRW.out hB;have h2 : ∃ a,aa = some a ∧ a.block = B:=gU hB;obtain ⟨a,ha1,ha2⟩:=h2;have h3:=HAB.out a ha1;have h4:=HST.out.size;exact (hs5.block (b:=B) ae ae ae).trans (BN.out.block B h1))
  have gg4:=hw5.g_lt
  have hab5 : ∀ b,aa = some b → b.block ≠ g4 ∧ b.block < w5.heap.size:=fun a ha1 => by
   exact jo
  have W5:=hid hw5;have S5:=hid (HST.out.trans ((Stp.of_below BN.out).trans hs5));have O5:=hid hok;have BN5:=hid (aj w5 (bh y.1 y.2.1 y.2.2))
  have R6:=hid (aJ (w':=w5.alloc (bh y.1 y.2.1 y.2.2)) row5 (fun B hB => BN5.out.block B (aF row5 hB)))
  have HAB5:=hid hab5;have NC:=hid (vN w5 y);have hz6 : (w5.alloc (bh y.1 y.2.1 y.2.2)).heap.size = w5.heap.size + 1:=au;clear hw5 hs5 row5 hab5 HC1 hok
  go_wp2_with (at_builtin; (refine fU _ rfl (.tmp 28) (.tmp 33) 24 rfl 123 i0 _ 3 16 Tryz.underlying24 hi hz0 hz1 hz2 rfl ax _ j _ rfl R6.out ⟨w5.heap.size,0,none⟩ 1 1 (oq y) rfl rfl NC.out (wj y) ae cH ae ?_; intro B cap7 w7 hrow7 hor7; have R7:=hid hrow7; have OR7:=hid hor7; clear hrow7 hor7))
  generalize w5.alloc (bh y.1 y.2.1 y.2.2) = W6 at *
  have hBn : w.heap.size ≤ B ∧ B ≠ g4 ∧ Kept (fun k => k = B) W6 w7:=by
   exact jh
  have hRw:=S5.out.size
  go_roundw
  ·exact jS
  ·simp [intOf]; omega
 ) : P:=h
theorem Lg {P : Prop} (h : P:=by
  go_wp2_with fail;generalize wr.alloc (bM x.1 x.2) = W at *;have hszW:=BN.out.size;refine HC1.out.mono ?_;rintro e w5 ⟨y,rfl,hok,g4,cap4,hw5,hs5⟩;have hgr : g3 < wr.heap.size:=HWR.out.g_lt;have hRr : R < wr.heap.size:=HWR.out.lt
  have row5 : w5.ownsRow 0 64 2 (.slice aa j ac) j (ys.flatMap iB):=aJ HRW.out (fun B hB => by
   have h1:=aF HRW.out hB;have h2 : ∃ a,aa = some a ∧ a.block = B:=gU hB;obtain ⟨a,ha1,ha2⟩:=h2;have h3:=HAB.out a ha1;have h4:=HST.out.size;exact (hs5.block (b:=B) ae ae ae).trans (BN.out.block B h1))
  have gg4:=hw5.g_lt
  have hab5 : ∀ b,aa = some b → b.block ≠ g4 ∧ b.block < w5.heap.size:=fun a ha1 => by
   exact jo
  have W5:=hid hw5;have S5:=hid (HST.out.trans ((Stp.of_below BN.out).trans hs5));have O5:=hid hok;have BN5:=hid (aj w5 (bM y.1 y.2))
  have R6:=hid (aJ (w':=w5.alloc (bM y.1 y.2)) row5 (fun B hB => BN5.out.block B (aF row5 hB)))
  have HAB5:=hid hab5;have NC:=hid (wS w5 y);have hz6 : (w5.alloc (bM y.1 y.2)).heap.size = w5.heap.size + 1:=au;clear hw5 hs5 row5 hab5 HC1 hok
  go_wp2_with (at_builtin; (refine fU _ rfl (.tmp 28) (.tmp 33) 27 rfl 64 i0 _ 2 24 Tryz.underlying27 hi hz0 hz1 hz2 rfl ax _ j _ rfl R6.out ⟨w5.heap.size,0,none⟩ 1 1 (iB y) rfl rfl NC.out (uY y) ae cH ae ?_; intro B cap7 w7 hrow7 hor7; have R7:=hid hrow7; have OR7:=hid hor7; clear hrow7 hor7))
  generalize w5.alloc (bM y.1 y.2) = W6 at *
  have hBn : w.heap.size ≤ B ∧ B ≠ g4 ∧ Kept (fun k => k = B) W6 w7:=by
   exact jh
  have hRw:=S5.out.size
  go_roundw
  ·exact jS
  ·simp [intOf]; omega
 ) : P:=h
theorem KO {P : Prop} (h : P:=by
  go_wp2_with fail;generalize wr.alloc (bD x.1 x.2) = W at *;have hszW:=BN.out.size;refine HC1.out.mono ?_;rintro e w5 ⟨y,rfl,hok,g4,cap4,hw5,hs5⟩;have hgr : g3 < wr.heap.size:=HWR.out.g_lt;have hRr : R < wr.heap.size:=HWR.out.lt
  have row5 : w5.ownsRow 0 56 2 (.slice aa j ac) j (ys.flatMap gv):=aJ HRW.out (fun B hB => by
   have h1:=aF HRW.out hB;have h2 : ∃ a,aa = some a ∧ a.block = B:=gU hB;obtain ⟨a,ha1,ha2⟩:=h2;have h3:=HAB.out a ha1;have h4:=HST.out.size;exact (hs5.block (b:=B) ae ae ae).trans (BN.out.block B h1))
  have gg4:=hw5.g_lt
  have hab5 : ∀ b,aa = some b → b.block ≠ g4 ∧ b.block < w5.heap.size:=fun a ha1 => by
   exact jo
  have W5:=hid hw5;have S5:=hid (HST.out.trans ((Stp.of_below BN.out).trans hs5));have O5:=hid hok;have BN5:=hid (aj w5 (bD y.1 y.2))
  have R6:=hid (aJ (w':=w5.alloc (bD y.1 y.2)) row5 (fun B hB => BN5.out.block B (aF row5 hB)))
  have HAB5:=hid hab5;have NC:=hid (uS w5 y);have hz6 : (w5.alloc (bD y.1 y.2)).heap.size = w5.heap.size + 1:=au;clear hw5 hs5 row5 hab5 HC1 hok
  go_wp2_with (at_builtin; (refine fU _ rfl (.tmp 28) (.tmp 33) 22 rfl 56 i0 _ 2 32 Tryz.underlying22 hi hz0 hz1 hz2 rfl ax _ j _ rfl R6.out ⟨w5.heap.size,0,none⟩ 1 1 (gv y) rfl rfl NC.out (uV y) ae cH ae ?_; intro B cap7 w7 hrow7 hor7; have R7:=hid hrow7; have OR7:=hid hor7; clear hrow7 hor7))
  generalize w5.alloc (bD y.1 y.2) = W6 at *
  have hBn : w.heap.size ≤ B ∧ B ≠ g4 ∧ Kept (fun k => k = B) W6 w7:=by
   exact jh
  have hRw:=S5.out.size
  go_roundw
  ·exact jS
  ·simp [intOf]; omega
 ) : P:=h
theorem KT {P : Prop} (h : P:=by
  have hszW:=BN.out.size;refine HC1.out.mono ?_;rintro e w5 ⟨y,rfl,hok,g4,cap4,hw5,hs5⟩;have hgr : g3 < wr.heap.size:=HWR.out.g_lt;have hRr : R < wr.heap.size:=HWR.out.lt
  have row5 : w5.ownsRow 0 3 1 (.slice aa j ac) j (ys.flatMap oh):=aJ HRW.out (fun B hB => by
   have h1:=aF HRW.out hB;have h2 : ∃ a,aa = some a ∧ a.block = B:=gU hB;obtain ⟨a,ha1,ha2⟩:=h2;have h3:=HAB.out a ha1;have h4:=HST.out.size;exact (hs5.block (b:=B) ae ae ae).trans (BN.out.block B h1))
  have gg4:=hw5.g_lt
  have hab5 : ∀ b,aa = some b → b.block ≠ g4 ∧ b.block < w5.heap.size:=fun a ha1 => by
   exact jo
  have W5:=hid hw5;have S5:=hid (HST.out.trans ((Stp.of_below BN.out).trans hs5));have O5:=hid hok;have BN5:=hid (aj w5 (bJ y))
  have R6:=hid (aJ (w':=w5.alloc (bJ y)) row5 (fun B hB => BN5.out.block B (aF row5 hB)))
  have HAB5:=hid hab5;have NC:=hid (vp w5 y);have hz6 : (w5.alloc (bJ y)).heap.size = w5.heap.size + 1:=au;clear hw5 hs5 row5 hab5 HC1 hok
  go_wp2_with (at_builtin; (refine fU _ rfl (.tmp 28) (.tmp 33) 23 rfl 3 i0 _ 1 8 Tryz.underlying23 hi hz0 hz1 hz2 rfl ax _ j _ rfl R6.out ⟨w5.heap.size,0,none⟩ 1 1 (oh y) rfl rfl NC.out (vG y) ae cH ae ?_; intro B cap7 w7 hrow7 hor7; have R7:=hid hrow7; have OR7:=hid hor7; clear hrow7 hor7))
  generalize w5.alloc (bJ y) = W6 at *
  have hBn : w.heap.size ≤ B ∧ B ≠ g4 ∧ Kept (fun k => k = B) W6 w7:=by
   exact jh
  have hRw:=S5.out.size
  go_roundw
  ·exact jS
  ·simp [intOf]; omega
 ) : P:=h
theorem Ed {P : Prop} (h : P:=by
  refine tkA (i:=18) (d:=some 38) (v:=?_) rfl ak ?_ ?_;rotate_left
  ·exact tE
  (try simp only [Act.put,sIB,sC0,sCs]);refine tkA (i:=19) (d:=some 39) (v:=?_) rfl ak ?_ ?_;rotate_left
  ·exact tE
  try simp only [Act.put,sIB,sC0,sCs]
  refine take_at (i:=20) (d:=some 40) (v:=undef) rfl ak ak ak ak (fun _ _ _ h => h) (Or.inr ⟨ak,rfl⟩) bB ?_
  try simp only [Act.put,sIB,sC0,sCs]
  refine take_at (i:=21) (d:=some 41) (v:=undef) rfl ak ak ak ak (fun _ _ _ h => h) (Or.inr ⟨ak,rfl⟩) bB ?_
  try simp only [Act.put,sIB,sC0,sCs]
  refine take_at (i:=22) (d:=some 42) (v:=undef) rfl ak ak ak ak (fun _ _ _ h => h) (Or.inr ⟨ak,rfl⟩) bB ?_
  try simp only [Act.put,sIB,sC0,sCs]
  refine take_at (i:=23) (d:=some 43) (v:=undef) rfl ak ak ak ak (fun _ _ _ h => h) (Or.inr ⟨ak,rfl⟩) bB ?_
  (try simp only [Act.put,sIB,sC0,sCs]);have hS5:=hHeld
  refine take_at (i:=24) (d:=some 44) (v:=undef) rfl ak ak ak ak (fun _ _ _ h => h) (Or.inr ⟨ak,rfl⟩) bB ?_
  (try simp only [Act.put,sIB,sC0,sCs]);refine tkA (i:=25) (d:=some 45) (v:=?_) rfl ak ?_ ?_;rotate_left
  ·exact tE
  (try simp only [Act.put,sIB,sC0,sCs]);refine rdY (rs:=[26]) ?_
  refine AllReadyH.cons rfl (fun K hK => ?_) rN
  go_simp;refine (fk _ _).mono ?_;rintro e w6 ⟨rfl,hw6⟩;obtain rfl:=hw6.symm
  refine hK.out _ _ hS5 (fun hHeld3 => ?_)
  clear hK K;refine wpAnyH_done ak ?_ _;have HB5:=hid (HB4.out.trans (hS5.2.2.2.2.2.2.mono HB4.out.size));have HC5:=hid (HC.out.later hA HB5.out);clear hS5 hHeld hHeld3 q0 q1 q2 q3 q4 q11 qel q15;obtain ⟨OB',oc',k14,_,_,_,_,_⟩:=HC5.out.top hw;have f14:=HC5.out.free 14;have HP:=hid (HC5.out.pop hA hw.len k14)
  have hoc : k + 1 ≤ oc':=by
   obtain ⟨OB2,oc2,u1,u2,_⟩:=HC5.out.opn;rw [k14] at u1; simp at u1; omega
  have e1 : (k : Int) ≤ (oc' : Int):=ae;have hkk:=hw.le;have hwk : IntKind.i64.wrap (k : Int) = (k : Int):=i64_in _ ae ae;have e0 : (0 : Int) ≤ (k : Int):=ae;go_wp2_with fail
  go_region
  go_wp2_with fail;go_end0;refine .inl ⟨rfl,rfl,?_,((aX HB5.out).trans (ay _ _ _ _)).trans (Kept.drewN _ _ 1)⟩;rw [HD.out];exact HP.out.later hA (below_drewN _ 1)
 ) : P:=h
theorem GW {P : Prop} (h : P:=by
  go_wp2_with fail;refine HN.out.mono ?_;rintro e w1 ⟨rfl,g1,cap1,hw1,hs1⟩;have W1:=hid hw1;have S1:=hid hs1;clear hw1 hs1 HN hw3 hw4;go_wp2_with fail
  go_loopw [19] (fun i wr => ∃ (k g2 cap2 : Nat),k ≤ n ∧ i = .int .i64 k ∧ Hid (WrN wr R g2 cap2 (aV f (l.take k) s0).1 (aV f (l.take k) s0).2) ∧ Hid (Stp R g g2 w wr)) (fun i _ => n - (intOf i).toNat)
  case atStart => exact ⟨0,g1,cap1,ae,rfl,W1,S1⟩
  case round =>
   obtain ⟨k,g2,cap2,hk,rfl,WR,SR⟩:=hrel
   by_cases hlt : k < n
   ·obtain ⟨x,hx⟩ : ∃ x,l[k]? = some x:=⟨_,ba ae⟩;have J2:=hid (HJS.out _ _ _ _ HJ.out SR.out);have hcell:=HC.out wr g2 J2.out k x hx;have hlt' : (k : Int) < (n : Int):=ae;have c1:=WR.out.c1;have HX:=hid hx;obtain ⟨bad,hbad⟩ : ∃ b,(aV f (l.take k) s0).2 = b:=⟨_,rfl⟩;rw [hbad] at c1;have HBad:=hid hbad;clear hx hbad
    cases bad with
    | true =>
     go_wp2_with fail;go_end0
     have e : aV f l s0 = aV f (l.take k) s0:=by
      conv => lhs; rw [← List.take_append_drop k l,mW]
      exact eW HF.out _ _ HBad.out
     exact ⟨rfl,g2,cap2,by rw [e]; exact WR.out,SR.out⟩
    | false =>
     have HQ:=hid (HE.out wr g2 cap2 _ x (List.mem_of_getElem? HX.out) WR.out J2.out (HB.out k hk HBad.out) HBad.out)
     have eN : f x (aV f (l.take k) s0) = aV f (l.take (k + 1)) s0:=by
      rw [← kN f (l.take k) x s0,List.take_add_one,HX.out];rfl
     rw [eN] at HQ;clear eN HE HC HJS HJ HB HF;go_wp2_with fail;refine HQ.out.mono ?_;rintro e w3 ⟨rfl,g3,cap3,hw3,hs3⟩;have W3:=hid hw3;have S3:=hid (SR.out.trans hs3);exact Ac
   ·have hlt' : ¬ (k : Int) < (n : Int):=ae;obtain rfl : k = n:=ae;clear HE HC HJS HJ HB;go_wp2_with fail;go_end0;have e : l.take k = l:=List.take_of_length_le ae;have W2:=WR.out;rw [e] at W2;exact ⟨rfl,g2,cap2,W2,SR.out⟩
 ) : P:=h
theorem Hs {P : Prop} (h : P:=by
  by_cases k1 : (p'.toList == p.toList) = true
  ·have k2 : (r'.toList == s.toList) = false:=by rw [k1] at hne; simpa using hne
   clear hne
   go_region_held3 (fun W => W.cell? ⟨wr.heap.size,0,none⟩ = some (.string p') ∧ W.cell? ⟨wr.heap.size,1,none⟩ = some (.string r') ∧ W.cell? ⟨B,0,none⟩ = some (.string p) ∧ W.cell? ⟨C,0,none⟩ = some (.int .i64 beg))
    (first | assumption | exact ⟨z0,z1,z2,z3⟩)
    (first
     | (go_at_call 79; refine (cu rfl).mono ?_; rintro e w' ⟨rfl,rfl⟩))
   go_wp2_with fail
   go_roundw
   ·exact Bh
   ·simp [intOf]; omega
  ·have k1' : (p'.toList == p.toList) = false:=by simpa using k1
   clear hne k1
   go_region_held3 (fun W => W.cell? ⟨wr.heap.size,0,none⟩ = some (.string p') ∧ W.cell? ⟨wr.heap.size,1,none⟩ = some (.string r') ∧ W.cell? ⟨B,0,none⟩ = some (.string p) ∧ W.cell? ⟨C,0,none⟩ = some (.int .i64 beg))
    (first | assumption | exact ⟨z0,z1,z2,z3⟩)
    (first
     | (go_at_call 79; refine (cu rfl).mono ?_; rintro e w' ⟨rfl,rfl⟩))
   go_wp2_with fail
   go_roundw
   ·exact Bh
   ·simp [intOf]; omega
 ) : P:=h
theorem FJ {P : Prop} (h : P:=by
  have c11 : X10.cell? ⟨V0.heap.size,0,none⟩ = some (.bool false):=ai k11;have z11 : X10.frozen? ⟨V0.heap.size,0,none⟩ = false:=free_at k11;refine eZ (rs:=[14]) ?_
  refine dO (i:=14) rfl (fun K hK => ?_) rN
  go_simp;have kk11 : (X10.setCell ⟨V0.heap.size,0,none⟩ (.bool b9)).heap[V0.heap.size]? = some (aQ b9):=aS (i:=0) (u:=.bool b9) k11;have kk9:=bL (G:=V0.heap.size) (j:=0) (u:=.bool b9) k9 ae;have kk10:=bL (G:=V0.heap.size) (j:=0) (u:=.bool b9) k10 ae
  have sb : (X10.setCell ⟨V0.heap.size,0,none⟩ (.bool b9)).cell? ⟨w.heap.size + 1 + 1,4,none⟩ = some (.int .i8 en):=by
   rw [World.cell?_setCell_far _ _ _ _ aI]; assumption
  have bb11:=bb10.trans ((ay X10 V0.heap.size 0 (.bool b9)).to_below bb10.size (fun k hk e => qd))
  refine hK.out _ _ sb (fun _ => ?_)
  clear hK K c11 z11 k9 k10 k11;have k9:=kk9;have k10:=kk10;have k11:=kk11;clear kk9 kk10 kk11;generalize X10.setCell ⟨V0.heap.size,0,none⟩ (.bool b9) = X11 at *;refine wpAnyH_done ak ?_ _;go_wp2_with fail
  go_meet
  exact ⟨_,_,_,rfl,rfl,rfl,k9,k10,k11,hid bb11⟩
 ) : P:=h
theorem ET {P : Prop} (h : P:=by
  refine tkC (i:=0) rfl ?_;(try simp only [Act.put,sIB]);refine tkC (i:=1) rfl ?_;(try simp only [Act.put]);refine tkC (i:=2) rfl ?_;(try simp only [Act.put]);refine tkC (i:=3) rfl ?_;(try simp only [Act.put]);refine tkC (i:=4) rfl ?_;(try simp only [Act.put]);refine tkC (i:=5) rfl ?_;(try simp only [Act.put]);refine tkC (i:=6) rfl ?_;(try simp only [Act.put]);refine rdY (rs:=[7,8]) ?_
  refine AllReadyH.cons rfl (fun K hK => ?_) (AllReadyH.cons rfl (fun K hK => ?_) rN)
  ·go_simp;refine (HF.out _).mono ?_;rintro e w5 ⟨rfl,hb⟩;exact ⟨rfl,.inr ⟨ax,rfl,hHeld.2.2.2.trans (hb.mono hHeld.2.2.2.size)⟩⟩
  ·go_simp;have BN:=(aj W0 (bh 0 false 0)).drew;have hS5:=loS.later (W:=W0) ⟨d2,x0,x1,HB.out⟩ BN
   refine hK.out _ _ hS5 (fun hHeld2 => ?_)
   clear hK K;generalize (W0.alloc (bh 0 false 0)).drew = W1 at *;refine rdY (rs:=[7]) ?_
   refine AllReadyH.cons rfl (fun K hK => ?_) rN
   go_simp;refine (HF.out _).mono ?_;rintro e w5 ⟨rfl,hb⟩;exact ⟨rfl,.inr ⟨ax,rfl,hS5.2.2.2.trans (hb.mono hS5.2.2.2.size)⟩⟩
 ) : P:=h
theorem Fp {P : Prop} (h : P:=by
  refine rdY (rs:=[15]) ?_
  refine AllReadyH.cons rfl (fun K hK => ?_) rN
  refine step_opn _ rfl (.tmp 55) (.tmp 65) rfl hl6 rfl hrowA ⟨P,R,B,c,s.pc⟩ rfl hblk ae ?_;intro g cap w7 ho hk7 hg7;obtain ⟨e14,f14,hfin⟩:=HEND.out g cap _ w7 BWA hk7.size ho hk7 hg7
  have hS7:=emS.kept hSA hk7 (fun e => hne.1 e.symm) hGO hXO
  have HFIN:=hid hfin;clear ho hk7 hg7 hfin HEND
  refine hK.out _ _ hS7 (fun hHeld4 => ?_)
  clear hK K;refine tkC (i:=16) rfl ?_;(try simp only [Act.put,sIB]);refine tkC (i:=17) rfl ?_;(try simp only [Act.put]);refine rdY (rs:=[18]) ?_
  refine AllReadyH.cons rfl (fun K hK => ?_) rN
  go_simp
  refine hK.out _ _ (hS7.put hGC hXC) (fun hHeld5 => ?_)
  clear hK K;refine wpAnyH_done ak ?_ _;clear hSA hrowA hblk BWA s0 s1 sx c16 h14 hHeld hHeld3 hHeld4 hHeld5 hS7 e14 f14;go_wp2_with fail;go_end0;exact ⟨rfl,HFIN.out⟩
 ) : P:=h
theorem D6 {P : Prop} (h : P:=by
  clear HF BD y0 y1 z0 z1 x0 x1 d2;obtain ⟨hs0,hs1,hs2,hsB⟩:=hS;have HSB:=hid hsB;clear hsB hs0 hs2;go_wp2_with fail;refine (gu _ _ _).mono ?_
  rintro e w6 (⟨hb,rfl,rfl⟩ | ⟨hb,rfl,rfl⟩)
  rotate_left
  ·have hE0 : E = 39:=by rw [← HE.out,hb]; simp
   subst hE0;exact ⟨rfl,.inr ⟨ax,rfl,HSB.out⟩⟩
  have hE0 : E = 0:=by rw [← HE.out,hb]; simp
  subst hE0;clear hb;go_wp2_with fail;refine (HH.out _).mono ?_;rintro e w7 ⟨rfl,hb⟩;have k0:=ag hb m0;have k1:=ag hb m1;have j0:=aC hb m0 n0;have j1:=aC hb m1 n1;have HB2:=hid (HSB.out.trans (hb.mono HSB.out.size));clear hb;go_wp2_with fail;refine bodyPost_ret (v:=.agg #[.string P,.string R]) ?_ rfl (.inl ⟨rfl,rfl,gQ HB2.out ae HB2.out.size⟩);rw [cP rfl];go_simp
 ) : P:=h
theorem EG {P : Prop} (h : P:=by
  have hlt' : (k : Int) < (n : Int):=ae;have HX:=hid hx;have HY:=hid hy;clear hx hy C1 C2
  by_cases hxy : x = y
  ·subst hxy;have hb : (x != x) = false:=au;go_wp2
   go_quiet (fail)
   go_wp2
   exact ⟨⟨k + 1,m + nq,ae,bU,rfl,hid (fun i x' y' hi hx' hy' => by
    by_cases hik : i < k
    ·exact HE.out i x' y' hik hx' hy'
    ·obtain rfl : i = k:=ae;rw [HX.out] at hx'; rw [HY.out] at hy'
     injection hx' with e1; injection hy' with e2
     subst e1; subst e2
     simp [iE])⟩,cC⟩
  ·have hb : (x != y) = true:=by simp [hxy]
   go_wp2
   go_quiet (fail)
   go_wp2;go_ret
   exact ⟨by rw [IP HX.out HY.out (by simp [iE,hxy])]; rfl,(below_drewN w m).trans ((below_drewN (w.drewN m) nq).mono (Nat.le_of_eq au))⟩
 ) : P:=h
theorem Ey {P : Prop} (h : P:=by
  clear HF BD y0 y1 z0 z1 x0 x1 d2;obtain ⟨hs0,hs1,hs2,hsB⟩:=hS;have HSB:=hid hsB;clear hsB hs0 hs2;go_wp2_with fail;refine (fk _ _).mono ?_;rintro e w6 ⟨rfl,hw6⟩;obtain rfl:=hw6.symm
  have hE0 : E = 0:=by rw [← HE.out]; simp
  subst hE0;go_wp2_with fail;refine (HH.out _).mono ?_;rintro e w7 ⟨rfl,hb⟩;have k0:=ag hb m0;have k1:=ag hb m1;have j0:=aC hb m0 n0;have j1:=aC hb m1 n1;have HB2:=hid (HSB.out.trans (hb.mono HSB.out.size));clear hb;go_wp2_with fail;refine bodyPost_ret (v:=.agg #[.string P,.string R]) ?_ rfl (.inl ⟨rfl,rfl,gQ HB2.out ae HB2.out.size⟩);rw [cP rfl];go_simp
 ) : P:=h
theorem xD {P : Prop} (h : P:=by
  refine HT1.out.mono ?_;rintro e w2 ⟨rfl,h2,k2⟩;have T2:=TAIL.out w2 h2 k2;clear h2 k2 HT1 TAIL
  go_wp2_with (first
   | (refine wpList_load_row rfl 139 (.tmp 3) rfl (w.heap.size + 1) rfl 139 (byV l) (0,0) _ T2.out.1 Tryz.underlying139 rfl rP ?_)
   | (refine uX rfl (Ku (.tmp 2) (.tmp 33) rfl w.heap.size Z l rfl rfl (pV HZ) HLL.out _ T2.out.2.2.2.1) ?_))
  refine bodyPost_ret (v:=.agg (byV l)) ?_ rfl ?_
  ·exact results_cell_row (p:=2) (ty:=139) rfl _ _ w.heap.size 139 (byV l) (0,0) _ rfl T2.out.2.2.2.2 Tryz.underlying139 rfl rP
  ·exact ⟨rfl,T2.out.2.1,T2.out.2.2.1⟩
 ) : P:=h
theorem Fh {P : Prop} (h : P:=by
  go_wp2_with fail;refine (cJ R _ _ _ w c0).mono ?_;rintro e w1 ⟨rfl,rfl⟩;go_wp2_with fail;refine hask.mono ?_;rintro e w2 ⟨rfl,b2⟩;have B2:=hid b2;clear b2 hask hK c0;go_wp2_with fail;refine (HU.out _).mono ?_;rintro e w3 ⟨B,rfl,s3,b3⟩;have B3:=hid (B2.out.trans (b3.mono B2.out.size));have S3:=hid s3;clear s3 b3 HU;go_wp2_with fail;refine (sD R g cap bs _ _ _ _ w3 (HW.out.later B3.out) S3.out ae ae).mono ?_;rintro e w4 ⟨rfl,g',cap',hw4,hs4⟩;have W4:=hid hw4;have S4:=hid ((Stp.of_below B3.out).trans hs4);clear hw4 hs4;go_wp2_with fail;go_ret;exact ⟨rfl,g',cap',W4.out,S4.out⟩
 ) : P:=h
theorem zI {P : Prop} (h : P:=by
  refine tkC (i:=0) rfl ?_;(try simp only [Act.put,sIB]);refine tkC (i:=1) rfl ?_;(try simp only [Act.put]);refine tkC (i:=2) rfl ?_;(try simp only [Act.put]);refine tkC (i:=3) rfl ?_;(try simp only [Act.put]);refine tkC (i:=4) rfl ?_;(try simp only [Act.put]);refine tkC (i:=5) rfl ?_;(try simp only [Act.put]);refine tkC (i:=6) rfl ?_;(try simp only [Act.put]);refine tkC (i:=7) rfl ?_;(try simp only [Act.put]);refine rdY (rs:=[8]) ?_
  refine AllReadyH.cons rfl (fun K hK => ?_) rN
  go_simp;refine (HF.out _).mono ?_;rintro e w5 ⟨rfl,hb⟩;exact ⟨rfl,.inr ⟨ax,rfl,HB.out.drew.trans (hb ▸ Below.refl _ _)⟩⟩
 ) : P:=h
theorem GG {P : Prop} (h : P:=by
  refine wpList_append_grows w hgd s x t ho 5 i z 1 1 h1 h2 h3 h4 h5 h6 ax (some ⟨g,0,none⟩) cap cap xs hs (fun hh => by cases hh) ae (fun b hb j u hj => ?_) ad m c news hx hn hc hone ae b1 b2 ?_
  ·simp at hb
   subst hb;have hplain : (⟨g,0,none⟩ : Addr).add j = ⟨g,j,none⟩:=dJ;rw [hplain];exact hcells j u hj
  ·intro v' w' ho' hg'
   rcases ho'.2 with ⟨_,hz⟩ | ⟨B,cp,cur,rfl,hbase,h8⟩
   ·omega
   ·exact h B cp w' (fO.of ho') ((Kept.of_grown hg').mono (fun k hk => by cases hk)) (.inr hbase)
 ) : P:=h
theorem Hh {P : Prop} (h : P:=by
  intro j hj;have he:=hem j hj;rw [ba ae] at he;obtain ⟨ys,hys,htr⟩:=Option.bind_eq_some_iff.1 he;rw [hc] at hys;obtain ⟨_,hlc,hcell⟩:=World.cells?_some hys
  have hmem : (elems[j]'(ae)).1 ∈ elems.map (·.1):=List.mem_map.2 ⟨_,List.getElem_mem _,rfl⟩
  obtain ⟨y,rfl,hG⟩:=hel _ _ _ htr (fun n hn => hw n (by
   have hin:=ju (P:=Tryz.prog) (e:=e) hmem n hn
   simp only [DataW.weights,ht,List.mem_cons,List.mem_append]
   exact .inr (.inl hin)))
  exact ⟨y,hlc,hG,hcell⟩
 ) : P:=h
theorem Hi {P : Prop} (h : P:=by
  rw [kE h0] at HE;have HC3:=hid (HC2.out.later hA hb);clear hb h0;go_wp2_with fail;refine (qC hA HC3.out hw hB hR).mono ?_
  rintro e w5 (⟨h0,rfl,hc,hk⟩ | ⟨h0,rfl,hb⟩)
  rotate_left
  ·have hE : E = bV o.B o.R:=HE.out.symm;exact ⟨rfl,.inr ⟨lC,(congrArg thv hE).symm,hb⟩⟩
  have hE : E = 0:=HE.out.symm.trans h0;subst hE;have HC5:=hid hc;clear hc hk;go_wp2_with fail;go_end0
  first | exact .inl ⟨rfl,rfl,HC5.out⟩ | exact ⟨rfl,HC5.out⟩
 ) : P:=h
theorem yF {P : Prop} (h : P:=by
  clear hb
  go_enter Tryz.func39,Tryz.ntmps39
  go_wp2_with fail;refine HA.out.mono ?_;rintro e w1 ⟨rfl,g1,cap1,hw1,hs1⟩;have HT1:=hid (HT.out w1 g1 cap1 hw1);have S1:=hid hs1;clear hw1 hs1 HA HT;go_wp2_with fail;refine HT1.out.mono ?_;rintro e w3 ⟨rfl,g3,cap3,hw3,hs3⟩;have W3:=hid hw3;have S3:=hid (S1.out.trans hs3);clear hw3 hs3 HT1;go_wp2_with fail;go_end0;exact ⟨rfl,g3,cap3,W3.out,S3.out⟩
 ) : P:=h
theorem Hw {P : Prop} (h : P:=by
  have hSH2:=(K5.block _ (aM hSH) nS).trans hSH;have hFL2:=(K5.block _ (aM hFL) nF).trans hFL;have hH2:=ck6.kept hH K5 HNX.out
  have HK2:=(aX HBX).then K5 (fun k hk h => h)
  refine hK.out _ _ hH2 (fun _ => ?_)
  clear hK K;refine wpAnyH_done ak ?_ _;refine NoPanic.normal ?_;go_wp2_with fail
  go_meet
  exact ⟨_,_,hSHl,hFLl,hne,hSH2,hFL2,hC2,HK2⟩
 ) : P:=h
theorem Gf {P : Prop} (h : P:=by
  go_wp2_with fail;refine bodyPost_ret (v:=.agg #[.int .u8 c,.int .i64 a,.slice la ln lc]) ?_ rfl ⟨rfl,g',cap',?_,?_⟩
  ·rw [cP rfl];go_simp
  ·exact ((W5.out.set (b:=w.heap.size + 1) ae n1).set (b:=w.heap.size + 1) ae n1).set (b:=w.heap.size + 1) ae n1
  ·exact ((S5.out.set ae).set ae).set ae
 ) : P:=h
theorem FE {P : Prop} (h : P:=by
  go_wp2_with fail
  exact ⟨⟨k + 1,ae,bU,HB5,hid (fun i x' y' hi hx' hy' => by
   by_cases hik : i < k
   ·exact HE.out i x' y' hik hx' hy'
   ·obtain rfl : i = k:=ae;rw [HX.out] at hx'; rw [HY.out] at hy'
    injection hx' with e1; injection hy' with e2
    subst e1; subst e2
    exact HV2.out)⟩,cC⟩
 ) : P:=h
theorem FC {P : Prop} (h : P:=by
  subst hE;clear e2
  go_enter Tryz.func48,Tryz.ntmps48
  go_wp2_with fail
  go_quiet ((go_at_call 72; exact Calls.quiet_of_same (HU.out _ (BW.out _))))
  go_wp2_with fail;refine (FIN.out _ (BW.out _)).mono ?_;rintro e w3 ⟨rfl,h3,k3⟩;have R3:=hid h3;have K3:=hid k3;clear h3 k3 FIN;go_wp2_with fail;go_ret;exact ⟨rfl,R3.out,K3.out⟩
 ) : P:=h
theorem zu {P : Prop} (h : P:=by
  subst hE;clear e2
  go_enter Tryz.func74,Tryz.ntmps74
  go_wp2_with fail
  go_quiet ((go_at_call 72; exact Calls.quiet_of_same (HU.out _ (BW.out _))))
  go_wp2_with fail;refine (FIN.out _ (BW.out _)).mono ?_;rintro e w3 ⟨rfl,h3,k3⟩;have R3:=hid h3;have K3:=hid k3;clear h3 k3 FIN;go_wp2_with fail;go_ret;exact ⟨rfl,R3.out,K3.out⟩
 ) : P:=h
theorem Eo {P : Prop} (h : P:=by
  clear hb
  go_enter Tryz.func47,Tryz.ntmps47
  go_wp2_with fail
  go_quiet (fail)
  go_wp2_with fail
  go_quiet (fail)
  go_wp2_with fail;refine (HT.out _ (BW.out _)).mono ?_;rintro e w3 ⟨rfl,h3,k3⟩;have R3:=hid h3;have K3:=hid ((ej (R:=R) (BW.out _)).trans k3);clear h3 k3 HT;go_wp2_with fail;go_ret;exact ⟨rfl,R3.out,K3.out⟩
 ) : P:=h
theorem Hg {P : Prop} (h : P:=by
  have S3:=hid s3;clear s3 b3 HU;go_wp2_with fail;refine (sD R g cap bs _ _ _ _ w3 (HW.out.later B3.out) S3.out ae ae).mono ?_;rintro e w4 ⟨rfl,g',cap',hw4,hs4⟩;have W4:=hid hw4;have S4:=hid ((Stp.of_below B3.out).trans hs4);clear hw4 hs4;go_wp2_with fail;go_ret;exact ⟨rfl,g',cap',W4.out,S4.out⟩
 ) : P:=h
theorem yf {P : Prop} (h : P:=by
  obtain ⟨hz,h1,h2,h3,ha⟩:=h;refine ⟨hz,h1,h2,h3,?_⟩
  rcases ha with ha | ⟨b,off,e,hc⟩
  ·exact .inl ha
  ·refine .inr ⟨b,off,e,fun j hj => ?_⟩
   have:=hc j hj
   have hlt : b < w.heap.size:=block_lt_of_cell this;exact (hb.cell (p:=⟨b,off + j,none⟩) td).trans this
 ) : P:=h
theorem Gg {P : Prop} (h : P:=by
  go_wp2_with fail
  go_quiet ((go_at_call 72; exact Calls.quiet_of_same (HU.out _ (BW.out _))))
  go_wp2_with fail;refine (FIN.out _ (BW.out _)).mono ?_;rintro e w3 ⟨rfl,h3,k3⟩;have R3:=hid h3;have K3:=hid k3;clear h3 k3 FIN;go_wp2_with fail;go_ret;exact ⟨rfl,R3.out,K3.out⟩
 ) : P:=h
theorem GU {P : Prop} (h : P:=by
  have hE : E = 31:=by rw [← HE.out,BV hl]; exact (Ao hw.len hl).1
  subst hE
  go_enter Tryz.func83,Tryz.ntmps83
  go_wp2_with fail;refine (lH hA HC.out hw a hl).mono ?_;rintro e w2 ⟨rfl,hb⟩;exact ⟨rfl,.inr ⟨ax,rfl,(HC.out.later hA hb).bad⟩⟩
 ) : P:=h
theorem Ih {P : Prop} (h : P:=by
  clear h BW
  go_enter Tryz.func83,Tryz.ntmps83
  go_wp2_with fail;refine H1.out.mono ?_
  rintro e w2 (⟨h0,rfl,hc,hk⟩ | ⟨h0,rfl,hb⟩)
  ·exact Cn
  ·exact ⟨rfl,.inr ⟨h0,rfl,hb⟩⟩
 ) : P:=h
theorem zH {P : Prop} (h : P:=by
  go_wp2_with fail;refine HN.out.mono ?_;rintro e w1 ⟨rfl,g1,cap1,hw1,hs1⟩;have W1:=hid hw1;have S1:=hid hs1;clear hw1 hs1 HN hw4;go_wp2_with fail;refine wp_loop_rounds 1 ?_;rw [rounds_succ];go_wp2_with fail;go_end0;exact ⟨rfl,g1,cap1,W1.out,S1.out⟩
 ) : P:=h
theorem yz {P : Prop} (h : P:=by
  go_enter Tryz.func83,Tryz.ntmps83
  go_wp2_with fail;refine H1.out.mono ?_
  rintro e w2 (⟨h0,rfl,hc⟩ | ⟨h0,rfl,hb⟩)
  ·have HC:=hid hc;clear hc;go_wp2_with fail;go_end0;exact .inl ⟨h0,rfl,HC.out⟩
  ·exact ⟨rfl,.inr ⟨h0,rfl,hb⟩⟩
 ) : P:=h
theorem IK {P : Prop} (h : P:=by
  go_quiet (fail)
  have bq2:=below_drewN Wx nq;have HE:=hid (HBz.out.trans ((HBx.out.trans (bq2.mono HBx.out.size)).mono HBz.out.size));generalize Wx.drewN nq = Wy at *;clear x0 x1 x4 bq2;go_wp2_with fail;go_ret;exact ⟨rfl,HE.out⟩
 ) : P:=h
theorem Ek {P : Prop} (h : P:=by
  go_enter Tryz.func205,Tryz.ntmps205
  go_wp2;refine bodyPost_ret (v:=.agg #[.int .i64 0,.int .i64 0]) uT rfl ⟨rfl,?_⟩;exact ((Below.refl _ _).alloc (Nat.le_refl _) _).alloc au _
 ) : P:=h
theorem GD {P : Prop} (h : P:=by
  go_quiet ((go_at_call 62; refine Calls.quiet_of_same (HF.out _)))
  go_wp2_with fail
  exact ⟨⟨k + 1,ae,bU,hid ⟨HDR.out _,fun i x y hi => HCX.out i x y hi (by rw [HG.out]; simp)⟩⟩,cC⟩
 ) : P:=h
theorem Ee {P : Prop} (h : P:=by
  refine rdY (rs:=[7]) ?_
  refine AllReadyH.cons rfl (fun K hK => ?_) rN
  go_simp;refine (HSG.out _ hB5.out).mono ?_;rintro e w6 ⟨⟨q,rfl⟩,hk6⟩;exact ⟨rfl,⟨q,rfl⟩,(S4'.out.trans (Stp.of_below hB5.out)).throw hk6⟩
 ) : P:=h
theorem Fi {P : Prop} (h : P:=by
  go_wp2_with fail;refine HN.out.mono ?_;rintro e w1 ⟨rfl,g',cap',hw1,hs1⟩;have W1:=hid hw1;have S1:=hid ((Stp.of_below B1.out).trans hs1);clear hw1 hs1 hm hc;go_wp2_with fail;go_ret;exact ⟨rfl,g',cap',W1.out,S1.out⟩
 ) : P:=h
theorem Ha {P : Prop} (h : P:=by
  have h2:=hw ((elems.length + rest.length) * B) (by simp [DataW.weights,ht,hB])
  simp only [reachBytes] at h2
  have h3 : (elems.length + rest.length) * 1 ≤ (elems.length + rest.length) * B:=Nat.mul_le_mul_left _ hB1;omega
 ) : P:=h
theorem eO {P : Prop} (h : P:=by
  refine hK.out _ _ hH (fun _ => ?_)
  clear hK K;refine wpAnyH_done ak ?_ _;refine NoPanic.normal ?_;go_wp2_with fail
  go_meet
  exact ⟨_,_,_,_,_,rfl,hCB,hC,hO,hL,ae,ae,ae,ae,HBB⟩
 ) : P:=h
theorem FI {P : Prop} (h : P:=by
  refine ⟨h.1,h.2.imp id ?_⟩;rintro ⟨b,off,ha,hc⟩
  refine ⟨b,off,ha,fun j x hj => ?_⟩
  have:=hc j x hj
  exact ⟨hk.cell this.1 (hS _ _ _ ha),hk.cell this.2.1 (hS _ _ _ ha),hk.cell this.2.2 (hS _ _ _ ha)⟩
 ) : P:=h
theorem GJ {P : Prop} (h : P:=by
  rw [Bool.and_eq_true];refine ⟨lu,?_⟩;rw [List.all_eq_true];intro i hi
  cases hx : l1[i]? with
  | none => simp
  | some x =>
   cases hy : l2[i]? with
   | none => simp
   | some y => simpa using h i x y hx hy
 ) : P:=h
theorem nj {P : Prop} (h : P:=by
  obtain rfl : j = n:=ae;have hxs : xs.take j = xs:=List.take_of_length_le ae;go_wp2_with fail;go_ret;refine ⟨aa,ac,ys,rfl,hyl,HY.out,HRW.out,g3,cap3,HAB.out,?_,HST.out⟩;rw [← hxs];exact HWR.out
 ) : P:=h
theorem IG {P : Prop} (h : P:=by
  go_wp2_with fail;go_ret;refine ⟨?_,HB.out⟩
  have hf : zs.all (fun b => decide (33 ≤ b) && decide (b ≤ 126)) = false:=by
   rw [List.all_eq_false];exact ⟨b,HMEM.out,aI⟩
  rw [HNM.out,hf];rfl
 ) : P:=h
theorem Et {P : Prop} (h : P:=by
  go_wp2_with fail;refine (cJ R _ _ _ w c0).mono ?_;rintro e w1 ⟨rfl,rfl⟩;go_wp2_with fail;refine (rI _ _ _).mono ?_;rintro e w1 ⟨rfl,rfl⟩;exact ⟨rfl,⟨_,rfl⟩,Kept.refl _ _⟩
 ) : P:=h
theorem Hj {P : Prop} (h : P:=by
  clear C1 C2 I1 I2 D1 D2;obtain rfl : k = n:=ae;go_wp2_with fail;go_ret;exact ⟨BS,HB.out⟩
 ) : P:=h
theorem tu {P : Prop} (h : P:=by
  have hh:=hall i y xj
  have e : (xs.take k).take i = xs.take i:=by rw [List.take_take]; congr 1; omega
  (try simp only [List.nil_append,e] at hh);exact hh
 ) : P:=h
theorem zq {P : Prop} (h : P:=by
  go_wp2_with fail;refine (cJ R _ _ _ w c0).mono ?_;rintro e w1 ⟨rfl,rfl⟩;go_wp2_with fail;refine hask.mono ?_;rintro e w2 ⟨⟨p,rfl⟩,b2⟩;exact ⟨rfl,⟨p,rfl⟩,aX b2⟩
 ) : P:=h
theorem Fs {P : Prop} (h : P:=by
  exact (HK.out.mono (T:=fun k => k = R ∨ k = g) (fun k hk => .inr hk)).trans ⟨rfl,rfl,rfl,dH,fun k hk hs => Below.heap_setCell _ _ _ _ (by simp at hs ⊢; omega)⟩
 ) : P:=h
theorem EY {P : Prop} (h : P:=by
  go_wp2_with fail;refine bodyPost_ret (v:=.agg #[.string P,.string R]) ?_ rfl (.inl ⟨rfl,rfl,(sgS.put (sgS.put hS' hCl htl rfl) hCl htl rfl).2.2.2.2.2⟩);rw [cP rfl];go_simp
 ) : P:=h
theorem Ef {P : Prop} (h : P:=by
  clear C1 C2;obtain rfl : k = n:=ae;go_wp2;go_ret;exact ⟨BS,below_drewN _ _⟩
 ) : P:=h
theorem yG {P : Prop} (h : P:=by
  refine ⟨h.1,h.2.imp id ?_⟩;rintro ⟨b,off,ha,hc⟩
  refine ⟨b,off,ha,fun j x hj => ?_⟩
  have:=hc j x hj
  exact ⟨hk.cell this.1 (hS _ _ _ ha),hk.cell this.2 (hS _ _ _ ha)⟩
 ) : P:=h
theorem Hd {P : Prop} (h : P:=by
  have hl:=h.len;have hx : xs[j]? = some (xs[j]'(ae)):=ba _
  have:=hc j _ hx 0 _ rfl
  rw [Nat.mul_one] at this;rw [List.getD_eq_getElem?_getD,hx];exact this
 ) : P:=h
theorem IQ {P : Prop} (h : P:=by
  apply List.ext_getElem?
  intro j
  by_cases hj : j < n
  ·rw [rS n _ j hj]; simp [hj]
  ·rw [List.getElem?_eq_none aI,List.getElem?_eq_none (by rw [mQ]; omega)]
 ) : P:=h
theorem yh {P : Prop} (h : P:=by
  rw [hE,hV];unfold shp at hh;rw [hh] at H1
  go_enter Tryz.func151,Tryz.ntmps151
  go_wp2_with fail;refine H1.out.mono ?_;rintro e w1 ⟨rfl,hb⟩;go_wp2;go_ret2;exact ⟨rfl,hb⟩
 ) : P:=h
theorem xx {P : Prop} (h : P:=by
  go_wp2_with fail;refine bodyPost_ret (v:=.agg #[.string P,.string R]) ?_ rfl (.inl ⟨rfl,rfl,(loS.put (loS.put hS'' hCl rfl) hCl rfl).2.2.2⟩);rw [cP rfl];go_simp
 ) : P:=h
theorem GR {P : Prop} (h : P:=by
  go_enter Tryz.func129,Tryz.ntmps129
  go_wp2_with fail
  refine (dX (by first | rfl | simp_all)).mono ?_
  rintro e w1 ⟨rfl,rfl⟩;exact ⟨rfl,⟨_,rfl⟩,Below.refl _ _⟩
 ) : P:=h
theorem FV {P : Prop} (h : P:=by
  obtain ⟨y,hy,_,hcl⟩:=hstep 0 ae;have h2:=hcl 0 ae;rw [ba ae] at h2
  have:=World.cell?_spot h2
  simpa [Addr.add] using this
 ) : P:=h
theorem Gj {P : Prop} (h : P:=by
  refine ⟨h.1,h.2.1,h.2.2.1,h.2.2.2.1,h.2.2.2.2.imp id ?_⟩;rintro ⟨b,off,ha,hc⟩
  exact ⟨b,off,ha,fun j hj => hk.cell (hc j hj) (hS _ _ _ (KU ae ha))⟩
 ) : P:=h
theorem FN {P : Prop} (h : P:=by
  go_enter Tryz.func29,Tryz.ntmps29
  go_wp2_with fail;refine HT.out.mono ?_;rintro e w1 ⟨rfl,hw⟩;have hw:=hw.symm;subst hw;go_wp2_with fail;go_ret;exact ⟨rfl,rfl⟩
 ) : P:=h
theorem Hr {P : Prop} (h : P:=by
  go_wp2_with fail;refine HN.out.mono ?_;rintro e w3 ⟨rfl,h3,k3⟩;have R3:=hid h3;have K3:=hid k3;clear h3 k3 HN;go_wp2_with fail;go_ret;exact ⟨rfl,R3.out,K3.out⟩
 ) : P:=h
theorem GF {P : Prop} (h : P:=by
  have hE : E = 0:=HE.out.symm.trans h0;subst hE;have HC5:=hid hc;clear hc hk;go_wp2_with fail;go_end0
  first | exact .inl ⟨rfl,rfl,HC5.out⟩ | exact ⟨rfl,HC5.out⟩
 ) : P:=h
theorem zo {P : Prop} (h : P:=by
  go_wp2_with fail;refine (gu _ _ _).mono ?_
  rintro e w3 (⟨hb,rfl,rfl⟩ | ⟨hb,rfl,rfl⟩)
  ·exact mi
  ·exact ⟨rfl,rfl,aj _ _⟩
 ) : P:=h
theorem Hq {P : Prop} (h : P:=by
  go_ret2;refine ⟨_,rfl,?_,eT B3.out B5.out⟩;have h:=o9 O5.out B3.out.size
  rw [HE2.out,show ([c] ++ U).length = 1 + U.length by simp; omega]
  exact h
 ) : P:=h
theorem IH {P : Prop} (h : P:=by
  rcases h with h | ⟨h1,h2,h3,h4,h5⟩
  ·exact .inl (h.kept hk hs)
  ·exact .inr ⟨h1,h2,Nat.lt_of_lt_of_le h3 hk.size,h4,fun j u hj => hk.cell (h5 j u hj) hs⟩
 ) : P:=h
theorem xg {P : Prop} (h : P:=by
  go_wp2_with fail;refine (gu _ _ _).mono ?_
  rintro e w3 (⟨hb,rfl,rfl⟩ | ⟨hb,rfl,rfl⟩)
  ·exact absurd hb au
  ·exact ⟨rfl,rfl,aj _ _⟩
 ) : P:=h
theorem Ii {P : Prop} (h : P:=by
  intro t;rw [hel]
  rcases h.els t with hx | ⟨j,a1,a2,a3,a4,a5,a6,a7⟩
  ·exact .inl hx
  ·exact .inr ⟨j,a1,a2,ae,a4,a5,a6,by rw [hen,hen]; exact a7⟩
 ) : P:=h
theorem ID {P : Prop} (h : P:=by
  by_cases h0 : n = 0
  ·exact .inl h0
  ·exact h.seg.2.2.2.2.imp id fun ⟨b,off,e,hx⟩ => ⟨b,off,e,fun j hj => hk.cell (hx j hj) (hb b off e ae)⟩
 ) : P:=h
theorem Iz {P : Prop} (h : P:=by
  go_wp2_with fail;refine (gu _ _ _).mono ?_
  rintro e w3 (⟨hb,rfl,rfl⟩ | ⟨hb,rfl,rfl⟩)
  ·exact mi
  ·exact ⟨rfl,rfl,rfl⟩
 ) : P:=h
theorem Hk {P : Prop} (h : P:=by
  have hE : E = bI s o YW:=qO;exact ⟨rfl,.inr ⟨lC,(congrArg thv hE).symm,(HC2.out.later hA hb).bad⟩⟩
 ) : P:=h
theorem Fe {P : Prop} (h : P:=by
  rw [World.cell?_setCell_other _ _ _ _ au]; exact World.cell?_setCell_same _ _ _ (by rw [World.cell?_setCell_other _ _ _ _ au]; exact r1)
 ) : P:=h
theorem EJ {P : Prop} (h : P:=by
  refine ⟨h.1,?_⟩
  rcases h.2 with h0 | ⟨g,cp,cur,rfl,h2,h3,h4⟩
  ·exact .inl h0
  ·exact .inr ⟨g,cp,cur,rfl,h2,by rw [hk g rfl]; exact h3,h4⟩
 ) : P:=h
theorem mS {P : Prop} (h : P:=by
  go_wp2_with fail;refine HC1.out.mono ?_;rintro e w5 ⟨⟨p,rfl⟩,hk5⟩;exact ⟨rfl,⟨p,rfl⟩,(HST.out.trans (Stp.of_below BN.out)).throw hk5⟩
 ) : P:=h
theorem EX {P : Prop} (h : P:=by
  go_wp2_with fail
  exact ⟨⟨i + 1,au,ae,hB2.out,hR2.out,by rw [show 7 - (i + 1) = n by omega]; exact hV2.out⟩,cC⟩
 ) : P:=h
theorem D5 {P : Prop} (h : P:=by
  go_wp2_with fail;refine (gu _ _ _).mono ?_
  rintro e w3 (⟨hb,rfl,rfl⟩ | ⟨hb,rfl,rfl⟩)
  ·exact absurd hb au
  ·exact ⟨rfl,rfl,rfl⟩
 ) : P:=h
theorem He {P : Prop} (h : P:=by
  go_wp2_with fail;refine (fk _ _).mono ?_;rintro e w3 ⟨rfl,hw3⟩;obtain rfl:=hw3.symm;go_wp2_with fail;go_ret;exact ⟨rfl,Below.refl _ _⟩
 ) : P:=h
theorem Ik {P : Prop} (h : P:=by
  simp only at hcx
  unfold eo at hcx
  split at hcx
  ·cases hcx
  ·split at hcx
   ·cases hcx
   ·split at hcx
    ·cases hcx
    ·rw [hok.1,hok.2]; omega
 ) : P:=h
theorem tM {P : Prop} (h : P:=by
  rintro e w' ⟨aa,ac,ys,he,hyl,hys,hrow,g',cap',hab,hw',hs'⟩;exact ⟨aa,ac,ys,he,hyl,hys,g',cap',tQ,hs'⟩
 ) : P:=h
theorem yu {P : Prop} (h : P:=by
  go_wp2_with fail
  try rw [Exit.noGoto_ret]
  go_ret2;rw [HR.out]
  exact ⟨rfl,(fun h => cj),HKW.out.trans (HT.out.kept.trans HM.out.kept)⟩
 ) : P:=h
theorem FQ {P : Prop} (h : P:=by
  have hE : E = E1:=qO;exact ⟨rfl,.inr ⟨lC,(congrArg thv hE).symm,(HC.out.later hA hb).bad⟩⟩
 ) : P:=h
theorem xX {P : Prop} (h : P:=by
  go_enter Tryz.func83,Tryz.ntmps83
  go_wp2_with fail;refine H1.out.mono ?_;rintro e w2 ⟨rfl,hb⟩;exact ⟨rfl,.inr ⟨ax,rfl,hb⟩⟩
 ) : P:=h
theorem zn {P : Prop} (h : P:=by
  rw [(((Below.refl _ w).alloc (Nat.le_refl _) _).alloc cE _ |>.alloc cE _).cell (by exact hRl)]; exact h.c0
 ) : P:=h
theorem Hz {P : Prop} (h : P:=by
  intro j hj hj5
  have : j ≠ k:=fun e => h5 (e ▸ hj5)
  obtain ⟨t,ht,hx⟩:=h.elp j ae hj5
  exact ⟨t,ht,by rw [hel]; exact hx⟩
 ) : P:=h
theorem Fg {P : Prop} (h : P:=by
  obtain ⟨cur,h,_⟩:=h.block
  rcases Nat.lt_or_ge B w.heap.size with hl | hl
  ·exact hl
  ·rw [Array.getElem?_eq_none hl] at h; cases h
 ) : P:=h
theorem Gz {P : Prop} (h : P:=by
  have hE:=hF hb;subst hE;exact ⟨rfl,.inr ⟨ax,rfl,(HC.out.later hA (HB2.out.trans (hS3.2.2.2.2.mono HB2.out.size))).bad⟩⟩
 ) : P:=h
theorem GZ {P : Prop} (h : P:=by
  refine ⟨h.1,?_⟩
  rcases h.2 with h0 | ⟨g,cp,cur,h1,h2,h3⟩
  ·exact .inl h0
  ·exact .inr ⟨g,cp,cur,h1,Nat.le_trans hb h2,h3⟩
 ) : P:=h
theorem D9 {P : Prop} (h : P:=by
  go_wp2_with fail;refine (cu au).mono ?_;rintro e w1 ⟨rfl,rfl⟩;go_wp2_with fail;go_end0;exact ⟨rfl,Below.refl _ _⟩
 ) : P:=h
theorem Hb {P : Prop} (h : P:=by
  rw [World.cell?_setCell_other _ _ _ _ au,World.cell?_setCell_other _ _ _ _ au]; exact World.cell?_setCell_same _ _ _ r0
 ) : P:=h
theorem Ga {P : Prop} (h : P:=by
  refine ⟨h.1,?_⟩
  rcases h.2 with ⟨h,_⟩ | ⟨g,cp,cur,h1,_,h3⟩
  ·cases h
  ·exact .inr ⟨g,cp,cur,h1,Nat.zero_le _,h3⟩
 ) : P:=h
theorem Gc {P : Prop} (h : P:=by
  go_wp2_with fail;refine (cu rfl).mono ?_;rintro e w1 ⟨rfl,rfl⟩;go_wp2_with fail;go_end0;exact ⟨rfl,Below.refl _ _⟩
 ) : P:=h
theorem pK {P : Prop} (h : P:=by
  go_wp2_with fail;refine HC.out.mono ?_;rintro e w2 ⟨⟨q,rfl⟩,hk2⟩;exact ⟨rfl,⟨q,rfl⟩,(aX BW.out).trans hk2⟩
 ) : P:=h
theorem Eh {P : Prop} (h : P:=by
  go_wp2_with fail;refine HN.out.mono ?_;rintro e w1 ⟨⟨p,rfl⟩,hk⟩;exact ⟨rfl,⟨p,rfl⟩,(aX B1.out).trans hk⟩
 ) : P:=h
theorem Gr {P : Prop} (h : P:=by
  go_wp2_with fail;refine HT.out.mono ?_;rintro e w2 ⟨⟨q,rfl⟩,hk⟩;exact ⟨rfl,⟨q,rfl⟩,(aX BW.out).trans hk⟩
 ) : P:=h
theorem Gh {P : Prop} (h : P:=by
  exact Gw w hgd s x t ho 5 i z 1 1 h1 h2 h3 h4 h5 h6 ax g n cap xs hs hr ad m c news hx hn hc hone hm b1 b2 h
 ) : P:=h
theorem uA {P : Prop} (h : P:=by
  go_enter Tryz.func206,Tryz.ntmps206
  go_wp2;go_ret
  exact ⟨by rw [HR.out]; rfl,(Below.refl _ _).alloc (Nat.le_refl _) _⟩
 ) : P:=h
theorem dL {P : Prop} (h : P:=by
  rcases (HM.out.kept HST.out.k (fun b off c h => by have:=HNE.out b off c h; simp; omega)).2 with h0 | h
  ·omega
  ·exact h
 ) : P:=h
theorem Bi {P : Prop} (h : P:=by
  have hi : i < (F x).length:=(List.getElem?_eq_some_iff.1 hv).1;have q:=hxs j x hj;rw [q.1] at hi;rw [q.2.2 i hi];exact hv
 ) : P:=h
theorem AB {P : Prop} (h : P:=by
  intro t u htu a b c;rw [hen] at c ⊢;rw [hen,hst];obtain ⟨x1,x2,x3⟩:=h.nest t u htu a b c;exact ⟨ae,x2,x3⟩
 ) : P:=h
theorem Am {P : Prop} (h : P:=by
  refine h.keepOp hsame rfl ?_ ?_ h.hi h.sh
  ·rw [hs',ByteArray.size_append]; omega
  ·rw [hs',ByteArray.size_append]; omega
 ) : P:=h
theorem AP {P : Prop} (h : P:=by
  have HV:=hid hv;clear hv h
  go_enter Tryz.func36,Tryz.ntmps36
  go_wp2_with fail;go_ret;exact ⟨sP,rfl⟩
 ) : P:=h
theorem AG {P : Prop} (h : P:=by
  rcases h.opn t ae hO with hx | ⟨hx,j,a1,a2,a3,a4⟩
  ·exact .inl hx
  ·exact .inr ⟨hx,j,a1,a2,ae,a4⟩
 ) : P:=h
theorem Co {P : Prop} (h : P:=by
  rw [d3];clear h1
  cases b8
  all_goals (go_enter Tryz.func28,Tryz.ntmps28; go_wp2_with fail; go_ret; exact ⟨rfl,rfl⟩)
 ) : P:=h
theorem Aj {P : Prop} (h : P:=by
  go_wp2_with fail;refine HX.out.mono ?_;rintro e w3 ⟨⟨q,rfl⟩,hk⟩;exact ⟨rfl,⟨q,rfl⟩,S2.out.throw hk⟩
 ) : P:=h
theorem oH {P : Prop} (h : P:=by
  refine wpAnyH_done ak ?_ _;go_wp2_with fail
  go_meet
  exact ⟨_,_,_,rfl,rfl,rfl,k9,k10,k11,hid bb11⟩
 ) : P:=h
theorem AZ {P : Prop} (h : P:=by
  obtain ⟨n,h1,_,wf⟩:=DataW.trod_int Tryz.underlying5 h
  have:=bounds_u8 wf
  exact ⟨n,h1,ae,ae⟩
 ) : P:=h
theorem Bt {P : Prop} (h : P:=by
  rw [d3]
  cases b7
  all_goals (go_enter Tryz.func27,Tryz.ntmps27; go_wp2_with fail; go_ret; exact ⟨rfl,rfl⟩)
 ) : P:=h
theorem zR {P : Prop} (h : P:=by
  rcases Nat.lt_or_ge OB w.heap.size with hx | hx
  ·exact hx
  ·rw [Array.getElem?_eq_none hx] at h5; cases h5
 ) : P:=h
theorem Cy {P : Prop} (h : P:=by
  rw [Bool.and_eq_false_iff];right;rw [List.all_eq_false]
  exact ⟨i,List.mem_range.2 hi,by simp [hx,hy,h]⟩
 ) : P:=h
theorem Ct {P : Prop} (h : P:=by
  rcases Nat.lt_or_ge b w.heap.size with hx | hx
  ·exact hx
  ·rw [Array.getElem?_eq_none hx] at h; cases h
 ) : P:=h
theorem BJ {P : Prop} (h : P:=by
  go_wp2_with fail;refine wp_loop_rounds 1 ?_;rw [rounds_succ];go_wp2_with fail;go_ret;exact ⟨rfl,rfl⟩
 ) : P:=h
theorem jk {P : Prop} (h : P:=by
  go_wp2_with fail;refine HC.out.mono ?_;rintro e w2 ⟨⟨p,rfl⟩,hk⟩;exact ⟨rfl,⟨p,rfl⟩,hk⟩
 ) : P:=h
theorem AL {P : Prop} (h : P:=by
  clear hS' yd y0 y1 y2 y3 y4 y5 y6 y7 y8;go_wp2_with fail;go_ret;exact ⟨sP,B3.out⟩
 ) : P:=h
theorem AY {P : Prop} (h : P:=by
  by_cases h0 : 0 ≤ x
  ·rw [cL x h0 ae]; omega
  ·rw [wO x hx0 ae]; omega
 ) : P:=h
theorem sF {P : Prop} (h : P:=by
  rintro e' w' ⟨he',g',cap',hw',hs'⟩;refine ⟨x,he',rfl,g',cap',?_,hs'⟩;rw [henc];exact hw'
 ) : P:=h
theorem oN {P : Prop} (h : P:=by
  go_wp2;refine wp_loop_rounds 1 ?_;rw [rounds_succ];go_wp2;go_ret;exact ⟨rfl,Below.refl _ _⟩
 ) : P:=h
theorem Bo {P : Prop} (h : P:=by
  exact this.mono (fun e w' ⟨he,g',c',a1,a2⟩ => ⟨he,g',c',a1,(Stp.of_below b1).trans a2⟩)
 ) : P:=h
theorem su {P : Prop} (h : P:=by
  exact ((W5.out.set (b:=w.heap.size + 1) ae n1).set (b:=w.heap.size + 1) ae n1)
 ) : P:=h
theorem Bl {P : Prop} (h : P:=by
  go_enter Tryz.func204,Tryz.ntmps204
  go_wp2;go_ret
  exact ⟨by rw [← HF.out]; rfl,rfl⟩
 ) : P:=h
theorem BH {P : Prop} (h : P:=by
  go_enter Tryz.func60,Tryz.ntmps60
  go_wp2_with fail;go_ret;exact ⟨rfl,Below.refl _ _⟩
 ) : P:=h
theorem lX {P : Prop} (h : P:=by
  rw [List.length_take] at this;have e1 : min j xs.length = j:=ae
  rwa [e1] at this
 ) : P:=h
theorem BU {P : Prop} (h : P:=by
  rw [d2]
  go_enter Tryz.func30,Tryz.ntmps30
  go_wp2_with fail;go_ret;exact ⟨rfl,rfl⟩
 ) : P:=h
theorem Cr {P : Prop} (h : P:=by
  rw [d2]
  go_enter Tryz.func31,Tryz.ntmps31
  go_wp2_with fail;go_ret;exact ⟨rfl,rfl⟩
 ) : P:=h
theorem Av {P : Prop} (h : P:=by
  rw [d1]
  go_enter Tryz.func63,Tryz.ntmps63
  go_wp2_with fail;go_ret;exact ⟨rfl,rfl⟩
 ) : P:=h
theorem BP {P : Prop} (h : P:=by
  go_wp2_with fail;go_ret
  exact ⟨by rw [IP HX.out HY.out HV2.out]; rfl,HB5.out⟩
 ) : P:=h
theorem Cv {P : Prop} (h : P:=by
  rw [List.length_take] at this;have e : min j xs.length = j:=ae
  rwa [e] at this
 ) : P:=h
theorem Bf {P : Prop} (h : P:=by
  obtain ⟨t,a,b,c⟩:=h.ended j ae h6
  exact ⟨t,a,b,by rw [hen]; exact c⟩
 ) : P:=h
theorem BG {P : Prop} (h : P:=by
  exact ⟨rfl,(fun h => cj),HKW.out.trans (HT.out.kept.trans HM.out.kept)⟩
 ) : P:=h
theorem Bz {P : Prop} (h : P:=by
  simp only [List.flatMap_append,List.flatMap_cons,List.flatMap_nil,List.append_nil]
 ) : P:=h
theorem Bp {P : Prop} (h : P:=by
  go_ret
  exact ⟨congrArg (fun x => Ending.returned (.int .i64 x)) HS.out,B1.out⟩
 ) : P:=h
theorem A8 {P : Prop} (h : P:=by
  rintro e w' ⟨rfl,rfl⟩;go_wp2_with fail;go_end0;exact ⟨rfl,Below.refl _ _⟩
 ) : P:=h
theorem Cm {P : Prop} (h : P:=by
  rw [(aj (w.alloc _) _).block _ au];exact (MapKept.heap_alloc w _).1
 ) : P:=h
theorem sZ {P : Prop} (h : P:=by
  rintro e' w' ⟨y,he',hy,g',cap',hw',hs'⟩;exact ⟨y,he',hy,g',cap',hw',hs'⟩
 ) : P:=h
theorem zX {P : Prop} (h : P:=by
  go_enter Tryz.func113,Tryz.ntmps113
  go_wp2_with fail;go_ret;exact ⟨rfl,rfl⟩
 ) : P:=h
theorem Cx {P : Prop} (h : P:=by
  rcases List.mem_append.1 hz with hz | hz
  ·exact hpr z hz
  ·simp at hz; omega
 ) : P:=h
theorem sj {P : Prop} (h : P:=by
  rcases h'.m with rfl | h2
  ·exact h.m
  ·exact .inr (Nat.le_trans h.k.size h2)
 ) : P:=h
theorem Ap {P : Prop} (h : P:=by
  go_enter Tryz.func29,Tryz.ntmps29
  go_wp2_with fail;go_ret;exact ⟨rfl,rfl⟩
 ) : P:=h
theorem tq {P : Prop} (h : P:=by
  go_wp2
  go_ret3
  exact ⟨mr _ _ _ _ _ (by rw [HD.out]; simp [ru]),rfl⟩
 ) : P:=h
theorem oF {P : Prop} (h : P:=by
  exact ⟨rfl,.inr ⟨lC,(congrArg thv hE).symm,hb⟩⟩
 ) : P:=h
theorem rX {P : Prop} (h : P:=by
  exact wpAnyH_take hi hc.1.1 hc.1.2 hc.2 hQ (Or.inl ⟨hw,hv⟩) hS h
 ) : P:=h
theorem oV {P : Prop} (h : P:=by
  rintro e w1 ⟨rfl,rfl⟩;exact ⟨rfl,⟨_,rfl⟩,Below.refl _ _⟩
 ) : P:=h
theorem rU {P : Prop} (h : P:=by
  go_wp2_with fail;go_ret;exact ⟨mJ,B6.out⟩
 ) : P:=h
theorem mA {P : Prop} (h : P:=by
  exact ((Below.refl _ _).alloc (Nat.le_refl _) _).alloc au _
 ) : P:=h
theorem tz {P : Prop} (h : P:=by
  simp only at hc
  unfold gy at hc
  split at hc
  ·cases hc
  ·omega
 ) : P:=h
theorem cS {P : Prop} (h : P:=by
  rw [World.cell?_setCell_far _ _ _ _ aI]; assumption
 ) : P:=h
theorem aZ {P : Prop} (h : P:=by
  intro w h;(try dsimp only at h);go_simp;try with_reducible rfl
 ) : P:=h
theorem oQ {P : Prop} (h : P:=by
  go_wp2;go_ret;exact ⟨sP,Below.refl _ _⟩
 ) : P:=h
theorem lU {P : Prop} (h : P:=by
  simp [IntKind.wrap,IntKind.bits,IntKind.signed]; omega
 ) : P:=h
theorem sI {P : Prop} (h : P:=by
  go_wp2_with fail;go_ret;exact ⟨rfl,aj _ _⟩
 ) : P:=h
theorem uC {P : Prop} (h : P:=by
  exact ⟨pF,pF⟩
 ) : P:=h
theorem gI {P : Prop} (h : P:=by
  obtain ⟨_,_,h1,_⟩:=h.ck; rw [ai h1]; rfl
 ) : P:=h
theorem uP {P : Prop} (h : P:=by
  exact ((S5.out.set ae).set ae)
 ) : P:=h
theorem uj {P : Prop} (h : P:=by
  go_wp2_with fail;go_ret;exact ⟨rfl,HB.out⟩
 ) : P:=h
theorem sG {P : Prop} (h : P:=by
  rcases hcells with h0 | hx
  ·omega
  ·exact hx
 ) : P:=h
theorem oM {P : Prop} (h : P:=by
  rcases h.m with h | h
  ·exact .inr h
  ·omega
 ) : P:=h
theorem uk {P : Prop} (h : P:=by
  rcases hsg.2.2 with h0 | h
  ·omega
  ·exact h
 ) : P:=h
theorem jd {P : Prop} (h : P:=by
  go_wp2_with fail;go_ret;exact ⟨rfl,rfl⟩
 ) : P:=h
theorem oO {P : Prop} (h : P:=by
  rcases pt.2 with h0 | hx
  ·omega
  ·exact hx
 ) : P:=h
theorem mB {P : Prop} (h : P:=by
  simp [Array.getElem?_setIfInBounds]; omega
 ) : P:=h
theorem oC {P : Prop} (h : P:=by
  go_wp2;go_ret;exact ⟨rfl,rfl⟩
 ) : P:=h
theorem mh {P : Prop} (h : P:=by
  exact ⟨rfl,Below.refl _ _⟩
 ) : P:=h
theorem cF {P : Prop} (h : P:=by
  rw [cP rfl];go_simp
 ) : P:=h
theorem cm {P : Prop} (h : P:=by
  simpa using this
 ) : P:=h
theorem AQ {P : Prop} (h : P:=by
  have hlt' : (k : Int) < (m.dn : Int):=ae
  by_cases hbd : z3 ≤ 2147483647
  ·obtain ⟨x,hxk⟩ : ∃ x,m.data[k]? = some x:=⟨_,ba (by rw [PD.out.1]; exact hlt)⟩
   obtain ⟨b,off,hfa,hat⟩:=PD.out.2.resolve_left ae;have hat:=hat k x hxk;have hu:=UD.out k x hxk;have hk0 : (0 : Int) ≤ (k : Int):=ae;have hbd' : (z3 : Int) ≤ 2147483647:=ae;have hbq : decide ((z3 : Int) ≤ 2147483647) = true:=decide_eq_true hbd';rw [hfa] at m6;obtain ⟨_,g1⟩:=hat;rw [hfa];go_wp2_with fail
   exact ⟨⟨k + 1,z3 + x.2.1.2.1,ae,bU,bU,⟨_,rfl⟩,ae,hid (by have:=HF3.out; rw [Du hxk]; omega)⟩,cC⟩
  ·have hbd' : ¬ (z3 : Int) ≤ 2147483647:=ae;have hbq : decide ((z3 : Int) ≤ 2147483647) = false:=decide_eq_false hbd';clear hlt;go_wp2_with fail
   go_loopw [3,7] (fun s i wr => ∃ k z : Nat,k ≤ m.en ∧ s = .int .i64 (z : Nat) ∧ i = .int .i64 k ∧ (∃ q,wr = W0.drewN q) ∧ z ≤ 1125899906842624 ∧ Hid (z3 + mF (m.exps.take k) ≤ z)) (fun _ i _ => m.en - (intOf i).toNat)
   case atStart => exact ⟨0,z3,ae,rfl,rfl,⟨_,rfl⟩,ae,hid (by simp [mF])⟩
   case round =>
    obtain ⟨k,z4,hk,rfl,rfl,⟨q4,rfl⟩,hz4,HF4⟩:=hrel
    by_cases hlt : k < m.en
    ·have hlt' : (k : Int) < (m.en : Int):=ae
     by_cases hbd : z4 ≤ 2147483647
     ·exact Al
     ·have hbd' : ¬ (z4 : Int) ≤ 2147483647:=ae;have hbq : decide ((z4 : Int) ≤ 2147483647) = false:=decide_eq_false hbd';exact AU
    ·obtain rfl : k = m.en:=ae;clear hlt;go_wp2_with fail;go_ret
     exact ⟨z4,rfl,BW.out.trans (BW2.out _),fun h4 => sM⟩
 ) : P:=h
theorem zS {P : Prop} (h : P:=by
  have hlt' : (k : Int) < (m.en : Int):=ae
  by_cases hbd : z4 ≤ 2147483647
  ·exact Al
  ·have hbd' : ¬ (z4 : Int) ≤ 2147483647:=ae;have hbq : decide ((z4 : Int) ≤ 2147483647) = false:=decide_eq_false hbd';clear hlt;go_wp2_with fail;go_ret
   exact ⟨z4,rfl,BW.out.trans (BW2.out _),fun h4 => sM⟩
 ) : P:=h
theorem jS {P : Prop} (h : P:=by
  refine ⟨j + 1,ys ++ [y],some ⟨B,0,none⟩,cap7,g4,cap4,ae,rfl,rfl,by simp [hyl],?_,?_,?_,?_,?_⟩
  ·exact AC
  ·have:=R7.out
   simpa [fO] using this
  ·intro b' hb'
   simp at hb'
   subst hb';exact ⟨hBn.1,hBn.2.1⟩
  ·exact A7
  ·exact ⟨(S5.out.k.trans (aX BN5.out)).then hBn.2.2 (fun k hk hkB => by have:=hBn.1; omega),S5.out.m⟩
 ) : P:=h
theorem jh {P : Prop} (h : P:=by
  rcases OR7.out with ⟨h1,h2⟩ | ⟨h1,h2⟩
  ·have h1' : aa = some ⟨B,0,none⟩:=(Value.slice.inj h1).1;exact ⟨(HAB.out _ h1').1,(HAB5.out _ h1').1,h2⟩
  ·have:=S5.out.size
   exact ⟨ae,ae,h2.mono (fun k hk => hk.elim)⟩
 ) : P:=h
theorem jo {P : Prop} (h : P:=by
  have h3:=HAB.out a ha1;have h1 : a.block < wr.heap.size:=aF HRW.out (rE HRW.out ha1);exact ⟨hs5.ne ae h3.2,Nat.lt_of_lt_of_le h1 (Nat.le_trans hszW hs5.size)⟩
 ) : P:=h
theorem Ac {P : Prop} (h : P:=by
  clear hw3 hs3 HQ;go_wp2_with fail;exact ⟨⟨k + 1,g3,cap3,ae,bU,W3,S3⟩,cC⟩
 ) : P:=h
theorem Cn {P : Prop} (h : P:=by
  have HC:=hid hc;clear hc hk;go_wp2_with fail;go_end0;exact .inl ⟨h0,rfl,HC.out⟩
 ) : P:=h
theorem Bh {P : Prop} (h : P:=by
  exact ⟨j + 1,ae,rfl,(BW.out.trans (BN.out.mono BW.out.size)).drew⟩
 ) : P:=h
theorem tE {P : Prop} (h : P:=by
  intro w h;(try dsimp only at h);go_simp;try with_reducible rfl
 ) : P:=h
theorem mi {P : Prop} (h : P:=by
  exact absurd hb aI
 ) : P:=h
theorem Al {P : Prop} (h : P:=by
  obtain ⟨x,hxk⟩ : ∃ x,m.exps[k]? = some x:=⟨_,ba (by rw [PE.out.1]; exact hlt)⟩
  obtain ⟨b,off,hfa,hat⟩:=PE.out.2.resolve_left ae;have hat:=hat k x hxk;have hu:=UE.out k x hxk;have hk0 : (0 : Int) ≤ (k : Int):=ae;have hbd' : (z4 : Int) ≤ 2147483647:=ae;have hbq : decide ((z4 : Int) ≤ 2147483647) = true:=decide_eq_true hbd';rw [hfa] at m7;obtain ⟨g0,_⟩:=hat;rw [hfa];go_wp2_with fail
  exact ⟨⟨k + 1,z4 + x.1.size,ae,bU,bU,⟨_,rfl⟩,ae,hid (by have:=HF4.out; rw [DV hxk]; omega)⟩,cC⟩
 ) : P:=h
theorem AC {P : Prop} (h : P:=by
  intro i y' hi'
  by_cases hij : i < ys.length
  ·rw [List.getElem?_append_left hij] at hi';exact HY.out i y' hi'
  ·rw [List.getElem?_append_right ae] at hi'
   have hi0 : i - ys.length = 0:=by
    rcases Nat.eq_zero_or_pos (i - ys.length) with h | h
    ·exact h
    ·rw [List.getElem?_eq_none aI] at hi'; cases hi'
   rw [hi0] at hi'
   simp at hi'
   subst hi';obtain rfl : i = j:=ae;exact ⟨x,hx,O5.out⟩
 ) : P:=h
theorem AU {P : Prop} (h : P:=by
  clear hlt;go_wp2_with fail;go_ret
  exact ⟨z4,rfl,BW.out.trans (BW2.out _),fun h4 => sM⟩
 ) : P:=h
theorem A7 {P : Prop} (h : P:=by
  have:=(W5.out.later BN5.out).kept hBn.2.2 ae (Ne.symm hBn.2.1)
  rw [C7 enc hx]
  simpa [List.append_assoc] using this
 ) : P:=h
abbrev aR (a0 : Option Addr) (a1 : Nat) (a2 : Nat) (a3 : Option Addr) (a4 : Nat) (a5 : Nat) (a6 : Option Addr) (a7 : Nat) (a8 : Nat) (a9 : Int) (a10 : Int) (a11 : Option Addr) (a12 : Nat) (a13 : Nat) (a14 : Option Addr) (a15 : Nat) (a16 : Nat) (a17 : Option Addr) (a18 : Nat) (a19 : Nat) : Obj:=.cells #[.slice a0 a1 a2,.slice a3 a4 a5,.slice a6 a7 a8,.int .i64 a9,.int .i64 a10,.slice a11 a12 a13,.slice a14 a15 a16,.slice a17 a18 a19] 29
abbrev aA (a0 : Int) (a1 : Int) (a2 : Value) : Obj:=.cells #[.int .u8 a0,.int .i64 a1,a2] 82
abbrev aG (a0 : ByteArray) (a1 : ByteArray) : Obj:=.cells #[.string a0,.string a1] 113
abbrev aW (a0 : Int) (a1 : ByteArray) (a2 : Option Addr) (a3 : Nat) (a4 : Nat) : Obj:=.cells #[.int .i64 a0,.string a1,.slice a2 a3 a4] 59
abbrev bo (a0 : Int) (a1 : Int) (a2 : Option Addr) (a3 : Nat) (a4 : Nat) (a5 : Option Addr) (a6 : Nat) (a7 : Nat) : Obj:=.cells #[.int .i64 a0,.int .i64 a1,.slice a2 a3 a4,.slice a5 a6 a7] 54
abbrev bh (a0 : Int) (a1 : Bool) (a2 : Int) : Obj:=.cells #[.int .u8 a0,.bool a1,.int .u64 a2] 123
abbrev bG (a0 : Int) (a1 : Int) (a2 : Option Addr) (a3 : Nat) (a4 : Nat) : Obj:=.cells #[.int .u8 a0,.int .i64 a1,.slice a2 a3 a4] 82
abbrev aQ (a0 : Bool) : Obj:=.cells #[.bool a0] 4
abbrev bD (a0 : ByteArray) (a1 : ByteArray) : Obj:=.cells #[.string a0,.string a1] 56
abbrev fw (a0 : Option Addr) (a1 : Nat) (a2 : Nat) (a3 : Option Addr) (a4 : Nat) (a5 : Nat) (a6 : Option Addr) (a7 : Nat) (a8 : Nat) (a9 : Int) (a10 : Int) (a11 : Option Addr) (a12 : Nat) (a13 : Nat) (a14 : Int) (a15 : Int) : Obj:=.cells #[.slice a0 a1 a2,.slice a3 a4 a5,.slice a6 a7 a8,.int .i64 a9,.int .i8 a10,.slice a11 a12 a13,.int .i8 a14,.int .i64 a15] 35
abbrev bM (a0 : ByteArray) (a1 : Int) : Obj:=.cells #[.string a0,.int .i64 a1] 64
abbrev bO (a0 : Int) (a1 : Option Addr) (a2 : Nat) (a3 : Nat) : Obj:=.cells #[.int .i64 a0,.slice a1 a2 a3] 62
abbrev bC (a0 : Option Addr) : Obj:=.cells #[.pointer a0] 112
abbrev bJ (a0 : Int) : Obj:=.cells #[.int .i64 a0] 3
abbrev kK (a0 : Int) (a1 : ByteArray) (a2 : Int) (a3 : ByteArray) (a4 : ByteArray) (a5 : Bool) : Obj:=.cells #[.int .u8 a0,.string a1,.int .i8 a2,.string a3,.string a4,.bool a5] 219
abbrev mK (a0 : ByteArray) (a1 : ByteArray) (a2 : ByteArray) (a3 : Int) (a4 : Int) : Obj:=.cells #[.string a0,.string a1,.string a2,.int .u8 a3,.int .i64 a4] 115
abbrev fN (a0 : Int) : Obj:=.cells #[.int .u8 a0] 5
abbrev mM (a0 : Option Addr) (a1 : Nat) (a2 : Nat) (a3 : Int) (a4 : Int) : Obj:=.cells #[.slice a0 a1 a2,.int .i64 a3,.int .i64 a4] 76
abbrev iC (a0 : Option Addr) : Obj:=.cells #[.pointer a0] 70
abbrev gV (a0 : Option Addr) (a1 : Nat) (a2 : Nat) : Obj:=.cells #[.slice a0 a1 a2] 42
abbrev ja (a0 : Int) : Obj:=.cells #[.int .u64 a0] 49
abbrev iF (a0 : Option Addr) (a1 : Nat) (a2 : Nat) : Obj:=.cells #[.slice a0 a1 a2] 32
abbrev kU (a0 : Option Addr) (a1 : Nat) (a2 : Nat) (a3 : Bool) : Obj:=.cells #[.slice a0 a1 a2,.bool a3] 72
abbrev jz (a0 : Int) : Obj:=.cells #[.int .i64 a0] 39
abbrev qR (a0 : Int) (a1 : Int) : Obj:=.cells #[.int .i64 a0,.int .i64 a1] 142
abbrev jp (a0 : Option Addr) (a1 : Nat) (a2 : Nat) : Obj:=.cells #[.slice a0 a1 a2] 22
abbrev ek (a0 : Value) : Obj:=.cells #[a0] 163
abbrev jK (a0 : ByteArray) : Obj:=.cells #[.string a0] 9
theorem sIB {α : Type _} (l : List α) (i : Nat) (a : α) : l.toArray.setIfInBounds i a = (l.set i a).toArray:=List.setIfInBounds_toArray l i a
theorem sC0 {α : Type _} {x : α} {xs : List α} {a : α} : (x :: xs).set 0 a = a :: xs:=List.set_cons_zero
theorem sCs {α : Type _} {x : α} {xs : List α} {i : Nat} {a : α} : (x :: xs).set (i + 1) a = x :: xs.set i a:=List.set_cons_succ
theorem tkH {P : Program} {ops : Array Oper} {Q : Exit → Act → World → Prop} {md : Region.Mode} {S : World → Prop} {i : Nat} {oi : Oper} {v : Value} {fuel : Nat} {listed : Array Bool} {a : Act} {w : World} (hi : ops[i]? = some oi) (hv : ∀ w,S w → (execOp a.eval oi).run P w = .ok (.value v) w)
  (h : wpAnyH P md ops Q S fuel (listed.setIfInBounds i true) (a.put oi.dst v) w) (hc : (Region.noSelect ops && Region.free md ops listed i && (Region.ready md ops listed).contains i) = true:=by kernel_rfl) (hw : Region.wanted oi (yielded ops a.tmps) = true:=by rfl)
  (hQ : ∀ c a w,Q (.panic c) (a.put oi.dst v) w → Q (.panic c) a w:=by exact fun _ _ _ h => h) (hS : S w:=by assumption) : wpAnyH P md ops Q S (fuel + 1) listed a w:=by
 simp only [Bool.and_eq_true] at hc
 exact rX
theorem tkA {P : Program} {ops : Array Oper} {Q : Exit → Act → World → Prop} {md : Region.Mode} {S : World → Prop} {i : Nat} {oi : Oper} {d : Option Tmp} {v : Value} {fuel : Nat} {listed : Array Bool} {a : Act} {w : World} (hi : ops[i]? = some oi) (hd : oi.dst = d) (hv : ∀ w,S w → (execOp a.eval oi).run P w = .ok (.value v) w)
  (h : wpAnyH P md ops Q S fuel (listed.setIfInBounds i true) (a.put d v) w) (hc : (Region.noSelect ops && Region.free md ops listed i && (Region.ready md ops listed).contains i) = true:=by kernel_rfl) (hw : Region.wanted oi (yielded ops a.tmps) = true:=by kernel_rfl)
  (hQ : ∀ c a w,Q (.panic c) (a.put d v) w → Q (.panic c) a w:=by exact fun _ _ _ h => h) (hS : S w:=by assumption) : wpAnyH P md ops Q S (fuel + 1) listed a w:=by
 subst hd;exact tkH hi hv h hc hw hQ hS
theorem tkB {P : Program} {ops : Array Oper} {Q : Exit → Act → World → Prop} {md : Region.Mode} {S : World → Prop} {i : Nat} {oi : Oper} {d : Option Tmp} {v : Value} {fuel : Nat} {listed : Array Bool} {a : Act} {w : World} (h : wpAnyH P md ops Q S fuel (listed.setIfInBounds i true) (a.put d v) w) (hi : ops[i]? = some oi:=by kernel_rfl) (hd : oi.dst = d:=by kernel_rfl) (hv : ∀ w,S w → (execOp a.eval oi).run P w = .ok (.value v) w:=by (intro w h;(try dsimp only at h);go_simp;try with_reducible rfl))
  (hc : (Region.noSelect ops && Region.free md ops listed i && (Region.ready md ops listed).contains i) = true:=by kernel_rfl) (hw : Region.wanted oi (yielded ops a.tmps) = true:=by kernel_rfl) (hQ : ∀ c a w,Q (.panic c) (a.put d v) w → Q (.panic c) a w:=by exact fun _ _ _ h => h) (hS : S w:=by assumption) : wpAnyH P md ops Q S (fuel + 1) listed a w:=tkA hi hd hv h hc hw hQ hS
theorem tkC {P : Program} {ops : Array Oper} {Q : Exit → Act → World → Prop} {md : Region.Mode} {S : World → Prop} {i : Nat} {oi : Oper} {v : Value} {fuel : Nat} {listed : Array Bool} {a : Act} {w : World} (hi : ops[i]? = some oi) (h : wpAnyH P md ops Q S fuel (listed.setIfInBounds i true) (a.put oi.dst v) w) (hv : ∀ w,S w → (execOp a.eval oi).run P w = .ok (.value v) w:=by (intro w h;(try dsimp only at h);go_simp;try with_reducible rfl))
  (hc : (Region.noSelect ops && Region.free md ops listed i && (Region.ready md ops listed).contains i) = true:=by kernel_rfl) (hw : Region.wanted oi (yielded ops a.tmps) = true:=by rfl) (hQ : ∀ c a w,Q (.panic c) (a.put oi.dst v) w → Q (.panic c) a w:=by exact fun _ _ _ h => h) (hS : S w:=by assumption) : wpAnyH P md ops Q S (fuel + 1) listed a w:=tkH hi hv h hc hw hQ hS
theorem rdA {P : Program} {ops : Array Oper} {Q : Exit → Act → World → Prop} {md : Region.Mode} {S : World → Prop} {i : Nat} {o : Oper} {fuel : Nat} {listed : Array Bool} {a : Act} {w : World} {rs : List Nat} (h : ∀ K : Act → World → Prop,Shut (∀ a w,S w → (S w → wpAnyH P md ops Q S fuel (listed.setIfInBounds i true) a w) → K a w) → Oper.wp P o a w K Q) (hs : AllReadyH P md ops Q S fuel listed a w rs) (ho : ops[i]? = some o:=by kernel_rfl) (hw : Region.wanted o (yielded ops a.tmps) = true:=by kernel_rfl) : AllReadyH P md ops Q S fuel listed a w (i :: rs):=AllReadyH.cons ho (fun K hK => uu) hs
theorem rdY {P : Program} {ops : Array Oper} {Q : Exit → Act → World → Prop} {md : Region.Mode} {S : World → Prop} {rs : List Nat} {fuel : Nat} {listed : Array Bool} {a : Act} {w : World} (h : AllReadyH P md ops Q S fuel listed a w rs) (hr : Region.ready md ops listed = rs:=by kernel_rfl) (hne : rs ≠ []:=by simp) : wpAnyH P md ops Q S (fuel + 1) listed a w:=wpAnyH_ready hr hne h
theorem rN {P : Program} {ops : Array Oper} {Q : Exit → Act → World → Prop} {md : Region.Mode} {S : World → Prop} {fuel : Nat} {listed : Array Bool} {a : Act} {w : World} : AllReadyH P md ops Q S fuel listed a w []:=AllReadyH.nil
theorem hid {P : Prop} (h : P) : Hid P:=h
def isL (c : Int) : Bool:=decide (c = 119) || decide (c = 108)
theorem J6 {c : Int} (h : isL c = true) : c < 128:=by
 simp only [isL,Bool.or_eq_true,decide_eq_true_eq] at h; omega
theorem rh (c : Int) : (c = 119 ∧ isL c = true) ∨ (c = 108 ∧ isL c = true) ∨ ((c == 119) = false ∧ (c == 108) = false ∧ isL c = false):=by
 by_cases h : c = 119
 ·exact .inl ⟨h,by subst h; rfl⟩
 by_cases h' : c = 108
 ·exact .inr (.inl ⟨h',by subst h'; rfl⟩)
 ·exact .inr (.inr ⟨qa,by simpa using h',by simp [isL,h,h']⟩)
theorem lM (c : Int) (w : World) : Calls Tryz.prog 119 #[.int .u8 c] w fun e w' => e = .returned (.bool (isL c)) ∧ w' = w:=by
 rcases rh c with ⟨rfl,h⟩ | ⟨rfl,h⟩ | ⟨h1,h2,h⟩
 all_goals
  go_enter Tryz.func119,Tryz.ntmps119
  go_wp2;go_ret
  first | exact ⟨rfl,rfl⟩ | (rw [h]; simp_all)
def eu (v c : Int) : Bool:=decide (c = 108) || (decide (c = 119) && decide (v < 4294967296))
theorem xf (v c : Int) (w : World) : Calls Tryz.prog 62 #[.int .u64 v,.int .u8 c] w fun e w' => e = .returned (.bool (eu v c)) ∧ w' = w:=by
 rcases rh c with ⟨rfl,h⟩ | ⟨rfl,h⟩ | ⟨h1,h2,h⟩
 all_goals
  go_enter Tryz.func62,Tryz.ntmps62
  go_wp2;go_ret
  first | exact ⟨rfl,rfl⟩ | (simp_all [eu])
theorem Nq (k m c : Int) (B : Nat) (w : World) (hm : w.cell? ⟨B,0,none⟩ = some (.int .i64 m)) :
  Calls Tryz.prog 163 #[.int .i64 k,.int .u8 c,.pointer (some ⟨B,0,none⟩)] w fun e w' => e = .returned (.bool (decide (k < m))) ∧ w' = w:=by
 go_enter Tryz.func163,Tryz.ntmps163
 exact oC
def ic (s : ByteArray) (i : Nat) : Int:=((s.data.toList[i]?.getD 0).toNat : Int)
theorem lT (s : ByteArray) (i : Nat) (h : i < s.size) : ((s[i]'h).toNat : Int) = ic s i:=by
 have h' : i < s.data.toList.length:=qa
 rw [ic,ba h',Option.getD_some,Array.getElem_toList]; rfl
theorem EP (s : ByteArray) (K B : Nat) (p : Nat → Bool) (w : World) (hs : s.size ≤ 1073741824)
  (he : ∀ args w,(callFunc K args).run Tryz.prog w = .ok (.enter K args) w)
  (hp : ∀ (pos i : Nat) (h : i < s.size),isL (ic s i) = true → Calls Tryz.prog K #[.int .i64 i,.int .u8 (s[i]'h).toNat,.pointer (some ⟨B,0,none⟩)] (w.iter s pos) fun e w' => e = .returned (.bool (p i)) ∧ w' = w.iter s pos) :
  Calls Tryz.prog 84 #[.string s,.func (.func K) #[] #[.pointer (some ⟨B,0,none⟩)]] w fun e w' =>
   ∃ b pos,e = .returned (.bool b) ∧ (b = true ↔ ∀ i,i < s.size → isL (ic s i) = true ∧ p i = true) ∧ w' = w.iter s pos:=by
 have HP:=hid hp;clear hp
 go_enter Tryz.func84,Tryz.ntmps84
 go_wp2
 go_loopw [5] (fun _ wr => ∃ k : Nat,k ≤ s.size ∧ wr = w.iter s k ∧ ∀ i,i < k → isL (ic s i) = true ∧ p i = true) (fun _ wr => s.size - wr.iterPos w.heap.size)
 case atStart => exact ⟨0,Nat.zero_le _,rfl,fun i h => ae⟩
 case round =>
  obtain ⟨k,hk,rfl,hall⟩:=hrel;have HA:=hid hall;clear hall
  by_cases hlt : k < s.size
  ·by_cases hL : isL (ic s k) = true
   ·have hlow : (s[k]'hlt).toNat < 128:=by have:=J6 hL; rw [← lT s k hlt] at this; omega
    have hnx : ∀ ty,(Instr.next (.pointer (some ⟨w.heap.size,0,none⟩)) true ty).run Tryz.prog (w.iter s k) = _:=fun ty => run_next_ascii w s k ty hlt hlow
    go_wp2_with fail;refine (lM _ _).mono ?_;rintro e w1 ⟨rfl,rfl⟩;rw [lT s k hlt,hL];go_wp2_with fail;refine (HP.out (k + 1) k hlt hL).mono ?_;rintro e w2 ⟨rfl,rfl⟩
    cases hpk : p k
    ·go_wp2;go_ret
     exact ⟨false,k + 1,rfl,⟨fun h => (nomatch h),fun h => (by rw [(h k hlt).2] at hpk; cases hpk)⟩,rfl⟩
    ·go_wp2
     go_roundw
     case rel =>
      refine ⟨k + 1,ae,rfl,fun i hi => ?_⟩
      rcases Nat.lt_or_ge i k with h | h
      ·exact HA.out i h
      ·obtain rfl : i = k:=ae;exact ⟨hL,hpk⟩
     case measure => simp; omega
   ·have hL' : isL (ic s k) = false:=by simpa using hL
    have hnx : ∀ ty,(Instr.next (.pointer (some ⟨w.heap.size,0,none⟩)) true ty).run Tryz.prog (w.iter s k) = _:=fun ty => run_next_any w s k ty hlt
    generalize (Utf8.decode s k).2 = wd at hnx;generalize (Utf8.decode s k).1 = rv at hnx;go_wp2_with fail;refine (lM _ _).mono ?_;rintro e w1 ⟨rfl,rfl⟩;rw [lT s k hlt,hL'];go_wp2;go_ret
    exact ⟨false,_,rfl,⟨fun h => (nomatch h),fun h => absurd (h k hlt).1 hL⟩,rfl⟩
  ·have hnx : ∀ ty,(Instr.next (.pointer (some ⟨w.heap.size,0,none⟩)) true ty).run Tryz.prog (w.iter s k) = _:=fun ty => run_next_end w s k ty hlt
   go_wp2;go_ret
   exact ⟨true,_,rfl,⟨fun _ i hi => HA.out i ae,fun _ => rfl⟩,rfl⟩
def cA (s : ByteArray) (most : Nat) : Bool:=(List.range s.size).all (fun i => isL (ic s i)) && decide (s.size ≤ most)
theorem vr (s : ByteArray) (most : Nat) : cA s most = true ↔ (∀ i,i < s.size → isL (ic s i) = true) ∧ s.size ≤ most:=by
 simp [cA]
theorem Jb {s : ByteArray} {most : Nat} {b : Bool} (h : b = true ↔ (∀ i,i < s.size → isL (ic s i) = true) ∧ s.size ≤ most) : b = cA s most :=
 Bool.eq_iff_iff.2 (h.trans (vr s most).symm)
theorem DD (s : ByteArray) (most : Nat) (w : World) (hs : s.size ≤ 1073741824) (hm : most ≤ 1073741824) :
  Calls Tryz.prog 159 #[.string s,.int .i64 most] w fun e w' => e = .returned (.bool (cA s most)) ∧ Below w.heap.size w w':=by
 have hmf : ∀ (fn : Fn) (first cap : Array Value) (w : World),(Instr.makeFunc fn first cap).run Tryz.prog w = .ok (.func fn first cap) w:=fun _ _ _ _ => rfl
 have HE:=hid (EP s 163 w.heap.size (fun i => decide ((i : Int) < most)) (w.alloc (bJ most)) hs (fun _ _ => by rfl) (fun pos i h _ => Nq i most _ w.heap.size _ (by
  rw [World.iter,World.cell?_alloc_past _ _ _ au,World.cell?_alloc_at _ _ _ _ rfl]; rfl)))
 go_enter Tryz.func159,Tryz.ntmps159
 go_wp2_with fail;refine HE.out.mono ?_;rintro e w1 ⟨b,pos,rfl,hb,rfl⟩;go_wp2;go_ret
 have hbl : b = cA s most:=by
  refine Jb (hb.trans ⟨fun h => ⟨fun i hi => (h i hi).1,?_⟩,fun h i hi => ⟨h.1 i hi,aI⟩⟩)
  rcases Nat.eq_zero_or_pos s.size with h0 | h0
  ·omega
  ·have:=(h (s.size - 1) ae).2
   simp at this
   omega
 subst hbl;exact ⟨rfl,((Below.refl _ _).alloc (Nat.le_refl _) _).alloc au _⟩
theorem oG (s : ByteArray) (w : World) (hs : s.size ≤ 1073741824) :
  Calls Tryz.prog 152 #[.string s] w fun e w' => e = .returned (.bool (cA s 256)) ∧ Below w.heap.size w w':=by
 have HE:=hid (DD s 256 w hs ae)
 go_enter Tryz.func152,Tryz.ntmps152
 go_wp2_with fail;refine HE.out.mono ?_;rintro e w1 ⟨rfl,hb⟩;go_wp2;go_ret;exact ⟨rfl,hb⟩
structure Kept (S : Nat → Prop) (w w' : World) : Prop where
 os : w'.os = w.os
 tape : w'.tape = w.tape
 output : w'.output = w.output
 size : w.heap.size ≤ w'.heap.size
 block : ∀ k,k < w.heap.size → ¬ S k → w'.heap[k]? = w.heap[k]?
theorem Kept.refl (S : Nat → Prop) (w : World) : Kept S w w:=⟨rfl,rfl,rfl,Nat.le_refl _,fun _ _ _ => rfl⟩
theorem Kept.trans {S : Nat → Prop} {w w1 w2 : World} (h1 : Kept S w w1) (h2 : Kept S w1 w2) : Kept S w w2 :=
 ⟨h2.os.trans h1.os,h2.tape.trans h1.tape,h2.output.trans h1.output,Nat.le_trans h1.size h2.size,
  fun k hk hs => (h2.block k (Nat.lt_of_lt_of_le hk h1.size) hs).trans (h1.block k hk hs)⟩
theorem Kept.then {S T : Nat → Prop} {w w1 w2 : World} (h1 : Kept S w w1) (h2 : Kept T w1 w2) (h : ∀ k,k < w.heap.size → T k → S k) : Kept S w w2 :=
 ⟨h2.os.trans h1.os,h2.tape.trans h1.tape,h2.output.trans h1.output,Nat.le_trans h1.size h2.size,
  fun k hk hs => (h2.block k (Nat.lt_of_lt_of_le hk h1.size) (fun ht => hs (h k hk ht))).trans (h1.block k hk hs)⟩
theorem Kept.of_grown {w w' : World} {r : Option Nat} (h : w.grownBy w' r) : Kept (fun k => some k = r) w w':=⟨h.os,h.tape,h.output,h.size,fun k hk hs => h.block k hk hs⟩
theorem Kept.alloc (S : Nat → Prop) (w : World) (o : Obj) : Kept S w (w.alloc o):=by
 have h:=(Below.refl w.heap.size w).alloc (Nat.le_refl _) o
 exact ⟨h.os,h.tape,h.output,h.size,fun k hk _ => h.block k hk⟩
theorem Kept.of_below {B : Nat} {w w' : World} (h : Below B w w') : Kept (fun k => B ≤ k) w w':=⟨h.os,h.tape,h.output,h.size,fun k hk hs => h.block k ae⟩
theorem Kept.to_below {S : Nat → Prop} {B : Nat} {w w' : World} (h : Kept S w w') (hB : B ≤ w.heap.size) (hS : ∀ k,k < B → ¬ S k) : Below B w w':=⟨h.os,h.tape,h.output,h.size,fun k hk => h.block k ae (hS k hk)⟩
theorem Kept.mono {S T : Nat → Prop} {w w' : World} (h : Kept S w w') (hS : ∀ k,S k → T k) : Kept T w w':=⟨h.os,h.tape,h.output,h.size,fun k hk hs => h.block k hk (fun x => hs (hS k x))⟩
theorem Kept.drewN (S : Nat → Prop) (w : World) (m : Nat) : Kept S w (w.drewN m):=by
 have h:=below_drewN (Below.refl w.heap.size w) m
 exact ⟨h.os,h.tape,h.output,h.size,fun k hk _ => h.block k hk⟩
theorem cell_of_block {w w' : World} {b : Nat} (h : w'.heap[b]? = w.heap[b]?) (o : Nat) : w'.cell? ⟨b,o,none⟩ = w.cell? ⟨b,o,none⟩:=by
 simp only [World.cell?,h]
theorem bb {w w' : World} {b : Nat} (h : w'.heap[b]? = w.heap[b]?) (o : Nat) : w'.frozen? ⟨b,o,none⟩ = w.frozen? ⟨b,o,none⟩:=by
 simp only [World.frozen?,h]
theorem Kept.cell {S : Nat → Prop} {w w' : World} (h : Kept S w w') {b o : Nat} {v : Value} (hc : w.cell? ⟨b,o,none⟩ = some v) (hs : ¬ S b) : w'.cell? ⟨b,o,none⟩ = some v :=
 (cell_of_block (h.block b (block_lt_of_cell hc) hs) o).trans hc
def Row (w : World) (e : TypeId) (B n cap : Nat) (xs : List Value) : Prop:=w.ownsRow 0 e 1 (.slice (some ⟨B,0,none⟩) n cap) n xs
theorem Row.of {w : World} {base : Nat} {e : TypeId} {B n cap : Nat} {xs : List Value} (h : w.ownsRow base e 1 (.slice (some ⟨B,0,none⟩) n cap) n xs) : Row w e B n cap xs:=by
 exact Ga
theorem Row.block {w : World} {e : TypeId} {B n cap : Nat} {xs : List Value} (h : Row w e B n cap xs) : ∃ cur,w.heap[B]? = some (.cells cur e) ∧ n ≤ cap ∧ cap ≤ maxLen ∧ cur.size = cap ∧ cur.toList.take n = xs:=by
 rcases h.2 with ⟨h,_⟩ | ⟨g,cp,cur,h1,_,h3,h4,h5,h6,h7⟩
 ·cases h
 ·simp at h1
  obtain ⟨rfl,rfl⟩:=h1
  exact ⟨cur,h3,h4,h5,by simpa using h6,by simpa using h7⟩
theorem Row.lt {w : World} {e : TypeId} {B n cap : Nat} {xs : List Value} (h : Row w e B n cap xs) : B < w.heap.size:=by
 exact Fg
theorem jL {w w' : World} {base : Nat} {e : TypeId} {v : Value} {n : Nat} {xs : List Value} (h : w.ownsRow base e 1 v n xs) (hk : ∀ B,v.ownBlock = some B → w'.heap[B]? = w.heap[B]?) : w'.ownsRow base e 1 v n xs:=by
 exact EJ
theorem Row.keep {w w' : World} {e : TypeId} {B n cap : Nat} {xs : List Value} (h : Row w e B n cap xs) (hk : w'.heap[B]? = w.heap[B]?) : Row w' e B n cap xs :=
 jL h (fun b hb => by
  obtain rfl : B = b:=ql;exact hk)
theorem Row.kept {S : Nat → Prop} {w w' : World} {e : TypeId} {B n cap : Nat} {xs : List Value} (h : Row w e B n cap xs) (hk : Kept S w w') (hs : ¬ S B) : Row w' e B n cap xs:=h.keep (hk.block B h.lt hs)
theorem Row.cell {w : World} {e : TypeId} {B n cap : Nat} {xs : List Value} (h : Row w e B n cap xs) (j : Nat) (hj : j < n) : w.cell? ⟨B,j,none⟩ = xs[j]?:=World.ownsRow.cellAt h j ae
theorem Row.free {w : World} {e : TypeId} {B n cap : Nat} {xs : List Value} (h : Row w e B n cap xs) (j : Nat) : w.frozen? ⟨B,j,none⟩ = false:=World.ownsRow.frozenAt h j
theorem Row.put {w : World} {e : TypeId} {B n cap : Nat} {xs : List Value} (h : Row w e B n cap xs) (j : Nat) (u : Value) : Row (w.setCell ⟨B,j,none⟩ u) e B n cap (xs.set j u) ∧ Kept (fun k => k = B) w (w.setCell ⟨B,j,none⟩ u):=by
 have:=World.ownsRow.stored h j u
 exact ⟨this.1,(Kept.of_grown this.2).mono (fun k hk => by simpa using hk)⟩
theorem o9 {w : World} {base base' : Nat} {e : TypeId} {v : Value} {n : Nat} {xs : List Value} (h : w.ownsRow base e 1 v n xs) (hb : base' ≤ base) : w.ownsRow base' e 1 v n xs:=by
 exact GZ
def ends (s t : ByteArray) : Bool:=decide (t.size ≤ s.size) && ((s.extract (s.size - t.size) s.size).toList == t.toList)
theorem Gy {a b : Nat} (h : b ≤ a) (ha : a ≤ 9223372036854775807) : ((a : Int) - (b : Int) + 9223372036854775808) % 18446744073709551616 - 9223372036854775808 = ((a - b : Nat) : Int):=ae
theorem MC (s p : ByteArray) (w : World) (hs : s.size ≤ 9223372036854775807) :
  Calls Tryz.prog 160 #[.string s,.string p] w fun e w' => e = .returned (.bool (ends s p)) ∧ w' = w:=by
 have hlo : p.size ≤ s.size → ((s.size : Int) - (p.size : Int) + 9223372036854775808) % 18446744073709551616 - 9223372036854775808 = ((s.size - p.size : Nat) : Int):=fun _ => ae
 go_enter Tryz.func160,Tryz.ntmps160
 go_wp2
 ·have h : p.size ≤ s.size:=bB;go_ret;refine ⟨?_,rfl⟩
  show Ending.returned (Value.bool ((s.extract (s.size - p.size) s.size).toList == p.toList)) = _
  simp [h,ends]
 ·have h : ¬ p.size ≤ s.size:=bB;go_ret;refine ⟨?_,rfl⟩
  show Ending.returned (Value.bool false) = _
  simp [h,ends]
theorem MP (s p : ByteArray) (w : World) (hs : s.size ≤ 9223372036854775807) :
  Calls Tryz.prog 154 #[.string s,.string p] w fun e w' => e = .returned (.bool (ends s p)) ∧ w' = w:=by
 have HE:=hid (MC s p w hs)
 go_enter Tryz.func154,Tryz.ntmps154
 go_wp2_with fail;refine HE.out.mono ?_;rintro e w1 ⟨rfl,rfl⟩;exact oC
theorem CY (s t : ByteArray) (B : Nat) (w : World) (hs : s.size ≤ 1073741824) (ht : t.size ≤ 1073741824)
  (h0 : w.cell? ⟨B,0,none⟩ = some (.string s)) (h1 : w.cell? ⟨B,1,none⟩ = some (.string t)) :
  Calls Tryz.prog 153 #[.slice (some ⟨B,0,none⟩) 2 2] w fun e w' => e = .returned (.bool (cA s 256 && cA t 256)) ∧ Below w.heap.size w w':=by
 have hB : B < w.heap.size:=World.block_lt_of_cell? _ _ h0;have H0:=hid h0;have H1:=hid h1;clear h0 h1
 go_enter Tryz.func153,Tryz.ntmps153
 go_wp2
 go_loopw [7] (fun i wr => ∃ k : Nat,k ≤ 2 ∧ i = .int .i64 k ∧ (0 < k → cA s 256 = true) ∧ (1 < k → cA t 256 = true) ∧ Below w.heap.size w wr) (fun i _ => 2 - (intOf i).toNat)
 case atStart => exact ⟨0,ae,rfl,fun h => ae,fun h => ae,Below.refl _ _⟩
 case round =>
  obtain ⟨k,hk,rfl,ha,hb,hw⟩:=hrel;have HA:=hid ha;have HB:=hid hb;clear ha hb
  obtain rfl | rfl | rfl : k = 0 ∨ k = 1 ∨ k = 2:=ae
  ·have hc : wr.cell? ⟨B,0,none⟩ = some (.string s):=by rw [hw.cell hB]; exact H0.out
   have HE:=hid (oG s wr hs);go_wp2_with fail;refine HE.out.mono ?_;rintro e w1 ⟨rfl,h1⟩
   cases hl : cA s 256
   ·go_wp2;go_ret;exact ⟨lu,hw.trans (h1.mono hw.size)⟩
   ·go_wp2
    go_roundw
    case rel => exact ⟨1,ae,au,fun _ => hl,fun h => ae,hw.trans (h1.mono hw.size)⟩
    case measure => simp [intOf]
  ·have hc : wr.cell? ⟨B,1,none⟩ = some (.string t):=by rw [hw.cell hB]; exact H1.out
   have HE:=hid (oG t wr ht);go_wp2_with fail;refine HE.out.mono ?_;rintro e w1 ⟨rfl,h1⟩
   cases hl : cA t 256
   ·go_wp2;go_ret;exact ⟨lu,hw.trans (h1.mono hw.size)⟩
   ·go_wp2
    go_roundw
    case rel => exact ⟨2,ae,au,fun _ => HA.out ae,fun h => hl,hw.trans (h1.mono hw.size)⟩
    case measure => simp [intOf]
  ·go_wp2;go_ret
   exact ⟨by rw [HA.out ae,HB.out ae]; rfl,hw⟩
theorem Gk (s t : ByteArray) (w : World) (hs : s.size ≤ 1073741824) (ht : t.size ≤ 1073741824) :
  Calls Tryz.prog 153 #[.slice (some ⟨w.heap.size,0,none⟩) 2 2] (w.alloc (.cells #[.string s,.string t] 9)) fun e w' => e = .returned (.bool (cA s 256 && cA t 256)) ∧ Below w.heap.size w w':=by
 have hc:=cell_two_new w (.string s) (.string t) 9
 have hadd : ∀ j : Nat,(⟨w.heap.size,0,none⟩ : Addr).add j = ⟨w.heap.size,j,none⟩:=fun j => dJ
 have h0:=hc 0 _ rfl;have h1:=hc 1 _ rfl;rw [hadd] at h0 h1;refine (CY s t w.heap.size _ hs ht h0 h1).mono ?_;rintro e w' ⟨rfl,h⟩;exact ⟨rfl,((Below.refl _ _).alloc (Nat.le_refl _) _).trans (h.mono au)⟩
def shp (s t : ByteArray) : Bool:=cA s 256 && cA t 256
def wM (s t : ByteArray) : Bool:=shp s t && ends s t
def bV (s t : ByteArray) : Int:=if shp s t = true then if 256 < s.size + t.size then 34 else 0 else 15
def iT (s t : ByteArray) : ByteArray:=if bV s t = 0 then s ++ t else ⟨#[]⟩
theorem JP {s t : ByteArray} (h : ends s t = true) : t.size ≤ s.size:=by
 simp only [ends,Bool.and_eq_true,decide_eq_true_eq] at h; exact h.1
theorem LV (s t : ByteArray) (w : World) (hs : s.size ≤ 1073741824) (ht : t.size ≤ 1073741824) :
  Calls Tryz.prog 142 #[.string s,.string t] w fun e w' => e = .returned (.bool (wM s t)) ∧ Below w.heap.size w w':=by
 have H1:=hid (Gk s t w hs ht)
 cases hh : shp s t
 ·unfold shp at hh;rw [hh] at H1
  go_enter Tryz.func142,Tryz.ntmps142
  go_wp2_with fail;refine H1.out.mono ?_;rintro e w1 ⟨rfl,hb⟩;go_wp2;go_ret
  exact ⟨by simp [wM,shp,hh],hb⟩
 ·unfold shp at hh;rw [hh] at H1
  go_enter Tryz.func142,Tryz.ntmps142
  go_wp2_with fail;refine H1.out.mono ?_;rintro e w1 ⟨rfl,hb⟩;have H2:=hid (MP s t w1 ae);go_wp2_with fail;refine H2.out.mono ?_;rintro e w2 ⟨rfl,rfl⟩;go_wp2;go_ret
  exact ⟨by simp [wM,shp,hh],hb⟩
theorem Jt (s t : ByteArray) (w : World) (hs : s.size ≤ 1073741824) (ht : t.size ≤ 1073741824) :
  Calls Tryz.prog 151 #[.string s,.string t] w fun e w' => e = .returned (.tuple #[.string (iT s t),.int .i64 (bV s t)]) ∧ Below w.heap.size w w':=by
 have H1:=hid (Gk s t w hs ht)
 cases hh : shp s t
 ·have hE : bV s t = 15:=by simp [bV,hh]
  have hV : iT s t = ⟨#[]⟩:=by simp [iT,hE]
  exact yh
 ·by_cases hbig : 256 < s.size + t.size
  ·have hE : bV s t = 34:=by simp [bV,hh,hbig]
   have hV : iT s t = ⟨#[]⟩:=by simp [iT,hE]
   have hbig' : (256 : Int) < (s.size : Int) + (t.size : Int):=ae;exact yh
  ·have hE : bV s t = 0:=by simp [bV,hh,hbig]
   have hV : iT s t = s ++ t:=by simp [iT,hE]
   have hbig' : ¬ (256 : Int) < (s.size : Int) + (t.size : Int):=ae;exact yh
theorem Tryz.infInts : (Tryz.prog.info? 3).map (fun i => (i.zero,i.size,i.bytes)) = some (some (.int .i64 0),1,8):=ak
def fl (n : Nat) (f : Nat → Int) : List Value:=(List.range n).map fun i => Value.int .i64 (f i)
theorem mQ (n : Nat) (f : Nat → Int) : (fl n f).length = n:=by simp [fl]
theorem rS (n : Nat) (f : Nat → Int) (i : Nat) (h : i < n) : (fl n f)[i]? = some (.int .i64 (f i)):=by simp [fl,h]
theorem GC {n : Nat} {f g : Nat → Int} (h : ∀ i,i < n → f i = g i) : fl n f = fl n g:=by
 unfold fl; apply List.map_congr_left; intro i hi; rw [h i uz]
theorem LJ {n : Nat} {f : Nat → Int} {t : Nat} {v : Int} {g : Nat → Int} (h : ∀ i,i < n → g i = if i = t then v else f i) : (fl n f).set t (.int .i64 v) = fl n g:=by
 apply List.ext_getElem?
 intro j
 by_cases hj : j < n
 ·rw [rS n g j hj,h j hj]
  by_cases e : j = t
  ·subst e
   rw [if_pos rfl,List.getElem?_set_self (by rw [mQ]; exact hj)]
  ·rw [if_neg e,List.getElem?_set_ne (fun x => e x.symm),rS n f j hj]
 ·rw [List.getElem?_eq_none (by rw [List.length_set,mQ]; omega),List.getElem?_eq_none (by rw [mQ]; omega)]
def RI (w : World) (B n : Nat) (f : Nat → Int) : Prop:=Row w 3 B n n (fl n f)
theorem RI.cell {w : World} {B n : Nat} {f : Nat → Int} (h : RI w B n f) (i : Nat) (hi : i < n) : w.cell? ⟨B,i,none⟩ = some (.int .i64 (f i)):=(Row.cell h i hi).trans (rS n f i hi)
theorem RI.free {w : World} {B n : Nat} {f : Nat → Int} (h : RI w B n f) (i : Nat) : w.frozen? ⟨B,i,none⟩ = false:=Row.free h i
theorem RI.lt {w : World} {B n : Nat} {f : Nat → Int} (h : RI w B n f) : B < w.heap.size:=Row.lt h
theorem RI.congr {w : World} {B n : Nat} {f g : Nat → Int} (h : RI w B n f) (e : ∀ i,i < n → g i = f i) : RI w B n g:=by
 unfold RI; rw [GC e]; exact h
theorem RI.put {w : World} {B n : Nat} {f g : Nat → Int} (h : RI w B n f) (t : Nat) (v : Int) (e : ∀ i,i < n → g i = if i = t then v else f i) : RI (w.setCell ⟨B,t,none⟩ (.int .i64 v)) B n g ∧ Kept (fun k => k = B) w (w.setCell ⟨B,t,none⟩ (.int .i64 v)):=by
 have:=Row.put h t (.int .i64 v)
 rw [LJ e] at this;exact this
theorem RI.kept {S : Nat → Prop} {w w' : World} {B n : Nat} {f : Nat → Int} (h : RI w B n f) (hk : Kept S w w') (hs : ¬ S B) : RI w' B n f:=Row.kept h hk hs
def oo (w : World) (a : Option Addr) (n cap : Nat) (l : List Int) : Prop :=
 l.length = n ∧ n ≤ cap ∧ n ≤ 1099511627776 ∧ (∀ z ∈ l,-9223372036854775808 ≤ z ∧ z ≤ 9223372036854775807) ∧
 (n = 0 ∨ ∃ b off,a = some ⟨b,off,none⟩ ∧ ∀ j,j < n → w.cell? ⟨b,off + j,none⟩ = some (.int .i64 (l.getD j 0)))
theorem oo.keep {S : Nat → Prop} {w w' : World} {a : Option Addr} {n cap : Nat} {l : List Int} (h : oo w a n cap l) (hk : Kept S w w') (hs : ∀ b off,a = some ⟨b,off,none⟩ → n ≠ 0 → ¬ S b) : oo w' a n cap l:=by
 obtain ⟨hz,h1,h2,h3,ha⟩:=h;refine ⟨hz,h1,h2,h3,?_⟩
 by_cases h0 : n = 0
 ·exact .inl h0
 rcases ha with ha | ⟨b,off,e,hc⟩
 ·exact .inl ha
 ·exact .inr ⟨b,off,e,fun j hj => hk.cell (hc j hj) (hs b off e h0)⟩
theorem oo.later {w w' : World} {a : Option Addr} {n cap : Nat} {l : List Int} {B : Nat} (h : oo w a n cap l) (hb : Below B w w') (hB : w.heap.size ≤ B) : oo w' a n cap l:=by
 exact yf
structure Inx where
 c : Int
 a : Int
 la : Option Addr
 ln : Nat
 lc : Nat
 l : List Int
def dx : Inx:=⟨0,0,none,0,0,[]⟩
def Kf (w : World) (b o : Nat) (x : Inx) : Prop :=
 w.cell? ⟨b,o,none⟩ = some (.int .u8 x.c) ∧ w.cell? ⟨b,o + 1,none⟩ = some (.int .i64 x.a) ∧ w.cell? ⟨b,o + 2,none⟩ = some (.slice x.la x.ln x.lc) ∧
  0 ≤ x.c ∧ x.c ≤ 255 ∧ -9223372036854775808 ≤ x.a ∧ x.a ≤ 9223372036854775807 ∧ x.ln ≤ 140737488355328 ∧ (x.ln ≤ 100000 → oo w x.la x.ln x.lc x.l)
theorem Kf.later {w w' : World} {b o : Nat} {x : Inx} (h : Kf w b o x) {B : Nat} (hb : Below B w w') (hB : w.heap.size ≤ B) : Kf w' b o x:=by
 obtain ⟨h0,h1,h2,h3,h4,h7,h8,h5,h6⟩:=h;have hlt:=block_lt_of_cell h0
 simp only at hlt
 exact ⟨(hb.cell td).trans h0,(hb.cell td).trans h1,(hb.cell td).trans h2,h3,h4,h7,h8,h5,fun h => (h6 h).later hb hB⟩
def opF (xs : List Inx) (i : Nat) : Int:=(xs.getD i dx).c
def Cod (w : World) (b off n : Nat) (xs : List Inx) : Prop:=xs.length = n ∧ ∀ j,j < n → Kf w b (off + j * 3) (xs.getD j dx)
theorem Cod.later {w w' : World} {b off n : Nat} {xs : List Inx} (h : Cod w b off n xs) {B : Nat} (hb : Below B w w') (hB : w.heap.size ≤ B) : Cod w' b off n xs:=⟨h.1,fun j hj => (h.2 j hj).later hb hB⟩
theorem Cod.op {w : World} {b off n : Nat} {xs : List Inx} (h : Cod w b off n xs) {j : Nat} (hj : j < n) : w.cell? ⟨b,off + j * 3,none⟩ = some (.int .u8 (opF xs j)):=(h.2 j hj).1
theorem Cod.lt {w : World} {b off n : Nat} {xs : List Inx} (h : Cod w b off n xs) (hn : 0 < n) : b < w.heap.size:=block_lt_of_cell (h.op hn)
theorem Cod.range {w : World} {b off n : Nat} {xs : List Inx} (h : Cod w b off n xs) {j : Nat} (hj : j < n) : 0 ≤ opF xs j ∧ opF xs j ≤ 255:=⟨(h.2 j hj).2.2.2.1,(h.2 j hj).2.2.2.2.1⟩
theorem Cod.num {w : World} {b off n : Nat} {xs : List Inx} (h : Cod w b off n xs) {j : Nat} (hj : j < n) : w.cell? ⟨b,off + j * 3 + 1,none⟩ = some (.int .i64 (xs.getD j dx).a):=(h.2 j hj).2.1
theorem Cod.lab {w : World} {b off n : Nat} {xs : List Inx} (h : Cod w b off n xs) {j : Nat} (hj : j < n) : w.cell? ⟨b,off + j * 3 + 2,none⟩ = some (.slice (xs.getD j dx).la (xs.getD j dx).ln (xs.getD j dx).lc):=(h.2 j hj).2.2.1
def xy (w : World) (a : Option Addr) (n : Nat) (xs : List Inx) : Prop:=xs.length = n ∧ (n = 0 ∨ ∃ b off,a = some ⟨b,off,none⟩ ∧ Cod w b off n xs)
theorem xy.later {w w' : World} {a : Option Addr} {n : Nat} {xs : List Inx} (h : xy w a n xs) {B : Nat} (hb : Below B w w') (hB : w.heap.size ≤ B) : xy w' a n xs:=by
 refine ⟨h.1,?_⟩
 rcases h.2 with h0 | ⟨b,off,e,hc⟩
 ·exact .inl h0
 ·exact .inr ⟨b,off,e,hc.later hb hB⟩
def ru : List Int → Nat → Int → Int → Int × Int × Int
 | [],_,_,_ => (0,0,10)
 | c :: l,i,p,v =>
  if i = 9 ∧ 1 < c then (0,0,11)
  else if c = 0 ∧ 0 < i then (0,0,12)
  else if c < 128 then (v + c * 128 ^ i,p + 1,0)
  else ru l (i + 1) (p + 1) (v + (c - 128) * 128 ^ i)
def cI (zs : List Int) (p : Int) : Int × Int × Int :=
 if p < 0 ∨ (zs.length : Int) < p then (0,0,1) else ru (zs.drop p.toNat) 0 p 0
theorem nA (k : Nat) (hk : k ≤ 9) : k = 0 ∨ k = 1 ∨ k = 2 ∨ k = 3 ∨ k = 4 ∨ k = 5 ∨ k = 6 ∨ k = 7 ∨ k = 8 ∨ k = 9:=ae
theorem pow_pos (k : Nat) : (0 : Int) < 128 ^ k:=Int.pow_pos ax
theorem Gt (k : Nat) (hk : k ≤ 9) : (128 : Int) ^ k ≤ 9223372036854775808:=by
 rcases nA k hk with rfl | rfl | rfl | rfl | rfl | rfl | rfl | rfl | rfl | rfl <;> decide
theorem I9 (k : Nat) : (2 : Int) ^ (7 * k) = 128 ^ k:=by
 rw [Int.pow_mul]; rfl
theorem wU (V c : Int) (k : Nat) (hk : k ≤ 8) (h0 : 0 ≤ V) (hV : V < 128 ^ k) (hc0 : 0 ≤ c) (hc : c < 128) :
  bits .or .u64 V (IntKind.u64.wrap (c * 2 ^ (7 * k))) = V + c * 128 ^ k:=by
 obtain ⟨V,rfl⟩:=Int.eq_ofNat_of_zero_le h0;obtain ⟨c,rfl⟩:=Int.eq_ofNat_of_zero_le hc0;have hpn : ((128 ^ k : Nat) : Int) = (128 : Int) ^ k:=au;have hle:=Gt k ae
 have hcc : (128 : Int) ^ k ≤ 72057594037927936:=by
  rcases nA k ae with rfl | rfl | rfl | rfl | rfl | rfl | rfl | rfl | rfl | rfl <;> first | decide | omega
 have hmul : (c : Int) * 128 ^ k ≤ 127 * 72057594037927936:=Int.mul_le_mul ae hcc (Int.le_of_lt (pow_pos k)) ax;have hmul0 : 0 ≤ (c : Int) * 128 ^ k:=Int.mul_nonneg hc0 (Int.le_of_lt (pow_pos k));rw [I9,IntKind.wrap_u64,Int.emod_eq_of_lt hmul0 ae]
 have hcast : (c : Int) * 128 ^ k = ((c * 128 ^ k : Nat) : Int):=by rw [Int.natCast_mul,hpn]
 rw [hcast] at hmul hmul0 ⊢;rw [u64_or_nat V (c * 128 ^ k) ae ae]
 have hV' : V < 128 ^ k:=by rw [← hpn] at hV; omega
 have h2 : (128 : Nat) ^ k = 2 ^ (7 * k):=by rw [Nat.pow_mul]
 rw [Nat.or_comm,nat_join (7 * k) (c * 128 ^ k) V (by rw [h2]; exact Nat.mul_mod_left _ _) (by rw [← h2]; exact hV')]
 omega
theorem LU (V : Int) (h0 : 0 ≤ V) (hV : V < 128 ^ 9) : bits .or .u64 V 9223372036854775808 = V + 9223372036854775808:=by
 obtain ⟨V,rfl⟩:=Int.eq_ofNat_of_zero_le h0;have e : (128 : Int) ^ 9 = 9223372036854775808:=ax;rw [e] at hV
 have:=u64_or_nat V 9223372036854775808 ae ax
 rw [show (9223372036854775808 : Int) = ((9223372036854775808 : Nat) : Int) from rfl,this]
 rw [Nat.or_comm,nat_join 63 9223372036854775808 V ax (by simpa using by omega)]
 omega
theorem Fw : ∀ (l : List Int) (i : Nat) (p v : Int),i ≤ 9 → 0 ≤ v → v < 128 ^ i → (∀ z ∈ l,0 ≤ z ∧ z ≤ 255) → 0 ≤ p →
  0 ≤ (ru l i p v).1 ∧ (ru l i p v).1 < 18446744073709551616 ∧ 0 ≤ (ru l i p v).2.1 ∧ (ru l i p v).2.1 ≤ p + l.length ∧ 0 ≤ (ru l i p v).2.2 ∧ (ru l i p v).2.2 ≤ 12 ∧
  ((ru l i p v).2.2 = 0 → p < (ru l i p v).2.1) ∧ ((ru l i p v).2.2 ≠ 0 → (ru l i p v).1 = 0 ∧ (ru l i p v).2.1 = 0):=by
 intro l
 induction l with
 | nil => intro i p v _ _ _ _ hp; simp [ru]; omega
 | cons c l ih =>
  intro i p v hi h0 hv hz hp;have hc:=hz c au;have hpp:=pow_pos i;have hle:=Gt i hi;unfold ru
  by_cases h9 : i = 9 ∧ 1 < c
  ·rw [if_pos h9]; simp; omega
  rw [if_neg h9]
  by_cases hl : c = 0 ∧ 0 < i
  ·rw [if_pos hl]; simp; omega
  rw [if_neg hl]
  by_cases h128 : c < 128
  ·rw [if_pos h128];have hm0 : 0 ≤ c * 128 ^ i:=Int.mul_nonneg hc.1 (Int.le_of_lt hpp)
   have hm : c * 128 ^ i ≤ 9223372036854775808:=by
    by_cases e : i = 9
    ·subst e;have : c ≤ 1:=ae
     have:=Int.mul_le_mul_of_nonneg_right this (Int.le_of_lt hpp)
     omega
    ·have hcc : (128 : Int) ^ i ≤ 72057594037927936:=by
      rcases nA i ae with rfl | rfl | rfl | rfl | rfl | rfl | rfl | rfl | rfl | rfl <;> first | decide | omega
     have : c * 128 ^ i ≤ 128 * 72057594037927936:=Int.mul_le_mul ae hcc (Int.le_of_lt hpp) ax;omega
   refine ⟨ae,eK,eK,by simp only [List.length_cons]; omega,au,au,eK,au⟩
  ·rw [if_neg h128];have hi8 : i ≤ 8:=ae;have hs : (128 : Int) ^ (i + 1) = 128 ^ i * 128:=Int.pow_succ _ _;have hm0 : 0 ≤ (c - 128) * 128 ^ i:=Int.mul_nonneg ae (Int.le_of_lt hpp);have hm : (c - 128) * 128 ^ i ≤ 127 * 128 ^ i:=Int.mul_le_mul_of_nonneg_right ae (Int.le_of_lt hpp)
   have:=ih (i + 1) (p + 1) (v + (c - 128) * 128 ^ i) ae ae (by rw [hs]; omega) (fun z h => hz z (by simp [h])) ae
   refine ⟨this.1,this.2.1,this.2.2.1,by have h4:=this.2.2.2.1; simp only [List.length_cons]; omega,this.2.2.2.2.1,this.2.2.2.2.2.1,fun h => by have h7:=this.2.2.2.2.2.2.1 h; omega,this.2.2.2.2.2.2.2⟩
theorem jn (zs : List Int) (p : Int) (hz : ∀ z ∈ zs,0 ≤ z ∧ z ≤ 255) :
  0 ≤ (cI zs p).1 ∧ (cI zs p).1 < 18446744073709551616 ∧ 0 ≤ (cI zs p).2.1 ∧ (cI zs p).2.1 ≤ zs.length ∧ 0 ≤ (cI zs p).2.2 ∧ (cI zs p).2.2 ≤ 12 ∧
  ((cI zs p).2.2 = 0 → 0 ≤ p ∧ p < (cI zs p).2.1) ∧ ((cI zs p).2.2 ≠ 0 → (cI zs p).1 = 0 ∧ (cI zs p).2.1 = 0):=by
 unfold cI
 by_cases h : p < 0 ∨ (zs.length : Int) < p
 ·rw [if_pos h]; simp
 rw [if_neg h]
 have:=Fw (zs.drop p.toNat) 0 p 0 ae ae ax (fun z hz' => hz z (List.mem_of_mem_drop hz')) ae
 refine ⟨this.1,this.2.1,this.2.2.1,?_,this.2.2.2.2.1,this.2.2.2.2.2.1,fun h' => ⟨ae,this.2.2.2.2.2.2.1 h'⟩,this.2.2.2.2.2.2.2⟩
 have h4:=this.2.2.2.1;rw [List.length_drop] at h4;omega
theorem CL (zs : List Int) (j : Nat) (h : j < zs.length) : zs.drop j = zs[j]?.getD 0 :: zs.drop (j + 1):=by
 rw [List.drop_eq_getElem_cons h]; simp [h]
def uf (u : Int) : Int:=if u % 2 = 1 then -(u / 2) - 1 else u / 2
def uv : Nat → Int → List Int
 | 0,v => [v]
 | f + 1,v => if v < 128 then [v] else (v % 128 + 128) :: uv f (v / 128)
def aw (v : Int) : List Int:=uv 9 v
theorem MQ (f : Nat) : ∀ v,1 ≤ (uv f v).length ∧ (uv f v).length ≤ f + 1:=by
 induction f with
 | zero => intro v; simp [uv]
 | succ f ih =>
  intro v
  by_cases h : v < 128
  ·simp [uv,h]
  ·have:=ih (v / 128)
   simp only [uv,h,if_false,List.length_cons]; omega
theorem AO (V : Int) (k : Nat) (h : V * 128 ^ k < 18446744073709551616) (h0 : 0 ≤ V) : V / 128 * 128 ^ (k + 1) < 18446744073709551616:=by
 have hs : (128 : Int) ^ (k + 1) = 128 * 128 ^ k:=by rw [Int.pow_succ,Int.mul_comm]
 rw [hs,← Int.mul_assoc];have h2 : V / 128 * 128 ≤ V:=ae
 have:=Int.mul_le_mul_of_nonneg_right h2 (Int.le_of_lt (pow_pos k))
 omega
theorem room_end (V : Int) (k : Nat) (h : V * 128 ^ k < 18446744073709551616) (hk : k ≤ 9) (h128 : 128 ≤ V) : k ≤ 8:=by
 by_cases e : k = 9
 ·subst e;have e9 : (128 : Int) ^ 9 = 9223372036854775808:=ax;rw [e9] at h;omega
 ·omega
theorem Ny (rest : List Int) : ∀ (f k : Nat) (p V acc : Int),f + k = 9 → 0 ≤ V → V * 128 ^ k < 18446744073709551616 → (V ≠ 0 ∨ k = 0) →
  ru (uv f V ++ rest) k p acc = (acc + V * 128 ^ k,p + (uv f V).length,0):=by
 intro f
 induction f with
 | zero =>
  intro k p V acc hk h0 hroom hne;obtain rfl : k = 9:=ae;have e9 : (128 : Int) ^ 9 = 9223372036854775808:=ax
  have hV : V ≤ 1:=by rw [e9] at hroom; omega
  have h1 : ¬ 1 < V:=ae;have h2 : ¬ V = 0:=ae;have h3 : V < 128:=ae
  simp [uv,ru,h1,h2,h3]
 | succ f ih =>
  intro k p V acc hk h0 hroom hne;have hk9 : ¬ (k = 9):=ae
  by_cases h : V < 128
  ·have h2 : ¬ (V = 0 ∧ 0 < k):=ae
   simp only [uv,h,if_true,List.cons_append,List.nil_append,ru,h2,hk9,false_and,if_false,List.length_cons,List.length_nil]
   simp
  ·have hc0 : ¬ (V % 128 + 128 = 0):=ae;have hc1 : ¬ (V % 128 + 128 < 128):=ae;have step:=ih (k + 1) (p + 1) (V / 128) (acc + (V % 128) * 128 ^ k) ae ae (AO V k hroom h0) ae
   have hs : (128 : Int) ^ (k + 1) = 128 * 128 ^ k:=by rw [Int.pow_succ,Int.mul_comm]
   have e1 : V % 128 + 128 - 128 = V % 128:=ae
   have e2 : V % 128 * 128 ^ k + V / 128 * (128 * 128 ^ k) = V * 128 ^ k:=by
    rw [← Int.mul_assoc,← Int.add_mul]
    congr 1
    omega
   simp only [uv,h,if_false,List.cons_append,ru,hk9,hc0,hc1,false_and,List.length_cons]
   rw [e1,step,hs]
   congr 1
   ·omega
   ·congr 1
    simp only [Int.natCast_add]
    omega
def fo (n : Int) : Int:=if n < 0 then -2 * n - 1 else 2 * n
theorem wR (n : Int) (h0 : -9223372036854775808 ≤ n) (h1 : n < 9223372036854775808) : 0 ≤ fo n ∧ fo n < 18446744073709551616:=by
 unfold fo; split <;> omega
theorem aK (v : Int) : 1 ≤ (aw v).length ∧ (aw v).length ≤ 10:=MQ 9 v
theorem rD (A R : List Int) (v : Int) (h0 : 0 ≤ v) (h1 : v < 18446744073709551616) : cI (A ++ aw v ++ R) A.length = (v,(A.length : Int) + (aw v).length,0):=by
 unfold cI;rw [if_neg aI,Int.toNat_natCast,List.append_assoc,List.drop_left];rw [aw,Ny R 9 0 A.length v 0 ae h0 gj (.inr rfl)]
 simp
def Seg (w : World) (a : Option Addr) (n cap : Nat) (zs : List Int) : Prop :=
 zs.length = n ∧ n ≤ cap ∧ n ≤ 1099511627776 ∧ (∀ z ∈ zs,0 ≤ z ∧ z ≤ 255) ∧
 (n = 0 ∨ ∃ b off,a = some ⟨b,off,none⟩ ∧ ∀ j,j < n → w.cell? ⟨b,off + j,none⟩ = some (.int .u8 (zs.getD j 0)))
def yJ (k : IntKind) (r : Int × Int × Int) : Value:=.tuple #[.int k r.1,.int .i64 r.2.1,.int .i64 r.2.2]
theorem mr (k : IntKind) (a b c : Int) (r : Int × Int × Int) (h : r = (a,b,c)) : Ending.returned (.tuple #[.int k a,.int .i64 b,.int .i64 c]) = .returned (yJ k r):=by subst h; rfl
theorem J4 {c : Int} (h₀ : 0 ≤ c) (h₁ : c ≤ 255) : bits .and .u8 c 127 = c % 128:=bits_mask .u8 8 ax wraps_u8 7 ax c h₀ ae
theorem yP {c : Int} (h₀ : 0 ≤ c) (h₁ : c < 128) : bits .and .u8 c 128 = 0:=by
 rw [u8_and c 128 h₀ ae ax ax]
 have:=nat_bit 7 c.toNat
 simp only [Int.reduceToNat]
 rw [show (128 : Nat) = 2 ^ 7 from rfl,this]
 have : c.toNat / 2 ^ 7 = 0:=Nat.div_eq_of_lt (by simp only [Nat.reducePow]; omega)
 rw [this]; rfl
theorem Kc {c : Int} (h₀ : 128 ≤ c) (h₁ : c ≤ 255) : bits .and .u8 c 128 = 128:=by
 rw [u8_and c 128 ae ae ax ax]
 have:=nat_bit 7 c.toNat
 simp only [Int.reduceToNat]
 rw [show (128 : Nat) = 2 ^ 7 from rfl,this]
 simp only [Nat.reducePow]
 have : c.toNat / 128 = 1:=ae
 rw [this]; rfl
theorem py (zs : List Int) (hr : ∀ z ∈ zs,0 ≤ z ∧ z ≤ 255) (j : Nat) : 0 ≤ zs[j]?.getD 0 ∧ zs[j]?.getD 0 ≤ 255:=by
 by_cases h : j < zs.length
 ·simp only [ba h,Option.getD_some]; exact hr _ (List.getElem_mem h)
 ·simp only [List.getElem?_eq_none (by omega : zs.length ≤ j),Option.getD_none]; omega
theorem cL (x : Int) (h0 : 0 ≤ x) (h1 : x < 18446744073709551616) : IntKind.u64.wrap x = x:=by
 rw [IntKind.wrap_u64]; exact Int.emod_eq_of_lt h0 h1
theorem i64_in (x : Int) (h0 : -9223372036854775808 ≤ x) (h1 : x < 9223372036854775808) : IntKind.i64.wrap x = x:=by
 exact lU
theorem Tryz.info5 : (Tryz.prog.info? 5).map (fun i => (i.zero,i.size,i.bytes)) = some (some (.int .u8 0),1,1):=ak
end Go.Proofs.YtkdldbfbldkkcaaGreatDoor

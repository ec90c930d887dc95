/-
  Texts Heap Own Hid Code Plain ReadA ReadB ReadC Eq Join Uvar Write WText TLett.
-/
import Derived.SevenTiedAt
import Derived.Carry
import Derived.ChangeArms
import Derived.ChangeOld
import Derived.Deep.AppendLies
import Derived.Deep.AppendSrc
import Derived.Deep.DeepHandedRow
import Derived.Deep.RegionWith
import Derived.Deep.Strs
import Derived.Defers
import Derived.FnData
import Derived.HandedShaped
import Derived.JoinedOf
import Derived.LaidMore
import Derived.Laws.BytesArg
import Derived.Lay
import Derived.Lib.AppendIntMem
import Derived.Lib.Builder
import Derived.Lib.Bytealg
import Derived.Lib.CutLaws
import Derived.Lib.FieldsP
import Derived.Lib.ItoaLen
import Derived.Lib.LaidTab
import Derived.Lib.ParseIntBTie
import Derived.Lib.SlBytesConst
import Derived.Lib.SmallJoins
import Derived.LoopIn
import Derived.LoopNIn
import Derived.MapKept
import Derived.OpenShut
import Derived.OwnWalkIn
import Derived.ProofKit
import Derived.RangeFuncBox
import Derived.RangeFuncCalls
import Derived.RangeFuncLeaves
import Derived.RangeFuncWrites
import Derived.Recover
import Derived.RegionDies
import Derived.Shelf.Abstract
import Derived.Shelf.LaysC
import Derived.Shelf.LaysM
import Derived.Shelf.RegionOpen
import Derived.Shelf.Small.Strs
import Derived.Shelf.Small.Wraps
import Derived.Shelf.Strconv.Clone
import Derived.Shelf.Strconv.ErrVarParseInt
import Derived.Shelf.Strconv.Itoa0
import Derived.Shelf.Strconv.Itoa1
import Derived.Shelf.Strconv.Itoa2
import Derived.Shelf.Strconv.Itoa3
import Derived.Shelf.Strconv.Itoa4
import Derived.Shelf.Strconv.Lower
import Derived.Shelf.Strconv.ParseInt10
import Derived.Shelf.Strconv.ParseInt10All
import Derived.Shelf.Strconv.ParseInt10At16
import Derived.Shelf.Strconv.ParseInt10At32
import Derived.Shelf.Strconv.ParseInt10At64
import Derived.Shelf.Strconv.ParseInt10At8
import Derived.Shelf.Strconv.ParseIntEmpty
import Derived.Shelf.Strconv.ParseIntPublic10
import Derived.Shelf.Strconv.ParseUint10
import Derived.Shelf.Strconv.ParseUint10Any
import Derived.Shelf.Strconv.ParseUint10At
import Derived.Shelf.Strconv.ParseUint10Empty
import Derived.Shelf.Strconv.ParseUint10b16
import Derived.Shelf.Strconv.ParseUint10b32
import Derived.Shelf.Strconv.ParseUint10b64
import Derived.Shelf.Strconv.ParseUint10b8
import Derived.Shelf.Strconv.ParseUintEmpty
import Derived.Shelf.Strconv.RangeError
import Derived.Shelf.Strconv.SyntaxError
import Derived.Shelf.Strconv.ToError
import Derived.Shelf.Strconv.ToErrorRange
import Derived.Shelf.Strings.Builder1
import Derived.Shelf.Strings.Builder2
import Derived.Shelf.Strings.BuilderF
import Derived.Shelf.Strings.BuilderK
import Derived.Shelf.Strings.Cut
import Derived.Shelf.Strings.FieldsFuncAny
import Derived.Shelf.Strings.OnBuilder
import Derived.Shelf.Strings.Prefix
import Derived.Shelf.Strings.Search1
import Derived.Shelf.Strings.Search2
import Derived.Shelf.Strings.Search3
import Derived.Shelf.Strings.Shaped
import Derived.Shelf.Unicode.DecodeSlow
import Derived.ShutString
import Derived.SizedLaws
import Derived.Stop.Joined
import Derived.Stop.LaidErr
import Derived.TacticsInMore
import Derived.ArgAppend
import Derived.Below
import Derived.BigQuiet
import Derived.Deep.QuietTactic
import Derived.Deep.RegionHeld3
import Derived.KernelRfl
import Derived.Laws.AppendOwnNone
import Derived.Laws.BitsAllLaws
import Derived.Deep.RegionHeld
import Derived.OrdersHeld
import Derived.RowKit
import Derived.Test.YtheefojaplnnoaaGreatDoorProg
import Derived.WalkKit
import Derived.WalkLawsBesides
import Derived.WalkSpells
set_option linter.unusedVariables false
set_option maxRecDepth 100000
set_option maxHeartbeats 16000000
namespace Go.Proofs.YtheefojaplnnoaaGreatDoor
open Go.RowKit
theorem ae {P : Prop} (h : P:=by omega) : P:=h
theorem ai {P : Prop} (h : P:=by kernel_rfl) : P:=h
theorem aq {P : Prop} (h : P:=by decide) : P:=h
theorem ar {P : Prop} (h : P:=by simp) : P:=h
theorem aG {P : Prop} (h : P:=by exact hSw) : P:=h
theorem aL {P : Prop} (h : P:=by simp; omega) : P:=h
theorem aU {P : Prop} (h : P:=by have:=hw.len; omega) : P:=h
theorem bM {P : Prop} (h : P:=by simp <;> omega) : P:=h
theorem bP {P : Prop} (h : P:=by unfold maxLen; omega) : P:=h
theorem bZ {P : Prop} (h : P:=by go_num) : P:=h
theorem bu {P : Prop} (h : P:=by have:=h.low; omega) : P:=h
theorem bG {P : Prop} (h : P:=by cases h) : P:=h
theorem bK {P : Prop} (h : P:=by simp [wdx,List.getD,hx]) : P:=h
theorem b9 {P : Prop} (h : P:=by simp [intOf]; omega) : P:=h
theorem cJ {P : Prop} (h : P:=by cases e) : P:=h
theorem cE {P : Prop} (h : P:=by simp [go_sem]) : P:=h
theorem cN {P : Prop} (h : P:=by simp [wdx,List.getD,hy]) : P:=h
theorem cP {P : Prop} (h : P:=by simp [hx]) : P:=h
theorem dN {P : Prop} (h : P:=by rw [hw.len]; exact h2) : P:=h
theorem dC {P : Prop} (h : P:=by (try dsimp only [wkM]); omega) : P:=h
theorem dP {P : Prop} (h : P:=by rw [← hW0]; simp [go_sem]) : P:=h
theorem eu {P : Prop} (h : P:=by unfold wrap64; omega) : P:=h
theorem eY {P : Prop} (h : P:=by simp at h) : P:=h
theorem eU {P : Prop} (h : P:=by rw [ez] at h3; rw [h3]; rfl) : P:=h
theorem fw {P : Prop} (h : P:=by simpa using W2.out) : P:=h
theorem fJ {P : Prop} (h : P:=by simp only; omega) : P:=h
theorem fY {P : Prop} (h : P:=by intro W hW; rw [hW]; clear hW; go_simp; try with_reducible rfl) : P:=h
theorem gH {P : Prop} (h : P:=by exact block_lt_of_cell hA) : P:=h
theorem gY {P : Prop} (h : P:=by unfold pl; rfl) : P:=h
theorem ic {P : Prop} (h : P:=by unfold Addr.add; split <;> simp_all) : P:=h
theorem gU {P : Prop} (h : P:=by simp [wdx,List.getD,hz]) : P:=h
theorem iG {P : Prop} (h : P:=by go_simp) : P:=h
theorem jk {P : Prop} (h : P:=by have:=HB.out.size; simp; omega) : P:=h
theorem jr {P : Prop} (h : P:=by simp [L]) : P:=h
theorem jv {P : Prop} (h : P:=by simp [ay]) : P:=h
theorem ji {P : Prop} (h : P:=by have:=d1.at_ 0 x hx; simpa using this) : P:=h
theorem ju {P : Prop} (h : P:=by cases hx) : P:=h
theorem jV {P : Prop} (h : P:=by assumption) : P:=h
theorem jU {P : Prop} (h : P:=by rw [h5]; rfl) : P:=h
theorem jZ {P : Prop} (h : P:=by rw [HFN.out,← hik]; simp) : P:=h
theorem jL {P : Prop} (h : P:=by simp [hy]) : P:=h
theorem j3 {P : Prop} (h : P:=by simp [wu]) : P:=h
theorem lj {P : Prop} (h : P:=by exact hBl) : P:=h
theorem lD {P : Prop} (h : P:=by exact hCl) : P:=h
theorem lJ {P : Prop} (h : P:=by rw [hx] at hk; simpa using hk) : P:=h
theorem lW {P : Prop} (h : P:=by have:=aF hi; simp at this; omega) : P:=h
theorem kY {P : Prop} (h : P:=by simp only [List.length_append]; omega) : P:=h
theorem kZ {P : Prop} (h : P:=by rw [hx]; rfl) : P:=h
theorem nM {P : Prop} (h : P:=by simpa using h) : P:=h
theorem nQ {P : Prop} (h : P:=by exact block_lt_of_cell hO) : P:=h
theorem nI {P : Prop} (h : P:=by simpa using hY) : P:=h
theorem nr {P : Prop} (h : P:=by decide +kernel) : P:=h
theorem n9 {P : Prop} (h : P:=by have:=hw.few; omega) : P:=h
theorem nW {P : Prop} (h : P:=by unfold psz; simp; omega) : P:=h
theorem nG {P : Prop} (h : P:=by simpa using HPa.out) : P:=h
theorem nO {P : Prop} (h : P:=by rw [hm]; rfl) : P:=h
theorem qu {P : Prop} (h : P:=by rw [← HIK.out] at *; unfold pl; rw [HFN.out]; dsimp only; rw [Da init ft flo (ca,cn,cc)]; rfl) : P:=h
theorem pz {P : Prop} (h : P:=by rw [List.length_append,List.length_append]; omega) : P:=h
theorem px {P : Prop} (h : P:=by rw [← hw.len]; exact x.2) : P:=h
theorem pO {P : Prop} (h : P:=by rw [List.length_tail,hw.len]) : P:=h
theorem po {P : Prop} (h : P:=by simpa using h5) : P:=h
theorem tU {P : Prop} (h : P:=by have e0:=G7 (l:=m.types) PT.out.1; have e1:=Dq (l:=m.fns) PF.out.1; have e2:=Ir (l:=m.data) PD.out.1; have e3:=Fi (l:=m.exps) PE.out.1; have f1:=HF1.out; have f2:=HF2.out; have f3:=HF3.out; have f4:=HF4.out; omega) : P:=h
theorem t6 {P : Prop} (h : P:=by have:=HPL.out; have:=HXL.out; omega) : P:=h
theorem uL {P : Prop} (h : P:=by simp [results,Tryz.results314,go_sem]) : P:=h
theorem rT {P : Prop} (h : P:=by unfold psz pl; (try simp only [List.length_map]); omega) : P:=h
theorem uq {P : Prop} (h : P:=by simpa [List.append_assoc] using hw') : P:=h
theorem rL {P : Prop} (h : P:=by simpa [Value.ownBlock] using hb) : P:=h
theorem tI {P : Prop} (h : P:=by simpa using h1) : P:=h
theorem uC {P : Prop} (h : P:=by have:=hb1.size; simp at this; omega) : P:=h
theorem tG {P : Prop} (h : P:=by rw [Lib.cell_of_heap hbk]; rfl) : P:=h
theorem su {P : Prop} (h : P:=by rw [Lib.cell_of_heap hb2]; rfl) : P:=h
theorem sN {P : Prop} (h : P:=by first | rfl | exact d) : P:=h
theorem rO {P : Prop} (h : P:=by simp at hq hr; omega) : P:=h
theorem rX {P : Prop} (h : P:=by have:=C2 hp; rw [this] at c2; omega) : P:=h
theorem rY {P : Prop} (h : P:=by have:=h.lt; omega) : P:=h
theorem tE {P : Prop} (h : P:=by have:=(D1.out.later B1.out).at_ 1 x HX.out; simpa using this) : P:=h
theorem sB {P : Prop} (h : P:=by simpa using h4) : P:=h
theorem sG {P : Prop} (h : P:=by have:=HHN.out; omega) : P:=h
theorem uh {P : Prop} (h : P:=by rw [Cn]; simpa using h6) : P:=h
theorem sI {P : Prop} (h : P:=by have e : k = w1.heap.size:=hk; omega) : P:=h
theorem rS {P : Prop} (h : P:=by rw [HFN.out]; simp) : P:=h
theorem ug {P : Prop} (h : P:=by cases e; omega) : P:=h
theorem sV {P : Prop} (h : P:=by rw [← hwr]; simp [go_sem]) : P:=h
theorem se {P : Prop} (h : P:=by simp [wkM] at hj) : P:=h
theorem sP {P : Prop} (h : P:=by rw [← h,List.take_length]) : P:=h
theorem yX {P : Prop} (h : P:=by rw [List.getElem?_take_of_lt hik]; exact hi) : P:=h
theorem yF {P : Prop} (h : P:=by have:=hne b off c h; simp; omega) : P:=h
theorem xY {P : Prop} (h : P:=by exact block_lt_of_cell f2) : P:=h
theorem yi {P : Prop} (h : P:=by simp [Value.ownBlock] at hB; simp; omega) : P:=h
theorem xQ {P : Prop} (h : P:=by have:=HLL.out; have:=HHN.out; omega) : P:=h
theorem yT {P : Prop} (h : P:=by rw [hf,List.getElem?_append_left hil]; exact hi) : P:=h
theorem xZ {P : Prop} (h : P:=by have e : k = w3.heap.size + 1:=hk; have:=B3.out.size; omega) : P:=h
theorem xL {P : Prop} (h : P:=by show 2 + wd.size ≤ _; omega) : P:=h
theorem zj {P : Prop} (h : P:=by rw [World.cell?_alloc_new]; rfl) : P:=h
theorem yD {P : Prop} (h : P:=by unfold uj; simp [hp,hr]) : P:=h
theorem xH {P : Prop} (h : P:=by unfold jF; rw [if_pos hs]) : P:=h
theorem yL {P : Prop} (h : P:=by rw [cg]; decide) : P:=h
theorem zl {P : Prop} (h : P:=by simp only [beq_eq_false_iff_ne]; omega) : P:=h
theorem Ek {P : Prop} (h : P:=by rw [HEy.out]; unfold pl; simp [plF,List.map_append]) : P:=h
theorem Gk {P : Prop} (h : P:=by simp [Lib.byteCells_length,qj]; omega) : P:=h
theorem zX {P : Prop} (h : P:=by have:=VL.out.g_lt; have:=V6.out.g_lt; omega) : P:=h
theorem AH {P : Prop} (h : P:=by have:=hb1.size; have:=hb2.size; simp at *; omega) : P:=h
theorem Av {P : Prop} (h : P:=by rw [ve] at hx; have:=d1.at_ (j + 1) x hx; rwa [Nat.zero_add,Nat.add_comm] at this) : P:=h
theorem Ar {P : Prop} (h : P:=by unfold fM; rw [if_neg (fun x => h3 x.2)]) : P:=h
theorem A7 {P : Prop} (h : P:=by rw [lV ir 1 (fun _ => rfl),hpl]; omega) : P:=h
theorem Aj {P : Prop} (h : P:=by rw [ve] at hx; have:=(d1.later hW).at_ (j + 1) x hx; rwa [Nat.zero_add,Nat.add_comm] at this) : P:=h
theorem Cs {P : Prop} (h : P:=by have h1:=HTS.out; have h2:=HXS.out; have h3:=iP x.data.toList none; rw [HWS.out,HNW.out] at h3; have h4 : x.data.toList.length = x.size:=Array.length_toList; omega) : P:=h
theorem Bz {P : Prop} (h : P:=by have h1:=HLB.out; have h2:=HBJ.out; rw [HJ.out] at h2; simp only [List.length_append,List.length_cons] at h2 ⊢; omega) : P:=h
theorem A8 {P : Prop} (h : P:=by have h1:=HLC.out; simp only [List.length_append] at h1 ⊢; show _ + (bL (tz / 16)).length ≤ _; omega) : P:=h
theorem Ap {P : Prop} (h : P:=by have h1:=HLC.out; simp only [List.length_append] at h1 ⊢; show _ + (bL (tz / 16)).length + 1 ≤ _; omega) : P:=h
theorem iu {P : Prop} (h : P:=by rw [hb1.cell ar]; simp [go_sem]) : P:=h
theorem ux {P : Prop} (h : P:=by have:=hj; unfold dh ByteArray.size at this; simp at this; simpa using ae) : P:=h
theorem AG {P : Prop} (h : P:=by rw [eZ p 256 8 ae s1]; exact l1) : P:=h
theorem Bb {P : Prop} (h : P:=by rw [List.getD_eq_getElem?_getD,List.getElem?_eq_getElem ae]; simp) : P:=h
theorem Cq {P : Prop} (h : P:=by rw [eZ lo 256 64 ae ae]; exact hlt) : P:=h
theorem Ch {P : Prop} (h : P:=by have q:=F6.out b off c hb'; exact ⟨ae,q.2.1,ae⟩) : P:=h
theorem Bw {P : Prop} (h : P:=by have q:=HM.out.ff.at TL.out.s b off c hb'; have q2:=HM.out.ff b off c hb'; have:=TL.out.s.size; exact ⟨q.1,q.2,ae⟩) : P:=h
theorem BS {P : Prop} (h : P:=by unfold fL; rw [if_pos ⟨h1,dN⟩,h3]; rfl) : P:=h
theorem BU {P : Prop} (h : P:=by rw [List.getD_eq_getElem?_getD,List.getElem?_eq_getElem ae]; exact List.getElem_mem _) : P:=h
theorem aD {α : Type _} {l : List α} {i : Nat} (h : i < l.length) : l[i]? = some l[i]:=List.getElem?_eq_getElem h
theorem Mf {P : Prop} (h : P:=by
  clear hlt;go_wp2_with fail
  go_loopw [3,5] (fun s i wr => ∃ k z : Nat,k ≤ m.fn ∧ s = .int .i64 (z : Nat) ∧ i = .int .i64 k ∧ (∃ q,wr = W0.drewN q) ∧ z ≤ 1125899906842624 ∧ Hid (z1 + eG (m.fns.take k) ≤ z)) (fun _ i _ => m.fn - (intOf i).toNat)
  case atStart => exact ⟨0,z1,ae,rfl,rfl,⟨_,rfl⟩,ae,hid (by simp [eG])⟩
  case round =>
   obtain ⟨k,z2,hk,rfl,rfl,⟨q2,rfl⟩,hz2,HF2⟩:=hrel
   by_cases hlt : k < m.fn
   ·have hlt' : (k : Int) < (m.fn : Int):=ae
    by_cases hbd : z2 ≤ 2147483647
    ·obtain ⟨x,hxk⟩ : ∃ x,m.fns[k]? = some x:=⟨_,aD (by rw [PF.out.1]; exact hlt)⟩
     obtain ⟨b,off,hfa,hat⟩:=PF.out.2.resolve_left ae;have hat:=hat k x hxk;have hu:=UF.out k x hxk;have hk0 : (0 : Int) ≤ (k : Int):=ae;have hbd' : (z2 : Int) ≤ 2147483647:=ae;have hbq : decide ((z2 : Int) ≤ 2147483647) = true:=decide_eq_true hbd';rw [hfa] at m5;obtain ⟨_,g0,g1⟩:=hat
     have H29 : Hid (∀ n,Calls Tryz.prog 24 #[.slice x.2.2.1.1 x.2.2.1.2.1 x.2.2.1.2.2] (W0.drewN (q2 + n)) fun e w'' => e = .returned (.int .i64 (szG x.2.2.2 x.2.2.1.2.1 : Nat)) ∧ ∃ n',w'' = W0.drewN (q2 + n')):=hid (fun (n : Nat) => (J2 x.2.2.1.1 x.2.2.1.2.1 x.2.2.1.2.2 x.2.2.2 (W0.drewN (q2 + n)) hu.2.1 ((PI.out k x hxk).kept (bA (S:=fun _ => False) (iM W0 (q2 + n))) (fun _ _ _ _ => id)) hu.2.2.2).mono fun e w' ⟨he,q,hq⟩ => ⟨he,n + q,by rw [hq,World.drewN_drewN,Nat.add_assoc]⟩)
     have hsg:=A6 x.2.2.2 x.2.2.1.2.1 hu.2.2.2 ae;have hsl : ((szG x.2.2.2 x.2.2.1.2.1 : Nat) : Int) ≤ 281474976710656:=ae;rw [hfa];go_wp2_with fail
     go_quiet ((go_at_call 24; exact H29.out _))
     go_wp2_with fail
     exact ⟨⟨k + 1,z2 + x.2.1.size + szG x.2.2.2 x.2.2.1.2.1,ae,bZ,bZ,⟨_,rfl⟩,ae,hid (by have:=HF2.out; rw [xC hxk]; omega)⟩,b9⟩
    ·have hbd' : ¬ (z2 : Int) ≤ 2147483647:=ae;have hbq : decide ((z2 : Int) ≤ 2147483647) = false:=decide_eq_false hbd';clear hlt;go_wp2_with fail
     go_loopw [3,6] (fun s i wr => ∃ k z : Nat,k ≤ m.dn ∧ s = .int .i64 (z : Nat) ∧ i = .int .i64 k ∧ (∃ q,wr = W0.drewN q) ∧ z ≤ 1125899906842624 ∧ Hid (z2 + iJ (m.data.take k) ≤ z)) (fun _ i _ => m.dn - (intOf i).toNat)
     case atStart => exact ⟨0,z2,ae,rfl,rfl,⟨_,rfl⟩,ae,hid (by simp [iJ])⟩
     case round =>
      obtain ⟨k,z3,hk,rfl,rfl,⟨q3,rfl⟩,hz3,HF3⟩:=hrel
      by_cases hlt : k < m.dn
      ·exact Bx
      ·obtain rfl : k = m.dn:=ae;clear hlt;go_wp2_with fail
       go_loopw [3,7] (fun s i wr => ∃ k z : Nat,k ≤ m.en ∧ s = .int .i64 (z : Nat) ∧ i = .int .i64 k ∧ (∃ q,wr = W0.drewN q) ∧ z ≤ 1125899906842624 ∧ Hid (z3 + jG (m.exps.take k) ≤ z)) (fun _ i _ => m.en - (intOf i).toNat)
       case atStart => exact ⟨0,z3,ae,rfl,rfl,⟨_,rfl⟩,ae,hid (by simp [jG])⟩
       case round =>
        obtain ⟨k,z4,hk,rfl,rfl,⟨q4,rfl⟩,hz4,HF4⟩:=hrel
        by_cases hlt : k < m.en
        ·exact BM
        ·obtain rfl : k = m.en:=ae;exact CB
   ·obtain rfl : k = m.fn:=ae;clear hlt;go_wp2_with fail
    go_loopw [3,6] (fun s i wr => ∃ k z : Nat,k ≤ m.dn ∧ s = .int .i64 (z : Nat) ∧ i = .int .i64 k ∧ (∃ q,wr = W0.drewN q) ∧ z ≤ 1125899906842624 ∧ Hid (z2 + iJ (m.data.take k) ≤ z)) (fun _ i _ => m.dn - (intOf i).toNat)
    case atStart => exact ⟨0,z2,ae,rfl,rfl,⟨_,rfl⟩,ae,hid (by simp [iJ])⟩
    case round =>
     obtain ⟨k,z3,hk,rfl,rfl,⟨q3,rfl⟩,hz3,HF3⟩:=hrel
     by_cases hlt : k < m.dn
     ·exact Bx
     ·obtain rfl : k = m.dn:=ae;clear hlt;go_wp2_with fail
      go_loopw [3,7] (fun s i wr => ∃ k z : Nat,k ≤ m.en ∧ s = .int .i64 (z : Nat) ∧ i = .int .i64 k ∧ (∃ q,wr = W0.drewN q) ∧ z ≤ 1125899906842624 ∧ Hid (z3 + jG (m.exps.take k) ≤ z)) (fun _ i _ => m.en - (intOf i).toNat)
      case atStart => exact ⟨0,z3,ae,rfl,rfl,⟨_,rfl⟩,ae,hid (by simp [jG])⟩
      case round =>
       obtain ⟨k,z4,hk,rfl,rfl,⟨q4,rfl⟩,hz4,HF4⟩:=hrel
       by_cases hlt : k < m.en
       ·exact BM
       ·obtain rfl : k = m.en:=ae;clear hlt;go_wp2_with fail;go_ret
        exact ⟨z4,rfl,BW.out.trans (BW2.out _),fun b hb1 h4 => tU⟩
 ) : P:=h
theorem Mg {P : Prop} (h : P:=by
  go_wp2_with fail;generalize wr.alloc (bf x.1 x.2.1 x.2.2.1.1 x.2.2.1.2.1 x.2.2.1.2.2) = W at *;have hszW:=BN.out.size;refine HC1.out.mono ?_;rintro e w5 ⟨y,rfl,hok,g4,cap4,hw5,hs5,hl5⟩;have hgr : g3 < wr.heap.size:=HWR.out.g_lt;have hRr : R < wr.heap.size:=HWR.out.lt
  have row5 : w5.ownsRow 0 78 3 (.slice aa j ac) j (ys.flatMap oL):=aA HRW.out (fun B hB => by
   have h1:=ax HRW.out hB;have h2 : ∃ a,aa = some a ∧ a.block = B:=im hB;obtain ⟨a,ha1,ha2⟩:=h2;have h3:=HAB.out a ha1;have h4:=HST.out.size;exact (hs5.block (b:=B) ae ae ae ae).trans (BN.out.block B h1))
  have gg4:=hw5.g_lt
  have hab5 : ∀ b,aa = some b → b.block ≠ g4 ∧ b.block < w5.heap.size:=fun a ha1 => by
   exact jg
  have W5:=hid hw5;have S5:=hid (HST.out.trans ((eA.of_below BN.out).trans hs5));have L5:=hid hl5
  have hL4 : L ≠ g4:=hs5.ne (by have:=HST.out.size; omega) hlg
  have O5:=hid hok;have BN5:=hid (ag w5 (bf y.1 y.2.1 y.2.2.1 y.2.2.2.1 y.2.2.2.2))
  have R6:=hid (aA (w':=w5.alloc (bf y.1 y.2.1 y.2.2.1 y.2.2.2.1 y.2.2.2.2)) row5 (fun B hB => BN5.out.block B (ax row5 hB)))
  have HAB5:=hid hab5;have NC:=hid (vX w5 y);have hz6 : (w5.alloc (bf y.1 y.2.1 y.2.2.1 y.2.2.2.1 y.2.2.2.2)).heap.size = w5.heap.size + 1:=ar;clear hw5 hs5 row5 hab5 HC1 hok hl5
  go_wp2_with (at_builtin; (refine gw _ rfl (.tmp 28) (.tmp 33) 25 rfl 78 i0 _ 3 48 Tryz.underlying25 hi hz0 hz1 hz2 rfl aq _ j _ rfl R6.out ⟨w5.heap.size,0,none⟩ 1 1 (oL y) rfl rfl NC.out (uT y) ae bP ae ?_; intro B cap7 w7 hrow7 hor7; have R7:=hid hrow7; have OR7:=hid hor7; clear hrow7 hor7))
  generalize w5.alloc (bf y.1 y.2.1 y.2.2.1 y.2.2.2.1 y.2.2.2.2) = W6 at *
  have hBn : w.heap.size ≤ B ∧ B ≠ g4 ∧ aP (fun k => k = B) W6 w7:=by
   exact jy
  have hRw:=S5.out.size
  go_roundw
  ·refine ⟨j + 1,ys ++ [y],some ⟨B,0,none⟩,cap7,g4,cap4,ae,rfl,rfl,by simp [hyl],?_,?_,?_,?_,?_,?_,hL4⟩
   ·exact AZ
   ·have:=R7.out
    simpa [gy] using this
   ·intro b' hb'
    simp at hb'
    subst hb';exact ⟨hBn.1,hBn.2.1⟩
   ·exact Bo
   ·exact ⟨(S5.out.k.trans (bA BN5.out)).then hBn.2.2 (fun k hk hkB => by have:=hBn.1; omega),S5.out.m⟩
   ·exact (L5.out.later BN5.out).kept hBn.2.2 (by have:=hBn.1; omega)
  ·simp [intOf]; omega
 ) : P:=h
theorem LX {P : Prop} (h : P:=by
  go_simp
  refine hK.out _ _ hS (fun _ => ?_)
  clear hK K;refine ryQ (rs:=[2]) ?_
  refine rcQ (i:=2) rfl (fun K hK => ?_) rN
  go_simp;obtain ⟨p1,p2⟩:=KO (.slice none 0 0) (.slice none 0 0) (.slice none 0 0) (.int .i64 0) (.int .i64 0) (.slice none 0 0) (.slice none 0 0) (.slice none 0 0) tA';have b5:=(p2.block (w.heap.size + 1) (aS tB') ae).trans tB';have c5:=(p2.block (w.heap.size + 2) (aS tC') ae).trans tC';have d5:=(p2.block D (aS tK') ae).trans tK'
  have f5:=hb'.trans (p2.to_below (B:=w.heap.size) (by have:=hb'.size; omega) (fun k hk => ae))
  refine hK.out _ _ (aj (i:=0) b5) (fun hS2 => ?_)
  clear hK K m0 m1 m2 m3 m4 m5 m6 m7 g0 g1 g2 g3 g4 g5 g6 g7 tA' tB' tC' tK' hb' p2 hS;generalize ((((((((Wd.setCell ⟨w.heap.size,0,none⟩ (.slice none 0 0)).setCell ⟨w.heap.size,1,none⟩ (.slice none 0 0)).setCell ⟨w.heap.size,2,none⟩ (.slice none 0 0)).setCell ⟨w.heap.size,3,none⟩ (.int .i64 0)).setCell ⟨w.heap.size,4,none⟩ (.int .i64 0)).setCell ⟨w.heap.size,5,none⟩ (.slice none 0 0)).setCell ⟨w.heap.size,6,none⟩ (.slice none 0 0)).setCell ⟨w.heap.size,7,none⟩ (.slice none 0 0)) = W5 at *;refine ryQ (rs:=[3]) ?_
  refine rcQ (i:=3) rfl (fun K hK => ?_) rN
  have cb5:=aj (i:=0) b5;have fb5:=aK (i:=0) b5;go_simp;have k6:=az W5 (w.heap.size + 1) 0 (.int .i64 E);have b6 : (W5.setCell ⟨w.heap.size + 1,0,none⟩ (.int .i64 E)).heap[w.heap.size + 1]? = some (cG E):=bT b5;have a6:=(k6.block w.heap.size (aS p1) ae).trans p1;have c6:=(k6.block (w.heap.size + 2) (aS c5) ae).trans c5;have d6:=(k6.block D (aS d5) ae).trans d5
  have f6:=f5.trans (k6.to_below (B:=w.heap.size) (by have:=f5.size; omega) (fun k hk => ae))
  refine hK.out _ _ (aj (i:=0) b6) (fun hS3 => ?_)
  clear hK K k6 p1 b5 c5 d5 f5 cb5 fb5 hS2;generalize W5.setCell ⟨w.heap.size + 1,0,none⟩ (.int .i64 E) = W6 at *;refine ryQ (rs:=[4]) ?_
  refine rcQ (i:=4) rfl (fun K hK => ?_) rN
  have cc6:=aj (i:=0) c6;have fc6:=aK (i:=0) c6;go_simp;have k7:=az W6 (w.heap.size + 2) 0 (.int .i64 0);have c7 : (W6.setCell ⟨w.heap.size + 2,0,none⟩ (.int .i64 0)).heap[w.heap.size + 2]? = some (bz 0):=bT c6;have a7:=(k7.block w.heap.size (aS a6) ae).trans a6;have b7:=(k7.block (w.heap.size + 1) (aS b6) ae).trans b6;have d7:=(k7.block D (aS d6) ae).trans d6
  have f7:=f6.trans (k7.to_below (B:=w.heap.size) (by have:=f6.size; omega) (fun k hk => ae))
  refine hK.out _ _ (aj (i:=0) b7) (fun hS4 => ?_)
  clear hK K k7 a6 b6 c6 d6 f6 cc6 fc6 hS3;generalize W6.setCell ⟨w.heap.size + 2,0,none⟩ (.int .i64 0) = W7 at *;refine wpAnyH_done ai ?_ _
  gi_wp2_with fail
  refine GH rfl rfl rfl a7 b7 c7 d7 ae fun w' hk' => ?_
  rw [← HR0.out]
  refine ⟨f7.trans (hk'.to_below (by have:=f7.size; omega) (fun k hk => ae)),(fun h => ae),fun _ l o hlo2 => ?_⟩
  rw [hV,eV] at hlo2
  cases hlo2
  refine ⟨(fun h => bG),fun p M h => ?_⟩
  cases h
  refine ⟨(fun h => ae),fun _ => ⟨m,rfl,HLE.out,hpr,fun _ => by rw [hEq]; rfl,fun h => absurd (hEq.symm.trans h) hx⟩⟩
 ) : P:=h
theorem LY {P : Prop} (h : P:=by
  go_wp2_with fail;generalize wr.alloc (aR x.1 x.2.1 x.2.2.1.1 x.2.2.1.2.1 x.2.2.1.2.2) = W at *;have hszW:=BN.out.size;refine HC1.out.mono ?_;rintro e w5 ⟨y,rfl,hok,g4,cap4,hw5,hs5⟩;have hgr : g3 < wr.heap.size:=HWR.out.g_lt;have hRr : R < wr.heap.size:=HWR.out.lt
  have row5 : w5.ownsRow 0 75 3 (.slice aa j ac) j (ys.flatMap oG):=aA HRW.out (fun B hB => by
   have h1:=ax HRW.out hB;have h2 : ∃ a,aa = some a ∧ a.block = B:=im hB;obtain ⟨a,ha1,ha2⟩:=h2;have h3:=HAB.out a ha1;have h4:=HST.out.size;exact (hs5.block (b:=B) ae ae ae).trans (BN.out.block B h1))
  have gg4:=hw5.g_lt
  have hab5 : ∀ b,aa = some b → b.block ≠ g4 ∧ b.block < w5.heap.size:=fun a ha1 => by
   exact jg
  have W5:=hid hw5;have S5:=hid (HST.out.trans ((Stp.of_below BN.out).trans hs5));have O5:=hid hok;have BN5:=hid (ag w5 (aR y.1 y.2.1 y.2.2.1 y.2.2.2.1 y.2.2.2.2))
  have R6:=hid (aA (w':=w5.alloc (aR y.1 y.2.1 y.2.2.1 y.2.2.2.1 y.2.2.2.2)) row5 (fun B hB => BN5.out.block B (ax row5 hB)))
  have HAB5:=hid hab5;have NC:=hid (wn w5 y);have hz6 : (w5.alloc (aR y.1 y.2.1 y.2.2.1 y.2.2.2.1 y.2.2.2.2)).heap.size = w5.heap.size + 1:=ar;clear hw5 hs5 row5 hab5 HC1 hok
  go_wp2_with (at_builtin; (refine gw _ rfl (.tmp 28) (.tmp 33) 76 rfl 75 i0 _ 3 40 Tryz.underlying76 hi hz0 hz1 hz2 rfl aq _ j _ rfl R6.out ⟨w5.heap.size,0,none⟩ 1 1 (oG y) rfl rfl NC.out (wP y) ae bP ae ?_; intro B cap7 w7 hrow7 hor7; have R7:=hid hrow7; have OR7:=hid hor7; clear hrow7 hor7))
  generalize w5.alloc (aR y.1 y.2.1 y.2.2.1 y.2.2.2.1 y.2.2.2.2) = W6 at *
  have hBn : w.heap.size ≤ B ∧ B ≠ g4 ∧ aP (fun k => k = B) W6 w7:=by
   exact jy
  have hRw:=S5.out.size
  go_roundw
  ·exact kx
  ·simp [intOf]; omega
 ) : P:=h
theorem Lv {P : Prop} (h : P:=by
  go_wp2_with fail;generalize wr.alloc (aW x.1 x.2.1.1 x.2.1.2.1 x.2.1.2.2) = W at *;have hszW:=BN.out.size;refine HC1.out.mono ?_;rintro e w5 ⟨y,rfl,hok,g4,cap4,hw5,hs5⟩;have hgr : g3 < wr.heap.size:=HWR.out.g_lt;have hRr : R < wr.heap.size:=HWR.out.lt
  have row5 : w5.ownsRow 0 81 2 (.slice aa j ac) j (ys.flatMap ip):=aA HRW.out (fun B hB => by
   have h1:=ax HRW.out hB;have h2 : ∃ a,aa = some a ∧ a.block = B:=im hB;obtain ⟨a,ha1,ha2⟩:=h2;have h3:=HAB.out a ha1;have h4:=HST.out.size;exact (hs5.block (b:=B) ae ae ae).trans (BN.out.block B h1))
  have gg4:=hw5.g_lt
  have hab5 : ∀ b,aa = some b → b.block ≠ g4 ∧ b.block < w5.heap.size:=fun a ha1 => by
   exact jg
  have W5:=hid hw5;have S5:=hid (HST.out.trans ((Stp.of_below BN.out).trans hs5));have O5:=hid hok;have BN5:=hid (ag w5 (aW y.1 y.2.1 y.2.2.1 y.2.2.2))
  have R6:=hid (aA (w':=w5.alloc (aW y.1 y.2.1 y.2.2.1 y.2.2.2)) row5 (fun B hB => BN5.out.block B (ax row5 hB)))
  have HAB5:=hid hab5;have NC:=hid (vk w5 y);have hz6 : (w5.alloc (aW y.1 y.2.1 y.2.2.1 y.2.2.2)).heap.size = w5.heap.size + 1:=ar;clear hw5 hs5 row5 hab5 HC1 hok
  go_wp2_with (at_builtin; (refine gw _ rfl (.tmp 28) (.tmp 33) 26 rfl 81 i0 _ 2 32 Tryz.underlying26 hi hz0 hz1 hz2 rfl aq _ j _ rfl R6.out ⟨w5.heap.size,0,none⟩ 1 1 (ip y) rfl rfl NC.out (vg y) ae bP ae ?_; intro B cap7 w7 hrow7 hor7; have R7:=hid hrow7; have OR7:=hid hor7; clear hrow7 hor7))
  generalize w5.alloc (aW y.1 y.2.1 y.2.2.1 y.2.2.2) = W6 at *
  have hBn : w.heap.size ≤ B ∧ B ≠ g4 ∧ aP (fun k => k = B) W6 w7:=by
   exact jy
  have hRw:=S5.out.size
  go_roundw
  ·exact kx
  ·simp [intOf]; omega
 ) : P:=h
theorem LK {P : Prop} (h : P:=by
  go_wp2_with fail;generalize wr.alloc (aN x.1 x.2.1 x.2.2) = W at *;have hszW:=BN.out.size;refine HC1.out.mono ?_;rintro e w5 ⟨y,rfl,hok,g4,cap4,hw5,hs5⟩;have hgr : g3 < wr.heap.size:=HWR.out.g_lt;have hRr : R < wr.heap.size:=HWR.out.lt
  have row5 : w5.ownsRow 0 102 3 (.slice aa j ac) j (ys.flatMap oI):=aA HRW.out (fun B hB => by
   have h1:=ax HRW.out hB;have h2 : ∃ a,aa = some a ∧ a.block = B:=im hB;obtain ⟨a,ha1,ha2⟩:=h2;have h3:=HAB.out a ha1;have h4:=HST.out.size;exact (hs5.block (b:=B) ae ae ae).trans (BN.out.block B h1))
  have gg4:=hw5.g_lt
  have hab5 : ∀ b,aa = some b → b.block ≠ g4 ∧ b.block < w5.heap.size:=fun a ha1 => by
   exact jg
  have W5:=hid hw5;have S5:=hid (HST.out.trans ((Stp.of_below BN.out).trans hs5));have O5:=hid hok;have BN5:=hid (ag w5 (aN y.1 y.2.1 y.2.2))
  have R6:=hid (aA (w':=w5.alloc (aN y.1 y.2.1 y.2.2)) row5 (fun B hB => BN5.out.block B (ax row5 hB)))
  have HAB5:=hid hab5;have NC:=hid (vo w5 y);have hz6 : (w5.alloc (aN y.1 y.2.1 y.2.2)).heap.size = w5.heap.size + 1:=ar;clear hw5 hs5 row5 hab5 HC1 hok
  go_wp2_with (at_builtin; (refine gw _ rfl (.tmp 28) (.tmp 33) 24 rfl 102 i0 _ 3 16 Tryz.underlying24 hi hz0 hz1 hz2 rfl aq _ j _ rfl R6.out ⟨w5.heap.size,0,none⟩ 1 1 (oI y) rfl rfl NC.out (xq y) ae bP ae ?_; intro B cap7 w7 hrow7 hor7; have R7:=hid hrow7; have OR7:=hid hor7; clear hrow7 hor7))
  generalize w5.alloc (aN y.1 y.2.1 y.2.2) = W6 at *
  have hBn : w.heap.size ≤ B ∧ B ≠ g4 ∧ aP (fun k => k = B) W6 w7:=by
   exact jy
  have hRw:=S5.out.size
  go_roundw
  ·exact kx
  ·simp [intOf]; omega
 ) : P:=h
theorem Lz {P : Prop} (h : P:=by
  go_wp2_with fail;generalize wr.alloc (aX x.1 x.2) = W at *;have hszW:=BN.out.size;refine HC1.out.mono ?_;rintro e w5 ⟨y,rfl,hok,g4,cap4,hw5,hs5⟩;have hgr : g3 < wr.heap.size:=HWR.out.g_lt;have hRr : R < wr.heap.size:=HWR.out.lt
  have row5 : w5.ownsRow 0 73 2 (.slice aa j ac) j (ys.flatMap gL):=aA HRW.out (fun B hB => by
   have h1:=ax HRW.out hB;have h2 : ∃ a,aa = some a ∧ a.block = B:=im hB;obtain ⟨a,ha1,ha2⟩:=h2;have h3:=HAB.out a ha1;have h4:=HST.out.size;exact (hs5.block (b:=B) ae ae ae).trans (BN.out.block B h1))
  have gg4:=hw5.g_lt
  have hab5 : ∀ b,aa = some b → b.block ≠ g4 ∧ b.block < w5.heap.size:=fun a ha1 => by
   exact jg
  have W5:=hid hw5;have S5:=hid (HST.out.trans ((Stp.of_below BN.out).trans hs5));have O5:=hid hok;have BN5:=hid (ag w5 (aX y.1 y.2))
  have R6:=hid (aA (w':=w5.alloc (aX y.1 y.2)) row5 (fun B hB => BN5.out.block B (ax row5 hB)))
  have HAB5:=hid hab5;have NC:=hid (uH w5 y);have hz6 : (w5.alloc (aX y.1 y.2)).heap.size = w5.heap.size + 1:=ar;clear hw5 hs5 row5 hab5 HC1 hok
  go_wp2_with (at_builtin; (refine gw _ rfl (.tmp 28) (.tmp 33) 22 rfl 73 i0 _ 2 32 Tryz.underlying22 hi hz0 hz1 hz2 rfl aq _ j _ rfl R6.out ⟨w5.heap.size,0,none⟩ 1 1 (gL y) rfl rfl NC.out (tJ y) ae bP ae ?_; intro B cap7 w7 hrow7 hor7; have R7:=hid hrow7; have OR7:=hid hor7; clear hrow7 hor7))
  generalize w5.alloc (aX y.1 y.2) = W6 at *
  have hBn : w.heap.size ≤ B ∧ B ≠ g4 ∧ aP (fun k => k = B) W6 w7:=by
   exact jy
  have hRw:=S5.out.size
  go_roundw
  ·exact kx
  ·simp [intOf]; omega
 ) : P:=h
theorem LB {P : Prop} (h : P:=by
  go_wp2_with fail;generalize wr.alloc (aZ x.1 x.2) = W at *;have hszW:=BN.out.size;refine HC1.out.mono ?_;rintro e w5 ⟨y,rfl,hok,g4,cap4,hw5,hs5⟩;have hgr : g3 < wr.heap.size:=HWR.out.g_lt;have hRr : R < wr.heap.size:=HWR.out.lt
  have row5 : w5.ownsRow 0 83 2 (.slice aa j ac) j (ys.flatMap iN):=aA HRW.out (fun B hB => by
   have h1:=ax HRW.out hB;have h2 : ∃ a,aa = some a ∧ a.block = B:=im hB;obtain ⟨a,ha1,ha2⟩:=h2;have h3:=HAB.out a ha1;have h4:=HST.out.size;exact (hs5.block (b:=B) ae ae ae).trans (BN.out.block B h1))
  have gg4:=hw5.g_lt
  have hab5 : ∀ b,aa = some b → b.block ≠ g4 ∧ b.block < w5.heap.size:=fun a ha1 => by
   exact jg
  have W5:=hid hw5;have S5:=hid (HST.out.trans ((Stp.of_below BN.out).trans hs5));have O5:=hid hok;have BN5:=hid (ag w5 (aZ y.1 y.2))
  have R6:=hid (aA (w':=w5.alloc (aZ y.1 y.2)) row5 (fun B hB => BN5.out.block B (ax row5 hB)))
  have HAB5:=hid hab5;have NC:=hid (vd w5 y);have hz6 : (w5.alloc (aZ y.1 y.2)).heap.size = w5.heap.size + 1:=ar;clear hw5 hs5 row5 hab5 HC1 hok
  go_wp2_with (at_builtin; (refine gw _ rfl (.tmp 28) (.tmp 33) 27 rfl 83 i0 _ 2 24 Tryz.underlying27 hi hz0 hz1 hz2 rfl aq _ j _ rfl R6.out ⟨w5.heap.size,0,none⟩ 1 1 (iN y) rfl rfl NC.out (wV y) ae bP ae ?_; intro B cap7 w7 hrow7 hor7; have R7:=hid hrow7; have OR7:=hid hor7; clear hrow7 hor7))
  generalize w5.alloc (aZ y.1 y.2) = W6 at *
  have hBn : w.heap.size ≤ B ∧ B ≠ g4 ∧ aP (fun k => k = B) W6 w7:=by
   exact jy
  have hRw:=S5.out.size
  go_roundw
  ·exact kx
  ·simp [intOf]; omega
 ) : P:=h
theorem LQ {P : Prop} (h : P:=by
  have hszW:=BN.out.size;refine HC1.out.mono ?_;rintro e w5 ⟨y,rfl,hok,g4,cap4,hw5,hs5⟩;have hgr : g3 < wr.heap.size:=HWR.out.g_lt;have hRr : R < wr.heap.size:=HWR.out.lt
  have row5 : w5.ownsRow 0 3 1 (.slice aa j ac) j (ys.flatMap oH):=aA HRW.out (fun B hB => by
   have h1:=ax HRW.out hB;have h2 : ∃ a,aa = some a ∧ a.block = B:=im hB;obtain ⟨a,ha1,ha2⟩:=h2;have h3:=HAB.out a ha1;have h4:=HST.out.size;exact (hs5.block (b:=B) ae ae ae).trans (BN.out.block B h1))
  have gg4:=hw5.g_lt
  have hab5 : ∀ b,aa = some b → b.block ≠ g4 ∧ b.block < w5.heap.size:=fun a ha1 => by
   exact jg
  have W5:=hid hw5;have S5:=hid (HST.out.trans ((Stp.of_below BN.out).trans hs5));have O5:=hid hok;have BN5:=hid (ag w5 (bz y))
  have R6:=hid (aA (w':=w5.alloc (bz y)) row5 (fun B hB => BN5.out.block B (ax row5 hB)))
  have HAB5:=hid hab5;have NC:=hid (wZ w5 y);have hz6 : (w5.alloc (bz y)).heap.size = w5.heap.size + 1:=ar;clear hw5 hs5 row5 hab5 HC1 hok
  go_wp2_with (at_builtin; (refine gw _ rfl (.tmp 28) (.tmp 33) 23 rfl 3 i0 _ 1 8 Tryz.underlying23 hi hz0 hz1 hz2 rfl aq _ j _ rfl R6.out ⟨w5.heap.size,0,none⟩ 1 1 (oH y) rfl rfl NC.out (vH y) ae bP ae ?_; intro B cap7 w7 hrow7 hor7; have R7:=hid hrow7; have OR7:=hid hor7; clear hrow7 hor7))
  generalize w5.alloc (bz y) = W6 at *
  have hBn : w.heap.size ≤ B ∧ B ≠ g4 ∧ aP (fun k => k = B) W6 w7:=by
   exact jy
  have hRw:=S5.out.size
  go_roundw
  ·exact kx
  ·simp [intOf]; omega
 ) : P:=h
theorem LP {P : Prop} (h : P:=by
  clear HL HI u2 hbk2 HX2 HB2 c2
  go_loopw [21] (fun i W => ∃ k : Nat,k ≤ cn ∧ i = .int .i64 k ∧ Lib.BuilderAt 96 5 w0.heap.size b (.pointer (some ⟨b,0,none⟩)) (Lib.byteCells (s ++ (L0 ++ (xs.take k).flatMap mW))) W ∧ Below w0.heap.size w0 W ∧ cL b w W) (fun i _ => cn - (intOf i).toNat)
  case atStart => exact ⟨0,Nat.zero_le _,rfl,by simpa using H3.out,B3.out,D3.out⟩
  case round =>
   obtain ⟨k,hk,rfl,hI,hb,hd⟩:=hrel;have HI:=hid hI;have HB:=hid hb;have HD:=hid hd;clear hI hb hd H3 B3 D3
   by_cases hlt : k < cn
   ·obtain ⟨y,hy⟩ : ∃ y,xs[k]? = some y:=⟨_,aD ae⟩
    obtain ⟨bb,off,rfl,hx⟩ : ∃ bb off,ca = some ⟨bb,off,none⟩ ∧ (w0.cell? ⟨bb,off + k * 3,none⟩ = some (.int .u8 y.1) ∧ w0.cell? ⟨bb,off + k * 3 + 1,none⟩ = some (.int .i64 y.2.1) ∧ w0.cell? ⟨bb,off + k * 3 + 2,none⟩ = some (.slice y.2.2.1.1 y.2.2.1.2.1 y.2.2.1.2.2)):=by
     rcases HX.out with h | ⟨bb,off,h,h'⟩
     ·omega
     ·exact ⟨bb,off,h,h' k y hy⟩
    have k0:=(HB.out.cell (block_lt_of_cell hx.1)).trans hx.1;have k1:=(HB.out.cell (block_lt_of_cell hx.2.1)).trans hx.2.1;have k2:=(HB.out.cell (block_lt_of_cell hx.2.2)).trans hx.2.2;have HY:=hid (HXS.out k y hy);have HT:=hid (cu hy);have HFL:=fS mW xs k y hy;clear hx hy;have HIN : mW y = bq (dZ (ofV y.1).1.2.2.1 (ofV y.1).1.2.1 y.2.1 y.2.2.2):=rfl
    have HG:=hid (fun (W' : World) (hW : Below wr.heap.size wr W') => Et w0.heap.size b (s ++ (L0 ++ (xs.take k).flatMap mW)) y.1 y.2.1 y.2.2.1.1 y.2.2.1.2.1 y.2.2.1.2.2 y.2.2.2 W' (cm (.inr HI.out) hW) (Nat.le_trans HB.out.size hW.size) (HTN.out.later (HB.out.trans (hW.mono HB.out.size))) (HK.out.later (HB.out.trans (hW.mono HB.out.size)) HK.out.pos) HY.out.1.1 HY.out.1.2 HY.out.2.1 (HY.out.2.2.later (HB.out.trans (hW.mono HB.out.size)) (Nat.le_refl _)) (by
     have h1:=HY.out.2.2.1;have h2:=HY.out.2.2.2.2.1;rw [← HIN]
     simp only [List.length_append] at hfl hlen ⊢
     omega))
    obtain ⟨yc,ya,⟨la,ln,lc⟩,ll⟩:=y;go_wp2_with fail;refine (HG.out _ (ag wr _)).mono ?_;rintro e w5 ⟨rfl,h5,hb5,hh5⟩;have H5:=hid h5;have B5:=hid ((HB.out.trans ((ag wr _).mono HB.out.size)).trans hb5);have D5:=hid (HD.out.trans ((cL.of_below (ag wr _)).trans hh5));clear h5 hb5 hh5 HG;go_wp2_with fail
    go_roundw
    case rel =>
     refine ⟨k + 1,ae,ar,?_,B5.out,D5.out⟩;have h:=H5.out;rw [HT.out,List.flatMap_append,List.flatMap_singleton,HIN]
     simpa only [List.append_assoc] using h
    case measure => show cn - ((k : Int) + 1).toNat < cn - (k : Int).toNat; omega
   ·obtain rfl : k = cn:=ae;have htk : xs.take k = xs:=List.take_of_length_le ae;rw [htk,← hL0] at HI;go_wp2_with fail;go_end0;exact ⟨rfl,HI.out,HB.out,HD.out⟩
 ) : P:=h
theorem FI {P : Prop} (h : P:=by
  have HC:=hid hc;clear hc hf way M3;go_wp2_with fail
  refine wp_region_held_drew (S:=fun W => W = wd) ai HW.out (fun _ => ?_)
  rw [HW.out];have hwd : wd = wd:=rfl;refine tkD (i:=0) (d:=some 27) rfl ?_ fY;(try simp only [Act.put,sIB,sC0,sCs]);refine tkD (i:=1) (d:=some 28) rfl ?_ fY;(try simp only [Act.put,sIB,sC0,sCs]);refine tkD (i:=2) (d:=some 29) rfl ?_ fY;(try simp only [Act.put,sIB,sC0,sCs]);refine tkD (i:=3) (d:=some 30) rfl ?_ fY;(try simp only [Act.put,sIB,sC0,sCs]);refine tkD (i:=4) (d:=some 31) rfl ?_ fY;(try simp only [Act.put,sIB,sC0,sCs]);refine tkD (i:=5) (d:=some 32) rfl ?_ fY;(try simp only [Act.put,sIB,sC0,sCs]);refine tkD (i:=6) (d:=some 33) rfl ?_ fY;(try simp only [Act.put,sIB,sC0,sCs]);refine tkD (i:=7) (d:=some 34) rfl ?_ fY;(try simp only [Act.put,sIB,sC0,sCs]);refine tkD (i:=8) (d:=some 26) rfl ?_ fY;(try simp only [Act.put,sIB,sC0,sCs]);refine tkD (i:=9) (d:=some 35) rfl ?_ fY;(try simp only [Act.put,sIB,sC0,sCs]);refine tkD (i:=10) (d:=some 36) rfl ?_ fY;(try simp only [Act.put,sIB,sC0,sCs]);refine tkD (i:=11) (d:=some 5) rfl ?_ fY;(try simp only [Act.put,sIB,sC0,sCs]);refine tkD (i:=12) (d:=some 6) rfl ?_ fY;(try simp only [Act.put,sIB,sC0,sCs]);refine wpAnyH_done ai ?_ _;go_wp2_with fail;refine HC.out.mono ?_;clear HC;generalize bJ pt (pl m) (aM s) = res at *;rintro e w5 ⟨hk,hm⟩
  cases res with
  | none =>
   have hm : e = thL (ln + 1):=hm;subst hm;exact ⟨rfl,HK.out.trans hk,rfl⟩
  | some y =>
   obtain ⟨rfl,m',hq,hp⟩:=hm;have HQ:=hid hq;have HP:=hid hp;have Hk:=hid hk;clear hq hp hk;go_wp2_with fail;go_end0;exact ⟨HK.out.trans Hk.out,rfl,m',HQ.out,HP.out⟩
 ) : P:=h
theorem IK {P : Prop} (h : P:=by
  go_simp
  refine hK.out _ _ trivial (fun _ => ?_)
  clear hK K;refine ryQ (rs:=[6]) ?_
  refine rcQ (i:=6) rfl (fun K hK => ?_) rN
  go_simp;refine (HI1.out _ B1.out).mono ?_;rintro e w5 ⟨rfl,hb5⟩;have B5:=hid (B1.out.trans (hb5.mono B1.out.size));clear hb5
  refine hK.out _ _ trivial (fun _ => ?_)
  clear hK K;refine ryQ (rs:=[11]) ?_
  refine rcQ (i:=11) rfl (fun K hK => ?_) rN
  go_simp;refine (HI2.out _ B5.out).mono ?_;rintro e w6 ⟨rfl,hb6⟩;have B6:=hid (B5.out.trans (hb6.mono B5.out.size));clear hb6;have Q6:=hid (HQ0.out.later B6.out)
  refine hK.out _ _ trivial (fun _ => ?_)
  clear hK K;refine tkQ (i:=12) rfl ?_;(try simp only [Act.put,sIB,sC0,sCs]);refine tkQ (i:=13) rfl ?_;(try simp only [Act.put,sIB,sC0,sCs]);refine tkQ (i:=14) rfl ?_;(try simp only [Act.put,sIB,sC0,sCs]);refine ryQ (rs:=[15]) ?_
  refine rcQ (i:=15) rfl (fun K hK => ?_) rN
  have c16:=Q6.out.cells 4;have f16:=Q6.out.free 4;go_simp
  have Q7:=hid (RQ.set (m':={ m with fi:=a }) Q6.out 4 (.int .i64 a) rfl ⟨rfl,rfl,rfl,rfl⟩ ⟨rfl,rfl,rfl,rfl⟩ ⟨rfl,rfl,rfl,rfl⟩ ⟨rfl,rfl,rfl,rfl⟩ ⟨rfl,rfl,rfl,rfl⟩ ⟨rfl,rfl,rfl,rfl⟩ id)
  have K7:=hid ((KR.later B6.out).trans (KR.set base R 4 w6 (.int .i64 a)))
  refine hK.out _ _ trivial (fun _ => ?_)
  clear hK K;refine tkQ (i:=16) rfl ?_;(try simp only [Act.put,sIB,sC0,sCs]);refine tkQ (i:=17) rfl ?_;(try simp only [Act.put,sIB,sC0,sCs]);refine tkQ (i:=18) rfl ?_;(try simp only [Act.put,sIB,sC0,sCs]);refine ryQ (rs:=[19]) ?_
  refine rcQ (i:=19) rfl (fun K hK => ?_) rN
  generalize w6.setCell ⟨R,4,none⟩ (.int .i64 a) = w7 at *;have c17:=Q7.out.cells 5;have f17:=Q7.out.free 5;go_simp
  have Q8:=hid (RQ.set (m':={ m with fi:=a,mo:=b }) Q7.out 5 (.int .i64 b) rfl ⟨rfl,rfl,rfl,rfl⟩ ⟨rfl,rfl,rfl,rfl⟩ ⟨rfl,rfl,rfl,rfl⟩ ⟨rfl,rfl,rfl,rfl⟩ ⟨rfl,rfl,rfl,rfl⟩ ⟨rfl,rfl,rfl,rfl⟩ id)
  have K8:=hid (K7.out.trans (KR.set base R 5 w7 (.int .i64 b)))
  refine hK.out _ _ trivial (fun _ => ?_)
  clear hK K;refine wpAnyH_done ai ?_ _;go_end0;exact ⟨HK0.out.trans K8.out,rfl,_,Q8.out,gY⟩
 ) : P:=h
theorem GY {P : Prop} (h : P:=by
  go_simp
  refine hK.out _ _ trivial (fun _ => ?_)
  clear hK K;refine ryQ (rs:=[6]) ?_
  refine rcQ (i:=6) rfl (fun K hK => ?_) rN
  go_simp;have BN:=hid (BV.out.trans ((ag wv (aR op 0 (some ⟨G,0,none⟩) (n - 1) (n - 1))).mono BV.out.size))
  refine hK.out _ _ trivial (fun _ => ?_)
  clear hK K;refine ryQ (rs:=[7]) ?_
  refine rcQ (i:=7) rfl (fun K hK => ?_) rN
  refine wp_append_lies _ (.tmp 73) (.tmp 75) 76 rfl base 75 i0 (.agg #[.int .u8 0,.int .i64 0,.slice none 0 0]) 3 40 Tryz.underlying76 hi hz0 hz1 hz2 rfl aq (.slice ca cn cc) cn (code.flatMap dX) rfl (HCO.out _ BN.out) ⟨wv.heap.size,0,none⟩ 1 1 (dX ((op,0,(some ⟨G,0,none⟩,(n - 1),(n - 1)),l) : InM)) rfl rfl ?n1 ?n2 aq bP ae (Q9.out.later BN.out).bw _ rfl ?_
  case n1 =>
   exact oY
  case n2 => intro u hu; simp [dX] at hu; rcases hu with rfl | rfl | rfl <;> rfl
  intro g cap w6 ho6 hg6 hgb6 _;have PX:=hid (Q9.out.pushI BN.out HFN.out HFA.out ((op,0,(some ⟨G,0,none⟩,(n - 1),(n - 1)),l) : InM) YR.out ho6 hg6 hgb6);rw [HIK.out] at PX;have z6:=hid (HZC.out _ BN.out _ hg6);clear ho6 hg6 hgb6
  refine hK.out _ _ trivial (fun _ => ?_)
  clear hK K;refine tkD (i:=8) (d:=some 77) rfl ?_;(try simp only [Act.put,sIB,sC0,sCs]);refine tkD (i:=9) (d:=some 78) rfl ?_;(try simp only [Act.put,sIB,sC0,sCs]);refine ryQ (rs:=[10]) ?_
  refine rcQ (i:=10) rfl (fun K hK => ?_) rN
  have c16 : w6.cell? ⟨fb,k * 3 + 2,none⟩ = some (.slice ca cn cc):=z6.out.1;have f16 : w6.frozen? ⟨fb,k * 3 + 2,none⟩ = false:=z6.out.2;go_simp
  refine hK.out _ _ trivial (fun _ => ?_)
  clear hK K;refine wpAnyH_done ai ?_ _;go_end0;exact ⟨(HK0.out.trans (KR.later BX.out)).trans PX.out.2,rfl,_,PX.out.1,qu⟩
 ) : P:=h
theorem FC {P : Prop} (h : P:=by
  go_simp
  refine hK.out _ _ trivial (fun _ => ?_)
  clear hK K;refine ryQ (rs:=[7]) ?_
  refine rcQ (i:=7) rfl (fun K hK => ?_) rN
  go_simp;have BN:=hid (B1.out.trans ((ag wd (aW v (some ⟨G,0,none⟩) (y.size / 2) (y.size / 2))).mono B1.out.size))
  refine hK.out _ _ trivial (fun _ => ?_)
  clear hK K;refine ryQ (rs:=[8]) ?_
  refine rcQ (i:=8) rfl (fun K hK => ?_) rN
  refine wp_append_lies _ (.tmp 28) (.tmp 30) 26 rfl base 81 i0 (.agg #[.int .i64 0,.slice none 0 0]) 2 32 Tryz.underlying26 hi hz0 hz1 hz2 rfl aq (.slice m.da m.dn m.dc) m.dn (m.data.flatMap mL) rfl (Q1.out.later BN.out).rd ⟨wd.heap.size,0,none⟩ 1 1 (mL ((v,(some ⟨G,0,none⟩,y.size / 2,y.size / 2),l) : DaM)) rfl rfl ?n1 ?n2 aq bP ae (Q1.out.later BN.out).bw _ rfl ?_
  case n1 =>
   exact BC
  case n2 => intro u hu; simp [mL] at hu; rcases hu with rfl | rfl <;> rfl
  intro g cap w6 ho6 hg6 _ _;have PX:=hid ((Q1.out).pushD BN.out ((v,(some ⟨G,0,none⟩,y.size / 2,y.size / 2),l) : DaM) (lg (dS OX.out (Below.refl _ _)) HQ0.out.bw) ho6 hg6);have z6:=hid (bV ((Q1.out.later BN.out).blk) (Q1.out).low ((Q1.out.later BN.out).rd) hg6);clear ho6 hg6
  refine hK.out _ _ trivial (fun _ => ?_)
  clear hK K;refine tkQ (i:=9) rfl ?_;(try simp only [Act.put,sIB,sC0,sCs]);refine tkQ (i:=10) rfl ?_;(try simp only [Act.put,sIB,sC0,sCs]);refine tkQ (i:=11) rfl ?_;(try simp only [Act.put,sIB,sC0,sCs]);refine ryQ (rs:=[12]) ?_
  refine rcQ (i:=12) rfl (fun K hK => ?_) rN
  have c16 : w6.cell? ⟨R,7,none⟩ = some (.slice m.da m.dn m.dc):=aj z6.out;have f16 : w6.frozen? ⟨R,7,none⟩ = false:=aK z6.out;go_simp
  refine hK.out _ _ trivial (fun _ => ?_)
  clear hK K;refine wpAnyH_done ai ?_ _;go_end0
  exact ⟨(HK0.out.trans (KR.later BX.out)).trans PX.out.2,rfl,_,PX.out.1,by unfold pl; simp [plD,List.map_append]⟩
 ) : P:=h
theorem I3 {P : Prop} (h : P:=by
  go_simp
  refine hK.out _ _ trivial (fun _ => ?_)
  clear hK K;refine ryQ (rs:=[6]) ?_
  refine rcQ (i:=6) rfl (fun K hK => ?_) rN
  go_simp;have BN:=hid (BV.out.trans ((ag wv (aR op 0 (some ⟨G,0,none⟩) 0 0)).mono BV.out.size))
  refine hK.out _ _ trivial (fun _ => ?_)
  clear hK K;refine ryQ (rs:=[7]) ?_
  refine rcQ (i:=7) rfl (fun K hK => ?_) rN
  refine wp_append_lies _ (.tmp 73) (.tmp 75) 76 rfl base 75 i0 (.agg #[.int .u8 0,.int .i64 0,.slice none 0 0]) 3 40 Tryz.underlying76 hi hz0 hz1 hz2 rfl aq (.slice ca cn cc) cn (code.flatMap dX) rfl (HCO.out _ BN.out) ⟨wv.heap.size,0,none⟩ 1 1 (dX ((op,0,(some ⟨G,0,none⟩,0,0),l) : InM)) rfl rfl ?n1 ?n2 aq bP ae (Q9.out.later BN.out).bw _ rfl ?_
  case n1 =>
   exact oY
  case n2 => intro u hu; simp [dX] at hu; rcases hu with rfl | rfl | rfl <;> rfl
  intro g cap w6 ho6 hg6 hgb6 _;have PX:=hid (Q9.out.pushI BN.out HFN.out HFA.out ((op,0,(some ⟨G,0,none⟩,0,0),l) : InM) YR.out ho6 hg6 hgb6);rw [HIK.out] at PX;have z6:=hid (HZC.out _ BN.out _ hg6);clear ho6 hg6 hgb6
  refine hK.out _ _ trivial (fun _ => ?_)
  clear hK K;refine tkD (i:=8) (d:=some 77) rfl ?_;(try simp only [Act.put,sIB,sC0,sCs]);refine tkD (i:=9) (d:=some 78) rfl ?_;(try simp only [Act.put,sIB,sC0,sCs]);refine ryQ (rs:=[10]) ?_
  refine rcQ (i:=10) rfl (fun K hK => ?_) rN
  have c16 : w6.cell? ⟨fb,k * 3 + 2,none⟩ = some (.slice ca cn cc):=z6.out.1;have f16 : w6.frozen? ⟨fb,k * 3 + 2,none⟩ = false:=z6.out.2;go_simp
  refine hK.out _ _ trivial (fun _ => ?_)
  clear hK K;refine wpAnyH_done ai ?_ _;go_end0;exact ⟨(HK0.out.trans (KR.later BX.out)).trans PX.out.2,rfl,_,PX.out.1,qu⟩
 ) : P:=h
theorem FN {P : Prop} (h : P:=by
  go_simp
  refine hK.out _ _ trivial (fun _ => ?_)
  clear hK K;refine ryQ (rs:=[7]) ?_
  refine rcQ (i:=7) rfl (fun K hK => ?_) rN
  go_simp;have BN:=hid (B1.out.trans ((ag wd (bf v ⟨#[]⟩ none 0 0)).mono B1.out.size))
  refine hK.out _ _ trivial (fun _ => ?_)
  clear hK K;refine ryQ (rs:=[8]) ?_
  refine rcQ (i:=8) rfl (fun K hK => ?_) rN
  refine wp_append_lies _ (.tmp 32) (.tmp 34) 25 rfl base 78 i0 (.agg #[.int .i64 0,.string ⟨#[]⟩,.slice none 0 0]) 3 48 Tryz.underlying25 hi hz0 hz1 hz2 rfl aq (.slice m.fa m.fn m.fc) m.fn (m.fns.flatMap dD) rfl (Q1.out.later BN.out).rf ⟨wd.heap.size,0,none⟩ 1 1 (dD ((v,⟨#[]⟩,(none,0,0),[]) : FuM)) rfl rfl ?n1 ?n2 aq bP ae (Q1.out.later BN.out).bw _ rfl ?_
  case n1 =>
   exact Am
  case n2 => intro u hu; simp [dD] at hu; rcases hu with rfl | rfl | rfl <;> rfl
  intro g cap w6 ho6 hg6 _ _;have PX:=hid ((Q1.out).pushF BN.out ((v,⟨#[]⟩,(none,0,0),[]) : FuM) aq ⟨rfl,rfl⟩ ho6 hg6);have z6:=hid (bV ((Q1.out.later BN.out).blk) (Q1.out).low ((Q1.out.later BN.out).rf) hg6);clear ho6 hg6
  refine hK.out _ _ trivial (fun _ => ?_)
  clear hK K;refine tkQ (i:=9) rfl ?_;(try simp only [Act.put,sIB,sC0,sCs]);refine tkQ (i:=10) rfl ?_;(try simp only [Act.put,sIB,sC0,sCs]);refine tkQ (i:=11) rfl ?_;(try simp only [Act.put,sIB,sC0,sCs]);refine ryQ (rs:=[12]) ?_
  refine rcQ (i:=12) rfl (fun K hK => ?_) rN
  have c16 : w6.cell? ⟨R,6,none⟩ = some (.slice m.fa m.fn m.fc):=aj z6.out;have f16 : w6.frozen? ⟨R,6,none⟩ = false:=aK z6.out;go_simp
  refine hK.out _ _ trivial (fun _ => ?_)
  clear hK K;refine wpAnyH_done ai ?_ _;go_end0
  exact ⟨(HK0.out.trans KX.out).trans PX.out.2,rfl,_,PX.out.1,by unfold pl; simp [plF,List.map_append]⟩
 ) : P:=h
theorem EW {P : Prop} (h : P:=by
  go_simp
  refine hK.out _ _ trivial (fun _ => ?_)
  clear hK K;refine ryQ (rs:=[7]) ?_
  refine rcQ (i:=7) rfl (fun K hK => ?_) rN
  go_simp;have BN:=hid (B1.out.trans ((ag wd (bf v y none 0 0)).mono B1.out.size))
  refine hK.out _ _ trivial (fun _ => ?_)
  clear hK K;refine ryQ (rs:=[8]) ?_
  refine rcQ (i:=8) rfl (fun K hK => ?_) rN
  refine wp_append_lies _ (.tmp 32) (.tmp 34) 25 rfl base 78 i0 (.agg #[.int .i64 0,.string ⟨#[]⟩,.slice none 0 0]) 3 48 Tryz.underlying25 hi hz0 hz1 hz2 rfl aq (.slice m.fa m.fn m.fc) m.fn (m.fns.flatMap dD) rfl (Q1.out.later BN.out).rf ⟨wd.heap.size,0,none⟩ 1 1 (dD ((v,y,(none,0,0),[]) : FuM)) rfl rfl ?n1 ?n2 aq bP ae (Q1.out.later BN.out).bw _ rfl ?_
  case n1 =>
   exact Am
  case n2 => intro u hu; simp [dD] at hu; rcases hu with rfl | rfl | rfl <;> rfl
  intro g cap w6 ho6 hg6 _ _;have PX:=hid ((Q1.out).pushF BN.out ((v,y,(none,0,0),[]) : FuM) aq ⟨rfl,rfl⟩ ho6 hg6);have z6:=hid (bV ((Q1.out.later BN.out).blk) (Q1.out).low ((Q1.out.later BN.out).rf) hg6);clear ho6 hg6
  refine hK.out _ _ trivial (fun _ => ?_)
  clear hK K;refine tkQ (i:=9) rfl ?_;(try simp only [Act.put,sIB,sC0,sCs]);refine tkQ (i:=10) rfl ?_;(try simp only [Act.put,sIB,sC0,sCs]);refine tkQ (i:=11) rfl ?_;(try simp only [Act.put,sIB,sC0,sCs]);refine ryQ (rs:=[12]) ?_
  refine rcQ (i:=12) rfl (fun K hK => ?_) rN
  have c16 : w6.cell? ⟨R,6,none⟩ = some (.slice m.fa m.fn m.fc):=aj z6.out;have f16 : w6.frozen? ⟨R,6,none⟩ = false:=aK z6.out;go_simp
  refine hK.out _ _ trivial (fun _ => ?_)
  clear hK K;refine wpAnyH_done ai ?_ _;go_end0;exact ⟨(HK0.out.trans KX.out).trans PX.out.2,rfl,_,PX.out.1,Ek⟩
 ) : P:=h
theorem F8 {P : Prop} (h : P:=by
  go_simp
  refine hK.out _ _ trivial (fun _ => ?_)
  clear hK K;refine ryQ (rs:=[7]) ?_
  refine rcQ (i:=7) rfl (fun K hK => ?_) rN
  go_simp;have BN:=hid (B1.out.trans ((ag wd (aN 108 false (v % 18446744073709551616))).mono B1.out.size))
  refine hK.out _ _ trivial (fun _ => ?_)
  clear hK K;refine ryQ (rs:=[8]) ?_
  refine rcQ (i:=8) rfl (fun K hK => ?_) rN
  refine wp_append_lies _ (.tmp 65) (.tmp 67) 24 rfl base 102 i0 (.agg #[.int .u8 0,.bool false,.int .u64 0]) 3 16 Tryz.underlying24 hi hz0 hz1 hz2 rfl aq (.slice m.ga m.gn m.gc) m.gn (m.globals.flatMap dW) rfl (Q1.out.later BN.out).rg ⟨wd.heap.size,0,none⟩ 1 1 (dW ((108,false,v % 18446744073709551616) : Gl)) rfl rfl ?n1 ?n2 aq bP ae (Q1.out.later BN.out).bw _ rfl ?_
  case n1 =>
   exact oQ
  case n2 => intro u hu; simp [dW] at hu; rcases hu with rfl | rfl | rfl <;> rfl
  intro g cap w6 ho6 hg6 _ _;have PX:=hid ((Q1.out).pushG BN.out ((108,false,v % 18446744073709551616) : Gl) ho6 hg6);have z6:=hid (bV ((Q1.out.later BN.out).blk) (Q1.out).low ((Q1.out.later BN.out).rg) hg6);clear ho6 hg6
  refine hK.out _ _ trivial (fun _ => ?_)
  clear hK K;refine tkQ (i:=9) rfl ?_;(try simp only [Act.put,sIB,sC0,sCs]);refine tkQ (i:=10) rfl ?_;(try simp only [Act.put,sIB,sC0,sCs]);refine tkQ (i:=11) rfl ?_;(try simp only [Act.put,sIB,sC0,sCs]);refine ryQ (rs:=[12]) ?_
  refine rcQ (i:=12) rfl (fun K hK => ?_) rN
  have c16 : w6.cell? ⟨R,3,none⟩ = some (.slice m.ga m.gn m.gc):=aj z6.out;have f16 : w6.frozen? ⟨R,3,none⟩ = false:=aK z6.out;go_simp
  refine hK.out _ _ trivial (fun _ => ?_)
  clear hK K;refine wpAnyH_done ai ?_ _;go_end0;exact ⟨(HK0.out.trans KX.out).trans PX.out.2,rfl,_,PX.out.1,gY⟩
 ) : P:=h
theorem FJ {P : Prop} (h : P:=by
  go_simp
  refine hK.out _ _ trivial (fun _ => ?_)
  clear hK K;refine ryQ (rs:=[7]) ?_
  refine rcQ (i:=7) rfl (fun K hK => ?_) rN
  go_simp;have BN:=hid (B1.out.trans ((ag wd (aN 108 true (v % 18446744073709551616))).mono B1.out.size))
  refine hK.out _ _ trivial (fun _ => ?_)
  clear hK K;refine ryQ (rs:=[8]) ?_
  refine rcQ (i:=8) rfl (fun K hK => ?_) rN
  refine wp_append_lies _ (.tmp 65) (.tmp 67) 24 rfl base 102 i0 (.agg #[.int .u8 0,.bool false,.int .u64 0]) 3 16 Tryz.underlying24 hi hz0 hz1 hz2 rfl aq (.slice m.ga m.gn m.gc) m.gn (m.globals.flatMap dW) rfl (Q1.out.later BN.out).rg ⟨wd.heap.size,0,none⟩ 1 1 (dW ((108,true,v % 18446744073709551616) : Gl)) rfl rfl ?n1 ?n2 aq bP ae (Q1.out.later BN.out).bw _ rfl ?_
  case n1 =>
   exact oQ
  case n2 => intro u hu; simp [dW] at hu; rcases hu with rfl | rfl | rfl <;> rfl
  intro g cap w6 ho6 hg6 _ _;have PX:=hid ((Q1.out).pushG BN.out ((108,true,v % 18446744073709551616) : Gl) ho6 hg6);have z6:=hid (bV ((Q1.out.later BN.out).blk) (Q1.out).low ((Q1.out.later BN.out).rg) hg6);clear ho6 hg6
  refine hK.out _ _ trivial (fun _ => ?_)
  clear hK K;refine tkQ (i:=9) rfl ?_;(try simp only [Act.put,sIB,sC0,sCs]);refine tkQ (i:=10) rfl ?_;(try simp only [Act.put,sIB,sC0,sCs]);refine tkQ (i:=11) rfl ?_;(try simp only [Act.put,sIB,sC0,sCs]);refine ryQ (rs:=[12]) ?_
  refine rcQ (i:=12) rfl (fun K hK => ?_) rN
  have c16 : w6.cell? ⟨R,3,none⟩ = some (.slice m.ga m.gn m.gc):=aj z6.out;have f16 : w6.frozen? ⟨R,3,none⟩ = false:=aK z6.out;go_simp
  refine hK.out _ _ trivial (fun _ => ?_)
  clear hK K;refine wpAnyH_done ai ?_ _;go_end0;exact ⟨(HK0.out.trans KX.out).trans PX.out.2,rfl,_,PX.out.1,gY⟩
 ) : P:=h
theorem Gg {P : Prop} (h : P:=by
  go_simp
  refine hK.out _ _ trivial (fun _ => ?_)
  clear hK K;refine ryQ (rs:=[6]) ?_
  refine rcQ (i:=6) rfl (fun K hK => ?_) rN
  go_simp;have BN:=hid (BV.out.trans ((ag wv (aR op 0 none 0 0)).mono BV.out.size))
  refine hK.out _ _ trivial (fun _ => ?_)
  clear hK K;refine ryQ (rs:=[7]) ?_
  refine rcQ (i:=7) rfl (fun K hK => ?_) rN
  refine wp_append_lies _ (.tmp 73) (.tmp 75) 76 rfl base 75 i0 (.agg #[.int .u8 0,.int .i64 0,.slice none 0 0]) 3 40 Tryz.underlying76 hi hz0 hz1 hz2 rfl aq (.slice ca cn cc) cn (code.flatMap dX) rfl (HCO.out _ BN.out) ⟨wv.heap.size,0,none⟩ 1 1 (dX ((op,0,(none,0,0),[]) : InM)) rfl rfl ?n1 ?n2 aq bP ae (Q9.out.later BN.out).bw _ rfl ?_
  case n1 =>
   exact oY
  case n2 => intro u hu; simp [dX] at hu; rcases hu with rfl | rfl | rfl <;> rfl
  intro g cap w6 ho6 hg6 hgb6 _;have PX:=hid (Q9.out.pushI BN.out HFN.out HFA.out ((op,0,(none,0,0),[]) : InM) YR.out ho6 hg6 hgb6);rw [HIK.out] at PX;have z6:=hid (HZC.out _ BN.out _ hg6);clear ho6 hg6 hgb6
  refine hK.out _ _ trivial (fun _ => ?_)
  clear hK K;refine tkD (i:=8) (d:=some 77) rfl ?_;(try simp only [Act.put,sIB,sC0,sCs]);refine tkD (i:=9) (d:=some 78) rfl ?_;(try simp only [Act.put,sIB,sC0,sCs]);refine ryQ (rs:=[10]) ?_
  refine rcQ (i:=10) rfl (fun K hK => ?_) rN
  have c16 : w6.cell? ⟨fb,k * 3 + 2,none⟩ = some (.slice ca cn cc):=z6.out.1;have f16 : w6.frozen? ⟨fb,k * 3 + 2,none⟩ = false:=z6.out.2;go_simp
  refine hK.out _ _ trivial (fun _ => ?_)
  clear hK K;refine wpAnyH_done ai ?_ _;go_end0;exact ⟨(HK0.out.trans (KR.later BX.out)).trans PX.out.2,rfl,_,PX.out.1,qu⟩
 ) : P:=h
theorem Hm {P : Prop} (h : P:=by
  go_simp
  refine hK.out _ _ trivial (fun _ => ?_)
  clear hK K;refine ryQ (rs:=[6]) ?_
  refine rcQ (i:=6) rfl (fun K hK => ?_) rN
  go_simp;have BN:=hid (BV.out.trans ((ag wv (aR op a none 0 0)).mono BV.out.size))
  refine hK.out _ _ trivial (fun _ => ?_)
  clear hK K;refine ryQ (rs:=[7]) ?_
  refine rcQ (i:=7) rfl (fun K hK => ?_) rN
  refine wp_append_lies _ (.tmp 73) (.tmp 75) 76 rfl base 75 i0 (.agg #[.int .u8 0,.int .i64 0,.slice none 0 0]) 3 40 Tryz.underlying76 hi hz0 hz1 hz2 rfl aq (.slice ca cn cc) cn (code.flatMap dX) rfl (HCO.out _ BN.out) ⟨wv.heap.size,0,none⟩ 1 1 (dX ((op,a,(none,0,0),[]) : InM)) rfl rfl ?n1 ?n2 aq bP ae (Q9.out.later BN.out).bw _ rfl ?_
  case n1 =>
   exact oY
  case n2 => intro u hu; simp [dX] at hu; rcases hu with rfl | rfl | rfl <;> rfl
  intro g cap w6 ho6 hg6 hgb6 _;have PX:=hid (Q9.out.pushI BN.out HFN.out HFA.out ((op,a,(none,0,0),[]) : InM) YR.out ho6 hg6 hgb6);rw [HIK.out] at PX;have z6:=hid (HZC.out _ BN.out _ hg6);clear ho6 hg6 hgb6
  refine hK.out _ _ trivial (fun _ => ?_)
  clear hK K;refine tkD (i:=8) (d:=some 77) rfl ?_;(try simp only [Act.put,sIB,sC0,sCs]);refine tkD (i:=9) (d:=some 78) rfl ?_;(try simp only [Act.put,sIB,sC0,sCs]);refine ryQ (rs:=[10]) ?_
  refine rcQ (i:=10) rfl (fun K hK => ?_) rN
  have c16 : w6.cell? ⟨fb,k * 3 + 2,none⟩ = some (.slice ca cn cc):=z6.out.1;have f16 : w6.frozen? ⟨fb,k * 3 + 2,none⟩ = false:=z6.out.2;go_simp
  refine hK.out _ _ trivial (fun _ => ?_)
  clear hK K;refine wpAnyH_done ai ?_ _;go_end0;exact ⟨(HK0.out.trans (KR.later BX.out)).trans PX.out.2,rfl,_,PX.out.1,qu⟩
 ) : P:=h
theorem Fr {P : Prop} (h : P:=by
  go_simp
  refine hK.out _ _ trivial (fun _ => ?_)
  clear hK K;refine ryQ (rs:=[7]) ?_
  refine rcQ (i:=7) rfl (fun K hK => ?_) rN
  go_simp;have BN:=hid (B1.out.trans ((ag wd (aN 119 false (v % 4294967296))).mono B1.out.size))
  refine hK.out _ _ trivial (fun _ => ?_)
  clear hK K;refine ryQ (rs:=[8]) ?_
  refine rcQ (i:=8) rfl (fun K hK => ?_) rN
  refine wp_append_lies _ (.tmp 65) (.tmp 67) 24 rfl base 102 i0 (.agg #[.int .u8 0,.bool false,.int .u64 0]) 3 16 Tryz.underlying24 hi hz0 hz1 hz2 rfl aq (.slice m.ga m.gn m.gc) m.gn (m.globals.flatMap dW) rfl (Q1.out.later BN.out).rg ⟨wd.heap.size,0,none⟩ 1 1 (dW ((119,false,v % 4294967296) : Gl)) rfl rfl ?n1 ?n2 aq bP ae (Q1.out.later BN.out).bw _ rfl ?_
  case n1 =>
   exact oQ
  case n2 => intro u hu; simp [dW] at hu; rcases hu with rfl | rfl | rfl <;> rfl
  intro g cap w6 ho6 hg6 _ _;have PX:=hid ((Q1.out).pushG BN.out ((119,false,v % 4294967296) : Gl) ho6 hg6);have z6:=hid (bV ((Q1.out.later BN.out).blk) (Q1.out).low ((Q1.out.later BN.out).rg) hg6);clear ho6 hg6
  refine hK.out _ _ trivial (fun _ => ?_)
  clear hK K;refine tkQ (i:=9) rfl ?_;(try simp only [Act.put,sIB,sC0,sCs]);refine tkQ (i:=10) rfl ?_;(try simp only [Act.put,sIB,sC0,sCs]);refine tkQ (i:=11) rfl ?_;(try simp only [Act.put,sIB,sC0,sCs]);refine ryQ (rs:=[12]) ?_
  refine rcQ (i:=12) rfl (fun K hK => ?_) rN
  have c16 : w6.cell? ⟨R,3,none⟩ = some (.slice m.ga m.gn m.gc):=aj z6.out;have f16 : w6.frozen? ⟨R,3,none⟩ = false:=aK z6.out;go_simp
  refine hK.out _ _ trivial (fun _ => ?_)
  clear hK K;refine wpAnyH_done ai ?_ _;go_end0;exact ⟨(HK0.out.trans KX.out).trans PX.out.2,rfl,_,PX.out.1,gY⟩
 ) : P:=h
theorem Fy {P : Prop} (h : P:=by
  go_simp
  refine hK.out _ _ trivial (fun _ => ?_)
  clear hK K;refine ryQ (rs:=[7]) ?_
  refine rcQ (i:=7) rfl (fun K hK => ?_) rN
  go_simp;have BN:=hid (B1.out.trans ((ag wd (aN 119 true (v % 4294967296))).mono B1.out.size))
  refine hK.out _ _ trivial (fun _ => ?_)
  clear hK K;refine ryQ (rs:=[8]) ?_
  refine rcQ (i:=8) rfl (fun K hK => ?_) rN
  refine wp_append_lies _ (.tmp 65) (.tmp 67) 24 rfl base 102 i0 (.agg #[.int .u8 0,.bool false,.int .u64 0]) 3 16 Tryz.underlying24 hi hz0 hz1 hz2 rfl aq (.slice m.ga m.gn m.gc) m.gn (m.globals.flatMap dW) rfl (Q1.out.later BN.out).rg ⟨wd.heap.size,0,none⟩ 1 1 (dW ((119,true,v % 4294967296) : Gl)) rfl rfl ?n1 ?n2 aq bP ae (Q1.out.later BN.out).bw _ rfl ?_
  case n1 =>
   exact oQ
  case n2 => intro u hu; simp [dW] at hu; rcases hu with rfl | rfl | rfl <;> rfl
  intro g cap w6 ho6 hg6 _ _;have PX:=hid ((Q1.out).pushG BN.out ((119,true,v % 4294967296) : Gl) ho6 hg6);have z6:=hid (bV ((Q1.out.later BN.out).blk) (Q1.out).low ((Q1.out.later BN.out).rg) hg6);clear ho6 hg6
  refine hK.out _ _ trivial (fun _ => ?_)
  clear hK K;refine tkQ (i:=9) rfl ?_;(try simp only [Act.put,sIB,sC0,sCs]);refine tkQ (i:=10) rfl ?_;(try simp only [Act.put,sIB,sC0,sCs]);refine tkQ (i:=11) rfl ?_;(try simp only [Act.put,sIB,sC0,sCs]);refine ryQ (rs:=[12]) ?_
  refine rcQ (i:=12) rfl (fun K hK => ?_) rN
  have c16 : w6.cell? ⟨R,3,none⟩ = some (.slice m.ga m.gn m.gc):=aj z6.out;have f16 : w6.frozen? ⟨R,3,none⟩ = false:=aK z6.out;go_simp
  refine hK.out _ _ trivial (fun _ => ?_)
  clear hK K;refine wpAnyH_done ai ?_ _;go_end0;exact ⟨(HK0.out.trans KX.out).trans PX.out.2,rfl,_,PX.out.1,gY⟩
 ) : P:=h
theorem E9 {P : Prop} (h : P:=by
  go_simp
  refine hK.out _ _ trivial (fun _ => ?_)
  clear hK K;refine ryQ (rs:=[10]) ?_
  refine rcQ (i:=10) rfl (fun K hK => ?_) rN
  go_simp;refine (HI.out _ B1.out).mono ?_;rintro e w5 ⟨rfl,hb5⟩;have B5:=hid (B1.out.trans (hb5.mono B1.out.size));clear hb5
  refine hK.out _ _ trivial (fun _ => ?_)
  clear hK K;refine ryQ (rs:=[11]) ?_
  refine rcQ (i:=11) rfl (fun K hK => ?_) rN
  go_simp;have BN:=hid (B5.out.trans ((ag w5 (bz v)).mono B5.out.size))
  refine hK.out _ _ trivial (fun _ => ?_)
  clear hK K;refine ryQ (rs:=[12]) ?_
  refine rcQ (i:=12) rfl (fun K hK => ?_) rN
  refine wp_append_lies _ (.tmp 16) (.tmp 22) 23 rfl base 3 i0 (.int .i64 0) 1 8 Tryz.underlying23 hi hz0 hz1 hz2 rfl aq (.slice m.ha m.hn m.hc) m.hn (m.hosts.flatMap ir) rfl (Q1.out.later BN.out).rh ⟨w5.heap.size,0,none⟩ 1 1 (ir v) rfl rfl ?n1 ?n2 aq bP ae (Q1.out.later BN.out).bw _ rfl ?_
  case n1 =>
   exact Ay
  case n2 => intro u hu; simp [ir] at hu; subst hu; rfl
  intro g cap w6 ho6 hg6 _ _;have PX:=hid ((Q1.out).pushH BN.out v aq ho6 hg6);have z6:=hid (bV ((Q1.out.later BN.out).blk) (Q1.out).low ((Q1.out.later BN.out).rh) hg6);clear ho6 hg6
  refine hK.out _ _ trivial (fun _ => ?_)
  clear hK K;refine tkQ (i:=13) rfl ?_;(try simp only [Act.put,sIB,sC0,sCs]);refine tkQ (i:=14) rfl ?_;(try simp only [Act.put,sIB,sC0,sCs]);refine tkQ (i:=15) rfl ?_;(try simp only [Act.put,sIB,sC0,sCs]);refine ryQ (rs:=[16]) ?_
  refine rcQ (i:=16) rfl (fun K hK => ?_) rN
  have c16 : w6.cell? ⟨R,2,none⟩ = some (.slice m.ha m.hn m.hc):=aj z6.out;have f16 : w6.frozen? ⟨R,2,none⟩ = false:=aK z6.out;go_simp
  refine hK.out _ _ trivial (fun _ => ?_)
  clear hK K;refine wpAnyH_done ai ?_ _;go_end0;exact ⟨HK1.out.trans PX.out.2,rfl,_,PX.out.1,gY⟩
 ) : P:=h
theorem G0 {P : Prop} (h : P:=by
  go_simp
  refine hK.out _ _ trivial (fun _ => ?_)
  clear hK K;refine ryQ (rs:=[7]) ?_
  refine rcQ (i:=7) rfl (fun K hK => ?_) rN
  go_simp;have BN:=hid (B1.out.trans ((ag wd (aZ x v)).mono B1.out.size))
  refine hK.out _ _ trivial (fun _ => ?_)
  clear hK K;refine ryQ (rs:=[8]) ?_
  refine rcQ (i:=8) rfl (fun K hK => ?_) rN
  refine wp_append_lies _ (.tmp 27) (.tmp 29) 27 rfl base 83 i0 (.agg #[.string ⟨#[]⟩,.int .i64 0]) 2 24 Tryz.underlying27 hi hz0 hz1 hz2 rfl aq (.slice m.ea m.en m.ec) m.en (m.exps.flatMap mz) rfl (Q1.out.later BN.out).re ⟨wd.heap.size,0,none⟩ 1 1 (mz ((x,v) : Ex)) rfl rfl ?n1 ?n2 aq bP ae (Q1.out.later BN.out).bw _ rfl ?_
  case n1 =>
   exact BO
  case n2 => intro u hu; simp [mz] at hu; rcases hu with rfl | rfl <;> rfl
  intro g cap w6 ho6 hg6 _ _;have PX:=hid ((Q1.out).pushE BN.out ((x,v) : Ex) ho6 hg6);have z6:=hid (bV ((Q1.out.later BN.out).blk) (Q1.out).low ((Q1.out.later BN.out).re) hg6);clear ho6 hg6
  refine hK.out _ _ trivial (fun _ => ?_)
  clear hK K;refine tkQ (i:=9) rfl ?_;(try simp only [Act.put,sIB,sC0,sCs]);refine tkQ (i:=10) rfl ?_;(try simp only [Act.put,sIB,sC0,sCs]);refine tkQ (i:=11) rfl ?_;(try simp only [Act.put,sIB,sC0,sCs]);refine ryQ (rs:=[12]) ?_
  refine rcQ (i:=12) rfl (fun K hK => ?_) rN
  have c16 : w6.cell? ⟨R,8,none⟩ = some (.slice m.ea m.en m.ec):=aj z6.out;have f16 : w6.frozen? ⟨R,8,none⟩ = false:=aK z6.out;go_simp
  refine hK.out _ _ trivial (fun _ => ?_)
  clear hK K;refine wpAnyH_done ai ?_ _;go_end0
  exact ⟨(HK0.out.trans (KR.later BX.out)).trans PX.out.2,rfl,_,PX.out.1,by rw [HEx.out]; unfold pl; rfl⟩
 ) : P:=h
theorem Ez {P : Prop} (h : P:=by
  go_simp
  refine hK.out _ _ trivial (fun _ => ?_)
  clear hK K;refine ryQ (rs:=[7]) ?_
  refine rcQ (i:=7) rfl (fun K hK => ?_) rN
  go_simp;have BN:=hid (B1.out.trans ((ag wd (aX rp rr)).mono B1.out.size))
  refine hK.out _ _ trivial (fun _ => ?_)
  clear hK K;refine ryQ (rs:=[8]) ?_
  refine rcQ (i:=8) rfl (fun K hK => ?_) rN
  refine wp_append_lies _ (.tmp 24) (.tmp 26) 22 rfl base 73 i0 (.agg #[.string ⟨#[]⟩,.string ⟨#[]⟩]) 2 32 Tryz.underlying22 hi hz0 hz1 hz2 rfl aq (.slice m.ta m.tn m.tc) m.tn (m.types.flatMap mM) rfl (Q1.out.later BN.out).rt ⟨wd.heap.size,0,none⟩ 1 1 (mM (rp,rr)) rfl rfl ?n1 ?n2 aq bP ae (Q1.out.later BN.out).bw _ rfl ?_
  case n1 =>
   exact Cw
  case n2 => intro u hu; simp [mM] at hu; rcases hu with rfl | rfl <;> rfl
  intro g cap w6 ho6 hg6 _ _;have PX:=hid ((Q1.out).pushT BN.out (rp,rr) ho6 hg6);have z6:=hid (bV ((Q1.out.later BN.out).blk) (Q1.out).low ((Q1.out.later BN.out).rt) hg6);clear ho6 hg6
  refine hK.out _ _ trivial (fun _ => ?_)
  clear hK K;refine tkQ (i:=9) rfl ?_;(try simp only [Act.put,sIB,sC0,sCs]);refine tkQ (i:=10) rfl ?_;(try simp only [Act.put,sIB,sC0,sCs]);refine tkQ (i:=11) rfl ?_;(try simp only [Act.put,sIB,sC0,sCs]);refine ryQ (rs:=[12]) ?_
  refine rcQ (i:=12) rfl (fun K hK => ?_) rN
  have c16 : w6.cell? ⟨R,1,none⟩ = some (.slice m.ta m.tn m.tc):=aj z6.out;have f16 : w6.frozen? ⟨R,1,none⟩ = false:=aK z6.out;go_simp
  refine hK.out _ _ trivial (fun _ => ?_)
  clear hK K;refine wpAnyH_done ai ?_ _;go_end0;exact ⟨(HK0.out.trans (KR.later B4.out)).trans PX.out.2,rfl,_,PX.out.1,gY⟩
 ) : P:=h
theorem Hj {P : Prop} (h : P:=by
  have HI1:=hid (fun (W : World) (hW : Below w1.heap.size w1 W) => iA B R y v W (e1.tens.later (hW.mono e1.bw)) (Nat.le_trans e1.bw hW.size) ae h4)
  clear h hw hE hps h1 q1 d1 k1 e1 e hx ex hz ez hy ey h3 h4 h5 h6
  go_enter Tryz.func111,Tryz.ntmps111
  go_wp2_with fail;refine HO.out.mono ?_;rintro e w1' ⟨rfl,hw1⟩;have hw2:=hw1.symm;subst hw2;go_wp2_with fail;refine HM.out.mono ?_;rintro e w1'' ⟨rfl,hw1⟩;have hw2:=hw1.symm;subst hw2;have cz:=HWz.out w1 (Below.refl _ _);have HM2:=hid (aB R w1);go_wp2_with fail;refine HM2.out.mono ?_;rintro e w2' ⟨rfl,hw1⟩;have hw2:=hw1.symm;subst hw2;have cy : (w1.alloc (aN 0 false 0)).cell? ⟨A,3,none⟩ = some (.string y):=HWy.out _ (ag w1 _);have BX0:=hid (ag w1 (aN 0 false 0));have hX0:=hid (heap_alloc_new w1 (aN 0 false 0));go_wp2_with fail;refine (HI1.out _ BX0.out).mono ?_;rintro e w5 ⟨rfl,hb5⟩;have B5:=hid (BX0.out.trans (hb5.mono BX0.out.size));have hX5:=ak hb5 hX0.out;have c50 : w5.cell? ⟨w1.heap.size,0,none⟩ = some (.int .u8 0):=aj hX5;have c52 : w5.cell? ⟨w1.heap.size,2,none⟩ = some (.int .u64 0):=aj hX5;have f50 : w5.frozen? ⟨w1.heap.size,0,none⟩ = false:=aK hX5;have f52 : w5.frozen? ⟨w1.heap.size,2,none⟩ = false:=aK hX5;have HX5:=hid hX5;have cx5 : w5.cell? ⟨A,1,none⟩ = some (.string x):=HWx.out _ B5.out;have HQ5:=hid (HQ0.out.later B5.out);clear hb5 cy hX0 hX5;have HM5:=hid (fq HQ5.out);go_wp2_with fail;refine HM5.out.mono ?_;rintro e w5' ⟨rfl,hw1⟩;have hw2:=hw1.symm;subst hw2;exact ⟨rfl,HK0.out.trans (KR.later B5.out),rfl⟩
 ) : P:=h
theorem Hv {P : Prop} (h : P:=by
  have HI1:=hid (fun (W : World) (hW : Below w1.heap.size w1 W) => iA B R y v W (e1.tens.later (hW.mono e1.bw)) (Nat.le_trans e1.bw hW.size) ae h4)
  clear h hw hE hps h1 q1 d1 k1 e1 e hx ex hz ez hy ey h3 h4 h5 h6
  go_enter Tryz.func111,Tryz.ntmps111
  go_wp2_with fail;refine HO.out.mono ?_;rintro e w1' ⟨rfl,hw1⟩;have hw2:=hw1.symm;subst hw2;go_wp2_with fail;refine HM.out.mono ?_;rintro e w1'' ⟨rfl,hw1⟩;have hw2:=hw1.symm;subst hw2;have cz:=HWz.out w1 (Below.refl _ _);have HM2:=hid (aB R w1);go_wp2_with fail;refine HM2.out.mono ?_;rintro e w2' ⟨rfl,hw1⟩;have hw2:=hw1.symm;subst hw2;have cy : (w1.alloc (aN 0 true 0)).cell? ⟨A,3,none⟩ = some (.string y):=HWy.out _ (ag w1 _);have BX0:=hid (ag w1 (aN 0 true 0));have hX0:=hid (heap_alloc_new w1 (aN 0 true 0));go_wp2_with fail;refine (HI1.out _ BX0.out).mono ?_;rintro e w5 ⟨rfl,hb5⟩;have B5:=hid (BX0.out.trans (hb5.mono BX0.out.size));have hX5:=ak hb5 hX0.out;have c50 : w5.cell? ⟨w1.heap.size,0,none⟩ = some (.int .u8 0):=aj hX5;have c52 : w5.cell? ⟨w1.heap.size,2,none⟩ = some (.int .u64 0):=aj hX5;have f50 : w5.frozen? ⟨w1.heap.size,0,none⟩ = false:=aK hX5;have f52 : w5.frozen? ⟨w1.heap.size,2,none⟩ = false:=aK hX5;have HX5:=hid hX5;have cx5 : w5.cell? ⟨A,1,none⟩ = some (.string x):=HWx.out _ B5.out;have HQ5:=hid (HQ0.out.later B5.out);clear hb5 cy hX0 hX5;have HM5:=hid (fq HQ5.out);go_wp2_with fail;refine HM5.out.mono ?_;rintro e w5' ⟨rfl,hw1⟩;have hw2:=hw1.symm;subst hw2;exact ⟨rfl,HK0.out.trans (KR.later B5.out),rfl⟩
 ) : P:=h
theorem Iq {P : Prop} (h : P:=by
  refine hK.out _ _ trivial (fun _ => ?_)
  clear hK K;refine ryQ (rs:=[12]) ?_
  refine rcQ (i:=12) rfl (fun K hK => ?_) rN
  refine wp_append_lies _ (.tmp 16) (.tmp 22) 23 rfl base 3 i0 (.int .i64 0) 1 8 Tryz.underlying23 hi hz0 hz1 hz2 rfl aq (.slice m.ha m.hn m.hc) m.hn (m.hosts.flatMap ir) rfl (Q1.out.later BN.out).rh ⟨w5.heap.size,0,none⟩ 1 1 (ir v) rfl rfl ?n1 ?n2 aq bP ae (Q1.out.later BN.out).bw _ rfl ?_
  case n1 =>
   exact Ay
  case n2 => intro u hu; simp [ir] at hu; subst hu; rfl
  intro g cap w6 ho6 hg6 _ _;have PX:=hid ((Q1.out).pushH BN.out v aq ho6 hg6);have z6:=hid (bV ((Q1.out.later BN.out).blk) (Q1.out).low ((Q1.out.later BN.out).rh) hg6);clear ho6 hg6
  refine hK.out _ _ trivial (fun _ => ?_)
  clear hK K;refine tkQ (i:=13) rfl ?_;(try simp only [Act.put,sIB,sC0,sCs]);refine tkQ (i:=14) rfl ?_;(try simp only [Act.put,sIB,sC0,sCs]);refine tkQ (i:=15) rfl ?_;(try simp only [Act.put,sIB,sC0,sCs]);refine ryQ (rs:=[16]) ?_
  refine rcQ (i:=16) rfl (fun K hK => ?_) rN
  have c16 : w6.cell? ⟨R,2,none⟩ = some (.slice m.ha m.hn m.hc):=aj z6.out;have f16 : w6.frozen? ⟨R,2,none⟩ = false:=aK z6.out;go_simp
  refine hK.out _ _ trivial (fun _ => ?_)
  clear hK K;refine wpAnyH_done ai ?_ _;go_end0;exact ⟨HK1.out.trans PX.out.2,rfl,_,PX.out.1,gY⟩
 ) : P:=h
theorem Fd {P : Prop} (h : P:=by
  by_cases k1 : (p'.toList == p.toList) = true
  ·have k2 : (r'.toList == s.toList) = false:=by rw [k1] at hne; simpa using hne
   clear hne
   go_region_held3 (fun W => W.cell? ⟨wr.heap.size,0,none⟩ = some (.string p') ∧ W.cell? ⟨wr.heap.size,1,none⟩ = some (.string r') ∧ W.cell? ⟨B,0,none⟩ = some (.string p) ∧ W.cell? ⟨C,0,none⟩ = some (.int .i64 beg))
    (first | assumption | exact ⟨z0,z1,z2,z3⟩)
    (first
     | (go_at_call 84; refine (cr rfl).mono ?_; rintro e w' ⟨rfl,rfl⟩))
   go_wp2_with fail
   go_roundw
   ·exact Ax
   ·simp [intOf]; omega
  ·have k1' : (p'.toList == p.toList) = false:=by simpa using k1
   clear hne k1
   go_region_held3 (fun W => W.cell? ⟨wr.heap.size,0,none⟩ = some (.string p') ∧ W.cell? ⟨wr.heap.size,1,none⟩ = some (.string r') ∧ W.cell? ⟨B,0,none⟩ = some (.string p) ∧ W.cell? ⟨C,0,none⟩ = some (.int .i64 beg))
    (first | assumption | exact ⟨z0,z1,z2,z3⟩)
    (first
     | (go_at_call 84; refine (cr rfl).mono ?_; rintro e w' ⟨rfl,rfl⟩))
   go_wp2_with fail
   go_roundw
   ·exact Ax
   ·simp [intOf]; omega
 ) : P:=h
theorem IJ {P : Prop} (h : P:=by
  go_wp2_with fail
  go_loopw [5] (fun p wr => ∃ t : Nat,t ≤ n ∧ p = .int .i64 t ∧ Hid (Below w.heap.size w wr)) (fun p _ => n - (intOf p).toNat)
  case atStart => exact ⟨0,ae,rfl,hid (Below.refl _ _)⟩
  case round =>
   obtain ⟨t,ht,rfl,HB⟩:=hrel
   by_cases hlt : t < n
   ·have hlt' : (t : Int) < (n : Int):=ae;obtain ⟨x,hx⟩ : ∃ x,l[t]? = some x:=⟨_,aD ae⟩;obtain ⟨b1,o1,rfl,hat1⟩:=H1.out.2.resolve_left ae;obtain ⟨b2,o2,rfl,hat2⟩:=H2.out.2.resolve_left ae;obtain ⟨e10,e11⟩:=hat1 t x hx;have e10:=aw HB.out e10;have e11:=aw HB.out e11;obtain ⟨e20,e21⟩:=hat2 t x hx;have e20:=aw HB.out e20;have e21:=aw HB.out e21;clear hat1 hat2 hx
    have HBD:=hid (fun (n : Nat) => (show Below w.heap.size w (wr.drewN n) from lG HB.out (aP.drewN (fun _ => False) _ n) HB.out.size (fun _ x => x.elim)))
    obtain ⟨x0,x1⟩:=x;exact sA
   ·have hlt' : ¬ (t : Int) < (n : Int):=ae;go_wp2_with fail;go_ret;exact ⟨rfl,HB.out⟩
 ) : P:=h
theorem GW {P : Prop} (h : P:=by
  go_wp2_with fail
  go_loopw [5] (fun p wr => ∃ t : Nat,t ≤ n ∧ p = .int .i64 t ∧ Hid (Below w.heap.size w wr)) (fun p _ => n - (intOf p).toNat)
  case atStart => exact ⟨0,ae,rfl,hid (Below.refl _ _)⟩
  case round =>
   obtain ⟨t,ht,rfl,HB⟩:=hrel
   by_cases hlt : t < n
   ·have hlt' : (t : Int) < (n : Int):=ae;obtain ⟨x,hx⟩ : ∃ x,l[t]? = some x:=⟨_,aD ae⟩;obtain ⟨b1,o1,rfl,hat1⟩:=H1.out.2.resolve_left ae;obtain ⟨b2,o2,rfl,hat2⟩:=H2.out.2.resolve_left ae;have e10:=hat1 t x hx;have e10:=aw HB.out e10;have e20:=hat2 t x hx;have e20:=aw HB.out e20;clear hat1 hat2 hx
    have HBD:=hid (fun (n : Nat) => (show Below w.heap.size w (wr.drewN n) from lG HB.out (aP.drewN (fun _ => False) _ n) HB.out.size (fun _ x => x.elim)))
    have hxx : (x != x) = false:=ar;exact sA
   ·have hlt' : ¬ (t : Int) < (n : Int):=ae;go_wp2_with fail;go_ret;exact ⟨rfl,HB.out⟩
 ) : P:=h
theorem Fw {P : Prop} (h : P:=by
  replace hSw:=(⟨HWx.out _ B6.out,HWy.out _ B6.out⟩ : w6.cell? ⟨A,1,none⟩ = some (.string x) ∧ w6.cell? ⟨A,2,none⟩ = some (.string y))
  clear hb6 ho6
  refine hK.out _ _ hSw (fun _ => ?_)
  clear hK K;refine tkD (i:=10) (d:=some 22) rfl ?_ (hS:=aG);(try simp only [Act.put,sIB,sC0,sCs]);refine ryQ (rs:=[12]) ?_
  refine rcQ (i:=12) rfl (fun K hK => ?_) rN
  have cX0 : w6.cell? ⟨X,0,none⟩ = some (.int .i64 0):=aj HXB.out;have cX1 : w6.cell? ⟨X,1,none⟩ = some (.slice none 0 0):=aj HXB.out;have fX0 : w6.frozen? ⟨X,0,none⟩ = false:=aK HXB.out;have fX1 : w6.frozen? ⟨X,1,none⟩ = false:=aK HXB.out;go_simp
  have HST:=hid (fun u v => pj B6.out HXB.out hXg u v)
  clear hSw
  refine hK.out _ _ ⟨HWx.out _ (HST.out _ _).1,HWy.out _ (HST.out _ _).1⟩ (fun hSw => ?_)
  clear hK K;refine wpAnyH_done ai ?_ _;go_wp2_with fail
  go_meet
  exact ⟨X,rfl,hid ⟨(HST.out _ _).1,_,(HST.out _ _).2.1,qx O5.out (HST.out _ _).2.2 HXB.out aq⟩⟩
 ) : P:=h
theorem FU {P : Prop} (h : P:=by
  replace hSw:=(⟨HWx.out _ B6.out,HWy.out _ B6.out⟩ : w6.cell? ⟨A,1,none⟩ = some (.string x) ∧ w6.cell? ⟨A,2,none⟩ = some (.string y))
  clear hb6
  refine hK.out _ _ hSw (fun _ => ?_)
  clear hK K;refine tkD (i:=9) (d:=some 21) rfl ?_ (hS:=aG);(try simp only [Act.put,sIB,sC0,sCs]);refine ryQ (rs:=[11]) ?_
  refine rcQ (i:=11) rfl (fun K hK => ?_) rN
  have cX0 : w6.cell? ⟨X,0,none⟩ = some (.string ⟨#[]⟩):=aj HXB.out;have cX1 : w6.cell? ⟨X,1,none⟩ = some (.int .i64 0):=aj HXB.out;have fX0 : w6.frozen? ⟨X,0,none⟩ = false:=aK HXB.out;have fX1 : w6.frozen? ⟨X,1,none⟩ = false:=aK HXB.out;go_simp
  have HST:=hid (fun u v => pj B6.out HXB.out hXg u v)
  clear hSw
  refine hK.out _ _ ⟨HWx.out _ (HST.out _ _).1,HWy.out _ (HST.out _ _).1⟩ (fun hSw => ?_)
  clear hK K;refine wpAnyH_done ai ?_ _;go_wp2_with fail
  go_meet
  exact ⟨X,rfl,hid ⟨(HST.out _ _).1,(HST.out _ _).2.1⟩⟩
 ) : P:=h
theorem yH {P : Prop} (h : P:=by
  rcases hst with ⟨rfl,rfl⟩ | ⟨fr,rfl,rfl,hfk,hk2⟩
  ·as_aux_lemma =>
    go_wp2_with fail
    exact ⟨⟨xs,none,k + 1,bZ,ae,.inl ⟨rfl,rfl⟩,HS,HB,hid (by rw [← Hp hkL HE.out]; exact HQ.out)⟩,b9⟩
  ·as_aux_lemma =>
    have hf0 : (0 : Int) ≤ (fr : Int):=ae;have hfk1 : (fr : Int) ≤ (k : Int):=ae
    go_wp2_with (at_builtin; (refine KH _ rfl (.tmp 40) (.tmp 45) rfl w.heap.size _ xs (s.extract fr k) wr.heap.size rfl (HS.out.alloc _) rfl ar t6 jk ?_; intro v5 w5 hown5 hb5; have HS5:=hid hown5; have HB5:=hid ((HB.out.alloc HB.out.size _).trans hb5); clear hown5 hb5))
    exact ⟨⟨xs ++ [s.extract fr k],none,k + 1,bZ,ae,.inl ⟨rfl,rfl⟩,HS5,HB5,hid (by have h1:=HQ.out; rw [Dp hkL HE.out] at h1; rw [sL,List.append_assoc]; exact h1)⟩,b9⟩
 ) : P:=h
theorem GK {P : Prop} (h : P:=by
  generalize dh ws.tail = jw at *;clear h hw hE hps h1 q1 d1 k1 e1 e ej hlen hj
  have hne : (rdE jw == 0) = false:=by simpa using h3
  clear h3
  go_enter Tryz.func109,Tryz.ntmps109
  go_wp2_with fail;refine HO.out.mono ?_;rintro e w1' ⟨rfl,hw1⟩;have hw2:=hw1.symm;subst hw2;go_wp2_with fail;refine HJ.out.mono ?_;rintro e w2 ⟨rfl,hb2⟩;have B2:=hid hb2;clear hb2;go_wp2_with fail;refine (HS.out _ B2.out).mono ?_;rintro e w3 ⟨rfl,hb3⟩;have B3:=hid (B2.out.trans (hb3.mono B2.out.size));clear hb3;go_wp2_with fail;have B4:=hid (B3.out.trans ((ag w3 (aX (rdP jw) (rdR jw))).mono B3.out.size));have HM:=hid (fq (HQ0.out.later B4.out));clear HS HJ HO;refine HM.out.mono ?_;rintro e w1'' ⟨rfl,hw1⟩;have hw2:=hw1.symm;subst hw2;exact ⟨rfl,HK0.out.trans (KR.later B4.out),rfl⟩
 ) : P:=h
theorem tQ {P : Prop} (h : P:=by
  rw [HIK.out] at PX;have z6:=hid (HZC.out _ BN.out _ hg6);clear ho6 hg6 hgb6
  refine hK.out _ _ trivial (fun _ => ?_)
  clear hK K;refine tkD (i:=8) (d:=some 77) rfl ?_;(try simp only [Act.put,sIB,sC0,sCs]);refine tkD (i:=9) (d:=some 78) rfl ?_;(try simp only [Act.put,sIB,sC0,sCs]);refine ryQ (rs:=[10]) ?_
  refine rcQ (i:=10) rfl (fun K hK => ?_) rN
  have c16 : w6.cell? ⟨fb,k * 3 + 2,none⟩ = some (.slice ca cn cc):=z6.out.1;have f16 : w6.frozen? ⟨fb,k * 3 + 2,none⟩ = false:=z6.out.2;go_simp
  refine hK.out _ _ trivial (fun _ => ?_)
  clear hK K;refine wpAnyH_done ai ?_ _;go_end0;exact ⟨(HK0.out.trans (KR.later BX.out)).trans PX.out.2,rfl,_,PX.out.1,qu⟩
 ) : P:=h
theorem tR {P : Prop} (h : P:=by
  have z6:=hid (bV ((Q1.out.later BN.out).blk) (Q1.out).low ((Q1.out.later BN.out).rg) hg6);clear ho6 hg6
  refine hK.out _ _ trivial (fun _ => ?_)
  clear hK K;refine tkQ (i:=9) rfl ?_;(try simp only [Act.put,sIB,sC0,sCs]);refine tkQ (i:=10) rfl ?_;(try simp only [Act.put,sIB,sC0,sCs]);refine tkQ (i:=11) rfl ?_;(try simp only [Act.put,sIB,sC0,sCs]);refine ryQ (rs:=[12]) ?_
  refine rcQ (i:=12) rfl (fun K hK => ?_) rN
  have c16 : w6.cell? ⟨R,3,none⟩ = some (.slice m.ga m.gn m.gc):=aj z6.out;have f16 : w6.frozen? ⟨R,3,none⟩ = false:=aK z6.out;go_simp
  refine hK.out _ _ trivial (fun _ => ?_)
  clear hK K;refine wpAnyH_done ai ?_ _;go_end0;exact ⟨(HK0.out.trans KX.out).trans PX.out.2,rfl,_,PX.out.1,gY⟩
 ) : P:=h
theorem IH {P : Prop} (h : P:=by
  obtain ⟨d1,_⟩:=hk3 _ ar _ c1;obtain ⟨d2,e2⟩:=hk3 _ ar _ c2;obtain ⟨d3,_⟩:=hk3 _ ar _ c3;rw [f2] at e2;have k5 : (k : Int) + 1 ≤ s.size:=ae
  gi_wp2_with fail
  go_roundw
  case rel =>
   refine ⟨s.extract (k + 1) s.size,?_,?_,?_,?_,hJ _ _ _ hJ3,?_⟩
   ·rw [World.cell?_setCell_other _ _ _ _ ar]; exact d1
   ·exact World.cell?_setCell_same' _ _ _ (by rw [d2]; rfl)
   ·rw [World.frozen?_setCell]; exact e2
   ·rw [World.cell?_setCell_other _ _ _ _ ar]; exact d3
   ·simp; omega
  case measure =>
   rw [show qp w' ⟨b2,0,none⟩ = s by simp [qp,c2]]
   rw [qp,World.cell?_setCell_same' _ _ _ (by rw [d2]; rfl)]
   simp
   omega
 ) : P:=h
theorem Gx {P : Prop} (h : P:=by
  go_wp2_with fail;refine (cY R _ _ _ w c0).mono ?_;rintro e w1 ⟨rfl,rfl⟩;go_wp2_with fail;refine hask.mono ?_;rintro e w2 ⟨rfl,b2⟩;have B2:=hid b2;clear b2 hask hK c0;go_wp2_with fail;refine (HU.out _).mono ?_;rintro e w3 ⟨B,rfl,s3,b3⟩;have B3:=hid (B2.out.trans (b3.mono B2.out.size));have S3:=hid s3;clear s3 b3 HU;go_wp2_with fail;refine (rV R g cap bs _ _ _ _ w3 (HW.out.later B3.out) S3.out ae ae).mono ?_;rintro e w4 ⟨rfl,g',cap',hw4,hs4⟩;have W4:=hid hw4;have S4:=hid ((Stp.of_below B3.out).trans hs4);clear hw4 hs4;go_wp2_with fail;go_ret;exact ⟨rfl,g',cap',W4.out,S4.out⟩
 ) : P:=h
theorem IL {P : Prop} (h : P:=by
  clear hwd hjz;have hcw:=HWC.out _ HWB.out
  go_wp2_with (at_builtin; (refine app8 _ rfl (.tmp 82) (.tmp 86) rfl w5.heap.size _ _ (ba wd) rfl rfl HBy.out (by have h1:=HLB.out; have h2:=HBJ.out; rw [HJ.out] at h2; simp only [List.length_append] at h2 ⊢; show _ + wd.length ≤ _; omega) HB.out.size ?_; intro vA wA hown hb hk; replace HRT:=hid (HRT.out.app HBy.out hk); replace HBy:=hid hown; replace HB:=hid (HB.out.trans hb); clear hown hb hk hcw))
  exact ⟨⟨j + 1,hjl,bZ,hid (by rw [HJ.out,← List.append_assoc]; exact HBy.out),HB,HRT⟩,b9⟩
 ) : P:=h
theorem EG {P : Prop} (h : P:=by
  go_simp
  refine hK.out _ _ trivial (fun _ => ?_)
  clear hK K;refine ryQ (rs:=[6]) ?_
  refine rcQ (i:=6) rfl (fun K hK => ?_) rN
  go_simp;refine (HI1.out _ B1.out).mono ?_;rintro e w5 ⟨rfl,hb5⟩;have B5:=hid (B1.out.trans (hb5.mono B1.out.size));clear hb5
  refine hK.out _ _ trivial (fun _ => ?_)
  clear hK K;refine ryQ (rs:=[11]) ?_
  refine rcQ (i:=11) rfl (fun K hK => ?_) rN
  go_simp;refine (HI2.out _ B5.out).mono ?_;rintro e w6 ⟨rfl,hb6⟩;exact ⟨rfl,HK0.out.trans (KR.later (B5.out.trans (hb6.mono B5.out.size))),rfl⟩
 ) : P:=h
theorem GZ {P : Prop} (h : P:=by
  cases st with
  | none => exact ⟨h.1,Nat.le_trans h.2 (Nat.min_le_right _ _)⟩
  | some a =>
   have ha:=hs a rfl
   refine ⟨fun x hx => ?_,?_⟩
   ·simp only [Lib.closeSpans,List.mem_append,List.mem_singleton] at hx
    rcases hx with hx | rfl
    ·exact h.1 x hx
    ·exact ⟨ha.2,Nat.le_refl _⟩
   ·have:=h.2
    simp only [Lib.closeSpans,List.map_append,List.sum_append,List.map_cons,List.map_nil,List.sum_cons,List.sum_nil,Option.getD_some] at this ⊢
    omega
 ) : P:=h
theorem Em {P : Prop} (h : P:=by
  induction r with
  | nil => rfl
  | cons x r ih =>
   have : Lib.joinTail [32] ((x :: r).map (·.data.toList)) = ([32] ++ x.data.toList) ++ Lib.joinTail [32] (r.map (·.data.toList)):=rfl
   rw [this,List.length_append,ih,List.length_append,List.map_cons,List.sum_cons,List.length_cons];have e : x.data.toList.length = x.size:=Array.length_toList;rw [e]
   simp only [List.length_cons,List.length_nil]
   omega
 ) : P:=h
theorem Fx {P : Prop} (h : P:=by
  unfold aI
  show (aV (fe m)).map _ = _
  rw [rI]
  have e1 : (gu m).flatMap (fun b => b.data.toList ++ [10]) = ((gu m).map (·.data.toList)).flatMap (fun a => a ++ [10]):=by rw [List.flatMap_map]
  rw [e1,nD _ (fun a ha => by obtain ⟨b,hb,rfl⟩:=List.mem_map.1 ha; exact MV m h b hb),List.map_append,List.map_map]
  congr 1
  exact List.map_id _
 ) : P:=h
theorem GU {P : Prop} (h : P:=by
  go_wp2_with fail;refine bodyPost_ret (v:=.agg #[.int .u8 c,.int .i64 a,.slice la ln lc]) ?_ rfl ⟨rfl,g',cap',?_,?_⟩
  ·rw [kP rfl];go_simp
  ·exact ((W5.out.set (b:=w.heap.size + 1) ae n1).set (b:=w.heap.size + 1) ae n1).set (b:=w.heap.size + 1) ae n1
  ·exact ((S5.out.set ae).set ae).set ae
 ) : P:=h
theorem IR {P : Prop} (h : P:=by
  have g1:=World.grownBy_alloc w (.deferred (some [])) none;have g2:=World.grownBy_alloc (w.alloc (.deferred (some []))) (.loop (record .ready none)) none
  have e1:=cell_kept hv g1 (fun r e => cJ)
  exact ⟨cell_kept e1 g2 (fun r e => cJ),(frozen_kept e1 g2 (fun r e => cJ)).trans (frozen_kept hv g1 (fun r e => cJ))⟩
 ) : P:=h
theorem D8 {P : Prop} (h : P:=by
  have S3:=hid s3;clear s3 b3 HU;go_wp2_with fail;refine (rV R g cap bs _ _ _ _ w3 (HW.out.later B3.out) S3.out ae ae).mono ?_;rintro e w4 ⟨rfl,g',cap',hw4,hs4⟩;have W4:=hid hw4;have S4:=hid ((Stp.of_below B3.out).trans hs4);clear hw4 hs4;go_wp2_with fail;go_ret;exact ⟨rfl,g',cap',W4.out,S4.out⟩
 ) : P:=h
theorem xB {P : Prop} (h : P:=by
  obtain ⟨hz,h1,h2,h3,ha⟩:=h;refine ⟨hz,h1,h2,h3,?_⟩
  rcases ha with ha | ⟨b,off,e,hc⟩
  ·exact .inl ha
  ·refine .inr ⟨b,off,e,fun j hj => ?_⟩
   have:=hc j hj
   have hlt : b < w.heap.size:=block_lt_of_cell this
   exact (hb.cell (p:=⟨b,off + j,none⟩) (by exact Nat.lt_of_lt_of_le hlt hB)).trans this
 ) : P:=h
theorem Iy {P : Prop} (h : P:=by
  clear ht h h1 he hv
  go_enter Tryz.func171,Tryz.ntmps171
  go_wp2_with fail;refine HP.out.mono ?_;rintro e w1 ⟨N,rfl,_,_,hb1⟩;have B1:=hid hb1;clear hb1;go_wp2_with fail;refine (HM.out _ B1.out).mono ?_;rintro e w3 ⟨rfl,hw⟩;have hw2:=hw.symm;subst hw2;exact ⟨rfl,rfl,B1.out⟩
 ) : P:=h
theorem FK {P : Prop} (h : P:=by
  go_simp
  refine hK.out _ _ trivial (fun _ => ?_)
  clear hK K;refine ryQ (rs:=[10]) ?_
  refine rcQ (i:=10) rfl (fun K hK => ?_) rN
  go_simp;refine (HI.out _ B1.out).mono ?_;rintro e w5 ⟨rfl,hb5⟩;exact ⟨rfl,HK1.out.trans (KR.later (B1.out.trans (hb5.mono B1.out.size))),rfl⟩
 ) : P:=h
theorem Er {P : Prop} (h : P:=by
  unfold iW at hn
  simp only [Bool.and_eq_true,List.all_eq_true,decide_eq_true_eq,Bool.not_eq_true'] at hn
  refine ⟨fun e => ?_,fun c hc => ?_⟩
  ·rw [cg,e] at hn
   simp at hn
  ·have:=hn.1 (c.toNat : Int) (by unfold bE; exact List.mem_map.2 ⟨c,hc,rfl⟩)
   omega
 ) : P:=h
theorem Ev {P : Prop} (h : P:=by
  go_simp
  refine hK.out _ _ trivial (fun _ => ?_)
  clear hK K;refine ryQ (rs:=[6]) ?_
  refine rcQ (i:=6) rfl (fun K hK => ?_) rN
  go_simp;refine (HI1.out _ B1.out).mono ?_;rintro e w5 ⟨rfl,hb5⟩;exact ⟨rfl,HK0.out.trans (KR.later (B1.out.trans (hb5.mono B1.out.size))),rfl⟩
 ) : P:=h
theorem xD {P : Prop} (h : P:=by
  go_wp2
  (try simp only [Exit.inBlock,Exit.then])
  refine bodyPost_ret (v:=.tuple #[.agg #[.string ⟨#[]⟩,.string ⟨#[]⟩],.int .i64 15]) ?_ rfl ⟨by simp [rdP,rdR,rdE,hz],?_⟩
  ·rw [results_cell_tmp rfl];go_simp
  ·exact (HB.out.setCell ar _).setCell ar _
 ) : P:=h
theorem tY {P : Prop} (h : P:=by
  have hm : ((ft,flo,(ca,cn,cc),code) : FuM) ∈ m.fns:=by rw [hfns]; simp
  have e1:=dL (g:=dX) (fun _ => rfl) aq (q1.fo _ hm).code
  have e2 : code.length ≤ psz (pl m):=by unfold psz pl; dsimp only; rw [hfns]; simp [plF]; omega
  dsimp only at e1;omega
 ) : P:=h
theorem lu {P : Prop} (h : P:=by
  go_wp2_with fail;refine HO.out.mono ?_;rintro e w1 ⟨rfl,hw1⟩;have hw2:=hw1.symm;subst hw2;go_wp2_with fail;refine HM.out.mono ?_;rintro e w2 ⟨rfl,hw1⟩;have hw2:=hw1.symm;subst hw2;exact ⟨rfl,KR.set base R 10 w _,rfl⟩
 ) : P:=h
theorem GI {P : Prop} (h : P:=by
  go_enter Tryz.func314,Tryz.ntmps314
  go_wp2;refine bodyPost_ret (v:=.agg #[.int .i64 0,.int .i64 0]) uL rfl ⟨rfl,?_⟩;exact ((Below.refl _ _).alloc (Nat.le_refl _) _).alloc ar _
 ) : P:=h
theorem Eo {P : Prop} (h : P:=by
  refine rdY (rs:=[7]) ?_
  refine AllReadyH.cons rfl (fun K hK => ?_) rN
  go_simp;refine (HSG.out _ hB5.out).mono ?_;rintro e w6 ⟨⟨q,rfl⟩,hk6⟩;exact ⟨rfl,⟨q,rfl⟩,(S4'.out.trans (Stp.of_below hB5.out)).throw hk6⟩
 ) : P:=h
theorem FM {P : Prop} (h : P:=by
  go_wp2_with fail;refine HN.out.mono ?_;rintro e w1 ⟨rfl,g',cap',hw1,hs1⟩;have W1:=hid hw1;have S1:=hid ((Stp.of_below B1.out).trans hs1);clear hw1 hs1 hm hc;go_wp2_with fail;go_ret;exact ⟨rfl,g',cap',W1.out,S1.out⟩
 ) : P:=h
theorem IZ {P : Prop} (h : P:=by
  unfold bL
  split
  ·intro c hc; cases hc
  ·split
   ·intro c hc; simp at hc; subst hc; decide
   ·split
    ·intro c hc; simp at hc; subst hc; decide
    ·intro c hc; simp at hc; rcases hc with rfl | rfl | rfl <;> decide
 ) : P:=h
theorem EI {P : Prop} (h : P:=by
  intro j u hj
  match j,hj with
  | 0,hj => simp [dD] at hj; subst hj; simp [Addr.add,go_sem]
  | 1,hj => simp [dD] at hj; subst hj; simp [Addr.add,go_sem]
  | 2,hj => simp [dD] at hj; subst hj; simp [Addr.add,go_sem]
 ) : P:=h
theorem sQ {P : Prop} (h : P:=by
  intro j u hj
  match j,hj with
  | 0,hj => simp [dW] at hj; subst hj; simp [Addr.add,go_sem]
  | 1,hj => simp [dW] at hj; subst hj; simp [Addr.add,go_sem]
  | 2,hj => simp [dW] at hj; subst hj; simp [Addr.add,go_sem]
 ) : P:=h
theorem r9 {P : Prop} (h : P:=by
  intro j u hj
  match j,hj with
  | 0,hj => simp [dX] at hj; subst hj; simp [Addr.add,go_sem]
  | 1,hj => simp [dX] at hj; subst hj; simp [Addr.add,go_sem]
  | 2,hj => simp [dX] at hj; subst hj; simp [Addr.add,go_sem]
 ) : P:=h
theorem EZ {P : Prop} (h : P:=by
  refine ⟨h.1,h.2.imp id ?_⟩;rintro ⟨b,off,ha,hc⟩
  refine ⟨b,off,ha,fun j x hj => ?_⟩
  have:=hc j x hj
  exact ⟨hk.cell this.1 (hS _ _ _ ha),hk.cell this.2.1 (hS _ _ _ ha),hk.cell this.2.2 (hS _ _ _ ha)⟩
 ) : P:=h
theorem Gt {P : Prop} (h : P:=by
  simp only [List.mem_cons,List.not_mem_nil,or_false] at hy
  rcases hy with rfl | rfl | rfl
  ·rcases hc with h | h <;> (rw [h]; exact bp aq)
  ·cases x.2.1 <;> exact bp aq
  ·exact eB _
 ) : P:=h
theorem nT {P : Prop} (h : P:=by
  obtain rfl : j = n:=ae;have hxs : xs.take j = xs:=List.take_of_length_le ae;go_wp2_with fail;go_ret;refine ⟨aa,ac,ys,rfl,hyl,HY.out,HRW.out,g3,cap3,HAB.out,?_,HST.out⟩;rw [← hxs];exact HWR.out
 ) : P:=h
theorem Iu {P : Prop} (h : P:=by
  go_wp2_with fail;go_ret;refine ⟨?_,HB.out⟩
  have hf : zs.all (fun b => decide (33 ≤ b) && decide (b ≤ 126)) = false:=by
   rw [List.all_eq_false];exact ⟨b,HMEM.out,aL⟩
  rw [HNM.out,hf];rfl
 ) : P:=h
theorem Hz {P : Prop} (h : P:=by
  rw [hXs] at HX5;have HM5:=hid (fq (HQ0.out.later B5.out));go_wp2_with fail;refine HM5.out.mono ?_;rintro e w5' ⟨rfl,hw1⟩;have hw2:=hw1.symm;subst hw2;exact ⟨rfl,HK0.out.trans (KR.later B5.out),rfl⟩
 ) : P:=h
theorem I6 {P : Prop} (h : P:=by
  split at h
  ·simp at h; simp [h]
  ·rename_i q r hq
   simp only [List.mem_cons] at h
   rcases h with rfl | h
   ·have:=ih q (by rw [hq]; simp); simp; omega
   ·have:=ih p (by rw [hq]; simp [h]); simp; omega
 ) : P:=h
theorem Ih {P : Prop} (h : P:=by
  go_wp2_with fail;refine (cY R _ _ _ w c0).mono ?_;rintro e w1 ⟨rfl,rfl⟩;go_wp2_with fail;refine (rB _ _ _).mono ?_;rintro e w1 ⟨rfl,rfl⟩;exact ⟨rfl,⟨_,rfl⟩,aP.refl _ _⟩
 ) : P:=h
theorem rM {P : Prop} (h : P:=by
  have hh:=hall i y yX
  have e : (xs.take k).take i = xs.take i:=by rw [List.take_take]; congr 1; omega
  (try simp only [List.nil_append,e] at hh);exact hh
 ) : P:=h
theorem yK {P : Prop} (h : P:=by
  go_wp2_with fail;refine (cY R _ _ _ w c0).mono ?_;rintro e w1 ⟨rfl,rfl⟩;go_wp2_with fail;refine hask.mono ?_;rintro e w2 ⟨⟨p,rfl⟩,b2⟩;exact ⟨rfl,⟨p,rfl⟩,bA b2⟩
 ) : P:=h
theorem FO {P : Prop} (h : P:=by
  unfold cj;rw [if_pos ⟨h1,h3⟩]
  have ep : jl (bi (wdx ws 0)).1 ws = some ((bi (wdx ws 0)).1,0,l):=by
   unfold jl
   rw [if_neg (by rw [h4]; decide),if_pos h4,h6]; rfl
  rw [ep];rfl
 ) : P:=h
theorem xM {P : Prop} (h : P:=by
  refine ⟨h.1,h.2.imp id ?_⟩;rintro ⟨b,off,ha,hc⟩
  refine ⟨b,off,ha,fun j x hj => ?_⟩
  have:=hc j x hj
  exact ⟨hk.cell this.1 (hS _ _ _ ha),hk.cell this.2 (hS _ _ _ ha)⟩
 ) : P:=h
theorem FX {P : Prop} (h : P:=by
  have hl:=h.len;have hx : xs[j]? = some (xs[j]'(ae)):=aD _
  have:=hc j _ hx 0 _ rfl
  rw [Nat.mul_one] at this;rw [List.getD_eq_getElem?_getD,hx];exact this
 ) : P:=h
theorem FP {P : Prop} (h : P:=by
  go_enter Tryz.func193,Tryz.ntmps193
  go_wp2_with fail
  refine (eF (by first | rfl | simp_all)).mono ?_
  rintro e w1 ⟨rfl,rfl⟩;exact ⟨rfl,⟨_,rfl⟩,Below.refl _ _⟩
 ) : P:=h
theorem yJ {P : Prop} (h : P:=by
  go_wp2_with fail;refine HE.out.mono ?_;rintro e w1 ⟨rfl,hk⟩;have HB1:=hid (HB.out.trans (hk.mono HB.out.size));clear hk;go_wp2_with fail;go_ret;exact ⟨rfl,HB1.out⟩
 ) : P:=h
theorem ID {P : Prop} (h : P:=by
  refine ⟨h.1,h.2.1,h.2.2.1,h.2.2.2.1,h.2.2.2.2.imp id ?_⟩;rintro ⟨b,off,ha,hc⟩
  exact ⟨b,off,ha,fun j hj => hk.cell (hc j hj) (hS _ _ _ (Mc ae ha))⟩
 ) : P:=h
theorem um {P : Prop} (h : P:=by
  have e1:=dL (g:=dW) (fun _ => rfl) aq h.rg
  have e2 : m.globals.length ≤ psz (pl m):=rT;omega
 ) : P:=h
theorem Hw {P : Prop} (h : P:=by
  go_ret2;refine ⟨_,rfl,?_,eQ B3.out B5.out⟩;have h:=mX O5.out B3.out.size
  rw [HE2.out,show ([c] ++ U).length = 1 + U.length by simp; omega]
  exact h
 ) : P:=h
theorem Ia {P : Prop} (h : P:=by
  have e1:=dL (g:=dD) (fun _ => rfl) aq h.rf
  have e2 : m.fns.length ≤ psz (pl m):=rT;omega
 ) : P:=h
theorem EB {P : Prop} (h : P:=by
  go_wp2_with fail;refine (HI1.out _ BX0.out).mono ?_;rintro e w5 ⟨rfl,hb5⟩;exact ⟨rfl,HK0.out.trans (KR.later (BX0.out.trans (hb5.mono BX0.out.size))),rfl⟩
 ) : P:=h
theorem Hy {P : Prop} (h : P:=by
  unfold lR;rw [bS]
  simp only [List.map_cons,List.map_nil,List.sum_cons,List.sum_nil,List.length_cons,List.length_nil]
  have : dz.size = 6:=rfl;omega
 ) : P:=h
theorem ui {P : Prop} (h : P:=by
  exact fun y hy => ⟨bD (bj (hq.fo y hy).code hu hg aq) hR,fun z hz => bD (bj ((hq.fo y hy).lab z hz) hu hg aq) hR⟩
 ) : P:=h
theorem GR {P : Prop} (h : P:=by
  go_wp2_with fail;refine (HI1.out _ B5.out).mono ?_;rintro e w7 ⟨rfl,hb7⟩;exact ⟨rfl,HK0.out.trans (KR.later (B5.out.trans (hb7.mono B5.out.size))),rfl⟩
 ) : P:=h
theorem G9 {P : Prop} (h : P:=by
  exact fun r A B row hs hg hr => ⟨hs.1.grown hg (fun q e => (hr q e).2),ownFrom_below (β:=Unit) (Nat.le_refl _) ae () A B row hs.2.1 hg hr,hs.2.2⟩
 ) : P:=h
theorem Ew {P : Prop} (h : P:=by
  exact fun j A B row hs hg hr => ⟨hs.1,hs.2.1.grown hg (fun q e => (hr q e).2),ownFrom_below (β:=Unit) (Nat.le_refl _) ae () A B row hs.2.2 hg hr⟩
 ) : P:=h
theorem Hs {P : Prop} (h : P:=by
  exact ⟨⟨j + 1,hjl,bZ,hid (by rw [HJ.out]; have h1:=HBy.out; simp only [List.append_assoc] at h1 ⊢; exact h1),HB,HRT⟩,b9⟩
 ) : P:=h
theorem zm {P : Prop} (h : P:=by
  simp only [List.mem_cons,List.not_mem_nil,or_false] at hy
  rcases hy with rfl | rfl | rfl
  ·exact uX hp
  ·exact bp aq
  ·exact uX hr
 ) : P:=h
theorem G8 {P : Prop} (h : P:=by
  go_simp;refine (HI1.out _ B1.out).mono ?_;rintro e w5 ⟨rfl,hb5⟩;exact ⟨rfl,HK0.out.trans (KR.later (B1.out.trans (hb5.mono B1.out.size))),rfl⟩
 ) : P:=h
theorem sW {P : Prop} (h : P:=by
  go_simp;refine (HI2.out _ B5.out).mono ?_;rintro e w5 ⟨rfl,hb5⟩;exact ⟨rfl,HK0.out.trans (KR.later (B5.out.trans (hb5.mono B5.out.size))),rfl⟩
 ) : P:=h
theorem Fe {P : Prop} (h : P:=by
  go_simp;refine (HI2.out _ B7.out).mono ?_;rintro e w5 ⟨rfl,hb5⟩;exact ⟨rfl,HK0.out.trans (KR.later (B7.out.trans (hb5.mono B7.out.size))),rfl⟩
 ) : P:=h
theorem Fq {P : Prop} (h : P:=by
  refine ⟨h.1,?_⟩
  rcases h.2 with h0 | ⟨g,cp,cur,rfl,h2,h3,h4⟩
  ·exact .inl h0
  ·exact .inr ⟨g,cp,cur,rfl,h2,by rw [hk g rfl]; exact h3,h4⟩
 ) : P:=h
theorem oa {P : Prop} (h : P:=by
  go_wp2_with fail;refine HC1.out.mono ?_;rintro e w5 ⟨⟨p,rfl⟩,hk5⟩;exact ⟨rfl,⟨p,rfl⟩,(HST.out.trans (Stp.of_below BN.out)).throw hk5⟩
 ) : P:=h
theorem FE {P : Prop} (h : P:=by
  go_wp2_with fail
  exact ⟨⟨i + 1,ar,ae,hB2.out,hR2.out,by rw [show 7 - (i + 1) = n by omega]; exact hV2.out⟩,b9⟩
 ) : P:=h
theorem EP {P : Prop} (h : P:=by
  simp only at hcx
  unfold dm at hcx
  split at hcx
  ·cases hcx
  ·split at hcx
   ·cases hcx
   ·split at hcx
    ·cases hcx
    ·rw [hok.1,hok.2]; omega
 ) : P:=h
theorem uo {P : Prop} (h : P:=by
  rintro e w' ⟨aa,ac,ys,he,hyl,hys,hrow,g',cap',hab,hw',hs'⟩;exact ⟨aa,ac,ys,he,hyl,hys,g',cap',uq,hs'⟩
 ) : P:=h
theorem Gh {P : Prop} (h : P:=by
  rintro e w5 ⟨rfl,hw5⟩;have hw6:=hw5.symm;subst hw6;refine ⟨rfl,?_⟩;rw [HNo.out];exact ⟨HFb.out.trans (B1.out.mono HFb.out.size),rfl⟩
 ) : P:=h
theorem EC {P : Prop} (h : P:=by
  exact ⟨none,_,run_endLoop hb.1 (by simp [record]),hdone D _ (Nat.le_refl _) (hI.putObj _ hi jr hb.1 rfl) (turn (rc':=_) hb).2⟩
 ) : P:=h
theorem IU {P : Prop} (h : P:=by
  have e1:=dL (g:=ir) (fun _ => rfl) aq h.rh
  have e2 : m.hosts.length ≤ psz (pl m):=by unfold psz pl; dsimp only; omega
  omega
 ) : P:=h
theorem sf {P : Prop} (h : P:=by
  have e1:=dL (g:=mM) (fun _ => rfl) aq h.rt
  have e2 : m.types.length ≤ psz (pl m):=by unfold psz pl; dsimp only; omega
  omega
 ) : P:=h
theorem sH {P : Prop} (h : P:=by
  rw [(((Below.refl _ w).alloc (Nat.le_refl _) _).alloc bM _ |>.alloc bM _).cell (by exact hRl)]; exact h.c0
 ) : P:=h
theorem gN {P : Prop} (h : P:=by
  go_wp2_with fail;refine HO.out.mono ?_;rintro e w1 ⟨rfl,hw1⟩;have hw2:=hw1.symm;subst hw2;exact ⟨rfl,KR.later (Below.refl _ _),rfl⟩
 ) : P:=h
theorem zU {P : Prop} (h : P:=by
  obtain ⟨cur,h,_⟩:=h.block
  rcases Nat.lt_or_ge B w.heap.size with hl | hl
  ·exact hl
  ·rw [Array.getElem?_eq_none hl] at h; cases h
 ) : P:=h
theorem Al {P : Prop} (h : P:=by
  go_wp2_with fail;refine (cr ar).mono ?_;rintro e w1 ⟨rfl,rfl⟩;go_wp2_with fail;go_end0;exact ⟨rfl,Below.refl _ _⟩
 ) : P:=h
theorem Ca {P : Prop} (h : P:=by
  have em : ((wdx ws 2).toList == wk.toList) = false:=by rw [h3,fp]; rfl
  simp only [Option.bind_some,eg,em,Option.map_some]
 ) : P:=h
theorem ki {P : Prop} (h : P:=by
  refine ⟨k + 1,ae,ar,?_⟩;rw [HTk.out,List.flatMap_append,List.flatMap_singleton,← List.append_assoc];exact P5.out
 ) : P:=h
theorem zS {P : Prop} (h : P:=by
  refine ⟨h.1,?_⟩
  rcases h.2 with ⟨h,_⟩ | ⟨g,cp,cur,h1,_,h3⟩
  ·cases h
  ·exact .inr ⟨g,cp,cur,h1,Nat.zero_le _,h3⟩
 ) : P:=h
theorem A1 {P : Prop} (h : P:=by
  have em : ((wdx ws 2).toList == wk.toList) = true:=by rw [h3,fp]; rfl
  simp only [Option.bind_some,eg,em,Option.map_some]
 ) : P:=h
theorem Ae {P : Prop} (h : P:=by
  go_wp2_with fail;refine (cr rfl).mono ?_;rintro e w1 ⟨rfl,rfl⟩;go_wp2_with fail;go_end0;exact ⟨rfl,Below.refl _ _⟩
 ) : P:=h
theorem m8 {P : Prop} (h : P:=by
  go_wp2_with fail;refine HC.out.mono ?_;rintro e w2 ⟨⟨q,rfl⟩,hk2⟩;exact ⟨rfl,⟨q,rfl⟩,(bA BW.out).trans hk2⟩
 ) : P:=h
theorem Bn {P : Prop} (h : P:=by
  rcases List.mem_append.1 hc with hc | hc
  ·exact h w ar c hc
  ·exact OC b hb ws (fun x hx => h x cP) c hc
 ) : P:=h
theorem A0 {P : Prop} (h : P:=by
  rw [World.cell?_alloc_past _ _ _ (show w.heap.size < wr.heap.size by omega),← hwr,World.cell?_alloc_past _ _ _ hx]; exact x1
 ) : P:=h
theorem BI {P : Prop} (h : P:=by
  go_wp2_with fail;refine HN.out.mono ?_;rintro e w1 ⟨⟨p,rfl⟩,hk⟩;exact ⟨rfl,⟨p,rfl⟩,(bA B1.out).trans hk⟩
 ) : P:=h
theorem AE {P : Prop} (h : P:=by
  go_wp2_with fail;refine HT.out.mono ?_;rintro e w2 ⟨⟨q,rfl⟩,hk⟩;exact ⟨rfl,⟨q,rfl⟩,(bA BW.out).trans hk⟩
 ) : P:=h
theorem oO {P : Prop} (h : P:=by
  have e2 : m.fns.length ≤ psz (pl m):=by unfold psz pl; simp only [List.length_map]; omega
  rw [hfns] at e2
  simp at e2
  omega
 ) : P:=h
theorem zT {P : Prop} (h : P:=by
  go_enter Tryz.func168,Tryz.ntmps168
  go_wp2_with fail;refine HM.out.mono ?_;rintro e w1 ⟨rfl,hw⟩;exact ⟨rfl,rfl,hw⟩
 ) : P:=h
theorem uI {P : Prop} (h : P:=by
  go_enter Tryz.func315,Tryz.ntmps315
  go_wp2;go_ret
  exact ⟨by rw [HR.out]; rfl,(Below.refl _ _).alloc (Nat.le_refl _) _⟩
 ) : P:=h
theorem AR {P : Prop} (h : P:=by
  have eg : gvV (wdx ws 1) v = none:=by unfold gvV; rw [if_pos h5,if_neg h6]
  simp only [Option.bind_some,eg,Option.map_none]
 ) : P:=h
theorem AO {P : Prop} (h : P:=by
  have eg : gvV (wdx ws 1) v = none:=by unfold gvV; rw [if_neg h5,if_neg h6]
  simp only [Option.bind_some,eg,Option.map_none]
 ) : P:=h
theorem sX {P : Prop} (h : P:=by
  simp only [List.mem_cons,List.not_mem_nil,or_false] at hy
  rcases hy with rfl | rfl
  ·exact eB _
  ·exact Kk hl hr
 ) : P:=h
theorem dU {P : Prop} (h : P:=by
  rcases (HM.out.kept HST.out.k (fun b off c h => by have:=HNE.out b off c h; simp; omega)).2 with h0 | h
  ·omega
  ·exact h
 ) : P:=h
theorem zR {P : Prop} (h : P:=by
  simp only [List.mem_cons,List.not_mem_nil,or_false] at hy
  rcases hy with rfl | rfl
  ·exact eB _
  ·exact Js hlo
 ) : P:=h
theorem tH {P : Prop} (h : P:=by
  rintro ⟨b,off,ha,hc⟩
  exact ⟨b,off,ha,fun j x hj => ⟨hc j x hj 0 _ rfl,hc j x hj 1 _ rfl,hc j x hj 2 _ rfl⟩⟩
 ) : P:=h
theorem Cy {P : Prop} (h : P:=by
  have:=World.alloc_heap_new (w.alloc (.deferred (some []))) (.loop (record .ready none))
  rwa [World.size_alloc] at this
 ) : P:=h
theorem AJ {P : Prop} (h : P:=by
  simp only [List.mem_cons,List.not_mem_nil,or_false] at hy
  rcases hy with rfl | rfl
  ·exact ME hn
  ·exact eB _
 ) : P:=h
theorem AC {P : Prop} (h : P:=by
  go_wp2_with fail;refine HX.out.mono ?_;rintro e w3 ⟨⟨q,rfl⟩,hk⟩;exact ⟨rfl,⟨q,rfl⟩,S2.out.throw hk⟩
 ) : P:=h
theorem Ct {P : Prop} (h : P:=by
  unfold Lib.indexByte
  split
  ·right; simp
  ·split
   ·exact .inl rfl
   ·rename_i h
    simp at h
    right; simp; omega
 ) : P:=h
theorem Ba {P : Prop} (h : P:=by
  rw [ex] at h3; rw [ey] at h4
  unfold iL; rw [if_pos ⟨h1,dN⟩,ex,ey]; rw [h3,h4]; rfl
 ) : P:=h
theorem Cz {P : Prop} (h : P:=by
  rw [ex] at h3; rw [ey] at h4
  unfold iF; rw [if_pos ⟨h1,dN⟩,ex,ey]; rw [h3,h4]; rfl
 ) : P:=h
theorem zW {P : Prop} (h : P:=by
  rcases Nat.lt_or_ge b w.heap.size with hx | hx
  ·exact hx
  ·rw [Array.getElem?_eq_none hx] at h; cases h
 ) : P:=h
theorem Bt {P : Prop} (h : P:=by
  simp only [List.map_cons,List.map_nil,List.sum_cons,List.sum_nil,List.length_cons,List.length_nil]
  omega
 ) : P:=h
theorem jo {P : Prop} (h : P:=by
  go_wp2_with fail;refine HC.out.mono ?_;rintro e w2 ⟨⟨p,rfl⟩,hk⟩;exact ⟨rfl,⟨p,rfl⟩,hk⟩
 ) : P:=h
theorem BZ {P : Prop} (h : P:=by
  clear hS' yd y0 y1 y2 y3 y4 y5 y6 y7 y8;go_wp2_with fail;go_ret
  exact ⟨by rw [HV.out]; rfl,B3.out⟩
 ) : P:=h
theorem rZ {P : Prop} (h : P:=by
  simp only [List.mem_cons,List.not_mem_nil,or_false] at hy
  rcases hy with rfl | rfl <;> exact eB _
 ) : P:=h
theorem uG {P : Prop} (h : P:=by
  rintro ⟨b,off,ha,hc⟩
  exact ⟨b,off,ha,fun j x hj => ⟨hc j x hj 0 _ rfl,hc j x hj 1 _ rfl⟩⟩
 ) : P:=h
theorem Ak {P : Prop} (h : P:=by
  rcases Nat.lt_or_ge b w1.heap.size with h' | h'
  ·exact h'
  ·simp [Array.getElem?_eq_none h'] at hbk
 ) : P:=h
theorem Co {P : Prop} (h : P:=by
  by_cases h0 : 0 ≤ x
  ·rw [cV x h0 ae]; omega
  ·rw [vv x hx0 ae]; omega
 ) : P:=h
theorem AL {P : Prop} (h : P:=by
  go_wp2_with fail;go_end0;exact ⟨k1.out.trans (KR.later HB.out),rfl,m,q1.out.later HB.out,rfl⟩
 ) : P:=h
theorem uu {P : Prop} (h : P:=by
  rintro e' w' ⟨he',g',cap',hw',hs'⟩;refine ⟨x,he',rfl,g',cap',?_,hs'⟩;rw [henc];exact hw'
 ) : P:=h
theorem sJ {P : Prop} (h : P:=by
  exact ((W5.out.set (b:=w.heap.size + 1) ae n1).set (b:=w.heap.size + 1) ae n1)
 ) : P:=h
theorem oW {P : Prop} (h : P:=by
  have hlt' : ¬ (t : Int) < (n : Int):=ae;go_wp2_with fail;go_ret;exact ⟨rfl,HB.out⟩
 ) : P:=h
theorem Az {P : Prop} (h : P:=by
  go_enter Tryz.func331,Tryz.ntmps331
  go_wp2;go_ret
  exact ⟨by rw [← HF.out]; rfl,rfl⟩
 ) : P:=h
theorem z8 {P : Prop} (h : P:=by
  rw [ey] at h3
  unfold jH; rw [if_pos ⟨h1,dN⟩,ey]; rw [h3]; rfl
 ) : P:=h
theorem Ci {P : Prop} (h : P:=by
  simp only [List.mem_cons] at h
  rcases h with rfl | h
  ·simp
  ·have:=ih p h; simp; omega
 ) : P:=h
theorem s8 {P : Prop} (h : P:=by
  go_wp2_with fail;refine HM.out.mono ?_;rintro e w1 ⟨rfl,hw⟩;exact ⟨rfl,rfl,hw⟩
 ) : P:=h
theorem mQ {P : Prop} (h : P:=by
  rw [List.length_take] at this;have e1 : min j xs.length = j:=ae
  rwa [e1] at this
 ) : P:=h
theorem uk {P : Prop} (h : P:=by
  go_wp2_with fail;exact ⟨⟨t + 1,ae,bZ,HB5⟩,b9⟩
 ) : P:=h
theorem Bh {P : Prop} (h : P:=by
  rintro e w' ⟨rfl,k,os,rfl⟩;exact ⟨rfl,Lib.below_grow _ _ (Nat.le_refl _) _ _⟩
 ) : P:=h
theorem AQ {P : Prop} (h : P:=by
  rw [List.length_take] at this;have e : min j xs.length = j:=ae
  rwa [e] at this
 ) : P:=h
theorem A2 {P : Prop} (h : P:=by
  rw [List.getD_eq_getElem?_getD,aD ae]
  simpa using this
 ) : P:=h
theorem AP {P : Prop} (h : P:=by
  go_ret
  exact ⟨congrArg (fun x => Ending.returned (.int .i64 x)) HS.out,B1.out⟩
 ) : P:=h
theorem Ad {P : Prop} (h : P:=by
  exact kJ l none (fun x hx => h x cP) (fun t e => cJ) w hw
 ) : P:=h
theorem Cr {P : Prop} (h : P:=by
  rintro e w' ⟨rfl,rfl⟩;go_wp2_with fail;go_end0;exact ⟨rfl,Below.refl _ _⟩
 ) : P:=h
theorem AB {P : Prop} (h : P:=by
  rw [(ag (w.alloc _) _).block _ ar];exact (MapKept.heap_alloc w _).1
 ) : P:=h
theorem tS {P : Prop} (h : P:=by
  rintro e' w' ⟨y,he',hy,g',cap',hw',hs'⟩;exact ⟨y,he',hy,g',cap',hw',hs'⟩
 ) : P:=h
theorem oZ {P : Prop} (h : P:=by
  go_enter Tryz.func118,Tryz.ntmps118
  go_wp2_with fail;go_ret;exact ⟨rfl,rfl⟩
 ) : P:=h
theorem Ai {P : Prop} (h : P:=by
  unfold jl
  rw [if_neg h4,if_neg h5,if_pos (by rw [hw.len]; exact h6),h7]; rfl
 ) : P:=h
theorem Bu {P : Prop} (h : P:=by
  unfold gI;rw [mh _ hk]
  show (if _ then _ else _) = _
  rw [if_pos h];rfl
 ) : P:=h
theorem z7 {P : Prop} (h : P:=by
  rcases List.mem_append.1 hz with hz | hz
  ·exact hpr z hz
  ·simp at hz; omega
 ) : P:=h
theorem uA {P : Prop} (h : P:=by
  rcases h'.m with rfl | h2
  ·exact h.m
  ·exact .inr (Nat.le_trans h.k.size h2)
 ) : P:=h
theorem Aw {P : Prop} (h : P:=by
  exact (Below.heap_alloc _ _ _ (by simp [D])).trans (World.alloc_heap_new w _)
 ) : P:=h
theorem sZ {P : Prop} (h : P:=by
  intro j u hj
  match j,hj with
  | 0,hj => simp at hj; subst hj; simp [Addr.add]
 ) : P:=h
theorem ub {P : Prop} (h : P:=by
  exact ⟨(World.cell?_of_block h5).trans hv,World.frozen?_of_block h5⟩
 ) : P:=h
theorem np {P : Prop} (h : P:=by
  exact fun y hy => bD (bj (hq.dd y hy) hu hg aq) hR
 ) : P:=h
theorem kE {P : Prop} (h : P:=by
  rw [List.flatMap_append,List.flatMap_singleton]; exact bD ho hR
 ) : P:=h
theorem tZ {P : Prop} (h : P:=by
  exact wpAnyH_take hi hc.1.1 hc.1.2 hc.2 hQ (Or.inl ⟨hw,hv⟩) hS h
 ) : P:=h
theorem pc {P : Prop} (h : P:=by
  rintro e w1 ⟨rfl,rfl⟩;exact ⟨rfl,⟨_,rfl⟩,Below.refl _ _⟩
 ) : P:=h
theorem mg {P : Prop} (h : P:=by
  exact ((Below.refl _ _).alloc (Nat.le_refl _) _).alloc ar _
 ) : P:=h
theorem jp {P : Prop} (h : P:=by
  have:=Nat.le_trans hq.bw hg.size; simpa [World.setCell] using this
 ) : P:=h
theorem tM {P : Prop} (h : P:=by
  simp only at hc
  unfold fN at hc
  split at hc
  ·cases hc
  ·omega
 ) : P:=h
theorem tT {P : Prop} (h : P:=by
  rw [hv]
  simp [nj,Lib.joinTail,lK,jW,fy]
 ) : P:=h
theorem uF {P : Prop} (h : P:=by
  intro l x W K hK;have hsem:=@Oper.semAt_some
  gi_wp2
  exact hK
 ) : P:=h
theorem mt {P : Prop} (h : P:=by
  exact bD (bj hq.rh hu hg aq) hR
 ) : P:=h
theorem mr {P : Prop} (h : P:=by
  exact bD (bj hq.rg hu hg aq) hR
 ) : P:=h
theorem mB {P : Prop} (h : P:=by
  exact bD (bj hq.rf hu hg aq) hR
 ) : P:=h
theorem mf {P : Prop} (h : P:=by
  exact bD (bj hq.rd hu hg aq) hR
 ) : P:=h
theorem mj {P : Prop} (h : P:=by
  exact bD (bj hq.re hu hg aq) hR
 ) : P:=h
theorem mG {P : Prop} (h : P:=by
  exact bD (bj hq.rt hu hg aq) hR
 ) : P:=h
theorem uD {P : Prop} (h : P:=by
  exact ((S5.out.set ae).set ae)
 ) : P:=h
theorem mE {P : Prop} (h : P:=by
  go_wp2_with fail;go_end0;exact ⟨rfl,rfl⟩
 ) : P:=h
theorem o9 {P : Prop} (h : P:=by
  rcases h.m with h | h
  ·exact .inr h
  ·omega
 ) : P:=h
theorem tj {P : Prop} (h : P:=by
  rcases hsg.2.2 with h0 | h
  ·omega
  ·exact h
 ) : P:=h
theorem kz {P : Prop} (h : P:=by
  go_wp2_with fail;go_ret;exact ⟨rfl,rfl⟩
 ) : P:=h
theorem ky {P : Prop} (h : P:=by
  rw [bT (bV hq.blk hR hu hg)]; rfl
 ) : P:=h
theorem oV {P : Prop} (h : P:=by
  simp only [fe,List.length_append]; rfl
 ) : P:=h
theorem km {P : Prop} (h : P:=by
  rw [results_cell_tmp rfl];go_simp
 ) : P:=h
theorem fF {P : Prop} (h : P:=by
  rw [kP rfl];go_simp
 ) : P:=h
theorem mA {P : Prop} (h : P:=by
  rw [if_pos b1] at h; cases h
 ) : P:=h
theorem iy {P : Prop} (h : P:=by
  rw [h3] at h; cases h
 ) : P:=h
theorem bX {P : Prop} (h : P:=by
  simpa using this
 ) : P:=h
theorem Bx {P : Prop} (h : P:=by
  have hlt' : (k : Int) < (m.dn : Int):=ae
  by_cases hbd : z3 ≤ 2147483647
  ·obtain ⟨x,hxk⟩ : ∃ x,m.data[k]? = some x:=⟨_,aD (by rw [PD.out.1]; exact hlt)⟩
   obtain ⟨b,off,hfa,hat⟩:=PD.out.2.resolve_left ae;have hat:=hat k x hxk;have hu:=UD.out k x hxk;have hk0 : (0 : Int) ≤ (k : Int):=ae;have hbd' : (z3 : Int) ≤ 2147483647:=ae;have hbq : decide ((z3 : Int) ≤ 2147483647) = true:=decide_eq_true hbd';rw [hfa] at m6;obtain ⟨_,g1⟩:=hat;rw [hfa];go_wp2_with fail
   exact ⟨⟨k + 1,z3 + x.2.1.2.1,ae,bZ,bZ,⟨_,rfl⟩,ae,hid (by have:=HF3.out; rw [CN hxk]; omega)⟩,b9⟩
  ·have hbd' : ¬ (z3 : Int) ≤ 2147483647:=ae;have hbq : decide ((z3 : Int) ≤ 2147483647) = false:=decide_eq_false hbd';clear hlt;go_wp2_with fail
   go_loopw [3,7] (fun s i wr => ∃ k z : Nat,k ≤ m.en ∧ s = .int .i64 (z : Nat) ∧ i = .int .i64 k ∧ (∃ q,wr = W0.drewN q) ∧ z ≤ 1125899906842624 ∧ Hid (z3 + jG (m.exps.take k) ≤ z)) (fun _ i _ => m.en - (intOf i).toNat)
   case atStart => exact ⟨0,z3,ae,rfl,rfl,⟨_,rfl⟩,ae,hid (by simp [jG])⟩
   case round =>
    obtain ⟨k,z4,hk,rfl,rfl,⟨q4,rfl⟩,hz4,HF4⟩:=hrel
    by_cases hlt : k < m.en
    ·have hlt' : (k : Int) < (m.en : Int):=ae
     by_cases hbd : z4 ≤ 2147483647
     ·exact AW
     ·have hbd' : ¬ (z4 : Int) ≤ 2147483647:=ae;have hbq : decide ((z4 : Int) ≤ 2147483647) = false:=decide_eq_false hbd';exact CB
    ·obtain rfl : k = m.en:=ae;clear hlt;go_wp2_with fail;go_ret
     exact ⟨z4,rfl,BW.out.trans (BW2.out _),fun b hb1 h4 => tU⟩
 ) : P:=h
theorem BM {P : Prop} (h : P:=by
  have hlt' : (k : Int) < (m.en : Int):=ae
  by_cases hbd : z4 ≤ 2147483647
  ·exact AW
  ·have hbd' : ¬ (z4 : Int) ≤ 2147483647:=ae;have hbq : decide ((z4 : Int) ≤ 2147483647) = false:=decide_eq_false hbd';clear hlt;go_wp2_with fail;go_ret
   exact ⟨z4,rfl,BW.out.trans (BW2.out _),fun b hb1 h4 => tU⟩
 ) : P:=h
theorem kx {P : Prop} (h : P:=by
  refine ⟨j + 1,ys ++ [y],some ⟨B,0,none⟩,cap7,g4,cap4,ae,rfl,rfl,by simp [hyl],?_,?_,?_,?_,?_⟩
  ·exact AZ
  ·have:=R7.out
   simpa [gy] using this
  ·intro b' hb'
   simp at hb'
   subst hb';exact ⟨hBn.1,hBn.2.1⟩
  ·exact Bo
  ·exact ⟨(S5.out.k.trans (bA BN5.out)).then hBn.2.2 (fun k hk hkB => by have:=hBn.1; omega),S5.out.m⟩
 ) : P:=h
theorem jy {P : Prop} (h : P:=by
  rcases OR7.out with ⟨h1,h2⟩ | ⟨h1,h2⟩
  ·have h1' : aa = some ⟨B,0,none⟩:=(Value.slice.inj h1).1;exact ⟨(HAB.out _ h1').1,(HAB5.out _ h1').1,h2⟩
  ·have:=S5.out.size
   exact ⟨ae,ae,h2.mono (fun k hk => hk.elim)⟩
 ) : P:=h
theorem oY {P : Prop} (h : P:=by
  intro j u hj
  match j,hj with
  | 0,hj => simp [dX] at hj; subst hj; simp [Addr.add,go_sem]
  | 1,hj => simp [dX] at hj; subst hj; simp [Addr.add,go_sem]
  | 2,hj => simp [dX] at hj; subst hj; simp [Addr.add,go_sem]
 ) : P:=h
theorem Am {P : Prop} (h : P:=by
  intro j u hj
  match j,hj with
  | 0,hj => simp [dD] at hj; subst hj; simp [Addr.add,go_sem]
  | 1,hj => simp [dD] at hj; subst hj; simp [Addr.add,go_sem]
  | 2,hj => simp [dD] at hj; subst hj; simp [Addr.add,go_sem]
 ) : P:=h
theorem oQ {P : Prop} (h : P:=by
  intro j u hj
  match j,hj with
  | 0,hj => simp [dW] at hj; subst hj; simp [Addr.add,go_sem]
  | 1,hj => simp [dW] at hj; subst hj; simp [Addr.add,go_sem]
  | 2,hj => simp [dW] at hj; subst hj; simp [Addr.add,go_sem]
 ) : P:=h
theorem jg {P : Prop} (h : P:=by
  have h3:=HAB.out a ha1;have h1 : a.block < wr.heap.size:=ax HRW.out (rE HRW.out ha1);exact ⟨hs5.ne ae h3.2,Nat.lt_of_lt_of_le h1 (Nat.le_trans hszW hs5.size)⟩
 ) : P:=h
theorem Cw {P : Prop} (h : P:=by
  intro j u hj
  match j,hj with
  | 0,hj => simp [mM] at hj; subst hj; simp [Addr.add,go_sem]
  | 1,hj => simp [mM] at hj; subst hj; simp [Addr.add,go_sem]
 ) : P:=h
theorem BO {P : Prop} (h : P:=by
  intro j u hj
  match j,hj with
  | 0,hj => simp [mz] at hj; subst hj; simp [Addr.add,go_sem]
  | 1,hj => simp [mz] at hj; subst hj; simp [Addr.add,go_sem]
 ) : P:=h
theorem BC {P : Prop} (h : P:=by
  intro j u hj
  match j,hj with
  | 0,hj => simp [mL] at hj; subst hj; simp [Addr.add,go_sem]
  | 1,hj => simp [mL] at hj; subst hj; simp [Addr.add,go_sem]
 ) : P:=h
theorem sA {P : Prop} (h : P:=by
  go_wp2_with fail
  go_quiet (fail)
  go_wp2_with fail;exact ⟨⟨t + 1,ae,bZ,hid (HBD.out _)⟩,b9⟩
 ) : P:=h
theorem Ay {P : Prop} (h : P:=by
  intro j u hj
  match j,hj with
  | 0,hj => simp [ir] at hj; subst hj; simp [Addr.add,go_sem]
 ) : P:=h
theorem Ax {P : Prop} (h : P:=by
  exact ⟨j + 1,ae,rfl,(BW.out.trans (BN.out.mono BW.out.size)).drew⟩
 ) : P:=h
theorem AW {P : Prop} (h : P:=by
  obtain ⟨x,hxk⟩ : ∃ x,m.exps[k]? = some x:=⟨_,aD (by rw [PE.out.1]; exact hlt)⟩
  obtain ⟨b,off,hfa,hat⟩:=PE.out.2.resolve_left ae;have hat:=hat k x hxk;have hu:=UE.out k x hxk;have hk0 : (0 : Int) ≤ (k : Int):=ae;have hbd' : (z4 : Int) ≤ 2147483647:=ae;have hbq : decide ((z4 : Int) ≤ 2147483647) = true:=decide_eq_true hbd';rw [hfa] at m7;obtain ⟨g0,_⟩:=hat;rw [hfa];go_wp2_with fail
  exact ⟨⟨k + 1,z4 + x.1.size,ae,bZ,bZ,⟨_,rfl⟩,ae,hid (by have:=HF4.out; rw [CW hxk]; omega)⟩,b9⟩
 ) : P:=h
theorem AZ {P : Prop} (h : P:=by
  intro i y' hi'
  by_cases hij : i < ys.length
  ·rw [List.getElem?_append_left hij] at hi';exact HY.out i y' hi'
  ·rw [List.getElem?_append_right ae] at hi'
   have hi0 : i - ys.length = 0:=by
    rcases Nat.eq_zero_or_pos (i - ys.length) with h | h
    ·exact h
    ·rw [List.getElem?_eq_none aL] at hi'; cases hi'
   rw [hi0] at hi'
   simp at hi'
   subst hi';obtain rfl : i = j:=ae;exact ⟨x,hx,O5.out⟩
 ) : P:=h
theorem CB {P : Prop} (h : P:=by
  clear hlt;go_wp2_with fail;go_ret
  exact ⟨z4,rfl,BW.out.trans (BW2.out _),fun b hb1 h4 => tU⟩
 ) : P:=h
theorem Bo {P : Prop} (h : P:=by
  have:=(W5.out.later BN5.out).kept hBn.2.2 ae (Ne.symm hBn.2.1)
  rw [CX enc hx]
  simpa [List.append_assoc] using this
 ) : P:=h
abbrev aN (a0 : Int) (a1 : Bool) (a2 : Int) : Obj:=.cells #[.int .u8 a0,.bool a1,.int .u64 a2] 102
abbrev aR (a0 : Int) (a1 : Int) (a2 : Option Addr) (a3 : Nat) (a4 : Nat) : Obj:=.cells #[.int .u8 a0,.int .i64 a1,.slice a2 a3 a4] 75
abbrev bB (a0 : Int) (a1 : ByteArray) (a2 : Int) (a3 : ByteArray) (a4 : ByteArray) (a5 : Bool) : Obj:=.cells #[.int .u8 a0,.string a1,.int .i8 a2,.string a3,.string a4,.bool a5] 250
abbrev ck (a0 : Option Addr) (a1 : Nat) (a2 : Nat) (a3 : Option Addr) (a4 : Nat) (a5 : Nat) (a6 : Option Addr) (a7 : Nat) (a8 : Nat) (a9 : Int) (a10 : Int) (a11 : Option Addr) (a12 : Nat) (a13 : Nat) (a14 : Option Addr) (a15 : Nat) (a16 : Nat) (a17 : Option Addr) (a18 : Nat) (a19 : Nat) : Obj:=.cells #[.slice a0 a1 a2,.slice a3 a4 a5,.slice a6 a7 a8,.int .i64 a9,.int .i64 a10,.slice a11 a12 a13,.slice a14 a15 a16,.slice a17 a18 a19] 29
abbrev bf (a0 : Int) (a1 : ByteArray) (a2 : Option Addr) (a3 : Nat) (a4 : Nat) : Obj:=.cells #[.int .i64 a0,.string a1,.slice a2 a3 a4] 78
abbrev aW (a0 : Int) (a1 : Option Addr) (a2 : Nat) (a3 : Nat) : Obj:=.cells #[.int .i64 a0,.slice a1 a2 a3] 81
abbrev aZ (a0 : ByteArray) (a1 : Int) : Obj:=.cells #[.string a0,.int .i64 a1] 83
abbrev aX (a0 : ByteArray) (a1 : ByteArray) : Obj:=.cells #[.string a0,.string a1] 73
abbrev bz (a0 : Int) : Obj:=.cells #[.int .i64 a0] 3
abbrev cK (a0 : ByteArray) : Obj:=.cells #[.string a0] 9
abbrev cG (a0 : Int) : Obj:=.cells #[.int .i64 a0] 33
abbrev nC (a0 : Int) (a1 : Int) (a2 : ByteArray) (a3 : ByteArray) : Obj:=.cells #[.int .u8 a0,.int .u8 a1,.string a2,.string a3] 287
abbrev gW (a0 : Option Addr) (a1 : Nat) (a2 : Nat) : Obj:=.cells #[.slice a0 a1 a2] 63
abbrev jb (a0 : Int) : Obj:=.cells #[.int .u8 a0] 5
abbrev qA (a0 : Int) (a1 : Int) : Obj:=.cells #[.int .i64 a0,.int .i64 a1] 142
abbrev jd (a0 : Option Addr) (a1 : Nat) (a2 : Nat) : Obj:=.cells #[.slice a0 a1 a2] 22
abbrev eH (a0 : Value) : Obj:=.cells #[a0] 200
abbrev ny (a0 : Option Addr) : Obj:=.cells #[.pointer a0] 122
abbrev pN (a0 : Int) : Obj:=.cells #[.int .i64 a0] 119
theorem sIB {α : Type _} (l : List α) (i : Nat) (a : α) : l.toArray.setIfInBounds i a = (l.set i a).toArray:=List.setIfInBounds_toArray l i a
theorem sC0 {α : Type _} {x : α} {xs : List α} {a : α} : (x :: xs).set 0 a = a :: xs:=List.set_cons_zero
theorem sCs {α : Type _} {x : α} {xs : List α} {i : Nat} {a : α} : (x :: xs).set (i + 1) a = x :: xs.set i a:=List.set_cons_succ
theorem tkH {P : Program} {ops : Array Oper} {Q : Exit → Act → World → Prop} {md : Region.Mode} {S : World → Prop} {i : Nat} {oi : Oper} {v : Value} {fuel : Nat} {listed : Array Bool} {a : Act} {w : World} (hi : ops[i]? = some oi) (hv : ∀ w,S w → (execOp a.eval oi).run P w = .ok (.value v) w)
  (h : wpAnyH P md ops Q S fuel (listed.setIfInBounds i true) (a.put oi.dst v) w) (hc : (Region.noSelect ops && Region.free md ops listed i && (Region.ready md ops listed).contains i) = true:=by kernel_rfl) (hw : Region.wanted oi (yielded ops a.tmps) = true:=by rfl)
  (hQ : ∀ c a w,Q (.panic c) (a.put oi.dst v) w → Q (.panic c) a w:=by exact fun _ _ _ h => h) (hS : S w:=by assumption) : wpAnyH P md ops Q S (fuel + 1) listed a w:=by
 simp only [Bool.and_eq_true] at hc
 exact tZ
theorem tkA {P : Program} {ops : Array Oper} {Q : Exit → Act → World → Prop} {md : Region.Mode} {S : World → Prop} {i : Nat} {oi : Oper} {d : Option Tmp} {v : Value} {fuel : Nat} {listed : Array Bool} {a : Act} {w : World} (hi : ops[i]? = some oi) (hd : oi.dst = d) (hv : ∀ w,S w → (execOp a.eval oi).run P w = .ok (.value v) w)
  (h : wpAnyH P md ops Q S fuel (listed.setIfInBounds i true) (a.put d v) w) (hc : (Region.noSelect ops && Region.free md ops listed i && (Region.ready md ops listed).contains i) = true:=by kernel_rfl) (hw : Region.wanted oi (yielded ops a.tmps) = true:=by kernel_rfl)
  (hQ : ∀ c a w,Q (.panic c) (a.put d v) w → Q (.panic c) a w:=by exact fun _ _ _ h => h) (hS : S w:=by assumption) : wpAnyH P md ops Q S (fuel + 1) listed a w:=by
 subst hd;exact tkH hi hv h hc hw hQ hS
theorem tkB {P : Program} {ops : Array Oper} {Q : Exit → Act → World → Prop} {md : Region.Mode} {S : World → Prop} {i : Nat} {oi : Oper} {d : Option Tmp} {v : Value} {fuel : Nat} {listed : Array Bool} {a : Act} {w : World} (h : wpAnyH P md ops Q S fuel (listed.setIfInBounds i true) (a.put d v) w) (hi : ops[i]? = some oi:=by kernel_rfl) (hd : oi.dst = d:=by kernel_rfl) (hv : ∀ w,S w → (execOp a.eval oi).run P w = .ok (.value v) w:=by (intro w h;(try dsimp only at h);go_simp;try with_reducible rfl))
  (hc : (Region.noSelect ops && Region.free md ops listed i && (Region.ready md ops listed).contains i) = true:=by kernel_rfl) (hw : Region.wanted oi (yielded ops a.tmps) = true:=by kernel_rfl) (hQ : ∀ c a w,Q (.panic c) (a.put d v) w → Q (.panic c) a w:=by exact fun _ _ _ h => h) (hS : S w:=by assumption) : wpAnyH P md ops Q S (fuel + 1) listed a w:=tkA hi hd hv h hc hw hQ hS
theorem tkC {P : Program} {ops : Array Oper} {Q : Exit → Act → World → Prop} {md : Region.Mode} {S : World → Prop} {i : Nat} {oi : Oper} {v : Value} {fuel : Nat} {listed : Array Bool} {a : Act} {w : World} (hi : ops[i]? = some oi) (h : wpAnyH P md ops Q S fuel (listed.setIfInBounds i true) (a.put oi.dst v) w) (hv : ∀ w,S w → (execOp a.eval oi).run P w = .ok (.value v) w:=by (intro w h;(try dsimp only at h);go_simp;try with_reducible rfl))
  (hc : (Region.noSelect ops && Region.free md ops listed i && (Region.ready md ops listed).contains i) = true:=by kernel_rfl) (hw : Region.wanted oi (yielded ops a.tmps) = true:=by rfl) (hQ : ∀ c a w,Q (.panic c) (a.put oi.dst v) w → Q (.panic c) a w:=by exact fun _ _ _ h => h) (hS : S w:=by assumption) : wpAnyH P md ops Q S (fuel + 1) listed a w:=tkH hi hv h hc hw hQ hS
theorem rdA {P : Program} {ops : Array Oper} {Q : Exit → Act → World → Prop} {md : Region.Mode} {S : World → Prop} {i : Nat} {o : Oper} {fuel : Nat} {listed : Array Bool} {a : Act} {w : World} {rs : List Nat} (h : ∀ K : Act → World → Prop,Shut (∀ a w,S w → (S w → wpAnyH P md ops Q S fuel (listed.setIfInBounds i true) a w) → K a w) → Oper.wp P o a w K Q) (hs : AllReadyH P md ops Q S fuel listed a w rs) (ho : ops[i]? = some o:=by kernel_rfl) (hw : Region.wanted o (yielded ops a.tmps) = true:=by kernel_rfl) : AllReadyH P md ops Q S fuel listed a w (i :: rs):=AllReadyH.cons ho (fun K hK => by rw [if_pos hw]; exact h K hK) hs
theorem rdY {P : Program} {ops : Array Oper} {Q : Exit → Act → World → Prop} {md : Region.Mode} {S : World → Prop} {rs : List Nat} {fuel : Nat} {listed : Array Bool} {a : Act} {w : World} (h : AllReadyH P md ops Q S fuel listed a w rs) (hr : Region.ready md ops listed = rs:=by kernel_rfl) (hne : rs ≠ []:=by simp) : wpAnyH P md ops Q S (fuel + 1) listed a w:=wpAnyH_ready hr hne h
theorem rN {P : Program} {ops : Array Oper} {Q : Exit → Act → World → Prop} {md : Region.Mode} {S : World → Prop} {fuel : Nat} {listed : Array Bool} {a : Act} {w : World} : AllReadyH P md ops Q S fuel listed a w []:=AllReadyH.nil
structure aP (S : Nat → Prop) (w w' : World) : Prop where
 os : w'.os = w.os
 tape : w'.tape = w.tape
 output : w'.output = w.output
 size : w.heap.size ≤ w'.heap.size
 block : ∀ k,k < w.heap.size → ¬ S k → w'.heap[k]? = w.heap[k]?
theorem aP.refl (S : Nat → Prop) (w : World) : aP S w w:=⟨rfl,rfl,rfl,Nat.le_refl _,fun _ _ _ => rfl⟩
theorem aP.trans {S : Nat → Prop} {w w1 w2 : World} (h1 : aP S w w1) (h2 : aP S w1 w2) : aP S w w2 :=
 ⟨h2.os.trans h1.os,h2.tape.trans h1.tape,h2.output.trans h1.output,Nat.le_trans h1.size h2.size,
  fun k hk hs => (h2.block k (Nat.lt_of_lt_of_le hk h1.size) hs).trans (h1.block k hk hs)⟩
theorem aP.then {S T : Nat → Prop} {w w1 w2 : World} (h1 : aP S w w1) (h2 : aP T w1 w2) (h : ∀ k,k < w.heap.size → T k → S k) : aP S w w2 :=
 ⟨h2.os.trans h1.os,h2.tape.trans h1.tape,h2.output.trans h1.output,Nat.le_trans h1.size h2.size,
  fun k hk hs => (h2.block k (Nat.lt_of_lt_of_le hk h1.size) (fun ht => hs (h k hk ht))).trans (h1.block k hk hs)⟩
theorem aP.of_grown {w w' : World} {r : Option Nat} (h : w.grownBy w' r) : aP (fun k => some k = r) w w':=⟨h.os,h.tape,h.output,h.size,fun k hk hs => h.block k hk hs⟩
theorem aP.alloc (S : Nat → Prop) (w : World) (o : Obj) : aP S w (w.alloc o):=by
 have h:=(Below.refl w.heap.size w).alloc (Nat.le_refl _) o
 exact ⟨h.os,h.tape,h.output,h.size,fun k hk _ => h.block k hk⟩
theorem aP.of_below {B : Nat} {w w' : World} (h : Below B w w') : aP (fun k => B ≤ k) w w':=⟨h.os,h.tape,h.output,h.size,fun k hk hs => h.block k ae⟩
theorem aP.to_below {S : Nat → Prop} {B : Nat} {w w' : World} (h : aP S w w') (hB : B ≤ w.heap.size) (hS : ∀ k,k < B → ¬ S k) : Below B w w':=⟨h.os,h.tape,h.output,h.size,fun k hk => h.block k ae (hS k hk)⟩
theorem aP.mono {S T : Nat → Prop} {w w' : World} (h : aP S w w') (hS : ∀ k,S k → T k) : aP T w w':=⟨h.os,h.tape,h.output,h.size,fun k hk hs => h.block k hk (fun x => hs (hS k x))⟩
theorem aP.drewN (S : Nat → Prop) (w : World) (m : Nat) : aP S w (w.drewN m):=by
 have h:=below_drewN (Below.refl w.heap.size w) m
 exact ⟨h.os,h.tape,h.output,h.size,fun k hk _ => h.block k hk⟩
theorem kT {w w' : World} {b : Nat} (h : w'.heap[b]? = w.heap[b]?) (o : Nat) : w'.cell? ⟨b,o,none⟩ = w.cell? ⟨b,o,none⟩:=by
 simp only [World.cell?,h]
theorem bt {w w' : World} {b : Nat} (h : w'.heap[b]? = w.heap[b]?) (o : Nat) : w'.frozen? ⟨b,o,none⟩ = w.frozen? ⟨b,o,none⟩:=by
 simp only [World.frozen?,h]
theorem aP.cell {S : Nat → Prop} {w w' : World} (h : aP S w w') {b o : Nat} {v : Value} (hc : w.cell? ⟨b,o,none⟩ = some v) (hs : ¬ S b) : w'.cell? ⟨b,o,none⟩ = some v :=
 (kT (h.block b (block_lt_of_cell hc) hs) o).trans hc
def Row (w : World) (e : TypeId) (B n cap : Nat) (xs : List Value) : Prop:=w.ownsRow 0 e 1 (.slice (some ⟨B,0,none⟩) n cap) n xs
theorem Row.of {w : World} {base : Nat} {e : TypeId} {B n cap : Nat} {xs : List Value} (h : w.ownsRow base e 1 (.slice (some ⟨B,0,none⟩) n cap) n xs) : Row w e B n cap xs:=by
 exact zS
theorem Row.block {w : World} {e : TypeId} {B n cap : Nat} {xs : List Value} (h : Row w e B n cap xs) : ∃ cur,w.heap[B]? = some (.cells cur e) ∧ n ≤ cap ∧ cap ≤ maxLen ∧ cur.size = cap ∧ cur.toList.take n = xs:=by
 rcases h.2 with ⟨h,_⟩ | ⟨g,cp,cur,h1,_,h3,h4,h5,h6,h7⟩
 ·cases h
 ·simp at h1
  obtain ⟨rfl,rfl⟩:=h1
  exact ⟨cur,h3,h4,h5,by simpa using h6,by simpa using h7⟩
theorem Row.lt {w : World} {e : TypeId} {B n cap : Nat} {xs : List Value} (h : Row w e B n cap xs) : B < w.heap.size:=by
 exact zU
theorem gi {w w' : World} {base : Nat} {e : TypeId} {v : Value} {n : Nat} {xs : List Value} (h : w.ownsRow base e 1 v n xs) (hk : ∀ B,v.ownBlock = some B → w'.heap[B]? = w.heap[B]?) : w'.ownsRow base e 1 v n xs:=by
 exact Fq
theorem Row.keep {w w' : World} {e : TypeId} {B n cap : Nat} {xs : List Value} (h : Row w e B n cap xs) (hk : w'.heap[B]? = w.heap[B]?) : Row w' e B n cap xs :=
 gi h (fun b hb => by
  obtain rfl : B = b:=rL;exact hk)
theorem Row.kept {S : Nat → Prop} {w w' : World} {e : TypeId} {B n cap : Nat} {xs : List Value} (h : Row w e B n cap xs) (hk : aP S w w') (hs : ¬ S B) : Row w' e B n cap xs:=h.keep (hk.block B h.lt hs)
theorem Row.cell {w : World} {e : TypeId} {B n cap : Nat} {xs : List Value} (h : Row w e B n cap xs) (j : Nat) (hj : j < n) : w.cell? ⟨B,j,none⟩ = xs[j]?:=World.ownsRow.cellAt h j ae
theorem Row.free {w : World} {e : TypeId} {B n cap : Nat} {xs : List Value} (h : Row w e B n cap xs) (j : Nat) : w.frozen? ⟨B,j,none⟩ = false:=World.ownsRow.frozenAt h j
theorem Row.put {w : World} {e : TypeId} {B n cap : Nat} {xs : List Value} (h : Row w e B n cap xs) (j : Nat) (u : Value) : Row (w.setCell ⟨B,j,none⟩ u) e B n cap (xs.set j u) ∧ aP (fun k => k = B) w (w.setCell ⟨B,j,none⟩ u):=by
 have:=World.ownsRow.stored h j u
 exact ⟨this.1,(aP.of_grown this.2).mono (fun k hk => by simpa using hk)⟩
theorem mX {w : World} {base base' : Nat} {e : TypeId} {v : Value} {n : Nat} {xs : List Value} (h : w.ownsRow base e 1 v n xs) (hb : base' ≤ base) : w.ownsRow base' e 1 v n xs:=by
 refine ⟨h.1,?_⟩
 rcases h.2 with h0 | ⟨g,cp,cur,h1,h2,h3⟩
 ·exact .inl h0
 ·exact .inr ⟨g,cp,cur,h1,Nat.le_trans hb h2,h3⟩
theorem hid {P : Prop} (h : P) : Hid P:=h
def yg (w : World) (a : Option Addr) (n cap : Nat) (l : List Int) : Prop :=
 l.length = n ∧ n ≤ cap ∧ n ≤ 1099511627776 ∧ (∀ z ∈ l,-9223372036854775808 ≤ z ∧ z ≤ 9223372036854775807) ∧
 (n = 0 ∨ ∃ b off,a = some ⟨b,off,none⟩ ∧ ∀ j,j < n → w.cell? ⟨b,off + j,none⟩ = some (.int .i64 (l.getD j 0)))
theorem yg.keep {S : Nat → Prop} {w w' : World} {a : Option Addr} {n cap : Nat} {l : List Int} (h : yg w a n cap l) (hk : aP S w w') (hs : ∀ b off,a = some ⟨b,off,none⟩ → n ≠ 0 → ¬ S b) : yg w' a n cap l:=by
 obtain ⟨hz,h1,h2,h3,ha⟩:=h;refine ⟨hz,h1,h2,h3,?_⟩
 by_cases h0 : n = 0
 ·exact .inl h0
 rcases ha with ha | ⟨b,off,e,hc⟩
 ·exact .inl ha
 ·exact .inr ⟨b,off,e,fun j hj => hk.cell (hc j hj) (hs b off e h0)⟩
theorem yg.later {w w' : World} {a : Option Addr} {n cap : Nat} {l : List Int} {B : Nat} (h : yg w a n cap l) (hb : Below B w w') (hB : w.heap.size ≤ B) : yg w' a n cap l:=by
 exact xB
structure Inx where
 c : Int
 a : Int
 la : Option Addr
 ln : Nat
 lc : Nat
 l : List Int
def dx : Inx:=⟨0,0,none,0,0,[]⟩
theorem pow_pos (k : Nat) : (0 : Int) < 128 ^ k:=Int.pow_pos aq
def uf (u : Int) : Int:=if u % 2 = 1 then -(u / 2) - 1 else u / 2
def uv : Nat → Int → List Int
 | 0,v => [v]
 | f + 1,v => if v < 128 then [v] else (v % 128 + 128) :: uv f (v / 128)
def au (v : Int) : List Int:=uv 9 v
theorem MS (f : Nat) : ∀ v,1 ≤ (uv f v).length ∧ (uv f v).length ≤ f + 1:=by
 induction f with
 | zero => intro v; simp [uv]
 | succ f ih =>
  intro v
  by_cases h : v < 128
  ·simp [uv,h]
  ·have:=ih (v / 128)
   simp only [uv,h,if_false,List.length_cons]; omega
theorem KY (V : Int) (k : Nat) (h : V * 128 ^ k < 18446744073709551616) (h0 : 0 ≤ V) : V / 128 * 128 ^ (k + 1) < 18446744073709551616:=by
 have hs : (128 : Int) ^ (k + 1) = 128 * 128 ^ k:=by rw [Int.pow_succ,Int.mul_comm]
 rw [hs,← Int.mul_assoc];have h2 : V / 128 * 128 ≤ V:=ae
 have:=Int.mul_le_mul_of_nonneg_right h2 (Int.le_of_lt (pow_pos k))
 omega
theorem D7 (V : Int) (k : Nat) (h : V * 128 ^ k < 18446744073709551616) (hk : k ≤ 9) (h128 : 128 ≤ V) : k ≤ 8:=by
 by_cases e : k = 9
 ·subst e;have e9 : (128 : Int) ^ 9 = 9223372036854775808:=aq;rw [e9] at h;omega
 ·omega
def fo (n : Int) : Int:=if n < 0 then -2 * n - 1 else 2 * n
theorem vK (n : Int) (h0 : -9223372036854775808 ≤ n) (h1 : n < 9223372036854775808) : 0 ≤ fo n ∧ fo n < 18446744073709551616:=by
 unfold fo; split <;> omega
theorem aC (v : Int) : 1 ≤ (au v).length ∧ (au v).length ≤ 10:=MS 9 v
def Seg (w : World) (a : Option Addr) (n cap : Nat) (zs : List Int) : Prop :=
 zs.length = n ∧ n ≤ cap ∧ n ≤ 1099511627776 ∧ (∀ z ∈ zs,0 ≤ z ∧ z ≤ 255) ∧
 (n = 0 ∨ ∃ b off,a = some ⟨b,off,none⟩ ∧ ∀ j,j < n → w.cell? ⟨b,off + j,none⟩ = some (.int .u8 (zs.getD j 0)))
theorem cV (x : Int) (h0 : 0 ≤ x) (h1 : x < 18446744073709551616) : IntKind.u64.wrap x = x:=by
 rw [IntKind.wrap_u64]; exact Int.emod_eq_of_lt h0 h1
theorem i64_in (x : Int) (h0 : -9223372036854775808 ≤ x) (h1 : x < 9223372036854775808) : IntKind.i64.wrap x = x:=by
 simp [IntKind.wrap,IntKind.bits,IntKind.signed]; omega
theorem Tryz.info5 : (Tryz.prog.info? 5).map (fun i => (i.zero,i.size,i.bytes)) = some (some (.int .u8 0),1,1):=ai
def cat (Z : Nat → List Int) : Nat → List Int
 | 0 => []
 | k + 1 => cat Z k ++ Z k
theorem uS (Z : Nat → List Int) (k m : Nat) (h : k ≤ m) : (cat Z k).length ≤ (cat Z m).length:=by
 induction m with
 | zero =>
  obtain rfl : k = 0:=ae;omega
 | succ m ih =>
  by_cases e : k = m + 1
  ·subst e; omega
  ·have:=ih ae; simp only [cat,List.length_append]; omega
theorem mY (l : List Int) : ∀ u ∈ l.map (Value.int .u8),u.oneCell' = true:=by
 intro u hu;obtain ⟨z,_,rfl⟩:=List.mem_map.1 hu;rfl
theorem ko {w : World} {a : Option Addr} {n cap : Nat} {zs : List Int} (h : Seg w a n cap zs) :
  ∀ ad,a = some ad → ∀ (j : Nat) (u : Value),(zs.map (Value.int .u8))[j]? = some u → w.cell? (ad.add j) = some u:=by
 intro ad had j u hu;obtain ⟨hz,_,_,_,ha⟩:=h
 have hj : j < zs.length:=by
  rcases Nat.lt_or_ge j zs.length with h | h
  ·exact h
  ·simp [List.getElem?_eq_none (show (zs.map (Value.int .u8)).length ≤ j by simpa using h)] at hu
 rcases ha with ha | ⟨b,off,e,hc⟩
 ·omega
 ·rw [had] at e
  simp at e
  subst e
  have:=hc j ae
  have hplain : (⟨b,off,none⟩ : Addr).add j = ⟨b,off + j,none⟩:=ic;rw [hplain,this]
  simp [aD hj] at hu
  subst hu
  simp [List.getD,aD hj]
theorem Seg.later {w w' : World} {a : Option Addr} {n cap : Nat} {zs : List Int} {B : Nat} (h : Seg w a n cap zs) (hb : Below B w w') (hB : w.heap.size ≤ B) : Seg w' a n cap zs:=by
 exact xB
theorem Seg.drewN {w : World} {a : Option Addr} {n cap : Nat} {zs : List Int} (h : Seg w a n cap zs) (m : Nat) : Seg (w.drewN m) a n cap zs:=by
 obtain ⟨hz,h1,h2,h3,ha⟩:=h;refine ⟨hz,h1,h2,h3,?_⟩
 rcases ha with ha | ⟨b,off,e,hc⟩
 ·exact .inl ha
 ·exact .inr ⟨b,off,e,fun j hj => by rw [World.cell?_drewN]; exact hc j hj⟩
theorem Dr (P m cp : Nat) (A : Nat → Option Addr) (L C : Nat → Nat) (Z : Nat → List Int) (w : World) (hm : m ≤ 1000)
  (hp : ∀ j,j < m → w.cell? ⟨P,j,none⟩ = some (.slice (A j) (L j) (C j)))
  (hs : ∀ j,j < m → Seg w (A j) (L j) (C j) (Z j) ∧ (A j = none → C j = 0)) (hN : (cat Z m).length ≤ 1099511627776) (hPw : P < w.heap.size) :
  Calls Tryz.prog 329 #[.slice (some ⟨P,0,none⟩) m cp] w fun e w' => e = .returned (.slice (some ⟨w.heap.size,0,none⟩) (cat Z m).length (cat Z m).length) ∧
   w'.ownsRow w.heap.size 5 1 (.slice (some ⟨w.heap.size,0,none⟩) (cat Z m).length (cat Z m).length) (cat Z m).length ((cat Z m).map (Value.int .u8)) ∧ Below w.heap.size w w':=by
 obtain ⟨i0,hi,hz0,hz1,hz2⟩:=info_parts Tryz.info5
 have hb2 : i0.bytes * (cat Z m).length ≤ 281474976710656:=by rw [hz2]; omega
 have hml : (cat Z m).length ≤ maxLen:=bP
 go_enter Tryz.func329,Tryz.ntmps329
 go_wp2
 go_loop [3,11] (fun s i => ∃ k : Nat,k ≤ m ∧ i = .int .i64 k ∧ s = .int .i64 (cat Z k).length) (fun _ i => m - (intOf i).toNat)
 case atStart => exact ⟨0,ae,rfl,rfl⟩
 case round =>
  obtain ⟨k,hk,rfl,rfl⟩:=hrel
  by_cases hlt : k < m
  ·have hcell:=hp k hlt;have hlen:=(hs k hlt).1.1;have hmo:=uS Z (k + 1) m ae
   have HC:=hid (show (cat Z (k + 1)).length = (cat Z k).length + L k by simp [cat,hlen])
   have hle : (cat Z k).length + L k ≤ 1099511627776:=by have:=HC.out; omega
   clear hp hs hlen hmo hb2 hml hi hz0 hz1 hz2 hN;go_wp2
   go_round
   case rel => exact ⟨k + 1,ae,bZ,by rw [HC.out]; go_num⟩
   case measure => simp [intOf]; omega
  ·obtain rfl : k = m:=ae
   go_wp2_with (first | (at_make; refine wpList_make_own _ rfl _ _ 63 rfl w.heap.size 5 i0 (.int .u8 0) 1 Tryz.underlying63 hi hz0 hz1 .i64 .i64 _ (cat Z k).length rfl rfl rfl hb2 hml (Nat.le_refl _) ?_; intro w1 hown hgrow))
   have hbel : Below w.heap.size w w1:=(Below.refl _ _).grown hgrow (Nat.le_refl _) ar;clear hgrow
   go_loopw [6,24] (fun v i wr => ∃ j : Nat,j ≤ k ∧ i = .int .i64 j ∧ v = .slice (some ⟨w.heap.size,0,none⟩) (cat Z j).length (cat Z k).length ∧
    wr.ownsRow w.heap.size 5 1 (.slice (some ⟨w.heap.size,0,none⟩) (cat Z j).length (cat Z k).length) (cat Z j).length ((cat Z j).map (Value.int .u8)) ∧ Below w.heap.size w wr) (fun _ i _ => k - (intOf i).toNat)
   case atStart => exact ⟨0,ae,rfl,rfl,hown,hbel⟩
   case round =>
    obtain ⟨j,hj,rfl,rfl,hownr,hb⟩:=hrel;clear hown hbel
    by_cases hjk : j < k
    ·have hcell : wr.cell? ⟨P,j,none⟩ = some (.slice (A j) (L j) (C j)):=(hb.cell (p:=⟨P,j,none⟩) hPw).trans (hp j hjk);obtain ⟨hseg,hnone⟩:=hs j hjk;have hsl:=hseg.later hb (Nat.le_refl _)
     have hnn : A j = none → L j = 0 ∧ C j = 0:=fun h => ⟨by have:=hnone h; have:=hseg.2.1; omega,hnone h⟩
     have hcl:=ko hsl
     have hlen : ((Z j).map (Value.int .u8)).length = L j * 1:=by simp [hseg.1]
     have hmo:=uS Z (j + 1) k ae
     have HC:=hid (show (cat Z (j + 1)).length = (cat Z j).length + L j by simp [cat,hseg.1])
     have hroom : (cat Z j).length + L j ≤ (cat Z k).length:=by have:=HC.out; omega
     have HB:=hid hb;have HO:=hid hownr;have HL:=hid hcl;have HN:=hid hnn;clear hp hs hb hownr hseg hnone hsl hcl hnn hmo
     go_wp2_with (first | (at_builtin; refine wpList_append_fits_any _ rfl _ _ 63 rfl w.heap.size 5 i0 1 Tryz.underlying63 hi hz1 w.heap.size (cat Z j).length (cat Z k).length _ rfl HO.out (A j) (L j) (C j) ((Z j).map (Value.int .u8)) rfl hlen HN.out HL.out (mY _) hroom ?_; intro w2 hown2 hgrow2))
     have hb2' : Below w.heap.size w w2:=HB.out.grown hgrow2 (HB.out.size) ar
     have ho2 : w2.ownsRow w.heap.size 5 1 (.slice (some ⟨w.heap.size,0,none⟩) (cat Z (j + 1)).length (cat Z k).length) (cat Z (j + 1)).length ((cat Z (j + 1)).map (Value.int .u8)):=by
      rw [HC.out]; simp only [cat,List.map_append]; exact hown2
     exact ⟨⟨j + 1,ae,bZ,by rw [HC.out],ho2,hb2'⟩,b9⟩
    ·obtain rfl : j = k:=ae;clear hp hs;go_wp2;go_ret;exact ⟨rfl,hownr,hb⟩
theorem Ah {w : World} {B n cap : Nat} {zs : List Int} {base : Nat} (h : w.ownsRow base 5 1 (.slice (some ⟨B,0,none⟩) n cap) n (zs.map (Value.int .u8))) (hl : zs.length = n) (hn : n ≤ 1099511627776) (hr : ∀ z ∈ zs,0 ≤ z ∧ z ≤ 255) (hcap : n ≤ cap) :
  Seg w (some ⟨B,0,none⟩) n cap zs:=by
 refine ⟨hl,hcap,hn,hr,.inr ⟨B,0,rfl,fun j hj => ?_⟩⟩
 rw [Nat.zero_add,h.cellAt j ae];have hj' : j < zs.length:=ae
 simp [hj']
theorem C4 (Z : Nat → List Int) (m : Nat) (h : ∀ j,j < m → ∀ z ∈ Z j,0 ≤ z ∧ z ≤ 255) : ∀ z ∈ cat Z m,0 ≤ z ∧ z ≤ 255:=by
 induction m with
 | zero => intro z hz; simp [cat] at hz
 | succ m ih =>
  intro z hz
  simp only [cat,List.mem_append] at hz
  rcases hz with hz | hz
  ·exact ih (fun j hj => h j ae) z hz
  ·exact h m ae z hz
theorem GX (P m cp : Nat) (A : Nat → Option Addr) (L C : Nat → Nat) (Z : Nat → List Int) (w : World) (hm : m ≤ 1000)
  (hp : ∀ j,j < m → w.cell? ⟨P,j,none⟩ = some (.slice (A j) (L j) (C j)))
  (hs : ∀ j,j < m → Seg w (A j) (L j) (C j) (Z j) ∧ (A j = none → C j = 0)) (hN : (cat Z m).length ≤ 1099511627776) (hPw : P < w.heap.size) (h0 : 0 < (cat Z m).length) :
  Calls Tryz.prog 329 #[.slice (some ⟨P,0,none⟩) m cp] w fun e w' => e = .returned (.slice (some ⟨w.heap.size,0,none⟩) (cat Z m).length (cat Z m).length) ∧
   Seg w' (some ⟨w.heap.size,0,none⟩) (cat Z m).length (cat Z m).length (cat Z m) ∧ Below w.heap.size w w' ∧ w.heap.size < w'.heap.size:=by
 refine (Dr P m cp A L C Z w hm hp hs hN hPw).mono fun e w' ⟨he,ho,hb⟩ => ?_
 have hseg:=Ah ho rfl hN (C4 Z m fun j hj => (hs j hj).1.2.2.2.1) (Nat.le_refl _)
 refine ⟨he,hseg,hb,?_⟩
 rcases hseg.2.2.2.2 with h | ⟨b,off,e1,hc⟩
 ·omega
 ·have:=hc 0 h0
  simp at e1
  have:=block_lt_of_cell this
  simp only at this
  omega
theorem Mk {V : Int} (h0 : 0 ≤ V) (h1 : V < 18446744073709551616) : bits .and .u64 V 127 = V % 128:=by
 rw [u64_and V 127 h0 h1 aq aq]
 simp only [Int.reduceToNat]
 rw [nat_mask7]; omega
theorem OG {c : Int} (h0 : 0 ≤ c) (h1 : c < 128) : bits .or .u8 c 128 = c + 128:=by
 rw [u8_or c 128 h0 ae aq aq]
 simp only [Int.reduceToNat]
 rw [Nat.or_comm,nat_join 7 128 c.toNat aq (by simp only [Nat.reducePow]; omega)]
 omega
theorem NJ (pre : List Int) (k m : Nat) (c : Int) (h : pre.length = k) : ((pre ++ List.replicate (m + 1) 0).map (Value.int .u8)).set k (.int .u8 c) = ((pre ++ [c]) ++ List.replicate m 0).map (Value.int .u8):=by
 subst h;rw [← List.map_set]
 congr 1
 rw [List.set_append_right _ _ ae]
 simp [List.replicate_succ]
theorem EM {w wr : World} {pre : List Int} {k : Nat} (c : Int) (hk : k ≤ 9) (hp : pre.length = k)
  (hown : wr.ownsRow w.heap.size 379 1 (.slice (some ⟨w.heap.size,0,none⟩) 10 10) 10 ((pre ++ List.replicate (10 - k) 0).map (Value.int .u8))) (hb : Below w.heap.size w wr) :
  (wr.setCell ⟨w.heap.size,k,none⟩ (.int .u8 c)).ownsRow w.heap.size 379 1 (.slice (some ⟨w.heap.size,0,none⟩) 10 10) 10 (((pre ++ [c]) ++ List.replicate (10 - (k + 1)) 0).map (Value.int .u8)) ∧
   Below w.heap.size w (wr.setCell ⟨w.heap.size,k,none⟩ (.int .u8 c)):=by
 have h:=hown.stored k (.int .u8 c);have e : 10 - k = 10 - (k + 1) + 1:=ae;rw [e,NJ pre k _ c hp] at h;exact ⟨h.1,hb.setCell ar _⟩
theorem Tryz.len379 : Tryz.prog.arrayLen 379 = 10:=ai
theorem Tryz.und379 : Tryz.prog.underlying 379 = some (.array (Tryz.prog.arrayLen 379) (Tryz.prog.elem 379)):=ai
theorem Tryz.size379 (w : World) : (sizeOf (Tryz.prog.elem 379)).run Tryz.prog w = .ok 1 w:=ai
theorem ur (B k : Nat) (hk : k ≤ 9) (w : World) :
  (Instr.sliceAt 379 (.pointer (some ⟨B,0,none⟩)) none (some (.int .i64 ((k : Int) + 1))) none).run Tryz.prog w = .ok (.slice (some ⟨B,0,none⟩) (k + 1) 10) w:=by
 rw [run_sliceAt_array_h w 379 ⟨B,0,none⟩ Tryz.und379 .i64 ((k : Int) + 1) ae (by rw [Tryz.len379]; omega),Tryz.size379]
 have e : ((k : Int) + 1).toNat = k + 1:=ae
 simp only [Result.andThen,slicedAt,Tryz.len379,e]
 simp [Addr.add]
theorem yq {w W : World} {k : Nat} {V v : Int} {pre : List Int} (hk : k ≤ 9) (hp : pre.length = k) (hV : 0 ≤ V) (hV1 : V < 128) (huv : au v = pre ++ [V]) (hpr : ∀ z ∈ pre,0 ≤ z ∧ z ≤ 255)
  (ho : W.ownsRow w.heap.size 379 1 (.slice (some ⟨w.heap.size,0,none⟩) 10 10) 10 (((pre ++ [V]) ++ List.replicate (10 - (k + 1)) 0).map (Value.int .u8))) (hb : Below w.heap.size w W) (hsz : W.heap.size = w.heap.size + 1) :
  Calls Tryz.prog 329 #[.slice (some ⟨w.heap.size + 1,0,none⟩) 1 1] (W.alloc (gW (some ⟨w.heap.size,0,none⟩) (k + 1) 10)) fun e w' =>
   e = .returned (.slice (some ⟨w.heap.size + 2,0,none⟩) (au v).length (au v).length) ∧
   Seg w' (some ⟨w.heap.size + 2,0,none⟩) (au v).length (au v).length (au v) ∧ Below w.heap.size w w' ∧ w.heap.size + 2 < w'.heap.size:=by
 have hlen : (au v).length = k + 1:=by rw [huv]; simp [hp]
 have hr : ∀ z ∈ au v,0 ≤ z ∧ z ≤ 255:=by
  intro z hz;rw [huv] at hz;exact z7
 have hseg : Seg W (some ⟨w.heap.size,0,none⟩) (k + 1) 10 (au v):=by
  refine ⟨hlen,ae,ae,hr,.inr ⟨_,0,rfl,fun j hj => ?_⟩⟩
  rw [Nat.zero_add,ho.cellAt j ae,huv]
  have hj' : j < (pre ++ [V]).length:=by simp [hp]; omega
  rw [List.getElem?_map,List.getElem?_append_left hj']
  simp [aD hj']
 have hba : Below W.heap.size W (W.alloc (gW (some ⟨w.heap.size,0,none⟩) (k + 1) 10)):=(Below.refl _ _).alloc (Nat.le_refl _) _
 have hs2 : (W.alloc (gW (some ⟨w.heap.size,0,none⟩) (k + 1) 10)).heap.size = w.heap.size + 2:=by simp [hsz]
 have hc1 : cat (fun _ => au v) 1 = au v:=by simp [cat]
 have J:=GX (w.heap.size + 1) 1 1 (fun _ => some ⟨w.heap.size,0,none⟩) (fun _ => k + 1) (fun _ => 10) (fun _ => au v) (W.alloc (gW (some ⟨w.heap.size,0,none⟩) (k + 1) 10)) ae
  (fun j hj => by
   obtain rfl : j = 0:=ae
   rw [← hsz]; simp)
  (fun j _ => ⟨hseg.later hba (Nat.le_refl _),fun h => bG⟩) (by rw [hc1]; omega) (by rw [hs2]; omega) (by rw [hc1]; omega)
 rw [hc1,hs2] at J
 refine J.mono fun e w' ⟨he,hsg,hbl,hz⟩ => ⟨he,hsg,?_,hz⟩
 exact (hb.trans (hba.mono ae)).trans (hbl.mono ae)
theorem sM (v : Int) (w : World) (h0 : 0 ≤ v) (h1 : v < 18446744073709551616) :
  Calls Tryz.prog 325 #[.int .u64 v] w fun e w' => e = .returned (.slice (some ⟨w.heap.size + 2,0,none⟩) (au v).length (au v).length) ∧
   Seg w' (some ⟨w.heap.size + 2,0,none⟩) (au v).length (au v).length (au v) ∧ Below w.heap.size w w' ∧ w.heap.size + 2 < w'.heap.size:=by
 go_enter Tryz.func325,Tryz.ntmps325
 go_wp2
 go_loopw [0,4] (fun x i wr => ∃ (k : Nat) (V : Int) (pre : List Int),k ≤ 9 ∧ i = .int .i64 k ∧ x = .int .u64 V ∧ pre.length = k ∧ 0 ≤ V ∧ V < 18446744073709551616 ∧ V * 128 ^ k < 18446744073709551616 ∧ au v = pre ++ uv (9 - k) V ∧ (∀ z ∈ pre,0 ≤ z ∧ z ≤ 255) ∧
   wr.ownsRow w.heap.size 379 1 (.slice (some ⟨w.heap.size,0,none⟩) 10 10) 10 ((pre ++ List.replicate (10 - k) 0).map (Value.int .u8)) ∧ Below w.heap.size w wr ∧ wr.heap.size = w.heap.size + 1) (fun x _ _ => (intOf x).toNat)
 case atStart =>
  exact ⟨0,v,[],ae,rfl,rfl,rfl,h0,h1,tI,rfl,ar,World.ownsRow_lit w _ 10 (Nat.le_refl _) aq rfl,(Below.refl _ _).alloc (Nat.le_refl _) _,ar⟩
 case round =>
  obtain ⟨k,V,pre,hk,rfl,rfl,hpl,hV0,hV1,hroom,huv,hpr,hown,hb,hsz⟩:=hrel
  have hcl : ∃ u,wr.cell? ⟨w.heap.size,k,none⟩ = some u:=by
   have:=hown.cellAt k ae
   exact ⟨_,this.trans (aD (by simp [hpl]; omega))⟩
  obtain ⟨u0,hcl⟩:=hcl;have hfz:=hown.frozenAt k
  have HS:=hid (fun c => EM c hk hpl hown hb)
  have HU:=hid huv;have HP:=hid hpl;have HR:=hid hroom;clear huv hown hb hpl hroom
  by_cases h128 : 128 ≤ V
  ·have hk8:=D7 V k HR.out hk h128;have hand:=Mk hV0 hV1;have hor:=OG (c:=V % 128) ae ae
   have HN:=hid (show au v = (pre ++ [V % 128 + 128]) ++ uv (9 - (k + 1)) (V / 128) by
    rw [HU.out,show 9 - k = 9 - (k + 1) + 1 by omega]
    have hn : ¬ V < 128:=ae
    simp [uv,hn])
   go_wp2;have R:=HS.out (V % 128 + 128)
   refine ⟨⟨k + 1,V / 128,pre ++ [V % 128 + 128],ae,bZ,rfl,by simp [HP.out],ae,ae,KY V k HR.out hV0,HN.out,?_,R.1,R.2,by simp [hsz]⟩,b9⟩
   intro z hz;exact z7
  ·have hsl:=ur w.heap.size k hk
   have HF:=hid (show au v = pre ++ [V] by
    rw [HU.out]
    cases h9 : 9 - k with
    | zero => rfl
    | succ f =>
     have hn : V < 128:=ae
     simp [uv,hn])
   have HJ:=hid (yq hk HP.out hV0 ae HF.out hpr (HS.out V).1 (HS.out V).2 (by simp [hsz]))
   go_wp2_with (first | (go_at_call 329; refine HJ.out.mono ?_; rintro e w' ⟨rfl,hseg,hbl,hz⟩))
   go_ret;exact ⟨rfl,hseg,hbl,hz⟩
theorem qR {w w' : World} {base : Nat} {v : Value} {n : Nat} {xs : List Value} (hown : w.ownsRow base 5 1 v n xs) (hg : w.grownBy w' v.ownBlock) (hbase : base ≤ w.heap.size) : Below base w w':=by
 refine ⟨hg.os,hg.tape,hg.output,hg.size,fun k hk => hg.block k ae ?_⟩
 rcases hown.2 with ⟨rfl,_⟩ | ⟨g,cap,cur,rfl,hbg,_⟩
 ·simp [Value.ownBlock]
 ·simp [Value.ownBlock]; omega
theorem oP (w : World) {ops : Array Oper} {rest : List Oper} {o : Oper} {a : Act} {Q : Exit → Act → World → Prop} (hgd : o.guard = none)
  (s x : Operand) (ho : o.op = Op.call { callee:=Callee.builtin Builtin.append,args:=#[s,x],argTypes:=#[63,63] }) (base : Nat) (v : Value) (n : Nat) (xs : List Int)
  (hs : a.eval s = v) (hown : w.ownsRow base 5 1 v n (xs.map (Value.int .u8))) (ao : Option Addr) (m c : Nat) (zs : List Int) (hx : a.eval x = .slice ao m c)
  (hseg : Seg w ao m c zs) (hnone : ao = none → c = 0) (hb : n + m ≤ 1099511627776) (hbase : base ≤ w.heap.size)
  (h : ∀ (v' : Value) (w' : World),w'.ownsRow base 5 1 v' (n + m) ((xs ++ zs).map (Value.int .u8)) → Below base w w' → wpList Tryz.prog ops Q rest (a.put o.dst v') w') :
  wpList Tryz.prog ops Q (o :: rest) a w:=by
 obtain ⟨i0,hi,hz0,hz1,hz2⟩:=info_parts Tryz.info5
 cases ao with
 | none =>
  have hc:=hnone rfl;subst hc
  have hm : m = 0:=by have:=hseg.2.1; omega
  subst hm;have hzs : zs = []:=List.eq_nil_of_length_eq_zero hseg.1;subst hzs;refine wpList_append_own_none hgd s x 63 ho base 5 i0 1 Tryz.underlying63 hi v n _ hs hown hx ?_;refine h v w ?_ (Below.refl _ _)
  simpa using hown
 | some ad =>
  refine wpList_append_own w hgd s x 63 ho base 5 i0 (.int .u8 0) 1 1 Tryz.underlying63 hi hz0 hz1 hz2 rfl aq v n _ hs hown ad m c (zs.map (Value.int .u8)) hx (by simp [hseg.1])
   (ko hseg ad rfl) (mY _) bP ae hbase ?_
  intro v' w' ho' hg _;refine h v' w' ?_ (qR hown hg hbase)
  rw [List.map_append]; exact ho'
theorem xt {w : World} {base : Nat} {v : Value} {n : Nat} {zs : List Int} (h : w.ownsRow base 5 1 v n (zs.map (Value.int .u8))) (hn : n ≤ 1099511627776) (hr : ∀ z ∈ zs,0 ≤ z ∧ z ≤ 255) :
  ∃ a c,v = .slice a n c ∧ Seg w a n c zs ∧ (a = none → c = 0):=by
 have hl : zs.length = n:=by have:=h.1; simpa using this
 rcases h.2 with ⟨rfl,rfl⟩ | ⟨g,cap,cur,rfl,hbg,hh,hnc,_⟩
 ·exact ⟨none,0,rfl,⟨hl,Nat.le_refl _,hn,hr,.inl rfl⟩,fun _ => rfl⟩
 ·exact ⟨_,cap,rfl,Ah h hl hn hr hnc,fun h => bG⟩
theorem IY (x : Int) (h0 : 0 ≤ x) (h1 : x < 18446744073709551616) : bits .xor .u64 x 18446744073709551615 = 18446744073709551615 - x:=by
 obtain ⟨a,rfl⟩:=Int.eq_ofNat_of_zero_le h0
 show IntKind.u64.wrap ((BitVec.ofInt 64 (a : Int) ^^^ BitVec.ofInt 64 18446744073709551615).toNat : Int) = _
 have e1 : BitVec.ofInt 64 18446744073709551615 = BitVec.allOnes 64:=aq;rw [e1,BitVec.xor_allOnes,BitVec.toNat_not,ofInt_u64 a ae,IntKind.wrap_u64];omega
theorem IM (x : Int) (h0 : 0 ≤ x) (h1 : x < 18446744073709551616) : bits .xor .u64 x 0 = x:=by
 obtain ⟨a,rfl⟩:=Int.eq_ofNat_of_zero_le h0
 show IntKind.u64.wrap ((BitVec.ofInt 64 (a : Int) ^^^ BitVec.ofInt 64 0).toNat : Int) = _
 have e1 : BitVec.ofInt 64 0 = 0#64:=aq;rw [e1,BitVec.xor_zero,ofInt_u64 a ae,IntKind.wrap_u64];omega
theorem Nl (v : Int) (h : 0 ≤ v) (h1 : v < 9223372036854775808) : bits .xor .u64 (v * 2) (v / 9223372036854775808) = fo v:=by
 have e : v / 9223372036854775808 = 0:=ae;rw [e,IM _ ae ae];unfold fo
 rw [if_neg ae]; omega
theorem MX (v : Int) (h : v < 0) (h0 : -9223372036854775808 ≤ v) : bits .xor .u64 (IntKind.u64.wrap (IntKind.u64.wrap v * 2)) (IntKind.u64.wrap (v / 9223372036854775808)) = fo v:=by
 have e : v / 9223372036854775808 = -1:=ae;rw [e];have e1 : IntKind.u64.wrap (-1) = 18446744073709551615:=aq
 have e2 : IntKind.u64.wrap (IntKind.u64.wrap v * 2) = 18446744073709551616 + 2 * v:=by
  rw [IntKind.wrap_u64,IntKind.wrap_u64]; omega
 rw [e1,e2,IY _ ae ae];unfold fo
 rw [if_pos h]; omega
theorem Mq (v : Int) (w : World) (h0 : -9223372036854775808 ≤ v) (h1 : v < 9223372036854775808) :
  Calls Tryz.prog 331 #[.int .i64 v] w fun e w' => e = .returned (.int .u64 (fo v)) ∧ w' = w:=by
 by_cases h : 0 ≤ v
 ·have HF:=hid (Nl v h h1);exact Az
 ·have HF:=hid (MX v ae h0);exact Az
theorem EO (v : Int) (w : World) (h0 : -9223372036854775808 ≤ v) (h1 : v < 9223372036854775808) :
  Calls Tryz.prog 327 #[.int .i64 v] w fun e w' => e = .returned (.slice (some ⟨w.heap.size + 2,0,none⟩) (au (fo v)).length (au (fo v)).length) ∧
   Seg w' (some ⟨w.heap.size + 2,0,none⟩) (au (fo v)).length (au (fo v)).length (au (fo v)) ∧ Below w.heap.size w w' ∧ w.heap.size + 2 < w'.heap.size:=by
 have hr:=vK v h0 h1;have HA:=hid (Mq v w h0 h1);have HB:=hid (sM (fo v) w hr.1 hr.2);clear hr;generalize fo v = u at *;generalize au u = l at *
 go_enter Tryz.func327,Tryz.ntmps327
 go_wp2_with fail;refine HA.out.mono ?_;rintro e w1 ⟨rfl,rfl⟩;go_wp2_with fail;refine HB.out.mono ?_;rintro e w2 ⟨rfl,hs,hb,hz⟩;go_wp2;go_ret;exact ⟨rfl,hs,hb,hz⟩
def bE (s : ByteArray) : List Int:=s.data.toList.map fun c => (c.toNat : Int)
theorem gP (s : ByteArray) : (bE s).length = s.size:=by
 rw [bE,List.length_map]; exact Array.length_toList
theorem qi (s : ByteArray) : ∀ z ∈ bE s,0 ≤ z ∧ z ≤ 255:=by
 intro z hz;obtain ⟨c,_,rfl⟩:=List.mem_map.1 hz
 have:=c.toNat_lt
 omega
theorem qd (w : World) (s : ByteArray) (hs : s.size ≤ 1000000) : ∃ c W,(convert 9 63 (.string s)).run Tryz.prog w = .ok (.slice (some ⟨w.heap.size,0,none⟩) s.size c) W ∧
  Seg W (some ⟨w.heap.size,0,none⟩) s.size c (bE s) ∧ Below w.heap.size w W ∧ W.heap.size = w.heap.size + 1:=by
 refine ⟨_,_,run_bytes_of_string w 9 63 5 s Tryz.underlying9 Tryz.underlying63 Tryz.underlying5,?_,?_,?_⟩
 ·refine ⟨gP s,grownCap_ge _ _ _ _,ae,qi s,.inr ⟨_,0,rfl,fun j hj => ?_⟩⟩
  have hj' : j < s.data.size:=hj;have hb:=bytesRow_at s (grownCap w s.size 0 5) j hj'
  have hlt : j < (bytesRow s (grownCap w s.size 0 5)).size:=by
   rcases Nat.lt_or_ge j (bytesRow s (grownCap w s.size 0 5)).size with h | h
   ·exact h
   ·rw [Array.getElem?_eq_none h] at hb; cases hb
  rw [Nat.zero_add];have : (w.drew.alloc (.cells (bytesRow s (grownCap w s.size 0 5)) 5 ((bytesRow s (grownCap w s.size 0 5)).size,(bytesRow s (grownCap w s.size 0 5)).size + 1))).cell? ⟨w.heap.size,j,none⟩ = (bytesRow s (grownCap w s.size 0 5))[j]? :=
   World.cell?_alloc_mark w.drew _ _ _ j
  rw [this,hb]
  have hjl : j < s.data.toList.length:=by rw [Array.length_toList]; exact hj'
  have e : (bE s).getD j 0 = ((s.data.toList[j]'hjl).toNat : Int):=by
   simp only [bE,List.getD_eq_getElem?_getD,List.getElem?_map,aD hjl,Option.map_some,Option.getD_some]
  rw [e,Array.getElem_toList]
 ·exact ((Below.refl _ _).drew).alloc ar _
 ·simp
theorem yw {w w1 W : World} {l : List Int} {s : ByteArray} {c : Nat} (h1 : Seg w1 (some ⟨w.heap.size + 2,0,none⟩) l.length l.length l) (b1 : Below w.heap.size w w1) (z1 : w.heap.size + 2 < w1.heap.size)
  (h2 : Seg W (some ⟨w1.heap.size,0,none⟩) s.size c (bE s)) (b2 : Below w1.heap.size w1 W) (z2 : W.heap.size = w1.heap.size + 1) (hl : 1 ≤ l.length) (hl10 : l.length ≤ 10) (hs : s.size ≤ 1000000) :
  Calls Tryz.prog 329 #[.slice (some ⟨W.heap.size,0,none⟩) 2 2]
   (W.alloc (.cells #[.slice (some ⟨w.heap.size + 2,0,none⟩) l.length l.length,.slice (some ⟨w1.heap.size,0,none⟩) s.size c] 63)) fun e w' =>
   e = .returned (.slice (some ⟨W.heap.size + 1,0,none⟩) (l.length + s.size) (l.length + s.size)) ∧
   Seg w' (some ⟨W.heap.size + 1,0,none⟩) (l.length + s.size) (l.length + s.size) (l ++ bE s) ∧ Below w.heap.size w w' ∧ w.heap.size ≤ W.heap.size + 1 ∧ W.heap.size + 1 < w'.heap.size:=by
 have hba : Below W.heap.size W (W.alloc (.cells #[.slice (some ⟨w.heap.size + 2,0,none⟩) l.length l.length,.slice (some ⟨w1.heap.size,0,none⟩) s.size c] 63)):=(Below.refl _ _).alloc (Nat.le_refl _) _;have hsz : (W.alloc (.cells #[.slice (some ⟨w.heap.size + 2,0,none⟩) l.length l.length,.slice (some ⟨w1.heap.size,0,none⟩) s.size c] 63)).heap.size = W.heap.size + 1:=ar
 have hc : cat (fun j => if j = 0 then l else bE s) 2 = l ++ bE s:=by simp [cat]
 have hlen : (l ++ bE s).length = l.length + s.size:=by rw [List.length_append,gP]
 have b1s:=b1.size
 have J:=GX W.heap.size 2 2 (fun j => if j = 0 then some ⟨w.heap.size + 2,0,none⟩ else some ⟨w1.heap.size,0,none⟩) (fun j => if j = 0 then l.length else s.size) (fun j => if j = 0 then l.length else c) (fun j => if j = 0 then l else bE s)
  (W.alloc (.cells #[.slice (some ⟨w.heap.size + 2,0,none⟩) l.length l.length,.slice (some ⟨w1.heap.size,0,none⟩) s.size c] 63)) ae
  (fun j hj => by
   rcases (show j = 0 ∨ j = 1 by omega) with rfl | rfl <;> simp)
  (fun j hj => by
   rcases (show j = 0 ∨ j = 1 by omega) with rfl | rfl
   ·exact ⟨(h1.later b2 (Nat.le_refl _)).later hba (Nat.le_refl _),fun h => bG⟩
   ·exact ⟨h2.later hba (Nat.le_refl _),fun h => bG⟩)
  (by rw [hc,hlen]; omega) (by rw [hsz]; omega) (by rw [hc,hlen]; omega)
 rw [hc,hlen,hsz] at J
 refine J.mono fun e w' ⟨he,hsg,hbl,hz⟩ => ⟨he,hsg,?_,ae,hz⟩
 exact ((b1.trans (b2.mono ae)).trans (hba.mono ae)).trans (hbl.mono ae)
theorem Ml (s : ByteArray) (w : World) (hs : s.size ≤ 1000000) :
  Calls Tryz.prog 328 #[.string s] w fun e w' => ∃ B,e = .returned (.slice (some ⟨B,0,none⟩) ((au s.size).length + s.size) ((au s.size).length + s.size)) ∧
   Seg w' (some ⟨B,0,none⟩) ((au s.size).length + s.size) ((au s.size).length + s.size) (au s.size ++ bE s) ∧ Below w.heap.size w w' ∧ w.heap.size ≤ B ∧ B < w'.heap.size:=by
 have HB:=hid (sM s.size w ae ae);have hl:=aC s.size;generalize au s.size = l at *
 go_enter Tryz.func328,Tryz.ntmps328
 go_wp2_with fail;refine HB.out.mono ?_;rintro e w1 ⟨rfl,hs1,hb1,hz1⟩;obtain ⟨c,W,hrun,hsg,hbw,hsz⟩:=qd w1 s hs;have HS1:=hid hs1;have HB1:=hid hb1;have HS2:=hid hsg;have HB2:=hid hbw;have HZ:=hid hsz;clear hs1 hb1 hsg hbw hsz;have HJ:=hid (yw (w:=w) HS1.out HB1.out hz1 HS2.out HB2.out HZ.out hl.1 ae hs);go_wp2_with fail;refine HJ.out.mono ?_;rintro e w2 ⟨rfl,hs2,hb2,hw,hz2⟩;go_wp2;go_ret;exact ⟨_,rfl,hs2,hb2,hw,hz2⟩
def isL (c : Int) : Bool:=decide (c = 119) || decide (c = 108)
theorem Ki {c : Int} (h : isL c = true) : c < 128:=by
 simp only [isL,Bool.or_eq_true,decide_eq_true_eq] at h; omega
theorem rF (c : Int) : (c = 119 ∧ isL c = true) ∨ (c = 108 ∧ isL c = true) ∨ ((c == 119) = false ∧ (c == 108) = false ∧ isL c = false):=by
 by_cases h : c = 119
 ·exact .inl ⟨h,by subst h; rfl⟩
 by_cases h' : c = 108
 ·exact .inr (.inl ⟨h',by subst h'; rfl⟩)
 ·exact .inr (.inr ⟨nM,by simpa using h',by simp [isL,h,h']⟩)
theorem mU (c : Int) (w : World) : Calls Tryz.prog 187 #[.int .u8 c] w fun e w' => e = .returned (.bool (isL c)) ∧ w' = w:=by
 rcases rF c with ⟨rfl,h⟩ | ⟨rfl,h⟩ | ⟨h1,h2,h⟩
 all_goals
  go_enter Tryz.func187,Tryz.ntmps187
  go_wp2;go_ret
  first | exact ⟨rfl,rfl⟩ | (rw [h]; simp_all)
def fP (v c : Int) : Bool:=decide (c = 108) || (decide (c = 119) && decide (v < 4294967296))
theorem Nw (v c : Int) (w : World) : Calls Tryz.prog 231 #[.int .u64 v,.int .u8 c] w fun e w' => e = .returned (.bool (fP v c)) ∧ w' = w:=by
 rcases rF c with ⟨rfl,h⟩ | ⟨rfl,h⟩ | ⟨h1,h2,h⟩
 all_goals
  go_enter Tryz.func231,Tryz.ntmps231
  go_wp2;go_ret
  first | exact ⟨rfl,rfl⟩ | (simp_all [fP])
theorem Oz (k m c : Int) (B : Nat) (w : World) (hm : w.cell? ⟨B,0,none⟩ = some (.int .i64 m)) :
  Calls Tryz.prog 235 #[.int .i64 k,.int .u8 c,.pointer (some ⟨B,0,none⟩)] w fun e w' => e = .returned (.bool (decide (k < m))) ∧ w' = w:=by
 go_enter Tryz.func235,Tryz.ntmps235
 go_wp2;go_ret;exact ⟨rfl,rfl⟩
end Go.Proofs.YtheefojaplnnoaaGreatDoor

/-
  Texts TLett TEach Heap Own Sh Code Plain ReadA ReadB ReadC Eq Join.
-/
import Derived.SevenTiedAt
import Derived.ChangeArms
import Derived.ChangeOld
import Derived.Deep.AppendLies
import Derived.Deep.AppendSrc
import Derived.Deep.CutRange
import Derived.Deep.DeepHandedRow
import Derived.Deep.OwnRows
import Derived.Deep.RegionWith
import Derived.Deep.Strs
import Derived.Defers
import Derived.FnData
import Derived.Ground.Names2Prog
import Derived.Handy
import Derived.JoinedOf
import Derived.LaidMore
import Derived.Laws.AppendOwnNone
import Derived.Laws.BytesArg
import Derived.Lay
import Derived.Lib.AppendIntMem
import Derived.Lib.Bytealg
import Derived.Lib.CutLaws
import Derived.Lib.ItoaLen
import Derived.Lib.LaidTab
import Derived.Lib.SlBytesConst
import Derived.LoopIn
import Derived.LoopNIn
import Derived.OpenShut
import Derived.OwnWalkIn
import Derived.ProofKit
import Derived.RangeFuncBox
import Derived.RangeFuncCalls
import Derived.RangeFuncLeaves
import Derived.RangeFuncWrites
import Derived.Recover
import Derived.RegionDies
import Derived.Shelf.Abstract
import Derived.Shelf.LaysM
import Derived.Shelf.RegionOpen
import Derived.Shelf.Slices.Cells
import Derived.Shelf.Slices.CompactI
import Derived.Shelf.Slices.In.SortNone
import Derived.Shelf.Small.Wraps
import Derived.Shelf.Sort.Plain
import Derived.Shelf.Strconv.Itoa0
import Derived.Shelf.Strconv.Itoa1
import Derived.Shelf.Strconv.Itoa2
import Derived.Shelf.Strconv.Itoa3
import Derived.Shelf.Strings.Prefix
import Derived.Shelf.Strings.Search1
import Derived.Shelf.Strings.Search2
import Derived.Shelf.Strings.Search3
import Derived.Shelf.Strings.Shaped
import Derived.Shelf.Unicode.DecodeSlow
import Derived.ShutString
import Derived.SizedLaws
import Derived.Sort.OwnSortedInts
import Derived.Stop.Joined
import Derived.Stop.LaidErr
import Derived.TacticsInMore
import Derived.WalkMore
import Derived.ArgAppend
import Derived.Below
import Derived.BigQuiet
import Derived.Deep.QuietTactic
import Derived.Deep.RegionHeld3
import Derived.KernelRfl
import Derived.Laws.BitsAllLaws
import Derived.Deep.RegionHeld
import Derived.OrdersHeld
import Derived.RowKit
import Derived.Test.YtepnnenohjfkbaaGreatDoorProg
import Derived.WalkKit
import Derived.WalkLawsBesides
import Derived.WalkSpells
set_option linter.unusedVariables false
set_option maxRecDepth 100000
set_option maxHeartbeats 16000000
namespace Go.Proofs.YtepnnenohjfkbaaGreatDoor
open Go.RowKit
theorem ae {P : Prop} (h : P:=by omega) : P:=h
theorem ak {P : Prop} (h : P:=by simp) : P:=h
theorem aw {P : Prop} (h : P:=by kernel_rfl) : P:=h
theorem aG {P : Prop} (h : P:=by simp; omega) : P:=h
theorem aH {P : Prop} (h : P:=by decide) : P:=h
theorem aX {P : Prop} (h : P:=by go_num) : P:=h
theorem aZ {P : Prop} (h : P:=by simp [intOf]; omega) : P:=h
theorem cd {P : Prop} (h : P:=by rw [HV.out]; rfl) : P:=h
theorem cE {P : Prop} (h : P:=by cases h) : P:=h
theorem cU {P : Prop} (h : P:=by assumption) : P:=h
theorem cx {P : Prop} (h : P:=by have : b = w.heap.size:=hx; omega) : P:=h
theorem cG {P : Prop} (h : P:=by unfold maxLen; omega) : P:=h
theorem cH {P : Prop} (h : P:=by simp <;> omega) : P:=h
theorem cP {P : Prop} (h : P:=by simp [go_sem]) : P:=h
theorem dM {P : Prop} (h : P:=by simp only [List.length_append,hdl,List.length_cons,List.length_nil]) : P:=h
theorem dR {P : Prop} (h : P:=by have:=B1.out.size; omega) : P:=h
theorem dS {P : Prop} (h : P:=by unfold wrap64; omega) : P:=h
theorem eF {P : Prop} (h : P:=by simp at h) : P:=h
theorem eH {P : Prop} (h : P:=by rw [List.length_append]; omega) : P:=h
theorem eY {P : Prop} (h : P:=by rw [World.cell?_alloc_new]; rfl) : P:=h
theorem fK {P : Prop} (h : P:=by simpa using W2.out) : P:=h
theorem fZ {P : Prop} (h : P:=by unfold Addr.add; split <;> simp_all) : P:=h
theorem fU {P : Prop} (h : P:=by rw [← hW0]; simp [go_sem]) : P:=h
theorem gh {P : Prop} (h : P:=by simpa using g0) : P:=h
theorem fV {P : Prop} (h : P:=by simpa using h0) : P:=h
theorem gI {P : Prop} (h : P:=by rw [bne,hq]; rfl) : P:=h
theorem gN {P : Prop} (h : P:=by rw [hz2]; omega) : P:=h
theorem gP {P : Prop} (h : P:=by exact block_lt_of_cell hA) : P:=h
theorem gF {P : Prop} (h : P:=by rw [hc]; decide) : P:=h
theorem gK {P : Prop} (h : P:=by first | omega | (simp; omega)) : P:=h
theorem gD {P : Prop} (h : P:=by simp only; omega) : P:=h
theorem iH {P : Prop} (h : P:=by simp only [List.length_append]; omega) : P:=h
theorem ju {P : Prop} (h : P:=by cases e) : P:=h
theorem jA {P : Prop} (h : P:=by rw [hs]; rfl) : P:=h
theorem jy {P : Prop} (h : P:=by cases hx) : P:=h
theorem jb {P : Prop} (h : P:=by simpa using hown) : P:=h
theorem jT {P : Prop} (h : P:=by simpa using hn) : P:=h
theorem kG {P : Prop} (h : P:=by simp [Addr.add]) : P:=h
theorem jZ {P : Prop} (h : P:=by simpa using h) : P:=h
theorem j4 {P : Prop} (h : P:=by rw [hc]; rfl) : P:=h
theorem kj {P : Prop} (h : P:=by have : b = w.heap.size + 1:=hx; omega) : P:=h
theorem l9 {P : Prop} (h : P:=by have:=HNE.out b off c h; simp; omega) : P:=h
theorem lD {P : Prop} (h : P:=by simpa using h6) : P:=h
theorem lW {P : Prop} (h : P:=by simpa using h1) : P:=h
theorem lM {P : Prop} (h : P:=by have:=ax hi; simp at this; omega) : P:=h
theorem lK {P : Prop} (h : P:=by rw [hO]; decide) : P:=h
theorem lI {P : Prop} (h : P:=by simpa using HBy.out) : P:=h
theorem mh {P : Prop} (h : P:=by rw [List.length_take]; omega) : P:=h
theorem oL {P : Prop} (h : P:=by rw [h0]; rfl) : P:=h
theorem qL {P : Prop} (h : P:=by rw [hOf]; decide) : P:=h
theorem nY {P : Prop} (h : P:=by simpa using hj) : P:=h
theorem nR {P : Prop} (h : P:=by exact block_lt_of_cell hO) : P:=h
theorem oJ {P : Prop} (h : P:=by simpa using hY) : P:=h
theorem oK {P : Prop} (h : P:=by rw [List.mem_range]; omega) : P:=h
theorem nJ {P : Prop} (h : P:=by simp [mq]) : P:=h
theorem nK {P : Prop} (h : P:=by rw [NQ,ck]; rfl) : P:=h
theorem oI {P : Prop} (h : P:=by rw [NL,ck]; rfl) : P:=h
theorem nN {P : Prop} (h : P:=by rw [Ny,ck]; rfl) : P:=h
theorem nZ {P : Prop} (h : P:=by have h1:=ax hj; rw [List.getElem?_take] at hj; split at hj; exact hj; cases hj) : P:=h
theorem nO {P : Prop} (h : P:=by simpa using hz) : P:=h
theorem nS {P : Prop} (h : P:=by have : k = w.heap.size:=hx; omega) : P:=h
theorem om {P : Prop} (h : P:=by rw [hm]; rfl) : P:=h
theorem rL {P : Prop} (h : P:=by rw [HIN.out,HDR.out,HEND.out]; rfl) : P:=h
theorem pZ {P : Prop} (h : P:=by rw [HR.out]; rfl) : P:=h
theorem Hu {P : Prop} (h : P:=by rw [her]; decide) : P:=h
theorem ry {P : Prop} (h : P:=by simpa [Value.ownBlock] using hb) : P:=h
theorem qU {P : Prop} (h : P:=by decide +kernel) : P:=h
theorem qh {P : Prop} (h : P:=by rw [List.length_append,List.length_append]; omega) : P:=h
theorem qm {P : Prop} (h : P:=by rw [ho,World.cell?_alloc_new]; rfl) : P:=h
theorem qo {P : Prop} (h : P:=by simpa using h4) : P:=h
theorem qO {P : Prop} (h : P:=by simpa using h5) : P:=h
theorem rK {P : Prop} (h : P:=by have:=congrArg Addr.block e; simp at this; omega) : P:=h
theorem rR {P : Prop} (h : P:=by have:=ax hj; simp at this; omega) : P:=h
theorem uy {P : Prop} (h : P:=by have e0:=J9 (l:=m.types) PT.out.1; have e1:=Fi (l:=m.fns) PF.out.1; have e2:=Kk (l:=m.data) PD.out.1; have e3:=JX (l:=m.exps) PE.out.1; have f1:=HF1.out; have f2:=HF2.out; have f3:=HF3.out; have f4:=HF4.out; omega) : P:=h
theorem vQ {P : Prop} (h : P:=by rw [hx] at hk; simpa using hk) : P:=h
theorem vG {P : Prop} (h : P:=by first | rfl | trivial) : P:=h
theorem uC {P : Prop} (h : P:=by exact Nat.lt_of_lt_of_le hlt hB) : P:=h
theorem vR {P : Prop} (h : P:=by simp [results,Tryz.results325,go_sem]) : P:=h
theorem wN {P : Prop} (h : P:=by simpa [List.append_assoc] using hw') : P:=h
theorem wC {P : Prop} (h : P:=by simpa using z0) : P:=h
theorem vN {P : Prop} (h : P:=by first | rfl | exact d) : P:=h
theorem uj {P : Prop} (h : P:=by have:=oM hp; rw [this] at c2; omega) : P:=h
theorem ui {P : Prop} (h : P:=by have:=h.lt; omega) : P:=h
theorem vL {P : Prop} (h : P:=by simpa using hO) : P:=h
theorem uJ {P : Prop} (h : P:=by rw [hcO]; exact h5) : P:=h
theorem t6 {P : Prop} (h : P:=by rw [hcO]; exact h6) : P:=h
theorem uY {P : Prop} (h : P:=by rw [HLL.out]; exact hkl) : P:=h
theorem uQ {P : Prop} (h : P:=by simp [mq] at hj) : P:=h
theorem uh {P : Prop} (h : P:=by rw [Nq,ck]; rfl) : P:=h
theorem vg {P : Prop} (h : P:=by rw [HV.out,HX.out]; rfl) : P:=h
theorem uB {P : Prop} (h : P:=by rw [← h,List.take_length]) : P:=h
theorem zU {P : Prop} (h : P:=by rw [List.getElem?_take_of_lt hik]; exact hi) : P:=h
theorem Az {P : Prop} (h : P:=by rw [HV.out,HY.out]; rfl) : P:=h
theorem Be {P : Prop} (h : P:=by exact block_lt_of_cell f2) : P:=h
theorem zB {P : Prop} (h : P:=by simp [Value.ownBlock] at hB; simp; omega) : P:=h
theorem Ad {P : Prop} (h : P:=by have:=hne b off c h; simp; omega) : P:=h
theorem zI {P : Prop} (h : P:=by rw [e,h1'] at hO; cases hO) : P:=h
theorem zA {P : Prop} (h : P:=by rw [hcO]; simpa using hO) : P:=h
theorem Av {P : Prop} (h : P:=by rw [hop,World.cell?_alloc_new]; rfl) : P:=h
theorem zY {P : Prop} (h : P:=by rw [hbk]; simp; omega) : P:=h
theorem uA {P : Prop} (h : P:=by simp [Value.ownBlock]) : P:=h
theorem vW {P : Prop} (h : P:=by have:=(lJ HO.out hb).1; omega) : P:=h
theorem uF {P : Prop} (h : P:=by have:=f0; rwa [Nat.zero_add] at this) : P:=h
theorem tU {P : Prop} (h : P:=by have:=f1; rwa [Nat.zero_add] at this) : P:=h
theorem CR {P : Prop} (h : P:=by have h1:=lJ ho hb; have:=hS b hs; omega) : P:=h
theorem Cz {P : Prop} (h : P:=by have:=VL.out.g_lt; have:=V6.out.g_lt; omega) : P:=h
theorem Er {P : Prop} (h : P:=by rw [List.mem_singleton] at hz; subst hz; exact ⟨har.1,har.2.1⟩) : P:=h
theorem Dn {P : Prop} (h : P:=by rw [← hz1]; exact ai (heap_alloc_new _ _)) : P:=h
theorem Br {P : Prop} (h : P:=by unfold e4 iP at h4; split at h4; cases h4; omega) : P:=h
theorem Ef {P : Prop} (h : P:=by unfold bE; rw [ht,Int.toNat_natCast,gY hP]) : P:=h
theorem Em {P : Prop} (h : P:=by rw [hnx]; simpa only [List.append_assoc,List.cons_append,List.nil_append,gH] using P1) : P:=h
theorem Dq {P : Prop} (h : P:=by rw [hnx]; simpa only [List.append_assoc,List.cons_append,List.nil_append,fO] using P2) : P:=h
theorem Et {P : Prop} (h : P:=by rw [hnx]; simpa only [List.append_assoc,List.cons_append,List.nil_append,gM] using P1) : P:=h
theorem D3 {P : Prop} (h : P:=by rw [hnx]; simpa only [List.append_assoc,List.cons_append,List.nil_append,fX] using P0) : P:=h
theorem CF {P : Prop} (h : P:=by rw [hnx]; simpa only [List.append_assoc,List.cons_append,List.nil_append,kD] using P0) : P:=h
theorem DW {P : Prop} (h : P:=by rw [hnx]; simpa only [List.append_assoc,List.cons_append,List.nil_append,iK] using P0) : P:=h
theorem bh {P : Prop} (h : P:=by rw [hb1.cell ak]; simp [go_sem]) : P:=h
theorem pY {P : Prop} (h : P:=by rw [← HT.out.rest,Ep hlt Hu,her]) : P:=h
theorem Du {P : Prop} (h : P:=by rw [d9 p 256 8 ae s1]; exact l1) : P:=h
theorem DT {P : Prop} (h : P:=by rw [HK.out,List.drop_eq_nil_of_le ae]; trivial) : P:=h
theorem DC {P : Prop} (h : P:=by rw [d9 lo 256 64 ae ae]; exact hlt) : P:=h
theorem BV {P : Prop} (h : P:=by have q:=F6.out b off c hb'; exact ⟨ae,q.2.1,ae⟩) : P:=h
theorem Dp {P : Prop} (h : P:=by have q:=HM.out.ff.at TL.out.s b off c hb'; have q2:=HM.out.ff b off c hb'; have:=TL.out.s.size; exact ⟨q.1,q.2,ae⟩) : P:=h
theorem D5 {P : Prop} (h : P:=by unfold er; rw [if_neg qL,if_pos hO5,hs]) : P:=h
theorem Cc {P : Prop} (h : P:=by rw [List.getD_eq_getElem?_getD,List.getElem?_eq_getElem ae]; exact List.getElem_mem _) : P:=h
theorem DJ {P : Prop} (h : P:=by unfold er; rw [hcO,if_pos hO,if_neg ae]) : P:=h
theorem aN {α : Type _} {l : List α} {i : Nat} (h : i < l.length) : l[i]? = some l[i]:=List.getElem?_eq_getElem h
theorem Ns {P : Prop} (h : P:=by
  clear hlt;go_wp2_with fail
  go_loopw [3,5] (fun s i wr => ∃ k z : Nat,k ≤ m.fn ∧ s = .int .i64 (z : Nat) ∧ i = .int .i64 k ∧ (∃ q,wr = W0.drewN q) ∧ z ≤ 1125899906842624 ∧ Hid (z1 + jG (m.fns.take k) ≤ z)) (fun _ i _ => m.fn - (intOf i).toNat)
  case atStart => exact ⟨0,z1,ae,rfl,rfl,⟨_,rfl⟩,ae,hid (by simp [jG])⟩
  case round =>
   obtain ⟨k,z2,hk,rfl,rfl,⟨q2,rfl⟩,hz2,HF2⟩:=hrel
   by_cases hlt : k < m.fn
   ·have hlt' : (k : Int) < (m.fn : Int):=ae
    by_cases hbd : z2 ≤ 2147483647
    ·obtain ⟨x,hxk⟩ : ∃ x,m.fns[k]? = some x:=⟨_,aN (by rw [PF.out.1]; exact hlt)⟩
     obtain ⟨b,off,hfa,hat⟩:=PF.out.2.resolve_left ae;have hat:=hat k x hxk;have hu:=UF.out k x hxk;have hk0 : (0 : Int) ≤ (k : Int):=ae;have hbd' : (z2 : Int) ≤ 2147483647:=ae;have hbq : decide ((z2 : Int) ≤ 2147483647) = true:=decide_eq_true hbd';rw [hfa] at m5;obtain ⟨_,g0,g1⟩:=hat
     have H29 : Hid (∀ n,Calls Tryz.prog 29 #[.slice x.2.2.1.1 x.2.2.1.2.1 x.2.2.1.2.2] (W0.drewN (q2 + n)) fun e w'' => e = .returned (.int .i64 (szG x.2.2.2 x.2.2.1.2.1 : Nat)) ∧ ∃ n',w'' = W0.drewN (q2 + n')):=hid (fun (n : Nat) => (Nn x.2.2.1.1 x.2.2.1.2.1 x.2.2.1.2.2 x.2.2.2 (W0.drewN (q2 + n)) hu.2.1 ((PI.out k x hxk).kept (az (S:=fun _ => False) (below_drewN W0 (q2 + n))) (fun _ _ _ _ => id)) hu.2.2.2).mono fun e w' ⟨he,q,hq⟩ => ⟨he,n + q,by rw [hq,World.drewN_drewN,Nat.add_assoc]⟩)
     have hsg:=Es x.2.2.2 x.2.2.1.2.1 hu.2.2.2 ae;have hsl : ((szG x.2.2.2 x.2.2.1.2.1 : Nat) : Int) ≤ 281474976710656:=ae;rw [hfa];go_wp2_with fail
     go_quiet ((go_at_call 29; exact H29.out _))
     go_wp2_with fail
     exact ⟨⟨k + 1,z2 + x.2.1.size + szG x.2.2.2 x.2.2.1.2.1,ae,aX,aX,⟨_,rfl⟩,ae,hid (by have:=HF2.out; rw [Ab hxk]; omega)⟩,aZ⟩
    ·have hbd' : ¬ (z2 : Int) ≤ 2147483647:=ae;have hbq : decide ((z2 : Int) ≤ 2147483647) = false:=decide_eq_false hbd';clear hlt;go_wp2_with fail
     go_loopw [3,6] (fun s i wr => ∃ k z : Nat,k ≤ m.dn ∧ s = .int .i64 (z : Nat) ∧ i = .int .i64 k ∧ (∃ q,wr = W0.drewN q) ∧ z ≤ 1125899906842624 ∧ Hid (z2 + nU (m.data.take k) ≤ z)) (fun _ i _ => m.dn - (intOf i).toNat)
     case atStart => exact ⟨0,z2,ae,rfl,rfl,⟨_,rfl⟩,ae,hid (by simp [nU])⟩
     case round =>
      obtain ⟨k,z3,hk,rfl,rfl,⟨q3,rfl⟩,hz3,HF3⟩:=hrel
      by_cases hlt : k < m.dn
      ·exact DR
      ·obtain rfl : k = m.dn:=ae;clear hlt;go_wp2_with fail
       go_loopw [3,7] (fun s i wr => ∃ k z : Nat,k ≤ m.en ∧ s = .int .i64 (z : Nat) ∧ i = .int .i64 k ∧ (∃ q,wr = W0.drewN q) ∧ z ≤ 1125899906842624 ∧ Hid (z3 + lV (m.exps.take k) ≤ z)) (fun _ i _ => m.en - (intOf i).toNat)
       case atStart => exact ⟨0,z3,ae,rfl,rfl,⟨_,rfl⟩,ae,hid (by simp [lV])⟩
       case round =>
        obtain ⟨k,z4,hk,rfl,rfl,⟨q4,rfl⟩,hz4,HF4⟩:=hrel
        by_cases hlt : k < m.en
        ·exact DX
        ·obtain rfl : k = m.en:=ae;exact CG
   ·obtain rfl : k = m.fn:=ae;clear hlt;go_wp2_with fail
    go_loopw [3,6] (fun s i wr => ∃ k z : Nat,k ≤ m.dn ∧ s = .int .i64 (z : Nat) ∧ i = .int .i64 k ∧ (∃ q,wr = W0.drewN q) ∧ z ≤ 1125899906842624 ∧ Hid (z2 + nU (m.data.take k) ≤ z)) (fun _ i _ => m.dn - (intOf i).toNat)
    case atStart => exact ⟨0,z2,ae,rfl,rfl,⟨_,rfl⟩,ae,hid (by simp [nU])⟩
    case round =>
     obtain ⟨k,z3,hk,rfl,rfl,⟨q3,rfl⟩,hz3,HF3⟩:=hrel
     by_cases hlt : k < m.dn
     ·exact DR
     ·obtain rfl : k = m.dn:=ae;clear hlt;go_wp2_with fail
      go_loopw [3,7] (fun s i wr => ∃ k z : Nat,k ≤ m.en ∧ s = .int .i64 (z : Nat) ∧ i = .int .i64 k ∧ (∃ q,wr = W0.drewN q) ∧ z ≤ 1125899906842624 ∧ Hid (z3 + lV (m.exps.take k) ≤ z)) (fun _ i _ => m.en - (intOf i).toNat)
      case atStart => exact ⟨0,z3,ae,rfl,rfl,⟨_,rfl⟩,ae,hid (by simp [lV])⟩
      case round =>
       obtain ⟨k,z4,hk,rfl,rfl,⟨q4,rfl⟩,hz4,HF4⟩:=hrel
       by_cases hlt : k < m.en
       ·exact DX
       ·obtain rfl : k = m.en:=ae;clear hlt;go_wp2_with fail;go_ret
        exact ⟨z4,rfl,BW.out.trans (BW2.out _),fun h4 => uy⟩
 ) : P:=h
theorem NK {P : Prop} (h : P:=by
  refine tkB (i:=13) (oi:={ dst:=some 21,op:=.assign (.tmp 154),type:=4,pos:= "rows.go:146",after:=#[⟨10,.data⟩,⟨12,.chain⟩,⟨0,.phase⟩,⟨1,.phase⟩,⟨2,.phase⟩,⟨3,.phase⟩,⟨4,.phase⟩,⟨5,.phase⟩,⟨6,.phase⟩,⟨7,.phase⟩,⟨8,.phase⟩,⟨9,.phase⟩,⟨10,.phase⟩,⟨11,.phase⟩,⟨12,.phase⟩],guard:=none }) (d:=some 21) ?_;(try simp only [Act.put,sIB,sC0,sCs]);refine wpAnyH_done aw ?_ _;have g0 : W6.cell? ⟨G,0,none⟩ = some (.int .u8 lt):=ai gB;have g1 : W6.cell? ⟨G,1,none⟩ = some (.bool mu):=ai gB
  have hGw : w.heap.size ≠ G:=fun e => by rw [← e,rb6] at gB; cases gB
  have HBS:=hid hS.2.2;have RB6:=hid rb6;clear gB hS rb6;go_wp2_with fail
  refine wp_region_held_drew (S:=glS G lt mu w) aw ⟨g0,g1,HBS.out.drew⟩ (fun hHeld => ?_)
  clear g0 g1;refine tkB (i:=0) (oi:={ dst:=some 155,op:=.move (.tmp 7),type:=9,pos:= "rows.go:147",after:=#[],guard:=none }) (d:=some 155) ?_;(try simp only [Act.put,sIB,sC0,sCs]);refine tkB (i:=1) (oi:={ dst:=some 156,op:=.fieldAddr 141 (.tmp 20) 0,type:=0,pos:= "rows.go:147",after:=#[],guard:=none }) (d:=some 156) ?_;(try simp only [Act.put,sIB,sC0,sCs]);refine tkB (i:=2) (oi:={ dst:=some 157,op:=.load 5 (.tmp 156),type:=5,pos:= "rows.go:147",after:=#[⟨1,.data⟩],guard:=none }) (d:=some 157) ?_;(try simp only [Act.put,sIB,sC0,sCs]);refine tkB (i:=4) (oi:={ dst:=some 159,op:=.move (.tmp 21),type:=4,pos:= "rows.go:147",after:=#[],guard:=none }) (d:=some 159) ?_;(try simp only [Act.put,sIB,sC0,sCs]);refine rdY (rs:=[3]) ?_
  refine rdA (o:={ dst:=some 158,op:=.call { callee:=.value (.func 259),args:=#[.tmp 155,.tmp 157],argTypes:=#[9,5] },type:=206,pos:= "rows.go:147",after:=#[⟨0,.data⟩,⟨2,.data⟩],guard:=none }) (fun K hK => ?_) rN
  go_simp;refine (HG.out _ hHeld.2.2).mono ?_;rintro e w7 ⟨rfl,hb7⟩;have hS7:=glS.later hHeld hb7;have r7:=ar hb7 (show W6.drew.heap[w.heap.size]? = _ from RB6.out);have x0 : w7.cell? ⟨w.heap.size,0,none⟩ = some (.string ⟨#[]⟩):=ai r7;have x2 : w7.cell? ⟨w.heap.size,1,none⟩ = some (.string ⟨#[]⟩):=ai r7;have f0 : w7.frozen? ⟨w.heap.size,0,none⟩ = false:=free_at r7;have f1 : w7.frozen? ⟨w.heap.size,1,none⟩ = false:=free_at r7
  refine hK.out _ _ hS7 (fun _ => ?_)
  clear hK K hb7 hHeld r7;refine tkB (i:=5) (oi:={ dst:=some 160,op:=.move (.tmp 159),type:=4,pos:= "rows.go:147",after:=#[⟨4,.data⟩,⟨3,.chain⟩],guard:=none }) (d:=some 160) ?_;try simp only [Act.put,sIB,sC0,sCs]
  first | refine tkB (i:=6) (oi:={ dst:=some 161,op:=.move (.tmp 7),type:=9,pos:= "rows.go:147",after:=#[⟨5,.guard⟩],guard:=some (5,true) }) (d:=some 161) ?_ (hw:=by rfl) | refine tkU (i:=6) (oi:={ dst:=some 161,op:=.move (.tmp 7),type:=9,pos:= "rows.go:147",after:=#[⟨5,.guard⟩],guard:=some (5,true) }) (d:=some 161) ?_
  try simp only [Act.put,sIB,sC0,sCs]
  first | refine tkB (i:=7) (oi:={ dst:=some 162,op:=.binOp Go.BinOp.eql 9 (.tmp 161) (.const (Go.Value.string { data:=#[103,103,101,116] })) 9,type:=4,pos:= "rows.go:147",after:=#[⟨6,.data⟩,⟨5,.guard⟩],guard:=some (5,true) }) (d:=some 162) ?_ (hw:=by rfl) | refine tkU (i:=7) (oi:={ dst:=some 162,op:=.binOp Go.BinOp.eql 9 (.tmp 161) (.const (Go.Value.string { data:=#[103,103,101,116] })) 9,type:=4,pos:= "rows.go:147",after:=#[⟨6,.data⟩,⟨5,.guard⟩],guard:=some (5,true) }) (d:=some 162) ?_
  try simp only [Act.put,sIB,sC0,sCs]
  first | refine tkB (i:=8) (oi:={ dst:=some 163,op:=.move (.tmp 162),type:=4,pos:= "rows.go:147",after:=#[⟨7,.data⟩,⟨5,.chain⟩,⟨5,.guard⟩],guard:=some (5,true) }) (d:=some 163) ?_ (hw:=by rfl) | refine tkU (i:=8) (oi:={ dst:=some 163,op:=.move (.tmp 162),type:=4,pos:= "rows.go:147",after:=#[⟨7,.data⟩,⟨5,.chain⟩,⟨5,.guard⟩],guard:=some (5,true) }) (d:=some 163) ?_
  try simp only [Act.put,sIB,sC0,sCs]
  first | refine tkB (i:=9) (oi:={ dst:=some 164,op:=.fieldAddr 141 (.tmp 20) 1,type:=0,pos:= "rows.go:147",after:=#[⟨8,.guard⟩,{ on:=13,ground:=.gcOnly Go.Departure.lateStores }],guard:=some (8,false) }) (d:=some 164) ?_ (hw:=by rfl) | refine tkU (i:=9) (oi:={ dst:=some 164,op:=.fieldAddr 141 (.tmp 20) 1,type:=0,pos:= "rows.go:147",after:=#[⟨8,.guard⟩,{ on:=13,ground:=.gcOnly Go.Departure.lateStores }],guard:=some (8,false) }) (d:=some 164) ?_
  try simp only [Act.put,sIB,sC0,sCs]
  first | refine tkB (i:=10) (oi:={ dst:=some 165,op:=.load 4 (.tmp 164),type:=4,pos:= "rows.go:147",after:=#[⟨9,.data⟩,⟨8,.guard⟩,{ on:=13,ground:=.gcOnly Go.Departure.lateStores }],guard:=some (8,false) }) (d:=some 165) ?_ (hw:=by rfl) | refine tkU (i:=10) (oi:={ dst:=some 165,op:=.load 4 (.tmp 164),type:=4,pos:= "rows.go:147",after:=#[⟨9,.data⟩,⟨8,.guard⟩,{ on:=13,ground:=.gcOnly Go.Departure.lateStores }],guard:=some (8,false) }) (d:=some 165) ?_
  try simp only [Act.put,sIB,sC0,sCs]
  first | refine tkB (i:=11) (oi:={ dst:=some 166,op:=.pick (.tmp 163) (.const (Go.Value.bool true)) (.tmp 165),type:=4,pos:= "rows.go:147",after:=#[⟨8,.data⟩,⟨10,.data⟩,⟨5,.guard⟩,{ on:=13,ground:=.gcOnly Go.Departure.lateStores }],guard:=some (5,true) }) (d:=some 166) ?_ (hw:=by rfl) | refine tkU (i:=11) (oi:={ dst:=some 166,op:=.pick (.tmp 163) (.const (Go.Value.bool true)) (.tmp 165),type:=4,pos:= "rows.go:147",after:=#[⟨8,.data⟩,⟨10,.data⟩,⟨5,.guard⟩,{ on:=13,ground:=.gcOnly Go.Departure.lateStores }],guard:=some (5,true) }) (d:=some 166) ?_
  (try simp only [Act.put,sIB,sC0,sCs]);refine tkB (i:=12) (oi:={ dst:=some 167,op:=.pick (.tmp 160) (.tmp 166) (.const (Go.Value.bool false)),type:=4,pos:= "rows.go:147",after:=#[⟨5,.data⟩,⟨11,.data⟩,{ on:=13,ground:=.gcOnly Go.Departure.lateStores }],guard:=none }) (d:=some 167) ?_;(try simp only [Act.put,sIB,sC0,sCs]);refine rdY (rs:=[13]) ?_
  refine rdA (o:={ dst:=none,op:=.store 206 (.tmp 4) (.tmp 158),type:=0,pos:= "rows.go:147",after:=#[⟨3,.data⟩,⟨8,.chain⟩,⟨0,.phase⟩,⟨1,.phase⟩,⟨2,.phase⟩,⟨3,.phase⟩,{ on:=4,ground:=.textOnly Go.Departure.lateStores },{ on:=5,ground:=.textOnly Go.Departure.lateStores },{ on:=6,ground:=.textOnly Go.Departure.lateStores },{ on:=7,ground:=.textOnly Go.Departure.lateStores },{ on:=8,ground:=.textOnly Go.Departure.lateStores },{ on:=9,ground:=.textOnly Go.Departure.lateStores },{ on:=10,ground:=.textOnly Go.Departure.lateStores },{ on:=11,ground:=.textOnly Go.Departure.lateStores },{ on:=12,ground:=.textOnly Go.Departure.lateStores }],guard:=none }) (fun K hK => ?_) rN
  go_simp;have hS8:=(hS7.put (j:=0) (u:=.string Pa) hGw.symm).put (j:=1) (u:=.string Re) hGw.symm
  refine hK.out _ _ hS8 (fun _ => ?_)
  clear hK K;refine tkB (i:=14) (oi:={ dst:=some 5,op:=.assign (.tmp 167),type:=4,pos:= "rows.go:147",after:=#[⟨12,.data⟩,⟨13,.chain⟩,⟨0,.phase⟩,⟨1,.phase⟩,⟨2,.phase⟩,⟨3,.phase⟩,⟨4,.phase⟩,⟨5,.phase⟩,⟨6,.phase⟩,⟨7,.phase⟩,⟨8,.phase⟩,⟨9,.phase⟩,⟨10,.phase⟩,⟨11,.phase⟩,⟨12,.phase⟩,⟨13,.phase⟩],guard:=none }) (d:=some 5) ?_;(try simp only [Act.put,sIB,sC0,sCs]);refine wpAnyH_done aw ?_ _;go_wp2_with fail;refine bodyPost_ret (v:=.tuple #[.agg #[.string Pa,.string Re],.bool _]) ?_ rfl ⟨rfl,hS8.2.2⟩;rw [results_cell_tmp rfl];go_simp
 ) : P:=h
theorem NF {P : Prop} (h : P:=by
  obtain ⟨j,ys,aa,ac,g3,eT,hj,rfl,rfl,hyl,hys,hrow,hab,hwr,hst⟩:=hrel;have HY:=hid hys;have HRW:=hid hrow;have HAB:=hid hab;have HWR:=hid hwr;have HST:=hid hst;clear hys hrow hab hwr hst W2 S2;have hlt : j < n:=ae
  ·obtain ⟨x,hx⟩ : ∃ x,xs[j]? = some x:=⟨_,aN ae⟩
   obtain ⟨b,off,rfl,hcell⟩:=(HM.out.kept HST.out.k (fun b off c h => l9)).2.resolve_left ae
   have hcj:=hcell j x hx;have hbl:=block_lt_of_cell hcj.1;clear hcell;obtain ⟨v0,v1,v2⟩:=hcj;have BN:=hid (aj wr (cL x))
   by_cases hjk : j < k
   ·exact Dl
   ·obtain rfl : j = k:=ae;obtain rfl : x = xk:=vQ
    have HC1:=hid (HN.out ys (wr.alloc (cL x)) g3 eT aa ac hyl HY.out (HST.out.trans (Stp.of_below BN.out)) (HWR.out.later BN.out) (aU HRW.out (fun B hB => BN.out.block B (aO HRW.out hB))) HAB.out)
    go_wp2_with fail;refine HC1.out.mono ?_;rintro e w5 ⟨⟨p,rfl⟩,hk5⟩;exact ⟨rfl,⟨p,rfl⟩,(HST.out.trans (Stp.of_below BN.out)).throw hk5⟩
 ) : P:=h
theorem LG {P : Prop} (h : P:=by
  obtain ⟨j,ys,aa,ac,g3,eT,hj,rfl,rfl,hyl,hys,hrow,hab,hwr,hst⟩:=hrel;have HY:=hid hys;have HRW:=hid hrow;have HAB:=hid hab;have HWR:=hid hwr;have HST:=hid hst;clear hys hrow hab hwr hst W2 S2;have hlt : j < n:=ae
  ·obtain ⟨x,hx⟩ : ∃ x,xs[j]? = some x:=⟨_,aN ae⟩
   obtain ⟨b,off,rfl,hcell⟩:=(HM.out.kept HST.out.k (fun b off c h => l9)).2.resolve_left ae
   have hcj:=hcell j x hx;have hbl:=block_lt_of_cell hcj.1;clear hcell;obtain ⟨v0,v1⟩:=hcj;have BN:=hid (aj wr (cL x))
   by_cases hjk : j < k
   ·exact Dl
   ·obtain rfl : j = k:=ae;obtain rfl : x = xk:=vQ
    have HC1:=hid (HN.out ys (wr.alloc (cL x)) g3 eT aa ac hyl HY.out (HST.out.trans (Stp.of_below BN.out)) (HWR.out.later BN.out) (aU HRW.out (fun B hB => BN.out.block B (aO HRW.out hB))) HAB.out)
    go_wp2_with fail;refine HC1.out.mono ?_;rintro e w5 ⟨⟨p,rfl⟩,hk5⟩;exact ⟨rfl,⟨p,rfl⟩,(HST.out.trans (Stp.of_below BN.out)).throw hk5⟩
 ) : P:=h
theorem Nr {P : Prop} (h : P:=by
  obtain ⟨j,ys,aa,ac,g3,eT,hj,rfl,rfl,hyl,hys,hrow,hab,hwr,hst⟩:=hrel;have HY:=hid hys;have HRW:=hid hrow;have HAB:=hid hab;have HWR:=hid hwr;have HST:=hid hst;clear hys hrow hab hwr hst W2 S2
  by_cases hlt : j < n
  ·obtain ⟨x,hx⟩ : ∃ x,xs[j]? = some x:=⟨_,aN ae⟩
   obtain ⟨b,off,rfl,hcell⟩:=(HM.out.kept HST.out.k (fun b off c h => l9)).2.resolve_left ae
   have hcj:=hcell j x hx;have hbl:=block_lt_of_cell hcj.1;clear hcell;obtain ⟨v0,v1,v2⟩:=hcj;exact BP
  ·obtain rfl : j = n:=ae;have hxs : xs.take j = xs:=List.take_of_length_le ae;go_wp2_with fail;go_ret;refine ⟨aa,ac,ys,rfl,hyl,HY.out,HRW.out,g3,eT,HAB.out,?_,HST.out⟩;rw [← hxs];exact HWR.out
 ) : P:=h
theorem I3 {P : Prop} (h : P:=by
  obtain ⟨j,ys,aa,ac,g3,eT,hj,rfl,rfl,hyl,hys,hrow,hab,hwr,hst⟩:=hrel;have HY:=hid hys;have HRW:=hid hrow;have HAB:=hid hab;have HWR:=hid hwr;have HST:=hid hst;clear hys hrow hab hwr hst W2 S2
  by_cases hlt : j < n
  ·obtain ⟨x,hx⟩ : ∃ x,xs[j]? = some x:=⟨_,aN ae⟩
   obtain ⟨b,off,rfl,hcell⟩:=(HM.out.kept HST.out.k (fun b off c h => l9)).2.resolve_left ae
   have hcj:=hcell j x hx;have hbl:=block_lt_of_cell hcj.1;clear hcell;obtain ⟨v0,v1⟩:=hcj;exact BP
  ·obtain rfl : j = n:=ae;have hxs : xs.take j = xs:=List.take_of_length_le ae;go_wp2_with fail;go_ret;refine ⟨aa,ac,ys,rfl,hyl,HY.out,HRW.out,g3,eT,HAB.out,?_,HST.out⟩;rw [← hxs];exact HWR.out
 ) : P:=h
theorem NS {P : Prop} (h : P:=by
  go_wp2_with fail;generalize wr.alloc (aI x.1 x.2.1 x.2.2.1.1 x.2.2.1.2.1 x.2.2.1.2.2) = W at *;have hszW:=BN.out.size;refine HC1.out.mono ?_;rintro e w5 ⟨y,rfl,hok,g4,cap4,hw5,hs5,hl5⟩;have hgr : g3 < wr.heap.size:=HWR.out.g_lt;have hRr : R < wr.heap.size:=HWR.out.lt
  have row5 : w5.ownsRow 0 42 3 (.slice aa j ac) j (ys.flatMap lZ):=aU HRW.out (fun B hB => by
   have h1:=aO HRW.out hB;have h2 : ∃ a,aa = some a ∧ a.block = B:=ny hB;obtain ⟨a,ha1,ha2⟩:=h2;have h3:=HAB.out a ha1;have h4:=HST.out.size;exact (hs5.block (b:=B) ae ae ae ae).trans (BN.out.block B h1))
  have gg4:=hw5.g_lt
  have hab5 : ∀ b,aa = some b → b.block ≠ g4 ∧ b.block < w5.heap.size:=fun a ha1 => by
   exact Dm
  have W5:=hid hw5;have S5:=hid (HST.out.trans ((ek.of_below BN.out).trans hs5));have L5:=hid hl5
  have hL4 : L ≠ g4:=hs5.ne (by have:=HST.out.size; omega) hlg
  have O5:=hid hok;have BN5:=hid (aj w5 (aI y.1 y.2.1 y.2.2.1 y.2.2.2.1 y.2.2.2.2))
  have R6:=hid (aU (w':=w5.alloc (aI y.1 y.2.1 y.2.2.1 y.2.2.2.1 y.2.2.2.2)) row5 (fun B hB => BN5.out.block B (aO row5 hB)))
  have HAB5:=hid hab5;have NC:=hid (oX w5 y);have hz6 : (w5.alloc (aI y.1 y.2.1 y.2.2.1 y.2.2.2.1 y.2.2.2.2)).heap.size = w5.heap.size + 1:=ak;clear hw5 hs5 row5 hab5 HC1 hok hl5
  go_wp2_with (at_builtin; (refine jO _ rfl (.tmp 28) (.tmp 33) 25 rfl 42 i0 _ 3 48 Tryz.underlying25 hi hz0 hz1 hz2 rfl aH _ j _ rfl R6.out ⟨w5.heap.size,0,none⟩ 1 1 (lZ y) rfl rfl NC.out (oU y) ae cG ae ?_; intro B cap7 w7 hrow7 hor7; have R7:=hid hrow7; have OR7:=hid hor7; clear hrow7 hor7))
  generalize w5.alloc (aI y.1 y.2.1 y.2.2.1 y.2.2.2.1 y.2.2.2.2) = W6 at *
  have hBn : w.heap.size ≤ B ∧ B ≠ g4 ∧ Kept (fun k => k = B) W6 w7:=by
   exact Cr
  have hRw:=S5.out.size
  go_roundw
  ·refine ⟨j + 1,ys ++ [y],some ⟨B,0,none⟩,cap7,g4,cap4,ae,rfl,rfl,by simp [hyl],?_,?_,?_,?_,?_,?_,hL4⟩
   ·exact Bo
   ·have:=R7.out
    simpa [gw] using this
   ·exact wj
   ·exact Dh
   ·exact Cm
   ·exact (L5.out.later BN5.out).kept hBn.2.2 (by have:=hBn.1; omega)
  ·simp [intOf]; omega
 ) : P:=h
theorem ND {P : Prop} (h : P:=by
  have hszW:=BN.out.size;refine HC1.out.mono ?_;rintro e w5 ⟨y,rfl,hok,g4,cap4,hw5,hs5⟩;have hgr : g3 < wr.heap.size:=HWR.out.g_lt;have hRr : R < wr.heap.size:=HWR.out.lt
  have row5:=aU (w':=w5) HRW.out (fun B hB => by
   have h1:=aO HRW.out hB;have h2 : ∃ a,aa = some a ∧ a.block = B:=ny hB;obtain ⟨a,ha1,ha2⟩:=h2;have h3:=HAB.out a ha1;have h4:=HST.out.size;exact (hs5.block (b:=B) ae ae ae).trans (BN.out.block B h1))
  have gg4:=hw5.g_lt
  have hab5 : ∀ b,aa = some b → b.block ≠ g4 ∧ b.block < w5.heap.size:=fun a ha1 => by
   exact Dm
  have W5:=hid hw5;have S5:=hid (HST.out.trans ((Stp.of_below BN.out).trans hs5));have O5:=hid hok;have BN5:=hid (aj w5 (cM y))
  have R6:=hid (aU (w':=w5.alloc (cM y)) row5 (fun B hB => BN5.out.block B (aO row5 hB)))
  have HAB5:=hid hab5;have NC:=hid (nC w5 y);have hz6 : (w5.alloc (cM y)).heap.size = w5.heap.size + 1:=ak;clear hw5 hs5 row5 hab5 HC1 hok
  go_wp2_with (at_builtin; (refine jO _ rfl (.tmp 28) (.tmp 33) _ rfl _ i0 _ _ _ uN hi hz0 hz1 hz2 rfl aH _ j _ rfl R6.out ⟨w5.heap.size,0,none⟩ 1 1 (oC0 y) rfl rfl NC.out (oC y) ae cG ae ?_; intro B cap7 w7 hrow7 hor7; have R7:=hid hrow7; have OR7:=hid hor7; clear hrow7 hor7))
  generalize w5.alloc (cM y) = W6 at *
  have hBn : w.heap.size ≤ B ∧ B ≠ g4 ∧ Kept (fun k => k = B) W6 w7:=by
   exact Cr
  have hRw:=S5.out.size
  go_roundw
  ·refine ⟨j + 1,ys ++ [y],some ⟨B,0,none⟩,cap7,g4,cap4,ae,rfl,rfl,by simp [hyl],?_,?_,?_,?_,?_⟩
   ·exact Bo
   ·have:=R7.out
    simpa [gw] using this
   ·exact wj
   ·exact Dh
   ·exact Cm
  ·simp [intOf]; omega
 ) : P:=h
theorem Nw {P : Prop} (h : P:=by
  clear hp
  go_enter Tryz.func209,Tryz.ntmps209
  go_wp2
  go_loopw [5] (fun _ wr => ∃ k : Nat,k ≤ s.size ∧ wr = w.iter s k ∧ ∀ i,i < k → isL (dK s i) = true ∧ p i = true) (fun _ wr => s.size - wr.iterPos w.heap.size)
  case atStart => exact ⟨0,Nat.zero_le _,rfl,fun i h => ae⟩
  case round =>
   obtain ⟨k,hk,rfl,hall⟩:=hrel;have HA:=hid hall;clear hall
   by_cases hlt : k < s.size
   ·by_cases hL : isL (dK s k) = true
    ·have hlow : (s[k]'hlt).toNat < 128:=by have:=LR hL; rw [← iQ s k hlt] at this; omega
     have hnx : ∀ ty,(Instr.next (.pointer (some ⟨w.heap.size,0,none⟩)) true ty).run Tryz.prog (w.iter s k) = _:=fun ty => run_next_ascii w s k ty hlt hlow
     go_wp2_with fail;refine (mY _ _).mono ?_;rintro e w1 ⟨rfl,rfl⟩;rw [iQ s k hlt,hL];go_wp2_with fail;refine (HP.out (k + 1) k hlt hL).mono ?_;rintro e w2 ⟨rfl,rfl⟩
     cases hpk : p k
     ·go_wp2;go_ret
      exact ⟨false,k + 1,rfl,⟨fun h => (nomatch h),fun h => (by rw [(h k hlt).2] at hpk; cases hpk)⟩,rfl⟩
     ·go_wp2
      go_roundw
      case rel =>
       refine ⟨k + 1,ae,rfl,fun i hi => ?_⟩
       rcases Nat.lt_or_ge i k with h | h
       ·exact HA.out i h
       ·obtain rfl : i = k:=ae;exact ⟨hL,hpk⟩
      case measure => simp; omega
    ·have hL' : isL (dK s k) = false:=by simpa using hL
     have hnx : ∀ ty,(Instr.next (.pointer (some ⟨w.heap.size,0,none⟩)) true ty).run Tryz.prog (w.iter s k) = _:=fun ty => run_next_any w s k ty hlt
     generalize (Utf8.decode s k).2 = wd at hnx;generalize (Utf8.decode s k).1 = rv at hnx;go_wp2_with fail;refine (mY _ _).mono ?_;rintro e w1 ⟨rfl,rfl⟩;rw [iQ s k hlt,hL'];go_wp2;go_ret
     exact ⟨false,_,rfl,⟨fun h => (nomatch h),fun h => absurd (h k hlt).1 hL⟩,rfl⟩
   ·have hnx : ∀ ty,(Instr.next (.pointer (some ⟨w.heap.size,0,none⟩)) true ty).run Tryz.prog (w.iter s k) = _:=fun ty => run_next_end w s k ty hlt
    go_wp2;go_ret
    exact ⟨true,_,rfl,⟨fun _ i hi => HA.out i ae,fun _ => rfl⟩,rfl⟩
 ) : P:=h
theorem Nu {P : Prop} (h : P:=by
  refine tkB (i:=10) (oi:={ dst:=some 87,op:=.pick (.tmp 84) (.const (Go.Value.bool true)) (.tmp 86),type:=4,pos:= "ref.go:152",after:=#[⟨7,.data⟩,⟨9,.data⟩,{ on:=11,ground:=.gcOnly Go.Departure.lateStores }],guard:=none }) (d:=some 87) ?_;(try simp only [Act.put,sIB,sC0,sCs]);refine rdY (rs:=[2]) ?_
  refine rdA (o:={ dst:=some 79,op:=.buildSlice 64 1 #[(0,.tmp 78)],type:=64,pos:= "ref.go:152",after:=#[⟨1,.data⟩],guard:=none }) (fun K hK => ?_) rN
  go_simp;have BN:=aj W4.drew (dN le);have hS5:=rhS.later hHeld BN;have k5 : (W4.drew.alloc (dN le)).cell? ⟨W4.drew.heap.size,0,none⟩ = some (.int .u8 le):=ai (heap_alloc_new W4.drew _)
  refine hK.out _ _ hS5 (fun _ => ?_)
  clear hK K;refine rdY (rs:=[3]) ?_
  refine rdA (o:={ dst:=some 80,op:=.convert 64 9 (.tmp 79),type:=9,pos:= "ref.go:152",after:=#[⟨2,.data⟩],guard:=none }) (fun K hK => ?_) rN
  go_simp
  refine hK.out _ _ hS5 (fun _ => ?_)
  clear hK K;refine tkB (i:=11) (oi:={ dst:=some 4,op:=.assign (.tmp 80),type:=9,pos:= "ref.go:152",after:=#[⟨3,.data⟩,⟨7,.chain⟩,⟨0,.phase⟩,⟨1,.phase⟩,⟨2,.phase⟩,⟨3,.phase⟩,{ on:=4,ground:=.textOnly Go.Departure.lateStores },{ on:=5,ground:=.textOnly Go.Departure.lateStores },{ on:=6,ground:=.textOnly Go.Departure.lateStores },{ on:=7,ground:=.textOnly Go.Departure.lateStores },{ on:=8,ground:=.textOnly Go.Departure.lateStores },{ on:=9,ground:=.textOnly Go.Departure.lateStores },{ on:=10,ground:=.textOnly Go.Departure.lateStores }],guard:=none }) (d:=some 4) ?_;(try simp only [Act.put,sIB,sC0,sCs]);refine tkB (i:=12) (oi:={ dst:=some 5,op:=.assign (.tmp 87),type:=4,pos:= "ref.go:152",after:=#[⟨10,.data⟩,⟨11,.chain⟩,⟨0,.phase⟩,⟨1,.phase⟩,⟨2,.phase⟩,⟨3,.phase⟩,⟨4,.phase⟩,⟨5,.phase⟩,⟨6,.phase⟩,⟨7,.phase⟩,⟨8,.phase⟩,⟨9,.phase⟩,⟨10,.phase⟩,⟨11,.phase⟩],guard:=none }) (d:=some 5) ?_;(try simp only [Act.put,sIB,sC0,sCs]);refine wpAnyH_done aw ?_ _;go_wp2_with fail;go_ret2;exact ⟨rfl,hS5.2.2.2⟩
 ) : P:=h
theorem I2 {P : Prop} (h : P:=by
  have g0:=h.cod.op hp;have g1:=h.cod.num hp;have g2:=h.cod.lab hp;have hp' : (p : Int) < g.N:=ae;obtain ⟨HB0,k0,k1,k2,HK⟩:=iO w (opF g.xs p) (g.xs.getD p dx).a (g.xs.getD p dx).la (g.xs.getD p dx).ln (g.xs.getD p dx).lc;clear h;generalize opF g.xs p = op at *;generalize g.xs.getD p dx = x at *;obtain ⟨xc,a,la,ln,lc,xl⟩:=x;dsimp only at *;generalize g.N = N at *;generalize g.J = J at *;generalize g.cb = cb at *;generalize g.coff = coff at *;generalize g.cc = cc at *
  rcases hc with rfl | rfl
  all_goals
   go_enter Tryz.func58,Tryz.ntmps58
   go_wp2_with fail;refine (HO.out _ HB0.out).mono ?_;rintro e w1 ⟨rfl,hb⟩;have HB1:=hid (HB0.out.trans (hb.mono HB0.out.size));have B1A:=aj w1 (cy rk wd tk pp ps false);have z3 : (w1.alloc (cy rk wd tk pp ps false)).cell? ⟨w1.heap.size,3,none⟩ = some (.string pp):=ai (heap_alloc_new _ _);have z4 : (w1.alloc (cy rk wd tk pp ps false)).cell? ⟨w1.heap.size,4,none⟩ = some (.string ps):=ai (heap_alloc_new _ _);have z5 : (w1.alloc (cy rk wd tk pp ps false)).cell? ⟨w1.heap.size,5,none⟩ = some (.bool false):=ai (heap_alloc_new _ _);have HBA:=hid (HB1.out.trans (B1A.mono HB1.out.size));obtain ⟨k0,k1,k2⟩:=HK.out _ hb;have k0:=ag B1A k0;have k1:=ag B1A k1;have k2:=ag B1A k2
   have HK2:=hid (fun (W : World) (hb : Below (w1.alloc (cy rk wd tk pp ps false)).heap.size (w1.alloc (cy rk wd tk pp ps false)) W) => ag hb k0)
   clear HK hb B1A;go_wp2_with fail;refine (HL.out _ HBA.out).mono ?_;rintro e w2 ⟨rfl,hb⟩;have HB2:=hid (HBA.out.trans (hb.mono HBA.out.size));have k0:=HK2.out _ hb;clear hb
   cases ok with
   | true =>
    have HXX:=HX vG;clear HX;go_wp2_with fail;refine (HXX.out _ HB2.out).mono ?_;rintro e w3 ⟨rfl,hb⟩;have HB3:=hid (HB2.out.trans (hb.mono HB2.out.size));go_wp2_with fail;go_ret;exact ⟨rfl,HB3.out⟩
   | false =>
    go_wp2_with fail;go_ret;exact ⟨rfl,HB2.out⟩
 ) : P:=h
theorem Ip {P : Prop} (h : P:=by
  have HV:=hid (HI.out ha1 ha2);clear HI HF
  by_cases hz : ln = 0
  ·have hz' : ((ln : Int) != 0) = false:=by simp [hz]
   have HZ:=hid hz;clear hz
   go_enter Tryz.func267,Tryz.ntmps267
   go_wp2_with fail;refine HO.out.mono ?_;rintro e w1 ⟨rfl,hb1⟩;have x1 : w1.cell? ⟨w.heap.size,1,none⟩ = some (.int .i64 a):=bh;have x2 : w1.cell? ⟨w.heap.size,2,none⟩ = some (.slice la ln lc):=bh;have hx:=block_lt_of_cell x1
   simp only at hx
   have B1:=hid (hb0.trans (hb1.mono ak));have B2:=hid (B1.out.alloc dR (cy rc wd 8 pp ps pl));clear hb1;go_wp2_with fail;go_ret
   exact ⟨by rw [HV.out,if_pos HZ.out]; rfl,B2.out⟩
  ·have hz' : ((ln : Int) != 0) = true:=aG
   go_enter Tryz.func267,Tryz.ntmps267
   go_wp2_with fail;refine HO.out.mono ?_;rintro e w1 ⟨rfl,hb1⟩;have x1 : w1.cell? ⟨w.heap.size,1,none⟩ = some (.int .i64 a):=bh;have x2 : w1.cell? ⟨w.heap.size,2,none⟩ = some (.slice la ln lc):=bh;have hx:=block_lt_of_cell x1
   simp only at hx
   have B1:=hid (hb0.trans (hb1.mono ak));have B2:=hid (B1.out.alloc dR (cy rc wd 8 pp ps pl));clear hb1;go_wp2_with fail;go_ret
   exact ⟨by rw [HV.out,if_neg hz]; rfl,B2.out⟩
 ) : P:=h
theorem JD {P : Prop} (h : P:=by
  have hfz : ltV g.m g.R g.xs i z = (Re,true):=HLT.out
  by_cases hk0 : 0 < k
  ·have d1 : decide ((0 : Int) < (k : Int)) = true:=aG
   cases hq : (Re.toList == c.toList) with
   | true =>
    have hq2 : (Re.toList != c.toList) = false:=gI
    have HEND:=hid (show bI (ltV g.m g.R g.xs i) (decide (0 < k)) c (z :: l.drop (k + 1)) = bI (ltV g.m g.R g.xs i) (decide (0 < k + 1)) Re (l.drop (k + 1)) by rw [bI,hfz]; simp [hq])
    clear hfz HLT;go_wp2_with fail;exact ⟨⟨k + 1,Re,ae,aX,rfl,HIN.out.trans (HDR.out ▸ HEND.out),HB3.out⟩,aZ⟩
   | false =>
    have hq2 : (Re.toList != c.toList) = true:=gI;exact CN
  ·have d1 : decide ((0 : Int) < (k : Int)) = false:=aG
   have HEND:=hid (show bI (ltV g.m g.R g.xs i) (decide (0 < k)) c (z :: l.drop (k + 1)) = bI (ltV g.m g.R g.xs i) (decide (0 < k + 1)) Re (l.drop (k + 1)) by rw [bI,hfz]; simp [hk0])
   clear hfz HLT;go_wp2_with fail;exact ⟨⟨k + 1,Re,ae,aX,rfl,HIN.out.trans (HDR.out ▸ HEND.out),HB3.out⟩,aZ⟩
 ) : P:=h
theorem Ie {P : Prop} (h : P:=by
  by_cases hk0 : 0 < k
  ·have d1 : decide ((0 : Int) < (k : Int)) = true:=aG;have d2 : decide (0 < k) = true:=aG
   cases hq : (Re.toList == c.toList) with
   | true =>
    have hq2 : (Re.toList != c.toList) = false:=gI
    have HEND:=hid (show bI (fJ g.m g.R g.xs i) (decide (0 < k)) c (z :: l.drop (k + 1)) = bI (fJ g.m g.R g.xs i) (decide (0 < k + 1)) Re (l.drop (k + 1)) by rw [bI,hfz]; simp [hq])
    clear hfz;go_wp2_with fail;exact ⟨⟨k + 1,Re,ae,rfl,aX,HIN.out.trans (HDR.out ▸ HEND.out),HB3.out⟩,aZ⟩
   | false =>
    have hq2 : (Re.toList != c.toList) = true:=gI
    have HEND:=hid (show bI (fJ g.m g.R g.xs i) (decide (0 < k)) c (z :: l.drop (k + 1)) = (⟨#[]⟩,false) by rw [bI,hfz]; simp [hq,hk0])
    clear hfz;go_wp2_with fail;go_ret2;exact ⟨rL,HB3.out.1⟩
  ·have d1 : decide ((0 : Int) < (k : Int)) = false:=aG
   have HEND:=hid (show bI (fJ g.m g.R g.xs i) (decide (0 < k)) c (z :: l.drop (k + 1)) = bI (fJ g.m g.R g.xs i) (decide (0 < k + 1)) Re (l.drop (k + 1)) by rw [bI,hfz]; simp [hk0])
   clear hfz;go_wp2_with fail;exact ⟨⟨k + 1,Re,ae,rfl,aX,HIN.out.trans (HDR.out ▸ HEND.out),HB3.out⟩,aZ⟩
 ) : P:=h
theorem I6 {P : Prop} (h : P:=by
  have BQ:=hid (fun (q : Nat) => HBB.out.trans ((below_drewN ((w.alloc (aY (some ⟨g.J,0,none⟩))).alloc (aM i)) q).mono HBB.out.size))
  go_wp2_with fail
  go_quiet (fail)
  have d0:=ag (below_drewN ((w.alloc (aY (some ⟨g.J,0,none⟩))).alloc (aM i)) nq) c0;have d1:=ag (below_drewN ((w.alloc (aY (some ⟨g.J,0,none⟩))).alloc (aM i)) nq) c1;have HB3:=hid (BQ.out nq);generalize ((w.alloc (aY (some ⟨g.J,0,none⟩))).alloc (aM i)).drewN nq = W3 at *;clear c0 c1 a3 jr BQ HBB;go_wp2_with fail;refine (HX.out _ HB3.out).mono ?_;rintro e w5 ⟨rfl,hbx⟩;have HB5:=hid (HB3.out.trans (hbx.mono HB3.out.size));have e0:=ag hbx d0;have e1:=ag hbx d1;clear hbx d0 d1 HB3
  cases b with
  | false =>
   go_wp2_with fail;refine (mL (ar HB5.out Hb.out)).mono ?_;rintro e w6 ⟨rfl,hw6⟩;subst hw6;go_wp2_with fail;go_end0
   exact ⟨rfl,_,HB5.out,by rw [Bool.false_and,Bool.and_false]⟩
  | true =>
   go_wp2_with fail;refine (HY.out _ HB5.out).mono ?_;rintro e w7 ⟨rfl,hbx⟩;have HB7:=hid (HB5.out.trans (hbx.mono HB5.out.size));clear hbx e0 e1 HB5;go_wp2_with fail;refine (mL (ar HB7.out Hb.out)).mono ?_;rintro e w6 ⟨rfl,hw6⟩;subst hw6;go_wp2_with fail;go_end0;exact ⟨rfl,_,HB7.out,rfl⟩
 ) : P:=h
theorem KP {P : Prop} (h : P:=by
  by_cases k1 : (p'.toList == p.toList) = true
  ·have k2 : (r'.toList == s.toList) = false:=by rw [k1] at hne; simpa using hne
   clear hne
   go_region_held3 (fun W => W.cell? ⟨wr.heap.size,0,none⟩ = some (.string p') ∧ W.cell? ⟨wr.heap.size,1,none⟩ = some (.string r') ∧ W.cell? ⟨B,0,none⟩ = some (.string p) ∧ W.cell? ⟨C,0,none⟩ = some (.int .i64 beg))
    (first | assumption | exact ⟨z0,z1,z2,z3⟩)
    (first
     | (go_at_call 77; refine (cr rfl).mono ?_; rintro e w' ⟨rfl,rfl⟩))
   go_wp2_with fail
   go_roundw
   ·exact DV
   ·simp [intOf]; omega
  ·have k1' : (p'.toList == p.toList) = false:=by simpa using k1
   clear hne k1
   go_region_held3 (fun W => W.cell? ⟨wr.heap.size,0,none⟩ = some (.string p') ∧ W.cell? ⟨wr.heap.size,1,none⟩ = some (.string r') ∧ W.cell? ⟨B,0,none⟩ = some (.string p) ∧ W.cell? ⟨C,0,none⟩ = some (.int .i64 beg))
    (first | assumption | exact ⟨z0,z1,z2,z3⟩)
    (first
     | (go_at_call 77; refine (cr rfl).mono ?_; rintro e w' ⟨rfl,rfl⟩))
   go_wp2_with fail
   go_roundw
   ·exact DV
   ·simp [intOf]; omega
 ) : P:=h
theorem J1 {P : Prop} (h : P:=by
  go_wp2_with fail
  go_loopw [5] (fun p wr => ∃ t : Nat,t ≤ n ∧ p = .int .i64 t ∧ Hid (Below w.heap.size w wr)) (fun p _ => n - (intOf p).toNat)
  case atStart => exact ⟨0,ae,rfl,hid (Below.refl _ _)⟩
  case round =>
   obtain ⟨t,ht,rfl,HB⟩:=hrel
   by_cases hlt : t < n
   ·have hlt' : (t : Int) < (n : Int):=ae;obtain ⟨x,hx⟩ : ∃ x,l[t]? = some x:=⟨_,aN ae⟩;obtain ⟨b1,o1,rfl,hat1⟩:=H1.out.2.resolve_left ae;obtain ⟨b2,o2,rfl,hat2⟩:=H2.out.2.resolve_left ae;obtain ⟨e10,e11⟩:=hat1 t x hx;have e10:=ag HB.out e10;have e11:=ag HB.out e11;obtain ⟨e20,e21⟩:=hat2 t x hx;have e20:=ag HB.out e20;have e21:=ag HB.out e21;clear hat1 hat2 hx
    have HBD:=hid (fun (n : Nat) => (show Below w.heap.size w (wr.drewN n) from bA HB.out (Kept.drewN (fun _ => False) _ n) HB.out.size (fun _ x => x.elim)))
    obtain ⟨x0,x1⟩:=x;exact uL
   ·have hlt' : ¬ (t : Int) < (n : Int):=ae;go_wp2_with fail;go_ret;exact ⟨rfl,HB.out⟩
 ) : P:=h
theorem Hc {P : Prop} (h : P:=by
  refine tkB (i:=13) (oi:={ dst:=some 15,op:=.assign (.tmp 96),type:=4,pos:= "rows.go:137",after:=#[⟨10,.data⟩,⟨12,.chain⟩,⟨0,.phase⟩,⟨1,.phase⟩,⟨2,.phase⟩,⟨3,.phase⟩,⟨4,.phase⟩,⟨5,.phase⟩,⟨6,.phase⟩,⟨7,.phase⟩,⟨8,.phase⟩,⟨9,.phase⟩,⟨10,.phase⟩,⟨11,.phase⟩,⟨12,.phase⟩],guard:=none }) (d:=some 15) ?_;(try simp only [Act.put,sIB,sC0,sCs]);refine wpAnyH_done aw ?_ _;have g0 : W6.cell? ⟨G,0,none⟩ = some (.int .i64 ty):=ai gB;have HBS:=hid hS.2.2;have RB6:=hid rb6;clear gB hS rb6;go_wp2_with fail;refine (HG.out _ HBS.out).mono ?_;rintro e w7 ⟨rfl,hb7⟩;have r7:=ar hb7 RB6.out;have x0 : w7.cell? ⟨w.heap.size,0,none⟩ = some (.string ⟨#[]⟩):=ai r7;have x2 : w7.cell? ⟨w.heap.size,1,none⟩ = some (.string ⟨#[]⟩):=ai r7;have f0 : w7.frozen? ⟨w.heap.size,0,none⟩ = false:=free_at r7;have f1 : w7.frozen? ⟨w.heap.size,1,none⟩ = false:=free_at r7;have HB7:=hid (HBS.out.trans (hb7.mono HBS.out.size));clear hb7 r7;go_wp2_with fail;refine bodyPost_ret (v:=.tuple #[.agg #[.string Pa,.string Re],.bool fd]) ?_ rfl ⟨rfl,MX HB7.out⟩;rw [results_cell_tmp rfl];go_simp
 ) : P:=h
theorem Ih {P : Prop} (h : P:=by
  go_wp2_with fail
  go_loopw [5] (fun p wr => ∃ t : Nat,t ≤ n ∧ p = .int .i64 t ∧ Hid (Below w.heap.size w wr)) (fun p _ => n - (intOf p).toNat)
  case atStart => exact ⟨0,ae,rfl,hid (Below.refl _ _)⟩
  case round =>
   obtain ⟨t,ht,rfl,HB⟩:=hrel
   by_cases hlt : t < n
   ·have hlt' : (t : Int) < (n : Int):=ae;obtain ⟨x,hx⟩ : ∃ x,l[t]? = some x:=⟨_,aN ae⟩;obtain ⟨b1,o1,rfl,hat1⟩:=H1.out.2.resolve_left ae;obtain ⟨b2,o2,rfl,hat2⟩:=H2.out.2.resolve_left ae;have e10:=hat1 t x hx;have e10:=ag HB.out e10;have e20:=hat2 t x hx;have e20:=ag HB.out e20;clear hat1 hat2 hx
    have HBD:=hid (fun (n : Nat) => (show Below w.heap.size w (wr.drewN n) from bA HB.out (Kept.drewN (fun _ => False) _ n) HB.out.size (fun _ x => x.elim)))
    have hxx : (x != x) = false:=ak;exact uL
   ·have hlt' : ¬ (t : Int) < (n : Int):=ae;go_wp2_with fail;go_ret;exact ⟨rfl,HB.out⟩
 ) : P:=h
theorem G0 {P : Prop} (h : P:=by
  have g0:=h.cod.op hp;have g1:=h.cod.num hp;have g2:=h.cod.lab hp;have hp' : (p : Int) < g.N:=ae;obtain ⟨HB0,k0,k1,k2,HK⟩:=iO w (opF g.xs p) (g.xs.getD p dx).a (g.xs.getD p dx).la (g.xs.getD p dx).ln (g.xs.getD p dx).lc;clear h;generalize opF g.xs p = op at *;generalize g.xs.getD p dx = x at *;obtain ⟨xc,a,la,ln,lc,xl⟩:=x;dsimp only at *;generalize g.N = N at *;generalize g.J = J at *;generalize g.cb = cb at *;generalize g.coff = coff at *;generalize g.cc = cc at *;subst hc
  go_enter Tryz.func58,Tryz.ntmps58
  go_wp2_with fail;refine (H1.out _ HB0.out).mono ?_;rintro e w1 ⟨rfl,hb⟩;have HB1:=hid (HB0.out.trans (hb.mono HB0.out.size));clear HK
  cases b with
  | true =>
   exact vp
  | false =>
   go_wp2_with fail;refine (H2.out _ HB1.out).mono ?_;rintro e w2 ⟨rfl,hb⟩;have HB2:=hid (HB1.out.trans (hb.mono HB1.out.size));go_wp2_with fail;go_ret;exact ⟨rfl,HB2.out⟩
 ) : P:=h
theorem AK {P : Prop} (h : P:=by
  clear hc;go_wp2_with fail
  go_quiet ((go_at_call 258; exact Calls.quiet_of_same (HF.out _ (BQ.out _))))
  go_wp2_with fail;refine (HG.out _ (BQ.out _)).mono ?_;rintro e w2 ⟨rfl,hb2⟩;have r2:=ar hb2 (ar (below_drewN ((w.alloc (bj ⟨#[]⟩ ⟨#[]⟩)).alloc (aC c a la ln lc)) nq) HR0.out);have x0 : w2.cell? ⟨w.heap.size,0,none⟩ = some (.string ⟨#[]⟩):=ai r2;have x2 : w2.cell? ⟨w.heap.size,1,none⟩ = some (.string ⟨#[]⟩):=ai r2;have f0 : w2.frozen? ⟨w.heap.size,0,none⟩ = false:=free_at r2;have f1 : w2.frozen? ⟨w.heap.size,1,none⟩ = false:=free_at r2;have HB2:=hid ((BQ.out nq).trans (hb2.mono (BQ.out nq).size));clear hb2 r2;go_wp2_with fail;refine bodyPost_ret (v:=.tuple #[.agg #[.string Pa,.string Re],.bool fd]) ?_ rfl ⟨rfl,?_⟩
  ·rw [results_cell_tmp rfl];go_simp
  ·exact MX HB2.out
 ) : P:=h
theorem KR {P : Prop} (h : P:=by
  generalize g.J = J at *
  go_enter Tryz.func105,Tryz.ntmps105
  go_wp2_with fail;generalize ((w.alloc (aT op a lv)).alloc (aB ⟨#[]⟩ ⟨#[]⟩)) = W0 at *
  by_cases hn : a < 0
  ·have g2 : decide (a < 0) = true:=jT
   go_quiet (fail)
   go_wp2_with fail;refine bodyPost_ret (v:=.tuple #[.agg #[.string ⟨#[]⟩,.string ⟨#[]⟩],.bool false]) ?_ rfl ⟨rfl,ml (k:=1) (HB.out.trans ((below_drewN W0 nq).mono HB.out.size))⟩;rw [results_cell_tmp rfl];go_simp
  ·have g2 : decide (a < 0) = false:=jT;have g3 : decide ((fn : Int) ≤ a) = true:=aG
   go_quiet (fail)
   go_wp2_with fail;refine bodyPost_ret (v:=.tuple #[.agg #[.string ⟨#[]⟩,.string ⟨#[]⟩],.bool false]) ?_ rfl ⟨rfl,ml (k:=1) (HB.out.trans ((below_drewN W0 nq).mono HB.out.size))⟩;rw [results_cell_tmp rfl];go_simp
 ) : P:=h
theorem II {P : Prop} (h : P:=by
  have BQ:=hid (fun (q : Nat) => HBB.out.trans ((below_drewN ((w.alloc (aY (some ⟨g.J,0,none⟩))).alloc (aM i)) q).mono HBB.out.size))
  go_wp2_with fail
  go_quiet (fail)
  have d0:=ag (below_drewN ((w.alloc (aY (some ⟨g.J,0,none⟩))).alloc (aM i)) nq) c0;have d1:=ag (below_drewN ((w.alloc (aY (some ⟨g.J,0,none⟩))).alloc (aM i)) nq) c1;have HB3:=hid (BQ.out nq);generalize ((w.alloc (aY (some ⟨g.J,0,none⟩))).alloc (aM i)).drewN nq = W3 at *;clear c0 c1 a3 jr BQ HBB;go_wp2_with fail;refine (HX.out _ HB3.out).mono ?_;rintro e w5 ⟨rfl,hbx⟩;have HB5:=hid (HB3.out.trans (hbx.mono HB3.out.size));clear hbx d0 d1 HB3;go_wp2_with fail;refine (mL (ar HB5.out Hb.out)).mono ?_;rintro e w6 ⟨rfl,hw6⟩;subst hw6;go_wp2_with fail;go_end0;exact ⟨rfl,_,HB5.out,rfl⟩
 ) : P:=h
theorem Ha {P : Prop} (h : P:=by
  clear hc;go_wp2_with fail;refine (H14.out _ HBW.out).mono ?_;rintro e w2 ⟨rfl,hb2⟩;have r2:=ar hb2 HR0.out;have x0 : w2.cell? ⟨w.heap.size,0,none⟩ = some (.string ⟨#[]⟩):=ai r2;have x1 : w2.cell? ⟨w.heap.size,1,none⟩ = some (.string ⟨#[]⟩):=ai r2;have f0 : w2.frozen? ⟨w.heap.size,0,none⟩ = false:=free_at r2;have f1 : w2.frozen? ⟨w.heap.size,1,none⟩ = false:=free_at r2;have hwl : w.heap.size < w2.heap.size:=dY r2;have HB2:=hid (HBB.out.trans (hb2.mono HBB.out.size));clear hb2 r2;go_wp2_with fail;refine bodyPost_ret (v:=.tuple #[.agg #[.string Pa,.string Pa],.bool ok]) ?_ rfl ⟨rfl,?_⟩
  ·rw [results_cell_tmp rfl];go_simp
  ·exact yh HB2.out
 ) : P:=h
theorem I1 {P : Prop} (h : P:=by
  clear hbt her hb6 hO' ho5
  rcases hO with rfl | rfl | rfl
  all_goals
   go_wp2_with (first
    | (go_at_call 97; refine (lO _ _ ae ae).mono ?_; rintro e w5 ⟨rfl,hw5⟩; have hw6:=hw5.symm; subst hw6)
    | (at_builtin; refine mM _ rfl (.tmp 63) (.tmp 65) rfl w.heap.size _ (opn (opF xs) k) rfl HOP2.out hle2 ⟨W1.heap.size,0,none⟩ k rfl kG hol ?_; intro B1 C1 k1 w1 hk1 m1 n1 o1; have RS:=hid (IB HT.out hlt HER.out HB6.out HO'.out ENM.out ELM.out HP.out.1 BEM.out LEM.out OPM.out m1 n1 o1); clear m1 n1 o1 hk1))
   exact ⟨⟨k + 1,ae,aX,.inl ⟨rfl,RS.out⟩⟩,aZ⟩
 ) : P:=h
theorem JM {P : Prop} (h : P:=by
  go_wp2_with fail;refine (cT R _ _ _ w c0).mono ?_;rintro e w1 ⟨rfl,rfl⟩;go_wp2_with fail;refine hask.mono ?_;rintro e w2 ⟨rfl,b2⟩;have B2:=hid b2;clear b2 hask hK c0;go_wp2_with fail;refine (HU.out _).mono ?_;rintro e w3 ⟨B,rfl,s3,b3⟩;have B3:=hid (B2.out.trans (b3.mono B2.out.size));have S3:=hid s3;clear s3 b3 HU;go_wp2_with fail;refine (vT R g cap bs _ _ _ _ w3 (HW.out.later B3.out) S3.out ae ae).mono ?_;rintro e w4 ⟨rfl,g',cap',hw4,hs4⟩;have W4:=hid hw4;have S4:=hid ((Stp.of_below B3.out).trans hs4);clear hw4 hs4;go_wp2_with fail;go_ret;exact ⟨rfl,g',cap',W4.out,S4.out⟩
 ) : P:=h
theorem GC {P : Prop} (h : P:=by
  have HV:=hid (HF.out (.inl ha1))
  go_enter Tryz.func267,Tryz.ntmps267
  go_wp2_with fail;refine HO.out.mono ?_;rintro e w1 ⟨rfl,hb1⟩;have x1 : w1.cell? ⟨w.heap.size,1,none⟩ = some (.int .i64 a):=bh;have x2 : w1.cell? ⟨w.heap.size,2,none⟩ = some (.slice la ln lc):=bh;have hx:=block_lt_of_cell x1
  simp only at hx
  have B1:=hid (hb0.trans (hb1.mono ak));have B2:=hid (B1.out.alloc dR (cy rc wd 8 pp ps pl));clear hb1;go_wp2_with fail;go_ret;exact ⟨cd,B2.out⟩
 ) : P:=h
theorem Hg {P : Prop} (h : P:=by
  have HV:=hid (HF.out (.inr ha2))
  go_enter Tryz.func267,Tryz.ntmps267
  go_wp2_with fail;refine HO.out.mono ?_;rintro e w1 ⟨rfl,hb1⟩;have x1 : w1.cell? ⟨w.heap.size,1,none⟩ = some (.int .i64 a):=bh;have x2 : w1.cell? ⟨w.heap.size,2,none⟩ = some (.slice la ln lc):=bh;have hx:=block_lt_of_cell x1
  simp only at hx
  have B1:=hid (hb0.trans (hb1.mono ak));have B2:=hid (B1.out.alloc dR (cy rc wd 8 pp ps pl));clear hb1;go_wp2_with fail;go_ret;exact ⟨cd,B2.out⟩
 ) : P:=h
theorem Ic {P : Prop} (h : P:=by
  go_enter Tryz.func267,Tryz.ntmps267
  go_wp2_with fail;refine HO.out.mono ?_;rintro e w1 ⟨rfl,hb1⟩;have x1 : w1.cell? ⟨w.heap.size,1,none⟩ = some (.int .i64 0):=bh;have x2 : w1.cell? ⟨w.heap.size,2,none⟩ = some (.slice la ln lc):=bh;have hx:=block_lt_of_cell x1
  simp only at hx
  have B1:=hid (hb0.trans (hb1.mono ak));have B2:=hid (B1.out.alloc dR (cy rc wd 3 pp ps pl));clear hb1;go_wp2_with fail;go_ret
  exact ⟨by rw [HV2.out]; rfl,B2.out⟩
 ) : P:=h
theorem IY {P : Prop} (h : P:=by
  go_enter Tryz.func267,Tryz.ntmps267
  go_wp2_with fail;refine HO.out.mono ?_;rintro e w1 ⟨rfl,hb1⟩;have x1 : w1.cell? ⟨w.heap.size,1,none⟩ = some (.int .i64 a):=bh;have x2 : w1.cell? ⟨w.heap.size,2,none⟩ = some (.slice la ln lc):=bh;have hx:=block_lt_of_cell x1
  simp only at hx
  have B1:=hid (hb0.trans (hb1.mono ak));have B2:=hid (B1.out.alloc dR (cy rc wd 0 pp ps pl));clear hb1;go_wp2_with fail;go_ret;exact ⟨cd,B2.out⟩
 ) : P:=h
theorem LH {P : Prop} (h : P:=by
  go_enter Tryz.func267,Tryz.ntmps267
  go_wp2_with fail;refine HO.out.mono ?_;rintro e w1 ⟨rfl,hb1⟩;have x1 : w1.cell? ⟨w.heap.size,1,none⟩ = some (.int .i64 a):=bh;have x2 : w1.cell? ⟨w.heap.size,2,none⟩ = some (.slice la ln lc):=bh;have hx:=block_lt_of_cell x1
  simp only at hx
  have B1:=hid (hb0.trans (hb1.mono ak));have B2:=hid (B1.out.alloc dR (cy rc wd 9 pp ps pl));clear hb1;go_wp2_with fail;go_ret;exact ⟨cd,B2.out⟩
 ) : P:=h
theorem Lt {P : Prop} (h : P:=by
  go_enter Tryz.func267,Tryz.ntmps267
  go_wp2_with fail;refine HO.out.mono ?_;rintro e w1 ⟨rfl,hb1⟩;have x1 : w1.cell? ⟨w.heap.size,1,none⟩ = some (.int .i64 a):=bh;have x2 : w1.cell? ⟨w.heap.size,2,none⟩ = some (.slice la ln lc):=bh;have hx:=block_lt_of_cell x1
  simp only at hx
  have B1:=hid (hb0.trans (hb1.mono ak));have B2:=hid (B1.out.alloc dR (cy rc wd t pp ps pl));clear hb1;go_wp2_with fail;go_ret;exact ⟨cd,B2.out⟩
 ) : P:=h
theorem H8 {P : Prop} (h : P:=by
  go_enter Tryz.func267,Tryz.ntmps267
  go_wp2_with fail;refine HO.out.mono ?_;rintro e w1 ⟨rfl,hb1⟩;have x1 : w1.cell? ⟨w.heap.size,1,none⟩ = some (.int .i64 a):=bh;have x2 : w1.cell? ⟨w.heap.size,2,none⟩ = some (.slice la ln lc):=bh;have hx:=block_lt_of_cell x1
  simp only at hx
  have B1:=hid (hb0.trans (hb1.mono ak));have B2:=hid (B1.out.alloc dR (cy rc wd 3 pp ps pl));clear hb1;go_wp2_with fail;go_ret;exact ⟨cd,B2.out⟩
 ) : P:=h
theorem KC {P : Prop} (h : P:=by
  go_enter Tryz.func140,Tryz.ntmps140
  go_wp2_with fail;refine HE.out.mono ?_;rintro e w1 ⟨b,pos,rfl,hb,rfl⟩;go_wp2;go_ret
  have hbl : b = lett s most:=by
   refine pU (hb.trans ⟨fun h => ⟨fun i hi => (h i hi).1,?_⟩,fun h i hi => ⟨h.1 i hi,aG⟩⟩)
   rcases Nat.eq_zero_or_pos s.size with h0 | h0
   ·omega
   ·have:=(h (s.size - 1) ae).2
    simp at this
    omega
  subst hbl;exact ⟨rfl,((Below.refl _ _).alloc (Nat.le_refl _) _).alloc ak _⟩
 ) : P:=h
theorem IV {P : Prop} (h : P:=by
  generalize elF (opF xs) k t = ev at *;generalize (stk (opF xs) t).length = dt at *
  go_wp2_with (first
   | (go_at_call 97; refine (lO _ _ ae ae).mono ?_; rintro e w5 ⟨rfl,hw5⟩; have hw6:=hw5.symm; subst hw6))
  (try simp only [Exit.inBlock,Exit.then])
  refine bodyPost_ret (dE rfl _ _ _) rfl ?_
  refine ⟨_,_,_,_,_,_,_,_,_,pZ,.inl ⟨(by rw [HR.out]; simp),rfl,rfl,rfl⟩,BEM.out⟩
 ) : P:=h
theorem KJ {P : Prop} (h : P:=by
  cases ok with
  | true =>
   go_wp2_with fail;refine (HX.out _ HB1.out).mono ?_;rintro e w2 ⟨rfl,hb⟩;have HB2:=hid (HB1.out.trans (hb.mono HB1.out.size));go_wp2_with fail;go_ret;exact ⟨rfl,HB2.out⟩
  | false =>
   go_wp2_with fail;refine (HX.out _ HB1.out).mono ?_;rintro e w2 ⟨rfl,hb⟩;have HB2:=hid (HB1.out.trans (hb.mono HB1.out.size));go_wp2_with fail;go_ret;exact ⟨rfl,HB2.out⟩
 ) : P:=h
theorem Ks {P : Prop} (h : P:=by
  have HV:=hid (show tK (opF xs) n pc = [] by unfold tK; rw [if_neg ae])
  have hz : ((res (opF xs) n 0).1 != 0) = false:=oL;have hz' : ((res (opF xs) n 0).1 == 0) = true:=oL;clear hM hb h0;generalize (res (opF xs) n 0).1 = r1 at *;generalize (res (opF xs) n 0).2 = r2 at *;go_wp2_with fail;go_ret
  exact ⟨_,rfl,by rw [HV.out]; exact LI.nil _ _,HB.out⟩
 ) : P:=h
theorem J3 {P : Prop} (h : P:=by
  have eb : (bu m R xs (top (stk (opF xs) p))).2 = false → (bT m R xs sh (top (stk (opF xs) p))).2 = false:=fun h => by
   unfold bT;rw [if_neg ht]
   show ((bu m R xs (top (stk (opF xs) p))).2 && _) = false
   rw [h,Bool.false_and]
  unfold tS
  cases hs : (bu m R xs (top (stk (opF xs) p))).2 with
  | false => rw [eb hs]; simp
  | true => simp only [Bool.true_and,Bool.and_assoc]
 ) : P:=h
theorem H6 {P : Prop} (h : P:=by
  go_wp2_with fail;refine bodyPost_ret (v:=.agg #[.int .u8 c,.int .i64 a,.slice la ln lc]) ?_ rfl ⟨rfl,g',cap',?_,?_⟩
  ·rw [gm rfl];go_simp
  ·exact ((W5.out.set (b:=w.heap.size + 1) ae n1).set (b:=w.heap.size + 1) ae n1).set (b:=w.heap.size + 1) ae n1
  ·exact ((S5.out.set ae).set ae).set ae
 ) : P:=h
theorem Jz {P : Prop} (h : P:=by
  by_cases hf : f < 0
  ·have d1 : decide (f < 0) = true:=by simpa using hf
   clear hr;go_wp2_with fail;go_ret;exact ⟨cd,HB2.out⟩
  ·have d1 : decide (f < 0) = false:=by simpa using hf
   have d2 : decide ((m.fn : Int) ≤ f) = true:=aG;clear hr hf;go_wp2_with fail;go_ret;exact ⟨cd,HB2.out⟩
 ) : P:=h
theorem Kp {P : Prop} (h : P:=by
  go_wp2
  ·have h : p.size ≤ s.size:=cU;go_ret;refine ⟨?_,rfl⟩
   show Ending.returned (Value.bool ((s.extract (s.size - p.size) s.size).toList == p.toList)) = _
   simp [h,ends]
  ·have h : ¬ p.size ≤ s.size:=cU;go_ret;refine ⟨?_,rfl⟩
   show Ending.returned (Value.bool false) = _
   simp [h,ends]
 ) : P:=h
theorem Io {P : Prop} (h : P:=by
  have S3:=hid s3;clear s3 b3 HU;go_wp2_with fail;refine (vT R g cap bs _ _ _ _ w3 (HW.out.later B3.out) S3.out ae ae).mono ?_;rintro e w4 ⟨rfl,g',cap',hw4,hs4⟩;have W4:=hid hw4;have S4:=hid ((Stp.of_below B3.out).trans hs4);clear hw4 hs4;go_wp2_with fail;go_ret;exact ⟨rfl,g',cap',W4.out,S4.out⟩
 ) : P:=h
theorem Hf {P : Prop} (h : P:=by
  rintro e w5 ⟨rfl,hbx⟩;have HB5:=hid (HB3.out.trans (hbx.mono HB3.out.size));clear hbx d0 d1 HB3
  generalize (p ⟨#[119]⟩ || p ⟨#[108]⟩) = b at *
  go_wp2_with fail;refine (mL (ar HB5.out Hb.out)).mono ?_;rintro e w6 ⟨rfl,hw6⟩;subst hw6;go_wp2_with fail;go_end0;exact ⟨rfl,_,HB5.out,rfl⟩
 ) : P:=h
theorem Ar {P : Prop} (h : P:=by
  obtain ⟨hz,h1,h2,h3,ha⟩:=h;refine ⟨hz,h1,h2,h3,?_⟩
  rcases ha with ha | ⟨b,off,e,hc⟩
  ·exact .inl ha
  ·refine .inr ⟨b,off,e,fun j hj => ?_⟩
   have:=hc j hj
   have hlt : b < w.heap.size:=block_lt_of_cell this;exact (hb.cell (p:=⟨b,off + j,none⟩) uC).trans this
 ) : P:=h
theorem A8 {P : Prop} (h : P:=by
  generalize (stk (opF xs) t).length = dt at *
  go_wp2_with (first
   | (go_at_call 97; refine (lO _ _ ae ae).mono ?_; rintro e w5 ⟨rfl,hw5⟩; have hw6:=hw5.symm; subst hw6))
  exact ⟨⟨k + 1,ae,aX,.inl ⟨rfl,HRS.out⟩⟩,aZ⟩
 ) : P:=h
theorem tM {P : Prop} (h : P:=by
  have:=heap_alloc_new (w.alloc (bj ⟨#[]⟩ ⟨#[]⟩)) (aC (opF g.xs i) (g.xs.getD i dx).a (g.xs.getD i dx).la (g.xs.getD i dx).ln (g.xs.getD i dx).lc)
  have hz : (w.alloc (bj ⟨#[]⟩ ⟨#[]⟩)).heap.size = w.heap.size + 1:=ak;rw [hz] at this;exact ai this
 ) : P:=h
theorem GK {P : Prop} (h : P:=by
  go_wp2_with fail;refine (H17.out _ HB2.out).mono ?_;rintro e w3 ⟨rfl,hb3⟩;have HB3:=hid (HB2.out.trans (hb3.mono HB2.out.size));clear hb3
  cases ok with
  | true =>
   go_wp2_with fail;go_ret;exact ⟨rfl,HB3.out⟩
  | false =>
   go_wp2_with fail;go_ret;exact ⟨rfl,HB3.out⟩
 ) : P:=h
theorem JU {P : Prop} (h : P:=by
  clear HF HW hkk HYL hls hmt P0 P1 P2
  go_wp2_with (first | (go_at_call 85; refine (mD t _ ae ae).mono ?_; rintro e w' ⟨rfl,hw'⟩; have hw2:=hw'.symm; subst hw2))
  exact ⟨⟨t + 1,ys,ae,aX,HN1,HN,HN2⟩,aZ⟩
 ) : P:=h
theorem H5 {P : Prop} (h : P:=by
  exact ⟨⟨t + 1,ae,aX,hid (by rw [HFS.out,← List.append_assoc,HR.out]; rw [HEN.out]; simpa only [List.append_assoc,List.cons_append,List.nil_append,if_true,if_false,Bool.false_eq_true,reduceIte] using HBy.out),HB⟩,aZ⟩
 ) : P:=h
theorem Hk {P : Prop} (h : P:=by
  go_wp2_with (first
   | (go_at_call 97; refine (lO _ _ ae ae).mono ?_; rintro e w5 ⟨rfl,hw5⟩; have hw6:=hw5.symm; subst hw6; (try rw [hOc])))
  exact ⟨⟨k + 1,ae,aX,.inl ⟨rfl,HRS.out⟩⟩,aZ⟩
 ) : P:=h
theorem J6 {P : Prop} (h : P:=by
  have HBA:=hid (HB1.out.trans (B1A.mono HB1.out.size));clear HK hb B1A;go_wp2_with fail;refine (HX.out _ HBA.out).mono ?_;rintro e w2 ⟨rfl,hb⟩;have HB2:=hid (HBA.out.trans (hb.mono HBA.out.size));go_wp2_with fail;go_ret;exact ⟨rfl,HB2.out⟩
 ) : P:=h
theorem IA {P : Prop} (h : P:=by
  have HV:=hid (HV13.out h13)
  have d3 : decide (m.fi * 4096 - pl < (bl.length : Int)) = true:=by simpa using h13
  go_wp2_with fail
  go_quiet (fail)
  go_wp2_with fail;go_ret;exact ⟨cd,HB0.out.trans ((HBD.out _).mono HB0.out.size)⟩
 ) : P:=h
theorem JI {P : Prop} (h : P:=by
  go_quiet (fail)
  go_wp2_with fail;refine bodyPost_ret (v:=.tuple #[.agg #[.string ⟨#[]⟩,.string ⟨#[]⟩],.bool false]) ?_ rfl ⟨rfl,qq (HB.out.trans ((below_drewN W0 nq).mono HB.out.size))⟩;rw [results_cell_tmp rfl];go_simp
 ) : P:=h
theorem Kz {P : Prop} (h : P:=by
  have HV:=hid (HV17.out h13 h17)
  have d4 : ((bl.length : Int) == 0) = true:=by simp [h17]
  clear h17;go_wp2_with fail
  go_quiet (fail)
  go_wp2_with fail;go_ret;exact ⟨cd,HB0.out.trans ((HBD.out _).mono HB0.out.size)⟩
 ) : P:=h
theorem IR {P : Prop} (h : P:=by
  go_wp2_with fail;refine (HNM.out _).mono ?_;rintro e w1 ⟨rfl,hw⟩;have hw2:=hw.symm;subst hw2;go_wp2_with fail
  go_quiet (fail)
  go_wp2_with fail;go_ret;exact ⟨cd,HB0.out.trans ((HBD.out _).mono HB0.out.size)⟩
 ) : P:=h
theorem IW {P : Prop} (h : P:=by
  go_enter Tryz.func325,Tryz.ntmps325
  go_wp2;refine bodyPost_ret (v:=.agg #[.int .i64 0,.int .i64 0]) vR rfl ⟨rfl,?_⟩;exact ((Below.refl _ _).alloc (Nat.le_refl _) _).alloc ak _
 ) : P:=h
theorem A7 {P : Prop} (h : P:=by
  clear hR hy;go_wp2_with fail;refine H1.out.mono ?_;rintro e w5 ⟨rfl,hb5⟩;have HB5:=hid (HB.out.trans (hb5.mono HB.out.size));clear hb5;go_wp2_with fail;exact ⟨⟨t + 1,ae,aX,HB5⟩,aZ⟩
 ) : P:=h
theorem Iu {P : Prop} (h : P:=by
  refine rdY (rs:=[7]) ?_
  refine AllReadyH.cons rfl (fun K hK => ?_) rN
  go_simp;refine (HSG.out _ hB5.out).mono ?_;rintro e w6 ⟨⟨q,rfl⟩,hk6⟩;exact ⟨rfl,⟨q,rfl⟩,(S4'.out.trans (Stp.of_below hB5.out)).throw hk6⟩
 ) : P:=h
theorem Ik {P : Prop} (h : P:=by
  go_wp2_with fail;refine HN.out.mono ?_;rintro e w1 ⟨rfl,g',cap',hw1,hs1⟩;have W1:=hid hw1;have S1:=hid ((Stp.of_below B1.out).trans hs1);clear hw1 hs1 hm hc;go_wp2_with fail;go_ret;exact ⟨rfl,g',cap',W1.out,S1.out⟩
 ) : P:=h
theorem Ir {P : Prop} (h : P:=by
  go_wp2_with (first | (go_at_call 85; refine (mD t _ ae ae).mono ?_; rintro e w' ⟨rfl,hw'⟩; have hw2:=hw'.symm; subst hw2))
  exact ⟨⟨t + 1,ae,aX,HN⟩,aZ⟩
 ) : P:=h
theorem JC {P : Prop} (h : P:=by
  refine ⟨h.1,h.2.imp id ?_⟩;rintro ⟨b,off,ha,hc⟩
  refine ⟨b,off,ha,fun j x hj => ?_⟩
  have:=hc j x hj
  exact ⟨hk.cell this.1 (hS _ _ _ ha),hk.cell this.2.1 (hS _ _ _ ha),hk.cell this.2.2 (hS _ _ _ ha)⟩
 ) : P:=h
theorem JZ {P : Prop} (h : P:=by
  go_wp2_with fail
  (try simp only [Exit.inBlock,Exit.then])
  refine bodyPost_ret (dE rfl _ _ _) rfl ?_
  refine ⟨_,_,_,_,_,_,_,_,_,pZ,.inl ⟨(by rw [HR.out]; simp),rfl,rfl,rfl⟩,HB.out⟩
 ) : P:=h
theorem I5 {P : Prop} (h : P:=by
  have h' : (most : Int) < s.size:=ae
  go_enter Tryz.func98,Tryz.ntmps98
  go_wp2;go_ret
  have hb : false = lett s most:=pU ⟨fun h => (nomatch h),fun h => ae⟩
  exact ⟨by rw [← hb]; rfl,rfl⟩
 ) : P:=h
theorem I8 {P : Prop} (h : P:=by
  go_wp2_with fail;go_ret;refine ⟨?_,HB.out⟩
  have hf : zs.all (fun b => decide (33 ≤ b) && decide (b ≤ 126)) = false:=by
   rw [List.all_eq_false];exact ⟨b,HMEM.out,aG⟩
  rw [HNM.out,hf];rfl
 ) : P:=h
theorem Hn {P : Prop} (h : P:=by
  go_enter Tryz.func255,Tryz.ntmps255
  go_wp2_with fail;refine bodyPost_ret (v:=.tuple #[.agg #[.int .i64 0,.string ⟨#[]⟩,.slice none 0 0],.bool false]) ?_ rfl ⟨rfl,BN⟩;rw [results_cell_tmp rfl];go_simp
 ) : P:=h
theorem Hh {P : Prop} (h : P:=by
  go_wp2_with fail;refine (cT R _ _ _ w c0).mono ?_;rintro e w1 ⟨rfl,rfl⟩;go_wp2_with fail;refine (sG _ _ _).mono ?_;rintro e w1 ⟨rfl,rfl⟩;exact ⟨rfl,⟨_,rfl⟩,Kept.refl _ _⟩
 ) : P:=h
theorem Im {P : Prop} (h : P:=by
  go_enter Tryz.func261,Tryz.ntmps261
  go_wp2_with fail;refine bodyPost_ret (v:=.tuple #[.agg #[.string ⟨#[]⟩,.string ⟨#[]⟩],.bool false]) ?_ rfl ⟨rfl,BN⟩;rw [results_cell_tmp rfl];go_simp
 ) : P:=h
theorem Gz {P : Prop} (h : P:=by
  go_enter Tryz.func260,Tryz.ntmps260
  go_wp2_with fail;refine bodyPost_ret (v:=.tuple #[.agg #[.int .u8 0,.bool false,.int .u64 0],.bool false]) ?_ rfl ⟨rfl,BN⟩;rw [results_cell_tmp rfl];go_simp
 ) : P:=h
theorem wK {P : Prop} (h : P:=by
  have hh:=hall i y zU
  have e : (xs.take k).take i = xs.take i:=by rw [List.take_take]; congr 1; omega
  (try simp only [List.nil_append,e] at hh);exact hh
 ) : P:=h
theorem Ii {P : Prop} (h : P:=by
  show (bE m a).2.size ≤ 8
  unfold bE;rw [List.getD_eq_getElem?_getD]
  cases h : m.types[a.toNat]? with
  | none => exact Nat.zero_le _
  | some y => exact (hev.tL y (List.mem_of_getElem? h)).2
 ) : P:=h
theorem Al {P : Prop} (h : P:=by
  go_wp2_with fail;refine (cT R _ _ _ w c0).mono ?_;rintro e w1 ⟨rfl,rfl⟩;go_wp2_with fail;refine hask.mono ?_;rintro e w2 ⟨⟨p,rfl⟩,b2⟩;exact ⟨rfl,⟨p,rfl⟩,az b2⟩
 ) : P:=h
theorem Hy {P : Prop} (h : P:=by
  have HD:=hid hle;clear hle;go_wp2_with fail
  go_quiet (fail)
  go_wp2_with fail;go_ret2
  exact ⟨by rw [HZ.out.1,HZ.out.2]; simp [HD.out],HS.out.trans ((below_drewN _ nq).mono HS.out.size)⟩
 ) : P:=h
theorem J4 {P : Prop} (h : P:=by
  go_wp2_with fail;refine bodyPost_ret (v:=.tuple #[.agg #[.string P,.string R],.bool true]) ?_ rfl ⟨rfl,(ml (k:=1) (HB.out.trans HQ.out)).drew⟩;rw [results_cell_tmp rfl];go_simp
 ) : P:=h
theorem KB {P : Prop} (h : P:=by
  clear he
  go_enter Tryz.func265,Tryz.ntmps265
  go_wp2_with fail;refine HE.out.mono ?_;rintro e w1 ⟨rfl,hw⟩;have hw2:=hw.symm;subst hw2;go_wp2;go_ret;exact ⟨cd,rfl⟩
 ) : P:=h
theorem zM {P : Prop} (h : P:=by
  go_wp2_with fail
  go_quiet ((go_at_call 265; exact Calls.quiet_of_same (HL.out _)))
  go_wp2_with fail;go_ret;exact ⟨cd,HB0.out.trans ((HBD.out _).mono HB0.out.size)⟩
 ) : P:=h
theorem zw {P : Prop} (h : P:=by
  refine ⟨h.1,h.2.imp id ?_⟩;rintro ⟨b,off,ha,hc⟩
  refine ⟨b,off,ha,fun j x hj => ?_⟩
  have:=hc j x hj
  exact ⟨hk.cell this.1 (hS _ _ _ ha),hk.cell this.2 (hS _ _ _ ha)⟩
 ) : P:=h
theorem Hz {P : Prop} (h : P:=by
  have hl:=h.len;have hx : xs[j]? = some (xs[j]'(ae)):=aN _
  have:=hc j _ hx 0 _ rfl
  rw [Nat.mul_one] at this;rw [List.getD_eq_getElem?_getD,hx];exact this
 ) : P:=h
theorem Ij {P : Prop} (h : P:=by
  have her : er (opF xs) k = 37:=by unfold er; rw [if_neg qL,if_pos hO5,hs]; simp only; rw [if_neg hx]
  rw [← HT.out.rest,Ep hlt Hu,her]
 ) : P:=h
theorem nQ {P : Prop} (h : P:=by
  have hff:=HF.out.full (by rw [hfl,hZ])
  rw [List.take_of_length_le ae] at hff
  exact ⟨rfl,by first | exact hff | (rw [← List.flatMap_append]; exact hff),HF.out.bel⟩
 ) : P:=h
theorem GU {P : Prop} (h : P:=by
  go_wp2_with fail;refine (H.out _ HB0.out).mono ?_;rintro e w1 ⟨rfl,hb⟩;have HB1:=hid (HB0.out.trans (hb.mono HB0.out.size));go_wp2_with fail;go_ret;exact ⟨rfl,HB1.out⟩
 ) : P:=h
theorem IH {P : Prop} (h : P:=by
  go_enter Tryz.func187,Tryz.ntmps187
  go_wp2_with fail
  refine (ez (by first | rfl | simp_all)).mono ?_
  rintro e w1 ⟨rfl,rfl⟩;exact ⟨rfl,⟨_,rfl⟩,Below.refl _ _⟩
 ) : P:=h
theorem IZ {P : Prop} (h : P:=by
  go_enter Tryz.func160,Tryz.ntmps160
  go_wp2_with fail;refine HE.out.mono ?_;rintro e w1 ⟨rfl,rfl⟩;rw [HC.out];go_wp2_with fail;go_ret2;exact ⟨cd,rfl⟩
 ) : P:=h
theorem Ag {P : Prop} (h : P:=by
  go_wp2_with fail;refine H.out.mono ?_;rintro e w1 ⟨rfl,hb1⟩;have HB1:=hid (HB.out.trans (hb1.mono HB.out.size));clear hb1;go_wp2_with fail;go_ret;exact ⟨rfl,HB1.out⟩
 ) : P:=h
theorem zr {P : Prop} (h : P:=by
  go_wp2_with fail;refine HE.out.mono ?_;rintro e w1 ⟨rfl,hk⟩;have HB1:=hid (HB.out.trans (hk.mono HB.out.size));clear hk;go_wp2_with fail;go_ret;exact ⟨rfl,HB1.out⟩
 ) : P:=h
theorem Hm {P : Prop} (h : P:=by
  refine ⟨h.1,h.2.1,h.2.2.1,h.2.2.2.1,h.2.2.2.2.imp id ?_⟩;rintro ⟨b,off,ha,hc⟩
  exact ⟨b,off,ha,fun j hj => hk.cell (hc j hj) (hS _ _ _ (Nv ae ha))⟩
 ) : P:=h
theorem JH {P : Prop} (h : P:=by
  go_ret2;refine ⟨_,rfl,?_,bO B3.out B5.out⟩;have h:=fD O5.out B3.out.size
  rw [HE2.out,show ([c] ++ U).length = 1 + U.length by simp; omega]
  exact h
 ) : P:=h
theorem K8 {P : Prop} (h : P:=by
  go_ret2;refine ⟨_,rfl,?_,bO B1.out B5.out⟩;have h:=fD O5.out B1.out.size
  rw [HE2.out,show ([c] ++ U).length = 1 + U.length by simp; omega]
  exact h
 ) : P:=h
theorem Lv {P : Prop} (h : P:=by
  clear HF HW H1 HF5 hwy hsy hb5 hkk HYL hyl hls P0 P1 P2;go_wp2_with fail;exact ⟨⟨t + 1,ys ++ [y],ae,aX,HN1,HN,HN2⟩,aZ⟩
 ) : P:=h
theorem Kj {P : Prop} (h : P:=by
  intro t;rw [hel]
  rcases h.els t with hx | ⟨j,a1,a2,a3,a4,a5,a6,a7⟩
  ·exact .inl hx
  ·exact .inr ⟨j,a1,a2,ae,a4,a5,a6,by rw [hen,hen]; exact a7⟩
 ) : P:=h
theorem Lu {P : Prop} (h : P:=by
  refine bodyPost_ret (dE rfl _ _ _) rfl ?_
  refine ⟨_,_,_,_,_,_,_,_,_,pZ,.inl ⟨(by rw [HR.out]; simp),rfl,rfl,rfl⟩,BEM.out⟩
 ) : P:=h
theorem KO {P : Prop} (h : P:=by
  have : k < l.length:=ae
  simp only [List.getD_eq_getElem?_getD,aN this,Option.getD_some]; exact hgood _ (List.getElem_mem this)
 ) : P:=h
theorem IK {P : Prop} (h : P:=by
  go_enter Tryz.func161,Tryz.ntmps161
  go_wp2_with fail;refine HO.out.mono ?_;rintro e w1 ⟨rfl,hb1⟩;go_wp2;go_ret;exact ⟨rfl,hb1.alloc hb1.size _⟩
 ) : P:=h
theorem Gw {P : Prop} (h : P:=by
  refine ⟨h.1,?_⟩
  rcases h.2 with h0 | ⟨g,cp,cur,rfl,h2,h3,h4⟩
  ·exact .inl h0
  ·exact .inr ⟨g,cp,cur,rfl,h2,by rw [hk g rfl]; exact h3,h4⟩
 ) : P:=h
theorem Il {P : Prop} (h : P:=by
  rw [hh] at HE
  go_enter Tryz.func281,Tryz.ntmps281
  go_wp2_with fail;refine HE.out.mono ?_;rintro e w1 ⟨rfl,rfl⟩;go_wp2;go_ret2;exact ⟨rfl,rfl⟩
 ) : P:=h
theorem I0 {P : Prop} (h : P:=by
  go_wp2_with fail
  exact ⟨⟨i + 1,ak,ae,hB2.out,hR2.out,by rw [show 7 - (i + 1) = n by omega]; exact hV2.out⟩,aZ⟩
 ) : P:=h
theorem wh {P : Prop} (h : P:=by
  rintro e w1 ⟨rfl,hw⟩;have hw2:=hw.symm;subst hw2;go_wp2_with fail;go_ret;exact ⟨cd,HB0.out.trans (HB.out.mono HB0.out.size)⟩
 ) : P:=h
theorem GG {P : Prop} (h : P:=by
  simp only at hcx
  unfold bL at hcx
  split at hcx
  ·cases hcx
  ·split at hcx
   ·cases hcx
   ·split at hcx
    ·cases hcx
    ·rw [hok.1,hok.2]; omega
 ) : P:=h
theorem IP {P : Prop} (h : P:=by
  clear hfz HLT;go_wp2_with fail;exact ⟨⟨k + 1,Pa,ae,aX,rfl,HIN.out.trans (HDR.out ▸ HEND.out),HB3.out⟩,aZ⟩
 ) : P:=h
theorem ug {P : Prop} (h : P:=by
  rintro e w' ⟨aa,ac,ys,he,hyl,hys,hrow,g',cap',hab,hw',hs'⟩;exact ⟨aa,ac,ys,he,hyl,hys,g',cap',wN,hs'⟩
 ) : P:=h
theorem Af {P : Prop} (h : P:=by
  go_wp2_with fail
  try rw [Exit.noGoto_ret]
  go_ret2;rw [HR.out]
  exact ⟨rfl,(fun h => cE),HKW.out.trans (HT.out.kept.trans HM.out.kept)⟩
 ) : P:=h
theorem kY {P : Prop} (h : P:=by
  obtain rfl : t = n + 64:=ae;have hlt' : ¬ ((n + 64 : Nat) : Int) < (n : Int) + 64:=ae;go_wp2_with fail;go_ret;exact ⟨rfl,HB.out⟩
 ) : P:=h
theorem Dx {P : Prop} (h : P:=by
  clear hfz;go_wp2_with fail;exact ⟨⟨k + 1,Pa,ae,rfl,aX,HIN.out.trans (HDR.out ▸ HEND.out),HB3.out⟩,aZ⟩
 ) : P:=h
theorem DK {P : Prop} (h : P:=by
  clear hcc;go_wp2_with fail
  go_quiet (fail)
  go_wp2_with fail;exact ⟨⟨q + 1,ae,aX,HN,hid (HBD.out _)⟩,aZ⟩
 ) : P:=h
theorem C6 {P : Prop} (h : P:=by
  clear HF hnx P0 P1 HX hb5 HF5;generalize txt t = tx at *;go_wp2_with fail;exact ⟨⟨t + 1,ae,aX,HN⟩,aZ⟩
 ) : P:=h
theorem tV {P : Prop} (h : P:=by
  rw [(((Below.refl _ w).alloc (Nat.le_refl _) _).alloc cH _ |>.alloc cH _).cell (by exact hRl)]; exact h.c0
 ) : P:=h
theorem vK {P : Prop} (h : P:=by
  go_wp2_with fail
  go_quiet (fail)
  go_wp2_with fail;go_ret;exact ⟨cd,HS.out.trans ((below_drewN w6 nq).mono HS.out.size)⟩
 ) : P:=h
theorem CZ {P : Prop} (h : P:=by
  intro j hj hj5
  have : j ≠ k:=fun e => h5 (e ▸ hj5)
  obtain ⟨t,ht,hx⟩:=h.elp j ae hj5
  exact ⟨t,ht,by rw [hel]; exact hx⟩
 ) : P:=h
theorem Bg {P : Prop} (h : P:=by
  go_wp2_with fail;refine H.out.mono ?_;rintro e w2 ⟨rfl,hb2⟩;have HB:=hid hb2;clear hb2;go_wp2_with fail;go_ret;exact ⟨rfl,HB.out⟩
 ) : P:=h
theorem CV {P : Prop} (h : P:=by
  obtain ⟨cur,h,_⟩:=h.block
  rcases Nat.lt_or_ge B w.heap.size with hl | hl
  ·exact hl
  ·rw [Array.getElem?_eq_none hl] at h; cases h
 ) : P:=h
theorem pR {P : Prop} (h : P:=by
  go_wp2_with fail
  go_quiet (fail)
  go_wp2_with fail;go_ret;exact ⟨cd,HB0.out.trans ((HBD.out _).mono HB0.out.size)⟩
 ) : P:=h
theorem Bi {P : Prop} (h : P:=by
  refine ⟨h.1,?_⟩
  rcases h.2 with h0 | ⟨g,cp,cur,h1,h2,h3⟩
  ·exact .inl h0
  ·exact .inr ⟨g,cp,cur,h1,Nat.le_trans hb h2,h3⟩
 ) : P:=h
theorem Ek {P : Prop} (h : P:=by
  go_wp2_with fail;refine (cr ak).mono ?_;rintro e w1 ⟨rfl,rfl⟩;go_wp2_with fail;go_end0;exact ⟨rfl,Below.refl _ _⟩
 ) : P:=h
theorem CL {P : Prop} (h : P:=by
  go_wp2_with fail
  go_quiet ((go_at_call 262; exact Calls.quiet_of_same (HCU.out _)))
  go_wp2_with fail;go_ret2;exact ⟨rfl,BQ.out _⟩
 ) : P:=h
theorem wk {P : Prop} (h : P:=by
  rintro e w6 ⟨rfl,hb6⟩;have HB6:=hid (B5.trans (hb6.mono B5.size));clear B5 b5 hb6;go_wp2_with fail;go_ret;exact ⟨rfl,HB6.out⟩
 ) : P:=h
theorem Db {P : Prop} (h : P:=by
  go_enter Tryz.func91,Tryz.ntmps91
  go_wp2_with fail;refine HE.out.mono ?_;rintro e w1 ⟨rfl,hb⟩;go_wp2;go_ret;exact ⟨rfl,hb⟩
 ) : P:=h
theorem Co {P : Prop} (h : P:=by
  refine ⟨h.1,?_⟩
  rcases h.2 with ⟨h,_⟩ | ⟨g,cp,cur,h1,_,h3⟩
  ·cases h
  ·exact .inr ⟨g,cp,cur,h1,Nat.zero_le _,h3⟩
 ) : P:=h
theorem Eo {P : Prop} (h : P:=by
  rw [show ((c.toNat : Nat) : Int) = c by omega,hs,Bool.false_or] at h
  intro u hu
  have:=List.all_eq_true.1 h u hu
  simpa using this
 ) : P:=h
theorem BC {P : Prop} (h : P:=by
  obtain ⟨B,n,e,hl,ho⟩:=h
  exact ⟨B,n,e,hl,bg ho hk (fun b hb hs => CR)⟩
 ) : P:=h
theorem Cx {P : Prop} (h : P:=by
  go_wp2_with fail;refine (cr rfl).mono ?_;rintro e w1 ⟨rfl,rfl⟩;go_wp2_with fail;go_end0;exact ⟨rfl,Below.refl _ _⟩
 ) : P:=h
theorem mZ {P : Prop} (h : P:=by
  go_wp2_with fail;refine HC.out.mono ?_;rintro e w2 ⟨⟨q,rfl⟩,hk2⟩;exact ⟨rfl,⟨q,rfl⟩,(az BW.out).trans hk2⟩
 ) : P:=h
theorem CY {P : Prop} (h : P:=by
  go_wp2_with fail;refine HN.out.mono ?_;rintro e w1 ⟨⟨p,rfl⟩,hk⟩;exact ⟨rfl,⟨p,rfl⟩,(az B1.out).trans hk⟩
 ) : P:=h
theorem Dt {P : Prop} (h : P:=by
  go_wp2_with fail;refine HT.out.mono ?_;rintro e w2 ⟨⟨q,rfl⟩,hk⟩;exact ⟨rfl,⟨q,rfl⟩,(az BW.out).trans hk⟩
 ) : P:=h
theorem CM {P : Prop} (h : P:=by
  clear m0 m1 m2 m3 m4 m5 m6 m7 hx;generalize cB m = ce at *;go_wp2_with fail;go_ret;exact ⟨cd,HB2.out⟩
 ) : P:=h
theorem Bq {P : Prop} (h : P:=by
  go_wp2_with fail
  go_quiet (fail)
  go_wp2_with fail;go_ret2;exact ⟨rfl,HQ.out.trans ((below_drewN _ _).mono HQ.out.size)⟩
 ) : P:=h
theorem Bj {P : Prop} (h : P:=by
  unfold efE;rw [if_neg ae,if_neg ae,if_neg ae,if_neg ae,if_neg ae,if_neg ae]
 ) : P:=h
theorem D8 {P : Prop} (h : P:=by
  unfold efV;rw [if_neg ae,if_neg ae,if_neg ae,if_neg ae,if_neg ae,if_neg ae]
 ) : P:=h
theorem uu {P : Prop} (h : P:=by
  go_enter Tryz.func326,Tryz.ntmps326
  go_wp2;go_ret;exact ⟨pZ,(Below.refl _ _).alloc (Nat.le_refl _) _⟩
 ) : P:=h
theorem Dw {P : Prop} (h : P:=by
  rcases (HM.out.kept HST.out.k (fun b off c h => l9)).2 with h0 | h
  ·omega
  ·exact h
 ) : P:=h
theorem C9 {P : Prop} (h : P:=by
  intro t u htu a b c;rw [hen] at c ⊢;rw [hen,hst];obtain ⟨x1,x2,x3⟩:=h.nest t u htu a b c;exact ⟨ae,x2,x3⟩
 ) : P:=h
theorem D4 {P : Prop} (h : P:=by
  rcases hc with rfl | rfl
  all_goals
   go_enter Tryz.func58,Tryz.ntmps58
   go_wp2_with fail;go_ret;exact ⟨rfl,HB0.out⟩
 ) : P:=h
theorem C5 {P : Prop} (h : P:=by
  rcases h.opn t ae hO with hx | ⟨hx,j,a1,a2,a3,a4⟩
  ·exact .inl hx
  ·exact .inr ⟨hx,j,a1,a2,ae,a4⟩
 ) : P:=h
theorem Ci {P : Prop} (h : P:=by
  go_enter Tryz.func225,Tryz.ntmps225
  go_wp2_with fail;go_ret
  exact ⟨by rw [← HV.out]; first | rfl | simp,HB.out⟩
 ) : P:=h
theorem Bv {P : Prop} (h : P:=by
  go_wp2_with fail;refine HX.out.mono ?_;rintro e w3 ⟨⟨q,rfl⟩,hk⟩;exact ⟨rfl,⟨q,rfl⟩,S2.out.throw hk⟩
 ) : P:=h
theorem Bz {P : Prop} (h : P:=by
  have HZ:=hid (HN.out rfl);clear HN HY;go_wp2_with fail;go_ret2
  exact ⟨by rw [HZ.out.1,HZ.out.2]; rfl,HS.out⟩
 ) : P:=h
theorem Ei {P : Prop} (h : P:=by
  intro w' ho' hg'
  exact h g cap w' ho' (.inl ⟨rfl,(Kept.of_grown hg').mono (fun k hk => by simpa using hk)⟩)
 ) : P:=h
theorem BU {P : Prop} (h : P:=by
  cases hm : x.2.1 with
  | true => rw [if_pos (.inr rfl)]; simp
  | false => rw [if_neg (by simp [h21])]; simp [h21]
 ) : P:=h
theorem Cw {P : Prop} (h : P:=by
  rw [List.getD_eq_getElem?_getD,aN ae,List.drop_eq_getElem_cons ae];rfl
 ) : P:=h
theorem Cf {P : Prop} (h : P:=by
  clear hat HF hnx P0 P1;go_wp2_with fail;exact ⟨⟨t + 1,ae,aX,HN⟩,aZ⟩
 ) : P:=h
theorem jz {P : Prop} (h : P:=by
  have:=heap_alloc_new (w.alloc (aY (some ⟨g.J,0,none⟩))) (aM i)
  rw [hz] at this;exact ai this
 ) : P:=h
theorem uk {P : Prop} (h : P:=by
  exact ((HW.out.1 z hz).stay (az hb5) (fun _ h => False.elim h)).stay hkk (fun k hk => .inl ae)
 ) : P:=h
theorem BS {P : Prop} (h : P:=by
  clear hE0;go_wp2_with fail;go_ret;exact ⟨cd,HB0.out.trans (HB.out.mono HB0.out.size)⟩
 ) : P:=h
theorem Df {P : Prop} (h : P:=by
  have h:=O7.out;rw [HT.out,← List.append_assoc,@List.length_append Int (C ++ dh (l.take k)) Z];exact h
 ) : P:=h
theorem Bt {P : Prop} (h : P:=by
  rcases h.2 with ⟨h0,h1⟩ | ⟨g,cp,cur,h1,_⟩
  ·exact ⟨none,0,by rw [h0,h1]⟩
  ·exact ⟨_,_,h1⟩
 ) : P:=h
theorem wO {P : Prop} (h : P:=by
  clear hat HF hnx P0;go_wp2_with fail;exact ⟨⟨t + 1,ae,aX,HN⟩,aZ⟩
 ) : P:=h
theorem Dc {P : Prop} (h : P:=by
  rcases Nat.lt_or_ge b w.heap.size with hx | hx
  ·exact hx
  ·rw [Array.getElem?_eq_none hx] at h; cases h
 ) : P:=h
theorem CK {P : Prop} (h : P:=by
  rw [if_neg ae,if_neg ae,if_neg ae,if_neg ae,if_neg ae,if_pos hc]
 ) : P:=h
theorem CJ {P : Prop} (h : P:=by
  rw [if_neg ae,if_neg ae,if_neg ae,if_neg ae,if_neg ae,if_pos hl]
 ) : P:=h
theorem Cb {P : Prop} (h : P:=by
  go_wp2_with fail;go_ret;exact ⟨Az,HB5.out.trans (HB7.out.mono HB5.out.size)⟩
 ) : P:=h
theorem jq {P : Prop} (h : P:=by
  go_wp2_with fail;refine HC.out.mono ?_;rintro e w2 ⟨⟨p,rfl⟩,hk⟩;exact ⟨rfl,⟨p,rfl⟩,hk⟩
 ) : P:=h
theorem Dr {P : Prop} (h : P:=by
  clear hS' yd y0 y1 y2 y3 y4 y5 y6 y7 y8;go_wp2_with fail;go_ret;exact ⟨cd,B3.out⟩
 ) : P:=h
theorem tW {P : Prop} (h : P:=by
  go_wp2_with fail;exact ⟨⟨q + 1 + 1,ae,aX,HK1.out,HB7.out⟩,aZ⟩
 ) : P:=h
theorem Dg {P : Prop} (h : P:=by
  go_wp2_with fail;go_ret
  exact ⟨by rw [HV2.out,if_neg (by rw [HK.out,HD.out]; omega)]; rfl,B2.out⟩
 ) : P:=h
theorem C8 {P : Prop} (h : P:=by
  go_wp2_with fail;exact ⟨⟨t + 1,ae,aX,HN,hid (HBD.out _)⟩,aZ⟩
 ) : P:=h
theorem BZ {P : Prop} (h : P:=by
  rcases Nat.lt_or_ge j xs.length with h | h
  ·exact h
  ·rw [List.getElem?_eq_none h] at hx; cases hx
 ) : P:=h
theorem C0 {P : Prop} (h : P:=by
  by_cases h0 : 0 ≤ x
  ·rw [bZ x h0 ae]; omega
  ·rw [xI x hx0 ae]; omega
 ) : P:=h
theorem wH {P : Prop} (h : P:=by
  go_wp2_with fail;go_ret2;exact ⟨_,cd,HB0.out.trans (HB.out.mono HB0.out.size)⟩
 ) : P:=h
theorem pG {P : Prop} (h : P:=by
  go_wp2_with fail;go_ret;exact ⟨cd,HB0.out.trans (HB1.out.mono HB0.out.size)⟩
 ) : P:=h
theorem BI {P : Prop} (h : P:=by
  rcases Nat.lt_or_ge j k with hx | hx
  ·exact HL.out j hx
  ·obtain rfl : j = k:=ae;exact hl
 ) : P:=h
theorem DY {P : Prop} (h : P:=by
  intro v' w' ho' hg _;refine h v' w' ?_ (own_below hown hg hbase)
  rw [List.map_append]; exact ho'
 ) : P:=h
theorem vY {P : Prop} (h : P:=by
  rintro e' w' ⟨he',g',cap',hw',hs'⟩;refine ⟨x,he',rfl,g',cap',?_,hs'⟩;rw [henc];exact hw'
 ) : P:=h
theorem gX {P : Prop} (h : P:=by
  go_wp2_with fail;go_ret;exact ⟨cd,HB0.out.trans (HB.out.mono HB0.out.size)⟩
 ) : P:=h
theorem vC {P : Prop} (h : P:=by
  go_wp2_with fail;exact ⟨⟨t + 1,ae,ae,aX,HB5⟩,aZ⟩
 ) : P:=h
theorem pW {P : Prop} (h : P:=by
  go_wp2_with fail;exact ⟨⟨t + 1,ae,ae,aX,HDR⟩,aZ⟩
 ) : P:=h
theorem tY {P : Prop} (h : P:=by
  exact ((W5.out.set (b:=w.heap.size + 1) ae n1).set (b:=w.heap.size + 1) ae n1)
 ) : P:=h
theorem pH {P : Prop} (h : P:=by
  have hlt' : ¬ (t : Int) < (n : Int):=ae;go_wp2_with fail;go_ret;exact ⟨rfl,HB.out⟩
 ) : P:=h
theorem uP {P : Prop} (h : P:=by
  have hkn' : ¬ (t : Int) < (n : Int):=ae;go_wp2_with fail;go_ret;exact ⟨rfl,HB.out⟩
 ) : P:=h
theorem CH {P : Prop} (h : P:=by
  unfold fM
  split
  ·rename_i hj
   exact ((qR _ _).1 (hal j hj)).2
  ·exact Nat.zero_le _
 ) : P:=h
theorem Ce {P : Prop} (h : P:=by
  rcases Nat.lt_or_ge j xs.length with h | h
  ·exact h
  ·simp [List.getElem?_eq_none h] at hy
 ) : P:=h
theorem Cj {P : Prop} (h : P:=by
  go_enter Tryz.func324,Tryz.ntmps324
  go_wp2;go_ret
  exact ⟨by rw [← HF.out]; rfl,rfl⟩
 ) : P:=h
theorem Bl {P : Prop} (h : P:=by
  go_enter Tryz.func270,Tryz.ntmps270
  go_wp2;go_ret
  exact ⟨by rw [← HF.out]; rfl,rfl⟩
 ) : P:=h
theorem mA {P : Prop} (h : P:=by
  rw [List.length_take] at this;have e1 : min j xs.length = j:=ae
  rwa [e1] at this
 ) : P:=h
theorem vZ {P : Prop} (h : P:=by
  clear hb1;go_wp2_with fail;go_ret
  exact ⟨by rw [HV.out,if_pos HZ.out]; rfl,B2.out⟩
 ) : P:=h
theorem Cy {P : Prop} (h : P:=by
  rw [if_neg ae,if_neg ae,if_neg ae,if_neg ae,if_pos hc]
 ) : P:=h
theorem Bw {P : Prop} (h : P:=by
  rw [if_neg ae,if_neg ae,if_neg ae,if_neg ae,if_pos hl]
 ) : P:=h
theorem tP {P : Prop} (h : P:=by
  go_wp2_with fail;exact ⟨⟨t + 1,ae,aX,HB5⟩,aZ⟩
 ) : P:=h
theorem En {P : Prop} (h : P:=by
  go_enter Tryz.func268,Tryz.ntmps268
  go_wp2;go_ret;exact ⟨cd,rfl⟩
 ) : P:=h
theorem vX {P : Prop} (h : P:=by
  go_wp2_with fail;exact ⟨⟨t + 1,ae,aX,HN⟩,aZ⟩
 ) : P:=h
theorem Ed {P : Prop} (h : P:=by
  rw [List.length_take] at this;have e : min j xs.length = j:=ae
  rwa [e] at this
 ) : P:=h
theorem Cn {P : Prop} (h : P:=by
  obtain ⟨t,a,b,c⟩:=h.ended j ae h6
  exact ⟨t,a,b,by rw [hen]; exact c⟩
 ) : P:=h
theorem Ca {P : Prop} (h : P:=by
  go_wp2_with fail;go_ret2;exact ⟨rL,HBR.out.1⟩
 ) : P:=h
theorem Dk {P : Prop} (h : P:=by
  go_wp2_with fail;go_ret2;exact ⟨rL,HB3.out.1⟩
 ) : P:=h
theorem Bf {P : Prop} (h : P:=by
  exact grow none 0 rfl (fun _ => ⟨rfl,rfl⟩) (fun b hb => by cases hb) ae
 ) : P:=h
theorem Dy {P : Prop} (h : P:=by
  exact ⟨rfl,(fun h => cE),HKW.out.trans (HT.out.kept.trans HM.out.kept)⟩
 ) : P:=h
theorem Ds {P : Prop} (h : P:=by
  go_ret
  exact ⟨congrArg (fun x => Ending.returned (.int .i64 x)) HS.out,B1.out⟩
 ) : P:=h
theorem uZ {P : Prop} (h : P:=by
  clear hb1;go_wp2_with fail;go_ret
  exact ⟨by rw [HV.out,if_neg hz]; rfl,B2.out⟩
 ) : P:=h
theorem DL {P : Prop} (h : P:=by
  rintro e w' ⟨rfl,rfl⟩;go_wp2_with fail;go_end0;exact ⟨rfl,Below.refl _ _⟩
 ) : P:=h
theorem D2 {P : Prop} (h : P:=by
  rw [(aj (w.alloc _) _).block _ ak];exact (MapKept.heap_alloc w _).1
 ) : P:=h
theorem vd {P : Prop} (h : P:=by
  rintro e' w' ⟨y,he',hy,g',cap',hw',hs'⟩;exact ⟨y,he',hy,g',cap',hw',hs'⟩
 ) : P:=h
theorem D7 {P : Prop} (h : P:=by
  rcases hcase with ⟨rfl,_⟩ | ⟨h1,_⟩
  ·exact (LI.block hown rfl).1
  ·omega
 ) : P:=h
theorem uW {P : Prop} (h : P:=by
  go_enter Tryz.func257,Tryz.ntmps257
  go_wp2_with fail;go_ret2;exact ⟨rfl,rfl⟩
 ) : P:=h
theorem uG {P : Prop} (h : P:=by
  go_enter Tryz.func258,Tryz.ntmps258
  go_wp2_with fail;go_ret2;exact ⟨rfl,rfl⟩
 ) : P:=h
theorem C7 {P : Prop} (h : P:=by
  dsimp only
  split
  ·exact vr
  ·exact this
 ) : P:=h
theorem Ec {P : Prop} (h : P:=by
  go_enter Tryz.func157,Tryz.ntmps157
  go_wp2_with fail;go_ret;exact ⟨rfl,rfl⟩
 ) : P:=h
theorem Dd {P : Prop} (h : P:=by
  go_enter Tryz.func148,Tryz.ntmps148
  go_wp2_with fail;go_ret;exact ⟨rfl,rfl⟩
 ) : P:=h
theorem CO {P : Prop} (h : P:=by
  go_enter Tryz.func94,Tryz.ntmps94
  go_wp2_with fail;go_end0;exact ⟨rfl,rfl⟩
 ) : P:=h
theorem DF {P : Prop} (h : P:=by
  rcases List.mem_append.1 hz with hz | hz
  ·exact hpr z hz
  ·simp at hz; omega
 ) : P:=h
theorem ux {P : Prop} (h : P:=by
  rcases h'.m with rfl | h2
  ·exact h.m
  ·exact .inr (Nat.le_trans h.k.size h2)
 ) : P:=h
theorem pP {P : Prop} (h : P:=by
  go_enter Tryz.func97,Tryz.ntmps97
  go_wp2_with fail;go_ret;exact ⟨rfl,rfl⟩
 ) : P:=h
theorem Eg {P : Prop} (h : P:=by
  exact ⟨⟨t + 1,ae,ae,aX,HB⟩,aZ⟩
 ) : P:=h
theorem tT {P : Prop} (h : P:=by
  obtain rfl:=Option.some.inj hj;exact ⟨ai h,ai h,ai h⟩
 ) : P:=h
theorem pM {P : Prop} (h : P:=by
  go_wp2_with fail;go_ret;exact ⟨Az,HB3.out⟩
 ) : P:=h
theorem pX {P : Prop} (h : P:=by
  rintro e w1 ⟨rfl,rfl⟩;exact ⟨rfl,⟨_,rfl⟩,Below.refl _ _⟩
 ) : P:=h
theorem tH {P : Prop} (h : P:=by
  rw [List.getElem?_append_left hjt] at hz;exact HW.out.2 j x2 z hj hz
 ) : P:=h
theorem nH {P : Prop} (h : P:=by
  go_enter Tryz.func18,Tryz.ntmps18
  go_wp2;go_ret;exact ⟨rfl,rfl⟩
 ) : P:=h
theorem mX {P : Prop} (h : P:=by
  exact ((Below.refl _ _).alloc (Nat.le_refl _) _).alloc ak _
 ) : P:=h
theorem vI {P : Prop} (h : P:=by
  simp only at hc
  unfold dB at hc
  split at hc
  ·cases hc
  ·omega
 ) : P:=h
theorem ww {P : Prop} (h : P:=by
  go_wp2_with fail;go_ret
  exact ⟨by rw [HV4.out]; rfl,HQ.out _⟩
 ) : P:=h
theorem pJ {P : Prop} (h : P:=by
  go_wp2_with fail;go_ret
  exact ⟨by rw [HV3.out]; rfl,HS.out⟩
 ) : P:=h
theorem pL {P : Prop} (h : P:=by
  go_wp2_with fail;go_ret;exact ⟨cd,HB0.out⟩
 ) : P:=h
theorem m9 {P : Prop} (h : P:=by
  go_wp2_with fail;go_ret;exact ⟨cd,rfl⟩
 ) : P:=h
theorem vP {P : Prop} (h : P:=by
  rw [gm rfl];go_simp
  simp [QF,QX,ltr]
 ) : P:=h
theorem vq {P : Prop} (h : P:=by
  unfold bE;rw [hq,Int.toNat_natCast,gY hp]
 ) : P:=h
theorem wo {P : Prop} (h : P:=by
  go_wp2_with fail;go_ret2;exact ⟨rfl,HB2.out⟩
 ) : P:=h
theorem kK {P : Prop} (h : P:=by
  go_wp2_with fail;go_ret;exact ⟨rfl,HB2.out⟩
 ) : P:=h
theorem ng {P : Prop} (h : P:=by
  go_wp2_with fail;go_ret;exact ⟨rfl,HB3.out⟩
 ) : P:=h
theorem uR {P : Prop} (h : P:=by
  go_wp2_with fail;go_ret2;exact ⟨rfl,HQ.out⟩
 ) : P:=h
theorem vw {P : Prop} (h : P:=by
  exact ((S5.out.set ae).set ae)
 ) : P:=h
theorem pS {P : Prop} (h : P:=by
  rcases h.m with h | h
  ·exact .inr h
  ·omega
 ) : P:=h
theorem wP {P : Prop} (h : P:=by
  rcases hsg.2.2 with h0 | h
  ·omega
  ·exact h
 ) : P:=h
theorem pT {P : Prop} (h : P:=by
  go_wp2_with fail;go_ret;exact ⟨rfl,rfl⟩
 ) : P:=h
theorem wM {P : Prop} (h : P:=by
  rw [gm rfl];go_simp
  simp [Qx]
 ) : P:=h
theorem nj {P : Prop} (h : P:=by
  go_wp2;go_ret;exact ⟨rfl,rfl⟩
 ) : P:=h
theorem cZ {P : Prop} (h : P:=by
  rw [results_cell_tmp rfl];go_simp
 ) : P:=h
theorem kX {P : Prop} (h : P:=by
  exact ⟨rfl,Below.refl _ _⟩
 ) : P:=h
theorem fH {P : Prop} (h : P:=by
  rw [gm rfl];go_simp
 ) : P:=h
theorem mB {P : Prop} (h : P:=by
  exact hc j x hj 0 ae
 ) : P:=h
theorem mt {P : Prop} (h : P:=by
  exact hc j x hj 1 ae
 ) : P:=h
theorem bY {P : Prop} (h : P:=by
  simpa using this
 ) : P:=h
theorem BP {P : Prop} (h : P:=by
  have BN:=hid (aj wr (cL x))
  have HC1:=hid (HE.out j x hx ys (wr.alloc (cL x)) g3 eT aa ac hyl HY.out (HST.out.trans (Stp.of_below BN.out)) (HWR.out.later BN.out) (aU HRW.out (fun B hB => BN.out.block B (aO HRW.out hB))) HAB.out)
  go_wp2_with fail;generalize wr.alloc (cL x) = W at *;have hszW:=BN.out.size;refine HC1.out.mono ?_;rintro e w5 ⟨y,rfl,hok,g4,cap4,hw5,hs5⟩;have hgr : g3 < wr.heap.size:=HWR.out.g_lt;have hRr : R < wr.heap.size:=HWR.out.lt
  have row5:=aU (w':=w5) HRW.out (fun B hB => by
   have h1:=aO HRW.out hB;have h2 : ∃ a,aa = some a ∧ a.block = B:=ny hB;obtain ⟨a,ha1,ha2⟩:=h2;have h3:=HAB.out a ha1;have h4:=HST.out.size;exact (hs5.block (b:=B) ae ae ae).trans (BN.out.block B h1))
  have gg4:=hw5.g_lt
  have hab5 : ∀ b,aa = some b → b.block ≠ g4 ∧ b.block < w5.heap.size:=fun a ha1 => by
   exact D6
  have W5:=hid hw5;have S5:=hid (HST.out.trans ((Stp.of_below BN.out).trans hs5));have O5:=hid hok;have BN5:=hid (aj w5 (cM y))
  have R6:=hid (aU (w':=w5.alloc (cM y)) row5 (fun B hB => BN5.out.block B (aO row5 hB)))
  have HAB5:=hid hab5;have NC:=hid (nC w5 y);have hz6 : (w5.alloc (cM y)).heap.size = w5.heap.size + 1:=ak;clear hw5 hs5 row5 hab5 HC1 hok
  go_wp2_with (at_builtin; (refine jO _ rfl (.tmp 28) (.tmp 33) _ rfl _ i0 _ _ _ uN hi hz0 hz1 hz2 rfl aH _ j _ rfl R6.out ⟨w5.heap.size,0,none⟩ 1 1 (oC0 y) rfl rfl NC.out (oC y) ae cG ae ?_; intro B cap7 w7 hrow7 hor7; have R7:=hid hrow7; have OR7:=hid hor7; clear hrow7 hor7))
  generalize w5.alloc (cM y) = W6 at *
  have hBn : w.heap.size ≤ B ∧ B ≠ g4 ∧ Kept (fun k => k = B) W6 w7:=by
   exact Eh
  have hRw:=S5.out.size
  go_roundw
  ·exact CC
  ·simp [intOf]; omega
 ) : P:=h
theorem Dl {P : Prop} (h : P:=by
  skip
  have HC1:=hid (HE.out j x hx hjk ys (wr.alloc (cL x)) g3 eT aa ac hyl HY.out (HST.out.trans (Stp.of_below BN.out)) (HWR.out.later BN.out) (aU HRW.out (fun B hB => BN.out.block B (aO HRW.out hB))) HAB.out)
  go_wp2_with fail;generalize wr.alloc (cL x) = W at *;have hszW:=BN.out.size;refine HC1.out.mono ?_;rintro e w5 ⟨y,rfl,hok,g4,cap4,hw5,hs5⟩;have hgr : g3 < wr.heap.size:=HWR.out.g_lt;have hRr : R < wr.heap.size:=HWR.out.lt
  have row5:=aU (w':=w5) HRW.out (fun B hB => by
   have h1:=aO HRW.out hB;have h2 : ∃ a,aa = some a ∧ a.block = B:=ny hB;obtain ⟨a,ha1,ha2⟩:=h2;have h3:=HAB.out a ha1;have h4:=HST.out.size;exact (hs5.block (b:=B) ae ae ae).trans (BN.out.block B h1))
  have gg4:=hw5.g_lt
  have hab5 : ∀ b,aa = some b → b.block ≠ g4 ∧ b.block < w5.heap.size:=fun a ha1 => by
   exact D6
  have W5:=hid hw5;have S5:=hid (HST.out.trans ((Stp.of_below BN.out).trans hs5));have O5:=hid hok;have BN5:=hid (aj w5 (cM y))
  have R6:=hid (aU (w':=w5.alloc (cM y)) row5 (fun B hB => BN5.out.block B (aO row5 hB)))
  have HAB5:=hid hab5;have NC:=hid (nC w5 y);have hz6 : (w5.alloc (cM y)).heap.size = w5.heap.size + 1:=ak;clear hw5 hs5 row5 hab5 HC1 hok
  go_wp2_with (at_builtin; (refine jO _ rfl (.tmp 28) (.tmp 33) _ rfl _ i0 _ _ _ uN hi hz0 hz1 hz2 rfl aH _ j _ rfl R6.out ⟨w5.heap.size,0,none⟩ 1 1 (oC0 y) rfl rfl NC.out (oC y) ae cG ae ?_; intro B cap7 w7 hrow7 hor7; have R7:=hid hrow7; have OR7:=hid hor7; clear hrow7 hor7))
  generalize w5.alloc (cM y) = W6 at *
  have hBn : w.heap.size ≤ B ∧ B ≠ g4 ∧ Kept (fun k => k = B) W6 w7:=by
   exact Eh
  have hRw:=S5.out.size
  go_roundw
  ·exact CC
  ·simp [intOf]; omega
 ) : P:=h
theorem DR {P : Prop} (h : P:=by
  have hlt' : (k : Int) < (m.dn : Int):=ae
  by_cases hbd : z3 ≤ 2147483647
  ·obtain ⟨x,hxk⟩ : ∃ x,m.data[k]? = some x:=⟨_,aN (by rw [PD.out.1]; exact hlt)⟩
   obtain ⟨b,off,hfa,hat⟩:=PD.out.2.resolve_left ae;have hat:=hat k x hxk;have hu:=UD.out k x hxk;have hk0 : (0 : Int) ≤ (k : Int):=ae;have hbd' : (z3 : Int) ≤ 2147483647:=ae;have hbq : decide ((z3 : Int) ≤ 2147483647) = true:=decide_eq_true hbd';rw [hfa] at m6;obtain ⟨_,g1⟩:=hat;rw [hfa];go_wp2_with fail
   exact ⟨⟨k + 1,z3 + x.2.1.2.1,ae,aX,aX,⟨_,rfl⟩,ae,hid (by have:=HF3.out; rw [EO hxk]; omega)⟩,aZ⟩
  ·have hbd' : ¬ (z3 : Int) ≤ 2147483647:=ae;have hbq : decide ((z3 : Int) ≤ 2147483647) = false:=decide_eq_false hbd';clear hlt;go_wp2_with fail
   go_loopw [3,7] (fun s i wr => ∃ k z : Nat,k ≤ m.en ∧ s = .int .i64 (z : Nat) ∧ i = .int .i64 k ∧ (∃ q,wr = W0.drewN q) ∧ z ≤ 1125899906842624 ∧ Hid (z3 + lV (m.exps.take k) ≤ z)) (fun _ i _ => m.en - (intOf i).toNat)
   case atStart => exact ⟨0,z3,ae,rfl,rfl,⟨_,rfl⟩,ae,hid (by simp [lV])⟩
   case round =>
    obtain ⟨k,z4,hk,rfl,rfl,⟨q4,rfl⟩,hz4,HF4⟩:=hrel
    by_cases hlt : k < m.en
    ·have hlt' : (k : Int) < (m.en : Int):=ae
     by_cases hbd : z4 ≤ 2147483647
     ·exact Bu
     ·have hbd' : ¬ (z4 : Int) ≤ 2147483647:=ae;have hbq : decide ((z4 : Int) ≤ 2147483647) = false:=decide_eq_false hbd';exact CG
    ·obtain rfl : k = m.en:=ae;clear hlt;go_wp2_with fail;go_ret
     exact ⟨z4,rfl,BW.out.trans (BW2.out _),fun h4 => uy⟩
 ) : P:=h
theorem DX {P : Prop} (h : P:=by
  have hlt' : (k : Int) < (m.en : Int):=ae
  by_cases hbd : z4 ≤ 2147483647
  ·exact Bu
  ·have hbd' : ¬ (z4 : Int) ≤ 2147483647:=ae;have hbq : decide ((z4 : Int) ≤ 2147483647) = false:=decide_eq_false hbd';clear hlt;go_wp2_with fail;go_ret
   exact ⟨z4,rfl,BW.out.trans (BW2.out _),fun h4 => uy⟩
 ) : P:=h
theorem Bo {P : Prop} (h : P:=by
  intro i y' hi'
  by_cases hij : i < ys.length
  ·rw [List.getElem?_append_left hij] at hi';exact HY.out i y' hi'
  ·rw [List.getElem?_append_right ae] at hi'
   have hi0 : i - ys.length = 0:=by
    exact Eu
   rw [hi0] at hi'
   simp at hi'
   subst hi';obtain rfl : i = j:=ae;exact ⟨x,hx,O5.out⟩
 ) : P:=h
theorem Cr {P : Prop} (h : P:=by
  rcases OR7.out with ⟨h1,h2⟩ | ⟨h1,h2⟩
  ·exact Cq
  ·have:=S5.out.size
   exact ⟨ae,ae,h2.mono (fun k hk => hk.elim)⟩
 ) : P:=h
theorem CN {P : Prop} (h : P:=by
  have HEND:=hid (show bI (ltV g.m g.R g.xs i) (decide (0 < k)) c (z :: l.drop (k + 1)) = (⟨#[]⟩,false) by rw [bI,hfz]; simp [hq,hk0])
  clear hfz HLT;go_wp2_with fail;go_ret2;exact ⟨rL,HB3.out⟩
 ) : P:=h
theorem Dm {P : Prop} (h : P:=by
  have h3:=HAB.out a ha1;have h1 : a.block < wr.heap.size:=aO HRW.out (ou HRW.out ha1);exact ⟨hs5.ne ae h3.2,Nat.lt_of_lt_of_le h1 (Nat.le_trans hszW hs5.size)⟩
 ) : P:=h
theorem uL {P : Prop} (h : P:=by
  go_wp2_with fail
  go_quiet (fail)
  go_wp2_with fail;exact ⟨⟨t + 1,ae,aX,hid (HBD.out _)⟩,aZ⟩
 ) : P:=h
theorem Dh {P : Prop} (h : P:=by
  have:=(W5.out.later BN5.out).kept hBn.2.2 ae (Ne.symm hBn.2.1)
  rw [sY enc hx]
  simpa [List.append_assoc] using this
 ) : P:=h
theorem Cm {P : Prop} (h : P:=by
  exact ⟨(S5.out.k.trans (az BN5.out)).then hBn.2.2 (fun k hk hkB => by have:=hBn.1; omega),S5.out.m⟩
 ) : P:=h
theorem DV {P : Prop} (h : P:=by
  exact ⟨j + 1,ae,rfl,(BW.out.trans (BN.out.mono BW.out.size)).drew⟩
 ) : P:=h
theorem vp {P : Prop} (h : P:=by
  go_wp2_with fail;go_ret;exact ⟨rfl,HB1.out⟩
 ) : P:=h
theorem vr {P : Prop} (h : P:=by
  unfold below;rw [ByteArray.size_extract];omega
 ) : P:=h
theorem CC {P : Prop} (h : P:=by
  refine ⟨j + 1,ys ++ [y],some ⟨B,0,none⟩,cap7,g4,cap4,ae,rfl,rfl,by simp [hyl],?_,?_,?_,?_,?_⟩
  ·intro i y' hi'
   by_cases hij : i < ys.length
   ·rw [List.getElem?_append_left hij] at hi';exact HY.out i y' hi'
   ·rw [List.getElem?_append_right ae] at hi'
    have hi0 : i - ys.length = 0:=by
     exact Eu
    rw [hi0] at hi'
    simp at hi'
    subst hi';obtain rfl : i = j:=ae;exact ⟨x,hx,O5.out⟩
  ·have:=R7.out
   simpa [gw] using this
  ·exact wj
  ·have:=(W5.out.later BN5.out).kept hBn.2.2 ae (Ne.symm hBn.2.1)
   rw [sY enc hx]
   simpa [List.append_assoc] using this
  ·exact ⟨(S5.out.k.trans (az BN5.out)).then hBn.2.2 (fun k hk hkB => by have:=hBn.1; omega),S5.out.m⟩
 ) : P:=h
theorem Bu {P : Prop} (h : P:=by
  obtain ⟨x,hxk⟩ : ∃ x,m.exps[k]? = some x:=⟨_,aN (by rw [PE.out.1]; exact hlt)⟩
  obtain ⟨b,off,hfa,hat⟩:=PE.out.2.resolve_left ae;have hat:=hat k x hxk;have hu:=UE.out k x hxk;have hk0 : (0 : Int) ≤ (k : Int):=ae;have hbd' : (z4 : Int) ≤ 2147483647:=ae;have hbq : decide ((z4 : Int) ≤ 2147483647) = true:=decide_eq_true hbd';rw [hfa] at m7;obtain ⟨g0,_⟩:=hat;rw [hfa];go_wp2_with fail
  exact ⟨⟨k + 1,z4 + x.1.size,ae,aX,aX,⟨_,rfl⟩,ae,hid (by have:=HF4.out; rw [Fv hxk]; omega)⟩,aZ⟩
 ) : P:=h
theorem CG {P : Prop} (h : P:=by
  clear hlt;go_wp2_with fail;go_ret
  exact ⟨z4,rfl,BW.out.trans (BW2.out _),fun h4 => uy⟩
 ) : P:=h
theorem Eh {P : Prop} (h : P:=by
  rcases OR7.out with ⟨h1,h2⟩ | ⟨h1,h2⟩
  ·exact Cq
  ·have:=S5.out.size
   exact ⟨ae,ae,h2.mono (fun k hk => hk.elim)⟩
 ) : P:=h
theorem D6 {P : Prop} (h : P:=by
  have h3:=HAB.out a ha1;have h1 : a.block < wr.heap.size:=aO HRW.out (ou HRW.out ha1);exact ⟨hs5.ne ae h3.2,Nat.lt_of_lt_of_le h1 (Nat.le_trans hszW hs5.size)⟩
 ) : P:=h
theorem Eu {P : Prop} (h : P:=by
  rcases Nat.eq_zero_or_pos (i - ys.length) with h | h
  ·exact h
  ·rw [List.getElem?_eq_none aG] at hi'; cases hi'
 ) : P:=h
theorem Cq {P : Prop} (h : P:=by
  have h1' : aa = some ⟨B,0,none⟩:=(Value.slice.inj h1).1;exact ⟨(HAB.out _ h1').1,(HAB5.out _ h1').1,h2⟩
 ) : P:=h
theorem wj {P : Prop} (h : P:=by
  intro b' hb'
  simp at hb'
  subst hb';exact ⟨hBn.1,hBn.2.1⟩
 ) : P:=h
abbrev aC (a0 : Int) (a1 : Int) (a2 : Option Addr) (a3 : Nat) (a4 : Nat) : Obj:=.cells #[.int .u8 a0,.int .i64 a1,.slice a2 a3 a4] 51
abbrev aI (a0 : Int) (a1 : ByteArray) (a2 : Option Addr) (a3 : Nat) (a4 : Nat) : Obj:=.cells #[.int .i64 a0,.string a1,.slice a2 a3 a4] 42
abbrev aB (a0 : ByteArray) (a1 : ByteArray) : Obj:=.cells #[.string a0,.string a1] 62
abbrev bD (a0 : Option Addr) (a1 : Nat) (a2 : Nat) (a3 : Option Addr) (a4 : Nat) (a5 : Nat) (a6 : Option Addr) (a7 : Nat) (a8 : Nat) (a9 : Int) (a10 : Int) (a11 : Option Addr) (a12 : Nat) (a13 : Nat) (a14 : Option Addr) (a15 : Nat) (a16 : Nat) (a17 : Option Addr) (a18 : Nat) (a19 : Nat) : Obj:=.cells #[.slice a0 a1 a2,.slice a3 a4 a5,.slice a6 a7 a8,.int .i64 a9,.int .i64 a10,.slice a11 a12 a13,.slice a14 a15 a16,.slice a17 a18 a19] 29
abbrev cy (a0 : Int) (a1 : ByteArray) (a2 : Int) (a3 : ByteArray) (a4 : ByteArray) (a5 : Bool) : Obj:=.cells #[.int .u8 a0,.string a1,.int .i8 a2,.string a3,.string a4,.bool a5] 74
abbrev aT (a0 : Int) (a1 : Int) (a2 : Value) : Obj:=.cells #[.int .u8 a0,.int .i64 a1,a2] 51
abbrev aM (a0 : Int) : Obj:=.cells #[.int .i64 a0] 3
abbrev bj (a0 : ByteArray) (a1 : ByteArray) : Obj:=.cells #[.string a0,.string a1] 206
abbrev bC (a0 : Int) (a1 : Bool) (a2 : Int) : Obj:=.cells #[.int .u8 a0,.bool a1,.int .u64 a2] 141
abbrev aY (a0 : Option Addr) : Obj:=.cells #[.pointer a0] 92
abbrev bi (a0 : Int) (a1 : Option Addr) (a2 : Nat) (a3 : Nat) : Obj:=.cells #[.int .i64 a0,.slice a1 a2 a3] 66
abbrev bH (a0 : ByteArray) (a1 : Int) : Obj:=.cells #[.string a0,.int .i64 a1] 68
abbrev dN (a0 : Int) : Obj:=.cells #[.int .u8 a0] 5
abbrev oh (a0 : Int) (a1 : ByteArray) (a2 : Int) (a3 : ByteArray) (a4 : ByteArray) (a5 : Bool) : Obj:=.cells #[.int .u8 a0,.string a1,.int .i8 a2,.string a3,.string a4,.bool a5] 145
abbrev gG (a0 : Int) (a1 : ByteArray) : Obj:=.cells #[.int .i64 a0,.string a1] 150
abbrev rX (a0 : Int) (a1 : Int) (a2 : Option Addr) (a3 : Nat) (a4 : Nat) (a5 : Int) (a6 : Int) (a7 : Option Addr) (a8 : Nat) (a9 : Nat) : Obj:=.cells #[.int .u8 a0,.int .i64 a1,.slice a2 a3 a4,.int .u8 a5,.int .i64 a6,.slice a7 a8 a9] 51
abbrev f9 (a0 : Bool) : Obj:=.cells #[.bool a0] 4
abbrev ik (a0 : Option Addr) (a1 : Nat) (a2 : Nat) : Obj:=.cells #[.slice a0 a1 a2] 64
abbrev im (a0 : ByteArray) : Obj:=.cells #[.string a0] 9
abbrev ma (a0 : ByteArray) (a1 : ByteArray) : Obj:=.cells #[.string a0,.string a1] 9
abbrev qE (a0 : Int) (a1 : Int) : Obj:=.cells #[.int .i64 a0,.int .i64 a1] 124
abbrev jx (a0 : Option Addr) (a1 : Nat) (a2 : Nat) : Obj:=.cells #[.slice a0 a1 a2] 22
abbrev eD (a0 : Value) : Obj:=.cells #[a0] 169
theorem sIB {α : Type _} (l : List α) (i : Nat) (a : α) : l.toArray.setIfInBounds i a = (l.set i a).toArray:=List.setIfInBounds_toArray l i a
theorem sC0 {α : Type _} {x : α} {xs : List α} {a : α} : (x :: xs).set 0 a = a :: xs:=List.set_cons_zero
theorem sCs {α : Type _} {x : α} {xs : List α} {i : Nat} {a : α} : (x :: xs).set (i + 1) a = x :: xs.set i a:=List.set_cons_succ
theorem tkH {P : Program} {ops : Array Oper} {Q : Exit → Act → World → Prop} {md : Region.Mode} {S : World → Prop} {i : Nat} {oi : Oper} {v : Value} {fuel : Nat} {listed : Array Bool} {a : Act} {w : World} (hi : ops[i]? = some oi) (hv : ∀ w,S w → (execOp a.eval oi).run P w = .ok (.value v) w)
  (h : wpAnyH P md ops Q S fuel (listed.setIfInBounds i true) (a.put oi.dst v) w) (hc : (Region.noSelect ops && Region.free md ops listed i && (Region.ready md ops listed).contains i) = true:=by kernel_rfl) (hw : Region.wanted oi (yielded ops a.tmps) = true:=by rfl)
  (hQ : ∀ c a w,Q (.panic c) (a.put oi.dst v) w → Q (.panic c) a w:=by exact fun _ _ _ h => h) (hS : S w:=by assumption) : wpAnyH P md ops Q S (fuel + 1) listed a w:=by
 simp only [Bool.and_eq_true] at hc
 exact wpAnyH_take hi hc.1.1 hc.1.2 hc.2 hQ (Or.inl ⟨hw,hv⟩) hS h
theorem tkA {P : Program} {ops : Array Oper} {Q : Exit → Act → World → Prop} {md : Region.Mode} {S : World → Prop} {i : Nat} {oi : Oper} {d : Option Tmp} {v : Value} {fuel : Nat} {listed : Array Bool} {a : Act} {w : World} (hi : ops[i]? = some oi) (hd : oi.dst = d) (hv : ∀ w,S w → (execOp a.eval oi).run P w = .ok (.value v) w)
  (h : wpAnyH P md ops Q S fuel (listed.setIfInBounds i true) (a.put d v) w) (hc : (Region.noSelect ops && Region.free md ops listed i && (Region.ready md ops listed).contains i) = true:=by kernel_rfl) (hw : Region.wanted oi (yielded ops a.tmps) = true:=by kernel_rfl)
  (hQ : ∀ c a w,Q (.panic c) (a.put d v) w → Q (.panic c) a w:=by exact fun _ _ _ h => h) (hS : S w:=by assumption) : wpAnyH P md ops Q S (fuel + 1) listed a w:=by
 subst hd;exact tkH hi hv h hc hw hQ hS
theorem tkB {P : Program} {ops : Array Oper} {Q : Exit → Act → World → Prop} {md : Region.Mode} {S : World → Prop} {i : Nat} {oi : Oper} {d : Option Tmp} {v : Value} {fuel : Nat} {listed : Array Bool} {a : Act} {w : World} (h : wpAnyH P md ops Q S fuel (listed.setIfInBounds i true) (a.put d v) w) (hi : ops[i]? = some oi:=by kernel_rfl) (hd : oi.dst = d:=by kernel_rfl) (hv : ∀ w,S w → (execOp a.eval oi).run P w = .ok (.value v) w:=by (intro w h;(try dsimp only at h);go_simp;try with_reducible rfl))
  (hc : (Region.noSelect ops && Region.free md ops listed i && (Region.ready md ops listed).contains i) = true:=by kernel_rfl) (hw : Region.wanted oi (yielded ops a.tmps) = true:=by kernel_rfl) (hQ : ∀ c a w,Q (.panic c) (a.put d v) w → Q (.panic c) a w:=by exact fun _ _ _ h => h) (hS : S w:=by assumption) : wpAnyH P md ops Q S (fuel + 1) listed a w:=tkA hi hd hv h hc hw hQ hS
theorem tkC {P : Program} {ops : Array Oper} {Q : Exit → Act → World → Prop} {md : Region.Mode} {S : World → Prop} {i : Nat} {oi : Oper} {v : Value} {fuel : Nat} {listed : Array Bool} {a : Act} {w : World} (hi : ops[i]? = some oi) (h : wpAnyH P md ops Q S fuel (listed.setIfInBounds i true) (a.put oi.dst v) w) (hv : ∀ w,S w → (execOp a.eval oi).run P w = .ok (.value v) w:=by (intro w h;(try dsimp only at h);go_simp;try with_reducible rfl))
  (hc : (Region.noSelect ops && Region.free md ops listed i && (Region.ready md ops listed).contains i) = true:=by kernel_rfl) (hw : Region.wanted oi (yielded ops a.tmps) = true:=by rfl) (hQ : ∀ c a w,Q (.panic c) (a.put oi.dst v) w → Q (.panic c) a w:=by exact fun _ _ _ h => h) (hS : S w:=by assumption) : wpAnyH P md ops Q S (fuel + 1) listed a w:=tkH hi hv h hc hw hQ hS
theorem rdA {P : Program} {ops : Array Oper} {Q : Exit → Act → World → Prop} {md : Region.Mode} {S : World → Prop} {i : Nat} {o : Oper} {fuel : Nat} {listed : Array Bool} {a : Act} {w : World} {rs : List Nat} (h : ∀ K : Act → World → Prop,Shut (∀ a w,S w → (S w → wpAnyH P md ops Q S fuel (listed.setIfInBounds i true) a w) → K a w) → Oper.wp P o a w K Q) (hs : AllReadyH P md ops Q S fuel listed a w rs) (ho : ops[i]? = some o:=by kernel_rfl) (hw : Region.wanted o (yielded ops a.tmps) = true:=by kernel_rfl) : AllReadyH P md ops Q S fuel listed a w (i :: rs):=AllReadyH.cons ho (fun K hK => by rw [if_pos hw]; exact h K hK) hs
theorem rdY {P : Program} {ops : Array Oper} {Q : Exit → Act → World → Prop} {md : Region.Mode} {S : World → Prop} {rs : List Nat} {fuel : Nat} {listed : Array Bool} {a : Act} {w : World} (h : AllReadyH P md ops Q S fuel listed a w rs) (hr : Region.ready md ops listed = rs:=by kernel_rfl) (hne : rs ≠ []:=by simp) : wpAnyH P md ops Q S (fuel + 1) listed a w:=wpAnyH_ready hr hne h
theorem rN {P : Program} {ops : Array Oper} {Q : Exit → Act → World → Prop} {md : Region.Mode} {S : World → Prop} {fuel : Nat} {listed : Array Bool} {a : Act} {w : World} : AllReadyH P md ops Q S fuel listed a w []:=AllReadyH.nil
theorem hid {P : Prop} (h : P) : Hid P:=h
def isL (c : Int) : Bool:=decide (c = 119) || decide (c = 108)
theorem LR {c : Int} (h : isL c = true) : c < 128:=by
 simp only [isL,Bool.or_eq_true,decide_eq_true_eq] at h; omega
theorem kU (c : Int) : (c = 119 ∧ isL c = true) ∨ (c = 108 ∧ isL c = true) ∨ ((c == 119) = false ∧ (c == 108) = false ∧ isL c = false):=by
 by_cases h : c = 119
 ·exact .inl ⟨h,by subst h; rfl⟩
 by_cases h' : c = 108
 ·exact .inr (.inl ⟨h',by subst h'; rfl⟩)
 ·exact .inr (.inr ⟨jZ,by simpa using h',by simp [isL,h,h']⟩)
theorem mY (c : Int) (w : World) : Calls Tryz.prog 181 #[.int .u8 c] w fun e w' => e = .returned (.bool (isL c)) ∧ w' = w:=by
 rcases kU c with ⟨rfl,h⟩ | ⟨rfl,h⟩ | ⟨h1,h2,h⟩
 all_goals
  go_enter Tryz.func181,Tryz.ntmps181
  go_wp2;go_ret
  first | exact ⟨rfl,rfl⟩ | (rw [h]; simp_all)
theorem mH (c : Int) (w : World) : Calls Tryz.prog 156 #[.int .u8 c] w fun e w' => e = .returned (.bool (isL c)) ∧ w' = w:=by
 rcases kU c with ⟨rfl,h⟩ | ⟨rfl,h⟩ | ⟨h1,h2,h⟩
 all_goals
  go_enter Tryz.func156,Tryz.ntmps156
  go_wp2;go_ret
  first | exact ⟨rfl,rfl⟩ | (rw [h]; simp_all)
def gq (v c : Int) : Bool:=decide (c = 108) || (decide (c = 119) && decide (v < 4294967296))
theorem Qk (v c : Int) (w : World) : Calls Tryz.prog 243 #[.int .u64 v,.int .u8 c] w fun e w' => e = .returned (.bool (gq v c)) ∧ w' = w:=by
 rcases kU c with ⟨rfl,h⟩ | ⟨rfl,h⟩ | ⟨h1,h2,h⟩
 all_goals
  go_enter Tryz.func243,Tryz.ntmps243
  go_wp2;go_ret
  first | exact ⟨rfl,rfl⟩ | (simp_all [gq])
theorem NH (k m c : Int) (B : Nat) (w : World) (hm : w.cell? ⟨B,0,none⟩ = some (.int .i64 m)) :
  Calls Tryz.prog 210 #[.int .i64 k,.int .u8 c,.pointer (some ⟨B,0,none⟩)] w fun e w' => e = .returned (.bool (decide (k < m))) ∧ w' = w:=by
 go_enter Tryz.func210,Tryz.ntmps210
 exact nj
def dK (s : ByteArray) (i : Nat) : Int:=((s.data.toList[i]?.getD 0).toNat : Int)
theorem iQ (s : ByteArray) (i : Nat) (h : i < s.size) : ((s[i]'h).toNat : Int) = dK s i:=by
 have h' : i < s.data.toList.length:=jZ
 rw [dK,aN h',Option.getD_some,Array.getElem_toList]; rfl
theorem OC (s : ByteArray) (K B : Nat) (p : Nat → Bool) (w : World) (hs : s.size ≤ 1073741824)
  (he : ∀ args w,(callFunc K args).run Tryz.prog w = .ok (.enter K args) w)
  (hp : ∀ (pos i : Nat) (h : i < s.size),isL (dK s i) = true → Calls Tryz.prog K #[.int .i64 i,.int .u8 (s[i]'h).toNat,.pointer (some ⟨B,0,none⟩)] (w.iter s pos) fun e w' => e = .returned (.bool (p i)) ∧ w' = w.iter s pos) :
  Calls Tryz.prog 209 #[.string s,.func (.func K) #[] #[.pointer (some ⟨B,0,none⟩)]] w fun e w' =>
   ∃ b pos,e = .returned (.bool b) ∧ (b = true ↔ ∀ i,i < s.size → isL (dK s i) = true ∧ p i = true) ∧ w' = w.iter s pos:=by
 have HP:=hid hp;exact Nw
def lett (s : ByteArray) (most : Nat) : Bool:=(List.range s.size).all (fun i => isL (dK s i)) && decide (s.size ≤ most)
theorem qR (s : ByteArray) (most : Nat) : lett s most = true ↔ (∀ i,i < s.size → isL (dK s i) = true) ∧ s.size ≤ most:=by
 simp [lett]
theorem pU {s : ByteArray} {most : Nat} {b : Bool} (h : b = true ↔ (∀ i,i < s.size → isL (dK s i) = true) ∧ s.size ≤ most) : b = lett s most :=
 Bool.eq_iff_iff.2 (h.trans (qR s most).symm)
theorem Gs (s : ByteArray) (most : Nat) (w : World) (hs : s.size ≤ 1073741824) (hm : most ≤ 1073741824) :
  Calls Tryz.prog 140 #[.string s,.int .i64 most] w fun e w' => e = .returned (.bool (lett s most)) ∧ Below w.heap.size w w':=by
 have hmf : ∀ (fn : Fn) (first cap : Array Value) (w : World),(Instr.makeFunc fn first cap).run Tryz.prog w = .ok (.func fn first cap) w:=fun _ _ _ _ => rfl
 have HE:=hid (OC s 210 w.heap.size (fun i => decide ((i : Int) < most)) (w.alloc (aM most)) hs (fun _ _ => by rfl) (fun pos i h _ => NH i most _ w.heap.size _ (by
  rw [World.iter,World.cell?_alloc_past _ _ _ ak,World.cell?_alloc_at _ _ _ _ rfl]; rfl)))
 exact KC
theorem FD (s : ByteArray) (most : Nat) (w : World) (hs : s.size ≤ 1073741824) (hm : most ≤ 1073741824) :
  Calls Tryz.prog 98 #[.string s,.int .i64 most] w fun e w' => e = .returned (.bool (lett s most)) ∧ w' = w:=by
 by_cases hbig : most < s.size
 ·exact I5
 have h' : ¬ (most : Int) < s.size:=ae
 go_enter Tryz.func98,Tryz.ntmps98
 go_wp2
 go_loop [5] (fun i => ∃ k : Nat,k ≤ s.size ∧ i = .int .i64 k ∧ ∀ i,i < k → isL (dK s i) = true) (fun i => s.size - (intOf i).toNat)
 case atStart => exact ⟨0,Nat.zero_le _,rfl,fun i h => ae⟩
 case round =>
  obtain ⟨k,hk,rfl,hall⟩:=hrel;have HA:=hid hall;clear hall
  by_cases hlt : k < s.size
  ·have hlt' : (k : Int) < s.size:=ae
   cases hL : isL (dK s k)
   ·go_wp2_with fail;refine (mH _ _).mono ?_;rintro e w1 ⟨rfl,rfl⟩;rw [iQ s k hlt,hL];go_wp2;go_ret
    have hb : false = lett s most:=pU ⟨fun h => (nomatch h),fun h => by rw [h.1 k hlt] at hL; cases hL⟩
    exact ⟨by rw [← hb]; rfl,rfl⟩
   ·go_wp2_with fail;refine (mH _ _).mono ?_;rintro e w1 ⟨rfl,rfl⟩;rw [iQ s k hlt,hL];go_wp2
    refine ⟨⟨k + 1,ae,ak,fun i hi => ?_⟩,aZ⟩
    rcases Nat.lt_or_ge i k with h | h
    ·exact HA.out i h
    ·obtain rfl : i = k:=ae;exact hL
  ·have hlt' : ¬ (k : Int) < s.size:=ae;go_wp2;go_ret
   have hb : true = lett s most:=pU ⟨fun _ => ⟨fun i hi => HA.out i ae,ae⟩,fun _ => rfl⟩
   exact ⟨by rw [← hb]; rfl,rfl⟩
theorem CP (s : ByteArray) (w : World) (hs : s.size ≤ 1073741824) :
  Calls Tryz.prog 91 #[.string s] w fun e w' => e = .returned (.bool (lett s 256)) ∧ Below w.heap.size w w':=by
 have HE:=hid (Gs s 256 w hs ae);exact Db
structure Kept (S : Nat → Prop) (w w' : World) : Prop where
 os : w'.os = w.os
 tape : w'.tape = w.tape
 output : w'.output = w.output
 size : w.heap.size ≤ w'.heap.size
 block : ∀ k,k < w.heap.size → ¬ S k → w'.heap[k]? = w.heap[k]?
theorem Kept.refl (S : Nat → Prop) (w : World) : Kept S w w:=⟨rfl,rfl,rfl,Nat.le_refl _,fun _ _ _ => rfl⟩
theorem Kept.trans {S : Nat → Prop} {w w1 w2 : World} (h1 : Kept S w w1) (h2 : Kept S w1 w2) : Kept S w w2 :=
 ⟨h2.os.trans h1.os,h2.tape.trans h1.tape,h2.output.trans h1.output,Nat.le_trans h1.size h2.size,
  fun k hk hs => (h2.block k (Nat.lt_of_lt_of_le hk h1.size) hs).trans (h1.block k hk hs)⟩
theorem Kept.then {S T : Nat → Prop} {w w1 w2 : World} (h1 : Kept S w w1) (h2 : Kept T w1 w2) (h : ∀ k,k < w.heap.size → T k → S k) : Kept S w w2 :=
 ⟨h2.os.trans h1.os,h2.tape.trans h1.tape,h2.output.trans h1.output,Nat.le_trans h1.size h2.size,
  fun k hk hs => (h2.block k (Nat.lt_of_lt_of_le hk h1.size) (fun ht => hs (h k hk ht))).trans (h1.block k hk hs)⟩
theorem Kept.of_grown {w w' : World} {r : Option Nat} (h : w.grownBy w' r) : Kept (fun k => some k = r) w w':=⟨h.os,h.tape,h.output,h.size,fun k hk hs => h.block k hk hs⟩
theorem Kept.alloc (S : Nat → Prop) (w : World) (o : Obj) : Kept S w (w.alloc o):=by
 have h:=(Below.refl w.heap.size w).alloc (Nat.le_refl _) o
 exact ⟨h.os,h.tape,h.output,h.size,fun k hk _ => h.block k hk⟩
theorem Kept.of_below {B : Nat} {w w' : World} (h : Below B w w') : Kept (fun k => B ≤ k) w w':=⟨h.os,h.tape,h.output,h.size,fun k hk hs => h.block k ae⟩
theorem Kept.to_below {S : Nat → Prop} {B : Nat} {w w' : World} (h : Kept S w w') (hB : B ≤ w.heap.size) (hS : ∀ k,k < B → ¬ S k) : Below B w w':=⟨h.os,h.tape,h.output,h.size,fun k hk => h.block k ae (hS k hk)⟩
theorem Kept.mono {S T : Nat → Prop} {w w' : World} (h : Kept S w w') (hS : ∀ k,S k → T k) : Kept T w w':=⟨h.os,h.tape,h.output,h.size,fun k hk hs => h.block k hk (fun x => hs (hS k x))⟩
theorem Kept.drewN (S : Nat → Prop) (w : World) (m : Nat) : Kept S w (w.drewN m):=by
 have h:=below_drewN (Below.refl w.heap.size w) m
 exact ⟨h.os,h.tape,h.output,h.size,fun k hk _ => h.block k hk⟩
theorem cell_of_block {w w' : World} {b : Nat} (h : w'.heap[b]? = w.heap[b]?) (o : Nat) : w'.cell? ⟨b,o,none⟩ = w.cell? ⟨b,o,none⟩:=by
 simp only [World.cell?,h]
theorem bX {w w' : World} {b : Nat} (h : w'.heap[b]? = w.heap[b]?) (o : Nat) : w'.frozen? ⟨b,o,none⟩ = w.frozen? ⟨b,o,none⟩:=by
 simp only [World.frozen?,h]
theorem Kept.cell {S : Nat → Prop} {w w' : World} (h : Kept S w w') {b o : Nat} {v : Value} (hc : w.cell? ⟨b,o,none⟩ = some v) (hs : ¬ S b) : w'.cell? ⟨b,o,none⟩ = some v :=
 (cell_of_block (h.block b (block_lt_of_cell hc) hs) o).trans hc
def Row (w : World) (e : TypeId) (B n cap : Nat) (xs : List Value) : Prop:=w.ownsRow 0 e 1 (.slice (some ⟨B,0,none⟩) n cap) n xs
theorem Row.of {w : World} {base : Nat} {e : TypeId} {B n cap : Nat} {xs : List Value} (h : w.ownsRow base e 1 (.slice (some ⟨B,0,none⟩) n cap) n xs) : Row w e B n cap xs:=by
 exact Co
theorem Row.block {w : World} {e : TypeId} {B n cap : Nat} {xs : List Value} (h : Row w e B n cap xs) : ∃ cur,w.heap[B]? = some (.cells cur e) ∧ n ≤ cap ∧ cap ≤ maxLen ∧ cur.size = cap ∧ cur.toList.take n = xs:=by
 rcases h.2 with ⟨h,_⟩ | ⟨g,cp,cur,h1,_,h3,h4,h5,h6,h7⟩
 ·cases h
 ·simp at h1
  obtain ⟨rfl,rfl⟩:=h1
  exact ⟨cur,h3,h4,h5,lD,by simpa using h7⟩
theorem Row.lt {w : World} {e : TypeId} {B n cap : Nat} {xs : List Value} (h : Row w e B n cap xs) : B < w.heap.size:=by
 exact CV
theorem gu {w w' : World} {base : Nat} {e : TypeId} {v : Value} {n : Nat} {xs : List Value} (h : w.ownsRow base e 1 v n xs) (hk : ∀ B,v.ownBlock = some B → w'.heap[B]? = w.heap[B]?) : w'.ownsRow base e 1 v n xs:=by
 exact Gw
theorem Row.keep {w w' : World} {e : TypeId} {B n cap : Nat} {xs : List Value} (h : Row w e B n cap xs) (hk : w'.heap[B]? = w.heap[B]?) : Row w' e B n cap xs :=
 gu h (fun b hb => by
  obtain rfl : B = b:=ry;exact hk)
theorem Row.kept {S : Nat → Prop} {w w' : World} {e : TypeId} {B n cap : Nat} {xs : List Value} (h : Row w e B n cap xs) (hk : Kept S w w') (hs : ¬ S B) : Row w' e B n cap xs:=h.keep (hk.block B h.lt hs)
theorem Row.cell {w : World} {e : TypeId} {B n cap : Nat} {xs : List Value} (h : Row w e B n cap xs) (j : Nat) (hj : j < n) : w.cell? ⟨B,j,none⟩ = xs[j]?:=World.ownsRow.cellAt h j ae
theorem Row.free {w : World} {e : TypeId} {B n cap : Nat} {xs : List Value} (h : Row w e B n cap xs) (j : Nat) : w.frozen? ⟨B,j,none⟩ = false:=World.ownsRow.frozenAt h j
theorem Row.put {w : World} {e : TypeId} {B n cap : Nat} {xs : List Value} (h : Row w e B n cap xs) (j : Nat) (u : Value) : Row (w.setCell ⟨B,j,none⟩ u) e B n cap (xs.set j u) ∧ Kept (fun k => k = B) w (w.setCell ⟨B,j,none⟩ u):=by
 have:=World.ownsRow.stored h j u
 exact ⟨this.1,(Kept.of_grown this.2).mono (fun k hk => by simpa using hk)⟩
theorem yo {P : Program} (w : World) {ops : Array Oper} {rest : List Oper} {o : Oper} {a : Act} {Q : Exit → Act → World → Prop} (hgd : o.guard = none)
  (s x : Operand) (t : TypeId) (ho : o.op = Op.call { callee:=Callee.builtin Builtin.append,args:=#[s,x],argTypes:=#[t,t] }) (e : TypeId) (i : TypeInfo) (z : Value) (bytes : Nat)
  (h1 : P.underlying t = some (.slice e)) (h2 : P.info? e = some i) (h3 : i.zero = some z) (h4 : i.size = 1) (h5 : i.bytes = bytes) (h6 : z.cells.size = 1)
  (v : Value) (n : Nat) (xs : List Value) (hs : a.eval s = v) (hown : w.ownsRow 0 e 1 v n xs) (ad : Addr) (u : Value) (hx : a.eval x = .slice (some ad) 1 1) (hu : w.cell? (ad.add 0) = some u) (hu1 : u.oneCell' = true)
  (b1 : n + 1 ≤ maxLen) (b2 : (n + 1) * bytes ≤ 140737488355328)
  (h : ∀ (B cap : Nat) (w' : World),Row w' e B (n + 1) cap (xs ++ [u]) → ((v = .slice (some ⟨B,0,none⟩) n cap ∧ Kept (fun k => k = B) w w') ∨ (w.heap.size ≤ B ∧ Kept (fun _ => False) w w')) → wpList P ops Q rest (a.put o.dst (.slice (some ⟨B,0,none⟩) (n + 1) cap)) w') :
  wpList P ops Q (o :: rest) a w:=by
 have hnews : ∀ (j : Nat) (y : Value),[u][j]? = some y → w.cell? (ad.add j) = some y:=by
  intro j y hj
  match j,hj with
  | 0,hj => simp at hj; subst hj; exact hu
  | j + 1,hj => simp at hj
 have hone : ∀ y ∈ [u],y.oneCell' = true:=by intro y hy; simp at hy; subst hy; exact hu1
 have grow : ∀ (ao : Option Addr) (cap : Nat),v = .slice ao n cap → (ao = none → n = 0 ∧ cap = 0) → (∀ b,ao = some b → ∀ (j : Nat) (y : Value),xs[j]? = some y → w.cell? (b.add j) = some y) → cap < n + 1 → wpList P ops Q (o :: rest) a w:=by
  intro ao cap hv hnone holds hfull;refine wpList_append_grows w hgd s x t ho e i z 1 bytes h1 h2 h3 h4 h5 h6 aH ao n cap xs (hs.trans hv) hnone hown.1 holds ad 1 1 [u] hx rfl hnews hone hfull b1 b2 ?_;intro v' w' ho' hg'
  rcases ho'.2 with ⟨_,hz⟩ | ⟨g,cp,cur,rfl,hbase,h8⟩
  ·omega
  ·exact h g cp w' (Row.of ho') (.inr ⟨hbase,(Kept.of_grown hg').mono (fun k hk => by cases hk)⟩)
 rcases hown.2 with ⟨rfl,rfl⟩ | ⟨g,cap,cur,rfl,_,hh,hnc,hcm,hsz,htk⟩
 ·exact Bf
 ·by_cases hroom : n + 1 ≤ cap
  ·refine wpList_append_fits w hgd s x t ho 0 e i 1 h1 h2 h4 g n cap xs hs hown ad 1 1 [u] hx rfl hnews hone hroom ?_;exact Ei
  ·refine grow (some ⟨g,0,none⟩) cap rfl (fun hb => by cases hb) (fun b hb j y hy => ?_) ae
   simp at hb
   subst hb
   have hj : j < xs.length:=by
    exact Ce
   have hl:=hown.1;have hplain : (⟨g,0,none⟩ : Addr).add j = ⟨g,j,none⟩:=fZ;rw [hplain,World.ownsRow.cellAt hown j ae];exact hy
theorem fD {w : World} {base base' : Nat} {e : TypeId} {v : Value} {n : Nat} {xs : List Value} (h : w.ownsRow base e 1 v n xs) (hb : base' ≤ base) : w.ownsRow base' e 1 v n xs:=by
 exact Bi
def ends (s t : ByteArray) : Bool:=decide (t.size ≤ s.size) && ((s.extract (s.size - t.size) s.size).toList == t.toList)
def below (s t : ByteArray) : ByteArray:=s.extract 0 (s.size - t.size)
theorem JA {a b : Nat} (h : b ≤ a) (ha : a ≤ 9223372036854775807) : ((a : Int) - (b : Int) + 9223372036854775808) % 18446744073709551616 - 9223372036854775808 = ((a - b : Nat) : Int):=ae
theorem PK (s p : ByteArray) (w : World) (hs : s.size ≤ 9223372036854775807) :
  Calls Tryz.prog 283 #[.string s,.string p] w fun e w' => e = .returned (.bool (ends s p)) ∧ w' = w:=by
 have hlo : p.size ≤ s.size → ((s.size : Int) - (p.size : Int) + 9223372036854775808) % 18446744073709551616 - 9223372036854775808 = ((s.size - p.size : Nat) : Int):=fun _ => ae
 go_enter Tryz.func283,Tryz.ntmps283
 exact Kp
theorem PP (s p : ByteArray) (w : World) (hs : s.size ≤ 9223372036854775807) :
  Calls Tryz.prog 33 #[.string s,.string p] w fun e w' => e = .returned (.bool (ends s p)) ∧ w' = w:=by
 have hlo : p.size ≤ s.size → ((s.size : Int) - (p.size : Int) + 9223372036854775808) % 18446744073709551616 - 9223372036854775808 = ((s.size - p.size : Nat) : Int):=fun _ => ae
 go_enter Tryz.func33,Tryz.ntmps33
 exact Kp
theorem PY (s p : ByteArray) (w : World) (hs : s.size ≤ 9223372036854775807) :
  Calls Tryz.prog 281 #[.string s,.string p] w fun e w' => e = .returned (.tuple #[.string (if ends s p = true then below s p else s),.bool (ends s p)]) ∧ w' = w:=by
 have HE:=hid (PK s p w hs)
 cases hh : ends s p
 ·exact Il
 ·have hle : p.size ≤ s.size:=by
   simp only [ends,Bool.and_eq_true,decide_eq_true_eq] at hh; exact hh.1
  have hlo:=JA hle hs;exact Il
theorem K6 (s p : ByteArray) (w : World) (hs : s.size ≤ 9223372036854775807) :
  Calls Tryz.prog 262 #[.string s,.string p] w fun e w' => e = .returned (.tuple #[.string (if ends s p = true then below s p else s),.bool (ends s p)]) ∧ w' = w:=by
 have HE:=hid (PY s p w hs);generalize (if ends s p = true then below s p else s) = q at HE ⊢
 go_enter Tryz.func262,Tryz.ntmps262
 go_wp2_with fail;refine HE.out.mono ?_;rintro e w1 ⟨rfl,rfl⟩;go_wp2;go_ret2;exact ⟨rfl,rfl⟩
def shp (s t : ByteArray) : Bool:=lett s 256 && lett t 256
def Rm (s t : ByteArray) : Int:=if shp s t = true then if 256 < s.size + t.size then 34 else 0 else 15
def Nt (s t : ByteArray) : ByteArray:=if Rm s t = 0 then s ++ t else ⟨#[]⟩
theorem Tryz.infInts : (Tryz.prog.info? 3).map (fun i => (i.zero,i.size,i.bytes)) = some (some (.int .i64 0),1,8):=aw
def fl (n : Nat) (f : Nat → Int) : List Value:=(List.range n).map fun i => Value.int .i64 (f i)
theorem tF (n : Nat) (f : Nat → Int) : (fl n f).length = n:=by simp [fl]
theorem rh (n : Nat) (f : Nat → Int) (i : Nat) (h : i < n) : (fl n f)[i]? = some (.int .i64 (f i)):=by simp [fl,h]
theorem xy {n : Nat} {f g : Nat → Int} (h : ∀ i,i < n → f i = g i) : fl n f = fl n g:=by
 unfold fl; apply List.map_congr_left; intro i hi; rw [h i (by simpa using hi)]
theorem IM {n : Nat} {f : Nat → Int} {t : Nat} {v : Int} {g : Nat → Int} (h : ∀ i,i < n → g i = if i = t then v else f i) : (fl n f).set t (.int .i64 v) = fl n g:=by
 apply List.ext_getElem?
 intro j
 by_cases hj : j < n
 ·rw [rh n g j hj,h j hj]
  by_cases e : j = t
  ·subst e
   rw [if_pos rfl,List.getElem?_set_self (by rw [tF]; exact hj)]
  ·rw [if_neg e,List.getElem?_set_ne (fun x => e x.symm),rh n f j hj]
 ·rw [List.getElem?_eq_none (by rw [List.length_set,tF]; omega),List.getElem?_eq_none (by rw [tF]; omega)]
def RI (w : World) (B n : Nat) (f : Nat → Int) : Prop:=Row w 3 B n n (fl n f)
theorem RI.cell {w : World} {B n : Nat} {f : Nat → Int} (h : RI w B n f) (i : Nat) (hi : i < n) : w.cell? ⟨B,i,none⟩ = some (.int .i64 (f i)):=(Row.cell h i hi).trans (rh n f i hi)
theorem RI.free {w : World} {B n : Nat} {f : Nat → Int} (h : RI w B n f) (i : Nat) : w.frozen? ⟨B,i,none⟩ = false:=Row.free h i
theorem RI.lt {w : World} {B n : Nat} {f : Nat → Int} (h : RI w B n f) : B < w.heap.size:=Row.lt h
theorem RI.congr {w : World} {B n : Nat} {f g : Nat → Int} (h : RI w B n f) (e : ∀ i,i < n → g i = f i) : RI w B n g:=by
 unfold RI; rw [xy e]; exact h
theorem RI.put {w : World} {B n : Nat} {f g : Nat → Int} (h : RI w B n f) (t : Nat) (v : Int) (e : ∀ i,i < n → g i = if i = t then v else f i) : RI (w.setCell ⟨B,t,none⟩ (.int .i64 v)) B n g ∧ Kept (fun k => k = B) w (w.setCell ⟨B,t,none⟩ (.int .i64 v)):=by
 have:=Row.put h t (.int .i64 v)
 rw [IM e] at this;exact this
theorem RI.kept {S : Nat → Prop} {w w' : World} {B n : Nat} {f : Nat → Int} (h : RI w B n f) (hk : Kept S w w') (hs : ¬ S B) : RI w' B n f:=Row.kept h hk hs
def km (w : World) (a : Option Addr) (n cap : Nat) (l : List Int) : Prop :=
 l.length = n ∧ n ≤ cap ∧ n ≤ 1099511627776 ∧ (∀ z ∈ l,-9223372036854775808 ≤ z ∧ z ≤ 9223372036854775807) ∧
 (n = 0 ∨ ∃ b off,a = some ⟨b,off,none⟩ ∧ ∀ j,j < n → w.cell? ⟨b,off + j,none⟩ = some (.int .i64 (l.getD j 0)))
theorem km.keep {S : Nat → Prop} {w w' : World} {a : Option Addr} {n cap : Nat} {l : List Int} (h : km w a n cap l) (hk : Kept S w w') (hs : ∀ b off,a = some ⟨b,off,none⟩ → n ≠ 0 → ¬ S b) : km w' a n cap l:=by
 obtain ⟨hz,h1,h2,h3,ha⟩:=h;refine ⟨hz,h1,h2,h3,?_⟩
 by_cases h0 : n = 0
 ·exact .inl h0
 rcases ha with ha | ⟨b,off,e,hc⟩
 ·exact .inl ha
 ·exact .inr ⟨b,off,e,fun j hj => hk.cell (hc j hj) (hs b off e h0)⟩
theorem km.later {w w' : World} {a : Option Addr} {n cap : Nat} {l : List Int} {B : Nat} (h : km w a n cap l) (hb : Below B w w') (hB : w.heap.size ≤ B) : km w' a n cap l:=by
 exact Ar
structure Inx where
 c : Int
 a : Int
 la : Option Addr
 ln : Nat
 lc : Nat
 l : List Int
def dx : Inx:=⟨0,0,none,0,0,[]⟩
def Mi (w : World) (b o : Nat) (x : Inx) : Prop :=
 w.cell? ⟨b,o,none⟩ = some (.int .u8 x.c) ∧ w.cell? ⟨b,o + 1,none⟩ = some (.int .i64 x.a) ∧ w.cell? ⟨b,o + 2,none⟩ = some (.slice x.la x.ln x.lc) ∧
  0 ≤ x.c ∧ x.c ≤ 255 ∧ -9223372036854775808 ≤ x.a ∧ x.a ≤ 9223372036854775807 ∧ x.ln ≤ 140737488355328 ∧ (x.ln ≤ 100000 → km w x.la x.ln x.lc x.l)
theorem Mi.later {w w' : World} {b o : Nat} {x : Inx} (h : Mi w b o x) {B : Nat} (hb : Below B w w') (hB : w.heap.size ≤ B) : Mi w' b o x:=by
 obtain ⟨h0,h1,h2,h3,h4,h7,h8,h5,h6⟩:=h;have hlt:=block_lt_of_cell h0
 simp only at hlt
 exact ⟨(hb.cell uC).trans h0,(hb.cell uC).trans h1,(hb.cell uC).trans h2,h3,h4,h7,h8,h5,fun h => (h6 h).later hb hB⟩
def opF (xs : List Inx) (i : Nat) : Int:=(xs.getD i dx).c
def Cod (w : World) (b off n : Nat) (xs : List Inx) : Prop:=xs.length = n ∧ ∀ j,j < n → Mi w b (off + j * 3) (xs.getD j dx)
theorem Cod.later {w w' : World} {b off n : Nat} {xs : List Inx} (h : Cod w b off n xs) {B : Nat} (hb : Below B w w') (hB : w.heap.size ≤ B) : Cod w' b off n xs:=⟨h.1,fun j hj => (h.2 j hj).later hb hB⟩
theorem Cod.op {w : World} {b off n : Nat} {xs : List Inx} (h : Cod w b off n xs) {j : Nat} (hj : j < n) : w.cell? ⟨b,off + j * 3,none⟩ = some (.int .u8 (opF xs j)):=(h.2 j hj).1
theorem Cod.lt {w : World} {b off n : Nat} {xs : List Inx} (h : Cod w b off n xs) (hn : 0 < n) : b < w.heap.size:=block_lt_of_cell (h.op hn)
theorem Cod.range {w : World} {b off n : Nat} {xs : List Inx} (h : Cod w b off n xs) {j : Nat} (hj : j < n) : 0 ≤ opF xs j ∧ opF xs j ≤ 255:=⟨(h.2 j hj).2.2.2.1,(h.2 j hj).2.2.2.2.1⟩
theorem Cod.num {w : World} {b off n : Nat} {xs : List Inx} (h : Cod w b off n xs) {j : Nat} (hj : j < n) : w.cell? ⟨b,off + j * 3 + 1,none⟩ = some (.int .i64 (xs.getD j dx).a):=(h.2 j hj).2.1
theorem Cod.lab {w : World} {b off n : Nat} {xs : List Inx} (h : Cod w b off n xs) {j : Nat} (hj : j < n) : w.cell? ⟨b,off + j * 3 + 2,none⟩ = some (.slice (xs.getD j dx).la (xs.getD j dx).ln (xs.getD j dx).lc):=(h.2 j hj).2.2.1
def zn (w : World) (a : Option Addr) (n : Nat) (xs : List Inx) : Prop:=xs.length = n ∧ (n = 0 ∨ ∃ b off,a = some ⟨b,off,none⟩ ∧ Cod w b off n xs)
theorem zn.later {w w' : World} {a : Option Addr} {n : Nat} {xs : List Inx} (h : zn w a n xs) {B : Nat} (hb : Below B w w') (hB : w.heap.size ≤ B) : zn w' a n xs:=by
 refine ⟨h.1,?_⟩
 rcases h.2 with h0 | ⟨b,off,e,hc⟩
 ·exact .inl h0
 ·exact .inr ⟨b,off,e,hc.later hb hB⟩
theorem pow_pos (k : Nat) : (0 : Int) < 128 ^ k:=Int.pow_pos aH
def uf (u : Int) : Int:=if u % 2 = 1 then -(u / 2) - 1 else u / 2
def uv : Nat → Int → List Int
 | 0,v => [v]
 | f + 1,v => if v < 128 then [v] else (v % 128 + 128) :: uv f (v / 128)
def au (v : Int) : List Int:=uv 9 v
theorem PS (f : Nat) : ∀ v,1 ≤ (uv f v).length ∧ (uv f v).length ≤ f + 1:=by
 induction f with
 | zero => intro v; simp [uv]
 | succ f ih =>
  intro v
  by_cases h : v < 128
  ·simp [uv,h]
  ·have:=ih (v / 128)
   simp only [uv,h,if_false,List.length_cons]; omega
theorem Dv (V : Int) (k : Nat) (h : V * 128 ^ k < 18446744073709551616) (h0 : 0 ≤ V) : V / 128 * 128 ^ (k + 1) < 18446744073709551616:=by
 have hs : (128 : Int) ^ (k + 1) = 128 * 128 ^ k:=by rw [Int.pow_succ,Int.mul_comm]
 rw [hs,← Int.mul_assoc];have h2 : V / 128 * 128 ≤ V:=ae
 have:=Int.mul_le_mul_of_nonneg_right h2 (Int.le_of_lt (pow_pos k))
 omega
theorem room_end (V : Int) (k : Nat) (h : V * 128 ^ k < 18446744073709551616) (hk : k ≤ 9) (h128 : 128 ≤ V) : k ≤ 8:=by
 by_cases e : k = 9
 ·subst e;have e9 : (128 : Int) ^ 9 = 9223372036854775808:=aH;rw [e9] at h;omega
 ·omega
def fo (n : Int) : Int:=if n < 0 then -2 * n - 1 else 2 * n
theorem kz (n : Int) (h0 : -9223372036854775808 ≤ n) (h1 : n < 9223372036854775808) : 0 ≤ fo n ∧ fo n < 18446744073709551616:=by
 unfold fo; split <;> omega
theorem aA (v : Int) : 1 ≤ (au v).length ∧ (au v).length ≤ 10:=PS 9 v
def Seg (w : World) (a : Option Addr) (n cap : Nat) (zs : List Int) : Prop :=
 zs.length = n ∧ n ≤ cap ∧ n ≤ 1099511627776 ∧ (∀ z ∈ zs,0 ≤ z ∧ z ≤ 255) ∧
 (n = 0 ∨ ∃ b off,a = some ⟨b,off,none⟩ ∧ ∀ j,j < n → w.cell? ⟨b,off + j,none⟩ = some (.int .u8 (zs.getD j 0)))
theorem bZ (x : Int) (h0 : 0 ≤ x) (h1 : x < 18446744073709551616) : IntKind.u64.wrap x = x:=by
 rw [IntKind.wrap_u64]; exact Int.emod_eq_of_lt h0 h1
theorem i64_in (x : Int) (h0 : -9223372036854775808 ≤ x) (h1 : x < 9223372036854775808) : IntKind.i64.wrap x = x:=by
 simp [IntKind.wrap,IntKind.bits,IntKind.signed]; omega
theorem Tryz.info5 : (Tryz.prog.info? 5).map (fun i => (i.zero,i.size,i.bytes)) = some (some (.int .u8 0),1,1):=aw
def cat (Z : Nat → List Int) : Nat → List Int
 | 0 => []
 | k + 1 => cat Z k ++ Z k
theorem yM (Z : Nat → List Int) (k m : Nat) (h : k ≤ m) : (cat Z k).length ≤ (cat Z m).length:=by
 induction m with
 | zero =>
  obtain rfl : k = 0:=ae;omega
 | succ m ih =>
  by_cases e : k = m + 1
  ·subst e; omega
  ·have:=ih ae; simp only [cat,List.length_append]; omega
theorem j3 (l : List Int) : ∀ u ∈ l.map (Value.int .u8),u.oneCell' = true:=by
 intro u hu;obtain ⟨z,_,rfl⟩:=List.mem_map.1 hu;rfl
theorem iY {w : World} {a : Option Addr} {n cap : Nat} {zs : List Int} (h : Seg w a n cap zs) :
  ∀ ad,a = some ad → ∀ (j : Nat) (u : Value),(zs.map (Value.int .u8))[j]? = some u → w.cell? (ad.add j) = some u:=by
 intro ad had j u hu;obtain ⟨hz,_,_,_,ha⟩:=h
 have hj : j < zs.length:=by
  rcases Nat.lt_or_ge j zs.length with h | h
  ·exact h
  ·simp [List.getElem?_eq_none (show (zs.map (Value.int .u8)).length ≤ j by simpa using h)] at hu
 rcases ha with ha | ⟨b,off,e,hc⟩
 ·omega
 ·rw [had] at e
  simp at e
  subst e
  have:=hc j ae
  have hplain : (⟨b,off,none⟩ : Addr).add j = ⟨b,off + j,none⟩:=fZ;rw [hplain,this]
  simp [aN hj] at hu
  subst hu
  simp [List.getD,aN hj]
theorem Seg.later {w w' : World} {a : Option Addr} {n cap : Nat} {zs : List Int} {B : Nat} (h : Seg w a n cap zs) (hb : Below B w w') (hB : w.heap.size ≤ B) : Seg w' a n cap zs:=by
 exact Ar
theorem Seg.drewN {w : World} {a : Option Addr} {n cap : Nat} {zs : List Int} (h : Seg w a n cap zs) (m : Nat) : Seg (w.drewN m) a n cap zs:=by
 obtain ⟨hz,h1,h2,h3,ha⟩:=h;refine ⟨hz,h1,h2,h3,?_⟩
 rcases ha with ha | ⟨b,off,e,hc⟩
 ·exact .inl ha
 ·exact .inr ⟨b,off,e,fun j hj => by rw [World.cell?_drewN]; exact hc j hj⟩
theorem Fh (P m cp : Nat) (A : Nat → Option Addr) (L C : Nat → Nat) (Z : Nat → List Int) (w : World) (hm : m ≤ 1000)
  (hp : ∀ j,j < m → w.cell? ⟨P,j,none⟩ = some (.slice (A j) (L j) (C j)))
  (hs : ∀ j,j < m → Seg w (A j) (L j) (C j) (Z j) ∧ (A j = none → C j = 0)) (hN : (cat Z m).length ≤ 1099511627776) (hPw : P < w.heap.size) :
  Calls Tryz.prog 322 #[.slice (some ⟨P,0,none⟩) m cp] w fun e w' => e = .returned (.slice (some ⟨w.heap.size,0,none⟩) (cat Z m).length (cat Z m).length) ∧
   w'.ownsRow w.heap.size 5 1 (.slice (some ⟨w.heap.size,0,none⟩) (cat Z m).length (cat Z m).length) (cat Z m).length ((cat Z m).map (Value.int .u8)) ∧ Below w.heap.size w w':=by
 obtain ⟨i0,hi,hz0,hz1,hz2⟩:=info_parts Tryz.info5;have hb2 : i0.bytes * (cat Z m).length ≤ 281474976710656:=gN;have hml : (cat Z m).length ≤ maxLen:=cG
 go_enter Tryz.func322,Tryz.ntmps322
 go_wp2
 go_loop [3,11] (fun s i => ∃ k : Nat,k ≤ m ∧ i = .int .i64 k ∧ s = .int .i64 (cat Z k).length) (fun _ i => m - (intOf i).toNat)
 case atStart => exact ⟨0,ae,rfl,rfl⟩
 case round =>
  obtain ⟨k,hk,rfl,rfl⟩:=hrel
  by_cases hlt : k < m
  ·have hcell:=hp k hlt;have hlen:=(hs k hlt).1.1;have hmo:=yM Z (k + 1) m ae
   have HC:=hid (show (cat Z (k + 1)).length = (cat Z k).length + L k by simp [cat,hlen])
   have hle : (cat Z k).length + L k ≤ 1099511627776:=by have:=HC.out; omega
   clear hp hs hlen hmo hb2 hml hi hz0 hz1 hz2 hN;go_wp2
   go_round
   case rel => exact ⟨k + 1,ae,aX,by rw [HC.out]; go_num⟩
   case measure => simp [intOf]; omega
  ·obtain rfl : k = m:=ae
   go_wp2_with (first | (at_make; refine wpList_make_own _ rfl _ _ 64 rfl w.heap.size 5 i0 (.int .u8 0) 1 Tryz.underlying64 hi hz0 hz1 .i64 .i64 _ (cat Z k).length rfl rfl rfl hb2 hml (Nat.le_refl _) ?_; intro w1 hown hgrow))
   have hbel : Below w.heap.size w w1:=(Below.refl _ _).grown hgrow (Nat.le_refl _) ak;clear hgrow
   go_loopw [6,24] (fun v i wr => ∃ j : Nat,j ≤ k ∧ i = .int .i64 j ∧ v = .slice (some ⟨w.heap.size,0,none⟩) (cat Z j).length (cat Z k).length ∧
    wr.ownsRow w.heap.size 5 1 (.slice (some ⟨w.heap.size,0,none⟩) (cat Z j).length (cat Z k).length) (cat Z j).length ((cat Z j).map (Value.int .u8)) ∧ Below w.heap.size w wr) (fun _ i _ => k - (intOf i).toNat)
   case atStart => exact ⟨0,ae,rfl,rfl,hown,hbel⟩
   case round =>
    obtain ⟨j,hj,rfl,rfl,hownr,hb⟩:=hrel;clear hown hbel
    by_cases hjk : j < k
    ·have hcell : wr.cell? ⟨P,j,none⟩ = some (.slice (A j) (L j) (C j)):=(hb.cell (p:=⟨P,j,none⟩) hPw).trans (hp j hjk);obtain ⟨hseg,hnone⟩:=hs j hjk;have hsl:=hseg.later hb (Nat.le_refl _)
     have hnn : A j = none → L j = 0 ∧ C j = 0:=fun h => ⟨by have:=hnone h; have:=hseg.2.1; omega,hnone h⟩
     have hcl:=iY hsl
     have hlen : ((Z j).map (Value.int .u8)).length = L j * 1:=by simp [hseg.1]
     have hmo:=yM Z (j + 1) k ae
     have HC:=hid (show (cat Z (j + 1)).length = (cat Z j).length + L j by simp [cat,hseg.1])
     have hroom : (cat Z j).length + L j ≤ (cat Z k).length:=by have:=HC.out; omega
     have HB:=hid hb;have HO:=hid hownr;have HL:=hid hcl;have HN:=hid hnn;clear hp hs hb hownr hseg hnone hsl hcl hnn hmo
     go_wp2_with (first | (at_builtin; refine wpList_append_fits_any _ rfl _ _ 64 rfl w.heap.size 5 i0 1 Tryz.underlying64 hi hz1 w.heap.size (cat Z j).length (cat Z k).length _ rfl HO.out (A j) (L j) (C j) ((Z j).map (Value.int .u8)) rfl hlen HN.out HL.out (j3 _) hroom ?_; intro w2 hown2 hgrow2))
     have hb2' : Below w.heap.size w w2:=HB.out.grown hgrow2 (HB.out.size) ak
     have ho2 : w2.ownsRow w.heap.size 5 1 (.slice (some ⟨w.heap.size,0,none⟩) (cat Z (j + 1)).length (cat Z k).length) (cat Z (j + 1)).length ((cat Z (j + 1)).map (Value.int .u8)):=by
      rw [HC.out]; simp only [cat,List.map_append]; exact hown2
     exact ⟨⟨j + 1,ae,aX,by rw [HC.out],ho2,hb2'⟩,aZ⟩
    ·obtain rfl : j = k:=ae;clear hp hs;go_wp2;go_ret;exact ⟨rfl,hownr,hb⟩
theorem Cl {w : World} {B n cap : Nat} {zs : List Int} {base : Nat} (h : w.ownsRow base 5 1 (.slice (some ⟨B,0,none⟩) n cap) n (zs.map (Value.int .u8))) (hl : zs.length = n) (hn : n ≤ 1099511627776) (hr : ∀ z ∈ zs,0 ≤ z ∧ z ≤ 255) (hcap : n ≤ cap) :
  Seg w (some ⟨B,0,none⟩) n cap zs:=by
 refine ⟨hl,hcap,hn,hr,.inr ⟨B,0,rfl,fun j hj => ?_⟩⟩
 rw [Nat.zero_add,h.cellAt j ae];have hj' : j < zs.length:=ae
 simp [hj']
theorem FN (Z : Nat → List Int) (m : Nat) (h : ∀ j,j < m → ∀ z ∈ Z j,0 ≤ z ∧ z ≤ 255) : ∀ z ∈ cat Z m,0 ≤ z ∧ z ≤ 255:=by
 induction m with
 | zero => intro z hz; simp [cat] at hz
 | succ m ih =>
  intro z hz
  simp only [cat,List.mem_append] at hz
  rcases hz with hz | hz
  ·exact ih (fun j hj => h j ae) z hz
  ·exact h m ae z hz
theorem JY (P m cp : Nat) (A : Nat → Option Addr) (L C : Nat → Nat) (Z : Nat → List Int) (w : World) (hm : m ≤ 1000)
  (hp : ∀ j,j < m → w.cell? ⟨P,j,none⟩ = some (.slice (A j) (L j) (C j)))
  (hs : ∀ j,j < m → Seg w (A j) (L j) (C j) (Z j) ∧ (A j = none → C j = 0)) (hN : (cat Z m).length ≤ 1099511627776) (hPw : P < w.heap.size) (h0 : 0 < (cat Z m).length) :
  Calls Tryz.prog 322 #[.slice (some ⟨P,0,none⟩) m cp] w fun e w' => e = .returned (.slice (some ⟨w.heap.size,0,none⟩) (cat Z m).length (cat Z m).length) ∧
   Seg w' (some ⟨w.heap.size,0,none⟩) (cat Z m).length (cat Z m).length (cat Z m) ∧ Below w.heap.size w w' ∧ w.heap.size < w'.heap.size:=by
 refine (Fh P m cp A L C Z w hm hp hs hN hPw).mono fun e w' ⟨he,ho,hb⟩ => ?_
 have hseg:=Cl ho rfl hN (FN Z m fun j hj => (hs j hj).1.2.2.2.1) (Nat.le_refl _)
 refine ⟨he,hseg,hb,?_⟩
 rcases hseg.2.2.2.2 with h | ⟨b,off,e1,hc⟩
 ·omega
 ·have:=hc 0 h0
  simp at e1
  have:=block_lt_of_cell this
  simp only at this
  omega
end Go.Proofs.YtepnnenohjfkbaaGreatDoor

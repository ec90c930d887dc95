/-
  Texts Heap Own Hid Code Plain ReadA ReadB ReadC Eq Join Uvar Write WText TLett.
-/
import Derived.Carry
import Derived.MapKept
import Derived.SevenTiedAt
import Derived.ChangeArms
import Derived.ChangeOld
import Derived.Deep.AppendLies
import Derived.Deep.AppendSrc
import Derived.Deep.DeepHandedRow
import Derived.Deep.RegionWith
import Derived.Deep.Strs
import Derived.Defers
import Derived.FnData
import Derived.HandedShaped
import Derived.JoinedOf
import Derived.LaidMore
import Derived.Laws.BytesArg
import Derived.Lay
import Derived.Lib.AppendIntMem
import Derived.Lib.AppendStr
import Derived.Lib.Builder
import Derived.Lib.Bytealg
import Derived.Lib.CutLaws
import Derived.Lib.FieldsP
import Derived.Lib.ItoaLen
import Derived.Lib.LaidTab
import Derived.Lib.SlBytesConst
import Derived.Lib.SmallJoins
import Derived.LoopIn
import Derived.LoopNIn
import Derived.OpenShut
import Derived.OwnWalkIn
import Derived.ProofKit
import Derived.RangeFuncBox
import Derived.RangeFuncCalls
import Derived.RangeFuncLeaves
import Derived.RangeFuncWrites
import Derived.Recover
import Derived.RegionDies
import Derived.Shelf.Abstract
import Derived.Shelf.LaysC
import Derived.Shelf.LaysM
import Derived.Shelf.RegionOpen
import Derived.Shelf.Small.Strs
import Derived.Shelf.Small.Wraps
import Derived.Shelf.Strconv.Clone
import Derived.Shelf.Strconv.ErrVarParseInt
import Derived.Shelf.Strconv.Itoa0
import Derived.Shelf.Strconv.Itoa1
import Derived.Shelf.Strconv.Itoa2
import Derived.Shelf.Strconv.Itoa3
import Derived.Shelf.Strconv.Itoa4
import Derived.Shelf.Strconv.Lower
import Derived.Shelf.Strconv.ParseInt10
import Derived.Shelf.Strconv.ParseInt10All
import Derived.Shelf.Strconv.ParseInt10At16
import Derived.Shelf.Strconv.ParseInt10At32
import Derived.Shelf.Strconv.ParseInt10At64
import Derived.Shelf.Strconv.ParseInt10At8
import Derived.Shelf.Strconv.ParseIntEmpty
import Derived.Shelf.Strconv.ParseIntPublic10
import Derived.Shelf.Strconv.ParseUint10
import Derived.Shelf.Strconv.ParseUint10Any
import Derived.Shelf.Strconv.ParseUint10At
import Derived.Shelf.Strconv.ParseUint10Empty
import Derived.Shelf.Strconv.ParseUint10b16
import Derived.Shelf.Strconv.ParseUint10b32
import Derived.Shelf.Strconv.ParseUint10b64
import Derived.Shelf.Strconv.ParseUint10b8
import Derived.Shelf.Strconv.ParseUintEmpty
import Derived.Shelf.Strconv.RangeError
import Derived.Shelf.Strconv.SyntaxError
import Derived.Shelf.Strconv.ToError
import Derived.Shelf.Strconv.ToErrorRange
import Derived.Shelf.Strings.Builder1
import Derived.Shelf.Strings.Builder2
import Derived.Shelf.Strings.BuilderF
import Derived.Shelf.Strings.BuilderK
import Derived.Shelf.Strings.Cut
import Derived.Shelf.Strings.FieldsFuncAny
import Derived.Shelf.Strings.OnBuilder
import Derived.Shelf.Strings.Prefix
import Derived.Shelf.Strings.Search1
import Derived.Shelf.Strings.Search2
import Derived.Shelf.Strings.Search3
import Derived.Shelf.Strings.Shaped
import Derived.Shelf.Unicode.DecodeSlow
import Derived.ShutString
import Derived.SizedLaws
import Derived.Stop.Joined
import Derived.Stop.LaidErr
import Derived.TacticsInMore
import Derived.ArgAppend
import Derived.Below
import Derived.BigQuiet
import Derived.Deep.QuietTactic
import Derived.Deep.RegionHeld3
import Derived.KernelRfl
import Derived.Laws.AppendOwnNone
import Derived.Laws.BitsAllLaws
import Derived.Deep.RegionHeld
import Derived.OrdersHeld
import Derived.RowKit
import Derived.Test.YtheefojaplnnoaaGreatDoorProg
import Derived.WalkKit
import Derived.WalkLawsBesides
import Derived.WalkSpells
set_option linter.unusedVariables false
set_option maxRecDepth 100000
set_option maxHeartbeats 16000000
namespace Go.Proofs.YtheefojaplnnoaaGreatDoor
open Go.RowKit
theorem ae {P : Prop} (h : P:=by omega) : P:=h
theorem aj {P : Prop} (h : P:=by kernel_rfl) : P:=h
theorem aq {P : Prop} (h : P:=by simp) : P:=h
theorem av {P : Prop} (h : P:=by decide) : P:=h
theorem aG {P : Prop} (h : P:=by simp; omega) : P:=h
theorem aQ {P : Prop} (h : P:=by exact hSw) : P:=h
theorem bB {P : Prop} (h : P:=by go_num) : P:=h
theorem bD {P : Prop} (h : P:=by simp [intOf]; omega) : P:=h
theorem bZ {P : Prop} (h : P:=by simp <;> omega) : P:=h
theorem cw {P : Prop} (h : P:=by cases h) : P:=h
theorem Mv {P : Prop} (h : P:=by (try simp only [ByteArray.size_append]); omega) : P:=h
theorem bU {P : Prop} (h : P:=by unfold maxLen; omega) : P:=h
theorem cu {P : Prop} (h : P:=by simp [go_sem]) : P:=h
theorem cG {P : Prop} (h : P:=by have : b = w.heap.size:=hx; omega) : P:=h
theorem cO {P : Prop} (h : P:=by rw [HV.out]; rfl) : P:=h
theorem cQ {P : Prop} (h : P:=by unfold wrap64; omega) : P:=h
theorem dH {P : Prop} (h : P:=by (try dsimp only [wkM]); omega) : P:=h
theorem dY {P : Prop} (h : P:=by cases e) : P:=h
theorem dX {P : Prop} (h : P:=by rw [← hW0]; simp [go_sem]) : P:=h
theorem dZ {P : Prop} (h : P:=by simp only [List.length_append,hdl,List.length_cons,List.length_nil]) : P:=h
theorem dV {P : Prop} (h : P:=by rw [World.cell?_alloc_new]; rfl) : P:=h
theorem eN {P : Prop} (h : P:=by have:=B1.out.size; omega) : P:=h
theorem fh {P : Prop} (h : P:=by rw [List.length_append]; omega) : P:=h
theorem fw {P : Prop} (h : P:=by simp at h) : P:=h
theorem fN {P : Prop} (h : P:=by simpa using HBy.out) : P:=h
theorem fJ {P : Prop} (h : P:=by simpa using W2.out) : P:=h
theorem fW {P : Prop} (h : P:=by simp only; omega) : P:=h
theorem gq {P : Prop} (h : P:=by intro W hW; rw [hW]; clear hW; go_simp; try with_reducible rfl) : P:=h
theorem gS {P : Prop} (h : P:=by unfold Addr.add; split <;> simp_all) : P:=h
theorem gN {P : Prop} (h : P:=by exact block_lt_of_cell hA) : P:=h
theorem gQ {P : Prop} (h : P:=by rw [hc]; decide) : P:=h
theorem gL {P : Prop} (h : P:=by first | omega | (simp; omega)) : P:=h
theorem iV {P : Prop} (h : P:=by rw [hz2]; omega) : P:=h
theorem iZ {P : Prop} (h : P:=by simp only [List.length_append]; omega) : P:=h
theorem jb {P : Prop} (h : P:=by have:=hw.len; omega) : P:=h
theorem jL {P : Prop} (h : P:=by simp [L]) : P:=h
theorem jG {P : Prop} (h : P:=by simpa using h0) : P:=h
theorem jt {P : Prop} (h : P:=by simp [aD]) : P:=h
theorem jy {P : Prop} (h : P:=by simpa using hown) : P:=h
theorem jB {P : Prop} (h : P:=by cases hx) : P:=h
theorem kI {P : Prop} (h : P:=by assumption) : P:=h
theorem kH {P : Prop} (h : P:=by have : b = w.heap.size + 1:=hx; omega) : P:=h
theorem lD {P : Prop} (h : P:=by exact hBl) : P:=h
theorem mg {P : Prop} (h : P:=by exact hCl) : P:=h
theorem lU {P : Prop} (h : P:=by rw [hx] at hk; simpa using hk) : P:=h
theorem lT {P : Prop} (h : P:=by have:=aA hi; simp at this; omega) : P:=h
theorem lL {P : Prop} (h : P:=by rw [hx]; rfl) : P:=h
theorem lB {P : Prop} (h : P:=by go_simp) : P:=h
theorem lO {P : Prop} (h : P:=by rw [List.length_take]; omega) : P:=h
theorem nP {P : Prop} (h : P:=by simpa using h1) : P:=h
theorem nC {P : Prop} (h : P:=by simpa using hj) : P:=h
theorem nQ {P : Prop} (h : P:=by exact block_lt_of_cell hO) : P:=h
theorem nB {P : Prop} (h : P:=by simpa using hY) : P:=h
theorem nW {P : Prop} (h : P:=by decide +kernel) : P:=h
theorem nS {P : Prop} (h : P:=by simpa using hz) : P:=h
theorem nX {P : Prop} (h : P:=by have : k = w.heap.size:=hx; omega) : P:=h
theorem nM {P : Prop} (h : P:=by have:=h.low; omega) : P:=h
theorem nR {P : Prop} (h : P:=by unfold psz; simp; omega) : P:=h
theorem nZ {P : Prop} (h : P:=by simpa using HPa.out) : P:=h
theorem om {P : Prop} (h : P:=by have h1:=aA hj; rw [List.getElem?_take] at hj; split at hj; exact hj; cases hj) : P:=h
theorem nv {P : Prop} (h : P:=by rw [hm]; rfl) : P:=h
theorem pF {P : Prop} (h : P:=by simpa using h) : P:=h
theorem qD {P : Prop} (h : P:=by rw [h1]; rfl) : P:=h
theorem qA {P : Prop} (h : P:=by have:=hb1.size; simp at this; omega) : P:=h
theorem p8 {P : Prop} (h : P:=by rw [List.length_append,List.length_append]; omega) : P:=h
theorem sk {P : Prop} (h : P:=by have e0:=FY (l:=m.types) PT.out.1; have e1:=D4 (l:=m.fns) PF.out.1; have e2:=Hh (l:=m.data) PD.out.1; have e3:=Ey (l:=m.exps) PE.out.1; have f1:=HF1.out; have f2:=HF2.out; have f3:=HF3.out; have f4:=HF4.out; omega) : P:=h
theorem sf {P : Prop} (h : P:=by unfold pl; rfl) : P:=h
theorem ui {P : Prop} (h : P:=by simp [results,Tryz.results314,go_sem]) : P:=h
theorem uk {P : Prop} (h : P:=by simpa [List.append_assoc] using hw') : P:=h
theorem uF {P : Prop} (h : P:=by simpa [Value.ownBlock] using hb) : P:=h
theorem rY {P : Prop} (h : P:=by rw [Lib.cell_of_heap hbk]; rfl) : P:=h
theorem sZ {P : Prop} (h : P:=by rw [Lib.cell_of_heap hb2]; rfl) : P:=h
theorem tV {P : Prop} (h : P:=by first | rfl | exact d) : P:=h
theorem tE {P : Prop} (h : P:=by simp at hq hr; omega) : P:=h
theorem tD {P : Prop} (h : P:=by simpa using z0) : P:=h
theorem tT {P : Prop} (h : P:=by have:=rI hp; rw [this] at c2; omega) : P:=h
theorem r9 {P : Prop} (h : P:=by have:=h.lt; omega) : P:=h
theorem tO {P : Prop} (h : P:=by have:=hs.2; dsimp only at this; omega) : P:=h
theorem sH {P : Prop} (h : P:=by simp [wdx,List.getD,hx]) : P:=h
theorem ug {P : Prop} (h : P:=by rw [HFN.out,← hik]; simp) : P:=h
theorem tN {P : Prop} (h : P:=by rw [← hwr]; simp [go_sem]) : P:=h
theorem sW {P : Prop} (h : P:=by simp [wkM] at hj) : P:=h
theorem tF {P : Prop} (h : P:=by rw [← h,List.take_length]) : P:=h
theorem yS {P : Prop} (h : P:=by rw [HFS.out,← List.append_assoc,HR.out,HLN.out]; exact HO5.out) : P:=h
theorem zk {P : Prop} (h : P:=by rw [← HIK.out] at *; unfold pl; rw [HFN.out]; dsimp only; rw [Dp init ft flo (ca,cn,cc)]; rfl) : P:=h
theorem xZ {P : Prop} (h : P:=by rw [List.getElem?_take_of_lt hik]; exact hi) : P:=h
theorem zy {P : Prop} (h : P:=by have:=hne b off c h; simp; omega) : P:=h
theorem yV {P : Prop} (h : P:=by exact block_lt_of_cell f2) : P:=h
theorem yU {P : Prop} (h : P:=by simp [Value.ownBlock] at hB; simp; omega) : P:=h
theorem yu {P : Prop} (h : P:=by have:=(lF HO.out hb).1; omega) : P:=h
theorem yZ {P : Prop} (h : P:=by have:=f0; rwa [Nat.zero_add] at this) : P:=h
theorem xP {P : Prop} (h : P:=by have:=f1; rwa [Nat.zero_add] at this) : P:=h
theorem xS {P : Prop} (h : P:=by have:=(HM.out _ HB0.out).tn; omega) : P:=h
theorem xe {P : Prop} (h : P:=by have:=(HM.out _ HB1.out).hn; omega) : P:=h
theorem xh {P : Prop} (h : P:=by have:=(HM.out _ HB2.out).gn; omega) : P:=h
theorem zt {P : Prop} (h : P:=by have:=(HM.out _ HB5.out).en; omega) : P:=h
theorem zq {P : Prop} (h : P:=by rw [hf,List.getElem?_append_left hil]; exact hi) : P:=h
theorem ze {P : Prop} (h : P:=by show 2 + wd.size ≤ _; omega) : P:=h
theorem x8 {P : Prop} (h : P:=by rw [hbk]; simp; omega) : P:=h
theorem D6 {P : Prop} (h : P:=by have:=Lib.itoa_length_le (zs.getD i 0) hz.1 hz.2; exact this) : P:=h
theorem Ag {P : Prop} (h : P:=by rw [HEy.out]; unfold pl; simp [plF,List.map_append]) : P:=h
theorem Cg {P : Prop} (h : P:=by have h1:=lF ho hb; have:=hS b hs; omega) : P:=h
theorem Bu {P : Prop} (h : P:=by simp only [ByteArray.size_mk',Array.size]; simp; omega) : P:=h
theorem Bg {P : Prop} (h : P:=by rw [ByteArray.size_append]; simp only [ByteArray.size_mk',Array.size]; simp; omega) : P:=h
theorem Bn {P : Prop} (h : P:=by simp [Lib.byteCells_length,vJ]; omega) : P:=h
theorem BQ {P : Prop} (h : P:=by have:=VL.out.g_lt; have:=V6.out.g_lt; omega) : P:=h
theorem Cv {P : Prop} (h : P:=by rw [hnx]; simpa only [List.append_assoc,List.cons_append,List.nil_append,dP] using P1) : P:=h
theorem AZ {P : Prop} (h : P:=by rw [hnx]; simpa only [List.append_assoc,List.cons_append,List.nil_append,fF] using P2) : P:=h
theorem Ah {P : Prop} (h : P:=by rw [hnx]; simpa only [List.append_assoc,List.cons_append,List.nil_append,fX] using P1) : P:=h
theorem zR {P : Prop} (h : P:=by rw [hnx]; simpa only [List.append_assoc,List.cons_append,List.nil_append,dR] using P0) : P:=h
theorem zE {P : Prop} (h : P:=by rw [hnx]; simpa only [List.append_assoc,List.cons_append,List.nil_append,iw] using P0) : P:=h
theorem BM {P : Prop} (h : P:=by have:=hb1.size; have:=hb2.size; simp at *; omega) : P:=h
theorem zS {P : Prop} (h : P:=by rw [gu dR 1 (fun _ => rfl),hpl]; omega) : P:=h
theorem Ab {P : Prop} (h : P:=by have:=congrArg List.length h6; simpa using this) : P:=h
theorem Co {P : Prop} (h : P:=by rw [← hz1]; exact ag (heap_alloc_new _ _)) : P:=h
theorem AE {P : Prop} (h : P:=by unfold e4 il at h4; split at h4; cases h4; omega) : P:=h
theorem aY {P : Prop} (h : P:=by rw [hb1.cell aq]; simp [go_sem]) : P:=h
theorem bE {P : Prop} (h : P:=by intro w h; (try dsimp only at h); go_simp; (try rw [if_neg Mv]); (try with_reducible rfl)) : P:=h
theorem ie {P : Prop} (h : P:=by have h1:=HFB.out; rw [HLN.out] at h1; exact Nat.le_trans h1 ae) : P:=h
theorem Bt {P : Prop} (h : P:=by rw [List.getD_eq_getElem?_getD,List.getElem?_eq_getElem ae]; exact List.getElem_mem _) : P:=h
theorem Ba {P : Prop} (h : P:=by rw [eG p 256 8 ae s1]; exact l1) : P:=h
theorem AC {P : Prop} (h : P:=by rw [List.getD_eq_getElem?_getD,List.getElem?_eq_getElem ae]; simp) : P:=h
theorem z8 {P : Prop} (h : P:=by rw [HK.out,List.drop_eq_nil_of_le ae]; trivial) : P:=h
theorem Be {P : Prop} (h : P:=by rw [eG lo 256 64 ae ae]; exact hlt) : P:=h
theorem Bw {P : Prop} (h : P:=by have q:=F6.out b off c hb'; exact ⟨ae,q.2.1,ae⟩) : P:=h
theorem Ci {P : Prop} (h : P:=by have q:=HM.out.ff.at TL.out.s b off c hb'; have q2:=HM.out.ff b off c hb'; have:=TL.out.s.size; exact ⟨q.1,q.2,ae⟩) : P:=h
theorem AL {P : Prop} (h : P:=by have h1:=HFB.out; rw [HFU.out,HLN.out,List.length_append] at h1; exact Nat.le_trans (Nat.add_le_add_left (Nat.le_add_right _ _) _) (Nat.le_trans h1 ae)) : P:=h
theorem aN {α : Type _} {l : List α} {i : Nat} (h : i < l.length) : l[i]? = some l[i]:=List.getElem?_eq_getElem h
theorem K0 {P : Prop} (h : P:=by
  clear d0 d1 d2;generalize wz.drew = wd at *;refine tkD (i:=0) (d:=some 79) rfl ?_ (hS:=aQ);(try simp only [Act.put,sIB,sC0,sCs]);refine tkD (i:=1) (d:=some 80) rfl ?_ (hS:=aQ);(try simp only [Act.put,sIB,sC0,sCs]);refine tkD (i:=6) (d:=some 85) rfl ?_ (hS:=aQ);(try simp only [Act.put,sIB,sC0,sCs]);refine tkD (i:=8) (d:=some 87) rfl ?_ (hS:=aQ);(try simp only [Act.put,sIB,sC0,sCs]);refine tkD (i:=2) (d:=some 81) rfl ?_ (hS:=aQ);(try simp only [Act.put,sIB,sC0,sCs]);refine ryQ (rs:=[3,9]) ?_
  refine rcQ (i:=3) rfl (fun K hK => ?_) (rcQ (i:=9) rfl (fun K hK => ?_) rN)
  ·clear hSw;go_simp;have hbA:=ak wd (bY xc);have hXn:=heap_alloc_new wd (bY xc);generalize wd.alloc (bY xc) = wu1 at *;have BU1:=hid (BD.out.trans (hbA.mono BD.out.size));generalize hYe : wd.heap.size = Y1 at hXn ⊢;have HY1:=hid hXn;clear hbA hXn hYe
   refine hK.out _ _ (HSK.out _ BU1.out) (fun hSw => ?_)
   clear hK K;refine ryQ (rs:=[4,9]) ?_
   refine rcQ (i:=4) rfl (fun K hK => ?_) (rcQ (i:=9) rfl (fun K hK => ?_) rN)
   ·clear hSw;have hcv : (convert 63 9 (.slice (some ⟨Y1,0,none⟩) 1 1)).run Tryz.prog wu1 = .ok (.string ⟨#[UInt8.ofNat xc.toNat]⟩) wu1:=j3 wu1 _ _ _ _ (ja (ag HY1.out) r0 r1);go_simp;clear hcv
    refine hK.out _ _ (HSK.out _ BU1.out) (fun hSw => ?_)
    clear hK K;refine tkD (i:=5) (d:=some 84) rfl ?_ (hS:=aQ) (hv:=bE);(try simp only [Act.put,sIB,sC0,sCs]);refine tkD (i:=7) (d:=some 86) rfl ?_ (hS:=aQ) (hv:=bE);(try simp only [Act.put,sIB,sC0,sCs]);refine ryQ (rs:=[9]) ?_
    refine rcQ (i:=9) rfl (fun K hK => ?_) rN
    clear hSw;go_simp;refine (HSG.out _).mono ?_;rintro e wu3 ⟨rfl,hb4⟩;have BU3:=hid (BU1.out.trans (hb4.mono BU1.out.size));have HY3:=hid (ar hb4 HY1.out);clear hb4
    refine hK.out _ _ (HSK.out _ BU3.out) (fun hSw => ?_)
    clear hK K;refine ryQ (rs:=[10]) ?_
    refine rcQ (i:=10) rfl (fun K hK => ?_) rN
    clear hSw;go_simp;refine (HSV.out _).mono ?_;rintro e wu4 ⟨rfl,hb4⟩;have BU4:=hid (BU3.out.trans (hb4.mono BU3.out.size));have HY4:=hid (ar hb4 HY3.out);clear hb4
    refine hK.out _ _ (HSK.out _ BU4.out) (fun hSw => ?_)
    clear hK K;refine tkD (i:=11) (d:=some 90) rfl ?_ (hS:=aQ) (hv:=bE);(try simp only [Act.put,sIB,sC0,sCs]);refine tkD (i:=12) (d:=some 91) rfl ?_ (hS:=aQ) (hv:=bE);(try simp only [Act.put,sIB,sC0,sCs]);refine ryQ (rs:=[13]) ?_
    refine rcQ (i:=13) rfl (fun K hK => ?_) rN
    clear hSw;refine nj _ (.tmp 79) (.tmp 91) rfl W0.heap.size _ R _ rfl rfl (HBQ.out _ BU4.out) ie (HB.out.trans (BU4.out.mono HB.out.size)).size (some 92) rfl ?_;intro v5 w5 hown5 hb5 hk5;have HB5:=hid ((HB.out.trans (BU4.out.mono HB.out.size)).trans hb5);have HBX:=hid (td (HXK.out _ BU4.out) av (HBQ.out _ BU4.out) hk5);exact mH
   ·clear hSw;go_simp;refine (HSG.out _).mono ?_;rintro e wu6 ⟨rfl,hb4⟩;have BU6:=hid (BU1.out.trans (hb4.mono BU1.out.size));have HY6:=hid (ar hb4 HY1.out);clear hb4
    refine hK.out _ _ (HSK.out _ BU6.out) (fun hSw => ?_)
    clear hK K;refine ryQ (rs:=[4,10]) ?_
    refine rcQ (i:=4) rfl (fun K hK => ?_) (rcQ (i:=10) rfl (fun K hK => ?_) rN)
    ·clear hSw;have hcv : (convert 63 9 (.slice (some ⟨Y1,0,none⟩) 1 1)).run Tryz.prog wu6 = .ok (.string ⟨#[UInt8.ofNat xc.toNat]⟩) wu6:=j3 wu6 _ _ _ _ (ja (ag HY6.out) r0 r1);go_simp;clear hcv
     refine hK.out _ _ (HSK.out _ BU6.out) (fun hSw => ?_)
     clear hK K;refine tkD (i:=5) (d:=some 84) rfl ?_ (hS:=aQ) (hv:=bE);(try simp only [Act.put,sIB,sC0,sCs]);refine tkD (i:=7) (d:=some 86) rfl ?_ (hS:=aQ) (hv:=bE);(try simp only [Act.put,sIB,sC0,sCs]);refine ryQ (rs:=[10]) ?_
     refine rcQ (i:=10) rfl (fun K hK => ?_) rN
     clear hSw;go_simp;refine (HSV.out _).mono ?_;rintro e wu8 ⟨rfl,hb4⟩;have BU8:=hid (BU6.out.trans (hb4.mono BU6.out.size));have HY8:=hid (ar hb4 HY6.out);clear hb4
     refine hK.out _ _ (HSK.out _ BU8.out) (fun hSw => ?_)
     clear hK K;refine tkD (i:=11) (d:=some 90) rfl ?_ (hS:=aQ) (hv:=bE);(try simp only [Act.put,sIB,sC0,sCs]);refine tkD (i:=12) (d:=some 91) rfl ?_ (hS:=aQ) (hv:=bE);(try simp only [Act.put,sIB,sC0,sCs]);refine ryQ (rs:=[13]) ?_
     refine rcQ (i:=13) rfl (fun K hK => ?_) rN
     clear hSw;refine nj _ (.tmp 79) (.tmp 91) rfl W0.heap.size _ R _ rfl rfl (HBQ.out _ BU8.out) ie (HB.out.trans (BU8.out.mono HB.out.size)).size (some 92) rfl ?_;intro v5 w5 hown5 hb5 hk5;have HB5:=hid ((HB.out.trans (BU8.out.mono HB.out.size)).trans hb5);have HBX:=hid (td (HXK.out _ BU8.out) av (HBQ.out _ BU8.out) hk5);exact mH
    ·clear hSw;go_simp;refine (HSV.out _).mono ?_;rintro e wu10 ⟨rfl,hb4⟩;have BU10:=hid (BU6.out.trans (hb4.mono BU6.out.size));have HY10:=hid (ar hb4 HY6.out);clear hb4
     refine hK.out _ _ (HSK.out _ BU10.out) (fun hSw => ?_)
     clear hK K;refine ryQ (rs:=[4]) ?_
     refine rcQ (i:=4) rfl (fun K hK => ?_) rN
     clear hSw;have hcv : (convert 63 9 (.slice (some ⟨Y1,0,none⟩) 1 1)).run Tryz.prog wu10 = .ok (.string ⟨#[UInt8.ofNat xc.toNat]⟩) wu10:=j3 wu10 _ _ _ _ (ja (ag HY10.out) r0 r1);go_simp;clear hcv
     refine hK.out _ _ (HSK.out _ BU10.out) (fun hSw => ?_)
     clear hK K;refine tkD (i:=5) (d:=some 84) rfl ?_ (hS:=aQ) (hv:=bE);(try simp only [Act.put,sIB,sC0,sCs]);refine tkD (i:=7) (d:=some 86) rfl ?_ (hS:=aQ) (hv:=bE);(try simp only [Act.put,sIB,sC0,sCs]);refine tkD (i:=11) (d:=some 90) rfl ?_ (hS:=aQ) (hv:=bE);(try simp only [Act.put,sIB,sC0,sCs]);refine tkD (i:=12) (d:=some 91) rfl ?_ (hS:=aQ) (hv:=bE);(try simp only [Act.put,sIB,sC0,sCs]);refine ryQ (rs:=[13]) ?_
     refine rcQ (i:=13) rfl (fun K hK => ?_) rN
     clear hSw;refine nj _ (.tmp 79) (.tmp 91) rfl W0.heap.size _ R _ rfl rfl (HBQ.out _ BU10.out) ie (HB.out.trans (BU10.out.mono HB.out.size)).size (some 92) rfl ?_;intro v5 w5 hown5 hb5 hk5;have HB5:=hid ((HB.out.trans (BU10.out.mono HB.out.size)).trans hb5);have HBX:=hid (td (HXK.out _ BU10.out) av (HBQ.out _ BU10.out) hk5);exact mH
  ·clear hSw;go_simp;refine (HSG.out _).mono ?_;rintro e wu13 ⟨rfl,hb4⟩;have BU13:=hid (BD.out.trans (hb4.mono BD.out.size));clear hb4
   refine hK.out _ _ (HSK.out _ BU13.out) (fun hSw => ?_)
   clear hK K;refine ryQ (rs:=[3,10]) ?_
   refine rcQ (i:=3) rfl (fun K hK => ?_) (rcQ (i:=10) rfl (fun K hK => ?_) rN)
   ·clear hSw;go_simp;have hbA:=ak wu13 (bY xc);have hXn:=heap_alloc_new wu13 (bY xc);generalize wu13.alloc (bY xc) = wu14 at *;have BU14:=hid (BU13.out.trans (hbA.mono BU13.out.size));generalize hYe : wu13.heap.size = Y14 at hXn ⊢;have HY14:=hid hXn;clear hbA hXn hYe
    refine hK.out _ _ (HSK.out _ BU14.out) (fun hSw => ?_)
    clear hK K;refine ryQ (rs:=[4,10]) ?_
    refine rcQ (i:=4) rfl (fun K hK => ?_) (rcQ (i:=10) rfl (fun K hK => ?_) rN)
    ·clear hSw;have hcv : (convert 63 9 (.slice (some ⟨Y14,0,none⟩) 1 1)).run Tryz.prog wu14 = .ok (.string ⟨#[UInt8.ofNat xc.toNat]⟩) wu14:=j3 wu14 _ _ _ _ (ja (ag HY14.out) r0 r1);go_simp;clear hcv
     refine hK.out _ _ (HSK.out _ BU14.out) (fun hSw => ?_)
     clear hK K;refine tkD (i:=5) (d:=some 84) rfl ?_ (hS:=aQ) (hv:=bE);(try simp only [Act.put,sIB,sC0,sCs]);refine tkD (i:=7) (d:=some 86) rfl ?_ (hS:=aQ) (hv:=bE);(try simp only [Act.put,sIB,sC0,sCs]);refine ryQ (rs:=[10]) ?_
     refine rcQ (i:=10) rfl (fun K hK => ?_) rN
     clear hSw;go_simp;refine (HSV.out _).mono ?_;rintro e wu16 ⟨rfl,hb4⟩;have BU16:=hid (BU14.out.trans (hb4.mono BU14.out.size));have HY16:=hid (ar hb4 HY14.out);clear hb4
     refine hK.out _ _ (HSK.out _ BU16.out) (fun hSw => ?_)
     clear hK K;refine tkD (i:=11) (d:=some 90) rfl ?_ (hS:=aQ) (hv:=bE);(try simp only [Act.put,sIB,sC0,sCs]);refine tkD (i:=12) (d:=some 91) rfl ?_ (hS:=aQ) (hv:=bE);(try simp only [Act.put,sIB,sC0,sCs]);refine ryQ (rs:=[13]) ?_
     refine rcQ (i:=13) rfl (fun K hK => ?_) rN
     clear hSw;refine nj _ (.tmp 79) (.tmp 91) rfl W0.heap.size _ R _ rfl rfl (HBQ.out _ BU16.out) ie (HB.out.trans (BU16.out.mono HB.out.size)).size (some 92) rfl ?_;intro v5 w5 hown5 hb5 hk5;have HB5:=hid ((HB.out.trans (BU16.out.mono HB.out.size)).trans hb5);have HBX:=hid (td (HXK.out _ BU16.out) av (HBQ.out _ BU16.out) hk5);exact mH
    ·clear hSw;go_simp;refine (HSV.out _).mono ?_;rintro e wu18 ⟨rfl,hb4⟩;have BU18:=hid (BU14.out.trans (hb4.mono BU14.out.size));have HY18:=hid (ar hb4 HY14.out);clear hb4
     refine hK.out _ _ (HSK.out _ BU18.out) (fun hSw => ?_)
     clear hK K;refine ryQ (rs:=[4]) ?_
     refine rcQ (i:=4) rfl (fun K hK => ?_) rN
     clear hSw;have hcv : (convert 63 9 (.slice (some ⟨Y14,0,none⟩) 1 1)).run Tryz.prog wu18 = .ok (.string ⟨#[UInt8.ofNat xc.toNat]⟩) wu18:=j3 wu18 _ _ _ _ (ja (ag HY18.out) r0 r1);go_simp;clear hcv
     refine hK.out _ _ (HSK.out _ BU18.out) (fun hSw => ?_)
     clear hK K;refine tkD (i:=5) (d:=some 84) rfl ?_ (hS:=aQ) (hv:=bE);(try simp only [Act.put,sIB,sC0,sCs]);refine tkD (i:=7) (d:=some 86) rfl ?_ (hS:=aQ) (hv:=bE);(try simp only [Act.put,sIB,sC0,sCs]);refine tkD (i:=11) (d:=some 90) rfl ?_ (hS:=aQ) (hv:=bE);(try simp only [Act.put,sIB,sC0,sCs]);refine tkD (i:=12) (d:=some 91) rfl ?_ (hS:=aQ) (hv:=bE);(try simp only [Act.put,sIB,sC0,sCs]);refine ryQ (rs:=[13]) ?_
     refine rcQ (i:=13) rfl (fun K hK => ?_) rN
     clear hSw;refine nj _ (.tmp 79) (.tmp 91) rfl W0.heap.size _ R _ rfl rfl (HBQ.out _ BU18.out) ie (HB.out.trans (BU18.out.mono HB.out.size)).size (some 92) rfl ?_;intro v5 w5 hown5 hb5 hk5;have HB5:=hid ((HB.out.trans (BU18.out.mono HB.out.size)).trans hb5);have HBX:=hid (td (HXK.out _ BU18.out) av (HBQ.out _ BU18.out) hk5);exact mH
   ·clear hSw;go_simp;refine (HSV.out _).mono ?_;rintro e wu21 ⟨rfl,hb4⟩;have BU21:=hid (BU13.out.trans (hb4.mono BU13.out.size));clear hb4
    refine hK.out _ _ (HSK.out _ BU21.out) (fun hSw => ?_)
    clear hK K;refine ryQ (rs:=[3]) ?_
    refine rcQ (i:=3) rfl (fun K hK => ?_) rN
    clear hSw;go_simp;have hbA:=ak wu21 (bY xc);have hXn:=heap_alloc_new wu21 (bY xc);generalize wu21.alloc (bY xc) = wu22 at *;have BU22:=hid (BU21.out.trans (hbA.mono BU21.out.size));generalize hYe : wu21.heap.size = Y22 at hXn ⊢;have HY22:=hid hXn;clear hbA hXn hYe
    refine hK.out _ _ (HSK.out _ BU22.out) (fun hSw => ?_)
    clear hK K;refine ryQ (rs:=[4]) ?_
    refine rcQ (i:=4) rfl (fun K hK => ?_) rN
    clear hSw;have hcv : (convert 63 9 (.slice (some ⟨Y22,0,none⟩) 1 1)).run Tryz.prog wu22 = .ok (.string ⟨#[UInt8.ofNat xc.toNat]⟩) wu22:=j3 wu22 _ _ _ _ (ja (ag HY22.out) r0 r1);go_simp;clear hcv
    refine hK.out _ _ (HSK.out _ BU22.out) (fun hSw => ?_)
    clear hK K;refine tkD (i:=5) (d:=some 84) rfl ?_ (hS:=aQ) (hv:=bE);(try simp only [Act.put,sIB,sC0,sCs]);refine tkD (i:=7) (d:=some 86) rfl ?_ (hS:=aQ) (hv:=bE);(try simp only [Act.put,sIB,sC0,sCs]);refine tkD (i:=11) (d:=some 90) rfl ?_ (hS:=aQ) (hv:=bE);(try simp only [Act.put,sIB,sC0,sCs]);refine tkD (i:=12) (d:=some 91) rfl ?_ (hS:=aQ) (hv:=bE);(try simp only [Act.put,sIB,sC0,sCs]);refine ryQ (rs:=[13]) ?_
    refine rcQ (i:=13) rfl (fun K hK => ?_) rN
    clear hSw;refine nj _ (.tmp 79) (.tmp 91) rfl W0.heap.size _ R _ rfl rfl (HBQ.out _ BU22.out) ie (HB.out.trans (BU22.out.mono HB.out.size)).size (some 92) rfl ?_;intro v5 w5 hown5 hb5 hk5;have HB5:=hid ((HB.out.trans (BU22.out.mono HB.out.size)).trans hb5);have HBX:=hid (td (HXK.out _ BU22.out) av (HBQ.out _ BU22.out) hk5);have HO5:=hid hown5;clear hown5 hb5 hk5
    refine hK.out _ _ ⟨ag HBX.out,ag HBX.out,ag HBX.out⟩ (fun hSw => ?_)
    clear hK K;refine tkD (i:=14) (d:=some 5) rfl ?_ (hS:=aQ);(try simp only [Act.put,sIB,sC0,sCs]);refine wpAnyH_done aj ?_ _;go_wp2_with fail;exact ⟨⟨t + 1,ae,bB,hid yS,HB5⟩,bD⟩
 ) : P:=h
theorem Lh {P : Prop} (h : P:=by
  clear hlt;go_wp2_with fail
  go_loopw [3,5] (fun s i wr => ∃ k z : Nat,k ≤ m.fn ∧ s = .int .i64 (z : Nat) ∧ i = .int .i64 k ∧ (∃ q,wr = W0.drewN q) ∧ z ≤ 1125899906842624 ∧ Hid (z1 + jP (m.fns.take k) ≤ z)) (fun _ i _ => m.fn - (intOf i).toNat)
  case atStart => exact ⟨0,z1,ae,rfl,rfl,⟨_,rfl⟩,ae,hid (by simp [jP])⟩
  case round =>
   obtain ⟨k,z2,hk,rfl,rfl,⟨q2,rfl⟩,hz2,HF2⟩:=hrel
   by_cases hlt : k < m.fn
   ·have hlt' : (k : Int) < (m.fn : Int):=ae
    by_cases hbd : z2 ≤ 2147483647
    ·obtain ⟨x,hxk⟩ : ∃ x,m.fns[k]? = some x:=⟨_,aN (by rw [PF.out.1]; exact hlt)⟩
     obtain ⟨b,off,hfa,hat⟩:=PF.out.2.resolve_left ae;have hat:=hat k x hxk;have hu:=UF.out k x hxk;have hk0 : (0 : Int) ≤ (k : Int):=ae;have hbd' : (z2 : Int) ≤ 2147483647:=ae;have hbq : decide ((z2 : Int) ≤ 2147483647) = true:=decide_eq_true hbd';rw [hfa] at m5;obtain ⟨_,g0,g1⟩:=hat
     have H29 : Hid (∀ n,Calls Tryz.prog 24 #[.slice x.2.2.1.1 x.2.2.1.2.1 x.2.2.1.2.2] (W0.drewN (q2 + n)) fun e w'' => e = .returned (.int .i64 (szG x.2.2.2 x.2.2.1.2.1 : Nat)) ∧ ∃ n',w'' = W0.drewN (q2 + n')):=hid (fun (n : Nat) => (JO x.2.2.1.1 x.2.2.1.2.1 x.2.2.1.2.2 x.2.2.2 (W0.drewN (q2 + n)) hu.2.1 ((PI.out k x hxk).kept (az (S:=fun _ => False) (jc W0 (q2 + n))) (fun _ _ _ _ => id)) hu.2.2.2).mono fun e w' ⟨he,q,hq⟩ => ⟨he,n + q,by rw [hq,World.drewN_drewN,Nat.add_assoc]⟩)
     have hsg:=Ac x.2.2.2 x.2.2.1.2.1 hu.2.2.2 ae;have hsl : ((szG x.2.2.2 x.2.2.1.2.1 : Nat) : Int) ≤ 281474976710656:=ae;rw [hfa];go_wp2_with fail
     go_quiet ((go_at_call 24; exact H29.out _))
     go_wp2_with fail
     exact ⟨⟨k + 1,z2 + x.2.1.size + szG x.2.2.2 x.2.2.1.2.1,ae,bB,bB,⟨_,rfl⟩,ae,hid (by have:=HF2.out; rw [xI hxk]; omega)⟩,bD⟩
    ·have hbd' : ¬ (z2 : Int) ≤ 2147483647:=ae;have hbq : decide ((z2 : Int) ≤ 2147483647) = false:=decide_eq_false hbd';clear hlt;go_wp2_with fail
     go_loopw [3,6] (fun s i wr => ∃ k z : Nat,k ≤ m.dn ∧ s = .int .i64 (z : Nat) ∧ i = .int .i64 k ∧ (∃ q,wr = W0.drewN q) ∧ z ≤ 1125899906842624 ∧ Hid (z2 + nU (m.data.take k) ≤ z)) (fun _ i _ => m.dn - (intOf i).toNat)
     case atStart => exact ⟨0,z2,ae,rfl,rfl,⟨_,rfl⟩,ae,hid (by simp [nU])⟩
     case round =>
      obtain ⟨k,z3,hk,rfl,rfl,⟨q3,rfl⟩,hz3,HF3⟩:=hrel
      by_cases hlt : k < m.dn
      ·exact zH
      ·obtain rfl : k = m.dn:=ae;clear hlt;go_wp2_with fail
       go_loopw [3,7] (fun s i wr => ∃ k z : Nat,k ≤ m.en ∧ s = .int .i64 (z : Nat) ∧ i = .int .i64 k ∧ (∃ q,wr = W0.drewN q) ∧ z ≤ 1125899906842624 ∧ Hid (z3 + lH (m.exps.take k) ≤ z)) (fun _ i _ => m.en - (intOf i).toNat)
       case atStart => exact ⟨0,z3,ae,rfl,rfl,⟨_,rfl⟩,ae,hid (by simp [lH])⟩
       case round =>
        obtain ⟨k,z4,hk,rfl,rfl,⟨q4,rfl⟩,hz4,HF4⟩:=hrel
        by_cases hlt : k < m.en
        ·exact zP
        ·obtain rfl : k = m.en:=ae;exact Cs
   ·obtain rfl : k = m.fn:=ae;clear hlt;go_wp2_with fail
    go_loopw [3,6] (fun s i wr => ∃ k z : Nat,k ≤ m.dn ∧ s = .int .i64 (z : Nat) ∧ i = .int .i64 k ∧ (∃ q,wr = W0.drewN q) ∧ z ≤ 1125899906842624 ∧ Hid (z2 + nU (m.data.take k) ≤ z)) (fun _ i _ => m.dn - (intOf i).toNat)
    case atStart => exact ⟨0,z2,ae,rfl,rfl,⟨_,rfl⟩,ae,hid (by simp [nU])⟩
    case round =>
     obtain ⟨k,z3,hk,rfl,rfl,⟨q3,rfl⟩,hz3,HF3⟩:=hrel
     by_cases hlt : k < m.dn
     ·exact zH
     ·obtain rfl : k = m.dn:=ae;clear hlt;go_wp2_with fail
      go_loopw [3,7] (fun s i wr => ∃ k z : Nat,k ≤ m.en ∧ s = .int .i64 (z : Nat) ∧ i = .int .i64 k ∧ (∃ q,wr = W0.drewN q) ∧ z ≤ 1125899906842624 ∧ Hid (z3 + lH (m.exps.take k) ≤ z)) (fun _ i _ => m.en - (intOf i).toNat)
      case atStart => exact ⟨0,z3,ae,rfl,rfl,⟨_,rfl⟩,ae,hid (by simp [lH])⟩
      case round =>
       obtain ⟨k,z4,hk,rfl,rfl,⟨q4,rfl⟩,hz4,HF4⟩:=hrel
       by_cases hlt : k < m.en
       ·exact zP
       ·obtain rfl : k = m.en:=ae;clear hlt;go_wp2_with fail;go_ret
        exact ⟨z4,rfl,BW.out.trans (BW2.out _),fun h4 => sk⟩
 ) : P:=h
theorem KN {P : Prop} (h : P:=by
  rw [hPe] at HBy
  have HT2:=hid (show R2.length + (xs.flatMap iW).length ≤ 1000000000 by rw [← hPe,List.length_append]; have h1:=HFB.out; rw [HFU.out,List.length_append] at h1; omega)
  have HQ2:=hid hPe;clear hPe
  go_loopw [5,16] (fun b i wr => ∃ u : Nat,u ≤ cn ∧ i = .int .i64 u ∧ Hid (By8 wr W0.heap.size b (R2 ++ (xs.take u).flatMap iW)) ∧ Hid (Below W0.heap.size W0 wr) ∧ Hid (wr.heap[X]? = some (aL xt xl ca cn cc))) (fun _ i _ => cn - (intOf i).toNat)
  case atStart => exact ⟨0,Nat.zero_le _,rfl,hid fN,HB,HXF⟩
  case round =>
   clear HBy HB HXF;obtain ⟨u,hu,rfl,HBy,HB,HXF⟩:=hrel;have f2 : wr.cell? ⟨X,2,none⟩ = some (.slice ca cn cc):=ag HXF.out
   by_cases hul : u < cn
   ·have hul' : (u : Int) < (cn : Int):=ae;have hu0 : (0 : Int) ≤ (u : Int):=ae;obtain ⟨y,hy⟩ : ∃ y,xs[u]? = some y:=⟨_,aN ae⟩;have HFS2:=hid (gI iW xs hy)
    have HFB2:=hid (show (R2 ++ (xs.take u).flatMap iW).length + (iW y).length ≤ 1000000000 by rw [List.length_append]; have h1:=ct iW xs u y hy; have h2:=HT2.out; omega)
    obtain ⟨b2,o2,rfl,hat2⟩:=HAI.out.2.resolve_left ae;obtain ⟨e0,e1,e2⟩:=hat2 u y hy;have y0:=ai HB.out e0;have y1:=ai HB.out e1;have y2:=ai HB.out e2;clear e0 e1 e2 hat2;have qx:=HIX.out u y hy;have qr:=HIRX.out u y hy;have qc:=lQ (HQX.out u y hy);have HLN2:=hid (Ez y qc.1 qc.2.2.2.2)
    have HIN:=hid (fun W (hb : Below W0.heap.size W0 W) => Od y.1 y.2.1 y.2.2.1.1 y.2.2.1.2.1 y.2.2.1.2.2 y.2.2.2 W qx.1 qx.2.1 qr.1 qr.2 (qx.2.2.1.later hb (Nat.le_refl _)))
    have hsz : (⟨(s9 y.1 y.2.1 y.2.2.2).toArray⟩ : ByteArray).size ≤ 1000000000:=by have h1:=HFB2.out; rw [HLN2.out] at h1; have h2 : (((⟨#[32,32]⟩ : ByteArray) ++ ⟨(s9 y.1 y.2.1 y.2.2.2).toArray⟩ ++ nlB).data.toList).length = ((⟨#[32,32]⟩ : ByteArray) ++ ⟨(s9 y.1 y.2.1 y.2.2.2).toArray⟩ ++ nlB).size:=rfl; rw [h2,ByteArray.size_append,ByteArray.size_append] at h1; omega
    clear hy qx qr qc;obtain ⟨yo,ya,⟨yl,yn,yc⟩,yz⟩:=y;dsimp only at *;generalize hR3 : R2 ++ (xs.take u).flatMap iW = R3 at *;have HR3:=hid hR3;clear hR3;generalize (⟨(s9 yo ya yz).toArray⟩ : ByteArray) = sv at *;go_wp2_with fail;refine (HIN.out _ HB.out).mono ?_;rintro e wt ⟨rfl,hb4⟩;have HXF:=hid (ar hb4 HXF.out)
    replace HBy:=hid (aI HBy.out hb4)
    replace HB:=hid (HB.out.trans (hb4.mono HB.out.size))
    clear hb4;clear f2 y0 y1 y2 HIN
    go_wp2_with (at_builtin; (refine wC _ rfl (.tmp 138) (.tmp 146) rfl W0.heap.size _ (R3) _ rfl rfl HBy.out (by have h1:=HFB2.out; rw [HLN2.out] at h1; exact Nat.le_trans h1 ae) HB.out.size ?_; intro v5 w5 hown5 hb5 hk5; have HXF:=hid (td HXF.out av HBy.out hk5); replace HBy:=hid hown5; replace HB:=hid (HB.out.trans hb5); clear hown5 hb5 hk5))
    exact ⟨⟨u + 1,ae,bB,hid (by rw [HFS2.out,← List.append_assoc,HR3.out,HLN2.out]; exact HBy.out),HB,HXF⟩,bD⟩
   ·obtain rfl : u = cn:=ae;rw [List.take_of_length_le ae] at HBy;go_wp2_with fail
    exact ⟨⟨t + 1,ae,bB,hid (by rw [HFS.out,← List.append_assoc,HR.out,HFU.out,← List.append_assoc,HQ2.out]; exact HBy.out),HB⟩,bD⟩
 ) : P:=h
theorem KG {P : Prop} (h : P:=by
  go_wp2_with fail;generalize wr.alloc (aL x.1 x.2.1 x.2.2.1.1 x.2.2.1.2.1 x.2.2.1.2.2) = W at *;have hszW:=BN.out.size;refine HC1.out.mono ?_;rintro e w5 ⟨y,rfl,hok,g4,cap4,hw5,hs5,hl5⟩;have hgr : g3 < wr.heap.size:=HWR.out.g_lt;have hRr : R < wr.heap.size:=HWR.out.lt
  have row5 : w5.ownsRow 0 78 3 (.slice aa j ac) j (ys.flatMap oZ):=aF HRW.out (fun B hB => by
   have h1:=aC HRW.out hB;have h2 : ∃ a,aa = some a ∧ a.block = B:=im hB;obtain ⟨a,ha1,ha2⟩:=h2;have h3:=HAB.out a ha1;have h4:=HST.out.size;exact (hs5.block (b:=B) ae ae ae ae).trans (BN.out.block B h1))
  have gg4:=hw5.g_lt
  have hab5 : ∀ b,aa = some b → b.block ≠ g4 ∧ b.block < w5.heap.size:=fun a ha1 => by
   exact jC
  have W5:=hid hw5;have S5:=hid (HST.out.trans ((eQ.of_below BN.out).trans hs5));have L5:=hid hl5
  have hL4 : L ≠ g4:=hs5.ne (by have:=HST.out.size; omega) hlg
  have O5:=hid hok;have BN5:=hid (ak w5 (aL y.1 y.2.1 y.2.2.1 y.2.2.2.1 y.2.2.2.2))
  have R6:=hid (aF (w':=w5.alloc (aL y.1 y.2.1 y.2.2.1 y.2.2.2.1 y.2.2.2.2)) row5 (fun B hB => BN5.out.block B (aC row5 hB)))
  have HAB5:=hid hab5;have NC:=hid (ww w5 y);have hz6 : (w5.alloc (aL y.1 y.2.1 y.2.2.1 y.2.2.2.1 y.2.2.2.2)).heap.size = w5.heap.size + 1:=aq;clear hw5 hs5 row5 hab5 HC1 hok hl5
  go_wp2_with (at_builtin; (refine gH _ rfl (.tmp 28) (.tmp 33) 25 rfl 78 i0 _ 3 48 Tryz.underlying25 hi hz0 hz1 hz2 rfl av _ j _ rfl R6.out ⟨w5.heap.size,0,none⟩ 1 1 (oZ y) rfl rfl NC.out (vW y) ae bU ae ?_; intro B cap7 w7 hrow7 hor7; have R7:=hid hrow7; have OR7:=hid hor7; clear hrow7 hor7))
  generalize w5.alloc (aL y.1 y.2.1 y.2.2.1 y.2.2.2.1 y.2.2.2.2) = W6 at *
  have hBn : w.heap.size ≤ B ∧ B ≠ g4 ∧ aJ (fun k => k = B) W6 w7:=by
   exact jz
  have hRw:=S5.out.size
  go_roundw
  ·refine ⟨j + 1,ys ++ [y],some ⟨B,0,none⟩,cap7,g4,cap4,ae,rfl,rfl,by simp [hyl],?_,?_,?_,?_,?_,?_,hL4⟩
   ·exact Aj
   ·have:=R7.out
    simpa [gP] using this
   ·intro b' hb'
    simp at hb'
    subst hb';exact ⟨hBn.1,hBn.2.1⟩
   ·exact Av
   ·exact ⟨(S5.out.k.trans (az BN5.out)).then hBn.2.2 (fun k hk hkB => by have:=hBn.1; omega),S5.out.m⟩
   ·exact (L5.out.later BN5.out).kept hBn.2.2 (by have:=hBn.1; omega)
  ·simp [intOf]; omega
 ) : P:=h
theorem KS {P : Prop} (h : P:=by
  go_simp
  refine hK.out _ _ hS (fun _ => ?_)
  clear hK K;refine ryQ (rs:=[2]) ?_
  refine rcQ (i:=2) rfl (fun K hK => ?_) rN
  go_simp;obtain ⟨p1,p2⟩:=JJ (.slice none 0 0) (.slice none 0 0) (.slice none 0 0) (.int .i64 0) (.int .i64 0) (.slice none 0 0) (.slice none 0 0) (.slice none 0 0) tA';have b5:=(p2.block (w.heap.size + 1) (aV tB') ae).trans tB';have c5:=(p2.block (w.heap.size + 2) (aV tC') ae).trans tC';have d5:=(p2.block D (aV tK') ae).trans tK'
  have f5:=hb'.trans (p2.to_below (B:=w.heap.size) (by have:=hb'.size; omega) (fun k hk => ae))
  refine hK.out _ _ (ag (i:=0) b5) (fun hS2 => ?_)
  clear hK K m0 m1 m2 m3 m4 m5 m6 m7 g0 g1 g2 g3 g4 g5 g6 g7 tA' tB' tC' tK' hb' p2 hS;generalize ((((((((Wd.setCell ⟨w.heap.size,0,none⟩ (.slice none 0 0)).setCell ⟨w.heap.size,1,none⟩ (.slice none 0 0)).setCell ⟨w.heap.size,2,none⟩ (.slice none 0 0)).setCell ⟨w.heap.size,3,none⟩ (.int .i64 0)).setCell ⟨w.heap.size,4,none⟩ (.int .i64 0)).setCell ⟨w.heap.size,5,none⟩ (.slice none 0 0)).setCell ⟨w.heap.size,6,none⟩ (.slice none 0 0)).setCell ⟨w.heap.size,7,none⟩ (.slice none 0 0)) = W5 at *;refine ryQ (rs:=[3]) ?_
  refine rcQ (i:=3) rfl (fun K hK => ?_) rN
  have cb5:=ag (i:=0) b5;have fb5:=aU (i:=0) b5;go_simp;have k6:=aw W5 (w.heap.size + 1) 0 (.int .i64 E);have b6 : (W5.setCell ⟨w.heap.size + 1,0,none⟩ (.int .i64 E)).heap[w.heap.size + 1]? = some (dW E):=bJ b5;have a6:=(k6.block w.heap.size (aV p1) ae).trans p1;have c6:=(k6.block (w.heap.size + 2) (aV c5) ae).trans c5;have d6:=(k6.block D (aV d5) ae).trans d5
  have f6:=f5.trans (k6.to_below (B:=w.heap.size) (by have:=f5.size; omega) (fun k hk => ae))
  refine hK.out _ _ (ag (i:=0) b6) (fun hS3 => ?_)
  clear hK K k6 p1 b5 c5 d5 f5 cb5 fb5 hS2;generalize W5.setCell ⟨w.heap.size + 1,0,none⟩ (.int .i64 E) = W6 at *;refine ryQ (rs:=[4]) ?_
  refine rcQ (i:=4) rfl (fun K hK => ?_) rN
  have cc6:=ag (i:=0) c6;have fc6:=aU (i:=0) c6;go_simp;have k7:=aw W6 (w.heap.size + 2) 0 (.int .i64 0);have c7 : (W6.setCell ⟨w.heap.size + 2,0,none⟩ (.int .i64 0)).heap[w.heap.size + 2]? = some (bS 0):=bJ c6;have a7:=(k7.block w.heap.size (aV a6) ae).trans a6;have b7:=(k7.block (w.heap.size + 1) (aV b6) ae).trans b6;have d7:=(k7.block D (aV d6) ae).trans d6
  have f7:=f6.trans (k7.to_below (B:=w.heap.size) (by have:=f6.size; omega) (fun k hk => ae))
  refine hK.out _ _ (ag (i:=0) b7) (fun hS4 => ?_)
  clear hK K k7 a6 b6 c6 d6 f6 cc6 fc6 hS3;generalize W6.setCell ⟨w.heap.size + 2,0,none⟩ (.int .i64 0) = W7 at *;refine wpAnyH_done aj ?_ _
  gi_wp2_with fail
  refine EC rfl rfl rfl a7 b7 c7 d7 ae fun w' hk' => ?_
  rw [← HR0.out]
  refine ⟨f7.trans (hk'.to_below (by have:=f7.size; omega) (fun k hk => ae)),(fun h => ae),fun _ l o hlo2 => ?_⟩
  rw [hV,eV] at hlo2
  cases hlo2
  refine ⟨(fun h => cw),fun p M h => ?_⟩
  cases h
  refine ⟨(fun h => ae),fun _ => ⟨m,rfl,HLE.out,hpr,fun _ => by rw [hEq]; rfl,fun h => absurd (hEq.symm.trans h) hx⟩⟩
 ) : P:=h
theorem Lb {P : Prop} (h : P:=by
  go_wp2_with fail;generalize wr.alloc (aH x.1 x.2.1 x.2.2.1.1 x.2.2.1.2.1 x.2.2.1.2.2) = W at *;have hszW:=BN.out.size;refine HC1.out.mono ?_;rintro e w5 ⟨y,rfl,hok,g4,cap4,hw5,hs5⟩;have hgr : g3 < wr.heap.size:=HWR.out.g_lt;have hRr : R < wr.heap.size:=HWR.out.lt
  have row5 : w5.ownsRow 0 75 3 (.slice aa j ac) j (ys.flatMap o8):=aF HRW.out (fun B hB => by
   have h1:=aC HRW.out hB;have h2 : ∃ a,aa = some a ∧ a.block = B:=im hB;obtain ⟨a,ha1,ha2⟩:=h2;have h3:=HAB.out a ha1;have h4:=HST.out.size;exact (hs5.block (b:=B) ae ae ae).trans (BN.out.block B h1))
  have gg4:=hw5.g_lt
  have hab5 : ∀ b,aa = some b → b.block ≠ g4 ∧ b.block < w5.heap.size:=fun a ha1 => by
   exact jC
  have W5:=hid hw5;have S5:=hid (HST.out.trans ((Stp.of_below BN.out).trans hs5));have O5:=hid hok;have BN5:=hid (ak w5 (aH y.1 y.2.1 y.2.2.1 y.2.2.2.1 y.2.2.2.2))
  have R6:=hid (aF (w':=w5.alloc (aH y.1 y.2.1 y.2.2.1 y.2.2.2.1 y.2.2.2.2)) row5 (fun B hB => BN5.out.block B (aC row5 hB)))
  have HAB5:=hid hab5;have NC:=hid (vh w5 y);have hz6 : (w5.alloc (aH y.1 y.2.1 y.2.2.1 y.2.2.2.1 y.2.2.2.2)).heap.size = w5.heap.size + 1:=aq;clear hw5 hs5 row5 hab5 HC1 hok
  go_wp2_with (at_builtin; (refine gH _ rfl (.tmp 28) (.tmp 33) 76 rfl 75 i0 _ 3 40 Tryz.underlying76 hi hz0 hz1 hz2 rfl av _ j _ rfl R6.out ⟨w5.heap.size,0,none⟩ 1 1 (o8 y) rfl rfl NC.out (uU y) ae bU ae ?_; intro B cap7 w7 hrow7 hor7; have R7:=hid hrow7; have OR7:=hid hor7; clear hrow7 hor7))
  generalize w5.alloc (aH y.1 y.2.1 y.2.2.1 y.2.2.2.1 y.2.2.2.2) = W6 at *
  have hBn : w.heap.size ≤ B ∧ B ≠ g4 ∧ aJ (fun k => k = B) W6 w7:=by
   exact jz
  have hRw:=S5.out.size
  go_roundw
  ·exact kO
  ·simp [intOf]; omega
 ) : P:=h
theorem KO {P : Prop} (h : P:=by
  go_wp2_with fail;generalize wr.alloc (bh x.1 x.2.1.1 x.2.1.2.1 x.2.1.2.2) = W at *;have hszW:=BN.out.size;refine HC1.out.mono ?_;rintro e w5 ⟨y,rfl,hok,g4,cap4,hw5,hs5⟩;have hgr : g3 < wr.heap.size:=HWR.out.g_lt;have hRr : R < wr.heap.size:=HWR.out.lt
  have row5 : w5.ownsRow 0 81 2 (.slice aa j ac) j (ys.flatMap iF):=aF HRW.out (fun B hB => by
   have h1:=aC HRW.out hB;have h2 : ∃ a,aa = some a ∧ a.block = B:=im hB;obtain ⟨a,ha1,ha2⟩:=h2;have h3:=HAB.out a ha1;have h4:=HST.out.size;exact (hs5.block (b:=B) ae ae ae).trans (BN.out.block B h1))
  have gg4:=hw5.g_lt
  have hab5 : ∀ b,aa = some b → b.block ≠ g4 ∧ b.block < w5.heap.size:=fun a ha1 => by
   exact jC
  have W5:=hid hw5;have S5:=hid (HST.out.trans ((Stp.of_below BN.out).trans hs5));have O5:=hid hok;have BN5:=hid (ak w5 (bh y.1 y.2.1 y.2.2.1 y.2.2.2))
  have R6:=hid (aF (w':=w5.alloc (bh y.1 y.2.1 y.2.2.1 y.2.2.2)) row5 (fun B hB => BN5.out.block B (aC row5 hB)))
  have HAB5:=hid hab5;have NC:=hid (uM w5 y);have hz6 : (w5.alloc (bh y.1 y.2.1 y.2.2.1 y.2.2.2)).heap.size = w5.heap.size + 1:=aq;clear hw5 hs5 row5 hab5 HC1 hok
  go_wp2_with (at_builtin; (refine gH _ rfl (.tmp 28) (.tmp 33) 26 rfl 81 i0 _ 2 32 Tryz.underlying26 hi hz0 hz1 hz2 rfl av _ j _ rfl R6.out ⟨w5.heap.size,0,none⟩ 1 1 (iF y) rfl rfl NC.out (vO y) ae bU ae ?_; intro B cap7 w7 hrow7 hor7; have R7:=hid hrow7; have OR7:=hid hor7; clear hrow7 hor7))
  generalize w5.alloc (bh y.1 y.2.1 y.2.2.1 y.2.2.2) = W6 at *
  have hBn : w.heap.size ≤ B ∧ B ≠ g4 ∧ aJ (fun k => k = B) W6 w7:=by
   exact jz
  have hRw:=S5.out.size
  go_roundw
  ·exact kO
  ·simp [intOf]; omega
 ) : P:=h
theorem Ll {P : Prop} (h : P:=by
  go_wp2_with fail;generalize wr.alloc (bo x.1 x.2.1 x.2.2) = W at *;have hszW:=BN.out.size;refine HC1.out.mono ?_;rintro e w5 ⟨y,rfl,hok,g4,cap4,hw5,hs5⟩;have hgr : g3 < wr.heap.size:=HWR.out.g_lt;have hRr : R < wr.heap.size:=HWR.out.lt
  have row5 : w5.ownsRow 0 102 3 (.slice aa j ac) j (ys.flatMap oW):=aF HRW.out (fun B hB => by
   have h1:=aC HRW.out hB;have h2 : ∃ a,aa = some a ∧ a.block = B:=im hB;obtain ⟨a,ha1,ha2⟩:=h2;have h3:=HAB.out a ha1;have h4:=HST.out.size;exact (hs5.block (b:=B) ae ae ae).trans (BN.out.block B h1))
  have gg4:=hw5.g_lt
  have hab5 : ∀ b,aa = some b → b.block ≠ g4 ∧ b.block < w5.heap.size:=fun a ha1 => by
   exact jC
  have W5:=hid hw5;have S5:=hid (HST.out.trans ((Stp.of_below BN.out).trans hs5));have O5:=hid hok;have BN5:=hid (ak w5 (bo y.1 y.2.1 y.2.2))
  have R6:=hid (aF (w':=w5.alloc (bo y.1 y.2.1 y.2.2)) row5 (fun B hB => BN5.out.block B (aC row5 hB)))
  have HAB5:=hid hab5;have NC:=hid (vp w5 y);have hz6 : (w5.alloc (bo y.1 y.2.1 y.2.2)).heap.size = w5.heap.size + 1:=aq;clear hw5 hs5 row5 hab5 HC1 hok
  go_wp2_with (at_builtin; (refine gH _ rfl (.tmp 28) (.tmp 33) 24 rfl 102 i0 _ 3 16 Tryz.underlying24 hi hz0 hz1 hz2 rfl av _ j _ rfl R6.out ⟨w5.heap.size,0,none⟩ 1 1 (oW y) rfl rfl NC.out (vv y) ae bU ae ?_; intro B cap7 w7 hrow7 hor7; have R7:=hid hrow7; have OR7:=hid hor7; clear hrow7 hor7))
  generalize w5.alloc (bo y.1 y.2.1 y.2.2) = W6 at *
  have hBn : w.heap.size ≤ B ∧ B ≠ g4 ∧ aJ (fun k => k = B) W6 w7:=by
   exact jz
  have hRw:=S5.out.size
  go_roundw
  ·exact kO
  ·simp [intOf]; omega
 ) : P:=h
theorem Lj {P : Prop} (h : P:=by
  go_wp2_with fail;generalize wr.alloc (aS x.1 x.2) = W at *;have hszW:=BN.out.size;refine HC1.out.mono ?_;rintro e w5 ⟨y,rfl,hok,g4,cap4,hw5,hs5⟩;have hgr : g3 < wr.heap.size:=HWR.out.g_lt;have hRr : R < wr.heap.size:=HWR.out.lt
  have row5 : w5.ownsRow 0 73 2 (.slice aa j ac) j (ys.flatMap gV):=aF HRW.out (fun B hB => by
   have h1:=aC HRW.out hB;have h2 : ∃ a,aa = some a ∧ a.block = B:=im hB;obtain ⟨a,ha1,ha2⟩:=h2;have h3:=HAB.out a ha1;have h4:=HST.out.size;exact (hs5.block (b:=B) ae ae ae).trans (BN.out.block B h1))
  have gg4:=hw5.g_lt
  have hab5 : ∀ b,aa = some b → b.block ≠ g4 ∧ b.block < w5.heap.size:=fun a ha1 => by
   exact jC
  have W5:=hid hw5;have S5:=hid (HST.out.trans ((Stp.of_below BN.out).trans hs5));have O5:=hid hok;have BN5:=hid (ak w5 (aS y.1 y.2))
  have R6:=hid (aF (w':=w5.alloc (aS y.1 y.2)) row5 (fun B hB => BN5.out.block B (aC row5 hB)))
  have HAB5:=hid hab5;have NC:=hid (tu w5 y);have hz6 : (w5.alloc (aS y.1 y.2)).heap.size = w5.heap.size + 1:=aq;clear hw5 hs5 row5 hab5 HC1 hok
  go_wp2_with (at_builtin; (refine gH _ rfl (.tmp 28) (.tmp 33) 22 rfl 73 i0 _ 2 32 Tryz.underlying22 hi hz0 hz1 hz2 rfl av _ j _ rfl R6.out ⟨w5.heap.size,0,none⟩ 1 1 (gV y) rfl rfl NC.out (tS y) ae bU ae ?_; intro B cap7 w7 hrow7 hor7; have R7:=hid hrow7; have OR7:=hid hor7; clear hrow7 hor7))
  generalize w5.alloc (aS y.1 y.2) = W6 at *
  have hBn : w.heap.size ≤ B ∧ B ≠ g4 ∧ aJ (fun k => k = B) W6 w7:=by
   exact jz
  have hRw:=S5.out.size
  go_roundw
  ·exact kO
  ·simp [intOf]; omega
 ) : P:=h
theorem KF {P : Prop} (h : P:=by
  go_wp2_with fail;generalize wr.alloc (bF x.1 x.2) = W at *;have hszW:=BN.out.size;refine HC1.out.mono ?_;rintro e w5 ⟨y,rfl,hok,g4,cap4,hw5,hs5⟩;have hgr : g3 < wr.heap.size:=HWR.out.g_lt;have hRr : R < wr.heap.size:=HWR.out.lt
  have row5 : w5.ownsRow 0 83 2 (.slice aa j ac) j (ys.flatMap jd):=aF HRW.out (fun B hB => by
   have h1:=aC HRW.out hB;have h2 : ∃ a,aa = some a ∧ a.block = B:=im hB;obtain ⟨a,ha1,ha2⟩:=h2;have h3:=HAB.out a ha1;have h4:=HST.out.size;exact (hs5.block (b:=B) ae ae ae).trans (BN.out.block B h1))
  have gg4:=hw5.g_lt
  have hab5 : ∀ b,aa = some b → b.block ≠ g4 ∧ b.block < w5.heap.size:=fun a ha1 => by
   exact jC
  have W5:=hid hw5;have S5:=hid (HST.out.trans ((Stp.of_below BN.out).trans hs5));have O5:=hid hok;have BN5:=hid (ak w5 (bF y.1 y.2))
  have R6:=hid (aF (w':=w5.alloc (bF y.1 y.2)) row5 (fun B hB => BN5.out.block B (aC row5 hB)))
  have HAB5:=hid hab5;have NC:=hid (vE w5 y);have hz6 : (w5.alloc (bF y.1 y.2)).heap.size = w5.heap.size + 1:=aq;clear hw5 hs5 row5 hab5 HC1 hok
  go_wp2_with (at_builtin; (refine gH _ rfl (.tmp 28) (.tmp 33) 27 rfl 83 i0 _ 2 24 Tryz.underlying27 hi hz0 hz1 hz2 rfl av _ j _ rfl R6.out ⟨w5.heap.size,0,none⟩ 1 1 (jd y) rfl rfl NC.out (wL y) ae bU ae ?_; intro B cap7 w7 hrow7 hor7; have R7:=hid hrow7; have OR7:=hid hor7; clear hrow7 hor7))
  generalize w5.alloc (bF y.1 y.2) = W6 at *
  have hBn : w.heap.size ≤ B ∧ B ≠ g4 ∧ aJ (fun k => k = B) W6 w7:=by
   exact jz
  have hRw:=S5.out.size
  go_roundw
  ·exact kO
  ·simp [intOf]; omega
 ) : P:=h
theorem Hq {P : Prop} (h : P:=by
  have hszW:=BN.out.size;refine HC1.out.mono ?_;rintro e w5 ⟨y,rfl,hok,g4,cap4,hw5,hs5⟩;have hgr : g3 < wr.heap.size:=HWR.out.g_lt;have hRr : R < wr.heap.size:=HWR.out.lt
  have row5 : w5.ownsRow 0 3 1 (.slice aa j ac) j (ys.flatMap oV):=aF HRW.out (fun B hB => by
   have h1:=aC HRW.out hB;have h2 : ∃ a,aa = some a ∧ a.block = B:=im hB;obtain ⟨a,ha1,ha2⟩:=h2;have h3:=HAB.out a ha1;have h4:=HST.out.size;exact (hs5.block (b:=B) ae ae ae).trans (BN.out.block B h1))
  have gg4:=hw5.g_lt
  have hab5 : ∀ b,aa = some b → b.block ≠ g4 ∧ b.block < w5.heap.size:=fun a ha1 => by
   exact jC
  have W5:=hid hw5;have S5:=hid (HST.out.trans ((Stp.of_below BN.out).trans hs5));have O5:=hid hok;have BN5:=hid (ak w5 (bS y))
  have R6:=hid (aF (w':=w5.alloc (bS y)) row5 (fun B hB => BN5.out.block B (aC row5 hB)))
  have HAB5:=hid hab5;have NC:=hid (vP w5 y);have hz6 : (w5.alloc (bS y)).heap.size = w5.heap.size + 1:=aq;clear hw5 hs5 row5 hab5 HC1 hok
  go_wp2_with (at_builtin; (refine gH _ rfl (.tmp 28) (.tmp 33) 23 rfl 3 i0 _ 1 8 Tryz.underlying23 hi hz0 hz1 hz2 rfl av _ j _ rfl R6.out ⟨w5.heap.size,0,none⟩ 1 1 (oV y) rfl rfl NC.out (uW y) ae bU ae ?_; intro B cap7 w7 hrow7 hor7; have R7:=hid hrow7; have OR7:=hid hor7; clear hrow7 hor7))
  generalize w5.alloc (bS y) = W6 at *
  have hBn : w.heap.size ≤ B ∧ B ≠ g4 ∧ aJ (fun k => k = B) W6 w7:=by
   exact jz
  have hRw:=S5.out.size
  go_roundw
  ·exact kO
  ·simp [intOf]; omega
 ) : P:=h
theorem Hr {P : Prop} (h : P:=by
  clear HL HI u2 hbk2 HX2 HB2 c2
  go_loopw [21] (fun i W => ∃ k : Nat,k ≤ cn ∧ i = .int .i64 k ∧ Lib.BuilderAt 96 5 w0.heap.size b (.pointer (some ⟨b,0,none⟩)) (Lib.byteCells (s ++ (L0 ++ (xs.take k).flatMap iW))) W ∧ Below w0.heap.size w0 W ∧ cN b w W) (fun i _ => cn - (intOf i).toNat)
  case atStart => exact ⟨0,Nat.zero_le _,rfl,by simpa using H3.out,B3.out,D3.out⟩
  case round =>
   obtain ⟨k,hk,rfl,hI,hb,hd⟩:=hrel;have HI:=hid hI;have HB:=hid hb;have HD:=hid hd;clear hI hb hd H3 B3 D3
   by_cases hlt : k < cn
   ·obtain ⟨y,hy⟩ : ∃ y,xs[k]? = some y:=⟨_,aN ae⟩
    obtain ⟨bb,off,rfl,hx⟩ : ∃ bb off,ca = some ⟨bb,off,none⟩ ∧ (w0.cell? ⟨bb,off + k * 3,none⟩ = some (.int .u8 y.1) ∧ w0.cell? ⟨bb,off + k * 3 + 1,none⟩ = some (.int .i64 y.2.1) ∧ w0.cell? ⟨bb,off + k * 3 + 2,none⟩ = some (.slice y.2.2.1.1 y.2.2.1.2.1 y.2.2.1.2.2)):=by
     rcases HX.out with h | ⟨bb,off,h,h'⟩
     ·omega
     ·exact ⟨bb,off,h,h' k y hy⟩
    have k0:=(HB.out.cell (block_lt_of_cell hx.1)).trans hx.1;have k1:=(HB.out.cell (block_lt_of_cell hx.2.1)).trans hx.2.1;have k2:=(HB.out.cell (block_lt_of_cell hx.2.2)).trans hx.2.2;have HY:=hid (HXS.out k y hy);have HT:=hid (cJ hy);have HFL:=ct iW xs k y hy;clear hx hy;have HIN : iW y = bj (fM (ofV y.1).1.2.2.1 (ofV y.1).1.2.1 y.2.1 y.2.2.2):=rfl
    have HG:=hid (fun (W' : World) (hW : Below wr.heap.size wr W') => EK w0.heap.size b (s ++ (L0 ++ (xs.take k).flatMap iW)) y.1 y.2.1 y.2.2.1.1 y.2.2.1.2.1 y.2.2.1.2.2 y.2.2.2 W' (cE (.inr HI.out) hW) (Nat.le_trans HB.out.size hW.size) (HTN.out.later (HB.out.trans (hW.mono HB.out.size))) (HK.out.later (HB.out.trans (hW.mono HB.out.size)) HK.out.pos) HY.out.1.1 HY.out.1.2 HY.out.2.1 (HY.out.2.2.later (HB.out.trans (hW.mono HB.out.size)) (Nat.le_refl _)) (by
     have h1:=HY.out.2.2.1;have h2:=HY.out.2.2.2.2.1;rw [← HIN]
     simp only [List.length_append] at hfl hlen ⊢
     omega))
    obtain ⟨yc,ya,⟨la,ln,lc⟩,ll⟩:=y;go_wp2_with fail;refine (HG.out _ (ak wr _)).mono ?_;rintro e w5 ⟨rfl,h5,hb5,hh5⟩;have H5:=hid h5;have B5:=hid ((HB.out.trans ((ak wr _).mono HB.out.size)).trans hb5);have D5:=hid (HD.out.trans ((cN.of_below (ak wr _)).trans hh5));clear h5 hb5 hh5 HG;go_wp2_with fail
    go_roundw
    case rel =>
     refine ⟨k + 1,ae,aq,?_,B5.out,D5.out⟩;have h:=H5.out;rw [HT.out,List.flatMap_append,List.flatMap_singleton,HIN]
     simpa only [List.append_assoc] using h
    case measure => show cn - ((k : Int) + 1).toNat < cn - (k : Int).toNat; omega
   ·obtain rfl : k = cn:=ae;have htk : xs.take k = xs:=List.take_of_length_le ae;rw [htk,← hL0] at HI;go_wp2_with fail;go_end0;exact ⟨rfl,HI.out,HB.out,HD.out⟩
 ) : P:=h
theorem GJ {P : Prop} (h : P:=by
  have HC:=hid hc;clear hc hf way M3;go_wp2_with fail
  refine wp_region_held_drew (S:=fun W => W = wd) aj HW.out (fun _ => ?_)
  rw [HW.out];have hwd : wd = wd:=rfl;refine tkD (i:=0) (d:=some 27) rfl ?_ gq;(try simp only [Act.put,sIB,sC0,sCs]);refine tkD (i:=1) (d:=some 28) rfl ?_ gq;(try simp only [Act.put,sIB,sC0,sCs]);refine tkD (i:=2) (d:=some 29) rfl ?_ gq;(try simp only [Act.put,sIB,sC0,sCs]);refine tkD (i:=3) (d:=some 30) rfl ?_ gq;(try simp only [Act.put,sIB,sC0,sCs]);refine tkD (i:=4) (d:=some 31) rfl ?_ gq;(try simp only [Act.put,sIB,sC0,sCs]);refine tkD (i:=5) (d:=some 32) rfl ?_ gq;(try simp only [Act.put,sIB,sC0,sCs]);refine tkD (i:=6) (d:=some 33) rfl ?_ gq;(try simp only [Act.put,sIB,sC0,sCs]);refine tkD (i:=7) (d:=some 34) rfl ?_ gq;(try simp only [Act.put,sIB,sC0,sCs]);refine tkD (i:=8) (d:=some 26) rfl ?_ gq;(try simp only [Act.put,sIB,sC0,sCs]);refine tkD (i:=9) (d:=some 35) rfl ?_ gq;(try simp only [Act.put,sIB,sC0,sCs]);refine tkD (i:=10) (d:=some 36) rfl ?_ gq;(try simp only [Act.put,sIB,sC0,sCs]);refine tkD (i:=11) (d:=some 5) rfl ?_ gq;(try simp only [Act.put,sIB,sC0,sCs]);refine tkD (i:=12) (d:=some 6) rfl ?_ gq;(try simp only [Act.put,sIB,sC0,sCs]);refine wpAnyH_done aj ?_ _;go_wp2_with fail;refine HC.out.mono ?_;clear HC;generalize fR pt (pl m) (aR s) = res at *;rintro e w5 ⟨hk,hm⟩
  cases res with
  | none =>
   have hm : e = thL (ln + 1):=hm;subst hm;exact ⟨rfl,HK.out.trans hk,rfl⟩
  | some y =>
   obtain ⟨rfl,m',hq,hp⟩:=hm;have HQ:=hid hq;have HP:=hid hp;have Hk:=hid hk;clear hq hp hk;go_wp2_with fail;go_end0;exact ⟨HK.out.trans Hk.out,rfl,m',HQ.out,HP.out⟩
 ) : P:=h
theorem GG {P : Prop} (h : P:=by
  have hx0 : wd.data.toList ++ kX (zs.drop 0) = L:=by rw [← hL]; simp
  have hW:=hW3;have bW:=bW3;go_wp2_with fail
  go_loopw [3,5] (fun p q wr => ∃ (i : Nat) (x : ByteArray),p = .string x ∧ q = .int .i64 i ∧ i ≤ n ∧ Below w3.heap.size w3 wr ∧ x.data.toList ++ kX (zs.drop i) = L ∧ x.size ≤ 200 + 30 * i) (fun p q wr => n - (intOf q).toNat)
  case atStart => exact ⟨0,wd,rfl,rfl,ae,Below.refl _ _,hx0,ae⟩
  case round =>
   obtain ⟨i,x,rfl,rfl,hi,hB,hx,hxs⟩:=hrel;have d2:=ag (i:=2) (ar hB bW);have HBw:=hid (hW.trans (hB.mono hW.size));have hwi : IntKind.i64.wrap ((i : Int) + 1) = i + 1:=IntWalk.i64_in _ ae
   by_cases hin : i = n
   ·exact Au
   ·have hlt : (i : Int) < n:=ae;have hi0 : (0 : Int) ≤ i:=ae;obtain ⟨b,off,had,hcc⟩:=(hs.2.2.2.2).resolve_left ae;subst had;have d3:=(ai (hW.trans (hB.mono hW.size)) (hcc i ae));have hz:=hs.2.2.2.1 (zs.getD i 0) Bt;have hnl : (bp (zs.getD i 0)).size ≤ 21:=D6
    have hst : (x ++ (⟨#[32]⟩ : ByteArray) ++ bp (zs.getD i 0)).data.toList ++ kX (zs.drop (i + 1)) = L:=by
     rw [← hx,GW (zs:=zs) (i:=i) ae]
     simp [bp]
    have HD:=hid (lj (zs.getD i 0) hz.1 hz.2 wr);generalize zs.getD i 0 = z at *;go_wp2_with fail;refine HD.out.mono ?_;rintro e w6 ⟨rfl,hb6⟩;have hB6:=hid (hB.trans (hb6.mono hB.size));clear hb6 HD d2 d3 hcc;go_wp2_with fail;refine ⟨⟨i + 1,_,rfl,aq,ae,hB6.out,hst,?_⟩,?_⟩
    ·exact AO
    ·simp [intOf]
     omega
 ) : P:=h
theorem Ik {P : Prop} (h : P:=by
  go_simp
  refine hK.out _ _ trivial (fun _ => ?_)
  clear hK K;refine ryQ (rs:=[6]) ?_
  refine rcQ (i:=6) rfl (fun K hK => ?_) rN
  go_simp;refine (HI1.out _ B1.out).mono ?_;rintro e w5 ⟨rfl,hb5⟩;have B5:=hid (B1.out.trans (hb5.mono B1.out.size));clear hb5
  refine hK.out _ _ trivial (fun _ => ?_)
  clear hK K;refine ryQ (rs:=[11]) ?_
  refine rcQ (i:=11) rfl (fun K hK => ?_) rN
  go_simp;refine (HI2.out _ B5.out).mono ?_;rintro e w6 ⟨rfl,hb6⟩;have B6:=hid (B5.out.trans (hb6.mono B5.out.size));clear hb6;have Q6:=hid (HQ0.out.later B6.out)
  refine hK.out _ _ trivial (fun _ => ?_)
  clear hK K;refine tkQ (i:=12) rfl ?_;(try simp only [Act.put,sIB,sC0,sCs]);refine tkQ (i:=13) rfl ?_;(try simp only [Act.put,sIB,sC0,sCs]);refine tkQ (i:=14) rfl ?_;(try simp only [Act.put,sIB,sC0,sCs]);refine ryQ (rs:=[15]) ?_
  refine rcQ (i:=15) rfl (fun K hK => ?_) rN
  have c16:=Q6.out.cells 4;have f16:=Q6.out.free 4;go_simp
  have Q7:=hid (RQ.set (m':={ m with fi:=a }) Q6.out 4 (.int .i64 a) rfl ⟨rfl,rfl,rfl,rfl⟩ ⟨rfl,rfl,rfl,rfl⟩ ⟨rfl,rfl,rfl,rfl⟩ ⟨rfl,rfl,rfl,rfl⟩ ⟨rfl,rfl,rfl,rfl⟩ ⟨rfl,rfl,rfl,rfl⟩ id)
  have K7:=hid ((KR.later B6.out).trans (KR.set base R 4 w6 (.int .i64 a)))
  refine hK.out _ _ trivial (fun _ => ?_)
  clear hK K;refine tkQ (i:=16) rfl ?_;(try simp only [Act.put,sIB,sC0,sCs]);refine tkQ (i:=17) rfl ?_;(try simp only [Act.put,sIB,sC0,sCs]);refine tkQ (i:=18) rfl ?_;(try simp only [Act.put,sIB,sC0,sCs]);refine ryQ (rs:=[19]) ?_
  refine rcQ (i:=19) rfl (fun K hK => ?_) rN
  generalize w6.setCell ⟨R,4,none⟩ (.int .i64 a) = w7 at *;have c17:=Q7.out.cells 5;have f17:=Q7.out.free 5;go_simp
  have Q8:=hid (RQ.set (m':={ m with fi:=a,mo:=b }) Q7.out 5 (.int .i64 b) rfl ⟨rfl,rfl,rfl,rfl⟩ ⟨rfl,rfl,rfl,rfl⟩ ⟨rfl,rfl,rfl,rfl⟩ ⟨rfl,rfl,rfl,rfl⟩ ⟨rfl,rfl,rfl,rfl⟩ ⟨rfl,rfl,rfl,rfl⟩ id)
  have K8:=hid (K7.out.trans (KR.set base R 5 w7 (.int .i64 b)))
  refine hK.out _ _ trivial (fun _ => ?_)
  clear hK K;refine wpAnyH_done aj ?_ _;go_end0;exact ⟨HK0.out.trans K8.out,rfl,_,Q8.out,sf⟩
 ) : P:=h
theorem EW {P : Prop} (h : P:=by
  go_simp
  refine hK.out _ _ trivial (fun _ => ?_)
  clear hK K;refine ryQ (rs:=[6]) ?_
  refine rcQ (i:=6) rfl (fun K hK => ?_) rN
  go_simp;have BN:=hid (BV.out.trans ((ak wv (aH op 0 (some ⟨G,0,none⟩) (n - 1) (n - 1))).mono BV.out.size))
  refine hK.out _ _ trivial (fun _ => ?_)
  clear hK K;refine ryQ (rs:=[7]) ?_
  refine rcQ (i:=7) rfl (fun K hK => ?_) rN
  refine wp_append_lies _ (.tmp 73) (.tmp 75) 76 rfl base 75 i0 (.agg #[.int .u8 0,.int .i64 0,.slice none 0 0]) 3 40 Tryz.underlying76 hi hz0 hz1 hz2 rfl av (.slice ca cn cc) cn (code.flatMap cM) rfl (HCO.out _ BN.out) ⟨wv.heap.size,0,none⟩ 1 1 (cM ((op,0,(some ⟨G,0,none⟩,(n - 1),(n - 1)),l) : InM)) rfl rfl ?n1 ?n2 av bU ae (Q9.out.later BN.out).bw _ rfl ?_
  case n1 =>
   exact BS
  case n2 => intro u hu; simp [cM] at hu; rcases hu with rfl | rfl | rfl <;> rfl
  intro g cap w6 ho6 hg6 hgb6 _;have PX:=hid (Q9.out.pushI BN.out HFN.out HFA.out ((op,0,(some ⟨G,0,none⟩,(n - 1),(n - 1)),l) : InM) YR.out ho6 hg6 hgb6);rw [HIK.out] at PX;have z6:=hid (HZC.out _ BN.out _ hg6);clear ho6 hg6 hgb6
  refine hK.out _ _ trivial (fun _ => ?_)
  clear hK K;refine tkD (i:=8) (d:=some 77) rfl ?_;(try simp only [Act.put,sIB,sC0,sCs]);refine tkD (i:=9) (d:=some 78) rfl ?_;(try simp only [Act.put,sIB,sC0,sCs]);refine ryQ (rs:=[10]) ?_
  refine rcQ (i:=10) rfl (fun K hK => ?_) rN
  have c16 : w6.cell? ⟨fb,k * 3 + 2,none⟩ = some (.slice ca cn cc):=z6.out.1;have f16 : w6.frozen? ⟨fb,k * 3 + 2,none⟩ = false:=z6.out.2;go_simp
  refine hK.out _ _ trivial (fun _ => ?_)
  clear hK K;refine wpAnyH_done aj ?_ _;go_end0;exact ⟨(HK0.out.trans (KR.later BX.out)).trans PX.out.2,rfl,_,PX.out.1,zk⟩
 ) : P:=h
theorem Hi {P : Prop} (h : P:=by
  go_simp
  refine hK.out _ _ trivial (fun _ => ?_)
  clear hK K;refine ryQ (rs:=[7]) ?_
  refine rcQ (i:=7) rfl (fun K hK => ?_) rN
  go_simp;have BN:=hid (B1.out.trans ((ak wd (aL v y none 0 0)).mono B1.out.size))
  refine hK.out _ _ trivial (fun _ => ?_)
  clear hK K;refine ryQ (rs:=[8]) ?_
  refine rcQ (i:=8) rfl (fun K hK => ?_) rN
  refine wp_append_lies _ (.tmp 32) (.tmp 34) 25 rfl base 78 i0 (.agg #[.int .i64 0,.string ⟨#[]⟩,.slice none 0 0]) 3 48 Tryz.underlying25 hi hz0 hz1 hz2 rfl av (.slice m.fa m.fn m.fc) m.fn (m.fns.flatMap cm) rfl (Q1.out.later BN.out).rf ⟨wd.heap.size,0,none⟩ 1 1 (cm ((v,y,(none,0,0),[]) : FuM)) rfl rfl ?n1 ?n2 av bU ae (Q1.out.later BN.out).bw _ rfl ?_
  case n1 =>
   exact Ad
  case n2 => intro u hu; simp [cm] at hu; rcases hu with rfl | rfl | rfl <;> rfl
  intro g cap w6 ho6 hg6 _ _;have PX:=hid ((Q1.out).pushF BN.out ((v,y,(none,0,0),[]) : FuM) av ⟨rfl,rfl⟩ ho6 hg6);have z6:=hid (gJ ((Q1.out.later BN.out).blk) (Q1.out).low ((Q1.out.later BN.out).rf) hg6);clear ho6 hg6
  refine hK.out _ _ trivial (fun _ => ?_)
  clear hK K;refine tkQ (i:=9) rfl ?_;(try simp only [Act.put,sIB,sC0,sCs]);refine tkQ (i:=10) rfl ?_;(try simp only [Act.put,sIB,sC0,sCs]);refine tkQ (i:=11) rfl ?_;(try simp only [Act.put,sIB,sC0,sCs]);refine ryQ (rs:=[12]) ?_
  refine rcQ (i:=12) rfl (fun K hK => ?_) rN
  have c16 : w6.cell? ⟨R,6,none⟩ = some (.slice m.fa m.fn m.fc):=ag z6.out;have f16 : w6.frozen? ⟨R,6,none⟩ = false:=aU z6.out;go_simp
  refine hK.out _ _ trivial (fun _ => ?_)
  clear hK K;refine wpAnyH_done aj ?_ _;go_end0;exact ⟨(HK0.out.trans KX.out).trans PX.out.2,rfl,_,PX.out.1,Ag⟩
 ) : P:=h
theorem Ho {P : Prop} (h : P:=by
  go_simp
  refine hK.out _ _ trivial (fun _ => ?_)
  clear hK K;refine ryQ (rs:=[6]) ?_
  refine rcQ (i:=6) rfl (fun K hK => ?_) rN
  go_simp;have BN:=hid (BV.out.trans ((ak wv (aH op 0 none 0 0)).mono BV.out.size))
  refine hK.out _ _ trivial (fun _ => ?_)
  clear hK K;refine ryQ (rs:=[7]) ?_
  refine rcQ (i:=7) rfl (fun K hK => ?_) rN
  refine wp_append_lies _ (.tmp 73) (.tmp 75) 76 rfl base 75 i0 (.agg #[.int .u8 0,.int .i64 0,.slice none 0 0]) 3 40 Tryz.underlying76 hi hz0 hz1 hz2 rfl av (.slice ca cn cc) cn (code.flatMap cM) rfl (HCO.out _ BN.out) ⟨wv.heap.size,0,none⟩ 1 1 (cM ((op,0,(none,0,0),[]) : InM)) rfl rfl ?n1 ?n2 av bU ae (Q9.out.later BN.out).bw _ rfl ?_
  case n1 =>
   exact BS
  case n2 => intro u hu; simp [cM] at hu; rcases hu with rfl | rfl | rfl <;> rfl
  intro g cap w6 ho6 hg6 hgb6 _;have PX:=hid (Q9.out.pushI BN.out HFN.out HFA.out ((op,0,(none,0,0),[]) : InM) YR.out ho6 hg6 hgb6);rw [HIK.out] at PX;have z6:=hid (HZC.out _ BN.out _ hg6);clear ho6 hg6 hgb6
  refine hK.out _ _ trivial (fun _ => ?_)
  clear hK K;refine tkD (i:=8) (d:=some 77) rfl ?_;(try simp only [Act.put,sIB,sC0,sCs]);refine tkD (i:=9) (d:=some 78) rfl ?_;(try simp only [Act.put,sIB,sC0,sCs]);refine ryQ (rs:=[10]) ?_
  refine rcQ (i:=10) rfl (fun K hK => ?_) rN
  have c16 : w6.cell? ⟨fb,k * 3 + 2,none⟩ = some (.slice ca cn cc):=z6.out.1;have f16 : w6.frozen? ⟨fb,k * 3 + 2,none⟩ = false:=z6.out.2;go_simp
  refine hK.out _ _ trivial (fun _ => ?_)
  clear hK K;refine wpAnyH_done aj ?_ _;go_end0;exact ⟨(HK0.out.trans (KR.later BX.out)).trans PX.out.2,rfl,_,PX.out.1,zk⟩
 ) : P:=h
theorem Gv {P : Prop} (h : P:=by
  go_simp
  refine hK.out _ _ trivial (fun _ => ?_)
  clear hK K;refine ryQ (rs:=[7]) ?_
  refine rcQ (i:=7) rfl (fun K hK => ?_) rN
  go_simp;have BN:=hid (B1.out.trans ((ak wd (aS rp rr)).mono B1.out.size))
  refine hK.out _ _ trivial (fun _ => ?_)
  clear hK K;refine ryQ (rs:=[8]) ?_
  refine rcQ (i:=8) rfl (fun K hK => ?_) rN
  refine wp_append_lies _ (.tmp 24) (.tmp 26) 22 rfl base 73 i0 (.agg #[.string ⟨#[]⟩,.string ⟨#[]⟩]) 2 32 Tryz.underlying22 hi hz0 hz1 hz2 rfl av (.slice m.ta m.tn m.tc) m.tn (m.types.flatMap dP) rfl (Q1.out.later BN.out).rt ⟨wd.heap.size,0,none⟩ 1 1 (dP (rp,rr)) rfl rfl ?n1 ?n2 av bU ae (Q1.out.later BN.out).bw _ rfl ?_
  case n1 =>
   exact Cj
  case n2 => intro u hu; simp [dP] at hu; rcases hu with rfl | rfl <;> rfl
  intro g cap w6 ho6 hg6 _ _;have PX:=hid ((Q1.out).pushT BN.out (rp,rr) ho6 hg6);have z6:=hid (gJ ((Q1.out.later BN.out).blk) (Q1.out).low ((Q1.out.later BN.out).rt) hg6);clear ho6 hg6
  refine hK.out _ _ trivial (fun _ => ?_)
  clear hK K;refine tkQ (i:=9) rfl ?_;(try simp only [Act.put,sIB,sC0,sCs]);refine tkQ (i:=10) rfl ?_;(try simp only [Act.put,sIB,sC0,sCs]);refine tkQ (i:=11) rfl ?_;(try simp only [Act.put,sIB,sC0,sCs]);refine ryQ (rs:=[12]) ?_
  refine rcQ (i:=12) rfl (fun K hK => ?_) rN
  have c16 : w6.cell? ⟨R,1,none⟩ = some (.slice m.ta m.tn m.tc):=ag z6.out;have f16 : w6.frozen? ⟨R,1,none⟩ = false:=aU z6.out;go_simp
  refine hK.out _ _ trivial (fun _ => ?_)
  clear hK K;refine wpAnyH_done aj ?_ _;go_end0;exact ⟨(HK0.out.trans (KR.later B4.out)).trans PX.out.2,rfl,_,PX.out.1,sf⟩
 ) : P:=h
theorem Hp {P : Prop} (h : P:=by
  have HV:=hid (HI.out ha1 ha2);clear HI HF
  by_cases hz : ln = 0
  ·have hz' : ((ln : Int) != 0) = false:=by simp [hz]
   have HZ:=hid hz;clear hz
   go_enter Tryz.func242,Tryz.ntmps242
   go_wp2_with fail;refine HO.out.mono ?_;rintro e w1 ⟨rfl,hb1⟩;have x1 : w1.cell? ⟨w.heap.size,1,none⟩ = some (.int .i64 a):=aY;have x2 : w1.cell? ⟨w.heap.size,2,none⟩ = some (.slice la ln lc):=aY;have hx:=block_lt_of_cell x1
   simp only at hx
   have B1:=hid (hb0.trans (hb1.mono aq));have B2:=hid (B1.out.alloc eN (fZ rc wd 8 pp ps pl));clear hb1;go_wp2_with fail;go_ret
   exact ⟨by rw [HV.out,if_pos HZ.out]; rfl,B2.out⟩
  ·have hz' : ((ln : Int) != 0) = true:=aG
   go_enter Tryz.func242,Tryz.ntmps242
   go_wp2_with fail;refine HO.out.mono ?_;rintro e w1 ⟨rfl,hb1⟩;have x1 : w1.cell? ⟨w.heap.size,1,none⟩ = some (.int .i64 a):=aY;have x2 : w1.cell? ⟨w.heap.size,2,none⟩ = some (.slice la ln lc):=aY;have hx:=block_lt_of_cell x1
   simp only at hx
   have B1:=hid (hb0.trans (hb1.mono aq));have B2:=hid (B1.out.alloc eN (fZ rc wd 8 pp ps pl));clear hb1;go_wp2_with fail;go_ret
   exact ⟨by rw [HV.out,if_neg hz]; rfl,B2.out⟩
 ) : P:=h
theorem Et {P : Prop} (h : P:=by
  by_cases k1 : (p'.toList == p.toList) = true
  ·have k2 : (r'.toList == s.toList) = false:=by rw [k1] at hne; simpa using hne
   clear hne
   go_region_held3 (fun W => W.cell? ⟨wr.heap.size,0,none⟩ = some (.string p') ∧ W.cell? ⟨wr.heap.size,1,none⟩ = some (.string r') ∧ W.cell? ⟨B,0,none⟩ = some (.string p) ∧ W.cell? ⟨C,0,none⟩ = some (.int .i64 beg))
    (first | assumption | exact ⟨z0,z1,z2,z3⟩)
    (first
     | (go_at_call 84; refine (cA rfl).mono ?_; rintro e w' ⟨rfl,rfl⟩))
   go_wp2_with fail
   go_roundw
   ·exact BA
   ·simp [intOf]; omega
  ·have k1' : (p'.toList == p.toList) = false:=by simpa using k1
   clear hne k1
   go_region_held3 (fun W => W.cell? ⟨wr.heap.size,0,none⟩ = some (.string p') ∧ W.cell? ⟨wr.heap.size,1,none⟩ = some (.string r') ∧ W.cell? ⟨B,0,none⟩ = some (.string p) ∧ W.cell? ⟨C,0,none⟩ = some (.int .i64 beg))
    (first | assumption | exact ⟨z0,z1,z2,z3⟩)
    (first
     | (go_at_call 84; refine (cA rfl).mono ?_; rintro e w' ⟨rfl,rfl⟩))
   go_wp2_with fail
   go_roundw
   ·exact BA
   ·simp [intOf]; omega
 ) : P:=h
theorem Ha {P : Prop} (h : P:=by
  go_wp2_with fail
  go_loopw [5] (fun p wr => ∃ t : Nat,t ≤ n ∧ p = .int .i64 t ∧ Hid (Below w.heap.size w wr)) (fun p _ => n - (intOf p).toNat)
  case atStart => exact ⟨0,ae,rfl,hid (Below.refl _ _)⟩
  case round =>
   obtain ⟨t,ht,rfl,HB⟩:=hrel
   by_cases hlt : t < n
   ·have hlt' : (t : Int) < (n : Int):=ae;obtain ⟨x,hx⟩ : ∃ x,l[t]? = some x:=⟨_,aN ae⟩;obtain ⟨b1,o1,rfl,hat1⟩:=H1.out.2.resolve_left ae;obtain ⟨b2,o2,rfl,hat2⟩:=H2.out.2.resolve_left ae;obtain ⟨e10,e11⟩:=hat1 t x hx;have e10:=ai HB.out e10;have e11:=ai HB.out e11;obtain ⟨e20,e21⟩:=hat2 t x hx;have e20:=ai HB.out e20;have e21:=ai HB.out e21;clear hat1 hat2 hx
    have HBD:=hid (fun (n : Nat) => (show Below w.heap.size w (wr.drewN n) from bT HB.out (aJ.drewN (fun _ => False) _ n) HB.out.size (fun _ x => x.elim)))
    obtain ⟨x0,x1⟩:=x;exact uA
   ·have hlt' : ¬ (t : Int) < (n : Int):=ae;go_wp2_with fail;go_ret;exact ⟨rfl,HB.out⟩
 ) : P:=h
theorem Ib {P : Prop} (h : P:=by
  go_wp2_with fail
  go_loopw [5] (fun p wr => ∃ t : Nat,t ≤ n ∧ p = .int .i64 t ∧ Hid (Below w.heap.size w wr)) (fun p _ => n - (intOf p).toNat)
  case atStart => exact ⟨0,ae,rfl,hid (Below.refl _ _)⟩
  case round =>
   obtain ⟨t,ht,rfl,HB⟩:=hrel
   by_cases hlt : t < n
   ·have hlt' : (t : Int) < (n : Int):=ae;obtain ⟨x,hx⟩ : ∃ x,l[t]? = some x:=⟨_,aN ae⟩;obtain ⟨b1,o1,rfl,hat1⟩:=H1.out.2.resolve_left ae;obtain ⟨b2,o2,rfl,hat2⟩:=H2.out.2.resolve_left ae;have e10:=hat1 t x hx;have e10:=ai HB.out e10;have e20:=hat2 t x hx;have e20:=ai HB.out e20;clear hat1 hat2 hx
    have HBD:=hid (fun (n : Nat) => (show Below w.heap.size w (wr.drewN n) from bT HB.out (aJ.drewN (fun _ => False) _ n) HB.out.size (fun _ x => x.elim)))
    have hxx : (x != x) = false:=aq;exact uA
   ·have hlt' : ¬ (t : Int) < (n : Int):=ae;go_wp2_with fail;go_ret;exact ⟨rfl,HB.out⟩
 ) : P:=h
theorem Fs {P : Prop} (h : P:=by
  have hu0 : (0 : Int) < u:=ae
  have hseg : Seg (wr.alloc (bY (48 + (u : Int) % 10))) (some ⟨wr.heap.size,0,none⟩) 1 1 [48 + (u : Int) % 10]:=by
   refine ⟨rfl,ae,ae,fun z hz => ?_,.inr ⟨wr.heap.size,0,rfl,fun j hj => ?_⟩⟩
   ·simp at hz; omega
   ·obtain rfl : j = 0:=ae
    simp [go_sem]
  have hs1 : (strOfNums [48 + (u : Int) % 10]).size = 1:=rfl
  have hsx : x.size ≤ 100:=by
   exact AP
  have hcv:=j3 _ _ _ _ _ hseg;have hB2:=hB.alloc (o:=.cells #[.int .u8 (48 + (u : Int) % 10)] 5) hB.size
  have hst : oQ (u / 10) ++ (strOfNums [48 + (u : Int) % 10] ++ x).data.toList = L:=by
   rw [← hx,CK u ae,List.append_assoc]
   congr 1
  go_wp2_with fail;refine ⟨⟨u / 10,_,aq,rfl,ae,hB2,hst⟩,?_⟩
  simp [intOf]
  omega
 ) : P:=h
theorem Ee {P : Prop} (h : P:=by
  rw [HIK.out] at PX;have z6:=hid (HZC.out _ BN.out _ hg6);clear ho6 hg6 hgb6
  refine hK.out _ _ trivial (fun _ => ?_)
  clear hK K;refine tkD (i:=8) (d:=some 77) rfl ?_;(try simp only [Act.put,sIB,sC0,sCs]);refine tkD (i:=9) (d:=some 78) rfl ?_;(try simp only [Act.put,sIB,sC0,sCs]);refine ryQ (rs:=[10]) ?_
  refine rcQ (i:=10) rfl (fun K hK => ?_) rN
  have c16 : w6.cell? ⟨fb,k * 3 + 2,none⟩ = some (.slice ca cn cc):=z6.out.1;have f16 : w6.frozen? ⟨fb,k * 3 + 2,none⟩ = false:=z6.out.2;go_simp
  refine hK.out _ _ trivial (fun _ => ?_)
  clear hK K;refine wpAnyH_done aj ?_ _;go_end0;exact ⟨(HK0.out.trans (KR.later BX.out)).trans PX.out.2,rfl,_,PX.out.1,zk⟩
 ) : P:=h
theorem FL {P : Prop} (h : P:=by
  obtain ⟨d1,_⟩:=hk3 _ aq _ c1;obtain ⟨d2,e2⟩:=hk3 _ aq _ c2;obtain ⟨d3,_⟩:=hk3 _ aq _ c3;rw [f2] at e2;have k5 : (k : Int) + 1 ≤ s.size:=ae
  gi_wp2_with fail
  go_roundw
  case rel =>
   refine ⟨s.extract (k + 1) s.size,?_,?_,?_,?_,hJ _ _ _ hJ3,?_⟩
   ·rw [World.cell?_setCell_other _ _ _ _ aq]; exact d1
   ·exact World.cell?_setCell_same' _ _ _ (by rw [d2]; rfl)
   ·rw [World.frozen?_setCell]; exact e2
   ·rw [World.cell?_setCell_other _ _ _ _ aq]; exact d3
   ·simp; omega
  case measure =>
   rw [show qB w' ⟨b2,0,none⟩ = s by simp [qB,c2]]
   rw [qB,World.cell?_setCell_same' _ _ _ (by rw [d2]; rfl)]
   simp
   omega
 ) : P:=h
theorem D8 {P : Prop} (h : P:=by
  go_wp2_with fail;refine (dm R _ _ _ w c0).mono ?_;rintro e w1 ⟨rfl,rfl⟩;go_wp2_with fail;refine hask.mono ?_;rintro e w2 ⟨rfl,b2⟩;have B2:=hid b2;clear b2 hask hK c0;go_wp2_with fail;refine (HU.out _).mono ?_;rintro e w3 ⟨B,rfl,s3,b3⟩;have B3:=hid (B2.out.trans (b3.mono B2.out.size));have S3:=hid s3;clear s3 b3 HU;go_wp2_with fail;refine (tQ R g cap bs _ _ _ _ w3 (HW.out.later B3.out) S3.out ae ae).mono ?_;rintro e w4 ⟨rfl,g',cap',hw4,hs4⟩;have W4:=hid hw4;have S4:=hid ((Stp.of_below B3.out).trans hs4);clear hw4 hs4;go_wp2_with fail;go_ret;exact ⟨rfl,g',cap',W4.out,S4.out⟩
 ) : P:=h
theorem EL {P : Prop} (h : P:=by
  have HV:=hid (HF.out (.inl ha1))
  go_enter Tryz.func242,Tryz.ntmps242
  go_wp2_with fail;refine HO.out.mono ?_;rintro e w1 ⟨rfl,hb1⟩;have x1 : w1.cell? ⟨w.heap.size,1,none⟩ = some (.int .i64 a):=aY;have x2 : w1.cell? ⟨w.heap.size,2,none⟩ = some (.slice la ln lc):=aY;have hx:=block_lt_of_cell x1
  simp only at hx
  have B1:=hid (hb0.trans (hb1.mono aq));have B2:=hid (B1.out.alloc eN (fZ rc wd 8 pp ps pl));clear hb1;go_wp2_with fail;go_ret;exact ⟨cO,B2.out⟩
 ) : P:=h
theorem E0 {P : Prop} (h : P:=by
  have HV:=hid (HF.out (.inr ha2))
  go_enter Tryz.func242,Tryz.ntmps242
  go_wp2_with fail;refine HO.out.mono ?_;rintro e w1 ⟨rfl,hb1⟩;have x1 : w1.cell? ⟨w.heap.size,1,none⟩ = some (.int .i64 a):=aY;have x2 : w1.cell? ⟨w.heap.size,2,none⟩ = some (.slice la ln lc):=aY;have hx:=block_lt_of_cell x1
  simp only at hx
  have B1:=hid (hb0.trans (hb1.mono aq));have B2:=hid (B1.out.alloc eN (fZ rc wd 8 pp ps pl));clear hb1;go_wp2_with fail;go_ret;exact ⟨cO,B2.out⟩
 ) : P:=h
theorem G9 {P : Prop} (h : P:=by
  go_enter Tryz.func242,Tryz.ntmps242
  go_wp2_with fail;refine HO.out.mono ?_;rintro e w1 ⟨rfl,hb1⟩;have x1 : w1.cell? ⟨w.heap.size,1,none⟩ = some (.int .i64 0):=aY;have x2 : w1.cell? ⟨w.heap.size,2,none⟩ = some (.slice la ln lc):=aY;have hx:=block_lt_of_cell x1
  simp only at hx
  have B1:=hid (hb0.trans (hb1.mono aq));have B2:=hid (B1.out.alloc eN (fZ rc wd 3 pp ps pl));clear hb1;go_wp2_with fail;go_ret
  exact ⟨by rw [HV2.out]; rfl,B2.out⟩
 ) : P:=h
theorem IE {P : Prop} (h : P:=by
  go_enter Tryz.func242,Tryz.ntmps242
  go_wp2_with fail;refine HO.out.mono ?_;rintro e w1 ⟨rfl,hb1⟩;have x1 : w1.cell? ⟨w.heap.size,1,none⟩ = some (.int .i64 a):=aY;have x2 : w1.cell? ⟨w.heap.size,2,none⟩ = some (.slice la ln lc):=aY;have hx:=block_lt_of_cell x1
  simp only at hx
  have B1:=hid (hb0.trans (hb1.mono aq));have B2:=hid (B1.out.alloc eN (fZ rc wd 0 pp ps pl));clear hb1;go_wp2_with fail;go_ret;exact ⟨cO,B2.out⟩
 ) : P:=h
theorem Hd {P : Prop} (h : P:=by
  go_enter Tryz.func242,Tryz.ntmps242
  go_wp2_with fail;refine HO.out.mono ?_;rintro e w1 ⟨rfl,hb1⟩;have x1 : w1.cell? ⟨w.heap.size,1,none⟩ = some (.int .i64 a):=aY;have x2 : w1.cell? ⟨w.heap.size,2,none⟩ = some (.slice la ln lc):=aY;have hx:=block_lt_of_cell x1
  simp only at hx
  have B1:=hid (hb0.trans (hb1.mono aq));have B2:=hid (B1.out.alloc eN (fZ rc wd 9 pp ps pl));clear hb1;go_wp2_with fail;go_ret;exact ⟨cO,B2.out⟩
 ) : P:=h
theorem ID {P : Prop} (h : P:=by
  go_enter Tryz.func242,Tryz.ntmps242
  go_wp2_with fail;refine HO.out.mono ?_;rintro e w1 ⟨rfl,hb1⟩;have x1 : w1.cell? ⟨w.heap.size,1,none⟩ = some (.int .i64 a):=aY;have x2 : w1.cell? ⟨w.heap.size,2,none⟩ = some (.slice la ln lc):=aY;have hx:=block_lt_of_cell x1
  simp only at hx
  have B1:=hid (hb0.trans (hb1.mono aq));have B2:=hid (B1.out.alloc eN (fZ rc wd t pp ps pl));clear hb1;go_wp2_with fail;go_ret;exact ⟨cO,B2.out⟩
 ) : P:=h
theorem FA {P : Prop} (h : P:=by
  go_enter Tryz.func242,Tryz.ntmps242
  go_wp2_with fail;refine HO.out.mono ?_;rintro e w1 ⟨rfl,hb1⟩;have x1 : w1.cell? ⟨w.heap.size,1,none⟩ = some (.int .i64 a):=aY;have x2 : w1.cell? ⟨w.heap.size,2,none⟩ = some (.slice la ln lc):=aY;have hx:=block_lt_of_cell x1
  simp only at hx
  have B1:=hid (hb0.trans (hb1.mono aq));have B2:=hid (B1.out.alloc eN (fZ rc wd 3 pp ps pl));clear hb1;go_wp2_with fail;go_ret;exact ⟨cO,B2.out⟩
 ) : P:=h
theorem Hb {P : Prop} (h : P:=by
  cases st with
  | none => exact ⟨h.1,Nat.le_trans h.2 (Nat.min_le_right _ _)⟩
  | some a =>
   have ha:=hs a rfl
   refine ⟨fun x hx => ?_,?_⟩
   ·simp only [Lib.closeSpans,List.mem_append,List.mem_singleton] at hx
    rcases hx with hx | rfl
    ·exact h.1 x hx
    ·exact ⟨ha.2,Nat.le_refl _⟩
   ·have:=h.2
    simp only [Lib.closeSpans,List.map_append,List.sum_append,List.map_cons,List.map_nil,List.sum_cons,List.sum_nil,Option.getD_some] at this ⊢
    omega
 ) : P:=h
theorem Hz {P : Prop} (h : P:=by
  induction r with
  | nil => rfl
  | cons x r ih =>
   have : Lib.joinTail [32] ((x :: r).map (·.data.toList)) = ([32] ++ x.data.toList) ++ Lib.joinTail [32] (r.map (·.data.toList)):=rfl
   rw [this,List.length_append,ih,List.length_append,List.map_cons,List.sum_cons,List.length_cons];have e : x.data.toList.length = x.size:=Array.length_toList;rw [e]
   simp only [List.length_cons,List.length_nil]
   omega
 ) : P:=h
theorem Gs {P : Prop} (h : P:=by
  go_wp2_with fail;refine bodyPost_ret (v:=.agg #[.int .u8 c,.int .i64 a,.slice la ln lc]) ?_ rfl ⟨rfl,g',cap',?_,?_⟩
  ·rw [lu rfl];go_simp
  ·exact ((W5.out.set (b:=w.heap.size + 1) ae n1).set (b:=w.heap.size + 1) ae n1).set (b:=w.heap.size + 1) ae n1
  ·exact ((S5.out.set ae).set ae).set ae
 ) : P:=h
theorem GX {P : Prop} (h : P:=by
  have g1:=World.grownBy_alloc w (.deferred (some [])) none;have g2:=World.grownBy_alloc (w.alloc (.deferred (some []))) (.loop (record .ready none)) none
  have e1:=cell_kept hv g1 (fun r e => dY)
  exact ⟨cell_kept e1 g2 (fun r e => dY),(frozen_kept e1 g2 (fun r e => dY)).trans (frozen_kept hv g1 (fun r e => dY))⟩
 ) : P:=h
theorem Ev {P : Prop} (h : P:=by
  have S3:=hid s3;clear s3 b3 HU;go_wp2_with fail;refine (tQ R g cap bs _ _ _ _ w3 (HW.out.later B3.out) S3.out ae ae).mono ?_;rintro e w4 ⟨rfl,g',cap',hw4,hs4⟩;have W4:=hid hw4;have S4:=hid ((Stp.of_below B3.out).trans hs4);clear hw4 hs4;go_wp2_with fail;go_ret;exact ⟨rfl,g',cap',W4.out,S4.out⟩
 ) : P:=h
theorem yJ {P : Prop} (h : P:=by
  obtain ⟨hz,h1,h2,h3,ha⟩:=h;refine ⟨hz,h1,h2,h3,?_⟩
  rcases ha with ha | ⟨b,off,e,hc⟩
  ·exact .inl ha
  ·refine .inr ⟨b,off,e,fun j hj => ?_⟩
   have:=hc j hj
   have hlt : b < w.heap.size:=block_lt_of_cell this
   exact (hb.cell (p:=⟨b,off + j,none⟩) (by exact Nat.lt_of_lt_of_le hlt hB)).trans this
 ) : P:=h
theorem Fa {P : Prop} (h : P:=by
  clear ht h h1 he hv
  go_enter Tryz.func171,Tryz.ntmps171
  go_wp2_with fail;refine HP.out.mono ?_;rintro e w1 ⟨N,rfl,_,_,hb1⟩;have B1:=hid hb1;clear hb1;go_wp2_with fail;refine (HM.out _ B1.out).mono ?_;rintro e w3 ⟨rfl,hw⟩;have hw2:=hw.symm;subst hw2;exact ⟨rfl,rfl,B1.out⟩
 ) : P:=h
theorem zx {P : Prop} (h : P:=by
  go_wp2
  (try simp only [Exit.inBlock,Exit.then])
  refine bodyPost_ret (v:=.tuple #[.agg #[.string ⟨#[]⟩,.string ⟨#[]⟩],.int .i64 15]) ?_ rfl ⟨by simp [rdP,rdR,rdE,hz],?_⟩
  ·rw [results_cell_tmp rfl];go_simp
  ·exact (HB.out.setCell aq _).setCell aq _
 ) : P:=h
theorem Gc {P : Prop} (h : P:=by
  rintro e w6 ⟨rfl,hb⟩;have HB6:=hid (HB5.out.trans (hb.mono HB5.out.size));have HBX:=hid (HBX.out.trans (hb.mono HBX.out.size));obtain ⟨m0,m1,m2,m3,m4,m5,m6,m7,k0,k1,k2,k3,k4,k5,k6,k7⟩:=HX.out _ HBX.out;clear hb;go_wp2_with fail;go_ret;exact ⟨rfl,HB6.out⟩
 ) : P:=h
theorem ET {P : Prop} (h : P:=by
  have hm : ((ft,flo,(ca,cn,cc),code) : FuM) ∈ m.fns:=by rw [hfns]; simp
  have e1:=fT (g:=cM) (fun _ => rfl) av (q1.fo _ hm).code
  have e2 : code.length ≤ psz (pl m):=by unfold psz pl; dsimp only; rw [hfns]; simp [plF]; omega
  dsimp only at e1;omega
 ) : P:=h
theorem Fu {P : Prop} (h : P:=by
  clear HF HW hkk HYL hls hmt P0 P1 P2
  go_wp2_with (first | (go_at_call 89; refine (mi t _ ae ae).mono ?_; rintro e w' ⟨rfl,hw'⟩; have hw2:=hw'.symm; subst hw2))
  exact ⟨⟨t + 1,ys,ae,bB,HN1,HN,HN2⟩,bD⟩
 ) : P:=h
theorem Fq {P : Prop} (h : P:=by
  exact ⟨⟨t + 1,ae,bB,hid (by rw [HFS.out,← List.append_assoc,HR.out]; rw [HEN.out]; simpa only [List.append_assoc,List.cons_append,List.nil_append,if_true,if_false,Bool.false_eq_true,reduceIte] using HBy.out),HB⟩,bD⟩
 ) : P:=h
theorem Fw {P : Prop} (h : P:=by
  have HV:=hid (HV13.out h13)
  have d3 : decide (m.fi * 4096 - pl < (bl.length : Int)) = true:=by simpa using h13
  go_wp2_with fail
  go_quiet (fail)
  go_wp2_with fail;go_ret;exact ⟨cO,HB0.out.trans ((HBD.out _).mono HB0.out.size)⟩
 ) : P:=h
theorem GC {P : Prop} (h : P:=by
  have HV:=hid (HV17.out h13 h17)
  have d4 : ((bl.length : Int) == 0) = true:=by simp [h17]
  clear h17;go_wp2_with fail
  go_quiet (fail)
  go_wp2_with fail;go_ret;exact ⟨cO,HB0.out.trans ((HBD.out _).mono HB0.out.size)⟩
 ) : P:=h
theorem Fk {P : Prop} (h : P:=by
  go_wp2_with fail;refine (HNM.out _).mono ?_;rintro e w1 ⟨rfl,hw⟩;have hw2:=hw.symm;subst hw2;go_wp2_with fail
  go_quiet (fail)
  go_wp2_with fail;go_ret;exact ⟨cO,HB0.out.trans ((HBD.out _).mono HB0.out.size)⟩
 ) : P:=h
theorem G8 {P : Prop} (h : P:=by
  go_wp2_with fail;refine HO.out.mono ?_;rintro e w1 ⟨rfl,hw1⟩;have hw2:=hw1.symm;subst hw2;go_wp2_with fail;refine HM.out.mono ?_;rintro e w2 ⟨rfl,hw1⟩;have hw2:=hw1.symm;subst hw2;exact ⟨rfl,KR.set base R 10 w _,rfl⟩
 ) : P:=h
theorem Gn {P : Prop} (h : P:=by
  go_enter Tryz.func314,Tryz.ntmps314
  go_wp2;refine bodyPost_ret (v:=.agg #[.int .i64 0,.int .i64 0]) ui rfl ⟨rfl,?_⟩;exact ((Below.refl _ _).alloc (Nat.le_refl _) _).alloc aq _
 ) : P:=h
theorem xQ {P : Prop} (h : P:=by
  clear hR hy;go_wp2_with fail;refine H1.out.mono ?_;rintro e w5 ⟨rfl,hb5⟩;have HB5:=hid (HB.out.trans (hb5.mono HB.out.size));clear hb5;go_wp2_with fail;exact ⟨⟨t + 1,ae,bB,HB5⟩,bD⟩
 ) : P:=h
theorem Ep {P : Prop} (h : P:=by
  refine rdY (rs:=[7]) ?_
  refine AllReadyH.cons rfl (fun K hK => ?_) rN
  go_simp;refine (HSG.out _ hB5.out).mono ?_;rintro e w6 ⟨⟨q,rfl⟩,hk6⟩;exact ⟨rfl,⟨q,rfl⟩,(S4'.out.trans (Stp.of_below hB5.out)).throw hk6⟩
 ) : P:=h
theorem Gq {P : Prop} (h : P:=by
  go_wp2_with fail;refine HN.out.mono ?_;rintro e w1 ⟨rfl,g',cap',hw1,hs1⟩;have W1:=hid hw1;have S1:=hid ((Stp.of_below B1.out).trans hs1);clear hw1 hs1 hm hc;go_wp2_with fail;go_ret;exact ⟨rfl,g',cap',W1.out,S1.out⟩
 ) : P:=h
theorem E9 {P : Prop} (h : P:=by
  go_wp2_with (first | (go_at_call 89; refine (mi t _ ae ae).mono ?_; rintro e w' ⟨rfl,hw'⟩; have hw2:=hw'.symm; subst hw2))
  exact ⟨⟨t + 1,ae,bB,HN⟩,bD⟩
 ) : P:=h
theorem Hf {P : Prop} (h : P:=by
  intro j u hj
  match j,hj with
  | 0,hj => simp [cM] at hj; subst hj; simp [Addr.add,go_sem]
  | 1,hj => simp [cM] at hj; subst hj; simp [Addr.add,go_sem]
  | 2,hj => simp [cM] at hj; subst hj; simp [Addr.add,go_sem]
 ) : P:=h
theorem Hy {P : Prop} (h : P:=by
  refine ⟨h.1,h.2.imp id ?_⟩;rintro ⟨b,off,ha,hc⟩
  refine ⟨b,off,ha,fun j x hj => ?_⟩
  have:=hc j x hj
  exact ⟨hk.cell this.1 (hS _ _ _ ha),hk.cell this.2.1 (hS _ _ _ ha),hk.cell this.2.2 (hS _ _ _ ha)⟩
 ) : P:=h
theorem nI {P : Prop} (h : P:=by
  obtain rfl : j = n:=ae;have hxs : xs.take j = xs:=List.take_of_length_le ae;go_wp2_with fail;go_ret;refine ⟨aa,ac,ys,rfl,hyl,HY.out,HRW.out,g3,cap3,HAB.out,?_,HST.out⟩;rw [← hxs];exact HWR.out
 ) : P:=h
theorem GK {P : Prop} (h : P:=by
  have h' : (most : Int) < s.size:=ae
  go_enter Tryz.func162,Tryz.ntmps162
  go_wp2;go_ret
  have hb : false = bP s most:=pj ⟨fun h => (nomatch h),fun h => ae⟩
  exact ⟨by rw [← hb]; rfl,rfl⟩
 ) : P:=h
theorem Eh {P : Prop} (h : P:=by
  go_wp2_with fail;go_ret;refine ⟨?_,HB.out⟩
  have hf : zs.all (fun b => decide (33 ≤ b) && decide (b ≤ 126)) = false:=by
   rw [List.all_eq_false];exact ⟨b,HMEM.out,aG⟩
  rw [HNM.out,hf];rfl
 ) : P:=h
theorem IC {P : Prop} (h : P:=by
  go_enter Tryz.func215,Tryz.ntmps215
  go_wp2_with fail;refine HE.out.mono ?_;rintro e w1 ⟨rfl,hk⟩;have HB1:=hid (HB.out.trans (hk.mono HB.out.size));clear hk;go_wp2_with fail;go_ret;exact ⟨rfl,HB1.out⟩
 ) : P:=h
theorem Er {P : Prop} (h : P:=by
  go_enter Tryz.func105,Tryz.ntmps105
  go_wp2_with fail;refine HE.out.mono ?_;rintro e w1 ⟨rfl,hk⟩;have HB1:=hid (HB.out.trans (hk.mono HB.out.size));clear hk;go_wp2_with fail;go_ret;exact ⟨rfl,HB1.out⟩
 ) : P:=h
theorem GI {P : Prop} (h : P:=by
  go_enter Tryz.func104,Tryz.ntmps104
  go_wp2_with fail;refine HE.out.mono ?_;rintro e w1 ⟨rfl,hk⟩;have HB1:=hid (HB.out.trans (hk.mono HB.out.size));clear hk;go_wp2_with fail;go_ret;exact ⟨rfl,HB1.out⟩
 ) : P:=h
theorem Il {P : Prop} (h : P:=by
  split at h
  ·simp at h; simp [h]
  ·rename_i q r hq
   simp only [List.mem_cons] at h
   rcases h with rfl | h
   ·have:=ih q (by rw [hq]; simp); simp; omega
   ·have:=ih p (by rw [hq]; simp [h]); simp; omega
 ) : P:=h
theorem En {P : Prop} (h : P:=by
  go_wp2_with fail;refine (dm R _ _ _ w c0).mono ?_;rintro e w1 ⟨rfl,rfl⟩;go_wp2_with fail;refine (rL _ _ _).mono ?_;rintro e w1 ⟨rfl,rfl⟩;exact ⟨rfl,⟨_,rfl⟩,aJ.refl _ _⟩
 ) : P:=h
theorem sA {P : Prop} (h : P:=by
  have hh:=hall i y xZ
  have e : (xs.take k).take i = xs.take i:=by rw [List.take_take]; congr 1; omega
  (try simp only [List.nil_append,e] at hh);exact hh
 ) : P:=h
theorem yM {P : Prop} (h : P:=by
  go_wp2_with fail;refine (dm R _ _ _ w c0).mono ?_;rintro e w1 ⟨rfl,rfl⟩;go_wp2_with fail;refine hask.mono ?_;rintro e w2 ⟨⟨p,rfl⟩,b2⟩;exact ⟨rfl,⟨p,rfl⟩,az b2⟩
 ) : P:=h
theorem EQ {P : Prop} (h : P:=by
  clear he
  go_enter Tryz.func240,Tryz.ntmps240
  go_wp2_with fail;refine HE.out.mono ?_;rintro e w1 ⟨rfl,hw⟩;have hw2:=hw.symm;subst hw2;go_wp2;go_ret;exact ⟨cO,rfl⟩
 ) : P:=h
theorem zh {P : Prop} (h : P:=by
  go_wp2_with fail
  go_quiet ((go_at_call 240; exact Calls.quiet_of_same (HL.out _)))
  go_wp2_with fail;go_ret;exact ⟨cO,HB0.out.trans ((HBD.out _).mono HB0.out.size)⟩
 ) : P:=h
theorem yP {P : Prop} (h : P:=by
  refine ⟨h.1,h.2.imp id ?_⟩;rintro ⟨b,off,ha,hc⟩
  refine ⟨b,off,ha,fun j x hj => ?_⟩
  have:=hc j x hj
  exact ⟨hk.cell this.1 (hS _ _ _ ha),hk.cell this.2 (hS _ _ _ ha)⟩
 ) : P:=h
theorem Hm {P : Prop} (h : P:=by
  have hl:=h.len;have hx : xs[j]? = some (xs[j]'(ae)):=aN _
  have:=hc j _ hx 0 _ rfl
  rw [Nat.mul_one] at this;rw [List.getD_eq_getElem?_getD,hx];exact this
 ) : P:=h
theorem pI {P : Prop} (h : P:=by
  have hff:=HF.out.full (by rw [hfl,hZ])
  rw [List.take_of_length_le ae] at hff
  exact ⟨rfl,by first | exact hff | (rw [← List.flatMap_append]; exact hff),HF.out.bel⟩
 ) : P:=h
theorem Eg {P : Prop} (h : P:=by
  go_enter Tryz.func193,Tryz.ntmps193
  go_wp2_with fail
  refine (eP (by first | rfl | simp_all)).mono ?_
  rintro e w1 ⟨rfl,rfl⟩;exact ⟨rfl,⟨_,rfl⟩,Below.refl _ _⟩
 ) : P:=h
theorem wW {P : Prop} (h : P:=by
  go_wp2_with fail;refine H.out.mono ?_;rintro e w1 ⟨rfl,hb1⟩;have HB1:=hid (HB.out.trans (hb1.mono HB.out.size));clear hb1;go_wp2_with fail;go_ret;exact ⟨rfl,HB1.out⟩
 ) : P:=h
theorem F9 {P : Prop} (h : P:=by
  refine ⟨h.1,h.2.1,h.2.2.1,h.2.2.2.1,h.2.2.2.2.imp id ?_⟩;rintro ⟨b,off,ha,hc⟩
  exact ⟨b,off,ha,fun j hj => hk.cell (hc j hj) (hS _ _ _ (Lf ae ha))⟩
 ) : P:=h
theorem EZ {P : Prop} (h : P:=by
  go_ret2;refine ⟨_,rfl,?_,bM B3.out B5.out⟩;have h:=iy O5.out B3.out.size
  rw [HE2.out,show ([c] ++ U).length = 1 + U.length by simp; omega]
  exact h
 ) : P:=h
theorem Ei {P : Prop} (h : P:=by
  go_ret2;refine ⟨_,rfl,?_,bM B1.out B5.out⟩;have h:=iy O5.out B1.out.size
  rw [HE2.out,show ([c] ++ U).length = 1 + U.length by simp; omega]
  exact h
 ) : P:=h
theorem Hc {P : Prop} (h : P:=by
  clear HF HW H1 HF5 hwy hsy hb5 hkk HYL hyl hls P0 P1 P2;go_wp2_with fail;exact ⟨⟨t + 1,ys ++ [y],ae,bB,HN1,HN,HN2⟩,bD⟩
 ) : P:=h
theorem Hn {P : Prop} (h : P:=by
  exact fun r A B row hs hg hr => ⟨hs.1.grown hg (fun q e => (hr q e).2),ownFrom_below (β:=Unit) (Nat.le_refl _) ae () A B row hs.2.1 hg hr,hs.2.2⟩
 ) : P:=h
theorem FH {P : Prop} (h : P:=by
  exact fun j A B row hs hg hr => ⟨hs.1,hs.2.1.grown hg (fun q e => (hr q e).2),ownFrom_below (β:=Unit) (Nat.le_refl _) ae () A B row hs.2.2 hg hr⟩
 ) : P:=h
theorem GD {P : Prop} (h : P:=by
  have : k < l.length:=ae
  simp only [List.getD_eq_getElem?_getD,aN this,Option.getD_some]; exact hgood _ (List.getElem_mem this)
 ) : P:=h
theorem Ew {P : Prop} (h : P:=by
  go_enter Tryz.func103,Tryz.ntmps103
  go_wp2_with fail;refine HO.out.mono ?_;rintro e w1 ⟨rfl,hb1⟩;go_wp2;go_ret;exact ⟨rfl,hb1.alloc hb1.size _⟩
 ) : P:=h
theorem FZ {P : Prop} (h : P:=by
  refine ⟨h.1,?_⟩
  rcases h.2 with h0 | ⟨g,cp,cur,rfl,h2,h3,h4⟩
  ·exact .inl h0
  ·exact .inr ⟨g,cp,cur,rfl,h2,by rw [hk g rfl]; exact h3,h4⟩
 ) : P:=h
theorem od {P : Prop} (h : P:=by
  go_wp2_with fail;refine HC1.out.mono ?_;rintro e w5 ⟨⟨p,rfl⟩,hk5⟩;exact ⟨rfl,⟨p,rfl⟩,(HST.out.trans (Stp.of_below BN.out)).throw hk5⟩
 ) : P:=h
theorem F7 {P : Prop} (h : P:=by
  go_wp2_with fail
  exact ⟨⟨i + 1,aq,ae,hB2.out,hR2.out,by rw [show 7 - (i + 1) = n by omega]; exact hV2.out⟩,bD⟩
 ) : P:=h
theorem sI {P : Prop} (h : P:=by
  rintro e w1 ⟨rfl,hw⟩;have hw2:=hw.symm;subst hw2;go_wp2_with fail;go_ret;exact ⟨cO,HB0.out.trans (HB.out.mono HB0.out.size)⟩
 ) : P:=h
theorem Ht {P : Prop} (h : P:=by
  simp only at hcx
  unfold bK at hcx
  split at hcx
  ·cases hcx
  ·split at hcx
   ·cases hcx
   ·split at hcx
    ·cases hcx
    ·rw [hok.1,hok.2]; omega
 ) : P:=h
theorem um {P : Prop} (h : P:=by
  rintro e w' ⟨aa,ac,ys,he,hyl,hys,hrow,g',cap',hab,hw',hs'⟩;exact ⟨aa,ac,ys,he,hyl,hys,g',cap',uk,hs'⟩
 ) : P:=h
theorem qm {P : Prop} (h : P:=by
  obtain rfl : t = n + 64:=ae;have hlt' : ¬ ((n + 64 : Nat) : Int) < (n : Int) + 64:=ae;go_wp2_with fail;go_ret;exact ⟨rfl,HB.out⟩
 ) : P:=h
theorem FW {P : Prop} (h : P:=by
  clear hcc;go_wp2_with fail
  go_quiet (fail)
  go_wp2_with fail;exact ⟨⟨q + 1,ae,bB,HN,hid (HBD.out _)⟩,bD⟩
 ) : P:=h
theorem GH {P : Prop} (h : P:=by
  clear HF hnx P0 P1 HX hb5 HF5;generalize txt t = tx at *;go_wp2_with fail;exact ⟨⟨t + 1,ae,bB,HN⟩,bD⟩
 ) : P:=h
theorem Iu {P : Prop} (h : P:=by
  exact ⟨⟨t + 1,ae,bB,hid (by rw [HFS.out,← List.append_assoc,HR.out,HLN.out]; exact HBy.out),HB⟩,bD⟩
 ) : P:=h
theorem Ic {P : Prop} (h : P:=by
  exact ⟨none,_,run_endLoop hb.1 (by simp [record]),hdone D _ (Nat.le_refl _) (hI.putObj _ hi jL hb.1 rfl) (turn (rc':=_) hb).2⟩
 ) : P:=h
theorem yY {P : Prop} (h : P:=by
  rw [(((Below.refl _ w).alloc (Nat.le_refl _) _).alloc bZ _ |>.alloc bZ _).cell (by exact hRl)]; exact h.c0
 ) : P:=h
theorem nJ {P : Prop} (h : P:=by
  go_wp2_with fail;refine HO.out.mono ?_;rintro e w1 ⟨rfl,hw1⟩;have hw2:=hw1.symm;subst hw2;exact ⟨rfl,KR.later (Below.refl _ _),rfl⟩
 ) : P:=h
theorem GZ {P : Prop} (h : P:=by
  obtain ⟨cur,h,_⟩:=h.block
  rcases Nat.lt_or_ge B w.heap.size with hl | hl
  ·exact hl
  ·rw [Array.getElem?_eq_none hl] at h; cases h
 ) : P:=h
theorem tY {P : Prop} (h : P:=by
  go_wp2_with fail
  go_quiet (fail)
  go_wp2_with fail;go_ret;exact ⟨cO,HB0.out.trans ((HBD.out _).mono HB0.out.size)⟩
 ) : P:=h
theorem IG {P : Prop} (h : P:=by
  refine ⟨h.1,?_⟩
  rcases h.2 with h0 | ⟨g,cp,cur,h1,h2,h3⟩
  ·exact .inl h0
  ·exact .inr ⟨g,cp,cur,h1,Nat.le_trans hb h2,h3⟩
 ) : P:=h
theorem GQ {P : Prop} (h : P:=by
  go_wp2_with fail;refine (cA aq).mono ?_;rintro e w1 ⟨rfl,rfl⟩;go_wp2_with fail;go_end0;exact ⟨rfl,Below.refl _ _⟩
 ) : P:=h
theorem nD {P : Prop} (h : P:=by
  refine ⟨k + 1,ae,aq,?_⟩;rw [HTk.out,List.flatMap_append,List.flatMap_singleton,← List.append_assoc];exact P5.out
 ) : P:=h
theorem Ax {P : Prop} (h : P:=by
  refine ⟨h.1,?_⟩
  rcases h.2 with ⟨h,_⟩ | ⟨g,cp,cur,h1,_,h3⟩
  ·cases h
  ·exact .inr ⟨g,cp,cur,h1,Nat.zero_le _,h3⟩
 ) : P:=h
theorem zZ {P : Prop} (h : P:=by
  obtain ⟨B,n,e,hl,ho⟩:=h
  exact ⟨B,n,e,hl,aW ho hk (fun b hb hs => Cg)⟩
 ) : P:=h
theorem Cf {P : Prop} (h : P:=by
  go_wp2_with fail;refine (cA rfl).mono ?_;rintro e w1 ⟨rfl,rfl⟩;go_wp2_with fail;go_end0;exact ⟨rfl,Below.refl _ _⟩
 ) : P:=h
theorem mC {P : Prop} (h : P:=by
  go_wp2_with fail;refine HC.out.mono ?_;rintro e w2 ⟨⟨q,rfl⟩,hk2⟩;exact ⟨rfl,⟨q,rfl⟩,(az BW.out).trans hk2⟩
 ) : P:=h
theorem Cx {P : Prop} (h : P:=by
  rw [World.cell?_alloc_past _ _ _ (show w.heap.size < wr.heap.size by omega),← hwr,World.cell?_alloc_past _ _ _ hx]; exact x1
 ) : P:=h
theorem zD {P : Prop} (h : P:=by
  go_wp2_with fail;refine HN.out.mono ?_;rintro e w1 ⟨⟨p,rfl⟩,hk⟩;exact ⟨rfl,⟨p,rfl⟩,(az B1.out).trans hk⟩
 ) : P:=h
theorem Aq {P : Prop} (h : P:=by
  go_wp2_with fail;refine HT.out.mono ?_;rintro e w2 ⟨⟨q,rfl⟩,hk⟩;exact ⟨rfl,⟨q,rfl⟩,(az BW.out).trans hk⟩
 ) : P:=h
theorem AJ {P : Prop} (h : P:=by
  have e2 : m.fns.length ≤ psz (pl m):=by unfold psz pl; simp only [List.length_map]; omega
  rw [hfns] at e2
  simp at e2
  omega
 ) : P:=h
theorem Ca {P : Prop} (h : P:=by
  go_enter Tryz.func168,Tryz.ntmps168
  go_wp2_with fail;refine HM.out.mono ?_;rintro e w1 ⟨rfl,hw⟩;exact ⟨rfl,rfl,hw⟩
 ) : P:=h
theorem rZ {P : Prop} (h : P:=by
  go_enter Tryz.func315,Tryz.ntmps315
  go_wp2;go_ret
  exact ⟨by rw [HR.out]; rfl,(Below.refl _ _).alloc (Nat.le_refl _) _⟩
 ) : P:=h
theorem ei {P : Prop} (h : P:=by
  rcases (HM.out.kept HST.out.k (fun b off c h => by have:=HNE.out b off c h; simp; omega)).2 with h0 | h
  ·omega
  ·exact h
 ) : P:=h
theorem ux {P : Prop} (h : P:=by
  rintro ⟨b,off,ha,hc⟩
  exact ⟨b,off,ha,fun j x hj => ⟨hc j x hj 0 _ rfl,hc j x hj 1 _ rfl,hc j x hj 2 _ rfl⟩⟩
 ) : P:=h
theorem A7 {P : Prop} (h : P:=by
  have:=World.alloc_heap_new (w.alloc (.deferred (some []))) (.loop (record .ready none))
  rwa [World.size_alloc] at this
 ) : P:=h
theorem BU {P : Prop} (h : P:=by
  go_wp2_with fail;refine HX.out.mono ?_;rintro e w3 ⟨⟨q,rfl⟩,hk⟩;exact ⟨rfl,⟨q,rfl⟩,S2.out.throw hk⟩
 ) : P:=h
theorem A9 {P : Prop} (h : P:=by
  go_enter Tryz.func37,Tryz.ntmps37
  go_wp2_with fail;go_ret
  exact ⟨by rw [← HV.out]; first | rfl | simp,HB.out⟩
 ) : P:=h
theorem AG {P : Prop} (h : P:=by
  unfold Lib.indexByte
  split
  ·right; simp
  ·split
   ·exact .inl rfl
   ·rename_i h
    simp at h
    right; simp; omega
 ) : P:=h
theorem Bb {P : Prop} (h : P:=by
  clear hat HF hnx P0 P1;go_wp2_with fail;exact ⟨⟨t + 1,ae,bB,HN⟩,bD⟩
 ) : P:=h
theorem sU {P : Prop} (h : P:=by
  exact ((HW.out.1 z hz).stay (az hb5) (fun _ h => False.elim h)).stay hkk (fun k hk => .inl ae)
 ) : P:=h
theorem zM {P : Prop} (h : P:=by
  rw [show (bP p 8 && bP r 8) = false from h1];go_wp2;go_ret2
  exact ⟨by simp [qR,wu,h1],HB.out⟩
 ) : P:=h
theorem AA {P : Prop} (h : P:=by
  clear hE0;go_wp2_with fail;go_ret;exact ⟨cO,HB0.out.trans (HB.out.mono HB0.out.size)⟩
 ) : P:=h
theorem A0 {P : Prop} (h : P:=by
  rcases h.2 with ⟨h0,h1⟩ | ⟨g,cp,cur,h1,_⟩
  ·exact ⟨none,0,by rw [h0,h1]⟩
  ·exact ⟨_,_,h1⟩
 ) : P:=h
theorem Cc {P : Prop} (h : P:=by
  have h:=O7.out;rw [HT.out,← List.append_assoc,@List.length_append Int (C ++ dG (l.take k)) Z];exact h
 ) : P:=h
theorem A8 {P : Prop} (h : P:=by
  clear hat HF hnx P0;go_wp2_with fail;exact ⟨⟨t + 1,ae,bB,HN⟩,bD⟩
 ) : P:=h
theorem Ch {P : Prop} (h : P:=by
  rcases Nat.lt_or_ge b w.heap.size with hx | hx
  ·exact hx
  ·rw [Array.getElem?_eq_none hx] at h; cases h
 ) : P:=h
theorem jE {P : Prop} (h : P:=by
  go_wp2_with fail;refine HC.out.mono ?_;rintro e w2 ⟨⟨p,rfl⟩,hk⟩;exact ⟨rfl,⟨p,rfl⟩,hk⟩
 ) : P:=h
theorem AH {P : Prop} (h : P:=by
  clear hS' yd y0 y1 y2 y3 y4 y5 y6 y7 y8;go_wp2_with fail;go_ret;exact ⟨cO,B3.out⟩
 ) : P:=h
theorem tJ {P : Prop} (h : P:=by
  rintro ⟨b,off,ha,hc⟩
  exact ⟨b,off,ha,fun j x hj => ⟨hc j x hj 0 _ rfl,hc j x hj 1 _ rfl⟩⟩
 ) : P:=h
theorem Bh {P : Prop} (h : P:=by
  go_wp2_with fail;go_ret
  exact ⟨by rw [HV2.out,if_neg (by rw [HK.out,HD.out]; omega)]; rfl,B2.out⟩
 ) : P:=h
theorem Cl {P : Prop} (h : P:=by
  go_wp2_with fail;exact ⟨⟨t + 1,ae,bB,HN,hid (HBD.out _)⟩,bD⟩
 ) : P:=h
theorem Cm {P : Prop} (h : P:=by
  rcases Nat.lt_or_ge b w1.heap.size with h' | h'
  ·exact h'
  ·simp [Array.getElem?_eq_none h'] at hbk
 ) : P:=h
theorem Bx {P : Prop} (h : P:=by
  rcases Nat.lt_or_ge j xs.length with h | h
  ·exact h
  ·rw [List.getElem?_eq_none h] at hx; cases hx
 ) : P:=h
theorem Cr {P : Prop} (h : P:=by
  by_cases h0 : 0 ≤ x
  ·rw [cg x h0 ae]; omega
  ·rw [uL x hx0 ae]; omega
 ) : P:=h
theorem uB {P : Prop} (h : P:=by
  go_wp2_with fail;go_ret2;exact ⟨_,cO,HB0.out.trans (HB.out.mono HB0.out.size)⟩
 ) : P:=h
theorem zO {P : Prop} (h : P:=by
  go_wp2_with fail;go_end0;exact ⟨k1.out.trans (KR.later HB.out),rfl,m,q1.out.later HB.out,rfl⟩
 ) : P:=h
theorem pc {P : Prop} (h : P:=by
  go_wp2_with fail;go_ret;exact ⟨cO,HB0.out.trans (HB1.out.mono HB0.out.size)⟩
 ) : P:=h
theorem Ap {P : Prop} (h : P:=by
  intro v' w' ho' hg _;refine h v' w' ?_ (nA hown hg hbase)
  rw [List.map_append]; exact ho'
 ) : P:=h
theorem si {P : Prop} (h : P:=by
  rintro e' w' ⟨he',g',cap',hw',hs'⟩;refine ⟨x,he',rfl,g',cap',?_,hs'⟩;rw [henc];exact hw'
 ) : P:=h
theorem ib {P : Prop} (h : P:=by
  go_wp2_with fail;go_ret;exact ⟨cO,HB0.out.trans (HB.out.mono HB0.out.size)⟩
 ) : P:=h
theorem Aa {P : Prop} (h : P:=by
  go_wp2_with fail;exact ⟨⟨t + 1,ae,ae,bB,HB5⟩,bD⟩
 ) : P:=h
theorem pB {P : Prop} (h : P:=by
  go_wp2_with fail;exact ⟨⟨t + 1,ae,ae,bB,HDR⟩,bD⟩
 ) : P:=h
theorem uI {P : Prop} (h : P:=by
  exact ((W5.out.set (b:=w.heap.size + 1) ae n1).set (b:=w.heap.size + 1) ae n1)
 ) : P:=h
theorem jA {P : Prop} (h : P:=by
  have hlt' : ¬ (t : Int) < (n : Int):=ae;go_wp2_with fail;go_ret;exact ⟨rfl,HB.out⟩
 ) : P:=h
theorem tI {P : Prop} (h : P:=by
  have hkn' : ¬ (t : Int) < (n : Int):=ae;go_wp2_with fail;go_ret;exact ⟨rfl,HB.out⟩
 ) : P:=h
theorem zG {P : Prop} (h : P:=by
  go_enter Tryz.func331,Tryz.ntmps331
  go_wp2;go_ret
  exact ⟨by rw [← HF.out]; rfl,rfl⟩
 ) : P:=h
theorem zU {P : Prop} (h : P:=by
  go_enter Tryz.func245,Tryz.ntmps245
  go_wp2;go_ret
  exact ⟨by rw [← HF.out]; rfl,rfl⟩
 ) : P:=h
theorem Bz {P : Prop} (h : P:=by
  simp only [List.mem_cons] at h
  rcases h with rfl | h
  ·simp
  ·have:=ih p h; simp; omega
 ) : P:=h
theorem zY {P : Prop} (h : P:=by
  go_wp2_with fail;refine HM.out.mono ?_;rintro e w1 ⟨rfl,hw⟩;exact ⟨rfl,rfl,hw⟩
 ) : P:=h
theorem mX {P : Prop} (h : P:=by
  rw [List.length_take] at this;have e1 : min j xs.length = j:=ae
  rwa [e1] at this
 ) : P:=h
theorem kJ {P : Prop} (h : P:=by
  go_wp2_with fail;exact ⟨⟨t + 1,ae,bB,HB5⟩,bD⟩
 ) : P:=h
theorem sB {P : Prop} (h : P:=by
  clear hb1;go_wp2_with fail;go_ret
  exact ⟨by rw [HV.out,if_pos HZ.out]; rfl,B2.out⟩
 ) : P:=h
theorem tM {P : Prop} (h : P:=by
  rintro e w' ⟨rfl,k,os,rfl⟩;exact ⟨rfl,Lib.below_grow _ _ (Nat.le_refl _) _ _⟩
 ) : P:=h
theorem Cn {P : Prop} (h : P:=by
  go_wp2_with fail;exact ⟨⟨t + 1,ae,bB,HN⟩,bD⟩
 ) : P:=h
theorem AW {P : Prop} (h : P:=by
  go_enter Tryz.func243,Tryz.ntmps243
  go_wp2;go_ret;exact ⟨cO,rfl⟩
 ) : P:=h
theorem zI {P : Prop} (h : P:=by
  rw [List.length_take] at this;have e : min j xs.length = j:=ae
  rwa [e] at this
 ) : P:=h
theorem Br {P : Prop} (h : P:=by
  rw [List.getD_eq_getElem?_getD,aN ae]
  simpa using this
 ) : P:=h
theorem A6 {P : Prop} (h : P:=by
  go_ret
  exact ⟨congrArg (fun x => Ending.returned (.int .i64 x)) HS.out,B1.out⟩
 ) : P:=h
theorem uG {P : Prop} (h : P:=by
  clear hb1;go_wp2_with fail;go_ret
  exact ⟨by rw [HV.out,if_neg hz]; rfl,B2.out⟩
 ) : P:=h
theorem Am {P : Prop} (h : P:=by
  rintro e w' ⟨rfl,rfl⟩;go_wp2_with fail;go_end0;exact ⟨rfl,Below.refl _ _⟩
 ) : P:=h
theorem Cb {P : Prop} (h : P:=by
  rw [(ak (w.alloc _) _).block _ aq];exact (MapKept.heap_alloc w _).1
 ) : P:=h
theorem sQ {P : Prop} (h : P:=by
  rintro e' w' ⟨y,he',hy,g',cap',hw',hs'⟩;exact ⟨y,he',hy,g',cap',hw',hs'⟩
 ) : P:=h
theorem pz {P : Prop} (h : P:=by
  go_enter Tryz.func118,Tryz.ntmps118
  go_wp2_with fail;go_ret;exact ⟨rfl,rfl⟩
 ) : P:=h
theorem AV {P : Prop} (h : P:=by
  rcases List.mem_append.1 hz with hz | hz
  ·exact hpr z hz
  ·simp at hz; omega
 ) : P:=h
theorem tR {P : Prop} (h : P:=by
  rcases h'.m with rfl | h2
  ·exact h.m
  ·exact .inr (Nat.le_trans h.k.size h2)
 ) : P:=h
theorem Ak {P : Prop} (h : P:=by
  exact (Below.heap_alloc _ _ _ (by simp [D])).trans (World.alloc_heap_new w _)
 ) : P:=h
theorem BC {P : Prop} (h : P:=by
  exact ⟨⟨t + 1,ae,ae,bB,HB⟩,bD⟩
 ) : P:=h
theorem sO {P : Prop} (h : P:=by
  intro j u hj
  match j,hj with
  | 0,hj => simp at hj; subst hj; simp [Addr.add]
 ) : P:=h
theorem tG {P : Prop} (h : P:=by
  exact ⟨(World.cell?_of_block h5).trans hv,World.frozen?_of_block h5⟩
 ) : P:=h
theorem uh {P : Prop} (h : P:=by
  exact wpAnyH_take hi hc.1.1 hc.1.2 hc.2 hQ (Or.inl ⟨hw,hv⟩) hS h
 ) : P:=h
theorem px {P : Prop} (h : P:=by
  rintro e w1 ⟨rfl,rfl⟩;exact ⟨rfl,⟨_,rfl⟩,Below.refl _ _⟩
 ) : P:=h
theorem sL {P : Prop} (h : P:=by
  rw [List.getElem?_append_left hjt] at hz;exact HW.out.2 j x2 z hj hz
 ) : P:=h
theorem mJ {P : Prop} (h : P:=by
  exact ((Below.refl _ _).alloc (Nat.le_refl _) _).alloc aq _
 ) : P:=h
theorem uC {P : Prop} (h : P:=by
  have:=Nat.le_trans hq.bw hg.size; simpa [World.setCell] using this
 ) : P:=h
theorem sP {P : Prop} (h : P:=by
  simp only at hc
  unfold dw at hc
  split at hc
  ·cases hc
  ·omega
 ) : P:=h
theorem o9 {P : Prop} (h : P:=by
  go_wp2_with fail;go_ret;exact ⟨cO,HB0.out⟩
 ) : P:=h
theorem sF {P : Prop} (h : P:=by
  intro l x W K hK;have hsem:=@Oper.semAt_some
  gi_wp2
  exact hK
 ) : P:=h
theorem mE {P : Prop} (h : P:=by
  go_wp2_with fail;go_ret;exact ⟨cO,rfl⟩
 ) : P:=h
theorem uz {P : Prop} (h : P:=by
  exact ((S5.out.set ae).set ae)
 ) : P:=h
theorem mA {P : Prop} (h : P:=by
  go_wp2_with fail;go_end0;exact ⟨rfl,rfl⟩
 ) : P:=h
theorem py {P : Prop} (h : P:=by
  rcases h.m with h | h
  ·exact .inr h
  ·omega
 ) : P:=h
theorem sS {P : Prop} (h : P:=by
  rcases hsg.2.2 with h0 | h
  ·omega
  ·exact h
 ) : P:=h
theorem mP {P : Prop} (h : P:=by
  go_wp2_with fail;go_ret;exact ⟨rfl,rfl⟩
 ) : P:=h
theorem nk {P : Prop} (h : P:=by
  rw [World.cell?_alloc_at _ _ _ _ rfl]; rfl
 ) : P:=h
theorem pA {P : Prop} (h : P:=by
  go_wp2;go_ret;exact ⟨rfl,rfl⟩
 ) : P:=h
theorem kN {P : Prop} (h : P:=by
  rw [results_cell_tmp rfl];go_simp
 ) : P:=h
theorem fV {P : Prop} (h : P:=by
  rw [lu rfl];go_simp
 ) : P:=h
theorem m9 {P : Prop} (h : P:=by
  exact hc j x hj 0 ae
 ) : P:=h
theorem mr {P : Prop} (h : P:=by
  exact hc j x hj 1 ae
 ) : P:=h
theorem mt {P : Prop} (h : P:=by
  rw [if_pos b1] at h; cases h
 ) : P:=h
theorem iO {P : Prop} (h : P:=by
  rw [h3] at h; cases h
 ) : P:=h
theorem b9 {P : Prop} (h : P:=by
  simpa using this
 ) : P:=h
theorem zH {P : Prop} (h : P:=by
  have hlt' : (k : Int) < (m.dn : Int):=ae
  by_cases hbd : z3 ≤ 2147483647
  ·obtain ⟨x,hxk⟩ : ∃ x,m.data[k]? = some x:=⟨_,aN (by rw [PD.out.1]; exact hlt)⟩
   obtain ⟨b,off,hfa,hat⟩:=PD.out.2.resolve_left ae;have hat:=hat k x hxk;have hu:=UD.out k x hxk;have hk0 : (0 : Int) ≤ (k : Int):=ae;have hbd' : (z3 : Int) ≤ 2147483647:=ae;have hbq : decide ((z3 : Int) ≤ 2147483647) = true:=decide_eq_true hbd';rw [hfa] at m6;obtain ⟨_,g1⟩:=hat;rw [hfa];go_wp2_with fail
   exact ⟨⟨k + 1,z3 + x.2.1.2.1,ae,bB,bB,⟨_,rfl⟩,ae,hid (by have:=HF3.out; rw [DD hxk]; omega)⟩,bD⟩
  ·have hbd' : ¬ (z3 : Int) ≤ 2147483647:=ae;have hbq : decide ((z3 : Int) ≤ 2147483647) = false:=decide_eq_false hbd';clear hlt;go_wp2_with fail
   go_loopw [3,7] (fun s i wr => ∃ k z : Nat,k ≤ m.en ∧ s = .int .i64 (z : Nat) ∧ i = .int .i64 k ∧ (∃ q,wr = W0.drewN q) ∧ z ≤ 1125899906842624 ∧ Hid (z3 + lH (m.exps.take k) ≤ z)) (fun _ i _ => m.en - (intOf i).toNat)
   case atStart => exact ⟨0,z3,ae,rfl,rfl,⟨_,rfl⟩,ae,hid (by simp [lH])⟩
   case round =>
    obtain ⟨k,z4,hk,rfl,rfl,⟨q4,rfl⟩,hz4,HF4⟩:=hrel
    by_cases hlt : k < m.en
    ·have hlt' : (k : Int) < (m.en : Int):=ae
     by_cases hbd : z4 ≤ 2147483647
     ·exact Bc
     ·have hbd' : ¬ (z4 : Int) ≤ 2147483647:=ae;have hbq : decide ((z4 : Int) ≤ 2147483647) = false:=decide_eq_false hbd';exact Cs
    ·obtain rfl : k = m.en:=ae;clear hlt;go_wp2_with fail;go_ret
     exact ⟨z4,rfl,BW.out.trans (BW2.out _),fun h4 => sk⟩
 ) : P:=h
theorem zP {P : Prop} (h : P:=by
  have hlt' : (k : Int) < (m.en : Int):=ae
  by_cases hbd : z4 ≤ 2147483647
  ·exact Bc
  ·have hbd' : ¬ (z4 : Int) ≤ 2147483647:=ae;have hbq : decide ((z4 : Int) ≤ 2147483647) = false:=decide_eq_false hbd';clear hlt;go_wp2_with fail;go_ret
   exact ⟨z4,rfl,BW.out.trans (BW2.out _),fun h4 => sk⟩
 ) : P:=h
theorem kO {P : Prop} (h : P:=by
  refine ⟨j + 1,ys ++ [y],some ⟨B,0,none⟩,cap7,g4,cap4,ae,rfl,rfl,by simp [hyl],?_,?_,?_,?_,?_⟩
  ·exact Aj
  ·have:=R7.out
   simpa [gP] using this
  ·intro b' hb'
   simp at hb'
   subst hb';exact ⟨hBn.1,hBn.2.1⟩
  ·exact Av
  ·exact ⟨(S5.out.k.trans (az BN5.out)).then hBn.2.2 (fun k hk hkB => by have:=hBn.1; omega),S5.out.m⟩
 ) : P:=h
theorem mH {P : Prop} (h : P:=by
  have HO5:=hid hown5;clear hown5 hb5 hk5
  refine hK.out _ _ ⟨ag HBX.out,ag HBX.out,ag HBX.out⟩ (fun hSw => ?_)
  clear hK K;refine tkD (i:=14) (d:=some 5) rfl ?_ (hS:=aQ);(try simp only [Act.put,sIB,sC0,sCs]);refine wpAnyH_done aj ?_ _;go_wp2_with fail;exact ⟨⟨t + 1,ae,bB,hid yS,HB5⟩,bD⟩
 ) : P:=h
theorem Au {P : Prop} (h : P:=by
  subst hin;have hlt : ¬ ((i : Int) < i):=ae;go_wp2_with fail;go_ret;refine ⟨?_,HBw.out⟩
  have h2 : x = ⟨L.toArray⟩:=by
   cases x with | mk q => cases q with | mk l =>
   have h3 : l = L:=by
    rw [List.drop_eq_nil_of_le ae] at hx
    simpa [kX] using hx
   rw [h3]
  rw [h2];rfl
 ) : P:=h
theorem jz {P : Prop} (h : P:=by
  rcases OR7.out with ⟨h1,h2⟩ | ⟨h1,h2⟩
  ·have h1' : aa = some ⟨B,0,none⟩:=(Value.slice.inj h1).1;exact ⟨(HAB.out _ h1').1,(HAB5.out _ h1').1,h2⟩
  ·have:=S5.out.size
   exact ⟨ae,ae,h2.mono (fun k hk => hk.elim)⟩
 ) : P:=h
theorem Ad {P : Prop} (h : P:=by
  intro j u hj
  match j,hj with
  | 0,hj => simp [cm] at hj; subst hj; simp [Addr.add,go_sem]
  | 1,hj => simp [cm] at hj; subst hj; simp [Addr.add,go_sem]
  | 2,hj => simp [cm] at hj; subst hj; simp [Addr.add,go_sem]
 ) : P:=h
theorem BS {P : Prop} (h : P:=by
  intro j u hj
  match j,hj with
  | 0,hj => simp [cM] at hj; subst hj; simp [Addr.add,go_sem]
  | 1,hj => simp [cM] at hj; subst hj; simp [Addr.add,go_sem]
  | 2,hj => simp [cM] at hj; subst hj; simp [Addr.add,go_sem]
 ) : P:=h
theorem jC {P : Prop} (h : P:=by
  have h3:=HAB.out a ha1;have h1 : a.block < wr.heap.size:=aC HRW.out (rC HRW.out ha1);exact ⟨hs5.ne ae h3.2,Nat.lt_of_lt_of_le h1 (Nat.le_trans hszW hs5.size)⟩
 ) : P:=h
theorem Cj {P : Prop} (h : P:=by
  intro j u hj
  match j,hj with
  | 0,hj => simp [dP] at hj; subst hj; simp [Addr.add,go_sem]
  | 1,hj => simp [dP] at hj; subst hj; simp [Addr.add,go_sem]
 ) : P:=h
theorem uA {P : Prop} (h : P:=by
  go_wp2_with fail
  go_quiet (fail)
  go_wp2_with fail;exact ⟨⟨t + 1,ae,bB,hid (HBD.out _)⟩,bD⟩
 ) : P:=h
theorem AP {P : Prop} (h : P:=by
  have h2:=congrArg List.length hx;rw [List.length_append] at h2;have h3 : x.data.toList.length = x.size:=Array.length_toList;omega
 ) : P:=h
theorem AO {P : Prop} (h : P:=by
  simp [ByteArray.size_append]
  have h32 : (⟨#[32]⟩ : ByteArray).size = 1:=rfl;omega
 ) : P:=h
theorem BA {P : Prop} (h : P:=by
  exact ⟨j + 1,ae,rfl,(BW.out.trans (BN.out.mono BW.out.size)).drew⟩
 ) : P:=h
theorem Bc {P : Prop} (h : P:=by
  obtain ⟨x,hxk⟩ : ∃ x,m.exps[k]? = some x:=⟨_,aN (by rw [PE.out.1]; exact hlt)⟩
  obtain ⟨b,off,hfa,hat⟩:=PE.out.2.resolve_left ae;have hat:=hat k x hxk;have hu:=UE.out k x hxk;have hk0 : (0 : Int) ≤ (k : Int):=ae;have hbd' : (z4 : Int) ≤ 2147483647:=ae;have hbq : decide ((z4 : Int) ≤ 2147483647) = true:=decide_eq_true hbd';rw [hfa] at m7;obtain ⟨g0,_⟩:=hat;rw [hfa];go_wp2_with fail
  exact ⟨⟨k + 1,z4 + x.1.size,ae,bB,bB,⟨_,rfl⟩,ae,hid (by have:=HF4.out; rw [CW hxk]; omega)⟩,bD⟩
 ) : P:=h
theorem Aj {P : Prop} (h : P:=by
  intro i y' hi'
  by_cases hij : i < ys.length
  ·rw [List.getElem?_append_left hij] at hi';exact HY.out i y' hi'
  ·rw [List.getElem?_append_right ae] at hi'
   have hi0 : i - ys.length = 0:=by
    rcases Nat.eq_zero_or_pos (i - ys.length) with h | h
    ·exact h
    ·rw [List.getElem?_eq_none aG] at hi'; cases hi'
   rw [hi0] at hi'
   simp at hi'
   subst hi';obtain rfl : i = j:=ae;exact ⟨x,hx,O5.out⟩
 ) : P:=h
theorem Cs {P : Prop} (h : P:=by
  clear hlt;go_wp2_with fail;go_ret
  exact ⟨z4,rfl,BW.out.trans (BW2.out _),fun h4 => sk⟩
 ) : P:=h
theorem Av {P : Prop} (h : P:=by
  have:=(W5.out.later BN5.out).kept hBn.2.2 ae (Ne.symm hBn.2.1)
  rw [DJ enc hx]
  simpa [List.append_assoc] using this
 ) : P:=h
abbrev bg (a0 : Option Addr) (a1 : Nat) (a2 : Nat) (a3 : Option Addr) (a4 : Nat) (a5 : Nat) (a6 : Option Addr) (a7 : Nat) (a8 : Nat) (a9 : Int) (a10 : Int) (a11 : Option Addr) (a12 : Nat) (a13 : Nat) (a14 : Option Addr) (a15 : Nat) (a16 : Nat) (a17 : Option Addr) (a18 : Nat) (a19 : Nat) : Obj:=.cells #[.slice a0 a1 a2,.slice a3 a4 a5,.slice a6 a7 a8,.int .i64 a9,.int .i64 a10,.slice a11 a12 a13,.slice a14 a15 a16,.slice a17 a18 a19] 29
abbrev aH (a0 : Int) (a1 : Int) (a2 : Option Addr) (a3 : Nat) (a4 : Nat) : Obj:=.cells #[.int .u8 a0,.int .i64 a1,.slice a2 a3 a4] 75
abbrev aL (a0 : Int) (a1 : ByteArray) (a2 : Option Addr) (a3 : Nat) (a4 : Nat) : Obj:=.cells #[.int .i64 a0,.string a1,.slice a2 a3 a4] 78
abbrev bo (a0 : Int) (a1 : Bool) (a2 : Int) : Obj:=.cells #[.int .u8 a0,.bool a1,.int .u64 a2] 102
abbrev aS (a0 : ByteArray) (a1 : ByteArray) : Obj:=.cells #[.string a0,.string a1] 73
abbrev bh (a0 : Int) (a1 : Option Addr) (a2 : Nat) (a3 : Nat) : Obj:=.cells #[.int .i64 a0,.slice a1 a2 a3] 81
abbrev bF (a0 : ByteArray) (a1 : Int) : Obj:=.cells #[.string a0,.int .i64 a1] 83
abbrev fZ (a0 : Int) (a1 : ByteArray) (a2 : Int) (a3 : ByteArray) (a4 : ByteArray) (a5 : Bool) : Obj:=.cells #[.int .u8 a0,.string a1,.int .i8 a2,.string a3,.string a4,.bool a5] 233
abbrev fH (a0 : Int) (a1 : ByteArray) (a2 : Int) (a3 : ByteArray) (a4 : ByteArray) (a5 : Bool) : Obj:=.cells #[.int .u8 a0,.string a1,.int .i8 a2,.string a3,.string a4,.bool a5] 250
abbrev bS (a0 : Int) : Obj:=.cells #[.int .i64 a0] 3
abbrev bY (a0 : Int) : Obj:=.cells #[.int .u8 a0] 5
abbrev bL (a0 : ByteArray) : Obj:=.cells #[.string a0] 9
abbrev dW (a0 : Int) : Obj:=.cells #[.int .i64 a0] 33
abbrev nr (a0 : Int) (a1 : Int) (a2 : ByteArray) (a3 : ByteArray) : Obj:=.cells #[.int .u8 a0,.int .u8 a1,.string a2,.string a3] 287
abbrev iB (a0 : Option Addr) (a1 : Nat) (a2 : Nat) : Obj:=.cells #[.slice a0 a1 a2] 63
abbrev qu (a0 : Int) (a1 : Int) : Obj:=.cells #[.int .i64 a0,.int .i64 a1] 142
abbrev jO (a0 : Option Addr) (a1 : Nat) (a2 : Nat) : Obj:=.cells #[.slice a0 a1 a2] 22
abbrev eZ (a0 : Value) : Obj:=.cells #[a0] 200
abbrev nV (a0 : Option Addr) : Obj:=.cells #[.pointer a0] 122
abbrev pH (a0 : Int) : Obj:=.cells #[.int .i64 a0] 119
theorem sIB {α : Type _} (l : List α) (i : Nat) (a : α) : l.toArray.setIfInBounds i a = (l.set i a).toArray:=List.setIfInBounds_toArray l i a
theorem sC0 {α : Type _} {x : α} {xs : List α} {a : α} : (x :: xs).set 0 a = a :: xs:=List.set_cons_zero
theorem sCs {α : Type _} {x : α} {xs : List α} {i : Nat} {a : α} : (x :: xs).set (i + 1) a = x :: xs.set i a:=List.set_cons_succ
theorem tkH {P : Program} {ops : Array Oper} {Q : Exit → Act → World → Prop} {md : Region.Mode} {S : World → Prop} {i : Nat} {oi : Oper} {v : Value} {fuel : Nat} {listed : Array Bool} {a : Act} {w : World} (hi : ops[i]? = some oi) (hv : ∀ w,S w → (execOp a.eval oi).run P w = .ok (.value v) w)
  (h : wpAnyH P md ops Q S fuel (listed.setIfInBounds i true) (a.put oi.dst v) w) (hc : (Region.noSelect ops && Region.free md ops listed i && (Region.ready md ops listed).contains i) = true:=by kernel_rfl) (hw : Region.wanted oi (yielded ops a.tmps) = true:=by rfl)
  (hQ : ∀ c a w,Q (.panic c) (a.put oi.dst v) w → Q (.panic c) a w:=by exact fun _ _ _ h => h) (hS : S w:=by assumption) : wpAnyH P md ops Q S (fuel + 1) listed a w:=by
 simp only [Bool.and_eq_true] at hc
 exact uh
theorem tkA {P : Program} {ops : Array Oper} {Q : Exit → Act → World → Prop} {md : Region.Mode} {S : World → Prop} {i : Nat} {oi : Oper} {d : Option Tmp} {v : Value} {fuel : Nat} {listed : Array Bool} {a : Act} {w : World} (hi : ops[i]? = some oi) (hd : oi.dst = d) (hv : ∀ w,S w → (execOp a.eval oi).run P w = .ok (.value v) w)
  (h : wpAnyH P md ops Q S fuel (listed.setIfInBounds i true) (a.put d v) w) (hc : (Region.noSelect ops && Region.free md ops listed i && (Region.ready md ops listed).contains i) = true:=by kernel_rfl) (hw : Region.wanted oi (yielded ops a.tmps) = true:=by kernel_rfl)
  (hQ : ∀ c a w,Q (.panic c) (a.put d v) w → Q (.panic c) a w:=by exact fun _ _ _ h => h) (hS : S w:=by assumption) : wpAnyH P md ops Q S (fuel + 1) listed a w:=by
 subst hd;exact tkH hi hv h hc hw hQ hS
theorem tkB {P : Program} {ops : Array Oper} {Q : Exit → Act → World → Prop} {md : Region.Mode} {S : World → Prop} {i : Nat} {oi : Oper} {d : Option Tmp} {v : Value} {fuel : Nat} {listed : Array Bool} {a : Act} {w : World} (h : wpAnyH P md ops Q S fuel (listed.setIfInBounds i true) (a.put d v) w) (hi : ops[i]? = some oi:=by kernel_rfl) (hd : oi.dst = d:=by kernel_rfl) (hv : ∀ w,S w → (execOp a.eval oi).run P w = .ok (.value v) w:=by (intro w h;(try dsimp only at h);go_simp;try with_reducible rfl))
  (hc : (Region.noSelect ops && Region.free md ops listed i && (Region.ready md ops listed).contains i) = true:=by kernel_rfl) (hw : Region.wanted oi (yielded ops a.tmps) = true:=by kernel_rfl) (hQ : ∀ c a w,Q (.panic c) (a.put d v) w → Q (.panic c) a w:=by exact fun _ _ _ h => h) (hS : S w:=by assumption) : wpAnyH P md ops Q S (fuel + 1) listed a w:=tkA hi hd hv h hc hw hQ hS
theorem tkC {P : Program} {ops : Array Oper} {Q : Exit → Act → World → Prop} {md : Region.Mode} {S : World → Prop} {i : Nat} {oi : Oper} {v : Value} {fuel : Nat} {listed : Array Bool} {a : Act} {w : World} (hi : ops[i]? = some oi) (h : wpAnyH P md ops Q S fuel (listed.setIfInBounds i true) (a.put oi.dst v) w) (hv : ∀ w,S w → (execOp a.eval oi).run P w = .ok (.value v) w:=by (intro w h;(try dsimp only at h);go_simp;try with_reducible rfl))
  (hc : (Region.noSelect ops && Region.free md ops listed i && (Region.ready md ops listed).contains i) = true:=by kernel_rfl) (hw : Region.wanted oi (yielded ops a.tmps) = true:=by rfl) (hQ : ∀ c a w,Q (.panic c) (a.put oi.dst v) w → Q (.panic c) a w:=by exact fun _ _ _ h => h) (hS : S w:=by assumption) : wpAnyH P md ops Q S (fuel + 1) listed a w:=tkH hi hv h hc hw hQ hS
theorem rdA {P : Program} {ops : Array Oper} {Q : Exit → Act → World → Prop} {md : Region.Mode} {S : World → Prop} {i : Nat} {o : Oper} {fuel : Nat} {listed : Array Bool} {a : Act} {w : World} {rs : List Nat} (h : ∀ K : Act → World → Prop,Shut (∀ a w,S w → (S w → wpAnyH P md ops Q S fuel (listed.setIfInBounds i true) a w) → K a w) → Oper.wp P o a w K Q) (hs : AllReadyH P md ops Q S fuel listed a w rs) (ho : ops[i]? = some o:=by kernel_rfl) (hw : Region.wanted o (yielded ops a.tmps) = true:=by kernel_rfl) : AllReadyH P md ops Q S fuel listed a w (i :: rs):=AllReadyH.cons ho (fun K hK => by rw [if_pos hw]; exact h K hK) hs
theorem rdY {P : Program} {ops : Array Oper} {Q : Exit → Act → World → Prop} {md : Region.Mode} {S : World → Prop} {rs : List Nat} {fuel : Nat} {listed : Array Bool} {a : Act} {w : World} (h : AllReadyH P md ops Q S fuel listed a w rs) (hr : Region.ready md ops listed = rs:=by kernel_rfl) (hne : rs ≠ []:=by simp) : wpAnyH P md ops Q S (fuel + 1) listed a w:=wpAnyH_ready hr hne h
theorem rN {P : Program} {ops : Array Oper} {Q : Exit → Act → World → Prop} {md : Region.Mode} {S : World → Prop} {fuel : Nat} {listed : Array Bool} {a : Act} {w : World} : AllReadyH P md ops Q S fuel listed a w []:=AllReadyH.nil
structure aJ (S : Nat → Prop) (w w' : World) : Prop where
 os : w'.os = w.os
 tape : w'.tape = w.tape
 output : w'.output = w.output
 size : w.heap.size ≤ w'.heap.size
 block : ∀ k,k < w.heap.size → ¬ S k → w'.heap[k]? = w.heap[k]?
theorem aJ.refl (S : Nat → Prop) (w : World) : aJ S w w:=⟨rfl,rfl,rfl,Nat.le_refl _,fun _ _ _ => rfl⟩
theorem aJ.trans {S : Nat → Prop} {w w1 w2 : World} (h1 : aJ S w w1) (h2 : aJ S w1 w2) : aJ S w w2 :=
 ⟨h2.os.trans h1.os,h2.tape.trans h1.tape,h2.output.trans h1.output,Nat.le_trans h1.size h2.size,
  fun k hk hs => (h2.block k (Nat.lt_of_lt_of_le hk h1.size) hs).trans (h1.block k hk hs)⟩
theorem aJ.then {S T : Nat → Prop} {w w1 w2 : World} (h1 : aJ S w w1) (h2 : aJ T w1 w2) (h : ∀ k,k < w.heap.size → T k → S k) : aJ S w w2 :=
 ⟨h2.os.trans h1.os,h2.tape.trans h1.tape,h2.output.trans h1.output,Nat.le_trans h1.size h2.size,
  fun k hk hs => (h2.block k (Nat.lt_of_lt_of_le hk h1.size) (fun ht => hs (h k hk ht))).trans (h1.block k hk hs)⟩
theorem aJ.of_grown {w w' : World} {r : Option Nat} (h : w.grownBy w' r) : aJ (fun k => some k = r) w w':=⟨h.os,h.tape,h.output,h.size,fun k hk hs => h.block k hk hs⟩
theorem aJ.alloc (S : Nat → Prop) (w : World) (o : Obj) : aJ S w (w.alloc o):=by
 have h:=(Below.refl w.heap.size w).alloc (Nat.le_refl _) o
 exact ⟨h.os,h.tape,h.output,h.size,fun k hk _ => h.block k hk⟩
theorem aJ.of_below {B : Nat} {w w' : World} (h : Below B w w') : aJ (fun k => B ≤ k) w w':=⟨h.os,h.tape,h.output,h.size,fun k hk hs => h.block k ae⟩
theorem aJ.to_below {S : Nat → Prop} {B : Nat} {w w' : World} (h : aJ S w w') (hB : B ≤ w.heap.size) (hS : ∀ k,k < B → ¬ S k) : Below B w w':=⟨h.os,h.tape,h.output,h.size,fun k hk => h.block k ae (hS k hk)⟩
theorem aJ.mono {S T : Nat → Prop} {w w' : World} (h : aJ S w w') (hS : ∀ k,S k → T k) : aJ T w w':=⟨h.os,h.tape,h.output,h.size,fun k hk hs => h.block k hk (fun x => hs (hS k x))⟩
theorem aJ.drewN (S : Nat → Prop) (w : World) (m : Nat) : aJ S w (w.drewN m):=by
 have h:=below_drewN (Below.refl w.heap.size w) m
 exact ⟨h.os,h.tape,h.output,h.size,fun k hk _ => h.block k hk⟩
theorem lm {w w' : World} {b : Nat} (h : w'.heap[b]? = w.heap[b]?) (o : Nat) : w'.cell? ⟨b,o,none⟩ = w.cell? ⟨b,o,none⟩:=by
 simp only [World.cell?,h]
theorem bH {w w' : World} {b : Nat} (h : w'.heap[b]? = w.heap[b]?) (o : Nat) : w'.frozen? ⟨b,o,none⟩ = w.frozen? ⟨b,o,none⟩:=by
 simp only [World.frozen?,h]
theorem aJ.cell {S : Nat → Prop} {w w' : World} (h : aJ S w w') {b o : Nat} {v : Value} (hc : w.cell? ⟨b,o,none⟩ = some v) (hs : ¬ S b) : w'.cell? ⟨b,o,none⟩ = some v :=
 (lm (h.block b (block_lt_of_cell hc) hs) o).trans hc
def Row (w : World) (e : TypeId) (B n cap : Nat) (xs : List Value) : Prop:=w.ownsRow 0 e 1 (.slice (some ⟨B,0,none⟩) n cap) n xs
theorem Row.of {w : World} {base : Nat} {e : TypeId} {B n cap : Nat} {xs : List Value} (h : w.ownsRow base e 1 (.slice (some ⟨B,0,none⟩) n cap) n xs) : Row w e B n cap xs:=by
 exact Ax
theorem Row.block {w : World} {e : TypeId} {B n cap : Nat} {xs : List Value} (h : Row w e B n cap xs) : ∃ cur,w.heap[B]? = some (.cells cur e) ∧ n ≤ cap ∧ cap ≤ maxLen ∧ cur.size = cap ∧ cur.toList.take n = xs:=by
 rcases h.2 with ⟨h,_⟩ | ⟨g,cp,cur,h1,_,h3,h4,h5,h6,h7⟩
 ·cases h
 ·simp at h1
  obtain ⟨rfl,rfl⟩:=h1
  exact ⟨cur,h3,h4,h5,by simpa using h6,by simpa using h7⟩
theorem Row.lt {w : World} {e : TypeId} {B n cap : Nat} {xs : List Value} (h : Row w e B n cap xs) : B < w.heap.size:=by
 exact GZ
theorem gF {w w' : World} {base : Nat} {e : TypeId} {v : Value} {n : Nat} {xs : List Value} (h : w.ownsRow base e 1 v n xs) (hk : ∀ B,v.ownBlock = some B → w'.heap[B]? = w.heap[B]?) : w'.ownsRow base e 1 v n xs:=by
 exact FZ
theorem Row.keep {w w' : World} {e : TypeId} {B n cap : Nat} {xs : List Value} (h : Row w e B n cap xs) (hk : w'.heap[B]? = w.heap[B]?) : Row w' e B n cap xs :=
 gF h (fun b hb => by
  obtain rfl : B = b:=uF;exact hk)
theorem Row.kept {S : Nat → Prop} {w w' : World} {e : TypeId} {B n cap : Nat} {xs : List Value} (h : Row w e B n cap xs) (hk : aJ S w w') (hs : ¬ S B) : Row w' e B n cap xs:=h.keep (hk.block B h.lt hs)
theorem Row.cell {w : World} {e : TypeId} {B n cap : Nat} {xs : List Value} (h : Row w e B n cap xs) (j : Nat) (hj : j < n) : w.cell? ⟨B,j,none⟩ = xs[j]?:=World.ownsRow.cellAt h j ae
theorem Row.free {w : World} {e : TypeId} {B n cap : Nat} {xs : List Value} (h : Row w e B n cap xs) (j : Nat) : w.frozen? ⟨B,j,none⟩ = false:=World.ownsRow.frozenAt h j
theorem Row.put {w : World} {e : TypeId} {B n cap : Nat} {xs : List Value} (h : Row w e B n cap xs) (j : Nat) (u : Value) : Row (w.setCell ⟨B,j,none⟩ u) e B n cap (xs.set j u) ∧ aJ (fun k => k = B) w (w.setCell ⟨B,j,none⟩ u):=by
 have:=World.ownsRow.stored h j u
 exact ⟨this.1,(aJ.of_grown this.2).mono (fun k hk => by simpa using hk)⟩
theorem iy {w : World} {base base' : Nat} {e : TypeId} {v : Value} {n : Nat} {xs : List Value} (h : w.ownsRow base e 1 v n xs) (hb : base' ≤ base) : w.ownsRow base' e 1 v n xs:=by
 exact IG
theorem hid {P : Prop} (h : P) : Hid P:=h
def fl (n : Nat) (f : Nat → Int) : List Value:=(List.range n).map fun i => Value.int .i64 (f i)
def wo (w : World) (a : Option Addr) (n cap : Nat) (l : List Int) : Prop :=
 l.length = n ∧ n ≤ cap ∧ n ≤ 1099511627776 ∧ (∀ z ∈ l,-9223372036854775808 ≤ z ∧ z ≤ 9223372036854775807) ∧
 (n = 0 ∨ ∃ b off,a = some ⟨b,off,none⟩ ∧ ∀ j,j < n → w.cell? ⟨b,off + j,none⟩ = some (.int .i64 (l.getD j 0)))
theorem wo.keep {S : Nat → Prop} {w w' : World} {a : Option Addr} {n cap : Nat} {l : List Int} (h : wo w a n cap l) (hk : aJ S w w') (hs : ∀ b off,a = some ⟨b,off,none⟩ → n ≠ 0 → ¬ S b) : wo w' a n cap l:=by
 obtain ⟨hz,h1,h2,h3,ha⟩:=h;refine ⟨hz,h1,h2,h3,?_⟩
 by_cases h0 : n = 0
 ·exact .inl h0
 rcases ha with ha | ⟨b,off,e,hc⟩
 ·exact .inl ha
 ·exact .inr ⟨b,off,e,fun j hj => hk.cell (hc j hj) (hs b off e h0)⟩
theorem wo.later {w w' : World} {a : Option Addr} {n cap : Nat} {l : List Int} {B : Nat} (h : wo w a n cap l) (hb : Below B w w') (hB : w.heap.size ≤ B) : wo w' a n cap l:=by
 exact yJ
structure Inx where
 c : Int
 a : Int
 la : Option Addr
 ln : Nat
 lc : Nat
 l : List Int
def dx : Inx:=⟨0,0,none,0,0,[]⟩
theorem pow_pos (k : Nat) : (0 : Int) < 128 ^ k:=Int.pow_pos av
def uf (u : Int) : Int:=if u % 2 = 1 then -(u / 2) - 1 else u / 2
def uv : Nat → Int → List Int
 | 0,v => [v]
 | f + 1,v => if v < 128 then [v] else (v % 128 + 128) :: uv f (v / 128)
def au (v : Int) : List Int:=uv 9 v
theorem MP (f : Nat) : ∀ v,1 ≤ (uv f v).length ∧ (uv f v).length ≤ f + 1:=by
 induction f with
 | zero => intro v; simp [uv]
 | succ f ih =>
  intro v
  by_cases h : v < 128
  ·simp [uv,h]
  ·have:=ih (v / 128)
   simp only [uv,h,if_false,List.length_cons]; omega
theorem AY (V : Int) (k : Nat) (h : V * 128 ^ k < 18446744073709551616) (h0 : 0 ≤ V) : V / 128 * 128 ^ (k + 1) < 18446744073709551616:=by
 have hs : (128 : Int) ^ (k + 1) = 128 * 128 ^ k:=by rw [Int.pow_succ,Int.mul_comm]
 rw [hs,← Int.mul_assoc];have h2 : V / 128 * 128 ≤ V:=ae
 have:=Int.mul_le_mul_of_nonneg_right h2 (Int.le_of_lt (pow_pos k))
 omega
theorem wQ (V : Int) (k : Nat) (h : V * 128 ^ k < 18446744073709551616) (hk : k ≤ 9) (h128 : 128 ≤ V) : k ≤ 8:=by
 by_cases e : k = 9
 ·subst e;have e9 : (128 : Int) ^ 9 = 9223372036854775808:=av;rw [e9] at h;omega
 ·omega
def fo (n : Int) : Int:=if n < 0 then -2 * n - 1 else 2 * n
theorem kG (n : Int) (h0 : -9223372036854775808 ≤ n) (h1 : n < 9223372036854775808) : 0 ≤ fo n ∧ fo n < 18446744073709551616:=by
 unfold fo; split <;> omega
theorem ay (v : Int) : 1 ≤ (au v).length ∧ (au v).length ≤ 10:=MP 9 v
def Seg (w : World) (a : Option Addr) (n cap : Nat) (zs : List Int) : Prop :=
 zs.length = n ∧ n ≤ cap ∧ n ≤ 1099511627776 ∧ (∀ z ∈ zs,0 ≤ z ∧ z ≤ 255) ∧
 (n = 0 ∨ ∃ b off,a = some ⟨b,off,none⟩ ∧ ∀ j,j < n → w.cell? ⟨b,off + j,none⟩ = some (.int .u8 (zs.getD j 0)))
theorem cg (x : Int) (h0 : 0 ≤ x) (h1 : x < 18446744073709551616) : IntKind.u64.wrap x = x:=by
 rw [IntKind.wrap_u64]; exact Int.emod_eq_of_lt h0 h1
theorem i64_in (x : Int) (h0 : -9223372036854775808 ≤ x) (h1 : x < 9223372036854775808) : IntKind.i64.wrap x = x:=by
 simp [IntKind.wrap,IntKind.bits,IntKind.signed]; omega
theorem Tryz.info5 : (Tryz.prog.info? 5).map (fun i => (i.zero,i.size,i.bytes)) = some (some (.int .u8 0),1,1):=aj
def cat (Z : Nat → List Int) : Nat → List Int
 | 0 => []
 | k + 1 => cat Z k ++ Z k
theorem uN (Z : Nat → List Int) (k m : Nat) (h : k ≤ m) : (cat Z k).length ≤ (cat Z m).length:=by
 induction m with
 | zero =>
  obtain rfl : k = 0:=ae;omega
 | succ m ih =>
  by_cases e : k = m + 1
  ·subst e; omega
  ·have:=ih ae; simp only [cat,List.length_append]; omega
theorem j5 (l : List Int) : ∀ u ∈ l.map (Value.int .u8),u.oneCell' = true:=by
 intro u hu;obtain ⟨z,_,rfl⟩:=List.mem_map.1 hu;rfl
theorem jo {w : World} {a : Option Addr} {n cap : Nat} {zs : List Int} (h : Seg w a n cap zs) :
  ∀ ad,a = some ad → ∀ (j : Nat) (u : Value),(zs.map (Value.int .u8))[j]? = some u → w.cell? (ad.add j) = some u:=by
 intro ad had j u hu;obtain ⟨hz,_,_,_,ha⟩:=h
 have hj : j < zs.length:=by
  rcases Nat.lt_or_ge j zs.length with h | h
  ·exact h
  ·simp [List.getElem?_eq_none (show (zs.map (Value.int .u8)).length ≤ j by simpa using h)] at hu
 rcases ha with ha | ⟨b,off,e,hc⟩
 ·omega
 ·rw [had] at e
  simp at e
  subst e
  have:=hc j ae
  have hplain : (⟨b,off,none⟩ : Addr).add j = ⟨b,off + j,none⟩:=gS;rw [hplain,this]
  simp [aN hj] at hu
  subst hu
  simp [List.getD,aN hj]
theorem Seg.later {w w' : World} {a : Option Addr} {n cap : Nat} {zs : List Int} {B : Nat} (h : Seg w a n cap zs) (hb : Below B w w') (hB : w.heap.size ≤ B) : Seg w' a n cap zs:=by
 exact yJ
theorem Seg.drewN {w : World} {a : Option Addr} {n cap : Nat} {zs : List Int} (h : Seg w a n cap zs) (m : Nat) : Seg (w.drewN m) a n cap zs:=by
 obtain ⟨hz,h1,h2,h3,ha⟩:=h;refine ⟨hz,h1,h2,h3,?_⟩
 rcases ha with ha | ⟨b,off,e,hc⟩
 ·exact .inl ha
 ·exact .inr ⟨b,off,e,fun j hj => by rw [World.cell?_drewN]; exact hc j hj⟩
theorem CT (P m cp : Nat) (A : Nat → Option Addr) (L C : Nat → Nat) (Z : Nat → List Int) (w : World) (hm : m ≤ 1000)
  (hp : ∀ j,j < m → w.cell? ⟨P,j,none⟩ = some (.slice (A j) (L j) (C j)))
  (hs : ∀ j,j < m → Seg w (A j) (L j) (C j) (Z j) ∧ (A j = none → C j = 0)) (hN : (cat Z m).length ≤ 1099511627776) (hPw : P < w.heap.size) :
  Calls Tryz.prog 329 #[.slice (some ⟨P,0,none⟩) m cp] w fun e w' => e = .returned (.slice (some ⟨w.heap.size,0,none⟩) (cat Z m).length (cat Z m).length) ∧
   w'.ownsRow w.heap.size 5 1 (.slice (some ⟨w.heap.size,0,none⟩) (cat Z m).length (cat Z m).length) (cat Z m).length ((cat Z m).map (Value.int .u8)) ∧ Below w.heap.size w w':=by
 obtain ⟨i0,hi,hz0,hz1,hz2⟩:=info_parts Tryz.info5;have hb2 : i0.bytes * (cat Z m).length ≤ 281474976710656:=iV;have hml : (cat Z m).length ≤ maxLen:=bU
 go_enter Tryz.func329,Tryz.ntmps329
 go_wp2
 go_loop [3,11] (fun s i => ∃ k : Nat,k ≤ m ∧ i = .int .i64 k ∧ s = .int .i64 (cat Z k).length) (fun _ i => m - (intOf i).toNat)
 case atStart => exact ⟨0,ae,rfl,rfl⟩
 case round =>
  obtain ⟨k,hk,rfl,rfl⟩:=hrel
  by_cases hlt : k < m
  ·have hcell:=hp k hlt;have hlen:=(hs k hlt).1.1;have hmo:=uN Z (k + 1) m ae
   have HC:=hid (show (cat Z (k + 1)).length = (cat Z k).length + L k by simp [cat,hlen])
   have hle : (cat Z k).length + L k ≤ 1099511627776:=by have:=HC.out; omega
   clear hp hs hlen hmo hb2 hml hi hz0 hz1 hz2 hN;go_wp2
   go_round
   case rel => exact ⟨k + 1,ae,bB,by rw [HC.out]; go_num⟩
   case measure => simp [intOf]; omega
  ·obtain rfl : k = m:=ae
   go_wp2_with (first | (at_make; refine wpList_make_own _ rfl _ _ 63 rfl w.heap.size 5 i0 (.int .u8 0) 1 Tryz.underlying63 hi hz0 hz1 .i64 .i64 _ (cat Z k).length rfl rfl rfl hb2 hml (Nat.le_refl _) ?_; intro w1 hown hgrow))
   have hbel : Below w.heap.size w w1:=(Below.refl _ _).grown hgrow (Nat.le_refl _) aq;clear hgrow
   go_loopw [6,24] (fun v i wr => ∃ j : Nat,j ≤ k ∧ i = .int .i64 j ∧ v = .slice (some ⟨w.heap.size,0,none⟩) (cat Z j).length (cat Z k).length ∧
    wr.ownsRow w.heap.size 5 1 (.slice (some ⟨w.heap.size,0,none⟩) (cat Z j).length (cat Z k).length) (cat Z j).length ((cat Z j).map (Value.int .u8)) ∧ Below w.heap.size w wr) (fun _ i _ => k - (intOf i).toNat)
   case atStart => exact ⟨0,ae,rfl,rfl,hown,hbel⟩
   case round =>
    obtain ⟨j,hj,rfl,rfl,hownr,hb⟩:=hrel;clear hown hbel
    by_cases hjk : j < k
    ·have hcell : wr.cell? ⟨P,j,none⟩ = some (.slice (A j) (L j) (C j)):=(hb.cell (p:=⟨P,j,none⟩) hPw).trans (hp j hjk);obtain ⟨hseg,hnone⟩:=hs j hjk;have hsl:=hseg.later hb (Nat.le_refl _)
     have hnn : A j = none → L j = 0 ∧ C j = 0:=fun h => ⟨by have:=hnone h; have:=hseg.2.1; omega,hnone h⟩
     have hcl:=jo hsl
     have hlen : ((Z j).map (Value.int .u8)).length = L j * 1:=by simp [hseg.1]
     have hmo:=uN Z (j + 1) k ae
     have HC:=hid (show (cat Z (j + 1)).length = (cat Z j).length + L j by simp [cat,hseg.1])
     have hroom : (cat Z j).length + L j ≤ (cat Z k).length:=by have:=HC.out; omega
     have HB:=hid hb;have HO:=hid hownr;have HL:=hid hcl;have HN:=hid hnn;clear hp hs hb hownr hseg hnone hsl hcl hnn hmo
     go_wp2_with (first | (at_builtin; refine wpList_append_fits_any _ rfl _ _ 63 rfl w.heap.size 5 i0 1 Tryz.underlying63 hi hz1 w.heap.size (cat Z j).length (cat Z k).length _ rfl HO.out (A j) (L j) (C j) ((Z j).map (Value.int .u8)) rfl hlen HN.out HL.out (j5 _) hroom ?_; intro w2 hown2 hgrow2))
     have hb2' : Below w.heap.size w w2:=HB.out.grown hgrow2 (HB.out.size) aq
     have ho2 : w2.ownsRow w.heap.size 5 1 (.slice (some ⟨w.heap.size,0,none⟩) (cat Z (j + 1)).length (cat Z k).length) (cat Z (j + 1)).length ((cat Z (j + 1)).map (Value.int .u8)):=by
      rw [HC.out]; simp only [cat,List.map_append]; exact hown2
     exact ⟨⟨j + 1,ae,bB,by rw [HC.out],ho2,hb2'⟩,bD⟩
    ·obtain rfl : j = k:=ae;clear hp hs;go_wp2;go_ret;exact ⟨rfl,hownr,hb⟩
theorem Ai {w : World} {B n cap : Nat} {zs : List Int} {base : Nat} (h : w.ownsRow base 5 1 (.slice (some ⟨B,0,none⟩) n cap) n (zs.map (Value.int .u8))) (hl : zs.length = n) (hn : n ≤ 1099511627776) (hr : ∀ z ∈ zs,0 ≤ z ∧ z ≤ 255) (hcap : n ≤ cap) :
  Seg w (some ⟨B,0,none⟩) n cap zs:=by
 refine ⟨hl,hcap,hn,hr,.inr ⟨B,0,rfl,fun j hj => ?_⟩⟩
 rw [Nat.zero_add,h.cellAt j ae];have hj' : j < zs.length:=ae
 simp [hj']
theorem CH (Z : Nat → List Int) (m : Nat) (h : ∀ j,j < m → ∀ z ∈ Z j,0 ≤ z ∧ z ≤ 255) : ∀ z ∈ cat Z m,0 ≤ z ∧ z ≤ 255:=by
 induction m with
 | zero => intro z hz; simp [cat] at hz
 | succ m ih =>
  intro z hz
  simp only [cat,List.mem_append] at hz
  rcases hz with hz | hz
  ·exact ih (fun j hj => h j ae) z hz
  ·exact h m ae z hz
theorem Ij (P m cp : Nat) (A : Nat → Option Addr) (L C : Nat → Nat) (Z : Nat → List Int) (w : World) (hm : m ≤ 1000)
  (hp : ∀ j,j < m → w.cell? ⟨P,j,none⟩ = some (.slice (A j) (L j) (C j)))
  (hs : ∀ j,j < m → Seg w (A j) (L j) (C j) (Z j) ∧ (A j = none → C j = 0)) (hN : (cat Z m).length ≤ 1099511627776) (hPw : P < w.heap.size) (h0 : 0 < (cat Z m).length) :
  Calls Tryz.prog 329 #[.slice (some ⟨P,0,none⟩) m cp] w fun e w' => e = .returned (.slice (some ⟨w.heap.size,0,none⟩) (cat Z m).length (cat Z m).length) ∧
   Seg w' (some ⟨w.heap.size,0,none⟩) (cat Z m).length (cat Z m).length (cat Z m) ∧ Below w.heap.size w w' ∧ w.heap.size < w'.heap.size:=by
 refine (CT P m cp A L C Z w hm hp hs hN hPw).mono fun e w' ⟨he,ho,hb⟩ => ?_
 have hseg:=Ai ho rfl hN (CH Z m fun j hj => (hs j hj).1.2.2.2.1) (Nat.le_refl _)
 refine ⟨he,hseg,hb,?_⟩
 rcases hseg.2.2.2.2 with h | ⟨b,off,e1,hc⟩
 ·omega
 ·have:=hc 0 h0
  simp at e1
  have:=block_lt_of_cell this
  simp only at this
  omega
theorem Mt {V : Int} (h0 : 0 ≤ V) (h1 : V < 18446744073709551616) : bits .and .u64 V 127 = V % 128:=by
 rw [u64_and V 127 h0 h1 av av]
 simp only [Int.reduceToNat]
 rw [nat_mask7]; omega
theorem Ob {c : Int} (h0 : 0 ≤ c) (h1 : c < 128) : bits .or .u8 c 128 = c + 128:=by
 rw [u8_or c 128 h0 ae av av]
 simp only [Int.reduceToNat]
 rw [Nat.or_comm,nat_join 7 128 c.toNat av (by simp only [Nat.reducePow]; omega)]
 omega
theorem LY (pre : List Int) (k m : Nat) (c : Int) (h : pre.length = k) : ((pre ++ List.replicate (m + 1) 0).map (Value.int .u8)).set k (.int .u8 c) = ((pre ++ [c]) ++ List.replicate m 0).map (Value.int .u8):=by
 subst h;rw [← List.map_set]
 congr 1
 rw [List.set_append_right _ _ ae]
 simp [List.replicate_succ]
theorem Gw {w wr : World} {pre : List Int} {k : Nat} (c : Int) (hk : k ≤ 9) (hp : pre.length = k)
  (hown : wr.ownsRow w.heap.size 379 1 (.slice (some ⟨w.heap.size,0,none⟩) 10 10) 10 ((pre ++ List.replicate (10 - k) 0).map (Value.int .u8))) (hb : Below w.heap.size w wr) :
  (wr.setCell ⟨w.heap.size,k,none⟩ (.int .u8 c)).ownsRow w.heap.size 379 1 (.slice (some ⟨w.heap.size,0,none⟩) 10 10) 10 (((pre ++ [c]) ++ List.replicate (10 - (k + 1)) 0).map (Value.int .u8)) ∧
   Below w.heap.size w (wr.setCell ⟨w.heap.size,k,none⟩ (.int .u8 c)):=by
 have h:=hown.stored k (.int .u8 c);have e : 10 - k = 10 - (k + 1) + 1:=ae;rw [e,LY pre k _ c hp] at h;exact ⟨h.1,hb.setCell aq _⟩
theorem Tryz.len379 : Tryz.prog.arrayLen 379 = 10:=aj
theorem Tryz.und379 : Tryz.prog.underlying 379 = some (.array (Tryz.prog.arrayLen 379) (Tryz.prog.elem 379)):=aj
theorem Tryz.size379 (w : World) : (sizeOf (Tryz.prog.elem 379)).run Tryz.prog w = .ok 1 w:=aj
theorem tq (B k : Nat) (hk : k ≤ 9) (w : World) :
  (Instr.sliceAt 379 (.pointer (some ⟨B,0,none⟩)) none (some (.int .i64 ((k : Int) + 1))) none).run Tryz.prog w = .ok (.slice (some ⟨B,0,none⟩) (k + 1) 10) w:=by
 rw [run_sliceAt_array_h w 379 ⟨B,0,none⟩ Tryz.und379 .i64 ((k : Int) + 1) ae (by rw [Tryz.len379]; omega),Tryz.size379]
 have e : ((k : Int) + 1).toNat = k + 1:=ae
 simp only [Result.andThen,slicedAt,Tryz.len379,e]
 simp [Addr.add]
theorem xN {w W : World} {k : Nat} {V v : Int} {pre : List Int} (hk : k ≤ 9) (hp : pre.length = k) (hV : 0 ≤ V) (hV1 : V < 128) (huv : au v = pre ++ [V]) (hpr : ∀ z ∈ pre,0 ≤ z ∧ z ≤ 255)
  (ho : W.ownsRow w.heap.size 379 1 (.slice (some ⟨w.heap.size,0,none⟩) 10 10) 10 (((pre ++ [V]) ++ List.replicate (10 - (k + 1)) 0).map (Value.int .u8))) (hb : Below w.heap.size w W) (hsz : W.heap.size = w.heap.size + 1) :
  Calls Tryz.prog 329 #[.slice (some ⟨w.heap.size + 1,0,none⟩) 1 1] (W.alloc (iB (some ⟨w.heap.size,0,none⟩) (k + 1) 10)) fun e w' =>
   e = .returned (.slice (some ⟨w.heap.size + 2,0,none⟩) (au v).length (au v).length) ∧
   Seg w' (some ⟨w.heap.size + 2,0,none⟩) (au v).length (au v).length (au v) ∧ Below w.heap.size w w' ∧ w.heap.size + 2 < w'.heap.size:=by
 have hlen : (au v).length = k + 1:=by rw [huv]; simp [hp]
 have hr : ∀ z ∈ au v,0 ≤ z ∧ z ≤ 255:=by
  intro z hz;rw [huv] at hz;exact AV
 have hseg : Seg W (some ⟨w.heap.size,0,none⟩) (k + 1) 10 (au v):=by
  refine ⟨hlen,ae,ae,hr,.inr ⟨_,0,rfl,fun j hj => ?_⟩⟩
  rw [Nat.zero_add,ho.cellAt j ae,huv]
  have hj' : j < (pre ++ [V]).length:=by simp [hp]; omega
  rw [List.getElem?_map,List.getElem?_append_left hj']
  simp [aN hj']
 have hba : Below W.heap.size W (W.alloc (iB (some ⟨w.heap.size,0,none⟩) (k + 1) 10)):=(Below.refl _ _).alloc (Nat.le_refl _) _
 have hs2 : (W.alloc (iB (some ⟨w.heap.size,0,none⟩) (k + 1) 10)).heap.size = w.heap.size + 2:=by simp [hsz]
 have hc1 : cat (fun _ => au v) 1 = au v:=by simp [cat]
 have J:=Ij (w.heap.size + 1) 1 1 (fun _ => some ⟨w.heap.size,0,none⟩) (fun _ => k + 1) (fun _ => 10) (fun _ => au v) (W.alloc (iB (some ⟨w.heap.size,0,none⟩) (k + 1) 10)) ae
  (fun j hj => by
   obtain rfl : j = 0:=ae
   rw [← hsz]; simp)
  (fun j _ => ⟨hseg.later hba (Nat.le_refl _),fun h => cw⟩) (by rw [hc1]; omega) (by rw [hs2]; omega) (by rw [hc1]; omega)
 rw [hc1,hs2] at J
 refine J.mono fun e w' ⟨he,hsg,hbl,hz⟩ => ⟨he,hsg,?_,hz⟩
 exact (hb.trans (hba.mono ae)).trans (hbl.mono ae)
theorem uJ (v : Int) (w : World) (h0 : 0 ≤ v) (h1 : v < 18446744073709551616) :
  Calls Tryz.prog 325 #[.int .u64 v] w fun e w' => e = .returned (.slice (some ⟨w.heap.size + 2,0,none⟩) (au v).length (au v).length) ∧
   Seg w' (some ⟨w.heap.size + 2,0,none⟩) (au v).length (au v).length (au v) ∧ Below w.heap.size w w' ∧ w.heap.size + 2 < w'.heap.size:=by
 go_enter Tryz.func325,Tryz.ntmps325
 go_wp2
 go_loopw [0,4] (fun x i wr => ∃ (k : Nat) (V : Int) (pre : List Int),k ≤ 9 ∧ i = .int .i64 k ∧ x = .int .u64 V ∧ pre.length = k ∧ 0 ≤ V ∧ V < 18446744073709551616 ∧ V * 128 ^ k < 18446744073709551616 ∧ au v = pre ++ uv (9 - k) V ∧ (∀ z ∈ pre,0 ≤ z ∧ z ≤ 255) ∧
   wr.ownsRow w.heap.size 379 1 (.slice (some ⟨w.heap.size,0,none⟩) 10 10) 10 ((pre ++ List.replicate (10 - k) 0).map (Value.int .u8)) ∧ Below w.heap.size w wr ∧ wr.heap.size = w.heap.size + 1) (fun x _ _ => (intOf x).toNat)
 case atStart =>
  exact ⟨0,v,[],ae,rfl,rfl,rfl,h0,h1,nP,rfl,aq,World.ownsRow_lit w _ 10 (Nat.le_refl _) av rfl,(Below.refl _ _).alloc (Nat.le_refl _) _,aq⟩
 case round =>
  obtain ⟨k,V,pre,hk,rfl,rfl,hpl,hV0,hV1,hroom,huv,hpr,hown,hb,hsz⟩:=hrel
  have hcl : ∃ u,wr.cell? ⟨w.heap.size,k,none⟩ = some u:=by
   have:=hown.cellAt k ae
   exact ⟨_,this.trans (aN (by simp [hpl]; omega))⟩
  obtain ⟨u0,hcl⟩:=hcl;have hfz:=hown.frozenAt k
  have HS:=hid (fun c => Gw c hk hpl hown hb)
  have HU:=hid huv;have HP:=hid hpl;have HR:=hid hroom;clear huv hown hb hpl hroom
  by_cases h128 : 128 ≤ V
  ·have hk8:=wQ V k HR.out hk h128;have hand:=Mt hV0 hV1;have hor:=Ob (c:=V % 128) ae ae
   have HN:=hid (show au v = (pre ++ [V % 128 + 128]) ++ uv (9 - (k + 1)) (V / 128) by
    rw [HU.out,show 9 - k = 9 - (k + 1) + 1 by omega]
    have hn : ¬ V < 128:=ae
    simp [uv,hn])
   go_wp2;have R:=HS.out (V % 128 + 128)
   refine ⟨⟨k + 1,V / 128,pre ++ [V % 128 + 128],ae,bB,rfl,by simp [HP.out],ae,ae,AY V k HR.out hV0,HN.out,?_,R.1,R.2,by simp [hsz]⟩,bD⟩
   intro z hz;exact AV
  ·have hsl:=tq w.heap.size k hk
   have HF:=hid (show au v = pre ++ [V] by
    rw [HU.out]
    cases h9 : 9 - k with
    | zero => rfl
    | succ f =>
     have hn : V < 128:=ae
     simp [uv,hn])
   have HJ:=hid (xN hk HP.out hV0 ae HF.out hpr (HS.out V).1 (HS.out V).2 (by simp [hsz]))
   go_wp2_with (first | (go_at_call 329; refine HJ.out.mono ?_; rintro e w' ⟨rfl,hseg,hbl,hz⟩))
   go_ret;exact ⟨rfl,hseg,hbl,hz⟩
theorem nA {w w' : World} {base : Nat} {v : Value} {n : Nat} {xs : List Value} (hown : w.ownsRow base 5 1 v n xs) (hg : w.grownBy w' v.ownBlock) (hbase : base ≤ w.heap.size) : Below base w w':=by
 refine ⟨hg.os,hg.tape,hg.output,hg.size,fun k hk => hg.block k ae ?_⟩
 rcases hown.2 with ⟨rfl,_⟩ | ⟨g,cap,cur,rfl,hbg,_⟩
 ·simp [Value.ownBlock]
 ·simp [Value.ownBlock]; omega
theorem iK (w : World) {ops : Array Oper} {rest : List Oper} {o : Oper} {a : Act} {Q : Exit → Act → World → Prop} (hgd : o.guard = none)
  (s x : Operand) (ho : o.op = Op.call { callee:=Callee.builtin Builtin.append,args:=#[s,x],argTypes:=#[63,63] }) (base : Nat) (v : Value) (n : Nat) (xs : List Int)
  (hs : a.eval s = v) (hown : w.ownsRow base 5 1 v n (xs.map (Value.int .u8))) (ao : Option Addr) (m c : Nat) (zs : List Int) (hx : a.eval x = .slice ao m c)
  (hseg : Seg w ao m c zs) (hnone : ao = none → c = 0) (hb : n + m ≤ 1099511627776) (hbase : base ≤ w.heap.size)
  (h : ∀ (v' : Value) (w' : World),w'.ownsRow base 5 1 v' (n + m) ((xs ++ zs).map (Value.int .u8)) → Below base w w' → wpList Tryz.prog ops Q rest (a.put o.dst v') w') :
  wpList Tryz.prog ops Q (o :: rest) a w:=by
 obtain ⟨i0,hi,hz0,hz1,hz2⟩:=info_parts Tryz.info5
 cases ao with
 | none =>
  have hc:=hnone rfl;subst hc
  have hm : m = 0:=by have:=hseg.2.1; omega
  subst hm;have hzs : zs = []:=List.eq_nil_of_length_eq_zero hseg.1;subst hzs;refine wpList_append_own_none hgd s x 63 ho base 5 i0 1 Tryz.underlying63 hi v n _ hs hown hx ?_;refine h v w ?_ (Below.refl _ _)
  simpa using hown
 | some ad =>
  refine wpList_append_own w hgd s x 63 ho base 5 i0 (.int .u8 0) 1 1 Tryz.underlying63 hi hz0 hz1 hz2 rfl av v n _ hs hown ad m c (zs.map (Value.int .u8)) hx (by simp [hseg.1])
   (jo hseg ad rfl) (j5 _) bU ae hbase ?_
  exact Ap
theorem iz {w : World} {base : Nat} {v : Value} {n : Nat} {zs : List Int} (h : w.ownsRow base 5 1 v n (zs.map (Value.int .u8))) (hn : n ≤ 1099511627776) (hr : ∀ z ∈ zs,0 ≤ z ∧ z ≤ 255) :
  ∃ a c,v = .slice a n c ∧ Seg w a n c zs ∧ (a = none → c = 0):=by
 have hl : zs.length = n:=by have:=h.1; simpa using this
 rcases h.2 with ⟨rfl,rfl⟩ | ⟨g,cap,cur,rfl,hbg,hh,hnc,_⟩
 ·exact ⟨none,0,rfl,⟨hl,Nat.le_refl _,hn,hr,.inl rfl⟩,fun _ => rfl⟩
 ·exact ⟨_,cap,rfl,Ai h hl hn hr hnc,fun h => cw⟩
theorem FM (x : Int) (h0 : 0 ≤ x) (h1 : x < 18446744073709551616) : bits .xor .u64 x 18446744073709551615 = 18446744073709551615 - x:=by
 obtain ⟨a,rfl⟩:=Int.eq_ofNat_of_zero_le h0
 show IntKind.u64.wrap ((BitVec.ofInt 64 (a : Int) ^^^ BitVec.ofInt 64 18446744073709551615).toNat : Int) = _
 have e1 : BitVec.ofInt 64 18446744073709551615 = BitVec.allOnes 64:=av;rw [e1,BitVec.xor_allOnes,BitVec.toNat_not,ofInt_u64 a ae,IntKind.wrap_u64];omega
theorem Ec (x : Int) (h0 : 0 ≤ x) (h1 : x < 18446744073709551616) : bits .xor .u64 x 0 = x:=by
 obtain ⟨a,rfl⟩:=Int.eq_ofNat_of_zero_le h0
 show IntKind.u64.wrap ((BitVec.ofInt 64 (a : Int) ^^^ BitVec.ofInt 64 0).toNat : Int) = _
 have e1 : BitVec.ofInt 64 0 = 0#64:=av;rw [e1,BitVec.xor_zero,ofInt_u64 a ae,IntKind.wrap_u64];omega
theorem MH (v : Int) (h : 0 ≤ v) (h1 : v < 9223372036854775808) : bits .xor .u64 (v * 2) (v / 9223372036854775808) = fo v:=by
 have e : v / 9223372036854775808 = 0:=ae;rw [e,Ec _ ae ae];unfold fo
 rw [if_neg ae]; omega
theorem Nr (v : Int) (h : v < 0) (h0 : -9223372036854775808 ≤ v) : bits .xor .u64 (IntKind.u64.wrap (IntKind.u64.wrap v * 2)) (IntKind.u64.wrap (v / 9223372036854775808)) = fo v:=by
 have e : v / 9223372036854775808 = -1:=ae;rw [e];have e1 : IntKind.u64.wrap (-1) = 18446744073709551615:=av
 have e2 : IntKind.u64.wrap (IntKind.u64.wrap v * 2) = 18446744073709551616 + 2 * v:=by
  rw [IntKind.wrap_u64,IntKind.wrap_u64]; omega
 rw [e1,e2,FM _ ae ae];unfold fo
 rw [if_pos h]; omega
theorem M4 (v : Int) (w : World) (h0 : -9223372036854775808 ≤ v) (h1 : v < 9223372036854775808) :
  Calls Tryz.prog 331 #[.int .i64 v] w fun e w' => e = .returned (.int .u64 (fo v)) ∧ w' = w:=by
 by_cases h : 0 ≤ v
 ·have HF:=hid (MH v h h1);exact zG
 ·have HF:=hid (Nr v ae h0);exact zG
theorem EG (v : Int) (w : World) (h0 : -9223372036854775808 ≤ v) (h1 : v < 9223372036854775808) :
  Calls Tryz.prog 327 #[.int .i64 v] w fun e w' => e = .returned (.slice (some ⟨w.heap.size + 2,0,none⟩) (au (fo v)).length (au (fo v)).length) ∧
   Seg w' (some ⟨w.heap.size + 2,0,none⟩) (au (fo v)).length (au (fo v)).length (au (fo v)) ∧ Below w.heap.size w w' ∧ w.heap.size + 2 < w'.heap.size:=by
 have hr:=kG v h0 h1;have HA:=hid (M4 v w h0 h1);have HB:=hid (uJ (fo v) w hr.1 hr.2);clear hr;generalize fo v = u at *;generalize au u = l at *
 go_enter Tryz.func327,Tryz.ntmps327
 go_wp2_with fail;refine HA.out.mono ?_;rintro e w1 ⟨rfl,rfl⟩;go_wp2_with fail;refine HB.out.mono ?_;rintro e w2 ⟨rfl,hs,hb,hz⟩;go_wp2;go_ret;exact ⟨rfl,hs,hb,hz⟩
def aZ (s : ByteArray) : List Int:=s.data.toList.map fun c => (c.toNat : Int)
theorem eO (s : ByteArray) : (aZ s).length = s.size:=by
 rw [aZ,List.length_map]; exact Array.length_toList
theorem kq (s : ByteArray) : ∀ z ∈ aZ s,0 ≤ z ∧ z ≤ 255:=by
 intro z hz;obtain ⟨c,_,rfl⟩:=List.mem_map.1 hz
 have:=c.toNat_lt
 omega
theorem qF (w : World) (s : ByteArray) (hs : s.size ≤ 1000000) : ∃ c W,(convert 9 63 (.string s)).run Tryz.prog w = .ok (.slice (some ⟨w.heap.size,0,none⟩) s.size c) W ∧
  Seg W (some ⟨w.heap.size,0,none⟩) s.size c (aZ s) ∧ Below w.heap.size w W ∧ W.heap.size = w.heap.size + 1:=by
 refine ⟨_,_,run_bytes_of_string w 9 63 5 s Tryz.underlying9 Tryz.underlying63 Tryz.underlying5,?_,?_,?_⟩
 ·refine ⟨eO s,grownCap_ge _ _ _ _,ae,kq s,.inr ⟨_,0,rfl,fun j hj => ?_⟩⟩
  have hj' : j < s.data.size:=hj;have hb:=bytesRow_at s (grownCap w s.size 0 5) j hj'
  have hlt : j < (bytesRow s (grownCap w s.size 0 5)).size:=by
   rcases Nat.lt_or_ge j (bytesRow s (grownCap w s.size 0 5)).size with h | h
   ·exact h
   ·rw [Array.getElem?_eq_none h] at hb; cases hb
  rw [Nat.zero_add];have : (w.drew.alloc (.cells (bytesRow s (grownCap w s.size 0 5)) 5 ((bytesRow s (grownCap w s.size 0 5)).size,(bytesRow s (grownCap w s.size 0 5)).size + 1))).cell? ⟨w.heap.size,j,none⟩ = (bytesRow s (grownCap w s.size 0 5))[j]? :=
   World.cell?_alloc_mark w.drew _ _ _ j
  rw [this,hb]
  have hjl : j < s.data.toList.length:=by rw [Array.length_toList]; exact hj'
  have e : (aZ s).getD j 0 = ((s.data.toList[j]'hjl).toNat : Int):=by
   simp only [aZ,List.getD_eq_getElem?_getD,List.getElem?_map,aN hjl,Option.map_some,Option.getD_some]
  rw [e,Array.getElem_toList]
 ·exact ((Below.refl _ _).drew).alloc aq _
 ·simp
theorem xJ {w w1 W : World} {l : List Int} {s : ByteArray} {c : Nat} (h1 : Seg w1 (some ⟨w.heap.size + 2,0,none⟩) l.length l.length l) (b1 : Below w.heap.size w w1) (z1 : w.heap.size + 2 < w1.heap.size)
  (h2 : Seg W (some ⟨w1.heap.size,0,none⟩) s.size c (aZ s)) (b2 : Below w1.heap.size w1 W) (z2 : W.heap.size = w1.heap.size + 1) (hl : 1 ≤ l.length) (hl10 : l.length ≤ 10) (hs : s.size ≤ 1000000) :
  Calls Tryz.prog 329 #[.slice (some ⟨W.heap.size,0,none⟩) 2 2]
   (W.alloc (.cells #[.slice (some ⟨w.heap.size + 2,0,none⟩) l.length l.length,.slice (some ⟨w1.heap.size,0,none⟩) s.size c] 63)) fun e w' =>
   e = .returned (.slice (some ⟨W.heap.size + 1,0,none⟩) (l.length + s.size) (l.length + s.size)) ∧
   Seg w' (some ⟨W.heap.size + 1,0,none⟩) (l.length + s.size) (l.length + s.size) (l ++ aZ s) ∧ Below w.heap.size w w' ∧ w.heap.size ≤ W.heap.size + 1 ∧ W.heap.size + 1 < w'.heap.size:=by
 have hba : Below W.heap.size W (W.alloc (.cells #[.slice (some ⟨w.heap.size + 2,0,none⟩) l.length l.length,.slice (some ⟨w1.heap.size,0,none⟩) s.size c] 63)):=(Below.refl _ _).alloc (Nat.le_refl _) _;have hsz : (W.alloc (.cells #[.slice (some ⟨w.heap.size + 2,0,none⟩) l.length l.length,.slice (some ⟨w1.heap.size,0,none⟩) s.size c] 63)).heap.size = W.heap.size + 1:=aq
 have hc : cat (fun j => if j = 0 then l else aZ s) 2 = l ++ aZ s:=by simp [cat]
 have hlen : (l ++ aZ s).length = l.length + s.size:=by rw [List.length_append,eO]
 have b1s:=b1.size
 have J:=Ij W.heap.size 2 2 (fun j => if j = 0 then some ⟨w.heap.size + 2,0,none⟩ else some ⟨w1.heap.size,0,none⟩) (fun j => if j = 0 then l.length else s.size) (fun j => if j = 0 then l.length else c) (fun j => if j = 0 then l else aZ s)
  (W.alloc (.cells #[.slice (some ⟨w.heap.size + 2,0,none⟩) l.length l.length,.slice (some ⟨w1.heap.size,0,none⟩) s.size c] 63)) ae
  (fun j hj => by
   rcases (show j = 0 ∨ j = 1 by omega) with rfl | rfl <;> simp)
  (fun j hj => by
   rcases (show j = 0 ∨ j = 1 by omega) with rfl | rfl
   ·exact ⟨(h1.later b2 (Nat.le_refl _)).later hba (Nat.le_refl _),fun h => cw⟩
   ·exact ⟨h2.later hba (Nat.le_refl _),fun h => cw⟩)
  (by rw [hc,hlen]; omega) (by rw [hsz]; omega) (by rw [hc,hlen]; omega)
 rw [hc,hlen,hsz] at J
 refine J.mono fun e w' ⟨he,hsg,hbl,hz⟩ => ⟨he,hsg,?_,ae,hz⟩
 exact ((b1.trans (b2.mono ae)).trans (hba.mono ae)).trans (hbl.mono ae)
theorem Nj (s : ByteArray) (w : World) (hs : s.size ≤ 1000000) :
  Calls Tryz.prog 328 #[.string s] w fun e w' => ∃ B,e = .returned (.slice (some ⟨B,0,none⟩) ((au s.size).length + s.size) ((au s.size).length + s.size)) ∧
   Seg w' (some ⟨B,0,none⟩) ((au s.size).length + s.size) ((au s.size).length + s.size) (au s.size ++ aZ s) ∧ Below w.heap.size w w' ∧ w.heap.size ≤ B ∧ B < w'.heap.size:=by
 have HB:=hid (uJ s.size w ae ae);have hl:=ay s.size;generalize au s.size = l at *
 go_enter Tryz.func328,Tryz.ntmps328
 go_wp2_with fail;refine HB.out.mono ?_;rintro e w1 ⟨rfl,hs1,hb1,hz1⟩;obtain ⟨c,W,hrun,hsg,hbw,hsz⟩:=qF w1 s hs;have HS1:=hid hs1;have HB1:=hid hb1;have HS2:=hid hsg;have HB2:=hid hbw;have HZ:=hid hsz;clear hs1 hb1 hsg hbw hsz;have HJ:=hid (xJ (w:=w) HS1.out HB1.out hz1 HS2.out HB2.out HZ.out hl.1 ae hs);go_wp2_with fail;refine HJ.out.mono ?_;rintro e w2 ⟨rfl,hs2,hb2,hw,hz2⟩;go_wp2;go_ret;exact ⟨_,rfl,hs2,hb2,hw,hz2⟩
def isL (c : Int) : Bool:=decide (c = 119) || decide (c = 108)
theorem Jb {c : Int} (h : isL c = true) : c < 128:=by
 simp only [isL,Bool.or_eq_true,decide_eq_true_eq] at h; omega
theorem kT (c : Int) : (c = 119 ∧ isL c = true) ∨ (c = 108 ∧ isL c = true) ∨ ((c == 119) = false ∧ (c == 108) = false ∧ isL c = false):=by
 by_cases h : c = 119
 ·exact .inl ⟨h,by subst h; rfl⟩
 by_cases h' : c = 108
 ·exact .inr (.inl ⟨h',by subst h'; rfl⟩)
 ·exact .inr (.inr ⟨pF,by simpa using h',by simp [isL,h,h']⟩)
theorem mn (c : Int) (w : World) : Calls Tryz.prog 187 #[.int .u8 c] w fun e w' => e = .returned (.bool (isL c)) ∧ w' = w:=by
 rcases kT c with ⟨rfl,h⟩ | ⟨rfl,h⟩ | ⟨h1,h2,h⟩
 all_goals
  go_enter Tryz.func187,Tryz.ntmps187
  go_wp2;go_ret
  first | exact ⟨rfl,rfl⟩ | (rw [h]; simp_all)
theorem mz (c : Int) (w : World) : Calls Tryz.prog 214 #[.int .u8 c] w fun e w' => e = .returned (.bool (isL c)) ∧ w' = w:=by
 rcases kT c with ⟨rfl,h⟩ | ⟨rfl,h⟩ | ⟨h1,h2,h⟩
 all_goals
  go_enter Tryz.func214,Tryz.ntmps214
  go_wp2;go_ret
  first | exact ⟨rfl,rfl⟩ | (rw [h]; simp_all)
def eJ (v c : Int) : Bool:=decide (c = 108) || (decide (c = 119) && decide (v < 4294967296))
theorem Mh (v c : Int) (w : World) : Calls Tryz.prog 231 #[.int .u64 v,.int .u8 c] w fun e w' => e = .returned (.bool (eJ v c)) ∧ w' = w:=by
 rcases kT c with ⟨rfl,h⟩ | ⟨rfl,h⟩ | ⟨h1,h2,h⟩
 all_goals
  go_enter Tryz.func231,Tryz.ntmps231
  go_wp2;go_ret
  first | exact ⟨rfl,rfl⟩ | (simp_all [eJ])
theorem OM (k m c : Int) (B : Nat) (w : World) (hm : w.cell? ⟨B,0,none⟩ = some (.int .i64 m)) :
  Calls Tryz.prog 235 #[.int .i64 k,.int .u8 c,.pointer (some ⟨B,0,none⟩)] w fun e w' => e = .returned (.bool (decide (k < m))) ∧ w' = w:=by
 go_enter Tryz.func235,Tryz.ntmps235
 exact pA
end Go.Proofs.YtheefojaplnnoaaGreatDoor

/-
  Texts Heap Own Hid Code Plain ReadA ReadB ReadC Eq Join Uvar.
-/
import Derived.ChangeArms
import Derived.ChangeOld
import Derived.Deep.DeepHandedRow
import Derived.Deep.Strs
import Derived.FnData
import Derived.HandedShaped
import Derived.LaidMore
import Derived.Lay
import Derived.Lib.LaidTab
import Derived.OpenShut
import Derived.ProofKit
import Derived.SevenTiedAt
import Derived.ShutString
import Derived.SizedLaws
import Derived.Stop.LaidErr
import Derived.Carry
import Derived.Deep.AppendLies
import Derived.Deep.AppendSrc
import Derived.Deep.CutRange
import Derived.Deep.RegionWith
import Derived.Defers
import Derived.JoinedOf
import Derived.Laws.AppendOwnNone
import Derived.Laws.BytesArg
import Derived.Lib.AppendIntMem
import Derived.Lib.Builder
import Derived.Lib.Bytealg
import Derived.Lib.CutLaws
import Derived.Lib.FieldsP
import Derived.Lib.ItoaLen
import Derived.Lib.ParseIntBTie
import Derived.Lib.SlBytesConst
import Derived.Lib.SmallJoins
import Derived.LoopIn
import Derived.LoopNIn
import Derived.MapKept
import Derived.OwnWalkIn
import Derived.RangeFuncBox
import Derived.RangeFuncCalls
import Derived.RangeFuncLeaves
import Derived.RangeFuncWrites
import Derived.Recover
import Derived.RegionDies
import Derived.Shelf.Abstract
import Derived.Shelf.LaysC
import Derived.Shelf.LaysM
import Derived.Shelf.RegionOpen
import Derived.Shelf.Small.Strs
import Derived.Shelf.Small.Wraps
import Derived.Shelf.Strconv.Clone
import Derived.Shelf.Strconv.ErrVarParseInt
import Derived.Shelf.Strconv.Itoa0
import Derived.Shelf.Strconv.Itoa1
import Derived.Shelf.Strconv.Itoa2
import Derived.Shelf.Strconv.Itoa3
import Derived.Shelf.Strconv.Itoa4
import Derived.Shelf.Strconv.Lower
import Derived.Shelf.Strconv.ParseInt10
import Derived.Shelf.Strconv.ParseInt10All
import Derived.Shelf.Strconv.ParseInt10At16
import Derived.Shelf.Strconv.ParseInt10At32
import Derived.Shelf.Strconv.ParseInt10At64
import Derived.Shelf.Strconv.ParseInt10At8
import Derived.Shelf.Strconv.ParseIntEmpty
import Derived.Shelf.Strconv.ParseIntPublic10
import Derived.Shelf.Strconv.ParseUint10
import Derived.Shelf.Strconv.ParseUint10Any
import Derived.Shelf.Strconv.ParseUint10At
import Derived.Shelf.Strconv.ParseUint10Empty
import Derived.Shelf.Strconv.ParseUint10b16
import Derived.Shelf.Strconv.ParseUint10b32
import Derived.Shelf.Strconv.ParseUint10b64
import Derived.Shelf.Strconv.ParseUint10b8
import Derived.Shelf.Strconv.ParseUintEmpty
import Derived.Shelf.Strconv.RangeError
import Derived.Shelf.Strconv.SyntaxError
import Derived.Shelf.Strconv.ToError
import Derived.Shelf.Strconv.ToErrorRange
import Derived.Shelf.Strings.Builder1
import Derived.Shelf.Strings.Builder2
import Derived.Shelf.Strings.BuilderF
import Derived.Shelf.Strings.BuilderK
import Derived.Shelf.Strings.Cut
import Derived.Shelf.Strings.FieldsFuncAny
import Derived.Shelf.Strings.OnBuilder
import Derived.Shelf.Strings.Prefix
import Derived.Shelf.Strings.Search1
import Derived.Shelf.Strings.Search2
import Derived.Shelf.Strings.Search3
import Derived.Shelf.Strings.Shaped
import Derived.Shelf.Unicode.Decode
import Derived.Shelf.Unicode.DecodeAny
import Derived.Shelf.Unicode.DecodeSlow
import Derived.Stop.Joined
import Derived.TacticsInMore
import Derived.ArgAppend
import Derived.Below
import Derived.BigQuiet
import Derived.Deep.QuietTactic
import Derived.Deep.RegionHeld3
import Derived.KernelRfl
import Derived.Laws.BitsAllLaws
import Derived.Deep.RegionHeld
import Derived.OrdersHeld
import Derived.RowKit
import Derived.Test.YtheefojaplnnoaaGreatDoorProg
import Derived.WalkKit
import Derived.WalkLawsBesides
import Derived.WalkSpells
set_option linter.unusedVariables false
set_option maxRecDepth 100000
set_option maxHeartbeats 16000000
namespace Go.Proofs.YtheefojaplnnoaaGreatDoor
open Go.RowKit
theorem ae{P:Prop}(h:P:=by omega):P:=h
theorem ai{P:Prop}(h:P:=by kernel_rfl):P:=h
theorem aj{P:Prop}(h:P:=by decide):P:=h
theorem ar{P:Prop}(h:P:=by simp):P:=h
theorem aI{P:Prop}(h:P:=by simp; omega):P:=h
theorem aL{P:Prop}(h:P:=by exact hSw):P:=h
theorem aY{P:Prop}(h:P:=by have:=hw.len; omega):P:=h
theorem bu{P:Prop}(h:P:=by simp <;> omega):P:=h
theorem bV{P:Prop}(h:P:=by unfold maxLen; omega):P:=h
theorem cj{P:Prop}(h:P:=by cases h):P:=h
theorem bM{P:Prop}(h:P:=by have:=h.low; omega):P:=h
theorem bZ{P:Prop}(h:P:=by simp[wdx,List.getD,hx]):P:=h
theorem cg{P:Prop}(h:P:=by simp[go_sem]):P:=h
theorem di{P:Prop}(h:P:=by simp[wdx,List.getD,hy]):P:=h
theorem dv{P:Prop}(h:P:=by unfold wrap64; omega):P:=h
theorem dS{P:Prop}(h:P:=by cases e):P:=h
theorem dY{P:Prop}(h:P:=by rw[hw.len]; exact h2):P:=h
theorem dO{P:Prop}(h:P:=by (try dsimp only[wkM]); omega):P:=h
theorem eH{P:Prop}(h:P:=by exact block_lt_of_cell hA):P:=h
theorem eI{P:Prop}(h:P:=by rw[← hW0]; simp[go_sem]):P:=h
theorem fX{P:Prop}(h:P:=by simp at h):P:=h
theorem fZ{P:Prop}(h:P:=by simp[hx]):P:=h
theorem gj{P:Prop}(h:P:=by rw[ez]at h3; rw[h3]; rfl):P:=h
theorem gw{P:Prop}(h:P:=by simpa using W2.out):P:=h
theorem gQ{P:Prop}(h:P:=by intro W hW; rw[hW]; clear hW; go_simp; try with_reducible rfl):P:=h
theorem ij{P:Prop}(h:P:=by simp[intOf]; omega):P:=h
theorem il{P:Prop}(h:P:=by go_num):P:=h
theorem iJ{P:Prop}(h:P:=by unfold pl; rfl):P:=h
theorem iG{P:Prop}(h:P:=by unfold Addr.add; split <;> simp_all):P:=h
theorem iU{P:Prop}(h:P:=by simp[wdx,List.getD,hz]):P:=h
theorem jx{P:Prop}(h:P:=by go_simp):P:=h
theorem jy{P:Prop}(h:P:=by cases hy):P:=h
theorem j3{P:Prop}(h:P:=by simp[L]):P:=h
theorem kE{P:Prop}(h:P:=by exact hBl):P:=h
theorem kz{P:Prop}(h:P:=by exact hCl):P:=h
theorem j6{P:Prop}(h:P:=by exact block_lt_of_cell hO):P:=h
theorem ky{P:Prop}(h:P:=by simp[aD]):P:=h
theorem jO{P:Prop}(h:P:=by exact hx):P:=h
theorem kx{P:Prop}(h:P:=by have:=d1.at_ 0 x hx; simpa using this):P:=h
theorem lL{P:Prop}(h:P:=by rw[hk]; exact HQ.out):P:=h
theorem lg{P:Prop}(h:P:=by assumption):P:=h
theorem lM{P:Prop}(h:P:=by rw[h5]; rfl):P:=h
theorem lT{P:Prop}(h:P:=by rw[HFN.out,← hik]; simp):P:=h
theorem lO{P:Prop}(h:P:=by simp[hy]):P:=h
theorem lC{P:Prop}(h:P:=by cases hx):P:=h
theorem lD{P:Prop}(h:P:=by simp[eight]):P:=h
theorem mW{P:Prop}(h:P:=by have:=HNE.out b off c h; simp; omega):P:=h
theorem nI{P:Prop}(h:P:=by simpa using h):P:=h
theorem m9{P:Prop}(h:P:=by decide +kernel):P:=h
theorem mL{P:Prop}(h:P:=by have:=aK hi; simp at this; omega):P:=h
theorem mO{P:Prop}(h:P:=by simp only[List.length_append]; omega):P:=h
theorem mY{P:Prop}(h:P:=by rw[hx]; rfl):P:=h
theorem nu{P:Prop}(h:P:=by rw[hlo]; decide):P:=h
theorem nj{P:Prop}(h:P:=by simpa using R2.out):P:=h
theorem nr{P:Prop}(h:P:=by rw[← ha2]; exact hqa a ha1):P:=h
theorem nH{P:Prop}(h:P:=by have:=hb b hb'; omega):P:=h
theorem pP{P:Prop}(h:P:=by simp only; omega):P:=h
theorem pq{P:Prop}(h:P:=by simpa using hY):P:=h
theorem pT{P:Prop}(h:P:=by have:=hw.few; omega):P:=h
theorem pS{P:Prop}(h:P:=by unfold psz; simp; omega):P:=h
theorem pU{P:Prop}(h:P:=by simpa using HPa.out):P:=h
theorem pJ{P:Prop}(h:P:=by simp[hz]):P:=h
theorem qU{P:Prop}(h:P:=by rw[← HIK.out]at *; unfold pl; rw[HFN.out]; dsimp only; rw[FD init ft flo (ca,cn,cc)]; rfl):P:=h
theorem qY{P:Prop}(h:P:=by simpa using c1):P:=h
theorem rx{P:Prop}(h:P:=by simpa using h1):P:=h
theorem sf{P:Prop}(h:P:=by rw[List.length_append,List.length_append]; omega):P:=h
theorem sN{P:Prop}(h:P:=by simp[gU]):P:=h
theorem sB{P:Prop}(h:P:=by rw[← hw.len]; exact x.2):P:=h
theorem rR{P:Prop}(h:P:=by rw[List.length_tail,hw.len]):P:=h
theorem qX{P:Prop}(h:P:=by simpa using h5):P:=h
theorem wG{P:Prop}(h:P:=by rw[hx]at hk; simpa using hk):P:=h
theorem vG{P:Prop}(h:P:=by have:=hBn.1; omega):P:=h
theorem xt{P:Prop}(h:P:=by simp[results,Tryz.results314,go_sem]):P:=h
theorem uQ{P:Prop}(h:P:=by unfold psz pl; (try simp only[List.length_map]); omega):P:=h
theorem wZ{P:Prop}(h:P:=by simpa[List.append_assoc] using hw'):P:=h
theorem vZ{P:Prop}(h:P:=by rw[hz2]; omega):P:=h
theorem uP{P:Prop}(h:P:=by have:=hb1.size; simp at this; omega):P:=h
theorem xq{P:Prop}(h:P:=by simp[World.setCell]):P:=h
theorem uu{P:Prop}(h:P:=by rw[Lib.cell_of_heap hbk]; rfl):P:=h
theorem uS{P:Prop}(h:P:=by rw[Lib.cell_of_heap hb2]; rfl):P:=h
theorem uX{P:Prop}(h:P:=by first | rfl | exact d):P:=h
theorem uB{P:Prop}(h:P:=by simp at hq hr; omega):P:=h
theorem xx{P:Prop}(h:P:=by simpa using hx):P:=h
theorem wQ{P:Prop}(h:P:=by exact block_lt_of_cell l1):P:=h
theorem uV{P:Prop}(h:P:=by have:=ud hp; rw[this]at c2; omega):P:=h
theorem wF{P:Prop}(h:P:=by have:=h.lt; omega):P:=h
theorem vX{P:Prop}(h:P:=by have:=(D1.out.later B1.out).at_ 1 x HX.out; simpa using this):P:=h
theorem vM{P:Prop}(h:P:=by simpa using h4):P:=h
theorem ux{P:Prop}(h:P:=by have:=HHN.out; omega):P:=h
theorem vA{P:Prop}(h:P:=by rw[Cx]; simpa using h6):P:=h
theorem uU{P:Prop}(h:P:=by have e:k=w1.heap.size:=hk; omega):P:=h
theorem vE{P:Prop}(h:P:=by rw[HFN.out]; simp):P:=h
theorem uE{P:Prop}(h:P:=by cases e; omega):P:=h
theorem vR{P:Prop}(h:P:=by rw[← hwr]; simp[go_sem]):P:=h
theorem vY{P:Prop}(h:P:=by simp[wkM]at hj):P:=h
theorem xb{P:Prop}(h:P:=by rw[← hW]; simp[go_sem]):P:=h
theorem vN{P:Prop}(h:P:=by simp at hb; omega):P:=h
theorem vp{P:Prop}(h:P:=by have:=g2 b hb; omega):P:=h
theorem A2{P:Prop}(h:P:=by rw[List.getElem?_take_of_lt hik]; exact hi):P:=h
theorem zy{P:Prop}(h:P:=by simpa[Value.ownBlock] using hb):P:=h
theorem uJ{P:Prop}(h:P:=by have:=hne b off c h; simp; omega):P:=h
theorem uO{P:Prop}(h:P:=by rw[← hw3]; exact ag _ _):P:=h
theorem wV{P:Prop}(h:P:=by rw[← hw3]; exact eB _ _ _):P:=h
theorem wJ{P:Prop}(h:P:=by exact block_lt_of_cell f2):P:=h
theorem vD{P:Prop}(h:P:=by simp[Value.ownBlock]at hB; simp; omega):P:=h
theorem xd{P:Prop}(h:P:=by first | rfl | exact hd):P:=h
theorem wK{P:Prop}(h:P:=by have:=HLL.out; have:=HHN.out; omega):P:=h
theorem uW{P:Prop}(h:P:=by rw[hf,List.getElem?_append_left hil]; exact hi):P:=h
theorem vd{P:Prop}(h:P:=by have e:k=w3.heap.size+1:=hk; have:=B3.out.size; omega):P:=h
theorem xw{P:Prop}(h:P:=by show 2+wd.size≤_; omega):P:=h
theorem vF{P:Prop}(h:P:=by rw[World.cell?_alloc_new]; rfl):P:=h
theorem wu{P:Prop}(h:P:=by simp[Value.ownBlock]at hB'; omega):P:=h
theorem vq{P:Prop}(h:P:=by simp[World.frozen?,rB]):P:=h
theorem wN{P:Prop}(h:P:=by rw[← hW1]; simp[go_sem]):P:=h
theorem wW{P:Prop}(h:P:=by rw[cm]; decide):P:=h
theorem Bz{P:Prop}(h:P:=by rw[HEy.out]; unfold pl; simp[plF,List.map_append]):P:=h
theorem DT{P:Prop}(h:P:=by simp[Lib.byteCells_length,rC]; omega):P:=h
theorem CX{P:Prop}(h:P:=by have:=VL.out.g_lt; have:=V6.out.g_lt; omega):P:=h
theorem DJ{P:Prop}(h:P:=by rw[← hW9]; exact World.cell?_setCell_same _ _ _ y1):P:=h
theorem BP{P:Prop}(h:P:=by rw[← hWb]; exact World.cell?_setCell_same _ _ _ k2):P:=h
theorem Cg{P:Prop}(h:P:=by have:=hb1.size; have:=hb2.size; simp at *; omega):P:=h
theorem C3{P:Prop}(h:P:=by rw[zj]at hx; have:=d1.at_ (j+1) x hx; rwa [Nat.zero_add,Nat.add_comm]at this):P:=h
theorem C0{P:Prop}(h:P:=by unfold gN; rw[if_neg (fun x=>h3 x.2)]):P:=h
theorem Cw{P:Prop}(h:P:=by rw[nE iw 1 (fun _=>rfl),hpl]; omega):P:=h
theorem Ds{P:Prop}(h:P:=by rw[zj]at hx; have:=(d1.later hW).at_ (j+1) x hx; rwa [Nat.zero_add,Nat.add_comm]at this):P:=h
theorem Dp{P:Prop}(h:P:=by simp[results,Tryz.results302,go_sem,x0,x1,x2,hx3]):P:=h
theorem CZ{P:Prop}(h:P:=by first | rfl | simpa using hpn | (simp; omega)):P:=h
theorem iy{P:Prop}(h:P:=by rw[← hW]; exact(((Below.refl _ _).alloc (Nat.le_refl _) _).alloc ar _).alloc aI _):P:=h
theorem je{P:Prop}(h:P:=by rw[hb1.cell ar]; simp[go_sem]):P:=h
theorem wo{P:Prop}(h:P:=by have:=hj; unfold dC ByteArray.size at this; simp at this; simpa using ae):P:=h
theorem Dr{P:Prop}(h:P:=by rw[dH p 256 8 ae s1]; exact l1):P:=h
theorem Bh{P:Prop}(h:P:=by rw[List.getD_eq_getElem?_getD,List.getElem?_eq_getElem ae]; simp):P:=h
theorem Ef{P:Prop}(h:P:=by rw[dH lo 256 64 ae ae]; exact hlt):P:=h
theorem DY{P:Prop}(h:P:=by have q:=F6.out b off c hb'; exact⟨ae,q.2.1,ae⟩):P:=h
theorem Dq{P:Prop}(h:P:=by have q:=HM.out.ff.at TL.out.s b off c hb'; have q2:=HM.out.ff b off c hb'; have:=TL.out.s.size; exact⟨q.1,q.2,ae⟩):P:=h
theorem DV{P:Prop}(h:P:=by rw[← hW9,World.cell?_setCell_other _ _ _ _ ar]; exact y2):P:=h
theorem CG{P:Prop}(h:P:=by rw[← hW9]; exact(aw w9' (w.heap.size+1) 0 _).to_below ae (fun k hk=>ae)):P:=h
theorem Bu{P:Prop}(h:P:=by rw[← hWb,World.cell?_setCell_other _ _ _ _ ar]; exact k1):P:=h
theorem C6{P:Prop}(h:P:=by rw[← hWb]; exact(aw Wa (w.heap.size+1+1) 0 _).to_below ae (fun k hk=>ae)):P:=h
theorem Dn{P:Prop}(h:P:=by unfold gL; rw[if_pos ⟨h1,dY⟩,h3]; rfl):P:=h
theorem aO{α:Type _}{l:List α}{i:Nat}(h:i<l.length):l[i]? =some l[i]:=List.getElem?_eq_getElem h
theorem N9{P:Prop}(h:P:=by
  obtain⟨j,ys,aa,ac,g3,cap3,hj,rfl,rfl,hyl,hys,hrow,hab,hwr,hst⟩:=hrel;have HY:=hid hys;have HRW:=hid hrow;have HAB:=hid hab;have HWR:=hid hwr;have HST:=hid hst;clear hys hrow hab hwr hst W2 S2;have hlt:j<n:=ae
  ·obtain⟨x,hx⟩:∃x,xs[j]? =some x:=⟨_,aO ae⟩
   obtain⟨b,off,rfl,hcell⟩:=(HM.out.kept HST.out.k (fun b off c h=>mW)).2.resolve_left ae
   have hcj:=hcell j x hx;have hbl:=block_lt_of_cell hcj.1;clear hcell;obtain⟨v0,v1,v2⟩:=hcj;have BN:=hid (ag wr (cL x))
   by_cases hjk:j<k
   ·exact Cv
   ·obtain rfl:j=k:=ae;obtain rfl:x=xk:=wG
    have HC1:=hid (HN.out ys (wr.alloc (cL x)) g3 cap3 aa ac hyl HY.out (HST.out.trans (Stp.of_below BN.out)) (HWR.out.later BN.out) (aA HRW.out (fun B hB=>BN.out.block B (ay HRW.out hB))) HAB.out)
    go_wp2_with fail;refine HC1.out.mono ?_;rintro e w5⟨⟨p,rfl⟩,hk5⟩;exact⟨rfl,⟨p,rfl⟩,(HST.out.trans (Stp.of_below BN.out)).throw hk5⟩
 ):P:=h
theorem Kz{P:Prop}(h:P:=by
  obtain⟨j,ys,aa,ac,g3,cap3,hj,rfl,rfl,hyl,hys,hrow,hab,hwr,hst⟩:=hrel;have HY:=hid hys;have HRW:=hid hrow;have HAB:=hid hab;have HWR:=hid hwr;have HST:=hid hst;clear hys hrow hab hwr hst W2 S2;have hlt:j<n:=ae
  ·obtain⟨x,hx⟩:∃x,xs[j]? =some x:=⟨_,aO ae⟩
   obtain⟨b,off,rfl,hcell⟩:=(HM.out.kept HST.out.k (fun b off c h=>mW)).2.resolve_left ae
   have hcj:=hcell j x hx;have hbl:=block_lt_of_cell hcj.1;clear hcell;obtain⟨v0,v1⟩:=hcj;have BN:=hid (ag wr (cL x))
   by_cases hjk:j<k
   ·exact Cv
   ·obtain rfl:j=k:=ae;obtain rfl:x=xk:=wG
    have HC1:=hid (HN.out ys (wr.alloc (cL x)) g3 cap3 aa ac hyl HY.out (HST.out.trans (Stp.of_below BN.out)) (HWR.out.later BN.out) (aA HRW.out (fun B hB=>BN.out.block B (ay HRW.out hB))) HAB.out)
    go_wp2_with fail;refine HC1.out.mono ?_;rintro e w5⟨⟨p,rfl⟩,hk5⟩;exact⟨rfl,⟨p,rfl⟩,(HST.out.trans (Stp.of_below BN.out)).throw hk5⟩
 ):P:=h
theorem Ol{P:Prop}(h:P:=by
  obtain⟨j,ys,aa,ac,g3,cap3,hj,rfl,rfl,hyl,hys,hrow,hab,hwr,hst⟩:=hrel;have HY:=hid hys;have HRW:=hid hrow;have HAB:=hid hab;have HWR:=hid hwr;have HST:=hid hst;clear hys hrow hab hwr hst W2 S2
  by_cases hlt:j<n
  ·obtain⟨x,hx⟩:∃x,xs[j]? =some x:=⟨_,aO ae⟩
   obtain⟨b,off,rfl,hcell⟩:=(HM.out.kept HST.out.k (fun b off c h=>mW)).2.resolve_left ae
   have hcj:=hcell j x hx;have hbl:=block_lt_of_cell hcj.1;clear hcell;obtain⟨v0,v1,v2⟩:=hcj;exact DK
  ·obtain rfl:j=n:=ae;have hxs:xs.take j=xs:=List.take_of_length_le ae;go_wp2_with fail;go_ret;refine⟨aa,ac,ys,rfl,hyl,HY.out,HRW.out,g3,cap3,HAB.out,?_,HST.out⟩;rw[← hxs];exact HWR.out
 ):P:=h
theorem Jf{P:Prop}(h:P:=by
  obtain⟨j,ys,aa,ac,g3,cap3,hj,rfl,rfl,hyl,hys,hrow,hab,hwr,hst⟩:=hrel;have HY:=hid hys;have HRW:=hid hrow;have HAB:=hid hab;have HWR:=hid hwr;have HST:=hid hst;clear hys hrow hab hwr hst W2 S2
  by_cases hlt:j<n
  ·obtain⟨x,hx⟩:∃x,xs[j]? =some x:=⟨_,aO ae⟩
   obtain⟨b,off,rfl,hcell⟩:=(HM.out.kept HST.out.k (fun b off c h=>mW)).2.resolve_left ae
   have hcj:=hcell j x hx;have hbl:=block_lt_of_cell hcj.1;clear hcell;obtain⟨v0,v1⟩:=hcj;exact DK
  ·obtain rfl:j=n:=ae;have hxs:xs.take j=xs:=List.take_of_length_le ae;go_wp2_with fail;go_ret;refine⟨aa,ac,ys,rfl,hyl,HY.out,HRW.out,g3,cap3,HAB.out,?_,HST.out⟩;rw[← hxs];exact HWR.out
 ):P:=h
theorem Oz{P:Prop}(h:P:=by
  go_wp2_with fail;generalize wr.alloc (aR x.1 x.2.1 x.2.2.1.1 x.2.2.1.2.1 x.2.2.1.2.2)=W at *;have hszW:=BN.out.size;refine HC1.out.mono ?_;rintro e w5⟨y,rfl,hok,g4,cap4,hw5,hs5,hl5⟩;have hgr:g3<wr.heap.size:=HWR.out.g_lt;have hRr:R<wr.heap.size:=HWR.out.lt
  have row5:w5.ownsRow 0 78 3 (.slice aa j ac) j (ys.flatMap iA):=aA HRW.out (fun B hB=>by
   have h1:=ay HRW.out hB;have h2:∃a,aa=some a∧a.block=B:=dF hB;obtain⟨a,ha1,ha2⟩:=h2;have h3:=HAB.out a ha1;have h4:=HST.out.size;exact(hs5.block (b:=B) ae ae ae ae).trans (BN.out.block B h1))
  have gg4:=hw5.g_lt
  have hab5:∀b,aa=some b→b.block≠g4∧b.block<w5.heap.size:=fun a ha1=>by
   exact BU
  have W5:=hid hw5;have S5:=hid (HST.out.trans ((fy.of_below BN.out).trans hs5));have L5:=hid hl5
  have hL4:L≠g4:=hs5.ne (by have:=HST.out.size; omega) hlg
  have O5:=hid hok;have BN5:=hid (ag w5 (aR y.1 y.2.1 y.2.2.1 y.2.2.2.1 y.2.2.2.2))
  have R6:=hid (aA (w':=w5.alloc (aR y.1 y.2.1 y.2.2.1 y.2.2.2.1 y.2.2.2.2)) row5 (fun B hB=>BN5.out.block B (ay row5 hB)))
  have HAB5:=hid hab5;have NC:=hid (lG w5 y);have hz6:(w5.alloc (aR y.1 y.2.1 y.2.2.1 y.2.2.2.1 y.2.2.2.2)).heap.size=w5.heap.size+1:=ar;clear hw5 hs5 row5 hab5 HC1 hok hl5
  go_wp2_with (at_builtin; (refine eD _ rfl (.tmp 28) (.tmp 33) 25 rfl 78 i0 _ 3 48 Tryz.underlying25 hi hz0 hz1 hz2 rfl aj _ j _ rfl R6.out ⟨w5.heap.size,0,none⟩ 1 1 (iA y) rfl rfl NC.out (lQ y) ae bV ae ?_; intro B cap7 w7 hrow7 hor7; have R7:=hid hrow7; have OR7:=hid hor7; clear hrow7 hor7))
  generalize w5.alloc (aR y.1 y.2.1 y.2.2.1 y.2.2.2.1 y.2.2.2.2)=W6 at *
  have hBn:w.heap.size≤B∧B≠g4∧Kept (fun k=>k=B) W6 w7:=by
   exact DX
  have hRw:=S5.out.size
  go_roundw
  ·refine⟨j+1,ys++[y],some ⟨B,0,none⟩,cap7,g4,cap4,ae,rfl,rfl,by simp[hyl],?_,?_,?_,?_,?_,?_,hL4⟩
   ·exact DD
   ·exact qE
   ·exact uy
   ·exact Cz
   ·exact Ek
   ·exact(L5.out.later BN5.out).kept hBn.2.2 vG
  ·simp[intOf]; omega
 ):P:=h
theorem Od{P:Prop}(h:P:=by
  go_simp
  refine hK.out _ _ hS (fun _=>?_)
  clear hK K;refine ryQ (rs:=[2]) ?_
  refine rcQ (i:=2) rfl (fun K hK=>?_) rN
  go_simp;obtain⟨p1,p2⟩:=zT (.slice none 0 0) (.slice none 0 0) (.slice none 0 0) (.int .i64 0) (.int .i64 0) (.slice none 0 0) (.slice none 0 0) (.slice none 0 0) tA';have b5:=(p2.block (w.heap.size+1) (aJ tB') ae).trans tB';have c5:=(p2.block (w.heap.size+2) (aJ tC') ae).trans tC';have d5:=(p2.block D (aJ tK') ae).trans tK'
  have f5:=hb'.trans (p2.to_below (B:=w.heap.size) (by have:=hb'.size; omega) (fun k hk=>ae))
  refine hK.out _ _ (ak (i:=0) b5) (fun hS2=>?_)
  clear hK K m0 m1 m2 m3 m4 m5 m6 m7 g0 g1 g2 g3 g4 g5 g6 g7 tA' tB' tC' tK' hb' p2 hS;generalize ((((((((Wd.setCell ⟨w.heap.size,0,none⟩ (.slice none 0 0)).setCell ⟨w.heap.size,1,none⟩ (.slice none 0 0)).setCell ⟨w.heap.size,2,none⟩ (.slice none 0 0)).setCell ⟨w.heap.size,3,none⟩ (.int .i64 0)).setCell ⟨w.heap.size,4,none⟩ (.int .i64 0)).setCell ⟨w.heap.size,5,none⟩ (.slice none 0 0)).setCell ⟨w.heap.size,6,none⟩ (.slice none 0 0)).setCell ⟨w.heap.size,7,none⟩ (.slice none 0 0))=W5 at *;refine ryQ (rs:=[3]) ?_
  refine rcQ (i:=3) rfl (fun K hK=>?_) rN
  have cb5:=ak (i:=0) b5;have fb5:=free_at (i:=0) b5;go_simp;have k6:=aw W5 (w.heap.size+1) 0 (.int .i64 E);have b6:(W5.setCell ⟨w.heap.size+1,0,none⟩ (.int .i64 E)).heap[w.heap.size+1]? =some (dz E):=bS b5;have a6:=(k6.block w.heap.size (aJ p1) ae).trans p1;have c6:=(k6.block (w.heap.size+2) (aJ c5) ae).trans c5;have d6:=(k6.block D (aJ d5) ae).trans d5
  have f6:=f5.trans (k6.to_below (B:=w.heap.size) (by have:=f5.size; omega) (fun k hk=>ae))
  refine hK.out _ _ (ak (i:=0) b6) (fun hS3=>?_)
  clear hK K k6 p1 b5 c5 d5 f5 cb5 fb5 hS2;generalize W5.setCell ⟨w.heap.size+1,0,none⟩ (.int .i64 E)=W6 at *;refine ryQ (rs:=[4]) ?_
  refine rcQ (i:=4) rfl (fun K hK=>?_) rN
  have cc6:=ak (i:=0) c6;have fc6:=free_at (i:=0) c6;go_simp;have k7:=aw W6 (w.heap.size+2) 0 (.int .i64 0);have c7:(W6.setCell ⟨w.heap.size+2,0,none⟩ (.int .i64 0)).heap[w.heap.size+2]? =some (bq 0):=bS c6;have a7:=(k7.block w.heap.size (aJ a6) ae).trans a6;have b7:=(k7.block (w.heap.size+1) (aJ b6) ae).trans b6;have d7:=(k7.block D (aJ d6) ae).trans d6
  have f7:=f6.trans (k7.to_below (B:=w.heap.size) (by have:=f6.size; omega) (fun k hk=>ae))
  refine hK.out _ _ (ak (i:=0) b7) (fun hS4=>?_)
  clear hK K k7 a6 b6 c6 d6 f6 cc6 fc6 hS3;generalize W6.setCell ⟨w.heap.size+2,0,none⟩ (.int .i64 0)=W7 at *;refine wpAnyH_done ai ?_ _
  gi_wp2_with fail
  refine Gk rfl rfl rfl a7 b7 c7 d7 ae fun w' hk'=>?_
  rw[← HR0.out]
  refine⟨f7.trans (hk'.to_below (by have:=f7.size; omega) (fun k hk=>ae)),(fun h=>ae),fun _ l o hlo2=>?_⟩
  rw[hV,eV]at hlo2
  cases hlo2
  refine⟨(fun h=>cj),fun p M h=>?_⟩
  cases h
  refine⟨(fun h=>ae),fun _=>⟨m,rfl,HLE.out,hpr,fun _=>by rw[hEq]; rfl,fun h=>absurd (hEq.symm.trans h) hx⟩⟩
 ):P:=h
theorem Og{P:Prop}(h:P:=by
  clear HL HI u2 hbk2 HX2 HB2 c2
  go_loopw [21] (fun i W=>∃k:Nat,k≤cn∧i=.int .i64 k∧Lib.BuilderAt 96 5 w0.heap.size b (.pointer (some ⟨b,0,none⟩)) (Lib.byteCells (s++(L0++(xs.take k).flatMap oK))) W∧Below w0.heap.size w0 W∧cY b w W) (fun i _=>cn-(intOf i).toNat)
  case atStart=>exact⟨0,Nat.zero_le _,rfl,by simpa using H3.out,B3.out,D3.out⟩
  case round =>
   obtain⟨k,hk,rfl,hI,hb,hd⟩:=hrel;have HI:=hid hI;have HB:=hid hb;have HD:=hid hd;clear hI hb hd H3 B3 D3
   by_cases hlt:k<cn
   ·obtain⟨y,hy⟩:∃y,xs[k]? =some y:=⟨_,aO ae⟩
    obtain⟨bb,off,rfl,hx⟩:∃bb off,ca=some ⟨bb,off,none⟩∧(w0.cell? ⟨bb,off+k*3,none⟩=some (.int .u8 y.1)∧w0.cell? ⟨bb,off+k*3+1,none⟩=some (.int .i64 y.2.1)∧w0.cell? ⟨bb,off+k*3+2,none⟩=some (.slice y.2.2.1.1 y.2.2.1.2.1 y.2.2.1.2.2)):=by
     rcases HX.out with h | ⟨bb,off,h,h'⟩
     ·omega
     ·exact⟨bb,off,h,h' k y hy⟩
    have k0:=(HB.out.cell (block_lt_of_cell hx.1)).trans hx.1;have k1:=(HB.out.cell (block_lt_of_cell hx.2.1)).trans hx.2.1;have k2:=(HB.out.cell (block_lt_of_cell hx.2.2)).trans hx.2.2;have HY:=hid (HXS.out k y hy);have HT:=hid (gm hy);have HFL:=gP oK xs k y hy;clear hx hy;have HIN:oK y=bI (fq (ofV y.1).1.2.2.1 (ofV y.1).1.2.1 y.2.1 y.2.2.2):=rfl
    have HG:=hid (fun(W':World) (hW:Below wr.heap.size wr W')=>Hb w0.heap.size b (s++(L0++(xs.take k).flatMap oK)) y.1 y.2.1 y.2.2.1.1 y.2.2.1.2.1 y.2.2.1.2.2 y.2.2.2 W' (cP (.inr HI.out) hW) (Nat.le_trans HB.out.size hW.size) (HTN.out.later (HB.out.trans (hW.mono HB.out.size))) (HK.out.later (HB.out.trans (hW.mono HB.out.size)) HK.out.pos) HY.out.1.1 HY.out.1.2 HY.out.2.1 (HY.out.2.2.later (HB.out.trans (hW.mono HB.out.size)) (Nat.le_refl _)) (by
     have h1:=HY.out.2.2.1;have h2:=HY.out.2.2.2.2.1;rw[← HIN]
     simp only[List.length_append]at hfl hlen ⊢
     omega))
    obtain⟨yc,ya,⟨la,ln,lc⟩,ll⟩:=y;go_wp2_with fail;refine(HG.out _ (ag wr _)).mono ?_;rintro e w5⟨rfl,h5,hb5,hh5⟩;have H5:=hid h5;have B5:=hid ((HB.out.trans ((ag wr _).mono HB.out.size)).trans hb5);have D5:=hid (HD.out.trans ((cY.of_below (ag wr _)).trans hh5));clear h5 hb5 hh5 HG;go_wp2_with fail
    go_roundw
    case rel =>
     refine⟨k+1,ae,ar,?_,B5.out,D5.out⟩;have h:=H5.out;rw[HT.out,List.flatMap_append,List.flatMap_singleton,HIN]
     simpa only[List.append_assoc] using h
    case measure=>show cn-((k:Int)+1).toNat<cn-(k:Int).toNat; omega
   ·obtain rfl:k=cn:=ae;have htk:xs.take k=xs:=List.take_of_length_le ae;rw[htk,← hL0]at HI;go_wp2_with fail;go_end0;exact⟨rfl,HI.out,HB.out,HD.out⟩
 ):P:=h
theorem Oq{P:Prop}(h:P:=by
  have hszW:=BN.out.size;refine HC1.out.mono ?_;rintro e w5⟨y,rfl,hok,g4,cap4,hw5,hs5⟩;have hgr:g3<wr.heap.size:=HWR.out.g_lt;have hRr:R<wr.heap.size:=HWR.out.lt
  have row5:=aA (w':=w5) HRW.out (fun B hB=>by
   have h1:=ay HRW.out hB;have h2:∃a,aa=some a∧a.block=B:=dF hB;obtain⟨a,ha1,ha2⟩:=h2;have h3:=HAB.out a ha1;have h4:=HST.out.size;exact(hs5.block (b:=B) ae ae ae).trans (BN.out.block B h1))
  have gg4:=hw5.g_lt
  have hab5:∀b,aa=some b→b.block≠g4∧b.block<w5.heap.size:=fun a ha1=>by
   exact BU
  have W5:=hid hw5;have S5:=hid (HST.out.trans ((Stp.of_below BN.out).trans hs5));have O5:=hid hok;have BN5:=hid (ag w5 (cM y))
  have R6:=hid (aA (w':=w5.alloc (cM y)) row5 (fun B hB=>BN5.out.block B (ay row5 hB)))
  have HAB5:=hid hab5;have NC:=hid (nC w5 y);have hz6:(w5.alloc (cM y)).heap.size=w5.heap.size+1:=ar;clear hw5 hs5 row5 hab5 HC1 hok
  go_wp2_with (at_builtin; (refine eD _ rfl (.tmp 28) (.tmp 33) _ rfl _ i0 _ _ _ uN hi hz0 hz1 hz2 rfl aj _ j _ rfl R6.out ⟨w5.heap.size,0,none⟩ 1 1 (oC0 y) rfl rfl NC.out (oC y) ae bV ae ?_; intro B cap7 w7 hrow7 hor7; have R7:=hid hrow7; have OR7:=hid hor7; clear hrow7 hor7))
  generalize w5.alloc (cM y)=W6 at *
  have hBn:w.heap.size≤B∧B≠g4∧Kept (fun k=>k=B) W6 w7:=by
   exact DX
  have hRw:=S5.out.size
  go_roundw
  ·refine⟨j+1,ys++[y],some ⟨B,0,none⟩,cap7,g4,cap4,ae,rfl,rfl,by simp[hyl],?_,?_,?_,?_,?_⟩
   ·exact DD
   ·exact qE
   ·exact uy
   ·exact Cz
   ·exact Ek
  ·simp[intOf]; omega
 ):P:=h
theorem Oc{P:Prop}(h:P:=by
  have HC:=hid hc;clear hc hf way M3;go_wp2_with fail
  refine wp_region_held_drew (S:=fun W=>W=wd) ai HW.out (fun _=>?_)
  rw[HW.out];have hwd:wd=wd:=rfl;refine tkD (i:=0) (d:=some 27) rfl ?_ gQ;(try simp only[Act.put,sIB,sC0,sCs]);refine tkD (i:=1) (d:=some 28) rfl ?_ gQ;(try simp only[Act.put,sIB,sC0,sCs]);refine tkD (i:=2) (d:=some 29) rfl ?_ gQ;(try simp only[Act.put,sIB,sC0,sCs]);refine tkD (i:=3) (d:=some 30) rfl ?_ gQ;(try simp only[Act.put,sIB,sC0,sCs]);refine tkD (i:=4) (d:=some 31) rfl ?_ gQ;(try simp only[Act.put,sIB,sC0,sCs]);refine tkD (i:=5) (d:=some 32) rfl ?_ gQ;(try simp only[Act.put,sIB,sC0,sCs]);refine tkD (i:=6) (d:=some 33) rfl ?_ gQ;(try simp only[Act.put,sIB,sC0,sCs]);refine tkD (i:=7) (d:=some 34) rfl ?_ gQ;(try simp only[Act.put,sIB,sC0,sCs]);refine tkD (i:=8) (d:=some 26) rfl ?_ gQ;(try simp only[Act.put,sIB,sC0,sCs]);refine tkD (i:=9) (d:=some 35) rfl ?_ gQ;(try simp only[Act.put,sIB,sC0,sCs]);refine tkD (i:=10) (d:=some 36) rfl ?_ gQ;(try simp only[Act.put,sIB,sC0,sCs]);refine tkD (i:=11) (d:=some 5) rfl ?_ gQ;(try simp only[Act.put,sIB,sC0,sCs]);refine tkD (i:=12) (d:=some 6) rfl ?_ gQ;(try simp only[Act.put,sIB,sC0,sCs]);refine wpAnyH_done ai ?_ _;go_wp2_with fail;refine HC.out.mono ?_;clear HC;generalize bX pt (pl m) (aS s)=res at *;rintro e w5⟨hk,hm⟩
  cases res with
  | none =>
   have hm:e=thL (ln+1):=hm;subst hm;exact⟨rfl,HK.out.trans hk,rfl⟩
  | some y =>
   obtain⟨rfl,m',hq,hp⟩:=hm;have HQ:=hid hq;have HP:=hid hp;have Hk:=hid hk;clear hq hp hk;go_wp2_with fail;go_end0;exact⟨HK.out.trans Hk.out,rfl,m',HQ.out,HP.out⟩
 ):P:=h
theorem Oy{P:Prop}(h:P:=by
  go_simp
  refine hK.out _ _ trivial (fun _=>?_)
  clear hK K;refine ryQ (rs:=[6]) ?_
  refine rcQ (i:=6) rfl (fun K hK=>?_) rN
  go_simp;refine(HI1.out _ B1.out).mono ?_;rintro e w5⟨rfl,hb5⟩;have B5:=hid (B1.out.trans (hb5.mono B1.out.size));clear hb5
  refine hK.out _ _ trivial (fun _=>?_)
  clear hK K;refine ryQ (rs:=[11]) ?_
  refine rcQ (i:=11) rfl (fun K hK=>?_) rN
  go_simp;refine(HI2.out _ B5.out).mono ?_;rintro e w6⟨rfl,hb6⟩;have B6:=hid (B5.out.trans (hb6.mono B5.out.size));clear hb6;have Q6:=hid (HQ0.out.later B6.out)
  refine hK.out _ _ trivial (fun _=>?_)
  clear hK K;refine tkQ (i:=12) rfl ?_;(try simp only[Act.put,sIB,sC0,sCs]);refine tkQ (i:=13) rfl ?_;(try simp only[Act.put,sIB,sC0,sCs]);refine tkQ (i:=14) rfl ?_;(try simp only[Act.put,sIB,sC0,sCs]);refine ryQ (rs:=[15]) ?_
  refine rcQ (i:=15) rfl (fun K hK=>?_) rN
  have c16:=Q6.out.cells 4;have f16:=Q6.out.free 4;go_simp
  have Q7:=hid (RQ.set (m':={ m with fi:=a }) Q6.out 4 (.int .i64 a) rfl ⟨rfl,rfl,rfl,rfl⟩ ⟨rfl,rfl,rfl,rfl⟩ ⟨rfl,rfl,rfl,rfl⟩ ⟨rfl,rfl,rfl,rfl⟩ ⟨rfl,rfl,rfl,rfl⟩ ⟨rfl,rfl,rfl,rfl⟩ id)
  have K7:=hid ((KR.later B6.out).trans (KR.set base R 4 w6 (.int .i64 a)))
  refine hK.out _ _ trivial (fun _=>?_)
  clear hK K;refine tkQ (i:=16) rfl ?_;(try simp only[Act.put,sIB,sC0,sCs]);refine tkQ (i:=17) rfl ?_;(try simp only[Act.put,sIB,sC0,sCs]);refine tkQ (i:=18) rfl ?_;(try simp only[Act.put,sIB,sC0,sCs]);refine ryQ (rs:=[19]) ?_
  refine rcQ (i:=19) rfl (fun K hK=>?_) rN
  generalize w6.setCell ⟨R,4,none⟩ (.int .i64 a)=w7 at *;have c17:=Q7.out.cells 5;have f17:=Q7.out.free 5;go_simp
  have Q8:=hid (RQ.set (m':={ m with fi:=a,mo:=b }) Q7.out 5 (.int .i64 b) rfl ⟨rfl,rfl,rfl,rfl⟩ ⟨rfl,rfl,rfl,rfl⟩ ⟨rfl,rfl,rfl,rfl⟩ ⟨rfl,rfl,rfl,rfl⟩ ⟨rfl,rfl,rfl,rfl⟩ ⟨rfl,rfl,rfl,rfl⟩ id)
  have K8:=hid (K7.out.trans (KR.set base R 5 w7 (.int .i64 b)))
  refine hK.out _ _ trivial (fun _=>?_)
  clear hK K;refine wpAnyH_done ai ?_ _;go_end0;exact⟨HK0.out.trans K8.out,rfl,_,Q8.out,iJ⟩
 ):P:=h
theorem Gz{P:Prop}(h:P:=by
  go_simp
  refine hK.out _ _ trivial (fun _=>?_)
  clear hK K;refine ryQ (rs:=[6]) ?_
  refine rcQ (i:=6) rfl (fun K hK=>?_) rN
  go_simp;have BN:=hid (BV.out.trans ((ag wv (aF op 0 (some ⟨G,0,none⟩) (n-1) (n-1))).mono BV.out.size))
  refine hK.out _ _ trivial (fun _=>?_)
  clear hK K;refine ryQ (rs:=[7]) ?_
  refine rcQ (i:=7) rfl (fun K hK=>?_) rN
  refine wp_append_lies _ (.tmp 73) (.tmp 75) 76 rfl base 75 i0 (.agg #[.int .u8 0,.int .i64 0,.slice none 0 0]) 3 40 Tryz.underlying76 hi hz0 hz1 hz2 rfl aj (.slice ca cn cc) cn (code.flatMap eQ) rfl (HCO.out _ BN.out) ⟨wv.heap.size,0,none⟩ 1 1 (eQ ((op,0,(some ⟨G,0,none⟩,(n-1),(n-1)),l):InM)) rfl rfl ?n1 ?n2 aj bV ae (Q9.out.later BN.out).bw _ rfl ?_
  case n1 =>
   exact qO
  case n2=>intro u hu; simp[eQ]at hu; rcases hu with rfl | rfl | rfl <;> rfl
  intro g cap w6 ho6 hg6 hgb6 _;have PX:=hid (Q9.out.pushI BN.out HFN.out HFA.out ((op,0,(some ⟨G,0,none⟩,(n-1),(n-1)),l):InM) YR.out ho6 hg6 hgb6);rw[HIK.out]at PX;have z6:=hid (HZC.out _ BN.out _ hg6);clear ho6 hg6 hgb6
  refine hK.out _ _ trivial (fun _=>?_)
  clear hK K;refine tkD (i:=8) (d:=some 77) rfl ?_;(try simp only[Act.put,sIB,sC0,sCs]);refine tkD (i:=9) (d:=some 78) rfl ?_;(try simp only[Act.put,sIB,sC0,sCs]);refine ryQ (rs:=[10]) ?_
  refine rcQ (i:=10) rfl (fun K hK=>?_) rN
  have c16:w6.cell? ⟨fb,k*3+2,none⟩=some (.slice ca cn cc):=z6.out.1;have f16:w6.frozen? ⟨fb,k*3+2,none⟩=false:=z6.out.2;go_simp
  refine hK.out _ _ trivial (fun _=>?_)
  clear hK K;refine wpAnyH_done ai ?_ _;go_end0;exact⟨(HK0.out.trans (KR.later BX.out)).trans PX.out.2,rfl,_,PX.out.1,qU⟩
 ):P:=h
theorem F9{P:Prop}(h:P:=by
  go_simp
  refine hK.out _ _ trivial (fun _=>?_)
  clear hK K;refine ryQ (rs:=[7]) ?_
  refine rcQ (i:=7) rfl (fun K hK=>?_) rN
  go_simp;have BN:=hid (B1.out.trans ((ag wd (aZ v (some ⟨G,0,none⟩) (y.size / 2) (y.size / 2))).mono B1.out.size))
  refine hK.out _ _ trivial (fun _=>?_)
  clear hK K;refine ryQ (rs:=[8]) ?_
  refine rcQ (i:=8) rfl (fun K hK=>?_) rN
  refine wp_append_lies _ (.tmp 28) (.tmp 30) 26 rfl base 81 i0 (.agg #[.int .i64 0,.slice none 0 0]) 2 32 Tryz.underlying26 hi hz0 hz1 hz2 rfl aj (.slice m.da m.dn m.dc) m.dn (m.data.flatMap nX) rfl (Q1.out.later BN.out).rd ⟨wd.heap.size,0,none⟩ 1 1 (nX ((v,(some ⟨G,0,none⟩,y.size / 2,y.size / 2),l):DaM)) rfl rfl ?n1 ?n2 aj bV ae (Q1.out.later BN.out).bw _ rfl ?_
  case n1 =>
   exact C9
  case n2=>intro u hu; simp[nX]at hu; rcases hu with rfl | rfl <;> rfl
  intro g cap w6 ho6 hg6 _ _;have PX:=hid ((Q1.out).pushD BN.out ((v,(some ⟨G,0,none⟩,y.size / 2,y.size / 2),l):DaM) (nk (eN OX.out (Below.refl _ _)) HQ0.out.bw) ho6 hg6);have z6:=hid (cr ((Q1.out.later BN.out).blk) (Q1.out).low ((Q1.out.later BN.out).rd) hg6);clear ho6 hg6
  refine hK.out _ _ trivial (fun _=>?_)
  clear hK K;refine tkQ (i:=9) rfl ?_;(try simp only[Act.put,sIB,sC0,sCs]);refine tkQ (i:=10) rfl ?_;(try simp only[Act.put,sIB,sC0,sCs]);refine tkQ (i:=11) rfl ?_;(try simp only[Act.put,sIB,sC0,sCs]);refine ryQ (rs:=[12]) ?_
  refine rcQ (i:=12) rfl (fun K hK=>?_) rN
  have c16:w6.cell? ⟨R,7,none⟩=some (.slice m.da m.dn m.dc):=ak z6.out;have f16:w6.frozen? ⟨R,7,none⟩=false:=free_at z6.out;go_simp
  refine hK.out _ _ trivial (fun _=>?_)
  clear hK K;refine wpAnyH_done ai ?_ _;go_end0
  exact⟨(HK0.out.trans (KR.later BX.out)).trans PX.out.2,rfl,_,PX.out.1,by unfold pl; simp[plD,List.map_append]⟩
 ):P:=h
theorem Ja{P:Prop}(h:P:=by
  go_simp
  refine hK.out _ _ trivial (fun _=>?_)
  clear hK K;refine ryQ (rs:=[6]) ?_
  refine rcQ (i:=6) rfl (fun K hK=>?_) rN
  go_simp;have BN:=hid (BV.out.trans ((ag wv (aF op 0 (some ⟨G,0,none⟩) 0 0)).mono BV.out.size))
  refine hK.out _ _ trivial (fun _=>?_)
  clear hK K;refine ryQ (rs:=[7]) ?_
  refine rcQ (i:=7) rfl (fun K hK=>?_) rN
  refine wp_append_lies _ (.tmp 73) (.tmp 75) 76 rfl base 75 i0 (.agg #[.int .u8 0,.int .i64 0,.slice none 0 0]) 3 40 Tryz.underlying76 hi hz0 hz1 hz2 rfl aj (.slice ca cn cc) cn (code.flatMap eQ) rfl (HCO.out _ BN.out) ⟨wv.heap.size,0,none⟩ 1 1 (eQ ((op,0,(some ⟨G,0,none⟩,0,0),l):InM)) rfl rfl ?n1 ?n2 aj bV ae (Q9.out.later BN.out).bw _ rfl ?_
  case n1 =>
   exact qO
  case n2=>intro u hu; simp[eQ]at hu; rcases hu with rfl | rfl | rfl <;> rfl
  intro g cap w6 ho6 hg6 hgb6 _;have PX:=hid (Q9.out.pushI BN.out HFN.out HFA.out ((op,0,(some ⟨G,0,none⟩,0,0),l):InM) YR.out ho6 hg6 hgb6);rw[HIK.out]at PX;have z6:=hid (HZC.out _ BN.out _ hg6);clear ho6 hg6 hgb6
  refine hK.out _ _ trivial (fun _=>?_)
  clear hK K;refine tkD (i:=8) (d:=some 77) rfl ?_;(try simp only[Act.put,sIB,sC0,sCs]);refine tkD (i:=9) (d:=some 78) rfl ?_;(try simp only[Act.put,sIB,sC0,sCs]);refine ryQ (rs:=[10]) ?_
  refine rcQ (i:=10) rfl (fun K hK=>?_) rN
  have c16:w6.cell? ⟨fb,k*3+2,none⟩=some (.slice ca cn cc):=z6.out.1;have f16:w6.frozen? ⟨fb,k*3+2,none⟩=false:=z6.out.2;go_simp
  refine hK.out _ _ trivial (fun _=>?_)
  clear hK K;refine wpAnyH_done ai ?_ _;go_end0;exact⟨(HK0.out.trans (KR.later BX.out)).trans PX.out.2,rfl,_,PX.out.1,qU⟩
 ):P:=h
theorem IW{P:Prop}(h:P:=by
  go_simp
  refine hK.out _ _ trivial (fun _=>?_)
  clear hK K;refine ryQ (rs:=[7]) ?_
  refine rcQ (i:=7) rfl (fun K hK=>?_) rN
  go_simp;have BN:=hid (B1.out.trans ((ag wd (aR v ⟨#[]⟩ none 0 0)).mono B1.out.size))
  refine hK.out _ _ trivial (fun _=>?_)
  clear hK K;refine ryQ (rs:=[8]) ?_
  refine rcQ (i:=8) rfl (fun K hK=>?_) rN
  refine wp_append_lies _ (.tmp 32) (.tmp 34) 25 rfl base 78 i0 (.agg #[.int .i64 0,.string ⟨#[]⟩,.slice none 0 0]) 3 48 Tryz.underlying25 hi hz0 hz1 hz2 rfl aj (.slice m.fa m.fn m.fc) m.fn (m.fns.flatMap dR) rfl (Q1.out.later BN.out).rf ⟨wd.heap.size,0,none⟩ 1 1 (dR ((v,⟨#[]⟩,(none,0,0),[]):FuM)) rfl rfl ?n1 ?n2 aj bV ae (Q1.out.later BN.out).bw _ rfl ?_
  case n1 =>
   exact C5
  case n2=>intro u hu; simp[dR]at hu; rcases hu with rfl | rfl | rfl <;> rfl
  intro g cap w6 ho6 hg6 _ _;have PX:=hid ((Q1.out).pushF BN.out ((v,⟨#[]⟩,(none,0,0),[]):FuM) aj ⟨rfl,rfl⟩ ho6 hg6);have z6:=hid (cr ((Q1.out.later BN.out).blk) (Q1.out).low ((Q1.out.later BN.out).rf) hg6);clear ho6 hg6
  refine hK.out _ _ trivial (fun _=>?_)
  clear hK K;refine tkQ (i:=9) rfl ?_;(try simp only[Act.put,sIB,sC0,sCs]);refine tkQ (i:=10) rfl ?_;(try simp only[Act.put,sIB,sC0,sCs]);refine tkQ (i:=11) rfl ?_;(try simp only[Act.put,sIB,sC0,sCs]);refine ryQ (rs:=[12]) ?_
  refine rcQ (i:=12) rfl (fun K hK=>?_) rN
  have c16:w6.cell? ⟨R,6,none⟩=some (.slice m.fa m.fn m.fc):=ak z6.out;have f16:w6.frozen? ⟨R,6,none⟩=false:=free_at z6.out;go_simp
  refine hK.out _ _ trivial (fun _=>?_)
  clear hK K;refine wpAnyH_done ai ?_ _;go_end0
  exact⟨(HK0.out.trans KX.out).trans PX.out.2,rfl,_,PX.out.1,by unfold pl; simp[plF,List.map_append]⟩
 ):P:=h
theorem GN{P:Prop}(h:P:=by
  go_simp
  refine hK.out _ _ trivial (fun _=>?_)
  clear hK K;refine ryQ (rs:=[7]) ?_
  refine rcQ (i:=7) rfl (fun K hK=>?_) rN
  go_simp;have BN:=hid (B1.out.trans ((ag wd (aR v y none 0 0)).mono B1.out.size))
  refine hK.out _ _ trivial (fun _=>?_)
  clear hK K;refine ryQ (rs:=[8]) ?_
  refine rcQ (i:=8) rfl (fun K hK=>?_) rN
  refine wp_append_lies _ (.tmp 32) (.tmp 34) 25 rfl base 78 i0 (.agg #[.int .i64 0,.string ⟨#[]⟩,.slice none 0 0]) 3 48 Tryz.underlying25 hi hz0 hz1 hz2 rfl aj (.slice m.fa m.fn m.fc) m.fn (m.fns.flatMap dR) rfl (Q1.out.later BN.out).rf ⟨wd.heap.size,0,none⟩ 1 1 (dR ((v,y,(none,0,0),[]):FuM)) rfl rfl ?n1 ?n2 aj bV ae (Q1.out.later BN.out).bw _ rfl ?_
  case n1 =>
   exact C5
  case n2=>intro u hu; simp[dR]at hu; rcases hu with rfl | rfl | rfl <;> rfl
  intro g cap w6 ho6 hg6 _ _;have PX:=hid ((Q1.out).pushF BN.out ((v,y,(none,0,0),[]):FuM) aj ⟨rfl,rfl⟩ ho6 hg6);have z6:=hid (cr ((Q1.out.later BN.out).blk) (Q1.out).low ((Q1.out.later BN.out).rf) hg6);clear ho6 hg6
  refine hK.out _ _ trivial (fun _=>?_)
  clear hK K;refine tkQ (i:=9) rfl ?_;(try simp only[Act.put,sIB,sC0,sCs]);refine tkQ (i:=10) rfl ?_;(try simp only[Act.put,sIB,sC0,sCs]);refine tkQ (i:=11) rfl ?_;(try simp only[Act.put,sIB,sC0,sCs]);refine ryQ (rs:=[12]) ?_
  refine rcQ (i:=12) rfl (fun K hK=>?_) rN
  have c16:w6.cell? ⟨R,6,none⟩=some (.slice m.fa m.fn m.fc):=ak z6.out;have f16:w6.frozen? ⟨R,6,none⟩=false:=free_at z6.out;go_simp
  refine hK.out _ _ trivial (fun _=>?_)
  clear hK K;refine wpAnyH_done ai ?_ _;go_end0;exact⟨(HK0.out.trans KX.out).trans PX.out.2,rfl,_,PX.out.1,Bz⟩
 ):P:=h
theorem F7{P:Prop}(h:P:=by
  go_simp
  refine hK.out _ _ trivial (fun _=>?_)
  clear hK K;refine ryQ (rs:=[7]) ?_
  refine rcQ (i:=7) rfl (fun K hK=>?_) rN
  go_simp;have BN:=hid (B1.out.trans ((ag wd (aQ 108 false (v%18446744073709551616))).mono B1.out.size))
  refine hK.out _ _ trivial (fun _=>?_)
  clear hK K;refine ryQ (rs:=[8]) ?_
  refine rcQ (i:=8) rfl (fun K hK=>?_) rN
  refine wp_append_lies _ (.tmp 65) (.tmp 67) 24 rfl base 102 i0 (.agg #[.int .u8 0,.bool false,.int .u64 0]) 3 16 Tryz.underlying24 hi hz0 hz1 hz2 rfl aj (.slice m.ga m.gn m.gc) m.gn (m.globals.flatMap eT) rfl (Q1.out.later BN.out).rg ⟨wd.heap.size,0,none⟩ 1 1 (eT ((108,false,v%18446744073709551616):Gl)) rfl rfl ?n1 ?n2 aj bV ae (Q1.out.later BN.out).bw _ rfl ?_
  case n1 =>
   exact qN
  case n2=>intro u hu; simp[eT]at hu; rcases hu with rfl | rfl | rfl <;> rfl
  intro g cap w6 ho6 hg6 _ _;have PX:=hid ((Q1.out).pushG BN.out ((108,false,v%18446744073709551616):Gl) ho6 hg6);have z6:=hid (cr ((Q1.out.later BN.out).blk) (Q1.out).low ((Q1.out.later BN.out).rg) hg6);clear ho6 hg6
  refine hK.out _ _ trivial (fun _=>?_)
  clear hK K;refine tkQ (i:=9) rfl ?_;(try simp only[Act.put,sIB,sC0,sCs]);refine tkQ (i:=10) rfl ?_;(try simp only[Act.put,sIB,sC0,sCs]);refine tkQ (i:=11) rfl ?_;(try simp only[Act.put,sIB,sC0,sCs]);refine ryQ (rs:=[12]) ?_
  refine rcQ (i:=12) rfl (fun K hK=>?_) rN
  have c16:w6.cell? ⟨R,3,none⟩=some (.slice m.ga m.gn m.gc):=ak z6.out;have f16:w6.frozen? ⟨R,3,none⟩=false:=free_at z6.out;go_simp
  refine hK.out _ _ trivial (fun _=>?_)
  clear hK K;refine wpAnyH_done ai ?_ _;go_end0;exact⟨(HK0.out.trans KX.out).trans PX.out.2,rfl,_,PX.out.1,iJ⟩
 ):P:=h
theorem JB{P:Prop}(h:P:=by
  go_simp
  refine hK.out _ _ trivial (fun _=>?_)
  clear hK K;refine ryQ (rs:=[7]) ?_
  refine rcQ (i:=7) rfl (fun K hK=>?_) rN
  go_simp;have BN:=hid (B1.out.trans ((ag wd (aQ 108 true (v%18446744073709551616))).mono B1.out.size))
  refine hK.out _ _ trivial (fun _=>?_)
  clear hK K;refine ryQ (rs:=[8]) ?_
  refine rcQ (i:=8) rfl (fun K hK=>?_) rN
  refine wp_append_lies _ (.tmp 65) (.tmp 67) 24 rfl base 102 i0 (.agg #[.int .u8 0,.bool false,.int .u64 0]) 3 16 Tryz.underlying24 hi hz0 hz1 hz2 rfl aj (.slice m.ga m.gn m.gc) m.gn (m.globals.flatMap eT) rfl (Q1.out.later BN.out).rg ⟨wd.heap.size,0,none⟩ 1 1 (eT ((108,true,v%18446744073709551616):Gl)) rfl rfl ?n1 ?n2 aj bV ae (Q1.out.later BN.out).bw _ rfl ?_
  case n1 =>
   exact qN
  case n2=>intro u hu; simp[eT]at hu; rcases hu with rfl | rfl | rfl <;> rfl
  intro g cap w6 ho6 hg6 _ _;have PX:=hid ((Q1.out).pushG BN.out ((108,true,v%18446744073709551616):Gl) ho6 hg6);have z6:=hid (cr ((Q1.out.later BN.out).blk) (Q1.out).low ((Q1.out.later BN.out).rg) hg6);clear ho6 hg6
  refine hK.out _ _ trivial (fun _=>?_)
  clear hK K;refine tkQ (i:=9) rfl ?_;(try simp only[Act.put,sIB,sC0,sCs]);refine tkQ (i:=10) rfl ?_;(try simp only[Act.put,sIB,sC0,sCs]);refine tkQ (i:=11) rfl ?_;(try simp only[Act.put,sIB,sC0,sCs]);refine ryQ (rs:=[12]) ?_
  refine rcQ (i:=12) rfl (fun K hK=>?_) rN
  have c16:w6.cell? ⟨R,3,none⟩=some (.slice m.ga m.gn m.gc):=ak z6.out;have f16:w6.frozen? ⟨R,3,none⟩=false:=free_at z6.out;go_simp
  refine hK.out _ _ trivial (fun _=>?_)
  clear hK K;refine wpAnyH_done ai ?_ _;go_end0;exact⟨(HK0.out.trans KX.out).trans PX.out.2,rfl,_,PX.out.1,iJ⟩
 ):P:=h
theorem Hm{P:Prop}(h:P:=by
  go_simp
  refine hK.out _ _ trivial (fun _=>?_)
  clear hK K;refine ryQ (rs:=[6]) ?_
  refine rcQ (i:=6) rfl (fun K hK=>?_) rN
  go_simp;have BN:=hid (BV.out.trans ((ag wv (aF op 0 none 0 0)).mono BV.out.size))
  refine hK.out _ _ trivial (fun _=>?_)
  clear hK K;refine ryQ (rs:=[7]) ?_
  refine rcQ (i:=7) rfl (fun K hK=>?_) rN
  refine wp_append_lies _ (.tmp 73) (.tmp 75) 76 rfl base 75 i0 (.agg #[.int .u8 0,.int .i64 0,.slice none 0 0]) 3 40 Tryz.underlying76 hi hz0 hz1 hz2 rfl aj (.slice ca cn cc) cn (code.flatMap eQ) rfl (HCO.out _ BN.out) ⟨wv.heap.size,0,none⟩ 1 1 (eQ ((op,0,(none,0,0),[]):InM)) rfl rfl ?n1 ?n2 aj bV ae (Q9.out.later BN.out).bw _ rfl ?_
  case n1 =>
   exact qO
  case n2=>intro u hu; simp[eQ]at hu; rcases hu with rfl | rfl | rfl <;> rfl
  intro g cap w6 ho6 hg6 hgb6 _;have PX:=hid (Q9.out.pushI BN.out HFN.out HFA.out ((op,0,(none,0,0),[]):InM) YR.out ho6 hg6 hgb6);rw[HIK.out]at PX;have z6:=hid (HZC.out _ BN.out _ hg6);clear ho6 hg6 hgb6
  refine hK.out _ _ trivial (fun _=>?_)
  clear hK K;refine tkD (i:=8) (d:=some 77) rfl ?_;(try simp only[Act.put,sIB,sC0,sCs]);refine tkD (i:=9) (d:=some 78) rfl ?_;(try simp only[Act.put,sIB,sC0,sCs]);refine ryQ (rs:=[10]) ?_
  refine rcQ (i:=10) rfl (fun K hK=>?_) rN
  have c16:w6.cell? ⟨fb,k*3+2,none⟩=some (.slice ca cn cc):=z6.out.1;have f16:w6.frozen? ⟨fb,k*3+2,none⟩=false:=z6.out.2;go_simp
  refine hK.out _ _ trivial (fun _=>?_)
  clear hK K;refine wpAnyH_done ai ?_ _;go_end0;exact⟨(HK0.out.trans (KR.later BX.out)).trans PX.out.2,rfl,_,PX.out.1,qU⟩
 ):P:=h
theorem JQ{P:Prop}(h:P:=by
  go_simp
  refine hK.out _ _ trivial (fun _=>?_)
  clear hK K;refine ryQ (rs:=[6]) ?_
  refine rcQ (i:=6) rfl (fun K hK=>?_) rN
  go_simp;have BN:=hid (BV.out.trans ((ag wv (aF op a none 0 0)).mono BV.out.size))
  refine hK.out _ _ trivial (fun _=>?_)
  clear hK K;refine ryQ (rs:=[7]) ?_
  refine rcQ (i:=7) rfl (fun K hK=>?_) rN
  refine wp_append_lies _ (.tmp 73) (.tmp 75) 76 rfl base 75 i0 (.agg #[.int .u8 0,.int .i64 0,.slice none 0 0]) 3 40 Tryz.underlying76 hi hz0 hz1 hz2 rfl aj (.slice ca cn cc) cn (code.flatMap eQ) rfl (HCO.out _ BN.out) ⟨wv.heap.size,0,none⟩ 1 1 (eQ ((op,a,(none,0,0),[]):InM)) rfl rfl ?n1 ?n2 aj bV ae (Q9.out.later BN.out).bw _ rfl ?_
  case n1 =>
   exact qO
  case n2=>intro u hu; simp[eQ]at hu; rcases hu with rfl | rfl | rfl <;> rfl
  intro g cap w6 ho6 hg6 hgb6 _;have PX:=hid (Q9.out.pushI BN.out HFN.out HFA.out ((op,a,(none,0,0),[]):InM) YR.out ho6 hg6 hgb6);rw[HIK.out]at PX;have z6:=hid (HZC.out _ BN.out _ hg6);clear ho6 hg6 hgb6
  refine hK.out _ _ trivial (fun _=>?_)
  clear hK K;refine tkD (i:=8) (d:=some 77) rfl ?_;(try simp only[Act.put,sIB,sC0,sCs]);refine tkD (i:=9) (d:=some 78) rfl ?_;(try simp only[Act.put,sIB,sC0,sCs]);refine ryQ (rs:=[10]) ?_
  refine rcQ (i:=10) rfl (fun K hK=>?_) rN
  have c16:w6.cell? ⟨fb,k*3+2,none⟩=some (.slice ca cn cc):=z6.out.1;have f16:w6.frozen? ⟨fb,k*3+2,none⟩=false:=z6.out.2;go_simp
  refine hK.out _ _ trivial (fun _=>?_)
  clear hK K;refine wpAnyH_done ai ?_ _;go_end0;exact⟨(HK0.out.trans (KR.later BX.out)).trans PX.out.2,rfl,_,PX.out.1,qU⟩
 ):P:=h
theorem JR{P:Prop}(h:P:=by
  go_simp
  refine hK.out _ _ trivial (fun _=>?_)
  clear hK K;refine ryQ (rs:=[7]) ?_
  refine rcQ (i:=7) rfl (fun K hK=>?_) rN
  go_simp;have BN:=hid (B1.out.trans ((ag wd (aQ 119 false (v%4294967296))).mono B1.out.size))
  refine hK.out _ _ trivial (fun _=>?_)
  clear hK K;refine ryQ (rs:=[8]) ?_
  refine rcQ (i:=8) rfl (fun K hK=>?_) rN
  refine wp_append_lies _ (.tmp 65) (.tmp 67) 24 rfl base 102 i0 (.agg #[.int .u8 0,.bool false,.int .u64 0]) 3 16 Tryz.underlying24 hi hz0 hz1 hz2 rfl aj (.slice m.ga m.gn m.gc) m.gn (m.globals.flatMap eT) rfl (Q1.out.later BN.out).rg ⟨wd.heap.size,0,none⟩ 1 1 (eT ((119,false,v%4294967296):Gl)) rfl rfl ?n1 ?n2 aj bV ae (Q1.out.later BN.out).bw _ rfl ?_
  case n1 =>
   exact qN
  case n2=>intro u hu; simp[eT]at hu; rcases hu with rfl | rfl | rfl <;> rfl
  intro g cap w6 ho6 hg6 _ _;have PX:=hid ((Q1.out).pushG BN.out ((119,false,v%4294967296):Gl) ho6 hg6);have z6:=hid (cr ((Q1.out.later BN.out).blk) (Q1.out).low ((Q1.out.later BN.out).rg) hg6);clear ho6 hg6
  refine hK.out _ _ trivial (fun _=>?_)
  clear hK K;refine tkQ (i:=9) rfl ?_;(try simp only[Act.put,sIB,sC0,sCs]);refine tkQ (i:=10) rfl ?_;(try simp only[Act.put,sIB,sC0,sCs]);refine tkQ (i:=11) rfl ?_;(try simp only[Act.put,sIB,sC0,sCs]);refine ryQ (rs:=[12]) ?_
  refine rcQ (i:=12) rfl (fun K hK=>?_) rN
  have c16:w6.cell? ⟨R,3,none⟩=some (.slice m.ga m.gn m.gc):=ak z6.out;have f16:w6.frozen? ⟨R,3,none⟩=false:=free_at z6.out;go_simp
  refine hK.out _ _ trivial (fun _=>?_)
  clear hK K;refine wpAnyH_done ai ?_ _;go_end0;exact⟨(HK0.out.trans KX.out).trans PX.out.2,rfl,_,PX.out.1,iJ⟩
 ):P:=h
theorem J3{P:Prop}(h:P:=by
  go_simp
  refine hK.out _ _ trivial (fun _=>?_)
  clear hK K;refine ryQ (rs:=[7]) ?_
  refine rcQ (i:=7) rfl (fun K hK=>?_) rN
  go_simp;have BN:=hid (B1.out.trans ((ag wd (aQ 119 true (v%4294967296))).mono B1.out.size))
  refine hK.out _ _ trivial (fun _=>?_)
  clear hK K;refine ryQ (rs:=[8]) ?_
  refine rcQ (i:=8) rfl (fun K hK=>?_) rN
  refine wp_append_lies _ (.tmp 65) (.tmp 67) 24 rfl base 102 i0 (.agg #[.int .u8 0,.bool false,.int .u64 0]) 3 16 Tryz.underlying24 hi hz0 hz1 hz2 rfl aj (.slice m.ga m.gn m.gc) m.gn (m.globals.flatMap eT) rfl (Q1.out.later BN.out).rg ⟨wd.heap.size,0,none⟩ 1 1 (eT ((119,true,v%4294967296):Gl)) rfl rfl ?n1 ?n2 aj bV ae (Q1.out.later BN.out).bw _ rfl ?_
  case n1 =>
   exact qN
  case n2=>intro u hu; simp[eT]at hu; rcases hu with rfl | rfl | rfl <;> rfl
  intro g cap w6 ho6 hg6 _ _;have PX:=hid ((Q1.out).pushG BN.out ((119,true,v%4294967296):Gl) ho6 hg6);have z6:=hid (cr ((Q1.out.later BN.out).blk) (Q1.out).low ((Q1.out.later BN.out).rg) hg6);clear ho6 hg6
  refine hK.out _ _ trivial (fun _=>?_)
  clear hK K;refine tkQ (i:=9) rfl ?_;(try simp only[Act.put,sIB,sC0,sCs]);refine tkQ (i:=10) rfl ?_;(try simp only[Act.put,sIB,sC0,sCs]);refine tkQ (i:=11) rfl ?_;(try simp only[Act.put,sIB,sC0,sCs]);refine ryQ (rs:=[12]) ?_
  refine rcQ (i:=12) rfl (fun K hK=>?_) rN
  have c16:w6.cell? ⟨R,3,none⟩=some (.slice m.ga m.gn m.gc):=ak z6.out;have f16:w6.frozen? ⟨R,3,none⟩=false:=free_at z6.out;go_simp
  refine hK.out _ _ trivial (fun _=>?_)
  clear hK K;refine wpAnyH_done ai ?_ _;go_end0;exact⟨(HK0.out.trans KX.out).trans PX.out.2,rfl,_,PX.out.1,iJ⟩
 ):P:=h
theorem GC{P:Prop}(h:P:=by
  go_simp
  refine hK.out _ _ trivial (fun _=>?_)
  clear hK K;refine ryQ (rs:=[10]) ?_
  refine rcQ (i:=10) rfl (fun K hK=>?_) rN
  go_simp;refine(HI.out _ B1.out).mono ?_;rintro e w5⟨rfl,hb5⟩;have B5:=hid (B1.out.trans (hb5.mono B1.out.size));clear hb5
  refine hK.out _ _ trivial (fun _=>?_)
  clear hK K;refine ryQ (rs:=[11]) ?_
  refine rcQ (i:=11) rfl (fun K hK=>?_) rN
  go_simp;have BN:=hid (B5.out.trans ((ag w5 (bq v)).mono B5.out.size))
  refine hK.out _ _ trivial (fun _=>?_)
  clear hK K;refine ryQ (rs:=[12]) ?_
  refine rcQ (i:=12) rfl (fun K hK=>?_) rN
  refine wp_append_lies _ (.tmp 16) (.tmp 22) 23 rfl base 3 i0 (.int .i64 0) 1 8 Tryz.underlying23 hi hz0 hz1 hz2 rfl aj (.slice m.ha m.hn m.hc) m.hn (m.hosts.flatMap iw) rfl (Q1.out.later BN.out).rh ⟨w5.heap.size,0,none⟩ 1 1 (iw v) rfl rfl ?n1 ?n2 aj bV ae (Q1.out.later BN.out).bw _ rfl ?_
  case n1 =>
   exact CI
  case n2=>intro u hu; simp[iw]at hu; subst hu; rfl
  intro g cap w6 ho6 hg6 _ _;have PX:=hid ((Q1.out).pushH BN.out v aj ho6 hg6);have z6:=hid (cr ((Q1.out.later BN.out).blk) (Q1.out).low ((Q1.out.later BN.out).rh) hg6);clear ho6 hg6
  refine hK.out _ _ trivial (fun _=>?_)
  clear hK K;refine tkQ (i:=13) rfl ?_;(try simp only[Act.put,sIB,sC0,sCs]);refine tkQ (i:=14) rfl ?_;(try simp only[Act.put,sIB,sC0,sCs]);refine tkQ (i:=15) rfl ?_;(try simp only[Act.put,sIB,sC0,sCs]);refine ryQ (rs:=[16]) ?_
  refine rcQ (i:=16) rfl (fun K hK=>?_) rN
  have c16:w6.cell? ⟨R,2,none⟩=some (.slice m.ha m.hn m.hc):=ak z6.out;have f16:w6.frozen? ⟨R,2,none⟩=false:=free_at z6.out;go_simp
  refine hK.out _ _ trivial (fun _=>?_)
  clear hK K;refine wpAnyH_done ai ?_ _;go_end0;exact⟨HK1.out.trans PX.out.2,rfl,_,PX.out.1,iJ⟩
 ):P:=h
theorem JF{P:Prop}(h:P:=by
  go_simp
  refine hK.out _ _ trivial (fun _=>?_)
  clear hK K;refine ryQ (rs:=[7]) ?_
  refine rcQ (i:=7) rfl (fun K hK=>?_) rN
  go_simp;have BN:=hid (B1.out.trans ((ag wd (bj x v)).mono B1.out.size))
  refine hK.out _ _ trivial (fun _=>?_)
  clear hK K;refine ryQ (rs:=[8]) ?_
  refine rcQ (i:=8) rfl (fun K hK=>?_) rN
  refine wp_append_lies _ (.tmp 27) (.tmp 29) 27 rfl base 83 i0 (.agg #[.string ⟨#[]⟩,.int .i64 0]) 2 24 Tryz.underlying27 hi hz0 hz1 hz2 rfl aj (.slice m.ea m.en m.ec) m.en (m.exps.flatMap oU) rfl (Q1.out.later BN.out).re ⟨wd.heap.size,0,none⟩ 1 1 (oU ((x,v):Ex)) rfl rfl ?n1 ?n2 aj bV ae (Q1.out.later BN.out).bw _ rfl ?_
  case n1 =>
   exact Dv
  case n2=>intro u hu; simp[oU]at hu; rcases hu with rfl | rfl <;> rfl
  intro g cap w6 ho6 hg6 _ _;have PX:=hid ((Q1.out).pushE BN.out ((x,v):Ex) ho6 hg6);have z6:=hid (cr ((Q1.out.later BN.out).blk) (Q1.out).low ((Q1.out.later BN.out).re) hg6);clear ho6 hg6
  refine hK.out _ _ trivial (fun _=>?_)
  clear hK K;refine tkQ (i:=9) rfl ?_;(try simp only[Act.put,sIB,sC0,sCs]);refine tkQ (i:=10) rfl ?_;(try simp only[Act.put,sIB,sC0,sCs]);refine tkQ (i:=11) rfl ?_;(try simp only[Act.put,sIB,sC0,sCs]);refine ryQ (rs:=[12]) ?_
  refine rcQ (i:=12) rfl (fun K hK=>?_) rN
  have c16:w6.cell? ⟨R,8,none⟩=some (.slice m.ea m.en m.ec):=ak z6.out;have f16:w6.frozen? ⟨R,8,none⟩=false:=free_at z6.out;go_simp
  refine hK.out _ _ trivial (fun _=>?_)
  clear hK K;refine wpAnyH_done ai ?_ _;go_end0
  exact⟨(HK0.out.trans (KR.later BX.out)).trans PX.out.2,rfl,_,PX.out.1,by rw[HEx.out]; unfold pl; rfl⟩
 ):P:=h
theorem J8{P:Prop}(h:P:=by
  go_simp
  refine hK.out _ _ trivial (fun _=>?_)
  clear hK K;refine ryQ (rs:=[7]) ?_
  refine rcQ (i:=7) rfl (fun K hK=>?_) rN
  go_simp;have BN:=hid (B1.out.trans ((ag wd (aX rp rr)).mono B1.out.size))
  refine hK.out _ _ trivial (fun _=>?_)
  clear hK K;refine ryQ (rs:=[8]) ?_
  refine rcQ (i:=8) rfl (fun K hK=>?_) rN
  refine wp_append_lies _ (.tmp 24) (.tmp 26) 22 rfl base 73 i0 (.agg #[.string ⟨#[]⟩,.string ⟨#[]⟩]) 2 32 Tryz.underlying22 hi hz0 hz1 hz2 rfl aj (.slice m.ta m.tn m.tc) m.tn (m.types.flatMap nU) rfl (Q1.out.later BN.out).rt ⟨wd.heap.size,0,none⟩ 1 1 (nU (rp,rr)) rfl rfl ?n1 ?n2 aj bV ae (Q1.out.later BN.out).bw _ rfl ?_
  case n1 =>
   exact Dk
  case n2=>intro u hu; simp[nU]at hu; rcases hu with rfl | rfl <;> rfl
  intro g cap w6 ho6 hg6 _ _;have PX:=hid ((Q1.out).pushT BN.out (rp,rr) ho6 hg6);have z6:=hid (cr ((Q1.out.later BN.out).blk) (Q1.out).low ((Q1.out.later BN.out).rt) hg6);clear ho6 hg6
  refine hK.out _ _ trivial (fun _=>?_)
  clear hK K;refine tkQ (i:=9) rfl ?_;(try simp only[Act.put,sIB,sC0,sCs]);refine tkQ (i:=10) rfl ?_;(try simp only[Act.put,sIB,sC0,sCs]);refine tkQ (i:=11) rfl ?_;(try simp only[Act.put,sIB,sC0,sCs]);refine ryQ (rs:=[12]) ?_
  refine rcQ (i:=12) rfl (fun K hK=>?_) rN
  have c16:w6.cell? ⟨R,1,none⟩=some (.slice m.ta m.tn m.tc):=ak z6.out;have f16:w6.frozen? ⟨R,1,none⟩=false:=free_at z6.out;go_simp
  refine hK.out _ _ trivial (fun _=>?_)
  clear hK K;refine wpAnyH_done ai ?_ _;go_end0;exact⟨(HK0.out.trans (KR.later B4.out)).trans PX.out.2,rfl,_,PX.out.1,iJ⟩
 ):P:=h
theorem mZ{P:Prop}(h:P:=by
  have hz6':=hz6.out
  have hBn:w.heap.size≤B∧Kept (fun k=>k=B) W6 w7∧((∃a,aa=some a∧a.block=B)∨W6.heap.size≤B):=by
   rcases OR7.out with ⟨h1,h2⟩ | ⟨h1,h2⟩
   ·have h1':aa=some ⟨B,0,none⟩:=(Value.slice.inj h1).1;exact⟨HAB.out _ h1',h2,.inl ⟨_,h1',rfl⟩⟩
   ·exact⟨ae,h2.mono (fun k hk=>hk.elim),.inr h1⟩
  have hRw:R<w.heap.size:=hRl
  go_roundw
  ·refine⟨j+1,ys++[y],some ⟨B,0,none⟩,cap7,rs3,ae,rfl,rfl,by simp[hyl],y9 f ys y HF.out HFY.out,?_,?_,?_,?_,?_,?_,?_⟩
   ·exact qE
   ·intro b' hb'
    simp at hb'
    subst hb';exact hBn.1
   ·intro y' hy';obtain⟨g1,g2⟩:=HO5.out y' hy';have g3:=O.lt y' w5
    refine⟨O.kp y' _ _ _ (O.kp y' _ _ (fun _=>False) g1 (aN BN5.out) (fun _ _=>id)) hBn.2.1 (fun b hb hbB=>?_),fun b hb=>⟨(g2 b hb).1,fun a ha hbB=>?_⟩⟩
    ·have h3:=g3 b g1 hb;exact BJ
    ·simp at ha
     subst ha;have h3:=g3 b g1 hb
     simp only at hbB
     exact BJ
   ·refine HIK.out _ _ _ HI5.out (fun k hk hne=>?_)
    have hkl:=HQL.out k hk;exact(hBn.2.1.block k ae ae).trans (BN5.out.block k ae)
   ·rw[HRS2.out,HR3.out]; simp
   ·have:=(W5.out.later BN5.out).kept hBn.2.1 ae (fun b off c hb hbB=>by
     have:=W5.out.lo b off c hb
     omega)
    simpa[List.append_assoc] using this
   ·exact(K5.out.trans (aN BN5.out)).then hBn.2.1 (fun k hk hkB=>vG)
  ·simp[intOf]; omega
 ):P:=h
theorem IQ{P:Prop}(h:P:=by
  have HI1:=hid (fun(W:World) (hW:Below w1.heap.size w1 W)=>jq B R y v W (e1.tens.later (hW.mono e1.bw)) (Nat.le_trans e1.bw hW.size) ae h4)
  clear h hw hE hps h1 q1 d1 k1 e1 e hx ex hz ez hy ey h3 h4 h5 h6
  go_enter Tryz.func111,Tryz.ntmps111
  go_wp2_with fail;refine HO.out.mono ?_;rintro e w1' ⟨rfl,hw1⟩;have hw2:=hw1.symm;subst hw2;go_wp2_with fail;refine HM.out.mono ?_;rintro e w1'' ⟨rfl,hw1⟩;have hw2:=hw1.symm;subst hw2;have cz:=HWz.out w1 (Below.refl _ _);have HM2:=hid (aH R w1);go_wp2_with fail;refine HM2.out.mono ?_;rintro e w2' ⟨rfl,hw1⟩;have hw2:=hw1.symm;subst hw2;have cy:(w1.alloc (aQ 0 false 0)).cell? ⟨A,3,none⟩=some (.string y):=HWy.out _ (ag w1 _);have BX0:=hid (ag w1 (aQ 0 false 0));have hX0:=hid (heap_alloc_new w1 (aQ 0 false 0));go_wp2_with fail;refine(HI1.out _ BX0.out).mono ?_;rintro e w5⟨rfl,hb5⟩;have B5:=hid (BX0.out.trans (hb5.mono BX0.out.size));have hX5:=au hb5 hX0.out;have c50:w5.cell? ⟨w1.heap.size,0,none⟩=some (.int .u8 0):=ak hX5;have c52:w5.cell? ⟨w1.heap.size,2,none⟩=some (.int .u64 0):=ak hX5;have f50:w5.frozen? ⟨w1.heap.size,0,none⟩=false:=free_at hX5;have f52:w5.frozen? ⟨w1.heap.size,2,none⟩=false:=free_at hX5;have HX5:=hid hX5;have cx5:w5.cell? ⟨A,1,none⟩=some (.string x):=HWx.out _ B5.out;have HQ5:=hid (HQ0.out.later B5.out);clear hb5 cy hX0 hX5;have HM5:=hid (gu HQ5.out);go_wp2_with fail;refine HM5.out.mono ?_;rintro e w5' ⟨rfl,hw1⟩;have hw2:=hw1.symm;subst hw2;exact⟨rfl,HK0.out.trans (KR.later B5.out),rfl⟩
 ):P:=h
theorem Ky{P:Prop}(h:P:=by
  have HI1:=hid (fun(W:World) (hW:Below w1.heap.size w1 W)=>jq B R y v W (e1.tens.later (hW.mono e1.bw)) (Nat.le_trans e1.bw hW.size) ae h4)
  clear h hw hE hps h1 q1 d1 k1 e1 e hx ex hz ez hy ey h3 h4 h5 h6
  go_enter Tryz.func111,Tryz.ntmps111
  go_wp2_with fail;refine HO.out.mono ?_;rintro e w1' ⟨rfl,hw1⟩;have hw2:=hw1.symm;subst hw2;go_wp2_with fail;refine HM.out.mono ?_;rintro e w1'' ⟨rfl,hw1⟩;have hw2:=hw1.symm;subst hw2;have cz:=HWz.out w1 (Below.refl _ _);have HM2:=hid (aH R w1);go_wp2_with fail;refine HM2.out.mono ?_;rintro e w2' ⟨rfl,hw1⟩;have hw2:=hw1.symm;subst hw2;have cy:(w1.alloc (aQ 0 true 0)).cell? ⟨A,3,none⟩=some (.string y):=HWy.out _ (ag w1 _);have BX0:=hid (ag w1 (aQ 0 true 0));have hX0:=hid (heap_alloc_new w1 (aQ 0 true 0));go_wp2_with fail;refine(HI1.out _ BX0.out).mono ?_;rintro e w5⟨rfl,hb5⟩;have B5:=hid (BX0.out.trans (hb5.mono BX0.out.size));have hX5:=au hb5 hX0.out;have c50:w5.cell? ⟨w1.heap.size,0,none⟩=some (.int .u8 0):=ak hX5;have c52:w5.cell? ⟨w1.heap.size,2,none⟩=some (.int .u64 0):=ak hX5;have f50:w5.frozen? ⟨w1.heap.size,0,none⟩=false:=free_at hX5;have f52:w5.frozen? ⟨w1.heap.size,2,none⟩=false:=free_at hX5;have HX5:=hid hX5;have cx5:w5.cell? ⟨A,1,none⟩=some (.string x):=HWx.out _ B5.out;have HQ5:=hid (HQ0.out.later B5.out);clear hb5 cy hX0 hX5;have HM5:=hid (gu HQ5.out);go_wp2_with fail;refine HM5.out.mono ?_;rintro e w5' ⟨rfl,hw1⟩;have hw2:=hw1.symm;subst hw2;exact⟨rfl,HK0.out.trans (KR.later B5.out),rfl⟩
 ):P:=h
theorem J6{P:Prop}(h:P:=by
  refine hK.out _ _ trivial (fun _=>?_)
  clear hK K;refine ryQ (rs:=[12]) ?_
  refine rcQ (i:=12) rfl (fun K hK=>?_) rN
  refine wp_append_lies _ (.tmp 16) (.tmp 22) 23 rfl base 3 i0 (.int .i64 0) 1 8 Tryz.underlying23 hi hz0 hz1 hz2 rfl aj (.slice m.ha m.hn m.hc) m.hn (m.hosts.flatMap iw) rfl (Q1.out.later BN.out).rh ⟨w5.heap.size,0,none⟩ 1 1 (iw v) rfl rfl ?n1 ?n2 aj bV ae (Q1.out.later BN.out).bw _ rfl ?_
  case n1 =>
   exact CI
  case n2=>intro u hu; simp[iw]at hu; subst hu; rfl
  intro g cap w6 ho6 hg6 _ _;have PX:=hid ((Q1.out).pushH BN.out v aj ho6 hg6);have z6:=hid (cr ((Q1.out.later BN.out).blk) (Q1.out).low ((Q1.out.later BN.out).rh) hg6);clear ho6 hg6
  refine hK.out _ _ trivial (fun _=>?_)
  clear hK K;refine tkQ (i:=13) rfl ?_;(try simp only[Act.put,sIB,sC0,sCs]);refine tkQ (i:=14) rfl ?_;(try simp only[Act.put,sIB,sC0,sCs]);refine tkQ (i:=15) rfl ?_;(try simp only[Act.put,sIB,sC0,sCs]);refine ryQ (rs:=[16]) ?_
  refine rcQ (i:=16) rfl (fun K hK=>?_) rN
  have c16:w6.cell? ⟨R,2,none⟩=some (.slice m.ha m.hn m.hc):=ak z6.out;have f16:w6.frozen? ⟨R,2,none⟩=false:=free_at z6.out;go_simp
  refine hK.out _ _ trivial (fun _=>?_)
  clear hK K;refine wpAnyH_done ai ?_ _;go_end0;exact⟨HK1.out.trans PX.out.2,rfl,_,PX.out.1,iJ⟩
 ):P:=h
theorem JC{P:Prop}(h:P:=by
  by_cases k1:(p'.toList==p.toList)=true
  ·have k2:(r'.toList==s.toList)=false:=by rw[k1]at hne; simpa using hne
   clear hne
   go_region_held3 (fun W=>W.cell? ⟨wr.heap.size,0,none⟩=some (.string p')∧W.cell? ⟨wr.heap.size,1,none⟩=some (.string r')∧W.cell? ⟨B,0,none⟩=some (.string p)∧W.cell? ⟨C,0,none⟩=some (.int .i64 beg))
    (first | assumption | exact⟨z0,z1,z2,z3⟩)
    (first
     | (go_at_call 84; refine(cG rfl).mono ?_; rintro e w' ⟨rfl,rfl⟩))
   go_wp2_with fail
   go_roundw
   ·exact BZ
   ·simp[intOf]; omega
  ·have k1':(p'.toList==p.toList)=false:=by simpa using k1
   clear hne k1
   go_region_held3 (fun W=>W.cell? ⟨wr.heap.size,0,none⟩=some (.string p')∧W.cell? ⟨wr.heap.size,1,none⟩=some (.string r')∧W.cell? ⟨B,0,none⟩=some (.string p)∧W.cell? ⟨C,0,none⟩=some (.int .i64 beg))
    (first | assumption | exact⟨z0,z1,z2,z3⟩)
    (first
     | (go_at_call 84; refine(cG rfl).mono ?_; rintro e w' ⟨rfl,rfl⟩))
   go_wp2_with fail
   go_roundw
   ·exact BZ
   ·simp[intOf]; omega
 ):P:=h
theorem Jh{P:Prop}(h:P:=by
  go_wp2_with fail
  go_loopw [5] (fun p wr=>∃t:Nat,t≤n∧p=.int .i64 t∧Hid (Below w.heap.size w wr)) (fun p _=>n-(intOf p).toNat)
  case atStart=>exact⟨0,ae,rfl,hid (Below.refl _ _)⟩
  case round =>
   obtain⟨t,ht,rfl,HB⟩:=hrel
   by_cases hlt:t<n
   ·have hlt':(t:Int)<(n:Int):=ae;obtain⟨x,hx⟩:∃x,l[t]? =some x:=⟨_,aO ae⟩;obtain⟨b1,o1,rfl,hat1⟩:=H1.out.2.resolve_left ae;obtain⟨b2,o2,rfl,hat2⟩:=H2.out.2.resolve_left ae;obtain⟨e10,e11⟩:=hat1 t x hx;have e10:=az HB.out e10;have e11:=az HB.out e11;obtain⟨e20,e21⟩:=hat2 t x hx;have e20:=az HB.out e20;have e21:=az HB.out e21;clear hat1 hat2 hx
    have HBD:=hid (fun(n:Nat)=>(show Below w.heap.size w (wr.drewN n) from nK HB.out (Kept.drewN (fun _=>False) _ n) HB.out.size (fun _ x=>x.elim)))
    obtain⟨x0,x1⟩:=x;exact uI
   ·have hlt':¬(t:Int)<(n:Int):=ae;go_wp2_with fail;go_ret;exact⟨rfl,HB.out⟩
 ):P:=h
theorem Ie{P:Prop}(h:P:=by
  go_wp2_with fail
  go_loopw [5] (fun p wr=>∃t:Nat,t≤n∧p=.int .i64 t∧Hid (Below w.heap.size w wr)) (fun p _=>n-(intOf p).toNat)
  case atStart=>exact⟨0,ae,rfl,hid (Below.refl _ _)⟩
  case round =>
   obtain⟨t,ht,rfl,HB⟩:=hrel
   by_cases hlt:t<n
   ·have hlt':(t:Int)<(n:Int):=ae;obtain⟨x,hx⟩:∃x,l[t]? =some x:=⟨_,aO ae⟩;obtain⟨b1,o1,rfl,hat1⟩:=H1.out.2.resolve_left ae;obtain⟨b2,o2,rfl,hat2⟩:=H2.out.2.resolve_left ae;have e10:=hat1 t x hx;have e10:=az HB.out e10;have e20:=hat2 t x hx;have e20:=az HB.out e20;clear hat1 hat2 hx
    have HBD:=hid (fun(n:Nat)=>(show Below w.heap.size w (wr.drewN n) from nK HB.out (Kept.drewN (fun _=>False) _ n) HB.out.size (fun _ x=>x.elim)))
    have hxx:(x != x)=false:=ar;exact uI
   ·have hlt':¬(t:Int)<(n:Int):=ae;go_wp2_with fail;go_ret;exact⟨rfl,HB.out⟩
 ):P:=h
theorem lB{P:Prop}(h:P:=by
  rintro e w2⟨rfl,hb2⟩;have Y2:=hid (HY.out.later hb2);have K2:=hid (HK.out.trans (aM hb2));have HC:=hid (HL.out w2 (HR.out.later hb2) (HS.out.kept (aM (R:=R) hb2) hB));have hlt2:Z<w2.heap.size:=Y2.out.ltZ;clear hb2 HR HS HK HL HY;unfold fG at *;go_wp2_with fail;refine HC.out.mono ?_;rintro e w3⟨rfl,hrd,hk3⟩;have R3:=hid hrd;clear hrd;have K3:=hid (K2.out.trans hk3);obtain⟨y0,y1,y2,f0,f1,f2,z0,z1,z2,g1,g2⟩:=Y2.out.kept hk3 ae ae;clear hk3 Y2 K2 HC;have hZY:Z≠Y:=ae;have hYZ':Y≠Z:=ae;go_wp2_with fail;refine bodyPost_ret (v:=.tuple #[.agg #[.int .u8 c,.int .i64 D.1,.slice none 0 0],.int .i64 D.2.2]) ?_ rfl ⟨.slice none 0 0,?_,?_,?_,?_⟩
  ·rw[results_cell_tmp rfl];go_simp
  ·rw[← HT.out]
  ·rw[← HT.out]; exact World.ownsRow_nil _ _ _ _
  ·rw[← HT.out];intro h;have h':D.2.2=0:=h
   simp only[h',if_true]
   exact((((R3.out.set ae).set ae).set ae).set ae)
  ·exact gZ (gZ (gZ (gZ K3.out ae) ae) ae) ae
 ):P:=h
theorem GH{P:Prop}(h:P:=by
  replace hSw:=(⟨HWx.out _ B6.out,HWy.out _ B6.out⟩:w6.cell? ⟨A,1,none⟩=some (.string x)∧w6.cell? ⟨A,2,none⟩=some (.string y))
  clear hb6 ho6
  refine hK.out _ _ hSw (fun _=>?_)
  clear hK K;refine tkD (i:=10) (d:=some 22) rfl ?_ (hS:=aL);(try simp only[Act.put,sIB,sC0,sCs]);refine ryQ (rs:=[12]) ?_
  refine rcQ (i:=12) rfl (fun K hK=>?_) rN
  have cX0:w6.cell? ⟨X,0,none⟩=some (.int .i64 0):=ak HXB.out;have cX1:w6.cell? ⟨X,1,none⟩=some (.slice none 0 0):=ak HXB.out;have fX0:w6.frozen? ⟨X,0,none⟩=false:=free_at HXB.out;have fX1:w6.frozen? ⟨X,1,none⟩=false:=free_at HXB.out;go_simp
  have HST:=hid (fun u v=>qK B6.out HXB.out hXg u v)
  clear hSw
  refine hK.out _ _ ⟨HWx.out _ (HST.out _ _).1,HWy.out _ (HST.out _ _).1⟩ (fun hSw=>?_)
  clear hK K;refine wpAnyH_done ai ?_ _;go_wp2_with fail
  go_meet
  exact⟨X,rfl,hid ⟨(HST.out _ _).1,_,(HST.out _ _).2.1,ra O5.out (HST.out _ _).2.2 HXB.out aj⟩⟩
 ):P:=h
theorem JI{P:Prop}(h:P:=by
  replace hSw:=(⟨HWx.out _ B6.out,HWy.out _ B6.out⟩:w6.cell? ⟨A,1,none⟩=some (.string x)∧w6.cell? ⟨A,2,none⟩=some (.string y))
  clear hb6
  refine hK.out _ _ hSw (fun _=>?_)
  clear hK K;refine tkD (i:=9) (d:=some 21) rfl ?_ (hS:=aL);(try simp only[Act.put,sIB,sC0,sCs]);refine ryQ (rs:=[11]) ?_
  refine rcQ (i:=11) rfl (fun K hK=>?_) rN
  have cX0:w6.cell? ⟨X,0,none⟩=some (.string ⟨#[]⟩):=ak HXB.out;have cX1:w6.cell? ⟨X,1,none⟩=some (.int .i64 0):=ak HXB.out;have fX0:w6.frozen? ⟨X,0,none⟩=false:=free_at HXB.out;have fX1:w6.frozen? ⟨X,1,none⟩=false:=free_at HXB.out;go_simp
  have HST:=hid (fun u v=>qK B6.out HXB.out hXg u v)
  clear hSw
  refine hK.out _ _ ⟨HWx.out _ (HST.out _ _).1,HWy.out _ (HST.out _ _).1⟩ (fun hSw=>?_)
  clear hK K;refine wpAnyH_done ai ?_ _;go_wp2_with fail
  go_meet
  exact⟨X,rfl,hid ⟨(HST.out _ _).1,(HST.out _ _).2.1⟩⟩
 ):P:=h
theorem Gh{P:Prop}(h:P:=by
  generalize dC ws.tail=jw at *;clear h hw hE hps h1 q1 d1 k1 e1 e ej hlen hj
  have hne:(rdE jw==0)=false:=by simpa using h3
  clear h3
  go_enter Tryz.func109,Tryz.ntmps109
  go_wp2_with fail;refine HO.out.mono ?_;rintro e w1' ⟨rfl,hw1⟩;have hw2:=hw1.symm;subst hw2;go_wp2_with fail;refine HJ.out.mono ?_;rintro e w2⟨rfl,hb2⟩;have B2:=hid hb2;clear hb2;go_wp2_with fail;refine(HS.out _ B2.out).mono ?_;rintro e w3⟨rfl,hb3⟩;have B3:=hid (B2.out.trans (hb3.mono B2.out.size));clear hb3;go_wp2_with fail;have B4:=hid (B3.out.trans ((ag w3 (aX (rdP jw) (rdR jw))).mono B3.out.size));have HM:=hid (gu (HQ0.out.later B4.out));clear HS HJ HO;refine HM.out.mono ?_;rintro e w1'' ⟨rfl,hw1⟩;have hw2:=hw1.symm;subst hw2;exact⟨rfl,HK0.out.trans (KR.later B4.out),rfl⟩
 ):P:=h
theorem wE{P:Prop}(h:P:=by
  rw[HIK.out]at PX;have z6:=hid (HZC.out _ BN.out _ hg6);clear ho6 hg6 hgb6
  refine hK.out _ _ trivial (fun _=>?_)
  clear hK K;refine tkD (i:=8) (d:=some 77) rfl ?_;(try simp only[Act.put,sIB,sC0,sCs]);refine tkD (i:=9) (d:=some 78) rfl ?_;(try simp only[Act.put,sIB,sC0,sCs]);refine ryQ (rs:=[10]) ?_
  refine rcQ (i:=10) rfl (fun K hK=>?_) rN
  have c16:w6.cell? ⟨fb,k*3+2,none⟩=some (.slice ca cn cc):=z6.out.1;have f16:w6.frozen? ⟨fb,k*3+2,none⟩=false:=z6.out.2;go_simp
  refine hK.out _ _ trivial (fun _=>?_)
  clear hK K;refine wpAnyH_done ai ?_ _;go_end0;exact⟨(HK0.out.trans (KR.later BX.out)).trans PX.out.2,rfl,_,PX.out.1,qU⟩
 ):P:=h
theorem vU{P:Prop}(h:P:=by
  have z6:=hid (cr ((Q1.out.later BN.out).blk) (Q1.out).low ((Q1.out.later BN.out).rg) hg6);clear ho6 hg6
  refine hK.out _ _ trivial (fun _=>?_)
  clear hK K;refine tkQ (i:=9) rfl ?_;(try simp only[Act.put,sIB,sC0,sCs]);refine tkQ (i:=10) rfl ?_;(try simp only[Act.put,sIB,sC0,sCs]);refine tkQ (i:=11) rfl ?_;(try simp only[Act.put,sIB,sC0,sCs]);refine ryQ (rs:=[12]) ?_
  refine rcQ (i:=12) rfl (fun K hK=>?_) rN
  have c16:w6.cell? ⟨R,3,none⟩=some (.slice m.ga m.gn m.gc):=ak z6.out;have f16:w6.frozen? ⟨R,3,none⟩=false:=free_at z6.out;go_simp
  refine hK.out _ _ trivial (fun _=>?_)
  clear hK K;refine wpAnyH_done ai ?_ _;go_end0;exact⟨(HK0.out.trans KX.out).trans PX.out.2,rfl,_,PX.out.1,iJ⟩
 ):P:=h
theorem J7{P:Prop}(h:P:=by
  obtain⟨d1,_⟩:=hk3 _ ar _ c1;obtain⟨d2,e2⟩:=hk3 _ ar _ c2;obtain⟨d3,_⟩:=hk3 _ ar _ c3;rw[f2]at e2;have k5:(k:Int)+1≤s.size:=ae
  gi_wp2_with fail
  go_roundw
  case rel =>
   refine⟨s.extract (k+1) s.size,?_,?_,?_,?_,hJ _ _ _ hJ3,?_⟩
   ·rw[World.cell?_setCell_other _ _ _ _ ar]; exact d1
   ·exact World.cell?_setCell_same' _ _ _ (by rw[d2]; rfl)
   ·rw[World.frozen?_setCell]; exact e2
   ·rw[World.cell?_setCell_other _ _ _ _ ar]; exact d3
   ·simp; omega
  case measure =>
   rw[show sK w' ⟨b2,0,none⟩=s by simp[sK,c2]]
   rw[sK,World.cell?_setCell_same' _ _ _ (by rw[d2]; rfl)]
   simp
   omega
 ):P:=h
theorem Jg{P:Prop}(h:P:=by
  go_wp2_with fail;refine(dE R _ _ _ w c0).mono ?_;rintro e w1⟨rfl,rfl⟩;go_wp2_with fail;refine hask.mono ?_;rintro e w2⟨rfl,b2⟩;have B2:=hid b2;clear b2 hask hK c0;go_wp2_with fail;refine(HU.out _).mono ?_;rintro e w3⟨B,rfl,s3,b3⟩;have B3:=hid (B2.out.trans (b3.mono B2.out.size));have S3:=hid s3;clear s3 b3 HU;go_wp2_with fail;refine(uw R g cap bs _ _ _ _ w3 (HW.out.later B3.out) S3.out ae ae).mono ?_;rintro e w4⟨rfl,g',cap',hw4,hs4⟩;have W4:=hid hw4;have S4:=hid ((Stp.of_below B3.out).trans hs4);clear hw4 hs4;go_wp2_with fail;go_ret;exact⟨rfl,g',cap',W4.out,S4.out⟩
 ):P:=h
theorem Gr{P:Prop}(h:P:=by
  go_simp
  refine hK.out _ _ trivial (fun _=>?_)
  clear hK K;refine ryQ (rs:=[6]) ?_
  refine rcQ (i:=6) rfl (fun K hK=>?_) rN
  go_simp;refine(HI1.out _ B1.out).mono ?_;rintro e w5⟨rfl,hb5⟩;have B5:=hid (B1.out.trans (hb5.mono B1.out.size));clear hb5
  refine hK.out _ _ trivial (fun _=>?_)
  clear hK K;refine ryQ (rs:=[11]) ?_
  refine rcQ (i:=11) rfl (fun K hK=>?_) rN
  go_simp;refine(HI2.out _ B5.out).mono ?_;rintro e w6⟨rfl,hb6⟩;exact⟨rfl,HK0.out.trans (KR.later (B5.out.trans (hb6.mono B5.out.size))),rfl⟩
 ):P:=h
theorem Je{P:Prop}(h:P:=by
  go_wp2_with fail;refine HP.out.mono ?_;rintro e w2⟨rfl,hw2⟩;rw[← hw2]at G KG;have HQ:=hid (HA.out v w2 hv0 hv1 KG.out);clear hw2 c0 c1 f1 HU HA;go_wp2_with fail;refine HQ.out.mono ?_
  rintro e w3 (⟨hok,rfl,hb⟩ | ⟨⟨y,p,hy,rfl⟩,hb⟩)
  ·have G3:=hid (G.out.later hb);have K3:=hid (KG.out.trans (KO.of_below hb));clear hb;go_wp2_with fail;go_ret;exact .inr ⟨v,rfl,hv0,hv1,hok,rs',rfl,G3.out,K3.out⟩
  ·exact⟨rfl,.inl ⟨⟨y,p,hy,rfl⟩,KG.out.trans (KO.of_below hb)⟩⟩
 ):P:=h
theorem Gp{P:Prop}(h:P:=by
  cases st with
  | none=>exact⟨h.1,Nat.le_trans h.2 (Nat.min_le_right _ _)⟩
  | some a =>
   have ha:=hs a rfl
   refine⟨fun x hx=>?_,?_⟩
   ·simp only[Lib.closeSpans,List.mem_append,List.mem_singleton]at hx
    rcases hx with hx | rfl
    ·exact h.1 x hx
    ·exact⟨ha.2,Nat.le_refl _⟩
   ·have:=h.2
    simp only[Lib.closeSpans,List.map_append,List.sum_append,List.map_cons,List.map_nil,List.sum_cons,List.sum_nil,Option.getD_some]at this ⊢
    omega
 ):P:=h
theorem Jy{P:Prop}(h:P:=by
  go_wp2_with fail;refine(kD _ _ _ _).mono ?_;rintro e w2⟨rfl,hb2⟩
  have hr2:Rd w2 R (.slice a n cap) p:=Rd.later (w:=W.drewN nq) ⟨by simpa using c0,qY,by simpa using f1⟩ hb2
  have d1:=hr2.c1;have d2:=hr2.f1;have HR2:=hid hr2
  have HK2:=hid (((aM HB.out).trans (Kept.drewN (fun k=>k=R) _ nq)).trans (aM hb2))
  clear hb2 hr2 c0 c1 f1;go_wp2_with fail;go_ret2;exact⟨rfl,HR2.out.put q,Er HK2.out⟩
 ):P:=h
theorem nG{P:Prop}(h:P:=by
  intro y' hy'
  rcases List.mem_append.1 hy' with hm' | hm'
  ·obtain⟨g1,g2⟩:=HOW.out y' hm'
   refine⟨O.kp y' _ _ _ (O.kp y' _ _ _ g1 BK.out (fun _ _=>id)) hk5 (fun b hb hq=>?_),g2⟩
   have:=(g2 b hb).1
   have:=HQL.out _ hq
   omega
  ·obtain rfl:y'=y:=by simpa using hm'
   refine⟨hoy,fun b hb=>⟨?_,fun a ha hba=>?_⟩⟩
   ·have:=hby b hb; omega
   ·have:=hby b hb
    have:=halt a ha
    omega
 ):P:=h
theorem Ju{P:Prop}(h:P:=by
  induction r with
  | nil=>rfl
  | cons x r ih =>
   have:Lib.joinTail [32] ((x::r).map (·.data.toList))=([32]++x.data.toList)++Lib.joinTail [32] (r.map (·.data.toList)):=rfl
   rw[this,List.length_append,ih,List.length_append,List.map_cons,List.sum_cons,List.length_cons];have e:x.data.toList.length=x.size:=Array.length_toList;rw[e]
   simp only[List.length_cons,List.length_nil]
   omega
 ):P:=h
theorem Ko{P:Prop}(h:P:=by
  have e:(iq m).length=7+((m.types.flatMap kO).length+((m.hosts.flatMap gJ).length+((m.globals.flatMap glL).length+((oF m.fi m.mo).length+((m.fns.flatMap fuL).length+((m.data.flatMap daL).length+(m.exps.flatMap exL).length)))))):=by
   simp only[iq,List.length_append]; rfl
  have n1:=hp.nt;have n2:=hp.nh;have n3:=hp.ng;have n4:=hp.nf;have n5:=hp.nd;have n6:=hp.ne;omega
 ):P:=h
theorem Io{P:Prop}(h:P:=by
  go_wp2_with fail;refine bodyPost_ret (v:=.agg #[.int .u8 c,.int .i64 a,.slice la ln lc]) ?_ rfl ⟨rfl,g',cap',?_,?_⟩
  ·rw[mE rfl];go_simp
  ·exact((W5.out.set (b:=w.heap.size+1) ae n1).set (b:=w.heap.size+1) ae n1).set (b:=w.heap.size+1) ae n1
  ·exact((S5.out.set ae).set ae).set ae
 ):P:=h
theorem Hu{P:Prop}(h:P:=by
  have g1:=World.grownBy_alloc w (.deferred (some [])) none;have g2:=World.grownBy_alloc (w.alloc (.deferred (some []))) (.loop (record .ready none)) none
  have e1:=cell_kept hv g1 (fun r e=>dS)
  exact⟨cell_kept e1 g2 (fun r e=>dS),(frozen_kept e1 g2 (fun r e=>dS)).trans (frozen_kept hv g1 (fun r e=>dS))⟩
 ):P:=h
theorem FZ{P:Prop}(h:P:=by
  have S3:=hid s3;clear s3 b3 HU;go_wp2_with fail;refine(uw R g cap bs _ _ _ _ w3 (HW.out.later B3.out) S3.out ae ae).mono ?_;rintro e w4⟨rfl,g',cap',hw4,hs4⟩;have W4:=hid hw4;have S4:=hid ((Stp.of_below B3.out).trans hs4);clear hw4 hs4;go_wp2_with fail;go_ret;exact⟨rfl,g',cap',W4.out,S4.out⟩
 ):P:=h
theorem Ao{P:Prop}(h:P:=by
  obtain⟨hz,h1,h2,h3,ha⟩:=h;refine⟨hz,h1,h2,h3,?_⟩
  rcases ha with ha | ⟨b,off,e,hc⟩
  ·exact .inl ha
  ·refine .inr ⟨b,off,e,fun j hj=>?_⟩
   have:=hc j hj
   have hlt:b<w.heap.size:=block_lt_of_cell this
   exact(hb.cell (p:=⟨b,off+j,none⟩) (by exact Nat.lt_of_lt_of_le hlt hB)).trans this
 ):P:=h
theorem Gw{P:Prop}(h:P:=by
  go_wp2_with fail;refine(kD _ _ _ _).mono ?_;rintro e w2⟨rfl,hb2⟩;go_wp2_with fail;go_ret2
  have hr2:Rd (W.drewN nq) R (.slice a n cap) p:=⟨by simpa using c0,qY,by simpa using f1⟩
  exact⟨rfl,hr2.later hb2,((aM HB.out).trans (Kept.drewN _ _ _)).trans (aM hb2)⟩
 ):P:=h
theorem H7{P:Prop}(h:P:=by
  go_enter Tryz.func302,Tryz.ntmps302
  go_wp2
  refine bodyPost_ret (v:=.tuple #[.agg #[.int .u8 0,.int .i64 0,.slice none 0 0],.int .i64 0,.int .i64 1]) (by simp[results,Tryz.results302,go_sem]) rfl ⟨.slice none 0 0,rfl,World.ownsRow_nil _ _ _ _,?_⟩
  exact(Below.refl _ _).alloc (Nat.le_refl _) _
 ):P:=h
theorem JZ{P:Prop}(h:P:=by
  clear hK K;have HA:=hid ((r2.block A (aJ q1) hAC).trans q1);have HBc:=hid (r2.cell t1 hBC);have HCc:=hid r1
  have K7:=hid (K6.out.then r2 (fun k _ h=>.inr (.inr h)))
  refine wpAnyH_done ai ?_ _;exact⟨rfl,_,rfl,_,results_none rfl _ _ _,rfl,rfl,HA.out,HBc.out,HCc.out,K7.out⟩
 ):P:=h
theorem ny{P:Prop}(h:P:=by
  obtain rfl:j=n:=ae;go_wp2_with fail;go_ret
  refine .inr ⟨ys,aa,j,ac,rfl,hyl,hn,HF.out,HRW.out,HAB.out,fun y hy=>⟨(HOW.out y hy).1,fun b hb=>((HOW.out y hy).2 b hb).1⟩,rs2,?_,?_,HKK.out⟩
  ·rw[HRS.out,HRS2.out,List.append_assoc]
  ·simpa[List.append_assoc] using HRR.out
 ):P:=h
theorem IC{P:Prop}(h:P:=by
  clear ht h h1 he hv
  go_enter Tryz.func171,Tryz.ntmps171
  go_wp2_with fail;refine HP.out.mono ?_;rintro e w1⟨N,rfl,_,_,hb1⟩;have B1:=hid hb1;clear hb1;go_wp2_with fail;refine(HM.out _ B1.out).mono ?_;rintro e w3⟨rfl,hw⟩;have hw2:=hw.symm;subst hw2;exact⟨rfl,rfl,B1.out⟩
 ):P:=h
theorem FQ{P:Prop}(h:P:=by
  refine⟨?_,?_,?_,?_,?_,?_⟩
  ·rw[hb1.cell ar]; simp[go_sem]
  ·rw[hb1.cell ar]; simp[go_sem]
  ·rw[hb1.cell ar]; simp[go_sem]
  ·rw[hb1.frozen ar]; simp[go_sem]
  ·rw[hb1.frozen ar]; simp[go_sem]
  ·rw[hb1.frozen ar]; simp[go_sem]
 ):P:=h
theorem H8{P:Prop}(h:P:=by
  go_simp
  refine hK.out _ _ trivial (fun _=>?_)
  clear hK K;refine ryQ (rs:=[10]) ?_
  refine rcQ (i:=10) rfl (fun K hK=>?_) rN
  go_simp;refine(HI.out _ B1.out).mono ?_;rintro e w5⟨rfl,hb5⟩;exact⟨rfl,HK1.out.trans (KR.later (B1.out.trans (hb5.mono B1.out.size))),rfl⟩
 ):P:=h
theorem Iu{P:Prop}(h:P:=by
  unfold jb at hn
  simp only[Bool.and_eq_true,List.all_eq_true,decide_eq_true_eq,Bool.not_eq_true']at hn
  refine⟨fun e=>?_,fun c hc=>?_⟩
  ·rw[cm,e]at hn
   simp at hn
  ·have:=hn.1 (c.toNat:Int) (by unfold bD; exact List.mem_map.2 ⟨c,hc,rfl⟩)
   omega
 ):P:=h
theorem JN{P:Prop}(h:P:=by
  go_simp
  refine hK.out _ _ trivial (fun _=>?_)
  clear hK K;refine ryQ (rs:=[6]) ?_
  refine rcQ (i:=6) rfl (fun K hK=>?_) rN
  go_simp;refine(HI1.out _ B1.out).mono ?_;rintro e w5⟨rfl,hb5⟩;exact⟨rfl,HK0.out.trans (KR.later (B1.out.trans (hb5.mono B1.out.size))),rfl⟩
 ):P:=h
theorem AU{P:Prop}(h:P:=by
  go_wp2
  (try simp only[Exit.inBlock,Exit.then])
  refine bodyPost_ret (v:=.tuple #[.agg #[.string ⟨#[]⟩,.string ⟨#[]⟩],.int .i64 15]) ?_ rfl ⟨by simp[rdP,rdR,rdE,hz],?_⟩
  ·rw[results_cell_tmp rfl];go_simp
  ·exact(HB.out.setCell ar _).setCell ar _
 ):P:=h
theorem vh{P:Prop}(h:P:=by
  have hm:((ft,flo,(ca,cn,cc),code):FuM)∈m.fns:=by rw[hfns]; simp
  have e1:=ei (g:=eQ) (fun _=>rfl) aj (q1.fo _ hm).code
  have e2:code.length≤psz (pl m):=by unfold psz pl; dsimp only; rw[hfns]; simp[plF]; omega
  dsimp only at e1;omega
 ):P:=h
theorem GA{P:Prop}(h:P:=by
  rintro⟨b,off,ha,hc⟩
  refine⟨b,off,ha,fun j hj=>?_⟩
  have hl:=hlo.1
  have:=hc j (y.2.2.2[j]'(ae)) (aO _) 0 _ rfl
  rw[List.getD_eq_getElem?_getD,aO ae]
  simpa using this
 ):P:=h
theorem nA{P:Prop}(h:P:=by
  go_wp2_with fail;refine HO.out.mono ?_;rintro e w1⟨rfl,hw1⟩;have hw2:=hw1.symm;subst hw2;go_wp2_with fail;refine HM.out.mono ?_;rintro e w2⟨rfl,hw1⟩;have hw2:=hw1.symm;subst hw2;exact⟨rfl,KR.set base R 10 w _,rfl⟩
 ):P:=h
theorem IX{P:Prop}(h:P:=by
  go_enter Tryz.func314,Tryz.ntmps314
  go_wp2;refine bodyPost_ret (v:=.agg #[.int .i64 0,.int .i64 0]) xt rfl ⟨rfl,?_⟩;exact((Below.refl _ _).alloc (Nat.le_refl _) _).alloc ar _
 ):P:=h
theorem F8{P:Prop}(h:P:=by
  refine rdY (rs:=[7]) ?_
  refine AllReadyH.cons rfl (fun K hK=>?_) rN
  go_simp;refine(HSG.out _ hB5.out).mono ?_;rintro e w6⟨⟨q,rfl⟩,hk6⟩;exact⟨rfl,⟨q,rfl⟩,(S4'.out.trans (Stp.of_below hB5.out)).throw hk6⟩
 ):P:=h
theorem Gq{P:Prop}(h:P:=by
  go_wp2_with fail;refine HN.out.mono ?_;rintro e w1⟨rfl,g',cap',hw1,hs1⟩;have W1:=hid hw1;have S1:=hid ((Stp.of_below B1.out).trans hs1);clear hw1 hs1 hm hc;go_wp2_with fail;go_ret;exact⟨rfl,g',cap',W1.out,S1.out⟩
 ):P:=h
theorem H0{P:Prop}(h:P:=by
  intro j u hj
  match j,hj with
  | 0,hj=>simp[dR]at hj; subst hj; simp[Addr.add,go_sem]
  | 1,hj=>simp[dR]at hj; subst hj; simp[Addr.add,go_sem]
  | 2,hj=>simp[dR]at hj; subst hj; simp[Addr.add,go_sem]
 ):P:=h
theorem wH{P:Prop}(h:P:=by
  intro j u hj
  match j,hj with
  | 0,hj=>simp[eT]at hj; subst hj; simp[Addr.add,go_sem]
  | 1,hj=>simp[eT]at hj; subst hj; simp[Addr.add,go_sem]
  | 2,hj=>simp[eT]at hj; subst hj; simp[Addr.add,go_sem]
 ):P:=h
theorem uZ{P:Prop}(h:P:=by
  intro j u hj
  match j,hj with
  | 0,hj=>simp[eQ]at hj; subst hj; simp[Addr.add,go_sem]
  | 1,hj=>simp[eQ]at hj; subst hj; simp[Addr.add,go_sem]
  | 2,hj=>simp[eQ]at hj; subst hj; simp[Addr.add,go_sem]
 ):P:=h
theorem I5{P:Prop}(h:P:=by
  refine⟨h.1,h.2.imp id ?_⟩;rintro⟨b,off,ha,hc⟩
  refine⟨b,off,ha,fun j x hj=>?_⟩
  have:=hc j x hj
  exact⟨hk.cell this.1 (hS _ _ _ ha),hk.cell this.2.1 (hS _ _ _ ha),hk.cell this.2.2 (hS _ _ _ ha)⟩
 ):P:=h
theorem IR{P:Prop}(h:P:=by
  go_wp2_with fail;go_ret;refine⟨?_,HB.out⟩
  have hf:zs.all (fun b=>decide (33≤b)&&decide (b≤126))=false:=by
   rw[List.all_eq_false];exact⟨b,HMEM.out,aI⟩
  rw[HNM.out,hf];rfl
 ):P:=h
theorem Ku{P:Prop}(h:P:=by
  rw[hXs]at HX5;have HM5:=hid (gu (HQ0.out.later B5.out));go_wp2_with fail;refine HM5.out.mono ?_;rintro e w5' ⟨rfl,hw1⟩;have hw2:=hw1.symm;subst hw2;exact⟨rfl,HK0.out.trans (KR.later B5.out),rfl⟩
 ):P:=h
theorem Gu{P:Prop}(h:P:=by
  exact((hk2.then (aw _ (w.heap.size+1) 0 _) (fun k _ h=>ae)).then (aw _ (w.heap.size+1) 1 _) (fun k _ h=>ae)).then (aw _ (w.heap.size+1) 2 _) (fun k _ h=>ae)
 ):P:=h
theorem Gs{P:Prop}(h:P:=by
  split at h
  ·simp at h; simp[h]
  ·rename_i q r hq
   simp only[List.mem_cons]at h
   rcases h with rfl | h
   ·have:=ih q (by rw[hq]; simp); simp; omega
   ·have:=ih p (by rw[hq]; simp[h]); simp; omega
 ):P:=h
theorem KM{P:Prop}(h:P:=by
  go_wp2_with fail;refine(dE R _ _ _ w c0).mono ?_;rintro e w1⟨rfl,rfl⟩;go_wp2_with fail;refine(iF _ _ _).mono ?_;rintro e w1⟨rfl,rfl⟩;exact⟨rfl,⟨_,rfl⟩,Kept.refl _ _⟩
 ):P:=h
theorem wh{P:Prop}(h:P:=by
  have hh:=hall i y A2
  have e:(xs.take k).take i=xs.take i:=by rw[List.take_take]; congr 1; omega
  (try simp only[List.nil_append,e]at hh);exact hh
 ):P:=h
theorem AA{P:Prop}(h:P:=by
  go_wp2_with fail;refine(dE R _ _ _ w c0).mono ?_;rintro e w1⟨rfl,rfl⟩;go_wp2_with fail;refine hask.mono ?_;rintro e w2⟨⟨p,rfl⟩,b2⟩;exact⟨rfl,⟨p,rfl⟩,aN b2⟩
 ):P:=h
theorem GV{P:Prop}(h:P:=by
  unfold cO;rw[if_pos ⟨h1,h3⟩]
  have ep:jP (bC (wdx ws 0)).1 ws=some ((bC (wdx ws 0)).1,0,l):=by
   unfold jP
   rw[if_neg (by rw[h4]; decide),if_pos h4,h6]; rfl
  rw[ep];rfl
 ):P:=h
theorem AW{P:Prop}(h:P:=by
  refine⟨h.1,h.2.imp id ?_⟩;rintro⟨b,off,ha,hc⟩
  refine⟨b,off,ha,fun j x hj=>?_⟩
  have:=hc j x hj
  exact⟨hk.cell this.1 (hS _ _ _ ha),hk.cell this.2 (hS _ _ _ ha)⟩
 ):P:=h
theorem JP{P:Prop}(h:P:=by
  go_enter Tryz.func193,Tryz.ntmps193
  go_wp2_with fail
  refine(dZ (by first | rfl | simp_all)).mono ?_
  rintro e w1⟨rfl,rfl⟩;exact⟨rfl,⟨_,rfl⟩,Below.refl _ _⟩
 ):P:=h
theorem JA{P:Prop}(h:P:=by
  go_enter Tryz.func191,Tryz.ntmps191
  go_wp2_with fail
  refine(dZ (by first | rfl | exact hs)).mono ?_
  rintro e w' ⟨rfl,rfl⟩;exact⟨rfl,⟨_,rfl⟩,Below.refl _ _⟩
 ):P:=h
theorem Ax{P:Prop}(h:P:=by
  go_wp2_with fail;refine HE.out.mono ?_;rintro e w1⟨rfl,hk⟩;have HB1:=hid (HB.out.trans (hk.mono HB.out.size));clear hk;go_wp2_with fail;go_ret;exact⟨rfl,HB1.out⟩
 ):P:=h
theorem FW{P:Prop}(h:P:=by
  clear hcell hv g4
  go_enter Tryz.func305,Tryz.ntmps305
  go_wp2_with (first | (go_at_call 306; refine HC.out.mono ?_; rintro e w' ⟨rfl,rfl⟩))
  go_ret3
  exact⟨rfl,rfl⟩
 ):P:=h
theorem Gy{P:Prop}(h:P:=by
  refine⟨h.1,h.2.1,h.2.2.1,h.2.2.2.1,h.2.2.2.2.imp id ?_⟩;rintro⟨b,off,ha,hc⟩
  exact⟨b,off,ha,fun j hj=>hk.cell (hc j hj) (hS _ _ _ (N1 ae ha))⟩
 ):P:=h
theorem vT{P:Prop}(h:P:=by
  have e1:=ei (g:=eT) (fun _=>rfl) aj h.rg
  have e2:m.globals.length≤psz (pl m):=uQ;omega
 ):P:=h
theorem FT{P:Prop}(h:P:=by
  go_ret2;refine⟨_,rfl,?_,fW B3.out B5.out⟩;have h:=iM O5.out B3.out.size
  rw[HE2.out,show([c]++U).length=1+U.length by simp; omega]
  exact h
 ):P:=h
theorem J9{P:Prop}(h:P:=by
  have e1:=ei (g:=dR) (fun _=>rfl) aj h.rf
  have e2:m.fns.length≤psz (pl m):=uQ;omega
 ):P:=h
theorem Hf{P:Prop}(h:P:=by
  go_wp2_with fail;refine(HI1.out _ BX0.out).mono ?_;rintro e w5⟨rfl,hb5⟩;exact⟨rfl,HK0.out.trans (KR.later (BX0.out.trans (hb5.mono BX0.out.size))),rfl⟩
 ):P:=h
theorem IG{P:Prop}(h:P:=by
  unfold oF;rw[ck]
  simp only[List.map_cons,List.map_nil,List.sum_cons,List.sum_nil,List.length_cons,List.length_nil]
  have:eo.size=6:=rfl;omega
 ):P:=h
theorem pI{P:Prop}(h:P:=by
  go_enter Tryz.func306,Tryz.ntmps306
  go_wp2_with (first | (go_at_call 303; refine HC.out.mono ?_; rintro e w' ⟨rfl,rfl⟩) | go_in)
  go_ret3
  exact⟨rfl,rfl⟩
 ):P:=h
theorem wn{P:Prop}(h:P:=by
  exact fun y hy=>⟨bP (bF (hq.fo y hy).code hu hg aj) hR,fun z hz=>bP (bF ((hq.fo y hy).lab z hz) hu hg aj) hR⟩
 ):P:=h
theorem Hv{P:Prop}(h:P:=by
  go_wp2_with fail;refine(HI1.out _ B5.out).mono ?_;rintro e w7⟨rfl,hb7⟩;exact⟨rfl,HK0.out.trans (KR.later (B5.out.trans (hb7.mono B5.out.size))),rfl⟩
 ):P:=h
theorem Jm{P:Prop}(h:P:=by
  exact fun r A B row hs hg hr=>⟨hs.1.grown hg (fun q e=>(hr q e).2),ownFrom_below (β:=Unit) (Nat.le_refl _) ae () A B row hs.2.1 hg hr,hs.2.2⟩
 ):P:=h
theorem Kw{P:Prop}(h:P:=by
  exact fun j A B row hs hg hr=>⟨hs.1,hs.2.1.grown hg (fun q e=>(hr q e).2),ownFrom_below (β:=Unit) (Nat.le_refl _) ae () A B row hs.2.2 hg hr⟩
 ):P:=h
theorem Kq{P:Prop}(h:P:=by
  simp only[List.mem_cons,List.not_mem_nil,or_false]at hy
  rcases hy with rfl | rfl | rfl
  ·exact yi hp
  ·exact ct aj
  ·exact yi hr
 ):P:=h
theorem Ke{P:Prop}(h:P:=by
  go_enter Tryz.func305,Tryz.ntmps305
  go_wp2_with (first | (go_at_call 306; refine HC.out.mono ?_; rintro e w' ⟨rfl,rfl⟩))
  go_ret3
  exact⟨rfl,rfl⟩
 ):P:=h
theorem KE{P:Prop}(h:P:=by
  rintro e w' (hb | ⟨ys,aa,n,ac,rfl,hl,hn,hf,hrow,hab,how,hg⟩)
  ·exact .inl hb
  ·exact .inr ⟨ys,aa,n,ac,rfl,hl,rK hl hn hf,hrow,hab,how,hg⟩
 ):P:=h
theorem GY{P:Prop}(h:P:=by
  go_simp;refine(HI1.out _ B1.out).mono ?_;rintro e w5⟨rfl,hb5⟩;exact⟨rfl,HK0.out.trans (KR.later (B1.out.trans (hb5.mono B1.out.size))),rfl⟩
 ):P:=h
theorem wm{P:Prop}(h:P:=by
  go_simp;refine(HI2.out _ B5.out).mono ?_;rintro e w5⟨rfl,hb5⟩;exact⟨rfl,HK0.out.trans (KR.later (B5.out.trans (hb5.mono B5.out.size))),rfl⟩
 ):P:=h
theorem Ih{P:Prop}(h:P:=by
  go_simp;refine(HI2.out _ B7.out).mono ?_;rintro e w5⟨rfl,hb5⟩;exact⟨rfl,HK0.out.trans (KR.later (B7.out.trans (hb5.mono B7.out.size))),rfl⟩
 ):P:=h
theorem Ch{P:Prop}(h:P:=by
  refine⟨h.1,?_⟩
  rcases h.2 with h0 | ⟨g,cp,cur,rfl,h2,h3,h4⟩
  ·exact .inl h0
  ·exact .inr ⟨g,cp,cur,rfl,h2,by rw[hk g rfl]; exact h3,h4⟩
 ):P:=h
theorem DL{P:Prop}(h:P:=by
  go_wp2_with fail
  exact⟨⟨i+1,ar,ae,hB2.out,hR2.out,by rw[show 7-(i+1)=n by omega]; exact hV2.out⟩,ij⟩
 ):P:=h
theorem Df{P:Prop}(h:P:=by
  simp only at hcx
  unfold cX at hcx
  split at hcx
  ·cases hcx
  ·split at hcx
   ·cases hcx
   ·split at hcx
    ·cases hcx
    ·rw[hok.1,hok.2]; omega
 ):P:=h
theorem CH{P:Prop}(h:P:=by
  exact(((R5.out).set (b:=w.heap.size+1) (o:=0) ae).set (b:=w.heap.size+1) (o:=1) ae).set (b:=w.heap.size+1) (o:=2) ae
 ):P:=h
theorem vB{P:Prop}(h:P:=by
  rintro e w' (hb | ⟨ys,aa,n,ac,rfl,hl,hn,hf,hrow,hab,how,hg⟩)
  ·exact .inl hb
  ·exact .inr ⟨ys,aa,n,ac,rfl,hl,rK hl hn hf,hrow,hab,hg⟩
 ):P:=h
theorem qB{P:Prop}(h:P:=by
  rintro e w' ⟨aa,ac,ys,he,hyl,hys,hrow,g',cap',hab,hw',hs'⟩;exact⟨aa,ac,ys,he,hyl,hys,g',cap',wZ,hs'⟩
 ):P:=h
theorem Co{P:Prop}(h:P:=by
  go_wp2;go_ret2
  refine⟨rfl,⟨by simpa using c0,qY,by simpa using f1⟩,?_⟩
  exact(aM HB.out).trans (Kept.drewN _ _ _)
 ):P:=h
theorem xh{P:Prop}(h:P:=by
  go_wp2_with fail;refine(mQ R _ _ x w1 c1 hx).mono ?_;rintro e w2⟨rfl,rfl⟩;exact⟨rfl,.inl ⟨⟨x,_,hx,rfl⟩,Kept.refl _ _⟩⟩
 ):P:=h
theorem Cr{P:Prop}(h:P:=by
  rintro e w5⟨rfl,hw5⟩;have hw6:=hw5.symm;subst hw6;refine⟨rfl,?_⟩;rw[HNo.out];exact⟨HFb.out.trans (B1.out.mono HFb.out.size),rfl⟩
 ):P:=h
theorem CV{P:Prop}(h:P:=by
  exact⟨none,_,run_endLoop hb.1 (by simp[record]),hdone D _ (Nat.le_refl _) (hI.putObj _ hi j3 hb.1 rfl) (turn (rc':=_) hb).2⟩
 ):P:=h
theorem DF{P:Prop}(h:P:=by
  have e1:=ei (g:=iw) (fun _=>rfl) aj h.rh
  have e2:m.hosts.length≤psz (pl m):=by unfold psz pl; dsimp only; omega
  omega
 ):P:=h
theorem uH{P:Prop}(h:P:=by
  have e1:=ei (g:=nU) (fun _=>rfl) aj h.rt
  have e2:m.types.length≤psz (pl m):=by unfold psz pl; dsimp only; omega
  omega
 ):P:=h
theorem wD{P:Prop}(h:P:=by
  rw[(((Below.refl _ w).alloc (Nat.le_refl _) _).alloc bu _ |>.alloc bu _).cell (by exact hRl)]; exact h.c0
 ):P:=h
theorem iD{P:Prop}(h:P:=by
  go_wp2_with fail;refine HO.out.mono ?_;rintro e w1⟨rfl,hw1⟩;have hw2:=hw1.symm;subst hw2;exact⟨rfl,KR.later (Below.refl _ _),rfl⟩
 ):P:=h
theorem C2{P:Prop}(h:P:=by
  rcases h.2 with ⟨rfl,_⟩ | ⟨g,cp,cur,rfl,hg,_⟩
  ·simp[Value.ownBlock]at hB
  ·simp[Value.ownBlock]at hB; subst hB; simp; omega
 ):P:=h
theorem DI{P:Prop}(h:P:=by
  go_wp2_with fail;refine(cG ar).mono ?_;rintro e w1⟨rfl,rfl⟩;go_wp2_with fail;go_end0;exact⟨rfl,Below.refl _ _⟩
 ):P:=h
theorem CY{P:Prop}(h:P:=by
  have em:((wdx ws 2).toList==x7.toList)=false:=by rw[h3,gA]; rfl
  simp only[Option.bind_some,eg,em,Option.map_some]
 ):P:=h
theorem lU{P:Prop}(h:P:=by
  refine⟨k+1,ae,ar,?_⟩;rw[HTk.out,List.flatMap_append,List.flatMap_singleton,← List.append_assoc];exact P5.out
 ):P:=h
theorem Dt{P:Prop}(h:P:=by
  have em:((wdx ws 2).toList==x7.toList)=true:=by rw[h3,gA]; rfl
  simp only[Option.bind_some,eg,em,Option.map_some]
 ):P:=h
theorem Cc{P:Prop}(h:P:=by
  go_wp2_with fail;refine(cG rfl).mono ?_;rintro e w1⟨rfl,rfl⟩;go_wp2_with fail;go_end0;exact⟨rfl,Below.refl _ _⟩
 ):P:=h
theorem om{P:Prop}(h:P:=by
  go_wp2_with fail;refine HC.out.mono ?_;rintro e w2⟨⟨q,rfl⟩,hk2⟩;exact⟨rfl,⟨q,rfl⟩,(aN BW.out).trans hk2⟩
 ):P:=h
theorem Cq{P:Prop}(h:P:=by
  rw[World.cell?_alloc_past _ _ _ (show w.heap.size<wr.heap.size by omega),← hwr,World.cell?_alloc_past _ _ _ hx]; exact x1
 ):P:=h
theorem Dy{P:Prop}(h:P:=by
  go_wp2_with fail;refine HN.out.mono ?_;rintro e w1⟨⟨p,rfl⟩,hk⟩;exact⟨rfl,⟨p,rfl⟩,(aN B1.out).trans hk⟩
 ):P:=h
theorem CK{P:Prop}(h:P:=by
  go_wp2_with fail;refine HT.out.mono ?_;rintro e w2⟨⟨q,rfl⟩,hk⟩;exact⟨rfl,⟨q,rfl⟩,(aN BW.out).trans hk⟩
 ):P:=h
theorem qG{P:Prop}(h:P:=by
  have e2:m.fns.length≤psz (pl m):=by unfold psz pl; simp only[List.length_map]; omega
  rw[hfns]at e2
  simp at e2
  omega
 ):P:=h
theorem Be{P:Prop}(h:P:=by
  go_enter Tryz.func168,Tryz.ntmps168
  go_wp2_with fail;refine HM.out.mono ?_;rintro e w1⟨rfl,hw⟩;exact⟨rfl,rfl,hw⟩
 ):P:=h
theorem uG{P:Prop}(h:P:=by
  go_enter Tryz.func315,Tryz.ntmps315
  go_wp2;go_ret
  exact⟨by rw[HR.out]; rfl,(Below.refl _ _).alloc (Nat.le_refl _) _⟩
 ):P:=h
theorem El{P:Prop}(h:P:=by
  have eg:gvV (wdx ws 1) v=none:=by unfold gvV; rw[if_pos h5,if_neg h6]
  simp only[Option.bind_some,eg,Option.map_none]
 ):P:=h
theorem Bn{P:Prop}(h:P:=by
  have eg:gvV (wdx ws 1) v=none:=by unfold gvV; rw[if_neg h5,if_neg h6]
  simp only[Option.bind_some,eg,Option.map_none]
 ):P:=h
theorem BH{P:Prop}(h:P:=by
  simp only[List.mem_cons,List.not_mem_nil,or_false]at hy
  rcases hy with rfl | rfl
  ·exact fS _
  ·exact ND hl hr
 ):P:=h
theorem Cl{P:Prop}(h:P:=by
  rcases (HM.out.kept HST.out.k (fun b off c h=>mW)).2 with h0 | h
  ·omega
  ·exact h
 ):P:=h
theorem lX{P:Prop}(h:P:=by
  rintro⟨b,off,ha,hc⟩
  exact⟨b,off,ha,fun j x hj=>⟨hc j x hj 0 _ rfl,hc j x hj 1 _ rfl,hc j x hj 2 _ rfl⟩⟩
 ):P:=h
theorem DW{P:Prop}(h:P:=by
  rintro e w' (hb | ⟨x,rfl,hx,hg⟩)
  ·exact .inl hb
  ·exact .inr ⟨x,rfl,hx,trivial,fun b hb=>hb.elim,trivial,hg⟩
 ):P:=h
theorem Dm{P:Prop}(h:P:=by
  have:=World.alloc_heap_new (w.alloc (.deferred (some []))) (.loop (record .ready none))
  rwa [World.size_alloc]at this
 ):P:=h
theorem Dl{P:Prop}(h:P:=by
  go_wp2_with fail;refine HX.out.mono ?_;rintro e w3⟨⟨q,rfl⟩,hk⟩;exact⟨rfl,⟨q,rfl⟩,S2.out.throw hk⟩
 ):P:=h
theorem Cm{P:Prop}(h:P:=by
  unfold Lib.indexByte
  split
  ·right; simp
  ·split
   ·exact .inl rfl
   ·rename_i h
    simp at h
    right; simp; omega
 ):P:=h
theorem CO{P:Prop}(h:P:=by
  rw[ex]at h3; rw[ey]at h4
  unfold js; rw[if_pos ⟨h1,dY⟩,ex,ey]; rw[h3,h4]; rfl
 ):P:=h
theorem C8{P:Prop}(h:P:=by
  rw[ex]at h3; rw[ey]at h4
  unfold jt; rw[if_pos ⟨h1,dY⟩,ex,ey]; rw[h3,h4]; rfl
 ):P:=h
theorem DN{P:Prop}(h:P:=by
  subst h;rw[← List.map_set]
  congr 1
  rw[List.set_append_right _ _ ae]
  simp[List.replicate_succ]
 ):P:=h
theorem CC{P:Prop}(h:P:=by
  rcases Nat.lt_or_ge b w.heap.size with hx | hx
  ·exact hx
  ·rw[Array.getElem?_eq_none hx]at h; cases h
 ):P:=h
theorem DU{P:Prop}(h:P:=by
  rintro⟨b,off,ha,hc⟩
  exact⟨b,off,ha,fun j x hj=>by have:=hc j x hj 0 _ rfl; simpa using this⟩
 ):P:=h
theorem jX{P:Prop}(h:P:=by
  go_wp2_with fail;refine HC.out.mono ?_;rintro e w2⟨⟨p,rfl⟩,hk⟩;exact⟨rfl,⟨p,rfl⟩,hk⟩
 ):P:=h
theorem CJ{P:Prop}(h:P:=by
  clear hS' yd y0 y1 y2 y3 y4 y5 y6 y7 y8;go_wp2_with fail;go_ret
  exact⟨by rw[HV.out]; rfl,B3.out⟩
 ):P:=h
theorem uF{P:Prop}(h:P:=by
  exact((R5.out).set (b:=w.heap.size+1) (o:=0) ae).set (b:=w.heap.size+1) (o:=1) ae
 ):P:=h
theorem DZ{P:Prop}(h:P:=by
  simp only[List.mem_cons,List.not_mem_nil,or_false]at hy
  rcases hy with rfl | rfl <;> exact fS _
 ):P:=h
theorem mi{P:Prop}(h:P:=by
  rintro⟨b,off,ha,hc⟩
  exact⟨b,off,ha,fun j x hj=>⟨hc j x hj 0 _ rfl,hc j x hj 1 _ rfl⟩⟩
 ):P:=h
theorem Ct{P:Prop}(h:P:=by
  rcases Nat.lt_or_ge b w1.heap.size with h' | h'
  ·exact h'
  ·simp[Array.getElem?_eq_none h']at hbk
 ):P:=h
theorem Dz{P:Prop}(h:P:=by
  by_cases h0:0≤x
  ·rw[dA x h0 ae]; omega
  ·rw[yP x hx0 ae]; omega
 ):P:=h
theorem Eg{P:Prop}(h:P:=by
  go_wp2_with fail;go_end0;exact⟨k1.out.trans (KR.later HB.out),rfl,m,q1.out.later HB.out,rfl⟩
 ):P:=h
theorem wY{P:Prop}(h:P:=by
  rintro e' w' ⟨he',g',cap',hw',hs'⟩;refine⟨x,he',rfl,g',cap',?_,hs'⟩;rw[henc];exact hw'
 ):P:=h
theorem jN{P:Prop}(h:P:=by
  exact⟨rfl,.inl ⟨⟨y,p,hy,rfl⟩,Kept.mono hk (fun k hk=>lL)⟩⟩
 ):P:=h
theorem vz{P:Prop}(h:P:=by
  exact((W5.out.set (b:=w.heap.size+1) ae n1).set (b:=w.heap.size+1) ae n1)
 ):P:=h
theorem qH{P:Prop}(h:P:=by
  have hlt':¬(t:Int)<(n:Int):=ae;go_wp2_with fail;go_ret;exact⟨rfl,HB.out⟩
 ):P:=h
theorem BF{P:Prop}(h:P:=by
  go_enter Tryz.func331,Tryz.ntmps331
  go_wp2;go_ret
  exact⟨by rw[← HF.out]; rfl,rfl⟩
 ):P:=h
theorem BM{P:Prop}(h:P:=by
  rw[ey]at h3
  unfold kN; rw[if_pos ⟨h1,dY⟩,ey]; rw[h3]; rfl
 ):P:=h
theorem Dc{P:Prop}(h:P:=by
  simp only[List.mem_cons]at h
  rcases h with rfl | h
  ·simp
  ·have:=ih p h; simp; omega
 ):P:=h
theorem wM{P:Prop}(h:P:=by
  go_wp2_with fail;refine HM.out.mono ?_;rintro e w1⟨rfl,hw⟩;exact⟨rfl,rfl,hw⟩
 ):P:=h
theorem oZ{P:Prop}(h:P:=by
  rw[List.length_take]at this;have e1:min j xs.length=j:=ae
  rwa [e1]at this
 ):P:=h
theorem uD{P:Prop}(h:P:=by
  go_wp2_with fail;exact⟨⟨t+1,ae,il,HB5⟩,ij⟩
 ):P:=h
theorem jY{P:Prop}(h:P:=by
  exact⟨rfl,.inl ⟨⟨y,p,hy,rfl⟩,(HKK.out.trans (aN BN.out)).trans hk5⟩⟩
 ):P:=h
theorem Di{P:Prop}(h:P:=by
  rintro e w' ⟨rfl,k,os,rfl⟩;exact⟨rfl,Lib.below_grow _ _ (Nat.le_refl _) _ _⟩
 ):P:=h
theorem Cf{P:Prop}(h:P:=by
  go_enter Tryz.func309,Tryz.ntmps309
  go_wp2;go_ret
  exact⟨by rw[HU.out]; rfl,rfl⟩
 ):P:=h
theorem Du{P:Prop}(h:P:=by
  rw[List.length_take]at this;have e:min j xs.length=j:=ae
  rwa [e]at this
 ):P:=h
theorem BG{P:Prop}(h:P:=by
  go_ret
  exact⟨congrArg (fun x=>Ending.returned (.int .i64 x)) HS.out,B1.out⟩
 ):P:=h
theorem Ei{P:Prop}(h:P:=by
  rintro e w' ⟨rfl,rfl⟩;go_wp2_with fail;go_end0;exact⟨rfl,Below.refl _ _⟩
 ):P:=h
theorem Cy{P:Prop}(h:P:=by
  rw[(ag (w.alloc _) _).block _ ar];exact(MapKept.heap_alloc w _).1
 ):P:=h
theorem uY{P:Prop}(h:P:=by
  rintro e' w' ⟨y,he',hy,g',cap',hw',hs'⟩;exact⟨y,he',hy,g',cap',hw',hs'⟩
 ):P:=h
theorem qF{P:Prop}(h:P:=by
  go_enter Tryz.func118,Tryz.ntmps118
  go_wp2_with fail;go_ret;exact⟨rfl,rfl⟩
 ):P:=h
theorem Dh{P:Prop}(h:P:=by
  unfold jP
  rw[if_neg h4,if_neg h5,if_pos (by rw[hw.len]; exact h6),h7]; rfl
 ):P:=h
theorem Em{P:Prop}(h:P:=by
  rcases List.mem_append.1 hz with hz | hz
  ·exact hpr z hz
  ·simp at hz; omega
 ):P:=h
theorem xe{P:Prop}(h:P:=by
  rcases h'.m with rfl | h2
  ·exact h.m
  ·exact .inr (Nat.le_trans h.k.size h2)
 ):P:=h
theorem C4{P:Prop}(h:P:=by
  exact(Below.heap_alloc _ _ _ (by simp[D])).trans (World.alloc_heap_new w _)
 ):P:=h
theorem wO{P:Prop}(h:P:=by
  intro j u hj
  match j,hj with
  | 0,hj=>simp at hj; subst hj; simp[Addr.add]
 ):P:=h
theorem xm{P:Prop}(h:P:=by
  go_wp2
  go_ret3
  exact⟨od _ _ _ _ _ (by rw[HD.out]; simp[ru]),rfl⟩
 ):P:=h
theorem xu{P:Prop}(h:P:=by
  rw[if_pos hx]at h
  simp only[Prod.mk.injEq]at h
  exact absurd h.2.2.2 hx
 ):P:=h
theorem jc{P:Prop}(h:P:=by
  exact⟨rfl,.inl ⟨⟨y,p,hy,rfl⟩,(KO.of_below BW.out).trans hk⟩⟩
 ):P:=h
theorem wU{P:Prop}(h:P:=by
  exact⟨(World.cell?_of_block h5).trans hv,World.frozen?_of_block h5⟩
 ):P:=h
theorem pc{P:Prop}(h:P:=by
  exact fun y hy=>bP (bF (hq.dd y hy) hu hg aj) hR
 ):P:=h
theorem mn{P:Prop}(h:P:=by
  rw[List.flatMap_append,List.flatMap_singleton]; exact bP ho hR
 ):P:=h
theorem ww{P:Prop}(h:P:=by
  exact wpAnyH_take hi hc.1.1 hc.1.2 hc.2 hQ (Or.inl ⟨hw,hv⟩) hS h
 ):P:=h
theorem o9{P:Prop}(h:P:=by
  rintro e w1⟨rfl,rfl⟩;exact⟨rfl,⟨_,rfl⟩,Below.refl _ _⟩
 ):P:=h
theorem oG{P:Prop}(h:P:=by
  exact((Below.refl _ _).alloc (Nat.le_refl _) _).alloc ar _
 ):P:=h
theorem kj{P:Prop}(h:P:=by
  have:=Nat.le_trans hq.bw hg.size; simpa[World.setCell] using this
 ):P:=h
theorem wS{P:Prop}(h:P:=by
  simp only at hc
  unfold fk at hc
  split at hc
  ·cases hc
  ·omega
 ):P:=h
theorem vt{P:Prop}(h:P:=by
  intro l x W K hK;have hsem:=@Oper.semAt_some
  gi_wp2
  exact hK
 ):P:=h
theorem wL{P:Prop}(h:P:=by
  simp[IntKind.wrap,IntKind.bits,IntKind.signed]
  omega
 ):P:=h
theorem oI{P:Prop}(h:P:=by
  exact bP (bF hq.rh hu hg aj) hR
 ):P:=h
theorem oJ{P:Prop}(h:P:=by
  exact bP (bF hq.rg hu hg aj) hR
 ):P:=h
theorem nY{P:Prop}(h:P:=by
  exact bP (bF hq.rf hu hg aj) hR
 ):P:=h
theorem nR{P:Prop}(h:P:=by
  exact bP (bF hq.rd hu hg aj) hR
 ):P:=h
theorem nV{P:Prop}(h:P:=by
  exact bP (bF hq.re hu hg aj) hR
 ):P:=h
theorem pj{P:Prop}(h:P:=by
  exact bP (bF hq.rt hu hg aj) hR
 ):P:=h
theorem uz{P:Prop}(h:P:=by
  exact KO.set (KO.set (K5.out) ae) ae
 ):P:=h
theorem uM{P:Prop}(h:P:=by
  exact((S5.out.set ae).set ae)
 ):P:=h
theorem lV{P:Prop}(h:P:=by
  go_wp2_with fail;go_end0;exact⟨rfl,rfl⟩
 ):P:=h
theorem qL{P:Prop}(h:P:=by
  rcases h.m with h | h
  ·exact .inr h
  ·omega
 ):P:=h
theorem vS{P:Prop}(h:P:=by
  rcases hsg.2.2 with h0 | h
  ·omega
  ·exact h
 ):P:=h
theorem jS{P:Prop}(h:P:=by
  go_wp2_with fail;go_ret;exact⟨rfl,rfl⟩
 ):P:=h
theorem lZ{P:Prop}(h:P:=by
  rw[bS (cr hq.blk hR hu hg)]; rfl
 ):P:=h
theorem kH{P:Prop}(h:P:=by
  have:=HAB.out b hb
  have:=HQL.out _ hq
  omega
 ):P:=h
theorem qJ{P:Prop}(h:P:=by
  simp[results,Tryz.results22,go_sem,q1,q2]
 ):P:=h
theorem oz{P:Prop}(h:P:=by
  simp only[Prod.mk.injEq]at h; omega
 ):P:=h
theorem jp{P:Prop}(h:P:=by
  rw[results_cell_tmp rfl];go_simp
 ):P:=h
theorem cu{P:Prop}(h:P:=by
  rw[mE rfl];go_simp
 ):P:=h
theorem o8{P:Prop}(h:P:=by
  rw[if_pos b1]at h; cases h
 ):P:=h
theorem mj{P:Prop}(h:P:=by
  go_ret3
  exact⟨rfl,rfl⟩
 ):P:=h
theorem jk{P:Prop}(h:P:=by
  rw[h3]at h; cases h
 ):P:=h
theorem bJ{P:Prop}(h:P:=by
  simpa using this
 ):P:=h
theorem DK{P:Prop}(h:P:=by
  have BN:=hid (ag wr (cL x))
  have HC1:=hid (HE.out j x hx ys (wr.alloc (cL x)) g3 cap3 aa ac hyl HY.out (HST.out.trans (Stp.of_below BN.out)) (HWR.out.later BN.out) (aA HRW.out (fun B hB=>BN.out.block B (ay HRW.out hB))) HAB.out)
  go_wp2_with fail;generalize wr.alloc (cL x)=W at *;have hszW:=BN.out.size;refine HC1.out.mono ?_;rintro e w5⟨y,rfl,hok,g4,cap4,hw5,hs5⟩;have hgr:g3<wr.heap.size:=HWR.out.g_lt;have hRr:R<wr.heap.size:=HWR.out.lt
  have row5:=aA (w':=w5) HRW.out (fun B hB=>by
   have h1:=ay HRW.out hB;have h2:∃a,aa=some a∧a.block=B:=dF hB;obtain⟨a,ha1,ha2⟩:=h2;have h3:=HAB.out a ha1;have h4:=HST.out.size;exact(hs5.block (b:=B) ae ae ae).trans (BN.out.block B h1))
  have gg4:=hw5.g_lt
  have hab5:∀b,aa=some b→b.block≠g4∧b.block<w5.heap.size:=fun a ha1=>by
   exact CW
  have W5:=hid hw5;have S5:=hid (HST.out.trans ((Stp.of_below BN.out).trans hs5));have O5:=hid hok;have BN5:=hid (ag w5 (cM y))
  have R6:=hid (aA (w':=w5.alloc (cM y)) row5 (fun B hB=>BN5.out.block B (ay row5 hB)))
  have HAB5:=hid hab5;have NC:=hid (nC w5 y);have hz6:(w5.alloc (cM y)).heap.size=w5.heap.size+1:=ar;clear hw5 hs5 row5 hab5 HC1 hok
  go_wp2_with (at_builtin; (refine eD _ rfl (.tmp 28) (.tmp 33) _ rfl _ i0 _ _ _ uN hi hz0 hz1 hz2 rfl aj _ j _ rfl R6.out ⟨w5.heap.size,0,none⟩ 1 1 (oC0 y) rfl rfl NC.out (oC y) ae bV ae ?_; intro B cap7 w7 hrow7 hor7; have R7:=hid hrow7; have OR7:=hid hor7; clear hrow7 hor7))
  generalize w5.alloc (cM y)=W6 at *
  have hBn:w.heap.size≤B∧B≠g4∧Kept (fun k=>k=B) W6 w7:=by
   exact Ed
  have hRw:=S5.out.size
  go_roundw
  ·exact BI
  ·simp[intOf]; omega
 ):P:=h
theorem Cv{P:Prop}(h:P:=by
  skip
  have HC1:=hid (HE.out j x hx hjk ys (wr.alloc (cL x)) g3 cap3 aa ac hyl HY.out (HST.out.trans (Stp.of_below BN.out)) (HWR.out.later BN.out) (aA HRW.out (fun B hB=>BN.out.block B (ay HRW.out hB))) HAB.out)
  go_wp2_with fail;generalize wr.alloc (cL x)=W at *;have hszW:=BN.out.size;refine HC1.out.mono ?_;rintro e w5⟨y,rfl,hok,g4,cap4,hw5,hs5⟩;have hgr:g3<wr.heap.size:=HWR.out.g_lt;have hRr:R<wr.heap.size:=HWR.out.lt
  have row5:=aA (w':=w5) HRW.out (fun B hB=>by
   have h1:=ay HRW.out hB;have h2:∃a,aa=some a∧a.block=B:=dF hB;obtain⟨a,ha1,ha2⟩:=h2;have h3:=HAB.out a ha1;have h4:=HST.out.size;exact(hs5.block (b:=B) ae ae ae).trans (BN.out.block B h1))
  have gg4:=hw5.g_lt
  have hab5:∀b,aa=some b→b.block≠g4∧b.block<w5.heap.size:=fun a ha1=>by
   exact CW
  have W5:=hid hw5;have S5:=hid (HST.out.trans ((Stp.of_below BN.out).trans hs5));have O5:=hid hok;have BN5:=hid (ag w5 (cM y))
  have R6:=hid (aA (w':=w5.alloc (cM y)) row5 (fun B hB=>BN5.out.block B (ay row5 hB)))
  have HAB5:=hid hab5;have NC:=hid (nC w5 y);have hz6:(w5.alloc (cM y)).heap.size=w5.heap.size+1:=ar;clear hw5 hs5 row5 hab5 HC1 hok
  go_wp2_with (at_builtin; (refine eD _ rfl (.tmp 28) (.tmp 33) _ rfl _ i0 _ _ _ uN hi hz0 hz1 hz2 rfl aj _ j _ rfl R6.out ⟨w5.heap.size,0,none⟩ 1 1 (oC0 y) rfl rfl NC.out (oC y) ae bV ae ?_; intro B cap7 w7 hrow7 hor7; have R7:=hid hrow7; have OR7:=hid hor7; clear hrow7 hor7))
  generalize w5.alloc (cM y)=W6 at *
  have hBn:w.heap.size≤B∧B≠g4∧Kept (fun k=>k=B) W6 w7:=by
   exact Ed
  have hRw:=S5.out.size
  go_roundw
  ·exact BI
  ·simp[intOf]; omega
 ):P:=h
theorem DD{P:Prop}(h:P:=by
  intro i y' hi'
  by_cases hij:i<ys.length
  ·rw[List.getElem?_append_left hij]at hi';exact HY.out i y' hi'
  ·rw[List.getElem?_append_right ae]at hi'
   have hi0:i-ys.length=0:=by
    exact BC
   rw[hi0]at hi'
   simp at hi'
   subst hi';obtain rfl:i=j:=ae;exact⟨x,hx,O5.out⟩
 ):P:=h
theorem DX{P:Prop}(h:P:=by
  rcases OR7.out with ⟨h1,h2⟩ | ⟨h1,h2⟩
  ·exact BD
  ·have:=S5.out.size
   exact⟨ae,ae,h2.mono (fun k hk=>hk.elim)⟩
 ):P:=h
theorem qO{P:Prop}(h:P:=by
  intro j u hj
  match j,hj with
  | 0,hj=>simp[eQ]at hj; subst hj; simp[Addr.add,go_sem]
  | 1,hj=>simp[eQ]at hj; subst hj; simp[Addr.add,go_sem]
  | 2,hj=>simp[eQ]at hj; subst hj; simp[Addr.add,go_sem]
 ):P:=h
theorem C5{P:Prop}(h:P:=by
  intro j u hj
  match j,hj with
  | 0,hj=>simp[dR]at hj; subst hj; simp[Addr.add,go_sem]
  | 1,hj=>simp[dR]at hj; subst hj; simp[Addr.add,go_sem]
  | 2,hj=>simp[dR]at hj; subst hj; simp[Addr.add,go_sem]
 ):P:=h
theorem qN{P:Prop}(h:P:=by
  intro j u hj
  match j,hj with
  | 0,hj=>simp[eT]at hj; subst hj; simp[Addr.add,go_sem]
  | 1,hj=>simp[eT]at hj; subst hj; simp[Addr.add,go_sem]
  | 2,hj=>simp[eT]at hj; subst hj; simp[Addr.add,go_sem]
 ):P:=h
theorem BU{P:Prop}(h:P:=by
  have h3:=HAB.out a ha1;have h1:a.block<wr.heap.size:=ay HRW.out (dM HRW.out ha1);exact⟨hs5.ne ae h3.2,Nat.lt_of_lt_of_le h1 (Nat.le_trans hszW hs5.size)⟩
 ):P:=h
theorem Dk{P:Prop}(h:P:=by
  intro j u hj
  match j,hj with
  | 0,hj=>simp[nU]at hj; subst hj; simp[Addr.add,go_sem]
  | 1,hj=>simp[nU]at hj; subst hj; simp[Addr.add,go_sem]
 ):P:=h
theorem Dv{P:Prop}(h:P:=by
  intro j u hj
  match j,hj with
  | 0,hj=>simp[oU]at hj; subst hj; simp[Addr.add,go_sem]
  | 1,hj=>simp[oU]at hj; subst hj; simp[Addr.add,go_sem]
 ):P:=h
theorem C9{P:Prop}(h:P:=by
  intro j u hj
  match j,hj with
  | 0,hj=>simp[nX]at hj; subst hj; simp[Addr.add,go_sem]
  | 1,hj=>simp[nX]at hj; subst hj; simp[Addr.add,go_sem]
 ):P:=h
theorem uI{P:Prop}(h:P:=by
  go_wp2_with fail
  go_quiet (fail)
  go_wp2_with fail;exact⟨⟨t+1,ae,il,hid (HBD.out _)⟩,ij⟩
 ):P:=h
theorem Cz{P:Prop}(h:P:=by
  have:=(W5.out.later BN5.out).kept hBn.2.2 ae (Ne.symm hBn.2.1)
  rw[tH enc hx]
  simpa[List.append_assoc] using this
 ):P:=h
theorem Ek{P:Prop}(h:P:=by
  exact⟨(S5.out.k.trans (aN BN5.out)).then hBn.2.2 (fun k hk hkB=>vG),S5.out.m⟩
 ):P:=h
theorem CI{P:Prop}(h:P:=by
  intro j u hj
  match j,hj with
  | 0,hj=>simp[iw]at hj; subst hj; simp[Addr.add,go_sem]
 ):P:=h
theorem BJ{P:Prop}(h:P:=by
  rcases hBn.2.2 with ⟨a,ha,hab⟩ | hge
  ·exact(g2 b hb).2 a ha ae
  ·omega
 ):P:=h
theorem BZ{P:Prop}(h:P:=by
  exact⟨j+1,ae,rfl,(BW.out.trans (BN.out.mono BW.out.size)).drew⟩
 ):P:=h
theorem BI{P:Prop}(h:P:=by
  refine⟨j+1,ys++[y],some ⟨B,0,none⟩,cap7,g4,cap4,ae,rfl,rfl,by simp[hyl],?_,?_,?_,?_,?_⟩
  ·intro i y' hi'
   by_cases hij:i<ys.length
   ·rw[List.getElem?_append_left hij]at hi';exact HY.out i y' hi'
   ·rw[List.getElem?_append_right ae]at hi'
    have hi0:i-ys.length=0:=by
     exact BC
    rw[hi0]at hi'
    simp at hi'
    subst hi';obtain rfl:i=j:=ae;exact⟨x,hx,O5.out⟩
  ·exact qE
  ·exact uy
  ·have:=(W5.out.later BN5.out).kept hBn.2.2 ae (Ne.symm hBn.2.1)
   rw[tH enc hx]
   simpa[List.append_assoc] using this
  ·exact⟨(S5.out.k.trans (aN BN5.out)).then hBn.2.2 (fun k hk hkB=>vG),S5.out.m⟩
 ):P:=h
theorem Ed{P:Prop}(h:P:=by
  rcases OR7.out with ⟨h1,h2⟩ | ⟨h1,h2⟩
  ·exact BD
  ·have:=S5.out.size
   exact⟨ae,ae,h2.mono (fun k hk=>hk.elim)⟩
 ):P:=h
theorem CW{P:Prop}(h:P:=by
  have h3:=HAB.out a ha1;have h1:a.block<wr.heap.size:=ay HRW.out (dM HRW.out ha1);exact⟨hs5.ne ae h3.2,Nat.lt_of_lt_of_le h1 (Nat.le_trans hszW hs5.size)⟩
 ):P:=h
theorem BC{P:Prop}(h:P:=by
  rcases Nat.eq_zero_or_pos (i-ys.length) with h | h
  ·exact h
  ·rw[List.getElem?_eq_none aI]at hi'; cases hi'
 ):P:=h
theorem BD{P:Prop}(h:P:=by
  have h1':aa=some ⟨B,0,none⟩:=(Value.slice.inj h1).1;exact⟨(HAB.out _ h1').1,(HAB5.out _ h1').1,h2⟩
 ):P:=h
theorem uy{P:Prop}(h:P:=by
  intro b' hb'
  simp at hb'
  subst hb';exact⟨hBn.1,hBn.2.1⟩
 ):P:=h
theorem qE{P:Prop}(h:P:=by
  have:=R7.out
  simpa[iu] using this
 ):P:=h
abbrev aF(a0:Int)(a1:Int)(a2:Option Addr)(a3:Nat)(a4:Nat):Obj:=.cells #[.int .u8 a0,.int .i64 a1,.slice a2 a3 a4] 75
abbrev br(a0:Int)(a1:ByteArray)(a2:Int)(a3:ByteArray)(a4:ByteArray)(a5:Bool):Obj:=.cells #[.int .u8 a0,.string a1,.int .i8 a2,.string a3,.string a4,.bool a5] 250
abbrev aQ(a0:Int)(a1:Bool)(a2:Int):Obj:=.cells #[.int .u8 a0,.bool a1,.int .u64 a2] 102
abbrev aR(a0:Int)(a1:ByteArray)(a2:Option Addr)(a3:Nat)(a4:Nat):Obj:=.cells #[.int .i64 a0,.string a1,.slice a2 a3 a4] 78
abbrev cA(a0:Option Addr)(a1:Nat)(a2:Nat)(a3:Option Addr)(a4:Nat)(a5:Nat)(a6:Option Addr)(a7:Nat)(a8:Nat)(a9:Int)(a10:Int)(a11:Option Addr)(a12:Nat)(a13:Nat)(a14:Option Addr)(a15:Nat)(a16:Nat)(a17:Option Addr)(a18:Nat)(a19:Nat):Obj:=.cells #[.slice a0 a1 a2,.slice a3 a4 a5,.slice a6 a7 a8,.int .i64 a9,.int .i64 a10,.slice a11 a12 a13,.slice a14 a15 a16,.slice a17 a18 a19] 29
abbrev aX(a0:ByteArray)(a1:ByteArray):Obj:=.cells #[.string a0,.string a1] 73
abbrev aZ(a0:Int)(a1:Option Addr)(a2:Nat)(a3:Nat):Obj:=.cells #[.int .i64 a0,.slice a1 a2 a3] 81
abbrev bj(a0:ByteArray)(a1:Int):Obj:=.cells #[.string a0,.int .i64 a1] 83
abbrev bq(a0:Int):Obj:=.cells #[.int .i64 a0] 3
abbrev dz(a0:Int):Obj:=.cells #[.int .i64 a0] 33
abbrev bQ(a0:ByteArray):Obj:=.cells #[.string a0] 9
abbrev jv(a0:Int)(a1:Int):Obj:=.cells #[.int .i64 a0,.int .i64 a1] 142
abbrev pu(a0:Int)(a1:Int)(a2:ByteArray)(a3:ByteArray):Obj:=.cells #[.int .u8 a0,.int .u8 a1,.string a2,.string a3] 287
abbrev cE(a0:Value):Obj:=.cells #[a0] 200
abbrev iP(a0:Option Addr)(a1:Nat)(a2:Nat):Obj:=.cells #[.slice a0 a1 a2] 63
abbrev iY(a0:Option Addr)(a1:Nat)(a2:Nat):Obj:=.cells #[.slice a0 a1 a2] 22
abbrev jr(a0:Int):Obj:=.cells #[.int .u8 a0] 5
abbrev sJ(a0:Int)(a1:Int):Obj:=.cells #[.int .i64 a0,.int .i64 a1] 374
abbrev px(a0:Option Addr):Obj:=.cells #[.pointer a0] 122
abbrev sA(a0:Int):Obj:=.cells #[.int .i64 a0] 119
theorem sIB{α:Type _}(l:List α)(i:Nat)(a:α):l.toArray.setIfInBounds i a=(l.set i a).toArray:=List.setIfInBounds_toArray l i a
theorem sC0{α:Type _}{x:α}{xs:List α}{a:α}:(x::xs).set 0 a=a::xs:=List.set_cons_zero
theorem sCs{α:Type _}{x:α}{xs:List α}{i:Nat}{a:α}:(x::xs).set (i+1) a=x::xs.set i a:=List.set_cons_succ
theorem tkH{P:Program}{ops:Array Oper}{Q:Exit→Act→World→Prop}{md:Region.Mode}{S:World→Prop}{i:Nat}{oi:Oper}{v:Value}{fuel:Nat}{listed:Array Bool}{a:Act}{w:World}(hi:ops[i]? =some oi)(hv:∀w,S w→(execOp a.eval oi).run P w=.ok (.value v) w)
  (h:wpAnyH P md ops Q S fuel (listed.setIfInBounds i true) (a.put oi.dst v) w) (hc:(Region.noSelect ops&&Region.free md ops listed i&&(Region.ready md ops listed).contains i)=true:=by kernel_rfl) (hw:Region.wanted oi (yielded ops a.tmps)=true:=by rfl)
  (hQ:∀c a w,Q (.panic c) (a.put oi.dst v) w→Q (.panic c) a w:=by exact fun _ _ _ h=>h) (hS:S w:=by assumption):wpAnyH P md ops Q S (fuel+1) listed a w:=by
 simp only[Bool.and_eq_true]at hc
 exact ww
theorem tkA{P:Program}{ops:Array Oper}{Q:Exit→Act→World→Prop}{md:Region.Mode}{S:World→Prop}{i:Nat}{oi:Oper}{d:Option Tmp}{v:Value}{fuel:Nat}{listed:Array Bool}{a:Act}{w:World}(hi:ops[i]? =some oi)(hd:oi.dst=d)(hv:∀w,S w→(execOp a.eval oi).run P w=.ok (.value v) w)
  (h:wpAnyH P md ops Q S fuel (listed.setIfInBounds i true) (a.put d v) w) (hc:(Region.noSelect ops&&Region.free md ops listed i&&(Region.ready md ops listed).contains i)=true:=by kernel_rfl) (hw:Region.wanted oi (yielded ops a.tmps)=true:=by kernel_rfl)
  (hQ:∀c a w,Q (.panic c) (a.put d v) w→Q (.panic c) a w:=by exact fun _ _ _ h=>h) (hS:S w:=by assumption):wpAnyH P md ops Q S (fuel+1) listed a w:=by
 subst hd;exact tkH hi hv h hc hw hQ hS
theorem tkB{P:Program}{ops:Array Oper}{Q:Exit→Act→World→Prop}{md:Region.Mode}{S:World→Prop}{i:Nat}{oi:Oper}{d:Option Tmp}{v:Value}{fuel:Nat}{listed:Array Bool}{a:Act}{w:World}(h:wpAnyH P md ops Q S fuel (listed.setIfInBounds i true) (a.put d v) w)(hi:ops[i]? =some oi:=by kernel_rfl)(hd:oi.dst=d:=by kernel_rfl)(hv:∀w,S w→(execOp a.eval oi).run P w=.ok (.value v) w:=by (intro w h;(try dsimp only at h);go_simp;try with_reducible rfl))
  (hc:(Region.noSelect ops&&Region.free md ops listed i&&(Region.ready md ops listed).contains i)=true:=by kernel_rfl) (hw:Region.wanted oi (yielded ops a.tmps)=true:=by kernel_rfl) (hQ:∀c a w,Q (.panic c) (a.put d v) w→Q (.panic c) a w:=by exact fun _ _ _ h=>h) (hS:S w:=by assumption):wpAnyH P md ops Q S (fuel+1) listed a w:=tkA hi hd hv h hc hw hQ hS
theorem tkC{P:Program}{ops:Array Oper}{Q:Exit→Act→World→Prop}{md:Region.Mode}{S:World→Prop}{i:Nat}{oi:Oper}{v:Value}{fuel:Nat}{listed:Array Bool}{a:Act}{w:World}(hi:ops[i]? =some oi)(h:wpAnyH P md ops Q S fuel (listed.setIfInBounds i true) (a.put oi.dst v) w)(hv:∀w,S w→(execOp a.eval oi).run P w=.ok (.value v) w:=by (intro w h;(try dsimp only at h);go_simp;try with_reducible rfl))
  (hc:(Region.noSelect ops&&Region.free md ops listed i&&(Region.ready md ops listed).contains i)=true:=by kernel_rfl) (hw:Region.wanted oi (yielded ops a.tmps)=true:=by rfl) (hQ:∀c a w,Q (.panic c) (a.put oi.dst v) w→Q (.panic c) a w:=by exact fun _ _ _ h=>h) (hS:S w:=by assumption):wpAnyH P md ops Q S (fuel+1) listed a w:=tkH hi hv h hc hw hQ hS
theorem rdA{P:Program}{ops:Array Oper}{Q:Exit→Act→World→Prop}{md:Region.Mode}{S:World→Prop}{i:Nat}{o:Oper}{fuel:Nat}{listed:Array Bool}{a:Act}{w:World}{rs:List Nat}(h:∀K:Act→World→Prop,Shut (∀a w,S w→(S w→wpAnyH P md ops Q S fuel (listed.setIfInBounds i true) a w)→K a w)→Oper.wp P o a w K Q)(hs:AllReadyH P md ops Q S fuel listed a w rs)(ho:ops[i]? =some o:=by kernel_rfl)(hw:Region.wanted o (yielded ops a.tmps)=true:=by kernel_rfl):AllReadyH P md ops Q S fuel listed a w (i::rs):=AllReadyH.cons ho (fun K hK=>by rw[if_pos hw]; exact h K hK) hs
theorem rdY{P:Program}{ops:Array Oper}{Q:Exit→Act→World→Prop}{md:Region.Mode}{S:World→Prop}{rs:List Nat}{fuel:Nat}{listed:Array Bool}{a:Act}{w:World}(h:AllReadyH P md ops Q S fuel listed a w rs)(hr:Region.ready md ops listed=rs:=by kernel_rfl)(hne:rs≠[]:=by simp):wpAnyH P md ops Q S (fuel+1) listed a w:=wpAnyH_ready hr hne h
theorem rN{P:Program}{ops:Array Oper}{Q:Exit→Act→World→Prop}{md:Region.Mode}{S:World→Prop}{fuel:Nat}{listed:Array Bool}{a:Act}{w:World}:AllReadyH P md ops Q S fuel listed a w []:=AllReadyH.nil
structure Kept(S:Nat→Prop)(w w':World):Prop where
 os:w'.os=w.os
 tape:w'.tape=w.tape
 output:w'.output=w.output
 size:w.heap.size≤w'.heap.size
 block:∀k,k<w.heap.size→¬S k→w'.heap[k]? =w.heap[k]?
theorem Kept.refl(S:Nat→Prop)(w:World):Kept S w w:=⟨rfl,rfl,rfl,Nat.le_refl _,fun _ _ _=>rfl⟩
theorem Kept.trans{S:Nat→Prop}{w w1 w2:World}(h1:Kept S w w1)(h2:Kept S w1 w2):Kept S w w2 :=
 ⟨h2.os.trans h1.os,h2.tape.trans h1.tape,h2.output.trans h1.output,Nat.le_trans h1.size h2.size,
  fun k hk hs=>(h2.block k (Nat.lt_of_lt_of_le hk h1.size) hs).trans (h1.block k hk hs)⟩
theorem Kept.then{S T:Nat→Prop}{w w1 w2:World}(h1:Kept S w w1)(h2:Kept T w1 w2)(h:∀k,k<w.heap.size→T k→S k):Kept S w w2 :=
 ⟨h2.os.trans h1.os,h2.tape.trans h1.tape,h2.output.trans h1.output,Nat.le_trans h1.size h2.size,
  fun k hk hs=>(h2.block k (Nat.lt_of_lt_of_le hk h1.size) (fun ht=>hs (h k hk ht))).trans (h1.block k hk hs)⟩
theorem Kept.of_grown{w w':World}{r:Option Nat}(h:w.grownBy w' r):Kept (fun k=>some k=r) w w':=⟨h.os,h.tape,h.output,h.size,fun k hk hs=>h.block k hk hs⟩
theorem Kept.alloc(S:Nat→Prop)(w:World)(o:Obj):Kept S w (w.alloc o):=by
 have h:=(Below.refl w.heap.size w).alloc (Nat.le_refl _) o
 exact⟨h.os,h.tape,h.output,h.size,fun k hk _=>h.block k hk⟩
theorem Kept.of_below{B:Nat}{w w':World}(h:Below B w w'):Kept (fun k=>B≤k) w w':=⟨h.os,h.tape,h.output,h.size,fun k hk hs=>h.block k ae⟩
theorem Kept.to_below{S:Nat→Prop}{B:Nat}{w w':World}(h:Kept S w w')(hB:B≤w.heap.size)(hS:∀k,k<B→¬S k):Below B w w':=⟨h.os,h.tape,h.output,h.size,fun k hk=>h.block k ae (hS k hk)⟩
theorem Kept.mono{S T:Nat→Prop}{w w':World}(h:Kept S w w')(hS:∀k,S k→T k):Kept T w w':=⟨h.os,h.tape,h.output,h.size,fun k hk hs=>h.block k hk (fun x=>hs (hS k x))⟩
theorem Kept.drewN(S:Nat→Prop)(w:World)(m:Nat):Kept S w (w.drewN m):=by
 have h:=below_drewN (Below.refl w.heap.size w) m
 exact⟨h.os,h.tape,h.output,h.size,fun k hk _=>h.block k hk⟩
theorem cell_of_block{w w':World}{b:Nat}(h:w'.heap[b]? =w.heap[b]?)(o:Nat):w'.cell? ⟨b,o,none⟩=w.cell? ⟨b,o,none⟩:=by
 simp only[World.cell?,h]
theorem aC{w w':World}{b:Nat}(h:w'.heap[b]? =w.heap[b]?)(o:Nat):w'.frozen? ⟨b,o,none⟩=w.frozen? ⟨b,o,none⟩:=by
 simp only[World.frozen?,h]
theorem Kept.cell{S:Nat→Prop}{w w':World}(h:Kept S w w'){b o:Nat}{v:Value}(hc:w.cell? ⟨b,o,none⟩=some v)(hs:¬S b):w'.cell? ⟨b,o,none⟩=some v :=
 (cell_of_block (h.block b (block_lt_of_cell hc) hs) o).trans hc
theorem fN{w w':World}{base:Nat}{e:TypeId}{v:Value}{n:Nat}{xs:List Value}(h:w.ownsRow base e 1 v n xs)(hk:∀B,v.ownBlock=some B→w'.heap[B]? =w.heap[B]?):w'.ownsRow base e 1 v n xs:=by
 exact Ch
theorem iM{w:World}{base base':Nat}{e:TypeId}{v:Value}{n:Nat}{xs:List Value}(h:w.ownsRow base e 1 v n xs)(hb:base'≤base):w.ownsRow base' e 1 v n xs:=by
 refine⟨h.1,?_⟩
 rcases h.2 with h0 | ⟨g,cp,cur,h1,h2,h3⟩
 ·exact .inl h0
 ·exact .inr ⟨g,cp,cur,h1,Nat.le_trans hb h2,h3⟩
theorem hid{P:Prop}(h:P):Hid P:=h
def AO(w:World)(a:Option Addr)(n cap:Nat)(l:List Int):Prop :=
 l.length=n∧n≤cap∧n≤1099511627776∧(∀z∈l,-9223372036854775808≤z∧z≤9223372036854775807) ∧
 (n=0∨∃b off,a=some ⟨b,off,none⟩∧∀j,j<n→w.cell? ⟨b,off+j,none⟩=some (.int .i64 (l.getD j 0)))
theorem AO.keep{S:Nat→Prop}{w w':World}{a:Option Addr}{n cap:Nat}{l:List Int}(h:AO w a n cap l)(hk:Kept S w w')(hs:∀b off,a=some ⟨b,off,none⟩→n≠0→¬S b):AO w' a n cap l:=by
 obtain⟨hz,h1,h2,h3,ha⟩:=h;refine⟨hz,h1,h2,h3,?_⟩
 by_cases h0:n=0
 ·exact .inl h0
 rcases ha with ha | ⟨b,off,e,hc⟩
 ·exact .inl ha
 ·exact .inr ⟨b,off,e,fun j hj=>hk.cell (hc j hj) (hs b off e h0)⟩
theorem AO.later{w w':World}{a:Option Addr}{n cap:Nat}{l:List Int}{B:Nat}(h:AO w a n cap l)(hb:Below B w w')(hB:w.heap.size≤B):AO w' a n cap l:=by
 exact Ao
structure Inx where
 c:Int
 a:Int
 la:Option Addr
 ln:Nat
 lc:Nat
 l:List Int
def dx:Inx:=⟨0,0,none,0,0,[]⟩
def ru:List Int→Nat→Int→Int→Int×Int×Int
 | [],_,_,_=>(0,0,10)
 | c::l,i,p,v =>
  if i=9∧1<c then (0,0,11)
  else if c=0∧0<i then (0,0,12)
  else if c<128 then (v+c*128 ^ i,p+1,0)
  else ru l (i+1) (p+1) (v+(c-128)*128 ^ i)
def bE(zs:List Int)(p:Int):Int×Int×Int :=
 if p<0∨(zs.length:Int)<p then (0,0,1) else ru (zs.drop p.toNat) 0 p 0
theorem pN(k:Nat)(hk:k≤9):k=0∨k=1∨k=2∨k=3∨k=4∨k=5∨k=6∨k=7∨k=8∨k=9:=ae
theorem pow_pos(k:Nat):(0:Int)<128 ^ k:=Int.pow_pos aj
theorem GZ(k:Nat)(hk:k≤9):(128:Int) ^ k≤9223372036854775808:=by
 rcases pN k hk with rfl | rfl | rfl | rfl | rfl | rfl | rfl | rfl | rfl | rfl <;> decide
theorem ME(k:Nat):(2:Int) ^ (7*k)=128 ^ k:=by
 rw[Int.pow_mul]; rfl
theorem xL(V c:Int)(k:Nat)(hk:k≤8)(h0:0≤V)(hV:V<128 ^ k)(hc0:0≤c)(hc:c<128) :
  bits .or .u64 V (IntKind.u64.wrap (c*2 ^ (7*k)))=V+c*128 ^ k:=by
 obtain⟨V,rfl⟩:=Int.eq_ofNat_of_zero_le h0;obtain⟨c,rfl⟩:=Int.eq_ofNat_of_zero_le hc0;have hpn:((128 ^ k:Nat):Int)=(128:Int) ^ k:=ar;have hle:=GZ k ae
 have hcc:(128:Int) ^ k≤72057594037927936:=by
  rcases pN k ae with rfl | rfl | rfl | rfl | rfl | rfl | rfl | rfl | rfl | rfl <;> first | decide | omega
 have hmul:(c:Int)*128 ^ k≤127*72057594037927936:=Int.mul_le_mul ae hcc (Int.le_of_lt (pow_pos k)) aj;have hmul0:0≤(c:Int)*128 ^ k:=Int.mul_nonneg hc0 (Int.le_of_lt (pow_pos k));rw[ME,IntKind.wrap_u64,Int.emod_eq_of_lt hmul0 ae]
 have hcast:(c:Int)*128 ^ k=((c*128 ^ k:Nat):Int):=by rw[Int.natCast_mul,hpn]
 rw[hcast]at hmul hmul0 ⊢;rw[u64_or_nat V (c*128 ^ k) ae ae]
 have hV':V<128 ^ k:=by rw[← hpn]at hV; omega
 have h2:(128:Nat) ^ k=2 ^ (7*k):=by rw[Nat.pow_mul]
 rw[Nat.or_comm,nat_join (7*k) (c*128 ^ k) V (by rw[h2]; exact Nat.mul_mod_left _ _) (by rw[← h2]; exact hV')]
 omega
theorem OH(V:Int)(h0:0≤V)(hV:V<128 ^ 9):bits .or .u64 V 9223372036854775808=V+9223372036854775808:=by
 obtain⟨V,rfl⟩:=Int.eq_ofNat_of_zero_le h0;have e:(128:Int) ^ 9=9223372036854775808:=aj;rw[e]at hV
 have:=u64_or_nat V 9223372036854775808 ae aj
 rw[show(9223372036854775808:Int)=((9223372036854775808:Nat):Int) from rfl,this]
 rw[Nat.or_comm,nat_join 63 9223372036854775808 V aj (by simpa using by omega)]
 omega
theorem Ji:∀(l:List Int)(i:Nat)(p v:Int),i≤9→0≤v→v<128 ^ i→(∀z∈l,0≤z∧z≤255)→0≤p →
  0≤(ru l i p v).1∧(ru l i p v).1<18446744073709551616∧0≤(ru l i p v).2.1∧(ru l i p v).2.1≤p+l.length∧0≤(ru l i p v).2.2∧(ru l i p v).2.2≤12 ∧
  ((ru l i p v).2.2=0→p<(ru l i p v).2.1)∧((ru l i p v).2.2≠0→(ru l i p v).1=0∧(ru l i p v).2.1=0):=by
 intro l
 induction l with
 | nil=>intro i p v _ _ _ _ hp; simp[ru]; omega
 | cons c l ih =>
  intro i p v hi h0 hv hz hp;have hc:=hz c ar;have hpp:=pow_pos i;have hle:=GZ i hi;unfold ru
  by_cases h9:i=9∧1<c
  ·rw[if_pos h9]; simp; omega
  rw[if_neg h9]
  by_cases hl:c=0∧0<i
  ·rw[if_pos hl]; simp; omega
  rw[if_neg hl]
  by_cases h128:c<128
  ·rw[if_pos h128];have hm0:0≤c*128 ^ i:=Int.mul_nonneg hc.1 (Int.le_of_lt hpp)
   have hm:c*128 ^ i≤9223372036854775808:=by
    by_cases e:i=9
    ·subst e;have:c≤1:=ae
     have:=Int.mul_le_mul_of_nonneg_right this (Int.le_of_lt hpp)
     omega
    ·have hcc:(128:Int) ^ i≤72057594037927936:=by
      rcases pN i ae with rfl | rfl | rfl | rfl | rfl | rfl | rfl | rfl | rfl | rfl <;> first | decide | omega
     have:c*128 ^ i≤128*72057594037927936:=Int.mul_le_mul ae hcc (Int.le_of_lt hpp) aj;omega
   refine⟨ae,pP,pP,by simp only[List.length_cons]; omega,ar,ar,pP,ar⟩
  ·rw[if_neg h128];have hi8:i≤8:=ae;have hs:(128:Int) ^ (i+1)=128 ^ i*128:=Int.pow_succ _ _;have hm0:0≤(c-128)*128 ^ i:=Int.mul_nonneg ae (Int.le_of_lt hpp);have hm:(c-128)*128 ^ i≤127*128 ^ i:=Int.mul_le_mul_of_nonneg_right ae (Int.le_of_lt hpp)
   have:=ih (i+1) (p+1) (v+(c-128)*128 ^ i) ae ae (by rw[hs]; omega) (fun z h=>hz z (by simp[h])) ae
   refine⟨this.1,this.2.1,this.2.2.1,by have h4:=this.2.2.2.1; simp only[List.length_cons]; omega,this.2.2.2.2.1,this.2.2.2.2.2.1,fun h=>by have h7:=this.2.2.2.2.2.2.1 h; omega,this.2.2.2.2.2.2.2⟩
theorem cd(zs:List Int)(p:Int)(hz:∀z∈zs,0≤z∧z≤255) :
  0≤(bE zs p).1∧(bE zs p).1<18446744073709551616∧0≤(bE zs p).2.1∧(bE zs p).2.1≤zs.length∧0≤(bE zs p).2.2∧(bE zs p).2.2≤12 ∧
  ((bE zs p).2.2=0→0≤p∧p<(bE zs p).2.1)∧((bE zs p).2.2≠0→(bE zs p).1=0∧(bE zs p).2.1=0):=by
 unfold bE
 by_cases h:p<0∨(zs.length:Int)<p
 ·rw[if_pos h]; simp
 rw[if_neg h]
 have:=Ji (zs.drop p.toNat) 0 p 0 ae ae aj (fun z hz'=>hz z (List.mem_of_mem_drop hz')) ae
 refine⟨this.1,this.2.1,this.2.2.1,?_,this.2.2.2.2.1,this.2.2.2.2.2.1,fun h'=>⟨ae,this.2.2.2.2.2.2.1 h'⟩,this.2.2.2.2.2.2.2⟩
 have h4:=this.2.2.2.1;rw[List.length_drop]at h4;omega
theorem Ff(zs:List Int)(j:Nat)(h:j<zs.length):zs.drop j=zs[j]?.getD 0::zs.drop (j+1):=by
 rw[List.drop_eq_getElem_cons h]; simp[h]
def uf(u:Int):Int:=if u%2=1 then -(u / 2)-1 else u / 2
def ic(zs:List Int)(p:Int):Int×Int×Int:=(uf (bE zs p).1,(bE zs p).2.1,(bE zs p).2.2)
def uv:Nat→Int→List Int
 | 0,v=>[v]
 | f+1,v=>if v<128 then [v] else (v%128+128)::uv f (v / 128)
def ax(v:Int):List Int:=uv 9 v
theorem Qq(f:Nat):∀v,1≤(uv f v).length∧(uv f v).length≤f+1:=by
 induction f with
 | zero=>intro v; simp[uv]
 | succ f ih =>
  intro v
  by_cases h:v<128
  ·simp[uv,h]
  ·have:=ih (v / 128)
   simp only[uv,h,if_false,List.length_cons]; omega
theorem MU(V:Int)(k:Nat)(h:V*128 ^ k<18446744073709551616)(h0:0≤V):V / 128*128 ^ (k+1)<18446744073709551616:=by
 have hs:(128:Int) ^ (k+1)=128*128 ^ k:=by rw[Int.pow_succ,Int.mul_comm]
 rw[hs,← Int.mul_assoc];have h2:V / 128*128≤V:=ae
 have:=Int.mul_le_mul_of_nonneg_right h2 (Int.le_of_lt (pow_pos k))
 omega
theorem room_end(V:Int)(k:Nat)(h:V*128 ^ k<18446744073709551616)(hk:k≤9)(h128:128≤V):k≤8:=by
 by_cases e:k=9
 ·subst e;have e9:(128:Int) ^ 9=9223372036854775808:=aj;rw[e9]at h;omega
 ·omega
theorem RN:∀(l:List Int)(f k:Nat)(p acc v q:Int),f+k=9→(∀z∈l,0≤z∧z≤255)→ru l k p acc=(v,q,0) →
  ∃(V:Int)(m:Nat),q=p+m∧m≤l.length∧l.take m=uv f V∧v=acc+V*128 ^ k∧0≤V∧(V≠0∨k=0):=by
 intro l
 induction l with
 | nil=>intro f k p acc v q _ _ h; simp[ru]at h
 | cons c l ih =>
  intro f k p acc v q hf hz h;have hc:=hz c ar;unfold ru at h
  by_cases h9:k=9∧1<c
  ·rw[if_pos h9]at h; simp at h
  rw[if_neg h9]at h
  by_cases hl:c=0∧0<k
  ·rw[if_pos hl]at h; simp at h
  rw[if_neg hl]at h
  by_cases h128:c<128
  ·rw[if_pos h128]at h
   simp only[Prod.mk.injEq]at h
   refine⟨c,1,ae,ar,?_,ae,hc.1,ae⟩
   cases f with
   | zero=>simp[uv]
   | succ f=>simp[uv,h128]
  ·rw[if_neg h128]at h
   cases f with
   | zero=>omega
   | succ f =>
    obtain⟨V,m,e1,e2,e3,e4,e5,e6⟩:=ih f (k+1) (p+1) _ v q ae (fun z h=>hz z (by simp[h])) h
    have hs:(128:Int) ^ (k+1)=128*128 ^ k:=by rw[Int.pow_succ,Int.mul_comm]
    have hn:¬(c-128+128*V<128):=ae;have hm:(c-128+128*V)%128+128=c:=ae;have hd:(c-128+128*V) / 128=V:=ae;refine⟨c-128+128*V,m+1,ae,aI,?_,?_,ae,ae⟩
    ·simp only[uv,hn,if_false,hm,hd,List.take_succ_cons,e3]
    ·rw[e4,hs,Int.add_mul,← Int.mul_assoc,Int.mul_comm V 128];omega
def fo(n:Int):Int:=if n<0 then -2*n-1 else 2*n
theorem Ov(u:Int)(h:0≤u):fo (uf u)=u:=by
 unfold uf fo
 split <;> split <;> omega
theorem zh(n:Int)(h0:-9223372036854775808≤n)(h1:n<9223372036854775808):0≤fo n∧fo n<18446744073709551616:=by
 unfold fo; split <;> omega
theorem aG(v:Int):1≤(ax v).length∧(ax v).length≤10:=Qq 9 v
theorem pz(zs:List Int)(p v q:Int)(hz:∀z∈zs,0≤z∧z≤255)(h:bE zs p=(v,q,0)):(zs.drop p.toNat).take (q-p).toNat=ax v∧0≤v∧v<18446744073709551616∧0≤p∧p<q∧q≤zs.length:=by
 have hr:=cd zs p hz;rw[h]at hr
 simp only at hr
 obtain⟨r0,r1,_,r3,_,_,r6,_⟩:=hr;have r6:=r6 trivial;unfold bE at h;rw[if_neg ae]at h
 obtain⟨V,m,e1,e2,e3,e4,_,_⟩:=RN (zs.drop p.toNat) 9 0 p 0 v q ae (fun z h=>hz z (List.mem_of_mem_drop h)) h
 have e:(q-p).toNat=m:=ae
 have ev:v=V:=by simpa using e4
 rw[e,e3,ev];exact⟨rfl,ae,ae,r6.1,r6.2,r3⟩
def Seg(w:World)(a:Option Addr)(n cap:Nat)(zs:List Int):Prop :=
 zs.length=n∧n≤cap∧n≤1099511627776∧(∀z∈zs,0≤z∧z≤255) ∧
 (n=0∨∃b off,a=some ⟨b,off,none⟩∧∀j,j<n→w.cell? ⟨b,off+j,none⟩=some (.int .u8 (zs.getD j 0)))
def mC(k:IntKind)(r:Int×Int×Int):Value:=.tuple #[.int k r.1,.int .i64 r.2.1,.int .i64 r.2.2]
theorem od(k:IntKind)(a b c:Int)(r:Int×Int×Int)(h:r=(a,b,c)):Ending.returned (.tuple #[.int k a,.int .i64 b,.int .i64 c])=.returned (mC k r):=by subst h; rfl
theorem Np{c:Int}(h₀:0≤c)(h₁:c≤255):bits .and .u8 c 127=c%128:=bits_mask .u8 8 aj wraps_u8 7 aj c h₀ ae
theorem Ae{c:Int}(h₀:0≤c)(h₁:c<128):bits .and .u8 c 128=0:=by
 rw[u8_and c 128 h₀ ae aj aj]
 have:=nat_bit 7 c.toNat
 simp only[Int.reduceToNat]
 rw[show(128:Nat)=2 ^ 7 from rfl,this]
 have:c.toNat / 2 ^ 7=0:=Nat.div_eq_of_lt (by simp only[Nat.reducePow]; omega)
 rw[this]; rfl
theorem Lj{c:Int}(h₀:128≤c)(h₁:c≤255):bits .and .u8 c 128=128:=by
 rw[u8_and c 128 ae ae aj aj]
 have:=nat_bit 7 c.toNat
 simp only[Int.reduceToNat]
 rw[show(128:Nat)=2 ^ 7 from rfl,this]
 simp only[Nat.reducePow]
 have:c.toNat / 128=1:=ae
 rw[this]; rfl
theorem m8(zs:List Int)(hr:∀z∈zs,0≤z∧z≤255)(j:Nat):0≤zs[j]?.getD 0∧zs[j]?.getD 0≤255:=by
 by_cases h:j<zs.length
 ·simp only[aO h,Option.getD_some]; exact hr _ (List.getElem_mem h)
 ·simp only[List.getElem?_eq_none (by omega:zs.length≤j),Option.getD_none]; omega
theorem dA(x:Int)(h0:0≤x)(h1:x<18446744073709551616):IntKind.u64.wrap x=x:=by
 rw[IntKind.wrap_u64]; exact Int.emod_eq_of_lt h0 h1
theorem P7(x:Int)(h0:0≤x)(h1:x<9223372036854775808):bits .xor .i64 x (-1)=-x-1:=by
 obtain⟨a,rfl⟩:=Int.eq_ofNat_of_zero_le h0
 show IntKind.i64.wrap ((BitVec.ofInt 64 (a:Int) ^^^ BitVec.ofInt 64 (-1)).toNat:Int)=_
 have e1:BitVec.ofInt 64 (-1)=BitVec.allOnes 64:=aj;rw[e1,BitVec.xor_allOnes,BitVec.toNat_not,ofInt_u64 a ae];exact wL
theorem RS(x:Int)(h0:0≤x)(h1:x<9223372036854775808):bits .xor .i64 x 0=x:=by
 obtain⟨a,rfl⟩:=Int.eq_ofNat_of_zero_le h0
 show IntKind.i64.wrap ((BitVec.ofInt 64 (a:Int) ^^^ BitVec.ofInt 64 0).toNat:Int)=_
 have e1:BitVec.ofInt 64 0=0#64:=aj;rw[e1,BitVec.xor_zero,ofInt_u64 a ae];exact wL
theorem i64_in(x:Int)(h0:-9223372036854775808≤x)(h1:x<9223372036854775808):IntKind.i64.wrap x=x:=by
 simp[IntKind.wrap,IntKind.bits,IntKind.signed]; omega
theorem and_one{u:Int}(h0:0≤u)(h1:u<18446744073709551616):bits .and .u64 u 1=u%2:=by
 rw[u64_and u 1 h0 h1 aj aj]
 simp only[Int.reduceToNat]
 rw[nat_mask1]; omega
theorem Mj(b1 o1 b2 o2 n c1 c2:Nat)(zs:List Int)(w:World)(hz:zs.length=n)(hn:n≤1099511627776)
  (hc1:∀j,j<n→w.cell? ⟨b1,o1+j,none⟩=some (.int .u8 (zs.getD j 0)))
  (hc2:∀j,j<n→w.cell? ⟨b2,o2+j,none⟩=some (.int .u8 (zs.getD j 0))) :
  Calls Tryz.prog 23 #[.slice (some ⟨b1,o1,none⟩) n c1,.slice (some ⟨b2,o2,none⟩) n c2] w fun e w'=>e=.returned (.bool true)∧∃m,w'=w.drewN m:=by
 have hne:((n:Int) != n)=false:=ar
 go_enter Tryz.func23,Tryz.ntmps23
 go_wp2
 go_loopw [5] (fun i wr=>∃k m:Nat,k≤n∧i=.int .i64 k∧wr=w.drewN m) (fun i _=>n-(intOf i).toNat)
 case atStart=>exact⟨0,0,ae,rfl,rfl⟩
 case round =>
  obtain⟨k,m,hk,rfl,rfl⟩:=hrel
  by_cases hlt:k<n
  ·have g1:w.cell? ⟨b1,o1+k,none⟩=some (.int .u8 (zs.getD k 0)):=hc1 k hlt;have g2:w.cell? ⟨b2,o2+k,none⟩=some (.int .u8 (zs.getD k 0)):=hc2 k hlt;clear hc1 hc2;have hlt':(k:Int)<(n:Int):=ae;go_wp2
   go_quiet (fail)
   go_wp2;exact⟨⟨k+1,m+nq,ae,il,rfl⟩,ij⟩
  ·clear hc1 hc2;go_wp2;go_ret;exact⟨rfl,m,rfl⟩
theorem ET(a1 a2:Option Addr)(c1 c2:Nat)(w:World) :
  Calls Tryz.prog 23 #[.slice a1 0 c1,.slice a2 0 c2] w fun e w'=>e=.returned (.bool true)∧∃m,w'=w.drewN m:=by
 go_enter Tryz.func23,Tryz.ntmps23
 go_wp2;refine wp_loop_rounds 1 ?_;rw[rounds_succ];go_wp2;go_ret;exact⟨rfl,0,rfl⟩
theorem SF(a1 a2:Option Addr)(n c1 c2:Nat)(zs:List Int)(w:World)(h1:Seg w a1 n c1 zs)(h2:Seg w a2 n c2 zs) :
  Calls Tryz.prog 23 #[.slice a1 n c1,.slice a2 n c2] w fun e w'=>e=.returned (.bool true)∧∃m,w'=w.drewN m:=by
 obtain⟨hz,_,hn,_,g1⟩:=h1;obtain⟨_,_,_,_,g2⟩:=h2
 by_cases h0:n=0
 ·subst h0; exact ET a1 a2 c1 c2 w
 rcases g1 with g1 | ⟨b1,o1,rfl,g1⟩
 ·exact absurd g1 h0
 rcases g2 with g2 | ⟨b2,o2,rfl,g2⟩
 ·exact absurd g2 h0
 exact Mj b1 o1 b2 o2 n c1 c2 zs w hz hn g1 g2
theorem Tryz.info5:(Tryz.prog.info? 5).map (fun i=>(i.zero,i.size,i.bytes))=some (some (.int .u8 0),1,1):=ai
def cat(Z:Nat→List Int):Nat→List Int
 | 0=>[]
 | k+1=>cat Z k++Z k
theorem yF(Z:Nat→List Int)(k m:Nat)(h:k≤m):(cat Z k).length≤(cat Z m).length:=by
 induction m with
 | zero =>
  obtain rfl:k=0:=ae;omega
 | succ m ih =>
  by_cases e:k=m+1
  ·subst e; omega
  ·have:=ih ae; simp only[cat,List.length_append]; omega
theorem rF(l:List Int):∀u∈l.map (Value.int .u8),u.oneCell'=true:=by
 intro u hu;obtain⟨z,_,rfl⟩:=List.mem_map.1 hu;rfl
theorem pC{w:World}{a:Option Addr}{n cap:Nat}{zs:List Int}(h:Seg w a n cap zs) :
  ∀ad,a=some ad→∀(j:Nat)(u:Value),(zs.map (Value.int .u8))[j]? =some u→w.cell? (ad.add j)=some u:=by
 intro ad had j u hu;obtain⟨hz,_,_,_,ha⟩:=h
 have hj:j<zs.length:=by
  rcases Nat.lt_or_ge j zs.length with h | h
  ·exact h
  ·simp[List.getElem?_eq_none (show(zs.map (Value.int .u8)).length≤j by simpa using h)]at hu
 rcases ha with ha | ⟨b,off,e,hc⟩
 ·omega
 ·rw[had]at e
  simp at e
  subst e
  have:=hc j ae
  have hplain:(⟨b,off,none⟩:Addr).add j=⟨b,off+j,none⟩:=iG;rw[hplain,this]
  simp[aO hj]at hu
  subst hu
  simp[List.getD,aO hj]
theorem Seg.later{w w':World}{a:Option Addr}{n cap:Nat}{zs:List Int}{B:Nat}(h:Seg w a n cap zs)(hb:Below B w w')(hB:w.heap.size≤B):Seg w' a n cap zs:=by
 exact Ao
theorem Seg.drewN{w:World}{a:Option Addr}{n cap:Nat}{zs:List Int}(h:Seg w a n cap zs)(m:Nat):Seg (w.drewN m) a n cap zs:=by
 obtain⟨hz,h1,h2,h3,ha⟩:=h;refine⟨hz,h1,h2,h3,?_⟩
 rcases ha with ha | ⟨b,off,e,hc⟩
 ·exact .inl ha
 ·exact .inr ⟨b,off,e,fun j hj=>by rw[World.cell?_drewN]; exact hc j hj⟩
theorem Fx(P m cp:Nat)(A:Nat→Option Addr)(L C:Nat→Nat)(Z:Nat→List Int)(w:World)(hm:m≤1000)
  (hp:∀j,j<m→w.cell? ⟨P,j,none⟩=some (.slice (A j) (L j) (C j)))
  (hs:∀j,j<m→Seg w (A j) (L j) (C j) (Z j)∧(A j=none→C j=0)) (hN:(cat Z m).length≤1099511627776) (hPw:P<w.heap.size) :
  Calls Tryz.prog 329 #[.slice (some ⟨P,0,none⟩) m cp] w fun e w'=>e=.returned (.slice (some ⟨w.heap.size,0,none⟩) (cat Z m).length (cat Z m).length) ∧
   w'.ownsRow w.heap.size 5 1 (.slice (some ⟨w.heap.size,0,none⟩) (cat Z m).length (cat Z m).length) (cat Z m).length ((cat Z m).map (Value.int .u8))∧Below w.heap.size w w':=by
 obtain⟨i0,hi,hz0,hz1,hz2⟩:=info_parts Tryz.info5;have hb2:i0.bytes*(cat Z m).length≤281474976710656:=vZ;have hml:(cat Z m).length≤maxLen:=bV
 go_enter Tryz.func329,Tryz.ntmps329
 go_wp2
 go_loop [3,11] (fun s i=>∃k:Nat,k≤m∧i=.int .i64 k∧s=.int .i64 (cat Z k).length) (fun _ i=>m-(intOf i).toNat)
 case atStart=>exact⟨0,ae,rfl,rfl⟩
 case round =>
  obtain⟨k,hk,rfl,rfl⟩:=hrel
  by_cases hlt:k<m
  ·have hcell:=hp k hlt;have hlen:=(hs k hlt).1.1;have hmo:=yF Z (k+1) m ae
   have HC:=hid (show(cat Z (k+1)).length=(cat Z k).length+L k by simp[cat,hlen])
   have hle:(cat Z k).length+L k≤1099511627776:=by have:=HC.out; omega
   clear hp hs hlen hmo hb2 hml hi hz0 hz1 hz2 hN;go_wp2
   go_round
   case rel=>exact⟨k+1,ae,il,by rw[HC.out]; go_num⟩
   case measure=>simp[intOf]; omega
  ·obtain rfl:k=m:=ae
   go_wp2_with (first | (at_make; refine wpList_make_own _ rfl _ _ 63 rfl w.heap.size 5 i0 (.int .u8 0) 1 Tryz.underlying63 hi hz0 hz1 .i64 .i64 _ (cat Z k).length rfl rfl rfl hb2 hml (Nat.le_refl _) ?_; intro w1 hown hgrow))
   have hbel:Below w.heap.size w w1:=(Below.refl _ _).grown hgrow (Nat.le_refl _) ar;clear hgrow
   go_loopw [6,24] (fun v i wr=>∃j:Nat,j≤k∧i=.int .i64 j∧v=.slice (some ⟨w.heap.size,0,none⟩) (cat Z j).length (cat Z k).length ∧
    wr.ownsRow w.heap.size 5 1 (.slice (some ⟨w.heap.size,0,none⟩) (cat Z j).length (cat Z k).length) (cat Z j).length ((cat Z j).map (Value.int .u8))∧Below w.heap.size w wr) (fun _ i _=>k-(intOf i).toNat)
   case atStart=>exact⟨0,ae,rfl,rfl,hown,hbel⟩
   case round =>
    obtain⟨j,hj,rfl,rfl,hownr,hb⟩:=hrel;clear hown hbel
    by_cases hjk:j<k
    ·have hcell:wr.cell? ⟨P,j,none⟩=some (.slice (A j) (L j) (C j)):=(hb.cell (p:=⟨P,j,none⟩) hPw).trans (hp j hjk);obtain⟨hseg,hnone⟩:=hs j hjk;have hsl:=hseg.later hb (Nat.le_refl _)
     have hnn:A j=none→L j=0∧C j=0:=fun h=>⟨by have:=hnone h; have:=hseg.2.1; omega,hnone h⟩
     have hcl:=pC hsl
     have hlen:((Z j).map (Value.int .u8)).length=L j*1:=by simp[hseg.1]
     have hmo:=yF Z (j+1) k ae
     have HC:=hid (show(cat Z (j+1)).length=(cat Z j).length+L j by simp[cat,hseg.1])
     have hroom:(cat Z j).length+L j≤(cat Z k).length:=by have:=HC.out; omega
     have HB:=hid hb;have HO:=hid hownr;have HL:=hid hcl;have HN:=hid hnn;clear hp hs hb hownr hseg hnone hsl hcl hnn hmo
     go_wp2_with (first | (at_builtin; refine wpList_append_fits_any _ rfl _ _ 63 rfl w.heap.size 5 i0 1 Tryz.underlying63 hi hz1 w.heap.size (cat Z j).length (cat Z k).length _ rfl HO.out (A j) (L j) (C j) ((Z j).map (Value.int .u8)) rfl hlen HN.out HL.out (rF _) hroom ?_; intro w2 hown2 hgrow2))
     have hb2':Below w.heap.size w w2:=HB.out.grown hgrow2 (HB.out.size) ar
     have ho2:w2.ownsRow w.heap.size 5 1 (.slice (some ⟨w.heap.size,0,none⟩) (cat Z (j+1)).length (cat Z k).length) (cat Z (j+1)).length ((cat Z (j+1)).map (Value.int .u8)):=by
      rw[HC.out]; simp only[cat,List.map_append]; exact hown2
     exact⟨⟨j+1,ae,il,by rw[HC.out],ho2,hb2'⟩,ij⟩
    ·obtain rfl:j=k:=ae;clear hp hs;go_wp2;go_ret;exact⟨rfl,hownr,hb⟩
theorem DG{w:World}{B n cap:Nat}{zs:List Int}{base:Nat}(h:w.ownsRow base 5 1 (.slice (some ⟨B,0,none⟩) n cap) n (zs.map (Value.int .u8)))(hl:zs.length=n)(hn:n≤1099511627776)(hr:∀z∈zs,0≤z∧z≤255)(hcap:n≤cap) :
  Seg w (some ⟨B,0,none⟩) n cap zs:=by
 refine⟨hl,hcap,hn,hr,.inr ⟨B,0,rfl,fun j hj=>?_⟩⟩
 rw[Nat.zero_add,h.cellAt j ae];have hj':j<zs.length:=ae
 simp[hj']
theorem FM(Z:Nat→List Int)(m:Nat)(h:∀j,j<m→∀z∈Z j,0≤z∧z≤255):∀z∈cat Z m,0≤z∧z≤255:=by
 induction m with
 | zero=>intro z hz; simp[cat]at hz
 | succ m ih =>
  intro z hz
  simp only[cat,List.mem_append]at hz
  rcases hz with hz | hz
  ·exact ih (fun j hj=>h j ae) z hz
  ·exact h m ae z hz
theorem Gn(P m cp:Nat)(A:Nat→Option Addr)(L C:Nat→Nat)(Z:Nat→List Int)(w:World)(hm:m≤1000)
  (hp:∀j,j<m→w.cell? ⟨P,j,none⟩=some (.slice (A j) (L j) (C j)))
  (hs:∀j,j<m→Seg w (A j) (L j) (C j) (Z j)∧(A j=none→C j=0)) (hN:(cat Z m).length≤1099511627776) (hPw:P<w.heap.size) (h0:0<(cat Z m).length) :
  Calls Tryz.prog 329 #[.slice (some ⟨P,0,none⟩) m cp] w fun e w'=>e=.returned (.slice (some ⟨w.heap.size,0,none⟩) (cat Z m).length (cat Z m).length) ∧
   Seg w' (some ⟨w.heap.size,0,none⟩) (cat Z m).length (cat Z m).length (cat Z m)∧Below w.heap.size w w'∧w.heap.size<w'.heap.size:=by
 refine(Fx P m cp A L C Z w hm hp hs hN hPw).mono fun e w' ⟨he,ho,hb⟩=>?_
 have hseg:=DG ho rfl hN (FM Z m fun j hj=>(hs j hj).1.2.2.2.1) (Nat.le_refl _)
 refine⟨he,hseg,hb,?_⟩
 rcases hseg.2.2.2.2 with h | ⟨b,off,e1,hc⟩
 ·omega
 ·have:=hc 0 h0
  simp at e1
  have:=block_lt_of_cell this
  simp only at this
  omega
theorem Qy{V:Int}(h0:0≤V)(h1:V<18446744073709551616):bits .and .u64 V 127=V%128:=by
 rw[u64_and V 127 h0 h1 aj aj]
 simp only[Int.reduceToNat]
 rw[nat_mask7]; omega
theorem Re{c:Int}(h0:0≤c)(h1:c<128):bits .or .u8 c 128=c+128:=by
 rw[u8_or c 128 h0 ae aj aj]
 simp only[Int.reduceToNat]
 rw[Nat.or_comm,nat_join 7 128 c.toNat aj (by simp only[Nat.reducePow]; omega)]
 omega
theorem Px(pre:List Int)(k m:Nat)(c:Int)(h:pre.length=k):((pre++List.replicate (m+1) 0).map (Value.int .u8)).set k (.int .u8 c)=((pre++[c])++List.replicate m 0).map (Value.int .u8):=by
 exact DN
theorem Ho{w wr:World}{pre:List Int}{k:Nat}(c:Int)(hk:k≤9)(hp:pre.length=k)
  (hown:wr.ownsRow w.heap.size 379 1 (.slice (some ⟨w.heap.size,0,none⟩) 10 10) 10 ((pre++List.replicate (10-k) 0).map (Value.int .u8))) (hb:Below w.heap.size w wr) :
  (wr.setCell ⟨w.heap.size,k,none⟩ (.int .u8 c)).ownsRow w.heap.size 379 1 (.slice (some ⟨w.heap.size,0,none⟩) 10 10) 10 (((pre++[c])++List.replicate (10-(k+1)) 0).map (Value.int .u8)) ∧
   Below w.heap.size w (wr.setCell ⟨w.heap.size,k,none⟩ (.int .u8 c)):=by
 have h:=hown.stored k (.int .u8 c);have e:10-k=10-(k+1)+1:=ae;rw[e,Px pre k _ c hp]at h;exact⟨h.1,hb.setCell ar _⟩
theorem Tryz.len379:Tryz.prog.arrayLen 379=10:=ai
theorem Tryz.und379:Tryz.prog.underlying 379=some (.array (Tryz.prog.arrayLen 379) (Tryz.prog.elem 379)):=ai
theorem Tryz.size379(w:World):(sizeOf (Tryz.prog.elem 379)).run Tryz.prog w=.ok 1 w:=ai
theorem vw(B k:Nat)(hk:k≤9)(w:World) :
  (Instr.sliceAt 379 (.pointer (some ⟨B,0,none⟩)) none (some (.int .i64 ((k:Int)+1))) none).run Tryz.prog w=.ok (.slice (some ⟨B,0,none⟩) (k+1) 10) w:=by
 rw[run_sliceAt_array_h w 379 ⟨B,0,none⟩ Tryz.und379 .i64 ((k:Int)+1) ae (by rw[Tryz.len379]; omega),Tryz.size379]
 have e:((k:Int)+1).toNat=k+1:=ae
 simp only[Result.andThen,slicedAt,Tryz.len379,e]
 simp[Addr.add]
theorem zu{w W:World}{k:Nat}{V v:Int}{pre:List Int}(hk:k≤9)(hp:pre.length=k)(hV:0≤V)(hV1:V<128)(huv:ax v=pre++[V])(hpr:∀z∈pre,0≤z∧z≤255)
  (ho:W.ownsRow w.heap.size 379 1 (.slice (some ⟨w.heap.size,0,none⟩) 10 10) 10 (((pre++[V])++List.replicate (10-(k+1)) 0).map (Value.int .u8))) (hb:Below w.heap.size w W) (hsz:W.heap.size=w.heap.size+1) :
  Calls Tryz.prog 329 #[.slice (some ⟨w.heap.size+1,0,none⟩) 1 1] (W.alloc (iP (some ⟨w.heap.size,0,none⟩) (k+1) 10)) fun e w' =>
   e=.returned (.slice (some ⟨w.heap.size+2,0,none⟩) (ax v).length (ax v).length) ∧
   Seg w' (some ⟨w.heap.size+2,0,none⟩) (ax v).length (ax v).length (ax v)∧Below w.heap.size w w'∧w.heap.size+2<w'.heap.size:=by
 have hlen:(ax v).length=k+1:=by rw[huv]; simp[hp]
 have hr:∀z∈ax v,0≤z∧z≤255:=by
  intro z hz;rw[huv]at hz;exact Em
 have hseg:Seg W (some ⟨w.heap.size,0,none⟩) (k+1) 10 (ax v):=by
  refine⟨hlen,ae,ae,hr,.inr ⟨_,0,rfl,fun j hj=>?_⟩⟩
  rw[Nat.zero_add,ho.cellAt j ae,huv]
  have hj':j<(pre++[V]).length:=by simp[hp]; omega
  rw[List.getElem?_map,List.getElem?_append_left hj']
  simp[aO hj']
 have hba:Below W.heap.size W (W.alloc (iP (some ⟨w.heap.size,0,none⟩) (k+1) 10)):=(Below.refl _ _).alloc (Nat.le_refl _) _
 have hs2:(W.alloc (iP (some ⟨w.heap.size,0,none⟩) (k+1) 10)).heap.size=w.heap.size+2:=by simp[hsz]
 have hc1:cat (fun _=>ax v) 1=ax v:=by simp[cat]
 have J:=Gn (w.heap.size+1) 1 1 (fun _=>some ⟨w.heap.size,0,none⟩) (fun _=>k+1) (fun _=>10) (fun _=>ax v) (W.alloc (iP (some ⟨w.heap.size,0,none⟩) (k+1) 10)) ae
  (fun j hj=>by
   obtain rfl:j=0:=ae
   rw[← hsz]; simp)
  (fun j _=>⟨hseg.later hba (Nat.le_refl _),fun h=>cj⟩) (by rw[hc1]; omega) (by rw[hs2]; omega) (by rw[hc1]; omega)
 rw[hc1,hs2]at J
 refine J.mono fun e w' ⟨he,hsg,hbl,hz⟩=>⟨he,hsg,?_,hz⟩
 exact(hb.trans (hba.mono ae)).trans (hbl.mono ae)
theorem vV(v:Int)(w:World)(h0:0≤v)(h1:v<18446744073709551616) :
  Calls Tryz.prog 325 #[.int .u64 v] w fun e w'=>e=.returned (.slice (some ⟨w.heap.size+2,0,none⟩) (ax v).length (ax v).length) ∧
   Seg w' (some ⟨w.heap.size+2,0,none⟩) (ax v).length (ax v).length (ax v)∧Below w.heap.size w w'∧w.heap.size+2<w'.heap.size:=by
 go_enter Tryz.func325,Tryz.ntmps325
 go_wp2
 go_loopw [0,4] (fun x i wr=>∃(k:Nat)(V:Int)(pre:List Int),k≤9∧i=.int .i64 k∧x=.int .u64 V∧pre.length=k∧0≤V∧V<18446744073709551616∧V*128 ^ k<18446744073709551616∧ax v=pre++uv (9-k) V∧(∀z∈pre,0≤z∧z≤255) ∧
   wr.ownsRow w.heap.size 379 1 (.slice (some ⟨w.heap.size,0,none⟩) 10 10) 10 ((pre++List.replicate (10-k) 0).map (Value.int .u8))∧Below w.heap.size w wr∧wr.heap.size=w.heap.size+1) (fun x _ _=>(intOf x).toNat)
 case atStart =>
  exact⟨0,v,[],ae,rfl,rfl,rfl,h0,h1,rx,rfl,ar,World.ownsRow_lit w _ 10 (Nat.le_refl _) aj rfl,(Below.refl _ _).alloc (Nat.le_refl _) _,ar⟩
 case round =>
  obtain⟨k,V,pre,hk,rfl,rfl,hpl,hV0,hV1,hroom,huv,hpr,hown,hb,hsz⟩:=hrel
  have hcl:∃u,wr.cell? ⟨w.heap.size,k,none⟩=some u:=by
   have:=hown.cellAt k ae
   exact⟨_,this.trans (aO (by simp[hpl]; omega))⟩
  obtain⟨u0,hcl⟩:=hcl;have hfz:=hown.frozenAt k
  have HS:=hid (fun c=>Ho c hk hpl hown hb)
  have HU:=hid huv;have HP:=hid hpl;have HR:=hid hroom;clear huv hown hb hpl hroom
  by_cases h128:128≤V
  ·have hk8:=room_end V k HR.out hk h128;have hand:=Qy hV0 hV1;have hor:=Re (c:=V%128) ae ae
   have HN:=hid (show ax v=(pre++[V%128+128])++uv (9-(k+1)) (V / 128) by
    rw[HU.out,show 9-k=9-(k+1)+1 by omega]
    have hn:¬V<128:=ae
    simp[uv,hn])
   go_wp2;have R:=HS.out (V%128+128)
   refine⟨⟨k+1,V / 128,pre++[V%128+128],ae,il,rfl,by simp[HP.out],ae,ae,MU V k HR.out hV0,HN.out,?_,R.1,R.2,by simp[hsz]⟩,ij⟩
   intro z hz;exact Em
  ·have hsl:=vw w.heap.size k hk
   have HF:=hid (show ax v=pre++[V] by
    rw[HU.out]
    cases h9:9-k with
    | zero=>rfl
    | succ f =>
     have hn:V<128:=ae
     simp[uv,hn])
   have HJ:=hid (zu hk HP.out hV0 ae HF.out hpr (HS.out V).1 (HS.out V).2 (by simp[hsz]))
   go_wp2_with (first | (go_at_call 329; refine HJ.out.mono ?_; rintro e w' ⟨rfl,hseg,hbl,hz⟩))
   go_ret;exact⟨rfl,hseg,hbl,hz⟩
end Go.Proofs.YtheefojaplnnoaaGreatDoor

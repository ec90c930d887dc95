/-
  Texts TLett TEach Heap Own Sh Code Plain ReadA ReadB ReadC Eq Join Uvar Write WText TPure Mo Grow Wr Wm Va.
-/
import Derived.ArgAppend
import Derived.Below
import Derived.BigQuiet
import Derived.ChangeArms
import Derived.ChangeMaps5
import Derived.ChangeOld
import Derived.Deep.AppendLies
import Derived.Deep.AppendSrc
import Derived.Deep.CutRange
import Derived.Deep.DeepHandedRow
import Derived.Deep.OwnRows
import Derived.Deep.QuietTactic
import Derived.Deep.RegionHeld
import Derived.Deep.RegionHeld3
import Derived.Deep.RegionWith
import Derived.Deep.Strs
import Derived.Defers
import Derived.FnData
import Derived.KernelRfl
import Derived.LaidMore
import Derived.Laws.AppendOwnNone
import Derived.Laws.BitsAllLaws
import Derived.Laws.BytesArg
import Derived.Laws.CopyRow
import Derived.Laws.IdiomCopy
import Derived.Lay
import Derived.Lib.Bytealg
import Derived.Lib.CutLaws
import Derived.Lib.SlBytesConst
import Derived.LoopIn
import Derived.LoopNIn
import Derived.OpenShut
import Derived.OrdersHeld
import Derived.OwnWalkIn
import Derived.ProofKit
import Derived.RangeFuncBox
import Derived.RangeFuncCalls
import Derived.RangeFuncLeaves
import Derived.RangeFuncWrites
import Derived.Recover
import Derived.RegionDies
import Derived.RowKit
import Derived.SevenTiedAt
import Derived.Shelf.Abstract
import Derived.Shelf.LaysM
import Derived.Shelf.RegionOpen
import Derived.Shelf.Strings.Prefix
import Derived.Shelf.Strings.Search1
import Derived.Shelf.Strings.Search2
import Derived.Shelf.Strings.Search3
import Derived.Shelf.Strings.Shaped
import Derived.Shelf.Unicode.DecodeSlow
import Derived.ShutString
import Derived.SizedLaws
import Derived.Stop.Joined
import Derived.Stop.LaidErr
import Derived.TacticsInMore
import Derived.WalkKit
import Derived.WalkLawsBesides
import Derived.WalkMore
import Derived.WalkSpells
import Derived.Test.YtepcmfegggdjfaaGreatDoorProg
set_option linter.unusedVariables false
set_option maxRecDepth 100000
set_option maxHeartbeats 16000000
namespace Go.Proofs.YtepcmfegggdjfaaGreatDoor
open Go.Proofs.Tryz
open Go.RowKit
abbrev OAz:=Option Addr
abbrev BAz:=ByteArray
abbrev LIz:=List Int
abbrev AVz:=Array Value
abbrev NIz:=Nat->Int
theorem hZn(w:World)(o:Obj):(w.alloc o).heap[w.heap.size]? =some o:=heap_alloc_new w o
variable {n:Nat}
theorem lRn  : n<=n:=Nat.le_refl n
variable {P:Prop}
theorem ae(h:P:=by omega):P:=h
theorem ar(h:P:=by kernel_rfl):P:=h
theorem aw(h:P:=by simp):P:=h
theorem aA(h:P:=by decide):P:=h
theorem aG(h:P:=by simp[go_sem]):P:=h
theorem aK(h:P:=by simp; omega):P:=h
theorem bJ(h:P:=by assumption):P:=h
theorem bH(h:P:=by go_num):P:=h
theorem bI(h:P:=by simp[intOf]; omega):P:=h
theorem cj(h:P:=by decide +kernel):P:=h
theorem bV(h:P:=by rfl):P:=h
theorem cm(h:P:=by cases h):P:=h
theorem cz(h:P:=by rw[hc]; rfl):P:=h
theorem cP(h:P:=by rw[HV.out]; rfl):P:=h
theorem dA(h:P:=by unfold maxLen; omega):P:=h
theorem dC(h:P:=by simp <;> omega):P:=h
theorem eJ(h:P:=by unfold Addr.add; split <;> simp_all):P:=h
theorem eU(h:P:=by have:=B1.out.size; omega):P:=h
theorem eP(h:P:=by unfold wrap64; omega):P:=h
theorem fL(h:P:=by rw[List.length_append]; omega):P:=h
theorem gi(h:P:=by simp[results,results55,go_sem]):P:=h
theorem fZ(h:P:=by simp at h):P:=h
theorem gJ(h:P:=by simpa using W2.out):P:=h
theorem il(h:P:=by simpa using h1):P:=h
theorem gY(h:P:=by rw[<- hW0]; simp[go_sem]):P:=h
theorem gX(h:P:=by simpa using h0):P:=h
theorem ij(h:P:=by rw[ByteArray.size_extract]; omega):P:=h
theorem iA(h:P:=by exact block_lt_of_cell hA):P:=h
theorem iC(h:P:=by simp only; omega):P:=h
theorem iz(h:P:=by rw[hc]; decide):P:=h
theorem iD(h:P:=by first | omega | (simp; omega)):P:=h
theorem i6(h:P:=by simp[results,results33,go_sem]):P:=h
theorem iT(h:P:=by cases e):P:=h
theorem ji(h:P:=by rw[List.length_take]; omega):P:=h
theorem jl(h:P:=by simp only[List.length_append]; omega):P:=h
theorem jq(h:P:=by unfold rwE; simp):P:=h
theorem jm(h:P:=by unfold rwS; simp):P:=h
theorem jk(h:P:=by rw[hs]; rfl):P:=h
theorem kQ(h:P:=by simp[Addr.add]):P:=h
theorem kJ(h:P:=by simpa using h):P:=h
theorem lg(h:P:=by rw[ai h1]; rfl):P:=h
theorem mD(h:P:=by have:=HNE.out b off c h; simp; omega):P:=h
theorem mH(h:P:=by rw[hE]; exact h0):P:=h
theorem mF(h:P:=by simp[IntKind.wrap,IntKind.bits,IntKind.signed]; omega):P:=h
theorem mB(h:P:=by have:=az hi; simp at this; omega):P:=h
theorem mP(h:P:=by simpa using h4):P:=h
theorem mG(h:P:=by simp[z0]):P:=h
theorem na(h:P:=by show p.1.size<=_; omega):P:=h
theorem mA(h:P:=by cases x):P:=h
theorem mS(h:P:=by simpa using HBy.out):P:=h
theorem pk(h:P:=by simpa[Value.ownBlock] using hb):P:=h
theorem rZ(h:P:=by rw[hOf]; decide):P:=h
theorem pz(h:P:=by simpa using h6):P:=h
theorem pG(h:P:=by rw[hz2]; omega):P:=h
theorem pj(h:P:=by exact block_lt_of_cell hO):P:=h
theorem o9(h:P:=by simpa using hY):P:=h
theorem oY(h:P:=by simpa using hE):P:=h
theorem po(h:P:=by rw[hm]; rfl):P:=h
theorem pK(h:P:=by simp[results,results79,go_sem]):P:=h
theorem pC(h:P:=by simpa using hc5):P:=h
theorem pJ(h:P:=by simpa using hc6):P:=h
theorem pL(h:P:=by have h1:=az hj; rw[List.getElem?_take]at hj; split at hj; exact hj; cases hj):P:=h
theorem rL(h:P:=by have e:k=V0.heap.size:=e; omega):P:=h
theorem sK(h:P:=by rw[HR.out]; rfl):P:=h
theorem NV(h:P:=by rw[her]; decide):P:=h
theorem tV(h:P:=by rw[<- HE.out,Fe h0]):P:=h
theorem sH(h:P:=by dsimp only; omega):P:=h
theorem sV(h:P:=by rw[List.length_append,List.length_append]; omega):P:=h
theorem sy(h:P:=by simpa using h5):P:=h
theorem sD(h:P:=by rw[ho,World.cell?_alloc_new]; rfl):P:=h
theorem tQ(h:P:=by simp[results,results78,go_sem]):P:=h
theorem tJ(h:P:=by rw[hc]; omega):P:=h
theorem vB(h:P:=by have e0:=My (l:=m.types) PT.out.1; have e1:=H6 (l:=m.fns) PF.out.1; have e2:=Mh (l:=m.data) PD.out.1; have e3:=Ks (l:=m.exps) PE.out.1; have f1:=HF1.out; have f2:=HF2.out; have f3:=HF3.out; have f4:=HF4.out; omega):P:=h
theorem vr(h:P:=by rw[hx]at hk; simpa using hk):P:=h
theorem wy(h:P:=by exact Nat.lt_of_lt_of_le hlt hB):P:=h
theorem wV(h:P:=by simp[results,results216,go_sem]):P:=h
theorem wE(h:P:=by simpa[List.append_assoc] using hw'):P:=h
theorem vX(h:P:=by simpa using hi):P:=h
theorem xU(h:P:=by rw[hW0,World.cell?_alloc_new]; rfl):P:=h
theorem vz(h:P:=by congr 1; omega):P:=h
theorem xw(h:P:=by first | rfl | exact d):P:=h
theorem yw(h:P:=by simpa using hx):P:=h
theorem wU(h:P:=by simpa using z0):P:=h
theorem wK(h:P:=by have:=pQ hp; rw[this]at c2; omega):P:=h
theorem wD(h:P:=by have:=h.lt; omega):P:=h
theorem xB(h:P:=by rw[<- pt.1]; exact az hP):P:=h
theorem yu(h:P:=by have:=hM.g64; omega):P:=h
theorem wL(h:P:=by simpa[Value.ownBlock] using hx):P:=h
theorem ye(h:P:=by intro e; omega):P:=h
theorem uZ(h:P:=by simpa using hO):P:=h
theorem xo(h:P:=by rw[hcO]; exact h5):P:=h
theorem wN(h:P:=by rw[hcO]; exact h6):P:=h
theorem wh(h:P:=by rw[ByteArray.size_append]; omega):P:=h
theorem xq(h:P:=by have:=HCX.out; omega):P:=h
theorem wm(h:P:=by simp[results,results14,go_sem]):P:=h
theorem xN(h:P:=by rw[<- h,List.take_length]):P:=h
theorem vq(h:P:=by simp[results,results9,go_sem]):P:=h
theorem uL(h:P:=by rw[<- h.tyl]; exact az hp):P:=h
theorem xW(h:P:=by have:=JI hen; rw[ByteArray.size_extract]at this; omega):P:=h
theorem xY(h:P:=by have:=hb5 _ hb; omega):P:=h
theorem vR(h:P:=by rw[<- HE.out]; simp):P:=h
theorem vU(h:P:=by rw[List.getElem?_take_of_lt hik]; exact hi):P:=h
theorem vG(h:P:=by rw[if_pos hw]; exact h K hK):P:=h
theorem vT(h:P:=by have:=hne b off c h; simp; omega):P:=h
theorem xP(h:P:=by exact block_lt_of_cell f2):P:=h
theorem wQ(h:P:=by simp[Value.ownBlock]at hB; simp; omega):P:=h
theorem uX(h:P:=by rw[<- hln]; exact az hq):P:=h
theorem vK(h:P:=by intro h0; rw[h0]at h; cases h):P:=h
theorem xh(h:P:=by rw[e,h1']at hO; cases hO):P:=h
theorem yg(h:P:=by rw[hcO]; simpa using hO):P:=h
theorem wZ(h:P:=by rw[hop,World.cell?_alloc_new]; rfl):P:=h
theorem wH(h:P:=by simp[results,results21,go_sem]):P:=h
theorem vw(h:P:=by rw[hce]; exact HX.out):P:=h
theorem ym(h:P:=by have h:k=w.heap.size+1:=h; omega):P:=h
theorem vI(h:P:=by simp[results,results97,go_sem]):P:=h
theorem xp(h:P:=by simp[Value.ownBlock]):P:=h
theorem vd(h:P:=by rw[H.los]; exact dz LO):P:=h
theorem yr(h:P:=by rw[hst1]at ht; exact ht):P:=h
theorem xA(h:P:=by rw[hbk]; simp; omega):P:=h
theorem yi(h:P:=by simp[results,results8,go_sem]):P:=h
theorem DZ(h:P:=by obtain⟨z,_,rfl⟩:=List.mem_map.1 hv; rfl):P:=h
theorem Eo(h:P:=by rw[hW0]; exact(Below.refl _ _).alloc lRn _):P:=h
theorem Ey(h:P:=by show ¬w1.heap.size=w.heap.size+1; omega):P:=h
theorem Ef(h:P:=by have:=VL.out.g_lt; have:=V6.out.g_lt; omega):P:=h
theorem GN(h:P:=by unfold DataW.weights; exact List.mem_singleton.2 rfl):P:=h
theorem FU(h:P:=by have:=az hq; rw[hm.pt.1]at this; omega):P:=h
theorem DW(h:P:=by show(lsD g.m g.xs g.Q pc 7 (g.xs.getD pc dx).a (g.xs.getD pc dx).l).1.size<=_; omega):P:=h
theorem EA(h:P:=by show wT.size<=_; have:wT.size=1:=rfl; omega):P:=h
theorem FD(h:P:=by show(ltD g.m (g.P++g.lo) 20 (g.xs.getD pc dx).a).1.size<=_; omega):P:=h
theorem ER(h:P:=by rw[h.ow pc hp]; exact rh hp J.opt _ (fun _ x=>x)):P:=h
theorem Et(h:P:=by first | (rw[HW64.out]; simp[intOf]; omega) | (simp[intOf]; omega)):P:=h
theorem Hl(h:P:=by rw[<- hz1]; exact ai (hZn _ _)):P:=h
theorem Hn(h:P:=by unfold e4 iV at h4; split at h4; cases h4; omega):P:=h
theorem Fl(h:P:=by have:=(Cq HO5.out hb.symm).1; omega):P:=h
theorem bu(h:P:=by rw[hb1.cell aw]; simp[go_sem]):P:=h
theorem fW(h:P:=by first | assumption | exact ag (zZ _ _) bJ):P:=h
theorem qP(h:P:=by rw[<- HT.out.rest,Hd hlt NV,her]):P:=h
theorem vS(h:P:=by unfold tyD; rw[if_neg ae,if_neg ae]):P:=h
theorem FV(h:P:=by rw[eW p 256 8 ae s1]; exact l1):P:=h
theorem GP(h:P:=by rw[HK.out,List.drop_eq_nil_of_le ae]; trivial):P:=h
theorem He(h:P:=by rw[eW lo 256 64 ae ae]; exact hlt):P:=h
theorem GI(h:P:=by have q:=F6.out b off c hb'; exact⟨ae,q.2.1,ae⟩):P:=h
theorem F8(h:P:=by have q:=HM.out.ff.at TL.out.s b off c hb'; have q2:=HM.out.ff b off c hb'; have:=TL.out.s.size; exact⟨q.1,q.2,ae⟩):P:=h
theorem Es(h:P:=by unfold er; rw[if_neg rZ,if_pos hO5,hs]):P:=h
theorem Em(h:P:=by unfold er; rw[hcO,if_pos hO,if_neg ae]):P:=h
variable {i:Nat}
theorem aY{α:Type _}{l:List α}(h:i<l.length):l[i]? =some l[i]:=List.getElem?_eq_getElem h
theorem Qx(h:P:=by
  clear hlt;go_wp2_with fail
  go_loopw [3,5] (fun s i wr=>∃k z:Nat,k<=m.fn/\s=.int .i64 (z:Nat)/\i=.int .i64 k/\(∃q,wr=W0.drewN q)/\z<=1125899906842624/\Hid (z1+ke (m.fns.take k)<=z)) (fun _ i _=>m.fn-(intOf i).toNat)
  case atStart=>exact⟨0,z1,ae,rfl,rfl,⟨_,rfl⟩,ae,hid (by simp[ke])⟩
  case round =>
   obtain⟨k,z2,hk,rfl,rfl,⟨q2,rfl⟩,hz2,HF2⟩:=hrel
   by_cases hlt:k<m.fn
   ·have hlt':(k:Int)<(m.fn:Int):=ae
    by_cases hbd:z2<=2147483647
    ·obtain⟨x,hxk⟩:∃x,m.fns[k]? =some x:=⟨_,aY (by rw[PF.out.1]; exact hlt)⟩
     obtain⟨b,off,hfa,hat⟩:=PF.out.2.resolve_left ae;have hat:=hat k x hxk;have hu:=UF.out k x hxk;have hk0:(0:Int)<=(k:Int):=ae;have hbd':(z2:Int)<=2147483647:=ae;have hbq:decide ((z2:Int)<=2147483647)=true:=decide_eq_true hbd';rw[hfa]at m5;obtain⟨_,g0,g1⟩:=hat;have H29:Hid (∀n,Calls prog 13 #[.slice x.2.2.1.1 x.2.2.1.2.1 x.2.2.1.2.2] (W0.drewN (q2+n)) fun e w''=>e=.returned (.int .i64 (szG x.2.2.2 x.2.2.1.2.1:Nat))/\∃n',w''=W0.drewN (q2+n')):=hid (fun(n:Nat)=>(PM x.2.2.1.1 x.2.2.1.2.1 x.2.2.1.2.2 x.2.2.2 (W0.drewN (q2+n)) hu.2.1 ((PI.out k x hxk).kept (aP (S:=fun _=>False) (below_drewN W0 (q2+n))) (fun _ _ _ _=>id)) hu.2.2.2).mono fun e w' ⟨he,q,hq⟩=>⟨he,n+q,by rw[hq,World.drewN_drewN,Nat.add_assoc]⟩);have hsg:=FH x.2.2.2 x.2.2.1.2.1 hu.2.2.2 ae;have hsl:((szG x.2.2.2 x.2.2.1.2.1:Nat):Int)<=281474976710656:=ae;rw[hfa];go_wp2_with fail
     go_quiet ((go_at_call 13; exact H29.out _))
     go_wp2_with fail;exact⟨⟨k+1,z2+x.2.1.size+szG x.2.2.2 x.2.2.1.2.1,ae,bH,bH,⟨_,rfl⟩,ae,hid (by have:=HF2.out; rw[A9 hxk]; omega)⟩,bI⟩
    have hbd':¬(z2:Int)<=2147483647:=ae;have hbq:decide ((z2:Int)<=2147483647)=false:=decide_eq_false hbd';clear hlt;go_wp2_with fail
    go_loopw [3,6] (fun s i wr=>∃k z:Nat,k<=m.dn/\s=.int .i64 (z:Nat)/\i=.int .i64 k/\(∃q,wr=W0.drewN q)/\z<=1125899906842624/\Hid (z2+pF (m.data.take k)<=z)) (fun _ i _=>m.dn-(intOf i).toNat)
    case atStart=>exact⟨0,z2,ae,rfl,rfl,⟨_,rfl⟩,ae,hid (by simp[pF])⟩
    case round =>
     obtain⟨k,z3,hk,rfl,rfl,⟨q3,rfl⟩,hz3,HF3⟩:=hrel
     by_cases hlt:k<m.dn
     ·exact Gf
     obtain rfl:k=m.dn:=ae;clear hlt;go_wp2_with fail
     go_loopw [3,7] (fun s i wr=>∃k z:Nat,k<=m.en/\s=.int .i64 (z:Nat)/\i=.int .i64 k/\(∃q,wr=W0.drewN q)/\z<=1125899906842624/\Hid (z3+mR (m.exps.take k)<=z)) (fun _ i _=>m.en-(intOf i).toNat)
     case atStart=>exact⟨0,z3,ae,rfl,rfl,⟨_,rfl⟩,ae,hid (by simp[mR])⟩
     case round =>
      obtain⟨k,z4,hk,rfl,rfl,⟨q4,rfl⟩,hz4,HF4⟩:=hrel
      by_cases hlt:k<m.en
      ·exact GH
      obtain rfl:k=m.en:=ae;exact Gn
   obtain rfl:k=m.fn:=ae;clear hlt;go_wp2_with fail
   go_loopw [3,6] (fun s i wr=>∃k z:Nat,k<=m.dn/\s=.int .i64 (z:Nat)/\i=.int .i64 k/\(∃q,wr=W0.drewN q)/\z<=1125899906842624/\Hid (z2+pF (m.data.take k)<=z)) (fun _ i _=>m.dn-(intOf i).toNat)
   case atStart=>exact⟨0,z2,ae,rfl,rfl,⟨_,rfl⟩,ae,hid (by simp[pF])⟩
   case round =>
    obtain⟨k,z3,hk,rfl,rfl,⟨q3,rfl⟩,hz3,HF3⟩:=hrel
    by_cases hlt:k<m.dn
    ·exact Gf
    obtain rfl:k=m.dn:=ae;clear hlt;go_wp2_with fail
    go_loopw [3,7] (fun s i wr=>∃k z:Nat,k<=m.en/\s=.int .i64 (z:Nat)/\i=.int .i64 k/\(∃q,wr=W0.drewN q)/\z<=1125899906842624/\Hid (z3+mR (m.exps.take k)<=z)) (fun _ i _=>m.en-(intOf i).toNat)
    case atStart=>exact⟨0,z3,ae,rfl,rfl,⟨_,rfl⟩,ae,hid (by simp[mR])⟩
    case round =>
     obtain⟨k,z4,hk,rfl,rfl,⟨q4,rfl⟩,hz4,HF4⟩:=hrel
     by_cases hlt:k<m.en
     ·exact GH
     obtain rfl:k=m.en:=ae;clear hlt;go_wp2_with fail;go_ret;exact⟨z4,rfl,BW.out.trans (BW2.out _),fun h4=>vB⟩
 ):P:=h
theorem QO(h:P:=by
  obtain⟨j,ys,aa,ac,g3,cap3,hj,rfl,rfl,hyl,hys,hrow,hab,hwr,hst⟩:=hrel;have HY:=hid hys;have HRW:=hid hrow;have HAB:=hid hab;have HWR:=hid hwr;have HST:=hid hst;clear hys hrow hab hwr hst W2 S2;have hlt:j<n:=ae;obtain⟨x,hx⟩:∃x,xs[j]? =some x:=⟨_,aY ae⟩;obtain⟨b,off,rfl,hcell⟩:=(HM.out.kept HST.out.k (fun b off c h=>mD)).2.resolve_left ae;have hcj:=hcell j x hx;have hbl:=block_lt_of_cell hcj.1;clear hcell;obtain⟨v0,v1,v2⟩:=hcj;have BN:=hid (aj wr (cL x))
  by_cases hjk:j<k
  ·exact FJ
  obtain rfl:j=k:=ae;obtain rfl:x=xk:=vr;have HC1:=hid (HN.out ys (wr.alloc (cL x)) g3 cap3 aa ac hyl HY.out (HST.out.trans (Stp.of_below BN.out)) (HWR.out.later BN.out) (br HRW.out (fun B hB=>BN.out.block B (aW HRW.out hB))) HAB.out)
  go_wp2_with fail;refine HC1.out.mono ?_;rintro e w5⟨⟨p,rfl⟩,hk5⟩;exact⟨rfl,⟨p,rfl⟩,(HST.out.trans (Stp.of_below BN.out)).throw hk5⟩
 ):P:=h
theorem NL(h:P:=by
  obtain⟨j,ys,aa,ac,g3,cap3,hj,rfl,rfl,hyl,hys,hrow,hab,hwr,hst⟩:=hrel;have HY:=hid hys;have HRW:=hid hrow;have HAB:=hid hab;have HWR:=hid hwr;have HST:=hid hst;clear hys hrow hab hwr hst W2 S2;have hlt:j<n:=ae;obtain⟨x,hx⟩:∃x,xs[j]? =some x:=⟨_,aY ae⟩;obtain⟨b,off,rfl,hcell⟩:=(HM.out.kept HST.out.k (fun b off c h=>mD)).2.resolve_left ae;have hcj:=hcell j x hx;have hbl:=block_lt_of_cell hcj.1;clear hcell;obtain⟨v0,v1⟩:=hcj;have BN:=hid (aj wr (cL x))
  by_cases hjk:j<k
  ·exact FJ
  obtain rfl:j=k:=ae;obtain rfl:x=xk:=vr;have HC1:=hid (HN.out ys (wr.alloc (cL x)) g3 cap3 aa ac hyl HY.out (HST.out.trans (Stp.of_below BN.out)) (HWR.out.later BN.out) (br HRW.out (fun B hB=>BN.out.block B (aW HRW.out hB))) HAB.out)
  go_wp2_with fail;refine HC1.out.mono ?_;rintro e w5⟨⟨p,rfl⟩,hk5⟩;exact⟨rfl,⟨p,rfl⟩,(HST.out.trans (Stp.of_below BN.out)).throw hk5⟩
 ):P:=h
theorem Ox(h:P:=by
  refine(gD _ _).mono ?_;rintro e w2⟨rfl,hw2⟩;obtain rfl:=hw2.symm;have f17:=HC.out.free 17;go_wp2_with fail;have HC1:=hid (HC.out.putDead hA false);have y0:=aU (i:=17) (x:=.bool false) x0 hX.1;have y1:=aU (i:=17) (x:=.bool false) x1 hX.1;have y2:=aU (i:=17) (x:=.bool false) x2 hX.1;clear c17 f17 x0 x1 x2 HC;generalize W0.setCell ⟨v.C,17,none⟩ (.bool false)=W1 at *;have c9:=HC1.out.shc;have c16:W1.cell? ⟨v.C,16,none⟩=some (.int .i64 s.pc):=HC1.out.pc;have c15:W1.cell? ⟨v.C,15,none⟩=some (.string s.st):=HC1.out.st;have p0:(0:Int)<=(s.pc:Int):=ae
  have p1:(s.pc:Int)<(v.n:Int):=by have:=hk.pn; omega
  obtain⟨u,hu⟩:∃u,W1.cell? ⟨v.SH,s.pc,none⟩=some u:=by
   rw[HC1.out.sh.cell s.pc hk.pn];exact⟨_,aY (by simp[hsl]; exact hk.pn)⟩
  have fs:=HC1.out.sh.free s.pc
  go_region
  have HC2:=hid (show CI v w1 (W1.setCell ⟨v.SH,s.pc,none⟩ (.string s.st)).drew _ from(HC1.out.putSh hA s.pc s.st).later hA (below_drewN _ 1));have z0:(W1.setCell ⟨v.SH,s.pc,none⟩ (.string s.st)).drew.cell? ⟨w.heap.size,0,none⟩=_:=ag (below_drewN _ 1) (aU (i:=s.pc) (x:=.string s.st) y0 hX.2.1);have z1:(W1.setCell ⟨v.SH,s.pc,none⟩ (.string s.st)).drew.cell? ⟨w.heap.size,1,none⟩=_:=ag (below_drewN _ 1) (aU (i:=s.pc) (x:=.string s.st) y1 hX.2.1);have z2:(W1.setCell ⟨v.SH,s.pc,none⟩ (.string s.st)).drew.cell? ⟨w.heap.size,2,none⟩=_:=ag (below_drewN _ 1) (aU (i:=s.pc) (x:=.string s.st) y2 hX.2.1);clear c9 c16 c15 hu fs y0 y1 y2 HC1;go_wp2_with fail;generalize (W1.setCell ⟨v.SH,s.pc,none⟩ (.string s.st)).drew=W2 at *;have c12:=HC2.out.flc;have c16:W2.cell? ⟨v.C,16,none⟩=some (.int .i64 s.pc):=HC2.out.pc;have cf:=HC2.out.fl.cell s.pc hk.pn;have ff:=HC2.out.fl.free s.pc
  go_region
  have HC3:=hid (show CI v w1 (W2.setCell ⟨v.FL,s.pc,none⟩ (.int .i64 (-1))).drew _ from(HC2.out.putFl hA s.pc (-1)).later hA (below_drewN _ 1));have y0:(W2.setCell ⟨v.FL,s.pc,none⟩ (.int .i64 (-1))).drew.cell? ⟨w.heap.size,0,none⟩=_:=ag (below_drewN _ 1) (aU (i:=s.pc) (x:=.int .i64 (-1)) z0 hX.2.2);have y1:(W2.setCell ⟨v.FL,s.pc,none⟩ (.int .i64 (-1))).drew.cell? ⟨w.heap.size,1,none⟩=_:=ag (below_drewN _ 1) (aU (i:=s.pc) (x:=.int .i64 (-1)) z1 hX.2.2);have y2:(W2.setCell ⟨v.FL,s.pc,none⟩ (.int .i64 (-1))).drew.cell? ⟨w.heap.size,2,none⟩=_:=ag (below_drewN _ 1) (aU (i:=s.pc) (x:=.int .i64 (-1)) z2 hX.2.2);clear c12 c16 cf ff z0 z1 z2 HC2;go_wp2_with fail;generalize (W2.setCell ⟨v.FL,s.pc,none⟩ (.int .i64 (-1))).drew=W3 at *;have c13:W3.cell? ⟨v.C,13,none⟩=some (.int .i64 s.hi):=HC3.out.hi;have c15:W3.cell? ⟨v.C,15,none⟩=some (.string s.st):=HC3.out.st;have f13:=HC3.out.free 13
  go_region
  have hmax:((max s.hi s.st.size:Nat):Int)=max (s.hi:Int) (s.st.size:Int):=ae
  have HC4:=hid (show CI v w1 (W3.setCell ⟨v.C,13,none⟩ (.int .i64 (max (s.hi:Int) (s.st.size:Int)))).drew (fI s) by
   rw[<- hmax]; exact(HC3.out.putHi hA (max s.hi s.st.size)).later hA (below_drewN _ 1))
  have z0:(W3.setCell ⟨v.C,13,none⟩ (.int .i64 (max (s.hi:Int) (s.st.size:Int)))).drew.cell? ⟨w.heap.size,0,none⟩=_:=ag (below_drewN _ 1) (aU (i:=13) (x:=.int .i64 (max (s.hi:Int) (s.st.size:Int))) y0 hX.1);have z1:(W3.setCell ⟨v.C,13,none⟩ (.int .i64 (max (s.hi:Int) (s.st.size:Int)))).drew.cell? ⟨w.heap.size,1,none⟩=_:=ag (below_drewN _ 1) (aU (i:=13) (x:=.int .i64 (max (s.hi:Int) (s.st.size:Int))) y1 hX.1);have z2:(W3.setCell ⟨v.C,13,none⟩ (.int .i64 (max (s.hi:Int) (s.st.size:Int)))).drew.cell? ⟨w.heap.size,2,none⟩=_:=ag (below_drewN _ 1) (aU (i:=13) (x:=.int .i64 (max (s.hi:Int) (s.st.size:Int))) y2 hX.1);clear c13 c15 f13 y0 y1 y2 HC3 hmax;go_wp2_with fail;generalize (W3.setCell ⟨v.C,13,none⟩ (.int .i64 (max (s.hi:Int) (s.st.size:Int)))).drew=W4 at *;refine(HR.out _ HC4.out).mono ?_;rintro e w9 (⟨e0,rfl,hc⟩ | ⟨e0,rfl,hb⟩)
  ·have HC9:=hid hc;clear hc;go_wp2_with fail;go_end0;exact .inl ⟨e0,rfl,HC9.out⟩
  exact⟨rfl,.inr ⟨e0,rfl,hb⟩⟩
 ):P:=h
theorem Qz(h:P:=by
  obtain⟨j,ys,aa,ac,g3,cap3,hj,rfl,rfl,hyl,hys,hrow,hab,hwr,hst⟩:=hrel;have HY:=hid hys;have HRW:=hid hrow;have HAB:=hid hab;have HWR:=hid hwr;have HST:=hid hst;clear hys hrow hab hwr hst W2 S2
  by_cases hlt:j<n
  ·obtain⟨x,hx⟩:∃x,xs[j]? =some x:=⟨_,aY ae⟩
   obtain⟨b,off,rfl,hcell⟩:=(HM.out.kept HST.out.k (fun b off c h=>mD)).2.resolve_left ae;have hcj:=hcell j x hx;have hbl:=block_lt_of_cell hcj.1;clear hcell;obtain⟨v0,v1,v2⟩:=hcj;exact GC
  obtain rfl:j=n:=ae;have hxs:xs.take j=xs:=List.take_of_length_le ae;go_wp2_with fail;go_ret;refine⟨aa,ac,ys,rfl,hyl,HY.out,HRW.out,g3,cap3,HAB.out,?_,HST.out⟩;rw[<- hxs];exact HWR.out
 ):P:=h
theorem Ns(h:P:=by
  obtain⟨j,ys,aa,ac,g3,cap3,hj,rfl,rfl,hyl,hys,hrow,hab,hwr,hst⟩:=hrel;have HY:=hid hys;have HRW:=hid hrow;have HAB:=hid hab;have HWR:=hid hwr;have HST:=hid hst;clear hys hrow hab hwr hst W2 S2
  by_cases hlt:j<n
  ·obtain⟨x,hx⟩:∃x,xs[j]? =some x:=⟨_,aY ae⟩
   obtain⟨b,off,rfl,hcell⟩:=(HM.out.kept HST.out.k (fun b off c h=>mD)).2.resolve_left ae;have hcj:=hcell j x hx;have hbl:=block_lt_of_cell hcj.1;clear hcell;obtain⟨v0,v1⟩:=hcj;exact GC
  obtain rfl:j=n:=ae;have hxs:xs.take j=xs:=List.take_of_length_le ae;go_wp2_with fail;go_ret;refine⟨aa,ac,ys,rfl,hyl,HY.out,HRW.out,g3,cap3,HAB.out,?_,HST.out⟩;rw[<- hxs];exact HWR.out
 ):P:=h
theorem QH(h:P:=by
  refine eF (rs:=[13]) ?_;refine dJ (i:=13) rfl (fun K hK=>?_) rN;go_simp;refine(H18.out _ B8.out _ _ _ _ _ _).mono ?_;rintro e w9⟨LB,R,rfl,hLB,hR,hpl,hrb,hb9⟩;have P0:Hid (w9.heap[LB]? =some (.cells (pgL R N).toArray 49)/\RB .u8 5 w9 R (N*4096) (mW m.data)):=hid ⟨hpl,hrb⟩;have P1:Hid (w4.heap.size<=LB/\w4.heap.size<=R):=hid ⟨Nat.le_trans B8.out.size hLB,Nat.le_trans B8.out.size hR⟩;have B9:=hid (B8.out.trans (hb9.mono B8.out.size));have L0:Hid (RB .u64 53 w9 LO (P.size+ylo.size) (ic zs)):=hid (L0.out.later hb9);have F0:=hid (ak hb9 F0.out);have G0:=hid (G0.out.later hb9);refine hK.out _ _ (HMK.out _ B9.out) (fun _=>?_)
  clear hK K hb9 hLB hR hpl hrb;refine cZ (i:=14) rfl ?_;(try simp only[Act.put,sIB,sC0,sCs]);have kr:=ak B9.out HT4.out.2.1;have a0:=iz0 kr;have f0:=free_at (i:=0) kr;have a1:=iz1 kr;have f1:=free_at (i:=1) kr;have a2:=iz2 kr;have f2:=free_at (i:=2) kr;have a3:=iz3 kr;have f3:=free_at (i:=3) kr;have a4:=iz4 kr;have f4:=free_at (i:=4) kr;have a5:=iz5 kr;have f5:=free_at (i:=5) kr;have a6:=iz6 kr;have f6:=free_at (i:=6) kr;have a7:=iz7 kr;have f7:=free_at (i:=7) kr;have hse:=HMK.out _ B9.out;obtain⟨z1,zk⟩:=Lh (.slice (some ⟨FB,0,none⟩) 1 1) (.slice (some ⟨GB,0,none⟩) m.gn m.gn) (.slice (some ⟨LB,0,none⟩) N N) (.int .i64 0) (.int .i8 1) (.slice none 0 0) (.int .i8 0) (.int .i64 0) kr;have HZ:=hid (And.intro z1 zk);have hS9:=And.intro (zk.cell hse.1 n2) (And.intro (zk.cell hse.2.1 n1) (And.intro (zk.cell hse.2.2.1 n1) (And.intro (zk.cell hse.2.2.2.1 n1) (And.intro (zk.cell hse.2.2.2.2.1 n1) (And.intro (zk.cell hse.2.2.2.2.2.1 n1) (And.intro (zk.cell hse.2.2.2.2.2.2.1 n1) (And.intro (zk.cell hse.2.2.2.2.2.2.2.1 n1) (zk.cell hse.2.2.2.2.2.2.2.2 n1))))))));clear kr z1 zk hse;refine eF (rs:=[15]) ?_
  refine dJ (i:=15) rfl (fun K hK=>?_) rN;go_simp;refine hK.out _ _ hS9 (fun _=>?_)
  clear hK K hS9 a0 f0 a1 f1 a2 f2 a3 f3 a4 f4 a5 f5 a6 f6 a7 f7;refine cZ (i:=16) (oi:={ dst:=some 7,op:=.assign (.const (Go.Value.int Go.IntKind.i64 0)),type:=38,pos:= "instance.go:30",after:=#[⟨15,.chain⟩,⟨0,.phase⟩,⟨1,.phase⟩,⟨2,.phase⟩,⟨3,.phase⟩,⟨4,.phase⟩,⟨5,.phase⟩,⟨6,.phase⟩,⟨7,.phase⟩,⟨8,.phase⟩,⟨9,.phase⟩,⟨10,.phase⟩,⟨11,.phase⟩,⟨12,.phase⟩,⟨13,.phase⟩,⟨14,.phase⟩,⟨15,.phase⟩],guard:=none }) rfl ?_;(try simp only[Act.put,sIB,sC0,sCs]);refine wpAnyH_done ar ?_ _;go_wp2_with fail;exact bodyPost_ret (v:=.tuple #[.agg (tP FB GB LB N m.gn),.int .i64 0]) (LK HZ.out.1 rfl rfl) rfl (F9 HB4.out B9.out HFI.out.1 HFI.out.2.1 HFI.out.2.2.1 HFX.out F0.out F1.out L0.out hLO.out G0.out G1.out P0.out P1.out HZ.out.2 hs2 ae HAT.out)
 ):P:=h
theorem Q3(h:P:=by
  go_wp2_with fail;generalize wr.alloc (bk x.1 x.2.1 x.2.2.1.1 x.2.2.1.2.1 x.2.2.1.2.2)=W at *;have hszW:=BN.out.size;refine HC1.out.mono ?_;rintro e w5⟨y,rfl,hok,g4,cap4,hw5,hs5,hl5⟩;have hgr:g3<wr.heap.size:=HWR.out.g_lt;have hRr:R<wr.heap.size:=HWR.out.lt
  have row5:w5.ownsRow 0 61 3 (.slice aa j ac) j (ys.flatMap mZ):=br HRW.out (fun B hB=>by
   have h1:=aW HRW.out hB;have h2:∃a,aa=some a/\a.block=B:=nD hB;obtain⟨a,ha1,ha2⟩:=h2;have h3:=HAB.out a ha1;have h4:=HST.out.size;exact(hs5.block (b:=B) ae ae ae ae).trans (BN.out.block B h1))
  have gg4:=hw5.g_lt
  have hab5:∀b,aa=some b->b.block≠g4/\b.block<w5.heap.size:=fun a ha1=>by
   exact GY
  have W5:=hid hw5;have S5:=hid (HST.out.trans ((fG.of_below BN.out).trans hs5));have L5:=hid hl5;have hL4:L≠g4:=hs5.ne (by have:=HST.out.size; omega) hlg;have O5:=hid hok;have BN5:=hid (aj w5 (bk y.1 y.2.1 y.2.2.1 y.2.2.2.1 y.2.2.2.2));have R6:=hid (br (w':=w5.alloc (bk y.1 y.2.1 y.2.2.1 y.2.2.2.1 y.2.2.2.2)) row5 (fun B hB=>BN5.out.block B (aW row5 hB)));have HAB5:=hid hab5;have NC:=hid (qu w5 y);have hz6:(w5.alloc (bk y.1 y.2.1 y.2.2.1 y.2.2.2.1 y.2.2.2.2)).heap.size=w5.heap.size+1:=aw;clear hw5 hs5 row5 hab5 HC1 hok hl5
  go_wp2_with (at_builtin; (refine kE _ rfl (.tmp 28) (.tmp 33) 25 rfl 61 i0 _ 3 48 underlying25 hi hz0 hz1 hz2 rfl aA _ j _ rfl R6.out ⟨w5.heap.size,0,none⟩ 1 1 (mZ y) rfl rfl NC.out (qc y) ae dA ae ?_; intro B cap7 w7 hrow7 hor7; have R7:=hid hrow7; have OR7:=hid hor7; clear hrow7 hor7))
  generalize w5.alloc (bk y.1 y.2.1 y.2.2.1 y.2.2.2.1 y.2.2.2.2)=W6 at *
  have hBn:w.heap.size<=B/\B≠g4/\Kept (fun k=>k=B) W6 w7:=by
   exact D7
  have hRw:=S5.out.size
  go_roundw
  ·refine⟨j+1,ys++[y],some ⟨B,0,none⟩,cap7,g4,cap4,ae,rfl,rfl,by simp[hyl],?_,?_,?_,?_,?_,?_,hL4⟩
   ·exact GF
   ·have:=R7.out
    simpa[ir] using this
   ·exact uW
   ·exact Ge
   ·exact GV
   exact(L5.out.later BN5.out).kept hBn.2.2 (by have:=hBn.1; omega)
  simp[intOf]; omega
 ):P:=h
theorem QZ(h:P:=by
  have hszW:=BN.out.size;refine HC1.out.mono ?_;rintro e w5⟨y,rfl,hok,g4,cap4,hw5,hs5⟩;have hgr:g3<wr.heap.size:=HWR.out.g_lt;have hRr:R<wr.heap.size:=HWR.out.lt
  have row5:=br (w':=w5) HRW.out (fun B hB=>by
   have h1:=aW HRW.out hB;have h2:∃a,aa=some a/\a.block=B:=nD hB;obtain⟨a,ha1,ha2⟩:=h2;have h3:=HAB.out a ha1;have h4:=HST.out.size;exact(hs5.block (b:=B) ae ae ae).trans (BN.out.block B h1))
  have gg4:=hw5.g_lt
  have hab5:∀b,aa=some b->b.block≠g4/\b.block<w5.heap.size:=fun a ha1=>by
   exact GY
  have W5:=hid hw5;have S5:=hid (HST.out.trans ((Stp.of_below BN.out).trans hs5));have O5:=hid hok;have BN5:=hid (aj w5 (cM y));have R6:=hid (br (w':=w5.alloc (cM y)) row5 (fun B hB=>BN5.out.block B (aW row5 hB)));have HAB5:=hid hab5;have NC:=hid (nC w5 y);have hz6:(w5.alloc (cM y)).heap.size=w5.heap.size+1:=aw;clear hw5 hs5 row5 hab5 HC1 hok
  go_wp2_with (at_builtin; (refine kE _ rfl (.tmp 28) (.tmp 33) _ rfl _ i0 _ _ _ uN hi hz0 hz1 hz2 rfl aA _ j _ rfl R6.out ⟨w5.heap.size,0,none⟩ 1 1 (oC0 y) rfl rfl NC.out (oC y) ae dA ae ?_; intro B cap7 w7 hrow7 hor7; have R7:=hid hrow7; have OR7:=hid hor7; clear hrow7 hor7))
  generalize w5.alloc (cM y)=W6 at *
  have hBn:w.heap.size<=B/\B≠g4/\Kept (fun k=>k=B) W6 w7:=by
   exact D7
  have hRw:=S5.out.size
  go_roundw
  ·refine⟨j+1,ys++[y],some ⟨B,0,none⟩,cap7,g4,cap4,ae,rfl,rfl,by simp[hyl],?_,?_,?_,?_,?_⟩
   ·exact GF
   ·have:=R7.out
    simpa[ir] using this
   ·exact uW
   ·exact Ge
   exact GV
  simp[intOf]; omega
 ):P:=h
theorem QU(h:P:=by
  refine tkA (i:=18) (d:=some 38) (v:=?_) rfl ar ?_ ?_;rotate_left
  ·exact xd
  (try simp only[Act.put,sIB,sC0,sCs]);refine tkA (i:=19) (d:=some 39) (v:=?_) rfl ar ?_ ?_;rotate_left
  ·exact xd
  try simp only[Act.put,sIB,sC0,sCs]
  refine take_at (i:=20) (d:=some 40) (v:=undef) rfl ar ar ar ar (fun _ _ _ h=>h) (Or.inr ⟨ar,rfl⟩) bJ ?_
  try simp only[Act.put,sIB,sC0,sCs]
  refine take_at (i:=21) (d:=some 41) (v:=undef) rfl ar ar ar ar (fun _ _ _ h=>h) (Or.inr ⟨ar,rfl⟩) bJ ?_
  try simp only[Act.put,sIB,sC0,sCs]
  refine take_at (i:=22) (d:=some 42) (v:=undef) rfl ar ar ar ar (fun _ _ _ h=>h) (Or.inr ⟨ar,rfl⟩) bJ ?_
  try simp only[Act.put,sIB,sC0,sCs]
  refine take_at (i:=23) (d:=some 43) (v:=undef) rfl ar ar ar ar (fun _ _ _ h=>h) (Or.inr ⟨ar,rfl⟩) bJ ?_
  (try simp only[Act.put,sIB,sC0,sCs]);have hS5:=hHeld
  refine take_at (i:=24) (d:=some 44) (v:=undef) rfl ar ar ar ar (fun _ _ _ h=>h) (Or.inr ⟨ar,rfl⟩) bJ ?_
  (try simp only[Act.put,sIB,sC0,sCs]);refine tkA (i:=25) (d:=some 45) (v:=?_) rfl ar ?_ ?_;rotate_left
  ·exact xd
  (try simp only[Act.put,sIB,sC0,sCs]);refine rdY (rs:=[26]) ?_
  refine AllReadyH.cons rfl (fun K hK=>?_) rN;go_simp;refine(gD _ _).mono ?_;rintro e w6⟨rfl,hw6⟩;obtain rfl:=hw6.symm;refine hK.out _ _ hS5 (fun hHeld3=>?_);clear hK K;refine wpAnyH_done ar ?_ _;have HB5:=hid (HB4.out.trans (hS5.2.2.2.2.2.2.mono HB4.out.size));have HC5:=hid (HC.out.later hA HB5.out);clear hS5 hHeld hHeld3 q0 q1 q2 q3 q4 q11 qel q15;obtain⟨OB',oc',k14,_,_,_,_,_⟩:=HC5.out.top hw;have f14:=HC5.out.free 14;have HP:=hid (HC5.out.pop hA hw.len k14)
  have hoc:k+1<=oc':=by
   obtain⟨OB2,oc2,u1,u2,_⟩:=HC5.out.opn;rw[k14]at u1; simp at u1; omega
  have e1:(k:Int)<=(oc':Int):=ae;have hkk:=hw.le;have hwk:IntKind.i64.wrap (k:Int)=(k:Int):=i64_in _ ae ae;have e0:(0:Int)<=(k:Int):=ae;go_wp2_with fail
  go_region
  go_wp2_with fail;go_end0;refine .inl ⟨rfl,rfl,?_,((aP HB5.out).trans (ax _ _ _ _)).trans (Kept.drewN _ _ 1)⟩;rw[HD.out];exact HP.out.later hA (below_drewN _ 1)
 ):P:=h
theorem N5(h:P:=by
  have x1:=iz1 k3;have x2:=iz2 k3;have r3:=iz3 kr;have r4:=iz4 kr;have r5:=iz5 kr;have HB3:=hid (HB2.out.trans (B3.mono HB2.out.size));clear k2 B3 k3 kr hb;clear h;have H7:=hid (HY.out _ HB3.out);have HX:=hid (And.intro x0 (And.intro x1 x2));clear HY;go_wp2_with fail;refine H7.out.mono ?_;rintro e w5⟨rfl,hb5⟩;have HB5:=hid (HB3.out.trans (hb5.mono HB3.out.size));have y0:=ag hb5 HX.out.1;have B6:=aj w5 (aD p1 p2);have k6:=hZn w5 (aD p1 p2);have z0:=ag B6 y0;have s0:=iz0 k6;have s1:=iz1 k6;have HB6:=hid (HB5.out.trans (B6.mono HB5.out.size));clear hb5 B6 k6 y0 x0 x1 x2 r3 r4 r5;go_wp2_with fail
  go_quiet (fail)
  go_wp2_with fail;refine bodyPost_ret (v:=.tuple #[.string p1,.string p1,.int .i64 0]) gi rfl ⟨rfl,?_⟩;exact HB6.out.trans ((below_drewN _ _).mono HB6.out.size)
 ):P:=h
theorem Lv(h:P:=by
  have x1:=iz1 k3;have x2:=iz2 k3;have r3:=iz3 kr;have r4:=iz4 kr;have r5:=iz5 kr;have HB3:=hid (HB2.out.trans (B3.mono HB2.out.size));clear k2 B3 k3 kr hb;clear h;have H7:=hid (HY.out _ HB3.out);have HX:=hid (And.intro x0 (And.intro x1 x2));clear HY;go_wp2_with fail;refine H7.out.mono ?_;rintro e w5⟨rfl,hb5⟩;have HB5:=hid (HB3.out.trans (hb5.mono HB3.out.size));have y0:=ag hb5 HX.out.1;have B6:=aj w5 (aD p1 p2);have k6:=hZn w5 (aD p1 p2);have z0:=ag B6 y0;have s0:=iz0 k6;have s1:=iz1 k6;have HB6:=hid (HB5.out.trans (B6.mono HB5.out.size));clear hb5 B6 k6 y0 x0 x1 x2 r3 r4 r5;go_wp2_with fail
  go_quiet (fail)
  go_wp2_with fail;refine bodyPost_ret (v:=.tuple #[.string p1,.string p2,.int .i64 0]) gi rfl ⟨rfl,?_⟩;exact HB6.out.trans ((below_drewN _ _).mono HB6.out.size)
 ):P:=h
theorem sZ(h:P:=by
  have x1:=iz1 k3;have x2:=iz2 k3;have r3:=iz3 kr;have r4:=iz4 kr;have r5:=iz5 kr;have HB3:=hid (HB2.out.trans (B3.mono HB2.out.size));clear k2 B3 k3 kr hb;clear h;have H7:=hid (HY.out _ HB3.out);have HX:=hid (And.intro x0 (And.intro x1 x2));clear HY;go_wp2_with fail;refine H7.out.mono ?_;rintro e w5⟨rfl,hb5⟩;have HB5:=hid (HB3.out.trans (hb5.mono HB3.out.size));have y0:=ag hb5 HX.out.1;have B6:=aj w5 (aD p1 p2);have k6:=hZn w5 (aD p1 p2);have z0:=ag B6 y0;have s0:=iz0 k6;have s1:=iz1 k6;have HB6:=hid (HB5.out.trans (B6.mono HB5.out.size));clear hb5 B6 k6 y0 x0 x1 x2 r3 r4 r5;go_wp2_with fail;refine bodyPost_ret (v:=.tuple #[.string ⟨#[]⟩,.string ⟨#[]⟩,.int .i64 30]) gi rfl ⟨rfl,?_⟩;exact HB6.out
 ):P:=h
theorem JX(h:P:=by
  have HV:=hid (HI.out ha1 ha2);clear HI HF
  by_cases hz:ln=0
  ·have hz':((ln:Int) != 0)=false:=by simp[hz]
   have HZ:=hid hz;clear hz;go_enter func91,ntmps91
   go_wp2_with fail;refine HO.out.mono ?_;rintro e w1⟨rfl,hb1⟩;have x1:w1.cell? ⟨w.heap.size,1,none⟩=some (.int .i64 a):=bu;have x2:w1.cell? ⟨w.heap.size,2,none⟩=some (.slice la ln lc):=bu;have hx:=block_lt_of_cell x1
   simp only at hx;have B1:=hid (hb0.trans (hb1.mono aw));have B2:=hid (B1.out.alloc eU (aB rc wd 8 pp ps pl));clear hb1;go_wp2_with fail;go_ret;exact⟨by rw[HV.out,if_pos HZ.out]; rfl,B2.out⟩
  have hz':((ln:Int) != 0)=true:=aK;go_enter func91,ntmps91
  go_wp2_with fail;refine HO.out.mono ?_;rintro e w1⟨rfl,hb1⟩;have x1:w1.cell? ⟨w.heap.size,1,none⟩=some (.int .i64 a):=bu;have x2:w1.cell? ⟨w.heap.size,2,none⟩=some (.slice la ln lc):=bu;have hx:=block_lt_of_cell x1
  simp only at hx;have B1:=hid (hb0.trans (hb1.mono aw));have B2:=hid (B1.out.alloc eU (aB rc wd 8 pp ps pl));clear hb1;go_wp2_with fail;go_ret;exact⟨by rw[HV.out,if_neg hz]; rfl,B2.out⟩
 ):P:=h
theorem Nk(h:P:=by
  by_cases k1:(p'.toList==p.toList)=true
  ·have k2:(r'.toList==s.toList)=false:=by rw[k1]at hne; simpa using hne
   clear hne
   go_region_held3 (fun W=>W.cell? ⟨wr.heap.size,0,none⟩=some (.string p')/\W.cell? ⟨wr.heap.size,1,none⟩=some (.string r')/\W.cell? ⟨B,0,none⟩=some (.string p)/\W.cell? ⟨C,0,none⟩=some (.int .i64 beg))
    (first | assumption | exact⟨z0,z1,z2,z3⟩)
    (first
     | (go_at_call 83; refine(cS rfl).mono ?_; rintro e w' ⟨rfl,rfl⟩))
   go_wp2_with fail
   go_roundw
   ·exact GR
   simp[intOf]; omega
  have k1':(p'.toList==p.toList)=false:=by simpa using k1
  clear hne k1
  go_region_held3 (fun W=>W.cell? ⟨wr.heap.size,0,none⟩=some (.string p')/\W.cell? ⟨wr.heap.size,1,none⟩=some (.string r')/\W.cell? ⟨B,0,none⟩=some (.string p)/\W.cell? ⟨C,0,none⟩=some (.int .i64 beg))
   (first | assumption | exact⟨z0,z1,z2,z3⟩)
   (first
    | (go_at_call 83; refine(cS rfl).mono ?_; rintro e w' ⟨rfl,rfl⟩))
  go_wp2_with fail
  go_roundw
  ·exact GR
  simp[intOf]; omega
 ):P:=h
theorem M5(h:P:=by
  have c11:=iz0 k11;have z11:=free_at (i:=0) k11;refine eF (rs:=[14]) ?_;refine dJ (i:=14) rfl (fun K hK=>?_) rN;go_simp;have kk11:(X10.setCell ⟨V0.heap.size,0,none⟩ (.bool b9)).heap[V0.heap.size]? =some (aR b9):=aM (i:=0) (u:=.bool b9) k11;have kk9:=bY (G:=V0.heap.size) (j:=0) (u:=.bool b9) k9 ae;have kk10:=bY (G:=V0.heap.size) (j:=0) (u:=.bool b9) k10 ae
  have sb:(X10.setCell ⟨V0.heap.size,0,none⟩ (.bool b9)).cell? ⟨w.heap.size+1+1,4,none⟩=some (.int .i8 en):=by
   rw[World.cell?_setCell_far _ _ _ _ aK]; assumption
  have bb11:=bb10.trans ((ax X10 V0.heap.size 0 (.bool b9)).to_below bb10.size (fun k hk e=>rL));refine hK.out _ _ sb (fun _=>?_);clear hK K c11 z11 k9 k10 k11;have k9:=kk9;have k10:=kk10;have k11:=kk11;clear kk9 kk10 kk11;generalize X10.setCell ⟨V0.heap.size,0,none⟩ (.bool b9)=X11 at *;refine wpAnyH_done ar ?_ _;go_wp2_with fail
  go_meet
  exact⟨_,_,_,rfl,rfl,rfl,k9,k10,k11,hid bb11⟩
 ):P:=h
theorem MQ(h:P:=by
  have x1:=iz1 k3;have x2:=iz2 k3;have r3:=iz3 kr;have r4:=iz4 kr;have r5:=iz5 kr;have HB3:=hid (HB2.out.trans (B3.mono HB2.out.size));clear k2 B3 k3 kr hb;clear h;have H7:=hid (HY.out _ HB3.out);have HX:=hid (And.intro x0 (And.intro x1 x2));clear HY;go_wp2_with fail;refine H7.out.mono ?_;rintro e w5⟨rfl,hb5⟩;have HB5:=hid (HB3.out.trans (hb5.mono HB3.out.size));have y0:=ag hb5 HX.out.1;clear hb5 x0 x1 x2 r3 r4 r5;go_wp2_with fail;refine bodyPost_ret (v:=.tuple #[.string (S++⟨#[119]⟩),.string S,.int .i64 er]) gi rfl ⟨rfl,?_⟩;exact HB5.out
 ):P:=h
theorem K6(h:P:=by
  have x1:=iz1 k3;have x2:=iz2 k3;have r3:=iz3 kr;have r4:=iz4 kr;have r5:=iz5 kr;have HB3:=hid (HB2.out.trans (B3.mono HB2.out.size));clear k2 B3 k3 kr hb;clear h;have H7:=hid (HY.out _ HB3.out);have HX:=hid (And.intro x0 (And.intro x1 x2));clear HY;go_wp2_with fail;refine H7.out.mono ?_;rintro e w5⟨rfl,hb5⟩;have HB5:=hid (HB3.out.trans (hb5.mono HB3.out.size));have y0:=ag hb5 HX.out.1;clear hb5 x0 x1 x2 r3 r4 r5;go_wp2_with fail;refine bodyPost_ret (v:=.tuple #[.string ⟨#[]⟩,.string S,.int .i64 er]) gi rfl ⟨rfl,?_⟩;exact HB5.out
 ):P:=h
theorem OD(h:P:=by
  have x1:=iz1 k3;have x2:=iz2 k3;have r3:=iz3 kr;have r4:=iz4 kr;have r5:=iz5 kr;have HB3:=hid (HB2.out.trans (B3.mono HB2.out.size));clear k2 B3 k3 kr hb;clear h;have H7:=hid (HY.out _ HB3.out);have HX:=hid (And.intro x0 (And.intro x1 x2));clear HY;go_wp2_with fail;refine H7.out.mono ?_;rintro e w5⟨rfl,hb5⟩;have HB5:=hid (HB3.out.trans (hb5.mono HB3.out.size));have y0:=ag hb5 HX.out.1;clear hb5 x0 x1 x2 r3 r4 r5;go_wp2_with fail;refine bodyPost_ret (v:=.tuple #[.string S,.string ⟨#[]⟩,.int .i64 er]) gi rfl ⟨rfl,?_⟩;exact HB5.out
 ):P:=h
theorem K9(h:P:=by
  have x1:=iz1 k3;have x2:=iz2 k3;have r3:=iz3 kr;have r4:=iz4 kr;have r5:=iz5 kr;have HB3:=hid (HB2.out.trans (B3.mono HB2.out.size));clear k2 B3 k3 kr hb;clear h;have H7:=hid (HY.out _ HB3.out);have HX:=hid (And.intro x0 (And.intro x1 x2));clear HY;go_wp2_with fail;refine H7.out.mono ?_;rintro e w5⟨rfl,hb5⟩;have HB5:=hid (HB3.out.trans (hb5.mono HB3.out.size));have y0:=ag hb5 HX.out.1;clear hb5 x0 x1 x2 r3 r4 r5;go_wp2_with fail;refine bodyPost_ret (v:=.tuple #[.string S,.string S,.int .i64 er]) gi rfl ⟨rfl,?_⟩;exact HB5.out
 ):P:=h
theorem Lu(h:P:=by
  refine tkC (i:=0) rfl ?_;(try simp only[Act.put,sIB]);refine tkC (i:=1) rfl ?_;(try simp only[Act.put]);refine tkC (i:=2) rfl ?_;(try simp only[Act.put]);refine tkC (i:=3) rfl ?_;(try simp only[Act.put]);refine tkC (i:=4) rfl ?_;(try simp only[Act.put]);refine tkC (i:=5) rfl ?_;(try simp only[Act.put]);refine tkC (i:=6) rfl ?_;(try simp only[Act.put]);refine rdY (rs:=[7,8]) ?_
  refine AllReadyH.cons rfl (fun K hK=>?_) (AllReadyH.cons rfl (fun K hK=>?_) rN)
  ·go_simp;refine(HF.out _).mono ?_;rintro e w5⟨rfl,hb⟩;exact⟨rfl,.inr ⟨aA,rfl,hHeld.2.2.2.trans (hb.mono hHeld.2.2.2.size)⟩⟩
  go_simp;have BN:=(aj W0 (aZ 0 false 0)).drew;have hS5:=loS.later (W:=W0) ⟨d2,x0,x1,HB.out⟩ BN;refine hK.out _ _ hS5 (fun hHeld2=>?_);clear hK K;generalize (W0.alloc (aZ 0 false 0)).drew=W1 at *;refine rdY (rs:=[7]) ?_;refine AllReadyH.cons rfl (fun K hK=>?_) rN;go_simp;refine(HF.out _).mono ?_;rintro e w5⟨rfl,hb⟩;exact⟨rfl,.inr ⟨aA,rfl,hS5.2.2.2.trans (hb.mono hS5.2.2.2.size)⟩⟩
 ):P:=h
theorem Oo(h:P:=by
  refine rdY (rs:=[15]) ?_;refine AllReadyH.cons rfl (fun K hK=>?_) rN;refine step_opn _ rfl (.tmp 55) (.tmp 65) rfl hl6 rfl hrowA ⟨P,R,B,c,s.pc⟩ rfl hblk ae ?_;intro g cap w7 ho hk7 hg7;obtain⟨e14,f14,hfin⟩:=HEND.out g cap _ w7 BWA hk7.size ho hk7 hg7;have hS7:=emS.kept hSA hk7 (fun e=>hne.1 e.symm) hGO hXO;have HFIN:=hid hfin;clear ho hk7 hg7 hfin HEND;refine hK.out _ _ hS7 (fun hHeld4=>?_)
  clear hK K;refine tkC (i:=16) rfl ?_;(try simp only[Act.put,sIB]);refine tkC (i:=17) rfl ?_;(try simp only[Act.put]);refine rdY (rs:=[18]) ?_
  refine AllReadyH.cons rfl (fun K hK=>?_) rN;go_simp;refine hK.out _ _ (hS7.put hGC hXC) (fun hHeld5=>?_);clear hK K;refine wpAnyH_done ar ?_ _;clear hSA hrowA hblk BWA s0 s1 sx c16 h14 hHeld hHeld3 hHeld4 hHeld5 hS7 e14 f14;go_wp2_with fail;go_end0;exact⟨rfl,HFIN.out⟩
 ):P:=h
theorem Nn(h:P:=by
  clear HF BD y0 y1 z0 z1 x0 x1 d2;obtain⟨hs0,hs1,hs2,hsB⟩:=hS;have HSB:=hid hsB;clear hsB hs0 hs2;go_wp2_with fail;refine(iH _ _ _).mono ?_;rintro e w6 (⟨hb,rfl,rfl⟩ | ⟨hb,rfl,rfl⟩);rotate_left
  ·have hE0:E=39:=by rw[<- HE.out,hb]; simp
   subst hE0;exact⟨rfl,.inr ⟨aA,rfl,HSB.out⟩⟩
  have hE0:E=0:=by rw[<- HE.out,hb]; simp
  subst hE0;clear hb;go_wp2_with fail;refine(HH.out _).mono ?_;rintro e w7⟨rfl,hb⟩;have k0:=ag hb m0;have k1:=ag hb m1;have j0:=aH hb m0 n0;have j1:=aH hb m1 n1;have HB2:=hid (HSB.out.trans (hb.mono HSB.out.size));clear hb;go_wp2_with fail;refine bodyPost_ret (v:=.agg #[.string P,.string R]) ?_ rfl (.inl ⟨rfl,rfl,iW HB2.out ae HB2.out.size⟩);rw[dM rfl];go_simp
 ):P:=h
theorem J0(h:P:=by
  clear HF BD y0 y1 z0 z1 x0 x1 d2;obtain⟨hs0,hs1,hs2,hsB⟩:=hS;have HSB:=hid hsB;clear hsB hs0 hs2;go_wp2_with fail;refine(gD _ _).mono ?_;rintro e w6⟨rfl,hw6⟩;obtain rfl:=hw6.symm;have hE0:E=0:=vR;subst hE0;go_wp2_with fail;refine(HH.out _).mono ?_;rintro e w7⟨rfl,hb⟩;have k0:=ag hb m0;have k1:=ag hb m1;have j0:=aH hb m0 n0;have j1:=aH hb m1 n1;have HB2:=hid (HSB.out.trans (hb.mono HSB.out.size));clear hb;go_wp2_with fail;refine bodyPost_ret (v:=.agg #[.string P,.string R]) ?_ rfl (.inl ⟨rfl,rfl,iW HB2.out ae HB2.out.size⟩);rw[dM rfl];go_simp
 ):P:=h
theorem Oy(h:P:=by
  clear hbt her hb6 hO' ho5
  rcases hO with rfl | rfl | rfl
  all_goals
   go_wp2_with (first
    | (go_at_call 57; refine(i7 _ _ ae ae).mono ?_; rintro e w5⟨rfl,hw5⟩; have hw6:=hw5.symm; subst hw6)
    | (at_builtin; refine lJ _ rfl (.tmp 63) (.tmp 65) rfl w.heap.size _ (opn (opF xs) k) rfl HOP2.out hle2 ⟨W1.heap.size,0,none⟩ k rfl kQ hol ?_; intro B1 C1 k1 w1 hk1 m1 n1 o1; have RS:=hid (LV HT.out hlt HER.out HB6.out HO'.out ENM.out ELM.out HP.out.1 BEM.out LEM.out OPM.out m1 n1 o1); clear m1 n1 o1 hk1))
   exact⟨⟨k+1,ae,bH,.inl ⟨rfl,RS.out⟩⟩,bI⟩
 ):P:=h
theorem Ml(h:P:=by
  go_wp2_with fail;refine(dL R _ _ _ w c0).mono ?_;rintro e w1⟨rfl,rfl⟩;go_wp2_with fail;refine hask.mono ?_;rintro e w2⟨rfl,b2⟩;have B2:=hid b2;clear b2 hask hK c0;go_wp2_with fail;refine(HU.out _).mono ?_;rintro e w3⟨B,rfl,s3,b3⟩;have B3:=hid (B2.out.trans (b3.mono B2.out.size));have S3:=hid s3;clear s3 b3 HU;go_wp2_with fail;refine(ww R g cap bs _ _ _ _ w3 (HW.out.later B3.out) S3.out ae ae).mono ?_;rintro e w4⟨rfl,g',cap',hw4,hs4⟩;have W4:=hid hw4;have S4:=hid ((Stp.of_below B3.out).trans hs4);clear hw4 hs4;go_wp2_with fail;go_ret;exact⟨rfl,g',cap',W4.out,S4.out⟩
 ):P:=h
theorem CM(h:P:=by
  refine tkC (i:=0) rfl ?_;(try simp only[Act.put,sIB]);refine tkC (i:=1) rfl ?_;(try simp only[Act.put]);refine tkC (i:=2) rfl ?_;(try simp only[Act.put]);refine tkC (i:=3) rfl ?_;(try simp only[Act.put]);refine tkC (i:=4) rfl ?_;(try simp only[Act.put]);refine tkC (i:=5) rfl ?_;(try simp only[Act.put]);refine tkC (i:=6) rfl ?_;(try simp only[Act.put]);refine tkC (i:=7) rfl ?_;(try simp only[Act.put]);refine rdY (rs:=[8]) ?_
  refine AllReadyH.cons rfl (fun K hK=>?_) rN;go_simp;refine(HF.out _).mono ?_;rintro e w5⟨rfl,hb⟩;exact⟨rfl,.inr ⟨aA,rfl,HB.out.drew.trans (hb ▸ Below.refl _ _)⟩⟩
 ):P:=h
theorem Ny(h:P:=by
  have HV:=hid (HF.out (.inl ha1));go_enter func91,ntmps91
  go_wp2_with fail;refine HO.out.mono ?_;rintro e w1⟨rfl,hb1⟩;have x1:w1.cell? ⟨w.heap.size,1,none⟩=some (.int .i64 a):=bu;have x2:w1.cell? ⟨w.heap.size,2,none⟩=some (.slice la ln lc):=bu;have hx:=block_lt_of_cell x1
  simp only at hx;have B1:=hid (hb0.trans (hb1.mono aw));have B2:=hid (B1.out.alloc eU (aB rc wd 8 pp ps pl));clear hb1;go_wp2_with fail;go_ret;exact⟨cP,B2.out⟩
 ):P:=h
theorem Nv(h:P:=by
  have HV:=hid (HF.out (.inr ha2));go_enter func91,ntmps91
  go_wp2_with fail;refine HO.out.mono ?_;rintro e w1⟨rfl,hb1⟩;have x1:w1.cell? ⟨w.heap.size,1,none⟩=some (.int .i64 a):=bu;have x2:w1.cell? ⟨w.heap.size,2,none⟩=some (.slice la ln lc):=bu;have hx:=block_lt_of_cell x1
  simp only at hx;have B1:=hid (hb0.trans (hb1.mono aw));have B2:=hid (B1.out.alloc eU (aB rc wd 8 pp ps pl));clear hb1;go_wp2_with fail;go_ret;exact⟨cP,B2.out⟩
 ):P:=h
theorem Mm(h:P:=by
  go_enter func91,ntmps91
  go_wp2_with fail;refine HO.out.mono ?_;rintro e w1⟨rfl,hb1⟩;have x1:w1.cell? ⟨w.heap.size,1,none⟩=some (.int .i64 0):=bu;have x2:w1.cell? ⟨w.heap.size,2,none⟩=some (.slice la ln lc):=bu;have hx:=block_lt_of_cell x1
  simp only at hx;have B1:=hid (hb0.trans (hb1.mono aw));have B2:=hid (B1.out.alloc eU (aB rc wd 3 pp ps pl));clear hb1;go_wp2_with fail;go_ret;exact⟨by rw[HV2.out]; rfl,B2.out⟩
 ):P:=h
theorem MI(h:P:=by
  go_enter func91,ntmps91
  go_wp2_with fail;refine HO.out.mono ?_;rintro e w1⟨rfl,hb1⟩;have x1:w1.cell? ⟨w.heap.size,1,none⟩=some (.int .i64 a):=bu;have x2:w1.cell? ⟨w.heap.size,2,none⟩=some (.slice la ln lc):=bu;have hx:=block_lt_of_cell x1
  simp only at hx;have B1:=hid (hb0.trans (hb1.mono aw));have B2:=hid (B1.out.alloc eU (aB rc wd 0 pp ps pl));clear hb1;go_wp2_with fail;go_ret;exact⟨cP,B2.out⟩
 ):P:=h
theorem MC(h:P:=by
  go_enter func91,ntmps91
  go_wp2_with fail;refine HO.out.mono ?_;rintro e w1⟨rfl,hb1⟩;have x1:w1.cell? ⟨w.heap.size,1,none⟩=some (.int .i64 a):=bu;have x2:w1.cell? ⟨w.heap.size,2,none⟩=some (.slice la ln lc):=bu;have hx:=block_lt_of_cell x1
  simp only at hx;have B1:=hid (hb0.trans (hb1.mono aw));have B2:=hid (B1.out.alloc eU (aB rc wd 9 pp ps pl));clear hb1;go_wp2_with fail;go_ret;exact⟨cP,B2.out⟩
 ):P:=h
theorem JW(h:P:=by
  go_enter func91,ntmps91
  go_wp2_with fail;refine HO.out.mono ?_;rintro e w1⟨rfl,hb1⟩;have x1:w1.cell? ⟨w.heap.size,1,none⟩=some (.int .i64 a):=bu;have x2:w1.cell? ⟨w.heap.size,2,none⟩=some (.slice la ln lc):=bu;have hx:=block_lt_of_cell x1
  simp only at hx;have B1:=hid (hb0.trans (hb1.mono aw));have B2:=hid (B1.out.alloc eU (aB rc wd t pp ps pl));clear hb1;go_wp2_with fail;go_ret;exact⟨cP,B2.out⟩
 ):P:=h
theorem Mz(h:P:=by
  go_enter func91,ntmps91
  go_wp2_with fail;refine HO.out.mono ?_;rintro e w1⟨rfl,hb1⟩;have x1:w1.cell? ⟨w.heap.size,1,none⟩=some (.int .i64 a):=bu;have x2:w1.cell? ⟨w.heap.size,2,none⟩=some (.slice la ln lc):=bu;have hx:=block_lt_of_cell x1
  simp only at hx;have B1:=hid (hb0.trans (hb1.mono aw));have B2:=hid (B1.out.alloc eU (aB rc wd 3 pp ps pl));clear hb1;go_wp2_with fail;go_ret;exact⟨cP,B2.out⟩
 ):P:=h
theorem Kp(h:P:=by
  rw[mq h0]at HE;have HC3:=hid (HC2.out.later hA hb);clear hb h0;go_wp2_with fail;refine(sG hA HC3.out hw hB hR).mono ?_;rintro e w5 (⟨h0,rfl,hc,hk⟩ | ⟨h0,rfl,hb⟩);rotate_left
  ·have hE:E=bW o.B o.R:=HE.out.symm;exact⟨rfl,.inr ⟨mH,(congrArg thv hE).symm,hb⟩⟩
  have hE:E=0:=HE.out.symm.trans h0;subst hE;have HC5:=hid hc;clear hc hk;go_wp2_with fail;go_end0
  first | exact .inl ⟨rfl,rfl,HC5.out⟩ | exact⟨rfl,HC5.out⟩
 ):P:=h
theorem Lz(h:P:=by
  generalize elF (opF xs) k t=ev at *;generalize (stk (opF xs) t).length=dt at *
  go_wp2_with (first
   | (go_at_call 57; refine(i7 _ _ ae ae).mono ?_; rintro e w5⟨rfl,hw5⟩; have hw6:=hw5.symm; subst hw6))
  (try simp only[Exit.inBlock,Exit.then])
  refine bodyPost_ret (ey rfl _ _ _) rfl ?_;refine⟨_,_,_,_,_,_,_,_,_,sK,.inl ⟨(by rw[HR.out]; simp),rfl,rfl,rfl⟩,BEM.out⟩
 ):P:=h
theorem Bn(h:P:=by
  go_wp2_with fail
  go_region
  go_wp2_with fail;have z:=aM (i:=1) (u:=.string p2) (aM (i:=0) (u:=.string p1) (ak (below_drewN w2 1) HK.out));refine bodyPost_ret (v:=.tuple #[.agg #[.string p1,.string p2],.bool true]) (J8 (ak (below_drewN _ 1) z) rfl rfl) rfl ⟨rfl,?_⟩;have hz:=HB2.out.drew;exact(bA (bA hz ae hz.size) ae (bA hz ae hz.size).size).drew
 ):P:=h
theorem Nj(h:P:=by
  have t0:=iz0 k4;have t1:=iz1 k4;clear hb k3 y0 HK2 B4 k4;have hq:=CE hne;clear hne;go_wp2_with fail;refine bodyPost_ret (v:=.tuple #[.string ⟨#[]⟩,.int .i64 33]) i6 rfl ⟨rfl,?_⟩;exact HB3.out
 ):P:=h
theorem Bl(h:P:=by
  go_wp2_with fail;have z:=aM (i:=1) (u:=.string ⟨#[]⟩) (aM (i:=0) (u:=.string ⟨#[]⟩) (ak (below_drewN w2 1) HK.out));refine bodyPost_ret (v:=.tuple #[.agg #[.string ⟨#[]⟩,.string ⟨#[]⟩],.bool false]) (J8 z rfl rfl) rfl ⟨rfl,?_⟩;have hz:=HB2.out.drew;exact bA (bA hz ae hz.size) ae (bA hz ae hz.size).size
 ):P:=h
theorem NP(h:P:=by
  have HL:=hid h.1;clear h;subst hne;go_enter func15,ntmps15
  go_wp2_with fail;refine HE.out.mono ?_;rintro e w1⟨b,pos,rfl,hb,rfl⟩
  have hbl:b=mf zs s:=by
   rw[Bool.eq_iff_iff,hb,lh];exact⟨fun h=>⟨HL.out,fun i hi=>(h i hi).2⟩,fun h i hi=>⟨MK (h.2 i hi),h.2 i hi⟩⟩
  subst hbl;go_wp2;go_ret;exact⟨rfl,hb0.alloc aw _⟩
 ):P:=h
theorem OA(h:P:=by
  have hSH2:=(K5.block _ (aN hSH) nS).trans hSH;have hFL2:=(K5.block _ (aN hFL) nF).trans hFL;have hH2:=ck6.kept hH K5 HNX.out;have HK2:=(aP HBX).then K5 (fun k hk h=>h);refine hK.out _ _ hH2 (fun _=>?_);clear hK K;refine wpAnyH_done ar ?_ _;refine NoPanic.normal ?_;go_wp2_with fail
  go_meet
  exact⟨_,_,hSHl,hFLl,hne,hSH2,hFL2,hC2,HK2⟩
 ):P:=h
theorem Kj(h:P:=by
  go_wp2_with fail;refine bodyPost_ret (v:=.agg #[.int .u8 c,.int .i64 a,.slice la ln lc]) ?_ rfl ⟨rfl,g',cap',?_,?_⟩
  ·rw[dM rfl];go_simp
  ·exact((W5.out.set (b:=w.heap.size+1) ae n1).set (b:=w.heap.size+1) ae n1).set (b:=w.heap.size+1) ae n1
  exact((S5.out.set ae).set ae).set ae
 ):P:=h
theorem Kb(h:P:=by
  go_wp2
  ·have h:p.size<=s.size:=bJ;go_ret;refine⟨?_,rfl⟩
   show Ending.returned (Value.bool ((s.extract (s.size-p.size) s.size).toList==p.toList))=_;simp[h,ends]
  have h:¬p.size<=s.size:=bJ;go_ret;refine⟨?_,rfl⟩;show Ending.returned (Value.bool false)=_;simp[h,ends]
 ):P:=h
theorem N8(h:P:=by
  have S3:=hid s3;clear s3 b3 HU;go_wp2_with fail;refine(ww R g cap bs _ _ _ _ w3 (HW.out.later B3.out) S3.out ae ae).mono ?_;rintro e w4⟨rfl,g',cap',hw4,hs4⟩;have W4:=hid hw4;have S4:=hid ((Stp.of_below B3.out).trans hs4);clear hw4 hs4;go_wp2_with fail;go_ret;exact⟨rfl,g',cap',W4.out,S4.out⟩
 ):P:=h
theorem Og(h:P:=by
  have hne':((n:Int)==(s.size:Int))=false:=by simpa using fun h:(n:Int)=s.size=>hne ae
  have hf:mf zs s=false:=by
   rw[<- Bool.not_eq_true,lh,h.1]; exact fun h'=>hne h'.1
  clear h;go_enter func15,ntmps15
  go_wp2
  all_goals go_ret
  all_goals exact⟨by rw[hf]; rfl,hb0⟩
 ):P:=h
theorem Cl(h:P:=by
  obtain⟨hz,h1,h2,h3,ha⟩:=h;refine⟨hz,h1,h2,h3,?_⟩
  rcases ha with ha | ⟨b,off,e,hc⟩
  ·exact .inl ha
  refine .inr ⟨b,off,e,fun j hj=>?_⟩;have:=hc j hj;have hlt:b<w.heap.size:=block_lt_of_cell this;exact(hb.cell (p:=⟨b,off+j,none⟩) wy).trans this
 ):P:=h
theorem Dw(h:P:=by
  generalize (stk (opF xs) t).length=dt at *
  go_wp2_with (first
   | (go_at_call 57; refine(i7 _ _ ae ae).mono ?_; rintro e w5⟨rfl,hw5⟩; have hw6:=hw5.symm; subst hw6))
  exact⟨⟨k+1,ae,bH,.inl ⟨rfl,HRS.out⟩⟩,bI⟩
 ):P:=h
theorem Md(h:P:=by
  rcases h.2 with ⟨h0,h1⟩ | ⟨g,cp,cur,h1,h2,h3,_⟩
  ·injection h0 with e1 e2 e3
   exact⟨ae,.inl e2⟩
  injection h1 with e1 e2 e3;subst e1 e2 e3;refine⟨rfl,.inr ⟨g,rfl,fun j hj=>?_⟩⟩;have:=World.ownsRow.cellAt h j ae;rw[this];simp[hj]
 ):P:=h
theorem NJ(h:P:=by
  have hE:E=31:=by rw[<- HE.out,Fe hl]; exact(GA hw.len hl).1
  subst hE;go_enter func87,ntmps87
  go_wp2_with fail;refine(ol hA HC.out hw a hl).mono ?_;rintro e w2⟨rfl,hb⟩;exact⟨rfl,.inr ⟨aA,rfl,(HC.out.later hA hb).bad⟩⟩
 ):P:=h
theorem LQ(h:P:=by
  clear h BW;go_enter func87,ntmps87
  go_wp2_with fail;refine H1.out.mono ?_
  rintro e w2 (⟨h0,rfl,hc,hk⟩ | ⟨h0,rfl,hb⟩)
  ·exact Fj
  exact⟨rfl,.inr ⟨h0,rfl,hb⟩⟩
 ):P:=h
theorem NY(h:P:=by
  exact⟨⟨t+1,ae,bH,hid (by rw[HFS.out,<- List.append_assoc,HR.out]; rw[HEN.out]; simpa only[List.append_assoc,List.cons_append,List.nil_append,if_true,if_false,Bool.false_eq_true,reduceIte] using HBy.out),HB⟩,bI⟩
 ):P:=h
theorem NM(h:P:=by
  go_wp2_with (first
   | (go_at_call 57; refine(i7 _ _ ae ae).mono ?_; rintro e w5⟨rfl,hw5⟩; have hw6:=hw5.symm; subst hw6; (try rw[hOc])))
  exact⟨⟨k+1,ae,bH,.inl ⟨rfl,HRS.out⟩⟩,bI⟩
 ):P:=h
theorem AR(h:P:=by
  go_enter func87,ntmps87
  go_wp2_with fail;refine H1.out.mono ?_
  rintro e w2 (⟨h0,rfl,hc⟩ | ⟨h0,rfl,hb⟩)
  ·have HC:=hid hc;clear hc;go_wp2_with fail;go_end0;exact .inl ⟨h0,rfl,HC.out⟩
  exact⟨rfl,.inr ⟨h0,rfl,hb⟩⟩
 ):P:=h
theorem NS(h:P:=by
  have HV:=hid (HV13.out h13)
  have d3:decide (m.fi*4096-pl<(bl.length:Int))=true:=by simpa using h13
  go_wp2_with fail
  go_quiet (fail)
  go_wp2_with fail;go_ret;exact⟨cP,HB0.out.trans ((HBD.out _).mono HB0.out.size)⟩
 ):P:=h
theorem Ka(h:P:=by
  have HV:=hid (HV17.out h13 h17)
  have d4:((bl.length:Int)==0)=true:=by simp[h17]
  clear h17;go_wp2_with fail
  go_quiet (fail)
  go_wp2_with fail;go_ret;exact⟨cP,HB0.out.trans ((HBD.out _).mono HB0.out.size)⟩
 ):P:=h
theorem MR(h:P:=by
  go_wp2_with fail;refine(HNM.out _).mono ?_;rintro e w1⟨rfl,hw⟩;have hw2:=hw.symm;subst hw2;go_wp2_with fail
  go_quiet (fail)
  go_wp2_with fail;go_ret;exact⟨cP,HB0.out.trans ((HBD.out _).mono HB0.out.size)⟩
 ):P:=h
theorem Ki(h:P:=by
  go_enter func216,ntmps216
  go_wp2;refine bodyPost_ret (v:=.agg #[.int .i64 0,.int .i64 0]) wV rfl ⟨rfl,?_⟩;exact((Below.refl _ _).alloc lRn _).alloc aw _
 ):P:=h
theorem J4(h:P:=by
  refine hfin ?_ ?_
  ·rcases hcase with ⟨rfl,_⟩ | ⟨h1,_⟩
   ·exact .inl rfl
   exact .inr h1
  rcases hcase with ⟨rfl,h1⟩ | ⟨_,h1⟩
  ·exact h1.mono (fun k e=>by subst e; rfl)
  exact h1.mono (fun _ x=>x.elim)
 ):P:=h
theorem Nt(h:P:=by
  go_quiet ((go_at_call 25; refine Calls.quiet_of_same (HF.out _)))
  go_wp2_with fail;exact⟨⟨k+1,ae,bH,hid ⟨HDR.out _,fun i x y hi=>HCX.out i x y hi (by rw[HG.out]; simp)⟩⟩,bI⟩
 ):P:=h
theorem Ld(h:P:=by
  refine rdY (rs:=[7]) ?_;refine AllReadyH.cons rfl (fun K hK=>?_) rN;go_simp;refine(HSG.out _ hB5.out).mono ?_;rintro e w6⟨⟨q,rfl⟩,hk6⟩;exact⟨rfl,⟨q,rfl⟩,(S4'.out.trans (Stp.of_below hB5.out)).throw hk6⟩
 ):P:=h
theorem Oc(h:P:=by
  go_wp2_with fail;refine HN.out.mono ?_;rintro e w1⟨rfl,g',cap',hw1,hs1⟩;have W1:=hid hw1;have S1:=hid ((Stp.of_below B1.out).trans hs1);clear hw1 hs1 hm hc;go_wp2_with fail;go_ret;exact⟨rfl,g',cap',W1.out,S1.out⟩
 ):P:=h
theorem fX(h:P:=by
  refine hK.out _ _ hH (fun _=>?_);clear hK K;refine wpAnyH_done ar ?_ _;refine NoPanic.normal ?_;go_wp2_with fail
  go_meet
  exact⟨_,_,_,_,_,rfl,hCB,hC,hO,hL,ae,ae,ae,ae,HBB⟩
 ):P:=h
theorem KD(h:P:=by
  refine⟨h.1,h.2.imp id ?_⟩;rintro⟨b,off,ha,hc⟩;refine⟨b,off,ha,fun j x hj=>?_⟩;have:=hc j x hj;exact⟨hk.cell this.1 (hS _ _ _ ha),hk.cell this.2.1 (hS _ _ _ ha),hk.cell this.2.2 (hS _ _ _ ha)⟩
 ):P:=h
theorem KL(h:P:=by
  go_wp2_with fail
  (try simp only[Exit.inBlock,Exit.then])
  refine bodyPost_ret (ey rfl _ _ _) rfl ?_;refine⟨_,_,_,_,_,_,_,_,_,sK,.inl ⟨(by rw[HR.out]; simp),rfl,rfl,rfl⟩,HB.out⟩
 ):P:=h
theorem Li(h:P:=by
  rw[Bool.and_eq_true];refine⟨by simp[hl],?_⟩;rw[List.all_eq_true];intro i hi
  cases hx:l1[i]? with
  | none=>simp
  | some x =>
   cases hy:l2[i]? with
   | none=>simp
   | some y=>simpa using h i x y hx hy
 ):P:=h
theorem Mr(h:P:=by
  have h':(most:Int)<s.size:=ae;go_enter func130,ntmps130
  go_wp2;go_ret
  have hb:false=cC s most:=qW ⟨fun h=>(nomatch h),fun h=>ae⟩;exact⟨by rw[<- hb]; rfl,rfl⟩
 ):P:=h
theorem Oz(h:P:=by
  go_wp2_with fail;go_ret;refine⟨?_,HB.out⟩
  have hf:zs.all (fun b=>decide (33<=b)&&decide (b<=126))=false:=by
   rw[List.all_eq_false];exact⟨b,HMEM.out,aK⟩
  rw[HNM.out,hf];rfl
 ):P:=h
theorem CL(h:P:=by
  rcases h.2 with h0 | ⟨g,cp,cur,h1,h2,h3,_⟩
  ·rw[h0.1]at hb; cases hb
  rw[h1]at hb;have:g=b:=pk;subst this;exact⟨h2,(Array.getElem?_eq_some_iff.1 h3).1⟩
 ):P:=h
theorem Lj(h:P:=by
  go_wp2_with fail;refine(dL R _ _ _ w c0).mono ?_;rintro e w1⟨rfl,rfl⟩;go_wp2_with fail;refine(uI _ _ _).mono ?_;rintro e w1⟨rfl,rfl⟩;exact⟨rfl,⟨_,rfl⟩,Kept.refl _ _⟩
 ):P:=h
theorem J6(h:P:=by
  go_enter func98,ntmps98
  go_wp2_with fail;refine(HT.out _ HW.out).mono ?_;rintro e w2⟨rfl,hb⟩;have HB:=hid hb;clear hb;go_wp2_with fail;go_ret
  exact⟨by rw[HE.out]; rfl,HB.out⟩
 ):P:=h
theorem uU(h:P:=by
  have hh:=hall i y vU
  have e:(xs.take k).take i=xs.take i:=by rw[List.take_take]; congr 1; omega
  (try simp only[List.nil_append,e]at hh);exact hh
 ):P:=h
theorem Bo(h:P:=by
  go_wp2_with fail;refine(dL R _ _ _ w c0).mono ?_;rintro e w1⟨rfl,rfl⟩;go_wp2_with fail;refine hask.mono ?_;rintro e w2⟨⟨p,rfl⟩,b2⟩;exact⟨rfl,⟨p,rfl⟩,aP b2⟩
 ):P:=h
theorem MG(h:P:=by
  go_wp2_with fail;refine bodyPost_ret (v:=.agg #[.string P,.string R]) ?_ rfl (.inl ⟨rfl,rfl,(sgS.put (sgS.put hS' hCl htl rfl) hCl htl rfl).2.2.2.2.2⟩);rw[dM rfl];go_simp
 ):P:=h
theorem Mq(h:P:=by
  clear he;go_enter func88,ntmps88
  go_wp2_with fail;refine HE.out.mono ?_;rintro e w1⟨rfl,hw⟩;have hw2:=hw.symm;subst hw2;go_wp2;go_ret;exact⟨cP,rfl⟩
 ):P:=h
theorem CP(h:P:=by
  go_wp2_with fail
  go_quiet ((go_at_call 88; exact Calls.quiet_of_same (HL.out _)))
  go_wp2_with fail;go_ret;exact⟨cP,HB0.out.trans ((HBD.out _).mono HB0.out.size)⟩
 ):P:=h
theorem BI(h:P:=by
  refine⟨h.1,h.2.imp id ?_⟩;rintro⟨b,off,ha,hc⟩;refine⟨b,off,ha,fun j x hj=>?_⟩;have:=hc j x hj;exact⟨hk.cell this.1 (hS _ _ _ ha),hk.cell this.2 (hS _ _ _ ha)⟩
 ):P:=h
theorem MU(h:P:=by
  have hl:=h.len;have hx:xs[j]? =some (xs[j]'(ae)):=aY _;have:=hc j _ hx 0 _ rfl;rw[Nat.mul_one]at this;rw[List.getD_eq_getElem?_getD,hx];exact this
 ):P:=h
theorem Mu(h:P:=by
  have her:er (opF xs) k=37:=by unfold er; rw[if_neg rZ,if_pos hO5,hs]; simp only; rw[if_neg hx]
  rw[<- HT.out.rest,Hd hlt NV,her]
 ):P:=h
theorem Ku(h:P:=by
  apply List.ext_getElem?;intro j
  by_cases hj:j<n
  ·rw[sO n _ j hj]; simp[hj]
  rw[List.getElem?_eq_none aK,List.getElem?_eq_none (by rw[pU]; omega)]
 ):P:=h
theorem Cr(h:P:=by
  rw[hE,hV];unfold shp at hh;rw[hh]at H1;go_enter func162,ntmps162
  go_wp2_with fail;refine H1.out.mono ?_;rintro e w1⟨rfl,hb⟩;go_wp2;go_ret2;exact⟨rfl,hb⟩
 ):P:=h
theorem BC(h:P:=by
  go_wp2_with fail;refine bodyPost_ret (v:=.agg #[.string P,.string R]) ?_ rfl (.inl ⟨rfl,rfl,(loS.put (loS.put hS'' hCl rfl) hCl rfl).2.2.2⟩);rw[dM rfl];go_simp
 ):P:=h
theorem Ng(h:P:=by
  go_enter func140,ntmps140;go_wp2_with fail
  refine(fx (by first | rfl | simp_all)).mono ?_
  rintro e w1⟨rfl,rfl⟩;exact⟨rfl,⟨_,rfl⟩,Below.refl _ _⟩
 ):P:=h
theorem Ou(h:P:=by
  generalize el oj=eo at *;go_wp2_with fail;refine bodyPost_ret (v:=.tuple #[.string s,.int .i64 0]) i6 rfl ⟨rfl,?_⟩;exact HB3.out
 ):P:=h
theorem NB(h:P:=by
  refine⟨h.1,h.2.1,h.2.2.1,h.2.2.2.1,h.2.2.2.2.imp id ?_⟩;rintro⟨b,off,ha,hc⟩;exact⟨b,off,ha,fun j hj=>hk.cell (hc j hj) (hS _ _ _ (Qv ae ha))⟩
 ):P:=h
theorem Lb(h:P:=by
  show(if ((t:Nat):Int)<0 then _ else _)=_;rw[if_neg ae,show(top (t::r)).toNat=t from Int.toNat_natCast t,h1,Int.toNat_natCast];simp[List.getD,h2]
 ):P:=h
theorem NE(h:P:=by
  have hE:E=0:=HE.out.symm.trans h0;subst hE;have HC5:=hid hc;clear hc hk;go_wp2_with fail;go_end0
  first | exact .inl ⟨rfl,rfl,HC5.out⟩ | exact⟨rfl,HC5.out⟩
 ):P:=h
theorem NG(h:P:=by
  go_enter func39,ntmps39
  go_wp2_with fail;refine HT.out.mono ?_;rintro e w1⟨rfl,hw⟩;have hw:=hw.symm;subst hw;go_wp2_with fail;go_ret;exact⟨rfl,rfl⟩
 ):P:=h
theorem Bq(h:P:=by
  go_wp2_with fail;refine(iH _ _ _).mono ?_
  rintro e w3 (⟨hb,rfl,rfl⟩ | ⟨hb,rfl,rfl⟩)
  ·exact oJ
  exact⟨rfl,rfl,aj _ _⟩
 ):P:=h
theorem NN(h:P:=by
  go_ret2;refine⟨_,rfl,?_,cr B3.out B5.out⟩;have h:=fR O5.out B3.out.size
  rw[HE2.out,show([c]++U).length=1+U.length by simp; omega];exact h
 ):P:=h
theorem NT(h:P:=by
  go_ret2;refine⟨_,rfl,?_,cr B1.out B5.out⟩;have h:=fR O5.out B1.out.size
  rw[HE2.out,show([c]++U).length=1+U.length by simp; omega];exact h
 ):P:=h
theorem Bv(h:P:=by
  go_wp2_with fail;refine(iH _ _ _).mono ?_
  rintro e w3 (⟨hb,rfl,rfl⟩ | ⟨hb,rfl,rfl⟩)
  ·exact absurd hb aw
  exact⟨rfl,rfl,aj _ _⟩
 ):P:=h
theorem NW(h:P:=by
  intro t;rw[hel]
  rcases h.els t with hx | ⟨j,a1,a2,a3,a4,a5,a6,a7⟩
  ·exact .inl hx
  exact .inr ⟨j,a1,a2,ae,a4,a5,a6,by rw[hen,hen]; exact a7⟩
 ):P:=h
theorem Oq(h:P:=by
  go_wp2_with fail;refine(iH _ _ _).mono ?_
  rintro e w3 (⟨hb,rfl,rfl⟩ | ⟨hb,rfl,rfl⟩)
  ·exact oJ
  exact⟨rfl,rfl,rfl⟩
 ):P:=h
theorem Oh(h:P:=by
  refine bodyPost_ret (ey rfl _ _ _) rfl ?_;refine⟨_,_,_,_,_,_,_,_,_,sK,.inl ⟨(by rw[HR.out]; simp),rfl,rfl,rfl⟩,BEM.out⟩
 ):P:=h
theorem MH(h:P:=by
  have:k<l.length:=ae;simp only[List.getD_eq_getElem?_getD,aY this,Option.getD_some]; exact hgood _ (List.getElem_mem this)
 ):P:=h
theorem MF(h:P:=by
  have hE:E=bQ s o YW:=tV;exact⟨rfl,.inr ⟨mH,(congrArg thv hE).symm,(HC2.out.later hA hb).bad⟩⟩
 ):P:=h
theorem KO(h:P:=by
  rw[World.cell?_setCell_other _ _ _ _ aw]; exact World.cell?_setCell_same _ _ _ (by rw[World.cell?_setCell_other _ _ _ _ aw]; exact r1)
 ):P:=h
theorem Mc(h:P:=by
  refine⟨h.1,?_⟩
  rcases h.2 with h0 | ⟨g,cp,cur,rfl,h2,h3,h4⟩
  ·exact .inl h0
  exact .inr ⟨g,cp,cur,rfl,h2,by rw[hk g rfl]; exact h3,h4⟩
 ):P:=h
theorem Kq(h:P:=by
  go_wp2_with fail;refine(iH _ _ _).mono ?_
  rintro e w3 (⟨hb,rfl,rfl⟩ | ⟨hb,rfl,rfl⟩)
  ·exact absurd hb aw
  exact⟨rfl,rfl,rfl⟩
 ):P:=h
theorem Mn(h:P:=by
  go_wp2_with fail;exact⟨⟨i+1,aw,ae,hB2.out,hR2.out,by rw[show 7-(i+1)=n by omega]; exact hV2.out⟩,bI⟩
 ):P:=h
theorem Hb(h:P:=by
  go_enter func95,ntmps95
  go_wp2_with fail;refine HO.out.mono ?_;rintro e w1⟨rfl,hb1⟩;go_wp2;go_ret;exact⟨rfl,hb1.alloc hb1.size _⟩
 ):P:=h
theorem rI(h:P:=by
  rintro e w1⟨rfl,hw⟩;have hw2:=hw.symm;subst hw2;go_wp2_with fail;go_ret;exact⟨cP,HB0.out.trans (HB.out.mono HB0.out.size)⟩
 ):P:=h
theorem DR(h:P:=by
  go_wp2_with fail;refine(gD _ _).mono ?_;rintro e w3⟨rfl,hw3⟩;obtain rfl:=hw3.symm;go_wp2_with fail;go_ret;exact⟨rfl,Below.refl _ _⟩
 ):P:=h
theorem GJ(h:P:=by
  simp only at hcx;unfold cD at hcx
  split at hcx
  ·cases hcx
  split at hcx
  ·cases hcx
  split at hcx
  ·cases hcx
  rw[hok.1,hok.2]; omega
 ):P:=h
theorem Gw(h:P:=by
  go_wp2_with fail;refine bodyPost_ret (v:=.tuple #[.string s,.int .i64 0]) i6 rfl ⟨rfl,?_⟩;exact HB3.out
 ):P:=h
theorem qU(h:P:=by
  rintro e w' ⟨aa,ac,ys,he,hyl,hys,hrow,g',cap',hab,hw',hs'⟩;exact⟨aa,ac,ys,he,hyl,hys,g',cap',wE,hs'⟩
 ):P:=h
theorem xH(h:P:=by
  go_wp2_with fail
  try rw[Exit.noGoto_ret]
  go_ret2;rw[HR.out]
  exact⟨rfl,(fun h=>cm),HKW.out.trans (HT.out.kept.trans HM.out.kept)⟩
 ):P:=h
theorem Fw(h:P:=by
  clear hcc;go_wp2_with fail
  go_quiet (fail)
  go_wp2_with fail;exact⟨⟨q+1,ae,bH,HN,hid (HBD.out _)⟩,bI⟩
 ):P:=h
theorem Fy(h:P:=by
  have hE:E=E1:=tV;exact⟨rfl,.inr ⟨mH,(congrArg thv hE).symm,(HC.out.later hA hb).bad⟩⟩
 ):P:=h
theorem vP(h:P:=by
  go_enter func87,ntmps87
  go_wp2_with fail;refine H1.out.mono ?_;rintro e w2⟨rfl,hb⟩;exact⟨rfl,.inr ⟨aA,rfl,hb⟩⟩
 ):P:=h
theorem yq(h:P:=by
  rw[(((Below.refl _ w).alloc lRn _).alloc dC _ |>.alloc dC _).cell (by exact hRl)]; exact h.c0
 ):P:=h
theorem EY(h:P:=by
  intro j hj hj5;have:j≠k:=fun e=>h5 (e ▸ hj5);obtain⟨t,ht,hx⟩:=h.elp j ae hj5;exact⟨t,ht,by rw[hel]; exact hx⟩
 ):P:=h
theorem D9(h:P:=by
  obtain⟨cur,h,_⟩:=h.block
  rcases Nat.lt_or_ge B w.heap.size with hl | hl
  ·exact hl
  rw[Array.getElem?_eq_none hl]at h; cases h
 ):P:=h
theorem Eh(h:P:=by
  have hE:=hF hb;subst hE;exact⟨rfl,.inr ⟨aA,rfl,(HC.out.later hA (HB2.out.trans (hS3.2.2.2.2.mono HB2.out.size))).bad⟩⟩
 ):P:=h
theorem qL(h:P:=by
  go_wp2_with fail
  go_quiet (fail)
  go_wp2_with fail;go_ret;exact⟨cP,HB0.out.trans ((HBD.out _).mono HB0.out.size)⟩
 ):P:=h
theorem Hh(h:P:=by
  go_wp2_with fail;refine(cS aw).mono ?_;rintro e w1⟨rfl,rfl⟩;go_wp2_with fail;go_end0;exact⟨rfl,Below.refl _ _⟩
 ):P:=h
theorem GD(h:P:=by
  rw[World.cell?_setCell_other _ _ _ _ aw,World.cell?_setCell_other _ _ _ _ aw]; exact World.cell?_setCell_same _ _ _ r0
 ):P:=h
theorem Gh(h:P:=by
  refine⟨h.1,?_⟩
  rcases h.2 with ⟨h,_⟩ | ⟨g,cp,cur,h1,_,h3⟩
  ·cases h
  exact .inr ⟨g,cp,cur,h1,Nat.zero_le _,h3⟩
 ):P:=h
theorem Gj(h:P:=by
  go_wp2_with fail;refine(cS rfl).mono ?_;rintro e w1⟨rfl,rfl⟩;go_wp2_with fail;go_end0;exact⟨rfl,Below.refl _ _⟩
 ):P:=h
theorem nQ(h:P:=by
  go_wp2_with fail;refine HC.out.mono ?_;rintro e w2⟨⟨q,rfl⟩,hk2⟩;exact⟨rfl,⟨q,rfl⟩,(aP BW.out).trans hk2⟩
 ):P:=h
theorem Fg(h:P:=by
  go_wp2_with fail;refine HN.out.mono ?_;rintro e w1⟨⟨p,rfl⟩,hk⟩;exact⟨rfl,⟨p,rfl⟩,(aP B1.out).trans hk⟩
 ):P:=h
theorem Fh(h:P:=by
  go_wp2_with fail;refine HT.out.mono ?_;rintro e w2⟨⟨q,rfl⟩,hk⟩;exact⟨rfl,⟨q,rfl⟩,(aP BW.out).trans hk⟩
 ):P:=h
theorem wG(h:P:=by
  go_enter func217,ntmps217
  go_wp2;go_ret;exact⟨sK,(Below.refl _ _).alloc lRn _⟩
 ):P:=h
theorem Gz(h:P:=by
  rcases (HM.out.kept HST.out.k (fun b off c h=>mD)).2 with h0 | h
  ·omega
  exact h
 ):P:=h
theorem EH(h:P:=by
  intro t u htu a b c;rw[hen]at c ⊢;rw[hen,hst];obtain⟨x1,x2,x3⟩:=h.nest t u htu a b c;exact⟨ae,x2,x3⟩
 ):P:=h
theorem Gx(h:P:=by
  refine h.keepOp hsame rfl ?_ ?_ h.hi h.sh
  ·rw[hs',ByteArray.size_append]; omega
  rw[hs',ByteArray.size_append]; omega
 ):P:=h
theorem Hk(h:P:=by
  have HV:=hid hv;clear hv h;go_enter func46,ntmps46
  go_wp2_with fail;go_ret;exact⟨cP,rfl⟩
 ):P:=h
theorem EZ(h:P:=by
  rcases h.opn t ae hO with hx | ⟨hx,j,a1,a2,a3,a4⟩
  ·exact .inl hx
  exact .inr ⟨hx,j,a1,a2,ae,a4⟩
 ):P:=h
theorem Eg(h:P:=by
  rw[d3];clear h1
  cases b8
  all_goals (go_enter func38,ntmps38; go_wp2_with fail; go_ret; exact⟨rfl,rfl⟩)
 ):P:=h
theorem uO(h:P:=by
  rw[e];rw[hi,Int.toNat_natCast]at q hs;rw[qZ]at hs;exact tF hb (c:=0) (a:=0) cz q.1 q.2 hs
 ):P:=h
theorem FY(h:P:=by
  go_wp2_with fail;refine HX.out.mono ?_;rintro e w3⟨⟨q,rfl⟩,hk⟩;exact⟨rfl,⟨q,rfl⟩,S2.out.throw hk⟩
 ):P:=h
theorem FZ(h:P:=by
  go_enter func74,ntmps74
  go_wp2_with fail;go_ret
  exact⟨by rw[<- HV.out]; first | rfl | simp,HB.out⟩
 ):P:=h
theorem qR(h:P:=by
  refine wpAnyH_done ar ?_ _;go_wp2_with fail
  go_meet
  exact⟨_,_,_,rfl,rfl,rfl,k9,k10,k11,hid bb11⟩
 ):P:=h
theorem G7(h:P:=by
  intro w' ho' hg';exact h g cap w' ho' (.inl ⟨rfl,(Kept.of_grown hg').mono (fun k hk=>by simpa using hk)⟩)
 ):P:=h
theorem Gq(h:P:=by
  simp only[reachBytes]at this
  have e:s.size=s.data.toList.length:=by rw[Array.length_toList]; rfl
  omega
 ):P:=h
theorem EW(h:P:=by
  rw[d3]
  cases b7
  all_goals (go_enter func37,ntmps37; go_wp2_with fail; go_ret; exact⟨rfl,rfl⟩)
 ):P:=h
theorem Ha(h:P:=by
  rcases Nat.lt_or_ge OB w.heap.size with hx | hx
  ·exact hx
  rw[Array.getElem?_eq_none hx]at h5; cases h5
 ):P:=h
theorem Gi(h:P:=by
  rcases h.2 with ⟨h0,h1⟩ | ⟨g,cp,cur,h1,_⟩
  ·refine⟨none,0,?_⟩;rw[h0,h1]
  exact⟨_,_,h1⟩
 ):P:=h
theorem Gu(h:P:=by
  rw[Bool.and_eq_false_iff];right;rw[List.all_eq_false];exact⟨i,List.mem_range.2 hi,by simp[hx,hy,h]⟩
 ):P:=h
theorem GW(h:P:=by
  clear hE0;go_wp2_with fail;go_ret;exact⟨cP,HB0.out.trans (HB.out.mono HB0.out.size)⟩
 ):P:=h
theorem Ew(h:P:=by
  have h:=O7.out;rw[HT.out,<- List.append_assoc,@List.length_append Int (C++dV (l.take k)) Z];exact h
 ):P:=h
theorem Gt(h:P:=by
  rcases h.2 with ⟨h0,h1⟩ | ⟨g,cp,cur,h1,_⟩
  ·exact⟨none,0,by rw[h0,h1]⟩
  exact⟨_,_,h1⟩
 ):P:=h
theorem FP(h:P:=by
  rcases Nat.lt_or_ge b w.heap.size with hx | hx
  ·exact hx
  rw[Array.getElem?_eq_none hx]at h; cases h
 ):P:=h
theorem Gm(h:P:=by
  rcases Nat.lt_or_ge b w.heap.size with hl | hl
  ·exact hl
  rw[Array.getElem?_eq_none hl]at h; cases h
 ):P:=h
theorem ES(h:P:=by
  go_wp2_with fail;refine wp_loop_rounds 1 ?_;rw[rounds_succ];go_wp2_with fail;go_ret;exact⟨rfl,rfl⟩
 ):P:=h
theorem jO(h:P:=by
  go_wp2_with fail;refine HC.out.mono ?_;rintro e w2⟨⟨p,rfl⟩,hk⟩;exact⟨rfl,⟨p,rfl⟩,hk⟩
 ):P:=h
theorem G9(h:P:=by
  clear hS' yd y0 y1 y2 y3 y4 y5 y6 y7 y8;go_wp2_with fail;go_ret;exact⟨cP,B3.out⟩
 ):P:=h
theorem EE(h:P:=by
  go_wp2_with fail;go_ret
  exact⟨by rw[HV2.out,if_neg (by rw[HK.out,HD.out]; omega)]; rfl,B2.out⟩
 ):P:=h
theorem FK(h:P:=by
  go_wp2_with fail;exact⟨⟨t+1,ae,bH,HN,hid (HBD.out _)⟩,bI⟩
 ):P:=h
theorem F7(h:P:=by
  rcases Nat.lt_or_ge j xs.length with h | h
  ·exact h
  rw[List.getElem?_eq_none h]at hx; cases hx
 ):P:=h
theorem FW(h:P:=by
  by_cases h0:0<=x
  ·rw[cT x h0 ae]; omega
  rw[AC x hx0 ae]; omega
 ):P:=h
theorem xX(h:P:=by
  go_wp2_with fail;go_ret2;exact⟨_,cP,HB0.out.trans (HB.out.mono HB0.out.size)⟩
 ):P:=h
theorem qT(h:P:=by
  go_wp2_with fail;go_ret;exact⟨cP,HB0.out.trans (HB1.out.mono HB0.out.size)⟩
 ):P:=h
theorem Gb(h:P:=by
  intro v' w' ho' hg _;refine h v' w' ?_ (own_below hown hg hbase);rw[List.map_append]; exact ho'
 ):P:=h
theorem vv(h:P:=by
  rintro e' w' ⟨he',g',cap',hw',hs'⟩;refine⟨x,he',rfl,g',cap',?_,hs'⟩;rw[henc];exact hw'
 ):P:=h
theorem iN(h:P:=by
  go_wp2_with fail;go_ret;exact⟨cP,HB0.out.trans (HB.out.mono HB0.out.size)⟩
 ):P:=h
theorem xu(h:P:=by
  exact((W5.out.set (b:=w.heap.size+1) ae n1).set (b:=w.heap.size+1) ae n1)
 ):P:=h
theorem Fi(h:P:=by
  match j,hj with
  | 0,hj =>
   obtain rfl:=Option.some.inj hj;simp
  | j+1,hj=>simp[kM]at hj
 ):P:=h
theorem Hj(h:P:=by
  rcases Nat.lt_or_ge j xs.length with h | h
  ·exact h
  simp[List.getElem?_eq_none h]at hy
 ):P:=h
theorem D6(h:P:=by
  go_enter func215,ntmps215
  go_wp2;go_ret
  exact⟨by rw[<- HF.out]; rfl,rfl⟩
 ):P:=h
theorem Ga(h:P:=by
  go_enter func62,ntmps62
  go_wp2_with fail;go_ret;exact⟨rfl,Below.refl _ _⟩
 ):P:=h
theorem EX(h:P:=by
  go_enter func94,ntmps94
  go_wp2;go_ret
  exact⟨by rw[<- HF.out]; rfl,rfl⟩
 ):P:=h
theorem oG(h:P:=by
  rw[List.length_take]at this;have e1:min j xs.length=j:=ae
  rwa [e1]at this
 ):P:=h
theorem uV(h:P:=by
  clear hb1;go_wp2_with fail;go_ret;exact⟨by rw[HV.out,if_pos HZ.out]; rfl,B2.out⟩
 ):P:=h
theorem El(h:P:=by
  rw[d2];go_enter func40,ntmps40
  go_wp2_with fail;go_ret;exact⟨rfl,rfl⟩
 ):P:=h
theorem DU(h:P:=by
  rw[d2];go_enter func41,ntmps41
  go_wp2_with fail;go_ret;exact⟨rfl,rfl⟩
 ):P:=h
theorem FT(h:P:=by
  rw[d1];go_enter func64,ntmps64
  go_wp2_with fail;go_ret;exact⟨rfl,rfl⟩
 ):P:=h
theorem Ei(h:P:=by
  rw[List.length_take]at this;have e:min j xs.length=j:=ae
  rwa [e]at this
 ):P:=h
theorem ED(h:P:=by
  obtain⟨t,a,b,c⟩:=h.ended j ae h6;exact⟨t,a,b,by rw[hen]; exact c⟩
 ):P:=h
theorem E9(h:P:=by
  exact grow none 0 rfl (fun _=>⟨rfl,rfl⟩) (fun b hb=>by cases hb) ae
 ):P:=h
theorem DX(h:P:=by
  exact⟨rfl,(fun h=>cm),HKW.out.trans (HT.out.kept.trans HM.out.kept)⟩
 ):P:=h
theorem D5(h:P:=by
  rw[e];go_enter func96,ntmps96
  go_wp2;go_ret
  exact⟨by simp[h1],rfl⟩
 ):P:=h
theorem EQ(h:P:=by
  rw[e];rw[qZ]at hs;exact tF hb (c:=0) (a:=0) cz q.1 q.2 hs
 ):P:=h
theorem Hc(h:P:=by
  go_enter func92,ntmps92
  go_wp2;go_ret;exact⟨cP,rfl⟩
 ):P:=h
theorem Hi(h:P:=by
  go_ret;exact⟨congrArg (fun x=>Ending.returned (.int .i64 x)) HS.out,B1.out⟩
 ):P:=h
theorem ve(h:P:=by
  clear hb1;go_wp2_with fail;go_ret;exact⟨by rw[HV.out,if_neg hz]; rfl,B2.out⟩
 ):P:=h
theorem GZ(h:P:=by
  rintro e w' ⟨rfl,rfl⟩;go_wp2_with fail;go_end0;exact⟨rfl,Below.refl _ _⟩
 ):P:=h
theorem FR(h:P:=by
  rw[(aj (w.alloc _) _).block _ aw];exact(MapKept.heap_alloc w _).1
 ):P:=h
theorem xe(h:P:=by
  rintro e' w' ⟨y,he',hy,g',cap',hw',hs'⟩;exact⟨y,he',hy,g',cap',hw',hs'⟩
 ):P:=h
theorem GU(h:P:=by
  go_enter func124,ntmps124
  go_wp2_with fail;go_ret;exact⟨rfl,rfl⟩
 ):P:=h
theorem FO(h:P:=by
  go_wp2_with fail
  go_quiet (fail)
  go_wp2_with fail;go_ret;exact⟨rfl,_,rfl⟩
 ):P:=h
theorem FN(h:P:=by
  rcases List.mem_append.1 hz with hz | hz
  ·exact hpr z hz
  simp at hz; omega
 ):P:=h
theorem vp(h:P:=by
  rcases h'.m with rfl | h2
  ·exact h.m
  exact .inr (Nat.le_trans h.k.size h2)
 ):P:=h
theorem EU(h:P:=by
  go_enter func39,ntmps39
  go_wp2_with fail;go_ret;exact⟨rfl,rfl⟩
 ):P:=h
theorem qM(h:P:=by
  go_enter func57,ntmps57
  go_wp2_with fail;go_ret;exact⟨rfl,rfl⟩
 ):P:=h
theorem xJ(h:P:=by
  have:i<lo.length:=ae;simp[List.getD,aY this]
 ):P:=h
theorem EK(h:P:=by
  rw[List.getElem?_eq_none ji]at hj; cases hj
 ):P:=h
theorem rp(h:P:=by
  exact⟨rfl,.inr ⟨mH,(congrArg thv hE).symm,hb⟩⟩
 ):P:=h
theorem rK(h:P:=by
  rintro e w1⟨rfl,rfl⟩;exact⟨rfl,⟨_,rfl⟩,Below.refl _ _⟩
 ):P:=h
theorem ny(h:P:=by
  go_enter func30,ntmps30
  go_wp2;go_ret;exact⟨rfl,rfl⟩
 ):P:=h
theorem vk(h:P:=by
  unfold ltD;rw[if_pos ae,if_pos qi,hi,Int.toNat_natCast,e1]
 ):P:=h
theorem om(h:P:=by
  exact((Below.refl _ _).alloc lRn _).alloc aw _
 ):P:=h
theorem vO(h:P:=by
  simp only at hc;unfold dO at hc
  split at hc
  ·cases hc
  omega
 ):P:=h
theorem dS(h:P:=by
  rw[World.cell?_setCell_far _ _ _ _ aK]; assumption
 ):P:=h
theorem rE(h:P:=by
  go_wp2_with fail;go_ret;exact⟨cP,HB0.out⟩
 ):P:=h
theorem bj(h:P:=by
  intro w h;(try dsimp only at h);go_simp;try with_reducible rfl
 ):P:=h
theorem vZ(h:P:=by
  have h2:=H.lt _ hm;rw[H.los]at h2 ⊢;exact Pd hil h2
 ):P:=h
theorem oD(h:P:=by
  go_wp2_with fail;go_ret;exact⟨cP,rfl⟩
 ):P:=h
theorem qN(h:P:=by
  simp[IntKind.wrap,IntKind.bits,IntKind.signed]; omega
 ):P:=h
theorem wC(h:P:=by
  go_wp2_with fail;go_ret;exact⟨rfl,aj _ _⟩
 ):P:=h
theorem xb(h:P:=by
  exact⟨sH,sH⟩
 ):P:=h
theorem iK(h:P:=by
  obtain⟨_,_,h1,_⟩:=h.ck; rw[ai h1]; rfl
 ):P:=h
theorem vF(h:P:=by
  go_wp2_with fail;go_ret;exact⟨rfl,HB2.out⟩
 ):P:=h
theorem uM(h:P:=by
  exact((S5.out.set ae).set ae)
 ):P:=h
theorem vA(h:P:=by
  rcases hcells with h0 | hx
  ·omega
  exact hx
 ):P:=h
theorem rF(h:P:=by
  rcases h.m with h | h
  ·exact .inr h
  omega
 ):P:=h
theorem uS(h:P:=by
  rcases hsg.2.2 with h0 | h
  ·omega
  exact h
 ):P:=h
theorem jf(h:P:=by
  go_wp2_with fail;go_ret;exact⟨rfl,rfl⟩
 ):P:=h
theorem qO(h:P:=by
  rcases pt.2 with h0 | hx
  ·omega
  exact hx
 ):P:=h
theorem oO(h:P:=by
  simp[Array.getElem?_setIfInBounds]; omega
 ):P:=h
theorem rJ(h:P:=by
  rintro e w' ⟨rfl,hb⟩;exact FIN w' hb
 ):P:=h
theorem np(h:P:=by
  go_wp2;go_ret;exact⟨rfl,rfl⟩
 ):P:=h
theorem lR(h:P:=by
  exact⟨rfl,Below.refl _ _⟩
 ):P:=h
theorem dF(h:P:=by
  rw[dM rfl];go_simp
 ):P:=h
theorem oF(h:P:=by
  rw[if_pos a1]at h; cases h
 ):P:=h
theorem nv(h:P:=by
  rw[if_pos a2]at h; cases h
 ):P:=h
theorem nt(h:P:=by
  rw[if_pos a4]at h; cases h
 ):P:=h
theorem cF(h:P:=by
  simpa using this
 ):P:=h
theorem GC(h:P:=by
  have BN:=hid (aj wr (cL x));have HC1:=hid (HE.out j x hx ys (wr.alloc (cL x)) g3 cap3 aa ac hyl HY.out (HST.out.trans (Stp.of_below BN.out)) (HWR.out.later BN.out) (br HRW.out (fun B hB=>BN.out.block B (aW HRW.out hB))) HAB.out)
  go_wp2_with fail;generalize wr.alloc (cL x)=W at *;have hszW:=BN.out.size;refine HC1.out.mono ?_;rintro e w5⟨y,rfl,hok,g4,cap4,hw5,hs5⟩;have hgr:g3<wr.heap.size:=HWR.out.g_lt;have hRr:R<wr.heap.size:=HWR.out.lt
  have row5:=br (w':=w5) HRW.out (fun B hB=>by
   have h1:=aW HRW.out hB;have h2:∃a,aa=some a/\a.block=B:=nD hB;obtain⟨a,ha1,ha2⟩:=h2;have h3:=HAB.out a ha1;have h4:=HST.out.size;exact(hs5.block (b:=B) ae ae ae).trans (BN.out.block B h1))
  have gg4:=hw5.g_lt
  have hab5:∀b,aa=some b->b.block≠g4/\b.block<w5.heap.size:=fun a ha1=>by
   exact G8
  have W5:=hid hw5;have S5:=hid (HST.out.trans ((Stp.of_below BN.out).trans hs5));have O5:=hid hok;have BN5:=hid (aj w5 (cM y));have R6:=hid (br (w':=w5.alloc (cM y)) row5 (fun B hB=>BN5.out.block B (aW row5 hB)));have HAB5:=hid hab5;have NC:=hid (nC w5 y);have hz6:(w5.alloc (cM y)).heap.size=w5.heap.size+1:=aw;clear hw5 hs5 row5 hab5 HC1 hok
  go_wp2_with (at_builtin; (refine kE _ rfl (.tmp 28) (.tmp 33) _ rfl _ i0 _ _ _ uN hi hz0 hz1 hz2 rfl aA _ j _ rfl R6.out ⟨w5.heap.size,0,none⟩ 1 1 (oC0 y) rfl rfl NC.out (oC y) ae dA ae ?_; intro B cap7 w7 hrow7 hor7; have R7:=hid hrow7; have OR7:=hid hor7; clear hrow7 hor7))
  generalize w5.alloc (cM y)=W6 at *
  have hBn:w.heap.size<=B/\B≠g4/\Kept (fun k=>k=B) W6 w7:=by
   exact DY
  have hRw:=S5.out.size
  go_roundw
  ·exact Hg
  simp[intOf]; omega
 ):P:=h
theorem FJ(h:P:=by
  skip
  have HC1:=hid (HE.out j x hx hjk ys (wr.alloc (cL x)) g3 cap3 aa ac hyl HY.out (HST.out.trans (Stp.of_below BN.out)) (HWR.out.later BN.out) (br HRW.out (fun B hB=>BN.out.block B (aW HRW.out hB))) HAB.out)
  go_wp2_with fail;generalize wr.alloc (cL x)=W at *;have hszW:=BN.out.size;refine HC1.out.mono ?_;rintro e w5⟨y,rfl,hok,g4,cap4,hw5,hs5⟩;have hgr:g3<wr.heap.size:=HWR.out.g_lt;have hRr:R<wr.heap.size:=HWR.out.lt
  have row5:=br (w':=w5) HRW.out (fun B hB=>by
   have h1:=aW HRW.out hB;have h2:∃a,aa=some a/\a.block=B:=nD hB;obtain⟨a,ha1,ha2⟩:=h2;have h3:=HAB.out a ha1;have h4:=HST.out.size;exact(hs5.block (b:=B) ae ae ae).trans (BN.out.block B h1))
  have gg4:=hw5.g_lt
  have hab5:∀b,aa=some b->b.block≠g4/\b.block<w5.heap.size:=fun a ha1=>by
   exact G8
  have W5:=hid hw5;have S5:=hid (HST.out.trans ((Stp.of_below BN.out).trans hs5));have O5:=hid hok;have BN5:=hid (aj w5 (cM y));have R6:=hid (br (w':=w5.alloc (cM y)) row5 (fun B hB=>BN5.out.block B (aW row5 hB)));have HAB5:=hid hab5;have NC:=hid (nC w5 y);have hz6:(w5.alloc (cM y)).heap.size=w5.heap.size+1:=aw;clear hw5 hs5 row5 hab5 HC1 hok
  go_wp2_with (at_builtin; (refine kE _ rfl (.tmp 28) (.tmp 33) _ rfl _ i0 _ _ _ uN hi hz0 hz1 hz2 rfl aA _ j _ rfl R6.out ⟨w5.heap.size,0,none⟩ 1 1 (oC0 y) rfl rfl NC.out (oC y) ae dA ae ?_; intro B cap7 w7 hrow7 hor7; have R7:=hid hrow7; have OR7:=hid hor7; clear hrow7 hor7))
  generalize w5.alloc (cM y)=W6 at *
  have hBn:w.heap.size<=B/\B≠g4/\Kept (fun k=>k=B) W6 w7:=by
   exact DY
  have hRw:=S5.out.size
  go_roundw
  ·exact Hg
  simp[intOf]; omega
 ):P:=h
theorem Gf(h:P:=by
  have hlt':(k:Int)<(m.dn:Int):=ae
  by_cases hbd:z3<=2147483647
  ·obtain⟨x,hxk⟩:∃x,m.data[k]? =some x:=⟨_,aY (by rw[PD.out.1]; exact hlt)⟩
   obtain⟨b,off,hfa,hat⟩:=PD.out.2.resolve_left ae;have hat:=hat k x hxk;have hu:=UD.out k x hxk;have hk0:(0:Int)<=(k:Int):=ae;have hbd':(z3:Int)<=2147483647:=ae;have hbq:decide ((z3:Int)<=2147483647)=true:=decide_eq_true hbd';rw[hfa]at m6;obtain⟨_,g1⟩:=hat;rw[hfa];go_wp2_with fail;exact⟨⟨k+1,z3+x.2.1.2.1,ae,bH,bH,⟨_,rfl⟩,ae,hid (by have:=HF3.out; rw[Jo hxk]; omega)⟩,bI⟩
  have hbd':¬(z3:Int)<=2147483647:=ae;have hbq:decide ((z3:Int)<=2147483647)=false:=decide_eq_false hbd';clear hlt;go_wp2_with fail
  go_loopw [3,7] (fun s i wr=>∃k z:Nat,k<=m.en/\s=.int .i64 (z:Nat)/\i=.int .i64 k/\(∃q,wr=W0.drewN q)/\z<=1125899906842624/\Hid (z3+mR (m.exps.take k)<=z)) (fun _ i _=>m.en-(intOf i).toNat)
  case atStart=>exact⟨0,z3,ae,rfl,rfl,⟨_,rfl⟩,ae,hid (by simp[mR])⟩
  case round =>
   obtain⟨k,z4,hk,rfl,rfl,⟨q4,rfl⟩,hz4,HF4⟩:=hrel
   by_cases hlt:k<m.en
   ·have hlt':(k:Int)<(m.en:Int):=ae
    by_cases hbd:z4<=2147483647
    ·exact DT
    have hbd':¬(z4:Int)<=2147483647:=ae;have hbq:decide ((z4:Int)<=2147483647)=false:=decide_eq_false hbd';exact Gn
   obtain rfl:k=m.en:=ae;clear hlt;go_wp2_with fail;go_ret;exact⟨z4,rfl,BW.out.trans (BW2.out _),fun h4=>vB⟩
 ):P:=h
theorem GH(h:P:=by
  have hlt':(k:Int)<(m.en:Int):=ae
  by_cases hbd:z4<=2147483647
  ·exact DT
  have hbd':¬(z4:Int)<=2147483647:=ae;have hbq:decide ((z4:Int)<=2147483647)=false:=decide_eq_false hbd';clear hlt;go_wp2_with fail;go_ret;exact⟨z4,rfl,BW.out.trans (BW2.out _),fun h4=>vB⟩
 ):P:=h
theorem GF(h:P:=by
  intro i y' hi'
  by_cases hij:i<ys.length
  ·rw[List.getElem?_append_left hij]at hi';exact HY.out i y' hi'
  rw[List.getElem?_append_right ae]at hi'
  have hi0:i-ys.length=0:=by
   exact Gr
  rw[hi0]at hi';simp at hi';subst hi';obtain rfl:i=j:=ae;exact⟨x,hx,O5.out⟩
 ):P:=h
theorem D7(h:P:=by
  rcases OR7.out with ⟨h1,h2⟩ | ⟨h1,h2⟩
  ·exact Gc
  have:=S5.out.size;exact⟨ae,ae,h2.mono (fun k hk=>hk.elim)⟩
 ):P:=h
theorem GY(h:P:=by
  have h3:=HAB.out a ha1;have h1:a.block<wr.heap.size:=aW HRW.out (oZ HRW.out ha1);exact⟨hs5.ne ae h3.2,Nat.lt_of_lt_of_le h1 (Nat.le_trans hszW hs5.size)⟩
 ):P:=h
theorem Ge(h:P:=by
  have:=(W5.out.later BN5.out).kept hBn.2.2 ae (Ne.symm hBn.2.1);rw[uD enc hx]
  simpa[List.append_assoc] using this
 ):P:=h
theorem GV(h:P:=by
  exact⟨(S5.out.k.trans (aP BN5.out)).then hBn.2.2 (fun k hk hkB=>by have:=hBn.1; omega),S5.out.m⟩
 ):P:=h
theorem Fj(h:P:=by
  have HC:=hid hc;clear hc hk;go_wp2_with fail;go_end0;exact .inl ⟨h0,rfl,HC.out⟩
 ):P:=h
theorem GR(h:P:=by
  exact⟨j+1,ae,rfl,(BW.out.trans (BN.out.mono BW.out.size)).drew⟩
 ):P:=h
theorem xd(h:P:=by
  intro w h;(try dsimp only at h);go_simp;try with_reducible rfl
 ):P:=h
theorem oJ(h:P:=by
  exact absurd hb aK
 ):P:=h
theorem Hg(h:P:=by
  refine⟨j+1,ys++[y],some ⟨B,0,none⟩,cap7,g4,cap4,ae,rfl,rfl,by simp[hyl],?_,?_,?_,?_,?_⟩
  ·intro i y' hi'
   by_cases hij:i<ys.length
   ·rw[List.getElem?_append_left hij]at hi';exact HY.out i y' hi'
   rw[List.getElem?_append_right ae]at hi'
   have hi0:i-ys.length=0:=by
    exact Gr
   rw[hi0]at hi';simp at hi';subst hi';obtain rfl:i=j:=ae;exact⟨x,hx,O5.out⟩
  ·have:=R7.out
   simpa[ir] using this
  ·exact uW
  ·have:=(W5.out.later BN5.out).kept hBn.2.2 ae (Ne.symm hBn.2.1)
   rw[uD enc hx]
   simpa[List.append_assoc] using this
  exact⟨(S5.out.k.trans (aP BN5.out)).then hBn.2.2 (fun k hk hkB=>by have:=hBn.1; omega),S5.out.m⟩
 ):P:=h
theorem DT(h:P:=by
  obtain⟨x,hxk⟩:∃x,m.exps[k]? =some x:=⟨_,aY (by rw[PE.out.1]; exact hlt)⟩;obtain⟨b,off,hfa,hat⟩:=PE.out.2.resolve_left ae;have hat:=hat k x hxk;have hu:=UE.out k x hxk;have hk0:(0:Int)<=(k:Int):=ae;have hbd':(z4:Int)<=2147483647:=ae;have hbq:decide ((z4:Int)<=2147483647)=true:=decide_eq_true hbd';rw[hfa]at m7;obtain⟨g0,_⟩:=hat;rw[hfa];go_wp2_with fail;exact⟨⟨k+1,z4+x.1.size,ae,bH,bH,⟨_,rfl⟩,ae,hid (by have:=HF4.out; rw[ID hxk]; omega)⟩,bI⟩
 ):P:=h
theorem Gn(h:P:=by
  clear hlt;go_wp2_with fail;go_ret;exact⟨z4,rfl,BW.out.trans (BW2.out _),fun h4=>vB⟩
 ):P:=h
theorem DY(h:P:=by
  rcases OR7.out with ⟨h1,h2⟩ | ⟨h1,h2⟩
  ·exact Gc
  have:=S5.out.size;exact⟨ae,ae,h2.mono (fun k hk=>hk.elim)⟩
 ):P:=h
theorem G8(h:P:=by
  have h3:=HAB.out a ha1;have h1:a.block<wr.heap.size:=aW HRW.out (oZ HRW.out ha1);exact⟨hs5.ne ae h3.2,Nat.lt_of_lt_of_le h1 (Nat.le_trans hszW hs5.size)⟩
 ):P:=h
theorem Gr(h:P:=by
  rcases Nat.eq_zero_or_pos (i-ys.length) with h | h
  ·exact h
  rw[List.getElem?_eq_none aK]at hi'; cases hi'
 ):P:=h
theorem Gc(h:P:=by
  have h1':aa=some ⟨B,0,none⟩:=(Value.slice.inj h1).1;exact⟨(HAB.out _ h1').1,(HAB5.out _ h1').1,h2⟩
 ):P:=h
theorem uW(h:P:=by
  intro b' hb';simp at hb';subst hb';exact⟨hBn.1,hBn.2.1⟩
 ):P:=h
abbrev aB(a0:Int)(a1:BAz)(a2:Int)(a3:BAz)(a4:BAz)(a5:Bool):Obj:=.cells #[.int .u8 a0,.string a1,.int .i8 a2,.string a3,.string a4,.bool a5] 131
abbrev au(a0:Int)(a1:Int)(a2:Value):Obj:=.cells #[.int .u8 a0,.int .i64 a1,a2] 82
abbrev aD(a0:BAz)(a1:BAz):Obj:=.cells #[.string a0,.string a1] 55
abbrev bF(a0:OAz)(a1:Nat)(a2:Nat)(a3:OAz)(a4:Nat)(a5:Nat)(a6:OAz)(a7:Nat)(a8:Nat)(a9:Int)(a10:Int)(a11:OAz)(a12:Nat)(a13:Nat)(a14:OAz)(a15:Nat)(a16:Nat)(a17:OAz)(a18:Nat)(a19:Nat):Obj:=.cells #[.slice a0 a1 a2,.slice a3 a4 a5,.slice a6 a7 a8,.int .i64 a9,.int .i64 a10,.slice a11 a12 a13,.slice a14 a15 a16,.slice a17 a18 a19] 29
abbrev aO(a0:BAz)(a1:BAz):Obj:=.cells #[.string a0,.string a1] 114
abbrev aV(a0:Int)(a1:Int)(a2:OAz)(a3:Nat)(a4:Nat):Obj:=.cells #[.int .u8 a0,.int .i64 a1,.slice a2 a3 a4] 82
abbrev cB(a0:OAz)(a1:Nat)(a2:Nat)(a3:OAz)(a4:Nat)(a5:Nat)(a6:OAz)(a7:Nat)(a8:Nat)(a9:Int)(a10:Int)(a11:OAz)(a12:Nat)(a13:Nat)(a14:Int)(a15:Int):Obj:=.cells #[.slice a0 a1 a2,.slice a3 a4 a5,.slice a6 a7 a8,.int .i64 a9,.int .i8 a10,.slice a11 a12 a13,.int .i8 a14,.int .i64 a15] 37
abbrev bk(a0:Int)(a1:BAz)(a2:OAz)(a3:Nat)(a4:Nat):Obj:=.cells #[.int .i64 a0,.string a1,.slice a2 a3 a4] 61
abbrev aZ(a0:Int)(a1:Bool)(a2:Int):Obj:=.cells #[.int .u8 a0,.bool a1,.int .u64 a2] 80
abbrev aR(a0:Bool):Obj:=.cells #[.bool a0] 4
abbrev cX(a0:Int)(a1:Int)(a2:OAz)(a3:Nat)(a4:Nat)(a5:OAz)(a6:Nat)(a7:Nat):Obj:=.cells #[.int .i64 a0,.int .i64 a1,.slice a2 a3 a4,.slice a5 a6 a7] 47
abbrev fk(a0:OAz)(a1:Nat)(a2:Nat)(a3:OAz)(a4:Nat)(a5:Nat)(a6:OAz)(a7:Nat)(a8:Nat)(a9:OAz)(a10:Nat)(a11:Nat)(a12:Int):Obj:=.cells #[.slice a0 a1 a2,.slice a3 a4 a5,.slice a6 a7 a8,.slice a9 a10 a11,.int .i64 a12] 74
abbrev cG(a0:Int)(a1:OAz)(a2:Nat)(a3:Nat):Obj:=.cells #[.int .i64 a0,.slice a1 a2 a3] 51
abbrev bM(a0:Int):Obj:=.cells #[.int .i64 a0] 3
abbrev bR(a0:OAz):Obj:=.cells #[.pointer a0] 113
abbrev di(a0:BAz)(a1:Int):Obj:=.cells #[.string a0,.int .i64 a1] 64
abbrev mz(a0:Int)(a1:BAz)(a2:Int)(a3:BAz)(a4:BAz)(a5:Bool):Obj:=.cells #[.int .u8 a0,.string a1,.int .i8 a2,.string a3,.string a4,.bool a5] 214
abbrev ei(a0:Int):Obj:=.cells #[.int .u8 a0] 5
abbrev eO(a0:Value)(a1:Value)(a2:Value)(a3:Value)(a4:Int):Obj:=.cells #[a0,a1,a2,a3,.int .i64 a4] 74
abbrev pq(a0:BAz)(a1:BAz)(a2:BAz)(a3:Int)(a4:Int):Obj:=.cells #[.string a0,.string a1,.string a2,.int .u8 a3,.int .i64 a4] 116
abbrev iy(a0:BAz):Obj:=.cells #[.string a0] 9
abbrev i9(a0:OAz)(a1:Nat)(a2:Nat):Obj:=.cells #[.slice a0 a1 a2] 49
abbrev kR(a0:Int):Obj:=.cells #[.int .i64 a0] 38
abbrev su(a0:Int)(a1:Int):Obj:=.cells #[.int .i64 a0,.int .i64 a1] 139
abbrev jJ(a0:OAz)(a1:Nat)(a2:Nat):Obj:=.cells #[.slice a0 a1 a2] 22
abbrev fH(a0:Value):Obj:=.cells #[a0] 163
abbrev kN(a0:OAz)(a1:Nat)(a2:Nat):Obj:=.cells #[.slice a0 a1 a2] 30
abbrev oV(a0:Int):Obj:=.cells #[.int .u64 a0] 53
theorem sIB{α:Type _}(l:List α)(i:Nat)(a:α):l.toArray.setIfInBounds i a=(l.set i a).toArray:=List.setIfInBounds_toArray l i a
theorem sC0{α:Type _}{x:α}{xs:List α}{a:α}:(x::xs).set 0 a=a::xs:=List.set_cons_zero
theorem sCs{α:Type _}{x:α}{xs:List α}{a:α}:(x::xs).set (i+1) a=x::xs.set i a:=List.set_cons_succ
variable {P:Program}{ops:Array Oper}{Q:Exit->Act->World->Prop}{oi:Oper}{v:Value}{fuel:Nat}{a:Act}{w:World}
theorem tkH{md:Region.Mode}{S:World->Prop}{listed:Array Bool}(hi:ops[i]? =some oi)(hv:∀w,S w->(execOp a.eval oi).run P w=.ok (.value v) w)
  (h:wpAnyH P md ops Q S fuel (listed.setIfInBounds i true) (a.put oi.dst v) w) (hc:(Region.noSelect ops&&Region.free md ops listed i&&(Region.ready md ops listed).contains i)=true:=by kernel_rfl) (hw:Region.wanted oi (yielded ops a.tmps)=true:=by rfl)
  (hQ:∀c a w,Q (.panic c) (a.put oi.dst v) w->Q (.panic c) a w:=by exact fun _ _ _ h=>h) (hS:S w:=by assumption):wpAnyH P md ops Q S (fuel+1) listed a w:=by
 simp only[Bool.and_eq_true]at hc;exact wpAnyH_take hi hc.1.1 hc.1.2 hc.2 hQ (Or.inl ⟨hw,hv⟩) hS h
theorem tkA{md:Region.Mode}{S:World->Prop}{d:Option Tmp}{listed:Array Bool}(hi:ops[i]? =some oi)(hd:oi.dst=d)(hv:∀w,S w->(execOp a.eval oi).run P w=.ok (.value v) w)
  (h:wpAnyH P md ops Q S fuel (listed.setIfInBounds i true) (a.put d v) w) (hc:(Region.noSelect ops&&Region.free md ops listed i&&(Region.ready md ops listed).contains i)=true:=by kernel_rfl) (hw:Region.wanted oi (yielded ops a.tmps)=true:=by kernel_rfl)
  (hQ:∀c a w,Q (.panic c) (a.put d v) w->Q (.panic c) a w:=by exact fun _ _ _ h=>h) (hS:S w:=by assumption):wpAnyH P md ops Q S (fuel+1) listed a w:=by
 subst hd;exact tkH hi hv h hc hw hQ hS
theorem tkB{md:Region.Mode}{S:World->Prop}{d:Option Tmp}{listed:Array Bool}(h:wpAnyH P md ops Q S fuel (listed.setIfInBounds i true) (a.put d v) w)(hi:ops[i]? =some oi:=by kernel_rfl)(hd:oi.dst=d:=by kernel_rfl)(hv:∀w,S w->(execOp a.eval oi).run P w=.ok (.value v) w:=by (intro w h;(try dsimp only at h);go_simp;try with_reducible rfl))
  (hc:(Region.noSelect ops&&Region.free md ops listed i&&(Region.ready md ops listed).contains i)=true:=by kernel_rfl) (hw:Region.wanted oi (yielded ops a.tmps)=true:=by kernel_rfl) (hQ:∀c a w,Q (.panic c) (a.put d v) w->Q (.panic c) a w:=by exact fun _ _ _ h=>h) (hS:S w:=by assumption):wpAnyH P md ops Q S (fuel+1) listed a w:=tkA hi hd hv h hc hw hQ hS
theorem tkC{md:Region.Mode}{S:World->Prop}{listed:Array Bool}(hi:ops[i]? =some oi)(h:wpAnyH P md ops Q S fuel (listed.setIfInBounds i true) (a.put oi.dst v) w)(hv:∀w,S w->(execOp a.eval oi).run P w=.ok (.value v) w:=by (intro w h;(try dsimp only at h);go_simp;try with_reducible rfl))
  (hc:(Region.noSelect ops&&Region.free md ops listed i&&(Region.ready md ops listed).contains i)=true:=by kernel_rfl) (hw:Region.wanted oi (yielded ops a.tmps)=true:=by rfl) (hQ:∀c a w,Q (.panic c) (a.put oi.dst v) w->Q (.panic c) a w:=by exact fun _ _ _ h=>h) (hS:S w:=by assumption):wpAnyH P md ops Q S (fuel+1) listed a w:=tkH hi hv h hc hw hQ hS
variable {o:Oper}
theorem rdA{md:Region.Mode}{S:World->Prop}{listed:Array Bool}{rs:List Nat}(h:∀K:Act->World->Prop,Shut (∀a w,S w->(S w->wpAnyH P md ops Q S fuel (listed.setIfInBounds i true) a w)->K a w)->Oper.wp P o a w K Q)(hs:AllReadyH P md ops Q S fuel listed a w rs)(ho:ops[i]? =some o:=by kernel_rfl)(hw:Region.wanted o (yielded ops a.tmps)=true:=by kernel_rfl):AllReadyH P md ops Q S fuel listed a w (i::rs):=AllReadyH.cons ho (fun K hK=>vG) hs
theorem rdY{md:Region.Mode}{S:World->Prop}{rs:List Nat}{listed:Array Bool}(h:AllReadyH P md ops Q S fuel listed a w rs)(hr:Region.ready md ops listed=rs:=by kernel_rfl)(hne:rs≠[]:=by simp):wpAnyH P md ops Q S (fuel+1) listed a w:=wpAnyH_ready hr hne h
theorem rN{md:Region.Mode}{S:World->Prop}{listed:Array Bool}   : AllReadyH P md ops Q S fuel listed a w []:=AllReadyH.nil
variable {P:Prop}
theorem hid(h:P):Hid P:=h
def isL(c:Int):Bool:=decide (c=119) || decide (c=108)
variable {c:Int}
theorem OQ(h:isL c=true):c<128:=by
 simp only[isL,Bool.or_eq_true,decide_eq_true_eq]at h; omega
theorem jx(c:Int):(c=119/\isL c=true)\/(c=108/\isL c=true)\/((c==119)=false/\(c==108)=false/\isL c=false):=by
 by_cases h:c=119
 ·exact .inl ⟨h,by subst h; rfl⟩
 by_cases h':c=108
 ·exact .inr (.inl ⟨h',by subst h'; rfl⟩)
 exact .inr (.inr ⟨kJ,by simpa using h',by simp[isL,h,h']⟩)
theorem nV(c:Int)(w:World):Calls prog 49 #[.int .u8 c] w fun e w'=>e=.returned (.bool (isL c))/\w'=w:=by
 rcases jx c with ⟨rfl,h⟩ | ⟨rfl,h⟩ | ⟨h1,h2,h⟩
 all_goals
  go_enter func49,ntmps49
  go_wp2;go_ret
  first | exact⟨rfl,rfl⟩ | (rw[h]; simp_all)
theorem nI(c:Int)(w:World):Calls prog 89 #[.int .u8 c] w fun e w'=>e=.returned (.bool (isL c))/\w'=w:=by
 rcases jx c with ⟨rfl,h⟩ | ⟨rfl,h⟩ | ⟨h1,h2,h⟩
 all_goals
  go_enter func89,ntmps89
  go_wp2;go_ret
  first | exact⟨rfl,rfl⟩ | (rw[h]; simp_all)
def dI(v c:Int):Bool:=decide (c=108) || (decide (c=119)&&decide (v<4294967296))
theorem yo(v c:Int)(w:World):Calls prog 25 #[.int .u64 v,.int .u8 c] w fun e w'=>e=.returned (.bool (dI v c))/\w'=w:=by
 rcases jx c with ⟨rfl,h⟩ | ⟨rfl,h⟩ | ⟨h1,h2,h⟩
 all_goals
  go_enter func25,ntmps25
  go_wp2;go_ret
  first | exact⟨rfl,rfl⟩ | (simp_all [dI])
theorem UI(k m c:Int)(B:Nat)(w:World)(hm:w.cell? ⟨B,0,none⟩=some (.int .i64 m)) :
  Calls prog 66 #[.int .i64 k,.int .u8 c,.pointer (some ⟨B,0,none⟩)] w fun e w'=>e=.returned (.bool (decide (k<m)))/\w'=w:=by
 go_enter func66,ntmps66;exact np
def dB(s:BAz)(i:Nat):Int:=((s.data.toList[i]?.getD 0).toNat:Int)
theorem iu(s:BAz)(i:Nat)(h:i<s.size):((s[i]'h).toNat:Int)=dB s i:=by
 have h':i<s.data.toList.length:=kJ;rw[dB,aY h',Option.getD_some,Array.getElem_toList]; rfl
theorem AY(s:BAz)(K B:Nat)(p:Nat->Bool)(w:World)(hs:s.size<=1073741824)
  (he:∀args w,(callFunc K args).run prog w=.ok (.enter K args) w)
  (hp:∀(pos i:Nat)(h:i<s.size),isL (dB s i)=true->Calls prog K #[.int .i64 i,.int .u8 (s[i]'h).toNat,.pointer (some ⟨B,0,none⟩)] (w.iter s pos) fun e w'=>e=.returned (.bool (p i))/\w'=w.iter s pos) :
  Calls prog 23 #[.string s,.func (.func K) #[] #[.pointer (some ⟨B,0,none⟩)]] w fun e w' =>
   ∃b pos,e=.returned (.bool b)/\(b=true↔∀i,i<s.size->isL (dB s i)=true/\p i=true)/\w'=w.iter s pos:=by
 have HP:=hid hp;clear hp;go_enter func23,ntmps23
 go_wp2
 go_loopw [5] (fun _ wr=>∃k:Nat,k<=s.size/\wr=w.iter s k/\∀i,i<k->isL (dB s i)=true/\p i=true) (fun _ wr=>s.size-wr.iterPos w.heap.size)
 case atStart=>exact⟨0,Nat.zero_le _,rfl,fun i h=>ae⟩
 case round =>
  obtain⟨k,hk,rfl,hall⟩:=hrel;have HA:=hid hall;clear hall
  by_cases hlt:k<s.size
  ·by_cases hL:isL (dB s k)=true
   ·have hlow:(s[k]'hlt).toNat<128:=by have:=OQ hL; rw[<- iu s k hlt]at this; omega
    have hnx:∀ty,(Instr.next (.pointer (some ⟨w.heap.size,0,none⟩)) true ty).run prog (w.iter s k)=_:=fun ty=>run_next_ascii w s k ty hlt hlow
    go_wp2_with fail;refine(nV _ _).mono ?_;rintro e w1⟨rfl,rfl⟩;rw[iu s k hlt,hL];go_wp2_with fail;refine(HP.out (k+1) k hlt hL).mono ?_;rintro e w2⟨rfl,rfl⟩
    cases hpk:p k
    ·go_wp2;go_ret
     exact⟨false,k+1,rfl,⟨fun h=>(nomatch h),fun h=>(by rw[(h k hlt).2]at hpk; cases hpk)⟩,rfl⟩
    go_wp2
    go_roundw
    case rel =>
     refine⟨k+1,ae,rfl,fun i hi=>?_⟩
     rcases Nat.lt_or_ge i k with h | h
     ·exact HA.out i h
     obtain rfl:i=k:=ae;exact⟨hL,hpk⟩
    case measure=>simp; omega
   have hL':isL (dB s k)=false:=by simpa using hL
   have hnx:∀ty,(Instr.next (.pointer (some ⟨w.heap.size,0,none⟩)) true ty).run prog (w.iter s k)=_:=fun ty=>run_next_any w s k ty hlt;generalize (Utf8.decode s k).2=wd at hnx;generalize (Utf8.decode s k).1=rv at hnx;go_wp2_with fail;refine(nV _ _).mono ?_;rintro e w1⟨rfl,rfl⟩;rw[iu s k hlt,hL'];go_wp2;go_ret;exact⟨false,_,rfl,⟨fun h=>(nomatch h),fun h=>absurd (h k hlt).1 hL⟩,rfl⟩
  have hnx:∀ty,(Instr.next (.pointer (some ⟨w.heap.size,0,none⟩)) true ty).run prog (w.iter s k)=_:=fun ty=>run_next_end w s k ty hlt
  go_wp2;go_ret
  exact⟨true,_,rfl,⟨fun _ i hi=>HA.out i ae,fun _=>rfl⟩,rfl⟩
def cC(s:BAz)(most:Nat):Bool:=(List.range s.size).all (fun i=>isL (dB s i))&&decide (s.size<=most)
theorem r9(s:BAz)(most:Nat):cC s most=true↔(∀i,i<s.size->isL (dB s i)=true)/\s.size<=most:=by
 simp[cC]
variable {s:BAz}{most:Nat}{b:Bool}
theorem qW(h:b=true↔(∀i,i<s.size->isL (dB s i)=true)/\s.size<=most):b=cC s most :=
 Bool.eq_iff_iff.2 (h.trans (r9 s most).symm)
theorem uq(s:BAz)(most:Nat)(w:World)(hs:s.size<=1073741824)(hm:most<=1073741824) :
  Calls prog 50 #[.string s,.int .i64 most] w fun e w'=>e=.returned (.bool (cC s most))/\Below w.heap.size w w':=by
 have hmf:∀(fn:Fn)(first cap:AVz)(w:World),(Instr.makeFunc fn first cap).run prog w=.ok (.func fn first cap) w:=fun _ _ _ _=>rfl
 have HE:=hid (AY s 66 w.heap.size (fun i=>decide ((i:Int)<most)) (w.alloc (bM most)) hs (fun _ _=>bV) (fun pos i h _=>UI i most _ w.heap.size _ (by
  rw[World.iter,World.cell?_alloc_past _ _ _ aw,World.cell?_alloc_at _ _ _ _ rfl]; rfl)))
 go_enter func50,ntmps50
 go_wp2_with fail;refine HE.out.mono ?_;rintro e w1⟨b,pos,rfl,hb,rfl⟩;go_wp2;go_ret
 have hbl:b=cC s most:=by
  refine qW (hb.trans ⟨fun h=>⟨fun i hi=>(h i hi).1,?_⟩,fun h i hi=>⟨h.1 i hi,aK⟩⟩)
  rcases Nat.eq_zero_or_pos s.size with h0 | h0
  ·omega
  have:=(h (s.size-1) ae).2;simp at this;omega
 subst hbl;exact⟨rfl,((Below.refl _ _).alloc lRn _).alloc aw _⟩
theorem JO(s:BAz)(most:Nat)(w:World)(hs:s.size<=1073741824)(hm:most<=1073741824) :
  Calls prog 130 #[.string s,.int .i64 most] w fun e w'=>e=.returned (.bool (cC s most))/\w'=w:=by
 by_cases hbig:most<s.size
 ·exact Mr
 have h':¬(most:Int)<s.size:=ae;go_enter func130,ntmps130
 go_wp2
 go_loop [5] (fun i=>∃k:Nat,k<=s.size/\i=.int .i64 k/\∀i,i<k->isL (dB s i)=true) (fun i=>s.size-(intOf i).toNat)
 case atStart=>exact⟨0,Nat.zero_le _,rfl,fun i h=>ae⟩
 case round =>
  obtain⟨k,hk,rfl,hall⟩:=hrel;have HA:=hid hall;clear hall
  by_cases hlt:k<s.size
  ·have hlt':(k:Int)<s.size:=ae
   cases hL:isL (dB s k)
   ·go_wp2_with fail;refine(nI _ _).mono ?_;rintro e w1⟨rfl,rfl⟩;rw[iu s k hlt,hL];go_wp2;go_ret
    have hb:false=cC s most:=qW ⟨fun h=>(nomatch h),fun h=>by rw[h.1 k hlt]at hL; cases hL⟩;exact⟨by rw[<- hb]; rfl,rfl⟩
   go_wp2_with fail;refine(nI _ _).mono ?_;rintro e w1⟨rfl,rfl⟩;rw[iu s k hlt,hL];go_wp2
   refine⟨⟨k+1,ae,aw,fun i hi=>?_⟩,bI⟩
   rcases Nat.lt_or_ge i k with h | h
   ·exact HA.out i h
   obtain rfl:i=k:=ae;exact hL
  have hlt':¬(k:Int)<s.size:=ae;go_wp2;go_ret;have hb:true=cC s most:=qW ⟨fun _=>⟨fun i hi=>HA.out i ae,ae⟩,fun _=>rfl⟩;exact⟨by rw[<- hb]; rfl,rfl⟩
theorem rz(s:BAz)(w:World)(hs:s.size<=1073741824) :
  Calls prog 163 #[.string s] w fun e w'=>e=.returned (.bool (cC s 256))/\Below w.heap.size w w':=by
 have HE:=hid (uq s 256 w hs ae);go_enter func163,ntmps163
 go_wp2_with fail;refine HE.out.mono ?_;rintro e w1⟨rfl,hb⟩;go_wp2;go_ret;exact⟨rfl,hb⟩
structure Kept(S:Nat->Prop)(w w':World):Prop where
 os:w'.os=w.os
 tape:w'.tape=w.tape
 output:w'.output=w.output
 size:w.heap.size<=w'.heap.size
 block:∀k,k<w.heap.size->¬S k->w'.heap[k]? =w.heap[k]?
theorem Kept.refl(S:Nat->Prop)(w:World):Kept S w w:=⟨rfl,rfl,rfl,Nat.le_refl _,fun _ _ _=>rfl⟩
variable {w1 w2:World}
theorem Kept.trans{S:Nat->Prop}(h1:Kept S w w1)(h2:Kept S w1 w2):Kept S w w2 :=
 ⟨h2.os.trans h1.os,h2.tape.trans h1.tape,h2.output.trans h1.output,Nat.le_trans h1.size h2.size,
  fun k hk hs=>(h2.block k (Nat.lt_of_lt_of_le hk h1.size) hs).trans (h1.block k hk hs)⟩
theorem Kept.then{S T:Nat->Prop}(h1:Kept S w w1)(h2:Kept T w1 w2)(h:∀k,k<w.heap.size->T k->S k):Kept S w w2 :=
 ⟨h2.os.trans h1.os,h2.tape.trans h1.tape,h2.output.trans h1.output,Nat.le_trans h1.size h2.size,
  fun k hk hs=>(h2.block k (Nat.lt_of_lt_of_le hk h1.size) (fun ht=>hs (h k hk ht))).trans (h1.block k hk hs)⟩
variable {w':World}
theorem Kept.of_grown{r:Option Nat}(h:w.grownBy w' r):Kept (fun k=>some k=r) w w':=⟨h.os,h.tape,h.output,h.size,fun k hk hs=>h.block k hk hs⟩
theorem Kept.alloc(S:Nat->Prop)(w:World)(o:Obj):Kept S w (w.alloc o):=by
 have h:=(Below.refl w.heap.size w).alloc lRn o;exact⟨h.os,h.tape,h.output,h.size,fun k hk _=>h.block k hk⟩
variable {B:Nat}
theorem Kept.of_below(h:Below B w w'):Kept (fun k=>B<=k) w w':=⟨h.os,h.tape,h.output,h.size,fun k hk hs=>h.block k ae⟩
theorem Kept.to_below{S:Nat->Prop}(h:Kept S w w')(hB:B<=w.heap.size)(hS:∀k,k<B->¬S k):Below B w w':=⟨h.os,h.tape,h.output,h.size,fun k hk=>h.block k ae (hS k hk)⟩
theorem Kept.mono{S T:Nat->Prop}(h:Kept S w w')(hS:∀k,S k->T k):Kept T w w':=⟨h.os,h.tape,h.output,h.size,fun k hk hs=>h.block k hk (fun x=>hs (hS k x))⟩
theorem Kept.drewN(S:Nat->Prop)(w:World)(m:Nat):Kept S w (w.drewN m):=by
 have h:=below_drewN (Below.refl w.heap.size w) m;exact⟨h.os,h.tape,h.output,h.size,fun k hk _=>h.block k hk⟩
variable {b:Nat}
theorem cell_of_block(h:w'.heap[b]? =w.heap[b]?)(o:Nat):w'.cell? ⟨b,o,none⟩=w.cell? ⟨b,o,none⟩:=by
 simp only[World.cell?,h]
theorem cA(h:w'.heap[b]? =w.heap[b]?)(o:Nat):w'.frozen? ⟨b,o,none⟩=w.frozen? ⟨b,o,none⟩:=by
 simp only[World.frozen?,h]
variable {o:Nat}
theorem Kept.cell{S:Nat->Prop}(h:Kept S w w')(hc:w.cell? ⟨b,o,none⟩=some v)(hs:¬S b):w'.cell? ⟨b,o,none⟩=some v :=
 (cell_of_block (h.block b (block_lt_of_cell hc) hs) o).trans hc
def Row(w:World)(e:TypeId)(B n cap:Nat)(xs:List Value):Prop:=w.ownsRow 0 e 1 (.slice (some ⟨B,0,none⟩) n cap) n xs
variable {e:TypeId}{xs:List Value}
theorem Row.of{base:Nat}{B n cap:Nat}(h:w.ownsRow base e 1 (.slice (some ⟨B,0,none⟩) n cap) n xs):Row w e B n cap xs:=by
 exact Gh
theorem Row.block{B n cap:Nat}(h:Row w e B n cap xs):∃cur,w.heap[B]? =some (.cells cur e)/\n<=cap/\cap<=maxLen/\cur.size=cap/\cur.toList.take n=xs:=by
 rcases h.2 with ⟨h,_⟩ | ⟨g,cp,cur,h1,_,h3,h4,h5,h6,h7⟩
 ·cases h
 simp at h1;obtain⟨rfl,rfl⟩:=h1;exact⟨cur,h3,h4,h5,pz,by simpa using h7⟩
theorem Row.lt{B n cap:Nat}(h:Row w e B n cap xs):B<w.heap.size:=by
 exact D9
theorem fM{base:Nat}(h:w.ownsRow base e 1 v n xs)(hk:∀B,v.ownBlock=some B->w'.heap[B]? =w.heap[B]?):w'.ownsRow base e 1 v n xs:=by
 exact Mc
theorem Row.keep{B n cap:Nat}(h:Row w e B n cap xs)(hk:w'.heap[B]? =w.heap[B]?):Row w' e B n cap xs :=
 fM h (fun b hb=>by
  obtain rfl:B=b:=pk;exact hk)
theorem Row.kept{S:Nat->Prop}{B n cap:Nat}(h:Row w e B n cap xs)(hk:Kept S w w')(hs:¬S B):Row w' e B n cap xs:=h.keep (hk.block B h.lt hs)
theorem Row.cell{B n cap:Nat}(h:Row w e B n cap xs)(j:Nat)(hj:j<n):w.cell? ⟨B,j,none⟩=xs[j]?:=World.ownsRow.cellAt h j ae
theorem Row.free{B n cap:Nat}(h:Row w e B n cap xs)(j:Nat):w.frozen? ⟨B,j,none⟩=false:=World.ownsRow.frozenAt h j
theorem Row.put{B n cap:Nat}(h:Row w e B n cap xs)(j:Nat)(u:Value):Row (w.setCell ⟨B,j,none⟩ u) e B n cap (xs.set j u)/\Kept (fun k=>k=B) w (w.setCell ⟨B,j,none⟩ u):=by
 have:=World.ownsRow.stored h j u;exact⟨this.1,(Kept.of_grown this.2).mono (fun k hk=>by simpa using hk)⟩
variable {P:Program}{o:Oper}
theorem yA(w:World){rest:List Oper}(hgd:o.guard=none)
  (s x:Operand) (t:TypeId) (ho:o.op=Op.call { callee:=Callee.builtin Builtin.append,args:=#[s,x],argTypes:=#[t,t] }) (e:TypeId) (i:TypeInfo) (z:Value) (bytes:Nat)
  (h1:P.underlying t=some (.slice e)) (h2:P.info? e=some i) (h3:i.zero=some z) (h4:i.size=1) (h5:i.bytes=bytes) (h6:z.cells.size=1)
  (v:Value) (n:Nat) (xs:List Value) (hs:a.eval s=v) (hown:w.ownsRow 0 e 1 v n xs) (ad:Addr) (u:Value) (hx:a.eval x=.slice (some ad) 1 1) (hu:w.cell? (ad.add 0)=some u) (hu1:u.oneCell'=true)
  (b1:n+1<=maxLen) (b2:(n+1)*bytes<=140737488355328)
  (h:∀(B cap:Nat)(w':World),Row w' e B (n+1) cap (xs++[u])->((v=.slice (some ⟨B,0,none⟩) n cap/\Kept (fun k=>k=B) w w')\/(w.heap.size<=B/\Kept (fun _=>False) w w'))->wpList P ops Q rest (a.put o.dst (.slice (some ⟨B,0,none⟩) (n+1) cap)) w') :
  wpList P ops Q (o::rest) a w:=by
 have hnews:∀(j:Nat)(y:Value),[u][j]? =some y->w.cell? (ad.add j)=some y:=by
  intro j y hj
  match j,hj with
  | 0,hj=>simp at hj; subst hj; exact hu
  | j+1,hj=>simp at hj
 have hone:∀y∈[u],y.oneCell'=true:=by intro y hy; simp at hy; subst hy; exact hu1
 have grow:∀(ao:OAz)(cap:Nat),v=.slice ao n cap->(ao=none->n=0/\cap=0)->(∀b,ao=some b->∀(j:Nat)(y:Value),xs[j]? =some y->w.cell? (b.add j)=some y)->cap<n+1->wpList P ops Q (o::rest) a w:=by
  intro ao cap hv hnone holds hfull;refine wpList_append_grows w hgd s x t ho e i z 1 bytes h1 h2 h3 h4 h5 h6 aA ao n cap xs (hs.trans hv) hnone hown.1 holds ad 1 1 [u] hx rfl hnews hone hfull b1 b2 ?_;intro v' w' ho' hg'
  rcases ho'.2 with ⟨_,hz⟩ | ⟨g,cp,cur,rfl,hbase,h8⟩
  ·omega
  exact h g cp w' (Row.of ho') (.inr ⟨hbase,(Kept.of_grown hg').mono (fun k hk=>by cases hk)⟩)
 rcases hown.2 with ⟨rfl,rfl⟩ | ⟨g,cap,cur,rfl,_,hh,hnc,hcm,hsz,htk⟩
 ·exact E9
 by_cases hroom:n+1<=cap
 ·refine wpList_append_fits w hgd s x t ho 0 e i 1 h1 h2 h4 g n cap xs hs hown ad 1 1 [u] hx rfl hnews hone hroom ?_;exact G7
 refine grow (some ⟨g,0,none⟩) cap rfl (fun hb=>by cases hb) (fun b hb j y hy=>?_) ae;simp at hb;subst hb
 have hj:j<xs.length:=by
  exact Hj
 have hl:=hown.1;have hplain:(⟨g,0,none⟩:Addr).add j=⟨g,j,none⟩:=eJ;rw[hplain,World.ownsRow.cellAt hown j ae];exact hy
theorem fR{base base':Nat}(h:w.ownsRow base e 1 v n xs)(hb:base'<=base):w.ownsRow base' e 1 v n xs:=by
 refine⟨h.1,?_⟩
 rcases h.2 with h0 | ⟨g,cp,cur,h1,h2,h3⟩
 ·exact .inl h0
 exact .inr ⟨g,cp,cur,h1,Nat.le_trans hb h2,h3⟩
def ends(s t:BAz):Bool:=decide (t.size<=s.size)&&((s.extract (s.size-t.size) s.size).toList==t.toList)
variable {a:Nat}
theorem La(h:b<=a)(ha:a<=9223372036854775807):((a:Int)-(b:Int)+9223372036854775808)%18446744073709551616-9223372036854775808=((a-b:Nat):Int):=ae
theorem RV(s p:BAz)(w:World)(hs:s.size<=9223372036854775807) :
  Calls prog 170 #[.string s,.string p] w fun e w'=>e=.returned (.bool (ends s p))/\w'=w:=by
 have hlo:p.size<=s.size->((s.size:Int)-(p.size:Int)+9223372036854775808)%18446744073709551616-9223372036854775808=((s.size-p.size:Nat):Int):=fun _=>ae;go_enter func170,ntmps170;exact Kb
theorem sF(s p:BAz)(w:World)(hs:s.size<=9223372036854775807) :
  Calls prog 56 #[.string s,.string p] w fun e w'=>e=.returned (.bool (ends s p))/\w'=w:=by
 have hlo:p.size<=s.size->((s.size:Int)-(p.size:Int)+9223372036854775808)%18446744073709551616-9223372036854775808=((s.size-p.size:Nat):Int):=fun _=>ae;go_enter func56,ntmps56;exact Kb
theorem Q4(s p:BAz)(w:World)(hs:s.size<=9223372036854775807) :
  Calls prog 165 #[.string s,.string p] w fun e w'=>e=.returned (.bool (ends s p))/\w'=w:=by
 have HE:=hid (RV s p w hs);go_enter func165,ntmps165
 go_wp2_with fail;refine HE.out.mono ?_;rintro e w1⟨rfl,rfl⟩;exact np
theorem Hw(s t:BAz)(B:Nat)(w:World)(hs:s.size<=1073741824)(ht:t.size<=1073741824)
  (h0:w.cell? ⟨B,0,none⟩=some (.string s)) (h1:w.cell? ⟨B,1,none⟩=some (.string t)) :
  Calls prog 164 #[.slice (some ⟨B,0,none⟩) 2 2] w fun e w'=>e=.returned (.bool (cC s 256&&cC t 256))/\Below w.heap.size w w':=by
 have hB:B<w.heap.size:=World.block_lt_of_cell? _ _ h0;have H0:=hid h0;have H1:=hid h1;clear h0 h1;go_enter func164,ntmps164
 go_wp2
 go_loopw [7] (fun i wr=>∃k:Nat,k<=2/\i=.int .i64 k/\(0<k->cC s 256=true)/\(1<k->cC t 256=true)/\Below w.heap.size w wr) (fun i _=>2-(intOf i).toNat)
 case atStart=>exact⟨0,ae,rfl,fun h=>ae,fun h=>ae,Below.refl _ _⟩
 case round =>
  obtain⟨k,hk,rfl,ha,hb,hw⟩:=hrel;have HA:=hid ha;have HB:=hid hb;clear ha hb;obtain rfl | rfl | rfl:k=0\/k=1\/k=2:=ae
  ·have hc:wr.cell? ⟨B,0,none⟩=some (.string s):=by rw[hw.cell hB]; exact H0.out
   have HE:=hid (rz s wr hs);go_wp2_with fail;refine HE.out.mono ?_;rintro e w1⟨rfl,h1⟩
   cases hl:cC s 256
   ·go_wp2;go_ret
    exact⟨by simp[hl],hw.trans (h1.mono hw.size)⟩
   go_wp2
   go_roundw
   case rel=>exact⟨1,ae,aw,fun _=>hl,fun h=>ae,hw.trans (h1.mono hw.size)⟩
   case measure=>simp[intOf]
  ·have hc:wr.cell? ⟨B,1,none⟩=some (.string t):=by rw[hw.cell hB]; exact H1.out
   have HE:=hid (rz t wr ht);go_wp2_with fail;refine HE.out.mono ?_;rintro e w1⟨rfl,h1⟩
   cases hl:cC t 256
   ·go_wp2;go_ret
    exact⟨by simp[hl],hw.trans (h1.mono hw.size)⟩
   go_wp2
   go_roundw
   case rel=>exact⟨2,ae,aw,fun _=>HA.out ae,fun h=>hl,hw.trans (h1.mono hw.size)⟩
   case measure=>simp[intOf]
  go_wp2;go_ret
  exact⟨by rw[HA.out ae,HB.out ae]; rfl,hw⟩
theorem K7(s t:BAz)(w:World)(hs:s.size<=1073741824)(ht:t.size<=1073741824) :
  Calls prog 164 #[.slice (some ⟨w.heap.size,0,none⟩) 2 2] (w.alloc (.cells #[.string s,.string t] 9)) fun e w'=>e=.returned (.bool (cC s 256&&cC t 256))/\Below w.heap.size w w':=by
 have hc:=cell_two_new w (.string s) (.string t) 9;have hadd:∀j:Nat,(⟨w.heap.size,0,none⟩:Addr).add j=⟨w.heap.size,j,none⟩:=fun j=>eJ;have h0:=hc 0 _ rfl;have h1:=hc 1 _ rfl;rw[hadd]at h0 h1;refine(Hw s t w.heap.size _ hs ht h0 h1).mono ?_;rintro e w' ⟨rfl,h⟩;exact⟨rfl,((Below.refl _ _).alloc lRn _).trans (h.mono aw)⟩
def shp(s t:BAz):Bool:=cC s 256&&cC t 256
def uh(s t:BAz):Bool:=shp s t&&ends s t
def bW(s t:BAz):Int:=if shp s t=true then if 256<s.size+t.size then 34 else 0 else 15
def iq(s t:BAz):ByteArray:=if bW s t=0 then s++t else ⟨#[]⟩
variable {t:BAz}
theorem PP(h:ends s t=true):t.size<=s.size:=by
 simp only[ends,Bool.and_eq_true,decide_eq_true_eq]at h; exact h.1
theorem Si(s t:BAz)(w:World)(hs:s.size<=1073741824)(ht:t.size<=1073741824) :
  Calls prog 153 #[.string s,.string t] w fun e w'=>e=.returned (.bool (uh s t))/\Below w.heap.size w w':=by
 have H1:=hid (K7 s t w hs ht)
 cases hh:shp s t
 ·unfold shp at hh;rw[hh]at H1
  go_enter func153,ntmps153
  go_wp2_with fail;refine H1.out.mono ?_;rintro e w1⟨rfl,hb⟩;go_wp2;go_ret
  exact⟨by simp[uh,shp,hh],hb⟩
 unfold shp at hh;rw[hh]at H1;go_enter func153,ntmps153
 go_wp2_with fail;refine H1.out.mono ?_;rintro e w1⟨rfl,hb⟩;have H2:=hid (Q4 s t w1 ae);go_wp2_with fail;refine H2.out.mono ?_;rintro e w2⟨rfl,rfl⟩;go_wp2;go_ret
 exact⟨by simp[uh,shp,hh],hb⟩
theorem Qi(s t:BAz)(w:World)(hs:s.size<=1073741824)(ht:t.size<=1073741824) :
  Calls prog 162 #[.string s,.string t] w fun e w'=>e=.returned (.tuple #[.string (iq s t),.int .i64 (bW s t)])/\Below w.heap.size w w':=by
 have H1:=hid (K7 s t w hs ht)
 cases hh:shp s t
 ·have hE:bW s t=15:=by simp[bW,hh]
  have hV:iq s t=⟨#[]⟩:=by simp[iq,hE]
  exact Cr
 by_cases hbig:256<s.size+t.size
 ·have hE:bW s t=34:=by simp[bW,hh,hbig]
  have hV:iq s t=⟨#[]⟩:=by simp[iq,hE]
  have hbig':(256:Int)<(s.size:Int)+(t.size:Int):=ae;exact Cr
 have hE:bW s t=0:=by simp[bW,hh,hbig]
 have hV:iq s t=s++t:=by simp[iq,hE]
 have hbig':¬(256:Int)<(s.size:Int)+(t.size:Int):=ae;exact Cr
theorem Tryz.infInts:(prog.info? 3).map (fun i=>(i.zero,i.size,i.bytes))=some (some (.int .i64 0),1,8):=ar
def fl(n:Nat)(f:NIz):List Value:=(List.range n).map fun i=>Value.int .i64 (f i)
theorem pU(n:Nat)(f:NIz):(fl n f).length=n:=by simp[fl]
theorem sO(n:Nat)(f:NIz)(i:Nat)(h:i<n):(fl n f)[i]? =some (.int .i64 (f i)):=by simp[fl,h]
variable {f g:NIz}
theorem Al(h:∀i,i<n->f i=g i):fl n f=fl n g:=by
 unfold fl; apply List.map_congr_left; intro i hi; rw[h i vX]
variable {t:Nat}{v:Int}
theorem Kw(h:∀i,i<n->g i=if i=t then v else f i):(fl n f).set t (.int .i64 v)=fl n g:=by
 apply List.ext_getElem?;intro j
 by_cases hj:j<n
 ·rw[sO n g j hj,h j hj]
  by_cases e:j=t
  ·subst e
   rw[if_pos rfl,List.getElem?_set_self (by rw[pU]; exact hj)]
  rw[if_neg e,List.getElem?_set_ne (fun x=>e x.symm),sO n f j hj]
 rw[List.getElem?_eq_none (by rw[List.length_set,pU]; omega),List.getElem?_eq_none (by rw[pU]; omega)]
def RI(w:World)(B n:Nat)(f:NIz):Prop:=Row w 3 B n n (fl n f)
theorem RI.cell(h:RI w B n f)(i:Nat)(hi:i<n):w.cell? ⟨B,i,none⟩=some (.int .i64 (f i)):=(Row.cell h i hi).trans (sO n f i hi)
theorem RI.free(h:RI w B n f)(i:Nat):w.frozen? ⟨B,i,none⟩=false:=Row.free h i
theorem RI.lt(h:RI w B n f):B<w.heap.size:=Row.lt h
theorem RI.congr(h:RI w B n f)(e:∀i,i<n->g i=f i):RI w B n g:=by
 unfold RI; rw[Al e]; exact h
theorem RI.put(h:RI w B n f)(t:Nat)(v:Int)(e:∀i,i<n->g i=if i=t then v else f i):RI (w.setCell ⟨B,t,none⟩ (.int .i64 v)) B n g/\Kept (fun k=>k=B) w (w.setCell ⟨B,t,none⟩ (.int .i64 v)):=by
 have:=Row.put h t (.int .i64 v);rw[Kw e]at this;exact this
theorem RI.kept{S:Nat->Prop}(h:RI w B n f)(hk:Kept S w w')(hs:¬S B):RI w' B n f:=Row.kept h hk hs
def pN(w:World)(a:OAz)(n cap:Nat)(l:LIz):Prop :=
 l.length=n/\n<=cap/\n<=1099511627776/\(∀z∈l,-9223372036854775808<=z/\z<=9223372036854775807) /\
 (n=0\/∃b off,a=some ⟨b,off,none⟩/\∀j,j<n->w.cell? ⟨b,off+j,none⟩=some (.int .i64 (l.getD j 0)))
variable {a:OAz}{l:LIz}
theorem pN.keep{S:Nat->Prop}{n cap:Nat}(h:pN w a n cap l)(hk:Kept S w w')(hs:∀b off,a=some ⟨b,off,none⟩->n≠0->¬S b):pN w' a n cap l:=by
 obtain⟨hz,h1,h2,h3,ha⟩:=h;refine⟨hz,h1,h2,h3,?_⟩
 by_cases h0:n=0
 ·exact .inl h0
 rcases ha with ha | ⟨b,off,e,hc⟩
 ·exact .inl ha
 exact .inr ⟨b,off,e,fun j hj=>hk.cell (hc j hj) (hs b off e h0)⟩
theorem pN.later{n cap:Nat}(h:pN w a n cap l)(hb:Below B w w')(hB:w.heap.size<=B):pN w' a n cap l:=by
 exact Cl
structure Inx where
 c:Int
 a:Int
 la:Option Addr
 ln:Nat
 lc:Nat
 l:List Int
def dx:Inx:=⟨0,0,none,0,0,[]⟩
def Qo(w:World)(b o:Nat)(x:Inx):Prop :=
 w.cell? ⟨b,o,none⟩=some (.int .u8 x.c)/\w.cell? ⟨b,o+1,none⟩=some (.int .i64 x.a)/\w.cell? ⟨b,o+2,none⟩=some (.slice x.la x.ln x.lc) /\
  0<=x.c/\x.c<=255/\-9223372036854775808<=x.a/\x.a<=9223372036854775807/\x.ln<=140737488355328/\(x.ln<=100000->pN w x.la x.ln x.lc x.l)
variable {o:Nat}{x:Inx}
theorem Qo.later(h:Qo w b o x)(hb:Below B w w')(hB:w.heap.size<=B):Qo w' b o x:=by
 obtain⟨h0,h1,h2,h3,h4,h7,h8,h5,h6⟩:=h;have hlt:=block_lt_of_cell h0;simp only at hlt;exact⟨(hb.cell wy).trans h0,(hb.cell wy).trans h1,(hb.cell wy).trans h2,h3,h4,h7,h8,h5,fun h=>(h6 h).later hb hB⟩
def opF(xs:List Inx)(i:Nat):Int:=(xs.getD i dx).c
def Cod(w:World)(b off n:Nat)(xs:List Inx):Prop:=xs.length=n/\∀j,j<n->Qo w b (off+j*3) (xs.getD j dx)
variable {off:Nat}
theorem Cod.later{xs:List Inx}(h:Cod w b off n xs)(hb:Below B w w')(hB:w.heap.size<=B):Cod w' b off n xs:=⟨h.1,fun j hj=>(h.2 j hj).later hb hB⟩
variable {j:Nat}
theorem Cod.op{xs:List Inx}(h:Cod w b off n xs)(hj:j<n):w.cell? ⟨b,off+j*3,none⟩=some (.int .u8 (opF xs j)):=(h.2 j hj).1
theorem Cod.lt{xs:List Inx}(h:Cod w b off n xs)(hn:0<n):b<w.heap.size:=block_lt_of_cell (h.op hn)
theorem Cod.range{xs:List Inx}(h:Cod w b off n xs)(hj:j<n):0<=opF xs j/\opF xs j<=255:=⟨(h.2 j hj).2.2.2.1,(h.2 j hj).2.2.2.2.1⟩
theorem Cod.num{xs:List Inx}(h:Cod w b off n xs)(hj:j<n):w.cell? ⟨b,off+j*3+1,none⟩=some (.int .i64 (xs.getD j dx).a):=(h.2 j hj).2.1
theorem Cod.lab{xs:List Inx}(h:Cod w b off n xs)(hj:j<n):w.cell? ⟨b,off+j*3+2,none⟩=some (.slice (xs.getD j dx).la (xs.getD j dx).ln (xs.getD j dx).lc):=(h.2 j hj).2.2.1
def ui(w:World)(a:OAz)(n:Nat)(xs:List Inx):Prop:=xs.length=n/\(n=0\/∃b off,a=some ⟨b,off,none⟩/\Cod w b off n xs)
theorem ui.later{xs:List Inx}(h:ui w a n xs)(hb:Below B w w')(hB:w.heap.size<=B):ui w' a n xs:=by
 refine⟨h.1,?_⟩
 rcases h.2 with h0 | ⟨b,off,e,hc⟩
 ·exact .inl h0
 exact .inr ⟨b,off,e,hc.later hb hB⟩
theorem pow_pos(k:Nat):(0:Int)<128 ^ k:=Int.pow_pos aA
def uf(u:Int):Int:=if u%2=1 then -(u / 2)-1 else u / 2
def uv:Nat->Int->List Int
 | 0,v=>[v]
 | f+1,v=>if v<128 then [v] else (v%128+128)::uv f (v / 128)
def ay(v:Int):List Int:=uv 9 v
theorem TF(f:Nat):∀v,1<=(uv f v).length/\(uv f v).length<=f+1:=by
 induction f with
 | zero=>intro v; simp[uv]
 | succ f ih =>
  intro v
  by_cases h:v<128
  ·simp[uv,h]
  have:=ih (v / 128);simp only[uv,h,if_false,List.length_cons]; omega
theorem Gv(V:Int)(k:Nat)(h:V*128 ^ k<18446744073709551616)(h0:0<=V):V / 128*128 ^ (k+1)<18446744073709551616:=by
 have hs:(128:Int) ^ (k+1)=128*128 ^ k:=by rw[Int.pow_succ,Int.mul_comm]
 rw[hs,<- Int.mul_assoc];have h2:V / 128*128<=V:=ae;have:=Int.mul_le_mul_of_nonneg_right h2 (Int.le_of_lt (pow_pos k));omega
theorem room_end(V:Int)(k:Nat)(h:V*128 ^ k<18446744073709551616)(hk:k<=9)(h128:128<=V):k<=8:=by
 by_cases e:k=9
 ·subst e;have e9:(128:Int) ^ 9=9223372036854775808:=aA;rw[e9]at h;omega
 omega
def fo(n:Int):Int:=if n<0 then -2*n-1 else 2*n
theorem kI(n:Int)(h0:-9223372036854775808<=n)(h1:n<9223372036854775808):0<=fo n/\fo n<18446744073709551616:=by
 unfold fo; split <;> omega
theorem aF(v:Int):1<=(ay v).length/\(ay v).length<=10:=TF 9 v
def Seg(w:World)(a:OAz)(n cap:Nat)(zs:LIz):Prop :=
 zs.length=n/\n<=cap/\n<=1099511627776/\(∀z∈zs,0<=z/\z<=255) /\
 (n=0\/∃b off,a=some ⟨b,off,none⟩/\∀j,j<n->w.cell? ⟨b,off+j,none⟩=some (.int .u8 (zs.getD j 0)))
theorem cT(x:Int)(h0:0<=x)(h1:x<18446744073709551616):IntKind.u64.wrap x=x:=by
 rw[IntKind.wrap_u64]; exact Int.emod_eq_of_lt h0 h1
theorem i64_in(x:Int)(h0:-9223372036854775808<=x)(h1:x<9223372036854775808):IntKind.i64.wrap x=x:=by
 exact qN
theorem Tryz.info5:(prog.info? 5).map (fun i=>(i.zero,i.size,i.bytes))=some (some (.int .u8 0),1,1):=ar
def cat(Z:Nat->List Int):Nat->List Int
 | 0=>[]
 | k+1=>cat Z k++Z k
theorem Az(Z:Nat->List Int)(k m:Nat)(h:k<=m):(cat Z k).length<=(cat Z m).length:=by
 induction m with
 | zero =>
  obtain rfl:k=0:=ae;omega
 | succ m ih =>
  by_cases e:k=m+1
  ·subst e; omega
  have:=ih ae; simp only[cat,List.length_append]; omega
theorem lK(l:LIz):∀u∈l.map (Value.int .u8),u.oneCell'=true:=by
 intro u hu;obtain⟨z,_,rfl⟩:=List.mem_map.1 hu;rfl
variable {zs:LIz}
theorem ju{n cap:Nat}(h:Seg w a n cap zs) :
  ∀ad,a=some ad->∀(j:Nat)(u:Value),(zs.map (Value.int .u8))[j]? =some u->w.cell? (ad.add j)=some u:=by
 intro ad had j u hu;obtain⟨hz,_,_,_,ha⟩:=h
 have hj:j<zs.length:=by
  rcases Nat.lt_or_ge j zs.length with h | h
  ·exact h
  simp[List.getElem?_eq_none (show(zs.map (Value.int .u8)).length<=j by simpa using h)]at hu
 rcases ha with ha | ⟨b,off,e,hc⟩
 ·omega
 rw[had]at e;simp at e;subst e;have:=hc j ae;have hplain:(⟨b,off,none⟩:Addr).add j=⟨b,off+j,none⟩:=eJ;rw[hplain,this];simp[aY hj]at hu;subst hu;simp[List.getD,aY hj]
theorem Seg.later{n cap:Nat}(h:Seg w a n cap zs)(hb:Below B w w')(hB:w.heap.size<=B):Seg w' a n cap zs:=by
 exact Cl
theorem Seg.drewN{n cap:Nat}(h:Seg w a n cap zs)(m:Nat):Seg (w.drewN m) a n cap zs:=by
 obtain⟨hz,h1,h2,h3,ha⟩:=h;refine⟨hz,h1,h2,h3,?_⟩
 rcases ha with ha | ⟨b,off,e,hc⟩
 ·exact .inl ha
 exact .inr ⟨b,off,e,fun j hj=>by rw[World.cell?_drewN]; exact hc j hj⟩
theorem I8(P m cp:Nat)(A:Nat->Option Addr)(L C:Nat->Nat)(Z:Nat->List Int)(w:World)(hm:m<=1000)
  (hp:∀j,j<m->w.cell? ⟨P,j,none⟩=some (.slice (A j) (L j) (C j)))
  (hs:∀j,j<m->Seg w (A j) (L j) (C j) (Z j)/\(A j=none->C j=0)) (hN:(cat Z m).length<=1099511627776) (hPw:P<w.heap.size) :
  Calls prog 213 #[.slice (some ⟨P,0,none⟩) m cp] w fun e w'=>e=.returned (.slice (some ⟨w.heap.size,0,none⟩) (cat Z m).length (cat Z m).length) /\
   w'.ownsRow w.heap.size 5 1 (.slice (some ⟨w.heap.size,0,none⟩) (cat Z m).length (cat Z m).length) (cat Z m).length ((cat Z m).map (Value.int .u8))/\Below w.heap.size w w':=by
 obtain⟨i0,hi,hz0,hz1,hz2⟩:=info_parts Tryz.info5;have hb2:i0.bytes*(cat Z m).length<=281474976710656:=pG;have hml:(cat Z m).length<=maxLen:=dA;go_enter func213,ntmps213
 go_wp2
 go_loop [3,11] (fun s i=>∃k:Nat,k<=m/\i=.int .i64 k/\s=.int .i64 (cat Z k).length) (fun _ i=>m-(intOf i).toNat)
 case atStart=>exact⟨0,ae,rfl,rfl⟩
 case round =>
  obtain⟨k,hk,rfl,rfl⟩:=hrel
  by_cases hlt:k<m
  ·have hcell:=hp k hlt;have hlen:=(hs k hlt).1.1;have hmo:=Az Z (k+1) m ae
   have HC:=hid (show(cat Z (k+1)).length=(cat Z k).length+L k by simp[cat,hlen])
   have hle:(cat Z k).length+L k<=1099511627776:=by have:=HC.out; omega
   clear hp hs hlen hmo hb2 hml hi hz0 hz1 hz2 hN;go_wp2
   go_round
   case rel=>exact⟨k+1,ae,bH,by rw[HC.out]; go_num⟩
   case measure=>simp[intOf]; omega
  obtain rfl:k=m:=ae
  go_wp2_with (first | (at_make; refine wpList_make_own _ rfl _ _ 49 rfl w.heap.size 5 i0 (.int .u8 0) 1 underlying49 hi hz0 hz1 .i64 .i64 _ (cat Z k).length rfl rfl rfl hb2 hml lRn ?_; intro w1 hown hgrow))
  have hbel:Below w.heap.size w w1:=(Below.refl _ _).grown hgrow lRn aw;clear hgrow
  go_loopw [6,24] (fun v i wr=>∃j:Nat,j<=k/\i=.int .i64 j/\v=.slice (some ⟨w.heap.size,0,none⟩) (cat Z j).length (cat Z k).length /\
   wr.ownsRow w.heap.size 5 1 (.slice (some ⟨w.heap.size,0,none⟩) (cat Z j).length (cat Z k).length) (cat Z j).length ((cat Z j).map (Value.int .u8))/\Below w.heap.size w wr) (fun _ i _=>k-(intOf i).toNat)
  case atStart=>exact⟨0,ae,rfl,rfl,hown,hbel⟩
  case round =>
   obtain⟨j,hj,rfl,rfl,hownr,hb⟩:=hrel;clear hown hbel
   by_cases hjk:j<k
   ·have hcell:wr.cell? ⟨P,j,none⟩=some (.slice (A j) (L j) (C j)):=(hb.cell (p:=⟨P,j,none⟩) hPw).trans (hp j hjk);obtain⟨hseg,hnone⟩:=hs j hjk;have hsl:=hseg.later hb lRn
    have hnn:A j=none->L j=0/\C j=0:=fun h=>⟨by have:=hnone h; have:=hseg.2.1; omega,hnone h⟩;have hcl:=ju hsl
    have hlen:((Z j).map (Value.int .u8)).length=L j*1:=by simp[hseg.1]
    have hmo:=Az Z (j+1) k ae;have HC:=hid (show(cat Z (j+1)).length=(cat Z j).length+L j by simp[cat,hseg.1])
    have hroom:(cat Z j).length+L j<=(cat Z k).length:=by have:=HC.out; omega
    have HB:=hid hb;have HO:=hid hownr;have HL:=hid hcl;have HN:=hid hnn;clear hp hs hb hownr hseg hnone hsl hcl hnn hmo
    go_wp2_with (first | (at_builtin; refine wpList_append_fits_any _ rfl _ _ 49 rfl w.heap.size 5 i0 1 underlying49 hi hz1 w.heap.size (cat Z j).length (cat Z k).length _ rfl HO.out (A j) (L j) (C j) ((Z j).map (Value.int .u8)) rfl hlen HN.out HL.out (lK _) hroom ?_; intro w2 hown2 hgrow2))
    have hb2':Below w.heap.size w w2:=HB.out.grown hgrow2 (HB.out.size) aw
    have ho2:w2.ownsRow w.heap.size 5 1 (.slice (some ⟨w.heap.size,0,none⟩) (cat Z (j+1)).length (cat Z k).length) (cat Z (j+1)).length ((cat Z (j+1)).map (Value.int .u8)):=by
     rw[HC.out]; simp only[cat,List.map_append]; exact hown2
    exact⟨⟨j+1,ae,bH,by rw[HC.out],ho2,hb2'⟩,bI⟩
   obtain rfl:j=k:=ae;clear hp hs;go_wp2;go_ret;exact⟨rfl,hownr,hb⟩
theorem GM{B n cap:Nat}{base:Nat}(h:w.ownsRow base 5 1 (.slice (some ⟨B,0,none⟩) n cap) n (zs.map (Value.int .u8)))(hl:zs.length=n)(hn:n<=1099511627776)(hr:∀z∈zs,0<=z/\z<=255)(hcap:n<=cap) :
  Seg w (some ⟨B,0,none⟩) n cap zs:=by
 refine⟨hl,hcap,hn,hr,.inr ⟨B,0,rfl,fun j hj=>?_⟩⟩;rw[Nat.zero_add,h.cellAt j ae];have hj':j<zs.length:=ae;simp[hj']
theorem IU(Z:Nat->List Int)(m:Nat)(h:∀j,j<m->∀z∈Z j,0<=z/\z<=255):∀z∈cat Z m,0<=z/\z<=255:=by
 induction m with
 | zero=>intro z hz; simp[cat]at hz
 | succ m ih =>
  intro z hz;simp only[cat,List.mem_append]at hz
  rcases hz with hz | hz
  ·exact ih (fun j hj=>h j ae) z hz
  exact h m ae z hz
theorem Ow(P m cp:Nat)(A:Nat->Option Addr)(L C:Nat->Nat)(Z:Nat->List Int)(w:World)(hm:m<=1000)
  (hp:∀j,j<m->w.cell? ⟨P,j,none⟩=some (.slice (A j) (L j) (C j)))
  (hs:∀j,j<m->Seg w (A j) (L j) (C j) (Z j)/\(A j=none->C j=0)) (hN:(cat Z m).length<=1099511627776) (hPw:P<w.heap.size) (h0:0<(cat Z m).length) :
  Calls prog 213 #[.slice (some ⟨P,0,none⟩) m cp] w fun e w'=>e=.returned (.slice (some ⟨w.heap.size,0,none⟩) (cat Z m).length (cat Z m).length) /\
   Seg w' (some ⟨w.heap.size,0,none⟩) (cat Z m).length (cat Z m).length (cat Z m)/\Below w.heap.size w w'/\w.heap.size<w'.heap.size:=by
 refine(I8 P m cp A L C Z w hm hp hs hN hPw).mono fun e w' ⟨he,ho,hb⟩=>?_;have hseg:=GM ho rfl hN (IU Z m fun j hj=>(hs j hj).1.2.2.2.1) lRn;refine⟨he,hseg,hb,?_⟩
 rcases hseg.2.2.2.2 with h | ⟨b,off,e1,hc⟩
 ·omega
 have:=hc 0 h0;simp at e1;have:=block_lt_of_cell this;simp only at this;omega
variable {V:Int}
theorem Rv(h0:0<=V)(h1:V<18446744073709551616):bits .and .u64 V 127=V%128:=by
 rw[u64_and V 127 h0 h1 aA aA];simp only[Int.reduceToNat];rw[nat_mask7]; omega
theorem TQ(h0:0<=c)(h1:c<128):bits .or .u8 c 128=c+128:=by
 rw[u8_or c 128 h0 ae aA aA];simp only[Int.reduceToNat];rw[Nat.or_comm,nat_join 7 128 c.toNat aA (by simp only[Nat.reducePow]; omega)];omega
theorem Sn(pre:LIz)(k m:Nat)(c:Int)(h:pre.length=k):((pre++List.replicate (m+1) 0).map (Value.int .u8)).set k (.int .u8 c)=((pre++[c])++List.replicate m 0).map (Value.int .u8):=by
 subst h;rw[<- List.map_set]
 congr 1
 rw[List.set_append_right _ _ ae];simp[List.replicate_succ]
variable {wr:World}{pre:LIz}{k:Nat}
theorem Nq(c:Int)(hk:k<=9)(hp:pre.length=k)
  (hown:wr.ownsRow w.heap.size 257 1 (.slice (some ⟨w.heap.size,0,none⟩) 10 10) 10 ((pre++List.replicate (10-k) 0).map (Value.int .u8))) (hb:Below w.heap.size w wr) :
  (wr.setCell ⟨w.heap.size,k,none⟩ (.int .u8 c)).ownsRow w.heap.size 257 1 (.slice (some ⟨w.heap.size,0,none⟩) 10 10) 10 (((pre++[c])++List.replicate (10-(k+1)) 0).map (Value.int .u8)) /\
   Below w.heap.size w (wr.setCell ⟨w.heap.size,k,none⟩ (.int .u8 c)):=by
 have h:=hown.stored k (.int .u8 c);have e:10-k=10-(k+1)+1:=ae;rw[e,Sn pre k _ c hp]at h;exact⟨h.1,hb.setCell aw _⟩
theorem Tryz.len257:prog.arrayLen 257=10:=ar
theorem Tryz.und257:prog.underlying 257=some (.array (prog.arrayLen 257) (prog.elem 257)):=ar
theorem Tryz.size257(w:World):(sizeOf (prog.elem 257)).run prog w=.ok 1 w:=ar
theorem wB(B k:Nat)(hk:k<=9)(w:World) :
  (Instr.sliceAt 257 (.pointer (some ⟨B,0,none⟩)) none (some (.int .i64 ((k:Int)+1))) none).run prog w=.ok (.slice (some ⟨B,0,none⟩) (k+1) 10) w:=by
 rw[run_sliceAt_array_h w 257 ⟨B,0,none⟩ Tryz.und257 .i64 ((k:Int)+1) ae (by rw[Tryz.len257]; omega),Tryz.size257];have e:((k:Int)+1).toNat=k+1:=ae;simp only[Result.andThen,slicedAt,Tryz.len257,e];simp[Addr.add]
variable {W:World}
theorem Cn(hk:k<=9)(hp:pre.length=k)(hV:0<=V)(hV1:V<128)(huv:ay v=pre++[V])(hpr:∀z∈pre,0<=z/\z<=255)
  (ho:W.ownsRow w.heap.size 257 1 (.slice (some ⟨w.heap.size,0,none⟩) 10 10) 10 (((pre++[V])++List.replicate (10-(k+1)) 0).map (Value.int .u8))) (hb:Below w.heap.size w W) (hsz:W.heap.size=w.heap.size+1) :
  Calls prog 213 #[.slice (some ⟨w.heap.size+1,0,none⟩) 1 1] (W.alloc (i9 (some ⟨w.heap.size,0,none⟩) (k+1) 10)) fun e w' =>
   e=.returned (.slice (some ⟨w.heap.size+2,0,none⟩) (ay v).length (ay v).length) /\
   Seg w' (some ⟨w.heap.size+2,0,none⟩) (ay v).length (ay v).length (ay v)/\Below w.heap.size w w'/\w.heap.size+2<w'.heap.size:=by
 have hlen:(ay v).length=k+1:=by rw[huv]; simp[hp]
 have hr:∀z∈ay v,0<=z/\z<=255:=by
  intro z hz;rw[huv]at hz;exact FN
 have hseg:Seg W (some ⟨w.heap.size,0,none⟩) (k+1) 10 (ay v):=by
  refine⟨hlen,ae,ae,hr,.inr ⟨_,0,rfl,fun j hj=>?_⟩⟩;rw[Nat.zero_add,ho.cellAt j ae,huv]
  have hj':j<(pre++[V]).length:=by simp[hp]; omega
  rw[List.getElem?_map,List.getElem?_append_left hj'];simp[aY hj']
 have hba:Below W.heap.size W (W.alloc (i9 (some ⟨w.heap.size,0,none⟩) (k+1) 10)):=(Below.refl _ _).alloc lRn _
 have hs2:(W.alloc (i9 (some ⟨w.heap.size,0,none⟩) (k+1) 10)).heap.size=w.heap.size+2:=by simp[hsz]
 have hc1:cat (fun _=>ay v) 1=ay v:=by simp[cat]
 have J:=Ow (w.heap.size+1) 1 1 (fun _=>some ⟨w.heap.size,0,none⟩) (fun _=>k+1) (fun _=>10) (fun _=>ay v) (W.alloc (i9 (some ⟨w.heap.size,0,none⟩) (k+1) 10)) ae
  (fun j hj=>by
   obtain rfl:j=0:=ae
   rw[<- hsz]; simp)
  (fun j _=>⟨hseg.later hba lRn,fun h=>cm⟩) (by rw[hc1]; omega) (by rw[hs2]; omega) (by rw[hc1]; omega)
 rw[hc1,hs2]at J;refine J.mono fun e w' ⟨he,hsg,hbl,hz⟩=>⟨he,hsg,?_,hz⟩;exact(hb.trans (hba.mono ae)).trans (hbl.mono ae)
theorem wR(v:Int)(w:World)(h0:0<=v)(h1:v<18446744073709551616) :
  Calls prog 209 #[.int .u64 v] w fun e w'=>e=.returned (.slice (some ⟨w.heap.size+2,0,none⟩) (ay v).length (ay v).length) /\
   Seg w' (some ⟨w.heap.size+2,0,none⟩) (ay v).length (ay v).length (ay v)/\Below w.heap.size w w'/\w.heap.size+2<w'.heap.size:=by
 go_enter func209,ntmps209
 go_wp2
 go_loopw [0,4] (fun x i wr=>∃(k:Nat)(V:Int)(pre:LIz),k<=9/\i=.int .i64 k/\x=.int .u64 V/\pre.length=k/\0<=V/\V<18446744073709551616/\V*128 ^ k<18446744073709551616/\ay v=pre++uv (9-k) V/\(∀z∈pre,0<=z/\z<=255) /\
   wr.ownsRow w.heap.size 257 1 (.slice (some ⟨w.heap.size,0,none⟩) 10 10) 10 ((pre++List.replicate (10-k) 0).map (Value.int .u8))/\Below w.heap.size w wr/\wr.heap.size=w.heap.size+1) (fun x _ _=>(intOf x).toNat)
 case atStart =>
  exact⟨0,v,[],ae,rfl,rfl,rfl,h0,h1,il,rfl,aw,World.ownsRow_lit w _ 10 lRn aA rfl,(Below.refl _ _).alloc lRn _,aw⟩
 case round =>
  obtain⟨k,V,pre,hk,rfl,rfl,hpl,hV0,hV1,hroom,huv,hpr,hown,hb,hsz⟩:=hrel
  have hcl:∃u,wr.cell? ⟨w.heap.size,k,none⟩=some u:=by
   have:=hown.cellAt k ae;exact⟨_,this.trans (aY (by simp[hpl]; omega))⟩
  obtain⟨u0,hcl⟩:=hcl;have hfz:=hown.frozenAt k;have HS:=hid (fun c=>Nq c hk hpl hown hb);have HU:=hid huv;have HP:=hid hpl;have HR:=hid hroom;clear huv hown hb hpl hroom
  by_cases h128:128<=V
  ·have hk8:=room_end V k HR.out hk h128;have hand:=Rv hV0 hV1;have hor:=TQ (c:=V%128) ae ae
   have HN:=hid (show ay v=(pre++[V%128+128])++uv (9-(k+1)) (V / 128) by
    rw[HU.out,show 9-k=9-(k+1)+1 by omega];have hn:¬V<128:=ae
    simp[uv,hn])
   go_wp2;have R:=HS.out (V%128+128)
   refine⟨⟨k+1,V / 128,pre++[V%128+128],ae,bH,rfl,by simp[HP.out],ae,ae,Gv V k HR.out hV0,HN.out,?_,R.1,R.2,by simp[hsz]⟩,bI⟩;intro z hz;exact FN
  have hsl:=wB w.heap.size k hk
  have HF:=hid (show ay v=pre++[V] by
   rw[HU.out]
   cases h9:9-k with
   | zero=>rfl
   | succ f =>
    have hn:V<128:=ae
    simp[uv,hn])
  have HJ:=hid (Cn hk HP.out hV0 ae HF.out hpr (HS.out V).1 (HS.out V).2 (by simp[hsz]))
  go_wp2_with (first | (go_at_call 213; refine HJ.out.mono ?_; rintro e w' ⟨rfl,hseg,hbl,hz⟩))
  go_ret;exact⟨rfl,hseg,hbl,hz⟩
variable {v:Value}
theorem own_below{base:Nat}(hown:w.ownsRow base 5 1 v n xs)(hg:w.grownBy w' v.ownBlock)(hbase:base<=w.heap.size):Below base w w':=by
 refine⟨hg.os,hg.tape,hg.output,hg.size,fun k hk=>hg.block k ae ?_⟩
 rcases hown.2 with ⟨rfl,_⟩ | ⟨g,cap,cur,rfl,hbg,_⟩
 ·simp[Value.ownBlock]
 simp[Value.ownBlock]; omega
variable {o:Oper}{a:Act}
theorem jd(w:World){rest:List Oper}(hgd:o.guard=none)
  (s x:Operand) (ho:o.op=Op.call { callee:=Callee.builtin Builtin.append,args:=#[s,x],argTypes:=#[49,49] }) (base:Nat) (v:Value) (n:Nat) (xs:LIz)
  (hs:a.eval s=v) (hown:w.ownsRow base 5 1 v n (xs.map (Value.int .u8))) (ao:OAz) (m c:Nat) (zs:LIz) (hx:a.eval x=.slice ao m c)
  (hseg:Seg w ao m c zs) (hnone:ao=none->c=0) (hb:n+m<=1099511627776) (hbase:base<=w.heap.size)
  (h:∀(v':Value)(w':World),w'.ownsRow base 5 1 v' (n+m) ((xs++zs).map (Value.int .u8))->Below base w w'->wpList prog ops Q rest (a.put o.dst v') w') :
  wpList prog ops Q (o::rest) a w:=by
 obtain⟨i0,hi,hz0,hz1,hz2⟩:=info_parts Tryz.info5
 cases ao with
 | none =>
  have hc:=hnone rfl;subst hc
  have hm:m=0:=by have:=hseg.2.1; omega
  subst hm;have hzs:zs=[]:=List.eq_nil_of_length_eq_zero hseg.1;subst hzs;refine wpList_append_own_none hgd s x 49 ho base 5 i0 1 underlying49 hi v n _ hs hown hx ?_;refine h v w ?_ (Below.refl _ _)
  simpa using hown
 | some ad =>
  refine wpList_append_own w hgd s x 49 ho base 5 i0 (.int .u8 0) 1 1 underlying49 hi hz0 hz1 hz2 rfl aA v n _ hs hown ad m c (zs.map (Value.int .u8)) hx (by simp[hseg.1])
   (ju hseg ad rfl) (lK _) dA ae hbase ?_
  exact Gb
theorem jZ{base:Nat}(h:w.ownsRow base 5 1 v n (zs.map (Value.int .u8)))(hn:n<=1099511627776)(hr:∀z∈zs,0<=z/\z<=255) :
  ∃a c,v=.slice a n c/\Seg w a n c zs/\(a=none->c=0):=by
 have hl:zs.length=n:=by have:=h.1; simpa using this
 rcases h.2 with ⟨rfl,rfl⟩ | ⟨g,cap,cur,rfl,hbg,hh,hnc,_⟩
 ·exact⟨none,0,rfl,⟨hl,Nat.le_refl _,hn,hr,.inl rfl⟩,fun _=>rfl⟩
 exact⟨_,cap,rfl,GM h hl hn hr hnc,fun h=>cm⟩
theorem M9(x:Int)(h0:0<=x)(h1:x<18446744073709551616):bits .xor .u64 x 18446744073709551615=18446744073709551615-x:=by
 obtain⟨a,rfl⟩:=Int.eq_ofNat_of_zero_le h0;show IntKind.u64.wrap ((BitVec.ofInt 64 (a:Int) ^^^ BitVec.ofInt 64 18446744073709551615).toNat:Int)=_;have e1:BitVec.ofInt 64 18446744073709551615=BitVec.allOnes 64:=aA;rw[e1,BitVec.xor_allOnes,BitVec.toNat_not,ofInt_u64 a ae,IntKind.wrap_u64];omega
theorem Lq(x:Int)(h0:0<=x)(h1:x<18446744073709551616):bits .xor .u64 x 0=x:=by
 obtain⟨a,rfl⟩:=Int.eq_ofNat_of_zero_le h0;show IntKind.u64.wrap ((BitVec.ofInt 64 (a:Int) ^^^ BitVec.ofInt 64 0).toNat:Int)=_;have e1:BitVec.ofInt 64 0=0#64:=aA;rw[e1,BitVec.xor_zero,ofInt_u64 a ae,IntKind.wrap_u64];omega
theorem RA(v:Int)(h:0<=v)(h1:v<9223372036854775808):bits .xor .u64 (v*2) (v / 9223372036854775808)=fo v:=by
 have e:v / 9223372036854775808=0:=ae;rw[e,Lq _ ae ae];unfold fo;rw[if_neg ae]; omega
theorem SK(v:Int)(h:v<0)(h0:-9223372036854775808<=v):bits .xor .u64 (IntKind.u64.wrap (IntKind.u64.wrap v*2)) (IntKind.u64.wrap (v / 9223372036854775808))=fo v:=by
 have e:v / 9223372036854775808=-1:=ae;rw[e];have e1:IntKind.u64.wrap (-1)=18446744073709551615:=aA
 have e2:IntKind.u64.wrap (IntKind.u64.wrap v*2)=18446744073709551616+2*v:=by
  rw[IntKind.wrap_u64,IntKind.wrap_u64]; omega
 rw[e1,e2,M9 _ ae ae];unfold fo;rw[if_pos h]; omega
theorem Tt(v:Int)(w:World)(h0:-9223372036854775808<=v)(h1:v<9223372036854775808) :
  Calls prog 215 #[.int .i64 v] w fun e w'=>e=.returned (.int .u64 (fo v))/\w'=w:=by
 by_cases h:0<=v
 ·have HF:=hid (RA v h h1);exact D6
 have HF:=hid (SK v ae h0);exact D6
theorem Mi(v:Int)(w:World)(h0:-9223372036854775808<=v)(h1:v<9223372036854775808) :
  Calls prog 211 #[.int .i64 v] w fun e w'=>e=.returned (.slice (some ⟨w.heap.size+2,0,none⟩) (ay (fo v)).length (ay (fo v)).length) /\
   Seg w' (some ⟨w.heap.size+2,0,none⟩) (ay (fo v)).length (ay (fo v)).length (ay (fo v))/\Below w.heap.size w w'/\w.heap.size+2<w'.heap.size:=by
 have hr:=kI v h0 h1;have HA:=hid (Tt v w h0 h1);have HB:=hid (wR (fo v) w hr.1 hr.2);clear hr;generalize fo v=u at *;generalize ay u=l at *;go_enter func211,ntmps211
 go_wp2_with fail;refine HA.out.mono ?_;rintro e w1⟨rfl,rfl⟩;go_wp2_with fail;refine HB.out.mono ?_;rintro e w2⟨rfl,hs,hb,hz⟩;go_wp2;go_ret;exact⟨rfl,hs,hb,hz⟩
def aC(s:BAz):List Int:=s.data.toList.map fun c=>(c.toNat:Int)
theorem dz(s:BAz):(aC s).length=s.size:=by
 rw[aC,List.length_map]; exact Array.length_toList
theorem lw(s:BAz):∀z∈aC s,0<=z/\z<=255:=by
 intro z hz;obtain⟨c,_,rfl⟩:=List.mem_map.1 hz;have:=c.toNat_lt;omega
theorem eD(w:World)(s:BAz)(hs:s.size<=1000000):∃c W,(convert 9 49 (.string s)).run prog w=.ok (.slice (some ⟨w.heap.size,0,none⟩) s.size c) W /\
  Seg W (some ⟨w.heap.size,0,none⟩) s.size c (aC s)/\Below w.heap.size w W/\W.heap.size=w.heap.size+1:=by
 refine⟨_,_,run_bytes_of_string w 9 49 5 s underlying9 underlying49 underlying5,?_,?_,?_⟩
 ·refine⟨dz s,grownCap_ge _ _ _ _,ae,lw s,.inr ⟨_,0,rfl,fun j hj=>?_⟩⟩
  have hj':j<s.data.size:=hj;have hb:=bytesRow_at s (grownCap w s.size 0 5) j hj'
  have hlt:j<(bytesRow s (grownCap w s.size 0 5)).size:=by
   rcases Nat.lt_or_ge j (bytesRow s (grownCap w s.size 0 5)).size with h | h
   ·exact h
   rw[Array.getElem?_eq_none h]at hb; cases hb
  rw[Nat.zero_add];have:(w.drew.alloc (.cells (bytesRow s (grownCap w s.size 0 5)) 5 ((bytesRow s (grownCap w s.size 0 5)).size,(bytesRow s (grownCap w s.size 0 5)).size+1))).cell? ⟨w.heap.size,j,none⟩=(bytesRow s (grownCap w s.size 0 5))[j]? :=
   World.cell?_alloc_mark w.drew _ _ _ j
  rw[this,hb]
  have hjl:j<s.data.toList.length:=by rw[Array.length_toList]; exact hj'
  have e:(aC s).getD j 0=((s.data.toList[j]'hjl).toNat:Int):=by
   simp only[aC,List.getD_eq_getElem?_getD,List.getElem?_map,aY hjl,Option.map_some,Option.getD_some]
  rw[e,Array.getElem_toList]
 ·exact((Below.refl _ _).drew).alloc aw _
 simp
variable {c:Nat}
theorem DG(h1:Seg w1 (some ⟨w.heap.size+2,0,none⟩) l.length l.length l)(b1:Below w.heap.size w w1)(z1:w.heap.size+2<w1.heap.size)
  (h2:Seg W (some ⟨w1.heap.size,0,none⟩) s.size c (aC s)) (b2:Below w1.heap.size w1 W) (z2:W.heap.size=w1.heap.size+1) (hl:1<=l.length) (hl10:l.length<=10) (hs:s.size<=1000000) :
  Calls prog 213 #[.slice (some ⟨W.heap.size,0,none⟩) 2 2]
   (W.alloc (.cells #[.slice (some ⟨w.heap.size+2,0,none⟩) l.length l.length,.slice (some ⟨w1.heap.size,0,none⟩) s.size c] 49)) fun e w' =>
   e=.returned (.slice (some ⟨W.heap.size+1,0,none⟩) (l.length+s.size) (l.length+s.size)) /\
   Seg w' (some ⟨W.heap.size+1,0,none⟩) (l.length+s.size) (l.length+s.size) (l++aC s)/\Below w.heap.size w w'/\w.heap.size<=W.heap.size+1/\W.heap.size+1<w'.heap.size:=by
 have hba:Below W.heap.size W (W.alloc (.cells #[.slice (some ⟨w.heap.size+2,0,none⟩) l.length l.length,.slice (some ⟨w1.heap.size,0,none⟩) s.size c] 49)):=(Below.refl _ _).alloc lRn _;have hsz:(W.alloc (.cells #[.slice (some ⟨w.heap.size+2,0,none⟩) l.length l.length,.slice (some ⟨w1.heap.size,0,none⟩) s.size c] 49)).heap.size=W.heap.size+1:=aw
 have hc:cat (fun j=>if j=0 then l else aC s) 2=l++aC s:=by simp[cat]
 have hlen:(l++aC s).length=l.length+s.size:=by rw[List.length_append,dz]
 have b1s:=b1.size
 have J:=Ow W.heap.size 2 2 (fun j=>if j=0 then some ⟨w.heap.size+2,0,none⟩ else some ⟨w1.heap.size,0,none⟩) (fun j=>if j=0 then l.length else s.size) (fun j=>if j=0 then l.length else c) (fun j=>if j=0 then l else aC s)
  (W.alloc (.cells #[.slice (some ⟨w.heap.size+2,0,none⟩) l.length l.length,.slice (some ⟨w1.heap.size,0,none⟩) s.size c] 49)) ae
  (fun j hj=>by
   rcases (show j=0\/j=1 by omega) with rfl | rfl <;> simp)
  (fun j hj=>by
   rcases (show j=0\/j=1 by omega) with rfl | rfl
   ·exact⟨(h1.later b2 lRn).later hba lRn,fun h=>cm⟩
   exact⟨h2.later hba lRn,fun h=>cm⟩)
  (by rw[hc,hlen]; omega) (by rw[hsz]; omega) (by rw[hc,hlen]; omega)
 rw[hc,hlen,hsz]at J;refine J.mono fun e w' ⟨he,hsg,hbl,hz⟩=>⟨he,hsg,?_,ae,hz⟩;exact((b1.trans (b2.mono ae)).trans (hba.mono ae)).trans (hbl.mono ae)
theorem R8(s:BAz)(w:World)(hs:s.size<=1000000) :
  Calls prog 212 #[.string s] w fun e w'=>∃B,e=.returned (.slice (some ⟨B,0,none⟩) ((ay s.size).length+s.size) ((ay s.size).length+s.size)) /\
   Seg w' (some ⟨B,0,none⟩) ((ay s.size).length+s.size) ((ay s.size).length+s.size) (ay s.size++aC s)/\Below w.heap.size w w'/\w.heap.size<=B/\B<w'.heap.size:=by
 have HB:=hid (wR s.size w ae ae);have hl:=aF s.size;generalize ay s.size=l at *;go_enter func212,ntmps212
 go_wp2_with fail;refine HB.out.mono ?_;rintro e w1⟨rfl,hs1,hb1,hz1⟩;obtain⟨c,W,hrun,hsg,hbw,hsz⟩:=eD w1 s hs;have HS1:=hid hs1;have HB1:=hid hb1;have HS2:=hid hsg;have HB2:=hid hbw;have HZ:=hid hsz;clear hs1 hb1 hsg hbw hsz;have HJ:=hid (DG (w:=w) HS1.out HB1.out hz1 HS2.out HB2.out HZ.out hl.1 ae hs);go_wp2_with fail;refine HJ.out.mono ?_;rintro e w2⟨rfl,hs2,hb2,hw,hz2⟩;go_wp2;go_ret;exact⟨_,rfl,hs2,hb2,hw,hz2⟩
variable {a b:BAz}
theorem sj(h:a.data.toList=b.data.toList):a=b:=by
 cases a; cases b; congr; exact Array.toList_inj.1 h
theorem dQ(a:BAz):a.size=a.data.toList.length:=Array.length_toList.symm
theorem ia(a:BAz):a.toList=a.data.toList:=ByteArray.toList_eq a
theorem Q7(a b:BAz):(a++b).data.toList=a.data.toList++b.data.toList:=by simp[ByteArray.data_append]
theorem iR(s:BAz)(most:Nat):cC s most=true↔(∀c∈s.data.toList,c=119\/c=108)/\s.size<=most:=by
 rw[r9]
 constructor
 ·intro ⟨h,hm⟩
  refine⟨fun c hc=>?_,hm⟩;obtain⟨i,hi,rfl⟩:=List.getElem_of_mem hc;have:=h i (by rw[dQ]; exact hi);rw[dB,aY hi,Option.getD_some]at this;simp only[isL,Bool.or_eq_true,decide_eq_true_eq]at this
  rcases this with h | h
  ·left; apply UInt8.toNat_inj.1; exact Int.ofNat_inj.1 h
  right; apply UInt8.toNat_inj.1; exact Int.ofNat_inj.1 h
 intro ⟨h,hm⟩;refine⟨fun i hi=>?_,hm⟩;rw[dQ]at hi;rw[dB,aY hi,Option.getD_some]
 rcases h _ (List.getElem_mem hi) with h | h <;> rw[h] <;> rfl
def bB{α:Type}(f:List α->α->Int):List α->List α->Int
 | _,[]=>0
 | ah,x::r=>if f ah x≠0 then f ah x else bB f (ah++[x]) r
def orE(a b:Int):Int:=if a≠0 then a else b
def bK{α:Type}(f:List α->α->Int)(most:Int)(xs:List α):Int:=if most<xs.length then 20 else bB f [] xs
abbrev Sg:=ByteArray×ByteArray
abbrev Gl:=Int×Bool×Int
abbrev Ex:=ByteArray×Int
def gu(ah:List Sg)(x:Sg):Bool:=ah.any fun y=>(y.1.toList==x.1.toList)&&(y.2.toList==x.2.toList)
def cI(ah:List Sg)(x:Sg):Int :=
 if 8<x.1.size then 13 else if cC x.1 8=false then 15 else if 8<x.2.size then 13 else if cC x.2 8=false then 15 else if gu ah x=true then 16 else 0
def bD(n x:Int):Int:=if x<0\/n<=x then 30 else 0
def eu(x:Gl):Int:=if isL x.1=false then 15 else if dI x.2.2 x.1=false then 17 else 0
def iV(least x:Int):Int:=if x<least\/64<x then 17 else 0
def fK(s:BAz):List Int:=ay s.size++aC s
def bN(x:Sg):List Int:=fK x.1++fK x.2
def sgn(c v:Int):Int:=if c=119 then (if v<4294967296 then (if v<2147483648 then v else v-4294967296) else 9223372036854775807) else if v<9223372036854775808 then v else v-18446744073709551616
def cR(x:Gl):List Int:=[x.1,if x.2.1 then 1 else 0]++ay (fo (sgn x.1 x.2.2))
theorem yZ(s:BAz):(fK s).length=(ay s.size).length+s.size:=by simp[fK,dz]
theorem dD(s:BAz)(n:Nat)(h:s.size<=n):1<=(fK s).length/\(fK s).length<=10+n:=by
 have:=aF s.size;rw[yZ]; omega
theorem ib(x:Sg)(h1:x.1.size<=8)(h2:x.2.size<=8):(bN x).length<=36:=by
 have a:=dD x.1 8 h1;have b:=dD x.2 8 h2;simp only[bN,List.length_append]; omega
theorem jz(x:Gl):(cR x).length<=12:=by
 have:=aF (fo (sgn x.1 x.2.2));simp only[cR,List.length_append,List.length_cons,List.length_nil]; omega
theorem eW(s:BAz)(m n:Nat)(h:s.size<=m)(h':s.size<=n):cC s m=cC s n:=by
 cases hb:cC s n
 ·cases ha:cC s m
  ·rfl
  have:=((iR s m).1 ha).1;rw[(iR s n).2 ⟨this,h'⟩]at hb; cases hb
 exact(iR s m).2 ⟨((iR s n).1 hb).1,h⟩
theorem jp{α:Type}(f:List α->α->Int):∀(xs ah ys:List α),bB f ah (xs++ys)=orE (bB f ah xs) (bB f (ah++xs) ys)
 | [],ah,ys=>by simp[bB,orE]
 | x::xs,ah,ys=>by
  simp only[List.cons_append,bB]
  by_cases h:f ah x≠0
  ·simp[h,orE]
  simp only[h,if_false];rw[jp f xs (ah++[x]) ys];simp
theorem fh{α:Type}(f:List α->α->Int)(xs:List α)(j:Nat)(x:α)(hx:xs[j]? =some x)(h:bB f [] (xs.take j)=0)(hf:f (xs.take j) x=0):bB f [] (xs.take (j+1))=0:=by
 have hj:j<xs.length:=by
  exact F7
 have:xs.take (j+1)=xs.take j++[x]:=by
  rw[List.take_succ_eq_append_getElem hj];rw[aY hj]at hx;simp at hx; rw[hx]
 rw[this,jp,h];simp[orE,bB,hf]
theorem eY{α:Type}(f:List α->α->Int)(xs:List α)(j:Nat)(x:α)(hx:xs[j]? =some x)(h:bB f [] (xs.take j)=0)(hf:f (xs.take j) x≠0):bB f [] xs=f (xs.take j) x:=by
 have hj:j<xs.length:=by
  exact F7
 have:xs=xs.take j++x::xs.drop (j+1):=by
  conv=>lhs; rw[<- List.take_append_drop j xs,List.drop_eq_getElem_cons hj]
  rw[aY hj]at hx;simp at hx; rw[hx]
 rw[this,jp]
 have h0:(xs.take j++x::xs.drop (j+1)).take j=xs.take j:=by
  rw[List.take_append_of_le_length aK,List.take_take,Nat.min_self]
 rw[h,h0];simp[orE,bB,hf]
variable {x:Sg}
theorem dW{ah:List Sg}(h:cI ah x=0):x.1.size<=8/\cC x.1 8=true/\x.2.size<=8/\cC x.2 8=true/\gu ah x=false:=by
 unfold cI at h
 split at h
 ·cases h
 split at h
 ·cases h
 split at h
 ·cases h
 split at h
 ·cases h
 split at h
 ·cases h
 refine⟨ae,by simp_all,ae,by simp_all,by simp_all⟩
theorem Kg{ah:List Sg}(h:gu ah x=true):∃k y,ah[k]? =some y/\y.1.toList=x.1.toList/\y.2.toList=x.2.toList/\gu (ah.take k) x=false:=by
 induction ah with
 | nil=>simp[gu]at h
 | cons a r ih =>
  by_cases ha:a.1.toList=x.1.toList/\a.2.toList=x.2.toList
  ·exact⟨0,a,rfl,ha.1,ha.2,by simp[gu]⟩
  have hf:((a.1.toList==x.1.toList)&&(a.2.toList==x.2.toList))=false:=by
   cases hb:((a.1.toList==x.1.toList)&&(a.2.toList==x.2.toList))
   ·rfl
   simp at hb; exact absurd hb ha
  have hr:gu r x=true:=by simpa[gu,hf] using h
  obtain⟨k,y,h1,h2,h3,h4⟩:=ih hr;refine⟨k+1,y,il,h2,h3,?_⟩;simp only[gu,List.take_succ_cons,List.any_cons,hf,Bool.false_or];exact h4
def jX(s:BAz):Bool:=(aC s).all (fun b=>decide (33<=b)&&decide (b<=126))&&!s.toList.isEmpty
def sGt(s nm:BAz):Bool:=!Op.bytesLess s.toList nm.toList&&!s.toList==nm.toList
def gT(ah:List Ex)(s:BAz):Bool:=match ah.getLast? with | none=>false | some y=>!(sGt s y.1)
def dO(nf:Int)(ah:List Ex)(x:Ex):Int :=
 if 32<x.1.size then 13 else if jX x.1=false then 23 else if gT ah x.1=true then 18 else bD nf x.2
def dP(x:Ex):List Int:=fK x.1++ay x.2
def ir(w:World)(e:TypeId)(size B n cap:Nat)(xs:List Value):Prop:=w.ownsRow 0 e size (.slice (some ⟨B,0,none⟩) n cap) n xs
theorem ir.of{base:Nat}{size B n cap:Nat}(h:w.ownsRow base e size (.slice (some ⟨B,0,none⟩) n cap) n xs):ir w e size B n cap xs:=by
 exact Gh
theorem ir.block{size B n cap:Nat}(h:ir w e size B n cap xs):∃cur,w.heap[B]? =some (.cells cur e)/\n<=cap/\cap<=maxLen/\cur.size=cap*size/\cur.toList.take (n*size)=xs:=by
 rcases h.2 with ⟨h,_⟩ | ⟨g,cp,cur,h1,_,h3,h4,h5,h6,h7⟩
 ·cases h
 simp at h1;obtain⟨rfl,rfl⟩:=h1;exact⟨cur,h3,h4,h5,h6,h7⟩
theorem ir.lt{size B n cap:Nat}(h:ir w e size B n cap xs):B<w.heap.size:=by
 exact D9
theorem br{base:Nat}{size:Nat}(h:w.ownsRow base e size v n xs)(hk:∀B,v.ownBlock=some B->w'.heap[B]? =w.heap[B]?):w'.ownsRow base e size v n xs:=by
 exact Mc
theorem ir.keep{size B n cap:Nat}(h:ir w e size B n cap xs)(hk:w'.heap[B]? =w.heap[B]?):ir w' e size B n cap xs :=
 br h (fun b hb=>by
  obtain rfl:B=b:=pk;exact hk)
theorem ir.kept{S:Nat->Prop}{size B n cap:Nat}(h:ir w e size B n cap xs)(hk:Kept S w w')(hs:¬S B):ir w' e size B n cap xs:=h.keep (hk.block B h.lt hs)
theorem ir.cell{size B n cap:Nat}(h:ir w e size B n cap xs)(j:Nat)(hj:j<n*size):w.cell? ⟨B,j,none⟩=xs[j]?:=by
 obtain⟨cur,h1,h2,h3,h4,h5⟩:=h.block
 have hl:j<cur.size:=by rw[h4]; exact Nat.lt_of_lt_of_le hj (Nat.mul_le_mul_right _ h2)
 rw[<- h5,List.getElem?_take_of_lt hj];simp only[World.cell?,h1];simp
variable {a:Act}
theorem kE(w:World){rest:List Oper}(hgd:o.guard=none)
  (s x:Operand) (t:TypeId) (ho:o.op=Op.call { callee:=Callee.builtin Builtin.append,args:=#[s,x],argTypes:=#[t,t] }) (e:TypeId) (i:TypeInfo) (z:Value) (size bytes:Nat)
  (h1:P.underlying t=some (.slice e)) (h2:P.info? e=some i) (h3:i.zero=some z) (h4:i.size=size) (h5:i.bytes=bytes) (h6:z.cells.size=size) (h7:0<size)
  (v:Value) (n:Nat) (xs:List Value) (hs:a.eval s=v) (hown:w.ownsRow 0 e size v n xs) (ad:Addr) (m c:Nat) (news:List Value) (hx:a.eval x=.slice (some ad) m c) (hn:news.length=m*size)
  (hc:∀j u,news[j]? =some u->w.cell? (ad.add j)=some u) (hone:∀u∈news,u.oneCell'=true) (hm:0<m)
  (b1:n+m<=maxLen) (b2:(n+m)*bytes<=140737488355328)
  (h:∀(B cap:Nat)(w':World),ir w' e size B (n+m) cap (xs++news)->((v=.slice (some ⟨B,0,none⟩) n cap/\Kept (fun k=>k=B) w w')\/(w.heap.size<=B/\Kept (fun _=>False) w w'))->wpList P ops Q rest (a.put o.dst (.slice (some ⟨B,0,none⟩) (n+m) cap)) w') :
  wpList P ops Q (o::rest) a w:=by
 have grow:∀(ao:OAz)(cap:Nat),v=.slice ao n cap->(ao=none->n=0/\cap=0)->(∀b,ao=some b->∀(j:Nat)(y:Value),xs[j]? =some y->w.cell? (b.add j)=some y)->cap<n+m->wpList P ops Q (o::rest) a w:=by
  intro ao cap hv hnone holds hfull;refine wpList_append_grows w hgd s x t ho e i z size bytes h1 h2 h3 h4 h5 h6 h7 ao n cap xs (hs.trans hv) hnone hown.1 holds ad m c news hx hn hc hone hfull b1 b2 ?_;intro v' w' ho' hg'
  rcases ho'.2 with ⟨_,hz⟩ | ⟨g,cp,cur,rfl,hbase,h8⟩
  ·omega
  exact h g cp w' (ir.of ho') (.inr ⟨hbase,(Kept.of_grown hg').mono (fun k hk=>by cases hk)⟩)
 rcases hown.2 with ⟨rfl,rfl⟩ | ⟨g,cap,cur,rfl,_,hh,hnc,hcm,hsz,htk⟩
 ·exact E9
 by_cases hroom:n+m<=cap
 ·refine wpList_append_fits w hgd s x t ho 0 e i size h1 h2 h4 g n cap xs hs hown ad m c news hx hn hc hone hroom ?_;exact G7
 refine grow (some ⟨g,0,none⟩) cap rfl (fun hb=>by cases hb) (fun b hb j y hy=>?_) ae;simp at hb;subst hb
 have hj:j<xs.length:=by
  exact Hj
 have hl:=hown.1;have hplain:(⟨g,0,none⟩:Addr).add j=⟨g,j,none⟩:=eJ;rw[hplain,ir.cell hown j ae];exact hy
theorem Mx(w:World){rest:List Oper}(hgd:o.guard=none)
  (s x:Operand) (t:TypeId) (ho:o.op=Op.call { callee:=Callee.builtin Builtin.append,args:=#[s,x],argTypes:=#[t,t] }) (e:TypeId) (i:TypeInfo) (z:Value) (size bytes:Nat)
  (h1:P.underlying t=some (.slice e)) (h2:P.info? e=some i) (h3:i.zero=some z) (h4:i.size=size) (h5:i.bytes=bytes) (h6:z.cells.size=size) (h7:0<size)
  (g n cap:Nat) (xs:List Value) (hs:a.eval s=.slice (some ⟨g,0,none⟩) n cap) (hown:ir w e size g n cap xs) (ad:Addr) (m c:Nat) (news:List Value) (hx:a.eval x=.slice (some ad) m c) (hn:news.length=m*size)
  (hc:∀j u,news[j]? =some u->w.cell? (ad.add j)=some u) (hone:∀u∈news,u.oneCell'=true) (hm:0<m)
  (b1:n+m<=maxLen) (b2:(n+m)*bytes<=140737488355328)
  (h:∀(B cap:Nat)(w':World),ir w' e size B (n+m) cap (xs++news)->Kept (fun k=>k=g) w w'->(B=g\/w.heap.size<=B)->wpList P ops Q rest (a.put o.dst (.slice (some ⟨B,0,none⟩) (n+m) cap)) w') :
  wpList P ops Q (o::rest) a w:=by
 refine kE w hgd s x t ho e i z size bytes h1 h2 h3 h4 h5 h6 h7 _ n xs hs hown ad m c news hx hn hc hone hm b1 b2 ?_;rintro B cp w' hr (⟨hv,hk⟩ | ⟨hB,hk⟩)
 ·simp at hv
  obtain⟨rfl,rfl⟩:=hv;exact h g cap w' hr hk (.inl rfl)
 exact h B cp w' hr (hk.mono (fun k hk=>hk.elim)) (.inr hB)
def thr(e p:Int):Ending:=.panicked [{ v:=.iface 139 (.agg #[.int .i64 e,.int .i64 p]),recovered:=false }]
theorem jP(e at_:Int)(w:World):Calls prog 83 #[.bool true,.int .i64 e,.int .i64 at_] w fun e w'=>e=.returned (.tuple #[])/\w'=w:=by
 go_enter func83,ntmps83
 go_wp2_with fail;go_end0;exact⟨rfl,rfl⟩
theorem uI(x p:Int)(w:World):Calls prog 83 #[.bool false,.int .i64 x,.int .i64 p] w fun e w'=>e=thr x p/\w'=w:=by
 go_enter func83,ntmps83;go_wp2_with fail;simp[bodyPost,thr]
def Buf(w:World)(g n cap:Nat)(xs:List Value):Prop:=ir w 5 1 g n cap xs\/(cap=n/\n<=maxLen/\g<w.heap.size/\xs.length=n/\∀j u,xs[j]? =some u->w.cell? ⟨g,j,none⟩=some u)
theorem Buf.lt{g n cap:Nat}(h:Buf w g n cap xs):g<w.heap.size:=by
 rcases h with h | h
 ·exact h.lt
 exact h.2.2.1
theorem Buf.kept{S:Nat->Prop}{g n cap:Nat}(h:Buf w g n cap xs)(hk:Kept S w w')(hs:¬S g):Buf w' g n cap xs:=by
 rcases h with h | ⟨h1,h2,h3,h4,h5⟩
 ·exact .inl (h.kept hk hs)
 exact .inr ⟨h1,h2,Nat.lt_of_lt_of_le h3 hk.size,h4,fun j u hj=>hk.cell (h5 j u hj) hs⟩
theorem EM(w:World){rest:List Oper}(hgd:o.guard=none)
  (s x:Operand) (t:TypeId) (ho:o.op=Op.call { callee:=Callee.builtin Builtin.append,args:=#[s,x],argTypes:=#[t,t] }) (i:TypeInfo) (z:Value)
  (h1:P.underlying t=some (.slice 5)) (h2:P.info? 5=some i) (h3:i.zero=some z) (h4:i.size=1) (h5:i.bytes=1) (h6:z.cells.size=1)
  (g n cap:Nat) (xs:List Value) (hs:a.eval s=.slice (some ⟨g,0,none⟩) n cap) (hown:Buf w g n cap xs) (ad:Addr) (m c:Nat) (news:List Value) (hx:a.eval x=.slice (some ad) m c) (hn:news.length=m*1)
  (hc:∀j u,news[j]? =some u->w.cell? (ad.add j)=some u) (hone:∀u∈news,u.oneCell'=true) (hm:0<m)
  (b1:n+m<=maxLen) (b2:(n+m)*1<=140737488355328)
  (h:∀(B cap:Nat)(w':World),ir w' 5 1 B (n+m) cap (xs++news)->Kept (fun k=>k=g) w w'->(B=g\/w.heap.size<=B)->wpList P ops Q rest (a.put o.dst (.slice (some ⟨B,0,none⟩) (n+m) cap)) w') :
  wpList P ops Q (o::rest) a w:=by
 rcases hown with hr | ⟨rfl,_,_,hl,hcells⟩
 ·exact Mx w hgd s x t ho 5 i z 1 1 h1 h2 h3 h4 h5 h6 aA g n cap xs hs hr ad m c news hx hn hc hone hm b1 b2 h
 refine wpList_append_grows w hgd s x t ho 5 i z 1 1 h1 h2 h3 h4 h5 h6 aA (some ⟨g,0,none⟩) cap cap xs hs (fun hh=>by cases hh) ae (fun b hb j u hj=>?_) ad m c news hx hn hc hone ae b1 b2 ?_
 ·simp at hb
  subst hb;have hplain:(⟨g,0,none⟩:Addr).add j=⟨g,j,none⟩:=eJ;rw[hplain];exact hcells j u hj
 intro v' w' ho' hg'
 rcases ho'.2 with ⟨_,hz⟩ | ⟨B,cp,cur,rfl,hbase,h8⟩
 ·omega
 exact h B cp w' (ir.of ho') ((Kept.of_grown hg').mono (fun k hk=>by cases hk)) (.inr hbase)
structure Wr(w:World)(R g cap:Nat)(bs:LIz):Prop where
 c0:w.cell? ⟨R,0,none⟩=some (.slice (some ⟨g,0,none⟩) bs.length cap)
 f0:w.frozen? ⟨R,0,none⟩=false
 row:Buf w g bs.length cap (bs.map (Value.int .u8))
 ne:g≠R
variable {bs:LIz}
theorem Wr.lt{R g cap:Nat}(h:Wr w R g cap bs):R<w.heap.size:=block_lt_of_cell h.c0
theorem Wr.kept{S:Nat->Prop}{R g cap:Nat}(h:Wr w R g cap bs)(hk:Kept S w w')(hR:¬S R)(hg:¬S g):Wr w' R g cap bs :=
 ⟨hk.cell h.c0 hR,(cA (hk.block R h.lt hR) 0).trans h.f0,h.row.kept hk hg,h.ne⟩
theorem Wr.later{R g cap:Nat}(h:Wr w R g cap bs)(hb:Below w.heap.size w w'):Wr w' R g cap bs :=
 h.kept (S:=fun _=>False) ⟨hb.os,hb.tape,hb.output,hb.size,fun k hk _=>hb.block k hk⟩ id id
structure Stp(R g g':Nat)(w w':World):Prop where
 k:Kept (fun k=>k=R\/k=g) w w'
 m:g'=g\/w.heap.size<=g'
theorem Stp.refl(R g:Nat)(w:World):Stp R g g w w:=⟨Kept.refl _ _,.inl rfl⟩
variable {R g g' g'':Nat}
theorem Stp.trans(h:Stp R g g' w w1)(h':Stp R g' g'' w1 w2):Stp R g g'' w w2:=by
 refine⟨h.k.then h'.k (fun k hk ht=>?_),?_⟩
 ·rcases ht with rfl | rfl
  ·exact .inl rfl
  exact rF
 exact vp
theorem Stp.of_below(h:Below w.heap.size w w'):Stp R g g w w' :=
 ⟨⟨h.os,h.tape,h.output,h.size,fun k hk _=>h.block k hk⟩,.inl rfl⟩
theorem Stp.size(h:Stp R g g' w w'):w.heap.size<=w'.heap.size:=h.k.size
variable {b o:Nat}
theorem Stp.cell(h:Stp R g g' w w')(hc:w.cell? ⟨b,o,none⟩=some v)(h1:b≠R)(h2:b≠g):w'.cell? ⟨b,o,none⟩=some v:=h.k.cell hc (by simp[h1,h2])
theorem Wr.range{R g cap:Nat}(h:Wr w R g cap bs):bs.length<=maxLen:=by
 rcases h.row with hr | hr
 ·obtain⟨cur,h1,h2,h3,_⟩:=hr.block;omega
 exact hr.2.1
theorem ww(R g cap:Nat)(bs:LIz)(a:OAz)(n c:Nat)(zs:LIz)(w:World)(h:Wr w R g cap bs)(hs:Seg w a n c zs)(hn:0<n)(hb:bs.length+n<=1099511627776) :
  Calls prog 208 #[.pointer (some ⟨R,0,none⟩),.slice a n c] w fun e w'=>e=.returned (.tuple #[])/\∃g' cap',Wr w' R g' cap' (bs++zs)/\Stp R g g' w w':=by
 have c0:=h.c0;have f0:=h.f0;have hlt:=h.lt;obtain⟨i0,hi,hz0,hz1,hz2⟩:=info_parts Tryz.info5
 obtain⟨ad,rfl⟩:∃ad,a=some ad:=by
  rcases hs.2.2.2.2 with h0 | ⟨b,off,h,_⟩
  ·omega
  exact⟨_,h⟩
 have HR:=hid h.row;have HNE:=hid h.ne;have HS:=hid hs;have hl:=hs.1;clear h hs;go_enter func208,ntmps208
 go_wp2_with (at_builtin; (refine EM _ rfl (.tmp 8) (.tmp 9) 49 rfl i0 (.int .u8 0) underlying49 hi hz0 hz1 hz2 rfl g bs.length cap _ rfl HR.out ad n c (zs.map (Value.int .u8)) rfl (by simp[hl]) (ju HS.out ad rfl) (lK _) hn dA ae ?_; intro B cap' w1 hrow hk hor; have HO:=hid hrow; have HK:=hid hk; have HOR:=hid hor; have d0:=hk.cell c0 (Ne.symm HNE.out); have e0:=(cA (hk.block R hlt (Ne.symm HNE.out)) 0).trans f0; clear hrow hk hor c0 f0))
 go_end0
 have hne:B≠R:=by
  rcases HOR.out with h1 | h1
  ·have:=HNE.out; omega
  omega
 refine⟨rfl,B,cap',⟨?_,?_,?_,hne⟩,⟨?_,HOR.out⟩⟩
 ·have:=World.cell?_setCell_same w1 ⟨R,0,none⟩ (.slice (some ⟨B,0,none⟩) (bs.length+n) cap') d0
  simpa[hl] using this
 ·rw[World.frozen?_setCell]; exact e0
 ·have hk:(w1.setCell ⟨R,0,none⟩ (.slice (some ⟨B,0,none⟩) (bs.length+n) cap')).heap[B]? =w1.heap[B]?:=Below.heap_setCell _ _ _ _ (by simpa using hne)
  have:=HO.out.keep hk;refine .inl ?_
  simpa[hl] using this
 exact(HK.out.mono (T:=fun k=>k=R\/k=g) (fun k hk=>.inr hk)).trans ⟨rfl,rfl,rfl,by simp[World.setCell],fun k hk hs=>Below.heap_setCell _ _ _ _ (by simp at hs ⊢; omega)⟩
abbrev pH(R g:Nat)(bs new:LIz)(v:Value)(w:World):Ending->World->Prop:=fun e w'=>e=.returned v/\∃g' cap',Wr w' R g' cap' (bs++new)/\Stp R g g' w w'
abbrev bo(R g:Nat)(x:Int)(w:World):Ending->World->Prop:=fun e w'=>(∃p,e=thr x p)/\Kept (fun k=>k=R\/k=g) w w'
abbrev mh(w:World):Ending->World->Prop:=fun e w'=>e=.returned (.tuple #[])/\Below w.heap.size w w'
abbrev mi(x:Int)(w:World):Ending->World->Prop:=fun e w'=>(∃p,e=thr x p)/\Below w.heap.size w w'
theorem aP{S:Nat->Prop}(h:Below w.heap.size w w'):Kept S w w':=⟨h.os,h.tape,h.output,h.size,fun k hk _=>h.block k hk⟩
theorem dL(R:Nat)(a:OAz)(n cap:Nat)(w:World)(h:w.cell? ⟨R,0,none⟩=some (.slice a n cap)):Calls prog 205 #[.pointer (some ⟨R,0,none⟩)] w fun e w'=>e=.returned (.int .i64 n)/\w'=w:=by
 go_enter func205,ntmps205;exact jf
theorem QC(v:Int)(w:World)(h0:0<=v)(h1:v<18446744073709551616) :
  Calls prog 209 #[.int .u64 v] w fun e w'=>∃B,e=.returned (.slice (some ⟨B,0,none⟩) (ay v).length (ay v).length)/\Seg w' (some ⟨B,0,none⟩) (ay v).length (ay v).length (ay v)/\Below w.heap.size w w' :=
 (wR v w h0 h1).mono fun e w' ⟨he,hs,hb,_⟩=>⟨_,he,hs,hb⟩
theorem Uc(v:Int)(w:World)(h0:-9223372036854775808<=v)(h1:v<9223372036854775808) :
  Calls prog 211 #[.int .i64 v] w fun e w'=>∃B,e=.returned (.slice (some ⟨B,0,none⟩) (ay (fo v)).length (ay (fo v)).length)/\Seg w' (some ⟨B,0,none⟩) (ay (fo v)).length (ay (fo v)).length (ay (fo v))/\Below w.heap.size w w' :=
 (Mi v w h0 h1).mono fun e w' ⟨he,hs,hb,_⟩=>⟨_,he,hs,hb⟩
theorem Uy(s:BAz)(w:World)(hs:s.size<=1000000) :
  Calls prog 212 #[.string s] w fun e w'=>∃B,e=.returned (.slice (some ⟨B,0,none⟩) ((ay s.size).length+s.size) ((ay s.size).length+s.size)) /\
   Seg w' (some ⟨B,0,none⟩) ((ay s.size).length+s.size) ((ay s.size).length+s.size) (ay s.size++aC s)/\Below w.heap.size w w' :=
 (R8 s w hs).mono fun e w' ⟨B,he,hs,hb,_⟩=>⟨_,he,hs,hb⟩
theorem ip(R g cap:Nat)(bs:LIz)(v:Int)(K:Nat)(cs:AVz)(w:World)(h:Wr w R g cap bs)(h0:0<=v)(h1:v<18446744073709551616)(hb:bs.length+10<=1099511627776)
  (hK:∀args w,(callFunc K args).run prog w=.ok (.enter K args) w)
  (hask:Calls prog K (#[.int .u64 v,.int .i64 bs.length]++cs) w (mh w)) :
  Calls prog 203 #[.pointer (some ⟨R,0,none⟩),.int .u64 v,.func (.func K) #[] cs] w (pH R g bs (ay v) (.int .u64 v) w):=by
 have c0:=h.c0;have HW:=hid h;have HU:=hid (fun W=>QC v W h0 h1);have hul:=aF v;generalize ay v=U at *;clear h;go_enter func203,ntmps203;exact Ml
theorem iM(R g cap:Nat)(bs:LIz)(v:Int)(K:Nat)(cs:AVz)(x:Int)(w:World)(h:Wr w R g cap bs)
  (hK:∀args w,(callFunc K args).run prog w=.ok (.enter K args) w)
  (hask:Calls prog K (#[.int .u64 v,.int .i64 bs.length]++cs) w (mi x w)) :
  Calls prog 203 #[.pointer (some ⟨R,0,none⟩),.int .u64 v,.func (.func K) #[] cs] w (bo R g x w):=by
 have c0:=h.c0;clear h;go_enter func203,ntmps203;exact Bo
theorem ug(R g cap:Nat)(bs:LIz)(v:Int)(K:Nat)(cs:AVz)(w:World)(h:Wr w R g cap bs)(h0:-9223372036854775808<=v)(h1:v<9223372036854775808)(hb:bs.length+10<=1099511627776)
  (hK:∀args w,(callFunc K args).run prog w=.ok (.enter K args) w)
  (hask:Calls prog K (#[.int .i64 v,.int .i64 bs.length]++cs) w (mh w)) :
  Calls prog 206 #[.pointer (some ⟨R,0,none⟩),.int .i64 v,.func (.func K) #[] cs] w (pH R g bs (ay (fo v)) (.int .i64 v) w):=by
 have c0:=h.c0;have HW:=hid h;have HU:=hid (fun W=>Uc v W h0 h1);have hul:=aF (fo v);generalize ay (fo v)=U at *;clear h;go_enter func206,ntmps206;exact Ml
theorem vY(R g cap:Nat)(bs:LIz)(v:Int)(K:Nat)(cs:AVz)(x:Int)(w:World)(h:Wr w R g cap bs)
  (hK:∀args w,(callFunc K args).run prog w=.ok (.enter K args) w)
  (hask:Calls prog K (#[.int .i64 v,.int .i64 bs.length]++cs) w (mi x w)) :
  Calls prog 206 #[.pointer (some ⟨R,0,none⟩),.int .i64 v,.func (.func K) #[] cs] w (bo R g x w):=by
 have c0:=h.c0;clear h;go_enter func206,ntmps206;exact Bo
theorem bU(R g cap:Nat)(bs:LIz)(k:Nat)(m:Int)(w:World)(h:Wr w R g cap bs)(hk:(k:Int)<=m)(hk1:k<=1099511627776)(hb:bs.length+10<=1099511627776) :
  Calls prog 201 #[.pointer (some ⟨R,0,none⟩),.int .i64 k,.int .i64 m] w (pH R g bs (ay k) (.int .i64 k) w):=by
 have c0:=h.c0;have HW:=hid h;have HU:=hid (fun W=>QC k W ae ae);have hul:=aF k;generalize ay k=U at *
 have hd:decide ((k:Int)<=m)=true:=by simp[hk]
 have hw64:IntKind.u64.wrap (k:Int)=k:=cT _ ae ae;clear h;go_enter func201,ntmps201
 go_wp2_with fail;refine(dL R _ _ _ w c0).mono ?_;rintro e w1⟨rfl,rfl⟩;go_wp2_with fail;refine(jP _ _ _).mono ?_;rintro e w1⟨rfl,rfl⟩;clear c0 hd;go_wp2_with fail;refine(HU.out _).mono ?_;rintro e w3⟨B,rfl,s3,b3⟩;have B3:=hid b3;exact N8
theorem eZ(R g cap:Nat)(bs:LIz)(k:Nat)(m:Int)(w:World)(h:Wr w R g cap bs)(hk:m<(k:Int)) :
  Calls prog 201 #[.pointer (some ⟨R,0,none⟩),.int .i64 k,.int .i64 m] w (bo R g 20 w):=by
 have c0:=h.c0;have hd:decide ((k:Int)<=m)=false:=aK;clear h;go_enter func201,ntmps201;exact Lj
theorem P6(w:World)(v:Int)(h0:0<=v)(h1:v<=255)(t:TypeId):Seg (w.alloc (.cells #[.int .u8 v] t)) (some ⟨w.heap.size,0,none⟩) 1 1 [v]:=by
 refine⟨rfl,Nat.le_refl _,ae,by simp[h0,h1],.inr ⟨_,0,rfl,fun j hj=>?_⟩⟩;obtain rfl:j=0:=ae;simp[go_sem]
theorem iJ(R g cap:Nat)(bs:LIz)(v:Int)(K:Nat)(cs:AVz)(w:World)(h:Wr w R g cap bs)(h0:0<=v)(h1:v<=255)(hb:bs.length+1<=1099511627776)
  (hK:∀args w,(callFunc K args).run prog w=.ok (.enter K args) w)
  (hask:Calls prog K (#[.int .u8 v,.int .i64 bs.length]++cs) w (mh w)) :
  Calls prog 204 #[.pointer (some ⟨R,0,none⟩),.int .u8 v,.func (.func K) #[] cs] w (pH R g bs [v] (.int .u8 v) w):=by
 have c0:=h.c0;have HW:=hid h;clear h;go_enter func204,ntmps204
 go_wp2_with fail;refine(dL R _ _ _ w c0).mono ?_;rintro e w1⟨rfl,rfl⟩;go_wp2_with fail;refine hask.mono ?_;rintro e w2⟨rfl,b2⟩;have hb2:=b2.trans (((Below.refl _ w2).alloc lRn (ei v)).mono b2.size);have HS:=hid (P6 w2 v h0 h1 5);have B3:=hid hb2;clear b2 hb2 hask hK c0;go_wp2_with fail;refine(ww R g cap bs _ _ _ _ _ (HW.out.later B3.out) HS.out ae ae).mono ?_;rintro e w4⟨rfl,g',cap',hw4,hs4⟩;have W4:=hid hw4;have S4:=hid ((Stp.of_below B3.out).trans hs4);clear hw4 hs4;go_wp2_with fail;go_ret;exact⟨rfl,g',cap',W4.out,S4.out⟩
theorem ze(R g cap:Nat)(bs:LIz)(v:Int)(K:Nat)(cs:AVz)(x:Int)(w:World)(h:Wr w R g cap bs)
  (hK:∀args w,(callFunc K args).run prog w=.ok (.enter K args) w)
  (hask:Calls prog K (#[.int .u8 v,.int .i64 bs.length]++cs) w (mi x w)) :
  Calls prog 204 #[.pointer (some ⟨R,0,none⟩),.int .u8 v,.func (.func K) #[] cs] w (bo R g x w):=by
 have c0:=h.c0;clear h;go_enter func204,ntmps204;exact Bo
theorem ek(R g cap:Nat)(bs:LIz)(s:BAz)(m:Int)(K:Nat)(cs:AVz)(w:World)(h:Wr w R g cap bs)(hm:(s.size:Int)<=m)(hs:s.size<=1000000)(hb:bs.length+10+s.size<=1099511627776)
  (hK:∀args w,(callFunc K args).run prog w=.ok (.enter K args) w)
  (hask:Calls prog K (#[.string s,.int .i64 bs.length]++cs) w (mh w)) :
  Calls prog 207 #[.pointer (some ⟨R,0,none⟩),.string s,.int .i64 m,.func (.func K) #[] cs] w (pH R g bs (ay s.size++aC s) (.string s) w):=by
 have c0:=h.c0;have HW:=hid h;have HU:=hid (fun W=>Uy s W hs);have hul:=aF s.size
 have hd:decide ((s.size:Int)<=m)=true:=by simp[hm]
 generalize ay s.size=U at *;clear h;go_enter func207,ntmps207
 go_wp2_with fail;refine(dL R _ _ _ w c0).mono ?_;rintro e w1⟨rfl,rfl⟩;go_wp2_with fail;refine(jP _ _ _).mono ?_;rintro e w1⟨rfl,rfl⟩;clear hd;go_wp2_with fail;refine(dL R _ _ _ _ c0).mono ?_;rintro e w1⟨rfl,rfl⟩;go_wp2_with fail;refine hask.mono ?_;rintro e w2⟨rfl,b2⟩;have B2:=hid b2;clear b2 hask hK c0;go_wp2_with fail;refine(HU.out _).mono ?_;rintro e w3⟨B,rfl,s3,b3⟩;have B3:=hid (B2.out.trans (b3.mono B2.out.size));exact N8
theorem gM(R g cap:Nat)(bs:LIz)(s:BAz)(m:Int)(f:Value)(w:World)(h:Wr w R g cap bs)(hm:m<(s.size:Int)) :
  Calls prog 207 #[.pointer (some ⟨R,0,none⟩),.string s,.int .i64 m,f] w (bo R g 13 w):=by
 have c0:=h.c0;have hd:decide ((s.size:Int)<=m)=false:=aK;clear h;go_enter func207,ntmps207;exact Lj
theorem gj(R g cap:Nat)(bs:LIz)(s:BAz)(m:Int)(K:Nat)(cs:AVz)(x:Int)(w:World)(h:Wr w R g cap bs)(hm:(s.size:Int)<=m)
  (hK:∀args w,(callFunc K args).run prog w=.ok (.enter K args) w)
  (hask:Calls prog K (#[.string s,.int .i64 bs.length]++cs) w (mi x w)) :
  Calls prog 207 #[.pointer (some ⟨R,0,none⟩),.string s,.int .i64 m,.func (.func K) #[] cs] w (bo R g x w):=by
 have c0:=h.c0
 have hd:decide ((s.size:Int)<=m)=true:=by simp[hm]
 clear h;go_enter func207,ntmps207
 go_wp2_with fail;refine(dL R _ _ _ w c0).mono ?_;rintro e w1⟨rfl,rfl⟩;go_wp2_with fail;refine(jP _ _ _).mono ?_;rintro e w1⟨rfl,rfl⟩;clear hd;go_wp2_with fail;refine(dL R _ _ _ _ c0).mono ?_;rintro e w1⟨rfl,rfl⟩;go_wp2_with fail;refine hask.mono ?_;rintro e w2⟨⟨p,rfl⟩,b2⟩;exact⟨rfl,⟨p,rfl⟩,aP b2⟩
structure Opn where
 P:ByteArray
 R:ByteArray
 B:ByteArray
 op:Int
 pc:Int
def Opn.vals(o:Opn):List Value:=[.string o.P,.string o.R,.string o.B,.int .u8 o.op,.int .i64 o.pc]
def opV(l:List Opn):List Value:=l.flatMap Opn.vals
theorem Fq(l:List Opn):(opV l).length=l.length*5:=by
 induction l with
 | nil=>rfl
 | cons a r ih=>simp[opV,Opn.vals]at ih ⊢; omega
theorem GK(l:List Opn):∀(j:Nat)(o:Opn),l[j]? =some o->(opV l)[j*5]? =some (.string o.P)/\(opV l)[j*5+1]? =some (.string o.R)/\(opV l)[j*5+2]? =some (.string o.B)/\(opV l)[j*5+3]? =some (.int .u8 o.op)/\(opV l)[j*5+4]? =some (.int .i64 o.pc):=by
 induction l with
 | nil=>intro j o h; simp at h
 | cons a r ih =>
  intro j o h
  match j,h with
  | 0,h=>simp at h; subst h; simp[opV,Opn.vals]
  | j+1,h =>
   have:=ih j o kJ
   have e:∀i,(opV (a::r))[(j+1)*5+i]? =(opV r)[j*5+i]?:=by
    intro i;have:(j+1)*5+i=5+(j*5+i):=ae;rw[this,show opV (a::r)=a.vals++opV r from rfl,List.getElem?_append_right (by simp[Opn.vals])];simp[Opn.vals]
   have e0:=e 0;simp only[Nat.add_zero]at e0;rw[e0,e 1,e 2,e 3,e 4];exact this
structure Ev where
 C:Nat
 SH:Nat
 FL:Nat
 O0:Nat
 EN:Nat
 EL:Nat
 n:Nat
 mv:Array Value
 lv:Value
def Ev.S(v:Ev)(k:Nat):Prop:=k=v.C\/k=v.SH\/k=v.FL\/k=v.O0
structure Cs where
 op:List Opn
 st:ByteArray
 pc:Nat
 dead:Bool
 sh:List ByteArray
 fl:Nat->Int
 hi:Nat
def ckV(v:Ev)(s:Cs)(ov:Value):Array Value :=
 #[v.mv.getD 0 default,v.mv.getD 1 default,v.mv.getD 2 default,v.mv.getD 3 default,v.mv.getD 4 default,v.mv.getD 5 default,v.mv.getD 6 default,v.mv.getD 7 default,v.lv,
  .slice (some ⟨v.SH,0,none⟩) v.n v.n,.slice (some ⟨v.EN,0,none⟩) v.n v.n,.slice (some ⟨v.EL,0,none⟩) v.n v.n,.slice (some ⟨v.FL,0,none⟩) v.n v.n,.int .i64 s.hi,ov,.string s.st,.int .i64 s.pc,.bool s.dead]
structure CI(v:Ev)(w1 w:World)(s:Cs):Prop where
 kept:Kept v.S w1 w
 ck:∃OB oc,w.heap[v.C]? =some (.cells (ckV v s (.slice (some ⟨OB,0,none⟩) s.op.length oc)) 120)/\w.ownsRow 0 116 5 (.slice (some ⟨OB,0,none⟩) s.op.length oc) s.op.length (opV s.op)/\(OB=v.O0\/w1.heap.size<=OB)
 sh:Row w 9 v.SH v.n v.n (s.sh.map Value.string)
 fl:RI w v.FL v.n s.fl
structure EvA(v:Ev)(w1:World):Prop where
 c:v.C<w1.heap.size
 o:v.O0<w1.heap.size
 s:v.SH<w1.heap.size
 f:v.FL<w1.heap.size
 cs:v.C≠v.SH
 cf:v.C≠v.FL
 co:v.C≠v.O0
 sf:v.SH≠v.FL
 so:v.SH≠v.O0
 fo:v.FL≠v.O0
section
variable {v:Ev} {w1 w:World} {s:Cs}
variable {a:AVz}{t:TypeId}
theorem ai{w:World}(h:w.heap[b]? =some (.cells a t)):w.cell? ⟨b,i,none⟩=a[i]?:=by
 simp[World.cell?,h]
variable {a0:Value}{l:List Value}
theorem iz0{w:World}(h:w.heap[b]? =some (.cells (List.toArray (a0::l)) t)):w.cell? ⟨b,0,none⟩=some a0:=by rw[ai h]; simp
variable {a1:Value}
theorem iz1{w:World}(h:w.heap[b]? =some (.cells (List.toArray (a0::a1::l)) t)):w.cell? ⟨b,1,none⟩=some a1:=by rw[ai h]; simp
theorem iz2{w:World}{a0 a1 a2:Value}(h:w.heap[b]? =some (.cells (List.toArray (a0::a1::a2::l)) t)):w.cell? ⟨b,2,none⟩=some a2:=by rw[ai h]; simp
theorem iz3{w:World}{a0 a1 a2 a3:Value}(h:w.heap[b]? =some (.cells (List.toArray (a0::a1::a2::a3::l)) t)):w.cell? ⟨b,3,none⟩=some a3:=by rw[ai h]; simp
theorem iz4{w:World}{a0 a1 a2 a3 a4:Value}(h:w.heap[b]? =some (.cells (List.toArray (a0::a1::a2::a3::a4::l)) t)):w.cell? ⟨b,4,none⟩=some a4:=by rw[ai h]; simp
theorem iz5{w:World}{a0 a1 a2 a3 a4 a5:Value}(h:w.heap[b]? =some (.cells (List.toArray (a0::a1::a2::a3::a4::a5::l)) t)):w.cell? ⟨b,5,none⟩=some a5:=by rw[ai h]; simp
theorem iz6{w:World}{a0 a1 a2 a3 a4 a5 a6:Value}(h:w.heap[b]? =some (.cells (List.toArray (a0::a1::a2::a3::a4::a5::a6::l)) t)):w.cell? ⟨b,6,none⟩=some a6:=by rw[ai h]; simp
theorem iz7{w:World}{a0 a1 a2 a3 a4 a5 a6 a7:Value}(h:w.heap[b]? =some (.cells (List.toArray (a0::a1::a2::a3::a4::a5::a6::a7::l)) t)):w.cell? ⟨b,7,none⟩=some a7:=by rw[ai h]; simp
theorem iz8{w:World}{a0 a1 a2 a3 a4 a5 a6 a7 a8:Value}(h:w.heap[b]? =some (.cells (List.toArray (a0::a1::a2::a3::a4::a5::a6::a7::a8::l)) t)):w.cell? ⟨b,8,none⟩=some a8:=by rw[ai h]; simp
theorem iz9{w:World}{a0 a1 a2 a3 a4 a5 a6 a7 a8 a9:Value}(h:w.heap[b]? =some (.cells (List.toArray (a0::a1::a2::a3::a4::a5::a6::a7::a8::a9::l)) t)):w.cell? ⟨b,9,none⟩=some a9:=by rw[ai h]; simp
theorem iz10{w:World}{a0 a1 a2 a3 a4 a5 a6 a7 a8 a9 a10:Value}(h:w.heap[b]? =some (.cells (List.toArray (a0::a1::a2::a3::a4::a5::a6::a7::a8::a9::a10::l)) t)):w.cell? ⟨b,10,none⟩=some a10:=by rw[ai h]; simp
theorem iz11{w:World}{a0 a1 a2 a3 a4 a5 a6 a7 a8 a9 a10 a11:Value}(h:w.heap[b]? =some (.cells (List.toArray (a0::a1::a2::a3::a4::a5::a6::a7::a8::a9::a10::a11::l)) t)):w.cell? ⟨b,11,none⟩=some a11:=by rw[ai h]; simp
theorem iz12{w:World}{a0 a1 a2 a3 a4 a5 a6 a7 a8 a9 a10 a11 a12:Value}(h:w.heap[b]? =some (.cells (List.toArray (a0::a1::a2::a3::a4::a5::a6::a7::a8::a9::a10::a11::a12::l)) t)):w.cell? ⟨b,12,none⟩=some a12:=by rw[ai h]; simp
theorem iz13{w:World}{a0 a1 a2 a3 a4 a5 a6 a7 a8 a9 a10 a11 a12 a13:Value}(h:w.heap[b]? =some (.cells (List.toArray (a0::a1::a2::a3::a4::a5::a6::a7::a8::a9::a10::a11::a12::a13::l)) t)):w.cell? ⟨b,13,none⟩=some a13:=by rw[ai h]; simp
theorem iz14{w:World}{a0 a1 a2 a3 a4 a5 a6 a7 a8 a9 a10 a11 a12 a13 a14:Value}(h:w.heap[b]? =some (.cells (List.toArray (a0::a1::a2::a3::a4::a5::a6::a7::a8::a9::a10::a11::a12::a13::a14::l)) t)):w.cell? ⟨b,14,none⟩=some a14:=by rw[ai h]; simp
theorem iz15{w:World}{a0 a1 a2 a3 a4 a5 a6 a7 a8 a9 a10 a11 a12 a13 a14 a15:Value}(h:w.heap[b]? =some (.cells (List.toArray (a0::a1::a2::a3::a4::a5::a6::a7::a8::a9::a10::a11::a12::a13::a14::a15::l)) t)):w.cell? ⟨b,15,none⟩=some a15:=by rw[ai h]; simp
theorem free_at{w:World}(h:w.heap[b]? =some (.cells a t)):w.frozen? ⟨b,i,none⟩=false:=by
 simp[World.frozen?,h]
theorem CI.later(hA:EvA v w1)(h:CI v w1 w s)(hb:Below w.heap.size w w'):CI v w1 w' s:=by
 obtain⟨OB,oc,h1,h2,h3⟩:=h.ck;have hz:=h.kept.size;have lt:v.C<w.heap.size:=Nat.lt_of_lt_of_le hA.c hz;refine⟨h.kept.trans (aP hb),⟨OB,oc,(hb.block _ lt).trans h1,?_,h3⟩,h.sh.keep (hb.block _ h.sh.lt),h.fl.keep (hb.block _ h.fl.lt)⟩
 rcases h2.2 with ⟨e,_⟩ | ⟨g,cap,cur,e,h4,h5,h6⟩
 ·cases e
 cases e
 have hl:OB<w.heap.size:=by
  exact Ha
 exact⟨h2.1,.inr ⟨_,_,cur,rfl,h4,(hb.block _ hl).trans h5,h6⟩⟩
theorem CI.st(h:CI v w1 w s):w.cell? ⟨v.C,15,none⟩=some (.string s.st):=by
 exact iK
theorem CI.pc(h:CI v w1 w s):w.cell? ⟨v.C,16,none⟩=some (.int .i64 s.pc):=by
 exact iK
theorem CI.dead(h:CI v w1 w s):w.cell? ⟨v.C,17,none⟩=some (.bool s.dead):=by
 exact iK
theorem CI.hi(h:CI v w1 w s):w.cell? ⟨v.C,13,none⟩=some (.int .i64 s.hi):=by
 exact iK
theorem CI.shc(h:CI v w1 w s):w.cell? ⟨v.C,9,none⟩=some (.slice (some ⟨v.SH,0,none⟩) v.n v.n):=by
 exact iK
theorem CI.elc(h:CI v w1 w s):w.cell? ⟨v.C,11,none⟩=some (.slice (some ⟨v.EL,0,none⟩) v.n v.n):=by
 exact iK
theorem CI.enc(h:CI v w1 w s):w.cell? ⟨v.C,10,none⟩=some (.slice (some ⟨v.EN,0,none⟩) v.n v.n):=by
 exact iK
theorem CI.flc(h:CI v w1 w s):w.cell? ⟨v.C,12,none⟩=some (.slice (some ⟨v.FL,0,none⟩) v.n v.n):=by
 exact iK
theorem CI.lc(h:CI v w1 w s):w.cell? ⟨v.C,8,none⟩=some v.lv:=by
 exact iK
theorem CI.mc(h:CI v w1 w s):w.cell? ⟨v.C,0,none⟩=some (v.mv.getD 0 default)/\w.cell? ⟨v.C,1,none⟩=some (v.mv.getD 1 default)/\w.cell? ⟨v.C,2,none⟩=some (v.mv.getD 2 default)/\w.cell? ⟨v.C,5,none⟩=some (v.mv.getD 5 default):=by
 obtain⟨_,_,h1,_⟩:=h.ck;exact⟨lg,lg,lg,lg⟩
theorem CI.free(h:CI v w1 w s)(i:Nat):w.frozen? ⟨v.C,i,none⟩=false:=by
 obtain⟨_,_,h1,_⟩:=h.ck; exact free_at h1
theorem CI.opn(h:CI v w1 w s):∃OB oc,w.cell? ⟨v.C,14,none⟩=some (.slice (some ⟨OB,0,none⟩) s.op.length oc)/\s.op.length<=oc/\∀j o,s.op[j]? =some o ->
  w.cell? ⟨OB,j*5,none⟩=some (.string o.P)/\w.cell? ⟨OB,j*5+1,none⟩=some (.string o.R)/\w.cell? ⟨OB,j*5+2,none⟩=some (.string o.B)/\w.cell? ⟨OB,j*5+3,none⟩=some (.int .u8 o.op)/\w.cell? ⟨OB,j*5+4,none⟩=some (.int .i64 o.pc):=by
 obtain⟨OB,oc,h1,h2,h3⟩:=h.ck;have h0:w.cell? ⟨v.C,14,none⟩=some (.slice (some ⟨OB,0,none⟩) s.op.length oc):=lg
 rcases h2.2 with ⟨e,_⟩ | ⟨g,cap,cur,e,h4,h5,h6,h7,h8,h9⟩
 ·cases e
 cases e
 refine⟨OB,oc,h0,h6,fun j o hj=>?_⟩
 have hl:j<s.op.length:=by
  rcases Nat.lt_or_ge j s.op.length with hx | hx
  ·exact hx
  rw[List.getElem?_eq_none hx]at hj; cases hj
 have c:∀i,i<5->w.cell? ⟨OB,j*5+i,none⟩=(opV s.op)[j*5+i]?:=by
  intro i hi;rw[ai h5,<- h9,List.getElem?_take_of_lt ae,Array.getElem?_toList]
 have:=GK s.op j o hj;have c0:=c 0 ae;simp only[Nat.add_zero]at c0;rw[c0,c 1 ae,c 2 ae,c 3 ae,c 4 ae];exact this
end
end Go.Proofs.YtepcmfegggdjfaaGreatDoor

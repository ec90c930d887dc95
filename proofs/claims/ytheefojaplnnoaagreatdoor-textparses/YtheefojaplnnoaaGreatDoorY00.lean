/-
  Heap Own Hid Code Plain ReadA ReadB ReadC Eq Join Uvar Write WText TLett TEach TWord
-/
import Derived.Deep.AppendLies
import Derived.Deep.AppendSrc
import Derived.Deep.DeepHandedRow
import Derived.Deep.RegionHeld3
import Derived.HandedShaped
import Derived.LaidMore
import Derived.Laws.AppendOwnNone
import Derived.Lay
import Derived.Lib.AppendIntMem
import Derived.Lib.ItoaLen
import Derived.Lib.SmallJoins
import Derived.LoopIn
import Derived.LoopNIn
import Derived.OwnWalkIn
import Derived.RangeFuncBox
import Derived.RangeFuncCalls
import Derived.RegionDies
import Derived.SevenTiedAt
import Derived.Shelf.RegionOpen
import Derived.Shelf.Small.Strs
import Derived.Shelf.Small.Wraps
import Derived.Shelf.Strconv.ErrVarParseInt
import Derived.Shelf.Strconv.Itoa4
import Derived.Shelf.Strings.BuilderK
import Derived.Shelf.Strings.FieldsFuncAny
import Derived.Shelf.Strings.OnBuilder
import Derived.Shelf.Strings.Shaped
import Derived.Shelf.Unicode.DecodeSlow
import Derived.Stop.LaidErr
import Derived.WalkLawsBesides
import Derived.WalkSpells
import Derived.Test.YtheefojaplnnoaaGreatDoorProg
set_option linter.unusedVariables false
set_option maxRecDepth 100000
set_option maxHeartbeats 16000000
namespace Go.Proofs.YtheefojaplnnoaaGreatDoor
open Go.Proofs.Tryz
open Go.RowKit
theorem Zs{P:Prop}(h:P:=by repeat' (first|kernel_rfl|(intro _;kernel_rfl)|decide|constructor)):P:=h
theorem ZO{α:Type _}{l:List α}{i:Nat}{a:α}(h:l[i]? =some a):a∈l:=List.mem_of_getElem? h
theorem ZQ{w:World}{a:Addr}{v:Value}(h:w.cell? a=some v):a.block<w.heap.size:=block_lt_of_cell h
theorem ZT(B:Nat)(w:World):Below B w w:=Below.refl B w
theorem ZV{α:Type _}{l k:List α}:(l++k).length=l.length+k.length:=List.length_append
theorem ZW{n m k:Nat}(h:n<=m)(h':m<=k):n<=k:=Nat.le_trans h h'
theorem ZX{P:Program}{ops:Array Oper}{Q:Exit->Act->World->Prop}{S:World->Prop}{id:Nat}{a:Act}{w:World}(hf:P.follows .mixedOrders=true)(h:S w.drew)(k:S w.drew->wpAnyH P .any ops Q S ops.size (Array.replicate ops.size false) a w.drew):Code.wp P (.region id ops true) Q a w:=wp_region_held_drew hf h k
theorem ZY{α:Type _}{i:Nat}{l:List α}(h:l.length<=i):List.take i l=l:=List.take_of_length_le h
theorem ZZ(w:World)(o:Obj):(w.alloc o).heap[w.heap.size]? =some o/\∀r':Nat,r'<w.heap.size->(w.alloc o).heap[r']? =w.heap[r']?:=MapKept.heap_alloc w o
theorem Z0{P:Program}{e:TypeId}{z:Value}{size bytes:Nat}(h:(P.info? e).map (fun i=>(i.zero,i.size,i.bytes))=some (some z,size,bytes)):∃i,P.info? e=some i/\i.zero=some z/\i.size=size/\i.bytes=bytes:=info_parts h
theorem Z1{α:Type _}{a:α}{l:List α}:(a::l).length=l.length+1:=List.length_cons
theorem Z2{α:Type _}(l k m:List α):l++k++m=l++(k++m):=List.append_assoc l k m
theorem Z3{α:Type _}{l:List α}{i:Nat}{a:α}:l.getD i a=l[i]?.getD a:=List.getD_eq_getElem?_getD
theorem Z4{P:Program}{ops:Array Oper}{Q:Exit->Act->World->Prop}{md:Region.Mode}{S:World->Prop}{listed:Array Bool}{a:Act}{w:World}(h:Region.ready md ops listed=[])(k:Q .normal a w)(fuel:Nat):wpAnyH P md ops Q S fuel listed a w:=wpAnyH_done h k fuel
theorem Z5(n:Nat):0<=n:=Nat.zero_le n
theorem Z6{α:Type _}{l:List α}(h:l.length=0):l=[]:=List.eq_nil_of_length_eq_zero h
theorem Z7(w:World)(base:Nat)(e:TypeId)(size:Nat):w.ownsRow base e size (.slice none 0 0) 0 []:=World.ownsRow_nil w base e size
theorem Z8{n m k:Nat}(h:n<m)(h':m<=k):n<k:=Nat.lt_of_lt_of_le h h'
theorem Z9{α:Type _}(y:α){a:α}{l:List α}(h:a∈l):a∈y::l:=List.mem_cons_of_mem y h
theorem i4{P:Program}{fn:Func}{R:Ending->World->Prop}{a:Act}{w:World}{v:Value}(h:Sem.run P (results fn a.tmps) w=.ok v w)(hd:a.defers=[])(k:R (.returned v) w):bodyPost P fn R .ret a w:=bodyPost_ret h hd k
theorem i9{α:Type _}{a b:α}(h:some a=some b):a=b:=Option.some.inj h
theorem Zaa{α:Type _}{l k:List α}{i:Nat}(h:i<l.length):(l++k)[i]? =l[i]?:=List.getElem?_append_left h
theorem Zab{α:Type _}{xs:Array α}:xs.toList.length=xs.size:=Array.length_toList
theorem Zac{α:Type _}{β:Type _}(a:α)(f:α->Option β):(some a).bind f=f a:=Option.bind_some a f
theorem Zad{α:Type _}{a:α}{l:List α}:a∈a::l:=List.mem_cons_self
theorem Zae(n m:Nat):n<m\/n>=m:=Nat.lt_or_ge n m
theorem Zaf{α:Type _}{i:Nat}{xs:Array α}(h:xs.size<=i):xs[i]? =none:=Array.getElem?_eq_none h
theorem Zag{α:Type _}{l k:List α}{i:Nat}(h:l.length<=i):(l++k)[i]? =k[i-l.length]?:=List.getElem?_append_right h
abbrev Zah:=List Value
abbrev Zai:=List ByteArray
abbrev Zaj:=List UInt8
abbrev Zak:=Nat->Nat
abbrev Zal:=Nat->Nat->Value
abbrev Zam:=Nat->Prop
abbrev Zan:=Exit->Act->World->Prop
abbrev Zao:=Nat->Option Addr
abbrev Zx(w w':World):Prop:=Below w.heap.size w w'
abbrev ZC(v:Value)(w:World)(e:Ending)(w':World):Prop:=e=.returned v/\Below w.heap.size w w'
abbrev ZG(v:Value)(w:World)(e:Ending)(w':World):Prop:=e=.returned v/\w'=w
abbrev Zw:=Calls Tryz.prog
theorem ZE{P:Program}{n:FuncId}{xs:Array Value}{w w0:World}{r:Ending}{Q:Ending->World->Prop}(h:Calls P n xs w fun e w'=>e=r/\w'=w0)(k:Q r w0):Calls P n xs w Q:=h.mono (by rintro e w' ⟨rfl,rfl⟩; exact k)
theorem ZB{α:Type _}(l:List α)(i:Nat)(h:i<l.length):∃x,l[i]? =some x:=⟨_,List.getElem?_eq_getElem h⟩
abbrev ZA(b o:Nat):Addr:=⟨b,o,none⟩
abbrev ZP(b o:Nat):Value:=.pointer (some ⟨b,o,none⟩)
abbrev ZL(b n c:Nat):Value:=.slice (some ⟨b,0,none⟩) n c
abbrev ZN:Value:=.slice none 0 0
abbrev ZI(z:Int):Value:=.int .i64 z
abbrev ZU(z:Int):Value:=.int .u8 z
abbrev OAz:=Option Addr
abbrev BAz:=ByteArray
abbrev LIz:=List Int
abbrev AVz:=Array Value
abbrev NIz:=Nat->Int
theorem hZn(w:World)(o:Obj):(w.alloc o).heap[w.heap.size]? =some o:=heap_alloc_new w o
variable {n:Nat}
theorem lRn  : n<=n:=Nat.le_refl n
variable {P:Prop}
theorem ae(h:P:=by omega):P:=h
theorem ak(h:P:=by kernel_rfl):P:=h
theorem au(h:P:=by decide):P:=h
theorem av(h:P:=by simp):P:=h
theorem aA(h:P:=by simp; omega):P:=h
theorem aJ(h:P:=by exact hSw):P:=h
theorem aP(h:P:=by unfold maxLen; omega):P:=h
theorem bu(h:P:=by go_num):P:=h
theorem bD(h:P:=by simp[intOf]; omega):P:=h
theorem bN(h:P:=by have:=hw.len; omega):P:=h
theorem bI(h:P:=by simp <;> omega):P:=h
theorem bS(h:P:=by cases h):P:=h
theorem cP(h:P:=by have:=h.low; omega):P:=h
theorem cX(h:P:=by simp[wdx,List.getD,hx]):P:=h
theorem dh(h:P:=by simp[Addr.add]):P:=h
theorem dB(h:P:=by simp[go_sem]):P:=h
theorem dS(h:P:=by rw[HV.out]; rfl):P:=h
theorem dV(h:P:=by unfold wrap64; omega):P:=h
theorem eO(h:P:=by cases e):P:=h
theorem eQ(h:P:=by (try dsimp only[wkM]); omega):P:=h
theorem fy(h:P:=by simp[wdx,List.getD,hy]):P:=h
theorem fE(h:P:=by rw[<- hW0]; simp[go_sem]):P:=h
theorem fG(h:P:=by cases hx):P:=h
theorem fL(h:P:=by have:=B1.out.size; omega):P:=h
theorem gA(h:P:=by have:=HAC.out; omega):P:=h
theorem gw(h:P:=by rw[ZV]; omega):P:=h
theorem gu(h:P:=by simp[hke]):P:=h
theorem gN(h:P:=by unfold pl; rfl):P:=h
theorem ig(h:P:=by rw[hw.len]; exact h2):P:=h
theorem ip(h:P:=by simp at h):P:=h
theorem iu(h:P:=by simpa using W2.out):P:=h
theorem iM(h:P:=by intro W hW; rw[hW]; clear hW; go_simp; try with_reducible rfl):P:=h
theorem iI(h:P:=by unfold Addr.add; split <;> simp_all):P:=h
theorem iJ(h:P:=by simpa using h0):P:=h
theorem jg(h:P:=by exact ZQ hA):P:=h
theorem jk(h:P:=by rw[hc]; decide):P:=h
theorem jf(h:P:=by first | omega | (simp; omega)):P:=h
theorem kY(h:P:=by have:=sC.out; omega):P:=h
theorem lh(h:P:=by simpa[Value.ownBlock] using hb):P:=h
theorem kO(h:P:=by decide +kernel):P:=h
theorem lf(h:P:=by simp only[ZV]; omega):P:=h
theorem kZ(h:P:=by go_simp):P:=h
theorem kI(h:P:=by rw[pv.out,<- hik]; simp):P:=h
theorem lQ(h:P:=by simp[L]):P:=h
theorem lY(h:P:=by simpa using h):P:=h
theorem lV(h:P:=by rw[h1]; rfl):P:=h
theorem lJ(h:P:=by simp[aC]):P:=h
theorem lX(h:P:=by have:=d1.at_ 0 x hx; simpa using this):P:=h
theorem mJ(h:P:=by simpa using h1):P:=h
theorem mF(h:P:=by assumption):P:=h
theorem mB(h:P:=by simp[hx]):P:=h
theorem nu(h:P:=by have:=h.1; omega):P:=h
theorem m8(h:P:=by have:=hrow.1; omega):P:=h
theorem mt(h:P:=by exact(S2.out.alloc _).ownOne):P:=h
theorem mY(h:P:=by rw[KE.out]):P:=h
theorem mG(h:P:=by exact(IF.out.alloc _).ownMore):P:=h
theorem mP(h:P:=by rw[h1,<- e]; rfl):P:=h
theorem o9(h:P:=by have:=ZD.out b off c h; simp; omega):P:=h
theorem oq(h:P:=by exact hBl):P:=h
theorem oG(h:P:=by exact hCl):P:=h
theorem oK(h:P:=by simpa using hx):P:=h
theorem ol(h:P:=by have:=aF hi; simp at this; omega):P:=h
theorem oU(h:P:=by rw[hx]; rfl):P:=h
theorem o8(h:P:=by simpa using BY.out):P:=h
theorem ot(h:P:=by rw[List.length_take]; omega):P:=h
theorem qC(h:P:=by rw[<- HIK.out]at *; unfold pl; rw[pv.out]; dsimp only; rw[J6 init ft wi (ca,cn,cc)]; rfl):P:=h
theorem ql(h:P:=by rw[hh,hg,hw]; rfl):P:=h
theorem qu(h:P:=by have:=HB.out.size; simp; omega):P:=h
theorem qq(h:P:=by unfold psz pl; (try simp only[List.length_map]); omega):P:=h
theorem qT(h:P:=by exact ZQ hO):P:=h
theorem qU(h:P:=by simpa using hY):P:=h
theorem qV(h:P:=by have:=hw.few; omega):P:=h
theorem qo(h:P:=by simp[wdx,List.getD,hz]):P:=h
theorem qj(h:P:=by cases e; omega):P:=h
theorem qO(h:P:=by unfold psz; simp; omega):P:=h
theorem qZ(h:P:=by simpa using tg.out):P:=h
theorem q9(h:P:=by have h1:=aF hj; rw[List.getElem?_take]at hj; split at hj; exact hj; cases hj):P:=h
theorem qx(h:P:=by rw[lH,uS,h45]; rfl):P:=h
theorem uH(h:P:=by have:=hb1.size; simp at this; omega):P:=h
theorem vg(h:P:=by rw[ZV,ZV]; omega):P:=h
theorem tL(h:P:=by rw[<- hw.len]; exact x.2):P:=h
theorem uA(h:P:=by rw[List.length_tail,hw.len]):P:=h
theorem uE(h:P:=by rw[hf]; simp):P:=h
theorem tG(h:P:=by rw[pv.out]; simp):P:=h
theorem uf(h:P:=by dsimp only; omega):P:=h
theorem vd(h:P:=by have:=HJ.out; omega):P:=h
theorem Aa(h:P:=by rw[hx]at hk; simpa using hk):P:=h
theorem yM(h:P:=by obtain rfl:=i9 hk; exact HGE.out):P:=h
theorem xH(h:P:=by simp[ibk,Value.ownBlock]):P:=h
theorem yD(h:P:=by rw[hit,e1,e2]):P:=h
theorem wy(h:P:=by rw[ByteArray.size_extract]; omega):P:=h
theorem wZ(h:P:=by exact Z5 _):P:=h
theorem zC(h:P:=by rw[HH.out.1,HH.out.2.1,HH.out.2.2,e1,e2]):P:=h
theorem zG(h:P:=by have:=HPL.out; have:=HXL.out; omega):P:=h
theorem xw(h:P:=by rw[World.size_setCell]; exact hk.size):P:=h
theorem yA(h:P:=by simp[results,results314,go_sem]):P:=h
theorem Ad(h:P:=by unfold wrap32; omega):P:=h
theorem xD(h:P:=by simpa[Z2] using hw'):P:=h
theorem zo(h:P:=by simpa using hj):P:=h
theorem xJ(h:P:=by simpa using hk):P:=h
theorem s8(h:P:=by rw[Lib.cell_of_heap hbk]; rfl):P:=h
theorem sw(h:P:=by rw[Lib.cell_of_heap hb2]; rfl):P:=h
theorem sW(h:P:=by first | rfl | exact d):P:=h
theorem sf(h:P:=by simp at hq hr; omega):P:=h
theorem s9(h:P:=by simpa using z0):P:=h
theorem sZ(h:P:=by have:=vF hp; rw[this]at c2; omega):P:=h
theorem su(h:P:=by have:=h.lt; omega):P:=h
theorem sV(h:P:=by have:=(D1.out.later B1.out).at_ 1 x HX.out; simpa using this):P:=h
theorem sH(h:P:=by simpa using h4):P:=h
theorem sJ(h:P:=by have:=HHN.out; omega):P:=h
theorem sQ(h:P:=by simpa using h5):P:=h
theorem rY(h:P:=by rw[<- hwr]; simp[go_sem]):P:=h
theorem sA(h:P:=by simp[wkM]at hj):P:=h
theorem sX(h:P:=by simp[intOf]; try omega):P:=h
theorem sU(h:P:=by rw[jU,if_pos hk,uS,h46]; rfl):P:=h
theorem sk(h:P:=by have e:j=w.heap.size:=e; omega):P:=h
theorem sY(h:P:=by simp[Value.ownBlock]at hB):P:=h
theorem zB(h:P:=by rw[hf,Zaa hil]; exact hi):P:=h
theorem xu(h:P:=by rw[List.getElem?_take_of_lt hik]; exact hi):P:=h
theorem ye(h:P:=by have:=hne b off c h; simp; omega):P:=h
theorem wj(h:P:=by simpa[Value.ownBlock] using hx):P:=h
theorem zJ(h:P:=by exact ZQ f2):P:=h
theorem yH(h:P:=by simp[Value.ownBlock]at hB; simp; omega):P:=h
theorem Ae(h:P:=by have:=HLL.out; have:=HHN.out; omega):P:=h
theorem xZ(h:P:=by have e:k=w3.heap.size+1:=hk; have:=B3.out.size; omega):P:=h
theorem zj(h:P:=by show 2+wd.size<=_; omega):P:=h
theorem xS(h:P:=by rw[World.cell?_alloc_new]; rfl):P:=h
theorem yO(h:P:=by rw[hbk]; simp; omega):P:=h
theorem wV(h:P:=by rw[beq_eq_false_iff_ne]; omega):P:=h
theorem yi(h:P:=by have:=h.2; rw[Z1]at this; omega):P:=h
theorem zt(h:P:=by simp only[beq_eq_false_iff_ne]; omega):P:=h
theorem zK(h:P:=by rw[HVE.out]at h; cases h):P:=h
theorem yT(h:P:=by rw[LA.out,LN.out,LC.out]; exact R1.out.keep (heap_setCell_other _ _ _ _ D3.out)):P:=h
theorem IH(h:P:=by have e:j=X:=e; have:=Is.out; have:=HX2.out; omega):P:=h
theorem Hs(h:P:=by rw[<- LA.out]; unfold Tl.ad; rw[hG]; rfl):P:=h
theorem EL(h:P:=by rw[HEy.out]; unfold pl; simp[plF,List.map_append]):P:=h
theorem GR(h:P:=by unfold psz pl; dsimp only; rw[gC]; simp[plF]; omega):P:=h
theorem Gj(h:P:=by simp only[ByteArray.size_mk',Array.size]; simp; omega):P:=h
theorem EK(h:P:=by rw[ByteArray.size_append]; simp only[ByteArray.size_mk',Array.size]; simp; omega):P:=h
theorem Gy(h:P:=by simp[Lib.byteCells_length,AG]; omega):P:=h
theorem H8(h:P:=by have:=VL.out.g_lt; have:=V6.out.g_lt; omega):P:=h
theorem FA(h:P:=by have:=hb1.size; have:=hb2.size; simp at *; omega):P:=h
theorem Fj(h:P:=by rw[Cm]at hx; have:=d1.at_ (j+1) x hx; rwa [Nat.zero_add,Nat.add_comm]at this):P:=h
theorem H0(h:P:=by unfold gp; rw[if_neg (fun x=>h3 x.2)]):P:=h
theorem EZ(h:P:=by rw[oD fJ 1 (fun _=>rfl),hpl]; omega):P:=h
theorem Iu(h:P:=by rw[Cm]at hx; have:=(d1.later hW).at_ (j+1) x hx; rwa [Nat.zero_add,Nat.add_comm]at this):P:=h
theorem I3(h:P:=by unfold vh mm0; exact List.pairwise_singleton _ _):P:=h
theorem Ih(h:P:=by have:=hst.ne e; unfold pl at this; simpa using this):P:=h
theorem I5(h:P:=by rw[<- hz1]; exact ag (hZn _ _)):P:=h
theorem Hu(h:P:=by unfold e4 jK at h4; split at h4; cases h4; omega):P:=h
theorem F7(h:P:=by unfold oZ; rw[if_neg h0,if_neg h1,if_neg h2,if_neg h3,if_neg h4,if_neg h5,if_neg h6,if_neg h7]):P:=h
theorem aY(h:P:=by rw[hb1.cell av]; simp[go_sem]):P:=h
theorem xP(h:P:=by have:=hj; unfold bQ ByteArray.size at this; simp at this; simpa using ae):P:=h
theorem I8(h:P:=by rw[List.take_add_one,HZZ.out,Option.toList_some,List.flatMap_append,List.flatMap_singleton]; exact kQ HO6.out (aB w6 X 2 _) HX6.out au):P:=h
theorem Er(h:P:=by rw[gg p 256 8 ae s1]; exact l1):P:=h
theorem Ev(h:P:=by rw[Z3,List.getElem?_eq_getElem ae]; simp):P:=h
theorem GV(h:P:=by rw[HK.out,List.drop_eq_nil_of_le ae]; trivial):P:=h
theorem GC(h:P:=by rw[gg lo 256 64 ae ae]; exact hlt):P:=h
theorem FV(h:P:=by have q:=F6.out b off c hb'; exact⟨ae,q.2.1,ae⟩):P:=h
theorem Fy(h:P:=by have q:=HM.out.ff.at TL.out.s b off c hb'; have q2:=HM.out.ff b off c hb'; have:=TL.out.s.size; exact⟨q.1,q.2,ae⟩):P:=h
theorem I9(h:P:=by unfold gq; rw[if_pos ⟨h1,ig⟩,h3]; rfl):P:=h
variable {i:Nat}
theorem aD{α:Type _}{l:List α}(h:i<l.length):l[i]? =some l[i]:=List.getElem?_eq_getElem h
theorem Ux(h:P:=by
  obtain⟨j,ys,aa,ac,g3,Ly,hj,rfl,rfl,ON,hys,hrow,hab,hwr,hst⟩:=hrel;obtain⟨HY,Ys,j9,ix,HST⟩:=ZM hys hrow hab hwr hst;clear hys hrow hab hwr hst W2 S2;have hlt:j<n:=ae;obtain⟨x,hx⟩:=ZB xs j ae;obtain⟨b,off,rfl,hcell⟩:=(HM.out.kept HST.out.k (fun b off c h=>o9)).2.resolve_left ae;have lP:=hcell j x hx;have hbl:=ZQ lP.1;clear hcell;obtain⟨v0,v1,v2⟩:=lP;have BN:=hid (aj wr (cL x))
  by_cases hjk:j<k
  ·exact FO
  obtain rfl:j=k:=ae;obtain rfl:x=xk:=Aa;have rm:=hid (HN.out ys (wr.alloc (cL x)) g3 Ly aa ac ON HY.out (HST.out.trans (Stp.of_below BN.out)) (ix.out.later BN.out) (aV Ys.out (fun B hB=>BN.out.block B (aL Ys.out hB))) j9.out)
  go_wp2_with fail;refine rm.out.mono ?_;rintro e w5⟨⟨p,rfl⟩,bm⟩;exact⟨rfl,⟨p,rfl⟩,(HST.out.trans (Stp.of_below BN.out)).throw bm⟩
 ):P:=h
theorem Ox(h:P:=by
  obtain⟨j,ys,aa,ac,g3,Ly,hj,rfl,rfl,ON,hys,hrow,hab,hwr,hst⟩:=hrel;obtain⟨HY,Ys,j9,ix,HST⟩:=ZM hys hrow hab hwr hst;clear hys hrow hab hwr hst W2 S2;have hlt:j<n:=ae;obtain⟨x,hx⟩:=ZB xs j ae;obtain⟨b,off,rfl,hcell⟩:=(HM.out.kept HST.out.k (fun b off c h=>o9)).2.resolve_left ae;have lP:=hcell j x hx;have hbl:=ZQ lP.1;clear hcell;obtain⟨v0,v1⟩:=lP;have BN:=hid (aj wr (cL x))
  by_cases hjk:j<k
  ·exact FO
  obtain rfl:j=k:=ae;obtain rfl:x=xk:=Aa;have rm:=hid (HN.out ys (wr.alloc (cL x)) g3 Ly aa ac ON HY.out (HST.out.trans (Stp.of_below BN.out)) (ix.out.later BN.out) (aV Ys.out (fun B hB=>BN.out.block B (aL Ys.out hB))) j9.out)
  go_wp2_with fail;refine rm.out.mono ?_;rintro e w5⟨⟨p,rfl⟩,bm⟩;exact⟨rfl,⟨p,rfl⟩,(HST.out.trans (Stp.of_below BN.out)).throw bm⟩
 ):P:=h
theorem Uu(h:P:=by
  obtain⟨j,ys,aa,ac,g3,Ly,hj,rfl,rfl,ON,hys,hrow,hab,hwr,hst⟩:=hrel;obtain⟨HY,Ys,j9,ix,HST⟩:=ZM hys hrow hab hwr hst;clear hys hrow hab hwr hst W2 S2
  by_cases hlt:j<n
  ·obtain⟨x,hx⟩:=ZB xs j ae
   obtain⟨b,off,rfl,hcell⟩:=(HM.out.kept HST.out.k (fun b off c h=>o9)).2.resolve_left ae;have lP:=hcell j x hx;have hbl:=ZQ lP.1;clear hcell;obtain⟨v0,v1,v2⟩:=lP;exact I0
  obtain rfl:j=n:=ae;have hxs:xs.take j=xs:=ZY ae;go_wp2_with fail;go_ret;refine⟨aa,ac,ys,rfl,ON,HY.out,Ys.out,g3,Ly,j9.out,?_,HST.out⟩;rw[<- hxs];exact ix.out
 ):P:=h
theorem LG(h:P:=by
  obtain⟨j,ys,aa,ac,g3,Ly,hj,rfl,rfl,ON,hys,hrow,hab,hwr,hst⟩:=hrel;obtain⟨HY,Ys,j9,ix,HST⟩:=ZM hys hrow hab hwr hst;clear hys hrow hab hwr hst W2 S2
  by_cases hlt:j<n
  ·obtain⟨x,hx⟩:=ZB xs j ae
   obtain⟨b,off,rfl,hcell⟩:=(HM.out.kept HST.out.k (fun b off c h=>o9)).2.resolve_left ae;have lP:=hcell j x hx;have hbl:=ZQ lP.1;clear hcell;obtain⟨v0,v1⟩:=lP;exact I0
  obtain rfl:j=n:=ae;have hxs:xs.take j=xs:=ZY ae;go_wp2_with fail;go_ret;refine⟨aa,ac,ys,rfl,ON,HY.out,Ys.out,g3,Ly,j9.out,?_,HST.out⟩;rw[<- hxs];exact ix.out
 ):P:=h
theorem UF(h:P:=by
  have ht:=pX iy (fun _=>rfl) au h.rt;have hh:=pX fJ (fun _=>rfl) au h.rh;have hgl:=pX fQ (fun _=>rfl) au h.rg;have hf:=pX dA (fun _=>rfl) au h.rf;have hd:=pX iD (fun _=>rfl) au h.rd;have he:=pX jV (fun _=>rfl) au h.re;refine⟨⟨ht.1,ht.2.imp id ?_⟩,mf h.rt hR hg,⟨hh.1,hh.2.imp id ?_⟩,mf h.rh hR hg,?_,⟨hgl.1,hgl.2.imp id ?_⟩,mf h.rg hR hg,?_,hp.i.1,by have:=hp.i.2; show m.fi<_; unfold pl at this; dsimp only at this; omega,hp.o.1,by have:=hp.o.2; unfold pl at this; dsimp only at this; omega,⟨hf.1,hf.2.imp id ?_⟩,mf h.rf hR hg,?_,⟨hd.1,hd.2.imp id ?_⟩,mf h.rd hR hg,?_,⟨he.1,he.2.imp id ?_⟩,mf h.re hR hg,?_⟩
  ·exact yX
  ·rintro⟨b,off,ha,hc⟩
   exact⟨b,off,ha,fun j x hj=>by have:=hc j x hj 0 _ rfl; simpa using this⟩
  ·intro j x hj
   have:=hp.hr x (ZO hj);unfold I64 at this;omega
  ·exact y9
  ·intro j x hj;exact hp.gr x (ZO hj)
  ·exact y9
  ·intro j x hj;have hm:=ZO hj;have hx:=hp.fr (plF x) (List.mem_map.2 ⟨x,hm,rfl⟩);have hfo:=h.fo x hm
   have hco:=pX eD (fun _=>rfl) au hfo.code;have hx1:I64 x.1:=hx.1;unfold I64 at hx1;refine⟨ae,⟨hco.1,hco.2.imp id ?_⟩,(mf hfo.code hR hg).nz _,fun i y hi=>?_⟩
   ·exact y9
   have hym:=ZO hi;have hy:=hx.2 (plI y) (List.mem_map.2 ⟨y,hym,rfl⟩);have hlo:=pX fJ (fun _=>rfl) au (hfo.lab y hym);refine⟨hy.1,hy.2.1,⟨hlo.1,MW (hfo.lab y hym),?_,fun z hz=>hy.2.2.2.2 z hz,hlo.2.imp id ?_⟩,(mf (hfo.lab y hym) hR hg).nz _⟩
   ·have h1:y.2.2.2.length<=2097152:=hy.2.2.2.1;have h2:=hlo.1;omega
   rintro⟨b,off,ha,hc⟩;refine⟨b,off,ha,fun j hj=>?_⟩;have hl:=hlo.1;have:=hc j (y.2.2.2[j]'(ae)) (aD _) 0 _ rfl;exact IG
  ·exact yX
  ·intro j x hj;have hm:=ZO hj;have hx:=hp.dr (plD x) (List.mem_map.2 ⟨x,hm,rfl⟩);have hfo:=h.dd x hm
   have hco:=pX oV (fun _=>rfl) au hfo;have hx1:I64 x.1:=hx.1;unfold I64 at hx1;refine⟨ae,⟨hco.1,MW hfo,?_,hx.2.2,hco.2.imp id ?_⟩,(mf hfo hR hg).nz _⟩
   ·have h1:x.2.2.length<=2097152:=hx.2.1;have h2:=hco.1;omega
   rintro⟨b,off,ha,hc⟩;refine⟨b,off,ha,fun j hj=>?_⟩;have hl:=hco.1;have:=hc j (x.2.2[j]'(ae)) (aD _) 0 _ rfl;exact IG
  ·exact yX
  intro j x hj;have:=hp.er x (ZO hj);unfold I64 at this;omega
 ):P:=h
theorem UR(h:P:=by
  go_wp2_with fail;generalize wr.alloc (aN x.1 x.2.1 x.2.2.1.1 x.2.2.1.2.1 x.2.2.1.2.2)=W at *;have qaj:=BN.out.size;refine rm.out.mono ?_;rintro e w5⟨y,rfl,hok,g4,ri,Lo,hs5,hl5⟩;have hgr:g3<wr.heap.size:=ix.out.g_lt;have hRr:R<wr.heap.size:=ix.out.lt
  have eR:w5.ownsRow 0 78 3 (.slice aa j ac) j (ys.flatMap oL):=aV Ys.out (fun B hB=>by
   have h1:=aL Ys.out hB;have h2:∃a,aa=some a/\a.block=B:=pE hB;obtain⟨a,ha1,ha2⟩:=h2;have h3:=j9.out a ha1;have h4:=HST.out.size;exact(hs5.block (b:=B) ae ae ae ae).trans (BN.out.block B h1))
  have gg4:=Lo.g_lt
  have oy:∀b,aa=some b->b.block≠g4/\b.block<w5.heap.size:=fun a ha1=>by
   exact Hz
  have W5:=hid Lo;have S5:=hid (HST.out.trans ((gj.of_below BN.out).trans hs5));have L5:=hid hl5;have hL4:L≠g4:=hs5.ne (by have:=HST.out.size; omega) hlg;have O5:=hid hok;have BN5:=hid (aj w5 (aN y.1 y.2.1 y.2.2.1 y.2.2.2.1 y.2.2.2.2));have R6:=hid (aV (w':=w5.alloc (aN y.1 y.2.1 y.2.2.1 y.2.2.2.1 y.2.2.2.2)) eR (fun B hB=>BN5.out.block B (aL eR hB)));have HAB5:=hid oy;have NC:=hid (rG w5 y);have hz6:(w5.alloc (aN y.1 y.2.1 y.2.2.1 y.2.2.2.1 y.2.2.2.2)).heap.size=w5.heap.size+1:=av;clear Lo hs5 eR oy rm hok hl5
  go_wp2_with (at_builtin; (refine mW _ rfl (.tmp 28) (.tmp 33) 25 rfl 78 i0 _ 3 48 underlying25 hi hz0 hz1 hz2 rfl au _ j _ rfl R6.out (ZA w5.heap.size 0) 1 1 (oL y) rfl rfl NC.out (rD y) ae aP ae ?_; intro B qS w7 dj nn; have R7:=hid dj; have OR7:=hid nn; clear dj nn))
  generalize w5.alloc (aN y.1 y.2.1 y.2.2.1 y.2.2.2.1 y.2.2.2.2)=W6 at *
  have j':w.heap.size<=B/\B≠g4/\Kept (fun k=>k=B) W6 w7:=by
   exact Jt
  have hRw:=S5.out.size
  go_roundw
  ·refine⟨j+1,ys++[y],some (ZA B 0),qS,g4,ri,ae,rfl,rfl,by simp[ON],?_,?_,?_,?_,?_,?_,hL4⟩
   ·exact Fq
   ·have:=R7.out
    simpa[il] using this
   ·exact wO
   ·exact GK
   ·exact Iq
   exact(L5.out.later BN5.out).kept j'.2.2 (by have:=j'.1; omega)
  simp[intOf]; omega
 ):P:=h
theorem Uv(h:P:=by
  go_simp;refine Zv hK ?_ hS;clear hK K;refine ZR 2 fun K hK=>?_;go_simp;obtain⟨p1,p2⟩:=Tg (ZN) (ZN) (ZN) (ZI 0) (ZI 0) (ZN) (ZN) (ZN) tA';have b5:=(p2.block (w.heap.size+1) (aK tB') ae).trans tB';have c5:=(p2.block (w.heap.size+2) (aK tC') ae).trans tC';have d5:=(p2.block D (aK tK') ae).trans tK';have f5:=hb'.trans (p2.to_below (B:=w.heap.size) (by have:=hb'.size; omega) (fun k hk=>ae));refine hK.out _ _ (ag (i:=0) b5) (fun hS2=>?_);clear hK K m0 m1 m2 m3 m4 m5 m6 m7 g0 g1 g2 g3 g4 g5 g6 g7 tA' tB' tC' tK' hb' p2 hS;generalize ((((((((Wd.setCell (ZA w.heap.size 0) (ZN)).setCell (ZA w.heap.size 1) (ZN)).setCell (ZA w.heap.size 2) (ZN)).setCell (ZA w.heap.size 3) (ZI 0)).setCell (ZA w.heap.size 4) (ZI 0)).setCell (ZA w.heap.size 5) (ZN)).setCell (ZA w.heap.size 6) (ZN)).setCell (ZA w.heap.size 7) (ZN))=W5 at *;refine ZR 3 fun K hK=>?_;have cb5:=ag (i:=0) b5;have fb5:=free_at (i:=0) b5;go_simp;have k6:=aB W5 (w.heap.size+1) 0 (ZI E);have b6:(W5.setCell (ZA (w.heap.size+1) 0) (ZI E)).heap[w.heap.size+1]? =some (dQ E):=aT b5;have a6:=(k6.block w.heap.size (aK p1) ae).trans p1;have c6:=(k6.block (w.heap.size+2) (aK c5) ae).trans c5;have d6:=(k6.block D (aK d5) ae).trans d5;have f6:=f5.trans (k6.to_below (B:=w.heap.size) (by have:=f5.size; omega) (fun k hk=>ae));refine hK.out _ _ (ag (i:=0) b6) (fun hS3=>?_);clear hK K k6 p1 b5 c5 d5 f5 cb5 fb5 hS2;generalize W5.setCell (ZA (w.heap.size+1) 0) (ZI E)=W6 at *;refine ZR 4 fun K hK=>?_;have cc6:=ag (i:=0) c6;have fc6:=free_at (i:=0) c6;go_simp;have k7:=aB W6 (w.heap.size+2) 0 (ZI 0);have c7:(W6.setCell (ZA (w.heap.size+2) 0) (ZI 0)).heap[w.heap.size+2]? =some (bR 0):=aT c6;have a7:=(k7.block w.heap.size (aK a6) ae).trans a6;have b7:=(k7.block (w.heap.size+1) (aK b6) ae).trans b6;have d7:=(k7.block D (aK d6) ae).trans d6;have f7:=f6.trans (k7.to_below (B:=w.heap.size) (by have:=f6.size; omega) (fun k hk=>ae));refine hK.out _ _ (ag (i:=0) b7) (fun hS4=>?_);clear hK K k7 a6 b6 c6 d6 f6 cc6 fc6 hS3;generalize W6.setCell (ZA (w.heap.size+2) 0) (ZI 0)=W7 at *;refine Z4 ak ?_ _
  gi_wp2_with fail
  refine MC rfl rfl rfl a7 b7 c7 d7 ae fun w' hk'=>?_;rw[<- HR0.out];refine⟨f7.trans (hk'.to_below (by have:=f7.size; omega) (fun k hk=>ae)),(fun h=>ae),fun _ l o hlo2=>?_⟩;rw[hV,eV]at hlo2
  cases hlo2
  refine⟨(fun h=>bS),fun p M h=>?_⟩
  cases h
  refine⟨(fun h=>ae),fun _=>⟨m,rfl,HLE.out,tw,fun _=>by rw[hEq]; rfl,fun h=>absurd (hEq.symm.trans h) hx⟩⟩
 ):P:=h
theorem UT(h:P:=by
  clear HL HI u2 hbk2 HX2 P2 c2
  go_loopw [21] (fun i W=>∃k:Nat,k<=cn/\i=ZI k/\Lib.BuilderAt 96 5 w0.heap.size b (ZP b 0) (Lib.byteCells (s++(L0++(xs.take k).flatMap vt))) W/\Zx w0 W/\dR b w W) (fun i _=>cn-(intOf i).toNat)
  case atStart=>exact⟨0,Z5 _,rfl,by simpa using H3.out,B3.out,D3.out⟩
  case round =>
   obtain⟨k,hk,rfl,hI,hb,hd⟩:=hrel;obtain⟨HI,HB,HD⟩:=ZH hI hb hd;clear hI hb hd H3 B3 D3
   by_cases hlt:k<cn
   ·obtain⟨y,hy⟩:=ZB xs k ae
    obtain⟨bb,off,rfl,hx⟩:∃bb off,ca=some (ZA bb off)/\(w0.cell? (ZA bb (off+k*3))=some (ZU y.1)/\w0.cell? (ZA bb (off+k*3+1))=some (ZI y.2.1)/\w0.cell? (ZA bb (off+k*3+2))=some (.slice y.2.2.1.1 y.2.2.1.2.1 y.2.2.1.2.2)):=by
     rcases HX.out with h | ⟨bb,off,h,h'⟩
     ·omega
     exact⟨bb,off,h,h' k y hy⟩
    have k0:=(HB.out.cell (ZQ hx.1)).trans hx.1;have k1:=(HB.out.cell (ZQ hx.2.1)).trans hx.2.1;have k2:=(HB.out.cell (ZQ hx.2.2)).trans hx.2.2;have HY:=hid (HXS.out k y hy);have HT:=hid (gZ hy);have j8:=iG vt xs k y hy;clear hx hy;have HIN:vt y=bL (iA (ofV y.1).1.2.2.1 (ofV y.1).1.2.1 y.2.1 y.2.2.2):=rfl
    have HG:=hid (fun(W':World) (hW:Zx wr W')=>Nv w0.heap.size b (s++(L0++(xs.take k).flatMap vt)) y.1 y.2.1 y.2.2.1.1 y.2.2.1.2.1 y.2.2.1.2.2 y.2.2.2 W' (dH (.inr HI.out) hW) (ZW HB.out.size hW.size) (HTN.out.later (HB.out.trans (hW.mono HB.out.size))) (HK.out.later (HB.out.trans (hW.mono HB.out.size)) HK.out.pos) HY.out.1.1 HY.out.1.2 HY.out.2.1 (HY.out.2.2.later (HB.out.trans (hW.mono HB.out.size)) lRn) (by
     have h1:=HY.out.2.2.1;have h2:=HY.out.2.2.2.2.1;rw[<- HIN];simp only[ZV]at hfl hlen ⊢
     omega))
    obtain⟨yc,ya,⟨la,ln,lc⟩,ll⟩:=y;go_wp2_with fail;refine(HG.out _ (aj wr _)).mono ?_;rintro e w5⟨rfl,h5,AI,U'⟩;have H5:=hid h5;have B5:=hid ((HB.out.trans ((aj wr _).mono HB.out.size)).trans AI);have D5:=hid (HD.out.trans ((dR.of_below (aj wr _)).trans U'));clear h5 AI U' HG;go_wp2_with fail
    go_roundw
    case rel =>
     refine⟨k+1,ae,av,?_,B5.out,D5.out⟩;have h:=H5.out;rw[HT.out,List.flatMap_append,List.flatMap_singleton,HIN]
     simpa only[Z2] using h
    case measure=>show cn-((k:Int)+1).toNat<cn-(k:Int).toNat; omega
   obtain rfl:k=cn:=ae;have htk:xs.take k=xs:=ZY ae;rw[htk,<- hL0]at HI;go_wp2_with fail;go_end0;exact⟨rfl,HI.out,HB.out,HD.out⟩
 ):P:=h
theorem Uy(h:P:=by
  have qaj:=BN.out.size;refine rm.out.mono ?_;rintro e w5⟨y,rfl,hok,g4,ri,Lo,hs5⟩;have hgr:g3<wr.heap.size:=ix.out.g_lt;have hRr:R<wr.heap.size:=ix.out.lt
  have eR:=aV (w':=w5) Ys.out (fun B hB=>by
   have h1:=aL Ys.out hB;have h2:∃a,aa=some a/\a.block=B:=pE hB;obtain⟨a,ha1,ha2⟩:=h2;have h3:=j9.out a ha1;have h4:=HST.out.size;exact(hs5.block (b:=B) ae ae ae).trans (BN.out.block B h1))
  have gg4:=Lo.g_lt
  have oy:∀b,aa=some b->b.block≠g4/\b.block<w5.heap.size:=fun a ha1=>by
   exact Hz
  have W5:=hid Lo;have S5:=hid (HST.out.trans ((Stp.of_below BN.out).trans hs5));have O5:=hid hok;have BN5:=hid (aj w5 (cM y));have R6:=hid (aV (w':=w5.alloc (cM y)) eR (fun B hB=>BN5.out.block B (aL eR hB)));have HAB5:=hid oy;have NC:=hid (nC w5 y);have hz6:(w5.alloc (cM y)).heap.size=w5.heap.size+1:=av;clear Lo hs5 eR oy rm hok
  go_wp2_with (at_builtin; (refine mW _ rfl (.tmp 28) (.tmp 33) _ rfl _ i0 _ _ _ uN hi hz0 hz1 hz2 rfl au _ j _ rfl R6.out (ZA w5.heap.size 0) 1 1 (oC0 y) rfl rfl NC.out (oC y) ae aP ae ?_; intro B qS w7 dj nn; have R7:=hid dj; have OR7:=hid nn; clear dj nn))
  generalize w5.alloc (cM y)=W6 at *
  have j':w.heap.size<=B/\B≠g4/\Kept (fun k=>k=B) W6 w7:=by
   exact Jt
  have hRw:=S5.out.size
  go_roundw
  ·refine⟨j+1,ys++[y],some (ZA B 0),qS,g4,ri,ae,rfl,rfl,by simp[ON],?_,?_,?_,?_,?_⟩
   ·exact Fq
   ·have:=R7.out
    simpa[il] using this
   ·exact wO
   ·exact GK
   exact Iq
  simp[intOf]; omega
 ):P:=h
theorem Us(h:P:=by
  have HC:=hid hc;clear hc hf way M3;go_wp2_with fail;refine ZX (S:=fun W=>W=wd) ak HW.out (fun _=>?_)
  rw[HW.out];have hwd:wd=wd:=rfl;refine tkD (i:=0) (d:=some 27) rfl ?_ iM;(try simp only[Act.put,sIB,sC0,sCs]);refine tkD (i:=1) (d:=some 28) rfl ?_ iM;(try simp only[Act.put,sIB,sC0,sCs]);refine tkD (i:=2) (d:=some 29) rfl ?_ iM;(try simp only[Act.put,sIB,sC0,sCs]);refine tkD (i:=3) (d:=some 30) rfl ?_ iM;(try simp only[Act.put,sIB,sC0,sCs]);refine tkD (i:=4) (d:=some 31) rfl ?_ iM;(try simp only[Act.put,sIB,sC0,sCs]);refine tkD (i:=5) (d:=some 32) rfl ?_ iM;(try simp only[Act.put,sIB,sC0,sCs]);refine tkD (i:=6) (d:=some 33) rfl ?_ iM;(try simp only[Act.put,sIB,sC0,sCs]);refine tkD (i:=7) (d:=some 34) rfl ?_ iM;(try simp only[Act.put,sIB,sC0,sCs]);refine tkD (i:=8) (d:=some 26) rfl ?_ iM;(try simp only[Act.put,sIB,sC0,sCs]);refine tkD (i:=9) (d:=some 35) rfl ?_ iM;(try simp only[Act.put,sIB,sC0,sCs]);refine tkD (i:=10) (d:=some 36) rfl ?_ iM;(try simp only[Act.put,sIB,sC0,sCs]);refine tkD (i:=11) (d:=some 5) rfl ?_ iM;(try simp only[Act.put,sIB,sC0,sCs]);refine tkD (i:=12) (d:=some 6) rfl ?_ iM;(try simp only[Act.put,sIB,sC0,sCs]);refine Z4 ak ?_ _;go_wp2_with fail;refine HC.out.mono ?_;clear HC;generalize bX pt (pl m) (aG s)=res at *;rintro e w5⟨hk,hm⟩
  cases res with
  | none =>
   have hm:e=thL (ln+1):=hm;subst hm;exact⟨rfl,HK.out.trans hk,rfl⟩
  | some y =>
   obtain⟨rfl,m',hq,hp⟩:=hm;obtain⟨HQ,HP,Hk⟩:=ZH hq hp hk;clear hq hp hk;go_wp2_with fail;go_end0;exact⟨HK.out.trans Hk.out,rfl,m',HQ.out,HP.out⟩
 ):P:=h
theorem NN(h:P:=by
  go_simp;refine Zv hK ?_;clear hK K;refine ZR 6 fun K hK=>?_;go_simp;have BN:=Zy B1 (aj wd (bR z));refine Zv hK ?_;clear hK K;refine ZR 7 fun K hK=>?_;refine wp_append_lies _ (.tmp 63) (.tmp 68) 23 rfl w.heap.size 3 i0 (ZI 0) 1 8 underlying23 hi hz0 hz1 hz2 rfl au (.slice la k lc) k ((ns.take k).flatMap fJ) rfl (bJ HL3.out BN.out) (ZA wd.heap.size 0) 1 1 [ZI z] rfl rfl ?n1 ?n2 au aP ae (ZW cq.out.size BN.out.size) _ rfl ?_
  case n1 =>
   exact Gx
  case n2=>intro u hu; simp at hu; subst hu; rfl
  intro g cap w6 Ft BE _ _;have HO6:=hid Ft;have HX6:=hid (tU (ar BN.out HX3.out) (bJ HL3.out BN.out) BE);have BB6:=hid ((cq.out.trans (BN.out.mono cq.out.size)).trans (jN (bJ HL3.out BN.out) BE (ZW cq.out.size BN.out.size)));have HN6:=hid (aU (bJ HN3.out BN.out) (bJ HL3.out BN.out) BE au);clear Ft BE;refine hK.out _ _ trivial (fun _=>?_)
  clear hK K;refine Zt 8 ?_;refine ZR 9 fun K hK=>?_;have c16:=iz2 HX6.out;have f16:=free_at (i:=2) HX6.out;go_simp;refine Zv hK ?_;clear hK K;refine Z4 ak ?_ _;go_wp2_with fail
  go_roundw
  case rel=>exact⟨k+1,some (ZA g 0),cap,bu,ae,hid (by rw[aT HX6.out]; rfl),hid I8,hid (kQ HN6.out (aB w6 X 2 _) HX6.out au),hid (BB6.out.trans ((aB w6 X 2 _).to_below BB6.out.size (fun j hj e=>IH)))⟩
  case measure=>simp[intOf]; omega
 ):P:=h
theorem QB(h:P:=by
  have AD:=hid hcut.out;clear hcut hcc hff p0 p1 p2 p3 hb3 hb4 GT HO ZD HC HF EV EN EX HP HBN;go_wp2_with fail
  go_loopw [4] (fun i wr=>∃j:Nat,j<=N/\i=ZI j/\Hid (bB lo base GB K (fun k=>p.b=some k\/∃t,t<j/\T t k) w wr)) (fun i _=>N-(intOf i).toNat)
  case atStart=>exact⟨0,ae,rfl,AD⟩
  case round =>
   obtain⟨j,hj,rfl,HX⟩:=hrel;clear AD
   by_cases hlt:j<N/\j<300
   ·obtain⟨K1,g1,k1,q1,o1⟩:=HX.out
    have hjp:j<p.n:=by rw[LN.out]; exact hlt.1
    obtain⟨G,hG,d0,d1,d2⟩:=HCL.out j hjp;have hlaG:la=some (ZA G 0):=Hs;have e0:=k1.cell d0 (fun hx=>NB.out G hG hx);have e1:=k1.cell d1 (fun hx=>NB.out G hG hx);have e2:=k1.cell d2 (fun hx=>NB.out G hG hx);have CA:=hid (HEL.out j hjp K1 _ g1 k1 q1)
    have TH:=hid (fun(w3:World) (hx:bB lo base GB K1 (T j) wr w3)=>(bB.then k1 q1 o1 hx).mono (T':=fun k=>p.b=some k\/∃t,t<j+1/\T t k) (fun k hk=>by
     rcases hk with (hk | ⟨t,ht,hk⟩) | hk
     ·exact .inl hk
     ·exact .inr ⟨t,ae,hk⟩
     exact .inr ⟨j,ae,hk⟩))
    have hlt':(j:Int)<N:=ae;have qas:(j:Int)<300:=ae
    have hd3:decide ((j:Int)<300)=true:=by simpa using qas
    have hjN:j+1<=N:=hlt.1;clear g1 k1 q1 o1 HX hlt HCL HEL H hG NB LA d0 d1 d2;exact Gw
   have HY:=hid (HX.out.mono (T':=fun k=>p.b=some k\/∃t,t<N/\T t k) (fun k hk=>hk.imp id (fun⟨t,ht,x⟩=>⟨t,ae,x⟩)));clear HX HCL HEL
   by_cases hjN:j<N
   ·exact IQ
   obtain rfl:j=N:=ae;have hlt':¬(j:Int)<j:=ae;clear hlt;go_wp2_with fail;go_end0;exact⟨rfl,HY.out⟩
 ):P:=h
theorem Ma(h:P:=by
  go_simp;refine Zv hK ?_;clear hK K;refine ZR 6 fun K hK=>?_;go_simp;have BN:=Zy BV (aj wv (aH op 0 (some (ZA G 0)) (n-1) (n-1)));refine Zv hK ?_;clear hK K;refine ZR 7 fun K hK=>?_;refine wp_append_lies _ (.tmp 73) (.tmp 75) 76 rfl base 75 i0 (.agg #[ZU 0,ZI 0,ZN]) 3 40 underlying76 hi hz0 hz1 hz2 rfl au (.slice ca cn cc) cn (code.flatMap eD) rfl (tt.out _ BN.out) (ZA wv.heap.size 0) 1 1 (eD ((op,0,(some (ZA G 0),(n-1),(n-1)),l):InM)) rfl rfl ?n1 ?n2 au aP ae (Q9.out.later BN.out).bw _ rfl ?_
  case n1 =>
   exact qd
  case n2=>intro u hu; simp[eD]at hu; rcases hu with rfl | rfl | rfl <;> rfl
  intro g cap w6 Ft BE US _;have PX:=hid (Q9.out.pushI BN.out pv.out dy.out ((op,0,(some (ZA G 0),(n-1),(n-1)),l):InM) YR.out (fun k hk=>Ln.out.frI yM) Ft BE US);rw[HIK.out]at PX;have z6:=hid (HZC.out _ BN.out _ BE);clear Ft BE US;refine hK.out _ _ trivial (fun _=>?_)
  clear hK K;refine Zt 8 ?_;refine Zt 9 ?_;refine ZR 10 fun K hK=>?_;have c16:w6.cell? (ZA fb (k*3+2))=some (.slice ca cn cc):=z6.out.1;have f16:w6.frozen? (ZA fb (k*3+2))=false:=z6.out.2;go_simp;refine Zv hK ?_;clear hK K;refine Z4 ak ?_ _;go_end0;exact⟨(GT.out.trans (KR.later BX.out)).trans PX.out.2,rfl,_,PX.out.1,qC⟩
 ):P:=h
theorem Lf(h:P:=by
  go_simp;refine Zv hK ?_;clear hK K;refine ZR 6 fun K hK=>?_;go_simp;have BN:=Zy BV (aj wv (aH op 0 (some (ZA G 0)) 0 0));refine Zv hK ?_;clear hK K;refine ZR 7 fun K hK=>?_;refine wp_append_lies _ (.tmp 73) (.tmp 75) 76 rfl base 75 i0 (.agg #[ZU 0,ZI 0,ZN]) 3 40 underlying76 hi hz0 hz1 hz2 rfl au (.slice ca cn cc) cn (code.flatMap eD) rfl (tt.out _ BN.out) (ZA wv.heap.size 0) 1 1 (eD ((op,0,(some (ZA G 0),0,0),l):InM)) rfl rfl ?n1 ?n2 au aP ae (Q9.out.later BN.out).bw _ rfl ?_
  case n1 =>
   exact qd
  case n2=>intro u hu; simp[eD]at hu; rcases hu with rfl | rfl | rfl <;> rfl
  intro g cap w6 Ft BE US _;have PX:=hid (Q9.out.pushI BN.out pv.out dy.out ((op,0,(some (ZA G 0),0,0),l):InM) YR.out (fun k hk=>Ln.out.frI yM) Ft BE US);rw[HIK.out]at PX;have z6:=hid (HZC.out _ BN.out _ BE);clear Ft BE US;refine hK.out _ _ trivial (fun _=>?_)
  clear hK K;refine Zt 8 ?_;refine Zt 9 ?_;refine ZR 10 fun K hK=>?_;have c16:w6.cell? (ZA fb (k*3+2))=some (.slice ca cn cc):=z6.out.1;have f16:w6.frozen? (ZA fb (k*3+2))=false:=z6.out.2;go_simp;refine Zv hK ?_;clear hK K;refine Z4 ak ?_ _;go_end0;exact⟨(GT.out.trans (KR.later BX.out)).trans PX.out.2,rfl,_,PX.out.1,qC⟩
 ):P:=h
theorem M4(h:P:=by
  go_simp;refine Zv hK ?_;clear hK K;refine ZR 7 fun K hK=>?_;go_simp;have BN:=Zy B1 (aj wd (bo v (some (ZA G 0)) (y.size / 2) (y.size / 2)));refine Zv hK ?_;clear hK K;refine ZR 8 fun K hK=>?_;refine wp_append_lies _ (.tmp 28) (.tmp 30) 26 rfl base 81 i0 (.agg #[ZI 0,ZN]) 2 32 underlying26 hi hz0 hz1 hz2 rfl au (.slice m.da m.dn m.dc) m.dn (m.data.flatMap iD) rfl (Q1.out.later BN.out).rd (ZA wd.heap.size 0) 1 1 (iD ((v,(some (ZA G 0),y.size / 2,y.size / 2),l):DaM)) rfl rfl ?n1 ?n2 au aP ae (Q1.out.later BN.out).bw _ rfl ?_
  case n1 =>
   exact Gn
  case n2=>intro u hu; simp[iD]at hu; rcases hu with rfl | rfl <;> rfl
  intro g cap w6 Ft BE _ _;have PX:=hid ((Q1.out).pushD BN.out ((v,(some (ZA G 0),y.size / 2,y.size / 2),l):DaM) (oF (bJ OX.out (ZT _ _)) Ln.out.bw) (fun k hk=>Ln.out.frD (dN OX.out hk).1) Ft BE);have z6:=hid (bF ((Q1.out.later BN.out).blk) (Q1.out).low ((Q1.out.later BN.out).rd) BE);clear Ft BE;refine hK.out _ _ trivial (fun _=>?_)
  clear hK K;refine Zt 9 ?_;refine Zt 10 ?_;refine Zt 11 ?_;refine ZR 12 fun K hK=>?_;have c16:=iz7 z6.out;have f16:=free_at (i:=7) z6.out;go_simp;refine Zv hK ?_;clear hK K;refine Z4 ak ?_ _;go_end0;exact⟨(GT.out.trans (KR.later BX.out)).trans PX.out.2,rfl,_,PX.out.1,by unfold pl; simp[plD,List.map_append]⟩
 ):P:=h
theorem Mp(h:P:=by
  go_simp;refine Zv hK ?_;clear hK K;refine ZR 6 fun K hK=>?_;go_simp;refine(Xs.out _ B1.out).mono ?_;rintro e w5⟨rfl,AI⟩;have B5:=Zy B1 AI;clear AI;refine Zv hK ?_;clear hK K;refine ZR 11 fun K hK=>?_;go_simp;refine(tr.out _ B5.out).mono ?_;rintro e w6⟨rfl,LE⟩;have B6:=Zy B5 LE;clear LE;have Q6:=hid (Ln.out.later B6.out);refine hK.out _ _ trivial (fun _=>?_)
  clear hK K;refine Zt 12 ?_;refine Zt 13 ?_;refine Zt 14 ?_;refine ZR 15 fun K hK=>?_;have c16:=Q6.out.cells 4;have f16:=Q6.out.free 4;go_simp;have Q7:=hid (RQ.set (m':={ m with fi:=a }) Q6.out 4 (ZI a) rfl ⟨rfl,rfl,rfl,rfl⟩ ⟨rfl,rfl,rfl,rfl⟩ ⟨rfl,rfl,rfl,rfl⟩ ⟨rfl,rfl,rfl,rfl⟩ ⟨rfl,rfl,rfl,rfl⟩ ⟨rfl,rfl,rfl,rfl⟩ id);have K7:=hid ((KR.later B6.out).trans (KR.set base R 4 w6 (ZI a)));refine hK.out _ _ trivial (fun _=>?_)
  clear hK K;refine Zt 16 ?_;refine Zt 17 ?_;refine Zt 18 ?_;refine ZR 19 fun K hK=>?_;generalize w6.setCell (ZA R 4) (ZI a)=w7 at *;have c17:=Q7.out.cells 5;have f17:=Q7.out.free 5;go_simp;have Q8:=hid (RQ.set (m':={ m with fi:=a,mo:=b }) Q7.out 5 (ZI b) rfl ⟨rfl,rfl,rfl,rfl⟩ ⟨rfl,rfl,rfl,rfl⟩ ⟨rfl,rfl,rfl,rfl⟩ ⟨rfl,rfl,rfl,rfl⟩ ⟨rfl,rfl,rfl,rfl⟩ ⟨rfl,rfl,rfl,rfl⟩ id);have K8:=hid (K7.out.trans (KR.set base R 5 w7 (ZI b)));refine Zv hK ?_;clear hK K;refine Z4 ak ?_ _;go_end0;exact⟨GT.out.trans K8.out,rfl,_,Q8.out,gN⟩
 ):P:=h
theorem Ol(h:P:=by
  go_simp;refine Zv hK ?_;clear hK K;refine ZR 7 fun K hK=>?_;go_simp;have BN:=Zy B1 (aj wd (aN v (gX x2) none 0 0));refine Zv hK ?_;clear hK K;refine ZR 8 fun K hK=>?_;refine wp_append_lies _ (.tmp 183) (.tmp 185) 25 rfl base 78 i0 (.agg #[ZI 0,.string ⟨#[]⟩,ZN]) 3 48 underlying25 hi hz0 hz1 hz2 rfl au (.slice m.fa m.fn m.fc) m.fn (m.fns.flatMap dA) rfl (Q1.out.later BN.out).rf (ZA wd.heap.size 0) 1 1 (dA ((v,gX x2,(none,0,0),[]):FuM)) rfl rfl ?n1 ?n2 au aP ae (Q1.out.later BN.out).bw _ rfl ?_
  case n1 =>
   exact yU
  case n2=>intro u hu; simp[dA]at hu; rcases hu with rfl | rfl | rfl <;> rfl
  intro g cap w6 Ft BE _ _;have PX:=hid ((Q1.out).pushF BN.out ((v,gX x2,(none,0,0),[]):FuM) au ⟨rfl,rfl⟩ Ft BE);have z6:=hid (bF ((Q1.out.later BN.out).blk) (Q1.out).low ((Q1.out.later BN.out).rf) BE);clear Ft BE;refine hK.out _ _ trivial (fun _=>?_)
  clear hK K;refine Zt 9 ?_;refine Zt 10 ?_;refine Zt 11 ?_;refine ZR 12 fun K hK=>?_;have c16:=iz5 z6.out;have f16:=free_at (i:=5) z6.out;go_simp;refine Zv hK ?_;clear hK K;refine Z4 ak ?_ _;go_wp2_with fail;go_ret;rw[hres.out];refine⟨KX.out.trans PX.out.2,?_⟩
  cases bb
  ·rfl
  exact⟨rfl,_,PX.out.1,by unfold pl; simp[plF]⟩
 ):P:=h
theorem PN(h:P:=by
  go_simp;refine Zv hK ?_;clear hK K;refine ZR 6 fun K hK=>?_;go_simp;have BN:=Zy BV (aj wv (aH op 0 none 0 0));refine Zv hK ?_;clear hK K;refine ZR 7 fun K hK=>?_;refine wp_append_lies _ (.tmp 73) (.tmp 75) 76 rfl base 75 i0 (.agg #[ZU 0,ZI 0,ZN]) 3 40 underlying76 hi hz0 hz1 hz2 rfl au (.slice ca cn cc) cn (code.flatMap eD) rfl (tt.out _ BN.out) (ZA wv.heap.size 0) 1 1 (eD ((op,0,(none,0,0),[]):InM)) rfl rfl ?n1 ?n2 au aP ae (Q9.out.later BN.out).bw _ rfl ?_
  case n1 =>
   exact qd
  case n2=>intro u hu; simp[eD]at hu; rcases hu with rfl | rfl | rfl <;> rfl
  intro g cap w6 Ft BE US _;have PX:=hid (Q9.out.pushI BN.out pv.out dy.out ((op,0,(none,0,0),[]):InM) YR.out (fun k hk=>absurd hk xH) Ft BE US);rw[HIK.out]at PX;have z6:=hid (HZC.out _ BN.out _ BE);clear Ft BE US;refine hK.out _ _ trivial (fun _=>?_)
  clear hK K;refine Zt 8 ?_;refine Zt 9 ?_;refine ZR 10 fun K hK=>?_;have c16:w6.cell? (ZA fb (k*3+2))=some (.slice ca cn cc):=z6.out.1;have f16:w6.frozen? (ZA fb (k*3+2))=false:=z6.out.2;go_simp;refine Zv hK ?_;clear hK K;refine Z4 ak ?_ _;go_end0;exact⟨(GT.out.trans (KR.later BX.out)).trans PX.out.2,rfl,_,PX.out.1,qC⟩
 ):P:=h
theorem NM(h:P:=by
  go_simp;refine Zv hK ?_;clear hK K;refine ZR 6 fun K hK=>?_;go_simp;have BN:=Zy BV (aj wv (aH op a none 0 0));refine Zv hK ?_;clear hK K;refine ZR 7 fun K hK=>?_;refine wp_append_lies _ (.tmp 73) (.tmp 75) 76 rfl base 75 i0 (.agg #[ZU 0,ZI 0,ZN]) 3 40 underlying76 hi hz0 hz1 hz2 rfl au (.slice ca cn cc) cn (code.flatMap eD) rfl (tt.out _ BN.out) (ZA wv.heap.size 0) 1 1 (eD ((op,a,(none,0,0),[]):InM)) rfl rfl ?n1 ?n2 au aP ae (Q9.out.later BN.out).bw _ rfl ?_
  case n1 =>
   exact qd
  case n2=>intro u hu; simp[eD]at hu; rcases hu with rfl | rfl | rfl <;> rfl
  intro g cap w6 Ft BE US _;have PX:=hid (Q9.out.pushI BN.out pv.out dy.out ((op,a,(none,0,0),[]):InM) YR.out (fun k hk=>absurd hk xH) Ft BE US);rw[HIK.out]at PX;have z6:=hid (HZC.out _ BN.out _ BE);clear Ft BE US;refine hK.out _ _ trivial (fun _=>?_)
  clear hK K;refine Zt 8 ?_;refine Zt 9 ?_;refine ZR 10 fun K hK=>?_;have c16:w6.cell? (ZA fb (k*3+2))=some (.slice ca cn cc):=z6.out.1;have f16:w6.frozen? (ZA fb (k*3+2))=false:=z6.out.2;go_simp;refine Zv hK ?_;clear hK K;refine Z4 ak ?_ _;go_end0;exact⟨(GT.out.trans (KR.later BX.out)).trans PX.out.2,rfl,_,PX.out.1,qC⟩
 ):P:=h
theorem Lc(h:P:=by
  go_simp;refine Zv hK ?_;clear hK K;refine ZR 7 fun K hK=>?_;go_simp;have BN:=Zy B1 (aj wd (aN v ⟨#[]⟩ none 0 0));refine Zv hK ?_;clear hK K;refine ZR 8 fun K hK=>?_;refine wp_append_lies _ (.tmp 32) (.tmp 34) 25 rfl base 78 i0 (.agg #[ZI 0,.string ⟨#[]⟩,ZN]) 3 48 underlying25 hi hz0 hz1 hz2 rfl au (.slice m.fa m.fn m.fc) m.fn (m.fns.flatMap dA) rfl (Q1.out.later BN.out).rf (ZA wd.heap.size 0) 1 1 (dA ((v,⟨#[]⟩,(none,0,0),[]):FuM)) rfl rfl ?n1 ?n2 au aP ae (Q1.out.later BN.out).bw _ rfl ?_
  case n1 =>
   exact yU
  case n2=>intro u hu; simp[dA]at hu; rcases hu with rfl | rfl | rfl <;> rfl
  intro g cap w6 Ft BE _ _;have PX:=hid ((Q1.out).pushF BN.out ((v,⟨#[]⟩,(none,0,0),[]):FuM) au ⟨rfl,rfl⟩ Ft BE);have z6:=hid (bF ((Q1.out.later BN.out).blk) (Q1.out).low ((Q1.out.later BN.out).rf) BE);clear Ft BE;refine hK.out _ _ trivial (fun _=>?_)
  clear hK K;refine Zt 9 ?_;refine Zt 10 ?_;refine Zt 11 ?_;refine ZR 12 fun K hK=>?_;have c16:=iz6 z6.out;have f16:=free_at (i:=6) z6.out;go_simp;refine Zv hK ?_;clear hK K;refine Z4 ak ?_ _;go_end0;exact⟨(GT.out.trans KX.out).trans PX.out.2,rfl,_,PX.out.1,by unfold pl; simp[plF,List.map_append]⟩
 ):P:=h
theorem M5(h:P:=by
  go_simp;refine Zv hK ?_;clear hK K;refine ZR 7 fun K hK=>?_;go_simp;have BN:=Zy B1 (aj wd (aN v y none 0 0));refine Zv hK ?_;clear hK K;refine ZR 8 fun K hK=>?_;refine wp_append_lies _ (.tmp 32) (.tmp 34) 25 rfl base 78 i0 (.agg #[ZI 0,.string ⟨#[]⟩,ZN]) 3 48 underlying25 hi hz0 hz1 hz2 rfl au (.slice m.fa m.fn m.fc) m.fn (m.fns.flatMap dA) rfl (Q1.out.later BN.out).rf (ZA wd.heap.size 0) 1 1 (dA ((v,y,(none,0,0),[]):FuM)) rfl rfl ?n1 ?n2 au aP ae (Q1.out.later BN.out).bw _ rfl ?_
  case n1 =>
   exact yU
  case n2=>intro u hu; simp[dA]at hu; rcases hu with rfl | rfl | rfl <;> rfl
  intro g cap w6 Ft BE _ _;have PX:=hid ((Q1.out).pushF BN.out ((v,y,(none,0,0),[]):FuM) au ⟨rfl,rfl⟩ Ft BE);have z6:=hid (bF ((Q1.out.later BN.out).blk) (Q1.out).low ((Q1.out.later BN.out).rf) BE);clear Ft BE;refine hK.out _ _ trivial (fun _=>?_)
  clear hK K;refine Zt 9 ?_;refine Zt 10 ?_;refine Zt 11 ?_;refine ZR 12 fun K hK=>?_;have c16:=iz6 z6.out;have f16:=free_at (i:=6) z6.out;go_simp;refine Zv hK ?_;clear hK K;refine Z4 ak ?_ _;go_end0;exact⟨(GT.out.trans KX.out).trans PX.out.2,rfl,_,PX.out.1,EL⟩
 ):P:=h
theorem ND(h:P:=by
  go_simp;refine Zv hK ?_;clear hK K;refine ZR 7 fun K hK=>?_;go_simp;have BN:=Zy B1 (aj wd (aZ 108 M (v%18446744073709551616)));refine Zv hK ?_;clear hK K;refine ZR 8 fun K hK=>?_;refine wp_append_lies _ (.tmp 65) (.tmp 67) 24 rfl base 102 i0 (.agg #[ZU 0,.bool false,.int .u64 0]) 3 16 underlying24 hi hz0 hz1 hz2 rfl au (.slice m.ga m.gn m.gc) m.gn (m.globals.flatMap fQ) rfl (Q1.out.later BN.out).rg (ZA wd.heap.size 0) 1 1 (fQ ((108,M,v%18446744073709551616):Gl)) rfl rfl ?n1 ?n2 au aP ae (Q1.out.later BN.out).bw _ rfl ?_
  case n1 =>
   exact xG
  case n2=>intro u hu; simp[fQ]at hu; rcases hu with rfl | rfl | rfl <;> rfl
  intro g cap w6 Ft BE _ _;have PX:=hid ((Q1.out).pushG BN.out ((108,M,v%18446744073709551616):Gl) Ft BE);have z6:=hid (bF ((Q1.out.later BN.out).blk) (Q1.out).low ((Q1.out.later BN.out).rg) BE);clear Ft BE;refine hK.out _ _ trivial (fun _=>?_)
  clear hK K;refine Zt 9 ?_;refine Zt 10 ?_;refine Zt 11 ?_;refine ZR 12 fun K hK=>?_;have c16:=iz3 z6.out;have f16:=free_at (i:=3) z6.out;go_simp;refine Zv hK ?_;clear hK K;refine Z4 ak ?_ _;go_end0;exact⟨(GT.out.trans KX.out).trans PX.out.2,rfl,_,PX.out.1,gN⟩
 ):P:=h
theorem Mz(h:P:=by
  go_simp;refine Zv hK ?_;clear hK K;refine ZR 7 fun K hK=>?_;go_simp;have BN:=Zy B1 (aj wd (aZ L.toNat M val));refine Zv hK ?_;clear hK K;refine ZR 8 fun K hK=>?_;refine wp_append_lies _ (.tmp 74) (.tmp 76) 24 rfl base 102 i0 (.agg #[ZU 0,.bool false,.int .u64 0]) 3 16 underlying24 hi hz0 hz1 hz2 rfl au (.slice m.ga m.gn m.gc) m.gn (m.globals.flatMap fQ) rfl (Q1.out.later BN.out).rg (ZA wd.heap.size 0) 1 1 (fQ (((L.toNat:Int),M,val):Gl)) rfl rfl ?n1 ?n2 au aP ae (Q1.out.later BN.out).bw _ rfl ?_
  case n1 =>
   exact xG
  case n2=>intro u hu; simp[fQ]at hu; rcases hu with rfl | rfl | rfl <;> rfl
  intro g cap w6 Ft BE _ _;have PX:=hid ((Q1.out).pushG BN.out (((L.toNat:Int),M,val):Gl) Ft BE);have z6:=hid (bF ((Q1.out.later BN.out).blk) (Q1.out).low ((Q1.out.later BN.out).rg) BE);clear Ft BE;refine hK.out _ _ trivial (fun _=>?_)
  clear hK K;refine tkQ (i:=9) rfl ?_;(try simp only[Act.put,sIB]);refine tkQ (i:=10) rfl ?_;(try simp only[Act.put]);refine tkQ (i:=11) rfl ?_;(try simp only[Act.put]);refine ZR 12 fun K hK=>?_;have c16:=iz2 z6.out;have f16:=free_at (i:=2) z6.out;go_simp;refine Zv hK ?_;clear hK K;refine Z4 ak ?_ _;go_wp2_with fail;go_ret;rw[hres.out];refine⟨KX.out.trans PX.out.2,?_⟩
  cases B
  ·rfl
  exact⟨rfl,_,PX.out.1,gN⟩
 ):P:=h
theorem NF(h:P:=by
  go_simp;refine Zv hK ?_;clear hK K;refine ZR 7 fun K hK=>?_;go_simp;have BN:=Zy B1 (aj wd (aZ 119 M (v%4294967296)));refine Zv hK ?_;clear hK K;refine ZR 8 fun K hK=>?_;refine wp_append_lies _ (.tmp 65) (.tmp 67) 24 rfl base 102 i0 (.agg #[ZU 0,.bool false,.int .u64 0]) 3 16 underlying24 hi hz0 hz1 hz2 rfl au (.slice m.ga m.gn m.gc) m.gn (m.globals.flatMap fQ) rfl (Q1.out.later BN.out).rg (ZA wd.heap.size 0) 1 1 (fQ ((119,M,v%4294967296):Gl)) rfl rfl ?n1 ?n2 au aP ae (Q1.out.later BN.out).bw _ rfl ?_
  case n1 =>
   exact xG
  case n2=>intro u hu; simp[fQ]at hu; rcases hu with rfl | rfl | rfl <;> rfl
  intro g cap w6 Ft BE _ _;have PX:=hid ((Q1.out).pushG BN.out ((119,M,v%4294967296):Gl) Ft BE);have z6:=hid (bF ((Q1.out.later BN.out).blk) (Q1.out).low ((Q1.out.later BN.out).rg) BE);clear Ft BE;refine hK.out _ _ trivial (fun _=>?_)
  clear hK K;refine Zt 9 ?_;refine Zt 10 ?_;refine Zt 11 ?_;refine ZR 12 fun K hK=>?_;have c16:=iz3 z6.out;have f16:=free_at (i:=3) z6.out;go_simp;refine Zv hK ?_;clear hK K;refine Z4 ak ?_ _;go_end0;exact⟨(GT.out.trans KX.out).trans PX.out.2,rfl,_,PX.out.1,gN⟩
 ):P:=h
theorem PF(h:P:=by
  go_simp;refine Zv hK ?_;clear hK K;refine ZR 10 fun K hK=>?_;go_simp;refine(HI.out _ B1.out).mono ?_;rintro e w5⟨rfl,AI⟩;have B5:=Zy B1 AI;clear AI;refine Zv hK ?_;clear hK K;refine ZR 11 fun K hK=>?_;go_simp;have BN:=Zy B5 (aj w5 (bR v));refine Zv hK ?_;clear hK K;refine ZR 12 fun K hK=>?_;refine wp_append_lies _ (.tmp 16) (.tmp 22) 23 rfl base 3 i0 (ZI 0) 1 8 underlying23 hi hz0 hz1 hz2 rfl au (.slice m.ha m.hn m.hc) m.hn (m.hosts.flatMap fJ) rfl (Q1.out.later BN.out).rh (ZA w5.heap.size 0) 1 1 (fJ v) rfl rfl ?n1 ?n2 au aP ae (Q1.out.later BN.out).bw _ rfl ?_
  case n1 =>
   exact xC
  case n2=>intro u hu; simp[fJ]at hu; subst hu; rfl
  intro g cap w6 Ft BE _ _;have PX:=hid ((Q1.out).pushH BN.out v au Ft BE);have z6:=hid (bF ((Q1.out.later BN.out).blk) (Q1.out).low ((Q1.out.later BN.out).rh) BE);clear Ft BE;refine hK.out _ _ trivial (fun _=>?_)
  clear hK K;refine Zt 13 ?_;refine Zt 14 ?_;refine Zt 15 ?_;refine ZR 16 fun K hK=>?_;have c16:=iz2 z6.out;have f16:=free_at (i:=2) z6.out;go_simp;refine Zv hK ?_;clear hK K;refine Z4 ak ?_ _;go_end0;exact⟨HK1.out.trans PX.out.2,rfl,_,PX.out.1,gN⟩
 ):P:=h
theorem Ov(h:P:=by
  have Xs:=hid (fun(W:World) (hW:Zx w1 W)=>pF B R y v W (e1.tens.later (hW.mono e1.bw)) (ZW e1.bw hW.size) ae h4);clear h hw hE hps h1 q1 d1 k1 e1 e hx ex hz ez hy ey h3 h4 h5 h6;go_enter func111,ntmps111
  go_wp2_with fail;refine ZE HO.out ?_;go_wp2_with fail;refine ZE HM.out ?_;have KZ2:=hid yy;clear yy
  go_upto_region 2 with fail
  go_cut [] from 13 to 24 (fun wx=>wx=w1)
  case first =>
   have cz:=HWz.out w1 (ZT _ _);have pa:=hid (aO R w1)
   cases M
   all_goals
    (try have yy:=KZ2.out rfl)
    go_wp2_with fail;refine ZE pa.out ?_;go_wp2_with fail
    go_meet
    rfl
  case rest =>
  have hc:=hcut.symm;subst hc;have cz:=HWz.out w1 (ZT _ _);clear hcut KZ2;have cy:(w1.alloc (aZ 0 M 0)).cell? (ZA A 3)=some (.string y):=IN.out _ (aj w1 _);have G':=hid (aj w1 (aZ 0 M 0));have hX0:=hid (hZn w1 (aZ 0 M 0));go_wp2_with fail;refine(Xs.out _ G'.out).mono ?_;rintro e w5⟨rfl,AI⟩;have B5:=Zy G' AI;have sh:=ar AI hX0.out;have c50:=iz0 sh;have c52:=iz2 sh;have f50:=free_at (i:=0) sh;have f52:=free_at (i:=2) sh;have j7:=hid sh;have cx5:w5.cell? (ZA A 1)=some (.string x):=Kx.out _ B5.out;have HQ5:=hid (Ln.out.later B5.out);clear AI cy hX0 sh;have HM5:=hid (iL HQ5.out);go_wp2_with fail;refine ZE HM5.out ?_;exact⟨rfl,GT.out.trans (KR.later B5.out),rfl⟩
 ):P:=h
theorem M9(h:P:=by
  go_simp;refine Zv hK ?_;clear hK K;refine ZR 7 fun K hK=>?_;go_simp;have BN:=Zy B1 (aj wd (bo v da D.length dc));refine Zv hK ?_;clear hK K;refine ZR 8 fun K hK=>?_;refine wp_append_lies _ (.tmp 70) (.tmp 72) 26 rfl base 81 i0 (.agg #[ZI 0,ZN]) 2 32 underlying26 hi hz0 hz1 hz2 rfl au (.slice m.da m.dn m.dc) m.dn (m.data.flatMap iD) rfl (Q1.out.later BN.out).rd (ZA wd.heap.size 0) 1 1 (iD ((v,(da,D.length,dc),D):DaM)) rfl rfl ?n1 ?n2 au aP ae (Q1.out.later BN.out).bw _ rfl ?_
  case n1 =>
   exact Gn
  case n2=>intro u hu; simp[iD]at hu; rcases hu with rfl | rfl <;> rfl
  intro g cap w6 Ft BE _ _;have PX:=hid ((Q1.out).pushD BN.out ((v,(da,D.length,dc),D):DaM) HXO.out Ft BE);have z6:=hid (bF ((Q1.out.later BN.out).blk) (Q1.out).low ((Q1.out.later BN.out).rd) BE);clear Ft BE;refine hK.out _ _ trivial (fun _=>?_)
  clear hK K;refine Zt 9 ?_;refine Zt 10 ?_;refine Zt 11 ?_;refine ZR 12 fun K hK=>?_;have c16:=iz6 z6.out;have f16:=free_at (i:=6) z6.out;go_simp;refine Zv hK ?_;clear hK K;refine Z4 ak ?_ _;go_wp2_with fail;go_ret;rw[hres.out];refine⟨KX.out.trans PX.out.2,?_⟩
  cases B
  ·rfl
  exact⟨rfl,_,PX.out.1,by unfold pl; simp[plD]⟩
 ):P:=h
theorem NJ(h:P:=by
  go_simp;refine Zv hK ?_;clear hK K;refine ZR 7 fun K hK=>?_;go_simp;have BN:=Zy B1 (aj wd (aW JP JR));refine Zv hK ?_;clear hK K;refine ZR 8 fun K hK=>?_;refine wp_append_lies _ (.tmp 108) (.tmp 110) 22 rfl base 73 i0 (.agg #[.string ⟨#[]⟩,.string ⟨#[]⟩]) 2 32 underlying22 hi hz0 hz1 hz2 rfl au (.slice m.ta m.tn m.tc) m.tn (m.types.flatMap iy) rfl (Q1.out.later BN.out).rt (ZA wd.heap.size 0) 1 1 (iy ((JP,JR):Sg)) rfl rfl ?n1 ?n2 au aP ae (Q1.out.later BN.out).bw _ rfl ?_
  case n1 =>
   exact Fe
  case n2=>intro u hu; simp[iy]at hu; rcases hu with rfl | rfl <;> rfl
  intro g cap w6 Ft BE _ _;have PX:=hid ((Q1.out).pushT BN.out ((JP,JR):Sg) Ft BE);have z6:=hid (bF ((Q1.out.later BN.out).blk) (Q1.out).low ((Q1.out.later BN.out).rt) BE);clear Ft BE;refine hK.out _ _ trivial (fun _=>?_)
  clear hK K;refine Zt 9 ?_;refine Zt 10 ?_;refine Zt 11 ?_;refine ZR 12 fun K hK=>?_;have c16:=iz0 z6.out;have f16:=free_at (i:=0) z6.out;go_simp;refine Zv hK ?_;clear hK K;refine Z4 ak ?_ _;go_wp2_with fail;go_ret;rw[hres.out,HBB.out];refine⟨KX.out.trans PX.out.2,?_⟩
  cases B
  ·rfl
  exact⟨rfl,_,PX.out.1,gN⟩
 ):P:=h
theorem OL(h:P:=by
  refine Zv hK ?_ (z'.out _ BN.out);clear hK K;refine ZR 17 fun K hK=>?_;refine wp_append_lies _ (.tmp 92) (.tmp 94) 76 rfl base 75 i0 (.agg #[ZU 0,ZI 0,ZN]) 3 40 underlying76 hi hz0 hz1 hz2 rfl au (.slice ca cn cc) cn (code.flatMap eD) rfl (tt.out _ BN.out) (ZA wd.heap.size 0) 1 1 (eD ((op,A,(la,ln,lc),zs):InM)) rfl rfl ?n1 ?n2 au aP ae (Q9.out.later BN.out).bw _ rfl ?_
  case n1 =>
   exact qd
  case n2=>intro u hu; simp[eD]at hu; rcases hu with rfl | rfl | rfl <;> rfl
  intro g cap w6 Ft BE US _;have PX:=hid (Q9.out.pushI BN.out pv.out dy.out ((op,A,(la,ln,lc),zs):InM) YR.out Ft BE US);rw[HIK.out]at PX;have z6:=hid (HZC.out _ BN.out _ BE);have S6:=hid (A'.out _ BN.out _ BE);clear Ft BE US;refine hK.out _ _ S6.out.1 (fun _=>?_)
  clear hK K;have hS6:=S6.out.1;refine Zt 18 ?_;refine Zt 19 ?_;refine ZR 20 fun K hK=>?_;have c16:w6.cell? (ZA fb (k*3+2))=some (.slice ca cn cc):=z6.out.1;have f16:w6.frozen? (ZA fb (k*3+2))=false:=z6.out.2;go_simp;refine Zv hK ?_ (S6.out.2 _);clear hK K;refine Z4 ak ?_ _;go_wp2_with fail;go_ret;rw[HPIN.out];exact⟨(KR.later AT.out).trans PX.out.2,rfl,_,PX.out.1,qC⟩
 ):P:=h
theorem Ow(h:P:=by
  go_simp;refine Zv hK ?_;clear hK K;refine ZR 7 fun K hK=>?_;go_simp;have BN:=Zy B1 (aj wd (bK x v));refine Zv hK ?_;clear hK K;refine ZR 8 fun K hK=>?_;refine wp_append_lies _ (.tmp 27) (.tmp 29) 27 rfl base 83 i0 (.agg #[.string ⟨#[]⟩,ZI 0]) 2 24 underlying27 hi hz0 hz1 hz2 rfl au (.slice m.ea m.en m.ec) m.en (m.exps.flatMap jV) rfl (Q1.out.later BN.out).re (ZA wd.heap.size 0) 1 1 (jV ((x,v):Ex)) rfl rfl ?n1 ?n2 au aP ae (Q1.out.later BN.out).bw _ rfl ?_
  case n1 =>
   exact yN
  case n2=>intro u hu; simp[jV]at hu; rcases hu with rfl | rfl <;> rfl
  intro g cap w6 Ft BE _ _;have PX:=hid ((Q1.out).pushE BN.out ((x,v):Ex) Ft BE);have z6:=hid (bF ((Q1.out.later BN.out).blk) (Q1.out).low ((Q1.out.later BN.out).re) BE);clear Ft BE;refine hK.out _ _ trivial (fun _=>?_)
  clear hK K;refine Zt 9 ?_;refine Zt 10 ?_;refine Zt 11 ?_;refine ZR 12 fun K hK=>?_;have c16:=iz8 z6.out;have f16:=free_at (i:=8) z6.out;go_simp;refine Zv hK ?_;clear hK K;refine Z4 ak ?_ _;go_end0;exact⟨(GT.out.trans (KR.later BX.out)).trans PX.out.2,rfl,_,PX.out.1,by rw[HEx.out]; unfold pl; rfl⟩
 ):P:=h
theorem Qq(h:P:=by
  go_simp;refine Zv hK ?_;clear hK K;refine ZR 7 fun K hK=>?_;go_simp;have BN:=Zy B1 (aj wd (aW rp rr));refine Zv hK ?_;clear hK K;refine ZR 8 fun K hK=>?_;refine wp_append_lies _ (.tmp 24) (.tmp 26) 22 rfl base 73 i0 (.agg #[.string ⟨#[]⟩,.string ⟨#[]⟩]) 2 32 underlying22 hi hz0 hz1 hz2 rfl au (.slice m.ta m.tn m.tc) m.tn (m.types.flatMap iy) rfl (Q1.out.later BN.out).rt (ZA wd.heap.size 0) 1 1 (iy (rp,rr)) rfl rfl ?n1 ?n2 au aP ae (Q1.out.later BN.out).bw _ rfl ?_
  case n1 =>
   exact Fe
  case n2=>intro u hu; simp[iy]at hu; rcases hu with rfl | rfl <;> rfl
  intro g cap w6 Ft BE _ _;have PX:=hid ((Q1.out).pushT BN.out (rp,rr) Ft BE);have z6:=hid (bF ((Q1.out.later BN.out).blk) (Q1.out).low ((Q1.out.later BN.out).rt) BE);clear Ft BE;refine hK.out _ _ trivial (fun _=>?_)
  clear hK K;refine Zt 9 ?_;refine Zt 10 ?_;refine Zt 11 ?_;refine ZR 12 fun K hK=>?_;have c16:=iz1 z6.out;have f16:=free_at (i:=1) z6.out;go_simp;refine Zv hK ?_;clear hK K;refine Z4 ak ?_ _;go_end0;exact⟨(GT.out.trans (KR.later B4.out)).trans PX.out.2,rfl,_,PX.out.1,gN⟩
 ):P:=h
theorem Np(h:P:=by
  refine Zv hK ?_ (z'.out _ BN.out);clear hK K;refine ZR 12 fun K hK=>?_;refine wp_append_lies _ (.tmp 144) (.tmp 150) 27 rfl base 83 i0 (.agg #[.string ⟨#[]⟩,ZI 0]) 2 24 underlying27 hi hz0 hz1 hz2 rfl au (.slice m.ea m.en m.ec) m.en (m.exps.flatMap jV) rfl (Q1.out.later BN.out).re (ZA wd.heap.size 0) 1 1 (jV ((x1,v):Ex)) rfl rfl ?n1 ?n2 au aP ae (Q1.out.later BN.out).bw _ rfl ?_
  case n1 =>
   exact yN
  case n2=>intro u hu; simp[jV]at hu; rcases hu with rfl | rfl <;> rfl
  intro g cap w6 Ft BE _ _;have PX:=hid ((Q1.out).pushE BN.out ((x1,v):Ex) Ft BE);have z6:=hid (bF ((Q1.out.later BN.out).blk) (Q1.out).low ((Q1.out.later BN.out).re) BE);have S6:=hid (A'.out _ BN.out _ BE);clear Ft BE;refine hK.out _ _ S6.out.1 (fun _=>?_)
  clear hK K;have hS6:=S6.out.1;refine Zt 13 ?_;refine Zt 14 ?_;refine Zt 15 ?_;refine ZR 16 fun K hK=>?_;have c16:=iz7 z6.out;have f16:=free_at (i:=7) z6.out;go_simp;refine Zv hK ?_ (S6.out.2 _);clear hK K;refine Z4 ak ?_ _;go_wp2_with fail;go_ret;rw[hres.out];refine⟨KX.out.trans PX.out.2,?_⟩
  cases bb
  ·rfl
  exact⟨rfl,_,PX.out.1,gN⟩
 ):P:=h
theorem NL(h:P:=by
  have hh:hit s n m=(l9 (s.extract 0 n) ⟨#[]⟩&&((eB (s.extract 0 n) ⟨#[]⟩).toList==s.toList)):=yD;have z1:((s.extract 0 n):BAz).size<=1073741824:=wy;have z2:(⟨#[]⟩:BAz).size<=1073741824:=wZ;go_wp2_with fail;refine(Il (s.extract 0 n) ⟨#[]⟩ _ z1 z2).mono ?_;rintro e w1⟨rfl,hb1⟩;have F:=hid (x9 (s.extract 0 n) ⟨#[]⟩ HK2.out P2.out hb1);clear hb1
  cases hg:l9 (s.extract 0 n) ⟨#[]⟩
  ·rw[show gF (s.extract 0 n) ⟨#[]⟩=15 by rw[gF,hg]; rfl]
   generalize kN (s.extract 0 n) ⟨#[]⟩=wv;exact Hq
  rw[show gF (s.extract 0 n) ⟨#[]⟩=0 by rw[gF,hg]; rfl,show kN (s.extract 0 n) ⟨#[]⟩=eB (s.extract 0 n) ⟨#[]⟩ by rw[kN,hg]; rfl]
  cases hw:((eB (s.extract 0 n) ⟨#[]⟩).toList==s.toList)
  ·exact GM
  obtain⟨_,_,x0,x1,y0,y1,f0,f1⟩:=F.out;have HH:=hid (wU (s:=s) (i:=n) (k:=m) ql);have cq:=hid F.out.2.1;go_wp2
  (try simp only[Exit.inBlock,Exit.then])
  refine i4 (v:=.tuple #[.agg #[.string (s.extract 0 n),.string ⟨#[]⟩],ZI 0]) ?_ rfl ⟨zC,?_⟩
  ·exact r9
  exact(cq.out.setCell av _).setCell av _
 ):P:=h
theorem Lb(h:P:=by
  refine Zv hK ?_ (z'.out _ BN.out);clear hK K;refine ZR 10 fun K hK=>?_;refine wp_append_lies _ (.tmp 214) (.tmp 218) 23 rfl base 3 i0 (ZI 0) 1 8 underlying23 hi hz0 hz1 hz2 rfl au (.slice m.ha m.hn m.hc) m.hn (m.hosts.flatMap fJ) rfl (Q1.out.later BN.out).rh (ZA wd.heap.size 0) 1 1 (fJ z0) rfl rfl ?n1 ?n2 au aP ae (Q1.out.later BN.out).bw _ rfl ?_
  case n1 =>
   exact xC
  case n2=>intro u hu; simp[fJ]at hu; subst hu; rfl
  intro g cap w6 Ft BE _ _;have PX:=hid ((Q1.out).pushH BN.out z0 au Ft BE);have z6:=hid (bF ((Q1.out.later BN.out).blk) (Q1.out).low ((Q1.out.later BN.out).rh) BE);have S6:=hid (A'.out _ BN.out _ BE);clear Ft BE;refine hK.out _ _ S6.out.1 (fun _=>?_)
  clear hK K;have hS6:=S6.out.1;refine Zt 11 ?_;refine Zt 12 ?_;refine Zt 13 ?_;refine ZR 14 fun K hK=>?_;have c16:=iz1 z6.out;have f16:=free_at (i:=1) z6.out;go_simp;refine Zv hK ?_ (S6.out.2 _);clear hK K;refine Z4 ak ?_ _;go_wp2_with fail;go_ret;rw[hres.out];exact⟨KX.out.trans PX.out.2,rfl,_,PX.out.1,gN⟩
 ):P:=h
theorem PY(h:P:=by
  have hh:hit s n m=(l9 ⟨#[]⟩ ⟨#[]⟩&&((eB ⟨#[]⟩ ⟨#[]⟩).toList==s.toList)):=yD;have z1:(⟨#[]⟩:BAz).size<=1073741824:=wZ;have z2:(⟨#[]⟩:BAz).size<=1073741824:=wZ;go_wp2_with fail;refine(Il ⟨#[]⟩ ⟨#[]⟩ _ z1 z2).mono ?_;rintro e w1⟨rfl,hb1⟩;have F:=hid (x9 ⟨#[]⟩ ⟨#[]⟩ HK2.out P2.out hb1);clear hb1
  cases hg:l9 ⟨#[]⟩ ⟨#[]⟩
  ·rw[show gF ⟨#[]⟩ ⟨#[]⟩=15 by rw[gF,hg]; rfl]
   generalize kN ⟨#[]⟩ ⟨#[]⟩=wv;exact Hq
  rw[show gF ⟨#[]⟩ ⟨#[]⟩=0 by rw[gF,hg]; rfl,show kN ⟨#[]⟩ ⟨#[]⟩=eB ⟨#[]⟩ ⟨#[]⟩ by rw[kN,hg]; rfl]
  cases hw:((eB ⟨#[]⟩ ⟨#[]⟩).toList==s.toList)
  ·exact GM
  obtain⟨_,_,x0,x1,y0,y1,f0,f1⟩:=F.out;have HH:=hid (wU (s:=s) (i:=n) (k:=m) ql);have cq:=hid F.out.2.1;go_wp2
  (try simp only[Exit.inBlock,Exit.then])
  refine i4 (v:=.tuple #[.agg #[.string ⟨#[]⟩,.string ⟨#[]⟩],ZI 0]) ?_ rfl ⟨zC,?_⟩
  ·exact r9
  exact(cq.out.setCell av _).setCell av _
 ):P:=h
theorem Nl(h:P:=by
  have key:∀(i:Nat)x k,init[i]? =some x->fcb x=some k->k≠g:=fun i x k hi hk e=>by
   subst e;have hil:=aF hi;have hi':m.fns[i]? =some x:=zB
   rcases hgb with hgb | hgb
   ·exact h.fd i init.length x _ k hi' hlast ae hk hgb
   obtain⟨_,cur2,h2⟩:=dN (hq.fo x (ZO hi')).code hk;have:=aK h2;omega
  have hnew:fcb ((t,lo,(some (ZA g 0),cn+1,cap),code++[y]):FuM)=some g:=rfl;intro i j x z k hi hj hij hk hkz;dsimp only at hi hj
  rcases Zae i init.length with hil | hil
  ·rw[Zaa hil]at hi
   rcases Zae j init.length with hjl | hjl
   ·rw[Zaa hjl]at hj;have hi':m.fns[i]? =some x:=zB
    have hj':m.fns[j]? =some z:=by rw[hf,Zaa hjl]; exact hj
    exact h.fd i j x z k hi' hj' hij hk hkz
   rw[Zag hjl]at hj;have:=ZO hj;rw[List.mem_singleton]at this;subst this;rw[hnew]at hkz
   cases hkz
   exact key i x g hi hk rfl
  rw[Zag hil]at hi;have hx:=ZO hi;rw[List.mem_singleton]at hx;subst hx;rw[hnew]at hk
  cases hk
  rcases Zae j init.length with hjl | hjl
  ·rw[Zaa hjl]at hj;exact key j z g hj hkz rfl
  rw[Zag hjl]at hj;have h1:=aF hi;have h2:=aF hj;simp at h1 h2;omega
 ):P:=h
theorem OO(h:P:=by
  refine Zv hK ?_;clear hK K;refine ZR 12 fun K hK=>?_;refine wp_append_lies _ (.tmp 16) (.tmp 22) 23 rfl base 3 i0 (ZI 0) 1 8 underlying23 hi hz0 hz1 hz2 rfl au (.slice m.ha m.hn m.hc) m.hn (m.hosts.flatMap fJ) rfl (Q1.out.later BN.out).rh (ZA w5.heap.size 0) 1 1 (fJ v) rfl rfl ?n1 ?n2 au aP ae (Q1.out.later BN.out).bw _ rfl ?_
  case n1 =>
   exact xC
  case n2=>intro u hu; simp[fJ]at hu; subst hu; rfl
  intro g cap w6 Ft BE _ _;have PX:=hid ((Q1.out).pushH BN.out v au Ft BE);have z6:=hid (bF ((Q1.out.later BN.out).blk) (Q1.out).low ((Q1.out.later BN.out).rh) BE);clear Ft BE;refine hK.out _ _ trivial (fun _=>?_)
  clear hK K;refine Zt 13 ?_;refine Zt 14 ?_;refine Zt 15 ?_;refine ZR 16 fun K hK=>?_;have c16:=iz2 z6.out;have f16:=free_at (i:=2) z6.out;go_simp;refine Zv hK ?_;clear hK K;refine Z4 ak ?_ _;go_end0;exact⟨HK1.out.trans PX.out.2,rfl,_,PX.out.1,gN⟩
 ):P:=h
theorem Pw(h:P:=by
  have HV:=hid (HI.out ha1 ha2);clear HI HF
  by_cases hz:ln=0
  ·have hz':((ln:Int) != 0)=false:=by simp[hz]
   have HZ:=hid hz;clear hz;go_enter func242,ntmps242
   go_wp2_with fail;refine HO.out.mono ?_;rintro e w1⟨rfl,hb1⟩;have x1:w1.cell? (ZA w.heap.size 1)=some (ZI a):=aY;have x2:w1.cell? (ZA w.heap.size 2)=some (.slice la ln lc):=aY;have hx:=ZQ x1
   simp only at hx;have B1:=hid (hb0.trans (hb1.mono av));have B2:=hid (B1.out.alloc fL (gH rc wd 8 pp ps pl));clear hb1;go_wp2_with fail;go_ret;exact⟨by rw[HV.out,if_pos HZ.out]; rfl,B2.out⟩
  have hz':((ln:Int) != 0)=true:=aA;go_enter func242,ntmps242
  go_wp2_with fail;refine HO.out.mono ?_;rintro e w1⟨rfl,hb1⟩;have x1:w1.cell? (ZA w.heap.size 1)=some (ZI a):=aY;have x2:w1.cell? (ZA w.heap.size 2)=some (.slice la ln lc):=aY;have hx:=ZQ x1
  simp only at hx;have B1:=hid (hb0.trans (hb1.mono av));have B2:=hid (B1.out.alloc fL (gH rc wd 8 pp ps pl));clear hb1;go_wp2_with fail;go_ret;exact⟨by rw[HV.out,if_neg hz]; rfl,B2.out⟩
 ):P:=h
theorem NH(h:P:=by
  by_cases k1:(p'.toList==p.toList)=true
  ·have k2:(r'.toList==s.toList)=false:=by rw[k1]at hne; simpa using hne
   clear hne
   go_region_held3 (fun W=>W.cell? (ZA wr.heap.size 0)=some (.string p')/\W.cell? (ZA wr.heap.size 1)=some (.string r')/\W.cell? (ZA B 0)=some (.string p)/\W.cell? (ZA C 0)=some (ZI xr))
    (first | assumption | exact⟨z0,z1,z2,z3⟩)
    (first
     | (go_at_call 84; refine(dG rfl).mono ?_; rintro e w' ⟨rfl,rfl⟩))
   go_wp2_with fail
   go_roundw
   ·exact Hd
   simp[intOf]; omega
  have k1':(p'.toList==p.toList)=false:=by simpa using k1
  clear hne k1
  go_region_held3 (fun W=>W.cell? (ZA wr.heap.size 0)=some (.string p')/\W.cell? (ZA wr.heap.size 1)=some (.string r')/\W.cell? (ZA B 0)=some (.string p)/\W.cell? (ZA C 0)=some (ZI xr))
   (first | assumption | exact⟨z0,z1,z2,z3⟩)
   (first
    | (go_at_call 84; refine(dG rfl).mono ?_; rintro e w' ⟨rfl,rfl⟩))
  go_wp2_with fail
  go_roundw
  ·exact Hd
  simp[intOf]; omega
 ):P:=h
theorem OC(h:P:=by
  go_wp2_with fail
  go_loopw [5] (fun p wr=>∃t:Nat,t<=n/\p=ZI t/\Hid (Zx w wr)) (fun p _=>n-(intOf p).toNat)
  case atStart=>exact⟨0,ae,rfl,hid (ZT _ _)⟩
  case round =>
   obtain⟨t,ht,rfl,HB⟩:=hrel
   by_cases hlt:t<n
   ·have hlt':(t:Int)<(n:Int):=ae;obtain⟨x,hx⟩:=ZB l t ae;obtain⟨b1,o1,rfl,dk⟩:=H1.out.2.resolve_left ae;obtain⟨b2,o2,rfl,X2⟩:=H2.out.2.resolve_left ae;obtain⟨e10,e11⟩:=dk t x hx;have e10:=ai HB.out e10;have e11:=ai HB.out e11;obtain⟨e20,e21⟩:=X2 t x hx;have e20:=ai HB.out e20;have e21:=ai HB.out e21;clear dk X2 hx
    have pw:=hid (fun(n:Nat)=>(show Zx w (wr.drewN n) from dY HB.out (Kept.drewN (fun _=>False) _ n) HB.out.size (fun _ x=>x.elim)));obtain⟨x0,x1⟩:=x;exact yV
   have hlt':¬(t:Int)<(n:Int):=ae;go_wp2_with fail;go_ret;exact⟨rfl,HB.out⟩
 ):P:=h
theorem Qz(h:P:=by
  go_wp2_with fail
  go_loopw [5] (fun p wr=>∃t:Nat,t<=n/\p=ZI t/\Hid (Zx w wr)) (fun p _=>n-(intOf p).toNat)
  case atStart=>exact⟨0,ae,rfl,hid (ZT _ _)⟩
  case round =>
   obtain⟨t,ht,rfl,HB⟩:=hrel
   by_cases hlt:t<n
   ·have hlt':(t:Int)<(n:Int):=ae;obtain⟨x,hx⟩:=ZB l t ae;obtain⟨b1,o1,rfl,dk⟩:=H1.out.2.resolve_left ae;obtain⟨b2,o2,rfl,X2⟩:=H2.out.2.resolve_left ae;have e10:=dk t x hx;have e10:=ai HB.out e10;have e20:=X2 t x hx;have e20:=ai HB.out e20;clear dk X2 hx
    have pw:=hid (fun(n:Nat)=>(show Zx w (wr.drewN n) from dY HB.out (Kept.drewN (fun _=>False) _ n) HB.out.size (fun _ x=>x.elim)));have hxx:(x != x)=false:=av;exact yV
   have hlt':¬(t:Int)<(n:Int):=ae;go_wp2_with fail;go_ret;exact⟨rfl,HB.out⟩
 ):P:=h
theorem NE(h:P:=by
  replace hSw:=And.intro (Kx.out _ B6.out) (IN.out _ B6.out);clear LE Ft;refine hK.out _ _ hSw (fun _=>?_)
  clear hK K;refine Zt 10 ?_ (hS:=aJ);refine ZR 12 fun K hK=>?_;have cX0:=iz0 Is.out;have cX1:=iz1 Is.out;have fX0:=free_at (i:=0) Is.out;have fX1:=free_at (i:=1) Is.out;go_simp;have HST:=hid (fun u v=>sG B6.out Is.out d' u v);clear hSw;refine hK.out _ _ ⟨Kx.out _ (HST.out _ _).1,IN.out _ (HST.out _ _).1⟩ (fun hSw=>?_);clear hK K;refine Z4 ak ?_ _;go_wp2_with fail
  go_meet
  exact⟨X,rfl,hid ⟨(HST.out _ _).1,_,(HST.out _ _).2.1,kQ O5.out (HST.out _ _).2.2 Is.out au⟩⟩
 ):P:=h
theorem LV(h:P:=by
  replace hSw:=And.intro (Kx.out _ B6.out) (IN.out _ B6.out);clear LE;refine hK.out _ _ hSw (fun _=>?_)
  clear hK K;refine Zt 9 ?_ (hS:=aJ);refine ZR 11 fun K hK=>?_;have cX0:=iz0 Is.out;have cX1:=iz1 Is.out;have fX0:=free_at (i:=0) Is.out;have fX1:=free_at (i:=1) Is.out;go_simp;have HST:=hid (fun u v=>sG B6.out Is.out d' u v);clear hSw;refine hK.out _ _ ⟨Kx.out _ (HST.out _ _).1,IN.out _ (HST.out _ _).1⟩ (fun hSw=>?_);clear hK K;refine Z4 ak ?_ _;go_wp2_with fail
  go_meet
  exact⟨X,rfl,hid ⟨(HST.out _ _).1,(HST.out _ _).2.1⟩⟩
 ):P:=h
theorem CC(h:P:=by
  rcases hst with ⟨rfl,rfl⟩ | ⟨fr,rfl,rfl,hfk,hk2⟩
  ·as_aux_lemma =>
    go_wp2_with fail;exact⟨⟨xs,none,k+1,bu,ae,.inl ⟨rfl,rfl⟩,HS,HB,hid (by rw[<- LW qe HE.out]; exact HQ.out)⟩,bD⟩
  as_aux_lemma =>
   have vf:(0:Int)<=(fr:Int):=ae;have hfk1:(fr:Int)<=(k:Int):=ae
   go_wp2_with (at_builtin; (refine Rz _ rfl (.tmp 40) (.tmp 45) rfl w.heap.size _ xs (s.extract fr k) wr.heap.size rfl (HS.out.alloc _) rfl av zG qu ?_; intro v5 w5 As AI; have HS5:=hid As; have de:=hid ((HB.out.alloc HB.out.size _).trans AI); clear As AI))
   exact⟨⟨xs++[s.extract fr k],none,k+1,bu,ae,.inl ⟨rfl,rfl⟩,HS5,de,hid (by have h1:=HQ.out; rw[JB qe HE.out]at h1; rw[yP,Z2]; exact h1)⟩,bD⟩
 ):P:=h
theorem LH(h:P:=by
  have hu0:(0:Int)<u:=ae
  have hseg:Seg (wr.alloc (eK (48+(u:Int)%10))) (some (ZA wr.heap.size 0)) 1 1 [48+(u:Int)%10]:=by
   refine⟨rfl,ae,ae,fun z hz=>?_,.inr ⟨wr.heap.size,0,rfl,fun j hj=>?_⟩⟩
   ·simp at hz; omega
   obtain rfl:j=0:=ae;simp[go_sem]
  have hs1:(strOfNums [48+(u:Int)%10]).size=1:=rfl
  have hsx:x.size<=100:=by
   exact GU
  have hcv:=Hr _ _ _ _ _ hseg;have sq:=hB.alloc (o:=.cells #[ZU (48+(u:Int)%10)] 5) hB.size
  have hst:rU (u / 10)++(strOfNums [48+(u:Int)%10]++x).data.toList=L:=by
   rw[<- hx,Jv u ae,Z2]
   congr 1
  go_wp2_with fail;refine⟨⟨u / 10,_,av,rfl,ae,sq,hst⟩,?_⟩
  simp[intOf];omega
 ):P:=h
theorem OY(h:P:=by
  intro i j y z k hi hj hij hk
  have hnx:fcb x=none:=by unfold fcb; rw[hx.1]; rfl
  rcases Zae j m.fns.length with hjl | hjl
  ·have hj':m.fns[j]? =some z:=by rw[<- hj]; exact(Zaa hjl).symm
   rcases Zae i m.fns.length with hil | hil
   ·have hi':m.fns[i]? =some y:=by rw[<- hi]; exact(Zaa hil).symm
    exact h.fd i j y z k hi' hj' hij hk
   have hi':[x][i-m.fns.length]? =some y:=by rw[<- hi]; exact(Zag hil).symm
   have:=ZO hi';rw[List.mem_singleton]at this;subst this;rw[hnx]at hk; cases hk
  have hj':[x][j-m.fns.length]? =some z:=by rw[<- hj]; exact(Zag hjl).symm
  have:=ZO hj';rw[List.mem_singleton]at this;subst this;rw[hnx]; simp
 ):P:=h
theorem Lj(h:P:=by
  generalize bQ ws.tail=jw at *;clear h hw hE hps h1 q1 d1 k1 e1 e ej hlen hj
  have hne:(rdE jw==0)=false:=by simpa using h3
  clear h3;go_enter func109,ntmps109
  go_wp2_with fail;refine ZE HO.out ?_;go_wp2_with fail;refine HJ.out.mono ?_;rintro e w2⟨rfl,hb2⟩;have B2:=hid hb2;clear hb2;go_wp2_with fail;refine(HS.out _ B2.out).mono ?_;rintro e w3⟨rfl,hb3⟩;have B3:=Zy B2 hb3;clear hb3;go_wp2_with fail;have B4:=Zy B3 (aj w3 (aW (rdP jw) (rdR jw)));have HM:=hid (iL (Ln.out.later B4.out));clear HS HJ HO;refine ZE HM.out ?_;exact⟨rfl,GT.out.trans (KR.later B4.out),rfl⟩
 ):P:=h
theorem xd(h:P:=by
  rw[HIK.out]at PX;have z6:=hid (HZC.out _ BN.out _ BE);clear Ft BE US;refine hK.out _ _ trivial (fun _=>?_)
  clear hK K;refine Zt 8 ?_;refine Zt 9 ?_;refine ZR 10 fun K hK=>?_;have c16:w6.cell? (ZA fb (k*3+2))=some (.slice ca cn cc):=z6.out.1;have f16:w6.frozen? (ZA fb (k*3+2))=false:=z6.out.2;go_simp;refine Zv hK ?_;clear hK K;refine Z4 ak ?_ _;go_end0;exact⟨(GT.out.trans (KR.later BX.out)).trans PX.out.2,rfl,_,PX.out.1,qC⟩
 ):P:=h
theorem Nn(h:P:=by
  have z6:=hid (bF ((Q1.out.later BN.out).blk) (Q1.out).low ((Q1.out.later BN.out).rg) BE);clear Ft BE;refine hK.out _ _ trivial (fun _=>?_)
  clear hK K;refine Zt 9 ?_;refine Zt 10 ?_;refine Zt 11 ?_;refine ZR 12 fun K hK=>?_;have c16:=iz3 z6.out;have f16:=free_at (i:=3) z6.out;go_simp;refine Zv hK ?_;clear hK K;refine Z4 ak ?_ _;go_end0;exact⟨(GT.out.trans KX.out).trans PX.out.2,rfl,_,PX.out.1,gN⟩
 ):P:=h
theorem Dx(h:P:=by
  rcases Nat.eq_or_lt_of_le (show 1<=c by omega) with h1 | h1
  ·subst h1;go_wp2_with fail;refine(qay.out _ _ ae).mono ?_
   rintro e w2⟨hb2,⟨nw,rfl⟩ | ⟨ns,v,nw,rfl,hS⟩⟩
   all_goals
    obtain⟨P2,C'⟩:=Zz hb2 nw;clear hb2 nw;go_wp2_with fail
    go_meet
   ·exact⟨P2,.inl ⟨C'.out,rfl⟩⟩
   exact⟨P2,.inr ⟨_,C'.out,rfl,hS⟩⟩
  have hc1:¬c=1:=ae;go_wp2_with fail;refine(qax.out _).mono ?_;rintro e w2⟨hb2,⟨nw,rfl⟩ | ⟨ns,v,nw,rfl,hS⟩⟩
  all_goals
   obtain⟨P2,C'⟩:=Zz hb2 nw;clear hb2 nw;go_wp2_with fail
   go_meet
  ·exact⟨P2,.inl ⟨C'.out,rfl⟩⟩
  exact⟨P2,.inr ⟨_,C'.out,rfl,hS⟩⟩
 ):P:=h
theorem LO(h:P:=by
  intro x hx
  rcases List.mem_append.1 hx with hx | hx
  ·obtain⟨i,hi⟩:=List.mem_iff_getElem?.1 hx
   have hxm:x∈m.fns:=by rw[hf]; exact List.mem_append_left _ hx
   exact⟨far (qat i x hi) au,fun z hz=>far (aU ((hq.fo x hxm).lab z hz) hu hg au) au⟩
  rw[List.mem_singleton]at hx;subst hx;refine⟨far (by dsimp only; rw[List.flatMap_append,List.flatMap_singleton]; exact ho) au,fun z hz=>?_⟩
  rcases List.mem_append.1 hz with hz | hz
  ·exact far (aU ((hq.fo _ hlm).lab z hz) hu hg au) au
  rw[List.mem_singleton]at hz;subst hz;exact far (aU (bJ hy hW) hu hg au) au
 ):P:=h
theorem Mv(h:P:=by
  obtain⟨d1,_⟩:=hk3 _ av _ c1;obtain⟨d2,e2⟩:=hk3 _ av _ c2;obtain⟨d3,_⟩:=hk3 _ av _ c3;rw[f2]at e2;have k5:(k:Int)+1<=s.size:=ae
  gi_wp2_with fail
  go_roundw
  case rel =>
   refine⟨s.extract (k+1) s.size,?_,?_,?_,?_,hJ _ _ _ hJ3,?_⟩
   ·rw[World.cell?_setCell_other _ _ _ _ av]; exact d1
   ·exact World.cell?_setCell_same' _ _ _ (by rw[d2]; rfl)
   ·rw[World.frozen?_setCell]; exact e2
   ·rw[World.cell?_setCell_other _ _ _ _ av]; exact d3
   simp; omega
  case measure =>
   rw[show uG w' ⟨b2,0,none⟩=s by simp[uG,c2]];rw[uG,World.cell?_setCell_same' _ _ _ (by rw[d2]; rfl)];simp;omega
 ):P:=h
theorem LS(h:P:=by
  go_wp2_with fail;refine(eF R _ _ _ w c0).mono ?_;rintro e w1⟨rfl,rfl⟩;go_wp2_with fail;refine fm.mono ?_;rintro e w2⟨rfl,b2⟩;have B2:=hid b2;clear b2 fm hK c0;go_wp2_with fail;refine(HU.out _).mono ?_;rintro e w3⟨B,rfl,s3,b3⟩;have B3:=Zy B2 b3;have S3:=hid s3;clear s3 b3 HU;go_wp2_with fail;refine(zq R g cap bs _ _ _ _ w3 (HW.out.later B3.out) S3.out ae ae).mono ?_;rintro e w4⟨rfl,g',cap',hw4,hs4⟩;have W4:=hid hw4;have S4:=hid ((Stp.of_below B3.out).trans hs4);clear hw4 hs4;go_wp2_with fail;go_ret;exact⟨rfl,g',cap',W4.out,S4.out⟩
 ):P:=h
theorem ux(h:P:=by
  go_end0
  refine⟨rfl,B,cap,R1.out.keep (heap_setCell_other _ _ _ _ D3.out),World.cell?_setCell_same _ _ _ d1,(World.frozen?_setCell _ _ _ _).trans d2,D3.out,D4.out,fun j hj=>?_,?_,fun j=>?_⟩
  ·rw[World.cell?_setCell_other _ _ _ _ (fun h=>hj (congrArg Addr.off h).symm)]
   exact D5.out j
  ·have hk:=D6.out
   exact⟨hk.os,hk.tape,hk.output,xw,fun k h1 h2=>(heap_setCell_other _ _ _ _ (fun e=>h2 (.inl e))).trans (hk.block k h1 (fun e=>h2 (.inr e)))⟩
  rw[World.frozen?_setCell];exact aS (D6.out.block GB (ZQ HC.out) (fun e=>ZD.out e)) j
 ):P:=h
theorem MJ(h:P:=by
  have HV:=hid (HF.out (.inl ha1));go_enter func242,ntmps242
  go_wp2_with fail;refine HO.out.mono ?_;rintro e w1⟨rfl,hb1⟩;have x1:w1.cell? (ZA w.heap.size 1)=some (ZI a):=aY;have x2:w1.cell? (ZA w.heap.size 2)=some (.slice la ln lc):=aY;have hx:=ZQ x1
  simp only at hx;have B1:=hid (hb0.trans (hb1.mono av));have B2:=hid (B1.out.alloc fL (gH rc wd 8 pp ps pl));clear hb1;go_wp2_with fail;go_ret;exact⟨dS,B2.out⟩
 ):P:=h
theorem PV(h:P:=by
  have HV:=hid (HF.out (.inr ha2));go_enter func242,ntmps242
  go_wp2_with fail;refine HO.out.mono ?_;rintro e w1⟨rfl,hb1⟩;have x1:w1.cell? (ZA w.heap.size 1)=some (ZI a):=aY;have x2:w1.cell? (ZA w.heap.size 2)=some (.slice la ln lc):=aY;have hx:=ZQ x1
  simp only at hx;have B1:=hid (hb0.trans (hb1.mono av));have B2:=hid (B1.out.alloc fL (gH rc wd 8 pp ps pl));clear hb1;go_wp2_with fail;go_ret;exact⟨dS,B2.out⟩
 ):P:=h
theorem NG(h:P:=by
  go_enter func242,ntmps242
  go_wp2_with fail;refine HO.out.mono ?_;rintro e w1⟨rfl,hb1⟩;have x1:w1.cell? (ZA w.heap.size 1)=some (ZI 0):=aY;have x2:w1.cell? (ZA w.heap.size 2)=some (.slice la ln lc):=aY;have hx:=ZQ x1
  simp only at hx;have B1:=hid (hb0.trans (hb1.mono av));have B2:=hid (B1.out.alloc fL (gH rc wd 3 pp ps pl));clear hb1;go_wp2_with fail;go_ret;exact⟨by rw[HV2.out]; rfl,B2.out⟩
 ):P:=h
theorem OH(h:P:=by
  go_enter func242,ntmps242
  go_wp2_with fail;refine HO.out.mono ?_;rintro e w1⟨rfl,hb1⟩;have x1:w1.cell? (ZA w.heap.size 1)=some (ZI a):=aY;have x2:w1.cell? (ZA w.heap.size 2)=some (.slice la ln lc):=aY;have hx:=ZQ x1
  simp only at hx;have B1:=hid (hb0.trans (hb1.mono av));have B2:=hid (B1.out.alloc fL (gH rc wd 0 pp ps pl));clear hb1;go_wp2_with fail;go_ret;exact⟨dS,B2.out⟩
 ):P:=h
theorem N9(h:P:=by
  go_enter func242,ntmps242
  go_wp2_with fail;refine HO.out.mono ?_;rintro e w1⟨rfl,hb1⟩;have x1:w1.cell? (ZA w.heap.size 1)=some (ZI a):=aY;have x2:w1.cell? (ZA w.heap.size 2)=some (.slice la ln lc):=aY;have hx:=ZQ x1
  simp only at hx;have B1:=hid (hb0.trans (hb1.mono av));have B2:=hid (B1.out.alloc fL (gH rc wd 9 pp ps pl));clear hb1;go_wp2_with fail;go_ret;exact⟨dS,B2.out⟩
 ):P:=h
theorem Nt(h:P:=by
  go_enter func242,ntmps242
  go_wp2_with fail;refine HO.out.mono ?_;rintro e w1⟨rfl,hb1⟩;have x1:w1.cell? (ZA w.heap.size 1)=some (ZI a):=aY;have x2:w1.cell? (ZA w.heap.size 2)=some (.slice la ln lc):=aY;have hx:=ZQ x1
  simp only at hx;have B1:=hid (hb0.trans (hb1.mono av));have B2:=hid (B1.out.alloc fL (gH rc wd t pp ps pl));clear hb1;go_wp2_with fail;go_ret;exact⟨dS,B2.out⟩
 ):P:=h
theorem Mx(h:P:=by
  go_enter func242,ntmps242
  go_wp2_with fail;refine HO.out.mono ?_;rintro e w1⟨rfl,hb1⟩;have x1:w1.cell? (ZA w.heap.size 1)=some (ZI a):=aY;have x2:w1.cell? (ZA w.heap.size 2)=some (.slice la ln lc):=aY;have hx:=ZQ x1
  simp only at hx;have B1:=hid (hb0.trans (hb1.mono av));have B2:=hid (B1.out.alloc fL (gH rc wd 3 pp ps pl));clear hb1;go_wp2_with fail;go_ret;exact⟨dS,B2.out⟩
 ):P:=h
theorem Px(h:P:=by
  go_simp;refine Zv hK ?_;clear hK K;refine ZR 6 fun K hK=>?_;go_simp;refine(Xs.out _ B1.out).mono ?_;rintro e w5⟨rfl,AI⟩;have B5:=Zy B1 AI;clear AI;refine Zv hK ?_;clear hK K;refine ZR 11 fun K hK=>?_;go_simp;refine(tr.out _ B5.out).mono ?_;rintro e w6⟨rfl,LE⟩;exact⟨rfl,GT.out.trans (KR.later (B5.out.trans (LE.mono B5.out.size))),rfl⟩
 ):P:=h
theorem LD(h:P:=by
  cases st with
  | none=>exact⟨h.1,ZW h.2 (Nat.min_le_right _ _)⟩
  | some a =>
   have ha:=hs a rfl;refine⟨fun x hx=>?_,?_⟩
   ·simp only[Lib.closeSpans,List.mem_append,List.mem_singleton]at hx
    rcases hx with hx | rfl
    ·exact h.1 x hx
    exact⟨ha.2,Nat.le_refl _⟩
   have:=h.2;simp only[Lib.closeSpans,List.map_append,List.sum_append,List.map_cons,List.map_nil,List.sum_cons,List.sum_nil,Option.getD_some]at this ⊢;omega
 ):P:=h
theorem Lt(h:P:=by
  obtain⟨init,x,hx⟩:∃init x,m.fns=init++[x]:=⟨m.fns.dropLast,m.fns.getLast hne,(List.dropLast_concat_getLast hne).symm⟩;obtain⟨t,lo,⟨ca,cn,cc⟩,code⟩:=x;have hl:=cE (g:=dA) (fun _=>rfl) au h.rf
  have hn:m.fn=init.length+1:=by rw[<- hl,hx]; simp
  rcases h.rf.2 with ⟨h0,hz⟩ | ⟨g,cp,cur,h1,_⟩
  ·omega
  injection h1 with e1 e2 e3;exact⟨init,t,lo,ca,cn,cc,code,g,hx,e1,hn⟩
 ):P:=h
theorem Le(h:P:=by
  rcases hAk with rfl | hpos
  ·have h45:¬s[0].toNat=45:=fun h=>hA ⟨rfl,h⟩
   clear hA hdr hno hD;go_wp2_with fail;go_ret2;exact⟨HB.out,0,false,rfl,(fun h=>nomatch h),fun v hv=>by rw[HNO.out]at hv; cases hv⟩
  have hk1:((k:Int)==0)=false:=aA;clear hA hdr hno hD;go_wp2_with fail;go_ret2;exact⟨HB.out,0,false,rfl,(fun h=>nomatch h),fun v hv=>by rw[HNO.out]at hv; cases hv⟩
 ):P:=h
theorem PT(h:P:=by
  refine grow (some (ZA g 0)) cap rfl (fun hb=>by cases hb) (fun b hb j y hy=>?_) ae;simp at hb;subst hb
  have hj:j<xs.length:=by
   exact Hc
  have hl:=hown.1;have hplain:((ZA g 0):Addr).add j=(ZA g j):=iI;rw[hplain,World.ownsRow.cellAt hown j ae];exact hy
 ):P:=h
theorem P6(h:P:=by
  induction r with
  | nil=>rfl
  | cons x r ih =>
   have:Lib.joinTail [32] ((x::r).map (·.data.toList))=([32]++x.data.toList)++Lib.joinTail [32] (r.map (·.data.toList)):=rfl;rw[this,ZV,ih,ZV,List.map_cons,List.sum_cons,Z1];have e:x.data.toList.length=x.size:=Zab;rw[e];simp only[Z1,List.length_nil];omega
 ):P:=h
theorem L9(h:P:=by
  refine⟨h.kept.then hk (fun _ _ x=>x.elim),fun j hj hN=>(h.own j hj hN).kept hk (fun x=>x),bZ h.ownOne fun B hB=>hk.block B (dU h.ownOne hB).1 (fun x=>x),h.ones.map fun j B c _ t=>t.kept hk (fun x=>x),
   bZ h.ownMore fun B hB=>hk.block B (dU h.ownMore hB).1 (fun x=>x),h.mores.map fun j B c _ t=>t.kept hk (fun x=>x),h.newOne,h.newMore,h.apart⟩
 ):P:=h
theorem Qg(h:P:=by
  intro y hy
  rcases List.mem_append.1 hy with hy | hy
  ·exact⟨bA (aU (hq.fo y hy).code hu hg au) hR,fun z hz=>bA (aU ((hq.fo y hy).lab z hz) hu hg au) hR⟩
  rw[List.mem_singleton]at hy;subst hy;obtain⟨h1,h2⟩:=hx;refine⟨?_,fun z hz=>by rw[h2]at hz; cases hz⟩;rw[h1,h2];exact Z7 _ _ _ _
 ):P:=h
theorem O8(h:P:=by
  go_wp2_with fail;refine i4 (v:=.agg #[ZU c,ZI a,.slice la ln lc]) ?_ rfl ⟨rfl,g',cap',?_,?_⟩
  ·rw[og rfl];go_simp
  ·exact((W5.out.set (b:=w.heap.size+1) ae n1).set (b:=w.heap.size+1) ae n1).set (b:=w.heap.size+1) ae n1
  exact((S5.out.set ae).set ae).set ae
 ):P:=h
theorem LB(h:P:=by
  have hil:=aF hi;have hi':m.fns[i]? =some x:=zB;refine(hq.fo x (ZO hi')).code.kept hg ?_
  rcases hv:(Value.slice x.2.2.1.1 x.2.2.1.2.1 x.2.2.1.2.2).ownBlock with _ | b
  ·exact .inl rfl
  refine .inr fun hx=>?_;exact h.fd i init.length x _ b hi' hlast ae hv hx.symm
 ):P:=h
theorem Qt(h:P:=by
  have g1:=World.grownBy_alloc w (.deferred (some [])) none;have g2:=World.grownBy_alloc (w.alloc (.deferred (some []))) (.loop (record .ready none)) none;have e1:=cell_kept hv g1 (fun r e=>eO);exact⟨cell_kept e1 g2 (fun r e=>eO),(frozen_kept e1 g2 (fun r e=>eO)).trans (frozen_kept hv g1 (fun r e=>eO))⟩
 ):P:=h
theorem Mg(h:P:=by
  clear hT hend hV hV2 hn HG;go_wp2_with fail;refine(HD.out wr).mono ?_;rintro e w1⟨rfl,hb⟩;have SO:=Zy HB hb;clear hb HD;go_wp2_with fail;go_ret2;refine⟨SO.out,V,_,rfl,fun h=>?_,fun v hv=>?_⟩
  ·rw[<- HE.out]at h ⊢;exact AA HL.out h
  rw[<- HE.out];exact vY HL.out hv
 ):P:=h
theorem My(h:P:=by
  have S3:=hid s3;clear s3 b3 HU;go_wp2_with fail;refine(zq R g cap bs _ _ _ _ w3 (HW.out.later B3.out) S3.out ae ae).mono ?_;rintro e w4⟨rfl,g',cap',hw4,hs4⟩;have W4:=hid hw4;have S4:=hid ((Stp.of_below B3.out).trans hs4);clear hw4 hs4;go_wp2_with fail;go_ret;exact⟨rfl,g',cap',W4.out,S4.out⟩
 ):P:=h
theorem mQ(h:P:=by
  have hkb:((k:Int)==(L n:Int))=false:=aA;have hIO:n1=n+1:=kY;subst hIO;clear hke;go_wp2_with fail;refine⟨⟨k+1,n+1,f',_,ae,ae,bu,.inr ⟨B,cap',rfl,T2.out,G2.out⟩,.inr ⟨kY,rfl⟩,S2.out⟩,bD⟩
 ):P:=h
theorem Dd(h:P:=by
  obtain⟨hz,h1,h2,h3,ha⟩:=h;refine⟨hz,h1,h2,h3,?_⟩
  rcases ha with ha | ⟨b,off,e,hc⟩
  ·exact .inl ha
  refine .inr ⟨b,off,e,fun j hj=>?_⟩;have:=hc j hj;have hlt:b<w.heap.size:=ZQ this;exact(hb.cell (p:=(ZA b (off+j))) (by exact Z8 hlt hB)).trans this
 ):P:=h
theorem OE(h:P:=by
  have h1:=(qad.stored (init.length*3+2) (ZL g (cn+1) cap)).1;rw[hf]at h1;rw[LX init t lo (ca,cn,cc) (some (ZA g 0),cn+1,cap) code (code++[y])]at h1;show(World.setCell _ _ _).ownsRow base 78 3 (.slice m.fa m.fn m.fc) m.fn _;rw[vb];exact h1
 ):P:=h
theorem PQ(h:P:=by
  go_wp2
  (try simp only[Exit.inBlock,Exit.then])
  refine i4 (v:=.tuple #[.agg #[.string ⟨#[]⟩,.string ⟨#[]⟩],ZI 15]) ?_ rfl ⟨by rw[HR.out.1,HR.out.2.1,HR.out.2.2],?_⟩
  ·exact r9
  exact(HB.out.setCell av _).setCell av _
 ):P:=h
theorem PO(h:P:=by
  clear ht h h1 he hv;go_enter func171,ntmps171
  go_wp2_with fail;refine HP.out.mono ?_;rintro e w1⟨N,rfl,_,_,hb1⟩;have B1:=hid hb1;clear hb1;go_wp2_with fail;refine(HM.out _ B1.out).mono ?_;rintro e w3⟨rfl,hw⟩;have hw2:=hw.symm;subst hw2;exact⟨rfl,rfl,B1.out⟩
 ):P:=h
theorem MS(h:P:=by
  go_simp;refine Zv hK ?_;clear hK K;refine ZR 10 fun K hK=>?_;go_simp;refine(HI.out _ B1.out).mono ?_;rintro e w5⟨rfl,AI⟩;exact⟨rfl,HK1.out.trans (KR.later (B1.out.trans (AI.mono B1.out.size))),rfl⟩
 ):P:=h
theorem Oo(h:P:=by
  go_simp;refine Zv hK ?_;clear hK K;refine ZR 6 fun K hK=>?_;go_simp;refine(Xs.out _ B1.out).mono ?_;rintro e w5⟨rfl,AI⟩;exact⟨rfl,GT.out.trans (KR.later (B1.out.trans (AI.mono B1.out.size))),rfl⟩
 ):P:=h
theorem Ed(h:P:=by
  go_wp2
  (try simp only[Exit.inBlock,Exit.then])
  refine i4 (v:=.tuple #[.agg #[.string ⟨#[]⟩,.string ⟨#[]⟩],ZI 15]) ?_ rfl ⟨by simp[rdP,rdR,rdE,hz],?_⟩
  ·exact r9
  exact(HB.out.setCell av _).setCell av _
 ):P:=h
theorem yJ(h:P:=by
  have hm:((ft,wi,(ca,cn,cc),code):FuM)∈m.fns:=by rw[gC]; simp
  have e1:=cE (g:=eD) (fun _=>rfl) au (q1.fo _ hm).code;have e2:code.length<=psz (pl m):=GR;dsimp only at e1;omega
 ):P:=h
theorem La(h:P:=by
  exact⟨⟨t+1,ae,bu,hid (by rw[HFS.out,<- Z2,HR.out]; rw[HEN.out]; simpa only[Z2,List.cons_append,List.nil_append,if_true,if_false,Bool.false_eq_true,reduceIte] using BY.out),HB⟩,bD⟩
 ):P:=h
theorem mq(h:P:=by
  refine⟨L n,n,f,GO,ae,ae,rfl,?_,.inl ⟨rfl,rfl⟩,HST.out⟩
  rcases HSN.out n FG with ⟨V0,dp⟩ | ⟨dp,h0,h1⟩
  ·exact .inr ⟨G n,C n,by rw[dp],HST.out.own n FG V0,.inl ⟨V0,rfl⟩⟩
  exact .inl ⟨by rw[dp,h0,h1],h0⟩
 ):P:=h
theorem D9(h:P:=by
  have cz:=HWz.out w1 (ZT _ _);have pa:=hid (aO R w1)
  cases M
  all_goals
   (try have yy:=KZ2.out rfl)
   go_wp2_with fail;refine ZE pa.out ?_;go_wp2_with fail
   go_meet
   rfl
 ):P:=h
theorem LU(h:P:=by
  have HV:=hid (qav.out h13)
  have d3:decide (m.fi*4096-pl<(bl.length:Int))=true:=by simpa using h13
  go_wp2_with fail
  go_quiet (fail)
  go_wp2_with fail;go_ret;exact⟨dS,FS.out.trans ((pw.out _).mono FS.out.size)⟩
 ):P:=h
theorem Oj(h:P:=by
  have HV:=hid (qau.out h13 h17)
  have d4:((bl.length:Int)==0)=true:=by simp[h17]
  clear h17;go_wp2_with fail
  go_quiet (fail)
  go_wp2_with fail;go_ret;exact⟨dS,FS.out.trans ((pw.out _).mono FS.out.size)⟩
 ):P:=h
theorem N3(h:P:=by
  go_wp2_with fail;refine(HNM.out _).mono ?_;rintro e w1⟨rfl,hw⟩;have hw2:=hw.symm;subst hw2;go_wp2_with fail
  go_quiet (fail)
  go_wp2_with fail;go_ret;exact⟨dS,FS.out.trans ((pw.out _).mono FS.out.size)⟩
 ):P:=h
theorem oY(h:P:=by
  go_wp2_with fail;refine ZE HO.out ?_;go_wp2_with fail;refine ZE HM.out ?_;exact⟨rfl,KR.set base R 10 w _,rfl⟩
 ):P:=h
theorem NP(h:P:=by
  go_enter func314,ntmps314
  go_wp2;refine i4 (v:=.agg #[ZI 0,ZI 0]) yA rfl ⟨rfl,?_⟩;exact((ZT _ _).alloc lRn _).alloc av _
 ):P:=h
theorem OQ(h:P:=by
  refine rdY (rs:=[7]) ?_;refine AllReadyH.cons rfl (fun K hK=>?_) rN;go_simp;refine(A'.out _ hB5.out).mono ?_;rintro e w6⟨⟨q,rfl⟩,hk6⟩;exact⟨rfl,⟨q,rfl⟩,(S4'.out.trans (Stp.of_below hB5.out)).throw hk6⟩
 ):P:=h
theorem MU(h:P:=by
  go_wp2_with fail;refine HN.out.mono ?_;rintro e w1⟨rfl,g',cap',hw1,hs1⟩;have W1:=hid hw1;have S1:=hid ((Stp.of_below B1.out).trans hs1);clear hw1 hs1 hm hc;go_wp2_with fail;go_ret;exact⟨rfl,g',cap',W1.out,S1.out⟩
 ):P:=h
theorem Ot(h:P:=by
  intro y hy
  rcases List.mem_append.1 hy with hy | hy
  ·exact bA (aU (hq.dd y hy) hu hg au) hR
  rw[List.mem_singleton]at hy;subst hy;exact bA (aU (bJ hx hW) hu hg au) hR
 ):P:=h
theorem Dh(h:P:=by
  intro j u hj
  match j,hj with
  | 0,hj=>simp[dA]at hj; subst hj; simp[Addr.add,go_sem]
  | 1,hj=>simp[dA]at hj; subst hj; simp[Addr.add,go_sem]
  | 2,hj=>simp[dA]at hj; subst hj; simp[Addr.add,go_sem]
 ):P:=h
theorem D8(h:P:=by
  intro j u hj
  match j,hj with
  | 0,hj=>simp[fQ]at hj; subst hj; simp[Addr.add,go_sem]
  | 1,hj=>simp[fQ]at hj; subst hj; simp[Addr.add,go_sem]
  | 2,hj=>simp[fQ]at hj; subst hj; simp[Addr.add,go_sem]
 ):P:=h
theorem xW(h:P:=by
  intro j u hj
  match j,hj with
  | 0,hj=>simp[eD]at hj; subst hj; simp[Addr.add,go_sem]
  | 1,hj=>simp[eD]at hj; subst hj; simp[Addr.add,go_sem]
  | 2,hj=>simp[eD]at hj; subst hj; simp[Addr.add,go_sem]
 ):P:=h
theorem Lg(h:P:=by
  refine⟨h.1,h.2.imp id ?_⟩;rintro⟨b,off,ha,hc⟩;refine⟨b,off,ha,fun j x hj=>?_⟩;have:=hc j x hj;exact⟨hk.cell this.1 (hS _ _ _ ha),hk.cell this.2.1 (hS _ _ _ ha),hk.cell this.2.2 (hS _ _ _ ha)⟩
 ):P:=h
theorem PD(h:P:=by
  have h':(most:Int)<s.size:=ae;go_enter func162,ntmps162
  go_wp2;go_ret
  have hb:false=bY s most:=sS ⟨fun h=>(nomatch h),fun h=>ae⟩;exact⟨by rw[<- hb]; rfl,rfl⟩
 ):P:=h
theorem Qs(h:P:=by
  go_wp2_with fail;go_ret;refine⟨?_,HB.out⟩
  have hf:zs.all (fun b=>decide (33<=b)&&decide (b<=126))=false:=by
   rw[List.all_eq_false];exact⟨b,HMEM.out,aA⟩
  rw[HNM.out,hf];rfl
 ):P:=h
theorem Gz(h:P:=by
  rw[Y']at j7;have HM5:=hid (iL (Ln.out.later B5.out));go_wp2_with fail;refine ZE HM5.out ?_;exact⟨rfl,GT.out.trans (KR.later B5.out),rfl⟩
 ):P:=h
theorem Gk(h:P:=by
  split at h
  ·simp at h; simp[h]
  rename_i q r hq;simp only[List.mem_cons]at h
  rcases h with rfl | h
  ·have:=ih q (by rw[hq]; simp); simp; omega
  have:=ih p (by rw[hq]; simp[h]); simp; omega
 ):P:=h
theorem FD(h:P:=by
  go_wp2_with fail;refine(eF R _ _ _ w c0).mono ?_;rintro e w1⟨rfl,rfl⟩;go_wp2_with fail;refine(vT _ _ _).mono ?_;rintro e w1⟨rfl,rfl⟩;exact⟨rfl,⟨_,rfl⟩,Kept.refl _ _⟩
 ):P:=h
theorem sB(h:P:=by
  have hh:=hall i y xu
  have e:(xs.take k).take i=xs.take i:=by rw[List.take_take]; congr 1; omega
  (try simp only[List.nil_append,e]at hh);exact hh
 ):P:=h
theorem wD(h:P:=by
  go_wp2_with fail;refine(eF R _ _ _ w c0).mono ?_;rintro e w1⟨rfl,rfl⟩;go_wp2_with fail;refine fm.mono ?_;rintro e w2⟨⟨p,rfl⟩,b2⟩;exact⟨rfl,⟨p,rfl⟩,bC b2⟩
 ):P:=h
theorem Hh(h:P:=by
  unfold cj;rw[if_pos ⟨h1,h3⟩]
  have ep:iP (bi (wdx ws 0)).1 ws=some ((bi (wdx ws 0)).1,0,l):=by
   unfold iP;rw[if_neg (by rw[h4]; decide),if_pos h4,h6]; rfl
  rw[ep];rfl
 ):P:=h
theorem Gm(h:P:=by
  clear he;go_enter func240,ntmps240
  go_wp2_with fail;refine HE.out.mono ?_;rintro e w1⟨rfl,hw⟩;have hw2:=hw.symm;subst hw2;go_wp2;go_ret;exact⟨dS,rfl⟩
 ):P:=h
theorem eA(h:P:=by
  go_wp2;refine wp_loop_rounds 1 ?_;rw[rounds_succ];go_wp2;refine wp_loop_rounds 1 ?_;rw[rounds_succ];go_wp2;refine wp_loop_rounds 1 ?_;rw[rounds_succ];go_wp2;go_ret;exact⟨rfl,rfl⟩
 ):P:=h
theorem wT(h:P:=by
  go_wp2_with fail
  go_quiet ((go_at_call 240; exact Calls.quiet_of_same (HL.out _)))
  go_wp2_with fail;go_ret;exact⟨dS,FS.out.trans ((pw.out _).mono FS.out.size)⟩
 ):P:=h
theorem FK(h:P:=by
  go_wp2_with fail
  go_meet
  exact⟨false,_,rfl,HSC,HSB,hid (by rw[HV.out]; simp only[Zac]; rw[xR (.inl rfl),if_pos rfl,if_neg Ad]; rfl)⟩
 ):P:=h
theorem EB(h:P:=by
  refine tkD (i:=10) (d:=some 56) rfl ?_;(try simp only[Act.put,sIB,sC0,sCs]);refine Z4 ak ?_ _;go_wp2_with fail
  go_meet
  exact⟨by rw[HTT.out q HQ6.out],de⟩
 ):P:=h
theorem zW(h:P:=by
  refine⟨h.1,h.2.imp id ?_⟩;rintro⟨b,off,ha,hc⟩;refine⟨b,off,ha,fun j x hj=>?_⟩;have:=hc j x hj;exact⟨hk.cell this.1 (hS _ _ _ ha),hk.cell this.2 (hS _ _ _ ha)⟩
 ):P:=h
theorem FN(h:P:=by
  have em:((wdx ws 2).toList==uU.toList)=M:=by rw[fP]; rcases h3 with ⟨y,rfl⟩ | ⟨y,rfl⟩ <;> rw[y] <;> rfl
  simp only[Zac,eg,em,Option.map_some]
 ):P:=h
theorem IY(h:P:=by
  clear hke
  go_wp2_with (first | (go_at_call 89; refine(gG n k _ RE hk3).mono ?_; rintro e w' ⟨rfl,rfl⟩))
  exact⟨⟨k+1,ae,bu⟩,bD⟩
 ):P:=h
theorem FZ(h:P:=by
  go_enter func193,ntmps193;go_wp2_with fail
  refine(gi (by first | rfl | simp_all)).mono ?_
  rintro e w1⟨rfl,rfl⟩;exact⟨rfl,⟨_,rfl⟩,ZT _ _⟩
 ):P:=h
theorem Ep(h:P:=by
  rcases h.2 with ⟨h,_⟩ | ⟨g,cp,cur,h1,_,h3,h4,h5,h6,h7⟩
  ·cases h
  simp at h1;obtain⟨rfl,rfl⟩:=h1;exact⟨cur,h3,h4,h5,by simpa using h6,by simpa using h7⟩
 ):P:=h
theorem Fb(h:P:=by
  clear x0 x1;have ap:=hid (XQ.out.later hb);clear hb TT;generalize w'=W6 at *;go_wp2_with fail;exact⟨⟨k+1,ae,bu,ap.out.b⟩,bD⟩
 ):P:=h
theorem zf(h:P:=by
  go_wp2_with fail;refine HE.out.mono ?_;rintro e w1⟨rfl,hk⟩;have SO:=Zy HB hk;clear hk;go_wp2_with fail;go_ret;exact⟨rfl,SO.out⟩
 ):P:=h
theorem ke(h:P:=by
  have hk2:=KE.out;refine⟨⟨k+1,n1+1,f',_,ae,ae,bu,.inr ⟨B,cap',rfl,T3.out,G2.out⟩,.inr ⟨ae,rfl⟩,S3.out⟩,bD⟩
 ):P:=h
theorem Ey(h:P:=by
  refine⟨h.1,h.2.1,h.2.2.1,h.2.2.2.1,h.2.2.2.2.imp id ?_⟩;rintro⟨b,off,ha,hc⟩;exact⟨b,off,ha,fun j hj=>hk.cell (hc j hj) (hS _ _ _ (Uz ae ha))⟩
 ):P:=h
theorem Ig(h:P:=by
  obtain⟨li,ei⟩:=List.getElem?_eq_some_iff.1 hp;obtain⟨lj,ej⟩:=List.getElem?_eq_some_iff.1 hq;have h3:=h2 q p lj li hpq;rw[ei,ej]at h3;exact fun e=>h3 k e hk
 ):P:=h
theorem wS(h:P:=by
  have e1:=cE (g:=fQ) (fun _=>rfl) au h.rg;have e2:m.globals.length<=psz (pl m):=qq;omega
 ):P:=h
theorem GQ(h:P:=by
  go_ret2;refine⟨_,rfl,?_,ct B3.out B5.out⟩;have h:=jO O5.out B3.out.size
  rw[HE2.out,show([c]++U).length=1+U.length by simp; omega];exact h
 ):P:=h
theorem Iz(h:P:=by
  go_ret2;refine⟨_,rfl,?_,ct B1.out B5.out⟩;have h:=jO O5.out B1.out.size
  rw[HE2.out,show([c]++U).length=1+U.length by simp; omega];exact h
 ):P:=h
theorem GG(h:P:=by
  have e1:=cE (g:=jV) (fun _=>rfl) au h.re;have e2:m.exps.length<=psz (pl m):=qq;omega
 ):P:=h
theorem EM(h:P:=by
  have e1:=cE (g:=iD) (fun _=>rfl) au h.rd;have e2:m.data.length<=psz (pl m):=qq;omega
 ):P:=h
theorem wJ(h:P:=by
  have e1:=cE (g:=dA) (fun _=>rfl) au h.rf;have e2:m.fns.length<=psz (pl m):=qq;omega
 ):P:=h
theorem xx(h:P:=by
  clear x0 x1 x2;have ap:=hid XQ.out.drew;generalize W5.drew=W6 at *;go_wp2_with fail;exact⟨⟨k+1,ae,bu,ap.out.b⟩,bD⟩
 ):P:=h
theorem j4(h:P:=by
  exact fun y hy=>⟨bA (aU (hq.fo y hy).code hu hg au) hR,fun z hz=>bA (aU ((hq.fo y hy).lab z hz) hu hg au) hR⟩
 ):P:=h
theorem GW(h:P:=by
  go_wp2_with fail;refine(Xs.out _ B5.out).mono ?_;rintro e w7⟨rfl,MY⟩;exact⟨rfl,GT.out.trans (KR.later (B5.out.trans (MY.mono B5.out.size))),rfl⟩
 ):P:=h
theorem I7(h:P:=by
  exact fun r A B row hs hg hr=>⟨hs.1.grown hg (fun q e=>(hr q e).2),ownFrom_below (β:=Unit) lRn ae () A B row hs.2.1 hg hr,hs.2.2⟩
 ):P:=h
theorem FL(h:P:=by
  exact fun j A B row hs hg hr=>⟨hs.1,hs.2.1.grown hg (fun q e=>(hr q e).2),ownFrom_below (β:=Unit) lRn ae () A B row hs.2.2 hg hr⟩
 ):P:=h
theorem Gf(h:P:=by
  simp only[bz]at ht;show(nmV y).map _=_
  cases hy:nmV y with
  | none=>rw[hy]at ht; cases ht
  | some v =>
   rw[hy]at ht;simp at ht;subst ht;rfl
 ):P:=h
theorem px(h:P:=by
  go_wp2_with fail;exact⟨⟨k+1,ae,bu,Mc P.out.1,fun t ht=>by rw[World.cell?_drew]; exact P.out.2 t ht⟩,bD⟩
 ):P:=h
theorem FE(h:P:=by
  have:k<l.length:=ae;simp only[Z3,aD this,Option.getD_some]; exact V' _ (List.getElem_mem this)
 ):P:=h
theorem IM(h:P:=by
  go_wp2
  go_roundw
  case rel=>exact⟨m+1,ae,av,IE HM.out ql,F.out.1,F.out.2.1⟩
  case measure=>simp[intOf]; omega
 ):P:=h
theorem IB(h:P:=by
  obtain rfl | rfl | rfl | rfl:pt=1\/pt=2\/pt=3\/pt=4:=gA
  all_goals
   go_wp2_with fail
   go_meet
   exact⟨rfl,rfl⟩
 ):P:=h
theorem yF(h:P:=by
  go_wp2_with fail;refine A1.out.mono ?_;rintro e w2⟨rfl,hx⟩;have HX:=hid (BX.out _ hx);clear hx BX A1;go_wp2_with fail;go_end0;exact⟨rfl,HX.out⟩
 ):P:=h
theorem Gi(h:P:=by
  intro j u hj
  match j,hj with
  | 0,hj=>simp[iy]at hj; subst hj; simp[Addr.add,go_sem]
  | 1,hj=>simp[iy]at hj; subst hj; simp[Addr.add,go_sem]
 ):P:=h
theorem EY(h:P:=by
  intro j u hj
  match j,hj with
  | 0,hj=>simp[iD]at hj; subst hj; simp[Addr.add,go_sem]
  | 1,hj=>simp[iD]at hj; subst hj; simp[Addr.add,go_sem]
 ):P:=h
theorem He(h:P:=by
  go_enter func103,ntmps103
  go_wp2_with fail;refine HO.out.mono ?_;rintro e w1⟨rfl,hb1⟩;go_wp2;go_ret;exact⟨rfl,hb1.alloc hb1.size _⟩
 ):P:=h
theorem Fv(h:P:=by
  go_wp2
  go_roundw
  case rel=>exact⟨m+1,ae,av,IE HM.out (by rw[hh,hg]; rfl),F.out.1,F.out.2.1⟩
  case measure=>simp[intOf]; omega
 ):P:=h
theorem Gu(h:P:=by
  go_simp;refine(Xs.out _ B1.out).mono ?_;rintro e w5⟨rfl,AI⟩;exact⟨rfl,GT.out.trans (KR.later (B1.out.trans (AI.mono B1.out.size))),rfl⟩
 ):P:=h
theorem sN(h:P:=by
  go_simp;refine(tr.out _ B5.out).mono ?_;rintro e w5⟨rfl,AI⟩;exact⟨rfl,GT.out.trans (KR.later (B5.out.trans (AI.mono B5.out.size))),rfl⟩
 ):P:=h
theorem E0(h:P:=by
  go_simp;refine(tr.out _ B7.out).mono ?_;rintro e w5⟨rfl,AI⟩;exact⟨rfl,GT.out.trans (KR.later (B7.out.trans (AI.mono B7.out.size))),rfl⟩
 ):P:=h
theorem F8(h:P:=by
  refine⟨h.1,?_⟩
  rcases h.2 with h0 | ⟨g,cp,cur,rfl,h2,h3,h4⟩
  ·exact .inl h0
  exact .inr ⟨g,cp,cur,rfl,h2,by rw[hk g rfl]; exact h3,h4⟩
 ):P:=h
theorem GI(h:P:=by
  go_wp2_with fail;exact⟨⟨i+1,av,ae,sq.out,hR2.out,by rw[show 7-(i+1)=n by omega]; exact hV2.out⟩,bD⟩
 ):P:=h
theorem sK(h:P:=by
  rintro e w1⟨rfl,hw⟩;have hw2:=hw.symm;subst hw2;go_wp2_with fail;go_ret;exact⟨dS,FS.out.trans (HB.out.mono FS.out.size)⟩
 ):P:=h
theorem EA(h:P:=by
  simp only at hcx;unfold cg at hcx
  split at hcx
  ·cases hcx
  split at hcx
  ·cases hcx
  split at hcx
  ·cases hcx
  rw[hok.1,hok.2]; omega
 ):P:=h
theorem Ge(h:P:=by
  rw[ha]at this;refine this.mono ?_;rintro e w' ⟨rfl,h2⟩;exact⟨rfl,h2.mono (fun k hk=>hk.imp id fun⟨j,hj,e⟩=>⟨j,_,hg j hj,e⟩)⟩
 ):P:=h
theorem sI(h:P:=by
  rintro e w' ⟨aa,ac,ys,he,ON,hys,hrow,g',cap',hab,hw',hs'⟩;exact⟨aa,ac,ys,he,ON,hys,g',cap',xD,hs'⟩
 ):P:=h
theorem Gr(h:P:=by
  rintro e w5⟨rfl,Lo⟩;have hw6:=Lo.symm;subst hw6;refine⟨rfl,?_⟩;rw[HNo.out];exact⟨HFb.out.trans (B1.out.mono HFb.out.size),rfl⟩
 ):P:=h
theorem EI(h:P:=by
  clear hcc;go_wp2_with fail
  go_quiet (fail)
  go_wp2_with fail;exact⟨⟨q+1,ae,bu,HN,hid (pw.out _)⟩,bD⟩
 ):P:=h
theorem IX(h:P:=by
  exact⟨none,_,run_endLoop hb.1 (by simp[record]),hdone D _ lRn (hI.putObj _ hi lQ hb.1 rfl) (turn (rc':=_) hb).2⟩
 ):P:=h
theorem IL(h:P:=by
  have e1:=cE (g:=fJ) (fun _=>rfl) au h.rh
  have e2:m.hosts.length<=psz (pl m):=by unfold psz pl; dsimp only; omega
  omega
 ):P:=h
theorem zT(h:P:=by
  have e1:=cE (g:=iy) (fun _=>rfl) au h.rt
  have e2:m.types.length<=psz (pl m):=by unfold psz pl; dsimp only; omega
  omega
 ):P:=h
theorem zi(h:P:=by
  rw[(((ZT _ w).alloc lRn _).alloc bI _ |>.alloc bI _).cell (by exact OF)]; exact h.c0
 ):P:=h
theorem jy(h:P:=by
  go_wp2_with fail;refine ZE HO.out ?_;exact⟨rfl,KR.later (ZT _ _),rfl⟩
 ):P:=h
theorem IJ(h:P:=by
  obtain⟨cur,h,_⟩:=h.block
  rcases Zae B w.heap.size with hl | hl
  ·exact hl
  rw[Zaf hl]at h; cases h
 ):P:=h
theorem rZ(h:P:=by
  go_wp2_with fail
  go_quiet (fail)
  go_wp2_with fail;go_ret;exact⟨dS,FS.out.trans ((pw.out _).mono FS.out.size)⟩
 ):P:=h
theorem wI(h:P:=by
  refine⟨h.1,?_⟩
  rcases h.2 with h0 | ⟨g,cp,cur,h1,h2,h3⟩
  ·exact .inl h0
  exact .inr ⟨g,cp,cur,h1,ZW hb h2,h3⟩
 ):P:=h
theorem FT(h:P:=by
  go_wp2_with fail;refine(dG av).mono ?_;rintro e w1⟨rfl,rfl⟩;go_wp2_with fail;go_end0;exact⟨rfl,ZT _ _⟩
 ):P:=h
theorem nE(h:P:=by
  refine⟨k+1,ae,av,?_⟩;rw[HTk.out,List.flatMap_append,List.flatMap_singleton,<- Z2];exact P5.out
 ):P:=h
theorem xq(h:P:=by
  refine⟨h.1,?_⟩
  rcases h.2 with ⟨h,_⟩ | ⟨g,cp,cur,h1,_,h3⟩
  ·cases h
  exact .inr ⟨g,cp,cur,h1,Z5 _,h3⟩
 ):P:=h
theorem Ii(h:P:=by
  have HK:=hid hk;clear hk;go_wp2_with fail;go_ret;rw[<- rj.out,C'.out,Zac,if_neg HK.out];exact⟨KX.out,rfl⟩
 ):P:=h
theorem I4(h:P:=by
  go_wp2_with fail;refine(dG rfl).mono ?_;rintro e w1⟨rfl,rfl⟩;go_wp2_with fail;go_end0;exact⟨rfl,ZT _ _⟩
 ):P:=h
theorem pN(h:P:=by
  go_wp2_with fail;refine HC.out.mono ?_;rintro e w2⟨⟨q,rfl⟩,hk2⟩;exact⟨rfl,⟨q,rfl⟩,(bC BW.out).trans hk2⟩
 ):P:=h
theorem EJ(h:P:=by
  rw[World.cell?_alloc_past _ _ _ (show w.heap.size<wr.heap.size by omega),<- hwr,World.cell?_alloc_past _ _ _ hx]; exact x1
 ):P:=h
theorem GF(h:P:=by
  go_wp2_with fail;refine HN.out.mono ?_;rintro e w1⟨⟨p,rfl⟩,hk⟩;exact⟨rfl,⟨p,rfl⟩,(bC B1.out).trans hk⟩
 ):P:=h
theorem F9(h:P:=by
  go_wp2_with fail;refine HT.out.mono ?_;rintro e w2⟨⟨q,rfl⟩,hk⟩;exact⟨rfl,⟨q,rfl⟩,(bC BW.out).trans hk⟩
 ):P:=h
theorem qa(h:P:=by
  have e2:m.fns.length<=psz (pl m):=by unfold psz pl; simp only[List.length_map]; omega
  rw[gC]at e2;simp at e2;omega
 ):P:=h
theorem Gv(h:P:=by
  simp only[bz]at ht;show(nmV y).map _=none
  cases hy:nmV y with
  | none=>rfl
  | some v=>rw[hy]at ht; simp at ht
 ):P:=h
theorem Gh(h:P:=by
  go_enter func168,ntmps168
  go_wp2_with fail;refine HM.out.mono ?_;rintro e w1⟨rfl,hw⟩;exact⟨rfl,rfl,hw⟩
 ):P:=h
theorem yY(h:P:=by
  go_enter func315,ntmps315
  go_wp2;go_ret
  exact⟨by rw[HR.out]; rfl,(ZT _ _).alloc lRn _⟩
 ):P:=h
theorem Hv(h:P:=by
  rcases (HM.out.kept HST.out.k (fun b off c h=>o9)).2 with h0 | h
  ·omega
  exact h
 ):P:=h
theorem GY(h:P:=by
  have:=World.alloc_heap_new (w.alloc (.deferred (some []))) (.loop (record .ready none))
  rwa [World.size_alloc]at this
 ):P:=h
theorem Iw(h:P:=by
  intro hb;subst hb;obtain⟨c,h1,_⟩:=h.block;obtain⟨c',h2,_⟩:=h'.block;rw[h1]at h2;simp at h2;exact he h2.2
 ):P:=h
theorem Io(h:P:=by
  clear hg h1 h2;go_enter func124,ntmps124
  go_wp2_with fail;go_ret;exact⟨KR.later (ZT _ _),rfl⟩
 ):P:=h
theorem GH(h:P:=by
  refine(hg.block X (aK h) fun hx=>?_).trans h;obtain⟨_,cur,h2⟩:=dN hu hx.symm;rw[h]at h2;simp at h2
 ):P:=h
theorem FH(h:P:=by
  go_wp2_with fail;refine HX.out.mono ?_;rintro e w3⟨⟨q,rfl⟩,hk⟩;exact⟨rfl,⟨q,rfl⟩,S2.out.throw hk⟩
 ):P:=h
theorem IZ(h:P:=by
  go_enter func37,ntmps37
  go_wp2_with fail;go_ret
  exact⟨by rw[<- HV.out]; first | rfl | simp,HB.out⟩
 ):P:=h
theorem Iy(h:P:=by
  rw[d4]; exact fun x hx=>⟨bA (h.fo x hx).code h.low,fun y hy=>bA ((h.fo x hx).lab y hy) h.low⟩
 ):P:=h
theorem Eu(h:P:=by
  exact(kS.block R (aK (bF hq.blk hR hu hg)) (by show ¬R=fb; omega)).trans (bF hq.blk hR hu hg)
 ):P:=h
theorem I6(h:P:=by
  unfold Lib.indexByte
  split
  ·right; simp
  split
  ·exact .inl rfl
  rename_i h;simp at h
  right; simp; omega
 ):P:=h
theorem Fi(h:P:=by
  cases e
  have:=hc (j+1) y zo;rw[show off+(j+1)=off+1+j by omega]at this;exact this
 ):P:=h
theorem Hp(h:P:=by
  have:=World.ownsRow.stored h j u;exact⟨this.1,(Kept.of_grown this.2).mono (fun k hk=>xJ)⟩
 ):P:=h
theorem zZ(h:P:=by
  intro w' ho' hg';exact h g cap w' ho' (.inl ⟨rfl,(Kept.of_grown hg').mono (fun k hk=>xJ)⟩)
 ):P:=h
theorem GD(h:P:=by
  rw[ex]at h3; rw[ey]at h4;unfold jd; rw[if_pos ⟨h1,ig⟩,ex,ey]; rw[h3,h4]; rfl
 ):P:=h
theorem ID(h:P:=by
  rw[ex]at h3; rw[ey]at h4;unfold jl; rw[if_pos ⟨h1,ig⟩,ex,ey]; rw[h3,h4]; rfl
 ):P:=h
theorem G9(h:P:=by
  have hc':cJ m=cJ (un M):=by rw[<- uQ hlen,hpl]
  rw[<- hc'];exact h4 (by rw[hc']; exact hc)
 ):P:=h
theorem Fz(h:P:=by
  rw[show(bY p 8&&bY r 8)=false from h1];go_wp2;go_ret2;exact⟨by simp[kN,gF,h1],HB.out⟩
 ):P:=h
theorem Hg(h:P:=by
  rcases Zae g w.heap.size with hl | hl
  ·exact hl
  rw[Zaf hl]at h3; cases h3
 ):P:=h
theorem EF(h:P:=by
  clear we;go_wp2_with fail;go_ret;exact⟨dS,FS.out.trans (HB.out.mono FS.out.size)⟩
 ):P:=h
theorem nM(h:P:=by
  have gk:=hid lp;clear lp;go_wp2_with fail;go_ret;exact⟨rfl,HST.out.kept.trans (cd gk.out)⟩
 ):P:=h
theorem FI(h:P:=by
  rcases h.2 with ⟨h0,h1⟩ | ⟨g,cp,cur,h1,_⟩
  ·exact⟨none,0,by rw[h0,h1]⟩
  exact⟨_,_,h1⟩
 ):P:=h
theorem GN(h:P:=by
  have h:=O7.out;rw[HT.out,<- Z2,@ZV Int (C++eX (l.take k)) Z];exact h
 ):P:=h
theorem jY(h:P:=by
  clear Cd eh HM;go_wp2_with fail;exact⟨⟨n+1,ae,bu,D.out⟩,bD⟩
 ):P:=h
theorem nA(h:P:=by
  have hkb:((k:Int)==(L n:Int))=false:=aA;clear hke;go_wp2_with fail
  go_meet
  exact XQ
 ):P:=h
theorem Fu(h:P:=by
  rcases Zae b w.heap.size with hx | hx
  ·exact hx
  rw[Zaf hx]at h; cases h
 ):P:=h
theorem EG(h:P:=by
  rcases HS.out.2 with ⟨h2,h3⟩ | ⟨g,cap,cur,h2,_⟩
  ·omega
  injection h2 with e1;exact⟨g,e1⟩
 ):P:=h
theorem lT(h:P:=by
  go_wp2_with fail;refine HC.out.mono ?_;rintro e w2⟨⟨p,rfl⟩,hk⟩;exact⟨rfl,⟨p,rfl⟩,hk⟩
 ):P:=h
theorem II(h:P:=by
  clear qt yd y0 y1 y2 y3 y4 y5 y6 y7 y8;go_wp2_with fail;go_ret;exact⟨dS,B3.out⟩
 ):P:=h
theorem Gt(h:P:=by
  go_wp2_with fail;go_ret
  exact⟨by rw[HV2.out,if_neg (by rw[HK.out,HD.out]; omega)]; rfl,B2.out⟩
 ):P:=h
theorem Gp(h:P:=by
  go_wp2_with fail;exact⟨⟨t+1,ae,bu,HN,hid (pw.out _)⟩,bD⟩
 ):P:=h
theorem Ic(h:P:=by
  go_enter func124,ntmps124
  go_wp2_with fail;go_ret;exact⟨KR.later (ZT _ _),rfl⟩
 ):P:=h
theorem Ij(h:P:=by
  go_enter func125,ntmps125
  go_wp2_with fail;go_ret;exact⟨KR.later (ZT _ _),rfl⟩
 ):P:=h
theorem FY(h:P:=by
  rcases Zae b w1.heap.size with h' | h'
  ·exact h'
  simp[Zaf h']at hbk
 ):P:=h
theorem FC(h:P:=by
  have C':=hid nw;clear nw;go_wp2_with fail;go_ret;rw[<- rj.out,C'.out];exact⟨KX.out,rfl⟩
 ):P:=h
theorem Hm(h:P:=by
  rcases Zae j xs.length with h | h
  ·exact h
  rw[List.getElem?_eq_none h]at hx; cases hx
 ):P:=h
theorem IR(h:P:=by
  by_cases h0:0<=x
  ·rw[dJ x h0 ae]; omega
  rw[Bt x hx0 ae]; omega
 ):P:=h
theorem wM(h:P:=by
  go_wp2_with fail;go_ret2;exact⟨_,dS,FS.out.trans (HB.out.mono FS.out.size)⟩
 ):P:=h
theorem IP(h:P:=by
  refine⟨KX.out.trans PX.out.2,?_⟩
  cases B
  ·rfl
  exact⟨rfl,_,PX.out.1,gN⟩
 ):P:=h
theorem wm(h:P:=by
  go_wp2_with fail;exact⟨⟨k+1,ae,bu,P.out.1,P.out.2⟩,bD⟩
 ):P:=h
theorem FW(h:P:=by
  go_wp2_with fail;go_end0;exact⟨k1.out.trans (KR.later HB.out),rfl,m,q1.out.later HB.out,rfl⟩
 ):P:=h
theorem se(h:P:=by
  go_wp2_with fail;go_ret;exact⟨dS,FS.out.trans (SO.out.mono FS.out.size)⟩
 ):P:=h
theorem zE(h:P:=by
  intro j u hj
  match j,hj with
  | 0,hj =>
   obtain rfl:=i9 hj
   simpa[Addr.add] using hc
 ):P:=h
theorem EU(h:P:=by
  intro v' w' ho' hg _;refine h v' w' ?_ (own_below hown hg hbase);rw[List.map_append]; exact ho'
 ):P:=h
theorem xN(h:P:=by
  rintro e' w' ⟨he',g',cap',hw',hs'⟩;refine⟨x,he',rfl,g',cap',?_,hs'⟩;rw[henc];exact hw'
 ):P:=h
theorem ju(h:P:=by
  go_wp2_with fail;go_ret;exact⟨dS,FS.out.trans (HB.out.mono FS.out.size)⟩
 ):P:=h
theorem GA(h:P:=by
  rw[if_neg (fun x=>h1 (by have:=x.2; rw[Z1]at this; omega)),if_neg ae]
 ):P:=h
theorem xy(h:P:=by
  exact((W5.out.set (b:=w.heap.size+1) ae n1).set (b:=w.heap.size+1) ae n1)
 ):P:=h
theorem Gg(h:P:=by
  subst h7;have hx:V=(0,false):=hV.symm;subst hx;go_wp2_with fail;go_ret2;exact⟨rfl,hB⟩
 ):P:=h
theorem zA(h:P:=by
  have hl2':¬(n:Int)<300:=ae;go_wp2_with fail
  go_meet
  exact hid (bB.refl H.out)
 ):P:=h
theorem sj(h:P:=by
  have hlt':¬(t:Int)<(n:Int):=ae;go_wp2_with fail;go_ret;exact⟨rfl,HB.out⟩
 ):P:=h
theorem GZ(h:P:=by
  exact jc g1 h1 (by rcases g2 with rfl | rfl <;> rcases h2 with rfl | rfl | rfl <;> decide)
 ):P:=h
theorem EW(h:P:=by
  clear hke;go_wp2_with fail;exact⟨⟨k+1,ae,bu⟩,bD⟩
 ):P:=h
theorem H7(h:P:=by
  go_wp2_with fail;exact⟨⟨k+1,m,pt,bu,ae,HS2⟩,bD⟩
 ):P:=h
theorem j5(h:P:=by
  go_enter func121,ntmps121
  go_wp2_with fail;go_ret
  exact⟨by simp[oZ],rfl⟩
 ):P:=h
theorem nH(h:P:=by
  go_wp2_with fail;exact⟨⟨n+1,ae,bu,vm.out⟩,bD⟩
 ):P:=h
theorem Hn(h:P:=by
  go_enter func331,ntmps331
  go_wp2;go_ret
  exact⟨by rw[<- HF.out]; rfl,rfl⟩
 ):P:=h
theorem GP(h:P:=by
  rw[ey]at h3;unfold jt; rw[if_pos ⟨h1,ig⟩,ey]; rw[h3]; rfl
 ):P:=h
theorem Fh(h:P:=by
  go_enter func245,ntmps245
  go_wp2;go_ret
  exact⟨by rw[<- HF.out]; rfl,rfl⟩
 ):P:=h
theorem Ff(h:P:=by
  simp only[List.mem_cons]at h
  rcases h with rfl | h
  ·simp
  have:=ih p h; simp; omega
 ):P:=h
theorem zn(h:P:=by
  go_wp2_with fail;refine HM.out.mono ?_;rintro e w1⟨rfl,hw⟩;exact⟨rfl,rfl,hw⟩
 ):P:=h
theorem p9(h:P:=by
  rw[List.length_take]at this;have e1:min j xs.length=j:=ae
  rwa [e1]at this
 ):P:=h
theorem ww(h:P:=by
  clear hb1;go_wp2_with fail;go_ret;exact⟨by rw[HV.out,if_pos HZ.out]; rfl,B2.out⟩
 ):P:=h
theorem zl(h:P:=by
  go_wp2_with fail;exact⟨⟨t+1,ae,bu,de⟩,bD⟩
 ):P:=h
theorem EP(h:P:=by
  rintro e w' ⟨rfl,k,os,rfl⟩;exact⟨rfl,Lib.below_grow _ _ lRn _ _⟩
 ):P:=h
theorem Gs(h:P:=by
  go_enter func243,ntmps243
  go_wp2;go_ret;exact⟨dS,rfl⟩
 ):P:=h
theorem FU(h:P:=by
  rw[List.length_take]at this;have e:min j xs.length=j:=ae
  rwa [e]at this
 ):P:=h
theorem zS(h:P:=by
  exact grow none 0 rfl (fun _=>⟨rfl,rfl⟩) (fun b hb=>by cases hb) ae
 ):P:=h
theorem Hj(h:P:=by
  go_ret;exact⟨congrArg (fun x=>Ending.returned (ZI x)) HS.out,B1.out⟩
 ):P:=h
theorem xQ(h:P:=by
  clear hb1;go_wp2_with fail;go_ret;exact⟨by rw[HV.out,if_neg hz]; rfl,B2.out⟩
 ):P:=h
theorem IA(h:P:=by
  go_wp2_with fail;exact⟨⟨n+1,ae,bu⟩,bD⟩
 ):P:=h
theorem Hl(h:P:=by
  rintro e w' ⟨rfl,rfl⟩;go_wp2_with fail;go_end0;exact⟨rfl,ZT _ _⟩
 ):P:=h
theorem G8(h:P:=by
  rw[(aj (w.alloc _) _).block _ av];exact(ZZ w _).1
 ):P:=h
theorem Ho(h:P:=by
  cases h:nmV x3 with
  | none=>rfl
  | some y=>have:=(HNN.out y h).2; cases this
 ):P:=h
theorem IW(h:P:=by
  clear HPN HIN;go_wp2_with fail;go_ret;rw[E.out];exact⟨KR.later P2.out,rfl⟩
 ):P:=h
theorem yj(h:P:=by
  rintro e' w' ⟨y,he',hy,g',cap',hw',hs'⟩;exact⟨y,he',hy,g',cap',hw',hs'⟩
 ):P:=h
theorem sP(h:P:=by
  go_enter func118,ntmps118
  go_wp2_with fail;go_ret;exact⟨rfl,rfl⟩
 ):P:=h
theorem EE(h:P:=by
  simp only[List.getD,hx,Option.getD_some]; exact hz x (ZO hx)
 ):P:=h
theorem wH(h:P:=by
  rw[hv]at hres;obtain⟨_,rfl,_⟩:=hres;go_wp2_with fail;go_ret;exact HR.out
 ):P:=h
theorem ku(h:P:=by
  refine⟨⟨n+1,_,_,_,ae,bu,S3.out⟩,bD⟩
 ):P:=h
theorem IU(h:P:=by
  unfold iP;rw[if_neg h4,if_neg h5,if_pos (by rw[hw.len]; exact h6),h7]; rfl
 ):P:=h
theorem Ir(h:P:=by
  rw[h4]at h; cases h; exact⟨⟨hP.t,hP.f,hP.d,hP.e⟩,ae,ae⟩
 ):P:=h
theorem EO(h:P:=by
  unfold jo;rw[drop_at _ hk];show(if _ then _ else _)=_;rw[if_pos h];rfl
 ):P:=h
theorem IC(h:P:=by
  rcases List.mem_append.1 hz with hz | hz
  ·exact tw z hz
  simp at hz; omega
 ):P:=h
theorem xM(h:P:=by
  rcases h'.m with rfl | h2
  ·exact h.m
  exact .inr (ZW h.k.size h2)
 ):P:=h
theorem E9(h:P:=by
  exact(Below.heap_alloc _ _ _ (by simp[D])).trans (World.alloc_heap_new w _)
 ):P:=h
theorem yK(h:P:=by
  rw[hv]at hres;obtain⟨_,rfl⟩:=hres;go_wp2_with fail;go_ret;exact HR.out
 ):P:=h
theorem wP(h:P:=by
  intro j u hj
  match j,hj with
  | 0,hj=>simp at hj; subst hj; simp[Addr.add]
 ):P:=h
theorem yQ(h:P:=by
  exact⟨(World.cell?_of_block h5).trans hv,World.frozen?_of_block h5⟩
 ):P:=h
theorem iX(h:P:=by
  exact fun y hy=>bA (aU (hq.dd y hy) hu hg au) hR
 ):P:=h
theorem kq(h:P:=by
  rcases ho j hj with h | h
  ·exact .inl ⟨h.1,h.2.1⟩
  exact .inr h.2
 ):P:=h
theorem gK(h:P:=by
  rw[List.flatMap_append,List.flatMap_singleton]; exact bA ho hR
 ):P:=h
theorem xo(h:P:=by
  exact wpAnyH_take hi hc.1.1 hc.1.2 hc.2 hQ (Or.inl ⟨hw,hv⟩) hS h
 ):P:=h
theorem sL(h:P:=by
  rintro e w1⟨rfl,rfl⟩;exact⟨rfl,⟨_,rfl⟩,ZT _ _⟩
 ):P:=h
theorem pW(h:P:=by
  exact((ZT _ _).alloc lRn _).alloc av _
 ):P:=h
theorem fI(h:P:=by
  have:=ZW hq.bw hg.size; simpa[World.setCell] using this
 ):P:=h
theorem wR(h:P:=by
  simp only at hc;unfold eI at hc
  split at hc
  ·cases hc
  omega
 ):P:=h
theorem sD(h:P:=by
  go_wp2_with fail;go_ret;exact⟨dS,FS.out⟩
 ):P:=h
theorem pM(h:P:=by
  rcases h3 with ⟨y,rfl⟩ | ⟨y,_⟩
  ·cases e
  rw[y]; rfl
 ):P:=h
theorem kD(h:P:=by
  rcases ho j hj with h | h
  ·exact h.2.2
  exact absurd h0 h.1
 ):P:=h
theorem yI(h:P:=by
  intro l x W K hK;have hsem:=@Oper.semAt_some
  gi_wp2
  exact hK
 ):P:=h
theorem zI(h:P:=by
  intro y hy;simp at hy
  rcases hy with rfl | rfl | rfl <;> rfl
 ):P:=h
theorem j3(h:P:=by
  rintro e w' ⟨rfl,hk'⟩;exact⟨rfl,hk'.mono (hk.ownK)⟩
 ):P:=h
theorem pV(h:P:=by
  go_wp2_with fail;go_ret;exact⟨dS,rfl⟩
 ):P:=h
theorem kH(h:P:=by
  rcases ho j hj with h | h
  ·exact⟨h.1,h.2.1⟩
  omega
 ):P:=h
theorem pB(h:P:=by
  go_wp2_with fail;go_end0;exact⟨rfl,bB.refl H.out⟩
 ):P:=h
theorem wF(h:P:=by
  go_wp2_with fail
  go_meet
  exact⟨by rw[hd]; rfl,rfl⟩
 ):P:=h
theorem ky(h:P:=by
  rintro e w' ⟨rfl,rfl⟩;exact⟨rfl,Kept.refl _ _⟩
 ):P:=h
theorem yq(h:P:=by
  intro y hy;simp at hy
  rcases hy with rfl | rfl <;> rfl
 ):P:=h
theorem iZ(h:P:=by
  exact bA (aU hq.rh hu hg au) hR
 ):P:=h
theorem iW(h:P:=by
  exact bA (aU hq.rg hu hg au) hR
 ):P:=h
theorem iT(h:P:=by
  exact bA (aU hq.rf hu hg au) hR
 ):P:=h
theorem iR(h:P:=by
  exact bA (aU hq.rd hu hg au) hR
 ):P:=h
theorem iY(h:P:=by
  exact bA (aU hq.re hu hg au) hR
 ):P:=h
theorem i6(h:P:=by
  exact bA (aU hq.rt hu hg au) hR
 ):P:=h
theorem zY(h:P:=by
  intro u hu;obtain rfl:=List.mem_singleton.1 hu;rfl
 ):P:=h
theorem jB(h:P:=by
  rintro e w' ⟨rfl,rfl⟩;exact⟨rfl,h.skip⟩
 ):P:=h
theorem yh(h:P:=by
  exact((S5.out.set ae).set ae)
 ):P:=h
theorem wL(h:P:=by
  exact⟨p2.1,fun t ht=>p2.2 t ae⟩
 ):P:=h
theorem wC(h:P:=by
  exact⟨p1.1,fun t ht=>p1.2 t ae⟩
 ):P:=h
theorem pO(h:P:=by
  go_wp2_with fail;go_end0;exact⟨rfl,rfl⟩
 ):P:=h
theorem sM(h:P:=by
  rcases h.m with h | h
  ·exact .inr h
  omega
 ):P:=h
theorem zD(h:P:=by
  rcases X1.2.2 with h0 | h
  ·omega
  exact h
 ):P:=h
theorem lW(h:P:=by
  go_wp2_with fail;go_ret;exact⟨rfl,rfl⟩
 ):P:=h
theorem gI(h:P:=by
  rw[aT (bF hq.blk hR hu hg)]; rfl
 ):P:=h
theorem pK(h:P:=by
  rw[World.cell?_alloc_at _ _ _ _ rfl]; rfl
 ):P:=h
theorem j6(h:P:=by
  rcases H5.out with h | h
  ·omega
  exact h
 ):P:=h
theorem ko(h:P:=by
  rcases H6.out with h | h
  ·omega
  exact h
 ):P:=h
theorem kG(h:P:=by
  rw[results_cell_tmp rfl];go_simp
 ):P:=h
theorem nS(h:P:=by
  go_wp2_with fail
  go_meet
  exact XQ
 ):P:=h
theorem iw(h:P:=by
  rw[og rfl];go_simp
 ):P:=h
theorem pY(h:P:=by
  rw[if_pos b1]at h; cases h
 ):P:=h
theorem jX(h:P:=by
  go_meet
  exact⟨rfl,rfl⟩
 ):P:=h
theorem fp(h:P:=by
  rw[h3]at h; cases h
 ):P:=h
theorem jv(h:P:=by
  rw[h4]at h; cases h
 ):P:=h
theorem cR(h:P:=by
  simpa using this
 ):P:=h
theorem I0(h:P:=by
  have BN:=hid (aj wr (cL x));have rm:=hid (HE.out j x hx ys (wr.alloc (cL x)) g3 Ly aa ac ON HY.out (HST.out.trans (Stp.of_below BN.out)) (ix.out.later BN.out) (aV Ys.out (fun B hB=>BN.out.block B (aL Ys.out hB))) j9.out)
  go_wp2_with fail;generalize wr.alloc (cL x)=W at *;have qaj:=BN.out.size;refine rm.out.mono ?_;rintro e w5⟨y,rfl,hok,g4,ri,Lo,hs5⟩;have hgr:g3<wr.heap.size:=ix.out.g_lt;have hRr:R<wr.heap.size:=ix.out.lt
  have eR:=aV (w':=w5) Ys.out (fun B hB=>by
   have h1:=aL Ys.out hB;have h2:∃a,aa=some a/\a.block=B:=pE hB;obtain⟨a,ha1,ha2⟩:=h2;have h3:=j9.out a ha1;have h4:=HST.out.size;exact(hs5.block (b:=B) ae ae ae).trans (BN.out.block B h1))
  have gg4:=Lo.g_lt
  have oy:∀b,aa=some b->b.block≠g4/\b.block<w5.heap.size:=fun a ha1=>by
   exact Es
  have W5:=hid Lo;have S5:=hid (HST.out.trans ((Stp.of_below BN.out).trans hs5));have O5:=hid hok;have BN5:=hid (aj w5 (cM y));have R6:=hid (aV (w':=w5.alloc (cM y)) eR (fun B hB=>BN5.out.block B (aL eR hB)));have HAB5:=hid oy;have NC:=hid (nC w5 y);have hz6:(w5.alloc (cM y)).heap.size=w5.heap.size+1:=av;clear Lo hs5 eR oy rm hok
  go_wp2_with (at_builtin; (refine mW _ rfl (.tmp 28) (.tmp 33) _ rfl _ i0 _ _ _ uN hi hz0 hz1 hz2 rfl au _ j _ rfl R6.out (ZA w5.heap.size 0) 1 1 (oC0 y) rfl rfl NC.out (oC y) ae aP ae ?_; intro B qS w7 dj nn; have R7:=hid dj; have OR7:=hid nn; clear dj nn))
  generalize w5.alloc (cM y)=W6 at *
  have j':w.heap.size<=B/\B≠g4/\Kept (fun k=>k=B) W6 w7:=by
   exact ET
  have hRw:=S5.out.size
  go_roundw
  ·exact G7
  simp[intOf]; omega
 ):P:=h
theorem FO(h:P:=by
  skip
  have rm:=hid (HE.out j x hx hjk ys (wr.alloc (cL x)) g3 Ly aa ac ON HY.out (HST.out.trans (Stp.of_below BN.out)) (ix.out.later BN.out) (aV Ys.out (fun B hB=>BN.out.block B (aL Ys.out hB))) j9.out)
  go_wp2_with fail;generalize wr.alloc (cL x)=W at *;have qaj:=BN.out.size;refine rm.out.mono ?_;rintro e w5⟨y,rfl,hok,g4,ri,Lo,hs5⟩;have hgr:g3<wr.heap.size:=ix.out.g_lt;have hRr:R<wr.heap.size:=ix.out.lt
  have eR:=aV (w':=w5) Ys.out (fun B hB=>by
   have h1:=aL Ys.out hB;have h2:∃a,aa=some a/\a.block=B:=pE hB;obtain⟨a,ha1,ha2⟩:=h2;have h3:=j9.out a ha1;have h4:=HST.out.size;exact(hs5.block (b:=B) ae ae ae).trans (BN.out.block B h1))
  have gg4:=Lo.g_lt
  have oy:∀b,aa=some b->b.block≠g4/\b.block<w5.heap.size:=fun a ha1=>by
   exact Es
  have W5:=hid Lo;have S5:=hid (HST.out.trans ((Stp.of_below BN.out).trans hs5));have O5:=hid hok;have BN5:=hid (aj w5 (cM y));have R6:=hid (aV (w':=w5.alloc (cM y)) eR (fun B hB=>BN5.out.block B (aL eR hB)));have HAB5:=hid oy;have NC:=hid (nC w5 y);have hz6:(w5.alloc (cM y)).heap.size=w5.heap.size+1:=av;clear Lo hs5 eR oy rm hok
  go_wp2_with (at_builtin; (refine mW _ rfl (.tmp 28) (.tmp 33) _ rfl _ i0 _ _ _ uN hi hz0 hz1 hz2 rfl au _ j _ rfl R6.out (ZA w5.heap.size 0) 1 1 (oC0 y) rfl rfl NC.out (oC y) ae aP ae ?_; intro B qS w7 dj nn; have R7:=hid dj; have OR7:=hid nn; clear dj nn))
  generalize w5.alloc (cM y)=W6 at *
  have j':w.heap.size<=B/\B≠g4/\Kept (fun k=>k=B) W6 w7:=by
   exact ET
  have hRw:=S5.out.size
  go_roundw
  ·exact G7
  simp[intOf]; omega
 ):P:=h
theorem Fq(h:P:=by
  intro i y' hi'
  by_cases hij:i<ys.length
  ·rw[Zaa hij]at hi';exact HY.out i y' hi'
  rw[Zag ae]at hi'
  have hi0:i-ys.length=0:=by
   exact Gq
  rw[hi0]at hi';simp at hi';subst hi';obtain rfl:i=j:=ae;exact⟨x,hx,O5.out⟩
 ):P:=h
theorem Jt(h:P:=by
  rcases OR7.out with ⟨h1,h2⟩ | ⟨h1,h2⟩
  ·exact IV
  have:=S5.out.size;exact⟨ae,ae,h2.mono (fun k hk=>hk.elim)⟩
 ):P:=h
theorem qd(h:P:=by
  intro j u hj
  match j,hj with
  | 0,hj=>simp[eD]at hj; subst hj; simp[Addr.add,go_sem]
  | 1,hj=>simp[eD]at hj; subst hj; simp[Addr.add,go_sem]
  | 2,hj=>simp[eD]at hj; subst hj; simp[Addr.add,go_sem]
 ):P:=h
theorem yU(h:P:=by
  intro j u hj
  match j,hj with
  | 0,hj=>simp[dA]at hj; subst hj; simp[Addr.add,go_sem]
  | 1,hj=>simp[dA]at hj; subst hj; simp[Addr.add,go_sem]
  | 2,hj=>simp[dA]at hj; subst hj; simp[Addr.add,go_sem]
 ):P:=h
theorem xG(h:P:=by
  intro j u hj
  match j,hj with
  | 0,hj=>simp[fQ]at hj; subst hj; simp[Addr.add,go_sem]
  | 1,hj=>simp[fQ]at hj; subst hj; simp[Addr.add,go_sem]
  | 2,hj=>simp[fQ]at hj; subst hj; simp[Addr.add,go_sem]
 ):P:=h
theorem Gw(h:P:=by
  subst hlaG;go_wp2_with fail;refine CA.out.mono ?_;rintro e w4⟨rfl,hx⟩;have AN:=hid (TH.out _ hx);clear hx CA TH;go_wp2_with fail;exact⟨⟨j+1,ae,bu,AN⟩,bD⟩
 ):P:=h
theorem IQ(h:P:=by
  have qas:¬(j:Int)<300:=ae
  have hd3:decide ((j:Int)<300)=false:=by simpa using qas
  have hlt':(j:Int)<N:=ae;clear hlt;go_wp2_with fail;go_end0;exact⟨rfl,HY.out⟩
 ):P:=h
theorem Hz(h:P:=by
  have h3:=j9.out a ha1;have h1:a.block<wr.heap.size:=aL Ys.out (qW Ys.out ha1);exact⟨hs5.ne ae h3.2,Z8 h1 (ZW qaj hs5.size)⟩
 ):P:=h
theorem GM(h:P:=by
  go_wp2
  go_roundw
  case rel=>exact⟨m+1,ae,av,IE HM.out ql,F.out.1,F.out.2.1⟩
  case measure=>simp[intOf]; omega
 ):P:=h
theorem yN(h:P:=by
  intro j u hj
  match j,hj with
  | 0,hj=>simp[jV]at hj; subst hj; simp[Addr.add,go_sem]
  | 1,hj=>simp[jV]at hj; subst hj; simp[Addr.add,go_sem]
 ):P:=h
theorem Gn(h:P:=by
  intro j u hj
  match j,hj with
  | 0,hj=>simp[iD]at hj; subst hj; simp[Addr.add,go_sem]
  | 1,hj=>simp[iD]at hj; subst hj; simp[Addr.add,go_sem]
 ):P:=h
theorem Fe(h:P:=by
  intro j u hj
  match j,hj with
  | 0,hj=>simp[iy]at hj; subst hj; simp[Addr.add,go_sem]
  | 1,hj=>simp[iy]at hj; subst hj; simp[Addr.add,go_sem]
 ):P:=h
theorem Hq(h:P:=by
  go_wp2
  go_roundw
  case rel=>exact⟨m+1,ae,av,IE HM.out (by rw[hh,hg]; rfl),F.out.1,F.out.2.1⟩
  case measure=>simp[intOf]; omega
 ):P:=h
theorem yV(h:P:=by
  go_wp2_with fail
  go_quiet (fail)
  go_wp2_with fail;exact⟨⟨t+1,ae,bu,hid (pw.out _)⟩,bD⟩
 ):P:=h
theorem GU(h:P:=by
  have h2:=congrArg List.length hx;rw[ZV]at h2;have h3:x.data.toList.length=x.size:=Zab;omega
 ):P:=h
theorem GK(h:P:=by
  have:=(W5.out.later BN5.out).kept j'.2.2 ae (Ne.symm j'.2.1);rw[vG enc hx]
  simpa[Z2] using this
 ):P:=h
theorem y9(h:P:=by
  rintro⟨b,off,ha,hc⟩;exact⟨b,off,ha,fun j x hj=>⟨hc j x hj 0 _ rfl,hc j x hj 1 _ rfl,hc j x hj 2 _ rfl⟩⟩
 ):P:=h
theorem Iq(h:P:=by
  exact⟨(S5.out.k.trans (bC BN5.out)).then j'.2.2 (fun k hk hkB=>by have:=j'.1; omega),S5.out.m⟩
 ):P:=h
theorem yX(h:P:=by
  rintro⟨b,off,ha,hc⟩;exact⟨b,off,ha,fun j x hj=>⟨hc j x hj 0 _ rfl,hc j x hj 1 _ rfl⟩⟩
 ):P:=h
theorem Hc(h:P:=by
  rcases Zae j xs.length with h | h
  ·exact h
  simp[List.getElem?_eq_none h]at hy
 ):P:=h
theorem xC(h:P:=by
  intro j u hj
  match j,hj with
  | 0,hj=>simp[fJ]at hj; subst hj; simp[Addr.add,go_sem]
 ):P:=h
theorem IG(h:P:=by
  rw[Z3,aD ae]
  simpa using this
 ):P:=h
theorem Gx(h:P:=by
  intro j u hj
  match j,hj with
  | 0,hj=>simp at hj; subst hj; simp[Addr.add,go_sem]
 ):P:=h
theorem Hd(h:P:=by
  exact⟨j+1,ae,rfl,(BW.out.trans (BN.out.mono BW.out.size)).drew⟩
 ):P:=h
theorem r9(h:P:=by
  rw[results_cell_tmp rfl];go_simp
 ):P:=h
theorem G7(h:P:=by
  refine⟨j+1,ys++[y],some (ZA B 0),qS,g4,ri,ae,rfl,rfl,by simp[ON],?_,?_,?_,?_,?_⟩
  ·intro i y' hi'
   by_cases hij:i<ys.length
   ·rw[Zaa hij]at hi';exact HY.out i y' hi'
   rw[Zag ae]at hi'
   have hi0:i-ys.length=0:=by
    exact Gq
   rw[hi0]at hi';simp at hi';subst hi';obtain rfl:i=j:=ae;exact⟨x,hx,O5.out⟩
  ·have:=R7.out
   simpa[il] using this
  ·exact wO
  ·have:=(W5.out.later BN5.out).kept j'.2.2 ae (Ne.symm j'.2.1)
   rw[vG enc hx]
   simpa[Z2] using this
  exact⟨(S5.out.k.trans (bC BN5.out)).then j'.2.2 (fun k hk hkB=>by have:=j'.1; omega),S5.out.m⟩
 ):P:=h
theorem ET(h:P:=by
  rcases OR7.out with ⟨h1,h2⟩ | ⟨h1,h2⟩
  ·exact IV
  have:=S5.out.size;exact⟨ae,ae,h2.mono (fun k hk=>hk.elim)⟩
 ):P:=h
theorem Es(h:P:=by
  have h3:=j9.out a ha1;have h1:a.block<wr.heap.size:=aL Ys.out (qW Ys.out ha1);exact⟨hs5.ne ae h3.2,Z8 h1 (ZW qaj hs5.size)⟩
 ):P:=h
theorem Gq(h:P:=by
  rcases Nat.eq_zero_or_pos (i-ys.length) with h | h
  ·exact h
  rw[List.getElem?_eq_none aA]at hi'; cases hi'
 ):P:=h
theorem IV(h:P:=by
  have h1':aa=some (ZA B 0):=(Value.slice.inj h1).1;exact⟨(j9.out _ h1').1,(HAB5.out _ h1').1,h2⟩
 ):P:=h
theorem wO(h:P:=by
  intro b' hb';simp at hb';subst hb';exact⟨j'.1,j'.2.1⟩
 ):P:=h
abbrev bM(a0:OAz)(a1:Nat)(a2:Nat)(a3:OAz)(a4:Nat)(a5:Nat)(a6:OAz)(a7:Nat)(a8:Nat)(a9:Int)(a10:Int)(a11:OAz)(a12:Nat)(a13:Nat)(a14:OAz)(a15:Nat)(a16:Nat)(a17:OAz)(a18:Nat)(a19:Nat):Obj:=.cells #[.slice a0 a1 a2,.slice a3 a4 a5,.slice a6 a7 a8,ZI a9,ZI a10,.slice a11 a12 a13,.slice a14 a15 a16,.slice a17 a18 a19] 29
abbrev aH(a0:Int)(a1:Int)(a2:OAz)(a3:Nat)(a4:Nat):Obj:=.cells #[ZU a0,ZI a1,.slice a2 a3 a4] 75
abbrev aN(a0:Int)(a1:BAz)(a2:OAz)(a3:Nat)(a4:Nat):Obj:=.cells #[ZI a0,.string a1,.slice a2 a3 a4] 78
abbrev bV(a0:Int)(a1:BAz)(a2:Int)(a3:BAz)(a4:BAz)(a5:Bool):Obj:=.cells #[ZU a0,.string a1,.int .i8 a2,.string a3,.string a4,.bool a5] 250
abbrev aZ(a0:Int)(a1:Bool)(a2:Int):Obj:=.cells #[ZU a0,.bool a1,.int .u64 a2] 102
abbrev aW(a0:BAz)(a1:BAz):Obj:=.cells #[.string a0,.string a1] 73
abbrev bo(a0:Int)(a1:OAz)(a2:Nat)(a3:Nat):Obj:=.cells #[ZI a0,.slice a1 a2 a3] 81
abbrev gH(a0:Int)(a1:BAz)(a2:Int)(a3:BAz)(a4:BAz)(a5:Bool):Obj:=.cells #[ZU a0,.string a1,.int .i8 a2,.string a3,.string a4,.bool a5] 233
abbrev bK(a0:BAz)(a1:Int):Obj:=.cells #[.string a0,ZI a1] 83
abbrev bR(a0:Int):Obj:=.cells #[ZI a0] 3
abbrev cA(a0:BAz):Obj:=.cells #[.string a0] 9
abbrev dQ(a0:Int):Obj:=.cells #[ZI a0] 33
abbrev eK(a0:Int):Obj:=.cells #[ZU a0] 5
abbrev ru(a0:Int)(a1:Int)(a2:BAz)(a3:BAz):Obj:=.cells #[ZU a0,ZU a1,.string a2,.string a3] 287
abbrev jh(a0:OAz)(a1:Nat)(a2:Nat):Obj:=.cells #[.slice a0 a1 a2] 63
abbrev kT(a0:OAz)(a1:Nat)(a2:Nat):Obj:=.cells #[.slice a0 a1 a2] 22
abbrev uj(a0:Int)(a1:Int):Obj:=.cells #[ZI a0,ZI a1] 142
abbrev gy(a0:Value):Obj:=.cells #[a0] 200
abbrev qY(a0:OAz):Obj:=.cells #[.pointer a0] 122
abbrev ue(a0:Int):Obj:=.cells #[ZI a0] 119
theorem sIB{α:Type _}(l:List α)(i:Nat)(a:α):l.toArray.setIfInBounds i a=(l.set i a).toArray:=List.setIfInBounds_toArray l i a
theorem sC0{α:Type _}{x:α}{xs:List α}{a:α}:(x::xs).set 0 a=a::xs:=List.set_cons_zero
theorem sCs{α:Type _}{x:α}{xs:List α}{a:α}:(x::xs).set (i+1) a=x::xs.set i a:=List.set_cons_succ
variable {P:Program}{ops:Array Oper}{Q:Zan}{oi:Oper}{fuel:Nat}{a:Act}{w:World}
theorem tkH{md:Region.Mode}{S:World->Prop}{v:Value}{listed:Array Bool}(hi:ops[i]? =some oi)(hv:∀w,S w->(execOp a.eval oi).run P w=.ok (.value v) w)
  (h:wpAnyH P md ops Q S fuel (listed.setIfInBounds i true) (a.put oi.dst v) w) (hc:(Region.noSelect ops&&Region.free md ops listed i&&(Region.ready md ops listed).contains i)=true:=by kernel_rfl) (hw:Region.wanted oi (yielded ops a.tmps)=true:=by rfl)
  (hQ:∀c a w,Q (.panic c) (a.put oi.dst v) w->Q (.panic c) a w:=by exact fun _ _ _ h=>h) (hS:S w:=by assumption):wpAnyH P md ops Q S (fuel+1) listed a w:=by
 simp only[Bool.and_eq_true]at hc;exact xo
theorem tkA{md:Region.Mode}{S:World->Prop}{d:Option Tmp}{v:Value}{listed:Array Bool}(hi:ops[i]? =some oi)(hd:oi.dst=d)(hv:∀w,S w->(execOp a.eval oi).run P w=.ok (.value v) w)
  (h:wpAnyH P md ops Q S fuel (listed.setIfInBounds i true) (a.put d v) w) (hc:(Region.noSelect ops&&Region.free md ops listed i&&(Region.ready md ops listed).contains i)=true:=by kernel_rfl) (hw:Region.wanted oi (yielded ops a.tmps)=true:=by kernel_rfl)
  (hQ:∀c a w,Q (.panic c) (a.put d v) w->Q (.panic c) a w:=by exact fun _ _ _ h=>h) (hS:S w:=by assumption):wpAnyH P md ops Q S (fuel+1) listed a w:=by
 subst hd;exact tkH hi hv h hc hw hQ hS
theorem tkB{md:Region.Mode}{S:World->Prop}{d:Option Tmp}{v:Value}{listed:Array Bool}(h:wpAnyH P md ops Q S fuel (listed.setIfInBounds i true) (a.put d v) w)(hi:ops[i]? =some oi:=by kernel_rfl)(hd:oi.dst=d:=by kernel_rfl)(hv:∀w,S w->(execOp a.eval oi).run P w=.ok (.value v) w:=by (intro w h;(try dsimp only at h);go_simp;try with_reducible rfl))
  (hc:(Region.noSelect ops&&Region.free md ops listed i&&(Region.ready md ops listed).contains i)=true:=by kernel_rfl) (hw:Region.wanted oi (yielded ops a.tmps)=true:=by kernel_rfl) (hQ:∀c a w,Q (.panic c) (a.put d v) w->Q (.panic c) a w:=by exact fun _ _ _ h=>h) (hS:S w:=by assumption):wpAnyH P md ops Q S (fuel+1) listed a w:=tkA hi hd hv h hc hw hQ hS
theorem tkC{md:Region.Mode}{S:World->Prop}{v:Value}{listed:Array Bool}(hi:ops[i]? =some oi)(h:wpAnyH P md ops Q S fuel (listed.setIfInBounds i true) (a.put oi.dst v) w)(hv:∀w,S w->(execOp a.eval oi).run P w=.ok (.value v) w:=by (intro w h;(try dsimp only at h);go_simp;try with_reducible rfl))
  (hc:(Region.noSelect ops&&Region.free md ops listed i&&(Region.ready md ops listed).contains i)=true:=by kernel_rfl) (hw:Region.wanted oi (yielded ops a.tmps)=true:=by rfl) (hQ:∀c a w,Q (.panic c) (a.put oi.dst v) w->Q (.panic c) a w:=by exact fun _ _ _ h=>h) (hS:S w:=by assumption):wpAnyH P md ops Q S (fuel+1) listed a w:=tkH hi hv h hc hw hQ hS
section
variable {P:Program}{ops:Array Oper}{Q:Zan}{o oi:Oper}{fuel:Nat}{a a':Act}{w:World}{md:Region.Mode}{S:World->Prop}{listed l':Array Bool}{d:Option Tmp}{v:Value}
theorem Zt(i:Nat)(h:wpAnyH P md ops Q S fuel l' a' w)(hi:ops[i]? =some oi:=by rfl)(hd:oi.dst=d:=by rfl)(hv:∀w,S w->(execOp a.eval oi).run P w=.ok (.value v) w:=by (intro w h;(try dsimp only at h);go_simp;try with_reducible rfl))(hl:listed.setIfInBounds i true=l':=by ((try simp only[sIB,sC0,sCs]);exact rfl))(ha:a.put d v=a':=by ((try simp only[Act.put,sIB,sC0,sCs]);exact rfl))
  (hc:(Region.noSelect ops&&Region.free md ops listed i&&(Region.ready md ops listed).contains i)=true:=by kernel_rfl) (hw:Region.wanted oi (yielded ops a.tmps)=true:=by kernel_rfl) (hQ:∀c a w,Q (.panic c) (a.put d v) w->Q (.panic c) a w:=by exact fun _ _ _ h=>h) (hS:S w:=by first|assumption|trivial):wpAnyH P md ops Q S (fuel+1) listed a w:=by
 subst hl;subst ha;subst hd;exact tkH hi hv h hc hw hQ hS
theorem ZR(i:Nat)(h:∀K:Act->World->Prop,Shut (∀a w,S w->(S w->wpAnyH P md ops Q S fuel (listed.setIfInBounds i true) a w)->K a w)->Oper.wp P o a w K Q)(ho:ops[i]? =some o:=by rfl)(hw:Region.wanted o (yielded ops a.tmps)=true:=by rfl)(hr:Region.ready md ops listed=[i]:=by kernel_rfl):wpAnyH P md ops Q S (fuel+1) listed a w:=wpAnyH_ready hr (by simp) (AllReadyH.cons ho (fun K hK=>by rw[if_pos hw]; exact h K hK) AllReadyH.nil)
theorem Zu(i j:Nat){o':Oper}(h:∀K:Act->World->Prop,Shut (∀a w,S w->(S w->wpAnyH P md ops Q S fuel (listed.setIfInBounds i true) a w)->K a w)->Oper.wp P o a w K Q)(h':∀K:Act->World->Prop,Shut (∀a w,S w->(S w->wpAnyH P md ops Q S fuel (listed.setIfInBounds j true) a w)->K a w)->Oper.wp P o' a w K Q)(ho:ops[i]? =some o:=by rfl)(ho':ops[j]? =some o':=by rfl)(hw:Region.wanted o (yielded ops a.tmps)=true:=by rfl)(hw':Region.wanted o' (yielded ops a.tmps)=true:=by rfl)(hr:Region.ready md ops listed=[i,j]:=by kernel_rfl):wpAnyH P md ops Q S (fuel+1) listed a w:=wpAnyH_ready hr (by simp) (AllReadyH.cons ho (fun K hK=>by rw[if_pos hw]; exact h K hK) (AllReadyH.cons ho' (fun K hK=>by rw[if_pos hw']; exact h' K hK) AllReadyH.nil))
theorem Zv{K X:Act->World->Prop}(hK:Shut (∀a w,S w->(S w->X a w)->K a w))(h:X a w)(hs:S w:=by trivial):K a w:=hK.out a w hs (fun _=>h)
end
variable {o:Oper}
theorem rdA{md:Region.Mode}{S:World->Prop}{listed:Array Bool}{rs:List Nat}(h:∀K:Act->World->Prop,Shut (∀a w,S w->(S w->wpAnyH P md ops Q S fuel (listed.setIfInBounds i true) a w)->K a w)->Oper.wp P o a w K Q)(hs:AllReadyH P md ops Q S fuel listed a w rs)(ho:ops[i]? =some o:=by kernel_rfl)(hw:Region.wanted o (yielded ops a.tmps)=true:=by kernel_rfl):AllReadyH P md ops Q S fuel listed a w (i::rs):=AllReadyH.cons ho (fun K hK=>by rw[if_pos hw]; exact h K hK) hs
theorem rdY{md:Region.Mode}{S:World->Prop}{rs:List Nat}{listed:Array Bool}(h:AllReadyH P md ops Q S fuel listed a w rs)(hr:Region.ready md ops listed=rs:=by kernel_rfl)(hne:rs≠[]:=by simp):wpAnyH P md ops Q S (fuel+1) listed a w:=wpAnyH_ready hr hne h
theorem rN{md:Region.Mode}{S:World->Prop}{listed:Array Bool}   : AllReadyH P md ops Q S fuel listed a w []:=AllReadyH.nil
structure Kept(S:Zam)(w w':World):Prop where
 os:w'.os=w.os
 tape:w'.tape=w.tape
 output:w'.output=w.output
 size:w.heap.size<=w'.heap.size
 block:∀k,k<w.heap.size->¬S k->w'.heap[k]? =w.heap[k]?
theorem Kept.refl(S:Zam)(w:World):Kept S w w:=⟨rfl,rfl,rfl,Nat.le_refl _,fun _ _ _=>rfl⟩
variable {S:Zam}{w1 w2:World}
theorem Kept.trans(h1:Kept S w w1)(h2:Kept S w1 w2):Kept S w w2 :=
 ⟨h2.os.trans h1.os,h2.tape.trans h1.tape,h2.output.trans h1.output,ZW h1.size h2.size,
  fun k hk hs=>(h2.block k (Z8 hk h1.size) hs).trans (h1.block k hk hs)⟩
variable {T:Zam}
theorem Kept.then(h1:Kept S w w1)(h2:Kept T w1 w2)(h:∀k,k<w.heap.size->T k->S k):Kept S w w2 :=
 ⟨h2.os.trans h1.os,h2.tape.trans h1.tape,h2.output.trans h1.output,ZW h1.size h2.size,
  fun k hk hs=>(h2.block k (Z8 hk h1.size) (fun ht=>hs (h k hk ht))).trans (h1.block k hk hs)⟩
variable {w':World}
theorem Kept.of_grown{r:Option Nat}(h:w.grownBy w' r):Kept (fun k=>some k=r) w w':=⟨h.os,h.tape,h.output,h.size,fun k hk hs=>h.block k hk hs⟩
theorem Kept.alloc(S:Zam)(w:World)(o:Obj):Kept S w (w.alloc o):=by
 have h:=(ZT w.heap.size w).alloc lRn o;exact⟨h.os,h.tape,h.output,h.size,fun k hk _=>h.block k hk⟩
variable {B:Nat}
theorem Kept.of_below(h:Below B w w'):Kept (fun k=>B<=k) w w':=⟨h.os,h.tape,h.output,h.size,fun k hk hs=>h.block k ae⟩
theorem Kept.to_below(h:Kept S w w')(hB:B<=w.heap.size)(hS:∀k,k<B->¬S k):Below B w w':=⟨h.os,h.tape,h.output,h.size,fun k hk=>h.block k ae (hS k hk)⟩
theorem Kept.mono(h:Kept S w w')(hS:∀k,S k->T k):Kept T w w':=⟨h.os,h.tape,h.output,h.size,fun k hk hs=>h.block k hk (fun x=>hs (hS k x))⟩
theorem Kept.drewN(S:Zam)(w:World)(m:Nat):Kept S w (w.drewN m):=by
 have h:=below_drewN (ZT w.heap.size w) m;exact⟨h.os,h.tape,h.output,h.size,fun k hk _=>h.block k hk⟩
variable {b:Nat}
theorem cell_of_block(h:w'.heap[b]? =w.heap[b]?)(o:Nat):w'.cell? (ZA b o)=w.cell? (ZA b o):=by
 simp only[World.cell?,h]
theorem aS(h:w'.heap[b]? =w.heap[b]?)(o:Nat):w'.frozen? (ZA b o)=w.frozen? (ZA b o):=by
 simp only[World.frozen?,h]
variable {o:Nat}
theorem Kept.cell(h:Kept S w w'){v:Value}(hc:w.cell? (ZA b o)=some v)(hs:¬S b):w'.cell? (ZA b o)=some v :=
 (cell_of_block (h.block b (ZQ hc) hs) o).trans hc
def Row(w:World)(e:TypeId)(B n cap:Nat)(xs:Zah):Prop:=w.ownsRow 0 e 1 (ZL B n cap) n xs
variable {base cap:Nat}{e:TypeId}{xs:Zah}
theorem Row.of(h:w.ownsRow base e 1 (ZL B n cap) n xs):Row w e B n cap xs:=by
 exact xq
theorem Row.block(h:Row w e B n cap xs):∃cur,w.heap[B]? =some (.cells cur e)/\n<=cap/\cap<=maxLen/\cur.size=cap/\cur.toList.take n=xs:=by
 exact Ep
theorem Row.lt(h:Row w e B n cap xs):B<w.heap.size:=by
 exact IJ
theorem bZ{v:Value}(h:w.ownsRow base e 1 v n xs)(hk:∀B,v.ownBlock=some B->w'.heap[B]? =w.heap[B]?):w'.ownsRow base e 1 v n xs:=by
 exact F8
theorem Row.keep(h:Row w e B n cap xs)(hk:w'.heap[B]? =w.heap[B]?):Row w' e B n cap xs :=
 bZ h (fun b hb=>by
  obtain rfl:B=b:=lh;exact hk)
theorem Row.kept(h:Row w e B n cap xs)(hk:Kept S w w')(hs:¬S B):Row w' e B n cap xs:=h.keep (hk.block B h.lt hs)
theorem Row.cell(h:Row w e B n cap xs)(j:Nat)(hj:j<n):w.cell? (ZA B j)=xs[j]?:=World.ownsRow.cellAt h j ae
theorem Row.free(h:Row w e B n cap xs)(j:Nat):w.frozen? (ZA B j)=false:=World.ownsRow.frozenAt h j
theorem Row.put(h:Row w e B n cap xs)(j:Nat)(u:Value):Row (w.setCell (ZA B j) u) e B n cap (xs.set j u)/\Kept (fun k=>k=B) w (w.setCell (ZA B j) u):=by
 exact Hp
variable {e':TypeId}{B' n' cap':Nat}{xs':Zah}
theorem Row.apart(h:Row w e B n cap xs)(h':Row w e' B' n' cap' xs')(he:e≠e'):B≠B':=by
 exact Iw
variable {o:Oper}
theorem bO(w:World){rest:List Oper}(hgd:o.guard=none)
  (s x:Operand) (t:TypeId) (ho:o.op=Op.call { callee:=Callee.builtin Builtin.append,args:=#[s,x],argTypes:=#[t,t] }) (e:TypeId) (i:TypeInfo) (z:Value) (bytes:Nat)
  (h1:P.underlying t=some (.slice e)) (h2:P.info? e=some i) (h3:i.zero=some z) (h4:i.size=1) (h5:i.bytes=bytes) (h6:z.cells.size=1)
  (v:Value) (n:Nat) (xs:Zah) (hs:a.eval s=v) (hown:w.ownsRow 0 e 1 v n xs) (ad:Addr) (u:Value) (hx:a.eval x=.slice (some ad) 1 1) (hu:w.cell? (ad.add 0)=some u) (hu1:u.oneCell'=true)
  (b1:n+1<=maxLen) (b2:(n+1)*bytes<=140737488355328)
  (h:∀(B cap:Nat)(w':World),Row w' e B (n+1) cap (xs++[u])->((v=ZL B n cap/\Kept (fun k=>k=B) w w')\/(w.heap.size<=B/\Kept (fun _=>False) w w'))->wpList P ops Q rest (a.put o.dst (ZL B (n+1) cap)) w') :
  wpList P ops Q (o::rest) a w:=by
 have hnews:∀(j:Nat)(y:Value),[u][j]? =some y->w.cell? (ad.add j)=some y:=by
  intro j y hj
  match j,hj with
  | 0,hj=>simp at hj; subst hj; exact hu
  | j+1,hj=>simp at hj
 have hone:∀y∈[u],y.oneCell'=true:=by intro y hy; simp at hy; subst hy; exact hu1
 have grow:∀(ao:OAz)(cap:Nat),v=.slice ao n cap->(ao=none->n=0/\cap=0)->(∀b,ao=some b->∀(j:Nat)(y:Value),xs[j]? =some y->w.cell? (b.add j)=some y)->cap<n+1->wpList P ops Q (o::rest) a w:=by
  intro ao cap hv hnone holds hfull;refine wpList_append_grows w hgd s x t ho e i z 1 bytes h1 h2 h3 h4 h5 h6 au ao n cap xs (hs.trans hv) hnone hown.1 holds ad 1 1 [u] hx rfl hnews hone hfull b1 b2 ?_;intro v' w' ho' hg'
  rcases ho'.2 with ⟨_,hz⟩ | ⟨g,cp,cur,rfl,hbase,h8⟩
  ·omega
  exact h g cp w' (Row.of ho') (.inr ⟨hbase,(Kept.of_grown hg').mono (fun k hk=>by cases hk)⟩)
 rcases hown.2 with ⟨rfl,rfl⟩ | ⟨g,cap,cur,rfl,_,hh,hnc,hcm,hsz,htk⟩
 ·exact zS
 by_cases hroom:n+1<=cap
 ·refine wpList_append_fits w hgd s x t ho 0 e i 1 h1 h2 h4 g n cap xs hs hown ad 1 1 [u] hx rfl hnews hone hroom ?_;exact zZ
 exact PT
variable {base':Nat}
theorem jO{v:Value}(h:w.ownsRow base e 1 v n xs)(hb:base'<=base):w.ownsRow base' e 1 v n xs:=by
 exact wI
variable {P:Prop}
theorem hid(h:P):Hid P:=h
theorem Zz{a b:Prop}(x:a)(y:b):Hid a/\Hid b:=⟨x,y⟩
theorem ZH{a b c:Prop}(x:a)(y:b)(z:c):Hid a/\Hid b/\Hid c:=⟨x,y,z⟩
theorem ZF{a b c d:Prop}(x:a)(y:b)(z:c)(u:d):Hid a/\Hid b/\Hid c/\Hid d:=⟨x,y,z,u⟩
theorem ZM{a b c d e:Prop}(x:a)(y:b)(z:c)(u:d)(v:e):Hid a/\Hid b/\Hid c/\Hid d/\Hid e:=⟨x,y,z,u,v⟩
theorem ZK{a b c d e f:Prop}(x:a)(y:b)(z:c)(u:d)(v:e)(t:f):Hid a/\Hid b/\Hid c/\Hid d/\Hid e/\Hid f:=⟨x,y,z,u,v,t⟩
theorem Zy{w a b:World}(A:Hid (Below w.heap.size w a))(h:Below a.heap.size a b):Hid (Below w.heap.size w b):=hid (A.out.trans (h.mono A.out.size))
def fl(n:Nat)(f:NIz):List Value:=(List.range n).map fun i=>ZI (f i)
def DT(w:World)(a:OAz)(n cap:Nat)(l:LIz):Prop :=
 l.length=n/\n<=cap/\n<=1099511627776/\(∀z∈l,-9223372036854775808<=z/\z<=9223372036854775807) /\
 (n=0\/∃b off,a=some (ZA b off)/\∀j,j<n->w.cell? (ZA b (off+j))=some (ZI (l.getD j 0)))
variable {a:OAz}{l:LIz}
theorem DT.keep(h:DT w a n cap l)(hk:Kept S w w')(hs:∀b off,a=some (ZA b off)->n≠0->¬S b):DT w' a n cap l:=by
 obtain⟨hz,h1,h2,h3,ha⟩:=h;refine⟨hz,h1,h2,h3,?_⟩
 by_cases h0:n=0
 ·exact .inl h0
 rcases ha with ha | ⟨b,off,e,hc⟩
 ·exact .inl ha
 exact .inr ⟨b,off,e,fun j hj=>hk.cell (hc j hj) (hs b off e h0)⟩
theorem DT.later(h:DT w a n cap l)(hb:Below B w w')(hB:w.heap.size<=B):DT w' a n cap l:=by
 exact Dd
structure Inx where
 c:Int
 a:Int
 la:Option Addr
 ln:Nat
 lc:Nat
 l:List Int
def dx:Inx:=⟨0,0,none,0,0,[]⟩
theorem pow_pos(k:Nat):(0:Int)<128 ^ k:=Int.pow_pos au
def uv:Nat->Int->List Int
 | 0,v=>[v]
 | f+1,v=>if v<128 then [v] else (v%128+128)::uv f (v / 128)
def aw(v:Int):List Int:=uv 9 v
theorem VA(f:Nat):∀v,1<=(uv f v).length/\(uv f v).length<=f+1:=by
 induction f with
 | zero=>intro v; simp[uv]
 | succ f ih =>
  intro v
  by_cases h:v<128
  ·simp[uv,h]
  have:=ih (v / 128);simp only[uv,h,if_false,Z1]; omega
theorem ED(V:Int)(k:Nat)(h:V*128 ^ k<18446744073709551616)(h0:0<=V):V / 128*128 ^ (k+1)<18446744073709551616:=by
 have hs:(128:Int) ^ (k+1)=128*128 ^ k:=by rw[Int.pow_succ,Int.mul_comm]
 rw[hs,<- Int.mul_assoc];have h2:V / 128*128<=V:=ae;have:=Int.mul_le_mul_of_nonneg_right h2 (Int.le_of_lt (pow_pos k));omega
theorem room_end(V:Int)(k:Nat)(h:V*128 ^ k<18446744073709551616)(hk:k<=9)(h128:128<=V):k<=8:=by
 by_cases e:k=9
 ·subst e;have e9:(128:Int) ^ 9=9223372036854775808:=au;rw[e9]at h;omega
 omega
def fo(n:Int):Int:=if n<0 then -2*n-1 else 2*n
theorem mN(n:Int)(h0:-9223372036854775808<=n)(h1:n<9223372036854775808):0<=fo n/\fo n<18446744073709551616:=by
 unfold fo; split <;> omega
theorem ay(v:Int):1<=(aw v).length/\(aw v).length<=10:=VA 9 v
def Seg(w:World)(a:OAz)(n cap:Nat)(zs:LIz):Prop :=
 zs.length=n/\n<=cap/\n<=1099511627776/\(∀z∈zs,0<=z/\z<=255) /\
 (n=0\/∃b off,a=some (ZA b off)/\∀j,j<n->w.cell? (ZA b (off+j))=some (ZU (zs.getD j 0)))
theorem dJ(x:Int)(h0:0<=x)(h1:x<18446744073709551616):IntKind.u64.wrap x=x:=by
 rw[IntKind.wrap_u64]; exact Int.emod_eq_of_lt h0 h1
theorem i64_in(x:Int)(h0:-9223372036854775808<=x)(h1:x<9223372036854775808):IntKind.i64.wrap x=x:=by
 simp[IntKind.wrap,IntKind.bits,IntKind.signed]; omega
theorem Tryz.info5:(prog.info? 5).map (fun i=>(i.zero,i.size,i.bytes))=some (some (ZU 0),1,1):=ak
def cat(Z:Nat->List Int):Nat->List Int
 | 0=>[]
 | k+1=>cat Z k++Z k
theorem Ay(Z:Nat->List Int)(k m:Nat)(h:k<=m):(cat Z k).length<=(cat Z m).length:=by
 induction m with
 | zero =>
  obtain rfl:k=0:=ae;omega
 | succ m ih =>
  by_cases e:k=m+1
  ·subst e; omega
  have:=ih ae; simp only[cat,ZV]; omega
theorem mL(l:LIz):∀u∈l.map (ZU),u.oneCell'=true:=by
 intro u hu;obtain⟨z,_,rfl⟩:=List.mem_map.1 hu;rfl
variable {zs:LIz}
theorem lC(h:Seg w a n cap zs) :
  ∀ad,a=some ad->∀(j:Nat)(u:Value),(zs.map (ZU))[j]? =some u->w.cell? (ad.add j)=some u:=by
 intro ad had j u hu;obtain⟨hz,_,_,_,ha⟩:=h
 have hj:j<zs.length:=by
  rcases Zae j zs.length with h | h
  ·exact h
  simp[List.getElem?_eq_none (show(zs.map (ZU)).length<=j by simpa using h)]at hu
 rcases ha with ha | ⟨b,off,e,hc⟩
 ·omega
 rw[had]at e;simp at e;subst e;have:=hc j ae;have hplain:((ZA b off):Addr).add j=(ZA b (off+j)):=iI;rw[hplain,this];simp[aD hj]at hu;subst hu;simp[List.getD,aD hj]
theorem Seg.later(h:Seg w a n cap zs)(hb:Below B w w')(hB:w.heap.size<=B):Seg w' a n cap zs:=by
 exact Dd
theorem Seg.drewN(h:Seg w a n cap zs)(m:Nat):Seg (w.drewN m) a n cap zs:=by
 obtain⟨hz,h1,h2,h3,ha⟩:=h;refine⟨hz,h1,h2,h3,?_⟩
 rcases ha with ha | ⟨b,off,e,hc⟩
 ·exact .inl ha
 exact .inr ⟨b,off,e,fun j hj=>by rw[World.cell?_drewN]; exact hc j hj⟩
theorem JN(P m cp:Nat)(A:Zao)(L C:Zak)(Z:Nat->List Int)(w:World)(hm:m<=1000)
  (hp:∀j,j<m->w.cell? (ZA P j)=some (.slice (A j) (L j) (C j)))
  (hs:∀j,j<m->Seg w (A j) (L j) (C j) (Z j)/\(A j=none->C j=0)) (hN:(cat Z m).length<=1099511627776) (hPw:P<w.heap.size) :
  Zw 329 #[ZL P m cp] w fun e w'=>e=.returned (ZL w.heap.size (cat Z m).length (cat Z m).length) /\
   w'.ownsRow w.heap.size 5 1 (ZL w.heap.size (cat Z m).length (cat Z m).length) (cat Z m).length ((cat Z m).map (ZU))/\Zx w w':=by
 obtain⟨i0,hi,hz0,hz1,hz2⟩:=Z0 Tryz.info5
 have hb2:i0.bytes*(cat Z m).length<=281474976710656:=by rw[hz2]; omega
 have hml:(cat Z m).length<=maxLen:=aP;go_enter func329,ntmps329
 go_wp2
 go_loop [3,11] (fun s i=>∃k:Nat,k<=m/\i=ZI k/\s=ZI (cat Z k).length) (fun _ i=>m-(intOf i).toNat)
 case atStart=>exact⟨0,ae,rfl,rfl⟩
 case round =>
  obtain⟨k,hk,rfl,rfl⟩:=hrel
  by_cases hlt:k<m
  ·have hcell:=hp k hlt;have hlen:=(hs k hlt).1.1;have hmo:=Ay Z (k+1) m ae
   have HC:=hid (show(cat Z (k+1)).length=(cat Z k).length+L k by simp[cat,hlen])
   have hle:(cat Z k).length+L k<=1099511627776:=by have:=HC.out; omega
   clear hp hs hlen hmo hb2 hml hi hz0 hz1 hz2 hN;go_wp2
   go_round
   case rel=>exact⟨k+1,ae,bu,by rw[HC.out]; go_num⟩
   case measure=>simp[intOf]; omega
  obtain rfl:k=m:=ae
  go_wp2_with (first | (at_make; refine wpList_make_own _ rfl _ _ 63 rfl w.heap.size 5 i0 (ZU 0) 1 underlying63 hi hz0 hz1 .i64 .i64 _ (cat Z k).length rfl rfl rfl hb2 hml lRn ?_; intro w1 hown hgrow))
  have hbel:Zx w w1:=(ZT _ _).grown hgrow lRn av;clear hgrow
  go_loopw [6,24] (fun v i wr=>∃j:Nat,j<=k/\i=ZI j/\v=ZL w.heap.size (cat Z j).length (cat Z k).length /\
   wr.ownsRow w.heap.size 5 1 (ZL w.heap.size (cat Z j).length (cat Z k).length) (cat Z j).length ((cat Z j).map (ZU))/\Zx w wr) (fun _ i _=>k-(intOf i).toNat)
  case atStart=>exact⟨0,ae,rfl,rfl,hown,hbel⟩
  case round =>
   obtain⟨j,hj,rfl,rfl,qaa,hb⟩:=hrel;clear hown hbel
   by_cases hjk:j<k
   ·have hcell:wr.cell? (ZA P j)=some (.slice (A j) (L j) (C j)):=(hb.cell (p:=(ZA P j)) hPw).trans (hp j hjk);obtain⟨hseg,hnone⟩:=hs j hjk;have hsl:=hseg.later hb lRn
    have hnn:A j=none->L j=0/\C j=0:=fun h=>⟨by have:=hnone h; have:=hseg.2.1; omega,hnone h⟩;have hcl:=lC hsl
    have hlen:((Z j).map (ZU)).length=L j*1:=by simp[hseg.1]
    have hmo:=Ay Z (j+1) k ae;have HC:=hid (show(cat Z (j+1)).length=(cat Z j).length+L j by simp[cat,hseg.1])
    have hroom:(cat Z j).length+L j<=(cat Z k).length:=by have:=HC.out; omega
    obtain⟨HB,HO,HL,HN⟩:=ZF hb qaa hcl hnn;clear hp hs hb qaa hseg hnone hsl hcl hnn hmo
    go_wp2_with (first | (at_builtin; refine wpList_append_fits_any _ rfl _ _ 63 rfl w.heap.size 5 i0 1 underlying63 hi hz1 w.heap.size (cat Z j).length (cat Z k).length _ rfl HO.out (A j) (L j) (C j) ((Z j).map (ZU)) rfl hlen HN.out HL.out (mL _) hroom ?_; intro w2 hown2 hgrow2))
    have hb2':Zx w w2:=HB.out.grown hgrow2 (HB.out.size) av
    have ho2:w2.ownsRow w.heap.size 5 1 (ZL w.heap.size (cat Z (j+1)).length (cat Z k).length) (cat Z (j+1)).length ((cat Z (j+1)).map (ZU)):=by
     rw[HC.out]; simp only[cat,List.map_append]; exact hown2
    exact⟨⟨j+1,ae,bu,by rw[HC.out],ho2,hb2'⟩,bD⟩
   obtain rfl:j=k:=ae;clear hp hs;go_wp2;go_ret;exact⟨rfl,qaa,hb⟩
theorem Fw(h:w.ownsRow base 5 1 (ZL B n cap) n (zs.map (ZU)))(hl:zs.length=n)(hn:n<=1099511627776)(hr:∀z∈zs,0<=z/\z<=255)(hcap:n<=cap) :
  Seg w (some (ZA B 0)) n cap zs:=by
 refine⟨hl,hcap,hn,hr,.inr ⟨B,0,rfl,fun j hj=>?_⟩⟩;rw[Nat.zero_add,h.cellAt j ae];have hj':j<zs.length:=ae;simp[hj']
theorem Kp(Z:Nat->List Int)(m:Nat)(h:∀j,j<m->∀z∈Z j,0<=z/\z<=255):∀z∈cat Z m,0<=z/\z<=255:=by
 induction m with
 | zero=>intro z hz; simp[cat]at hz
 | succ m ih =>
  intro z hz;simp only[cat,List.mem_append]at hz
  rcases hz with hz | hz
  ·exact ih (fun j hj=>h j ae) z hz
  exact h m ae z hz
theorem PH(P m cp:Nat)(A:Zao)(L C:Zak)(Z:Nat->List Int)(w:World)(hm:m<=1000)
  (hp:∀j,j<m->w.cell? (ZA P j)=some (.slice (A j) (L j) (C j)))
  (hs:∀j,j<m->Seg w (A j) (L j) (C j) (Z j)/\(A j=none->C j=0)) (hN:(cat Z m).length<=1099511627776) (hPw:P<w.heap.size) (h0:0<(cat Z m).length) :
  Zw 329 #[ZL P m cp] w fun e w'=>e=.returned (ZL w.heap.size (cat Z m).length (cat Z m).length) /\
   Seg w' (some (ZA w.heap.size 0)) (cat Z m).length (cat Z m).length (cat Z m)/\Zx w w'/\w.heap.size<w'.heap.size:=by
 refine(JN P m cp A L C Z w hm hp hs hN hPw).mono fun e w' ⟨he,ho,hb⟩=>?_;have hseg:=Fw ho rfl hN (Kp Z m fun j hj=>(hs j hj).1.2.2.2.1) lRn;refine⟨he,hseg,hb,?_⟩
 rcases hseg.2.2.2.2 with h | ⟨b,off,e1,hc⟩
 ·omega
 have:=hc 0 h0;simp at e1;have:=ZQ this;simp only at this;omega
variable {V:Int}
theorem Vy(h0:0<=V)(h1:V<18446744073709551616):bits .and .u64 V 127=V%128:=by
 rw[u64_and V 127 h0 h1 au au];simp only[Int.reduceToNat];rw[nat_mask7]; omega
theorem X6{c:Int}(h0:0<=c)(h1:c<128):bits .or .u8 c 128=c+128:=by
 rw[u8_or c 128 h0 ae au au];simp only[Int.reduceToNat];rw[Nat.or_comm,nat_join 7 128 c.toNat au (by simp only[Nat.reducePow]; omega)];omega
theorem UY(pre:LIz)(k m:Nat)(c:Int)(h:pre.length=k):((pre++List.replicate (m+1) 0).map (ZU)).set k (ZU c)=((pre++[c])++List.replicate m 0).map (ZU):=by
 subst h;rw[<- List.map_set]
 congr 1
 rw[List.set_append_right _ _ ae];simp[List.replicate_succ]
variable {wr:World}{k:Nat}
theorem N5{pre:LIz}(c:Int)(hk:k<=9)(hp:pre.length=k)
  (hown:wr.ownsRow w.heap.size 379 1 (ZL w.heap.size 10 10) 10 ((pre++List.replicate (10-k) 0).map (ZU))) (hb:Zx w wr) :
  (wr.setCell (ZA w.heap.size k) (ZU c)).ownsRow w.heap.size 379 1 (ZL w.heap.size 10 10) 10 (((pre++[c])++List.replicate (10-(k+1)) 0).map (ZU)) /\
   Zx w (wr.setCell (ZA w.heap.size k) (ZU c)):=by
 have h:=hown.stored k (ZU c);have e:10-k=10-(k+1)+1:=ae;rw[e,UY pre k _ c hp]at h;exact⟨h.1,hb.setCell av _⟩
theorem Tryz.len379:prog.arrayLen 379=10:=ak
theorem Tryz.und379:prog.underlying 379=some (.array (prog.arrayLen 379) (prog.elem 379)):=ak
theorem Tryz.size379(w:World):(sizeOf (prog.elem 379)).run prog w=.ok 1 w:=ak
theorem yZ(B k:Nat)(hk:k<=9)(w:World) :
  (Instr.sliceAt 379 (ZP B 0) none (some (ZI ((k:Int)+1))) none).run prog w=.ok (ZL B (k+1) 10) w:=by
 rw[run_sliceAt_array_h w 379 (ZA B 0) Tryz.und379 .i64 ((k:Int)+1) ae (by rw[Tryz.len379]; omega),Tryz.size379];have e:((k:Int)+1).toNat=k+1:=ae;simp only[Result.andThen,slicedAt,Tryz.len379,e];simp[Addr.add]
variable {W:World}
theorem Cw{V v:Int}{pre:LIz}(hk:k<=9)(hp:pre.length=k)(hV:0<=V)(hV1:V<128)(huv:aw v=pre++[V])(tw:∀z∈pre,0<=z/\z<=255)
  (ho:W.ownsRow w.heap.size 379 1 (ZL w.heap.size 10 10) 10 (((pre++[V])++List.replicate (10-(k+1)) 0).map (ZU))) (hb:Zx w W) (hsz:W.heap.size=w.heap.size+1) :
  Zw 329 #[ZL (w.heap.size+1) 1 1] (W.alloc (jh (some (ZA w.heap.size 0)) (k+1) 10)) fun e w' =>
   e=.returned (ZL (w.heap.size+2) (aw v).length (aw v).length) /\
   Seg w' (some (ZA (w.heap.size+2) 0)) (aw v).length (aw v).length (aw v)/\Zx w w'/\w.heap.size+2<w'.heap.size:=by
 have hlen:(aw v).length=k+1:=by rw[huv]; simp[hp]
 have hr:∀z∈aw v,0<=z/\z<=255:=by
  intro z hz;rw[huv]at hz;exact IC
 have hseg:Seg W (some (ZA w.heap.size 0)) (k+1) 10 (aw v):=by
  refine⟨hlen,ae,ae,hr,.inr ⟨_,0,rfl,fun j hj=>?_⟩⟩;rw[Nat.zero_add,ho.cellAt j ae,huv]
  have hj':j<(pre++[V]).length:=by simp[hp]; omega
  rw[List.getElem?_map,Zaa hj'];simp[aD hj']
 have kb:Zx W (W.alloc (jh (some (ZA w.heap.size 0)) (k+1) 10)):=(ZT _ _).alloc lRn _
 have hs2:(W.alloc (jh (some (ZA w.heap.size 0)) (k+1) 10)).heap.size=w.heap.size+2:=by simp[hsz]
 have hc1:cat (fun _=>aw v) 1=aw v:=by simp[cat]
 have J:=PH (w.heap.size+1) 1 1 (fun _=>some (ZA w.heap.size 0)) (fun _=>k+1) (fun _=>10) (fun _=>aw v) (W.alloc (jh (some (ZA w.heap.size 0)) (k+1) 10)) ae
  (fun j hj=>by
   obtain rfl:j=0:=ae
   rw[<- hsz]; simp)
  (fun j _=>⟨hseg.later kb lRn,fun h=>bS⟩) (by rw[hc1]; omega) (by rw[hs2]; omega) (by rw[hc1]; omega)
 rw[hc1,hs2]at J;refine J.mono fun e w' ⟨he,X1,hbl,hz⟩=>⟨he,X1,?_,hz⟩;exact(hb.trans (kb.mono ae)).trans (hbl.mono ae)
theorem wE(v:Int)(w:World)(h0:0<=v)(h1:v<18446744073709551616) :
  Zw 325 #[.int .u64 v] w fun e w'=>e=.returned (ZL (w.heap.size+2) (aw v).length (aw v).length) /\
   Seg w' (some (ZA (w.heap.size+2) 0)) (aw v).length (aw v).length (aw v)/\Zx w w'/\w.heap.size+2<w'.heap.size:=by
 go_enter func325,ntmps325
 go_wp2
 go_loopw [0,4] (fun x i wr=>∃(k:Nat)(V:Int)(pre:LIz),k<=9/\i=ZI k/\x=.int .u64 V/\pre.length=k/\0<=V/\V<18446744073709551616/\V*128 ^ k<18446744073709551616/\aw v=pre++uv (9-k) V/\(∀z∈pre,0<=z/\z<=255) /\
   wr.ownsRow w.heap.size 379 1 (ZL w.heap.size 10 10) 10 ((pre++List.replicate (10-k) 0).map (ZU))/\Zx w wr/\wr.heap.size=w.heap.size+1) (fun x _ _=>(intOf x).toNat)
 case atStart =>
  exact⟨0,v,[],ae,rfl,rfl,rfl,h0,h1,mJ,rfl,av,World.ownsRow_lit w _ 10 lRn au rfl,(ZT _ _).alloc lRn _,av⟩
 case round =>
  obtain⟨k,V,pre,hk,rfl,rfl,hpl,hV0,hV1,hroom,huv,tw,hown,hb,hsz⟩:=hrel
  have hcl:∃u,wr.cell? (ZA w.heap.size k)=some u:=by
   have:=hown.cellAt k ae;exact⟨_,this.trans (aD (by simp[hpl]; omega))⟩
  obtain⟨u0,hcl⟩:=hcl;have hfz:=hown.frozenAt k;have HS:=hid (fun c=>N5 c hk hpl hown hb);obtain⟨HU,HP,HR⟩:=ZH huv hpl hroom;clear huv hown hb hpl hroom
  by_cases h128:128<=V
  ·have hk8:=room_end V k HR.out hk h128;have hand:=Vy hV0 hV1;have To:=X6 (c:=V%128) ae ae
   have HN:=hid (show aw v=(pre++[V%128+128])++uv (9-(k+1)) (V / 128) by
    rw[HU.out,show 9-k=9-(k+1)+1 by omega];have hn:¬V<128:=ae
    simp[uv,hn])
   go_wp2;have R:=HS.out (V%128+128)
   refine⟨⟨k+1,V / 128,pre++[V%128+128],ae,bu,rfl,by simp[HP.out],ae,ae,ED V k HR.out hV0,HN.out,?_,R.1,R.2,by simp[hsz]⟩,bD⟩;intro z hz;exact IC
  have hsl:=yZ w.heap.size k hk
  have HF:=hid (show aw v=pre++[V] by
   rw[HU.out]
   cases h9:9-k with
   | zero=>rfl
   | succ f =>
    have hn:V<128:=ae
    simp[uv,hn])
  have HJ:=hid (Cw hk HP.out hV0 ae HF.out tw (HS.out V).1 (HS.out V).2 (by simp[hsz]))
  go_wp2_with (first | (go_at_call 329; refine HJ.out.mono ?_; rintro e w' ⟨rfl,hseg,hbl,hz⟩))
  go_ret;exact⟨rfl,hseg,hbl,hz⟩
theorem own_below{v:Value}(hown:w.ownsRow base 5 1 v n xs)(hg:w.grownBy w' v.ownBlock)(hbase:base<=w.heap.size):Below base w w':=by
 refine⟨hg.os,hg.tape,hg.output,hg.size,fun k hk=>hg.block k ae ?_⟩
 rcases hown.2 with ⟨rfl,_⟩ | ⟨g,cap,cur,rfl,hbg,_⟩
 ·simp[Value.ownBlock]
 simp[Value.ownBlock]; omega
variable {a:Act}
theorem kz(w:World){rest:List Oper}(hgd:o.guard=none)
  (s x:Operand) (ho:o.op=Op.call { callee:=Callee.builtin Builtin.append,args:=#[s,x],argTypes:=#[63,63] }) (base:Nat) (v:Value) (n:Nat) (xs:LIz)
  (hs:a.eval s=v) (hown:w.ownsRow base 5 1 v n (xs.map (ZU))) (ao:OAz) (m c:Nat) (zs:LIz) (hx:a.eval x=.slice ao m c)
  (hseg:Seg w ao m c zs) (hnone:ao=none->c=0) (hb:n+m<=1099511627776) (hbase:base<=w.heap.size)
  (h:∀(v':Value)(w':World),w'.ownsRow base 5 1 v' (n+m) ((xs++zs).map (ZU))->Below base w w'->wpList prog ops Q rest (a.put o.dst v') w') :
  wpList prog ops Q (o::rest) a w:=by
 obtain⟨i0,hi,hz0,hz1,hz2⟩:=Z0 Tryz.info5
 cases ao with
 | none =>
  have hc:=hnone rfl;subst hc
  have hm:m=0:=by have:=hseg.2.1; omega
  subst hm;have hzs:zs=[]:=Z6 hseg.1;subst hzs;refine wpList_append_own_none hgd s x 63 ho base 5 i0 1 underlying63 hi v n _ hs hown hx ?_;refine h v w ?_ (ZT _ _)
  simpa using hown
 | some ad =>
  refine wpList_append_own w hgd s x 63 ho base 5 i0 (ZU 0) 1 1 underlying63 hi hz0 hz1 hz2 rfl au v n _ hs hown ad m c (zs.map (ZU)) hx (by simp[hseg.1])
   (lC hseg ad rfl) (mL _) aP ae hbase ?_
  exact EU
theorem lM{v:Value}(h:w.ownsRow base 5 1 v n (zs.map (ZU)))(hn:n<=1099511627776)(hr:∀z∈zs,0<=z/\z<=255) :
  ∃a c,v=.slice a n c/\Seg w a n c zs/\(a=none->c=0):=by
 have hl:zs.length=n:=by have:=h.1; simpa using this
 rcases h.2 with ⟨rfl,rfl⟩ | ⟨g,cap,cur,rfl,hbg,hh,hnc,_⟩
 ·exact⟨none,0,rfl,⟨hl,Nat.le_refl _,hn,hr,.inl rfl⟩,fun _=>rfl⟩
 exact⟨_,cap,rfl,Fw h hl hn hr hnc,fun h=>bS⟩
theorem MN(x:Int)(h0:0<=x)(h1:x<18446744073709551616):bits .xor .u64 x 18446744073709551615=18446744073709551615-x:=by
 obtain⟨a,rfl⟩:=Int.eq_ofNat_of_zero_le h0;show IntKind.u64.wrap ((BitVec.ofInt 64 (a:Int) ^^^ BitVec.ofInt 64 18446744073709551615).toNat:Int)=_;have e1:BitVec.ofInt 64 18446744073709551615=BitVec.allOnes 64:=au;rw[e1,BitVec.xor_allOnes,BitVec.toNat_not,ofInt_u64 a ae,IntKind.wrap_u64];omega
theorem Qp(x:Int)(h0:0<=x)(h1:x<18446744073709551616):bits .xor .u64 x 0=x:=by
 obtain⟨a,rfl⟩:=Int.eq_ofNat_of_zero_le h0;show IntKind.u64.wrap ((BitVec.ofInt 64 (a:Int) ^^^ BitVec.ofInt 64 0).toNat:Int)=_;have e1:BitVec.ofInt 64 0=0#64:=au;rw[e1,BitVec.xor_zero,ofInt_u64 a ae,IntKind.wrap_u64];omega
theorem VV(v:Int)(h:0<=v)(h1:v<9223372036854775808):bits .xor .u64 (v*2) (v / 9223372036854775808)=fo v:=by
 have e:v / 9223372036854775808=0:=ae;rw[e,Qp _ ae ae];unfold fo;rw[if_neg ae]; omega
theorem Xk(v:Int)(h:v<0)(h0:-9223372036854775808<=v):bits .xor .u64 (IntKind.u64.wrap (IntKind.u64.wrap v*2)) (IntKind.u64.wrap (v / 9223372036854775808))=fo v:=by
 have e:v / 9223372036854775808=-1:=ae;rw[e];have e1:IntKind.u64.wrap (-1)=18446744073709551615:=au
 have e2:IntKind.u64.wrap (IntKind.u64.wrap v*2)=18446744073709551616+2*v:=by
  rw[IntKind.wrap_u64,IntKind.wrap_u64]; omega
 rw[e1,e2,MN _ ae ae];unfold fo;rw[if_pos h]; omega
theorem U0(v:Int)(w:World)(h0:-9223372036854775808<=v)(h1:v<9223372036854775808) :
  Zw 331 #[ZI v] w (ZG (.int .u64 (fo v)) w):=by
 by_cases h:0<=v
 ·have HF:=hid (VV v h h1);exact Hn
 have HF:=hid (Xk v ae h0);exact Hn
theorem NS(v:Int)(w:World)(h0:-9223372036854775808<=v)(h1:v<9223372036854775808) :
  Zw 327 #[ZI v] w fun e w'=>e=.returned (ZL (w.heap.size+2) (aw (fo v)).length (aw (fo v)).length) /\
   Seg w' (some (ZA (w.heap.size+2) 0)) (aw (fo v)).length (aw (fo v)).length (aw (fo v))/\Zx w w'/\w.heap.size+2<w'.heap.size:=by
 have hr:=mN v h0 h1;have HA:=hid (U0 v w h0 h1);have HB:=hid (wE (fo v) w hr.1 hr.2);clear hr;generalize fo v=u at *;generalize aw u=l at *;go_enter func327,ntmps327
 go_wp2_with fail;refine HA.out.mono ?_;rintro e w1⟨rfl,rfl⟩;go_wp2_with fail;refine HB.out.mono ?_;rintro e w2⟨rfl,hs,hb,hz⟩;go_wp2;go_ret;exact⟨rfl,hs,hb,hz⟩
def bh(s:BAz):List Int:=s.data.toList.map fun c=>(c.toNat:Int)
theorem gm(s:BAz):(bh s).length=s.size:=by
 rw[bh,List.length_map]; exact Zab
theorem mX(s:BAz):∀z∈bh s,0<=z/\z<=255:=by
 intro z hz;obtain⟨c,_,rfl⟩:=List.mem_map.1 hz;have:=c.toNat_lt;omega
theorem tQ(w:World)(s:BAz)(hs:s.size<=1000000):∃c W,(convert 9 63 (.string s)).run prog w=.ok (ZL w.heap.size s.size c) W /\
  Seg W (some (ZA w.heap.size 0)) s.size c (bh s)/\Zx w W/\W.heap.size=w.heap.size+1:=by
 refine⟨_,_,run_bytes_of_string w 9 63 5 s underlying9 underlying63 underlying5,?_,?_,?_⟩
 ·refine⟨gm s,grownCap_ge _ _ _ _,ae,mX s,.inr ⟨_,0,rfl,fun j hj=>?_⟩⟩
  have hj':j<s.data.size:=hj;have hb:=bytesRow_at s (grownCap w s.size 0 5) j hj'
  have hlt:j<(bytesRow s (grownCap w s.size 0 5)).size:=by
   rcases Zae j (bytesRow s (grownCap w s.size 0 5)).size with h | h
   ·exact h
   rw[Zaf h]at hb; cases hb
  rw[Nat.zero_add];have:(w.drew.alloc (.cells (bytesRow s (grownCap w s.size 0 5)) 5 ((bytesRow s (grownCap w s.size 0 5)).size,(bytesRow s (grownCap w s.size 0 5)).size+1))).cell? (ZA w.heap.size j)=(bytesRow s (grownCap w s.size 0 5))[j]? :=
   World.cell?_alloc_mark w.drew _ _ _ j
  rw[this,hb]
  have hjl:j<s.data.toList.length:=by rw[Zab]; exact hj'
  have e:(bh s).getD j 0=((s.data.toList[j]'hjl).toNat:Int):=by
   simp only[bh,Z3,List.getElem?_map,aD hjl,Option.map_some,Option.getD_some]
  rw[e,Array.getElem_toList]
 ·exact((ZT _ _).drew).alloc av _
 simp
variable {s:BAz}
theorem C7{c:Nat}(h1:Seg w1 (some (ZA (w.heap.size+2) 0)) l.length l.length l)(b1:Zx w w1)(z1:w.heap.size+2<w1.heap.size)
  (h2:Seg W (some (ZA w1.heap.size 0)) s.size c (bh s)) (b2:Zx w1 W) (z2:W.heap.size=w1.heap.size+1) (hl:1<=l.length) (hl10:l.length<=10) (hs:s.size<=1000000) :
  Zw 329 #[ZL W.heap.size 2 2]
   (W.alloc (.cells #[ZL (w.heap.size+2) l.length l.length,ZL w1.heap.size s.size c] 63)) fun e w' =>
   e=.returned (ZL (W.heap.size+1) (l.length+s.size) (l.length+s.size)) /\
   Seg w' (some (ZA (W.heap.size+1) 0)) (l.length+s.size) (l.length+s.size) (l++bh s)/\Zx w w'/\w.heap.size<=W.heap.size+1/\W.heap.size+1<w'.heap.size:=by
 have kb:Zx W (W.alloc (.cells #[ZL (w.heap.size+2) l.length l.length,ZL w1.heap.size s.size c] 63)):=(ZT _ _).alloc lRn _;have hsz:(W.alloc (.cells #[ZL (w.heap.size+2) l.length l.length,ZL w1.heap.size s.size c] 63)).heap.size=W.heap.size+1:=av
 have hc:cat (fun j=>if j=0 then l else bh s) 2=l++bh s:=by simp[cat]
 have hlen:(l++bh s).length=l.length+s.size:=by rw[ZV,gm]
 have b1s:=b1.size
 have J:=PH W.heap.size 2 2 (fun j=>if j=0 then some (ZA (w.heap.size+2) 0) else some (ZA w1.heap.size 0)) (fun j=>if j=0 then l.length else s.size) (fun j=>if j=0 then l.length else c) (fun j=>if j=0 then l else bh s)
  (W.alloc (.cells #[ZL (w.heap.size+2) l.length l.length,ZL w1.heap.size s.size c] 63)) ae
  (fun j hj=>by
   rcases (show j=0\/j=1 by omega) with rfl | rfl <;> simp)
  (fun j hj=>by
   rcases (show j=0\/j=1 by omega) with rfl | rfl
   ·exact⟨(h1.later b2 lRn).later kb lRn,fun h=>bS⟩
   exact⟨h2.later kb lRn,fun h=>bS⟩)
  (by rw[hc,hlen]; omega) (by rw[hsz]; omega) (by rw[hc,hlen]; omega)
 rw[hc,hlen,hsz]at J;refine J.mono fun e w' ⟨he,X1,hbl,hz⟩=>⟨he,X1,?_,ae,hz⟩;exact((b1.trans (b2.mono ae)).trans (kb.mono ae)).trans (hbl.mono ae)
theorem VC(s:BAz)(w:World)(hs:s.size<=1000000) :
  Zw 328 #[.string s] w fun e w'=>∃B,e=.returned (ZL B ((aw s.size).length+s.size) ((aw s.size).length+s.size)) /\
   Seg w' (some (ZA B 0)) ((aw s.size).length+s.size) ((aw s.size).length+s.size) (aw s.size++bh s)/\Zx w w'/\w.heap.size<=B/\B<w'.heap.size:=by
 have HB:=hid (wE s.size w ae ae);have hl:=ay s.size;generalize aw s.size=l at *;go_enter func328,ntmps328
 go_wp2_with fail;refine HB.out.mono ?_;rintro e w1⟨rfl,hs1,hb1,hz1⟩;obtain⟨c,W,hrun,X1,lp,hsz⟩:=tQ w1 s hs;obtain⟨iS,SO,HS2,P2,HZ⟩:=ZM hs1 hb1 X1 lp hsz;clear hs1 hb1 X1 lp hsz;have HJ:=hid (C7 (w:=w) iS.out SO.out hz1 HS2.out P2.out HZ.out hl.1 ae hs);go_wp2_with fail;refine HJ.out.mono ?_;rintro e w2⟨rfl,hs2,hb2,hw,hz2⟩;go_wp2;go_ret;exact⟨_,rfl,hs2,hb2,hw,hz2⟩
def isL(c:Int):Bool:=decide (c=119) || decide (c=108)
theorem Q3{c:Int}(h:isL c=true):c<128:=by
 simp only[isL,Bool.or_eq_true,decide_eq_true_eq]at h; omega
theorem nP(c:Int):(c=119/\isL c=true)\/(c=108/\isL c=true)\/((c==119)=false/\(c==108)=false/\isL c=false):=by
 by_cases h:c=119
 ·exact .inl ⟨h,by subst h; rfl⟩
 by_cases h':c=108
 ·exact .inr (.inl ⟨h',by subst h'; rfl⟩)
 exact .inr (.inr ⟨lY,by simpa using h',by simp[isL,h,h']⟩)
theorem pR(c:Int)(w:World):Zw 187 #[ZU c] w fun e w'=>e=.returned (.bool (isL c))/\w'=w:=by
 rcases nP c with ⟨rfl,h⟩ | ⟨rfl,h⟩ | ⟨h1,h2,h⟩
 all_goals
  go_enter func187,ntmps187
  go_wp2;go_ret
  first | exact⟨rfl,rfl⟩ | (rw[h]; simp_all)
theorem pL(c:Int)(w:World):Zw 214 #[ZU c] w fun e w'=>e=.returned (.bool (isL c))/\w'=w:=by
 rcases nP c with ⟨rfl,h⟩ | ⟨rfl,h⟩ | ⟨h1,h2,h⟩
 all_goals
  go_enter func214,ntmps214
  go_wp2;go_ret
  first | exact⟨rfl,rfl⟩ | (rw[h]; simp_all)
def ib(v c:Int):Bool:=decide (c=108) || (decide (c=119)&&decide (v<4294967296))
theorem U5(v c:Int)(w:World):Zw 231 #[.int .u64 v,ZU c] w fun e w'=>e=.returned (.bool (ib v c))/\w'=w:=by
 rcases nP c with ⟨rfl,h⟩ | ⟨rfl,h⟩ | ⟨h1,h2,h⟩
 all_goals
  go_enter func231,ntmps231
  go_wp2;go_ret
  first | exact⟨rfl,rfl⟩ | (simp_all [ib])
theorem XI(k m c:Int)(B:Nat)(w:World)(hm:w.cell? (ZA B 0)=some (ZI m)) :
  Zw 235 #[ZI k,ZU c,ZP B 0] w (ZG (.bool (decide (k<m))) w):=by
 go_enter func235,ntmps235
 go_wp2;go_ret;exact⟨rfl,rfl⟩
def fR(s:BAz)(i:Nat):Int:=((s.data.toList[i]?.getD 0).toNat:Int)
theorem lI(s:BAz)(i:Nat)(h:i<s.size):((s[i]'h).toNat:Int)=fR s i:=by
 have h':i<s.data.toList.length:=lY;rw[fR,aD h',Option.getD_some,Array.getElem_toList]; rfl
theorem Vo(s:BAz)(K B:Nat)(p:Nat->Bool)(w:World)(hs:s.size<=1073741824)
  (he:∀args w,(callFunc K args).run prog w=.ok (.enter K args) w)
  (hp:∀(pos i:Nat)(h:i<s.size),isL (fR s i)=true->Zw K #[ZI i,ZU (s[i]'h).toNat,ZP B 0] (w.iter s pos) fun e w'=>e=.returned (.bool (p i))/\w'=w.iter s pos) :
  Zw 234 #[.string s,.func (.func K) #[] #[.pointer (some ⟨B,0,none⟩)]] w fun e w' =>
   ∃b pos,e=.returned (.bool b)/\(b=true↔∀i,i<s.size->isL (fR s i)=true/\p i=true)/\w'=w.iter s pos:=by
 have HP:=hid hp;clear hp;go_enter func234,ntmps234
 go_wp2
 go_loopw [5] (fun _ wr=>∃k:Nat,k<=s.size/\wr=w.iter s k/\∀i,i<k->isL (fR s i)=true/\p i=true) (fun _ wr=>s.size-wr.iterPos w.heap.size)
 case atStart=>exact⟨0,Z5 _,rfl,fun i h=>ae⟩
 case round =>
  obtain⟨k,hk,rfl,hall⟩:=hrel;have HA:=hid hall;clear hall
  by_cases hlt:k<s.size
  ·by_cases hL:isL (fR s k)=true
   ·have qap:(s[k]'hlt).toNat<128:=by have:=Q3 hL; rw[<- lI s k hlt]at this; omega
    have hnx:∀ty,(Instr.next (ZP w.heap.size 0) true ty).run prog (w.iter s k)=_:=fun ty=>run_next_ascii w s k ty hlt qap
    go_wp2_with fail;refine(pR _ _).mono ?_;rintro e w1⟨rfl,rfl⟩;rw[lI s k hlt,hL];go_wp2_with fail;refine(HP.out (k+1) k hlt hL).mono ?_;rintro e w2⟨rfl,rfl⟩
    cases hpk:p k
    ·go_wp2;go_ret
     exact⟨false,k+1,rfl,⟨fun h=>(nomatch h),fun h=>(by rw[(h k hlt).2]at hpk; cases hpk)⟩,rfl⟩
    go_wp2
    go_roundw
    case rel =>
     refine⟨k+1,ae,rfl,fun i hi=>?_⟩
     rcases Zae i k with h | h
     ·exact HA.out i h
     obtain rfl:i=k:=ae;exact⟨hL,hpk⟩
    case measure=>simp; omega
   have hL':isL (fR s k)=false:=by simpa using hL
   have hnx:∀ty,(Instr.next (ZP w.heap.size 0) true ty).run prog (w.iter s k)=_:=fun ty=>run_next_any w s k ty hlt;generalize (Utf8.decode s k).2=wd at hnx;generalize (Utf8.decode s k).1=rv at hnx;go_wp2_with fail;refine(pR _ _).mono ?_;rintro e w1⟨rfl,rfl⟩;rw[lI s k hlt,hL'];go_wp2;go_ret;exact⟨false,_,rfl,⟨fun h=>(nomatch h),fun h=>absurd (h k hlt).1 hL⟩,rfl⟩
  have hnx:∀ty,(Instr.next (ZP w.heap.size 0) true ty).run prog (w.iter s k)=_:=fun ty=>run_next_end w s k ty hlt
  go_wp2;go_ret
  exact⟨true,_,rfl,⟨fun _ i hi=>HA.out i ae,fun _=>rfl⟩,rfl⟩
def bY(s:BAz)(most:Nat):Bool:=(List.range s.size).all (fun i=>isL (fR s i))&&decide (s.size<=most)
theorem pT(s:BAz)(most:Nat):bY s most=true↔(∀i,i<s.size->isL (fR s i)=true)/\s.size<=most:=by
 simp[bY]
variable {most:Nat}{b:Bool}
theorem sS(h:b=true↔(∀i,i<s.size->isL (fR s i)=true)/\s.size<=most):b=bY s most :=
 Bool.eq_iff_iff.2 (h.trans (pT s most).symm)
theorem ny(s:BAz)(most:Nat)(w:World)(hs:s.size<=1073741824)(hm:most<=1073741824) :
  Zw 204 #[.string s,ZI most] w (ZC (.bool (bY s most)) w):=by
 have hmf:∀(fn:Fn)(first cap:AVz)(w:World),(Instr.makeFunc fn first cap).run prog w=.ok (.func fn first cap) w:=fun _ _ _ _=>rfl
 have HE:=hid (Vo s 235 w.heap.size (fun i=>decide ((i:Int)<most)) (w.alloc (bR most)) hs (fun _ _=>by rfl) (fun pos i h _=>XI i most _ w.heap.size _ (by
  rw[World.iter,World.cell?_alloc_past _ _ _ av,World.cell?_alloc_at _ _ _ _ rfl]; rfl)))
 go_enter func204,ntmps204
 go_wp2_with fail;refine HE.out.mono ?_;rintro e w1⟨b,pos,rfl,hb,rfl⟩;go_wp2;go_ret
 have hbl:b=bY s most:=by
  refine sS (hb.trans ⟨fun h=>⟨fun i hi=>(h i hi).1,?_⟩,fun h i hi=>⟨h.1 i hi,aA⟩⟩)
  rcases Nat.eq_zero_or_pos s.size with h0 | h0
  ·omega
  have:=(h (s.size-1) ae).2;simp at this;omega
 subst hbl;exact⟨rfl,((ZT _ _).alloc lRn _).alloc av _⟩
theorem qE(s:BAz)(most:Nat)(w:World)(hs:s.size<=1073741824)(hm:most<=1073741824) :
  Zw 162 #[.string s,ZI most] w (ZG (.bool (bY s most)) w):=by
 by_cases hbig:most<s.size
 ·exact PD
 have h':¬(most:Int)<s.size:=ae;go_enter func162,ntmps162
 go_wp2
 go_loop [5] (fun i=>∃k:Nat,k<=s.size/\i=ZI k/\∀i,i<k->isL (fR s i)=true) (fun i=>s.size-(intOf i).toNat)
 case atStart=>exact⟨0,Z5 _,rfl,fun i h=>ae⟩
 case round =>
  obtain⟨k,hk,rfl,hall⟩:=hrel;have HA:=hid hall;clear hall
  by_cases hlt:k<s.size
  ·have hlt':(k:Int)<s.size:=ae
   cases hL:isL (fR s k)
   ·go_wp2_with fail;refine(pL _ _).mono ?_;rintro e w1⟨rfl,rfl⟩;rw[lI s k hlt,hL];go_wp2;go_ret
    have hb:false=bY s most:=sS ⟨fun h=>(nomatch h),fun h=>by rw[h.1 k hlt]at hL; cases hL⟩;exact⟨by rw[<- hb]; rfl,rfl⟩
   go_wp2_with fail;refine(pL _ _).mono ?_;rintro e w1⟨rfl,rfl⟩;rw[lI s k hlt,hL];go_wp2
   refine⟨⟨k+1,ae,av,fun i hi=>?_⟩,bD⟩
   rcases Zae i k with h | h
   ·exact HA.out i h
   obtain rfl:i=k:=ae;exact hL
  have hlt':¬(k:Int)<s.size:=ae;go_wp2;go_ret;have hb:true=bY s most:=sS ⟨fun _=>⟨fun i hi=>HA.out i ae,ae⟩,fun _=>rfl⟩;exact⟨by rw[<- hb]; rfl,rfl⟩
theorem G0(s:BAz)(w:World)(hs:s.size<=1073741824) :
  Zw 230 #[.string s] w (ZC (.bool (bY s 256)) w):=by
 have HE:=hid (ny s 256 w hs ae);go_enter func230,ntmps230
 go_wp2_with fail;refine HE.out.mono ?_;rintro e w1⟨rfl,hb⟩;go_wp2;go_ret;exact⟨rfl,hb⟩
def b9(s:BAz):ByteArray:=if s.toList.isEmpty=true then ⟨#[45]⟩ else s
theorem iN(s:BAz):(b9 s).size<=s.size+1:=by
 unfold b9
 split
 ·exact Nat.le_add_left 1 _
 omega
theorem Vf(s:BAz)(w:World) :
  Zw 156 #[.string s] w (ZG (.string (b9 s)) w):=by
 cases h:s.toList.isEmpty
 all_goals
  go_enter func156,ntmps156
  go_wp2;go_ret
  exact⟨by simp[b9,h],rfl⟩
theorem WQ(s:BAz)(w:World) :
  Zw 101 #[.string s] w (ZG (.string (b9 s)) w):=by
 cases h:s.toList.isEmpty
 all_goals
  go_enter func101,ntmps101
  go_wp2;go_ret
  exact⟨by simp[b9,h],rfl⟩
theorem XJ(p r:BAz)(w:World)(hp:p.size<=1073741824)(hr:r.size<=1073741824) :
  Zw 155 #[.agg #[.string p,.string r]] w (ZC (.bool (bY p 8&&bY r 8)) w):=by
 have hb0:Zx w (w.alloc (aW p r)):=(ZT _ _).alloc lRn _
 have hc1:(w.alloc (aW p r)).cell? (ZA w.heap.size 1)=some (.string r):=by
  exact pK
 go_enter func155,ntmps155
 go_wp2_with fail;refine(ny p 8 _ hp ae).mono ?_;rintro e w1⟨rfl,hb1⟩
 cases h1:bY p 8
 ·go_wp2;go_ret;exact⟨lV,hb0.trans (hb1.mono av)⟩
 have hc2:w1.cell? (ZA w.heap.size 1)=some (.string r):=(hb1.cell av).trans hc1;go_wp2_with fail;refine(ny r 8 _ hr ae).mono ?_;rintro e w2⟨rfl,hb2⟩;go_wp2;go_ret;exact⟨lV,(hb0.trans (hb1.mono av)).trans (hb2.mono uH)⟩
theorem XT(p r:BAz)(w:World)(hp:p.size<=1073741824)(hr:r.size<=1073741824) :
  Zw 100 #[.agg #[.string p,.string r]] w (ZC (.bool (bY p 8&&bY r 8)) w):=by
 have hb0:Zx w (w.alloc (aW p r)):=(ZT _ _).alloc lRn _;go_enter func100,ntmps100
 go_wp2_with fail;refine(qE p 8 _ hp ae).mono ?_;rintro e w1⟨rfl,rfl⟩
 cases h1:bY p 8
 ·go_wp2;go_ret;exact⟨lV,hb0⟩
 go_wp2_with fail;refine(qE r 8 _ hr ae).mono ?_;rintro e w2⟨rfl,rfl⟩;go_wp2;go_ret;exact⟨lV,hb0⟩
def l9(p r:BAz):Bool:=bY p 8&&bY r 8
def eB(p r:BAz):ByteArray:=b9 p++⟨#[32,45,62,32]⟩++b9 r
def kN(p r:BAz):ByteArray:=if l9 p r=true then eB p r else ⟨#[]⟩
def gF(p r:BAz):Int:=if l9 p r=true then 0 else 15
theorem XP(p r:BAz)(w:World)(hp:p.size<=1073741824)(hr:r.size<=1073741824) :
  Zw 93 #[.agg #[.string p,.string r]] w (ZC (.tuple #[.string (kN p r),ZI (gF p r)]) w):=by
 have hb0:Zx w (w.alloc (aW p r)):=(ZT _ _).alloc lRn _
 have hc0:(w.alloc (aW p r)).cell? (ZA w.heap.size 0)=some (.string p):=by
  exact pK
 have hc1:(w.alloc (aW p r)).cell? (ZA w.heap.size 1)=some (.string r):=by
  exact pK
 have HG:=hid (XJ p r (w.alloc (aW p r)) hp hr);go_enter func93,ntmps93
 go_wp2_with fail;refine HG.out.mono ?_;rintro e w1⟨rfl,hb1⟩;have hd0:w1.cell? (ZA w.heap.size 0)=some (.string p):=(hb1.cell av).trans hc0;have hd1:w1.cell? (ZA w.heap.size 1)=some (.string r):=(hb1.cell av).trans hc1;have HB:=hid (hb0.trans (hb1.mono av))
 cases h1:l9 p r
 ·exact Fz
 rw[show(bY p 8&&bY r 8)=true from h1];clear hc0 hc1 hb0 hb1 HG;have h2:=iN p;have h3:=iN r;have a1:∀w,(Op.stringOp .add (b9 p) ⟨#[32,45,62,32]⟩).run prog w=.ok (.string (b9 p++⟨#[32,45,62,32]⟩)) w:=fun w=>run_string_add_sum w _ _ Gj;have a2:∀w,(Op.stringOp .add (b9 p++⟨#[32,45,62,32]⟩) (b9 r)).run prog w=.ok (.string (eB p r)) w:=fun w=>run_string_add_sum w _ _ EK
 go_wp2
 go_quiet ((go_at_call 156; refine Calls.quiet_of_same (Vf _ _)))
 go_wp2;go_ret2
 exact⟨by simp[kN,gF,h1],below_drewN HB.out nq⟩
theorem Il(p r:BAz)(w:World)(hp:p.size<=1073741824)(hr:r.size<=1073741824) :
  Zw 35 #[.agg #[.string p,.string r]] w (ZC (.tuple #[.string (kN p r),ZI (gF p r)]) w):=by
 have hb0:Zx w (w.alloc (aW p r)):=(ZT _ _).alloc lRn _
 have hc0:(w.alloc (aW p r)).cell? (ZA w.heap.size 0)=some (.string p):=by
  exact pK
 have hc1:(w.alloc (aW p r)).cell? (ZA w.heap.size 1)=some (.string r):=by
  exact pK
 have HG:=hid (XT p r (w.alloc (aW p r)) hp hr);go_enter func35,ntmps35
 go_wp2_with fail;refine HG.out.mono ?_;rintro e w1⟨rfl,hb1⟩;have hd0:w1.cell? (ZA w.heap.size 0)=some (.string p):=(hb1.cell av).trans hc0;have hd1:w1.cell? (ZA w.heap.size 1)=some (.string r):=(hb1.cell av).trans hc1;have HB:=hid (hb0.trans (hb1.mono av))
 cases h1:l9 p r
 ·exact Fz
 rw[show(bY p 8&&bY r 8)=true from h1];clear hc0 hc1 hb0 hb1 HG;have h2:=iN p;have h3:=iN r;have a1:∀w,(Op.stringOp .add (b9 p) ⟨#[32,45,62,32]⟩).run prog w=.ok (.string (b9 p++⟨#[32,45,62,32]⟩)) w:=fun w=>run_string_add_sum w _ _ Gj;have a2:∀w,(Op.stringOp .add (b9 p++⟨#[32,45,62,32]⟩) (b9 r)).run prog w=.ok (.string (eB p r)) w:=fun w=>run_string_add_sum w _ _ EK
 go_wp2
 go_quiet ((go_at_call 101; refine Calls.quiet_of_same (WQ _ _)))
 go_wp2;go_ret2
 exact⟨by simp[kN,gF,h1],below_drewN HB.out nq⟩
def rsV(s:BAz):ByteArray:=if s.toList.isEmpty=true then ⟨#[]⟩ else if (s.toList==[45])=true then ⟨#[]⟩ else s
def rsB(s:BAz):Bool:=if s.toList.isEmpty=true then false else if (s.toList==[45])=true then true else bY s 8
theorem ui(s:BAz)(w:World)(hs:s.size<=1073741824) :
  Zw 218 #[.string s] w (ZC (.tuple #[.string (rsV s),.bool (rsB s)]) w):=by
 cases h:s.toList.isEmpty
 ·cases h':(s.toList==[45])
  ·go_enter func218,ntmps218
   go_wp2_with fail;refine(ny s 8 _ hs ae).mono ?_;rintro e w1⟨rfl,hb1⟩;go_wp2;go_ret2
   exact⟨by simp[rsV,rsB,h,h'],hb1⟩
  go_enter func218,ntmps218
  go_wp2;go_ret2
  exact⟨by simp[rsV,rsB,h,h'],ZT _ _⟩
 go_enter func218,ntmps218
 go_wp2;go_ret2
 exact⟨by simp[rsV,rsB,h],ZT _ _⟩
end Go.Proofs.YtheefojaplnnoaaGreatDoor

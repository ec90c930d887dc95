/-
  Texts Pn.
-/
import Derived.Test.YtheefojaplnnoaaGreatDoorY00
import Derived.Test.YtheefojaplnnoaaGreatDoorY25
set_option linter.unusedVariables false
set_option maxRecDepth 100000
set_option maxHeartbeats 16000000
namespace Go.Proofs.YtheefojaplnnoaaGreatDoor
open Go.RowKit
theorem sk:∀(l:List UInt8)(pre:List Int)(r:List UInt8),fA l=some pre→fA (l++r)=(fA r).map (fun t=>pre++t)
 | [],pre,r,h=>by
  simp[fA]at h
  subst h
  show fA r=_
  cases fA r <;> rfl
 | [a],pre,r,h=>by simp[fA]at h
 | a::b::l,pre,r,h=>by
  simp only[fA]at h
  by_cases hd:0≤fJ a.toNat∧0≤fJ b.toNat
  ·rw[if_pos hd]at h
   rcases hl:fA l with _ | t
   ·rw[hl]at h; simp at h
   ·rw[hl]at h
    simp at h
    subst h
    have:=sk l t r hl
    simp only[List.cons_append,fA]
    rw[if_pos hd,this]
    cases fA r <;> simp
  ·rw[if_neg hd]at h; cases h
theorem nP:∀(l:List UInt8)(pre:List Int),fA l=some pre→l.length=2*pre.length
 | [],pre,h=>by simp[fA]at h; subst h; rfl
 | [a],pre,h=>by simp[fA]at h
 | a::b::l,pre,h=>by
  simp only[fA]at h
  by_cases hd:0≤fJ a.toNat∧0≤fJ b.toNat
  ·rw[if_pos hd]at h
   rcases hl:fA l with _ | t
   ·rw[hl]at h; simp at h
   ·rw[hl]at h
    simp at h
    subst h
    have:=nP l t hl
    simp
    omega
  ·rw[if_neg hd]at h; cases h
theorem Hs{l:List UInt8}{k:Nat}{a b:UInt8}(ha:l[2*k]? =some a)(hb:l[2*k+1]? =some b):l.take (2*(k+1))=l.take (2*k)++[a,b]:=by
 rw[show 2*(k+1)=2*k+1+1 by omega,List.take_add_one,List.take_add_one,ha,hb]
 simp
theorem BA{l:List UInt8}{k:Nat}{a b:UInt8}{pre:List Int}(h:fA (l.take (2*k))=some pre)(ha:l[2*k]? =some a)(hb:l[2*k+1]? =some b)(hd:¬(0≤fJ a.toNat∧0≤fJ b.toNat)):fA l=none:=by
 have e:l=l.take (2*k)++(a::b::l.drop (2*(k+1))):=by
  have h1:=List.take_append_drop (2*(k+1)) l;rw[Hs ha hb]at h1;rw[List.append_assoc]at h1;exact h1.symm
 rw[e,sk _ _ _ h]
 simp only[fA]
 rw[if_neg hd];rfl
theorem I7{l:List UInt8}{k:Nat}{a b:UInt8}{pre:List Int}(h:fA (l.take (2*k))=some pre)(ha:l[2*k]? =some a)(hb:l[2*k+1]? =some b)(h1:0≤fJ a.toNat)(h2:0≤fJ b.toNat):fA (l.take (2*(k+1)))=some (pre++[fJ a.toNat*16+fJ b.toNat]):=by
 rw[Hs ha hb,sk _ _ _ h]
 simp only[fA]
 rw[if_pos ⟨h1,h2⟩];rfl
theorem Si:(Tryz.prog.info? 5).map (fun i=>(i.zero,i.size,i.bytes))=some (some (.int .u8 0),1,1):=ai
theorem tkD{P:Program}{ops:Array Oper}{Q:Exit→Act→World→Prop}{md:Region.Mode}{S:World→Prop}{i:Nat}{oi:Oper}{d:Option Tmp}{v:Value}{fuel:Nat}{listed:Array Bool}{a:Act}{w:World}(hi:ops[i]? =some oi)(h:wpAnyH P md ops Q S fuel (listed.setIfInBounds i true) (a.put d v) w)(hv:∀w,S w→(execOp a.eval oi).run P w=.ok (.value v) w:=by (intro w h; (try dsimp only at h); go_simp; try with_reducible rfl))(hd:oi.dst=d:=by kernel_rfl)
  (hc:(Region.noSelect ops&&Region.free md ops listed i&&(Region.ready md ops listed).contains i)=true:=by kernel_rfl) (hw:Region.wanted oi (yielded ops a.tmps)=true:=by kernel_rfl) (hQ:∀c a w,Q (.panic c) (a.put d v) w→Q (.panic c) a w:=by exact fun _ _ _ h=>h) (hS:S w:=by assumption):wpAnyH P md ops Q S (fuel+1) listed a w:=by
 subst hd
 simp only[Bool.and_eq_true]at hc
 exact ww
def OcP(ln:Int)(w:World)(n:Nat)(res:Option (List Int))(e:Ending)(w':World):Prop :=
 Below w.heap.size w w'∧match res with
 | some l=>l.length=n∧e=.returned (.slice (some ⟨w.heap.size,0,none⟩) n n)∧w'.ownsRow w.heap.size 5 1 (.slice (some ⟨w.heap.size,0,none⟩) n n) n (l.flatMap tu)
 | none=>e=thL ln
theorem Nw{base R:Nat}{mp:Value}{m:MM}{ln pt:Int}{w:World}(h:RQ base R mp m ln pt w)(s:ByteArray)(hs:s.size≤2097152)(ho:s.size%2≠0) :
  Calls Tryz.prog 173 #[.pointer (some ⟨R,0,none⟩),.string s] w (OcP ln w (s.size / 2) (nQ s)):=by
 have e:nQ s=none:=by
  rcases hx:nQ s with _ | t
  ·rfl
  ·have:=nP _ _ hx
   have e2:s.data.toList.length=s.size:=Array.length_toList;omega
 rw[e];have HM:=hid (gu h);have hne:((s.size:Int)%2==0)=false:=aI;clear h
 go_enter Tryz.func173,Tryz.ntmps173
 go_wp2_with fail;refine HM.out.mono ?_;rintro e w1⟨rfl,hw⟩;have hw2:=hw.symm;subst hw2;exact⟨rfl,Below.refl _ _,rfl⟩
theorem Hc:∀i<16,∀j<16,bits BinOp.or IntKind.u8 (((i:Nat):Int)*16) ((j:Nat):Int)=((i:Nat):Int)*16+((j:Nat):Int):=m9
theorem SR{a b:Int}(ha:0≤a∧a<16)(hb:0≤b∧b<16):bits BinOp.or IntKind.u8 (a*16) b=a*16+b:=by
 have:=Hc a.toNat ae b.toNat ae
 rwa [show((a.toNat:Nat):Int)=a by omega,show((b.toNat:Nat):Int)=b by omega]at this
theorem Oh{a:Int}(ha:0≤a∧a<16):IntKind.u8.wrap (a*16)=a*16:=by
 exact wL
theorem Ii{base R:Nat}{mp:Value}{m:MM}{ln pt:Int}{w:World}(h:RQ base R mp m ln pt w)(s:ByteArray)(n:Nat)(hs:s.size≤2097152)(hn:s.size=2*n) :
  Calls Tryz.prog 173 #[.pointer (some ⟨R,0,none⟩),.string s] w (OcP ln w n (nQ s)):=by
 obtain⟨i0,hi,hz0,hz1,hz2⟩:=info_parts Si;have hb2:i0.bytes*n≤281474976710656:=vZ;have hml:n≤maxLen:=bV;have hev:((s.size:Int)%2==0)=true:=aI;have hqu:(s.size:Int) / 2=(n:Int):=ae;have hll:s.data.toList.length=s.size:=Array.length_toList;have HQ:=hid h;have HM:=hid (aH R w);have HHN:=hid hn;have HLL:=hid hll;have hn7:n≤2097152:=ae;clear h hll hn
 go_enter Tryz.func173,Tryz.ntmps173
 go_wp2_with fail;refine HM.out.mono ?_;rintro e w0⟨rfl,hw⟩;have hw2:=hw.symm;subst hw2;clear HM hev
 go_wp2_with (first | (at_make; refine wpList_make_full _ rfl _ _ 63 rfl w.heap.size 5 i0 (.int .u8 0) 1 Tryz.underlying63 hi hz0 hz1 .i64 .i64 _ _ n rfl rfl ux ux hb2 hml (Nat.le_refl _) ?_; intro w1 hown hgrow))
 have hZ:(madeCells (Value.int .u8 0).cells (n*1)).toList.length=n*1:=hown.1
 have HF0:Hid (FLd w 5 1 n (([]:List Int).flatMap tu) (madeCells (Value.int .u8 0).cells (n*1)).toList w1):=hid ⟨by simpa using hown,(Below.refl _ _).grown hgrow (Nat.le_refl _) ar⟩
 generalize (madeCells (Value.int .u8 0).cells (n*1)).toList=Z at *;clear hown hgrow hi hz0 hz1 hz2 hb2 hml hqu
 go_loopw [19] (fun i wr=>∃t:Nat,t≤n∧i=.int .i64 t∧Hid (∃pre,fA (s.data.toList.take (2*t))=some pre∧FLd w 5 1 n (pre.flatMap tu) Z wr)) (fun i _=>n-(intOf i).toNat)
 case atStart=>exact⟨0,ae,rfl,hid ⟨[],rfl,HF0.out⟩⟩
 case round =>
  obtain⟨t,ht,rfl,HF⟩:=hrel;clear HF0
  by_cases hlt:t<n
  ·obtain⟨a,ha⟩:∃a,s.data.toList[2*t]? =some a:=⟨_,aO wK⟩;obtain⟨b,hb⟩:∃b,s.data.toList[2*t+1]? =some b:=⟨_,aO wK⟩;obtain⟨pre,hpre,hF⟩:=HF.out
   have hpl:2*pre.length=2*t:=by rw[← nP _ _ hpre,List.length_take,HLL.out]; have:=HHN.out; omega
   have hlt':(t:Int)<(n:Int):=ae;have HFb:=hid hF.bel;have HFr:=hid hF;have qr:=HQ.out.later hF.bel;have hw1:IntKind.i64.wrap (2*(t:Int))=2*(t:Int):=IntWalk.i64_in _ ae;have hw2:IntKind.i64.wrap (2*(t:Int)+1)=2*(t:Int)+1:=IntWalk.i64_in _ ae;have b0:0≤2*(t:Int):=ae;have b1:2*(t:Int)<(s.size:Int):=ux;have b2:0≤2*(t:Int)+1:=ae;have b3:2*(t:Int)+1<(s.size:Int):=ux
   have ea:∀h',((s[(2*(t:Int)).toNat]'h').toNat:Int)=(a.toNat:Int):=fun h'=>by
    have e1:(2*(t:Int)).toNat=2*t:=ae;rw[Array.getElem?_toList]at ha
    have:s[(2*(t:Int)).toNat]'h'=a:=by
     simp only[e1]
     obtain⟨_,h2⟩:=Array.getElem?_eq_some_iff.1 ha;exact h2
    rw[this]
   have eb:∀h',((s[(2*(t:Int)+1).toNat]'h').toNat:Int)=(b.toNat:Int):=fun h'=>by
    have e1:(2*(t:Int)+1).toNat=2*t+1:=ae;rw[Array.getElem?_toList]at hb
    have:s[(2*(t:Int)+1).toNat]'h'=b:=by
     simp only[e1]
     obtain⟨_,h2⟩:=Array.getElem?_eq_some_iff.1 hb;exact h2
    rw[this]
   have r1:=oa (a.toNat:Int);have r2:=oa (b.toNat:Int)
   by_cases h1:0≤fJ (a.toNat:Int)
   ·by_cases h2:0≤fJ (b.toNat:Int)
    ·have HD1:=hid (fun(W:World)=>wT R (a.toNat:Int) W h1)
     have HD2:=hid (fun(W:World)=>wT R (b.toNat:Int) W h2)
     have HN1:=hid (I7 hpre ha hb h1 h2);have hs8:=Oh ⟨h1,r1.2⟩;have ho8:=SR ⟨h1,r1.2⟩ ⟨h2,r2.2⟩;generalize fJ (a.toNat:Int)=d1 at *;generalize fJ (b.toNat:Int)=d2 at *;clear hF HF hpre qr ha hb h1 h2 r1 r2;go_wp2_with fail;have B1:=hid ((Below.refl wr.heap.size wr).drew)
     refine wp_region_held_drew (S:=fun _=>True) ai trivial (fun _=>?_)
     generalize wr.drew=wd at *;refine tkD (i:=0) (d:=some 22) rfl ?_;(try simp only[Act.put,sIB,sC0,sCs]);refine tkD (i:=1) (d:=some 23) rfl ?_;(try simp only[Act.put,sIB,sC0,sCs]);refine tkD (i:=2) (d:=some 24) rfl ?_;(try simp only[Act.put,sIB,sC0,sCs]);refine tkD (i:=3) (d:=some 25) rfl ?_;(try simp only[Act.put,sIB,sC0,sCs]);refine tkD (i:=4) (d:=some 26) rfl ?_;(try simp only[Act.put,sIB,sC0,sCs]);refine tkD (i:=9) (d:=some 31) rfl ?_;(try simp only[Act.put,sIB,sC0,sCs]);refine tkD (i:=10) (d:=some 32) rfl ?_;(try simp only[Act.put,sIB,sC0,sCs]);refine tkD (i:=11) (d:=some 33) rfl ?_;(try simp only[Act.put,sIB,sC0,sCs]);refine tkD (i:=5) (d:=some 27) rfl ?_;(try simp only[Act.put,sIB,sC0,sCs]);refine tkD (i:=12) (d:=some 34) rfl ?_;(try simp only[Act.put,sIB,sC0,sCs]);refine tkD (i:=6) (d:=some 28) rfl ?_;(try simp only[Act.put,sIB,sC0,sCs]);refine tkD (i:=13) (d:=some 35) rfl ?_;(try simp only[Act.put,sIB,sC0,sCs]);refine tkD (i:=14) (d:=some 36) rfl ?_;(try simp only[Act.put,sIB,sC0,sCs]);refine ryQ (rs:=[7]) ?_
     refine rcQ (i:=7) rfl (fun K hK=>?_) rN
     go_simp;refine(HD1.out _).mono ?_;rintro e w5⟨rfl,hw5⟩;have hw6:=hw5.symm;subst hw6
     refine hK.out _ _ trivial (fun _=>?_)
     clear hK K;refine tkD (i:=8) (d:=some 30) rfl ?_;(try simp only[Act.put,sIB,sC0,sCs]);refine ryQ (rs:=[15]) ?_
     refine rcQ (i:=15) rfl (fun K hK=>?_) rN
     go_simp;refine(HD2.out _).mono ?_;rintro e w5⟨rfl,hw5⟩;have hw6:=hw5.symm;subst hw6
     refine hK.out _ _ trivial (fun _=>?_)
     clear hK K;refine tkD (i:=16) (d:=some 38) rfl ?_;(try simp only[Act.put,sIB,sC0,sCs]);refine tkD (i:=17) (d:=some 39) rfl ?_;(try simp only[Act.put,sIB,sC0,sCs]);refine ryQ (rs:=[18]) ?_
     refine rcQ (i:=18) rfl (fun K hK=>?_) rN
     obtain⟨u0,q0⟩:=(HFr.out.later B1.out).cell hZ (show t<n*1 by omega)
     have r0:=(HFr.out.later B1.out).free t
     have P0:=hid ((HFr.out.later B1.out).put (j:=t) (by rw[nE tu 1 (fun _=>rfl)]; omega) ae (.int .u8 (d1*16+d2)))
     go_simp
     refine hK.out _ _ trivial (fun _=>?_)
     clear hK K;refine wpAnyH_done ai ?_ _;go_wp2_with fail
     exact⟨⟨t+1,ae,il,hid ⟨pre++[d1*16+d2],HN1.out,by rw[List.flatMap_append]; exact P0.out⟩⟩,ij⟩
    ·have HD1:=hid (fun(W:World)=>wT R (a.toNat:Int) W h1)
     have HD2:=hid (fun(W:World) (hW:Below wr.heap.size wr W)=>Jd R (b.toNat:Int) ln W ((qr.later hW).cells 9) h2)
     have HNo:=hid (show nQ s=none from BA hpre ha hb (fun x=>h2 x.2))
     have hs8:=Oh ⟨h1,r1.2⟩;generalize fJ (a.toNat:Int)=d1 at *;clear hF HF hpre qr ha hb h1 h2 r1 r2;go_wp2_with fail;have B1:=hid ((Below.refl wr.heap.size wr).drew)
     refine wp_region_held_drew (S:=fun _=>True) ai trivial (fun _=>?_)
     generalize wr.drew=wd at *;refine tkD (i:=0) (d:=some 22) rfl ?_;(try simp only[Act.put,sIB,sC0,sCs]);refine tkD (i:=1) (d:=some 23) rfl ?_;(try simp only[Act.put,sIB,sC0,sCs]);refine tkD (i:=2) (d:=some 24) rfl ?_;(try simp only[Act.put,sIB,sC0,sCs]);refine tkD (i:=3) (d:=some 25) rfl ?_;(try simp only[Act.put,sIB,sC0,sCs]);refine tkD (i:=4) (d:=some 26) rfl ?_;(try simp only[Act.put,sIB,sC0,sCs]);refine tkD (i:=9) (d:=some 31) rfl ?_;(try simp only[Act.put,sIB,sC0,sCs]);refine tkD (i:=10) (d:=some 32) rfl ?_;(try simp only[Act.put,sIB,sC0,sCs]);refine tkD (i:=11) (d:=some 33) rfl ?_;(try simp only[Act.put,sIB,sC0,sCs]);refine tkD (i:=5) (d:=some 27) rfl ?_;(try simp only[Act.put,sIB,sC0,sCs]);refine tkD (i:=12) (d:=some 34) rfl ?_;(try simp only[Act.put,sIB,sC0,sCs]);refine tkD (i:=6) (d:=some 28) rfl ?_;(try simp only[Act.put,sIB,sC0,sCs]);refine tkD (i:=13) (d:=some 35) rfl ?_;(try simp only[Act.put,sIB,sC0,sCs]);refine tkD (i:=14) (d:=some 36) rfl ?_;(try simp only[Act.put,sIB,sC0,sCs]);refine ryQ (rs:=[7]) ?_
     refine rcQ (i:=7) rfl (fun K hK=>?_) rN
     go_simp;refine(HD1.out _).mono ?_;rintro e w5⟨rfl,hw5⟩;have hw6:=hw5.symm;subst hw6
     refine hK.out _ _ trivial (fun _=>?_)
     clear hK K;refine tkD (i:=8) (d:=some 30) rfl ?_;(try simp only[Act.put,sIB,sC0,sCs]);refine ryQ (rs:=[15]) ?_
     refine rcQ (i:=15) rfl (fun K hK=>?_) rN
     go_simp;refine(HD2.out _ B1.out).mono ?_;exact Cr
   ·have HD1:=hid (fun(W:World) (hW:Below wr.heap.size wr W)=>Jd R (a.toNat:Int) ln W ((qr.later hW).cells 9) h1)
    have HNo:=hid (show nQ s=none from BA hpre ha hb (fun x=>h1 x.1))
    clear hF HF hpre qr ha hb h1 r1 r2;go_wp2_with fail;have B1:=hid ((Below.refl wr.heap.size wr).drew)
    refine wp_region_held_drew (S:=fun _=>True) ai trivial (fun _=>?_)
    generalize wr.drew=wd at *;refine tkD (i:=0) (d:=some 22) rfl ?_;(try simp only[Act.put,sIB,sC0,sCs]);refine tkD (i:=1) (d:=some 23) rfl ?_;(try simp only[Act.put,sIB,sC0,sCs]);refine tkD (i:=2) (d:=some 24) rfl ?_;(try simp only[Act.put,sIB,sC0,sCs]);refine tkD (i:=3) (d:=some 25) rfl ?_;(try simp only[Act.put,sIB,sC0,sCs]);refine tkD (i:=4) (d:=some 26) rfl ?_;(try simp only[Act.put,sIB,sC0,sCs]);refine tkD (i:=9) (d:=some 31) rfl ?_;(try simp only[Act.put,sIB,sC0,sCs]);refine tkD (i:=10) (d:=some 32) rfl ?_;(try simp only[Act.put,sIB,sC0,sCs]);refine tkD (i:=11) (d:=some 33) rfl ?_;(try simp only[Act.put,sIB,sC0,sCs]);refine tkD (i:=5) (d:=some 27) rfl ?_;(try simp only[Act.put,sIB,sC0,sCs]);refine tkD (i:=12) (d:=some 34) rfl ?_;(try simp only[Act.put,sIB,sC0,sCs]);refine tkD (i:=6) (d:=some 28) rfl ?_;(try simp only[Act.put,sIB,sC0,sCs]);refine tkD (i:=13) (d:=some 35) rfl ?_;(try simp only[Act.put,sIB,sC0,sCs]);refine tkD (i:=14) (d:=some 36) rfl ?_;(try simp only[Act.put,sIB,sC0,sCs]);refine ryQ (rs:=[7]) ?_
    refine rcQ (i:=7) rfl (fun K hK=>?_) rN
    go_simp;refine(HD1.out _ B1.out).mono ?_;exact Cr
  ·obtain rfl:t=n:=ae;obtain⟨pre,hpre,hF⟩:=HF.out;rw[List.take_of_length_le wK]at hpre
   have hpl:pre.length=t:=by have:=nP _ _ hpre; have:=HLL.out; have:=HHN.out; omega
   have HFF:=hid hF;have HPre:=hid (show nQ s=some pre from hpre);clear hF HF hpre;go_wp2_with fail;go_ret;rw[HPre.out]
   exact⟨HFF.out.bel,hpl,rfl,HFF.out.full (by rw[nE tu 1 (fun _=>rfl),hpl]; omega)⟩
theorem GJ{base R:Nat}{mp:Value}{m:MM}{ln pt:Int}{w:World}(h:RQ base R mp m ln pt w)(s:ByteArray)(hs:s.size≤2097152) :
  Calls Tryz.prog 173 #[.pointer (some ⟨R,0,none⟩),.string s] w (OcP ln w (s.size / 2) (nQ s)):=by
 by_cases ho:s.size%2=0
 ·exact Ii h s (s.size / 2) hs ae
 ·exact Nw h s hs ho
end Go.Proofs.YtheefojaplnnoaaGreatDoor

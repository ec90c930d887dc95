/-
  Texts Lsig Lint.
-/
import Derived.Test.YtheefojaplnnoaaGreatDoorY00
import Derived.Test.YtheefojaplnnoaaGreatDoorY05
set_option linter.unusedVariables false
set_option maxRecDepth 100000
set_option maxHeartbeats 16000000
namespace Go.Proofs.YtheefojaplnnoaaGreatDoor
open Go.RowKit
theorem KD:∃i,Tryz.prog.info? 73=some i∧i.zero=some (.agg #[.string ⟨#[]⟩,.string ⟨#[]⟩])∧i.size=2∧i.bytes=32:=A7 ai
def eP(y:Sg):List Value:=[.string y.1,.string y.2]
abbrev Hz(x:Sg):Value:=.agg #[.string x.1,.string x.2]
abbrev H9(y:Sg):Value:=.agg #[.string y.1,.string y.2]
def jf(w:World)(a:Option Addr)(n:Nat)(xs:List Sg):Prop :=
 xs.length=n∧(n=0∨∃b off,a=some ⟨b,off,none⟩∧∀(j:Nat)x,xs[j]? =some x→w.cell? ⟨b,off+j*2,none⟩=some (.string x.1)∧w.cell? ⟨b,off+j*2+1,none⟩=some (.string x.2))
theorem jf.kept{S:Nat→Prop}{w w':World}{a:Option Addr}{n:Nat}{xs:List Sg}(h:jf w a n xs)(hk:Kept S w w')(hS:∀b off c,a=some ⟨b,off,c⟩→¬S b):jf w' a n xs:=by
 exact AW
theorem oD(w:World)(y:Sg):∀j u,(eP y)[j]? =some u→(w.alloc (aX y.1 y.2)).cell? ((⟨w.heap.size,0,none⟩:Addr).add j)=some u:=by
 intro j u hj;have hlt:=aK hj;have hl:(eP y).length=2:=rfl;rw[hl]at hlt;have hadd:(⟨w.heap.size,0,none⟩:Addr).add j=⟨w.heap.size,j,none⟩:=iG;rw[hadd];have hb:=(MapKept.heap_alloc w (aX y.1 y.2)).1
 simp only[World.cell?,hb]
 simpa[eP] using hj
theorem oL(y:Sg):∀u∈eP y,u.oneCell'=true:=by
 intro u hu
 simp[eP]at hu
 rcases hu with rfl | rfl <;> rfl
abbrev KS:=@qh Sg Sg eP Hz H9 73 2
namespace LSig
abbrev oC0:=eP
abbrev cL(x:Sg):Obj:=.cells #[.string x.1,.string x.2] 73
abbrev cM(y:Sg):Obj:=.cells #[.string y.1,.string y.2] 73
theorem nC(w:World)(y:Sg):∀j u,(eP y)[j]? =some u→(w.alloc (cM y)).cell? ((⟨w.heap.size,0,none⟩:Addr).add j)=some u:=oD w y
theorem oC(y:Sg):∀u∈eP y,u.oneCell'=true:=oL y
theorem uN:Tryz.prog.underlying 22=some (.slice 73):=Tryz.underlying22
end LSig
open LSig in
theorem xS:oY 131 eP Hz H9 jf 73 2:=by
 intro R g cap bs ha n hc most K cs w xs enc Ok M h hn hm hmem hne hK hlen hM hb heach;have hmc:=bz;have hcc:=cf;have HC:=hid (bN R g cap bs n most w h hm ae ae);have hRl:=h.lt;have hgl:=h.g_lt;have hxl:=hmem.1;have HM:=hid hmem;have HNE:=hid hne;have HE:=hid heach;obtain⟨i0,hi,hz0,hz1,hz2⟩:=KD;clear h hmem heach hne
 go_enter Tryz.func131,Tryz.ntmps131
 go_wp2_with fail;refine HC.out.mono ?_;rintro e w2⟨rfl,g1,cap1,hw2,hs2⟩;have W2:=hid hw2;have S2:=hid hs2;clear hw2 hs2 HC hmc hcc;go_wp2_with fail
 go_loopw [9,17] (fun o i wr=>qz oC0 73 2 R g w bs n xs enc Ok n o i wr) (fun _ i _=>n-(intOf i).toNat)
 case atStart=>exact⟨0,[],none,0,g1,cap1,ae,rfl,rfl,rfl,(fun i y h=>fX),World.ownsRow_nil _ _ _ _,(fun b h=>cj),gw,S2.out⟩
 case round =>
  exact Jf
open LSig in
theorem A9:rT 131 eP Hz H9 jf 73 2:=by
 intro R g cap bs ha n hc most K cs w xs enc Ok M h hn hm hmem hne hK hlen hM hb k xk er hk heach hno;have hkn:=aK hk;have hmc:=bz;have hcc:=cf;have HC:=hid (bN R g cap bs n most w h hm ae ae);have hRl:=h.lt;have hgl:=h.g_lt;have hxl:=hmem.1;have HM:=hid hmem;have HNE:=hid hne;have HE:=hid heach;have HN:=hid hno;obtain⟨i0,hi,hz0,hz1,hz2⟩:=KD;clear h hmem heach hne hno
 go_enter Tryz.func131,Tryz.ntmps131
 go_wp2_with fail;refine HC.out.mono ?_;rintro e w2⟨rfl,g1,cap1,hw2,hs2⟩;have W2:=hid hw2;have S2:=hid hs2;clear hw2 hs2 HC hmc hcc;go_wp2_with fail
 go_loopw [9,17] (fun o i wr=>qz oC0 73 2 R g w bs n xs enc Ok k o i wr) (fun _ i _=>n-(intOf i).toNat)
 case atStart=>exact⟨0,[],none,0,g1,cap1,ae,rfl,rfl,rfl,(fun i y h=>fX),World.ownsRow_nil _ _ _ _,(fun b h=>cj),gw,S2.out⟩
 case round =>
  exact Kz
theorem wX(R g cap:Nat)(bs:List Int)(ha:Option Addr)(n hc:Nat)(most:Int)(f:Value)(w:World)(h:Wr w R g cap bs)(hm:most<(n:Int)) :
  Calls Tryz.prog 131 #[cW R,.slice ha n hc,.int .i64 most,f] w (aT R g 20 w):=by
 have hmc:=bz;have hcc:=cf;have HC:=hid (eW R g cap bs n most w h hm);clear h
 go_enter Tryz.func131,Tryz.ntmps131
 exact jX
theorem Ra:∃i,Tryz.prog.info? 3=some i∧i.zero=some (.int .i64 0)∧i.size=1∧i.bytes=8:=A7 ai
def jA(y:Int):List Value:=[.int .i64 y]
abbrev OC(x:Int):Value:=.int .i64 x
abbrev PQ(y:Int):Value:=.int .i64 y
def mB(w:World)(a:Option Addr)(n:Nat)(xs:List Int):Prop :=
 xs.length=n∧(n=0∨∃b off,a=some ⟨b,off,none⟩∧∀(j:Nat)x,xs[j]? =some x→w.cell? ⟨b,off+j,none⟩=some (.int .i64 x))
theorem mB.kept{S:Nat→Prop}{w w':World}{a:Option Addr}{n:Nat}{xs:List Int}(h:mB w a n xs)(hk:Kept S w w')(hS:∀b off c,a=some ⟨b,off,c⟩→¬S b):mB w' a n xs:=by
 refine⟨h.1,h.2.imp id ?_⟩;rintro⟨b,off,ha,hc⟩
 refine⟨b,off,ha,fun j x hj=>?_⟩
 have:=hc j x hj
 exact hk.cell this (hS _ _ _ ha)
theorem qm(w:World)(y:Int):∀j u,(jA y)[j]? =some u→(w.alloc (bq y)).cell? ((⟨w.heap.size,0,none⟩:Addr).add j)=some u:=by
 intro j u hj;have hlt:=aK hj;have hl:(jA y).length=1:=rfl;rw[hl]at hlt;have hadd:(⟨w.heap.size,0,none⟩:Addr).add j=⟨w.heap.size,j,none⟩:=iG;rw[hadd];have hb:=(MapKept.heap_alloc w (bq y)).1
 simp only[World.cell?,hb]
 simpa[jA] using hj
theorem qa(y:Int):∀u∈jA y,u.oneCell'=true:=by
 intro u hu
 simp[jA]at hu
 subst hu; rfl
abbrev QG:=@qh Int Int jA OC PQ 3 1
namespace LNu
abbrev oC0:=jA
abbrev cM(y:Int):Obj:=.cells #[.int .i64 y] 3
theorem nC(w:World)(y:Int):∀j u,(jA y)[j]? =some u→(w.alloc (cM y)).cell? ((⟨w.heap.size,0,none⟩:Addr).add j)=some u:=qm w y
theorem oC(y:Int):∀u∈jA y,u.oneCell'=true:=qa y
theorem uN:Tryz.prog.underlying 23=some (.slice 3):=Tryz.underlying23
end LNu
open LNu in
theorem yg:oY 134 jA OC PQ mB 3 1:=by
 intro R g cap bs ha n hc most K cs w xs enc Ok M h hn hm hmem hne hK hlen hM hb heach;have hmc:=bz;have hcc:=cf;have HC:=hid (bN R g cap bs n most w h hm ae ae);have hRl:=h.lt;have hgl:=h.g_lt;have hxl:=hmem.1;have HM:=hid hmem;have HNE:=hid hne;have HE:=hid heach;obtain⟨i0,hi,hz0,hz1,hz2⟩:=Ra;clear h hmem heach hne
 go_enter Tryz.func134,Tryz.ntmps134
 go_wp2_with fail;refine HC.out.mono ?_;rintro e w2⟨rfl,g1,cap1,hw2,hs2⟩;have W2:=hid hw2;have S2:=hid hs2;clear hw2 hs2 HC hmc hcc;go_wp2_with fail
 go_loopw [9,17] (fun o i wr=>qz oC0 3 1 R g w bs n xs enc Ok n o i wr) (fun _ i _=>n-(intOf i).toNat)
 case atStart=>exact⟨0,[],none,0,g1,cap1,ae,rfl,rfl,rfl,(fun i y h=>fX),World.ownsRow_nil _ _ _ _,(fun b h=>cj),gw,S2.out⟩
 case round =>
  obtain⟨j,ys,aa,ac,g3,cap3,hj,rfl,rfl,hyl,hys,hrow,hab,hwr,hst⟩:=hrel;have HY:=hid hys;have HRW:=hid hrow;have HAB:=hid hab;have HWR:=hid hwr;have HST:=hid hst;clear hys hrow hab hwr hst W2 S2
  by_cases hlt:j<n
  ·obtain⟨x,hx⟩:∃x,xs[j]? =some x:=⟨_,aO ae⟩
   obtain⟨b,off,rfl,hcell⟩:=(HM.out.kept HST.out.k (fun b off c h=>mW)).2.resolve_left ae
   have hcj:=hcell j x hx;have hbl:=block_lt_of_cell hcj;clear hcell;have v0:=hcj;have BN:=hid (Below.refl wr.heap.size wr)
   have HC1:=hid (HE.out j x hx ys wr g3 cap3 aa ac hyl HY.out (HST.out.trans (Stp.of_below BN.out)) (HWR.out.later BN.out) (aA HRW.out (fun B hB=>BN.out.block B (ay HRW.out hB))) HAB.out)
   go_wp2_with fail
   skip
   exact Oq
  ·obtain rfl:j=n:=ae;have hxs:xs.take j=xs:=List.take_of_length_le ae;go_wp2_with fail;go_ret;refine⟨aa,ac,ys,rfl,hyl,HY.out,HRW.out,g3,cap3,HAB.out,?_,HST.out⟩;rw[← hxs];exact HWR.out
open LNu in
theorem AC:rT 134 jA OC PQ mB 3 1:=by
 intro R g cap bs ha n hc most K cs w xs enc Ok M h hn hm hmem hne hK hlen hM hb k xk er hk heach hno;have hkn:=aK hk;have hmc:=bz;have hcc:=cf;have HC:=hid (bN R g cap bs n most w h hm ae ae);have hRl:=h.lt;have hgl:=h.g_lt;have hxl:=hmem.1;have HM:=hid hmem;have HNE:=hid hne;have HE:=hid heach;have HN:=hid hno;obtain⟨i0,hi,hz0,hz1,hz2⟩:=Ra;clear h hmem heach hne hno
 go_enter Tryz.func134,Tryz.ntmps134
 go_wp2_with fail;refine HC.out.mono ?_;rintro e w2⟨rfl,g1,cap1,hw2,hs2⟩;have W2:=hid hw2;have S2:=hid hs2;clear hw2 hs2 HC hmc hcc;go_wp2_with fail
 go_loopw [9,17] (fun o i wr=>qz oC0 3 1 R g w bs n xs enc Ok k o i wr) (fun _ i _=>n-(intOf i).toNat)
 case atStart=>exact⟨0,[],none,0,g1,cap1,ae,rfl,rfl,rfl,(fun i y h=>fX),World.ownsRow_nil _ _ _ _,(fun b h=>cj),gw,S2.out⟩
 case round =>
  obtain⟨j,ys,aa,ac,g3,cap3,hj,rfl,rfl,hyl,hys,hrow,hab,hwr,hst⟩:=hrel;have HY:=hid hys;have HRW:=hid hrow;have HAB:=hid hab;have HWR:=hid hwr;have HST:=hid hst;clear hys hrow hab hwr hst W2 S2;have hlt:j<n:=ae
  ·obtain⟨x,hx⟩:∃x,xs[j]? =some x:=⟨_,aO ae⟩
   obtain⟨b,off,rfl,hcell⟩:=(HM.out.kept HST.out.k (fun b off c h=>mW)).2.resolve_left ae
   have hcj:=hcell j x hx;have hbl:=block_lt_of_cell hcj;clear hcell;have v0:=hcj;have BN:=hid (Below.refl wr.heap.size wr)
   by_cases hjk:j<k
   ·skip
    have HC1:=hid (HE.out j x hx hjk ys wr g3 cap3 aa ac hyl HY.out (HST.out.trans (Stp.of_below BN.out)) (HWR.out.later BN.out) (aA HRW.out (fun B hB=>BN.out.block B (ay HRW.out hB))) HAB.out)
    go_wp2_with fail;exact Oq
   ·obtain rfl:j=k:=ae;obtain rfl:x=xk:=wG
    have HC1:=hid (HN.out ys wr g3 cap3 aa ac hyl HY.out (HST.out.trans (Stp.of_below BN.out)) (HWR.out.later BN.out) (aA HRW.out (fun B hB=>BN.out.block B (ay HRW.out hB))) HAB.out)
    go_wp2_with fail;refine HC1.out.mono ?_;rintro e w5⟨⟨p,rfl⟩,hk5⟩;exact⟨rfl,⟨p,rfl⟩,(HST.out.trans (Stp.of_below BN.out)).throw hk5⟩
theorem xp(R g cap:Nat)(bs:List Int)(ha:Option Addr)(n hc:Nat)(most:Int)(f:Value)(w:World)(h:Wr w R g cap bs)(hm:most<(n:Int)) :
  Calls Tryz.prog 134 #[cW R,.slice ha n hc,.int .i64 most,f] w (aT R g 20 w):=by
 have hmc:=bz;have hcc:=cf;have HC:=hid (eW R g cap bs n most w h hm);clear h
 go_enter Tryz.func134,Tryz.ntmps134
 exact jX
end Go.Proofs.YtheefojaplnnoaaGreatDoor

/-
  Texts Lint Lgl Wg Wc Wh Lin Lfu Feed Pieces Lib Split Word.
-/
import Derived.Test.YtheefojaplnnoaaGreatDoorY02
set_option linter.unusedVariables false
set_option maxRecDepth 100000
set_option maxHeartbeats 16000000
namespace Go.Proofs.YtheefojaplnnoaaGreatDoor
open Go.Proofs.Tryz
open Go.RowKit
theorem Xx:∃i,prog.info? 3=some i/\i.zero=some (ZI 0)/\i.size=1/\i.bytes=8:=CH ak
def uP(y:Int):List Value:=[ZI y]
abbrev Vv(x:Int):Value:=ZI x
abbrev VX(y:Int):Value:=ZI y
def mE(w:World)(a:OAz)(n:Nat)(xs:LIz):Prop :=
 xs.length=n/\(n=0\/∃b off,a=some (ZA b off)/\∀(j:Nat)x,xs[j]? =some x->w.cell? (ZA b (off+j))=some (ZI x))
variable {S:Zam}{w w':World}{a:OAz}{n:Nat}{xs:LIz}
theorem mE.kept(h:mE w a n xs)(hk:Kept S w w')(hS:∀b off c,a=some ⟨b,off,c⟩->¬S b):mE w' a n xs:=by
 refine⟨h.1,h.2.imp id ?_⟩;rintro⟨b,off,ha,hc⟩;refine⟨b,off,ha,fun j x hj=>?_⟩;have:=hc j x hj;exact hk.cell this (hS _ _ _ ha)
theorem AL(w:World)(y:Int):∀j u,(uP y)[j]? =some u->(w.alloc (bR y)).cell? (((ZA w.heap.size 0):Addr).add j)=some u:=by
 intro j u hj;have hlt:=aF hj;have hl:(uP y).length=1:=rfl;rw[hl]at hlt;have hadd:((ZA w.heap.size 0):Addr).add j=(ZA w.heap.size j):=iI;rw[hadd];have hb:=(ZZ w (bR y)).1;simp only[World.cell?,hb]
 simpa[uP] using hj
theorem BI(y:Int):∀u∈uP y,u.oneCell'=true:=by
 intro u hu;simp[uP]at hu;subst hu; rfl
abbrev U6:=@rJ Int Int uP Vv VX 3 1
namespace LNu
abbrev oC0:=uP
abbrev cM(y:Int):Obj:=.cells #[ZI y] 3
theorem nC(w:World)(y:Int):∀j u,(uP y)[j]? =some u->(w.alloc (cM y)).cell? (((ZA w.heap.size 0):Addr).add j)=some u:=AL w y
theorem oC(y:Int):∀u∈uP y,u.oneCell'=true:=BI y
theorem uN:Tryz.prog.underlying 23=some (.slice 3):=Tryz.underlying23
end LNu
open LNu in
theorem Aw:qf 134 uP Vv VX mE 3 1:=by
 intro R g cap bs ha n hc most K cs w xs enc Ok M h hn hm hmem hne hK hlen hM hb Do;have du:=bH;have hcc:=cN;have HC:=hid (bU R g cap bs n most w h hm ae ae);have OF:=h.lt;have hgl:=h.g_lt;have hxl:=hmem.1;obtain⟨HM,ZD,HE⟩:=ZH hmem hne Do;obtain⟨i0,hi,hz0,hz1,hz2⟩:=Xx;clear h hmem Do hne;go_enter Tryz.func134,Tryz.ntmps134
 go_wp2_with fail;refine HC.out.mono ?_;rintro e w2⟨rfl,g1,An,hw2,hs2⟩;obtain⟨W2,S2⟩:=Zz hw2 hs2;clear hw2 hs2 HC du hcc;go_wp2_with fail
 go_loopw [9,17] (fun o i wr=>rV oC0 3 1 R g w bs n xs enc Ok n o i wr) (fun _ i _=>n-(intOf i).toNat)
 case atStart=>exact⟨0,[],none,0,g1,An,ae,rfl,rfl,rfl,(fun i y h=>ip),Z7 _ _ _ _,(fun b h=>bS),iu,S2.out⟩
 case round =>
  obtain⟨j,ys,aa,ac,g3,Ly,hj,rfl,rfl,ON,hys,hrow,hab,hwr,hst⟩:=hrel;obtain⟨HY,Ys,j9,ix,HST⟩:=ZM hys hrow hab hwr hst;clear hys hrow hab hwr hst W2 S2
  by_cases hlt:j<n
  ·obtain⟨x,hx⟩:=ZB xs j ae
   obtain⟨b,off,rfl,hcell⟩:=(HM.out.kept HST.out.k (fun b off c h=>o9)).2.resolve_left ae;have lP:=hcell j x hx;have hbl:=ZQ lP;clear hcell;have v0:=lP;have BN:=hid (ZT wr.heap.size wr);have rm:=hid (HE.out j x hx ys wr g3 Ly aa ac ON HY.out (HST.out.trans (Stp.of_below BN.out)) (ix.out.later BN.out) (aV Ys.out (fun B hB=>BN.out.block B (aL Ys.out hB))) j9.out);go_wp2_with fail
   skip
   exact Uy
  obtain rfl:j=n:=ae;have hxs:xs.take j=xs:=ZY ae;go_wp2_with fail;go_ret;refine⟨aa,ac,ys,rfl,ON,HY.out,Ys.out,g3,Ly,j9.out,?_,HST.out⟩;rw[<- hxs];exact ix.out
open LNu in
theorem Dt:uy 134 uP Vv VX mE 3 1:=by
 intro R g cap bs ha n hc most K cs w xs enc Ok M h hn hm hmem hne hK hlen hM hb k xk er hk Do hno;have hkn:=aF hk;have du:=bH;have hcc:=cN;have HC:=hid (bU R g cap bs n most w h hm ae ae);have OF:=h.lt;have hgl:=h.g_lt;have hxl:=hmem.1;obtain⟨HM,ZD,HE,HN⟩:=ZF hmem hne Do hno;obtain⟨i0,hi,hz0,hz1,hz2⟩:=Xx;clear h hmem Do hne hno;go_enter Tryz.func134,Tryz.ntmps134
 go_wp2_with fail;refine HC.out.mono ?_;rintro e w2⟨rfl,g1,An,hw2,hs2⟩;obtain⟨W2,S2⟩:=Zz hw2 hs2;clear hw2 hs2 HC du hcc;go_wp2_with fail
 go_loopw [9,17] (fun o i wr=>rV oC0 3 1 R g w bs n xs enc Ok k o i wr) (fun _ i _=>n-(intOf i).toNat)
 case atStart=>exact⟨0,[],none,0,g1,An,ae,rfl,rfl,rfl,(fun i y h=>ip),Z7 _ _ _ _,(fun b h=>bS),iu,S2.out⟩
 case round =>
  obtain⟨j,ys,aa,ac,g3,Ly,hj,rfl,rfl,ON,hys,hrow,hab,hwr,hst⟩:=hrel;obtain⟨HY,Ys,j9,ix,HST⟩:=ZM hys hrow hab hwr hst;clear hys hrow hab hwr hst W2 S2;have hlt:j<n:=ae;obtain⟨x,hx⟩:=ZB xs j ae;obtain⟨b,off,rfl,hcell⟩:=(HM.out.kept HST.out.k (fun b off c h=>o9)).2.resolve_left ae;have lP:=hcell j x hx;have hbl:=ZQ lP;clear hcell;have v0:=lP;have BN:=hid (ZT wr.heap.size wr)
  by_cases hjk:j<k
  ·skip
   have rm:=hid (HE.out j x hx hjk ys wr g3 Ly aa ac ON HY.out (HST.out.trans (Stp.of_below BN.out)) (ix.out.later BN.out) (aV Ys.out (fun B hB=>BN.out.block B (aL Ys.out hB))) j9.out)
   go_wp2_with fail;exact Uy
  obtain rfl:j=k:=ae;obtain rfl:x=xk:=Aa;have rm:=hid (HN.out ys wr g3 Ly aa ac ON HY.out (HST.out.trans (Stp.of_below BN.out)) (ix.out.later BN.out) (aV Ys.out (fun B hB=>BN.out.block B (aL Ys.out hB))) j9.out)
  go_wp2_with fail;refine rm.out.mono ?_;rintro e w5⟨⟨p,rfl⟩,bm⟩;exact⟨rfl,⟨p,rfl⟩,(HST.out.trans (Stp.of_below BN.out)).throw bm⟩
theorem zm(R g cap:Nat)(bs:LIz)(ha:OAz)(n hc:Nat)(most:Int)(f:Value)(w:World)(h:Wr w R g cap bs)(hm:most<(n:Int)) :
  Calls Tryz.prog 134 #[cW R,.slice ha n hc,ZI most,f] w (aQ R g 20 w):=by
 have du:=bH;have hcc:=cN;have HC:=hid (fN R g cap bs n most w h hm);clear h;go_enter Tryz.func134,Tryz.ntmps134;exact lT
theorem PC:∃i,Tryz.prog.info? 102=some i/\i.zero=some (.agg #[ZU 0,.bool false,.int .u64 0])/\i.size=3/\i.bytes=16:=CH ak
def ud(y:Gl):List Value:=[ZU y.1,.bool y.2.1,.int .u64 y.2.2]
abbrev Ww(x:Gl):Value:=.agg #[ZU x.1,.bool x.2.1,.int .u64 x.2.2]
abbrev WC(y:Gl):Value:=.agg #[ZU y.1,.bool y.2.1,.int .u64 y.2.2]
def qI(w:World)(a:OAz)(n:Nat)(xs:List Gl):Prop :=
 xs.length=n/\(n=0\/∃b off,a=some (ZA b off)/\∀(j:Nat)x,xs[j]? =some x->w.cell? (ZA b (off+j*3))=some (ZU x.1)/\w.cell? (ZA b (off+j*3+1))=some (.bool x.2.1)/\w.cell? (ZA b (off+j*3+2))=some (.int .u64 x.2.2))
theorem qI.kept{xs:List Gl}(h:qI w a n xs)(hk:Kept S w w')(hS:∀b off c,a=some ⟨b,off,c⟩->¬S b):qI w' a n xs:=by
 exact Lg
theorem BH(w:World)(y:Gl):∀j u,(ud y)[j]? =some u->(w.alloc (aZ y.1 y.2.1 y.2.2)).cell? (((ZA w.heap.size 0):Addr).add j)=some u:=by
 intro j u hj;have hlt:=aF hj;have hl:(ud y).length=3:=rfl;rw[hl]at hlt;have hadd:((ZA w.heap.size 0):Addr).add j=(ZA w.heap.size j):=iI;rw[hadd];have hb:=(ZZ w (aZ y.1 y.2.1 y.2.2)).1;simp only[World.cell?,hb]
 simpa[ud] using hj
theorem Cr(y:Gl):∀u∈ud y,u.oneCell'=true:=by
 intro u hu;simp[ud]at hu
 rcases hu with rfl | rfl | rfl <;> rfl
abbrev VD:=@rJ Gl Gl ud Ww WC 102 3
namespace LGl
abbrev oC0:=ud
abbrev cL(x:Gl):Obj:=.cells #[ZU x.1,.bool x.2.1,.int .u64 x.2.2] 102
abbrev cM(y:Gl):Obj:=.cells #[ZU y.1,.bool y.2.1,.int .u64 y.2.2] 102
theorem nC(w:World)(y:Gl):∀j u,(ud y)[j]? =some u->(w.alloc (cM y)).cell? (((ZA w.heap.size 0):Addr).add j)=some u:=BH w y
theorem oC(y:Gl):∀u∈ud y,u.oneCell'=true:=Cr y
theorem uN:Tryz.prog.underlying 24=some (.slice 102):=Tryz.underlying24
end LGl
open LGl in
theorem AB:qf 137 ud Ww WC qI 102 3:=by
 intro R g cap bs ha n hc most K cs w xs enc Ok M h hn hm hmem hne hK hlen hM hb Do;have du:=bH;have hcc:=cN;have HC:=hid (bU R g cap bs n most w h hm ae ae);have OF:=h.lt;have hgl:=h.g_lt;have hxl:=hmem.1;obtain⟨HM,ZD,HE⟩:=ZH hmem hne Do;obtain⟨i0,hi,hz0,hz1,hz2⟩:=PC;clear h hmem Do hne;go_enter Tryz.func137,Tryz.ntmps137
 go_wp2_with fail;refine HC.out.mono ?_;rintro e w2⟨rfl,g1,An,hw2,hs2⟩;obtain⟨W2,S2⟩:=Zz hw2 hs2;clear hw2 hs2 HC du hcc;go_wp2_with fail
 go_loopw [9,17] (fun o i wr=>rV oC0 102 3 R g w bs n xs enc Ok n o i wr) (fun _ i _=>n-(intOf i).toNat)
 case atStart=>exact⟨0,[],none,0,g1,An,ae,rfl,rfl,rfl,(fun i y h=>ip),Z7 _ _ _ _,(fun b h=>bS),iu,S2.out⟩
 case round =>
  exact Uu
open LGl in
theorem DC:uy 137 ud Ww WC qI 102 3:=by
 intro R g cap bs ha n hc most K cs w xs enc Ok M h hn hm hmem hne hK hlen hM hb k xk er hk Do hno;have hkn:=aF hk;have du:=bH;have hcc:=cN;have HC:=hid (bU R g cap bs n most w h hm ae ae);have OF:=h.lt;have hgl:=h.g_lt;have hxl:=hmem.1;obtain⟨HM,ZD,HE,HN⟩:=ZF hmem hne Do hno;obtain⟨i0,hi,hz0,hz1,hz2⟩:=PC;clear h hmem Do hne hno;go_enter Tryz.func137,Tryz.ntmps137
 go_wp2_with fail;refine HC.out.mono ?_;rintro e w2⟨rfl,g1,An,hw2,hs2⟩;obtain⟨W2,S2⟩:=Zz hw2 hs2;clear hw2 hs2 HC du hcc;go_wp2_with fail
 go_loopw [9,17] (fun o i wr=>rV oC0 102 3 R g w bs n xs enc Ok k o i wr) (fun _ i _=>n-(intOf i).toNat)
 case atStart=>exact⟨0,[],none,0,g1,An,ae,rfl,rfl,rfl,(fun i y h=>ip),Z7 _ _ _ _,(fun b h=>bS),iu,S2.out⟩
 case round =>
  exact Ux
theorem xg(R g cap:Nat)(bs:LIz)(ha:OAz)(n hc:Nat)(most:Int)(f:Value)(w:World)(h:Wr w R g cap bs)(hm:most<(n:Int)) :
  Calls Tryz.prog 137 #[cW R,.slice ha n hc,ZI most,f] w (aQ R g 20 w):=by
 have du:=bH;have hcc:=cN;have HC:=hid (fN R g cap bs n most w h hm);clear h;go_enter Tryz.func137,Tryz.ntmps137;exact lT
theorem ze(b:Bool)(w:World):Calls Tryz.prog 188 #[.bool b] w (ZG (ZU (if b then 1 else 0)) w):=by
 cases b
 all_goals
  go_enter Tryz.func188,Tryz.ntmps188;exact lW
theorem tD(v p:Int)(w:World)(h:isL v=true):Calls Tryz.prog 186 #[ZU v,ZI p] w (nV w):=by
 have HL:=hid (pR v w);rw[h]at HL;go_enter Tryz.func186,Tryz.ntmps186
 go_wp2_with fail;refine HL.out.mono ?_;rintro e w1⟨rfl,rfl⟩;clear HL;exact I4
theorem KO(v p:Int)(w:World)(h:isL v=false):Calls Tryz.prog 186 #[ZU v,ZI p] w (nT 15 w):=by
 have HL:=hid (pR v w);rw[h]at HL;go_enter Tryz.func186,Tryz.ntmps186
 go_wp2_with fail;refine HL.out.mono ?_;rintro e w1⟨rfl,rfl⟩;clear HL;go_wp2_with fail;refine(gi rfl).mono ?_;exact sL
def bit(b:Bool):Int:=if b then 1 else 0
theorem UJ(w:World):Calls Tryz.prog 188 #[.bool false] w (ZG (ZU 0) w):=ze false w
theorem Uo(w:World):Calls Tryz.prog 188 #[.bool true] w (ZG (ZU 1) w):=ze true w
theorem Mr(p:Int)(w:World):Calls Tryz.prog 189 #[ZU 0,ZI p] w (nV w):=by
 have HF:=hid UJ;go_enter Tryz.func189,Tryz.ntmps189
 go_wp2_with (first | (go_at_call 188; refine(HF.out _).mono ?_; rintro e w' ⟨rfl,rfl⟩) | (go_at_call 84; refine(dG rfl).mono ?_; rintro e w' ⟨rfl,rfl⟩))
 go_end0;exact⟨rfl,ZT _ _⟩
theorem Qc(p:Int)(w:World):Calls Tryz.prog 189 #[ZU 1,ZI p] w (nV w):=by
 obtain⟨HF,HT⟩:=Zz UJ Uo;go_enter Tryz.func189,Tryz.ntmps189
 go_wp2_with fail;refine(HF.out _).mono ?_;rintro e w' ⟨rfl,rfl⟩
 go_wp2_with (first | (go_at_call 188; refine(HT.out _).mono ?_; rintro e w' ⟨rfl,rfl⟩) | (go_at_call 84; refine(dG rfl).mono ?_; rintro e w' ⟨rfl,rfl⟩))
 go_end0;exact⟨rfl,ZT _ _⟩
theorem vE(c v:Int)(h0:0<=v)(h:v<18446744073709551616):-9223372036854775808<=sgn c v/\sgn c v<9223372036854775808:=by
 unfold sgn; split <;> split <;> (try split) <;> omega
theorem Vh{v:Int}(h0:0<=v)(h:v<4294967296):wrap64 (wrap32 v)=sgn 119 v:=by
 unfold sgn wrap64 wrap32;rw[if_pos rfl,if_pos h]
 split <;> omega
theorem YA{c v:Int}(hc:c≠119)(h0:0<=v)(h:v<18446744073709551616):wrap64 v=sgn c v:=by
 unfold sgn wrap64;rw[if_neg hc]
 split <;> omega
theorem rA(c v:Int)(mu:Bool)(w:World)(h0:0<=v)(h1:v<18446744073709551616):Calls Tryz.prog 190 #[.agg #[ZU c,.bool mu,.int .u64 v]] w (ZC (ZI (sgn c v)) w):=by
 have B1:=hid (aj w (aZ c mu v))
 by_cases hc:c=119
 ·subst hc
  have HF:=hid (fun W=>U5 v 119 W)
  by_cases hv:v<4294967296
  ·have hf:ib v 119=true:=by simp[ib,hv]
   rw[hf]at HF;have HS:=hid (Vh h0 hv);go_enter Tryz.func190,Tryz.ntmps190
   go_wp2_with (first | (go_at_call 231; refine(HF.out _).mono ?_; rintro e w' ⟨rfl,rfl⟩))
   exact Hj
  have hf:ib v 119=false:=by simp[ib,hv]
  rw[hf]at HF
  have hs:sgn 119 v=9223372036854775807:=by unfold sgn; rw[if_pos rfl,if_neg hv]
  rw[hs];go_enter Tryz.func190,Tryz.ntmps190
  go_wp2_with (first | (go_at_call 231; refine(HF.out _).mono ?_; rintro e w' ⟨rfl,rfl⟩))
  go_ret;exact⟨rfl,B1.out⟩
 have hc':(c != 119)=true:=by simp[hc]
 have HS:=hid (YA hc h0 h1);go_enter Tryz.func190,Tryz.ntmps190
 go_wp2_with fail;exact Hj
theorem Vw{v:Int}(h0:0<=v)(h:v<4294967296):sgn 119 v%4294967296=v:=by
 unfold sgn;rw[if_pos rfl,if_pos h]
 split <;> omega
theorem U3{c v:Int}(hc:c≠119)(h0:0<=v)(h:v<18446744073709551616):IntKind.u64.wrap (sgn c v)=v:=by
 unfold sgn;rw[if_neg hc]
 split <;> simp[IntKind.wrap,IntKind.bits,IntKind.signed] <;> omega
theorem uJ(c v:Int)(w:World)(h0:0<=v)(h1:v<18446744073709551616)(h2:c=119->v<4294967296):Calls Tryz.prog 192 #[ZU c,ZI (sgn c v)] w (ZG (.int .u64 v) w):=by
 by_cases hc:c=119
 ·subst hc;have hb:=Vw h0 (h2 rfl);generalize sgn 119 v=x at *
  go_enter Tryz.func192,Tryz.ntmps192
  go_wp2_with fail;go_ret
  first | exact⟨rfl,rfl⟩ | exact⟨congrArg (fun x=>Ending.returned (.int .u64 x)) hb,rfl⟩
 have hb:=U3 hc h0 h1;generalize sgn c v=x at *
 have hc':(c==119)=false:=by simp[hc]
 go_enter Tryz.func192,Tryz.ntmps192;exact lW
theorem Mu{v:Int}(h0:0<=v)(h1:v<18446744073709551616):(sgn 119 v==wrap64 (wrap32 (sgn 119 v)))=decide (v<4294967296):=by
 unfold sgn wrap64 wrap32;rw[if_pos rfl]
 by_cases h:v<4294967296
 ·rw[if_pos h]
  simp only[h,decide_true,beq_iff_eq]
  split <;> omega
 rw[if_neg h];simp only[h,decide_false]
 decide
theorem Dy(B:Nat)(c v p:Int)(w:World)(h0:0<=v)(h1:v<18446744073709551616)(hB:w.cell? (ZA B 0)=some (ZU c))(h:c=119->v<4294967296) :
  Calls Tryz.prog 191 #[ZI (sgn c v),ZI p,ZP B 0] w (nV w):=by
 by_cases hc:c=119
 ·subst hc;have hs:=Mu h0 h1;rw[decide_eq_true (h rfl)]at hs;generalize sgn 119 v=x at *
  go_enter Tryz.func191,Tryz.ntmps191;go_wp2_with fail
  refine(dG (by first | rfl | exact hs)).mono ?_
  exact Hl
 have hc':(c != 119)=true:=by simp[hc]
 generalize sgn c v=x at *;go_enter Tryz.func191,Tryz.ntmps191
 go_wp2_with fail;refine(dG rfl).mono ?_;exact Hl
theorem J3(B:Nat)(v p:Int)(w:World)(h0:0<=v)(h1:v<18446744073709551616)(hB:w.cell? (ZA B 0)=some (ZU 119))(h:¬v<4294967296) :
  Calls Tryz.prog 191 #[ZI (sgn 119 v),ZI p,ZP B 0] w (nT 17 w):=by
 have hs:=Mu h0 h1;rw[decide_eq_false h]at hs;generalize sgn 119 v=x at *;go_enter Tryz.func191,Tryz.ntmps191;go_wp2_with fail
 refine(gi (by first | rfl | exact hs)).mono ?_
 rintro e w' ⟨rfl,rfl⟩;exact⟨rfl,⟨_,rfl⟩,ZT _ _⟩
theorem UU(b:Bool)(w:World):Calls Tryz.prog 188 #[.bool b] w (ZG (ZU (bit b)) w):=ze b w
theorem NK(b:Bool)(p:Int)(w:World):Calls Tryz.prog 189 #[ZU (bit b),ZI p] w (nV w):=by
 cases b
 ·exact Mr p w
 exact Qc p w
theorem nD(b:Bool):0<=bit b/\bit b<=255:=by cases b <;> decide
theorem Lp(b:Bool):(bit b==1)=b:=by cases b <;> decide
variable {b:Nat}{t:TypeId}
theorem aI{u v x:Value}(h:w.heap[b]? =some (.cells #[u,v,x] t)):w.cell? (ZA b 0)=some u/\w.cell? (ZA b 1)=some v/\w.cell? (ZA b 2)=some x/\w.frozen? (ZA b 0)=false/\w.frozen? (ZA b 1)=false/\w.frozen? (ZA b 2)=false:=by
 simp[World.cell?,World.frozen?,h]
theorem vS(a:Addr)(w:World):(nilAhead 481 150 (.pointer (some a)) "flagon/module.octet").run Tryz.prog w=.ok (some false) w:=rfl
theorem tS(a:Addr)(w:World):(nilAhead 481 150 (.pointer (some a)) "flagon/module.signed").run Tryz.prog w=.ok (some false) w:=rfl
def ul(w:World)(c v:Int)(mu:Bool):World:=(w.alloc (aZ c mu v)).alloc (aZ 0 false 0)
theorem oh(w:World)(c v:Int)(mu:Bool):Zx w (ul w c v mu)/\(ul w c v mu).heap.size=w.heap.size+1+1/\(ul w c v mu).heap[w.heap.size]? =some (aZ c mu v)/\(ul w c v mu).heap[w.heap.size+1]? =some (aZ 0 false 0):=by
 unfold ul;refine⟨((ZT _ w).alloc lRn _).alloc av _,av,?_,?_⟩
 ·exact G8
 have:=(ZZ (w.alloc (aZ c mu v)) (aZ 0 false 0)).1;exact cR
theorem Al(R g cap:Nat)(bs:LIz)(c v:Int)(mu:Bool)(w:World)(h:Wr w R g cap bs)(hb:bs.length+100<=1099511627776)(h0:0<=c)(h1:c<=255)(v0:0<=v)(v1:v<18446744073709551616)(hl:isL c=true)(hv:c=119->v<4294967296) :
  Calls Tryz.prog 139 #[cW R,.agg #[.int .u8 c,.bool mu,.int .u64 v]] w (qX R g bs (dE (c,mu,v)) (.agg #[.int .u8 c,.bool mu,.int .u64 v]) w):=by
 have hmo:=oO;have hco:=t6;have hms:=rE;have hcs:=Bo;have hno:=vS;have hns:=tS;obtain⟨B0,z0,x0,x1⟩:=oh w c v mu;have HW:(w.alloc (aZ c mu v)).alloc (aZ 0 false 0)=ul w c v mu:=rfl;have OF:=h.lt;have hgl:=h.g_lt;generalize ul w c v mu=W1 at *;have H1:=hid (jz R g cap bs c 186 #[] W1 (h.later B0) h0 h1 ae (fun _ _=>rfl) (tD c _ W1 hl));have BW:=hid B0;obtain⟨a0,a1,a2,_,_,_⟩:=aI x0;clear h B0;go_enter Tryz.func139,Tryz.ntmps139
 go_wp2_with fail;refine H1.out.mono ?_;rintro e w2⟨rfl,g1,An,hw2,hs2⟩;have y0:=(hs2.block (b:=w.heap.size) ae ae ae).trans x0;have y1:=(hs2.block (b:=w.heap.size+1) ae ae ae).trans x1;have n0:w.heap.size≠g1:=hs2.ne ae ae;have n1:w.heap.size+1≠g1:=hs2.ne ae ae;have S2:=hid ((Stp.of_below BW.out).trans hs2);have z2:=S2.out.size;have z2':=hs2.size;have gl2:=hw2.g_lt;obtain⟨w3,hw3⟩:∃w3,w2.alloc (eK c)=w3:=⟨_,rfl⟩
 have B3:Zx w2 w3:=by rw[<- hw3]; exact aj _ _
 have z3:w3.heap.size=w2.heap.size+1:=by rw[<- hw3]; simp
 have l3:w3.cell? ⟨w2.heap.size,0,none⟩=some (.int .u8 c):=by rw[<- hw3]; exact ij _ _ _
 have q0:=(B3.block w.heap.size ae).trans y0;have q1:=(B3.block (w.heap.size+1) ae).trans y1;obtain⟨b0,b1,b2,_,_,_⟩:=aI q0;have HO2:=hid (jz R g1 An (bs++[c]) (bit mu) 189 #[] w3.drew ((hw2.later B3).later (ZT _ _).drew) (nD mu).1 (nD mu).2 aA (fun _ _=>rfl) (NK mu _ w3.drew));have HF:=hid (UU mu);have BB3:=hid B3;clear hs2 hw2 H1 x0 x1 a0 a1 a2 y0 y1 B3 HW;go_wp2_with fail
 go_region_held3 (fun W=>W.cell? ⟨w.heap.size,1,none⟩=some (.bool mu)) (assumption) (first
  | (go_at_call 188; refine(HF.out _).mono ?_; rintro e w' ⟨rfl,rfl⟩)
  | (go_at_call 320; refine HO2.out.mono ?_; rintro e w4⟨rfl,g2,cap2,hw4,hs4⟩; have qt:w4.cell? ⟨w.heap.size,1,none⟩=some (.bool mu):=hs4.cell b1 ae n0; have W4:=hid hw4; have S4:=hid hs4; clear hw4 hs4))
 all_goals
  have f0:=(S4.out.block (b:=w.heap.size) aA ae n0).trans q0;have f1:=(S4.out.block (b:=w.heap.size+1) aA ae n1).trans q1;have f2:=S4.out.cell (b:=w2.heap.size) l3 ae ae;obtain⟨d0,d1,d2,_,_,_⟩:=aI f0;have m0:w.heap.size≠g2:=S4.out.ne aA n0;have m1:w.heap.size+1≠g2:=S4.out.ne aA n1;have m2:w2.heap.size≠g2:=S4.out.ne aA ae;have z4:w3.heap.size<=w4.heap.size:=S4.out.size;have S4':=hid ((S2.out.trans (Stp.of_below BB3.out)).trans ((Stp.of_below ((ZT _ _).drew)).trans S4.out));have HWS:=hid (fun W=>rA c v mu W v0 v1);clear S4 HO2 HF qt q0 q1 b0 b1 b2 l3 hno hmo hco;go_wp2_with fail;have A':=hid (fun W (hW:Zx w4 W)=>vr R g2 cap2 (bs++[c]++[bit mu]) (sgn c v) 191 #[.pointer (some ⟨w2.heap.size,0,none⟩)] W (W4.out.later hW) (vE c v v0 v1).1 (vE c v v0 v1).2 aA (fun _ _=>rfl) (Dy w2.heap.size c v _ W v0 v1 ((hW.cell zJ).trans f2) hv));have pi:=hid (fun(W5:World) (hb:Below w4.heap.size w4.drew W5)=>(Below.trans ((ZT w4.heap.size w4).drew) hb:Zx w4 W5));have HC4:=hid (fun(W5:World) (hb:Zx w4 W5)=>(⟨(hb.cell (by exact ZQ d0)).trans d0,(hb.cell (by exact ZQ d1)).trans d1,(hb.cell (by exact ZQ d2)).trans d2⟩:W5.cell? ⟨w.heap.size,0,none⟩=some (.int .u8 c)/\W5.cell? ⟨w.heap.size,1,none⟩=some (.bool mu)/\W5.cell? ⟨w.heap.size,2,none⟩=some (.int .u64 v)))
  go_region_held3 (fun W=>W.cell? ⟨w.heap.size,0,none⟩=some (.int .u8 c)/\W.cell? ⟨w.heap.size,1,none⟩=some (.bool mu)/\W.cell? ⟨w.heap.size,2,none⟩=some (.int .u64 v)) (first | assumption | exact⟨d0,d1,d2⟩) (first
   | (go_at_call 190; refine(HWS.out _).mono ?_; rintro e w5⟨rfl,AI⟩; have hB5:=hid (pi.out w5 AI); have qt:=HC4.out w5 hB5.out; clear AI)
   | (go_at_call 322; refine(A'.out _ hB5.out).mono ?_; rintro e w6⟨rfl,g3,Ly,hw6,vu⟩; have hS'':w6.cell? ⟨w.heap.size,0,none⟩=some (.int .u8 c)/\w6.cell? ⟨w.heap.size,1,none⟩=some (.bool mu)/\w6.cell? ⟨w.heap.size,2,none⟩=some (.int .u64 v):=⟨vu.cell qt.1 ae m0,vu.cell qt.2.1 ae m0,vu.cell qt.2.2 ae m0⟩; have W6:=hid hw6; have S6:=hid vu; clear hw6 vu))
  all_goals
   have z5:=hB5.out.size;have e1:=(S6.out.block (b:=w.heap.size+1) ae ae m1).trans ((hB5.out.block _ ae).trans f1);have e2:=S6.out.cell (b:=w2.heap.size) ((hB5.out.cell zJ).trans f2) ae m2;have p1:w.heap.size+1≠g3:=S6.out.ne ae m1;have S6':=hid ((S4'.out.trans (Stp.of_below hB5.out)).trans S6.out);obtain⟨k0,k1,k2,k3,k4,k5⟩:=aI e1;have hlt6:=ZQ e2;have hlt7:=ZQ k0;have HF:=hid (Uo);have HWO:=hid (fun W=>uJ c v W v0 v1 hv);clear S6 A' pi HC4 HWS qt hS'' f0 f1 f2 d0 d1 d2 hns hms hcs e1;go_wp2_with fail;have hbb:=Lp mu
   go_region_held3 (fun W=>W.cell? ⟨w2.heap.size,0,none⟩=some (.int .u8 c)) (first | assumption | (simp[go_sem]; assumption) | (rw[World.cell?_setCell_other _ _ _ _ aA,World.cell?_setCell_other _ _ _ _ aA,World.cell?_setCell_other _ _ _ _ aA]; assumption)) (first
    | (go_at_call 188; refine(HF.out _).mono ?_; rintro e w' ⟨rfl,rfl⟩)
    | (go_at_call 192; refine(HWO.out _).mono ?_; rintro e w' ⟨rfl,rfl⟩))
   all_goals
    go_wp2_with fail;refine i4 (v:=.agg #[.int .u8 c,.bool mu,.int .u64 v]) ?_ rfl ⟨rfl,g3,Ly,?_,?_⟩
    ·exact iw
    ·have:=(((W6.out.set (b:=w.heap.size+1) (o:=0) (v:=.int .u8 c) ae p1).set (b:=w.heap.size+1) (o:=1) (v:=.bool mu) ae p1).set (b:=w.heap.size+1) (o:=2) (v:=.int .u64 v) ae p1).later (ZT _ _).drew
     simpa[dE,bit,Z2] using this
    exact(((S6'.out.set ae).set ae).set ae).trans (Stp.of_below ((ZT _ _).drew))
theorem iQ(w:World)(a b:Obj):Zx w ((w.alloc a).alloc b)/\((w.alloc a).alloc b).heap.size=w.heap.size+1+1/\((w.alloc a).alloc b).heap[w.heap.size]? =some a/\((w.alloc a).alloc b).heap[w.heap.size+1]? =some b:=by
 refine⟨((ZT _ w).alloc lRn _).alloc av _,av,?_,?_⟩
 ·rw[(aj (w.alloc a) b).block _ av];exact(ZZ w a).1
 have:=(ZZ (w.alloc a) b).1;exact cR
theorem Ek(R g cap:Nat)(bs:LIz)(x:(ByteArray×ByteArray))(aa:OAz)(an ac:Nat)(A:Nat)(w:World)(h:Wr w R g cap bs)(hA:w.cell? (ZA A 0)=some (cW R))
  (P:(ByteArray×ByteArray)->Prop) (new:LIz) (hcall:∀W,Zx w W->Calls Tryz.prog 133 #[cW R,.agg #[.string x.1,.string x.2],.slice aa an ac] W (fun e w'=>∃y:(ByteArray×ByteArray),e=.returned (.agg #[.string y.1,.string y.2])/\P y/\∃g' cap',Wr w' R g' cap' new/\Stp R g g' W w')) :
  Calls Tryz.prog 132 #[.agg #[.string x.1,.string x.2],.slice aa an ac,ZP A 0] w (fun e w'=>∃y:(ByteArray×ByteArray),e=.returned (.agg #[.string y.1,.string y.2])/\P y/\∃g' cap',Wr w' R g' cap' new/\Stp R g g' w w'):=by
 obtain⟨B0,z0,x0,x1⟩:=iQ w (aW x.1 x.2) (aW ⟨#[]⟩ ⟨#[]⟩);have OF:=h.lt;have hgl:=h.g_lt;have io:=(B0.cell jg).trans hA;have HC:=hid (hcall _ B0);obtain⟨W1,hW1⟩:∃W1,(w.alloc (aW x.1 x.2)).alloc (aW ⟨#[]⟩ ⟨#[]⟩)=W1:=⟨_,rfl⟩;rw[hW1]at B0 z0 x0 x1 io HC;have BW:=hid B0;obtain⟨a0,a1,_,_⟩:=cS x0;clear h B0 hA hcall;go_enter Tryz.func132,Tryz.ntmps132
 go_wp2_with fail;refine HC.out.mono ?_;rintro e w5⟨y,rfl,hP,g',cap',Lo,hs5⟩;have q1:=(hs5.block (b:=w.heap.size+1) ae ae ae).trans x1;have n1:w.heap.size+1≠g':=hs5.ne ae ae;obtain⟨k0,k1,k2,k3⟩:=cS q1;have mm:=ZQ k0;have W5:=hid Lo;have S5:=hid ((Stp.of_below BW.out).trans hs5);clear Lo hs5 x0 x1 q1 HC;go_wp2_with fail;refine i4 (v:=.agg #[.string y.1,.string y.2]) ?_ rfl ⟨y,rfl,hP,g',cap',?_,?_⟩
 ·exact iw
 ·exact xy
 exact yh
theorem Kt(R g cap:Nat)(bs:LIz)(x:(ByteArray×ByteArray))(aa:OAz)(an ac:Nat)(A:Nat)(w:World)(h:Wr w R g cap bs)(hA:w.cell? (ZA A 0)=some (cW R))
  (er:Int) (hcall:∀W,Zx w W->Calls Tryz.prog 133 #[cW R,.agg #[.string x.1,.string x.2],.slice aa an ac] W (aQ R g er W)) :
  Calls Tryz.prog 132 #[.agg #[.string x.1,.string x.2],.slice aa an ac,ZP A 0] w (aQ R g er w):=by
 obtain⟨B0,z0,x0,x1⟩:=iQ w (aW x.1 x.2) (aW ⟨#[]⟩ ⟨#[]⟩);have OF:=h.lt;have hgl:=h.g_lt;have io:=(B0.cell jg).trans hA;have HC:=hid (hcall _ B0);obtain⟨W1,hW1⟩:∃W1,(w.alloc (aW x.1 x.2)).alloc (aW ⟨#[]⟩ ⟨#[]⟩)=W1:=⟨_,rfl⟩;rw[hW1]at B0 z0 x0 x1 io HC;have BW:=hid B0;obtain⟨a0,a1,_,_⟩:=cS x0;clear h B0 hA hcall;go_enter Tryz.func132,Tryz.ntmps132;exact pN
theorem DF(R g cap:Nat)(bs:LIz)(x:(Int×Bool×Int))(aa:OAz)(an ac:Nat)(A:Nat)(w:World)(h:Wr w R g cap bs)(hA:w.cell? (ZA A 0)=some (cW R))
  (P:(Int×Bool×Int)->Prop) (new:LIz) (hcall:∀W,Zx w W->Calls Tryz.prog 139 #[cW R,.agg #[ZU x.1,.bool x.2.1,.int .u64 x.2.2]] W (fun e w'=>∃y:(Int×Bool×Int),e=.returned (.agg #[ZU y.1,.bool y.2.1,.int .u64 y.2.2])/\P y/\∃g' cap',Wr w' R g' cap' new/\Stp R g g' W w')) :
  Calls Tryz.prog 138 #[.agg #[ZU x.1,.bool x.2.1,.int .u64 x.2.2],.slice aa an ac,ZP A 0] w (fun e w'=>∃y:(Int×Bool×Int),e=.returned (.agg #[ZU y.1,.bool y.2.1,.int .u64 y.2.2])/\P y/\∃g' cap',Wr w' R g' cap' new/\Stp R g g' w w'):=by
 obtain⟨B0,z0,x0,x1⟩:=iQ w (aZ x.1 x.2.1 x.2.2) (aZ 0 false 0);have OF:=h.lt;have hgl:=h.g_lt;have io:=(B0.cell jg).trans hA;have HC:=hid (hcall _ B0);obtain⟨W1,hW1⟩:∃W1,(w.alloc (aZ x.1 x.2.1 x.2.2)).alloc (aZ 0 false 0)=W1:=⟨_,rfl⟩;rw[hW1]at B0 z0 x0 x1 io HC;have BW:=hid B0;obtain⟨a0,a1,a2,_,_,_⟩:=aI x0;clear h B0 hA hcall;go_enter Tryz.func138,Tryz.ntmps138
 go_wp2_with fail;refine HC.out.mono ?_;rintro e w5⟨y,rfl,hP,g',cap',Lo,hs5⟩;have q1:=(hs5.block (b:=w.heap.size+1) ae ae ae).trans x1;have n1:w.heap.size+1≠g':=hs5.ne ae ae;obtain⟨k0,k1,k2,k3,k4,k5⟩:=aI q1;have mm:=ZQ k0;have W5:=hid Lo;have S5:=hid ((Stp.of_below BW.out).trans hs5);clear Lo hs5 x0 x1 q1 HC;go_wp2_with fail;refine i4 (v:=.agg #[ZU y.1,.bool y.2.1,.int .u64 y.2.2]) ?_ rfl ⟨y,rfl,hP,g',cap',?_,?_⟩
 ·exact iw
 ·exact(((W5.out.set (b:=w.heap.size+1) ae n1).set (b:=w.heap.size+1) ae n1).set (b:=w.heap.size+1) ae n1)
 exact(((S5.out.set ae).set ae).set ae)
theorem JY(R g cap:Nat)(bs:LIz)(x:(Int×Bool×Int))(aa:OAz)(an ac:Nat)(A:Nat)(w:World)(h:Wr w R g cap bs)(hA:w.cell? (ZA A 0)=some (cW R))
  (er:Int) (hcall:∀W,Zx w W->Calls Tryz.prog 139 #[cW R,.agg #[ZU x.1,.bool x.2.1,.int .u64 x.2.2]] W (aQ R g er W)) :
  Calls Tryz.prog 138 #[.agg #[ZU x.1,.bool x.2.1,.int .u64 x.2.2],.slice aa an ac,ZP A 0] w (aQ R g er w):=by
 obtain⟨B0,z0,x0,x1⟩:=iQ w (aZ x.1 x.2.1 x.2.2) (aZ 0 false 0);have OF:=h.lt;have hgl:=h.g_lt;have io:=(B0.cell jg).trans hA;have HC:=hid (hcall _ B0);obtain⟨W1,hW1⟩:∃W1,(w.alloc (aZ x.1 x.2.1 x.2.2)).alloc (aZ 0 false 0)=W1:=⟨_,rfl⟩;rw[hW1]at B0 z0 x0 x1 io HC;have BW:=hid B0;obtain⟨a0,a1,a2,_,_,_⟩:=aI x0;clear h B0 hA hcall;go_enter Tryz.func138,Tryz.ntmps138;exact pN
theorem DG(R g cap:Nat)(bs:LIz)(x:(Int×(Option Addr×Nat×Nat)×List Int))(aa:OAz)(an ac:Nat)(A:Nat)(O:Nat)(fi:Int)(w:World)(h:Wr w R g cap bs)(hA:w.cell? (ZA A 0)=some (cW R))(hO:w.cell? (ZA O 3)=some (ZI fi))(vf:0<=fi)(qk:fi<=64)
  (P:(Int×(Option Addr×Nat×Nat))->Prop) (new:LIz) (hcall:∀W,Zx w W->Calls Tryz.prog 146 #[cW R,.agg #[ZI x.1,.slice x.2.1.1 x.2.1.2.1 x.2.1.2.2],.slice aa an ac,ZI (fi*4096)] W (fun e w'=>∃y:(Int×(Option Addr×Nat×Nat)),e=.returned (.agg #[ZI y.1,.slice y.2.1 y.2.2.1 y.2.2.2])/\P y/\∃g' cap',Wr w' R g' cap' new/\Stp R g g' W w')) :
  Calls Tryz.prog 145 #[.agg #[ZI x.1,.slice x.2.1.1 x.2.1.2.1 x.2.1.2.2],.slice aa an ac,ZP A 0,ZP O 0] w (fun e w'=>∃y:(Int×(Option Addr×Nat×Nat)),e=.returned (.agg #[ZI y.1,.slice y.2.1 y.2.2.1 y.2.2.2])/\P y/\∃g' cap',Wr w' R g' cap' new/\Stp R g g' w w'):=by
 obtain⟨B0,z0,x0,x1⟩:=iQ w (bo x.1 x.2.1.1 x.2.1.2.1 x.2.1.2.2) (bo 0 none 0 0);have OF:=h.lt;have hgl:=h.g_lt;have io:=(B0.cell jg).trans hA;have hO1:=(B0.cell (p:=(ZA O 3)) qT).trans hO;have hwf:wrap64 (fi*4096)=fi*4096:=dV;have HC:=hid (hcall _ B0);obtain⟨W1,hW1⟩:∃W1,(w.alloc (bo x.1 x.2.1.1 x.2.1.2.1 x.2.1.2.2)).alloc (bo 0 none 0 0)=W1:=⟨_,rfl⟩;rw[hW1]at B0 z0 x0 x1 io HC hO1;have BW:=hid B0;obtain⟨a0,a1,_,_⟩:=cS x0;clear h B0 hA hcall;go_enter Tryz.func145,Tryz.ntmps145
 go_wp2_with fail;refine HC.out.mono ?_;rintro e w5⟨y,rfl,hP,g',cap',Lo,hs5⟩;have q1:=(hs5.block (b:=w.heap.size+1) ae ae ae).trans x1;have n1:w.heap.size+1≠g':=hs5.ne ae ae;obtain⟨k0,k1,k2,k3⟩:=cS q1;have mm:=ZQ k0;have W5:=hid Lo;have S5:=hid ((Stp.of_below BW.out).trans hs5);clear Lo hs5 x0 x1 q1 HC;go_wp2_with fail;refine i4 (v:=.agg #[ZI y.1,.slice y.2.1 y.2.2.1 y.2.2.2]) ?_ rfl ⟨y,rfl,hP,g',cap',?_,?_⟩
 ·exact iw
 ·exact xy
 exact yh
theorem KD(R g cap:Nat)(bs:LIz)(x:(Int×(Option Addr×Nat×Nat)×List Int))(aa:OAz)(an ac:Nat)(A:Nat)(O:Nat)(fi:Int)(w:World)(h:Wr w R g cap bs)(hA:w.cell? (ZA A 0)=some (cW R))(hO:w.cell? (ZA O 3)=some (ZI fi))(vf:0<=fi)(qk:fi<=64)
  (er:Int) (hcall:∀W,Zx w W->Calls Tryz.prog 146 #[cW R,.agg #[ZI x.1,.slice x.2.1.1 x.2.1.2.1 x.2.1.2.2],.slice aa an ac,ZI (fi*4096)] W (aQ R g er W)) :
  Calls Tryz.prog 145 #[.agg #[ZI x.1,.slice x.2.1.1 x.2.1.2.1 x.2.1.2.2],.slice aa an ac,ZP A 0,ZP O 0] w (aQ R g er w):=by
 obtain⟨B0,z0,x0,x1⟩:=iQ w (bo x.1 x.2.1.1 x.2.1.2.1 x.2.1.2.2) (bo 0 none 0 0);have OF:=h.lt;have hgl:=h.g_lt;have io:=(B0.cell jg).trans hA;have hO1:=(B0.cell (p:=(ZA O 3)) qT).trans hO;have hwf:wrap64 (fi*4096)=fi*4096:=dV;have HC:=hid (hcall _ B0);obtain⟨W1,hW1⟩:∃W1,(w.alloc (bo x.1 x.2.1.1 x.2.1.2.1 x.2.1.2.2)).alloc (bo 0 none 0 0)=W1:=⟨_,rfl⟩;rw[hW1]at B0 z0 x0 x1 io HC hO1;have BW:=hid B0;obtain⟨a0,a1,_,_⟩:=cS x0;clear h B0 hA hcall;go_enter Tryz.func145,Tryz.ntmps145;exact pN
theorem CI(R g cap:Nat)(bs:LIz)(x:(ByteArray×Int))(aa:OAz)(an ac:Nat)(A:Nat)(O:Nat)(fa:OAz)(fn fc:Nat)(w:World)(h:Wr w R g cap bs)(hA:w.cell? (ZA A 0)=some (cW R))(hO:w.cell? (ZA O 5)=some (.slice fa fn fc))
  (P:(ByteArray×Int)->Prop) (new:LIz) (hcall:∀W,Zx w W->Calls Tryz.prog 149 #[cW R,.agg #[.string x.1,ZI x.2],.slice aa an ac,ZI fn] W (fun e w'=>∃y:(ByteArray×Int),e=.returned (.agg #[.string y.1,ZI y.2])/\P y/\∃g' cap',Wr w' R g' cap' new/\Stp R g g' W w')) :
  Calls Tryz.prog 148 #[.agg #[.string x.1,ZI x.2],.slice aa an ac,ZP A 0,ZP O 0] w (fun e w'=>∃y:(ByteArray×Int),e=.returned (.agg #[.string y.1,ZI y.2])/\P y/\∃g' cap',Wr w' R g' cap' new/\Stp R g g' w w'):=by
 obtain⟨B0,z0,x0,x1⟩:=iQ w (bK x.1 x.2) (bK ⟨#[]⟩ 0);have OF:=h.lt;have hgl:=h.g_lt;have io:=(B0.cell jg).trans hA;have hO1:=(B0.cell (p:=(ZA O 5)) qT).trans hO;have HC:=hid (hcall _ B0);obtain⟨W1,hW1⟩:∃W1,(w.alloc (bK x.1 x.2)).alloc (bK ⟨#[]⟩ 0)=W1:=⟨_,rfl⟩;rw[hW1]at B0 z0 x0 x1 io HC hO1;have BW:=hid B0;obtain⟨a0,a1,_,_⟩:=cS x0;clear h B0 hA hcall;go_enter Tryz.func148,Tryz.ntmps148
 go_wp2_with fail;refine HC.out.mono ?_;rintro e w5⟨y,rfl,hP,g',cap',Lo,hs5⟩;have q1:=(hs5.block (b:=w.heap.size+1) ae ae ae).trans x1;have n1:w.heap.size+1≠g':=hs5.ne ae ae;obtain⟨k0,k1,k2,k3⟩:=cS q1;have mm:=ZQ k0;have W5:=hid Lo;have S5:=hid ((Stp.of_below BW.out).trans hs5);clear Lo hs5 x0 x1 q1 HC;go_wp2_with fail;refine i4 (v:=.agg #[.string y.1,ZI y.2]) ?_ rfl ⟨y,rfl,hP,g',cap',?_,?_⟩
 ·exact iw
 ·exact xy
 exact yh
theorem JH(R g cap:Nat)(bs:LIz)(x:(ByteArray×Int))(aa:OAz)(an ac:Nat)(A:Nat)(O:Nat)(fa:OAz)(fn fc:Nat)(w:World)(h:Wr w R g cap bs)(hA:w.cell? (ZA A 0)=some (cW R))(hO:w.cell? (ZA O 5)=some (.slice fa fn fc))
  (er:Int) (hcall:∀W,Zx w W->Calls Tryz.prog 149 #[cW R,.agg #[.string x.1,ZI x.2],.slice aa an ac,ZI fn] W (aQ R g er W)) :
  Calls Tryz.prog 148 #[.agg #[.string x.1,ZI x.2],.slice aa an ac,ZP A 0,ZP O 0] w (aQ R g er w):=by
 obtain⟨B0,z0,x0,x1⟩:=iQ w (bK x.1 x.2) (bK ⟨#[]⟩ 0);have OF:=h.lt;have hgl:=h.g_lt;have io:=(B0.cell jg).trans hA;have hO1:=(B0.cell (p:=(ZA O 5)) qT).trans hO;have HC:=hid (hcall _ B0);obtain⟨W1,hW1⟩:∃W1,(w.alloc (bK x.1 x.2)).alloc (bK ⟨#[]⟩ 0)=W1:=⟨_,rfl⟩;rw[hW1]at B0 z0 x0 x1 io HC hO1;have BW:=hid B0;obtain⟨a0,a1,_,_⟩:=cS x0;clear h B0 hA hcall;go_enter Tryz.func148,Tryz.ntmps148;exact pN
theorem C8(R g cap:Nat)(bs:LIz)(x:Int)(aa:OAz)(an ac:Nat)(A O:Nat)(ta:OAz)(tn tc:Nat)(w:World)(h:Wr w R g cap bs)(hb:bs.length+10<=1099511627776)(hA:w.cell? (ZA A 0)=some (cW R))(hO:w.cell? (ZA O 0)=some (.slice ta tn tc))(h0:0<=x)(h1:x<tn)(h2:tn<=100000) :
  Calls Tryz.prog 135 #[ZI x,.slice aa an ac,ZP A 0,ZP O 0] w (qX R g bs (aw x) (ZI x) w):=by
 have HX:=hid (iq R g cap bs x tn w h hb h0 h1 ae);clear h;go_enter Tryz.func135,Tryz.ntmps135
 go_wp2_with fail;refine HX.out.mono ?_;rintro e w1⟨rfl,g',cap',hw1,hs1⟩;obtain⟨W1,S1⟩:=Zz hw1 hs1;clear hw1 hs1 HX hA hO;go_wp2_with fail;go_ret;exact⟨rfl,g',cap',W1.out,S1.out⟩
theorem JS(R g cap:Nat)(bs:LIz)(x:Int)(aa:OAz)(an ac:Nat)(A O:Nat)(ta:OAz)(tn tc:Nat)(w:World)(h:Wr w R g cap bs)(hA:w.cell? (ZA A 0)=some (cW R))(hO:w.cell? (ZA O 0)=some (.slice ta tn tc))(h0:-9223372036854775808<=x)(h1:x<9223372036854775808)(hx:x<0\/(tn:Int)<=x)(h2:tn<=100000) :
  Calls Tryz.prog 135 #[ZI x,.slice aa an ac,ZP A 0,ZP O 0] w (aQ R g 30 w):=by
 have HX:=hid (mM R g cap bs x tn w h h0 h1 hx ae ae);clear h;go_enter Tryz.func135,Tryz.ntmps135
 go_wp2_with fail;refine HX.out.mono ?_;rintro e w1⟨⟨q,rfl⟩,hk⟩;exact⟨rfl,⟨q,rfl⟩,hk⟩
section
theorem Em(R g cap:Nat)(bs:LIz)(c v:Int)(mu:Bool)(w:World)(h:Wr w R g cap bs)(hl:isL c=false) :
  Zw 139 #[cW R,.agg #[ZU c,.bool mu,.int .u64 v]] w (aQ R g 15 w):=by
 have hmo:=oO;have hco:=t6;obtain⟨B0,z0,x0,x1⟩:=oh w c v mu;have HW:(w.alloc (aZ c mu v)).alloc (aZ 0 false 0)=ul w c v mu:=rfl;generalize ul w c v mu=W1 at *;have H1:=hid (Ar R g cap bs c 186 #[] 15 W1 (h.later B0) (fun _ _=>rfl) (KO c _ W1 hl));have BW:=hid B0;obtain⟨a0,a1,a2,_,_,_⟩:=aI x0;clear h B0;go_enter func139,ntmps139
 go_wp2_with fail;refine H1.out.mono ?_;rintro e w2⟨⟨p,rfl⟩,hk⟩;exact⟨rfl,⟨p,rfl⟩,(bC BW.out).trans hk⟩
theorem DI(R g cap:Nat)(bs:LIz)(v:Int)(mu:Bool)(w:World)(h:Wr w R g cap bs)(hb:bs.length+100<=1099511627776)(v0:0<=v)(v1:v<18446744073709551616)(hv:¬v<4294967296) :
  Zw 139 #[cW R,.agg #[ZU 119,.bool mu,.int .u64 v]] w (aQ R g 17 w):=by
 have hmo:=oO;have hco:=t6;have hms:=rE;have hcs:=Bo;have hno:=vS;have hns:=tS;obtain⟨B0,z0,x0,x1⟩:=oh w 119 v mu;have HW:(w.alloc (aZ 119 mu v)).alloc (aZ 0 false 0)=ul w 119 v mu:=rfl;have OF:=h.lt;have hgl:=h.g_lt;generalize ul w 119 v mu=W1 at *;have H1:=hid (jz R g cap bs 119 186 #[] W1 (h.later B0) au au ae (fun _ _=>rfl) (tD 119 _ W1 rfl));have BW:=hid B0;obtain⟨a0,a1,a2,_,_,_⟩:=aI x0;clear h B0;go_enter func139,ntmps139
 go_wp2_with fail;refine H1.out.mono ?_;rintro e w2⟨rfl,g1,An,hw2,hs2⟩;have y0:=(hs2.block (b:=w.heap.size) ae ae ae).trans x0;have y1:=(hs2.block (b:=w.heap.size+1) ae ae ae).trans x1;have n0:w.heap.size≠g1:=hs2.ne ae ae;have n1:w.heap.size+1≠g1:=hs2.ne ae ae;have S2:=hid ((Stp.of_below BW.out).trans hs2);have z2:=S2.out.size;have z2':=hs2.size;have gl2:=hw2.g_lt;obtain⟨w3,hw3⟩:∃w3,w2.alloc (eK 119)=w3:=⟨_,rfl⟩
 have B3:Zx w2 w3:=by rw[<- hw3]; exact aj _ _
 have z3:w3.heap.size=w2.heap.size+1:=by rw[<- hw3]; simp
 have l3:w3.cell? (ZA w2.heap.size 0)=some (ZU 119):=by rw[<- hw3]; exact ij _ _ _
 have q0:=(B3.block w.heap.size ae).trans y0;have q1:=(B3.block (w.heap.size+1) ae).trans y1;obtain⟨b0,b1,b2,_,_,_⟩:=aI q0;have HO2:=hid (jz R g1 An (bs++[119]) (bit mu) 189 #[] w3.drew ((hw2.later B3).later (ZT _ _).drew) (nD mu).1 (nD mu).2 aA (fun _ _=>rfl) (NK mu _ w3.drew));have HF:=hid (UU mu);have BB3:=hid B3;clear hs2 hw2 H1 x0 x1 a0 a1 a2 y0 y1 B3 HW;go_wp2_with fail
 go_region_held3 (fun W=>W.cell? (ZA w.heap.size 1)=some (.bool mu)) (assumption) (first
  | (go_at_call 188; refine(HF.out _).mono ?_; rintro e w' ⟨rfl,rfl⟩)
  | (go_at_call 320; refine HO2.out.mono ?_; rintro e w4⟨rfl,g2,cap2,hw4,hs4⟩; have qt:w4.cell? (ZA w.heap.size 1)=some (.bool mu):=hs4.cell b1 ae n0; have W4:=hid hw4; have S4:=hid hs4; clear hw4 hs4))
 all_goals
  have f0:=(S4.out.block (b:=w.heap.size) aA ae n0).trans q0;have f1:=(S4.out.block (b:=w.heap.size+1) aA ae n1).trans q1;have f2:=S4.out.cell (b:=w2.heap.size) l3 ae ae;obtain⟨d0,d1,d2,_,_,_⟩:=aI f0;have m0:w.heap.size≠g2:=S4.out.ne aA n0;have m1:w.heap.size+1≠g2:=S4.out.ne aA n1;have m2:w2.heap.size≠g2:=S4.out.ne aA ae;have z4:w3.heap.size<=w4.heap.size:=S4.out.size;have S4':=hid ((S2.out.trans (Stp.of_below BB3.out)).trans ((Stp.of_below ((ZT _ _).drew)).trans S4.out));have HWS:=hid (fun W=>rA 119 v mu W v0 v1);clear S4 HO2 HF qt q0 q1 b0 b1 b2 l3 hno hmo hco;go_wp2_with fail;have A':=hid (fun W (hW:Zx w4 W)=>xU R g2 cap2 (bs++[119]++[bit mu]) (sgn 119 v) 191 #[ZP w2.heap.size 0] 17 W (W4.out.later hW) (fun _ _=>rfl) (J3 w2.heap.size v _ W v0 v1 ((hW.cell zJ).trans f2) ae));have pi:=hid (fun(W5:World) (hb:Below w4.heap.size w4.drew W5)=>(Below.trans ((ZT w4.heap.size w4).drew) hb:Zx w4 W5));have HC4:=hid (fun(W5:World) (hb:Zx w4 W5)=>(⟨(hb.cell (by exact ZQ d0)).trans d0,(hb.cell (by exact ZQ d1)).trans d1,(hb.cell (by exact ZQ d2)).trans d2⟩:W5.cell? (ZA w.heap.size 0)=some (ZU 119)/\W5.cell? (ZA w.heap.size 1)=some (.bool mu)/\W5.cell? (ZA w.heap.size 2)=some (.int .u64 v)));refine ZX (S:=(fun W=>W.cell? (ZA w.heap.size 0)=some (ZU 119)/\W.cell? (ZA w.heap.size 1)=some (.bool mu)/\W.cell? (ZA w.heap.size 2)=some (.int .u64 v))) ak ⟨d0,d1,d2⟩ (fun hHeld=>?_)
  refine tkC (i:=0) rfl ?_;(try simp only[Act.put,sIB]);refine tkC (i:=1) rfl ?_;(try simp only[Act.put]);refine tkC (i:=3) rfl ?_;(try simp only[Act.put]);refine tkC (i:=4) rfl ?_;(try simp only[Act.put]);refine rdY (rs:=[2,5]) ?_
  refine AllReadyH.cons rfl (fun K hK=>?_) (AllReadyH.cons rfl (fun K hK=>?_) rN)
  ·go_simp;refine(HWS.out _).mono ?_;rintro e w5⟨rfl,AI⟩;have hB5:=hid (pi.out w5 AI);clear AI
   refine hK.out _ _ (HC4.out w5 hB5.out) (fun gd=>?_);clear hK K;refine rdY (rs:=[5]) ?_;refine AllReadyH.cons rfl (fun K hK=>?_) rN;go_simp;refine hK.out _ _ gd (fun oR=>?_)
   clear hK K;refine tkC (i:=6) rfl ?_;(try simp only[Act.put,sIB]);exact OQ
  go_simp;refine hK.out _ _ hHeld (fun gd=>?_)
  clear hK K;refine tkC (i:=6) rfl ?_;(try simp only[Act.put,sIB]);refine rdY (rs:=[2]) ?_
  refine AllReadyH.cons rfl (fun K hK=>?_) rN;go_simp;refine(HWS.out _).mono ?_;rintro e w5⟨rfl,AI⟩;have hB5:=hid (pi.out w5 AI);clear AI;refine hK.out _ _ (HC4.out w5 hB5.out) (fun oR=>?_);clear hK K;exact OQ
theorem UM:∃i,prog.info? 75=some i/\i.zero=some (.agg #[ZU 0,ZI 0,ZN])/\i.size=3/\i.bytes=40:=CH ak
def uT(y:(Int×Int×(Option Addr×Nat×Nat))):List Value:=[ZU y.1,ZI y.2.1,.slice y.2.2.1 y.2.2.2.1 y.2.2.2.2]
abbrev XX(x:(Int×Int×(Option Addr×Nat×Nat)×List Int)):Value:=.agg #[ZU x.1,ZI x.2.1,.slice x.2.2.1.1 x.2.2.1.2.1 x.2.2.1.2.2]
abbrev YP(y:(Int×Int×(Option Addr×Nat×Nat))):Value:=.agg #[ZU y.1,ZI y.2.1,.slice y.2.2.1 y.2.2.2.1 y.2.2.2.2]
def AtIn(w:World)(a:OAz)(n:Nat)(xs:List (Int×Int×(Option Addr×Nat×Nat)×List Int)):Prop :=
 xs.length=n/\(n=0\/∃b off,a=some (ZA b off)/\∀(j:Nat)x,xs[j]? =some x->w.cell? (ZA b (off+j*3))=some (ZU x.1)/\w.cell? (ZA b (off+j*3+1))=some (ZI x.2.1)/\w.cell? (ZA b (off+j*3+2))=some (.slice x.2.2.1.1 x.2.2.1.2.1 x.2.2.1.2.2))
variable {S:Zam}{w w':World}{a:OAz}{n:Nat}
theorem AtIn.kept{xs:List (Int×Int×(Option Addr×Nat×Nat)×List Int)}(h:AtIn w a n xs)(hk:Kept S w w')(hS:∀b off c,nz n a=some ⟨b,off,c⟩->¬S b):AtIn w' a n xs:=by
 refine⟨h.1,h.2.imp id ?_⟩;rintro⟨b,off,ha,hc⟩;refine⟨b,off,ha,fun j x hj=>?_⟩;have ha:=Uz (n:=n) (by have:=h.1; have:=(List.getElem?_eq_some_iff.1 hj).1; omega) ha;have:=hc j x hj;exact⟨hk.cell this.1 (hS _ _ _ ha),hk.cell this.2.1 (hS _ _ _ ha),hk.cell this.2.2 (hS _ _ _ ha)⟩
theorem AW(w:World)(y:(Int×Int×(Option Addr×Nat×Nat))):∀j u,(uT y)[j]? =some u->(w.alloc (aH y.1 y.2.1 y.2.2.1 y.2.2.2.1 y.2.2.2.2)).cell? (((ZA w.heap.size 0):Addr).add j)=some u:=by
 intro j u hj;have hlt:=aF hj;have hl:(uT y).length=3:=rfl;rw[hl]at hlt;have hadd:((ZA w.heap.size 0):Addr).add j=(ZA w.heap.size j):=iI;rw[hadd];have hb:=(ZZ w (aH y.1 y.2.1 y.2.2.1 y.2.2.2.1 y.2.2.2.2)).1;simp only[World.cell?,hb]
 simpa[uT] using hj
theorem Cf(y:(Int×Int×(Option Addr×Nat×Nat))):∀u∈uT y,u.oneCell'=true:=by
 intro u hu;simp[uT]at hu
 rcases hu with rfl | rfl | rfl <;> rfl
abbrev CJ:=@rJ (Int×Int×(Option Addr×Nat×Nat)×List Int) (Int×Int×(Option Addr×Nat×Nat)) uT XX YP 75 3
abbrev MV:=@Ia (Int×Int×(Option Addr×Nat×Nat)×List Int) (Int×Int×(Option Addr×Nat×Nat)) uT XX 75 3
namespace LIn
abbrev oC0:=uT
abbrev cL(x:(Int×Int×(Option Addr×Nat×Nat)×List Int)):Obj:=.cells #[ZU x.1,ZI x.2.1,.slice x.2.2.1.1 x.2.2.1.2.1 x.2.2.1.2.2] 75
abbrev cM(y:(Int×Int×(Option Addr×Nat×Nat))):Obj:=.cells #[ZU y.1,ZI y.2.1,.slice y.2.2.1 y.2.2.2.1 y.2.2.2.2] 75
theorem nC(w:World)(y:(Int×Int×(Option Addr×Nat×Nat))):∀j u,(uT y)[j]? =some u->(w.alloc (cM y)).cell? (((ZA w.heap.size 0):Addr).add j)=some u:=AW w y
theorem oC(y:(Int×Int×(Option Addr×Nat×Nat))):∀u∈uT y,u.oneCell'=true:=Cf y
theorem uN:Tryz.prog.underlying 76=some (.slice 75):=Tryz.underlying76
end LIn
open LIn in
theorem AJ(R g cap:Nat)(bs:LIz)(ha:OAz)(n hc:Nat)(most:Int)(K:Nat)(cs:AVz)(w:World)(xs:List (Int×Int×(Option Addr×Nat×Nat)×List Int))(enc:(Int×Int×(Option Addr×Nat×Nat)×List Int)->List Int)(Ok:(Int×Int×(Option Addr×Nat×Nat)×List Int)->(Int×Int×(Option Addr×Nat×Nat))->Prop)(M:Nat)
  (h:Wr w R g cap bs) (hn:n<=100000) (hm:(n:Int)<=most) (hmem:AtIn w ha n xs) (hne:∀b off c,nz n ha=some ⟨b,off,c⟩->b≠R/\b≠g)
  (hK:∀args w,(callFunc K args).run Tryz.prog w=.ok (.enter K args) w) (hlen:∀(j:Nat)x,xs[j]? =some x->(enc x).length<=M) (hM:M<=1000000) (hb:bs.length+200000000000<=1099511627776)
  (Do:∀(j:Nat)x,xs[j]? =some x->CJ R g w K cs bs n xs enc Ok j x) :
  Calls Tryz.prog 194 #[cW R,.slice ha n hc,ZI most,.func (.func K) #[] cs] w fun e w'=>∃(aa:OAz)(ac:Nat)(ys:List (Int×Int×(Option Addr×Nat×Nat))),e=.returned (.slice aa n ac)/\ys.length=n/\(∀(i:Nat)y,ys[i]? =some y->∃x,xs[i]? =some x/\Ok x y) /\
   w'.ownsRow 0 75 3 (.slice aa n ac) n (ys.flatMap uT)/\∃g' cap',(∀b,aa=some b->w.heap.size<=b.block/\b.block≠g')/\Wr w' R g' cap' (bs++aw n++xs.flatMap enc)/\Stp R g g' w w':=by
 have du:=bH;have hcc:=cN;have HC:=hid (bU R g cap bs n most w h hm ae ae);have OF:=h.lt;have hgl:=h.g_lt;have hxl:=hmem.1;obtain⟨HM,ZD,HE⟩:=ZH hmem hne Do;obtain⟨i0,hi,hz0,hz1,hz2⟩:=UM;clear h hmem Do hne;go_enter Tryz.func194,Tryz.ntmps194
 go_wp2_with fail;refine HC.out.mono ?_;rintro e w2⟨rfl,g1,An,hw2,hs2⟩;obtain⟨W2,S2⟩:=Zz hw2 hs2;clear hw2 hs2 HC du hcc;go_wp2_with fail
 go_loopw [9,17] (fun o i wr=>rV oC0 75 3 R g w bs n xs enc Ok n o i wr) (fun _ i _=>n-(intOf i).toNat)
 case atStart=>exact⟨0,[],none,0,g1,An,ae,rfl,rfl,rfl,(fun i y h=>ip),Z7 _ _ _ _,(fun b h=>bS),iu,S2.out⟩
 case round =>
  exact Uu
open LIn in
theorem CZ(R g cap:Nat)(bs:LIz)(ha:OAz)(n hc:Nat)(most:Int)(K:Nat)(cs:AVz)(w:World)(xs:List (Int×Int×(Option Addr×Nat×Nat)×List Int))(enc:(Int×Int×(Option Addr×Nat×Nat)×List Int)->List Int)(Ok:(Int×Int×(Option Addr×Nat×Nat)×List Int)->(Int×Int×(Option Addr×Nat×Nat))->Prop)(M:Nat)
  (h:Wr w R g cap bs) (hn:n<=100000) (hm:(n:Int)<=most) (hmem:AtIn w ha n xs) (hne:∀b off c,nz n ha=some ⟨b,off,c⟩->b≠R/\b≠g)
  (hK:∀args w,(callFunc K args).run Tryz.prog w=.ok (.enter K args) w) (hlen:∀(j:Nat)x,xs[j]? =some x->(enc x).length<=M) (hM:M<=1000000) (hb:bs.length+200000000000<=1099511627776)
  (k:Nat) (xk:(Int×Int×(Option Addr×Nat×Nat)×List Int)) (er:Int) (hk:xs[k]? =some xk) (Do:∀(j:Nat)x,xs[j]? =some x->j<k->CJ R g w K cs bs n xs enc Ok j x) (hno:MV R g w K cs bs n xs enc Ok k xk er) :
  Calls Tryz.prog 194 #[cW R,.slice ha n hc,ZI most,.func (.func K) #[] cs] w (aQ R g er w):=by
 have hkn:=aF hk;have du:=bH;have hcc:=cN;have HC:=hid (bU R g cap bs n most w h hm ae ae);have OF:=h.lt;have hgl:=h.g_lt;have hxl:=hmem.1;obtain⟨HM,ZD,HE,HN⟩:=ZF hmem hne Do hno;obtain⟨i0,hi,hz0,hz1,hz2⟩:=UM;clear h hmem Do hne hno;go_enter Tryz.func194,Tryz.ntmps194
 go_wp2_with fail;refine HC.out.mono ?_;rintro e w2⟨rfl,g1,An,hw2,hs2⟩;obtain⟨W2,S2⟩:=Zz hw2 hs2;clear hw2 hs2 HC du hcc;go_wp2_with fail
 go_loopw [9,17] (fun o i wr=>rV oC0 75 3 R g w bs n xs enc Ok k o i wr) (fun _ i _=>n-(intOf i).toNat)
 case atStart=>exact⟨0,[],none,0,g1,An,ae,rfl,rfl,rfl,(fun i y h=>ip),Z7 _ _ _ _,(fun b h=>bS),iu,S2.out⟩
 case round =>
  exact Ux
theorem xX(R g cap:Nat)(bs:LIz)(ha:OAz)(n hc:Nat)(most:Int)(f:Value)(w:World)(h:Wr w R g cap bs)(hm:most<(n:Int)) :
  Calls Tryz.prog 194 #[cW R,.slice ha n hc,ZI most,f] w (aQ R g 20 w):=by
 have du:=bH;have hcc:=cN;have HC:=hid (fN R g cap bs n most w h hm);clear h;go_enter Tryz.func194,Tryz.ntmps194;exact lT
theorem UW:∃i,Tryz.prog.info? 78=some i/\i.zero=some (.agg #[ZI 0,.string ⟨#[]⟩,ZN])/\i.size=3/\i.bytes=48:=CH ak
def oL(y:(Int×ByteArray×(Option Addr×Nat×Nat))):List Value:=[ZI y.1,.string y.2.1,.slice y.2.2.1 y.2.2.2.1 y.2.2.2.2]
abbrev Xo(x:(Int×ByteArray×(Option Addr×Nat×Nat)×List (Int×Int×(Option Addr×Nat×Nat)×List Int))):Value:=.agg #[ZI x.1,.string x.2.1,.slice x.2.2.1.1 x.2.2.1.2.1 x.2.2.1.2.2]
abbrev Y9(y:(Int×ByteArray×(Option Addr×Nat×Nat))):Value:=.agg #[ZI y.1,.string y.2.1,.slice y.2.2.1 y.2.2.2.1 y.2.2.2.2]
def pC(w:World)(a:OAz)(n:Nat)(xs:List (Int×ByteArray×(Option Addr×Nat×Nat)×List (Int×Int×(Option Addr×Nat×Nat)×List Int))):Prop :=
 xs.length=n/\(n=0\/∃b off,a=some (ZA b off)/\∀(j:Nat)x,xs[j]? =some x->w.cell? (ZA b (off+j*3))=some (ZI x.1)/\w.cell? (ZA b (off+j*3+1))=some (.string x.2.1)/\w.cell? (ZA b (off+j*3+2))=some (.slice x.2.2.1.1 x.2.2.1.2.1 x.2.2.1.2.2))
theorem pC.kept{xs:List (Int×ByteArray×(Option Addr×Nat×Nat)×List (Int×Int×(Option Addr×Nat×Nat)×List Int))}(h:pC w a n xs)(hk:Kept S w w')(hS:∀b off c,a=some ⟨b,off,c⟩->¬S b):pC w' a n xs:=by
 exact Lg
theorem rG(w:World)(y:(Int×ByteArray×(Option Addr×Nat×Nat))):∀j u,(oL y)[j]? =some u->(w.alloc (aN y.1 y.2.1 y.2.2.1 y.2.2.2.1 y.2.2.2.2)).cell? (((ZA w.heap.size 0):Addr).add j)=some u:=by
 intro j u hj;have hlt:=aF hj;have hl:(oL y).length=3:=rfl;rw[hl]at hlt;have hadd:((ZA w.heap.size 0):Addr).add j=(ZA w.heap.size j):=iI;rw[hadd];have hb:=(ZZ w (aN y.1 y.2.1 y.2.2.1 y.2.2.2.1 y.2.2.2.2)).1;simp only[World.cell?,hb]
 simpa[oL] using hj
theorem rD(y:(Int×ByteArray×(Option Addr×Nat×Nat))):∀u∈oL y,u.oneCell'=true:=by
 intro u hu;simp[oL]at hu
 rcases hu with rfl | rfl | rfl <;> rfl
namespace LFu
abbrev oC0:=oL
abbrev cL(x:(Int×ByteArray×(Option Addr×Nat×Nat)×List (Int×Int×(Option Addr×Nat×Nat)×List Int))):Obj:=.cells #[ZI x.1,.string x.2.1,.slice x.2.2.1.1 x.2.2.1.2.1 x.2.2.1.2.2] 78
abbrev cM(y:(Int×ByteArray×(Option Addr×Nat×Nat))):Obj:=.cells #[ZI y.1,.string y.2.1,.slice y.2.2.1 y.2.2.2.1 y.2.2.2.2] 78
theorem nC(w:World)(y:(Int×ByteArray×(Option Addr×Nat×Nat))):∀j u,(oL y)[j]? =some u->(w.alloc (cM y)).cell? (((ZA w.heap.size 0):Addr).add j)=some u:=rG w y
theorem oC(y:(Int×ByteArray×(Option Addr×Nat×Nat))):∀u∈oL y,u.oneCell'=true:=rD y
theorem uN:Tryz.prog.underlying 25=some (.slice 78):=Tryz.underlying25
end LFu
theorem pJ(R g cap:Nat)(bs:LIz)(ha:OAz)(n hc:Nat)(most:Int)(f:Value)(w:World)(h:Wr w R g cap bs)(hm:most<(n:Int)) :
  Calls Tryz.prog 141 #[cW R,.slice ha n hc,ZI most,f] w (aQ R g 20 w):=by
 have du:=bH;have hcc:=cN;have HC:=hid (fN R g cap bs n most w h hm);clear h;go_enter Tryz.func141,Tryz.ntmps141;exact lT
def eN(ps:List Addr)(W W':World):Prop:=∀p∈ps,∀v,W.cell? p=some v->W'.cell? p=some v/\W'.frozen? p=W.frozen? p
theorem eN.refl(ps:List Addr)(W:World):eN ps W W:=fun _ _ _ h=>⟨h,rfl⟩
variable {A B C:World}
theorem eN.trans{ps:List Addr}(h:eN ps A B)(k:eN ps B C):eN ps A C:=fun p hp v hv=>by
 obtain⟨h1,h2⟩:=h p hp v hv;obtain⟨k1,k2⟩:=k p hp v h1;exact⟨k1,k2.trans h2⟩
theorem eN.turned{ps:List Addr}(W:World)(l:Nat)(o o':Obj)(h:W.heap[l]? =some o)(ho:o.isCells=false):eN ps W (W.putObj l o'):=fun p _ v hv =>
 have hr:∀r,some l=some r->∃q:Obj,W.heap[r]? =some q/\q.isCells=false:=fun r e=>by cases e; exact⟨o,h,ho⟩
 ⟨cell_kept hv (grownBy_putObj' W l o') hr,frozen_kept hv (grownBy_putObj' W l o') hr⟩
def Un{α:Type}(F:Fence)(n:Nat)(P:Program)(gf:Nat)(lb:AVz)(encs:α->Array Value)(c:Addr)(ps:List Addr)(xs:List α)(W:World):Prop :=
 ∀(l:Nat)(J:List α->World->Prop)(Jx:World->Prop)(W1:World),eN ps W W1 ->
  (∀r A v,J r A->J r (A.setCell c v)) ->
  (∀x r A,J (x::r) A->YieldAt F (n-1) P l (encs x) A fun e B=>(e=.returned (.bool true)/\J r B/\eN ps A B)\/(e=.returned (.bool false)/\Jx B)) ->
  J xs W1 ->
  CallsIn F n P gf (#[.func (.yield l) #[] #[]]++lb) W1 fun e B=>(∃v,e=.returned v)/\(J [] B\/Jx B)
def Leaves(B:Nat)(ps:List Addr)(I:World->Prop)(Ix:Code->World->Prop)(W:World):Exit->Act->World->Prop
 | .normal,_,W'=>KeepsFrom B W W'/\eN ps W W'/\I W'
 | .ret,_,W'=>KeepsFrom B W W'/\Ix .ret W'
 | .exit _,_,_=>False
 | .goto _,_,_=>False
 | .panic _,_,_=>False
 | .outgrown,_,_=>False
variable {P:Program}{g:Operand}{assign body:Code}{Q:Zan}{a:Act}{gf:Nat}{lb:AVz}
theorem rF{α:Type}{F:Fence}{prm:Array Tmp}    
  (hro:F.round=none) (h1:1<=n)   (hg:a.eval g=.func (.func gf) #[] lb) (hFg:F.fn gf) (eg:∀args w,(callFunc gf args).run P w=.ok (.enter gf args) w)
  {encs:α->Array Value} {c:Addr} {ps:List Addr} {xs:List α} (hps:∀x,(encs x).size=prm.size)
  (hseq:Un F (n-1) P gf lb encs c ps xs w)
  (I:List α->World->Prop) (Ix:Code->World->Prop) (hI:OwnFrom w.heap.size I) (hIx:OwnFrom w.heap.size Ix)
  (hIc:∀r A v,I r A->I r (A.setCell c v)) (h0:I xs w) (a₁:α->Act)
  (ii:∀(l:Nat)(x:α)(W:World)(K:Act->World->Prop),K (a₁ x) W ->
   assign.wpIn (F.inRound l) (n-1-1) P (Exit.then K (fun _ _ _=>False)) { tmps:=(prm.zip (encs x)).foldl (fun t (p,v)=>t.setIfInBounds p v) a.tmps,defers:=[] } W)
  (hbody:∀(l:Nat)(x:α)(r:List α)(W:World),I (x::r) W->body.wpIn (F.inRound l) (n-1-1) P (Leaves w.heap.size ps (I r) Ix W) (a₁ x) W)
  (hdone:∀(D:Nat)(W:World),w.heap.size<=D->I [] W->W.heap[D]? =some (.deferred (some []))->Q .normal { a with defers:={ target:=.collected D,args:=#[] }::a.defers } W)
  (hstop:∀(D:Nat)(j:Code)(W:World),w.heap.size<=D->Ix j W->W.heap[D]? =some (.deferred (some []))->j.wpIn F n P Q { a with defers:={ target:=.collected D,args:=#[] }::a.defers } W) :
  (Code.rangeFunc g prm assign body).wpIn F n P Q a w:=by
 refine wpIn_rangeFunc fun fn hfn=>?_;rw[hro]
 let record:LoopState->Option Code->Loop:=fun st pe=>{ state:=st,pending:=pe,fn,tmps:=a.tmps,params:=prm,assign,body,defers:=w.heap.size }
 let D:=w.heap.size
 let L:=w.heap.size+1
 let W0:=(w.alloc (.deferred (some []))).alloc (.loop (record .ready none))
 let Book:Loop->World->Prop:=fun rc W=>W.heap[L]? =some (.loop rc)/\W.heap[D]? =some (.deferred (some []))
 have qac:Book (record .ready none) W0:=by
  constructor
  ·exact GY
  exact E9
 have turn:∀{rc rc':Loop} {W:World},Book rc W->Book rc' (W.putObj L (.loop rc')):=fun h =>
  ⟨World.putObj_heap_same (Array.getElem?_eq_some_iff.1 h.1).1,(World.putObj_heap_other (by simp[L,D])).trans h.2⟩
 have over:∀{rc:Loop} {W W':World},Book rc W->KeepsFrom D W W'->Book rc W':=fun h k =>
  ⟨k.same _ _ (by simp[L,D]) h.1 rfl,k.same _ _ lRn h.2 rfl⟩
 have cells:∀{rc:Loop} {W:World} (v:Value),Book rc W->Book rc (W.setCell c v):=fun v h =>
  ⟨(KeepsOthers.setCell _ _ _).same _ _ h.1 rfl,(KeepsOthers.setCell _ _ _).same _ _ h.2 rfl⟩
 have It:eN ps w W0:=fun p _ v hv=>by
  exact Qt
 refine⟨L,[{ target:=.collected D,args:=#[] }],W0,{ target:=.fn (.func gf) lb,args:=#[.func (.yield L) #[] #[]] },W0,gf,#[.func (.yield L) #[] #[]]++lb,W0,
  run_enterLoop_outer _ _ _ _ _,?_,?_,?_,fun _=>h1,?_⟩
 ·simp only[resolve,hg]; simp[go_sem]
 ·intro f' hf'; simp[Target.leads]at hf'; subst hf'; exact hFg
 ·simp[invoke,go_sem,eg]
 refine(hseq L (fun r W=>I r W/\Book (record .ready none) W) (fun W=>∃j,Ix j W/\Book (record .done (some j)) W) W0 It
  (fun r A v h=>⟨hIc r A v h.1,cells v h.2⟩) ?_ ⟨hI.alloc _ (hI.alloc _ h0),qac⟩).mono ?_
 ·
  rintro x r W⟨hi,hb⟩;have hy:=run_yield (P:=P) (args:=encs x) hb.1 (hps x);refine⟨fn,_,assign,body,hy,roundIn_of_wpIn hfn (ii _ x W _ ⟨_,run_beginRound hb.1 rfl,?_⟩)⟩;have hb2:Book { record .ready none with state:=.busy } (W.putObj L (.loop { record .ready none with state:=.busy })):=turn hb;refine wpIn_mono (hbody _ x r _ (hI.putObj _ hi lQ hb.1 rfl)) ?_;rintro e a3 W3 hp
  cases e with
  | normal =>
   obtain⟨hk3,hkp3,hi3⟩:=hp;have hb3:=over hb2 hk3;exact⟨_,_,run_endRound none hb3.1,.inl ⟨rfl,⟨hI.putObj _ hi3 lQ hb3.1 rfl,turn hb3⟩,((eN.turned _ _ _ _ hb.1 rfl).trans hkp3).trans (eN.turned _ _ _ _ hb3.1 rfl)⟩⟩
  | ret =>
   obtain⟨hk3,hi3⟩:=hp;have hb3:=over hb2 hk3;exact⟨_,_,run_endRound (some .ret) hb3.1,.inr ⟨rfl,.ret,hIx.putObj _ hi3 lQ hb3.1 rfl,turn hb3⟩⟩
  | exit id=>exact hp.elim
  | goto t=>exact hp.elim
  | panic ch=>exact hp.elim
  | outgrown=>exact hp.elim
 
 rintro e W2⟨⟨v,rfl⟩,(⟨hi,hb⟩ | ⟨j,hi,hb⟩)⟩
 ·exact IX
 exact⟨some j,_,run_endLoop hb.1 (by simp[record]),hstop D j _ lRn (hIx.putObj _ hi lQ hb.1 rfl) (turn (rc':=_) hb).2⟩
def pieces:List UInt8->List (List UInt8)
 | []=>[[]]
 | b::l=>if b==32 then []::pieces l else match pieces l with
  | []=>[[b]]
  | p::r=>(b::p)::r
theorem nI:∀(l:Zaj),Lib.indexByte l 32=-1\/(0<=Lib.indexByte l 32/\Lib.indexByte l 32<l.length)
 | []=>.inl rfl
 | b::l=>by
  have:=nI l;exact I6
theorem rP:∀(l:Zaj),Lib.indexByte l 32=-1->pieces l=[l]
 | [],_=>rfl
 | b::l,h=>by
  have hr:=nI l;unfold Lib.indexByte at h
  split at h
  ·simp at h
  rename_i hb
  split at h
  ·rename_i hi
   have:=rP l (by simpa using hi);unfold pieces;rw[if_neg hb,this]
  rename_i hi;simp at hi;omega
theorem rB:∀(l:Zaj)(k:Nat),Lib.indexByte l 32=k->pieces l=l.take k::pieces (l.drop (k+1))
 | [],k,h=>by simp[Lib.indexByte]at h
 | b::l,k,h=>by
  have hr:=nI l;unfold Lib.indexByte at h
  split at h
  ·rename_i hb
   obtain rfl:k=0:=ae;rw[pieces,if_pos hb];simp
  rename_i hb
  split at h
  ·omega
  rename_i hi;simp at hi;obtain⟨m,rfl⟩:∃m,k=m+1:=⟨k-1,ae⟩;have:=rB l m ae;rw[pieces,if_neg hb,this];simp
def dm(s:BAz):List ByteArray:=(pieces s.data.toList).map fun l=>⟨l.toArray⟩
theorem Tx(s:BAz)(k:Nat):s.extract 0 k=⟨(s.data.toList.take k).toArray⟩:=by
 apply eu; simp[ByteArray.data_extract,Array.toList_extract]
theorem Sn(s:BAz)(k:Nat):s.extract k s.size=⟨(s.data.toList.drop k).toArray⟩:=by
 apply eu;simp[ByteArray.data_extract,Array.toList_extract];rw[ZY];have:=cQ s;simp only[List.length_drop];omega
theorem wG(s:BAz)(h:Lib.indexByte s.data.toList 32=-1):dm s=[s]:=by
 simp[dm,rP _ h]
theorem zu(s:BAz)(k:Nat)(h:Lib.indexByte s.data.toList 32=k):dm s=s.extract 0 k::dm (s.extract (k+1) s.size):=by
 rw[Tx,Sn];simp[dm,rB _ k h]
theorem rK:∀(l:Zaj)(p:Zaj),p∈pieces l->p.length<=l.length
 | [],p,h=>by simp[pieces]at h; simp[h]
 | b::l,p,h=>by
  have ih:=rK l;unfold pieces at h
  split at h
  ·exact Ff
  exact Gk
theorem yS(s p:BAz)(h:p∈dm s):p.size<=s.size:=by
 unfold dm at h;obtain⟨l,hl,rfl⟩:=List.mem_map.1 h;have:=rK _ _ hl;rw[cQ,cQ];exact cR
open Go.Shelf Go.RowKit
theorem Tw(s:BAz)(w:World) :
  Calls Tryz.prog 176 #[.string s,.string ⟨#[32]⟩] w (ZG (ZI (Lib.indexByte s.data.toList 32)) w):=Tryz.strings_Index_one s 32 w
open Go.RowKit Go.Shelf
def uG(W:World)(c:Addr):ByteArray:=match W.cell? c with
 | some (.string s)=>s
 | _=>ByteArray.empty
theorem KZ(n l b1 b2 b3:Nat)(h12:b1≠b2)(h32:b3≠b2)(s:BAz)(J:List ByteArray->World->Prop)(Jx:World->Prop)
  (hJ:∀r A v,J r A->J r (A.setCell ⟨b2,0,none⟩ v))
  (hY:∀x r A,J (x::r) A->YieldAt Fence.wide (n-1) Tryz.prog l #[.string x] A fun e B=>(e=.returned (.bool true)/\J r B/\eN [⟨b1,0,none⟩,⟨b2,0,none⟩,⟨b3,0,none⟩] A B)\/(e=.returned (.bool false)/\Jx B))
  (W:World) (c1:W.cell? ⟨b1,0,none⟩=some (.string ⟨#[32]⟩)) (c2:W.cell? ⟨b2,0,none⟩=some (.string s)) (f2:W.frozen? ⟨b2,0,none⟩=false) (c3:W.cell? ⟨b3,0,none⟩=some (.int .i64 0)) (h0:J (dm s) W) (hsz:s.size<=1099511627776) :
  CallsIn Fence.wide n Tryz.prog 174 #[.func (.yield l) #[] #[],.pointer (some ⟨b1,0,none⟩),.pointer (some ⟨b2,0,none⟩),.pointer (some ⟨b3,0,none⟩)] W fun e B=>(∃v,e=.returned v)/\(J [] B\/Jx B):=by
 refine callsIn_of_wp Tryz.func174 rfl trivial ?_ rfl;simp only[Tryz.ntmps174,List.size_toArray,Z1,List.length_nil,Nat.reduceAdd,Nat.reduceSub,Array.replicate_succ,Array.replicate_zero,List.push_toArray,List.append_toArray,List.nil_append,List.cons_append]
 gi_wp2
 gi_loopw [] (fun wr=>∃s:ByteArray,wr.cell? ⟨b1,0,none⟩=some (.string ⟨#[32]⟩)/\wr.cell? ⟨b2,0,none⟩=some (.string s)/\wr.frozen? ⟨b2,0,none⟩=false/\wr.cell? ⟨b3,0,none⟩=some (.int .i64 0)/\J (dm s) wr/\s.size<=1099511627776)
  (fun wr=>(uG wr ⟨b2,0,none⟩).size)
 case atStart=>exact⟨s,c1,c2,f2,c3,h0,hsz⟩
 case round =>
  clear c1 c2 f2 c3 h0 hsz;obtain⟨s,c1,c2,f2,c3,hj,hsz⟩:=hrel;have hI:=callsIn_wide (n:=n-1).2 (Tw s wr)
  rcases nI s.data.toList with hneg | ⟨hge,hlt⟩
  ·rw[hneg]at hI;rw[wG s hneg]at hj;obtain⟨fn,tmps,assign,body,hy,hR⟩:=hY s [] wr hj
   gi_wp2_with fail
   refine⟨trivial,(fun h=>nomatch h),?_⟩;refine hI.mono ?_;rintro e w' ⟨rfl,rfl⟩
   gi_wp2_with fail
   refine⟨(fun h=>nomatch h),?_⟩;refine hR.mono ?_;rintro e W3 (⟨rfl,hJ3,hk3⟩ | ⟨rfl,i'⟩)
   ·gi_wp2_with fail
    go_end0;exact⟨⟨_,rfl⟩,.inl hJ3⟩
   gi_wp2_with fail
   go_end0;exact⟨⟨_,rfl⟩,.inr i'⟩
  obtain⟨k,hk⟩:∃k:Nat,Lib.indexByte s.data.toList 32=k:=⟨(Lib.indexByte s.data.toList 32).toNat,ae⟩;rw[hk]at hI hlt;rw[<- cQ]at hlt;rw[zu s k hk]at hj;obtain⟨fn,tmps,assign,body,hy,hR⟩:=hY _ _ wr hj;have k0:(0:Int)<=k:=ae;have k1:(k:Int)<s.size:=ae;have k2:(s.size:Int)<=1099511627776:=ae;have k3:wrap64 (k:Int)=k:=dV;have k4:wrap64 ((k:Int)+1)=k+1:=dV
  gi_wp2_with fail
  refine⟨trivial,(fun h=>nomatch h),?_⟩;refine hI.mono ?_;rintro e w' ⟨rfl,rfl⟩
  gi_wp2_with fail
  refine⟨(fun h=>nomatch h),?_⟩;refine hR.mono ?_;rintro e W3 (⟨rfl,hJ3,hk3⟩ | ⟨rfl,i'⟩)
  ·exact Mv
  gi_wp2_with fail
  refine i4 (results_none rfl _ _ _) rfl ?_;exact⟨⟨_,rfl⟩,.inr i'⟩
theorem Gd(n b1 b2 b3:Nat)(h12:b1≠b2)(h32:b3≠b2)(s:BAz)(W:World)(c1:W.cell? (ZA b1 0)=some (.string ⟨#[32]⟩))(c2:W.cell? (ZA b2 0)=some (.string s))(f2:W.frozen? (ZA b2 0)=false)(c3:W.cell? (ZA b3 0)=some (ZI 0))(hsz:s.size<=1099511627776) :
  Un Fence.wide n Tryz.prog 174 #[ZP b1 0,ZP b2 0,ZP b3 0] (fun x:ByteArray=>#[.string x]) (ZA b2 0) [(ZA b1 0),(ZA b2 0),(ZA b3 0)] (dm s) W:=fun l J Jx W1 hk hJ hY h0=>by
 obtain⟨d1,_⟩:=hk _ av _ c1;obtain⟨d2,e2⟩:=hk _ av _ c2;obtain⟨d3,_⟩:=hk _ av _ c3;exact KZ n l b1 b2 b3 h12 h32 s J Jx hJ hY W1 d1 d2 (e2.trans f2) d3 h0 hsz
theorem um(s:BAz)(w:World) :
  Calls Tryz.prog 55 #[.string s,.string ⟨#[32]⟩] w fun e w'=>e=.returned (.func (.func 174) #[] #[.pointer (some ⟨w.heap.size+1,0,none⟩),.pointer (some ⟨w.heap.size,0,none⟩),.pointer (some ⟨w.heap.size+2,0,none⟩)]) /\
   w'=((w.alloc (cA s)).alloc (cA ⟨#[32]⟩)).alloc (bR 0):=by
 go_enter Tryz.func55,Tryz.ntmps55
 go_wp2;go_ret;exact⟨rfl,rfl⟩
def aC(cs:List (Addr×Value))(W:World):Prop:=∀p∈cs,W.cell? p.1=some p.2/\W.frozen? p.1=false
theorem aC.grown{cs:List (Addr×Value)}{row:Option Nat}(h:aC cs A)(hg:A.grownBy B row)(hr:∀r,row=some r->∃o:Obj,A.heap[r]? =some o/\o.isCells=false):aC cs B :=
 fun p hp=>⟨cell_kept (h p hp).1 hg hr,(frozen_kept (h p hp).1 hg hr).trans (h p hp).2⟩
variable {W:World}{l:Nat}{o:Obj}
theorem aC.turned{cs:List (Addr×Value)}(h:aC cs W)(o':Obj)(hl:W.heap[l]? =some o)(ho:o.isCells=false):aC cs (W.putObj l o') :=
 h.grown (grownBy_putObj' W l o') (fun r e=>by cases e; exact⟨o,hl,ho⟩)
theorem aC.other{cs:List (Addr×Value)}(h:aC cs W)(c:Addr)(v:Value)(hc:∀p∈cs,c≠p.1):aC cs (W.setCell c v) :=
 fun p hp=>⟨(World.cell?_setCell_other _ _ _ _ (hc p hp)).trans (h p hp).1,(World.frozen?_setCell _ _ _ _).trans (h p hp).2⟩
theorem aC.cons{p:Addr×Value}{cs:List (Addr×Value)}(h1:W.cell? p.1=some p.2)(h2:W.frozen? p.1=false)(h:aC cs W):aC (p::cs) W :=
 fun q hq=>by
  rcases List.mem_cons.1 hq with rfl | hq
  ·exact⟨h1,h2⟩
  exact h q hq
theorem aC.set{c:Addr}{u v:Value}{cs:List (Addr×Value)}(h:aC ((c,u)::cs) W)(hc:∀p∈cs,c≠p.1):aC ((c,v)::cs) (W.setCell c v):=by
 have h1:=h (c,u) av;refine aC.cons (World.cell?_setCell_same' _ _ _ (by rw[h1.1]; rfl)) ((World.frozen?_setCell _ _ _ _).trans h1.2) (aC.other (fun p hp=>h p (by simp[hp])) _ _ hc)
variable {u1 u2 v1 v2:Value}
theorem aC.set2{c d:Addr}(h:aC [(c,u1),(d,u2)] W)(hc:c≠d):aC [(c,v1),(d,v2)] ((W.setCell c v1).setCell d v2):=by
 have h1:=h (c,u1) av;have h2:=h (d,u2) av;have k1:aC [(d,u2)] (W.setCell c v1):=aC.other (aC.cons (cs:=[]) h2.1 h2.2 lJ) _ _ (by simpa using hc);have k2:aC [(c,v1)] (W.setCell c v1):=aC.set (aC.cons (cs:=[]) h1.1 h1.2 lJ) av;have k3:aC [(c,v1)] ((W.setCell c v1).setCell d v2):=aC.other k2 _ _ (by simpa using Ne.symm hc);have k4:aC [(d,v2)] ((W.setCell c v1).setCell d v2):=aC.set k1 av;exact aC.cons (k3 _ av).1 (k3 _ av).2 k4
theorem eN.other{ps:List Addr}(W:World)(c:Addr)(v:Value)(hc:∀p∈ps,c≠p):eN ps W (W.setCell c v) :=
 fun p hp u hu=>⟨(World.cell?_setCell_other _ _ _ _ (hc p hp)).trans hu,World.frozen?_setCell _ _ _ _⟩
variable {fn:Func}
theorem rI{p:Tmp}{ty:TypeId}(h:fn.results=#[.cell p ty])(tmps:AVz)(P:Program)(w:World) :
  (results fn tmps).run P w=((asAddr (tmps.getD p undef)).run P w).andThen fun a w₁=>(loadVar ty a).run P w₁:=by
 simp only[results,h];simp[Sem.run_bind,Result.andThen]
theorem mH{p q:Tmp}{ty tz:TypeId}(h:fn.results=#[.cell p ty,.cell q tz])(tmps:AVz)(P:Program)(w:World) :
  (results fn tmps).run P w=((asAddr (tmps.getD p undef)).run P w).andThen fun a w₁=>((loadVar ty a).run P w₁).andThen fun v w₂=>((asAddr (tmps.getD q undef)).run P w₂).andThen fun b w₃=>((loadVar tz b).run P w₃).andThen fun u w₄=>.ok (.tuple #[v,u]) w₄:=by
 simp only[results,h];simp[Sem.run_bind,Result.andThen]
def nZ(f op:Int)(a:BAz):List ByteArray->ByteArray
 | []=>⟨#[]⟩
 | p::r=>if f=op then a++p else nZ (f+1) op a r
theorem Xc(f l op:Int)(a ws:BAz)(w:World)(h0:0<=f)(hb:f+(dm ws).length<=255)(hsz:ws.size<=1099511627776)(ha:a.size<=1099511627776) :
  Calls Tryz.prog 226 #[.agg #[ZU f,ZU l,.string a,.string ws],ZU op] w (ZC (.string (nZ f op a (dm ws))) w):=by
 obtain⟨xs,hxs⟩:∃xs,dm ws=xs:=⟨_,rfl⟩;have hlen:=yS ws;rw[hxs]at hb hlen ⊢;obtain⟨V,hV⟩:∃V,nZ f op a xs=V:=⟨_,rfl⟩;rw[hV];refine(callsIn_wide (n:=5)).1 ?_;refine callsIn_of_wp_marks Tryz.func226 rfl trivial ?_ rfl;simp only[Tryz.ntmps226,List.size_toArray,Z1,List.length_nil,Nat.reduceAdd,Nat.reduceSub,Array.replicate_succ,Array.replicate_zero,List.push_toArray,List.append_toArray,List.nil_append,List.cons_append]
 gi_wp2_with fail
 refine⟨trivial,?_⟩;refine(callsIn_wide.2 (um ws _)).mono ?_;rintro e w' ⟨rfl,rfl⟩
 gi_wp2_with fail
 simp only[Nat.add_assoc,Nat.reduceAdd];obtain⟨W0,hW0⟩:∃W0,(((((((w.alloc (ru f l a ws)).alloc (eK op)).alloc (cA ⟨#[]⟩)).alloc (eK f)).alloc (cA ws)).alloc (cA ⟨#[32]⟩)).alloc (bR 0))=W0:=⟨_,rfl⟩;rw[hW0]
 have B0:Zx w W0:=by rw[<- hW0]; exact(((((((ZT _ w).alloc av _).alloc bI _).alloc bI _).alloc bI _).alloc bI _).alloc bI _).alloc bI _
 have z0:W0.heap.size=w.heap.size+7:=fE;have k2:W0.cell? (ZA w.heap.size 2)=some (.string a):=fE;have o1:W0.cell? (ZA (w.heap.size+1) 0)=some (ZU op):=fE;have r0:W0.cell? (ZA (w.heap.size+2) 0)=some (.string ⟨#[]⟩):=fE;have rf:W0.frozen? (ZA (w.heap.size+2) 0)=false:=fE;have a0:W0.cell? (ZA (w.heap.size+3) 0)=some (ZU f):=fE;have af:W0.frozen? (ZA (w.heap.size+3) 0)=false:=fE;have c2:W0.cell? (ZA (w.heap.size+4) 0)=some (.string ws):=fE;have f2:W0.frozen? (ZA (w.heap.size+4) 0)=false:=fE;have c1:W0.cell? (ZA (w.heap.size+5) 0)=some (.string ⟨#[32]⟩):=fE;have c3:W0.cell? (ZA (w.heap.size+6) 0)=some (ZI 0):=fE;have kf:W0.frozen? (ZA w.heap.size 2)=false:=fE;have of:W0.frozen? (ZA (w.heap.size+1) 0)=false:=fE;clear hW0;have HF:=Gd 4 (w.heap.size+5) (w.heap.size+4) (w.heap.size+6) ae ae ws W0 c1 c2 f2 c3 hsz;rw[hxs]at HF
 refine rF rfl au (gf:=174) (lb:=#[ZP (w.heap.size+5) 0,ZP (w.heap.size+4) 0,ZP (w.heap.size+6) 0]) rfl trivial (enters_of Tryz.func174 ak rfl) (encs:=fun x:ByteArray=>#[.string x]) (fun _=>rfl)
  HF
  (fun r W=>aC [((ZA (w.heap.size+3) 0),ZU (f+xs.length-r.length)),((ZA w.heap.size 2),.string a),((ZA (w.heap.size+1) 0),ZU op),((ZA (w.heap.size+2) 0),.string ⟨#[]⟩)] W/\Zx w W/\r.length<=xs.length/\(∀p∈r,p.size<=ws.size)/\nZ (f+xs.length-r.length) op a r=V)
  (fun j W=>j=.ret/\aC [((ZA (w.heap.size+2) 0),.string V)] W/\Zx w W)
  ?own ?ownx ?cells ?start
  (fun x=>{ tmps:=#[.agg #[ZU f,ZU l,.string a,.string ws],ZU op,ZP w.heap.size 0,ZP (w.heap.size+1) 0,ZP (w.heap.size+2) 0,ZP (w.heap.size+3) 0,.string x,ZP w.heap.size 0,ZU f,ZP w.heap.size 3,.string ws,
   .func (.func 174) #[] #[.pointer (some ⟨w.heap.size+5,0,none⟩),.pointer (some ⟨w.heap.size+4,0,none⟩),.pointer (some ⟨w.heap.size+6,0,none⟩)],.string x,undef,undef,undef,undef,undef,undef,undef,undef,undef],defers:=[] }) ?assign ?body ?done ?stop
 case own =>
  exact I7
 case ownx =>
  exact FL
 case cells =>
  exact fun r A v hs=>⟨hs.1.other _ _ av,hs.2.1.setCell (p:=(ZA (w.heap.size+4) 0)) av _,hs.2.2⟩
 case start =>
  refine⟨?_,B0,Nat.le_refl _,hlen,by rw[<- hV]; congr 1; omega⟩;refine aC.cons (by simp only[a0]; congr 2; omega) af (aC.cons k2 kf (aC.cons o1 of (aC.cons r0 rf lJ)))
 case assign =>
  exact yI
 case body =>
  rintro m x r W⟨hc,hB,hr,hp,hv⟩;have hsem:=@Oper.semAt_some;have d1:=hc _ (Zad ..);have d2:=hc _ (Z9 _ (Zad ..));have d3:=hc _ (Z9 _ (Z9 _ (Zad ..)));have d4:=hc _ (Z9 _ (Z9 _ (Z9 _ (Zad ..))));obtain⟨q,hq⟩:∃q:Int,f+xs.length-(x::r).length=q:=⟨_,rfl⟩;rw[hq]at hc d1 hv;have q0:0<=q:=sf;have q1:q+1<=255:=sf
  have q2:f+xs.length-r.length=q+1:=by simp at hq; omega
  have hx:x.size<=ws.size:=hp x av;have hax:¬(a.size+x.size > 9223372036854775807):=ae
  by_cases he:q=op
  ·subst he
   gi_wp2_with fail
   refine⟨(KeepsOthers.setCell _ _ _).from _,rfl,?_,hB.setCell (p:=(ZA (w.heap.size+2) 0)) av _⟩;rw[nZ,if_pos rfl]at hv;rw[<- hv];exact aC.set (aC.cons d4.1 d4.2 lJ) av
  gi_wp2_with fail
  rw[nZ,if_neg he]at hv;refine⟨(KeepsOthers.setCell _ _ _).from _,?_,?_,hB.setCell (p:=(ZA (w.heap.size+3) 0)) av _,by simp at hr; omega,fun p h=>hp p (by simp[h]),hv⟩
  ·exact eN.other _ _ _ av
  exact aC.set hc av
 case done =>
  rintro D W hD⟨hc,hB,_,_,hv⟩ hK;have d4:=hc _ (Z9 _ (Z9 _ (Z9 _ (Zad ..))));have d5:=d4.1;have d6:=d4.2
  gi_wp2_with fail
  have hK2:=(KeepsOthers.setCell W (ZA (w.heap.size+2) 0) (.string ⟨#[]⟩)).same _ _ hK rfl;refine⟨av,.inl ⟨_,_,rfl,run_takeDeferred hK2,?_⟩⟩;have hH:=(aC.set (v:=.string ⟨#[]⟩) (aC.cons (cs:=[]) d4.1 d4.2 lJ) av).turned (.deferred none) hK2 rfl;have e1:=(hH _ (Zad ..)).1;have hBB:=(hB.setCell (p:=(ZA (w.heap.size+2) 0)) av (.string ⟨#[]⟩)).trans (belowK_b (w:=w) lRn _ D _ (.deferred none) ae hK2 rfl rfl);generalize World.putObj _ D (.deferred none)=W5 at e1 hBB ⊢;refine⟨.string V,?_,rfl,hBB⟩;rw[rI rfl];rw[<- hv,nZ];go_simp
 case stop =>
  rintro D j W hD⟨rfl,hc,hB⟩ hK
  gi_wp2_with fail
  refine⟨av,.inl ⟨_,_,rfl,run_takeDeferred hK,?_⟩⟩;have e1:=((hc.turned (.deferred none) hK rfl) _ (Zad ..)).1;have hBB:=hB.trans (belowK_b (w:=w) lRn _ D _ (.deferred none) ae hK rfl rfl);generalize World.putObj _ D (.deferred none)=W5 at e1 hBB ⊢;refine⟨.string V,?_,rfl,hBB⟩;rw[rI rfl];go_simp
theorem Fx(a b:BAz):(a.toList==b.toList)=decide (a=b):=by
 rw[ByteArray.toList_eq,ByteArray.toList_eq]
 by_cases h:a=b
 ·simp[h]
 rw[decide_eq_false h,beq_eq_false_iff_ne];exact fun e=>h (eu e)
end
end Go.Proofs.YtheefojaplnnoaaGreatDoor

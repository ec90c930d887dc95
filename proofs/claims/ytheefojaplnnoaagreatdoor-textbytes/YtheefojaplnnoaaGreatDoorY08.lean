/-
  Texts Lgl Wg.
-/
import Derived.Test.YtheefojaplnnoaaGreatDoorY00
import Derived.Test.YtheefojaplnnoaaGreatDoorY03
import Derived.Test.YtheefojaplnnoaaGreatDoorY05
set_option linter.unusedVariables false
set_option maxRecDepth 100000
set_option maxHeartbeats 16000000
namespace Go.Proofs.YtheefojaplnnoaaGreatDoor
open Go.RowKit
theorem zO:∃i,Tryz.prog.info? 102=some i∧i.zero=some (.agg #[.int .u8 0,.bool false,.int .u64 0])∧i.size=3∧i.bytes=16:=A7 ai
def jL(y:Gl):List Value:=[.int .u8 y.1,.bool y.2.1,.int .u64 y.2.2]
abbrev Qt(x:Gl):Value:=.agg #[.int .u8 x.1,.bool x.2.1,.int .u64 x.2.2]
abbrev OU(y:Gl):Value:=.agg #[.int .u8 y.1,.bool y.2.1,.int .u64 y.2.2]
def pL(w:World)(a:Option Addr)(n:Nat)(xs:List Gl):Prop :=
 xs.length=n∧(n=0∨∃b off,a=some ⟨b,off,none⟩∧∀(j:Nat)x,xs[j]? =some x→w.cell? ⟨b,off+j*3,none⟩=some (.int .u8 x.1)∧w.cell? ⟨b,off+j*3+1,none⟩=some (.bool x.2.1)∧w.cell? ⟨b,off+j*3+2,none⟩=some (.int .u64 x.2.2))
theorem pL.kept{S:Nat→Prop}{w w':World}{a:Option Addr}{n:Nat}{xs:List Gl}(h:pL w a n xs)(hk:Kept S w w')(hS:∀b off c,a=some ⟨b,off,c⟩→¬S b):pL w' a n xs:=by
 exact I5
theorem pX(w:World)(y:Gl):∀j u,(jL y)[j]? =some u→(w.alloc (aQ y.1 y.2.1 y.2.2)).cell? ((⟨w.heap.size,0,none⟩:Addr).add j)=some u:=by
 intro j u hj;have hlt:=aK hj;have hl:(jL y).length=3:=rfl;rw[hl]at hlt;have hadd:(⟨w.heap.size,0,none⟩:Addr).add j=⟨w.heap.size,j,none⟩:=iG;rw[hadd];have hb:=(MapKept.heap_alloc w (aQ y.1 y.2.1 y.2.2)).1
 simp only[World.cell?,hb]
 simpa[jL] using hj
theorem pV(y:Gl):∀u∈jL y,u.oneCell'=true:=by
 intro u hu
 simp[jL]at hu
 rcases hu with rfl | rfl | rfl <;> rfl
abbrev Py:=@qh Gl Gl jL Qt OU 102 3
namespace LGl
abbrev oC0:=jL
abbrev cL(x:Gl):Obj:=.cells #[.int .u8 x.1,.bool x.2.1,.int .u64 x.2.2] 102
abbrev cM(y:Gl):Obj:=.cells #[.int .u8 y.1,.bool y.2.1,.int .u64 y.2.2] 102
theorem nC(w:World)(y:Gl):∀j u,(jL y)[j]? =some u→(w.alloc (cM y)).cell? ((⟨w.heap.size,0,none⟩:Addr).add j)=some u:=pX w y
theorem oC(y:Gl):∀u∈jL y,u.oneCell'=true:=pV y
theorem uN:Tryz.prog.underlying 24=some (.slice 102):=Tryz.underlying24
end LGl
open LGl in
theorem yM:oY 137 jL Qt OU pL 102 3:=by
 intro R g cap bs ha n hc most K cs w xs enc Ok M h hn hm hmem hne hK hlen hM hb heach;have hmc:=bz;have hcc:=cf;have HC:=hid (bN R g cap bs n most w h hm ae ae);have hRl:=h.lt;have hgl:=h.g_lt;have hxl:=hmem.1;have HM:=hid hmem;have HNE:=hid hne;have HE:=hid heach;obtain⟨i0,hi,hz0,hz1,hz2⟩:=zO;clear h hmem heach hne
 go_enter Tryz.func137,Tryz.ntmps137
 go_wp2_with fail;refine HC.out.mono ?_;rintro e w2⟨rfl,g1,cap1,hw2,hs2⟩;have W2:=hid hw2;have S2:=hid hs2;clear hw2 hs2 HC hmc hcc;go_wp2_with fail
 go_loopw [9,17] (fun o i wr=>qz oC0 102 3 R g w bs n xs enc Ok n o i wr) (fun _ i _=>n-(intOf i).toNat)
 case atStart=>exact⟨0,[],none,0,g1,cap1,ae,rfl,rfl,rfl,(fun i y h=>fX),World.ownsRow_nil _ _ _ _,(fun b h=>cj),gw,S2.out⟩
 case round =>
  exact Ol
open LGl in
theorem Ac:rT 137 jL Qt OU pL 102 3:=by
 intro R g cap bs ha n hc most K cs w xs enc Ok M h hn hm hmem hne hK hlen hM hb k xk er hk heach hno;have hkn:=aK hk;have hmc:=bz;have hcc:=cf;have HC:=hid (bN R g cap bs n most w h hm ae ae);have hRl:=h.lt;have hgl:=h.g_lt;have hxl:=hmem.1;have HM:=hid hmem;have HNE:=hid hne;have HE:=hid heach;have HN:=hid hno;obtain⟨i0,hi,hz0,hz1,hz2⟩:=zO;clear h hmem heach hne hno
 go_enter Tryz.func137,Tryz.ntmps137
 go_wp2_with fail;refine HC.out.mono ?_;rintro e w2⟨rfl,g1,cap1,hw2,hs2⟩;have W2:=hid hw2;have S2:=hid hs2;clear hw2 hs2 HC hmc hcc;go_wp2_with fail
 go_loopw [9,17] (fun o i wr=>qz oC0 102 3 R g w bs n xs enc Ok k o i wr) (fun _ i _=>n-(intOf i).toNat)
 case atStart=>exact⟨0,[],none,0,g1,cap1,ae,rfl,rfl,rfl,(fun i y h=>fX),World.ownsRow_nil _ _ _ _,(fun b h=>cj),gw,S2.out⟩
 case round =>
  exact N9
theorem uA(R g cap:Nat)(bs:List Int)(ha:Option Addr)(n hc:Nat)(most:Int)(f:Value)(w:World)(h:Wr w R g cap bs)(hm:most<(n:Int)) :
  Calls Tryz.prog 137 #[cW R,.slice ha n hc,.int .i64 most,f] w (aT R g 20 w):=by
 have hmc:=bz;have hcc:=cf;have HC:=hid (eW R g cap bs n most w h hm);clear h
 go_enter Tryz.func137,Tryz.ntmps137
 exact jX
theorem vW(b:Bool)(w:World):Calls Tryz.prog 188 #[.bool b] w fun e w'=>e=.returned (.int .u8 (if b then 1 else 0))∧w'=w:=by
 cases b
 all_goals
  go_enter Tryz.func188,Tryz.ntmps188
  exact jS
theorem nB(v p:Int)(w:World)(h:isL v=true):Calls Tryz.prog 186 #[.int .u8 v,.int .i64 p] w (kX w):=by
 have HL:=hid (oh v w);rw[h]at HL
 go_enter Tryz.func186,Tryz.ntmps186
 go_wp2_with fail;refine HL.out.mono ?_;rintro e w1⟨rfl,rfl⟩;clear HL;exact Cc
theorem um(v p:Int)(w:World)(h:isL v=false):Calls Tryz.prog 186 #[.int .u8 v,.int .i64 p] w (jU 15 w):=by
 have HL:=hid (oh v w);rw[h]at HL
 go_enter Tryz.func186,Tryz.ntmps186
 go_wp2_with fail;refine HL.out.mono ?_;rintro e w1⟨rfl,rfl⟩;clear HL;go_wp2_with fail;refine(dZ rfl).mono ?_;exact o9
def bit(b:Bool):Int:=if b then 1 else 0
theorem KQ(w:World):Calls Tryz.prog 188 #[.bool false] w fun e w'=>e=.returned (.int .u8 0)∧w'=w:=vW false w
theorem Bg(w:World):Calls Tryz.prog 188 #[.bool true] w fun e w'=>e=.returned (.int .u8 1)∧w'=w:=vW true w
theorem zn(p:Int)(w:World):Calls Tryz.prog 189 #[.int .u8 0,.int .i64 p] w (kX w):=by
 have HF:=hid KQ
 go_enter Tryz.func189,Tryz.ntmps189
 go_wp2_with (first | (go_at_call 188; refine(HF.out _).mono ?_; rintro e w' ⟨rfl,rfl⟩) | (go_at_call 84; refine(cG rfl).mono ?_; rintro e w' ⟨rfl,rfl⟩))
 go_end0;exact⟨rfl,Below.refl _ _⟩
theorem xK(p:Int)(w:World):Calls Tryz.prog 189 #[.int .u8 1,.int .i64 p] w (kX w):=by
 have HF:=hid KQ;have HT:=hid Bg
 go_enter Tryz.func189,Tryz.ntmps189
 go_wp2_with fail;refine(HF.out _).mono ?_;rintro e w' ⟨rfl,rfl⟩
 go_wp2_with (first | (go_at_call 188; refine(HT.out _).mono ?_; rintro e w' ⟨rfl,rfl⟩) | (go_at_call 84; refine(cG rfl).mono ?_; rintro e w' ⟨rfl,rfl⟩))
 go_end0;exact⟨rfl,Below.refl _ _⟩
theorem uh(c v:Int)(h0:0≤v)(h:v<18446744073709551616):-9223372036854775808≤sgn c v∧sgn c v<9223372036854775808:=by
 unfold sgn; split <;> split <;> (try split) <;> omega
theorem OI{v:Int}(h0:0≤v)(h:v<4294967296):wrap64 (wrap32 v)=sgn 119 v:=by
 unfold sgn wrap64 wrap32;rw[if_pos rfl,if_pos h]
 split <;> omega
theorem RV{c v:Int}(hc:c≠119)(h0:0≤v)(h:v<18446744073709551616):wrap64 v=sgn c v:=by
 unfold sgn wrap64;rw[if_neg hc]
 split <;> omega
theorem lR(c v:Int)(mu:Bool)(w:World)(h0:0≤v)(h1:v<18446744073709551616):Calls Tryz.prog 190 #[.agg #[.int .u8 c,.bool mu,.int .u64 v]] w fun e w'=>e=.returned (.int .i64 (sgn c v))∧Below w.heap.size w w':=by
 have B1:=hid (ag w (aQ c mu v))
 by_cases hc:c=119
 ·subst hc
  have HF:=hid (fun W=>OG v 119 W)
  by_cases hv:v<4294967296
  ·have hf:gy v 119=true:=by simp[gy,hv]
   rw[hf]at HF;have HS:=hid (OI h0 hv)
   go_enter Tryz.func190,Tryz.ntmps190
   go_wp2_with (first | (go_at_call 231; refine(HF.out _).mono ?_; rintro e w' ⟨rfl,rfl⟩))
   exact BG
  ·have hf:gy v 119=false:=by simp[gy,hv]
   rw[hf]at HF
   have hs:sgn 119 v=9223372036854775807:=by unfold sgn; rw[if_pos rfl,if_neg hv]
   rw[hs]
   go_enter Tryz.func190,Tryz.ntmps190
   go_wp2_with (first | (go_at_call 231; refine(HF.out _).mono ?_; rintro e w' ⟨rfl,rfl⟩))
   go_ret;exact⟨rfl,B1.out⟩
 ·have hc':(c != 119)=true:=by simp[hc]
  have HS:=hid (RV hc h0 h1)
  go_enter Tryz.func190,Tryz.ntmps190
  go_wp2_with fail;exact BG
theorem Qc{v:Int}(h0:0≤v)(h:v<4294967296):sgn 119 v%4294967296=v:=by
 unfold sgn;rw[if_pos rfl,if_pos h]
 split <;> omega
theorem PK{c v:Int}(hc:c≠119)(h0:0≤v)(h:v<18446744073709551616):IntKind.u64.wrap (sgn c v)=v:=by
 unfold sgn;rw[if_neg hc]
 split <;> simp[IntKind.wrap,IntKind.bits,IntKind.signed] <;> omega
theorem lN(c v:Int)(w:World)(h0:0≤v)(h1:v<18446744073709551616)(h2:c=119→v<4294967296):Calls Tryz.prog 192 #[.int .u8 c,.int .i64 (sgn c v)] w fun e w'=>e=.returned (.int .u64 v)∧w'=w:=by
 by_cases hc:c=119
 ·subst hc;have hb:=Qc h0 (h2 rfl);generalize sgn 119 v=x at *
  go_enter Tryz.func192,Tryz.ntmps192
  go_wp2_with fail;go_ret
  first | exact⟨rfl,rfl⟩ | exact⟨congrArg (fun x=>Ending.returned (.int .u64 x)) hb,rfl⟩
 ·have hb:=PK hc h0 h1;generalize sgn c v=x at *
  have hc':(c==119)=false:=by simp[hc]
  go_enter Tryz.func192,Tryz.ntmps192
  exact jS
theorem KL{v:Int}(h0:0≤v)(h1:v<18446744073709551616):(sgn 119 v==wrap64 (wrap32 (sgn 119 v)))=decide (v<4294967296):=by
 unfold sgn wrap64 wrap32;rw[if_pos rfl]
 by_cases h:v<4294967296
 ·rw[if_pos h]
  simp only[h,decide_true,beq_iff_eq]
  split <;> omega
 ·rw[if_neg h]
  simp only[h,decide_false]
  decide
theorem si(B:Nat)(c v p:Int)(w:World)(h0:0≤v)(h1:v<18446744073709551616)(hB:w.cell? ⟨B,0,none⟩=some (.int .u8 c))(h:c=119→v<4294967296) :
  Calls Tryz.prog 191 #[.int .i64 (sgn c v),.int .i64 p,.pointer (some ⟨B,0,none⟩)] w (kX w):=by
 by_cases hc:c=119
 ·subst hc;have hs:=KL h0 h1;rw[decide_eq_true (h rfl)]at hs;generalize sgn 119 v=x at *
  go_enter Tryz.func191,Tryz.ntmps191
  go_wp2_with fail
  refine(cG (by first | rfl | exact hs)).mono ?_
  exact Ei
 ·have hc':(c != 119)=true:=by simp[hc]
  generalize sgn c v=x at *
  go_enter Tryz.func191,Tryz.ntmps191
  go_wp2_with fail;refine(cG rfl).mono ?_;exact Ei
theorem Fu(B:Nat)(v p:Int)(w:World)(h0:0≤v)(h1:v<18446744073709551616)(hB:w.cell? ⟨B,0,none⟩=some (.int .u8 119))(h:¬v<4294967296) :
  Calls Tryz.prog 191 #[.int .i64 (sgn 119 v),.int .i64 p,.pointer (some ⟨B,0,none⟩)] w (jU 17 w):=by
 have hs:=KL h0 h1;rw[decide_eq_false h]at hs;generalize sgn 119 v=x at *;exact JA
theorem Jk(b:Bool)(w:World):Calls Tryz.prog 188 #[.bool b] w fun e w'=>e=.returned (.int .u8 (bit b))∧w'=w:=vW b w
theorem J1(b:Bool)(p:Int)(w:World):Calls Tryz.prog 189 #[.int .u8 (bit b),.int .i64 p] w (kX w):=by
 cases b
 ·exact zn p w
 ·exact xK p w
theorem mh(b:Bool):0≤bit b∧bit b≤255:=by cases b <;> decide
theorem yN(b:Bool):(bit b==1)=b:=by cases b <;> decide
theorem aB{w:World}{b:Nat}{u v x:Value}{t:TypeId}(h:w.heap[b]? =some (.cells #[u,v,x] t)):w.cell? ⟨b,0,none⟩=some u∧w.cell? ⟨b,1,none⟩=some v∧w.cell? ⟨b,2,none⟩=some x∧w.frozen? ⟨b,0,none⟩=false∧w.frozen? ⟨b,1,none⟩=false∧w.frozen? ⟨b,2,none⟩=false:=by
 simp[World.cell?,World.frozen?,h]
theorem tM(a:Addr)(w:World):(nilAhead 481 150 (.pointer (some a)) "flagon/module.octet").run Tryz.prog w=.ok (some false) w:=rfl
theorem qP(a:Addr)(w:World):(nilAhead 481 150 (.pointer (some a)) "flagon/module.signed").run Tryz.prog w=.ok (some false) w:=rfl
def pO(w:World)(c v:Int)(mu:Bool):World:=(w.alloc (aQ c mu v)).alloc (aQ 0 false 0)
theorem ki(w:World)(c v:Int)(mu:Bool):Below w.heap.size w (pO w c v mu)∧(pO w c v mu).heap.size=w.heap.size+1+1∧(pO w c v mu).heap[w.heap.size]? =some (aQ c mu v)∧(pO w c v mu).heap[w.heap.size+1]? =some (aQ 0 false 0):=by
 unfold pO;refine⟨((Below.refl _ w).alloc (Nat.le_refl _) _).alloc ar _,ar,?_,?_⟩
 ·exact Cy
 ·have:=(MapKept.heap_alloc (w.alloc (aQ c mu v)) (aQ 0 false 0)).1
  exact bJ
theorem yo(R g cap:Nat)(bs:List Int)(c v:Int)(mu:Bool)(w:World)(h:Wr w R g cap bs)(hb:bs.length+100≤1099511627776)(h0:0≤c)(h1:c≤255)(v0:0≤v)(v1:v<18446744073709551616)(hl:isL c=true)(hv:c=119→v<4294967296) :
  Calls Tryz.prog 139 #[cW R,.agg #[.int .u8 c,.bool mu,.int .u64 v]] w (pA R g bs (cT (c,mu,v)) (.agg #[.int .u8 c,.bool mu,.int .u64 v]) w):=by
 have hmo:=nJ;have hco:=qV;have hms:=qb;have hcs:=yb;have hno:=tM;have hns:=qP;obtain⟨B0,z0,x0,x1⟩:=ki w c v mu;have HW:(w.alloc (aQ c mu v)).alloc (aQ 0 false 0)=pO w c v mu:=rfl;have hRl:=h.lt;have hgl:=h.g_lt;generalize pO w c v mu=W1 at *
 have H1:=hid (iB R g cap bs c 186 #[] W1 (h.later B0) h0 h1 ae (fun _ _=>rfl) (nB c _ W1 hl))
 have BW:=hid B0;obtain⟨a0,a1,a2,_,_,_⟩:=aB x0;clear h B0
 go_enter Tryz.func139,Tryz.ntmps139
 go_wp2_with fail;refine H1.out.mono ?_;rintro e w2⟨rfl,g1,cap1,hw2,hs2⟩;have y0:=(hs2.block (b:=w.heap.size) ae ae ae).trans x0;have y1:=(hs2.block (b:=w.heap.size+1) ae ae ae).trans x1;have n0:w.heap.size≠g1:=hs2.ne ae ae;have n1:w.heap.size+1≠g1:=hs2.ne ae ae;have S2:=hid ((Stp.of_below BW.out).trans hs2);have z2:=S2.out.size;have z2':=hs2.size;have gl2:=hw2.g_lt;obtain⟨w3,hw3⟩:∃w3,w2.alloc (jr c)=w3:=⟨_,rfl⟩;have B3:Below w2.heap.size w2 w3:=uO
 have z3:w3.heap.size=w2.heap.size+1:=by rw[← hw3]; simp
 have l3:w3.cell? ⟨w2.heap.size,0,none⟩=some (.int .u8 c):=wV;have q0:=(B3.block w.heap.size ae).trans y0;have q1:=(B3.block (w.heap.size+1) ae).trans y1;obtain⟨b0,b1,b2,_,_,_⟩:=aB q0
 have HO2:=hid (iB R g1 cap1 (bs++[c]) (bit mu) 189 #[] w3.drew ((hw2.later B3).later (Below.refl _ _).drew) (mh mu).1 (mh mu).2 aI (fun _ _=>rfl) (J1 mu _ w3.drew))
 have HF:=hid (Jk mu);have BB3:=hid B3;clear hs2 hw2 H1 x0 x1 a0 a1 a2 y0 y1 B3 HW;go_wp2_with fail
 go_region_held3 (fun W=>W.cell? ⟨w.heap.size,1,none⟩=some (.bool mu)) (assumption) (first
  | (go_at_call 188; refine(HF.out _).mono ?_; rintro e w' ⟨rfl,rfl⟩)
  | (go_at_call 320; refine HO2.out.mono ?_; rintro e w4⟨rfl,g2,cap2,hw4,hs4⟩; have hS':w4.cell? ⟨w.heap.size,1,none⟩=some (.bool mu):=hs4.cell b1 ae n0; have W4:=hid hw4; have S4:=hid hs4; clear hw4 hs4))
 all_goals
  have f0:=(S4.out.block (b:=w.heap.size) aI ae n0).trans q0;have f1:=(S4.out.block (b:=w.heap.size+1) aI ae n1).trans q1;have f2:=S4.out.cell (b:=w2.heap.size) l3 ae ae;obtain⟨d0,d1,d2,_,_,_⟩:=aB f0;have m0:w.heap.size≠g2:=S4.out.ne aI n0;have m1:w.heap.size+1≠g2:=S4.out.ne aI n1;have m2:w2.heap.size≠g2:=S4.out.ne aI ae;have z4:w3.heap.size≤w4.heap.size:=S4.out.size;have S4':=hid ((S2.out.trans (Stp.of_below BB3.out)).trans ((Stp.of_below ((Below.refl _ _).drew)).trans S4.out))
  have HWS:=hid (fun W=>lR c v mu W v0 v1)
  clear S4 HO2 HF hS' q0 q1 b0 b1 b2 l3 hno hmo hco;go_wp2_with fail
  have HSG:=hid (fun W (hW:Below w4.heap.size w4 W)=>tD R g2 cap2 (bs++[c]++[bit mu]) (sgn c v) 191 #[.pointer (some ⟨w2.heap.size,0,none⟩)] W (W4.out.later hW) (uh c v v0 v1).1 (uh c v v0 v1).2 aI (fun _ _=>rfl) (si w2.heap.size c v _ W v0 v1 ((hW.cell wJ).trans f2) hv))
  have HB4:=hid (fun(W5:World) (hb:Below w4.heap.size w4.drew W5)=>(Below.trans ((Below.refl w4.heap.size w4).drew) hb:Below w4.heap.size w4 W5))
  have HC4:=hid (fun(W5:World) (hb:Below w4.heap.size w4 W5)=>(⟨(hb.cell (by exact block_lt_of_cell d0)).trans d0,(hb.cell (by exact block_lt_of_cell d1)).trans d1,(hb.cell (by exact block_lt_of_cell d2)).trans d2⟩:W5.cell? ⟨w.heap.size,0,none⟩=some (.int .u8 c)∧W5.cell? ⟨w.heap.size,1,none⟩=some (.bool mu)∧W5.cell? ⟨w.heap.size,2,none⟩=some (.int .u64 v)))
  go_region_held3 (fun W=>W.cell? ⟨w.heap.size,0,none⟩=some (.int .u8 c)∧W.cell? ⟨w.heap.size,1,none⟩=some (.bool mu)∧W.cell? ⟨w.heap.size,2,none⟩=some (.int .u64 v)) (first | assumption | exact⟨d0,d1,d2⟩) (first
   | (go_at_call 190; refine(HWS.out _).mono ?_; rintro e w5⟨rfl,hb5⟩; have hB5:=hid (HB4.out w5 hb5); have hS':=HC4.out w5 hB5.out; clear hb5)
   | (go_at_call 322; refine(HSG.out _ hB5.out).mono ?_; rintro e w6⟨rfl,g3,cap3,hw6,hs6⟩; have hS'':w6.cell? ⟨w.heap.size,0,none⟩=some (.int .u8 c)∧w6.cell? ⟨w.heap.size,1,none⟩=some (.bool mu)∧w6.cell? ⟨w.heap.size,2,none⟩=some (.int .u64 v):=⟨hs6.cell hS'.1 ae m0,hs6.cell hS'.2.1 ae m0,hs6.cell hS'.2.2 ae m0⟩; have W6:=hid hw6; have S6:=hid hs6; clear hw6 hs6))
  all_goals
   have z5:=hB5.out.size;have e1:=(S6.out.block (b:=w.heap.size+1) ae ae m1).trans ((hB5.out.block _ ae).trans f1);have e2:=S6.out.cell (b:=w2.heap.size) ((hB5.out.cell wJ).trans f2) ae m2;have p1:w.heap.size+1≠g3:=S6.out.ne ae m1;have S6':=hid ((S4'.out.trans (Stp.of_below hB5.out)).trans S6.out);obtain⟨k0,k1,k2,k3,k4,k5⟩:=aB e1;have hlt6:=block_lt_of_cell e2;have hlt7:=block_lt_of_cell k0;have HF:=hid (Bg)
   have HWO:=hid (fun W=>lN c v W v0 v1 hv)
   clear S6 HSG HB4 HC4 HWS hS' hS'' f0 f1 f2 d0 d1 d2 hns hms hcs e1;go_wp2_with fail;have hbb:=yN mu
   go_region_held3 (fun W=>W.cell? ⟨w2.heap.size,0,none⟩=some (.int .u8 c)) (first | assumption | (simp[go_sem]; assumption) | (rw[World.cell?_setCell_other _ _ _ _ aI,World.cell?_setCell_other _ _ _ _ aI,World.cell?_setCell_other _ _ _ _ aI]; assumption)) (first
    | (go_at_call 188; refine(HF.out _).mono ?_; rintro e w' ⟨rfl,rfl⟩)
    | (go_at_call 192; refine(HWO.out _).mono ?_; rintro e w' ⟨rfl,rfl⟩))
   all_goals
    go_wp2_with fail;refine bodyPost_ret (v:=.agg #[.int .u8 c,.bool mu,.int .u64 v]) ?_ rfl ⟨rfl,g3,cap3,?_,?_⟩
    ·exact cu
    ·have:=(((W6.out.set (b:=w.heap.size+1) (o:=0) (v:=.int .u8 c) ae p1).set (b:=w.heap.size+1) (o:=1) (v:=.bool mu) ae p1).set (b:=w.heap.size+1) (o:=2) (v:=.int .u64 v) ae p1).later (Below.refl _ _).drew
     simpa[cT,bit,List.append_assoc] using this
    ·exact(((S6'.out.set ae).set ae).set ae).trans (Stp.of_below ((Below.refl _ _).drew))
end Go.Proofs.YtheefojaplnnoaaGreatDoor

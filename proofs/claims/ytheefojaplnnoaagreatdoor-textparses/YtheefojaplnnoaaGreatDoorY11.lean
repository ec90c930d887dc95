/-
  Texts Bf Bl Bm Ra Rb Rc Rh.
-/
import Derived.Test.YtheefojaplnnoaaGreatDoorY10
set_option linter.unusedVariables false
set_option maxRecDepth 100000
set_option maxHeartbeats 16000000
namespace Go.Proofs.YtheefojaplnnoaaGreatDoor
open Go.Proofs.Tryz
open Go.RowKit
def ml:ByteArray:=⟨#[102,117,110,99]⟩
def zg(lo:BAz):ByteArray:=if lo.toList.isEmpty then ⟨#[45]⟩ else lo
def vt(y:InM):List UInt8:=bL (iA (ofV y.1).1.2.2.1 (ofV y.1).1.2.1 y.2.1 y.2.2.2)
def fnL(ty:Int)(lo:BAz)(xs:List InM):List UInt8:=bL [ml,bT ty,zg lo]++xs.flatMap vt
def UB(w:World)(y:InM):Prop:=(0<=y.1/\y.1<=255)/\(-9223372036854775808<=y.2.1/\y.2.1<=9223372036854775807)/\gW w y.2.2.1.1 y.2.2.1.2.1 y.2.2.1.2.2 y.2.2.2
variable {k:Nat}
theorem gZ{α:Type}{l:List α}{x:α}(h:l[k]? =some x):l.take (k+1)=l.take k++[x]:=by
 rw[List.take_add_one,h]; rfl
theorem iG{α:Type}(f:α->List UInt8)(l:List α)(k:Nat)(x:α)(h:l[k]? =some x):((l.take k).flatMap f).length+(f x).length<=(l.flatMap f).length:=by
 have e:l.flatMap f=(l.take (k+1)).flatMap f++(l.drop (k+1)).flatMap f:=by rw[<- List.flatMap_append,List.take_append_drop]
 rw[e,gZ h,List.flatMap_append,ZV,ZV];simp
theorem Xp(b:Nat)(s:Zaj)(ty:Int)(lo:BAz)(ca:OAz)(cn cc:Nat)(xs:List InM)(w0 w:World)(hw:Zx w0 w)(h:Lib.IsBuilder 96 5 w0.heap.size b (Lib.byteCells s) w)(htn:fq w0.heap.size w0)(hk:aX w0)(hty:-9223372036854775808<=ty/\ty<=9223372036854775807)
  (hcn:cn<=1099511627776) (hx:AtIn w0 ca cn xs) (hxs:∀(j:Nat)y,xs[j]? =some y->UB w0 y) (hlen:s.length+(fnL ty lo xs).length<=70368744177664) :
  Zw 97 #[ZP b 0,.agg #[ZI ty,.string lo,.slice ca cn cc]] w fun e w'=>e=.returned (.tuple #[])/\Lib.BuilderAt 96 5 w0.heap.size b (ZP b 0) (Lib.byteCells (s++fnL ty lo xs)) w'/\Zx w0 w'/\dR b w w':=by
 have B0:=aj w (aN ty lo ca cn cc);have z0:=hw.size;have B1:=hid (hw.trans (B0.mono z0));obtain⟨FS,HW0⟩:=Zz B0 hw;have HI:=hid (xB w0.heap.size ty hty.1 hty.2 _ (htn.later B1.out))
 have hfl:(fnL ty lo xs).length=(bL [ml,bT ty,zg lo]).length+(xs.flatMap vt).length:=by simp[fnL]
 have HLW:(lo.toList.isEmpty=true/\zg lo=⟨#[45]⟩)\/(lo.toList.isEmpty=false/\zg lo=lo):=by
  unfold zg
  cases lo.toList.isEmpty <;> simp
 have HX:=hid hx.2;have HXS:=hid hxs;have hxl:=hx.1;obtain⟨HK,HTN,HS⟩:=ZH hk htn h;have pv:fnL ty lo xs=bL [ml,bT ty,zg lo]++xs.flatMap vt:=rfl;rw[pv];clear hx hxs hw B0 hk htn h pv;generalize zg lo=lw at *
 rcases HLW with ⟨he,he2⟩ | ⟨he,he2⟩
 ·subst lw
  go_enter func97,ntmps97
  go_wp2_with fail;refine HI.out.mono ?_;rintro e w2⟨rfl,hb2⟩
  have u2:w2.cell? (ZA w.heap.size 2)=some (.slice ca cn cc):=by rw[hb2.cell av]; simp[go_sem]
  have HX2:=hid ((hb2.block w.heap.size av).trans (ZZ w (aN ty lo ca cn cc)).1);have P2:=hid (FS.out.trans (hb2.mono av));have z2:=P2.out.size;clear hb2;have hw3:=P2.out.trans ((aj w2 (.cells #[.string ml,.string (bT ty),.string ⟨#[45]⟩] 9)).mono z2)
  have HL:=hid (pc w0.heap.size b w2.heap.size 0 3 [ml,bT ty,⟨#[45]⟩] s _ (dH HS.out hw3) (ZW z0 hw3.size) (by
   intro j x hx
   match j,hx with
   | 0,hx=>simp at hx; subst hx; simp[go_sem]
   | 1,hx=>simp at hx; subst hx; simp[go_sem]
   | 2,hx=>simp at hx; subst hx; simp[go_sem]) av av (by show s.length+3+_<=_; omega))
  have HW3:=hid hw3;clear hw3
  have lp:b<w.heap.size:=by rcases HS.out with h | h <;> exact h.lt
  have hbk2:w2.heap[w.heap.size]? =some (.cells #[ZI ty,.string lo,.slice ca cn cc] 78 (0,0)):=HX2.out;go_wp2_with fail;refine HL.out.mono ?_;rintro e w3⟨rfl,h3,hb3,hh3⟩
  have c2:w3.cell? (ZA w.heap.size 2)=some (.slice ca cn cc):=by
   have e1:=(dR.of_below (b:=b) (aj w2 (.cells #[.string ml,.string (bT ty),.string ⟨#[45]⟩] 9))).trans hh3;rw[e1.cell hbk2 au ae];exact u2
  have H3:=hid h3;have B3:=hid ((HW0.out.trans (HW3.out.mono z0)).trans hb3);have D3:=hid ((dR.of_below (b:=b) HW3.out).trans hh3);clear h3 hb3 hh3;go_wp2_with fail;generalize hL0:bL [ml,bT ty,⟨#[45]⟩]=L0 at *;exact UT
 subst lw;go_enter func97,ntmps97
 go_wp2_with fail;refine HI.out.mono ?_;rintro e w2⟨rfl,hb2⟩
 have u2:w2.cell? (ZA w.heap.size 2)=some (.slice ca cn cc):=by rw[hb2.cell av]; simp[go_sem]
 have HX2:=hid ((hb2.block w.heap.size av).trans (ZZ w (aN ty lo ca cn cc)).1);have P2:=hid (FS.out.trans (hb2.mono av));have z2:=P2.out.size;clear hb2;have hw3:=P2.out.trans ((aj w2 (.cells #[.string ml,.string (bT ty),.string lo] 9)).mono z2)
 have HL:=hid (pc w0.heap.size b w2.heap.size 0 3 [ml,bT ty,lo] s _ (dH HS.out hw3) (ZW z0 hw3.size) (by
  intro j x hx
  match j,hx with
  | 0,hx=>simp at hx; subst hx; simp[go_sem]
  | 1,hx=>simp at hx; subst hx; simp[go_sem]
  | 2,hx=>simp at hx; subst hx; simp[go_sem]) av av (by show s.length+3+_<=_; omega))
 have HW3:=hid hw3;clear hw3
 have lp:b<w.heap.size:=by rcases HS.out with h | h <;> exact h.lt
 have hbk2:w2.heap[w.heap.size]? =some (.cells #[ZI ty,.string lo,.slice ca cn cc] 78 (0,0)):=HX2.out;go_wp2_with fail;refine HL.out.mono ?_;rintro e w3⟨rfl,h3,hb3,hh3⟩
 have c2:w3.cell? (ZA w.heap.size 2)=some (.slice ca cn cc):=by
  have e1:=(dR.of_below (b:=b) (aj w2 (.cells #[.string ml,.string (bT ty),.string lo] 9))).trans hh3;rw[e1.cell hbk2 au ae];exact u2
 have H3:=hid h3;have B3:=hid ((HW0.out.trans (HW3.out.mono z0)).trans hb3);have D3:=hid ((dR.of_below (b:=b) HW3.out).trans hh3);clear h3 hb3 hh3;go_wp2_with fail;generalize hL0:bL [ml,bT ty,lo]=L0 at *;exact UT
structure PS(w0 w:World)(b:Nat)(s:Zaj)(W:World):Prop where
 own:Lib.IsBuilder 96 5 w0.heap.size b (Lib.byteCells s) W
 low:Zx w0 W
 hold:dR b w W
variable {w0 w W W':World}{b:Nat}
theorem PS.later{s:Zaj}(h:PS w0 w b s W)(hW:Zx W W'):PS w0 w b s W' :=
 ⟨dH h.own hW,h.low.trans (hW.mono h.low.size),h.hold.trans (dR.of_below hW)⟩
variable {o:Nat}
theorem PS.cell{s:Zaj}(h:PS w0 w b s W){v:Value}(hc:w0.cell? (ZA k o)=some v):W.cell? (ZA k o)=some v:=(h.low.cell (ZQ hc)).trans hc
theorem PS.line{s:Zaj}(h:PS w0 w b s W)(xs:Zai)(n:Nat)(hn:xs.length=n)(hlen:s.length+n+(bL xs).length<=140737488355328) :
  Zw 92 #[ZP b 0,ZL W.heap.size n n] (W.alloc (.cells (xs.map Value.string).toArray 9)) fun e w'=>e=.returned (.tuple #[])/\PS w0 w b (s++bL xs) w':=by
 subst hn;have h':=h.later (aj W (.cells (xs.map Value.string).toArray 9));refine(pc w0.heap.size b W.heap.size 0 xs.length xs s _ h'.own h'.low.size ?_ av lRn hlen).mono ?_
 ·intro j x hx;rw[Nat.zero_add,World.cell?_alloc_at _ _ _ _ rfl]
  simp[hx]
 rintro e w' ⟨rfl,h1,h2,h3⟩;exact⟨rfl,.inr h1,h'.low.trans h2,h'.hold.trans h3⟩
theorem PS.itoa{s:Zaj}(h:PS w0 w b s W)(ht:fq w0.heap.size w0)(n:Int)(h0:-9223372036854775808<=n)(h1:n<=9223372036854775807) :
  Zw 94 #[ZI n] W fun e w'=>e=.returned (.string (bT n))/\PS w0 w b s w'/\Zx W w':=by
 refine(xB w0.heap.size n h0 h1 W (ht.later h.low)).mono ?_;rintro e w' ⟨rfl,hb⟩;exact⟨rfl,h.later hb,hb⟩
theorem PS.func{s:Zaj}(h:PS w0 w b s W)(ht:fq w0.heap.size w0)(hk:aX w0)(ty:Int)(lo:BAz)(ca:OAz)(cn cc:Nat)(xs:List InM)(hty:-9223372036854775808<=ty/\ty<=9223372036854775807)
  (hcn:cn<=1099511627776) (hx:AtIn w0 ca cn xs) (hxs:∀(j:Nat)y,xs[j]? =some y->UB w0 y) (hlen:s.length+(fnL ty lo xs).length<=70368744177664) :
  Zw 97 #[ZP b 0,.agg #[ZI ty,.string lo,.slice ca cn cc]] W fun e w'=>e=.returned (.tuple #[])/\PS w0 w b (s++fnL ty lo xs) w':=by
 refine(Xp b s ty lo ca cn cc xs w0 W h.low h.own ht hk hty hcn hx hxs hlen).mono ?_;rintro e w' ⟨rfl,h1,h2,h3⟩;exact⟨rfl,.inr h1,h2,h.hold.trans h3⟩
def pA:ByteArray:=⟨#[102,108,97,103,111,110]⟩
def PG:ByteArray:=⟨#[116,121,112,101]⟩
def yw:ByteArray:=⟨#[101,120,116,101,114,110]⟩
def Ab:ByteArray:=⟨#[103,108,111,98,97,108]⟩
def yL:ByteArray:=⟨#[109,101,109,111,114,121]⟩
def OJ:ByteArray:=⟨#[100,97,116,97]⟩
def wo:ByteArray:=⟨#[101,120,112,111,114,116]⟩
def pk(x:Sg):List UInt8:=bL [PG,kN x.1 x.2]
def jn(x:Int):List UInt8:=bL [yw,bT x]
def ER(b:Bool):ByteArray:=if b then ⟨#[118,97,114]⟩ else ⟨#[99,111,110,115,116]⟩
def glL(x:Gl):List UInt8:=bL [Ab,⟨#[UInt8.ofNat x.1.toNat]⟩,ER x.2.1,bT (told x.1 x.2.2)]
def qz(a b:Int):List UInt8:=bL [yL,bT a,bT b]
def fuL(x:FuM):List UInt8:=fnL x.1 x.2.1 x.2.2.2
def daL(x:DaM):List UInt8:=bL [OJ,bT x.1,⟨(tH x.2.2).toArray⟩]
def exL(x:Ex):List UInt8:=bL [wo,x.1,bT x.2]
def mz(m:MM):List UInt8:=bL [pA]++(m.types.flatMap pk++(m.hosts.flatMap jn++(m.globals.flatMap glL++(qz m.fi m.mo++(m.fns.flatMap fuL++(m.data.flatMap daL++m.exps.flatMap exL))))))
variable {W1:World}{B:Nat}{m:MM}
theorem PS.m_cells{s:Zaj}(h:PS w0 W1 b s W)(hb:W1.heap[B]? =some (.cells (mV m) 29))(hne:B≠b):W.heap[B]? =some (.cells (mV m) 29):=(h.hold.2 _ _ _ _ hb au hne).trans hb
theorem PS.line2{s:Zaj}(h:PS w0 w b s W)(xs:Zai)(n:Nat)(hn:xs.length=n)(hlen:s.length+n+(bL xs).length<=140737488355328) :
  Zw 92 #[ZP b 0,ZL W.heap.size n n] (W.alloc (.cells (xs.map Value.string).toArray 9)) fun e w'=>e=.returned (.tuple #[])/\PS w0 w b (s++bL xs) w'/\dR b W w':=by
 subst hn;have h':=h.later (aj W (.cells (xs.map Value.string).toArray 9));refine(pc w0.heap.size b W.heap.size 0 xs.length xs s _ h'.own h'.low.size ?_ av lRn hlen).mono ?_
 ·intro j x hx;rw[Nat.zero_add,World.cell?_alloc_at _ _ _ _ rfl]
  simp[hx]
 rintro e w' ⟨rfl,h1,h2,h3⟩;exact⟨rfl,⟨.inr h1,h'.low.trans h2,h'.hold.trans h3⟩,(dR.of_below (aj W _)).trans h3⟩
theorem Ya(m:Bool)(w:World):Zw 95 #[.bool m] w (ZG (.string (ER m)) w):=WA m w
theorem Cc(c:Int)(h0:0<=c)(h1:c<128)(w:World):(convert 5 9 (ZU c)).run prog w=.ok (.string ⟨#[UInt8.ofNat c.toNat]⟩) w:=by
 have e:Utf8.encode c=⟨#[UInt8.ofNat c.toNat]⟩:=by
  have hv:Utf8.valid c=true:=by unfold Utf8.valid; simp; omega
  unfold Utf8.encode;simp only[hv,if_true];rw[if_pos ae]
 rw[<- e];rfl
theorem Yb(R g b:Nat)(m:MM)(w0 w:World)(s:Zaj)(h:PS w0 w b s w)(htn:fq w0.heap.size w0)(hk:aX w0)(hM:MOk w0 R g m)(hL:s.length+(mz m).length+100<=35184372088832)(hts:∀(j:Nat)x,m.types[j]? =some x->x.1.size<=1073741824/\x.2.size<=1073741824)(hgl:∀(j:Nat)x,m.globals[j]? =some x->x.1<128)
  (On:m.tn<=1000000) (nF:m.hn<=1000000) (RE:m.gn<=1000000) (be:m.fn<=1000000) (hn5:m.dn<=1000000) (hn6:m.en<=1000000)
  (hcn:∀(j:Nat)x,m.fns[j]? =some x->x.2.2.1.2.1<=1099511627776/\∀(i:Nat)y,x.2.2.2[i]? =some y->-9223372036854775808<=y.2.1/\y.2.1<=9223372036854775807) :
  Zw 32 #[ZP b 0,.agg (mV m)] w fun e w'=>e=.returned (.tuple #[])/\PS w0 (w.alloc (.cells (mV m) 29)) b (s++mz m) w':=by
 have lp:b<w.heap.size:=by rcases h.own with h | h <;> exact h.lt
 have hb0:=(ZZ w (.cells (mV m) 29)).1;have z1:(w.alloc (.cells (mV m) 29)).heap.size=w.heap.size+1:=av;have hP0:PS w0 (w.alloc (.cells (mV m) 29)) b s (w.alloc (.cells (mV m) 29)):=⟨dH h.own (aj w _),h.low.trans ((aj w _).mono h.low.size),dR.refl _ _⟩;have ox:w.heap.size≠b:=ae;have HW:w.alloc (bM m.ta m.tn m.tc m.ha m.hn m.hc m.ga m.gn m.gc m.fi m.mo m.fa m.fn m.fc m.da m.dn m.dc m.ea m.en m.ec)=w.alloc (.cells (mV m) 29):=rfl
 have hLL:s.length+(7+((m.types.flatMap pk).length+((m.hosts.flatMap jn).length+((m.globals.flatMap glL).length+((qz m.fi m.mo).length+((m.fns.flatMap fuL).length+((m.data.flatMap daL).length+(m.exps.flatMap exL).length)))))))+100<=35184372088832:=by
  have e:(mz m).length=7+((m.types.flatMap pk).length+((m.hosts.flatMap jn).length+((m.globals.flatMap glL).length+((qz m.fi m.mo).length+((m.fns.flatMap fuL).length+((m.data.flatMap daL).length+(m.exps.flatMap exL).length)))))):=by
   simp only[mz,ZV]; rfl
  omega
 have HML:s++mz m=((((((((s++bL [pA])++m.types.flatMap pk)++m.hosts.flatMap jn)++m.globals.flatMap glL)++qz m.fi m.mo)++m.fns.flatMap fuL)++m.data.flatMap daL)++m.exps.flatMap exL):=by
  simp only[mz,Z2]
 rw[HML];clear HML hL;generalize w.alloc (.cells (mV m) 29)=W1 at *;have HB:=hid hb0;have HL:=hid (hP0.line [pA] 1 rfl (by show s.length+1+7<=_; omega));rw[z1]at HL;obtain⟨HGL,HCN,HTN,HKD,rk,HTS⟩:=ZK hgl hcn htn hk hM hts;have HLL:=hid hLL;show Zw 32 #[ZP b 0,.agg #[.slice m.ta m.tn m.tc,.slice m.ha m.hn m.hc,.slice m.ga m.gn m.gc,ZI m.fi,ZI m.mo,.slice m.fa m.fn m.fc,.slice m.da m.dn m.dc,.slice m.ea m.en m.ec]] w _;clear h hP0 hb0 hgl hcn htn hk hM hts hLL;go_enter func32,ntmps32
 go_wp2_with fail;refine HL.out.mono ?_;rintro e wa⟨rfl,hPa⟩;obtain⟨⟨m0,-,-,-,-,-,-,-⟩,-⟩:=ax (hPa.m_cells HB.out ox);have tg:=hid hPa;clear hPa HL;go_wp2_with fail
 have iS:=hid (show(s++bL [pA]).length=s.length+7 by simp; rfl);generalize hse1:s++bL [pA]=s1 at *;have HE1:=hid hse1;clear hse1;clear m0
 go_loopw [24] (fun i W=>∃k:Nat,k<=m.tn/\i=ZI k/\PS w0 W1 b (s1++(m.types.take k).flatMap pk) W) (fun i _=>m.tn-(intOf i).toNat)
 case atStart=>exact⟨0,Z5 _,rfl,qZ⟩
 case round =>
  obtain⟨k,hk,rfl,hP⟩:=hrel;have hTl:=rk.out.pt.1;clear tg
  by_cases hlt:k<m.tn
  ·obtain⟨⟨yp,yr⟩,hy⟩:∃y,m.types[k]? =some y:=⟨_,aD ae⟩
   obtain⟨bb,off,Up,hx⟩:∃bb off,m.ta=some (ZA bb off)/\(w0.cell? (ZA bb (off+k*2))=some (.string yp)/\w0.cell? (ZA bb (off+k*2+1))=some (.string yr)):=by
    rcases rk.out.pt.2 with h | ⟨bb,off,h,h'⟩
    ·omega
    exact⟨bb,off,h,h' k (yp,yr) hy⟩
   have k0:=hP.cell hx.1;have k1:=hP.cell hx.2;have HY:=HTS.out k (yp,yr) hy;have HTk:=hid (gZ hy);have j8:=hid (iG pk m.types k (yp,yr) hy);have HP:=hid hP;have HWd:=hid (fun W=>XP yp yr W HY.1 HY.2);clear hx hy hP HY;rw[Up];go_wp2_with fail;refine(HWd.out _).mono ?_;rintro e w4⟨rfl,hb4⟩;have P4:=hid (HP.out.later ((aj _ _).trans (hb4.mono av)));clear hb4
   have HL:=hid (P4.out.line [PG,kN yp yr] 2 rfl (by
    have h1:=j8.out; have h2:=HLL.out; have h3:=iS.out;show(s1++(m.types.take k).flatMap pk).length+2+(pk (yp,yr)).length<=_;rw[ZV]
    omega))
   go_wp2_with fail;refine HL.out.mono ?_;rintro e w5⟨rfl,h5⟩;have P5:=hid h5;clear h5;go_wp2_with fail
   go_roundw
   case rel =>
    exact nE
   case measure=>show m.tn-((k:Int)+1).toNat<m.tn-(k:Int).toNat; omega
  obtain rfl:k=m.tn:=ae;rw[ZY ae]at hP;obtain⟨⟨-,m1,m2,m3,m4,m5,m6,m7⟩,-⟩:=ax (hP.m_cells HB.out ox);have tg:=hid hP;clear hP;have dq:=hid (show(s1++m.types.flatMap pk).length=s1.length+(m.types.flatMap pk).length by rw[ZV]);generalize hse2:s1++m.types.flatMap pk=s2 at *;have HE2:=hid hse2;clear hse2;have iS:=hid (dq.out.trans (congrArg (· + _) iS.out));clear dq;go_wp2_with fail;clear m1 m2 m3 m4 m5 m6 m7
  go_loopw [41] (fun i W=>∃k:Nat,k<=m.hn/\i=ZI k/\PS w0 W1 b (s2++(m.hosts.take k).flatMap jn) W) (fun i _=>m.hn-(intOf i).toNat)
  case atStart=>exact⟨0,Z5 _,rfl,qZ⟩
  case round =>
   obtain⟨k,hk,rfl,hP⟩:=hrel;have hTl:=rk.out.ph.1;clear tg
   by_cases hlt:k<m.hn
   ·obtain⟨y,hy⟩:=ZB m.hosts k ae
    obtain⟨bb,off,Up,hx⟩:∃bb off,m.ha=some (ZA bb off)/\w0.cell? (ZA bb (off+k))=some (ZI y):=by
     rcases rk.out.ph.2 with h | ⟨bb,off,h,h'⟩
     ·omega
     exact⟨bb,off,h,h' k y hy⟩
    have k0:=hP.cell hx;have HY:=rk.out.hr k y hy;have HTk:=hid (gZ hy);have j8:=hid (iG jn m.hosts k y hy);have HP:=hid hP;have HWd:=hid (fun W (hW:PS w0 W1 b (s2++(m.hosts.take k).flatMap jn) W)=>hW.itoa HTN.out y HY.1 ae);clear hx hy hP;rw[Up];go_wp2_with fail;refine(HWd.out _ HP.out).mono ?_;rintro e w4⟨rfl,P4',_⟩;have P4:=hid P4';clear P4'
    have HL:=hid (P4.out.line [yw,bT y] 2 rfl (by
     have h1:=j8.out; have h2:=HLL.out; have h3:=iS.out;show(s2++(m.hosts.take k).flatMap jn).length+2+(jn y).length<=_;rw[ZV]
     omega))
    go_wp2_with fail;refine HL.out.mono ?_;rintro e w5⟨rfl,h5⟩;have P5:=hid h5;clear h5;go_wp2_with fail
    go_roundw
    case rel =>
     exact nE
    case measure=>show m.hn-((k:Int)+1).toNat<m.hn-(k:Int).toNat; omega
   obtain rfl:k=m.hn:=ae;rw[ZY ae]at hP;obtain⟨⟨-,m1,m2,m3,m4,m5,m6,m7⟩,-⟩:=ax (hP.m_cells HB.out ox);have tg:=hid hP;clear hP;have dq:=hid (show(s2++m.hosts.flatMap jn).length=s2.length+(m.hosts.flatMap jn).length by rw[ZV]);generalize hse3:s2++m.hosts.flatMap jn=s3 at *;have HE3:=hid hse3;clear hse3;have iS:=hid (dq.out.trans (congrArg (· + _) iS.out));clear dq;go_wp2_with fail;clear m1 m2 m3 m4 m5 m6 m7
   go_loopw [54] (fun i W=>∃k:Nat,k<=m.gn/\i=ZI k/\PS w0 W1 b (s3++(m.globals.take k).flatMap glL) W) (fun i _=>m.gn-(intOf i).toNat)
   case atStart=>exact⟨0,Z5 _,rfl,qZ⟩
   case round =>
    obtain⟨k,hk,rfl,hP⟩:=hrel;have hTl:=rk.out.pg.1;clear tg
    by_cases hlt:k<m.gn
    ·obtain⟨⟨yc,ym,yv⟩,hy⟩:∃y,m.globals[k]? =some y:=⟨_,aD ae⟩
     obtain⟨bb,off,Up,hx⟩:∃bb off,m.ga=some (ZA bb off)/\(w0.cell? (ZA bb (off+k*3))=some (ZU yc)/\w0.cell? (ZA bb (off+k*3+1))=some (.bool ym)/\w0.cell? (ZA bb (off+k*3+2))=some (.int .u64 yv)):=by
      rcases rk.out.pg.2 with h | ⟨bb,off,h,h'⟩
      ·omega
      exact⟨bb,off,h,h' k (yc,ym,yv) hy⟩
     have k0:=hP.cell hx.1;have k1:=hP.cell hx.2.1;have k2:=hP.cell hx.2.2;have HY:=hid (And.intro (rk.out.gr k _ hy) (HGL.out k _ hy));have HTk:=hid (gZ hy);have j8:=hid (iG glL m.globals k _ hy);have HP:=hid hP;have B9:=aj wr (aZ yc ym yv);have P9:=hid (HP.out.later B9);have hblk:=hZn wr (aZ yc ym yv);have d0:(wr.alloc (aZ yc ym yv)).cell? (ZA wr.heap.size 0)=some (ZU yc):=xS;have d1:(wr.alloc (aZ yc ym yv)).cell? (ZA wr.heap.size 1)=some (.bool ym):=xS;have d2:(wr.alloc (aZ yc ym yv)).cell? (ZA wr.heap.size 2)=some (.int .u64 yv):=xS;have HCV:=Cc yc HY.out.1.1 HY.out.2
     have hbB:b<wr.heap.size:=by rcases HP.out.own with h | h <;> exact h.lt
     clear hx hy hP B9;rw[Up];go_wp2_with fail;generalize wr.alloc (aZ yc ym yv)=wz at *;generalize wr.heap.size=X at *;have P9d:=hid (P9.out.later ((ZT _ wz).drew));have HMK:=hid (fun(W:World) (hb:Below wz.drew.heap.size wz.drew W)=>(⟨P9d.out.later hb,ar hb hblk,ai hb d0,ai hb d1,ai hb d2⟩:PS w0 W1 b (s3++(m.globals.take k).flatMap glL) W/\W.heap[X]? =some (aZ yc ym yv)/\W.cell? (ZA X 0)=some (ZU yc)/\W.cell? (ZA X 1)=some (.bool ym)/\W.cell? (ZA X 2)=some (.int .u64 yv)));have HMH:=hid (fun(W W':World)(hh:dR b W W') (hk:W.heap[X]? =some (aZ yc ym yv))=>(⟨(hh.cell hk au ae).trans (ag hk),(hh.cell hk au ae).trans (ag hk),(hh.cell hk au ae).trans (ag hk)⟩:W'.cell? (ZA X 0)=some (ZU yc)/\W'.cell? (ZA X 1)=some (.bool ym)/\W'.cell? (ZA X 2)=some (.int .u64 yv)));have HV:=hid (fun(W:World) (hW:PS w0 W1 b (s3++(m.globals.take k).flatMap glL) W)=>SE w0.heap.size yc yv ym W hW.low.size (HTN.out.later hW.low) HY.out.1.2.2.1 HY.out.1.2.2.2)
     have sE:=hid (fun(W:World) (hW:PS w0 W1 b (s3++(m.globals.take k).flatMap glL) W)=>hW.line2 [Ab,⟨#[UInt8.ofNat yc.toNat]⟩,ER ym,bT (told yc yv)] 4 rfl (by
      have h1:=j8.out; have h2:=HLL.out; have h3:=iS.out;show(s3++(m.globals.take k).flatMap glL).length+4+(glL (yc,ym,yv)).length<=_;rw[ZV]
      omega))
     clear hblk
     go_region_held3 (fun W=>W.cell? (ZA X 0)=some (ZU yc)/\W.cell? (ZA X 1)=some (.bool ym)/\W.cell? (ZA X 2)=some (.int .u64 yv)) (go_keep)
      (first
      | (go_at_call 95; refine(Ya ym _).mono ?_; rintro e w3⟨rfl,hw3⟩; have hw4:=hw3.symm; subst hw4)
      | (go_at_call 96; refine(HV.out _ P9d.out).mono ?_; rintro e w4⟨rfl,hb4⟩; obtain⟨p4,k4,f0,f1,f2⟩:=HMK.out _ hb4; have P4:=hid p4; have K4:=hid k4; clear hb4 p4 k4)
      | (go_at_call 92; refine(sE.out _ P4.out).mono ?_; rintro e w5⟨rfl,h5,U'⟩; have P5:=hid h5; obtain⟨g0,g1,g2⟩:=HMH.out _ _ U' K4.out; clear h5 U'))
     go_wp2_with fail
     go_roundw
     case rel =>
      exact nE
     case measure=>show m.gn-((k:Int)+1).toNat<m.gn-(k:Int).toNat; omega
    obtain rfl:k=m.gn:=ae;rw[ZY ae]at hP;obtain⟨⟨-,m1,m2,m3,m4,m5,m6,m7⟩,-⟩:=ax (hP.m_cells HB.out ox);have tg:=hid hP;clear hP;have dq:=hid (show(s3++m.globals.flatMap glL).length=s3.length+(m.globals.flatMap glL).length by rw[ZV]);generalize hse4:s3++m.globals.flatMap glL=s4 at *;have HE4:=hid hse4;clear hse4;have iS:=hid (dq.out.trans (congrArg (· + _) iS.out));clear dq;go_wp2_with fail;have HPd:=hid (tg.out.later ((ZT _ wr).drew));have AT:=hid (tg.out.m_cells HB.out ox);have HMK:=hid (fun(W:World) (hb:Below wr.drew.heap.size wr.drew W)=>(⟨HPd.out.later hb,ar hb AT.out,ag (ar hb AT.out),ag (ar hb AT.out)⟩:PS w0 W1 b s4 W/\W.heap[w.heap.size]? =some (.cells (mV m) 29)/\W.cell? (ZA w.heap.size 3)=some (ZI m.fi)/\W.cell? (ZA w.heap.size 4)=some (ZI m.mo)));have HMH:=hid (fun(W W':World)(hh:dR b W W') (hk:W.heap[w.heap.size]? =some (.cells (mV m) 29))=>(⟨(hh.cell hk au ox).trans (ag hk),(hh.cell hk au ox).trans (ag hk)⟩:W'.cell? (ZA w.heap.size 3)=some (ZI m.fi)/\W'.cell? (ZA w.heap.size 4)=some (ZI m.mo)));have HV3:=hid (fun(W:World) (hW:PS w0 W1 b s4 W)=>hW.itoa HTN.out m.fi rk.out.i0 (by have:=rk.out.i1; omega));have HV4:=hid (fun(W:World) (hW:PS w0 W1 b s4 W)=>hW.itoa HTN.out m.mo rk.out.o0 (by have:=rk.out.o1; omega))
    have sE:=hid (fun(W:World) (hW:PS w0 W1 b s4 W)=>hW.line2 [yL,bT m.fi,bT m.mo] 3 rfl (by
     have h2:=HLL.out; have h3:=iS.out;show s4.length+3+(qz m.fi m.mo).length<=_
     omega))
    generalize hfi:m.fi=fi at HMK HMH HV3 sE m3 ⊢;generalize hmo:m.mo=mo at HMK HMH HV4 sE m4 ⊢
    go_region_held3 (fun W=>W.cell? (ZA w.heap.size 3)=some (ZI fi)/\W.cell? (ZA w.heap.size 4)=some (ZI mo)) (go_keep)
     (first
     | (go_at_call 94; have hprev:=P3; refine(HV4.out _ P3.out).mono ?_; rintro e w4⟨rfl,-,hb4⟩; obtain⟨p4,k4,f0,f1⟩:=HMK.out _ (B3.out.trans (hb4.mono B3.out.size)); have P4:=hid p4; have K4:=hid k4; clear hb4 p4 k4)
     | (go_at_call 94; refine(HV3.out _ HPd.out).mono ?_; rintro e w3⟨rfl,-,hb3⟩; have B3:=hid hb3; obtain⟨p3,k3,f0,f1⟩:=HMK.out _ hb3; have P3:=hid p3; have K3:=hid k3; clear hb3 p3 k3)
     | (go_at_call 92; refine(sE.out _ P4.out).mono ?_; rintro e w5⟨rfl,h5,U'⟩; have P5:=hid h5; obtain⟨g0,g1⟩:=HMH.out _ _ U' K4.out; clear h5 U'))
    subst hfi hmo;have tg:=P5;clear P5;have dq:=hid (show(s4++qz m.fi m.mo).length=s4.length+(qz m.fi m.mo).length by rw[ZV])
    change Hid (PS w0 W1 b (s4++qz m.fi m.mo) _) at tg
    generalize hse5:s4++qz m.fi m.mo=s5 at *;have HE5:=hid hse5;clear hse5;have iS:=hid (dq.out.trans (congrArg (· + _) iS.out));clear dq;clear m1 m2 m3 m4 m5 m6 m7;obtain⟨⟨-,-,-,-,-,m5,-,-⟩,-⟩:=ax (tg.out.m_cells HB.out ox);go_wp2_with fail;clear m5
    go_loopw [82] (fun i W=>∃k:Nat,k<=m.fn/\i=ZI k/\PS w0 W1 b (s5++(m.fns.take k).flatMap fuL) W) (fun i _=>m.fn-(intOf i).toNat)
    case atStart=>exact⟨0,Z5 _,rfl,qZ⟩
    case round =>
     obtain⟨k,hk,rfl,hP⟩:=hrel;have hTl:=rk.out.pf.1;clear tg
     by_cases hlt:k<m.fn
     ·obtain⟨⟨yt,yl,⟨ya,yn,yc⟩,yx⟩,hy⟩:∃y,m.fns[k]? =some y:=⟨_,aD ae⟩
      obtain⟨bb,off,Up,hx⟩:∃bb off,m.fa=some (ZA bb off)/\(w0.cell? (ZA bb (off+k*3))=some (ZI yt)/\w0.cell? (ZA bb (off+k*3+1))=some (.string yl)/\w0.cell? (ZA bb (off+k*3+2))=some (.slice ya yn yc)):=by
       rcases rk.out.pf.2 with h | ⟨bb,off,h,h'⟩
       ·omega
       exact⟨bb,off,h,h' k _ hy⟩
      have k0:=hP.cell hx.1;have k1:=hP.cell hx.2.1;have k2:=hP.cell hx.2.2;have HY:=hid (And.intro (rk.out.fr k _ hy) (HCN.out k _ hy));have HTk:=hid (gZ hy);have j8:=hid (iG fuL m.fns k _ hy);have HP:=hid hP
      have pv:=hid (fun(W:World) (hW:PS w0 W1 b (s5++(m.fns.take k).flatMap fuL) W)=>hW.func HTN.out HKD.out yt yl ya yn yc yx ⟨HY.out.1.1.1,by have:=HY.out.1.1.2; (try dsimp only at this); omega⟩ HY.out.2.1 HY.out.1.2.1 (fun j y hj=>⟨⟨(HY.out.1.2.2.2 j y hj).1,(HY.out.1.2.2.2 j y hj).2.1⟩,HY.out.2.2 j y hj,(HY.out.1.2.2.2 j y hj).2.2.1⟩) (by
       have h1:=j8.out; have h2:=HLL.out; have h3:=iS.out;show(s5++(m.fns.take k).flatMap fuL).length+(fuL (yt,yl,(ya,yn,yc),yx)).length<=_;rw[ZV]
       omega))
      clear hx hy hP;rw[Up];go_wp2_with fail;refine(pv.out _ (HP.out.later (aj wr _))).mono ?_;rintro e w5⟨rfl,h5⟩;have P5:=hid h5;clear h5 pv;go_wp2_with fail
      go_roundw
      case rel =>
       exact nE
      case measure=>show m.fn-((k:Int)+1).toNat<m.fn-(k:Int).toNat; omega
     obtain rfl:k=m.fn:=ae;rw[ZY ae]at hP;obtain⟨⟨-,m1,m2,m3,m4,m5,m6,m7⟩,-⟩:=ax (hP.m_cells HB.out ox);have tg:=hid hP;clear hP;have dq:=hid (show(s5++m.fns.flatMap fuL).length=s5.length+(m.fns.flatMap fuL).length by rw[ZV]);generalize hse6:s5++m.fns.flatMap fuL=s6 at *;have HE6:=hid hse6;clear hse6;have iS:=hid (dq.out.trans (congrArg (· + _) iS.out));clear dq;go_wp2_with fail;clear m1 m2 m3 m4 m5 m6 m7
     go_loopw [93] (fun i W=>∃k:Nat,k<=m.dn/\i=ZI k/\PS w0 W1 b (s6++(m.data.take k).flatMap daL) W) (fun i _=>m.dn-(intOf i).toNat)
     case atStart=>exact⟨0,Z5 _,rfl,qZ⟩
     case round =>
      obtain⟨k,hk,rfl,hP⟩:=hrel;have hTl:=rk.out.pd.1;clear tg
      by_cases hlt:k<m.dn
      ·obtain⟨⟨yt,⟨ya,yn,yc⟩,yx⟩,hy⟩:∃y,m.data[k]? =some y:=⟨_,aD ae⟩
       obtain⟨bb,off,Up,hx⟩:∃bb off,m.da=some (ZA bb off)/\(w0.cell? (ZA bb (off+k*2))=some (ZI yt)/\w0.cell? (ZA bb (off+k*2+1))=some (.slice ya yn yc)):=by
        rcases rk.out.pd.2 with h | ⟨bb,off,h,h'⟩
        ·omega
        exact⟨bb,off,h,h' k _ hy⟩
       have k0:=hP.cell hx.1;have k1:=hP.cell hx.2;have HY:=hid (rk.out.dr k _ hy);have HTk:=hid (gZ hy);have j8:=hid (iG daL m.data k _ hy);have HP:=hid hP;have P9:=hid (HP.out.later (aj wr (bo yt ya yn yc)));have hblk:=hZn wr (bo yt ya yn yc);have d0:=iz0 hblk;have d1:=iz1 hblk
       have hbB:b<wr.heap.size:=by rcases HP.out.own with h | h <;> exact h.lt
       clear hx hy hP;rw[Up];go_wp2_with fail;generalize wr.alloc (bo yt ya yn yc)=wz at *;generalize wr.heap.size=X at *;have P9d:=hid (P9.out.later ((ZT _ wz).drew));have HMK:=hid (fun(W:World) (hb:Below wz.drew.heap.size wz.drew W)=>(⟨P9d.out.later hb,ar hb hblk,ai hb d0,ai hb d1⟩:PS w0 W1 b (s6++(m.data.take k).flatMap daL) W/\W.heap[X]? =some (bo yt ya yn yc)/\W.cell? (ZA X 0)=some (ZI yt)/\W.cell? (ZA X 1)=some (.slice ya yn yc)));have HMH:=hid (fun(W W':World)(hh:dR b W W') (hk:W.heap[X]? =some (bo yt ya yn yc))=>(⟨(hh.cell hk au ae).trans (ag hk),(hh.cell hk au ae).trans (ag hk)⟩:W'.cell? (ZA X 0)=some (ZI yt)/\W'.cell? (ZA X 1)=some (.slice ya yn yc)))
       have HV:=hid (fun(W:World) (hW:PS w0 W1 b (s6++(m.data.take k).flatMap daL) W)=>hW.itoa HTN.out yt HY.out.1.1 (by have:=HY.out.1.2; (try dsimp only at this); omega))
       have HO:=hid (fun(W:World) (hW:PS w0 W1 b (s6++(m.data.take k).flatMap daL) W)=>Me ya yn yc yx W (HY.out.2.1.later hW.low lRn))
       have sE:=hid (fun(W:World) (hW:PS w0 W1 b (s6++(m.data.take k).flatMap daL) W)=>hW.line2 [OJ,bT yt,⟨(tH yx).toArray⟩] 3 rfl (by
        have h1:=j8.out; have h2:=HLL.out; have h3:=iS.out;show(s6++(m.data.take k).flatMap daL).length+3+(daL (yt,(ya,yn,yc),yx)).length<=_;rw[ZV]
        omega))
       clear hblk
       go_region_held3 (fun W=>W.cell? (ZA X 0)=some (ZI yt)/\W.cell? (ZA X 1)=some (.slice ya yn yc)) (go_keep)
        (first
        | (go_at_call 94; refine(HV.out _ P9d.out).mono ?_; rintro e w3⟨rfl,-,hb3⟩; have B3:=hid hb3; obtain⟨p3,k3,f0,f1⟩:=HMK.out _ hb3; have P3:=hid p3; have K3:=hid k3; clear hb3 p3 k3)
        | (go_at_call 98; refine(HO.out _ P3.out).mono ?_; rintro e w4⟨rfl,hb4⟩; obtain⟨p4,k4,f0,f1⟩:=HMK.out _ (B3.out.trans (hb4.mono B3.out.size)); have P4:=hid p4; have K4:=hid k4; clear hb4 p4 k4)
        | (go_at_call 92; refine(sE.out _ P4.out).mono ?_; rintro e w5⟨rfl,h5,U'⟩; have P5:=hid h5; obtain⟨g0,g1⟩:=HMH.out _ _ U' K4.out; clear h5 U'))
       go_wp2_with fail
       go_roundw
       case rel =>
        exact nE
       case measure=>show m.dn-((k:Int)+1).toNat<m.dn-(k:Int).toNat; omega
      obtain rfl:k=m.dn:=ae;rw[ZY ae]at hP;obtain⟨⟨-,m1,m2,m3,m4,m5,m6,m7⟩,-⟩:=ax (hP.m_cells HB.out ox);have tg:=hid hP;clear hP;have dq:=hid (show(s6++m.data.flatMap daL).length=s6.length+(m.data.flatMap daL).length by rw[ZV]);generalize hse7:s6++m.data.flatMap daL=s7 at *;have HE7:=hid hse7;clear hse7;have iS:=hid (dq.out.trans (congrArg (· + _) iS.out));clear dq;go_wp2_with fail;clear m1 m2 m3 m4 m5 m6 m7
      go_loopw [110] (fun i W=>∃k:Nat,k<=m.en/\i=ZI k/\PS w0 W1 b (s7++(m.exps.take k).flatMap exL) W) (fun i _=>m.en-(intOf i).toNat)
      case atStart=>exact⟨0,Z5 _,rfl,qZ⟩
      case round =>
       obtain⟨k,hk,rfl,hP⟩:=hrel;have hTl:=rk.out.pe.1;clear tg
       by_cases hlt:k<m.en
       ·obtain⟨⟨yn,yf⟩,hy⟩:∃y,m.exps[k]? =some y:=⟨_,aD ae⟩
        obtain⟨bb,off,Up,hx⟩:∃bb off,m.ea=some (ZA bb off)/\(w0.cell? (ZA bb (off+k*2))=some (.string yn)/\w0.cell? (ZA bb (off+k*2+1))=some (ZI yf)):=by
         rcases rk.out.pe.2 with h | ⟨bb,off,h,h'⟩
         ·omega
         exact⟨bb,off,h,h' k _ hy⟩
        have k0:=hP.cell hx.1;have k1:=hP.cell hx.2;have HY:=hid (rk.out.er k _ hy);have HTk:=hid (gZ hy);have j8:=hid (iG exL m.exps k _ hy);have HP:=hid hP;have P9:=hid (HP.out.later (aj wr (bK yn yf)));have hblk:=hZn wr (bK yn yf);have d0:=iz0 hblk;have d1:=iz1 hblk
        have hbB:b<wr.heap.size:=by rcases HP.out.own with h | h <;> exact h.lt
        clear hx hy hP;rw[Up];go_wp2_with fail;generalize wr.alloc (bK yn yf)=wz at *;generalize wr.heap.size=X at *;have P9d:=hid (P9.out.later ((ZT _ wz).drew));have HMK:=hid (fun(W:World) (hb:Below wz.drew.heap.size wz.drew W)=>(⟨P9d.out.later hb,ar hb hblk,ai hb d0,ai hb d1⟩:PS w0 W1 b (s7++(m.exps.take k).flatMap exL) W/\W.heap[X]? =some (bK yn yf)/\W.cell? (ZA X 0)=some (.string yn)/\W.cell? (ZA X 1)=some (ZI yf)));have HMH:=hid (fun(W W':World)(hh:dR b W W') (hk:W.heap[X]? =some (bK yn yf))=>(⟨(hh.cell hk au ae).trans (ag hk),(hh.cell hk au ae).trans (ag hk)⟩:W'.cell? (ZA X 0)=some (.string yn)/\W'.cell? (ZA X 1)=some (ZI yf)))
        have HV:=hid (fun(W:World) (hW:PS w0 W1 b (s7++(m.exps.take k).flatMap exL) W)=>hW.itoa HTN.out yf HY.out.1 (by have:=HY.out.2; (try dsimp only at this); omega))
        have sE:=hid (fun(W:World) (hW:PS w0 W1 b (s7++(m.exps.take k).flatMap exL) W)=>hW.line2 [wo,yn,bT yf] 3 rfl (by
         have h1:=j8.out; have h2:=HLL.out; have h3:=iS.out;show(s7++(m.exps.take k).flatMap exL).length+3+(exL (yn,yf)).length<=_;rw[ZV]
         omega))
        clear hblk
        go_region_held3 (fun W=>W.cell? (ZA X 0)=some (.string yn)/\W.cell? (ZA X 1)=some (ZI yf)) (go_keep)
         (first
         | (go_at_call 94; refine(HV.out _ P9d.out).mono ?_; rintro e w4⟨rfl,-,hb4⟩; obtain⟨p4,k4,f0,f1⟩:=HMK.out _ hb4; have P4:=hid p4; have K4:=hid k4; clear hb4 p4 k4)
         | (go_at_call 92; refine(sE.out _ P4.out).mono ?_; rintro e w5⟨rfl,h5,U'⟩; have P5:=hid h5; obtain⟨g0,g1⟩:=HMH.out _ _ U' K4.out; clear h5 U'))
        go_wp2_with fail
        go_roundw
        case rel =>
         exact nE
        case measure=>show m.en-((k:Int)+1).toNat<m.en-(k:Int).toNat; omega
       obtain rfl:k=m.en:=ae;rw[ZY ae]at hP;obtain⟨⟨-,m1,m2,m3,m4,m5,m6,m7⟩,-⟩:=ax (hP.m_cells HB.out ox);have tg:=hid hP;clear hP;go_wp2_with fail;go_end0;have hfin:=tg.out;rw[<- HE7.out,<- HE6.out,<- HE5.out,<- HE4.out,<- HE3.out,<- HE2.out,<- HE1.out]at hfin;exact⟨rfl,hfin⟩
variable {ops:Array Oper}{o:Oper}{a:Act}{Q:Zan}
theorem A9(w:World){rest:List Oper}(hgd:o.guard=none)
  (s x:Operand) (ho:o.op=Op.call { callee:=Callee.builtin Builtin.append,args:=#[s,x],argTypes:=#[63,63] }) (base:Nat) (v:Value) (n:Nat) (xs:LIz)
  (hs:a.eval s=v) (hown:w.ownsRow base 5 1 v n (xs.map (ZU))) (ad:Addr) (z:Int) (hx:a.eval x=.slice (some ad) 1 1) (hu:w.cell? (ad.add 0)=some (ZU z)) (hb:n+1<=1099511627776) (hbase:base<=w.heap.size)
  (h:∀(v':Value)(w':World),w'.ownsRow base 5 1 v' (n+1) ((xs++[z]).map (ZU))->Below base w w'->wpList prog ops Q rest (a.put o.dst v') w') :
  wpList prog ops Q (o::rest) a w:=by
 obtain⟨i0,hi,hz0,hz1,hz2⟩:=Z0 Tryz.info5;refine wpList_append_own w hgd s x 63 ho base 5 i0 (ZU 0) 1 1 underlying63 hi hz0 hz1 hz2 rfl au v n _ hs hown ad 1 1 [ZU z] hx rfl ?_ ?_ aP ae hbase ?_
 ·intro j u hj
  match j,hj with
  | 0,hj=>simp at hj; subst hj; exact hu
  | j+1,hj=>simp at hj
 ·intro u hu; simp at hu; subst hu; rfl
 exact EU
theorem xt(v:Int)(w:World)(h0:0<=v)(h1:v<18446744073709551616) :
  Zw 244 #[.int .u64 v] w fun e w'=>∃y,e=.returned y/\w'.ownsRow w.heap.size 5 1 y (aw v).length ((aw v).map (ZU))/\Zx w w':=by
 go_enter func244,ntmps244;go_wp2_with fail
 go_loopw [0,3] (fun x l wr=>∃(k:Nat)(V:Int)(pre:LIz),k<=9/\x=.int .u64 V/\pre.length=k/\0<=V/\V<18446744073709551616/\V*128 ^ k<18446744073709551616/\aw v=pre++uv (9-k) V/\wr.ownsRow w.heap.size 5 1 l k (pre.map (ZU))/\Zx w wr) (fun x _ _=>(intOf x).toNat)
 case atStart=>exact⟨0,v,[],ae,rfl,rfl,h0,h1,mJ,rfl,Z7 _ _ _ _,ZT _ _⟩
 case round =>
  obtain⟨k,V,pre,hk,rfl,hpl,hV0,hV1,hroom,huv,hown,hb⟩:=hrel;obtain⟨HU,HP,HR,HO,HB⟩:=ZM huv hpl hroom hown hb;clear huv hpl hroom hown hb
  by_cases h128:128<=V
  ·have hk8:=room_end V k HR.out hk h128
   have HN:=hid (show aw v=(pre++[V%128+128])++uv (9-(k+1)) (V / 128) by
    rw[HU.out,show 9-k=9-(k+1)+1 by omega];have hn:¬V<128:=ae
    simp[uv,hn])
   go_wp2_with (first
    | (at_builtin; refine A9 _ rfl (.tmp 6) (.tmp 11) rfl w.heap.size _ k pre rfl (HO.out.alloc _) (ZA wr.heap.size 0) (V%128+128) rfl dh ae qu ?_; intro v' w2 hown2 hb2; have O2:=hid hown2; have B2:=hid ((HB.out.alloc HB.out.size _).trans hb2); clear hown2 hb2))
   exact⟨⟨k+1,V / 128,pre++[V%128+128],ae,rfl,by simp[HP.out],ae,ae,ED V k HR.out hV0,HN.out,O2.out,B2.out⟩,bD⟩
  have HF:=hid (show aw v=pre++[V] by
   rw[HU.out]
   cases h9:9-k with
   | zero=>rfl
   | succ f =>
    have hn:V<128:=ae
    simp[uv,hn])
  have HLn:=hid (show(aw v).length=k+1 by rw[HF.out]; simp[HP.out])
  go_wp2_with (first
   | (at_builtin; refine A9 _ rfl (.tmp 15) (.tmp 18) rfl w.heap.size _ k pre rfl (HO.out.alloc _) (ZA wr.heap.size 0) V rfl dh ae qu ?_; intro v' w2 hown2 hb2; have O2:=hid hown2; have B2:=hid ((HB.out.alloc HB.out.size _).trans hb2); clear hown2 hb2))
  go_ret;refine⟨v',rfl,?_,B2.out⟩;rw[HLn.out,HF.out];exact O2.out
theorem Pz(f:Nat):∀v,0<=v->v<128 ^ (f+1)->∀z∈uv f v,0<=z/\z<=255:=by
 induction f with
 | zero=>intro v h0 h1 z hz; simp[uv]at hz; simp at h1; omega
 | succ f ih =>
  intro v h0 h1 z hz
  by_cases h:v<128
  ·simp[uv,h]at hz; omega
  simp only[uv,h,if_false,List.mem_cons]at hz
  rcases hz with rfl | hz
  ·omega
  refine ih (v / 128) ae ?_ z hz;have hs:(128:Int) ^ (f+1+1)=128 ^ (f+1)*128:=Int.pow_succ _ _;rw[hs]at h1;omega
theorem gV(v:Int)(h0:0<=v)(h1:v<18446744073709551616):∀z∈aw v,0<=z/\z<=255:=by
 refine Pz 9 v h0 (Int.lt_trans h1 au)
theorem MK(v:Int)(w:World)(h0:-9223372036854775808<=v)(h1:v<9223372036854775808) :
  Zw 245 #[ZI v] w (ZG (.int .u64 (fo v)) w):=by
 by_cases h:v<0
 ·have HF:=hid (show 2*-(v+1)+1=fo v by unfold fo; rw[if_pos h]; omega)
  exact Fh
 have HF:=hid (show 2*v=fo v by unfold fo; rw[if_neg h]);exact Fh
theorem SY(v:Int)(w:World)(h0:-9223372036854775808<=v)(h1:v<9223372036854775808) :
  Zw 212 #[ZI v] w fun e w'=>∃y,e=.returned y/\w'.ownsRow w.heap.size 5 1 y (aw (fo v)).length ((aw (fo v)).map (ZU))/\Zx w w':=by
 have hr:=mN v h0 h1;have HA:=hid (MK v w h0 h1);have HB:=hid (xt (fo v) w hr.1 hr.2);clear hr;generalize fo v=u at *;generalize aw u=l at *;go_enter func212,ntmps212
 go_wp2_with fail;refine HA.out.mono ?_;rintro e w1⟨rfl,rfl⟩;go_wp2_with fail;refine HB.out.mono ?_;rintro e w2⟨y,rfl,hs,hb⟩;go_wp2;go_ret;exact⟨y,rfl,hs,hb⟩
section
variable {w w':World}{base n:Nat}{e:TypeId}{xs:Zah}
theorem bE{v:Value}(h:w.ownsRow base e 1 v n xs)(hb:Zx w w'):w'.ownsRow base e 1 v n xs:=by
 refine bZ h fun B hB=>hb.block B ?_
 rcases h.2 with ⟨rfl,_⟩ | ⟨g,cp,cur,rfl,hg,hh,_⟩
 ·simp[Value.ownBlock]at hB
 simp[Value.ownBlock]at hB; subst hB
 rcases Zae g w.heap.size with h | h
 ·exact h
 rw[Zaf h]at hh; cases hh
def pZ:List az->Int->az×Bool
 | [],_=>(kw,false)
 | x::r,c=>if c=x.1 then (x,true) else pZ r c
theorem np:∀(l:List az)(c:Int),jx l c=(rv (pZ l c).1,(pZ l c).2)
 | [],_=>rfl
 | x::r,c=>by
  unfold jx pZ
  by_cases h:c=x.1
  ·rw[if_pos h,if_pos h]; rfl
  rw[if_neg h,if_neg h]; exact np r c
theorem LR:((List.range 256).all fun(n:Nat)=>decide (ofV (n:Int)=pZ iE (n:Int)))=true:=kO
theorem Qj(c:Int)(h0:0<=c)(h1:c<=255):ofV c=pZ iE c:=by
 obtain⟨n,rfl⟩:=Int.eq_ofNat_of_zero_le h0;have:=List.all_eq_true.1 LR n (List.mem_range.2 ae);exact of_decide_eq_true this
theorem Hf(c:Int)(w:World)(h0:0<=c)(h1:c<=255):Zw 163 #[ZU c] w (ZC (.tuple #[.agg (rv (ofV c).1),.bool (ofV c).2]) w):=by
 refine(Xz c w).mono fun e w' h=>?_;obtain⟨he,hw⟩:=h;rw[np,<- Qj c h0 h1]at he hw;exact⟨he,by rw[hw]; exact(ZT _ _).alloc lRn _⟩
theorem GX(c:Int)(w:World)(h0:0<=c)(h1:c<=255):Zw 103 #[ZU c] w (ZC (.int .i8 (tkV c)) w):=by
 have hof:=Hf c w h0 h1;unfold tkV;generalize ofV c=V at *;obtain⟨⟨rc,wd,t,pp,ps,pl⟩,fnd⟩:=V;simp only[rv,dP]at hof ⊢;have HO:=hid hof;clear hof
 cases fnd
 ·exact He
 exact He
def J7(wd:BAz):Bool:=decide (wd=⟨#[108,46,99,111,110,115,116]⟩)
theorem rM(ps:BAz):(ps.toList==[108,46,99,111,110,115,116])=J7 ps:=by
 rw[ByteArray.toList_eq];unfold J7
 by_cases h:ps=⟨#[108,46,99,111,110,115,116]⟩
 ·simp[h]
 rw[decide_eq_false h,beq_eq_false_iff_ne];intro e;apply h
 cases ps with
 | mk d =>
  have e2:d.toList=(#[108,46,99,111,110,115,116]:Array UInt8).toList:=e;rw[Array.toList_inj.1 e2]
theorem VT:((List.range 256).all fun(n:Nat)=>decide ((ofV (n:Int)).1.2.2.1=8->J7 (ofV (n:Int)).1.2.1=fA (ofV (n:Int)).1.2.2.2.2.1))=true:=kO
theorem XZ(c:Int)(h0:0<=c)(h1:c<=255):(ofV c).1.2.2.1=8->J7 (ofV c).1.2.1=fA (ofV c).1.2.2.2.2.1:=by
 obtain⟨n,rfl⟩:=Int.eq_ofNat_of_zero_le h0;exact of_decide_eq_true (List.all_eq_true.1 VT n (List.mem_range.2 ae))
variable {t a:Int}{g:Bool}{l:LIz}
theorem uK(ht:t≠-1)(h1:¬a<lo t g)(h2:¬hi t g<a)(h3:t≠3):chk t g a l=if l.length=0 then 0 else 17:=by
 unfold chk; rw[if_neg ht,if_neg ae,if_neg h3]
theorem TG   : chk 3 g 0 l=if l.length<1\/16<l.length then 17 else if okL l then 0 else 17:=by
 unfold chk;have h1:lo 3 g=0:=rfl;have h2:hi 3 g=0:=rfl;rw[if_neg au,h1,h2,if_neg ae,if_pos rfl]
theorem nG(ht:t≠-1)(h:a<lo t g\/hi t g<a):chk t g a l=17:=by
 unfold chk; rw[if_neg ht,if_pos h]
theorem WZ(c a:Int)(la:OAz)(ln lc:Nat)(l:LIz)(w:World)(hl:gW w la ln lc l)(rc:Int)(wd pp ps:BAz)(pl:Bool)
  (hof:Zw 163 #[ZU c] (w.alloc (aH c a la ln lc)) fun e w'=>e=.returned (.tuple #[.agg #[ZU rc,.string wd,.int .i8 0,.string pp,.string ps,.bool pl],.bool true])/\Below (w.alloc (aH c a la ln lc)).heap.size (w.alloc (aH c a la ln lc)) w') :
  Zw 242 #[.agg #[ZU c,ZI a,.slice la ln lc]] w (ZC (ZI (chk 0 (fA ps) a l)) w):=by
 obtain⟨HO,HL⟩:=Zz hof hl;have hln:=hl.2.2.1;have hlen:=hl.1;have hb0:Zx w (w.alloc (aH c a la ln lc)):=(ZT _ _).alloc lRn _;clear hl hof;have hlo:lo 0 (fA ps)=0:=rfl;have hhi:hi 0 (fA ps)=0:=rfl;have HF:=hid (fun h=>nG (a:=a) (l:=l) (g:=(fA ps)) (t:=0) au h);rw[hlo,hhi]at HF;have HI:=hid (fun h1 h2=>uK (a:=a) (l:=l) (g:=(fA ps)) (t:=0) au h1 h2 au);rw[hlo,hhi,hlen]at HI;clear hlo hhi
 by_cases ha1:a<0
 ·have HV:=hid (HF.out (.inl ha1));exact OH
 by_cases ha2:0<a
 ·have HV:=hid (HF.out (.inr ha2));exact OH
 have HV:=hid (HI.out ha1 ha2);clear HI HF
 by_cases hz:ln=0
 ·have hz':((ln:Int) != 0)=false:=by simp[hz]
  have HZ:=hid hz;clear hz;go_enter func242,ntmps242
  go_wp2_with fail;refine HO.out.mono ?_;rintro e w1⟨rfl,hb1⟩;have x1:w1.cell? (ZA w.heap.size 1)=some (ZI a):=aY;have x2:w1.cell? (ZA w.heap.size 2)=some (.slice la ln lc):=aY;have hx:=ZQ x1
  simp only at hx;have B1:=hid (hb0.trans (hb1.mono av));have B2:=hid (B1.out.alloc fL (gH rc wd 0 pp ps pl));exact ww
 have hz':((ln:Int) != 0)=true:=aA;go_enter func242,ntmps242
 go_wp2_with fail;refine HO.out.mono ?_;rintro e w1⟨rfl,hb1⟩;have x1:w1.cell? (ZA w.heap.size 1)=some (ZI a):=aY;have x2:w1.cell? (ZA w.heap.size 2)=some (.slice la ln lc):=aY;have hx:=ZQ x1
 simp only at hx;have B1:=hid (hb0.trans (hb1.mono av));have B2:=hid (B1.out.alloc fL (gH rc wd 0 pp ps pl));exact xQ
theorem WV(c a:Int)(la:OAz)(ln lc:Nat)(l:LIz)(w:World)(hl:gW w la ln lc l)(rc:Int)(wd pp ps:BAz)(pl:Bool)
  (hof:Zw 163 #[ZU c] (w.alloc (aH c a la ln lc)) fun e w'=>e=.returned (.tuple #[.agg #[ZU rc,.string wd,.int .i8 9,.string pp,.string ps,.bool pl],.bool true])/\Below (w.alloc (aH c a la ln lc)).heap.size (w.alloc (aH c a la ln lc)) w') :
  Zw 242 #[.agg #[ZU c,ZI a,.slice la ln lc]] w (ZC (ZI (chk 9 (fA ps) a l)) w):=by
 obtain⟨HO,HL⟩:=Zz hof hl;have hln:=hl.2.2.1;have hlen:=hl.1;have hb0:Zx w (w.alloc (aH c a la ln lc)):=(ZT _ _).alloc lRn _;clear hl hof;have hlo:lo 9 (fA ps)=0:=rfl;have hhi:hi 9 (fA ps)=4294967295:=rfl;have HF:=hid (fun h=>nG (a:=a) (l:=l) (g:=(fA ps)) (t:=9) au h);rw[hlo,hhi]at HF;have HI:=hid (fun h1 h2=>uK (a:=a) (l:=l) (g:=(fA ps)) (t:=9) au h1 h2 au);rw[hlo,hhi,hlen]at HI;clear hlo hhi
 by_cases ha1:a<0
 ·have HV:=hid (HF.out (.inl ha1));exact N9
 by_cases ha2:4294967295<a
 ·have HV:=hid (HF.out (.inr ha2));exact N9
 have HV:=hid (HI.out ha1 ha2);clear HI HF
 by_cases hz:ln=0
 ·have hz':((ln:Int) != 0)=false:=by simp[hz]
  have HZ:=hid hz;clear hz;go_enter func242,ntmps242
  go_wp2_with fail;refine HO.out.mono ?_;rintro e w1⟨rfl,hb1⟩;have x1:w1.cell? (ZA w.heap.size 1)=some (ZI a):=aY;have x2:w1.cell? (ZA w.heap.size 2)=some (.slice la ln lc):=aY;have hx:=ZQ x1
  simp only at hx;have B1:=hid (hb0.trans (hb1.mono av));have B2:=hid (B1.out.alloc fL (gH rc wd 9 pp ps pl));exact ww
 have hz':((ln:Int) != 0)=true:=aA;go_enter func242,ntmps242
 go_wp2_with fail;refine HO.out.mono ?_;rintro e w1⟨rfl,hb1⟩;have x1:w1.cell? (ZA w.heap.size 1)=some (ZI a):=aY;have x2:w1.cell? (ZA w.heap.size 2)=some (.slice la ln lc):=aY;have hx:=ZQ x1
 simp only at hx;have B1:=hid (hb0.trans (hb1.mono av));have B2:=hid (B1.out.alloc fL (gH rc wd 9 pp ps pl));exact xQ
theorem Rq(c a:Int)(la:OAz)(ln lc:Nat)(l:LIz)(w:World)(hl:gW w la ln lc l)(rc:Int)(wd pp ps:BAz)(pl:Bool)
  (hof:Zw 163 #[ZU c] (w.alloc (aH c a la ln lc)) fun e w'=>e=.returned (.tuple #[.agg #[ZU rc,.string wd,.int .i8 8,.string pp,.string ps,.bool pl],.bool true])/\Below (w.alloc (aH c a la ln lc)).heap.size (w.alloc (aH c a la ln lc)) w') (hg:J7 wd=false) :
  Zw 242 #[.agg #[ZU c,ZI a,.slice la ln lc]] w (ZC (ZI (chk 8 false a l)) w):=by
 obtain⟨HO,HL⟩:=Zz hof hl;have hln:=hl.2.2.1;have hlen:=hl.1;have hb0:Zx w (w.alloc (aH c a la ln lc)):=(ZT _ _).alloc lRn _;clear hl hof;have hlc:=rM wd;rw[hg]at hlc;have hlo:lo 8 false=-2147483648:=rfl;have hhi:hi 8 false=2147483647:=rfl;have HF:=hid (fun h=>nG (a:=a) (l:=l) (g:=false) (t:=8) au h);rw[hlo,hhi]at HF;have HI:=hid (fun h1 h2=>uK (a:=a) (l:=l) (g:=false) (t:=8) au h1 h2 au);rw[hlo,hhi,hlen]at HI;clear hlo hhi
 by_cases ha1:a < -2147483648
 ·exact MJ
 by_cases ha2:2147483647<a
 ·exact PV
 exact Pw
theorem SQ(c a:Int)(la:OAz)(ln lc:Nat)(l:LIz)(w:World)(hl:gW w la ln lc l)(rc:Int)(wd pp ps:BAz)(pl:Bool)
  (hof:Zw 163 #[ZU c] (w.alloc (aH c a la ln lc)) fun e w'=>e=.returned (.tuple #[.agg #[ZU rc,.string wd,.int .i8 8,.string pp,.string ps,.bool pl],.bool true])/\Below (w.alloc (aH c a la ln lc)).heap.size (w.alloc (aH c a la ln lc)) w') (hg:J7 wd=true) :
  Zw 242 #[.agg #[ZU c,ZI a,.slice la ln lc]] w (ZC (ZI (chk 8 true a l)) w):=by
 obtain⟨HO,HL⟩:=Zz hof hl;have hln:=hl.2.2.1;have hlen:=hl.1;have hb0:Zx w (w.alloc (aH c a la ln lc)):=(ZT _ _).alloc lRn _;clear hl hof;have hlc:=rM wd;rw[hg]at hlc;have hlo:lo 8 true=-9223372036854775808:=rfl;have hhi:hi 8 true=9223372036854775807:=rfl;have HF:=hid (fun h=>nG (a:=a) (l:=l) (g:=true) (t:=8) au h);rw[hlo,hhi]at HF;have HI:=hid (fun h1 h2=>uK (a:=a) (l:=l) (g:=true) (t:=8) au h1 h2 au);rw[hlo,hhi,hlen]at HI;clear hlo hhi
 by_cases ha1:a < -9223372036854775808
 ·exact MJ
 by_cases ha2:9223372036854775807<a
 ·exact PV
 exact Pw
theorem VJ(c a:Int)(la:OAz)(ln lc:Nat)(l:LIz)(w:World)(hl:gW w la ln lc l)(rc t:Int)(wd pp ps:BAz)(pl:Bool)
  (hof:Zw 163 #[ZU c] (w.alloc (aH c a la ln lc)) fun e w'=>e=.returned (.tuple #[.agg #[ZU rc,.string wd,.int .i8 t,.string pp,.string ps,.bool pl],.bool true])/\Below (w.alloc (aH c a la ln lc)).heap.size (w.alloc (aH c a la ln lc)) w') (ht:t≠-1) (t0:t≠0) (t3:t≠3) (t8:t≠8) (t9:t≠9) :
  Zw 242 #[.agg #[ZU c,ZI a,.slice la ln lc]] w (ZC (ZI (chk t (fA ps) a l)) w):=by
 obtain⟨HO,HL⟩:=Zz hof hl;have hln:=hl.2.2.1;have hlen:=hl.1;have hb0:Zx w (w.alloc (aH c a la ln lc)):=(ZT _ _).alloc lRn _;clear hl hof
 have e0:(t==0)=false:=by simp[t0]
 have e3:(t==3)=false:=by simp[t3]
 have e8:(t==8)=false:=by simp[t8]
 have e9:(t==9)=false:=by simp[t9]
 have hlo:lo t (fA ps)=0:=by unfold lo; rw[if_neg t8]
 have hhi:hi t (fA ps)=2147483647:=by unfold hi; rw[if_neg ae,if_neg t9,if_neg t8]
 have HF:=hid (fun h=>nG (a:=a) (l:=l) (g:=(fA ps)) ht h);rw[hlo,hhi]at HF;have HI:=hid (fun h1 h2=>uK (a:=a) (l:=l) (g:=(fA ps)) ht h1 h2 t3);rw[hlo,hhi,hlen]at HI;clear hlo hhi
 by_cases ha1:a<0
 ·have HV:=hid (HF.out (.inl ha1));exact Nt
 by_cases ha2:2147483647<a
 ·have HV:=hid (HF.out (.inr ha2));exact Nt
 have HV:=hid (HI.out ha1 ha2);clear HI HF
 by_cases hz:ln=0
 ·have hz':((ln:Int) != 0)=false:=by simp[hz]
  have HZ:=hid hz;clear hz;go_enter func242,ntmps242
  go_wp2_with fail;refine HO.out.mono ?_;rintro e w1⟨rfl,hb1⟩;have x1:w1.cell? (ZA w.heap.size 1)=some (ZI a):=aY;have x2:w1.cell? (ZA w.heap.size 2)=some (.slice la ln lc):=aY;have hx:=ZQ x1
  simp only at hx;have B1:=hid (hb0.trans (hb1.mono av));have B2:=hid (B1.out.alloc fL (gH rc wd t pp ps pl));exact ww
 have hz':((ln:Int) != 0)=true:=aA;go_enter func242,ntmps242
 go_wp2_with fail;refine HO.out.mono ?_;rintro e w1⟨rfl,hb1⟩;have x1:w1.cell? (ZA w.heap.size 1)=some (ZI a):=aY;have x2:w1.cell? (ZA w.heap.size 2)=some (.slice la ln lc):=aY;have hx:=ZQ x1
 simp only at hx;have B1:=hid (hb0.trans (hb1.mono av));have B2:=hid (B1.out.alloc fL (gH rc wd t pp ps pl));exact xQ
theorem Xb(c a:Int)(la:OAz)(ln lc:Nat)(l:LIz)(w:World)(hl:gW w la ln lc l)(rc:Int)(wd pp ps:BAz)(pl:Bool)
  (hof:Zw 163 #[ZU c] (w.alloc (aH c a la ln lc)) fun e w'=>e=.returned (.tuple #[.agg #[ZU rc,.string wd,.int .i8 3,.string pp,.string ps,.bool pl],.bool true])/\Below (w.alloc (aH c a la ln lc)).heap.size (w.alloc (aH c a la ln lc)) w') :
  Zw 242 #[.agg #[ZU c,ZI a,.slice la ln lc]] w (ZC (ZI (chk 3 (fA ps) a l)) w):=by
 obtain⟨HO,HL⟩:=Zz hof hl;have hln:=hl.2.2.1;have hlen:=hl.1;have hb0:Zx w (w.alloc (aH c a la ln lc)):=(ZT _ _).alloc lRn _;clear hl hof;have hlo:lo 3 (fA ps)=0:=rfl;have hhi:hi 3 (fA ps)=0:=rfl;have HF:=hid (fun h=>nG (a:=a) (l:=l) (g:=(fA ps)) (t:=3) au h);rw[hlo,hhi]at HF;clear hlo hhi
 by_cases ha1:a<0
 ·have HV:=hid (HF.out (.inl ha1));exact Mx
 by_cases ha2:0<a
 ·have HV:=hid (HF.out (.inr ha2));exact Mx
 obtain rfl:a=0:=ae;have HV:=hid (TG (g:=fA ps) (l:=l));rw[hlen]at HV;clear HF
 by_cases mm:(ln:Int)<1
 ·have HV2:=hid (HV.out.trans (if_pos (.inl ae)));exact NG
 by_cases hl2:(16:Int)<(ln:Int)
 ·have HV2:=hid (HV.out.trans (if_pos (.inr ae)));exact NG
 have HV2:=hid (HV.out.trans (if_neg ae));clear HV;go_enter func242,ntmps242
 go_wp2_with fail;refine HO.out.mono ?_;rintro e w1⟨rfl,hb1⟩;have x1:w1.cell? (ZA w.heap.size 1)=some (ZI 0):=aY;have x2:w1.cell? (ZA w.heap.size 2)=some (.slice la ln lc):=aY;have hx:=ZQ x1
 simp only at hx;have B1:=hid (hb0.trans (hb1.mono av));have B2:=hid (B1.out.alloc fL (gH rc wd 3 pp ps pl));clear hb1;go_wp2_with fail
 have y2:(w1.alloc (gH rc wd 3 pp ps pl)).cell? (ZA w.heap.size 2)=some (.slice la ln lc):=by rw[World.cell?_alloc_past _ _ _ hx]; exact x2
 obtain⟨W,hW⟩:∃W,w1.alloc (gH rc wd 3 pp ps pl)=W:=⟨_,rfl⟩;rw[hW]at B2 y2 ⊢;clear hW x1 x2 B1
 go_loop [7] (fun i=>∃k:Nat,k<=ln/\i=ZI k/\(okL l↔okL (l.drop k))) (fun i=>ln-(intOf i).toNat)
 case atStart=>exact⟨0,Z5 _,rfl,av⟩
 case round =>
  obtain⟨k,hk,rfl,hok⟩:=hrel;have HK:=hid hok;clear hok
  by_cases hlt:k<ln
  ·rcases HL.out.2.2.2.2 with hz | ⟨b,off,rfl,hc⟩
   ·omega
   have hcell:W.cell? (ZA b (off+k))=some (ZI (l.getD k 0)):=(B2.out.cell (p:=(ZA b (off+k))) (ZQ (hc k hlt))).trans (hc k hlt);have hd:=AH l k ae;generalize l.getD k 0=z at *;have HD:=hid hd;clear hd hc
   by_cases hz1:z<0
   ·exact Gt
   by_cases hz2:2147483647<z
   ·exact Gt
   go_wp2_with fail;exact⟨⟨k+1,ae,bu,by rw[HK.out,HD.out]; exact⟨fun h=>h.2,fun h=>⟨ae,h⟩⟩⟩,bD⟩
  go_wp2_with fail;go_ret
  exact⟨by rw[HV2.out,if_pos GV]; rfl,B2.out⟩
theorem Bn(c a:Int)(la:OAz)(ln lc:Nat)(l:LIz)(w:World)(h0:0<=c)(h1:c<=255)(hl:gW w la ln lc l) :
  Zw 242 #[jW c a (.slice la ln lc)] w (ZC (ZI (chk (tkV c) (lgV c) a l)) w):=by
 have hof:=Hf c (w.alloc (aH c a la ln lc)) h0 h1;have hne:=UL c h0 h1;have hlc:=XZ c h0 h1;unfold tkV lgV jW;generalize ofV c=V at *;obtain⟨⟨rc,wd,t,pp,ps,pl⟩,fnd⟩:=V;simp only[rv,dP]at hof hne hlc ⊢
 cases fnd
 ·have HO:=hid hof;have hb0:Zx w (w.alloc (aH c a la ln lc)):=(ZT _ _).alloc lRn _;clear hof hl
  go_enter func242,ntmps242
  go_wp2_with fail;refine HO.out.mono ?_;rintro e w1⟨rfl,hb1⟩;go_wp2;go_ret;refine⟨?_,(hb0.trans (hb1.mono av)).alloc uH _⟩
  rw[Cg]; rfl
 simp only[if_true]
 by_cases t0:t=0
 ·subst t0; exact WZ c a la ln lc l w hl rc wd pp ps pl hof
 by_cases t3:t=3
 ·subst t3; exact Xb c a la ln lc l w hl rc wd pp ps pl hof
 by_cases t9:t=9
 ·subst t9; exact WV c a la ln lc l w hl rc wd pp ps pl hof
 by_cases t8:t=8
 ·subst t8;have hg:=hlc rfl
  cases hb:fA ps
  ·exact Rq c a la ln lc l w hl rc wd pp ps pl hof (hg.trans hb)
  exact SQ c a la ln lc l w hl rc wd pp ps pl hof (hg.trans hb)
 exact VJ c a la ln lc l w hl rc t wd pp ps pl hof hne t0 t3 t8 t9
theorem ug(v:Int)(w:World)(h0:0<=v)(h1:v<18446744073709551616) :
  Zw 244 #[.int .u64 v] w fun e w'=>∃a c,e=.returned (.slice a (aw v).length c)/\Seg w' a (aw v).length c (aw v)/\(a=none->c=0)/\Zx w w' :=
 (xt v w h0 h1).mono fun e w' ⟨y,he,ho,hb⟩=>by
  obtain⟨a,c,rfl,hs,hn⟩:=lM ho (by have:=ay v; omega) (gV v h0 h1);exact⟨a,c,he,hs,hn,hb⟩
theorem L4(v:Int)(w:World)(h0:-9223372036854775808<=v)(h1:v<9223372036854775808) :
  Zw 212 #[ZI v] w fun e w'=>∃a c,e=.returned (.slice a (aw (fo v)).length c)/\Seg w' a (aw (fo v)).length c (aw (fo v))/\(a=none->c=0)/\Zx w w' :=
 (SY v w h0 h1).mono fun e w' ⟨y,he,ho,hb⟩=>by
  have hr:=mN v h0 h1;obtain⟨a,c,rfl,hs,hn⟩:=lM ho (by have:=ay (fo v); omega) (gV (fo v) hr.1 hr.2);exact⟨a,c,he,hs,hn,hb⟩
theorem J9(c a:Int)(la:OAz)(ln lc:Nat)(l:LIz)(w:World)(h0:0<=c)(h1:c<=255)(hl:gW w la ln lc l)(hx:chk (tkV c) (lgV c) a l=0) :
  Zw 213 #[jW c a (.slice la ln lc)] w fun e w'=>∃v,e=.returned (.tuple #[v,ZI 0])/\w'.ownsRow w.heap.size 5 1 v (lS c a l).length ((lS c a l).map (ZU))/\Zx w w':=by
 have hb0:Zx w (w.alloc (aH c a la ln lc)):=(ZT _ _).alloc lRn _;have If:=Bn c a la ln lc l _ h0 h1 (hl.later hb0 lRn);rw[hx]at If;have HC:=hid If;obtain⟨k1,k2,k3,k4,k5⟩:=qB hx;have lr:=qg (tkV c) (lgV c);have hr:=p8 (tkV c) (lgV c);have HTk:=hid (fun W=>GX c W h0 h1);unfold lS Bz;generalize lgV c=g at *;generalize tkV c=t at *;clear hx If;have HL:=hid hl;have hln:=hl.2.2.1;have hlen:=hl.1;clear hl;unfold jW at *;obtain⟨E,hE⟩:∃E,c::(if t=0 then [] else if t=8 then aw (fo a) else if t=3 then aw l.length++eX l else aw a)=E:=⟨_,rfl⟩;rw[hE];have HE:=hid hE;clear hE;go_enter func213,ntmps213
 go_wp2_with fail;refine HC.out.mono ?_;rintro e w1⟨rfl,hb1⟩;have x0:w1.cell? (ZA w.heap.size 0)=some (ZU c):=aY;have x1:w1.cell? (ZA w.heap.size 1)=some (ZI a):=aY;have x2:w1.cell? (ZA w.heap.size 2)=some (.slice la ln lc):=aY;have hx:=ZQ x0
 simp only at hx;have B1:=hid (hb0.trans (hb1.mono av));clear hb1 HC hb0;have b2:Zx w1 (w1.alloc (eK c)):=(ZT _ _).alloc lRn _;have O2:=hid (Ez w1 c w1.heap.size lRn);go_wp2_with fail;refine(HTk.out _).mono ?_;rintro e w3⟨rfl,hb3⟩;have b3:=ct b2 hb3;have u1:w3.cell? (ZA w.heap.size 1)=some (ZI a):=(b3.cell (by exact hx)).trans x1;have u2:w3.cell? (ZA w.heap.size 2)=some (.slice la ln lc):=(b3.cell (by exact hx)).trans x2;have O3:=hid (bE O2.out hb3);have B3:=hid b3
 have hw13:w1.heap.size<w3.heap.size:=by have:=hb3.size; simp at this; omega
 clear hb3 b2 b3 x0 x1 x2 HTk O2
 by_cases t0:t=0
 ·subst t0;go_wp2_with fail;go_ret2;refine⟨_,rfl,?_,ct B1.out B3.out⟩
  have we:E=[c]:=by rw[<- HE.out]; simp
  rw[we];exact jO O3.out B1.out.size
 have e0:(t==0)=false:=by simp[t0]
 by_cases t8:t=8
 ·subst t8
  have SV:=hid (fun W=>L4 a W ae ae);have i3:=ay (fo a);have HE2:=hid (show E=[c]++aw (fo a) by rw[<- HE.out]; simp);clear HE HL;generalize aw (fo a)=U at *;go_wp2_with fail;refine(SV.out _).mono ?_;rintro e w4⟨ua,uc,rfl,hs4,be,hb4⟩;obtain⟨S4,N4⟩:=Zz hs4 be;have B4:=hid (ct B3.out hb4);have O4:=hid (bE O3.out hb4);clear hs4 hb4 SV be
  go_wp2_with (at_builtin; (refine kz _ rfl (.tmp 28) (.tmp 31) rfl w1.heap.size _ 1 [c] rfl O4.out _ _ _ U rfl S4.out N4.out ae B4.out.size ?_; intro v5 w5 As AI; have O5:=hid As; have B5:=hid (B4.out.trans AI); clear As AI))
  exact Iz
 have e8:(t==8)=false:=by simp[t8]
 have hh:=hr.2.2 t8
 by_cases t3:t=3
 ·subst t3;obtain⟨q1,q2,q3⟩:=k4 rfl
  have UV:=hid (fun W=>ug (ln:Int) W ae ae);have i3:=ay (ln:Int);have HE2:=hid (show E=([c]++aw (ln:Int))++eX l by rw[<- HE.out]; simp[hlen]);have hw:=dJ (ln:Int) ae ae;clear HE;generalize aw (ln:Int)=U at *;go_wp2_with fail;refine(UV.out _).mono ?_;rintro e w4⟨ua,uc,rfl,hs4,be,hb4⟩;obtain⟨S4,N4⟩:=Zz hs4 be;have B4:=hid (ct B3.out hb4);have O4:=hid (bE O3.out hb4);have v2:w4.cell? (ZA w.heap.size 2)=some (.slice la ln lc):=(hb4.cell (by exact(show w.heap.size<w3.heap.size by omega))).trans u2;clear hs4 hb4 UV be
  go_wp2_with (at_builtin; (refine kz _ rfl (.tmp 35) (.tmp 40) rfl w1.heap.size _ 1 [c] rfl O4.out _ _ _ U rfl S4.out N4.out ae B4.out.size ?_; intro v5 w5 As AI; have O5:=hid As; have B5:=hid (B4.out.trans AI); have V2:=hid ((AI.cell (p:=(ZA w.heap.size 2)) hx).trans v2); clear As AI))
  have HQ:=hid q3
  have O5':=hid (show w5.ownsRow w1.heap.size 5 1 v5 (([c]++U)++eX (l.take 0)).length ((([c]++U)++eX (l.take 0)).map (ZU)) by
   have h:=O5.out;rw[show 1+U.length=(([c]++U)++eX (l.take 0)).length by simp[eX]; omega]at h
   simpa[eX] using h)
  have hU:([c]++U).length<=11:=aA;generalize [c]++U=C at *;clear O5 O4 S4 u1 u2 v2
  go_loopw [5,6] (fun v i wr=>∃k:Nat,k<=ln/\i=ZI k/\wr.ownsRow w1.heap.size 5 1 v (C++eX (l.take k)).length ((C++eX (l.take k)).map (ZU))/\Zx w1 wr/\wr.cell? (ZA w.heap.size 2)=some (.slice la ln lc)) (fun _ i _=>ln-(intOf i).toNat)
  case atStart=>exact⟨0,Z5 _,rfl,O5'.out,B5.out,V2.out⟩
  case round =>
   obtain⟨k,hk,rfl,hown,hb,hv2⟩:=hrel;obtain⟨OW,BR⟩:=Zz hown hb;clear hown hb O5' B5 V2
   by_cases hlt:k<ln
   ·have V':=(wX l).1 HQ.out
    rcases HL.out.2.2.2.2 with hz | ⟨b,off,rfl,hc⟩
    ·omega
    have hcell:wr.cell? (ZA b (off+k))=some (ZI (l.getD k 0)):=((ct B1.out BR.out).cell (p:=(ZA b (off+k))) (ZQ (hc k hlt))).trans (hc k hlt)
    have hz:0<=l.getD k 0/\l.getD k 0<=2147483647:=by
     exact FE
    have HT:=hid (vK l k ae);have hlab:=pQ (l.take k);have FG:(l.take k).length<=16:=aA;have hlen2:(C++eX (l.take k)).length<=171:=gw;generalize l.getD k 0=z at *;have UV:=hid (fun W=>ug z W ae ae);have hul2:=ay z;have hw2:=dJ z ae ae;clear hc V' hlab;generalize aw z=Z at *;go_wp2_with fail;refine(UV.out _).mono ?_;rintro e w6⟨ua6,uc6,rfl,vu,hn6,LE⟩;obtain⟨S6,N6⟩:=Zz vu hn6;have B6:=hid (ct BR.out LE);have O6:=hid (bE OW.out LE);have hwr:w.heap.size<wr.heap.size:=ZQ hv2;have V6:=hid ((LE.cell (p:=(ZA w.heap.size 2)) hwr).trans hv2);clear vu LE UV hn6
    go_wp2_with (at_builtin; (refine kz _ rfl (.tmp 49) (.tmp 56) rfl w1.heap.size _ _ (C++eX (l.take k)) rfl O6.out _ _ _ Z rfl S6.out N6.out ae B6.out.size ?_; intro v7 w7 vy MY; have O7:=hid vy; have B7:=hid (B6.out.trans MY); have V7:=hid ((MY.cell (p:=(ZA w.heap.size 2)) hx).trans V6.out); clear vy MY))
    refine⟨⟨k+1,ae,bu,?_,B7.out,V7.out⟩,bD⟩;exact GN
   go_wp2_with fail;go_ret2;refine⟨_,rfl,?_,ct B1.out BR.out⟩;have h:=jO OW.out B1.out.size;rw[ZY ae]at h;rw[HE2.out];exact h
 have e3:(t==3)=false:=by simp[t3]
 have UV:=hid (fun W=>ug a W ae ae);have i3:=ay a;have HE2:=hid (show E=[c]++aw a by rw[<- HE.out,if_neg t0,if_neg t8,if_neg t3]; rfl);have ha0:0<=a:=ae;have ha1:a<=4294967295:=ae;clear HE HL;generalize aw a=U at *;go_wp2_with fail;refine(UV.out _).mono ?_;rintro e w4⟨ua,uc,rfl,hs4,be,hb4⟩;obtain⟨S4,N4⟩:=Zz hs4 be;have B4:=hid (ct B3.out hb4);have O4:=hid (bE O3.out hb4);clear hs4 hb4 UV be
 go_wp2_with (at_builtin; (refine kz _ rfl (.tmp 18) (.tmp 22) rfl w1.heap.size _ 1 [c] rfl O4.out _ _ _ U rfl S4.out N4.out ae B4.out.size ?_; intro v5 w5 As AI; have O5:=hid As; have B5:=hid (B4.out.trans AI); clear As AI))
 exact Iz
theorem below_setCells{B b:Nat}{w:World}(hB:B<=b):∀(vs:Zah)(o:Nat)(w1:World),Below B w w1->Below B w (w1.setCells b o vs)
 | [],_,_,h=>h
 | v::r,o,w1,h=>below_setCells hB r (o+1) _ (h.setCell (by simpa using hB) v)
theorem pU(s:BAz):byteCells s=(bh s).map (ZU):=by
 unfold byteCells bh;rw[List.map_map];rfl
theorem Sv(w:World)(base g n cap:Nat)(l:LIz)(s:BAz)(hown:w.ownsRow base 5 1 (ZL g n cap) n (l.map (ZU)))(hbase:base<=w.heap.size)
  (hr:∀z∈l,0<=z/\z<=255) (hn:n<=1000) (hs:s.size<=2000000) :
  ∃a c W,(∀ty,(Builtin.append_ #[63,9] ty #[ZL g n cap,.string s]).run prog w=.ok (.slice a (n+s.size) c) W)/\Seg W a (n+s.size) c (l++bh s)/\Below base w W:=by
 obtain⟨i0,hi,hz0,hz1,hz2⟩:=Z0 Tryz.info5
 have hll:l.length=n:=by have:=hown.1; simpa using this
 have hsrc:=Src.ofString (P:=prog) w (tx:=9) underlying9 s
 have qak:Src prog i0.size 9 (.string s) s.size (byteCells s) w:=by rw[hz1]; exact hsrc
 have hbl:=byteCells_length s
 have hlen:(l++bh s).length=n+s.size:=by rw[ZV,gm,hll]
 have hrr:∀z∈l++bh s,0<=z/\z<=255:=by
  intro z hz
  rcases List.mem_append.1 hz with hz | hz
  ·exact hr z hz
  exact mX s z hz
 obtain⟨hbg,cur,hh,hnc,hcm,hcs⟩:base<=g/\∃cur,w.heap[g]? =some (.cells cur 5)/\n<=cap/\cap<=maxLen/\cur.size=cap:=by
  rcases hown.2 with ⟨h,_⟩ | ⟨g',cp,cur,h1,h2,h3,h4,h5,h6,_⟩
  ·cases h
  simp at h1;obtain⟨rfl,rfl⟩:=h1;exact⟨h2,cur,h3,h4,h5,by simpa using h6⟩
 by_cases hroom:n+s.size<=cap
 ·have hsome:∀j,j<(byteCells s).length->(w.cell? (ZA g (n+j))).isSome=true:=by
   intro j hj;rw[cell_of_row w g (n+j) cur 5 (0,0) hh,Array.getElem?_eq_getElem ae]; rfl
  have hrun:=fun ty=>run_append_room_src w 63 9 ty 5 i0 underlying63 hi g 0 n cap (.string s) s.size (byteCells s) qak hroom
   (by intro j hj; rw[hz1,Nat.zero_add,Nat.mul_one]; exact hsome j hj)
   (by intro j hj; rw[hz1,Nat.zero_add,Nat.mul_one]; exact World.ownsRow.frozenAt hown (n+j))
  simp only[hz1,Nat.zero_add,Nat.mul_one]at hrun;refine⟨_,_,_,hrun,⟨hlen,hroom,ae,hrr,.inr ⟨g,0,rfl,fun j hj=>?_⟩⟩,below_setCells hbg _ _ _ (ZT _ _)⟩;rw[Nat.zero_add]
  by_cases hjn:j<n
  ·rw[World.cell?_setCells_out g (byteCells s) n w (ZA g j) (fun _ _=>.inl hjn),World.ownsRow.cellAt hown j ae]
   have h1:j<l.length:=ae;simp[Zaa h1,h1]
  have h1:=World.cell?_setCells_in g (byteCells s) n w hsome (j-n) ae;rw[show n+(j-n)=j by omega]at h1;rw[h1]
  have h2:j-n<(bh s).length:=by rw[gm]; omega
  have h3:(byteCells s)[j-n]'(ae)=ZU ((bh s)[j-n]'h2):=by
   simp only[pU,List.getElem_map]
  have h4:(l++bh s).getD j 0=(bh s)[j-n]'h2:=by
   rw[Z3,Zag ae,hll,aD h2,Option.getD_some]
  rw[h3,h4]
 have hold:(Builtin.firstCells i0.size n (ZL g n cap)).run prog w.drew=.ok (l.map (ZU)).toArray w.drew:=by
  refine run_firstCells_some w.drew i0.size n (ZA g 0) n cap _ (by rw[hz1]; simpa using hll) ?_;intro j v hj;have hplain:((ZA g 0):Addr).add j=(ZA g j):=iI
  have hj':j<(l.map (ZU)).length:=by
   rcases Zae j (l.map (ZU)).length with h | h
   ·exact h
   rw[List.getElem?_eq_none h]at hj; cases hj
  have:w.cell? (ZA g j)=some v:=(World.ownsRow.cellAt hown j (by simp at hj'; omega)).trans hj;rw[hplain];exact this
 have hfit:Builtin.nextslicecap (n+s.size) cap*i0.bytes<=281474976710656:=by
  have:=nextslicecap_le (need:=n+s.size) (old:=cap) ae;rw[hz2]; omega
 have hrun:=fun ty=>run_append_grow_src w 63 9 ty 5 i0 (ZU 0) underlying63 hi hz0 (some (ZA g 0)) n cap _ hold (.string s) s.size (byteCells s) qak ae ae hfit;refine⟨_,_,_,hrun,⟨hlen,grownCap_ge _ _ _ _,ae,hrr,.inr ⟨w.heap.size,0,rfl,fun j hj=>?_⟩⟩,((ZT _ _).drew).alloc (by simpa using hbase) _⟩;rw[Nat.zero_add];refine(World.cell?_alloc_mark w.drew _ _ _ j).trans ?_;have h1:j<(l++bh s).length:=ae
 have h2:(l.map (ZU)++byteCells s)=(l++bh s).map (ZU):=by rw[pU,List.map_append]
 rw[h2,Array.getElem?_append_left mJ];simp only[List.getElem?_toArray,List.getElem?_map,aD h1,Option.map_some,Z3,Option.getD_some]
variable {P:Program}{ops:Array Oper}{o:Oper}{a:Act}{Q:Zan}
theorem wpList_append_run(w:World){rest:List Oper}(hg:o.guard=none)
  (s x:Operand) (t tx:TypeId) (hop:o.op=Op.call { callee:=Callee.builtin Builtin.append,args:=#[s,x],argTypes:=#[t,tx] }) (vs vx v':Value) (w':World) (hs:a.eval s=vs) (hx:a.eval x=vx)
  (hrun:∀ty,(Builtin.append_ #[t,tx] ty #[vs,vx]).run P w=.ok v' w') (hK:wpList P ops Q rest (a.put o.dst v') w'):wpList P ops Q (o::rest) a w:=by
 refine wpList_plain hg fun K hK'=>?_;unfold Oper.wp;simp[execOp,hop,resolve,invoke,builtin,hs,hx,hrun,Result.andThen];exact hK' _ _ hK
theorem NV(s:BAz)(w:World)(hs:s.size<=2000000) :
  Zw 211 #[.string s] w fun e w'=>∃a c,e=.returned (.slice a ((aw s.size).length+s.size) c)/\Seg w' a ((aw s.size).length+s.size) c (aw s.size++bh s)/\Zx w w':=by
 have HB:=hid (xt s.size w ae ae);have hl:=ay s.size;have hr:=gV s.size ae ae;generalize aw s.size=l at *;go_enter func211,ntmps211
 go_wp2_with fail;refine HB.out.mono ?_;rintro e w1⟨y,rfl,hs1,hb1⟩
 obtain⟨g,cap,rfl⟩:∃g cap,y=ZL g l.length cap:=by
  rcases hs1.2 with ⟨_,h⟩ | ⟨g,cap,cur,h,_⟩
  ·omega
  exact⟨g,cap,h⟩
 obtain⟨a,c,W,hrun,X1,hbl⟩:=Sv w1 w.heap.size g l.length cap l s hs1 hb1.size hr ae hs;obtain⟨SO,A',HBL,HR⟩:=ZF hb1 X1 hbl hrun;clear hs1 hb1 hr HB X1 hbl hrun
 go_wp2_with (at_builtin; refine wpList_append_run _ rfl (.tmp 8) (.tmp 9) 63 9 rfl _ _ _ _ rfl rfl HR.out ?_)
 go_ret;exact⟨a,c,rfl,A'.out,SO.out.trans HBL.out⟩
abbrev Byt(w:World)(base:Nat)(v:Value)(bs:LIz):Prop:=w.ownsRow base 5 1 v bs.length (bs.map (ZU))
variable {bs:LIz}
theorem Nq{v:Value}(h:Byt w base v bs):∃a c,v=.slice a bs.length c:=by
 exact FI
theorem eU(w:World){rest:List Oper}(hgd:o.guard=none)
  (s x:Operand) (ho:o.op=Op.call { callee:=Callee.builtin Builtin.append,args:=#[s,x],argTypes:=#[63,63] }) (base:Nat) (v:Value) (P:LIz)
  (hs:a.eval s=v) (hown:Byt w base v P) (ao:OAz) (c:Nat) (zs:LIz) (hx:a.eval x=.slice ao zs.length c)
  (hseg:Seg w ao zs.length c zs) (hnone:ao=none->c=0) (hb:P.length+zs.length<=1099511627776) (hbase:base<=w.heap.size)
  (h:∀(v':Value)(w':World),Byt w' base v' (P++zs)->Below base w w'->Kept (fun k=>some k=v.ownBlock) w w'->wpList prog ops Q rest (a.put o.dst v') w') :
  wpList prog ops Q (o::rest) a w:=by
 obtain⟨i0,hi,hz0,hz1,hz2⟩:=Z0 Tryz.info5
 cases ao with
 | none =>
  have hc:=hnone rfl;subst hc
  have hm:zs.length=0:=by have:=hseg.2.1; omega
  have hzs:zs=[]:=Z6 hm;subst hzs;refine wpList_append_own_none hgd s x 63 ho base 5 i0 1 underlying63 hi v P.length _ hs hown hx ?_;refine h v w ?_ (ZT _ _) ⟨rfl,rfl,rfl,Nat.le_refl _,fun k _ _=>rfl⟩
  simpa using hown
 | some ad =>
  refine wpList_append_own w hgd s x 63 ho base 5 i0 (ZU 0) 1 1 underlying63 hi hz0 hz1 hz2 rfl au v P.length _ hs hown ad zs.length c (zs.map (ZU)) hx av
   (lC hseg ad rfl) (mL _) aP ae hbase ?_
  intro v' w' ho' hg _;refine h v' w' ?_ (own_below hown hg hbase) (Kept.of_grown hg);unfold Byt;rw[ZV,List.map_append]; exact ho'
variable {F t:Nat}{P:LIz}{cs:AVz}
theorem jZ{v:Value}(hF:w.heap[F]? =some (.cells cs t))(ht:t≠5)(hb:Byt w base v P)(hk:Kept (fun k=>some k=v.ownBlock) w w'):w'.heap[F]? =some (.cells cs t):=by
 have hlt:F<w.heap.size:=by
  rcases Zae F w.heap.size with h | h
  ·exact h
  rw[Zaf h]at hF; cases hF
 refine(hk.block F hlt (fun e=>?_)).trans hF
 rcases hb.2 with ⟨h0,_⟩ | ⟨g,cp,cur,h1,_,h3,_⟩
 ·rw[h0]at e; cases e
 rw[h1]at e
 have:F=g:=by simpa[Value.ownBlock] using e
 subst this;rw[hF]at h3;simp at h3;exact ht h3.2
theorem gM(base:Nat)(v:Value)(bs:LIz)(n:Int)(w:World)(h:Byt w base v bs)(hb:base<=w.heap.size)(hl:bs.length<=1000000000)(n0:0<=n)(n1:n<9223372036854775808) :
  Zw 210 #[v,ZI n] w fun e w'=>∃y,e=.returned y/\Byt w' base y (bs++aw n)/\Below base w w'/\Kept (fun k=>some k=v.ownBlock) w w':=by
 obtain⟨a,c,rfl⟩:=Nq h;have SV:=hid (fun W=>ug n W n0 ae);have i3:=ay n;have hw:=dJ n n0 ae;have HO:=hid h;generalize aw n=U at *;clear h;go_enter func210,ntmps210
 go_wp2_with fail;refine(SV.out _).mono ?_;rintro e w4⟨ua,uc,rfl,hs4,be,hb4⟩;obtain⟨S4,N4,B4⟩:=ZH hs4 be hb4;have O4:=hid (bE HO.out hb4);have hbs:base<=w4.heap.size:=ZW hb hb4.size;clear hs4 hb4 SV be
 go_wp2_with (at_builtin; (refine eU _ rfl (.tmp 5) (.tmp 8) rfl base _ bs rfl O4.out _ _ U rfl S4.out N4.out ae hbs ?_; intro v5 w5 As AI bm; have O5:=hid As; have B5:=hid ((B4.out.mono hb).trans AI); have K5:=hid (((bC B4.out).mono (fun _ h=>False.elim h)).trans bm); clear As AI bm))
 go_ret;exact⟨_,rfl,O5.out,B5.out,K5.out⟩
theorem JM(x:Gl)(w:World)(h0:0<=x.2.2)(h1:x.2.2<18446744073709551616)(hf:x.1=119->x.2.2<4294967296) :
  Zw 37 #[.agg #[ZU x.1,.bool x.2.1,.int .u64 x.2.2]] w (ZC (ZI (sgn x.1 x.2.2)) w):=by
 obtain⟨c,mu,v⟩:=x;dsimp only at *;have HB:=hid (aj w (aZ c mu v))
 by_cases hc:c=119
 ·subst hc;have hv:=hf rfl
  by_cases h2:2147483648<=v
  ·have HV:=hid (show v-4294967296=sgn 119 v by unfold sgn; rw[if_pos rfl,if_pos hv,if_neg ae])
   have hw:wrap64 v=v:=dV;have hw2:wrap64 (v-4294967296)=v-4294967296:=dV;exact IZ
  have HV:=hid (show v=sgn 119 v by unfold sgn; rw[if_pos rfl,if_pos hv,if_pos ae]);have hw:wrap64 v=v:=dV;exact IZ
 have hcb:(c==119)=false:=by simpa using hc
 have HV:=hid (show wrap64 v=sgn c v by
  unfold sgn wrap64;rw[if_neg hc]
  split <;> omega)
 go_enter func37,ntmps37
 go_wp2_with fail;go_ret
 exact⟨by rw[<- HV.out]; rfl,HB.out⟩
end
end Go.Proofs.YtheefojaplnnoaaGreatDoor

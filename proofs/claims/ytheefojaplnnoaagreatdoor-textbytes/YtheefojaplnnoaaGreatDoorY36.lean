/-
  Texts Bm Rb Ri.
-/
import Derived.Deep.AppendSrc
import Derived.Deep.RegionHeld3
import Derived.Test.YtheefojaplnnoaaGreatDoorY00
import Derived.Test.YtheefojaplnnoaaGreatDoorY01
import Derived.Test.YtheefojaplnnoaaGreatDoorY03
import Derived.Test.YtheefojaplnnoaaGreatDoorY11
import Derived.Test.YtheefojaplnnoaaGreatDoorY12
import Derived.Test.YtheefojaplnnoaaGreatDoorY13
import Derived.Test.YtheefojaplnnoaaGreatDoorY19
import Derived.Test.YtheefojaplnnoaaGreatDoorY20
import Derived.Test.YtheefojaplnnoaaGreatDoorY35
set_option linter.unusedVariables false
set_option maxRecDepth 100000
set_option maxHeartbeats 16000000
namespace Go.Proofs.YtheefojaplnnoaaGreatDoor
open Go.RowKit
def eO:ByteArray:=⟨#[102,108,97,103,111,110]⟩
def gK:ByteArray:=⟨#[116,121,112,101]⟩
def eJ:ByteArray:=⟨#[101,120,116,101,114,110]⟩
def dJ:ByteArray:=⟨#[103,108,111,98,97,108]⟩
def eo:ByteArray:=⟨#[109,101,109,111,114,121]⟩
def iT:ByteArray:=⟨#[100,97,116,97]⟩
def d9:ByteArray:=⟨#[101,120,112,111,114,116]⟩
def kO(x:Sg):List UInt8:=bI [gK,mr x.1 x.2]
def gJ(x:Int):List UInt8:=bI [eJ,aW x]
def jg(b:Bool):ByteArray:=if b then ⟨#[118,97,114]⟩ else ⟨#[99,111,110,115,116]⟩
def glL(x:Gl):List UInt8:=bI [dJ,⟨#[UInt8.ofNat x.1.toNat]⟩,jg x.2.1,aW (told x.1 x.2.2)]
def oF(a b:Int):List UInt8:=bI [eo,aW a,aW b]
def fuL(x:FuM):List UInt8:=fnL x.1 x.2.1 x.2.2.2
def daL(x:DaM):List UInt8:=bI [iT,aW x.1,⟨(gq x.2.2).toArray⟩]
def exL(x:Ex):List UInt8:=bI [d9,x.1,aW x.2]
def iq(m:MM):List UInt8:=bI [eO]++(m.types.flatMap kO++(m.hosts.flatMap gJ++(m.globals.flatMap glL++(oF m.fi m.mo++(m.fns.flatMap fuL++(m.data.flatMap daL++m.exps.flatMap exL))))))
theorem PS.m_cells{w0 W1 W:World}{b B:Nat}{m:MM}{s:List UInt8}(h:PS w0 W1 b s W)(hb:W1.heap[B]? =some (.cells (mV m) 29))(hne:B≠b):W.heap[B]? =some (.cells (mV m) 29):=(h.hold.2 _ _ _ _ hb aj hne).trans hb
theorem PS.line2{w0 w:World}{b:Nat}{s:List UInt8}{W:World}(h:PS w0 w b s W)(xs:List ByteArray)(n:Nat)(hn:xs.length=n)(hlen:s.length+n+(bI xs).length≤140737488355328) :
  Calls Tryz.prog 92 #[.pointer (some ⟨b,0,none⟩),.slice (some ⟨W.heap.size,0,none⟩) n n] (W.alloc (.cells (xs.map Value.string).toArray 9)) fun e w'=>e=.returned (.tuple #[])∧PS w0 w b (s++bI xs) w'∧cY b W w':=by
 subst hn;have h':=h.later (ag W (.cells (xs.map Value.string).toArray 9));refine(mP w0.heap.size b W.heap.size 0 xs.length xs s _ h'.own h'.low.size ?_ ar (Nat.le_refl _) hlen).mono ?_
 ·intro j x hx;rw[Nat.zero_add,World.cell?_alloc_at _ _ _ _ rfl]
  simp[hx]
 ·rintro e w' ⟨rfl,h1,h2,h3⟩;exact⟨rfl,⟨.inr h1,h'.low.trans h2,h'.hold.trans h3⟩,(cY.of_below (ag W _)).trans h3⟩
theorem RP(m:Bool)(w:World):Calls Tryz.prog 95 #[.bool m] w fun e w'=>e=.returned (.string (jg m))∧w'=w:=QU m w
theorem xz(c:Int)(h0:0≤c)(h1:c<128)(w:World):(convert 5 9 (.int .u8 c)).run Tryz.prog w=.ok (.string ⟨#[UInt8.ofNat c.toNat]⟩) w:=by
 have e:Utf8.encode c=⟨#[UInt8.ofNat c.toNat]⟩:=by
  have hv:Utf8.valid c=true:=by unfold Utf8.valid; simp; omega
  unfold Utf8.encode
  simp only[hv,if_true]
  rw[if_pos ae]
 rw[← e];rfl
theorem RY(R g b:Nat)(m:MM)(w0 w:World)(s:List UInt8)(h:PS w0 w b s w)(htn:iX w0.heap.size w0)(hk:aP w0)(hM:MOk w0 R g m)(hL:s.length+(iq m).length+100≤35184372088832)(hts:∀(j:Nat)x,m.types[j]? =some x→x.1.size≤1073741824∧x.2.size≤1073741824)(hgl:∀(j:Nat)x,m.globals[j]? =some x→x.1<128)
  (hn1:m.tn≤1000000) (hn2:m.hn≤1000000) (hn3:m.gn≤1000000) (hn4:m.fn≤1000000) (hn5:m.dn≤1000000) (hn6:m.en≤1000000)
  (hcn:∀(j:Nat)x,m.fns[j]? =some x→x.2.2.1.2.1≤1099511627776∧∀(i:Nat)y,x.2.2.2[i]? =some y→-9223372036854775808≤y.2.1∧y.2.1≤9223372036854775807) :
  Calls Tryz.prog 32 #[.pointer (some ⟨b,0,none⟩),.agg (mV m)] w fun e w'=>e=.returned (.tuple #[])∧PS w0 (w.alloc (.cells (mV m) 29)) b (s++iq m) w':=by
 have hbw:b<w.heap.size:=by rcases h.own with h | h <;> exact h.lt
 have hb0:=(MapKept.heap_alloc w (.cells (mV m) 29)).1;have z1:(w.alloc (.cells (mV m) 29)).heap.size=w.heap.size+1:=ar;have hP0:PS w0 (w.alloc (.cells (mV m) 29)) b s (w.alloc (.cells (mV m) 29)):=⟨cP h.own (ag w _),h.low.trans ((ag w _).mono h.low.size),cY.refl _ _⟩;have hbne:w.heap.size≠b:=ae;have HW:w.alloc (cA m.ta m.tn m.tc m.ha m.hn m.hc m.ga m.gn m.gc m.fi m.mo m.fa m.fn m.fc m.da m.dn m.dc m.ea m.en m.ec)=w.alloc (.cells (mV m) 29):=rfl
 have hLL:s.length+(7+((m.types.flatMap kO).length+((m.hosts.flatMap gJ).length+((m.globals.flatMap glL).length+((oF m.fi m.mo).length+((m.fns.flatMap fuL).length+((m.data.flatMap daL).length+(m.exps.flatMap exL).length)))))))+100≤35184372088832:=by
  have e:(iq m).length=7+((m.types.flatMap kO).length+((m.hosts.flatMap gJ).length+((m.globals.flatMap glL).length+((oF m.fi m.mo).length+((m.fns.flatMap fuL).length+((m.data.flatMap daL).length+(m.exps.flatMap exL).length)))))):=by
   simp only[iq,List.length_append]; rfl
  omega
 have HML:s++iq m=((((((((s++bI [eO])++m.types.flatMap kO)++m.hosts.flatMap gJ)++m.globals.flatMap glL)++oF m.fi m.mo)++m.fns.flatMap fuL)++m.data.flatMap daL)++m.exps.flatMap exL):=by
  simp only[iq,List.append_assoc]
 rw[HML];clear HML hL;generalize w.alloc (.cells (mV m) 29)=W1 at *;have HB:=hid hb0
 have HL:=hid (hP0.line [eO] 1 rfl (by show s.length+1+7≤_; omega))
 rw[z1]at HL;have HGL:=hid hgl;have HCN:=hid hcn;have HTN:=hid htn;have HKD:=hid hk;have HMM:=hid hM;have HTS:=hid hts;have HLL:=hid hLL
 show Calls Tryz.prog 32 #[.pointer (some ⟨b,0,none⟩),.agg #[.slice m.ta m.tn m.tc,.slice m.ha m.hn m.hc,.slice m.ga m.gn m.gc,.int .i64 m.fi,.int .i64 m.mo,.slice m.fa m.fn m.fc,.slice m.da m.dn m.dc,.slice m.ea m.en m.ec]] w _
 clear h hP0 hb0 hgl hcn htn hk hM hts hLL
 go_enter Tryz.func32,Tryz.ntmps32
 go_wp2_with fail;refine HL.out.mono ?_;rintro e wa⟨rfl,hPa⟩;obtain⟨⟨m0,-,-,-,-,-,-,-⟩,-⟩:=av (hPa.m_cells HB.out hbne);have HPa:=hid hPa;clear hPa HL;go_wp2_with fail
 have HS1:=hid (show(s++bI [eO]).length=s.length+7 by simp; rfl)
 generalize hse1:s++bI [eO]=s1 at *;have HE1:=hid hse1;clear hse1;clear m0
 go_loopw [24] (fun i W=>∃k:Nat,k≤m.tn∧i=.int .i64 k∧PS w0 W1 b (s1++(m.types.take k).flatMap kO) W) (fun i _=>m.tn-(intOf i).toNat)
 case atStart=>exact⟨0,Nat.zero_le _,rfl,pU⟩
 case round =>
  obtain⟨k,hk,rfl,hP⟩:=hrel;have hTl:=HMM.out.pt.1;clear HPa
  by_cases hlt:k<m.tn
  ·obtain⟨⟨yp,yr⟩,hy⟩:∃y,m.types[k]? =some y:=⟨_,aO ae⟩
   obtain⟨bb,off,hta,hx⟩:∃bb off,m.ta=some ⟨bb,off,none⟩∧(w0.cell? ⟨bb,off+k*2,none⟩=some (.string yp)∧w0.cell? ⟨bb,off+k*2+1,none⟩=some (.string yr)):=by
    rcases HMM.out.pt.2 with h | ⟨bb,off,h,h'⟩
    ·omega
    ·exact⟨bb,off,h,h' k (yp,yr) hy⟩
   have k0:=hP.cell hx.1;have k1:=hP.cell hx.2;have HY:=HTS.out k (yp,yr) hy;have HTk:=hid (gm hy);have HFL:=hid (gP kO m.types k (yp,yr) hy);have HP:=hid hP
   have HWd:=hid (fun W=>Ru yp yr W HY.1 HY.2)
   clear hx hy hP HY;rw[hta];go_wp2_with fail;refine(HWd.out _).mono ?_;rintro e w4⟨rfl,hb4⟩;have P4:=hid (HP.out.later ((ag _ _).trans (hb4.mono ar)));clear hb4
   have HL:=hid (P4.out.line [gK,mr yp yr] 2 rfl (by
    have h1:=HFL.out; have h2:=HLL.out; have h3:=HS1.out
    show(s1++(m.types.take k).flatMap kO).length+2+(kO (yp,yr)).length≤_
    rw[List.length_append]
    omega))
   go_wp2_with fail;refine HL.out.mono ?_;rintro e w5⟨rfl,h5⟩;have P5:=hid h5;clear h5;go_wp2_with fail
   go_roundw
   case rel =>
    exact lU
   case measure=>show m.tn-((k:Int)+1).toNat<m.tn-(k:Int).toNat; omega
  ·obtain rfl:k=m.tn:=ae;rw[List.take_of_length_le ae]at hP;obtain⟨⟨-,m1,m2,m3,m4,m5,m6,m7⟩,-⟩:=av (hP.m_cells HB.out hbne);have HPa:=hid hP;clear hP
   have HS1':=hid (show(s1++m.types.flatMap kO).length=s1.length+(m.types.flatMap kO).length by rw[List.length_append])
   generalize hse2:s1++m.types.flatMap kO=s2 at *;have HE2:=hid hse2;clear hse2
   have HS1:=hid (HS1'.out.trans (congrArg (· + _) HS1.out))
   clear HS1';go_wp2_with fail;clear m1 m2 m3 m4 m5 m6 m7
   go_loopw [41] (fun i W=>∃k:Nat,k≤m.hn∧i=.int .i64 k∧PS w0 W1 b (s2++(m.hosts.take k).flatMap gJ) W) (fun i _=>m.hn-(intOf i).toNat)
   case atStart=>exact⟨0,Nat.zero_le _,rfl,pU⟩
   case round =>
    obtain⟨k,hk,rfl,hP⟩:=hrel;have hTl:=HMM.out.ph.1;clear HPa
    by_cases hlt:k<m.hn
    ·obtain⟨y,hy⟩:∃y,m.hosts[k]? =some y:=⟨_,aO ae⟩
     obtain⟨bb,off,hta,hx⟩:∃bb off,m.ha=some ⟨bb,off,none⟩∧w0.cell? ⟨bb,off+k,none⟩=some (.int .i64 y):=by
      rcases HMM.out.ph.2 with h | ⟨bb,off,h,h'⟩
      ·omega
      ·exact⟨bb,off,h,h' k y hy⟩
     have k0:=hP.cell hx;have HY:=HMM.out.hr k y hy;have HTk:=hid (gm hy);have HFL:=hid (gP gJ m.hosts k y hy);have HP:=hid hP
     have HWd:=hid (fun W (hW:PS w0 W1 b (s2++(m.hosts.take k).flatMap gJ) W)=>hW.itoa HTN.out y HY.1 ae)
     clear hx hy hP;rw[hta];go_wp2_with fail;refine(HWd.out _ HP.out).mono ?_;rintro e w4⟨rfl,P4',_⟩;have P4:=hid P4';clear P4'
     have HL:=hid (P4.out.line [eJ,aW y] 2 rfl (by
      have h1:=HFL.out; have h2:=HLL.out; have h3:=HS1.out
      show(s2++(m.hosts.take k).flatMap gJ).length+2+(gJ y).length≤_
      rw[List.length_append]
      omega))
     go_wp2_with fail;refine HL.out.mono ?_;rintro e w5⟨rfl,h5⟩;have P5:=hid h5;clear h5;go_wp2_with fail
     go_roundw
     case rel =>
      exact lU
     case measure=>show m.hn-((k:Int)+1).toNat<m.hn-(k:Int).toNat; omega
    ·obtain rfl:k=m.hn:=ae;rw[List.take_of_length_le ae]at hP;obtain⟨⟨-,m1,m2,m3,m4,m5,m6,m7⟩,-⟩:=av (hP.m_cells HB.out hbne);have HPa:=hid hP;clear hP
     have HS1':=hid (show(s2++m.hosts.flatMap gJ).length=s2.length+(m.hosts.flatMap gJ).length by rw[List.length_append])
     generalize hse3:s2++m.hosts.flatMap gJ=s3 at *;have HE3:=hid hse3;clear hse3
     have HS1:=hid (HS1'.out.trans (congrArg (· + _) HS1.out))
     clear HS1';go_wp2_with fail;clear m1 m2 m3 m4 m5 m6 m7
     go_loopw [54] (fun i W=>∃k:Nat,k≤m.gn∧i=.int .i64 k∧PS w0 W1 b (s3++(m.globals.take k).flatMap glL) W) (fun i _=>m.gn-(intOf i).toNat)
     case atStart=>exact⟨0,Nat.zero_le _,rfl,pU⟩
     case round =>
      obtain⟨k,hk,rfl,hP⟩:=hrel;have hTl:=HMM.out.pg.1;clear HPa
      by_cases hlt:k<m.gn
      ·obtain⟨⟨yc,ym,yv⟩,hy⟩:∃y,m.globals[k]? =some y:=⟨_,aO ae⟩
       obtain⟨bb,off,hta,hx⟩:∃bb off,m.ga=some ⟨bb,off,none⟩∧(w0.cell? ⟨bb,off+k*3,none⟩=some (.int .u8 yc)∧w0.cell? ⟨bb,off+k*3+1,none⟩=some (.bool ym)∧w0.cell? ⟨bb,off+k*3+2,none⟩=some (.int .u64 yv)):=by
        rcases HMM.out.pg.2 with h | ⟨bb,off,h,h'⟩
        ·omega
        ·exact⟨bb,off,h,h' k (yc,ym,yv) hy⟩
       have k0:=hP.cell hx.1;have k1:=hP.cell hx.2.1;have k2:=hP.cell hx.2.2;have HY:=hid (And.intro (HMM.out.gr k _ hy) (HGL.out k _ hy));have HTk:=hid (gm hy);have HFL:=hid (gP glL m.globals k _ hy);have HP:=hid hP;have B9:=ag wr (aQ yc ym yv);have P9:=hid (HP.out.later B9);have hblk:=heap_alloc_new wr (aQ yc ym yv);have d0:(wr.alloc (aQ yc ym yv)).cell? ⟨wr.heap.size,0,none⟩=some (.int .u8 yc):=vF;have d1:(wr.alloc (aQ yc ym yv)).cell? ⟨wr.heap.size,1,none⟩=some (.bool ym):=vF;have d2:(wr.alloc (aQ yc ym yv)).cell? ⟨wr.heap.size,2,none⟩=some (.int .u64 yv):=vF;have HCV:=xz yc HY.out.1.1 HY.out.2
       have hbB:b<wr.heap.size:=by rcases HP.out.own with h | h <;> exact h.lt
       clear hx hy hP B9;rw[hta];go_wp2_with fail;generalize wr.alloc (aQ yc ym yv)=wz at *;generalize wr.heap.size=X at *;have P9d:=hid (P9.out.later ((Below.refl _ wz).drew))
       have HMK:=hid (fun(W:World) (hb:Below wz.drew.heap.size wz.drew W)=>(⟨P9d.out.later hb,au hb hblk,az hb d0,az hb d1,az hb d2⟩:PS w0 W1 b (s3++(m.globals.take k).flatMap glL) W∧W.heap[X]? =some (aQ yc ym yv)∧W.cell? ⟨X,0,none⟩=some (.int .u8 yc)∧W.cell? ⟨X,1,none⟩=some (.bool ym)∧W.cell? ⟨X,2,none⟩=some (.int .u64 yv)))
       have HMH:=hid (fun(W W':World)(hh:cY b W W') (hk:W.heap[X]? =some (aQ yc ym yv))=>(⟨(hh.cell hk aj ae).trans (ak hk),(hh.cell hk aj ae).trans (ak hk),(hh.cell hk aj ae).trans (ak hk)⟩:W'.cell? ⟨X,0,none⟩=some (.int .u8 yc)∧W'.cell? ⟨X,1,none⟩=some (.bool ym)∧W'.cell? ⟨X,2,none⟩=some (.int .u64 yv)))
       have HV:=hid (fun(W:World) (hW:PS w0 W1 b (s3++(m.globals.take k).flatMap glL) W)=>Md w0.heap.size yc yv ym W hW.low.size (HTN.out.later hW.low) HY.out.1.2.2.1 HY.out.1.2.2.2)
       have HLN:=hid (fun(W:World) (hW:PS w0 W1 b (s3++(m.globals.take k).flatMap glL) W)=>hW.line2 [dJ,⟨#[UInt8.ofNat yc.toNat]⟩,jg ym,aW (told yc yv)] 4 rfl (by
        have h1:=HFL.out; have h2:=HLL.out; have h3:=HS1.out
        show(s3++(m.globals.take k).flatMap glL).length+4+(glL (yc,ym,yv)).length≤_
        rw[List.length_append]
        omega))
       clear hblk
       go_region_held3 (fun W=>W.cell? ⟨X,0,none⟩=some (.int .u8 yc)∧W.cell? ⟨X,1,none⟩=some (.bool ym)∧W.cell? ⟨X,2,none⟩=some (.int .u64 yv)) (go_keep)
        (first
        | (go_at_call 95; refine(RP ym _).mono ?_; rintro e w3⟨rfl,hw3⟩; have hw4:=hw3.symm; subst hw4)
        | (go_at_call 96; refine(HV.out _ P9d.out).mono ?_; rintro e w4⟨rfl,hb4⟩; obtain⟨p4,k4,f0,f1,f2⟩:=HMK.out _ hb4; have P4:=hid p4; have K4:=hid k4; clear hb4 p4 k4)
        | (go_at_call 92; refine(HLN.out _ P4.out).mono ?_; rintro e w5⟨rfl,h5,hh5⟩; have P5:=hid h5; obtain⟨g0,g1,g2⟩:=HMH.out _ _ hh5 K4.out; clear h5 hh5))
       go_wp2_with fail
       go_roundw
       case rel =>
        exact lU
       case measure=>show m.gn-((k:Int)+1).toNat<m.gn-(k:Int).toNat; omega
      ·obtain rfl:k=m.gn:=ae;rw[List.take_of_length_le ae]at hP;obtain⟨⟨-,m1,m2,m3,m4,m5,m6,m7⟩,-⟩:=av (hP.m_cells HB.out hbne);have HPa:=hid hP;clear hP
       have HS1':=hid (show(s3++m.globals.flatMap glL).length=s3.length+(m.globals.flatMap glL).length by rw[List.length_append])
       generalize hse4:s3++m.globals.flatMap glL=s4 at *;have HE4:=hid hse4;clear hse4
       have HS1:=hid (HS1'.out.trans (congrArg (· + _) HS1.out))
       clear HS1';go_wp2_with fail;have HPd:=hid (HPa.out.later ((Below.refl _ wr).drew));have HBX:=hid (HPa.out.m_cells HB.out hbne)
       have HMK:=hid (fun(W:World) (hb:Below wr.drew.heap.size wr.drew W)=>(⟨HPd.out.later hb,au hb HBX.out,ak (au hb HBX.out),ak (au hb HBX.out)⟩:PS w0 W1 b s4 W∧W.heap[w.heap.size]? =some (.cells (mV m) 29)∧W.cell? ⟨w.heap.size,3,none⟩=some (.int .i64 m.fi)∧W.cell? ⟨w.heap.size,4,none⟩=some (.int .i64 m.mo)))
       have HMH:=hid (fun(W W':World)(hh:cY b W W') (hk:W.heap[w.heap.size]? =some (.cells (mV m) 29))=>(⟨(hh.cell hk aj hbne).trans (ak hk),(hh.cell hk aj hbne).trans (ak hk)⟩:W'.cell? ⟨w.heap.size,3,none⟩=some (.int .i64 m.fi)∧W'.cell? ⟨w.heap.size,4,none⟩=some (.int .i64 m.mo)))
       have HV3:=hid (fun(W:World) (hW:PS w0 W1 b s4 W)=>hW.itoa HTN.out m.fi HMM.out.i0 (by have:=HMM.out.i1; omega))
       have HV4:=hid (fun(W:World) (hW:PS w0 W1 b s4 W)=>hW.itoa HTN.out m.mo HMM.out.o0 (by have:=HMM.out.o1; omega))
       have HLN:=hid (fun(W:World) (hW:PS w0 W1 b s4 W)=>hW.line2 [eo,aW m.fi,aW m.mo] 3 rfl (by
        have h2:=HLL.out; have h3:=HS1.out
        show s4.length+3+(oF m.fi m.mo).length≤_
        omega))
       generalize hfi:m.fi=fi at HMK HMH HV3 HLN m3 ⊢;generalize hmo:m.mo=mo at HMK HMH HV4 HLN m4 ⊢
       go_region_held3 (fun W=>W.cell? ⟨w.heap.size,3,none⟩=some (.int .i64 fi)∧W.cell? ⟨w.heap.size,4,none⟩=some (.int .i64 mo)) (go_keep)
        (first
        | (go_at_call 94; have hprev:=P3; refine(HV4.out _ P3.out).mono ?_; rintro e w4⟨rfl,-,hb4⟩; obtain⟨p4,k4,f0,f1⟩:=HMK.out _ (B3.out.trans (hb4.mono B3.out.size)); have P4:=hid p4; have K4:=hid k4; clear hb4 p4 k4)
        | (go_at_call 94; refine(HV3.out _ HPd.out).mono ?_; rintro e w3⟨rfl,-,hb3⟩; have B3:=hid hb3; obtain⟨p3,k3,f0,f1⟩:=HMK.out _ hb3; have P3:=hid p3; have K3:=hid k3; clear hb3 p3 k3)
        | (go_at_call 92; refine(HLN.out _ P4.out).mono ?_; rintro e w5⟨rfl,h5,hh5⟩; have P5:=hid h5; obtain⟨g0,g1⟩:=HMH.out _ _ hh5 K4.out; clear h5 hh5))
       subst hfi hmo;have HPa:=P5;clear P5
       have HS1':=hid (show(s4++oF m.fi m.mo).length=s4.length+(oF m.fi m.mo).length by rw[List.length_append])
       change Hid (PS w0 W1 b (s4++oF m.fi m.mo) _) at HPa
       generalize hse5:s4++oF m.fi m.mo=s5 at *;have HE5:=hid hse5;clear hse5
       have HS1:=hid (HS1'.out.trans (congrArg (· + _) HS1.out))
       clear HS1';clear m1 m2 m3 m4 m5 m6 m7;obtain⟨⟨-,-,-,-,-,m5,-,-⟩,-⟩:=av (HPa.out.m_cells HB.out hbne);go_wp2_with fail;clear m5
       go_loopw [82] (fun i W=>∃k:Nat,k≤m.fn∧i=.int .i64 k∧PS w0 W1 b (s5++(m.fns.take k).flatMap fuL) W) (fun i _=>m.fn-(intOf i).toNat)
       case atStart=>exact⟨0,Nat.zero_le _,rfl,pU⟩
       case round =>
        obtain⟨k,hk,rfl,hP⟩:=hrel;have hTl:=HMM.out.pf.1;clear HPa
        by_cases hlt:k<m.fn
        ·obtain⟨⟨yt,yl,⟨ya,yn,yc⟩,yx⟩,hy⟩:∃y,m.fns[k]? =some y:=⟨_,aO ae⟩
         obtain⟨bb,off,hta,hx⟩:∃bb off,m.fa=some ⟨bb,off,none⟩∧(w0.cell? ⟨bb,off+k*3,none⟩=some (.int .i64 yt)∧w0.cell? ⟨bb,off+k*3+1,none⟩=some (.string yl)∧w0.cell? ⟨bb,off+k*3+2,none⟩=some (.slice ya yn yc)):=by
          rcases HMM.out.pf.2 with h | ⟨bb,off,h,h'⟩
          ·omega
          ·exact⟨bb,off,h,h' k _ hy⟩
         have k0:=hP.cell hx.1;have k1:=hP.cell hx.2.1;have k2:=hP.cell hx.2.2;have HY:=hid (And.intro (HMM.out.fr k _ hy) (HCN.out k _ hy));have HTk:=hid (gm hy);have HFL:=hid (gP fuL m.fns k _ hy);have HP:=hid hP
         have HFN:=hid (fun(W:World) (hW:PS w0 W1 b (s5++(m.fns.take k).flatMap fuL) W)=>hW.func HTN.out HKD.out yt yl ya yn yc yx ⟨HY.out.1.1.1,by have:=HY.out.1.1.2; (try dsimp only at this); omega⟩ HY.out.2.1 HY.out.1.2.1 (fun j y hj=>⟨⟨(HY.out.1.2.2.2 j y hj).1,(HY.out.1.2.2.2 j y hj).2.1⟩,HY.out.2.2 j y hj,(HY.out.1.2.2.2 j y hj).2.2.1⟩) (by
          have h1:=HFL.out; have h2:=HLL.out; have h3:=HS1.out
          show(s5++(m.fns.take k).flatMap fuL).length+(fuL (yt,yl,(ya,yn,yc),yx)).length≤_
          rw[List.length_append]
          omega))
         clear hx hy hP;rw[hta];go_wp2_with fail;refine(HFN.out _ (HP.out.later (ag wr _))).mono ?_;rintro e w5⟨rfl,h5⟩;have P5:=hid h5;clear h5 HFN;go_wp2_with fail
         go_roundw
         case rel =>
          exact lU
         case measure=>show m.fn-((k:Int)+1).toNat<m.fn-(k:Int).toNat; omega
        ·obtain rfl:k=m.fn:=ae;rw[List.take_of_length_le ae]at hP;obtain⟨⟨-,m1,m2,m3,m4,m5,m6,m7⟩,-⟩:=av (hP.m_cells HB.out hbne);have HPa:=hid hP;clear hP
         have HS1':=hid (show(s5++m.fns.flatMap fuL).length=s5.length+(m.fns.flatMap fuL).length by rw[List.length_append])
         generalize hse6:s5++m.fns.flatMap fuL=s6 at *;have HE6:=hid hse6;clear hse6
         have HS1:=hid (HS1'.out.trans (congrArg (· + _) HS1.out))
         clear HS1';go_wp2_with fail;clear m1 m2 m3 m4 m5 m6 m7
         go_loopw [93] (fun i W=>∃k:Nat,k≤m.dn∧i=.int .i64 k∧PS w0 W1 b (s6++(m.data.take k).flatMap daL) W) (fun i _=>m.dn-(intOf i).toNat)
         case atStart=>exact⟨0,Nat.zero_le _,rfl,pU⟩
         case round =>
          obtain⟨k,hk,rfl,hP⟩:=hrel;have hTl:=HMM.out.pd.1;clear HPa
          by_cases hlt:k<m.dn
          ·obtain⟨⟨yt,⟨ya,yn,yc⟩,yx⟩,hy⟩:∃y,m.data[k]? =some y:=⟨_,aO ae⟩
           obtain⟨bb,off,hta,hx⟩:∃bb off,m.da=some ⟨bb,off,none⟩∧(w0.cell? ⟨bb,off+k*2,none⟩=some (.int .i64 yt)∧w0.cell? ⟨bb,off+k*2+1,none⟩=some (.slice ya yn yc)):=by
            rcases HMM.out.pd.2 with h | ⟨bb,off,h,h'⟩
            ·omega
            ·exact⟨bb,off,h,h' k _ hy⟩
           have k0:=hP.cell hx.1;have k1:=hP.cell hx.2;have HY:=hid (HMM.out.dr k _ hy);have HTk:=hid (gm hy);have HFL:=hid (gP daL m.data k _ hy);have HP:=hid hP;have P9:=hid (HP.out.later (ag wr (aZ yt ya yn yc)));have hblk:=heap_alloc_new wr (aZ yt ya yn yc);have d0:(wr.alloc (aZ yt ya yn yc)).cell? ⟨wr.heap.size,0,none⟩=some (.int .i64 yt):=ak hblk;have d1:(wr.alloc (aZ yt ya yn yc)).cell? ⟨wr.heap.size,1,none⟩=some (.slice ya yn yc):=ak hblk
           have hbB:b<wr.heap.size:=by rcases HP.out.own with h | h <;> exact h.lt
           clear hx hy hP;rw[hta];go_wp2_with fail;generalize wr.alloc (aZ yt ya yn yc)=wz at *;generalize wr.heap.size=X at *;have P9d:=hid (P9.out.later ((Below.refl _ wz).drew))
           have HMK:=hid (fun(W:World) (hb:Below wz.drew.heap.size wz.drew W)=>(⟨P9d.out.later hb,au hb hblk,az hb d0,az hb d1⟩:PS w0 W1 b (s6++(m.data.take k).flatMap daL) W∧W.heap[X]? =some (aZ yt ya yn yc)∧W.cell? ⟨X,0,none⟩=some (.int .i64 yt)∧W.cell? ⟨X,1,none⟩=some (.slice ya yn yc)))
           have HMH:=hid (fun(W W':World)(hh:cY b W W') (hk:W.heap[X]? =some (aZ yt ya yn yc))=>(⟨(hh.cell hk aj ae).trans (ak hk),(hh.cell hk aj ae).trans (ak hk)⟩:W'.cell? ⟨X,0,none⟩=some (.int .i64 yt)∧W'.cell? ⟨X,1,none⟩=some (.slice ya yn yc)))
           have HV:=hid (fun(W:World) (hW:PS w0 W1 b (s6++(m.data.take k).flatMap daL) W)=>hW.itoa HTN.out yt HY.out.1.1 (by have:=HY.out.1.2; (try dsimp only at this); omega))
           have HO:=hid (fun(W:World) (hW:PS w0 W1 b (s6++(m.data.take k).flatMap daL) W)=>I4 ya yn yc yx W (HY.out.2.1.later hW.low (Nat.le_refl _)))
           have HLN:=hid (fun(W:World) (hW:PS w0 W1 b (s6++(m.data.take k).flatMap daL) W)=>hW.line2 [iT,aW yt,⟨(gq yx).toArray⟩] 3 rfl (by
            have h1:=HFL.out; have h2:=HLL.out; have h3:=HS1.out
            show(s6++(m.data.take k).flatMap daL).length+3+(daL (yt,(ya,yn,yc),yx)).length≤_
            rw[List.length_append]
            omega))
           clear hblk
           go_region_held3 (fun W=>W.cell? ⟨X,0,none⟩=some (.int .i64 yt)∧W.cell? ⟨X,1,none⟩=some (.slice ya yn yc)) (go_keep)
            (first
            | (go_at_call 94; refine(HV.out _ P9d.out).mono ?_; rintro e w3⟨rfl,-,hb3⟩; have B3:=hid hb3; obtain⟨p3,k3,f0,f1⟩:=HMK.out _ hb3; have P3:=hid p3; have K3:=hid k3; clear hb3 p3 k3)
            | (go_at_call 98; refine(HO.out _ P3.out).mono ?_; rintro e w4⟨rfl,hb4⟩; obtain⟨p4,k4,f0,f1⟩:=HMK.out _ (B3.out.trans (hb4.mono B3.out.size)); have P4:=hid p4; have K4:=hid k4; clear hb4 p4 k4)
            | (go_at_call 92; refine(HLN.out _ P4.out).mono ?_; rintro e w5⟨rfl,h5,hh5⟩; have P5:=hid h5; obtain⟨g0,g1⟩:=HMH.out _ _ hh5 K4.out; clear h5 hh5))
           go_wp2_with fail
           go_roundw
           case rel =>
            exact lU
           case measure=>show m.dn-((k:Int)+1).toNat<m.dn-(k:Int).toNat; omega
          ·obtain rfl:k=m.dn:=ae;rw[List.take_of_length_le ae]at hP;obtain⟨⟨-,m1,m2,m3,m4,m5,m6,m7⟩,-⟩:=av (hP.m_cells HB.out hbne);have HPa:=hid hP;clear hP
           have HS1':=hid (show(s6++m.data.flatMap daL).length=s6.length+(m.data.flatMap daL).length by rw[List.length_append])
           generalize hse7:s6++m.data.flatMap daL=s7 at *;have HE7:=hid hse7;clear hse7
           have HS1:=hid (HS1'.out.trans (congrArg (· + _) HS1.out))
           clear HS1';go_wp2_with fail;clear m1 m2 m3 m4 m5 m6 m7
           go_loopw [110] (fun i W=>∃k:Nat,k≤m.en∧i=.int .i64 k∧PS w0 W1 b (s7++(m.exps.take k).flatMap exL) W) (fun i _=>m.en-(intOf i).toNat)
           case atStart=>exact⟨0,Nat.zero_le _,rfl,pU⟩
           case round =>
            obtain⟨k,hk,rfl,hP⟩:=hrel;have hTl:=HMM.out.pe.1;clear HPa
            by_cases hlt:k<m.en
            ·obtain⟨⟨yn,yf⟩,hy⟩:∃y,m.exps[k]? =some y:=⟨_,aO ae⟩
             obtain⟨bb,off,hta,hx⟩:∃bb off,m.ea=some ⟨bb,off,none⟩∧(w0.cell? ⟨bb,off+k*2,none⟩=some (.string yn)∧w0.cell? ⟨bb,off+k*2+1,none⟩=some (.int .i64 yf)):=by
              rcases HMM.out.pe.2 with h | ⟨bb,off,h,h'⟩
              ·omega
              ·exact⟨bb,off,h,h' k _ hy⟩
             have k0:=hP.cell hx.1;have k1:=hP.cell hx.2;have HY:=hid (HMM.out.er k _ hy);have HTk:=hid (gm hy);have HFL:=hid (gP exL m.exps k _ hy);have HP:=hid hP;have P9:=hid (HP.out.later (ag wr (bj yn yf)));have hblk:=heap_alloc_new wr (bj yn yf);have d0:(wr.alloc (bj yn yf)).cell? ⟨wr.heap.size,0,none⟩=some (.string yn):=ak hblk;have d1:(wr.alloc (bj yn yf)).cell? ⟨wr.heap.size,1,none⟩=some (.int .i64 yf):=ak hblk
             have hbB:b<wr.heap.size:=by rcases HP.out.own with h | h <;> exact h.lt
             clear hx hy hP;rw[hta];go_wp2_with fail;generalize wr.alloc (bj yn yf)=wz at *;generalize wr.heap.size=X at *;have P9d:=hid (P9.out.later ((Below.refl _ wz).drew))
             have HMK:=hid (fun(W:World) (hb:Below wz.drew.heap.size wz.drew W)=>(⟨P9d.out.later hb,au hb hblk,az hb d0,az hb d1⟩:PS w0 W1 b (s7++(m.exps.take k).flatMap exL) W∧W.heap[X]? =some (bj yn yf)∧W.cell? ⟨X,0,none⟩=some (.string yn)∧W.cell? ⟨X,1,none⟩=some (.int .i64 yf)))
             have HMH:=hid (fun(W W':World)(hh:cY b W W') (hk:W.heap[X]? =some (bj yn yf))=>(⟨(hh.cell hk aj ae).trans (ak hk),(hh.cell hk aj ae).trans (ak hk)⟩:W'.cell? ⟨X,0,none⟩=some (.string yn)∧W'.cell? ⟨X,1,none⟩=some (.int .i64 yf)))
             have HV:=hid (fun(W:World) (hW:PS w0 W1 b (s7++(m.exps.take k).flatMap exL) W)=>hW.itoa HTN.out yf HY.out.1 (by have:=HY.out.2; (try dsimp only at this); omega))
             have HLN:=hid (fun(W:World) (hW:PS w0 W1 b (s7++(m.exps.take k).flatMap exL) W)=>hW.line2 [d9,yn,aW yf] 3 rfl (by
              have h1:=HFL.out; have h2:=HLL.out; have h3:=HS1.out
              show(s7++(m.exps.take k).flatMap exL).length+3+(exL (yn,yf)).length≤_
              rw[List.length_append]
              omega))
             clear hblk
             go_region_held3 (fun W=>W.cell? ⟨X,0,none⟩=some (.string yn)∧W.cell? ⟨X,1,none⟩=some (.int .i64 yf)) (go_keep)
              (first
              | (go_at_call 94; refine(HV.out _ P9d.out).mono ?_; rintro e w4⟨rfl,-,hb4⟩; obtain⟨p4,k4,f0,f1⟩:=HMK.out _ hb4; have P4:=hid p4; have K4:=hid k4; clear hb4 p4 k4)
              | (go_at_call 92; refine(HLN.out _ P4.out).mono ?_; rintro e w5⟨rfl,h5,hh5⟩; have P5:=hid h5; obtain⟨g0,g1⟩:=HMH.out _ _ hh5 K4.out; clear h5 hh5))
             go_wp2_with fail
             go_roundw
             case rel =>
              exact lU
             case measure=>show m.en-((k:Int)+1).toNat<m.en-(k:Int).toNat; omega
            ·obtain rfl:k=m.en:=ae;rw[List.take_of_length_le ae]at hP;obtain⟨⟨-,m1,m2,m3,m4,m5,m6,m7⟩,-⟩:=av (hP.m_cells HB.out hbne);have HPa:=hid hP;clear hP;go_wp2_with fail;go_end0;have hfin:=HPa.out;rw[← HE7.out,← HE6.out,← HE5.out,← HE4.out,← HE3.out,← HE2.out,← HE1.out]at hfin;exact⟨rfl,hfin⟩
theorem EC{w w':World}{base:Nat}{e:TypeId}{v:Value}{n:Nat}{xs:List Value}(h:w.ownsRow base e 1 v n xs)(hb:Below w.heap.size w w'):w'.ownsRow base e 1 v n xs:=by
 refine fN h fun B hB=>hb.block B ?_
 rcases h.2 with ⟨rfl,_⟩ | ⟨g,cp,cur,rfl,hg,hh,_⟩
 ·simp[Value.ownBlock]at hB
 ·simp[Value.ownBlock]at hB; subst hB
  rcases Nat.lt_or_ge g w.heap.size with h | h
  ·exact h
  ·rw[Array.getElem?_eq_none h]at hh; cases hh
theorem cS{a b:Int}(h:orE a b=0):a=0∧b=0:=by
 unfold orE at h
 by_cases ha:a=0
 ·rw[if_neg (by simpa using ha)]at h; exact⟨ha,h⟩
 ·rw[if_pos ha]at h; exact absurd h ha
theorem Ay{m:MM}(h:fP m=0):e1 m=0∧e2 m=0∧e3 m=0∧e4 m=0∧e5 m=0∧e6 m=0∧e7 m=0∧e8 m=0:=by
 unfold fP at h;obtain⟨h1,h⟩:=cS h;obtain⟨h2,h⟩:=cS h;obtain⟨h3,h⟩:=cS h;obtain⟨h4,h⟩:=cS h;obtain⟨h5,h⟩:=cS h;obtain⟨h6,h⟩:=cS h;obtain⟨h7,h⟩:=cS h;exact⟨h1,h2,h3,h4,h5,h6,h7,h⟩
end Go.Proofs.YtheefojaplnnoaaGreatDoor

/-
  Texts Bm Ri Ck.
-/
import Derived.Deep.AppendSrc
import Derived.Deep.RegionHeld3
import Derived.Lib.ItoaLen
import Derived.Test.YtheefojaplnnoaaGreatDoorB00
import Derived.Test.YtheefojaplnnoaaGreatDoorB01
import Derived.Test.YtheefojaplnnoaaGreatDoorB03
import Derived.Test.YtheefojaplnnoaaGreatDoorB10
import Derived.Test.YtheefojaplnnoaaGreatDoorB11
import Derived.Test.YtheefojaplnnoaaGreatDoorB17
import Derived.Test.YtheefojaplnnoaaGreatDoorB18
import Derived.Test.YtheefojaplnnoaaGreatDoorB31
set_option linter.unusedVariables false
set_option maxRecDepth 100000
set_option maxHeartbeats 16000000
namespace Go.Proofs.YtheefojaplnnoaaGreatDoor
open Go.RowKit
def dJ : ByteArray:=⟨#[102,108,97,103,111,110]⟩
def fM : ByteArray:=⟨#[116,121,112,101]⟩
def dL : ByteArray:=⟨#[101,120,116,101,114,110]⟩
def cV : ByteArray:=⟨#[103,108,111,98,97,108]⟩
def dB : ByteArray:=⟨#[109,101,109,111,114,121]⟩
def gB : ByteArray:=⟨#[100,97,116,97]⟩
def dF : ByteArray:=⟨#[101,120,112,111,114,116]⟩
def ju (x : Sg) : List UInt8:=bo [fM,kj x.1 x.2]
def fh (x : Int) : List UInt8:=bo [dL,aS x]
def gZ (b : Bool) : ByteArray:=if b then ⟨#[118,97,114]⟩ else ⟨#[99,111,110,115,116]⟩
def glL (x : Gl) : List UInt8:=bo [cV,⟨#[UInt8.ofNat x.1.toNat]⟩,gZ x.2.1,aS (gD x.1 x.2.2)]
def mC (a b : Int) : List UInt8:=bo [dB,aS a,aS b]
def fuL (x : FuM) : List UInt8:=fnL x.1 x.2.1 x.2.2.2
def daL (x : DaM) : List UInt8:=bo [gB,aS x.1,⟨(eX x.2.2).toArray⟩]
def exL (x : Ex) : List UInt8:=bo [dF,x.1,aS x.2]
def eY (m : MM) : List UInt8:=bo [dJ] ++ (m.types.flatMap ju ++ (m.hosts.flatMap fh ++ (m.globals.flatMap glL ++ (mC m.fi m.mo ++ (m.fns.flatMap fuL ++ (m.data.flatMap daL ++ m.exps.flatMap exL))))))
theorem PS.m_cells {w0 W1 W : World} {b B : Nat} {m : MM} {s : List UInt8} (h : PS w0 W1 b s W) (hb : W1.heap[B]? = some (.cells (mV m) 29)) (hne : B ≠ b) : W.heap[B]? = some (.cells (mV m) 29):=(h.hold.2 _ _ _ _ hb aq hne).trans hb
theorem PS.line2 {w0 w : World} {b : Nat} {s : List UInt8} {W : World} (h : PS w0 w b s W) (xs : List ByteArray) (n : Nat) (hn : xs.length = n) (hlen : s.length + n + (bo xs).length ≤ 140737488355328) :
  Calls Tryz.prog 92 #[.pointer (some ⟨b,0,none⟩),.slice (some ⟨W.heap.size,0,none⟩) n n] (W.alloc (.cells (xs.map Value.string).toArray 9)) fun e w' => e = .returned (.tuple #[]) ∧ PS w0 w b (s ++ bo xs) w' ∧ cA b W w':=by
 subst hn;have h':=h.later (ag W (.cells (xs.map Value.string).toArray 9));refine (kX w0.heap.size b W.heap.size 0 xs.length xs s _ h'.own h'.low.size ?_ ar (Nat.le_refl _) hlen).mono ?_
 ·intro j x hx;rw [Nat.zero_add,World.cell?_alloc_at _ _ _ _ rfl]
  simp [hx]
 ·rintro e w' ⟨rfl,h1,h2,h3⟩;exact ⟨rfl,⟨.inr h1,h'.low.trans h2,h'.hold.trans h3⟩,(cA.of_below (ag W _)).trans h3⟩
theorem LK (m : Bool) (w : World) : Calls Tryz.prog 95 #[.bool m] w fun e w' => e = .returned (.string (gZ m)) ∧ w' = w:=K9 m w
theorem tW (c : Int) (h0 : 0 ≤ c) (h1 : c < 128) (w : World) : (convert 5 9 (.int .u8 c)).run Tryz.prog w = .ok (.string ⟨#[UInt8.ofNat c.toNat]⟩) w:=by
 have e : Utf8.encode c = ⟨#[UInt8.ofNat c.toNat]⟩:=by
  have hv : Utf8.valid c = true:=by unfold Utf8.valid; simp; omega
  unfold Utf8.encode
  simp only [hv,if_true]
  rw [if_pos ae]
 rw [← e];rfl
theorem Lx (R g b : Nat) (m : MM) (w0 w : World) (s : List UInt8) (h : PS w0 w b s w) (htn : gN w0.heap.size w0) (hk : aQ w0) (hM : MOk w0 R g m) (hL : s.length + (eY m).length + 100 ≤ 35184372088832) (hts : ∀ (j : Nat) x,m.types[j]? = some x → x.1.size ≤ 1073741824 ∧ x.2.size ≤ 1073741824) (hgl : ∀ (j : Nat) x,m.globals[j]? = some x → x.1 < 128)
  (hn1 : m.tn ≤ 1000000) (hn2 : m.hn ≤ 1000000) (hn3 : m.gn ≤ 1000000) (hn4 : m.fn ≤ 1000000) (hn5 : m.dn ≤ 1000000) (hn6 : m.en ≤ 1000000)
  (hcn : ∀ (j : Nat) x,m.fns[j]? = some x → x.2.2.1.2.1 ≤ 1099511627776 ∧ ∀ (i : Nat) y,x.2.2.2[i]? = some y → -9223372036854775808 ≤ y.2.1 ∧ y.2.1 ≤ 9223372036854775807) :
  Calls Tryz.prog 32 #[.pointer (some ⟨b,0,none⟩),.agg (mV m)] w fun e w' => e = .returned (.tuple #[]) ∧ PS w0 (w.alloc (.cells (mV m) 29)) b (s ++ eY m) w':=by
 have hbw : b < w.heap.size:=by rcases h.own with h | h <;> exact h.lt
 have hb0:=(MapKept.heap_alloc w (.cells (mV m) 29)).1;have z1 : (w.alloc (.cells (mV m) 29)).heap.size = w.heap.size + 1:=ar;have hP0 : PS w0 (w.alloc (.cells (mV m) 29)) b s (w.alloc (.cells (mV m) 29)):=⟨cd h.own (ag w _),h.low.trans ((ag w _).mono h.low.size),cA.refl _ _⟩;have hbne : w.heap.size ≠ b:=ae;have HW : w.alloc (bJ m.ta m.tn m.tc m.ha m.hn m.hc m.ga m.gn m.gc m.fi m.mo m.fa m.fn m.fc m.da m.dn m.dc m.ea m.en m.ec) = w.alloc (.cells (mV m) 29):=rfl
 have hLL : s.length + (7 + ((m.types.flatMap ju).length + ((m.hosts.flatMap fh).length + ((m.globals.flatMap glL).length + ((mC m.fi m.mo).length + ((m.fns.flatMap fuL).length + ((m.data.flatMap daL).length + (m.exps.flatMap exL).length))))))) + 100 ≤ 35184372088832:=by
  have e : (eY m).length = 7 + ((m.types.flatMap ju).length + ((m.hosts.flatMap fh).length + ((m.globals.flatMap glL).length + ((mC m.fi m.mo).length + ((m.fns.flatMap fuL).length + ((m.data.flatMap daL).length + (m.exps.flatMap exL).length)))))):=by
   simp only [eY,List.length_append]; rfl
  omega
 have HML : s ++ eY m = ((((((((s ++ bo [dJ]) ++ m.types.flatMap ju) ++ m.hosts.flatMap fh) ++ m.globals.flatMap glL) ++ mC m.fi m.mo) ++ m.fns.flatMap fuL) ++ m.data.flatMap daL) ++ m.exps.flatMap exL):=by
  simp only [eY,List.append_assoc]
 rw [HML];clear HML hL;generalize w.alloc (.cells (mV m) 29) = W1 at *;have HB:=hid hb0
 have HL:=hid (hP0.line [dJ] 1 rfl (by show s.length + 1 + 7 ≤ _; omega))
 rw [z1] at HL;have HGL:=hid hgl;have HCN:=hid hcn;have HTN:=hid htn;have HKD:=hid hk;have HMM:=hid hM;have HTS:=hid hts;have HLL:=hid hLL
 show Calls Tryz.prog 32 #[.pointer (some ⟨b,0,none⟩),.agg #[.slice m.ta m.tn m.tc,.slice m.ha m.hn m.hc,.slice m.ga m.gn m.gc,.int .i64 m.fi,.int .i64 m.mo,.slice m.fa m.fn m.fc,.slice m.da m.dn m.dc,.slice m.ea m.en m.ec]] w _
 clear h hP0 hb0 hgl hcn htn hk hM hts hLL
 go_enter Tryz.func32,Tryz.ntmps32
 go_wp2_with fail;refine HL.out.mono ?_;rintro e wa ⟨rfl,hPa⟩;obtain ⟨⟨m0,-,-,-,-,-,-,-⟩,-⟩:=av (hPa.m_cells HB.out hbne);have HPa:=hid hPa;clear hPa HL;go_wp2_with fail
 have HS1:=hid (show (s ++ bo [dJ]).length = s.length + 7 by simp; rfl)
 generalize hse1 : s ++ bo [dJ] = s1 at *;have HE1:=hid hse1;clear hse1;clear m0
 go_loopw [24] (fun i W => ∃ k : Nat,k ≤ m.tn ∧ i = .int .i64 k ∧ PS w0 W1 b (s1 ++ (m.types.take k).flatMap ju) W) (fun i _ => m.tn - (intOf i).toNat)
 case atStart => exact ⟨0,Nat.zero_le _,rfl,mU⟩
 case round =>
  obtain ⟨k,hk,rfl,hP⟩:=hrel;have hTl:=HMM.out.pt.1;clear HPa
  by_cases hlt : k < m.tn
  ·obtain ⟨⟨yp,yr⟩,hy⟩ : ∃ y,m.types[k]? = some y:=⟨_,aD ae⟩
   obtain ⟨bb,off,hta,hx⟩ : ∃ bb off,m.ta = some ⟨bb,off,none⟩ ∧ (w0.cell? ⟨bb,off + k * 2,none⟩ = some (.string yp) ∧ w0.cell? ⟨bb,off + k * 2 + 1,none⟩ = some (.string yr)):=by
    rcases HMM.out.pt.2 with h | ⟨bb,off,h,h'⟩
    ·omega
    ·exact ⟨bb,off,h,h' k (yp,yr) hy⟩
   have k0:=hP.cell hx.1;have k1:=hP.cell hx.2;have HY:=HTS.out k (yp,yr) hy;have HTk:=hid (cJ hy);have HFL:=hid (fR ju m.types k (yp,yr) hy);have HP:=hid hP
   have HWd:=hid (fun W => Mw yp yr W HY.1 HY.2)
   clear hx hy hP HY;rw [hta];go_wp2_with fail;refine (HWd.out _).mono ?_;rintro e w4 ⟨rfl,hb4⟩;have P4:=hid (HP.out.later ((ag _ _).trans (hb4.mono ar)));clear hb4
   have HL:=hid (P4.out.line [fM,kj yp yr] 2 rfl (by
    have h1:=HFL.out; have h2:=HLL.out; have h3:=HS1.out
    show (s1 ++ (m.types.take k).flatMap ju).length + 2 + (ju (yp,yr)).length ≤ _
    rw [List.length_append]
    omega))
   go_wp2_with fail;refine HL.out.mono ?_;rintro e w5 ⟨rfl,h5⟩;have P5:=hid h5;clear h5;go_wp2_with fail
   go_roundw
   case rel =>
    exact jZ
   case measure => show m.tn - ((k : Int) + 1).toNat < m.tn - (k : Int).toNat; omega
  ·obtain rfl : k = m.tn:=ae;rw [List.take_of_length_le ae] at hP;obtain ⟨⟨-,m1,m2,m3,m4,m5,m6,m7⟩,-⟩:=av (hP.m_cells HB.out hbne);have HPa:=hid hP;clear hP
   have HS1':=hid (show (s1 ++ m.types.flatMap ju).length = s1.length + (m.types.flatMap ju).length by rw [List.length_append])
   generalize hse2 : s1 ++ m.types.flatMap ju = s2 at *;have HE2:=hid hse2;clear hse2
   have HS1:=hid (HS1'.out.trans (congrArg (· + _) HS1.out))
   clear HS1';go_wp2_with fail;clear m1 m2 m3 m4 m5 m6 m7
   go_loopw [41] (fun i W => ∃ k : Nat,k ≤ m.hn ∧ i = .int .i64 k ∧ PS w0 W1 b (s2 ++ (m.hosts.take k).flatMap fh) W) (fun i _ => m.hn - (intOf i).toNat)
   case atStart => exact ⟨0,Nat.zero_le _,rfl,mU⟩
   case round =>
    obtain ⟨k,hk,rfl,hP⟩:=hrel;have hTl:=HMM.out.ph.1;clear HPa
    by_cases hlt : k < m.hn
    ·obtain ⟨y,hy⟩ : ∃ y,m.hosts[k]? = some y:=⟨_,aD ae⟩
     obtain ⟨bb,off,hta,hx⟩ : ∃ bb off,m.ha = some ⟨bb,off,none⟩ ∧ w0.cell? ⟨bb,off + k,none⟩ = some (.int .i64 y):=by
      rcases HMM.out.ph.2 with h | ⟨bb,off,h,h'⟩
      ·omega
      ·exact ⟨bb,off,h,h' k y hy⟩
     have k0:=hP.cell hx;have HY:=HMM.out.hr k y hy;have HTk:=hid (cJ hy);have HFL:=hid (fR fh m.hosts k y hy);have HP:=hid hP
     have HWd:=hid (fun W (hW : PS w0 W1 b (s2 ++ (m.hosts.take k).flatMap fh) W) => hW.itoa HTN.out y HY.1 ae)
     clear hx hy hP;rw [hta];go_wp2_with fail;refine (HWd.out _ HP.out).mono ?_;rintro e w4 ⟨rfl,P4',_⟩;have P4:=hid P4';clear P4'
     have HL:=hid (P4.out.line [dL,aS y] 2 rfl (by
      have h1:=HFL.out; have h2:=HLL.out; have h3:=HS1.out
      show (s2 ++ (m.hosts.take k).flatMap fh).length + 2 + (fh y).length ≤ _
      rw [List.length_append]
      omega))
     go_wp2_with fail;refine HL.out.mono ?_;rintro e w5 ⟨rfl,h5⟩;have P5:=hid h5;clear h5;go_wp2_with fail
     go_roundw
     case rel =>
      exact jZ
     case measure => show m.hn - ((k : Int) + 1).toNat < m.hn - (k : Int).toNat; omega
    ·obtain rfl : k = m.hn:=ae;rw [List.take_of_length_le ae] at hP;obtain ⟨⟨-,m1,m2,m3,m4,m5,m6,m7⟩,-⟩:=av (hP.m_cells HB.out hbne);have HPa:=hid hP;clear hP
     have HS1':=hid (show (s2 ++ m.hosts.flatMap fh).length = s2.length + (m.hosts.flatMap fh).length by rw [List.length_append])
     generalize hse3 : s2 ++ m.hosts.flatMap fh = s3 at *;have HE3:=hid hse3;clear hse3
     have HS1:=hid (HS1'.out.trans (congrArg (· + _) HS1.out))
     clear HS1';go_wp2_with fail;clear m1 m2 m3 m4 m5 m6 m7
     go_loopw [54] (fun i W => ∃ k : Nat,k ≤ m.gn ∧ i = .int .i64 k ∧ PS w0 W1 b (s3 ++ (m.globals.take k).flatMap glL) W) (fun i _ => m.gn - (intOf i).toNat)
     case atStart => exact ⟨0,Nat.zero_le _,rfl,mU⟩
     case round =>
      obtain ⟨k,hk,rfl,hP⟩:=hrel;have hTl:=HMM.out.pg.1;clear HPa
      by_cases hlt : k < m.gn
      ·obtain ⟨⟨yc,ym,yv⟩,hy⟩ : ∃ y,m.globals[k]? = some y:=⟨_,aD ae⟩
       obtain ⟨bb,off,hta,hx⟩ : ∃ bb off,m.ga = some ⟨bb,off,none⟩ ∧ (w0.cell? ⟨bb,off + k * 3,none⟩ = some (.int .u8 yc) ∧ w0.cell? ⟨bb,off + k * 3 + 1,none⟩ = some (.bool ym) ∧ w0.cell? ⟨bb,off + k * 3 + 2,none⟩ = some (.int .u64 yv)):=by
        rcases HMM.out.pg.2 with h | ⟨bb,off,h,h'⟩
        ·omega
        ·exact ⟨bb,off,h,h' k (yc,ym,yv) hy⟩
       have k0:=hP.cell hx.1;have k1:=hP.cell hx.2.1;have k2:=hP.cell hx.2.2;have HY:=hid (And.intro (HMM.out.gr k _ hy) (HGL.out k _ hy));have HTk:=hid (cJ hy);have HFL:=hid (fR glL m.globals k _ hy);have HP:=hid hP;have B9:=ag wr (aL yc ym yv);have P9:=hid (HP.out.later B9);have hblk:=heap_alloc_new wr (aL yc ym yv);have d0 : (wr.alloc (aL yc ym yv)).cell? ⟨wr.heap.size,0,none⟩ = some (.int .u8 yc):=wy;have d1 : (wr.alloc (aL yc ym yv)).cell? ⟨wr.heap.size,1,none⟩ = some (.bool ym):=wy;have d2 : (wr.alloc (aL yc ym yv)).cell? ⟨wr.heap.size,2,none⟩ = some (.int .u64 yv):=wy;have HCV:=tW yc HY.out.1.1 HY.out.2
       have hbB : b < wr.heap.size:=by rcases HP.out.own with h | h <;> exact h.lt
       clear hx hy hP B9;rw [hta];go_wp2_with fail;generalize wr.alloc (aL yc ym yv) = wz at *;generalize wr.heap.size = X at *;have P9d:=hid (P9.out.later ((Below.refl _ wz).drew))
       have HMK:=hid (fun (W : World) (hb : Below wz.drew.heap.size wz.drew W) => (⟨P9d.out.later hb,ak hb hblk,aw hb d0,aw hb d1,aw hb d2⟩ : PS w0 W1 b (s3 ++ (m.globals.take k).flatMap glL) W ∧ W.heap[X]? = some (aL yc ym yv) ∧ W.cell? ⟨X,0,none⟩ = some (.int .u8 yc) ∧ W.cell? ⟨X,1,none⟩ = some (.bool ym) ∧ W.cell? ⟨X,2,none⟩ = some (.int .u64 yv)))
       have HMH:=hid (fun (W W' : World) (hh : cA b W W') (hk : W.heap[X]? = some (aL yc ym yv)) => (⟨(hh.cell hk aq ae).trans (aj hk),(hh.cell hk aq ae).trans (aj hk),(hh.cell hk aq ae).trans (aj hk)⟩ : W'.cell? ⟨X,0,none⟩ = some (.int .u8 yc) ∧ W'.cell? ⟨X,1,none⟩ = some (.bool ym) ∧ W'.cell? ⟨X,2,none⟩ = some (.int .u64 yv)))
       have HV:=hid (fun (W : World) (hW : PS w0 W1 b (s3 ++ (m.globals.take k).flatMap glL) W) => G8 w0.heap.size yc yv ym W hW.low.size (HTN.out.later hW.low) HY.out.1.2.2.1 HY.out.1.2.2.2)
       have HLN:=hid (fun (W : World) (hW : PS w0 W1 b (s3 ++ (m.globals.take k).flatMap glL) W) => hW.line2 [cV,⟨#[UInt8.ofNat yc.toNat]⟩,gZ ym,aS (gD yc yv)] 4 rfl (by
        have h1:=HFL.out; have h2:=HLL.out; have h3:=HS1.out
        show (s3 ++ (m.globals.take k).flatMap glL).length + 4 + (glL (yc,ym,yv)).length ≤ _
        rw [List.length_append]
        omega))
       clear hblk
       go_region_held3 (fun W => W.cell? ⟨X,0,none⟩ = some (.int .u8 yc) ∧ W.cell? ⟨X,1,none⟩ = some (.bool ym) ∧ W.cell? ⟨X,2,none⟩ = some (.int .u64 yv)) (go_keep)
        (first
        | (go_at_call 95; refine (LK ym _).mono ?_; rintro e w3 ⟨rfl,hw3⟩; have hw4:=hw3.symm; subst hw4)
        | (go_at_call 96; refine (HV.out _ P9d.out).mono ?_; rintro e w4 ⟨rfl,hb4⟩; obtain ⟨p4,k4,f0,f1,f2⟩:=HMK.out _ hb4; have P4:=hid p4; have K4:=hid k4; clear hb4 p4 k4)
        | (go_at_call 92; refine (HLN.out _ P4.out).mono ?_; rintro e w5 ⟨rfl,h5,hh5⟩; have P5:=hid h5; obtain ⟨g0,g1,g2⟩:=HMH.out _ _ hh5 K4.out; clear h5 hh5))
       go_wp2_with fail
       go_roundw
       case rel =>
        exact jZ
       case measure => show m.gn - ((k : Int) + 1).toNat < m.gn - (k : Int).toNat; omega
      ·obtain rfl : k = m.gn:=ae;rw [List.take_of_length_le ae] at hP;obtain ⟨⟨-,m1,m2,m3,m4,m5,m6,m7⟩,-⟩:=av (hP.m_cells HB.out hbne);have HPa:=hid hP;clear hP
       have HS1':=hid (show (s3 ++ m.globals.flatMap glL).length = s3.length + (m.globals.flatMap glL).length by rw [List.length_append])
       generalize hse4 : s3 ++ m.globals.flatMap glL = s4 at *;have HE4:=hid hse4;clear hse4
       have HS1:=hid (HS1'.out.trans (congrArg (· + _) HS1.out))
       clear HS1';go_wp2_with fail;have HPd:=hid (HPa.out.later ((Below.refl _ wr).drew));have HBX:=hid (HPa.out.m_cells HB.out hbne)
       have HMK:=hid (fun (W : World) (hb : Below wr.drew.heap.size wr.drew W) => (⟨HPd.out.later hb,ak hb HBX.out,aj (ak hb HBX.out),aj (ak hb HBX.out)⟩ : PS w0 W1 b s4 W ∧ W.heap[w.heap.size]? = some (.cells (mV m) 29) ∧ W.cell? ⟨w.heap.size,3,none⟩ = some (.int .i64 m.fi) ∧ W.cell? ⟨w.heap.size,4,none⟩ = some (.int .i64 m.mo)))
       have HMH:=hid (fun (W W' : World) (hh : cA b W W') (hk : W.heap[w.heap.size]? = some (.cells (mV m) 29)) => (⟨(hh.cell hk aq hbne).trans (aj hk),(hh.cell hk aq hbne).trans (aj hk)⟩ : W'.cell? ⟨w.heap.size,3,none⟩ = some (.int .i64 m.fi) ∧ W'.cell? ⟨w.heap.size,4,none⟩ = some (.int .i64 m.mo)))
       have HV3:=hid (fun (W : World) (hW : PS w0 W1 b s4 W) => hW.itoa HTN.out m.fi HMM.out.i0 (by have:=HMM.out.i1; omega))
       have HV4:=hid (fun (W : World) (hW : PS w0 W1 b s4 W) => hW.itoa HTN.out m.mo HMM.out.o0 (by have:=HMM.out.o1; omega))
       have HLN:=hid (fun (W : World) (hW : PS w0 W1 b s4 W) => hW.line2 [dB,aS m.fi,aS m.mo] 3 rfl (by
        have h2:=HLL.out; have h3:=HS1.out
        show s4.length + 3 + (mC m.fi m.mo).length ≤ _
        omega))
       generalize hfi : m.fi = fi at HMK HMH HV3 HLN m3 ⊢;generalize hmo : m.mo = mo at HMK HMH HV4 HLN m4 ⊢
       go_region_held3 (fun W => W.cell? ⟨w.heap.size,3,none⟩ = some (.int .i64 fi) ∧ W.cell? ⟨w.heap.size,4,none⟩ = some (.int .i64 mo)) (go_keep)
        (first
        | (go_at_call 94; have hprev:=P3; refine (HV4.out _ P3.out).mono ?_; rintro e w4 ⟨rfl,-,hb4⟩; obtain ⟨p4,k4,f0,f1⟩:=HMK.out _ (B3.out.trans (hb4.mono B3.out.size)); have P4:=hid p4; have K4:=hid k4; clear hb4 p4 k4)
        | (go_at_call 94; refine (HV3.out _ HPd.out).mono ?_; rintro e w3 ⟨rfl,-,hb3⟩; have B3:=hid hb3; obtain ⟨p3,k3,f0,f1⟩:=HMK.out _ hb3; have P3:=hid p3; have K3:=hid k3; clear hb3 p3 k3)
        | (go_at_call 92; refine (HLN.out _ P4.out).mono ?_; rintro e w5 ⟨rfl,h5,hh5⟩; have P5:=hid h5; obtain ⟨g0,g1⟩:=HMH.out _ _ hh5 K4.out; clear h5 hh5))
       subst hfi hmo;have HPa:=P5;clear P5
       have HS1':=hid (show (s4 ++ mC m.fi m.mo).length = s4.length + (mC m.fi m.mo).length by rw [List.length_append])
       change Hid (PS w0 W1 b (s4 ++ mC m.fi m.mo) _) at HPa
       generalize hse5 : s4 ++ mC m.fi m.mo = s5 at *;have HE5:=hid hse5;clear hse5
       have HS1:=hid (HS1'.out.trans (congrArg (· + _) HS1.out))
       clear HS1';clear m1 m2 m3 m4 m5 m6 m7;obtain ⟨⟨-,-,-,-,-,m5,-,-⟩,-⟩:=av (HPa.out.m_cells HB.out hbne);go_wp2_with fail;clear m5
       go_loopw [82] (fun i W => ∃ k : Nat,k ≤ m.fn ∧ i = .int .i64 k ∧ PS w0 W1 b (s5 ++ (m.fns.take k).flatMap fuL) W) (fun i _ => m.fn - (intOf i).toNat)
       case atStart => exact ⟨0,Nat.zero_le _,rfl,mU⟩
       case round =>
        obtain ⟨k,hk,rfl,hP⟩:=hrel;have hTl:=HMM.out.pf.1;clear HPa
        by_cases hlt : k < m.fn
        ·obtain ⟨⟨yt,yl,⟨ya,yn,yc⟩,yx⟩,hy⟩ : ∃ y,m.fns[k]? = some y:=⟨_,aD ae⟩
         obtain ⟨bb,off,hta,hx⟩ : ∃ bb off,m.fa = some ⟨bb,off,none⟩ ∧ (w0.cell? ⟨bb,off + k * 3,none⟩ = some (.int .i64 yt) ∧ w0.cell? ⟨bb,off + k * 3 + 1,none⟩ = some (.string yl) ∧ w0.cell? ⟨bb,off + k * 3 + 2,none⟩ = some (.slice ya yn yc)):=by
          rcases HMM.out.pf.2 with h | ⟨bb,off,h,h'⟩
          ·omega
          ·exact ⟨bb,off,h,h' k _ hy⟩
         have k0:=hP.cell hx.1;have k1:=hP.cell hx.2.1;have k2:=hP.cell hx.2.2;have HY:=hid (And.intro (HMM.out.fr k _ hy) (HCN.out k _ hy));have HTk:=hid (cJ hy);have HFL:=hid (fR fuL m.fns k _ hy);have HP:=hid hP
         have HFN:=hid (fun (W : World) (hW : PS w0 W1 b (s5 ++ (m.fns.take k).flatMap fuL) W) => hW.func HTN.out HKD.out yt yl ya yn yc yx ⟨HY.out.1.1.1,by have:=HY.out.1.1.2; (try dsimp only at this); omega⟩ HY.out.2.1 HY.out.1.2.1 (fun j y hj => ⟨⟨(HY.out.1.2.2.2 j y hj).1,(HY.out.1.2.2.2 j y hj).2.1⟩,HY.out.2.2 j y hj,(HY.out.1.2.2.2 j y hj).2.2.1⟩) (by
          have h1:=HFL.out; have h2:=HLL.out; have h3:=HS1.out
          show (s5 ++ (m.fns.take k).flatMap fuL).length + (fuL (yt,yl,(ya,yn,yc),yx)).length ≤ _
          rw [List.length_append]
          omega))
         clear hx hy hP;rw [hta];go_wp2_with fail;refine (HFN.out _ (HP.out.later (ag wr _))).mono ?_;rintro e w5 ⟨rfl,h5⟩;have P5:=hid h5;clear h5 HFN;go_wp2_with fail
         go_roundw
         case rel =>
          exact jZ
         case measure => show m.fn - ((k : Int) + 1).toNat < m.fn - (k : Int).toNat; omega
        ·obtain rfl : k = m.fn:=ae;rw [List.take_of_length_le ae] at hP;obtain ⟨⟨-,m1,m2,m3,m4,m5,m6,m7⟩,-⟩:=av (hP.m_cells HB.out hbne);have HPa:=hid hP;clear hP
         have HS1':=hid (show (s5 ++ m.fns.flatMap fuL).length = s5.length + (m.fns.flatMap fuL).length by rw [List.length_append])
         generalize hse6 : s5 ++ m.fns.flatMap fuL = s6 at *;have HE6:=hid hse6;clear hse6
         have HS1:=hid (HS1'.out.trans (congrArg (· + _) HS1.out))
         clear HS1';go_wp2_with fail;clear m1 m2 m3 m4 m5 m6 m7
         go_loopw [93] (fun i W => ∃ k : Nat,k ≤ m.dn ∧ i = .int .i64 k ∧ PS w0 W1 b (s6 ++ (m.data.take k).flatMap daL) W) (fun i _ => m.dn - (intOf i).toNat)
         case atStart => exact ⟨0,Nat.zero_le _,rfl,mU⟩
         case round =>
          obtain ⟨k,hk,rfl,hP⟩:=hrel;have hTl:=HMM.out.pd.1;clear HPa
          by_cases hlt : k < m.dn
          ·obtain ⟨⟨yt,⟨ya,yn,yc⟩,yx⟩,hy⟩ : ∃ y,m.data[k]? = some y:=⟨_,aD ae⟩
           obtain ⟨bb,off,hta,hx⟩ : ∃ bb off,m.da = some ⟨bb,off,none⟩ ∧ (w0.cell? ⟨bb,off + k * 2,none⟩ = some (.int .i64 yt) ∧ w0.cell? ⟨bb,off + k * 2 + 1,none⟩ = some (.slice ya yn yc)):=by
            rcases HMM.out.pd.2 with h | ⟨bb,off,h,h'⟩
            ·omega
            ·exact ⟨bb,off,h,h' k _ hy⟩
           have k0:=hP.cell hx.1;have k1:=hP.cell hx.2;have HY:=hid (HMM.out.dr k _ hy);have HTk:=hid (cJ hy);have HFL:=hid (fR daL m.data k _ hy);have HP:=hid hP;have P9:=hid (HP.out.later (ag wr (aV yt ya yn yc)));have hblk:=heap_alloc_new wr (aV yt ya yn yc);have d0 : (wr.alloc (aV yt ya yn yc)).cell? ⟨wr.heap.size,0,none⟩ = some (.int .i64 yt):=aj hblk;have d1 : (wr.alloc (aV yt ya yn yc)).cell? ⟨wr.heap.size,1,none⟩ = some (.slice ya yn yc):=aj hblk
           have hbB : b < wr.heap.size:=by rcases HP.out.own with h | h <;> exact h.lt
           clear hx hy hP;rw [hta];go_wp2_with fail;generalize wr.alloc (aV yt ya yn yc) = wz at *;generalize wr.heap.size = X at *;have P9d:=hid (P9.out.later ((Below.refl _ wz).drew))
           have HMK:=hid (fun (W : World) (hb : Below wz.drew.heap.size wz.drew W) => (⟨P9d.out.later hb,ak hb hblk,aw hb d0,aw hb d1⟩ : PS w0 W1 b (s6 ++ (m.data.take k).flatMap daL) W ∧ W.heap[X]? = some (aV yt ya yn yc) ∧ W.cell? ⟨X,0,none⟩ = some (.int .i64 yt) ∧ W.cell? ⟨X,1,none⟩ = some (.slice ya yn yc)))
           have HMH:=hid (fun (W W' : World) (hh : cA b W W') (hk : W.heap[X]? = some (aV yt ya yn yc)) => (⟨(hh.cell hk aq ae).trans (aj hk),(hh.cell hk aq ae).trans (aj hk)⟩ : W'.cell? ⟨X,0,none⟩ = some (.int .i64 yt) ∧ W'.cell? ⟨X,1,none⟩ = some (.slice ya yn yc)))
           have HV:=hid (fun (W : World) (hW : PS w0 W1 b (s6 ++ (m.data.take k).flatMap daL) W) => hW.itoa HTN.out yt HY.out.1.1 (by have:=HY.out.1.2; (try dsimp only at this); omega))
           have HO:=hid (fun (W : World) (hW : PS w0 W1 b (s6 ++ (m.data.take k).flatMap daL) W) => FK ya yn yc yx W (HY.out.2.1.later hW.low (Nat.le_refl _)))
           have HLN:=hid (fun (W : World) (hW : PS w0 W1 b (s6 ++ (m.data.take k).flatMap daL) W) => hW.line2 [gB,aS yt,⟨(eX yx).toArray⟩] 3 rfl (by
            have h1:=HFL.out; have h2:=HLL.out; have h3:=HS1.out
            show (s6 ++ (m.data.take k).flatMap daL).length + 3 + (daL (yt,(ya,yn,yc),yx)).length ≤ _
            rw [List.length_append]
            omega))
           clear hblk
           go_region_held3 (fun W => W.cell? ⟨X,0,none⟩ = some (.int .i64 yt) ∧ W.cell? ⟨X,1,none⟩ = some (.slice ya yn yc)) (go_keep)
            (first
            | (go_at_call 94; refine (HV.out _ P9d.out).mono ?_; rintro e w3 ⟨rfl,-,hb3⟩; have B3:=hid hb3; obtain ⟨p3,k3,f0,f1⟩:=HMK.out _ hb3; have P3:=hid p3; have K3:=hid k3; clear hb3 p3 k3)
            | (go_at_call 98; refine (HO.out _ P3.out).mono ?_; rintro e w4 ⟨rfl,hb4⟩; obtain ⟨p4,k4,f0,f1⟩:=HMK.out _ (B3.out.trans (hb4.mono B3.out.size)); have P4:=hid p4; have K4:=hid k4; clear hb4 p4 k4)
            | (go_at_call 92; refine (HLN.out _ P4.out).mono ?_; rintro e w5 ⟨rfl,h5,hh5⟩; have P5:=hid h5; obtain ⟨g0,g1⟩:=HMH.out _ _ hh5 K4.out; clear h5 hh5))
           go_wp2_with fail
           go_roundw
           case rel =>
            exact jZ
           case measure => show m.dn - ((k : Int) + 1).toNat < m.dn - (k : Int).toNat; omega
          ·obtain rfl : k = m.dn:=ae;rw [List.take_of_length_le ae] at hP;obtain ⟨⟨-,m1,m2,m3,m4,m5,m6,m7⟩,-⟩:=av (hP.m_cells HB.out hbne);have HPa:=hid hP;clear hP
           have HS1':=hid (show (s6 ++ m.data.flatMap daL).length = s6.length + (m.data.flatMap daL).length by rw [List.length_append])
           generalize hse7 : s6 ++ m.data.flatMap daL = s7 at *;have HE7:=hid hse7;clear hse7
           have HS1:=hid (HS1'.out.trans (congrArg (· + _) HS1.out))
           clear HS1';go_wp2_with fail;clear m1 m2 m3 m4 m5 m6 m7
           go_loopw [110] (fun i W => ∃ k : Nat,k ≤ m.en ∧ i = .int .i64 k ∧ PS w0 W1 b (s7 ++ (m.exps.take k).flatMap exL) W) (fun i _ => m.en - (intOf i).toNat)
           case atStart => exact ⟨0,Nat.zero_le _,rfl,mU⟩
           case round =>
            obtain ⟨k,hk,rfl,hP⟩:=hrel;have hTl:=HMM.out.pe.1;clear HPa
            by_cases hlt : k < m.en
            ·obtain ⟨⟨yn,yf⟩,hy⟩ : ∃ y,m.exps[k]? = some y:=⟨_,aD ae⟩
             obtain ⟨bb,off,hta,hx⟩ : ∃ bb off,m.ea = some ⟨bb,off,none⟩ ∧ (w0.cell? ⟨bb,off + k * 2,none⟩ = some (.string yn) ∧ w0.cell? ⟨bb,off + k * 2 + 1,none⟩ = some (.int .i64 yf)):=by
              rcases HMM.out.pe.2 with h | ⟨bb,off,h,h'⟩
              ·omega
              ·exact ⟨bb,off,h,h' k _ hy⟩
             have k0:=hP.cell hx.1;have k1:=hP.cell hx.2;have HY:=hid (HMM.out.er k _ hy);have HTk:=hid (cJ hy);have HFL:=hid (fR exL m.exps k _ hy);have HP:=hid hP;have P9:=hid (HP.out.later (ag wr (aY yn yf)));have hblk:=heap_alloc_new wr (aY yn yf);have d0 : (wr.alloc (aY yn yf)).cell? ⟨wr.heap.size,0,none⟩ = some (.string yn):=aj hblk;have d1 : (wr.alloc (aY yn yf)).cell? ⟨wr.heap.size,1,none⟩ = some (.int .i64 yf):=aj hblk
             have hbB : b < wr.heap.size:=by rcases HP.out.own with h | h <;> exact h.lt
             clear hx hy hP;rw [hta];go_wp2_with fail;generalize wr.alloc (aY yn yf) = wz at *;generalize wr.heap.size = X at *;have P9d:=hid (P9.out.later ((Below.refl _ wz).drew))
             have HMK:=hid (fun (W : World) (hb : Below wz.drew.heap.size wz.drew W) => (⟨P9d.out.later hb,ak hb hblk,aw hb d0,aw hb d1⟩ : PS w0 W1 b (s7 ++ (m.exps.take k).flatMap exL) W ∧ W.heap[X]? = some (aY yn yf) ∧ W.cell? ⟨X,0,none⟩ = some (.string yn) ∧ W.cell? ⟨X,1,none⟩ = some (.int .i64 yf)))
             have HMH:=hid (fun (W W' : World) (hh : cA b W W') (hk : W.heap[X]? = some (aY yn yf)) => (⟨(hh.cell hk aq ae).trans (aj hk),(hh.cell hk aq ae).trans (aj hk)⟩ : W'.cell? ⟨X,0,none⟩ = some (.string yn) ∧ W'.cell? ⟨X,1,none⟩ = some (.int .i64 yf)))
             have HV:=hid (fun (W : World) (hW : PS w0 W1 b (s7 ++ (m.exps.take k).flatMap exL) W) => hW.itoa HTN.out yf HY.out.1 (by have:=HY.out.2; (try dsimp only at this); omega))
             have HLN:=hid (fun (W : World) (hW : PS w0 W1 b (s7 ++ (m.exps.take k).flatMap exL) W) => hW.line2 [dF,yn,aS yf] 3 rfl (by
              have h1:=HFL.out; have h2:=HLL.out; have h3:=HS1.out
              show (s7 ++ (m.exps.take k).flatMap exL).length + 3 + (exL (yn,yf)).length ≤ _
              rw [List.length_append]
              omega))
             clear hblk
             go_region_held3 (fun W => W.cell? ⟨X,0,none⟩ = some (.string yn) ∧ W.cell? ⟨X,1,none⟩ = some (.int .i64 yf)) (go_keep)
              (first
              | (go_at_call 94; refine (HV.out _ P9d.out).mono ?_; rintro e w4 ⟨rfl,-,hb4⟩; obtain ⟨p4,k4,f0,f1⟩:=HMK.out _ hb4; have P4:=hid p4; have K4:=hid k4; clear hb4 p4 k4)
              | (go_at_call 92; refine (HLN.out _ P4.out).mono ?_; rintro e w5 ⟨rfl,h5,hh5⟩; have P5:=hid h5; obtain ⟨g0,g1⟩:=HMH.out _ _ hh5 K4.out; clear h5 hh5))
             go_wp2_with fail
             go_roundw
             case rel =>
              exact jZ
             case measure => show m.en - ((k : Int) + 1).toNat < m.en - (k : Int).toNat; omega
            ·obtain rfl : k = m.en:=ae;rw [List.take_of_length_le ae] at hP;obtain ⟨⟨-,m1,m2,m3,m4,m5,m6,m7⟩,-⟩:=av (hP.m_cells HB.out hbne);have HPa:=hid hP;clear hP;go_wp2_with fail;go_end0;have hfin:=HPa.out;rw [← HE7.out,← HE6.out,← HE5.out,← HE4.out,← HE3.out,← HE2.out,← HE1.out] at hfin;exact ⟨rfl,hfin⟩
theorem ct {a b : Int} (h : orE a b = 0) : a = 0 ∧ b = 0:=by
 unfold orE at h
 by_cases ha : a = 0
 ·rw [if_neg (by simpa using ha)] at h; exact ⟨ha,h⟩
 ·rw [if_pos ha] at h; exact absurd h ha
theorem vJ {m : MM} (h : fD m = 0) : e1 m = 0 ∧ e2 m = 0 ∧ e3 m = 0 ∧ e4 m = 0 ∧ e5 m = 0 ∧ e6 m = 0 ∧ e7 m = 0 ∧ e8 m = 0:=by
 unfold fD at h;obtain ⟨h1,h⟩:=ct h;obtain ⟨h2,h⟩:=ct h;obtain ⟨h3,h⟩:=ct h;obtain ⟨h4,h⟩:=ct h;obtain ⟨h5,h⟩:=ct h;obtain ⟨h6,h⟩:=ct h;obtain ⟨h7,h⟩:=ct h;exact ⟨h1,h2,h3,h4,h5,h6,h7,h⟩
theorem eQ {α : Type} {f : List α → α → Int} {most : Int} {xs : List α} (h : bF f most xs = 0) : (xs.length : Int) ≤ most ∧ ∀ (j : Nat) x,xs[j]? = some x → f (xs.take j) x = 0:=by
 unfold bF at h
 split at h
 ·cases h
 ·rename_i hl
  refine ⟨ae,fun j x hj => ?_⟩
  have:=bi f xs [] h j x hj
  exact bV
theorem vq {ah : List Sg} {x : Sg} (h : dw ah x = 0) : x.1.size ≤ 8 ∧ bI x.1 8 = true ∧ x.2.size ≤ 8 ∧ bI x.2 8 = true:=by
 unfold dw at h
 by_cases a1 : 8 < x.1.size
 ·rw [if_pos a1] at h; cases h
 rw [if_neg a1] at h
 by_cases a2 : bI x.1 8 = false
 ·rw [if_pos a2] at h; cases h
 rw [if_neg a2] at h
 by_cases a3 : 8 < x.2.size
 ·rw [if_pos a3] at h; cases h
 rw [if_neg a3] at h
 by_cases a4 : bI x.2 8 = false
 ·rw [if_pos a4] at h; cases h
 exact ⟨ae,by simpa using a2,ae,by simpa using a4⟩
theorem vr {sg : List Sg} {left ty : Int} {lo : ByteArray} {xs : List InM} (h : fF sg left ty lo xs = 0) : 0 ≤ ty ∧ ty < sg.length ∧ lo.size + (mR sg ty).size ≤ 64 ∧ bI lo 64 = true ∧ xs.length ≤ 2048 ∧ ∀ (j : Nat) x,xs[j]? = some x → dP x = 0:=by
 unfold fF at h
 by_cases a1 : ty < 0 ∨ (sg.length : Int) ≤ ty
 ·rw [if_pos a1] at h; cases h
 rw [if_neg a1] at h
 by_cases a2 : 64 < lo.size + (mR sg ty).size
 ·rw [if_pos a2] at h; cases h
 rw [if_neg a2] at h
 by_cases a3 : bI lo 64 = false
 ·rw [if_pos a3] at h; cases h
 rw [if_neg a3] at h
 by_cases a4 : min 2048 left < (xs.length : Int)
 ·rw [if_pos a4] at h; cases h
 rw [if_neg a4] at h
 exact ⟨ae,ae,ae,by simpa using a3,ae,fun j x hj => by simpa using bi _ xs [] h j x hj⟩
theorem t6 {t : Int} {g : Bool} {a : Int} {l : List Int} (h : chk t g a l = 0) : t ≠ -1 ∧ lo t g ≤ a ∧ a ≤ hi t g ∧ l.length ≤ 16 ∧ (t = 3 → 0 < l.length) ∧ (t ≠ 3 → l.length = 0):=by
 unfold chk at h
 by_cases a1 : t = -1
 ·rw [if_pos a1] at h; cases h
 rw [if_neg a1] at h
 by_cases a2 : a < lo t g ∨ hi t g < a
 ·rw [if_pos a2] at h; cases h
 rw [if_neg a2] at h
 by_cases a3 : t = 3
 ·rw [if_pos a3] at h
  by_cases a4 : l.length < 1 ∨ 16 < l.length
  ·rw [if_pos a4] at h; cases h
  ·exact ⟨a1,ae,ae,ae,fun _ => ae,fun e => absurd a3 e⟩
 ·rw [if_neg a3] at h
  by_cases a4 : l.length = 0
  ·exact ⟨a1,ae,ae,ae,fun e => absurd e a3,fun _ => a4⟩
  ·rw [if_neg a4] at h; cases h
theorem wq {x : Gl} (h : il x = 0) : (x.1 = 119 ∨ x.1 = 108) ∧ fL x.2.2 x.1 = true:=by
 unfold il at h
 by_cases b1 : isL x.1 = false
 ·exact mG
 ·rw [if_neg b1] at h
  have b2 : isL x.1 = true:=by simpa using b1
  simp only [isL,Bool.or_eq_true,decide_eq_true_eq] at b2
  refine ⟨b2,?_⟩
  by_cases b3 : fL x.2.2 x.1 = false
  ·rw [if_pos b3] at h; cases h
  ·simpa using b3
theorem jz {n x : Int} (h : dD n x = 0) : 0 ≤ x ∧ x < n:=by
 unfold dD at h
 by_cases b1 : x < 0 ∨ n ≤ x
 ·exact mG
 ·omega
theorem oW {n x : Int} (h : kq n x = 0) : n ≤ x ∧ x ≤ 64:=by
 unfold kq at h
 by_cases b1 : x < n ∨ 64 < x
 ·exact mG
 ·omega
theorem vp {room : Int} {ah : List DaM} {x : DaM} (h : cT room ah x = 0) : 0 ≤ x.1 ∧ x.1 ≤ room ∧ iN ah x.1 = false ∧ (x.2.2.length : Int) ≤ room - x.1 ∧ x.2.2.length ≠ 0:=by
 unfold cT at h
 by_cases b1 : x.1 < 0 ∨ room < x.1
 ·exact mG
 rw [if_neg b1] at h
 by_cases b2 : iN ah x.1 = true
 ·rw [if_pos b2] at h; cases h
 rw [if_neg b2] at h
 by_cases b3 : room - x.1 < (x.2.2.length : Int)
 ·rw [if_pos b3] at h; cases h
 rw [if_neg b3] at h
 by_cases b4 : x.2.2.length = 0
 ·rw [if_pos b4] at h; cases h
 exact ⟨ae,ae,by simpa using b2,ae,b4⟩
theorem wC {nf : Int} {ah : List Ex} {x : Ex} (h : fN nf ah x = 0) : x.1.size ≤ 32 ∧ iO x.1 = true ∧ fZ ah x.1 = false ∧ 0 ≤ x.2 ∧ x.2 < nf:=by
 unfold fN at h
 by_cases b1 : 32 < x.1.size
 ·exact mG
 rw [if_neg b1] at h
 by_cases b2 : iO x.1 = false
 ·rw [if_pos b2] at h; cases h
 rw [if_neg b2] at h
 by_cases b3 : fZ ah x.1 = true
 ·rw [if_pos b3] at h; cases h
 rw [if_neg b3] at h
 exact ⟨ae,by simpa using b2,by simpa using b3,(jz h).1,(jz h).2⟩
structure Pas (m : MM) : Prop where
 nt : m.types.length ≤ 64
 ty : ∀ (j : Nat) x,m.types[j]? = some x → x.1.size ≤ 8 ∧ bI x.1 8 = true ∧ x.2.size ≤ 8 ∧ bI x.2 8 = true
 nh : m.hosts.length ≤ 32
 ho : ∀ (j : Nat) x,m.hosts[j]? = some x → 0 ≤ x ∧ x < m.tn
 ng : m.globals.length ≤ 64
 gl : ∀ (j : Nat) x,m.globals[j]? = some x → (x.1 = 119 ∨ x.1 = 108) ∧ fL x.2.2 x.1 = true
 fi : 0 ≤ m.fi ∧ m.fi ≤ 64
 mo : m.fi ≤ m.mo ∧ m.mo ≤ 64
 nf : m.fns.length ≤ 128
 fn : ∀ (j : Nat) x,m.fns[j]? = some x → 0 ≤ x.1 ∧ x.1 < m.types.length ∧ x.2.1.size ≤ 64 ∧ bI x.2.1 64 = true ∧ x.2.2.2.length ≤ 2048 ∧ ∀ (i : Nat) y,x.2.2.2[i]? = some y → dP y = 0
 nd : m.data.length ≤ 64
 da : ∀ (j : Nat) x,m.data[j]? = some x → 0 ≤ x.1 ∧ x.1 ≤ 262144 ∧ x.2.2.length ≤ 262144 ∧ x.2.2.length ≠ 0
 ne : m.exps.length ≤ 64
 ex : ∀ (j : Nat) x,m.exps[j]? = some x → x.1.size ≤ 32 ∧ iO x.1 = true ∧ 0 ≤ x.2 ∧ x.2 < m.fn
theorem pB {m : MM} (h : cN m = 0) : Pas m:=by
 obtain ⟨h,_⟩:=ct h;obtain ⟨h1,h⟩:=ct h;obtain ⟨h2,h⟩:=ct h;obtain ⟨h3,h⟩:=ct h;obtain ⟨h4,h⟩:=ct h;obtain ⟨h5,h⟩:=ct h;obtain ⟨h6,h⟩:=ct h;obtain ⟨h7,h8⟩:=ct h;obtain ⟨l1,a1⟩:=eQ h1;obtain ⟨l2,a2⟩:=eQ h2;obtain ⟨l3,a3⟩:=eQ h3;obtain ⟨l6,a6⟩:=eQ h6;obtain ⟨l7,a7⟩:=eQ h7;obtain ⟨l8,a8⟩:=eQ h8;have p4:=oW h4;have p5:=oW h5
 refine ⟨ae,fun j x hj => vq (a1 j x hj),ae,fun j x hj => jz (a2 j x hj),ae,fun j x hj => wq (a3 j x hj),p4,p5,ae,fun j x hj => ?_,ae,fun j x hj => ?_,ae,fun j x hj => ?_⟩
 ·have:=vr (a6 j x hj)
  exact ⟨this.1,this.2.1,ae,this.2.2.2.1,this.2.2.2.2.1,this.2.2.2.2.2⟩
 ·have:=vp (a7 j x hj)
  exact ⟨this.1,ae,ae,this.2.2.2.2⟩
 ·have:=wC (a8 j x hj)
  exact ⟨this.1,this.2.1,this.2.2.2.1,this.2.2.2.2⟩
end Go.Proofs.YtheefojaplnnoaaGreatDoor

/-
  Texts Df.
-/
import Derived.Test.YtheefojaplnnoaaGreatDoorP00
import Derived.Test.YtheefojaplnnoaaGreatDoorP42
set_option linter.unusedVariables false
set_option maxRecDepth 100000
set_option maxHeartbeats 16000000
namespace Go.Proofs.YtheefojaplnnoaaGreatDoor
open Go.RowKit
theorem EH (m : MM) (w : World) (hm : ∀ R g,w.heap.size ≤ R → w.heap.size ≤ g → MOk w R g m) (hz : Szs m) (hir : DU m) :
  Calls Tryz.prog 12 #[.agg (mV m)] w fun e w' => e = .returned (.tuple #[.string (mQ m),.int .i64 (cL m)]) ∧ Below w.heap.size w w':=by
 have B0:=ak w (.cells (mV m) 29);have b0:=heap_alloc_new w (.cells (mV m) 29)
 have HC:=hid (Gz m (w.alloc (.cells (mV m) 29)) (fun R g h1 h2 => (hm R g (by simp at h1; omega) (by simp at h2; omega)).later B0) hz)
 have HW : w.alloc (bg m.ta m.tn m.tc m.ha m.hn m.hc m.ga m.gn m.gc m.fi m.mo m.fa m.fn m.fc m.da m.dn m.dc m.ea m.en m.ec) = w.alloc (.cells (mV m) 29):=rfl;have hW0 : (w.alloc (.cells (mV m) 29)).heap.size = w.heap.size + 1:=aq
 have HM:=hid (fun (W : World) (hb : Below w.heap.size w W) => (hm w.heap.size w.heap.size (Nat.le_refl _) (Nat.le_refl _)).later hb)
 have HIR:=hid hir;generalize w.alloc (.cells (mV m) 29) = W0 at *;unfold mV at HC;have HB0:=hid B0
 have HX:=hid (fun (W : World) (hb : Below W0.heap.size W0 W) => (⟨ai hb (ag b0),ai hb (ag b0),ai hb (ag b0),ai hb (ag b0),ai hb (ag b0),ai hb (ag b0),ai hb (ag b0),ai hb (ag b0)⟩ : W.cell? ⟨w.heap.size,0,none⟩ = some (.slice m.ta m.tn m.tc) ∧ W.cell? ⟨w.heap.size,1,none⟩ = some (.slice m.ha m.hn m.hc) ∧ W.cell? ⟨w.heap.size,2,none⟩ = some (.slice m.ga m.gn m.gc) ∧ W.cell? ⟨w.heap.size,3,none⟩ = some (.int .i64 m.fi) ∧ W.cell? ⟨w.heap.size,4,none⟩ = some (.int .i64 m.mo) ∧ W.cell? ⟨w.heap.size,5,none⟩ = some (.slice m.fa m.fn m.fc) ∧ W.cell? ⟨w.heap.size,6,none⟩ = some (.slice m.da m.dn m.dc) ∧ W.cell? ⟨w.heap.size,7,none⟩ = some (.slice m.ea m.en m.ec)))
 obtain ⟨m0,m1,m2,m3,m4,m5,m6,m7⟩:=HX.out W0 (Below.refl _ _);have HZ:=hid hW0;clear B0 b0 hW0 hz hm hir;obtain ⟨ce,hce⟩ : ∃ ce,cL m = ce:=⟨_,rfl⟩
 have HPV:=hid (show mQ m = if ce = 0 then ⟨(gp m).toArray⟩ else ⟨#[]⟩ by unfold mQ; rw [hce])
 rw [HPV.out,hce];rw [hce] at HC
 show Calls Tryz.prog 12 #[.agg #[.slice m.ta m.tn m.tc,.slice m.ha m.hn m.hc,.slice m.ga m.gn m.gc,.int .i64 m.fi,.int .i64 m.mo,.slice m.fa m.fn m.fc,.slice m.da m.dn m.dc,.slice m.ea m.en m.ec]] w _
 by_cases hc : ce = 0
 rotate_left
 ·rw [if_neg hc]
  have hne : (ce != 0) = true:=by simpa using hc
  clear hc hce HPV
  go_enter Tryz.func12,Tryz.ntmps12
  go_wp2_with fail;refine HC.out.mono ?_;rintro e w1 ⟨rfl,hb4⟩;have HB1:=hid (HB0.out.trans (hb4.mono HB0.out.size));clear hb4;go_wp2_with fail;go_ret2;exact ⟨rfl,HB1.out⟩
 subst hc;rw [if_pos rfl];have PA:=hid (xK hce);have HML:=hid (AU (HM.out W0 HB0.out) PA.out HIR.out);obtain ⟨P0,hP0⟩ : ∃ X,bj [kQ] = X:=⟨_,rfl⟩
 have HT0:=hid (show P0.length + ((m.types.flatMap gj).length + ((m.hosts.flatMap cZ).length + ((m.globals.flatMap glL).length + ((iu m.fi m.mo).length + ((m.fns.flatMap fuL).length + ((m.data.flatMap daL).length + (m.exps.flatMap exL).length)))))) ≤ 1000000000 by
  have h1:=HML.out
  have h2 : (gp m).length = P0.length + ((m.types.flatMap gj).length + ((m.hosts.flatMap cZ).length + ((m.globals.flatMap glL).length + ((iu m.fi m.mo).length + ((m.fns.flatMap fuL).length + ((m.data.flatMap daL).length + (m.exps.flatMap exL).length)))))):=by rw [← hP0]; simp only [gp,List.length_append]
  omega)
 have HE:=hid (show gp m = (((((((P0 ++ m.types.flatMap gj) ++ m.hosts.flatMap cZ) ++ m.globals.flatMap glL) ++ iu m.fi m.mo) ++ m.fns.flatMap fuL) ++ m.data.flatMap daL) ++ m.exps.flatMap exL) by rw [← hP0]; simp only [gp,List.append_assoc])
 have HP0:=hid hP0;clear hP0 hce HPV HML
 go_enter Tryz.func12,Tryz.ntmps12
 go_wp2_with fail;refine HC.out.mono ?_;rintro e w1 ⟨rfl,hb4⟩;have HB:=hid hb4;have HBy:=hid (Ju w1 W0.heap.size);clear hb4 HC HW;obtain ⟨m0,m1,m2,m3,m4,m5,m6,m7⟩:=HX.out _ HB.out
 go_wp2_with (at_builtin; (refine wC _ rfl (.tmp 25) (.const (.string ⟨#[102,108,97,103,111,110,10]⟩)) rfl W0.heap.size _ ([]) _ rfl rfl HBy.out av HB.out.size ?_; intro v5 w5 hown5 hb5 hk5; replace HBy:=hid hown5; replace HB:=hid (HB.out.trans hb5); clear hown5 hb5 hk5; obtain ⟨m0,m1,m2,m3,m4,m5,m6,m7⟩:=HX.out _ HB.out))
 have hby1 : By8 w5 W0.heap.size v5 P0:=by rw [← HP0.out]; exact HBy.out
 replace HBy:=hid hby1
 clear hby1;clear m0 m1 m2 m3 m4 m5 m6 m7
 go_loopw [5,6] (fun b i wr => ∃ t : Nat,t ≤ m.tn ∧ i = .int .i64 t ∧ Hid (By8 wr W0.heap.size b (P0 ++ (m.types.take t).flatMap gj)) ∧ Hid (Below W0.heap.size W0 wr)) (fun _ i _ => m.tn - (intOf i).toNat)
 case atStart => exact ⟨0,Nat.zero_le _,rfl,hid fN,HB⟩
 case round =>
  clear HBy HB;obtain ⟨t,ht,rfl,HBy,HB⟩:=hrel;have htl:=(HM.out W0 HB0.out).pt.1;have hnn:=PA.out.nt;rw [htl] at hnn;obtain ⟨m0,m1,m2,m3,m4,m5,m6,m7⟩:=HX.out _ HB.out
  by_cases hlt : t < m.tn
  ·as_aux_lemma =>
    have hlt' : (t : Int) < (m.tn : Int):=ae;obtain ⟨x,hx⟩ : ∃ x,m.types[t]? = some x:=⟨_,aN ae⟩;have hk0 : (0 : Int) ≤ (t : Int):=ae;have HFS:=hid (gI gj m.types hx)
    have HFB:=hid (show (P0 ++ (m.types.take t).flatMap gj).length + (gj x).length ≤ 1000000000 by rw [List.length_append]; have h1:=ct gj m.types t x hx; have h2:=HT0.out; omega)
    obtain ⟨bb,bof,hba,hat⟩:=(HM.out W0 HB0.out).pt.2.resolve_left ae;obtain ⟨e0,e1⟩:=hat t x hx
    have HG:=hid (fun (W : World) (hb : Below W0.heap.size W0 W) => (⟨ai hb e0,ai hb e1⟩ : W.cell? ⟨bb,bof + t * 2,none⟩ = some (.string x.1) ∧ W.cell? ⟨bb,bof + t * 2 + 1,none⟩ = some (.string x.2)))
    have HXB:=hid (fun (W : World) (hb : Below W0.heap.size W0 W) => (show W.cell? ⟨w.heap.size,0,none⟩ = some (.slice (some ⟨bb,bof,none⟩) m.tn m.tc) by have h1:=HX.out W hb; rw [hba] at h1; exact h1.1))
    clear hat m0 e0 e1;have m0:=HXB.out _ HB.out;obtain ⟨g0,g1⟩:=HG.out _ HB.out
    try rw [hba]
    generalize hR : P0 ++ (m.types.take t).flatMap gj = R at *;have HR:=hid hR;clear hR;have q:=PA.out.ty t x hx;have hs1:=Ao q.1 q.2.2.1
    have q1 : x.1.size ≤ 1073741824:=by have:=q.1; omega
    have q2 : x.2.size ≤ 1073741824:=by have:=q.2.2.1; omega
    clear hx q;obtain ⟨x1,x2⟩:=x;dsimp only at *;have HLN:=hid (FO x1 x2);go_wp2_with fail;refine (OT x1 x2 _ q1 q2).mono ?_;rintro e wt ⟨rfl,hb4⟩
    replace HBy:=hid (aI HBy.out hb4)
    replace HB:=hid (HB.out.trans (hb4.mono HB.out.size))
    clear hb4;clear m0 m1 m2 m3 m4 m5 m6 m7 g0 g1;generalize qR x1 x2 = sv at *
    go_wp2_with (at_builtin; (refine wC _ rfl (.tmp 43) (.tmp 46) rfl W0.heap.size _ (R) _ rfl rfl HBy.out ie HB.out.size ?_; intro v5 w5 hown5 hb5 hk5; replace HBy:=hid hown5; replace HB:=hid (HB.out.trans hb5); clear hown5 hb5 hk5))
    exact Iu
  ·as_aux_lemma =>
    obtain rfl : t = m.tn:=ae;have hta : m.types.take m.tn = m.types:=List.take_of_length_le ae;rw [hta] at HBy;clear hta;obtain ⟨P1,hPe⟩ : ∃ X,P0 ++ m.types.flatMap gj = X:=⟨_,rfl⟩;rw [hPe] at HBy
    have HT1:=hid (show P1.length + ((m.hosts.flatMap cZ).length + ((m.globals.flatMap glL).length + ((iu m.fi m.mo).length + ((m.fns.flatMap fuL).length + ((m.data.flatMap daL).length + (m.exps.flatMap exL).length))))) ≤ 1000000000 by rw [← hPe,List.length_append]; have h2:=HT0.out; omega)
    have HQ1:=hid hPe;clear hPe;go_wp2_with fail;clear m0 m1 m2 m3 m4 m5 m6 m7
    go_loopw [5,9] (fun b i wr => ∃ t : Nat,t ≤ m.hn ∧ i = .int .i64 t ∧ Hid (By8 wr W0.heap.size b (P1 ++ (m.hosts.take t).flatMap cZ)) ∧ Hid (Below W0.heap.size W0 wr)) (fun _ i _ => m.hn - (intOf i).toNat)
    case atStart => exact ⟨0,Nat.zero_le _,rfl,hid fN,HB⟩
    case round =>
     clear HBy HB;obtain ⟨t,ht,rfl,HBy,HB⟩:=hrel;have htl:=(HM.out W0 HB0.out).ph.1;have hnn:=PA.out.nh;rw [htl] at hnn;obtain ⟨m0,m1,m2,m3,m4,m5,m6,m7⟩:=HX.out _ HB.out
     by_cases hlt : t < m.hn
     ·as_aux_lemma =>
       have hlt' : (t : Int) < (m.hn : Int):=ae;obtain ⟨x,hx⟩ : ∃ x,m.hosts[t]? = some x:=⟨_,aN ae⟩;have hk0 : (0 : Int) ≤ (t : Int):=ae;have HFS:=hid (gI cZ m.hosts hx)
       have HFB:=hid (show (P1 ++ (m.hosts.take t).flatMap cZ).length + (cZ x).length ≤ 1000000000 by rw [List.length_append]; have h1:=ct cZ m.hosts t x hx; have h2:=HT1.out; omega)
       obtain ⟨bb,bof,hba,hat⟩:=(HM.out W0 HB0.out).ph.2.resolve_left ae;have e0:=hat t x hx
       have HG:=hid (fun (W : World) (hb : Below W0.heap.size W0 W) => ai hb e0)
       have HXB:=hid (fun (W : World) (hb : Below W0.heap.size W0 W) => (show W.cell? ⟨w.heap.size,1,none⟩ = some (.slice (some ⟨bb,bof,none⟩) m.hn m.hc) by have h1:=HX.out W hb; rw [hba] at h1; exact h1.2.1))
       clear hat m1 e0;have m1:=HXB.out _ HB.out;have g0:=HG.out _ HB.out
       try rw [hba]
       generalize hR : P1 ++ (m.hosts.take t).flatMap cZ = R at *;have HR:=hid hR;clear hR;have q:=(HM.out W0 HB0.out).hr t x hx;have hs1:=dA x q.1 ae
       have HD:=hid (fun W => lj x q.1 ae W)
       clear hx q;have HLN:=hid (Dn x);go_wp2_with fail;refine (HD.out _).mono ?_;rintro e wt ⟨rfl,hb4⟩
       replace HBy:=hid (aI HBy.out hb4)
       replace HB:=hid (HB.out.trans (hb4.mono HB.out.size))
       clear hb4;clear m0 m1 m2 m3 m4 m5 m6 m7 g0 HD;generalize bp x = sv at *
       go_wp2_with (at_builtin; (refine wC _ rfl (.tmp 55) (.tmp 63) rfl W0.heap.size _ (R) _ rfl rfl HBy.out ie HB.out.size ?_; intro v5 w5 hown5 hb5 hk5; replace HBy:=hid hown5; replace HB:=hid (HB.out.trans hb5); clear hown5 hb5 hk5))
       exact Iu
     ·as_aux_lemma =>
       obtain rfl : t = m.hn:=ae;have hta : m.hosts.take m.hn = m.hosts:=List.take_of_length_le ae;rw [hta] at HBy;clear hta;obtain ⟨P2,hPe⟩ : ∃ X,P1 ++ m.hosts.flatMap cZ = X:=⟨_,rfl⟩;rw [hPe] at HBy
       have HT2:=hid (show P2.length + ((m.globals.flatMap glL).length + ((iu m.fi m.mo).length + ((m.fns.flatMap fuL).length + ((m.data.flatMap daL).length + (m.exps.flatMap exL).length)))) ≤ 1000000000 by rw [← hPe,List.length_append]; have h2:=HT1.out; omega)
       have HQ2:=hid hPe;clear hPe;go_wp2_with fail;clear m0 m1 m2 m3 m4 m5 m6 m7
       go_loopw [5,10] (fun b i wr => ∃ t : Nat,t ≤ m.gn ∧ i = .int .i64 t ∧ Hid (By8 wr W0.heap.size b (P2 ++ (m.globals.take t).flatMap glL)) ∧ Hid (Below W0.heap.size W0 wr)) (fun _ i _ => m.gn - (intOf i).toNat)
       case atStart => exact ⟨0,Nat.zero_le _,rfl,hid fN,HB⟩
       case round =>
        clear HBy HB;obtain ⟨t,ht,rfl,HBy,HB⟩:=hrel;have htl:=(HM.out W0 HB0.out).pg.1;have hnn:=PA.out.ng;rw [htl] at hnn;obtain ⟨m0,m1,m2,m3,m4,m5,m6,m7⟩:=HX.out _ HB.out
        by_cases hlt : t < m.gn
        ·as_aux_lemma =>
          have hlt' : (t : Int) < (m.gn : Int):=ae;obtain ⟨x,hx⟩ : ∃ x,m.globals[t]? = some x:=⟨_,aN ae⟩;have hk0 : (0 : Int) ≤ (t : Int):=ae;have HFS:=hid (gI glL m.globals hx)
          have HFB:=hid (show (P2 ++ (m.globals.take t).flatMap glL).length + (glL x).length ≤ 1000000000 by rw [List.length_append]; have h1:=ct glL m.globals t x hx; have h2:=HT2.out; omega)
          obtain ⟨bb,bof,hba,hat⟩:=(HM.out W0 HB0.out).pg.2.resolve_left ae;obtain ⟨e0,e1,e2⟩:=hat t x hx
          have HG:=hid (fun (W : World) (hb : Below W0.heap.size W0 W) => (⟨ai hb e0,ai hb e1,ai hb e2⟩ : W.cell? ⟨bb,bof + t * 3,none⟩ = some (.int .u8 x.1) ∧ W.cell? ⟨bb,bof + t * 3 + 1,none⟩ = some (.bool x.2.1) ∧ W.cell? ⟨bb,bof + t * 3 + 2,none⟩ = some (.int .u64 x.2.2)))
          have HXB:=hid (fun (W : World) (hb : Below W0.heap.size W0 W) => (show W.cell? ⟨w.heap.size,2,none⟩ = some (.slice (some ⟨bb,bof,none⟩) m.gn m.gc) by have h1:=HX.out W hb; rw [hba] at h1; exact h1.2.2.1))
          clear hat m2 e0 e1 e2;have m2:=HXB.out _ HB.out;obtain ⟨g0,g1,g2⟩:=HG.out _ HB.out
          try rw [hba]
          generalize hR : P2 ++ (m.globals.take t).flatMap glL = R at *;have HR:=hid hR;clear hR;obtain ⟨r0,r1,r2,r3⟩:=(HM.out W0 HB0.out).gr t x hx;have pg:=PA.out.gl t x hx;have HTS:=hid (FB pg.1 pg.2 r2 r3)
          have hfi : x.1 = 119 → x.2.2 < 4294967296:=fun h => by
           have h3:=pg.2;rw [h] at h3; simpa [eJ] using h3
          have hsr : -9223372036854775808 ≤ sgn x.1 x.2.2 ∧ sgn x.1 x.2.2 ≤ 9223372036854775807:=by
           unfold sgn
           split
           ·split
            ·split <;> omega
            ·omega
           ·split <;> omega
          have HSV:=hid (fun (W : World) => lj (sgn x.1 x.2.2) hsr.1 hsr.2 W)
          have hnb:=dA (sgn x.1 x.2.2) hsr.1 hsr.2
          have HSG0:=hid (fun (W : World) (b : Bool) => rK (x.1,b,x.2.2) W r2 r3 hfi)
          clear hx pg hfi hsr r2 r3;obtain ⟨xc,xm,xv⟩:=x;dsimp only at *
          cases xm with
          | true =>
           have HLN:=hid (AX xc true xv);have how : Kc true = ⟨#[32,118,97,114,32]⟩:=rfl;rw [how,HTS.out] at HLN;have z7 : (⟨#[103,108,111,98,97,108,32]⟩ : ByteArray).size = 7:=rfl;have z1 : (⟨#[UInt8.ofNat xc.toNat]⟩ : ByteArray).size = 1:=rfl;have z2 : (⟨#[10]⟩ : ByteArray).size = 1:=rfl;have z5 : (⟨#[32,118,97,114,32]⟩ : ByteArray).size = 5:=rfl
           have HSG:=hid (fun (W : World) => HSG0.out W true)
           clear how HSG0;generalize hsv : sgn xc xv = sv at *;clear hsv;generalize bp sv = nb at *;have BN:=ak wr (bo xc true xv);have bf:=heap_alloc_new wr (bo xc true xv)
           replace HBy:=hid (aI HBy.out BN)
           replace HB:=hid (HB.out.trans (BN.mono HB.out.size))
           have HXF:=hid bf;go_wp2_with fail;clear BN bf m0 m1 m2 m3 m4 m5 m6 m7 g0 g1 g2;generalize wr.alloc (bo xc true xv) = wz at *;generalize wr.heap.size = X at *
           have HBQ:=hid (fun (W : World) (hb : Below wz.drew.heap.size wz.drew W) => aI (aI HBy.out ((Below.refl wz.heap.size wz).drew)) hb)
           have HXK:=hid (fun (W : World) (hb : Below wz.drew.heap.size wz.drew W) => ar hb (ar ((Below.refl wz.heap.size wz).drew) HXF.out))
           have HSK:=hid (fun (W : World) (hb : Below wz.drew.heap.size wz.drew W) => (⟨ag (HXK.out W hb),ag (HXK.out W hb),ag (HXK.out W hb)⟩ : W.cell? ⟨X,0,none⟩ = some (.int .u8 xc) ∧ W.cell? ⟨X,1,none⟩ = some (.bool true) ∧ W.cell? ⟨X,2,none⟩ = some (.int .u64 xv)))
           have BD:=hid (Below.refl wz.drew.heap.size wz.drew)
           replace HB:=hid (HB.out.trans (((Below.refl wz.heap.size wz).drew).mono HB.out.size))
           obtain ⟨d0,d1,d2⟩:=HSK.out _ BD.out;clear HBy HXF
           refine wp_region_held_drew (S:=(fun W => W.cell? ⟨X,0,none⟩ = some (.int .u8 xc) ∧ W.cell? ⟨X,1,none⟩ = some (.bool true) ∧ W.cell? ⟨X,2,none⟩ = some (.int .u64 xv))) aj ⟨d0,d1,d2⟩ (fun hSw => ?_)
           exact K0
          | false =>
           have HLN:=hid (AX xc false xv);have how : Kc false = ⟨#[32,99,111,110,115,116,32]⟩:=rfl;rw [how,HTS.out] at HLN;have z7 : (⟨#[103,108,111,98,97,108,32]⟩ : ByteArray).size = 7:=rfl;have z1 : (⟨#[UInt8.ofNat xc.toNat]⟩ : ByteArray).size = 1:=rfl;have z2 : (⟨#[10]⟩ : ByteArray).size = 1:=rfl;have z5 : (⟨#[32,99,111,110,115,116,32]⟩ : ByteArray).size = 7:=rfl
           have HSG:=hid (fun (W : World) => HSG0.out W false)
           clear how HSG0;generalize hsv : sgn xc xv = sv at *;clear hsv;generalize bp sv = nb at *;have BN:=ak wr (bo xc false xv);have bf:=heap_alloc_new wr (bo xc false xv)
           replace HBy:=hid (aI HBy.out BN)
           replace HB:=hid (HB.out.trans (BN.mono HB.out.size))
           have HXF:=hid bf;go_wp2_with fail;clear BN bf m0 m1 m2 m3 m4 m5 m6 m7 g0 g1 g2;generalize wr.alloc (bo xc false xv) = wz at *;generalize wr.heap.size = X at *
           have HBQ:=hid (fun (W : World) (hb : Below wz.drew.heap.size wz.drew W) => aI (aI HBy.out ((Below.refl wz.heap.size wz).drew)) hb)
           have HXK:=hid (fun (W : World) (hb : Below wz.drew.heap.size wz.drew W) => ar hb (ar ((Below.refl wz.heap.size wz).drew) HXF.out))
           have HSK:=hid (fun (W : World) (hb : Below wz.drew.heap.size wz.drew W) => (⟨ag (HXK.out W hb),ag (HXK.out W hb),ag (HXK.out W hb)⟩ : W.cell? ⟨X,0,none⟩ = some (.int .u8 xc) ∧ W.cell? ⟨X,1,none⟩ = some (.bool false) ∧ W.cell? ⟨X,2,none⟩ = some (.int .u64 xv)))
           have BD:=hid (Below.refl wz.drew.heap.size wz.drew)
           replace HB:=hid (HB.out.trans (((Below.refl wz.heap.size wz).drew).mono HB.out.size))
           obtain ⟨d0,d1,d2⟩:=HSK.out _ BD.out;clear HBy HXF
           refine wp_region_held_drew (S:=(fun W => W.cell? ⟨X,0,none⟩ = some (.int .u8 xc) ∧ W.cell? ⟨X,1,none⟩ = some (.bool false) ∧ W.cell? ⟨X,2,none⟩ = some (.int .u64 xv))) aj ⟨d0,d1,d2⟩ (fun hSw => ?_)
           exact K0
        ·as_aux_lemma =>
          obtain rfl : t = m.gn:=ae;have hta : m.globals.take m.gn = m.globals:=List.take_of_length_le ae;rw [hta] at HBy;clear hta;obtain ⟨P3,hPe⟩ : ∃ X,P2 ++ m.globals.flatMap glL = X:=⟨_,rfl⟩;rw [hPe] at HBy
          have HT3:=hid (show P3.length + ((iu m.fi m.mo).length + ((m.fns.flatMap fuL).length + ((m.data.flatMap daL).length + (m.exps.flatMap exL).length))) ≤ 1000000000 by rw [← hPe,List.length_append]; have h2:=HT2.out; omega)
          have HQ3:=hid hPe;clear hPe;go_wp2_with fail;have HLN:=hid (FU m.fi m.mo);have z7 : (⟨#[109,101,109,111,114,121,32]⟩ : ByteArray).size = 7:=rfl;have z1 : (⟨#[32]⟩ : ByteArray).size = 1:=rfl;have z2 : (⟨#[10]⟩ : ByteArray).size = 1:=rfl;have i0:=(HM.out W0 HB0.out).i0;have i1:=(HM.out W0 HB0.out).i1;have o0:=(HM.out W0 HB0.out).o0;have o1:=(HM.out W0 HB0.out).o1;have hn1:=dA m.fi i0 ae;have hn2:=dA m.mo o0 ae
          have HD3:=hid (fun W => lj m.fi i0 ae W)
          have HD8:=hid (fun W => lj m.mo o0 ae W)
          have HSK:=hid (fun (W : World) (hb : Below W0.heap.size W0 W) => (⟨(HX.out W hb).2.2.2.1,(HX.out W hb).2.2.2.2.1⟩ : W.cell? ⟨w.heap.size,3,none⟩ = some (.int .i64 m.fi) ∧ W.cell? ⟨w.heap.size,4,none⟩ = some (.int .i64 m.mo)))
          clear i0 i1 o0 o1;generalize hfi : m.fi = fi at HSK HD3 HLN hn1 HT3 ⊢;generalize hmo : m.mo = mo at HSK HD8 HLN hn2 HT3 ⊢;generalize hnf : bp fi = nf at *;generalize hnm : bp mo = nm at *
          go_cut [5] from 93 to 104 (fun p W => Hid (By8 W W0.heap.size p (P3 ++ iu fi mo)) ∧ Hid (Below W0.heap.size W0 W))
          case first =>
           clear m0 m1 m2 m3 m4 m5 m6 m7 hfi hmo hnf hnm
           have HBQ:=hid (fun (W : World) (hb : Below wr.drew.heap.size wr.drew W) => aI (aI HBy.out ((Below.refl wr.heap.size wr).drew)) hb)
           replace HB:=hid (HB.out.trans (((Below.refl wr.heap.size wr).drew).mono HB.out.size))
           have BD:=hid (Below.refl wr.drew.heap.size wr.drew);clear HBy
           refine wp_region_held_drew (S:=(fun W => W.cell? ⟨w.heap.size,3,none⟩ = some (.int .i64 fi) ∧ W.cell? ⟨w.heap.size,4,none⟩ = some (.int .i64 mo))) aj (HSK.out _ (HB.out.trans (BD.out.mono HB.out.size))) (fun hSw => ?_)
           generalize wr.drew = wd at *;refine tkD (i:=0) (d:=some 93) rfl ?_ (hS:=aQ);(try simp only [Act.put,sIB,sC0,sCs]);refine tkD (i:=1) (d:=some 94) rfl ?_ (hS:=aQ);(try simp only [Act.put,sIB,sC0,sCs]);refine tkD (i:=6) (d:=some 99) rfl ?_ (hS:=aQ);(try simp only [Act.put,sIB,sC0,sCs]);refine tkD (i:=2) (d:=some 95) rfl ?_ (hS:=aQ);(try simp only [Act.put,sIB,sC0,sCs]);refine tkD (i:=7) (d:=some 100) rfl ?_ (hS:=aQ);(try simp only [Act.put,sIB,sC0,sCs]);refine ryQ (rs:=[3]) ?_
           refine rcQ (i:=3) rfl (fun K hK => ?_) rN
           clear hSw;go_simp;refine (HD3.out _).mono ?_;rintro e wu1 ⟨rfl,hb4⟩;have BU1:=hid (BD.out.trans (hb4.mono BD.out.size));clear hb4
           refine hK.out _ _ (HSK.out _ (HB.out.trans (BU1.out.mono HB.out.size))) (fun hSw => ?_)
           clear hK K;refine tkD (i:=4) (d:=some 97) rfl ?_ (hS:=aQ) (hv:=bE);(try simp only [Act.put,sIB,sC0,sCs]);refine tkD (i:=5) (d:=some 98) rfl ?_ (hS:=aQ) (hv:=bE);(try simp only [Act.put,sIB,sC0,sCs]);refine ryQ (rs:=[8]) ?_
           refine rcQ (i:=8) rfl (fun K hK => ?_) rN
           clear hSw;go_simp;refine (HD8.out _).mono ?_;rintro e wu2 ⟨rfl,hb4⟩;have BU2:=hid (BU1.out.trans (hb4.mono BU1.out.size));clear hb4
           refine hK.out _ _ (HSK.out _ (HB.out.trans (BU2.out.mono HB.out.size))) (fun hSw => ?_)
           clear hK K;refine tkD (i:=9) (d:=some 102) rfl ?_ (hS:=aQ) (hv:=bE);(try simp only [Act.put,sIB,sC0,sCs]);refine tkD (i:=10) (d:=some 103) rfl ?_ (hS:=aQ) (hv:=bE);(try simp only [Act.put,sIB,sC0,sCs]);refine ryQ (rs:=[11]) ?_
           refine rcQ (i:=11) rfl (fun K hK => ?_) rN
           clear hSw
           refine nj _ (.tmp 93) (.tmp 103) rfl W0.heap.size _ P3 _ rfl rfl (HBQ.out _ BU2.out) (by have h1:=HT3.out; rw [HLN.out] at h1; exact Nat.le_trans (Nat.add_le_add_left (Nat.le_add_right _ _) _) (Nat.le_trans h1 ae)) (HB.out.trans (BU2.out.mono HB.out.size)).size (some 104) rfl ?_
           intro v5 w5 hown5 hb5 hk5;have HB5:=hid ((HB.out.trans (BU2.out.mono HB.out.size)).trans hb5);have HO5:=hid hown5;clear hown5 hb5 hk5
           refine hK.out _ _ (HSK.out _ HB5.out) (fun hSw => ?_)
           clear hK K;refine tkD (i:=12) (d:=some 5) rfl ?_ (hS:=aQ);(try simp only [Act.put,sIB,sC0,sCs]);refine wpAnyH_done aj ?_ _;go_wp2_with fail
           go_meet
           exact ⟨hid (by rw [HLN.out]; exact HO5.out),HB5⟩
          case rest =>
           clear HBy HB;obtain ⟨HBy,HB⟩:=hcut;subst hfi hmo;obtain ⟨P4,hPe⟩ : ∃ X,P3 ++ iu m.fi m.mo = X:=⟨_,rfl⟩;rw [hPe] at HBy
           have HT4:=hid (show P4.length + ((m.fns.flatMap fuL).length + ((m.data.flatMap daL).length + (m.exps.flatMap exL).length)) ≤ 1000000000 by rw [← hPe,List.length_append]; have h2:=HT3.out; omega)
           have HQ4:=hid hPe;clear hPe HSK HD3 HD8 HLN hnf hnm hn1 hn2;obtain ⟨m0,m1,m2,m3,m4,m5,m6,m7⟩:=HX.out _ HB.out;go_wp2_with fail;clear m0 m1 m2 m3 m4 m5 m6 m7
           go_loopw [5,13] (fun b i wr => ∃ t : Nat,t ≤ m.fn ∧ i = .int .i64 t ∧ Hid (By8 wr W0.heap.size b (P4 ++ (m.fns.take t).flatMap fuL)) ∧ Hid (Below W0.heap.size W0 wr)) (fun _ i _ => m.fn - (intOf i).toNat)
           case atStart => exact ⟨0,Nat.zero_le _,rfl,hid fN,HB⟩
           case round =>
            clear HBy HB;obtain ⟨t,ht,rfl,HBy,HB⟩:=hrel;have htl:=(HM.out W0 HB0.out).pf.1;have hnn:=PA.out.nf;rw [htl] at hnn;obtain ⟨m0,m1,m2,m3,m4,m5,m6,m7⟩:=HX.out _ HB.out
            by_cases hlt : t < m.fn
            ·as_aux_lemma =>
              have hlt' : (t : Int) < (m.fn : Int):=ae;obtain ⟨x,hx⟩ : ∃ x,m.fns[t]? = some x:=⟨_,aN ae⟩;have hk0 : (0 : Int) ≤ (t : Int):=ae;have HFS:=hid (gI fuL m.fns hx)
              have HFB:=hid (show (P4 ++ (m.fns.take t).flatMap fuL).length + (fuL x).length ≤ 1000000000 by rw [List.length_append]; have h1:=ct fuL m.fns t x hx; have h2:=HT4.out; omega)
              obtain ⟨bb,bof,hba,hat⟩:=(HM.out W0 HB0.out).pf.2.resolve_left ae;obtain ⟨e0,e1,e2⟩:=hat t x hx
              have HG:=hid (fun (W : World) (hb : Below W0.heap.size W0 W) => (⟨ai hb e0,ai hb e1,ai hb e2⟩ : W.cell? ⟨bb,bof + t * 3,none⟩ = some (.int .i64 x.1) ∧ W.cell? ⟨bb,bof + t * 3 + 1,none⟩ = some (.string x.2.1) ∧ W.cell? ⟨bb,bof + t * 3 + 2,none⟩ = some (.slice x.2.2.1.1 x.2.2.1.2.1 x.2.2.1.2.2)))
              have HXB:=hid (fun (W : World) (hb : Below W0.heap.size W0 W) => (show W.cell? ⟨w.heap.size,5,none⟩ = some (.slice (some ⟨bb,bof,none⟩) m.fn m.fc) by have h1:=HX.out W hb; rw [hba] at h1; exact h1.2.2.2.2.2.1))
              clear hat m5 e0 e1 e2;have m5:=HXB.out _ HB.out;obtain ⟨g0,g1,g2⟩:=HG.out _ HB.out
              try rw [hba]
              generalize hR : P4 ++ (m.fns.take t).flatMap fuL = R at *;have HR:=hid hR;clear hR;have q:=PA.out.fn t x hx;have fr:=(HM.out W0 HB0.out).fr t x hx;have ir:=HIR.out t x hx
              have hs1:=dA x.1 fr.1.1 (by have:=fr.1.2; omega)
              have HD:=hid (fun W => lj x.1 fr.1.1 (by have:=fr.1.2; omega) W)
              have hlo : x.2.1.size ≤ 64:=q.2.2.1;have hnc : x.2.2.2.length ≤ 2048:=q.2.2.2.2.1;have HQX:=hid q.2.2.2.2.2;have HAI:=hid fr.2.1;have HIX:=hid fr.2.2.2;have HIRX:=hid ir;clear hx q fr ir;obtain ⟨xt,xl,⟨ca,cn,cc⟩,xs⟩:=x;dsimp only at *;have hxl : xs.length = cn:=HAI.out.1
              have HLW : (xl.toList.isEmpty = true ∧ j6 xl = ⟨#[45]⟩) ∨ (xl.toList.isEmpty = false ∧ j6 xl = xl):=by
               unfold j6
               cases xl.toList.isEmpty <;> simp
              have HFU:=hid (show fuL (xt,xl,(ca,cn,cc),xs) = bj [gG,bp xt,j6 xl] ++ xs.flatMap iW from rfl)
              have hlw : (j6 xl).size ≤ 64:=by unfold j6; split <;> first | decide | omega
              have HLN:=hid (Fp xt (j6 xl));have hd45 : (⟨#[45]⟩ : ByteArray).size = 1:=rfl;generalize j6 xl = lw at *;generalize bp xt = nb at *;have BN:=ak wr (aL xt xl ca cn cc);have bf:=heap_alloc_new wr (aL xt xl ca cn cc);have hzz : (wr.alloc (aL xt xl ca cn cc)).heap.size = wr.heap.size + 1:=aq
              replace HBy:=hid (aI HBy.out BN)
              replace HB:=hid (HB.out.trans (BN.mono HB.out.size))
              have HXF:=hid bf;clear BN bf
              rcases HLW with ⟨he,he2⟩ | ⟨he,he2⟩
              ·subst lw;go_wp2_with fail;refine (HD.out _).mono ?_;rintro e wt ⟨rfl,hb4⟩;have HXF:=hid (ar hb4 HXF.out)
               replace HBy:=hid (aI HBy.out hb4)
               replace HB:=hid (HB.out.trans (hb4.mono HB.out.size))
               clear hb4;clear m0 m1 m2 m3 m4 m5 m6 m7 g0 g1 g2 HD;generalize wr.heap.size = X at *
               go_wp2_with (at_builtin; (refine wC _ rfl (.tmp 121) (.tmp 129) rfl W0.heap.size _ (R) _ rfl rfl HBy.out AL HB.out.size ?_; intro v5 w5 hown5 hb5 hk5; have HXF:=hid (td HXF.out av HBy.out hk5); replace HBy:=hid hown5; replace HB:=hid (HB.out.trans hb5); clear hown5 hb5 hk5))
               rw [← HLN.out] at HBy;obtain ⟨R2,hPe⟩ : ∃ X,R ++ bj [gG,nb,⟨#[45]⟩] = X:=⟨_,rfl⟩;exact KN
              ·subst lw;go_wp2_with fail;refine (HD.out _).mono ?_;rintro e wt ⟨rfl,hb4⟩;have HXF:=hid (ar hb4 HXF.out)
               replace HBy:=hid (aI HBy.out hb4)
               replace HB:=hid (HB.out.trans (hb4.mono HB.out.size))
               clear hb4;clear m0 m1 m2 m3 m4 m5 m6 m7 g0 g1 g2 HD;generalize wr.heap.size = X at *
               go_wp2_with (at_builtin; (refine wC _ rfl (.tmp 121) (.tmp 129) rfl W0.heap.size _ (R) _ rfl rfl HBy.out AL HB.out.size ?_; intro v5 w5 hown5 hb5 hk5; have HXF:=hid (td HXF.out av HBy.out hk5); replace HBy:=hid hown5; replace HB:=hid (HB.out.trans hb5); clear hown5 hb5 hk5))
               rw [← HLN.out] at HBy;obtain ⟨R2,hPe⟩ : ∃ X,R ++ bj [gG,nb,xl] = X:=⟨_,rfl⟩;exact KN
            ·as_aux_lemma =>
              obtain rfl : t = m.fn:=ae;have hta : m.fns.take m.fn = m.fns:=List.take_of_length_le ae;rw [hta] at HBy;clear hta;obtain ⟨P5,hPe⟩ : ∃ X,P4 ++ m.fns.flatMap fuL = X:=⟨_,rfl⟩;rw [hPe] at HBy
              have HT5:=hid (show P5.length + ((m.data.flatMap daL).length + (m.exps.flatMap exL).length) ≤ 1000000000 by rw [← hPe,List.length_append]; have h2:=HT4.out; omega)
              have HQ5:=hid hPe;clear hPe;go_wp2_with fail;clear m0 m1 m2 m3 m4 m5 m6 m7
              go_loopw [5,17] (fun b i wr => ∃ t : Nat,t ≤ m.dn ∧ i = .int .i64 t ∧ Hid (By8 wr W0.heap.size b (P5 ++ (m.data.take t).flatMap daL)) ∧ Hid (Below W0.heap.size W0 wr)) (fun _ i _ => m.dn - (intOf i).toNat)
              case atStart => exact ⟨0,Nat.zero_le _,rfl,hid fN,HB⟩
              case round =>
               clear HBy HB;obtain ⟨t,ht,rfl,HBy,HB⟩:=hrel;have htl:=(HM.out W0 HB0.out).pd.1;have hnn:=PA.out.nd;rw [htl] at hnn;obtain ⟨m0,m1,m2,m3,m4,m5,m6,m7⟩:=HX.out _ HB.out
               by_cases hlt : t < m.dn
               ·as_aux_lemma =>
                 have hlt' : (t : Int) < (m.dn : Int):=ae;obtain ⟨x,hx⟩ : ∃ x,m.data[t]? = some x:=⟨_,aN ae⟩;have hk0 : (0 : Int) ≤ (t : Int):=ae;have HFS:=hid (gI daL m.data hx)
                 have HFB:=hid (show (P5 ++ (m.data.take t).flatMap daL).length + (daL x).length ≤ 1000000000 by rw [List.length_append]; have h1:=ct daL m.data t x hx; have h2:=HT5.out; omega)
                 obtain ⟨bb,bof,hba,hat⟩:=(HM.out W0 HB0.out).pd.2.resolve_left ae;obtain ⟨e0,e1⟩:=hat t x hx
                 have HG:=hid (fun (W : World) (hb : Below W0.heap.size W0 W) => (⟨ai hb e0,ai hb e1⟩ : W.cell? ⟨bb,bof + t * 2,none⟩ = some (.int .i64 x.1) ∧ W.cell? ⟨bb,bof + t * 2 + 1,none⟩ = some (.slice x.2.1.1 x.2.1.2.1 x.2.1.2.2)))
                 have HXB:=hid (fun (W : World) (hb : Below W0.heap.size W0 W) => (show W.cell? ⟨w.heap.size,6,none⟩ = some (.slice (some ⟨bb,bof,none⟩) m.dn m.dc) by have h1:=HX.out W hb; rw [hba] at h1; exact h1.2.2.2.2.2.2.1))
                 clear hat m6 e0 e1;have m6:=HXB.out _ HB.out;obtain ⟨g0,g1⟩:=HG.out _ HB.out
                 try rw [hba]
                 generalize hR : P5 ++ (m.data.take t).flatMap daL = R at *;have HR:=hid hR;clear hR;have q:=PA.out.da t x hx;have dr:=(HM.out W0 HB0.out).dr t x hx
                 have hs1:=dA x.1 dr.1.1 (by have:=dr.1.2; omega)
                 have HD:=hid (fun W => lj x.1 dr.1.1 (by have:=dr.1.2; omega) W)
                 have HSD:=hid (fun (W : World) (hb : Below W0.heap.size W0 W) => dr.2.1.later hb (Nat.le_refl _))
                 have hln : x.2.2.length = x.2.1.2.1:=dr.2.1.1;have HRG:=hid dr.2.1.2.2.2.1;have HCE:=hid dr.2.1.2.2.2.2;have hdn : x.2.2.length ≤ 262144:=q.2.2.1;clear hx q dr;obtain ⟨xa,⟨da,dn,dc⟩,ds⟩:=x;dsimp only at *;have HLN:=hid (Jf xa (da,dn,dc) ds);go_wp2_with fail;refine (HD.out _).mono ?_;rintro e wt ⟨rfl,hb4⟩
                 replace HBy:=hid (aI HBy.out hb4)
                 replace HB:=hid (HB.out.trans (hb4.mono HB.out.size))
                 clear hb4;clear HD;obtain ⟨m0,m1,m2,m3,m4,m5,m6,m7⟩:=HX.out _ HB.out;clear m6;have m6:=HXB.out _ HB.out;obtain ⟨g0,g1⟩:=HG.out _ HB.out;generalize bp xa = nb at *
                 go_wp2_with (at_builtin; (refine wC _ rfl (.tmp 155) (.tmp 164) rfl W0.heap.size _ (R) _ rfl rfl HBy.out (by have h1:=HFB.out; rw [HLN.out,List.length_append] at h1; exact Nat.le_trans (Nat.add_le_add_left (Nat.le_add_right _ _) _) (Nat.le_trans h1 ae)) HB.out.size ?_; intro v5 w5 hown5 hb5 hk5; replace HBy:=hid hown5; replace HB:=hid (HB.out.trans hb5); clear hown5 hb5 hk5; clear m6; have m6:=HXB.out _ HB.out; obtain ⟨g0,g1⟩:=HG.out _ HB.out))
                 obtain ⟨R2,hPe⟩ : ∃ X,R ++ ((⟨#[100,97,116,97,32]⟩ : ByteArray) ++ nb ++ spB).data.toList = X:=⟨_,rfl⟩;rw [hPe] at HBy
                 have HT2:=hid (show R2.length + ((gm ds).length + 1) ≤ 1000000000 by rw [← hPe,List.length_append]; have h1:=HFB.out; rw [HLN.out,List.length_append,List.length_append] at h1; simp only [List.length_cons,List.length_nil] at h1; omega)
                 have HQ2:=hid hPe;clear hPe m0 m1 m2 m3 m4 m5 m6 m7 g0 g1
                 go_loopw [5,18] (fun b i wr => ∃ u : Nat,u ≤ dn ∧ i = .int .i64 u ∧ Hid (By8 wr W0.heap.size b (R2 ++ gm (ds.take u))) ∧ Hid (Below W0.heap.size W0 wr)) (fun _ i _ => dn - (intOf i).toNat)
                 case atStart => exact ⟨0,Nat.zero_le _,rfl,hid (by simpa [gm] using HBy.out),HB⟩
                 case round =>
                  clear HBy HB;obtain ⟨u,hu,rfl,HBy,HB⟩:=hrel;have m6:=HXB.out _ HB.out;obtain ⟨g0,g1⟩:=HG.out _ HB.out
                  by_cases hul : u < dn
                  ·have hul' : (u : Int) < (dn : Int):=ae;have hu0 : (0 : Int) ≤ (u : Int):=ae;obtain ⟨y,hy⟩ : ∃ y,ds[u]? = some y:=⟨_,aN ae⟩;have hyr:=HRG.out y (List.mem_of_getElem? hy)
                   have HFS2:=hid (show gm (ds.take (u + 1)) = gm (ds.take u) ++ gm [y] by rw [cJ hy]; simp [gm])
                   have HFB2:=hid (show (R2 ++ gm (ds.take u)).length + 2 ≤ 1000000000 by
                    rw [List.length_append]; have h1:=ct (fun b => [ld.data[b.toNat / 16]?.getD 0,ld.data[b.toNat % 16]?.getD 0]) ds u y hy; have h2:=HT2.out; unfold gm at h2 ⊢; simp only [List.length_cons,List.length_nil] at h1; omega)
                   obtain ⟨b2,o2,rfl,hat2⟩:=HCE.out.resolve_left ae;have e0:=hat2 u hul
                   have hgd : ds.getD u 0 = y:=by rw [List.getD_eq_getElem?_getD,hy]; rfl
                   rw [hgd] at e0;have y0:=ai HB.out e0
                   have HHX:=hid (fun W => Og y hyr.1 hyr.2 W)
                   have HHE:=hid (I0 y hyr.1 hyr.2)
                   have hsx : (vN y).size ≤ 2:=by have h1 : (vN y).size = (vN y).data.toList.length:=rfl; rw [h1,HHE.out]; simp [gm]
                   clear e0 hat2 hy hgd hyr;generalize hR3 : R2 ++ gm (ds.take u) = R3 at *;have HR3:=hid hR3;clear hR3;generalize vN y = sv at *;go_wp2_with fail;refine (HHX.out _).mono ?_;rintro e wt ⟨rfl,hb4⟩
                   replace HBy:=hid (aI HBy.out hb4)
                   replace HB:=hid (HB.out.trans (hb4.mono HB.out.size))
                   clear hb4;clear m6 g0 g1 y0 HHX
                   go_wp2_with (at_builtin; (refine wC _ rfl (.tmp 177) (.tmp 187) rfl W0.heap.size _ (R3) _ rfl rfl HBy.out (by have h1:=HFB2.out; omega) HB.out.size ?_; intro v5 w5 hown5 hb5 hk5; replace HBy:=hid hown5; replace HB:=hid (HB.out.trans hb5); clear hown5 hb5 hk5))
                   exact ⟨⟨u + 1,ae,bB,hid (by rw [HFS2.out,← List.append_assoc,HR3.out,← HHE.out]; exact HBy.out),HB⟩,bD⟩
                  ·obtain rfl : u = dn:=ae;rw [List.take_of_length_le ae] at HBy;have BN:=ak wr (bY 10);have bf:=heap_alloc_new wr (bY 10)
                   have S4:=hid (ja (ag bf) (by decide : (0:Int) ≤ 10) av)
                   have N4:=hid (fun (h : some (⟨wr.heap.size,0,none⟩ : Addr) = none) => (show (1 : Nat) = 0 by cases h))
                   replace HBy:=hid (uE (aI HBy.out BN))
                   replace HB:=hid (HB.out.trans (BN.mono HB.out.size))
                   clear BN bf
                   go_wp2_with (at_builtin; (refine di _ rfl (.tmp 189) (.tmp 190) rfl W0.heap.size _ _ rfl HBy.out _ _ ([10]) rfl S4.out N4.out (by rw [List.length_map,List.length_append]; have h1:=HT2.out; show _ + _ + 1 ≤ _; omega) HB.out.size ?_; intro v5 w5 hown5 hb5 hk5; replace HBy:=hid hown5; replace HB:=hid (HB.out.trans hb5); clear hown5 hb5 hk5))
                   have hby2:=HBy.out
                   have he2 : (((R2 ++ gm ds).map fun b => (b.toNat : Int)) ++ [10]) = ((R2 ++ gm ds) ++ [(10 : UInt8)]).map fun b => (b.toNat : Int):=by simp only [List.map_append,List.map_cons,List.map_nil]; rfl
                   rw [he2] at hby2
                   replace HBy:=hid (JS hby2)
                   clear hby2 he2
                   exact ⟨⟨t + 1,ae,bB,hid (by rw [HFS.out,← List.append_assoc,HR.out,HLN.out,← List.append_assoc,HQ2.out,← List.append_assoc]; exact HBy.out),HB⟩,bD⟩
               ·as_aux_lemma =>
                 obtain rfl : t = m.dn:=ae;have hta : m.data.take m.dn = m.data:=List.take_of_length_le ae;rw [hta] at HBy;clear hta;obtain ⟨P6,hPe⟩ : ∃ X,P5 ++ m.data.flatMap daL = X:=⟨_,rfl⟩;rw [hPe] at HBy
                 have HT6:=hid (show P6.length + (m.exps.flatMap exL).length ≤ 1000000000 by rw [← hPe,List.length_append]; have h2:=HT5.out; omega)
                 have HQ6:=hid hPe;clear hPe;go_wp2_with fail;clear m0 m1 m2 m3 m4 m5 m6 m7
                 go_loopw [5,19] (fun b i wr => ∃ t : Nat,t ≤ m.en ∧ i = .int .i64 t ∧ Hid (By8 wr W0.heap.size b (P6 ++ (m.exps.take t).flatMap exL)) ∧ Hid (Below W0.heap.size W0 wr)) (fun _ i _ => m.en - (intOf i).toNat)
                 case atStart => exact ⟨0,Nat.zero_le _,rfl,hid fN,HB⟩
                 case round =>
                  clear HBy HB;obtain ⟨t,ht,rfl,HBy,HB⟩:=hrel;have htl:=(HM.out W0 HB0.out).pe.1;have hnn:=PA.out.ne;rw [htl] at hnn;obtain ⟨m0,m1,m2,m3,m4,m5,m6,m7⟩:=HX.out _ HB.out
                  by_cases hlt : t < m.en
                  ·as_aux_lemma =>
                    have hlt' : (t : Int) < (m.en : Int):=ae;obtain ⟨x,hx⟩ : ∃ x,m.exps[t]? = some x:=⟨_,aN ae⟩;have hk0 : (0 : Int) ≤ (t : Int):=ae;have HFS:=hid (gI exL m.exps hx)
                    have HFB:=hid (show (P6 ++ (m.exps.take t).flatMap exL).length + (exL x).length ≤ 1000000000 by rw [List.length_append]; have h1:=ct exL m.exps t x hx; have h2:=HT6.out; omega)
                    obtain ⟨bb,bof,hba,hat⟩:=(HM.out W0 HB0.out).pe.2.resolve_left ae;obtain ⟨e0,e1⟩:=hat t x hx
                    have HG:=hid (fun (W : World) (hb : Below W0.heap.size W0 W) => (⟨ai hb e0,ai hb e1⟩ : W.cell? ⟨bb,bof + t * 2,none⟩ = some (.string x.1) ∧ W.cell? ⟨bb,bof + t * 2 + 1,none⟩ = some (.int .i64 x.2)))
                    have HXB:=hid (fun (W : World) (hb : Below W0.heap.size W0 W) => (show W.cell? ⟨w.heap.size,7,none⟩ = some (.slice (some ⟨bb,bof,none⟩) m.en m.ec) by have h1:=HX.out W hb; rw [hba] at h1; exact h1.2.2.2.2.2.2.2))
                    clear hat m7 e0 e1;have m7:=HXB.out _ HB.out;obtain ⟨g0,g1⟩:=HG.out _ HB.out
                    try rw [hba]
                    generalize hR : P6 ++ (m.exps.take t).flatMap exL = R at *;have HR:=hid hR;clear hR;have z7 : (⟨#[101,120,112,111,114,116,32]⟩ : ByteArray).size = 7:=rfl;have z1 : (⟨#[32]⟩ : ByteArray).size = 1:=rfl;have z2 : (⟨#[10]⟩ : ByteArray).size = 1:=rfl;have q:=PA.out.ex t x hx;have qe:=(HM.out W0 HB0.out).er t x hx;have hs1:=dA x.2 qe.1 ae;have hs2 : x.1.size ≤ 32:=q.1
                    have HD:=hid (fun W => lj x.2 qe.1 ae W)
                    clear hx q qe;obtain ⟨xn,xf⟩:=x;dsimp only at *;have HLN:=hid (JL xn xf);generalize bp xf = nb at *
                    have HSK:=hid (fun (W : World) (hb : Below W0.heap.size W0 W) => (⟨HXB.out W hb,(HG.out W hb).1,(HG.out W hb).2⟩ : W.cell? ⟨w.heap.size,7,none⟩ = some (.slice (some ⟨bb,bof,none⟩) m.en m.ec) ∧ W.cell? ⟨bb,bof + t * 2,none⟩ = some (.string xn) ∧ W.cell? ⟨bb,bof + t * 2 + 1,none⟩ = some (.int .i64 xf)))
                    go_wp2_with fail;clear m0 m1 m2 m3 m4 m5 m6 m7 g0 g1
                    have HBQ:=hid (fun (W : World) (hb : Below wr.drew.heap.size wr.drew W) => aI (aI HBy.out ((Below.refl wr.heap.size wr).drew)) hb)
                    replace HB:=hid (HB.out.trans (((Below.refl wr.heap.size wr).drew).mono HB.out.size))
                    have BD:=hid (Below.refl wr.drew.heap.size wr.drew);clear HBy
                    refine wp_region_held_drew (S:=(fun W => W.cell? ⟨w.heap.size,7,none⟩ = some (.slice (some ⟨bb,bof,none⟩) m.en m.ec) ∧ W.cell? ⟨bb,bof + t * 2,none⟩ = some (.string xn) ∧ W.cell? ⟨bb,bof + t * 2 + 1,none⟩ = some (.int .i64 xf))) aj (HSK.out _ (HB.out.trans (BD.out.mono HB.out.size))) (fun hSw => ?_)
                    generalize wr.drew = wd at *;refine tkD (i:=0) (d:=some 199) rfl ?_ (hS:=aQ);(try simp only [Act.put,sIB,sC0,sCs]);refine tkD (i:=1) (d:=some 200) rfl ?_ (hS:=aQ);(try simp only [Act.put,sIB,sC0,sCs]);refine tkD (i:=3) (d:=some 202) rfl ?_ (hS:=aQ);(try simp only [Act.put,sIB,sC0,sCs]);refine tkD (i:=9) (d:=some 208) rfl ?_ (hS:=aQ);(try simp only [Act.put,sIB,sC0,sCs]);refine tkD (i:=11) (d:=some 210) rfl ?_ (hS:=aQ);(try simp only [Act.put,sIB,sC0,sCs]);refine tkD (i:=2) (d:=some 201) rfl ?_ (hS:=aQ);(try simp only [Act.put,sIB,sC0,sCs]);refine tkD (i:=10) (d:=some 209) rfl ?_ (hS:=aQ);(try simp only [Act.put,sIB,sC0,sCs]);refine tkD (i:=4) (d:=some 203) rfl ?_ (hS:=aQ);(try simp only [Act.put,sIB,sC0,sCs]);refine tkD (i:=12) (d:=some 211) rfl ?_ (hS:=aQ);(try simp only [Act.put,sIB,sC0,sCs]);refine tkD (i:=5) (d:=some 204) rfl ?_ (hS:=aQ);(try simp only [Act.put,sIB,sC0,sCs]);refine tkD (i:=13) (d:=some 212) rfl ?_ (hS:=aQ);(try simp only [Act.put,sIB,sC0,sCs]);refine tkD (i:=6) (d:=some 205) rfl ?_ (hS:=aQ);(try simp only [Act.put,sIB,sC0,sCs]);refine tkD (i:=14) (d:=some 213) rfl ?_ (hS:=aQ);(try simp only [Act.put,sIB,sC0,sCs]);refine tkD (i:=7) (d:=some 206) rfl ?_ (hS:=aQ) (hv:=bE);(try simp only [Act.put,sIB,sC0,sCs]);refine tkD (i:=8) (d:=some 207) rfl ?_ (hS:=aQ) (hv:=bE);(try simp only [Act.put,sIB,sC0,sCs]);refine ryQ (rs:=[15]) ?_
                    refine rcQ (i:=15) rfl (fun K hK => ?_) rN
                    clear hSw;go_simp;refine (HD.out _).mono ?_;rintro e wu1 ⟨rfl,hb4⟩;have BU1:=hid (BD.out.trans (hb4.mono BD.out.size));clear hb4
                    refine hK.out _ _ (HSK.out _ (HB.out.trans (BU1.out.mono HB.out.size))) (fun hSw => ?_)
                    clear hK K;refine tkD (i:=16) (d:=some 215) rfl ?_ (hS:=aQ) (hv:=bE);(try simp only [Act.put,sIB,sC0,sCs]);refine tkD (i:=17) (d:=some 216) rfl ?_ (hS:=aQ) (hv:=bE);(try simp only [Act.put,sIB,sC0,sCs]);refine ryQ (rs:=[18]) ?_
                    refine rcQ (i:=18) rfl (fun K hK => ?_) rN
                    clear hSw;refine nj _ (.tmp 199) (.tmp 216) rfl W0.heap.size _ R _ rfl rfl (HBQ.out _ BU1.out) ie (HB.out.trans (BU1.out.mono HB.out.size)).size (some 217) rfl ?_;intro v5 w5 hown5 hb5 hk5;have HB5:=hid ((HB.out.trans (BU1.out.mono HB.out.size)).trans hb5);have HO5:=hid hown5;clear hown5 hb5 hk5
                    refine hK.out _ _ (HSK.out _ HB5.out) (fun hSw => ?_)
                    clear hK K;refine tkD (i:=19) (d:=some 5) rfl ?_ (hS:=aQ);(try simp only [Act.put,sIB,sC0,sCs]);refine wpAnyH_done aj ?_ _;go_wp2_with fail;exact ⟨⟨t + 1,ae,bB,hid yS,HB5⟩,bD⟩
                  ·as_aux_lemma =>
                    obtain rfl : t = m.en:=ae;have hta : m.exps.take m.en = m.exps:=List.take_of_length_le ae;rw [hta] at HBy;clear hta;obtain ⟨P7,hPe⟩ : ∃ X,P6 ++ m.exps.flatMap exL = X:=⟨_,rfl⟩;rw [hPe] at HBy
                    have HT7:=hid (show P7.length + 0 ≤ 1000000000 by rw [← hPe,List.length_append]; have h2:=HT6.out; omega)
                    have HQ7:=hid hPe;clear hPe
                    have HEE:=hid (HE.out.trans (by rw [HQ1.out,HQ2.out,HQ3.out,HQ4.out,HQ5.out,HQ6.out,HQ7.out]))
                    have hcv:=OQ HBy.out (by have h1:=HT7.out; omega)
                    go_wp2_with fail;go_ret2
                    exact ⟨by rw [HEE.out]; rfl,HB0.out.trans (HB.out.mono HB0.out.size)⟩
end Go.Proofs.YtheefojaplnnoaaGreatDoor

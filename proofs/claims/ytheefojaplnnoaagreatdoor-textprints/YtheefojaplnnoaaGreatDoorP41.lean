/-
  Texts Rj.
-/
import Derived.Test.YtheefojaplnnoaaGreatDoorP00
import Derived.Test.YtheefojaplnnoaaGreatDoorP37
set_option linter.unusedVariables false
set_option maxRecDepth 100000
set_option maxHeartbeats 16000000
namespace Go.Proofs.YtheefojaplnnoaaGreatDoor
open Go.RowKit
theorem GU (g : Nat) (bs : List Int) (n : Int) (w : World) (h : Buf w g bs.length bs.length (bs.map (Value.int .u8))) (hl : bs.length ≤ 1000000000) (n0 : 0 ≤ n) (n1 : n < 9223372036854775808) :
  Calls Tryz.prog 210 #[.slice (some ⟨g,0,none⟩) bs.length bs.length,.int .i64 n] w fun e w' => ∃ y,e = .returned y ∧ Byt w' g y (bs ++ au n) ∧ Below g w w':=by
 have SV:=hid (fun W => qQ n W n0 ae)
 have hul:=ay n;have hw:=cg n n0 ae;have HO:=hid h;have hg:=h.lt;generalize au n = U at *;obtain ⟨i0,hi,hz0,hz1,hz2⟩:=info_parts Tryz.info5;have HI:=hid (And.intro hi (And.intro hz0 (And.intro hz1 hz2)));clear h hi hz0 hz1 hz2
 go_enter Tryz.func210,Tryz.ntmps210
 go_wp2_with fail;refine (SV.out _).mono ?_;rintro e w4 ⟨ua,uc,rfl,hs4,hn4,hb4⟩;obtain ⟨ub,uo,rfl,hcu⟩:=hs4.2.2.2.2.resolve_left ae;have S4:=hid hs4;have B4:=hid hb4
 have O4:=hid (HO.out.kept (S:=fun _ => False) (az hb4) (fun h => h))
 clear hs4 hb4 SV hn4 hcu
 go_wp2_with (at_builtin; (refine Cq _ rfl (.tmp 5) (.tmp 8) 63 rfl i0 (.int .u8 0) Tryz.underlying63 HI.out.1 HI.out.2.1 HI.out.2.2.1 HI.out.2.2.2 rfl g bs.length bs.length (bs.map (Value.int .u8)) rfl O4.out ⟨ub,uo,none⟩ U.length uc (U.map (Value.int .u8)) rfl aq (jo S4.out _ rfl) (j5 _) ae bU ae ?_; intro B cap w5 hr hk hB; have O5:=hid hr; have K5:=hid (And.intro hk hB); clear hr hk hB))
 go_ret;have hsz:=B4.out.size
 refine ⟨_,rfl,?_,(B4.out.mono (Nat.le_of_lt hg)).trans (K5.out.1.to_below (B:=g) ae (fun k hk e => by have : k = g:=e; omega))⟩
 have h1:=O5.out;rw [← List.map_append] at h1;unfold Byt;rw [List.length_append];refine ⟨h1.1,?_⟩
 rcases h1.2 with ⟨h2,_⟩ | ⟨q,cp,cur,h2,_,h3⟩
 ·cases h2
 ·refine .inr ⟨q,cp,cur,h2,?_,h3⟩
  injection h2 with h2
  injection h2 with h2
  injection h2 with h2
  rcases K5.out.2 with h4 | h4 <;> omega
theorem kU {w w' : World} {F : Nat} {o : Obj} (hb : Below w.heap.size w w') (h : w.heap[F]? = some o) : w'.heap[F]? = some o:=by
 have hlt : F < w.heap.size:=by
  rcases Nat.lt_or_ge F w.heap.size with h1 | h1
  ·exact h1
  ·rw [Array.getElem?_eq_none h1] at h; cases h
 exact (hb.block F hlt).trans h
theorem IP (m : MM) (w : World) (h0 : eu m = 0) (hm : MOk w w.heap.size w.heap.size m) (hex : ∀ (j : Nat) x,m.exps[j]? = some x → x.1.size ≤ 2000000) (hdx : ∀ (j : Nat) x,m.data[j]? = some x → x.2.2.length ≤ 1000000) :
  Calls Tryz.prog 161 #[.agg (mV m)] w fun e w' => ∃ y,e = .returned y ∧ Byt w' (w.heap.size + 1) y (dO ++ nY m) ∧ Below w.heap.size w w':=by
 obtain ⟨E1,E2,E3,E4,E5,E6,E7,E8⟩:=zg h0
 have HM:=hid (fun (W : World) (hb : Below w.heap.size w W) => hm.later hb)
 have R4 : 0 ≤ m.fi ∧ m.fi ≤ 64:=by unfold e4 il at E4; split at E4; cases E4; omega
 have R5 : 0 ≤ m.mo ∧ m.mo ≤ 64:=by unfold e5 il at E5; split at E5; cases E5; omega
 have tl:=hm.pt.1;have hl:=hm.ph.1;have gl:=hm.pg.1;have fl:=hm.pf.1;have dl:=hm.pd.1;have el:=hm.pe.1
 have a1:=(dF (enc:=bG) (M:=36) E1 (fun ah x hx => gw x (dE hx).1 (dE hx).2.2.1)).1
 have a2:=(dF (enc:=fun x => au x) (M:=10) E2 (fun ah x hx => (ay x).2)).1
 have a3:=(dF (enc:=cz) (M:=12) E3 (fun ah x hx => jk x)).1
 have a6:=(dF (enc:=bX) (M:=400000) E6 (fun ah x hx => ig hx)).1
 have a7:=(dF (enc:=ck) (M:=300000) E7 (fun ah x hx => ij ae hx)).1
 have a8:=(dF (enc:=dz) (M:=60) E8 (fun ah x hx => wj hx)).1
 have L1:=hid (fun (j : Nat) x (hj : m.types[j]? = some x) => dE (fG E1 j x hj))
 have M1:=hid (fun (j : Nat) x (hj : m.types[j]? = some x) => gw x (L1.out j x hj).1 (L1.out j x hj).2.2.1)
 have L2:=hid (fun (j : Nat) x (hj : m.hosts[j]? = some x) => (show 0 ≤ x ∧ x < 9223372036854775808 by have h1:=fG E2 j x hj; unfold bQ at h1; split at h1; cases h1; omega))
 have M2:=hid (fun (j : Nat) x (hj : m.hosts[j]? = some x) => (ay x).2)
 have L3:=hid (fun (j : Nat) x (hj : m.globals[j]? = some x) => (fG E3 j x hj : dM x = 0))
 have M3:=hid (fun (j : Nat) x (hj : m.globals[j]? = some x) => jk x)
 have L6:=hid (fun (j : Nat) x (hj : m.fns[j]? = some x) => fG E6 j x hj)
 have M6:=hid (fun (j : Nat) x (hj : m.fns[j]? = some x) => ig (fG E6 j x hj))
 have L7:=hid (fun (j : Nat) x (hj : m.data[j]? = some x) => (fG E7 j x hj : bK (m.fi * 4096) (m.data.take j) x = 0))
 have M7:=hid (fun (j : Nat) x (hj : m.data[j]? = some x) => ij ae (L7.out j x hj))
 have L8:=hid (fun (j : Nat) x (hj : m.exps[j]? = some x) => (fG E8 j x hj : dw m.fn (m.exps.take j) x = 0))
 have M8:=hid (fun (j : Nat) x (hj : m.exps[j]? = some x) => wj (L8.out j x hj))
 have HEX:=hid hex;have HDX:=hid hdx;have B0:=ak w (.cells (mV m) 29);have b0:=heap_alloc_new w (.cells (mV m) 29);have HW : w.alloc (bg m.ta m.tn m.tc m.ha m.hn m.hc m.ga m.gn m.gc m.fi m.mo m.fa m.fn m.fc m.da m.dn m.dc m.ea m.en m.ec) = w.alloc (.cells (mV m) 29):=rfl;have hW0 : (w.alloc (.cells (mV m) 29)).heap.size = w.heap.size + 1:=aq;clear E1 E2 E3 E4 E5 E6 E7 E8 h0 hm hex hdx;generalize w.alloc (.cells (mV m) 29) = W0 at *;have HB0:=hid B0
 have HX:=hid (fun (W : World) (hb : Below W0.heap.size W0 W) => (⟨ai hb (ag b0),ai hb (ag b0),ai hb (ag b0),ai hb (ag b0),ai hb (ag b0),ai hb (ag b0),ai hb (ag b0),ai hb (ag b0)⟩ : W.cell? ⟨w.heap.size,0,none⟩ = some (.slice m.ta m.tn m.tc) ∧ W.cell? ⟨w.heap.size,1,none⟩ = some (.slice m.ha m.hn m.hc) ∧ W.cell? ⟨w.heap.size,2,none⟩ = some (.slice m.ga m.gn m.gc) ∧ W.cell? ⟨w.heap.size,3,none⟩ = some (.int .i64 m.fi) ∧ W.cell? ⟨w.heap.size,4,none⟩ = some (.int .i64 m.mo) ∧ W.cell? ⟨w.heap.size,5,none⟩ = some (.slice m.fa m.fn m.fc) ∧ W.cell? ⟨w.heap.size,6,none⟩ = some (.slice m.da m.dn m.dc) ∧ W.cell? ⟨w.heap.size,7,none⟩ = some (.slice m.ea m.en m.ec)))
 obtain ⟨m0,m1,m2,m3,m4,m5,m6,m7⟩:=HX.out W0 (Below.refl _ _);have HZ:=hid hW0;clear B0 b0 hW0
 show Calls Tryz.prog 161 #[.agg #[.slice m.ta m.tn m.tc,.slice m.ha m.hn m.hc,.slice m.ga m.gn m.gc,.int .i64 m.fi,.int .i64 m.mo,.slice m.fa m.fn m.fc,.slice m.da m.dn m.dc,.slice m.ea m.en m.ec]] w _
 have hcv:=Go.Lib.run_convert_bytes_const (P:=Tryz.prog) W0 63 5 #[.int .u8 70,.int .u8 76,.int .u8 71,.int .u8 78,.int .u8 1] 5 5 Tryz.underlying63 Tryz.underlying5;have HB:=hid (ak W0 (.cells #[.int .u8 70,.int .u8 76,.int .u8 71,.int .u8 78,.int .u8 1] 5 (5,6)))
 have HBF : Hid (Buf (W0.alloc (.cells #[.int .u8 70,.int .u8 76,.int .u8 71,.int .u8 78,.int .u8 1] 5 (5,6))) W0.heap.size dO.length dO.length (dO.map (Value.int .u8))):=hid (.inr ⟨rfl,av,aq,rfl,fun j u hj => by
  have hbk : (W0.alloc (.cells #[.int .u8 70,.int .u8 76,.int .u8 71,.int .u8 78,.int .u8 1] 5 (5,6))).heap[W0.heap.size]? = some (.cells #[.int .u8 70,.int .u8 76,.int .u8 71,.int .u8 78,.int .u8 1] 5 (5,6)):=heap_alloc_new W0 _;rw [cell_of_row _ _ j _ 5 (5,6) hbk]
  rw [← hj,← Array.getElem?_toList]; rfl⟩)
 obtain ⟨m0,m1,m2,m3,m4,m5,m6,m7⟩:=HX.out _ HB.out;have hs0 : (#[Value.int .u8 70,.int .u8 76,.int .u8 71,.int .u8 78,.int .u8 1] : Array Value).size = 5:=rfl
 go_enter Tryz.func161,Tryz.ntmps161
 go_wp2_with fail;refine (GU W0.heap.size dO (m.tn : Int) _ HBF.out av ae ae).mono ?_;rintro e w0 ⟨y0,rfl,hby,hbb⟩
 replace HB:=hid (HB.out.trans hbb)
 have HBy:=hid hby;clear hby hbb HBF hcv;obtain ⟨m0,m1,m2,m3,m4,m5,m6,m7⟩:=HX.out _ HB.out;have hul:=ay (m.tn : Int)
 have hl0 : (dO ++ au (m.tn : Int)).length ≤ 15:=by rw [List.length_append]; show 5 + _ ≤ 15; omega
 obtain ⟨P0,hPe⟩ : ∃ X,dO ++ au (m.tn : Int) = X:=⟨_,rfl⟩;rw [hPe] at HBy hl0;have HQ0:=hid hPe;clear hPe hul;go_wp2_with fail;clear m0 m1 m2 m3 m4 m5 m6 m7
 go_loopw [3,4] (fun b i wr => ∃ t : Nat,t ≤ m.tn ∧ i = .int .i64 t ∧ Hid (Byt wr W0.heap.size b (P0 ++ (m.types.take t).flatMap bG)) ∧ Hid (Below W0.heap.size W0 wr)) (fun _ i _ => m.tn - (intOf i).toNat)
 case atStart => exact ⟨0,Nat.zero_le _,rfl,hid fN,HB⟩
 case round =>
  clear HBy HB;obtain ⟨t,ht,rfl,HBy,HB⟩:=hrel;obtain ⟨m0,m1,m2,m3,m4,m5,m6,m7⟩:=HX.out _ HB.out
  have hfl:=cf bG 36 (m.types.take t) (fun j y hj => M1.out j y om)
  have hft : (m.types.take t).length ≤ 64:=lO;have hfb : (P0 ++ (m.types.take t).flatMap bG).length ≤ 2319:=fh;clear hfl hft
  by_cases hlt : t < m.tn
  ·have hlt' : (t : Int) < (m.tn : Int):=ae;obtain ⟨x,hx⟩ : ∃ x,m.types[t]? = some x:=⟨_,aN ae⟩;have hk0 : (0 : Int) ≤ (t : Int):=ae;have HFS:=hid (jF bG hx);obtain ⟨bb,bof,hba,hat⟩:=(HM.out W0 HB0.out).pt.2.resolve_left ae;obtain ⟨e0,e1⟩:=hat t x hx
   have HG:=hid (fun (W : World) (hb : Below W0.heap.size W0 W) => (⟨ai hb e0,ai hb e1⟩ : W.cell? ⟨bb,bof + t * 2,none⟩ = some (.string x.1) ∧ W.cell? ⟨bb,bof + t * 2 + 1,none⟩ = some (.string x.2)))
   have HXB:=hid (fun (W : World) (hb : Below W0.heap.size W0 W) => (show W.cell? ⟨w.heap.size,0,none⟩ = some (.slice (some ⟨bb,bof,none⟩) m.tn m.tc) by have h1:=HX.out W hb; rw [hba] at h1; exact h1.1))
   clear hat m0;have m0:=HXB.out _ HB.out;obtain ⟨g0,g1⟩:=HG.out _ HB.out
   try rw [hba]
   generalize hR : P0 ++ (m.types.take t).flatMap bG = R at *;have HR:=hid hR;clear hR;obtain ⟨q1,-,q2,-,-⟩:=L1.out t x hx;have u1:=(cX x.1 8 q1).2;have u2:=(cX x.2 8 q2).2;clear hx;go_wp2_with fail;refine (wK x.1 _ ae).mono ?_;rintro e wt ⟨ua,uc,rfl,hs4,hn4,hb4⟩;have S4:=hid hs4;have N4:=hid hn4
   replace HBy:=hid (aI HBy.out hb4)
   replace HB:=hid (HB.out.trans (hb4.mono HB.out.size))
   clear hs4 hn4 hb4;have m0:=HXB.out _ HB.out;obtain ⟨g0,g1⟩:=HG.out _ HB.out
   go_wp2_with (at_builtin; (refine di _ rfl (.tmp 29) (.tmp 36) rfl W0.heap.size _ (R) rfl HBy.out _ _ (eY x.1) rfl S4.out N4.out gL HB.out.size ?_; intro v5 w5 hown5 hb5 hk5; skip; replace HBy:=hid hown5; replace HB:=hid (HB.out.trans hb5); clear hown5 hb5 hk5; have m0:=HXB.out _ HB.out; obtain ⟨g0,g1⟩:=HG.out _ HB.out))
   refine (wK x.2 _ ae).mono ?_;rintro e wt ⟨ua,uc,rfl,hs4,hn4,hb4⟩;have S4:=hid hs4;have N4:=hid hn4
   replace HBy:=hid (aI HBy.out hb4)
   replace HB:=hid (HB.out.trans (hb4.mono HB.out.size))
   clear hs4 hn4 hb4;have m0:=HXB.out _ HB.out;obtain ⟨g0,g1⟩:=HG.out _ HB.out
   go_wp2_with (at_builtin; (refine di _ rfl (.tmp 38) (.tmp 45) rfl W0.heap.size _ (R ++ eY x.1) rfl HBy.out _ _ (eY x.2) rfl S4.out N4.out gL HB.out.size ?_; intro v5 w5 hown5 hb5 hk5; skip; replace HBy:=hid hown5; replace HB:=hid (HB.out.trans hb5); clear hown5 hb5 hk5; skip))
   exact ⟨⟨t + 1,ae,bB,hid (by rw [HFS.out,← List.append_assoc,HR.out]; unfold bG; rw [← List.append_assoc]; exact HBy.out),HB⟩,bD⟩
  ·obtain rfl : t = m.tn:=ae;have hta : m.types.take m.tn = m.types:=List.take_of_length_le ae;rw [hta] at HBy hfb;clear hta;obtain ⟨P1,hPe⟩ : ∃ X,P0 ++ m.types.flatMap bG = X:=⟨_,rfl⟩;rw [hPe] at HBy hfb;have HQ1:=hid hPe;clear hPe;have hl1:=hfb;clear hfb;go_wp2_with fail;refine (fq W0.heap.size _ P1 ((m.hn : Int)) _ HBy.out HB.out.size ae ae ae).mono ?_;rintro e wp2 ⟨yp2,rfl,hby,hbb,hkb⟩
   replace HB:=hid (HB.out.trans hbb)
   replace HBy:=hid hby
   obtain ⟨m0,m1,m2,m3,m4,m5,m6,m7⟩:=HX.out _ HB.out;clear hby hbb hkb;have hul:=ay ((m.hn : Int));have hPn : (P1 ++ au ((m.hn : Int))).length ≤ 2329:=fh;obtain ⟨P3,hPe⟩ : ∃ X,P1 ++ au ((m.hn : Int)) = X:=⟨_,rfl⟩;rw [hPe] at HBy hPn;have HQ3:=hid hPe;clear hPe;have hl3:=hPn;clear hPn;clear hul;go_wp2_with fail;clear m0 m1 m2 m3 m4 m5 m6 m7
   go_loopw [3,5] (fun b i wr => ∃ t : Nat,t ≤ m.hn ∧ i = .int .i64 t ∧ Hid (Byt wr W0.heap.size b (P3 ++ (m.hosts.take t).flatMap (fun x => au x))) ∧ Hid (Below W0.heap.size W0 wr)) (fun _ i _ => m.hn - (intOf i).toNat)
   case atStart => exact ⟨0,Nat.zero_le _,rfl,hid fN,HB⟩
   case round =>
    clear HBy HB;obtain ⟨t,ht,rfl,HBy,HB⟩:=hrel;obtain ⟨m0,m1,m2,m3,m4,m5,m6,m7⟩:=HX.out _ HB.out
    have hfl:=cf (fun x => au x) 10 (m.hosts.take t) (fun j y hj => M2.out j y om)
    have hft : (m.hosts.take t).length ≤ 32:=lO
    have hfb : (P3 ++ (m.hosts.take t).flatMap (fun x => au x)).length ≤ 2649:=fh
    clear hfl hft
    by_cases hlt : t < m.hn
    ·have hlt' : (t : Int) < (m.hn : Int):=ae;obtain ⟨x,hx⟩ : ∃ x,m.hosts[t]? = some x:=⟨_,aN ae⟩;have hk0 : (0 : Int) ≤ (t : Int):=ae
     have HFS:=hid (jF (fun x => au x) hx)
     obtain ⟨bb,bof,hba,hat⟩:=(HM.out W0 HB0.out).ph.2.resolve_left ae;have e0:=hat t x hx
     have HG:=hid (fun (W : World) (hb : Below W0.heap.size W0 W) => ai hb e0)
     have HXB:=hid (fun (W : World) (hb : Below W0.heap.size W0 W) => (show W.cell? ⟨w.heap.size,1,none⟩ = some (.slice (some ⟨bb,bof,none⟩) m.hn m.hc) by have h1:=HX.out W hb; rw [hba] at h1; exact h1.2.1))
     clear hat m1;have m1:=HXB.out _ HB.out;have g0:=HG.out _ HB.out
     try rw [hba]
     generalize hR : P3 ++ (m.hosts.take t).flatMap (fun x => au x) = R at *
     have HR:=hid hR;clear hR;obtain ⟨q1,q2⟩:=L2.out t x hx;clear hx;go_wp2_with fail;refine (fq W0.heap.size _ R (x) _ HBy.out HB.out.size ae q1 q2).mono ?_;rintro e wp4 ⟨yp4,rfl,hby,hbb,hkb⟩
     replace HB:=hid (HB.out.trans hbb)
     replace HBy:=hid hby
     obtain ⟨m0,m1,m2,m3,m4,m5,m6,m7⟩:=HX.out _ HB.out;clear hby hbb hkb;go_wp2_with fail
     exact ⟨⟨t + 1,ae,bB,hid (by rw [HFS.out,← List.append_assoc,HR.out]; exact HBy.out),HB⟩,bD⟩
    ·obtain rfl : t = m.hn:=ae;have hta : m.hosts.take m.hn = m.hosts:=List.take_of_length_le ae;rw [hta] at HBy hfb;clear hta
     obtain ⟨P5,hPe⟩ : ∃ X,P3 ++ m.hosts.flatMap (fun x => au x) = X:=⟨_,rfl⟩
     rw [hPe] at HBy hfb;have HQ5:=hid hPe;clear hPe;have hl5:=hfb;clear hfb;go_wp2_with fail;refine (fq W0.heap.size _ P5 ((m.gn : Int)) _ HBy.out HB.out.size ae ae ae).mono ?_;rintro e wp6 ⟨yp6,rfl,hby,hbb,hkb⟩
     replace HB:=hid (HB.out.trans hbb)
     replace HBy:=hid hby
     obtain ⟨m0,m1,m2,m3,m4,m5,m6,m7⟩:=HX.out _ HB.out;clear hby hbb hkb;have hul:=ay ((m.gn : Int));have hPn : (P5 ++ au ((m.gn : Int))).length ≤ 2659:=fh;obtain ⟨P7,hPe⟩ : ∃ X,P5 ++ au ((m.gn : Int)) = X:=⟨_,rfl⟩;rw [hPe] at HBy hPn;have HQ7:=hid hPe;clear hPe;have hl7:=hPn;clear hPn;clear hul;go_wp2_with fail;clear m0 m1 m2 m3 m4 m5 m6 m7
     go_loopw [3,6] (fun b i wr => ∃ t : Nat,t ≤ m.gn ∧ i = .int .i64 t ∧ Hid (Byt wr W0.heap.size b (P7 ++ (m.globals.take t).flatMap cz)) ∧ Hid (Below W0.heap.size W0 wr)) (fun _ i _ => m.gn - (intOf i).toNat)
     case atStart => exact ⟨0,Nat.zero_le _,rfl,hid fN,HB⟩
     case round =>
      clear HBy HB;obtain ⟨t,ht,rfl,HBy,HB⟩:=hrel;obtain ⟨m0,m1,m2,m3,m4,m5,m6,m7⟩:=HX.out _ HB.out
      have hfl:=cf cz 12 (m.globals.take t) (fun j y hj => M3.out j y om)
      have hft : (m.globals.take t).length ≤ 64:=lO;have hfb : (P7 ++ (m.globals.take t).flatMap cz).length ≤ 3427:=fh;clear hfl hft
      by_cases hlt : t < m.gn
      ·have hlt' : (t : Int) < (m.gn : Int):=ae;obtain ⟨x,hx⟩ : ∃ x,m.globals[t]? = some x:=⟨_,aN ae⟩;have hk0 : (0 : Int) ≤ (t : Int):=ae;have HFS:=hid (jF cz hx);obtain ⟨bb,bof,hba,hat⟩:=(HM.out W0 HB0.out).pg.2.resolve_left ae;obtain ⟨e0,e1,e2⟩:=hat t x hx
       have HG:=hid (fun (W : World) (hb : Below W0.heap.size W0 W) => (⟨ai hb e0,ai hb e1,ai hb e2⟩ : W.cell? ⟨bb,bof + t * 3,none⟩ = some (.int .u8 x.1) ∧ W.cell? ⟨bb,bof + t * 3 + 1,none⟩ = some (.bool x.2.1) ∧ W.cell? ⟨bb,bof + t * 3 + 2,none⟩ = some (.int .u64 x.2.2)))
       have HXB:=hid (fun (W : World) (hb : Below W0.heap.size W0 W) => (show W.cell? ⟨w.heap.size,2,none⟩ = some (.slice (some ⟨bb,bof,none⟩) m.gn m.gc) by have h1:=HX.out W hb; rw [hba] at h1; exact h1.2.2.1))
       clear hat m2;have m2:=HXB.out _ HB.out;obtain ⟨g0,g1,g2⟩:=HG.out _ HB.out
       try rw [hba]
       generalize hR : P7 ++ (m.globals.take t).flatMap cz = R at *;have HR:=hid hR;clear hR;obtain ⟨r0,r1,r2,r3⟩:=(HM.out W0 HB0.out).gr t x hx;have hck:=L3.out t x hx
       have hfi : x.1 = 119 → x.2.2 < 4294967296:=fun h => by
        have h3 : eJ x.2.2 x.1 = true:=by unfold dM at hck; split at hck; cases hck; split at hck; cases hck; rename_i h3; simpa using h3
        rw [h] at h3; simpa [eJ] using h3
       have HSG:=hid (fun (W : World) => rK x W r2 r3 hfi)
       have hsr : -9223372036854775808 ≤ sgn x.1 x.2.2 ∧ sgn x.1 x.2.2 < 9223372036854775808:=by
        unfold sgn
        split
        ·split
         ·split <;> omega
         ·omega
        ·split <;> omega
       have HSV:=hid (fun (W : World) => Gb (sgn x.1 x.2.2) W hsr.1 hsr.2)
       have hul:=ay (fo (sgn x.1 x.2.2));have HEN:=hid (show cz x = [x.1,if x.2.1 then 1 else 0] ++ au (fo (sgn x.1 x.2.2)) from rfl);clear hx hck hfi hsr r2 r3;obtain ⟨xc,xm,xv⟩:=x;dsimp only at *;generalize sgn xc xv = sv at *;generalize au (fo sv) = U at *
       have S1:=hid (fun (W : World) (b : Nat) (h : W.cell? ⟨b,0,none⟩ = some (.int .u8 xc)) => ja h r0 r1)
       cases xm with
       | true =>
        have BN:=ak wr (bo xc true xv);have bf:=heap_alloc_new wr (bo xc true xv);have B2:=ak (wr.alloc (bo xc true xv)) (bY xc);have hz1 : (wr.alloc (bo xc true xv)).heap.size = wr.heap.size + 1:=aq;have c1 : ((wr.alloc (bo xc true xv)).alloc (bY xc)).cell? ⟨wr.heap.size + 1,0,none⟩ = some (.int .u8 xc):=Co;have S4:=hid (S1.out _ _ c1)
        have N4:=hid (fun (h : some (⟨wr.heap.size + 1,0,none⟩ : Addr) = none) => (show (1 : Nat) = 0 by cases h))
        replace HBy:=hid (aI (aI HBy.out BN) B2)
        replace HB:=hid ((HB.out.trans (BN.mono HB.out.size)).trans (B2.mono (HB.out.trans (BN.mono HB.out.size)).size))
        have BF:=hid (kU B2 bf);clear BN B2 bf c1 hz1
        go_wp2_with (at_builtin; first | (refine di _ rfl (.tmp 83) (.tmp 86) rfl W0.heap.size _ (R) rfl HBy.out _ _ ([xc]) rfl S4.out N4.out gL HB.out.size ?_; intro v5 w5 hown5 hb5 hk5; replace BF:=hid (gZ BF.out av HBy.out hk5); replace HBy:=hid hown5; replace HB:=hid (HB.out.trans hb5); clear hown5 hb5 hk5; have k0 : w5.cell? ⟨wr.heap.size,0,none⟩ = some (.int .u8 xc):=ag BF.out; have k1 : w5.cell? ⟨wr.heap.size,1,none⟩ = some (.bool true):=ag BF.out; have k2 : w5.cell? ⟨wr.heap.size,2,none⟩ = some (.int .u64 xv):=ag BF.out) | (have BN:=ak w5 (bY 1); have c1 : (w5.alloc (bY 1)).cell? ⟨w5.heap.size,0,none⟩ = some (.int .u8 1):=ag (heap_alloc_new _ _); replace HBy:=hid (aI HBy.out BN); replace HB:=hid (HB.out.trans (BN.mono HB.out.size)); replace BF:=hid (kU BN BF.out); refine di _ rfl (.tmp 90) (.tmp 91) rfl W0.heap.size _ (R ++ [xc]) rfl HBy.out _ _ ([1]) rfl (ja c1 ae ae) (fun h => cw) gL HB.out.size ?_; intro v6 w6 hown5 hb5 hk5; replace BF:=hid (gZ BF.out av HBy.out hk5); replace HBy:=hid hown5; replace HB:=hid (HB.out.trans hb5); clear hown5 hb5 hk5; have k0 : w6.cell? ⟨wr.heap.size,0,none⟩ = some (.int .u8 xc):=ag BF.out; have k1 : w6.cell? ⟨wr.heap.size,1,none⟩ = some (.bool true):=ag BF.out; have k2 : w6.cell? ⟨wr.heap.size,2,none⟩ = some (.int .u64 xv):=ag BF.out))
        refine (HSG.out _).mono ?_;rintro e w8 ⟨rfl,hb8⟩
        replace HBy:=hid (aI HBy.out hb8)
        replace HB:=hid (HB.out.trans (hb8.mono HB.out.size))
        clear hb8 k0 k1 k2;go_wp2_with fail;refine (HSV.out _).mono ?_;rintro e w9 ⟨ua,uc,rfl,hs4,hn4,hb4⟩;have S4:=hid hs4;have N4:=hid hn4
        replace HBy:=hid (aI HBy.out hb4)
        replace HB:=hid (HB.out.trans (hb4.mono HB.out.size))
        clear hs4 hn4 hb4
        go_wp2_with (at_builtin; (refine di _ rfl (.tmp 96) (.tmp 99) rfl W0.heap.size _ (R ++ [xc] ++ [1]) rfl HBy.out _ _ (U) rfl S4.out N4.out gL HB.out.size ?_; intro v5 w5 hown5 hb5 hk5; replace HBy:=hid hown5; replace HB:=hid (HB.out.trans hb5); clear hown5 hb5 hk5))
        exact Fq
       | false =>
        have BN:=ak wr (bo xc false xv);have bf:=heap_alloc_new wr (bo xc false xv);have B2:=ak (wr.alloc (bo xc false xv)) (bY xc);have hz1 : (wr.alloc (bo xc false xv)).heap.size = wr.heap.size + 1:=aq;have c1 : ((wr.alloc (bo xc false xv)).alloc (bY xc)).cell? ⟨wr.heap.size + 1,0,none⟩ = some (.int .u8 xc):=Co;have S4:=hid (S1.out _ _ c1)
        have N4:=hid (fun (h : some (⟨wr.heap.size + 1,0,none⟩ : Addr) = none) => (show (1 : Nat) = 0 by cases h))
        replace HBy:=hid (aI (aI HBy.out BN) B2)
        replace HB:=hid ((HB.out.trans (BN.mono HB.out.size)).trans (B2.mono (HB.out.trans (BN.mono HB.out.size)).size))
        have BF:=hid (kU B2 bf);clear BN B2 bf c1 hz1
        go_wp2_with (at_builtin; first | (refine di _ rfl (.tmp 83) (.tmp 86) rfl W0.heap.size _ (R) rfl HBy.out _ _ ([xc]) rfl S4.out N4.out gL HB.out.size ?_; intro v5 w5 hown5 hb5 hk5; replace BF:=hid (gZ BF.out av HBy.out hk5); replace HBy:=hid hown5; replace HB:=hid (HB.out.trans hb5); clear hown5 hb5 hk5; have k0 : w5.cell? ⟨wr.heap.size,0,none⟩ = some (.int .u8 xc):=ag BF.out; have k1 : w5.cell? ⟨wr.heap.size,1,none⟩ = some (.bool false):=ag BF.out; have k2 : w5.cell? ⟨wr.heap.size,2,none⟩ = some (.int .u64 xv):=ag BF.out) | (have BN:=ak w5 (bY 0); have c1 : (w5.alloc (bY 0)).cell? ⟨w5.heap.size,0,none⟩ = some (.int .u8 0):=ag (heap_alloc_new _ _); replace HBy:=hid (aI HBy.out BN); replace HB:=hid (HB.out.trans (BN.mono HB.out.size)); replace BF:=hid (kU BN BF.out); refine di _ rfl (.tmp 93) (.tmp 94) rfl W0.heap.size _ (R ++ [xc]) rfl HBy.out _ _ ([0]) rfl (ja c1 ae ae) (fun h => cw) gL HB.out.size ?_; intro v6 w6 hown5 hb5 hk5; replace BF:=hid (gZ BF.out av HBy.out hk5); replace HBy:=hid hown5; replace HB:=hid (HB.out.trans hb5); clear hown5 hb5 hk5; have k0 : w6.cell? ⟨wr.heap.size,0,none⟩ = some (.int .u8 xc):=ag BF.out; have k1 : w6.cell? ⟨wr.heap.size,1,none⟩ = some (.bool false):=ag BF.out; have k2 : w6.cell? ⟨wr.heap.size,2,none⟩ = some (.int .u64 xv):=ag BF.out))
        refine (HSG.out _).mono ?_;rintro e w8 ⟨rfl,hb8⟩
        replace HBy:=hid (aI HBy.out hb8)
        replace HB:=hid (HB.out.trans (hb8.mono HB.out.size))
        clear hb8 k0 k1 k2;go_wp2_with fail;refine (HSV.out _).mono ?_;rintro e w9 ⟨ua,uc,rfl,hs4,hn4,hb4⟩;have S4:=hid hs4;have N4:=hid hn4
        replace HBy:=hid (aI HBy.out hb4)
        replace HB:=hid (HB.out.trans (hb4.mono HB.out.size))
        clear hs4 hn4 hb4
        go_wp2_with (at_builtin; (refine di _ rfl (.tmp 96) (.tmp 99) rfl W0.heap.size _ (R ++ [xc] ++ [0]) rfl HBy.out _ _ (U) rfl S4.out N4.out gL HB.out.size ?_; intro v5 w5 hown5 hb5 hk5; replace HBy:=hid hown5; replace HB:=hid (HB.out.trans hb5); clear hown5 hb5 hk5))
        exact Fq
      ·obtain rfl : t = m.gn:=ae;have hta : m.globals.take m.gn = m.globals:=List.take_of_length_le ae;rw [hta] at HBy hfb;clear hta;obtain ⟨P8,hPe⟩ : ∃ X,P7 ++ m.globals.flatMap cz = X:=⟨_,rfl⟩;rw [hPe] at HBy hfb;have HQ8:=hid hPe;clear hPe;have hl8:=hfb;clear hfb;go_wp2_with fail;refine (fq W0.heap.size _ P8 (m.fi) _ HBy.out HB.out.size ae R4.1 ae).mono ?_;rintro e wp9 ⟨yp9,rfl,hby,hbb,hkb⟩
       replace HB:=hid (HB.out.trans hbb)
       replace HBy:=hid hby
       obtain ⟨m0,m1,m2,m3,m4,m5,m6,m7⟩:=HX.out _ HB.out;clear hby hbb hkb;have hul:=ay (m.fi);have hPn : (P8 ++ au (m.fi)).length ≤ 3437:=fh;obtain ⟨P10,hPe⟩ : ∃ X,P8 ++ au (m.fi) = X:=⟨_,rfl⟩;rw [hPe] at HBy hPn;have HQ10:=hid hPe;clear hPe;have hl10:=hPn;clear hPn;clear hul;go_wp2_with fail;refine (fq W0.heap.size _ P10 (m.mo) _ HBy.out HB.out.size ae R5.1 ae).mono ?_;rintro e wp11 ⟨yp11,rfl,hby,hbb,hkb⟩
       replace HB:=hid (HB.out.trans hbb)
       replace HBy:=hid hby
       obtain ⟨m0,m1,m2,m3,m4,m5,m6,m7⟩:=HX.out _ HB.out;clear hby hbb hkb;have hul:=ay (m.mo);have hPn : (P10 ++ au (m.mo)).length ≤ 3447:=fh;obtain ⟨P12,hPe⟩ : ∃ X,P10 ++ au (m.mo) = X:=⟨_,rfl⟩;rw [hPe] at HBy hPn;have HQ12:=hid hPe;clear hPe;have hl12:=hPn;clear hPn;clear hul;go_wp2_with fail;refine (fq W0.heap.size _ P12 ((m.fn : Int)) _ HBy.out HB.out.size ae ae ae).mono ?_;rintro e wp13 ⟨yp13,rfl,hby,hbb,hkb⟩
       replace HB:=hid (HB.out.trans hbb)
       replace HBy:=hid hby
       obtain ⟨m0,m1,m2,m3,m4,m5,m6,m7⟩:=HX.out _ HB.out;clear hby hbb hkb;have hul:=ay ((m.fn : Int));have hPn : (P12 ++ au ((m.fn : Int))).length ≤ 3457:=fh;obtain ⟨P14,hPe⟩ : ∃ X,P12 ++ au ((m.fn : Int)) = X:=⟨_,rfl⟩;rw [hPe] at HBy hPn;have HQ14:=hid hPe;clear hPe;have hl14:=hPn;clear hPn;clear hul;go_wp2_with fail;clear m0 m1 m2 m3 m4 m5 m6 m7
       go_loopw [3,8] (fun b i wr => ∃ t : Nat,t ≤ m.fn ∧ i = .int .i64 t ∧ Hid (Byt wr W0.heap.size b (P14 ++ (m.fns.take t).flatMap bX)) ∧ Hid (Below W0.heap.size W0 wr)) (fun _ i _ => m.fn - (intOf i).toNat)
       case atStart => exact ⟨0,Nat.zero_le _,rfl,hid fN,HB⟩
       case round =>
        clear HBy HB;obtain ⟨t,ht,rfl,HBy,HB⟩:=hrel;obtain ⟨m0,m1,m2,m3,m4,m5,m6,m7⟩:=HX.out _ HB.out
        have hfl:=cf bX 400000 (m.fns.take t) (fun j y hj => M6.out j y om)
        have hft : (m.fns.take t).length ≤ 128:=lO;have hfb : (P14 ++ (m.fns.take t).flatMap bX).length ≤ 51203457:=fh;clear hfl hft
        by_cases hlt : t < m.fn
        ·have hlt' : (t : Int) < (m.fn : Int):=ae;obtain ⟨x,hx⟩ : ∃ x,m.fns[t]? = some x:=⟨_,aN ae⟩;have hk0 : (0 : Int) ≤ (t : Int):=ae;have HFS:=hid (jF bX hx);obtain ⟨bb,bof,hba,hat⟩:=(HM.out W0 HB0.out).pf.2.resolve_left ae;obtain ⟨e0,e1,e2⟩:=hat t x hx
         have HG:=hid (fun (W : World) (hb : Below W0.heap.size W0 W) => (⟨ai hb e0,ai hb e1,ai hb e2⟩ : W.cell? ⟨bb,bof + t * 3,none⟩ = some (.int .i64 x.1) ∧ W.cell? ⟨bb,bof + t * 3 + 1,none⟩ = some (.string x.2.1) ∧ W.cell? ⟨bb,bof + t * 3 + 2,none⟩ = some (.slice x.2.2.1.1 x.2.2.1.2.1 x.2.2.1.2.2)))
         have HXB:=hid (fun (W : World) (hb : Below W0.heap.size W0 W) => (show W.cell? ⟨w.heap.size,5,none⟩ = some (.slice (some ⟨bb,bof,none⟩) m.fn m.fc) by have h1:=HX.out W hb; rw [hba] at h1; exact h1.2.2.2.2.2.1))
         clear hat m5;have m5:=HXB.out _ HB.out;obtain ⟨g0,g1,g2⟩:=HG.out _ HB.out
         try rw [hba]
         generalize hR : P14 ++ (m.fns.take t).flatMap bX = R at *;have HR:=hid hR;clear hR;have HCK:=L6.out t x hx;obtain ⟨⟨r0,r1⟩,hin0,-,hiy0⟩:=(HM.out W0 HB0.out).fr t x hx;have HEN:=hid (show bX x = au x.1 ++ eY x.2.1 ++ (au x.2.2.2.length ++ x.2.2.2.flatMap cP) from rfl);obtain ⟨ty,lo,⟨ca,cn,cc⟩,ins⟩:=x;dsimp only at *;unfold cR at HCK;dsimp only at HCK;obtain ⟨s64,-,s2048,hfi⟩:=oo HCK
         have hty : 0 ≤ ty:=by unfold eX at HCK; split at HCK; cases HCK; omega
         have HCI:=hid (fun (i : Nat) y (hi : ins[i]? = some y) => (show cS y = 0 by have h1:=bq (fun _ x => cS x) ins [] hfi i y hi; exact h1))
         have hlen : ins.length = cn:=hin0.1;have HIN:=hid hin0;have HIY:=hid hiy0;have u1:=(cX lo 64 s64).2;have u2:=ay ty;have u3:=ay (cn : Int);rw [hlen] at HEN s2048;clear hx HCK hfi hin0 hiy0;have BN:=ak wr (aL ty lo ca cn cc);have BF:=hid (heap_alloc_new wr (aL ty lo ca cn cc))
         replace HBy:=hid (aI HBy.out BN)
         replace HB:=hid (HB.out.trans (BN.mono HB.out.size))
         clear BN;have k0 : (wr.alloc (aL ty lo ca cn cc)).cell? ⟨wr.heap.size,0,none⟩ = some (.int .i64 ty):=ag BF.out;have k1 : (wr.alloc (aL ty lo ca cn cc)).cell? ⟨wr.heap.size,1,none⟩ = some (.string lo):=ag BF.out;have k2 : (wr.alloc (aL ty lo ca cn cc)).cell? ⟨wr.heap.size,2,none⟩ = some (.slice ca cn cc):=ag BF.out;go_wp2_with fail;refine (fq W0.heap.size _ R ty _ HBy.out HB.out.size ae hty r1).mono ?_;rintro e wa ⟨ya,rfl,hby,hbb,hkb⟩
         replace BF:=hid (gZ BF.out av HBy.out hkb)
         replace HBy:=hid hby
         replace HB:=hid (HB.out.trans hbb)
         clear hby hbb hkb;have k0 : wa.cell? ⟨wr.heap.size,0,none⟩ = some (.int .i64 ty):=ag BF.out;have k1 : wa.cell? ⟨wr.heap.size,1,none⟩ = some (.string lo):=ag BF.out;have k2 : wa.cell? ⟨wr.heap.size,2,none⟩ = some (.slice ca cn cc):=ag BF.out;go_wp2_with fail;refine (wK lo _ ae).mono ?_;rintro e wt ⟨ua,uc,rfl,hs4,hn4,hb4⟩;have S4:=hid hs4;have N4:=hid hn4
         replace HBy:=hid (aI HBy.out hb4)
         replace HB:=hid (HB.out.trans (hb4.mono HB.out.size))
         replace BF:=hid (kU hb4 BF.out)
         clear hs4 hn4 hb4;have k0 : wt.cell? ⟨wr.heap.size,0,none⟩ = some (.int .i64 ty):=ag BF.out;have k1 : wt.cell? ⟨wr.heap.size,1,none⟩ = some (.string lo):=ag BF.out;have k2 : wt.cell? ⟨wr.heap.size,2,none⟩ = some (.slice ca cn cc):=ag BF.out
         go_wp2_with (at_builtin; (refine di _ rfl (.tmp 130) (.tmp 133) rfl W0.heap.size _ (R ++ au ty) rfl HBy.out _ _ (eY lo) rfl S4.out N4.out gL HB.out.size ?_; intro v5 w5 hown5 hb5 hk5; replace BF:=hid (gZ BF.out av HBy.out hk5); replace HBy:=hid hown5; replace HB:=hid (HB.out.trans hb5); clear hown5 hb5 hk5; have k0 : w5.cell? ⟨wr.heap.size,0,none⟩ = some (.int .i64 ty):=ag BF.out; have k1 : w5.cell? ⟨wr.heap.size,1,none⟩ = some (.string lo):=ag BF.out; have k2 : w5.cell? ⟨wr.heap.size,2,none⟩ = some (.slice ca cn cc):=ag BF.out))
         refine (fq W0.heap.size _ (R ++ au ty ++ eY lo) (cn : Int) _ HBy.out HB.out.size iZ ae ae).mono ?_;rintro e wb ⟨yb,rfl,hby,hbb,hkb⟩
         replace BF:=hid (gZ BF.out av HBy.out hkb)
         replace HBy:=hid hby
         replace HB:=hid (HB.out.trans hbb)
         clear hby hbb hkb;have k0 : wb.cell? ⟨wr.heap.size,0,none⟩ = some (.int .i64 ty):=ag BF.out;have k1 : wb.cell? ⟨wr.heap.size,1,none⟩ = some (.string lo):=ag BF.out;have k2 : wb.cell? ⟨wr.heap.size,2,none⟩ = some (.slice ca cn cc):=ag BF.out;have hql : (R ++ au ty ++ eY lo ++ au (cn : Int)).length ≤ R.length + 200:=iZ;obtain ⟨Q,hQ⟩ : ∃ Q,R ++ au ty ++ eY lo ++ au (cn : Int) = Q:=⟨_,rfl⟩;rw [hQ] at HBy hql;have HQQ:=hid hQ;clear hQ;go_wp2_with fail;clear k0 k1 k2;generalize wr.heap.size = F at *
         go_loopw [3,10] (fun b k wq => ∃ q : Nat,q ≤ cn ∧ k = .int .i64 q ∧ Hid (Byt wq W0.heap.size b (Q ++ (ins.take q).flatMap cP)) ∧ Hid (Below W0.heap.size W0 wq) ∧ Hid (wq.heap[F]? = some (aL ty lo ca cn cc))) (fun _ k _ => cn - (intOf k).toNat)
         case atStart => exact ⟨0,Nat.zero_le _,rfl,hid fN,HB,BF⟩
         case round =>
          clear HBy HB BF;obtain ⟨q,hq,rfl,HBy,HB,BF⟩:=hrel;have k0 : wr.cell? ⟨F,0,none⟩ = some (.int .i64 ty):=ag BF.out;have k1 : wr.cell? ⟨F,1,none⟩ = some (.string lo):=ag BF.out;have k2 : wr.cell? ⟨F,2,none⟩ = some (.slice ca cn cc):=ag BF.out
          have hfl2:=cf cP 171 (ins.take q) (fun j y hj => ip (HCI.out j y (by rw [List.getElem?_take] at hj; split at hj; exact hj; cases hj)))
          have hft2 : (ins.take q).length ≤ 2048:=lO;have hfq : (Q ++ (ins.take q).flatMap cP).length ≤ R.length + 400000:=fh;clear hfl2 hft2
          by_cases hqn : q < cn
          ·have hqn' : (q : Int) < (cn : Int):=ae;obtain ⟨y,hy⟩ : ∃ y,ins[q]? = some y:=⟨_,aN ae⟩;have HFS2:=hid (jF cP hy);obtain ⟨cb,cof,rfl,hatI⟩:=HIN.out.2.resolve_left ae;obtain ⟨z0,z1,z2⟩:=hatI q y hy;have z0:=ai HB.out z0;have z1:=ai HB.out z1;have z2:=ai HB.out z2;obtain ⟨v0,v1,v2,-⟩:=HIY.out q y hy;have HEC:=hid (JR y _ v0 v1 (v2.later HB.out (Nat.le_refl _)) (HCI.out q y hy));have u4:=ip (HCI.out q y hy);have hq0 : (0 : Int) ≤ (q : Int):=ae;clear hatI hy v0 v1 v2;generalize hR2 : Q ++ (ins.take q).flatMap cP = R2 at *;have HR2:=hid hR2;clear hR2;go_wp2_with fail;refine HEC.out.mono ?_;rintro e w9 ⟨ua,uc,rfl,hs4,hn4,hb4⟩;have S4:=hid hs4;have N4:=hid hn4
           replace HBy:=hid (aI HBy.out hb4)
           replace HB:=hid (HB.out.trans (hb4.mono HB.out.size))
           replace BF:=hid (kU hb4 BF.out)
           clear hs4 hn4 hb4;generalize cP y = U at *
           go_wp2_with (at_builtin; (refine di _ rfl (.tmp 156) (.tmp 157) rfl W0.heap.size _ (R2) rfl HBy.out _ _ (U) rfl S4.out N4.out gL HB.out.size ?_; intro v5 w5 hown5 hb5 hk5; replace BF:=hid (gZ BF.out av HBy.out hk5); replace HBy:=hid hown5; replace HB:=hid (HB.out.trans hb5); clear hown5 hb5 hk5))
           exact ⟨⟨q + 1,ae,bB,hid (by rw [HFS2.out,← List.append_assoc,HR2.out]; exact HBy.out),HB,BF⟩,bD⟩
          ·obtain rfl : q = cn:=ae;have hta : ins.take q = ins:=List.take_of_length_le ae;have hby:=HBy.out;rw [hta,← HQQ.out] at hby
           replace HBy:=hid hby
           clear hby hta;go_wp2_with fail
           exact ⟨⟨t + 1,ae,bB,hid (by rw [HFS.out,← List.append_assoc,HR.out]; rw [HEN.out]; simpa only [List.append_assoc] using HBy.out),HB⟩,bD⟩
        ·obtain rfl : t = m.fn:=ae;have hta : m.fns.take m.fn = m.fns:=List.take_of_length_le ae;rw [hta] at HBy hfb;clear hta;obtain ⟨P15,hPe⟩ : ∃ X,P14 ++ m.fns.flatMap bX = X:=⟨_,rfl⟩;rw [hPe] at HBy hfb;have HQ15:=hid hPe;clear hPe;have hl15:=hfb;clear hfb;go_wp2_with fail;refine (fq W0.heap.size _ P15 ((m.dn : Int)) _ HBy.out HB.out.size ae ae ae).mono ?_;rintro e wp16 ⟨yp16,rfl,hby,hbb,hkb⟩
         replace HB:=hid (HB.out.trans hbb)
         replace HBy:=hid hby
         obtain ⟨m0,m1,m2,m3,m4,m5,m6,m7⟩:=HX.out _ HB.out;clear hby hbb hkb;have hul:=ay ((m.dn : Int));have hPn : (P15 ++ au ((m.dn : Int))).length ≤ 51203467:=fh;obtain ⟨P17,hPe⟩ : ∃ X,P15 ++ au ((m.dn : Int)) = X:=⟨_,rfl⟩;rw [hPe] at HBy hPn;have HQ17:=hid hPe;clear hPe;have hl17:=hPn;clear hPn;clear hul;go_wp2_with fail;clear m0 m1 m2 m3 m4 m5 m6 m7
         go_loopw [3,13] (fun b i wr => ∃ t : Nat,t ≤ m.dn ∧ i = .int .i64 t ∧ Hid (Byt wr W0.heap.size b (P17 ++ (m.data.take t).flatMap ck)) ∧ Hid (Below W0.heap.size W0 wr)) (fun _ i _ => m.dn - (intOf i).toNat)
         case atStart => exact ⟨0,Nat.zero_le _,rfl,hid fN,HB⟩
         case round =>
          clear HBy HB;obtain ⟨t,ht,rfl,HBy,HB⟩:=hrel;obtain ⟨m0,m1,m2,m3,m4,m5,m6,m7⟩:=HX.out _ HB.out
          have hfl:=cf ck 300000 (m.data.take t) (fun j y hj => M7.out j y om)
          have hft : (m.data.take t).length ≤ 64:=lO;have hfb : (P17 ++ (m.data.take t).flatMap ck).length ≤ 70403467:=fh;clear hfl hft
          by_cases hlt : t < m.dn
          ·have hlt' : (t : Int) < (m.dn : Int):=ae;obtain ⟨x,hx⟩ : ∃ x,m.data[t]? = some x:=⟨_,aN ae⟩;have hk0 : (0 : Int) ≤ (t : Int):=ae;have HFS:=hid (jF ck hx);obtain ⟨bb,bof,hba,hat⟩:=(HM.out W0 HB0.out).pd.2.resolve_left ae;obtain ⟨e0,e1⟩:=hat t x hx
           have HG:=hid (fun (W : World) (hb : Below W0.heap.size W0 W) => (⟨ai hb e0,ai hb e1⟩ : W.cell? ⟨bb,bof + t * 2,none⟩ = some (.int .i64 x.1) ∧ W.cell? ⟨bb,bof + t * 2 + 1,none⟩ = some (.slice x.2.1.1 x.2.1.2.1 x.2.1.2.2)))
           have HXB:=hid (fun (W : World) (hb : Below W0.heap.size W0 W) => (show W.cell? ⟨w.heap.size,6,none⟩ = some (.slice (some ⟨bb,bof,none⟩) m.dn m.dc) by have h1:=HX.out W hb; rw [hba] at h1; exact h1.2.2.2.2.2.2.1))
           clear hat m6;have m6:=HXB.out _ HB.out;obtain ⟨g0,g1⟩:=HG.out _ HB.out
           try rw [hba]
           generalize hR : P17 ++ (m.data.take t).flatMap ck = R at *;have HR:=hid hR;clear hR;have hck:=L7.out t x hx
           have HSEG:=hid (fun (W : World) (hb : Below w.heap.size w W) => ((HM.out W hb).dr t x hx).2.1)
           obtain ⟨⟨r0,r1⟩,-,-⟩:=(HM.out W0 HB0.out).dr t x hx;have hdx:=HDX.out t x hx;have HEN:=hid (show ck x = au x.1 ++ (au x.2.2.length ++ x.2.2) from rfl)
           have hpl : 0 ≤ x.1:=by unfold bK at hck; split at hck; cases hck; omega
           have hET : eY (strOfNums x.2.2) = au x.2.2.length ++ x.2.2:=by unfold eY; rw [ik,ow _ (HSEG.out W0 HB0.out).2.2.2.1]
           have HET:=hid hET
           have u1:=(cX (strOfNums x.2.2) 1000000 (by rw [ik]; exact hdx)).2
           have u2:=ay x.1;have hss:=ik x.2.2;clear hx hck hET;obtain ⟨pl,⟨ba,bn,bc⟩,bl⟩:=x;dsimp only at *;go_wp2_with fail;refine (fq W0.heap.size _ R pl _ HBy.out HB.out.size ae hpl r1).mono ?_;rintro e wa ⟨ya,rfl,hby,hbb,hkb⟩
           replace HBy:=hid hby
           replace HB:=hid (HB.out.trans hbb)
           clear hby hbb hkb;have m6:=HXB.out _ HB.out;obtain ⟨g0,g1⟩:=HG.out _ HB.out;have hcv:=j3 wa ba bn bc bl (HSEG.out wa (HB0.out.trans (HB.out.mono HB0.out.size)));generalize strOfNums bl = sb at *;go_wp2_with fail;refine (wK sb _ ae).mono ?_;rintro e wt ⟨ua,uc,rfl,hs4,hn4,hb4⟩;have S4:=hid hs4;have N4:=hid hn4
           replace HBy:=hid (aI HBy.out hb4)
           replace HB:=hid (HB.out.trans (hb4.mono HB.out.size))
           clear hs4 hn4 hb4
           go_wp2_with (at_builtin; (refine di _ rfl (.tmp 179) (.tmp 187) rfl W0.heap.size _ (R ++ au pl) rfl HBy.out _ _ (eY sb) rfl S4.out N4.out gL HB.out.size ?_; intro v5 w5 hown5 hb5 hk5; replace HBy:=hid hown5; replace HB:=hid (HB.out.trans hb5); clear hown5 hb5 hk5))
           exact ⟨⟨t + 1,ae,bB,hid (by rw [HFS.out,← List.append_assoc,HR.out]; rw [HEN.out,← HET.out,← List.append_assoc]; exact HBy.out),HB⟩,bD⟩
          ·obtain rfl : t = m.dn:=ae;have hta : m.data.take m.dn = m.data:=List.take_of_length_le ae;rw [hta] at HBy hfb;clear hta;obtain ⟨P18,hPe⟩ : ∃ X,P17 ++ m.data.flatMap ck = X:=⟨_,rfl⟩;rw [hPe] at HBy hfb;have HQ18:=hid hPe;clear hPe;have hl18:=hfb;clear hfb;go_wp2_with fail;refine (fq W0.heap.size _ P18 ((m.en : Int)) _ HBy.out HB.out.size ae ae ae).mono ?_;rintro e wp19 ⟨yp19,rfl,hby,hbb,hkb⟩
           replace HB:=hid (HB.out.trans hbb)
           replace HBy:=hid hby
           obtain ⟨m0,m1,m2,m3,m4,m5,m6,m7⟩:=HX.out _ HB.out;clear hby hbb hkb;have hul:=ay ((m.en : Int));have hPn : (P18 ++ au ((m.en : Int))).length ≤ 70403477:=fh;obtain ⟨P20,hPe⟩ : ∃ X,P18 ++ au ((m.en : Int)) = X:=⟨_,rfl⟩;rw [hPe] at HBy hPn;have HQ20:=hid hPe;clear hPe;have hl20:=hPn;clear hPn;clear hul;go_wp2_with fail;clear m0 m1 m2 m3 m4 m5 m6 m7
           go_loopw [3,14] (fun b i wr => ∃ t : Nat,t ≤ m.en ∧ i = .int .i64 t ∧ Hid (Byt wr W0.heap.size b (P20 ++ (m.exps.take t).flatMap dz)) ∧ Hid (Below W0.heap.size W0 wr)) (fun _ i _ => m.en - (intOf i).toNat)
           case atStart => exact ⟨0,Nat.zero_le _,rfl,hid fN,HB⟩
           case round =>
            clear HBy HB;obtain ⟨t,ht,rfl,HBy,HB⟩:=hrel;obtain ⟨m0,m1,m2,m3,m4,m5,m6,m7⟩:=HX.out _ HB.out
            have hfl:=cf dz 60 (m.exps.take t) (fun j y hj => M8.out j y om)
            have hft : (m.exps.take t).length ≤ 64:=lO;have hfb : (P20 ++ (m.exps.take t).flatMap dz).length ≤ 70407317:=fh;clear hfl hft
            by_cases hlt : t < m.en
            ·have hlt' : (t : Int) < (m.en : Int):=ae;obtain ⟨x,hx⟩ : ∃ x,m.exps[t]? = some x:=⟨_,aN ae⟩;have hk0 : (0 : Int) ≤ (t : Int):=ae;have HFS:=hid (jF dz hx);obtain ⟨bb,bof,hba,hat⟩:=(HM.out W0 HB0.out).pe.2.resolve_left ae;obtain ⟨e0,e1⟩:=hat t x hx
             have HG:=hid (fun (W : World) (hb : Below W0.heap.size W0 W) => (⟨ai hb e0,ai hb e1⟩ : W.cell? ⟨bb,bof + t * 2,none⟩ = some (.string x.1) ∧ W.cell? ⟨bb,bof + t * 2 + 1,none⟩ = some (.int .i64 x.2)))
             have HXB:=hid (fun (W : World) (hb : Below W0.heap.size W0 W) => (show W.cell? ⟨w.heap.size,7,none⟩ = some (.slice (some ⟨bb,bof,none⟩) m.en m.ec) by have h1:=HX.out W hb; rw [hba] at h1; exact h1.2.2.2.2.2.2.2))
             clear hat m7;have m7:=HXB.out _ HB.out;obtain ⟨g0,g1⟩:=HG.out _ HB.out
             try rw [hba]
             generalize hR : P20 ++ (m.exps.take t).flatMap dz = R at *;have HR:=hid hR;clear hR;have hck:=L8.out t x hx;have hex:=HEX.out t x hx
             have hq : 0 ≤ x.2 ∧ x.2 < 9223372036854775808 ∧ x.1.size ≤ 32:=by
              unfold dw at hck
              split at hck
              ·cases hck
              ·split at hck
               ·cases hck
               ·split at hck
                ·cases hck
                ·unfold bQ at hck
                 split at hck
                 ·cases hck
                 ·omega
             have HEN:=hid (show dz x = eY x.1 ++ au x.2 from rfl);obtain ⟨q0,q1,q2⟩:=hq;have u1:=(cX x.1 32 q2).2;clear hx hck;go_wp2_with fail;refine (wK x.1 _ ae).mono ?_;rintro e wt ⟨ua,uc,rfl,hs4,hn4,hb4⟩;have S4:=hid hs4;have N4:=hid hn4
             replace HBy:=hid (aI HBy.out hb4)
             replace HB:=hid (HB.out.trans (hb4.mono HB.out.size))
             clear hs4 hn4 hb4;have m7:=HXB.out _ HB.out;obtain ⟨g0,g1⟩:=HG.out _ HB.out
             go_wp2_with (at_builtin; (refine di _ rfl (.tmp 201) (.tmp 208) rfl W0.heap.size _ (R) rfl HBy.out _ _ (eY x.1) rfl S4.out N4.out gL HB.out.size ?_; intro v5 w5 hown5 hb5 hk5; replace HBy:=hid hown5; replace HB:=hid (HB.out.trans hb5); clear hown5 hb5 hk5; have m7:=HXB.out _ HB.out; obtain ⟨g0,g1⟩:=HG.out _ HB.out))
             refine (fq W0.heap.size _ (R ++ eY x.1) x.2 _ HBy.out HB.out.size iZ q0 q1).mono ?_;rintro e wa ⟨ya,rfl,hby,hbb,hkb⟩
             replace HBy:=hid hby
             replace HB:=hid (HB.out.trans hbb)
             clear hby hbb hkb;go_wp2_with fail
             exact ⟨⟨t + 1,ae,bB,hid (by rw [HFS.out,← List.append_assoc,HR.out]; rw [HEN.out,← List.append_assoc]; exact HBy.out),HB⟩,bD⟩
            ·obtain rfl : t = m.en:=ae;have hta : m.exps.take m.en = m.exps:=List.take_of_length_le ae;rw [hta] at HBy hfb;clear hta;obtain ⟨P21,hPe⟩ : ∃ X,P20 ++ m.exps.flatMap dz = X:=⟨_,rfl⟩;rw [hPe] at HBy hfb;have HQ21:=hid hPe;clear hPe;have hl21:=hfb;clear hfb;go_wp2_with fail;go_ret;refine ⟨_,rfl,?_,HB0.out.trans (HB.out.mono HB0.out.size)⟩
             have hE : dO ++ nY m = P21:=by
              unfold nY;rw [← HQ21.out,← HQ20.out,← HQ18.out,← HQ17.out,← HQ15.out,← HQ14.out,← HQ12.out,← HQ10.out,← HQ8.out,← HQ7.out,← HQ5.out,← HQ3.out,← HQ1.out,← HQ0.out]
              simp only [List.append_assoc]
             rw [hE,← HZ.out];exact HBy.out
end Go.Proofs.YtheefojaplnnoaaGreatDoor

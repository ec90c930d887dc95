/-
  Texts Qk Ua Uc Ud.
-/
import Derived.Test.YtheefojaplnnoaaGreatDoorP00
import Derived.Test.YtheefojaplnnoaaGreatDoorP25
import Derived.Test.YtheefojaplnnoaaGreatDoorP32
import Derived.Test.YtheefojaplnnoaaGreatDoorP37
set_option linter.unusedVariables false
set_option maxRecDepth 100000
set_option maxHeartbeats 16000000
namespace Go.Proofs.YtheefojaplnnoaaGreatDoor
open Go.RowKit
theorem Ki (x y : InM) (w : World) (hs : mG w x) (h : mG w y) (hm : mY x y) :
  Calls Tryz.prog 215 #[.agg #[.int .u8 y.1,.int .i64 y.2.1,.slice y.2.2.1.1 y.2.2.1.2.1 y.2.2.1.2.2],.agg #[.int .u8 x.1,.int .i64 x.2.1,.slice x.2.2.1.1 x.2.2.1.2.1 x.2.2.1.2.2]] w fun e w' => e = .returned (.bool true) ∧ Below w.heap.size w w':=by
 obtain ⟨c,a,⟨xa,xn,xc⟩,xl⟩:=x;obtain ⟨c2,a2,⟨ya,n,yc⟩,l⟩:=y;unfold mY at hm
 try dsimp only at *
 obtain ⟨h1,h2,h3,h4⟩:=hm
 try dsimp only at *
 subst h1 h2 h3 h4;have hb : Below w.heap.size w ((w.alloc (aH c2 a2 ya n yc)).alloc (aH c2 a2 xa n xc)):=((Below.refl _ _).alloc (Nat.le_refl _) _).alloc aq _;have HE:=hid (IV ya xa n yc xc l _ (h.later hb).1 (hs.later hb).1 tO);have HB:=hid hb;have hcc : (c2 == c2) = true:=aq;have haa : (a2 == a2) = true:=aq;clear hs h hb;exact IC
theorem PO (a1 : Option Addr) (n c1 : Nat) (a2 : Option Addr) (c2 : Nat) (ys xs : List InM) (w : World) (hn : n ≤ 200000) (h : fO w a1 n ys) (hw : ∀ y ∈ ys,mG w y) (h2 : fO w a2 n xs) (hs : ∀ x ∈ xs,mG w x) (hm : ∀ (j : Nat) x y,xs[j]? = some x → ys[j]? = some y → mY x y) :
  Calls Tryz.prog 164 #[.slice a1 n c1,.slice a2 n c2] w fun e w' => e = .returned (.bool true) ∧ Below w.heap.size w w':=by
 have hne : ((n : Int) != n) = false:=aq;have H1:=hid h;have hl:=h.1;have H2:=hid h2;have HW:=hid hw;have HS:=hid hs;have HM:=hid hm;have hl2:=h2.1;clear h h2 hw hs hm
 go_enter Tryz.func164,Tryz.ntmps164
 go_wp2_with fail
 go_loopw [5] (fun p wr => ∃ t : Nat,t ≤ n ∧ p = .int .i64 t ∧ Hid (Below w.heap.size w wr)) (fun p _ => n - (intOf p).toNat)
 case atStart => exact ⟨0,ae,rfl,hid (Below.refl _ _)⟩
 case round =>
  obtain ⟨t,ht,rfl,HB⟩:=hrel
  by_cases hlt : t < n
  ·have hlt' : (t : Int) < (n : Int):=ae;obtain ⟨y,hy⟩ : ∃ y,ys[t]? = some y:=⟨_,aN ae⟩;obtain ⟨x,hx⟩ : ∃ x,xs[t]? = some x:=⟨_,aN ae⟩;obtain ⟨b1,o1,rfl,hat1⟩:=H1.out.2.resolve_left ae;obtain ⟨b2,o2,rfl,hat2⟩:=H2.out.2.resolve_left ae;obtain ⟨f0,f1,f2⟩:=hat1 t y hy;obtain ⟨g0,g1,g2⟩:=hat2 t x hx
   have kd : Below wr.heap.size wr wr.drew:=(aJ.drewN (fun _ => False) wr 1).to_below (Nat.le_refl _) (fun _ _ x => x)
   have hbd:=HB.out.trans (kd.mono HB.out.size)
   have HQ2:=hid ((Ki x y wr.drew ((HS.out x (List.mem_of_getElem? hx)).later hbd) ((HW.out y (List.mem_of_getElem? hy)).later hbd) (HM.out t x y hx hy)).mono (fun e w' h => (⟨h.1,kd.trans h.2⟩ : e = .returned (.bool true) ∧ Below wr.heap.size wr w')))
   have HFA:=hid (fun (W : World) (hW : Below wr.heap.size wr W) => (⟨ai (HB.out.trans (hW.mono HB.out.size)) f0,ai (HB.out.trans (hW.mono HB.out.size)) f1,ai (HB.out.trans (hW.mono HB.out.size)) f2,ai (HB.out.trans (hW.mono HB.out.size)) g0,ai (HB.out.trans (hW.mono HB.out.size)) g1,ai (HB.out.trans (hW.mono HB.out.size)) g2⟩ : W.cell? ⟨b1,o1 + t * 3,none⟩ = some (.int .u8 y.1) ∧ W.cell? ⟨b1,o1 + t * 3 + 1,none⟩ = some (.int .i64 y.2.1) ∧ W.cell? ⟨b1,o1 + t * 3 + 2,none⟩ = some (.slice y.2.2.1.1 y.2.2.1.2.1 y.2.2.1.2.2) ∧ W.cell? ⟨b2,o2 + t * 3,none⟩ = some (.int .u8 x.1) ∧ W.cell? ⟨b2,o2 + t * 3 + 1,none⟩ = some (.int .i64 x.2.1) ∧ W.cell? ⟨b2,o2 + t * 3 + 2,none⟩ = some (.slice x.2.2.1.1 x.2.2.1.2.1 x.2.2.1.2.2)))
   obtain ⟨v0,v1,v2,v3,v4,v5⟩:=HFA.out wr (Below.refl _ _);clear hat1 hat2 kd hbd f0 f1 f2 g0 g1 g2;go_wp2_with fail
   go_region_held3 (fun W => W.cell? ⟨b1,o1 + t * 3,none⟩ = some (.int .u8 y.1) ∧ W.cell? ⟨b1,o1 + t * 3 + 1,none⟩ = some (.int .i64 y.2.1) ∧ W.cell? ⟨b1,o1 + t * 3 + 2,none⟩ = some (.slice y.2.2.1.1 y.2.2.1.2.1 y.2.2.1.2.2) ∧ W.cell? ⟨b2,o2 + t * 3,none⟩ = some (.int .u8 x.1) ∧ W.cell? ⟨b2,o2 + t * 3 + 1,none⟩ = some (.int .i64 x.2.1) ∧ W.cell? ⟨b2,o2 + t * 3 + 2,none⟩ = some (.slice x.2.2.1.1 x.2.2.1.2.1 x.2.2.1.2.2)) (go_keep)
    (first | (go_at_call 215; refine HQ2.out.mono ?_; rintro e w5 ⟨rfl,hb5⟩; obtain ⟨t0,t1,t2,t3,t4,t5⟩:=HFA.out _ hb5; have HB5:=hid (HB.out.trans (hb5.mono HB.out.size)); clear hb5))
   exact kJ
  ·exact jA
theorem Kt (x y : DaM) (w : World) (hs : lJ w x) (h : lJ w y) (hm : kY x y) :
  Calls Tryz.prog 105 #[.agg #[.int .i64 y.1,.slice y.2.1.1 y.2.1.2.1 y.2.1.2.2],.agg #[.int .i64 x.1,.slice x.2.1.1 x.2.1.2.1 x.2.1.2.2]] w fun e w' => e = .returned (.bool true) ∧ Below w.heap.size w w':=by
 obtain ⟨c,⟨xa,xn,xc⟩,xl⟩:=x;obtain ⟨c2,⟨ya,n,yc⟩,l⟩:=y;unfold kY at hm
 try dsimp only at *
 obtain ⟨h1,h3,h4⟩:=hm
 try dsimp only at *
 subst h1 h3 h4;have hb : Below w.heap.size w ((w.alloc (bh c2 ya n yc)).alloc (bh c2 xa n xc)):=((Below.refl _ _).alloc (Nat.le_refl _) _).alloc aq _;have HE:=hid (Oc ya xa n yc xc l _ (h.later hb).1 (hs.later hb).1 tO);have HB:=hid hb;have hcc : (c2 == c2) = true:=aq;clear hs h hb;exact Er
theorem PC (a1 : Option Addr) (n c1 : Nat) (a2 : Option Addr) (c2 : Nat) (ys xs : List DaM) (w : World) (hn : n ≤ 200000) (h : jn w a1 n ys) (hw : ∀ y ∈ ys,lJ w y) (h2 : jn w a2 n xs) (hs : ∀ x ∈ xs,lJ w x) (hm : ∀ (j : Nat) x y,xs[j]? = some x → ys[j]? = some y → kY x y) :
  Calls Tryz.prog 44 #[.slice a1 n c1,.slice a2 n c2] w fun e w' => e = .returned (.bool true) ∧ Below w.heap.size w w':=by
 have hne : ((n : Int) != n) = false:=aq;have H1:=hid h;have hl:=h.1;have H2:=hid h2;have HW:=hid hw;have HS:=hid hs;have HM:=hid hm;have hl2:=h2.1;clear h h2 hw hs hm
 go_enter Tryz.func44,Tryz.ntmps44
 go_wp2_with fail
 go_loopw [5] (fun p wr => ∃ t : Nat,t ≤ n ∧ p = .int .i64 t ∧ Hid (Below w.heap.size w wr)) (fun p _ => n - (intOf p).toNat)
 case atStart => exact ⟨0,ae,rfl,hid (Below.refl _ _)⟩
 case round =>
  obtain ⟨t,ht,rfl,HB⟩:=hrel
  by_cases hlt : t < n
  ·have hlt' : (t : Int) < (n : Int):=ae;obtain ⟨y,hy⟩ : ∃ y,ys[t]? = some y:=⟨_,aN ae⟩;obtain ⟨x,hx⟩ : ∃ x,xs[t]? = some x:=⟨_,aN ae⟩;obtain ⟨b1,o1,rfl,hat1⟩:=H1.out.2.resolve_left ae;obtain ⟨b2,o2,rfl,hat2⟩:=H2.out.2.resolve_left ae;obtain ⟨f0,f1⟩:=hat1 t y hy;obtain ⟨g0,g1⟩:=hat2 t x hx
   have kd : Below wr.heap.size wr wr.drew:=(aJ.drewN (fun _ => False) wr 1).to_below (Nat.le_refl _) (fun _ _ x => x)
   have hbd:=HB.out.trans (kd.mono HB.out.size)
   have HQ2:=hid ((Kt x y wr.drew ((HS.out x (List.mem_of_getElem? hx)).later hbd) ((HW.out y (List.mem_of_getElem? hy)).later hbd) (HM.out t x y hx hy)).mono (fun e w' h => (⟨h.1,kd.trans h.2⟩ : e = .returned (.bool true) ∧ Below wr.heap.size wr w')))
   have HFA:=hid (fun (W : World) (hW : Below wr.heap.size wr W) => (⟨ai (HB.out.trans (hW.mono HB.out.size)) f0,ai (HB.out.trans (hW.mono HB.out.size)) f1,ai (HB.out.trans (hW.mono HB.out.size)) g0,ai (HB.out.trans (hW.mono HB.out.size)) g1⟩ : W.cell? ⟨b1,o1 + t * 2,none⟩ = some (.int .i64 y.1) ∧ W.cell? ⟨b1,o1 + t * 2 + 1,none⟩ = some (.slice y.2.1.1 y.2.1.2.1 y.2.1.2.2) ∧ W.cell? ⟨b2,o2 + t * 2,none⟩ = some (.int .i64 x.1) ∧ W.cell? ⟨b2,o2 + t * 2 + 1,none⟩ = some (.slice x.2.1.1 x.2.1.2.1 x.2.1.2.2)))
   obtain ⟨v0,v1,v2,v3⟩:=HFA.out wr (Below.refl _ _);clear hat1 hat2 kd hbd f0 f1 g0 g1;go_wp2_with fail
   go_region_held3 (fun W => W.cell? ⟨b1,o1 + t * 2,none⟩ = some (.int .i64 y.1) ∧ W.cell? ⟨b1,o1 + t * 2 + 1,none⟩ = some (.slice y.2.1.1 y.2.1.2.1 y.2.1.2.2) ∧ W.cell? ⟨b2,o2 + t * 2,none⟩ = some (.int .i64 x.1) ∧ W.cell? ⟨b2,o2 + t * 2 + 1,none⟩ = some (.slice x.2.1.1 x.2.1.2.1 x.2.1.2.2)) (go_keep)
    (first | (go_at_call 105; refine HQ2.out.mono ?_; rintro e w5 ⟨rfl,hb5⟩; obtain ⟨t0,t1,t2,t3⟩:=HFA.out _ hb5; have HB5:=hid (HB.out.trans (hb5.mono HB.out.size)); clear hb5))
   exact kJ
  ·exact jA
theorem Jd (x y : FuM) (w : World) (hs : lG w x) (h : lG w y) (hm : ki x y) :
  Calls Tryz.prog 104 #[.agg #[.int .i64 y.1,.string y.2.1,.slice y.2.2.1.1 y.2.2.1.2.1 y.2.2.1.2.2],.agg #[.int .i64 x.1,.string x.2.1,.slice x.2.2.1.1 x.2.2.1.2.1 x.2.2.1.2.2]] w fun e w' => e = .returned (.bool true) ∧ Below w.heap.size w w':=by
 obtain ⟨c,a,⟨xa,xn,xc⟩,xl⟩:=x;obtain ⟨c2,a2,⟨ya,n,yc⟩,l⟩:=y;unfold ki at hm
 try dsimp only at *
 obtain ⟨h1,h2,h3,h5,h4⟩:=hm
 try dsimp only at *
 subst h1 h2 h3;have hb : Below w.heap.size w ((w.alloc (aL c2 a2 ya n yc)).alloc (aL c2 a2 xa n xc)):=((Below.refl _ _).alloc (Nat.le_refl _) _).alloc aq _;have HE:=hid (PO ya n yc xa xc l xl _ (hs.later hb).2.1 (h.later hb).1 (h.later hb).2.2 (hs.later hb).1 (hs.later hb).2.2 h4);have HB:=hid hb;have hcc : (c2 == c2) = true:=aq;have haa : (a2.toList == a2.toList) = true:=aq;clear hs h hb h5 h4;exact GI
theorem Pw (a1 : Option Addr) (n c1 : Nat) (a2 : Option Addr) (c2 : Nat) (ys xs : List FuM) (w : World) (hn : n ≤ 200000) (h : iU w a1 n ys) (hw : ∀ y ∈ ys,lG w y) (h2 : iU w a2 n xs) (hs : ∀ x ∈ xs,lG w x) (hm : ∀ (j : Nat) x y,xs[j]? = some x → ys[j]? = some y → ki x y) :
  Calls Tryz.prog 43 #[.slice a1 n c1,.slice a2 n c2] w fun e w' => e = .returned (.bool true) ∧ Below w.heap.size w w':=by
 have hne : ((n : Int) != n) = false:=aq;have H1:=hid h;have hl:=h.1;have H2:=hid h2;have HW:=hid hw;have HS:=hid hs;have HM:=hid hm;have hl2:=h2.1;clear h h2 hw hs hm
 go_enter Tryz.func43,Tryz.ntmps43
 go_wp2_with fail
 go_loopw [5] (fun p wr => ∃ t : Nat,t ≤ n ∧ p = .int .i64 t ∧ Hid (Below w.heap.size w wr)) (fun p _ => n - (intOf p).toNat)
 case atStart => exact ⟨0,ae,rfl,hid (Below.refl _ _)⟩
 case round =>
  obtain ⟨t,ht,rfl,HB⟩:=hrel
  by_cases hlt : t < n
  ·have hlt' : (t : Int) < (n : Int):=ae;obtain ⟨y,hy⟩ : ∃ y,ys[t]? = some y:=⟨_,aN ae⟩;obtain ⟨x,hx⟩ : ∃ x,xs[t]? = some x:=⟨_,aN ae⟩;obtain ⟨b1,o1,rfl,hat1⟩:=H1.out.2.resolve_left ae;obtain ⟨b2,o2,rfl,hat2⟩:=H2.out.2.resolve_left ae;obtain ⟨f0,f1,f2⟩:=hat1 t y hy;obtain ⟨g0,g1,g2⟩:=hat2 t x hx
   have kd : Below wr.heap.size wr wr.drew:=(aJ.drewN (fun _ => False) wr 1).to_below (Nat.le_refl _) (fun _ _ x => x)
   have hbd:=HB.out.trans (kd.mono HB.out.size)
   have HQ2:=hid ((Jd x y wr.drew ((HS.out x (List.mem_of_getElem? hx)).later hbd) ((HW.out y (List.mem_of_getElem? hy)).later hbd) (HM.out t x y hx hy)).mono (fun e w' h => (⟨h.1,kd.trans h.2⟩ : e = .returned (.bool true) ∧ Below wr.heap.size wr w')))
   have HFA:=hid (fun (W : World) (hW : Below wr.heap.size wr W) => (⟨ai (HB.out.trans (hW.mono HB.out.size)) f0,ai (HB.out.trans (hW.mono HB.out.size)) f1,ai (HB.out.trans (hW.mono HB.out.size)) f2,ai (HB.out.trans (hW.mono HB.out.size)) g0,ai (HB.out.trans (hW.mono HB.out.size)) g1,ai (HB.out.trans (hW.mono HB.out.size)) g2⟩ : W.cell? ⟨b1,o1 + t * 3,none⟩ = some (.int .i64 y.1) ∧ W.cell? ⟨b1,o1 + t * 3 + 1,none⟩ = some (.string y.2.1) ∧ W.cell? ⟨b1,o1 + t * 3 + 2,none⟩ = some (.slice y.2.2.1.1 y.2.2.1.2.1 y.2.2.1.2.2) ∧ W.cell? ⟨b2,o2 + t * 3,none⟩ = some (.int .i64 x.1) ∧ W.cell? ⟨b2,o2 + t * 3 + 1,none⟩ = some (.string x.2.1) ∧ W.cell? ⟨b2,o2 + t * 3 + 2,none⟩ = some (.slice x.2.2.1.1 x.2.2.1.2.1 x.2.2.1.2.2)))
   obtain ⟨v0,v1,v2,v3,v4,v5⟩:=HFA.out wr (Below.refl _ _);clear hat1 hat2 kd hbd f0 f1 f2 g0 g1 g2;go_wp2_with fail
   go_region_held3 (fun W => W.cell? ⟨b1,o1 + t * 3,none⟩ = some (.int .i64 y.1) ∧ W.cell? ⟨b1,o1 + t * 3 + 1,none⟩ = some (.string y.2.1) ∧ W.cell? ⟨b1,o1 + t * 3 + 2,none⟩ = some (.slice y.2.2.1.1 y.2.2.1.2.1 y.2.2.1.2.2) ∧ W.cell? ⟨b2,o2 + t * 3,none⟩ = some (.int .i64 x.1) ∧ W.cell? ⟨b2,o2 + t * 3 + 1,none⟩ = some (.string x.2.1) ∧ W.cell? ⟨b2,o2 + t * 3 + 2,none⟩ = some (.slice x.2.2.1.1 x.2.2.1.2.1 x.2.2.1.2.2)) (go_keep)
    (first | (go_at_call 104; refine HQ2.out.mono ?_; rintro e w5 ⟨rfl,hb5⟩; obtain ⟨t0,t1,t2,t3,t4,t5⟩:=HFA.out _ hb5; have HB5:=hid (HB.out.trans (hb5.mono HB.out.size)); clear hb5))
   exact kJ
  ·exact jA
structure SmM (x y : MM) : Prop where
 tn : y.tn = x.tn
 t : y.types = x.types
 hn : y.hn = x.hn
 h : y.hosts = x.hosts
 gn : y.gn = x.gn
 g : y.globals = x.globals
 i : y.fi = x.fi
 o : y.mo = x.mo
 fn : y.fn = x.fn
 f : ∀ (j : Nat) a b,x.fns[j]? = some a → y.fns[j]? = some b → ki a b
 dn : y.dn = x.dn
 d : ∀ (j : Nat) a b,x.data[j]? = some a → y.data[j]? = some b → kY a b
 en : y.en = x.en
 e : y.exps = x.exps
structure O8 (x y : MM) (w : World) : Prop where
 pt : fk w y.ta x.tn x.types
 ph : i6 w y.ha x.hn x.hosts
 pg : kg w y.ga x.gn x.globals
 pf : iU w y.fa x.fn y.fns
 fx : ∀ z ∈ y.fns,lG w z
 pd : jn w y.da x.dn y.data
 dx : ∀ z ∈ y.data,lJ w z
 pe : jD w y.ea x.en x.exps
theorem SmM.at {x y : MM} (h : SmM x y) {w : World} (hy : MSr w y) : O8 x y w:=by
 refine ⟨?_,?_,?_,?_,hy.fx,?_,hy.dx,?_⟩
 ·have:=hy.pt; rw [h.tn,h.t] at this; exact this
 ·have:=hy.ph; rw [h.hn,h.h] at this; exact this
 ·have:=hy.pg; rw [h.gn,h.g] at this; exact this
 ·have:=hy.pf; rw [h.fn] at this; exact this
 ·have:=hy.pd; rw [h.dn] at this; exact this
 ·have:=hy.pe; rw [h.en,h.e] at this; exact this
theorem O1 {m y : MM} {w : World} (hm : MSr w m) (hy : MSr w y) (hs : SmM m y) :
  Calls Tryz.prog 13 #[.agg (mV y),.agg (mV m)] w fun e w' => e = .returned (.bool true) ∧ Below w.heap.size w w':=by
 have ev : mV y = #[.slice y.ta m.tn y.tc,.slice y.ha m.hn y.hc,.slice y.ga m.gn y.gc,.int .i64 m.fi,.int .i64 m.mo,.slice y.fa m.fn y.fc,.slice y.da m.dn y.dc,.slice y.ea m.en y.ec]:=by
  unfold mV;rw [hs.tn,hs.hn,hs.gn,hs.i,hs.o,hs.fn,hs.dn,hs.en]
 rw [ev];clear ev
 have HH:=hid (fun (W : World) (hb : Below w.heap.size w W) => hs.at (hy.later hb))
 have HSF:=hid hs.f;have HSD:=hid hs.d
 have HM:=hid (fun (W : World) (hb : Below w.heap.size w W) => hm.later hb)
 have B1:=ak w (bg y.ta m.tn y.tc y.ha m.hn y.hc y.ga m.gn y.gc m.fi m.mo y.fa m.fn y.fc y.da m.dn y.dc y.ea m.en y.ec);have B2:=ak (w.alloc (bg y.ta m.tn y.tc y.ha m.hn y.hc y.ga m.gn y.gc m.fi m.mo y.fa m.fn y.fc y.da m.dn y.dc y.ea m.en y.ec)) (bg m.ta m.tn m.tc m.ha m.hn m.hc m.ga m.gn m.gc m.fi m.mo m.fa m.fn m.fc m.da m.dn m.dc m.ea m.en m.ec);have b1:=ar B2 (heap_alloc_new w (bg y.ta m.tn y.tc y.ha m.hn y.hc y.ga m.gn y.gc m.fi m.mo y.fa m.fn y.fc y.da m.dn y.dc y.ea m.en y.ec));have b2 : ((w.alloc (bg y.ta m.tn y.tc y.ha m.hn y.hc y.ga m.gn y.gc m.fi m.mo y.fa m.fn y.fc y.da m.dn y.dc y.ea m.en y.ec)).alloc (bg m.ta m.tn m.tc m.ha m.hn m.hc m.ga m.gn m.gc m.fi m.mo m.fa m.fn m.fc m.da m.dn m.dc m.ea m.en m.ec)).heap[w.heap.size + 1]? = some (bg m.ta m.tn m.tc m.ha m.hn m.hc m.ga m.gn m.gc m.fi m.mo m.fa m.fn m.fc m.da m.dn m.dc m.ea m.en m.ec):=jm aq;have B0 : Below w.heap.size w ((w.alloc (bg y.ta m.tn y.tc y.ha m.hn y.hc y.ga m.gn y.gc m.fi m.mo y.fa m.fn y.fc y.da m.dn y.dc y.ea m.en y.ec)).alloc (bg m.ta m.tn m.tc m.ha m.hn m.hc m.ga m.gn m.gc m.fi m.mo m.fa m.fn m.fc m.da m.dn m.dc m.ea m.en m.ec)):=B1.trans (B2.mono aq)
 have HX:=hid (fun (W : World) (hb : Below ((w.alloc (bg y.ta m.tn y.tc y.ha m.hn y.hc y.ga m.gn y.gc m.fi m.mo y.fa m.fn y.fc y.da m.dn y.dc y.ea m.en y.ec)).alloc (bg m.ta m.tn m.tc m.ha m.hn m.hc m.ga m.gn m.gc m.fi m.mo m.fa m.fn m.fc m.da m.dn m.dc m.ea m.en m.ec)).heap.size ((w.alloc (bg y.ta m.tn y.tc y.ha m.hn y.hc y.ga m.gn y.gc m.fi m.mo y.fa m.fn y.fc y.da m.dn y.dc y.ea m.en y.ec)).alloc (bg m.ta m.tn m.tc m.ha m.hn m.hc m.ga m.gn m.gc m.fi m.mo m.fa m.fn m.fc m.da m.dn m.dc m.ea m.en m.ec)) W) => (⟨ai hb (ag b1),ai hb (ag b1),ai hb (ag b1),ai hb (ag b1),ai hb (ag b1),ai hb (ag b1),ai hb (ag b1),ai hb (ag b1),ai hb (ag b2),ai hb (ag b2),ai hb (ag b2),ai hb (ag b2),ai hb (ag b2),ai hb (ag b2),ai hb (ag b2),ai hb (ag b2)⟩ : W.cell? ⟨w.heap.size,0,none⟩ = some (.slice y.ta m.tn y.tc) ∧ W.cell? ⟨w.heap.size,1,none⟩ = some (.slice y.ha m.hn y.hc) ∧ W.cell? ⟨w.heap.size,2,none⟩ = some (.slice y.ga m.gn y.gc) ∧ W.cell? ⟨w.heap.size,3,none⟩ = some (.int .i64 m.fi) ∧ W.cell? ⟨w.heap.size,4,none⟩ = some (.int .i64 m.mo) ∧ W.cell? ⟨w.heap.size,5,none⟩ = some (.slice y.fa m.fn y.fc) ∧ W.cell? ⟨w.heap.size,6,none⟩ = some (.slice y.da m.dn y.dc) ∧ W.cell? ⟨w.heap.size,7,none⟩ = some (.slice y.ea m.en y.ec) ∧ W.cell? ⟨w.heap.size + 1,0,none⟩ = some (.slice m.ta m.tn m.tc) ∧ W.cell? ⟨w.heap.size + 1,1,none⟩ = some (.slice m.ha m.hn m.hc) ∧ W.cell? ⟨w.heap.size + 1,2,none⟩ = some (.slice m.ga m.gn m.gc) ∧ W.cell? ⟨w.heap.size + 1,3,none⟩ = some (.int .i64 m.fi) ∧ W.cell? ⟨w.heap.size + 1,4,none⟩ = some (.int .i64 m.mo) ∧ W.cell? ⟨w.heap.size + 1,5,none⟩ = some (.slice m.fa m.fn m.fc) ∧ W.cell? ⟨w.heap.size + 1,6,none⟩ = some (.slice m.da m.dn m.dc) ∧ W.cell? ⟨w.heap.size + 1,7,none⟩ = some (.slice m.ea m.en m.ec)))
 obtain ⟨m0,m1,m2,m3,m4,m5,m6,m7,k0,k1,k2,k3,k4,k5,k6,k7⟩:=HX.out _ (Below.refl _ _);have HB0:=hid B0;have HBX:=hid (Below.refl ((w.alloc (bg y.ta m.tn y.tc y.ha m.hn y.hc y.ga m.gn y.gc m.fi m.mo y.fa m.fn y.fc y.da m.dn y.dc y.ea m.en y.ec)).alloc (bg m.ta m.tn m.tc m.ha m.hn m.hc m.ga m.gn m.gc m.fi m.mo m.fa m.fn m.fc m.da m.dn m.dc m.ea m.en m.ec)).heap.size ((w.alloc (bg y.ta m.tn y.tc y.ha m.hn y.hc y.ga m.gn y.gc m.fi m.mo y.fa m.fn y.fc y.da m.dn y.dc y.ea m.en y.ec)).alloc (bg m.ta m.tn m.tc m.ha m.hn m.hc m.ga m.gn m.gc m.fi m.mo m.fa m.fn m.fc m.da m.dn m.dc m.ea m.en m.ec)));have f1 : (m.fi == m.fi) = true:=aq;have f2 : (m.mo == m.mo) = true:=aq;clear hy hs hm B0 B1 B2 b1 b2
 show Calls Tryz.prog 13 #[.agg #[.slice y.ta m.tn y.tc,.slice y.ha m.hn y.hc,.slice y.ga m.gn y.gc,.int .i64 m.fi,.int .i64 m.mo,.slice y.fa m.fn y.fc,.slice y.da m.dn y.dc,.slice y.ea m.en y.ec],.agg #[.slice m.ta m.tn m.tc,.slice m.ha m.hn m.hc,.slice m.ga m.gn m.gc,.int .i64 m.fi,.int .i64 m.mo,.slice m.fa m.fn m.fc,.slice m.da m.dn m.dc,.slice m.ea m.en m.ec]] w _
 go_enter Tryz.func13,Tryz.ntmps13
 go_wp2_with fail;refine (Oh y.ta m.ta m.tn y.tc m.tc m.types _ (HH.out _ HB0.out).pt (HM.out _ HB0.out).pt xS).mono ?_;rintro e w1 ⟨rfl,hb⟩;have HB1:=hid (HB0.out.trans (hb.mono HB0.out.size));have HBX:=hid (HBX.out.trans (hb.mono HBX.out.size));obtain ⟨m0,m1,m2,m3,m4,m5,m6,m7,k0,k1,k2,k3,k4,k5,k6,k7⟩:=HX.out _ HBX.out;clear hb;go_wp2_with fail;refine (IV y.ha m.ha m.hn y.hc m.hc m.hosts _ (HH.out _ HB1.out).ph (HM.out _ HB1.out).ph xe).mono ?_;rintro e w2 ⟨rfl,hb⟩;have HB2:=hid (HB1.out.trans (hb.mono HB1.out.size));have HBX:=hid (HBX.out.trans (hb.mono HBX.out.size));obtain ⟨m0,m1,m2,m3,m4,m5,m6,m7,k0,k1,k2,k3,k4,k5,k6,k7⟩:=HX.out _ HBX.out;clear hb;go_wp2_with fail;refine (OJ y.ga m.ga m.gn y.gc m.gc m.globals _ (HH.out _ HB2.out).pg (HM.out _ HB2.out).pg xh).mono ?_;rintro e w3 ⟨rfl,hb⟩;have HB3:=hid (HB2.out.trans (hb.mono HB2.out.size));have HBX:=hid (HBX.out.trans (hb.mono HBX.out.size));obtain ⟨m0,m1,m2,m3,m4,m5,m6,m7,k0,k1,k2,k3,k4,k5,k6,k7⟩:=HX.out _ HBX.out;clear hb;go_wp2_with fail;refine (Pw y.fa m.fn y.fc m.fa m.fc y.fns m.fns _ (HM.out _ HB3.out).fn (HH.out _ HB3.out).pf (HH.out _ HB3.out).fx (HM.out _ HB3.out).pf (HM.out _ HB3.out).fx HSF.out).mono ?_;rintro e w4 ⟨rfl,hb⟩;have HB4:=hid (HB3.out.trans (hb.mono HB3.out.size));have HBX:=hid (HBX.out.trans (hb.mono HBX.out.size));obtain ⟨m0,m1,m2,m3,m4,m5,m6,m7,k0,k1,k2,k3,k4,k5,k6,k7⟩:=HX.out _ HBX.out;clear hb;go_wp2_with fail;refine (PC y.da m.dn y.dc m.da m.dc y.data m.data _ (HM.out _ HB4.out).dn (HH.out _ HB4.out).pd (HH.out _ HB4.out).dx (HM.out _ HB4.out).pd (HM.out _ HB4.out).dx HSD.out).mono ?_;rintro e w5 ⟨rfl,hb⟩;have HB5:=hid (HB4.out.trans (hb.mono HB4.out.size));have HBX:=hid (HBX.out.trans (hb.mono HBX.out.size));obtain ⟨m0,m1,m2,m3,m4,m5,m6,m7,k0,k1,k2,k3,k4,k5,k6,k7⟩:=HX.out _ HBX.out;clear hb;go_wp2_with fail;refine (Oa y.ea m.ea m.en y.ec m.ec m.exps _ (HH.out _ HB5.out).pe (HM.out _ HB5.out).pe zt).mono ?_;exact Gc
def wkM (b : Nat) : MM :=
 { ta:=some ⟨b,0,none⟩,tn:=1,tc:=1,types:=[(⟨#[119]⟩,⟨#[]⟩)],ha:=none,hn:=0,hc:=0,hosts:=[],ga:=none,gn:=0,gc:=0,globals:=[],fi:=1,mo:=2,fa:=some ⟨b + 1 + 1 + 1,0,none⟩,fn:=1,fc:=1,fns:=[(0,⟨#[108]⟩,(some ⟨b + 1 + 1,0,none⟩,2,2),[(9,0,(some ⟨b + 1,0,none⟩,2,2),[0,1]),(6,0,(none,0,0),[])])],da:=none,dn:=0,dc:=0,data:=[],ea:=none,en:=0,ec:=0,exps:=[] }
def wkP : PM:=⟨[(⟨#[119]⟩,⟨#[]⟩)],[],[],1,2,[(0,⟨#[108]⟩,[(9,0,[0,1]),(6,0,[])])],[],[]⟩
def wkT : ByteArray:=⟨#[102,108,97,103,111,110,10,116,121,112,101,32,119,32,45,62,32,45,10,109,101,109,111,114,121,32,49,32,50,10,102,117,110,99,32,48,32,108,10,32,32,98,114,116,97,98,108,101,32,48,32,49,10,32,32,101,110,100,10]⟩
def wkE : ByteArray:=⟨#[102,108,97,103,111,110,10,101,120,116,101,114,110]⟩
theorem KY (b : Nat) : pl (wkM b) = wkP:=rfl
theorem xw (b : Nat) : cL (wkM b) = 0:=aj
theorem MD (b : Nat) : (⟨(gp (wkM b)).toArray⟩ : ByteArray) = wkT:=aj
theorem MU (b : Nat) : mQ (wkM b) = wkT:=by
 unfold mQ;rw [if_pos (xw b)];exact MD b
theorem F8 : lC 0 0 pm0 (bt wkT) = (7,some (6,wkP)):=aj
theorem Dh : lC 0 0 pm0 (bt wkE) = (2,none):=aj
theorem N0 : ∀ x ∈ bt wkT,NL x:=EP aj
theorem NH : ∀ x ∈ bt wkE,NL x:=EP aj
theorem Lr (b : Nat) : LnM (wkM b):=⟨rfl,rfl,rfl,rfl,rfl,rfl⟩
structure jX (b : Nat) (W : World) : Prop where
 t : W.heap[b]? = some (aS ⟨#[119]⟩ ⟨#[]⟩)
 l : W.heap[b + 1]? = some (.cells #[.int .i64 0,.int .i64 1] 3)
 c : W.heap[b + 1 + 1]? = some (.cells #[.int .u8 9,.int .i64 0,.slice (some ⟨b + 1,0,none⟩) 2 2,.int .u8 6,.int .i64 0,.slice none 0 0] 75)
 f : W.heap[b + 1 + 1 + 1]? = some (aL 0 ⟨#[108]⟩ (some ⟨b + 1 + 1,0,none⟩) 2 2)
theorem jX.later {b : Nat} {W W' : World} (h : jX b W) (hb : Below W.heap.size W W') : jX b W':=⟨ar hb h.t,ar hb h.l,ar hb h.c,ar hb h.f⟩
theorem jX.sig {b : Nat} {W : World} (h : jX b W) : fk W (some ⟨b,0,none⟩) 1 [(⟨#[119]⟩,⟨#[]⟩)]:=by
 refine ⟨rfl,.inr ⟨b,0,rfl,fun j x hj => ?_⟩⟩
 match j,hj with
 | 0,hj =>
  obtain rfl:=Option.some.inj hj;exact ⟨ag h.t,ag h.t⟩
theorem jX.fu {b : Nat} {W : World} (h : jX b W) : iU W (some ⟨b + 1 + 1 + 1,0,none⟩) 1 (wkM b).fns:=by
 refine ⟨rfl,.inr ⟨b + 1 + 1 + 1,0,rfl,fun j x hj => ?_⟩⟩
 match j,hj with
 | 0,hj =>
  obtain rfl:=Option.some.inj hj;exact ⟨ag h.f,ag h.f,ag h.f⟩
theorem jX.ins {b : Nat} {W : World} (h : jX b W) : fO W (some ⟨b + 1 + 1,0,none⟩) 2 [(9,0,(some ⟨b + 1,0,none⟩,2,2),[0,1]),(6,0,(none,0,0),[])]:=by
 refine ⟨rfl,.inr ⟨b + 1 + 1,0,rfl,fun j x hj => ?_⟩⟩
 match j,hj with
 | 0,hj =>
  obtain rfl:=Option.some.inj hj;exact ⟨ag h.c,ag h.c,ag h.c⟩
 | 1,hj =>
  obtain rfl:=Option.some.inj hj;exact ⟨ag (i:=3) h.c,ag (i:=4) h.c,ag (i:=5) h.c⟩
theorem jX.lab {b : Nat} {W : World} (h : jX b W) : i6 W (some ⟨b + 1,0,none⟩) 2 [0,1]:=by
 refine ⟨rfl,.inr ⟨b + 1,0,rfl,fun j x hj => ?_⟩⟩
 match j,hj with
 | 0,hj =>
  obtain rfl:=Option.some.inj hj;exact ag h.l
 | 1,hj =>
  obtain rfl:=Option.some.inj hj;exact ag (i:=1) h.l
theorem Gu (W : World) : i6 W none 0 []:=⟨rfl,.inl rfl⟩
theorem jX.sr {b : Nat} {W : World} (h : jX b W) : MSr W (wkM b):=by
 refine ⟨h.sig,dH,⟨rfl,.inl rfl⟩,dH,⟨rfl,.inl rfl⟩,dH,h.fu,dH,?_,⟨rfl,.inl rfl⟩,dH,?_,⟨rfl,.inl rfl⟩,dH⟩
 ·intro x hx
  obtain rfl : x = (0,⟨#[108]⟩,(some ⟨b + 1 + 1,0,none⟩,2,2),[(9,0,(some ⟨b + 1,0,none⟩,2,2),[0,1]),(6,0,(none,0,0),[])]):=by simpa [wkM] using hx
  refine ⟨h.ins,dH,fun y hy => ?_⟩
  simp only [List.mem_cons,List.not_mem_nil,or_false] at hy
  rcases hy with rfl | rfl
  ·exact ⟨h.lab,dH⟩
  ·exact ⟨Gu W,dH⟩
 ·intro x hx
  simp [wkM] at hx
theorem jX.ok {b : Nat} {W : World} (h : jX b W) : ∀ R g,W.heap.size ≤ R → W.heap.size ≤ g → MOk W R g (wkM b):=by
 intro R g hR hg
 have far : ∀ (a : Option Addr),(∀ b off cc,a = some ⟨b,off,cc⟩ → b < W.heap.size) → Far W R g a:=fun a h b off cc hb => by have:=h b off cc hb; omega
 have fn : Far W R g none:=far none (fun b off cc h => cw)
 refine ⟨h.sig,far _ (fun b off cc hh => by cases hh; exact aV h.t),⟨rfl,.inl rfl⟩,fn,fun j x hj => sW,⟨rfl,.inl rfl⟩,fn,fun j x hj => sW,dH,dH,dH,dH,h.fu,far _ (fun b off cc hh => by cases hh; exact aV h.f),?_,⟨rfl,.inl rfl⟩,fn,fun j x hj => sW,⟨rfl,.inl rfl⟩,fn,fun j x hj => sW⟩
 intro j x hj
 match j,hj with
 | 0,hj =>
  obtain rfl:=Option.some.inj hj
  refine ⟨dH,h.ins,(far _ (fun b off cc hh => by cases hh; exact aV h.c)).nz _,fun i y hi => ?_⟩
  match i,hi with
  | 0,hi =>
   obtain rfl:=Option.some.inj hi
   refine ⟨dH,dH,⟨rfl,dH,dH,fun z hz => ?_,.inr ⟨b + 1,0,rfl,fun j hj => ?_⟩⟩,(far _ (fun b off cc hh => by cases hh; exact aV h.l)).nz _⟩
   ·simp only [List.mem_cons,List.not_mem_nil,or_false] at hz
    rcases hz with rfl | rfl <;> decide
   ·match j,hj with
    | 0,_ => exact ag h.l
    | 1,_ => exact ag (i:=1) h.l
  | 1,hi =>
   obtain rfl:=Option.some.inj hi
   exact ⟨dH,dH,⟨rfl,Nat.zero_le _,Nat.zero_le _,fun z hz => by simp at hz,.inl rfl⟩,fn.nz _⟩
theorem IU (b : Nat) : DU (wkM b):=by
 intro j x hj i y hi
 match j,hj with
 | 0,hj =>
  obtain rfl:=Option.some.inj hj
  match i,hi with
  | 0,hi =>
   obtain rfl:=Option.some.inj hi
   (try dsimp only); omega
  | 1,hi =>
   obtain rfl:=Option.some.inj hi
   (try dsimp only); omega
theorem pY {α β : Type} {f : α → β} {xs ys : List α} (h : xs.map f = ys.map f) {j : Nat} {a b : α} (ha : xs[j]? = some a) (hb : ys[j]? = some b) : f a = f b:=by
 have:=congrArg (fun l => l[j]?) h
 simp only [List.getElem?_map,ha,hb,Option.map_some,Option.some.injEq] at this
 exact this
theorem L9 {w w' : World} {a b : InM} (h : plI a = plI b) (ha : mG w a) (hb : mG w' b) : mY a b:=by
 obtain ⟨a1,a2,⟨aa,an,ac⟩,al⟩:=a;obtain ⟨b1,b2,⟨ba,bn,bc⟩,bl⟩:=b;unfold plI at h;obtain ⟨rfl,h⟩:=Prod.mk.inj h;obtain ⟨rfl,rfl⟩:=Prod.mk.inj h;have h1 : al.length = an:=ha.1.1;have h2 : al.length = bn:=hb.1.1
 exact ⟨rfl,rfl,by dsimp only; omega,rfl⟩
theorem MQ {w w' : World} {a b : DaM} (h : plD a = plD b) (ha : lJ w a) (hb : lJ w' b) : kY a b:=by
 obtain ⟨a1,⟨aa,an,ac⟩,al⟩:=a;obtain ⟨b1,⟨ba,bn,bc⟩,bl⟩:=b;unfold plD at h;obtain ⟨rfl,rfl⟩:=Prod.mk.inj h;have h1 : al.length = an:=ha.1.1;have h2 : al.length = bn:=hb.1.1
 exact ⟨rfl,by dsimp only; omega,rfl⟩
theorem Nn {w w' : World} {a b : FuM} (h : plF a = plF b) (ha : lG w a) (hb : lG w' b) : ki a b:=by
 obtain ⟨a1,a2,⟨aa,an,ac⟩,al⟩:=a;obtain ⟨b1,b2,⟨ba,bn,bc⟩,bl⟩:=b;unfold plF at h;obtain ⟨h1,h⟩:=Prod.mk.inj h;obtain ⟨h2,h⟩:=Prod.mk.inj h;dsimp only at h1 h2 h;have l1 : al.length = an:=ha.1.1;have l2 : bl.length = bn:=hb.1.1
 have l3 : al.length = bl.length:=by have:=congrArg List.length h; simpa using this
 refine ⟨h1.symm,h2.symm,?_,l3.symm,fun j x y hx hy => ?_⟩
 ·dsimp only; omega
 ·exact L9 (pY h hx hy) (ha.2.2 x (List.mem_of_getElem? hx)) (hb.2.2 y (List.mem_of_getElem? hy))
theorem NJ {w w' : World} {x y : MM} (h : pl x = pl y) (hx : MSr w x) (hy : MSr w' y) : SmM x y:=by
 unfold pl at h;obtain ⟨h1,h2,h3,h4,h5,h6,h7,h8⟩:=PM.mk.inj h;have lx:=hx.len;have ly:=hy.len;have l6 : x.fns.length = y.fns.length:=Ab
 have l7 : x.data.length = y.data.length:=by have:=congrArg List.length h7; simpa using this
 refine ⟨?_,h1.symm,?_,h2.symm,?_,h3.symm,h4.symm,h5.symm,?_,fun j a b ha hb => ?_,?_,fun j a b ha hb => ?_,?_,h8.symm⟩
 ·rw [ly.t,lx.t,h1]
 ·rw [ly.h,lx.h,h2]
 ·rw [ly.g,lx.g,h3]
 ·rw [ly.f,lx.f,l6]
 ·exact Nn (pY h6 ha hb) (hx.fx a (List.mem_of_getElem? ha)) (hy.fx b (List.mem_of_getElem? hb))
 ·rw [ly.d,lx.d,l7]
 ·exact MQ (pY h7 ha hb) (hx.dx a (List.mem_of_getElem? ha)) (hy.dx b (List.mem_of_getElem? hb))
 ·rw [ly.e,lx.e,h8]
theorem Ov {w : World} {a : Option Addr} {n c : Nat} {l : List Int} (h : fe w a n c l) : i6 w a n l:=by
 refine ⟨h.1,?_⟩
 rcases h.2.2.2.2 with h0 | ⟨b,off,e,hc⟩
 ·exact .inl h0
 ·refine .inr ⟨b,off,e,fun j x hj => ?_⟩
  have hl:=aA hj;rw [h.1] at hl
  have:=hc j hl
  rw [List.getD_eq_getElem?_getD,hj] at this;exact this
theorem MOk.sr {w : World} {R g : Nat} {m : MM} (h : MOk w R g m) (hp : Pas m) : MSr w m:=by
 have l:=h.len;have n1:=hp.nt;have n2:=hp.nh;have n3:=hp.ng;have n4:=hp.nf;have n5:=hp.nd;have n6:=hp.ne
 refine ⟨h.pt,by rw [l.t]; omega,h.ph,by rw [l.h]; omega,h.pg,by rw [l.g]; omega,h.pf,by rw [l.f]; omega,fun x hx => ?_,h.pd,by rw [l.d]; omega,fun x hx => ?_,h.pe,by rw [l.e]; omega⟩
 ·obtain ⟨j,hj⟩:=gA hx;have hf:=h.fr j x hj;have hq:=hp.fn j x hj
  refine ⟨hf.2.1,?_,fun y hy => ?_⟩
  ·rw [← hf.2.1.1]; omega
  ·obtain ⟨i,hi⟩:=gA hy;have hi1:=(hf.2.2.2 i y hi).2.2.1;have hc:=uK (hq.2.2.2.2.2 i y hi)
   exact ⟨Ov hi1,by rw [← hi1.1]; omega⟩
 ·obtain ⟨j,hj⟩:=gA hx;have hd:=h.dr j x hj;have hq:=hp.da j x hj
  exact ⟨qK.of hd.2.1,by rw [← hd.2.1.1]; omega⟩
def wkW (w : World) : World:=((((w.alloc (Obj.cells #[Value.string ⟨#[119]⟩,Value.string ⟨#[]⟩] 73)).alloc (Obj.cells #[Value.int IntKind.i64 0,Value.int IntKind.i64 1] 3)).alloc (Obj.cells #[Value.int IntKind.u8 9,Value.int IntKind.i64 0,Value.slice (some ⟨w.heap.size + 1,0,none⟩) 2 2,Value.int IntKind.u8 6,Value.int IntKind.i64 0,Value.slice none 0 0] 75)).alloc (Obj.cells #[Value.int IntKind.i64 0,Value.string ⟨#[108]⟩,Value.slice (some ⟨w.heap.size + 1 + 1,0,none⟩) 2 2] 78)).alloc (Obj.cells (mV (wkM w.heap.size)) 29)
theorem MV (w : World) : jX w.heap.size (wkW w) ∧ (wkW w).heap[w.heap.size + 1 + 1 + 1 + 1]? = some (.cells (mV (wkM w.heap.size)) 29) ∧ Below w.heap.size w (wkW w) ∧ w.heap.size + 1 + 1 + 1 + 1 < (wkW w).heap.size:=by
 obtain ⟨y0,h0⟩ : ∃ y,w.alloc (Obj.cells #[Value.string ⟨#[119]⟩,Value.string ⟨#[]⟩] 73) = y:=⟨_,rfl⟩;obtain ⟨y1,h1⟩ : ∃ y,y0.alloc (Obj.cells #[Value.int IntKind.i64 0,Value.int IntKind.i64 1] 3) = y:=⟨_,rfl⟩;obtain ⟨y2,h2⟩ : ∃ y,y1.alloc (Obj.cells #[Value.int IntKind.u8 9,Value.int IntKind.i64 0,Value.slice (some ⟨w.heap.size + 1,0,none⟩) 2 2,Value.int IntKind.u8 6,Value.int IntKind.i64 0,Value.slice none 0 0] 75) = y:=⟨_,rfl⟩;obtain ⟨y3,h3⟩ : ∃ y,y2.alloc (Obj.cells #[Value.int IntKind.i64 0,Value.string ⟨#[108]⟩,Value.slice (some ⟨w.heap.size + 1 + 1,0,none⟩) 2 2] 78) = y:=⟨_,rfl⟩;obtain ⟨y4,h4⟩ : ∃ y,y3.alloc (Obj.cells (mV (wkM w.heap.size)) 29) = y:=⟨_,rfl⟩
 have e : wkW w = y4:=by unfold wkW; rw [h0,h1,h2,h3,h4]
 have z0 : y0.heap.size = w.heap.size + 1:=by rw [← h0]; simp
 have z1 : y1.heap.size = w.heap.size + 1 + 1:=by rw [← h1]; simp [z0]
 have z2 : y2.heap.size = w.heap.size + 1 + 1 + 1:=by rw [← h2]; simp [z1]
 have z3 : y3.heap.size = w.heap.size + 1 + 1 + 1 + 1:=by rw [← h3]; simp [z2]
 have z4 : y4.heap.size = w.heap.size + 1 + 1 + 1 + 1 + 1:=by rw [← h4]; simp [z3]
 have b0:=h0 ▸ ak w (Obj.cells #[Value.string ⟨#[119]⟩,Value.string ⟨#[]⟩] 73);have b1:=h1 ▸ ak y0 (Obj.cells #[Value.int IntKind.i64 0,Value.int IntKind.i64 1] 3);have b2:=h2 ▸ ak y1 (Obj.cells #[Value.int IntKind.u8 9,Value.int IntKind.i64 0,Value.slice (some ⟨w.heap.size + 1,0,none⟩) 2 2,Value.int IntKind.u8 6,Value.int IntKind.i64 0,Value.slice none 0 0] 75);have b3:=h3 ▸ ak y2 (Obj.cells #[Value.int IntKind.i64 0,Value.string ⟨#[108]⟩,Value.slice (some ⟨w.heap.size + 1 + 1,0,none⟩) 2 2] 78);have b4:=h4 ▸ ak y3 (Obj.cells (mV (wkM w.heap.size)) 29)
 have c0 : y0.heap[w.heap.size]? = some (Obj.cells #[Value.string ⟨#[119]⟩,Value.string ⟨#[]⟩] 73):=by rw [← h0]; exact heap_alloc_new _ _
 have c1 : y1.heap[w.heap.size + 1]? = some (Obj.cells #[Value.int IntKind.i64 0,Value.int IntKind.i64 1] 3):=by rw [← h1,← z0]; exact heap_alloc_new _ _
 have c2 : y2.heap[w.heap.size + 1 + 1]? = some (Obj.cells #[Value.int IntKind.u8 9,Value.int IntKind.i64 0,Value.slice (some ⟨w.heap.size + 1,0,none⟩) 2 2,Value.int IntKind.u8 6,Value.int IntKind.i64 0,Value.slice none 0 0] 75):=by rw [← h2,← z1]; exact heap_alloc_new _ _
 have c3 : y3.heap[w.heap.size + 1 + 1 + 1]? = some (Obj.cells #[Value.int IntKind.i64 0,Value.string ⟨#[108]⟩,Value.slice (some ⟨w.heap.size + 1 + 1,0,none⟩) 2 2] 78):=by rw [← h3,← z2]; exact heap_alloc_new _ _
 have c4 : y4.heap[w.heap.size + 1 + 1 + 1 + 1]? = some (Obj.cells (mV (wkM w.heap.size)) 29):=by rw [← h4,← z3]; exact heap_alloc_new _ _
 rw [e];refine ⟨⟨?_,?_,?_,?_⟩,c4,?_,ae⟩
 ·exact ar b4 (ar b3 (ar b2 (ar b1 c0)))
 ·exact ar b4 (ar b3 (ar b2 c1))
 ·exact ar b4 (ar b3 c2)
 ·exact ar b4 c3
 ·exact (((b0.trans (b1.mono b0.size)).trans (b2.mono ae)).trans (b3.mono ae)).trans (b4.mono ae)
theorem rx.up {B B' : Nat} {w : World} (h : rx B w) (hb : B ≤ B') : rx B' w :=
 ⟨h.syn.imp fun _ ⟨p,h⟩ => ⟨p,fun W hW => h W (hW.mono hb)⟩,h.ran.imp fun _ ⟨p,h⟩ => ⟨p,fun W hW => h W (hW.mono hb)⟩⟩
theorem MN {w w' : World} {e : Ending} (h : DX wkT w e w') : ∃ m,pl m = wkP ∧ MSr w' m ∧ e = rt3 (mV m) 0 0 ∧ Below w.heap.size w w':=by
 obtain ⟨hb,-,h2⟩:=h;have h3:=((h2 av _ _ F8).2 _ _ rfl).2 av;obtain ⟨m,hpl,hlen,hpr,-,h5⟩:=h3;have hc : cL m = 0:=(xH hlen (Lr 0) (hpl.trans (KY 0).symm)).trans (xw 0);obtain ⟨he,base,R,mp,ln,hR,hq⟩:=h5 hc
 exact ⟨m,hpl,(hq.mok (by rw [hpl]; exact hpr) _ _ (Nat.le_refl _) (Nat.le_refl _)).sr (xK hc),he,hb⟩
theorem Ja {w w' : World} {e : Ending} (h : DX wkE w e w') : e = rt3 zV 22 2 ∧ Below w.heap.size w w':=by
 obtain ⟨hb,-,h2⟩:=h;exact ⟨(h2 av _ _ Dh).1 rfl,hb⟩
theorem NE (w : World) (hE : iG w.heap.size w) : Calls Tryz.prog 8 #[] w fun e w' => e = .returned (.bool true) ∧ Below w.heap.size w w':=by
 have HE:=hid (fun (W : World) (hb : Below w.heap.size w W) => (⟨(hE.later hb).tens.up hb.size,(hE.later hb).errs.up hb.size,(hE.later hb).kinds,(hE.later hb).mx,Nat.lt_of_lt_of_le hE.b3 hb.size,Nat.le_refl _⟩ : iG W.heap.size W))
 obtain ⟨ha,hm,hb,hl⟩:=MV w;have H11:=hid (Bo w.heap.size (wkM w.heap.size) (wkW w) hb.size (hE.later hb).tens (hE.later hb).kinds ha.ok (IU _));rw [MU,xw] at H11;have HA:=hid ha;have HM:=hid hm;have HB:=hid hb;have HL:=hid hl
 have HEQ:=hid (fun (m : MM) (W : World) (h1 : MSr W m) (h2 : jX w.heap.size W) (hp : pl m = wkP) => O1 h2.sr h1 (NJ (hp.symm ▸ KY w.heap.size) h2.sr h1))
 clear hE ha hm hb hl
 go_enter Tryz.func8,Tryz.ntmps8
 go_wp2_with fail
 change Calls Tryz.prog 11 #[.agg (mV (wkM w.heap.size))] (wkW w) _
 generalize wkW w = W0 at *;refine H11.out.mono ?_;rintro e w1 ⟨rfl,hb1⟩
 replace HA:=hid (HA.out.later hb1)
 replace HM:=hid (ar hb1 HM.out)
 replace HB:=hid (HB.out.trans (hb1.mono HB.out.size))
 clear hb1 H11 HL;have H15:=hid (oG wkT w1 av (HE.out w1 HB.out) N0);have e0 : wkT = ⟨#[102,108,97,103,111,110,10,116,121,112,101,32,119,32,45,62,32,45,10,109,101,109,111,114,121,32,49,32,50,10,102,117,110,99,32,48,32,108,10,32,32,98,114,116,97,98,108,101,32,48,32,49,10,32,32,101,110,100,10]⟩:=rfl;rw [← e0]
 have HPA:=hid (fun (e : Ending) (w' : World) => MN (w:=w1) (e:=e) (w':=w'))
 clear e0;generalize wkT = T at *;go_wp2_with fail;refine H15.out.mono ?_;intro e w2 hp;obtain ⟨m,hpl,hms,rfl,hb2⟩:=HPA.out _ _ hp
 replace HA:=hid (HA.out.later hb2)
 replace HM:=hid (ar hb2 HM.out)
 replace HB:=hid (HB.out.trans (hb2.mono HB.out.size))
 have HMS:=hid hms;have HPL:=hid hpl;clear hp hb2 H15 HPA hms hpl;unfold rt3 mV;go_wp2_with fail;have BN:=ak w2 (bg m.ta m.tn m.tc m.ha m.hn m.hc m.ga m.gn m.gc m.fi m.mo m.fa m.fn m.fc m.da m.dn m.dc m.ea m.en m.ec);have bx:=heap_alloc_new w2 (bg m.ta m.tn m.tc m.ha m.hn m.hc m.ga m.gn m.gc m.fi m.mo m.fa m.fn m.fc m.da m.dn m.dc m.ea m.en m.ec)
 replace HA:=hid (HA.out.later BN)
 replace HM:=hid (ar BN HM.out)
 replace HB:=hid (HB.out.trans (BN.mono HB.out.size))
 replace HMS:=hid (HMS.out.later BN)
 have HX:=hid bx;clear BN bx;generalize w2.alloc (bg m.ta m.tn m.tc m.ha m.hn m.hc m.ga m.gn m.gc m.fi m.mo m.fa m.fn m.fc m.da m.dn m.dc m.ea m.en m.ec) = w3 at *;generalize w2.heap.size = X at *;have H15:=hid (oG wkE w3 av (HE.out w3 HB.out) NH);unfold wkE at H15;refine H15.out.mono ?_;intro e w4 hp;obtain ⟨rfl,hb4⟩:=Ja hp
 replace HA:=hid (HA.out.later hb4)
 replace HM:=hid (ar hb4 HM.out)
 replace HX:=hid (ar hb4 HX.out)
 replace HB:=hid (HB.out.trans (hb4.mono HB.out.size))
 replace HMS:=hid (HMS.out.later hb4)
 clear hp hb4 H15;unfold rt3 zV;have BN:=ak w4 (bg none 0 0 none 0 0 none 0 0 0 0 none 0 0 none 0 0 none 0 0)
 replace HA:=hid (HA.out.later BN)
 replace HM:=hid (ar BN HM.out)
 replace HX:=hid (ar BN HX.out)
 replace HB:=hid (HB.out.trans (BN.mono HB.out.size))
 replace HMS:=hid (HMS.out.later BN)
 clear BN;have HQ:=hid (HEQ.out m _ HMS.out HA.out HPL.out);unfold wkM mV at HQ HM;dsimp only at HQ HM;obtain ⟨⟨m0,m1,m2,m3,m4,m5,m6,m7⟩,-⟩:=ax HX.out;obtain ⟨⟨n0,n1,n2,n3,n4,n5,n6,n7⟩,-⟩:=ax HM.out;have hTT : (T.toList == T.toList) = true:=aq;go_wp2_with fail;refine HQ.out.mono ?_;rintro e w6 ⟨rfl,hb6⟩;have HB6:=hid (HB.out.trans (hb6.mono HB.out.size));clear hb6;go_wp2_with fail;go_ret;exact ⟨rfl,HB6.out⟩
end Go.Proofs.YtheefojaplnnoaaGreatDoor

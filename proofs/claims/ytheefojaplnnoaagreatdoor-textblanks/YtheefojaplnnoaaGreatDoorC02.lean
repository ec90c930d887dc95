/-
  Texts Wm Wi Ws.
-/
import Derived.Deep.RegionHeld3
import Derived.RegionDies
import Derived.Test.YtheefojaplnnoaaGreatDoorC00
import Derived.Test.YtheefojaplnnoaaGreatDoorC01
set_option linter.unusedVariables false
set_option maxRecDepth 100000
set_option maxHeartbeats 16000000
namespace Go.Proofs.YtheefojaplnnoaaGreatDoor
open Go.RowKit
abbrev nX (R g : Nat) (bs new : List Int) (v : Value) (w : World) : Ending → World → Prop:=fun e w' => e = .returned v ∧ ∃ g' cap',Wr w' R g' cap' (bs ++ new) ∧ Stp R g g' w w'
abbrev aJ (R g : Nat) (x : Int) (w : World) : Ending → World → Prop:=fun e w' => (∃ p,e = thr x p) ∧ aP (fun k => k = R ∨ k = g) w w'
abbrev kO (w : World) : Ending → World → Prop:=fun e w' => e = .returned (.tuple #[]) ∧ Below w.heap.size w w'
abbrev kM (x : Int) (w : World) : Ending → World → Prop:=fun e w' => (∃ p,e = thr x p) ∧ Below w.heap.size w w'
theorem bA {S : Nat → Prop} {w w' : World} (h : Below w.heap.size w w') : aP S w w':=⟨h.os,h.tape,h.output,h.size,fun k hk _ => h.block k hk⟩
theorem cY (R : Nat) (a : Option Addr) (n cap : Nat) (w : World) (h : w.cell? ⟨R,0,none⟩ = some (.slice a n cap)) : Calls Tryz.prog 321 #[.pointer (some ⟨R,0,none⟩)] w fun e w' => e = .returned (.int .i64 n) ∧ w' = w:=by
 go_enter Tryz.func321,Tryz.ntmps321
 exact kz
theorem Lu (v : Int) (w : World) (h0 : 0 ≤ v) (h1 : v < 18446744073709551616) :
  Calls Tryz.prog 325 #[.int .u64 v] w fun e w' => ∃ B,e = .returned (.slice (some ⟨B,0,none⟩) (au v).length (au v).length) ∧ Seg w' (some ⟨B,0,none⟩) (au v).length (au v).length (au v) ∧ Below w.heap.size w w' :=
 (sM v w h0 h1).mono fun e w' ⟨he,hs,hb,_⟩ => ⟨_,he,hs,hb⟩
theorem OL (v : Int) (w : World) (h0 : -9223372036854775808 ≤ v) (h1 : v < 9223372036854775808) :
  Calls Tryz.prog 327 #[.int .i64 v] w fun e w' => ∃ B,e = .returned (.slice (some ⟨B,0,none⟩) (au (fo v)).length (au (fo v)).length) ∧ Seg w' (some ⟨B,0,none⟩) (au (fo v)).length (au (fo v)).length (au (fo v)) ∧ Below w.heap.size w w' :=
 (EO v w h0 h1).mono fun e w' ⟨he,hs,hb,_⟩ => ⟨_,he,hs,hb⟩
theorem OZ (s : ByteArray) (w : World) (hs : s.size ≤ 1000000) :
  Calls Tryz.prog 328 #[.string s] w fun e w' => ∃ B,e = .returned (.slice (some ⟨B,0,none⟩) ((au s.size).length + s.size) ((au s.size).length + s.size)) ∧
   Seg w' (some ⟨B,0,none⟩) ((au s.size).length + s.size) ((au s.size).length + s.size) (au s.size ++ bE s) ∧ Below w.heap.size w w' :=
 (Ml s w hs).mono fun e w' ⟨B,he,hs,hb,_⟩ => ⟨_,he,hs,hb⟩
theorem gb (R g cap : Nat) (bs : List Int) (v : Int) (K : Nat) (cs : Array Value) (w : World) (h : Wr w R g cap bs) (h0 : 0 ≤ v) (h1 : v < 18446744073709551616) (hb : bs.length + 10 ≤ 1099511627776)
  (hK : ∀ args w,(callFunc K args).run Tryz.prog w = .ok (.enter K args) w)
  (hask : Calls Tryz.prog K (#[.int .u64 v,.int .i64 bs.length] ++ cs) w (kO w)) :
  Calls Tryz.prog 319 #[.pointer (some ⟨R,0,none⟩),.int .u64 v,.func (.func K) #[] cs] w (nX R g bs (au v) (.int .u64 v) w):=by
 have c0:=h.c0;have HW:=hid h
 have HU:=hid (fun W => Lu v W h0 h1)
 have hul:=aC v;generalize au v = U at *;clear h
 go_enter Tryz.func319,Tryz.ntmps319
 exact Gx
theorem gM (R g cap : Nat) (bs : List Int) (v : Int) (K : Nat) (cs : Array Value) (x : Int) (w : World) (h : Wr w R g cap bs)
  (hK : ∀ args w,(callFunc K args).run Tryz.prog w = .ok (.enter K args) w)
  (hask : Calls Tryz.prog K (#[.int .u64 v,.int .i64 bs.length] ++ cs) w (kM x w)) :
  Calls Tryz.prog 319 #[.pointer (some ⟨R,0,none⟩),.int .u64 v,.func (.func K) #[] cs] w (aJ R g x w):=by
 have c0:=h.c0;clear h
 go_enter Tryz.func319,Tryz.ntmps319
 exact yK
theorem qN (R g cap : Nat) (bs : List Int) (v : Int) (K : Nat) (cs : Array Value) (w : World) (h : Wr w R g cap bs) (h0 : -9223372036854775808 ≤ v) (h1 : v < 9223372036854775808) (hb : bs.length + 10 ≤ 1099511627776)
  (hK : ∀ args w,(callFunc K args).run Tryz.prog w = .ok (.enter K args) w)
  (hask : Calls Tryz.prog K (#[.int .i64 v,.int .i64 bs.length] ++ cs) w (kO w)) :
  Calls Tryz.prog 322 #[.pointer (some ⟨R,0,none⟩),.int .i64 v,.func (.func K) #[] cs] w (nX R g bs (au (fo v)) (.int .i64 v) w):=by
 have c0:=h.c0;have HW:=hid h
 have HU:=hid (fun W => OL v W h0 h1)
 have hul:=aC (fo v);generalize au (fo v) = U at *;clear h
 go_enter Tryz.func322,Tryz.ntmps322
 exact Gx
theorem sk (R g cap : Nat) (bs : List Int) (v : Int) (K : Nat) (cs : Array Value) (x : Int) (w : World) (h : Wr w R g cap bs)
  (hK : ∀ args w,(callFunc K args).run Tryz.prog w = .ok (.enter K args) w)
  (hask : Calls Tryz.prog K (#[.int .i64 v,.int .i64 bs.length] ++ cs) w (kM x w)) :
  Calls Tryz.prog 322 #[.pointer (some ⟨R,0,none⟩),.int .i64 v,.func (.func K) #[] cs] w (aJ R g x w):=by
 have c0:=h.c0;clear h
 go_enter Tryz.func322,Tryz.ntmps322
 exact yK
theorem bC (R g cap : Nat) (bs : List Int) (k : Nat) (m : Int) (w : World) (h : Wr w R g cap bs) (hk : (k : Int) ≤ m) (hk1 : k ≤ 1099511627776) (hb : bs.length + 10 ≤ 1099511627776) :
  Calls Tryz.prog 317 #[.pointer (some ⟨R,0,none⟩),.int .i64 k,.int .i64 m] w (nX R g bs (au k) (.int .i64 k) w):=by
 have c0:=h.c0;have HW:=hid h
 have HU:=hid (fun W => Lu k W ae ae)
 have hul:=aC k;generalize au k = U at *
 have hd : decide ((k : Int) ≤ m) = true:=by simp [hk]
 have hw64 : IntKind.u64.wrap (k : Int) = k:=cV _ ae ae;clear h
 go_enter Tryz.func317,Tryz.ntmps317
 go_wp2_with fail;refine (cY R _ _ _ w c0).mono ?_;rintro e w1 ⟨rfl,rfl⟩;go_wp2_with fail;refine (jh _ _ _).mono ?_;rintro e w1 ⟨rfl,rfl⟩;clear c0 hd;go_wp2_with fail;refine (HU.out _).mono ?_;rintro e w3 ⟨B,rfl,s3,b3⟩;have B3:=hid b3;exact D8
theorem ei (R g cap : Nat) (bs : List Int) (k : Nat) (m : Int) (w : World) (h : Wr w R g cap bs) (hk : m < (k : Int)) :
  Calls Tryz.prog 317 #[.pointer (some ⟨R,0,none⟩),.int .i64 k,.int .i64 m] w (aJ R g 20 w):=by
 have c0:=h.c0;have hd : decide ((k : Int) ≤ m) = false:=aL;clear h
 go_enter Tryz.func317,Tryz.ntmps317
 exact Ih
theorem Kj (w : World) (v : Int) (h0 : 0 ≤ v) (h1 : v ≤ 255) (t : TypeId) : Seg (w.alloc (.cells #[.int .u8 v] t)) (some ⟨w.heap.size,0,none⟩) 1 1 [v]:=by
 refine ⟨rfl,Nat.le_refl _,ae,by simp [h0,h1],.inr ⟨_,0,rfl,fun j hj => ?_⟩⟩
 obtain rfl : j = 0:=ae
 simp [go_sem]
theorem gQ (R g cap : Nat) (bs : List Int) (v : Int) (K : Nat) (cs : Array Value) (w : World) (h : Wr w R g cap bs) (h0 : 0 ≤ v) (h1 : v ≤ 255) (hb : bs.length + 1 ≤ 1099511627776)
  (hK : ∀ args w,(callFunc K args).run Tryz.prog w = .ok (.enter K args) w)
  (hask : Calls Tryz.prog K (#[.int .u8 v,.int .i64 bs.length] ++ cs) w (kO w)) :
  Calls Tryz.prog 320 #[.pointer (some ⟨R,0,none⟩),.int .u8 v,.func (.func K) #[] cs] w (nX R g bs [v] (.int .u8 v) w):=by
 have c0:=h.c0;have HW:=hid h;clear h
 go_enter Tryz.func320,Tryz.ntmps320
 go_wp2_with fail;refine (cY R _ _ _ w c0).mono ?_;rintro e w1 ⟨rfl,rfl⟩;go_wp2_with fail;refine hask.mono ?_;rintro e w2 ⟨rfl,b2⟩;have hb2:=b2.trans (((Below.refl _ w2).alloc (Nat.le_refl _) (jb v)).mono b2.size);have HS:=hid (Kj w2 v h0 h1 5);have B3:=hid hb2;clear b2 hb2 hask hK c0;go_wp2_with fail;refine (rV R g cap bs _ _ _ _ _ (HW.out.later B3.out) HS.out ae ae).mono ?_;rintro e w4 ⟨rfl,g',cap',hw4,hs4⟩;have W4:=hid hw4;have S4:=hid ((Stp.of_below B3.out).trans hs4);clear hw4 hs4;go_wp2_with fail;go_ret;exact ⟨rfl,g',cap',W4.out,S4.out⟩
theorem xj (R g cap : Nat) (bs : List Int) (v : Int) (K : Nat) (cs : Array Value) (x : Int) (w : World) (h : Wr w R g cap bs)
  (hK : ∀ args w,(callFunc K args).run Tryz.prog w = .ok (.enter K args) w)
  (hask : Calls Tryz.prog K (#[.int .u8 v,.int .i64 bs.length] ++ cs) w (kM x w)) :
  Calls Tryz.prog 320 #[.pointer (some ⟨R,0,none⟩),.int .u8 v,.func (.func K) #[] cs] w (aJ R g x w):=by
 have c0:=h.c0;clear h
 go_enter Tryz.func320,Tryz.ntmps320
 exact yK
theorem dH (R g cap : Nat) (bs : List Int) (s : ByteArray) (m : Int) (K : Nat) (cs : Array Value) (w : World) (h : Wr w R g cap bs) (hm : (s.size : Int) ≤ m) (hs : s.size ≤ 1000000) (hb : bs.length + 10 + s.size ≤ 1099511627776)
  (hK : ∀ args w,(callFunc K args).run Tryz.prog w = .ok (.enter K args) w)
  (hask : Calls Tryz.prog K (#[.string s,.int .i64 bs.length] ++ cs) w (kO w)) :
  Calls Tryz.prog 323 #[.pointer (some ⟨R,0,none⟩),.string s,.int .i64 m,.func (.func K) #[] cs] w (nX R g bs (au s.size ++ bE s) (.string s) w):=by
 have c0:=h.c0;have HW:=hid h
 have HU:=hid (fun W => OZ s W hs)
 have hul:=aC s.size
 have hd : decide ((s.size : Int) ≤ m) = true:=by simp [hm]
 generalize au s.size = U at *;clear h
 go_enter Tryz.func323,Tryz.ntmps323
 go_wp2_with fail;refine (cY R _ _ _ w c0).mono ?_;rintro e w1 ⟨rfl,rfl⟩;go_wp2_with fail;refine (jh _ _ _).mono ?_;rintro e w1 ⟨rfl,rfl⟩;clear hd;go_wp2_with fail;refine (cY R _ _ _ _ c0).mono ?_;rintro e w1 ⟨rfl,rfl⟩;go_wp2_with fail;refine hask.mono ?_;rintro e w2 ⟨rfl,b2⟩;have B2:=hid b2;clear b2 hask hK c0;go_wp2_with fail;refine (HU.out _).mono ?_;rintro e w3 ⟨B,rfl,s3,b3⟩;have B3:=hid (B2.out.trans (b3.mono B2.out.size));exact D8
theorem fK (R g cap : Nat) (bs : List Int) (s : ByteArray) (m : Int) (f : Value) (w : World) (h : Wr w R g cap bs) (hm : m < (s.size : Int)) :
  Calls Tryz.prog 323 #[.pointer (some ⟨R,0,none⟩),.string s,.int .i64 m,f] w (aJ R g 13 w):=by
 have c0:=h.c0;have hd : decide ((s.size : Int) ≤ m) = false:=aL;clear h
 go_enter Tryz.func323,Tryz.ntmps323
 exact Ih
theorem eT (R g cap : Nat) (bs : List Int) (s : ByteArray) (m : Int) (K : Nat) (cs : Array Value) (x : Int) (w : World) (h : Wr w R g cap bs) (hm : (s.size : Int) ≤ m)
  (hK : ∀ args w,(callFunc K args).run Tryz.prog w = .ok (.enter K args) w)
  (hask : Calls Tryz.prog K (#[.string s,.int .i64 bs.length] ++ cs) w (kM x w)) :
  Calls Tryz.prog 323 #[.pointer (some ⟨R,0,none⟩),.string s,.int .i64 m,.func (.func K) #[] cs] w (aJ R g x w):=by
 have c0:=h.c0
 have hd : decide ((s.size : Int) ≤ m) = true:=by simp [hm]
 clear h
 go_enter Tryz.func323,Tryz.ntmps323
 go_wp2_with fail;refine (cY R _ _ _ w c0).mono ?_;rintro e w1 ⟨rfl,rfl⟩;go_wp2_with fail;refine (jh _ _ _).mono ?_;rintro e w1 ⟨rfl,rfl⟩;clear hd;go_wp2_with fail;refine (cY R _ _ _ _ c0).mono ?_;rintro e w1 ⟨rfl,rfl⟩;go_wp2_with fail;refine hask.mono ?_;rintro e w2 ⟨⟨p,rfl⟩,b2⟩;exact ⟨rfl,⟨p,rfl⟩,bA b2⟩
abbrev cW (R : Nat) : Value:=.iface 150 (.pointer (some ⟨R,0,none⟩))
theorem d9 (v : Value) (w : World) : (method 481 150 v "flagon/module.number").run Tryz.prog w = .ok (319,v) w:=rfl
theorem ol (v : Value) (w : World) : (method 481 150 v "flagon/module.signed").run Tryz.prog w = .ok (322,v) w:=rfl
theorem lh (v : Value) (w : World) : (method 481 150 v "flagon/module.octet").run Tryz.prog w = .ok (320,v) w:=rfl
theorem dB (v : Value) (w : World) : (method 481 150 v "flagon/module.text").run Tryz.prog w = .ok (323,v) w:=rfl
theorem bg (v : Value) (w : World) : (method 481 150 v "flagon/module.count").run Tryz.prog w = .ok (317,v) w:=rfl
theorem lq (v : Value) (w : World) : (method 481 150 v "flagon/module.place").run Tryz.prog w = .ok (321,v) w:=rfl
theorem iU (v : Value) (w : World) : (method 481 150 v "flagon/module.instruction").run Tryz.prog w = .ok (318,v) w:=rfl
theorem ib (args : Array Value) (w : World) : (callFunc 319 args).run Tryz.prog w = .ok (.enter 319 args) w:=rfl
theorem vV (args : Array Value) (w : World) : (callFunc 322 args).run Tryz.prog w = .ok (.enter 322 args) w:=rfl
theorem qo (args : Array Value) (w : World) : (callFunc 320 args).run Tryz.prog w = .ok (.enter 320 args) w:=rfl
theorem dY (args : Array Value) (w : World) : (callFunc 323 args).run Tryz.prog w = .ok (.enter 323 args) w:=rfl
theorem bN (args : Array Value) (w : World) : (callFunc 317 args).run Tryz.prog w = .ok (.enter 317 args) w:=rfl
theorem pE (args : Array Value) (w : World) : (callFunc 321 args).run Tryz.prog w = .ok (.enter 321 args) w:=rfl
theorem vz (args : Array Value) (w : World) : (callFunc 318 args).run Tryz.prog w = .ok (.enter 318 args) w:=rfl
theorem cr {b : Bool} {x p : Int} {w : World} (h : b = true) : Calls Tryz.prog 84 #[.bool b,.int .i64 x,.int .i64 p] w fun e w' => e = .returned (.tuple #[]) ∧ w' = w:=by subst h; exact jh _ _ _
theorem eF {b : Bool} {x p : Int} {w : World} (h : b = false) : Calls Tryz.prog 84 #[.bool b,.int .i64 x,.int .i64 p] w fun e w' => e = thr x p ∧ w' = w:=by subst h; exact rB _ _ _
theorem vv (x : Int) (h0 : -9223372036854775808 ≤ x) (h1 : x < 0) : IntKind.u64.wrap x = x + 18446744073709551616:=by
 simp [IntKind.wrap,IntKind.bits,IntKind.signed]; omega
theorem zD (B : Nat) (v p n : Int) (w : World) (h : w.cell? ⟨B,0,none⟩ = some (.int .i64 n)) (hn : 0 ≤ n) (hn1 : n < 9223372036854775808) (hv : v < n) : Calls Tryz.prog 185 #[.int .u64 v,.int .i64 p,.pointer (some ⟨B,0,none⟩)] w (kO w):=by
 have hw:=cV n hn ae
 go_enter Tryz.func185,Tryz.ntmps185
 exact Al
theorem DR (B : Nat) (v p n : Int) (w : World) (h : w.cell? ⟨B,0,none⟩ = some (.int .i64 n)) (hn : 0 ≤ n) (hn1 : n < 9223372036854775808) (hv : n ≤ v) : Calls Tryz.prog 185 #[.int .u64 v,.int .i64 p,.pointer (some ⟨B,0,none⟩)] w (kM 30 w):=by
 have hw:=cV n hn ae
 go_enter Tryz.func185,Tryz.ntmps185
 go_wp2_with fail;refine (eF aL).mono ?_;exact pc
theorem fE (w : World) (v : Value) (t : TypeId) : (w.alloc (.cells #[v] t)).cell? ⟨w.heap.size,0,none⟩ = some v:=cE
theorem ag (w : World) (o : Obj) : Below w.heap.size w (w.alloc o):=(Below.refl _ _).alloc (Nat.le_refl _) _
theorem fD (R g cap : Nat) (bs : List Int) (x n : Int) (w : World) (h : Wr w R g cap bs) (hb : bs.length + 10 ≤ 1099511627776) (hx0 : 0 ≤ x) (hx : x < n) (hn1 : n < 9223372036854775808) :
  Calls Tryz.prog 136 #[cW R,.int .i64 x,.int .i64 n] w (nX R g bs (au x) (.int .i64 x) w):=by
 have hm:=d9;have hc:=ib;have hw:=cV x hx0 ae;have hi:=i64_in x ae ae;have B1:=hid (ag w (bz n))
 have HN:=hid (gb R g cap bs x 185 #[.pointer (some ⟨w.heap.size,0,none⟩)] _ (h.later B1.out) hx0 ae hb (fun _ _ => rfl) (zD w.heap.size x _ n _ (fE _ _ _) ae hn1 hx))
 clear h
 go_enter Tryz.func136,Tryz.ntmps136
 exact FM
theorem jI (R g cap : Nat) (bs : List Int) (x n : Int) (w : World) (h : Wr w R g cap bs) (hx0 : -9223372036854775808 ≤ x) (hx1 : x < 9223372036854775808) (hx : x < 0 ∨ n ≤ x) (hn : 0 ≤ n) (hn1 : n < 9223372036854775808) :
  Calls Tryz.prog 136 #[cW R,.int .i64 x,.int .i64 n] w (aJ R g 30 w):=by
 have hm:=d9;have hc:=ib
 have hw : n ≤ IntKind.u64.wrap x:=by
  exact Co
 have B1:=hid (ag w (bz n))
 have HN:=hid (gM R g cap bs (IntKind.u64.wrap x) 185 #[.pointer (some ⟨w.heap.size,0,none⟩)] 30 _ (h.later B1.out) (fun _ _ => rfl) (DR w.heap.size (IntKind.u64.wrap x) _ n _ (fE _ _ _) hn hn1 hw))
 clear h hw hx
 go_enter Tryz.func136,Tryz.ntmps136
 exact BI
theorem yV (B : Nat) (v p n : Int) (w : World) (h : w.cell? ⟨B,0,none⟩ = some (.int .i64 n)) (hn : 0 ≤ n) (hn1 : n < 9223372036854775808) (hv : n ≤ v) (hv1 : v ≤ 64) : Calls Tryz.prog 193 #[.int .u64 v,.int .i64 p,.pointer (some ⟨B,0,none⟩)] w (kO w):=by
 have hw:=cV n hn ae
 have d1 : decide (n ≤ v) = true:=by simp [hv]
 have d2 : decide (v ≤ 64) = true:=by simp [hv1]
 go_enter Tryz.func193,Tryz.ntmps193
 exact Al
theorem DM (B : Nat) (v p n : Int) (w : World) (h : w.cell? ⟨B,0,none⟩ = some (.int .i64 n)) (hn : 0 ≤ n) (hn1 : n < 9223372036854775808) (hv : v < n ∨ 64 < v) : Calls Tryz.prog 193 #[.int .u64 v,.int .i64 p,.pointer (some ⟨B,0,none⟩)] w (kM 17 w):=by
 have hw:=cV n hn ae
 by_cases h1 : n ≤ v
 ·have d1 : decide (n ≤ v) = true:=by simp [h1]
  have d2 : decide (v ≤ 64) = false:=aL;exact FP
 ·have d1 : decide (n ≤ v) = false:=aL;exact FP
theorem l9 (R g cap : Nat) (bs : List Int) (x n : Int) (w : World) (h : Wr w R g cap bs) (hb : bs.length + 10 ≤ 1099511627776) (hn : 0 ≤ n) (hx0 : n ≤ x) (hx : x ≤ 64) :
  Calls Tryz.prog 140 #[cW R,.int .i64 x,.int .i64 n] w (nX R g bs (au x) (.int .i64 x) w):=by
 have hm:=d9;have hc:=ib;have hw:=cV x ae ae;have hi:=i64_in x ae ae;have B1:=hid (ag w (bz n))
 have HN:=hid (gb R g cap bs x 193 #[.pointer (some ⟨w.heap.size,0,none⟩)] _ (h.later B1.out) ae ae hb (fun _ _ => rfl) (yV w.heap.size x _ n _ (fE _ _ _) ae ae hx0 hx))
 clear h
 go_enter Tryz.func140,Tryz.ntmps140
 exact FM
theorem ow (R g cap : Nat) (bs : List Int) (x n : Int) (w : World) (h : Wr w R g cap bs) (hx0 : -9223372036854775808 ≤ x) (hx1 : x < 9223372036854775808) (hx : x < n ∨ 64 < x) (hn : 0 ≤ n) (hn1 : n < 9223372036854775808) :
  Calls Tryz.prog 140 #[cW R,.int .i64 x,.int .i64 n] w (aJ R g 17 w):=by
 have hm:=d9;have hc:=ib
 have hw : IntKind.u64.wrap x < n ∨ 64 < IntKind.u64.wrap x:=by
  exact Co
 have B1:=hid (ag w (bz n))
 have HN:=hid (gM R g cap bs (IntKind.u64.wrap x) 193 #[.pointer (some ⟨w.heap.size,0,none⟩)] 17 _ (h.later B1.out) (fun _ _ => rfl) (DM w.heap.size (IntKind.u64.wrap x) _ n _ (fE _ _ _) hn hn1 hw))
 clear h hw hx
 go_enter Tryz.func140,Tryz.ntmps140
 exact BI
theorem dA (s : ByteArray) (p : Int) (w : World) (hs : s.size ≤ 1073741824) (h : bH s 256 = true) : Calls Tryz.prog 183 #[.string s,.int .i64 p] w (kO w):=by
 have HS:=hid (Aa s w hs);rw [h] at HS;clear h
 go_enter Tryz.func183,Tryz.ntmps183
 go_wp2_with fail;refine HS.out.mono ?_;rintro e w1 ⟨rfl,hb⟩;have B1:=hid hb;clear hb HS;go_wp2_with fail;refine (cr rfl).mono ?_;rintro e w1 ⟨rfl,rfl⟩;go_wp2_with fail;go_end0;exact ⟨rfl,B1.out⟩
theorem iH (s : ByteArray) (p : Int) (w : World) (hs : s.size ≤ 1073741824) (h : bH s 256 = false) : Calls Tryz.prog 183 #[.string s,.int .i64 p] w (kM 15 w):=by
 have HS:=hid (Aa s w hs);rw [h] at HS;clear h
 go_enter Tryz.func183,Tryz.ntmps183
 go_wp2_with fail;refine HS.out.mono ?_;rintro e w1 ⟨rfl,hb⟩;have B1:=hid hb;clear hb HS;go_wp2_with fail;refine (eF rfl).mono ?_;rintro e w1 ⟨rfl,rfl⟩;exact ⟨rfl,⟨_,rfl⟩,B1.out⟩
def cf (w : World) (a : Option Addr) (n : Nat) (xs : List Sg) : Prop :=
 xs.length = n ∧ n ≤ 1099511627776 ∧ (n = 0 ∨ ∃ b off,a = some ⟨b,off,none⟩ ∧ ∀ j x,xs[j]? = some x → w.cell? ⟨b,off + j * 2,none⟩ = some (.string x.1) ∧ w.cell? ⟨b,off + j * 2 + 1,none⟩ = some (.string x.2))
theorem cf.later {w w' : World} {a : Option Addr} {n : Nat} {xs : List Sg} (h : cf w a n xs) (hb : Below w.heap.size w w') : cf w' a n xs:=by
 refine ⟨h.1,h.2.1,h.2.2.imp id ?_⟩;rintro ⟨b,off,ha,hc⟩
 refine ⟨b,off,ha,fun j x hj => ?_⟩
 obtain ⟨h1,h2⟩:=hc j x hj
 exact ⟨(hb.cell (by exact block_lt_of_cell h1)).trans h1,(hb.cell (by exact block_lt_of_cell h2)).trans h2⟩
theorem cf.kept {S : Nat → Prop} {w w' : World} {a : Option Addr} {n : Nat} {xs : List Sg} (h : cf w a n xs) (hk : aP S w w') (hS : ∀ b off c,a = some ⟨b,off,c⟩ → ¬ S b) : cf w' a n xs:=by
 refine ⟨h.1,h.2.1,h.2.2.imp id ?_⟩;rintro ⟨b,off,ha,hc⟩
 exact ⟨b,off,ha,fun j x hj => ⟨hk.cell (hc j x hj).1 (hS _ _ _ ha),hk.cell (hc j x hj).2 (hS _ _ _ ha)⟩⟩
theorem aF {α : Type} {xs : List α} {j : Nat} {x : α} (h : xs[j]? = some x) : j < xs.length:=by
 rcases Nat.lt_or_ge j xs.length with hl | hl
 ·exact hl
 ·rw [List.getElem?_eq_none hl] at h; cases h
section
variable (s p : ByteArray) (at_ beg : Int) (A B C : Nat) (aa : Option Addr) (an ac : Nat) (ah : List Sg) (w : World)
theorem Cc {wr : World} {p' r' : ByteArray} (hBl : B < wr.heap.size) (hCl : C < wr.heap.size) (yB : wr.cell? ⟨B,0,none⟩ = some (.string p)) (yC : wr.cell? ⟨C,0,none⟩ = some (.int .i64 beg)) :
  let W1:=wr.alloc (aX p' r')
  W1.cell? ⟨wr.heap.size,0,none⟩ = some (.string p') ∧ W1.cell? ⟨wr.heap.size,1,none⟩ = some (.string r') ∧ W1.cell? ⟨B,0,none⟩ = some (.string p) ∧ W1.cell? ⟨C,0,none⟩ = some (.int .i64 beg):=by
 refine ⟨cE,cE,?_,?_⟩
 ·rw [(ag wr _).cell lj]; exact yB
 ·rw [(ag wr _).cell lD]; exact yC
theorem wQ {ah : List Sg} {x y : Sg} {j : Nat} (hy : ah[j]? = some y) (h : iw ah x = false) : ((y.1.toList == x.1.toList) && (y.2.toList == x.2.toList)) = false:=by
 have hm:=List.mem_of_getElem? hy
 simp only [iw,List.any_eq_false] at h
 have:=h y hm
 exact bX
theorem xV (hs : s.size ≤ 1073741824) (hl : bH s 256 = true) (hah : cf w aa an ah) (h2 : iw ah (p,s) = false)
  (hA : w.cell? ⟨A,0,none⟩ = some (.slice aa an ac)) (hB : w.cell? ⟨B,0,none⟩ = some (.string p)) (hC : w.cell? ⟨C,0,none⟩ = some (.int .i64 beg)) :
  Calls Tryz.prog 184 #[.string s,.int .i64 at_,.pointer (some ⟨A,0,none⟩),.pointer (some ⟨B,0,none⟩),.pointer (some ⟨C,0,none⟩)] w (kO w):=by
 have HL:=hid (dA s at_ w hs hl);have hAl:=block_lt_of_cell hA;have hBl:=block_lt_of_cell hB;have hCl:=block_lt_of_cell hC;have HAH:=hid hah;have hlen:=hah.1;have hbig:=hah.2.1;clear hah
 go_enter Tryz.func184,Tryz.ntmps184
 go_wp2_with fail;refine HL.out.mono ?_;rintro e w1 ⟨rfl,hb⟩
 have hA1 : w1.cell? ⟨A,0,none⟩ = some (.slice aa an ac):=(hb.cell (by exact hAl)).trans hA
 have B1:=hid hb;have HB:=hid hB;have HC:=hid hC;clear hb hA hB hC HL;go_wp2_with fail
 go_loopw [14] (fun i wr => ∃ j : Nat,j ≤ an ∧ i = .int .i64 j ∧ Below w.heap.size w wr) (fun i _ => an - (intOf i).toNat)
 case atStart => exact ⟨0,ae,rfl,B1.out⟩
 case round =>
  obtain ⟨j,hj,rfl,hB2⟩:=hrel;have BW:=hid hB2;clear hB2
  by_cases hlt : j < an
  ·obtain ⟨x,hx⟩ : ∃ x,ah[j]? = some x:=⟨_,aD ae⟩
   obtain ⟨ab,off,rfl,hc⟩ : ∃ b off,aa = some ⟨b,off,none⟩ ∧ ∀ j x,ah[j]? = some x → wr.cell? ⟨b,off + j * 2,none⟩ = some (.string x.1) ∧ wr.cell? ⟨b,off + j * 2 + 1,none⟩ = some (.string x.2):=by
    rcases (HAH.out.later BW.out).2.2 with h0 | h
    ·omega
    ·exact h
   obtain ⟨y0,y1⟩:=hc j x hx;obtain ⟨p',r'⟩:=x;have hne:=wQ hx h2;clear hc;have yB : wr.cell? ⟨B,0,none⟩ = some (.string p):=(BW.out.cell lj).trans HB.out;have yC : wr.cell? ⟨C,0,none⟩ = some (.int .i64 beg):=(BW.out.cell lD).trans HC.out;have hBl':=block_lt_of_cell yB;have hCl':=block_lt_of_cell yC
   simp only at y0 y1 hne
   obtain ⟨z0,z1,z2,z3⟩:=Cc (p':=p') (r':=r') p beg B C hBl' hCl' yB yC;go_wp2_with fail;have BN:=hid (ag wr (aX p' r'));generalize wr.alloc (aX p' r') = W1 at *;clear y0 y1 yB yC;exact Fd
  ·go_wp2_with fail;go_end0;exact ⟨rfl,BW.out⟩
theorem Dn (hs : s.size ≤ 1073741824) (hl : bH s 256 = false) :
  Calls Tryz.prog 184 #[.string s,.int .i64 at_,.pointer (some ⟨A,0,none⟩),.pointer (some ⟨B,0,none⟩),.pointer (some ⟨C,0,none⟩)] w (kM 15 w):=by
 have HL:=hid (iH s at_ w hs hl)
 go_enter Tryz.func184,Tryz.ntmps184
 go_wp2_with fail;refine HL.out.mono ?_;rintro e w1 ⟨⟨q,rfl⟩,hb⟩;exact ⟨rfl,⟨q,rfl⟩,hb⟩
theorem tX (hs : s.size ≤ 1073741824) (hl : bH s 256 = true) (hah : cf w aa an ah) (k : Nat) (hk : ∃ y,ah[k]? = some y ∧ y.1.toList = p.toList ∧ y.2.toList = s.toList) (h2 : iw (ah.take k) (p,s) = false)
  (hA : w.cell? ⟨A,0,none⟩ = some (.slice aa an ac)) (hB : w.cell? ⟨B,0,none⟩ = some (.string p)) (hC : w.cell? ⟨C,0,none⟩ = some (.int .i64 beg)) :
  Calls Tryz.prog 184 #[.string s,.int .i64 at_,.pointer (some ⟨A,0,none⟩),.pointer (some ⟨B,0,none⟩),.pointer (some ⟨C,0,none⟩)] w (kM 16 w):=by
 have HL:=hid (dA s at_ w hs hl);have hAl:=block_lt_of_cell hA;have hBl:=block_lt_of_cell hB;have hCl:=block_lt_of_cell hC;have HAH:=hid hah;have hlen:=hah.1;have hbig:=hah.2.1;clear hah;obtain ⟨y,hy,hy1,hy2⟩:=hk;have hkl:=aF hy;rw [hlen] at hkl
 go_enter Tryz.func184,Tryz.ntmps184
 go_wp2_with fail;refine HL.out.mono ?_;rintro e w1 ⟨rfl,hb⟩
 have hA1 : w1.cell? ⟨A,0,none⟩ = some (.slice aa an ac):=(hb.cell (by exact hAl)).trans hA
 have B1:=hid hb;have HB:=hid hB;have HC:=hid hC;clear hb hA hB hC HL;go_wp2_with fail
 go_loopw [14] (fun i wr => ∃ j : Nat,j ≤ k ∧ i = .int .i64 j ∧ Below w.heap.size w wr) (fun i _ => an - (intOf i).toNat)
 case atStart => exact ⟨0,ae,rfl,B1.out⟩
 case round =>
  obtain ⟨j,hj,rfl,hB2⟩:=hrel;have BW:=hid hB2;clear hB2;obtain ⟨x,hx⟩ : ∃ x,ah[j]? = some x:=⟨_,aD ae⟩;have hlt : j < an:=ae
  obtain ⟨ab,off,rfl,hc⟩ : ∃ b off,aa = some ⟨b,off,none⟩ ∧ ∀ j x,ah[j]? = some x → wr.cell? ⟨b,off + j * 2,none⟩ = some (.string x.1) ∧ wr.cell? ⟨b,off + j * 2 + 1,none⟩ = some (.string x.2):=by
   rcases (HAH.out.later BW.out).2.2 with h0 | h
   ·omega
   ·exact h
  obtain ⟨y0,y1⟩:=hc j x hx;obtain ⟨p',r'⟩:=x
  have hne : j < k → ((p'.toList == p.toList) && (r'.toList == s.toList)) = false:=fun hlk => wQ (ah:=ah.take k) (x:=(p,s)) (y:=(p',r')) (j:=j) (by rw [List.getElem?_take_of_lt hlk]; exact hx) h2
  have heq : j = k → p' = y.1 ∧ r' = y.2:=fun h => by subst h; rw [hx] at hy; simp at hy; subst hy; exact ⟨rfl,rfl⟩
  clear hc;have yB : wr.cell? ⟨B,0,none⟩ = some (.string p):=(BW.out.cell lj).trans HB.out;have yC : wr.cell? ⟨C,0,none⟩ = some (.int .i64 beg):=(BW.out.cell lD).trans HC.out;have hBl':=block_lt_of_cell yB;have hCl':=block_lt_of_cell yC
  simp only at y0 y1
  obtain ⟨z0,z1,z2,z3⟩:=Cc (p':=p') (r':=r') p beg B C hBl' hCl' yB yC;go_wp2_with fail;have BN:=hid (ag wr (aX p' r'));generalize wr.alloc (aX p' r') = W1 at *;clear y0 y1 yB yC
  by_cases hjk : j < k
  ·have hne:=hne hjk;clear heq;exact Fd
  ·obtain ⟨rfl,rfl⟩:=heq ae
   have k1 : (y.1.toList == p.toList) = true:=by simp [hy1]
   have k2 : (y.2.toList == s.toList) = true:=by simp [hy2]
   clear hne hy1 hy2
   go_region_dies
   all_goals (refine (eF rfl).mono ?_; rintro e w' ⟨rfl,rfl⟩; exact ⟨rfl,⟨_,rfl⟩,(BW.out.trans (BN.out.mono BW.out.size)).drew⟩)
end
end Go.Proofs.YtheefojaplnnoaaGreatDoor

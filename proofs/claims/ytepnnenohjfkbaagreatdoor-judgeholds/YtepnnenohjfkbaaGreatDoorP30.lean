/-
  Texts Jr Jo Jp.
-/
import Derived.Test.YtepnnenohjfkbaaGreatDoorP00
import Derived.Test.YtepnnenohjfkbaaGreatDoorP29
set_option linter.unusedVariables false
set_option maxRecDepth 100000
set_option maxHeartbeats 16000000
namespace Go.Proofs.YtepnnenohjfkbaaGreatDoor
open Go.RowKit
abbrev otS (X J EN i : Nat) (P R : ByteArray) (ev : Value) (e : Int) (w W : World) : Prop :=
 W.cell? ⟨X,0,none⟩ = some (.string P) ∧ W.cell? ⟨X,1,none⟩ = some (.string R) ∧ W.cell? ⟨J,12,none⟩ = some ev ∧ W.cell? ⟨EN,i,none⟩ = some (.int .i64 e) ∧ Below w.heap.size w W
theorem otS.later {X J EN i : Nat} {P R : ByteArray} {ev : Value} {e : Int} {w W W' : World} (h : otS X J EN i P R ev e w W) (hb : Below W.heap.size W W') : otS X J EN i P R ev e w W' :=
 ⟨ag hb h.1,ag hb h.2.1,ag hb h.2.2.1,ag hb h.2.2.2.1,h.2.2.2.2.trans (hb.mono h.2.2.2.2.size)⟩
section
variable {g : Jg} {w : World}
theorem EU (h : Jw g w) (hN : g.N ≤ 2048) (hT : g.m.tn ≤ 1000000) (hTS : ∀ a,(bE g.m a).1.size ≤ 8) (hsh : ∀ j,(g.sh j).size ≤ 256) {i : Nat} (hi : i + 1 < g.N) {P Q : ByteArray} {fd : Bool} (hQ : Q.size ≤ 1000)
  (HC : Hid (Calls Tryz.prog 213 #[.pointer (some ⟨g.J,0,none⟩),.int .i64 i] w fun e w' => e = .returned (.tuple #[.agg #[.string P,.string Q],.bool fd]) ∧ Below w.heap.size w w')) :
  Calls Tryz.prog 145 #[.pointer (some ⟨g.J,0,none⟩),.int .i64 i] w fun e w' => e = .returned (.bool (fd && gS g.m g.R g.xs g.sh i (P,Q))) ∧ Below w.heap.size w w':=by
 have HT:=hid (fun (W : World) (hb : Below w.heap.size w W) => rU (h.later hb) hN hT hTS hsh hi (off:=P) (on:=Q) hQ)
 clear h;generalize gS g.m g.R g.xs g.sh i (P,Q) = tv at *
 go_enter Tryz.func145,Tryz.ntmps145
 go_wp2_with fail;refine HC.out.mono ?_;rintro e w2 ⟨rfl,hb2⟩;have B3:=hb2.trans ((aj w2 (bj P Q)).mono hb2.size);have HB3:=hid B3;clear hb2 B3 HC
 cases fd with
 | false =>
  exact ng
 | true =>
  go_wp2_with fail;refine (HT.out _ HB3.out).mono ?_;rintro e w4 ⟨rfl,hb4⟩;have HB4:=hid (HB3.out.trans (hb4.mono HB3.out.size));clear hb4;go_wp2_with fail;go_ret;exact ⟨rfl,HB4.out⟩
theorem wn (h : Jw g w) (hN : g.N ≤ 2048) (hT : g.m.tn ≤ 1000000) (hTS : ∀ a,(bE g.m a).1.size ≤ 8 ∧ (bE g.m a).2.size ≤ 8) (hR : g.R.size ≤ 8) (hsh : ∀ j,(g.sh j).size ≤ 256) {i : Nat} (hi : i < g.N) (hc : isO (opF g.xs i) = true)
  (hel : elF (opF g.xs) g.N i = -1 ∨ ∃ q : Nat,elF (opF g.xs) g.N i = q ∧ q + 1 < g.N) (hen : ∃ q : Nat,enF (opF g.xs) g.N i = q ∧ q < g.N) :
  Calls Tryz.prog 146 #[.pointer (some ⟨g.J,0,none⟩),.int .i64 i] w fun e w' => e = .returned (.bool (zK g.m g.R g.xs g.sh g.N i)) ∧ Below w.heap.size w w':=by
 unfold zK;have HJ:=hid h;have H14:=hid (qG h hN hT (o:=(i : Int)) (.inr ⟨i,rfl,hi⟩))
 have H15:=hid (fun (W : World) (hb : Below w.heap.size w W) => vO (h.later hb) hN hT (fun a => (hTS a).1) hsh (o:=(i : Int)) (.inr ⟨i,rfl,hi,hc⟩))
 have H93:=hid (fun (W : World) (hb : Below w.heap.size w W) (pb q : Nat) (s : ByteArray) (hq : q < g.N) (q0 : W.cell? ⟨pb,0,none⟩ = some (.int .i64 (q : Nat))) (q1 : W.cell? ⟨pb,1,none⟩ = some (.string s)) => vJ (h.later hb) hN (pb:=pb) (poff:=0) (n:=1) (cap:=1) (l:=[(q,s)]) rfl ae (fun j p hj => by
  have hj0 : j = 0:=rR;subst hj0
  simp at hj
  subst hj;exact ⟨q0,q1,hq⟩))
 have hb1:=rW g.m g.R g.xs hsh (i : Int)
 have hs1:=kQ (fun a => (hTS a).1) g.R g.xs (i : Int)
 have hs2:=qd (fun a => (hTS a).2) hR g.xs (i : Int)
 have hi2 : (i : Int) < (g.N : Int):=ae
 have HEL:=hid (fun (W : World) (hb : Below w.heap.size w W) => And.intro (h.later hb).el ((h.later hb).elc.cell i hi))
 have HEN:=hid (fun (W : World) (hb : Below w.heap.size w W) => And.intro (h.later hb).en ((h.later hb).enc.cell i hi))
 obtain ⟨qe,hqe,hqN⟩:=hen;rw [hqe] at HEN ⊢;clear h HJ hqe;generalize bu g.m g.R g.xs (i : Int) = sg at *;generalize bT g.m g.R g.xs g.sh (i : Int) = bv at *;obtain ⟨⟨Pa,Re⟩,ok⟩:=sg;obtain ⟨ba,bf⟩:=bv;dsimp only at *;rw [Int.toNat_natCast];have s1 : ¬ 9223372036854775807 < ba.size + Pa.size:=ae;have s2 : ¬ 9223372036854775807 < ba.size + Re.size:=ae
 rcases hel with hel | ⟨q,hel,hq1⟩
 ·rw [hel] at HEL ⊢;rw [if_neg ae];clear hel s1
  cases hpr : (Pa.toList == Re.toList) with
  | false =>
   go_enter Tryz.func146,Tryz.ntmps146
   go_wp2_with fail;refine H14.out.mono ?_;rintro e w2 ⟨rfl,hb2⟩;have B3:=hb2.trans ((aj w2 (aB Pa Re)).mono hb2.size);have b3:=heap_alloc_new w2 (aB Pa Re);have HB3:=hid B3;have Hb3:=hid b3;clear hb2 B3 b3 H14;go_wp2_with fail;refine (H15.out _ HB3.out).mono ?_;rintro e w4 ⟨rfl,hb4⟩;have y0 : w4.cell? ⟨w2.heap.size,0,none⟩ = some (.string Pa):=ai (ar hb4 Hb3.out);have y1 : w4.cell? ⟨w2.heap.size,1,none⟩ = some (.string Re):=ai (ar hb4 Hb3.out);have HB4:=hid (HB3.out.trans (hb4.mono HB3.out.size));obtain ⟨l0,l1⟩:=HEL.out _ HB4.out;clear hb4 H15
   have BQ:=hid (fun (q : Nat) => HB4.out.trans ((below_drewN w4 q).mono HB4.out.size))
   go_wp2_with fail
   go_quiet (fail)
   go_wp2_with fail;go_ret
   exact ⟨by rw [Bool.false_and]; rfl,BQ.out _⟩
  | true =>
   go_enter Tryz.func146,Tryz.ntmps146
   go_wp2_with fail;refine H14.out.mono ?_;rintro e w2 ⟨rfl,hb2⟩;have B3:=hb2.trans ((aj w2 (aB Pa Re)).mono hb2.size);have b3:=heap_alloc_new w2 (aB Pa Re);have HB3:=hid B3;have Hb3:=hid b3;clear hb2 B3 b3 H14;go_wp2_with fail;refine (H15.out _ HB3.out).mono ?_;rintro e w4 ⟨rfl,hb4⟩;have y0 : w4.cell? ⟨w2.heap.size,0,none⟩ = some (.string Pa):=ai (ar hb4 Hb3.out);have y1 : w4.cell? ⟨w2.heap.size,1,none⟩ = some (.string Re):=ai (ar hb4 Hb3.out);have HB4:=hid (HB3.out.trans (hb4.mono HB3.out.size));obtain ⟨l0,l1⟩:=HEL.out _ HB4.out;obtain ⟨n0,n1⟩:=HEN.out _ HB4.out;clear hb4 H15;go_wp2_with fail;generalize w2.heap.size = X at *;have hSS : otS X g.J g.EN i Pa Re (.slice (some ⟨g.EN,0,none⟩) g.N g.N) qe w w4:=⟨y0,y1,n0,n1,HB4.out⟩;have hSD : otS X g.J g.EN i Pa Re (.slice (some ⟨g.EN,0,none⟩) g.N g.N) qe w w4.drew:=⟨y0,y1,n0,n1,HB4.out.drew⟩;have b5 : (w4.alloc (gG (qe : Int) (ba ++ Re))).drew.heap[w4.heap.size]? = some (gG (qe : Int) (ba ++ Re)):=heap_alloc_new w4 _
   go_region_held3 (otS X g.J g.EN i Pa Re (.slice (some ⟨g.EN,0,none⟩) g.N g.N) qe w)
    (first | assumption | exact otS.later cU (aj _ _) | exact otS.later cU (aj _ _).drew)
    (first
     | (go_at_call 93; refine (H93.out _ (And.right (And.right (And.right (And.right cU)))) w4.heap.size qe (ba ++ Re) hqN (ai b5) (ai b5)).mono ?_; rintro e w' ⟨rfl,hbx⟩; have hS':=otS.later cU hbx; clear hbx))
   go_wp2_with fail;go_ret
   exact ⟨by rw [Bool.true_and]; rfl,hS'.2.2.2.2⟩
 ·rw [hel] at HEL ⊢;rw [if_pos ae,Int.toNat_natCast];have d0 : decide ((0 : Int) ≤ (q : Int)) = true:=ak;clear hel s2
  go_enter Tryz.func146,Tryz.ntmps146
  go_wp2_with fail;refine H14.out.mono ?_;rintro e w2 ⟨rfl,hb2⟩;have B3:=hb2.trans ((aj w2 (aB Pa Re)).mono hb2.size);have b3:=heap_alloc_new w2 (aB Pa Re);have HB3:=hid B3;have Hb3:=hid b3;clear hb2 B3 b3 H14;go_wp2_with fail;refine (H15.out _ HB3.out).mono ?_;rintro e w4 ⟨rfl,hb4⟩;have y0 : w4.cell? ⟨w2.heap.size,0,none⟩ = some (.string Pa):=ai (ar hb4 Hb3.out);have HB4:=hid (HB3.out.trans (hb4.mono HB3.out.size));obtain ⟨l0,l1⟩:=HEL.out _ HB4.out;clear hb4 H15;go_wp2_with fail;have B5:=HB4.out.trans ((aj w4 (gG ((q : Int) + 1) (ba ++ Pa))).mono HB4.out.size);have b5:=heap_alloc_new w4 (gG ((q : Int) + 1) (ba ++ Pa));refine (H93.out _ B5 w4.heap.size (q + 1) (ba ++ Pa) hq1 (ai b5) (ai b5)).mono ?_;exact wk
end
theorem mL {w : World} {HB : Nat} {hv b : Bool} (hc : w.heap[HB]? = some (f9 hv)) : Calls Tryz.prog 94 #[.bool b,.pointer (some ⟨HB,0,none⟩)] w fun e w' => e = .returned NG ∧ w' = w.setCell ⟨HB,0,none⟩ (.bool (hv && b)):=by
 have c0 : w.cell? ⟨HB,0,none⟩ = some (.bool hv):=ai hc;have f0 : w.frozen? ⟨HB,0,none⟩ = false:=free_at hc;clear hc
 cases hv with
 | false =>
  exact CO
 | true =>
  exact CO
section
variable {g : Jg} {w : World}
theorem O9 (h : Jw g w) (hN : g.N ≤ 2048) (hT : g.m.tn ≤ 1000000) (hTS : ∀ a,(bE g.m a).1.size ≤ 8) (hsh : ∀ j,(g.sh j).size ≤ 256) {i : Nat} (hi : i + 1 < g.N) (y : ByteArray) {JB PB : Nat}
  (c0 : w.cell? ⟨JB,0,none⟩ = some (.pointer (some ⟨g.J,0,none⟩))) (c1 : w.cell? ⟨PB,0,none⟩ = some (.int .i64 i)) :
  Calls Tryz.prog 151 #[.string y,.pointer (some ⟨JB,0,none⟩),.pointer (some ⟨PB,0,none⟩)] w fun e w' => e = .returned (.bool (gS g.m g.R g.xs g.sh i (y,⟨#[]⟩))) ∧ Below w.heap.size w w':=by
 have H:=hid (rU h hN hT hTS hsh hi (off:=y) (on:=⟨#[]⟩) (Nat.zero_le _));clear h;generalize gS g.m g.R g.xs g.sh i (y,⟨#[]⟩) = b at *
 go_enter Tryz.func151,Tryz.ntmps151
 exact Bg
theorem OH (h : Jw g w) (hN : g.N ≤ 2048) (hT : g.m.tn ≤ 1000000) (hTS : ∀ a,(bE g.m a).1.size ≤ 8) (hsh : ∀ j,(g.sh j).size ≤ 256) {i : Nat} (hi : i + 1 < g.N) (y : ByteArray) (hy : y.size ≤ 8) {JB PB : Nat}
  (c0 : w.cell? ⟨JB,0,none⟩ = some (.pointer (some ⟨g.J,0,none⟩))) (c1 : w.cell? ⟨PB,0,none⟩ = some (.int .i64 i)) :
  Calls Tryz.prog 153 #[.string y,.pointer (some ⟨JB,0,none⟩),.pointer (some ⟨PB,0,none⟩)] w fun e w' => e = .returned (.bool (gS g.m g.R g.xs g.sh i (y ++ y ++ ⟨#[119]⟩,y))) ∧ Below w.heap.size w w':=by
 have H:=hid (rU h hN hT hTS hsh hi (off:=y ++ y ++ ⟨#[119]⟩) (on:=y) ae);clear h;have s1 : (y ++ y).size = y.size + y.size:=ByteArray.size_append;have s2 : ¬ 9223372036854775807 < y.size + y.size:=ae;have s3 : ¬ 9223372036854775807 < y.size + y.size + 1:=ae;generalize gS g.m g.R g.xs g.sh i (y ++ y ++ ⟨#[119]⟩,y) = b at *
 go_enter Tryz.func153,Tryz.ntmps153
 exact Bg
theorem CI {K JB PB : Nat} {p : ByteArray → Bool} (he : ∀ args w,(callFunc K args).run Tryz.prog w = .ok (.enter K args) w)
  (hp : ∀ (W : World) (y : ByteArray),Below w.heap.size w W → y.size ≤ 8 → Calls Tryz.prog K #[.string y,.pointer (some ⟨JB,0,none⟩),.pointer (some ⟨PB,0,none⟩)] W fun e w' => e = .returned (.bool (p y)) ∧ Below W.heap.size W w') :
  Calls Tryz.prog 150 #[.func (.func K) #[] #[.pointer (some ⟨JB,0,none⟩),.pointer (some ⟨PB,0,none⟩)]] w fun e w' => e = .returned (.bool (p ⟨#[119]⟩ || p ⟨#[108]⟩)) ∧ Below w.heap.size w w':=by
 have H1:=hid (hp w ⟨#[119]⟩ (Below.refl _ _) aH)
 have H2:=hid (fun W hb => hp W ⟨#[108]⟩ hb aH)
 clear hp;generalize p ⟨#[119]⟩ = b1 at *;generalize p ⟨#[108]⟩ = b2 at *
 go_enter Tryz.func150,Tryz.ntmps150
 go_wp2_with fail;refine H1.out.mono ?_;rintro e w2 ⟨rfl,hb2⟩;have HB:=hid hb2;clear hb2
 cases b1 with
 | true =>
  go_wp2_with fail;go_ret;exact ⟨rfl,HB.out⟩
 | false =>
  go_wp2_with fail;refine (H2.out _ HB.out).mono ?_;rintro e w3 ⟨rfl,hb3⟩;have HB3:=hid (HB.out.trans (hb3.mono HB.out.size));clear hb3;exact ng
end
theorem Rs : wdV 0 = ⟨#[116,114,97,112]⟩:=aw
theorem Q3 : wdV 7 = ⟨#[98,114]⟩:=aw
theorem Ro : wdV 9 = ⟨#[98,114,116,97,98,108,101]⟩:=aw
theorem NU : wdV 10 = ⟨#[114,101,116,117,114,110]⟩:=aw
section
variable {g : Jg} {w : World}
theorem qZ (h : Jw g w) (hN : g.N ≤ 2048) {i : Nat} (hi : i < g.N) (hc : opF g.xs i = 0) :
  Calls Tryz.prog 149 #[.pointer (some ⟨g.J,0,none⟩),.int .i64 i] w fun e w' => e = .returned (.bool true) ∧ Below w.heap.size w w':=by
 have j8:=h.r;obtain ⟨a0,a1,a2,_⟩:=h.at_ hi;have jc:=h.c;have hi2 : (i : Int) < (g.N : Int):=ae;have B1:=aj w (aC (opF g.xs i) (g.xs.getD i dx).a (g.xs.getD i dx).la (g.xs.getD i dx).ln (g.xs.getD i dx).lc);have h1:=h.later B1;have jr:=h1.rw;have a3:=(h1.at_ hi).2.2.2;have b1:=heap_alloc_new w (aC (opF g.xs i) (g.xs.getD i dx).a (g.xs.getD i dx).la (g.xs.getD i dx).ln (g.xs.getD i dx).lc);have x1 : (w.alloc (aC (opF g.xs i) (g.xs.getD i dx).a (g.xs.getD i dx).la (g.xs.getD i dx).ln (g.xs.getD i dx).lc)).cell? ⟨w.heap.size,1,none⟩ = some (.int .i64 (g.xs.getD i dx).a):=ai b1;have x2 : (w.alloc (aC (opF g.xs i) (g.xs.getD i dx).a (g.xs.getD i dx).la (g.xs.getD i dx).ln (g.xs.getD i dx).lc)).cell? ⟨w.heap.size,2,none⟩ = some (.slice (g.xs.getD i dx).la (g.xs.getD i dx).ln (g.xs.getD i dx).lc):=ai b1;have HB1:=hid B1;clear h h1 B1 b1;generalize opF g.xs i = c at *;generalize (g.xs.getD i dx).a = a at *;generalize (g.xs.getD i dx).la = la at *;generalize (g.xs.getD i dx).ln = ln at *;generalize (g.xs.getD i dx).lc = lc at *
 go_enter Tryz.func149,Tryz.ntmps149
 rw [(congrArg wdV hc).trans Rs] at a3;clear hc;exact vp
theorem su (h : Jw g w) (hN : g.N ≤ 2048) (hT : g.m.tn ≤ 1000000) (hTS : ∀ a,(bE g.m a).1.size ≤ 8 ∧ (bE g.m a).2.size ≤ 8) (hR : g.R.size ≤ 8) (hsh : ∀ j,(g.sh j).size ≤ 256) {i : Nat} (hi : i < g.N) (hc : opF g.xs i = 10) :
  Calls Tryz.prog 149 #[.pointer (some ⟨g.J,0,none⟩),.int .i64 i] w fun e w' => e = .returned (.bool (isV g.m g.R g.xs g.sh i g.R).2) ∧ Below w.heap.size w w':=by
 have j8:=h.r;obtain ⟨a0,a1,a2,_⟩:=h.at_ hi;have jc:=h.c;have hi2 : (i : Int) < (g.N : Int):=ae;have B1:=aj w (aC (opF g.xs i) (g.xs.getD i dx).a (g.xs.getD i dx).la (g.xs.getD i dx).ln (g.xs.getD i dx).lc);have h1:=h.later B1;have jr:=h1.rw;have a3:=(h1.at_ hi).2.2.2;have b1:=heap_alloc_new w (aC (opF g.xs i) (g.xs.getD i dx).a (g.xs.getD i dx).la (g.xs.getD i dx).ln (g.xs.getD i dx).lc);have x1 : (w.alloc (aC (opF g.xs i) (g.xs.getD i dx).a (g.xs.getD i dx).la (g.xs.getD i dx).ln (g.xs.getD i dx).lc)).cell? ⟨w.heap.size,1,none⟩ = some (.int .i64 (g.xs.getD i dx).a):=ai b1;have x2 : (w.alloc (aC (opF g.xs i) (g.xs.getD i dx).a (g.xs.getD i dx).la (g.xs.getD i dx).ln (g.xs.getD i dx).lc)).cell? ⟨w.heap.size,2,none⟩ = some (.slice (g.xs.getD i dx).la (g.xs.getD i dx).ln (g.xs.getD i dx).lc):=ai b1;have HB1:=hid B1
 have H17:=hid (fun (W : World) (hb : Below w.heap.size w W) => Ee (h.later hb) hN hT (fun a => (hTS a).1) hsh hi g.R)
 clear h h1 B1 b1;generalize isV g.m g.R g.xs g.sh i g.R = iv at *;obtain ⟨bs,fd⟩:=iv;dsimp only at *;generalize opF g.xs i = c at *;generalize (g.xs.getD i dx).a = a at *;generalize (g.xs.getD i dx).la = la at *;generalize (g.xs.getD i dx).ln = ln at *;generalize (g.xs.getD i dx).lc = lc at *;generalize g.R = R at *
 go_enter Tryz.func149,Tryz.ntmps149
 rw [(congrArg wdV hc).trans NU] at a3;clear hc;go_wp2_with fail;refine (H17.out _ HB1.out).mono ?_;rintro e w3 ⟨rfl,hb3⟩;have HB3:=hid (HB1.out.trans (hb3.mono HB1.out.size));clear hb3;exact ng
theorem uV (h : Jw g w) (hN : g.N ≤ 2048) (hT : g.m.tn ≤ 1000000) (hTS : ∀ a,(bE g.m a).1.size ≤ 8 ∧ (bE g.m a).2.size ≤ 8) (hR : g.R.size ≤ 8) (hsh : ∀ j,(g.sh j).size ≤ 256) {i : Nat} (hi : i < g.N) (hc : opF g.xs i = 7) :
  Calls Tryz.prog 149 #[.pointer (some ⟨g.J,0,none⟩),.int .i64 i] w fun e w' => e = .returned (.bool ((bI (ltV g.m g.R g.xs i) false ⟨#[]⟩ [(g.xs.getD i dx).a]).2 && (isV g.m g.R g.xs g.sh i (bI (ltV g.m g.R g.xs i) false ⟨#[]⟩ [(g.xs.getD i dx).a]).1).2)) ∧ Below w.heap.size w w':=by
 have j8:=h.r;obtain ⟨a0,a1,a2,_⟩:=h.at_ hi;have jc:=h.c;have hi2 : (i : Int) < (g.N : Int):=ae;have B1:=aj w (aC (opF g.xs i) (g.xs.getD i dx).a (g.xs.getD i dx).la (g.xs.getD i dx).ln (g.xs.getD i dx).lc);have h1:=h.later B1;have jr:=h1.rw;have a3:=(h1.at_ hi).2.2.2;have b1:=heap_alloc_new w (aC (opF g.xs i) (g.xs.getD i dx).a (g.xs.getD i dx).la (g.xs.getD i dx).ln (g.xs.getD i dx).lc);have x1 : (w.alloc (aC (opF g.xs i) (g.xs.getD i dx).a (g.xs.getD i dx).la (g.xs.getD i dx).ln (g.xs.getD i dx).lc)).cell? ⟨w.heap.size,1,none⟩ = some (.int .i64 (g.xs.getD i dx).a):=ai b1;have x2 : (w.alloc (aC (opF g.xs i) (g.xs.getD i dx).a (g.xs.getD i dx).la (g.xs.getD i dx).ln (g.xs.getD i dx).lc)).cell? ⟨w.heap.size,2,none⟩ = some (.slice (g.xs.getD i dx).la (g.xs.getD i dx).ln (g.xs.getD i dx).lc):=ai b1;have HB1:=hid B1;have har:=(h1.cod.2 i hi).2.2.2.2.2
 have H16:=hid (fun (W : World) (hb : Below w.heap.size w W) (b : Nat) (hs : W.cell? ⟨b,0,none⟩ = some (.int .i64 (g.xs.getD i dx).a)) => ol (h.later hb) hN hT hi (la:=some ⟨b,0,none⟩) (ln:=1) (lc:=1) (l:=[(g.xs.getD i dx).a]) ⟨rfl,ae,ae,fun z hz => Er,.inr ⟨b,0,rfl,fun j hj => by obtain rfl : j = 0:=ae; exact hs⟩⟩ ae)
 generalize (bI (ltV g.m g.R g.xs i) false ⟨#[]⟩ [(g.xs.getD i dx).a]) = br at *;obtain ⟨Pa,ok⟩:=br;dsimp only at *
 have H17:=hid (fun (W : World) (hb : Below w.heap.size w W) => Ee (h.later hb) hN hT (fun a => (hTS a).1) hsh hi Pa)
 clear h h1 B1 b1 har;generalize isV g.m g.R g.xs g.sh i Pa = iv at *;obtain ⟨bs,fd⟩:=iv;dsimp only at *;generalize opF g.xs i = c at *;generalize (g.xs.getD i dx).a = a at *;generalize (g.xs.getD i dx).la = la at *;generalize (g.xs.getD i dx).ln = ln at *;generalize (g.xs.getD i dx).lc = lc at *;generalize g.R = R at *
 go_enter Tryz.func149,Tryz.ntmps149
 rw [(congrArg wdV hc).trans Q3] at a3;clear hc;go_wp2_with fail;have B3:=aj (w.alloc (aC c a la ln lc)) (aM a);have b3:=heap_alloc_new (w.alloc (aC c a la ln lc)) (aM a);have hz3 : (w.alloc (aC c a la ln lc)).heap.size = w.heap.size + 1:=ak;have BB:=HB1.out.trans (B3.mono HB1.out.size)
 refine (H16.out _ BB (w.heap.size + 1) (by rw [← hz3]; exact ai b3)).mono ?_
 rintro e w2 ⟨rfl,hb2⟩;have HB2:=hid (BB.trans (hb2.mono BB.size));clear hb2 B3 b3 hz3 BB;exact GK
theorem se (h : Jw g w) (hN : g.N ≤ 2048) (hT : g.m.tn ≤ 1000000) (hTS : ∀ a,(bE g.m a).1.size ≤ 8 ∧ (bE g.m a).2.size ≤ 8) (hR : g.R.size ≤ 8) (hsh : ∀ j,(g.sh j).size ≤ 256) {i : Nat} (hi : i < g.N) (hc : opF g.xs i = 9) (hl : km w (g.xs.getD i dx).la (g.xs.getD i dx).ln (g.xs.getD i dx).lc (g.xs.getD i dx).l) (hln : (g.xs.getD i dx).ln ≤ 100000) :
  Calls Tryz.prog 149 #[.pointer (some ⟨g.J,0,none⟩),.int .i64 i] w fun e w' => e = .returned (.bool ((bI (ltV g.m g.R g.xs i) false ⟨#[]⟩ (g.xs.getD i dx).l).2 && (isV g.m g.R g.xs g.sh i ((bI (ltV g.m g.R g.xs i) false ⟨#[]⟩ (g.xs.getD i dx).l).1 ++ ⟨#[119]⟩)).2)) ∧ Below w.heap.size w w':=by
 have j8:=h.r;obtain ⟨a0,a1,a2,_⟩:=h.at_ hi;have jc:=h.c;have hi2 : (i : Int) < (g.N : Int):=ae;have B1:=aj w (aC (opF g.xs i) (g.xs.getD i dx).a (g.xs.getD i dx).la (g.xs.getD i dx).ln (g.xs.getD i dx).lc);have h1:=h.later B1;have jr:=h1.rw;have a3:=(h1.at_ hi).2.2.2;have b1:=heap_alloc_new w (aC (opF g.xs i) (g.xs.getD i dx).a (g.xs.getD i dx).la (g.xs.getD i dx).ln (g.xs.getD i dx).lc);have x1 : (w.alloc (aC (opF g.xs i) (g.xs.getD i dx).a (g.xs.getD i dx).la (g.xs.getD i dx).ln (g.xs.getD i dx).lc)).cell? ⟨w.heap.size,1,none⟩ = some (.int .i64 (g.xs.getD i dx).a):=ai b1;have x2 : (w.alloc (aC (opF g.xs i) (g.xs.getD i dx).a (g.xs.getD i dx).la (g.xs.getD i dx).ln (g.xs.getD i dx).lc)).cell? ⟨w.heap.size,2,none⟩ = some (.slice (g.xs.getD i dx).la (g.xs.getD i dx).ln (g.xs.getD i dx).lc):=ai b1;have HB1:=hid B1;have H16:=hid (ol h1 hN hT hi (hl.later B1 (Nat.le_refl _)) hln);have hPa:=ie (nk hTS hR g.xs i) (g.xs.getD i dx).l false ⟨#[]⟩ (Nat.zero_le _);generalize (bI (ltV g.m g.R g.xs i) false ⟨#[]⟩ (g.xs.getD i dx).l) = br at *;obtain ⟨Pa,ok⟩:=br;dsimp only at *
 have H17:=hid (fun (W : World) (hb : Below w.heap.size w W) => Ee (h.later hb) hN hT (fun a => (hTS a).1) hsh hi (Pa ++ ⟨#[119]⟩))
 clear h h1 B1 b1 hl hln;generalize isV g.m g.R g.xs g.sh i (Pa ++ ⟨#[119]⟩) = iv at *;obtain ⟨bs,fd⟩:=iv;dsimp only at *;generalize opF g.xs i = c at *;generalize (g.xs.getD i dx).a = a at *;generalize (g.xs.getD i dx).la = la at *;generalize (g.xs.getD i dx).ln = ln at *;generalize (g.xs.getD i dx).lc = lc at *;generalize g.R = R at *
 go_enter Tryz.func149,Tryz.ntmps149
 rw [(congrArg wdV hc).trans Ro] at a3;clear hc;go_wp2_with fail;refine H16.out.mono ?_;rintro e w2 ⟨rfl,hb2⟩;have HB2:=hid (HB1.out.trans (hb2.mono HB1.out.size));clear hb2 H16;have s1 : ¬ 9223372036854775807 < Pa.size + 1:=ae;exact GK
theorem Gp (h : Jw g w) (hN : g.N ≤ 2048) (hT : g.m.tn ≤ 1000000) (hTS : ∀ a,(bE g.m a).1.size ≤ 8 ∧ (bE g.m a).2.size ≤ 8) (hR : g.R.size ≤ 8) (hsh : ∀ j,(g.sh j).size ≤ 256) {i : Nat} (hi : i < g.N) (hc : opF g.xs i = 0 ∨ opF g.xs i = 7 ∨ opF g.xs i = 9 ∨ opF g.xs i = 10) (hl : opF g.xs i = 9 → km w (g.xs.getD i dx).la (g.xs.getD i dx).ln (g.xs.getD i dx).lc (g.xs.getD i dx).l ∧ (g.xs.getD i dx).ln ≤ 100000) :
  Calls Tryz.prog 149 #[.pointer (some ⟨g.J,0,none⟩),.int .i64 i] w fun e w' => e = .returned (.bool (yN g.m g.R g.xs g.sh i)) ∧ Below w.heap.size w w':=by
 unfold yN KI
 rcases hc with hc | hc | hc | hc
 ·rw [if_pos hc];exact qZ h hN hi hc
 ·rw [if_neg ae,if_pos hc];exact uV h hN hT hTS hR hsh hi hc
 ·rw [if_neg ae,if_neg ae,if_pos hc];exact se h hN hT hTS hR hsh hi hc (hl hc).1 (hl hc).2
 ·rw [if_neg ae,if_neg ae,if_neg ae,Bool.true_and];exact su h hN hT hTS hR hsh hi hc
end
end Go.Proofs.YtepnnenohjfkbaaGreatDoor

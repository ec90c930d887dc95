/-
  Texts Kc Mc.
-/
import Derived.Test.YtepnnenohjfkbaaGreatDoorP45
import Derived.Test.YtepnnenohjfkbaaGreatDoorP47
set_option linter.unusedVariables false
set_option maxRecDepth 100000
set_option maxHeartbeats 16000000
namespace Go.Proofs.YtepnnenohjfkbaaGreatDoor
open Go.RowKit
structure JA (m : MM) (lo : List Int) (xs : List Inx) (R : ByteArray) (n : Nat) (sh : Nat → ByteArray) (j : Nat) : Prop where
 H : JH m lo xs R n
 lt : j < n
 e : ∀ i,i < n → erA m lo xs R n i = 0
 s : ∀ i,i < n → sh i = (stA m lo xs R n i).st
section
variable {m : MM} {lo : List Int} {xs : List Inx} {R : ByteArray} {n : Nat} {sh : Nat → ByteArray} {j : Nat}
theorem JA.lv (h : JA m lo xs R n sh j) : Lv (stA m lo xs R n j):=jm h.H.LL lo xs h.H.RL n j
theorem JA.top (h : JA m lo xs R n sh j) : cz m R xs sh (Go.Proofs.YtepnnenohjfkbaaGreatDoor.top (stk (opF xs) j)) = ((aA (stA m lo xs R n j)).B,true) ∧ (bn m R xs (Go.Proofs.YtepnnenohjfkbaaGreatDoor.top (stk (opF xs) j))).1.2 = (aA (stA m lo xs R n j)).R:=ql h.H.G h.lt (fun i hi => h.e i (by have:=h.lt; omega)) (fun i hi => h.s i (by have:=h.lt; omega))
theorem JA.sj (h : JA m lo xs R n sh j) : sh j = (stA m lo xs R n j).st:=h.s j h.lt
theorem JA.ok (h : JA m lo xs R n sh j) : Okp (opF xs) j:=dw h.H.G h.lt
theorem JA.lef (h : JA m lo xs R n sh j) : jS m R xs sh (Go.Proofs.YtepnnenohjfkbaaGreatDoor.top (stk (opF xs) j)) = (aA (stA m lo xs R n j)).B ++ (aA (stA m lo xs R n j)).R:=by
 unfold jS;rw [h.top.1,h.top.2]
theorem JA.is (h : JA m lo xs R n sh j) {t : ByteArray} (ha : aO (stA m lo xs R n j) (aA (stA m lo xs R n j)) t = 0) : (isV m R xs sh j t).2 = true:=by
 rw [qH h.top.1,h.sj];exact mi h.lv.st h.lv.sz (Dq h.H.G h.e h.lt) ha
theorem JA.tur (h : JA m lo xs R n sh j) {x : Sg} (ha : aO (stA m lo xs R n j) (aA (stA m lo xs R n j)) x.1 = 0) (hn : sh (j + 1) = (stA m lo xs R n j).st.extract 0 ((stA m lo xs R n j).st.size - x.1.size) ++ x.2) : cT m R xs sh j x = true:=by
 rw [Dm h.top.1,h.sj];exact ⟨mi h.lv.st h.lv.sz (Dq h.H.G h.e h.lt) ha,hn⟩
theorem JA.rw0 (h : JA m lo xs R n sh j) : rwJ m lo xs R n j = 0:=kg (h.e j h.lt)
theorem JA.nx (h : JA m lo xs R n sh j) (h6 : opF xs j ≠ 6) : j + 1 < n ∧ sh (j + 1) = (stA m lo xs R n (j + 1)).st:=by
 have:=Ci h.H.G h.lt h6
 exact ⟨by omega,h.s _ (by omega)⟩
theorem JA.lt_ (h : JA m lo xs R n sh j) (a : Int) : ((ltV m R xs j a).2 = true ↔ bB (stA m lo xs R n j) a = 0) ∧ (bB (stA m lo xs R n j) a = 0 → (ltV m R xs j a).1 = brg (bm (stA m lo xs R n j) a)):=o8 h.H.G h.lt (fun i hi => h.e i (by have:=h.lt; omega)) a
theorem zo (h : JA m lo xs R n sh j) (hO : isO (opF xs j) = true) : goV m lo R xs sh j = true:=by
 have h0:=h.rw0;unfold rwJ at h0;rw [kR _ _ _ _ _ hO] at h0;obtain ⟨hi,h0⟩:=aI h0;obtain ⟨ha,_⟩:=aI h0;obtain ⟨e1,e2⟩:=gh (R:=R) j hi;unfold goV jF jX;rw [if_pos hO,if_pos hO,e1,e2,Bool.true_and];refine h.tur ha ?_;rw [(h.nx (fx hO).2).2,Dl hO];exact (ki (il ha)).symm
theorem Ak (h : JA m lo xs R n sh j) (h4 : opF xs j = 4) : pD m R xs sh n j = true:=by
 have hO : isO (opF xs j) = true:=aV.2 (by omega)
 have hb:=nE hO h.sj (h.e j h.lt);have hi:=(gh (R:=R) j (Co hO (h.e j h.lt))).1;have hlt:=h.lt;unfold pD;rw [hb,hi]
 by_cases hel : 0 ≤ elF (opF xs) n j
 ·rw [if_pos hel,Ck];obtain ⟨q,h1,h2,h3,h5,hs⟩:=yH h.H.G hel
  rw [h1,Int.toNat_natCast,h.s _ (by omega),tT h5,dQ (dw h.H.G (by omega)) hs]
  rfl
 ·rw [if_neg hel,Bool.and_eq_true,Ck]
  have hm1 : elF (opF xs) n j = -1:=by
   rcases lG (i:=j) h.H.G with h1 | ⟨q,h1,_⟩
   ·exact h1
   ·omega
  obtain ⟨q,g1,g2,g3,g4,g5,_⟩:=Cx h.H.G hlt hO
  have hq : erA m lo xs R n q = 0:=h.e q (by omega)
  have hr:=kg hq;rw [g4,Dv] at hr;have he:=(aI hr).2
  rw [dQ (dw h.H.G (by omega)) g5] at he
  unfold Cl at he;refine ⟨?_,?_⟩
  ·by_cases hc : ((aH m (xs.getD j dx).a).1.toList == (aH m (xs.getD j dx).a).2.toList) = true
   ·exact hc
   ·rw [if_neg (fun hx => by
     rcases hx with hx | hx | hx
     ·exact hx h4
     ·exact hx hm1
     ·exact hc hx)] at he
    cases he
  ·obtain ⟨q',k1,k2,k3,k4,_⟩:=at_end h.H.G h.e hlt hO
   have : q = q':=by omega
   subst this
   rw [g1,Int.toNat_natCast,h.s q (by omega)]
   exact k4
theorem DI (hw : opF xs j = 0 ∨ opF xs j = 7 ∨ opF xs j = 9 ∨ opF xs j = 10) : (stA m lo xs R n (j + 1)).dead = true:=by
 have e : (stA m lo xs R n (j + 1)) = rwS m lo (bA (bG (stA m lo xs R n j) j)) (aA (stA m lo xs R n j)) (opF xs j) (xs.getD j dx).a:=rfl;rw [e];unfold rwS
 rw [if_neg (by omega),if_neg (by omega),if_neg (by omega),if_neg (by omega),if_pos (by omega)]
 rfl
theorem zQ (h : JA m lo xs R n sh j) (hw : opF xs j = 0 ∨ opF xs j = 7 ∨ opF xs j = 9 ∨ opF xs j = 10) : ((decide (opF xs (j + 1) = 5) || decide (opF xs (j + 1) = 6)) && pV m R xs sh j) = true:=by
 rw [Bool.and_eq_true,Bool.or_eq_true,decide_eq_true_eq,decide_eq_true_eq];refine ⟨?_,?_⟩
 ·have hn:=h.e (j + 1) (h.nx (by omega)).1
  have hd:=DI (m:=m) (lo:=lo) (R:=R) (n:=n) hw
  by_cases h5 : opF xs (j + 1) = 5
  ·exact .inl h5
  by_cases h6 : opF xs (j + 1) = 6
  ·exact .inr h6
  exfalso
  have : erA m lo xs R n (j + 1) = 36:=if_pos ⟨hd,h5,h6⟩;rw [this] at hn
  cases hn
 ·have h0:=h.rw0;unfold rwJ at h0;unfold pV vv
  rcases hw with hc | hc | hc | hc
  ·rw [if_pos hc]
  ·rw [if_neg (by omega),if_pos hc,Bool.and_eq_true]
   rw [hc,yS,(bS _ (aA (stA m lo xs R n j)) _ [] _).1,(bS _ (aA (stA m lo xs R n j)) _ [] _).2.1,Cg] at h0;obtain ⟨h1,h0⟩:=aI h0;obtain ⟨ha,_⟩:=aI h0;have hb:=CJ (ltV m R xs j) ⟨#[]⟩ (xs.getD j dx).a;have hl:=h.lt_ (xs.getD j dx).a;have h2:=hl.1.2 h1;refine ⟨hb.1.2 h2,?_⟩;rw [hb.2 h2,hl.2 h1];exact h.is ha
  ·rw [if_neg (by omega),if_neg (by omega),if_pos hc,Bool.and_eq_true]
   rw [hc,zh,(bS _ (aA (stA m lo xs R n j)) 0 _ _).2.2.1,(bS _ (aA (stA m lo xs R n j)) _ [] _).2.1,Cg] at h0;obtain ⟨h1,h0⟩:=aI h0;obtain ⟨ha,_⟩:=aI h0;have hne:=h.H.l9 j h.lt hc;obtain ⟨b1,b2⟩:=oV (ltV m R xs j) ⟨#[]⟩ hne
   have hmem : (xs.getD j dx).l.getD 0 0 ∈ (xs.getD j dx).l:=by
    cases hl : (xs.getD j dx).l with
    | nil => exact absurd hl hne
    | cons z r => exact List.mem_cons_self
   have hz : ∀ z ∈ (xs.getD j dx).l,bB (stA m lo xs R n j) z = 0 ∧ brg (bm (stA m lo xs R n j) z) = brg (bm (stA m lo xs R n j) ((xs.getD j dx).l.getD 0 0)):=qp.1 h1;have h0l:=h.lt_ ((xs.getD j dx).l.getD 0 0);have h0z:=(hz _ hmem).1
   have hb:=b1.2 fun z hm => by
    have hl:=h.lt_ z;obtain ⟨z1,z2⟩:=hz z hm
    exact ⟨hl.1.2 z1,by rw [hl.2 z1,h0l.2 h0z]; exact z2⟩
   refine ⟨hb,?_⟩;dsimp only;rw [b2 hb,h0l.2 h0z];exact h.is ha
  ·rw [if_neg (by omega),if_neg (by omega),if_neg (by omega),Bool.true_and]
   rw [hc,wZ,(bS _ (aA (stA m lo xs R n j)) 0 [] _).2.2.2.1,Cg,qa h.ok,pJ] at h0;have ha:=(aI h0).1;exact h.is ha
theorem vF {nx : Nat} (h0 : sh j = jS m R xs sh (top (stk (opF xs) j))) (hb : (cz m R xs sh (top (stk (opF xs) j))).2 = true) (hn : top (stk (opF xs) j) ≠ -1 → sh nx = jS m R xs sh (top (stk (opF xs) j))) : lM m R xs sh j nx = true:=by
 unfold lM
 by_cases h1 : top (stk (opF xs) j) = -1
 ·rw [if_pos h1,Ck,h0,h1]
 ·rw [if_neg h1,hb,Bool.true_and,qA];exact ⟨h0,hn h1⟩
theorem xW (h : JA m lo xs R n sh j) (h5 : opF xs j = 5) : lM m R xs sh j (enF (opF xs) n j).toNat = true:=by
 have hl:=qD (.inl h5) (h.e j h.lt)
 refine vF (by rw [h.lef,h.sj]; exact hl) (by rw [h.top.1]) fun _ => ?_
 obtain ⟨t,hs,ht,h4,_,hen⟩:=tI h.H.G h.lt h5
 have hOt : isO (opF xs t) = true:=aV.2 (by omega)
 obtain ⟨q,k1,k2,k3,k4,_⟩:=at_end h.H.G h.e (show t < n by have:=h.lt; omega) hOt
 rw [hen,k1,Int.toNat_natCast,h.s q (by omega),k4,h.lef,dQ h.ok hs]
 rfl
theorem zP (h : JA m lo xs R n sh j) (h6 : opF xs j = 6) : lM m R xs sh j (j + 1) = true:=by
 have hl:=qD (.inr h6) (h.e j h.lt)
 refine vF (by rw [h.lef,h.sj]; exact hl) (by rw [h.top.1]) fun ht => ?_
 have hj1 : j + 1 < n:=by
  rcases Nat.lt_or_ge (j + 1) n with hx | hx
  ·exact hx
  ·have e : j = n - 1:=by have:=h.lt; omega
   exfalso
   apply ht
   rw [e,h.H.G.2.2.2.2];rfl
 rw [h.s _ hj1,qP h6,h.lef];exact hl
theorem xK (h : JA m lo xs R n sh j) (h8 : opF xs j = 8) : goV m lo R xs sh j = true:=by
 have hO : isO (opF xs j) ≠ true:=fun hx => by have:=aV.1 hx; omega
 have h0:=h.rw0;unfold rwJ at h0;rw [h8,zn,(bS _ (aA (stA m lo xs R n j)) _ [] _).1,(bS _ (aA (stA m lo xs R n j)) _ [] _).2.1,Cg,Cg] at h0;obtain ⟨h1,h0⟩:=aI h0;obtain ⟨ha,_⟩:=aI h0;have hb:=CJ (ltV m R xs j) ⟨#[]⟩ (xs.getD j dx).a;have hl:=h.lt_ (xs.getD j dx).a;have h2:=hl.1.2 h1;unfold goV jF jX;rw [if_neg hO,if_neg hO,if_pos h8,if_pos h8,hb.1.2 h2,Bool.true_and,hb.2 h2,hl.2 h1];refine h.tur ha ?_
 rw [(h.nx (by omega)).2,tR h8]
 exact (ki (il (s:=stA m lo xs R n j) ha)).symm
theorem qQ (h : JA m lo xs R n sh j) (ho : fN (opF xs j)) {E : Sg} (hE : efV m lo (bA (bG (stA m lo xs R n j) j)) (aA (stA m lo xs R n j)) (opF xs j) (xs.getD j dx).a = E) : efE m lo (bA (bG (stA m lo xs R n j) j)) (aA (stA m lo xs R n j)) (opF xs j) (xs.getD j dx).a = 0 ∧ cT m R xs sh j E = true:=by
 have h0:=h.rw0;unfold rwJ at h0;rw [tD ho,hE,Cg] at h0;obtain ⟨h1,h0⟩:=aI h0;obtain ⟨ha,hp⟩:=aI h0;refine ⟨h1,h.tur ha ?_⟩;rw [(h.nx ho.2.2.2.2.2.1).2,xo ho hE];exact iE hp
theorem yg (h : JA m lo xs R n sh j) (h16 : opF xs j = 16) : (cT m R xs sh j (⟨#[119]⟩,⟨#[]⟩) || cT m R xs sh j (⟨#[108]⟩,⟨#[]⟩)) = true:=by
 have ho : fN (opF xs j):=by unfold fN; omega
 have hE : efV m lo (bA (bG (stA m lo xs R n j) j)) (aA (stA m lo xs R n j)) (opF xs j) (xs.getD j dx).a = (cm (stA m lo xs R n j) (aA (stA m lo xs R n j)) 0,⟨#[]⟩):=by rw [h16,vo,(eo _ _ _ _).1]
 obtain ⟨h1,h2⟩:=qQ h ho hE;rw [h16,vW,(eo _ _ _ _).2] at h1;have h1':=h1;have hL : Ltr (cm (stA m lo xs R n j) (aA (stA m lo xs R n j)) 0):=(h.lv.st.ext _ _).ext _ _
 have hz : (cm (stA m lo xs R n j) (aA (stA m lo xs R n j)) 0).size = 1:=by
  unfold d7 at h1'
  split at h1'
  ·unfold cm;rw [ByteArray.size_extract];omega
  ·cases h1'
 rw [Bool.or_eq_true]
 rcases kI hL hz with hc | hc
 ·rw [hc] at h2; exact .inl h2
 ·rw [hc] at h2; exact .inr h2
theorem uV (h : JA m lo xs R n sh j) (h17 : opF xs j = 17) : (cT m R xs sh j (⟨#[119,119,119]⟩,⟨#[119]⟩) || cT m R xs sh j (⟨#[108,108,119]⟩,⟨#[108]⟩)) = true:=by
 have ho : fN (opF xs j):=by unfold fN; omega
 have hE : efV m lo (bA (bG (stA m lo xs R n j) j)) (aA (stA m lo xs R n j)) (opF xs j) (xs.getD j dx).a = (cm (stA m lo xs R n j) (aA (stA m lo xs R n j)) 1 ++ cm (stA m lo xs R n j) (aA (stA m lo xs R n j)) 1 ++ ⟨#[119]⟩,cm (stA m lo xs R n j) (aA (stA m lo xs R n j)) 1):=by rw [h17,wo,(eo _ _ _ _).1]
 obtain ⟨h1,h2⟩:=qQ h ho hE;rw [h17,xD,(eo _ _ _ _).2] at h1;have h1':=h1;have hL : Ltr (cm (stA m lo xs R n j) (aA (stA m lo xs R n j)) 1):=(h.lv.st.ext _ _).ext _ _
 have hz : (cm (stA m lo xs R n j) (aA (stA m lo xs R n j)) 1).size = 1:=by
  unfold d7 at h1'
  split at h1'
  ·unfold cm;rw [ByteArray.size_extract];omega
  ·cases h1'
 rw [Bool.or_eq_true]
 rcases kI hL hz with hc | hc
 ·rw [hc] at h2; exact .inl h2
 ·rw [hc] at h2; exact .inr h2
theorem vO (h : JA m lo xs R n sh j) (ho : fN (opF xs j)) (h16 : opF xs j ≠ 16) (h17 : opF xs j ≠ 17) : goV m lo R xs sh j = true:=by
 obtain ⟨_,_,_,_,_,_,_,_,_,_⟩:=id ho
 have hO : isO (opF xs j) ≠ true:=fun hx => by have:=aV.1 hx; omega
 obtain ⟨e1,e2⟩:=wJ (m:=m) (lo:=lo) h16 h17 (bA (bG (stA m lo xs R n j) j)) csD (aA (stA m lo xs R n j)) opD (xs.getD j dx).a;obtain ⟨h1,h2⟩:=qQ h ho e2;unfold goV jF jX
 rw [if_neg hO,if_neg hO,if_neg (by omega),if_neg (by omega),← e1,h1,h2]
 rfl
theorem zy (h : JA m lo xs R n sh j) : Cn m lo R xs sh n j = true:=by
 unfold Cn
 by_cases h4 : opF xs j = 4
 ·rw [if_pos h4,zo h (aV.2 (by omega)),Ak h h4]
  rfl
 rw [if_neg h4]
 by_cases h5 : opF xs j = 5
 ·rw [if_pos h5]; exact xW h h5
 rw [if_neg h5]
 by_cases h6 : opF xs j = 6
 ·rw [if_pos h6]; exact zP h h6
 rw [if_neg h6]
 by_cases hw : opF xs j = 0 ∨ opF xs j = 7 ∨ opF xs j = 9 ∨ opF xs j = 10
 ·rw [if_pos hw]; exact zQ h hw
 rw [if_neg hw]
 by_cases h16 : opF xs j = 16
 ·rw [if_pos h16]; exact yg h h16
 rw [if_neg h16]
 by_cases h17 : opF xs j = 17
 ·rw [if_pos h17]; exact uV h h17
 rw [if_neg h17]
 by_cases hO : isO (opF xs j) = true
 ·exact zo h hO
 have hn:=gA (by simpa using hO)
 by_cases h8 : opF xs j = 8
 ·exact xK h h8
 exact vO h (by unfold fN; omega) h16 h17
theorem zD (hJ : JH m lo xs R n) (he : ∀ i,i < n → erA m lo xs R n i = 0) (hs : ∀ i,i < n → sh i = (stA m lo xs R n i).st) : nW m lo R xs sh n = true:=by
 unfold nW;rw [Bool.and_eq_true,Ck]
 refine ⟨hs 0 hJ.G.1,List.all_eq_true.2 fun i hi => zy ⟨hJ,List.mem_range.1 hi,he,hs⟩⟩
end
def co3 : List InM:=[inn 24 0,inn 6 0]
theorem at3 {W : World} {B : Nat} (h : W.heap[B]? = some (.cells #[.int .u8 24,.int .i64 0,.slice none 0 0,.int .u8 6,.int .i64 0,.slice none 0 0] 51)) : AtIn W (some ⟨B,0,none⟩) 2 co3:=by
 refine ⟨rfl,.inr ⟨B,0,rfl,fun j x hj => ?_⟩⟩
 match j,hj with
 | 0,hj | 1,hj =>
  obtain rfl:=Option.some.inj hj;exact ⟨ai h,ai h,ai h⟩
 | j + 2,hj => simp [co3] at hj
theorem Aw : ∀ y ∈ co3,0 ≤ y.1 ∧ y.1 ≤ 255 ∧ y.2.2.1 = (none,0,0) ∧ y.2.2.2 = []:=by simp [co3,inn]
theorem bp {TB FB : Nat} {ca : Option Addr} {n : Nat} {co : List InM} : ∀ x ∈ (eF TB FB ca n n co).fns,x.2.2.1.2.1 ≤ x.2.2.1.2.2:=by simp [eF]
def tx2 (a b : ByteArray) (j : Nat) : ByteArray:=if j = 0 then a else b
theorem Bn (TB FB CB : Nat) : fJ (eF TB FB (some ⟨CB,0,none⟩) 2 2 co3) 0 (tx2 ⟨#[]⟩ ⟨#[119]⟩) 2 = true:=by kernel_rfl
theorem Bj (TB FB CB : Nat) : fJ (eF TB FB (some ⟨CB,0,none⟩) 2 2 co3) 0 (tx2 ⟨#[]⟩ ⟨#[108]⟩) 2 = false:=by kernel_rfl
theorem BK (TB FB CB : Nat) : fJ (eF TB FB (some ⟨CB,0,none⟩) 2 2 co3) 0 (tx2 ⟨#[]⟩ ⟨#[]⟩) 1 = false:=by kernel_rfl
theorem DW (TB FB CB : Nat) : fJ (eF TB FB (some ⟨CB,0,none⟩) 2 2 co3) 1 (tx2 ⟨#[]⟩ ⟨#[119]⟩) 2 = false:=by kernel_rfl
theorem zS {W : World} {B : Nat} {a b : ByteArray} (h : W.heap[B]? = some (.cells #[.string a,.string b] 9)) : AtT W (some ⟨B,0,none⟩) 2 (tx2 a b) :=
 .inr ⟨B,0,rfl,fun j hj => by
  have : j = 0 ∨ j = 1:=by omega
  rcases this with rfl | rfl
  ·exact ai h
  ·exact ai h⟩
theorem Bf {W : World} {B : Nat} {a b : ByteArray} (h : W.heap[B]? = some (.cells #[.string a] 9)) : AtT W (some ⟨B,0,none⟩) 1 (tx2 a b) :=
 .inr ⟨B,0,rfl,fun j hj => by
  have : j = 0:=by omega
  subst this;exact ai h⟩
theorem xe {a b : ByteArray} (ha : a.size ≤ 1) (hb : b.size ≤ 1) (j : Nat) : (tx2 a b j).size ≤ 281474976710656:=by
 unfold tx2
 split <;> omega
theorem x9 (w : World) (hk : aL w) (hp : 0 < w.heap.size) : Calls Tryz.prog 20 #[] w fun e w' => e = .returned (.bool true) ∧ Below w.heap.size w w':=by
 have HK:=hid hk;clear hk
 go_enter Tryz.func20,Tryz.ntmps20
 go_wp2_with fail;have B1:=ag w (.cells #[.string ⟨#[]⟩,.string ⟨#[119]⟩] 62);have b1:=heap_alloc_new w (.cells #[.string ⟨#[]⟩,.string ⟨#[119]⟩] 62)
 have z1 : (w.alloc (.cells #[.string ⟨#[]⟩,.string ⟨#[119]⟩] 62)).heap.size = w.heap.size + 1:=by simp
 generalize w.alloc (.cells #[.string ⟨#[]⟩,.string ⟨#[119]⟩] 62) = W1 at *;have B2:=ag W1 (.cells #[.int .u8 24,.int .i64 0,.slice none 0 0,.int .u8 6,.int .i64 0,.slice none 0 0] 51);have b2:=heap_alloc_new W1 (.cells #[.int .u8 24,.int .i64 0,.slice none 0 0,.int .u8 6,.int .i64 0,.slice none 0 0] 51)
 have z2 : (W1.alloc (.cells #[.int .u8 24,.int .i64 0,.slice none 0 0,.int .u8 6,.int .i64 0,.slice none 0 0] 51)).heap.size = w.heap.size + 1 + 1:=by simp [z1]
 rw [z1] at b2;have b1:=aj B2 b1;have B2:=B1.trans (B2.mono B1.size);generalize W1.alloc (.cells #[.int .u8 24,.int .i64 0,.slice none 0 0,.int .u8 6,.int .i64 0,.slice none 0 0] 51) = W2 at *;have B3:=ag W2 (.cells #[.int .i64 0,.string ⟨#[]⟩,.slice (some ⟨w.heap.size + 1,0,none⟩) 2 2] 42);have b3:=heap_alloc_new W2 (.cells #[.int .i64 0,.string ⟨#[]⟩,.slice (some ⟨w.heap.size + 1,0,none⟩) 2 2] 42)
 have z3 : (W2.alloc (.cells #[.int .i64 0,.string ⟨#[]⟩,.slice (some ⟨w.heap.size + 1,0,none⟩) 2 2] 42)).heap.size = w.heap.size + 1 + 1 + 1:=by simp [z2]
 rw [z2] at b3;have b1:=aj B3 b1;have b2:=aj B3 b2;have B3:=B2.trans (B3.mono B2.size);generalize W2.alloc (.cells #[.int .i64 0,.string ⟨#[]⟩,.slice (some ⟨w.heap.size + 1,0,none⟩) 2 2] 42) = W3 at *;have B4:=ag W3 (.cells #[.slice (some ⟨w.heap.size,0,none⟩) 1 1,.slice none 0 0,.slice none 0 0,.int .i64 0,.int .i64 0,.slice (some ⟨w.heap.size + 1 + 1,0,none⟩) 1 1,.slice none 0 0,.slice none 0 0] 29);have b4:=heap_alloc_new W3 (.cells #[.slice (some ⟨w.heap.size,0,none⟩) 1 1,.slice none 0 0,.slice none 0 0,.int .i64 0,.int .i64 0,.slice (some ⟨w.heap.size + 1 + 1,0,none⟩) 1 1,.slice none 0 0,.slice none 0 0] 29)
 have z4 : (W3.alloc (.cells #[.slice (some ⟨w.heap.size,0,none⟩) 1 1,.slice none 0 0,.slice none 0 0,.int .i64 0,.int .i64 0,.slice (some ⟨w.heap.size + 1 + 1,0,none⟩) 1 1,.slice none 0 0,.slice none 0 0] 29)).heap.size = w.heap.size + 1 + 1 + 1 + 1:=by simp [z3]
 rw [z3] at b4;have b1:=aj B4 b1;have b2:=aj B4 b2;have b3:=aj B4 b3;have B4:=B3.trans (B4.mono B3.size);generalize W3.alloc (.cells #[.slice (some ⟨w.heap.size,0,none⟩) 1 1,.slice none 0 0,.slice none 0 0,.int .i64 0,.int .i64 0,.slice (some ⟨w.heap.size + 1 + 1,0,none⟩) 1 1,.slice none 0 0,.slice none 0 0] 29) = W4 at *
 have HH:=hid (fun (W : World) (hb : Below W4.heap.size W4 W) (f : Int) (sb sn : Nat) (a b : ByteArray) (hf : 0 ≤ f ∧ f ≤ 1) (hs : sn ≤ 2) (ha : a.size ≤ 1) (hbs : b.size ≤ 1) (hT : AtT W (some ⟨sb,0,none⟩) sn (tx2 a b)) =>
  (tG (eF w.heap.size (w.heap.size + 1 + 1) (some ⟨w.heap.size + 1,0,none⟩) 2 2 co3) f W (by omega) (by omega) (HK.out.later (B4.trans (hb.mono B4.size)) hp) (Nat.lt_of_lt_of_le hp (B4.trans (hb.mono B4.size)).size) (DG (aj hb b1) (aj hb b3) (at3 (aj hb b2)) (fun bb off cc hh => by cases hh; exact az (aj hb b2)) Aw) bp (sc:=sn) hT (by omega) (fun j _ => xe ha hbs j) : Calls Tryz.prog 23 #[.agg #[.slice (some ⟨w.heap.size,0,none⟩) 1 1,.slice none 0 0,.slice none 0 0,.int .i64 0,.int .i64 0,.slice (some ⟨w.heap.size + 1 + 1,0,none⟩) 1 1,.slice none 0 0,.slice none 0 0],.int .i64 f,.slice (some ⟨sb,0,none⟩) sn sn] W _))
 have HM:=hid (fun (W : World) (hb : Below W4.heap.size W4 W) => aj hb b4)
 have HB4:=hid B4;have B5:=ag W4 (.cells #[.string ⟨#[]⟩,.string ⟨#[119]⟩] 9);have b5:=heap_alloc_new W4 (.cells #[.string ⟨#[]⟩,.string ⟨#[119]⟩] 9);rw [z4] at b5;have HB5:=hid B5;clear b1 b2 b3 b4 B1 B2 B3 B4 B5 z1 z2 z3 z4
 refine (HH.out _ HB5.out 0 (w.heap.size + 1 + 1 + 1 + 1) 2 ⟨#[]⟩ ⟨#[119]⟩ (by omega) (by omega) (by decide) (by decide) (zS b5)).mono ?_
 rintro e w6 ⟨rfl,hb6⟩;rw [Bn];have HB6:=hid (HB5.out.trans (hb6.mono HB5.out.size));clear hb6 b5 HB5;have mb:=HM.out _ HB6.out;have m0:=ai (i:=0) mb;have m1:=ai (i:=1) mb;have m2:=ai (i:=2) mb;have m3:=ai (i:=3) mb;have m4:=ai (i:=4) mb;have m5:=ai (i:=5) mb;have m6:=ai (i:=6) mb;have m7:=ai (i:=7) mb;have hml:=az mb;go_wp2_with fail;have Bw7:=ag w6 (.cells #[.string ⟨#[]⟩,.string ⟨#[108]⟩] 9);have bw7:=heap_alloc_new w6 (.cells #[.string ⟨#[]⟩,.string ⟨#[108]⟩] 9);have BB:=HB6.out.trans (Bw7.mono HB6.out.size);clear mb m0 m1 m2 m3 m4 m5 m6 m7 hml
 refine (HH.out _ BB 0 w6.heap.size 2 ⟨#[]⟩ ⟨#[108]⟩ (by omega) (by omega) (by decide) (by decide) (zS bw7)).mono ?_
 rintro e w7 ⟨rfl,hbx⟩;rw [Bj];have HB7:=hid (BB.trans (hbx.mono BB.size));clear hbx BB Bw7 bw7 HB6;have mb:=HM.out _ HB7.out;have m0:=ai (i:=0) mb;have m1:=ai (i:=1) mb;have m2:=ai (i:=2) mb;have m3:=ai (i:=3) mb;have m4:=ai (i:=4) mb;have m5:=ai (i:=5) mb;have m6:=ai (i:=6) mb;have m7:=ai (i:=7) mb;have hml:=az mb;go_wp2_with fail;have Bw8:=ag w7 (.cells #[.string ⟨#[]⟩] 9);have bw8:=heap_alloc_new w7 (.cells #[.string ⟨#[]⟩] 9);have BB:=HB7.out.trans (Bw8.mono HB7.out.size);clear mb m0 m1 m2 m3 m4 m5 m6 m7 hml
 refine (HH.out _ BB 0 w7.heap.size 1 ⟨#[]⟩ ⟨#[]⟩ (by omega) (by omega) (by decide) (by decide) (Bf bw8)).mono ?_
 rintro e w8 ⟨rfl,hbx⟩;rw [BK];have HB8:=hid (BB.trans (hbx.mono BB.size));clear hbx BB Bw8 bw8 HB7;have mb:=HM.out _ HB8.out;have m0:=ai (i:=0) mb;have m1:=ai (i:=1) mb;have m2:=ai (i:=2) mb;have m3:=ai (i:=3) mb;have m4:=ai (i:=4) mb;have m5:=ai (i:=5) mb;have m6:=ai (i:=6) mb;have m7:=ai (i:=7) mb;have hml:=az mb;go_wp2_with fail;have Bw9:=ag w8 (.cells #[.string ⟨#[]⟩,.string ⟨#[119]⟩] 9);have bw9:=heap_alloc_new w8 (.cells #[.string ⟨#[]⟩,.string ⟨#[119]⟩] 9);have BB:=HB8.out.trans (Bw9.mono HB8.out.size);clear mb m0 m1 m2 m3 m4 m5 m6 m7 hml
 refine (HH.out _ BB 1 w8.heap.size 2 ⟨#[]⟩ ⟨#[119]⟩ (by omega) (by omega) (by decide) (by decide) (zS bw9)).mono ?_
 rintro e w9 ⟨rfl,hbx⟩;rw [DW];have HB9:=hid (BB.trans (hbx.mono BB.size));clear hbx BB Bw9 bw9 HB8;go_wp2_with fail;go_ret;exact ⟨rfl,HB4.out.trans (HB9.out.mono HB4.out.size)⟩
def eqT (n1 n2 : Nat) (T U : Nat → ByteArray) : Bool:=decide (n1 = n2) && (List.range n1).all fun j => (T j).toList == (U j).toList
theorem CG {n1 n2 : Nat} {T U : Nat → ByteArray} : eqT n1 n2 T U = true ↔ n1 = n2 ∧ ∀ j,j < n1 → T j = U j:=by
 unfold eqT;rw [Bool.and_eq_true,decide_eq_true_eq,List.all_eq_true]
 exact ⟨fun ⟨h1,h2⟩ => ⟨h1,fun j hj => eQ.1 (h2 j (List.mem_range.2 hj))⟩,fun ⟨h1,h2⟩ => ⟨h1,fun j hj => eQ.2 (h2 j (List.mem_range.1 hj))⟩⟩
theorem Ag {w : World} {a1 a2 : Option Addr} {n1 n2 c1 c2 : Nat} {T U : Nat → ByteArray} (h1 : AtT w a1 n1 T) (h2 : AtT w a2 n2 U) (hn1 : n1 ≤ 1099511627776) (hn2 : n2 ≤ 1099511627776) :
  Calls Tryz.prog 19 #[.slice a1 n1 c1,.slice a2 n2 c2] w fun e w' => e = .returned (.bool (eqT n1 n2 T U)) ∧ Below w.heap.size w w':=by
 by_cases hne : n1 = n2
 rotate_left
 ·have hd : ((n1 : Int) != (n2 : Int)) = true:=by simp; omega
  have HV:=hid (show eqT n1 n2 T U = false by unfold eqT; rw [decide_eq_false hne,Bool.false_and])
  clear h1 h2 hne
  go_enter Tryz.func19,Tryz.ntmps19
  go_wp2_with fail;go_ret
  exact ⟨by rw [HV.out]; rfl,Below.refl _ _⟩
 subst hne
 have hd : ((n1 : Int) != (n1 : Int)) = false:=by simp
 have H1:=hid h1;have H2:=hid h2;clear h1 h2
 go_enter Tryz.func19,Tryz.ntmps19
 go_wp2_with fail
 go_loopw [5] (fun i wr => ∃ k m : Nat,k ≤ n1 ∧ i = .int .i64 k ∧ wr = w.drewN m ∧ Hid (∀ j,j < k → T j = U j)) (fun i _ => n1 - (intOf i).toNat)
 case atStart => exact ⟨0,0,by omega,rfl,rfl,hid fun j hj => absurd hj (by omega)⟩
 case round =>
  obtain ⟨k,m,hk,rfl,rfl,hall⟩:=hrel
  by_cases hlt : k < n1
  ·obtain ⟨b1,o1,e1,G1⟩:=H1.out.resolve_left (by omega)
   obtain ⟨b2,o2,e2,G2⟩:=H2.out.resolve_left (by omega)
   have g1:=G1 k hlt;have g2:=G2 k hlt;clear G1 G2
   have hlt' : (k : Int) < (n1 : Int):=by omega
   rw [e1,e2]
   by_cases hx : T k = U k
   ·have HX : Hid (∀ j,j < k + 1 → T j = U j):=hid fun j hj => by
     rcases Nat.lt_or_ge j k with hy | hy
     ·exact hall.out j hy
     ·obtain rfl : j = k:=by omega
      exact hx
    rw [hx] at g1;clear hx e1 e2;generalize U k = x at *
    have hb : (x.toList != x.toList) = false:=by simp
    have hb' : (x.toList == x.toList) = true:=by simp
    go_wp2_with fail
    go_quiet (fail)
    go_wp2_with fail
    exact ⟨⟨k + 1,m + nq,by omega,by go_num,rfl,HX⟩,by simp [intOf]; omega⟩
   ·have HV:=hid (show eqT n1 n1 T U = false by
     cases h : eqT n1 n1 T U with
     | false => rfl
     | true => exact absurd ((CG.1 h).2 k hlt) hx)
    have hb' : ((T k).toList == (U k).toList) = false:=by
     cases h : ((T k).toList == (U k).toList) with
     | false => rfl
     | true => exact absurd (eQ.1 h) hx
    have hb : ((T k).toList != (U k).toList) = true:=by rw [bne,hb']; rfl
    have HBQ:=hid (fun (q : Nat) => (below_drewN w m).trans ((below_drewN (w.drewN m) q).mono (below_drewN w m).size))
    clear hx e1 e2;generalize T k = x at *;generalize U k = y at *;go_wp2_with fail
    go_quiet (fail)
    go_wp2_with fail;go_ret
    exact ⟨by rw [HV.out]; rfl,HBQ.out _⟩
  ·have hkn : k = n1:=by omega
   subst hkn;have HV:=hid (show eqT k k T U = true from CG.2 ⟨rfl,hall.out⟩);have HBQ:=hid (below_drewN w m);go_wp2_with fail;go_ret
   exact ⟨by rw [HV.out]; rfl,HBQ.out⟩
end Go.Proofs.YtepnnenohjfkbaaGreatDoor

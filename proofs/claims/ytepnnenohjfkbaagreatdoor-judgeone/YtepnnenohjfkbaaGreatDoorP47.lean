/-
  Texts Kb.
-/
import Derived.Test.YtepnnenohjfkbaaGreatDoorP46
set_option linter.unusedVariables false
set_option maxRecDepth 100000
set_option maxHeartbeats 16000000
namespace Go.Proofs.YtepnnenohjfkbaaGreatDoor
open Go.RowKit
section
variable (m : MM) (lo : List Int) (el : Int) (s : Cs) (o : Opn) (a : Int) (l : List Int)
theorem DV : rwE m lo el s o 0 a l = aS o.B o.R:=by
 unfold rwE
 rw [if_neg (by decide),if_neg (by decide),if_neg (by decide),if_neg (by decide),if_neg (by decide),if_neg (by decide),if_neg (by decide),if_neg (by decide),if_pos rfl]
theorem Bb : rwE m lo el s o 5 a l = cU s o:=by
 unfold rwE
 rw [if_neg (by decide),if_neg (by decide),if_pos rfl]
theorem Dv : rwE m lo el s o 6 a l = orE (cU s o) (Cl o el):=by
 unfold rwE
 rw [if_neg (by decide),if_neg (by decide),if_neg (by decide),if_pos rfl]
theorem yS : rwE m lo el s o 7 a l = orE (bB s a) (orE (aO s o (brg (bm s a))) (aS o.B o.R)):=by
 unfold rwE
 rw [if_neg (by decide),if_neg (by decide),if_neg (by decide),if_neg (by decide),if_pos rfl]
theorem zn : rwE m lo el s o 8 a l = orE (bB s a) (orE (aO s o (brg (bm s a) ++ wT)) (aO s o wT)):=by
 unfold rwE
 rw [if_neg (by decide),if_neg (by decide),if_neg (by decide),if_neg (by decide),if_neg (by decide),if_pos rfl]
theorem zh : rwE m lo el s o 9 a l = orE (ed s l) (orE (aO s o (brg (bm s (l.getD 0 0)) ++ wT)) (aS o.B o.R)):=by
 unfold rwE
 rw [if_neg (by decide),if_neg (by decide),if_neg (by decide),if_neg (by decide),if_neg (by decide),if_neg (by decide),if_pos rfl]
theorem wZ : rwE m lo el s o 10 a l = orE (aO s o (brg (CC s))) (aS o.B o.R):=by
 unfold rwE
 rw [if_neg (by decide),if_neg (by decide),if_neg (by decide),if_neg (by decide),if_neg (by decide),if_neg (by decide),if_neg (by decide),if_pos rfl]
theorem vo : efV m lo s o 16 a = (cm s o 0,⟨#[]⟩):=rfl
theorem vW : efE m lo s o 16 a = d7 s o 0:=rfl
theorem wo : efV m lo s o 17 a = (cm s o 1 ++ cm s o 1 ++ ⟨#[119]⟩,cm s o 1):=rfl
theorem xD : efE m lo s o 17 a = d7 s o 1:=rfl
theorem Cg (j : Nat) (t : ByteArray) : aO (bA (bG s j)) o t = aO s o t:=rfl
theorem bS (j : Nat) : bB (bA (bG s j)) a = bB s a ∧ bm (bA (bG s j)) a = bm s a ∧ ed (bA (bG s j)) l = ed s l ∧ CC (bA (bG s j)) = CC s ∧ cU (bA (bG s j)) o = cU s o:=⟨rfl,rfl,rfl,rfl,rfl⟩
theorem eo (j k : Nat) : cm (bA (bG s j)) o k = cm s o k ∧ d7 (bA (bG s j)) o k = d7 s o k:=⟨rfl,rfl⟩
end
theorem oU {s : Cs} {o : Opn} (h : s.st = o.B ++ o.R) : cU s o = 0:=by
 unfold cU;rw [if_pos (eQ.2 h)]
section
variable {m : MM} {lo : List Int} {xs : List Inx} {R : ByteArray} {n : Nat} {sh : Nat → ByteArray} {j : Nat}
theorem xt (h : Cn m lo R xs sh n j = true) (hO : isO (opF xs j) = true) : goV m lo R xs sh j = true:=by
 have h3:=aV.1 hO;unfold Cn at h
 by_cases h4 : opF xs j = 4
 ·rw [if_pos h4,Bool.and_eq_true] at h;exact h.1
 ·rw [if_neg h4,if_neg (by omega),if_neg (by omega),if_neg (by omega),if_neg (by omega),if_neg (by omega)] at h
  exact h
theorem vP (h : Cn m lo R xs sh n j = true) (h4 : opF xs j = 4) : pD m R xs sh n j = true:=by
 unfold Cn at h;rw [if_pos h4,Bool.and_eq_true] at h;exact h.2
theorem CZ (h : Cn m lo R xs sh n j = true) (hw : opF xs j = 0 ∨ opF xs j = 7 ∨ opF xs j = 9 ∨ opF xs j = 10) : (opF xs (j + 1) = 5 ∨ opF xs (j + 1) = 6) ∧ pV m R xs sh j = true:=by
 unfold Cn at h
 rw [if_neg (by omega),if_neg (by omega),if_neg (by omega),if_pos hw,Bool.and_eq_true,Bool.or_eq_true,decide_eq_true_eq,decide_eq_true_eq] at h
 exact h
theorem mA (h : Cn m lo R xs sh n j = true) (h56 : opF xs j = 5 ∨ opF xs j = 6) : ∃ nx,lM m R xs sh j nx = true ∧ (opF xs j = 6 → nx = j + 1) ∧ (opF xs j = 5 → nx = (enF (opF xs) n j).toNat):=by
 unfold Cn at h
 rcases h56 with h5 | h6
 ·rw [if_neg (by omega),if_pos h5] at h
  exact ⟨_,h,fun _ => by omega,fun _ => rfl⟩
 ·rw [if_neg (by omega),if_neg (by omega),if_pos h6] at h
  exact ⟨_,h,fun _ => rfl,fun _ => by omega⟩
theorem kz {nx : Nat} (h : lM m R xs sh j nx = true) : sh j = jS m R xs sh (top (stk (opF xs) j)) ∧ (top (stk (opF xs) j) ≠ -1 → sh nx = jS m R xs sh (top (stk (opF xs) j))):=by
 unfold lM at h
 by_cases h0 : top (stk (opF xs) j) = -1
 ·rw [if_pos h0,Ck] at h
  exact ⟨by rw [h0]; exact h,fun g => absurd h0 g⟩
 ·rw [if_neg h0,Bool.and_eq_true,qA] at h
  exact ⟨h.2.1,fun _ => h.2.2⟩
theorem tI {O : Nat → Int} (hG : Good O n) (hj : j < n) (h5 : O j = 5) : ∃ t,stk O j = t :: stk O t ∧ t < j ∧ O t = 4 ∧ elF O n t = j ∧ enF O n j = enF O n t:=by
 have hiv:=lu hG.2.1
 obtain ⟨t,ht,hx⟩:=hiv.elp j (Ci hG hj (by omega)) h5
 rcases hiv.els t with h1 | ⟨q,h1,h2,h3,h4,h5',h6,h7⟩
 ·omega
 ·have e : q = j:=by omega
  subst e
  exact ⟨t,h6,ht,h4,by rw [Cr hG]; exact h1,by rw [fw hG,fw hG]; exact h7⟩
theorem yH {O : Nat → Int} (hG : Good O n) {t : Nat} (h : 0 ≤ elF O n t) : ∃ q : Nat,elF O n t = q ∧ t < q ∧ q < n - 1 ∧ O q = 5 ∧ stk O q = t :: stk O t:=by
 have hiv:=lu hG.2.1;rw [Cr hG] at h
 rcases hiv.els t with h1 | ⟨q,h1,h2,h3,h4,h5',h6,h7⟩
 ·omega
 ·exact ⟨q,by rw [Cr hG]; exact h1,h2,h3,h5',h6⟩
theorem Aj (hw : opF xs j = 0 ∨ opF xs j = 7 ∨ opF xs j = 9 ∨ opF xs j = 10) : (stA m lo xs R n (j + 1)).st = cK (aA (stA m lo xs R n j)).B (aA (stA m lo xs R n j)).R:=by
 have e : (stA m lo xs R n (j + 1)) = rwS m lo (bA (bG (stA m lo xs R n j) j)) (aA (stA m lo xs R n j)) (opF xs j) (xs.getD j dx).a:=rfl;rw [e];unfold rwS
 rw [if_neg (by omega),if_neg (by omega),if_neg (by omega),if_neg (by omega),if_pos (by omega)]
 rfl
theorem tR (h8 : opF xs j = 8) : (stA m lo xs R n (j + 1)).st = (stA m lo xs R n j).st.extract 0 ((stA m lo xs R n j).st.size - wT.size):=by
 have e : (stA m lo xs R n (j + 1)) = rwS m lo (bA (bG (stA m lo xs R n j) j)) (aA (stA m lo xs R n j)) (opF xs j) (xs.getD j dx).a:=rfl;rw [e,h8];rfl
def fN (c : Int) : Prop:=c ≠ 0 ∧ c ≠ 2 ∧ c ≠ 3 ∧ c ≠ 4 ∧ c ≠ 5 ∧ c ≠ 6 ∧ c ≠ 7 ∧ c ≠ 8 ∧ c ≠ 9 ∧ c ≠ 10
theorem xM {s : Cs} {o : Opn} {c a : Int} (h : fN c) : rwS m lo s o c a = jh (bh s (efV m lo s o c a).1) (efV m lo s o c a).2:=by
 obtain ⟨_,_,_,_,_,_,_,_,_,_⟩:=h;unfold rwS
 rw [if_neg (by omega),if_neg (by omega),if_neg (by omega),if_neg (by omega),if_neg (by omega),if_neg (by omega)]
theorem tD {s : Cs} {o : Opn} {el c a : Int} {l : List Int} (h : fN c) : rwE m lo el s o c a l = orE (efE m lo s o c a) (orE (aO s o (efV m lo s o c a).1) (aS (bh s (efV m lo s o c a).1).st (efV m lo s o c a).2)):=by
 obtain ⟨_,_,_,_,_,_,_,_,_,_⟩:=h;unfold rwE
 rw [if_neg (by omega),if_neg (by omega),if_neg (by omega),if_neg (by omega),if_neg (by omega),if_neg (by omega),if_neg (by omega),if_neg (by omega),if_neg (by omega)]
theorem xo (h : fN (opF xs j)) {E : Sg} (hE : efV m lo (bA (bG (stA m lo xs R n j) j)) (aA (stA m lo xs R n j)) (opF xs j) (xs.getD j dx).a = E) : (stA m lo xs R n (j + 1)).st = cK ((stA m lo xs R n j).st.extract 0 ((stA m lo xs R n j).st.size - E.1.size)) E.2:=by
 have e : (stA m lo xs R n (j + 1)) = rwS m lo (bA (bG (stA m lo xs R n j) j)) (aA (stA m lo xs R n j)) (opF xs j) (xs.getD j dx).a:=rfl;rw [e,xM h,hE];rfl
theorem r9 (h : (stA m lo xs R n (j + 1)).dead = true) : opF xs j = 0 ∨ opF xs j = 7 ∨ opF xs j = 9 ∨ opF xs j = 10:=by
 by_cases hw : opF xs j = 0 ∨ opF xs j = 7 ∨ opF xs j = 9 ∨ opF xs j = 10
 ·exact hw
 exfalso
 have e : (stA m lo xs R n (j + 1)) = rwS m lo (bA (bG (stA m lo xs R n j) j)) (aA (stA m lo xs R n j)) (opF xs j) (xs.getD j dx).a:=rfl;rw [e] at h;unfold rwS at h;generalize efV m lo (bA (bG (stA m lo xs R n j) j)) (aA (stA m lo xs R n j)) (opF xs j) (xs.getD j dx).a = E at h
 by_cases h2 : opF xs j = 2 ∨ opF xs j = 3
 ·rw [if_pos h2] at h; cases h
 rw [if_neg h2] at h
 by_cases h4 : opF xs j = 4
 ·rw [if_pos h4] at h; cases h
 rw [if_neg h4] at h
 by_cases h5 : opF xs j = 5
 ·rw [if_pos h5] at h; cases h
 rw [if_neg h5] at h
 by_cases h6 : opF xs j = 6
 ·rw [if_pos h6] at h; cases h
 rw [if_neg h6,if_neg (by omega)] at h
 by_cases h8 : opF xs j = 8
 ·rw [if_pos h8] at h; cases h
 rw [if_neg h8] at h;cases h
end
structure JC (m : MM) (lo : List Int) (xs : List Inx) (R : ByteArray) (n : Nat) (sh : Nat → ByteArray) (j : Nat) : Prop where
 H : JH m lo xs R n
 shL : ∀ i,i < n → Ltr (sh i) ∧ (sh i).size ≤ 256
 r : ∀ i,i < n → Cn m lo R xs sh n i = true
 lt : j < n
 e : ∀ i,i < j → erA m lo xs R n i = 0
 s : ∀ i,i ≤ j → sh i = (stA m lo xs R n i).st
abbrev rwJ (m : MM) (lo : List Int) (xs : List Inx) (R : ByteArray) (n j : Nat) : Int:=rwE m lo (elF (opF xs) n (aA (stA m lo xs R n j)).pc.toNat) (bA (bG (stA m lo xs R n j) j)) (aA (stA m lo xs R n j)) (opF xs j) (xs.getD j dx).a (xs.getD j dx).l
abbrev nxJ (m : MM) (lo : List Int) (xs : List Inx) (R : ByteArray) (n : Nat) (sh : Nat → ByteArray) (j : Nat) : Prop:=j + 1 < n → sh (j + 1) = (stA m lo xs R n (j + 1)).st
theorem or2 {a b : Int} (ha : a = 0) (hb : b = 0) : orE a b = 0:=by rw [ha,hb]; rfl
section
variable {m : MM} {lo : List Int} {xs : List Inx} {R : ByteArray} {n : Nat} {sh : Nat → ByteArray} {j : Nat}
theorem JC.lv (h : JC m lo xs R n sh j) : Lv (stA m lo xs R n j):=jm h.H.LL lo xs h.H.RL n j
theorem JC.top (h : JC m lo xs R n sh j) : cz m R xs sh (Go.Proofs.YtepnnenohjfkbaaGreatDoor.top (stk (opF xs) j)) = ((aA (stA m lo xs R n j)).B,true) ∧ (bn m R xs (Go.Proofs.YtepnnenohjfkbaaGreatDoor.top (stk (opF xs) j))).1.2 = (aA (stA m lo xs R n j)).R:=ql h.H.G h.lt h.e (fun i hi => h.s i (by omega))
theorem JC.sj (h : JC m lo xs R n sh j) : sh j = (stA m lo xs R n j).st:=h.s j (Nat.le_refl _)
theorem JC.ok (h : JC m lo xs R n sh j) : Okp (opF xs) j:=dw h.H.G h.lt
theorem JC.lef (h : JC m lo xs R n sh j) : jS m R xs sh (Go.Proofs.YtepnnenohjfkbaaGreatDoor.top (stk (opF xs) j)) = (aA (stA m lo xs R n j)).B ++ (aA (stA m lo xs R n j)).R:=by
 unfold jS;rw [h.top.1,h.top.2]
theorem JC.ask (h : JC m lo xs R n sh j) {t : ByteArray} (hi : (isV m R xs sh j t).2 = true) : aO (stA m lo xs R n j) (aA (stA m lo xs R n j)) t = 0:=by
 rw [qH h.top.1,h.sj] at hi;exact mq h.lv.st h.lv.sz hi.1 hi.2
theorem JC.tur (h : JC m lo xs R n sh j) {x : Sg} (hi : cT m R xs sh j x = true) : aO (stA m lo xs R n j) (aA (stA m lo xs R n j)) x.1 = 0 ∧ bl x.1 <:+ bl (stA m lo xs R n j).st ∧ sh (j + 1) = (stA m lo xs R n j).st.extract 0 ((stA m lo xs R n j).st.size - x.1.size) ++ x.2:=by
 rw [Dm h.top.1,h.sj] at hi;exact ⟨mq h.lv.st h.lv.sz hi.1.1 hi.1.2,hi.1.1,hi.2⟩
theorem DF (h : JC m lo xs R n sh j) (hO : isO (opF xs j) = true) : rwJ m lo xs R n j = 0 ∧ nxJ m lo xs R n sh j:=by
 have hg:=xt (h.r j h.lt) hO;unfold goV jF jX at hg;rw [if_pos hO,if_pos hO,Bool.and_eq_true] at hg;obtain ⟨h1,h2⟩:=hg;have hi:=yO h1;obtain ⟨e1,e2⟩:=gh (R:=R) j hi;rw [e1,e2] at h2;obtain ⟨a0,a1,a3⟩:=h.tur h2;dsimp only at a0 a1 a3
 refine ⟨?_,fun _ => ?_⟩
 ·show rwE _ _ _ _ _ _ _ _ = 0
  rw [kR _ _ _ _ _ hO];exact or2 hi (or2 a0 (tV h.lv.st h.lv.sz a0))
 ·rw [Dl hO,a3];exact ki a1
theorem pG (h : JC m lo xs R n sh j) (hw : opF xs j = 0 ∨ opF xs j = 7 ∨ opF xs j = 9 ∨ opF xs j = 10) : aS (aA (stA m lo xs R n j)).B (aA (stA m lo xs R n j)).R = 0 ∧ nxJ m lo xs R n sh j:=by
 obtain ⟨h56,_⟩:=CZ (h.r j h.lt) hw
 have hl:=Ci h.H.G h.lt (show opF xs j ≠ 6 by omega)
 have hj1 : j + 1 < n:=by omega
 obtain ⟨nx,hc,_⟩:=mA (h.r (j + 1) hj1) h56
 have hO : isO (opF xs j) = false:=by
  cases hx : isO (opF xs j) with
  | false => rfl
  | true => have:=aV.1 hx; omega
 have hs:=(kz hc).1
 rw [Ch hO (by omega),h.lef] at hs
 have hsh:=h.shL (j + 1) hj1;rw [hs] at hsh;have hp:=CX hsh.1 hsh.2
 refine ⟨hp,fun _ => ?_⟩
 rw [hs,Aj hw,iE hp]
theorem Ar (h : JC m lo xs R n sh j) (hw : opF xs j = 0 ∨ opF xs j = 7 ∨ opF xs j = 9 ∨ opF xs j = 10) : rwJ m lo xs R n j = 0 ∧ nxJ m lo xs R n sh j:=by
 obtain ⟨hp,hn⟩:=pG h hw;refine ⟨?_,hn⟩;obtain ⟨_,hv⟩:=CZ (h.r j h.lt) hw;unfold pV vv at hv
 show rwE _ _ _ _ _ _ _ _ = 0
 rcases hw with h0 | h7 | h9 | h10
 ·rw [h0,DV];exact hp
 ·rw [if_neg (by omega),if_pos h7,Bool.and_eq_true] at hv
  have hb:=CJ (ltV m R xs j) ⟨#[]⟩ (xs.getD j dx).a;have hl:=o8 h.H.G h.lt h.e (xs.getD j dx).a;have h2:=hb.1.1 hv.1;have h3:=hl.1.1 h2;have ha:=h.ask hv.2;rw [hb.2 h2,hl.2 h3] at ha;rw [h7,yS,(bS _ (aA (stA m lo xs R n j)) _ [] _).1,(bS _ (aA (stA m lo xs R n j)) _ [] _).2.1,Cg];exact or2 h3 (or2 ha hp)
 ·rw [if_neg (by omega),if_neg (by omega),if_pos h9,Bool.and_eq_true] at hv
  have hne:=h.H.l9 j h.lt h9;obtain ⟨b1,b2⟩:=oV (ltV m R xs j) ⟨#[]⟩ hne;have g1:=b1.1 hv.1
  have hmem : (xs.getD j dx).l.getD 0 0 ∈ (xs.getD j dx).l:=by
   cases hl : (xs.getD j dx).l with
   | nil => exact absurd hl hne
   | cons z r => exact List.mem_cons_self
  have h0l:=(o8 h.H.G h.lt h.e ((xs.getD j dx).l.getD 0 0));have h0z:=h0l.1.1 (g1 _ hmem).1
  have hc : ed (stA m lo xs R n j) (xs.getD j dx).l = 0:=qp.2 fun z hz => by
   have hl:=o8 h.H.G h.lt h.e z;have hz0:=hl.1.1 (g1 z hz).1
   exact ⟨hz0,by rw [← hl.2 hz0,← h0l.2 h0z]; exact (g1 z hz).2⟩
  have ha:=h.ask hv.2;dsimp only at ha;rw [b2 hv.1,h0l.2 h0z] at ha;rw [h9,zh,(bS _ (aA (stA m lo xs R n j)) 0 _ _).2.2.1,(bS _ (aA (stA m lo xs R n j)) _ [] _).2.1,Cg];exact or2 hc (or2 ha hp)
 ·rw [if_neg (by omega),if_neg (by omega),if_neg (by omega),Bool.and_eq_true] at hv
  have ha:=h.ask hv.2;rw [h10,wZ,(bS _ (aA (stA m lo xs R n j)) 0 [] _).2.2.2.1,Cg,qa h.ok,pJ];exact or2 ha hp
theorem xY (h : JC m lo xs R n sh j) (h5 : opF xs j = 5) : rwJ m lo xs R n j = 0 ∧ nxJ m lo xs R n sh j:=by
 obtain ⟨nx,hc,_⟩:=mA (h.r j h.lt) (.inl h5);have hl:=(kz hc).1;rw [h.lef,h.sj] at hl;obtain ⟨t,hs,ht,h4,he,_⟩:=tI h.H.G h.lt h5
 have htn : t < n:=by have:=h.lt; omega
 have hOt : isO (opF xs t) = true:=aV.2 (by omega)
 refine ⟨?_,fun _ => ?_⟩
 ·show rwE _ _ _ _ _ _ _ _ = 0
  rw [h5,Bb,(bS _ (aA (stA m lo xs R n j)) 0 [] _).2.2.2.2];exact oU hl
 ·have ho:=vP (h.r t htn) h4;unfold pD at ho
  rw [he,if_pos (by omega),Ck,Int.toNat_natCast,nE hOt (h.s t (by omega)) (h.e t ht),(gh (R:=R) t (Co hOt (h.e t ht))).1] at ho
  rw [ho,tT h5,dQ h.ok hs];rfl
theorem Ah (h : JC m lo xs R n sh j) (h6 : opF xs j = 6) : rwJ m lo xs R n j = 0 ∧ nxJ m lo xs R n sh j:=by
 obtain ⟨nx,hc,hnx,_⟩:=mA (h.r j h.lt) (.inr h6);have hnx:=hnx h6;subst hnx;obtain ⟨hl,hn⟩:=kz hc;have hl2:=hl;rw [h.lef,h.sj] at hl
 have hlef : cU (bA (bG (stA m lo xs R n j) j)) (aA (stA m lo xs R n j)) = 0:=by
  rw [(bS _ (aA (stA m lo xs R n j)) 0 [] _).2.2.2.2];exact oU hl
 rcases bH (opF xs) j with h0 | ⟨t,ht,hOt,h0⟩
 ·refine ⟨?_,fun hj1 => absurd ⟨h6,h0⟩ (h.H.G.2.1 j (by omega)).2⟩
  show rwE _ _ _ _ _ _ _ _ = 0
  rw [h6,Dv];refine or2 hlef ?_;unfold Cl
  rw [gi h.ok h0,if_pos (.inl (show (0 : Int) ≠ 4 by decide))]
 ·refine ⟨?_,fun _ => ?_⟩
  ·show rwE _ _ _ _ _ _ _ _ = 0
   rw [h6,Dv];refine or2 hlef ?_;rw [dQ h.ok h0];unfold Cl
   by_cases h4 : opF xs t = 4
   ·by_cases hel : elF (opF xs) n t = -1
    ·have ho:=vP (h.r t (by have:=h.lt; omega)) h4
     unfold pD at ho
     rw [hel,if_neg (by omega),Bool.and_eq_true,(gh (R:=R) t (Co hOt (h.e t ht))).1] at ho
     rw [if_pos (.inr (.inr ho.1))]
    ·rw [if_pos (.inr (.inl hel))]
   ·rw [if_pos (.inl h4)]
  ·rw [hn (by rw [h0]; show (t : Int) ≠ -1; omega),← hl2,h.sj,qP h6]
theorem yL (h : JC m lo xs R n sh j) (h8 : opF xs j = 8) : rwJ m lo xs R n j = 0 ∧ nxJ m lo xs R n sh j:=by
 have hO : isO (opF xs j) ≠ true:=fun hx => by have:=aV.1 hx; omega
 have hr:=h.r j h.lt;unfold Cn at hr
 rw [if_neg (by omega),if_neg (by omega),if_neg (by omega),if_neg (by omega),if_neg (by omega),if_neg (by omega)] at hr
 unfold goV jF jX at hr;rw [if_neg hO,if_neg hO,if_pos h8,if_pos h8,Bool.and_eq_true] at hr;have hb:=CJ (ltV m R xs j) ⟨#[]⟩ (xs.getD j dx).a;have hl:=o8 h.H.G h.lt h.e (xs.getD j dx).a;have h2:=hb.1.1 hr.1;have h3:=hl.1.1 h2;have ht:=hr.2;rw [hb.2 h2,hl.2 h3] at ht;obtain ⟨a0,a1,a3⟩:=h.tur ht;dsimp only at a0 a1 a3
 refine ⟨?_,fun _ => ?_⟩
 ·show rwE _ _ _ _ _ _ _ _ = 0
  rw [h8,zn,(bS _ (aA (stA m lo xs R n j)) _ [] _).1,(bS _ (aA (stA m lo xs R n j)) _ [] _).2.1,Cg,Cg];exact or2 h3 (or2 a0 (tV h.lv.st h.lv.sz a0))
 ·rw [tR h8,a3];exact ki a1
theorem sG (h : JC m lo xs R n sh j) (ho : fN (opF xs j)) {E : Sg} (hE : efV m lo (bA (bG (stA m lo xs R n j) j)) (aA (stA m lo xs R n j)) (opF xs j) (xs.getD j dx).a = E) (he : efE m lo (bA (bG (stA m lo xs R n j) j)) (aA (stA m lo xs R n j)) (opF xs j) (xs.getD j dx).a = 0) (ht : cT m R xs sh j E = true) : rwJ m lo xs R n j = 0 ∧ nxJ m lo xs R n sh j:=by
 obtain ⟨a0,a1,a3⟩:=h.tur ht;have hl:=Ci h.H.G h.lt ho.2.2.2.2.2.1
 have hsh:=h.shL (j + 1) (by omega)
 rw [a3] at hsh;have hp:=CX hsh.1 hsh.2
 refine ⟨?_,fun _ => ?_⟩
 ·show rwE _ _ _ _ _ _ _ _ = 0
  rw [tD ho,hE];exact or2 he (or2 a0 hp)
 ·rw [xo ho hE,iE hp,a3]
theorem zq {s : Cs} {o : Opn} {p : List UInt8} {t : ByteArray} (hs : Ltr s.st) (hz : s.st.size ≤ 256) (h : aO s o t = 0) : ∃ r,bl (s.st.extract o.B.size s.st.size) = r ++ bl t:=by
 rw [mW hs hz] at h;obtain ⟨r,hr⟩:=h
 exact ⟨r,by rw [iG]; exact hr.symm⟩
theorem yj (h : JC m lo xs R n sh j) (h16 : opF xs j = 16) : rwJ m lo xs R n j = 0 ∧ nxJ m lo xs R n sh j:=by
 have hr:=h.r j h.lt;unfold Cn at hr
 rw [if_neg (by omega),if_neg (by omega),if_neg (by omega),if_neg (by omega),if_pos h16,Bool.or_eq_true] at hr
 have ho : fN (opF xs j):=by unfold fN; omega
 have key : ∀ y : UInt8,cT m R xs sh j (⟨#[y]⟩,⟨#[]⟩) = true → rwJ m lo xs R n j = 0 ∧ nxJ m lo xs R n sh j:=fun y ht => by
  obtain ⟨a0,_,_⟩:=h.tur ht;obtain ⟨r,hX⟩:=zq (p:=[]) h.lv.st h.lv.sz a0
  have hlen : ((stA m lo xs R n j).st.extract (aA (stA m lo xs R n j)).B.size (stA m lo xs R n j).st.size).size = r.length + 1:=by
   rw [← bM,hX]; simp
  refine sG h ho (E:=(⟨#[y]⟩,⟨#[]⟩)) ?_ ?_ ht
  ·rw [h16,vo,(eo _ _ _ _).1];have hlet : cm (stA m lo xs R n j) (aA (stA m lo xs R n j)) 0 = ⟨#[y]⟩:=vZ (X:=(stA m lo xs R n j).st.extract (aA (stA m lo xs R n j)).B.size (stA m lo xs R n j).st.size) (r:=⟨#[]⟩) (p:=r) (y:=y) hX;rw [hlet]
  ·rw [h16,vW,(eo _ _ _ _).2];unfold d7
   rw [hlen,if_pos (by omega)]
 rcases hr with hr | hr
 ·exact key _ hr
 ·exact key _ hr
theorem uw (h : JC m lo xs R n sh j) (h17 : opF xs j = 17) : rwJ m lo xs R n j = 0 ∧ nxJ m lo xs R n sh j:=by
 have hr:=h.r j h.lt;unfold Cn at hr
 rw [if_neg (by omega),if_neg (by omega),if_neg (by omega),if_neg (by omega),if_neg (by omega),if_pos h17,Bool.or_eq_true] at hr
 have ho : fN (opF xs j):=by unfold fN; omega
 have key : ∀ y : UInt8,cT m R xs sh j (⟨#[y,y,119]⟩,⟨#[y]⟩) = true → rwJ m lo xs R n j = 0 ∧ nxJ m lo xs R n sh j:=fun y ht => by
  obtain ⟨a0,_,_⟩:=h.tur ht;obtain ⟨r,hX⟩:=zq (p:=[]) h.lv.st h.lv.sz a0
  have hlen : ((stA m lo xs R n j).st.extract (aA (stA m lo xs R n j)).B.size (stA m lo xs R n j).st.size).size = r.length + 3:=by
   rw [← bM,hX]; simp
  refine sG h ho (E:=(⟨#[y,y,119]⟩,⟨#[y]⟩)) ?_ ?_ ht
  ·rw [h17,wo,(eo _ _ _ _).1]
   have hlet : cm (stA m lo xs R n j) (aA (stA m lo xs R n j)) 1 = ⟨#[y]⟩:=vZ (X:=(stA m lo xs R n j).st.extract (aA (stA m lo xs R n j)).B.size (stA m lo xs R n j).st.size) (r:=⟨#[119]⟩) (p:=r ++ [y]) (y:=y) (by rw [hX,List.append_assoc]; rfl)
   rw [hlet];rfl
  ·rw [h17,xD,(eo _ _ _ _).2];unfold d7
   rw [hlen,if_pos (by omega)]
 rcases hr with hr | hr
 ·exact key _ hr
 ·exact key _ hr
theorem xg (h : JC m lo xs R n sh j) (ho : fN (opF xs j)) (h16 : opF xs j ≠ 16) (h17 : opF xs j ≠ 17) : rwJ m lo xs R n j = 0 ∧ nxJ m lo xs R n sh j:=by
 have hr:=h.r j h.lt;obtain ⟨_,_,_,_,_,_,_,_,_,_⟩:=id ho;unfold Cn at hr
 rw [if_neg (by omega),if_neg (by omega),if_neg (by omega),if_neg (by omega),if_neg h16,if_neg h17] at hr
 have hO : isO (opF xs j) ≠ true:=fun hx => by have:=aV.1 hx; omega
 unfold goV jF jX at hr
 rw [if_neg hO,if_neg hO,if_neg (by omega),if_neg (by omega),Bool.and_eq_true,decide_eq_true_eq] at hr
 obtain ⟨e1,e2⟩:=wJ (m:=m) (lo:=lo) h16 h17 (bA (bG (stA m lo xs R n j) j)) csD (aA (stA m lo xs R n j)) opD (xs.getD j dx).a;exact sG h ho e2 (e1.trans hr.1) hr.2
theorem xX (h : JC m lo xs R n sh j) : erA m lo xs R n j = 0 ∧ nxJ m lo xs R n sh j:=by
 have hd : ¬ ((stA m lo xs R n j).dead = true ∧ opF xs j ≠ 5 ∧ opF xs j ≠ 6):=by
  intro ⟨hd,h5,h6⟩
  cases j with
  | zero => cases hd
  | succ k =>
   have hw:=r9 hd
   have:=(CZ (h.r k (by have:=h.lt; omega)) hw).1
   omega
 have key : rwJ m lo xs R n j = 0 ∧ nxJ m lo xs R n sh j:=by
  by_cases hO : isO (opF xs j) = true
  ·exact DF h hO
  have hn:=gA (by simpa using hO)
  by_cases hw : opF xs j = 0 ∨ opF xs j = 7 ∨ opF xs j = 9 ∨ opF xs j = 10
  ·exact Ar h hw
  by_cases h5 : opF xs j = 5
  ·exact xY h h5
  by_cases h6 : opF xs j = 6
  ·exact Ah h h6
  by_cases h8 : opF xs j = 8
  ·exact yL h h8
  by_cases h16 : opF xs j = 16
  ·exact yj h h16
  by_cases h17 : opF xs j = 17
  ·exact uw h h17
  exact xg h (by unfold fN; omega) h16 h17
 exact ⟨(if_neg hd).trans key.1,key.2⟩
theorem vp (hJ : JH m lo xs R n) (hsh : ∀ i,i < n → Ltr (sh i) ∧ (sh i).size ≤ 256) (h : nW m lo R xs sh n = true) : (∀ i,i < n → erA m lo xs R n i = 0) ∧ ∀ i,i < n → sh i = (stA m lo xs R n i).st:=by
 unfold nW at h;rw [Bool.and_eq_true,Ck] at h
 have hr : ∀ i,i < n → Cn m lo R xs sh n i = true:=fun i hi => List.all_eq_true.1 h.2 i (List.mem_range.2 hi)
 have key : ∀ j,j ≤ n → (∀ i,i < j → erA m lo xs R n i = 0) ∧ (∀ i,i < j → sh i = (stA m lo xs R n i).st) ∧ (j < n → sh j = (stA m lo xs R n j).st):=by
  intro j
  induction j with
  | zero => exact fun _ => ⟨fun i hi => absurd hi (by omega),fun i hi => absurd hi (by omega),fun _ => h.1⟩
  | succ j ih =>
   intro hj
   obtain ⟨h1,h2,h3⟩:=ih (by omega)
   have hjc : JC m lo xs R n sh j:=⟨hJ,hsh,hr,by omega,h1,fun i hi => by
    rcases Nat.lt_or_ge i j with hx | hx
    ·exact h2 i hx
    ·have : i = j:=by omega
     subst this
     exact h3 (by omega)⟩
   obtain ⟨k1,k2⟩:=xX hjc
   refine ⟨fun i hi => ?_,fun i hi => hjc.s i (by omega),k2⟩
   rcases Nat.lt_or_ge i j with hx | hx
   ·exact h1 i hx
   ·have : i = j:=by omega
    subst this;exact k1
 exact ⟨(key n (Nat.le_refl _)).1,(key n (Nat.le_refl _)).2.1⟩
end
end Go.Proofs.YtepnnenohjfkbaaGreatDoor

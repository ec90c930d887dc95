/-
  Texts Jk Jl Jm Jn Kd Jr Jo.
-/
import Derived.Test.YtepnnenohjfkbaaGreatDoorP28
import Derived.Test.YtepnnenohjfkbaaGreatDoorP38
set_option linter.unusedVariables false
set_option maxRecDepth 100000
set_option maxHeartbeats 16000000
namespace Go.Proofs.YtepnnenohjfkbaaGreatDoor
open Go.RowKit
def fI (m : MM) (R : ByteArray) (xs : List Inx) (t : Nat) : ByteArray:=if opF xs t = 4 then (bn m R xs t).1.1 ++ ⟨#[119]⟩ else (bn m R xs t).1.1
def cz (m : MM) (R : ByteArray) (xs : List Inx) (sh : Nat → ByteArray) (o : Int) : ByteArray × Bool :=
 if o = -1 then (⟨#[]⟩,true) else (if ends (sh o.toNat) (fI m R xs o.toNat) = true then below (sh o.toNat) (fI m R xs o.toNat) else sh o.toNat,(bn m R xs o).2 && ends (sh o.toNat) (fI m R xs o.toNat))
section
variable {g : Jg} {w : World}
theorem Cm (h : Jw g w) (hN : g.N ≤ 2048) (hT : g.m.tn ≤ 1000000) (hTS : ∀ a,(aH g.m a).1.size ≤ 8) {i : Nat} (hi : i < g.N) (hc : isO (opF g.xs i) = true) :
  Calls Tryz.prog 213 #[.pointer (some ⟨g.J,0,none⟩),.int .i64 i] w fun e w' => e = .returned (.tuple #[.agg #[.string (fI g.m g.R g.xs i),.string (bn g.m g.R g.xs i).1.1],.bool (bn g.m g.R g.xs i).2]) ∧ Below w.heap.size w w':=by
 have h3:=aV.1 hc;unfold fI
 by_cases h4 : opF g.xs i = 4
 ·rw [if_pos h4];exact lX h hN hT hTS hi h4
 ·rw [if_neg h4]
  exact jR h hN hT hTS hi (by omega)
theorem mJ (h : Jw g w) : Calls Tryz.prog 215 #[.pointer (some ⟨g.J,0,none⟩),.int .i64 (-1)] w fun e w' => e = .returned (.tuple #[.string ⟨#[]⟩,.bool true]) ∧ Below w.heap.size w w':=by
 clear h;generalize g.J = J
 go_enter Tryz.func215,Tryz.ntmps215
 go_wp2_with fail;go_ret2;exact ⟨rfl,Below.refl _ _⟩
theorem ny (h : Jw g w) (hN : g.N ≤ 2048) (hT : g.m.tn ≤ 1000000) (hTS : ∀ a,(aH g.m a).1.size ≤ 8) (hsh : ∀ j,(g.sh j).size ≤ 256) {o : Int} (ho : o = -1 ∨ ∃ t : Nat,o = t ∧ t < g.N ∧ isO (opF g.xs t) = true) :
  Calls Tryz.prog 215 #[.pointer (some ⟨g.J,0,none⟩),.int .i64 o] w fun e w' => e = .returned (.tuple #[.string (cz g.m g.R g.xs g.sh o).1,.bool (cz g.m g.R g.xs g.sh o).2]) ∧ Below w.heap.size w w':=by
 rcases ho with rfl | ⟨t,rfl,ht,hc⟩
 ·exact mJ h
 have e1 : (cz g.m g.R g.xs g.sh (t : Int)) = (if ends (g.sh t) (fI g.m g.R g.xs t) = true then below (g.sh t) (fI g.m g.R g.xs t) else g.sh t,(bn g.m g.R g.xs t).2 && ends (g.sh t) (fI g.m g.R g.xs t)):=by
  unfold cz
  rw [if_neg (by omega)]
  rfl
 rw [e1];have H13:=hid (Cm h hN hT hTS ht hc);have HJ:=hid h;have hs:=hsh t
 have g0 : ((t : Int) == (-1 : Int)) = false:=by simp
 have g1 : (t : Int) < (g.N : Int):=by omega
 have HS:=hid (fun (W : World) (hb : Below w.heap.size w W) => And.intro (h.later hb).s ((h.later hb).shs t ht))
 have HCU:=hid (fun W => xy (g.sh t) (fI g.m g.R g.xs t) W (by omega))
 clear h e1 hc hsh;generalize (if ends (g.sh t) (fI g.m g.R g.xs t) = true then below (g.sh t) (fI g.m g.R g.xs t) else g.sh t) = bs at *;generalize ends (g.sh t) (fI g.m g.R g.xs t) = eb at *;generalize g.sh t = st at *;generalize fI g.m g.R g.xs t = off at *;generalize bn g.m g.R g.xs t = sg at *;obtain ⟨⟨Pa,Re⟩,ok⟩:=sg;dsimp only at *
 go_enter Tryz.func215,Tryz.ntmps215
 go_wp2_with fail;refine H13.out.mono ?_;rintro e w2 ⟨rfl,hb2⟩;have B3:=hb2.trans ((ag w2 (.cells #[.string off,.string Pa] 206)).mono hb2.size);have HB3:=hid B3;obtain ⟨s0,s1⟩:=HS.out _ B3
 have BQ:=hid (fun (q : Nat) => B3.trans ((below_drewN (w2.alloc (.cells #[.string off,.string Pa] 206)) q).mono B3.size))
 clear hb2 B3 H13
 cases ok with
 | true =>
  go_wp2_with fail
  go_quiet ((go_at_call 262; exact Calls.quiet_of_same (HCU.out _)))
  go_wp2_with fail;go_ret2;exact ⟨rfl,BQ.out _⟩
 | false =>
  go_wp2_with fail
  go_quiet ((go_at_call 262; exact Calls.quiet_of_same (HCU.out _)))
  go_wp2_with fail;go_ret2;exact ⟨rfl,BQ.out _⟩
end
def rz (s t : ByteArray) : Bool:=decide (t.size ≤ s.size) && ((s.extract 0 t.size).toList == t.toList)
theorem zK (s p : ByteArray) (w : World) (hs : s.size ≤ 9223372036854775807) : Calls Tryz.prog 282 #[.string s,.string p] w fun e w' => e = .returned (.bool (rz s p)) ∧ w' = w:=by
 go_enter Tryz.func282,Tryz.ntmps282
 go_wp2
 ·have h : p.size ≤ s.size:=by assumption
  go_ret;refine ⟨?_,rfl⟩
  show Ending.returned (Value.bool ((s.extract 0 p.size).toList == p.toList)) = _
  simp [h,rz]
 ·have h : ¬ p.size ≤ s.size:=by assumption
  go_ret;refine ⟨?_,rfl⟩
  show Ending.returned (Value.bool false) = _
  simp [h,rz]
theorem Af (s p : ByteArray) (w : World) (hs : s.size ≤ 9223372036854775807) : Calls Tryz.prog 264 #[.string s,.string p] w fun e w' => e = .returned (.bool (rz s p)) ∧ w' = w:=by
 have HE:=hid (zK s p w hs)
 go_enter Tryz.func264,Tryz.ntmps264
 go_wp2_with fail;refine HE.out.mono ?_;rintro e w1 ⟨rfl,rfl⟩;go_wp2;go_ret;exact ⟨rfl,rfl⟩
def isV (m : MM) (R : ByteArray) (xs : List Inx) (sh : Nat → ByteArray) (i : Nat) (t : ByteArray) : ByteArray × Bool :=
 (if ends (sh i) t = true then below (sh i) t else sh i,(cz m R xs sh (top (stk (opF xs) i))).2 && ends (sh i) t && rz (if ends (sh i) t = true then below (sh i) t else sh i) (cz m R xs sh (top (stk (opF xs) i))).1)
section
variable {g : Jg} {w : World}
theorem vr (O : Nat → Int) (i : Nat) : top (stk O i) = -1 ∨ ∃ t : Nat,top (stk O i) = t ∧ t < i ∧ isO (O t) = true:=by
 rcases bH O i with h | ⟨t,h1,h2,h3⟩
 ·rw [h]; exact .inl rfl
 ·rw [h3]; exact .inr ⟨t,rfl,h1,h2⟩
theorem s9 (h : Jw g w) (hN : g.N ≤ 2048) (hT : g.m.tn ≤ 1000000) (hTS : ∀ a,(aH g.m a).1.size ≤ 8) (hsh : ∀ j,(g.sh j).size ≤ 256) {i : Nat} (hi : i < g.N) (t : ByteArray) :
  Calls Tryz.prog 217 #[.pointer (some ⟨g.J,0,none⟩),.int .i64 i,.string t] w fun e w' => e = .returned (.tuple #[.string (isV g.m g.R g.xs g.sh i t).1,.bool (isV g.m g.R g.xs g.sh i t).2]) ∧ Below w.heap.size w w':=by
 unfold isV;have o0:=h.ow
 have o1 : w.cell? ⟨g.OW,i,none⟩ = some (.int .i64 (top (stk (opF g.xs) i))):=by
  rw [h.owc.cell i hi];unfold owF;rw [if_pos hi]
 have H15:=hid (ny h hN hT hTS hsh (o:=top (stk (opF g.xs) i)) ((vr (opF g.xs) i).imp id fun ⟨t,h1,h2,h3⟩ => ⟨t,h1,by omega,h3⟩))
 have HS:=hid (fun (W : World) (hb : Below w.heap.size w W) => And.intro (h.later hb).s ((h.later hb).shs i hi))
 have hs:=hsh i
 have HCU:=hid (fun W => xy (g.sh i) t W (by omega))
 have hbs : (if ends (g.sh i) t = true then below (g.sh i) t else g.sh i).size ≤ 256:=by
  split
  ·unfold below;rw [ByteArray.size_extract];omega
  ·exact hs
 have hi2 : (i : Int) < (g.N : Int):=by omega
 have HPR:=hid (fun b W => Af (if ends (g.sh i) t = true then below (g.sh i) t else g.sh i) b W (by omega))
 clear h hsh;generalize top (stk (opF g.xs) i) = o at *;generalize cz g.m g.R g.xs g.sh o = bv at *;obtain ⟨ba,bf⟩:=bv;dsimp only at *;generalize (if ends (g.sh i) t = true then below (g.sh i) t else g.sh i) = bs at *;generalize ends (g.sh i) t = eb at *;generalize g.sh i = si at *
 go_enter Tryz.func217,Tryz.ntmps217
 go_wp2_with fail;refine H15.out.mono ?_;rintro e w2 ⟨rfl,hb2⟩;obtain ⟨s0,s1⟩:=HS.out _ hb2;have HB2:=hid hb2;clear hb2 H15 o0 o1;go_wp2_with fail;refine (HCU.out _).mono ?_;rintro e w3 ⟨rfl,hw3⟩;have hw3:=hw3.symm;subst hw3;clear s0 s1
 cases bf with
 | false =>
  go_wp2_with fail;go_ret2;exact ⟨rfl,HB2.out⟩
 | true =>
  cases eb with
  | false =>
   go_wp2_with fail;go_ret2;exact ⟨rfl,HB2.out⟩
  | true =>
   go_wp2_with fail;refine (HPR.out _ _).mono ?_;rintro e w3 ⟨rfl,hw3⟩;have hw3:=hw3.symm;subst hw3;go_wp2_with fail;go_ret2;exact ⟨rfl,HB2.out⟩
end
def cT (m : MM) (R : ByteArray) (xs : List Inx) (sh : Nat → ByteArray) (i : Nat) (x : Sg) : Bool :=
 (isV m R xs sh i x.1).2 && ((sh (i + 1)).toList == ((isV m R xs sh i x.1).1 ++ x.2).toList)
section
variable {g : Jg} {w : World}
theorem vk (m : MM) (R : ByteArray) (xs : List Inx) {sh : Nat → ByteArray} (hsh : ∀ j,(sh j).size ≤ 256) (i : Nat) (t : ByteArray) : (isV m R xs sh i t).1.size ≤ 256:=by
 have:=hsh i
 unfold isV;dsimp only
 split
 ·unfold below;rw [ByteArray.size_extract];omega
 ·exact this
theorem lJ (h : Jw g w) (hN : g.N ≤ 2048) (hT : g.m.tn ≤ 1000000) (hTS : ∀ a,(aH g.m a).1.size ≤ 8) (hsh : ∀ j,(g.sh j).size ≤ 256) {i : Nat} (hi : i + 1 < g.N) {off on : ByteArray} (hon : on.size ≤ 1000) :
  Calls Tryz.prog 152 #[.pointer (some ⟨g.J,0,none⟩),.int .i64 i,.agg #[.string off,.string on]] w fun e w' => e = .returned (.bool (cT g.m g.R g.xs g.sh i (off,on))) ∧ Below w.heap.size w w':=by
 unfold cT;dsimp only;have B0:=ag w (.cells #[.string off,.string on] 206);have b0:=heap_alloc_new w (.cells #[.string off,.string on] 206);have h0:=h.later B0
 have H17:=hid (s9 h0 hN hT hTS hsh (show i < g.N by omega) off)
 have hbs:=vk g.m g.R g.xs hsh i off
 have H93:=hid (fun (W : World) (hb : Below w.heap.size w W) (pb : Nat) (s : ByteArray) (q0 : W.cell? ⟨pb,0,none⟩ = some (.int .i64 ((i + 1 : Nat) : Int))) (q1 : W.cell? ⟨pb,1,none⟩ = some (.string s)) => ni (h.later hb) hN (pb:=pb) (poff:=0) (n:=1) (cap:=1) (l:=[(i + 1,s)]) rfl (by omega) (fun j p hj => by
  have hj0 : j = 0:=by have:=au hj; simp at this; omega
  subst hj0
  simp at hj
  subst hj;exact ⟨q0,q1,hi⟩))
 have HB0:=hid B0;have Hb0:=hid b0;clear h h0 B0 b0 hsh
 have he : ∀ s : ByteArray,di g.sh [(i + 1,s)] = ((g.sh (i + 1)).toList == s.toList):=fun s => by simp [di]
 generalize isV g.m g.R g.xs g.sh i off = iv at *;obtain ⟨bs,fd⟩:=iv;dsimp only at *;have HE:=hid (he (bs ++ on));clear he
 go_enter Tryz.func152,Tryz.ntmps152
 go_wp2_with fail;refine H17.out.mono ?_;rintro e w2 ⟨rfl,hb2⟩;have HB2:=hid (HB0.out.trans (hb2.mono HB0.out.size));have y1 : w2.cell? ⟨w.heap.size,1,none⟩ = some (.string on):=ai (aj hb2 Hb0.out);clear hb2 H17
 cases fd with
 | false =>
  go_wp2_with fail;go_ret;exact ⟨rfl,HB2.out⟩
 | true =>
  go_wp2_with fail;have B3:=HB2.out.trans ((ag w2 (.cells #[.int .i64 ((i : Int) + 1),.string (bs ++ on)] 150)).mono HB2.out.size);have b3:=heap_alloc_new w2 (.cells #[.int .i64 ((i : Int) + 1),.string (bs ++ on)] 150);refine (H93.out _ B3 w2.heap.size (bs ++ on) (ai b3) (ai b3)).mono ?_;rintro e w3 ⟨rfl,hb3⟩;have HB3:=hid (B3.trans (hb3.mono B3.size));rw [HE.out];clear B3 b3 hb3;go_wp2_with fail;go_ret;exact ⟨rfl,HB3.out⟩
theorem qX : ((List.range 256).all fun k => (((wdV (k : Int)).toList == [101,108,115,101]) == decide (k = 5)) && (((wdV (k : Int)).toList == [101,110,100]) == decide (k = 6))) = true:=by kernel_rfl
theorem pM {c : Int} (h0 : 0 ≤ c) (h1 : c ≤ 255) : ((wdV c).toList == [101,108,115,101]) = decide (c = 5) ∧ ((wdV c).toList == [101,110,100]) = decide (c = 6):=by
 have h:=List.all_eq_true.1 qX c.toNat (by rw [List.mem_range]; omega)
 rw [show ((c.toNat : Nat) : Int) = c by omega,Bool.and_eq_true,beq_iff_eq,beq_iff_eq] at h
 refine ⟨h.1.trans ?_,h.2.trans ?_⟩
 ·exact decide_eq_decide.2 (by omega)
 ·exact decide_eq_decide.2 (by omega)
theorem ug (h : Jw g w) (hN : g.N ≤ 2048) {i : Nat} (hi : i < g.N) :
  Calls Tryz.prog 148 #[.pointer (some ⟨g.J,0,none⟩),.int .i64 i] w fun e w' => e = .returned (.bool (decide (opF g.xs i = 5) || decide (opF g.xs i = 6))) ∧ w' = w:=by
 have j0:=h.rw;have j1:=(h.at_ hi).2.2.2;have hcr:=h.cod.range hi;obtain ⟨q1,q2⟩:=pM hcr.1 hcr.2
 have hi2 : (i : Int) < (g.N : Int):=by omega
 rw [← q1,← q2];clear h hcr q1 q2;generalize wdV (opF g.xs i) = wd at *
 cases h5 : (wd.toList == [101,108,115,101]) with
 | true =>
  go_enter Tryz.func148,Tryz.ntmps148
  go_wp2_with fail;go_ret;exact ⟨rfl,rfl⟩
 | false =>
  go_enter Tryz.func148,Tryz.ntmps148
  go_wp2_with fail;go_ret;exact ⟨rfl,rfl⟩
end
def jS (m : MM) (R : ByteArray) (xs : List Inx) (sh : Nat → ByteArray) (o : Int) : ByteArray:=(cz m R xs sh o).1 ++ (bn m R xs o).1.2
def lM (m : MM) (R : ByteArray) (xs : List Inx) (sh : Nat → ByteArray) (i nx : Nat) : Bool :=
 if top (stk (opF xs) i) = -1 then di sh [(i,jS m R xs sh (-1))] else (cz m R xs sh (top (stk (opF xs) i))).2 && di sh [(i,jS m R xs sh (top (stk (opF xs) i))),(nx,jS m R xs sh (top (stk (opF xs) i)))]
section
variable {g : Jg} {w : World}
theorem lK (m : MM) (R : ByteArray) (xs : List Inx) {sh : Nat → ByteArray} (hsh : ∀ j,(sh j).size ≤ 256) (o : Int) : (cz m R xs sh o).1.size ≤ 256:=by
 have:=hsh o.toNat
 unfold cz
 split
 ·exact Nat.zero_le _
 ·dsimp only
  split
  ·unfold below;rw [ByteArray.size_extract];omega
  ·exact this
theorem kK {m : MM} (hTS : ∀ a,(aH m a).2.size ≤ 8) {R : ByteArray} (hR : R.size ≤ 8) (xs : List Inx) (o : Int) : (bn m R xs o).1.2.size ≤ 8:=by
 unfold bn
 split
 ·exact hR
 ·split
  ·exact hTS _
  ·exact Nat.zero_le _
theorem ml (h : Jw g w) (hN : g.N ≤ 2048) (hT : g.m.tn ≤ 1000000) (hTS : ∀ a,(aH g.m a).1.size ≤ 8 ∧ (aH g.m a).2.size ≤ 8) (hR : g.R.size ≤ 8) (hsh : ∀ j,(g.sh j).size ≤ 256) {i nx : Nat} (hi : i < g.N) (hnx : top (stk (opF g.xs) i) ≠ -1 → nx < g.N) (hnx2 : nx ≤ 1000000) :
  Calls Tryz.prog 147 #[.pointer (some ⟨g.J,0,none⟩),.int .i64 i,.int .i64 nx] w fun e w' => e = .returned (.bool (lM g.m g.R g.xs g.sh i nx)) ∧ Below w.heap.size w w':=by
 unfold lM jS;have o0:=h.ow
 have o1 : w.cell? ⟨g.OW,i,none⟩ = some (.int .i64 (top (stk (opF g.xs) i))):=by
  rw [h.owc.cell i hi];unfold owF;rw [if_pos hi]
 have hok:=vr (opF g.xs) i
 have H14:=hid (lg h hN hT (o:=top (stk (opF g.xs) i)) (hok.imp id fun ⟨t,h1,h2,h3⟩ => ⟨t,h1,by omega⟩))
 have H15:=hid (fun (W : World) (hb : Below w.heap.size w W) => ny (h.later hb) hN hT (fun a => (hTS a).1) hsh (o:=top (stk (opF g.xs) i)) (hok.imp id fun ⟨t,h1,h2,h3⟩ => ⟨t,h1,by omega,h3⟩))
 have H93:=hid (fun (W : World) (hb : Below w.heap.size w W) (pb n cap : Nat) (l : List (Nat × ByteArray)) (hl : l.length = n) (hn : n ≤ 1000000) (hc : ∀ (j : Nat) p,l[j]? = some p → W.cell? ⟨pb,0 + j * 2,none⟩ = some (.int .i64 (p.1 : Nat)) ∧ W.cell? ⟨pb,0 + j * 2 + 1,none⟩ = some (.string p.2) ∧ p.1 < g.N) => ni (h.later hb) hN (pb:=pb) (poff:=0) (cap:=cap) hl hn hc)
 have hb1:=lK g.m g.R g.xs hsh (top (stk (opF g.xs) i))
 have hs1:=kK (fun a => (hTS a).2) hR g.xs (top (stk (opF g.xs) i))
 have hi2 : (i : Int) < (g.N : Int):=by omega
 clear h
 rcases hok with ho | ⟨t,ho,_⟩
 ·rw [if_pos ho];generalize top (stk (opF g.xs) i) = o at *;subst ho;generalize bn g.m g.R g.xs (-1) = sg at *;generalize cz g.m g.R g.xs g.sh (-1) = bv at *;obtain ⟨⟨Pa,Re⟩,ok⟩:=sg;obtain ⟨ba,bf⟩:=bv;dsimp only at *;clear hnx
  go_enter Tryz.func147,Tryz.ntmps147
  go_wp2_with fail;refine H14.out.mono ?_;rintro e w2 ⟨rfl,hb2⟩;have B3:=hb2.trans ((ag w2 (.cells #[.string Pa,.string Re] 62)).mono hb2.size);have b3:=heap_alloc_new w2 (.cells #[.string Pa,.string Re] 62);have HB3:=hid B3;have Hb3:=hid b3;clear o0 o1 hb2 B3 b3 H14;go_wp2_with fail;refine (H15.out _ HB3.out).mono ?_;rintro e w4 ⟨rfl,hb4⟩;have y1 : w4.cell? ⟨w2.heap.size,1,none⟩ = some (.string Re):=ai (aj hb4 Hb3.out);have HB4:=hid (HB3.out.trans (hb4.mono HB3.out.size));clear hb4 H15;go_wp2_with fail;have B5:=HB4.out.trans ((ag w4 (.cells #[.int .i64 (i : Int),.string (ba ++ Re)] 150)).mono HB4.out.size);have b5:=heap_alloc_new w4 (.cells #[.int .i64 (i : Int),.string (ba ++ Re)] 150)
  refine (H93.out _ B5 w4.heap.size 1 1 [(i,ba ++ Re)] rfl (by omega) (fun j p hj => by
   have hj0 : j = 0:=by have:=au hj; simp at this; omega
   subst hj0
   simp at hj
   subst hj;exact ⟨ai b5,ai b5,hi⟩)).mono ?_
  rintro e w6 ⟨rfl,hb6⟩;have HB6:=hid (B5.trans (hb6.mono B5.size));clear B5 b5 hb6;go_wp2_with fail;go_ret;exact ⟨rfl,HB6.out⟩
 ·rw [if_neg (by omega)]
  have hnN:=hnx (by omega)
  generalize top (stk (opF g.xs) i) = o at *;subst ho
  have g0 : ((t : Int) == (-1 : Int)) = false:=by simp
  generalize bn g.m g.R g.xs t = sg at *;generalize cz g.m g.R g.xs g.sh t = bv at *;obtain ⟨⟨Pa,Re⟩,ok⟩:=sg;obtain ⟨ba,bf⟩:=bv;dsimp only at *;clear hnx
  go_enter Tryz.func147,Tryz.ntmps147
  go_wp2_with fail;refine H14.out.mono ?_;rintro e w2 ⟨rfl,hb2⟩;have B3:=hb2.trans ((ag w2 (.cells #[.string Pa,.string Re] 62)).mono hb2.size);have b3:=heap_alloc_new w2 (.cells #[.string Pa,.string Re] 62);have HB3:=hid B3;have Hb3:=hid b3;clear o0 o1 hb2 B3 b3 H14;go_wp2_with fail;refine (H15.out _ HB3.out).mono ?_;rintro e w4 ⟨rfl,hb4⟩;have y1 : w4.cell? ⟨w2.heap.size,1,none⟩ = some (.string Re):=ai (aj hb4 Hb3.out);have HB4:=hid (HB3.out.trans (hb4.mono HB3.out.size));clear hb4 H15
  cases bf with
  | false =>
   go_wp2_with fail;go_ret;exact ⟨rfl,HB4.out⟩
  | true =>
   go_wp2_with fail;have B5:=HB4.out.trans ((ag w4 (.cells #[.int .i64 (i : Int),.string (ba ++ Re),.int .i64 (nx : Int),.string (ba ++ Re)] 150)).mono HB4.out.size);have b5:=heap_alloc_new w4 (.cells #[.int .i64 (i : Int),.string (ba ++ Re),.int .i64 (nx : Int),.string (ba ++ Re)] 150)
   refine (H93.out _ B5 w4.heap.size 2 2 [(i,ba ++ Re),(nx,ba ++ Re)] rfl (by omega) (fun j p hj => by
    have hj0 : j = 0 ∨ j = 1:=by have:=au hj; simp at this; omega
    rcases hj0 with rfl | rfl
    ·simp at hj
     subst hj;exact ⟨ai b5,ai b5,hi⟩
    ·simp at hj
     subst hj;exact ⟨ai b5,ai b5,hnN⟩)).mono ?_
   rintro e w6 ⟨rfl,hb6⟩;have HB6:=hid (B5.trans (hb6.mono B5.size));clear B5 b5 hb6;go_wp2_with fail;go_ret;exact ⟨rfl,HB6.out⟩
end
def csD : Cs:=⟨[],⟨#[]⟩,0,false,[],fun _ => 0,0⟩
def opD : Opn:=⟨⟨#[]⟩,⟨#[]⟩,⟨#[]⟩,0,0⟩
def jF (m : MM) (lo : List Int) (R : ByteArray) (xs : List Inx) (i : Nat) : Bool :=
 if isO (opF xs i) = true then (bn m R xs i).2
 else if opF xs i = 8 then (aY (ltV m R xs i) false ⟨#[]⟩ [(xs.getD i dx).a]).2
 else decide (efE m lo csD opD (opF xs i) (xs.getD i dx).a = 0)
def jX (m : MM) (lo : List Int) (R : ByteArray) (xs : List Inx) (i : Nat) : Sg :=
 if isO (opF xs i) = true then (fI m R xs i,(bn m R xs i).1.1)
 else if opF xs i = 8 then ((aY (ltV m R xs i) false ⟨#[]⟩ [(xs.getD i dx).a]).1 ++ ⟨#[119]⟩,(aY (ltV m R xs i) false ⟨#[]⟩ [(xs.getD i dx).a]).1)
 else efV m lo csD opD (opF xs i) (xs.getD i dx).a
def goV (m : MM) (lo : List Int) (R : ByteArray) (xs : List Inx) (sh : Nat → ByteArray) (i : Nat) : Bool:=jF m lo R xs i && cT m R xs sh i (jX m lo R xs i)
def pD (m : MM) (R : ByteArray) (xs : List Inx) (sh : Nat → ByteArray) (n i : Nat) : Bool :=
 if 0 ≤ elF (opF xs) n i then di sh [((elF (opF xs) n i).toNat + 1,(cz m R xs sh i).1 ++ (bn m R xs i).1.1)]
 else ((bn m R xs i).1.1.toList == (bn m R xs i).1.2.toList) && di sh [((enF (opF xs) n i).toNat,(cz m R xs sh i).1 ++ (bn m R xs i).1.2)]
def vv (m : MM) (R : ByteArray) (xs : List Inx) (i : Nat) : ByteArray × Bool :=
 if opF xs i = 7 then aY (ltV m R xs i) false ⟨#[]⟩ [(xs.getD i dx).a]
 else if opF xs i = 9 then ((aY (ltV m R xs i) false ⟨#[]⟩ (xs.getD i dx).l).1 ++ ⟨#[119]⟩,(aY (ltV m R xs i) false ⟨#[]⟩ (xs.getD i dx).l).2)
 else (R,true)
def pV (m : MM) (R : ByteArray) (xs : List Inx) (sh : Nat → ByteArray) (i : Nat) : Bool :=
 if opF xs i = 0 then true else (vv m R xs i).2 && (isV m R xs sh i (vv m R xs i).1).2
def Cn (m : MM) (lo : List Int) (R : ByteArray) (xs : List Inx) (sh : Nat → ByteArray) (n i : Nat) : Bool :=
 if opF xs i = 4 then goV m lo R xs sh i && pD m R xs sh n i
 else if opF xs i = 5 then lM m R xs sh i (enF (opF xs) n i).toNat
 else if opF xs i = 6 then lM m R xs sh i (i + 1)
 else if opF xs i = 0 ∨ opF xs i = 7 ∨ opF xs i = 9 ∨ opF xs i = 10 then (decide (opF xs (i + 1) = 5) || decide (opF xs (i + 1) = 6)) && pV m R xs sh i
 else if opF xs i = 16 then cT m R xs sh i (⟨#[119]⟩,⟨#[]⟩) || cT m R xs sh i (⟨#[108]⟩,⟨#[]⟩)
 else if opF xs i = 17 then cT m R xs sh i (⟨#[119,119,119]⟩,⟨#[119]⟩) || cT m R xs sh i (⟨#[108,108,119]⟩,⟨#[108]⟩)
 else goV m lo R xs sh i
def nW (m : MM) (lo : List Int) (R : ByteArray) (xs : List Inx) (sh : Nat → ByteArray) (n : Nat) : Bool :=
 di sh [(0,⟨#[]⟩)] && (List.range n).all (Cn m lo R xs sh n)
abbrev otS (X J EN i : Nat) (P R : ByteArray) (ev : Value) (e : Int) (w W : World) : Prop :=
 W.cell? ⟨X,0,none⟩ = some (.string P) ∧ W.cell? ⟨X,1,none⟩ = some (.string R) ∧ W.cell? ⟨J,12,none⟩ = some ev ∧ W.cell? ⟨EN,i,none⟩ = some (.int .i64 e) ∧ Below w.heap.size w W
theorem otS.later {X J EN i : Nat} {P R : ByteArray} {ev : Value} {e : Int} {w W W' : World} (h : otS X J EN i P R ev e w W) (hb : Below W.heap.size W W') : otS X J EN i P R ev e w W' :=
 ⟨ae hb h.1,ae hb h.2.1,ae hb h.2.2.1,ae hb h.2.2.2.1,h.2.2.2.2.trans (hb.mono h.2.2.2.2.size)⟩
section
variable {g : Jg} {w : World}
theorem uq (h : Jw g w) (hN : g.N ≤ 2048) (hT : g.m.tn ≤ 1000000) (hTS : ∀ a,(aH g.m a).1.size ≤ 8) (hsh : ∀ j,(g.sh j).size ≤ 256) {i : Nat} (hi : i + 1 < g.N) {P Q : ByteArray} {fd : Bool} (hQ : Q.size ≤ 1000)
  (HC : Hid (Calls Tryz.prog 213 #[.pointer (some ⟨g.J,0,none⟩),.int .i64 i] w fun e w' => e = .returned (.tuple #[.agg #[.string P,.string Q],.bool fd]) ∧ Below w.heap.size w w')) :
  Calls Tryz.prog 145 #[.pointer (some ⟨g.J,0,none⟩),.int .i64 i] w fun e w' => e = .returned (.bool (fd && cT g.m g.R g.xs g.sh i (P,Q))) ∧ Below w.heap.size w w':=by
 have HT:=hid (fun (W : World) (hb : Below w.heap.size w W) => lJ (h.later hb) hN hT hTS hsh hi (off:=P) (on:=Q) hQ)
 clear h;generalize cT g.m g.R g.xs g.sh i (P,Q) = tv at *
 go_enter Tryz.func145,Tryz.ntmps145
 go_wp2_with fail;refine HC.out.mono ?_;rintro e w2 ⟨rfl,hb2⟩;have B3:=hb2.trans ((ag w2 (.cells #[.string P,.string Q] 206)).mono hb2.size);have HB3:=hid B3;clear hb2 B3 HC
 cases fd with
 | false =>
  go_wp2_with fail;go_ret;exact ⟨rfl,HB3.out⟩
 | true =>
  go_wp2_with fail;refine (HT.out _ HB3.out).mono ?_;rintro e w4 ⟨rfl,hb4⟩;have HB4:=hid (HB3.out.trans (hb4.mono HB3.out.size));clear hb4;go_wp2_with fail;go_ret;exact ⟨rfl,HB4.out⟩
theorem nH (h : Jw g w) (hN : g.N ≤ 2048) (hT : g.m.tn ≤ 1000000) (hTS : ∀ a,(aH g.m a).1.size ≤ 8 ∧ (aH g.m a).2.size ≤ 8) (hR : g.R.size ≤ 8) (hsh : ∀ j,(g.sh j).size ≤ 256) {i : Nat} (hi : i < g.N) (hc : isO (opF g.xs i) = true)
  (hel : elF (opF g.xs) g.N i = -1 ∨ ∃ q : Nat,elF (opF g.xs) g.N i = q ∧ q + 1 < g.N) (hen : ∃ q : Nat,enF (opF g.xs) g.N i = q ∧ q < g.N) :
  Calls Tryz.prog 146 #[.pointer (some ⟨g.J,0,none⟩),.int .i64 i] w fun e w' => e = .returned (.bool (pD g.m g.R g.xs g.sh g.N i)) ∧ Below w.heap.size w w':=by
 unfold pD;have HJ:=hid h;have H14:=hid (lg h hN hT (o:=(i : Int)) (.inr ⟨i,rfl,hi⟩))
 have H15:=hid (fun (W : World) (hb : Below w.heap.size w W) => ny (h.later hb) hN hT (fun a => (hTS a).1) hsh (o:=(i : Int)) (.inr ⟨i,rfl,hi,hc⟩))
 have H93:=hid (fun (W : World) (hb : Below w.heap.size w W) (pb q : Nat) (s : ByteArray) (hq : q < g.N) (q0 : W.cell? ⟨pb,0,none⟩ = some (.int .i64 (q : Nat))) (q1 : W.cell? ⟨pb,1,none⟩ = some (.string s)) => ni (h.later hb) hN (pb:=pb) (poff:=0) (n:=1) (cap:=1) (l:=[(q,s)]) rfl (by omega) (fun j p hj => by
  have hj0 : j = 0:=by have:=au hj; simp at this; omega
  subst hj0
  simp at hj
  subst hj;exact ⟨q0,q1,hq⟩))
 have hb1:=lK g.m g.R g.xs hsh (i : Int)
 have hs1:=gp (fun a => (hTS a).1) g.R g.xs (i : Int)
 have hs2:=kK (fun a => (hTS a).2) hR g.xs (i : Int)
 have hi2 : (i : Int) < (g.N : Int):=by omega
 have HEL:=hid (fun (W : World) (hb : Below w.heap.size w W) => And.intro (h.later hb).el ((h.later hb).elc.cell i hi))
 have HEN:=hid (fun (W : World) (hb : Below w.heap.size w W) => And.intro (h.later hb).en ((h.later hb).enc.cell i hi))
 obtain ⟨qe,hqe,hqN⟩:=hen;rw [hqe] at HEN ⊢;clear h HJ hqe;generalize bn g.m g.R g.xs (i : Int) = sg at *;generalize cz g.m g.R g.xs g.sh (i : Int) = bv at *;obtain ⟨⟨Pa,Re⟩,ok⟩:=sg;obtain ⟨ba,bf⟩:=bv;dsimp only at *;rw [Int.toNat_natCast]
 have s1 : ¬ 9223372036854775807 < ba.size + Pa.size:=by omega
 have s2 : ¬ 9223372036854775807 < ba.size + Re.size:=by omega
 rcases hel with hel | ⟨q,hel,hq1⟩
 ·rw [hel] at HEL ⊢
  rw [if_neg (by omega)]
  clear hel s1
  cases hpr : (Pa.toList == Re.toList) with
  | false =>
   go_enter Tryz.func146,Tryz.ntmps146
   go_wp2_with fail;refine H14.out.mono ?_;rintro e w2 ⟨rfl,hb2⟩;have B3:=hb2.trans ((ag w2 (.cells #[.string Pa,.string Re] 62)).mono hb2.size);have b3:=heap_alloc_new w2 (.cells #[.string Pa,.string Re] 62);have HB3:=hid B3;have Hb3:=hid b3;clear hb2 B3 b3 H14;go_wp2_with fail;refine (H15.out _ HB3.out).mono ?_;rintro e w4 ⟨rfl,hb4⟩;have y0 : w4.cell? ⟨w2.heap.size,0,none⟩ = some (.string Pa):=ai (aj hb4 Hb3.out);have y1 : w4.cell? ⟨w2.heap.size,1,none⟩ = some (.string Re):=ai (aj hb4 Hb3.out);have HB4:=hid (HB3.out.trans (hb4.mono HB3.out.size));obtain ⟨l0,l1⟩:=HEL.out _ HB4.out;clear hb4 H15
   have BQ:=hid (fun (q : Nat) => HB4.out.trans ((below_drewN w4 q).mono HB4.out.size))
   go_wp2_with fail
   go_quiet (fail)
   go_wp2_with fail;go_ret
   exact ⟨by rw [Bool.false_and]; rfl,BQ.out _⟩
  | true =>
   go_enter Tryz.func146,Tryz.ntmps146
   go_wp2_with fail;refine H14.out.mono ?_;rintro e w2 ⟨rfl,hb2⟩;have B3:=hb2.trans ((ag w2 (.cells #[.string Pa,.string Re] 62)).mono hb2.size);have b3:=heap_alloc_new w2 (.cells #[.string Pa,.string Re] 62);have HB3:=hid B3;have Hb3:=hid b3;clear hb2 B3 b3 H14;go_wp2_with fail;refine (H15.out _ HB3.out).mono ?_;rintro e w4 ⟨rfl,hb4⟩;have y0 : w4.cell? ⟨w2.heap.size,0,none⟩ = some (.string Pa):=ai (aj hb4 Hb3.out);have y1 : w4.cell? ⟨w2.heap.size,1,none⟩ = some (.string Re):=ai (aj hb4 Hb3.out);have HB4:=hid (HB3.out.trans (hb4.mono HB3.out.size));obtain ⟨l0,l1⟩:=HEL.out _ HB4.out;obtain ⟨n0,n1⟩:=HEN.out _ HB4.out;clear hb4 H15;go_wp2_with fail;generalize w2.heap.size = X at *;have hSS : otS X g.J g.EN i Pa Re (.slice (some ⟨g.EN,0,none⟩) g.N g.N) qe w w4:=⟨y0,y1,n0,n1,HB4.out⟩;have hSD : otS X g.J g.EN i Pa Re (.slice (some ⟨g.EN,0,none⟩) g.N g.N) qe w w4.drew:=⟨y0,y1,n0,n1,HB4.out.drew⟩;have b5 : (w4.alloc (.cells #[.int .i64 (qe : Int),.string (ba ++ Re)] 150)).drew.heap[w4.heap.size]? = some (.cells #[.int .i64 (qe : Int),.string (ba ++ Re)] 150):=heap_alloc_new w4 _
   go_region_held3 (otS X g.J g.EN i Pa Re (.slice (some ⟨g.EN,0,none⟩) g.N g.N) qe w)
    (first | assumption | exact otS.later (by assumption) (ag _ _) | exact otS.later (by assumption) (ag _ _).drew)
    (first
     | (go_at_call 93; refine (H93.out _ (And.right (And.right (And.right (And.right (by assumption))))) w4.heap.size qe (ba ++ Re) hqN (ai b5) (ai b5)).mono ?_; rintro e w' ⟨rfl,hbx⟩; have hS':=otS.later (by assumption) hbx; clear hbx))
   go_wp2_with fail;go_ret
   exact ⟨by rw [Bool.true_and]; rfl,hS'.2.2.2.2⟩
 ·rw [hel] at HEL ⊢
  rw [if_pos (by omega),Int.toNat_natCast]
  have d0 : decide ((0 : Int) ≤ (q : Int)) = true:=by simp
  clear hel s2
  go_enter Tryz.func146,Tryz.ntmps146
  go_wp2_with fail;refine H14.out.mono ?_;rintro e w2 ⟨rfl,hb2⟩;have B3:=hb2.trans ((ag w2 (.cells #[.string Pa,.string Re] 62)).mono hb2.size);have b3:=heap_alloc_new w2 (.cells #[.string Pa,.string Re] 62);have HB3:=hid B3;have Hb3:=hid b3;clear hb2 B3 b3 H14;go_wp2_with fail;refine (H15.out _ HB3.out).mono ?_;rintro e w4 ⟨rfl,hb4⟩;have y0 : w4.cell? ⟨w2.heap.size,0,none⟩ = some (.string Pa):=ai (aj hb4 Hb3.out);have HB4:=hid (HB3.out.trans (hb4.mono HB3.out.size));obtain ⟨l0,l1⟩:=HEL.out _ HB4.out;clear hb4 H15;go_wp2_with fail;have B5:=HB4.out.trans ((ag w4 (.cells #[.int .i64 ((q : Int) + 1),.string (ba ++ Pa)] 150)).mono HB4.out.size);have b5:=heap_alloc_new w4 (.cells #[.int .i64 ((q : Int) + 1),.string (ba ++ Pa)] 150);refine (H93.out _ B5 w4.heap.size (q + 1) (ba ++ Pa) hq1 (ai b5) (ai b5)).mono ?_;rintro e w6 ⟨rfl,hb6⟩;have HB6:=hid (B5.trans (hb6.mono B5.size));clear B5 b5 hb6;go_wp2_with fail;go_ret;exact ⟨rfl,HB6.out⟩
end
theorem dN {w : World} {HB : Nat} {hv b : Bool} (hc : w.heap[HB]? = some (.cells #[.bool hv] 4)) : Calls Tryz.prog 94 #[.bool b,.pointer (some ⟨HB,0,none⟩)] w fun e w' => e = .returned fA ∧ w' = w.setCell ⟨HB,0,none⟩ (.bool (hv && b)):=by
 have c0 : w.cell? ⟨HB,0,none⟩ = some (.bool hv):=ai hc;have f0 : w.frozen? ⟨HB,0,none⟩ = false:=free_at hc;clear hc
 cases hv with
 | false =>
  go_enter Tryz.func94,Tryz.ntmps94
  go_wp2_with fail;go_end0;exact ⟨rfl,rfl⟩
 | true =>
  go_enter Tryz.func94,Tryz.ntmps94
  go_wp2_with fail;go_end0;exact ⟨rfl,rfl⟩
section
variable {g : Jg} {w : World}
theorem zY (h : Jw g w) (hN : g.N ≤ 2048) (hT : g.m.tn ≤ 1000000) (hTS : ∀ a,(aH g.m a).1.size ≤ 8) (hsh : ∀ j,(g.sh j).size ≤ 256) {i : Nat} (hi : i + 1 < g.N) (y : ByteArray) {JB PB : Nat}
  (c0 : w.cell? ⟨JB,0,none⟩ = some (.pointer (some ⟨g.J,0,none⟩))) (c1 : w.cell? ⟨PB,0,none⟩ = some (.int .i64 i)) :
  Calls Tryz.prog 151 #[.string y,.pointer (some ⟨JB,0,none⟩),.pointer (some ⟨PB,0,none⟩)] w fun e w' => e = .returned (.bool (cT g.m g.R g.xs g.sh i (y,⟨#[]⟩))) ∧ Below w.heap.size w w':=by
 have H:=hid (lJ h hN hT hTS hsh hi (off:=y) (on:=⟨#[]⟩) (Nat.zero_le _));clear h;generalize cT g.m g.R g.xs g.sh i (y,⟨#[]⟩) = b at *
 go_enter Tryz.func151,Tryz.ntmps151
 go_wp2_with fail;refine H.out.mono ?_;rintro e w2 ⟨rfl,hb2⟩;have HB:=hid hb2;clear hb2;go_wp2_with fail;go_ret;exact ⟨rfl,HB.out⟩
theorem Am (h : Jw g w) (hN : g.N ≤ 2048) (hT : g.m.tn ≤ 1000000) (hTS : ∀ a,(aH g.m a).1.size ≤ 8) (hsh : ∀ j,(g.sh j).size ≤ 256) {i : Nat} (hi : i + 1 < g.N) (y : ByteArray) (hy : y.size ≤ 8) {JB PB : Nat}
  (c0 : w.cell? ⟨JB,0,none⟩ = some (.pointer (some ⟨g.J,0,none⟩))) (c1 : w.cell? ⟨PB,0,none⟩ = some (.int .i64 i)) :
  Calls Tryz.prog 153 #[.string y,.pointer (some ⟨JB,0,none⟩),.pointer (some ⟨PB,0,none⟩)] w fun e w' => e = .returned (.bool (cT g.m g.R g.xs g.sh i (y ++ y ++ ⟨#[119]⟩,y))) ∧ Below w.heap.size w w':=by
 have H:=hid (lJ h hN hT hTS hsh hi (off:=y ++ y ++ ⟨#[119]⟩) (on:=y) (by omega))
 clear h;have s1 : (y ++ y).size = y.size + y.size:=ByteArray.size_append
 have s2 : ¬ 9223372036854775807 < y.size + y.size:=by omega
 have s3 : ¬ 9223372036854775807 < y.size + y.size + 1:=by omega
 generalize cT g.m g.R g.xs g.sh i (y ++ y ++ ⟨#[119]⟩,y) = b at *
 go_enter Tryz.func153,Tryz.ntmps153
 go_wp2_with fail;refine H.out.mono ?_;rintro e w2 ⟨rfl,hb2⟩;have HB:=hid hb2;clear hb2;go_wp2_with fail;go_ret;exact ⟨rfl,HB.out⟩
theorem sO {K JB PB : Nat} {p : ByteArray → Bool} (he : ∀ args w,(callFunc K args).run Tryz.prog w = .ok (.enter K args) w)
  (hp : ∀ (W : World) (y : ByteArray),Below w.heap.size w W → y.size ≤ 8 → Calls Tryz.prog K #[.string y,.pointer (some ⟨JB,0,none⟩),.pointer (some ⟨PB,0,none⟩)] W fun e w' => e = .returned (.bool (p y)) ∧ Below W.heap.size W w') :
  Calls Tryz.prog 150 #[.func (.func K) #[] #[.pointer (some ⟨JB,0,none⟩),.pointer (some ⟨PB,0,none⟩)]] w fun e w' => e = .returned (.bool (p ⟨#[119]⟩ || p ⟨#[108]⟩)) ∧ Below w.heap.size w w':=by
 have H1:=hid (hp w ⟨#[119]⟩ (Below.refl _ _) (by decide))
 have H2:=hid (fun W hb => hp W ⟨#[108]⟩ hb (by decide))
 clear hp;generalize p ⟨#[119]⟩ = b1 at *;generalize p ⟨#[108]⟩ = b2 at *
 go_enter Tryz.func150,Tryz.ntmps150
 go_wp2_with fail;refine H1.out.mono ?_;rintro e w2 ⟨rfl,hb2⟩;have HB:=hid hb2;clear hb2
 cases b1 with
 | true =>
  go_wp2_with fail;go_ret;exact ⟨rfl,HB.out⟩
 | false =>
  go_wp2_with fail;refine (H2.out _ HB.out).mono ?_;rintro e w3 ⟨rfl,hb3⟩;have HB3:=hid (HB.out.trans (hb3.mono HB.out.size));clear hb3;go_wp2_with fail;go_ret;exact ⟨rfl,HB3.out⟩
end
end Go.Proofs.YtepnnenohjfkbaaGreatDoor

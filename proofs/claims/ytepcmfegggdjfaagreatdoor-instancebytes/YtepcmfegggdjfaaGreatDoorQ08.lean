/-
  Texts Vc Vd Ve Vf.
-/
import Derived.Deep.RegionHeld3
import Derived.Test.YtepcmfegggdjfaaGreatDoorQ04
set_option linter.unusedVariables false
set_option maxRecDepth 100000
set_option maxHeartbeats 16000000
namespace Go.Proofs.YtepcmfegggdjfaaGreatDoor
open Go.RowKit
section
variable {v : Ev} {w1 w : World} {s : Cs}
structure CW (s : Cs) (k : Nat) (o : Opn) : Prop where
 len : s.op.length = k + 1
 le : k < 64
 last : s.op[k]? = some o
 base : o.B.size ≤ s.st.size
 big : s.st.size ≤ 1000000
theorem CI.top (h : CI v w1 w s) {k : Nat} {o : Opn} (hw : CW s k o) : ∃ OB oc,w.cell? ⟨v.C,14,none⟩ = some (.slice (some ⟨OB,0,none⟩) (k + 1) oc) ∧
  w.cell? ⟨OB,k * 5,none⟩ = some (.string o.P) ∧ w.cell? ⟨OB,k * 5 + 1,none⟩ = some (.string o.R) ∧ w.cell? ⟨OB,k * 5 + 2,none⟩ = some (.string o.B) ∧ w.cell? ⟨OB,k * 5 + 3,none⟩ = some (.int .u8 o.op) ∧ w.cell? ⟨OB,k * 5 + 4,none⟩ = some (.int .i64 o.pc):=by
 obtain ⟨OB,oc,h1,h2,h3⟩:=h.opn
 rw [hw.len] at h1
 exact ⟨OB,oc,h1,h3 k o hw.last⟩
theorem held_ab {C OB i : Nat} {st B : ByteArray} {w W W' : World} (hb : Below W.heap.size W W') (h : W.cell? ⟨C,15,none⟩ = some (.string st) ∧ W.cell? ⟨OB,i,none⟩ = some (.string B) ∧ Below w.heap.size w W) :
  W'.cell? ⟨C,15,none⟩ = some (.string st) ∧ W'.cell? ⟨OB,i,none⟩ = some (.string B) ∧ Below w.heap.size w W' :=
 ⟨later_cell hb h.1,later_cell hb h.2.1,h.2.2.trans (hb.mono h.2.2.size)⟩
theorem above235 (h : CI v w1 w s) {k : Nat} {o : Opn} (hw : CW s k o) : Calls Tryz.prog 154 #[.pointer (some ⟨v.C,0,none⟩)] w fun e w' => e = .returned (.string (s.st.extract o.B.size s.st.size)) ∧ Below w.heap.size w w':=by
 obtain ⟨OB,oc,h1,x0,x1,x2,x3,x4⟩:=h.top hw
 have hst:=h.st
 have HI:=hid (fun W (hb : Below w.heap.size w W) => inner230 (w:=W) (later_cell hb h1) hw.le)
 have hb1:=hw.base
 have hb2:=hw.big
 clear x0 x1 x3 x4 h h1
 generalize s.st = st at *
 generalize o.B = B at *
 go_enter Tryz.func154,Tryz.ntmps154
 go_wp2_with fail
 go_region_held3 (fun W => W.cell? ⟨v.C,15,none⟩ = some (.string st) ∧ W.cell? ⟨OB,k * 5 + 2,none⟩ = some (.string B) ∧ Below w.heap.size w W)
  (first | assumption | exact ⟨hst,x2,(Below.refl _ _).drew⟩)
  (first
   | (go_at_call 149; refine (HI.out _ (And.right (And.right (by assumption)))).mono ?_; rintro e w' ⟨rfl,hbx⟩; have hS':=held_ab hbx (by assumption); clear hbx))
 go_wp2_with fail
 go_ret
 exact ⟨rfl,hS'.2.2⟩
def askE (s : Cs) (o : Opn) (t : ByteArray) : Int:=if topB (s.st.extract o.B.size s.st.size) t = true then 0 else 33
theorem ask169 (hA : EvA v w1) (h : CI v w1 w s) {k : Nat} {o : Opn} (hw : CW s k o) (t : ByteArray) (ht : t.size ≤ 1000000) : Calls Tryz.prog 122 #[.pointer (some ⟨v.C,0,none⟩),.string t] w (Rdz w (askE s o t) unitV):=by
 have H1:=hid (above235 h hw)
 have hz : (s.st.extract o.B.size s.st.size).size ≤ 1073741824:=by
  have:=hw.big
  simp; omega
 have H2:=hid (fun W => top234 (s.st.extract o.B.size s.st.size) t W hz (by omega))
 clear h
 have hT : topB (s.st.extract o.B.size s.st.size) t = true → askE s o t = 0:=fun h => by simp [askE,h]
 have hF : topB (s.st.extract o.B.size s.st.size) t = false → askE s o t = 33:=fun h => by simp [askE,h]
 generalize askE s o t = E at *
 generalize s.st.extract o.B.size s.st.size = a at *
 generalize topB a t = b at *
 go_enter Tryz.func122,Tryz.ntmps122
 go_wp2_with fail
 refine H1.out.mono ?_
 rintro e w2 ⟨rfl,hb⟩
 go_wp2_with fail
 refine (H2.out _).mono ?_
 rintro e w3 ⟨rfl,hb3⟩
 have HB:=hid (hb.trans (hb3.mono hb.size))
 go_wp2_with fail
 refine (mustB _ _ _).mono ?_
 rintro e w4 (⟨hb,rfl,rfl⟩ | ⟨hb,rfl,rfl⟩)
 ·go_wp2_with fail
  go_end0
  exact .inl ⟨hT hb,rfl,HB.out⟩
 ·have hE:=hF hb
  subst hE
  exact ⟨rfl,.inr ⟨by decide,rfl,HB.out⟩⟩
def takeS (s : Cs) (t : ByteArray) : Cs:={ s with st:=s.st.extract 0 (s.st.size - t.size) }
theorem askE_le {s : Cs} {o : Opn} {t : ByteArray} (h : askE s o t = 0) : t.size ≤ (s.st.extract o.B.size s.st.size).size:=by
 unfold askE at h
 split at h
 ·rename_i hb
  simp only [topB,Bool.and_eq_true] at hb
  exact ends_le hb.2
 ·cases h
theorem take173 (hA : EvA v w1) (h : CI v w1 w s) {k : Nat} {o : Opn} (hw : CW s k o) (t : ByteArray) (ht : t.size ≤ 1000000) : Calls Tryz.prog 126 #[.pointer (some ⟨v.C,0,none⟩),.string t] w (Doz v w1 w s.pc (askE s o t) unitV (takeS s t)):=by
 have H1:=hid (ask169 hA h hw t ht)
 have hle:=@askE_le s o t
 have hbig:=hw.big
 have H0:=hid h
 clear h
 go_enter Tryz.func126,Tryz.ntmps126
 go_wp2_with fail
 refine H1.out.mono ?_
 rintro e w2 (⟨h0,rfl,hb2⟩ | ⟨h0,rfl,hb2⟩)
 ·have hc:=H0.out.later hA hb2
  have HB2:=hid hb2
  have hle' : t.size ≤ s.st.size:=by
   have:=hle h0
   simp at this; omega
  have hsub : ((s.st.size : Int) - (t.size : Int) + 9223372036854775808) % 18446744073709551616 - 9223372036854775808 = ((s.st.size - t.size : Nat) : Int):=sub_wrap hle' (by omega)
  have hst:=hc.st
  have hfr:=hc.free 15
  have HC:=hid hc
  have HD:=hid (show takeS s t = { s with st:=s.st.extract 0 (s.st.size - t.size) } from rfl)
  have hd1 : (0 : Int) ≤ ((s.st.size - t.size : Nat) : Int):=by omega
  have hd2 : ((s.st.size - t.size : Nat) : Int) ≤ (s.st.size : Int):=by omega
  have hsub2 : IntKind.i64.wrap ((s.st.size : Int) - (t.size : Int)) = ((s.st.size - t.size : Nat) : Int):=by
   simp [IntKind.wrap,IntKind.bits,IntKind.signed]; omega
  generalize s.st.size - t.size = d at *
  clear hc hle hb2
  go_wp2_with fail
  go_region
  go_wp2_with fail
  go_end0
  refine .inl ⟨h0,rfl,?_,((kept_of HB2.out).trans (kept_set _ _ _ _)).trans (Kept.drewN _ _ 1)⟩
  rw [HD.out]
  exact (HC.out.putSt hA _).later hA (below_drewN _ 1)
 ·exact ⟨rfl,.inr ⟨h0,rfl,(H0.out.later hA hb2).bad⟩⟩
end
section
variable {v : Ev} {w1 w : World} {s : Cs}
def putS (s : Cs) (t : ByteArray) : Cs:={ s with st:=pushV s.st t }
theorem put176 (hA : EvA v w1) (h : CI v w1 w s) (t : ByteArray) (hs : s.st.size ≤ 1000000) (ht : t.size ≤ 1000000) : Calls Tryz.prog 129 #[.pointer (some ⟨v.C,0,none⟩),.string t] w (Doz v w1 w s.pc (pushE s.st t) unitV (putS s t)):=by
 have H1:=hid (fun W => push242 s.st t W (by omega) (by omega))
 have hst:=h.st
 have HC:=hid h
 have HD:=hid (show putS s t = { s with st:=pushV s.st t } from rfl)
 clear h
 generalize pushE s.st t = E at *
 generalize pushV s.st t = V at *
 by_cases hE : E = 0
 ·subst hE
  go_enter Tryz.func129,Tryz.ntmps129
  go_wp2_with fail
  refine (H1.out _).mono ?_
  rintro e w2 ⟨rfl,hb⟩
  have HC2:=hid (HC.out.later hA hb)
  have HB2:=hid hb
  clear hb hst
  go_wp2_with fail
  refine (must_yes _ _).mono ?_
  rintro e w3 ⟨rfl,rfl⟩
  have hfr:=HC2.out.free 15
  have hst:=HC2.out.st
  go_wp2_with fail
  go_end0
  refine .inl ⟨rfl,rfl,?_,(kept_of HB2.out).trans (kept_set _ _ _ _)⟩
  rw [HD.out]
  exact HC2.out.putSt hA _
 ·have hE' : decide (E = 0) = false:=by simp [hE]
  go_enter Tryz.func129,Tryz.ntmps129
  go_wp2_with fail
  refine (H1.out _).mono ?_
  rintro e w2 ⟨rfl,hb⟩
  have HC2:=hid (HC.out.later hA hb)
  have HB2:=hid hb
  clear hb hst
  go_wp2_with fail
  refine (mustB _ _ _).mono ?_
  rintro e w3 (⟨hb,rfl,rfl⟩ | ⟨hb,rfl,rfl⟩)
  ·exact absurd hb (by simp [hE])
  ·exact ⟨rfl,.inr ⟨hE,rfl,HC2.out.bad⟩⟩
def leaveS (s : Cs) (o : Opn) : Cs:={ s with dead:=true,st:=pushV o.B o.R }
theorem putS_leave (s : Cs) (o : Opn) : putS { s with dead:=true,st:=o.B } o.R = leaveS s o:=rfl
theorem leave172 (hA : EvA v w1) (h : CI v w1 w s) {k : Nat} {o : Opn} (hw : CW s k o) (hB : o.B.size ≤ 1000000) (hR : o.R.size ≤ 1000000) : Calls Tryz.prog 125 #[.pointer (some ⟨v.C,0,none⟩)] w (Doz v w1 w s.pc (pushE o.B o.R) unitV (leaveS s o)):=by
 have h1:=h.putDead hA true
 have hd:=h.dead
 have hfr:=h.free 17
 have hw1 : CW { s with dead:=true } k o:=⟨hw.len,hw.le,hw.last,hw.base,hw.big⟩
 obtain ⟨OB,oc,x14,x0,x1,x2,x3,x4⟩:=h1.top hw1
 have y15:=h1.st
 have f15:=h1.free 15
 have H1:=hid h1
 have K1:=hid (kept_set w v.C 17 (.bool true))
 clear h
 go_enter Tryz.func125,Tryz.ntmps125
 go_wp2_with fail
 generalize w.setCell ⟨v.C,17,none⟩ (.bool true) = W at *
 refine (inner230 x14 hw.le).mono ?_
 rintro e w2 ⟨rfl,hb⟩
 have H2:=hid (H1.out.later hA hb)
 have K2:=hid (K1.out.trans (kept_of hb))
 have z15:=later_cell hb y15
 have zf:=H2.out.free 15
 have z2:=later_cell hb x2
 clear hb x0 x1 x2 x3 x4 x14 y15 f15 h1 hd hfr
 go_wp2_with fail
 have H3:=hid (H2.out.putSt hA o.B)
 have K3:=hid (K2.out.trans (kept_set w2 v.C 15 (.string o.B)))
 have hw3 : CW { s with dead:=true,st:=o.B } k o:=⟨hw.len,hw.le,hw.last,Nat.le_refl _,hB⟩
 generalize w2.setCell ⟨v.C,15,none⟩ (.string o.B) = W3 at *
 obtain ⟨OB',oc',x14,x0,x1,x2,x3,x4⟩:=H3.out.top hw3
 refine (inner230 x14 hw.le).mono ?_
 rintro e w4 ⟨rfl,hb⟩
 have H4:=hid (H3.out.later hA hb)
 have K4:=hid (K3.out.trans (kept_of hb))
 have z1:=later_cell hb x1
 clear hb x0 x1 x2 x3 x4 x14 z15 zf z2
 go_wp2_with fail
 refine (put176 hA H4.out o.R hB hR).mono ?_
 rintro e w5 (⟨h0,rfl,hc,hk⟩ | ⟨h0,rfl,hb⟩)
 ·rw [putS_leave] at hc
  have HC:=hid hc
  have HK:=hid (K4.out.trans hk)
  clear hc hk
  go_wp2_with fail
  go_end0
  exact .inl ⟨h0,rfl,HC.out,HK.out⟩
 ·exact ⟨rfl,.inr ⟨h0,rfl,hb⟩⟩
end
section
variable {v : Ev} {w1 w : World} {s : Cs}
theorem label170_yes {C OB k oc n : Nat} (h14 : w.cell? ⟨C,14,none⟩ = some (.slice (some ⟨OB,0,none⟩) (k + 1) oc)) (hk : k < 64) (hn : n ≤ k) :
  Calls Tryz.prog 123 #[.pointer (some ⟨C,0,none⟩),.int .i64 n] w fun e w' => e = .returned (.pointer (some ⟨OB,(k - n) * 5,none⟩)) ∧ Below w.heap.size w w':=by
 have g0 : (0 : Int) ≤ (n : Int):=by omega
 go_enter Tryz.func123,Tryz.ntmps123
 go_wp2_with fail
 refine (mustB _ _ _).mono ?_
 rintro e w3 (⟨hb,rfl,rfl⟩ | ⟨hb,rfl,rfl⟩)
 ·clear hb
  go_wp2_with fail
  go_quiet (fail)
  go_wp2_with fail
  go_ret
  refine ⟨?_,below_drewN _ _⟩
  congr 5
 ·exact absurd hb (by simp; omega)
theorem label170_no {C OB k oc : Nat} {n : Int} (h14 : w.cell? ⟨C,14,none⟩ = some (.slice (some ⟨OB,0,none⟩) (k + 1) oc)) (hk : k < 64) (hn : n < 0 ∨ (k : Int) < n) :
  Calls Tryz.prog 123 #[.pointer (some ⟨C,0,none⟩),.int .i64 n] w fun e w' => e = thv 31 ∧ Below w.heap.size w w':=by
 by_cases g0 : 0 ≤ n
 ·go_enter Tryz.func123,Tryz.ntmps123
  go_wp2_with fail
  refine (mustB _ _ _).mono ?_
  rintro e w3 (⟨hb,rfl,rfl⟩ | ⟨hb,rfl,rfl⟩)
  ·exact absurd hb (by simp; omega)
  ·exact ⟨rfl,rfl,Below.refl _ _⟩
 ·have g1 : n < 0:=by omega
  go_enter Tryz.func123,Tryz.ntmps123
  go_wp2_with fail
  refine (mustB _ _ _).mono ?_
  rintro e w3 (⟨hb,rfl,rfl⟩ | ⟨hb,rfl,rfl⟩)
  ·exact absurd hb (by simp)
  ·exact ⟨rfl,rfl,Below.refl _ _⟩
def brg (o : Opn) : ByteArray:=if o.op = 3 then o.P else o.R
theorem brings171 {b i : Nat} (P R : ByteArray) (op : Int) (h0 : w.cell? ⟨b,i,none⟩ = some (.string P)) (h1 : w.cell? ⟨b,i + 1,none⟩ = some (.string R)) (h3 : w.cell? ⟨b,i + 3,none⟩ = some (.int .u8 op)) :
  Calls Tryz.prog 124 #[.pointer (some ⟨b,i,none⟩)] w fun e w' => e = .returned (.string (if op = 3 then P else R)) ∧ w' = w:=by
 by_cases g : op = 3
 ·subst g
  rw [if_pos rfl]
  go_enter Tryz.func124,Tryz.ntmps124
  go_wp2_with fail
  go_ret
  exact ⟨rfl,rfl⟩
 ·rw [if_neg g]
  go_enter Tryz.func124,Tryz.ntmps124
  go_wp2_with fail
  go_ret
  exact ⟨rfl,rfl⟩
def labE (s : Cs) (n : Int) : Int:=if 0 ≤ n ∧ n < s.op.length then 0 else 31
def labO (s : Cs) (n : Int) : Opn:=s.op.getD (s.op.length - 1 - n.toNat) ⟨⟨#[]⟩,⟨#[]⟩,⟨#[]⟩,0,0⟩
theorem labO_of {s : Cs} {k j : Nat} {o : Opn} (hk : s.op.length = k + 1) (hj : j ≤ k) (ho : s.op[k - j]? = some o) : labO s (j : Int) = o:=by
 unfold labO
 rw [hk]
 simp only [Int.toNat_natCast,Nat.add_sub_cancel]
 rw [List.getD_eq_getElem?_getD,ho]
 rfl
def comE (s : Cs) (l : List Int) : Int :=
 if (l.all fun n => labE s n == 0) = true then (if (l.all fun n => (brg (labO s n)).toList == (brg (labO s (l.getD 0 0))).toList) = true then 0 else 32) else 31
theorem labE_yes {s : Cs} {k : Nat} {z : Int} (hk : s.op.length = k + 1) (h : labE s z = 0) : ∃ q : Nat,z = (q : Int) ∧ q ≤ k:=by
 unfold labE at h
 split at h
 ·rename_i g
  exact ⟨z.toNat,by omega,by omega⟩
 ·cases h
theorem labE_no {s : Cs} {k : Nat} {z : Int} (hk : s.op.length = k + 1) (h : labE s z ≠ 0) : labE s z = 31 ∧ (z < 0 ∨ (k : Int) < z):=by
 unfold labE at h ⊢
 split at h
 ·exact absurd rfl h
 ·rename_i g
  exact ⟨if_neg g,by omega⟩
theorem all_of {l : List Int} {p : Int → Bool} (h : ∀ j,j < l.length → p (l.getD j 0) = true) : l.all p = true:=by
 rw [List.all_eq_true]
 intro x hx
 obtain ⟨j,hj,rfl⟩:=List.getElem_of_mem hx
 have:=h j hj
 rwa [List.getD_eq_getElem?_getD,List.getElem?_eq_getElem hj] at this
theorem all_not {l : List Int} {p : Int → Bool} {j : Nat} (hj : j < l.length) (h : p (l.getD j 0) = false) : l.all p = false:=by
 rw [List.all_eq_false]
 refine ⟨l[j],List.getElem_mem hj,?_⟩
 rw [List.getD_eq_getElem?_getD,List.getElem?_eq_getElem hj] at h
 simpa using h
theorem label170 (h : CI v w1 w s) {k : Nat} {o : Opn} (hw : CW s k o) (z : Int) (he : labE s z = 0) :
  Calls Tryz.prog 123 #[.pointer (some ⟨v.C,0,none⟩),.int .i64 z] w fun e w' => ∃ b i,e = .returned (.pointer (some ⟨b,i,none⟩)) ∧ Below w.heap.size w w' ∧
   w'.cell? ⟨b,i,none⟩ = some (.string (labO s z).P) ∧ w'.cell? ⟨b,i + 1,none⟩ = some (.string (labO s z).R) ∧ w'.cell? ⟨b,i + 3,none⟩ = some (.int .u8 (labO s z).op):=by
 obtain ⟨q,rfl,hq⟩:=labE_yes hw.len he
 obtain ⟨OB,oc,h1,h2,h3⟩:=h.opn
 have hlt : k - q < s.op.length:=by have:=hw.len; omega
 obtain ⟨p,hp⟩ : ∃ p,s.op[k - q]? = some p:=⟨_,List.getElem?_eq_getElem hlt⟩
 obtain ⟨x0,x1,x2,x3,x4⟩:=h3 _ p hp
 rw [hw.len] at h1
 rw [labO_of hw.len hq hp]
 refine (label170_yes h1 hw.le hq).mono ?_
 rintro e w' ⟨rfl,hb⟩
 exact ⟨_,_,rfl,hb,later_cell hb x0,later_cell hb x1,later_cell hb x3⟩
theorem label170_bad (hA : EvA v w1) (h : CI v w1 w s) {k : Nat} {o : Opn} (hw : CW s k o) (z : Int) (he : labE s z ≠ 0) :
  Calls Tryz.prog 123 #[.pointer (some ⟨v.C,0,none⟩),.int .i64 z] w fun e w' => e = thv 31 ∧ Below w.heap.size w w':=by
 obtain ⟨OB,oc,h1,h2,h3⟩:=h.opn
 rw [hw.len] at h1
 refine (label170_no h1 hw.le (labE_no hw.len he).2).mono ?_
 rintro e w' ⟨rfl,hb⟩
 exact ⟨rfl,hb⟩
theorem brings_of {b i : Nat} {o : Opn} (h0 : w.cell? ⟨b,i,none⟩ = some (.string o.P)) (h1 : w.cell? ⟨b,i + 1,none⟩ = some (.string o.R)) (h3 : w.cell? ⟨b,i + 3,none⟩ = some (.int .u8 o.op)) :
  Calls Tryz.prog 124 #[.pointer (some ⟨b,i,none⟩)] w fun e w' => e = .returned (.string (brg o)) ∧ w' = w:=brings171 _ _ _ h0 h1 h3
theorem common174 (hA : EvA v w1) (h : CI v w1 w s) {k : Nat} {o : Opn} (hw : CW s k o) (a : Option Addr) (n cap : Nat) (l : List Int) (hl : SegJ w1 a n cap l) (hn : 0 < n) (hS : ∀ b off,a = some ⟨b,off,none⟩ → n ≠ 0 → ¬ v.S b) :
  Calls Tryz.prog 127 #[.pointer (some ⟨v.C,0,none⟩),.slice a n cap] w (Rdz w (comE s l) (.string (brg (labO s (l.getD 0 0))))):=by
 have hlen:=hl.1
 have hcap:=hl.2.1
 have hbig:=hl.2.2.1
 obtain ⟨ab,off,rfl,hc0⟩ : ∃ b off,a = some ⟨b,off,none⟩ ∧ ∀ W,CI v w1 W s → ∀ j,j < n → W.cell? ⟨b,off + j,none⟩ = some (.int .i64 (l.getD j 0)):=by
  rcases hl.2.2.2.2 with h0 | ⟨b,off,rfl,hc⟩
  ·omega
  ·exact ⟨b,off,rfl,fun W hW j hj => hW.kept.cell (hc j hj) (hS b off rfl (by omega))⟩
 have HCL:=hid hc0
 have HC:=hid h
 have HE:=hid (show ∀ j,j < n → labE s (l.getD j 0) ≠ 0 → comE s l = 31 from fun j hj hx => by
  have hx' : (labE s (l.getD j 0) == 0) = false:=by simpa using hx
  have:=all_not (p:=fun n => labE s n == 0) (by omega : j < l.length) hx'
  unfold comE; rw [this]; simp)
 have HF:=hid (show (∀ j,j < n → labE s (l.getD j 0) = 0) → ∀ j,j < n → ((brg (labO s (l.getD j 0))).toList == (brg (labO s (l.getD 0 0))).toList) = false → comE s l = 32 from fun hy j hj hx => by
  have h1:=all_of (l:=l) (p:=fun n => labE s n == 0) (fun j hj => by have:=hy j (by omega); simpa using this)
  have h2:=all_not (p:=fun n => (brg (labO s n)).toList == (brg (labO s (l.getD 0 0))).toList) (by omega : j < l.length) hx
  unfold comE; rw [h1,h2]; simp)
 have HG:=hid (show (∀ j,j < n → labE s (l.getD j 0) = 0) → (∀ j,j < n → ((brg (labO s (l.getD j 0))).toList == (brg (labO s (l.getD 0 0))).toList) = true) → comE s l = 0 from fun hy hz => by
  have h1:=all_of (l:=l) (p:=fun n => labE s n == 0) (fun j hj => by have:=hy j (by omega); simpa using this)
  have h2:=all_of (l:=l) (p:=fun n => (brg (labO s n)).toList == (brg (labO s (l.getD 0 0))).toList) (fun j hj => hz j (by omega))
  unfold comE; rw [h1,h2]; simp)
 generalize comE s l = E at *
 obtain ⟨z0,hz0⟩ : ∃ z,l.getD 0 0 = z:=⟨_,rfl⟩
 have HZ0:=hid hz0
 rw [hz0] at HG HF ⊢
 clear h hc0 hl hS hz0
 go_enter Tryz.func127,Tryz.ntmps127
 go_wp2_with fail
 go_loopw [12] (fun i wr => ∃ j : Nat,j ≤ n ∧ i = .int .i64 j ∧ (∀ m,m < j → labE s (l.getD m 0) = 0) ∧ Below w.heap.size w wr) (fun i _ => n - (intOf i).toNat)
 case atStart => exact ⟨0,by omega,rfl,fun m hm => by omega,Below.refl _ _⟩
 case round =>
  obtain ⟨j,hj,rfl,hall,hc⟩:=hrel
  have HA1:=hid hall
  have HB1:=hid hc
  have HC1:=hid (HC.out.later hA hc)
  clear hall hc
  by_cases hlt : j < n
  ·have hx:=HCL.out wr HC1.out j hlt
   have hlt' : (j : Int) < n:=by omega
   have HEJ:=hid (HE.out j hlt)
   obtain ⟨z,hz⟩ : ∃ z,l.getD j 0 = z:=⟨_,rfl⟩
   have HZ:=hid hz
   rw [hz] at hx HEJ
   clear hz
   by_cases he : labE s z = 0
   ·have HL:=hid (label170 HC1.out hw _ he)
    go_wp2_with fail
    refine HL.out.mono ?_
    rintro e w2 ⟨b,i,rfl,hb,y0,y1,y3⟩
    have HB2:=hid (HB1.out.trans (hb.mono HB1.out.size))
    clear hb y0 y1 y3
    go_wp2_with fail
    go_roundw
    case rel => exact ⟨j + 1,by omega,by simp,fun m hm => by
     rcases Nat.lt_or_ge m j with g | g
     ·exact HA1.out m g
     ·obtain rfl : m = j:=by omega
      rw [HZ.out]; exact he,HB2.out⟩
    case measure => simp [intOf]; omega
   ·have HL:=hid (label170_bad hA HC1.out hw _ he)
    have hE:=HEJ.out he
    subst hE
    go_wp2_with fail
    refine HL.out.mono ?_
    rintro e w2 ⟨rfl,hb⟩
    exact ⟨rfl,.inr ⟨by decide,rfl,HB1.out.trans (hb.mono HB1.out.size)⟩⟩
  ·obtain rfl : j = n:=by omega
   have hge : ¬ (j : Int) < j:=by omega
   have hx:=HCL.out wr HC1.out 0 hn
   simp only [Nat.add_zero] at hx
   have he:=HA1.out 0 hn
   have HG1:=hid (HG.out HA1.out)
   have HF1:=hid (HF.out HA1.out)
   rw [HZ0.out] at hx he
   have HL:=hid (label170 HC1.out hw _ he)
   clear HE HF HG HZ0
   go_wp2_with fail
   refine HL.out.mono ?_
   rintro e w2 ⟨b,i,rfl,hb,y0,y1,y3⟩
   have HB2:=hid (HB1.out.trans (hb.mono HB1.out.size))
   clear hb
   go_wp2_with fail
   refine (brings_of y0 y1 y3).mono ?_
   rintro e w3 ⟨rfl,hw3⟩
   obtain rfl:=hw3.symm
   obtain ⟨L,hL⟩ : ∃ L,brg (labO s z0) = L:=⟨_,rfl⟩
   rw [hL] at HG1 HF1 ⊢
   clear y0 y1 y3 HL hx HC1 HB1
   go_wp2_with fail
   generalize w2 = wz at *
   go_loopw [28] (fun i wr => ∃ m : Nat,m ≤ j ∧ i = .int .i64 m ∧ (∀ q,q < m → ((brg (labO s (l.getD q 0))).toList == L.toList) = true) ∧ Below w.heap.size w wr) (fun i _ => j - (intOf i).toNat)
   case atStart => exact ⟨0,by omega,rfl,fun m hm => by omega,HB2.out⟩
   case round =>
    obtain ⟨m,hm,rfl,hall,hc⟩:=hrel
    have HA2:=hid hall
    have HB3:=hid hc
    have HC3:=hid (HC.out.later hA hc)
    clear hall hc
    by_cases hlt : m < j
    ·have hx:=HCL.out _ HC3.out m hlt
     have hlt' : (m : Int) < j:=by omega
     have he:=HA1.out m hlt
     have HFM:=hid (HF1.out m hlt)
     obtain ⟨z,hz⟩ : ∃ z,l.getD m 0 = z:=⟨_,rfl⟩
     have HZ:=hid hz
     rw [hz] at hx he HFM
     clear hz
     have HL:=hid (label170 HC3.out hw _ he)
     go_wp2_with fail
     refine HL.out.mono ?_
     rintro e w4 ⟨b,i,rfl,hb,y0,y1,y3⟩
     have HB4:=hid (HB3.out.trans (hb.mono HB3.out.size))
     clear hb
     go_wp2_with fail
     refine (brings_of y0 y1 y3).mono ?_
     rintro e w5 ⟨rfl,hw5⟩
     obtain rfl:=hw5.symm
     clear y0 y1 y3 HL hx
     go_wp2_with fail
     refine (mustB _ _ _).mono ?_
     rintro e w6 (⟨hb,rfl,rfl⟩ | ⟨hb,rfl,rfl⟩)
     ·have HB:=hid hb
      clear hb
      go_wp2_with fail
      go_roundw
      case rel => exact ⟨m + 1,by omega,by simp,fun q hq => by
       rcases Nat.lt_or_ge q m with g | g
       ·exact HA2.out q g
       ·obtain rfl : q = m:=by omega
        rw [HZ.out]; exact HB.out,HB4.out⟩
      case measure => simp [intOf]; omega
     ·have hE:=HFM.out hb
      subst hE
      exact ⟨rfl,.inr ⟨by decide,rfl,HB4.out⟩⟩
    ·obtain rfl : m = j:=by omega
     have hE:=HG1.out HA2.out
     subst hE
     go_wp2_with fail
     go_ret
     exact .inl ⟨rfl,rfl,HB3.out⟩
end
theorem below_put {B : Nat} {w W : World} {g i : Nat} {u : Value} (h : Below B w W) (hB : B ≤ g) (hs : B ≤ W.heap.size) : Below B w (W.setCell ⟨g,i,none⟩ u) :=
 h.trans ((kept_set W g i u).to_below hs (fun k hk e => by omega))
section
variable {v : Ev} {w1 w : World} {s : Cs}
theorem pick229_yes {b off n cap q : Nat} {P R : ByteArray} (hq : q < n) (hn : n ≤ 1099511627776) (h0 : w.cell? ⟨b,off + q * 2,none⟩ = some (.string P)) (h1 : w.cell? ⟨b,off + q * 2 + 1,none⟩ = some (.string R)) :
  Calls Tryz.prog 148 #[.slice (some ⟨b,off,none⟩) n cap,.int .i64 q] w fun e w' => e = .returned (.agg #[.string P,.string R]) ∧ Below w.heap.size w w':=by
 have g0 : (0 : Int) ≤ (q : Int):=by omega
 have g1 : (q : Int) < (n : Int):=by omega
 have BN:=below_new w (.cells #[.string ⟨#[]⟩,.string ⟨#[]⟩] 55)
 have z0:=later_cell BN h0
 have z1:=later_cell BN h1
 have BW:=hid BN
 clear BN h0 h1
 go_enter Tryz.func148,Tryz.ntmps148
 go_wp2_with fail
 refine (must_yes _ _).mono ?_
 rintro e w3 ⟨rfl,hw3⟩
 obtain rfl:=hw3.symm
 go_wp2_with fail
 refine bodyPost_ret (v:=.agg #[.string P,.string R]) ?_ rfl ⟨rfl,?_⟩
 ·rw [results_cell1 rfl]
  go_simp
 ·exact below_new _ _
theorem pick229_no {a : Option Addr} {n cap : Nat} {z : Int} (hz : z < 0 ∨ (n : Int) ≤ z) (hn : n ≤ 1099511627776) :
  Calls Tryz.prog 148 #[.slice a n cap,.int .i64 z] w fun e w' => e = thv 30 ∧ Below w.heap.size w w':=by
 by_cases g0 : 0 ≤ z
 ·go_enter Tryz.func148,Tryz.ntmps148
  go_wp2_with fail
  refine (mustB _ _ _).mono ?_
  rintro e w3 (⟨hb,rfl,rfl⟩ | ⟨hb,rfl,rfl⟩)
  ·exact absurd hb (by simp; omega)
  ·exact ⟨rfl,rfl,below_new _ _⟩
 ·have g1 : z < 0:=by omega
  go_enter Tryz.func148,Tryz.ntmps148
  go_wp2_with fail
  refine (mustB _ _ _).mono ?_
  rintro e w3 (⟨hb,rfl,rfl⟩ | ⟨hb,rfl,rfl⟩)
  ·exact absurd hb (by simp)
  ·exact ⟨rfl,rfl,below_new _ _⟩
theorem pick236_yes {b off n cap q : Nat} {ty : Int} {lo : ByteArray} {ca : Option Addr} {cn cc : Nat} (hq : q < n) (hn : n ≤ 1099511627776) (h0 : w.cell? ⟨b,off + q * 3,none⟩ = some (.int .i64 ty)) (h1 : w.cell? ⟨b,off + q * 3 + 1,none⟩ = some (.string lo)) (h2 : w.cell? ⟨b,off + q * 3 + 2,none⟩ = some (.slice ca cn cc)) :
  Calls Tryz.prog 155 #[.slice (some ⟨b,off,none⟩) n cap,.int .i64 q] w fun e w' => e = .returned (.agg #[.int .i64 ty,.string lo,.slice ca cn cc]) ∧ Below w.heap.size w w':=by
 have g0 : (0 : Int) ≤ (q : Int):=by omega
 have g1 : (q : Int) < (n : Int):=by omega
 have BN:=below_new w (.cells #[.int .i64 0,.string ⟨#[]⟩,.slice none 0 0] 61)
 have z0:=later_cell BN h0
 have z1:=later_cell BN h1
 have z2:=later_cell BN h2
 have BW:=hid BN
 clear BN h0 h1 h2
 go_enter Tryz.func155,Tryz.ntmps155
 go_wp2_with fail
 refine (must_yes _ _).mono ?_
 rintro e w3 ⟨rfl,hw3⟩
 obtain rfl:=hw3.symm
 go_wp2_with fail
 refine bodyPost_ret (v:=.agg #[.int .i64 ty,.string lo,.slice ca cn cc]) ?_ rfl ⟨rfl,?_⟩
 ·rw [results_cell1 rfl]
  go_simp
 ·exact below_new _ _
theorem pick236_no {a : Option Addr} {n cap : Nat} {z : Int} (hz : z < 0 ∨ (n : Int) ≤ z) (hn : n ≤ 1099511627776) :
  Calls Tryz.prog 155 #[.slice a n cap,.int .i64 z] w fun e w' => e = thv 30 ∧ Below w.heap.size w w':=by
 by_cases g0 : 0 ≤ z
 ·go_enter Tryz.func155,Tryz.ntmps155
  go_wp2_with fail
  refine (mustB _ _ _).mono ?_
  rintro e w3 (⟨hb,rfl,rfl⟩ | ⟨hb,rfl,rfl⟩)
  ·exact absurd hb (by simp; omega)
  ·exact ⟨rfl,rfl,below_new _ _⟩
 ·have g1 : z < 0:=by omega
  go_enter Tryz.func155,Tryz.ntmps155
  go_wp2_with fail
  refine (mustB _ _ _).mono ?_
  rintro e w3 (⟨hb,rfl,rfl⟩ | ⟨hb,rfl,rfl⟩)
  ·exact absurd hb (by simp)
  ·exact ⟨rfl,rfl,below_new _ _⟩
theorem pick237_yes {b off n cap q : Nat} {x : Int} (hq : q < n) (hn : n ≤ 1099511627776) (h0 : w.cell? ⟨b,off + q,none⟩ = some (.int .i64 x)) :
  Calls Tryz.prog 156 #[.slice (some ⟨b,off,none⟩) n cap,.int .i64 q] w fun e w' => e = .returned (.int .i64 x) ∧ Below w.heap.size w w':=by
 have g0 : (0 : Int) ≤ (q : Int):=by omega
 have g1 : (q : Int) < (n : Int):=by omega
 go_enter Tryz.func156,Tryz.ntmps156
 go_wp2_with fail
 refine (must_yes _ _).mono ?_
 rintro e w3 ⟨rfl,hw3⟩
 obtain rfl:=hw3.symm
 go_wp2_with fail
 go_ret
 exact ⟨rfl,Below.refl _ _⟩
theorem pick237_no {a : Option Addr} {n cap : Nat} {z : Int} (hz : z < 0 ∨ (n : Int) ≤ z) (hn : n ≤ 1099511627776) :
  Calls Tryz.prog 156 #[.slice a n cap,.int .i64 z] w fun e w' => e = thv 30 ∧ w' = w:=by
 by_cases g0 : 0 ≤ z
 ·go_enter Tryz.func156,Tryz.ntmps156
  go_wp2_with fail
  refine (mustB _ _ _).mono ?_
  rintro e w3 (⟨hb,rfl,rfl⟩ | ⟨hb,rfl,rfl⟩)
  ·exact absurd hb (by simp; omega)
  ·exact ⟨rfl,rfl,rfl⟩
 ·have g1 : z < 0:=by omega
  go_enter Tryz.func156,Tryz.ntmps156
  go_wp2_with fail
  refine (mustB _ _ _).mono ?_
  rintro e w3 (⟨hb,rfl,rfl⟩ | ⟨hb,rfl,rfl⟩)
  ·exact absurd hb (by simp)
  ·exact ⟨rfl,rfl,rfl⟩
theorem pick240_yes {b off n cap q : Nat} {x : Int} (hq : q < n) (hn : n ≤ 1099511627776) (h0 : w.cell? ⟨b,off + q,none⟩ = some (.int .u8 x)) :
  Calls Tryz.prog 159 #[.slice (some ⟨b,off,none⟩) n cap,.int .i64 q] w fun e w' => e = .returned (.int .u8 x) ∧ Below w.heap.size w w':=by
 have g0 : (0 : Int) ≤ (q : Int):=by omega
 have g1 : (q : Int) < (n : Int):=by omega
 go_enter Tryz.func159,Tryz.ntmps159
 go_wp2_with fail
 refine (must_yes _ _).mono ?_
 rintro e w3 ⟨rfl,hw3⟩
 obtain rfl:=hw3.symm
 go_wp2_with fail
 go_ret
 exact ⟨rfl,Below.refl _ _⟩
theorem pick240_no {a : Option Addr} {n cap : Nat} {z : Int} (hz : z < 0 ∨ (n : Int) ≤ z) (hn : n ≤ 1099511627776) :
  Calls Tryz.prog 159 #[.slice a n cap,.int .i64 z] w fun e w' => e = thv 30 ∧ w' = w:=by
 by_cases g0 : 0 ≤ z
 ·go_enter Tryz.func159,Tryz.ntmps159
  go_wp2_with fail
  refine (mustB _ _ _).mono ?_
  rintro e w3 (⟨hb,rfl,rfl⟩ | ⟨hb,rfl,rfl⟩)
  ·exact absurd hb (by simp; omega)
  ·exact ⟨rfl,rfl,rfl⟩
 ·have g1 : z < 0:=by omega
  go_enter Tryz.func159,Tryz.ntmps159
  go_wp2_with fail
  refine (mustB _ _ _).mono ?_
  rintro e w3 (⟨hb,rfl,rfl⟩ | ⟨hb,rfl,rfl⟩)
  ·exact absurd hb (by simp)
  ·exact ⟨rfl,rfl,rfl⟩
theorem pick241_yes {b off n cap q : Nat} {c : Int} {mu : Bool} {x : Int} (hq : q < n) (hn : n ≤ 1099511627776) (h0 : w.cell? ⟨b,off + q * 3,none⟩ = some (.int .u8 c)) (h1 : w.cell? ⟨b,off + q * 3 + 1,none⟩ = some (.bool mu)) (h2 : w.cell? ⟨b,off + q * 3 + 2,none⟩ = some (.int .u64 x)) :
  Calls Tryz.prog 160 #[.slice (some ⟨b,off,none⟩) n cap,.int .i64 q] w fun e w' => e = .returned (.agg #[.int .u8 c,.bool mu,.int .u64 x]) ∧ Below w.heap.size w w':=by
 have g0 : (0 : Int) ≤ (q : Int):=by omega
 have g1 : (q : Int) < (n : Int):=by omega
 have BN:=below_new w (.cells #[.int .u8 0,.bool false,.int .u64 0] 80)
 have z0:=later_cell BN h0
 have z1:=later_cell BN h1
 have z2:=later_cell BN h2
 have BW:=hid BN
 clear BN h0 h1 h2
 go_enter Tryz.func160,Tryz.ntmps160
 go_wp2_with fail
 refine (must_yes _ _).mono ?_
 rintro e w3 ⟨rfl,hw3⟩
 obtain rfl:=hw3.symm
 go_wp2_with fail
 refine bodyPost_ret (v:=.agg #[.int .u8 c,.bool mu,.int .u64 x]) ?_ rfl ⟨rfl,?_⟩
 ·rw [results_cell1 rfl]
  go_simp
 ·exact below_new _ _
theorem pick241_no {a : Option Addr} {n cap : Nat} {z : Int} (hz : z < 0 ∨ (n : Int) ≤ z) (hn : n ≤ 1099511627776) :
  Calls Tryz.prog 160 #[.slice a n cap,.int .i64 z] w fun e w' => e = thv 30 ∧ Below w.heap.size w w':=by
 by_cases g0 : 0 ≤ z
 ·go_enter Tryz.func160,Tryz.ntmps160
  go_wp2_with fail
  refine (mustB _ _ _).mono ?_
  rintro e w3 (⟨hb,rfl,rfl⟩ | ⟨hb,rfl,rfl⟩)
  ·exact absurd hb (by simp; omega)
  ·exact ⟨rfl,rfl,below_new _ _⟩
 ·have g1 : z < 0:=by omega
  go_enter Tryz.func160,Tryz.ntmps160
  go_wp2_with fail
  refine (mustB _ _ _).mono ?_
  rintro e w3 (⟨hb,rfl,rfl⟩ | ⟨hb,rfl,rfl⟩)
  ·exact absurd hb (by simp)
  ·exact ⟨rfl,rfl,below_new _ _⟩
theorem left231 (P R B : ByteArray) (hs : B.size + R.size ≤ 1073741824) : Calls Tryz.prog 150 #[.agg #[.string P,.string R],.string B] w fun e w' => e = .returned (.string (B ++ R)) ∧ Below w.heap.size w w':=by
 go_enter Tryz.func150,Tryz.ntmps150
 go_wp2_with fail
 go_ret
 exact ⟨rfl,below_new _ _⟩
theorem entered232 (P R B : ByteArray) (hs : B.size + P.size ≤ 1073741824) : Calls Tryz.prog 151 #[.agg #[.string P,.string R],.string B] w fun e w' => e = .returned (.string (B ++ P)) ∧ Below w.heap.size w w':=by
 go_enter Tryz.func151,Tryz.ntmps151
 go_wp2_with fail
 go_ret
 exact ⟨rfl,below_new _ _⟩
theorem same233 (P R : ByteArray) : Calls Tryz.prog 152 #[.agg #[.string P,.string R]] w fun e w' => e = .returned (.bool (P.toList == R.toList)) ∧ Below w.heap.size w w':=by
 go_enter Tryz.func152,Tryz.ntmps152
 go_wp2_with fail
 go_ret
 exact ⟨rfl,below_new _ _⟩
end
end Go.Proofs.YtepcmfegggdjfaaGreatDoor

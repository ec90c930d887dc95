/-
  Texts Vp Vq Vr Vs Vt Vu.
-/
import Derived.Test.YtepcmfegggdjfaaGreatDoorQ32
set_option linter.unusedVariables false
set_option maxRecDepth 100000
set_option maxHeartbeats 16000000
namespace Go.Proofs.YtepcmfegggdjfaaGreatDoor
open Go.RowKit
section
variable {v : Ev} {w1 w : World} {s : Cs} {m : MM} {lo : List Int}
abbrev Rowz (v : Ev) (w1 : World) (pc : Nat) (E : Int) (s' : Cs) : Ending → World → Prop:=fun e w' => (E = 0 ∧ e = .returned unitV ∧ CI v w1 w' s') ∨ (E ≠ 0 ∧ e = thv E ∧ Bad v w1 pc w')
theorem orE_l {a b : Int} (h : a ≠ 0) : orE a b = a:=by simp [orE,h]
theorem orE_r {a b : Int} (h : a = 0) : orE a b = b:=by simp [orE,h]
theorem row112_trap (hA : EvA v w1) (h : CI v w1 w s) {k : Nat} {o : Opn} (hw : CW s k o) (hB : o.B.size ≤ 1000000) (hR : o.R.size ≤ 1000000) (a : Int) (L : Value) :
  Calls Tryz.prog 87 #[.pointer (some ⟨v.C,0,none⟩),.agg #[.int .u8 0,.int .i64 a,L]] w (Rowz v w1 s.pc (pushE o.B o.R) (leaveS s o)):=by
 have BW:=below_new w (.cells #[.int .u8 0,.int .i64 a,L] 82)
 have H1:=hid (leave172 hA (h.later hA BW) hw hB hR)
 generalize pushE o.B o.R = E at *
 clear h BW
 go_enter Tryz.func87,Tryz.ntmps87
 go_wp2_with fail
 refine H1.out.mono ?_
 rintro e w2 (⟨h0,rfl,hc,hk⟩ | ⟨h0,rfl,hb⟩)
 ·have HC:=hid hc
  clear hc hk
  go_wp2_with fail
  go_end0
  exact .inl ⟨h0,rfl,HC.out⟩
 ·exact ⟨rfl,.inr ⟨h0,rfl,hb⟩⟩
theorem brg_le {s : Cs} {p : Opn} (hL : ∀ p ∈ s.op,p.P.size ≤ 8 ∧ p.R.size ≤ 8) (hp : p ∈ s.op) : (brg p).size ≤ 8:=by
 unfold brg; split
 ·exact (hL p hp).1
 ·exact (hL p hp).2
theorem labO_mem {s : Cs} {k : Nat} {o : Opn} (hw : CW s k o) {a : Int} (h : labE s a = 0) : labO s a ∈ s.op:=by
 obtain ⟨q,rfl,hq⟩:=labE_yes hw.len h
 have hlt : k - q < s.op.length:=by have:=hw.len; omega
 rw [labO_of hw.len hq (List.getElem?_eq_getElem hlt)]
 exact List.getElem_mem hlt
theorem row112_br (hA : EvA v w1) (h : CI v w1 w s) {k : Nat} {o : Opn} (hw : CW s k o) (hB : o.B.size ≤ 1000000) (hR : o.R.size ≤ 1000000) (hL : ∀ p ∈ s.op,p.P.size ≤ 8 ∧ p.R.size ≤ 8) (a : Int) (L : Value) :
  Calls Tryz.prog 87 #[.pointer (some ⟨v.C,0,none⟩),.agg #[.int .u8 7,.int .i64 a,L]] w (Rowz v w1 s.pc (orE (labE s a) (orE (askE s o (brg (labO s a))) (pushE o.B o.R))) (leaveS s o)):=by
 have BW:=below_new w (.cells #[.int .u8 7,.int .i64 a,L] 82)
 have x1 : (w.alloc (.cells #[.int .u8 7,.int .i64 a,L] 82)).cell? ⟨w.heap.size,1,none⟩ = some (.int .i64 a):=by simp [go_sem]
 have x2 : (w.alloc (.cells #[.int .u8 7,.int .i64 a,L] 82)).cell? ⟨w.heap.size,2,none⟩ = some (L):=by simp [go_sem]
 have HC:=hid (h.later hA BW)
 obtain ⟨E,hE⟩ : ∃ E,orE (labE s a) (orE (askE s o (brg (labO s a))) (pushE o.B o.R)) = E:=⟨_,rfl⟩
 rw [hE]
 have HE:=hid hE
 clear hE h BW
 by_cases hl : labE s a = 0
 rotate_left
 ·have hE : E = 31:=by rw [← HE.out,orE_l hl]; exact (labE_no hw.len hl).1
  subst hE
  go_enter Tryz.func87,Tryz.ntmps87
  go_wp2_with fail
  refine (label170_bad hA HC.out hw a hl).mono ?_
  rintro e w2 ⟨rfl,hb⟩
  exact ⟨rfl,.inr ⟨by decide,rfl,(HC.out.later hA hb).bad⟩⟩
 have h8:=brg_le hL (labO_mem hw hl)
 rw [orE_r hl] at HE
 go_enter Tryz.func87,Tryz.ntmps87
 go_wp2_with fail
 refine (label170 HC.out hw a hl).mono ?_
 rintro e w2 ⟨b,i,rfl,hb,y0,y1,y3⟩
 have HC2:=hid (HC.out.later hA hb)
 clear hb x1 x2 HC
 go_wp2_with fail
 refine (brings_of y0 y1 y3).mono ?_
 rintro e w3 ⟨rfl,hw3⟩
 obtain rfl:=hw3.symm
 clear y0 y1 y3 hw3
 generalize brg (labO s a) = Y at *
 have HY1 : (Y ++ ⟨#[119]⟩ : ByteArray).size ≤ 1000000:=by rw [ByteArray.size_append]; exact (show Y.size + 1 ≤ 1000000 by omega)
 go_wp2_with fail
 refine (ask169 hA HC2.out hw Y (by omega)).mono ?_
 rintro e w4 (⟨h0,rfl,hb⟩ | ⟨h0,rfl,hb⟩)
 rotate_left
 ·have hE : E = askE s o Y:=by rw [← HE.out,orE_l h0]
  exact ⟨rfl,.inr ⟨by rw [hE]; exact h0,(congrArg thv hE).symm,(HC2.out.later hA hb).bad⟩⟩
 rw [orE_r h0] at HE
 have HC3:=hid (HC2.out.later hA hb)
 clear hb h0
 go_wp2_with fail
 refine (leave172 hA HC3.out hw hB hR).mono ?_
 rintro e w5 (⟨h0,rfl,hc,hk⟩ | ⟨h0,rfl,hb⟩)
 rotate_left
 ·have hE : E = pushE o.B o.R:=HE.out.symm
  exact ⟨rfl,.inr ⟨by rw [hE]; exact h0,(congrArg thv hE).symm,hb⟩⟩
 have hE : E = 0:=HE.out.symm.trans h0
 subst hE
 have HC5:=hid hc
 clear hc hk
 go_wp2_with fail
 go_end0
 first | exact .inl ⟨rfl,rfl,HC5.out⟩ | exact ⟨rfl,HC5.out⟩
theorem row112_return (hA : EvA v w1) (h : CI v w1 w s) {k : Nat} {o : Opn} (hw : CW s k o) (hB : o.B.size ≤ 1000000) (hR : o.R.size ≤ 1000000) (hL : ∀ p ∈ s.op,p.P.size ≤ 8 ∧ p.R.size ≤ 8) (a : Int) (L : Value) {p : Opn} (hp : s.op[0]? = some p):
  Calls Tryz.prog 87 #[.pointer (some ⟨v.C,0,none⟩),.agg #[.int .u8 10,.int .i64 a,L]] w (Rowz v w1 s.pc (orE (askE s o (brg p)) (pushE o.B o.R)) (leaveS s o)):=by
 have BW:=below_new w (.cells #[.int .u8 10,.int .i64 a,L] 82)
 have x1 : (w.alloc (.cells #[.int .u8 10,.int .i64 a,L] 82)).cell? ⟨w.heap.size,1,none⟩ = some (.int .i64 a):=by simp [go_sem]
 have x2 : (w.alloc (.cells #[.int .u8 10,.int .i64 a,L] 82)).cell? ⟨w.heap.size,2,none⟩ = some (L):=by simp [go_sem]
 have HC:=hid (h.later hA BW)
 obtain ⟨E,hE⟩ : ∃ E,orE (askE s o (brg p)) (pushE o.B o.R) = E:=⟨_,rfl⟩
 rw [hE]
 have HE:=hid hE
 clear hE h BW
 have h8:=brg_le hL (List.mem_of_getElem? hp)
 obtain ⟨OB,oc,x14,hoc,hcs⟩:=HC.out.opn
 obtain ⟨p0,p1,p2,p3,p4⟩:=hcs 0 p hp
 simp only [Nat.zero_mul,Nat.zero_add] at p0 p1 p2 p3 p4
 rw [hw.len] at x14
 clear hcs hp hoc p2 p4
 go_enter Tryz.func87,Tryz.ntmps87
 go_wp2_with fail
 refine (brings_of p0 p1 p3).mono ?_
 rintro e w3 ⟨rfl,hw3⟩
 obtain rfl:=hw3.symm
 clear p0 p1 p3 x14 x1 x2 hw3
 generalize brg p = Y at *
 go_wp2_with fail
 refine (ask169 hA HC.out hw Y (by omega)).mono ?_
 rintro e w4 (⟨h0,rfl,hb⟩ | ⟨h0,rfl,hb⟩)
 rotate_left
 ·have hE : E = askE s o Y:=by rw [← HE.out,orE_l h0]
  exact ⟨rfl,.inr ⟨by rw [hE]; exact h0,(congrArg thv hE).symm,(HC.out.later hA hb).bad⟩⟩
 rw [orE_r h0] at HE
 have HC3:=hid (HC.out.later hA hb)
 clear hb h0
 go_wp2_with fail
 refine (leave172 hA HC3.out hw hB hR).mono ?_
 rintro e w5 (⟨h0,rfl,hc,hk⟩ | ⟨h0,rfl,hb⟩)
 rotate_left
 ·have hE : E = pushE o.B o.R:=HE.out.symm
  exact ⟨rfl,.inr ⟨by rw [hE]; exact h0,(congrArg thv hE).symm,hb⟩⟩
 have hE : E = 0:=HE.out.symm.trans h0
 subst hE
 have HC5:=hid hc
 clear hc hk
 go_wp2_with fail
 go_end0
 first | exact .inl ⟨rfl,rfl,HC5.out⟩ | exact ⟨rfl,HC5.out⟩
end
section
variable {v : Ev} {w1 w : World} {s : Cs} {m : MM} {lo : List Int}
theorem row112_brif (hA : EvA v w1) (h : CI v w1 w s) {k : Nat} {o : Opn} (hw : CW s k o) (hB : o.B.size ≤ 1000000) (hR : o.R.size ≤ 1000000) (hL : ∀ p ∈ s.op,p.P.size ≤ 8 ∧ p.R.size ≤ 8) (a : Int) (L : Value) :
  Calls Tryz.prog 87 #[.pointer (some ⟨v.C,0,none⟩),.agg #[.int .u8 8,.int .i64 a,L]] w (Rowz v w1 s.pc (orE (labE s a) (orE (askE s o (brg (labO s a) ++ ⟨#[119]⟩)) (askE s o ⟨#[119]⟩))) (takeS s ⟨#[119]⟩)):=by
 have BW:=below_new w (.cells #[.int .u8 8,.int .i64 a,L] 82)
 have x1 : (w.alloc (.cells #[.int .u8 8,.int .i64 a,L] 82)).cell? ⟨w.heap.size,1,none⟩ = some (.int .i64 a):=by simp [go_sem]
 have x2 : (w.alloc (.cells #[.int .u8 8,.int .i64 a,L] 82)).cell? ⟨w.heap.size,2,none⟩ = some (L):=by simp [go_sem]
 have HC:=hid (h.later hA BW)
 obtain ⟨E,hE⟩ : ∃ E,orE (labE s a) (orE (askE s o (brg (labO s a) ++ ⟨#[119]⟩)) (askE s o ⟨#[119]⟩)) = E:=⟨_,rfl⟩
 rw [hE]
 have HE:=hid hE
 clear hE h BW
 by_cases hl : labE s a = 0
 rotate_left
 ·have hE : E = 31:=by rw [← HE.out,orE_l hl]; exact (labE_no hw.len hl).1
  subst hE
  go_enter Tryz.func87,Tryz.ntmps87
  go_wp2_with fail
  refine (label170_bad hA HC.out hw a hl).mono ?_
  rintro e w2 ⟨rfl,hb⟩
  exact ⟨rfl,.inr ⟨by decide,rfl,(HC.out.later hA hb).bad⟩⟩
 have h8:=brg_le hL (labO_mem hw hl)
 rw [orE_r hl] at HE
 go_enter Tryz.func87,Tryz.ntmps87
 go_wp2_with fail
 refine (label170 HC.out hw a hl).mono ?_
 rintro e w2 ⟨b,i,rfl,hb,y0,y1,y3⟩
 have HC2:=hid (HC.out.later hA hb)
 clear hb x1 x2 HC
 go_wp2_with fail
 refine (brings_of y0 y1 y3).mono ?_
 rintro e w3 ⟨rfl,hw3⟩
 obtain rfl:=hw3.symm
 clear y0 y1 y3 hw3
 generalize brg (labO s a) = Y at *
 have HY1 : (Y ++ ⟨#[119]⟩ : ByteArray).size ≤ 1000000:=by rw [ByteArray.size_append]; exact (show Y.size + 1 ≤ 1000000 by omega)
 go_wp2_with fail
 generalize hYW : (Y ++ ⟨#[119]⟩ : ByteArray) = YW at HE HY1 ⊢
 clear hYW
 refine (ask169 hA HC2.out hw YW HY1).mono ?_
 rintro e w4 (⟨h0,rfl,hb⟩ | ⟨h0,rfl,hb⟩)
 rotate_left
 ·have hE : E = askE s o YW:=by rw [← HE.out,orE_l h0]
  exact ⟨rfl,.inr ⟨by rw [hE]; exact h0,(congrArg thv hE).symm,(HC2.out.later hA hb).bad⟩⟩
 rw [orE_r h0] at HE
 have HC3:=hid (HC2.out.later hA hb)
 clear hb h0
 go_wp2_with fail
 refine (take173 hA HC3.out hw ⟨#[119]⟩ (show (1 : Nat) ≤ 1000000 by omega)).mono ?_
 rintro e w5 (⟨h0,rfl,hc,hk⟩ | ⟨h0,rfl,hb⟩)
 rotate_left
 ·have hE : E = askE s o ⟨#[119]⟩:=HE.out.symm
  exact ⟨rfl,.inr ⟨by rw [hE]; exact h0,(congrArg thv hE).symm,hb⟩⟩
 have hE : E = 0:=HE.out.symm.trans h0
 subst hE
 have HC5:=hid hc
 clear hc hk
 go_wp2_with fail
 go_end0
 first | exact .inl ⟨rfl,rfl,HC5.out⟩ | exact ⟨rfl,HC5.out⟩
end
section
variable {v : Ev} {w1 w : World} {s : Cs} {m : MM} {lo : List Int}
theorem row112_brtable (hA : EvA v w1) (h : CI v w1 w s) {k : Nat} {o : Opn} (hw : CW s k o) (hB : o.B.size ≤ 1000000) (hR : o.R.size ≤ 1000000) (hL : ∀ p ∈ s.op,p.P.size ≤ 8 ∧ p.R.size ≤ 8) (a : Int) (la : Option Addr) (ln lc : Nat) (l : List Int) (hl : SegJ w1 la ln lc l) (hn : 0 < ln) (hS : ∀ b off,la = some ⟨b,off,none⟩ → ln ≠ 0 → ¬ v.S b):
  Calls Tryz.prog 87 #[.pointer (some ⟨v.C,0,none⟩),.agg #[.int .u8 9,.int .i64 a,.slice la ln lc]] w (Rowz v w1 s.pc (orE (comE s l) (orE (askE s o (brg (labO s (l.getD 0 0)) ++ ⟨#[119]⟩)) (pushE o.B o.R))) (leaveS s o)):=by
 have BW:=below_new w (.cells #[.int .u8 9,.int .i64 a,.slice la ln lc] 82)
 have x1 : (w.alloc (.cells #[.int .u8 9,.int .i64 a,.slice la ln lc] 82)).cell? ⟨w.heap.size,1,none⟩ = some (.int .i64 a):=by simp [go_sem]
 have x2 : (w.alloc (.cells #[.int .u8 9,.int .i64 a,.slice la ln lc] 82)).cell? ⟨w.heap.size,2,none⟩ = some (.slice la ln lc):=by simp [go_sem]
 have HC:=hid (h.later hA BW)
 obtain ⟨E,hE⟩ : ∃ E,orE (comE s l) (orE (askE s o (brg (labO s (l.getD 0 0)) ++ ⟨#[119]⟩)) (pushE o.B o.R)) = E:=⟨_,rfl⟩
 rw [hE]
 have HE:=hid hE
 clear hE h BW
 have HCM:=hid (common174 hA HC.out hw la ln lc l hl hn hS)
 have h8 : comE s l = 0 → (brg (labO s (l.getD 0 0))).size ≤ 8:=by
  intro h0
  have : labE s (l.getD 0 0) = 0:=by
   unfold comE at h0
   split at h0
   ·rename_i hall
    rw [List.all_eq_true] at hall
    have hlen:=hl.1
    have hm : l.getD 0 0 ∈ l:=by
     rw [List.getD_eq_getElem?_getD,List.getElem?_eq_getElem (by omega)]
     exact List.getElem_mem _
    simpa using hall _ hm
   ·cases h0
  exact brg_le hL (labO_mem hw this)
 generalize comE s l = E1 at *
 generalize brg (labO s (l.getD 0 0)) = Y at *
 clear hl hS
 go_enter Tryz.func87,Tryz.ntmps87
 go_wp2_with fail
 refine HCM.out.mono ?_
 rintro e w2 (⟨h0,rfl,hb⟩ | ⟨h0,rfl,hb⟩)
 rotate_left
 ·have hE : E = E1:=by rw [← HE.out,orE_l h0]
  exact ⟨rfl,.inr ⟨by rw [hE]; exact h0,(congrArg thv hE).symm,(HC.out.later hA hb).bad⟩⟩
 have h8':=h8 h0
 have HY1 : (Y ++ ⟨#[119]⟩ : ByteArray).size ≤ 1000000:=by rw [ByteArray.size_append]; exact (show Y.size + 1 ≤ 1000000 by omega)
 rw [orE_r h0] at HE
 have HC2:=hid (HC.out.later hA hb)
 clear hb h0 h8 HCM HC x1 x2
 go_wp2_with fail
 generalize hYW : (Y ++ ⟨#[119]⟩ : ByteArray) = YW at HE HY1 ⊢
 clear hYW
 refine (ask169 hA HC2.out hw YW HY1).mono ?_
 rintro e w4 (⟨h0,rfl,hb⟩ | ⟨h0,rfl,hb⟩)
 rotate_left
 ·have hE : E = askE s o YW:=by rw [← HE.out,orE_l h0]
  exact ⟨rfl,.inr ⟨by rw [hE]; exact h0,(congrArg thv hE).symm,(HC2.out.later hA hb).bad⟩⟩
 rw [orE_r h0] at HE
 have HC3:=hid (HC2.out.later hA hb)
 clear hb h0
 go_wp2_with fail
 refine (leave172 hA HC3.out hw hB hR).mono ?_
 rintro e w5 (⟨h0,rfl,hc,hk⟩ | ⟨h0,rfl,hb⟩)
 rotate_left
 ·have hE : E = pushE o.B o.R:=HE.out.symm
  exact ⟨rfl,.inr ⟨by rw [hE]; exact h0,(congrArg thv hE).symm,hb⟩⟩
 have hE : E = 0:=HE.out.symm.trans h0
 subst hE
 have HC5:=hid hc
 clear hc hk
 go_wp2_with fail
 go_end0
 first | exact .inl ⟨rfl,rfl,HC5.out⟩ | exact ⟨rfl,HC5.out⟩
end
section
variable {v : Ev} {w1 w : World} {s : Cs} {m : MM} {lo : List Int}
theorem row112_open2 (hA : EvA v w1) (hM : EvM v w1 m lo) (h : CI v w1 w s) {k : Nat} {o : Opn} (hw : CW s k o) {q : Nat} {P R : ByteArray} (L : Value) (hP : m.types[q]? = some (P,R)) (hpn : s.pc < v.n) (hn : v.n ≤ 1000000) (hk : k < 63) :
  Calls Tryz.prog 87 #[.pointer (some ⟨v.C,0,none⟩),.agg #[.int .u8 2,.int .i64 q,L]] w (Rowz v w1 s.pc (orE (askE s o (P ++ ⟨#[]⟩)) (askE s o ⟨#[]⟩)) (entS s 2 ⟨#[]⟩ P R)):=by
 have BW:=below_new w (.cells #[.int .u8 2,.int .i64 q,L] 82)
 have H1:=hid (enter166 hA hM (h.later hA BW) hw (c:=2) L ⟨#[]⟩ (show (0 : Nat) ≤ 1 by omega) hP (by omega) (by omega) hpn hn hk)
 generalize orE (askE s o (P ++ ⟨#[]⟩)) (askE s o ⟨#[]⟩) = E at *
 generalize entS s 2 ⟨#[]⟩ P R = S' at *
 clear h BW
 have x0 : (w.alloc (.cells #[.int .u8 2,.int .i64 q,L] 82)).cell? ⟨w.heap.size,0,none⟩ = some (.int .u8 2):=by simp [go_sem]
 have x1 : (w.alloc (.cells #[.int .u8 2,.int .i64 q,L] 82)).cell? ⟨w.heap.size,1,none⟩ = some (.int .i64 q):=by simp [go_sem]
 have x2 : (w.alloc (.cells #[.int .u8 2,.int .i64 q,L] 82)).cell? ⟨w.heap.size,2,none⟩ = some L:=by simp [go_sem]
 go_enter Tryz.func87,Tryz.ntmps87
 go_wp2_with fail
 refine H1.out.mono ?_
 rintro e w2 (⟨h0,rfl,hc⟩ | ⟨h0,rfl,hb⟩)
 ·have HC:=hid hc
  clear hc
  go_wp2_with fail
  go_end0
  exact .inl ⟨h0,rfl,HC.out⟩
 ·exact ⟨rfl,.inr ⟨h0,rfl,hb⟩⟩
theorem row112_open2_no (hA : EvA v w1) (hM : EvM v w1 m lo) (h : CI v w1 w s) {z : Int} (L : Value) (hz : z < 0 ∨ (m.tn : Int) ≤ z) (S' : Cs) :
  Calls Tryz.prog 87 #[.pointer (some ⟨v.C,0,none⟩),.agg #[.int .u8 2,.int .i64 z,L]] w (Rowz v w1 s.pc 30 S'):=by
 have BW:=below_new w (.cells #[.int .u8 2,.int .i64 z,L] 82)
 have H1:=hid (enter166_no hA hM (h.later hA BW) (c:=2) L ⟨#[]⟩ hz)
 clear h BW
 have x0 : (w.alloc (.cells #[.int .u8 2,.int .i64 z,L] 82)).cell? ⟨w.heap.size,0,none⟩ = some (.int .u8 2):=by simp [go_sem]
 have x1 : (w.alloc (.cells #[.int .u8 2,.int .i64 z,L] 82)).cell? ⟨w.heap.size,1,none⟩ = some (.int .i64 z):=by simp [go_sem]
 have x2 : (w.alloc (.cells #[.int .u8 2,.int .i64 z,L] 82)).cell? ⟨w.heap.size,2,none⟩ = some L:=by simp [go_sem]
 go_enter Tryz.func87,Tryz.ntmps87
 go_wp2_with fail
 refine H1.out.mono ?_
 rintro e w2 ⟨rfl,hb⟩
 exact ⟨rfl,.inr ⟨by decide,rfl,hb⟩⟩
theorem row112_open3 (hA : EvA v w1) (hM : EvM v w1 m lo) (h : CI v w1 w s) {k : Nat} {o : Opn} (hw : CW s k o) {q : Nat} {P R : ByteArray} (L : Value) (hP : m.types[q]? = some (P,R)) (hpn : s.pc < v.n) (hn : v.n ≤ 1000000) (hk : k < 63) :
  Calls Tryz.prog 87 #[.pointer (some ⟨v.C,0,none⟩),.agg #[.int .u8 3,.int .i64 q,L]] w (Rowz v w1 s.pc (orE (askE s o (P ++ ⟨#[]⟩)) (askE s o ⟨#[]⟩)) (entS s 3 ⟨#[]⟩ P R)):=by
 have BW:=below_new w (.cells #[.int .u8 3,.int .i64 q,L] 82)
 have H1:=hid (enter166 hA hM (h.later hA BW) hw (c:=3) L ⟨#[]⟩ (show (0 : Nat) ≤ 1 by omega) hP (by omega) (by omega) hpn hn hk)
 generalize orE (askE s o (P ++ ⟨#[]⟩)) (askE s o ⟨#[]⟩) = E at *
 generalize entS s 3 ⟨#[]⟩ P R = S' at *
 clear h BW
 have x0 : (w.alloc (.cells #[.int .u8 3,.int .i64 q,L] 82)).cell? ⟨w.heap.size,0,none⟩ = some (.int .u8 3):=by simp [go_sem]
 have x1 : (w.alloc (.cells #[.int .u8 3,.int .i64 q,L] 82)).cell? ⟨w.heap.size,1,none⟩ = some (.int .i64 q):=by simp [go_sem]
 have x2 : (w.alloc (.cells #[.int .u8 3,.int .i64 q,L] 82)).cell? ⟨w.heap.size,2,none⟩ = some L:=by simp [go_sem]
 go_enter Tryz.func87,Tryz.ntmps87
 go_wp2_with fail
 refine H1.out.mono ?_
 rintro e w2 (⟨h0,rfl,hc⟩ | ⟨h0,rfl,hb⟩)
 ·have HC:=hid hc
  clear hc
  go_wp2_with fail
  go_end0
  exact .inl ⟨h0,rfl,HC.out⟩
 ·exact ⟨rfl,.inr ⟨h0,rfl,hb⟩⟩
theorem row112_open3_no (hA : EvA v w1) (hM : EvM v w1 m lo) (h : CI v w1 w s) {z : Int} (L : Value) (hz : z < 0 ∨ (m.tn : Int) ≤ z) (S' : Cs) :
  Calls Tryz.prog 87 #[.pointer (some ⟨v.C,0,none⟩),.agg #[.int .u8 3,.int .i64 z,L]] w (Rowz v w1 s.pc 30 S'):=by
 have BW:=below_new w (.cells #[.int .u8 3,.int .i64 z,L] 82)
 have H1:=hid (enter166_no hA hM (h.later hA BW) (c:=3) L ⟨#[]⟩ hz)
 clear h BW
 have x0 : (w.alloc (.cells #[.int .u8 3,.int .i64 z,L] 82)).cell? ⟨w.heap.size,0,none⟩ = some (.int .u8 3):=by simp [go_sem]
 have x1 : (w.alloc (.cells #[.int .u8 3,.int .i64 z,L] 82)).cell? ⟨w.heap.size,1,none⟩ = some (.int .i64 z):=by simp [go_sem]
 have x2 : (w.alloc (.cells #[.int .u8 3,.int .i64 z,L] 82)).cell? ⟨w.heap.size,2,none⟩ = some L:=by simp [go_sem]
 go_enter Tryz.func87,Tryz.ntmps87
 go_wp2_with fail
 refine H1.out.mono ?_
 rintro e w2 ⟨rfl,hb⟩
 exact ⟨rfl,.inr ⟨by decide,rfl,hb⟩⟩
theorem row112_open4 (hA : EvA v w1) (hM : EvM v w1 m lo) (h : CI v w1 w s) {k : Nat} {o : Opn} (hw : CW s k o) {q : Nat} {P R : ByteArray} (L : Value) (hP : m.types[q]? = some (P,R)) (hpn : s.pc < v.n) (hn : v.n ≤ 1000000) (hk : k < 63) :
  Calls Tryz.prog 87 #[.pointer (some ⟨v.C,0,none⟩),.agg #[.int .u8 4,.int .i64 q,L]] w (Rowz v w1 s.pc (orE (askE s o (P ++ ⟨#[119]⟩)) (askE s o ⟨#[119]⟩)) (entS s 4 ⟨#[119]⟩ P R)):=by
 have BW:=below_new w (.cells #[.int .u8 4,.int .i64 q,L] 82)
 have H1:=hid (enter166 hA hM (h.later hA BW) hw (c:=4) L ⟨#[119]⟩ (show (1 : Nat) ≤ 1 by omega) hP (by omega) (by omega) hpn hn hk)
 generalize orE (askE s o (P ++ ⟨#[119]⟩)) (askE s o ⟨#[119]⟩) = E at *
 generalize entS s 4 ⟨#[119]⟩ P R = S' at *
 clear h BW
 have x0 : (w.alloc (.cells #[.int .u8 4,.int .i64 q,L] 82)).cell? ⟨w.heap.size,0,none⟩ = some (.int .u8 4):=by simp [go_sem]
 have x1 : (w.alloc (.cells #[.int .u8 4,.int .i64 q,L] 82)).cell? ⟨w.heap.size,1,none⟩ = some (.int .i64 q):=by simp [go_sem]
 have x2 : (w.alloc (.cells #[.int .u8 4,.int .i64 q,L] 82)).cell? ⟨w.heap.size,2,none⟩ = some L:=by simp [go_sem]
 go_enter Tryz.func87,Tryz.ntmps87
 go_wp2_with fail
 refine H1.out.mono ?_
 rintro e w2 (⟨h0,rfl,hc⟩ | ⟨h0,rfl,hb⟩)
 ·have HC:=hid hc
  clear hc
  go_wp2_with fail
  go_end0
  exact .inl ⟨h0,rfl,HC.out⟩
 ·exact ⟨rfl,.inr ⟨h0,rfl,hb⟩⟩
theorem row112_open4_no (hA : EvA v w1) (hM : EvM v w1 m lo) (h : CI v w1 w s) {z : Int} (L : Value) (hz : z < 0 ∨ (m.tn : Int) ≤ z) (S' : Cs) :
  Calls Tryz.prog 87 #[.pointer (some ⟨v.C,0,none⟩),.agg #[.int .u8 4,.int .i64 z,L]] w (Rowz v w1 s.pc 30 S'):=by
 have BW:=below_new w (.cells #[.int .u8 4,.int .i64 z,L] 82)
 have H1:=hid (enter166_no hA hM (h.later hA BW) (c:=4) L ⟨#[119]⟩ hz)
 clear h BW
 have x0 : (w.alloc (.cells #[.int .u8 4,.int .i64 z,L] 82)).cell? ⟨w.heap.size,0,none⟩ = some (.int .u8 4):=by simp [go_sem]
 have x1 : (w.alloc (.cells #[.int .u8 4,.int .i64 z,L] 82)).cell? ⟨w.heap.size,1,none⟩ = some (.int .i64 z):=by simp [go_sem]
 have x2 : (w.alloc (.cells #[.int .u8 4,.int .i64 z,L] 82)).cell? ⟨w.heap.size,2,none⟩ = some L:=by simp [go_sem]
 go_enter Tryz.func87,Tryz.ntmps87
 go_wp2_with fail
 refine H1.out.mono ?_
 rintro e w2 ⟨rfl,hb⟩
 exact ⟨rfl,.inr ⟨by decide,rfl,hb⟩⟩
theorem row112_else (hA : EvA v w1) (h : CI v w1 w s) {k : Nat} {o : Opn} (hw : CW s k o) (hB : o.B.size ≤ 1000000) (hR : o.R.size ≤ 1000000) (hP : o.P.size ≤ 1000000) (a : Int) (L : Value) :
  Calls Tryz.prog 87 #[.pointer (some ⟨v.C,0,none⟩),.agg #[.int .u8 5,.int .i64 a,L]] w (Rowz v w1 s.pc (lefE s o) (othS s o)):=by
 have BW:=below_new w (.cells #[.int .u8 5,.int .i64 a,L] 82)
 have H1:=hid (otherwise167 hA (h.later hA BW) hw hB hR hP)
 generalize lefE s o = E at *
 clear h BW
 go_enter Tryz.func87,Tryz.ntmps87
 go_wp2_with fail
 refine H1.out.mono ?_
 rintro e w2 (⟨h0,rfl,hc,hk⟩ | ⟨h0,rfl,hb⟩)
 ·have HC:=hid hc
  clear hc hk
  go_wp2_with fail
  go_end0
  exact .inl ⟨h0,rfl,HC.out⟩
 ·exact ⟨rfl,.inr ⟨h0,rfl,hb⟩⟩
theorem row112_end (hA : EvA v w1) (h : CI v w1 w s) {k : Nat} {o : Opn} (hw : CW s k o) (hB : o.B.size ≤ 1000000) (hR : o.R.size ≤ 1000000) (hP : o.P.size ≤ 1000000) (a : Int) (L : Value)
  {p : Nat} {el : Int} (hp : o.pc = p) (hpn : p < v.n) (hn : v.n ≤ 1000000) (hel : w.cell? ⟨v.EL,p,none⟩ = some (.int .i64 el)) :
  Calls Tryz.prog 87 #[.pointer (some ⟨v.C,0,none⟩),.agg #[.int .u8 6,.int .i64 a,L]] w (Rowz v w1 s.pc (orE (lefE s o) (elsE o el)) (endS s)):=by
 have BW:=below_new w (.cells #[.int .u8 6,.int .i64 a,L] 82)
 have H1:=hid (end168 hA (h.later hA BW) hw hB hR hP hp hpn hn (later_cell BW hel))
 generalize orE (lefE s o) (elsE o el) = E at *
 clear h BW hel
 go_enter Tryz.func87,Tryz.ntmps87
 go_wp2_with fail
 refine H1.out.mono ?_
 rintro e w2 (⟨h0,rfl,hc,hk⟩ | ⟨h0,rfl,hb⟩)
 ·have HC:=hid hc
  clear hc hk
  go_wp2_with fail
  go_end0
  exact .inl ⟨h0,rfl,HC.out⟩
 ·exact ⟨rfl,.inr ⟨h0,rfl,hb⟩⟩
end
section
variable {v : Ev} {w1 w : World} {s : Cs} {m : MM} {lo : List Int}
def goesOn (c : Int) : Prop:=c ≠ 0 ∧ c ≠ 2 ∧ c ≠ 3 ∧ c ≠ 4 ∧ c ≠ 5 ∧ c ≠ 6 ∧ c ≠ 7 ∧ c ≠ 8 ∧ c ≠ 9 ∧ c ≠ 10
theorem row112_eff (hA : EvA v w1) (h : CI v w1 w s) {k : Nat} {o : Opn} (hw : CW s k o) {c a : Int} (L : Value) (hc : goesOn c) {E1 : Int} {P R : ByteArray} (hP : P.size ≤ 1000) (hR : R.size ≤ 1000)
  (heff : ∀ W,CI v w1 W s → Calls Tryz.prog 128 #[.pointer (some ⟨v.C,0,none⟩),.agg #[.int .u8 c,.int .i64 a,L]] W (Rdz W E1 (.agg #[.string P,.string R]))) :
  Calls Tryz.prog 87 #[.pointer (some ⟨v.C,0,none⟩),.agg #[.int .u8 c,.int .i64 a,L]] w (Rowz v w1 s.pc (orE E1 (orE (askE s o P) (pushE (takeS s P).st R))) (putS (takeS s P) R)):=by
 obtain ⟨p0,p2,p3,p4,p5,p6,p7,p8,p9,p10⟩:=hc
 have BW:=below_new w (.cells #[.int .u8 c,.int .i64 a,L] 82)
 have x0 : (w.alloc (.cells #[.int .u8 c,.int .i64 a,L] 82)).cell? ⟨w.heap.size,0,none⟩ = some (.int .u8 c):=by simp [go_sem]
 have x1 : (w.alloc (.cells #[.int .u8 c,.int .i64 a,L] 82)).cell? ⟨w.heap.size,1,none⟩ = some (.int .i64 a):=by simp [go_sem]
 have x2 : (w.alloc (.cells #[.int .u8 c,.int .i64 a,L] 82)).cell? ⟨w.heap.size,2,none⟩ = some L:=by simp [go_sem]
 have HC:=hid (h.later hA BW)
 have HF:=hid heff
 obtain ⟨E,hE⟩ : ∃ E,orE E1 (orE (askE s o P) (pushE (takeS s P).st R)) = E:=⟨_,rfl⟩
 rw [hE]
 have HE:=hid hE
 clear hE h BW heff
 go_enter Tryz.func87,Tryz.ntmps87
 go_wp2_with fail
 generalize w.alloc (.cells #[.int .u8 c,.int .i64 a,L] 82) = W0 at *
 refine (HF.out _ HC.out).mono ?_
 rintro e w2 (⟨h0,rfl,hb⟩ | ⟨h0,rfl,hb⟩)
 rotate_left
 ·have hE : E = E1:=by rw [← HE.out,orE_l h0]
  exact ⟨rfl,.inr ⟨by rw [hE]; exact h0,(congrArg thv hE).symm,(HC.out.later hA hb).bad⟩⟩
 rw [orE_r h0] at HE
 have HC2:=hid (HC.out.later hA hb)
 have BN:=below_new w2 (.cells #[.string P,.string R] 114)
 have HC3:=hid (HC2.out.later hA BN)
 have g0 : (w2.alloc (.cells #[.string P,.string R] 114)).cell? ⟨w2.heap.size,0,none⟩ = some (.string P):=by simp [go_sem]
 have g1 : (w2.alloc (.cells #[.string P,.string R] 114)).cell? ⟨w2.heap.size,1,none⟩ = some (.string R):=by simp [go_sem]
 have hGC : w2.heap.size ≠ v.C:=by have:=hA.c; have:=HC2.out.kept.size; omega
 have HT:=hid (take173 hA HC3.out hw P (by omega))
 clear hb h0 BN x0 x1 x2 HC HF
 go_wp2_with fail
 refine HT.out.mono ?_
 rintro e w4 (⟨h0,rfl,hc,hk⟩ | ⟨h0,rfl,hb⟩)
 rotate_left
 ·have hE : E = askE s o P:=by rw [← HE.out,orE_l h0]
  exact ⟨rfl,.inr ⟨by rw [hE]; exact h0,(congrArg thv hE).symm,hb⟩⟩
 rw [orE_r h0] at HE
 have y1:=hk.cell g1 hGC
 have hst : (takeS s P).st.size ≤ 1000000:=by
  have:=hw.big
  simp [takeS]; omega
 have HP:=hid (put176 hA hc R hst (by omega))
 clear g0 g1 h0 hc hk HT HC2 HC3
 go_wp2_with fail
 refine HP.out.mono ?_
 rintro e w5 (⟨h0,rfl,hc,hk⟩ | ⟨h0,rfl,hb⟩)
 rotate_left
 ·have hE : E = pushE (takeS s P).st R:=HE.out.symm
  exact ⟨rfl,.inr ⟨by rw [hE]; exact h0,(congrArg thv hE).symm,hb⟩⟩
 have hE : E = 0:=HE.out.symm.trans h0
 subst hE
 have HC5:=hid hc
 clear hc hk y1
 go_wp2_with fail
 go_end0
 first | exact .inl ⟨rfl,rfl,HC5.out⟩ | exact ⟨rfl,HC5.out⟩
end
def tyAt (m : MM) (i : Int) : Sg:=m.types.getD i.toNat (⟨#[]⟩,⟨#[]⟩)
def fnTy (m : MM) (i : Int) : Int:=((m.fns[i.toNat]?).map (fun f => f.1)).getD 0
def glC (m : MM) (i : Int) : Int:=((m.globals[i.toNat]?).map (fun g => g.1)).getD 0
def glM (m : MM) (i : Int) : Bool:=((m.globals[i.toNat]?).map (fun g => g.2.1)).getD false
def efE (m : MM) (lo : List Int) (s : Cs) (o : Opn) (c a : Int) : Int :=
 if c = 11 then chkIdx m.fn a
 else if c = 12 then chkIdx m.hn a
 else if c = 16 then letE s o 0
 else if c = 17 then letE s o 1
 else if c = 18 ∨ c = 19 ∨ c = 20 then chkIdx lo.length a
 else if c = 21 ∨ c = 22 then orE (chkIdx m.gn a) (if c = 21 ∨ glM m a = true then 0 else 39)
 else 0
def efV (m : MM) (lo : List Int) (s : Cs) (o : Opn) (c a : Int) : Sg :=
 if c = 11 then tyAt m (fnTy m a)
 else if c = 12 then tyAt m (m.hosts.getD a.toNat 0)
 else if c = 16 then (letV s o 0,⟨#[]⟩)
 else if c = 17 then (letV s o 1 ++ letV s o 1 ++ ⟨#[119]⟩,letV s o 1)
 else if c = 18 ∨ c = 19 ∨ c = 20 then (hldP c (ltr (lo.getD a.toNat 0)),hldR c (ltr (lo.getD a.toNat 0)))
 else if c = 21 ∨ c = 22 then (hldP c (ltr (glC m a)),hldR c (ltr (glC m a)))
 else ((ofV c).1.2.2.2.1,(ofV c).1.2.2.2.2.1)
theorem idx_cases (n : Nat) (a : Int) : (chkIdx n a = 30 ∧ (a < 0 ∨ (n : Int) ≤ a)) ∨ (chkIdx n a = 0 ∧ ∃ q : Nat,a = q ∧ q < n):=by
 unfold chkIdx
 by_cases h : a < 0 ∨ (n : Int) ≤ a
 ·exact .inl ⟨if_pos h,h⟩
 ·exact .inr ⟨if_neg h,a.toNat,by omega,by omega⟩
theorem rdz_bad {w : World} {E : Int} {val val' : Value} (hE : E ≠ 0) {e : Ending} {w' : World} (h : Rdz w E val e w') : Rdz w E val' e w':=by
 rcases h with ⟨h0,_⟩ | h
 ·exact absurd h0 hE
 ·exact .inr h
section
variable {v : Ev} {w1 w : World} {s : Cs} {m : MM} {lo : List Int}
theorem getD_of {α : Type} {l : List α} {q : Nat} {d x : α} (h : l[q]? = some x) : l.getD q d = x:=by rw [List.getD_eq_getElem?_getD,h]; rfl
theorem effect175 (hA : EvA v w1) (hM : EvM v w1 m lo) (h : CI v w1 w s) {k : Nat} {o : Opn} (hw : CW s k o) {c a : Int} (L : Value) (h0 : 0 ≤ c) (h1 : c ≤ 255) :
  Calls Tryz.prog 128 #[.pointer (some ⟨v.C,0,none⟩),.agg #[.int .u8 c,.int .i64 a,L]] w (Rdz w (efE m lo s o c a) (.agg #[.string (efV m lo s o c a).1,.string (efV m lo s o c a).2])):=by
 have hft : ∀ i : Int,0 ≤ i → i < m.tn → ∃ P R t,i = (t : Nat) ∧ m.types[t]? = some (P,R) ∧ tyAt m i = (P,R):=by
  intro i hi0 hi1
  have hlen:=hM.pt.1
  have hlt : i.toNat < m.types.length:=by omega
  refine ⟨m.types[i.toNat].1,m.types[i.toNat].2,i.toNat,by omega,List.getElem?_eq_getElem hlt,?_⟩
  unfold tyAt
  rw [getD_of (List.getElem?_eq_getElem hlt)]
 by_cases c11 : c = 11
 ·subst c11
  simp only [efE,efV,if_true]
  rcases idx_cases m.fn a with ⟨e1,hz⟩ | ⟨e1,q,rfl,hq⟩
  ·rw [e1]
   exact (effect175_call_no hA hM h L hz).mono fun e w' hh => rdz_bad (by decide) hh
  ·rw [e1]
   have hlen:=hM.pf.1
   have hget:=List.getElem?_eq_getElem (l:=m.fns) (i:=q) (by omega)
   have hf:=hM.fT _ (List.getElem_mem (by omega : q < m.fns.length))
   obtain ⟨P,R,t,ht,hP,hty⟩:=hft _ hf.1 hf.2
   have hfn : fnTy m (q : Int) = (m.fns[q]'(by omega)).1:=by simp [fnTy,hget]
   rw [hfn,hty]
   exact effect175_call hA hM h L hget ht hP
 by_cases c12 : c = 12
 ·subst c12
  have eE : efE m lo s o 12 a = chkIdx m.hn a:=by simp [efE]
  have eV : efV m lo s o 12 a = tyAt m (m.hosts.getD a.toNat 0):=by simp only [efV]; simp
  rw [eE,eV]
  rcases idx_cases m.hn a with ⟨e1,hz⟩ | ⟨e1,q,rfl,hq⟩
  ·rw [e1]
   exact (effect175_host_no hA hM h L hz).mono fun e w' hh => rdz_bad (by decide) hh
  ·rw [e1]
   have hlen:=hM.ph.1
   have hget:=List.getElem?_eq_getElem (l:=m.hosts) (i:=q) (by omega)
   have hf:=hM.hT _ (List.getElem_mem (by omega : q < m.hosts.length))
   obtain ⟨P,R,t,ht,hP,hty⟩:=hft _ hf.1 hf.2
   have hfn : m.hosts.getD (q : Int).toNat 0 = m.hosts[q]'(by omega):=getD_of hget
   rw [hfn,hty]
   exact effect175_host hA hM h L (by rw [hget,ht]) hP
 by_cases c16 : c = 16
 ·subst c16
  have : efE m lo s o 16 a = letE s o 0:=by simp [efE]
  rw [this]
  have : efV m lo s o 16 a = (letV s o 0,⟨#[]⟩):=by simp [efV]
  rw [this]
  exact effect175_drop hA h hw a L
 by_cases c17 : c = 17
 ·subst c17
  have : efE m lo s o 17 a = letE s o 1:=by simp [efE]
  rw [this]
  have : efV m lo s o 17 a = (letV s o 1 ++ letV s o 1 ++ ⟨#[119]⟩,letV s o 1):=by simp [efV]
  rw [this]
  exact effect175_select hA h hw a L
 by_cases cl : c = 18 ∨ c = 19 ∨ c = 20
 ·have eE : efE m lo s o c a = chkIdx lo.length a:=by simp [efE,c11,c12,c16,c17,cl]
  have eV : efV m lo s o c a = (hldP c (ltr (lo.getD a.toNat 0)),hldR c (ltr (lo.getD a.toNat 0))):=by simp only [efV,c11,c12,c16,c17,cl,if_false,if_true]
  rw [eE,eV]
  rcases idx_cases lo.length a with ⟨e1,hz⟩ | ⟨e1,q,rfl,hq⟩
  ·rw [e1]
   rcases cl with rfl | rfl | rfl
   ·exact (effect175_local18_no hA hM h L hz).mono fun e w' hh => rdz_bad (by decide) hh
   ·exact (effect175_local19_no hA hM h L hz).mono fun e w' hh => rdz_bad (by decide) hh
   ·exact (effect175_local20_no hA hM h L hz).mono fun e w' hh => rdz_bad (by decide) hh
  ·rw [e1]
   have hget:=List.getElem?_eq_getElem (l:=lo) (i:=q) (by omega)
   have hfn : lo.getD (q : Int).toNat 0 = lo[q]'(by omega):=getD_of hget
   rw [hfn]
   rcases cl with rfl | rfl | rfl
   ·exact effect175_local18 hA hM h L hget
   ·exact effect175_local19 hA hM h L hget
   ·exact effect175_local20 hA hM h L hget
 by_cases cg : c = 21 ∨ c = 22
 ·have eE : efE m lo s o c a = orE (chkIdx m.gn a) (if c = 21 ∨ glM m a = true then 0 else 39):=by simp only [efE,c11,c12,c16,c17,cl,cg,if_false,if_true]
  have eV : efV m lo s o c a = (hldP c (ltr (glC m a)),hldR c (ltr (glC m a))):=by simp only [efV,c11,c12,c16,c17,cl,cg,if_false,if_true]
  rw [eE,eV]
  rcases idx_cases m.gn a with ⟨e1,hz⟩ | ⟨e1,q,rfl,hq⟩
  ·rw [e1,orE_l (by decide)]
   rcases cg with rfl | rfl
   ·exact (effect175_glob21_no hA hM h L hz).mono fun e w' hh => rdz_bad (by decide) hh
   ·exact (effect175_glob22_no hA hM h L hz).mono fun e w' hh => rdz_bad (by decide) hh
  ·rw [e1,orE_r rfl]
   have hlen:=hM.pg.1
   have hget:=List.getElem?_eq_getElem (l:=m.globals) (i:=q) (by omega)
   have hm : glM m (q : Int) = (m.globals[q]'(by omega)).2.1:=by simp [glM,hget]
   have hc : glC m (q : Int) = (m.globals[q]'(by omega)).1:=by simp [glC,hget]
   rw [hm,hc]
   rcases cg with rfl | rfl
   ·exact effect175_glob21 hA hM h L hget
   ·rw [show (if (22 : Int) = 21 ∨ (m.globals[q]'(by omega)).2.1 = true then (0 : Int) else 39) = (if (22 : Nat) = 21 ∨ (m.globals[q]'(by omega)).2.1 = true then (0 : Int) else 39) by simp]
    exact effect175_glob22 hA hM h L hget
 have hpl : plainO c:=⟨c11,c12,c16,c17,fun e => cl (.inl e),fun e => cl (.inr (.inl e)),fun e => cl (.inr (.inr e)),fun e => cg (.inl e),fun e => cg (.inr e)⟩
 have eE : efE m lo s o c a = 0:=by simp only [efE,c11,c12,c16,c17,cl,cg,if_false]
 have eV : efV m lo s o c a = ((ofV c).1.2.2.2.1,(ofV c).1.2.2.2.2.1):=by simp only [efV,c11,c12,c16,c17,cl,cg,if_false]
 rw [eE,eV]
 exact effect175_plain hA hM h L hpl h0 h1
end
end Go.Proofs.YtepcmfegggdjfaaGreatDoor

/-
  Texts Vq Vr Vs Vt Vu Vv.
-/
import Derived.Test.YtkdldbfbldkkcaaGreatDoorM00
import Derived.Test.YtkdldbfbldkkcaaGreatDoorM35
set_option linter.unusedVariables false
set_option maxRecDepth 100000
set_option maxHeartbeats 16000000
namespace Go.Proofs.YtkdldbfbldkkcaaGreatDoor
open Go.RowKit
section
variable {v : Ev} {w1 w : World} {s : Cs} {m : MM} {lo : List Int}
theorem wZ (hA : EvA v w1) (h : CI v w1 w s) {k : Nat} {o : Opn} (hw : CW s k o) (hB : o.B.size ≤ 1000000) (hR : o.R.size ≤ 1000000) (hL : ∀ p ∈ s.op,p.P.size ≤ 8 ∧ p.R.size ≤ 8) (a : Int) (L : Value) :
  Calls Tryz.prog 83 #[.pointer (some ⟨v.C,0,none⟩),.agg #[.int .u8 8,.int .i64 a,L]] w (iz v w1 s.pc (orE (eF s a) (orE (bI s o (brg (dE s a) ++ ⟨#[119]⟩)) (bI s o ⟨#[119]⟩))) (cB s ⟨#[119]⟩)):=by
 have BW:=aj w (aA 8 a L);have x1 : (w.alloc (aA 8 a L)).cell? ⟨w.heap.size,1,none⟩ = some (.int .i64 a):=aB;have x2 : (w.alloc (aA 8 a L)).cell? ⟨w.heap.size,2,none⟩ = some (L):=aB;have HC:=hid (h.later hA BW);obtain ⟨E,hE⟩ : ∃ E,orE (eF s a) (orE (bI s o (brg (dE s a) ++ ⟨#[119]⟩)) (bI s o ⟨#[119]⟩)) = E:=⟨_,rfl⟩;rw [hE];have HE:=hid hE;clear hE h BW
 by_cases hl : eF s a = 0
 rotate_left
 ·exact GU
 have h8:=r9 hL (pQ hw hl);rw [kE hl] at HE
 go_enter Tryz.func83,Tryz.ntmps83
 go_wp2_with fail;refine (jJ HC.out hw a hl).mono ?_;rintro e w2 ⟨b,i,rfl,hb,y0,y1,y3⟩;have HC2:=hid (HC.out.later hA hb);clear hb x1 x2 HC;go_wp2_with fail;refine (iO y0 y1 y3).mono ?_;rintro e w3 ⟨rfl,hw3⟩;obtain rfl:=hw3.symm;clear y0 y1 y3 hw3;generalize brg (dE s a) = Y at *
 have HY1 : (Y ++ ⟨#[119]⟩ : ByteArray).size ≤ 1000000:=by rw [ByteArray.size_append]; exact (show Y.size + 1 ≤ 1000000 by omega)
 go_wp2_with fail;generalize hYW : (Y ++ ⟨#[119]⟩ : ByteArray) = YW at HE HY1 ⊢;clear hYW;refine (mX hA HC2.out hw YW HY1).mono ?_
 rintro e w4 (⟨h0,rfl,hb⟩ | ⟨h0,rfl,hb⟩)
 rotate_left
 ·exact Hk
 rw [kE h0] at HE;have HC3:=hid (HC2.out.later hA hb);clear hb h0;go_wp2_with fail
 refine (uN hA HC3.out hw ⟨#[119]⟩ (show (1 : Nat) ≤ 1000000 by omega)).mono ?_
 rintro e w5 (⟨h0,rfl,hc,hk⟩ | ⟨h0,rfl,hb⟩)
 rotate_left
 ·have hE : E = bI s o ⟨#[119]⟩:=HE.out.symm;exact oF
 exact GF
end
section
variable {v : Ev} {w1 w : World} {s : Cs} {m : MM} {lo : List Int}
theorem pz (hA : EvA v w1) (h : CI v w1 w s) {k : Nat} {o : Opn} (hw : CW s k o) (hB : o.B.size ≤ 1000000) (hR : o.R.size ≤ 1000000) (hL : ∀ p ∈ s.op,p.P.size ≤ 8 ∧ p.R.size ≤ 8) (a : Int) (la : Option Addr) (ln lc : Nat) (l : List Int) (hl : oo w1 la ln lc l) (hn : 0 < ln) (hS : ∀ b off,la = some ⟨b,off,none⟩ → ln ≠ 0 → ¬ v.S b):
  Calls Tryz.prog 83 #[.pointer (some ⟨v.C,0,none⟩),.agg #[.int .u8 9,.int .i64 a,.slice la ln lc]] w (iz v w1 s.pc (orE (ku s l) (orE (bI s o (brg (dE s (l.getD 0 0)) ++ ⟨#[119]⟩)) (bV o.B o.R))) (dQ s o)):=by
 have BW:=aj w (bG 9 a la ln lc);have x1 : (w.alloc (bG 9 a la ln lc)).cell? ⟨w.heap.size,1,none⟩ = some (.int .i64 a):=aB;have x2 : (w.alloc (bG 9 a la ln lc)).cell? ⟨w.heap.size,2,none⟩ = some (.slice la ln lc):=aB;have HC:=hid (h.later hA BW);obtain ⟨E,hE⟩ : ∃ E,orE (ku s l) (orE (bI s o (brg (dE s (l.getD 0 0)) ++ ⟨#[119]⟩)) (bV o.B o.R)) = E:=⟨_,rfl⟩;rw [hE];have HE:=hid hE;clear hE h BW;have HCM:=hid (DF hA HC.out hw la ln lc l hl hn hS)
 have h8 : ku s l = 0 → (brg (dE s (l.getD 0 0))).size ≤ 8:=by
  intro h0
  have : eF s (l.getD 0 0) = 0:=by
   unfold ku at h0
   split at h0
   ·rename_i hall
    rw [List.all_eq_true] at hall;have hlen:=hl.1
    have hm : l.getD 0 0 ∈ l:=by
     rw [List.getD_eq_getElem?_getD,ba ae];exact List.getElem_mem _
    simpa using hall _ hm
   ·cases h0
  exact r9 hL (pQ hw this)
 generalize ku s l = E1 at *;generalize brg (dE s (l.getD 0 0)) = Y at *;clear hl hS
 go_enter Tryz.func83,Tryz.ntmps83
 go_wp2_with fail;refine HCM.out.mono ?_
 rintro e w2 (⟨h0,rfl,hb⟩ | ⟨h0,rfl,hb⟩)
 rotate_left
 ·exact FQ
 have h8':=h8 h0
 have HY1 : (Y ++ ⟨#[119]⟩ : ByteArray).size ≤ 1000000:=by rw [ByteArray.size_append]; exact (show Y.size + 1 ≤ 1000000 by omega)
 rw [kE h0] at HE;have HC2:=hid (HC.out.later hA hb);clear hb h0 h8 HCM HC x1 x2;go_wp2_with fail;generalize hYW : (Y ++ ⟨#[119]⟩ : ByteArray) = YW at HE HY1 ⊢;clear hYW;refine (mX hA HC2.out hw YW HY1).mono ?_
 rintro e w4 (⟨h0,rfl,hb⟩ | ⟨h0,rfl,hb⟩)
 rotate_left
 ·exact Hk
 exact Hi
end
section
variable {v : Ev} {w1 w : World} {s : Cs} {m : MM} {lo : List Int}
theorem tO (hA : EvA v w1) (hM : EvM v w1 m lo) (h : CI v w1 w s) {k : Nat} {o : Opn} (hw : CW s k o) {q : Nat} {P R : ByteArray} (L : Value) (hP : m.types[q]? = some (P,R)) (hpn : s.pc < v.n) (hn : v.n ≤ 1000000) (hk : k < 63) :
  Calls Tryz.prog 83 #[.pointer (some ⟨v.C,0,none⟩),.agg #[.int .u8 2,.int .i64 q,L]] w (iz v w1 s.pc (orE (bI s o (P ++ ⟨#[]⟩)) (bI s o ⟨#[]⟩)) (ie s 2 ⟨#[]⟩ P R)):=by
 have BW:=aj w (aA 2 q L)
 have H1:=hid (pu hA hM (h.later hA BW) hw (c:=2) L ⟨#[]⟩ (show (0 : Nat) ≤ 1 by omega) hP ae ae hpn hn hk)
 generalize orE (bI s o (P ++ ⟨#[]⟩)) (bI s o ⟨#[]⟩) = E at *;generalize ie s 2 ⟨#[]⟩ P R = S' at *;clear h BW;have x0 : (w.alloc (aA 2 q L)).cell? ⟨w.heap.size,0,none⟩ = some (.int .u8 2):=aB;have x1 : (w.alloc (aA 2 q L)).cell? ⟨w.heap.size,1,none⟩ = some (.int .i64 q):=aB;have x2 : (w.alloc (aA 2 q L)).cell? ⟨w.heap.size,2,none⟩ = some L:=aB;exact yz
theorem ot (hA : EvA v w1) (hM : EvM v w1 m lo) (h : CI v w1 w s) {z : Int} (L : Value) (hz : z < 0 ∨ (m.tn : Int) ≤ z) (S' : Cs) :
  Calls Tryz.prog 83 #[.pointer (some ⟨v.C,0,none⟩),.agg #[.int .u8 2,.int .i64 z,L]] w (iz v w1 s.pc 30 S'):=by
 have BW:=aj w (aA 2 z L);have H1:=hid (jR hA hM (h.later hA BW) (c:=2) L ⟨#[]⟩ hz);clear h BW;have x0 : (w.alloc (aA 2 z L)).cell? ⟨w.heap.size,0,none⟩ = some (.int .u8 2):=aB;have x1 : (w.alloc (aA 2 z L)).cell? ⟨w.heap.size,1,none⟩ = some (.int .i64 z):=aB;have x2 : (w.alloc (aA 2 z L)).cell? ⟨w.heap.size,2,none⟩ = some L:=aB;exact xX
theorem sY (hA : EvA v w1) (hM : EvM v w1 m lo) (h : CI v w1 w s) {k : Nat} {o : Opn} (hw : CW s k o) {q : Nat} {P R : ByteArray} (L : Value) (hP : m.types[q]? = some (P,R)) (hpn : s.pc < v.n) (hn : v.n ≤ 1000000) (hk : k < 63) :
  Calls Tryz.prog 83 #[.pointer (some ⟨v.C,0,none⟩),.agg #[.int .u8 3,.int .i64 q,L]] w (iz v w1 s.pc (orE (bI s o (P ++ ⟨#[]⟩)) (bI s o ⟨#[]⟩)) (ie s 3 ⟨#[]⟩ P R)):=by
 have BW:=aj w (aA 3 q L)
 have H1:=hid (pu hA hM (h.later hA BW) hw (c:=3) L ⟨#[]⟩ (show (0 : Nat) ≤ 1 by omega) hP ae ae hpn hn hk)
 generalize orE (bI s o (P ++ ⟨#[]⟩)) (bI s o ⟨#[]⟩) = E at *;generalize ie s 3 ⟨#[]⟩ P R = S' at *;clear h BW;have x0 : (w.alloc (aA 3 q L)).cell? ⟨w.heap.size,0,none⟩ = some (.int .u8 3):=aB;have x1 : (w.alloc (aA 3 q L)).cell? ⟨w.heap.size,1,none⟩ = some (.int .i64 q):=aB;have x2 : (w.alloc (aA 3 q L)).cell? ⟨w.heap.size,2,none⟩ = some L:=aB;exact yz
theorem om (hA : EvA v w1) (hM : EvM v w1 m lo) (h : CI v w1 w s) {z : Int} (L : Value) (hz : z < 0 ∨ (m.tn : Int) ≤ z) (S' : Cs) :
  Calls Tryz.prog 83 #[.pointer (some ⟨v.C,0,none⟩),.agg #[.int .u8 3,.int .i64 z,L]] w (iz v w1 s.pc 30 S'):=by
 have BW:=aj w (aA 3 z L);have H1:=hid (jR hA hM (h.later hA BW) (c:=3) L ⟨#[]⟩ hz);clear h BW;have x0 : (w.alloc (aA 3 z L)).cell? ⟨w.heap.size,0,none⟩ = some (.int .u8 3):=aB;have x1 : (w.alloc (aA 3 z L)).cell? ⟨w.heap.size,1,none⟩ = some (.int .i64 z):=aB;have x2 : (w.alloc (aA 3 z L)).cell? ⟨w.heap.size,2,none⟩ = some L:=aB;exact xX
theorem ux (hA : EvA v w1) (hM : EvM v w1 m lo) (h : CI v w1 w s) {k : Nat} {o : Opn} (hw : CW s k o) {q : Nat} {P R : ByteArray} (L : Value) (hP : m.types[q]? = some (P,R)) (hpn : s.pc < v.n) (hn : v.n ≤ 1000000) (hk : k < 63) :
  Calls Tryz.prog 83 #[.pointer (some ⟨v.C,0,none⟩),.agg #[.int .u8 4,.int .i64 q,L]] w (iz v w1 s.pc (orE (bI s o (P ++ ⟨#[119]⟩)) (bI s o ⟨#[119]⟩)) (ie s 4 ⟨#[119]⟩ P R)):=by
 have BW:=aj w (aA 4 q L)
 have H1:=hid (pu hA hM (h.later hA BW) hw (c:=4) L ⟨#[119]⟩ (show (1 : Nat) ≤ 1 by omega) hP ae ae hpn hn hk)
 generalize orE (bI s o (P ++ ⟨#[119]⟩)) (bI s o ⟨#[119]⟩) = E at *;generalize ie s 4 ⟨#[119]⟩ P R = S' at *;clear h BW;have x0 : (w.alloc (aA 4 q L)).cell? ⟨w.heap.size,0,none⟩ = some (.int .u8 4):=aB;have x1 : (w.alloc (aA 4 q L)).cell? ⟨w.heap.size,1,none⟩ = some (.int .i64 q):=aB;have x2 : (w.alloc (aA 4 q L)).cell? ⟨w.heap.size,2,none⟩ = some L:=aB;exact yz
theorem nX (hA : EvA v w1) (hM : EvM v w1 m lo) (h : CI v w1 w s) {z : Int} (L : Value) (hz : z < 0 ∨ (m.tn : Int) ≤ z) (S' : Cs) :
  Calls Tryz.prog 83 #[.pointer (some ⟨v.C,0,none⟩),.agg #[.int .u8 4,.int .i64 z,L]] w (iz v w1 s.pc 30 S'):=by
 have BW:=aj w (aA 4 z L);have H1:=hid (jR hA hM (h.later hA BW) (c:=4) L ⟨#[119]⟩ hz);clear h BW;have x0 : (w.alloc (aA 4 z L)).cell? ⟨w.heap.size,0,none⟩ = some (.int .u8 4):=aB;have x1 : (w.alloc (aA 4 z L)).cell? ⟨w.heap.size,1,none⟩ = some (.int .i64 z):=aB;have x2 : (w.alloc (aA 4 z L)).cell? ⟨w.heap.size,2,none⟩ = some L:=aB;exact xX
theorem vV (hA : EvA v w1) (h : CI v w1 w s) {k : Nat} {o : Opn} (hw : CW s k o) (hB : o.B.size ≤ 1000000) (hR : o.R.size ≤ 1000000) (hP : o.P.size ≤ 1000000) (a : Int) (L : Value) :
  Calls Tryz.prog 83 #[.pointer (some ⟨v.C,0,none⟩),.agg #[.int .u8 5,.int .i64 a,L]] w (iz v w1 s.pc (iK s o) (Dz s o)):=by
 have BW:=aj w (aA 5 a L);have H1:=hid (ui hA (h.later hA BW) hw hB hR hP);generalize iK s o = E at *;exact Ih
theorem yD (hA : EvA v w1) (h : CI v w1 w s) {k : Nat} {o : Opn} (hw : CW s k o) (hB : o.B.size ≤ 1000000) (hR : o.R.size ≤ 1000000) (hP : o.P.size ≤ 1000000) (a : Int) (L : Value)
  {p : Nat} {el : Int} (hp : o.pc = p) (hpn : p < v.n) (hn : v.n ≤ 1000000) (hel : w.cell? ⟨v.EL,p,none⟩ = some (.int .i64 el)) :
  Calls Tryz.prog 83 #[.pointer (some ⟨v.C,0,none⟩),.agg #[.int .u8 6,.int .i64 a,L]] w (iz v w1 s.pc (orE (iK s o) (jx o el)) (rR s)):=by
 have BW:=aj w (aA 6 a L);have H1:=hid (Me hA (h.later hA BW) hw hB hR hP hp hpn hn (ag BW hel));generalize orE (iK s o) (jx o el) = E at *;clear h BW hel
 go_enter Tryz.func83,Tryz.ntmps83
 go_wp2_with fail;refine H1.out.mono ?_
 rintro e w2 (⟨h0,rfl,hc,hk⟩ | ⟨h0,rfl,hb⟩)
 ·exact Cn
 ·exact ⟨rfl,.inr ⟨h0,rfl,hb⟩⟩
end
section
variable {v : Ev} {w1 w : World} {s : Cs} {m : MM} {lo : List Int}
def Ie (c : Int) : Prop:=c ≠ 0 ∧ c ≠ 2 ∧ c ≠ 3 ∧ c ≠ 4 ∧ c ≠ 5 ∧ c ≠ 6 ∧ c ≠ 7 ∧ c ≠ 8 ∧ c ≠ 9 ∧ c ≠ 10
theorem yi (hA : EvA v w1) (h : CI v w1 w s) {k : Nat} {o : Opn} (hw : CW s k o) {c a : Int} (L : Value) (hc : Ie c) {E1 : Int} {P R : ByteArray} (hP : P.size ≤ 1000) (hR : R.size ≤ 1000)
  (heff : ∀ W,CI v w1 W s → Calls Tryz.prog 117 #[.pointer (some ⟨v.C,0,none⟩),.agg #[.int .u8 c,.int .i64 a,L]] W (Rdz W E1 (.agg #[.string P,.string R]))) :
  Calls Tryz.prog 83 #[.pointer (some ⟨v.C,0,none⟩),.agg #[.int .u8 c,.int .i64 a,L]] w (iz v w1 s.pc (orE E1 (orE (bI s o P) (bV (cB s P).st R))) (tP (cB s P) R)):=by
 obtain ⟨p0,p2,p3,p4,p5,p6,p7,p8,p9,p10⟩:=hc;have BW:=aj w (aA c a L);have x0 : (w.alloc (aA c a L)).cell? ⟨w.heap.size,0,none⟩ = some (.int .u8 c):=aB;have x1 : (w.alloc (aA c a L)).cell? ⟨w.heap.size,1,none⟩ = some (.int .i64 a):=aB;have x2 : (w.alloc (aA c a L)).cell? ⟨w.heap.size,2,none⟩ = some L:=aB;have HC:=hid (h.later hA BW);have HF:=hid heff;obtain ⟨E,hE⟩ : ∃ E,orE E1 (orE (bI s o P) (bV (cB s P).st R)) = E:=⟨_,rfl⟩;rw [hE];have HE:=hid hE;clear hE h BW heff
 go_enter Tryz.func83,Tryz.ntmps83
 go_wp2_with fail;generalize w.alloc (aA c a L) = W0 at *;refine (HF.out _ HC.out).mono ?_
 rintro e w2 (⟨h0,rfl,hb⟩ | ⟨h0,rfl,hb⟩)
 rotate_left
 ·exact FQ
 rw [kE h0] at HE;have HC2:=hid (HC.out.later hA hb);have BN:=aj w2 (aG P R);have HC3:=hid (HC2.out.later hA BN);have g0 : (w2.alloc (aG P R)).cell? ⟨w2.heap.size,0,none⟩ = some (.string P):=aB;have g1 : (w2.alloc (aG P R)).cell? ⟨w2.heap.size,1,none⟩ = some (.string R):=aB
 have hGC : w2.heap.size ≠ v.C:=by have:=hA.c; have:=HC2.out.kept.size; omega
 have HT:=hid (uN hA HC3.out hw P ae);clear hb h0 BN x0 x1 x2 HC HF;go_wp2_with fail;refine HT.out.mono ?_
 rintro e w4 (⟨h0,rfl,hc,hk⟩ | ⟨h0,rfl,hb⟩)
 rotate_left
 ·have hE : E = bI s o P:=qO;exact oF
 rw [kE h0] at HE;have y1:=hk.cell g1 hGC
 have hst : (cB s P).st.size ≤ 1000000:=by
  have:=hw.big
  simp [cB]; omega
 have HP:=hid (Io hA hc R hst ae);clear g0 g1 h0 hc hk HT HC2 HC3;go_wp2_with fail;refine HP.out.mono ?_
 rintro e w5 (⟨h0,rfl,hc,hk⟩ | ⟨h0,rfl,hb⟩)
 rotate_left
 ·have hE : E = bV (cB s P).st R:=HE.out.symm;exact oF
 have hE : E = 0:=HE.out.symm.trans h0;subst hE;have HC5:=hid hc;clear hc hk y1;go_wp2_with fail;go_end0
 first | exact .inl ⟨rfl,rfl,HC5.out⟩ | exact ⟨rfl,HC5.out⟩
end
def cG (m : MM) (i : Int) : Sg:=m.types.getD i.toNat (⟨#[]⟩,⟨#[]⟩)
def wF (m : MM) (i : Int) : Int:=((m.fns[i.toNat]?).map (fun f => f.1)).getD 0
def glC (m : MM) (i : Int) : Int:=((m.globals[i.toNat]?).map (fun g => g.1)).getD 0
def glM (m : MM) (i : Int) : Bool:=((m.globals[i.toNat]?).map (fun g => g.2.1)).getD false
def efE (m : MM) (lo : List Int) (s : Cs) (o : Opn) (c a : Int) : Int :=
 if c = 11 then cd m.fn a
 else if c = 12 then cd m.hn a
 else if c = 16 then lN s o 0
 else if c = 17 then lN s o 1
 else if c = 18 ∨ c = 19 ∨ c = 20 then cd lo.length a
 else if c = 21 ∨ c = 22 then orE (cd m.gn a) (if c = 21 ∨ glM m a = true then 0 else 39)
 else 0
def efV (m : MM) (lo : List Int) (s : Cs) (o : Opn) (c a : Int) : Sg :=
 if c = 11 then cG m (wF m a)
 else if c = 12 then cG m (m.hosts.getD a.toNat 0)
 else if c = 16 then (iG s o 0,⟨#[]⟩)
 else if c = 17 then (iG s o 1 ++ iG s o 1 ++ ⟨#[119]⟩,iG s o 1)
 else if c = 18 ∨ c = 19 ∨ c = 20 then (jb c (ltr (lo.getD a.toNat 0)),js c (ltr (lo.getD a.toNat 0)))
 else if c = 21 ∨ c = 22 then (jb c (ltr (glC m a)),js c (ltr (glC m a)))
 else ((ofV c).1.2.2.2.1,(ofV c).1.2.2.2.2.1)
theorem gK (n : Nat) (a : Int) : (cd n a = 30 ∧ (a < 0 ∨ (n : Int) ≤ a)) ∨ (cd n a = 0 ∧ ∃ q : Nat,a = q ∧ q < n):=by
 unfold cd
 by_cases h : a < 0 ∨ (n : Int) ≤ a
 ·exact .inl ⟨if_pos h,h⟩
 ·exact .inr ⟨if_neg h,a.toNat,ae,ae⟩
theorem jf {w : World} {E : Int} {val val' : Value} (hE : E ≠ 0) {e : Ending} {w' : World} (h : Rdz w E val e w') : Rdz w E val' e w':=by
 rcases h with ⟨h0,_⟩ | h
 ·exact absurd h0 hE
 ·exact .inr h
section
variable {v : Ev} {w1 w : World} {s : Cs} {m : MM} {lo : List Int}
theorem i7 {α : Type} {l : List α} {q : Nat} {d x : α} (h : l[q]? = some x) : l.getD q d = x:=by rw [List.getD_eq_getElem?_getD,h]; rfl
theorem CZ (hA : EvA v w1) (hM : EvM v w1 m lo) (h : CI v w1 w s) {k : Nat} {o : Opn} (hw : CW s k o) {c a : Int} (L : Value) (h0 : 0 ≤ c) (h1 : c ≤ 255) :
  Calls Tryz.prog 117 #[.pointer (some ⟨v.C,0,none⟩),.agg #[.int .u8 c,.int .i64 a,L]] w (Rdz w (efE m lo s o c a) (.agg #[.string (efV m lo s o c a).1,.string (efV m lo s o c a).2])):=by
 have hft : ∀ i : Int,0 ≤ i → i < m.tn → ∃ P R t,i = (t : Nat) ∧ m.types[t]? = some (P,R) ∧ cG m i = (P,R):=by
  intro i hi0 hi1;have hlen:=hM.pt.1;have hlt : i.toNat < m.types.length:=ae;refine ⟨m.types[i.toNat].1,m.types[i.toNat].2,i.toNat,ae,ba hlt,?_⟩;unfold cG;rw [i7 (ba hlt)]
 by_cases c11 : c = 11
 ·subst c11
  simp only [efE,efV,if_true]
  rcases gK m.fn a with ⟨e1,hz⟩ | ⟨e1,q,rfl,hq⟩
  ·rw [e1]
   exact (mj hA hM h L hz).mono fun e w' hh => jf ax hh
  ·rw [e1];have hlen:=hM.pf.1;have hget:=ba (l:=m.fns) (i:=q) ae
   have hf:=hM.fT _ (List.getElem_mem (by omega : q < m.fns.length))
   obtain ⟨P,R,t,ht,hP,hty⟩:=hft _ hf.1 hf.2
   have hfn : wF m (q : Int) = (m.fns[q]'(ae)).1:=by simp [wF,hget]
   rw [hfn,hty];exact pJ hA hM h L hget ht hP
 by_cases c12 : c = 12
 ·subst c12
  have eE : efE m lo s o 12 a = cd m.hn a:=by simp [efE]
  have eV : efV m lo s o 12 a = cG m (m.hosts.getD a.toNat 0):=by simp only [efV]; simp
  rw [eE,eV]
  rcases gK m.hn a with ⟨e1,hz⟩ | ⟨e1,q,rfl,hq⟩
  ·rw [e1]
   exact (lO hA hM h L hz).mono fun e w' hh => jf ax hh
  ·rw [e1];have hlen:=hM.ph.1;have hget:=ba (l:=m.hosts) (i:=q) ae
   have hf:=hM.hT _ (List.getElem_mem (by omega : q < m.hosts.length))
   obtain ⟨P,R,t,ht,hP,hty⟩:=hft _ hf.1 hf.2;have hfn : m.hosts.getD (q : Int).toNat 0 = m.hosts[q]'(ae):=i7 hget;rw [hfn,hty]
   exact qz hA hM h L (by rw [hget,ht]) hP
 by_cases c16 : c = 16
 ·subst c16
  have : efE m lo s o 16 a = lN s o 0:=by simp [efE]
  rw [this]
  have : efV m lo s o 16 a = (iG s o 0,⟨#[]⟩):=by simp [efV]
  rw [this];exact qJ hA h hw a L
 by_cases c17 : c = 17
 ·subst c17
  have : efE m lo s o 17 a = lN s o 1:=by simp [efE]
  rw [this]
  have : efV m lo s o 17 a = (iG s o 1 ++ iG s o 1 ++ ⟨#[119]⟩,iG s o 1):=by simp [efV]
  rw [this];exact nr hA h hw a L
 by_cases cl : c = 18 ∨ c = 19 ∨ c = 20
 ·have eE : efE m lo s o c a = cd lo.length a:=by simp [efE,c11,c12,c16,c17,cl]
  have eV : efV m lo s o c a = (jb c (ltr (lo.getD a.toNat 0)),js c (ltr (lo.getD a.toNat 0))):=by simp only [efV,c11,c12,c16,c17,cl,if_false,if_true]
  rw [eE,eV]
  rcases gK lo.length a with ⟨e1,hz⟩ | ⟨e1,q,rfl,hq⟩
  ·rw [e1]
   rcases cl with rfl | rfl | rfl
   ·exact (jM hA hM h L hz).mono fun e w' hh => jf ax hh
   ·exact (jB hA hM h L hz).mono fun e w' hh => jf ax hh
   ·exact (jP hA hM h L hz).mono fun e w' hh => jf ax hh
  ·rw [e1];have hget:=ba (l:=lo) (i:=q) ae;have hfn : lo.getD (q : Int).toNat 0 = lo[q]'(ae):=i7 hget;rw [hfn]
   rcases cl with rfl | rfl | rfl
   ·exact lQ hA hM h L hget
   ·exact mz hA hM h L hget
   ·exact ml hA hM h L hget
 by_cases cg : c = 21 ∨ c = 22
 ·have eE : efE m lo s o c a = orE (cd m.gn a) (if c = 21 ∨ glM m a = true then 0 else 39):=by simp only [efE,c11,c12,c16,c17,cl,cg,if_false,if_true]
  have eV : efV m lo s o c a = (jb c (ltr (glC m a)),js c (ltr (glC m a))):=by simp only [efV,c11,c12,c16,c17,cl,cg,if_false,if_true]
  rw [eE,eV]
  rcases gK m.gn a with ⟨e1,hz⟩ | ⟨e1,q,rfl,hq⟩
  ·rw [e1,BV ax]
   rcases cg with rfl | rfl
   ·exact (kq hA hM h L hz).mono fun e w' hh => jf ax hh
   ·exact (ki hA hM h L hz).mono fun e w' hh => jf ax hh
  ·rw [e1,kE rfl];have hlen:=hM.pg.1;have hget:=ba (l:=m.globals) (i:=q) ae
   have hm : glM m (q : Int) = (m.globals[q]'(ae)).2.1:=by simp [glM,hget]
   have hc : glC m (q : Int) = (m.globals[q]'(ae)).1:=by simp [glC,hget]
   rw [hm,hc]
   rcases cg with rfl | rfl
   ·exact mR hA hM h L hget
   ·rw [show (if (22 : Int) = 21 ∨ (m.globals[q]'(ae)).2.1 = true then (0 : Int) else 39) = (if (22 : Nat) = 21 ∨ (m.globals[q]'(ae)).2.1 = true then (0 : Int) else 39) by simp]
    exact m9 hA hM h L hget
 have hpl : plainO c:=⟨c11,c12,c16,c17,fun e => cl (.inl e),fun e => cl (.inr (.inl e)),fun e => cl (.inr (.inr e)),fun e => cg (.inl e),fun e => cg (.inr e)⟩
 have eE : efE m lo s o c a = 0:=by simp only [efE,c11,c12,c16,c17,cl,cg,if_false]
 have eV : efV m lo s o c a = ((ofV c).1.2.2.2.1,(ofV c).1.2.2.2.2.1):=by simp only [efV,c11,c12,c16,c17,cl,cg,if_false]
 rw [eE,eV];exact nW hA hM h L hpl h0 h1
end
def wT : ByteArray:=⟨#[119]⟩
def nT : ByteArray:=⟨#[]⟩
def Bv (s : Cs) : Opn:=s.op.getD 0 ⟨⟨#[]⟩,⟨#[]⟩,⟨#[]⟩,0,0⟩
def opE (m : MM) (s : Cs) (o : Opn) (a : Int) (tk : ByteArray) : Int:=orE (cd m.tn a) (orE (bI s o ((cG m a).1 ++ tk)) (bI s o tk))
def rwE (m : MM) (lo : List Int) (el : Int) (s : Cs) (o : Opn) (c a : Int) (l : List Int) : Int :=
 if c = 2 ∨ c = 3 then opE m s o a nT
 else if c = 4 then opE m s o a wT
 else if c = 5 then iK s o
 else if c = 6 then orE (iK s o) (jx o el)
 else if c = 7 then orE (eF s a) (orE (bI s o (brg (dE s a))) (bV o.B o.R))
 else if c = 8 then orE (eF s a) (orE (bI s o (brg (dE s a) ++ wT)) (bI s o wT))
 else if c = 9 then orE (ku s l) (orE (bI s o (brg (dE s (l.getD 0 0)) ++ wT)) (bV o.B o.R))
 else if c = 10 then orE (bI s o (brg (Bv s))) (bV o.B o.R)
 else if c = 0 then bV o.B o.R
 else orE (efE m lo s o c a) (orE (bI s o (efV m lo s o c a).1) (bV (cB s (efV m lo s o c a).1).st (efV m lo s o c a).2))
def rwS (m : MM) (lo : List Int) (s : Cs) (o : Opn) (c a : Int) : Cs :=
 if c = 2 ∨ c = 3 then ie s c nT (cG m a).1 (cG m a).2
 else if c = 4 then ie s c wT (cG m a).1 (cG m a).2
 else if c = 5 then Dz s o
 else if c = 6 then rR s
 else if c = 7 ∨ c = 9 ∨ c = 10 ∨ c = 0 then dQ s o
 else if c = 8 then cB s wT
 else tP (cB s (efV m lo s o c a).1) (efV m lo s o c a).2
structure Wk (v : Ev) (s : Cs) (k : Nat) (o : Opn) : Prop where
 cw : CW s k o
 kk : k < 63
 pn : s.pc < v.n
 nn : v.n ≤ 1000000
 bs : o.B.size ≤ 1000000
 sz : ∀ p ∈ s.op,p.P.size ≤ 8 ∧ p.R.size ≤ 8
 op : ∃ p : Nat,o.pc = p ∧ p < v.n
theorem Hm : ((List.range 256).all fun n => decide ((ofV (n : Int)).1.2.2.2.1.size ≤ 8) && decide ((ofV (n : Int)).1.2.2.2.2.1.size ≤ 8)) = true:=ak
theorem of_le {c : Int} (h0 : 0 ≤ c) (h1 : c ≤ 255) : (ofV c).1.2.2.2.1.size ≤ 8 ∧ (ofV c).1.2.2.2.2.1.size ≤ 8:=by
 have h:=List.all_eq_true.1 Hm c.toNat (by rw [List.mem_range]; omega)
 rw [show ((c.toNat : Nat) : Int) = c by omega] at h
 simp only [Bool.and_eq_true,decide_eq_true_eq] at h
 exact h
section
variable {v : Ev} {w1 w : World} {s : Cs} {m : MM} {lo : List Int}
theorem rQ (hM : EvM v w1 m lo) (i : Int) : (cG m i).1.size ≤ 8 ∧ (cG m i).2.size ≤ 8:=by
 unfold cG;rw [List.getD_eq_getElem?_getD]
 cases h : m.types[i.toNat]? with
 | none => exact ⟨Nat.zero_le _,Nat.zero_le _⟩
 | some x => exact hM.tL x (List.mem_of_getElem? h)
theorem sX (c : Int) : (ltr c).size ≤ 1:=by unfold ltr; split <;> exact Nat.le_refl _
theorem zW (c : Int) (y : ByteArray) (h : y.size ≤ 1) : (jb c y).size ≤ 1:=by unfold jb; split; exact Nat.zero_le _; exact h
theorem A6 (c : Int) (y : ByteArray) (h : y.size ≤ 1) : (js c y).size ≤ 1:=by unfold js; split; exact h; exact Nat.zero_le _
theorem A4 (s : Cs) (o : Opn) (j : Nat) : (iG s o j).size ≤ 1:=by simp [iG]; omega
theorem Mu (hM : EvM v w1 m lo) (s : Cs) (o : Opn) {c : Int} (a : Int) (h0 : 0 ≤ c) (h1 : c ≤ 255) : (efV m lo s o c a).1.size ≤ 1000 ∧ (efV m lo s o c a).2.size ≤ 1000:=by
 unfold efV
 split
 ·have:=rQ hM (wF m a); omega
 split
 ·have:=rQ hM (m.hosts.getD a.toNat 0); omega
 split
 ·have:=A4 s o 0; exact ⟨pF,Nat.zero_le _⟩
 split
 ·have:=A4 s o 1
  refine ⟨?_,pF⟩;dsimp only;rw [ByteArray.size_append,ByteArray.size_append];have : (⟨#[119]⟩ : ByteArray).size = 1:=rfl;omega
 split
 ·have h1:=zW c _ (sX (lo.getD a.toNat 0));have h2:=A6 c _ (sX (lo.getD a.toNat 0));exact uC
 split
 ·have h1:=zW c _ (sX (glC m a));have h2:=A6 c _ (sX (glC m a));exact uC
 ·have:=of_le h0 h1
  exact uC
theorem m8 (hA : EvA v w1) (hM : EvM v w1 m lo) (h : CI v w1 w s) {k : Nat} {o : Opn} (hk : Wk v s k o) {c a : Int} (L : Value) (tk : ByteArray)
  (hyes : ∀ {q : Nat} {P R : ByteArray},m.types[q]? = some (P,R) → Calls Tryz.prog 83 #[.pointer (some ⟨v.C,0,none⟩),.agg #[.int .u8 c,.int .i64 q,L]] w (iz v w1 s.pc (orE (bI s o (P ++ tk)) (bI s o tk)) (ie s c tk P R)))
  (hno : ∀ {z : Int},(z < 0 ∨ (m.tn : Int) ≤ z) → ∀ S',Calls Tryz.prog 83 #[.pointer (some ⟨v.C,0,none⟩),.agg #[.int .u8 c,.int .i64 z,L]] w (iz v w1 s.pc 30 S')) :
  Calls Tryz.prog 83 #[.pointer (some ⟨v.C,0,none⟩),.agg #[.int .u8 c,.int .i64 a,L]] w (iz v w1 s.pc (opE m s o a tk) (ie s c tk (cG m a).1 (cG m a).2)):=by
 unfold opE
 rcases gK m.tn a with ⟨e1,hz⟩ | ⟨e1,q,rfl,hq⟩
 ·rw [e1,BV ax];exact hno hz _
 ·rw [e1,kE rfl];have hlen:=hM.pt.1;have hget:=ba (l:=m.types) (i:=q) ae;have hty : cG m (q : Int) = m.types[q]'(ae):=i7 hget;rw [hty];exact hyes hget
theorem MK (hA : EvA v w1) (hM : EvM v w1 m lo) (h : CI v w1 w s) {k : Nat} {o : Opn} (hk : Wk v s k o) {c a : Int} {la : Option Addr} {ln lc : Nat} {l : List Int} {el : Int} (h0 : 0 ≤ c) (h1 : c ≤ 255)
  (hl : c = 9 → oo w1 la ln lc l ∧ 0 < ln) (hS : ∀ b off,la = some ⟨b,off,none⟩ → ln ≠ 0 → ¬ v.S b) (hel : w.cell? ⟨v.EL,o.pc.toNat,none⟩ = some (.int .i64 el)) :
  Calls Tryz.prog 83 #[.pointer (some ⟨v.C,0,none⟩),.agg #[.int .u8 c,.int .i64 a,.slice la ln lc]] w (iz v w1 s.pc (rwE m lo el s o c a l) (rwS m lo s o c a)):=by
 have hw:=hk.cw;have ho8:=hk.sz o (List.mem_of_getElem? hw.last);have hR : o.R.size ≤ 1000000:=ae;have hP : o.P.size ≤ 1000000:=ae
 by_cases c2 : c = 2
 ·subst c2;have eE : rwE m lo el s o 2 a l = opE m s o a nT:=iu;have eS : rwS m lo s o 2 a = ie s 2 nT (cG m a).1 (cG m a).2:=iw;rw [eE,eS]
  exact m8 hA hM h hk _ nT (fun hP => tO hA hM h hw _ hP hk.pn hk.nn hk.kk) (fun hz S' => ot hA hM h _ hz S')
 by_cases c3 : c = 3
 ·subst c3;have eE : rwE m lo el s o 3 a l = opE m s o a nT:=iu;have eS : rwS m lo s o 3 a = ie s 3 nT (cG m a).1 (cG m a).2:=iw;rw [eE,eS]
  exact m8 hA hM h hk _ nT (fun hP => sY hA hM h hw _ hP hk.pn hk.nn hk.kk) (fun hz S' => om hA hM h _ hz S')
 by_cases c4 : c = 4
 ·subst c4;have eE : rwE m lo el s o 4 a l = opE m s o a wT:=iu;have eS : rwS m lo s o 4 a = ie s 4 wT (cG m a).1 (cG m a).2:=iw;rw [eE,eS]
  exact m8 hA hM h hk _ wT (fun hP => ux hA hM h hw _ hP hk.pn hk.nn hk.kk) (fun hz S' => nX hA hM h _ hz S')
 by_cases c5 : c = 5
 ·subst c5;have eE : rwE m lo el s o 5 a l = iK s o:=iu;have eS : rwS m lo s o 5 a = Dz s o:=iw;rw [eE,eS];exact vV hA h hw hk.bs hR hP a _
 by_cases c6 : c = 6
 ·subst c6;have eE : rwE m lo el s o 6 a l = orE (iK s o) (jx o el):=iu;have eS : rwS m lo s o 6 a = rR s:=iw;rw [eE,eS];obtain ⟨p,hp,hpn⟩:=hk.op;rw [hp] at hel
  exact yD hA h hw hk.bs hR hP a _ hp hpn hk.nn (by simpa using hel)
 by_cases c7 : c = 7
 ·subst c7;have eE : rwE m lo el s o 7 a l = orE (eF s a) (orE (bI s o (brg (dE s a))) (bV o.B o.R)):=iu;have eS : rwS m lo s o 7 a = dQ s o:=iw;rw [eE,eS];exact DT hA h hw hk.bs hR hk.sz a _
 by_cases c8 : c = 8
 ·subst c8;have eE : rwE m lo el s o 8 a l = orE (eF s a) (orE (bI s o (brg (dE s a) ++ wT)) (bI s o wT)):=iu;have eS : rwS m lo s o 8 a = cB s wT:=iw;rw [eE,eS];exact wZ hA h hw hk.bs hR hk.sz a _
 by_cases c9 : c = 9
 ·subst c9;have eE : rwE m lo el s o 9 a l = orE (ku s l) (orE (bI s o (brg (dE s (l.getD 0 0)) ++ wT)) (bV o.B o.R)):=iu;have eS : rwS m lo s o 9 a = dQ s o:=iw;rw [eE,eS];obtain ⟨hl1,hl2⟩:=hl rfl;exact pz hA h hw hk.bs hR hk.sz a la ln lc l hl1 hl2 hS
 by_cases c10 : c = 10
 ·subst c10;have eE : rwE m lo el s o 10 a l = orE (bI s o (brg (Bv s))) (bV o.B o.R):=iu;have eS : rwS m lo s o 10 a = dQ s o:=iw;rw [eE,eS];have hlen:=hw.len;have hget:=ba (l:=s.op) (i:=0) ae;have hb : Bv s = s.op[0]'(ae):=i7 hget
  have:=qW hA h hw hk.bs hR hk.sz a (.slice la ln lc) hget
  rw [← hb] at this;exact this
 by_cases c0 : c = 0
 ·subst c0;have eE : rwE m lo el s o 0 a l = bV o.B o.R:=iu;have eS : rwS m lo s o 0 a = dQ s o:=iw;rw [eE,eS];exact wG hA h hw hk.bs hR a _
 have hgo : Ie c:=⟨c0,c2,c3,c4,c5,c6,c7,c8,c9,c10⟩
 have eE : rwE m lo el s o c a l = orE (efE m lo s o c a) (orE (bI s o (efV m lo s o c a).1) (bV (cB s (efV m lo s o c a).1).st (efV m lo s o c a).2)):=by
  simp only [rwE,c0,c2,c3,c4,c5,c6,c7,c8,c9,c10,or_self,if_false]
 have eS : rwS m lo s o c a = tP (cB s (efV m lo s o c a).1) (efV m lo s o c a).2:=by
  simp only [rwS,c0,c2,c3,c4,c5,c6,c7,c8,c9,c10,or_self,if_false]
 rw [eE,eS];have hle:=Mu hM s o a h0 h1
 exact yi hA h hw _ hgo hle.1 hle.2 (fun W hW => CZ hA hM hW hw _ h0 h1)
end
end Go.Proofs.YtkdldbfbldkkcaaGreatDoor

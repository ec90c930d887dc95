/-
  Texts Vm.
-/
import Derived.Test.YtkdldbfbldkkcaaGreatDoorM00
import Derived.Test.YtkdldbfbldkkcaaGreatDoorM33
set_option linter.unusedVariables false
set_option maxRecDepth 100000
set_option maxHeartbeats 16000000
namespace Go.Proofs.YtkdldbfbldkkcaaGreatDoor
open Go.RowKit
section
variable {v : Ev} {w1 w : World} {s : Cs} {m : MM} {lo : List Int}
theorem take_at {P : Program} {ops : Array Oper} {Q : Exit → Act → World → Prop} {md : Region.Mode} {S : World → Prop} {i : Nat} {oi : Oper} {d : Option Tmp} {v : Value} {fuel : Nat} {listed : Array Bool} {a : Act} {w : World} (hi : ops[i]? = some oi) (hd : oi.dst = d)
  (hs : Region.noSelect ops = true) (hf : Region.free md ops listed i = true) (hr : (Region.ready md ops listed).contains i = true)
  (hQ : ∀ c a w,Q (.panic c) (a.put d v) w → Q (.panic c) a w) (hy : YieldsIf P ops S oi v a) (hS : S w)
  (h : wpAnyH P md ops Q S fuel (listed.setIfInBounds i true) (a.put d v) w) : wpAnyH P md ops Q S (fuel + 1) listed a w:=by
 subst hd;exact wpAnyH_take hi hs hf hr hQ hy hS h
abbrev esS (C OB i EL p n : Nat) (P R : ByteArray) (op el : Int) (w W : World) : Prop :=
 W.cell? ⟨OB,i,none⟩ = some (.string P) ∧ W.cell? ⟨OB,i + 1,none⟩ = some (.string R) ∧ W.cell? ⟨OB,i + 3,none⟩ = some (.int .u8 op) ∧ W.cell? ⟨OB,i + 4,none⟩ = some (.int .i64 p) ∧
  W.cell? ⟨C,11,none⟩ = some (.slice (some ⟨EL,0,none⟩) n n) ∧ W.cell? ⟨EL,p,none⟩ = some (.int .i64 el) ∧ Below w.heap.size w W
theorem esS.later {C OB i EL p n : Nat} {P R : ByteArray} {op el : Int} {w W W' : World} (h : esS C OB i EL p n P R op el w W) (hb : Below W.heap.size W W') : esS C OB i EL p n P R op el w W' :=
 ⟨ag hb h.1,ag hb h.2.1,ag hb h.2.2.1,ag hb h.2.2.2.1,ag hb h.2.2.2.2.1,ag hb h.2.2.2.2.2.1,h.2.2.2.2.2.2.trans (hb.mono h.2.2.2.2.2.2.size)⟩
theorem uw (l : List Opn) (k : Nat) (h : l.length = k + 1) : opV l.dropLast = (opV l).take (k * 5):=by
 have e : l = l.dropLast ++ [l.getLast yo]:=(List.dropLast_concat_getLast _).symm
 have hl : (opV l.dropLast).length = k * 5:=by rw [BC,List.length_dropLast,h]; simp
 conv => rhs; rw [e]
 rw [show opV (l.dropLast ++ [l.getLast yo]) = opV l.dropLast ++ opV [l.getLast yo] from by simp [opV]]
 rw [List.take_append_of_le_length ae,List.take_of_length_le ae]
theorem CI.pop (hA : EvA v w1) (h : CI v w1 w s) {k OB oc : Nat} (hk : s.op.length = k + 1) (h14 : w.cell? ⟨v.C,14,none⟩ = some (.slice (some ⟨OB,0,none⟩) (k + 1) oc)) : CI v w1 (w.setCell ⟨v.C,14,none⟩ (.slice (some ⟨OB,0,none⟩) k oc)) { s with op:=s.op.dropLast }:=by
 obtain ⟨OB',oc',h1,h2,h3⟩:=h.ck;have h0 : w.cell? ⟨v.C,14,none⟩ = some (.slice (some ⟨OB',0,none⟩) s.op.length oc'):=jQ;rw [h0,hk] at h14
 simp at h14
 obtain ⟨rfl,rfl⟩:=h14;have hkp:=ay w v.C 14 (.slice (some ⟨OB',0,none⟩) k oc');have hne:=CI.OB_ne hA h3
 have hd : s.op.dropLast.length = k:=by rw [List.length_dropLast,hk]; rfl
 refine ⟨h.kept.then hkp (fun k _ e => .inl e),⟨OB',oc',?_,?_,h3⟩,h.sh.kept hkp (fun e => hA.cs e.symm),h.fl.kept hkp (fun e => hA.cf e.symm)⟩
 ·rw [aS h1];dsimp only
  rw [hd]; rfl
 ·dsimp only
  have:=jy h2 hkp (fun e => hne.1 e)
  rcases this.2 with ⟨e,_⟩ | ⟨g,cap,cur,e,h4,h5,h6,h7,h8,h9⟩
  ·cases e
  ·cases e
   rw [hd,uw _ k hk]
   refine ⟨by rw [List.length_take,BC,hk]; omega,.inr ⟨_,_,cur,rfl,h4,h5,ae,h7,h8,?_⟩⟩
   rw [← h9,List.take_take]
   congr 1
   omega
def jx (o : Opn) (el : Int) : Int:=if o.op ≠ 4 ∨ el ≠ -1 ∨ (o.P.toList == o.R.toList) = true then 0 else 37
def rR (s : Cs) : Cs:={ s with op:=s.op.dropLast }
theorem Me (hA : EvA v w1) (h : CI v w1 w s) {k : Nat} {o : Opn} (hw : CW s k o) (hB : o.B.size ≤ 1000000) (hR : o.R.size ≤ 1000000) (hP : o.P.size ≤ 1000000)
  {p : Nat} {el : Int} (hp : o.pc = p) (hpn : p < v.n) (hn : v.n ≤ 1000000) (hel : w.cell? ⟨v.EL,p,none⟩ = some (.int .i64 el)) :
  Calls Tryz.prog 110 #[.pointer (some ⟨v.C,0,none⟩)] w (Doz v w1 w s.pc (orE (iK s o) (jx o el)) kD (rR s)):=by
 obtain ⟨OB,oc,x14,x0,x1,x2,x3,x4⟩:=h.top hw;have HC:=hid h
 have hT : (s.st.toList == (o.B ++ o.R).toList) = true → orE (iK s o) (jx o el) = jx o el:=fun h => by simp only [iK,h,if_true,orE]; simp
 have hF : (s.st.toList == (o.B ++ o.R).toList) = false → orE (iK s o) (jx o el) = 33:=fun h => by simp [iK,h,orE]
 have HD:=hid (show rR s = { s with op:=s.op.dropLast } from rfl)
 generalize orE (iK s o) (jx o el) = E at *;rw [hp] at x4;have c15:=h.st;have c11:=h.elc;have hne:=CI.OB_ne hA (h.ob x14);clear h
 go_enter Tryz.func110,Tryz.ntmps110
 go_wp2_with fail;refine (jI x14 hw.le).mono ?_;rintro e w2 ⟨rfl,hb⟩;have HB2:=hid hb;have y0:=ag hb x0;have y1:=ag hb x1;have y2:=ag hb x2;have y3:=ag hb x3;have y4:=ag hb x4;have y15:=ag hb c15;have y11:=ag hb c11;have yel:=ag hb hel;clear hb x0 x1 x2 x3 x4 c15 x14 c11 hel;go_wp2_with fail
 refine wp_region_held_drew (S:=lfS v.C OB (k * 5) s.st o.P o.R o.B w2) ak ⟨y15,y0,y1,y2,(Below.refl _ _).drew⟩ (fun hHeld => ?_)
 refine tkC (i:=0) rfl ?_;(try simp only [Act.put,sIB]);refine tkC (i:=1) rfl ?_;(try simp only [Act.put]);refine tkC (i:=2) rfl ?_;(try simp only [Act.put]);refine tkC (i:=3) rfl ?_;(try simp only [Act.put]);refine tkC (i:=4) rfl ?_;(try simp only [Act.put]);refine tkC (i:=5) rfl ?_;(try simp only [Act.put]);refine tkC (i:=6) rfl ?_;(try simp only [Act.put]);refine tkC (i:=7) rfl ?_;(try simp only [Act.put]);refine tkC (i:=8) rfl ?_;(try simp only [Act.put]);refine tkC (i:=9) rfl ?_;(try simp only [Act.put]);refine tkC (i:=10) rfl ?_;(try simp only [Act.put]);refine tkC (i:=11) rfl ?_;(try simp only [Act.put]);refine rdY (rs:=[12]) ?_
 refine AllReadyH.cons rfl (fun K hK => ?_) rN
 go_simp;refine (Bn o.P o.R o.B ae).mono ?_;rintro e w3 ⟨rfl,hb3⟩;have hS3:=lfS.later hHeld hb3
 refine hK.out _ _ hS3 (fun hHeld2 => ?_)
 clear hK K hb3 hHeld;refine tkC (i:=13) rfl ?_;(try simp only [Act.put,sIB]);refine rdY (rs:=[14]) ?_
 refine AllReadyH.cons rfl (fun K hK => ?_) rN
 go_simp;refine (gu _ _ _).mono ?_
 rintro e w4 (⟨hb,rfl,rfl⟩ | ⟨hb,rfl,rfl⟩)
 rotate_left
 ·exact Gz
 refine hK.out _ _ hHeld2 (fun hHeld3 => ?_)
 clear hK K;refine wpAnyH_done ak ?_ _;have hE:=hT hb;subst hE;have HB4:=hid (HB2.out.trans (hS3.2.2.2.2.mono HB2.out.size));have hb3:=hS3.2.2.2.2;obtain ⟨q15,q0,q1,q2,qb⟩:=hS3;have q3:=ag hb3 y3;have q4:=ag hb3 y4;have q11:=ag hb3 y11;have qel:=ag hb3 yel;have HC4:=hid (HC.out.later hA HB4.out);clear hb hT hF y0 y1 y2 y15 y3 y4 y11 yel qb hHeld2 hHeld3 HB2 hb3
 have HE4:=hid (show o.op ≠ 4 → jx o el = 0 from fun h => by simp [jx,h])
 have HEN:=hid (show el ≠ -1 → jx o el = 0 from fun h => by simp [jx,h])
 have HES:=hid (show (o.P.toList == o.R.toList) = true → jx o el = 0 from fun h => by simp only [jx,h]; simp)
 have HEF:=hid (show o.op = 4 → el = -1 → (o.P.toList == o.R.toList) = false → jx o el = 37 from fun h1 h2 h3 => by simp only [jx,h1,h2,h3]; simp)
 generalize jx o el = E2 at *;have g0 : (0 : Int) ≤ (p : Int):=ae;have g1 : (p : Int) < (v.n : Int):=ae
 by_cases h4 : o.op = 4
 ·rw [h4] at q3
  by_cases he : el = -1
  ·rw [he] at qel;have hEF:=HEF.out h4 he;have hES:=HES.out;go_wp2_with fail
   refine wp_region_held_drew (S:=esS v.C OB (k * 5) v.EL p v.n o.P o.R 4 (-1) w4) ak ⟨q0,q1,q3,q4,q11,qel,(Below.refl _ _).drew⟩ (fun hHeld => ?_)
   refine tkA (i:=0) (d:=some 20) (v:=?_) rfl ak ?_ ?_;rotate_left
   ·exact aZ
   (try simp only [Act.put,sIB,sC0,sCs]);refine tkA (i:=1) (d:=some 21) (v:=?_) rfl ak ?_ ?_;rotate_left
   ·exact aZ
   (try simp only [Act.put,sIB,sC0,sCs]);refine tkA (i:=2) (d:=some 22) (v:=?_) rfl ak ?_ ?_;rotate_left
   ·exact aZ
   (try simp only [Act.put,sIB,sC0,sCs]);refine tkA (i:=3) (d:=some 23) (v:=?_) rfl ak ?_ ?_;rotate_left
   ·exact aZ
   (try simp only [Act.put,sIB,sC0,sCs]);refine tkA (i:=4) (d:=some 24) (v:=?_) rfl ak ?_ ?_;rotate_left
   ·exact aZ
   (try simp only [Act.put,sIB,sC0,sCs]);refine tkA (i:=5) (d:=some 25) (v:=?_) rfl ak ?_ ?_;rotate_left
   ·exact aZ
   (try simp only [Act.put,sIB,sC0,sCs]);refine tkA (i:=6) (d:=some 26) (v:=?_) rfl ak ?_ ?_;rotate_left
   ·exact aZ
   (try simp only [Act.put,sIB,sC0,sCs]);refine tkA (i:=7) (d:=some 27) (v:=?_) rfl ak ?_ ?_;rotate_left
   ·exact aZ
   (try simp only [Act.put,sIB,sC0,sCs]);refine tkA (i:=8) (d:=some 28) (v:=?_) rfl ak ?_ ?_;rotate_left
   ·exact aZ
   (try simp only [Act.put,sIB,sC0,sCs]);refine tkA (i:=9) (d:=some 29) (v:=?_) rfl ak ?_ ?_;rotate_left
   ·exact aZ
   (try simp only [Act.put,sIB,sC0,sCs]);refine tkA (i:=10) (d:=some 30) (v:=?_) rfl ak ?_ ?_;rotate_left
   ·exact aZ
   (try simp only [Act.put,sIB,sC0,sCs]);refine tkA (i:=11) (d:=some 31) (v:=?_) rfl ak ?_ ?_;rotate_left
   ·exact aZ
   (try simp only [Act.put,sIB,sC0,sCs]);refine tkA (i:=12) (d:=some 32) (v:=?_) rfl ak ?_ ?_;rotate_left
   ·exact aZ
   (try simp only [Act.put,sIB,sC0,sCs]);refine tkA (i:=13) (d:=some 33) (v:=?_) rfl ak ?_ ?_;rotate_left
   ·exact aZ
   (try simp only [Act.put,sIB,sC0,sCs]);refine tkA (i:=14) (d:=some 34) (v:=?_) rfl ak ?_ ?_;rotate_left
   ·exact aZ
   (try simp only [Act.put,sIB,sC0,sCs]);refine tkA (i:=15) (d:=some 35) (v:=?_) rfl ak ?_ ?_;rotate_left
   ·exact aZ
   (try simp only [Act.put,sIB,sC0,sCs]);refine tkA (i:=16) (d:=some 36) (v:=?_) rfl ak ?_ ?_;rotate_left
   ·exact aZ
   (try simp only [Act.put,sIB,sC0,sCs]);refine tkA (i:=17) (d:=some 37) (v:=?_) rfl ak ?_ ?_;rotate_left
   ·exact aZ
   (try simp only [Act.put,sIB,sC0,sCs]);refine tkA (i:=18) (d:=some 38) (v:=?_) rfl ak ?_ ?_;rotate_left
   ·exact aZ
   (try simp only [Act.put,sIB,sC0,sCs]);refine tkA (i:=19) (d:=some 39) (v:=?_) rfl ak ?_ ?_;rotate_left
   ·exact aZ
   (try simp only [Act.put,sIB,sC0,sCs]);refine tkA (i:=20) (d:=some 40) (v:=?_) rfl ak ?_ ?_;rotate_left
   ·exact aZ
   (try simp only [Act.put,sIB,sC0,sCs]);refine tkA (i:=21) (d:=some 41) (v:=?_) rfl ak ?_ ?_;rotate_left
   ·exact aZ
   (try simp only [Act.put,sIB,sC0,sCs]);refine tkA (i:=22) (d:=some 42) (v:=?_) rfl ak ?_ ?_;rotate_left
   ·exact aZ
   (try simp only [Act.put,sIB,sC0,sCs]);refine tkA (i:=23) (d:=some 43) (v:=?_) rfl ak ?_ ?_;rotate_left
   ·exact aZ
   (try simp only [Act.put,sIB,sC0,sCs]);refine rdY (rs:=[24]) ?_
   refine AllReadyH.cons rfl (fun K hK => ?_) rN
   go_simp;refine (J3 o.P o.R).mono ?_;rintro e w5 ⟨rfl,hb5⟩;have hS5:=esS.later hHeld hb5
   refine hK.out _ _ hS5 (fun hHeld2 => ?_)
   clear hK K hb5;refine tkA (i:=25) (d:=some 45) (v:=?_) rfl ak ?_ ?_;rotate_left
   ·exact aZ
   (try simp only [Act.put,sIB,sC0,sCs]);refine rdY (rs:=[26]) ?_
   refine AllReadyH.cons rfl (fun K hK => ?_) rN
   go_simp;refine (gu _ _ _).mono ?_
   rintro e w6 (⟨hb,rfl,rfl⟩ | ⟨hb,rfl,rfl⟩)
   rotate_left
   ·have hE:=hEF hb;subst hE;exact ⟨rfl,.inr ⟨ax,rfl,(HC.out.later hA (HB4.out.trans (hS5.2.2.2.2.2.2.mono HB4.out.size))).bad⟩⟩
   have hE:=hES hb;subst hE
   refine hK.out _ _ hS5 (fun hHeld3 => ?_)
   clear hK K;refine wpAnyH_done ak ?_ _;have HB5:=hid (HB4.out.trans (hS5.2.2.2.2.2.2.mono HB4.out.size));have HC5:=hid (HC.out.later hA HB5.out);clear hS5 hHeld hHeld3 q0 q1 q2 q3 q4 q11 qel q15;obtain ⟨OB',oc',k14,_,_,_,_,_⟩:=HC5.out.top hw;have f14:=HC5.out.free 14;have HP:=hid (HC5.out.pop hA hw.len k14)
   have hoc : k + 1 ≤ oc':=by
    obtain ⟨OB2,oc2,u1,u2,_⟩:=HC5.out.opn;rw [k14] at u1; simp at u1; omega
   have e1 : (k : Int) ≤ (oc' : Int):=ae;have hkk:=hw.le;have hwk : IntKind.i64.wrap (k : Int) = (k : Int):=i64_in _ ae ae;have e0 : (0 : Int) ≤ (k : Int):=ae;go_wp2_with fail
   go_region
   go_wp2_with fail;go_end0;refine .inl ⟨rfl,rfl,?_,((aX HB5.out).trans (ay _ _ _ _)).trans (Kept.drewN _ _ 1)⟩;rw [HD.out];exact HP.out.later hA (below_drewN _ 1)
  ·have hE0:=HEN.out he;subst hE0
   have he' : (el != -1) = true:=by simpa using he
   go_wp2_with fail
   refine wp_region_held_drew (S:=esS v.C OB (k * 5) v.EL p v.n o.P o.R 4 el w4) ak ⟨q0,q1,q3,q4,q11,qel,(Below.refl _ _).drew⟩ (fun hHeld => ?_)
   refine tkA (i:=0) (d:=some 20) (v:=?_) rfl ak ?_ ?_;rotate_left
   ·exact aZ
   (try simp only [Act.put,sIB,sC0,sCs]);refine tkA (i:=1) (d:=some 21) (v:=?_) rfl ak ?_ ?_;rotate_left
   ·exact aZ
   (try simp only [Act.put,sIB,sC0,sCs]);refine tkA (i:=2) (d:=some 22) (v:=?_) rfl ak ?_ ?_;rotate_left
   ·exact aZ
   (try simp only [Act.put,sIB,sC0,sCs]);refine tkA (i:=3) (d:=some 23) (v:=?_) rfl ak ?_ ?_;rotate_left
   ·exact aZ
   (try simp only [Act.put,sIB,sC0,sCs]);refine tkA (i:=4) (d:=some 24) (v:=?_) rfl ak ?_ ?_;rotate_left
   ·exact aZ
   (try simp only [Act.put,sIB,sC0,sCs]);refine tkA (i:=5) (d:=some 25) (v:=?_) rfl ak ?_ ?_;rotate_left
   ·exact aZ
   (try simp only [Act.put,sIB,sC0,sCs]);refine tkA (i:=6) (d:=some 26) (v:=?_) rfl ak ?_ ?_;rotate_left
   ·exact aZ
   (try simp only [Act.put,sIB,sC0,sCs]);refine tkA (i:=7) (d:=some 27) (v:=?_) rfl ak ?_ ?_;rotate_left
   ·exact aZ
   (try simp only [Act.put,sIB,sC0,sCs]);refine tkA (i:=8) (d:=some 28) (v:=?_) rfl ak ?_ ?_;rotate_left
   ·exact aZ
   (try simp only [Act.put,sIB,sC0,sCs]);refine tkA (i:=9) (d:=some 29) (v:=?_) rfl ak ?_ ?_;rotate_left
   ·exact aZ
   (try simp only [Act.put,sIB,sC0,sCs]);refine tkA (i:=10) (d:=some 30) (v:=?_) rfl ak ?_ ?_;rotate_left
   ·exact aZ
   (try simp only [Act.put,sIB,sC0,sCs]);refine tkA (i:=11) (d:=some 31) (v:=?_) rfl ak ?_ ?_;rotate_left
   ·exact aZ
   (try simp only [Act.put,sIB,sC0,sCs]);refine tkA (i:=12) (d:=some 32) (v:=?_) rfl ak ?_ ?_;rotate_left
   ·exact aZ
   (try simp only [Act.put,sIB,sC0,sCs]);refine tkA (i:=13) (d:=some 33) (v:=?_) rfl ak ?_ ?_;rotate_left
   ·exact aZ
   (try simp only [Act.put,sIB,sC0,sCs]);refine tkA (i:=14) (d:=some 34) (v:=?_) rfl ak ?_ ?_;rotate_left
   ·exact aZ
   (try simp only [Act.put,sIB,sC0,sCs]);refine tkA (i:=15) (d:=some 35) (v:=?_) rfl ak ?_ ?_;rotate_left
   ·exact aZ
   (try simp only [Act.put,sIB,sC0,sCs]);refine tkA (i:=16) (d:=some 36) (v:=?_) rfl ak ?_ ?_;rotate_left
   ·exact aZ
   (try simp only [Act.put,sIB,sC0,sCs]);refine tkA (i:=17) (d:=some 37) (v:=?_) rfl ak ?_ ?_;rotate_left
   ·exact aZ
   (try simp only [Act.put,sIB,sC0,sCs]);exact Ed
 ·have hE0:=HE4.out h4;subst hE0;have h4' : (o.op != 4) = true:=sk;go_wp2_with fail
  refine wp_region_held_drew (S:=esS v.C OB (k * 5) v.EL p v.n o.P o.R o.op el w4) ak ⟨q0,q1,q3,q4,q11,qel,(Below.refl _ _).drew⟩ (fun hHeld => ?_)
  refine tkA (i:=0) (d:=some 20) (v:=?_) rfl ak ?_ ?_;rotate_left
  ·exact aZ
  (try simp only [Act.put,sIB,sC0,sCs]);refine tkA (i:=1) (d:=some 21) (v:=?_) rfl ak ?_ ?_;rotate_left
  ·exact aZ
  (try simp only [Act.put,sIB,sC0,sCs]);refine tkA (i:=2) (d:=some 22) (v:=?_) rfl ak ?_ ?_;rotate_left
  ·exact aZ
  (try simp only [Act.put,sIB,sC0,sCs]);refine tkA (i:=3) (d:=some 23) (v:=?_) rfl ak ?_ ?_;rotate_left
  ·exact aZ
  (try simp only [Act.put,sIB,sC0,sCs]);refine tkA (i:=4) (d:=some 24) (v:=?_) rfl ak ?_ ?_;rotate_left
  ·exact aZ
  (try simp only [Act.put,sIB,sC0,sCs]);refine tkA (i:=5) (d:=some 25) (v:=?_) rfl ak ?_ ?_;rotate_left
  ·exact aZ
  try simp only [Act.put,sIB,sC0,sCs]
  refine take_at (i:=6) (d:=some 26) (v:=undef) rfl ak ak ak ak (fun _ _ _ h => h) (Or.inr ⟨ak,rfl⟩) bB ?_
  try simp only [Act.put,sIB,sC0,sCs]
  refine take_at (i:=7) (d:=some 27) (v:=undef) rfl ak ak ak ak (fun _ _ _ h => h) (Or.inr ⟨ak,rfl⟩) bB ?_
  try simp only [Act.put,sIB,sC0,sCs]
  refine take_at (i:=8) (d:=some 28) (v:=undef) rfl ak ak ak ak (fun _ _ _ h => h) (Or.inr ⟨ak,rfl⟩) bB ?_
  try simp only [Act.put,sIB,sC0,sCs]
  refine take_at (i:=9) (d:=some 29) (v:=undef) rfl ak ak ak ak (fun _ _ _ h => h) (Or.inr ⟨ak,rfl⟩) bB ?_
  try simp only [Act.put,sIB,sC0,sCs]
  refine take_at (i:=10) (d:=some 30) (v:=undef) rfl ak ak ak ak (fun _ _ _ h => h) (Or.inr ⟨ak,rfl⟩) bB ?_
  try simp only [Act.put,sIB,sC0,sCs]
  refine take_at (i:=11) (d:=some 31) (v:=undef) rfl ak ak ak ak (fun _ _ _ h => h) (Or.inr ⟨ak,rfl⟩) bB ?_
  try simp only [Act.put,sIB,sC0,sCs]
  refine take_at (i:=12) (d:=some 32) (v:=undef) rfl ak ak ak ak (fun _ _ _ h => h) (Or.inr ⟨ak,rfl⟩) bB ?_
  try simp only [Act.put,sIB,sC0,sCs]
  refine take_at (i:=13) (d:=some 33) (v:=undef) rfl ak ak ak ak (fun _ _ _ h => h) (Or.inr ⟨ak,rfl⟩) bB ?_
  try simp only [Act.put,sIB,sC0,sCs]
  refine take_at (i:=14) (d:=some 34) (v:=undef) rfl ak ak ak ak (fun _ _ _ h => h) (Or.inr ⟨ak,rfl⟩) bB ?_
  try simp only [Act.put,sIB,sC0,sCs]
  refine take_at (i:=15) (d:=some 35) (v:=undef) rfl ak ak ak ak (fun _ _ _ h => h) (Or.inr ⟨ak,rfl⟩) bB ?_
  try simp only [Act.put,sIB,sC0,sCs]
  refine take_at (i:=16) (d:=some 36) (v:=undef) rfl ak ak ak ak (fun _ _ _ h => h) (Or.inr ⟨ak,rfl⟩) bB ?_
  try simp only [Act.put,sIB,sC0,sCs]
  refine take_at (i:=17) (d:=some 37) (v:=undef) rfl ak ak ak ak (fun _ _ _ h => h) (Or.inr ⟨ak,rfl⟩) bB ?_
  (try simp only [Act.put,sIB,sC0,sCs]);exact Ed
end
end Go.Proofs.YtkdldbfbldkkcaaGreatDoor

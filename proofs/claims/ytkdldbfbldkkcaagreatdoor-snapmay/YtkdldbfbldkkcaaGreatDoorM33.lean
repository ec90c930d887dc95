/-
  Texts Vl.
-/
import Derived.Test.YtkdldbfbldkkcaaGreatDoorM00
import Derived.Test.YtkdldbfbldkkcaaGreatDoorM32
set_option linter.unusedVariables false
set_option maxRecDepth 100000
set_option maxHeartbeats 16000000
namespace Go.Proofs.YtkdldbfbldkkcaaGreatDoor
open Go.RowKit
section
variable {v : Ev} {w1 w : World} {s : Cs} {m : MM} {lo : List Int}
abbrev lfS (C OB i : Nat) (st P R B : ByteArray) (w W : World) : Prop :=
 W.cell? ⟨C,15,none⟩ = some (.string st) ∧ W.cell? ⟨OB,i,none⟩ = some (.string P) ∧ W.cell? ⟨OB,i + 1,none⟩ = some (.string R) ∧ W.cell? ⟨OB,i + 2,none⟩ = some (.string B) ∧ Below w.heap.size w W
theorem lfS.later {C OB i : Nat} {st P R B : ByteArray} {w W W' : World} (h : lfS C OB i st P R B w W) (hb : Below W.heap.size W W') : lfS C OB i st P R B w W' :=
 ⟨ag hb h.1,ag hb h.2.1,ag hb h.2.2.1,ag hb h.2.2.2.1,h.2.2.2.2.trans (hb.mono h.2.2.2.2.size)⟩
theorem CI.ob {OB n oc : Nat} (h : CI v w1 w s) (h14 : w.cell? ⟨v.C,14,none⟩ = some (.slice (some ⟨OB,0,none⟩) n oc)) : OB = v.O0 ∨ w1.heap.size ≤ OB:=by
 obtain ⟨OB',oc',h1,h2,h3⟩:=h.ck;have h0 : w.cell? ⟨v.C,14,none⟩ = some (.slice (some ⟨OB',0,none⟩) s.op.length oc'):=jQ;rw [h0] at h14
 simp at h14
 rw [← h14.1]; exact h3
def iK (s : Cs) (o : Opn) : Int:=if (s.st.toList == (o.B ++ o.R).toList) = true then 0 else 33
def Dz (s : Cs) (o : Opn) : Cs:={ s with st:=o.B ++ o.P }
theorem ui (hA : EvA v w1) (h : CI v w1 w s) {k : Nat} {o : Opn} (hw : CW s k o) (hB : o.B.size ≤ 1000000) (hR : o.R.size ≤ 1000000) (hP : o.P.size ≤ 1000000) :
  Calls Tryz.prog 109 #[.pointer (some ⟨v.C,0,none⟩)] w (Doz v w1 w s.pc (iK s o) kD (Dz s o)):=by
 obtain ⟨OB,oc,x14,x0,x1,x2,x3,x4⟩:=h.top hw;have HC:=hid h
 have hT : (s.st.toList == (o.B ++ o.R).toList) = true → iK s o = 0:=fun h => by simp only [iK,h,if_true]
 have hF : (s.st.toList == (o.B ++ o.R).toList) = false → iK s o = 33:=fun h => by simp [iK,h]
 have HD:=hid (show Dz s o = { s with st:=o.B ++ o.P } from rfl)
 generalize iK s o = E at *;have c15:=h.st;have hne:=CI.OB_ne hA (h.ob x14);clear h
 go_enter Tryz.func109,Tryz.ntmps109
 go_wp2_with fail;refine (jI x14 hw.le).mono ?_;rintro e w2 ⟨rfl,hb⟩;have HB2:=hid hb;have y0:=ag hb x0;have y1:=ag hb x1;have y2:=ag hb x2;have y15:=ag hb c15;clear hb x0 x1 x2 x3 x4 c15 x14;go_wp2_with fail
 refine wp_region_held_drew (S:=lfS v.C OB (k * 5) s.st o.P o.R o.B w2) ak ⟨y15,y0,y1,y2,(Below.refl _ _).drew⟩ (fun hHeld => ?_)
 refine tkC (i:=0) rfl ?_;(try simp only [Act.put,sIB]);refine tkC (i:=1) rfl ?_;(try simp only [Act.put]);refine tkC (i:=2) rfl ?_;(try simp only [Act.put]);refine tkC (i:=3) rfl ?_;(try simp only [Act.put]);refine tkC (i:=4) rfl ?_;(try simp only [Act.put]);refine tkC (i:=5) rfl ?_;(try simp only [Act.put]);refine tkC (i:=6) rfl ?_;(try simp only [Act.put]);refine tkC (i:=7) rfl ?_;(try simp only [Act.put]);refine tkC (i:=8) rfl ?_;(try simp only [Act.put]);refine tkC (i:=9) rfl ?_;(try simp only [Act.put]);refine tkC (i:=10) rfl ?_;(try simp only [Act.put]);refine tkC (i:=11) rfl ?_;(try simp only [Act.put]);refine rdY (rs:=[12]) ?_
 refine AllReadyH.cons rfl (fun K hK => ?_) rN
 go_simp;refine (Bn o.P o.R o.B ae).mono ?_;rintro e w3 ⟨rfl,hb3⟩;have hS3:=lfS.later hHeld hb3
 refine hK.out _ _ hS3 (fun hHeld2 => ?_)
 clear hK K hb3 hHeld;refine tkC (i:=13) rfl ?_;(try simp only [Act.put,sIB]);refine rdY (rs:=[14]) ?_
 refine AllReadyH.cons rfl (fun K hK => ?_) rN
 go_simp;refine (gu _ _ _).mono ?_
 rintro e w4 (⟨hb,rfl,rfl⟩ | ⟨hb,rfl,rfl⟩)
 rotate_left
 ·exact Gz
 refine hK.out _ _ hHeld2 (fun hHeld3 => ?_)
 clear hK K;refine wpAnyH_done ak ?_ _;have hE:=hT hb;subst hE;have HB4:=hid (HB2.out.trans (hS3.2.2.2.2.mono HB2.out.size));obtain ⟨q15,q0,q1,q2,qb⟩:=hS3;have HC4:=hid (HC.out.later hA HB4.out);clear hb hT hF y0 y1 y2 y15 qb hHeld2 hHeld3 HB2;go_wp2_with fail
 go_region_held3 (fun W => W.cell? ⟨OB,k * 5,none⟩ = some (.string o.P) ∧ W.cell? ⟨OB,k * 5 + 1,none⟩ = some (.string o.R) ∧ W.cell? ⟨OB,k * 5 + 2,none⟩ = some (.string o.B))
  (first | assumption | exact ⟨q0,q1,q2⟩ | exact ⟨aT hS'.1 hne.1,aT hS'.2.1 hne.1,aT hS'.2.2 hne.1⟩)
  (first
   | (go_at_call 140; refine (zG o.P o.R o.B ae).mono ?_; rintro e w' ⟨rfl,hbx⟩; have hS' : w'.cell? ⟨OB,k * 5,none⟩ = some (.string o.P) ∧ w'.cell? ⟨OB,k * 5 + 1,none⟩ = some (.string o.R) ∧ w'.cell? ⟨OB,k * 5 + 2,none⟩ = some (.string o.B):=⟨ag hbx (show World.cell? _ _ = _ from q0),ag hbx (show World.cell? _ _ = _ from q1),ag hbx (show World.cell? _ _ = _ from q2)⟩; have HB5:=hid ((Below.refl _ _).drew.trans hbx); have HC5:=hid (HC4.out.later hA HB5.out); have k15:=HC5.out.st; have f15:=HC5.out.free 15; clear hbx))
 go_wp2_with fail;go_end0;refine .inl ⟨rfl,rfl,?_,(aX (HB4.out.trans (HB5.out.mono HB4.out.size))).trans (ay _ _ _ _)⟩;rw [HD.out];exact HC5.out.putSt hA _
end
end Go.Proofs.YtkdldbfbldkkcaaGreatDoor

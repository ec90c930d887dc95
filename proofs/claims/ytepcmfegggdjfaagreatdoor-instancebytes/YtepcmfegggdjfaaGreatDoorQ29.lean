/-
  Texts Vl.
-/
import Derived.Test.YtepcmfegggdjfaaGreatDoorQ00
import Derived.Test.YtepcmfegggdjfaaGreatDoorQ28
set_option linter.unusedVariables false
set_option maxRecDepth 100000
set_option maxHeartbeats 16000000
namespace Go.Proofs.YtepcmfegggdjfaaGreatDoor
open Go.RowKit
section
variable {v : Ev} {w1 w : World} {s : Cs} {m : MM} {lo : List Int}
abbrev lfS (C OB i : Nat) (st P R B : ByteArray) (w W : World) : Prop :=
 W.cell? ⟨C,15,none⟩ = some (.string st) ∧ W.cell? ⟨OB,i,none⟩ = some (.string P) ∧ W.cell? ⟨OB,i + 1,none⟩ = some (.string R) ∧ W.cell? ⟨OB,i + 2,none⟩ = some (.string B) ∧ Below w.heap.size w W
theorem lfS.later {C OB i : Nat} {st P R B : ByteArray} {w W W' : World} (h : lfS C OB i st P R B w W) (hb : Below W.heap.size W W') : lfS C OB i st P R B w W' :=
 ⟨later_cell hb h.1,later_cell hb h.2.1,later_cell hb h.2.2.1,later_cell hb h.2.2.2.1,h.2.2.2.2.trans (hb.mono h.2.2.2.2.size)⟩
theorem CI.ob {OB n oc : Nat} (h : CI v w1 w s) (h14 : w.cell? ⟨v.C,14,none⟩ = some (.slice (some ⟨OB,0,none⟩) n oc)) : OB = v.O0 ∨ w1.heap.size ≤ OB:=by
 obtain ⟨OB',oc',h1,h2,h3⟩:=h.ck
 have h0 : w.cell? ⟨v.C,14,none⟩ = some (.slice (some ⟨OB',0,none⟩) s.op.length oc'):=by rw [cell_at h1]; rfl
 rw [h0] at h14
 simp at h14
 rw [← h14.1]; exact h3
def lefE (s : Cs) (o : Opn) : Int:=if (s.st.toList == (o.B ++ o.R).toList) = true then 0 else 33
def othS (s : Cs) (o : Opn) : Cs:={ s with st:=o.B ++ o.P }
theorem otherwise167 (hA : EvA v w1) (h : CI v w1 w s) {k : Nat} {o : Opn} (hw : CW s k o) (hB : o.B.size ≤ 1000000) (hR : o.R.size ≤ 1000000) (hP : o.P.size ≤ 1000000) :
  Calls Tryz.prog 120 #[.pointer (some ⟨v.C,0,none⟩)] w (Doz v w1 w s.pc (lefE s o) unitV (othS s o)):=by
 obtain ⟨OB,oc,x14,x0,x1,x2,x3,x4⟩:=h.top hw
 have HC:=hid h
 have hT : (s.st.toList == (o.B ++ o.R).toList) = true → lefE s o = 0:=fun h => by simp only [lefE,h,if_true]
 have hF : (s.st.toList == (o.B ++ o.R).toList) = false → lefE s o = 33:=fun h => by simp [lefE,h]
 have HD:=hid (show othS s o = { s with st:=o.B ++ o.P } from rfl)
 generalize lefE s o = E at *
 have c15:=h.st
 have hne:=CI.OB_ne hA (h.ob x14)
 clear h
 go_enter Tryz.func120,Tryz.ntmps120
 go_wp2_with fail
 refine (inner230 x14 hw.le).mono ?_
 rintro e w2 ⟨rfl,hb⟩
 have HB2:=hid hb
 have y0:=later_cell hb x0
 have y1:=later_cell hb x1
 have y2:=later_cell hb x2
 have y15:=later_cell hb c15
 clear hb x0 x1 x2 x3 x4 c15 x14
 go_wp2_with fail
 refine wp_region_held_drew (S:=lfS v.C OB (k * 5) s.st o.P o.R o.B w2) (by kernel_rfl) ⟨y15,y0,y1,y2,(Below.refl _ _).drew⟩ (fun hHeld => ?_)
 refine tkH (i:=0) (v:=?_) rfl ?_ ?_
 rotate_left
 ·intro w h;(try dsimp only at h);go_simp;try with_reducible rfl
 try simp only [Act.put,sIB]
 refine tkH (i:=1) (v:=?_) rfl ?_ ?_
 rotate_left
 ·intro w h;(try dsimp only at h);go_simp;try with_reducible rfl
 try simp only [Act.put]
 refine tkH (i:=2) (v:=?_) rfl ?_ ?_
 rotate_left
 ·intro w h;(try dsimp only at h);go_simp;try with_reducible rfl
 try simp only [Act.put]
 refine tkH (i:=3) (v:=?_) rfl ?_ ?_
 rotate_left
 ·intro w h;(try dsimp only at h);go_simp;try with_reducible rfl
 try simp only [Act.put]
 refine tkH (i:=4) (v:=?_) rfl ?_ ?_
 rotate_left
 ·intro w h;(try dsimp only at h);go_simp;try with_reducible rfl
 try simp only [Act.put]
 refine tkH (i:=5) (v:=?_) rfl ?_ ?_
 rotate_left
 ·intro w h;(try dsimp only at h);go_simp;try with_reducible rfl
 try simp only [Act.put]
 refine tkH (i:=6) (v:=?_) rfl ?_ ?_
 rotate_left
 ·intro w h;(try dsimp only at h);go_simp;try with_reducible rfl
 try simp only [Act.put]
 refine tkH (i:=7) (v:=?_) rfl ?_ ?_
 rotate_left
 ·intro w h;(try dsimp only at h);go_simp;try with_reducible rfl
 try simp only [Act.put]
 refine tkH (i:=8) (v:=?_) rfl ?_ ?_
 rotate_left
 ·intro w h;(try dsimp only at h);go_simp;try with_reducible rfl
 try simp only [Act.put]
 refine tkH (i:=9) (v:=?_) rfl ?_ ?_
 rotate_left
 ·intro w h;(try dsimp only at h);go_simp;try with_reducible rfl
 try simp only [Act.put]
 refine tkH (i:=10) (v:=?_) rfl ?_ ?_
 rotate_left
 ·intro w h;(try dsimp only at h);go_simp;try with_reducible rfl
 try simp only [Act.put]
 refine tkH (i:=11) (v:=?_) rfl ?_ ?_
 rotate_left
 ·intro w h;(try dsimp only at h);go_simp;try with_reducible rfl
 try simp only [Act.put]
 refine wpAnyH_ready (rs:=[12]) (by kernel_rfl) (by simp) ?_
 refine AllReadyH.cons rfl (fun K hK => ?_) AllReadyH.nil
 go_simp
 refine (left231 o.P o.R o.B (by omega)).mono ?_
 rintro e w3 ⟨rfl,hb3⟩
 have hS3:=lfS.later hHeld hb3
 refine hK.out _ _ hS3 (fun hHeld2 => ?_)
 clear hK K hb3 hHeld
 refine tkH (i:=13) (v:=?_) rfl ?_ ?_
 rotate_left
 ·intro w h;(try dsimp only at h);go_simp;try with_reducible rfl
 try simp only [Act.put,sIB]
 refine wpAnyH_ready (rs:=[14]) (by kernel_rfl) (by simp) ?_
 refine AllReadyH.cons rfl (fun K hK => ?_) AllReadyH.nil
 go_simp
 refine (mustB _ _ _).mono ?_
 rintro e w4 (⟨hb,rfl,rfl⟩ | ⟨hb,rfl,rfl⟩)
 rotate_left
 ·have hE:=hF hb
  subst hE
  exact ⟨rfl,.inr ⟨by decide,rfl,(HC.out.later hA (HB2.out.trans (hS3.2.2.2.2.mono HB2.out.size))).bad⟩⟩
 refine hK.out _ _ hHeld2 (fun hHeld3 => ?_)
 clear hK K
 refine wpAnyH_done (by kernel_rfl) ?_ _
 have hE:=hT hb
 subst hE
 have HB4:=hid (HB2.out.trans (hS3.2.2.2.2.mono HB2.out.size))
 obtain ⟨q15,q0,q1,q2,qb⟩:=hS3
 have HC4:=hid (HC.out.later hA HB4.out)
 clear hb hT hF y0 y1 y2 y15 qb hHeld2 hHeld3 HB2
 go_wp2_with fail
 go_region_held3 (fun W => W.cell? ⟨OB,k * 5,none⟩ = some (.string o.P) ∧ W.cell? ⟨OB,k * 5 + 1,none⟩ = some (.string o.R) ∧ W.cell? ⟨OB,k * 5 + 2,none⟩ = some (.string o.B))
  (first | assumption | exact ⟨q0,q1,q2⟩ | exact ⟨put_cell hS'.1 hne.1,put_cell hS'.2.1 hne.1,put_cell hS'.2.2 hne.1⟩)
  (first
   | (go_at_call 151; refine (entered232 o.P o.R o.B (by omega)).mono ?_; rintro e w' ⟨rfl,hbx⟩; have hS' : w'.cell? ⟨OB,k * 5,none⟩ = some (.string o.P) ∧ w'.cell? ⟨OB,k * 5 + 1,none⟩ = some (.string o.R) ∧ w'.cell? ⟨OB,k * 5 + 2,none⟩ = some (.string o.B):=⟨later_cell hbx (show World.cell? _ _ = _ from q0),later_cell hbx (show World.cell? _ _ = _ from q1),later_cell hbx (show World.cell? _ _ = _ from q2)⟩; have HB5:=hid ((Below.refl _ _).drew.trans hbx); have HC5:=hid (HC4.out.later hA HB5.out); have k15:=HC5.out.st; have f15:=HC5.out.free 15; clear hbx))
 go_wp2_with fail
 go_end0
 refine .inl ⟨rfl,rfl,?_,(kept_of (HB4.out.trans (HB5.out.mono HB4.out.size))).trans (kept_set _ _ _ _)⟩
 rw [HD.out]
 exact HC5.out.putSt hA _
end
end Go.Proofs.YtepcmfegggdjfaaGreatDoor

/-
  Texts Fv.
-/
import Derived.Test.YtmgjhfookhaajaaGreatDoorQ42
set_option linter.unusedVariables false
set_option maxRecDepth 100000
set_option maxHeartbeats 16000000
namespace Go.Proofs.YtmgjhfookhaajaaGreatDoor
open Go.RowKit
def BY (s : StM) : Prop:=∀ x ∈ s.ps,∀ z ∈ x.2,0 ≤ z ∧ z ≤ 255
theorem SC.sb {s : StM} (h : SC s) (hb : BY s) : SB s :=
 ⟨fun x hx => ⟨by have:=(h.fb x hx).1; omega,by have:=(h.fb x hx).2; omega⟩,fun x hx => ⟨by have:=h.pb x hx; omega,hb x hx⟩,by have:=h.f; omega,by have:=h.g; omega,by have:=h.p; omega,by have:=h.r; omega⟩
theorem Same.sc {s t : StM} (h : Same s t) (hf : t.fs.length = s.fs.length) (hp : t.ps.length = s.ps.length) (hc : SC s) : SC t:=by
 refine ⟨by rw [h.fn]; exact hc.f,by rw [h.gn]; exact hc.g,by rw [h.pn]; exact hc.p,by rw [h.rn]; exact hc.r,fun y hy => ?_,fun y hy => ?_⟩
 ·obtain ⟨j,hj⟩:=List.getElem?_of_mem hy
  have hl:=lt_of_get hj
  have hx : s.fs[j]? = some (s.fs[j]'(by omega)):=List.getElem?_eq_getElem (by omega)
  obtain ⟨_,_,_,_,h4,h5⟩:=h.fs j _ y hx hj
  rw [h4,h5]
  exact hc.fb _ (List.mem_of_getElem? hx)
 ·obtain ⟨j,hj⟩:=List.getElem?_of_mem hy
  have hl:=lt_of_get hj
  have hx : s.ps[j]? = some (s.ps[j]'(by omega)):=List.getElem?_eq_getElem (by omega)
  obtain ⟨_,h5⟩:=h.ps j _ y hx hj
  rw [h5]
  exact hc.pb _ (List.mem_of_getElem? hx)
theorem Same.by_ {s t : StM} (h : Same s t) (hp : t.ps.length = s.ps.length) (hb : BY s) : BY t:=fun y hy => by
 obtain ⟨j,hj⟩:=List.getElem?_of_mem hy
 have hl:=lt_of_get hj
 have hx : s.ps[j]? = some (s.ps[j]'(by omega)):=List.getElem?_eq_getElem (by omega)
 obtain ⟨h4,_⟩:=h.ps j _ y hx hj
 rw [h4]
 exact hb _ (List.mem_of_getElem? hx)
theorem bel3 {w W0 W1 W2 : World} (h0 : Below w.heap.size w W0) (h1 : Below W0.heap.size W0 W1) (h2 : Below W1.heap.size W1 W2) : Below w.heap.size w W2 :=
 h0.trans ((h1.trans (h2.mono h1.size)).mono h0.size)
structure CopyOf (s t : StM) : Prop where
 same : Same s t
 sc : SC t
 sb : SB t
 eq : stE t s = true
theorem copyOf {w w' : World} {base : Nat} {s t : StM} (h : Same s t) (hr : SSt w s) (hc : CSt w' base t) (hs : SC s) (hb : BY s) : CopyOf s t:=by
 have hf : t.fs.length = s.fs.length:=by rw [hc.flen,hr.fr.len,h.fn]
 have hp : t.ps.length = s.ps.length:=by rw [hc.plen,hr.pg.len,h.pn]
 exact ⟨h,h.sc hf hp hs,(h.sc hf hp hs).sb (h.by_ hp hb),h.alike hf hp⟩
theorem law3 (a b : StM) (w : World) (ha : SSt w a) (hb : SSt w b) (ma : SM a) (mb : SM b) (ya : BY a) (yb : BY b) (hk : KindsOk w) :
  Calls Tryz.prog 3 #[.agg (stAr a),.agg (stAr b)] w fun e w' => e = .returned (.bool true) ∧ Below w.heap.size w w':=by
 have B1:=below_new w (.cells (stAr a) 27)
 have B2:=below_new (w.alloc (.cells (stAr a) 27)) (.cells (stAr b) 27)
 have B0:=B1.trans (B2.mono B1.size)
 have ka:=nb_later B2 (nb_new w (.cells (stAr a) 27))
 have kb : ((w.alloc (.cells (stAr a) 27)).alloc (.cells (stAr b) 27)).heap[w.heap.size + 1]? = some (.cells (stAr b) 27):=nb_at (by simp)
 have HB0:=hid B0
 have HA:=hid (ha.later B0)
 have HBs:=hid (hb.later B0)
 have HK:=hid (hk.later B0 hk.pos)
 have HM:=hid (And.intro (And.intro ma mb) (And.intro ya yb))
 have hz : ((w.alloc (.cells (stAr a) 27)).alloc (.cells (stAr b) 27)).heap.size = w.heap.size + 1 + 1:=by simp
 have g0 : ((w.alloc (.cells (stAr a) 27)).alloc (.cells (stAr b) 27)).cell? ⟨w.heap.size,0,none⟩ = some (.slice a.fa a.fn a.fc):=cell_at ka
 have g1 : ((w.alloc (.cells (stAr a) 27)).alloc (.cells (stAr b) 27)).cell? ⟨w.heap.size,1,none⟩ = some (.slice a.ga a.gn a.gc):=cell_at ka
 have g2 : ((w.alloc (.cells (stAr a) 27)).alloc (.cells (stAr b) 27)).cell? ⟨w.heap.size,2,none⟩ = some (.slice a.pa a.pn a.pc):=cell_at ka
 have g3 : ((w.alloc (.cells (stAr a) 27)).alloc (.cells (stAr b) 27)).cell? ⟨w.heap.size,3,none⟩ = some (.int .i64 a.rep):=cell_at ka
 have g4 : ((w.alloc (.cells (stAr a) 27)).alloc (.cells (stAr b) 27)).cell? ⟨w.heap.size,4,none⟩ = some (.int .i8 a.en):=cell_at ka
 have g5 : ((w.alloc (.cells (stAr a) 27)).alloc (.cells (stAr b) 27)).cell? ⟨w.heap.size,5,none⟩ = some (.slice a.ra a.rn a.rc):=cell_at ka
 have g6 : ((w.alloc (.cells (stAr a) 27)).alloc (.cells (stAr b) 27)).cell? ⟨w.heap.size,6,none⟩ = some (.int .i8 a.tr):=cell_at ka
 have g7 : ((w.alloc (.cells (stAr a) 27)).alloc (.cells (stAr b) 27)).cell? ⟨w.heap.size,7,none⟩ = some (.int .i64 a.us):=cell_at ka
 have h0 : ((w.alloc (.cells (stAr a) 27)).alloc (.cells (stAr b) 27)).cell? ⟨w.heap.size + 1,0,none⟩ = some (.slice b.fa b.fn b.fc):=cell_at kb
 have h1 : ((w.alloc (.cells (stAr a) 27)).alloc (.cells (stAr b) 27)).cell? ⟨w.heap.size + 1,1,none⟩ = some (.slice b.ga b.gn b.gc):=cell_at kb
 have h2 : ((w.alloc (.cells (stAr a) 27)).alloc (.cells (stAr b) 27)).cell? ⟨w.heap.size + 1,2,none⟩ = some (.slice b.pa b.pn b.pc):=cell_at kb
 have h3 : ((w.alloc (.cells (stAr a) 27)).alloc (.cells (stAr b) 27)).cell? ⟨w.heap.size + 1,3,none⟩ = some (.int .i64 b.rep):=cell_at kb
 have h4 : ((w.alloc (.cells (stAr a) 27)).alloc (.cells (stAr b) 27)).cell? ⟨w.heap.size + 1,4,none⟩ = some (.int .i8 b.en):=cell_at kb
 have h5 : ((w.alloc (.cells (stAr a) 27)).alloc (.cells (stAr b) 27)).cell? ⟨w.heap.size + 1,5,none⟩ = some (.slice b.ra b.rn b.rc):=cell_at kb
 have h6 : ((w.alloc (.cells (stAr a) 27)).alloc (.cells (stAr b) 27)).cell? ⟨w.heap.size + 1,6,none⟩ = some (.int .i8 b.tr):=cell_at kb
 have h7 : ((w.alloc (.cells (stAr a) 27)).alloc (.cells (stAr b) 27)).cell? ⟨w.heap.size + 1,7,none⟩ = some (.int .i64 b.us):=cell_at kb
 have HC:=hid (fun (W : World) (hW : Below ((w.alloc (.cells (stAr a) 27)).alloc (.cells (stAr b) 27)).heap.size ((w.alloc (.cells (stAr a) 27)).alloc (.cells (stAr b) 27)) W) => (⟨later_cell hW g0,later_cell hW g1,later_cell hW g2,later_cell hW g3,later_cell hW g4,later_cell hW g5,later_cell hW g6,later_cell hW g7,later_cell hW h0,later_cell hW h1,later_cell hW h2,later_cell hW h3,later_cell hW h4,later_cell hW h5,later_cell hW h6,later_cell hW h7⟩ : W.cell? ⟨w.heap.size,0,none⟩ = some (.slice a.fa a.fn a.fc) ∧ W.cell? ⟨w.heap.size,1,none⟩ = some (.slice a.ga a.gn a.gc) ∧ W.cell? ⟨w.heap.size,2,none⟩ = some (.slice a.pa a.pn a.pc) ∧ W.cell? ⟨w.heap.size,3,none⟩ = some (.int .i64 a.rep) ∧ W.cell? ⟨w.heap.size,4,none⟩ = some (.int .i8 a.en) ∧ W.cell? ⟨w.heap.size,5,none⟩ = some (.slice a.ra a.rn a.rc) ∧ W.cell? ⟨w.heap.size,6,none⟩ = some (.int .i8 a.tr) ∧ W.cell? ⟨w.heap.size,7,none⟩ = some (.int .i64 a.us) ∧ W.cell? ⟨w.heap.size + 1,0,none⟩ = some (.slice b.fa b.fn b.fc) ∧ W.cell? ⟨w.heap.size + 1,1,none⟩ = some (.slice b.ga b.gn b.gc) ∧ W.cell? ⟨w.heap.size + 1,2,none⟩ = some (.slice b.pa b.pn b.pc) ∧ W.cell? ⟨w.heap.size + 1,3,none⟩ = some (.int .i64 b.rep) ∧ W.cell? ⟨w.heap.size + 1,4,none⟩ = some (.int .i8 b.en) ∧ W.cell? ⟨w.heap.size + 1,5,none⟩ = some (.slice b.ra b.rn b.rc) ∧ W.cell? ⟨w.heap.size + 1,6,none⟩ = some (.int .i8 b.tr) ∧ W.cell? ⟨w.heap.size + 1,7,none⟩ = some (.int .i64 b.us)))
 have HZ:=hid hz
 clear B1 B2 B0 ka kb ha hb ma mb ya yb hk hz
 go_enter Tryz.func3,Tryz.ntmps3
 go_wp2_with fail
 generalize ((w.alloc (.cells (stAr a) 27)).alloc (.cells (stAr b) 27)) = W0 at *
 refine (lon4 a W0 HA.out HM.out.1.1).mono ?_
 rintro e w5 ⟨r,rfl,hr,hb5⟩
 have HR:=hid hr
 have HB5:=hid hb5
 obtain ⟨i0,i1,i2,i3,i4,i5,i6,i7,j0,j1,j2,j3,j4,j5,j6,j7⟩:=HC.out _ hb5
 clear hr hb5 g0 g1 g2 g3 g4 g5 g6 g7 h0 h1 h2 h3 h4 h5 h6 h7
 cases r with
 | true =>
  have H5:=hid (wks5 w5 (HK.out.later HB5.out HK.out.pos))
  clear HC HA HBs HK HM HR HZ
  go_wp2_with fail
  refine H5.out.mono ?_
  rintro e w6 ⟨rfl,hbe⟩
  have HE:=hid (bel3 HB0.out HB5.out hbe)
  clear hbe
  go_wp2_with fail
  go_ret
  exact ⟨rfl,HE.out⟩
 | false =>
 have SCA:=hid (HR.out rfl).1
 clear HR
 go_wp2_with fail
 refine (lon4 b w5 (HBs.out.later HB5.out) HM.out.1.2).mono ?_
 rintro e w6 ⟨r,rfl,hr,hb6⟩
 have HR:=hid hr
 have HB6:=hid (HB5.out.trans (hb6.mono HB5.out.size))
 obtain ⟨k0,k1,k2,k3,k4,k5,k6,k7,l0,l1,l2,l3,l4,l5,l6,l7⟩:=HC.out _ HB6.out
 clear hr hb6 i0 i1 i2 i3 i4 i5 i6 i7 j0 j1 j2 j3 j4 j5 j6 j7
 cases r with
 | true =>
  have H5:=hid (wks5 w6 (HK.out.later HB6.out HK.out.pos))
  clear HC HA HBs HK HM HR HB5 HZ SCA
  go_wp2_with fail
  refine H5.out.mono ?_
  rintro e w7 ⟨rfl,hbe⟩
  have HE:=hid (bel3 HB0.out HB6.out hbe)
  clear hbe
  go_wp2_with fail
  go_ret
  exact ⟨rfl,HE.out⟩
 | false =>
 have SCB:=hid (HR.out rfl).1
 clear HR
 go_wp2_with fail
 refine (fcopy6 a w6 (HA.out.later HB6.out) SCA.out).mono ?_
 rintro e w7 ⟨t,rfl,ht,hst,hb7⟩
 have hb7':=HB6.out.trans (hb7.mono HB6.out.size)
 have B8:=below_new w7 (.cells (stAr t) 27)
 have kt:=nb_new w7 (.cells (stAr t) 27)
 have CT:=hid (copyOf hst (HA.out.later HB6.out) ht SCA.out HM.out.2.1)
 have hb8:=hb7'.trans (B8.mono hb7'.size)
 have HB8:=hid hb8
 have CWt:=hid (ht.wide.later B8)
 have RT:=hid (ht.read.later B8)
 have SZ:=hid (And.intro HB6.out.size hb7.size)
 have q0 : (w7.alloc (.cells (stAr t) 27)).cell? ⟨w7.heap.size,0,none⟩ = some (.slice t.fa t.fn t.fc):=cell_at kt
 have q1 : (w7.alloc (.cells (stAr t) 27)).cell? ⟨w7.heap.size,1,none⟩ = some (.slice t.ga t.gn t.gc):=cell_at kt
 have q2 : (w7.alloc (.cells (stAr t) 27)).cell? ⟨w7.heap.size,2,none⟩ = some (.slice t.pa t.pn t.pc):=cell_at kt
 have q3 : (w7.alloc (.cells (stAr t) 27)).cell? ⟨w7.heap.size,3,none⟩ = some (.int .i64 t.rep):=cell_at kt
 have q4 : (w7.alloc (.cells (stAr t) 27)).cell? ⟨w7.heap.size,4,none⟩ = some (.int .i8 t.en):=cell_at kt
 have q5 : (w7.alloc (.cells (stAr t) 27)).cell? ⟨w7.heap.size,5,none⟩ = some (.slice t.ra t.rn t.rc):=cell_at kt
 have q6 : (w7.alloc (.cells (stAr t) 27)).cell? ⟨w7.heap.size,6,none⟩ = some (.int .i8 t.tr):=cell_at kt
 have q7 : (w7.alloc (.cells (stAr t) 27)).cell? ⟨w7.heap.size,7,none⟩ = some (.int .i64 t.us):=cell_at kt
 obtain ⟨m0,m1,m2,m3,m4,m5,m6,m7,n0,n1,n2,n3,n4,n5,n6,n7⟩:=HC.out _ HB8.out
 clear hb7' B8 kt hst ht hb7 hb8 k0 k1 k2 k3 k4 k5 k6 k7 l0 l1 l2 l3 l4 l5 l6 l7
 have hfl:=HA.out.fr.len
 have hfn:=SCA.out.f
 go_wp2_with fail
 generalize w7.alloc (.cells (stAr t) 27) = W1 at *
 generalize w7.heap.size = top at *
 generalize hbase : w6.heap.size = base at *
 clear hbase
 go_loopw [6,7] (fun n i wr => ∃ k : Nat,k ≤ a.fn ∧ i = .int .i64 k ∧ n = .int .i64 (hgt (a.fs.take k) : Nat) ∧ wr = W1) (fun _ i _ => a.fn - (intOf i).toNat)
 case atStart => exact ⟨0,by omega,rfl,rfl,rfl⟩
 case round =>
  obtain ⟨k,hk,rfl,rfl,hwr⟩:=hrel
  subst hwr
  by_cases hlt : k < a.fn
  ·obtain ⟨x,hx⟩ : ∃ x,a.fs[k]? = some x:=⟨_,List.getElem?_eq_getElem (by omega)⟩
   obtain ⟨b',off,hfa,hat⟩:=HA.out.fr.at_.resolve_left (by omega)
   obtain ⟨e0,e1,e2,e3⟩:=hat k x hx
   have e3:=later_cell HB8.out e3
   have hlt' : (k : Int) < (a.fn : Int):=by omega
   have hxb:=(SCA.out.fb x (List.mem_of_getElem? hx)).2
   have hq : hgt (a.fs.take k) ≤ 4611686018427387904:=by
    have h1:=hgt_le (l:=a.fs.take k) (fun y hy => (SCA.out.fb y (List.mem_of_mem_take hy)).2)
    rw [List.length_take] at h1
    have h2 : min k a.fs.length * 2147483647 ≤ 2147483647 * 2147483647:=Nat.mul_le_mul_right _ (by omega)
    omega
   have HT:=hid (hgt_take hx)
   rw [hfa] at m0
   clear hat hx e0 e1 e2 hfa HC HA HBs HK HM SCA SCB CT HB5 HB6 HB8 CWt RT SZ HZ m1 m2 m3 m4 m5 m6 m7 n0 n1 n2 n3 n4 n5 n6 n7 q0 q1 q2 q3 q4 q5 q6 q7
   generalize hgt (a.fs.take k) = q at *
   have hw : wrap64 ((q : Int) + (x.2.2.2.1.2.1 : Int)) = ((q + x.2.2.2.1.2.1 : Nat) : Int):=by unfold wrap64; omega
   go_wp2_with fail
   exact ⟨⟨k + 1,by omega,by go_num,by rw [HT.out]; go_num,by trivial⟩,by simp [intOf]; omega⟩
  ·obtain rfl : k = a.fn:=by omega
   have he : a.fs.take a.fn = a.fs:=List.take_of_length_le (by omega)
   rw [he] at *
   clear he hlt hk hfl hfn
   go_wp2_with fail
   have SBA:=SCA.out.sb HM.out.2.1
   have SBB:=SCB.out.sb HM.out.2.2
   have ra:=HA.out.later HB8.out
   have rb:=HBs.out.later HB8.out
   have H1:=hid (fun (W : World) (hW : Below wr.heap.size wr W) => eqS7 t a W (RT.out.later hW) (ra.later hW) CT.out.sb SBA)
   have H2:=hid (fun (W : World) (hW : Below wr.heap.size wr W) => eqS8 a b W (ra.later hW) (rb.later hW) SBA SBB)
   have H3:=hid (fun (W : World) (hW : Below wr.heap.size wr W) => eqS7 a b W (ra.later hW) (rb.later hW) SBA SBB)
   have H4:=hid (fun (W : World) (hW : Below wr.heap.size wr W) => eqS8 t a W (RT.out.later hW) (ra.later hW) CT.out.sb SBA)
   have H9:=hid (fun (W : World) (hW : Below wr.heap.size wr W) => hei9 a W (ra.later hW) SCA.out)
   rw [CT.out.eq] at H1 H4
   have HL:=hid (fun (W : World) (hW : Below wr.heap.size wr W) => (⟨later_cell hW m0,later_cell hW m1,later_cell hW m2,later_cell hW m3,later_cell hW m4,later_cell hW m5,later_cell hW m6,later_cell hW m7,later_cell hW n0,later_cell hW n1,later_cell hW n2,later_cell hW n3,later_cell hW n4,later_cell hW n5,later_cell hW n6,later_cell hW n7,later_cell hW q0,later_cell hW q1,later_cell hW q2,later_cell hW q3,later_cell hW q4,later_cell hW q5,later_cell hW q6,later_cell hW q7⟩ : W.cell? ⟨w.heap.size,0,none⟩ = some (.slice a.fa a.fn a.fc) ∧ W.cell? ⟨w.heap.size,1,none⟩ = some (.slice a.ga a.gn a.gc) ∧ W.cell? ⟨w.heap.size,2,none⟩ = some (.slice a.pa a.pn a.pc) ∧ W.cell? ⟨w.heap.size,3,none⟩ = some (.int .i64 a.rep) ∧ W.cell? ⟨w.heap.size,4,none⟩ = some (.int .i8 a.en) ∧ W.cell? ⟨w.heap.size,5,none⟩ = some (.slice a.ra a.rn a.rc) ∧ W.cell? ⟨w.heap.size,6,none⟩ = some (.int .i8 a.tr) ∧ W.cell? ⟨w.heap.size,7,none⟩ = some (.int .i64 a.us) ∧ W.cell? ⟨w.heap.size + 1,0,none⟩ = some (.slice b.fa b.fn b.fc) ∧ W.cell? ⟨w.heap.size + 1,1,none⟩ = some (.slice b.ga b.gn b.gc) ∧ W.cell? ⟨w.heap.size + 1,2,none⟩ = some (.slice b.pa b.pn b.pc) ∧ W.cell? ⟨w.heap.size + 1,3,none⟩ = some (.int .i64 b.rep) ∧ W.cell? ⟨w.heap.size + 1,4,none⟩ = some (.int .i8 b.en) ∧ W.cell? ⟨w.heap.size + 1,5,none⟩ = some (.slice b.ra b.rn b.rc) ∧ W.cell? ⟨w.heap.size + 1,6,none⟩ = some (.int .i8 b.tr) ∧ W.cell? ⟨w.heap.size + 1,7,none⟩ = some (.int .i64 b.us) ∧ W.cell? ⟨top,0,none⟩ = some (.slice t.fa t.fn t.fc) ∧ W.cell? ⟨top,1,none⟩ = some (.slice t.ga t.gn t.gc) ∧ W.cell? ⟨top,2,none⟩ = some (.slice t.pa t.pn t.pc) ∧ W.cell? ⟨top,3,none⟩ = some (.int .i64 t.rep) ∧ W.cell? ⟨top,4,none⟩ = some (.int .i8 t.en) ∧ W.cell? ⟨top,5,none⟩ = some (.slice t.ra t.rn t.rc) ∧ W.cell? ⟨top,6,none⟩ = some (.int .i8 t.tr) ∧ W.cell? ⟨top,7,none⟩ = some (.int .i64 t.us)))
   have KD:=hid (show Below wr.heap.size wr wr.drew from (Kept.drewN (fun _ => False) wr 1).to_below (Nat.le_refl _) (fun _ _ x => x))
   clear ra rb
   generalize stE a b = ab at *
   go_region_held3 (fun W => W.cell? ⟨w.heap.size,0,none⟩ = some (.slice a.fa a.fn a.fc) ∧ W.cell? ⟨w.heap.size,1,none⟩ = some (.slice a.ga a.gn a.gc) ∧ W.cell? ⟨w.heap.size,2,none⟩ = some (.slice a.pa a.pn a.pc) ∧ W.cell? ⟨w.heap.size,3,none⟩ = some (.int .i64 a.rep) ∧ W.cell? ⟨w.heap.size,4,none⟩ = some (.int .i8 a.en) ∧ W.cell? ⟨w.heap.size,5,none⟩ = some (.slice a.ra a.rn a.rc) ∧ W.cell? ⟨w.heap.size,6,none⟩ = some (.int .i8 a.tr) ∧ W.cell? ⟨w.heap.size,7,none⟩ = some (.int .i64 a.us) ∧ W.cell? ⟨w.heap.size + 1,0,none⟩ = some (.slice b.fa b.fn b.fc) ∧ W.cell? ⟨w.heap.size + 1,1,none⟩ = some (.slice b.ga b.gn b.gc) ∧ W.cell? ⟨w.heap.size + 1,2,none⟩ = some (.slice b.pa b.pn b.pc) ∧ W.cell? ⟨w.heap.size + 1,3,none⟩ = some (.int .i64 b.rep) ∧ W.cell? ⟨w.heap.size + 1,4,none⟩ = some (.int .i8 b.en) ∧ W.cell? ⟨w.heap.size + 1,5,none⟩ = some (.slice b.ra b.rn b.rc) ∧ W.cell? ⟨w.heap.size + 1,6,none⟩ = some (.int .i8 b.tr) ∧ W.cell? ⟨w.heap.size + 1,7,none⟩ = some (.int .i64 b.us) ∧ W.cell? ⟨top,0,none⟩ = some (.slice t.fa t.fn t.fc) ∧ W.cell? ⟨top,1,none⟩ = some (.slice t.ga t.gn t.gc) ∧ W.cell? ⟨top,2,none⟩ = some (.slice t.pa t.pn t.pc) ∧ W.cell? ⟨top,3,none⟩ = some (.int .i64 t.rep) ∧ W.cell? ⟨top,4,none⟩ = some (.int .i8 t.en) ∧ W.cell? ⟨top,5,none⟩ = some (.slice t.ra t.rn t.rc) ∧ W.cell? ⟨top,6,none⟩ = some (.int .i8 t.tr) ∧ W.cell? ⟨top,7,none⟩ = some (.int .i64 t.us)) (exact ⟨by assumption,by assumption,by assumption,by assumption,by assumption,by assumption,by assumption,by assumption,by assumption,by assumption,by assumption,by assumption,by assumption,by assumption,by assumption,by assumption,by assumption,by assumption,by assumption,by assumption,by assumption,by assumption,by assumption,by assumption⟩)
    (first
     | (go_at_call 9; have hprev:=V4.out; refine (H9.out _ hprev).mono ?_; rintro e v5 ⟨rfl,hv⟩; have V5:=hid (hprev.trans (hv.mono hprev.size)); obtain ⟨ya0,ya1,ya2,ya3,ya4,ya5,ya6,ya7,yb0,yb1,yb2,yb3,yb4,yb5,yb6,yb7,yc0,yc1,yc2,yc3,yc4,yc5,yc6,yc7⟩:=HL.out _ V5.out; clear hv hprev xa0 xa1 xa2 xa3 xa4 xa5 xa6 xa7 xb0 xb1 xb2 xb3 xb4 xb5 xb6 xb7 xc0 xc1 xc2 xc3 xc4 xc5 xc6 xc7)
     | (go_at_call 8; have hprev:=V3.out; refine (H4.out _ hprev).mono ?_; rintro e v4 ⟨rfl,hv⟩; have V4:=hid (hprev.trans (hv.mono hprev.size)); obtain ⟨xa0,xa1,xa2,xa3,xa4,xa5,xa6,xa7,xb0,xb1,xb2,xb3,xb4,xb5,xb6,xb7,xc0,xc1,xc2,xc3,xc4,xc5,xc6,xc7⟩:=HL.out _ V4.out; clear hv hprev wa0 wa1 wa2 wa3 wa4 wa5 wa6 wa7 wb0 wb1 wb2 wb3 wb4 wb5 wb6 wb7 wc0 wc1 wc2 wc3 wc4 wc5 wc6 wc7)
     | (go_at_call 7; have hprev:=V2.out; refine (H3.out _ hprev).mono ?_; rintro e v3 ⟨rfl,hv⟩; have V3:=hid (hprev.trans (hv.mono hprev.size)); obtain ⟨wa0,wa1,wa2,wa3,wa4,wa5,wa6,wa7,wb0,wb1,wb2,wb3,wb4,wb5,wb6,wb7,wc0,wc1,wc2,wc3,wc4,wc5,wc6,wc7⟩:=HL.out _ V3.out; clear hv hprev va0 va1 va2 va3 va4 va5 va6 va7 vb0 vb1 vb2 vb3 vb4 vb5 vb6 vb7 vc0 vc1 vc2 vc3 vc4 vc5 vc6 vc7)
     | (go_at_call 8; have hprev:=V1.out; refine (H2.out _ hprev).mono ?_; rintro e v2 ⟨rfl,hv⟩; have V2:=hid (hprev.trans (hv.mono hprev.size)); obtain ⟨va0,va1,va2,va3,va4,va5,va6,va7,vb0,vb1,vb2,vb3,vb4,vb5,vb6,vb7,vc0,vc1,vc2,vc3,vc4,vc5,vc6,vc7⟩:=HL.out _ V2.out; clear hv hprev ua0 ua1 ua2 ua3 ua4 ua5 ua6 ua7 ub0 ub1 ub2 ub3 ub4 ub5 ub6 ub7 uc0 uc1 uc2 uc3 uc4 uc5 uc6 uc7)
     | (go_at_call 7; have hprev:=KD.out; refine (H1.out _ hprev).mono ?_; rintro e v1 ⟨rfl,hv⟩; have V1:=hid (hprev.trans (hv.mono hprev.size)); obtain ⟨ua0,ua1,ua2,ua3,ua4,ua5,ua6,ua7,ub0,ub1,ub2,ub3,ub4,ub5,ub6,ub7,uc0,uc1,uc2,uc3,uc4,uc5,uc6,uc7⟩:=HL.out _ V1.out; clear hv hprev))
   clear H1 H2 H3 H4 H9 SBA SBB KD V1 V2 V3 V4
   have hbv:=HB8.out.trans (V5.out.mono HB8.out.size)
   go_wp2_with fail
   refine (cst10 a v5 (HA.out.later hbv) SCA.out).mono ?_
   rintro e w14 ⟨t2,rfl,ht2,hst2,hb14⟩
   have B15:=below_new w14 (.cells (stAr t2) 27)
   have kd:=nb_new w14 (.cells (stAr t2) 27)
   have hV2:=V5.out.trans ((hb14.trans (B15.mono hb14.size)).mono V5.out.size)
   have hball:=HB8.out.trans (hV2.mono HB8.out.size)
   obtain ⟨ra0,ra1,ra2,ra3,ra4,ra5,ra6,ra7,rb0,rb1,rb2,rb3,rb4,rb5,rb6,rb7,rc0,rc1,rc2,rc3,rc4,rc5,rc6,rc7⟩:=HL.out _ hV2
   have CT2:=hid (copyOf hst2 (HA.out.later hbv) ht2 SCA.out HM.out.2.1)
   have htop : top < v5.heap.size:=Nat.lt_of_lt_of_le (block_lt_of_cell q0) V5.out.size
   have HLV0:=hid (show LV (w14.alloc (.cells (stAr t2) 27)) base top t (w14.alloc (.cells (stAr t2) 27)) from ⟨kept_of (Below.refl _ _),CWt.out.later hV2⟩)
   have BW:=hid (fun (W : World) (h : LV (w14.alloc (.cells (stAr t2) 27)) base top t W) => (show Below W0.heap.size W0 W from hball.trans (h.k.to_below hball.size (fun k hk hs => by have h1:=SZ.out.1; have h2:=hs.1; omega))))
   have CS2:=hid (fun (W : World) (h : LV (w14.alloc (.cells (stAr t2) 27)) base top t W) => (((ht2.above (S:=fun _ => False) (kept_of B15) (fun b hb => hb.elim)).above h.k (fun b hb => Nat.lt_trans hb.2 htop)).read))
   have hnt : ∀ x y : Nat,¬ (x ≤ top ∧ top < top):=fun x y h => Nat.lt_irrefl _ h.2
   have HCC:=hid (fun (W : World) (h : LV (w14.alloc (.cells (stAr t2) 27)) base top t W) => (⟨h.k.cell rc0 (fun hs => Nat.lt_irrefl _ hs.2),h.k.cell rc1 (fun hs => Nat.lt_irrefl _ hs.2),h.k.cell rc2 (fun hs => Nat.lt_irrefl _ hs.2),h.k.cell rc5 (fun hs => Nat.lt_irrefl _ hs.2)⟩ : W.cell? ⟨top,0,none⟩ = some (.slice t.fa t.fn t.fc) ∧ W.cell? ⟨top,1,none⟩ = some (.slice t.ga t.gn t.gc) ∧ W.cell? ⟨top,2,none⟩ = some (.slice t.pa t.pn t.pc) ∧ W.cell? ⟨top,5,none⟩ = some (.slice t.ra t.rn t.rc)))
   have hdt : ¬ w14.heap.size < top:=by have:=hb14.size; omega
   have HCD:=hid (fun (W : World) (h : LV (w14.alloc (.cells (stAr t2) 27)) base top t W) => (⟨h.k.cell (cell_at kd) (fun hs => hdt hs.2),h.k.cell (cell_at kd) (fun hs => hdt hs.2),h.k.cell (cell_at kd) (fun hs => hdt hs.2),h.k.cell (cell_at kd) (fun hs => hdt hs.2),h.k.cell (cell_at kd) (fun hs => hdt hs.2),h.k.cell (cell_at kd) (fun hs => hdt hs.2),h.k.cell (cell_at kd) (fun hs => hdt hs.2),h.k.cell (cell_at kd) (fun hs => hdt hs.2)⟩ : W.cell? ⟨w14.heap.size,0,none⟩ = some (.slice t2.fa t2.fn t2.fc) ∧ W.cell? ⟨w14.heap.size,1,none⟩ = some (.slice t2.ga t2.gn t2.gc) ∧ W.cell? ⟨w14.heap.size,2,none⟩ = some (.slice t2.pa t2.pn t2.pc) ∧ W.cell? ⟨w14.heap.size,3,none⟩ = some (.int .i64 t2.rep) ∧ W.cell? ⟨w14.heap.size,4,none⟩ = some (.int .i8 t2.en) ∧ W.cell? ⟨w14.heap.size,5,none⟩ = some (.slice t2.ra t2.rn t2.rc) ∧ W.cell? ⟨w14.heap.size,6,none⟩ = some (.int .i8 t2.tr) ∧ W.cell? ⟨w14.heap.size,7,none⟩ = some (.int .i64 t2.us)))
   have HY:=hid HM.out.2.1
   have HCA:=hid (fun (W : World) (h : LV (w14.alloc (.cells (stAr t2) 27)) base top t W) => (HC.out W (BW.out W h)))
   have hfl:=CT.out.same.fn
   have hcl:=CWt.out.fl
   have hpl:=CWt.out.pl
   have hfn:=CT.out.sc.f
   have hpn:=CT.out.sc.p
   have hgn:=CT.out.sc.g
   have hrn:=CT.out.sc.r
   clear hbv ht2 hst2 hb14 B15 kd hV2 hball htop hnt hdt HL V5 HB8 HB5 HB6 CWt RT HZ SCB HBs HM HC SZ hfl ra0 ra1 ra2 ra3 ra4 ra5 ra6 ra7 rb0 rb1 rb2 rb3 rb4 rb5 rb6 rb7 rc0 rc1 rc2 rc3 rc4 rc5 rc6 rc7 m0 m1 m2 m3 m4 m5 m6 m7 n0 n1 n2 n3 n4 n5 n6 n7 q0 q1 q2 q3 q4 q5 q6 q7 ya0 ya1 ya2 ya3 ya4 ya5 ya6 ya7 yb0 yb1 yb2 yb3 yb4 yb5 yb6 yb7 yc0 yc1 yc2 yc3 yc4 yc5 yc6 yc7
   go_wp2_with fail
   generalize (w14.alloc (.cells (stAr t2) 27)) = W2 at *
   generalize w14.heap.size = GD at *
   go_loopw [9] (fun i wr => ∃ k : Nat,k ≤ t.fn ∧ i = .int .i64 k ∧ Hid (LV W2 base top t wr)) (fun i _ => t.fn - (intOf i).toNat)
   case atStart => exact ⟨0,by omega,rfl,HLV0⟩
   case round =>
    obtain ⟨iff,hiff,rfl,VF⟩:=hrel
    obtain ⟨c0,c1,c2,c5⟩:=HCC.out _ VF.out
    clear c1 c2 c5
    by_cases hlif : iff < t.fn
    ·have hl' : (iff : Int) < (t.fn : Int):=by omega
     obtain ⟨x,hx⟩ : ∃ x,t.fs[iff]? = some x:=⟨_,List.getElem?_eq_getElem (by omega)⟩
     obtain ⟨hxm1,hxm3⟩:=CT.out.sc.fb x (List.mem_of_getElem? hx)
     obtain ⟨m1,hm1⟩ : ∃ m,x.2.2.1.1.2.1 = m:=⟨_,rfl⟩
     obtain ⟨m3,hm3⟩ : ∃ m,x.2.2.2.1.2.1 = m:=⟨_,rfl⟩
     rw [hm1] at hxm1
     rw [hm3] at hxm3
     go_wp2_with fail
     clear c0
     go_loopw [10] (fun i wr => ∃ k : Nat,k ≤ m3 ∧ i = .int .i64 k ∧ Hid (LV W2 base top t wr)) (fun i _ => m3 - (intOf i).toNat)
     case atStart => exact ⟨0,by omega,rfl,VF⟩
     case round =>
      obtain ⟨is,his,rfl,VS⟩:=hrel
      clear VF
      obtain ⟨c0,c1,c2,c5⟩:=HCC.out _ VS.out
      clear c1 c2 c5
      obtain ⟨fb,cfr,p,hfa,hb1,hb2,hfb,f1,z1,f2,f3⟩:=VS.out.c.f.at_ hlif hx
      rw [hfa] at c0
      rw [hm3] at f3
      have hwn:=(VS.out.c.fi x (List.mem_of_getElem? hx)).2
      rw [hm3] at hwn
      clear hfa hfb hb1 hb2 f1 z1 f2
      by_cases hlis : is < m3
      ·have hl' : (is : Int) < (m3 : Int):=by omega
       obtain ⟨bb,cur,z,hbb,hc1,hc2,hcur,hcz,hcf⟩:=hwn.at_ hlis
       rw [hbb] at f3
       have HN:=hid (fun (u : Int) => VS.out.put (i:=is) (u:=.int .u64 u) hcur (.inl ⟨rfl,_,rfl⟩) hc1 hc2)
       clear VS hcur hc1 hc2 hbb HCC HCD HCA CS2 BW HLV0 HA HK SCA CT CT2 hwn hx hm1 hm3
       go_wp2_with fail
       exact ⟨⟨is + 1,by omega,by go_num,hid (HN.out _)⟩,by simp [intOf]; omega⟩
      ·have he : is = m3:=by omega
       subst he
       clear hlis his
       clear hwn
       go_wp2_with fail
       clear c0 f3
       go_loopw [11] (fun i wr => ∃ k : Nat,k ≤ m1 ∧ i = .int .i64 k ∧ Hid (LV W2 base top t wr)) (fun i _ => m1 - (intOf i).toNat)
       case atStart => exact ⟨0,by omega,rfl,VS⟩
       case round =>
        obtain ⟨il,hil,rfl,VL⟩:=hrel
        clear VS
        obtain ⟨c0,c1,c2,c5⟩:=HCC.out _ VL.out
        clear c1 c2 c5
        obtain ⟨fb,cfr,p,hfa,hb1,hb2,hfb,f1,z1,f2,f3⟩:=VL.out.c.f.at_ hlif hx
        rw [hfa] at c0
        rw [hm1] at f2
        have hwn:=(VL.out.c.fi x (List.mem_of_getElem? hx)).1
        rw [hm1] at hwn
        have HP:=hid (fun (u : Int) => VL.out.put (i:=iff * 4 + 1) (u:=.int .i64 u) hfb (.inr (.inr ⟨rfl,by omega,_,rfl⟩)) hb1 hb2)
        clear hfa hfb hb1 hb2 f3
        by_cases hlil : il < m1
        ·have hl' : (il : Int) < (m1 : Int):=by omega
         obtain ⟨bb,cur,z,hbb,hc1,hc2,hcur,hcz,hcf⟩:=hwn.at_ hlil
         rw [hbb] at f2
         have HN:=hid (fun (u : Int) => VL.out.put (i:=il) (u:=.int .u64 u) hcur (.inl ⟨rfl,_,rfl⟩) hc1 hc2)
         clear VL hcur hc1 hc2 hbb HCC HCD HCA CS2 BW HLV0 HA HK SCA CT CT2 hwn hx hm1 hm3 HP f1 z1
         go_wp2_with fail
         exact ⟨⟨il + 1,by omega,by go_num,hid (HN.out _)⟩,by simp [intOf]; omega⟩
        ·have he : il = m1:=by omega
         subst he
         clear hlil hil
         clear hwn HCC
         go_wp2_with fail
         exact ⟨⟨iff + 1,by omega,by go_num,hid (HP.out _)⟩,by simp [intOf]; omega⟩
    ·have he : iff = t.fn:=by omega
     clear hlif hiff
     subst he
     go_wp2_with fail
     go_loopw [12] (fun i wr => ∃ k : Nat,k ≤ t.pn ∧ i = .int .i64 k ∧ Hid (LV W2 base top t wr)) (fun i _ => t.pn - (intOf i).toNat)
     case atStart => exact ⟨0,by omega,rfl,VF⟩
     case round =>
      obtain ⟨ip,hip,rfl,VP⟩:=hrel
      clear VF
      obtain ⟨c0,c1,c2,c5⟩:=HCC.out _ VP.out
      clear c0 c1 c5
      by_cases hlip : ip < t.pn
      ·have hl' : (ip : Int) < (t.pn : Int):=by omega
       obtain ⟨x,hx⟩ : ∃ x,t.ps[ip]? = some x:=⟨_,List.getElem?_eq_getElem (by omega)⟩
       have hxm:=CT.out.sc.pb x (List.mem_of_getElem? hx)
       obtain ⟨m,hm⟩ : ∃ m,x.1.2.1 = m:=⟨_,rfl⟩
       rw [hm] at hxm
       go_wp2_with fail
       clear c2
       go_loopw [13] (fun i wr => ∃ k : Nat,k ≤ m ∧ i = .int .i64 k ∧ Hid (LV W2 base top t wr)) (fun i _ => m - (intOf i).toNat)
       case atStart => exact ⟨0,by omega,rfl,VP⟩
       case round =>
        obtain ⟨iy,hiy,rfl,VY⟩:=hrel
        clear VP
        obtain ⟨c0,c1,c2,c5⟩:=HCC.out _ VY.out
        clear c0 c1 c5
        obtain ⟨pb,hpa,pc⟩:=VY.out.c.p.at_ hlip hx
        rw [hpa] at c2
        rw [hm] at pc
        have hwn:=VY.out.c.pi x (List.mem_of_getElem? hx)
        rw [hm] at hwn
        clear hpa
        by_cases hliy : iy < m
        ·have hl' : (iy : Int) < (m : Int):=by omega
         obtain ⟨bb,cur,z,hbb,hc1,hc2,hcur,hcz,hcf⟩:=hwn.at_ hliy
         rw [hbb] at pc
         have HN:=hid (fun (u : Int) => VY.out.put (i:=iy) (u:=.int .u8 u) hcur (.inr (.inl ⟨rfl,_,rfl⟩)) hc1 hc2)
         clear VY hcur hc1 hc2 hbb HCC HCD HCA CS2 BW HLV0 HA HK SCA CT CT2 hwn hx hm
         go_wp2_with fail
         exact ⟨⟨iy + 1,by omega,by go_num,hid (HN.out _)⟩,by simp [intOf]; omega⟩
        ·have he : iy = m:=by omega
         subst he
         clear hliy hiy
         go_wp2_with fail
         exact ⟨⟨ip + 1,by omega,by go_num,VY⟩,by simp [intOf]; omega⟩
      ·have he : ip = t.pn:=by omega
       clear hlip hip
       subst he
       go_wp2_with fail
       go_loopw [14] (fun i wr => ∃ k : Nat,k ≤ t.gn ∧ i = .int .i64 k ∧ Hid (LV W2 base top t wr)) (fun i _ => t.gn - (intOf i).toNat)
       case atStart => exact ⟨0,by omega,rfl,VP⟩
       case round =>
        obtain ⟨ig,hig,rfl,VG⟩:=hrel
        clear VP
        obtain ⟨c0,c1,c2,c5⟩:=HCC.out _ VG.out
        clear c0 c2 c5
        by_cases hlig : ig < t.gn
        ·have hl' : (ig : Int) < (t.gn : Int):=by omega
         obtain ⟨bb,cur,z,hbb,hc1,hc2,hcur,hcz,hcf⟩:=VG.out.c.g.at_ hlig
         rw [hbb] at c1
         have HN:=hid (fun (u : Int) => VG.out.put (i:=ig) (u:=.int .u64 u) hcur (.inl ⟨rfl,_,rfl⟩) hc1 hc2)
         clear VG hcur hc1 hc2 hbb HCC HCD HCA CS2 BW HLV0 HA HK SCA CT CT2
         go_wp2_with fail
         exact ⟨⟨ig + 1,by omega,by go_num,hid (HN.out _)⟩,by simp [intOf]; omega⟩
        ·have he : ig = t.gn:=by omega
         subst he
         clear hlig hig
         go_wp2_with fail
         go_loopw [15] (fun i wr => ∃ k : Nat,k ≤ t.rn ∧ i = .int .i64 k ∧ Hid (LV W2 base top t wr)) (fun i _ => t.rn - (intOf i).toNat)
         case atStart => exact ⟨0,by omega,rfl,VG⟩
         case round =>
          obtain ⟨ir,hir,rfl,VR⟩:=hrel
          clear VG
          obtain ⟨c0,c1,c2,c5⟩:=HCC.out _ VR.out
          clear c0 c1 c2
          by_cases hlir : ir < t.rn
          ·have hl' : (ir : Int) < (t.rn : Int):=by omega
           obtain ⟨bb,cur,z,hbb,hc1,hc2,hcur,hcz,hcf⟩:=VR.out.c.r.at_ hlir
           rw [hbb] at c5
           have HN:=hid (fun (u : Int) => VR.out.put (i:=ir) (u:=.int .u64 u) hcur (.inl ⟨rfl,_,rfl⟩) hc1 hc2)
           clear VR hcur hc1 hc2 hbb HCC HCD HCA CS2 BW HLV0 HA HK SCA CT CT2
           go_wp2_with fail
           exact ⟨⟨ir + 1,by omega,by go_num,hid (HN.out _)⟩,by simp [intOf]; omega⟩
          ·have he : ir = t.rn:=by omega
           subst he
           clear hlir hir
           obtain ⟨da0,da1,da2,da3,da4,da5,da6,da7⟩:=HCD.out _ VR.out
           obtain ⟨ea0,ea1,ea2,ea3,ea4,ea5,ea6,ea7,eb0,eb1,eb2,eb3,eb4,eb5,eb6,eb7⟩:=HCA.out _ VR.out
           have H7:=hid (eqS7 t2 a wr (CS2.out _ VR.out) (HA.out.later (BW.out _ VR.out)) CT2.out.sb (SCA.out.sb HY.out))
           rw [CT2.out.eq] at H7
           have HKw:=hid (HK.out.later (BW.out _ VR.out) HK.out.pos)
           have BWr:=hid (BW.out _ VR.out)
           clear HCC HCD HCA CS2 BW HLV0 HA HK SCA CT CT2 HY VR
           go_wp2_with fail
           refine H7.out.mono ?_
           rintro e wf ⟨rfl,hbf⟩
           have BWf:=hid (BWr.out.trans (hbf.mono BWr.out.size))
           have H5:=hid (wks5 wf (HKw.out.later hbf HKw.out.pos))
           clear H7 hbf HKw da0 da1 da2 da3 da4 da5 da6 da7 ea0 ea1 ea2 ea3 ea4 ea5 ea6 ea7 eb0 eb1 eb2 eb3 eb4 eb5 eb6 eb7
           go_wp2_with fail
           refine H5.out.mono ?_
           rintro e wg ⟨rfl,hbe⟩
           have HE:=hid (bel3 HB0.out BWf.out hbe)
           clear hbe
           go_wp2_with fail
           go_ret
           exact ⟨rfl,HE.out⟩
end Go.Proofs.YtmgjhfookhaajaaGreatDoor

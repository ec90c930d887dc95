/-
  Texts Vdd.
-/
import Derived.Deep.CutRange
import Derived.Test.YtepcmfegggdjfaaGreatDoorQ00
import Derived.Test.YtepcmfegggdjfaaGreatDoorQ38
set_option linter.unusedVariables false
set_option maxRecDepth 100000
set_option maxHeartbeats 16000000
namespace Go.Proofs.YtepcmfegggdjfaaGreatDoor
open Go.RowKit
section
variable {v : Ev} {w1 w : World} {s : Cs}
abbrev ck5 (MB FB OW : Nat) (m : MM) (P R lo : ByteArray) (W : World) : Prop :=
 W.cell? ⟨MB,0,none⟩ = some (.slice m.ta m.tn m.tc) ∧ W.cell? ⟨MB,1,none⟩ = some (.slice m.ha m.hn m.hc) ∧ W.cell? ⟨MB,2,none⟩ = some (.slice m.ga m.gn m.gc) ∧ W.cell? ⟨MB,3,none⟩ = some (.int .i64 m.fi) ∧ W.cell? ⟨MB,4,none⟩ = some (.int .i64 m.mo) ∧ W.cell? ⟨MB,5,none⟩ = some (.slice m.fa m.fn m.fc) ∧ W.cell? ⟨MB,6,none⟩ = some (.slice m.da m.dn m.dc) ∧ W.cell? ⟨MB,7,none⟩ = some (.slice m.ea m.en m.ec) ∧
  W.cell? ⟨FB,1,none⟩ = some (.string lo) ∧ W.cell? ⟨OW,0,none⟩ = some (.string P) ∧ W.cell? ⟨OW,1,none⟩ = some (.string R)
theorem ck5.later {MB FB OW : Nat} {m : MM} {P R lo : ByteArray} {W W' : World} (h : ck5 MB FB OW m P R lo W) (hb : Below W.heap.size W W') : ck5 MB FB OW m P R lo W':=by
 obtain ⟨h0,h1,h2,h3,h4,h5,h6,h7,h8,h9,h10⟩:=h
 exact ⟨later_cell hb h0,later_cell hb h1,later_cell hb h2,later_cell hb h3,later_cell hb h4,later_cell hb h5,later_cell hb h6,later_cell hb h7,later_cell hb h8,later_cell hb h9,later_cell hb h10⟩
theorem ck5.kept {MB FB OW g : Nat} {m : MM} {P R lo : ByteArray} {W W' : World} (h : ck5 MB FB OW m P R lo W) (hb : Kept (fun k => k = g) W W') (hn : MB ≠ g ∧ FB ≠ g ∧ OW ≠ g) : ck5 MB FB OW m P R lo W':=by
 obtain ⟨h0,h1,h2,h3,h4,h5,h6,h7,h8,h9,h10⟩:=h
 exact ⟨hb.cell h0 hn.1,hb.cell h1 hn.1,hb.cell h2 hn.1,hb.cell h3 hn.1,hb.cell h4 hn.1,hb.cell h5 hn.1,hb.cell h6 hn.1,hb.cell h7 hn.1,hb.cell h8 hn.2.1,hb.cell h9 hn.2.2,hb.cell h10 hn.2.2⟩
theorem blk_ne {w : World} {a b : Nat} {x y : Array Value} {t u : TypeId} (h1 : w.heap[a]? = some (.cells x t)) (h2 : w.heap[b]? = some (.cells y u)) (h : t ≠ u) : a ≠ b:=by
 rintro rfl; rw [h1] at h2; simp at h2; exact h h2.2
theorem seg_later {W W' : World} {b n c : Nat} {l : List Int} (h : Seg W (some ⟨b,0,none⟩) n c l) (hb : Below W.heap.size W W') : Seg W' (some ⟨b,0,none⟩) n c l:=by
 obtain ⟨h1,h2,h3,h4,h5⟩:=h
 refine ⟨h1,h2,h3,h4,?_⟩
 rcases h5 with h5 | ⟨b',off,e,hc⟩
 ·exact .inl h5
 ·cases e
  exact .inr ⟨_,_,rfl,fun j hj => later_cell hb (hc j hj)⟩
theorem seg_kept {W W' : World} {b n c g : Nat} {l : List Int} (h : Seg W (some ⟨b,0,none⟩) n c l) (hb : Kept (fun k => k = g) W W') (hn : n = 0 ∨ b ≠ g) : Seg W' (some ⟨b,0,none⟩) n c l:=by
 obtain ⟨h1,h2,h3,h4,h5⟩:=h
 refine ⟨h1,h2,h3,h4,?_⟩
 rcases h5 with h5 | ⟨b',off,e,hc⟩
 ·exact .inl h5
 ·cases e
  rcases hn with hn | hn
  ·exact .inl hn
  ·exact .inr ⟨_,_,rfl,fun j hj => hb.cell (hc j hj) hn⟩
theorem seg_ne {W : World} {b n c g : Nat} {l : List Int} (h : Seg W (some ⟨b,0,none⟩) n c l) (h2 : W.heap[g]? = some (.cells #[.pointer none] 113)) (hn : n ≤ 1000000) : n = 0 ∨ b ≠ g:=by
 obtain ⟨h1,h2',h3,h4,h5⟩:=h
 rcases h5 with h5 | ⟨b',off,e,hc⟩
 ·exact .inl h5
 ·cases e
  by_cases h0 : n = 0
  ·exact .inl h0
  ·right
   rintro rfl
   have:=hc 0 (by omega)
   rw [cell_at h2] at this
   simp at this
theorem ready_at {P : Program} {ops : Array Oper} {Q : Exit → Act → World → Prop} {md : Region.Mode} {S : World → Prop} {i : Nat} {o : Oper} {fuel : Nat} {listed : Array Bool} {a : Act} {w : World} {rs : List Nat} (ho : ops[i]? = some o) (hw : Region.wanted o (yielded ops a.tmps) = true)
  (h : ∀ K : Act → World → Prop,Shut (∀ a w,S w → (S w → wpAnyH P md ops Q S fuel (listed.setIfInBounds i true) a w) → K a w) → Oper.wp P o a w K Q)
  (hs : AllReadyH P md ops Q S fuel listed a w rs) : AllReadyH P md ops Q S fuel listed a w (i :: rs) :=
 AllReadyH.cons ho (fun K hK => by rw [if_pos hw]; exact h K hK) hs
abbrev ck6 (CB FB C : Nat) (cv : Value) (W : World) : Prop:=W.cell? ⟨CB,0,none⟩ = some (.pointer (some ⟨C,0,none⟩)) ∧ W.cell? ⟨FB,2,none⟩ = some cv
theorem ck6.later {CB FB C : Nat} {cv : Value} {W W' : World} (h : ck6 CB FB C cv W) (hb : Below W.heap.size W W') : ck6 CB FB C cv W':=⟨later_cell hb h.1,later_cell hb h.2⟩
theorem ck6.kept {CB FB C g : Nat} {cv : Value} {W W' : World} (h : ck6 CB FB C cv W) (hb : Kept (fun k => k = g) W W') (hn : CB ≠ g ∧ FB ≠ g) : ck6 CB FB C cv W':=⟨hb.cell h.1 hn.1,hb.cell h.2 hn.2⟩
theorem set5C (W : World) (C : Nat) (t0 t1 t2 t3 t4 : Value) : Kept (fun k => k = C) W (((((W.setCell ⟨C,9,none⟩ t0).setCell ⟨C,10,none⟩ t1).setCell ⟨C,11,none⟩ t2).setCell ⟨C,12,none⟩ t3).setCell ⟨C,13,none⟩ t4) :=
 ((((kept_set W C 9 t0).trans (kept_set _ C 10 t1)).trans (kept_set _ C 11 t2)).trans (kept_set _ C 12 t3)).trans (kept_set _ C 13 t4)
theorem Tryz.infStr : (Tryz.prog.info? 9).map (fun i => (i.zero,i.size,i.bytes)) = some (some (.string ⟨#[]⟩),1,16):=by kernel_rfl
abbrev operQ0 : Oper:={ dst:=some 45,op:=.box 120 (.tmp 44),type:=113,pos:= "checker.go:27",after:=#[⟨10,.data⟩],guard:=none }
abbrev operQ1 : Oper:={ dst:=none,op:=.store 113 (.tmp 11) (.tmp 45),type:=0,pos:= "checker.go:27",after:=#[⟨12,.data⟩,⟨11,.data⟩,⟨8,.chain⟩,⟨0,.phase⟩,⟨1,.phase⟩,⟨2,.phase⟩,⟨3,.phase⟩,⟨4,.phase⟩,⟨5,.phase⟩,⟨6,.phase⟩,⟨7,.phase⟩,⟨8,.phase⟩,⟨9,.phase⟩,⟨10,.phase⟩,⟨11,.phase⟩,⟨12,.phase⟩],guard:=none }
abbrev operQ2 : Oper:={ dst:=some 44,op:=.build 120 #[(0,.tmp 34),(1,.tmp 40),(3,.tmp 43)],type:=120,pos:= "checker.go:27",after:=#[⟨0,.data⟩,⟨6,.data⟩,⟨9,.data⟩],guard:=none }
abbrev operQ3 : Oper:={ dst:=some 11,op:=.alloc 113,type:=0,pos:= "checker.go:27",after:=#[],guard:=none }
abbrev operQ4 : Oper:={ dst:=some 43,op:=.buildSlice 118 1 #[(0,.tmp 42)],type:=118,pos:= "checker.go:27",after:=#[⟨8,.data⟩],guard:=none }
abbrev operQ5 : Oper:={ dst:=some 40,op:=.convert 9 49 (.tmp 39),type:=49,pos:= "checker.go:27",after:=#[⟨5,.data⟩],guard:=none }
abbrev operQ6 : Oper:={ dst:=some 42,op:=.call { callee:=.value (.func 60),args:=#[.tmp 41],argTypes:=#[55] },type:=116,pos:= "checker.go:27",after:=#[⟨7,.data⟩],guard:=none }
abbrev cObjQ (m : MM) (L O n c : Nat) : Obj:=.cells #[.slice m.ta m.tn m.tc,.slice m.ha m.hn m.hc,.slice m.ga m.gn m.gc,.int .i64 m.fi,.int .i64 m.mo,.slice m.fa m.fn m.fc,.slice m.da m.dn m.dc,.slice m.ea m.en m.ec,.slice (some ⟨L,0,none⟩) n c,.slice none 0 0,.slice none 0 0,.slice none 0 0,.slice none 0 0,.int .i64 0,.slice (some ⟨O,0,none⟩) 1 1,.string ⟨#[]⟩,.int .i64 0,.bool false] 120
abbrev oObjQ (R : ByteArray) : Obj:=.cells #[.string ⟨#[]⟩,.string R,.string ⟨#[]⟩,.int .u8 0,.int .i64 0] 116
theorem check30_in (m : MM) (t : Nat) (P R lo : ByteArray) (ca : Option Addr) (cn cc : Nat) (xs : List Inx) (hn : cn ≤ 2048) (hcap : cn ≤ cc) (hc : CodS w ca cn xs) (hE : res (opF xs) cn 0 = (0,0)) (hG : Good (opF xs) cn)
  (hW : EvW w m) (hP : m.types[t]? = some (P,R)) (hP64 : P.size + lo.size ≤ 64) (hll : ∀ x ∈ strBytes (P ++ lo),x = 119 ∨ x = 108) (hbr : ∀ j,j < cn → (xs.getD j dx).ln ≤ 100000 ∧ ((xs.getD j dx).c = 9 → 0 < (xs.getD j dx).ln)) :
  Calls Tryz.prog 35 #[.agg (mV m),.agg #[.int .i64 t,.string lo,.slice ca cn cc]] w (Out30 m (strBytes (P ++ lo)) xs R cn w):=by
 have pt:=hW.pt
 have htn:=hW.t64
 have hP8 : P.size ≤ 8:=(hW.tL _ (List.mem_of_getElem? hP)).1
 have hR8 : R.size ≤ 8:=(hW.tL _ (List.mem_of_getElem? hP)).2
 have hlo : lo.size ≤ 64:=by omega
 have HCD:=hid hc
 have HEW:=hid hW
 have HLL:=hid hll
 have HBR:=hid hbr
 have HGD:=hid hG
 clear hW hll hbr hG
 obtain ⟨B0,hz,b0,b1,b2,b3,b4⟩:=W30_facts w m t lo (.slice ca cn cc)
 have HM:=hid (map_in ca cn cc xs _ (by omega) hcap (hc.later B0 (Nat.le_refl _)))
 rw [hE] at HM
 have HW : ((((w.alloc (.cells #[.slice m.ta m.tn m.tc,.slice m.ha m.hn m.hc,.slice m.ga m.gn m.gc,.int .i64 m.fi,.int .i64 m.mo,.slice m.fa m.fn m.fc,.slice m.da m.dn m.dc,.slice m.ea m.en m.ec] 29)).alloc (.cells #[.int .i64 t,.string lo,.slice ca cn cc] 61)).alloc (.cells #[.slice none 0 0,.slice none 0 0,.slice none 0 0,.slice none 0 0,.int .i64 0] 74)).alloc (.cells #[.int .i64 0] 38)).alloc (.cells #[.int .i64 0] 3) = W30 w m t lo (.slice ca cn cc):=rfl
 have f2 : (W30 w m t lo (.slice ca cn cc)).cell? ⟨w.heap.size + 1,2,none⟩ = some (.slice ca cn cc):=cell_at b1
 have ht : t < m.tn:=by rw [← pt.1]; exact lt_of_get hP
 obtain ⟨tb,toff,hta,htc⟩ : ∃ b off,m.ta = some ⟨b,off,none⟩ ∧ ∀ (j : Nat) x,m.types[j]? = some x → w.cell? ⟨b,off + j * 2,none⟩ = some (.string x.1) ∧ w.cell? ⟨b,off + j * 2 + 1,none⟩ = some (.string x.2):=by
  rcases pt.2 with h0 | hx
  ·omega
  ·exact hx
 obtain ⟨y0,y1⟩:=htc t _ hP
 simp only at y0 y1
 have HTA:=hid hta
 have HTL:=hid (show tb < w.heap.size from block_lt_of_cell y0)
 clear hc htc hta
 unfold mV
 go_enter_defers Tryz.func35,Tryz.ntmps35
 go_wp2_with fail
 generalize hW0 : W30 w m t lo (.slice ca cn cc) = W0 at *
 refine HM.out.mono ?_
 rintro e w2 ⟨a1,a2,a3,n2,rfl,hmo,hb⟩
 have HB:=hid (B0.trans (hb.mono B0.size))
 have d0:=blk_later hb b0
 have d1:=blk_later hb b1
 have d2:=blk_later hb b2
 have d3:=blk_later hb b3
 have d4:=blk_later hb b4
 have e3 : w2.cell? ⟨w.heap.size + 1 + 1 + 1,0,none⟩ = some (.int .i64 0):=cell_at d3
 have g3 : w2.frozen? ⟨w.heap.size + 1 + 1 + 1,0,none⟩ = false:=free_at d3
 have e4 : w2.cell? ⟨w.heap.size + 1 + 1 + 1 + 1,0,none⟩ = some (.int .i64 0):=cell_at d4
 have g4 : w2.frozen? ⟨w.heap.size + 1 + 1 + 1 + 1,0,none⟩ = false:=free_at d4
 have x0:=later_cell HB.out y0
 have x1:=later_cell HB.out y1
 have HMO:=hid hmo
 have hs2 : w.heap.size + 5 ≤ w2.heap.size:=by have:=hb.size; omega
 have m0 : w2.cell? ⟨w.heap.size,0,none⟩ = some (.slice (some ⟨tb,toff,none⟩) m.tn m.tc):=by rw [← HTA.out]; exact cell_at d0
 have m1 : w2.cell? ⟨w.heap.size + 1,0,none⟩ = some (.int .i64 t):=cell_at d1
 have m2 : w2.cell? ⟨w.heap.size + 1,1,none⟩ = some (.string lo):=cell_at d1
 have m3 : w2.cell? ⟨w.heap.size + 1,2,none⟩ = some (.slice ca cn cc):=cell_at d1
 have ht0 : (0 : Int) ≤ (t : Int):=by omega
 have ht1 : (t : Int) < (m.tn : Int):=by omega
 clear b0 b1 b2 b3 b4 B0 HM HW f2 hb hmo y0 y1
 have htl : tb < w.heap.size:=HTL.out
 have BWA : Below w.heap.size w ((w2.setCell ⟨w.heap.size + 1 + 1 + 1,0,none⟩ (.int .i64 0)).setCell ⟨w.heap.size + 1 + 1 + 1 + 1,0,none⟩ (.int .i64 0)):=below_putw (below_putw HB.out (by omega)) (by omega)
 have pA : ∀ {b o : Nat} {u : Value},w2.cell? ⟨b,o,none⟩ = some u → b ≠ w.heap.size + 1 + 1 + 1 → b ≠ w.heap.size + 1 + 1 + 1 + 1 → ((w2.setCell ⟨w.heap.size + 1 + 1 + 1,0,none⟩ (.int .i64 0)).setCell ⟨w.heap.size + 1 + 1 + 1 + 1,0,none⟩ (.int .i64 0)).cell? ⟨b,o,none⟩ = some u:=fun h n1 n2 => put_cell (put_cell h n1) n2
 have X0:=pA x0 (by omega) (by omega)
 have X1:=pA x1 (by omega) (by omega)
 have M0:=pA m0 (by omega) (by omega)
 have M1:=pA m1 (by omega) (by omega)
 have M2:=pA m2 (by omega) (by omega)
 have M3:=pA m3 (by omega) (by omega)
 have k3:=setBlk (i:=0) (u:=.int .i64 0) d3
 have kk1:=kept_set w2 (w.heap.size + 1 + 1 + 1) 0 (.int .i64 0)
 have kk2:=kept_set (w2.setCell ⟨w.heap.size + 1 + 1 + 1,0,none⟩ (.int .i64 0)) (w.heap.size + 1 + 1 + 1 + 1) 0 (.int .i64 0)
 have D4:=setBlk (i:=0) (u:=.int .i64 0) ((kk1.block _ (blk_lt d4) (by omega)).trans d4)
 have D3:=(kk2.block _ (blk_lt k3) (by omega)).trans k3
 have D2:=(kk2.block _ (blk_lt ((kk1.block _ (blk_lt d2) (by omega)).trans d2)) (by omega)).trans ((kk1.block _ (blk_lt d2) (by omega)).trans d2)
 have D0:=(kk2.block _ (blk_lt ((kk1.block _ (blk_lt d0) (by omega)).trans d0)) (by omega)).trans ((kk1.block _ (blk_lt d0) (by omega)).trans d0)
 have KA : Kept (fun k => k = w.heap.size + 1 + 1 + 1 ∨ k = w.heap.size + 1 + 1 + 1 + 1) w2 ((w2.setCell ⟨w.heap.size + 1 + 1 + 1,0,none⟩ (.int .i64 0)).setCell ⟨w.heap.size + 1 + 1 + 1 + 1,0,none⟩ (.int .i64 0)):=(kk1.mono (fun k h => .inl h)).trans (kk2.mono (fun k h => .inr h))
 have HD:=hid (And.intro D0 (And.intro D2 (And.intro D3 D4)))
 have HKA:=hid KA
 have HBWA:=hid BWA
 clear d0 d1 d2 d3 d4 k3 kk1 kk2 D0 D2 D3 D4 KA BWA pA x0 x1 m0 m1 m2 m3
 go_wp2_with fail
 obtain ⟨D0,D2,D3,D4⟩:=HD.out
 have BO:=below_new ((w2.setCell ⟨w.heap.size + 1 + 1 + 1,0,none⟩ (.int .i64 0)).setCell ⟨w.heap.size + 1 + 1 + 1 + 1,0,none⟩ (.int .i64 0)) (.cells #[.string P,.string R] 55)
 have HKB:=hid (HKA.out.trans (kept_of BO))
 have E0:=blk_later BO D0
 have E2:=blk_later BO D2
 have E3:=blk_later BO D3
 have E4:=blk_later BO D4
 have F1:=later_cell BO M2
 have F2:=later_cell BO M3
 have o0 : (((w2.setCell ⟨w.heap.size + 1 + 1 + 1,0,none⟩ (.int .i64 0)).setCell ⟨w.heap.size + 1 + 1 + 1 + 1,0,none⟩ (.int .i64 0)).alloc (.cells #[.string P,.string R] 55)).cell? ⟨w2.heap.size,0,none⟩ = some (.string P):=by simp [go_sem]
 have o1 : (((w2.setCell ⟨w.heap.size + 1 + 1 + 1,0,none⟩ (.int .i64 0)).setCell ⟨w.heap.size + 1 + 1 + 1 + 1,0,none⟩ (.int .i64 0)).alloc (.cells #[.string P,.string R] 55)).cell? ⟨w2.heap.size,1,none⟩ = some (.string R):=by simp [go_sem]
 have HBB0:=HBWA.out.trans (BO.mono HBWA.out.size)
 have hzB : (((w2.setCell ⟨w.heap.size + 1 + 1 + 1,0,none⟩ (.int .i64 0)).setCell ⟨w.heap.size + 1 + 1 + 1 + 1,0,none⟩ (.int .i64 0)).alloc (.cells #[.string P,.string R] 55)).heap.size = w2.heap.size + 1:=by simp [World.setCell]
 have hH0 : ck5 w.heap.size (w.heap.size + 1) w2.heap.size m P R lo (((w2.setCell ⟨w.heap.size + 1 + 1 + 1,0,none⟩ (.int .i64 0)).setCell ⟨w.heap.size + 1 + 1 + 1 + 1,0,none⟩ (.int .i64 0)).alloc (.cells #[.string P,.string R] 55)):=⟨cell_at E0,cell_at E0,cell_at E0,cell_at E0,cell_at E0,cell_at E0,cell_at E0,cell_at E0,F1,o0,o1⟩
 have HX:=hid (And.intro E2 (And.intro E3 (And.intro E4 (And.intro F2 HBB0))))
 have hPl : (P ++ lo).size ≤ 1000000:=by rw [ByteArray.size_append]; omega
 clear BO E0 E2 E3 E4 F1 F2 o0 o1 HBB0 D0 D2 D3 D4 HD X0 X1 M0 M1 M2 M3 HBWA
 generalize ((w2.setCell ⟨w.heap.size + 1 + 1 + 1,0,none⟩ (.int .i64 0)).setCell ⟨w.heap.size + 1 + 1 + 1 + 1,0,none⟩ (.int .i64 0)).alloc (.cells #[.string P,.string R] 55) = WB at *
 go_cut [11] from 34 to 45 (fun g wx => ∃ CB C L O0 lc,g = .pointer (some ⟨CB,0,none⟩) ∧ wx.heap[CB]? = some (.cells #[.pointer (some ⟨C,0,none⟩)] 113) ∧ wx.heap[C]? = some (cObjQ m L O0 (P.size + lo.size) lc) ∧ wx.heap[O0]? = some (oObjQ R) ∧ Seg wx (some ⟨L,0,none⟩) (P ++ lo).size lc (strBytes (P ++ lo)) ∧ WB.heap.size ≤ CB ∧ WB.heap.size ≤ C ∧ WB.heap.size ≤ L ∧ WB.heap.size ≤ O0 ∧ Below WB.heap.size WB wx)
 case first =>
  have hPl1:=hPl
  have hcat : ¬ 9223372036854775807 < P.size + lo.size:=by omega
  have HBB : Below WB.heap.size WB WB.drew:=(Below.refl _ _).drew
  have hH : ck5 w.heap.size (w.heap.size + 1) w2.heap.size m P R lo WB.drew:=hH0
  have HSB:=hid (show ∀ g,WB.heap.size ≤ g → w.heap.size ≠ g ∧ w.heap.size + 1 ≠ g ∧ w2.heap.size ≠ g from fun g hg => by omega)
  refine wp_region_noPanic ?_
  refine wp_region_held_drew (S:=ck5 w.heap.size (w.heap.size + 1) w2.heap.size m P R lo) (by kernel_rfl) hH (fun hHeld => ?_)
  generalize WB.drew = WD at *
  refine tkA (i:=0) (oi:={ dst:=some 34,op:=.load 29 (.tmp 2),type:=29,pos:= "checker.go:27",after:=#[],guard:=none }) (d:=some 34) (v:=?_) (by kernel_rfl) (by kernel_rfl) ?_ ?_
  rotate_left
  ·intro w h;(try dsimp only at h);go_simp;try with_reducible rfl
  try simp only [Act.put,sIB,sC0,sCs]
  refine tkA (i:=1) (oi:={ dst:=some 35,op:=.fieldAddr 55 (.tmp 10) 0,type:=0,pos:= "checker.go:27",after:=#[],guard:=none }) (d:=some 35) (v:=?_) (by kernel_rfl) (by kernel_rfl) ?_ ?_
  rotate_left
  ·intro w h;(try dsimp only at h);go_simp;try with_reducible rfl
  try simp only [Act.put,sIB,sC0,sCs]
  refine tkA (i:=2) (oi:={ dst:=some 36,op:=.load 9 (.tmp 35),type:=9,pos:= "checker.go:27",after:=#[⟨1,.data⟩],guard:=none }) (d:=some 36) (v:=?_) (by kernel_rfl) (by kernel_rfl) ?_ ?_
  rotate_left
  ·intro w h;(try dsimp only at h);go_simp;try with_reducible rfl
  try simp only [Act.put,sIB,sC0,sCs]
  refine tkA (i:=3) (oi:={ dst:=some 37,op:=.fieldAddr 61 (.tmp 3) 1,type:=0,pos:= "checker.go:27",after:=#[],guard:=none }) (d:=some 37) (v:=?_) (by kernel_rfl) (by kernel_rfl) ?_ ?_
  rotate_left
  ·intro w h;(try dsimp only at h);go_simp;try with_reducible rfl
  try simp only [Act.put,sIB,sC0,sCs]
  refine tkA (i:=4) (oi:={ dst:=some 38,op:=.load 9 (.tmp 37),type:=9,pos:= "checker.go:27",after:=#[⟨3,.data⟩],guard:=none }) (d:=some 38) (v:=?_) (by kernel_rfl) (by kernel_rfl) ?_ ?_
  rotate_left
  ·intro w h;(try dsimp only at h);go_simp;try with_reducible rfl
  try simp only [Act.put,sIB,sC0,sCs]
  refine tkA (i:=5) (oi:={ dst:=some 39,op:=.binOp Go.BinOp.add 9 (.tmp 36) (.tmp 38) 9,type:=9,pos:= "checker.go:27",after:=#[⟨2,.data⟩,⟨4,.data⟩],guard:=none }) (d:=some 39) (v:=?_) (by kernel_rfl) (by kernel_rfl) ?_ ?_
  rotate_left
  ·intro w h;(try dsimp only at h);go_simp;try with_reducible rfl
  try simp only [Act.put,sIB,sC0,sCs]
  refine tkA (i:=7) (oi:={ dst:=some 41,op:=.load 55 (.tmp 10),type:=55,pos:= "checker.go:27",after:=#[],guard:=none }) (d:=some 41) (v:=?_) (by kernel_rfl) (by kernel_rfl) ?_ ?_
  rotate_left
  ·intro w h;(try dsimp only at h);go_simp;try with_reducible rfl
  try simp only [Act.put,sIB,sC0,sCs]
  refine wpAnyH_ready (rs:=[6,8,12]) (by kernel_rfl) (by simp) ?_
  refine ready_at (o:=operQ5) (by kernel_rfl) (by kernel_rfl) (fun K hK => ?_) ?_
  ·obtain ⟨lc,Wg,hcv,hseg,BN,hzW⟩:=conv_str WD (P ++ lo) hPl
   clear hzW
   go_simp
   clear hcv
   have hL:=hseg
   have hLL : WB.heap.size ≤ WD.heap.size:=HBB.size
   have hH:=ck5.later hH BN
   have HBB:=HBB.trans (BN.mono HBB.size)
   refine hK.out _ _ hH (fun _ => ?_)
   clear hK K BN
   refine wpAnyH_ready (rs:=[8,12]) (by kernel_rfl) (by simp) ?_
   refine ready_at (o:=operQ6) (by kernel_rfl) (by kernel_rfl) (fun K hK => ?_) ?_
   ·go_simp
    refine (body70 P R).mono ?_
    rintro e Wgi ⟨rfl,BN⟩
    have hL:=seg_later hL BN
    have hH:=ck5.later hH BN
    have HBB:=HBB.trans (BN.mono HBB.size)
    refine hK.out _ _ hH (fun _ => ?_)
    clear hK K BN
    refine wpAnyH_ready (rs:=[9,12]) (by kernel_rfl) (by simp) ?_
    refine ready_at (o:=operQ4) (by kernel_rfl) (by kernel_rfl) (fun K hK => ?_) ?_
    ·have BN:=below_new Wgi (oObjQ R)
     have hO:=heap_alloc_new Wgi (oObjQ R)
     have hOO : WB.heap.size ≤ Wgi.heap.size:=HBB.size
     go_simp
     have hL:=seg_later hL BN
     have hH:=ck5.later hH BN
     have HBB:=HBB.trans (BN.mono HBB.size)
     refine hK.out _ _ hH (fun _ => ?_)
     clear hK K BN
     generalize Wgi.alloc (oObjQ R) = Wgij at *
     refine tkA (i:=10) (oi:=operQ2) (d:=some 44) (v:=?_) (by kernel_rfl) (by kernel_rfl) ?_ ?_
     rotate_left
     ·intro w h;(try dsimp only at h);go_simp;try with_reducible rfl
     try simp only [Act.put,sIB,sC0,sCs]
     refine wpAnyH_ready (rs:=[11,12]) (by kernel_rfl) (by simp) ?_
     refine ready_at (o:=operQ0) (by kernel_rfl) (by kernel_rfl) (fun K hK => ?_) ?_
     ·have BN:=below_new Wgij (cObjQ m WD.heap.size Wgi.heap.size (P.size + lo.size) lc)
      have hC:=heap_alloc_new Wgij (cObjQ m WD.heap.size Wgi.heap.size (P.size + lo.size) lc)
      have hCC : WB.heap.size ≤ Wgij.heap.size:=HBB.size
      go_simp
      have hO:=blk_later BN hO
      have hL:=seg_later hL BN
      have hH:=ck5.later hH BN
      have HBB:=HBB.trans (BN.mono HBB.size)
      refine hK.out _ _ hH (fun _ => ?_)
      clear hK K BN
      generalize Wgij.alloc (cObjQ m WD.heap.size Wgi.heap.size (P.size + lo.size) lc) = Wgijl at *
      refine wpAnyH_ready (rs:=[12]) (by kernel_rfl) (by simp) ?_
      refine ready_at (o:=operQ3) (by kernel_rfl) (by kernel_rfl) (fun K hK => ?_) ?_
      ·have BN:=below_new Wgijl (.cells #[.pointer none] 113)
       have hCB:=heap_alloc_new Wgijl (.cells #[.pointer none] 113)
       have hBB : WB.heap.size ≤ Wgijl.heap.size:=HBB.size
       go_simp
       have hO:=blk_later BN hO
       have hC:=blk_later BN hC
       have hL:=seg_later hL BN
       have hH:=ck5.later hH BN
       have HBB:=HBB.trans (BN.mono HBB.size)
       refine hK.out _ _ hH (fun _ => ?_)
       clear hK K BN
       generalize Wgijl.alloc (.cells #[.pointer none] 113) = Wgijlm at *
       refine wpAnyH_ready (rs:=[13]) (by kernel_rfl) (by simp) ?_
       refine ready_at (o:=operQ1) (by kernel_rfl) (by kernel_rfl) (fun K hK => ?_) ?_
       ·have cb0 : Wgijlm.cell? ⟨Wgijl.heap.size,0,none⟩ = some (.pointer none):=cell_at hCB
        have cbf : Wgijlm.frozen? ⟨Wgijl.heap.size,0,none⟩ = false:=free_at hCB
        have KN:=kept_set Wgijlm Wgijl.heap.size 0 (.pointer (some ⟨Wgij.heap.size,0,none⟩))
        have nO:=blk_ne hO hCB (by decide)
        have nC:=blk_ne hC hCB (by decide)
        have nL:=seg_ne hL hCB hPl1
        have nM:=HSB.out _ hBB
        go_simp
        have hCB:=setBlk (i:=0) (u:=.pointer (some ⟨Wgij.heap.size,0,none⟩)) hCB
        have hO:=(KN.block _ (blk_lt hO) nO).trans hO
        have hC:=(KN.block _ (blk_lt hC) nC).trans hC
        have hL:=seg_kept hL KN nL
        have hH:=ck5.kept hH KN nM
        have HBB:=below_put (u:=.pointer (some ⟨Wgij.heap.size,0,none⟩)) (i:=0) HBB hBB HBB.size
        refine hK.out _ _ hH (fun _ => ?_)
        clear hK K
        refine wpAnyH_done (by kernel_rfl) ?_ _
        refine NoPanic.normal ?_
        go_wp2_with fail
        go_meet
        exact ⟨_,_,_,_,_,rfl,hCB,hC,hO,hL,by omega,by omega,by omega,by omega,HBB⟩
       exact AllReadyH.nil
      exact AllReadyH.nil
     refine ready_at (o:=operQ3) (by kernel_rfl) (by kernel_rfl) (fun K hK => ?_) ?_
     ·have BN:=below_new Wgij (.cells #[.pointer none] 113)
      have hCB:=heap_alloc_new Wgij (.cells #[.pointer none] 113)
      have hBB : WB.heap.size ≤ Wgij.heap.size:=HBB.size
      go_simp
      have hO:=blk_later BN hO
      have hL:=seg_later hL BN
      have hH:=ck5.later hH BN
      have HBB:=HBB.trans (BN.mono HBB.size)
      refine hK.out _ _ hH (fun _ => ?_)
      clear hK K BN
      generalize Wgij.alloc (.cells #[.pointer none] 113) = Wgijm at *
      refine wpAnyH_ready (rs:=[11]) (by kernel_rfl) (by simp) ?_
      refine ready_at (o:=operQ0) (by kernel_rfl) (by kernel_rfl) (fun K hK => ?_) ?_
      ·have BN:=below_new Wgijm (cObjQ m WD.heap.size Wgi.heap.size (P.size + lo.size) lc)
       have hC:=heap_alloc_new Wgijm (cObjQ m WD.heap.size Wgi.heap.size (P.size + lo.size) lc)
       have hCC : WB.heap.size ≤ Wgijm.heap.size:=HBB.size
       go_simp
       have hO:=blk_later BN hO
       have hCB:=blk_later BN hCB
       have hL:=seg_later hL BN
       have hH:=ck5.later hH BN
       have HBB:=HBB.trans (BN.mono HBB.size)
       refine hK.out _ _ hH (fun _ => ?_)
       clear hK K BN
       generalize Wgijm.alloc (cObjQ m WD.heap.size Wgi.heap.size (P.size + lo.size) lc) = Wgijml at *
       refine wpAnyH_ready (rs:=[13]) (by kernel_rfl) (by simp) ?_
       refine ready_at (o:=operQ1) (by kernel_rfl) (by kernel_rfl) (fun K hK => ?_) ?_
       ·have cb0 : Wgijml.cell? ⟨Wgij.heap.size,0,none⟩ = some (.pointer none):=cell_at hCB
        have cbf : Wgijml.frozen? ⟨Wgij.heap.size,0,none⟩ = false:=free_at hCB
        have KN:=kept_set Wgijml Wgij.heap.size 0 (.pointer (some ⟨Wgijm.heap.size,0,none⟩))
        have nO:=blk_ne hO hCB (by decide)
        have nC:=blk_ne hC hCB (by decide)
        have nL:=seg_ne hL hCB hPl1
        have nM:=HSB.out _ hBB
        go_simp
        have hCB:=setBlk (i:=0) (u:=.pointer (some ⟨Wgijm.heap.size,0,none⟩)) hCB
        have hO:=(KN.block _ (blk_lt hO) nO).trans hO
        have hC:=(KN.block _ (blk_lt hC) nC).trans hC
        have hL:=seg_kept hL KN nL
        have hH:=ck5.kept hH KN nM
        have HBB:=below_put (u:=.pointer (some ⟨Wgijm.heap.size,0,none⟩)) (i:=0) HBB hBB HBB.size
        refine hK.out _ _ hH (fun _ => ?_)
        clear hK K
        refine wpAnyH_done (by kernel_rfl) ?_ _
        refine NoPanic.normal ?_
        go_wp2_with fail
        go_meet
        exact ⟨_,_,_,_,_,rfl,hCB,hC,hO,hL,by omega,by omega,by omega,by omega,HBB⟩
       exact AllReadyH.nil
      exact AllReadyH.nil
     exact AllReadyH.nil
    refine ready_at (o:=operQ3) (by kernel_rfl) (by kernel_rfl) (fun K hK => ?_) ?_
    ·have BN:=below_new Wgi (.cells #[.pointer none] 113)
     have hCB:=heap_alloc_new Wgi (.cells #[.pointer none] 113)
     have hBB : WB.heap.size ≤ Wgi.heap.size:=HBB.size
     go_simp
     have hL:=seg_later hL BN
     have hH:=ck5.later hH BN
     have HBB:=HBB.trans (BN.mono HBB.size)
     refine hK.out _ _ hH (fun _ => ?_)
     clear hK K BN
     generalize Wgi.alloc (.cells #[.pointer none] 113) = Wgim at *
     refine wpAnyH_ready (rs:=[9]) (by kernel_rfl) (by simp) ?_
     refine ready_at (o:=operQ4) (by kernel_rfl) (by kernel_rfl) (fun K hK => ?_) ?_
     ·have BN:=below_new Wgim (oObjQ R)
      have hO:=heap_alloc_new Wgim (oObjQ R)
      have hOO : WB.heap.size ≤ Wgim.heap.size:=HBB.size
      go_simp
      have hCB:=blk_later BN hCB
      have hL:=seg_later hL BN
      have hH:=ck5.later hH BN
      have HBB:=HBB.trans (BN.mono HBB.size)
      refine hK.out _ _ hH (fun _ => ?_)
      clear hK K BN
      generalize Wgim.alloc (oObjQ R) = Wgimj at *
      refine tkA (i:=10) (oi:=operQ2) (d:=some 44) (v:=?_) (by kernel_rfl) (by kernel_rfl) ?_ ?_
      rotate_left
      ·intro w h;(try dsimp only at h);go_simp;try with_reducible rfl
      try simp only [Act.put,sIB,sC0,sCs]
      refine wpAnyH_ready (rs:=[11]) (by kernel_rfl) (by simp) ?_
      refine ready_at (o:=operQ0) (by kernel_rfl) (by kernel_rfl) (fun K hK => ?_) ?_
      ·have BN:=below_new Wgimj (cObjQ m WD.heap.size Wgim.heap.size (P.size + lo.size) lc)
       have hC:=heap_alloc_new Wgimj (cObjQ m WD.heap.size Wgim.heap.size (P.size + lo.size) lc)
       have hCC : WB.heap.size ≤ Wgimj.heap.size:=HBB.size
       go_simp
       have hO:=blk_later BN hO
       have hCB:=blk_later BN hCB
       have hL:=seg_later hL BN
       have hH:=ck5.later hH BN
       have HBB:=HBB.trans (BN.mono HBB.size)
       refine hK.out _ _ hH (fun _ => ?_)
       clear hK K BN
       generalize Wgimj.alloc (cObjQ m WD.heap.size Wgim.heap.size (P.size + lo.size) lc) = Wgimjl at *
       refine wpAnyH_ready (rs:=[13]) (by kernel_rfl) (by simp) ?_
       refine ready_at (o:=operQ1) (by kernel_rfl) (by kernel_rfl) (fun K hK => ?_) ?_
       ·have cb0 : Wgimjl.cell? ⟨Wgi.heap.size,0,none⟩ = some (.pointer none):=cell_at hCB
        have cbf : Wgimjl.frozen? ⟨Wgi.heap.size,0,none⟩ = false:=free_at hCB
        have KN:=kept_set Wgimjl Wgi.heap.size 0 (.pointer (some ⟨Wgimj.heap.size,0,none⟩))
        have nO:=blk_ne hO hCB (by decide)
        have nC:=blk_ne hC hCB (by decide)
        have nL:=seg_ne hL hCB hPl1
        have nM:=HSB.out _ hBB
        go_simp
        have hCB:=setBlk (i:=0) (u:=.pointer (some ⟨Wgimj.heap.size,0,none⟩)) hCB
        have hO:=(KN.block _ (blk_lt hO) nO).trans hO
        have hC:=(KN.block _ (blk_lt hC) nC).trans hC
        have hL:=seg_kept hL KN nL
        have hH:=ck5.kept hH KN nM
        have HBB:=below_put (u:=.pointer (some ⟨Wgimj.heap.size,0,none⟩)) (i:=0) HBB hBB HBB.size
        refine hK.out _ _ hH (fun _ => ?_)
        clear hK K
        refine wpAnyH_done (by kernel_rfl) ?_ _
        refine NoPanic.normal ?_
        go_wp2_with fail
        go_meet
        exact ⟨_,_,_,_,_,rfl,hCB,hC,hO,hL,by omega,by omega,by omega,by omega,HBB⟩
       exact AllReadyH.nil
      exact AllReadyH.nil
     exact AllReadyH.nil
    exact AllReadyH.nil
   refine ready_at (o:=operQ3) (by kernel_rfl) (by kernel_rfl) (fun K hK => ?_) ?_
   ·have BN:=below_new Wg (.cells #[.pointer none] 113)
    have hCB:=heap_alloc_new Wg (.cells #[.pointer none] 113)
    have hBB : WB.heap.size ≤ Wg.heap.size:=HBB.size
    go_simp
    have hL:=seg_later hL BN
    have hH:=ck5.later hH BN
    have HBB:=HBB.trans (BN.mono HBB.size)
    refine hK.out _ _ hH (fun _ => ?_)
    clear hK K BN
    generalize Wg.alloc (.cells #[.pointer none] 113) = Wgm at *
    refine wpAnyH_ready (rs:=[8]) (by kernel_rfl) (by simp) ?_
    refine ready_at (o:=operQ6) (by kernel_rfl) (by kernel_rfl) (fun K hK => ?_) ?_
    ·go_simp
     refine (body70 P R).mono ?_
     rintro e Wgmi ⟨rfl,BN⟩
     have hCB:=blk_later BN hCB
     have hL:=seg_later hL BN
     have hH:=ck5.later hH BN
     have HBB:=HBB.trans (BN.mono HBB.size)
     refine hK.out _ _ hH (fun _ => ?_)
     clear hK K BN
     refine wpAnyH_ready (rs:=[9]) (by kernel_rfl) (by simp) ?_
     refine ready_at (o:=operQ4) (by kernel_rfl) (by kernel_rfl) (fun K hK => ?_) ?_
     ·have BN:=below_new Wgmi (oObjQ R)
      have hO:=heap_alloc_new Wgmi (oObjQ R)
      have hOO : WB.heap.size ≤ Wgmi.heap.size:=HBB.size
      go_simp
      have hCB:=blk_later BN hCB
      have hL:=seg_later hL BN
      have hH:=ck5.later hH BN
      have HBB:=HBB.trans (BN.mono HBB.size)
      refine hK.out _ _ hH (fun _ => ?_)
      clear hK K BN
      generalize Wgmi.alloc (oObjQ R) = Wgmij at *
      refine tkA (i:=10) (oi:=operQ2) (d:=some 44) (v:=?_) (by kernel_rfl) (by kernel_rfl) ?_ ?_
      rotate_left
      ·intro w h;(try dsimp only at h);go_simp;try with_reducible rfl
      try simp only [Act.put,sIB,sC0,sCs]
      refine wpAnyH_ready (rs:=[11]) (by kernel_rfl) (by simp) ?_
      refine ready_at (o:=operQ0) (by kernel_rfl) (by kernel_rfl) (fun K hK => ?_) ?_
      ·have BN:=below_new Wgmij (cObjQ m WD.heap.size Wgmi.heap.size (P.size + lo.size) lc)
       have hC:=heap_alloc_new Wgmij (cObjQ m WD.heap.size Wgmi.heap.size (P.size + lo.size) lc)
       have hCC : WB.heap.size ≤ Wgmij.heap.size:=HBB.size
       go_simp
       have hO:=blk_later BN hO
       have hCB:=blk_later BN hCB
       have hL:=seg_later hL BN
       have hH:=ck5.later hH BN
       have HBB:=HBB.trans (BN.mono HBB.size)
       refine hK.out _ _ hH (fun _ => ?_)
       clear hK K BN
       generalize Wgmij.alloc (cObjQ m WD.heap.size Wgmi.heap.size (P.size + lo.size) lc) = Wgmijl at *
       refine wpAnyH_ready (rs:=[13]) (by kernel_rfl) (by simp) ?_
       refine ready_at (o:=operQ1) (by kernel_rfl) (by kernel_rfl) (fun K hK => ?_) ?_
       ·have cb0 : Wgmijl.cell? ⟨Wg.heap.size,0,none⟩ = some (.pointer none):=cell_at hCB
        have cbf : Wgmijl.frozen? ⟨Wg.heap.size,0,none⟩ = false:=free_at hCB
        have KN:=kept_set Wgmijl Wg.heap.size 0 (.pointer (some ⟨Wgmij.heap.size,0,none⟩))
        have nO:=blk_ne hO hCB (by decide)
        have nC:=blk_ne hC hCB (by decide)
        have nL:=seg_ne hL hCB hPl1
        have nM:=HSB.out _ hBB
        go_simp
        have hCB:=setBlk (i:=0) (u:=.pointer (some ⟨Wgmij.heap.size,0,none⟩)) hCB
        have hO:=(KN.block _ (blk_lt hO) nO).trans hO
        have hC:=(KN.block _ (blk_lt hC) nC).trans hC
        have hL:=seg_kept hL KN nL
        have hH:=ck5.kept hH KN nM
        have HBB:=below_put (u:=.pointer (some ⟨Wgmij.heap.size,0,none⟩)) (i:=0) HBB hBB HBB.size
        refine hK.out _ _ hH (fun _ => ?_)
        clear hK K
        refine wpAnyH_done (by kernel_rfl) ?_ _
        refine NoPanic.normal ?_
        go_wp2_with fail
        go_meet
        exact ⟨_,_,_,_,_,rfl,hCB,hC,hO,hL,by omega,by omega,by omega,by omega,HBB⟩
       exact AllReadyH.nil
      exact AllReadyH.nil
     exact AllReadyH.nil
    exact AllReadyH.nil
   exact AllReadyH.nil
  refine ready_at (o:=operQ6) (by kernel_rfl) (by kernel_rfl) (fun K hK => ?_) ?_
  ·go_simp
   refine (body70 P R).mono ?_
   rintro e Wi ⟨rfl,BN⟩
   have hH:=ck5.later hH BN
   have HBB:=HBB.trans (BN.mono HBB.size)
   refine hK.out _ _ hH (fun _ => ?_)
   clear hK K BN
   refine wpAnyH_ready (rs:=[6,9,12]) (by kernel_rfl) (by simp) ?_
   refine ready_at (o:=operQ5) (by kernel_rfl) (by kernel_rfl) (fun K hK => ?_) ?_
   ·obtain ⟨lc,Wig,hcv,hseg,BN,hzW⟩:=conv_str Wi (P ++ lo) hPl
    clear hzW
    go_simp
    clear hcv
    have hL:=hseg
    have hLL : WB.heap.size ≤ Wi.heap.size:=HBB.size
    have hH:=ck5.later hH BN
    have HBB:=HBB.trans (BN.mono HBB.size)
    refine hK.out _ _ hH (fun _ => ?_)
    clear hK K BN
    refine wpAnyH_ready (rs:=[9,12]) (by kernel_rfl) (by simp) ?_
    refine ready_at (o:=operQ4) (by kernel_rfl) (by kernel_rfl) (fun K hK => ?_) ?_
    ·have BN:=below_new Wig (oObjQ R)
     have hO:=heap_alloc_new Wig (oObjQ R)
     have hOO : WB.heap.size ≤ Wig.heap.size:=HBB.size
     go_simp
     have hL:=seg_later hL BN
     have hH:=ck5.later hH BN
     have HBB:=HBB.trans (BN.mono HBB.size)
     refine hK.out _ _ hH (fun _ => ?_)
     clear hK K BN
     generalize Wig.alloc (oObjQ R) = Wigj at *
     refine tkA (i:=10) (oi:=operQ2) (d:=some 44) (v:=?_) (by kernel_rfl) (by kernel_rfl) ?_ ?_
     rotate_left
     ·intro w h;(try dsimp only at h);go_simp;try with_reducible rfl
     try simp only [Act.put,sIB,sC0,sCs]
     refine wpAnyH_ready (rs:=[11,12]) (by kernel_rfl) (by simp) ?_
     refine ready_at (o:=operQ0) (by kernel_rfl) (by kernel_rfl) (fun K hK => ?_) ?_
     ·have BN:=below_new Wigj (cObjQ m Wi.heap.size Wig.heap.size (P.size + lo.size) lc)
      have hC:=heap_alloc_new Wigj (cObjQ m Wi.heap.size Wig.heap.size (P.size + lo.size) lc)
      have hCC : WB.heap.size ≤ Wigj.heap.size:=HBB.size
      go_simp
      have hO:=blk_later BN hO
      have hL:=seg_later hL BN
      have hH:=ck5.later hH BN
      have HBB:=HBB.trans (BN.mono HBB.size)
      refine hK.out _ _ hH (fun _ => ?_)
      clear hK K BN
      generalize Wigj.alloc (cObjQ m Wi.heap.size Wig.heap.size (P.size + lo.size) lc) = Wigjl at *
      refine wpAnyH_ready (rs:=[12]) (by kernel_rfl) (by simp) ?_
      refine ready_at (o:=operQ3) (by kernel_rfl) (by kernel_rfl) (fun K hK => ?_) ?_
      ·have BN:=below_new Wigjl (.cells #[.pointer none] 113)
       have hCB:=heap_alloc_new Wigjl (.cells #[.pointer none] 113)
       have hBB : WB.heap.size ≤ Wigjl.heap.size:=HBB.size
       go_simp
       have hO:=blk_later BN hO
       have hC:=blk_later BN hC
       have hL:=seg_later hL BN
       have hH:=ck5.later hH BN
       have HBB:=HBB.trans (BN.mono HBB.size)
       refine hK.out _ _ hH (fun _ => ?_)
       clear hK K BN
       generalize Wigjl.alloc (.cells #[.pointer none] 113) = Wigjlm at *
       refine wpAnyH_ready (rs:=[13]) (by kernel_rfl) (by simp) ?_
       refine ready_at (o:=operQ1) (by kernel_rfl) (by kernel_rfl) (fun K hK => ?_) ?_
       ·have cb0 : Wigjlm.cell? ⟨Wigjl.heap.size,0,none⟩ = some (.pointer none):=cell_at hCB
        have cbf : Wigjlm.frozen? ⟨Wigjl.heap.size,0,none⟩ = false:=free_at hCB
        have KN:=kept_set Wigjlm Wigjl.heap.size 0 (.pointer (some ⟨Wigj.heap.size,0,none⟩))
        have nO:=blk_ne hO hCB (by decide)
        have nC:=blk_ne hC hCB (by decide)
        have nL:=seg_ne hL hCB hPl1
        have nM:=HSB.out _ hBB
        go_simp
        have hCB:=setBlk (i:=0) (u:=.pointer (some ⟨Wigj.heap.size,0,none⟩)) hCB
        have hO:=(KN.block _ (blk_lt hO) nO).trans hO
        have hC:=(KN.block _ (blk_lt hC) nC).trans hC
        have hL:=seg_kept hL KN nL
        have hH:=ck5.kept hH KN nM
        have HBB:=below_put (u:=.pointer (some ⟨Wigj.heap.size,0,none⟩)) (i:=0) HBB hBB HBB.size
        refine hK.out _ _ hH (fun _ => ?_)
        clear hK K
        refine wpAnyH_done (by kernel_rfl) ?_ _
        refine NoPanic.normal ?_
        go_wp2_with fail
        go_meet
        exact ⟨_,_,_,_,_,rfl,hCB,hC,hO,hL,by omega,by omega,by omega,by omega,HBB⟩
       exact AllReadyH.nil
      exact AllReadyH.nil
     refine ready_at (o:=operQ3) (by kernel_rfl) (by kernel_rfl) (fun K hK => ?_) ?_
     ·have BN:=below_new Wigj (.cells #[.pointer none] 113)
      have hCB:=heap_alloc_new Wigj (.cells #[.pointer none] 113)
      have hBB : WB.heap.size ≤ Wigj.heap.size:=HBB.size
      go_simp
      have hO:=blk_later BN hO
      have hL:=seg_later hL BN
      have hH:=ck5.later hH BN
      have HBB:=HBB.trans (BN.mono HBB.size)
      refine hK.out _ _ hH (fun _ => ?_)
      clear hK K BN
      generalize Wigj.alloc (.cells #[.pointer none] 113) = Wigjm at *
      refine wpAnyH_ready (rs:=[11]) (by kernel_rfl) (by simp) ?_
      refine ready_at (o:=operQ0) (by kernel_rfl) (by kernel_rfl) (fun K hK => ?_) ?_
      ·have BN:=below_new Wigjm (cObjQ m Wi.heap.size Wig.heap.size (P.size + lo.size) lc)
       have hC:=heap_alloc_new Wigjm (cObjQ m Wi.heap.size Wig.heap.size (P.size + lo.size) lc)
       have hCC : WB.heap.size ≤ Wigjm.heap.size:=HBB.size
       go_simp
       have hO:=blk_later BN hO
       have hCB:=blk_later BN hCB
       have hL:=seg_later hL BN
       have hH:=ck5.later hH BN
       have HBB:=HBB.trans (BN.mono HBB.size)
       refine hK.out _ _ hH (fun _ => ?_)
       clear hK K BN
       generalize Wigjm.alloc (cObjQ m Wi.heap.size Wig.heap.size (P.size + lo.size) lc) = Wigjml at *
       refine wpAnyH_ready (rs:=[13]) (by kernel_rfl) (by simp) ?_
       refine ready_at (o:=operQ1) (by kernel_rfl) (by kernel_rfl) (fun K hK => ?_) ?_
       ·have cb0 : Wigjml.cell? ⟨Wigj.heap.size,0,none⟩ = some (.pointer none):=cell_at hCB
        have cbf : Wigjml.frozen? ⟨Wigj.heap.size,0,none⟩ = false:=free_at hCB
        have KN:=kept_set Wigjml Wigj.heap.size 0 (.pointer (some ⟨Wigjm.heap.size,0,none⟩))
        have nO:=blk_ne hO hCB (by decide)
        have nC:=blk_ne hC hCB (by decide)
        have nL:=seg_ne hL hCB hPl1
        have nM:=HSB.out _ hBB
        go_simp
        have hCB:=setBlk (i:=0) (u:=.pointer (some ⟨Wigjm.heap.size,0,none⟩)) hCB
        have hO:=(KN.block _ (blk_lt hO) nO).trans hO
        have hC:=(KN.block _ (blk_lt hC) nC).trans hC
        have hL:=seg_kept hL KN nL
        have hH:=ck5.kept hH KN nM
        have HBB:=below_put (u:=.pointer (some ⟨Wigjm.heap.size,0,none⟩)) (i:=0) HBB hBB HBB.size
        refine hK.out _ _ hH (fun _ => ?_)
        clear hK K
        refine wpAnyH_done (by kernel_rfl) ?_ _
        refine NoPanic.normal ?_
        go_wp2_with fail
        go_meet
        exact ⟨_,_,_,_,_,rfl,hCB,hC,hO,hL,by omega,by omega,by omega,by omega,HBB⟩
       exact AllReadyH.nil
      exact AllReadyH.nil
     exact AllReadyH.nil
    refine ready_at (o:=operQ3) (by kernel_rfl) (by kernel_rfl) (fun K hK => ?_) ?_
    ·have BN:=below_new Wig (.cells #[.pointer none] 113)
     have hCB:=heap_alloc_new Wig (.cells #[.pointer none] 113)
     have hBB : WB.heap.size ≤ Wig.heap.size:=HBB.size
     go_simp
     have hL:=seg_later hL BN
     have hH:=ck5.later hH BN
     have HBB:=HBB.trans (BN.mono HBB.size)
     refine hK.out _ _ hH (fun _ => ?_)
     clear hK K BN
     generalize Wig.alloc (.cells #[.pointer none] 113) = Wigm at *
     refine wpAnyH_ready (rs:=[9]) (by kernel_rfl) (by simp) ?_
     refine ready_at (o:=operQ4) (by kernel_rfl) (by kernel_rfl) (fun K hK => ?_) ?_
     ·have BN:=below_new Wigm (oObjQ R)
      have hO:=heap_alloc_new Wigm (oObjQ R)
      have hOO : WB.heap.size ≤ Wigm.heap.size:=HBB.size
      go_simp
      have hCB:=blk_later BN hCB
      have hL:=seg_later hL BN
      have hH:=ck5.later hH BN
      have HBB:=HBB.trans (BN.mono HBB.size)
      refine hK.out _ _ hH (fun _ => ?_)
      clear hK K BN
      generalize Wigm.alloc (oObjQ R) = Wigmj at *
      refine tkA (i:=10) (oi:=operQ2) (d:=some 44) (v:=?_) (by kernel_rfl) (by kernel_rfl) ?_ ?_
      rotate_left
      ·intro w h;(try dsimp only at h);go_simp;try with_reducible rfl
      try simp only [Act.put,sIB,sC0,sCs]
      refine wpAnyH_ready (rs:=[11]) (by kernel_rfl) (by simp) ?_
      refine ready_at (o:=operQ0) (by kernel_rfl) (by kernel_rfl) (fun K hK => ?_) ?_
      ·have BN:=below_new Wigmj (cObjQ m Wi.heap.size Wigm.heap.size (P.size + lo.size) lc)
       have hC:=heap_alloc_new Wigmj (cObjQ m Wi.heap.size Wigm.heap.size (P.size + lo.size) lc)
       have hCC : WB.heap.size ≤ Wigmj.heap.size:=HBB.size
       go_simp
       have hO:=blk_later BN hO
       have hCB:=blk_later BN hCB
       have hL:=seg_later hL BN
       have hH:=ck5.later hH BN
       have HBB:=HBB.trans (BN.mono HBB.size)
       refine hK.out _ _ hH (fun _ => ?_)
       clear hK K BN
       generalize Wigmj.alloc (cObjQ m Wi.heap.size Wigm.heap.size (P.size + lo.size) lc) = Wigmjl at *
       refine wpAnyH_ready (rs:=[13]) (by kernel_rfl) (by simp) ?_
       refine ready_at (o:=operQ1) (by kernel_rfl) (by kernel_rfl) (fun K hK => ?_) ?_
       ·have cb0 : Wigmjl.cell? ⟨Wig.heap.size,0,none⟩ = some (.pointer none):=cell_at hCB
        have cbf : Wigmjl.frozen? ⟨Wig.heap.size,0,none⟩ = false:=free_at hCB
        have KN:=kept_set Wigmjl Wig.heap.size 0 (.pointer (some ⟨Wigmj.heap.size,0,none⟩))
        have nO:=blk_ne hO hCB (by decide)
        have nC:=blk_ne hC hCB (by decide)
        have nL:=seg_ne hL hCB hPl1
        have nM:=HSB.out _ hBB
        go_simp
        have hCB:=setBlk (i:=0) (u:=.pointer (some ⟨Wigmj.heap.size,0,none⟩)) hCB
        have hO:=(KN.block _ (blk_lt hO) nO).trans hO
        have hC:=(KN.block _ (blk_lt hC) nC).trans hC
        have hL:=seg_kept hL KN nL
        have hH:=ck5.kept hH KN nM
        have HBB:=below_put (u:=.pointer (some ⟨Wigmj.heap.size,0,none⟩)) (i:=0) HBB hBB HBB.size
        refine hK.out _ _ hH (fun _ => ?_)
        clear hK K
        refine wpAnyH_done (by kernel_rfl) ?_ _
        refine NoPanic.normal ?_
        go_wp2_with fail
        go_meet
        exact ⟨_,_,_,_,_,rfl,hCB,hC,hO,hL,by omega,by omega,by omega,by omega,HBB⟩
       exact AllReadyH.nil
      exact AllReadyH.nil
     exact AllReadyH.nil
    exact AllReadyH.nil
   refine ready_at (o:=operQ4) (by kernel_rfl) (by kernel_rfl) (fun K hK => ?_) ?_
   ·have BN:=below_new Wi (oObjQ R)
    have hO:=heap_alloc_new Wi (oObjQ R)
    have hOO : WB.heap.size ≤ Wi.heap.size:=HBB.size
    go_simp
    have hH:=ck5.later hH BN
    have HBB:=HBB.trans (BN.mono HBB.size)
    refine hK.out _ _ hH (fun _ => ?_)
    clear hK K BN
    generalize Wi.alloc (oObjQ R) = Wij at *
    refine wpAnyH_ready (rs:=[6,12]) (by kernel_rfl) (by simp) ?_
    refine ready_at (o:=operQ5) (by kernel_rfl) (by kernel_rfl) (fun K hK => ?_) ?_
    ·obtain ⟨lc,Wijg,hcv,hseg,BN,hzW⟩:=conv_str Wij (P ++ lo) hPl
     clear hzW
     go_simp
     clear hcv
     have hL:=hseg
     have hLL : WB.heap.size ≤ Wij.heap.size:=HBB.size
     have hO:=blk_later BN hO
     have hH:=ck5.later hH BN
     have HBB:=HBB.trans (BN.mono HBB.size)
     refine hK.out _ _ hH (fun _ => ?_)
     clear hK K BN
     refine tkA (i:=10) (oi:=operQ2) (d:=some 44) (v:=?_) (by kernel_rfl) (by kernel_rfl) ?_ ?_
     rotate_left
     ·intro w h;(try dsimp only at h);go_simp;try with_reducible rfl
     try simp only [Act.put,sIB,sC0,sCs]
     refine wpAnyH_ready (rs:=[11,12]) (by kernel_rfl) (by simp) ?_
     refine ready_at (o:=operQ0) (by kernel_rfl) (by kernel_rfl) (fun K hK => ?_) ?_
     ·have BN:=below_new Wijg (cObjQ m Wij.heap.size Wi.heap.size (P.size + lo.size) lc)
      have hC:=heap_alloc_new Wijg (cObjQ m Wij.heap.size Wi.heap.size (P.size + lo.size) lc)
      have hCC : WB.heap.size ≤ Wijg.heap.size:=HBB.size
      go_simp
      have hO:=blk_later BN hO
      have hL:=seg_later hL BN
      have hH:=ck5.later hH BN
      have HBB:=HBB.trans (BN.mono HBB.size)
      refine hK.out _ _ hH (fun _ => ?_)
      clear hK K BN
      generalize Wijg.alloc (cObjQ m Wij.heap.size Wi.heap.size (P.size + lo.size) lc) = Wijgl at *
      refine wpAnyH_ready (rs:=[12]) (by kernel_rfl) (by simp) ?_
      refine ready_at (o:=operQ3) (by kernel_rfl) (by kernel_rfl) (fun K hK => ?_) ?_
      ·have BN:=below_new Wijgl (.cells #[.pointer none] 113)
       have hCB:=heap_alloc_new Wijgl (.cells #[.pointer none] 113)
       have hBB : WB.heap.size ≤ Wijgl.heap.size:=HBB.size
       go_simp
       have hO:=blk_later BN hO
       have hC:=blk_later BN hC
       have hL:=seg_later hL BN
       have hH:=ck5.later hH BN
       have HBB:=HBB.trans (BN.mono HBB.size)
       refine hK.out _ _ hH (fun _ => ?_)
       clear hK K BN
       generalize Wijgl.alloc (.cells #[.pointer none] 113) = Wijglm at *
       refine wpAnyH_ready (rs:=[13]) (by kernel_rfl) (by simp) ?_
       refine ready_at (o:=operQ1) (by kernel_rfl) (by kernel_rfl) (fun K hK => ?_) ?_
       ·have cb0 : Wijglm.cell? ⟨Wijgl.heap.size,0,none⟩ = some (.pointer none):=cell_at hCB
        have cbf : Wijglm.frozen? ⟨Wijgl.heap.size,0,none⟩ = false:=free_at hCB
        have KN:=kept_set Wijglm Wijgl.heap.size 0 (.pointer (some ⟨Wijg.heap.size,0,none⟩))
        have nO:=blk_ne hO hCB (by decide)
        have nC:=blk_ne hC hCB (by decide)
        have nL:=seg_ne hL hCB hPl1
        have nM:=HSB.out _ hBB
        go_simp
        have hCB:=setBlk (i:=0) (u:=.pointer (some ⟨Wijg.heap.size,0,none⟩)) hCB
        have hO:=(KN.block _ (blk_lt hO) nO).trans hO
        have hC:=(KN.block _ (blk_lt hC) nC).trans hC
        have hL:=seg_kept hL KN nL
        have hH:=ck5.kept hH KN nM
        have HBB:=below_put (u:=.pointer (some ⟨Wijg.heap.size,0,none⟩)) (i:=0) HBB hBB HBB.size
        refine hK.out _ _ hH (fun _ => ?_)
        clear hK K
        refine wpAnyH_done (by kernel_rfl) ?_ _
        refine NoPanic.normal ?_
        go_wp2_with fail
        go_meet
        exact ⟨_,_,_,_,_,rfl,hCB,hC,hO,hL,by omega,by omega,by omega,by omega,HBB⟩
       exact AllReadyH.nil
      exact AllReadyH.nil
     refine ready_at (o:=operQ3) (by kernel_rfl) (by kernel_rfl) (fun K hK => ?_) ?_
     ·have BN:=below_new Wijg (.cells #[.pointer none] 113)
      have hCB:=heap_alloc_new Wijg (.cells #[.pointer none] 113)
      have hBB : WB.heap.size ≤ Wijg.heap.size:=HBB.size
      go_simp
      have hO:=blk_later BN hO
      have hL:=seg_later hL BN
      have hH:=ck5.later hH BN
      have HBB:=HBB.trans (BN.mono HBB.size)
      refine hK.out _ _ hH (fun _ => ?_)
      clear hK K BN
      generalize Wijg.alloc (.cells #[.pointer none] 113) = Wijgm at *
      refine wpAnyH_ready (rs:=[11]) (by kernel_rfl) (by simp) ?_
      refine ready_at (o:=operQ0) (by kernel_rfl) (by kernel_rfl) (fun K hK => ?_) ?_
      ·have BN:=below_new Wijgm (cObjQ m Wij.heap.size Wi.heap.size (P.size + lo.size) lc)
       have hC:=heap_alloc_new Wijgm (cObjQ m Wij.heap.size Wi.heap.size (P.size + lo.size) lc)
       have hCC : WB.heap.size ≤ Wijgm.heap.size:=HBB.size
       go_simp
       have hO:=blk_later BN hO
       have hCB:=blk_later BN hCB
       have hL:=seg_later hL BN
       have hH:=ck5.later hH BN
       have HBB:=HBB.trans (BN.mono HBB.size)
       refine hK.out _ _ hH (fun _ => ?_)
       clear hK K BN
       generalize Wijgm.alloc (cObjQ m Wij.heap.size Wi.heap.size (P.size + lo.size) lc) = Wijgml at *
       refine wpAnyH_ready (rs:=[13]) (by kernel_rfl) (by simp) ?_
       refine ready_at (o:=operQ1) (by kernel_rfl) (by kernel_rfl) (fun K hK => ?_) ?_
       ·have cb0 : Wijgml.cell? ⟨Wijg.heap.size,0,none⟩ = some (.pointer none):=cell_at hCB
        have cbf : Wijgml.frozen? ⟨Wijg.heap.size,0,none⟩ = false:=free_at hCB
        have KN:=kept_set Wijgml Wijg.heap.size 0 (.pointer (some ⟨Wijgm.heap.size,0,none⟩))
        have nO:=blk_ne hO hCB (by decide)
        have nC:=blk_ne hC hCB (by decide)
        have nL:=seg_ne hL hCB hPl1
        have nM:=HSB.out _ hBB
        go_simp
        have hCB:=setBlk (i:=0) (u:=.pointer (some ⟨Wijgm.heap.size,0,none⟩)) hCB
        have hO:=(KN.block _ (blk_lt hO) nO).trans hO
        have hC:=(KN.block _ (blk_lt hC) nC).trans hC
        have hL:=seg_kept hL KN nL
        have hH:=ck5.kept hH KN nM
        have HBB:=below_put (u:=.pointer (some ⟨Wijgm.heap.size,0,none⟩)) (i:=0) HBB hBB HBB.size
        refine hK.out _ _ hH (fun _ => ?_)
        clear hK K
        refine wpAnyH_done (by kernel_rfl) ?_ _
        refine NoPanic.normal ?_
        go_wp2_with fail
        go_meet
        exact ⟨_,_,_,_,_,rfl,hCB,hC,hO,hL,by omega,by omega,by omega,by omega,HBB⟩
       exact AllReadyH.nil
      exact AllReadyH.nil
     exact AllReadyH.nil
    refine ready_at (o:=operQ3) (by kernel_rfl) (by kernel_rfl) (fun K hK => ?_) ?_
    ·have BN:=below_new Wij (.cells #[.pointer none] 113)
     have hCB:=heap_alloc_new Wij (.cells #[.pointer none] 113)
     have hBB : WB.heap.size ≤ Wij.heap.size:=HBB.size
     go_simp
     have hO:=blk_later BN hO
     have hH:=ck5.later hH BN
     have HBB:=HBB.trans (BN.mono HBB.size)
     refine hK.out _ _ hH (fun _ => ?_)
     clear hK K BN
     generalize Wij.alloc (.cells #[.pointer none] 113) = Wijm at *
     refine wpAnyH_ready (rs:=[6]) (by kernel_rfl) (by simp) ?_
     refine ready_at (o:=operQ5) (by kernel_rfl) (by kernel_rfl) (fun K hK => ?_) ?_
     ·obtain ⟨lc,Wijmg,hcv,hseg,BN,hzW⟩:=conv_str Wijm (P ++ lo) hPl
      clear hzW
      go_simp
      clear hcv
      have hL:=hseg
      have hLL : WB.heap.size ≤ Wijm.heap.size:=HBB.size
      have hO:=blk_later BN hO
      have hCB:=blk_later BN hCB
      have hH:=ck5.later hH BN
      have HBB:=HBB.trans (BN.mono HBB.size)
      refine hK.out _ _ hH (fun _ => ?_)
      clear hK K BN
      refine tkA (i:=10) (oi:=operQ2) (d:=some 44) (v:=?_) (by kernel_rfl) (by kernel_rfl) ?_ ?_
      rotate_left
      ·intro w h;(try dsimp only at h);go_simp;try with_reducible rfl
      try simp only [Act.put,sIB,sC0,sCs]
      refine wpAnyH_ready (rs:=[11]) (by kernel_rfl) (by simp) ?_
      refine ready_at (o:=operQ0) (by kernel_rfl) (by kernel_rfl) (fun K hK => ?_) ?_
      ·have BN:=below_new Wijmg (cObjQ m Wijm.heap.size Wi.heap.size (P.size + lo.size) lc)
       have hC:=heap_alloc_new Wijmg (cObjQ m Wijm.heap.size Wi.heap.size (P.size + lo.size) lc)
       have hCC : WB.heap.size ≤ Wijmg.heap.size:=HBB.size
       go_simp
       have hO:=blk_later BN hO
       have hCB:=blk_later BN hCB
       have hL:=seg_later hL BN
       have hH:=ck5.later hH BN
       have HBB:=HBB.trans (BN.mono HBB.size)
       refine hK.out _ _ hH (fun _ => ?_)
       clear hK K BN
       generalize Wijmg.alloc (cObjQ m Wijm.heap.size Wi.heap.size (P.size + lo.size) lc) = Wijmgl at *
       refine wpAnyH_ready (rs:=[13]) (by kernel_rfl) (by simp) ?_
       refine ready_at (o:=operQ1) (by kernel_rfl) (by kernel_rfl) (fun K hK => ?_) ?_
       ·have cb0 : Wijmgl.cell? ⟨Wij.heap.size,0,none⟩ = some (.pointer none):=cell_at hCB
        have cbf : Wijmgl.frozen? ⟨Wij.heap.size,0,none⟩ = false:=free_at hCB
        have KN:=kept_set Wijmgl Wij.heap.size 0 (.pointer (some ⟨Wijmg.heap.size,0,none⟩))
        have nO:=blk_ne hO hCB (by decide)
        have nC:=blk_ne hC hCB (by decide)
        have nL:=seg_ne hL hCB hPl1
        have nM:=HSB.out _ hBB
        go_simp
        have hCB:=setBlk (i:=0) (u:=.pointer (some ⟨Wijmg.heap.size,0,none⟩)) hCB
        have hO:=(KN.block _ (blk_lt hO) nO).trans hO
        have hC:=(KN.block _ (blk_lt hC) nC).trans hC
        have hL:=seg_kept hL KN nL
        have hH:=ck5.kept hH KN nM
        have HBB:=below_put (u:=.pointer (some ⟨Wijmg.heap.size,0,none⟩)) (i:=0) HBB hBB HBB.size
        refine hK.out _ _ hH (fun _ => ?_)
        clear hK K
        refine wpAnyH_done (by kernel_rfl) ?_ _
        refine NoPanic.normal ?_
        go_wp2_with fail
        go_meet
        exact ⟨_,_,_,_,_,rfl,hCB,hC,hO,hL,by omega,by omega,by omega,by omega,HBB⟩
       exact AllReadyH.nil
      exact AllReadyH.nil
     exact AllReadyH.nil
    exact AllReadyH.nil
   refine ready_at (o:=operQ3) (by kernel_rfl) (by kernel_rfl) (fun K hK => ?_) ?_
   ·have BN:=below_new Wi (.cells #[.pointer none] 113)
    have hCB:=heap_alloc_new Wi (.cells #[.pointer none] 113)
    have hBB : WB.heap.size ≤ Wi.heap.size:=HBB.size
    go_simp
    have hH:=ck5.later hH BN
    have HBB:=HBB.trans (BN.mono HBB.size)
    refine hK.out _ _ hH (fun _ => ?_)
    clear hK K BN
    generalize Wi.alloc (.cells #[.pointer none] 113) = Wim at *
    refine wpAnyH_ready (rs:=[6,9]) (by kernel_rfl) (by simp) ?_
    refine ready_at (o:=operQ5) (by kernel_rfl) (by kernel_rfl) (fun K hK => ?_) ?_
    ·obtain ⟨lc,Wimg,hcv,hseg,BN,hzW⟩:=conv_str Wim (P ++ lo) hPl
     clear hzW
     go_simp
     clear hcv
     have hL:=hseg
     have hLL : WB.heap.size ≤ Wim.heap.size:=HBB.size
     have hCB:=blk_later BN hCB
     have hH:=ck5.later hH BN
     have HBB:=HBB.trans (BN.mono HBB.size)
     refine hK.out _ _ hH (fun _ => ?_)
     clear hK K BN
     refine wpAnyH_ready (rs:=[9]) (by kernel_rfl) (by simp) ?_
     refine ready_at (o:=operQ4) (by kernel_rfl) (by kernel_rfl) (fun K hK => ?_) ?_
     ·have BN:=below_new Wimg (oObjQ R)
      have hO:=heap_alloc_new Wimg (oObjQ R)
      have hOO : WB.heap.size ≤ Wimg.heap.size:=HBB.size
      go_simp
      have hCB:=blk_later BN hCB
      have hL:=seg_later hL BN
      have hH:=ck5.later hH BN
      have HBB:=HBB.trans (BN.mono HBB.size)
      refine hK.out _ _ hH (fun _ => ?_)
      clear hK K BN
      generalize Wimg.alloc (oObjQ R) = Wimgj at *
      refine tkA (i:=10) (oi:=operQ2) (d:=some 44) (v:=?_) (by kernel_rfl) (by kernel_rfl) ?_ ?_
      rotate_left
      ·intro w h;(try dsimp only at h);go_simp;try with_reducible rfl
      try simp only [Act.put,sIB,sC0,sCs]
      refine wpAnyH_ready (rs:=[11]) (by kernel_rfl) (by simp) ?_
      refine ready_at (o:=operQ0) (by kernel_rfl) (by kernel_rfl) (fun K hK => ?_) ?_
      ·have BN:=below_new Wimgj (cObjQ m Wim.heap.size Wimg.heap.size (P.size + lo.size) lc)
       have hC:=heap_alloc_new Wimgj (cObjQ m Wim.heap.size Wimg.heap.size (P.size + lo.size) lc)
       have hCC : WB.heap.size ≤ Wimgj.heap.size:=HBB.size
       go_simp
       have hO:=blk_later BN hO
       have hCB:=blk_later BN hCB
       have hL:=seg_later hL BN
       have hH:=ck5.later hH BN
       have HBB:=HBB.trans (BN.mono HBB.size)
       refine hK.out _ _ hH (fun _ => ?_)
       clear hK K BN
       generalize Wimgj.alloc (cObjQ m Wim.heap.size Wimg.heap.size (P.size + lo.size) lc) = Wimgjl at *
       refine wpAnyH_ready (rs:=[13]) (by kernel_rfl) (by simp) ?_
       refine ready_at (o:=operQ1) (by kernel_rfl) (by kernel_rfl) (fun K hK => ?_) ?_
       ·have cb0 : Wimgjl.cell? ⟨Wi.heap.size,0,none⟩ = some (.pointer none):=cell_at hCB
        have cbf : Wimgjl.frozen? ⟨Wi.heap.size,0,none⟩ = false:=free_at hCB
        have KN:=kept_set Wimgjl Wi.heap.size 0 (.pointer (some ⟨Wimgj.heap.size,0,none⟩))
        have nO:=blk_ne hO hCB (by decide)
        have nC:=blk_ne hC hCB (by decide)
        have nL:=seg_ne hL hCB hPl1
        have nM:=HSB.out _ hBB
        go_simp
        have hCB:=setBlk (i:=0) (u:=.pointer (some ⟨Wimgj.heap.size,0,none⟩)) hCB
        have hO:=(KN.block _ (blk_lt hO) nO).trans hO
        have hC:=(KN.block _ (blk_lt hC) nC).trans hC
        have hL:=seg_kept hL KN nL
        have hH:=ck5.kept hH KN nM
        have HBB:=below_put (u:=.pointer (some ⟨Wimgj.heap.size,0,none⟩)) (i:=0) HBB hBB HBB.size
        refine hK.out _ _ hH (fun _ => ?_)
        clear hK K
        refine wpAnyH_done (by kernel_rfl) ?_ _
        refine NoPanic.normal ?_
        go_wp2_with fail
        go_meet
        exact ⟨_,_,_,_,_,rfl,hCB,hC,hO,hL,by omega,by omega,by omega,by omega,HBB⟩
       exact AllReadyH.nil
      exact AllReadyH.nil
     exact AllReadyH.nil
    refine ready_at (o:=operQ4) (by kernel_rfl) (by kernel_rfl) (fun K hK => ?_) ?_
    ·have BN:=below_new Wim (oObjQ R)
     have hO:=heap_alloc_new Wim (oObjQ R)
     have hOO : WB.heap.size ≤ Wim.heap.size:=HBB.size
     go_simp
     have hCB:=blk_later BN hCB
     have hH:=ck5.later hH BN
     have HBB:=HBB.trans (BN.mono HBB.size)
     refine hK.out _ _ hH (fun _ => ?_)
     clear hK K BN
     generalize Wim.alloc (oObjQ R) = Wimj at *
     refine wpAnyH_ready (rs:=[6]) (by kernel_rfl) (by simp) ?_
     refine ready_at (o:=operQ5) (by kernel_rfl) (by kernel_rfl) (fun K hK => ?_) ?_
     ·obtain ⟨lc,Wimjg,hcv,hseg,BN,hzW⟩:=conv_str Wimj (P ++ lo) hPl
      clear hzW
      go_simp
      clear hcv
      have hL:=hseg
      have hLL : WB.heap.size ≤ Wimj.heap.size:=HBB.size
      have hO:=blk_later BN hO
      have hCB:=blk_later BN hCB
      have hH:=ck5.later hH BN
      have HBB:=HBB.trans (BN.mono HBB.size)
      refine hK.out _ _ hH (fun _ => ?_)
      clear hK K BN
      refine tkA (i:=10) (oi:=operQ2) (d:=some 44) (v:=?_) (by kernel_rfl) (by kernel_rfl) ?_ ?_
      rotate_left
      ·intro w h;(try dsimp only at h);go_simp;try with_reducible rfl
      try simp only [Act.put,sIB,sC0,sCs]
      refine wpAnyH_ready (rs:=[11]) (by kernel_rfl) (by simp) ?_
      refine ready_at (o:=operQ0) (by kernel_rfl) (by kernel_rfl) (fun K hK => ?_) ?_
      ·have BN:=below_new Wimjg (cObjQ m Wimj.heap.size Wim.heap.size (P.size + lo.size) lc)
       have hC:=heap_alloc_new Wimjg (cObjQ m Wimj.heap.size Wim.heap.size (P.size + lo.size) lc)
       have hCC : WB.heap.size ≤ Wimjg.heap.size:=HBB.size
       go_simp
       have hO:=blk_later BN hO
       have hCB:=blk_later BN hCB
       have hL:=seg_later hL BN
       have hH:=ck5.later hH BN
       have HBB:=HBB.trans (BN.mono HBB.size)
       refine hK.out _ _ hH (fun _ => ?_)
       clear hK K BN
       generalize Wimjg.alloc (cObjQ m Wimj.heap.size Wim.heap.size (P.size + lo.size) lc) = Wimjgl at *
       refine wpAnyH_ready (rs:=[13]) (by kernel_rfl) (by simp) ?_
       refine ready_at (o:=operQ1) (by kernel_rfl) (by kernel_rfl) (fun K hK => ?_) ?_
       ·have cb0 : Wimjgl.cell? ⟨Wi.heap.size,0,none⟩ = some (.pointer none):=cell_at hCB
        have cbf : Wimjgl.frozen? ⟨Wi.heap.size,0,none⟩ = false:=free_at hCB
        have KN:=kept_set Wimjgl Wi.heap.size 0 (.pointer (some ⟨Wimjg.heap.size,0,none⟩))
        have nO:=blk_ne hO hCB (by decide)
        have nC:=blk_ne hC hCB (by decide)
        have nL:=seg_ne hL hCB hPl1
        have nM:=HSB.out _ hBB
        go_simp
        have hCB:=setBlk (i:=0) (u:=.pointer (some ⟨Wimjg.heap.size,0,none⟩)) hCB
        have hO:=(KN.block _ (blk_lt hO) nO).trans hO
        have hC:=(KN.block _ (blk_lt hC) nC).trans hC
        have hL:=seg_kept hL KN nL
        have hH:=ck5.kept hH KN nM
        have HBB:=below_put (u:=.pointer (some ⟨Wimjg.heap.size,0,none⟩)) (i:=0) HBB hBB HBB.size
        refine hK.out _ _ hH (fun _ => ?_)
        clear hK K
        refine wpAnyH_done (by kernel_rfl) ?_ _
        refine NoPanic.normal ?_
        go_wp2_with fail
        go_meet
        exact ⟨_,_,_,_,_,rfl,hCB,hC,hO,hL,by omega,by omega,by omega,by omega,HBB⟩
       exact AllReadyH.nil
      exact AllReadyH.nil
     exact AllReadyH.nil
    exact AllReadyH.nil
   exact AllReadyH.nil
  refine ready_at (o:=operQ3) (by kernel_rfl) (by kernel_rfl) (fun K hK => ?_) ?_
  ·have BN:=below_new WD (.cells #[.pointer none] 113)
   have hCB:=heap_alloc_new WD (.cells #[.pointer none] 113)
   have hBB : WB.heap.size ≤ WD.heap.size:=HBB.size
   go_simp
   have hH:=ck5.later hH BN
   have HBB:=HBB.trans (BN.mono HBB.size)
   refine hK.out _ _ hH (fun _ => ?_)
   clear hK K BN
   generalize WD.alloc (.cells #[.pointer none] 113) = Wm at *
   refine wpAnyH_ready (rs:=[6,8]) (by kernel_rfl) (by simp) ?_
   refine ready_at (o:=operQ5) (by kernel_rfl) (by kernel_rfl) (fun K hK => ?_) ?_
   ·obtain ⟨lc,Wmg,hcv,hseg,BN,hzW⟩:=conv_str Wm (P ++ lo) hPl
    clear hzW
    go_simp
    clear hcv
    have hL:=hseg
    have hLL : WB.heap.size ≤ Wm.heap.size:=HBB.size
    have hCB:=blk_later BN hCB
    have hH:=ck5.later hH BN
    have HBB:=HBB.trans (BN.mono HBB.size)
    refine hK.out _ _ hH (fun _ => ?_)
    clear hK K BN
    refine wpAnyH_ready (rs:=[8]) (by kernel_rfl) (by simp) ?_
    refine ready_at (o:=operQ6) (by kernel_rfl) (by kernel_rfl) (fun K hK => ?_) ?_
    ·go_simp
     refine (body70 P R).mono ?_
     rintro e Wmgi ⟨rfl,BN⟩
     have hCB:=blk_later BN hCB
     have hL:=seg_later hL BN
     have hH:=ck5.later hH BN
     have HBB:=HBB.trans (BN.mono HBB.size)
     refine hK.out _ _ hH (fun _ => ?_)
     clear hK K BN
     refine wpAnyH_ready (rs:=[9]) (by kernel_rfl) (by simp) ?_
     refine ready_at (o:=operQ4) (by kernel_rfl) (by kernel_rfl) (fun K hK => ?_) ?_
     ·have BN:=below_new Wmgi (oObjQ R)
      have hO:=heap_alloc_new Wmgi (oObjQ R)
      have hOO : WB.heap.size ≤ Wmgi.heap.size:=HBB.size
      go_simp
      have hCB:=blk_later BN hCB
      have hL:=seg_later hL BN
      have hH:=ck5.later hH BN
      have HBB:=HBB.trans (BN.mono HBB.size)
      refine hK.out _ _ hH (fun _ => ?_)
      clear hK K BN
      generalize Wmgi.alloc (oObjQ R) = Wmgij at *
      refine tkA (i:=10) (oi:=operQ2) (d:=some 44) (v:=?_) (by kernel_rfl) (by kernel_rfl) ?_ ?_
      rotate_left
      ·intro w h;(try dsimp only at h);go_simp;try with_reducible rfl
      try simp only [Act.put,sIB,sC0,sCs]
      refine wpAnyH_ready (rs:=[11]) (by kernel_rfl) (by simp) ?_
      refine ready_at (o:=operQ0) (by kernel_rfl) (by kernel_rfl) (fun K hK => ?_) ?_
      ·have BN:=below_new Wmgij (cObjQ m Wm.heap.size Wmgi.heap.size (P.size + lo.size) lc)
       have hC:=heap_alloc_new Wmgij (cObjQ m Wm.heap.size Wmgi.heap.size (P.size + lo.size) lc)
       have hCC : WB.heap.size ≤ Wmgij.heap.size:=HBB.size
       go_simp
       have hO:=blk_later BN hO
       have hCB:=blk_later BN hCB
       have hL:=seg_later hL BN
       have hH:=ck5.later hH BN
       have HBB:=HBB.trans (BN.mono HBB.size)
       refine hK.out _ _ hH (fun _ => ?_)
       clear hK K BN
       generalize Wmgij.alloc (cObjQ m Wm.heap.size Wmgi.heap.size (P.size + lo.size) lc) = Wmgijl at *
       refine wpAnyH_ready (rs:=[13]) (by kernel_rfl) (by simp) ?_
       refine ready_at (o:=operQ1) (by kernel_rfl) (by kernel_rfl) (fun K hK => ?_) ?_
       ·have cb0 : Wmgijl.cell? ⟨WD.heap.size,0,none⟩ = some (.pointer none):=cell_at hCB
        have cbf : Wmgijl.frozen? ⟨WD.heap.size,0,none⟩ = false:=free_at hCB
        have KN:=kept_set Wmgijl WD.heap.size 0 (.pointer (some ⟨Wmgij.heap.size,0,none⟩))
        have nO:=blk_ne hO hCB (by decide)
        have nC:=blk_ne hC hCB (by decide)
        have nL:=seg_ne hL hCB hPl1
        have nM:=HSB.out _ hBB
        go_simp
        have hCB:=setBlk (i:=0) (u:=.pointer (some ⟨Wmgij.heap.size,0,none⟩)) hCB
        have hO:=(KN.block _ (blk_lt hO) nO).trans hO
        have hC:=(KN.block _ (blk_lt hC) nC).trans hC
        have hL:=seg_kept hL KN nL
        have hH:=ck5.kept hH KN nM
        have HBB:=below_put (u:=.pointer (some ⟨Wmgij.heap.size,0,none⟩)) (i:=0) HBB hBB HBB.size
        refine hK.out _ _ hH (fun _ => ?_)
        clear hK K
        refine wpAnyH_done (by kernel_rfl) ?_ _
        refine NoPanic.normal ?_
        go_wp2_with fail
        go_meet
        exact ⟨_,_,_,_,_,rfl,hCB,hC,hO,hL,by omega,by omega,by omega,by omega,HBB⟩
       exact AllReadyH.nil
      exact AllReadyH.nil
     exact AllReadyH.nil
    exact AllReadyH.nil
   refine ready_at (o:=operQ6) (by kernel_rfl) (by kernel_rfl) (fun K hK => ?_) ?_
   ·go_simp
    refine (body70 P R).mono ?_
    rintro e Wmi ⟨rfl,BN⟩
    have hCB:=blk_later BN hCB
    have hH:=ck5.later hH BN
    have HBB:=HBB.trans (BN.mono HBB.size)
    refine hK.out _ _ hH (fun _ => ?_)
    clear hK K BN
    refine wpAnyH_ready (rs:=[6,9]) (by kernel_rfl) (by simp) ?_
    refine ready_at (o:=operQ5) (by kernel_rfl) (by kernel_rfl) (fun K hK => ?_) ?_
    ·obtain ⟨lc,Wmig,hcv,hseg,BN,hzW⟩:=conv_str Wmi (P ++ lo) hPl
     clear hzW
     go_simp
     clear hcv
     have hL:=hseg
     have hLL : WB.heap.size ≤ Wmi.heap.size:=HBB.size
     have hCB:=blk_later BN hCB
     have hH:=ck5.later hH BN
     have HBB:=HBB.trans (BN.mono HBB.size)
     refine hK.out _ _ hH (fun _ => ?_)
     clear hK K BN
     refine wpAnyH_ready (rs:=[9]) (by kernel_rfl) (by simp) ?_
     refine ready_at (o:=operQ4) (by kernel_rfl) (by kernel_rfl) (fun K hK => ?_) ?_
     ·have BN:=below_new Wmig (oObjQ R)
      have hO:=heap_alloc_new Wmig (oObjQ R)
      have hOO : WB.heap.size ≤ Wmig.heap.size:=HBB.size
      go_simp
      have hCB:=blk_later BN hCB
      have hL:=seg_later hL BN
      have hH:=ck5.later hH BN
      have HBB:=HBB.trans (BN.mono HBB.size)
      refine hK.out _ _ hH (fun _ => ?_)
      clear hK K BN
      generalize Wmig.alloc (oObjQ R) = Wmigj at *
      refine tkA (i:=10) (oi:=operQ2) (d:=some 44) (v:=?_) (by kernel_rfl) (by kernel_rfl) ?_ ?_
      rotate_left
      ·intro w h;(try dsimp only at h);go_simp;try with_reducible rfl
      try simp only [Act.put,sIB,sC0,sCs]
      refine wpAnyH_ready (rs:=[11]) (by kernel_rfl) (by simp) ?_
      refine ready_at (o:=operQ0) (by kernel_rfl) (by kernel_rfl) (fun K hK => ?_) ?_
      ·have BN:=below_new Wmigj (cObjQ m Wmi.heap.size Wmig.heap.size (P.size + lo.size) lc)
       have hC:=heap_alloc_new Wmigj (cObjQ m Wmi.heap.size Wmig.heap.size (P.size + lo.size) lc)
       have hCC : WB.heap.size ≤ Wmigj.heap.size:=HBB.size
       go_simp
       have hO:=blk_later BN hO
       have hCB:=blk_later BN hCB
       have hL:=seg_later hL BN
       have hH:=ck5.later hH BN
       have HBB:=HBB.trans (BN.mono HBB.size)
       refine hK.out _ _ hH (fun _ => ?_)
       clear hK K BN
       generalize Wmigj.alloc (cObjQ m Wmi.heap.size Wmig.heap.size (P.size + lo.size) lc) = Wmigjl at *
       refine wpAnyH_ready (rs:=[13]) (by kernel_rfl) (by simp) ?_
       refine ready_at (o:=operQ1) (by kernel_rfl) (by kernel_rfl) (fun K hK => ?_) ?_
       ·have cb0 : Wmigjl.cell? ⟨WD.heap.size,0,none⟩ = some (.pointer none):=cell_at hCB
        have cbf : Wmigjl.frozen? ⟨WD.heap.size,0,none⟩ = false:=free_at hCB
        have KN:=kept_set Wmigjl WD.heap.size 0 (.pointer (some ⟨Wmigj.heap.size,0,none⟩))
        have nO:=blk_ne hO hCB (by decide)
        have nC:=blk_ne hC hCB (by decide)
        have nL:=seg_ne hL hCB hPl1
        have nM:=HSB.out _ hBB
        go_simp
        have hCB:=setBlk (i:=0) (u:=.pointer (some ⟨Wmigj.heap.size,0,none⟩)) hCB
        have hO:=(KN.block _ (blk_lt hO) nO).trans hO
        have hC:=(KN.block _ (blk_lt hC) nC).trans hC
        have hL:=seg_kept hL KN nL
        have hH:=ck5.kept hH KN nM
        have HBB:=below_put (u:=.pointer (some ⟨Wmigj.heap.size,0,none⟩)) (i:=0) HBB hBB HBB.size
        refine hK.out _ _ hH (fun _ => ?_)
        clear hK K
        refine wpAnyH_done (by kernel_rfl) ?_ _
        refine NoPanic.normal ?_
        go_wp2_with fail
        go_meet
        exact ⟨_,_,_,_,_,rfl,hCB,hC,hO,hL,by omega,by omega,by omega,by omega,HBB⟩
       exact AllReadyH.nil
      exact AllReadyH.nil
     exact AllReadyH.nil
    refine ready_at (o:=operQ4) (by kernel_rfl) (by kernel_rfl) (fun K hK => ?_) ?_
    ·have BN:=below_new Wmi (oObjQ R)
     have hO:=heap_alloc_new Wmi (oObjQ R)
     have hOO : WB.heap.size ≤ Wmi.heap.size:=HBB.size
     go_simp
     have hCB:=blk_later BN hCB
     have hH:=ck5.later hH BN
     have HBB:=HBB.trans (BN.mono HBB.size)
     refine hK.out _ _ hH (fun _ => ?_)
     clear hK K BN
     generalize Wmi.alloc (oObjQ R) = Wmij at *
     refine wpAnyH_ready (rs:=[6]) (by kernel_rfl) (by simp) ?_
     refine ready_at (o:=operQ5) (by kernel_rfl) (by kernel_rfl) (fun K hK => ?_) ?_
     ·obtain ⟨lc,Wmijg,hcv,hseg,BN,hzW⟩:=conv_str Wmij (P ++ lo) hPl
      clear hzW
      go_simp
      clear hcv
      have hL:=hseg
      have hLL : WB.heap.size ≤ Wmij.heap.size:=HBB.size
      have hO:=blk_later BN hO
      have hCB:=blk_later BN hCB
      have hH:=ck5.later hH BN
      have HBB:=HBB.trans (BN.mono HBB.size)
      refine hK.out _ _ hH (fun _ => ?_)
      clear hK K BN
      refine tkA (i:=10) (oi:=operQ2) (d:=some 44) (v:=?_) (by kernel_rfl) (by kernel_rfl) ?_ ?_
      rotate_left
      ·intro w h;(try dsimp only at h);go_simp;try with_reducible rfl
      try simp only [Act.put,sIB,sC0,sCs]
      refine wpAnyH_ready (rs:=[11]) (by kernel_rfl) (by simp) ?_
      refine ready_at (o:=operQ0) (by kernel_rfl) (by kernel_rfl) (fun K hK => ?_) ?_
      ·have BN:=below_new Wmijg (cObjQ m Wmij.heap.size Wmi.heap.size (P.size + lo.size) lc)
       have hC:=heap_alloc_new Wmijg (cObjQ m Wmij.heap.size Wmi.heap.size (P.size + lo.size) lc)
       have hCC : WB.heap.size ≤ Wmijg.heap.size:=HBB.size
       go_simp
       have hO:=blk_later BN hO
       have hCB:=blk_later BN hCB
       have hL:=seg_later hL BN
       have hH:=ck5.later hH BN
       have HBB:=HBB.trans (BN.mono HBB.size)
       refine hK.out _ _ hH (fun _ => ?_)
       clear hK K BN
       generalize Wmijg.alloc (cObjQ m Wmij.heap.size Wmi.heap.size (P.size + lo.size) lc) = Wmijgl at *
       refine wpAnyH_ready (rs:=[13]) (by kernel_rfl) (by simp) ?_
       refine ready_at (o:=operQ1) (by kernel_rfl) (by kernel_rfl) (fun K hK => ?_) ?_
       ·have cb0 : Wmijgl.cell? ⟨WD.heap.size,0,none⟩ = some (.pointer none):=cell_at hCB
        have cbf : Wmijgl.frozen? ⟨WD.heap.size,0,none⟩ = false:=free_at hCB
        have KN:=kept_set Wmijgl WD.heap.size 0 (.pointer (some ⟨Wmijg.heap.size,0,none⟩))
        have nO:=blk_ne hO hCB (by decide)
        have nC:=blk_ne hC hCB (by decide)
        have nL:=seg_ne hL hCB hPl1
        have nM:=HSB.out _ hBB
        go_simp
        have hCB:=setBlk (i:=0) (u:=.pointer (some ⟨Wmijg.heap.size,0,none⟩)) hCB
        have hO:=(KN.block _ (blk_lt hO) nO).trans hO
        have hC:=(KN.block _ (blk_lt hC) nC).trans hC
        have hL:=seg_kept hL KN nL
        have hH:=ck5.kept hH KN nM
        have HBB:=below_put (u:=.pointer (some ⟨Wmijg.heap.size,0,none⟩)) (i:=0) HBB hBB HBB.size
        refine hK.out _ _ hH (fun _ => ?_)
        clear hK K
        refine wpAnyH_done (by kernel_rfl) ?_ _
        refine NoPanic.normal ?_
        go_wp2_with fail
        go_meet
        exact ⟨_,_,_,_,_,rfl,hCB,hC,hO,hL,by omega,by omega,by omega,by omega,HBB⟩
       exact AllReadyH.nil
      exact AllReadyH.nil
     exact AllReadyH.nil
    exact AllReadyH.nil
   exact AllReadyH.nil
  exact AllReadyH.nil
 case rest =>
  obtain ⟨CB,C,L,O0,lc,rfl,hCB,hC,hO,hL,l1,l2,l3,l4,hb⟩:=hcut
  obtain ⟨E2,E3,E4,F2,HBB0⟩:=HX.out
  obtain ⟨hmn,EN,EL,OW,ox1,ox2,oy1,oy2,oy3,oz⟩ : cn = n2 ∧ ∃ EN EL OW,a1 = some ⟨EN,0,none⟩ ∧ a2 = some ⟨EL,0,none⟩ ∧ a3 = some ⟨OW,0,none⟩ ∧ W0.heap.size ≤ EN ∧ W0.heap.size ≤ EL ∧ EN ≠ EL ∧ RI w2 EN cn (enF (opF xs) cn) ∧ RI w2 EL cn (elF (opF xs) cn):=by
   rcases HMO.out with ⟨h,_⟩ | ⟨_,_,rfl,A,B,C',q1,q2,q3,q4,_,_,q5,q6,q7,q8,q9,_⟩
   ·rw [hE] at h; exact absurd rfl h
   ·exact ⟨rfl,A,B,C',q5,q6,q7,q1,q2,q4,q8,q9⟩
  subst hmn ox1 ox2 oy1
  clear HMO
  obtain ⟨WX,hWX⟩ : ∃ W,W = wc:=⟨_,rfl⟩
  subst hWX
  have x11 : WX.cell? ⟨CB,0,none⟩ = some (.pointer (some ⟨C,0,none⟩)):=cell_at hCB
  have y11 : WX.cell? ⟨w.heap.size + 1,2,none⟩ = some (.slice ca cn cc):=(hb.cell (p:=⟨w.heap.size + 1,2,none⟩) (by show w.heap.size + 1 < _; omega)).trans F2
  have hH6 : ck6 CB (w.heap.size + 1) C (.slice ca cn cc) WX:=⟨x11,y11⟩
  have HCX:=hid (show C < WX.heap.size from blk_lt hC)
  have HNX:=hid (show CB ≠ C ∧ w.heap.size + 1 ≠ C from ⟨blk_ne hCB hC (by decide),by omega⟩)
  have HHC:=hid hC
  have H5:=hid (And.intro E2 (And.intro E3 (And.intro E4 (And.intro F2 (And.intro HBB0 (And.intro hCB (And.intro hO (And.intro hL hb))))))))
  clear E2 E3 E4 F2 HBB0 hO hL hb x11 y11 HX hCB hC
  go_wp2_with fail
  go_cut [] from 46 to 59 (fun W => ∃ SH FL,WX.heap.size ≤ SH ∧ WX.heap.size ≤ FL ∧ SH ≠ FL ∧ W.heap[SH]? = some (.cells (madeCells #[.string ⟨#[]⟩] cn) 9) ∧ W.heap[FL]? = some (.cells (madeCells #[.int .i64 0] cn) 3) ∧ W.heap[C]? = some (.cells #[.slice m.ta m.tn m.tc,.slice m.ha m.hn m.hc,.slice m.ga m.gn m.gc,.int .i64 m.fi,.int .i64 m.mo,.slice m.fa m.fn m.fc,.slice m.da m.dn m.dc,.slice m.ea m.en m.ec,.slice (some ⟨L,0,none⟩) (P.size + lo.size) lc,.slice (some ⟨SH,0,none⟩) cn cn,.slice (some ⟨EN,0,none⟩) cn cn,.slice (some ⟨EL,0,none⟩) cn cn,.slice (some ⟨FL,0,none⟩) cn cn,.int .i64 0,.slice (some ⟨O0,0,none⟩) 1 1,.string ⟨#[]⟩,.int .i64 0,.bool false] 120) ∧ Kept (fun k => k = C) WX W)
  case first =>
   have hm1:=run_make_row' (P:=Tryz.prog) 72 9 (.string ⟨#[]⟩) 16 Tryz.underlying72 Tryz.infStr rfl .i64 .i64 cn (by omega) (by omega)
   have hm2:=run_make_row' (P:=Tryz.prog) 23 3 (.int .i64 0) 8 Tryz.underlying23 Tryz.infInts rfl .i64 .i64 cn (by omega) (by omega)
   have hC:=HHC.out
   have HBX : Below WX.heap.size WX WX.drew:=(Below.refl _ _).drew
   have hH : ck6 CB (w.heap.size + 1) C (.slice ca cn cc) WX.drew:=hH6
   have hC : WX.drew.heap[C]? = _:=hC
   refine wp_region_noPanic ?_
   refine wp_region_held_drew (S:=ck6 CB (w.heap.size + 1) C (.slice ca cn cc)) (by kernel_rfl) hH (fun hHeld => ?_)
   generalize WX.drew = WD at *
   refine tkA (i:=0) (oi:={ dst:=some 46,op:=.load 113 (.tmp 11),type:=113,pos:= "checker.go:28",after:=#[],guard:=none }) (d:=some 46) (v:=?_) (by kernel_rfl) (by kernel_rfl) ?_ ?_
   rotate_left
   ·intro w h;(try dsimp only at h);go_simp;try with_reducible rfl
   try simp only [Act.put,sIB,sC0,sCs]
   refine tkA (i:=1) (oi:={ dst:=some 47,op:=.fieldAddr 61 (.tmp 3) 2,type:=0,pos:= "checker.go:28",after:=#[],guard:=none }) (d:=some 47) (v:=?_) (by kernel_rfl) (by kernel_rfl) ?_ ?_
   rotate_left
   ·intro w h;(try dsimp only at h);go_simp;try with_reducible rfl
   try simp only [Act.put,sIB,sC0,sCs]
   refine tkA (i:=2) (oi:={ dst:=some 48,op:=.load 59 (.tmp 47),type:=59,pos:= "checker.go:28",after:=#[⟨1,.data⟩],guard:=none }) (d:=some 48) (v:=?_) (by kernel_rfl) (by kernel_rfl) ?_ ?_
   rotate_left
   ·intro w h;(try dsimp only at h);go_simp;try with_reducible rfl
   try simp only [Act.put,sIB,sC0,sCs]
   refine tkA (i:=3) (oi:={ dst:=some 49,op:=.call { callee:=.builtin Go.Builtin.len,args:=#[.tmp 48],argTypes:=#[59] },type:=3,pos:= "checker.go:28",after:=#[⟨2,.data⟩],guard:=none }) (d:=some 49) (v:=?_) (by kernel_rfl) (by kernel_rfl) ?_ ?_
   rotate_left
   ·intro w h;(try dsimp only at h);go_simp;try with_reducible rfl
   try simp only [Act.put,sIB,sC0,sCs]
   refine tkA (i:=5) (oi:={ dst:=some 51,op:=.move (.tmp 7),type:=23,pos:= "checker.go:28",after:=#[],guard:=none }) (d:=some 51) (v:=?_) (by kernel_rfl) (by kernel_rfl) ?_ ?_
   rotate_left
   ·intro w h;(try dsimp only at h);go_simp;try with_reducible rfl
   try simp only [Act.put,sIB,sC0,sCs]
   refine tkA (i:=6) (oi:={ dst:=some 52,op:=.move (.tmp 8),type:=23,pos:= "checker.go:28",after:=#[],guard:=none }) (d:=some 52) (v:=?_) (by kernel_rfl) (by kernel_rfl) ?_ ?_
   rotate_left
   ·intro w h;(try dsimp only at h);go_simp;try with_reducible rfl
   try simp only [Act.put,sIB,sC0,sCs]
   refine tkA (i:=7) (oi:={ dst:=some 53,op:=.fieldAddr 61 (.tmp 3) 2,type:=0,pos:= "checker.go:28",after:=#[],guard:=none }) (d:=some 53) (v:=?_) (by kernel_rfl) (by kernel_rfl) ?_ ?_
   rotate_left
   ·intro w h;(try dsimp only at h);go_simp;try with_reducible rfl
   try simp only [Act.put,sIB,sC0,sCs]
   refine tkA (i:=8) (oi:={ dst:=some 54,op:=.load 59 (.tmp 53),type:=59,pos:= "checker.go:28",after:=#[⟨7,.data⟩],guard:=none }) (d:=some 54) (v:=?_) (by kernel_rfl) (by kernel_rfl) ?_ ?_
   rotate_left
   ·intro w h;(try dsimp only at h);go_simp;try with_reducible rfl
   try simp only [Act.put,sIB,sC0,sCs]
   refine tkA (i:=9) (oi:={ dst:=some 55,op:=.call { callee:=.builtin Go.Builtin.len,args:=#[.tmp 54],argTypes:=#[59] },type:=3,pos:= "checker.go:28",after:=#[⟨8,.data⟩],guard:=none }) (d:=some 55) (v:=?_) (by kernel_rfl) (by kernel_rfl) ?_ ?_
   rotate_left
   ·intro w h;(try dsimp only at h);go_simp;try with_reducible rfl
   try simp only [Act.put,sIB,sC0,sCs]
   refine wpAnyH_ready (rs:=[4,10]) (by kernel_rfl) (by simp) ?_
   refine ready_at (o:={ dst:=some 50,op:=.makeSlice 72 (.tmp 49) (.tmp 49),type:=72,pos:= "checker.go:28",after:=#[⟨3,.data⟩,⟨3,.data⟩],guard:=none }) (by kernel_rfl) (by kernel_rfl) (fun K hK => ?_) ?_
   ·have BN:=below_new WD (.cells (madeCells #[.string ⟨#[]⟩] cn) 9)
    have hSH:=heap_alloc_new WD (.cells (madeCells #[.string ⟨#[]⟩] cn) 9)
    have hSHl : WX.heap.size ≤ WD.heap.size:=HBX.size
    have hm:=hm1 WD
    go_simp
    clear hm
    have hC:=blk_later BN hC
    have hH:=ck6.later hH BN
    have HBX:=HBX.trans (BN.mono HBX.size)
    refine hK.out _ _ hH (fun _ => ?_)
    clear hK K BN
    generalize WD.alloc (.cells (madeCells #[.string ⟨#[]⟩] cn) 9) = WA at *
    refine wpAnyH_ready (rs:=[10]) (by kernel_rfl) (by simp) ?_
    refine ready_at (o:={ dst:=some 56,op:=.makeSlice 23 (.tmp 55) (.tmp 55),type:=23,pos:= "checker.go:28",after:=#[⟨9,.data⟩,⟨9,.data⟩],guard:=none }) (by kernel_rfl) (by kernel_rfl) (fun K hK => ?_) ?_
    ·have BN:=below_new WA (.cells (madeCells #[.int .i64 0] cn) 3)
     have hFL:=heap_alloc_new WA (.cells (madeCells #[.int .i64 0] cn) 3)
     have hFLl : WX.heap.size ≤ WA.heap.size:=HBX.size
     have hm:=hm2 WA
     go_simp
     clear hm
     have hne : WD.heap.size ≠ WA.heap.size:=by have:=blk_lt hSH; omega
     have hSH:=blk_later BN hSH
     have hC:=blk_later BN hC
     have hH:=ck6.later hH BN
     have HBX:=HBX.trans (BN.mono HBX.size)
     refine hK.out _ _ hH (fun _ => ?_)
     clear hK K BN
     generalize WA.alloc (.cells (madeCells #[.int .i64 0] cn) 3) = WE at *
     refine tkA (i:=11) (oi:={ dst:=some 57,op:=.build 74 #[(0,.tmp 50),(1,.tmp 51),(2,.tmp 52),(3,.tmp 56)],type:=74,pos:= "checker.go:28",after:=#[⟨4,.data⟩,⟨5,.data⟩,⟨6,.data⟩,⟨10,.data⟩],guard:=none }) (d:=some 57) (v:=?_) (by kernel_rfl) (by kernel_rfl) ?_ ?_
     rotate_left
     ·intro w h;(try dsimp only at h);go_simp;try with_reducible rfl
     try simp only [Act.put,sIB,sC0,sCs]
     refine tkA (i:=12) (oi:={ dst:=some 58,op:=.nilCheck (.tmp 46),type:=0,pos:= "checker.go:28",after:=#[⟨0,.data⟩,⟨0,.phase⟩,⟨1,.phase⟩,⟨2,.phase⟩,⟨3,.phase⟩,⟨4,.phase⟩,⟨5,.phase⟩,⟨6,.phase⟩,⟨7,.phase⟩,⟨8,.phase⟩,⟨9,.phase⟩,⟨10,.phase⟩,⟨11,.phase⟩],guard:=none }) (d:=some 58) (v:=?_) (by kernel_rfl) (by kernel_rfl) ?_ ?_
     rotate_left
     ·intro w h;(try dsimp only at h);go_simp;try with_reducible rfl
     try simp only [Act.put,sIB,sC0,sCs]
     refine tkA (i:=13) (oi:={ dst:=some 59,op:=.fieldAddr 120 (.tmp 58) 2,type:=0,pos:= "checker.go:28",after:=#[⟨12,.data⟩,⟨0,.phase⟩,⟨1,.phase⟩,⟨2,.phase⟩,⟨3,.phase⟩,⟨4,.phase⟩,⟨5,.phase⟩,⟨6,.phase⟩,⟨7,.phase⟩,⟨8,.phase⟩,⟨9,.phase⟩,⟨10,.phase⟩,⟨11,.phase⟩],guard:=none }) (d:=some 59) (v:=?_) (by kernel_rfl) (by kernel_rfl) ?_ ?_
     rotate_left
     ·intro w h;(try dsimp only at h);go_simp;try with_reducible rfl
     try simp only [Act.put,sIB,sC0,sCs]
     refine wpAnyH_ready (rs:=[14]) (by kernel_rfl) (by simp) ?_
     refine ready_at (o:={ dst:=none,op:=.store 74 (.tmp 59) (.tmp 57),type:=0,pos:= "checker.go:28",after:=#[⟨13,.data⟩,⟨11,.data⟩,⟨0,.phase⟩,⟨1,.phase⟩,⟨2,.phase⟩,⟨3,.phase⟩,⟨4,.phase⟩,⟨5,.phase⟩,⟨6,.phase⟩,⟨7,.phase⟩,⟨8,.phase⟩,⟨9,.phase⟩,⟨10,.phase⟩,⟨11,.phase⟩],guard:=none }) (by kernel_rfl) (by kernel_rfl) (fun K hK => ?_) ?_
     ·have K5:=set5C WE C (.slice (some ⟨WD.heap.size,0,none⟩) cn cn) (.slice (some ⟨EN,0,none⟩) cn cn) (.slice (some ⟨EL,0,none⟩) cn cn) (.slice (some ⟨WA.heap.size,0,none⟩) cn cn) (.int .i64 0)
      have c0 : WE.cell? ⟨C,9,none⟩ = some (.slice none 0 0):=cell_at hC
      have f0 : WE.frozen? ⟨C,9,none⟩ = false:=free_at hC
      have c1 : WE.cell? ⟨C,10,none⟩ = some (.slice none 0 0):=cell_at hC
      have f1 : WE.frozen? ⟨C,10,none⟩ = false:=free_at hC
      have c2 : WE.cell? ⟨C,11,none⟩ = some (.slice none 0 0):=cell_at hC
      have f2 : WE.frozen? ⟨C,11,none⟩ = false:=free_at hC
      have c3 : WE.cell? ⟨C,12,none⟩ = some (.slice none 0 0):=cell_at hC
      have f3 : WE.frozen? ⟨C,12,none⟩ = false:=free_at hC
      have c4 : WE.cell? ⟨C,13,none⟩ = some (.int .i64 0):=cell_at hC
      have f4 : WE.frozen? ⟨C,13,none⟩ = false:=free_at hC
      go_simp
      have hC2:=setBlk (i:=13) (u:=.int .i64 0) (setBlk (i:=12) (u:=.slice (some ⟨WA.heap.size,0,none⟩) cn cn) (setBlk (i:=11) (u:=.slice (some ⟨EL,0,none⟩) cn cn) (setBlk (i:=10) (u:=.slice (some ⟨EN,0,none⟩) cn cn) (setBlk (i:=9) (u:=.slice (some ⟨WD.heap.size,0,none⟩) cn cn) hC))))
      have nS : WD.heap.size ≠ C:=fun e => by have:=HCX.out; omega
      have nF : WA.heap.size ≠ C:=fun e => by have:=HCX.out; omega
      have hSH2:=(K5.block _ (blk_lt hSH) nS).trans hSH
      have hFL2:=(K5.block _ (blk_lt hFL) nF).trans hFL
      have hH2:=ck6.kept hH K5 HNX.out
      have HK2:=(kept_of HBX).then K5 (fun k hk h => h)
      refine hK.out _ _ hH2 (fun _ => ?_)
      clear hK K
      refine wpAnyH_done (by kernel_rfl) ?_ _
      refine NoPanic.normal ?_
      go_wp2_with fail
      go_meet
      exact ⟨_,_,hSHl,hFLl,hne,hSH2,hFL2,hC2,HK2⟩
     exact AllReadyH.nil
    exact AllReadyH.nil
   refine ready_at (o:={ dst:=some 56,op:=.makeSlice 23 (.tmp 55) (.tmp 55),type:=23,pos:= "checker.go:28",after:=#[⟨9,.data⟩,⟨9,.data⟩],guard:=none }) (by kernel_rfl) (by kernel_rfl) (fun K hK => ?_) ?_
   ·have BN:=below_new WD (.cells (madeCells #[.int .i64 0] cn) 3)
    have hFL:=heap_alloc_new WD (.cells (madeCells #[.int .i64 0] cn) 3)
    have hFLl : WX.heap.size ≤ WD.heap.size:=HBX.size
    have hm:=hm2 WD
    go_simp
    clear hm
    have hC:=blk_later BN hC
    have hH:=ck6.later hH BN
    have HBX:=HBX.trans (BN.mono HBX.size)
    refine hK.out _ _ hH (fun _ => ?_)
    clear hK K BN
    generalize WD.alloc (.cells (madeCells #[.int .i64 0] cn) 3) = WA at *
    refine wpAnyH_ready (rs:=[4]) (by kernel_rfl) (by simp) ?_
    refine ready_at (o:={ dst:=some 50,op:=.makeSlice 72 (.tmp 49) (.tmp 49),type:=72,pos:= "checker.go:28",after:=#[⟨3,.data⟩,⟨3,.data⟩],guard:=none }) (by kernel_rfl) (by kernel_rfl) (fun K hK => ?_) ?_
    ·have BN:=below_new WA (.cells (madeCells #[.string ⟨#[]⟩] cn) 9)
     have hSH:=heap_alloc_new WA (.cells (madeCells #[.string ⟨#[]⟩] cn) 9)
     have hSHl : WX.heap.size ≤ WA.heap.size:=HBX.size
     have hm:=hm1 WA
     go_simp
     clear hm
     have hne : WA.heap.size ≠ WD.heap.size:=by have:=blk_lt hFL; omega
     have hFL:=blk_later BN hFL
     have hC:=blk_later BN hC
     have hH:=ck6.later hH BN
     have HBX:=HBX.trans (BN.mono HBX.size)
     refine hK.out _ _ hH (fun _ => ?_)
     clear hK K BN
     generalize WA.alloc (.cells (madeCells #[.string ⟨#[]⟩] cn) 9) = WE at *
     refine tkA (i:=11) (oi:={ dst:=some 57,op:=.build 74 #[(0,.tmp 50),(1,.tmp 51),(2,.tmp 52),(3,.tmp 56)],type:=74,pos:= "checker.go:28",after:=#[⟨4,.data⟩,⟨5,.data⟩,⟨6,.data⟩,⟨10,.data⟩],guard:=none }) (d:=some 57) (v:=?_) (by kernel_rfl) (by kernel_rfl) ?_ ?_
     rotate_left
     ·intro w h;(try dsimp only at h);go_simp;try with_reducible rfl
     try simp only [Act.put,sIB,sC0,sCs]
     refine tkA (i:=12) (oi:={ dst:=some 58,op:=.nilCheck (.tmp 46),type:=0,pos:= "checker.go:28",after:=#[⟨0,.data⟩,⟨0,.phase⟩,⟨1,.phase⟩,⟨2,.phase⟩,⟨3,.phase⟩,⟨4,.phase⟩,⟨5,.phase⟩,⟨6,.phase⟩,⟨7,.phase⟩,⟨8,.phase⟩,⟨9,.phase⟩,⟨10,.phase⟩,⟨11,.phase⟩],guard:=none }) (d:=some 58) (v:=?_) (by kernel_rfl) (by kernel_rfl) ?_ ?_
     rotate_left
     ·intro w h;(try dsimp only at h);go_simp;try with_reducible rfl
     try simp only [Act.put,sIB,sC0,sCs]
     refine tkA (i:=13) (oi:={ dst:=some 59,op:=.fieldAddr 120 (.tmp 58) 2,type:=0,pos:= "checker.go:28",after:=#[⟨12,.data⟩,⟨0,.phase⟩,⟨1,.phase⟩,⟨2,.phase⟩,⟨3,.phase⟩,⟨4,.phase⟩,⟨5,.phase⟩,⟨6,.phase⟩,⟨7,.phase⟩,⟨8,.phase⟩,⟨9,.phase⟩,⟨10,.phase⟩,⟨11,.phase⟩],guard:=none }) (d:=some 59) (v:=?_) (by kernel_rfl) (by kernel_rfl) ?_ ?_
     rotate_left
     ·intro w h;(try dsimp only at h);go_simp;try with_reducible rfl
     try simp only [Act.put,sIB,sC0,sCs]
     refine wpAnyH_ready (rs:=[14]) (by kernel_rfl) (by simp) ?_
     refine ready_at (o:={ dst:=none,op:=.store 74 (.tmp 59) (.tmp 57),type:=0,pos:= "checker.go:28",after:=#[⟨13,.data⟩,⟨11,.data⟩,⟨0,.phase⟩,⟨1,.phase⟩,⟨2,.phase⟩,⟨3,.phase⟩,⟨4,.phase⟩,⟨5,.phase⟩,⟨6,.phase⟩,⟨7,.phase⟩,⟨8,.phase⟩,⟨9,.phase⟩,⟨10,.phase⟩,⟨11,.phase⟩],guard:=none }) (by kernel_rfl) (by kernel_rfl) (fun K hK => ?_) ?_
     ·have K5:=set5C WE C (.slice (some ⟨WA.heap.size,0,none⟩) cn cn) (.slice (some ⟨EN,0,none⟩) cn cn) (.slice (some ⟨EL,0,none⟩) cn cn) (.slice (some ⟨WD.heap.size,0,none⟩) cn cn) (.int .i64 0)
      have c0 : WE.cell? ⟨C,9,none⟩ = some (.slice none 0 0):=cell_at hC
      have f0 : WE.frozen? ⟨C,9,none⟩ = false:=free_at hC
      have c1 : WE.cell? ⟨C,10,none⟩ = some (.slice none 0 0):=cell_at hC
      have f1 : WE.frozen? ⟨C,10,none⟩ = false:=free_at hC
      have c2 : WE.cell? ⟨C,11,none⟩ = some (.slice none 0 0):=cell_at hC
      have f2 : WE.frozen? ⟨C,11,none⟩ = false:=free_at hC
      have c3 : WE.cell? ⟨C,12,none⟩ = some (.slice none 0 0):=cell_at hC
      have f3 : WE.frozen? ⟨C,12,none⟩ = false:=free_at hC
      have c4 : WE.cell? ⟨C,13,none⟩ = some (.int .i64 0):=cell_at hC
      have f4 : WE.frozen? ⟨C,13,none⟩ = false:=free_at hC
      go_simp
      have hC2:=setBlk (i:=13) (u:=.int .i64 0) (setBlk (i:=12) (u:=.slice (some ⟨WD.heap.size,0,none⟩) cn cn) (setBlk (i:=11) (u:=.slice (some ⟨EL,0,none⟩) cn cn) (setBlk (i:=10) (u:=.slice (some ⟨EN,0,none⟩) cn cn) (setBlk (i:=9) (u:=.slice (some ⟨WA.heap.size,0,none⟩) cn cn) hC))))
      have nS : WA.heap.size ≠ C:=fun e => by have:=HCX.out; omega
      have nF : WD.heap.size ≠ C:=fun e => by have:=HCX.out; omega
      have hSH2:=(K5.block _ (blk_lt hSH) nS).trans hSH
      have hFL2:=(K5.block _ (blk_lt hFL) nF).trans hFL
      have hH2:=ck6.kept hH K5 HNX.out
      have HK2:=(kept_of HBX).then K5 (fun k hk h => h)
      refine hK.out _ _ hH2 (fun _ => ?_)
      clear hK K
      refine wpAnyH_done (by kernel_rfl) ?_ _
      refine NoPanic.normal ?_
      go_wp2_with fail
      go_meet
      exact ⟨_,_,hSHl,hFLl,hne,hSH2,hFL2,hC2,HK2⟩
     exact AllReadyH.nil
    exact AllReadyH.nil
   exact AllReadyH.nil
  case rest =>
   obtain ⟨SH,FL,s1,s2,s3,hSH,hFL,hC,hk6⟩:=hcut
   obtain ⟨W1,hW1⟩ : ∃ W,W = wc:=⟨_,rfl⟩
   subst hW1
   obtain ⟨E2,E3,E4,F2,HBB0,hCB,hO,hL,hb⟩:=H5.out
   have hX1 : Below w.heap.size w WX:=HBB0.trans (hb.mono HBB0.size)
   have hBW : Below w.heap.size w W1:=hX1.trans (hk6.to_below (B:=w.heap.size) hX1.size (fun k hk h => by have : k = C:=h; omega))
   have T2:=(hk6.block _ (blk_lt (blk_later hb E2)) (by omega)).trans (blk_later hb E2)
   have T3:=(hk6.block _ (blk_lt (blk_later hb E3)) (by omega)).trans (blk_later hb E3)
   have T4:=(hk6.block _ (blk_lt (blk_later hb E4)) (by omega)).trans (blk_later hb E4)
   have hCB1:=(hk6.block _ (blk_lt hCB) HNX.out.1).trans hCB
   have nOC:=blk_ne hO HHC.out (by decide)
   have hO1:=(hk6.block _ (blk_lt hO) nOC).trans hO
   have nLC:=seg_nb hL (cell_at HHC.out) (fun z h => by cases h)
   have nLO:=seg_nb hL (cell_at hO) (fun z h => by cases h)
   have hL1:=seg_kept hL hk6 nLC
   have hbO:=blk_lt hO
   have hbCB:=blk_lt hCB
   have nBO:=blk_ne hCB hO (by decide)
   obtain ⟨v,hv⟩ : ∃ v : Ev,v = ⟨C,SH,FL,O0,EN,EL,cn,mV m,.slice (some ⟨L,0,none⟩) (P.size + lo.size) lc⟩:=⟨_,rfl⟩
   have hCI : CI v W1 W1 (cs0 R cn):=by rw [hv]; exact ci_0 hC hO1 hSH hFL (by omega)
   have hz1:=hk6.size
   have hA : EvA v W1:=by
    rw [hv]
    exact ⟨blk_lt hC,blk_lt hO1,blk_lt hSH,blk_lt hFL,by show C ≠ SH; have:=HCX.out; omega,by show C ≠ FL; have:=HCX.out; omega,fun e => nOC e.symm,s3,by show SH ≠ O0; omega,by show FL ≠ O0; omega⟩
   have hVS : ∀ k,v.S k → WB.heap.size ≤ k:=by
    intro k hk
    rw [hv] at hk
    have:=hb.size
    rcases hk with h | h | h | h <;> (simp only at h; omega)
   have nLL:=seg_lt hL
   have hzL : (strBytes (P ++ lo)).length = (P ++ lo).size:=strBytes_len _
   have hLS : (strBytes (P ++ lo)).length = 0 ∨ ¬ v.S L:=by
    rw [hzL]
    by_cases h0 : (P ++ lo).size = 0
    ·exact .inl h0
    ·right
     have n1:=nLC.resolve_left h0
     have n2:=nLO.resolve_left h0
     have n3:=nLL.resolve_left h0
     rw [hv]
     rintro (h | h | h | h) <;> (simp only at h; omega)
   have hM : EvM v W1 m (strBytes (P ++ lo)):=HEW.out.evm hBW (fun k hk => by have:=hVS k hk; have:=HBB0.size; omega) (by rw [hv]) (L:=L) (lc:=lc) (by rw [hv,hzL,ByteArray.size_append]) (by have:=HBB0.size; omega) hLS (by rw [hzL,ByteArray.size_append]; exact hP64) (seg_get hL1) HLL.out
   have hcn : 0 < cn:=HGD.out.1
   obtain ⟨cb,coff,hca,hcd⟩ : ∃ b off,ca = some ⟨b,off,none⟩ ∧ Cod w b off cn xs:=HCD.out.2.resolve_left (by omega)
   subst hca
   have hcd1 : Cod W1 cb coff cn xs:=hcd.later hBW (Nat.le_refl _)
   have hcb : cb < w.heap.size:=hcd.lt hcn
   have q2 : W1.cell? ⟨w.heap.size + 1,2,none⟩ = some (.slice (some ⟨cb,coff,none⟩) cn cc):=hk6.cell hH6.2 HNX.out.2
   have x1 : W1.cell? ⟨CB,0,none⟩ = some (.pointer (some ⟨C,0,none⟩)):=cell_at hCB1
   have nVO : ∀ k,k < WB.heap.size → ¬ v.S k:=fun k hk h => by have:=hVS k h; omega
   have nVB : ¬ v.S CB:=by
    have:=HNX.out.1
    rw [hv]
    rintro (h | h | h | h) <;> (simp only at h; omega)
   have kS : ∀ b,W0.heap.size ≤ b → b < w2.heap.size → ∀ f,RI w2 b cn f → RI W1 b cn f:=fun b h1 h2 f h => ((h.kept HKB.out (by show ¬ (b = _ ∨ b = _); omega)).kept (kept_of (S:=fun _ => False) hb) id).kept hk6 (by show ¬ (b = C); omega)
   have rEN:=kS EN oy2 oz.2.1.lt _ oz.2.1
   have rEL:=kS EL oy3 oz.2.2.lt _ oz.2.2
   have nEL : ¬ v.S EL:=nVO EL (by have:=oz.2.2.lt; omega)
   have nEN : ¬ v.S EN:=nVO EN (by have:=oz.2.1.lt; omega)
   have hmf : ∀ (fn : Fn) (first cap : Array Value) (w : World),(Instr.makeFunc fn first cap).run Tryz.prog w = .ok (.func fn first cap) w:=fun _ _ _ _ => rfl
   have HV:=hid hv
   have nVt : ∀ i,i ≤ 4 → ¬ v.S (w.heap.size + i):=fun i hi => nVO _ (by omega)
   have ZZ:=hid (And.intro hBW (And.intro T2 (And.intro T3 (And.intro T4 (And.intro x1 (And.intro nVB (And.intro rEN (And.intro rEL (And.intro nEL (And.intro nEN (And.intro nVt (And.intro (nVO cb (by omega)) (And.intro hA (And.intro hM hcb))))))))))))))
   have HCC:=hid hcd1
   have HCW:=hid hcd
   have HNV:=hid (show ∀ k,k < w.heap.size → ¬ v.S k from fun k hk => nVO k (by omega))
   have HCI:=hid hCI
   have HTN:=hid (show v.n = cn ∧ v.C = C ∧ v.EL = EL ∧ v.EN = EN ∧ v.SH = SH ∧ v.FL = FL from by rw [hv]; exact ⟨rfl,rfl,rfl,rfl,rfl,rfl⟩)
   have HBD:=hid (show w.heap.size + 5 ≤ SH ∧ w.heap.size + 5 ≤ FL ∧ SH ≠ FL ∧ w.heap.size + 5 ≤ EN ∧ w.heap.size + 5 ≤ EL ∧ EN ≠ EL ∧ EN < W1.heap.size ∧ EL < W1.heap.size ∧ EN ≠ FL ∧ EL ≠ FL ∧ CB < W1.heap.size ∧ w.heap.size + 5 ≤ CB ∧ w.heap.size + 5 ≤ C from by have:=oz.2.1.lt; have:=oz.2.2.lt; have:=hb.size; have:=hX1.size; exact ⟨by omega,by omega,s3,by omega,by omega,oz.1,by omega,by omega,by omega,by omega,by omega,by omega,by omega⟩)
   clear hBW T2 T3 T4 x1 nVB rEN rEL nEL nEN nVt hA hM hcd hcd1 hCI kS nVO hVS hLS nLL nLC nLO hL hL1 hC hO hO1 hSH hFL hCB hCB1 E2 E3 E4 F2 HBB0 hb hk6 H5 hH6 HHC HNX HCX hX1 oz oy2 oy3 l1 l2 l3 l4 s1 s2 s3 nOC nBO hbO hbCB hzL HEW HLL HCD hz1 hv HKB HKA hH0 e3 g3 e4 g4 HB pt htn
   go_wp2_with fail
   go_loopw [64] (fun i wr => ∃ j : Nat,j ≤ cn ∧ i = .int .i64 j ∧ (∀ q,q < j → erA m (strBytes (P ++ lo)) xs R cn q = 0) ∧ (j < cn → Iv3 (opF xs) cn j (stA m (strBytes (P ++ lo)) xs R cn j)) ∧ CI v W1 wr (stA m (strBytes (P ++ lo)) xs R cn j)) (fun i _ => cn - (intOf i).toNat)
   case atStart => exact ⟨0,Nat.zero_le _,rfl,fun q h => absurd h (Nat.not_lt_zero _),fun h => iv_0 hR8 h,HCI.out⟩
   case round =>
    obtain ⟨j,hj,rfl,hz0,hiv,hci⟩:=hrel
    obtain ⟨hBW,T2,T3,T4,x1,nVB,rEN,rEL,nEL,nEN,nVt,ncb,hA,hM,hcb⟩:=ZZ.out
    obtain ⟨tn,tC,tEL,tEN,tSH,tFL⟩:=HTN.out
    have hsz:=hci.kept.size
    by_cases hlt : j < cn
    ·have hin:=HCC.out.2 j hlt
     have i0:=hci.kept.cell hin.1 ncb
     have i1:=hci.kept.cell hin.2.1 ncb
     have i2:=hci.kept.cell hin.2.2.1 ncb
     have b1:=hci.kept.cell x1 nVB
     have HVA:=hid (fun (W : World) (hW : CI v W1 W (atPc (stA m (strBytes (P ++ lo)) xs R cn j) j)) => visA hA hM tn (by omega) HGD.out hlt (hiv hlt) hW hin.2.2.2.1 hin.2.2.2.2.1 (fun h => ⟨hin.2.2.2.2.2.2.2.2 (HBR.out j hlt).1,(HBR.out j hlt).2 h⟩)
      (fun b off hla hln => by
       rcases ((HCW.out.2 j hlt).2.2.2.2.2.2.2.2 (HBR.out j hlt).1).2.2.2.2 with h0 | ⟨b',off',e,hcc⟩
       ·exact absurd h0 hln
       ·rw [hla] at e; cases e
        exact HNV.out _ (block_lt_of_cell (hcc 0 (by omega)))) (by rw [tEL]; exact rEL) (by rw [tEL]; exact nEL))
     have HI2:=hid (fun (he : erA m (strBytes (P ++ lo)) xs R cn j = 0) (h : j + 1 < cn) => iv_next hM HGD.out hin.2.2.2.1 hin.2.2.2.2.1 h (hiv hlt) he)
     rw [tC] at HVA
     have c16:=hci.pc
     have f16:=hci.free 16
     rw [tC] at c16 f16
     have hj0 : (0 : Int) ≤ (j : Int):=by omega
     have hj1 : (j : Int) < (cn : Int):=by omega
     have HCI2:=hid hci
     have HZ0:=hid hz0
     have hCBl : CB < wr.heap.size:=by have:=HBD.out; omega
     have hCl : C < wr.heap.size:=block_lt_of_cell c16
     have hcbl : cb < wr.heap.size:=by have:=HBD.out; omega
     clear hBW T2 T3 T4 x1 nVB rEN rEL nEL nEN nVt ncb hA hM hiv hci hz0 hin
     generalize hEq : erA m (strBytes (P ++ lo)) xs R cn j = E at *
     generalize hSq : stA m (strBytes (P ++ lo)) xs R cn (j + 1) = S' at *
     generalize (stA m (strBytes (P ++ lo)) xs R cn j).pc = pc0 at *
     generalize xs.getD j dx = x at *
     have HES:=hid (And.intro hEq hSq)
     clear hEq hSq
     go_wp2_with fail
     have hA:=ZZ.out.2.2.2.2.2.2.2.2.2.2.2.2.1
     have hW3:=(HCI2.out.putPc hA j).later hA (below_new _ (.cells #[.int .u8 x.c,.int .i64 x.a,.slice x.la x.ln x.lc] 82))
     rw [tC] at hW3
     refine (HVA.out _ hW3).mono ?_
     rintro e w3 (⟨hE0,rfl,hci3⟩ | ⟨hE1,rfl,hbad⟩)
     ·have HC3:=hid hci3
      have HE0:=hid hE0
      clear hci3 hE0 hW3 i0 i1 i2 b1 c16 f16 HVA hA
      go_wp2_with fail
      obtain ⟨hEq,hSq⟩:=HES.out
      exact ⟨⟨j + 1,by omega,by go_num,fun q hq => by
       by_cases hqj : q = j
       ·rw [hqj,hEq]; exact HE0.out
       ·exact HZ0.out q (by omega),fun h => by rw [hSq]; exact HI2.out HE0.out h,by rw [hSq]; exact HC3.out⟩,by simp [intOf]; omega⟩
     ·obtain ⟨hBW,T2,T3,T4,x1,nVB,rEN,rEL,nEL,nEN,nVt,ncb,hA,hM,hcb⟩:=ZZ.out
      obtain ⟨hEq,hSq⟩:=HES.out
      have hq1:=hbad.kept.cell x1 nVB
      have hp1:=hbad.pc
      rw [tC] at hp1
      have t2:=(hbad.kept.block _ (blk_lt T2) (nVt 2 (by omega))).trans T2
      have t3:=(hbad.kept.block _ (blk_lt T3) (nVt 3 (by omega))).trans T3
      have t4:=(hbad.kept.block _ (blk_lt T4) (nVt 4 (by omega))).trans T4
      have hbd:=HBD.out
      have HC:=hid (catch71 (w:=w3) E hE1 hq1 hp1 t2 t3 t4 (by omega) (by omega) (by omega) (by omega) (by omega) (by omega) (by omega) (by omega) (by omega))
      have hB3 : Below w.heap.size w w3:=hBW.trans (hbad.kept.to_below (B:=w.heap.size) hBW.size (fun k hk h => HNV.out k hk h))
      refine leaves_cons (f:=61) (args:=#[.pointer (some ⟨CB,0,none⟩),.pointer (some ⟨w.heap.size + 1 + 1,0,none⟩),.pointer (some ⟨w.heap.size + 1 + 1 + 1,0,none⟩),.pointer (some ⟨w.heap.size + 1 + 1 + 1 + 1,0,none⟩)]) (by simp) (by simp [go_sem]) ?_
      refine HC.out.mono ?_
      rintro e u' w10 ⟨rfl,rfl,q1,q2,q3,q4⟩
      have hB10 : Below w.heap.size w w10:=hB3.trans (q4.to_below (B:=w.heap.size) hB3.size (fun k hk h => by omega))
      refine (show Go.Leaves Tryz.prog Tryz.f35 _ _ [] FrameMode.returning w10 from ⟨.tuple #[.agg zT,.int .i64 E,.int .i64 j],?_,hB10,.inl ⟨j,hlt,HZ0.out,?_,?_⟩⟩)
      ·have c0 : w10.cell? ⟨w.heap.size + 1 + 1,0,none⟩ = some (.slice none 0 0):=cell_at q1
       have c1 : w10.cell? ⟨w.heap.size + 1 + 1,1,none⟩ = some (.slice none 0 0):=cell_at q1
       have c2 : w10.cell? ⟨w.heap.size + 1 + 1,2,none⟩ = some (.slice none 0 0):=cell_at q1
       have c3 : w10.cell? ⟨w.heap.size + 1 + 1,3,none⟩ = some (.slice none 0 0):=cell_at q1
       have c4 : w10.cell? ⟨w.heap.size + 1 + 1,4,none⟩ = some (.int .i64 0):=cell_at q1
       simp [results,Tryz.results35,go_sem,c0,c1,c2,c3,c4,q2,q3,zT]
      ·rw [hEq]; exact hE1
      ·rw [hEq]
    ·obtain rfl : cn = j:=by omega
     have b1:=hci.kept.cell x1 nVB
     have d9:=hci.shc
     rw [tC,tSH,tn] at d9
     have d10:=hci.enc
     rw [tC,tEN,tn] at d10
     have d11:=hci.elc
     rw [tC,tEL,tn] at d11
     have d12:=hci.flc
     rw [tC,tFL,tn] at d12
     have d13:=hci.hi
     rw [tC] at d13
     have t2:=(hci.kept.block _ (blk_lt T2) (nVt 2 (by omega))).trans T2
     have t3:=(hci.kept.block _ (blk_lt T3) (nVt 3 (by omega))).trans T3
     have t4:=(hci.kept.block _ (blk_lt T4) (nVt 4 (by omega))).trans T4
     have a0 : wr.cell? ⟨w.heap.size + 1 + 1,0,none⟩ = some (.slice none 0 0):=cell_at t2
     have f0 : wr.frozen? ⟨w.heap.size + 1 + 1,0,none⟩ = false:=free_at t2
     have a1 : wr.cell? ⟨w.heap.size + 1 + 1,1,none⟩ = some (.slice none 0 0):=cell_at t2
     have f1 : wr.frozen? ⟨w.heap.size + 1 + 1,1,none⟩ = false:=free_at t2
     have a2 : wr.cell? ⟨w.heap.size + 1 + 1,2,none⟩ = some (.slice none 0 0):=cell_at t2
     have f2 : wr.frozen? ⟨w.heap.size + 1 + 1,2,none⟩ = false:=free_at t2
     have a3 : wr.cell? ⟨w.heap.size + 1 + 1,3,none⟩ = some (.slice none 0 0):=cell_at t2
     have f3 : wr.frozen? ⟨w.heap.size + 1 + 1,3,none⟩ = false:=free_at t2
     have a4 : wr.cell? ⟨w.heap.size + 1 + 1,4,none⟩ = some (.int .i64 0):=cell_at t2
     have f4 : wr.frozen? ⟨w.heap.size + 1 + 1,4,none⟩ = false:=free_at t2
     have e0 : wr.cell? ⟨w.heap.size + 1 + 1 + 1,0,none⟩ = some (.int .i64 0):=cell_at t3
     have fe : wr.frozen? ⟨w.heap.size + 1 + 1 + 1,0,none⟩ = false:=free_at t3
     have p0 : wr.cell? ⟨w.heap.size + 1 + 1 + 1 + 1,0,none⟩ = some (.int .i64 0):=cell_at t4
     have fp : wr.frozen? ⟨w.heap.size + 1 + 1 + 1 + 1,0,none⟩ = false:=free_at t4
     have hBr : Below w.heap.size w wr:=hBW.trans (hci.kept.to_below (B:=w.heap.size) hBW.size (fun k hk h => HNV.out k hk h))
     have r1 : Row wr 9 SH cn cn ((stA m (strBytes (P ++ lo)) xs R cn cn).sh.map Value.string):=by have:=hci.sh; rw [tSH,tn] at this; exact this
     have r2 : RI wr FL cn (stA m (strBytes (P ++ lo)) xs R cn cn).fl:=by have:=hci.fl; rw [tFL,tn] at this; exact this
     have r3:=rEN.kept hci.kept nEN
     have r4:=rEL.kept hci.kept nEL
     have HQ:=hid (And.intro t2 (And.intro t3 (And.intro t4 (And.intro hBr (And.intro r1 (And.intro r2 (And.intro r3 (And.intro r4 hz0))))))))
     clear hBW T2 T3 T4 x1 nVB rEN rEL nEL nEN nVt ncb hA hM hci hz0 hiv t2 t3 t4 hBr r1 r2 r3 r4
     generalize hhi : (stA m (strBytes (P ++ lo)) xs R cn cn).hi = hi at d13
     have HHI:=hid hhi
     clear hhi
     go_wp2_with fail
     obtain ⟨t2,t3,t4,hBr,r1,r2,r3,r4,hz0⟩:=HQ.out
     obtain ⟨z2,z3,z4,zk⟩:=fin30 (.slice (some ⟨SH,0,none⟩) cn cn) (.slice (some ⟨EN,0,none⟩) cn cn) (.slice (some ⟨EL,0,none⟩) cn cn) (.slice (some ⟨FL,0,none⟩) cn cn) (.int .i64 hi) (.int .i64 0) (.int .i64 0) t2 t3 t4 (by omega) (by omega) (by omega)
     have hbd:=HBD.out
     refine leaves_cons (f:=61) (args:=#[.pointer (some ⟨CB,0,none⟩),.pointer (some ⟨w.heap.size + 1 + 1,0,none⟩),.pointer (some ⟨w.heap.size + 1 + 1 + 1,0,none⟩),.pointer (some ⟨w.heap.size + 1 + 1 + 1 + 1,0,none⟩)]) (by simp) (by simp [go_sem]) ?_
     refine idle71.mono ?_
     rintro e u' w10 ⟨rfl,rfl,hb10⟩
     refine (show Go.Leaves Tryz.prog Tryz.f35 _ _ [] FrameMode.returning w10 from ⟨_,res30 (blk_later hb10 z2) (blk_later hb10 z3) (blk_later hb10 z4) rfl rfl rfl,(hBr.trans (zk.to_below (B:=w.heap.size) hBr.size (fun k hk h => by omega))).trans (hb10.mono (Nat.le_trans hBr.size zk.size)),.inr ⟨hz0,SH,EN,EL,FL,by omega,by omega,by omega,by omega,hbd.2.2.1,hbd.2.2.2.2.2.1,hbd.2.2.2.2.2.2.2.2.1,hbd.2.2.2.2.2.2.2.2.2.1,by rw [HHI.out],?_,?_,?_,?_⟩⟩)
     ·exact (r1.kept zk (by show ¬ (SH = _ ∨ SH = _ ∨ SH = _); omega)).kept (kept_of (S:=fun _ => False) hb10) id
     ·exact (r3.kept zk (by show ¬ (EN = _ ∨ EN = _ ∨ EN = _); omega)).kept (kept_of (S:=fun _ => False) hb10) id
     ·exact (r4.kept zk (by show ¬ (EL = _ ∨ EL = _ ∨ EL = _); omega)).kept (kept_of (S:=fun _ => False) hb10) id
     ·exact (r2.kept zk (by show ¬ (FL = _ ∨ FL = _ ∨ FL = _); omega)).kept (kept_of (S:=fun _ => False) hb10) id
end
end Go.Proofs.YtepcmfegggdjfaaGreatDoor

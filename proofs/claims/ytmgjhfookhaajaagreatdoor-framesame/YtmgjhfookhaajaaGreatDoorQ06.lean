/-
  Texts Fe Ff.
-/
import Derived.Test.YtmgjhfookhaajaaGreatDoorQ05
set_option linter.unusedVariables false
set_option maxRecDepth 100000
set_option maxHeartbeats 16000000
namespace Go.Proofs.YtmgjhfookhaajaaGreatDoor
open Go.RowKit
structure StM where
 fa : Option Addr
 fn : Nat
 fc : Nat
 fs : List FrM
 ga : Option Addr
 gn : Nat
 gc : Nat
 gs : List Int
 pa : Option Addr
 pn : Nat
 pc : Nat
 ps : List PgM
 rep : Int
 en : Int
 ra : Option Addr
 rn : Nat
 rc : Nat
 rs : List Int
 tr : Int
 us : Int
abbrev stAr (s : StM) : Array Value:=#[.slice s.fa s.fn s.fc,.slice s.ga s.gn s.gc,.slice s.pa s.pn s.pc,.int .i64 s.rep,.int .i8 s.en,.slice s.ra s.rn s.rc,.int .i8 s.tr,.int .i64 s.us]
structure SSt (w : World) (s : StM) : Prop where
 fr : SFr w s.fa s.fn s.fs
 gl : SI .u64 w s.ga s.gn s.gs
 pg : SPg w s.pa s.pn s.ps
 rs : SI .u64 w s.ra s.rn s.rs
theorem SSt.later {w w' : World} {s : StM} (h : SSt w s) (hb : Below w.heap.size w w') : SSt w' s:=⟨h.fr.later hb,h.gl.later hb,h.pg.later hb,h.rs.later hb⟩
structure SB (s : StM) : Prop where
 fb : ∀ x ∈ s.fs,FB x
 pb : ∀ x ∈ s.ps,PB x
 f : s.fn ≤ 1099511627776
 g : s.gn ≤ 1099511627776
 p : s.pn ≤ 1099511627776
 r : s.rn ≤ 1099511627776
def stE (s t : StM) : Bool:=iE s.rep t.rep && (iE s.en t.en && (iE s.tr t.tr && (iE s.us t.us && (lE frE s.fs t.fs && (lE iE s.gs t.gs && (lE pgE s.ps t.ps && lE iE s.rs t.rs))))))
theorem stE_one (s t : StM) : stE s t = (iE s.rep t.rep && (iE s.en t.en && (iE s.tr t.tr && (iE s.us t.us && (lE frE s.fs t.fs && (lE iE s.gs t.gs && (lE pgE s.ps t.ps && lE iE s.rs t.rs))))))):=rfl
theorem stE_two (s t : StM) : stE s t = (iE s.en t.en && (iE s.tr t.tr && (iE s.us t.us && (iE s.rep t.rep && (lE iE s.rs t.rs && (lE iE s.gs t.gs && (lE pgE s.ps t.ps && lE frE s.fs t.fs))))))):=by
 unfold stE
 ac_rfl
theorem eqS7 (s t : StM) (w : World) (h1 : SSt w s) (h2 : SSt w t) (b1 : SB s) (b2 : SB t) :
  Calls Tryz.prog 7 #[.agg (stAr s),.agg (stAr t)] w fun e w' => e = .returned (.bool (stE s t)) ∧ Below w.heap.size w w':=by
 have H0:=hid (fun (W : World) (hb : Below w.heap.size w W) => lst22 s.fa t.fa s.fn t.fn s.fc t.fc s.fs t.fs W (h1.fr.later hb) (h2.fr.later hb) b1.f b1.fb b2.fb)
 have H1:=hid (fun (W : World) (hb : Below w.heap.size w W) => eqI23 s.ga t.ga s.gn t.gn s.gc t.gc s.gs t.gs W (h1.gl.later hb) (h2.gl.later hb) b1.g)
 have H2:=hid (fun (W : World) (hb : Below w.heap.size w W) => lst24 s.pa t.pa s.pn t.pn s.pc t.pc s.ps t.ps W (h1.pg.later hb) (h2.pg.later hb) b1.p b1.pb b2.pb)
 have H3:=hid (fun (W : World) (hb : Below w.heap.size w W) => eqI23 s.ra t.ra s.rn t.rn s.rc t.rc s.rs t.rs W (h1.rs.later hb) (h2.rs.later hb) b1.r)
 have hv:=stE_one s t
 clear h1 h2 b1 b2
 generalize stE s t = V at *
 generalize lE frE s.fs t.fs = A0 at *
 generalize lE iE s.gs t.gs = A1 at *
 generalize lE pgE s.ps t.ps = A2 at *
 generalize lE iE s.rs t.rs = A3 at *
 have HV:=hid hv
 clear hv
 have B1:=below_new w (.cells (stAr s) 27)
 have B2:=below_new (w.alloc (.cells (stAr s) 27)) (.cells (stAr t) 27)
 have B0:=hid (B1.trans (B2.mono B1.size))
 have k1:=nb_later B2 (nb_new w (.cells (stAr s) 27))
 have k2 : ((w.alloc (.cells (stAr s) 27)).alloc (.cells (stAr t) 27)).heap[w.heap.size + 1]? = some (.cells (stAr t) 27):=nb_at (by simp)
 have HC:=hid (fun (W : World) (hb : Below ((w.alloc (.cells (stAr s) 27)).alloc (.cells (stAr t) 27)).heap.size ((w.alloc (.cells (stAr s) 27)).alloc (.cells (stAr t) 27)) W) =>
  (⟨later_cell hb (cell_at k1),later_cell hb (cell_at k1),later_cell hb (cell_at k1),later_cell hb (cell_at k1),later_cell hb (cell_at k1),later_cell hb (cell_at k1),later_cell hb (cell_at k1),later_cell hb (cell_at k1),later_cell hb (cell_at k2),later_cell hb (cell_at k2),later_cell hb (cell_at k2),later_cell hb (cell_at k2),later_cell hb (cell_at k2),later_cell hb (cell_at k2),later_cell hb (cell_at k2),later_cell hb (cell_at k2)⟩ :
   W.cell? ⟨w.heap.size,0,none⟩ = some (.slice s.fa s.fn s.fc) ∧ W.cell? ⟨w.heap.size,1,none⟩ = some (.slice s.ga s.gn s.gc) ∧ W.cell? ⟨w.heap.size,2,none⟩ = some (.slice s.pa s.pn s.pc) ∧ W.cell? ⟨w.heap.size,3,none⟩ = some (.int .i64 s.rep) ∧ W.cell? ⟨w.heap.size,4,none⟩ = some (.int .i8 s.en) ∧ W.cell? ⟨w.heap.size,5,none⟩ = some (.slice s.ra s.rn s.rc) ∧ W.cell? ⟨w.heap.size,6,none⟩ = some (.int .i8 s.tr) ∧ W.cell? ⟨w.heap.size,7,none⟩ = some (.int .i64 s.us) ∧ W.cell? ⟨w.heap.size + 1,0,none⟩ = some (.slice t.fa t.fn t.fc) ∧ W.cell? ⟨w.heap.size + 1,1,none⟩ = some (.slice t.ga t.gn t.gc) ∧ W.cell? ⟨w.heap.size + 1,2,none⟩ = some (.slice t.pa t.pn t.pc) ∧ W.cell? ⟨w.heap.size + 1,3,none⟩ = some (.int .i64 t.rep) ∧ W.cell? ⟨w.heap.size + 1,4,none⟩ = some (.int .i8 t.en) ∧ W.cell? ⟨w.heap.size + 1,5,none⟩ = some (.slice t.ra t.rn t.rc) ∧ W.cell? ⟨w.heap.size + 1,6,none⟩ = some (.int .i8 t.tr) ∧ W.cell? ⟨w.heap.size + 1,7,none⟩ = some (.int .i64 t.us)))
 obtain ⟨c0,c1,c2,c3,c4,c5,c6,c7,c8,c9,c10,c11,c12,c13,c14,c15⟩:=HC.out _ (Below.refl _ _)
 clear B1 B2 k1 k2
 obtain ⟨fa,fn,fc,fs,ga,gn,gc,gs,pa,pn,pc,ps,rep,en,ra,rn,rc,rs,tr,us⟩:=s
 obtain ⟨fa',fn',fc',fs',ga',gn',gc',gs',pa',pn',pc',ps',rep',en',ra',rn',rc',rs',tr',us'⟩:=t
 dsimp only at *
 by_cases e0 : rep = rep'
 ·subst e0
  have f0 : (rep == rep) = true:=by simp
  by_cases e1 : en = en'
  ·subst e1
   have f1 : (en == en) = true:=by simp
   by_cases e2 : tr = tr'
   ·subst e2
    have f2 : (tr == tr) = true:=by simp
    by_cases e3 : us = us'
    ·subst e3
     have f3 : (us == us) = true:=by simp
     go_enter Tryz.func7,Tryz.ntmps7
     go_wp2_with fail
     refine (H0.out _ B0.out).mono ?_
     rintro e w5 ⟨rfl,hb⟩
     have B5:=hid (B0.out.trans (hb.mono B0.out.size))
     have hbb:=hid hb
     obtain ⟨x0_0,x0_1,x0_2,x0_3,x0_4,x0_5,x0_6,x0_7,x0_8,x0_9,x0_10,x0_11,x0_12,x0_13,x0_14,x0_15⟩:=HC.out w5 hbb.out
     clear hb
     cases A0 with
     | false =>
      go_wp2_with fail
      go_ret
      exact ⟨by rw [HV.out]; simp [iE],B5.out⟩
     | true =>
      go_wp2_with fail
      refine (H1.out _ B5.out).mono ?_
      rintro e w6 ⟨rfl,hb⟩
      have B6:=hid (B5.out.trans (hb.mono B5.out.size))
      have hbb:=hid (hbb.out.trans (hb.mono hbb.out.size))
      obtain ⟨x1_0,x1_1,x1_2,x1_3,x1_4,x1_5,x1_6,x1_7,x1_8,x1_9,x1_10,x1_11,x1_12,x1_13,x1_14,x1_15⟩:=HC.out w6 hbb.out
      clear hb
      cases A1 with
      | false =>
       go_wp2_with fail
       go_ret
       exact ⟨by rw [HV.out]; simp [iE],B6.out⟩
      | true =>
       go_wp2_with fail
       refine (H2.out _ B6.out).mono ?_
       rintro e w7 ⟨rfl,hb⟩
       have B7:=hid (B6.out.trans (hb.mono B6.out.size))
       have hbb:=hid (hbb.out.trans (hb.mono hbb.out.size))
       obtain ⟨x2_0,x2_1,x2_2,x2_3,x2_4,x2_5,x2_6,x2_7,x2_8,x2_9,x2_10,x2_11,x2_12,x2_13,x2_14,x2_15⟩:=HC.out w7 hbb.out
       clear hb
       cases A2 with
       | false =>
        go_wp2_with fail
        go_ret
        exact ⟨by rw [HV.out]; simp [iE],B7.out⟩
       | true =>
        go_wp2_with fail
        refine (H3.out _ B7.out).mono ?_
        rintro e w8 ⟨rfl,hb⟩
        have B8:=hid (B7.out.trans (hb.mono B7.out.size))
        clear hb
        cases A3 with
        | false =>
         go_wp2_with fail
         go_ret
         exact ⟨by rw [HV.out]; simp [iE],B8.out⟩
        | true =>
         go_wp2_with fail
         go_ret
         exact ⟨by rw [HV.out]; simp [iE],B8.out⟩
    ·have f3 : (us == us') = false:=by simp [e3]
     go_enter Tryz.func7,Tryz.ntmps7
     go_wp2_with fail
     go_ret
     exact ⟨by rw [HV.out]; simp [iE,e3],B0.out⟩
   ·have f2 : (tr == tr') = false:=by simp [e2]
    go_enter Tryz.func7,Tryz.ntmps7
    go_wp2_with fail
    go_ret
    exact ⟨by rw [HV.out]; simp [iE,e2],B0.out⟩
  ·have f1 : (en == en') = false:=by simp [e1]
   go_enter Tryz.func7,Tryz.ntmps7
   go_wp2_with fail
   go_ret
   exact ⟨by rw [HV.out]; simp [iE,e1],B0.out⟩
 ·have f0 : (rep == rep') = false:=by simp [e0]
  go_enter Tryz.func7,Tryz.ntmps7
  go_wp2_with fail
  go_ret
  exact ⟨by rw [HV.out]; simp [iE,e0],B0.out⟩
theorem eqS8 (s t : StM) (w : World) (h1 : SSt w s) (h2 : SSt w t) (b1 : SB s) (b2 : SB t) :
  Calls Tryz.prog 8 #[.agg (stAr s),.agg (stAr t)] w fun e w' => e = .returned (.bool (stE s t)) ∧ Below w.heap.size w w':=by
 have H0:=hid (fun (W : World) (hb : Below w.heap.size w W) => alk25 s.ra t.ra s.rn t.rn s.rc t.rc s.rs t.rs W (h1.rs.later hb) (h2.rs.later hb) b1.r)
 have H1:=hid (fun (W : World) (hb : Below w.heap.size w W) => alk25 s.ga t.ga s.gn t.gn s.gc t.gc s.gs t.gs W (h1.gl.later hb) (h2.gl.later hb) b1.g)
 have H2:=hid (fun (W : World) (hb : Below w.heap.size w W) => lst27 s.pa t.pa s.pn t.pn s.pc t.pc s.ps t.ps W (h1.pg.later hb) (h2.pg.later hb) b1.p b1.pb b2.pb)
 have H3:=hid (fun (W : World) (hb : Below w.heap.size w W) => lst29 s.fa t.fa s.fn t.fn s.fc t.fc s.fs t.fs W (h1.fr.later hb) (h2.fr.later hb) b1.f b1.fb b2.fb)
 have hv:=stE_two s t
 clear h1 h2 b1 b2
 generalize stE s t = V at *
 generalize lE iE s.rs t.rs = A0 at *
 generalize lE iE s.gs t.gs = A1 at *
 generalize lE pgE s.ps t.ps = A2 at *
 generalize lE frE s.fs t.fs = A3 at *
 have HV:=hid hv
 clear hv
 have B1:=below_new w (.cells (stAr s) 27)
 have B2:=below_new (w.alloc (.cells (stAr s) 27)) (.cells (stAr t) 27)
 have B0:=hid (B1.trans (B2.mono B1.size))
 have k1:=nb_later B2 (nb_new w (.cells (stAr s) 27))
 have k2 : ((w.alloc (.cells (stAr s) 27)).alloc (.cells (stAr t) 27)).heap[w.heap.size + 1]? = some (.cells (stAr t) 27):=nb_at (by simp)
 have HC:=hid (fun (W : World) (hb : Below ((w.alloc (.cells (stAr s) 27)).alloc (.cells (stAr t) 27)).heap.size ((w.alloc (.cells (stAr s) 27)).alloc (.cells (stAr t) 27)) W) =>
  (⟨later_cell hb (cell_at k1),later_cell hb (cell_at k1),later_cell hb (cell_at k1),later_cell hb (cell_at k1),later_cell hb (cell_at k1),later_cell hb (cell_at k1),later_cell hb (cell_at k1),later_cell hb (cell_at k1),later_cell hb (cell_at k2),later_cell hb (cell_at k2),later_cell hb (cell_at k2),later_cell hb (cell_at k2),later_cell hb (cell_at k2),later_cell hb (cell_at k2),later_cell hb (cell_at k2),later_cell hb (cell_at k2)⟩ :
   W.cell? ⟨w.heap.size,0,none⟩ = some (.slice s.fa s.fn s.fc) ∧ W.cell? ⟨w.heap.size,1,none⟩ = some (.slice s.ga s.gn s.gc) ∧ W.cell? ⟨w.heap.size,2,none⟩ = some (.slice s.pa s.pn s.pc) ∧ W.cell? ⟨w.heap.size,3,none⟩ = some (.int .i64 s.rep) ∧ W.cell? ⟨w.heap.size,4,none⟩ = some (.int .i8 s.en) ∧ W.cell? ⟨w.heap.size,5,none⟩ = some (.slice s.ra s.rn s.rc) ∧ W.cell? ⟨w.heap.size,6,none⟩ = some (.int .i8 s.tr) ∧ W.cell? ⟨w.heap.size,7,none⟩ = some (.int .i64 s.us) ∧ W.cell? ⟨w.heap.size + 1,0,none⟩ = some (.slice t.fa t.fn t.fc) ∧ W.cell? ⟨w.heap.size + 1,1,none⟩ = some (.slice t.ga t.gn t.gc) ∧ W.cell? ⟨w.heap.size + 1,2,none⟩ = some (.slice t.pa t.pn t.pc) ∧ W.cell? ⟨w.heap.size + 1,3,none⟩ = some (.int .i64 t.rep) ∧ W.cell? ⟨w.heap.size + 1,4,none⟩ = some (.int .i8 t.en) ∧ W.cell? ⟨w.heap.size + 1,5,none⟩ = some (.slice t.ra t.rn t.rc) ∧ W.cell? ⟨w.heap.size + 1,6,none⟩ = some (.int .i8 t.tr) ∧ W.cell? ⟨w.heap.size + 1,7,none⟩ = some (.int .i64 t.us)))
 obtain ⟨c0,c1,c2,c3,c4,c5,c6,c7,c8,c9,c10,c11,c12,c13,c14,c15⟩:=HC.out _ (Below.refl _ _)
 clear B1 B2 k1 k2
 obtain ⟨fa,fn,fc,fs,ga,gn,gc,gs,pa,pn,pc,ps,rep,en,ra,rn,rc,rs,tr,us⟩:=s
 obtain ⟨fa',fn',fc',fs',ga',gn',gc',gs',pa',pn',pc',ps',rep',en',ra',rn',rc',rs',tr',us'⟩:=t
 dsimp only at *
 by_cases e0 : en = en'
 ·subst e0
  have f0 : (en == en) = true:=by simp
  by_cases e1 : tr = tr'
  ·subst e1
   have f1 : (tr == tr) = true:=by simp
   by_cases e2 : us = us'
   ·subst e2
    have f2 : (us == us) = true:=by simp
    by_cases e3 : rep = rep'
    ·subst e3
     have f3 : (rep == rep) = true:=by simp
     go_enter Tryz.func8,Tryz.ntmps8
     go_wp2_with fail
     refine (H0.out _ B0.out).mono ?_
     rintro e w5 ⟨rfl,hb⟩
     have B5:=hid (B0.out.trans (hb.mono B0.out.size))
     have hbb:=hid hb
     obtain ⟨x0_0,x0_1,x0_2,x0_3,x0_4,x0_5,x0_6,x0_7,x0_8,x0_9,x0_10,x0_11,x0_12,x0_13,x0_14,x0_15⟩:=HC.out w5 hbb.out
     clear hb
     cases A0 with
     | false =>
      go_wp2_with fail
      go_ret
      exact ⟨by rw [HV.out]; simp [iE],B5.out⟩
     | true =>
      go_wp2_with fail
      refine (H1.out _ B5.out).mono ?_
      rintro e w6 ⟨rfl,hb⟩
      have B6:=hid (B5.out.trans (hb.mono B5.out.size))
      have hbb:=hid (hbb.out.trans (hb.mono hbb.out.size))
      obtain ⟨x1_0,x1_1,x1_2,x1_3,x1_4,x1_5,x1_6,x1_7,x1_8,x1_9,x1_10,x1_11,x1_12,x1_13,x1_14,x1_15⟩:=HC.out w6 hbb.out
      clear hb
      cases A1 with
      | false =>
       go_wp2_with fail
       go_ret
       exact ⟨by rw [HV.out]; simp [iE],B6.out⟩
      | true =>
       go_wp2_with fail
       refine (H2.out _ B6.out).mono ?_
       rintro e w7 ⟨rfl,hb⟩
       have B7:=hid (B6.out.trans (hb.mono B6.out.size))
       have hbb:=hid (hbb.out.trans (hb.mono hbb.out.size))
       obtain ⟨x2_0,x2_1,x2_2,x2_3,x2_4,x2_5,x2_6,x2_7,x2_8,x2_9,x2_10,x2_11,x2_12,x2_13,x2_14,x2_15⟩:=HC.out w7 hbb.out
       clear hb
       cases A2 with
       | false =>
        go_wp2_with fail
        go_ret
        exact ⟨by rw [HV.out]; simp [iE],B7.out⟩
       | true =>
        go_wp2_with fail
        refine (H3.out _ B7.out).mono ?_
        rintro e w8 ⟨rfl,hb⟩
        have B8:=hid (B7.out.trans (hb.mono B7.out.size))
        clear hb
        cases A3 with
        | false =>
         go_wp2_with fail
         go_ret
         exact ⟨by rw [HV.out]; simp [iE],B8.out⟩
        | true =>
         go_wp2_with fail
         go_ret
         exact ⟨by rw [HV.out]; simp [iE],B8.out⟩
    ·have f3 : (rep == rep') = false:=by simp [e3]
     go_enter Tryz.func8,Tryz.ntmps8
     go_wp2_with fail
     go_ret
     exact ⟨by rw [HV.out]; simp [iE,e3],B0.out⟩
   ·have f2 : (us == us') = false:=by simp [e2]
    go_enter Tryz.func8,Tryz.ntmps8
    go_wp2_with fail
    go_ret
    exact ⟨by rw [HV.out]; simp [iE,e2],B0.out⟩
  ·have f1 : (tr == tr') = false:=by simp [e1]
   go_enter Tryz.func8,Tryz.ntmps8
   go_wp2_with fail
   go_ret
   exact ⟨by rw [HV.out]; simp [iE,e1],B0.out⟩
 ·have f0 : (en == en') = false:=by simp [e0]
  go_enter Tryz.func8,Tryz.ntmps8
  go_wp2_with fail
  go_ret
  exact ⟨by rw [HV.out]; simp [iE,e0],B0.out⟩
def Fl (w : World) (a : Option Addr) (n : Nat) (fl : List Value) : Prop:=n = 0 ∨ ∃ b off,a = some ⟨b,off,none⟩ ∧ ∀ (j : Nat) y,fl[j]? = some y → w.cell? ⟨b,off + j,none⟩ = some y
theorem Fl.later {w w' : World} {a : Option Addr} {n : Nat} {fl : List Value} (h : Fl w a n fl) (hb : Below w.heap.size w w') : Fl w' a n fl:=by
 rcases h with h | ⟨b,off,e,h⟩
 ·exact .inl h
 ·exact .inr ⟨b,off,e,fun j y hj => later_cell hb (h j y hj)⟩
theorem fm_get {α β : Type} (g : α → List β) (k : Nat) (hk : ∀ x,(g x).length = k) : ∀ (l : List α) (i q : Nat),q < k → (l.flatMap g)[i * k + q]? = (l[i]?).bind fun x => (g x)[q]?
 | [],i,q,_ => by simp
 | x :: l,0,q,hq => by
  rw [List.flatMap_cons,List.getElem?_append_left (by rw [hk]; omega)]
  simp
 | x :: l,i + 1,q,hq => by
  have ih:=fm_get g k hk l i q hq
  rw [List.flatMap_cons,List.getElem?_append_right (by rw [hk,Nat.succ_mul]; omega),hk]
  rw [show (i + 1) * k + q - k = i * k + q by rw [Nat.succ_mul]; omega,ih]
  simp
theorem fm_len {α β : Type} (g : α → List β) (k : Nat) (hk : ∀ x,(g x).length = k) : ∀ (l : List α),(l.flatMap g).length = l.length * k
 | [] => by simp
 | x :: l => by rw [List.flatMap_cons,List.length_append,hk,fm_len g k hk l,List.length_cons,Nat.succ_mul]; omega
theorem fm_fl {α : Type} {w : World} {a : Option Addr} {n k : Nat} (g : α → List Value) (hk : ∀ x,(g x).length = k) (h0 : 0 < k) {l : List α} (h : n = 0 ∨ ∃ b off,a = some ⟨b,off,none⟩ ∧ ∀ (j : Nat) x,l[j]? = some x → ∀ q y,(g x)[q]? = some y → w.cell? ⟨b,off + j * k + q,none⟩ = some y) : Fl w a n (l.flatMap g):=by
 rcases h with h | ⟨b,off,e,h⟩
 ·exact .inl h
 ·refine .inr ⟨b,off,e,fun j y hj => ?_⟩
  have hq : j % k < k:=Nat.mod_lt _ h0
  have hjj : j / k * k + j % k = j:=by rw [Nat.mul_comm]; exact Nat.div_add_mod j k
  rw [← hjj,fm_get g k hk l _ _ hq] at hj
  obtain ⟨x,hx,hy⟩:=Option.bind_eq_some_iff.1 hj
  have:=h (j / k) x hx (j % k) y hy
  rwa [Nat.add_assoc,hjj] at this
theorem own_fm {α : Type} {w : World} {base e n k : Nat} {v : Value} (g : α → List Value) (hk : ∀ x,(g x).length = k) {l : List α} (h : w.ownsRow base e k v n (l.flatMap g)) (hn : l.length = n) :
  ∃ a c,v = .slice a n c ∧ n ≤ c ∧ (∀ b off cc,a = some ⟨b,off,cc⟩ → base ≤ b ∧ b < w.heap.size ∧ ∃ cur,w.heap[b]? = some (.cells cur e)) ∧ (n = 0 ∨ ∃ b off,a = some ⟨b,off,none⟩ ∧ off = 0 ∧ ∀ (j : Nat) x,l[j]? = some x → ∀ q,q < k → w.cell? ⟨b,off + j * k + q,none⟩ = (g x)[q]?):=by
 rcases h.2 with ⟨rfl,h0⟩ | ⟨b,cap,cur,rfl,h2,h3,h4,h5,h6,h7⟩
 ·exact ⟨none,0,by rw [h0],by omega,fun b off cc e => (by cases e),.inl h0⟩
 ·refine ⟨some ⟨b,0,none⟩,cap,rfl,h4,fun b' off cc e => ?_,.inr ⟨b,0,rfl,rfl,fun j x hx q hq => ?_⟩⟩
  ·cases e
   exact ⟨h2,nb_lt h3,cur,h3⟩
  ·have hjn : j < n:=by have:=lt_of_get hx; omega
   have hlt : j * k + q < n * k:=by
    have : (j + 1) * k ≤ n * k:=Nat.mul_le_mul_right k hjn
    rw [Nat.succ_mul] at this; omega
   have hc:=World.ownsRow.cellAt h (j * k + q) hlt
   rw [Nat.zero_add,hc,fm_get g k hk l j q hq,hx]; rfl
theorem own_keepB {S : Nat → Prop} {w w' : World} {base e k n : Nat} {v : Value} {xs : List Value} (h : w.ownsRow base e k v n xs) (hk : Kept S w w') (hs : ∀ b,v.ownBlock = some b → ¬ S b) : w'.ownsRow base e k v n xs:=by
 refine ⟨h.1,?_⟩
 rcases h.2 with h0 | ⟨g,cp,cur,rfl,h2,h3,h4⟩
 ·exact .inl h0
 ·exact .inr ⟨g,cp,cur,rfl,h2,(hk.block g (nb_lt h3) (hs g rfl)).trans h3,h4⟩
theorem own_low {w : World} {base base' e k n : Nat} {v : Value} {xs : List Value} (h : w.ownsRow base e k v n xs) (hb : base' ≤ base) : w.ownsRow base' e k v n xs:=by
 refine ⟨h.1,?_⟩
 rcases h.2 with h0 | ⟨g,cp,cur,h1,h2,h3⟩
 ·exact .inl h0
 ·exact .inr ⟨g,cp,cur,h1,Nat.le_trans hb h2,h3⟩
theorem own_ty {w : World} {base e k n b : Nat} {v : Value} {xs : List Value} (h : w.ownsRow base e k v n xs) (hb : v.ownBlock = some b) : base ≤ b ∧ b < w.heap.size ∧ ∃ cur,w.heap[b]? = some (.cells cur e):=by
 rcases h.2 with ⟨h0,_⟩ | ⟨g,cp,cur,rfl,h2,h3,h4⟩
 ·rw [h0] at hb; cases hb
 ·obtain rfl : g = b:=by simpa [Value.ownBlock] using hb
  exact ⟨h2,nb_lt h3,cur,h3⟩
theorem own_sl {w : World} {base e k n : Nat} {v : Value} {xs : List Value} (h : w.ownsRow base e k v n xs) : ∃ a c,v = .slice a n c:=by
 rcases h.2 with ⟨h0,h1⟩ | ⟨g,cp,cur,h1,_⟩
 ·exact ⟨none,0,by rw [h0,h1]⟩
 ·exact ⟨_,_,h1⟩
theorem Tryz.inf18 : (Tryz.prog.info? 43).map (fun i => (i.zero,i.size,i.bytes)) = some (some (.int .u64 0),1,8):=by kernel_rfl
theorem app_nil18 (w : World) {ops : Array Oper} {rest : List Oper} {o : Oper} {a : Act} {Q : Exit → Act → World → Prop} (hgd : o.guard = none)
  (s x : Operand) (ho : o.op = Op.call { callee:=Callee.builtin Builtin.append,args:=#[s,x],argTypes:=#[23,23] })
  (c : Nat) (hs : a.eval s = .slice none 0 0) (hx : a.eval x = .slice none 0 c) (h : wpList Tryz.prog ops Q rest (a.put o.dst (.slice none 0 0)) w) : wpList Tryz.prog ops Q (o :: rest) a w:=by
 obtain ⟨i0,hi,_⟩:=info_parts Tryz.inf18
 refine wpList_plain hgd fun K hK => ?_
 unfold Oper.wp
 simp [execOp,ho,resolve,invoke,builtin,hs,hx,Builtin.append_,run_underlying Tryz.underlying23,sizeOf,typeInfo,hi,Builtin.lenOf,Builtin.firstCells,Result.andThen]
 exact hK _ _ h
theorem copy18 (a : Option Addr) (n c : Nat) (fl : List Value) (w : World) (h : Fl w a n fl) (hl : fl.length = n * 1) (h1 : ∀ u ∈ fl,u.oneCell' = true) (hn : n ≤ 2147483647) :
  Calls Tryz.prog 18 #[.slice a n c] w fun e w' => ∃ va vc,e = .returned (.slice va n vc) ∧ w'.ownsRow w.heap.size 43 1 (.slice va n vc) n fl ∧ Below w.heap.size w w':=by
 by_cases ha : a = none
 ·subst ha
  have hn0 : n = 0:=by
   rcases h with h | ⟨b,off,e,_⟩
   ·exact h
   ·cases e
  subst hn0
  have hl0 : fl = []:=List.eq_nil_of_length_eq_zero (by omega)
  subst hl0
  clear h hl
  go_enter Tryz.func18,Tryz.ntmps18
  go_wp2_with (first | (at_builtin; refine app_nil18 _ rfl (.const (.slice none 0 0)) (.tmp 3) rfl c rfl rfl ?_))
  go_ret
  exact ⟨none,0,rfl,World.ownsRow_nil _ _ _ _,Below.refl _ _⟩
 ·obtain ⟨ad,rfl⟩:=Option.ne_none_iff_exists'.1 ha
  have hu : ∀ (j : Nat) (y : Value),fl[j]? = some y → w.cell? (ad.add j) = some y:=fun j y hj => by
   have hj':=lt_of_get hj
   rcases h with h | ⟨b,off,e,hcell⟩
   ·omega
   ·have e:=Option.some.inj e
    subst e
    have hplain : (⟨b,off,none⟩ : Addr).add j = ⟨b,off + j,none⟩:=by unfold Addr.add; split <;> simp_all
    rw [hplain]
    exact hcell j y hj
  have HU:=hid hu
  have H1:=hid h1
  obtain ⟨i0,hi,hz0,hz1,hz2⟩:=info_parts Tryz.inf18
  clear hu h ha h1
  go_enter Tryz.func18,Tryz.ntmps18
  go_wp2_with (first | (at_builtin; refine wpList_append_own _ rfl (.const (.slice none 0 0)) (.tmp 3) 23 rfl w.heap.size 43 i0 _ 1 8 Tryz.underlying23 hi hz0 hz1 hz2 rfl (by decide) _ 0 [] rfl (World.ownsRow_nil _ _ _ _) ad n c fl rfl hl HU.out H1.out (by unfold maxLen; omega) (by omega) (Nat.le_refl _) ?_; intro v' w' hown hg _; have HO:=hid hown; have HB:=hid ((Kept.of_grown hg).to_below (Nat.le_refl w.heap.size) (fun k hk e => by cases e)); clear hown hg))
  obtain ⟨va,vc,hv,_⟩ : ∃ va vc,v' = .slice va n vc ∧ True:=by
   rcases HO.out.2 with ⟨h0,h1⟩ | ⟨g,cp,cur,h1,_⟩
   ·exact ⟨none,0,by rw [h0]; congr 1; omega,trivial⟩
   ·exact ⟨_,_,by rw [h1]; congr 1; omega,trivial⟩
  subst hv
  go_ret
  exact ⟨va,vc,rfl,by simpa using HO.out,HB.out⟩
theorem Tryz.inf19 : (Tryz.prog.info? 44).map (fun i => (i.zero,i.size,i.bytes)) = some (some (.slice none 0 0),1,24):=by kernel_rfl
theorem app_nil19 (w : World) {ops : Array Oper} {rest : List Oper} {o : Oper} {a : Act} {Q : Exit → Act → World → Prop} (hgd : o.guard = none)
  (s x : Operand) (ho : o.op = Op.call { callee:=Callee.builtin Builtin.append,args:=#[s,x],argTypes:=#[24,24] })
  (c : Nat) (hs : a.eval s = .slice none 0 0) (hx : a.eval x = .slice none 0 c) (h : wpList Tryz.prog ops Q rest (a.put o.dst (.slice none 0 0)) w) : wpList Tryz.prog ops Q (o :: rest) a w:=by
 obtain ⟨i0,hi,_⟩:=info_parts Tryz.inf19
 refine wpList_plain hgd fun K hK => ?_
 unfold Oper.wp
 simp [execOp,ho,resolve,invoke,builtin,hs,hx,Builtin.append_,run_underlying Tryz.underlying24,sizeOf,typeInfo,hi,Builtin.lenOf,Builtin.firstCells,Result.andThen]
 exact hK _ _ h
theorem copy19 (a : Option Addr) (n c : Nat) (fl : List Value) (w : World) (h : Fl w a n fl) (hl : fl.length = n * 1) (h1 : ∀ u ∈ fl,u.oneCell' = true) (hn : n ≤ 2147483647) :
  Calls Tryz.prog 19 #[.slice a n c] w fun e w' => ∃ va vc,e = .returned (.slice va n vc) ∧ w'.ownsRow w.heap.size 44 1 (.slice va n vc) n fl ∧ Below w.heap.size w w':=by
 by_cases ha : a = none
 ·subst ha
  have hn0 : n = 0:=by
   rcases h with h | ⟨b,off,e,_⟩
   ·exact h
   ·cases e
  subst hn0
  have hl0 : fl = []:=List.eq_nil_of_length_eq_zero (by omega)
  subst hl0
  clear h hl
  go_enter Tryz.func19,Tryz.ntmps19
  go_wp2_with (first | (at_builtin; refine app_nil19 _ rfl (.const (.slice none 0 0)) (.tmp 3) rfl c rfl rfl ?_))
  go_ret
  exact ⟨none,0,rfl,World.ownsRow_nil _ _ _ _,Below.refl _ _⟩
 ·obtain ⟨ad,rfl⟩:=Option.ne_none_iff_exists'.1 ha
  have hu : ∀ (j : Nat) (y : Value),fl[j]? = some y → w.cell? (ad.add j) = some y:=fun j y hj => by
   have hj':=lt_of_get hj
   rcases h with h | ⟨b,off,e,hcell⟩
   ·omega
   ·have e:=Option.some.inj e
    subst e
    have hplain : (⟨b,off,none⟩ : Addr).add j = ⟨b,off + j,none⟩:=by unfold Addr.add; split <;> simp_all
    rw [hplain]
    exact hcell j y hj
  have HU:=hid hu
  have H1:=hid h1
  obtain ⟨i0,hi,hz0,hz1,hz2⟩:=info_parts Tryz.inf19
  clear hu h ha h1
  go_enter Tryz.func19,Tryz.ntmps19
  go_wp2_with (first | (at_builtin; refine wpList_append_own _ rfl (.const (.slice none 0 0)) (.tmp 3) 24 rfl w.heap.size 44 i0 _ 1 24 Tryz.underlying24 hi hz0 hz1 hz2 rfl (by decide) _ 0 [] rfl (World.ownsRow_nil _ _ _ _) ad n c fl rfl hl HU.out H1.out (by unfold maxLen; omega) (by omega) (Nat.le_refl _) ?_; intro v' w' hown hg _; have HO:=hid hown; have HB:=hid ((Kept.of_grown hg).to_below (Nat.le_refl w.heap.size) (fun k hk e => by cases e)); clear hown hg))
  obtain ⟨va,vc,hv,_⟩ : ∃ va vc,v' = .slice va n vc ∧ True:=by
   rcases HO.out.2 with ⟨h0,h1⟩ | ⟨g,cp,cur,h1,_⟩
   ·exact ⟨none,0,by rw [h0]; congr 1; omega,trivial⟩
   ·exact ⟨_,_,by rw [h1]; congr 1; omega,trivial⟩
  subst hv
  go_ret
  exact ⟨va,vc,rfl,by simpa using HO.out,HB.out⟩
theorem Tryz.inf20 : (Tryz.prog.info? 40).map (fun i => (i.zero,i.size,i.bytes)) = some (some (.agg #[.int .i64 0,.int .i64 0,.slice none 0 0,.slice none 0 0]),4,64):=by kernel_rfl
theorem app_nil20 (w : World) {ops : Array Oper} {rest : List Oper} {o : Oper} {a : Act} {Q : Exit → Act → World → Prop} (hgd : o.guard = none)
  (s x : Operand) (ho : o.op = Op.call { callee:=Callee.builtin Builtin.append,args:=#[s,x],argTypes:=#[22,22] })
  (c : Nat) (hs : a.eval s = .slice none 0 0) (hx : a.eval x = .slice none 0 c) (h : wpList Tryz.prog ops Q rest (a.put o.dst (.slice none 0 0)) w) : wpList Tryz.prog ops Q (o :: rest) a w:=by
 obtain ⟨i0,hi,_⟩:=info_parts Tryz.inf20
 refine wpList_plain hgd fun K hK => ?_
 unfold Oper.wp
 simp [execOp,ho,resolve,invoke,builtin,hs,hx,Builtin.append_,run_underlying Tryz.underlying22,sizeOf,typeInfo,hi,Builtin.lenOf,Builtin.firstCells,Result.andThen]
 exact hK _ _ h
theorem copy20 (a : Option Addr) (n c : Nat) (fl : List Value) (w : World) (h : Fl w a n fl) (hl : fl.length = n * 4) (h1 : ∀ u ∈ fl,u.oneCell' = true) (hn : n ≤ 2147483647) :
  Calls Tryz.prog 20 #[.slice a n c] w fun e w' => ∃ va vc,e = .returned (.slice va n vc) ∧ w'.ownsRow w.heap.size 40 4 (.slice va n vc) n fl ∧ Below w.heap.size w w':=by
 by_cases ha : a = none
 ·subst ha
  have hn0 : n = 0:=by
   rcases h with h | ⟨b,off,e,_⟩
   ·exact h
   ·cases e
  subst hn0
  have hl0 : fl = []:=List.eq_nil_of_length_eq_zero (by omega)
  subst hl0
  clear h hl
  go_enter Tryz.func20,Tryz.ntmps20
  go_wp2_with (first | (at_builtin; refine app_nil20 _ rfl (.const (.slice none 0 0)) (.tmp 3) rfl c rfl rfl ?_))
  go_ret
  exact ⟨none,0,rfl,World.ownsRow_nil _ _ _ _,Below.refl _ _⟩
 ·obtain ⟨ad,rfl⟩:=Option.ne_none_iff_exists'.1 ha
  have hu : ∀ (j : Nat) (y : Value),fl[j]? = some y → w.cell? (ad.add j) = some y:=fun j y hj => by
   have hj':=lt_of_get hj
   rcases h with h | ⟨b,off,e,hcell⟩
   ·omega
   ·have e:=Option.some.inj e
    subst e
    have hplain : (⟨b,off,none⟩ : Addr).add j = ⟨b,off + j,none⟩:=by unfold Addr.add; split <;> simp_all
    rw [hplain]
    exact hcell j y hj
  have HU:=hid hu
  have H1:=hid h1
  obtain ⟨i0,hi,hz0,hz1,hz2⟩:=info_parts Tryz.inf20
  clear hu h ha h1
  go_enter Tryz.func20,Tryz.ntmps20
  go_wp2_with (first | (at_builtin; refine wpList_append_own _ rfl (.const (.slice none 0 0)) (.tmp 3) 22 rfl w.heap.size 40 i0 _ 4 64 Tryz.underlying22 hi hz0 hz1 hz2 rfl (by decide) _ 0 [] rfl (World.ownsRow_nil _ _ _ _) ad n c fl rfl hl HU.out H1.out (by unfold maxLen; omega) (by omega) (Nat.le_refl _) ?_; intro v' w' hown hg _; have HO:=hid hown; have HB:=hid ((Kept.of_grown hg).to_below (Nat.le_refl w.heap.size) (fun k hk e => by cases e)); clear hown hg))
  obtain ⟨va,vc,hv,_⟩ : ∃ va vc,v' = .slice va n vc ∧ True:=by
   rcases HO.out.2 with ⟨h0,h1⟩ | ⟨g,cp,cur,h1,_⟩
   ·exact ⟨none,0,by rw [h0]; congr 1; omega,trivial⟩
   ·exact ⟨_,_,by rw [h1]; congr 1; omega,trivial⟩
  subst hv
  go_ret
  exact ⟨va,vc,rfl,by simpa using HO.out,HB.out⟩
theorem Tryz.inf21 : (Tryz.prog.info? 5).map (fun i => (i.zero,i.size,i.bytes)) = some (some (.int .u8 0),1,1):=by kernel_rfl
theorem app_nil21 (w : World) {ops : Array Oper} {rest : List Oper} {o : Oper} {a : Act} {Q : Exit → Act → World → Prop} (hgd : o.guard = none)
  (s x : Operand) (ho : o.op = Op.call { callee:=Callee.builtin Builtin.append,args:=#[s,x],argTypes:=#[44,44] })
  (c : Nat) (hs : a.eval s = .slice none 0 0) (hx : a.eval x = .slice none 0 c) (h : wpList Tryz.prog ops Q rest (a.put o.dst (.slice none 0 0)) w) : wpList Tryz.prog ops Q (o :: rest) a w:=by
 obtain ⟨i0,hi,_⟩:=info_parts Tryz.inf21
 refine wpList_plain hgd fun K hK => ?_
 unfold Oper.wp
 simp [execOp,ho,resolve,invoke,builtin,hs,hx,Builtin.append_,run_underlying Tryz.underlying44,sizeOf,typeInfo,hi,Builtin.lenOf,Builtin.firstCells,Result.andThen]
 exact hK _ _ h
theorem copy21 (a : Option Addr) (n c : Nat) (fl : List Value) (w : World) (h : Fl w a n fl) (hl : fl.length = n * 1) (h1 : ∀ u ∈ fl,u.oneCell' = true) (hn : n ≤ 2147483647) :
  Calls Tryz.prog 21 #[.slice a n c] w fun e w' => ∃ va vc,e = .returned (.slice va n vc) ∧ w'.ownsRow w.heap.size 5 1 (.slice va n vc) n fl ∧ Below w.heap.size w w':=by
 by_cases ha : a = none
 ·subst ha
  have hn0 : n = 0:=by
   rcases h with h | ⟨b,off,e,_⟩
   ·exact h
   ·cases e
  subst hn0
  have hl0 : fl = []:=List.eq_nil_of_length_eq_zero (by omega)
  subst hl0
  clear h hl
  go_enter Tryz.func21,Tryz.ntmps21
  go_wp2_with (first | (at_builtin; refine app_nil21 _ rfl (.const (.slice none 0 0)) (.tmp 3) rfl c rfl rfl ?_))
  go_ret
  exact ⟨none,0,rfl,World.ownsRow_nil _ _ _ _,Below.refl _ _⟩
 ·obtain ⟨ad,rfl⟩:=Option.ne_none_iff_exists'.1 ha
  have hu : ∀ (j : Nat) (y : Value),fl[j]? = some y → w.cell? (ad.add j) = some y:=fun j y hj => by
   have hj':=lt_of_get hj
   rcases h with h | ⟨b,off,e,hcell⟩
   ·omega
   ·have e:=Option.some.inj e
    subst e
    have hplain : (⟨b,off,none⟩ : Addr).add j = ⟨b,off + j,none⟩:=by unfold Addr.add; split <;> simp_all
    rw [hplain]
    exact hcell j y hj
  have HU:=hid hu
  have H1:=hid h1
  obtain ⟨i0,hi,hz0,hz1,hz2⟩:=info_parts Tryz.inf21
  clear hu h ha h1
  go_enter Tryz.func21,Tryz.ntmps21
  go_wp2_with (first | (at_builtin; refine wpList_append_own _ rfl (.const (.slice none 0 0)) (.tmp 3) 44 rfl w.heap.size 5 i0 _ 1 1 Tryz.underlying44 hi hz0 hz1 hz2 rfl (by decide) _ 0 [] rfl (World.ownsRow_nil _ _ _ _) ad n c fl rfl hl HU.out H1.out (by unfold maxLen; omega) (by omega) (Nat.le_refl _) ?_; intro v' w' hown hg _; have HO:=hid hown; have HB:=hid ((Kept.of_grown hg).to_below (Nat.le_refl w.heap.size) (fun k hk e => by cases e)); clear hown hg))
  obtain ⟨va,vc,hv,_⟩ : ∃ va vc,v' = .slice va n vc ∧ True:=by
   rcases HO.out.2 with ⟨h0,h1⟩ | ⟨g,cp,cur,h1,_⟩
   ·exact ⟨none,0,by rw [h0]; congr 1; omega,trivial⟩
   ·exact ⟨_,_,by rw [h1]; congr 1; omega,trivial⟩
  subst hv
  go_ret
  exact ⟨va,vc,rfl,by simpa using HO.out,HB.out⟩
theorem Tryz.inf32 : (Tryz.prog.info? 43).map (fun i => (i.zero,i.size,i.bytes)) = some (some (.int .u64 0),1,8):=by kernel_rfl
theorem app_nil32 (w : World) {ops : Array Oper} {rest : List Oper} {o : Oper} {a : Act} {Q : Exit → Act → World → Prop} (hgd : o.guard = none)
  (s x : Operand) (ho : o.op = Op.call { callee:=Callee.builtin Builtin.append,args:=#[s,x],argTypes:=#[23,23] })
  (c : Nat) (hs : a.eval s = .slice none 0 0) (hx : a.eval x = .slice none 0 c) (h : wpList Tryz.prog ops Q rest (a.put o.dst (.slice none 0 0)) w) : wpList Tryz.prog ops Q (o :: rest) a w:=by
 obtain ⟨i0,hi,_⟩:=info_parts Tryz.inf32
 refine wpList_plain hgd fun K hK => ?_
 unfold Oper.wp
 simp [execOp,ho,resolve,invoke,builtin,hs,hx,Builtin.append_,run_underlying Tryz.underlying23,sizeOf,typeInfo,hi,Builtin.lenOf,Builtin.firstCells,Result.andThen]
 exact hK _ _ h
theorem copy32 (a : Option Addr) (n c : Nat) (fl : List Value) (w : World) (h : Fl w a n fl) (hl : fl.length = n * 1) (h1 : ∀ u ∈ fl,u.oneCell' = true) (hn : n ≤ 2147483647) :
  Calls Tryz.prog 32 #[.slice a n c] w fun e w' => ∃ va vc,e = .returned (.slice va n vc) ∧ w'.ownsRow w.heap.size 43 1 (.slice va n vc) n fl ∧ Below w.heap.size w w':=by
 by_cases ha : a = none
 ·subst ha
  have hn0 : n = 0:=by
   rcases h with h | ⟨b,off,e,_⟩
   ·exact h
   ·cases e
  subst hn0
  have hl0 : fl = []:=List.eq_nil_of_length_eq_zero (by omega)
  subst hl0
  clear h hl
  go_enter Tryz.func32,Tryz.ntmps32
  go_wp2_with (first | (at_builtin; refine app_nil32 _ rfl (.tmp 4) (.tmp 5) rfl c rfl rfl ?_))
  go_ret
  exact ⟨none,0,rfl,World.ownsRow_nil _ _ _ _,Below.refl _ _⟩
 ·obtain ⟨ad,rfl⟩:=Option.ne_none_iff_exists'.1 ha
  have hu : ∀ (j : Nat) (y : Value),fl[j]? = some y → w.cell? (ad.add j) = some y:=fun j y hj => by
   have hj':=lt_of_get hj
   rcases h with h | ⟨b,off,e,hcell⟩
   ·omega
   ·have e:=Option.some.inj e
    subst e
    have hplain : (⟨b,off,none⟩ : Addr).add j = ⟨b,off + j,none⟩:=by unfold Addr.add; split <;> simp_all
    rw [hplain]
    exact hcell j y hj
  have HU:=hid hu
  have H1:=hid h1
  obtain ⟨i0,hi,hz0,hz1,hz2⟩:=info_parts Tryz.inf32
  clear hu h ha h1
  go_enter Tryz.func32,Tryz.ntmps32
  go_wp2_with (first | (at_builtin; refine wpList_append_own _ rfl (.tmp 4) (.tmp 5) 23 rfl w.heap.size 43 i0 _ 1 8 Tryz.underlying23 hi hz0 hz1 hz2 rfl (by decide) _ 0 [] rfl (World.ownsRow_nil _ _ _ _) ad n c fl rfl hl HU.out H1.out (by unfold maxLen; omega) (by omega) (Nat.le_refl _) ?_; intro v' w' hown hg _; have HO:=hid hown; have HB:=hid ((Kept.of_grown hg).to_below (Nat.le_refl w.heap.size) (fun k hk e => by cases e)); clear hown hg))
  obtain ⟨va,vc,hv,_⟩ : ∃ va vc,v' = .slice va n vc ∧ True:=by
   rcases HO.out.2 with ⟨h0,h1⟩ | ⟨g,cp,cur,h1,_⟩
   ·exact ⟨none,0,by rw [h0]; congr 1; omega,trivial⟩
   ·exact ⟨_,_,by rw [h1]; congr 1; omega,trivial⟩
  subst hv
  go_ret
  exact ⟨va,vc,rfl,by simpa using HO.out,HB.out⟩
theorem Tryz.inf41 : (Tryz.prog.info? 5).map (fun i => (i.zero,i.size,i.bytes)) = some (some (.int .u8 0),1,1):=by kernel_rfl
theorem app_nil41 (w : World) {ops : Array Oper} {rest : List Oper} {o : Oper} {a : Act} {Q : Exit → Act → World → Prop} (hgd : o.guard = none)
  (s x : Operand) (ho : o.op = Op.call { callee:=Callee.builtin Builtin.append,args:=#[s,x],argTypes:=#[44,44] })
  (c : Nat) (hs : a.eval s = .slice none 0 0) (hx : a.eval x = .slice none 0 c) (h : wpList Tryz.prog ops Q rest (a.put o.dst (.slice none 0 0)) w) : wpList Tryz.prog ops Q (o :: rest) a w:=by
 obtain ⟨i0,hi,_⟩:=info_parts Tryz.inf41
 refine wpList_plain hgd fun K hK => ?_
 unfold Oper.wp
 simp [execOp,ho,resolve,invoke,builtin,hs,hx,Builtin.append_,run_underlying Tryz.underlying44,sizeOf,typeInfo,hi,Builtin.lenOf,Builtin.firstCells,Result.andThen]
 exact hK _ _ h
theorem copy41 (a : Option Addr) (n c : Nat) (fl : List Value) (w : World) (h : Fl w a n fl) (hl : fl.length = n * 1) (h1 : ∀ u ∈ fl,u.oneCell' = true) (hn : n ≤ 2147483647) :
  Calls Tryz.prog 41 #[.slice a n c] w fun e w' => ∃ va vc,e = .returned (.slice va n vc) ∧ w'.ownsRow w.heap.size 5 1 (.slice va n vc) n fl ∧ Below w.heap.size w w':=by
 by_cases ha : a = none
 ·subst ha
  have hn0 : n = 0:=by
   rcases h with h | ⟨b,off,e,_⟩
   ·exact h
   ·cases e
  subst hn0
  have hl0 : fl = []:=List.eq_nil_of_length_eq_zero (by omega)
  subst hl0
  clear h hl
  go_enter Tryz.func41,Tryz.ntmps41
  go_wp2_with (first | (at_builtin; refine app_nil41 _ rfl (.tmp 4) (.tmp 5) rfl c rfl rfl ?_))
  go_ret
  exact ⟨none,0,rfl,World.ownsRow_nil _ _ _ _,Below.refl _ _⟩
 ·obtain ⟨ad,rfl⟩:=Option.ne_none_iff_exists'.1 ha
  have hu : ∀ (j : Nat) (y : Value),fl[j]? = some y → w.cell? (ad.add j) = some y:=fun j y hj => by
   have hj':=lt_of_get hj
   rcases h with h | ⟨b,off,e,hcell⟩
   ·omega
   ·have e:=Option.some.inj e
    subst e
    have hplain : (⟨b,off,none⟩ : Addr).add j = ⟨b,off + j,none⟩:=by unfold Addr.add; split <;> simp_all
    rw [hplain]
    exact hcell j y hj
  have HU:=hid hu
  have H1:=hid h1
  obtain ⟨i0,hi,hz0,hz1,hz2⟩:=info_parts Tryz.inf41
  clear hu h ha h1
  go_enter Tryz.func41,Tryz.ntmps41
  go_wp2_with (first | (at_builtin; refine wpList_append_own _ rfl (.tmp 4) (.tmp 5) 44 rfl w.heap.size 5 i0 _ 1 1 Tryz.underlying44 hi hz0 hz1 hz2 rfl (by decide) _ 0 [] rfl (World.ownsRow_nil _ _ _ _) ad n c fl rfl hl HU.out H1.out (by unfold maxLen; omega) (by omega) (Nat.le_refl _) ?_; intro v' w' hown hg _; have HO:=hid hown; have HB:=hid ((Kept.of_grown hg).to_below (Nat.le_refl w.heap.size) (fun k hk e => by cases e)); clear hown hg))
  obtain ⟨va,vc,hv,_⟩ : ∃ va vc,v' = .slice va n vc ∧ True:=by
   rcases HO.out.2 with ⟨h0,h1⟩ | ⟨g,cp,cur,h1,_⟩
   ·exact ⟨none,0,by rw [h0]; congr 1; omega,trivial⟩
   ·exact ⟨_,_,by rw [h1]; congr 1; omega,trivial⟩
  subst hv
  go_ret
  exact ⟨va,vc,rfl,by simpa using HO.out,HB.out⟩
end Go.Proofs.YtmgjhfookhaajaaGreatDoor

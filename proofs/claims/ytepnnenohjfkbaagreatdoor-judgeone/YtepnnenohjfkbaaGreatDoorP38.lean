/-
  Texts Je Jf Jg Jh Ji Jj.
-/
import Derived.BigQuiet
import Derived.Deep.QuietTactic
import Derived.Test.YtepnnenohjfkbaaGreatDoorP37
set_option linter.unusedVariables false
set_option maxRecDepth 100000
set_option maxHeartbeats 16000000
namespace Go.Proofs.YtepnnenohjfkbaaGreatDoor
open Go.RowKit
def di (sh : Nat → ByteArray) (l : List (Nat × ByteArray)) : Bool:=l.all fun p => (sh p.1).toList == p.2.toList
section
variable {g : Jg} {w : World}
theorem ni (h : Jw g w) (hN : g.N ≤ 2048) {pb poff n cap : Nat} {l : List (Nat × ByteArray)} (hl : l.length = n) (hn : n ≤ 1000000) (hc : ∀ (j : Nat) p,l[j]? = some p → w.cell? ⟨pb,poff + j * 2,none⟩ = some (.int .i64 (p.1 : Nat)) ∧ w.cell? ⟨pb,poff + j * 2 + 1,none⟩ = some (.string p.2) ∧ p.1 < g.N) :
  Calls Tryz.prog 93 #[.pointer (some ⟨g.J,0,none⟩),.slice (some ⟨pb,poff,none⟩) n cap] w fun e w' => e = .returned (.bool (di g.sh l)) ∧ Below w.heap.size w w':=by
 have HJ:=hid h;have HC:=hid hc;have HLL:=hid hl;clear h hc hl
 go_enter Tryz.func93,Tryz.ntmps93
 go_wp2_with fail
 go_loopw [9] (fun ix wr => ∃ k : Nat,k ≤ n ∧ ix = .int .i64 k ∧ di g.sh l = di g.sh (l.drop k) ∧ Below w.heap.size w wr) (fun ix _ => n - (intOf ix).toNat)
 case atStart => exact ⟨0,Nat.zero_le _,rfl,rfl,Below.refl _ _⟩
 case round =>
  obtain ⟨k,hk,rfl,hin,hbr⟩:=hrel;have HIN:=hid hin;have HBR:=hid hbr;clear hin
  by_cases hkl : k < n
  ·have hkl2 : (k : Int) < (n : Int):=by omega
   obtain ⟨p,hp⟩ : ∃ p,l[k]? = some p:=⟨_,List.getElem?_eq_getElem (by rw [HLL.out]; exact hkl)⟩
   obtain ⟨c0,c1,hpN⟩:=HC.out k p hp
   have HDR:=hid (show di g.sh (l.drop k) = (((g.sh p.1).toList == p.2.toList) && di g.sh (l.drop (k + 1))) by
    rw [List.drop_eq_getElem_cons (by rw [HLL.out]; exact hkl)]
    have : l[k]'(by rw [HLL.out]; exact hkl) = p:=by
     rw [List.getElem?_eq_getElem (by rw [HLL.out]; exact hkl)] at hp
     exact Option.some.inj hp
    rw [this]
    rfl)
   obtain ⟨pc,ss⟩:=p;dsimp only at *;have d0:=ae hbr c0;have d1:=ae hbr c1;have BN:=ag wr (.cells #[.int .i64 (pc : Nat),.string ss] 150);have hJ2:=HJ.out.later (hbr.trans (BN.mono hbr.size));have s0:=hJ2.s;have s1:=hJ2.shs pc hpN
   have hpN2 : (pc : Int) < (g.N : Int):=by omega
   have HB2:=hid (hbr.trans (BN.mono hbr.size))
   have BQ:=hid (fun (q : Nat) => (below_drewN (wr.alloc (.cells #[.int .i64 (pc : Nat),.string ss] 150)) q).mono HB2.out.size)
   clear c0 c1 hJ2 BN hp hbr;generalize g.sh pc = sp at *
   cases hq : (sp.toList == ss.toList) with
   | true =>
    have hq2 : (sp.toList != ss.toList) = false:=by rw [bne,hq]; rfl
    rw [hq] at HDR;go_wp2_with fail
    go_quiet (fail)
    go_wp2_with fail
    exact ⟨⟨k + 1,by omega,by go_num,HIN.out.trans HDR.out,HB2.out.trans (BQ.out _)⟩,by simp [intOf]; omega⟩
   | false =>
    have hq2 : (sp.toList != ss.toList) = true:=by rw [bne,hq]; rfl
    rw [hq] at HDR;go_wp2_with fail
    go_quiet (fail)
    go_wp2_with fail;go_ret
    exact ⟨by rw [HIN.out,HDR.out]; rfl,HB2.out.trans (BQ.out _)⟩
  ·have hkl2 : ¬ (k : Int) < (n : Int):=by omega
   have HE:=hid (show di g.sh (l.drop k) = true by rw [List.drop_eq_nil_of_le (by rw [HLL.out]; omega)]; rfl)
   go_wp2_with fail;go_ret
   exact ⟨by rw [HIN.out,HE.out]; rfl,HBR.out⟩
theorem jB {wd : ByteArray} (hw : (wd.toList == [103,101,116]) = true ∨ ((wd.toList == [103,101,116]) = false ∧ (wd.toList == [103,103,101,116]) = true)) (c : Int) (hc : c = 119 ∨ c = 108) :
  Calls Tryz.prog 259 #[.string wd,.int .u8 c] w fun e w' => e = .returned (.agg #[.string ⟨#[]⟩,.string (ltr c)]) ∧ Below w.heap.size w w':=by
 rcases hw with h1 | ⟨h0,h1⟩ <;> rcases hc with rfl | rfl
 all_goals
  go_enter Tryz.func259,Tryz.ntmps259
  go_wp2_with fail;refine bodyPost_ret (v:=.agg #[.string ⟨#[]⟩,.string (ltr _)]) ?_ rfl ⟨rfl,ag _ _⟩;rw [ay rfl];go_simp
  simp [tJ,tm,ltr]
theorem qw {wd : ByteArray} (h0 : (wd.toList == [103,101,116]) = false) (h1 : (wd.toList == [103,103,101,116]) = false) (h2 : (wd.toList == [116,101,101]) = true) (c : Int) (hc : c = 119 ∨ c = 108) :
  Calls Tryz.prog 259 #[.string wd,.int .u8 c] w fun e w' => e = .returned (.agg #[.string (ltr c),.string (ltr c)]) ∧ Below w.heap.size w w':=by
 rcases hc with rfl | rfl
 all_goals
  go_enter Tryz.func259,Tryz.ntmps259
  go_wp2_with fail;refine bodyPost_ret (v:=.agg #[.string (ltr _),.string (ltr _)]) ?_ rfl ⟨rfl,ag _ _⟩;rw [ay rfl];go_simp
  simp [tJ,tm,ltr]
theorem jv {wd : ByteArray} (h0 : (wd.toList == [103,101,116]) = false) (h1 : (wd.toList == [103,103,101,116]) = false) (h2 : (wd.toList == [116,101,101]) = false) (c : Int) (hc : c = 119 ∨ c = 108) :
  Calls Tryz.prog 259 #[.string wd,.int .u8 c] w fun e w' => e = .returned (.agg #[.string (ltr c),.string ⟨#[]⟩]) ∧ Below w.heap.size w w':=by
 rcases hc with rfl | rfl
 all_goals
  go_enter Tryz.func259,Tryz.ntmps259
  go_wp2_with fail;refine bodyPost_ret (v:=.agg #[.string (ltr _),.string ⟨#[]⟩]) ?_ rfl ⟨rfl,ag _ _⟩;rw [ay rfl];go_simp
  simp [tJ,tm,ltr]
end
section
variable {g : Jg} {w : World}
theorem BF : wdV 2 = ⟨#[98,108,111,99,107]⟩:=by kernel_rfl
theorem Bv : wdV 3 = ⟨#[108,111,111,112]⟩:=by kernel_rfl
theorem AO : wdV 4 = ⟨#[105,102]⟩:=by kernel_rfl
theorem Jw.at_ (h : Jw g w) {i : Nat} (hi : i < g.N) : w.cell? ⟨g.cb,g.coff + i * 3,none⟩ = some (.int .u8 (opF g.xs i)) ∧ w.cell? ⟨g.cb,g.coff + i * 3 + 1,none⟩ = some (.int .i64 (g.xs.getD i dx).a) ∧ w.cell? ⟨g.cb,g.coff + i * 3 + 2,none⟩ = some (.slice (g.xs.getD i dx).la (g.xs.getD i dx).ln (g.xs.getD i dx).lc) ∧ w.cell? ⟨g.RB,i * 6 + 1,none⟩ = some (.string (wdV (opF g.xs i))) :=
 ⟨h.cod.op hi,h.cod.num hi,h.cod.lab hi,h.rows i hi 1 (by omega)⟩
theorem lq {w W : World} (h : Below w.heap.size w W) {u v : Value} {o : Obj} : Below w.heap.size w (((W.setCell ⟨w.heap.size,0,none⟩ u).setCell ⟨w.heap.size,1,none⟩ v).alloc o):=by
 have h1:=aN (i:=0) (u:=u) h (Nat.le_refl _) h.size;have h2:=aN (i:=1) (u:=v) h1 (Nat.le_refl _) h1.size;exact h2.trans ((ag _ _).mono h2.size)
theorem gp {m : MM} (hTS : ∀ a,(aH m a).1.size ≤ 8) (R : ByteArray) (xs : List Inx) (o : Int) : (bn m R xs o).1.1.size ≤ 8:=by
 unfold bn
 split
 ·exact Nat.zero_le _
 ·split
  ·exact hTS _
  ·exact Nat.zero_le _
theorem jR (h : Jw g w) (hN : g.N ≤ 2048) (hT : g.m.tn ≤ 1000000) (hTS : ∀ a,(aH g.m a).1.size ≤ 8) {i : Nat} (hi : i < g.N) (hc : opF g.xs i = 2 ∨ opF g.xs i = 3) :
  Calls Tryz.prog 213 #[.pointer (some ⟨g.J,0,none⟩),.int .i64 i] w fun e w' => e = .returned (.tuple #[.agg #[.string (bn g.m g.R g.xs i).1.1,.string (bn g.m g.R g.xs i).1.1],.bool (bn g.m g.R g.xs i).2]) ∧ Below w.heap.size w w':=by
 have B0:=ag w (.cells #[.string ⟨#[]⟩,.string ⟨#[]⟩] 206);have h0:=h.later B0;obtain ⟨a0,a1,a2,_⟩:=h0.at_ hi;have jc:=h0.c
 have hi2 : (i : Int) < (g.N : Int):=by omega
 have B1:=ag (w.alloc (.cells #[.string ⟨#[]⟩,.string ⟨#[]⟩] 206)) (.cells #[.int .u8 (opF g.xs i),.int .i64 (g.xs.getD i dx).a,.slice (g.xs.getD i dx).la (g.xs.getD i dx).ln (g.xs.getD i dx).lc] 51);have h1:=h0.later B1;have jr:=h1.rw;have a3:=(h1.at_ hi).2.2.2;have BB:=B0.trans (B1.mono B0.size);have r0:=aj B1 (heap_alloc_new w (.cells #[.string ⟨#[]⟩,.string ⟨#[]⟩] 206))
 have H14:=hid (fun (W : World) (hb : Below ((w.alloc (.cells #[.string ⟨#[]⟩,.string ⟨#[]⟩] 206)).alloc (.cells #[.int .u8 (opF g.xs i),.int .i64 (g.xs.getD i dx).a,.slice (g.xs.getD i dx).la (g.xs.getD i dx).ln (g.xs.getD i dx).lc] 51)).heap.size ((w.alloc (.cells #[.string ⟨#[]⟩,.string ⟨#[]⟩] 206)).alloc (.cells #[.int .u8 (opF g.xs i),.int .i64 (g.xs.getD i dx).a,.slice (g.xs.getD i dx).la (g.xs.getD i dx).ln (g.xs.getD i dx).lc] 51)) W) => lg (h1.later hb) hN hT (o:=(i : Int)) (.inr ⟨i,rfl,hi⟩))
 have HBW:=hid (Below.refl ((w.alloc (.cells #[.string ⟨#[]⟩,.string ⟨#[]⟩] 206)).alloc (.cells #[.int .u8 (opF g.xs i),.int .i64 (g.xs.getD i dx).a,.slice (g.xs.getD i dx).la (g.xs.getD i dx).ln (g.xs.getD i dx).lc] 51)).heap.size ((w.alloc (.cells #[.string ⟨#[]⟩,.string ⟨#[]⟩] 206)).alloc (.cells #[.int .u8 (opF g.xs i),.int .i64 (g.xs.getD i dx).a,.slice (g.xs.getD i dx).la (g.xs.getD i dx).ln (g.xs.getD i dx).lc] 51)));have HBB:=hid BB;have HR0:=hid r0;clear h h0 h1 B0 B1 BB r0;have hPa:=gp hTS g.R g.xs i;generalize bn g.m g.R g.xs i = sg at *;obtain ⟨⟨Pa,Re⟩,ok⟩:=sg;dsimp only at H14 hPa ⊢;generalize opF g.xs i = c at *;generalize (g.xs.getD i dx).a = a at *;generalize (g.xs.getD i dx).la = la at *;generalize (g.xs.getD i dx).ln = ln at *;generalize (g.xs.getD i dx).lc = lc at *
 go_enter Tryz.func213,Tryz.ntmps213
 rcases hc with hc | hc
 ·rw [(congrArg wdV hc).trans BF] at a3;clear hc;go_wp2_with fail;refine (H14.out _ HBW.out).mono ?_;rintro e w2 ⟨rfl,hb2⟩;have r2:=aj hb2 HR0.out;have x0 : w2.cell? ⟨w.heap.size,0,none⟩ = some (.string ⟨#[]⟩):=ai r2;have x1 : w2.cell? ⟨w.heap.size,1,none⟩ = some (.string ⟨#[]⟩):=ai r2;have f0 : w2.frozen? ⟨w.heap.size,0,none⟩ = false:=free_at r2;have f1 : w2.frozen? ⟨w.heap.size,1,none⟩ = false:=free_at r2;have hwl : w.heap.size < w2.heap.size:=az r2;have HB2:=hid (HBB.out.trans (hb2.mono HBB.out.size));clear hb2 r2;go_wp2_with fail;refine bodyPost_ret (v:=.tuple #[.agg #[.string Pa,.string Pa],.bool ok]) ?_ rfl ⟨rfl,?_⟩
  ·rw [results_cell_tmp rfl];go_simp
  ·exact lq HB2.out
 ·rw [(congrArg wdV hc).trans Bv] at a3;clear hc;go_wp2_with fail;refine (H14.out _ HBW.out).mono ?_;rintro e w2 ⟨rfl,hb2⟩;have r2:=aj hb2 HR0.out;have x0 : w2.cell? ⟨w.heap.size,0,none⟩ = some (.string ⟨#[]⟩):=ai r2;have x1 : w2.cell? ⟨w.heap.size,1,none⟩ = some (.string ⟨#[]⟩):=ai r2;have f0 : w2.frozen? ⟨w.heap.size,0,none⟩ = false:=free_at r2;have f1 : w2.frozen? ⟨w.heap.size,1,none⟩ = false:=free_at r2;have hwl : w.heap.size < w2.heap.size:=az r2;have HB2:=hid (HBB.out.trans (hb2.mono HBB.out.size));clear hb2 r2;go_wp2_with fail;refine bodyPost_ret (v:=.tuple #[.agg #[.string Pa,.string Pa],.bool ok]) ?_ rfl ⟨rfl,?_⟩
  ·rw [results_cell_tmp rfl];go_simp
  ·exact lq HB2.out
theorem lX (h : Jw g w) (hN : g.N ≤ 2048) (hT : g.m.tn ≤ 1000000) (hTS : ∀ a,(aH g.m a).1.size ≤ 8) {i : Nat} (hi : i < g.N) (hc : opF g.xs i = 4) :
  Calls Tryz.prog 213 #[.pointer (some ⟨g.J,0,none⟩),.int .i64 i] w fun e w' => e = .returned (.tuple #[.agg #[.string ((bn g.m g.R g.xs i).1.1 ++ ⟨#[119]⟩),.string (bn g.m g.R g.xs i).1.1],.bool (bn g.m g.R g.xs i).2]) ∧ Below w.heap.size w w':=by
 have B0:=ag w (.cells #[.string ⟨#[]⟩,.string ⟨#[]⟩] 206);have h0:=h.later B0;obtain ⟨a0,a1,a2,_⟩:=h0.at_ hi;have jc:=h0.c
 have hi2 : (i : Int) < (g.N : Int):=by omega
 have B1:=ag (w.alloc (.cells #[.string ⟨#[]⟩,.string ⟨#[]⟩] 206)) (.cells #[.int .u8 (opF g.xs i),.int .i64 (g.xs.getD i dx).a,.slice (g.xs.getD i dx).la (g.xs.getD i dx).ln (g.xs.getD i dx).lc] 51);have h1:=h0.later B1;have jr:=h1.rw;have a3:=(h1.at_ hi).2.2.2;have BB:=B0.trans (B1.mono B0.size);have r0:=aj B1 (heap_alloc_new w (.cells #[.string ⟨#[]⟩,.string ⟨#[]⟩] 206))
 have H14:=hid (fun (W : World) (hb : Below ((w.alloc (.cells #[.string ⟨#[]⟩,.string ⟨#[]⟩] 206)).alloc (.cells #[.int .u8 (opF g.xs i),.int .i64 (g.xs.getD i dx).a,.slice (g.xs.getD i dx).la (g.xs.getD i dx).ln (g.xs.getD i dx).lc] 51)).heap.size ((w.alloc (.cells #[.string ⟨#[]⟩,.string ⟨#[]⟩] 206)).alloc (.cells #[.int .u8 (opF g.xs i),.int .i64 (g.xs.getD i dx).a,.slice (g.xs.getD i dx).la (g.xs.getD i dx).ln (g.xs.getD i dx).lc] 51)) W) => lg (h1.later hb) hN hT (o:=(i : Int)) (.inr ⟨i,rfl,hi⟩))
 have HBW:=hid (Below.refl ((w.alloc (.cells #[.string ⟨#[]⟩,.string ⟨#[]⟩] 206)).alloc (.cells #[.int .u8 (opF g.xs i),.int .i64 (g.xs.getD i dx).a,.slice (g.xs.getD i dx).la (g.xs.getD i dx).ln (g.xs.getD i dx).lc] 51)).heap.size ((w.alloc (.cells #[.string ⟨#[]⟩,.string ⟨#[]⟩] 206)).alloc (.cells #[.int .u8 (opF g.xs i),.int .i64 (g.xs.getD i dx).a,.slice (g.xs.getD i dx).la (g.xs.getD i dx).ln (g.xs.getD i dx).lc] 51)));have HBB:=hid BB;have HR0:=hid r0;clear h h0 h1 B0 B1 BB r0;have hPa:=gp hTS g.R g.xs i;generalize bn g.m g.R g.xs i = sg at *;obtain ⟨⟨Pa,Re⟩,ok⟩:=sg;dsimp only at H14 hPa ⊢;generalize opF g.xs i = c at *;generalize (g.xs.getD i dx).a = a at *;generalize (g.xs.getD i dx).la = la at *;generalize (g.xs.getD i dx).ln = ln at *;generalize (g.xs.getD i dx).lc = lc at *
 go_enter Tryz.func213,Tryz.ntmps213
 rw [(congrArg wdV hc).trans AO] at a3;clear hc;go_wp2_with fail;refine (H14.out _ HBW.out).mono ?_;rintro e w2 ⟨rfl,hb2⟩;have r2:=aj hb2 HR0.out;have x0 : w2.cell? ⟨w.heap.size,0,none⟩ = some (.string ⟨#[]⟩):=ai r2;have x1 : w2.cell? ⟨w.heap.size,1,none⟩ = some (.string ⟨#[]⟩):=ai r2;have f0 : w2.frozen? ⟨w.heap.size,0,none⟩ = false:=free_at r2;have f1 : w2.frozen? ⟨w.heap.size,1,none⟩ = false:=free_at r2;have hwl : w.heap.size < w2.heap.size:=az r2;have HB2:=hid (HBB.out.trans (hb2.mono HBB.out.size));clear hb2 r2;go_wp2_with fail;refine bodyPost_ret (v:=.tuple #[.agg #[.string (Pa ++ ⟨#[119]⟩),.string Pa],.bool ok]) ?_ rfl ⟨rfl,?_⟩
 ·rw [results_cell_tmp rfl];go_simp
 ·exact lq HB2.out
end
def uk (c : Int) : Bool:=decide (c = 2) || decide (c = 3) || decide (c = 4) || decide (c = 8) || decide (c = 11) || decide (c = 12) || decide (c = 18) || decide (c = 19) || decide (c = 20) || decide (c = 21) || decide (c = 22)
theorem uN : ((List.range 256).all fun k => uk (k : Int) || ([[98,108,111,99,107],[108,111,111,112],[105,102],[98,114,105,102],[99,97,108,108],[104,111,115,116],[103,101,116],[115,101,116],[116,101,101],[103,103,101,116],[103,115,101,116]].all fun u => ((wdV (k : Int)).toList == u) == false)) = true:=by kernel_rfl
theorem sw {c : Int} (h0 : 0 ≤ c) (h1 : c ≤ 255) (hs : uk c = false) : ∀ u ∈ ([[98,108,111,99,107],[108,111,111,112],[105,102],[98,114,105,102],[99,97,108,108],[104,111,115,116],[103,101,116],[115,101,116],[116,101,101],[103,103,101,116],[103,115,101,116]] : List (List UInt8)),((wdV c).toList == u) = false:=by
 have h:=List.all_eq_true.1 uN c.toNat (by rw [List.mem_range]; omega)
 rw [show ((c.toNat : Nat) : Int) = c by omega,hs,Bool.false_or] at h
 intro u hu
 have:=List.all_eq_true.1 h u hu
 simpa using this
theorem uT {w W : World} (h : Below w.heap.size w W) {u v : Value} : Below w.heap.size w ((W.setCell ⟨w.heap.size,0,none⟩ u).setCell ⟨w.heap.size,1,none⟩ v).drew:=by
 have h1:=aN (i:=0) (u:=u) h (Nat.le_refl _) h.size;have h2:=aN (i:=1) (u:=v) h1 (Nat.le_refl _) h1.size;exact h2.drew
section
variable {g : Jg} {w : World}
theorem jg (h : Jw g w) (hN : g.N ≤ 2048) (hT : g.m.tn ≤ 1000000) (hTS : ∀ a,(aH g.m a).1.size ≤ 8) {i : Nat} (hi : i < g.N) (hc : uk (opF g.xs i) = false) :
  Calls Tryz.prog 213 #[.pointer (some ⟨g.J,0,none⟩),.int .i64 i] w fun e w' => e = .returned (.tuple #[.agg #[.string (ofV (opF g.xs i)).1.2.2.2.1,.string (ofV (opF g.xs i)).1.2.2.2.2.1],.bool true]) ∧ Below w.heap.size w w':=by
 have B0:=ag w (.cells #[.string ⟨#[]⟩,.string ⟨#[]⟩] 206);have h0:=h.later B0;obtain ⟨a0,a1,a2,_⟩:=h0.at_ hi;have jc:=h0.c
 have hi2 : (i : Int) < (g.N : Int):=by omega
 have B1:=ag (w.alloc (.cells #[.string ⟨#[]⟩,.string ⟨#[]⟩] 206)) (.cells #[.int .u8 (opF g.xs i),.int .i64 (g.xs.getD i dx).a,.slice (g.xs.getD i dx).la (g.xs.getD i dx).ln (g.xs.getD i dx).lc] 51);have h1:=h0.later B1;have jr:=h1.rw;have a3:=(h1.at_ hi).2.2.2;have BB:=B0.trans (B1.mono B0.size);have r0:=aj B1 (heap_alloc_new w (.cells #[.string ⟨#[]⟩,.string ⟨#[]⟩] 206))
 have a4 : _ = some (Value.string (ofV (opF g.xs i)).1.2.2.2.1):=h1.rows i hi 3 (by omega)
 have a5 : _ = some (Value.string (ofV (opF g.xs i)).1.2.2.2.2.1):=h1.rows i hi 4 (by omega)
 have hcr:=h1.cod.range hi;have hw:=sw hcr.1 hcr.2 hc;have x0 : ((w.alloc (.cells #[.string ⟨#[]⟩,.string ⟨#[]⟩] 206)).alloc (.cells #[.int .u8 (opF g.xs i),.int .i64 (g.xs.getD i dx).a,.slice (g.xs.getD i dx).la (g.xs.getD i dx).ln (g.xs.getD i dx).lc] 51)).cell? ⟨w.heap.size,0,none⟩ = some (.string ⟨#[]⟩):=ai r0;have x1 : ((w.alloc (.cells #[.string ⟨#[]⟩,.string ⟨#[]⟩] 206)).alloc (.cells #[.int .u8 (opF g.xs i),.int .i64 (g.xs.getD i dx).a,.slice (g.xs.getD i dx).la (g.xs.getD i dx).ln (g.xs.getD i dx).lc] 51)).cell? ⟨w.heap.size,1,none⟩ = some (.string ⟨#[]⟩):=ai r0;have f0 : ((w.alloc (.cells #[.string ⟨#[]⟩,.string ⟨#[]⟩] 206)).alloc (.cells #[.int .u8 (opF g.xs i),.int .i64 (g.xs.getD i dx).a,.slice (g.xs.getD i dx).la (g.xs.getD i dx).ln (g.xs.getD i dx).lc] 51)).frozen? ⟨w.heap.size,0,none⟩ = false:=free_at r0;have f1 : ((w.alloc (.cells #[.string ⟨#[]⟩,.string ⟨#[]⟩] 206)).alloc (.cells #[.int .u8 (opF g.xs i),.int .i64 (g.xs.getD i dx).a,.slice (g.xs.getD i dx).la (g.xs.getD i dx).ln (g.xs.getD i dx).lc] 51)).frozen? ⟨w.heap.size,1,none⟩ = false:=free_at r0;have HBB:=hid BB;have HR0:=hid r0;clear h h0 h1 B0 B1 BB r0 hcr hc;generalize (ofV (opF g.xs i)).1.2.2.2.1 = pp at *;generalize (ofV (opF g.xs i)).1.2.2.2.2.1 = ps at *;generalize wdV (opF g.xs i) = wd at *;generalize opF g.xs i = c at *;generalize (g.xs.getD i dx).a = a at *;generalize (g.xs.getD i dx).la = la at *;generalize (g.xs.getD i dx).ln = ln at *;generalize (g.xs.getD i dx).lc = lc at *
 go_enter Tryz.func213,Tryz.ntmps213
 have q0:=hw [98,108,111,99,107] (by simp)
 have q1:=hw [108,111,111,112] (by simp)
 have q2:=hw [105,102] (by simp)
 have q3:=hw [98,114,105,102] (by simp)
 have q4:=hw [99,97,108,108] (by simp)
 have q5:=hw [104,111,115,116] (by simp)
 have q6:=hw [103,101,116] (by simp)
 have q7:=hw [115,101,116] (by simp)
 have q8:=hw [116,101,101] (by simp)
 have q9:=hw [103,103,101,116] (by simp)
 have q10:=hw [103,115,101,116] (by simp)
 clear hw;go_wp2_with fail;generalize ((w.alloc (.cells #[.string ⟨#[]⟩,.string ⟨#[]⟩] 206)).alloc (.cells #[.int .u8 c,.int .i64 a,.slice la ln lc] 51)) = W1 at *
 go_region
 go_wp2_with fail;refine bodyPost_ret (v:=.tuple #[.agg #[.string pp,.string ps],.bool true]) ?_ rfl ⟨rfl,?_⟩
 ·rw [results_cell_tmp rfl];go_simp
 ·exact uT HBB.out
end
theorem qY {w W : World} (h : Below w.heap.size w W) {u v : Value} : Below w.heap.size w ((W.setCell ⟨w.heap.size,0,none⟩ u).setCell ⟨w.heap.size,1,none⟩ v):=by
 have h1:=aN (i:=0) (u:=u) h (Nat.le_refl _) h.size;exact aN (i:=1) (u:=v) h1 (Nat.le_refl _) h1.size
theorem Bg : wdV 8 = ⟨#[98,114,105,102]⟩:=by kernel_rfl
theorem CR {m : MM} (hTS : ∀ a,(aH m a).1.size ≤ 8 ∧ (aH m a).2.size ≤ 8) {R : ByteArray} (hR : R.size ≤ 8) (xs : List Inx) (i : Nat) (a : Int) : (ltV m R xs i a).1.size ≤ 8:=by
 have key : ∀ o,(bn m R xs o).1.1.size ≤ 8 ∧ (bn m R xs o).1.2.size ≤ 8:=fun o => by
  unfold bn
  split
  ·exact ⟨Nat.zero_le _,hR⟩
  ·split
   ·exact hTS _
   ·exact ⟨Nat.zero_le _,Nat.zero_le _⟩
 unfold ltV;dsimp only
 split
 ·exact (key _).1
 ·exact (key _).2
theorem gq {f : Int → ByteArray × Bool} (hf : ∀ a,(f a).1.size ≤ 8) : ∀ (l : List Int) (b : Bool) (c : ByteArray),c.size ≤ 8 → (aY f b c l).1.size ≤ 8
 | [],_,c,h => h
 | z :: l,b,c,h => by
  unfold aY
  split
  ·exact Nat.zero_le _
  ·split
   ·exact Nat.zero_le _
   ·exact gq hf l _ _ (hf z)
section
variable {g : Jg} {w : World}
theorem jQ (h : Jw g w) (hN : g.N ≤ 2048) (hT : g.m.tn ≤ 1000000) (hTS : ∀ a,(aH g.m a).1.size ≤ 8 ∧ (aH g.m a).2.size ≤ 8) (hR : g.R.size ≤ 8) {i : Nat} (hi : i < g.N) (hc : opF g.xs i = 8) :
  Calls Tryz.prog 213 #[.pointer (some ⟨g.J,0,none⟩),.int .i64 i] w fun e w' => e = .returned (.tuple #[.agg #[.string ((aY (ltV g.m g.R g.xs i) false ⟨#[]⟩ [(g.xs.getD i dx).a]).1 ++ ⟨#[119]⟩),.string (aY (ltV g.m g.R g.xs i) false ⟨#[]⟩ [(g.xs.getD i dx).a]).1],.bool (aY (ltV g.m g.R g.xs i) false ⟨#[]⟩ [(g.xs.getD i dx).a]).2]) ∧ Below w.heap.size w w':=by
 have B0:=ag w (.cells #[.string ⟨#[]⟩,.string ⟨#[]⟩] 206);have h0:=h.later B0;obtain ⟨a0,a1,a2,_⟩:=h0.at_ hi;have jc:=h0.c
 have hi2 : (i : Int) < (g.N : Int):=by omega
 have B1:=ag (w.alloc (.cells #[.string ⟨#[]⟩,.string ⟨#[]⟩] 206)) (.cells #[.int .u8 (opF g.xs i),.int .i64 (g.xs.getD i dx).a,.slice (g.xs.getD i dx).la (g.xs.getD i dx).ln (g.xs.getD i dx).lc] 51);have h1:=h0.later B1;have jr:=h1.rw;have a3:=(h1.at_ hi).2.2.2;have BB:=B0.trans (B1.mono B0.size);have r0:=aj B1 (heap_alloc_new w (.cells #[.string ⟨#[]⟩,.string ⟨#[]⟩] 206));have har:=(h1.cod.2 i hi).2.2.2.2.2
 have H16:=hid (fun (W : World) (hb : Below ((w.alloc (.cells #[.string ⟨#[]⟩,.string ⟨#[]⟩] 206)).alloc (.cells #[.int .u8 (opF g.xs i),.int .i64 (g.xs.getD i dx).a,.slice (g.xs.getD i dx).la (g.xs.getD i dx).ln (g.xs.getD i dx).lc] 51)).heap.size ((w.alloc (.cells #[.string ⟨#[]⟩,.string ⟨#[]⟩] 206)).alloc (.cells #[.int .u8 (opF g.xs i),.int .i64 (g.xs.getD i dx).a,.slice (g.xs.getD i dx).la (g.xs.getD i dx).ln (g.xs.getD i dx).lc] 51)) W) (b : Nat) (hs : W.cell? ⟨b,0,none⟩ = some (.int .i64 (g.xs.getD i dx).a)) => CF (h1.later hb) hN hT hi (la:=some ⟨b,0,none⟩) (ln:=1) (lc:=1) (l:=[(g.xs.getD i dx).a]) ⟨rfl,by omega,by omega,fun z hz => by rw [List.mem_singleton] at hz; subst hz; exact ⟨har.1,har.2.1⟩,.inr ⟨b,0,rfl,fun j hj => by obtain rfl : j = 0:=(by omega); exact hs⟩⟩ (by omega))
 have HR1:=hid (Below.refl ((w.alloc (.cells #[.string ⟨#[]⟩,.string ⟨#[]⟩] 206)).alloc (.cells #[.int .u8 (opF g.xs i),.int .i64 (g.xs.getD i dx).a,.slice (g.xs.getD i dx).la (g.xs.getD i dx).ln (g.xs.getD i dx).lc] 51)).heap.size ((w.alloc (.cells #[.string ⟨#[]⟩,.string ⟨#[]⟩] 206)).alloc (.cells #[.int .u8 (opF g.xs i),.int .i64 (g.xs.getD i dx).a,.slice (g.xs.getD i dx).la (g.xs.getD i dx).ln (g.xs.getD i dx).lc] 51)));have HBB:=hid BB;have HR0:=hid r0;clear h h0 h1 B0 B1 BB r0 har;have hPa:=gq (CR hTS hR g.xs i) [(g.xs.getD i dx).a] false ⟨#[]⟩ (Nat.zero_le _);generalize (aY (ltV g.m g.R g.xs i) false ⟨#[]⟩ [(g.xs.getD i dx).a]) = br at *;obtain ⟨Pa,ok⟩:=br;dsimp only at H16 hPa ⊢;generalize opF g.xs i = c at *;generalize (g.xs.getD i dx).a = a at *;generalize (g.xs.getD i dx).la = la at *;generalize (g.xs.getD i dx).ln = ln at *;generalize (g.xs.getD i dx).lc = lc at *
 go_enter Tryz.func213,Tryz.ntmps213
 rw [(congrArg wdV hc).trans Bg] at a3;clear hc;go_wp2_with fail;have B3:=ag ((w.alloc (.cells #[.string ⟨#[]⟩,.string ⟨#[]⟩] 206)).alloc (.cells #[.int .u8 c,.int .i64 a,.slice la ln lc] 51)) (.cells #[.int .i64 a] 3);have b3:=heap_alloc_new ((w.alloc (.cells #[.string ⟨#[]⟩,.string ⟨#[]⟩] 206)).alloc (.cells #[.int .u8 c,.int .i64 a,.slice la ln lc] 51)) (.cells #[.int .i64 a] 3)
 have hz3 : ((w.alloc (.cells #[.string ⟨#[]⟩,.string ⟨#[]⟩] 206)).alloc (.cells #[.int .u8 c,.int .i64 a,.slice la ln lc] 51)).heap.size = w.heap.size + 1 + 1:=by simp
 refine (H16.out _ B3 (w.heap.size + 1 + 1) (by rw [← hz3]; exact ai b3)).mono ?_
 rintro e w2 ⟨rfl,hb2⟩;have r2:=aj hb2 (aj B3 HR0.out);have x0 : w2.cell? ⟨w.heap.size,0,none⟩ = some (.string ⟨#[]⟩):=ai r2;have x1 : w2.cell? ⟨w.heap.size,1,none⟩ = some (.string ⟨#[]⟩):=ai r2;have f0 : w2.frozen? ⟨w.heap.size,0,none⟩ = false:=free_at r2;have f1 : w2.frozen? ⟨w.heap.size,1,none⟩ = false:=free_at r2;have HB3:=HBB.out.trans (B3.mono HBB.out.size);have HB2:=hid (HB3.trans (hb2.mono HB3.size));clear hb2 r2 B3 b3 hz3 HB3;go_wp2_with fail;refine bodyPost_ret (v:=.tuple #[.agg #[.string (Pa ++ ⟨#[119]⟩),.string Pa],.bool ok]) ?_ rfl ⟨rfl,?_⟩
 ·rw [results_cell_tmp rfl];go_simp
 ·exact qY HB2.out
end
theorem AP : wdV 12 = ⟨#[104,111,115,116]⟩:=by kernel_rfl
section
variable {g : Jg} {w : World}
theorem fB (h : Jw g w) (hN : g.N ≤ 2048) (hT : g.m.tn ≤ 1000000) (hTS : ∀ a,(aH g.m a).1.size ≤ 8) {i : Nat} (hi : i < g.N) (hc : opF g.xs i = 12) {num : Int} {fd : Bool} {Pa Re : ByteArray}
  (HF : Hid (∀ W,Below w.heap.size w W → Calls Tryz.prog 257 #[.slice g.m.ha g.m.hn g.m.hc,.int .i64 (g.xs.getD i dx).a] W fun e w' => e = .returned (.tuple #[.int .i64 num,.bool fd]) ∧ w' = W))
  (HG : Hid (∀ W,Below w.heap.size w W → Calls Tryz.prog 256 #[.pointer (some ⟨g.J,0,none⟩),.int .i64 num,.bool fd] W fun e w' => e = .returned (.tuple #[.agg #[.string Pa,.string Re],.bool fd]) ∧ Below W.heap.size W w')) :
  Calls Tryz.prog 213 #[.pointer (some ⟨g.J,0,none⟩),.int .i64 i] w fun e w' => e = .returned (.tuple #[.agg #[.string Pa,.string Re],.bool fd]) ∧ Below w.heap.size w w':=by
 have B0:=ag w (.cells #[.string ⟨#[]⟩,.string ⟨#[]⟩] 206);have h0:=h.later B0;obtain ⟨a0,a1,a2,_⟩:=h0.at_ hi;have jc:=h0.c
 have hi2 : (i : Int) < (g.N : Int):=by omega
 have B1:=ag (w.alloc (.cells #[.string ⟨#[]⟩,.string ⟨#[]⟩] 206)) (.cells #[.int .u8 (opF g.xs i),.int .i64 (g.xs.getD i dx).a,.slice (g.xs.getD i dx).la (g.xs.getD i dx).ln (g.xs.getD i dx).lc] 51);have h1:=h0.later B1;have jr:=h1.rw;have a3:=(h1.at_ hi).2.2.2;have BB:=B0.trans (B1.mono B0.size);have r0:=aj B1 (heap_alloc_new w (.cells #[.string ⟨#[]⟩,.string ⟨#[]⟩] 206));have j1:=h1.m1
 have x1 : ((w.alloc (.cells #[.string ⟨#[]⟩,.string ⟨#[]⟩] 206)).alloc (.cells #[.int .u8 (opF g.xs i),.int .i64 (g.xs.getD i dx).a,.slice (g.xs.getD i dx).la (g.xs.getD i dx).ln (g.xs.getD i dx).lc] 51)).cell? ⟨w.heap.size + 1,1,none⟩ = some (.int .i64 (g.xs.getD i dx).a):=by
  have:=heap_alloc_new (w.alloc (.cells #[.string ⟨#[]⟩,.string ⟨#[]⟩] 206)) (.cells #[.int .u8 (opF g.xs i),.int .i64 (g.xs.getD i dx).a,.slice (g.xs.getD i dx).la (g.xs.getD i dx).ln (g.xs.getD i dx).lc] 51)
  have hz : (w.alloc (.cells #[.string ⟨#[]⟩,.string ⟨#[]⟩] 206)).heap.size = w.heap.size + 1:=by simp
  rw [hz] at this;exact ai this
 have HBB:=hid BB;have HR0:=hid r0;clear h h0 h1 B0 B1 BB r0;generalize opF g.xs i = c at *;generalize (g.xs.getD i dx).a = a at *;generalize (g.xs.getD i dx).la = la at *;generalize (g.xs.getD i dx).ln = ln at *;generalize (g.xs.getD i dx).lc = lc at *
 go_enter Tryz.func213,Tryz.ntmps213
 have BQ:=hid (fun (q : Nat) => HBB.out.trans ((below_drewN ((w.alloc (.cells #[.string ⟨#[]⟩,.string ⟨#[]⟩] 206)).alloc (.cells #[.int .u8 c,.int .i64 a,.slice la ln lc] 51)) q).mono HBB.out.size))
 rw [(congrArg wdV hc).trans AP] at a3;clear hc;go_wp2_with fail
 go_quiet ((go_at_call 257; exact Calls.quiet_of_same (HF.out _ (BQ.out _))))
 go_wp2_with fail;refine (HG.out _ (BQ.out _)).mono ?_;rintro e w2 ⟨rfl,hb2⟩;have r2:=aj hb2 (aj (below_drewN ((w.alloc (.cells #[.string ⟨#[]⟩,.string ⟨#[]⟩] 206)).alloc (.cells #[.int .u8 c,.int .i64 a,.slice la ln lc] 51)) nq) HR0.out);have x0 : w2.cell? ⟨w.heap.size,0,none⟩ = some (.string ⟨#[]⟩):=ai r2;have x2 : w2.cell? ⟨w.heap.size,1,none⟩ = some (.string ⟨#[]⟩):=ai r2;have f0 : w2.frozen? ⟨w.heap.size,0,none⟩ = false:=free_at r2;have f1 : w2.frozen? ⟨w.heap.size,1,none⟩ = false:=free_at r2;have HB2:=hid ((BQ.out nq).trans (hb2.mono (BQ.out nq).size));clear hb2 r2;go_wp2_with fail;refine bodyPost_ret (v:=.tuple #[.agg #[.string Pa,.string Re],.bool fd]) ?_ rfl ⟨rfl,?_⟩
 ·rw [results_cell_tmp rfl];go_simp
 ·exact qY HB2.out
end
theorem wm : wdV 18 = ⟨#[103,101,116]⟩:=by kernel_rfl
theorem CO : wdV 19 = ⟨#[115,101,116]⟩:=by kernel_rfl
theorem CN : wdV 20 = ⟨#[116,101,101]⟩:=by kernel_rfl
section
variable {g : Jg} {w : World}
theorem f9 (h : Jw g w) (hN : g.N ≤ 2048) (hT : g.m.tn ≤ 1000000) (hTS : ∀ a,(aH g.m a).1.size ≤ 8) {i : Nat} (hi : i < g.N) (hc : opF g.xs i = 18 ∨ opF g.xs i = 19 ∨ opF g.xs i = 20) {num : Int} {fd : Bool} {Pa Re : ByteArray}
  (HF : Hid (∀ W,Below w.heap.size w W → Calls Tryz.prog 258 #[.slice (some ⟨g.L,0,none⟩) g.lo.length g.lc,.int .i64 (g.xs.getD i dx).a] W fun e w' => e = .returned (.tuple #[.int .u8 num,.bool fd]) ∧ w' = W))
  (HG : Hid (∀ W,Below w.heap.size w W → Calls Tryz.prog 259 #[.string (wdV (opF g.xs i)),.int .u8 num] W fun e w' => e = .returned (.agg #[.string Pa,.string Re]) ∧ Below W.heap.size W w')) :
  Calls Tryz.prog 213 #[.pointer (some ⟨g.J,0,none⟩),.int .i64 i] w fun e w' => e = .returned (.tuple #[.agg #[.string Pa,.string Re],.bool fd]) ∧ Below w.heap.size w w':=by
 have B0:=ag w (.cells #[.string ⟨#[]⟩,.string ⟨#[]⟩] 206);have h0:=h.later B0;obtain ⟨a0,a1,a2,_⟩:=h0.at_ hi;have jc:=h0.c
 have hi2 : (i : Int) < (g.N : Int):=by omega
 have B1:=ag (w.alloc (.cells #[.string ⟨#[]⟩,.string ⟨#[]⟩] 206)) (.cells #[.int .u8 (opF g.xs i),.int .i64 (g.xs.getD i dx).a,.slice (g.xs.getD i dx).la (g.xs.getD i dx).ln (g.xs.getD i dx).lc] 51);have h1:=h0.later B1;have jr:=h1.rw;have a3:=(h1.at_ hi).2.2.2;have BB:=B0.trans (B1.mono B0.size);have r0:=aj B1 (heap_alloc_new w (.cells #[.string ⟨#[]⟩,.string ⟨#[]⟩] 206));have j1:=h1.l
 have x1 : ((w.alloc (.cells #[.string ⟨#[]⟩,.string ⟨#[]⟩] 206)).alloc (.cells #[.int .u8 (opF g.xs i),.int .i64 (g.xs.getD i dx).a,.slice (g.xs.getD i dx).la (g.xs.getD i dx).ln (g.xs.getD i dx).lc] 51)).cell? ⟨w.heap.size + 1,1,none⟩ = some (.int .i64 (g.xs.getD i dx).a):=by
  have:=heap_alloc_new (w.alloc (.cells #[.string ⟨#[]⟩,.string ⟨#[]⟩] 206)) (.cells #[.int .u8 (opF g.xs i),.int .i64 (g.xs.getD i dx).a,.slice (g.xs.getD i dx).la (g.xs.getD i dx).ln (g.xs.getD i dx).lc] 51)
  have hz : (w.alloc (.cells #[.string ⟨#[]⟩,.string ⟨#[]⟩] 206)).heap.size = w.heap.size + 1:=by simp
  rw [hz] at this;exact ai this
 have HBB:=hid BB;have HR0:=hid r0;clear h h0 h1 B0 B1 BB r0;generalize opF g.xs i = c at *;generalize (g.xs.getD i dx).a = a at *;generalize (g.xs.getD i dx).la = la at *;generalize (g.xs.getD i dx).ln = ln at *;generalize (g.xs.getD i dx).lc = lc at *
 go_enter Tryz.func213,Tryz.ntmps213
 have BQ:=hid (fun (q : Nat) => HBB.out.trans ((below_drewN ((w.alloc (.cells #[.string ⟨#[]⟩,.string ⟨#[]⟩] 206)).alloc (.cells #[.int .u8 c,.int .i64 a,.slice la ln lc] 51)) q).mono HBB.out.size))
 rcases hc with hc | hc | hc
 ·rw [(congrArg wdV hc).trans wm] at a3 HG;clear hc;go_wp2_with fail
  go_quiet ((go_at_call 258; exact Calls.quiet_of_same (HF.out _ (BQ.out _))))
  go_wp2_with fail;refine (HG.out _ (BQ.out _)).mono ?_;rintro e w2 ⟨rfl,hb2⟩;have r2:=aj hb2 (aj (below_drewN ((w.alloc (.cells #[.string ⟨#[]⟩,.string ⟨#[]⟩] 206)).alloc (.cells #[.int .u8 c,.int .i64 a,.slice la ln lc] 51)) nq) HR0.out);have x0 : w2.cell? ⟨w.heap.size,0,none⟩ = some (.string ⟨#[]⟩):=ai r2;have x2 : w2.cell? ⟨w.heap.size,1,none⟩ = some (.string ⟨#[]⟩):=ai r2;have f0 : w2.frozen? ⟨w.heap.size,0,none⟩ = false:=free_at r2;have f1 : w2.frozen? ⟨w.heap.size,1,none⟩ = false:=free_at r2;have HB2:=hid ((BQ.out nq).trans (hb2.mono (BQ.out nq).size));clear hb2 r2;go_wp2_with fail;refine bodyPost_ret (v:=.tuple #[.agg #[.string Pa,.string Re],.bool fd]) ?_ rfl ⟨rfl,?_⟩
  ·rw [results_cell_tmp rfl];go_simp
  ·exact qY HB2.out
 ·rw [(congrArg wdV hc).trans CO] at a3 HG;clear hc;go_wp2_with fail
  go_quiet ((go_at_call 258; exact Calls.quiet_of_same (HF.out _ (BQ.out _))))
  go_wp2_with fail;refine (HG.out _ (BQ.out _)).mono ?_;rintro e w2 ⟨rfl,hb2⟩;have r2:=aj hb2 (aj (below_drewN ((w.alloc (.cells #[.string ⟨#[]⟩,.string ⟨#[]⟩] 206)).alloc (.cells #[.int .u8 c,.int .i64 a,.slice la ln lc] 51)) nq) HR0.out);have x0 : w2.cell? ⟨w.heap.size,0,none⟩ = some (.string ⟨#[]⟩):=ai r2;have x2 : w2.cell? ⟨w.heap.size,1,none⟩ = some (.string ⟨#[]⟩):=ai r2;have f0 : w2.frozen? ⟨w.heap.size,0,none⟩ = false:=free_at r2;have f1 : w2.frozen? ⟨w.heap.size,1,none⟩ = false:=free_at r2;have HB2:=hid ((BQ.out nq).trans (hb2.mono (BQ.out nq).size));clear hb2 r2;go_wp2_with fail;refine bodyPost_ret (v:=.tuple #[.agg #[.string Pa,.string Re],.bool fd]) ?_ rfl ⟨rfl,?_⟩
  ·rw [results_cell_tmp rfl];go_simp
  ·exact qY HB2.out
 ·rw [(congrArg wdV hc).trans CN] at a3 HG;clear hc;go_wp2_with fail
  go_quiet ((go_at_call 258; exact Calls.quiet_of_same (HF.out _ (BQ.out _))))
  go_wp2_with fail;refine (HG.out _ (BQ.out _)).mono ?_;rintro e w2 ⟨rfl,hb2⟩;have r2:=aj hb2 (aj (below_drewN ((w.alloc (.cells #[.string ⟨#[]⟩,.string ⟨#[]⟩] 206)).alloc (.cells #[.int .u8 c,.int .i64 a,.slice la ln lc] 51)) nq) HR0.out);have x0 : w2.cell? ⟨w.heap.size,0,none⟩ = some (.string ⟨#[]⟩):=ai r2;have x2 : w2.cell? ⟨w.heap.size,1,none⟩ = some (.string ⟨#[]⟩):=ai r2;have f0 : w2.frozen? ⟨w.heap.size,0,none⟩ = false:=free_at r2;have f1 : w2.frozen? ⟨w.heap.size,1,none⟩ = false:=free_at r2;have HB2:=hid ((BQ.out nq).trans (hb2.mono (BQ.out nq).size));clear hb2 r2;go_wp2_with fail;refine bodyPost_ret (v:=.tuple #[.agg #[.string Pa,.string Re],.bool fd]) ?_ rfl ⟨rfl,?_⟩
  ·rw [results_cell_tmp rfl];go_simp
  ·exact qY HB2.out
end
end Go.Proofs.YtepnnenohjfkbaaGreatDoor

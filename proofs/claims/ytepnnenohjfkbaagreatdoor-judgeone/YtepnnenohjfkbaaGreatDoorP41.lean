/-
  Texts Js.
-/
import Derived.Test.YtepnnenohjfkbaaGreatDoorP00
import Derived.Test.YtepnnenohjfkbaaGreatDoorP32
import Derived.Test.YtepnnenohjfkbaaGreatDoorP39
import Derived.Test.YtepnnenohjfkbaaGreatDoorP40
set_option linter.unusedVariables false
set_option maxRecDepth 100000
set_option maxHeartbeats 16000000
namespace Go.Proofs.YtepnnenohjfkbaaGreatDoor
open Go.RowKit
theorem Bi : wdV 5 = ⟨#[101,108,115,101]⟩:=by kernel_rfl
theorem Bq : wdV 6 = ⟨#[101,110,100]⟩:=by kernel_rfl
theorem A4 : wdV 16 = ⟨#[100,114,111,112]⟩:=by kernel_rfl
theorem AE : wdV 17 = ⟨#[115,101,108,101,99,116]⟩:=by kernel_rfl
def yr (c : Int) : Bool:=decide (c = 0) || decide (c = 4) || decide (c = 5) || decide (c = 6) || decide (c = 7) || decide (c = 9) || decide (c = 10) || decide (c = 16) || decide (c = 17)
theorem ya : ((List.range 256).all fun k => yr (k : Int) || ([[105,102],[101,108,115,101],[101,110,100],[116,114,97,112],[98,114],[98,114,116,97,98,108,101],[114,101,116,117,114,110],[100,114,111,112],[115,101,108,101,99,116]].all fun u => ((wdV (k : Int)).toList == u) == false)) = true:=by kernel_rfl
theorem DC {c : Int} (h0 : 0 ≤ c) (h1 : c ≤ 255) (hs : yr c = false) : ∀ u ∈ ([[105,102],[101,108,115,101],[101,110,100],[116,114,97,112],[98,114],[98,114,116,97,98,108,101],[114,101,116,117,114,110],[100,114,111,112],[115,101,108,101,99,116]] : List (List UInt8)),((wdV c).toList == u) = false:=by
 have h:=List.all_eq_true.1 ya c.toNat (by rw [List.mem_range]; omega)
 rw [show ((c.toNat : Nat) : Int) = c by omega,hs,Bool.false_or] at h
 intro u hu
 have:=List.all_eq_true.1 h u hu
 simpa using this
def Da (w : World) (HB : Nat) (hv b : Bool) (e : Ending) (w' : World) : Prop:=e = .returned fA ∧ ∃ W,Below w.heap.size w W ∧ w' = W.setCell ⟨HB,0,none⟩ (.bool (hv && b))
section
variable {g : Jg} {w : World}
theorem qC (h : Jw g w) (hN : g.N ≤ 2048) {i : Nat} (hi : i < g.N) {HB : Nat} {hv : Bool} (hb : w.heap[HB]? = some (.cells #[.bool hv] 4)) (hc : yr (opF g.xs i) = false) {b : Bool} (HX : Hid (∀ W,Below w.heap.size w W → Calls Tryz.prog 145 #[.pointer (some ⟨g.J,0,none⟩),.int .i64 i] W fun e w' => e = .returned (.bool b) ∧ Below W.heap.size W w')) :
  Calls Tryz.prog 95 #[.pointer (some ⟨g.J,0,none⟩),.int .i64 i,.func (.func 94) #[] #[.pointer (some ⟨HB,0,none⟩)]] w (Da w HB hv b):=by
 have B0:=ag w (.cells #[.pointer (some ⟨g.J,0,none⟩)] 92);have B1:=ag (w.alloc (.cells #[.pointer (some ⟨g.J,0,none⟩)] 92)) (.cells #[.int .i64 i] 3);have BB:=B0.trans (B1.mono B0.size);have h2:=h.later BB;have jr:=h2.rw;have a3:=(h2.at_ hi).2.2.2
 have hz : (w.alloc (.cells #[.pointer (some ⟨g.J,0,none⟩)] 92)).heap.size = w.heap.size + 1:=by simp
 have c0 : ((w.alloc (.cells #[.pointer (some ⟨g.J,0,none⟩)] 92)).alloc (.cells #[.int .i64 i] 3)).cell? ⟨w.heap.size,0,none⟩ = some (.pointer (some ⟨g.J,0,none⟩)):=ai (aj B1 (heap_alloc_new w (.cells #[.pointer (some ⟨g.J,0,none⟩)] 92)))
 have c1 : ((w.alloc (.cells #[.pointer (some ⟨g.J,0,none⟩)] 92)).alloc (.cells #[.int .i64 i] 3)).cell? ⟨w.heap.size + 1,0,none⟩ = some (.int .i64 i):=by
  have:=heap_alloc_new (w.alloc (.cells #[.pointer (some ⟨g.J,0,none⟩)] 92)) (.cells #[.int .i64 i] 3)
  rw [hz] at this;exact ai this
 have hi2 : (i : Int) < (g.N : Int):=by omega
 have he94 : ∀ args w,(callFunc 94 args).run Tryz.prog w = .ok (.enter 94 args) w:=fun _ _ => rfl
 have HBB:=hid (show Below w.heap.size w ((w.alloc (.cells #[.pointer (some ⟨g.J,0,none⟩)] 92)).alloc (.cells #[.int .i64 i] 3)) from BB);have Hb:=hid hb;have HH:=hid h;have hcr:=h.cod.range hi;have hw:=DC hcr.1 hcr.2 hc;clear hcr hc;clear h h2 B0 B1 BB hz hb
 go_enter Tryz.func95,Tryz.ntmps95
 have q0:=hw [105,102] (by simp)
 have q1:=hw [101,108,115,101] (by simp)
 have q2:=hw [101,110,100] (by simp)
 have q3:=hw [116,114,97,112] (by simp)
 have q4:=hw [98,114] (by simp)
 have q5:=hw [98,114,116,97,98,108,101] (by simp)
 have q6:=hw [114,101,116,117,114,110] (by simp)
 have q7:=hw [100,114,111,112] (by simp)
 have q8:=hw [115,101,108,101,99,116] (by simp)
 clear hw;generalize wdV (opF g.xs i) = wd at *
 have BQ:=hid (fun (q : Nat) => HBB.out.trans ((below_drewN ((w.alloc (.cells #[.pointer (some ⟨g.J,0,none⟩)] 92)).alloc (.cells #[.int .i64 i] 3)) q).mono HBB.out.size))
 go_wp2_with fail
 go_quiet (fail)
 have d0:=ae (below_drewN ((w.alloc (.cells #[.pointer (some ⟨g.J,0,none⟩)] 92)).alloc (.cells #[.int .i64 i] 3)) nq) c0;have d1:=ae (below_drewN ((w.alloc (.cells #[.pointer (some ⟨g.J,0,none⟩)] 92)).alloc (.cells #[.int .i64 i] 3)) nq) c1;have HB3:=hid (BQ.out nq);generalize ((w.alloc (.cells #[.pointer (some ⟨g.J,0,none⟩)] 92)).alloc (.cells #[.int .i64 i] 3)).drewN nq = W3 at *;clear c0 c1 a3 jr BQ HBB;go_wp2_with fail;refine (HX.out _ HB3.out).mono ?_;rintro e w5 ⟨rfl,hbx⟩;have HB5:=hid (HB3.out.trans (hbx.mono HB3.out.size));clear hbx d0 d1 HB3;go_wp2_with fail;refine (dN (aj HB5.out Hb.out)).mono ?_;rintro e w6 ⟨rfl,hw6⟩;subst hw6;go_wp2_with fail;go_end0;exact ⟨rfl,_,HB5.out,rfl⟩
theorem vE (h : Jw g w) (hN : g.N ≤ 2048) {i : Nat} (hi : i < g.N) {HB : Nat} {hv : Bool} (hb : w.heap[HB]? = some (.cells #[.bool hv] 4)) (hc : opF g.xs i = 4) {b b2 : Bool} (HX : Hid (∀ W,Below w.heap.size w W → Calls Tryz.prog 145 #[.pointer (some ⟨g.J,0,none⟩),.int .i64 i] W fun e w' => e = .returned (.bool b) ∧ Below W.heap.size W w')) (HY : Hid (∀ W,Below w.heap.size w W → Calls Tryz.prog 146 #[.pointer (some ⟨g.J,0,none⟩),.int .i64 i] W fun e w' => e = .returned (.bool b2) ∧ Below W.heap.size W w')) :
  Calls Tryz.prog 95 #[.pointer (some ⟨g.J,0,none⟩),.int .i64 i,.func (.func 94) #[] #[.pointer (some ⟨HB,0,none⟩)]] w (Da w HB hv (b && b2)):=by
 have B0:=ag w (.cells #[.pointer (some ⟨g.J,0,none⟩)] 92);have B1:=ag (w.alloc (.cells #[.pointer (some ⟨g.J,0,none⟩)] 92)) (.cells #[.int .i64 i] 3);have BB:=B0.trans (B1.mono B0.size);have h2:=h.later BB;have jr:=h2.rw;have a3:=(h2.at_ hi).2.2.2
 have hz : (w.alloc (.cells #[.pointer (some ⟨g.J,0,none⟩)] 92)).heap.size = w.heap.size + 1:=by simp
 have c0 : ((w.alloc (.cells #[.pointer (some ⟨g.J,0,none⟩)] 92)).alloc (.cells #[.int .i64 i] 3)).cell? ⟨w.heap.size,0,none⟩ = some (.pointer (some ⟨g.J,0,none⟩)):=ai (aj B1 (heap_alloc_new w (.cells #[.pointer (some ⟨g.J,0,none⟩)] 92)))
 have c1 : ((w.alloc (.cells #[.pointer (some ⟨g.J,0,none⟩)] 92)).alloc (.cells #[.int .i64 i] 3)).cell? ⟨w.heap.size + 1,0,none⟩ = some (.int .i64 i):=by
  have:=heap_alloc_new (w.alloc (.cells #[.pointer (some ⟨g.J,0,none⟩)] 92)) (.cells #[.int .i64 i] 3)
  rw [hz] at this;exact ai this
 have hi2 : (i : Int) < (g.N : Int):=by omega
 have he94 : ∀ args w,(callFunc 94 args).run Tryz.prog w = .ok (.enter 94 args) w:=fun _ _ => rfl
 have HBB:=hid (show Below w.heap.size w ((w.alloc (.cells #[.pointer (some ⟨g.J,0,none⟩)] 92)).alloc (.cells #[.int .i64 i] 3)) from BB);have Hb:=hid hb;have HH:=hid h;clear h h2 B0 B1 BB hz hb
 go_enter Tryz.func95,Tryz.ntmps95
 rw [(congrArg wdV hc).trans AO] at a3;clear hc
 have BQ:=hid (fun (q : Nat) => HBB.out.trans ((below_drewN ((w.alloc (.cells #[.pointer (some ⟨g.J,0,none⟩)] 92)).alloc (.cells #[.int .i64 i] 3)) q).mono HBB.out.size))
 go_wp2_with fail
 go_quiet (fail)
 have d0:=ae (below_drewN ((w.alloc (.cells #[.pointer (some ⟨g.J,0,none⟩)] 92)).alloc (.cells #[.int .i64 i] 3)) nq) c0;have d1:=ae (below_drewN ((w.alloc (.cells #[.pointer (some ⟨g.J,0,none⟩)] 92)).alloc (.cells #[.int .i64 i] 3)) nq) c1;have HB3:=hid (BQ.out nq);generalize ((w.alloc (.cells #[.pointer (some ⟨g.J,0,none⟩)] 92)).alloc (.cells #[.int .i64 i] 3)).drewN nq = W3 at *;clear c0 c1 a3 jr BQ HBB;go_wp2_with fail;refine (HX.out _ HB3.out).mono ?_;rintro e w5 ⟨rfl,hbx⟩;have HB5:=hid (HB3.out.trans (hbx.mono HB3.out.size));have e0:=ae hbx d0;have e1:=ae hbx d1;clear hbx d0 d1 HB3
 cases b with
 | false =>
  go_wp2_with fail;refine (dN (aj HB5.out Hb.out)).mono ?_;rintro e w6 ⟨rfl,hw6⟩;subst hw6;go_wp2_with fail;go_end0
  exact ⟨rfl,_,HB5.out,by rw [Bool.false_and,Bool.and_false]⟩
 | true =>
  go_wp2_with fail;refine (HY.out _ HB5.out).mono ?_;rintro e w7 ⟨rfl,hbx⟩;have HB7:=hid (HB5.out.trans (hbx.mono HB5.out.size));clear hbx e0 e1 HB5;go_wp2_with fail;refine (dN (aj HB7.out Hb.out)).mono ?_;rintro e w6 ⟨rfl,hw6⟩;subst hw6;go_wp2_with fail;go_end0;exact ⟨rfl,_,HB7.out,rfl⟩
theorem uj (h : Jw g w) (hN : g.N ≤ 2048) {i : Nat} (hi : i < g.N) {HB : Nat} {hv : Bool} (hb : w.heap[HB]? = some (.cells #[.bool hv] 4)) (hc : opF g.xs i = 6) {b : Bool} (HX : Hid (∀ W,Below w.heap.size w W → Calls Tryz.prog 147 #[.pointer (some ⟨g.J,0,none⟩),.int .i64 i,.int .i64 ((i + 1 : Nat) : Int)] W fun e w' => e = .returned (.bool b) ∧ Below W.heap.size W w')) :
  Calls Tryz.prog 95 #[.pointer (some ⟨g.J,0,none⟩),.int .i64 i,.func (.func 94) #[] #[.pointer (some ⟨HB,0,none⟩)]] w (Da w HB hv b):=by
 have B0:=ag w (.cells #[.pointer (some ⟨g.J,0,none⟩)] 92);have B1:=ag (w.alloc (.cells #[.pointer (some ⟨g.J,0,none⟩)] 92)) (.cells #[.int .i64 i] 3);have BB:=B0.trans (B1.mono B0.size);have h2:=h.later BB;have jr:=h2.rw;have a3:=(h2.at_ hi).2.2.2
 have hz : (w.alloc (.cells #[.pointer (some ⟨g.J,0,none⟩)] 92)).heap.size = w.heap.size + 1:=by simp
 have c0 : ((w.alloc (.cells #[.pointer (some ⟨g.J,0,none⟩)] 92)).alloc (.cells #[.int .i64 i] 3)).cell? ⟨w.heap.size,0,none⟩ = some (.pointer (some ⟨g.J,0,none⟩)):=ai (aj B1 (heap_alloc_new w (.cells #[.pointer (some ⟨g.J,0,none⟩)] 92)))
 have c1 : ((w.alloc (.cells #[.pointer (some ⟨g.J,0,none⟩)] 92)).alloc (.cells #[.int .i64 i] 3)).cell? ⟨w.heap.size + 1,0,none⟩ = some (.int .i64 i):=by
  have:=heap_alloc_new (w.alloc (.cells #[.pointer (some ⟨g.J,0,none⟩)] 92)) (.cells #[.int .i64 i] 3)
  rw [hz] at this;exact ai this
 have hi2 : (i : Int) < (g.N : Int):=by omega
 have he94 : ∀ args w,(callFunc 94 args).run Tryz.prog w = .ok (.enter 94 args) w:=fun _ _ => rfl
 have HBB:=hid (show Below w.heap.size w ((w.alloc (.cells #[.pointer (some ⟨g.J,0,none⟩)] 92)).alloc (.cells #[.int .i64 i] 3)) from BB);have Hb:=hid hb;have HH:=hid h;clear h h2 B0 B1 BB hz hb
 go_enter Tryz.func95,Tryz.ntmps95
 rw [(congrArg wdV hc).trans Bq] at a3;clear hc
 have BQ:=hid (fun (q : Nat) => HBB.out.trans ((below_drewN ((w.alloc (.cells #[.pointer (some ⟨g.J,0,none⟩)] 92)).alloc (.cells #[.int .i64 i] 3)) q).mono HBB.out.size))
 go_wp2_with fail
 go_quiet (fail)
 have d0:=ae (below_drewN ((w.alloc (.cells #[.pointer (some ⟨g.J,0,none⟩)] 92)).alloc (.cells #[.int .i64 i] 3)) nq) c0;have d1:=ae (below_drewN ((w.alloc (.cells #[.pointer (some ⟨g.J,0,none⟩)] 92)).alloc (.cells #[.int .i64 i] 3)) nq) c1;have HB3:=hid (BQ.out nq);generalize ((w.alloc (.cells #[.pointer (some ⟨g.J,0,none⟩)] 92)).alloc (.cells #[.int .i64 i] 3)).drewN nq = W3 at *;clear c0 c1 a3 jr BQ HBB;go_wp2_with fail;refine (HX.out _ HB3.out).mono ?_;rintro e w5 ⟨rfl,hbx⟩;have HB5:=hid (HB3.out.trans (hbx.mono HB3.out.size));clear hbx d0 d1 HB3;go_wp2_with fail;refine (dN (aj HB5.out Hb.out)).mono ?_;rintro e w6 ⟨rfl,hw6⟩;subst hw6;go_wp2_with fail;go_end0;exact ⟨rfl,_,HB5.out,rfl⟩
theorem uE (h : Jw g w) (hN : g.N ≤ 2048) {i : Nat} (hi : i < g.N) {HB : Nat} {hv : Bool} (hb : w.heap[HB]? = some (.cells #[.bool hv] 4)) (hc : opF g.xs i = 0 ∨ opF g.xs i = 7 ∨ opF g.xs i = 9 ∨ opF g.xs i = 10) {b b2 : Bool} (HX : Hid (∀ W,Below w.heap.size w W → Calls Tryz.prog 148 #[.pointer (some ⟨g.J,0,none⟩),.int .i64 ((i + 1 : Nat) : Int)] W fun e w' => e = .returned (.bool b) ∧ Below W.heap.size W w')) (HY : Hid (∀ W,Below w.heap.size w W → Calls Tryz.prog 149 #[.pointer (some ⟨g.J,0,none⟩),.int .i64 i] W fun e w' => e = .returned (.bool b2) ∧ Below W.heap.size W w')) :
  Calls Tryz.prog 95 #[.pointer (some ⟨g.J,0,none⟩),.int .i64 i,.func (.func 94) #[] #[.pointer (some ⟨HB,0,none⟩)]] w (Da w HB hv (b && b2)):=by
 have B0:=ag w (.cells #[.pointer (some ⟨g.J,0,none⟩)] 92);have B1:=ag (w.alloc (.cells #[.pointer (some ⟨g.J,0,none⟩)] 92)) (.cells #[.int .i64 i] 3);have BB:=B0.trans (B1.mono B0.size);have h2:=h.later BB;have jr:=h2.rw;have a3:=(h2.at_ hi).2.2.2
 have hz : (w.alloc (.cells #[.pointer (some ⟨g.J,0,none⟩)] 92)).heap.size = w.heap.size + 1:=by simp
 have c0 : ((w.alloc (.cells #[.pointer (some ⟨g.J,0,none⟩)] 92)).alloc (.cells #[.int .i64 i] 3)).cell? ⟨w.heap.size,0,none⟩ = some (.pointer (some ⟨g.J,0,none⟩)):=ai (aj B1 (heap_alloc_new w (.cells #[.pointer (some ⟨g.J,0,none⟩)] 92)))
 have c1 : ((w.alloc (.cells #[.pointer (some ⟨g.J,0,none⟩)] 92)).alloc (.cells #[.int .i64 i] 3)).cell? ⟨w.heap.size + 1,0,none⟩ = some (.int .i64 i):=by
  have:=heap_alloc_new (w.alloc (.cells #[.pointer (some ⟨g.J,0,none⟩)] 92)) (.cells #[.int .i64 i] 3)
  rw [hz] at this;exact ai this
 have hi2 : (i : Int) < (g.N : Int):=by omega
 have he94 : ∀ args w,(callFunc 94 args).run Tryz.prog w = .ok (.enter 94 args) w:=fun _ _ => rfl
 have HBB:=hid (show Below w.heap.size w ((w.alloc (.cells #[.pointer (some ⟨g.J,0,none⟩)] 92)).alloc (.cells #[.int .i64 i] 3)) from BB);have Hb:=hid hb;have HH:=hid h;clear h h2 B0 B1 BB hz hb
 rcases hc with hc | hc | hc | hc
 all_goals
  simp only [hc,A6,AX,AG,zj] at a3
  clear hc
  go_enter Tryz.func95,Tryz.ntmps95
  have BQ:=hid (fun (q : Nat) => HBB.out.trans ((below_drewN ((w.alloc (.cells #[.pointer (some ⟨g.J,0,none⟩)] 92)).alloc (.cells #[.int .i64 i] 3)) q).mono HBB.out.size))
  go_wp2_with fail
  go_quiet (fail)
  have d0:=ae (below_drewN ((w.alloc (.cells #[.pointer (some ⟨g.J,0,none⟩)] 92)).alloc (.cells #[.int .i64 i] 3)) nq) c0;have d1:=ae (below_drewN ((w.alloc (.cells #[.pointer (some ⟨g.J,0,none⟩)] 92)).alloc (.cells #[.int .i64 i] 3)) nq) c1;have HB3:=hid (BQ.out nq);generalize ((w.alloc (.cells #[.pointer (some ⟨g.J,0,none⟩)] 92)).alloc (.cells #[.int .i64 i] 3)).drewN nq = W3 at *;clear c0 c1 a3 jr BQ HBB;go_wp2_with fail;refine (HX.out _ HB3.out).mono ?_;rintro e w5 ⟨rfl,hbx⟩;have HB5:=hid (HB3.out.trans (hbx.mono HB3.out.size));have e0:=ae hbx d0;have e1:=ae hbx d1;clear hbx d0 d1 HB3
  cases b with
  | false =>
   go_wp2_with fail;refine (dN (aj HB5.out Hb.out)).mono ?_;rintro e w6 ⟨rfl,hw6⟩;subst hw6;go_wp2_with fail;go_end0
   exact ⟨rfl,_,HB5.out,by rw [Bool.false_and,Bool.and_false]⟩
  | true =>
   go_wp2_with fail;refine (HY.out _ HB5.out).mono ?_;rintro e w7 ⟨rfl,hbx⟩;have HB7:=hid (HB5.out.trans (hbx.mono HB5.out.size));clear hbx e0 e1 HB5;go_wp2_with fail;refine (dN (aj HB7.out Hb.out)).mono ?_;rintro e w6 ⟨rfl,hw6⟩;subst hw6;go_wp2_with fail;go_end0;exact ⟨rfl,_,HB7.out,rfl⟩
theorem mF (h : Jw g w) (hN : g.N ≤ 2048) {i : Nat} (hi : i < g.N) {HB : Nat} {hv : Bool} (hb : w.heap[HB]? = some (.cells #[.bool hv] 4)) (hc : opF g.xs i = 16) {p : ByteArray → Bool} (HX : Hid (∀ (W : World) (JB PB : Nat) (y : ByteArray),Below w.heap.size w W → W.cell? ⟨JB,0,none⟩ = some (.pointer (some ⟨g.J,0,none⟩)) → W.cell? ⟨PB,0,none⟩ = some (.int .i64 i) → y.size ≤ 8 → Calls Tryz.prog 151 #[.string y,.pointer (some ⟨JB,0,none⟩),.pointer (some ⟨PB,0,none⟩)] W fun e w' => e = .returned (.bool (p y)) ∧ Below W.heap.size W w')) :
  Calls Tryz.prog 95 #[.pointer (some ⟨g.J,0,none⟩),.int .i64 i,.func (.func 94) #[] #[.pointer (some ⟨HB,0,none⟩)]] w (Da w HB hv (p ⟨#[119]⟩ || p ⟨#[108]⟩)):=by
 have B0:=ag w (.cells #[.pointer (some ⟨g.J,0,none⟩)] 92);have B1:=ag (w.alloc (.cells #[.pointer (some ⟨g.J,0,none⟩)] 92)) (.cells #[.int .i64 i] 3);have BB:=B0.trans (B1.mono B0.size);have h2:=h.later BB;have jr:=h2.rw;have a3:=(h2.at_ hi).2.2.2
 have hz : (w.alloc (.cells #[.pointer (some ⟨g.J,0,none⟩)] 92)).heap.size = w.heap.size + 1:=by simp
 have c0 : ((w.alloc (.cells #[.pointer (some ⟨g.J,0,none⟩)] 92)).alloc (.cells #[.int .i64 i] 3)).cell? ⟨w.heap.size,0,none⟩ = some (.pointer (some ⟨g.J,0,none⟩)):=ai (aj B1 (heap_alloc_new w (.cells #[.pointer (some ⟨g.J,0,none⟩)] 92)))
 have c1 : ((w.alloc (.cells #[.pointer (some ⟨g.J,0,none⟩)] 92)).alloc (.cells #[.int .i64 i] 3)).cell? ⟨w.heap.size + 1,0,none⟩ = some (.int .i64 i):=by
  have:=heap_alloc_new (w.alloc (.cells #[.pointer (some ⟨g.J,0,none⟩)] 92)) (.cells #[.int .i64 i] 3)
  rw [hz] at this;exact ai this
 have hi2 : (i : Int) < (g.N : Int):=by omega
 have he94 : ∀ args w,(callFunc 94 args).run Tryz.prog w = .ok (.enter 94 args) w:=fun _ _ => rfl
 have HBB:=hid (show Below w.heap.size w ((w.alloc (.cells #[.pointer (some ⟨g.J,0,none⟩)] 92)).alloc (.cells #[.int .i64 i] 3)) from BB);have Hb:=hid hb;have HH:=hid h
 have hmf : ∀ (fn : Fn) (first cap : Array Value) (w : World),(Instr.makeFunc fn first cap).run Tryz.prog w = .ok (.func fn first cap) w:=fun _ _ _ _ => rfl
 clear h h2 B0 B1 BB hz hb
 go_enter Tryz.func95,Tryz.ntmps95
 rw [(congrArg wdV hc).trans A4] at a3;clear hc
 have BQ:=hid (fun (q : Nat) => HBB.out.trans ((below_drewN ((w.alloc (.cells #[.pointer (some ⟨g.J,0,none⟩)] 92)).alloc (.cells #[.int .i64 i] 3)) q).mono HBB.out.size))
 go_wp2_with fail
 go_quiet (fail)
 have d0:=ae (below_drewN ((w.alloc (.cells #[.pointer (some ⟨g.J,0,none⟩)] 92)).alloc (.cells #[.int .i64 i] 3)) nq) c0;have d1:=ae (below_drewN ((w.alloc (.cells #[.pointer (some ⟨g.J,0,none⟩)] 92)).alloc (.cells #[.int .i64 i] 3)) nq) c1;have HB3:=hid (BQ.out nq);generalize ((w.alloc (.cells #[.pointer (some ⟨g.J,0,none⟩)] 92)).alloc (.cells #[.int .i64 i] 3)).drewN nq = W3 at *;clear c0 c1 a3 jr BQ HBB;go_wp2_with fail
 refine (sO (K:=151) (p:=p) (fun _ _ => rfl) (fun W y hbw hy => HX.out W _ _ y (HB3.out.trans (hbw.mono HB3.out.size)) (ae hbw d0) (ae hbw d1) hy)).mono ?_
 rintro e w5 ⟨rfl,hbx⟩;have HB5:=hid (HB3.out.trans (hbx.mono HB3.out.size));clear hbx d0 d1 HB3
 generalize (p ⟨#[119]⟩ || p ⟨#[108]⟩) = b at *
 go_wp2_with fail;refine (dN (aj HB5.out Hb.out)).mono ?_;rintro e w6 ⟨rfl,hw6⟩;subst hw6;go_wp2_with fail;go_end0;exact ⟨rfl,_,HB5.out,rfl⟩
theorem ot (h : Jw g w) (hN : g.N ≤ 2048) {i : Nat} (hi : i < g.N) {HB : Nat} {hv : Bool} (hb : w.heap[HB]? = some (.cells #[.bool hv] 4)) (hc : opF g.xs i = 17) {p : ByteArray → Bool} (HX : Hid (∀ (W : World) (JB PB : Nat) (y : ByteArray),Below w.heap.size w W → W.cell? ⟨JB,0,none⟩ = some (.pointer (some ⟨g.J,0,none⟩)) → W.cell? ⟨PB,0,none⟩ = some (.int .i64 i) → y.size ≤ 8 → Calls Tryz.prog 153 #[.string y,.pointer (some ⟨JB,0,none⟩),.pointer (some ⟨PB,0,none⟩)] W fun e w' => e = .returned (.bool (p y)) ∧ Below W.heap.size W w')) :
  Calls Tryz.prog 95 #[.pointer (some ⟨g.J,0,none⟩),.int .i64 i,.func (.func 94) #[] #[.pointer (some ⟨HB,0,none⟩)]] w (Da w HB hv (p ⟨#[119]⟩ || p ⟨#[108]⟩)):=by
 have B0:=ag w (.cells #[.pointer (some ⟨g.J,0,none⟩)] 92);have B1:=ag (w.alloc (.cells #[.pointer (some ⟨g.J,0,none⟩)] 92)) (.cells #[.int .i64 i] 3);have BB:=B0.trans (B1.mono B0.size);have h2:=h.later BB;have jr:=h2.rw;have a3:=(h2.at_ hi).2.2.2
 have hz : (w.alloc (.cells #[.pointer (some ⟨g.J,0,none⟩)] 92)).heap.size = w.heap.size + 1:=by simp
 have c0 : ((w.alloc (.cells #[.pointer (some ⟨g.J,0,none⟩)] 92)).alloc (.cells #[.int .i64 i] 3)).cell? ⟨w.heap.size,0,none⟩ = some (.pointer (some ⟨g.J,0,none⟩)):=ai (aj B1 (heap_alloc_new w (.cells #[.pointer (some ⟨g.J,0,none⟩)] 92)))
 have c1 : ((w.alloc (.cells #[.pointer (some ⟨g.J,0,none⟩)] 92)).alloc (.cells #[.int .i64 i] 3)).cell? ⟨w.heap.size + 1,0,none⟩ = some (.int .i64 i):=by
  have:=heap_alloc_new (w.alloc (.cells #[.pointer (some ⟨g.J,0,none⟩)] 92)) (.cells #[.int .i64 i] 3)
  rw [hz] at this;exact ai this
 have hi2 : (i : Int) < (g.N : Int):=by omega
 have he94 : ∀ args w,(callFunc 94 args).run Tryz.prog w = .ok (.enter 94 args) w:=fun _ _ => rfl
 have HBB:=hid (show Below w.heap.size w ((w.alloc (.cells #[.pointer (some ⟨g.J,0,none⟩)] 92)).alloc (.cells #[.int .i64 i] 3)) from BB);have Hb:=hid hb;have HH:=hid h
 have hmf : ∀ (fn : Fn) (first cap : Array Value) (w : World),(Instr.makeFunc fn first cap).run Tryz.prog w = .ok (.func fn first cap) w:=fun _ _ _ _ => rfl
 clear h h2 B0 B1 BB hz hb
 go_enter Tryz.func95,Tryz.ntmps95
 rw [(congrArg wdV hc).trans AE] at a3;clear hc
 have BQ:=hid (fun (q : Nat) => HBB.out.trans ((below_drewN ((w.alloc (.cells #[.pointer (some ⟨g.J,0,none⟩)] 92)).alloc (.cells #[.int .i64 i] 3)) q).mono HBB.out.size))
 go_wp2_with fail
 go_quiet (fail)
 have d0:=ae (below_drewN ((w.alloc (.cells #[.pointer (some ⟨g.J,0,none⟩)] 92)).alloc (.cells #[.int .i64 i] 3)) nq) c0;have d1:=ae (below_drewN ((w.alloc (.cells #[.pointer (some ⟨g.J,0,none⟩)] 92)).alloc (.cells #[.int .i64 i] 3)) nq) c1;have HB3:=hid (BQ.out nq);generalize ((w.alloc (.cells #[.pointer (some ⟨g.J,0,none⟩)] 92)).alloc (.cells #[.int .i64 i] 3)).drewN nq = W3 at *;clear c0 c1 a3 jr BQ HBB;go_wp2_with fail
 refine (sO (K:=153) (p:=p) (fun _ _ => rfl) (fun W y hbw hy => HX.out W _ _ y (HB3.out.trans (hbw.mono HB3.out.size)) (ae hbw d0) (ae hbw d1) hy)).mono ?_
 rintro e w5 ⟨rfl,hbx⟩;have HB5:=hid (HB3.out.trans (hbx.mono HB3.out.size));clear hbx d0 d1 HB3
 generalize (p ⟨#[119]⟩ || p ⟨#[108]⟩) = b at *
 go_wp2_with fail;refine (dN (aj HB5.out Hb.out)).mono ?_;rintro e w6 ⟨rfl,hw6⟩;subst hw6;go_wp2_with fail;go_end0;exact ⟨rfl,_,HB5.out,rfl⟩
abbrev elS (A B J EN i : Nat) (gJ : Nat) (ev : Value) (e : Int) (W : World) : Prop :=
 W.cell? ⟨A,0,none⟩ = some (.pointer (some ⟨gJ,0,none⟩)) ∧ W.cell? ⟨B,0,none⟩ = some (.int .i64 i) ∧ W.cell? ⟨J,12,none⟩ = some ev ∧ W.cell? ⟨EN,i,none⟩ = some (.int .i64 e)
theorem rH (h : Jw g w) (hN : g.N ≤ 2048) {i : Nat} (hi : i < g.N) {HB : Nat} {hv : Bool} (hb : w.heap[HB]? = some (.cells #[.bool hv] 4)) (hc : opF g.xs i = 5) {q : Nat} (hq : enF (opF g.xs) g.N i = q) {b : Bool} (HX : Hid (∀ W,Below w.heap.size w W → Calls Tryz.prog 147 #[.pointer (some ⟨g.J,0,none⟩),.int .i64 i,.int .i64 q] W fun e w' => e = .returned (.bool b) ∧ Below W.heap.size W w')) :
  Calls Tryz.prog 95 #[.pointer (some ⟨g.J,0,none⟩),.int .i64 i,.func (.func 94) #[] #[.pointer (some ⟨HB,0,none⟩)]] w (Da w HB hv b):=by
 have B0:=ag w (.cells #[.pointer (some ⟨g.J,0,none⟩)] 92);have B1:=ag (w.alloc (.cells #[.pointer (some ⟨g.J,0,none⟩)] 92)) (.cells #[.int .i64 i] 3);have BB:=B0.trans (B1.mono B0.size);have h2:=h.later BB;have jr:=h2.rw;have a3:=(h2.at_ hi).2.2.2
 have hz : (w.alloc (.cells #[.pointer (some ⟨g.J,0,none⟩)] 92)).heap.size = w.heap.size + 1:=by simp
 have c0 : ((w.alloc (.cells #[.pointer (some ⟨g.J,0,none⟩)] 92)).alloc (.cells #[.int .i64 i] 3)).cell? ⟨w.heap.size,0,none⟩ = some (.pointer (some ⟨g.J,0,none⟩)):=ai (aj B1 (heap_alloc_new w (.cells #[.pointer (some ⟨g.J,0,none⟩)] 92)))
 have c1 : ((w.alloc (.cells #[.pointer (some ⟨g.J,0,none⟩)] 92)).alloc (.cells #[.int .i64 i] 3)).cell? ⟨w.heap.size + 1,0,none⟩ = some (.int .i64 i):=by
  have:=heap_alloc_new (w.alloc (.cells #[.pointer (some ⟨g.J,0,none⟩)] 92)) (.cells #[.int .i64 i] 3)
  rw [hz] at this;exact ai this
 have hi2 : (i : Int) < (g.N : Int):=by omega
 have he94 : ∀ args w,(callFunc 94 args).run Tryz.prog w = .ok (.enter 94 args) w:=fun _ _ => rfl
 have HBB:=hid (show Below w.heap.size w ((w.alloc (.cells #[.pointer (some ⟨g.J,0,none⟩)] 92)).alloc (.cells #[.int .i64 i] 3)) from BB);have Hb:=hid hb;have HH:=hid h
 have HEN:=hid (fun (W : World) (hb : Below w.heap.size w W) => And.intro (h.later hb).en ((h.later hb).enc.cell i hi))
 rw [hq] at HEN
 have hne1 : g.J ≠ HB:=fun e => by
  have:=h.en
  rw [e,ai hb] at this
  simp at this
 have hne2 : g.EN ≠ HB:=fun e => by
  have:=h.enc.cell i hi
  rw [e,ai hb] at this
  cases i <;> simp at this
 clear h h2 B0 B1 BB hz hb
 go_enter Tryz.func95,Tryz.ntmps95
 rw [(congrArg wdV hc).trans Bi] at a3;clear hc
 have BQ:=hid (fun (q : Nat) => HBB.out.trans ((below_drewN ((w.alloc (.cells #[.pointer (some ⟨g.J,0,none⟩)] 92)).alloc (.cells #[.int .i64 i] 3)) q).mono HBB.out.size))
 go_wp2_with fail
 go_quiet (fail)
 have d0:=ae (below_drewN ((w.alloc (.cells #[.pointer (some ⟨g.J,0,none⟩)] 92)).alloc (.cells #[.int .i64 i] 3)) nq) c0;have d1:=ae (below_drewN ((w.alloc (.cells #[.pointer (some ⟨g.J,0,none⟩)] 92)).alloc (.cells #[.int .i64 i] 3)) nq) c1;have HB3:=hid (BQ.out nq);generalize ((w.alloc (.cells #[.pointer (some ⟨g.J,0,none⟩)] 92)).alloc (.cells #[.int .i64 i] 3)).drewN nq = W3 at *;clear c0 c1 a3 jr BQ HBB;go_wp2_with fail;obtain ⟨n0,n1⟩:=HEN.out _ HB3.out
 have hne3 : w.heap.size ≠ HB:=by have:=az Hb.out; omega
 have hne4 : w.heap.size + 1 ≠ HB:=by have:=az Hb.out; omega
 have HN:=hid (And.intro hne1 (And.intro hne2 (And.intro hne3 hne4)));clear hne1 hne2 hne3 hne4;generalize w.heap.size + 1 = PB at *
 refine wp_region_held_drew (S:=elS w.heap.size PB g.J g.EN i g.J (.slice (some ⟨g.EN,0,none⟩) g.N g.N) q) (by kernel_rfl) ⟨d0,d1,n0,n1⟩ (fun hHeld => ?_)
 refine tkB (i:=0) (oi:={ dst:=some 33,op:=.move (.tmp 2),type:=151,pos:= "rows.go:16",after:=#[],guard:=none }) (d:=some 33) ?_;(try simp only [Act.put,sIB,sC0,sCs]);refine tkB (i:=1) (oi:={ dst:=some 34,op:=.load 92 (.tmp 3),type:=92,pos:= "rows.go:16",after:=#[],guard:=none }) (d:=some 34) ?_;(try simp only [Act.put,sIB,sC0,sCs]);refine tkB (i:=2) (oi:={ dst:=some 35,op:=.load 3 (.tmp 4),type:=3,pos:= "rows.go:16",after:=#[],guard:=none }) (d:=some 35) ?_;(try simp only [Act.put,sIB,sC0,sCs]);refine tkB (i:=3) (oi:={ dst:=some 36,op:=.load 92 (.tmp 3),type:=92,pos:= "rows.go:16",after:=#[],guard:=none }) (d:=some 36) ?_;(try simp only [Act.put,sIB,sC0,sCs]);refine tkB (i:=4) (oi:={ dst:=some 37,op:=.nilCheck (.tmp 36),type:=0,pos:= "rows.go:16",after:=#[⟨3,.data⟩],guard:=none }) (d:=some 37) ?_;(try simp only [Act.put,sIB,sC0,sCs]);refine tkB (i:=5) (oi:={ dst:=some 38,op:=.fieldAddr 95 (.tmp 37) 5,type:=0,pos:= "rows.go:16",after:=#[⟨4,.data⟩],guard:=none }) (d:=some 38) ?_;(try simp only [Act.put,sIB,sC0,sCs]);refine tkB (i:=6) (oi:={ dst:=some 39,op:=.load 23 (.tmp 38),type:=23,pos:= "rows.go:16",after:=#[⟨5,.data⟩],guard:=none }) (d:=some 39) ?_;(try simp only [Act.put,sIB,sC0,sCs]);refine tkB (i:=7) (oi:={ dst:=some 40,op:=.load 3 (.tmp 4),type:=3,pos:= "rows.go:16",after:=#[],guard:=none }) (d:=some 40) ?_;(try simp only [Act.put,sIB,sC0,sCs]);refine tkB (i:=8) (oi:={ dst:=some 41,op:=.indexAddr 23 (.tmp 39) (.tmp 40),type:=0,pos:= "rows.go:16",after:=#[⟨6,.data⟩,⟨7,.data⟩],guard:=none }) (d:=some 41) ?_;(try simp only [Act.put,sIB,sC0,sCs]);refine tkB (i:=9) (oi:={ dst:=some 42,op:=.load 3 (.tmp 41),type:=3,pos:= "rows.go:16",after:=#[⟨8,.data⟩],guard:=none }) (d:=some 42) ?_;(try simp only [Act.put,sIB,sC0,sCs]);refine rdY (rs:=[10]) ?_
 refine rdA (o:={ dst:=some 43,op:=.call { callee:=.value (.func 147),args:=#[.tmp 34,.tmp 35,.tmp 42],argTypes:=#[92,3,3] },type:=4,pos:= "rows.go:16",after:=#[⟨1,.data⟩,⟨2,.data⟩,⟨9,.data⟩],guard:=none }) (fun K hK => ?_) rN
 go_simp;refine (HX.out _ HB3.out.drew).mono ?_;rintro e w5 ⟨rfl,hbx⟩;have HB5:=hid (HB3.out.drew.trans (hbx.mono HB3.out.drew.size));have hS5 : elS w.heap.size PB g.J g.EN i g.J (.slice (some ⟨g.EN,0,none⟩) g.N g.N) q w5:=⟨ae hbx hHeld.1,ae hbx hHeld.2.1,ae hbx hHeld.2.2.1,ae hbx hHeld.2.2.2⟩
 refine hK.out _ _ hS5 (fun hHeld2 => ?_)
 clear hK K hbx hHeld;refine rdY (rs:=[11]) ?_
 refine rdA (o:={ dst:=some 44,op:=.call { callee:=.value (.tmp 33),args:=#[.tmp 43],argTypes:=#[4] },type:=0,pos:= "rows.go:16",after:=#[⟨0,.data⟩,⟨10,.data⟩,⟨10,.chain⟩],guard:=none }) (fun K hK => ?_) rN
 go_simp;refine (dN (aj HB5.out Hb.out)).mono ?_;rintro e w6 ⟨rfl,hw6⟩;subst hw6;obtain ⟨m1,m2,m3,m4⟩:=HN.out
 refine hK.out _ _ ⟨(al w5 HB 0 _).cell hS5.1 m3,(al w5 HB 0 _).cell hS5.2.1 m4,(al w5 HB 0 _).cell hS5.2.2.1 m1,(al w5 HB 0 _).cell hS5.2.2.2 m2⟩ (fun _ => ?_)
 clear hK K
 refine wpAnyH_done (by kernel_rfl) ?_ _
 go_wp2_with fail;go_end0;exact ⟨rfl,_,HB5.out,rfl⟩
end
end Go.Proofs.YtepnnenohjfkbaaGreatDoor

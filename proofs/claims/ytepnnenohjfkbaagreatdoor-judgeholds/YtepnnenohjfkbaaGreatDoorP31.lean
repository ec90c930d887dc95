/-
  Texts Js.
-/
import Derived.Test.YtepnnenohjfkbaaGreatDoorP00
import Derived.Test.YtepnnenohjfkbaaGreatDoorP20
import Derived.Test.YtepnnenohjfkbaaGreatDoorP30
set_option linter.unusedVariables false
set_option maxRecDepth 100000
set_option maxHeartbeats 16000000
namespace Go.Proofs.YtepnnenohjfkbaaGreatDoor
open Go.RowKit
theorem Sn : wdV 5 = ⟨#[101,108,115,101]⟩:=aw
theorem RA : wdV 6 = ⟨#[101,110,100]⟩:=aw
theorem QO : wdV 16 = ⟨#[100,114,111,112]⟩:=aw
theorem Qy : wdV 17 = ⟨#[115,101,108,101,99,116]⟩:=aw
def Mv (c : Int) : Bool:=decide (c = 0) || decide (c = 4) || decide (c = 5) || decide (c = 6) || decide (c = 7) || decide (c = 9) || decide (c = 10) || decide (c = 16) || decide (c = 17)
theorem Na : ((List.range 256).all fun k => Mv (k : Int) || ([[105,102],[101,108,115,101],[101,110,100],[116,114,97,112],[98,114],[98,114,116,97,98,108,101],[114,101,116,117,114,110],[100,114,111,112],[115,101,108,101,99,116]].all fun u => ((wdV (k : Int)).toList == u) == false)) = true:=aw
theorem JO {c : Int} (h0 : 0 ≤ c) (h1 : c ≤ 255) (hs : Mv c = false) : ∀ u ∈ ([[105,102],[101,108,115,101],[101,110,100],[116,114,97,112],[98,114],[98,114,116,97,98,108,101],[114,101,116,117,114,110],[100,114,111,112],[115,101,108,101,99,116]] : List (List UInt8)),((wdV c).toList == u) = false:=by
 have h:=List.all_eq_true.1 Na c.toNat oK;exact Eo
def xu (w : World) (HB : Nat) (hv b : Bool) (e : Ending) (w' : World) : Prop:=e = .returned NG ∧ ∃ W,Below w.heap.size w W ∧ w' = W.setCell ⟨HB,0,none⟩ (.bool (hv && b))
section
variable {g : Jg} {w : World}
theorem zE (h : Jw g w) (hN : g.N ≤ 2048) {i : Nat} (hi : i < g.N) {HB : Nat} {hv : Bool} (hb : w.heap[HB]? = some (f9 hv)) (hc : Mv (opF g.xs i) = false) {b : Bool} (HX : Hid (∀ W,Below w.heap.size w W → Calls Tryz.prog 145 #[.pointer (some ⟨g.J,0,none⟩),.int .i64 i] W fun e w' => e = .returned (.bool b) ∧ Below W.heap.size W w')) :
  Calls Tryz.prog 95 #[.pointer (some ⟨g.J,0,none⟩),.int .i64 i,.func (.func 94) #[] #[.pointer (some ⟨HB,0,none⟩)]] w (xu w HB hv b):=by
 have B0:=aj w (aY (some ⟨g.J,0,none⟩));have B1:=aj (w.alloc (aY (some ⟨g.J,0,none⟩))) (aM i);have BB:=B0.trans (B1.mono B0.size);have h2:=h.later BB;have jr:=h2.rw;have a3:=(h2.at_ hi).2.2.2;have hz : (w.alloc (aY (some ⟨g.J,0,none⟩))).heap.size = w.heap.size + 1:=ak;have c0 : ((w.alloc (aY (some ⟨g.J,0,none⟩))).alloc (aM i)).cell? ⟨w.heap.size,0,none⟩ = some (.pointer (some ⟨g.J,0,none⟩)):=ai (ar B1 (heap_alloc_new w (aY (some ⟨g.J,0,none⟩))))
 have c1 : ((w.alloc (aY (some ⟨g.J,0,none⟩))).alloc (aM i)).cell? ⟨w.heap.size + 1,0,none⟩ = some (.int .i64 i):=by
  exact jz
 have hi2 : (i : Int) < (g.N : Int):=ae
 have he94 : ∀ args w,(callFunc 94 args).run Tryz.prog w = .ok (.enter 94 args) w:=fun _ _ => rfl
 have HBB:=hid (show Below w.heap.size w ((w.alloc (aY (some ⟨g.J,0,none⟩))).alloc (aM i)) from BB);have Hb:=hid hb;have HH:=hid h;have hcr:=h.cod.range hi;have hw:=JO hcr.1 hcr.2 hc;clear hcr hc;clear h h2 B0 B1 BB hz hb
 go_enter Tryz.func95,Tryz.ntmps95
 have q0:=hw [105,102] ak;have q1:=hw [101,108,115,101] ak;have q2:=hw [101,110,100] ak;have q3:=hw [116,114,97,112] ak;have q4:=hw [98,114] ak;have q5:=hw [98,114,116,97,98,108,101] ak;have q6:=hw [114,101,116,117,114,110] ak;have q7:=hw [100,114,111,112] ak;have q8:=hw [115,101,108,101,99,116] ak;clear hw;generalize wdV (opF g.xs i) = wd at *;exact II
theorem K0 (h : Jw g w) (hN : g.N ≤ 2048) {i : Nat} (hi : i < g.N) {HB : Nat} {hv : Bool} (hb : w.heap[HB]? = some (f9 hv)) (hc : opF g.xs i = 4) {b b2 : Bool} (HX : Hid (∀ W,Below w.heap.size w W → Calls Tryz.prog 145 #[.pointer (some ⟨g.J,0,none⟩),.int .i64 i] W fun e w' => e = .returned (.bool b) ∧ Below W.heap.size W w')) (HY : Hid (∀ W,Below w.heap.size w W → Calls Tryz.prog 146 #[.pointer (some ⟨g.J,0,none⟩),.int .i64 i] W fun e w' => e = .returned (.bool b2) ∧ Below W.heap.size W w')) :
  Calls Tryz.prog 95 #[.pointer (some ⟨g.J,0,none⟩),.int .i64 i,.func (.func 94) #[] #[.pointer (some ⟨HB,0,none⟩)]] w (xu w HB hv (b && b2)):=by
 have B0:=aj w (aY (some ⟨g.J,0,none⟩));have B1:=aj (w.alloc (aY (some ⟨g.J,0,none⟩))) (aM i);have BB:=B0.trans (B1.mono B0.size);have h2:=h.later BB;have jr:=h2.rw;have a3:=(h2.at_ hi).2.2.2;have hz : (w.alloc (aY (some ⟨g.J,0,none⟩))).heap.size = w.heap.size + 1:=ak;have c0 : ((w.alloc (aY (some ⟨g.J,0,none⟩))).alloc (aM i)).cell? ⟨w.heap.size,0,none⟩ = some (.pointer (some ⟨g.J,0,none⟩)):=ai (ar B1 (heap_alloc_new w (aY (some ⟨g.J,0,none⟩))))
 have c1 : ((w.alloc (aY (some ⟨g.J,0,none⟩))).alloc (aM i)).cell? ⟨w.heap.size + 1,0,none⟩ = some (.int .i64 i):=by
  exact jz
 have hi2 : (i : Int) < (g.N : Int):=ae
 have he94 : ∀ args w,(callFunc 94 args).run Tryz.prog w = .ok (.enter 94 args) w:=fun _ _ => rfl
 have HBB:=hid (show Below w.heap.size w ((w.alloc (aY (some ⟨g.J,0,none⟩))).alloc (aM i)) from BB);have Hb:=hid hb;have HH:=hid h;clear h h2 B0 B1 BB hz hb
 go_enter Tryz.func95,Tryz.ntmps95
 rw [(congrArg wdV hc).trans QC] at a3;clear hc;exact I6
theorem FP (h : Jw g w) (hN : g.N ≤ 2048) {i : Nat} (hi : i < g.N) {HB : Nat} {hv : Bool} (hb : w.heap[HB]? = some (f9 hv)) (hc : opF g.xs i = 6) {b : Bool} (HX : Hid (∀ W,Below w.heap.size w W → Calls Tryz.prog 147 #[.pointer (some ⟨g.J,0,none⟩),.int .i64 i,.int .i64 ((i + 1 : Nat) : Int)] W fun e w' => e = .returned (.bool b) ∧ Below W.heap.size W w')) :
  Calls Tryz.prog 95 #[.pointer (some ⟨g.J,0,none⟩),.int .i64 i,.func (.func 94) #[] #[.pointer (some ⟨HB,0,none⟩)]] w (xu w HB hv b):=by
 have B0:=aj w (aY (some ⟨g.J,0,none⟩));have B1:=aj (w.alloc (aY (some ⟨g.J,0,none⟩))) (aM i);have BB:=B0.trans (B1.mono B0.size);have h2:=h.later BB;have jr:=h2.rw;have a3:=(h2.at_ hi).2.2.2;have hz : (w.alloc (aY (some ⟨g.J,0,none⟩))).heap.size = w.heap.size + 1:=ak;have c0 : ((w.alloc (aY (some ⟨g.J,0,none⟩))).alloc (aM i)).cell? ⟨w.heap.size,0,none⟩ = some (.pointer (some ⟨g.J,0,none⟩)):=ai (ar B1 (heap_alloc_new w (aY (some ⟨g.J,0,none⟩))))
 have c1 : ((w.alloc (aY (some ⟨g.J,0,none⟩))).alloc (aM i)).cell? ⟨w.heap.size + 1,0,none⟩ = some (.int .i64 i):=by
  exact jz
 have hi2 : (i : Int) < (g.N : Int):=ae
 have he94 : ∀ args w,(callFunc 94 args).run Tryz.prog w = .ok (.enter 94 args) w:=fun _ _ => rfl
 have HBB:=hid (show Below w.heap.size w ((w.alloc (aY (some ⟨g.J,0,none⟩))).alloc (aM i)) from BB);have Hb:=hid hb;have HH:=hid h;clear h h2 B0 B1 BB hz hb
 go_enter Tryz.func95,Tryz.ntmps95
 rw [(congrArg wdV hc).trans RA] at a3;clear hc;exact II
theorem Gi (h : Jw g w) (hN : g.N ≤ 2048) {i : Nat} (hi : i < g.N) {HB : Nat} {hv : Bool} (hb : w.heap[HB]? = some (f9 hv)) (hc : opF g.xs i = 0 ∨ opF g.xs i = 7 ∨ opF g.xs i = 9 ∨ opF g.xs i = 10) {b b2 : Bool} (HX : Hid (∀ W,Below w.heap.size w W → Calls Tryz.prog 148 #[.pointer (some ⟨g.J,0,none⟩),.int .i64 ((i + 1 : Nat) : Int)] W fun e w' => e = .returned (.bool b) ∧ Below W.heap.size W w')) (HY : Hid (∀ W,Below w.heap.size w W → Calls Tryz.prog 149 #[.pointer (some ⟨g.J,0,none⟩),.int .i64 i] W fun e w' => e = .returned (.bool b2) ∧ Below W.heap.size W w')) :
  Calls Tryz.prog 95 #[.pointer (some ⟨g.J,0,none⟩),.int .i64 i,.func (.func 94) #[] #[.pointer (some ⟨HB,0,none⟩)]] w (xu w HB hv (b && b2)):=by
 have B0:=aj w (aY (some ⟨g.J,0,none⟩));have B1:=aj (w.alloc (aY (some ⟨g.J,0,none⟩))) (aM i);have BB:=B0.trans (B1.mono B0.size);have h2:=h.later BB;have jr:=h2.rw;have a3:=(h2.at_ hi).2.2.2;have hz : (w.alloc (aY (some ⟨g.J,0,none⟩))).heap.size = w.heap.size + 1:=ak;have c0 : ((w.alloc (aY (some ⟨g.J,0,none⟩))).alloc (aM i)).cell? ⟨w.heap.size,0,none⟩ = some (.pointer (some ⟨g.J,0,none⟩)):=ai (ar B1 (heap_alloc_new w (aY (some ⟨g.J,0,none⟩))))
 have c1 : ((w.alloc (aY (some ⟨g.J,0,none⟩))).alloc (aM i)).cell? ⟨w.heap.size + 1,0,none⟩ = some (.int .i64 i):=by
  exact jz
 have hi2 : (i : Int) < (g.N : Int):=ae
 have he94 : ∀ args w,(callFunc 94 args).run Tryz.prog w = .ok (.enter 94 args) w:=fun _ _ => rfl
 have HBB:=hid (show Below w.heap.size w ((w.alloc (aY (some ⟨g.J,0,none⟩))).alloc (aM i)) from BB);have Hb:=hid hb;have HH:=hid h;clear h h2 B0 B1 BB hz hb
 rcases hc with hc | hc | hc | hc
 all_goals
  simp only [hc,Rs,Q3,Ro,NU] at a3
  clear hc
  go_enter Tryz.func95,Tryz.ntmps95
  exact I6
theorem un (h : Jw g w) (hN : g.N ≤ 2048) {i : Nat} (hi : i < g.N) {HB : Nat} {hv : Bool} (hb : w.heap[HB]? = some (f9 hv)) (hc : opF g.xs i = 16) {p : ByteArray → Bool} (HX : Hid (∀ (W : World) (JB PB : Nat) (y : ByteArray),Below w.heap.size w W → W.cell? ⟨JB,0,none⟩ = some (.pointer (some ⟨g.J,0,none⟩)) → W.cell? ⟨PB,0,none⟩ = some (.int .i64 i) → y.size ≤ 8 → Calls Tryz.prog 151 #[.string y,.pointer (some ⟨JB,0,none⟩),.pointer (some ⟨PB,0,none⟩)] W fun e w' => e = .returned (.bool (p y)) ∧ Below W.heap.size W w')) :
  Calls Tryz.prog 95 #[.pointer (some ⟨g.J,0,none⟩),.int .i64 i,.func (.func 94) #[] #[.pointer (some ⟨HB,0,none⟩)]] w (xu w HB hv (p ⟨#[119]⟩ || p ⟨#[108]⟩)):=by
 have B0:=aj w (aY (some ⟨g.J,0,none⟩));have B1:=aj (w.alloc (aY (some ⟨g.J,0,none⟩))) (aM i);have BB:=B0.trans (B1.mono B0.size);have h2:=h.later BB;have jr:=h2.rw;have a3:=(h2.at_ hi).2.2.2;have hz : (w.alloc (aY (some ⟨g.J,0,none⟩))).heap.size = w.heap.size + 1:=ak;have c0 : ((w.alloc (aY (some ⟨g.J,0,none⟩))).alloc (aM i)).cell? ⟨w.heap.size,0,none⟩ = some (.pointer (some ⟨g.J,0,none⟩)):=ai (ar B1 (heap_alloc_new w (aY (some ⟨g.J,0,none⟩))))
 have c1 : ((w.alloc (aY (some ⟨g.J,0,none⟩))).alloc (aM i)).cell? ⟨w.heap.size + 1,0,none⟩ = some (.int .i64 i):=by
  exact jz
 have hi2 : (i : Int) < (g.N : Int):=ae
 have he94 : ∀ args w,(callFunc 94 args).run Tryz.prog w = .ok (.enter 94 args) w:=fun _ _ => rfl
 have HBB:=hid (show Below w.heap.size w ((w.alloc (aY (some ⟨g.J,0,none⟩))).alloc (aM i)) from BB);have Hb:=hid hb;have HH:=hid h
 have hmf : ∀ (fn : Fn) (first cap : Array Value) (w : World),(Instr.makeFunc fn first cap).run Tryz.prog w = .ok (.func fn first cap) w:=fun _ _ _ _ => rfl
 clear h h2 B0 B1 BB hz hb
 go_enter Tryz.func95,Tryz.ntmps95
 rw [(congrArg wdV hc).trans QO] at a3;clear hc
 have BQ:=hid (fun (q : Nat) => HBB.out.trans ((below_drewN ((w.alloc (aY (some ⟨g.J,0,none⟩))).alloc (aM i)) q).mono HBB.out.size))
 go_wp2_with fail
 go_quiet (fail)
 have d0:=ag (below_drewN ((w.alloc (aY (some ⟨g.J,0,none⟩))).alloc (aM i)) nq) c0;have d1:=ag (below_drewN ((w.alloc (aY (some ⟨g.J,0,none⟩))).alloc (aM i)) nq) c1;have HB3:=hid (BQ.out nq);generalize ((w.alloc (aY (some ⟨g.J,0,none⟩))).alloc (aM i)).drewN nq = W3 at *;clear c0 c1 a3 jr BQ HBB;go_wp2_with fail
 refine (CI (K:=151) (p:=p) (fun _ _ => rfl) (fun W y hbw hy => HX.out W _ _ y (HB3.out.trans (hbw.mono HB3.out.size)) (ag hbw d0) (ag hbw d1) hy)).mono ?_
 exact Hf
theorem uU (h : Jw g w) (hN : g.N ≤ 2048) {i : Nat} (hi : i < g.N) {HB : Nat} {hv : Bool} (hb : w.heap[HB]? = some (f9 hv)) (hc : opF g.xs i = 17) {p : ByteArray → Bool} (HX : Hid (∀ (W : World) (JB PB : Nat) (y : ByteArray),Below w.heap.size w W → W.cell? ⟨JB,0,none⟩ = some (.pointer (some ⟨g.J,0,none⟩)) → W.cell? ⟨PB,0,none⟩ = some (.int .i64 i) → y.size ≤ 8 → Calls Tryz.prog 153 #[.string y,.pointer (some ⟨JB,0,none⟩),.pointer (some ⟨PB,0,none⟩)] W fun e w' => e = .returned (.bool (p y)) ∧ Below W.heap.size W w')) :
  Calls Tryz.prog 95 #[.pointer (some ⟨g.J,0,none⟩),.int .i64 i,.func (.func 94) #[] #[.pointer (some ⟨HB,0,none⟩)]] w (xu w HB hv (p ⟨#[119]⟩ || p ⟨#[108]⟩)):=by
 have B0:=aj w (aY (some ⟨g.J,0,none⟩));have B1:=aj (w.alloc (aY (some ⟨g.J,0,none⟩))) (aM i);have BB:=B0.trans (B1.mono B0.size);have h2:=h.later BB;have jr:=h2.rw;have a3:=(h2.at_ hi).2.2.2;have hz : (w.alloc (aY (some ⟨g.J,0,none⟩))).heap.size = w.heap.size + 1:=ak;have c0 : ((w.alloc (aY (some ⟨g.J,0,none⟩))).alloc (aM i)).cell? ⟨w.heap.size,0,none⟩ = some (.pointer (some ⟨g.J,0,none⟩)):=ai (ar B1 (heap_alloc_new w (aY (some ⟨g.J,0,none⟩))))
 have c1 : ((w.alloc (aY (some ⟨g.J,0,none⟩))).alloc (aM i)).cell? ⟨w.heap.size + 1,0,none⟩ = some (.int .i64 i):=by
  exact jz
 have hi2 : (i : Int) < (g.N : Int):=ae
 have he94 : ∀ args w,(callFunc 94 args).run Tryz.prog w = .ok (.enter 94 args) w:=fun _ _ => rfl
 have HBB:=hid (show Below w.heap.size w ((w.alloc (aY (some ⟨g.J,0,none⟩))).alloc (aM i)) from BB);have Hb:=hid hb;have HH:=hid h
 have hmf : ∀ (fn : Fn) (first cap : Array Value) (w : World),(Instr.makeFunc fn first cap).run Tryz.prog w = .ok (.func fn first cap) w:=fun _ _ _ _ => rfl
 clear h h2 B0 B1 BB hz hb
 go_enter Tryz.func95,Tryz.ntmps95
 rw [(congrArg wdV hc).trans Qy] at a3;clear hc
 have BQ:=hid (fun (q : Nat) => HBB.out.trans ((below_drewN ((w.alloc (aY (some ⟨g.J,0,none⟩))).alloc (aM i)) q).mono HBB.out.size))
 go_wp2_with fail
 go_quiet (fail)
 have d0:=ag (below_drewN ((w.alloc (aY (some ⟨g.J,0,none⟩))).alloc (aM i)) nq) c0;have d1:=ag (below_drewN ((w.alloc (aY (some ⟨g.J,0,none⟩))).alloc (aM i)) nq) c1;have HB3:=hid (BQ.out nq);generalize ((w.alloc (aY (some ⟨g.J,0,none⟩))).alloc (aM i)).drewN nq = W3 at *;clear c0 c1 a3 jr BQ HBB;go_wp2_with fail
 refine (CI (K:=153) (p:=p) (fun _ _ => rfl) (fun W y hbw hy => HX.out W _ _ y (HB3.out.trans (hbw.mono HB3.out.size)) (ag hbw d0) (ag hbw d1) hy)).mono ?_
 exact Hf
abbrev elS (A B J EN i : Nat) (gJ : Nat) (ev : Value) (e : Int) (W : World) : Prop :=
 W.cell? ⟨A,0,none⟩ = some (.pointer (some ⟨gJ,0,none⟩)) ∧ W.cell? ⟨B,0,none⟩ = some (.int .i64 i) ∧ W.cell? ⟨J,12,none⟩ = some ev ∧ W.cell? ⟨EN,i,none⟩ = some (.int .i64 e)
theorem AX (h : Jw g w) (hN : g.N ≤ 2048) {i : Nat} (hi : i < g.N) {HB : Nat} {hv : Bool} (hb : w.heap[HB]? = some (f9 hv)) (hc : opF g.xs i = 5) {q : Nat} (hq : enF (opF g.xs) g.N i = q) {b : Bool} (HX : Hid (∀ W,Below w.heap.size w W → Calls Tryz.prog 147 #[.pointer (some ⟨g.J,0,none⟩),.int .i64 i,.int .i64 q] W fun e w' => e = .returned (.bool b) ∧ Below W.heap.size W w')) :
  Calls Tryz.prog 95 #[.pointer (some ⟨g.J,0,none⟩),.int .i64 i,.func (.func 94) #[] #[.pointer (some ⟨HB,0,none⟩)]] w (xu w HB hv b):=by
 have B0:=aj w (aY (some ⟨g.J,0,none⟩));have B1:=aj (w.alloc (aY (some ⟨g.J,0,none⟩))) (aM i);have BB:=B0.trans (B1.mono B0.size);have h2:=h.later BB;have jr:=h2.rw;have a3:=(h2.at_ hi).2.2.2;have hz : (w.alloc (aY (some ⟨g.J,0,none⟩))).heap.size = w.heap.size + 1:=ak;have c0 : ((w.alloc (aY (some ⟨g.J,0,none⟩))).alloc (aM i)).cell? ⟨w.heap.size,0,none⟩ = some (.pointer (some ⟨g.J,0,none⟩)):=ai (ar B1 (heap_alloc_new w (aY (some ⟨g.J,0,none⟩))))
 have c1 : ((w.alloc (aY (some ⟨g.J,0,none⟩))).alloc (aM i)).cell? ⟨w.heap.size + 1,0,none⟩ = some (.int .i64 i):=by
  exact jz
 have hi2 : (i : Int) < (g.N : Int):=ae
 have he94 : ∀ args w,(callFunc 94 args).run Tryz.prog w = .ok (.enter 94 args) w:=fun _ _ => rfl
 have HBB:=hid (show Below w.heap.size w ((w.alloc (aY (some ⟨g.J,0,none⟩))).alloc (aM i)) from BB);have Hb:=hid hb;have HH:=hid h
 have HEN:=hid (fun (W : World) (hb : Below w.heap.size w W) => And.intro (h.later hb).en ((h.later hb).enc.cell i hi))
 rw [hq] at HEN
 have hne1 : g.J ≠ HB:=fun e => by
  have:=h.en
  rw [e,ai hb] at this
  simp at this
 have hne2 : g.EN ≠ HB:=fun e => by
  have:=h.enc.cell i hi
  rw [e,ai hb] at this
  cases i <;> simp at this
 clear h h2 B0 B1 BB hz hb
 go_enter Tryz.func95,Tryz.ntmps95
 rw [(congrArg wdV hc).trans Sn] at a3;clear hc
 have BQ:=hid (fun (q : Nat) => HBB.out.trans ((below_drewN ((w.alloc (aY (some ⟨g.J,0,none⟩))).alloc (aM i)) q).mono HBB.out.size))
 go_wp2_with fail
 go_quiet (fail)
 have d0:=ag (below_drewN ((w.alloc (aY (some ⟨g.J,0,none⟩))).alloc (aM i)) nq) c0;have d1:=ag (below_drewN ((w.alloc (aY (some ⟨g.J,0,none⟩))).alloc (aM i)) nq) c1;have HB3:=hid (BQ.out nq);generalize ((w.alloc (aY (some ⟨g.J,0,none⟩))).alloc (aM i)).drewN nq = W3 at *;clear c0 c1 a3 jr BQ HBB;go_wp2_with fail;obtain ⟨n0,n1⟩:=HEN.out _ HB3.out
 have hne3 : w.heap.size ≠ HB:=by have:=dY Hb.out; omega
 have hne4 : w.heap.size + 1 ≠ HB:=by have:=dY Hb.out; omega
 have HN:=hid (And.intro hne1 (And.intro hne2 (And.intro hne3 hne4)));clear hne1 hne2 hne3 hne4;generalize w.heap.size + 1 = PB at *
 refine wp_region_held_drew (S:=elS w.heap.size PB g.J g.EN i g.J (.slice (some ⟨g.EN,0,none⟩) g.N g.N) q) aw ⟨d0,d1,n0,n1⟩ (fun hHeld => ?_)
 refine tkB (i:=0) (oi:={ dst:=some 33,op:=.move (.tmp 2),type:=151,pos:= "rows.go:16",after:=#[],guard:=none }) (d:=some 33) ?_;(try simp only [Act.put,sIB,sC0,sCs]);refine tkB (i:=1) (oi:={ dst:=some 34,op:=.load 92 (.tmp 3),type:=92,pos:= "rows.go:16",after:=#[],guard:=none }) (d:=some 34) ?_;(try simp only [Act.put,sIB,sC0,sCs]);refine tkB (i:=2) (oi:={ dst:=some 35,op:=.load 3 (.tmp 4),type:=3,pos:= "rows.go:16",after:=#[],guard:=none }) (d:=some 35) ?_;(try simp only [Act.put,sIB,sC0,sCs]);refine tkB (i:=3) (oi:={ dst:=some 36,op:=.load 92 (.tmp 3),type:=92,pos:= "rows.go:16",after:=#[],guard:=none }) (d:=some 36) ?_;(try simp only [Act.put,sIB,sC0,sCs]);refine tkB (i:=4) (oi:={ dst:=some 37,op:=.nilCheck (.tmp 36),type:=0,pos:= "rows.go:16",after:=#[⟨3,.data⟩],guard:=none }) (d:=some 37) ?_;(try simp only [Act.put,sIB,sC0,sCs]);refine tkB (i:=5) (oi:={ dst:=some 38,op:=.fieldAddr 95 (.tmp 37) 5,type:=0,pos:= "rows.go:16",after:=#[⟨4,.data⟩],guard:=none }) (d:=some 38) ?_;(try simp only [Act.put,sIB,sC0,sCs]);refine tkB (i:=6) (oi:={ dst:=some 39,op:=.load 23 (.tmp 38),type:=23,pos:= "rows.go:16",after:=#[⟨5,.data⟩],guard:=none }) (d:=some 39) ?_;(try simp only [Act.put,sIB,sC0,sCs]);refine tkB (i:=7) (oi:={ dst:=some 40,op:=.load 3 (.tmp 4),type:=3,pos:= "rows.go:16",after:=#[],guard:=none }) (d:=some 40) ?_;(try simp only [Act.put,sIB,sC0,sCs]);refine tkB (i:=8) (oi:={ dst:=some 41,op:=.indexAddr 23 (.tmp 39) (.tmp 40),type:=0,pos:= "rows.go:16",after:=#[⟨6,.data⟩,⟨7,.data⟩],guard:=none }) (d:=some 41) ?_;(try simp only [Act.put,sIB,sC0,sCs]);refine tkB (i:=9) (oi:={ dst:=some 42,op:=.load 3 (.tmp 41),type:=3,pos:= "rows.go:16",after:=#[⟨8,.data⟩],guard:=none }) (d:=some 42) ?_;(try simp only [Act.put,sIB,sC0,sCs]);refine rdY (rs:=[10]) ?_
 refine rdA (o:={ dst:=some 43,op:=.call { callee:=.value (.func 147),args:=#[.tmp 34,.tmp 35,.tmp 42],argTypes:=#[92,3,3] },type:=4,pos:= "rows.go:16",after:=#[⟨1,.data⟩,⟨2,.data⟩,⟨9,.data⟩],guard:=none }) (fun K hK => ?_) rN
 go_simp;refine (HX.out _ HB3.out.drew).mono ?_;rintro e w5 ⟨rfl,hbx⟩;have HB5:=hid (HB3.out.drew.trans (hbx.mono HB3.out.drew.size));have hS5 : elS w.heap.size PB g.J g.EN i g.J (.slice (some ⟨g.EN,0,none⟩) g.N g.N) q w5:=⟨ag hbx hHeld.1,ag hbx hHeld.2.1,ag hbx hHeld.2.2.1,ag hbx hHeld.2.2.2⟩
 refine hK.out _ _ hS5 (fun hHeld2 => ?_)
 clear hK K hbx hHeld;refine rdY (rs:=[11]) ?_
 refine rdA (o:={ dst:=some 44,op:=.call { callee:=.value (.tmp 33),args:=#[.tmp 43],argTypes:=#[4] },type:=0,pos:= "rows.go:16",after:=#[⟨0,.data⟩,⟨10,.data⟩,⟨10,.chain⟩],guard:=none }) (fun K hK => ?_) rN
 go_simp;refine (mL (ar HB5.out Hb.out)).mono ?_;rintro e w6 ⟨rfl,hw6⟩;subst hw6;obtain ⟨m1,m2,m3,m4⟩:=HN.out
 refine hK.out _ _ ⟨(ay w5 HB 0 _).cell hS5.1 m3,(ay w5 HB 0 _).cell hS5.2.1 m4,(ay w5 HB 0 _).cell hS5.2.2.1 m1,(ay w5 HB 0 _).cell hS5.2.2.2 m2⟩ (fun _ => ?_)
 clear hK K;refine wpAnyH_done aw ?_ _;go_wp2_with fail;go_end0;exact ⟨rfl,_,HB5.out,rfl⟩
end
end Go.Proofs.YtepnnenohjfkbaaGreatDoor

/-
  Texts Jt.
-/
import Derived.Test.YtepnnenohjfkbaaGreatDoorP00
import Derived.Test.YtepnnenohjfkbaaGreatDoorP32
set_option linter.unusedVariables false
set_option maxRecDepth 100000
set_option maxHeartbeats 16000000
namespace Go.Proofs.YtepnnenohjfkbaaGreatDoor
open Go.RowKit
theorem tkU {P : Program} {ops : Array Oper} {Q : Exit → Act → World → Prop} {md : Region.Mode} {S : World → Prop} {i : Nat} {oi : Oper} {d : Option Tmp} {fuel : Nat} {listed : Array Bool} {a : Act} {w : World} (h : wpAnyH P md ops Q S fuel (listed.setIfInBounds i true) (a.put d undef) w) (hi : ops[i]? = some oi:=by kernel_rfl) (hd : oi.dst = d:=by kernel_rfl) (hs : Region.noSelect ops = true:=by kernel_rfl) (hf : Region.free md ops listed i = true:=by kernel_rfl) (hr : (Region.ready md ops listed).contains i = true:=by kernel_rfl) (hw : Region.wanted oi (yielded ops a.tmps) = false:=by kernel_rfl) (hQ : ∀ c a w,Q (.panic c) (a.put d undef) w → Q (.panic c) a w:=by exact fun _ _ _ h => h) (hS : S w:=by assumption) : wpAnyH P md ops Q S (fuel + 1) listed a w:=take_at hi hd hs hf hr hQ (Or.inr ⟨hw,rfl⟩) hS h
abbrev glS (G : Nat) (lt : Int) (mu : Bool) (w W : World) : Prop :=
 W.cell? ⟨G,0,none⟩ = some (.int .u8 lt) ∧ W.cell? ⟨G,1,none⟩ = some (.bool mu) ∧ Below w.heap.size w W
theorem glS.later {G : Nat} {lt : Int} {mu : Bool} {w W W' : World} (h : glS G lt mu w W) (hb : Below W.heap.size W W') : glS G lt mu w W' :=
 ⟨ag hb h.1,ag hb h.2.1,h.2.2.trans (hb.mono h.2.2.size)⟩
theorem glS.put {G j : Nat} {lt : Int} {mu : Bool} {u : Value} {w W : World} (h : glS G lt mu w W) (hG : G ≠ w.heap.size) : glS G lt mu w (W.setCell ⟨w.heap.size,j,none⟩ u) :=
 ⟨(ay W w.heap.size j u).cell h.1 hG,(ay W w.heap.size j u).cell h.2.1 hG,bN h.2.2 (Nat.le_refl _) h.2.2.size⟩
theorem Nq : wdV 21 = ⟨#[103,103,101,116]⟩:=aw
theorem Ny : wdV 22 = ⟨#[103,115,101,116]⟩:=aw
section
variable {g : Jg} {w : World}
theorem jH (h : Jw g w) (hN : g.N ≤ 2048) {i : Nat} (hi : i < g.N) (hc : opF g.xs i = 21 ∨ opF g.xs i = 22) {lt va : Int} {mu fd bv : Bool} {Pa Re : ByteArray} (hbv : bv = (fd && (decide (opF g.xs i = 21) || mu)))
  (HF : Hid (∀ W,Below w.heap.size w W → Calls Tryz.prog 260 #[.slice g.m.ga g.m.gn g.m.gc,.int .i64 (g.xs.getD i dx).a] W fun e w' => e = .returned (.tuple #[.agg #[.int .u8 lt,.bool mu,.int .u64 va],.bool fd]) ∧ Below W.heap.size W w'))
  (HG : Hid (∀ W,Below w.heap.size w W → Calls Tryz.prog 259 #[.string (wdV (opF g.xs i)),.int .u8 lt] W fun e w' => e = .returned (.agg #[.string Pa,.string Re]) ∧ Below W.heap.size W w')) :
  Calls Tryz.prog 213 #[.pointer (some ⟨g.J,0,none⟩),.int .i64 i] w fun e w' => e = .returned (.tuple #[.agg #[.string Pa,.string Re],.bool bv]) ∧ Below w.heap.size w w':=by
 have B0:=aj w (bj ⟨#[]⟩ ⟨#[]⟩);have h0:=h.later B0;obtain ⟨a0,a1,a2,_⟩:=h0.at_ hi;have jc:=h0.c;have hi2 : (i : Int) < (g.N : Int):=ae;have B1:=aj (w.alloc (bj ⟨#[]⟩ ⟨#[]⟩)) (aC (opF g.xs i) (g.xs.getD i dx).a (g.xs.getD i dx).la (g.xs.getD i dx).ln (g.xs.getD i dx).lc);have h1:=h0.later B1;have jr:=h1.rw;have a3:=(h1.at_ hi).2.2.2;have BB:=B0.trans (B1.mono B0.size);have r0:=ar B1 (heap_alloc_new w (bj ⟨#[]⟩ ⟨#[]⟩));have j1:=h1.m2;have hJw : g.J < w.heap.size:=block_lt_of_cell h.m0
 have x1 : ((w.alloc (bj ⟨#[]⟩ ⟨#[]⟩)).alloc (aC (opF g.xs i) (g.xs.getD i dx).a (g.xs.getD i dx).la (g.xs.getD i dx).ln (g.xs.getD i dx).lc)).cell? ⟨w.heap.size + 1,1,none⟩ = some (.int .i64 (g.xs.getD i dx).a):=by
  exact tM
 have hz2 : ((w.alloc (bj ⟨#[]⟩ ⟨#[]⟩)).alloc (aC (opF g.xs i) (g.xs.getD i dx).a (g.xs.getD i dx).la (g.xs.getD i dx).ln (g.xs.getD i dx).lc)).heap.size = w.heap.size + 1 + 1:=ak;have HBB:=hid BB;have HR0:=hid r0;have HZ2:=hid hz2;clear h h0 h1 B0 B1 BB r0 hz2;generalize opF g.xs i = c at *;generalize (g.xs.getD i dx).a = a at *;generalize (g.xs.getD i dx).la = la at *;generalize (g.xs.getD i dx).ln = ln at *;generalize (g.xs.getD i dx).lc = lc at *
 go_enter Tryz.func213,Tryz.ntmps213
 rcases hc with hc | hc <;> cases fd
 all_goals
  rw [hc] at hbv
  simp only [Bool.true_and,Bool.false_and,decide_true,Bool.true_or,show decide ((22 : Int) = 21) = false from rfl,Bool.false_or] at hbv
  have hbv2:=hbv.symm;clear hbv;subst hbv2
  first
   | rw [(congrArg wdV hc).trans Nq] at a3 HG
   | rw [(congrArg wdV hc).trans Ny] at a3 HG
  clear hc;go_wp2_with fail;have RB0:=HR0.out;have hzz:=HZ2.out;have HBw:=HBB.out;generalize (w.alloc (bj ⟨#[]⟩ ⟨#[]⟩)).alloc (aC c a la ln lc) = W0 at *;have hH0 : cgS g.J (w.heap.size + 1) 2 (.slice g.m.ga g.m.gn g.m.gc) a w W0:=⟨j1,x1,HBw⟩;have HH0:=hid hH0;have RBD : W0.drew.heap[w.heap.size]? = some (bj ⟨#[]⟩ ⟨#[]⟩):=RB0;have HZ:=hid hzz;clear hzz RB0 HBw HR0 HZ2 HBB a0 a1 a2 jc jr a3
  refine wp_region_held_drew (S:=cgS g.J (w.heap.size + 1) 2 (.slice g.m.ga g.m.gn g.m.gc) a w) aw ⟨j1,x1,hH0.2.2.drew⟩ (fun hHeld => ?_)
  clear j1 x1 hH0;refine tkB (i:=0) (oi:={ dst:=some 145,op:=.move (.tmp 0),type:=92,pos:= "rows.go:146",after:=#[],guard:=none }) (d:=some 145) ?_;(try simp only [Act.put,sIB,sC0,sCs]);refine tkB (i:=1) (oi:={ dst:=some 146,op:=.nilCheck (.tmp 145),type:=0,pos:= "rows.go:146",after:=#[⟨0,.data⟩],guard:=none }) (d:=some 146) ?_;(try simp only [Act.put,sIB,sC0,sCs]);refine tkB (i:=2) (oi:={ dst:=some 147,op:=.fieldAddr 95 (.tmp 146) 0,type:=0,pos:= "rows.go:146",after:=#[⟨1,.data⟩],guard:=none }) (d:=some 147) ?_;(try simp only [Act.put,sIB,sC0,sCs]);refine tkB (i:=3) (oi:={ dst:=some 148,op:=.fieldAddr 29 (.tmp 147) 2,type:=0,pos:= "rows.go:146",after:=#[⟨2,.data⟩],guard:=none }) (d:=some 148) ?_;(try simp only [Act.put,sIB,sC0,sCs]);refine tkB (i:=4) (oi:={ dst:=some 149,op:=.load 24 (.tmp 148),type:=24,pos:= "rows.go:146",after:=#[⟨3,.data⟩],guard:=none }) (d:=some 149) ?_;(try simp only [Act.put,sIB,sC0,sCs]);refine tkB (i:=5) (oi:={ dst:=some 150,op:=.fieldAddr 51 (.tmp 6) 1,type:=0,pos:= "rows.go:146",after:=#[],guard:=none }) (d:=some 150) ?_;(try simp only [Act.put,sIB,sC0,sCs]);refine tkB (i:=6) (oi:={ dst:=some 151,op:=.load 2 (.tmp 150),type:=2,pos:= "rows.go:146",after:=#[⟨5,.data⟩],guard:=none }) (d:=some 151) ?_;(try simp only [Act.put,sIB,sC0,sCs]);refine rdY (rs:=[7,11]) ?_
  refine rdA (o:={ dst:=some 152,op:=.call { callee:=.value (.func 260),args:=#[.tmp 149,.tmp 151],argTypes:=#[24,2] },type:=294,pos:= "rows.go:146",after:=#[⟨4,.data⟩,⟨6,.data⟩],guard:=none }) (fun K hK => ?_) (xD (o:={ dst:=some 20,op:=.alloc 141,type:=0,pos:= "rows.go:146",after:=#[],guard:=none }) aw aw (fun K hK => ?_) rN)
  ·go_simp;refine (HF.out _ hHeld.2.2).mono ?_;rintro e w5 ⟨rfl,hb5⟩;have hS5:=cgS.later hHeld hb5;have rb5:=ar hb5 RBD
   refine hK.out _ _ hS5 (fun _ => ?_)
   clear hK K hb5 hHeld RBD;refine tkB (i:=8) (oi:={ dst:=some 144,op:=.move (.tmp 152),type:=294,pos:= "rows.go:146",after:=#[⟨7,.data⟩],guard:=none }) (d:=some 144) ?_;(try simp only [Act.put,sIB,sC0,sCs]);refine tkB (i:=9) (oi:={ dst:=some 153,op:=.extract (.tmp 144) 0,type:=141,pos:= "rows.go:146",after:=#[⟨8,.data⟩],guard:=none }) (d:=some 153) ?_;(try simp only [Act.put,sIB,sC0,sCs]);refine tkB (i:=10) (oi:={ dst:=some 154,op:=.extract (.tmp 144) 1,type:=4,pos:= "rows.go:146",after:=#[⟨8,.data⟩,{ on:=12,ground:=.gcOnly Go.Departure.lateStores }],guard:=none }) (d:=some 154) ?_;(try simp only [Act.put,sIB,sC0,sCs]);refine rdY (rs:=[11]) ?_
   refine rdA (o:={ dst:=some 20,op:=.alloc 141,type:=0,pos:= "rows.go:146",after:=#[],guard:=none }) (fun K hK => ?_) rN
   go_simp
   refine hK.out _ _ (hS5.later (aj _ _)) (fun _ => ?_)
   clear hK K;refine rdY (rs:=[12]) ?_
   refine rdA (o:={ dst:=none,op:=.store 141 (.tmp 20) (.tmp 153),type:=0,pos:= "rows.go:146",after:=#[⟨11,.data⟩,⟨9,.data⟩,⟨7,.chain⟩,⟨0,.phase⟩,⟨1,.phase⟩,⟨2,.phase⟩,⟨3,.phase⟩,⟨4,.phase⟩,⟨5,.phase⟩,⟨6,.phase⟩,⟨7,.phase⟩,⟨8,.phase⟩,⟨9,.phase⟩,{ on:=10,ground:=.textOnly Go.Departure.lateStores },⟨11,.phase⟩],guard:=none }) (fun K hK => ?_) rN
   go_simp;have BN:=aj w5 (bC lt mu va);have gB:=heap_alloc_new w5 (bC lt mu va);have hS:=hS5.later BN;have rb6:=ar BN rb5
   refine hK.out _ _ hS (fun _ => ?_)
   clear hK K BN rb5 hS5;generalize w5.heap.size = G at *;generalize w5.alloc (bC lt mu va) = W6 at *;exact NK
  ·go_simp;have BN:=(aj W0 (bC 0 false 0)).drew;have hS5:=cgS.later HH0.out BN;have gB0 : ((W0.alloc (bC 0 false 0)).drew).heap[W0.heap.size]? = some (bC 0 false 0):=heap_alloc_new W0 _;have rb5:=ar BN RBD
   have hGw : w.heap.size + 1 < W0.heap.size:=by have:=HZ.out; omega
   refine hK.out _ _ hS5 (fun _ => ?_)
   clear hK K hHeld RBD BN;generalize (W0.alloc (bC 0 false 0)).drew = W1 at *;generalize W0.heap.size = G at *;refine rdY (rs:=[7]) ?_
   refine rdA (o:={ dst:=some 152,op:=.call { callee:=.value (.func 260),args:=#[.tmp 149,.tmp 151],argTypes:=#[24,2] },type:=294,pos:= "rows.go:146",after:=#[⟨4,.data⟩,⟨6,.data⟩],guard:=none }) (fun K hK => ?_) rN
   go_simp;refine (HF.out _ hS5.2.2).mono ?_;rintro e w5 ⟨rfl,hb5⟩;have hS6:=cgS.later hS5 hb5;have rb7:=ar hb5 rb5;have gB1:=ar hb5 gB0
   refine hK.out _ _ hS6 (fun _ => ?_)
   clear hK K hb5 hS5 rb5 gB0;refine tkB (i:=8) (oi:={ dst:=some 144,op:=.move (.tmp 152),type:=294,pos:= "rows.go:146",after:=#[⟨7,.data⟩],guard:=none }) (d:=some 144) ?_;(try simp only [Act.put,sIB,sC0,sCs]);refine tkB (i:=9) (oi:={ dst:=some 153,op:=.extract (.tmp 144) 0,type:=141,pos:= "rows.go:146",after:=#[⟨8,.data⟩],guard:=none }) (d:=some 153) ?_;(try simp only [Act.put,sIB,sC0,sCs]);refine tkB (i:=10) (oi:={ dst:=some 154,op:=.extract (.tmp 144) 1,type:=4,pos:= "rows.go:146",after:=#[⟨8,.data⟩,{ on:=12,ground:=.gcOnly Go.Departure.lateStores }],guard:=none }) (d:=some 154) ?_;(try simp only [Act.put,sIB,sC0,sCs]);have k0:=ai (i:=0) gB1;have l0:=free_at (i:=0) gB1;have k1:=ai (i:=1) gB1;have l1:=free_at (i:=1) gB1;have k2:=ai (i:=2) gB1;have l2:=free_at (i:=2) gB1;refine rdY (rs:=[12]) ?_
   refine rdA (o:={ dst:=none,op:=.store 141 (.tmp 20) (.tmp 153),type:=0,pos:= "rows.go:146",after:=#[⟨11,.data⟩,⟨9,.data⟩,⟨7,.chain⟩,⟨0,.phase⟩,⟨1,.phase⟩,⟨2,.phase⟩,⟨3,.phase⟩,⟨4,.phase⟩,⟨5,.phase⟩,⟨6,.phase⟩,⟨7,.phase⟩,⟨8,.phase⟩,⟨9,.phase⟩,{ on:=10,ground:=.textOnly Go.Departure.lateStores },⟨11,.phase⟩],guard:=none }) (fun K hK => ?_) rN
   go_simp;have hS:=(((hS6.put (G:=G) (j:=0) (u:=(.int .u8 lt)) ae ae ae).put (G:=G) (j:=1) (u:=(.bool mu)) ae ae ae).put (G:=G) (j:=2) (u:=(.int .u64 va)) ae ae ae);have rb6:=(ij (G:=G) (j:=2) (u:=(.int .u64 va)) (ij (G:=G) (j:=1) (u:=(.bool mu)) (ij (G:=G) (j:=0) (u:=(.int .u8 lt)) rb7 ae) ae) ae);have gB : (((w5.setCell ⟨G,0,none⟩ (.int .u8 lt)).setCell ⟨G,1,none⟩ (.bool mu)).setCell ⟨G,2,none⟩ (.int .u64 va)).heap[G]? = some (bC lt mu va):=(bP (i:=2) (u:=(.int .u64 va)) (bP (i:=1) (u:=(.bool mu)) (bP (i:=0) (u:=(.int .u8 lt)) gB1)))
   refine hK.out _ _ hS (fun _ => ?_)
   clear hK K gB1 rb7 hS6 k0 l0 k1 l1 k2 l2;generalize (((w5.setCell ⟨G,0,none⟩ (.int .u8 lt)).setCell ⟨G,1,none⟩ (.bool mu)).setCell ⟨G,2,none⟩ (.int .u64 va)) = W6 at *;exact NK
end
end Go.Proofs.YtepnnenohjfkbaaGreatDoor

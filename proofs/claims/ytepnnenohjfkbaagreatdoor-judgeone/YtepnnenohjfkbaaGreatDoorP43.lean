/-
  Texts Jt.
-/
import Derived.Test.YtepnnenohjfkbaaGreatDoorP00
import Derived.Test.YtepnnenohjfkbaaGreatDoorP42
set_option linter.unusedVariables false
set_option maxRecDepth 100000
set_option maxHeartbeats 16000000
namespace Go.Proofs.YtepnnenohjfkbaaGreatDoor
open Go.RowKit
theorem tkU {P : Program} {ops : Array Oper} {Q : Exit → Act → World → Prop} {md : Region.Mode} {S : World → Prop} {i : Nat} {oi : Oper} {d : Option Tmp} {fuel : Nat} {listed : Array Bool} {a : Act} {w : World} (h : wpAnyH P md ops Q S fuel (listed.setIfInBounds i true) (a.put d undef) w) (hi : ops[i]? = some oi:=by kernel_rfl) (hd : oi.dst = d:=by kernel_rfl) (hs : Region.noSelect ops = true:=by kernel_rfl) (hf : Region.free md ops listed i = true:=by kernel_rfl) (hr : (Region.ready md ops listed).contains i = true:=by kernel_rfl) (hw : Region.wanted oi (yielded ops a.tmps) = false:=by kernel_rfl) (hQ : ∀ c a w,Q (.panic c) (a.put d undef) w → Q (.panic c) a w:=by exact fun _ _ _ h => h) (hS : S w:=by assumption) : wpAnyH P md ops Q S (fuel + 1) listed a w:=take_at hi hd hs hf hr hQ (Or.inr ⟨hw,rfl⟩) hS h
abbrev glS (G : Nat) (lt : Int) (mu : Bool) (w W : World) : Prop :=
 W.cell? ⟨G,0,none⟩ = some (.int .u8 lt) ∧ W.cell? ⟨G,1,none⟩ = some (.bool mu) ∧ Below w.heap.size w W
theorem glS.later {G : Nat} {lt : Int} {mu : Bool} {w W W' : World} (h : glS G lt mu w W) (hb : Below W.heap.size W W') : glS G lt mu w W' :=
 ⟨ae hb h.1,ae hb h.2.1,h.2.2.trans (hb.mono h.2.2.size)⟩
theorem glS.put {G j : Nat} {lt : Int} {mu : Bool} {u : Value} {w W : World} (h : glS G lt mu w W) (hG : G ≠ w.heap.size) : glS G lt mu w (W.setCell ⟨w.heap.size,j,none⟩ u) :=
 ⟨(al W w.heap.size j u).cell h.1 hG,(al W w.heap.size j u).cell h.2.1 hG,aN h.2.2 (Nat.le_refl _) h.2.2.size⟩
theorem oO : wdV 21 = ⟨#[103,103,101,116]⟩:=by kernel_rfl
theorem kD : wdV 22 = ⟨#[103,115,101,116]⟩:=by kernel_rfl
section
variable {g : Jg} {w : World}
theorem fF (h : Jw g w) (hN : g.N ≤ 2048) {i : Nat} (hi : i < g.N) (hc : opF g.xs i = 21 ∨ opF g.xs i = 22) {lt va : Int} {mu fd bv : Bool} {Pa Re : ByteArray} (hbv : bv = (fd && (decide (opF g.xs i = 21) || mu)))
  (HF : Hid (∀ W,Below w.heap.size w W → Calls Tryz.prog 260 #[.slice g.m.ga g.m.gn g.m.gc,.int .i64 (g.xs.getD i dx).a] W fun e w' => e = .returned (.tuple #[.agg #[.int .u8 lt,.bool mu,.int .u64 va],.bool fd]) ∧ Below W.heap.size W w'))
  (HG : Hid (∀ W,Below w.heap.size w W → Calls Tryz.prog 259 #[.string (wdV (opF g.xs i)),.int .u8 lt] W fun e w' => e = .returned (.agg #[.string Pa,.string Re]) ∧ Below W.heap.size W w')) :
  Calls Tryz.prog 213 #[.pointer (some ⟨g.J,0,none⟩),.int .i64 i] w fun e w' => e = .returned (.tuple #[.agg #[.string Pa,.string Re],.bool bv]) ∧ Below w.heap.size w w':=by
 have B0:=ag w (.cells #[.string ⟨#[]⟩,.string ⟨#[]⟩] 206);have h0:=h.later B0;obtain ⟨a0,a1,a2,_⟩:=h0.at_ hi;have jc:=h0.c
 have hi2 : (i : Int) < (g.N : Int):=by omega
 have B1:=ag (w.alloc (.cells #[.string ⟨#[]⟩,.string ⟨#[]⟩] 206)) (.cells #[.int .u8 (opF g.xs i),.int .i64 (g.xs.getD i dx).a,.slice (g.xs.getD i dx).la (g.xs.getD i dx).ln (g.xs.getD i dx).lc] 51);have h1:=h0.later B1;have jr:=h1.rw;have a3:=(h1.at_ hi).2.2.2;have BB:=B0.trans (B1.mono B0.size);have r0:=aj B1 (heap_alloc_new w (.cells #[.string ⟨#[]⟩,.string ⟨#[]⟩] 206));have j1:=h1.m2;have hJw : g.J < w.heap.size:=block_lt_of_cell h.m0
 have x1 : ((w.alloc (.cells #[.string ⟨#[]⟩,.string ⟨#[]⟩] 206)).alloc (.cells #[.int .u8 (opF g.xs i),.int .i64 (g.xs.getD i dx).a,.slice (g.xs.getD i dx).la (g.xs.getD i dx).ln (g.xs.getD i dx).lc] 51)).cell? ⟨w.heap.size + 1,1,none⟩ = some (.int .i64 (g.xs.getD i dx).a):=by
  have:=heap_alloc_new (w.alloc (.cells #[.string ⟨#[]⟩,.string ⟨#[]⟩] 206)) (.cells #[.int .u8 (opF g.xs i),.int .i64 (g.xs.getD i dx).a,.slice (g.xs.getD i dx).la (g.xs.getD i dx).ln (g.xs.getD i dx).lc] 51)
  have hz : (w.alloc (.cells #[.string ⟨#[]⟩,.string ⟨#[]⟩] 206)).heap.size = w.heap.size + 1:=by simp
  rw [hz] at this;exact ai this
 have hz2 : ((w.alloc (.cells #[.string ⟨#[]⟩,.string ⟨#[]⟩] 206)).alloc (.cells #[.int .u8 (opF g.xs i),.int .i64 (g.xs.getD i dx).a,.slice (g.xs.getD i dx).la (g.xs.getD i dx).ln (g.xs.getD i dx).lc] 51)).heap.size = w.heap.size + 1 + 1:=by simp
 have HBB:=hid BB;have HR0:=hid r0;have HZ2:=hid hz2;clear h h0 h1 B0 B1 BB r0 hz2;generalize opF g.xs i = c at *;generalize (g.xs.getD i dx).a = a at *;generalize (g.xs.getD i dx).la = la at *;generalize (g.xs.getD i dx).ln = ln at *;generalize (g.xs.getD i dx).lc = lc at *
 go_enter Tryz.func213,Tryz.ntmps213
 rcases hc with hc | hc <;> cases fd
 all_goals
  rw [hc] at hbv
  simp only [Bool.true_and,Bool.false_and,decide_true,Bool.true_or,show decide ((22 : Int) = 21) = false from rfl,Bool.false_or] at hbv
  have hbv2:=hbv.symm;clear hbv;subst hbv2
  first
   | rw [(congrArg wdV hc).trans oO] at a3 HG
   | rw [(congrArg wdV hc).trans kD] at a3 HG
  clear hc;go_wp2_with fail;have RB0:=HR0.out;have hzz:=HZ2.out;have HBw:=HBB.out;generalize (w.alloc (.cells #[.string ⟨#[]⟩,.string ⟨#[]⟩] 206)).alloc (.cells #[.int .u8 c,.int .i64 a,.slice la ln lc] 51) = W0 at *;have hH0 : cgS g.J (w.heap.size + 1) 2 (.slice g.m.ga g.m.gn g.m.gc) a w W0:=⟨j1,x1,HBw⟩;have HH0:=hid hH0;have RBD : W0.drew.heap[w.heap.size]? = some (.cells #[.string ⟨#[]⟩,.string ⟨#[]⟩] 206):=RB0;have HZ:=hid hzz;clear hzz RB0 HBw HR0 HZ2 HBB a0 a1 a2 jc jr a3
  refine wp_region_held_drew (S:=cgS g.J (w.heap.size + 1) 2 (.slice g.m.ga g.m.gn g.m.gc) a w) (by kernel_rfl) ⟨j1,x1,hH0.2.2.drew⟩ (fun hHeld => ?_)
  clear j1 x1 hH0;refine tkB (i:=0) (oi:={ dst:=some 145,op:=.move (.tmp 0),type:=92,pos:= "rows.go:146",after:=#[],guard:=none }) (d:=some 145) ?_;(try simp only [Act.put,sIB,sC0,sCs]);refine tkB (i:=1) (oi:={ dst:=some 146,op:=.nilCheck (.tmp 145),type:=0,pos:= "rows.go:146",after:=#[⟨0,.data⟩],guard:=none }) (d:=some 146) ?_;(try simp only [Act.put,sIB,sC0,sCs]);refine tkB (i:=2) (oi:={ dst:=some 147,op:=.fieldAddr 95 (.tmp 146) 0,type:=0,pos:= "rows.go:146",after:=#[⟨1,.data⟩],guard:=none }) (d:=some 147) ?_;(try simp only [Act.put,sIB,sC0,sCs]);refine tkB (i:=3) (oi:={ dst:=some 148,op:=.fieldAddr 29 (.tmp 147) 2,type:=0,pos:= "rows.go:146",after:=#[⟨2,.data⟩],guard:=none }) (d:=some 148) ?_;(try simp only [Act.put,sIB,sC0,sCs]);refine tkB (i:=4) (oi:={ dst:=some 149,op:=.load 24 (.tmp 148),type:=24,pos:= "rows.go:146",after:=#[⟨3,.data⟩],guard:=none }) (d:=some 149) ?_;(try simp only [Act.put,sIB,sC0,sCs]);refine tkB (i:=5) (oi:={ dst:=some 150,op:=.fieldAddr 51 (.tmp 6) 1,type:=0,pos:= "rows.go:146",after:=#[],guard:=none }) (d:=some 150) ?_;(try simp only [Act.put,sIB,sC0,sCs]);refine tkB (i:=6) (oi:={ dst:=some 151,op:=.load 2 (.tmp 150),type:=2,pos:= "rows.go:146",after:=#[⟨5,.data⟩],guard:=none }) (d:=some 151) ?_;(try simp only [Act.put,sIB,sC0,sCs]);refine rdY (rs:=[7,11]) ?_
  refine rdA (o:={ dst:=some 152,op:=.call { callee:=.value (.func 260),args:=#[.tmp 149,.tmp 151],argTypes:=#[24,2] },type:=294,pos:= "rows.go:146",after:=#[⟨4,.data⟩,⟨6,.data⟩],guard:=none }) (fun K hK => ?_) (oX (o:={ dst:=some 20,op:=.alloc 141,type:=0,pos:= "rows.go:146",after:=#[],guard:=none }) (by kernel_rfl) (by kernel_rfl) (fun K hK => ?_) rN)
  ·go_simp;refine (HF.out _ hHeld.2.2).mono ?_;rintro e w5 ⟨rfl,hb5⟩;have hS5:=cgS.later hHeld hb5;have rb5:=aj hb5 RBD
   refine hK.out _ _ hS5 (fun _ => ?_)
   clear hK K hb5 hHeld RBD;refine tkB (i:=8) (oi:={ dst:=some 144,op:=.move (.tmp 152),type:=294,pos:= "rows.go:146",after:=#[⟨7,.data⟩],guard:=none }) (d:=some 144) ?_;(try simp only [Act.put,sIB,sC0,sCs]);refine tkB (i:=9) (oi:={ dst:=some 153,op:=.extract (.tmp 144) 0,type:=141,pos:= "rows.go:146",after:=#[⟨8,.data⟩],guard:=none }) (d:=some 153) ?_;(try simp only [Act.put,sIB,sC0,sCs]);refine tkB (i:=10) (oi:={ dst:=some 154,op:=.extract (.tmp 144) 1,type:=4,pos:= "rows.go:146",after:=#[⟨8,.data⟩,{ on:=12,ground:=.gcOnly Go.Departure.lateStores }],guard:=none }) (d:=some 154) ?_;(try simp only [Act.put,sIB,sC0,sCs]);refine rdY (rs:=[11]) ?_
   refine rdA (o:={ dst:=some 20,op:=.alloc 141,type:=0,pos:= "rows.go:146",after:=#[],guard:=none }) (fun K hK => ?_) rN
   go_simp
   refine hK.out _ _ (hS5.later (ag _ _)) (fun _ => ?_)
   clear hK K;refine rdY (rs:=[12]) ?_
   refine rdA (o:={ dst:=none,op:=.store 141 (.tmp 20) (.tmp 153),type:=0,pos:= "rows.go:146",after:=#[⟨11,.data⟩,⟨9,.data⟩,⟨7,.chain⟩,⟨0,.phase⟩,⟨1,.phase⟩,⟨2,.phase⟩,⟨3,.phase⟩,⟨4,.phase⟩,⟨5,.phase⟩,⟨6,.phase⟩,⟨7,.phase⟩,⟨8,.phase⟩,⟨9,.phase⟩,{ on:=10,ground:=.textOnly Go.Departure.lateStores },⟨11,.phase⟩],guard:=none }) (fun K hK => ?_) rN
   go_simp;have BN:=ag w5 (.cells #[.int .u8 lt,.bool mu,.int .u64 va] 141);have gB:=heap_alloc_new w5 (.cells #[.int .u8 lt,.bool mu,.int .u64 va] 141);have hS:=hS5.later BN;have rb6:=aj BN rb5
   refine hK.out _ _ hS (fun _ => ?_)
   clear hK K BN rb5 hS5;generalize w5.heap.size = G at *;generalize w5.alloc (.cells #[.int .u8 lt,.bool mu,.int .u64 va] 141) = W6 at *;refine tkB (i:=13) (oi:={ dst:=some 21,op:=.assign (.tmp 154),type:=4,pos:= "rows.go:146",after:=#[⟨10,.data⟩,⟨12,.chain⟩,⟨0,.phase⟩,⟨1,.phase⟩,⟨2,.phase⟩,⟨3,.phase⟩,⟨4,.phase⟩,⟨5,.phase⟩,⟨6,.phase⟩,⟨7,.phase⟩,⟨8,.phase⟩,⟨9,.phase⟩,⟨10,.phase⟩,⟨11,.phase⟩,⟨12,.phase⟩],guard:=none }) (d:=some 21) ?_;try simp only [Act.put,sIB,sC0,sCs]
   refine wpAnyH_done (by kernel_rfl) ?_ _
   have g0 : W6.cell? ⟨G,0,none⟩ = some (.int .u8 lt):=ai gB;have g1 : W6.cell? ⟨G,1,none⟩ = some (.bool mu):=ai gB
   have hGw : w.heap.size ≠ G:=fun e => by rw [← e,rb6] at gB; cases gB
   have HBS:=hid hS.2.2;have RB6:=hid rb6;clear gB hS rb6;go_wp2_with fail
   refine wp_region_held_drew (S:=glS G lt mu w) (by kernel_rfl) ⟨g0,g1,HBS.out.drew⟩ (fun hHeld => ?_)
   clear g0 g1;refine tkB (i:=0) (oi:={ dst:=some 155,op:=.move (.tmp 7),type:=9,pos:= "rows.go:147",after:=#[],guard:=none }) (d:=some 155) ?_;(try simp only [Act.put,sIB,sC0,sCs]);refine tkB (i:=1) (oi:={ dst:=some 156,op:=.fieldAddr 141 (.tmp 20) 0,type:=0,pos:= "rows.go:147",after:=#[],guard:=none }) (d:=some 156) ?_;(try simp only [Act.put,sIB,sC0,sCs]);refine tkB (i:=2) (oi:={ dst:=some 157,op:=.load 5 (.tmp 156),type:=5,pos:= "rows.go:147",after:=#[⟨1,.data⟩],guard:=none }) (d:=some 157) ?_;(try simp only [Act.put,sIB,sC0,sCs]);refine tkB (i:=4) (oi:={ dst:=some 159,op:=.move (.tmp 21),type:=4,pos:= "rows.go:147",after:=#[],guard:=none }) (d:=some 159) ?_;(try simp only [Act.put,sIB,sC0,sCs]);refine rdY (rs:=[3]) ?_
   refine rdA (o:={ dst:=some 158,op:=.call { callee:=.value (.func 259),args:=#[.tmp 155,.tmp 157],argTypes:=#[9,5] },type:=206,pos:= "rows.go:147",after:=#[⟨0,.data⟩,⟨2,.data⟩],guard:=none }) (fun K hK => ?_) rN
   go_simp;refine (HG.out _ hHeld.2.2).mono ?_;rintro e w7 ⟨rfl,hb7⟩;have hS7:=glS.later hHeld hb7;have r7:=aj hb7 (show W6.drew.heap[w.heap.size]? = _ from RB6.out);have x0 : w7.cell? ⟨w.heap.size,0,none⟩ = some (.string ⟨#[]⟩):=ai r7;have x2 : w7.cell? ⟨w.heap.size,1,none⟩ = some (.string ⟨#[]⟩):=ai r7;have f0 : w7.frozen? ⟨w.heap.size,0,none⟩ = false:=free_at r7;have f1 : w7.frozen? ⟨w.heap.size,1,none⟩ = false:=free_at r7
   refine hK.out _ _ hS7 (fun _ => ?_)
   clear hK K hb7 hHeld r7;refine tkB (i:=5) (oi:={ dst:=some 160,op:=.move (.tmp 159),type:=4,pos:= "rows.go:147",after:=#[⟨4,.data⟩,⟨3,.chain⟩],guard:=none }) (d:=some 160) ?_;try simp only [Act.put,sIB,sC0,sCs]
   first | refine tkB (i:=6) (oi:={ dst:=some 161,op:=.move (.tmp 7),type:=9,pos:= "rows.go:147",after:=#[⟨5,.guard⟩],guard:=some (5,true) }) (d:=some 161) ?_ (hw:=by rfl) | refine tkU (i:=6) (oi:={ dst:=some 161,op:=.move (.tmp 7),type:=9,pos:= "rows.go:147",after:=#[⟨5,.guard⟩],guard:=some (5,true) }) (d:=some 161) ?_
   try simp only [Act.put,sIB,sC0,sCs]
   first | refine tkB (i:=7) (oi:={ dst:=some 162,op:=.binOp Go.BinOp.eql 9 (.tmp 161) (.const (Go.Value.string { data:=#[103,103,101,116] })) 9,type:=4,pos:= "rows.go:147",after:=#[⟨6,.data⟩,⟨5,.guard⟩],guard:=some (5,true) }) (d:=some 162) ?_ (hw:=by rfl) | refine tkU (i:=7) (oi:={ dst:=some 162,op:=.binOp Go.BinOp.eql 9 (.tmp 161) (.const (Go.Value.string { data:=#[103,103,101,116] })) 9,type:=4,pos:= "rows.go:147",after:=#[⟨6,.data⟩,⟨5,.guard⟩],guard:=some (5,true) }) (d:=some 162) ?_
   try simp only [Act.put,sIB,sC0,sCs]
   first | refine tkB (i:=8) (oi:={ dst:=some 163,op:=.move (.tmp 162),type:=4,pos:= "rows.go:147",after:=#[⟨7,.data⟩,⟨5,.chain⟩,⟨5,.guard⟩],guard:=some (5,true) }) (d:=some 163) ?_ (hw:=by rfl) | refine tkU (i:=8) (oi:={ dst:=some 163,op:=.move (.tmp 162),type:=4,pos:= "rows.go:147",after:=#[⟨7,.data⟩,⟨5,.chain⟩,⟨5,.guard⟩],guard:=some (5,true) }) (d:=some 163) ?_
   try simp only [Act.put,sIB,sC0,sCs]
   first | refine tkB (i:=9) (oi:={ dst:=some 164,op:=.fieldAddr 141 (.tmp 20) 1,type:=0,pos:= "rows.go:147",after:=#[⟨8,.guard⟩,{ on:=13,ground:=.gcOnly Go.Departure.lateStores }],guard:=some (8,false) }) (d:=some 164) ?_ (hw:=by rfl) | refine tkU (i:=9) (oi:={ dst:=some 164,op:=.fieldAddr 141 (.tmp 20) 1,type:=0,pos:= "rows.go:147",after:=#[⟨8,.guard⟩,{ on:=13,ground:=.gcOnly Go.Departure.lateStores }],guard:=some (8,false) }) (d:=some 164) ?_
   try simp only [Act.put,sIB,sC0,sCs]
   first | refine tkB (i:=10) (oi:={ dst:=some 165,op:=.load 4 (.tmp 164),type:=4,pos:= "rows.go:147",after:=#[⟨9,.data⟩,⟨8,.guard⟩,{ on:=13,ground:=.gcOnly Go.Departure.lateStores }],guard:=some (8,false) }) (d:=some 165) ?_ (hw:=by rfl) | refine tkU (i:=10) (oi:={ dst:=some 165,op:=.load 4 (.tmp 164),type:=4,pos:= "rows.go:147",after:=#[⟨9,.data⟩,⟨8,.guard⟩,{ on:=13,ground:=.gcOnly Go.Departure.lateStores }],guard:=some (8,false) }) (d:=some 165) ?_
   try simp only [Act.put,sIB,sC0,sCs]
   first | refine tkB (i:=11) (oi:={ dst:=some 166,op:=.pick (.tmp 163) (.const (Go.Value.bool true)) (.tmp 165),type:=4,pos:= "rows.go:147",after:=#[⟨8,.data⟩,⟨10,.data⟩,⟨5,.guard⟩,{ on:=13,ground:=.gcOnly Go.Departure.lateStores }],guard:=some (5,true) }) (d:=some 166) ?_ (hw:=by rfl) | refine tkU (i:=11) (oi:={ dst:=some 166,op:=.pick (.tmp 163) (.const (Go.Value.bool true)) (.tmp 165),type:=4,pos:= "rows.go:147",after:=#[⟨8,.data⟩,⟨10,.data⟩,⟨5,.guard⟩,{ on:=13,ground:=.gcOnly Go.Departure.lateStores }],guard:=some (5,true) }) (d:=some 166) ?_
   (try simp only [Act.put,sIB,sC0,sCs]);refine tkB (i:=12) (oi:={ dst:=some 167,op:=.pick (.tmp 160) (.tmp 166) (.const (Go.Value.bool false)),type:=4,pos:= "rows.go:147",after:=#[⟨5,.data⟩,⟨11,.data⟩,{ on:=13,ground:=.gcOnly Go.Departure.lateStores }],guard:=none }) (d:=some 167) ?_;(try simp only [Act.put,sIB,sC0,sCs]);refine rdY (rs:=[13]) ?_
   refine rdA (o:={ dst:=none,op:=.store 206 (.tmp 4) (.tmp 158),type:=0,pos:= "rows.go:147",after:=#[⟨3,.data⟩,⟨8,.chain⟩,⟨0,.phase⟩,⟨1,.phase⟩,⟨2,.phase⟩,⟨3,.phase⟩,{ on:=4,ground:=.textOnly Go.Departure.lateStores },{ on:=5,ground:=.textOnly Go.Departure.lateStores },{ on:=6,ground:=.textOnly Go.Departure.lateStores },{ on:=7,ground:=.textOnly Go.Departure.lateStores },{ on:=8,ground:=.textOnly Go.Departure.lateStores },{ on:=9,ground:=.textOnly Go.Departure.lateStores },{ on:=10,ground:=.textOnly Go.Departure.lateStores },{ on:=11,ground:=.textOnly Go.Departure.lateStores },{ on:=12,ground:=.textOnly Go.Departure.lateStores }],guard:=none }) (fun K hK => ?_) rN
   go_simp;have hS8:=(hS7.put (j:=0) (u:=.string Pa) hGw.symm).put (j:=1) (u:=.string Re) hGw.symm
   refine hK.out _ _ hS8 (fun _ => ?_)
   clear hK K;refine tkB (i:=14) (oi:={ dst:=some 5,op:=.assign (.tmp 167),type:=4,pos:= "rows.go:147",after:=#[⟨12,.data⟩,⟨13,.chain⟩,⟨0,.phase⟩,⟨1,.phase⟩,⟨2,.phase⟩,⟨3,.phase⟩,⟨4,.phase⟩,⟨5,.phase⟩,⟨6,.phase⟩,⟨7,.phase⟩,⟨8,.phase⟩,⟨9,.phase⟩,⟨10,.phase⟩,⟨11,.phase⟩,⟨12,.phase⟩,⟨13,.phase⟩],guard:=none }) (d:=some 5) ?_;try simp only [Act.put,sIB,sC0,sCs]
   refine wpAnyH_done (by kernel_rfl) ?_ _
   go_wp2_with fail;refine bodyPost_ret (v:=.tuple #[.agg #[.string Pa,.string Re],.bool _]) ?_ rfl ⟨rfl,hS8.2.2⟩;rw [results_cell_tmp rfl];go_simp
  ·go_simp;have BN:=(ag W0 (.cells #[.int .u8 0,.bool false,.int .u64 0] 141)).drew;have hS5:=cgS.later HH0.out BN;have gB0 : ((W0.alloc (.cells #[.int .u8 0,.bool false,.int .u64 0] 141)).drew).heap[W0.heap.size]? = some (.cells #[.int .u8 0,.bool false,.int .u64 0] 141):=heap_alloc_new W0 _;have rb5:=aj BN RBD
   have hGw : w.heap.size + 1 < W0.heap.size:=by have:=HZ.out; omega
   refine hK.out _ _ hS5 (fun _ => ?_)
   clear hK K hHeld RBD BN;generalize (W0.alloc (.cells #[.int .u8 0,.bool false,.int .u64 0] 141)).drew = W1 at *;generalize W0.heap.size = G at *;refine rdY (rs:=[7]) ?_
   refine rdA (o:={ dst:=some 152,op:=.call { callee:=.value (.func 260),args:=#[.tmp 149,.tmp 151],argTypes:=#[24,2] },type:=294,pos:= "rows.go:146",after:=#[⟨4,.data⟩,⟨6,.data⟩],guard:=none }) (fun K hK => ?_) rN
   go_simp;refine (HF.out _ hS5.2.2).mono ?_;rintro e w5 ⟨rfl,hb5⟩;have hS6:=cgS.later hS5 hb5;have rb7:=aj hb5 rb5;have gB1:=aj hb5 gB0
   refine hK.out _ _ hS6 (fun _ => ?_)
   clear hK K hb5 hS5 rb5 gB0;refine tkB (i:=8) (oi:={ dst:=some 144,op:=.move (.tmp 152),type:=294,pos:= "rows.go:146",after:=#[⟨7,.data⟩],guard:=none }) (d:=some 144) ?_;(try simp only [Act.put,sIB,sC0,sCs]);refine tkB (i:=9) (oi:={ dst:=some 153,op:=.extract (.tmp 144) 0,type:=141,pos:= "rows.go:146",after:=#[⟨8,.data⟩],guard:=none }) (d:=some 153) ?_;(try simp only [Act.put,sIB,sC0,sCs]);refine tkB (i:=10) (oi:={ dst:=some 154,op:=.extract (.tmp 144) 1,type:=4,pos:= "rows.go:146",after:=#[⟨8,.data⟩,{ on:=12,ground:=.gcOnly Go.Departure.lateStores }],guard:=none }) (d:=some 154) ?_;(try simp only [Act.put,sIB,sC0,sCs]);have k0:=ai (i:=0) gB1;have l0:=free_at (i:=0) gB1;have k1:=ai (i:=1) gB1;have l1:=free_at (i:=1) gB1;have k2:=ai (i:=2) gB1;have l2:=free_at (i:=2) gB1;refine rdY (rs:=[12]) ?_
   refine rdA (o:={ dst:=none,op:=.store 141 (.tmp 20) (.tmp 153),type:=0,pos:= "rows.go:146",after:=#[⟨11,.data⟩,⟨9,.data⟩,⟨7,.chain⟩,⟨0,.phase⟩,⟨1,.phase⟩,⟨2,.phase⟩,⟨3,.phase⟩,⟨4,.phase⟩,⟨5,.phase⟩,⟨6,.phase⟩,⟨7,.phase⟩,⟨8,.phase⟩,⟨9,.phase⟩,{ on:=10,ground:=.textOnly Go.Departure.lateStores },⟨11,.phase⟩],guard:=none }) (fun K hK => ?_) rN
   go_simp
   have hS:=(((hS6.put (G:=G) (j:=0) (u:=(.int .u8 lt)) (by omega) (by omega) (by omega)).put (G:=G) (j:=1) (u:=(.bool mu)) (by omega) (by omega) (by omega)).put (G:=G) (j:=2) (u:=(.int .u64 va)) (by omega) (by omega) (by omega))
   have rb6:=(dS (G:=G) (j:=2) (u:=(.int .u64 va)) (dS (G:=G) (j:=1) (u:=(.bool mu)) (dS (G:=G) (j:=0) (u:=(.int .u8 lt)) rb7 (by omega)) (by omega)) (by omega))
   have gB : (((w5.setCell ⟨G,0,none⟩ (.int .u8 lt)).setCell ⟨G,1,none⟩ (.bool mu)).setCell ⟨G,2,none⟩ (.int .u64 va)).heap[G]? = some (.cells #[.int .u8 lt,.bool mu,.int .u64 va] 141):=(aF (i:=2) (u:=(.int .u64 va)) (aF (i:=1) (u:=(.bool mu)) (aF (i:=0) (u:=(.int .u8 lt)) gB1)))
   refine hK.out _ _ hS (fun _ => ?_)
   clear hK K gB1 rb7 hS6 k0 l0 k1 l1 k2 l2;generalize (((w5.setCell ⟨G,0,none⟩ (.int .u8 lt)).setCell ⟨G,1,none⟩ (.bool mu)).setCell ⟨G,2,none⟩ (.int .u64 va)) = W6 at *;refine tkB (i:=13) (oi:={ dst:=some 21,op:=.assign (.tmp 154),type:=4,pos:= "rows.go:146",after:=#[⟨10,.data⟩,⟨12,.chain⟩,⟨0,.phase⟩,⟨1,.phase⟩,⟨2,.phase⟩,⟨3,.phase⟩,⟨4,.phase⟩,⟨5,.phase⟩,⟨6,.phase⟩,⟨7,.phase⟩,⟨8,.phase⟩,⟨9,.phase⟩,⟨10,.phase⟩,⟨11,.phase⟩,⟨12,.phase⟩],guard:=none }) (d:=some 21) ?_;try simp only [Act.put,sIB,sC0,sCs]
   refine wpAnyH_done (by kernel_rfl) ?_ _
   have g0 : W6.cell? ⟨G,0,none⟩ = some (.int .u8 lt):=ai gB;have g1 : W6.cell? ⟨G,1,none⟩ = some (.bool mu):=ai gB
   have hGw : w.heap.size ≠ G:=fun e => by rw [← e,rb6] at gB; cases gB
   have HBS:=hid hS.2.2;have RB6:=hid rb6;clear gB hS rb6;go_wp2_with fail
   refine wp_region_held_drew (S:=glS G lt mu w) (by kernel_rfl) ⟨g0,g1,HBS.out.drew⟩ (fun hHeld => ?_)
   clear g0 g1;refine tkB (i:=0) (oi:={ dst:=some 155,op:=.move (.tmp 7),type:=9,pos:= "rows.go:147",after:=#[],guard:=none }) (d:=some 155) ?_;(try simp only [Act.put,sIB,sC0,sCs]);refine tkB (i:=1) (oi:={ dst:=some 156,op:=.fieldAddr 141 (.tmp 20) 0,type:=0,pos:= "rows.go:147",after:=#[],guard:=none }) (d:=some 156) ?_;(try simp only [Act.put,sIB,sC0,sCs]);refine tkB (i:=2) (oi:={ dst:=some 157,op:=.load 5 (.tmp 156),type:=5,pos:= "rows.go:147",after:=#[⟨1,.data⟩],guard:=none }) (d:=some 157) ?_;(try simp only [Act.put,sIB,sC0,sCs]);refine tkB (i:=4) (oi:={ dst:=some 159,op:=.move (.tmp 21),type:=4,pos:= "rows.go:147",after:=#[],guard:=none }) (d:=some 159) ?_;(try simp only [Act.put,sIB,sC0,sCs]);refine rdY (rs:=[3]) ?_
   refine rdA (o:={ dst:=some 158,op:=.call { callee:=.value (.func 259),args:=#[.tmp 155,.tmp 157],argTypes:=#[9,5] },type:=206,pos:= "rows.go:147",after:=#[⟨0,.data⟩,⟨2,.data⟩],guard:=none }) (fun K hK => ?_) rN
   go_simp;refine (HG.out _ hHeld.2.2).mono ?_;rintro e w7 ⟨rfl,hb7⟩;have hS7:=glS.later hHeld hb7;have r7:=aj hb7 (show W6.drew.heap[w.heap.size]? = _ from RB6.out);have x0 : w7.cell? ⟨w.heap.size,0,none⟩ = some (.string ⟨#[]⟩):=ai r7;have x2 : w7.cell? ⟨w.heap.size,1,none⟩ = some (.string ⟨#[]⟩):=ai r7;have f0 : w7.frozen? ⟨w.heap.size,0,none⟩ = false:=free_at r7;have f1 : w7.frozen? ⟨w.heap.size,1,none⟩ = false:=free_at r7
   refine hK.out _ _ hS7 (fun _ => ?_)
   clear hK K hb7 hHeld r7;refine tkB (i:=5) (oi:={ dst:=some 160,op:=.move (.tmp 159),type:=4,pos:= "rows.go:147",after:=#[⟨4,.data⟩,⟨3,.chain⟩],guard:=none }) (d:=some 160) ?_;try simp only [Act.put,sIB,sC0,sCs]
   first | refine tkB (i:=6) (oi:={ dst:=some 161,op:=.move (.tmp 7),type:=9,pos:= "rows.go:147",after:=#[⟨5,.guard⟩],guard:=some (5,true) }) (d:=some 161) ?_ (hw:=by rfl) | refine tkU (i:=6) (oi:={ dst:=some 161,op:=.move (.tmp 7),type:=9,pos:= "rows.go:147",after:=#[⟨5,.guard⟩],guard:=some (5,true) }) (d:=some 161) ?_
   try simp only [Act.put,sIB,sC0,sCs]
   first | refine tkB (i:=7) (oi:={ dst:=some 162,op:=.binOp Go.BinOp.eql 9 (.tmp 161) (.const (Go.Value.string { data:=#[103,103,101,116] })) 9,type:=4,pos:= "rows.go:147",after:=#[⟨6,.data⟩,⟨5,.guard⟩],guard:=some (5,true) }) (d:=some 162) ?_ (hw:=by rfl) | refine tkU (i:=7) (oi:={ dst:=some 162,op:=.binOp Go.BinOp.eql 9 (.tmp 161) (.const (Go.Value.string { data:=#[103,103,101,116] })) 9,type:=4,pos:= "rows.go:147",after:=#[⟨6,.data⟩,⟨5,.guard⟩],guard:=some (5,true) }) (d:=some 162) ?_
   try simp only [Act.put,sIB,sC0,sCs]
   first | refine tkB (i:=8) (oi:={ dst:=some 163,op:=.move (.tmp 162),type:=4,pos:= "rows.go:147",after:=#[⟨7,.data⟩,⟨5,.chain⟩,⟨5,.guard⟩],guard:=some (5,true) }) (d:=some 163) ?_ (hw:=by rfl) | refine tkU (i:=8) (oi:={ dst:=some 163,op:=.move (.tmp 162),type:=4,pos:= "rows.go:147",after:=#[⟨7,.data⟩,⟨5,.chain⟩,⟨5,.guard⟩],guard:=some (5,true) }) (d:=some 163) ?_
   try simp only [Act.put,sIB,sC0,sCs]
   first | refine tkB (i:=9) (oi:={ dst:=some 164,op:=.fieldAddr 141 (.tmp 20) 1,type:=0,pos:= "rows.go:147",after:=#[⟨8,.guard⟩,{ on:=13,ground:=.gcOnly Go.Departure.lateStores }],guard:=some (8,false) }) (d:=some 164) ?_ (hw:=by rfl) | refine tkU (i:=9) (oi:={ dst:=some 164,op:=.fieldAddr 141 (.tmp 20) 1,type:=0,pos:= "rows.go:147",after:=#[⟨8,.guard⟩,{ on:=13,ground:=.gcOnly Go.Departure.lateStores }],guard:=some (8,false) }) (d:=some 164) ?_
   try simp only [Act.put,sIB,sC0,sCs]
   first | refine tkB (i:=10) (oi:={ dst:=some 165,op:=.load 4 (.tmp 164),type:=4,pos:= "rows.go:147",after:=#[⟨9,.data⟩,⟨8,.guard⟩,{ on:=13,ground:=.gcOnly Go.Departure.lateStores }],guard:=some (8,false) }) (d:=some 165) ?_ (hw:=by rfl) | refine tkU (i:=10) (oi:={ dst:=some 165,op:=.load 4 (.tmp 164),type:=4,pos:= "rows.go:147",after:=#[⟨9,.data⟩,⟨8,.guard⟩,{ on:=13,ground:=.gcOnly Go.Departure.lateStores }],guard:=some (8,false) }) (d:=some 165) ?_
   try simp only [Act.put,sIB,sC0,sCs]
   first | refine tkB (i:=11) (oi:={ dst:=some 166,op:=.pick (.tmp 163) (.const (Go.Value.bool true)) (.tmp 165),type:=4,pos:= "rows.go:147",after:=#[⟨8,.data⟩,⟨10,.data⟩,⟨5,.guard⟩,{ on:=13,ground:=.gcOnly Go.Departure.lateStores }],guard:=some (5,true) }) (d:=some 166) ?_ (hw:=by rfl) | refine tkU (i:=11) (oi:={ dst:=some 166,op:=.pick (.tmp 163) (.const (Go.Value.bool true)) (.tmp 165),type:=4,pos:= "rows.go:147",after:=#[⟨8,.data⟩,⟨10,.data⟩,⟨5,.guard⟩,{ on:=13,ground:=.gcOnly Go.Departure.lateStores }],guard:=some (5,true) }) (d:=some 166) ?_
   (try simp only [Act.put,sIB,sC0,sCs]);refine tkB (i:=12) (oi:={ dst:=some 167,op:=.pick (.tmp 160) (.tmp 166) (.const (Go.Value.bool false)),type:=4,pos:= "rows.go:147",after:=#[⟨5,.data⟩,⟨11,.data⟩,{ on:=13,ground:=.gcOnly Go.Departure.lateStores }],guard:=none }) (d:=some 167) ?_;(try simp only [Act.put,sIB,sC0,sCs]);refine rdY (rs:=[13]) ?_
   refine rdA (o:={ dst:=none,op:=.store 206 (.tmp 4) (.tmp 158),type:=0,pos:= "rows.go:147",after:=#[⟨3,.data⟩,⟨8,.chain⟩,⟨0,.phase⟩,⟨1,.phase⟩,⟨2,.phase⟩,⟨3,.phase⟩,{ on:=4,ground:=.textOnly Go.Departure.lateStores },{ on:=5,ground:=.textOnly Go.Departure.lateStores },{ on:=6,ground:=.textOnly Go.Departure.lateStores },{ on:=7,ground:=.textOnly Go.Departure.lateStores },{ on:=8,ground:=.textOnly Go.Departure.lateStores },{ on:=9,ground:=.textOnly Go.Departure.lateStores },{ on:=10,ground:=.textOnly Go.Departure.lateStores },{ on:=11,ground:=.textOnly Go.Departure.lateStores },{ on:=12,ground:=.textOnly Go.Departure.lateStores }],guard:=none }) (fun K hK => ?_) rN
   go_simp;have hS8:=(hS7.put (j:=0) (u:=.string Pa) hGw.symm).put (j:=1) (u:=.string Re) hGw.symm
   refine hK.out _ _ hS8 (fun _ => ?_)
   clear hK K;refine tkB (i:=14) (oi:={ dst:=some 5,op:=.assign (.tmp 167),type:=4,pos:= "rows.go:147",after:=#[⟨12,.data⟩,⟨13,.chain⟩,⟨0,.phase⟩,⟨1,.phase⟩,⟨2,.phase⟩,⟨3,.phase⟩,⟨4,.phase⟩,⟨5,.phase⟩,⟨6,.phase⟩,⟨7,.phase⟩,⟨8,.phase⟩,⟨9,.phase⟩,⟨10,.phase⟩,⟨11,.phase⟩,⟨12,.phase⟩,⟨13,.phase⟩],guard:=none }) (d:=some 5) ?_;try simp only [Act.put,sIB,sC0,sCs]
   refine wpAnyH_done (by kernel_rfl) ?_ _
   go_wp2_with fail;refine bodyPost_ret (v:=.tuple #[.agg #[.string Pa,.string Re],.bool _]) ?_ rfl ⟨rfl,hS8.2.2⟩;rw [results_cell_tmp rfl];go_simp
end
end Go.Proofs.YtepnnenohjfkbaaGreatDoor

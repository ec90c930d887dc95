/-
  Texts Jq.
-/
import Derived.Test.YtepnnenohjfkbaaGreatDoorP00
import Derived.Test.YtepnnenohjfkbaaGreatDoorP18
import Derived.Test.YtepnnenohjfkbaaGreatDoorP20
set_option linter.unusedVariables false
set_option maxRecDepth 100000
set_option maxHeartbeats 16000000
namespace Go.Proofs.YtepnnenohjfkbaaGreatDoor
open Go.RowKit
abbrev cgS (J X k : Nat) (fv : Value) (a : Int) (w W : World) : Prop :=
 W.cell? ⟨J,k,none⟩ = some fv ∧ W.cell? ⟨X,1,none⟩ = some (.int .i64 a) ∧ Below w.heap.size w W
theorem cgS.later {J X k : Nat} {fv : Value} {a : Int} {w W W' : World} (h : cgS J X k fv a w W) (hb : Below W.heap.size W W') : cgS J X k fv a w W' :=
 ⟨ag hb h.1,ag hb h.2.1,h.2.2.trans (hb.mono h.2.2.size)⟩
theorem cgS.put {J X k G j : Nat} {fv u : Value} {a : Int} {w W : World} (h : cgS J X k fv a w W) (hJ : J ≠ G) (hX : X ≠ G) (hG : w.heap.size ≤ G) : cgS J X k fv a w (W.setCell ⟨G,j,none⟩ u) :=
 ⟨(ay W G j u).cell h.1 hJ,(ay W G j u).cell h.2.1 hX,bN h.2.2 hG h.2.2.size⟩
theorem ij {W : World} {b G j : Nat} {u : Value} {o : Obj} (h : W.heap[b]? = some o) (hb : b ≠ G) : (W.setCell ⟨G,j,none⟩ u).heap[b]? = some o :=
 ((ay W G j u).block b (dY h) hb).trans h
theorem Rq : wdV 11 = ⟨#[99,97,108,108]⟩:=aw
section
variable {g : Jg} {w : World}
theorem jC (h : Jw g w) (hN : g.N ≤ 2048) {i : Nat} (hi : i < g.N) (hc : opF g.xs i = 11) {ty : Int} {lo : ByteArray} {ca : Option Addr} {cn cc : Nat} {fd : Bool} {Pa Re : ByteArray}
  (HF : Hid (∀ W,Below w.heap.size w W → Calls Tryz.prog 255 #[.slice g.m.fa g.m.fn g.m.fc,.int .i64 (g.xs.getD i dx).a] W fun e w' => e = .returned (.tuple #[.agg #[.int .i64 ty,.string lo,.slice ca cn cc],.bool fd]) ∧ Below W.heap.size W w'))
  (HG : Hid (∀ W,Below w.heap.size w W → Calls Tryz.prog 256 #[.pointer (some ⟨g.J,0,none⟩),.int .i64 ty,.bool fd] W fun e w' => e = .returned (.tuple #[.agg #[.string Pa,.string Re],.bool fd]) ∧ Below W.heap.size W w')) :
  Calls Tryz.prog 213 #[.pointer (some ⟨g.J,0,none⟩),.int .i64 i] w fun e w' => e = .returned (.tuple #[.agg #[.string Pa,.string Re],.bool fd]) ∧ Below w.heap.size w w':=by
 have B0:=aj w (bj ⟨#[]⟩ ⟨#[]⟩);have h0:=h.later B0;obtain ⟨a0,a1,a2,_⟩:=h0.at_ hi;have jc:=h0.c;have hi2 : (i : Int) < (g.N : Int):=ae;have B1:=aj (w.alloc (bj ⟨#[]⟩ ⟨#[]⟩)) (aC (opF g.xs i) (g.xs.getD i dx).a (g.xs.getD i dx).la (g.xs.getD i dx).ln (g.xs.getD i dx).lc);have h1:=h0.later B1;have jr:=h1.rw;have a3:=(h1.at_ hi).2.2.2;have BB:=B0.trans (B1.mono B0.size);have r0:=ar B1 (heap_alloc_new w (bj ⟨#[]⟩ ⟨#[]⟩));have j1:=h1.m5;have hJw : g.J < w.heap.size:=block_lt_of_cell h.m0
 have x1 : ((w.alloc (bj ⟨#[]⟩ ⟨#[]⟩)).alloc (aC (opF g.xs i) (g.xs.getD i dx).a (g.xs.getD i dx).la (g.xs.getD i dx).ln (g.xs.getD i dx).lc)).cell? ⟨w.heap.size + 1,1,none⟩ = some (.int .i64 (g.xs.getD i dx).a):=by
  exact tM
 have hz2 : ((w.alloc (bj ⟨#[]⟩ ⟨#[]⟩)).alloc (aC (opF g.xs i) (g.xs.getD i dx).a (g.xs.getD i dx).la (g.xs.getD i dx).ln (g.xs.getD i dx).lc)).heap.size = w.heap.size + 1 + 1:=ak;have HBB:=hid BB;have HR0:=hid r0;have HZ2:=hid hz2;clear h h0 h1 B0 B1 BB r0 hz2;generalize opF g.xs i = c at *;generalize (g.xs.getD i dx).a = a at *;generalize (g.xs.getD i dx).la = la at *;generalize (g.xs.getD i dx).ln = ln at *;generalize (g.xs.getD i dx).lc = lc at *
 go_enter Tryz.func213,Tryz.ntmps213
 rw [(congrArg wdV hc).trans Rq] at a3;clear hc;go_wp2_with fail;have RB0:=HR0.out;have hzz:=HZ2.out;have HBw:=HBB.out;generalize (w.alloc (bj ⟨#[]⟩ ⟨#[]⟩)).alloc (aC c a la ln lc) = W0 at *;have hH0 : cgS g.J (w.heap.size + 1) 5 (.slice g.m.fa g.m.fn g.m.fc) a w W0:=⟨j1,x1,HBw⟩;have HH0:=hid hH0;have RBD : W0.drew.heap[w.heap.size]? = some (bj ⟨#[]⟩ ⟨#[]⟩):=RB0;have HZ:=hid hzz;clear hzz RB0 HBw HR0 HZ2 HBB a0 a1 a2 jc jr a3
 refine wp_region_held_drew (S:=cgS g.J (w.heap.size + 1) 5 (.slice g.m.fa g.m.fn g.m.fc) a w) aw ⟨j1,x1,hH0.2.2.drew⟩ (fun hHeld => ?_)
 clear j1 x1 hH0;refine tkB (i:=0) (oi:={ dst:=some 87,op:=.move (.tmp 0),type:=92,pos:= "rows.go:137",after:=#[],guard:=none }) (d:=some 87) ?_;(try simp only [Act.put,sIB,sC0,sCs]);refine tkB (i:=1) (oi:={ dst:=some 88,op:=.nilCheck (.tmp 87),type:=0,pos:= "rows.go:137",after:=#[⟨0,.data⟩],guard:=none }) (d:=some 88) ?_;(try simp only [Act.put,sIB,sC0,sCs]);refine tkB (i:=2) (oi:={ dst:=some 89,op:=.fieldAddr 95 (.tmp 88) 0,type:=0,pos:= "rows.go:137",after:=#[⟨1,.data⟩],guard:=none }) (d:=some 89) ?_;(try simp only [Act.put,sIB,sC0,sCs]);refine tkB (i:=3) (oi:={ dst:=some 90,op:=.fieldAddr 29 (.tmp 89) 5,type:=0,pos:= "rows.go:137",after:=#[⟨2,.data⟩],guard:=none }) (d:=some 90) ?_;(try simp only [Act.put,sIB,sC0,sCs]);refine tkB (i:=4) (oi:={ dst:=some 91,op:=.load 25 (.tmp 90),type:=25,pos:= "rows.go:137",after:=#[⟨3,.data⟩],guard:=none }) (d:=some 91) ?_;(try simp only [Act.put,sIB,sC0,sCs]);refine tkB (i:=5) (oi:={ dst:=some 92,op:=.fieldAddr 51 (.tmp 6) 1,type:=0,pos:= "rows.go:137",after:=#[],guard:=none }) (d:=some 92) ?_;(try simp only [Act.put,sIB,sC0,sCs]);refine tkB (i:=6) (oi:={ dst:=some 93,op:=.load 2 (.tmp 92),type:=2,pos:= "rows.go:137",after:=#[⟨5,.data⟩],guard:=none }) (d:=some 93) ?_;(try simp only [Act.put,sIB,sC0,sCs]);refine rdY (rs:=[7,11]) ?_
 refine rdA (o:={ dst:=some 94,op:=.call { callee:=.value (.func 255),args:=#[.tmp 91,.tmp 93],argTypes:=#[25,2] },type:=287,pos:= "rows.go:137",after:=#[⟨4,.data⟩,⟨6,.data⟩],guard:=none }) (fun K hK => ?_) (xD (o:={ dst:=some 14,op:=.alloc 42,type:=0,pos:= "rows.go:137",after:=#[],guard:=none }) aw aw (fun K hK => ?_) rN)
 ·go_simp;refine (HF.out _ hHeld.2.2).mono ?_;rintro e w5 ⟨rfl,hb5⟩;have hS5:=cgS.later hHeld hb5;have rb5:=ar hb5 RBD
  refine hK.out _ _ hS5 (fun _ => ?_)
  clear hK K hb5 hHeld RBD;refine tkB (i:=8) (oi:={ dst:=some 86,op:=.move (.tmp 94),type:=287,pos:= "rows.go:137",after:=#[⟨7,.data⟩],guard:=none }) (d:=some 86) ?_;(try simp only [Act.put,sIB,sC0,sCs]);refine tkB (i:=9) (oi:={ dst:=some 95,op:=.extract (.tmp 86) 0,type:=42,pos:= "rows.go:137",after:=#[⟨8,.data⟩],guard:=none }) (d:=some 95) ?_;(try simp only [Act.put,sIB,sC0,sCs]);refine tkB (i:=10) (oi:={ dst:=some 96,op:=.extract (.tmp 86) 1,type:=4,pos:= "rows.go:137",after:=#[⟨8,.data⟩,{ on:=12,ground:=.gcOnly Go.Departure.lateStores }],guard:=none }) (d:=some 96) ?_;(try simp only [Act.put,sIB,sC0,sCs]);refine rdY (rs:=[11]) ?_
  refine rdA (o:={ dst:=some 14,op:=.alloc 42,type:=0,pos:= "rows.go:137",after:=#[],guard:=none }) (fun K hK => ?_) rN
  go_simp
  refine hK.out _ _ (hS5.later (aj _ _)) (fun _ => ?_)
  clear hK K;refine rdY (rs:=[12]) ?_
  refine rdA (o:={ dst:=none,op:=.store 42 (.tmp 14) (.tmp 95),type:=0,pos:= "rows.go:137",after:=#[⟨11,.data⟩,⟨9,.data⟩,⟨7,.chain⟩,⟨0,.phase⟩,⟨1,.phase⟩,⟨2,.phase⟩,⟨3,.phase⟩,⟨4,.phase⟩,⟨5,.phase⟩,⟨6,.phase⟩,⟨7,.phase⟩,⟨8,.phase⟩,⟨9,.phase⟩,{ on:=10,ground:=.textOnly Go.Departure.lateStores },⟨11,.phase⟩],guard:=none }) (fun K hK => ?_) rN
  go_simp;have BN:=aj w5 (aI ty lo ca cn cc);have gB:=heap_alloc_new w5 (aI ty lo ca cn cc);have hS:=hS5.later BN;have rb6:=ar BN rb5
  refine hK.out _ _ hS (fun _ => ?_)
  clear hK K BN rb5 hS5;generalize w5.heap.size = G at *;generalize w5.alloc (aI ty lo ca cn cc) = W6 at *;exact Hc
 ·go_simp;have BN:=(aj W0 (aI 0 ⟨#[]⟩ none 0 0)).drew;have hS5:=cgS.later HH0.out BN;have gB0 : ((W0.alloc (aI 0 ⟨#[]⟩ none 0 0)).drew).heap[W0.heap.size]? = some (aI 0 ⟨#[]⟩ none 0 0):=heap_alloc_new W0 _;have rb5:=ar BN RBD
  have hGw : w.heap.size + 1 < W0.heap.size:=by have:=HZ.out; omega
  refine hK.out _ _ hS5 (fun _ => ?_)
  clear hK K hHeld RBD BN;generalize (W0.alloc (aI 0 ⟨#[]⟩ none 0 0)).drew = W1 at *;generalize W0.heap.size = G at *;refine rdY (rs:=[7]) ?_
  refine rdA (o:={ dst:=some 94,op:=.call { callee:=.value (.func 255),args:=#[.tmp 91,.tmp 93],argTypes:=#[25,2] },type:=287,pos:= "rows.go:137",after:=#[⟨4,.data⟩,⟨6,.data⟩],guard:=none }) (fun K hK => ?_) rN
  go_simp;refine (HF.out _ hS5.2.2).mono ?_;rintro e w5 ⟨rfl,hb5⟩;have hS6:=cgS.later hS5 hb5;have rb7:=ar hb5 rb5;have gB1:=ar hb5 gB0
  refine hK.out _ _ hS6 (fun _ => ?_)
  clear hK K hb5 hS5 rb5 gB0;refine tkB (i:=8) (oi:={ dst:=some 86,op:=.move (.tmp 94),type:=287,pos:= "rows.go:137",after:=#[⟨7,.data⟩],guard:=none }) (d:=some 86) ?_;(try simp only [Act.put,sIB,sC0,sCs]);refine tkB (i:=9) (oi:={ dst:=some 95,op:=.extract (.tmp 86) 0,type:=42,pos:= "rows.go:137",after:=#[⟨8,.data⟩],guard:=none }) (d:=some 95) ?_;(try simp only [Act.put,sIB,sC0,sCs]);refine tkB (i:=10) (oi:={ dst:=some 96,op:=.extract (.tmp 86) 1,type:=4,pos:= "rows.go:137",after:=#[⟨8,.data⟩,{ on:=12,ground:=.gcOnly Go.Departure.lateStores }],guard:=none }) (d:=some 96) ?_;(try simp only [Act.put,sIB,sC0,sCs]);have k0:=ai (i:=0) gB1;have l0:=free_at (i:=0) gB1;have k1:=ai (i:=1) gB1;have l1:=free_at (i:=1) gB1;have k2:=ai (i:=2) gB1;have l2:=free_at (i:=2) gB1;refine rdY (rs:=[12]) ?_
  refine rdA (o:={ dst:=none,op:=.store 42 (.tmp 14) (.tmp 95),type:=0,pos:= "rows.go:137",after:=#[⟨11,.data⟩,⟨9,.data⟩,⟨7,.chain⟩,⟨0,.phase⟩,⟨1,.phase⟩,⟨2,.phase⟩,⟨3,.phase⟩,⟨4,.phase⟩,⟨5,.phase⟩,⟨6,.phase⟩,⟨7,.phase⟩,⟨8,.phase⟩,⟨9,.phase⟩,{ on:=10,ground:=.textOnly Go.Departure.lateStores },⟨11,.phase⟩],guard:=none }) (fun K hK => ?_) rN
  go_simp;have hS:=(((hS6.put (G:=G) (j:=0) (u:=(.int .i64 ty)) ae ae ae).put (G:=G) (j:=1) (u:=(.string lo)) ae ae ae).put (G:=G) (j:=2) (u:=(.slice ca cn cc)) ae ae ae);have rb6:=(ij (G:=G) (j:=2) (u:=(.slice ca cn cc)) (ij (G:=G) (j:=1) (u:=(.string lo)) (ij (G:=G) (j:=0) (u:=(.int .i64 ty)) rb7 ae) ae) ae);have gB : (((w5.setCell ⟨G,0,none⟩ (.int .i64 ty)).setCell ⟨G,1,none⟩ (.string lo)).setCell ⟨G,2,none⟩ (.slice ca cn cc)).heap[G]? = some (aI ty lo ca cn cc):=(bP (i:=2) (u:=(.slice ca cn cc)) (bP (i:=1) (u:=(.string lo)) (bP (i:=0) (u:=(.int .i64 ty)) gB1)))
  refine hK.out _ _ hS (fun _ => ?_)
  clear hK K gB1 rb7 hS6 k0 l0 k1 l1 k2 l2;generalize (((w5.setCell ⟨G,0,none⟩ (.int .i64 ty)).setCell ⟨G,1,none⟩ (.string lo)).setCell ⟨G,2,none⟩ (.slice ca cn cc)) = W6 at *;exact Hc
end
end Go.Proofs.YtepnnenohjfkbaaGreatDoor

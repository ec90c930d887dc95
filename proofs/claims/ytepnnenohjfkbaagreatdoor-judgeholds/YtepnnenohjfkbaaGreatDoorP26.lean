/-
  Texts Ll CopyC Xa Xb Xd Xe Xf Xg Xh.
-/
import Derived.BigQuiet
import Derived.Deep.QuietTactic
import Derived.Laws.AppendOwnNone
import Derived.Test.YtepnnenohjfkbaaGreatDoorP00
import Derived.Test.YtepnnenohjfkbaaGreatDoorP14
import Derived.Test.YtepnnenohjfkbaaGreatDoorP20
import Derived.Test.YtepnnenohjfkbaaGreatDoorP22
import Derived.Test.YtepnnenohjfkbaaGreatDoorP23
import Derived.Test.YtepnnenohjfkbaaGreatDoorP25
set_option linter.unusedVariables false
set_option maxRecDepth 100000
set_option maxHeartbeats 16000000
namespace Go.Proofs.YtepnnenohjfkbaaGreatDoor
open Go.RowKit
abbrev rgS (J X gb go : Nat) (gv iv : Value) (le : Int) (mu : Bool) (va : Int) (w : World) (W : World) : Prop :=
 W.cell? ⟨J,2,none⟩ = some gv ∧ W.cell? ⟨X,1,none⟩ = some iv ∧ W.cell? ⟨gb,go,none⟩ = some (.int .u8 le) ∧ W.cell? ⟨gb,go + 1,none⟩ = some (.bool mu) ∧ W.cell? ⟨gb,go + 2,none⟩ = some (.int .u64 va) ∧ Below w.heap.size w W
theorem rgS.later {J X gb go : Nat} {gv iv : Value} {le : Int} {mu : Bool} {va : Int} {w W W' : World} (h : rgS J X gb go gv iv le mu va w W) (hb : Below W.heap.size W W') : rgS J X gb go gv iv le mu va w W' :=
 ⟨ag hb h.1,ag hb h.2.1,ag hb h.2.2.1,ag hb h.2.2.2.1,ag hb h.2.2.2.2.1,h.2.2.2.2.2.trans (hb.mono h.2.2.2.2.2.size)⟩
abbrev rhS (X G : Nat) (op le : Int) (mu : Bool) (w : World) (W : World) : Prop :=
 W.cell? ⟨X,0,none⟩ = some (.int .u8 op) ∧ W.cell? ⟨G,0,none⟩ = some (.int .u8 le) ∧ W.cell? ⟨G,1,none⟩ = some (.bool mu) ∧ Below w.heap.size w W
theorem rhS.later {X G : Nat} {op le : Int} {mu : Bool} {w W W' : World} (h : rhS X G op le mu w W) (hb : Below W.heap.size W W') : rhS X G op le mu w W' :=
 ⟨ag hb h.1,ag hb h.2.1,ag hb h.2.2.1,h.2.2.2.trans (hb.mono h.2.2.2.size)⟩
section
variable {g : Rg} {w : World}
theorem lm (h : Rw g w) (hF : g.m.fn ≤ 1000000) (hT : g.m.tn ≤ 1000000) (hG : g.m.gn ≤ 1000000) {op a : Int} {lv : Value} {q : Nat} {lo : ByteArray} {y : FuM} {p : Sg} (hy : g.m.fns[g.f]? = some y) (hq : y.1 = q) (hp : g.m.types[q]? = some p) (hlo : (p.1 ++ y.2.1) = lo) (hls : p.1.size + y.2.1.size ≤ 1000) {tk : Int} (htk : (tk == (6 : Int)) = false) {n : Nat} {G : Gl} (ha : a = n) (hG1 : g.m.globals[n]? = some G) (hle : 0 ≤ G.1 ∧ G.1 ≤ 255)
  (H61 : Hid (∀ W,Calls Tryz.prog 161 #[.int .u8 op] W fun e w' => e = .returned (.int .i8 tk) ∧ Below W.heap.size W w')) :
  Calls Tryz.prog 106 #[.pointer (some ⟨g.J,0,none⟩),.agg #[.int .u8 op,.int .i64 a,lv]] w fun e w' => e = .returned (.tuple #[.string (strOfNums [G.1]),.bool ((op == (21 : Int)) || G.2.1)]) ∧ Below w.heap.size w w':=by
 have B0:=aj w (aT op a lv);have bx:=heap_alloc_new w (aT op a lv);have x0 : (w.alloc (aT op a lv)).cell? ⟨w.heap.size,0,none⟩ = some (.int .u8 op):=ai bx;have x1 : (w.alloc (aT op a lv)).cell? ⟨w.heap.size,1,none⟩ = some (.int .i64 a):=ai bx;have hf0:=h.pf.1;have ht0:=h.pt.1;have hfl:=ax hy;have hql:=ax hp;obtain ⟨fb,fo,hfa,hfc⟩:=h.pf.2.resolve_left ae;obtain ⟨tb,tof,hta,htc⟩:=h.pt.2.resolve_left ae;have c0:=ag B0 (hfc _ _ hy).1;have c1:=ag B0 (hfc _ _ hy).2.1;have c2:=ag B0 (hfc _ _ hy).2.2;have c3:=ag B0 (htc _ _ hp).1;have d0:=ag B0 h.m0;have d2:=ag B0 h.m2;have d5:=ag B0 h.m5;have d8:=ag B0 h.f;rw [hta] at d0;rw [hfa] at d5;rw [hq] at c0;have f1 : (g.f : Int) < (g.m.fn : Int):=ae;have t1 : (q : Int) < (g.m.tn : Int):=ae;have HA:=hid ha;clear ha;have hg0:=h.pg.1;have hgl:=ax hG1;obtain ⟨gb,gof,hga,hgc⟩:=h.pg.2.resolve_left ae
 have HGC:=hid (fun W (hb : Below w.heap.size w W) => (⟨ag hb (hgc _ _ hG1).1,ag hb (hgc _ _ hG1).2.1,ag hb (hgc _ _ hG1).2.2⟩ : W.cell? ⟨gb,gof + n * 3,none⟩ = some (.int .u8 G.1) ∧ W.cell? ⟨gb,gof + n * 3 + 1,none⟩ = some (.bool G.2.1) ∧ W.cell? ⟨gb,gof + n * 3 + 2,none⟩ = some (.int .u64 G.2.2)))
 have g5 : (n : Int) < (g.m.gn : Int):=ae;rw [hga] at d2;clear hga hgc hG1 hg0 hgl;clear h hfc htc hta hfa hy hq hp bx hf0 ht0 hfl hql;generalize g.m.fn = fn at *;generalize g.m.fc = fc at *;generalize g.m.tn = tn at *;generalize g.m.tc = tc at *;generalize g.m.ga = ga at *;generalize g.m.gn = gn at *;generalize g.m.gc = gc at *;generalize g.f = f at *;generalize g.J = J at *;obtain ⟨_,yl,⟨ca,cn,cc⟩,_⟩:=y;obtain ⟨Pa,Re⟩:=p;dsimp only at c1 c2 c3 hlo hls;subst hlo;have HH : Hid (rlS J fb (fo + f * 3) (.slice (some ⟨fb,fo,none⟩) fn fc) (.int .i64 f) q yl (.slice ca cn cc) w (w.alloc (aT op a lv))):=hid ⟨d5,d8,c0,c1,c2,B0⟩;have hz : (w.alloc (aT op a lv)).heap.size = w.heap.size + 1:=ak;clear B0
 go_enter Tryz.func106,Tryz.ntmps106
 go_wp2_with fail;generalize w.alloc (aT op a lv) = W0 at *
 go_region_held3 (rlS J fb (fo + f * 3) (.slice (some ⟨fb,fo,none⟩) fn fc) (.int .i64 f) q yl (.slice ca cn cc) w)
  (first | assumption | exact HH.out.later (aj _ _).drew | exact HH.out.later ((aj _ _).trans ((below_drewN _ 1).mono (aj _ _).size)) | exact HH.out.later (below_drewN _ 1))
  (fail)
 have BF:=(aj W0 (aI q yl ca cn cc)).drew;have gB : ((W0.alloc (aI q yl ca cn cc)).drew).heap[W0.heap.size]? = some (aI q yl ca cn cc):=heap_alloc_new W0 _;rw [hz] at gB;have k0:=ag BF d0;have k2:=ag BF d2;have k3:=ag BF c3;have kx0:=ag BF x0;have kx1:=ag BF x1;have p0:=ai (i:=0) gB;have p1:=ai (i:=1) gB;have HB:=hid (HH.out.2.2.2.2.2.trans (BF.mono HH.out.2.2.2.2.2.size));clear d0 d2 d5 d8 c0 c1 c2 c3 x0 x1 BF gB hz HH;generalize (W0.alloc (aI q yl ca cn cc)).drew = W1 at *;have hsm : ¬ 9223372036854775807 < Pa.size + yl.size:=ae;go_wp2_with fail
 go_quiet (fail)
 have HQ:=hid (HB.out.trans ((below_drewN W1 nq).mono HB.out.size));have k2':=ag (below_drewN W1 nq) k2;have y0:=ag (below_drewN W1 nq) kx0;have y1:=ag (below_drewN W1 nq) kx1;clear k0 k2 k3 kx0 kx1 p0 p1 HB;generalize W1.drewN nq = W2 at *;go_wp2_with fail;refine (H61.out _).mono ?_;rintro e w7 ⟨rfl,hb7⟩;have HQ0:=hid (HQ.out.trans (hb7.mono HQ.out.size));have k2:=ag hb7 k2';have v0:=ag hb7 y0;have v1:=ag hb7 y1;clear HQ hb7 k2' y0 y1;have HQ:=hid HQ0.out;clear HQ0;have ha:=HA.out;clear HA;subst ha;have g2 : decide ((n : Int) < 0) = false:=ak;have g3 : decide ((gn : Int) ≤ (n : Int)) = false:=aG;go_wp2_with fail
 go_quiet (fail)
 have HQ3:=hid (HQ.out.trans ((below_drewN w7 nq).mono HQ.out.size));have r2:=ag (below_drewN w7 nq) k2;have r0:=ag (below_drewN w7 nq) v0;have r1:=ag (below_drewN w7 nq) v1;obtain ⟨e0,e1,e2⟩:=HGC.out _ HQ3.out;clear k2 v0 v1 HQ HGC;generalize w7.drewN nq = W3 at *;obtain ⟨le,mu,va⟩:=G;dsimp only at e0 e1 e2 ⊢;have HH : Hid (rgS J w.heap.size gb (gof + n * 3) (.slice (some ⟨gb,gof,none⟩) gn gc) (.int .i64 n) le mu va w W3):=hid ⟨r2,r1,e0,e1,e2,HQ3.out⟩;go_wp2_with fail
 go_region_held3 (rgS J w.heap.size gb (gof + n * 3) (.slice (some ⟨gb,gof,none⟩) gn gc) (.int .i64 n) le mu va w)
  (first | assumption | exact HH.out.later (aj _ _).drew | exact HH.out.later (below_drewN _ 1))
  (fail)
 have BF:=(aj W3 (bC le mu va)).drew;have gB : ((W3.alloc (bC le mu va)).drew).heap[W3.heap.size]? = some (bC le mu va):=heap_alloc_new W3 _;have s0:=ag BF r0;have p0:=ai (i:=0) gB;have p1:=ai (i:=1) gB;have HB:=hid (HQ3.out.trans (BF.mono HQ3.out.size));clear r0 r1 r2 e0 e1 e2 BF gB HH HQ3;generalize (W3.alloc (bC le mu va)).drew = W4 at *;generalize W3.heap.size = G4 at *
 have hcv : ∀ (W : World) (b : Nat),W.cell? ⟨b,0,none⟩ = some (.int .u8 le) → (convert 64 9 (.slice (some ⟨b,0,none⟩) 1 1)).run Tryz.prog W = .ok (.string (strOfNums [le])) W:=fun W b h => Bp W (some ⟨b,0,none⟩) 1 1 [le] (tR h hle.1 hle.2)
 clear hle;have HI : Hid (rhS w.heap.size G4 op le mu w W4):=hid ⟨s0,p0,p1,HB.out⟩
 have HIN:=hid (fun (W : World) (hb : Below W4.heap.size W4 W) => (HI.out.later hb))
 cases h21 : (op == (21 : Int)) with
 | true =>
  have h22 : op = 21:=by simpa using h21
  clear h21;subst h22;go_wp2_with fail
  refine wp_region_held_drew (S:=rhS w.heap.size G4 21 le mu w) aw (HI.out.later (below_drewN W4 1)) (fun hHeld => ?_)
  refine tkB (i:=0) (oi:={ dst:=some 77,op:=.fieldAddr 141 (.tmp 8) 0,type:=0,pos:= "ref.go:152",after:=#[],guard:=none }) (d:=some 77) ?_;(try simp only [Act.put,sIB,sC0,sCs]);refine tkB (i:=1) (oi:={ dst:=some 78,op:=.load 5 (.tmp 77),type:=5,pos:= "ref.go:152",after:=#[⟨0,.data⟩],guard:=none }) (d:=some 78) ?_;(try simp only [Act.put,sIB,sC0,sCs]);refine tkB (i:=4) (oi:={ dst:=some 81,op:=.fieldAddr 51 (.tmp 3) 0,type:=0,pos:= "ref.go:152",after:=#[],guard:=none }) (d:=some 81) ?_;(try simp only [Act.put,sIB,sC0,sCs]);refine tkB (i:=5) (oi:={ dst:=some 82,op:=.load 5 (.tmp 81),type:=5,pos:= "ref.go:152",after:=#[⟨4,.data⟩],guard:=none }) (d:=some 82) ?_;(try simp only [Act.put,sIB,sC0,sCs]);refine tkB (i:=6) (oi:={ dst:=some 83,op:=.binOp Go.BinOp.eql 5 (.tmp 82) (.const (Go.Value.int Go.IntKind.u8 21)) 5,type:=4,pos:= "ref.go:152",after:=#[⟨5,.data⟩],guard:=none }) (d:=some 83) ?_;(try simp only [Act.put,sIB,sC0,sCs]);refine tkB (i:=7) (oi:={ dst:=some 84,op:=.move (.tmp 83),type:=4,pos:= "ref.go:152",after:=#[⟨6,.data⟩],guard:=none }) (d:=some 84) ?_;try simp only [Act.put,sIB,sC0,sCs]
  refine take_at (i:=8) (oi:={ dst:=some 85,op:=.fieldAddr 141 (.tmp 8) 1,type:=0,pos:= "ref.go:152",after:=#[⟨7,.guard⟩,{ on:=11,ground:=.gcOnly Go.Departure.lateStores }],guard:=some (7,false) }) (d:=some 85) (v:=undef) aw aw aw aw aw (fun _ _ _ h => h) (Or.inr ⟨aw,rfl⟩) cU ?_
  try simp only [Act.put,sIB,sC0,sCs]
  refine take_at (i:=9) (oi:={ dst:=some 86,op:=.load 4 (.tmp 85),type:=4,pos:= "ref.go:152",after:=#[⟨8,.data⟩,⟨7,.guard⟩,{ on:=11,ground:=.gcOnly Go.Departure.lateStores }],guard:=some (7,false) }) (d:=some 86) (v:=undef) aw aw aw aw aw (fun _ _ _ h => h) (Or.inr ⟨aw,rfl⟩) cU ?_
  (try simp only [Act.put,sIB,sC0,sCs]);exact Nu
 | false =>
  go_wp2_with fail
  refine wp_region_held_drew (S:=rhS w.heap.size G4 op le mu w) aw (HI.out.later (below_drewN W4 1)) (fun hHeld => ?_)
  refine tkB (i:=0) (oi:={ dst:=some 77,op:=.fieldAddr 141 (.tmp 8) 0,type:=0,pos:= "ref.go:152",after:=#[],guard:=none }) (d:=some 77) ?_;(try simp only [Act.put,sIB,sC0,sCs]);refine tkB (i:=1) (oi:={ dst:=some 78,op:=.load 5 (.tmp 77),type:=5,pos:= "ref.go:152",after:=#[⟨0,.data⟩],guard:=none }) (d:=some 78) ?_;(try simp only [Act.put,sIB,sC0,sCs]);refine tkB (i:=4) (oi:={ dst:=some 81,op:=.fieldAddr 51 (.tmp 3) 0,type:=0,pos:= "ref.go:152",after:=#[],guard:=none }) (d:=some 81) ?_;(try simp only [Act.put,sIB,sC0,sCs]);refine tkB (i:=5) (oi:={ dst:=some 82,op:=.load 5 (.tmp 81),type:=5,pos:= "ref.go:152",after:=#[⟨4,.data⟩],guard:=none }) (d:=some 82) ?_;(try simp only [Act.put,sIB,sC0,sCs]);refine tkB (i:=6) (oi:={ dst:=some 83,op:=.binOp Go.BinOp.eql 5 (.tmp 82) (.const (Go.Value.int Go.IntKind.u8 21)) 5,type:=4,pos:= "ref.go:152",after:=#[⟨5,.data⟩],guard:=none }) (d:=some 83) ?_;(try simp only [Act.put,sIB,sC0,sCs]);refine tkB (i:=7) (oi:={ dst:=some 84,op:=.move (.tmp 83),type:=4,pos:= "ref.go:152",after:=#[⟨6,.data⟩],guard:=none }) (d:=some 84) ?_;(try simp only [Act.put,sIB,sC0,sCs]);refine tkB (i:=8) (oi:={ dst:=some 85,op:=.fieldAddr 141 (.tmp 8) 1,type:=0,pos:= "ref.go:152",after:=#[⟨7,.guard⟩,{ on:=11,ground:=.gcOnly Go.Departure.lateStores }],guard:=some (7,false) }) (d:=some 85) ?_;(try simp only [Act.put,sIB,sC0,sCs]);refine tkB (i:=9) (oi:={ dst:=some 86,op:=.load 4 (.tmp 85),type:=4,pos:= "ref.go:152",after:=#[⟨8,.data⟩,⟨7,.guard⟩,{ on:=11,ground:=.gcOnly Go.Departure.lateStores }],guard:=some (7,false) }) (d:=some 86) ?_;(try simp only [Act.put,sIB,sC0,sCs]);exact Nu
end
def cel (y : Inx) : List Value:=[.int .u8 y.c,.int .i64 y.a,.slice y.la y.ln y.lc]
def flat (ys : List Inx) : List Value:=ys.flatMap cel
theorem sV : ∀ (ys : List Inx) (j q : Nat),j < ys.length → q < 3 → (flat ys)[j * 3 + q]? = (cel (ys.getD j dx))[q]?
 | [],j,q,h,_ => by simp at h
 | y :: ys,0,q,_,hq => by
  unfold flat
  rw [List.flatMap_cons,List.getElem?_append_left (by simp [cel]; omega)]
  simp
 | y :: ys,j + 1,q,h,hq => by
  have ih:=sV ys j q jZ hq;unfold flat at ih ⊢
  rw [List.flatMap_cons,List.getElem?_append_right (by simp [cel]; omega)]
  have : (j + 1) * 3 + q - (cel y).length = j * 3 + q:=by simp [cel]; omega
  rw [this,ih]
  simp
def LC (w : World) (base : Nat) (v : Value) (ys : List Inx) : Prop:=w.ownsRow base 51 3 v ys.length (flat ys)
def LL (w : World) (base : Nat) (ys : List Inx) : Prop:=∀ y ∈ ys,LI w base (.slice y.la y.ln y.lc) y.l
theorem LC.nil (w : World) (base : Nat) : LC w base (.slice none 0 0) []:=⟨rfl,.inl ⟨rfl,rfl⟩⟩
theorem LC.later {w w' : World} {base B : Nat} {v : Value} {ys : List Inx} (h : LC w base v ys) (hb : Below B w w') (hB : w.heap.size ≤ B) : LC w' base v ys:=by
 refine ⟨h.1,?_⟩
 rcases h.2 with h0 | ⟨g,cp,cur,rfl,h2,h3,h4⟩
 ·exact .inl h0
 ·refine .inr ⟨g,cp,cur,rfl,h2,?_,h4⟩;have hl : g < w.heap.size:=(Array.getElem?_eq_some_iff.1 h3).1
  rw [hb.block g ae]; exact h3
theorem LC.slice {w : World} {base : Nat} {v : Value} {ys : List Inx} (h : LC w base v ys) : ∃ a c,v = .slice a ys.length c:=by
 exact Bt
theorem LC.block {w : World} {base B : Nat} {v : Value} {ys : List Inx} (h : LC w base v ys) (hv : v.ownBlock = some B) : base ≤ B ∧ ∃ cur,w.heap[B]? = some (.cells cur 51):=by
 rcases h.2 with ⟨h0,_⟩ | ⟨g,cp,cur,h1,h2,h3,_⟩
 ·rw [h0] at hv; cases hv
 ·rw [h1] at hv
  have e : g = B:=by simpa [Value.ownBlock] using hv
  subst e;exact ⟨h2,cur,h3⟩
theorem LL.later {w w' : World} {base B : Nat} {ys : List Inx} (h : LL w base ys) (hb : Below B w w') (hB : w.heap.size ≤ B) : LL w' base ys:=fun y hy => (h y hy).later hb hB
theorem LC.cod {w : World} {base g cap n : Nat} {ys : List Inx} (h : LC w base (.slice (some ⟨g,0,none⟩) n cap) ys) (hn : n = ys.length) (hl : LL w base ys) (hr : ∀ y ∈ ys,0 ≤ y.c ∧ y.c ≤ 255 ∧ -9223372036854775808 ≤ y.a ∧ y.a ≤ 9223372036854775807 ∧ y.ln ≤ 100000 ∧ ∀ z ∈ y.l,-9223372036854775808 ≤ z ∧ z ≤ 9223372036854775807) :
  Cod w g 0 n ys:=by
 subst hn
 refine ⟨rfl,fun j hj => ?_⟩
 have hm : ys.getD j dx ∈ ys:=by rw [List.getD_eq_getElem?_getD,aN hj]; exact List.getElem_mem hj
 have hc : ∀ q,q < 3 → w.cell? ⟨g,j * 3 + q,none⟩ = (cel (ys.getD j dx))[q]?:=fun q hq => by
  rw [World.ownsRow.cellAt h (j * 3 + q) ae,sV ys j q hj hq]
 obtain ⟨r1,r2,r3,r4,r5,r6⟩:=hr _ hm;have c0:=hc 0 ae;have c1:=hc 1 ae;have c2:=hc 2 ae;rw [Nat.zero_add];have hL:=hl _ hm;have e:=hL.cell.1
 refine ⟨c0,c1,c2,r1,r2,r3,r4,ae,fun _ => hL.seg r6 ae⟩
def mq (TB FB : Nat) (ca : Option Addr) (n c : Nat) (co : List InM) : MM :=
 { ta:=some ⟨TB,0,none⟩,tn:=1,tc:=1,types:=[(⟨#[]⟩,⟨#[119]⟩)],ha:=none,hn:=0,hc:=0,hosts:=[],ga:=none,gn:=0,gc:=0,globals:=[],fi:=0,mo:=0,fa:=some ⟨FB,0,none⟩,fn:=1,fc:=1,fns:=[(0,⟨#[]⟩,(ca,n,c),co)],da:=none,dn:=0,dc:=0,data:=[],ea:=none,en:=0,ec:=0,exps:=[] }
theorem MG {W : World} {TB FB : Nat} {ca : Option Addr} {n c : Nat} {co : List InM} (hT : W.heap[TB]? = some (aB ⟨#[]⟩ ⟨#[119]⟩)) (hF : W.heap[FB]? = some (aI 0 ⟨#[]⟩ ca n c)) (hc : AtIn W ca n co)
  (ha : ∀ b off cc,ca = some ⟨b,off,cc⟩ → b < W.heap.size) (hi : ∀ y ∈ co,0 ≤ y.1 ∧ y.1 ≤ 255 ∧ y.2.2.1 = (none,0,0) ∧ y.2.2.2 = []) :
  ∀ R g,W.heap.size ≤ R → W.heap.size ≤ g → MOk W R g (mq TB FB ca n c co):=by
 intro R g hR hg
 have far : ∀ (a : Option Addr),(∀ b off cc,a = some ⟨b,off,cc⟩ → b < W.heap.size) → Far W R g a:=fun a h b off cc hb => by have:=h b off cc hb; omega
 have lT : TB < W.heap.size:=dY hT;have lF : FB < W.heap.size:=dY hF
 have fn : Far W R g none:=far none (fun b off cc h => cE)
 refine ⟨⟨rfl,.inr ⟨TB,0,rfl,fun j x hj => ?_⟩⟩,far _ (fun b off cc h => by cases h; exact lT),⟨rfl,.inl rfl⟩,fn,fun j x hj => uQ,⟨rfl,.inl rfl⟩,fn,fun j x hj => uQ,nJ,nJ,nJ,nJ,⟨rfl,.inr ⟨FB,0,rfl,fun j x hj => ?_⟩⟩,far _ (fun b off cc h => by cases h; exact lF),fun j x hj => ?_,⟨rfl,.inl rfl⟩,fn,fun j x hj => uQ,⟨rfl,.inl rfl⟩,fn,fun j x hj => uQ⟩
 ·match j,hj with
  | 0,hj =>
   obtain rfl:=Option.some.inj hj;exact ⟨ai hT,ai hT⟩
  | j + 1,hj => simp [mq] at hj
 ·match j,hj with
  | 0,hj =>
   obtain rfl:=Option.some.inj hj;exact ⟨ai hF,ai hF,ai hF⟩
  | j + 1,hj => simp [mq] at hj
 ·match j,hj with
  | 0,hj =>
   obtain rfl:=Option.some.inj hj
   refine ⟨ak,hc,(far _ ha).nz _,fun i y hi' => ?_⟩
   obtain ⟨h1,h2,h3,h4⟩:=hi y (List.mem_of_getElem? hi');refine ⟨h1,h2,?_,?_⟩
   ·rw [h3,h4]; exact ⟨rfl,Nat.zero_le _,Nat.zero_le _,fun z hz => by simp at hz,.inl rfl⟩
   ·rw [h3]; exact fn.nz _
  | j + 1,hj => simp [mq] at hj
def inn (c a : Int) : InM:=(c,a,(none,0,0),[])
def co1 : List InM:=[inn 2 0,inn 24 1,inn 7 0,inn 6 0,inn 6 0]
def co2 : List InM:=[inn 24 0,inn 24 0,inn 6 0]
theorem re2 : (res (opF (co2.map inx)) 3 0).1 = 0:=aw
theorem hi1 (TB FB : Nat) (ca : Option Addr) : (stA (mq TB FB ca 5 5 co1) (aD ((⟨#[]⟩ : ByteArray) ++ ⟨#[]⟩)) (co1.map inx) ⟨#[119]⟩ 5 5).hi = 1:=aw
theorem at1 {W : World} {B : Nat} (h : W.heap[B]? = some (.cells #[.int .u8 2,.int .i64 0,.slice none 0 0,.int .u8 24,.int .i64 1,.slice none 0 0,.int .u8 7,.int .i64 0,.slice none 0 0,.int .u8 6,.int .i64 0,.slice none 0 0,.int .u8 6,.int .i64 0,.slice none 0 0] 51)) : AtIn W (some ⟨B,0,none⟩) 5 co1:=by
 refine ⟨rfl,.inr ⟨B,0,rfl,fun j x hj => ?_⟩⟩
 match j,hj with
 | 0,hj | 1,hj | 2,hj | 3,hj | 4,hj =>
  exact tT
 | j + 5,hj => simp [co1] at hj
theorem at2 {W : World} {B : Nat} (h : W.heap[B]? = some (.cells #[.int .u8 24,.int .i64 0,.slice none 0 0,.int .u8 24,.int .i64 0,.slice none 0 0,.int .u8 6,.int .i64 0,.slice none 0 0] 51)) : AtIn W (some ⟨B,0,none⟩) 3 co2:=by
 refine ⟨rfl,.inr ⟨B,0,rfl,fun j x hj => ?_⟩⟩
 match j,hj with
 | 0,hj | 1,hj | 2,hj =>
  exact tT
 | j + 3,hj => simp [co2] at hj
theorem aQ {TB FB : Nat} {ca : Option Addr} {n : Nat} {co : List InM} : ∀ x ∈ (mq TB FB ca n n co).fns,x.2.2.1.2.1 ≤ x.2.2.1.2.2:=nJ
theorem A6 {α β : Type} (g : α → List β) (k : Nat) (hk : ∀ x,(g x).length = k) : ∀ (l : List α) (i q : Nat),q < k → (l.flatMap g)[i * k + q]? = (l[i]?).bind fun x => (g x)[q]?
 | [],i,q,_ => by simp
 | x :: l,0,q,hq => by
  rw [List.flatMap_cons,List.getElem?_append_left (by rw [hk]; omega)]
  simp
 | x :: l,i + 1,q,hq => by
  have ih:=A6 g k hk l i q hq
  rw [List.flatMap_cons,List.getElem?_append_right (by rw [hk,Nat.succ_mul]; omega),hk]
  rw [show (i + 1) * k + q - k = i * k + q by rw [Nat.succ_mul]; omega,ih]
  simp
theorem ji {α β : Type} (g : α → List β) (k : Nat) (hk : ∀ x,(g x).length = k) : ∀ (l : List α),(l.flatMap g).length = l.length * k
 | [] => by simp
 | x :: l => by rw [List.flatMap_cons,List.length_append,hk,ji g k hk l,List.length_cons,Nat.succ_mul]; omega
theorem OP {α : Type} {w : World} {base e n k : Nat} {v : Value} (g : α → List Value) (hk : ∀ x,(g x).length = k) {l : List α} (h : w.ownsRow base e k v n (l.flatMap g)) (hn : l.length = n) :
  ∃ a c,v = .slice a n c ∧ n ≤ c ∧ (∀ b off cc,a = some ⟨b,off,cc⟩ → base ≤ b ∧ b < w.heap.size ∧ ∃ cur,w.heap[b]? = some (.cells cur e)) ∧ (n = 0 ∨ ∃ b off,a = some ⟨b,off,none⟩ ∧ off = 0 ∧ ∀ (j : Nat) x,l[j]? = some x → ∀ q,q < k → w.cell? ⟨b,off + j * k + q,none⟩ = (g x)[q]?):=by
 rcases h.2 with ⟨rfl,h0⟩ | ⟨b,cap,cur,rfl,h2,h3,h4,h5,h6,h7⟩
 ·exact ⟨none,0,by rw [h0],ae,fun b off cc e => ju,.inl h0⟩
 ·refine ⟨some ⟨b,0,none⟩,cap,rfl,h4,fun b' off cc e => ?_,.inr ⟨b,0,rfl,rfl,fun j x hx q hq => ?_⟩⟩
  ·cases e
   exact ⟨h2,dY h3,cur,h3⟩
  ·have hjn : j < n:=by have:=ax hx; omega
   have hlt : j * k + q < n * k:=by
    have : (j + 1) * k ≤ n * k:=Nat.mul_le_mul_right k hjn;rw [Nat.succ_mul] at this; omega
   have hc:=World.ownsRow.cellAt h (j * k + q) hlt
   rw [Nat.zero_add,hc,A6 g k hk l j q hq,hx]; rfl
theorem bg {S : Nat → Prop} {w w' : World} {base e k n : Nat} {v : Value} {xs : List Value} (h : w.ownsRow base e k v n xs) (hk : Kept S w w') (hs : ∀ b,v.ownBlock = some b → ¬ S b) : w'.ownsRow base e k v n xs:=by
 refine ⟨h.1,?_⟩
 rcases h.2 with h0 | ⟨g,cp,cur,rfl,h2,h3,h4⟩
 ·exact .inl h0
 ·exact .inr ⟨g,cp,cur,rfl,h2,(hk.block g (dY h3) (hs g rfl)).trans h3,h4⟩
theorem dO {w : World} {base base' e k n : Nat} {v : Value} {xs : List Value} (h : w.ownsRow base e k v n xs) (hb : base' ≤ base) : w.ownsRow base' e k v n xs:=by
 exact Bi
theorem lJ {w : World} {base e k n b : Nat} {v : Value} {xs : List Value} (h : w.ownsRow base e k v n xs) (hb : v.ownBlock = some b) : base ≤ b ∧ b < w.heap.size ∧ ∃ cur,w.heap[b]? = some (.cells cur e):=by
 rcases h.2 with ⟨h0,_⟩ | ⟨g,cp,cur,rfl,h2,h3,h4⟩
 ·rw [h0] at hb; cases hb
 ·obtain rfl : g = b:=ry;exact ⟨h2,dY h3,cur,h3⟩
def fE (y : FuM) : List Value:=[.int .i64 y.1,.string y.2.1,.slice y.2.2.1.1 y.2.2.1.2.1 y.2.2.1.2.2]
def FnL (w : World) (base : Nat) (y : FuM) : Prop:=LC w base (.slice y.2.2.1.1 y.2.2.1.2.1 y.2.2.1.2.2) (y.2.2.2.map inx) ∧ LL w base (y.2.2.2.map inx)
theorem FnL.kept {S : Nat → Prop} {w w' : World} {base : Nat} {y : FuM} (h : FnL w base y) (hk : Kept S w w') (hS : ∀ k,S k → k < w.heap.size → ∃ cur t,w.heap[k]? = some (.cells cur t) ∧ t ≠ 51 ∧ t ≠ 3) : FnL w' base y:=by
 refine ⟨bg h.1 hk (fun b hb hx => ?_),fun z hz => bg (h.2 z hz) hk (fun b hb hx => ?_)⟩
 ·obtain ⟨_,hl,cur,hc⟩:=lJ h.1 hb;obtain ⟨c2,t,hc2,h1,h2⟩:=hS b hx hl;rw [hc] at hc2; simp at hc2
  exact h1 hc2.2.symm
 ·obtain ⟨_,hl,cur,hc⟩:=lJ (h.2 z hz) hb;obtain ⟨c2,t,hc2,h1,h2⟩:=hS b hx hl;rw [hc] at hc2; simp at hc2
  exact h2 hc2.2.symm
theorem FnL.mono {w : World} {base base' : Nat} {y : FuM} (h : FnL w base y) (hb : base' ≤ base) : FnL w base' y:=⟨dO h.1 hb,fun z hz => dO (h.2 z hz) hb⟩
structure FnS (x y : FuM) : Prop where
 ty : y.1 = x.1
 lo : y.2.1 = x.2.1
 n : y.2.2.1.2.1 = x.2.2.1.2.1
 len : y.2.2.2.length = x.2.2.2.length
 code : ∀ j,j < x.2.2.2.length → ((y.2.2.2.map inx).getD j dx).c = ((x.2.2.2.map inx).getD j dx).c ∧ ((y.2.2.2.map inx).getD j dx).a = ((x.2.2.2.map inx).getD j dx).a ∧ ((y.2.2.2.map inx).getD j dx).l = ((x.2.2.2.map inx).getD j dx).l ∧ ((y.2.2.2.map inx).getD j dx).ln = ((x.2.2.2.map inx).getD j dx).ln
def gQ (y : DaM) : List Value:=[.int .i64 y.1,.slice y.2.1.1 y.2.1.2.1 y.2.1.2.2]
def DaL (w : World) (base : Nat) (y : DaM) : Prop:=w.ownsRow base 5 1 (.slice y.2.1.1 y.2.1.2.1 y.2.1.2.2) y.2.1.2.1 (y.2.2.map (Value.int .u8))
theorem DaL.kept {S : Nat → Prop} {w w' : World} {base : Nat} {y : DaM} (h : DaL w base y) (hk : Kept S w w') (hS : ∀ k,S k → k < w.heap.size → ∃ cur t,w.heap[k]? = some (.cells cur t) ∧ t ≠ 5) : DaL w' base y:=by
 refine bg h hk (fun b hb hx => ?_)
 obtain ⟨_,hl,cur,hc⟩:=lJ h hb;obtain ⟨c2,t,hc2,h1⟩:=hS b hx hl;rw [hc] at hc2; simp at hc2
 exact h1 hc2.2.symm
structure DaS (x y : DaM) : Prop where
 at_ : y.1 = x.1
 n : y.2.1.2.1 = x.2.1.2.1
 b : y.2.2 = x.2.2
def gH (x : Sg) : List Value:=[.string x.1,.string x.2]
def fO (x : Gl) : List Value:=[.int .u8 x.1,.bool x.2.1,.int .u64 x.2.2]
def gM (x : Ex) : List Value:=[.string x.1,.int .i64 x.2]
def fX (x : Int) : List Value:=[.int .i64 x]
structure MC (m n : MM) (base : Nat) (w : World) : Prop where
 tn : n.tn = m.tn
 types : n.types = m.types
 hn : n.hn = m.hn
 hosts : n.hosts = m.hosts
 gn : n.gn = m.gn
 globals : n.globals = m.globals
 fi : n.fi = m.fi
 mo : n.mo = m.mo
 fn : n.fn = m.fn
 dn : n.dn = m.dn
 en : n.en = m.en
 exps : n.exps = m.exps
 fl : n.fns.length = m.fn
 fs : ∀ (j : Nat) x y,m.fns[j]? = some x → n.fns[j]? = some y → FnS x y
 dl : n.data.length = m.dn
 ds : ∀ (j : Nat) x y,m.data[j]? = some x → n.data[j]? = some y → DaS x y
 rT : w.ownsRow base 62 2 (.slice n.ta n.tn n.tc) n.tn (n.types.flatMap gH)
 rH : w.ownsRow base 3 1 (.slice n.ha n.hn n.hc) n.hn (n.hosts.flatMap fX)
 rG : w.ownsRow base 141 3 (.slice n.ga n.gn n.gc) n.gn (n.globals.flatMap fO)
 rF : w.ownsRow base 42 3 (.slice n.fa n.fn n.fc) n.fn (n.fns.flatMap fE)
 fL : ∀ y ∈ n.fns,FnL w base y
 rD : w.ownsRow base 66 2 (.slice n.da n.dn n.dc) n.dn (n.data.flatMap gQ)
 dL : ∀ y ∈ n.data,DaL w base y
 rE : w.ownsRow base 68 2 (.slice n.ea n.en n.ec) n.en (n.exps.flatMap gM)
end Go.Proofs.YtepnnenohjfkbaaGreatDoor

/-
  Texts Jc La Jd Je.
-/
import Derived.BigQuiet
import Derived.Deep.QuietTactic
import Derived.Deep.RegionHeld3
import Derived.Test.YtepnnenohjfkbaaGreatDoorP00
import Derived.Test.YtepnnenohjfkbaaGreatDoorP16
set_option linter.unusedVariables false
set_option maxRecDepth 100000
set_option maxHeartbeats 16000000
namespace Go.Proofs.YtepnnenohjfkbaaGreatDoor
open Go.RowKit
def bu (m : MM) (R : ByteArray) (xs : List Inx) (o : Int) : Sg × Bool :=
 if o = -1 then ((⟨#[]⟩,R),true) else if bo m.tn (xs.getD o.toNat dx).a = 0 then (bE m (xs.getD o.toNat dx).a,true) else ((⟨#[]⟩,⟨#[]⟩),false)
abbrev jsS (J cb co : Nat) (tv cv : Value) (a : Int) (w : World) (W : World) : Prop :=
 W.cell? ⟨J,0,none⟩ = some tv ∧ W.cell? ⟨J,10,none⟩ = some cv ∧ W.cell? ⟨cb,co,none⟩ = some (.int .i64 a) ∧ Below w.heap.size w W
theorem jsS.later {J cb co : Nat} {tv cv : Value} {a : Int} {w W W' : World} (h : jsS J cb co tv cv a w W) (hb : Below W.heap.size W W') : jsS J cb co tv cv a w W' :=
 ⟨ag hb h.1,ag hb h.2.1,ag hb h.2.2.1,h.2.2.2.trans (hb.mono h.2.2.2.size)⟩
theorem jsS.put {J cb co : Nat} {tv cv : Value} {a : Int} {w W : World} {j : Nat} {u : Value} (h : jsS J cb co tv cv a w W) (hJ : J < w.heap.size) (hc : cb < w.heap.size) : jsS J cb co tv cv a w (W.setCell ⟨w.heap.size,j,none⟩ u) :=
 ⟨(World.cell?_setCell_other _ _ _ _ (fun e => rK)).trans h.1,(World.cell?_setCell_other _ _ _ _ (fun e => rK)).trans h.2.1,
  (World.cell?_setCell_other _ _ _ _ (fun e => rK)).trans h.2.2.1,bN h.2.2.2 (Nat.le_refl _) h.2.2.2.size⟩
section
variable {g : Jg} {w : World}
theorem xB (h : Jw g w) : Calls Tryz.prog 214 #[.pointer (some ⟨g.J,0,none⟩),.int .i64 (-1)] w fun e w' => e = .returned (.tuple #[.agg #[.string ⟨#[]⟩,.string g.R],.bool true]) ∧ Below w.heap.size w w':=by
 have BN:=aj w (aB ⟨#[]⟩ ⟨#[]⟩);have r0:=ag BN h.r;clear h BN;generalize g.J = J at *;generalize g.R = R at *
 go_enter Tryz.func214,Tryz.ntmps214
 go_wp2_with fail;refine bodyPost_ret (v:=.tuple #[.agg #[.string ⟨#[]⟩,.string R],.bool true]) ?_ rfl ⟨rfl,aj _ _⟩;exact cZ
theorem qy (h : Jw g w) (hN : g.N ≤ 2048) {t : Nat} (ht : t < g.N) {P R' : ByteArray} {ok : Bool}
  (HF : Hid (∀ W,Below w.heap.size w W → Calls Tryz.prog 261 #[.slice g.m.ta g.m.tn g.m.tc,.int .i64 (g.xs.getD t dx).a] W fun e w' => e = .returned (.tuple #[.agg #[.string P,.string R'],.bool ok]) ∧ Below W.heap.size W w')) :
  Calls Tryz.prog 214 #[.pointer (some ⟨g.J,0,none⟩),.int .i64 t] w fun e w' => e = .returned (.tuple #[.agg #[.string P,.string R'],.bool ok]) ∧ Below w.heap.size w w':=by
 have BW:=aj w (aB ⟨#[]⟩ ⟨#[]⟩);have b0:=heap_alloc_new w (aB ⟨#[]⟩ ⟨#[]⟩);have hJl : g.J < w.heap.size:=block_lt_of_cell h.m0;have hcl : g.cb < w.heap.size:=block_lt_of_cell (h.cod.op ht);have d0:=ag BW h.m0;have d1:=ag BW h.c;have d2:=ag BW (h.cod.num ht);have y0 : (w.alloc (aB ⟨#[]⟩ ⟨#[]⟩)).cell? ⟨w.heap.size,0,none⟩ = some (.string ⟨#[]⟩):=ai b0;have y1 : (w.alloc (aB ⟨#[]⟩ ⟨#[]⟩)).cell? ⟨w.heap.size,1,none⟩ = some (.string ⟨#[]⟩):=ai b0;have z0 : (w.alloc (aB ⟨#[]⟩ ⟨#[]⟩)).frozen? ⟨w.heap.size,0,none⟩ = false:=free_at b0;have z1 : (w.alloc (aB ⟨#[]⟩ ⟨#[]⟩)).frozen? ⟨w.heap.size,1,none⟩ = false:=free_at b0;have HB:=hid BW;have g0 : ((t : Int) == (-1 : Int)) = false:=ak;have g1 : (t : Int) < (g.N : Int):=ae;clear h b0 BW;generalize g.m.ta = ta at *;generalize g.m.tn = tn at *;generalize g.m.tc = tc at *;generalize (g.xs.getD t dx).a = a at *;generalize g.J = J at *;generalize g.cb = cb at *;generalize g.coff = coff at *;generalize g.cc = cc at *;generalize g.N = N at *
 go_enter Tryz.func214,Tryz.ntmps214
 go_wp2_with fail;generalize w.alloc (aB ⟨#[]⟩ ⟨#[]⟩) = W0 at *
 go_region_held3 (jsS J cb (coff + t * 3 + 1) (.slice ta tn tc) (.slice (some ⟨cb,coff,none⟩) N cc) a w)
  (first | assumption | exact jsS.put (jsS.put cU hJl hcl) hJl hcl | exact (jsS.put (jsS.put cU hJl hcl) hJl hcl).later (below_drewN _ 1) | exact ⟨d0,d1,d2,HB.out.drew⟩)
  (first
   | (go_at_call 261; refine (HF.out _ (And.right (And.right (And.right cU)))).mono ?_; rintro e w' ⟨rfl,hbx⟩; have hS':=jsS.later cU hbx; have k0:=ag hbx (show World.cell? _ _ = _ from y0); have k1:=ag hbx (show World.cell? _ _ = _ from y1); have j0:=dZ hbx (show World.cell? _ _ = _ from y0) (show World.frozen? _ _ = _ from z0); have j1:=dZ hbx (show World.cell? _ _ = _ from y1) (show World.frozen? _ _ = _ from z1); clear hbx))
 go_wp2_with fail;refine bodyPost_ret (v:=.tuple #[.agg #[.string P,.string R'],.bool ok]) ?_ rfl ⟨rfl,(jsS.put (jsS.put hS' hJl hcl) hJl hcl).2.2.2⟩;exact cZ
theorem qG (h : Jw g w) (hN : g.N ≤ 2048) (hT : g.m.tn ≤ 1000000) {o : Int} (ho : o = -1 ∨ ∃ t : Nat,o = t ∧ t < g.N) :
  Calls Tryz.prog 214 #[.pointer (some ⟨g.J,0,none⟩),.int .i64 o] w fun e w' => e = .returned (.tuple #[.agg #[.string (bu g.m g.R g.xs o).1.1,.string (bu g.m g.R g.xs o).1.2],.bool (bu g.m g.R g.xs o).2]) ∧ Below w.heap.size w w':=by
 rcases ho with rfl | ⟨t,rfl,ht⟩
 ·exact xB h
 ·unfold bu;rw [if_neg ae,Int.toNat_natCast]
  rcases dw g.m.tn (g.xs.getD t dx).a with ⟨h1,h2⟩ | ⟨h1,q,hq,hqn⟩
  ·rw [h1,if_neg aH]
   exact qy h hN ht (hid fun W hb => xz h2 ae)
  ·rw [h1,if_pos rfl];have hl:=h.pt.1;obtain ⟨p,hp⟩ : ∃ p,g.m.types[q]? = some p:=⟨_,aN ae⟩;obtain ⟨tb,toff,hta,hat⟩:=h.pt.2.resolve_left ae;obtain ⟨c0,c1⟩:=hat q p hp
   have e : bE g.m (g.xs.getD t dx).a = p:=by
    exact vq
   rw [e]
   refine qy h hN ht (hid fun W hb => ?_)
   rw [hta,hq];exact wG hqn ae (ag hb c0) (ag hb c1)
theorem mN (h : Jw g w) (x : Int) : Calls Tryz.prog 256 #[.pointer (some ⟨g.J,0,none⟩),.int .i64 x,.bool false] w fun e w' => e = .returned (.tuple #[.agg #[.string ⟨#[]⟩,.string ⟨#[]⟩],.bool false]) ∧ Below w.heap.size w w':=by
 clear h;generalize g.J = J at *
 go_enter Tryz.func256,Tryz.ntmps256
 go_wp2_with fail;refine bodyPost_ret (v:=.tuple #[.agg #[.string ⟨#[]⟩,.string ⟨#[]⟩],.bool false]) ?_ rfl ⟨rfl,aj _ _⟩;exact cZ
theorem lw (h : Jw g w) (hT : g.m.tn ≤ 1000000) {q : Nat} {p : Sg} (hp : g.m.types[q]? = some p) : Calls Tryz.prog 256 #[.pointer (some ⟨g.J,0,none⟩),.int .i64 q,.bool true] w fun e w' => e = .returned (.tuple #[.agg #[.string p.1,.string p.2],.bool true]) ∧ Below w.heap.size w w':=by
 have BW:=aj w (bj ⟨#[]⟩ ⟨#[]⟩);have hl:=h.pt.1;have hql:=ax hp;obtain ⟨tb,toff,hta,hat⟩:=h.pt.2.resolve_left ae;obtain ⟨c0,c1⟩:=hat q p hp;have d0:=ag BW h.m0;have e0:=ag BW c0;have e1:=ag BW c1;rw [hta] at d0;have g1 : (q : Int) < (g.m.tn : Int):=ae;have HB:=hid (show Below w.heap.size w ((w.alloc (bj p.1 p.2)).alloc (aB p.1 p.2)) from (aj _ _).trans ((aj _ _).mono (aj _ _).size));clear h BW hat hta c0 c1 hp hl;generalize g.m.tn = tn at *;generalize g.m.tc = tc at *;generalize g.J = J at *;obtain ⟨P,R⟩:=p;dsimp only at *
 go_enter Tryz.func256,Tryz.ntmps256
 go_wp2_with fail;refine bodyPost_ret (v:=.tuple #[.agg #[.string P,.string R],.bool true]) ?_ rfl ⟨rfl,?_⟩
 ·exact cZ
 ·exact HB.out
end
structure Rg where
 J : Nat
 cb : Nat
 coff : Nat
 cc : Nat
 EN : Nat
 EL : Nat
 OW : Nat
 ec : Nat
 lc : Nat
 oc : Nat
 sb : Nat
 soff : Nat
 sc : Nat
 N : Nat
 m : MM
 f : Nat
 R : ByteArray
 xs : List Inx
 sh : Nat → ByteArray
structure Rw (g : Rg) (w : World) : Prop where
 m0 : w.cell? ⟨g.J,0,none⟩ = some (.slice g.m.ta g.m.tn g.m.tc)
 m1 : w.cell? ⟨g.J,1,none⟩ = some (.slice g.m.ha g.m.hn g.m.hc)
 m2 : w.cell? ⟨g.J,2,none⟩ = some (.slice g.m.ga g.m.gn g.m.gc)
 m5 : w.cell? ⟨g.J,5,none⟩ = some (.slice g.m.fa g.m.fn g.m.fc)
 f : w.cell? ⟨g.J,8,none⟩ = some (.int .i64 g.f)
 c : w.cell? ⟨g.J,9,none⟩ = some (.slice (some ⟨g.cb,g.coff,none⟩) g.N g.cc)
 en : w.cell? ⟨g.J,10,none⟩ = some (.slice (some ⟨g.EN,0,none⟩) g.N g.ec)
 el : w.cell? ⟨g.J,11,none⟩ = some (.slice (some ⟨g.EL,0,none⟩) g.N g.lc)
 ow : w.cell? ⟨g.J,12,none⟩ = some (.slice (some ⟨g.OW,0,none⟩) g.N g.oc)
 s : w.cell? ⟨g.J,13,none⟩ = some (.slice (some ⟨g.sb,g.soff,none⟩) g.N g.sc)
 cod : Cod w g.cb g.coff g.N g.xs
 enc : ∀ j,j < g.N → w.cell? ⟨g.EN,j,none⟩ = some (.int .i64 (enF (opF g.xs) g.N j))
 elc : ∀ j,j < g.N → w.cell? ⟨g.EL,j,none⟩ = some (.int .i64 (elF (opF g.xs) g.N j))
 owc : ∀ j,j < g.N → w.cell? ⟨g.OW,j,none⟩ = some (.int .i64 (owF (opF g.xs) g.N j))
 shs : ∀ j,j < g.N → w.cell? ⟨g.sb,g.soff + j,none⟩ = some (.string (g.sh j))
 pt : eA w g.m.ta g.m.tn g.m.types
 ph : iN w g.m.ha g.m.hn g.m.hosts
 pg : jf w g.m.ga g.m.gn g.m.globals
 pf : i7 w g.m.fa g.m.fn g.m.fns
 ft : ∃ (y : _) (t : Nat) (P : ByteArray),g.m.fns[g.f]? = some y ∧ y.1 = t ∧ g.m.types[t]? = some (P,g.R)
theorem Rw.later {g : Rg} {w w' : World} (h : Rw g w) (hb : Below w.heap.size w w') : Rw g w':=by
 have hk : Kept (fun _ => False) w w':=az hb
 exact ⟨ag hb h.m0,ag hb h.m1,ag hb h.m2,ag hb h.m5,ag hb h.f,ag hb h.c,ag hb h.en,ag hb h.el,ag hb h.ow,ag hb h.s,
  h.cod.later hb (Nat.le_refl _),fun j hj => ag hb (h.enc j hj),fun j hj => ag hb (h.elc j hj),fun j hj => ag hb (h.owc j hj),fun j hj => ag hb (h.shs j hj),
  h.pt.kept hk (fun _ _ _ _ => id),h.ph.kept hk (fun _ _ _ _ => id),h.pg.kept hk (fun _ _ _ _ => id),h.pf.kept hk (fun _ _ _ _ => id),h.ft⟩
theorem eJ {w W : World} {b i j : Nat} {u v : Value} (h : W.cell? ⟨b,i,none⟩ = some v) (hb : b < w.heap.size) : (W.setCell ⟨w.heap.size,j,none⟩ u).cell? ⟨b,i,none⟩ = some v :=
 (World.cell?_setCell_other _ _ _ _ (fun e => rK)).trans h
abbrev rsS (J fb fo tb tof : Nat) (tv fv iv nv sv : Value) (w : World) (W : World) : Prop :=
 W.cell? ⟨J,0,none⟩ = some tv ∧ W.cell? ⟨J,5,none⟩ = some fv ∧ W.cell? ⟨J,8,none⟩ = some iv ∧ W.cell? ⟨fb,fo,none⟩ = some nv ∧ W.cell? ⟨tb,tof,none⟩ = some sv ∧ Below w.heap.size w W
theorem rsS.later {J fb fo tb tof : Nat} {tv fv iv nv sv : Value} {w W W' : World} (h : rsS J fb fo tb tof tv fv iv nv sv w W) (hb : Below W.heap.size W W') : rsS J fb fo tb tof tv fv iv nv sv w W' :=
 ⟨ag hb h.1,ag hb h.2.1,ag hb h.2.2.1,ag hb h.2.2.2.1,ag hb h.2.2.2.2.1,h.2.2.2.2.2.trans (hb.mono h.2.2.2.2.2.size)⟩
theorem rsS.put {J fb fo tb tof : Nat} {tv fv iv nv sv : Value} {w W : World} {j : Nat} {u : Value} (h : rsS J fb fo tb tof tv fv iv nv sv w W) (hJ : J < w.heap.size) (hf : fb < w.heap.size) (ht : tb < w.heap.size) : rsS J fb fo tb tof tv fv iv nv sv w (W.setCell ⟨w.heap.size,j,none⟩ u) :=
 ⟨eJ h.1 hJ,eJ h.2.1 hJ,eJ h.2.2.1 hJ,eJ h.2.2.2.1 hf,eJ h.2.2.2.2.1 ht,bN h.2.2.2.2.2 (Nat.le_refl _) h.2.2.2.2.2.size⟩
section
variable {g : Rg} {w : World}
theorem Gk (h : Rw g w) (hN : g.N ≤ 2048) {p : Int} (hp : (g.N : Int) ≤ p) (t : ByteArray) :
  Calls Tryz.prog 157 #[.pointer (some ⟨g.J,0,none⟩),.int .i64 p,.string t] w fun e w' => e = .returned (.bool false) ∧ w' = w:=by
 have s0:=h.s
 have g0 : decide (p < (g.N : Int)) = false:=by simpa using hp
 clear h;generalize g.N = N at *;generalize g.J = J at *;generalize g.sb = sb at *;generalize g.soff = soff at *;generalize g.sc = sc at *;exact Ec
theorem AH (h : Rw g w) (hN : g.N ≤ 2048) {p : Nat} (hp : p < g.N) (t : ByteArray) :
  Calls Tryz.prog 157 #[.pointer (some ⟨g.J,0,none⟩),.int .i64 p,.string t] w fun e w' => e = .returned (.bool ((g.sh p).toList == t.toList)) ∧ w' = w:=by
 have s0:=h.s;have s1:=h.shs p hp;have g0 : decide ((p : Int) < (g.N : Int)) = true:=aG;have g1 : (p : Int) < (g.N : Int):=ae;clear h;generalize g.N = N at *;generalize g.J = J at *;generalize g.sb = sb at *;generalize g.soff = soff at *;generalize g.sc = sc at *;generalize g.sh p = S at *;exact Ec
theorem ni (h : Rw g w) : Calls Tryz.prog 104 #[.pointer (some ⟨g.J,0,none⟩),.int .i64 (-1)] w fun e w' => e = .returned (.tuple #[.agg #[.string ⟨#[]⟩,.string g.R],.bool true]) ∧ Below w.heap.size w w':=by
 have BN:=aj w (aB ⟨#[]⟩ ⟨#[]⟩);have b0:=heap_alloc_new w (aB ⟨#[]⟩ ⟨#[]⟩);obtain ⟨y,t,P,hy,ht,hP⟩:=h.ft;have hfl0:=h.pf.1;have htl:=h.pt.1;have hf:=ax hy;have htn:=ax hP;obtain ⟨fb,fo,hfa,hfc⟩:=h.pf.2.resolve_left ae;obtain ⟨tb,tof,hta,htc⟩:=h.pt.2.resolve_left ae;have c0:=ag BN (hfc _ _ hy).1;have c1:=ag BN (htc _ _ hP).2;have d0:=ag BN h.m0;have d5:=ag BN h.m5;have d8:=ag BN h.f;rw [hta] at d0;rw [hfa] at d5;rw [ht] at c0;have e0 : (0 : Int) ≤ (g.f : Int):=ae;have e1 : (g.f : Int) < (g.m.fn : Int):=ae;have e2 : (0 : Int) ≤ (t : Int):=ae;have e3 : (t : Int) < (g.m.tn : Int):=ae;have HB:=hid BN;have y0 : (w.alloc (aB ⟨#[]⟩ ⟨#[]⟩)).frozen? ⟨w.heap.size,0,none⟩ = false:=free_at b0;have y1 : (w.alloc (aB ⟨#[]⟩ ⟨#[]⟩)).frozen? ⟨w.heap.size,1,none⟩ = false:=free_at b0;have x0 : (w.alloc (aB ⟨#[]⟩ ⟨#[]⟩)).cell? ⟨w.heap.size,0,none⟩ = some (.string ⟨#[]⟩):=ai b0;have x1 : (w.alloc (aB ⟨#[]⟩ ⟨#[]⟩)).cell? ⟨w.heap.size,1,none⟩ = some (.string ⟨#[]⟩):=ai b0;have hJl : g.J < w.heap.size:=block_lt_of_cell h.m0;have hfl : fb < w.heap.size:=block_lt_of_cell (hfc _ _ hy).1;have hbl : tb < w.heap.size:=block_lt_of_cell (htc _ _ hP).2;clear h BN hfc htc hta hfa hy ht hP b0 hfl0 htl hf htn;generalize g.J = J at *;generalize g.R = R at *;generalize g.f = f at *;generalize g.m.ta = ta at *;generalize g.m.tn = tn at *;generalize g.m.tc = tc at *;generalize g.m.fn = fn at *;generalize g.m.fc = fc at *
 go_enter Tryz.func104,Tryz.ntmps104
 go_wp2_with fail;generalize w.alloc (aB ⟨#[]⟩ ⟨#[]⟩) = W0 at *
 go_region_held3 (rsS J fb (fo + f * 3) tb (tof + t * 2 + 1) (.slice (some ⟨tb,tof,none⟩) tn tc) (.slice (some ⟨fb,fo,none⟩) fn fc) (.int .i64 f) (.int .i64 t) (.string R) w)
  (first | assumption | exact rsS.put (rsS.put cU hJl hfl hbl) hJl hfl hbl | exact (rsS.put (rsS.put cU hJl hfl hbl) hJl hfl hbl).later (below_drewN _ 1) | exact ⟨d0,d5,d8,c0,c1,HB.out.drew⟩)
  (fail)
 go_wp2_with fail;refine bodyPost_ret (v:=.tuple #[.agg #[.string ⟨#[]⟩,.string R],.bool true]) ?_ rfl ⟨rfl,(rsS.put (rsS.put (show rsS J fb (fo + f * 3) tb (tof + t * 2 + 1) _ _ _ _ _ w W0 from ⟨d0,d5,d8,c0,c1,HB.out⟩) hJl hfl hbl) hJl hfl hbl).2.2.2.2.2.drew⟩;exact cZ
theorem qq {w W : World} {u v : Value} (h : Below w.heap.size w W) : Below w.heap.size w ((W.setCell ⟨w.heap.size,0,none⟩ u).setCell ⟨w.heap.size,1,none⟩ v) :=
 bN (bN h (Nat.le_refl _) h.size) (Nat.le_refl _) (bN h (Nat.le_refl _) h.size).size
abbrev ruS (J cb co tb tof : Nat) (tv cv : Value) (a : Int) (P R : ByteArray) (w : World) (W : World) : Prop :=
 W.cell? ⟨J,0,none⟩ = some tv ∧ W.cell? ⟨J,9,none⟩ = some cv ∧ W.cell? ⟨cb,co,none⟩ = some (.int .i64 a) ∧ W.cell? ⟨tb,tof,none⟩ = some (.string P) ∧ W.cell? ⟨tb,tof + 1,none⟩ = some (.string R) ∧ Below w.heap.size w W
theorem ruS.put {J cb co tb tof : Nat} {tv cv : Value} {a : Int} {P R : ByteArray} {w W : World} {j : Nat} {u : Value} (h : ruS J cb co tb tof tv cv a P R w W) (hJ : J < w.heap.size) (hc : cb < w.heap.size) (ht : tb < w.heap.size) : ruS J cb co tb tof tv cv a P R w (W.setCell ⟨w.heap.size,j,none⟩ u) :=
 ⟨eJ h.1 hJ,eJ h.2.1 hJ,eJ h.2.2.1 hc,eJ h.2.2.2.1 ht,eJ h.2.2.2.2.1 ht,bN h.2.2.2.2.2 (Nat.le_refl _) h.2.2.2.2.2.size⟩
theorem ruS.later {J cb co tb tof : Nat} {tv cv : Value} {a : Int} {P R : ByteArray} {w W W' : World} (h : ruS J cb co tb tof tv cv a P R w W) (hb : Below W.heap.size W W') : ruS J cb co tb tof tv cv a P R w W' :=
 ⟨ag hb h.1,ag hb h.2.1,ag hb h.2.2.1,ag hb h.2.2.2.1,ag hb h.2.2.2.2.1,h.2.2.2.2.2.trans (hb.mono h.2.2.2.2.2.size)⟩
theorem qc (h : Rw g w) (hN : g.N ≤ 2048) (hT : g.m.tn ≤ 1000000) {t : Nat} (ht : t < g.N) (ha : (g.xs.getD t dx).a < 0 ∨ (g.m.tn : Int) ≤ (g.xs.getD t dx).a) :
  Calls Tryz.prog 104 #[.pointer (some ⟨g.J,0,none⟩),.int .i64 t] w fun e w' => e = .returned (.tuple #[.agg #[.string ⟨#[]⟩,.string ⟨#[]⟩],.bool false]) ∧ Below w.heap.size w w':=by
 have BW:=aj w (aB ⟨#[]⟩ ⟨#[]⟩);have b0:=heap_alloc_new w (aB ⟨#[]⟩ ⟨#[]⟩);have hJl : g.J < w.heap.size:=block_lt_of_cell h.m0;have hcl : g.cb < w.heap.size:=block_lt_of_cell (h.cod.op ht);have d0:=ag BW h.m0;have d1:=ag BW h.c;have d2:=ag BW (h.cod.num ht);have y0 : (w.alloc (aB ⟨#[]⟩ ⟨#[]⟩)).cell? ⟨w.heap.size,0,none⟩ = some (.string ⟨#[]⟩):=ai b0;have y1 : (w.alloc (aB ⟨#[]⟩ ⟨#[]⟩)).cell? ⟨w.heap.size,1,none⟩ = some (.string ⟨#[]⟩):=ai b0;have z0 : (w.alloc (aB ⟨#[]⟩ ⟨#[]⟩)).frozen? ⟨w.heap.size,0,none⟩ = false:=free_at b0;have z1 : (w.alloc (aB ⟨#[]⟩ ⟨#[]⟩)).frozen? ⟨w.heap.size,1,none⟩ = false:=free_at b0;have HB:=hid BW;have g0 : decide ((t : Int) < 0) = false:=ak;have g1 : (t : Int) < (g.N : Int):=ae;clear h b0 BW;generalize g.m.ta = ta at *;generalize g.m.tn = tn at *;generalize g.m.tc = tc at *;generalize (g.xs.getD t dx).a = a at *;generalize g.J = J at *;generalize g.cb = cb at *;generalize g.coff = coff at *;generalize g.cc = cc at *;generalize g.N = N at *
 go_enter Tryz.func104,Tryz.ntmps104
 go_wp2_with fail;generalize w.alloc (aB ⟨#[]⟩ ⟨#[]⟩) = W0 at *
 by_cases hn : a < 0
 ·have g2 : decide (a < 0) = true:=jT;exact JI
 ·have g2 : decide (a < 0) = false:=jT;have g3 : decide ((tn : Int) ≤ a) = true:=aG;exact JI
theorem po (h : Rw g w) (hN : g.N ≤ 2048) (hT : g.m.tn ≤ 1000000) {t q : Nat} {p : Sg} (ht : t < g.N) (ha : (g.xs.getD t dx).a = q) (hq : g.m.types[q]? = some p) :
  Calls Tryz.prog 104 #[.pointer (some ⟨g.J,0,none⟩),.int .i64 t] w fun e w' => e = .returned (.tuple #[.agg #[.string p.1,.string p.2],.bool true]) ∧ Below w.heap.size w w':=by
 have BW:=aj w (aB ⟨#[]⟩ ⟨#[]⟩);have b0:=heap_alloc_new w (aB ⟨#[]⟩ ⟨#[]⟩);have htl:=h.pt.1;have hqn:=ax hq;obtain ⟨tb,tof,hta,htc⟩:=h.pt.2.resolve_left ae;have c0:=ag BW (htc _ _ hq).1;have c1:=ag BW (htc _ _ hq).2;have hJl : g.J < w.heap.size:=block_lt_of_cell h.m0;have hcl : g.cb < w.heap.size:=block_lt_of_cell (h.cod.op ht);have hbl : tb < w.heap.size:=block_lt_of_cell (htc _ _ hq).1;have d0:=ag BW h.m0;have d1:=ag BW h.c;have d2:=ag BW (h.cod.num ht);rw [ha] at d2;rw [hta] at d0;have y0 : (w.alloc (aB ⟨#[]⟩ ⟨#[]⟩)).cell? ⟨w.heap.size,0,none⟩ = some (.string ⟨#[]⟩):=ai b0;have y1 : (w.alloc (aB ⟨#[]⟩ ⟨#[]⟩)).cell? ⟨w.heap.size,1,none⟩ = some (.string ⟨#[]⟩):=ai b0;have z0 : (w.alloc (aB ⟨#[]⟩ ⟨#[]⟩)).frozen? ⟨w.heap.size,0,none⟩ = false:=free_at b0;have z1 : (w.alloc (aB ⟨#[]⟩ ⟨#[]⟩)).frozen? ⟨w.heap.size,1,none⟩ = false:=free_at b0;have HB:=hid BW;have g0 : decide ((t : Int) < 0) = false:=ak;have g1 : (t : Int) < (g.N : Int):=ae;have g2 : decide ((q : Int) < 0) = false:=ak;have g4 : (q : Int) < (g.m.tn : Int):=ae;have g3 : decide ((g.m.tn : Int) ≤ (q : Int)) = false:=aG;clear h b0 BW htc hta ha hq htl hqn;generalize g.m.tn = tn at *;generalize g.m.tc = tc at *;generalize g.J = J at *;generalize g.cb = cb at *;generalize g.coff = coff at *;generalize g.cc = cc at *;generalize g.N = N at *;obtain ⟨P,R⟩:=p;dsimp only at c0 c1 ⊢
 go_enter Tryz.func104,Tryz.ntmps104
 go_wp2_with fail;generalize w.alloc (aB ⟨#[]⟩ ⟨#[]⟩) = W0 at *
 go_quiet (fail)
 go_wp2_with fail;have HQ:=hid ((below_drewN W0 nq).mono HB.out.size);have k0:=ag (below_drewN W0 nq) d0;have k1:=ag (below_drewN W0 nq) d1;have k2:=ag (below_drewN W0 nq) d2;have k3:=ag (below_drewN W0 nq) c0;have k4:=ag (below_drewN W0 nq) c1;have y0':=ag (below_drewN W0 nq) y0;have y1':=ag (below_drewN W0 nq) y1;have z0':=dZ (below_drewN W0 nq) y0 z0;have z1':=dZ (below_drewN W0 nq) y1 z1;clear d0 d1 d2 c0 c1 y0 y1 z0 z1;generalize W0.drewN nq = W1 at *
 go_region_held3 (ruS J cb (coff + t * 3 + 1) tb (tof + q * 2) (.slice (some ⟨tb,tof,none⟩) tn tc) (.slice (some ⟨cb,coff,none⟩) N cc) q P R w)
  (first | assumption | exact ruS.put (ruS.put cU hJl hcl hbl) hJl hcl hbl | exact (ruS.put (ruS.put cU hJl hcl hbl) hJl hcl hbl).later (below_drewN _ 1) | exact ⟨k0,k1,k2,k3,k4,(HB.out.trans HQ.out).drew⟩)
  (fail)
 go_wp2_with fail;refine bodyPost_ret (v:=.tuple #[.agg #[.string P,.string R],.bool true]) ?_ rfl ⟨rfl,(qq (HB.out.trans HQ.out)).drew⟩;exact cZ
end
abbrev wdV (c : Int) : ByteArray:=(ofV c).1.2.1
theorem JP : ((List.range 256).all fun k => ((wdV (k : Int)).toList == [108,111,111,112]) == decide (k = 3)) = true:=aw
theorem FH {c : Int} (h0 : 0 ≤ c) (h1 : c ≤ 255) : ((wdV c).toList == [108,111,111,112]) = decide (c = 3):=by
 have h:=List.all_eq_true.1 JP c.toNat oK
 rw [show ((c.toNat : Nat) : Int) = c by omega,beq_iff_eq] at h
 rw [h]
 by_cases hc : c = 3
 ·subst hc; rfl
 ·rw [decide_eq_false hc,decide_eq_false ae]
def ltV (m : MM) (R : ByteArray) (xs : List Inx) (i : Nat) (a : Int) : ByteArray × Bool :=
 (if (dH (opF xs) i a).1 ≠ -1 ∧ opF xs (dH (opF xs) i a).1.toNat = 3 then (bu m R xs (dH (opF xs) i a).1).1.1 else (bu m R xs (dH (opF xs) i a).1).1.2,(dH (opF xs) i a).2)
def bI (f : Int → ByteArray × Bool) : Bool → ByteArray → List Int → ByteArray × Bool
 | _,c,[] => (c,true)
 | later,c,z :: l => if (f z).2 = false then (⟨#[]⟩,false) else if later = true ∧ ((f z).1.toList == c.toList) = false then (⟨#[]⟩,false) else bI f true (f z).1 l
theorem Lz {O : Nat → Int} {i : Nat} (a : Int) : (dH O i a).1 = -1 ∨ ∃ t : Nat,(dH O i a).1 = t ∧ t < i:=by
 have key : ∀ k,k ≤ (stk O i).length → (dG O i).getD k 0 = -1 ∨ ∃ t : Nat,(dG O i).getD k 0 = t ∧ t < i:=fun k hk => by
  rcases Nat.lt_or_ge k (stk O i).length with h | h
  ·obtain ⟨t,h1,h2,_⟩:=xb (O:=O) h;exact .inr ⟨t,h1,h2⟩
  ·have : k = (stk O i).length:=ae;subst this;exact .inl (kM O i)
 unfold dH
 split
 ·have h0:=key 0 (Nat.zero_le _);rw [← mP O i 0 (Nat.zero_le _)] at h0;exact h0
 ·split
  ·exact key _ ae
  ·exact .inl rfl
section
variable {g : Jg} {w : World}
theorem ol (h : Jw g w) (hN : g.N ≤ 2048) (hT : g.m.tn ≤ 1000000) {i : Nat} (hi : i < g.N) {la : Option Addr} {ln lc : Nat} {l : List Int} (hl : km w la ln lc l) (hln : ln ≤ 100000) :
  Calls Tryz.prog 216 #[.pointer (some ⟨g.J,0,none⟩),.int .i64 i,.slice la ln lc] w fun e w' => e = .returned (.tuple #[.string (bI (ltV g.m g.R g.xs i) false ⟨#[]⟩ l).1,.bool (bI (ltV g.m g.R g.xs i) false ⟨#[]⟩ l).2]) ∧ Below w.heap.size w w':=by
 have HJ:=hid h;have HL:=hid hl;have hc:=hl.2.2.2.2;clear h hl
 go_enter Tryz.func216,Tryz.ntmps216
 go_wp2_with fail
 go_loopw [8,18] (fun co ix wr => ∃ (k : Nat) (c : ByteArray),k ≤ ln ∧ ix = .int .i64 k ∧ co = .string c ∧ bI (ltV g.m g.R g.xs i) false ⟨#[]⟩ l = bI (ltV g.m g.R g.xs i) (decide (0 < k)) c (l.drop k) ∧ Below w.heap.size w wr) (fun _ ix _ => ln - (intOf ix).toNat)
 case atStart => exact ⟨0,⟨#[]⟩,Nat.zero_le _,rfl,rfl,rfl,Below.refl _ _⟩
 case round =>
  obtain ⟨k,c,hk,rfl,rfl,hin,hbr⟩:=hrel;have HIN:=hid hin;have HBR:=hid hbr
  by_cases hkl : k < ln
  ·obtain ⟨lb,loff,rfl,hcell⟩:=hc.resolve_left ae;have v0:=ag hbr (hcell k hkl);have hkl2 : (k : Int) < (ln : Int):=ae;have hll:=HL.out.1
   have hdr : l.drop k = l.getD k 0 :: l.drop (k + 1):=by
    exact Cw
   have hzr:=HL.out.2.2.2.1 (l.getD k 0) Cc;generalize l.getD k 0 = z at *;have HDR:=hid hdr;have H63:=hid (Hw (HJ.out.later hbr) hN hi hzr.1 hzr.2);clear hin hcell hdr hll;go_wp2_with fail;refine H63.out.mono ?_;rintro e w1 ⟨rfl,hw1⟩;have hw1:=hw1.symm;subst hw1;clear H63 v0;have hop:=Lz (O:=opF g.xs) (i:=i) z;have HLT:=hid (show ltV g.m g.R g.xs i z = (if (dH (opF g.xs) i z).1 ≠ -1 ∧ opF g.xs (dH (opF g.xs) i z).1.toNat = 3 then (bu g.m g.R g.xs (dH (opF g.xs) i z).1).1.1 else (bu g.m g.R g.xs (dH (opF g.xs) i z).1).1.2,(dH (opF g.xs) i z).2) from rfl);generalize dH (opF g.xs) i z = lb2 at *;obtain ⟨op,fd⟩:=lb2;dsimp only at hop HLT ⊢
   cases fd with
   | false =>
    have HEND:=hid (show bI (ltV g.m g.R g.xs i) (decide (0 < k)) c (z :: l.drop (k + 1)) = (⟨#[]⟩,false) by rw [bI,HLT.out]; simp)
    clear HLT hop;go_wp2_with fail;go_ret2;exact ⟨rL,HBR.out⟩
   | true =>
    have H14:=hid (qG (HJ.out.later hbr) hN hT (show op = -1 ∨ ∃ t : Nat,op = t ∧ t < g.N from hop.imp id fun ⟨t,h1,h2⟩ => ⟨t,h1,ae⟩))
    go_wp2_with fail;refine H14.out.mono ?_;rintro e w2 ⟨rfl,hb2⟩;generalize bu g.m g.R g.xs op = sg at *;obtain ⟨⟨Pa,Re⟩,ok⟩:=sg;dsimp only at HLT ⊢;have B2:=HBR.out.trans (hb2.mono HBR.out.size);have HB3:=hid (B2.trans ((aj w2 (aB Pa Re)).mono B2.size));have hJ3:=HJ.out.later HB3.out;have r0:=hJ3.rw;clear H14 hb2 B2 hbr
    rcases hop with rfl | ⟨t,rfl,hti⟩
    ·rw [if_neg ak] at HLT;clear hJ3 r0;exact JD
    ·have g1 : ((t : Int) != (-1 : Int)) = true:=ak;have htN : (t : Int) < (g.N : Int):=ae;have r1 : (w2.alloc (aB Pa Re)).cell? ⟨g.RB,t * 6 + 1,none⟩ = some (.string (wdV (opF g.xs t))):=hJ3.rows t ae 1 ae
     have hcr:=hJ3.cod.range (show t < g.N by omega)
     have hw:=FH hcr.1 hcr.2;rw [Int.toNat_natCast] at HLT;clear hJ3 hcr;generalize wdV (opF g.xs t) = wd at *
     by_cases h3 : opF g.xs t = 3
     ·rw [decide_eq_true h3] at hw;rw [if_pos ⟨ae,h3⟩] at HLT;clear h3;have hfz : ltV g.m g.R g.xs i z = (Pa,true):=HLT.out
      by_cases hk0 : 0 < k
      ·have d1 : decide ((0 : Int) < (k : Int)) = true:=aG
       cases hq : (Pa.toList == c.toList) with
       | true =>
        have hq2 : (Pa.toList != c.toList) = false:=gI
        have HEND:=hid (show bI (ltV g.m g.R g.xs i) (decide (0 < k)) c (z :: l.drop (k + 1)) = bI (ltV g.m g.R g.xs i) (decide (0 < k + 1)) Pa (l.drop (k + 1)) by rw [bI,hfz]; simp [hq])
        exact IP
       | false =>
        have hq2 : (Pa.toList != c.toList) = true:=gI;exact CN
      ·have d1 : decide ((0 : Int) < (k : Int)) = false:=aG
       have HEND:=hid (show bI (ltV g.m g.R g.xs i) (decide (0 < k)) c (z :: l.drop (k + 1)) = bI (ltV g.m g.R g.xs i) (decide (0 < k + 1)) Pa (l.drop (k + 1)) by rw [bI,hfz]; simp [hk0])
       exact IP
     ·rw [decide_eq_false h3] at hw;rw [if_neg ae] at HLT;clear h3;exact JD
  ·have hkl2 : ¬ (k : Int) < (ln : Int):=ae
   have HEND:=hid (show bI (ltV g.m g.R g.xs i) (decide (0 < k)) c (l.drop k) = (c,true) by rw [List.drop_eq_nil_of_le (by have:=HL.out.1; omega)]; rfl)
   clear hin hbr;go_wp2_with fail;go_ret2
   exact ⟨by rw [HIN.out,HEND.out]; rfl,HBR.out⟩
end
def fG (sh : Nat → ByteArray) (l : List (Nat × ByteArray)) : Bool:=l.all fun p => (sh p.1).toList == p.2.toList
section
variable {g : Jg} {w : World}
theorem vJ (h : Jw g w) (hN : g.N ≤ 2048) {pb poff n cap : Nat} {l : List (Nat × ByteArray)} (hl : l.length = n) (hn : n ≤ 1000000) (hc : ∀ (j : Nat) p,l[j]? = some p → w.cell? ⟨pb,poff + j * 2,none⟩ = some (.int .i64 (p.1 : Nat)) ∧ w.cell? ⟨pb,poff + j * 2 + 1,none⟩ = some (.string p.2) ∧ p.1 < g.N) :
  Calls Tryz.prog 93 #[.pointer (some ⟨g.J,0,none⟩),.slice (some ⟨pb,poff,none⟩) n cap] w fun e w' => e = .returned (.bool (fG g.sh l)) ∧ Below w.heap.size w w':=by
 have HJ:=hid h;have HC:=hid hc;have HLL:=hid hl;clear h hc hl
 go_enter Tryz.func93,Tryz.ntmps93
 go_wp2_with fail
 go_loopw [9] (fun ix wr => ∃ k : Nat,k ≤ n ∧ ix = .int .i64 k ∧ fG g.sh l = fG g.sh (l.drop k) ∧ Below w.heap.size w wr) (fun ix _ => n - (intOf ix).toNat)
 case atStart => exact ⟨0,Nat.zero_le _,rfl,rfl,Below.refl _ _⟩
 case round =>
  obtain ⟨k,hk,rfl,hin,hbr⟩:=hrel;have HIN:=hid hin;have HBR:=hid hbr;clear hin
  by_cases hkl : k < n
  ·have hkl2 : (k : Int) < (n : Int):=ae;obtain ⟨p,hp⟩ : ∃ p,l[k]? = some p:=⟨_,aN uY⟩;obtain ⟨c0,c1,hpN⟩:=HC.out k p hp
   have HDR:=hid (show fG g.sh (l.drop k) = (((g.sh p.1).toList == p.2.toList) && fG g.sh (l.drop (k + 1))) by
    rw [List.drop_eq_getElem_cons uY]
    have : l[k]'(uY) = p:=by
     rw [aN uY] at hp;exact Option.some.inj hp
    rw [this]
    rfl)
   obtain ⟨pc,ss⟩:=p;dsimp only at *;have d0:=ag hbr c0;have d1:=ag hbr c1;have BN:=aj wr (gG (pc : Nat) ss);have hJ2:=HJ.out.later (hbr.trans (BN.mono hbr.size));have s0:=hJ2.s;have s1:=hJ2.shs pc hpN;have hpN2 : (pc : Int) < (g.N : Int):=ae;have HB2:=hid (hbr.trans (BN.mono hbr.size))
   have BQ:=hid (fun (q : Nat) => (below_drewN (wr.alloc (gG (pc : Nat) ss)) q).mono HB2.out.size)
   clear c0 c1 hJ2 BN hp hbr;generalize g.sh pc = sp at *
   cases hq : (sp.toList == ss.toList) with
   | true =>
    have hq2 : (sp.toList != ss.toList) = false:=gI;rw [hq] at HDR;go_wp2_with fail
    go_quiet (fail)
    go_wp2_with fail;exact ⟨⟨k + 1,ae,aX,HIN.out.trans HDR.out,HB2.out.trans (BQ.out _)⟩,aZ⟩
   | false =>
    have hq2 : (sp.toList != ss.toList) = true:=gI;rw [hq] at HDR;go_wp2_with fail
    go_quiet (fail)
    go_wp2_with fail;go_ret
    exact ⟨by rw [HIN.out,HDR.out]; rfl,HB2.out.trans (BQ.out _)⟩
  ·have hkl2 : ¬ (k : Int) < (n : Int):=ae
   have HE:=hid (show fG g.sh (l.drop k) = true by rw [List.drop_eq_nil_of_le (by rw [HLL.out]; omega)]; rfl)
   go_wp2_with fail;go_ret
   exact ⟨by rw [HIN.out,HE.out]; rfl,HBR.out⟩
theorem pu {wd : ByteArray} (hw : (wd.toList == [103,101,116]) = true ∨ ((wd.toList == [103,101,116]) = false ∧ (wd.toList == [103,103,101,116]) = true)) (c : Int) (hc : c = 119 ∨ c = 108) :
  Calls Tryz.prog 259 #[.string wd,.int .u8 c] w fun e w' => e = .returned (.agg #[.string ⟨#[]⟩,.string (ltr c)]) ∧ Below w.heap.size w w':=by
 rcases hw with h1 | ⟨h0,h1⟩ <;> rcases hc with rfl | rfl
 all_goals
  go_enter Tryz.func259,Tryz.ntmps259
  go_wp2_with fail;refine bodyPost_ret (v:=.agg #[.string ⟨#[]⟩,.string (ltr _)]) ?_ rfl ⟨rfl,aj _ _⟩;exact vP
theorem wS {wd : ByteArray} (h0 : (wd.toList == [103,101,116]) = false) (h1 : (wd.toList == [103,103,101,116]) = false) (h2 : (wd.toList == [116,101,101]) = true) (c : Int) (hc : c = 119 ∨ c = 108) :
  Calls Tryz.prog 259 #[.string wd,.int .u8 c] w fun e w' => e = .returned (.agg #[.string (ltr c),.string (ltr c)]) ∧ Below w.heap.size w w':=by
 rcases hc with rfl | rfl
 all_goals
  go_enter Tryz.func259,Tryz.ntmps259
  go_wp2_with fail;refine bodyPost_ret (v:=.agg #[.string (ltr _),.string (ltr _)]) ?_ rfl ⟨rfl,aj _ _⟩;exact vP
theorem pq {wd : ByteArray} (h0 : (wd.toList == [103,101,116]) = false) (h1 : (wd.toList == [103,103,101,116]) = false) (h2 : (wd.toList == [116,101,101]) = false) (c : Int) (hc : c = 119 ∨ c = 108) :
  Calls Tryz.prog 259 #[.string wd,.int .u8 c] w fun e w' => e = .returned (.agg #[.string (ltr c),.string ⟨#[]⟩]) ∧ Below w.heap.size w w':=by
 rcases hc with rfl | rfl
 all_goals
  go_enter Tryz.func259,Tryz.ntmps259
  go_wp2_with fail;refine bodyPost_ret (v:=.agg #[.string (ltr _),.string ⟨#[]⟩]) ?_ rfl ⟨rfl,aj _ _⟩;exact vP
end
end Go.Proofs.YtepnnenohjfkbaaGreatDoor

/-
  Texts Word Kinds Small Ref Of Ins Span.
-/
import Derived.Below
import Derived.BigQuiet
import Derived.Deep.QuietTactic
import Derived.Deep.RegionHeld3
import Derived.KernelRfl
import Derived.RangeFuncBox
import Derived.RowKit
import Derived.Test.YtheefojaplnnoaaGreatDoorProg
import Derived.WalkKit
import Derived.WalkLawsBesides
import Derived.WalkSpells
import Derived.Test.YtheefojaplnnoaaGreatDoorC00
import Derived.Test.YtheefojaplnnoaaGreatDoorC09
set_option linter.unusedVariables false
set_option maxRecDepth 100000
set_option maxHeartbeats 16000000
namespace Go.Proofs.YtheefojaplnnoaaGreatDoor
open Go.RowKit Go.Shelf
def ay (cs : List (Addr × Value)) (W : World) : Prop:=∀ p ∈ cs,W.cell? p.1 = some p.2 ∧ W.frozen? p.1 = false
theorem ay.grown {cs : List (Addr × Value)} {A B : World} {row : Option Nat} (h : ay cs A) (hg : A.grownBy B row) (hr : ∀ r,row = some r → ∃ o : Obj,A.heap[r]? = some o ∧ o.isCells = false) : ay cs B :=
 fun p hp => ⟨cell_kept (h p hp).1 hg hr,(frozen_kept (h p hp).1 hg hr).trans (h p hp).2⟩
theorem ay.turned {cs : List (Addr × Value)} {W : World} (h : ay cs W) {l : Nat} {o : Obj} (o' : Obj) (hl : W.heap[l]? = some o) (ho : o.isCells = false) : ay cs (W.putObj l o') :=
 h.grown (grownBy_putObj' W l o') (fun r e => by cases e; exact ⟨o,hl,ho⟩)
theorem ay.other {cs : List (Addr × Value)} {W : World} (h : ay cs W) (c : Addr) (v : Value) (hc : ∀ p ∈ cs,c ≠ p.1) : ay cs (W.setCell c v) :=
 fun p hp => ⟨(World.cell?_setCell_other _ _ _ _ (hc p hp)).trans (h p hp).1,(World.frozen?_setCell _ _ _ _).trans (h p hp).2⟩
theorem ay.cons {p : Addr × Value} {cs : List (Addr × Value)} {W : World} (h1 : W.cell? p.1 = some p.2) (h2 : W.frozen? p.1 = false) (h : ay cs W) : ay (p :: cs) W :=
 fun q hq => by
  rcases List.mem_cons.1 hq with rfl | hq
  ·exact ⟨h1,h2⟩
  ·exact h q hq
theorem ay.set {c : Addr} {u v : Value} {cs : List (Addr × Value)} {W : World} (h : ay ((c,u) :: cs) W) (hc : ∀ p ∈ cs,c ≠ p.1) : ay ((c,v) :: cs) (W.setCell c v):=by
 have h1:=h (c,u) ar
 refine ay.cons (World.cell?_setCell_same' _ _ _ (by rw [h1.1]; rfl)) ((World.frozen?_setCell _ _ _ _).trans h1.2) (ay.other (fun p hp => h p (by simp [hp])) _ _ hc)
theorem ay.set2 {c d : Addr} {u1 u2 v1 v2 : Value} {W : World} (h : ay [(c,u1),(d,u2)] W) (hc : c ≠ d) : ay [(c,v1),(d,v2)] ((W.setCell c v1).setCell d v2):=by
 have h1:=h (c,u1) ar;have h2:=h (d,u2) ar
 have k1 : ay [(d,u2)] (W.setCell c v1):=ay.other (ay.cons (cs:=[]) h2.1 h2.2 jv) _ _ (by simpa using hc)
 have k2 : ay [(c,v1)] (W.setCell c v1):=ay.set (ay.cons (cs:=[]) h1.1 h1.2 jv) ar
 have k3 : ay [(c,v1)] ((W.setCell c v1).setCell d v2):=ay.other k2 _ _ (by simpa using Ne.symm hc)
 have k4 : ay [(d,v2)] ((W.setCell c v1).setCell d v2):=ay.set k1 ar;exact ay.cons (k3 _ ar).1 (k3 _ ar).2 k4
theorem dE.other {ps : List Addr} (W : World) (c : Addr) (v : Value) (hc : ∀ p ∈ ps,c ≠ p) : dE ps W (W.setCell c v) :=
 fun p hp u hu => ⟨(World.cell?_setCell_other _ _ _ _ (hc p hp)).trans hu,World.frozen?_setCell _ _ _ _⟩
theorem og {fn : Func} {p : Tmp} {ty : TypeId} (h : fn.results = #[.cell p ty]) (tmps : Array Value) (P : Program) (w : World) :
  (results fn tmps).run P w = ((asAddr (tmps.getD p undef)).run P w).andThen fun a w₁ => (loadVar ty a).run P w₁:=by
 simp only [results,h]
 simp [Sem.run_bind,Result.andThen]
theorem jX {fn : Func} {p q : Tmp} {ty tz : TypeId} (h : fn.results = #[.cell p ty,.cell q tz]) (tmps : Array Value) (P : Program) (w : World) :
  (results fn tmps).run P w = ((asAddr (tmps.getD p undef)).run P w).andThen fun a w₁ => ((loadVar ty a).run P w₁).andThen fun v w₂ => ((asAddr (tmps.getD q undef)).run P w₂).andThen fun b w₃ => ((loadVar tz b).run P w₃).andThen fun u w₄ => .ok (.tuple #[v,u]) w₄:=by
 simp only [results,h]
 simp [Sem.run_bind,Result.andThen]
def kR (f op : Int) (a : ByteArray) : List ByteArray → ByteArray
 | [] => ⟨#[]⟩
 | p :: r => if f = op then a ++ p else kR (f + 1) op a r
theorem NP (f l op : Int) (a ws : ByteArray) (w : World) (h0 : 0 ≤ f) (hb : f + (cw ws).length ≤ 255) (hsz : ws.size ≤ 1099511627776) (ha : a.size ≤ 1099511627776) :
  Calls Tryz.prog 226 #[.agg #[.int .u8 f,.int .u8 l,.string a,.string ws],.int .u8 op] w fun e w' => e = .returned (.string (kR f op a (cw ws))) ∧ Below w.heap.size w w':=by
 obtain ⟨xs,hxs⟩ : ∃ xs,cw ws = xs:=⟨_,rfl⟩;have hlen:=si ws;rw [hxs] at hb hlen ⊢;obtain ⟨V,hV⟩ : ∃ V,kR f op a xs = V:=⟨_,rfl⟩;rw [hV];refine (callsIn_wide (n:=5)).1 ?_;refine callsIn_of_wp_marks Tryz.func226 rfl trivial ?_ rfl
 simp only [Tryz.ntmps226,List.size_toArray,List.length_cons,List.length_nil,Nat.reduceAdd,Nat.reduceSub,Array.replicate_succ,Array.replicate_zero,List.push_toArray,List.append_toArray,List.nil_append,List.cons_append]
 gi_wp2_with fail
 refine ⟨trivial,?_⟩;refine (callsIn_wide.2 (pH ws _)).mono ?_;rintro e w' ⟨rfl,rfl⟩
 gi_wp2_with fail
 simp only [Nat.add_assoc,Nat.reduceAdd]
 obtain ⟨W0,hW0⟩ : ∃ W0,(((((((w.alloc (nC f l a ws)).alloc (jb op)).alloc (cK ⟨#[]⟩)).alloc (jb f)).alloc (cK ws)).alloc (cK ⟨#[32]⟩)).alloc (bz 0)) = W0:=⟨_,rfl⟩;rw [hW0]
 have B0 : Below w.heap.size w W0:=by rw [← hW0]; exact (((((((Below.refl _ w).alloc ar _).alloc bM _).alloc bM _).alloc bM _).alloc bM _).alloc bM _).alloc bM _
 have z0 : W0.heap.size = w.heap.size + 7:=dP;have k2 : W0.cell? ⟨w.heap.size,2,none⟩ = some (.string a):=dP;have o1 : W0.cell? ⟨w.heap.size + 1,0,none⟩ = some (.int .u8 op):=dP;have r0 : W0.cell? ⟨w.heap.size + 2,0,none⟩ = some (.string ⟨#[]⟩):=dP;have rf : W0.frozen? ⟨w.heap.size + 2,0,none⟩ = false:=dP;have a0 : W0.cell? ⟨w.heap.size + 3,0,none⟩ = some (.int .u8 f):=dP;have af : W0.frozen? ⟨w.heap.size + 3,0,none⟩ = false:=dP;have c2 : W0.cell? ⟨w.heap.size + 4,0,none⟩ = some (.string ws):=dP;have f2 : W0.frozen? ⟨w.heap.size + 4,0,none⟩ = false:=dP;have c1 : W0.cell? ⟨w.heap.size + 5,0,none⟩ = some (.string ⟨#[32]⟩):=dP;have c3 : W0.cell? ⟨w.heap.size + 6,0,none⟩ = some (.int .i64 0):=dP;have kf : W0.frozen? ⟨w.heap.size,2,none⟩ = false:=dP;have of : W0.frozen? ⟨w.heap.size + 1,0,none⟩ = false:=dP;clear hW0;have HF:=Ac 4 (w.heap.size + 5) (w.heap.size + 4) (w.heap.size + 6) ae ae ws W0 c1 c2 f2 c3 hsz;rw [hxs] at HF
 refine om rfl aq (gf:=174) (lb:=#[.pointer (some ⟨w.heap.size + 5,0,none⟩),.pointer (some ⟨w.heap.size + 4,0,none⟩),.pointer (some ⟨w.heap.size + 6,0,none⟩)]) rfl trivial (enters_of Tryz.func174 ai rfl) (encs:=fun x : ByteArray => #[.string x]) (fun _ => rfl)
  HF
  (fun r W => ay [(⟨w.heap.size + 3,0,none⟩,.int .u8 (f + xs.length - r.length)),(⟨w.heap.size,2,none⟩,.string a),(⟨w.heap.size + 1,0,none⟩,.int .u8 op),(⟨w.heap.size + 2,0,none⟩,.string ⟨#[]⟩)] W ∧ Below w.heap.size w W ∧ r.length ≤ xs.length ∧ (∀ p ∈ r,p.size ≤ ws.size) ∧ kR (f + xs.length - r.length) op a r = V)
  (fun j W => j = .ret ∧ ay [(⟨w.heap.size + 2,0,none⟩,.string V)] W ∧ Below w.heap.size w W)
  ?own ?ownx ?cells ?start
  (fun x => { tmps:=#[.agg #[.int .u8 f,.int .u8 l,.string a,.string ws],.int .u8 op,.pointer (some ⟨w.heap.size,0,none⟩),.pointer (some ⟨w.heap.size + 1,0,none⟩),.pointer (some ⟨w.heap.size + 2,0,none⟩),.pointer (some ⟨w.heap.size + 3,0,none⟩),.string x,.pointer (some ⟨w.heap.size,0,none⟩),.int .u8 f,.pointer (some ⟨w.heap.size,3,none⟩),.string ws,
   .func (.func 174) #[] #[.pointer (some ⟨w.heap.size + 5,0,none⟩),.pointer (some ⟨w.heap.size + 4,0,none⟩),.pointer (some ⟨w.heap.size + 6,0,none⟩)],.string x,undef,undef,undef,undef,undef,undef,undef,undef,undef],defers:=[] }) ?assign ?body ?done ?stop
 case own =>
  exact G9
 case ownx =>
  exact Ew
 case cells =>
  exact fun r A v hs => ⟨hs.1.other _ _ ar,hs.2.1.setCell (p:=⟨w.heap.size + 4,0,none⟩) ar _,hs.2.2⟩
 case start =>
  refine ⟨?_,B0,Nat.le_refl _,hlen,by rw [← hV]; congr 1; omega⟩
  refine ay.cons (by simp only [a0]; congr 2; omega) af (ay.cons k2 kf (ay.cons o1 of (ay.cons r0 rf jv)))
 case assign =>
  exact uF
 case body =>
  rintro m x r W ⟨hc,hB,hr,hp,hv⟩;have hsem:=@Oper.semAt_some;have d1:=hc _ (List.mem_cons_self ..);have d2:=hc _ (List.mem_cons_of_mem _ (List.mem_cons_self ..));have d3:=hc _ (List.mem_cons_of_mem _ (List.mem_cons_of_mem _ (List.mem_cons_self ..)));have d4:=hc _ (List.mem_cons_of_mem _ (List.mem_cons_of_mem _ (List.mem_cons_of_mem _ (List.mem_cons_self ..))));obtain ⟨q,hq⟩ : ∃ q : Int,f + xs.length - (x :: r).length = q:=⟨_,rfl⟩;rw [hq] at hc d1 hv;have q0 : 0 ≤ q:=rO;have q1 : q + 1 ≤ 255:=rO
  have q2 : f + xs.length - r.length = q + 1:=by simp at hq; omega
  have hx : x.size ≤ ws.size:=hp x ar;have hax : ¬ (a.size + x.size > 9223372036854775807):=ae
  by_cases he : q = op
  ·subst he
   gi_wp2_with fail
   refine ⟨(KeepsOthers.setCell _ _ _).from _,rfl,?_,hB.setCell (p:=⟨w.heap.size + 2,0,none⟩) ar _⟩;rw [kR,if_pos rfl] at hv;rw [← hv];exact ay.set (ay.cons d4.1 d4.2 jv) ar
  ·gi_wp2_with fail
   rw [kR,if_neg he] at hv
   refine ⟨(KeepsOthers.setCell _ _ _).from _,?_,?_,hB.setCell (p:=⟨w.heap.size + 3,0,none⟩) ar _,by simp at hr; omega,fun p h => hp p (by simp [h]),hv⟩
   ·exact dE.other _ _ _ ar
   ·exact ay.set hc ar
 case done =>
  rintro D W hD ⟨hc,hB,_,_,hv⟩ hK;have d4:=hc _ (List.mem_cons_of_mem _ (List.mem_cons_of_mem _ (List.mem_cons_of_mem _ (List.mem_cons_self ..))));have d5:=d4.1;have d6:=d4.2
  gi_wp2_with fail
  have hK2:=(KeepsOthers.setCell W ⟨w.heap.size + 2,0,none⟩ (.string ⟨#[]⟩)).same _ _ hK rfl;refine ⟨ar,.inl ⟨_,_,rfl,run_takeDeferred hK2,?_⟩⟩;have hH:=(ay.set (v:=.string ⟨#[]⟩) (ay.cons (cs:=[]) d4.1 d4.2 jv) ar).turned (.deferred none) hK2 rfl;have e1:=(hH _ (List.mem_cons_self ..)).1;have hBB:=(hB.setCell (p:=⟨w.heap.size + 2,0,none⟩) ar (.string ⟨#[]⟩)).trans (belowK_b (w:=w) (Nat.le_refl _) _ D _ (.deferred none) ae hK2 rfl rfl);generalize World.putObj _ D (.deferred none) = W5 at e1 hBB ⊢;refine ⟨.string V,?_,rfl,hBB⟩;rw [og rfl];rw [← hv,kR];go_simp
 case stop =>
  rintro D j W hD ⟨rfl,hc,hB⟩ hK
  gi_wp2_with fail
  refine ⟨ar,.inl ⟨_,_,rfl,run_takeDeferred hK,?_⟩⟩;have e1:=((hc.turned (.deferred none) hK rfl) _ (List.mem_cons_self ..)).1;have hBB:=hB.trans (belowK_b (w:=w) (Nat.le_refl _) _ D _ (.deferred none) ae hK rfl rfl);generalize World.putObj _ D (.deferred none) = W5 at e1 hBB ⊢;refine ⟨.string V,?_,rfl,hBB⟩;rw [og rfl];go_simp
theorem JY (a b : ByteArray) : (a.toList == b.toList) = decide (a = b):=by
 rw [ByteArray.toList_eq,ByteArray.toList_eq]
 by_cases h : a = b
 ·simp [h]
 ·rw [decide_eq_false h,beq_eq_false_iff_ne]
  exact fun e => h (iK e)
open Go.RowKit
def kW0 : ByteArray:=⟨#[116,114,97,112,32,110,111,112,32,98,108,111,99,107,32,108,111,111,112,32,105,102,32,101,108,115,101,32,101,110,100,32,98,114,32,98,114,105,102,32,98,114,116,97,98,108,101,32,114,101,116,117,114,110,32,99,97,108,108,32,104,111,115,116]⟩
def kW1 : ByteArray:=⟨#[100,114,111,112,32,115,101,108,101,99,116,32,103,101,116,32,115,101,116,32,116,101,101,32,103,103,101,116,32,103,115,101,116]⟩
def kW2 : ByteArray:=⟨#[119,46,99,111,110,115,116,32,108,46,99,111,110,115,116]⟩
def kW3 : ByteArray:=⟨#[119,46,108,111,97,100,56,117,32,119,46,108,111,97,100,56,115,32,119,46,108,111,97,100,49,54,117,32,119,46,108,111,97,100,49,54,115,32,119,46,108,111,97,100,32,108,46,108,111,97,100,32,119,46,115,116,111,114,101,56,32,119,46,115,116,111,114,101,49,54,32,119,46,115,116,111,114,101,32,108,46,115,116,111,114,101,32,115,105,122,101,32,103,114,111,119]⟩
def kW4 : ByteArray:=⟨#[101,113,122,32,101,113,32,110,101,32,108,116,115,32,108,116,117,32,108,101,115,32,108,101,117,32,99,108,122,32,99,116,122,32,112,111,112,32,97,100,100,32,115,117,98,32,109,117,108,32,100,105,118,115,32,100,105,118,117,32,114,101,109,115,32,114,101,109,117,32,97,110,100,32,111,114,32,120,111,114,32,115,104,108,32,115,104,114,115,32,115,104,114,117,32,114,111,116,108,32,114,111,116,114]⟩
def kW5 : ByteArray:=⟨#[101,113,122,32,101,113,32,110,101,32,108,116,115,32,108,116,117,32,108,101,115,32,108,101,117,32,99,108,122,32,99,116,122,32,112,111,112,32,97,100,100,32,115,117,98,32,109,117,108,32,100,105,118,115,32,100,105,118,117,32,114,101,109,115,32,114,101,109,117,32,97,110,100,32,111,114,32,120,111,114,32,115,104,108,32,115,104,114,115,32,115,104,114,117,32,114,111,116,108,32,114,111,116,114]⟩
def kW6 : ByteArray:=⟨#[119,46,119,114,97,112,32,108,46,101,120,116,101,110,100,115,32,108,46,101,120,116,101,110,100,117,32,119,46,101,120,116,56,32,119,46,101,120,116,49,54,32,108,46,101,120,116,51,50]⟩
def kF : Nat → Int
 | 0 => 0
 | 1 => 16
 | 2 => 24
 | 3 => 32
 | 4 => 48
 | 5 => 80
 | _ => 112
def kL : Nat → Int
 | 0 => 12
 | 1 => 22
 | 2 => 25
 | 3 => 43
 | 4 => 72
 | 5 => 104
 | _ => 117
def kA : Nat → ByteArray
 | 0 => ⟨#[]⟩
 | 1 => ⟨#[]⟩
 | 2 => ⟨#[]⟩
 | 3 => ⟨#[]⟩
 | 4 => ⟨#[119,46]⟩
 | 5 => ⟨#[108,46]⟩
 | _ => ⟨#[]⟩
def kW : Nat → ByteArray
 | 0 => kW0
 | 1 => kW1
 | 2 => kW2
 | 3 => kW3
 | 4 => kW4
 | 5 => kW5
 | _ => kW6
def nV : List Value:=[.int .u8 0,.int .u8 12,.string ⟨#[]⟩,.string kW0,.int .u8 16,.int .u8 22,.string ⟨#[]⟩,.string kW1,.int .u8 24,.int .u8 25,.string ⟨#[]⟩,.string kW2,.int .u8 32,.int .u8 43,.string ⟨#[]⟩,.string kW3,.int .u8 48,.int .u8 72,.string ⟨#[119,46]⟩,.string kW4,.int .u8 80,.int .u8 104,.string ⟨#[108,46]⟩,.string kW5,.int .u8 112,.int .u8 117,.string ⟨#[]⟩,.string kW6]
def nZ : Value:=.agg nV.toArray
def aT (w : World) : Prop:=∀ j v,nV[j]? = some v → w.cell? ⟨0,j,none⟩ = some v
theorem aT.pos {w : World} (h : aT w) : 0 < w.heap.size:=World.block_lt_of_cell? w ⟨0,0,none⟩ (h 0 _ rfl)
theorem aT.later {n : Nat} {w w' : World} (h : aT w) (hb : Below n w w') (hn : 0 < n) : aT w' :=
 fun j v hj => (hb.cell (p:=⟨0,j,none⟩) hn).trans (h j v hj)
theorem C0 {w : World} (h : aT w) : (loadVar 288 ⟨0,0,none⟩).run Tryz.prog w = .ok nZ w:=by
 have hl : (loadCells ⟨0,0,none⟩ 28).run Tryz.prog w = .ok nV.toArray w:=run_loadCells_list (P:=Tryz.prog) w ⟨0,0,none⟩ nV (fun j v hj => by
  have e : (⟨0,0,none⟩ : Addr).add j = ⟨0,j,none⟩:=ic;rw [e];exact h j v hj)
 unfold loadVar
 simp only [Sem.run_bind,Tryz.isAgg288,Result.andThen,if_true,Tryz.sizeOf288,hl,Sem.run_pure]
 rfl
theorem qw {w : World} (h : aT w) (a : Act) (d : Option Tmp) (p : String) (af : Array Edge) (g : Option (Nat × Bool)) :
  (execOp a.eval { dst:=d,op:=Op.load 288 (Operand.global 0),type:=288,pos:=p,after:=af,guard:=g }).run Tryz.prog w = .ok (.value nZ) w:=by
 show (do pure (Next.value (← Instr.loadAt 288 (.pointer (some ⟨0,0,none⟩)))) : Sem Next).run Tryz.prog w = _
 have e : (Instr.sureAddr (.pointer (some ⟨0,0,none⟩))).run Tryz.prog w = .ok ⟨0,0,none⟩ w:=rfl;unfold Instr.loadAt
 simp only [Sem.run_bind,e,Sem.run_pure,Result.andThen,C0 h]
set_option maxRecDepth 20000 in
theorem ww {w : World} (i : Nat) (hi : i < 7) : (Instr.index 288 nZ (.int .i64 i)).run Tryz.prog w = .ok (.agg #[.int .u8 (kF i),.int .u8 (kL i),.string (kA i),.string (kW i)]) w:=by
 have h : i = 0 ∨ i = 1 ∨ i = 2 ∨ i = 3 ∨ i = 4 ∨ i = 5 ∨ i = 6:=ae
 rcases h with rfl | rfl | rfl | rfl | rfl | rfl | rfl <;> simp [Instr.index,go_sem,nZ,nV,kF,kL,kA,kW]
theorem lL (i : Nat) (hi : i < 7) : 0 ≤ kF i ∧ kF i ≤ kL i ∧ kL i ≤ 117 ∧ kF i + (cw (kW i)).length ≤ 255 ∧ (kW i).size ≤ 1099511627776 ∧ (kA i).size ≤ 1099511627776:=by
 have h : i = 0 ∨ i = 1 ∨ i = 2 ∨ i = 3 ∨ i = 4 ∨ i = 5 ∨ i = 6:=ae
 rcases h with rfl | rfl | rfl | rfl | rfl | rfl | rfl <;> decide +kernel
def sO (c : Int) : Int :=
 if c = 2 then 1 else if c = 3 then 1 else if c = 4 then 1 else if c = 7 then 2 else if c = 8 then 2 else if c = 9 then 3 else if c = 11 then 4 else if c = 12 then 5
 else if c = 18 then 6 else if c = 19 then 6 else if c = 20 then 6 else if c = 21 then 7 else if c = 22 then 7 else if c = 24 then 8 else if c = 25 then 8
 else if c = 32 then 9 else if c = 33 then 9 else if c = 34 then 9 else if c = 35 then 9 else if c = 36 then 9 else if c = 37 then 9 else if c = 38 then 9 else if c = 39 then 9 else if c = 40 then 9 else if c = 41 then 9 else 0
def uJ (c : Int) : Bool:=decide (c = 1 ∨ 24 ≤ c)
def zt (k : Int) (s : ByteArray) : ByteArray × ByteArray :=
 if k = 0 then (s,⟨#[119]⟩) else if k ≤ 6 then (s ++ s,⟨#[119]⟩) else if k ≤ 9 then (s,s) else (s ++ s,s)
def pT (c : Int) : ByteArray × ByteArray :=
 if 48 ≤ c ∧ c ≤ 72 then zt (c - 48) ⟨#[119]⟩ else if 80 ≤ c ∧ c ≤ 104 then zt (c - 80) ⟨#[108]⟩
 else if c = 24 then (⟨#[]⟩,⟨#[119]⟩) else if c = 42 then (⟨#[]⟩,⟨#[119]⟩) else if c = 25 then (⟨#[]⟩,⟨#[108]⟩)
 else if c = 32 then (⟨#[119]⟩,⟨#[119]⟩) else if c = 33 then (⟨#[119]⟩,⟨#[119]⟩) else if c = 34 then (⟨#[119]⟩,⟨#[119]⟩) else if c = 35 then (⟨#[119]⟩,⟨#[119]⟩) else if c = 36 then (⟨#[119]⟩,⟨#[119]⟩) else if c = 43 then (⟨#[119]⟩,⟨#[119]⟩) else if c = 115 then (⟨#[119]⟩,⟨#[119]⟩) else if c = 116 then (⟨#[119]⟩,⟨#[119]⟩)
 else if c = 37 then (⟨#[119]⟩,⟨#[108]⟩) else if c = 113 then (⟨#[119]⟩,⟨#[108]⟩) else if c = 114 then (⟨#[119]⟩,⟨#[108]⟩)
 else if c = 112 then (⟨#[108]⟩,⟨#[119]⟩) else if c = 117 then (⟨#[108]⟩,⟨#[108]⟩)
 else if c = 38 then (⟨#[119,119]⟩,⟨#[]⟩) else if c = 39 then (⟨#[119,119]⟩,⟨#[]⟩) else if c = 40 then (⟨#[119,119]⟩,⟨#[]⟩) else if c = 41 then (⟨#[119,108]⟩,⟨#[]⟩) else (⟨#[]⟩,⟨#[]⟩)
theorem Lc (c : Int) (w : World) : Calls Tryz.prog 227 #[.int .u8 c] w fun e w' => e = .returned (.int .i8 (sO c)) ∧ w' = w:=by
 go_enter Tryz.func227,Tryz.ntmps227
 go_wp2
 all_goals (go_ret; exact ⟨by unfold sO; simp_all,rfl⟩)
theorem Jd (c : Int) (w : World) : Calls Tryz.prog 228 #[.int .u8 c] w fun e w' => e = .returned (.bool (uJ c)) ∧ w' = w:=by
 go_enter Tryz.func228,Tryz.ntmps228
 go_wp2
 all_goals (go_ret; refine ⟨?_,rfl⟩; unfold uJ; simp_all)
theorem LD (k : Int) (s : ByteArray) (w : World) (hs : s.size ≤ 1099511627776) : Calls Tryz.prog 255 #[.int .u8 k,.string s] w fun e w' => e = .returned (.tuple #[.string (zt k s).1,.string (zt k s).2]) ∧ w' = w:=by
 have hax : ¬ (s.size + s.size > 9223372036854775807):=ae
 go_enter Tryz.func255,Tryz.ntmps255
 go_wp2
 all_goals (go_ret2; refine ⟨?_,rfl⟩; unfold zt; simp_all)
 all_goals (repeat rw [if_neg ae])
 all_goals exact ⟨rfl,rfl⟩
theorem GG (c : Int) (w : World) (h0 : 0 ≤ c) (h1 : c ≤ 255) : Calls Tryz.prog 225 #[.int .u8 c] w fun e w' => e = .returned (.tuple #[.string (pT c).1,.string (pT c).2]) ∧ w' = w:=by
 by_cases ha : 48 ≤ c ∧ c ≤ 72
 ·rw [show pT c = zt (c - 48) ⟨#[119]⟩ by unfold pT; rw [if_pos ha]]
  obtain ⟨ha1,ha2⟩:=ha
  go_enter Tryz.func225,Tryz.ntmps225
  go_wp2_with fail;refine (LD (c - 48) ⟨#[119]⟩ w aq).mono ?_;rintro e w' ⟨rfl,rfl⟩;go_wp2;go_ret2;exact ⟨rfl,rfl⟩
 ·by_cases hb : 80 ≤ c ∧ c ≤ 104
  ·rw [show pT c = zt (c - 80) ⟨#[108]⟩ by unfold pT; rw [if_neg ha,if_pos hb]]
   obtain ⟨hb1,hb2⟩:=hb;have hx : ¬ c ≤ 72:=ae
   go_enter Tryz.func225,Tryz.ntmps225
   go_wp2_with fail;refine (LD (c - 80) ⟨#[108]⟩ w aq).mono ?_;rintro e w' ⟨rfl,rfl⟩;go_wp2;go_ret2;exact ⟨rfl,rfl⟩
  ·unfold pT;rw [if_neg ha,if_neg hb]
   go_enter Tryz.func225,Tryz.ntmps225
   go_wp2_with fail
   all_goals (go_ret2; first | exact ⟨rfl,rfl⟩ | (refine ⟨?_,rfl⟩; simp_all))
theorem iR {ops : Array Oper} {Q : Exit → Act → World → Prop} {o : Oper} {rest : List Oper} {a : Act} {w w' : World} {v : Value} (hg : o.guard = none) (he : (execOp a.eval o).run Tryz.prog w = .ok (.value v) w')
  (h : wpList Tryz.prog ops Q rest (a.put o.dst v) w') : wpList Tryz.prog ops Q (o :: rest) a w :=
 wpList_plain hg fun K hK => by simp only [Oper.wp,he,Oper.upon_value]; exact hK _ _ h
def lY (k : Int) (wd : ByteArray) (tk : Int) (pp ps : ByteArray) (pl : Bool) : Array Value:=#[.int .u8 k,.string wd,.int .i8 tk,.string pp,.string ps,.bool pl]
abbrev lN:=Int × ByteArray × Int × ByteArray × ByteArray × Bool
def jx : lN:=(0,⟨#[]⟩,0,⟨#[]⟩,⟨#[]⟩,false)
def rv (x : lN) : Array Value:=lY x.1 x.2.1 x.2.2.1 x.2.2.2.1 x.2.2.2.2.1 x.2.2.2.2.2
def pU (b : Nat) (x : lN) : List (Addr × Value):=[(⟨b,0,none⟩,.int .u8 x.1),(⟨b,1,none⟩,.string x.2.1),(⟨b,2,none⟩,.int .i8 x.2.2.1),(⟨b,3,none⟩,.string x.2.2.2.1),(⟨b,4,none⟩,.string x.2.2.2.2.1),(⟨b,5,none⟩,.bool x.2.2.2.2.2)]
theorem iE {b : Nat} {x : lN} {W : World} (h : ay (pU b x) W) :
  (W.cell? ⟨b,0,none⟩ = some (.int .u8 x.1) ∧ W.cell? ⟨b,1,none⟩ = some (.string x.2.1) ∧ W.cell? ⟨b,2,none⟩ = some (.int .i8 x.2.2.1) ∧ W.cell? ⟨b,3,none⟩ = some (.string x.2.2.2.1) ∧ W.cell? ⟨b,4,none⟩ = some (.string x.2.2.2.2.1) ∧ W.cell? ⟨b,5,none⟩ = some (.bool x.2.2.2.2.2)) ∧
  (W.frozen? ⟨b,0,none⟩ = false ∧ W.frozen? ⟨b,1,none⟩ = false ∧ W.frozen? ⟨b,2,none⟩ = false ∧ W.frozen? ⟨b,3,none⟩ = false ∧ W.frozen? ⟨b,4,none⟩ = false ∧ W.frozen? ⟨b,5,none⟩ = false):=by
 unfold pU at h;exact ⟨⟨(h (⟨b,0,none⟩,_) ar).1,(h (⟨b,1,none⟩,_) ar).1,(h (⟨b,2,none⟩,_) ar).1,(h (⟨b,3,none⟩,_) ar).1,(h (⟨b,4,none⟩,_) ar).1,(h (⟨b,5,none⟩,_) ar).1⟩,
  (h _ (List.mem_cons_self ..)).2,(h (⟨b,1,none⟩,.string x.2.1) ar).2,(h (⟨b,2,none⟩,.int .i8 x.2.2.1) ar).2,(h (⟨b,3,none⟩,.string x.2.2.2.1) ar).2,(h (⟨b,4,none⟩,.string x.2.2.2.2.1) ar).2,(h (⟨b,5,none⟩,.bool x.2.2.2.2.2) ar).2⟩
theorem ay.later {cs : List (Addr × Value)} {n : Nat} {A B : World} (h : ay cs A) (hb : Below n A B) (hn : ∀ p ∈ cs,p.1.block < n) : ay cs B :=
 fun p hp => ⟨(hb.cell (hn p hp)).trans (h p hp).1,(hb.frozen (hn p hp)).trans (h p hp).2⟩
def Ik (i : Nat) (c : Int) : lN:=(c,kR (kF i) c (kA i) (cw (kW i)),sO c,(pT c).1,(pT c).2,uJ c)
def t7 : Nat → Nat → Int → lN × Bool
 | 0,_,_ => (jx,false)
 | n + 1,i,c => if kF i ≤ c ∧ c ≤ kL i then (Ik i c,true) else t7 n (i + 1) c
def ofV (c : Int) : lN × Bool:=t7 7 0 c
theorem of6 (c : Int) (w : World) (hk : aT w) (h0 : 0 ≤ c) (h1 : c ≤ 255) : Calls Tryz.prog 178 #[.int .u8 c] w fun e w' => e = .returned (.tuple #[.agg (rv (ofV c).1),.bool (ofV c).2]) ∧ Below w.heap.size w w':=by
 obtain ⟨V,hV⟩ : ∃ V,ofV c = V:=⟨_,rfl⟩;rw [hV]
 go_enter Tryz.func178,Tryz.ntmps178
 refine wp_seq_k fun K1 hK1 => wp_region_lit ?_
 refine iR rfl (v:=.pointer (some ⟨w.heap.size,0,none⟩)) (w':=w.alloc (bB 0 ⟨#[]⟩ 0 ⟨#[]⟩ ⟨#[]⟩ false)) cE ?_;refine iR rfl (v:=.bool false) (w':=w.alloc (bB 0 ⟨#[]⟩ 0 ⟨#[]⟩ ⟨#[]⟩ false)) cE ?_;refine wpList_nil (hK1 _ _ ?_);clear hK1;have hb : Below w.heap.size w (w.alloc (bB 0 ⟨#[]⟩ 0 ⟨#[]⟩ ⟨#[]⟩ false)):=(Below.refl _ w).alloc (Nat.le_refl _) _
 have hc : ay (pU w.heap.size jx) (w.alloc (bB 0 ⟨#[]⟩ 0 ⟨#[]⟩ ⟨#[]⟩ false)):=by
  unfold pU jx
  refine ay.cons ?_ ?_ (ay.cons ?_ ?_ (ay.cons ?_ ?_ (ay.cons ?_ ?_ (ay.cons ?_ ?_ (ay.cons ?_ ?_ jv))))) <;> simp [go_sem]
 refine wp_seq_k fun K2 hK2 => wp_seq_k fun K3 hK3 => wp_region_lit ?_
 refine iR rfl (qw (hk.later hb hk.pos) _ _ _ _ _) ?_;obtain ⟨kv,hkv⟩ : ∃ kv,nZ = kv:=⟨_,rfl⟩;rw [hkv]
 have run_kind' : ∀ (w : World) (i : Nat) (hi : i < 7),(Instr.index 288 kv (.int .i64 i)).run Tryz.prog w = .ok (.agg #[.int .u8 (kF i),.int .u8 (kL i),.string (kA i),.string (kW i)]) w:=fun w i hi => hkv ▸ ww i hi
 have HK:=hid run_kind';clear run_kind' hkv;go_wp2_with fail
 go_loopw [9] (fun p wr => ∃ i : Nat,p = .int .i64 i ∧ i ≤ 7 ∧ Below w.heap.size w wr ∧ ay (pU w.heap.size jx) wr ∧ t7 (7 - i) i c = V) (fun p wr => 7 - (intOf p).toNat)
 case atStart => exact ⟨0,rfl,aq,hb,hc,hV⟩
 case round =>
  clear hb hc hV;obtain ⟨i,rfl,hi,hB,hR,hV⟩:=hrel
  by_cases h7 : i = 7
  ·subst h7;have hx : V = (jx,false):=hV.symm;subst hx;obtain ⟨⟨d0,d1,d2,d3,d4,d5⟩,e0,e1,e2,e3,e4,e5⟩:=iE hR;go_wp2_with fail;refine bodyPost_ret (v:=.tuple #[.agg (rv jx),.bool false]) ?_ rfl ⟨rfl,?_⟩
   ·rw [results_cell_tmp rfl];go_simp;rfl
   ·exact (((((hB.setCell (p:=⟨w.heap.size,0,none⟩) ar _).setCell (p:=⟨w.heap.size,1,none⟩) ar _).setCell (p:=⟨w.heap.size,2,none⟩) ar _).setCell (p:=⟨w.heap.size,3,none⟩) ar _).setCell (p:=⟨w.heap.size,4,none⟩) ar _).setCell (p:=⟨w.heap.size,5,none⟩) ar _
  have hlt : (i : Int) < 7:=ae;have hix:=HK.out wr i ae;obtain ⟨f0,f1,f2,f3,f4,f5⟩:=lL i ae
  have HF:=hid ((NP (kF i) (kL i) c (kA i) (kW i) · f0 f3 f4 f5))
  obtain ⟨n,hn⟩ : ∃ n,7 - i = n + 1:=⟨6 - i,ae⟩;rw [hn,t7] at hV;have hwd : (Ik i c).2.1 = kR (kF i) c (kA i) (cw (kW i)):=rfl;generalize kR (kF i) c (kA i) (cw (kW i)) = wd at HF hwd
  by_cases hin : kF i ≤ c ∧ c ≤ kL i
  ·obtain ⟨g1,g2⟩:=hin;rw [if_pos ⟨g1,g2⟩] at hV;generalize kF i = f at *;generalize kL i = l at *;generalize kA i = a at *;generalize kW i = ws at *;go_wp2_with fail;refine (GG c _ h0 h1).mono ?_;rintro e w2 ⟨rfl,rfl⟩;go_wp2_with fail;refine (HF.out _).mono ?_;rintro e w3 ⟨rfl,hb3⟩;go_wp2_with fail;refine (Lc c w3).mono ?_;rintro e w4 ⟨rfl,rfl⟩;go_wp2_with fail;refine (Jd c w4).mono ?_;rintro e w5 ⟨rfl,rfl⟩;have hwr : w.heap.size < wr.heap.size:=World.block_lt_of_cell? wr ⟨w.heap.size,0,none⟩ (iE hR).1.1
   have hR3 : ay (pU w.heap.size jx) w5:=(hR.grown (World.grownBy_alloc wr _ none) (fun r e => cJ)).later hb3 (by simp [pU]; omega)
   have hB3 : Below w.heap.size w w5:=(hB.alloc hB.size _).trans (hb3.mono aL);clear hb3 hR;obtain ⟨⟨d0,d1,d2,d3,d4,d5⟩,e0,e1,e2,e3,e4,e5⟩:=iE hR3;go_wp2_with fail;subst hV
   refine bodyPost_ret (v:=.tuple #[.agg #[.int .u8 c,.string wd,.int .i8 (sO c),.string (pT c).1,.string (pT c).2,.bool (uJ c)],.bool true]) ?_ rfl ⟨by rw [← hwd]; rfl,?_⟩
   ·exact km
   ·exact (((((hB3.setCell (p:=⟨w.heap.size,0,none⟩) ar _).setCell (p:=⟨w.heap.size,1,none⟩) ar _).setCell (p:=⟨w.heap.size,2,none⟩) ar _).setCell (p:=⟨w.heap.size,3,none⟩) ar _).setCell (p:=⟨w.heap.size,4,none⟩) ar _).setCell (p:=⟨w.heap.size,5,none⟩) ar _
  ·rw [if_neg hin] at hV;have hwr : w.heap.size < wr.heap.size:=World.block_lt_of_cell? wr ⟨w.heap.size,0,none⟩ (iE hR).1.1
   have hR2:=hid (hR.grown (World.grownBy_alloc wr (nC (kF i) (kL i) (kA i) (kW i)) none) (fun r e => cJ))
   have hB2:=hid (hB.alloc hB.size (nC (kF i) (kL i) (kA i) (kW i)));have hV2:=hid hV;clear hV hR hB;have hw : wrap64 ((i : Int) + 1) = i + 1:=eu;clear HF hwd f0 f1 f2 f3 f4 f5;generalize kF i = f at *;generalize kL i = l at *;generalize kA i = a at *;generalize kW i = ws at *
   by_cases hlow : c < f
   ·exact FE
   ·have hhigh : l < c:=ae;exact FE
def lo (t : Int) (g : Bool) : Int:=if t = 8 then (if g = true then -9223372036854775808 else -2147483648) else 0
def hi (t : Int) (g : Bool) : Int :=
 if t = 0 ∨ t = 3 then 0 else if t = 9 then 4294967295 else if t = 8 then (if g = true then 9223372036854775807 else 2147483647) else 2147483647
theorem wJ (t : Int) (g : Bool) : -9223372036854775808 ≤ lo t g ∧ lo t g ≤ 0:=by
 unfold lo; split
 ·split <;> omega
 ·omega
theorem xb (t : Int) (g : Bool) : 0 ≤ hi t g ∧ hi t g ≤ 9223372036854775807 ∧ (t ≠ 8 → hi t g ≤ 4294967295 ∧ lo t g = 0):=by
 unfold hi lo
 split
 ·refine ⟨ae,ae,fun h => ?_⟩
  rw [if_neg h]; omega
 ·split
  ·refine ⟨ae,ae,fun h => ?_⟩
   rw [if_neg h]; omega
  ·split
   ·refine ⟨by split <;> omega,by split <;> omega,fun h => ae⟩
   ·refine ⟨ae,ae,fun h => ?_⟩
    omega
def okL : List Int → Prop
 | [] => True
 | z :: l => (0 ≤ z ∧ z ≤ 2147483647) ∧ okL l
instance decOkL : (l : List Int) → Decidable (okL l)
 | [] => .isTrue trivial
 | z :: l => match decOkL l with
  | .isTrue h => if hz : 0 ≤ z ∧ z ≤ 2147483647 then .isTrue ⟨hz,h⟩ else .isFalse fun x => hz x.1
  | .isFalse h => .isFalse fun x => h x.2
theorem CA : ∀ (l : List Int),okL l ↔ ∀ z ∈ l,0 ≤ z ∧ z ≤ 2147483647
 | [] => by simp [okL]
 | z :: l => by simp [okL,CA l]
def chk (t : Int) (g : Bool) (a : Int) (l : List Int) : Int :=
 if t = -1 then 21
 else if a < lo t g ∨ hi t g < a then 17
 else if t = 3 then (if l.length < 1 ∨ 16 < l.length then 17 else if okL l then 0 else 17)
 else if l.length = 0 then 0 else 17
def fX : List Int → List Int
 | [] => []
 | z :: l => au z ++ fX l
def Dd (t a : Int) (l : List Int) : List Int :=
 if t = 0 then [] else if t = 8 then au (fo a) else if t = 3 then au l.length ++ fX l else au a
theorem pG : ∀ (l : List Int),(fX l).length ≤ 10 * l.length
 | [] => by simp [fX]
 | z :: l => by
  have:=pG l
  have:=aC z
  simp only [fX,List.length_append,List.length_cons]; omega
theorem NK (f : Nat) : ∀ (v : Int),0 ≤ v → v < 128 ^ f * 256 → ∀ z ∈ uv f v,0 ≤ z ∧ z ≤ 255:=by
 induction f with
 | zero => intro v h0 h1 z hz; simp [uv] at hz; simp at h1; omega
 | succ f ih =>
  intro v h0 h1 z hz
  by_cases h : v < 128
  ·simp [uv,h] at hz; omega
  ·simp only [uv,h,if_false,List.mem_cons] at hz
   rcases hz with rfl | hz
   ·omega
   ·refine ih (v / 128) ae ?_ z hz;have hs : (128 : Int) ^ (f + 1) = 128 ^ f * 128:=Int.pow_succ _ _;rw [hs] at h1;generalize (128 : Int) ^ f = X at h1 ⊢;omega
theorem ni (v : Int) (h0 : 0 ≤ v) (h1 : v < 18446744073709551616) : ∀ z ∈ au v,0 ≤ z ∧ z ≤ 255:=by
 have e : (128 : Int) ^ 9 = 9223372036854775808:=aq;refine NK 9 v h0 ?_
 rw [e]; omega
theorem xp : ∀ (l : List Int),okL l → ∀ z ∈ fX l,0 ≤ z ∧ z ≤ 255
 | [],_,z,hz => by simp [fX] at hz
 | y :: l,h,z,hz => by
  simp only [fX,List.mem_append] at hz
  rcases hz with hz | hz
  ·exact ni y h.1.1 (by have:=h.1.2; omega) z hz
  ·exact xp l h.2 z hz
theorem kg {t : Int} {g : Bool} {a : Int} {l : List Int} (h : chk t g a l = 0) :
  t ≠ -1 ∧ lo t g ≤ a ∧ a ≤ hi t g ∧ (t = 3 → 1 ≤ l.length ∧ l.length ≤ 16 ∧ okL l) ∧ (t ≠ 3 → l = []):=by
 unfold chk at h
 by_cases h1 : t = -1
 ·rw [if_pos h1] at h; omega
 rw [if_neg h1] at h
 by_cases h2 : a < lo t g ∨ hi t g < a
 ·rw [if_pos h2] at h; omega
 rw [if_neg h2] at h
 by_cases h3 : t = 3
 ·rw [if_pos h3] at h
  by_cases h4 : l.length < 1 ∨ 16 < l.length
  ·rw [if_pos h4] at h; omega
  rw [if_neg h4] at h
  by_cases h5 : okL l
  ·exact ⟨h1,ae,ae,fun _ => ⟨ae,ae,h5⟩,fun h => absurd h3 h⟩
  ·rw [if_neg h5] at h; omega
 ·rw [if_neg h3] at h
  by_cases h4 : l.length = 0
  ·exact ⟨h1,ae,ae,fun h => absurd h h3,fun _ => List.eq_nil_of_length_eq_zero h4⟩
  ·rw [if_neg h4] at h; omega
theorem vG (t a : Int) (l : List Int) (h : l.length ≤ 16) : (Dd t a l).length ≤ 170:=by
 unfold Dd
 split
 ·simp
 ·split
  ·have:=aC (fo a); omega
  ·split
   ·have:=aC l.length
    have:=pG l
    rw [List.length_append]; omega
   ·have:=aC a; omega
theorem D9 {t : Int} {g : Bool} {a : Int} {l : List Int} (h : chk t g a l = 0) : ∀ z ∈ Dd t a l,0 ≤ z ∧ z ≤ 255:=by
 obtain ⟨h1,h2,h3,h4,h5⟩:=kg h;have hl:=wJ t g;have hh:=xb t g;intro z hz;unfold Dd at hz
 by_cases t0 : t = 0
 ·rw [if_pos t0] at hz; simp at hz
 rw [if_neg t0] at hz
 by_cases t8 : t = 8
 ·rw [if_pos t8] at hz
  have:=vK a ae ae
  exact ni _ this.1 this.2 z hz
 rw [if_neg t8] at hz
 by_cases t3 : t = 3
 ·rw [if_pos t3] at hz;obtain ⟨a1,a2,a3⟩:=h4 t3
  rcases List.mem_append.1 hz with hz | hz
  ·exact ni _ ae ae z hz
  ·exact xp l a3 z hz
 ·rw [if_neg t3] at hz
  have:=hh.2.2 t8
  exact ni _ ae ae z hz
def jA (a b : Int) : Value:=.agg #[.int .i64 a,.int .i64 b]
def inB (a b v : Int) : Bool:=decide (a ≤ v ∧ v ≤ b)
theorem KM {a b v : Int} (h1 : a ≤ v) (h2 : v ≤ b) : inB a b v = true:=by unfold inB; simp [h1,h2]
theorem Fz {a b v : Int} (h : v < a ∨ b < v) : inB a b v = false:=by unfold inB; simp; omega
theorem mn (a b v : Int) (w : World) : Calls Tryz.prog 315 #[jA a b,.int .i64 v] w fun e w' => e = .returned (.bool (inB a b v)) ∧ Below w.heap.size w w':=by
 unfold jA
 by_cases h1 : a ≤ v
 ·by_cases h2 : v ≤ b
  ·have HR:=show Hid _ from KM h1 h2;exact uI
  ·have HR:=show Hid _ from Fz (a:=a) (.inr (by omega : b < v))
   exact uI
 ·have HR:=show Hid _ from Fz (b:=b) (.inl (by omega : v < a))
  exact uI
theorem nN (w : World) : Calls Tryz.prog 316 #[] w fun e w' => e = .returned (jA 0 2147483647) ∧ Below w.heap.size w w':=by
 go_enter Tryz.func316,Tryz.ntmps316
 go_wp2
 refine bodyPost_ret (v:=.agg #[.int .i64 0,.int .i64 2147483647]) (by simp [results,Tryz.results316,go_sem]) rfl ⟨rfl,?_⟩
 exact (Below.refl _ _).alloc (Nat.le_refl _) _
def lS (ps : ByteArray) : Bool:=decide (ps = ⟨#[108]⟩)
theorem xu (ps : ByteArray) : (ps.toList == [108]) = lS ps:=by
 rw [ByteArray.toList_eq];unfold lS
 by_cases h : ps = ⟨#[108]⟩
 ·simp [h]
 ·rw [decide_eq_false h,beq_eq_false_iff_ne];intro e
  apply h
  cases ps with
  | mk d =>
   have e2 : d.toList = (#[108] : Array UInt8).toList:=e;rw [Array.toList_inj.1 e2]
theorem nA (c t : Int) (wd pp ps : ByteArray) (pl : Bool) (w : World) :
  Calls Tryz.prog 314 #[.agg #[.int .u8 c,.string wd,.int .i8 t,.string pp,.string ps,.bool pl]] w fun e w' => e = .returned (jA (lo t (lS ps)) (hi t (lS ps))) ∧ Below w.heap.size w w':=by
 by_cases h0 : t = 0
 ·subst h0;exact GI
 by_cases h3 : t = 3
 ·subst h3;exact GI
 by_cases h9 : t = 9
 ·subst h9
  go_enter Tryz.func314,Tryz.ntmps314
  go_wp2;refine bodyPost_ret (v:=.agg #[.int .i64 0,.int .i64 4294967295]) uL rfl ⟨rfl,?_⟩;exact mg
 by_cases h8 : t = 8
 ·subst h8;have hl:=xu ps
  cases hb : lS ps
  ·rw [hb] at hl
   go_enter Tryz.func314,Tryz.ntmps314
   go_wp2;refine bodyPost_ret (v:=.agg #[.int .i64 (-2147483648),.int .i64 2147483647]) uL rfl ⟨rfl,?_⟩;exact mg
  ·rw [hb] at hl
   go_enter Tryz.func314,Tryz.ntmps314
   go_wp2;refine bodyPost_ret (v:=.agg #[.int .i64 (-9223372036854775808),.int .i64 9223372036854775807]) uL rfl ⟨rfl,?_⟩;exact mg
 have e0 : (t == 0) = false:=by simp [h0]
 have e3 : (t == 3) = false:=by simp [h3]
 have e9 : (t == 9) = false:=by simp [h9]
 have e8 : (t == 8) = false:=by simp [h8]
 have HV:=show Hid (jA (lo t (lS ps)) (hi t (lS ps)) = jA 0 2147483647) by
  show jA (lo t (lS ps)) (hi t (lS ps)) = jA 0 2147483647
  unfold lo hi;rw [if_neg h8,if_neg ae,if_neg h9,if_neg h8]
 clear h0 h3 h9 h8
 go_enter Tryz.func314,Tryz.ntmps314
 go_wp2_with fail;refine (nN _).mono ?_;rintro e w1 ⟨rfl,hb⟩;unfold jA at *
 have c0 : w1.cell? ⟨w.heap.size + 1,0,none⟩ = some (.int .i64 0):=by rw [hb.cell ar]; simp [go_sem]
 have c1 : w1.cell? ⟨w.heap.size + 1,1,none⟩ = some (.int .i64 0):=by rw [hb.cell ar]; simp [go_sem]
 have f0 : w1.frozen? ⟨w.heap.size + 1,0,none⟩ = false:=by rw [hb.frozen ar]; simp [go_sem]
 have f1 : w1.frozen? ⟨w.heap.size + 1,1,none⟩ = false:=by rw [hb.frozen ar]; simp [go_sem]
 go_wp2
 refine bodyPost_ret (v:=.agg #[.int .i64 0,.int .i64 2147483647]) (by simp [results,Tryz.results314,go_sem,c0,c1]) rfl ⟨congrArg Ending.returned HV.out.symm,?_⟩
 exact ((((((Below.refl _ _).alloc (Nat.le_refl _) _).alloc ar _).trans (hb.mono aL)).setCell ar _).setCell ar _)
theorem FR (c t : Int) (wd pp ps : ByteArray) (pl : Bool) (w : World) :
  Calls Tryz.prog 312 #[.agg #[.int .u8 c,.string wd,.int .i8 t,.string pp,.string ps,.bool pl]] w fun e w' => e = .returned (if t = 3 then jA 1 16 else jA 0 0) ∧ Below w.heap.size w w':=by
 by_cases h3 : t = 3
 ·subst h3;rw [if_pos rfl]
  go_enter Tryz.func312,Tryz.ntmps312
  go_wp2
  refine bodyPost_ret (v:=.agg #[.int .i64 1,.int .i64 16]) (by simp [results,Tryz.results312,go_sem]) rfl ⟨rfl,?_⟩
  exact mg
 ·rw [if_neg h3]
  have e3 : (t == 3) = false:=by simp [h3]
  clear h3
  go_enter Tryz.func312,Tryz.ntmps312
  go_wp2
  refine bodyPost_ret (v:=.agg #[.int .i64 0,.int .i64 0]) (by simp [results,Tryz.results312,go_sem]) rfl ⟨rfl,?_⟩
  exact mg
end Go.Proofs.YtheefojaplnnoaaGreatDoor

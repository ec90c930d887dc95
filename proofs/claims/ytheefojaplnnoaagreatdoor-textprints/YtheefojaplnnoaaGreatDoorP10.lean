/-
  Texts Word Kinds Small Ref.
-/
import Derived.KernelRfl
import Derived.RangeFuncBox
import Derived.RowKit
import Derived.Test.YtheefojaplnnoaaGreatDoorProg
import Derived.WalkKit
import Derived.WalkLawsBesides
import Derived.WalkSpells
import Derived.Test.YtheefojaplnnoaaGreatDoorP00
import Derived.Test.YtheefojaplnnoaaGreatDoorP09
set_option linter.unusedVariables false
set_option maxRecDepth 100000
set_option maxHeartbeats 16000000
namespace Go.Proofs.YtheefojaplnnoaaGreatDoor
open Go.RowKit Go.Shelf
def aD (cs : List (Addr × Value)) (W : World) : Prop:=∀ p ∈ cs,W.cell? p.1 = some p.2 ∧ W.frozen? p.1 = false
theorem aD.grown {cs : List (Addr × Value)} {A B : World} {row : Option Nat} (h : aD cs A) (hg : A.grownBy B row) (hr : ∀ r,row = some r → ∃ o : Obj,A.heap[r]? = some o ∧ o.isCells = false) : aD cs B :=
 fun p hp => ⟨cell_kept (h p hp).1 hg hr,(frozen_kept (h p hp).1 hg hr).trans (h p hp).2⟩
theorem aD.turned {cs : List (Addr × Value)} {W : World} (h : aD cs W) {l : Nat} {o : Obj} (o' : Obj) (hl : W.heap[l]? = some o) (ho : o.isCells = false) : aD cs (W.putObj l o') :=
 h.grown (grownBy_putObj' W l o') (fun r e => by cases e; exact ⟨o,hl,ho⟩)
theorem aD.other {cs : List (Addr × Value)} {W : World} (h : aD cs W) (c : Addr) (v : Value) (hc : ∀ p ∈ cs,c ≠ p.1) : aD cs (W.setCell c v) :=
 fun p hp => ⟨(World.cell?_setCell_other _ _ _ _ (hc p hp)).trans (h p hp).1,(World.frozen?_setCell _ _ _ _).trans (h p hp).2⟩
theorem aD.cons {p : Addr × Value} {cs : List (Addr × Value)} {W : World} (h1 : W.cell? p.1 = some p.2) (h2 : W.frozen? p.1 = false) (h : aD cs W) : aD (p :: cs) W :=
 fun q hq => by
  rcases List.mem_cons.1 hq with rfl | hq
  ·exact ⟨h1,h2⟩
  ·exact h q hq
theorem aD.set {c : Addr} {u v : Value} {cs : List (Addr × Value)} {W : World} (h : aD ((c,u) :: cs) W) (hc : ∀ p ∈ cs,c ≠ p.1) : aD ((c,v) :: cs) (W.setCell c v):=by
 have h1:=h (c,u) aq
 refine aD.cons (World.cell?_setCell_same' _ _ _ (by rw [h1.1]; rfl)) ((World.frozen?_setCell _ _ _ _).trans h1.2) (aD.other (fun p hp => h p (by simp [hp])) _ _ hc)
theorem aD.set2 {c d : Addr} {u1 u2 v1 v2 : Value} {W : World} (h : aD [(c,u1),(d,u2)] W) (hc : c ≠ d) : aD [(c,v1),(d,v2)] ((W.setCell c v1).setCell d v2):=by
 have h1:=h (c,u1) aq;have h2:=h (d,u2) aq
 have k1 : aD [(d,u2)] (W.setCell c v1):=aD.other (aD.cons (cs:=[]) h2.1 h2.2 jt) _ _ (by simpa using hc)
 have k2 : aD [(c,v1)] (W.setCell c v1):=aD.set (aD.cons (cs:=[]) h1.1 h1.2 jt) aq
 have k3 : aD [(c,v1)] ((W.setCell c v1).setCell d v2):=aD.other k2 _ _ (by simpa using Ne.symm hc)
 have k4 : aD [(d,v2)] ((W.setCell c v1).setCell d v2):=aD.set k1 aq;exact aD.cons (k3 _ aq).1 (k3 _ aq).2 k4
theorem dB.other {ps : List Addr} (W : World) (c : Addr) (v : Value) (hc : ∀ p ∈ ps,c ≠ p) : dB ps W (W.setCell c v) :=
 fun p hp u hu => ⟨(World.cell?_setCell_other _ _ _ _ (hc p hp)).trans hu,World.frozen?_setCell _ _ _ _⟩
theorem oJ {fn : Func} {p : Tmp} {ty : TypeId} (h : fn.results = #[.cell p ty]) (tmps : Array Value) (P : Program) (w : World) :
  (results fn tmps).run P w = ((asAddr (tmps.getD p undef)).run P w).andThen fun a w₁ => (loadVar ty a).run P w₁:=by
 simp only [results,h]
 simp [Sem.run_bind,Result.andThen]
theorem jZ {fn : Func} {p q : Tmp} {ty tz : TypeId} (h : fn.results = #[.cell p ty,.cell q tz]) (tmps : Array Value) (P : Program) (w : World) :
  (results fn tmps).run P w = ((asAddr (tmps.getD p undef)).run P w).andThen fun a w₁ => ((loadVar ty a).run P w₁).andThen fun v w₂ => ((asAddr (tmps.getD q undef)).run P w₂).andThen fun b w₃ => ((loadVar tz b).run P w₃).andThen fun u w₄ => .ok (.tuple #[v,u]) w₄:=by
 simp only [results,h]
 simp [Sem.run_bind,Result.andThen]
def lh (f op : Int) (a : ByteArray) : List ByteArray → ByteArray
 | [] => ⟨#[]⟩
 | p :: r => if f = op then a ++ p else lh (f + 1) op a r
theorem MW (f l op : Int) (a ws : ByteArray) (w : World) (h0 : 0 ≤ f) (hb : f + (cK ws).length ≤ 255) (hsz : ws.size ≤ 1099511627776) (ha : a.size ≤ 1099511627776) :
  Calls Tryz.prog 226 #[.agg #[.int .u8 f,.int .u8 l,.string a,.string ws],.int .u8 op] w fun e w' => e = .returned (.string (lh f op a (cK ws))) ∧ Below w.heap.size w w':=by
 obtain ⟨xs,hxs⟩ : ∃ xs,cK ws = xs:=⟨_,rfl⟩;have hlen:=tW ws;rw [hxs] at hb hlen ⊢;obtain ⟨V,hV⟩ : ∃ V,lh f op a xs = V:=⟨_,rfl⟩;rw [hV];refine (callsIn_wide (n:=5)).1 ?_;refine callsIn_of_wp_marks Tryz.func226 rfl trivial ?_ rfl
 simp only [Tryz.ntmps226,List.size_toArray,List.length_cons,List.length_nil,Nat.reduceAdd,Nat.reduceSub,Array.replicate_succ,Array.replicate_zero,List.push_toArray,List.append_toArray,List.nil_append,List.cons_append]
 gi_wp2_with fail
 refine ⟨trivial,?_⟩;refine (callsIn_wide.2 (pE ws _)).mono ?_;rintro e w' ⟨rfl,rfl⟩
 gi_wp2_with fail
 simp only [Nat.add_assoc,Nat.reduceAdd]
 obtain ⟨W0,hW0⟩ : ∃ W0,(((((((w.alloc (nr f l a ws)).alloc (bY op)).alloc (bL ⟨#[]⟩)).alloc (bY f)).alloc (bL ws)).alloc (bL ⟨#[32]⟩)).alloc (bS 0)) = W0:=⟨_,rfl⟩;rw [hW0]
 have B0 : Below w.heap.size w W0:=by rw [← hW0]; exact (((((((Below.refl _ w).alloc aq _).alloc bZ _).alloc bZ _).alloc bZ _).alloc bZ _).alloc bZ _).alloc bZ _
 have z0 : W0.heap.size = w.heap.size + 7:=dX;have k2 : W0.cell? ⟨w.heap.size,2,none⟩ = some (.string a):=dX;have o1 : W0.cell? ⟨w.heap.size + 1,0,none⟩ = some (.int .u8 op):=dX;have r0 : W0.cell? ⟨w.heap.size + 2,0,none⟩ = some (.string ⟨#[]⟩):=dX;have rf : W0.frozen? ⟨w.heap.size + 2,0,none⟩ = false:=dX;have a0 : W0.cell? ⟨w.heap.size + 3,0,none⟩ = some (.int .u8 f):=dX;have af : W0.frozen? ⟨w.heap.size + 3,0,none⟩ = false:=dX;have c2 : W0.cell? ⟨w.heap.size + 4,0,none⟩ = some (.string ws):=dX;have f2 : W0.frozen? ⟨w.heap.size + 4,0,none⟩ = false:=dX;have c1 : W0.cell? ⟨w.heap.size + 5,0,none⟩ = some (.string ⟨#[32]⟩):=dX;have c3 : W0.cell? ⟨w.heap.size + 6,0,none⟩ = some (.int .i64 0):=dX;have kf : W0.frozen? ⟨w.heap.size,2,none⟩ = false:=dX;have of : W0.frozen? ⟨w.heap.size + 1,0,none⟩ = false:=dX;clear hW0;have HF:=BI 4 (w.heap.size + 5) (w.heap.size + 4) (w.heap.size + 6) ae ae ws W0 c1 c2 f2 c3 hsz;rw [hxs] at HF
 refine oL rfl av (gf:=174) (lb:=#[.pointer (some ⟨w.heap.size + 5,0,none⟩),.pointer (some ⟨w.heap.size + 4,0,none⟩),.pointer (some ⟨w.heap.size + 6,0,none⟩)]) rfl trivial (enters_of Tryz.func174 aj rfl) (encs:=fun x : ByteArray => #[.string x]) (fun _ => rfl)
  HF
  (fun r W => aD [(⟨w.heap.size + 3,0,none⟩,.int .u8 (f + xs.length - r.length)),(⟨w.heap.size,2,none⟩,.string a),(⟨w.heap.size + 1,0,none⟩,.int .u8 op),(⟨w.heap.size + 2,0,none⟩,.string ⟨#[]⟩)] W ∧ Below w.heap.size w W ∧ r.length ≤ xs.length ∧ (∀ p ∈ r,p.size ≤ ws.size) ∧ lh (f + xs.length - r.length) op a r = V)
  (fun j W => j = .ret ∧ aD [(⟨w.heap.size + 2,0,none⟩,.string V)] W ∧ Below w.heap.size w W)
  ?own ?ownx ?cells ?start
  (fun x => { tmps:=#[.agg #[.int .u8 f,.int .u8 l,.string a,.string ws],.int .u8 op,.pointer (some ⟨w.heap.size,0,none⟩),.pointer (some ⟨w.heap.size + 1,0,none⟩),.pointer (some ⟨w.heap.size + 2,0,none⟩),.pointer (some ⟨w.heap.size + 3,0,none⟩),.string x,.pointer (some ⟨w.heap.size,0,none⟩),.int .u8 f,.pointer (some ⟨w.heap.size,3,none⟩),.string ws,
   .func (.func 174) #[] #[.pointer (some ⟨w.heap.size + 5,0,none⟩),.pointer (some ⟨w.heap.size + 4,0,none⟩),.pointer (some ⟨w.heap.size + 6,0,none⟩)],.string x,undef,undef,undef,undef,undef,undef,undef,undef,undef],defers:=[] }) ?assign ?body ?done ?stop
 case own =>
  exact Hn
 case ownx =>
  exact FH
 case cells =>
  exact fun r A v hs => ⟨hs.1.other _ _ aq,hs.2.1.setCell (p:=⟨w.heap.size + 4,0,none⟩) aq _,hs.2.2⟩
 case start =>
  refine ⟨?_,B0,Nat.le_refl _,hlen,by rw [← hV]; congr 1; omega⟩
  refine aD.cons (by simp only [a0]; congr 2; omega) af (aD.cons k2 kf (aD.cons o1 of (aD.cons r0 rf jt)))
 case assign =>
  exact sF
 case body =>
  rintro m x r W ⟨hc,hB,hr,hp,hv⟩;have hsem:=@Oper.semAt_some;have d1:=hc _ (List.mem_cons_self ..);have d2:=hc _ (List.mem_cons_of_mem _ (List.mem_cons_self ..));have d3:=hc _ (List.mem_cons_of_mem _ (List.mem_cons_of_mem _ (List.mem_cons_self ..)));have d4:=hc _ (List.mem_cons_of_mem _ (List.mem_cons_of_mem _ (List.mem_cons_of_mem _ (List.mem_cons_self ..))));obtain ⟨q,hq⟩ : ∃ q : Int,f + xs.length - (x :: r).length = q:=⟨_,rfl⟩;rw [hq] at hc d1 hv;have q0 : 0 ≤ q:=tE;have q1 : q + 1 ≤ 255:=tE
  have q2 : f + xs.length - r.length = q + 1:=by simp at hq; omega
  have hx : x.size ≤ ws.size:=hp x aq;have hax : ¬ (a.size + x.size > 9223372036854775807):=ae
  by_cases he : q = op
  ·subst he
   gi_wp2_with fail
   refine ⟨(KeepsOthers.setCell _ _ _).from _,rfl,?_,hB.setCell (p:=⟨w.heap.size + 2,0,none⟩) aq _⟩;rw [lh,if_pos rfl] at hv;rw [← hv];exact aD.set (aD.cons d4.1 d4.2 jt) aq
  ·gi_wp2_with fail
   rw [lh,if_neg he] at hv
   refine ⟨(KeepsOthers.setCell _ _ _).from _,?_,?_,hB.setCell (p:=⟨w.heap.size + 3,0,none⟩) aq _,by simp at hr; omega,fun p h => hp p (by simp [h]),hv⟩
   ·exact dB.other _ _ _ aq
   ·exact aD.set hc aq
 case done =>
  rintro D W hD ⟨hc,hB,_,_,hv⟩ hK;have d4:=hc _ (List.mem_cons_of_mem _ (List.mem_cons_of_mem _ (List.mem_cons_of_mem _ (List.mem_cons_self ..))));have d5:=d4.1;have d6:=d4.2
  gi_wp2_with fail
  have hK2:=(KeepsOthers.setCell W ⟨w.heap.size + 2,0,none⟩ (.string ⟨#[]⟩)).same _ _ hK rfl;refine ⟨aq,.inl ⟨_,_,rfl,run_takeDeferred hK2,?_⟩⟩;have hH:=(aD.set (v:=.string ⟨#[]⟩) (aD.cons (cs:=[]) d4.1 d4.2 jt) aq).turned (.deferred none) hK2 rfl;have e1:=(hH _ (List.mem_cons_self ..)).1;have hBB:=(hB.setCell (p:=⟨w.heap.size + 2,0,none⟩) aq (.string ⟨#[]⟩)).trans (belowK_b (w:=w) (Nat.le_refl _) _ D _ (.deferred none) ae hK2 rfl rfl);generalize World.putObj _ D (.deferred none) = W5 at e1 hBB ⊢;refine ⟨.string V,?_,rfl,hBB⟩;rw [oJ rfl];rw [← hv,lh];go_simp
 case stop =>
  rintro D j W hD ⟨rfl,hc,hB⟩ hK
  gi_wp2_with fail
  refine ⟨aq,.inl ⟨_,_,rfl,run_takeDeferred hK,?_⟩⟩;have e1:=((hc.turned (.deferred none) hK rfl) _ (List.mem_cons_self ..)).1;have hBB:=hB.trans (belowK_b (w:=w) (Nat.le_refl _) _ D _ (.deferred none) ae hK rfl rfl);generalize World.putObj _ D (.deferred none) = W5 at e1 hBB ⊢;refine ⟨.string V,?_,rfl,hBB⟩;rw [oJ rfl];go_simp
theorem J8 (a b : ByteArray) : (a.toList == b.toList) = decide (a = b):=by
 rw [ByteArray.toList_eq,ByteArray.toList_eq]
 by_cases h : a = b
 ·simp [h]
 ·rw [decide_eq_false h,beq_eq_false_iff_ne]
  exact fun e => h (xU e)
open Go.RowKit
def kW0 : ByteArray:=⟨#[116,114,97,112,32,110,111,112,32,98,108,111,99,107,32,108,111,111,112,32,105,102,32,101,108,115,101,32,101,110,100,32,98,114,32,98,114,105,102,32,98,114,116,97,98,108,101,32,114,101,116,117,114,110,32,99,97,108,108,32,104,111,115,116]⟩
def kW1 : ByteArray:=⟨#[100,114,111,112,32,115,101,108,101,99,116,32,103,101,116,32,115,101,116,32,116,101,101,32,103,103,101,116,32,103,115,101,116]⟩
def kW2 : ByteArray:=⟨#[119,46,99,111,110,115,116,32,108,46,99,111,110,115,116]⟩
def kW3 : ByteArray:=⟨#[119,46,108,111,97,100,56,117,32,119,46,108,111,97,100,56,115,32,119,46,108,111,97,100,49,54,117,32,119,46,108,111,97,100,49,54,115,32,119,46,108,111,97,100,32,108,46,108,111,97,100,32,119,46,115,116,111,114,101,56,32,119,46,115,116,111,114,101,49,54,32,119,46,115,116,111,114,101,32,108,46,115,116,111,114,101,32,115,105,122,101,32,103,114,111,119]⟩
def kW4 : ByteArray:=⟨#[101,113,122,32,101,113,32,110,101,32,108,116,115,32,108,116,117,32,108,101,115,32,108,101,117,32,99,108,122,32,99,116,122,32,112,111,112,32,97,100,100,32,115,117,98,32,109,117,108,32,100,105,118,115,32,100,105,118,117,32,114,101,109,115,32,114,101,109,117,32,97,110,100,32,111,114,32,120,111,114,32,115,104,108,32,115,104,114,115,32,115,104,114,117,32,114,111,116,108,32,114,111,116,114]⟩
def kW5 : ByteArray:=⟨#[101,113,122,32,101,113,32,110,101,32,108,116,115,32,108,116,117,32,108,101,115,32,108,101,117,32,99,108,122,32,99,116,122,32,112,111,112,32,97,100,100,32,115,117,98,32,109,117,108,32,100,105,118,115,32,100,105,118,117,32,114,101,109,115,32,114,101,109,117,32,97,110,100,32,111,114,32,120,111,114,32,115,104,108,32,115,104,114,115,32,115,104,114,117,32,114,111,116,108,32,114,111,116,114]⟩
def kW6 : ByteArray:=⟨#[119,46,119,114,97,112,32,108,46,101,120,116,101,110,100,115,32,108,46,101,120,116,101,110,100,117,32,119,46,101,120,116,56,32,119,46,101,120,116,49,54,32,108,46,101,120,116,51,50]⟩
def kF : Nat → Int
 | 0 => 0
 | 1 => 16
 | 2 => 24
 | 3 => 32
 | 4 => 48
 | 5 => 80
 | _ => 112
def kL : Nat → Int
 | 0 => 12
 | 1 => 22
 | 2 => 25
 | 3 => 43
 | 4 => 72
 | 5 => 104
 | _ => 117
def kA : Nat → ByteArray
 | 0 => ⟨#[]⟩
 | 1 => ⟨#[]⟩
 | 2 => ⟨#[]⟩
 | 3 => ⟨#[]⟩
 | 4 => ⟨#[119,46]⟩
 | 5 => ⟨#[108,46]⟩
 | _ => ⟨#[]⟩
def kW : Nat → ByteArray
 | 0 => kW0
 | 1 => kW1
 | 2 => kW2
 | 3 => kW3
 | 4 => kW4
 | 5 => kW5
 | _ => kW6
def nE : List Value:=[.int .u8 0,.int .u8 12,.string ⟨#[]⟩,.string kW0,.int .u8 16,.int .u8 22,.string ⟨#[]⟩,.string kW1,.int .u8 24,.int .u8 25,.string ⟨#[]⟩,.string kW2,.int .u8 32,.int .u8 43,.string ⟨#[]⟩,.string kW3,.int .u8 48,.int .u8 72,.string ⟨#[119,46]⟩,.string kW4,.int .u8 80,.int .u8 104,.string ⟨#[108,46]⟩,.string kW5,.int .u8 112,.int .u8 117,.string ⟨#[]⟩,.string kW6]
def n9 : Value:=.agg nE.toArray
def aX (w : World) : Prop:=∀ j v,nE[j]? = some v → w.cell? ⟨0,j,none⟩ = some v
theorem aX.pos {w : World} (h : aX w) : 0 < w.heap.size:=World.block_lt_of_cell? w ⟨0,0,none⟩ (h 0 _ rfl)
theorem aX.later {n : Nat} {w w' : World} (h : aX w) (hb : Below n w w') (hn : 0 < n) : aX w' :=
 fun j v hj => (hb.cell (p:=⟨0,j,none⟩) hn).trans (h j v hj)
theorem Dg {w : World} (h : aX w) : (loadVar 288 ⟨0,0,none⟩).run Tryz.prog w = .ok n9 w:=by
 have hl : (loadCells ⟨0,0,none⟩ 28).run Tryz.prog w = .ok nE.toArray w:=run_loadCells_list (P:=Tryz.prog) w ⟨0,0,none⟩ nE (fun j v hj => by
  have e : (⟨0,0,none⟩ : Addr).add j = ⟨0,j,none⟩:=gS;rw [e];exact h j v hj)
 unfold loadVar
 simp only [Sem.run_bind,Tryz.isAgg288,Result.andThen,if_true,Tryz.sizeOf288,hl,Sem.run_pure]
 rfl
theorem qU {w : World} (h : aX w) (a : Act) (d : Option Tmp) (p : String) (af : Array Edge) (g : Option (Nat × Bool)) :
  (execOp a.eval { dst:=d,op:=Op.load 288 (Operand.global 0),type:=288,pos:=p,after:=af,guard:=g }).run Tryz.prog w = .ok (.value n9) w:=by
 show (do pure (Next.value (← Instr.loadAt 288 (.pointer (some ⟨0,0,none⟩)))) : Sem Next).run Tryz.prog w = _
 have e : (Instr.sureAddr (.pointer (some ⟨0,0,none⟩))).run Tryz.prog w = .ok ⟨0,0,none⟩ w:=rfl;unfold Instr.loadAt
 simp only [Sem.run_bind,e,Sem.run_pure,Result.andThen,Dg h]
set_option maxRecDepth 20000 in
theorem vd {w : World} (i : Nat) (hi : i < 7) : (Instr.index 288 n9 (.int .i64 i)).run Tryz.prog w = .ok (.agg #[.int .u8 (kF i),.int .u8 (kL i),.string (kA i),.string (kW i)]) w:=by
 have h : i = 0 ∨ i = 1 ∨ i = 2 ∨ i = 3 ∨ i = 4 ∨ i = 5 ∨ i = 6:=ae
 rcases h with rfl | rfl | rfl | rfl | rfl | rfl | rfl <;> simp [Instr.index,go_sem,n9,nE,kF,kL,kA,kW]
theorem lN (i : Nat) (hi : i < 7) : 0 ≤ kF i ∧ kF i ≤ kL i ∧ kL i ≤ 117 ∧ kF i + (cK (kW i)).length ≤ 255 ∧ (kW i).size ≤ 1099511627776 ∧ (kA i).size ≤ 1099511627776:=by
 have h : i = 0 ∨ i = 1 ∨ i = 2 ∨ i = 3 ∨ i = 4 ∨ i = 5 ∨ i = 6:=ae
 rcases h with rfl | rfl | rfl | rfl | rfl | rfl | rfl <;> decide +kernel
def se (c : Int) : Int :=
 if c = 2 then 1 else if c = 3 then 1 else if c = 4 then 1 else if c = 7 then 2 else if c = 8 then 2 else if c = 9 then 3 else if c = 11 then 4 else if c = 12 then 5
 else if c = 18 then 6 else if c = 19 then 6 else if c = 20 then 6 else if c = 21 then 7 else if c = 22 then 7 else if c = 24 then 8 else if c = 25 then 8
 else if c = 32 then 9 else if c = 33 then 9 else if c = 34 then 9 else if c = 35 then 9 else if c = 36 then 9 else if c = 37 then 9 else if c = 38 then 9 else if c = 39 then 9 else if c = 40 then 9 else if c = 41 then 9 else 0
def uq (c : Int) : Bool:=decide (c = 1 ∨ 24 ≤ c)
def x9 (k : Int) (s : ByteArray) : ByteArray × ByteArray :=
 if k = 0 then (s,⟨#[119]⟩) else if k ≤ 6 then (s ++ s,⟨#[119]⟩) else if k ≤ 9 then (s,s) else (s ++ s,s)
def pR (c : Int) : ByteArray × ByteArray :=
 if 48 ≤ c ∧ c ≤ 72 then x9 (c - 48) ⟨#[119]⟩ else if 80 ≤ c ∧ c ≤ 104 then x9 (c - 80) ⟨#[108]⟩
 else if c = 24 then (⟨#[]⟩,⟨#[119]⟩) else if c = 42 then (⟨#[]⟩,⟨#[119]⟩) else if c = 25 then (⟨#[]⟩,⟨#[108]⟩)
 else if c = 32 then (⟨#[119]⟩,⟨#[119]⟩) else if c = 33 then (⟨#[119]⟩,⟨#[119]⟩) else if c = 34 then (⟨#[119]⟩,⟨#[119]⟩) else if c = 35 then (⟨#[119]⟩,⟨#[119]⟩) else if c = 36 then (⟨#[119]⟩,⟨#[119]⟩) else if c = 43 then (⟨#[119]⟩,⟨#[119]⟩) else if c = 115 then (⟨#[119]⟩,⟨#[119]⟩) else if c = 116 then (⟨#[119]⟩,⟨#[119]⟩)
 else if c = 37 then (⟨#[119]⟩,⟨#[108]⟩) else if c = 113 then (⟨#[119]⟩,⟨#[108]⟩) else if c = 114 then (⟨#[119]⟩,⟨#[108]⟩)
 else if c = 112 then (⟨#[108]⟩,⟨#[119]⟩) else if c = 117 then (⟨#[108]⟩,⟨#[108]⟩)
 else if c = 38 then (⟨#[119,119]⟩,⟨#[]⟩) else if c = 39 then (⟨#[119,119]⟩,⟨#[]⟩) else if c = 40 then (⟨#[119,119]⟩,⟨#[]⟩) else if c = 41 then (⟨#[119,108]⟩,⟨#[]⟩) else (⟨#[]⟩,⟨#[]⟩)
theorem Jk (c : Int) (w : World) : Calls Tryz.prog 227 #[.int .u8 c] w fun e w' => e = .returned (.int .i8 (se c)) ∧ w' = w:=by
 go_enter Tryz.func227,Tryz.ntmps227
 go_wp2
 all_goals (go_ret; exact ⟨by unfold se; simp_all,rfl⟩)
theorem KD (c : Int) (w : World) : Calls Tryz.prog 228 #[.int .u8 c] w fun e w' => e = .returned (.bool (uq c)) ∧ w' = w:=by
 go_enter Tryz.func228,Tryz.ntmps228
 go_wp2
 all_goals (go_ret; refine ⟨?_,rfl⟩; unfold uq; simp_all)
theorem KU (k : Int) (s : ByteArray) (w : World) (hs : s.size ≤ 1099511627776) : Calls Tryz.prog 255 #[.int .u8 k,.string s] w fun e w' => e = .returned (.tuple #[.string (x9 k s).1,.string (x9 k s).2]) ∧ w' = w:=by
 have hax : ¬ (s.size + s.size > 9223372036854775807):=ae
 go_enter Tryz.func255,Tryz.ntmps255
 go_wp2
 all_goals (go_ret2; refine ⟨?_,rfl⟩; unfold x9; simp_all)
 all_goals (repeat rw [if_neg ae])
 all_goals exact ⟨rfl,rfl⟩
theorem Fv (c : Int) (w : World) (h0 : 0 ≤ c) (h1 : c ≤ 255) : Calls Tryz.prog 225 #[.int .u8 c] w fun e w' => e = .returned (.tuple #[.string (pR c).1,.string (pR c).2]) ∧ w' = w:=by
 by_cases ha : 48 ≤ c ∧ c ≤ 72
 ·rw [show pR c = x9 (c - 48) ⟨#[119]⟩ by unfold pR; rw [if_pos ha]]
  obtain ⟨ha1,ha2⟩:=ha
  go_enter Tryz.func225,Tryz.ntmps225
  go_wp2_with fail;refine (KU (c - 48) ⟨#[119]⟩ w av).mono ?_;rintro e w' ⟨rfl,rfl⟩;go_wp2;go_ret2;exact ⟨rfl,rfl⟩
 ·by_cases hb : 80 ≤ c ∧ c ≤ 104
  ·rw [show pR c = x9 (c - 80) ⟨#[108]⟩ by unfold pR; rw [if_neg ha,if_pos hb]]
   obtain ⟨hb1,hb2⟩:=hb;have hx : ¬ c ≤ 72:=ae
   go_enter Tryz.func225,Tryz.ntmps225
   go_wp2_with fail;refine (KU (c - 80) ⟨#[108]⟩ w av).mono ?_;rintro e w' ⟨rfl,rfl⟩;go_wp2;go_ret2;exact ⟨rfl,rfl⟩
  ·unfold pR;rw [if_neg ha,if_neg hb]
   go_enter Tryz.func225,Tryz.ntmps225
   go_wp2_with fail
   all_goals (go_ret2; first | exact ⟨rfl,rfl⟩ | (refine ⟨?_,rfl⟩; simp_all))
theorem eA {ops : Array Oper} {Q : Exit → Act → World → Prop} {o : Oper} {rest : List Oper} {a : Act} {w w' : World} {v : Value} (hg : o.guard = none) (he : (execOp a.eval o).run Tryz.prog w = .ok (.value v) w')
  (h : wpList Tryz.prog ops Q rest (a.put o.dst v) w') : wpList Tryz.prog ops Q (o :: rest) a w :=
 wpList_plain hg fun K hK => by simp only [Oper.wp,he,Oper.upon_value]; exact hK _ _ h
theorem DV {ops : Array Oper} {Q : Exit → Act → World → Prop} {o : Oper} {rest : List Oper} {a : Act} {w w' : World} (hg : o.guard = none) (he : (execOp a.eval o).run Tryz.prog w = .ok .skip w')
  (h : wpList Tryz.prog ops Q rest (a.put o.dst undef) w') : wpList Tryz.prog ops Q (o :: rest) a w :=
 wpList_plain hg fun K hK => by simp only [Oper.wp,he,Oper.upon_skip]; exact hK _ _ h
theorem Dk {id s s' : Nat} {k c : Int} {pos pos' : String} {af : Array Edge} {x y : Code} {Q : Exit → Act → World → Prop} {ts : Array Value} {w : World}
  (h4 : ts[4]?.getD undef = .int .u8 c) (hz : s < ts.size) (hz' : s' < ts.size)
  (hx : c = k → x.wp Tryz.prog Q ⟨(ts.setIfInBounds s' (.bool (c == k))).setIfInBounds s (.bool (c == k)),[]⟩ w)
  (hy : c ≠ k → y.wp Tryz.prog Q ⟨(ts.setIfInBounds s' (.bool (c == k))).setIfInBounds s (.bool (c == k)),[]⟩ w) :
  ((Code.region id #[{dst:=some s',op:=.binOp .eql 5 (.tmp 4) (.const (.int .u8 k)) 5,type:=4,pos:=pos,after:=#[],guard:=none},{dst:=some s,op:=.assign (.tmp s'),type:=4,pos:=pos',after:=af,guard:=none}] false).seq (Code.cond (.tmp s) x y)).wp Tryz.prog Q ⟨ts,[]⟩ w:=by
 refine wp_seq (wp_region_lit ?_)
 refine wpList_plain rfl fun K hK => ?_
 have e1 : (execOp ({ tmps:=ts,defers:=[] } : Act).eval { dst:=some s',op:=Op.binOp BinOp.eql 5 (Operand.tmp 4) (Operand.const (Value.int IntKind.u8 k)) 5,type:=4,pos:=pos,after:=#[],guard:=none }).run Tryz.prog w = .ok (.value (.bool (c == k))) w:=by
  simp [go_sem,h4]
 simp only [Oper.wp,e1,Oper.upon_value]
 refine hK _ _ (wpList_plain rfl fun K' hK' => ?_)
 have e3 : (execOp ({ tmps:=ts.setIfInBounds s' (.bool (c == k)),defers:=[] } : Act).eval { dst:=some s,op:=Op.assign (Operand.tmp s'),type:=4,pos:=pos',after:=af,guard:=none }).run Tryz.prog w = .ok (.value (.bool (c == k))) w:=by
  simp [go_sem,hz']
 show Oper.upon _ _ _ _ _ (Sem.run Tryz.prog (execOp ({ tmps:=ts.setIfInBounds s' (.bool (c == k)),defers:=[] } : Act).eval _) w)
 rw [e3,Oper.upon_value];refine hK' _ _ ?_
 have e5 : ({ tmps:=(ts.setIfInBounds s' (.bool (c == k))).setIfInBounds s (.bool (c == k)),defers:=[] } : Act).eval (.tmp s) = .bool (c == k):=by
  show ((ts.setIfInBounds s' (.bool (c == k))).setIfInBounds s (.bool (c == k))).getD s undef = _
  simp [hz]
 refine wpList_nil (wp_cond_split e5 (fun h => hx pF) (fun h => hy pF))
def cT (k : Int) (wd : ByteArray) (tk : Int) (pp ps : ByteArray) (pl : Bool) : Array Value:=#[.int .u8 k,.string wd,.int .i8 tk,.string pp,.string ps,.bool pl]
set_option maxRecDepth 10000 in
theorem GP {id s : Nat} {k tk : Int} {wd pp ps : ByteArray} {pl : Bool} {p1 p2 p3 : String} {a2 a3 : Array Edge} {Q : Exit → Act → World → Prop} {ts : Array Value} {w : World}
  (h2 : ts[2]?.getD undef = .pointer (some ⟨w.heap.size,0,none⟩)) (hz : s < ts.size) (hs : 4 < s)
  (hq : Q .ret ⟨(ts.setIfInBounds s (.agg (cT k wd tk pp ps pl))).setIfInBounds 3 (.bool true),[]⟩ (w.alloc (.cells (cT k wd tk pp ps pl) 233))) :
  ((Code.region id #[{dst:=some s,op:=.build 233 #[(0,.const (.int .u8 k)),(1,.const (.string wd)),(2,.const (.int .i8 tk)),(3,.const (.string pp)),(4,.const (.string ps)),(5,.const (.bool pl))],type:=233,pos:=p1,after:=#[],guard:=none},
   {dst:=none,op:=.store 233 (.tmp 2) (.tmp s),type:=0,pos:=p2,after:=a2,guard:=none},{dst:=some 3,op:=.assign (.const (.bool true)),type:=4,pos:=p3,after:=a3,guard:=none}] false).seq .ret).wp Tryz.prog Q ⟨ts,[]⟩ (w.alloc (.cells (cT 0 ⟨#[]⟩ 0 ⟨#[]⟩ ⟨#[]⟩ false) 233)):=by
 refine wp_seq (wp_region_lit ?_)
 refine wpList_plain rfl fun K hK => ?_
 have e1 : (execOp ({ tmps:=ts,defers:=[] } : Act).eval { dst:=some s,op:=.build 233 #[(0,.const (.int .u8 k)),(1,.const (.string wd)),(2,.const (.int .i8 tk)),(3,.const (.string pp)),(4,.const (.string ps)),(5,.const (.bool pl))],type:=233,pos:=p1,after:=#[],guard:=none }).run Tryz.prog (w.alloc (.cells (cT 0 ⟨#[]⟩ 0 ⟨#[]⟩ ⟨#[]⟩ false) 233)) = .ok (.value (.agg (cT k wd tk pp ps pl))) (w.alloc (.cells (cT 0 ⟨#[]⟩ 0 ⟨#[]⟩ ⟨#[]⟩ false) 233)):=by
  simp [go_sem,cT]
 simp only [Oper.wp,e1,Oper.upon_value]
 refine hK _ _ (wpList_plain rfl fun K' hK' => ?_)
 have e2 : (execOp ({ tmps:=ts.setIfInBounds s (.agg (cT k wd tk pp ps pl)),defers:=[] } : Act).eval { dst:=none,op:=.store 233 (.tmp 2) (.tmp s),type:=0,pos:=p2,after:=a2,guard:=none }).run Tryz.prog (w.alloc (.cells (cT 0 ⟨#[]⟩ 0 ⟨#[]⟩ ⟨#[]⟩ false) 233)) = .ok .skip (w.alloc (.cells (cT k wd tk pp ps pl) 233)):=by
  have g2 : (ts.setIfInBounds s (.agg (cT k wd tk pp ps pl)))[2]?.getD undef = .pointer (some ⟨w.heap.size,0,none⟩):=by
   rw [Array.getElem?_setIfInBounds_ne ae]; exact h2
  simp only [cT] at g2 ⊢
  simp [go_sem,g2,hz]
 show Oper.upon _ _ _ _ _ (Sem.run Tryz.prog (execOp ({ tmps:=ts.setIfInBounds s (.agg (cT k wd tk pp ps pl)),defers:=[] } : Act).eval _) _)
 rw [e2,Oper.upon_skip]
 refine hK' _ _ (wpList_plain rfl fun K2 hK2 => ?_)
 have e3 : (execOp ({ tmps:=ts.setIfInBounds s (.agg (cT k wd tk pp ps pl)),defers:=[] } : Act).eval { dst:=some 3,op:=.assign (.const (.bool true)),type:=4,pos:=p3,after:=a3,guard:=none }).run Tryz.prog (w.alloc (.cells (cT k wd tk pp ps pl) 233)) = .ok (.value (.bool true)) (w.alloc (.cells (cT k wd tk pp ps pl) 233)):=by
  simp [go_sem]
 show Oper.upon _ _ _ _ _ (Sem.run Tryz.prog (execOp ({ tmps:=ts.setIfInBounds s (.agg (cT k wd tk pp ps pl)),defers:=[] } : Act).eval _) _)
 rw [e3,Oper.upon_value];exact hK2 _ _ (wpList_nil (wp_ret hq))
abbrev aB:=Int × ByteArray × Int × ByteArray × ByteArray × Bool
def gW : List aB → Int → Array Value × Bool
 | [],_ => (cT 0 ⟨#[]⟩ 0 ⟨#[]⟩ ⟨#[]⟩ false,false)
 | x :: r,c => if c = x.1 then (cT x.1 x.2.1 x.2.2.1 x.2.2.2.1 x.2.2.2.2.1 x.2.2.2.2.2,true) else gW r c
def qH : List aB:=[
 ((0,⟨#[116,114,97,112]⟩,0,⟨#[]⟩,⟨#[]⟩,false) : aB),
 ((1,⟨#[110,111,112]⟩,0,⟨#[]⟩,⟨#[]⟩,true) : aB),
 ((2,⟨#[98,108,111,99,107]⟩,1,⟨#[]⟩,⟨#[]⟩,false) : aB),
 ((3,⟨#[108,111,111,112]⟩,1,⟨#[]⟩,⟨#[]⟩,false) : aB),
 ((4,⟨#[105,102]⟩,1,⟨#[]⟩,⟨#[]⟩,false) : aB),
 ((5,⟨#[101,108,115,101]⟩,0,⟨#[]⟩,⟨#[]⟩,false) : aB),
 ((6,⟨#[101,110,100]⟩,0,⟨#[]⟩,⟨#[]⟩,false) : aB),
 ((7,⟨#[98,114]⟩,2,⟨#[]⟩,⟨#[]⟩,false) : aB),
 ((8,⟨#[98,114,105,102]⟩,2,⟨#[]⟩,⟨#[]⟩,false) : aB),
 ((9,⟨#[98,114,116,97,98,108,101]⟩,3,⟨#[]⟩,⟨#[]⟩,false) : aB),
 ((10,⟨#[114,101,116,117,114,110]⟩,0,⟨#[]⟩,⟨#[]⟩,false) : aB),
 ((11,⟨#[99,97,108,108]⟩,4,⟨#[]⟩,⟨#[]⟩,false) : aB),
 ((12,⟨#[104,111,115,116]⟩,5,⟨#[]⟩,⟨#[]⟩,false) : aB),
 ((16,⟨#[100,114,111,112]⟩,0,⟨#[]⟩,⟨#[]⟩,false) : aB),
 ((17,⟨#[115,101,108,101,99,116]⟩,0,⟨#[]⟩,⟨#[]⟩,false) : aB),
 ((18,⟨#[103,101,116]⟩,6,⟨#[]⟩,⟨#[]⟩,false) : aB),
 ((19,⟨#[115,101,116]⟩,6,⟨#[]⟩,⟨#[]⟩,false) : aB),
 ((20,⟨#[116,101,101]⟩,6,⟨#[]⟩,⟨#[]⟩,false) : aB),
 ((21,⟨#[103,103,101,116]⟩,7,⟨#[]⟩,⟨#[]⟩,false) : aB),
 ((22,⟨#[103,115,101,116]⟩,7,⟨#[]⟩,⟨#[]⟩,false) : aB),
 ((24,⟨#[119,46,99,111,110,115,116]⟩,8,⟨#[]⟩,⟨#[119]⟩,true) : aB),
 ((25,⟨#[108,46,99,111,110,115,116]⟩,8,⟨#[]⟩,⟨#[108]⟩,true) : aB),
 ((32,⟨#[119,46,108,111,97,100,56,117]⟩,9,⟨#[119]⟩,⟨#[119]⟩,true) : aB),
 ((33,⟨#[119,46,108,111,97,100,56,115]⟩,9,⟨#[119]⟩,⟨#[119]⟩,true) : aB),
 ((34,⟨#[119,46,108,111,97,100,49,54,117]⟩,9,⟨#[119]⟩,⟨#[119]⟩,true) : aB),
 ((35,⟨#[119,46,108,111,97,100,49,54,115]⟩,9,⟨#[119]⟩,⟨#[119]⟩,true) : aB),
 ((36,⟨#[119,46,108,111,97,100]⟩,9,⟨#[119]⟩,⟨#[119]⟩,true) : aB),
 ((37,⟨#[108,46,108,111,97,100]⟩,9,⟨#[119]⟩,⟨#[108]⟩,true) : aB),
 ((38,⟨#[119,46,115,116,111,114,101,56]⟩,9,⟨#[119,119]⟩,⟨#[]⟩,true) : aB),
 ((39,⟨#[119,46,115,116,111,114,101,49,54]⟩,9,⟨#[119,119]⟩,⟨#[]⟩,true) : aB),
 ((40,⟨#[119,46,115,116,111,114,101]⟩,9,⟨#[119,119]⟩,⟨#[]⟩,true) : aB),
 ((41,⟨#[108,46,115,116,111,114,101]⟩,9,⟨#[119,108]⟩,⟨#[]⟩,true) : aB),
 ((42,⟨#[115,105,122,101]⟩,0,⟨#[]⟩,⟨#[119]⟩,true) : aB),
 ((43,⟨#[103,114,111,119]⟩,0,⟨#[119]⟩,⟨#[119]⟩,true) : aB),
 ((48,⟨#[119,46,101,113,122]⟩,0,⟨#[119]⟩,⟨#[119]⟩,true) : aB),
 ((49,⟨#[119,46,101,113]⟩,0,⟨#[119,119]⟩,⟨#[119]⟩,true) : aB),
 ((50,⟨#[119,46,110,101]⟩,0,⟨#[119,119]⟩,⟨#[119]⟩,true) : aB),
 ((51,⟨#[119,46,108,116,115]⟩,0,⟨#[119,119]⟩,⟨#[119]⟩,true) : aB),
 ((52,⟨#[119,46,108,116,117]⟩,0,⟨#[119,119]⟩,⟨#[119]⟩,true) : aB),
 ((53,⟨#[119,46,108,101,115]⟩,0,⟨#[119,119]⟩,⟨#[119]⟩,true) : aB),
 ((54,⟨#[119,46,108,101,117]⟩,0,⟨#[119,119]⟩,⟨#[119]⟩,true) : aB),
 ((55,⟨#[119,46,99,108,122]⟩,0,⟨#[119]⟩,⟨#[119]⟩,true) : aB),
 ((56,⟨#[119,46,99,116,122]⟩,0,⟨#[119]⟩,⟨#[119]⟩,true) : aB),
 ((57,⟨#[119,46,112,111,112]⟩,0,⟨#[119]⟩,⟨#[119]⟩,true) : aB),
 ((58,⟨#[119,46,97,100,100]⟩,0,⟨#[119,119]⟩,⟨#[119]⟩,true) : aB),
 ((59,⟨#[119,46,115,117,98]⟩,0,⟨#[119,119]⟩,⟨#[119]⟩,true) : aB),
 ((60,⟨#[119,46,109,117,108]⟩,0,⟨#[119,119]⟩,⟨#[119]⟩,true) : aB),
 ((61,⟨#[119,46,100,105,118,115]⟩,0,⟨#[119,119]⟩,⟨#[119]⟩,true) : aB),
 ((62,⟨#[119,46,100,105,118,117]⟩,0,⟨#[119,119]⟩,⟨#[119]⟩,true) : aB),
 ((63,⟨#[119,46,114,101,109,115]⟩,0,⟨#[119,119]⟩,⟨#[119]⟩,true) : aB),
 ((64,⟨#[119,46,114,101,109,117]⟩,0,⟨#[119,119]⟩,⟨#[119]⟩,true) : aB),
 ((65,⟨#[119,46,97,110,100]⟩,0,⟨#[119,119]⟩,⟨#[119]⟩,true) : aB),
 ((66,⟨#[119,46,111,114]⟩,0,⟨#[119,119]⟩,⟨#[119]⟩,true) : aB),
 ((67,⟨#[119,46,120,111,114]⟩,0,⟨#[119,119]⟩,⟨#[119]⟩,true) : aB),
 ((68,⟨#[119,46,115,104,108]⟩,0,⟨#[119,119]⟩,⟨#[119]⟩,true) : aB),
 ((69,⟨#[119,46,115,104,114,115]⟩,0,⟨#[119,119]⟩,⟨#[119]⟩,true) : aB),
 ((70,⟨#[119,46,115,104,114,117]⟩,0,⟨#[119,119]⟩,⟨#[119]⟩,true) : aB),
 ((71,⟨#[119,46,114,111,116,108]⟩,0,⟨#[119,119]⟩,⟨#[119]⟩,true) : aB),
 ((72,⟨#[119,46,114,111,116,114]⟩,0,⟨#[119,119]⟩,⟨#[119]⟩,true) : aB),
 ((80,⟨#[108,46,101,113,122]⟩,0,⟨#[108]⟩,⟨#[119]⟩,true) : aB),
 ((81,⟨#[108,46,101,113]⟩,0,⟨#[108,108]⟩,⟨#[119]⟩,true) : aB),
 ((82,⟨#[108,46,110,101]⟩,0,⟨#[108,108]⟩,⟨#[119]⟩,true) : aB),
 ((83,⟨#[108,46,108,116,115]⟩,0,⟨#[108,108]⟩,⟨#[119]⟩,true) : aB),
 ((84,⟨#[108,46,108,116,117]⟩,0,⟨#[108,108]⟩,⟨#[119]⟩,true) : aB),
 ((85,⟨#[108,46,108,101,115]⟩,0,⟨#[108,108]⟩,⟨#[119]⟩,true) : aB),
 ((86,⟨#[108,46,108,101,117]⟩,0,⟨#[108,108]⟩,⟨#[119]⟩,true) : aB),
 ((87,⟨#[108,46,99,108,122]⟩,0,⟨#[108]⟩,⟨#[108]⟩,true) : aB),
 ((88,⟨#[108,46,99,116,122]⟩,0,⟨#[108]⟩,⟨#[108]⟩,true) : aB),
 ((89,⟨#[108,46,112,111,112]⟩,0,⟨#[108]⟩,⟨#[108]⟩,true) : aB),
 ((90,⟨#[108,46,97,100,100]⟩,0,⟨#[108,108]⟩,⟨#[108]⟩,true) : aB),
 ((91,⟨#[108,46,115,117,98]⟩,0,⟨#[108,108]⟩,⟨#[108]⟩,true) : aB),
 ((92,⟨#[108,46,109,117,108]⟩,0,⟨#[108,108]⟩,⟨#[108]⟩,true) : aB),
 ((93,⟨#[108,46,100,105,118,115]⟩,0,⟨#[108,108]⟩,⟨#[108]⟩,true) : aB),
 ((94,⟨#[108,46,100,105,118,117]⟩,0,⟨#[108,108]⟩,⟨#[108]⟩,true) : aB),
 ((95,⟨#[108,46,114,101,109,115]⟩,0,⟨#[108,108]⟩,⟨#[108]⟩,true) : aB),
 ((96,⟨#[108,46,114,101,109,117]⟩,0,⟨#[108,108]⟩,⟨#[108]⟩,true) : aB),
 ((97,⟨#[108,46,97,110,100]⟩,0,⟨#[108,108]⟩,⟨#[108]⟩,true) : aB),
 ((98,⟨#[108,46,111,114]⟩,0,⟨#[108,108]⟩,⟨#[108]⟩,true) : aB),
 ((99,⟨#[108,46,120,111,114]⟩,0,⟨#[108,108]⟩,⟨#[108]⟩,true) : aB),
 ((100,⟨#[108,46,115,104,108]⟩,0,⟨#[108,108]⟩,⟨#[108]⟩,true) : aB),
 ((101,⟨#[108,46,115,104,114,115]⟩,0,⟨#[108,108]⟩,⟨#[108]⟩,true) : aB),
 ((102,⟨#[108,46,115,104,114,117]⟩,0,⟨#[108,108]⟩,⟨#[108]⟩,true) : aB),
 ((103,⟨#[108,46,114,111,116,108]⟩,0,⟨#[108,108]⟩,⟨#[108]⟩,true) : aB),
 ((104,⟨#[108,46,114,111,116,114]⟩,0,⟨#[108,108]⟩,⟨#[108]⟩,true) : aB),
 ((112,⟨#[119,46,119,114,97,112]⟩,0,⟨#[108]⟩,⟨#[119]⟩,true) : aB),
 ((113,⟨#[108,46,101,120,116,101,110,100,115]⟩,0,⟨#[119]⟩,⟨#[108]⟩,true) : aB),
 ((114,⟨#[108,46,101,120,116,101,110,100,117]⟩,0,⟨#[119]⟩,⟨#[108]⟩,true) : aB),
 ((115,⟨#[119,46,101,120,116,56]⟩,0,⟨#[119]⟩,⟨#[119]⟩,true) : aB),
 ((116,⟨#[119,46,101,120,116,49,54]⟩,0,⟨#[119]⟩,⟨#[119]⟩,true) : aB),
 ((117,⟨#[108,46,101,120,116,51,50]⟩,0,⟨#[108]⟩,⟨#[108]⟩,true) : aB)]
def Fr (c : Int) (b : Nat) (ts : Array Value) : Prop:=ts.size = 276 ∧ ts[2]?.getD undef = .pointer (some ⟨b,0,none⟩) ∧ ts[4]?.getD undef = .int .u8 c
theorem Fr.put {c : Int} {b : Nat} {ts : Array Value} (h : Fr c b ts) {s : Nat} (hs : 4 < s) (v : Value) : Fr c b (ts.setIfInBounds s v):=by
 refine ⟨by simpa using h.1,?_,?_⟩
 ·rw [Array.getElem?_setIfInBounds_ne ae]; exact h.2.1
 ·rw [Array.getElem?_setIfInBounds_ne ae]; exact h.2.2
def uu (w : World) (V : Array Value × Bool) : Ending → World → Prop:=fun e w' => e = .returned (.tuple #[.agg V.1,.bool V.2]) ∧ w' = w.alloc (.cells V.1 233)
theorem vY {w : World} {V : Array Value × Bool} {k tk : Int} {wd pp ps : ByteArray} {pl ok : Bool} {ts : Array Value} (hV : (cT k wd tk pp ps pl,ok) = V)
  (h2 : ts[2]?.getD undef = .pointer (some ⟨w.heap.size,0,none⟩)) (h3 : ts[3]?.getD undef = .bool ok) : bodyPost Tryz.prog Tryz.f163 (uu w V) .ret ⟨ts,[]⟩ (w.alloc (.cells (cT k wd tk pp ps pl) 233)):=by
 subst hV;refine bodyPost_ret (v:=.tuple #[.agg (cT k wd tk pp ps pl),.bool ok]) ?_ rfl ⟨rfl,rfl⟩;rw [results_cell_tmp rfl]
 simp only [cT]
 simp [go_sem,h2,h3]
theorem PB {id id' s s' s2 : Nat} {c : Int} {x : aB} {r : List aB} {V : Array Value × Bool} {pos pos' p1 p2 p3 : String} {af a2 a3 : Array Edge} {y : Code} {Q : Exit → Act → World → Prop} {ts : Array Value} {w : World}
  (hQ : ∀ a w',bodyPost Tryz.prog Tryz.f163 (uu w V) .ret a w' → Q .ret a w') (ht : Fr c w.heap.size ts) (hV : gW (x :: r) c = V) (l1 : 4 < s ∧ s < 276) (l2 : 4 < s' ∧ s' < 276) (l3 : 4 < s2 ∧ s2 < 276)
  (next : gW r c = V → ∀ ts',Fr c w.heap.size ts' → y.wp Tryz.prog Q ⟨ts',[]⟩ (w.alloc (.cells (cT 0 ⟨#[]⟩ 0 ⟨#[]⟩ ⟨#[]⟩ false) 233))) :
  ((Code.region id #[{dst:=some s',op:=.binOp .eql 5 (.tmp 4) (.const (.int .u8 x.1)) 5,type:=4,pos:=pos,after:=#[],guard:=none},{dst:=some s,op:=.assign (.tmp s'),type:=4,pos:=pos',after:=af,guard:=none}] false).seq (Code.cond (.tmp s)
   ((Code.region id' #[{dst:=some s2,op:=.build 233 #[(0,.const (.int .u8 x.1)),(1,.const (.string x.2.1)),(2,.const (.int .i8 x.2.2.1)),(3,.const (.string x.2.2.2.1)),(4,.const (.string x.2.2.2.2.1)),(5,.const (.bool x.2.2.2.2.2))],type:=233,pos:=p1,after:=#[],guard:=none},
   {dst:=none,op:=.store 233 (.tmp 2) (.tmp s2),type:=0,pos:=p2,after:=a2,guard:=none},{dst:=some 3,op:=.assign (.const (.bool true)),type:=4,pos:=p3,after:=a3,guard:=none}] false).seq .ret) y)).wp Tryz.prog Q ⟨ts,[]⟩ (w.alloc (.cells (cT 0 ⟨#[]⟩ 0 ⟨#[]⟩ ⟨#[]⟩ false) 233)):=by
 have hts:=(ht.put l2.1 (.bool (c == x.1))).put l1.1 (.bool (c == x.1))
 refine Dk ht.2.2 (by rw [ht.1]; exact l1.2) (by rw [ht.1]; exact l2.2) (fun h => ?_) (fun h => next (by rw [gW,if_neg h] at hV; exact hV) _ hts)
 refine GP hts.2.1 (by rw [hts.1]; exact l3.2) l3.1 (hQ _ _ (vY (by rw [gW,if_pos h] at hV; exact hV) ?_ ?_))
 ·rw [Array.getElem?_setIfInBounds_ne ae];exact (hts.put l3.1 _).2.1
 ·rw [Array.getElem?_setIfInBounds_self_of_lt (by simp; have:=hts.1; simp at this; omega)]
  rfl
theorem O9 (c : Int) (w : World) : Calls Tryz.prog 163 #[.int .u8 c] w (uu w (gW qH c)):=by
 obtain ⟨V,hV⟩ : ∃ V,gW qH c = V:=⟨_,rfl⟩;rw [hV];refine calls_of_wp Tryz.func163 rfl ?_;obtain ⟨ts,hts⟩ : ∃ ts : Array Value,(#[.int .u8 c] : Array Value) ++ Array.replicate (Tryz.f163.ntmps - (#[.int .u8 c] : Array Value).size) undef = ts:=⟨_,rfl⟩
 have z0 : ts.size = 276:=by rw [← hts]; simp [Tryz.ntmps163]
 have t0 : ts[0]?.getD undef = .int .u8 c:=by rw [← hts]; simp
 rw [hts];clear hts;refine wp_seq (wp_region_lit ?_)
 refine eA rfl (v:=.pointer (some ⟨w.heap.size,0,none⟩)) (w':=w.alloc (.cells (cT 0 ⟨#[]⟩ 0 ⟨#[]⟩ ⟨#[]⟩ false) 233)) (by simp only [cT]; simp [go_sem]) ?_
 refine eA rfl (v:=.bool false) (w':=w.alloc (.cells (cT 0 ⟨#[]⟩ 0 ⟨#[]⟩ ⟨#[]⟩ false) 233)) cu ?_;refine wpList_nil (wp_seq (wp_seq (wp_region_lit ?_)))
 refine eA rfl (v:=.int .u8 c) (w':=w.alloc (.cells (cT 0 ⟨#[]⟩ 0 ⟨#[]⟩ ⟨#[]⟩ false) 233)) (by simp [go_sem,Act.put,t0]) ?_
 refine wpList_nil (wp_block ?_)
 have hts : Fr c w.heap.size (((ts.setIfInBounds 2 (.pointer (some ⟨w.heap.size,0,none⟩))).setIfInBounds 3 (.bool false)).setIfInBounds 4 (.int .u8 c)):=by
  refine ⟨tD,?_,?_⟩
  ·rw [Array.getElem?_setIfInBounds_ne ae,Array.getElem?_setIfInBounds_ne ae,Array.getElem?_setIfInBounds_self_of_lt ae]; rfl
  ·rw [Array.getElem?_setIfInBounds_self_of_lt aG]; rfl
 show Code.wp _ _ _ ⟨((ts.setIfInBounds 2 (.pointer (some ⟨w.heap.size,0,none⟩))).setIfInBounds 3 (.bool false)).setIfInBounds 4 (.int .u8 c),[]⟩ _
 generalize ((ts.setIfInBounds 2 (.pointer (some ⟨w.heap.size,0,none⟩))).setIfInBounds 3 (.bool false)).setIfInBounds 4 (.int .u8 c) = ts1 at hts ⊢;clear z0 t0;clear ts;unfold qH at hV
 iterate 90
  refine PB ?_ hts hV ?_ ?_ ?_ ?_
  ·exact fun _ _ h => h
  ·decide
  ·decide
  ·decide
  clear hV hts;intro hV ts hts
 refine wp_skip ?_
 show Code.wp _ _ _ _ _
 refine wp_seq (wp_region_lit ?_)
 have h275 : (275 : Nat) < ts.size:=by rw [hts.1]; decide
 refine eA rfl (v:=.agg (cT 0 ⟨#[]⟩ 0 ⟨#[]⟩ ⟨#[]⟩ false)) (w':=w.alloc (.cells (cT 0 ⟨#[]⟩ 0 ⟨#[]⟩ ⟨#[]⟩ false) 233)) (by simp only [cT]; simp [go_sem]) ?_
 have g2 : (ts.setIfInBounds 275 (.agg (cT 0 ⟨#[]⟩ 0 ⟨#[]⟩ ⟨#[]⟩ false)))[2]?.getD undef = .pointer (some ⟨w.heap.size,0,none⟩):=(hts.put av _).2.1
 refine DV rfl (w':=w.alloc (.cells (cT 0 ⟨#[]⟩ 0 ⟨#[]⟩ ⟨#[]⟩ false) 233)) (by simp only [cT]; simp [go_sem,Act.put,h275,hts.2.1]) ?_
 refine eA rfl (v:=.bool false) (w':=w.alloc (.cells (cT 0 ⟨#[]⟩ 0 ⟨#[]⟩ ⟨#[]⟩ false) 233)) cu ?_;refine wpList_nil (wp_ret (vY hV ?_ ?_))
 ·show ((ts.setIfInBounds 275 _).setIfInBounds 3 _)[2]?.getD undef = _
  rw [Array.getElem?_setIfInBounds_ne ae];exact g2
 ·show ((ts.setIfInBounds 275 _).setIfInBounds 3 _)[3]?.getD undef = _
  rw [Array.getElem?_setIfInBounds_self_of_lt aG];rfl
end Go.Proofs.YtheefojaplnnoaaGreatDoor

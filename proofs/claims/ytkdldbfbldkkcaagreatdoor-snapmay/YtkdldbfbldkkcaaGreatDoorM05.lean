/-
  Texts Split Word Kinds px Ref Of Ins.
-/
import Derived.Below
import Derived.BigQuiet
import Derived.Deep.QuietTactic
import Derived.Deep.RegionHeld3
import Derived.KernelRfl
import Derived.LoopIn
import Derived.LoopNIn
import Derived.OwnWalkIn
import Derived.RangeFuncBox
import Derived.RowKit
import Derived.Shelf.Abstract
import Derived.Shelf.RegionOpen
import Derived.TacticsInMore
import Derived.Test.YtkdldbfbldkkcaaGreatDoorProg
import Derived.WalkKit
import Derived.WalkLawsBesides
import Derived.WalkSpells
import Derived.Test.YtkdldbfbldkkcaaGreatDoorM00
import Derived.Test.YtkdldbfbldkkcaaGreatDoorM04
set_option linter.unusedVariables false
set_option maxRecDepth 100000
set_option maxHeartbeats 16000000
namespace Go.Proofs.YtkdldbfbldkkcaaGreatDoor
open Go.RowKit Go.Shelf
def uG (W : World) (c : Addr) : ByteArray:=match W.cell? c with
 | some (.string s) => s
 | _ => ByteArray.empty
theorem EZ (n l b1 b2 b3 : Nat) (h12 : b1 ≠ b2) (h32 : b3 ≠ b2) (s : ByteArray) (J : List ByteArray → World → Prop) (Jx : World → Prop)
  (hJ : ∀ r A v,J r A → J r (A.setCell ⟨b2,0,none⟩ v))
  (hY : ∀ x r A,J (x :: r) A → YieldAt Fence.wide (n - 1) Tryz.prog l #[.string x] A fun e B => (e = .returned (.bool true) ∧ J r B ∧ fH [⟨b1,0,none⟩,⟨b2,0,none⟩,⟨b3,0,none⟩] A B) ∨ (e = .returned (.bool false) ∧ Jx B))
  (W : World) (c1 : W.cell? ⟨b1,0,none⟩ = some (.string ⟨#[32]⟩)) (c2 : W.cell? ⟨b2,0,none⟩ = some (.string s)) (f2 : W.frozen? ⟨b2,0,none⟩ = false) (c3 : W.cell? ⟨b3,0,none⟩ = some (.int .i64 0)) (h0 : J (cK s) W) (hsz : s.size ≤ 1099511627776) :
  CallsIn Fence.wide n Tryz.prog 165 #[.func (.yield l) #[] #[],.pointer (some ⟨b1,0,none⟩),.pointer (some ⟨b2,0,none⟩),.pointer (some ⟨b3,0,none⟩)] W fun e B => (∃ v,e = .returned v) ∧ (J [] B ∨ Jx B):=by
 refine callsIn_of_wp Tryz.func165 rfl trivial ?_ rfl
 simp only [Tryz.ntmps165,List.size_toArray,List.length_cons,List.length_nil,Nat.reduceAdd,Nat.reduceSub,Array.replicate_succ,Array.replicate_zero,List.push_toArray,List.append_toArray,List.nil_append,List.cons_append]
 gi_wp2
 gi_loopw [] (fun wr => ∃ s : ByteArray,wr.cell? ⟨b1,0,none⟩ = some (.string ⟨#[32]⟩) ∧ wr.cell? ⟨b2,0,none⟩ = some (.string s) ∧ wr.frozen? ⟨b2,0,none⟩ = false ∧ wr.cell? ⟨b3,0,none⟩ = some (.int .i64 0) ∧ J (cK s) wr ∧ s.size ≤ 1099511627776)
  (fun wr => (uG wr ⟨b2,0,none⟩).size)
 case atStart => exact ⟨s,c1,c2,f2,c3,h0,hsz⟩
 case round =>
  clear c1 c2 f2 c3 h0 hsz;obtain ⟨s,c1,c2,f2,c3,hj,hsz⟩:=hrel;have hI:=callsIn_wide (n:=n - 1).2 (I7 s wr)
  rcases jY s.data.toList with hneg | ⟨hge,hlt⟩
  ·rw [hneg] at hI;rw [sQ s hneg] at hj;obtain ⟨fn,tmps,assign,body,hy,hR⟩:=hY s [] wr hj
   gi_wp2_with fail
   refine ⟨trivial,(fun h => nomatch h),?_⟩
   refine hI.mono ?_;rintro e w' ⟨rfl,rfl⟩
   gi_wp2_with fail
   refine ⟨(fun h => nomatch h),?_⟩
   refine hR.mono ?_
   rintro e W3 (⟨rfl,hJ3,hk3⟩ | ⟨rfl,hJx3⟩)
   ·gi_wp2_with fail
    go_end0;exact ⟨⟨_,rfl⟩,.inl hJ3⟩
   ·gi_wp2_with fail
    go_end0;exact ⟨⟨_,rfl⟩,.inr hJx3⟩
  ·obtain ⟨k,hk⟩ : ∃ k : Nat,Lib.indexByte s.data.toList 32 = k:=⟨(Lib.indexByte s.data.toList 32).toNat,ae⟩;rw [hk] at hI hlt;rw [← ij] at hlt;rw [tR s k hk] at hj;obtain ⟨fn,tmps,assign,body,hy,hR⟩:=hY _ _ wr hj;have k0 : (0 : Int) ≤ k:=ae;have k1 : (k : Int) < s.size:=ae;have k2 : (s.size : Int) ≤ 1099511627776:=ae;have k3 : wrap64 (k : Int) = k:=gp;have k4 : wrap64 ((k : Int) + 1) = k + 1:=gp
   gi_wp2_with fail
   refine ⟨trivial,(fun h => nomatch h),?_⟩
   refine hI.mono ?_;rintro e w' ⟨rfl,rfl⟩
   gi_wp2_with fail
   refine ⟨(fun h => nomatch h),?_⟩
   refine hR.mono ?_
   rintro e W3 (⟨rfl,hJ3,hk3⟩ | ⟨rfl,hJx3⟩)
   ·obtain ⟨d1,_⟩:=hk3 _ au _ c1;obtain ⟨d2,e2⟩:=hk3 _ au _ c2;obtain ⟨d3,_⟩:=hk3 _ au _ c3;rw [f2] at e2;have k5 : (k : Int) + 1 ≤ s.size:=ae
    gi_wp2_with fail
    go_roundw
    case rel =>
     refine ⟨s.extract (k + 1) s.size,?_,?_,?_,?_,hJ _ _ _ hJ3,?_⟩
     ·rw [World.cell?_setCell_other _ _ _ _ au]; exact d1
     ·exact World.cell?_setCell_same' _ _ _ (by rw [d2]; rfl)
     ·rw [World.frozen?_setCell]; exact e2
     ·rw [World.cell?_setCell_other _ _ _ _ au]; exact d3
     ·simp; omega
    case measure =>
     rw [show uG w' ⟨b2,0,none⟩ = s by simp [uG,c2]]
     rw [uG,World.cell?_setCell_same' _ _ _ (by rw [d2]; rfl)]
     simp
     omega
   ·gi_wp2_with fail
    refine bodyPost_ret (results_none rfl _ _ _) rfl ?_;exact ⟨⟨_,rfl⟩,.inr hJx3⟩
theorem JL (n b1 b2 b3 : Nat) (h12 : b1 ≠ b2) (h32 : b3 ≠ b2) (s : ByteArray) (W : World) (c1 : W.cell? ⟨b1,0,none⟩ = some (.string ⟨#[32]⟩)) (c2 : W.cell? ⟨b2,0,none⟩ = some (.string s)) (f2 : W.frozen? ⟨b2,0,none⟩ = false) (c3 : W.cell? ⟨b3,0,none⟩ = some (.int .i64 0)) (hsz : s.size ≤ 1099511627776) :
  Kr Fence.wide n Tryz.prog 165 #[.pointer (some ⟨b1,0,none⟩),.pointer (some ⟨b2,0,none⟩),.pointer (some ⟨b3,0,none⟩)] (fun x : ByteArray => #[.string x]) ⟨b2,0,none⟩ [⟨b1,0,none⟩,⟨b2,0,none⟩,⟨b3,0,none⟩] (cK s) W:=fun l J Jx W1 hk hJ hY h0 => by
 obtain ⟨d1,_⟩:=hk _ au _ c1;obtain ⟨d2,e2⟩:=hk _ au _ c2;obtain ⟨d3,_⟩:=hk _ au _ c3;exact EZ n l b1 b2 b3 h12 h32 s J Jx hJ hY W1 d1 d2 (e2.trans f2) d3 h0 hsz
theorem yb (s : ByteArray) (w : World) :
  Calls Tryz.prog 162 #[.string s,.string ⟨#[32]⟩] w fun e w' => e = .returned (.func (.func 165) #[] #[.pointer (some ⟨w.heap.size + 1,0,none⟩),.pointer (some ⟨w.heap.size,0,none⟩),.pointer (some ⟨w.heap.size + 2,0,none⟩)]) ∧
   w' = ((w.alloc (jK s)).alloc (jK ⟨#[32]⟩)).alloc (bJ 0):=by
 go_enter Tryz.func162,Tryz.ntmps162
 exact oC
def Holds (cs : List (Addr × Value)) (W : World) : Prop:=∀ p ∈ cs,W.cell? p.1 = some p.2 ∧ W.frozen? p.1 = false
theorem Holds.grown {cs : List (Addr × Value)} {A B : World} {row : Option Nat} (h : Holds cs A) (hg : A.grownBy B row) (hr : ∀ r,row = some r → ∃ o : Obj,A.heap[r]? = some o ∧ o.isCells = false) : Holds cs B :=
 fun p hp => ⟨cell_kept (h p hp).1 hg hr,(frozen_kept (h p hp).1 hg hr).trans (h p hp).2⟩
theorem Holds.turned {cs : List (Addr × Value)} {W : World} (h : Holds cs W) {l : Nat} {o : Obj} (o' : Obj) (hl : W.heap[l]? = some o) (ho : o.isCells = false) : Holds cs (W.putObj l o') :=
 h.grown (grownBy_putObj' W l o') (fun r e => by cases e; exact ⟨o,hl,ho⟩)
theorem Holds.other {cs : List (Addr × Value)} {W : World} (h : Holds cs W) (c : Addr) (v : Value) (hc : ∀ p ∈ cs,c ≠ p.1) : Holds cs (W.setCell c v) :=
 fun p hp => ⟨(World.cell?_setCell_other _ _ _ _ (hc p hp)).trans (h p hp).1,(World.frozen?_setCell _ _ _ _).trans (h p hp).2⟩
theorem Holds.cons {p : Addr × Value} {cs : List (Addr × Value)} {W : World} (h1 : W.cell? p.1 = some p.2) (h2 : W.frozen? p.1 = false) (h : Holds cs W) : Holds (p :: cs) W :=
 fun q hq => by
  rcases List.mem_cons.1 hq with rfl | hq
  ·exact ⟨h1,h2⟩
  ·exact h q hq
theorem Holds.set {c : Addr} {u v : Value} {cs : List (Addr × Value)} {W : World} (h : Holds ((c,u) :: cs) W) (hc : ∀ p ∈ cs,c ≠ p.1) : Holds ((c,v) :: cs) (W.setCell c v):=by
 have h1:=h (c,u) au
 refine Holds.cons (World.cell?_setCell_same' _ _ _ (by rw [h1.1]; rfl)) ((World.frozen?_setCell _ _ _ _).trans h1.2) (Holds.other (fun p hp => h p (by simp [hp])) _ _ hc)
theorem fH.other {ps : List Addr} (W : World) (c : Addr) (v : Value) (hc : ∀ p ∈ ps,c ≠ p) : fH ps W (W.setCell c v) :=
 fun p hp u hu => ⟨(World.cell?_setCell_other _ _ _ _ (hc p hp)).trans hu,World.frozen?_setCell _ _ _ _⟩
theorem nE {fn : Func} {p : Tmp} {ty : TypeId} (h : fn.results = #[.cell p ty]) (tmps : Array Value) (P : Program) (w : World) :
  (results fn tmps).run P w = ((asAddr (tmps.getD p undef)).run P w).andThen fun a w₁ => (loadVar ty a).run P w₁:=by
 simp only [results,h]
 simp [Sem.run_bind,Result.andThen]
def kI (f op : Int) (a : ByteArray) : List ByteArray → ByteArray
 | [] => ⟨#[]⟩
 | p :: r => if f = op then a ++ p else kI (f + 1) op a r
theorem MN (f l op : Int) (a ws : ByteArray) (w : World) (h0 : 0 ≤ f) (hb : f + (cK ws).length ≤ 255) (hsz : ws.size ≤ 1099511627776) (ha : a.size ≤ 1099511627776) :
  Calls Tryz.prog 156 #[.agg #[.int .u8 f,.int .u8 l,.string a,.string ws],.int .u8 op] w fun e w' => e = .returned (.string (kI f op a (cK ws))) ∧ Below w.heap.size w w':=by
 obtain ⟨xs,hxs⟩ : ∃ xs,cK ws = xs:=⟨_,rfl⟩;have hlen:=tI ws;rw [hxs] at hb hlen ⊢;obtain ⟨V,hV⟩ : ∃ V,kI f op a xs = V:=⟨_,rfl⟩;rw [hV];refine (callsIn_wide (n:=5)).1 ?_;refine callsIn_of_wp_marks Tryz.func156 rfl trivial ?_ rfl
 simp only [Tryz.ntmps156,List.size_toArray,List.length_cons,List.length_nil,Nat.reduceAdd,Nat.reduceSub,Array.replicate_succ,Array.replicate_zero,List.push_toArray,List.append_toArray,List.nil_append,List.cons_append]
 gi_wp2_with fail
 refine ⟨trivial,?_⟩;refine (callsIn_wide.2 (yb ws _)).mono ?_;rintro e w' ⟨rfl,rfl⟩
 gi_wp2_with fail
 simp only [Nat.add_assoc,Nat.reduceAdd]
 obtain ⟨W0,hW0⟩ : ∃ W0,(((((((w.alloc (.cells #[.int .u8 f,.int .u8 l,.string a,.string ws] 227)).alloc (fN op)).alloc (jK ⟨#[]⟩)).alloc (fN f)).alloc (jK ws)).alloc (jK ⟨#[32]⟩)).alloc (bJ 0)) = W0:=⟨_,rfl⟩;rw [hW0]
 have B0 : Below w.heap.size w W0:=by rw [← hW0]; exact (((((((Below.refl _ w).alloc au _).alloc cE _).alloc cE _).alloc cE _).alloc cE _).alloc cE _).alloc cE _
 have z0 : W0.heap.size = w.heap.size + 7:=fL;have k2 : W0.cell? ⟨w.heap.size,2,none⟩ = some (.string a):=fL;have o1 : W0.cell? ⟨w.heap.size + 1,0,none⟩ = some (.int .u8 op):=fL;have r0 : W0.cell? ⟨w.heap.size + 2,0,none⟩ = some (.string ⟨#[]⟩):=fL;have rf : W0.frozen? ⟨w.heap.size + 2,0,none⟩ = false:=fL;have a0 : W0.cell? ⟨w.heap.size + 3,0,none⟩ = some (.int .u8 f):=fL;have af : W0.frozen? ⟨w.heap.size + 3,0,none⟩ = false:=fL;have c2 : W0.cell? ⟨w.heap.size + 4,0,none⟩ = some (.string ws):=fL;have f2 : W0.frozen? ⟨w.heap.size + 4,0,none⟩ = false:=fL;have c1 : W0.cell? ⟨w.heap.size + 5,0,none⟩ = some (.string ⟨#[32]⟩):=fL;have c3 : W0.cell? ⟨w.heap.size + 6,0,none⟩ = some (.int .i64 0):=fL;have kf : W0.frozen? ⟨w.heap.size,2,none⟩ = false:=fL;have of : W0.frozen? ⟨w.heap.size + 1,0,none⟩ = false:=fL;clear hW0;have HF:=JL 4 (w.heap.size + 5) (w.heap.size + 4) (w.heap.size + 6) ae ae ws W0 c1 c2 f2 c3 hsz;rw [hxs] at HF
 refine vO rfl ax (gf:=165) (lb:=#[.pointer (some ⟨w.heap.size + 5,0,none⟩),.pointer (some ⟨w.heap.size + 4,0,none⟩),.pointer (some ⟨w.heap.size + 6,0,none⟩)]) rfl trivial (enters_of Tryz.func165 ak rfl) (encs:=fun x : ByteArray => #[.string x]) (fun _ => rfl)
  HF
  (fun r W => Holds [(⟨w.heap.size + 3,0,none⟩,.int .u8 (f + xs.length - r.length)),(⟨w.heap.size,2,none⟩,.string a),(⟨w.heap.size + 1,0,none⟩,.int .u8 op),(⟨w.heap.size + 2,0,none⟩,.string ⟨#[]⟩)] W ∧ Below w.heap.size w W ∧ r.length ≤ xs.length ∧ (∀ p ∈ r,p.size ≤ ws.size) ∧ kI (f + xs.length - r.length) op a r = V)
  (fun j W => j = .ret ∧ Holds [(⟨w.heap.size + 2,0,none⟩,.string V)] W ∧ Below w.heap.size w W)
  ?own ?ownx ?cells ?start
  (fun x => { tmps:=#[.agg #[.int .u8 f,.int .u8 l,.string a,.string ws],.int .u8 op,.pointer (some ⟨w.heap.size,0,none⟩),.pointer (some ⟨w.heap.size + 1,0,none⟩),.pointer (some ⟨w.heap.size + 2,0,none⟩),.pointer (some ⟨w.heap.size + 3,0,none⟩),.string x,.pointer (some ⟨w.heap.size,0,none⟩),.int .u8 f,.pointer (some ⟨w.heap.size,3,none⟩),.string ws,
   .func (.func 165) #[] #[.pointer (some ⟨w.heap.size + 5,0,none⟩),.pointer (some ⟨w.heap.size + 4,0,none⟩),.pointer (some ⟨w.heap.size + 6,0,none⟩)],.string x,undef,undef,undef,undef,undef,undef,undef,undef,undef],defers:=[] }) ?assign ?body ?done ?stop
 case own =>
  exact fun r A B row hs hg hr => ⟨hs.1.grown hg (fun q e => (hr q e).2),ownFrom_below (β:=Unit) (Nat.le_refl _) ae () A B row hs.2.1 hg hr,hs.2.2⟩
 case ownx =>
  exact fun j A B row hs hg hr => ⟨hs.1,hs.2.1.grown hg (fun q e => (hr q e).2),ownFrom_below (β:=Unit) (Nat.le_refl _) ae () A B row hs.2.2 hg hr⟩
 case cells =>
  exact fun r A v hs => ⟨hs.1.other _ _ au,hs.2.1.setCell (p:=⟨w.heap.size + 4,0,none⟩) au _,hs.2.2⟩
 case start =>
  refine ⟨?_,B0,Nat.le_refl _,hlen,by rw [← hV]; congr 1; omega⟩
  refine Holds.cons (by simp only [a0]; congr 2; omega) af (Holds.cons k2 kf (Holds.cons o1 of (Holds.cons r0 rf (by simp [Holds]))))
 case assign =>
  intro l x W K hK;have hsem:=@Oper.semAt_some
  gi_wp2
  exact hK
 case body =>
  rintro m x r W ⟨hc,hB,hr,hp,hv⟩;have hsem:=@Oper.semAt_some;have d1:=hc _ (List.mem_cons_self ..);have d2:=hc _ (List.mem_cons_of_mem _ (List.mem_cons_self ..));have d3:=hc _ (List.mem_cons_of_mem _ (List.mem_cons_of_mem _ (List.mem_cons_self ..)));have d4:=hc _ (List.mem_cons_of_mem _ (List.mem_cons_of_mem _ (List.mem_cons_of_mem _ (List.mem_cons_self ..))));obtain ⟨q,hq⟩ : ∃ q : Int,f + xs.length - (x :: r).length = q:=⟨_,rfl⟩;rw [hq] at hc d1 hv
  have q0 : 0 ≤ q:=by simp at hq hr; omega
  have q1 : q + 1 ≤ 255:=by simp at hq hr; omega
  have q2 : f + xs.length - r.length = q + 1:=by simp at hq; omega
  have hx : x.size ≤ ws.size:=hp x au;have hax : ¬ (a.size + x.size > 9223372036854775807):=ae
  by_cases he : q = op
  ·subst he
   gi_wp2_with fail
   refine ⟨(KeepsOthers.setCell _ _ _).from _,rfl,?_,hB.setCell (p:=⟨w.heap.size + 2,0,none⟩) au _⟩;rw [kI,if_pos rfl] at hv;rw [← hv]
   exact Holds.set (Holds.cons d4.1 d4.2 (by simp [Holds])) au
  ·gi_wp2_with fail
   rw [kI,if_neg he] at hv
   refine ⟨(KeepsOthers.setCell _ _ _).from _,?_,?_,hB.setCell (p:=⟨w.heap.size + 3,0,none⟩) au _,by simp at hr; omega,fun p h => hp p (by simp [h]),hv⟩
   ·exact fH.other _ _ _ au
   ·exact Holds.set hc au
 case done =>
  rintro D W hD ⟨hc,hB,_,_,hv⟩ hK;have d4:=hc _ (List.mem_cons_of_mem _ (List.mem_cons_of_mem _ (List.mem_cons_of_mem _ (List.mem_cons_self ..))));have d5:=d4.1;have d6:=d4.2
  gi_wp2_with fail
  have hK2:=(KeepsOthers.setCell W ⟨w.heap.size + 2,0,none⟩ (.string ⟨#[]⟩)).same _ _ hK rfl;refine ⟨au,.inl ⟨_,_,rfl,run_takeDeferred hK2,?_⟩⟩
  have hH:=(Holds.set (v:=.string ⟨#[]⟩) (Holds.cons (cs:=[]) d4.1 d4.2 (by simp [Holds])) au).turned (.deferred none) hK2 rfl
  have e1:=(hH _ (List.mem_cons_self ..)).1;have hBB:=(hB.setCell (p:=⟨w.heap.size + 2,0,none⟩) au (.string ⟨#[]⟩)).trans (belowK_b (w:=w) (Nat.le_refl _) _ D _ (.deferred none) ae hK2 rfl rfl);generalize World.putObj _ D (.deferred none) = W5 at e1 hBB ⊢;refine ⟨.string V,?_,rfl,hBB⟩;rw [nE rfl];rw [← hv,kI];go_simp
 case stop =>
  rintro D j W hD ⟨rfl,hc,hB⟩ hK
  gi_wp2_with fail
  refine ⟨au,.inl ⟨_,_,rfl,run_takeDeferred hK,?_⟩⟩;have e1:=((hc.turned (.deferred none) hK rfl) _ (List.mem_cons_self ..)).1;have hBB:=hB.trans (belowK_b (w:=w) (Nat.le_refl _) _ D _ (.deferred none) ae hK rfl rfl);generalize World.putObj _ D (.deferred none) = W5 at e1 hBB ⊢;refine ⟨.string V,?_,rfl,hBB⟩;rw [nE rfl];go_simp
open Go.RowKit
def kW0 : ByteArray:=⟨#[116,114,97,112,32,110,111,112,32,98,108,111,99,107,32,108,111,111,112,32,105,102,32,101,108,115,101,32,101,110,100,32,98,114,32,98,114,105,102,32,98,114,116,97,98,108,101,32,114,101,116,117,114,110,32,99,97,108,108,32,104,111,115,116]⟩
def kW1 : ByteArray:=⟨#[100,114,111,112,32,115,101,108,101,99,116,32,103,101,116,32,115,101,116,32,116,101,101,32,103,103,101,116,32,103,115,101,116]⟩
def kW2 : ByteArray:=⟨#[119,46,99,111,110,115,116,32,108,46,99,111,110,115,116]⟩
def kW3 : ByteArray:=⟨#[119,46,108,111,97,100,56,117,32,119,46,108,111,97,100,56,115,32,119,46,108,111,97,100,49,54,117,32,119,46,108,111,97,100,49,54,115,32,119,46,108,111,97,100,32,108,46,108,111,97,100,32,119,46,115,116,111,114,101,56,32,119,46,115,116,111,114,101,49,54,32,119,46,115,116,111,114,101,32,108,46,115,116,111,114,101,32,115,105,122,101,32,103,114,111,119]⟩
def kW4 : ByteArray:=⟨#[101,113,122,32,101,113,32,110,101,32,108,116,115,32,108,116,117,32,108,101,115,32,108,101,117,32,99,108,122,32,99,116,122,32,112,111,112,32,97,100,100,32,115,117,98,32,109,117,108,32,100,105,118,115,32,100,105,118,117,32,114,101,109,115,32,114,101,109,117,32,97,110,100,32,111,114,32,120,111,114,32,115,104,108,32,115,104,114,115,32,115,104,114,117,32,114,111,116,108,32,114,111,116,114]⟩
def kW5 : ByteArray:=⟨#[101,113,122,32,101,113,32,110,101,32,108,116,115,32,108,116,117,32,108,101,115,32,108,101,117,32,99,108,122,32,99,116,122,32,112,111,112,32,97,100,100,32,115,117,98,32,109,117,108,32,100,105,118,115,32,100,105,118,117,32,114,101,109,115,32,114,101,109,117,32,97,110,100,32,111,114,32,120,111,114,32,115,104,108,32,115,104,114,115,32,115,104,114,117,32,114,111,116,108,32,114,111,116,114]⟩
def kW6 : ByteArray:=⟨#[119,46,119,114,97,112,32,108,46,101,120,116,101,110,100,115,32,108,46,101,120,116,101,110,100,117,32,119,46,101,120,116,56,32,119,46,101,120,116,49,54,32,108,46,101,120,116,51,50]⟩
def kF : Nat → Int
 | 0 => 0
 | 1 => 16
 | 2 => 24
 | 3 => 32
 | 4 => 48
 | 5 => 80
 | _ => 112
def kL : Nat → Int
 | 0 => 12
 | 1 => 22
 | 2 => 25
 | 3 => 43
 | 4 => 72
 | 5 => 104
 | _ => 117
def kA : Nat → ByteArray
 | 0 => ⟨#[]⟩
 | 1 => ⟨#[]⟩
 | 2 => ⟨#[]⟩
 | 3 => ⟨#[]⟩
 | 4 => ⟨#[119,46]⟩
 | 5 => ⟨#[108,46]⟩
 | _ => ⟨#[]⟩
def kW : Nat → ByteArray
 | 0 => kW0
 | 1 => kW1
 | 2 => kW2
 | 3 => kW3
 | 4 => kW4
 | 5 => kW5
 | _ => kW6
def mN : List Value:=[.int .u8 0,.int .u8 12,.string ⟨#[]⟩,.string kW0,.int .u8 16,.int .u8 22,.string ⟨#[]⟩,.string kW1,.int .u8 24,.int .u8 25,.string ⟨#[]⟩,.string kW2,.int .u8 32,.int .u8 43,.string ⟨#[]⟩,.string kW3,.int .u8 48,.int .u8 72,.string ⟨#[119,46]⟩,.string kW4,.int .u8 80,.int .u8 104,.string ⟨#[108,46]⟩,.string kW5,.int .u8 112,.int .u8 117,.string ⟨#[]⟩,.string kW6]
def qN : Value:=.agg mN.toArray
def bf (w : World) : Prop:=∀ j v,mN[j]? = some v → w.cell? ⟨0,j,none⟩ = some v
theorem bf.pos {w : World} (h : bf w) : 0 < w.heap.size:=World.block_lt_of_cell? w ⟨0,0,none⟩ (h 0 _ rfl)
theorem bf.later {n : Nat} {w w' : World} (h : bf w) (hb : Below n w w') (hn : 0 < n) : bf w' :=
 fun j v hj => (hb.cell (p:=⟨0,j,none⟩) hn).trans (h j v hj)
theorem Dy {w : World} (h : bf w) : (loadVar 228 ⟨0,0,none⟩).run Tryz.prog w = .ok qN w:=by
 have hl : (loadCells ⟨0,0,none⟩ 28).run Tryz.prog w = .ok mN.toArray w:=run_loadCells_list (P:=Tryz.prog) w ⟨0,0,none⟩ mN (fun j v hj => by
  have e : (⟨0,0,none⟩ : Addr).add j = ⟨0,j,none⟩:=dJ;rw [e];exact h j v hj)
 unfold loadVar
 simp only [Sem.run_bind,Tryz.isAgg228,Result.andThen,if_true,Tryz.sizeOf228,hl,Sem.run_pure]
 rfl
theorem zt {w : World} (h : bf w) (a : Act) (d : Option Tmp) (p : String) (af : Array Edge) (g : Option (Nat × Bool)) :
  (execOp a.eval { dst:=d,op:=Op.load 228 (Operand.global 0),type:=228,pos:=p,after:=af,guard:=g }).run Tryz.prog w = .ok (.value qN) w:=by
 show (do pure (Next.value (← Instr.loadAt 228 (.pointer (some ⟨0,0,none⟩)))) : Sem Next).run Tryz.prog w = _
 have e : (Instr.sureAddr (.pointer (some ⟨0,0,none⟩))).run Tryz.prog w = .ok ⟨0,0,none⟩ w:=rfl;unfold Instr.loadAt
 simp only [Sem.run_bind,e,Sem.run_pure,Result.andThen,Dy h]
set_option maxRecDepth 20000 in
theorem FO {w : World} (i : Nat) (hi : i < 7) : (Instr.index 228 qN (.int .i64 i)).run Tryz.prog w = .ok (.agg #[.int .u8 (kF i),.int .u8 (kL i),.string (kA i),.string (kW i)]) w:=by
 have h : i = 0 ∨ i = 1 ∨ i = 2 ∨ i = 3 ∨ i = 4 ∨ i = 5 ∨ i = 6:=ae
 rcases h with rfl | rfl | rfl | rfl | rfl | rfl | rfl <;> simp [Instr.index,go_sem,qN,mN,kF,kL,kA,kW]
theorem zi (i : Nat) (hi : i < 7) : 0 ≤ kF i ∧ kF i ≤ kL i ∧ kL i ≤ 117 ∧ kF i + (cK (kW i)).length ≤ 255 ∧ (kW i).size ≤ 1099511627776 ∧ (kA i).size ≤ 1099511627776:=by
 have h : i = 0 ∨ i = 1 ∨ i = 2 ∨ i = 3 ∨ i = 4 ∨ i = 5 ∨ i = 6:=ae
 rcases h with rfl | rfl | rfl | rfl | rfl | rfl | rfl <;> decide +kernel
def sH (c : Int) : Int :=
 if c = 2 then 1 else if c = 3 then 1 else if c = 4 then 1 else if c = 7 then 2 else if c = 8 then 2 else if c = 9 then 3 else if c = 11 then 4 else if c = 12 then 5
 else if c = 18 then 6 else if c = 19 then 6 else if c = 20 then 6 else if c = 21 then 7 else if c = 22 then 7 else if c = 24 then 8 else if c = 25 then 8
 else if c = 32 then 9 else if c = 33 then 9 else if c = 34 then 9 else if c = 35 then 9 else if c = 36 then 9 else if c = 37 then 9 else if c = 38 then 9 else if c = 39 then 9 else if c = 40 then 9 else if c = 41 then 9 else 0
def uH (c : Int) : Bool:=decide (c = 1 ∨ 24 ≤ c)
def yO (k : Int) (s : ByteArray) : ByteArray × ByteArray :=
 if k = 0 then (s,⟨#[119]⟩) else if k ≤ 6 then (s ++ s,⟨#[119]⟩) else if k ≤ 9 then (s,s) else (s ++ s,s)
def pX (c : Int) : ByteArray × ByteArray :=
 if 48 ≤ c ∧ c ≤ 72 then yO (c - 48) ⟨#[119]⟩ else if 80 ≤ c ∧ c ≤ 104 then yO (c - 80) ⟨#[108]⟩
 else if c = 24 then (⟨#[]⟩,⟨#[119]⟩) else if c = 42 then (⟨#[]⟩,⟨#[119]⟩) else if c = 25 then (⟨#[]⟩,⟨#[108]⟩)
 else if c = 32 then (⟨#[119]⟩,⟨#[119]⟩) else if c = 33 then (⟨#[119]⟩,⟨#[119]⟩) else if c = 34 then (⟨#[119]⟩,⟨#[119]⟩) else if c = 35 then (⟨#[119]⟩,⟨#[119]⟩) else if c = 36 then (⟨#[119]⟩,⟨#[119]⟩) else if c = 43 then (⟨#[119]⟩,⟨#[119]⟩) else if c = 115 then (⟨#[119]⟩,⟨#[119]⟩) else if c = 116 then (⟨#[119]⟩,⟨#[119]⟩)
 else if c = 37 then (⟨#[119]⟩,⟨#[108]⟩) else if c = 113 then (⟨#[119]⟩,⟨#[108]⟩) else if c = 114 then (⟨#[119]⟩,⟨#[108]⟩)
 else if c = 112 then (⟨#[108]⟩,⟨#[119]⟩) else if c = 117 then (⟨#[108]⟩,⟨#[108]⟩)
 else if c = 38 then (⟨#[119,119]⟩,⟨#[]⟩) else if c = 39 then (⟨#[119,119]⟩,⟨#[]⟩) else if c = 40 then (⟨#[119,119]⟩,⟨#[]⟩) else if c = 41 then (⟨#[119,108]⟩,⟨#[]⟩) else (⟨#[]⟩,⟨#[]⟩)
theorem Jh (c : Int) (w : World) : Calls Tryz.prog 157 #[.int .u8 c] w fun e w' => e = .returned (.int .i8 (sH c)) ∧ w' = w:=by
 go_enter Tryz.func157,Tryz.ntmps157
 go_wp2
 all_goals (go_ret; exact ⟨by unfold sH; simp_all,rfl⟩)
theorem Kl (c : Int) (w : World) : Calls Tryz.prog 158 #[.int .u8 c] w fun e w' => e = .returned (.bool (uH c)) ∧ w' = w:=by
 go_enter Tryz.func158,Tryz.ntmps158
 go_wp2
 all_goals (go_ret; refine ⟨?_,rfl⟩; unfold uH; simp_all)
theorem Kn (k : Int) (s : ByteArray) (w : World) (hs : s.size ≤ 1099511627776) : Calls Tryz.prog 161 #[.int .u8 k,.string s] w fun e w' => e = .returned (.tuple #[.string (yO k s).1,.string (yO k s).2]) ∧ w' = w:=by
 have hax : ¬ (s.size + s.size > 9223372036854775807):=ae
 go_enter Tryz.func161,Tryz.ntmps161
 go_wp2
 all_goals (go_ret2; refine ⟨?_,rfl⟩; unfold yO; simp_all)
 all_goals (repeat rw [if_neg ae])
 all_goals exact ⟨rfl,rfl⟩
theorem FZ (c : Int) (w : World) (h0 : 0 ≤ c) (h1 : c ≤ 255) : Calls Tryz.prog 155 #[.int .u8 c] w fun e w' => e = .returned (.tuple #[.string (pX c).1,.string (pX c).2]) ∧ w' = w:=by
 by_cases ha : 48 ≤ c ∧ c ≤ 72
 ·rw [show pX c = yO (c - 48) ⟨#[119]⟩ by unfold pX; rw [if_pos ha]]
  obtain ⟨ha1,ha2⟩:=ha
  go_enter Tryz.func155,Tryz.ntmps155
  go_wp2_with fail;refine (Kn (c - 48) ⟨#[119]⟩ w ax).mono ?_;rintro e w' ⟨rfl,rfl⟩;go_wp2;go_ret2;exact ⟨rfl,rfl⟩
 ·by_cases hb : 80 ≤ c ∧ c ≤ 104
  ·rw [show pX c = yO (c - 80) ⟨#[108]⟩ by unfold pX; rw [if_neg ha,if_pos hb]]
   obtain ⟨hb1,hb2⟩:=hb;have hx : ¬ c ≤ 72:=ae
   go_enter Tryz.func155,Tryz.ntmps155
   go_wp2_with fail;refine (Kn (c - 80) ⟨#[108]⟩ w ax).mono ?_;rintro e w' ⟨rfl,rfl⟩;go_wp2;go_ret2;exact ⟨rfl,rfl⟩
  ·unfold pX;rw [if_neg ha,if_neg hb]
   go_enter Tryz.func155,Tryz.ntmps155
   go_wp2_with fail
   all_goals (go_ret2; first | exact ⟨rfl,rfl⟩ | (refine ⟨?_,rfl⟩; simp_all))
theorem pW {ops : Array Oper} {Q : Exit → Act → World → Prop} {o : Oper} {rest : List Oper} {a : Act} {w w' : World} {v : Value} (hg : o.guard = none) (he : (execOp a.eval o).run Tryz.prog w = .ok (.value v) w')
  (h : wpList Tryz.prog ops Q rest (a.put o.dst v) w') : wpList Tryz.prog ops Q (o :: rest) a w :=
 wpList_plain hg fun K hK => by simp only [Oper.wp,he,Oper.upon_value]; exact hK _ _ h
def Jy (k : Int) (wd : ByteArray) (tk : Int) (pp ps : ByteArray) (pl : Bool) : Array Value:=#[.int .u8 k,.string wd,.int .i8 tk,.string pp,.string ps,.bool pl]
abbrev lB:=Int × ByteArray × Int × ByteArray × ByteArray × Bool
def je : lB:=(0,⟨#[]⟩,0,⟨#[]⟩,⟨#[]⟩,false)
def rv (x : lB) : Array Value:=Jy x.1 x.2.1 x.2.2.1 x.2.2.2.1 x.2.2.2.2.1 x.2.2.2.2.2
def rowAt (b : Nat) (x : lB) : List (Addr × Value):=[(⟨b,0,none⟩,.int .u8 x.1),(⟨b,1,none⟩,.string x.2.1),(⟨b,2,none⟩,.int .i8 x.2.2.1),(⟨b,3,none⟩,.string x.2.2.2.1),(⟨b,4,none⟩,.string x.2.2.2.2.1),(⟨b,5,none⟩,.bool x.2.2.2.2.2)]
theorem ir {b : Nat} {x : lB} {W : World} (h : Holds (rowAt b x) W) :
  (W.cell? ⟨b,0,none⟩ = some (.int .u8 x.1) ∧ W.cell? ⟨b,1,none⟩ = some (.string x.2.1) ∧ W.cell? ⟨b,2,none⟩ = some (.int .i8 x.2.2.1) ∧ W.cell? ⟨b,3,none⟩ = some (.string x.2.2.2.1) ∧ W.cell? ⟨b,4,none⟩ = some (.string x.2.2.2.2.1) ∧ W.cell? ⟨b,5,none⟩ = some (.bool x.2.2.2.2.2)) ∧
  (W.frozen? ⟨b,0,none⟩ = false ∧ W.frozen? ⟨b,1,none⟩ = false ∧ W.frozen? ⟨b,2,none⟩ = false ∧ W.frozen? ⟨b,3,none⟩ = false ∧ W.frozen? ⟨b,4,none⟩ = false ∧ W.frozen? ⟨b,5,none⟩ = false):=by
 unfold rowAt at h;exact ⟨⟨(h (⟨b,0,none⟩,_) au).1,(h (⟨b,1,none⟩,_) au).1,(h (⟨b,2,none⟩,_) au).1,(h (⟨b,3,none⟩,_) au).1,(h (⟨b,4,none⟩,_) au).1,(h (⟨b,5,none⟩,_) au).1⟩,
  (h _ (List.mem_cons_self ..)).2,(h (⟨b,1,none⟩,.string x.2.1) au).2,(h (⟨b,2,none⟩,.int .i8 x.2.2.1) au).2,(h (⟨b,3,none⟩,.string x.2.2.2.1) au).2,(h (⟨b,4,none⟩,.string x.2.2.2.2.1) au).2,(h (⟨b,5,none⟩,.bool x.2.2.2.2.2) au).2⟩
theorem Holds.later {cs : List (Addr × Value)} {n : Nat} {A B : World} (h : Holds cs A) (hb : Below n A B) (hn : ∀ p ∈ cs,p.1.block < n) : Holds cs B :=
 fun p hp => ⟨(hb.cell (hn p hp)).trans (h p hp).1,(hb.frozen (hn p hp)).trans (h p hp).2⟩
def IE (i : Nat) (c : Int) : lB:=(c,kI (kF i) c (kA i) (cK (kW i)),sH c,(pX c).1,(pX c).2,uH c)
def uh : Nat → Nat → Int → lB × Bool
 | 0,_,_ => (je,false)
 | n + 1,i,c => if kF i ≤ c ∧ c ≤ kL i then (IE i c,true) else uh n (i + 1) c
def ofV (c : Int) : lB × Bool:=uh 7 0 c
theorem of6 (c : Int) (w : World) (hk : bf w) (h0 : 0 ≤ c) (h1 : c ≤ 255) : Calls Tryz.prog 150 #[.int .u8 c] w fun e w' => e = .returned (.tuple #[.agg (rv (ofV c).1),.bool (ofV c).2]) ∧ Below w.heap.size w w':=by
 obtain ⟨V,hV⟩ : ∃ V,ofV c = V:=⟨_,rfl⟩;rw [hV]
 go_enter Tryz.func150,Tryz.ntmps150
 refine wp_seq_k fun K1 hK1 => wp_region_lit ?_
 refine pW rfl (v:=.pointer (some ⟨w.heap.size,0,none⟩)) (w':=w.alloc (kK 0 ⟨#[]⟩ 0 ⟨#[]⟩ ⟨#[]⟩ false)) aB ?_;refine pW rfl (v:=.bool false) (w':=w.alloc (kK 0 ⟨#[]⟩ 0 ⟨#[]⟩ ⟨#[]⟩ false)) aB ?_;refine wpList_nil (hK1 _ _ ?_);clear hK1;have hb : Below w.heap.size w (w.alloc (kK 0 ⟨#[]⟩ 0 ⟨#[]⟩ ⟨#[]⟩ false)):=(Below.refl _ w).alloc (Nat.le_refl _) _
 have hc : Holds (rowAt w.heap.size je) (w.alloc (kK 0 ⟨#[]⟩ 0 ⟨#[]⟩ ⟨#[]⟩ false)):=by
  unfold rowAt je
  refine Holds.cons ?_ ?_ (Holds.cons ?_ ?_ (Holds.cons ?_ ?_ (Holds.cons ?_ ?_ (Holds.cons ?_ ?_ (Holds.cons ?_ ?_ (by simp [Holds])))))) <;> simp [go_sem]
 refine wp_seq_k fun K2 hK2 => wp_seq_k fun K3 hK3 => wp_region_lit ?_
 refine pW rfl (zt (hk.later hb hk.pos) _ _ _ _ _) ?_;obtain ⟨kv,hkv⟩ : ∃ kv,qN = kv:=⟨_,rfl⟩;rw [hkv]
 have run_kind' : ∀ (w : World) (i : Nat) (hi : i < 7),(Instr.index 228 kv (.int .i64 i)).run Tryz.prog w = .ok (.agg #[.int .u8 (kF i),.int .u8 (kL i),.string (kA i),.string (kW i)]) w:=fun w i hi => hkv ▸ FO i hi
 have HK:=hid run_kind';clear run_kind' hkv;go_wp2_with fail
 go_loopw [9] (fun p wr => ∃ i : Nat,p = .int .i64 i ∧ i ≤ 7 ∧ Below w.heap.size w wr ∧ Holds (rowAt w.heap.size je) wr ∧ uh (7 - i) i c = V) (fun p wr => 7 - (intOf p).toNat)
 case atStart => exact ⟨0,rfl,ax,hb,hc,hV⟩
 case round =>
  clear hb hc hV;obtain ⟨i,rfl,hi,hB,hR,hV⟩:=hrel
  by_cases h7 : i = 7
  ·subst h7;have hx : V = (je,false):=hV.symm;subst hx;obtain ⟨⟨d0,d1,d2,d3,d4,d5⟩,e0,e1,e2,e3,e4,e5⟩:=ir hR;go_wp2_with fail;refine bodyPost_ret (v:=.tuple #[.agg (rv je),.bool false]) ?_ rfl ⟨rfl,?_⟩
   ·rw [results_cell_tmp rfl];go_simp;rfl
   ·exact (((((hB.setCell (p:=⟨w.heap.size,0,none⟩) au _).setCell (p:=⟨w.heap.size,1,none⟩) au _).setCell (p:=⟨w.heap.size,2,none⟩) au _).setCell (p:=⟨w.heap.size,3,none⟩) au _).setCell (p:=⟨w.heap.size,4,none⟩) au _).setCell (p:=⟨w.heap.size,5,none⟩) au _
  have hlt : (i : Int) < 7:=ae;have hix:=HK.out wr i ae;obtain ⟨f0,f1,f2,f3,f4,f5⟩:=zi i ae
  have HF:=hid ((MN (kF i) (kL i) c (kA i) (kW i) · f0 f3 f4 f5))
  obtain ⟨n,hn⟩ : ∃ n,7 - i = n + 1:=⟨6 - i,ae⟩;rw [hn,uh] at hV;have hwd : (IE i c).2.1 = kI (kF i) c (kA i) (cK (kW i)):=rfl;generalize kI (kF i) c (kA i) (cK (kW i)) = wd at HF hwd
  by_cases hin : kF i ≤ c ∧ c ≤ kL i
  ·obtain ⟨g1,g2⟩:=hin;rw [if_pos ⟨g1,g2⟩] at hV;generalize kF i = f at *;generalize kL i = l at *;generalize kA i = a at *;generalize kW i = ws at *;go_wp2_with fail;refine (FZ c _ h0 h1).mono ?_;rintro e w2 ⟨rfl,rfl⟩;go_wp2_with fail;refine (HF.out _).mono ?_;rintro e w3 ⟨rfl,hb3⟩;go_wp2_with fail;refine (Jh c w3).mono ?_;rintro e w4 ⟨rfl,rfl⟩;go_wp2_with fail;refine (Kl c w4).mono ?_;rintro e w5 ⟨rfl,rfl⟩;have hwr : w.heap.size < wr.heap.size:=World.block_lt_of_cell? wr ⟨w.heap.size,0,none⟩ (ir hR).1.1
   have hR3 : Holds (rowAt w.heap.size je) w5:=(hR.grown (World.grownBy_alloc wr _ none) (fun r e => kX)).later hb3 (by simp [rowAt]; omega)
   have hB3 : Below w.heap.size w w5:=(hB.alloc hB.size _).trans (hb3.mono aI);clear hb3 hR;obtain ⟨⟨d0,d1,d2,d3,d4,d5⟩,e0,e1,e2,e3,e4,e5⟩:=ir hR3;go_wp2_with fail;subst hV
   refine bodyPost_ret (v:=.tuple #[.agg #[.int .u8 c,.string wd,.int .i8 (sH c),.string (pX c).1,.string (pX c).2,.bool (uH c)],.bool true]) ?_ rfl ⟨by rw [← hwd]; rfl,?_⟩
   ·rw [results_cell_tmp rfl];go_simp
   ·exact (((((hB3.setCell (p:=⟨w.heap.size,0,none⟩) au _).setCell (p:=⟨w.heap.size,1,none⟩) au _).setCell (p:=⟨w.heap.size,2,none⟩) au _).setCell (p:=⟨w.heap.size,3,none⟩) au _).setCell (p:=⟨w.heap.size,4,none⟩) au _).setCell (p:=⟨w.heap.size,5,none⟩) au _
  ·rw [if_neg hin] at hV;have hwr : w.heap.size < wr.heap.size:=World.block_lt_of_cell? wr ⟨w.heap.size,0,none⟩ (ir hR).1.1
   have hR2:=hid (hR.grown (World.grownBy_alloc wr (.cells #[.int .u8 (kF i),.int .u8 (kL i),.string (kA i),.string (kW i)] 227) none) (fun r e => kX))
   have hB2:=hid (hB.alloc hB.size (.cells #[.int .u8 (kF i),.int .u8 (kL i),.string (kA i),.string (kW i)] 227));have hV2:=hid hV;clear hV hR hB;have hw : wrap64 ((i : Int) + 1) = i + 1:=gp;clear HF hwd f0 f1 f2 f3 f4 f5;generalize kF i = f at *;generalize kL i = l at *;generalize kA i = a at *;generalize kW i = ws at *
   by_cases hlow : c < f
   ·exact EX
   ·have hhigh : l < c:=ae;exact EX
def lo (t : Int) (g : Bool) : Int:=if t = 8 then (if g = true then -9223372036854775808 else -2147483648) else 0
def hi (t : Int) (g : Bool) : Int :=
 if t = 0 ∨ t = 3 then 0 else if t = 9 then 4294967295 else if t = 8 then (if g = true then 9223372036854775807 else 2147483647) else 2147483647
theorem qm (t : Int) (g : Bool) : -9223372036854775808 ≤ lo t g ∧ lo t g ≤ 0:=by
 unfold lo; split
 ·split <;> omega
 ·omega
theorem pN (t : Int) (g : Bool) : 0 ≤ hi t g ∧ hi t g ≤ 9223372036854775807 ∧ (t ≠ 8 → hi t g ≤ 4294967295 ∧ lo t g = 0):=by
 unfold hi lo
 split
 ·refine ⟨ae,ae,fun h => ?_⟩
  rw [if_neg h]; omega
 ·split
  ·refine ⟨ae,ae,fun h => ?_⟩
   rw [if_neg h]; omega
  ·split
   ·refine ⟨by split <;> omega,by split <;> omega,fun h => ae⟩
   ·refine ⟨ae,ae,fun h => ?_⟩
    omega
def okL : List Int → Prop
 | [] => True
 | z :: l => (0 ≤ z ∧ z ≤ 2147483647) ∧ okL l
instance decOkL : (l : List Int) → Decidable (okL l)
 | [] => .isTrue trivial
 | z :: l => match decOkL l with
  | .isTrue h => if hz : 0 ≤ z ∧ z ≤ 2147483647 then .isTrue ⟨hz,h⟩ else .isFalse fun x => hz x.1
  | .isFalse h => .isFalse fun x => h x.2
theorem Cq : ∀ (l : List Int),okL l ↔ ∀ z ∈ l,0 ≤ z ∧ z ≤ 2147483647
 | [] => by simp [okL]
 | z :: l => by simp [okL,Cq l]
def chk (t : Int) (g : Bool) (a : Int) (l : List Int) : Int :=
 if t = -1 then 21
 else if a < lo t g ∨ hi t g < a then 17
 else if t = 3 then (if l.length < 1 ∨ 16 < l.length then 17 else if okL l then 0 else 17)
 else if l.length = 0 then 0 else 17
def fI : List Int → List Int
 | [] => []
 | z :: l => aw z ++ fI l
def CP (t a : Int) (l : List Int) : List Int :=
 if t = 0 then [] else if t = 8 then aw (fo a) else if t = 3 then aw l.length ++ fI l else aw a
theorem pq : ∀ (l : List Int),(fI l).length ≤ 10 * l.length
 | [] => by simp [fI]
 | z :: l => by
  have:=pq l
  have:=aK z
  simp only [fI,List.length_append,List.length_cons]; omega
theorem Mi (f : Nat) : ∀ (v : Int),0 ≤ v → v < 128 ^ f * 256 → ∀ z ∈ uv f v,0 ≤ z ∧ z ≤ 255:=by
 induction f with
 | zero => intro v h0 h1 z hz; simp [uv] at hz; simp at h1; omega
 | succ f ih =>
  intro v h0 h1 z hz
  by_cases h : v < 128
  ·simp [uv,h] at hz; omega
  ·simp only [uv,h,if_false,List.mem_cons] at hz
   rcases hz with rfl | hz
   ·omega
   ·refine ih (v / 128) ae ?_ z hz;have hs : (128 : Int) ^ (f + 1) = 128 ^ f * 128:=Int.pow_succ _ _;rw [hs] at h1;generalize (128 : Int) ^ f = X at h1 ⊢;omega
theorem ma (v : Int) (h0 : 0 ≤ v) (h1 : v < 18446744073709551616) : ∀ z ∈ aw v,0 ≤ z ∧ z ≤ 255:=by
 have e : (128 : Int) ^ 9 = 9223372036854775808:=ax;refine Mi 9 v h0 ?_
 rw [e]; omega
theorem vP : ∀ (l : List Int),okL l → ∀ z ∈ fI l,0 ≤ z ∧ z ≤ 255
 | [],_,z,hz => by simp [fI] at hz
 | y :: l,h,z,hz => by
  simp only [fI,List.mem_append] at hz
  rcases hz with hz | hz
  ·exact ma y h.1.1 (by have:=h.1.2; omega) z hz
  ·exact vP l h.2 z hz
theorem tK {t : Int} {g : Bool} {a : Int} {l : List Int} (h : chk t g a l = 0) :
  t ≠ -1 ∧ lo t g ≤ a ∧ a ≤ hi t g ∧ (t = 3 → 1 ≤ l.length ∧ l.length ≤ 16 ∧ okL l) ∧ (t ≠ 3 → l = []):=by
 unfold chk at h
 by_cases h1 : t = -1
 ·rw [if_pos h1] at h; omega
 rw [if_neg h1] at h
 by_cases h2 : a < lo t g ∨ hi t g < a
 ·rw [if_pos h2] at h; omega
 rw [if_neg h2] at h
 by_cases h3 : t = 3
 ·rw [if_pos h3] at h
  by_cases h4 : l.length < 1 ∨ 16 < l.length
  ·rw [if_pos h4] at h; omega
  rw [if_neg h4] at h
  by_cases h5 : okL l
  ·exact ⟨h1,ae,ae,fun _ => ⟨ae,ae,h5⟩,fun h => absurd h3 h⟩
  ·rw [if_neg h5] at h; omega
 ·rw [if_neg h3] at h
  by_cases h4 : l.length = 0
  ·exact ⟨h1,ae,ae,fun h => absurd h h3,fun _ => List.eq_nil_of_length_eq_zero h4⟩
  ·rw [if_neg h4] at h; omega
theorem wW (t a : Int) (l : List Int) (h : l.length ≤ 16) : (CP t a l).length ≤ 170:=by
 unfold CP
 split
 ·simp
 ·split
  ·have:=aK (fo a); omega
  ·split
   ·have:=aK l.length
    have:=pq l
    rw [List.length_append]; omega
   ·have:=aK a; omega
theorem Fu {t : Int} {g : Bool} {a : Int} {l : List Int} (h : chk t g a l = 0) : ∀ z ∈ CP t a l,0 ≤ z ∧ z ≤ 255:=by
 obtain ⟨h1,h2,h3,h4,h5⟩:=tK h;have hl:=qm t g;have hh:=pN t g;intro z hz;unfold CP at hz
 by_cases t0 : t = 0
 ·rw [if_pos t0] at hz; simp at hz
 rw [if_neg t0] at hz
 by_cases t8 : t = 8
 ·rw [if_pos t8] at hz
  have:=wR a ae ae
  exact ma _ this.1 this.2 z hz
 rw [if_neg t8] at hz
 by_cases t3 : t = 3
 ·rw [if_pos t3] at hz;obtain ⟨a1,a2,a3⟩:=h4 t3
  rcases List.mem_append.1 hz with hz | hz
  ·exact ma _ ae ae z hz
  ·exact vP l a3 z hz
 ·rw [if_neg t3] at hz
  have:=hh.2.2 t8
  exact ma _ ae ae z hz
end Go.Proofs.YtkdldbfbldkkcaaGreatDoor

/-
  Texts Shelf Lib Split Word Kinds Small Ref.
-/
import Derived.Below
import Derived.Ground.Names2Prog
import Derived.KernelRfl
import Derived.LoopIn
import Derived.LoopNIn
import Derived.OwnWalkIn
import Derived.RangeFuncBox
import Derived.RowKit
import Derived.Shelf.Abstract
import Derived.Shelf.LaysM
import Derived.Shelf.RegionOpen
import Derived.Shelf.Slices.Cells
import Derived.Shelf.Slices.CompactI
import Derived.Shelf.Slices.In.SortNone
import Derived.Shelf.Small.Wraps
import Derived.Shelf.Sort.Plain
import Derived.Shelf.Strings.Prefix
import Derived.Shelf.Strings.Search1
import Derived.Shelf.Strings.Search2
import Derived.Shelf.Strings.Search3
import Derived.Shelf.Strings.Shaped
import Derived.Shelf.Unicode.DecodeSlow
import Derived.TacticsInMore
import Derived.Test.YtepnnenohjfkbaaGreatDoorProg
import Derived.WalkKit
import Derived.WalkLawsBesides
import Derived.WalkSpells
import Derived.Test.YtepnnenohjfkbaaGreatDoorP09
set_option linter.unusedVariables false
set_option maxRecDepth 100000
set_option maxHeartbeats 16000000
namespace Go.Proofs
open Go.Shelf
def Tryz.lays219_ren : Go.Shelf.Ren:=⟨fun | 219 => 287 | 217 => 288 | 225 => 289 | 224 => 290 | 267 => 291 | 266 => 292 | 314 => 293 | n => n,fun | 9 => 9 | 3 => 3 | 4 => 4 | 5 => 5 | 46 => 190 | 146 => 320 | 51 => 247 | n => n,fun | 1 => 6 | n => n⟩
def Tryz.lays143_ren : Go.Shelf.Ren:=⟨fun | 143 => 280 | 219 => 287 | 217 => 288 | 225 => 289 | 224 => 290 | 267 => 291 | 266 => 292 | 314 => 293 | n => n,fun | 9 => 9 | 3 => 3 | 4 => 4 | 5 => 5 | 46 => 190 | 146 => 320 | 51 => 247 | n => n,fun | 1 => 6 | n => n⟩
theorem Tryz.lays143 : Go.Proofs.Lays.n143 Tryz.prog Tryz.lays143_ren:={
 mixed:=by kernel_rfl
 f143:=Tryz.func280.trans (congrArg some (by kernel_rfl))
 f217:=Tryz.func288.trans (congrArg some (by kernel_rfl))
 f219:=Tryz.func287.trans (congrArg some (by kernel_rfl))
 f224:=Tryz.func290.trans (congrArg some (by kernel_rfl))
 f225:=Tryz.func289.trans (congrArg some (by kernel_rfl))
 f266:=Tryz.func292.trans (congrArg some (by kernel_rfl))
 f267:=Tryz.func291.trans (congrArg some (by kernel_rfl))
 f314:=Tryz.func293.trans (congrArg some (by kernel_rfl))
 t3:=Tryz.underlying3
 a3:=Tryz.isAgg3
 z3:=Tryz.sizeOf3
 v3:=Tryz.zeroValue3
 t4:=Tryz.underlying4
 a4:=Tryz.isAgg4
 z4:=Tryz.sizeOf4
 v4:=Tryz.zeroValue4
 t5:=Tryz.underlying5
 a5:=Tryz.isAgg5
 z5:=Tryz.sizeOf5
 v5:=Tryz.zeroValue5
 t9:=Tryz.underlying9
 a9:=Tryz.isAgg9
 z9:=Tryz.sizeOf9
 v9:=Tryz.zeroValue9
 t46:=Tryz.underlying190
 a46:=Tryz.isAgg190
 z46:=Tryz.sizeOf190
 v46:=Tryz.zeroValue190
 t51:=Tryz.underlying247
 a51:=Tryz.isAgg247
 z51:=Tryz.sizeOf247
 v51:=Tryz.zeroValue247
 t146:=Tryz.underlying320
 a146:=Tryz.isAgg320
 z146:=Tryz.sizeOf320
 v146:=Tryz.zeroValue320
 g1:=by kernel_rfl }
open Go.RowKit Go.Lib in
theorem Tryz.strings_Index_one (s : ByteArray) (c : UInt8) (w : World) :
  Calls Tryz.prog 280 #[.string s,.string ⟨#[c]⟩] w fun e w' => e = .returned (.int .i64 (Lib.indexByte s.data.toList c)) ∧ w' = w:=Any.strings_Index_one Tryz.lays143 s c w
end Go.Proofs
namespace Go.Proofs.YtepnnenohjfkbaaGreatDoor
open Go.Shelf Go.RowKit Go.Lib
theorem yM (s : ByteArray) (w : World) :
  Calls Tryz.prog 280 #[.string s,.string ⟨#[32]⟩] w fun e w' => e = .returned (.int .i64 (Lib.indexByte s.data.toList 32)) ∧ w' = w:=Tryz.strings_Index_one s 32 w
open Go.RowKit Go.Shelf
def nQ (W : World) (c : Addr) : ByteArray:=match W.cell? c with
 | some (.string s) => s
 | _ => ByteArray.empty
theorem wy (n l b1 b2 b3 : Nat) (h12 : b1 ≠ b2) (h32 : b3 ≠ b2) (s : ByteArray) (J : List ByteArray → World → Prop) (Jx : World → Prop)
  (hJ : ∀ r A v,J r A → J r (A.setCell ⟨b2,0,none⟩ v))
  (hY : ∀ x r A,J (x :: r) A → YieldAt Fence.wide (n - 1) Tryz.prog l #[.string x] A fun e B => (e = .returned (.bool true) ∧ J r B ∧ dG [⟨b1,0,none⟩,⟨b2,0,none⟩,⟨b3,0,none⟩] A B) ∨ (e = .returned (.bool false) ∧ Jx B))
  (W : World) (c1 : W.cell? ⟨b1,0,none⟩ = some (.string ⟨#[32]⟩)) (c2 : W.cell? ⟨b2,0,none⟩ = some (.string s)) (f2 : W.frozen? ⟨b2,0,none⟩ = false) (c3 : W.cell? ⟨b3,0,none⟩ = some (.int .i64 0)) (h0 : J (bI s) W) (hsz : s.size ≤ 1099511627776) :
  CallsIn Fence.wide n Tryz.prog 278 #[.func (.yield l) #[] #[],.pointer (some ⟨b1,0,none⟩),.pointer (some ⟨b2,0,none⟩),.pointer (some ⟨b3,0,none⟩)] W fun e B => (∃ v,e = .returned v) ∧ (J [] B ∨ Jx B):=by
 refine callsIn_of_wp Tryz.func278 rfl trivial ?_ rfl
 simp only [Tryz.ntmps278,List.size_toArray,List.length_cons,List.length_nil,Nat.reduceAdd,Nat.reduceSub,Array.replicate_succ,Array.replicate_zero,List.push_toArray,List.append_toArray,List.nil_append,List.cons_append]
 gi_wp2
 gi_loopw [] (fun wr => ∃ s : ByteArray,wr.cell? ⟨b1,0,none⟩ = some (.string ⟨#[32]⟩) ∧ wr.cell? ⟨b2,0,none⟩ = some (.string s) ∧ wr.frozen? ⟨b2,0,none⟩ = false ∧ wr.cell? ⟨b3,0,none⟩ = some (.int .i64 0) ∧ J (bI s) wr ∧ s.size ≤ 1099511627776)
  (fun wr => (nQ wr ⟨b2,0,none⟩).size)
 case atStart => exact ⟨s,c1,c2,f2,c3,h0,hsz⟩
 case round =>
  clear c1 c2 f2 c3 h0 hsz;obtain ⟨s,c1,c2,f2,c3,hj,hsz⟩:=hrel;have hI:=callsIn_wide (n:=n - 1).2 (yM s wr)
  rcases gk s.data.toList with hneg | ⟨hge,hlt⟩
  ·rw [hneg] at hI;rw [mH s hneg] at hj;obtain ⟨fn,tmps,assign,body,hy,hR⟩:=hY s [] wr hj
   gi_wp2_with fail
   refine ⟨trivial,(fun h => nomatch h),?_⟩
   refine hI.mono ?_;rintro e w' ⟨rfl,rfl⟩
   gi_wp2_with fail
   refine ⟨(fun h => nomatch h),?_⟩
   refine hR.mono ?_
   rintro e W3 (⟨rfl,hJ3,hk3⟩ | ⟨rfl,hJx3⟩)
   ·gi_wp2_with fail
    go_end0;exact ⟨⟨_,rfl⟩,.inl hJ3⟩
   ·gi_wp2_with fail
    go_end0;exact ⟨⟨_,rfl⟩,.inr hJx3⟩
  ·obtain ⟨k,hk⟩ : ∃ k : Nat,Lib.indexByte s.data.toList 32 = k:=⟨(Lib.indexByte s.data.toList 32).toNat,by omega⟩
   rw [hk] at hI hlt;rw [← dB] at hlt;rw [nh s k hk] at hj;obtain ⟨fn,tmps,assign,body,hy,hR⟩:=hY _ _ wr hj
   have k0 : (0 : Int) ≤ k:=by omega
   have k1 : (k : Int) < s.size:=by omega
   have k2 : (s.size : Int) ≤ 1099511627776:=by omega
   have k3 : wrap64 (k : Int) = k:=by unfold wrap64; omega
   have k4 : wrap64 ((k : Int) + 1) = k + 1:=by unfold wrap64; omega
   gi_wp2_with fail
   refine ⟨trivial,(fun h => nomatch h),?_⟩
   refine hI.mono ?_;rintro e w' ⟨rfl,rfl⟩
   gi_wp2_with fail
   refine ⟨(fun h => nomatch h),?_⟩
   refine hR.mono ?_
   rintro e W3 (⟨rfl,hJ3,hk3⟩ | ⟨rfl,hJx3⟩)
   ·obtain ⟨d1,_⟩:=hk3 _ (by simp) _ c1
    obtain ⟨d2,e2⟩:=hk3 _ (by simp) _ c2
    obtain ⟨d3,_⟩:=hk3 _ (by simp) _ c3
    rw [f2] at e2
    have k5 : (k : Int) + 1 ≤ s.size:=by omega
    gi_wp2_with fail
    go_roundw
    case rel =>
     refine ⟨s.extract (k + 1) s.size,?_,?_,?_,?_,hJ _ _ _ hJ3,?_⟩
     ·rw [World.cell?_setCell_other _ _ _ _ (by simp)]; exact d1
     ·exact World.cell?_setCell_same' _ _ _ (by rw [d2]; rfl)
     ·rw [World.frozen?_setCell]; exact e2
     ·rw [World.cell?_setCell_other _ _ _ _ (by simp)]; exact d3
     ·simp; omega
    case measure =>
     rw [show nQ w' ⟨b2,0,none⟩ = s by simp [nQ,c2]]
     rw [nQ,World.cell?_setCell_same' _ _ _ (by rw [d2]; rfl)]
     simp
     omega
   ·gi_wp2_with fail
    refine bodyPost_ret (results_none rfl _ _ _) rfl ?_;exact ⟨⟨_,rfl⟩,.inr hJx3⟩
theorem yz (n b1 b2 b3 : Nat) (h12 : b1 ≠ b2) (h32 : b3 ≠ b2) (s : ByteArray) (W : World) (c1 : W.cell? ⟨b1,0,none⟩ = some (.string ⟨#[32]⟩)) (c2 : W.cell? ⟨b2,0,none⟩ = some (.string s)) (f2 : W.frozen? ⟨b2,0,none⟩ = false) (c3 : W.cell? ⟨b3,0,none⟩ = some (.int .i64 0)) (hsz : s.size ≤ 1099511627776) :
  zl Fence.wide n Tryz.prog 278 #[.pointer (some ⟨b1,0,none⟩),.pointer (some ⟨b2,0,none⟩),.pointer (some ⟨b3,0,none⟩)] (fun x : ByteArray => #[.string x]) ⟨b2,0,none⟩ [⟨b1,0,none⟩,⟨b2,0,none⟩,⟨b3,0,none⟩] (bI s) W:=fun l J Jx W1 hk hJ hY h0 => by
 obtain ⟨d1,_⟩:=hk _ (by simp) _ c1
 obtain ⟨d2,e2⟩:=hk _ (by simp) _ c2
 obtain ⟨d3,_⟩:=hk _ (by simp) _ c3
 exact wy n l b1 b2 b3 h12 h32 s J Jx hJ hY W1 d1 d2 (e2.trans f2) d3 h0 hsz
theorem qV (s : ByteArray) (w : World) :
  Calls Tryz.prog 212 #[.string s,.string ⟨#[32]⟩] w fun e w' => e = .returned (.func (.func 278) #[] #[.pointer (some ⟨w.heap.size + 1,0,none⟩),.pointer (some ⟨w.heap.size,0,none⟩),.pointer (some ⟨w.heap.size + 2,0,none⟩)]) ∧
   w' = ((w.alloc (.cells #[.string s] 9)).alloc (.cells #[.string ⟨#[32]⟩] 9)).alloc (.cells #[.int .i64 0] 3):=by
 go_enter Tryz.func212,Tryz.ntmps212
 go_wp2;go_ret;exact ⟨rfl,rfl⟩
def Holds (cs : List (Addr × Value)) (W : World) : Prop:=∀ p ∈ cs,W.cell? p.1 = some p.2 ∧ W.frozen? p.1 = false
theorem Holds.grown {cs : List (Addr × Value)} {A B : World} {row : Option Nat} (h : Holds cs A) (hg : A.grownBy B row) (hr : ∀ r,row = some r → ∃ o : Obj,A.heap[r]? = some o ∧ o.isCells = false) : Holds cs B :=
 fun p hp => ⟨cell_kept (h p hp).1 hg hr,(frozen_kept (h p hp).1 hg hr).trans (h p hp).2⟩
theorem Holds.turned {cs : List (Addr × Value)} {W : World} (h : Holds cs W) {l : Nat} {o : Obj} (o' : Obj) (hl : W.heap[l]? = some o) (ho : o.isCells = false) : Holds cs (W.putObj l o') :=
 h.grown (grownBy_putObj' W l o') (fun r e => by cases e; exact ⟨o,hl,ho⟩)
theorem Holds.other {cs : List (Addr × Value)} {W : World} (h : Holds cs W) (c : Addr) (v : Value) (hc : ∀ p ∈ cs,c ≠ p.1) : Holds cs (W.setCell c v) :=
 fun p hp => ⟨(World.cell?_setCell_other _ _ _ _ (hc p hp)).trans (h p hp).1,(World.frozen?_setCell _ _ _ _).trans (h p hp).2⟩
theorem Holds.cons {p : Addr × Value} {cs : List (Addr × Value)} {W : World} (h1 : W.cell? p.1 = some p.2) (h2 : W.frozen? p.1 = false) (h : Holds cs W) : Holds (p :: cs) W :=
 fun q hq => by
  rcases List.mem_cons.1 hq with rfl | hq
  ·exact ⟨h1,h2⟩
  ·exact h q hq
theorem Holds.set {c : Addr} {u v : Value} {cs : List (Addr × Value)} {W : World} (h : Holds ((c,u) :: cs) W) (hc : ∀ p ∈ cs,c ≠ p.1) : Holds ((c,v) :: cs) (W.setCell c v):=by
 have h1:=h (c,u) (by simp)
 refine Holds.cons (World.cell?_setCell_same' _ _ _ (by rw [h1.1]; rfl)) ((World.frozen?_setCell _ _ _ _).trans h1.2) (Holds.other (fun p hp => h p (by simp [hp])) _ _ hc)
theorem dG.other {ps : List Addr} (W : World) (c : Addr) (v : Value) (hc : ∀ p ∈ ps,c ≠ p) : dG ps W (W.setCell c v) :=
 fun p hp u hu => ⟨(World.cell?_setCell_other _ _ _ _ (hc p hp)).trans hu,World.frozen?_setCell _ _ _ _⟩
theorem jo {fn : Func} {p : Tmp} {ty : TypeId} (h : fn.results = #[.cell p ty]) (tmps : Array Value) (P : Program) (w : World) :
  (results fn tmps).run P w = ((asAddr (tmps.getD p undef)).run P w).andThen fun a w₁ => (loadVar ty a).run P w₁:=by
 simp only [results,h]
 simp [Sem.run_bind,Result.andThen]
def gM (f op : Int) (a : ByteArray) : List ByteArray → ByteArray
 | [] => ⟨#[]⟩
 | p :: r => if f = op then a ++ p else gM (f + 1) op a r
theorem zZ (f l op : Int) (a ws : ByteArray) (w : World) (h0 : 0 ≤ f) (hb : f + (bI ws).length ≤ 255) (hsz : ws.size ≤ 1099511627776) (ha : a.size ≤ 1099511627776) :
  Calls Tryz.prog 142 #[.agg #[.int .u8 f,.int .u8 l,.string a,.string ws],.int .u8 op] w fun e w' => e = .returned (.string (gM f op a (bI ws))) ∧ Below w.heap.size w w':=by
 obtain ⟨xs,hxs⟩ : ∃ xs,bI ws = xs:=⟨_,rfl⟩;have hlen:=og ws;rw [hxs] at hb hlen ⊢;obtain ⟨V,hV⟩ : ∃ V,gM f op a xs = V:=⟨_,rfl⟩;rw [hV];refine (callsIn_wide (n:=5)).1 ?_;refine callsIn_of_wp_marks Tryz.func142 rfl trivial ?_ rfl
 simp only [Tryz.ntmps142,List.size_toArray,List.length_cons,List.length_nil,Nat.reduceAdd,Nat.reduceSub,Array.replicate_succ,Array.replicate_zero,List.push_toArray,List.append_toArray,List.nil_append,List.cons_append]
 gi_wp2_with fail
 refine ⟨trivial,?_⟩;refine (callsIn_wide.2 (qV ws _)).mono ?_;rintro e w' ⟨rfl,rfl⟩
 gi_wp2_with fail
 simp only [Nat.add_assoc,Nat.reduceAdd]
 obtain ⟨W0,hW0⟩ : ∃ W0,(((((((w.alloc (.cells #[.int .u8 f,.int .u8 l,.string a,.string ws] 195)).alloc (.cells #[.int .u8 op] 5)).alloc (.cells #[.string ⟨#[]⟩] 9)).alloc (.cells #[.int .u8 f] 5)).alloc (.cells #[.string ws] 9)).alloc (.cells #[.string ⟨#[32]⟩] 9)).alloc (.cells #[.int .i64 0] 3)) = W0:=⟨_,rfl⟩;rw [hW0]
 have B0 : Below w.heap.size w W0:=by rw [← hW0]; exact (((((((Below.refl _ w).alloc (by simp) _).alloc (by simp <;> omega) _).alloc (by simp <;> omega) _).alloc (by simp <;> omega) _).alloc (by simp <;> omega) _).alloc (by simp <;> omega) _).alloc (by simp <;> omega) _
 have z0 : W0.heap.size = w.heap.size + 7:=by rw [← hW0]; simp [go_sem]
 have k2 : W0.cell? ⟨w.heap.size,2,none⟩ = some (.string a):=by rw [← hW0]; simp [go_sem]
 have o1 : W0.cell? ⟨w.heap.size + 1,0,none⟩ = some (.int .u8 op):=by rw [← hW0]; simp [go_sem]
 have r0 : W0.cell? ⟨w.heap.size + 2,0,none⟩ = some (.string ⟨#[]⟩):=by rw [← hW0]; simp [go_sem]
 have rf : W0.frozen? ⟨w.heap.size + 2,0,none⟩ = false:=by rw [← hW0]; simp [go_sem]
 have a0 : W0.cell? ⟨w.heap.size + 3,0,none⟩ = some (.int .u8 f):=by rw [← hW0]; simp [go_sem]
 have af : W0.frozen? ⟨w.heap.size + 3,0,none⟩ = false:=by rw [← hW0]; simp [go_sem]
 have c2 : W0.cell? ⟨w.heap.size + 4,0,none⟩ = some (.string ws):=by rw [← hW0]; simp [go_sem]
 have f2 : W0.frozen? ⟨w.heap.size + 4,0,none⟩ = false:=by rw [← hW0]; simp [go_sem]
 have c1 : W0.cell? ⟨w.heap.size + 5,0,none⟩ = some (.string ⟨#[32]⟩):=by rw [← hW0]; simp [go_sem]
 have c3 : W0.cell? ⟨w.heap.size + 6,0,none⟩ = some (.int .i64 0):=by rw [← hW0]; simp [go_sem]
 have kf : W0.frozen? ⟨w.heap.size,2,none⟩ = false:=by rw [← hW0]; simp [go_sem]
 have of : W0.frozen? ⟨w.heap.size + 1,0,none⟩ = false:=by rw [← hW0]; simp [go_sem]
 clear hW0
 have HF:=yz 4 (w.heap.size + 5) (w.heap.size + 4) (w.heap.size + 6) (by omega) (by omega) ws W0 c1 c2 f2 c3 hsz
 rw [hxs] at HF
 refine qi rfl (by decide) (gf:=278) (lb:=#[.pointer (some ⟨w.heap.size + 5,0,none⟩),.pointer (some ⟨w.heap.size + 4,0,none⟩),.pointer (some ⟨w.heap.size + 6,0,none⟩)]) rfl trivial (enters_of Tryz.func278 (by kernel_rfl) rfl) (encs:=fun x : ByteArray => #[.string x]) (fun _ => rfl)
  HF
  (fun r W => Holds [(⟨w.heap.size + 3,0,none⟩,.int .u8 (f + xs.length - r.length)),(⟨w.heap.size,2,none⟩,.string a),(⟨w.heap.size + 1,0,none⟩,.int .u8 op),(⟨w.heap.size + 2,0,none⟩,.string ⟨#[]⟩)] W ∧ Below w.heap.size w W ∧ r.length ≤ xs.length ∧ (∀ p ∈ r,p.size ≤ ws.size) ∧ gM (f + xs.length - r.length) op a r = V)
  (fun j W => j = .ret ∧ Holds [(⟨w.heap.size + 2,0,none⟩,.string V)] W ∧ Below w.heap.size w W)
  ?own ?ownx ?cells ?start
  (fun x => { tmps:=#[.agg #[.int .u8 f,.int .u8 l,.string a,.string ws],.int .u8 op,.pointer (some ⟨w.heap.size,0,none⟩),.pointer (some ⟨w.heap.size + 1,0,none⟩),.pointer (some ⟨w.heap.size + 2,0,none⟩),.pointer (some ⟨w.heap.size + 3,0,none⟩),.string x,.pointer (some ⟨w.heap.size,0,none⟩),.int .u8 f,.pointer (some ⟨w.heap.size,3,none⟩),.string ws,
   .func (.func 278) #[] #[.pointer (some ⟨w.heap.size + 5,0,none⟩),.pointer (some ⟨w.heap.size + 4,0,none⟩),.pointer (some ⟨w.heap.size + 6,0,none⟩)],.string x,undef,undef,undef,undef,undef,undef,undef,undef,undef],defers:=[] }) ?assign ?body ?done ?stop
 case own =>
  exact fun r A B row hs hg hr => ⟨hs.1.grown hg (fun q e => (hr q e).2),ownFrom_below (β:=Unit) (Nat.le_refl _) (by omega) () A B row hs.2.1 hg hr,hs.2.2⟩
 case ownx =>
  exact fun j A B row hs hg hr => ⟨hs.1,hs.2.1.grown hg (fun q e => (hr q e).2),ownFrom_below (β:=Unit) (Nat.le_refl _) (by omega) () A B row hs.2.2 hg hr⟩
 case cells =>
  exact fun r A v hs => ⟨hs.1.other _ _ (by simp),hs.2.1.setCell (p:=⟨w.heap.size + 4,0,none⟩) (by simp) _,hs.2.2⟩
 case start =>
  refine ⟨?_,B0,Nat.le_refl _,hlen,by rw [← hV]; congr 1; omega⟩
  refine Holds.cons (by simp only [a0]; congr 2; omega) af (Holds.cons k2 kf (Holds.cons o1 of (Holds.cons r0 rf (by simp [Holds]))))
 case assign =>
  intro l x W K hK;have hsem:=@Oper.semAt_some
  gi_wp2
  exact hK
 case body =>
  rintro m x r W ⟨hc,hB,hr,hp,hv⟩;have hsem:=@Oper.semAt_some;have d1:=hc _ (List.mem_cons_self ..);have d2:=hc _ (List.mem_cons_of_mem _ (List.mem_cons_self ..));have d3:=hc _ (List.mem_cons_of_mem _ (List.mem_cons_of_mem _ (List.mem_cons_self ..)));have d4:=hc _ (List.mem_cons_of_mem _ (List.mem_cons_of_mem _ (List.mem_cons_of_mem _ (List.mem_cons_self ..))));obtain ⟨q,hq⟩ : ∃ q : Int,f + xs.length - (x :: r).length = q:=⟨_,rfl⟩;rw [hq] at hc d1 hv
  have q0 : 0 ≤ q:=by simp at hq hr; omega
  have q1 : q + 1 ≤ 255:=by simp at hq hr; omega
  have q2 : f + xs.length - r.length = q + 1:=by simp at hq; omega
  have hx : x.size ≤ ws.size:=hp x (by simp)
  have hax : ¬ (a.size + x.size > 9223372036854775807):=by omega
  by_cases he : q = op
  ·subst he
   gi_wp2_with fail
   refine ⟨(KeepsOthers.setCell _ _ _).from _,rfl,?_,hB.setCell (p:=⟨w.heap.size + 2,0,none⟩) (by simp) _⟩
   rw [gM,if_pos rfl] at hv;rw [← hv]
   exact Holds.set (Holds.cons d4.1 d4.2 (by simp [Holds])) (by simp)
  ·gi_wp2_with fail
   rw [gM,if_neg he] at hv
   refine ⟨(KeepsOthers.setCell _ _ _).from _,?_,?_,hB.setCell (p:=⟨w.heap.size + 3,0,none⟩) (by simp) _,by simp at hr; omega,fun p h => hp p (by simp [h]),hv⟩
   ·exact dG.other _ _ _ (by simp)
   ·exact Holds.set hc (by simp)
 case done =>
  rintro D W hD ⟨hc,hB,_,_,hv⟩ hK;have d4:=hc _ (List.mem_cons_of_mem _ (List.mem_cons_of_mem _ (List.mem_cons_of_mem _ (List.mem_cons_self ..))));have d5:=d4.1;have d6:=d4.2
  gi_wp2_with fail
  have hK2:=(KeepsOthers.setCell W ⟨w.heap.size + 2,0,none⟩ (.string ⟨#[]⟩)).same _ _ hK rfl
  refine ⟨by simp,.inl ⟨_,_,rfl,run_takeDeferred hK2,?_⟩⟩
  have hH:=(Holds.set (v:=.string ⟨#[]⟩) (Holds.cons (cs:=[]) d4.1 d4.2 (by simp [Holds])) (by simp)).turned (.deferred none) hK2 rfl
  have e1:=(hH _ (List.mem_cons_self ..)).1
  have hBB:=(hB.setCell (p:=⟨w.heap.size + 2,0,none⟩) (by simp) (.string ⟨#[]⟩)).trans (belowK_b (w:=w) (Nat.le_refl _) _ D _ (.deferred none) (by omega) hK2 rfl rfl)
  generalize World.putObj _ D (.deferred none) = W5 at e1 hBB ⊢;refine ⟨.string V,?_,rfl,hBB⟩;rw [jo rfl];rw [← hv,gM];go_simp
 case stop =>
  rintro D j W hD ⟨rfl,hc,hB⟩ hK
  gi_wp2_with fail
  refine ⟨by simp,.inl ⟨_,_,rfl,run_takeDeferred hK,?_⟩⟩
  have e1:=((hc.turned (.deferred none) hK rfl) _ (List.mem_cons_self ..)).1
  have hBB:=hB.trans (belowK_b (w:=w) (Nat.le_refl _) _ D _ (.deferred none) (by omega) hK rfl rfl)
  generalize World.putObj _ D (.deferred none) = W5 at e1 hBB ⊢;refine ⟨.string V,?_,rfl,hBB⟩;rw [jo rfl];go_simp
open Go.RowKit
def kW0 : ByteArray:=⟨#[116,114,97,112,32,110,111,112,32,98,108,111,99,107,32,108,111,111,112,32,105,102,32,101,108,115,101,32,101,110,100,32,98,114,32,98,114,105,102,32,98,114,116,97,98,108,101,32,114,101,116,117,114,110,32,99,97,108,108,32,104,111,115,116]⟩
def kW1 : ByteArray:=⟨#[100,114,111,112,32,115,101,108,101,99,116,32,103,101,116,32,115,101,116,32,116,101,101,32,103,103,101,116,32,103,115,101,116]⟩
def kW2 : ByteArray:=⟨#[119,46,99,111,110,115,116,32,108,46,99,111,110,115,116]⟩
def kW3 : ByteArray:=⟨#[119,46,108,111,97,100,56,117,32,119,46,108,111,97,100,56,115,32,119,46,108,111,97,100,49,54,117,32,119,46,108,111,97,100,49,54,115,32,119,46,108,111,97,100,32,108,46,108,111,97,100,32,119,46,115,116,111,114,101,56,32,119,46,115,116,111,114,101,49,54,32,119,46,115,116,111,114,101,32,108,46,115,116,111,114,101,32,115,105,122,101,32,103,114,111,119]⟩
def kW4 : ByteArray:=⟨#[101,113,122,32,101,113,32,110,101,32,108,116,115,32,108,116,117,32,108,101,115,32,108,101,117,32,99,108,122,32,99,116,122,32,112,111,112,32,97,100,100,32,115,117,98,32,109,117,108,32,100,105,118,115,32,100,105,118,117,32,114,101,109,115,32,114,101,109,117,32,97,110,100,32,111,114,32,120,111,114,32,115,104,108,32,115,104,114,115,32,115,104,114,117,32,114,111,116,108,32,114,111,116,114]⟩
def kW5 : ByteArray:=⟨#[101,113,122,32,101,113,32,110,101,32,108,116,115,32,108,116,117,32,108,101,115,32,108,101,117,32,99,108,122,32,99,116,122,32,112,111,112,32,97,100,100,32,115,117,98,32,109,117,108,32,100,105,118,115,32,100,105,118,117,32,114,101,109,115,32,114,101,109,117,32,97,110,100,32,111,114,32,120,111,114,32,115,104,108,32,115,104,114,115,32,115,104,114,117,32,114,111,116,108,32,114,111,116,114]⟩
def kW6 : ByteArray:=⟨#[119,46,119,114,97,112,32,108,46,101,120,116,101,110,100,115,32,108,46,101,120,116,101,110,100,117,32,119,46,101,120,116,56,32,119,46,101,120,116,49,54,32,108,46,101,120,116,51,50]⟩
def kF : Nat → Int
 | 0 => 0
 | 1 => 16
 | 2 => 24
 | 3 => 32
 | 4 => 48
 | 5 => 80
 | _ => 112
def kL : Nat → Int
 | 0 => 12
 | 1 => 22
 | 2 => 25
 | 3 => 43
 | 4 => 72
 | 5 => 104
 | _ => 117
def kA : Nat → ByteArray
 | 0 => ⟨#[]⟩
 | 1 => ⟨#[]⟩
 | 2 => ⟨#[]⟩
 | 3 => ⟨#[]⟩
 | 4 => ⟨#[119,46]⟩
 | 5 => ⟨#[108,46]⟩
 | _ => ⟨#[]⟩
def kW : Nat → ByteArray
 | 0 => kW0
 | 1 => kW1
 | 2 => kW2
 | 3 => kW3
 | 4 => kW4
 | 5 => kW5
 | _ => kW6
def iX : List Value:=[.int .u8 0,.int .u8 12,.string ⟨#[]⟩,.string kW0,.int .u8 16,.int .u8 22,.string ⟨#[]⟩,.string kW1,.int .u8 24,.int .u8 25,.string ⟨#[]⟩,.string kW2,.int .u8 32,.int .u8 43,.string ⟨#[]⟩,.string kW3,.int .u8 48,.int .u8 72,.string ⟨#[119,46]⟩,.string kW4,.int .u8 80,.int .u8 104,.string ⟨#[108,46]⟩,.string kW5,.int .u8 112,.int .u8 117,.string ⟨#[]⟩,.string kW6]
def kE : Value:=.agg iX.toArray
def aL (w : World) : Prop:=∀ j v,iX[j]? = some v → w.cell? ⟨0,j,none⟩ = some v
theorem aL.pos {w : World} (h : aL w) : 0 < w.heap.size:=World.block_lt_of_cell? w ⟨0,0,none⟩ (h 0 _ rfl)
theorem aL.later {n : Nat} {w w' : World} (h : aL w) (hb : Below n w w') (hn : 0 < n) : aL w' :=
 fun j v hj => (hb.cell (p:=⟨0,j,none⟩) hn).trans (h j v hj)
theorem uM {w : World} (h : aL w) : (loadVar 196 ⟨0,0,none⟩).run Tryz.prog w = .ok kE w:=by
 have hl : (loadCells ⟨0,0,none⟩ 28).run Tryz.prog w = .ok iX.toArray w:=run_loadCells_list (P:=Tryz.prog) w ⟨0,0,none⟩ iX (fun j v hj => by
  have e : (⟨0,0,none⟩ : Addr).add j = ⟨0,j,none⟩:=by unfold Addr.add; split <;> simp_all
  rw [e];exact h j v hj)
 unfold loadVar
 simp only [Sem.run_bind,Tryz.isAgg196,Result.andThen,if_true,Tryz.sizeOf196,hl,Sem.run_pure]
 rfl
theorem qO {w : World} (h : aL w) (a : Act) (d : Option Tmp) (p : String) (af : Array Edge) (g : Option (Nat × Bool)) :
  (execOp a.eval { dst:=d,op:=Op.load 196 (Operand.global 0),type:=196,pos:=p,after:=af,guard:=g }).run Tryz.prog w = .ok (.value kE) w:=by
 show (do pure (Next.value (← Instr.loadAt 196 (.pointer (some ⟨0,0,none⟩)))) : Sem Next).run Tryz.prog w = _
 have e : (Instr.sureAddr (.pointer (some ⟨0,0,none⟩))).run Tryz.prog w = .ok ⟨0,0,none⟩ w:=rfl;unfold Instr.loadAt
 simp only [Sem.run_bind,e,Sem.run_pure,Result.andThen,uM h]
set_option maxRecDepth 20000 in
theorem xq {w : World} (i : Nat) (hi : i < 7) : (Instr.index 196 kE (.int .i64 i)).run Tryz.prog w = .ok (.agg #[.int .u8 (kF i),.int .u8 (kL i),.string (kA i),.string (kW i)]) w:=by
 have h : i = 0 ∨ i = 1 ∨ i = 2 ∨ i = 3 ∨ i = 4 ∨ i = 5 ∨ i = 6:=by omega
 rcases h with rfl | rfl | rfl | rfl | rfl | rfl | rfl <;> simp [Instr.index,go_sem,kE,iX,kF,kL,kA,kW]
theorem rO (i : Nat) (hi : i < 7) : 0 ≤ kF i ∧ kF i ≤ kL i ∧ kL i ≤ 117 ∧ kF i + (bI (kW i)).length ≤ 255 ∧ (kW i).size ≤ 1099511627776 ∧ (kA i).size ≤ 1099511627776:=by
 have h : i = 0 ∨ i = 1 ∨ i = 2 ∨ i = 3 ∨ i = 4 ∨ i = 5 ∨ i = 6:=by omega
 rcases h with rfl | rfl | rfl | rfl | rfl | rfl | rfl <;> decide +kernel
def mX (c : Int) : Int :=
 if c = 2 then 1 else if c = 3 then 1 else if c = 4 then 1 else if c = 7 then 2 else if c = 8 then 2 else if c = 9 then 3 else if c = 11 then 4 else if c = 12 then 5
 else if c = 18 then 6 else if c = 19 then 6 else if c = 20 then 6 else if c = 21 then 7 else if c = 22 then 7 else if c = 24 then 8 else if c = 25 then 8
 else if c = 32 then 9 else if c = 33 then 9 else if c = 34 then 9 else if c = 35 then 9 else if c = 36 then 9 else if c = 37 then 9 else if c = 38 then 9 else if c = 39 then 9 else if c = 40 then 9 else if c = 41 then 9 else 0
def nU (c : Int) : Bool:=decide (c = 1 ∨ 24 ≤ c)
def qT (k : Int) (s : ByteArray) : ByteArray × ByteArray :=
 if k = 0 then (s,⟨#[119]⟩) else if k ≤ 6 then (s ++ s,⟨#[119]⟩) else if k ≤ 9 then (s,s) else (s ++ s,s)
def lk (c : Int) : ByteArray × ByteArray :=
 if 48 ≤ c ∧ c ≤ 72 then qT (c - 48) ⟨#[119]⟩ else if 80 ≤ c ∧ c ≤ 104 then qT (c - 80) ⟨#[108]⟩
 else if c = 24 then (⟨#[]⟩,⟨#[119]⟩) else if c = 42 then (⟨#[]⟩,⟨#[119]⟩) else if c = 25 then (⟨#[]⟩,⟨#[108]⟩)
 else if c = 32 then (⟨#[119]⟩,⟨#[119]⟩) else if c = 33 then (⟨#[119]⟩,⟨#[119]⟩) else if c = 34 then (⟨#[119]⟩,⟨#[119]⟩) else if c = 35 then (⟨#[119]⟩,⟨#[119]⟩) else if c = 36 then (⟨#[119]⟩,⟨#[119]⟩) else if c = 43 then (⟨#[119]⟩,⟨#[119]⟩) else if c = 115 then (⟨#[119]⟩,⟨#[119]⟩) else if c = 116 then (⟨#[119]⟩,⟨#[119]⟩)
 else if c = 37 then (⟨#[119]⟩,⟨#[108]⟩) else if c = 113 then (⟨#[119]⟩,⟨#[108]⟩) else if c = 114 then (⟨#[119]⟩,⟨#[108]⟩)
 else if c = 112 then (⟨#[108]⟩,⟨#[119]⟩) else if c = 117 then (⟨#[108]⟩,⟨#[108]⟩)
 else if c = 38 then (⟨#[119,119]⟩,⟨#[]⟩) else if c = 39 then (⟨#[119,119]⟩,⟨#[]⟩) else if c = 40 then (⟨#[119,119]⟩,⟨#[]⟩) else if c = 41 then (⟨#[119,108]⟩,⟨#[]⟩) else (⟨#[]⟩,⟨#[]⟩)
theorem yu (c : Int) (w : World) : Calls Tryz.prog 143 #[.int .u8 c] w fun e w' => e = .returned (.int .i8 (mX c)) ∧ w' = w:=by
 go_enter Tryz.func143,Tryz.ntmps143
 go_wp2
 all_goals (go_ret; exact ⟨by unfold mX; simp_all,rfl⟩)
theorem yE (c : Int) (w : World) : Calls Tryz.prog 144 #[.int .u8 c] w fun e w' => e = .returned (.bool (nU c)) ∧ w' = w:=by
 go_enter Tryz.func144,Tryz.ntmps144
 go_wp2
 all_goals (go_ret; refine ⟨?_,rfl⟩; unfold nU; simp_all)
theorem zg (k : Int) (s : ByteArray) (w : World) (hs : s.size ≤ 1099511627776) : Calls Tryz.prog 211 #[.int .u8 k,.string s] w fun e w' => e = .returned (.tuple #[.string (qT k s).1,.string (qT k s).2]) ∧ w' = w:=by
 have hax : ¬ (s.size + s.size > 9223372036854775807):=by omega
 go_enter Tryz.func211,Tryz.ntmps211
 go_wp2
 all_goals (go_ret2; refine ⟨?_,rfl⟩; unfold qT; simp_all)
 all_goals (repeat rw [if_neg (by omega)])
 all_goals exact ⟨rfl,rfl⟩
theorem vJ (c : Int) (w : World) (h0 : 0 ≤ c) (h1 : c ≤ 255) : Calls Tryz.prog 141 #[.int .u8 c] w fun e w' => e = .returned (.tuple #[.string (lk c).1,.string (lk c).2]) ∧ w' = w:=by
 by_cases ha : 48 ≤ c ∧ c ≤ 72
 ·rw [show lk c = qT (c - 48) ⟨#[119]⟩ by unfold lk; rw [if_pos ha]]
  obtain ⟨ha1,ha2⟩:=ha
  go_enter Tryz.func141,Tryz.ntmps141
  go_wp2_with fail
  refine (zg (c - 48) ⟨#[119]⟩ w (by decide)).mono ?_
  rintro e w' ⟨rfl,rfl⟩;go_wp2;go_ret2;exact ⟨rfl,rfl⟩
 ·by_cases hb : 80 ≤ c ∧ c ≤ 104
  ·rw [show lk c = qT (c - 80) ⟨#[108]⟩ by unfold lk; rw [if_neg ha,if_pos hb]]
   obtain ⟨hb1,hb2⟩:=hb
   have hx : ¬ c ≤ 72:=by omega
   go_enter Tryz.func141,Tryz.ntmps141
   go_wp2_with fail
   refine (zg (c - 80) ⟨#[108]⟩ w (by decide)).mono ?_
   rintro e w' ⟨rfl,rfl⟩;go_wp2;go_ret2;exact ⟨rfl,rfl⟩
  ·unfold lk;rw [if_neg ha,if_neg hb]
   go_enter Tryz.func141,Tryz.ntmps141
   go_wp2_with fail
   all_goals (go_ret2; first | exact ⟨rfl,rfl⟩ | (refine ⟨?_,rfl⟩; simp_all))
theorem lm {ops : Array Oper} {Q : Exit → Act → World → Prop} {o : Oper} {rest : List Oper} {a : Act} {w w' : World} {v : Value} (hg : o.guard = none) (he : (execOp a.eval o).run Tryz.prog w = .ok (.value v) w')
  (h : wpList Tryz.prog ops Q rest (a.put o.dst v) w') : wpList Tryz.prog ops Q (o :: rest) a w :=
 wpList_plain hg fun K hK => by simp only [Oper.wp,he,Oper.upon_value]; exact hK _ _ h
def wt (k : Int) (wd : ByteArray) (tk : Int) (pp ps : ByteArray) (pl : Bool) : Array Value:=#[.int .u8 k,.string wd,.int .i8 tk,.string pp,.string ps,.bool pl]
abbrev hZ:=Int × ByteArray × Int × ByteArray × ByteArray × Bool
end Go.Proofs.YtepnnenohjfkbaaGreatDoor

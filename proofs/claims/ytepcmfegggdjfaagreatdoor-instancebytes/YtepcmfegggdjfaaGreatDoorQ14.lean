/-
  Texts Feed Pieces Shelf Lib Split Word Kinds.
-/
import Derived.Below
import Derived.KernelRfl
import Derived.Lib.Bytealg
import Derived.LoopIn
import Derived.LoopNIn
import Derived.OwnWalkIn
import Derived.RangeFuncBox
import Derived.RangeFuncCalls
import Derived.RangeFuncLeaves
import Derived.RangeFuncWrites
import Derived.RowKit
import Derived.Shelf.Abstract
import Derived.Shelf.RegionOpen
import Derived.Shelf.Strings.Prefix
import Derived.Shelf.Strings.Search1
import Derived.Shelf.Strings.Search2
import Derived.Shelf.Strings.Search3
import Derived.Shelf.Unicode.DecodeSlow
import Derived.TacticsInMore
import Derived.Test.YtepcmfegggdjfaaGreatDoorProg
import Derived.WalkKit
import Derived.WalkLawsBesides
import Derived.WalkSpells
import Derived.Test.YtepcmfegggdjfaaGreatDoorQ01
set_option linter.unusedVariables false
set_option maxRecDepth 100000
set_option maxHeartbeats 16000000
namespace Go.Proofs.YtepcmfegggdjfaaGreatDoor
open Go.RowKit
def Keeps (ps : List Addr) (W W' : World) : Prop:=∀ p ∈ ps,∀ v,W.cell? p = some v → W'.cell? p = some v ∧ W'.frozen? p = W.frozen? p
theorem Keeps.refl (ps : List Addr) (W : World) : Keeps ps W W:=fun _ _ _ h => ⟨h,rfl⟩
theorem Keeps.trans {ps : List Addr} {A B C : World} (h : Keeps ps A B) (k : Keeps ps B C) : Keeps ps A C:=fun p hp v hv => by
 obtain ⟨h1,h2⟩:=h p hp v hv
 obtain ⟨k1,k2⟩:=k p hp v h1
 exact ⟨k1,k2.trans h2⟩
theorem Keeps.turned {ps : List Addr} (W : World) (l : Nat) (o o' : Obj) (h : W.heap[l]? = some o) (ho : o.isCells = false) : Keeps ps W (W.putObj l o'):=fun p _ v hv =>
 have hr : ∀ r,some l = some r → ∃ q : Obj,W.heap[r]? = some q ∧ q.isCells = false:=fun r e => by cases e; exact ⟨o,h,ho⟩
 ⟨cell_kept hv (grownBy_putObj' W l o') hr,frozen_kept hv (grownBy_putObj' W l o') hr⟩
def Feeds {α : Type} (F : Fence) (n : Nat) (P : Program) (gf : Nat) (lb : Array Value) (encs : α → Array Value) (c : Addr) (ps : List Addr) (xs : List α) (W : World) : Prop :=
 ∀ (l : Nat) (J : List α → World → Prop) (Jx : World → Prop) (W1 : World),Keeps ps W W1 →
  (∀ r A v,J r A → J r (A.setCell c v)) →
  (∀ x r A,J (x :: r) A → YieldAt F (n - 1) P l (encs x) A fun e B => (e = .returned (.bool true) ∧ J r B ∧ Keeps ps A B) ∨ (e = .returned (.bool false) ∧ Jx B)) →
  J xs W1 →
  CallsIn F n P gf (#[.func (.yield l) #[] #[]] ++ lb) W1 fun e B => (∃ v,e = .returned v) ∧ (J [] B ∨ Jx B)
def Leaves (B : Nat) (ps : List Addr) (I : World → Prop) (Ix : Code → World → Prop) (W : World) : Exit → Act → World → Prop
 | .normal,_,W' => KeepsFrom B W W' ∧ Keeps ps W W' ∧ I W'
 | .ret,_,W' => KeepsFrom B W W' ∧ Ix .ret W'
 | .exit _,_,_ => False
 | .goto _,_,_ => False
 | .panic _,_,_ => False
 | .outgrown,_,_ => False
theorem range_feeds {α : Type} {F : Fence} {n : Nat} {P : Program} {g : Operand} {prm : Array Tmp} {assign body : Code} {Q : Exit → Act → World → Prop} {a : Act} {w : World}
  (hro : F.round = none) (h1 : 1 ≤ n) {gf : Nat} {lb : Array Value} (hg : a.eval g = .func (.func gf) #[] lb) (hFg : F.fn gf) (eg : ∀ args w,(callFunc gf args).run P w = .ok (.enter gf args) w)
  {encs : α → Array Value} {c : Addr} {ps : List Addr} {xs : List α} (hps : ∀ x,(encs x).size = prm.size)
  (hseq : Feeds F (n - 1) P gf lb encs c ps xs w)
  (I : List α → World → Prop) (Ix : Code → World → Prop) (hI : OwnFrom w.heap.size I) (hIx : OwnFrom w.heap.size Ix)
  (hIc : ∀ r A v,I r A → I r (A.setCell c v)) (h0 : I xs w) (a₁ : α → Act)
  (hassign : ∀ (l : Nat) (x : α) (W : World) (K : Act → World → Prop),K (a₁ x) W →
   assign.wpIn (F.inRound l) (n - 1 - 1) P (Exit.then K (fun _ _ _ => False)) { tmps:=(prm.zip (encs x)).foldl (fun t (p,v) => t.setIfInBounds p v) a.tmps,defers:=[] } W)
  (hbody : ∀ (l : Nat) (x : α) (r : List α) (W : World),I (x :: r) W → body.wpIn (F.inRound l) (n - 1 - 1) P (Leaves w.heap.size ps (I r) Ix W) (a₁ x) W)
  (hdone : ∀ (D : Nat) (W : World),w.heap.size ≤ D → I [] W → W.heap[D]? = some (.deferred (some [])) → Q .normal { a with defers:={ target:=.collected D,args:=#[] } :: a.defers } W)
  (hstop : ∀ (D : Nat) (j : Code) (W : World),w.heap.size ≤ D → Ix j W → W.heap[D]? = some (.deferred (some [])) → j.wpIn F n P Q { a with defers:={ target:=.collected D,args:=#[] } :: a.defers } W) :
  (Code.rangeFunc g prm assign body).wpIn F n P Q a w:=by
 refine wpIn_rangeFunc fun fn hfn => ?_
 rw [hro]
 let record : LoopState → Option Code → Loop:=fun st pe => { state:=st,pending:=pe,fn,tmps:=a.tmps,params:=prm,assign,body,defers:=w.heap.size }
 let D:=w.heap.size
 let L:=w.heap.size + 1
 let W0:=(w.alloc (.deferred (some []))).alloc (.loop (record .ready none))
 let Book : Loop → World → Prop:=fun rc W => W.heap[L]? = some (.loop rc) ∧ W.heap[D]? = some (.deferred (some []))
 have hbook : Book (record .ready none) W0:=by
  constructor
  ·have:=World.alloc_heap_new (w.alloc (.deferred (some []))) (.loop (record .ready none))
   rwa [World.size_alloc] at this
  ·exact (Below.heap_alloc _ _ _ (by simp [D])).trans (World.alloc_heap_new w _)
 have turn : ∀ {rc rc' : Loop} {W : World},Book rc W → Book rc' (W.putObj L (.loop rc')):=fun h =>
  ⟨World.putObj_heap_same (Array.getElem?_eq_some_iff.1 h.1).1,(World.putObj_heap_other (by simp [L,D])).trans h.2⟩
 have over : ∀ {rc : Loop} {W W' : World},Book rc W → KeepsFrom D W W' → Book rc W':=fun h k =>
  ⟨k.same _ _ (by simp [L,D]) h.1 rfl,k.same _ _ (Nat.le_refl _) h.2 rfl⟩
 have cells : ∀ {rc : Loop} {W : World} (v : Value),Book rc W → Book rc (W.setCell c v):=fun v h =>
  ⟨(KeepsOthers.setCell _ _ _).same _ _ h.1 rfl,(KeepsOthers.setCell _ _ _).same _ _ h.2 rfl⟩
 have hk0 : Keeps ps w W0:=fun p _ v hv => by
  have g1:=World.grownBy_alloc w (.deferred (some [])) none
  have g2:=World.grownBy_alloc (w.alloc (.deferred (some []))) (.loop (record .ready none)) none
  have e1:=cell_kept hv g1 (fun r e => by cases e)
  exact ⟨cell_kept e1 g2 (fun r e => by cases e),(frozen_kept e1 g2 (fun r e => by cases e)).trans (frozen_kept hv g1 (fun r e => by cases e))⟩
 refine ⟨L,[{ target:=.collected D,args:=#[] }],W0,{ target:=.fn (.func gf) lb,args:=#[.func (.yield L) #[] #[]] },W0,gf,#[.func (.yield L) #[] #[]] ++ lb,W0,
  run_enterLoop_outer _ _ _ _ _,?_,?_,?_,fun _ => h1,?_⟩
 ·simp only [resolve,hg]; simp [go_sem]
 ·intro f' hf'; simp [Target.leads] at hf'; subst hf'; exact hFg
 ·simp [invoke,go_sem,eg]
 refine (hseq L (fun r W => I r W ∧ Book (record .ready none) W) (fun W => ∃ j,Ix j W ∧ Book (record .done (some j)) W) W0 hk0
  (fun r A v h => ⟨hIc r A v h.1,cells v h.2⟩) ?_ ⟨hI.alloc _ (hI.alloc _ h0),hbook⟩).mono ?_
 ·
  rintro x r W ⟨hi,hb⟩
  have hy:=run_yield (P:=P) (args:=encs x) hb.1 (hps x)
  refine ⟨fn,_,assign,body,hy,roundIn_of_wpIn hfn (hassign _ x W _ ⟨_,run_beginRound hb.1 rfl,?_⟩)⟩
  have hb2 : Book { record .ready none with state:=.busy } (W.putObj L (.loop { record .ready none with state:=.busy })):=turn hb
  refine wpIn_mono (hbody _ x r _ (hI.putObj _ hi (by simp [L]) hb.1 rfl)) ?_
  rintro e a3 W3 hp
  cases e with
  | normal =>
   obtain ⟨hk3,hkp3,hi3⟩:=hp
   have hb3:=over hb2 hk3
   exact ⟨_,_,run_endRound none hb3.1,.inl ⟨rfl,⟨hI.putObj _ hi3 (by simp [L]) hb3.1 rfl,turn hb3⟩,((Keeps.turned _ _ _ _ hb.1 rfl).trans hkp3).trans (Keeps.turned _ _ _ _ hb3.1 rfl)⟩⟩
  | ret =>
   obtain ⟨hk3,hi3⟩:=hp
   have hb3:=over hb2 hk3
   exact ⟨_,_,run_endRound (some .ret) hb3.1,.inr ⟨rfl,.ret,hIx.putObj _ hi3 (by simp [L]) hb3.1 rfl,turn hb3⟩⟩
  | exit id => exact hp.elim
  | goto t => exact hp.elim
  | panic ch => exact hp.elim
  | outgrown => exact hp.elim
 ·
  rintro e W2 ⟨⟨v,rfl⟩,(⟨hi,hb⟩ | ⟨j,hi,hb⟩)⟩
  ·exact ⟨none,_,run_endLoop hb.1 (by simp [record]),hdone D _ (Nat.le_refl _) (hI.putObj _ hi (by simp [L]) hb.1 rfl) (turn (rc':=_) hb).2⟩
  ·exact ⟨some j,_,run_endLoop hb.1 (by simp [record]),hstop D j _ (Nat.le_refl _) (hIx.putObj _ hi (by simp [L]) hb.1 rfl) (turn (rc':=_) hb).2⟩
def pieces : List UInt8 → List (List UInt8)
 | [] => [[]]
 | b :: l => if b == 32 then [] :: pieces l else match pieces l with
  | [] => [[b]]
  | p :: r => (b :: p) :: r
theorem idx_range : ∀ (l : List UInt8),Lib.indexByte l 32 = -1 ∨ (0 ≤ Lib.indexByte l 32 ∧ Lib.indexByte l 32 < l.length)
 | [] => .inl rfl
 | b :: l => by
  have:=idx_range l
  unfold Lib.indexByte
  split
  ·right; simp
  ·split
   ·exact .inl rfl
   ·rename_i h
    simp at h
    right; simp; omega
theorem pieces_none : ∀ (l : List UInt8),Lib.indexByte l 32 = -1 → pieces l = [l]
 | [],_ => rfl
 | b :: l,h => by
  have hr:=idx_range l
  unfold Lib.indexByte at h
  split at h
  ·simp at h
  ·rename_i hb
   split at h
   ·rename_i hi
    have:=pieces_none l (by simpa using hi)
    unfold pieces
    rw [if_neg hb,this]
   ·rename_i hi
    simp at hi
    omega
theorem pieces_some : ∀ (l : List UInt8) (k : Nat),Lib.indexByte l 32 = k → pieces l = l.take k :: pieces (l.drop (k + 1))
 | [],k,h => by simp [Lib.indexByte] at h
 | b :: l,k,h => by
  have hr:=idx_range l
  unfold Lib.indexByte at h
  split at h
  ·rename_i hb
   obtain rfl : k = 0:=by omega
   rw [pieces,if_pos hb]
   simp
  ·rename_i hb
   split at h
   ·omega
   ·rename_i hi
    simp at hi
    obtain ⟨m,rfl⟩ : ∃ m,k = m + 1:=⟨k - 1,by omega⟩
    have:=pieces_some l m (by omega)
    rw [pieces,if_neg hb,this]
    simp
def bpieces (s : ByteArray) : List ByteArray:=(pieces s.data.toList).map fun l => ⟨l.toArray⟩
theorem ba_take (s : ByteArray) (k : Nat) : s.extract 0 k = ⟨(s.data.toList.take k).toArray⟩:=by
 apply ba_ext; simp [ByteArray.data_extract,Array.toList_extract]
theorem ba_drop (s : ByteArray) (k : Nat) : s.extract k s.size = ⟨(s.data.toList.drop k).toArray⟩:=by
 apply ba_ext
 simp [ByteArray.data_extract,Array.toList_extract]
 rw [List.take_of_length_le]
 have:=ba_size s
 simp only [List.length_drop]
 omega
theorem bpieces_none (s : ByteArray) (h : Lib.indexByte s.data.toList 32 = -1) : bpieces s = [s]:=by
 simp [bpieces,pieces_none _ h]
theorem bpieces_some (s : ByteArray) (k : Nat) (h : Lib.indexByte s.data.toList 32 = k) : bpieces s = s.extract 0 k :: bpieces (s.extract (k + 1) s.size):=by
 rw [ba_take,ba_drop]
 simp [bpieces,pieces_some _ k h]
theorem pieces_size : ∀ (l : List UInt8) (p : List UInt8),p ∈ pieces l → p.length ≤ l.length
 | [],p,h => by simp [pieces] at h; simp [h]
 | b :: l,p,h => by
  have ih:=pieces_size l
  unfold pieces at h
  split at h
  ·simp only [List.mem_cons] at h
   rcases h with rfl | h
   ·simp
   ·have:=ih p h; simp; omega
  ·split at h
   ·simp at h; simp [h]
   ·rename_i q r hq
    simp only [List.mem_cons] at h
    rcases h with rfl | h
    ·have:=ih q (by rw [hq]; simp); simp; omega
    ·have:=ih p (by rw [hq]; simp [h]); simp; omega
theorem bpieces_size (s p : ByteArray) (h : p ∈ bpieces s) : p.size ≤ s.size:=by
 unfold bpieces at h
 obtain ⟨l,hl,rfl⟩:=List.mem_map.1 h
 have:=pieces_size _ _ hl
 rw [ba_size,ba_size]
 simpa using this
end Go.Proofs.YtepcmfegggdjfaaGreatDoor
namespace Go.Proofs
open Go.Shelf
def Tryz.lays143_ren : Go.Shelf.Ren:=⟨fun | 143 => 176 | 219 => 178 | 217 => 179 | 225 => 180 | 224 => 181 | 267 => 182 | 266 => 183 | 314 => 184 | n => n,fun | 9 => 9 | 3 => 3 | 4 => 4 | 5 => 5 | 46 => 235 | 146 => 241 | 51 => 218 | n => n,fun | 1 => 3 | n => n⟩
theorem Tryz.lays143 : Go.Proofs.Lays.n143 Tryz.prog Tryz.lays143_ren:={
 mixed:=by kernel_rfl
 f143:=Tryz.func176.trans (congrArg some (by kernel_rfl))
 f217:=Tryz.func179.trans (congrArg some (by kernel_rfl))
 f219:=Tryz.func178.trans (congrArg some (by kernel_rfl))
 f224:=Tryz.func181.trans (congrArg some (by kernel_rfl))
 f225:=Tryz.func180.trans (congrArg some (by kernel_rfl))
 f266:=Tryz.func183.trans (congrArg some (by kernel_rfl))
 f267:=Tryz.func182.trans (congrArg some (by kernel_rfl))
 f314:=Tryz.func184.trans (congrArg some (by kernel_rfl))
 t3:=Tryz.underlying3
 a3:=Tryz.isAgg3
 z3:=Tryz.sizeOf3
 v3:=Tryz.zeroValue3
 t4:=Tryz.underlying4
 a4:=Tryz.isAgg4
 z4:=Tryz.sizeOf4
 v4:=Tryz.zeroValue4
 t5:=Tryz.underlying5
 a5:=Tryz.isAgg5
 z5:=Tryz.sizeOf5
 v5:=Tryz.zeroValue5
 t9:=Tryz.underlying9
 a9:=Tryz.isAgg9
 z9:=Tryz.sizeOf9
 v9:=Tryz.zeroValue9
 t46:=Tryz.underlying235
 a46:=Tryz.isAgg235
 z46:=Tryz.sizeOf235
 v46:=Tryz.zeroValue235
 t51:=Tryz.underlying218
 a51:=Tryz.isAgg218
 z51:=Tryz.sizeOf218
 v51:=Tryz.zeroValue218
 t146:=Tryz.underlying241
 a146:=Tryz.isAgg241
 z146:=Tryz.sizeOf241
 v146:=Tryz.zeroValue241
 g1:=by kernel_rfl }
open Go.RowKit Go.Lib in
theorem Tryz.strings_Index_one (s : ByteArray) (c : UInt8) (w : World) :
  Calls Tryz.prog 176 #[.string s,.string ⟨#[c]⟩] w fun e w' => e = .returned (.int .i64 (Lib.indexByte s.data.toList c)) ∧ w' = w:=Any.strings_Index_one Tryz.lays143 s c w
end Go.Proofs
namespace Go.Proofs.YtepcmfegggdjfaaGreatDoor
open Go.Shelf Go.RowKit Go.Lib
theorem index82 (s : ByteArray) (w : World) :
  Calls Tryz.prog 176 #[.string s,.string ⟨#[32]⟩] w fun e w' => e = .returned (.int .i64 (Lib.indexByte s.data.toList 32)) ∧ w' = w:=Tryz.strings_Index_one s 32 w
open Go.RowKit Go.Shelf
def textAt (W : World) (c : Addr) : ByteArray:=match W.cell? c with
 | some (.string s) => s
 | _ => ByteArray.empty
theorem split_in (n l b1 b2 b3 : Nat) (h12 : b1 ≠ b2) (h32 : b3 ≠ b2) (s : ByteArray) (J : List ByteArray → World → Prop) (Jx : World → Prop)
  (hJ : ∀ r A v,J r A → J r (A.setCell ⟨b2,0,none⟩ v))
  (hY : ∀ x r A,J (x :: r) A → YieldAt Fence.wide (n - 1) Tryz.prog l #[.string x] A fun e B => (e = .returned (.bool true) ∧ J r B ∧ Keeps [⟨b1,0,none⟩,⟨b2,0,none⟩,⟨b3,0,none⟩] A B) ∨ (e = .returned (.bool false) ∧ Jx B))
  (W : World) (c1 : W.cell? ⟨b1,0,none⟩ = some (.string ⟨#[32]⟩)) (c2 : W.cell? ⟨b2,0,none⟩ = some (.string s)) (f2 : W.frozen? ⟨b2,0,none⟩ = false) (c3 : W.cell? ⟨b3,0,none⟩ = some (.int .i64 0)) (h0 : J (bpieces s) W) (hsz : s.size ≤ 1099511627776) :
  CallsIn Fence.wide n Tryz.prog 174 #[.func (.yield l) #[] #[],.pointer (some ⟨b1,0,none⟩),.pointer (some ⟨b2,0,none⟩),.pointer (some ⟨b3,0,none⟩)] W fun e B => (∃ v,e = .returned v) ∧ (J [] B ∨ Jx B):=by
 refine callsIn_of_wp Tryz.func174 rfl trivial ?_ rfl
 simp only [Tryz.ntmps174,List.size_toArray,List.length_cons,List.length_nil,Nat.reduceAdd,Nat.reduceSub,Array.replicate_succ,Array.replicate_zero,List.push_toArray,List.append_toArray,List.nil_append,List.cons_append]
 gi_wp2
 gi_loopw [] (fun wr => ∃ s : ByteArray,wr.cell? ⟨b1,0,none⟩ = some (.string ⟨#[32]⟩) ∧ wr.cell? ⟨b2,0,none⟩ = some (.string s) ∧ wr.frozen? ⟨b2,0,none⟩ = false ∧ wr.cell? ⟨b3,0,none⟩ = some (.int .i64 0) ∧ J (bpieces s) wr ∧ s.size ≤ 1099511627776)
  (fun wr => (textAt wr ⟨b2,0,none⟩).size)
 case atStart => exact ⟨s,c1,c2,f2,c3,h0,hsz⟩
 case round =>
  clear c1 c2 f2 c3 h0 hsz
  obtain ⟨s,c1,c2,f2,c3,hj,hsz⟩:=hrel
  have hI:=callsIn_wide (n:=n - 1).2 (index82 s wr)
  rcases idx_range s.data.toList with hneg | ⟨hge,hlt⟩
  ·rw [hneg] at hI
   rw [bpieces_none s hneg] at hj
   obtain ⟨fn,tmps,assign,body,hy,hR⟩:=hY s [] wr hj
   gi_wp2_with fail
   refine ⟨trivial,(fun h => nomatch h),?_⟩
   refine hI.mono ?_
   rintro e w' ⟨rfl,rfl⟩
   gi_wp2_with fail
   refine ⟨(fun h => nomatch h),?_⟩
   refine hR.mono ?_
   rintro e W3 (⟨rfl,hJ3,hk3⟩ | ⟨rfl,hJx3⟩)
   ·gi_wp2_with fail
    go_end0
    exact ⟨⟨_,rfl⟩,.inl hJ3⟩
   ·gi_wp2_with fail
    go_end0
    exact ⟨⟨_,rfl⟩,.inr hJx3⟩
  ·obtain ⟨k,hk⟩ : ∃ k : Nat,Lib.indexByte s.data.toList 32 = k:=⟨(Lib.indexByte s.data.toList 32).toNat,by omega⟩
   rw [hk] at hI hlt
   rw [← ba_size] at hlt
   rw [bpieces_some s k hk] at hj
   obtain ⟨fn,tmps,assign,body,hy,hR⟩:=hY _ _ wr hj
   have k0 : (0 : Int) ≤ k:=by omega
   have k1 : (k : Int) < s.size:=by omega
   have k2 : (s.size : Int) ≤ 1099511627776:=by omega
   have k3 : wrap64 (k : Int) = k:=by unfold wrap64; omega
   have k4 : wrap64 ((k : Int) + 1) = k + 1:=by unfold wrap64; omega
   gi_wp2_with fail
   refine ⟨trivial,(fun h => nomatch h),?_⟩
   refine hI.mono ?_
   rintro e w' ⟨rfl,rfl⟩
   gi_wp2_with fail
   refine ⟨(fun h => nomatch h),?_⟩
   refine hR.mono ?_
   rintro e W3 (⟨rfl,hJ3,hk3⟩ | ⟨rfl,hJx3⟩)
   ·obtain ⟨d1,_⟩:=hk3 _ (by simp) _ c1
    obtain ⟨d2,e2⟩:=hk3 _ (by simp) _ c2
    obtain ⟨d3,_⟩:=hk3 _ (by simp) _ c3
    rw [f2] at e2
    have k5 : (k : Int) + 1 ≤ s.size:=by omega
    gi_wp2_with fail
    go_roundw
    case rel =>
     refine ⟨s.extract (k + 1) s.size,?_,?_,?_,?_,hJ _ _ _ hJ3,?_⟩
     ·rw [World.cell?_setCell_other _ _ _ _ (by simp)]; exact d1
     ·exact World.cell?_setCell_same' _ _ _ (by rw [d2]; rfl)
     ·rw [World.frozen?_setCell]; exact e2
     ·rw [World.cell?_setCell_other _ _ _ _ (by simp)]; exact d3
     ·simp; omega
    case measure =>
     rw [show textAt w' ⟨b2,0,none⟩ = s by simp [textAt,c2]]
     rw [textAt,World.cell?_setCell_same' _ _ _ (by rw [d2]; rfl)]
     simp
     omega
   ·gi_wp2_with fail
    refine bodyPost_ret (results_none rfl _ _ _) rfl ?_
    exact ⟨⟨_,rfl⟩,.inr hJx3⟩
theorem feeds47 (n b1 b2 b3 : Nat) (h12 : b1 ≠ b2) (h32 : b3 ≠ b2) (s : ByteArray) (W : World) (c1 : W.cell? ⟨b1,0,none⟩ = some (.string ⟨#[32]⟩)) (c2 : W.cell? ⟨b2,0,none⟩ = some (.string s)) (f2 : W.frozen? ⟨b2,0,none⟩ = false) (c3 : W.cell? ⟨b3,0,none⟩ = some (.int .i64 0)) (hsz : s.size ≤ 1099511627776) :
  Feeds Fence.wide n Tryz.prog 174 #[.pointer (some ⟨b1,0,none⟩),.pointer (some ⟨b2,0,none⟩),.pointer (some ⟨b3,0,none⟩)] (fun x : ByteArray => #[.string x]) ⟨b2,0,none⟩ [⟨b1,0,none⟩,⟨b2,0,none⟩,⟨b3,0,none⟩] (bpieces s) W:=fun l J Jx W1 hk hJ hY h0 => by
 obtain ⟨d1,_⟩:=hk _ (by simp) _ c1
 obtain ⟨d2,e2⟩:=hk _ (by simp) _ c2
 obtain ⟨d3,_⟩:=hk _ (by simp) _ c3
 exact split_in n l b1 b2 b3 h12 h32 s J Jx hJ hY W1 d1 d2 (e2.trans f2) d3 h0 hsz
theorem splitSeq40 (s : ByteArray) (w : World) :
  Calls Tryz.prog 172 #[.string s,.string ⟨#[32]⟩] w fun e w' => e = .returned (.func (.func 174) #[] #[.pointer (some ⟨w.heap.size + 1,0,none⟩),.pointer (some ⟨w.heap.size,0,none⟩),.pointer (some ⟨w.heap.size + 2,0,none⟩)]) ∧
   w' = ((w.alloc (.cells #[.string s] 9)).alloc (.cells #[.string ⟨#[32]⟩] 9)).alloc (.cells #[.int .i64 0] 3):=by
 go_enter Tryz.func172,Tryz.ntmps172
 go_wp2
 go_ret
 exact ⟨rfl,rfl⟩
def Holds (cs : List (Addr × Value)) (W : World) : Prop:=∀ p ∈ cs,W.cell? p.1 = some p.2 ∧ W.frozen? p.1 = false
theorem Holds.grown {cs : List (Addr × Value)} {A B : World} {row : Option Nat} (h : Holds cs A) (hg : A.grownBy B row) (hr : ∀ r,row = some r → ∃ o : Obj,A.heap[r]? = some o ∧ o.isCells = false) : Holds cs B :=
 fun p hp => ⟨cell_kept (h p hp).1 hg hr,(frozen_kept (h p hp).1 hg hr).trans (h p hp).2⟩
theorem Holds.turned {cs : List (Addr × Value)} {W : World} (h : Holds cs W) {l : Nat} {o : Obj} (o' : Obj) (hl : W.heap[l]? = some o) (ho : o.isCells = false) : Holds cs (W.putObj l o') :=
 h.grown (grownBy_putObj' W l o') (fun r e => by cases e; exact ⟨o,hl,ho⟩)
theorem Holds.other {cs : List (Addr × Value)} {W : World} (h : Holds cs W) (c : Addr) (v : Value) (hc : ∀ p ∈ cs,c ≠ p.1) : Holds cs (W.setCell c v) :=
 fun p hp => ⟨(World.cell?_setCell_other _ _ _ _ (hc p hp)).trans (h p hp).1,(World.frozen?_setCell _ _ _ _).trans (h p hp).2⟩
theorem Holds.cons {p : Addr × Value} {cs : List (Addr × Value)} {W : World} (h1 : W.cell? p.1 = some p.2) (h2 : W.frozen? p.1 = false) (h : Holds cs W) : Holds (p :: cs) W :=
 fun q hq => by
  rcases List.mem_cons.1 hq with rfl | hq
  ·exact ⟨h1,h2⟩
  ·exact h q hq
theorem Holds.set {c : Addr} {u v : Value} {cs : List (Addr × Value)} {W : World} (h : Holds ((c,u) :: cs) W) (hc : ∀ p ∈ cs,c ≠ p.1) : Holds ((c,v) :: cs) (W.setCell c v):=by
 have h1:=h (c,u) (by simp)
 refine Holds.cons (World.cell?_setCell_same' _ _ _ (by rw [h1.1]; rfl)) ((World.frozen?_setCell _ _ _ _).trans h1.2) (Holds.other (fun p hp => h p (by simp [hp])) _ _ hc)
theorem Keeps.other {ps : List Addr} (W : World) (c : Addr) (v : Value) (hc : ∀ p ∈ ps,c ≠ p) : Keeps ps W (W.setCell c v) :=
 fun p hp u hu => ⟨(World.cell?_setCell_other _ _ _ _ (hc p hp)).trans hu,World.frozen?_setCell _ _ _ _⟩
theorem results_one {fn : Func} {p : Tmp} {ty : TypeId} (h : fn.results = #[.cell p ty]) (tmps : Array Value) (P : Program) (w : World) :
  (results fn tmps).run P w = ((asAddr (tmps.getD p undef)).run P w).andThen fun a w₁ => (loadVar ty a).run P w₁:=by
 simp only [results,h]
 simp [Sem.run_bind,Result.andThen]
def wordV (f op : Int) (a : ByteArray) : List ByteArray → ByteArray
 | [] => ⟨#[]⟩
 | p :: r => if f = op then a ++ p else wordV (f + 1) op a r
theorem word18 (f l op : Int) (a ws : ByteArray) (w : World) (h0 : 0 ≤ f) (hb : f + (bpieces ws).length ≤ 255) (hsz : ws.size ≤ 1099511627776) (ha : a.size ≤ 1099511627776) :
  Calls Tryz.prog 167 #[.agg #[.int .u8 f,.int .u8 l,.string a,.string ws],.int .u8 op] w fun e w' => e = .returned (.string (wordV f op a (bpieces ws))) ∧ Below w.heap.size w w':=by
 obtain ⟨xs,hxs⟩ : ∃ xs,bpieces ws = xs:=⟨_,rfl⟩
 have hlen:=bpieces_size ws
 rw [hxs] at hb hlen ⊢
 obtain ⟨V,hV⟩ : ∃ V,wordV f op a xs = V:=⟨_,rfl⟩
 rw [hV]
 refine (callsIn_wide (n:=5)).1 ?_
 refine callsIn_of_wp_marks Tryz.func167 rfl trivial ?_ rfl
 simp only [Tryz.ntmps167,List.size_toArray,List.length_cons,List.length_nil,Nat.reduceAdd,Nat.reduceSub,Array.replicate_succ,Array.replicate_zero,List.push_toArray,List.append_toArray,List.nil_append,List.cons_append]
 gi_wp2_with fail
 refine ⟨trivial,?_⟩
 refine (callsIn_wide.2 (splitSeq40 ws _)).mono ?_
 rintro e w' ⟨rfl,rfl⟩
 gi_wp2_with fail
 simp only [Nat.add_assoc,Nat.reduceAdd]
 obtain ⟨W0,hW0⟩ : ∃ W0,(((((((w.alloc (.cells #[.int .u8 f,.int .u8 l,.string a,.string ws] 221)).alloc (.cells #[.int .u8 op] 5)).alloc (.cells #[.string ⟨#[]⟩] 9)).alloc (.cells #[.int .u8 f] 5)).alloc (.cells #[.string ws] 9)).alloc (.cells #[.string ⟨#[32]⟩] 9)).alloc (.cells #[.int .i64 0] 3)) = W0:=⟨_,rfl⟩
 rw [hW0]
 have B0 : Below w.heap.size w W0:=by rw [← hW0]; exact (((((((Below.refl _ w).alloc (by simp) _).alloc (by simp <;> omega) _).alloc (by simp <;> omega) _).alloc (by simp <;> omega) _).alloc (by simp <;> omega) _).alloc (by simp <;> omega) _).alloc (by simp <;> omega) _
 have z0 : W0.heap.size = w.heap.size + 7:=by rw [← hW0]; simp [go_sem]
 have k2 : W0.cell? ⟨w.heap.size,2,none⟩ = some (.string a):=by rw [← hW0]; simp [go_sem]
 have o1 : W0.cell? ⟨w.heap.size + 1,0,none⟩ = some (.int .u8 op):=by rw [← hW0]; simp [go_sem]
 have r0 : W0.cell? ⟨w.heap.size + 2,0,none⟩ = some (.string ⟨#[]⟩):=by rw [← hW0]; simp [go_sem]
 have rf : W0.frozen? ⟨w.heap.size + 2,0,none⟩ = false:=by rw [← hW0]; simp [go_sem]
 have a0 : W0.cell? ⟨w.heap.size + 3,0,none⟩ = some (.int .u8 f):=by rw [← hW0]; simp [go_sem]
 have af : W0.frozen? ⟨w.heap.size + 3,0,none⟩ = false:=by rw [← hW0]; simp [go_sem]
 have c2 : W0.cell? ⟨w.heap.size + 4,0,none⟩ = some (.string ws):=by rw [← hW0]; simp [go_sem]
 have f2 : W0.frozen? ⟨w.heap.size + 4,0,none⟩ = false:=by rw [← hW0]; simp [go_sem]
 have c1 : W0.cell? ⟨w.heap.size + 5,0,none⟩ = some (.string ⟨#[32]⟩):=by rw [← hW0]; simp [go_sem]
 have c3 : W0.cell? ⟨w.heap.size + 6,0,none⟩ = some (.int .i64 0):=by rw [← hW0]; simp [go_sem]
 have kf : W0.frozen? ⟨w.heap.size,2,none⟩ = false:=by rw [← hW0]; simp [go_sem]
 have of : W0.frozen? ⟨w.heap.size + 1,0,none⟩ = false:=by rw [← hW0]; simp [go_sem]
 clear hW0
 have HF:=feeds47 4 (w.heap.size + 5) (w.heap.size + 4) (w.heap.size + 6) (by omega) (by omega) ws W0 c1 c2 f2 c3 hsz
 rw [hxs] at HF
 refine range_feeds rfl (by decide) (gf:=174) (lb:=#[.pointer (some ⟨w.heap.size + 5,0,none⟩),.pointer (some ⟨w.heap.size + 4,0,none⟩),.pointer (some ⟨w.heap.size + 6,0,none⟩)]) rfl trivial (enters_of Tryz.func174 (by kernel_rfl) rfl) (encs:=fun x : ByteArray => #[.string x]) (fun _ => rfl)
  HF
  (fun r W => Holds [(⟨w.heap.size + 3,0,none⟩,.int .u8 (f + xs.length - r.length)),(⟨w.heap.size,2,none⟩,.string a),(⟨w.heap.size + 1,0,none⟩,.int .u8 op),(⟨w.heap.size + 2,0,none⟩,.string ⟨#[]⟩)] W ∧ Below w.heap.size w W ∧ r.length ≤ xs.length ∧ (∀ p ∈ r,p.size ≤ ws.size) ∧ wordV (f + xs.length - r.length) op a r = V)
  (fun j W => j = .ret ∧ Holds [(⟨w.heap.size + 2,0,none⟩,.string V)] W ∧ Below w.heap.size w W)
  ?own ?ownx ?cells ?start
  (fun x => { tmps:=#[.agg #[.int .u8 f,.int .u8 l,.string a,.string ws],.int .u8 op,.pointer (some ⟨w.heap.size,0,none⟩),.pointer (some ⟨w.heap.size + 1,0,none⟩),.pointer (some ⟨w.heap.size + 2,0,none⟩),.pointer (some ⟨w.heap.size + 3,0,none⟩),.string x,.pointer (some ⟨w.heap.size,0,none⟩),.int .u8 f,.pointer (some ⟨w.heap.size,3,none⟩),.string ws,
   .func (.func 174) #[] #[.pointer (some ⟨w.heap.size + 5,0,none⟩),.pointer (some ⟨w.heap.size + 4,0,none⟩),.pointer (some ⟨w.heap.size + 6,0,none⟩)],.string x,undef,undef,undef,undef,undef,undef,undef,undef,undef],defers:=[] }) ?assign ?body ?done ?stop
 case own =>
  exact fun r A B row hs hg hr => ⟨hs.1.grown hg (fun q e => (hr q e).2),ownFrom_below (β:=Unit) (Nat.le_refl _) (by omega) () A B row hs.2.1 hg hr,hs.2.2⟩
 case ownx =>
  exact fun j A B row hs hg hr => ⟨hs.1,hs.2.1.grown hg (fun q e => (hr q e).2),ownFrom_below (β:=Unit) (Nat.le_refl _) (by omega) () A B row hs.2.2 hg hr⟩
 case cells =>
  exact fun r A v hs => ⟨hs.1.other _ _ (by simp),hs.2.1.setCell (p:=⟨w.heap.size + 4,0,none⟩) (by simp) _,hs.2.2⟩
 case start =>
  refine ⟨?_,B0,Nat.le_refl _,hlen,by rw [← hV]; congr 1; omega⟩
  refine Holds.cons (by simp only [a0]; congr 2; omega) af (Holds.cons k2 kf (Holds.cons o1 of (Holds.cons r0 rf (by simp [Holds]))))
 case assign =>
  intro l x W K hK
  have hsem:=@Oper.semAt_some
  gi_wp2
  exact hK
 case body =>
  rintro m x r W ⟨hc,hB,hr,hp,hv⟩
  have hsem:=@Oper.semAt_some
  have d1:=hc _ (List.mem_cons_self ..)
  have d2:=hc _ (List.mem_cons_of_mem _ (List.mem_cons_self ..))
  have d3:=hc _ (List.mem_cons_of_mem _ (List.mem_cons_of_mem _ (List.mem_cons_self ..)))
  have d4:=hc _ (List.mem_cons_of_mem _ (List.mem_cons_of_mem _ (List.mem_cons_of_mem _ (List.mem_cons_self ..))))
  obtain ⟨q,hq⟩ : ∃ q : Int,f + xs.length - (x :: r).length = q:=⟨_,rfl⟩
  rw [hq] at hc d1 hv
  have q0 : 0 ≤ q:=by simp at hq hr; omega
  have q1 : q + 1 ≤ 255:=by simp at hq hr; omega
  have q2 : f + xs.length - r.length = q + 1:=by simp at hq; omega
  have hx : x.size ≤ ws.size:=hp x (by simp)
  have hax : ¬ (a.size + x.size > 9223372036854775807):=by omega
  by_cases he : q = op
  ·subst he
   gi_wp2_with fail
   refine ⟨(KeepsOthers.setCell _ _ _).from _,rfl,?_,hB.setCell (p:=⟨w.heap.size + 2,0,none⟩) (by simp) _⟩
   rw [wordV,if_pos rfl] at hv
   rw [← hv]
   exact Holds.set (Holds.cons d4.1 d4.2 (by simp [Holds])) (by simp)
  ·gi_wp2_with fail
   rw [wordV,if_neg he] at hv
   refine ⟨(KeepsOthers.setCell _ _ _).from _,?_,?_,hB.setCell (p:=⟨w.heap.size + 3,0,none⟩) (by simp) _,by simp at hr; omega,fun p h => hp p (by simp [h]),hv⟩
   ·exact Keeps.other _ _ _ (by simp)
   ·exact Holds.set hc (by simp)
 case done =>
  rintro D W hD ⟨hc,hB,_,_,hv⟩ hK
  have d4:=hc _ (List.mem_cons_of_mem _ (List.mem_cons_of_mem _ (List.mem_cons_of_mem _ (List.mem_cons_self ..))))
  have d5:=d4.1
  have d6:=d4.2
  gi_wp2_with fail
  have hK2:=(KeepsOthers.setCell W ⟨w.heap.size + 2,0,none⟩ (.string ⟨#[]⟩)).same _ _ hK rfl
  refine ⟨by simp,.inl ⟨_,_,rfl,run_takeDeferred hK2,?_⟩⟩
  have hH:=(Holds.set (v:=.string ⟨#[]⟩) (Holds.cons (cs:=[]) d4.1 d4.2 (by simp [Holds])) (by simp)).turned (.deferred none) hK2 rfl
  have e1:=(hH _ (List.mem_cons_self ..)).1
  have hBB:=(hB.setCell (p:=⟨w.heap.size + 2,0,none⟩) (by simp) (.string ⟨#[]⟩)).trans (belowK_b (w:=w) (Nat.le_refl _) _ D _ (.deferred none) (by omega) hK2 rfl rfl)
  generalize World.putObj _ D (.deferred none) = W5 at e1 hBB ⊢
  refine ⟨.string V,?_,rfl,hBB⟩
  rw [results_one rfl]
  rw [← hv,wordV]
  go_simp
 case stop =>
  rintro D j W hD ⟨rfl,hc,hB⟩ hK
  gi_wp2_with fail
  refine ⟨by simp,.inl ⟨_,_,rfl,run_takeDeferred hK,?_⟩⟩
  have e1:=((hc.turned (.deferred none) hK rfl) _ (List.mem_cons_self ..)).1
  have hBB:=hB.trans (belowK_b (w:=w) (Nat.le_refl _) _ D _ (.deferred none) (by omega) hK rfl rfl)
  generalize World.putObj _ D (.deferred none) = W5 at e1 hBB ⊢
  refine ⟨.string V,?_,rfl,hBB⟩
  rw [results_one rfl]
  go_simp
open Go.RowKit
def kW0 : ByteArray:=⟨#[116,114,97,112,32,110,111,112,32,98,108,111,99,107,32,108,111,111,112,32,105,102,32,101,108,115,101,32,101,110,100,32,98,114,32,98,114,105,102,32,98,114,116,97,98,108,101,32,114,101,116,117,114,110,32,99,97,108,108,32,104,111,115,116]⟩
def kW1 : ByteArray:=⟨#[100,114,111,112,32,115,101,108,101,99,116,32,103,101,116,32,115,101,116,32,116,101,101,32,103,103,101,116,32,103,115,101,116]⟩
def kW2 : ByteArray:=⟨#[119,46,99,111,110,115,116,32,108,46,99,111,110,115,116]⟩
def kW3 : ByteArray:=⟨#[119,46,108,111,97,100,56,117,32,119,46,108,111,97,100,56,115,32,119,46,108,111,97,100,49,54,117,32,119,46,108,111,97,100,49,54,115,32,119,46,108,111,97,100,32,108,46,108,111,97,100,32,119,46,115,116,111,114,101,56,32,119,46,115,116,111,114,101,49,54,32,119,46,115,116,111,114,101,32,108,46,115,116,111,114,101,32,115,105,122,101,32,103,114,111,119]⟩
def kW4 : ByteArray:=⟨#[101,113,122,32,101,113,32,110,101,32,108,116,115,32,108,116,117,32,108,101,115,32,108,101,117,32,99,108,122,32,99,116,122,32,112,111,112,32,97,100,100,32,115,117,98,32,109,117,108,32,100,105,118,115,32,100,105,118,117,32,114,101,109,115,32,114,101,109,117,32,97,110,100,32,111,114,32,120,111,114,32,115,104,108,32,115,104,114,115,32,115,104,114,117,32,114,111,116,108,32,114,111,116,114]⟩
def kW5 : ByteArray:=⟨#[101,113,122,32,101,113,32,110,101,32,108,116,115,32,108,116,117,32,108,101,115,32,108,101,117,32,99,108,122,32,99,116,122,32,112,111,112,32,97,100,100,32,115,117,98,32,109,117,108,32,100,105,118,115,32,100,105,118,117,32,114,101,109,115,32,114,101,109,117,32,97,110,100,32,111,114,32,120,111,114,32,115,104,108,32,115,104,114,115,32,115,104,114,117,32,114,111,116,108,32,114,111,116,114]⟩
def kW6 : ByteArray:=⟨#[119,46,119,114,97,112,32,108,46,101,120,116,101,110,100,115,32,108,46,101,120,116,101,110,100,117,32,119,46,101,120,116,56,32,119,46,101,120,116,49,54,32,108,46,101,120,116,51,50]⟩
def kF : Nat → Int
 | 0 => 0
 | 1 => 16
 | 2 => 24
 | 3 => 32
 | 4 => 48
 | 5 => 80
 | _ => 112
def kL : Nat → Int
 | 0 => 12
 | 1 => 22
 | 2 => 25
 | 3 => 43
 | 4 => 72
 | 5 => 104
 | _ => 117
def kA : Nat → ByteArray
 | 0 => ⟨#[]⟩
 | 1 => ⟨#[]⟩
 | 2 => ⟨#[]⟩
 | 3 => ⟨#[]⟩
 | 4 => ⟨#[119,46]⟩
 | 5 => ⟨#[108,46]⟩
 | _ => ⟨#[]⟩
def kW : Nat → ByteArray
 | 0 => kW0
 | 1 => kW1
 | 2 => kW2
 | 3 => kW3
 | 4 => kW4
 | 5 => kW5
 | _ => kW6
def kindsL : List Value:=[.int .u8 0,.int .u8 12,.string ⟨#[]⟩,.string kW0,.int .u8 16,.int .u8 22,.string ⟨#[]⟩,.string kW1,.int .u8 24,.int .u8 25,.string ⟨#[]⟩,.string kW2,.int .u8 32,.int .u8 43,.string ⟨#[]⟩,.string kW3,.int .u8 48,.int .u8 72,.string ⟨#[119,46]⟩,.string kW4,.int .u8 80,.int .u8 104,.string ⟨#[108,46]⟩,.string kW5,.int .u8 112,.int .u8 117,.string ⟨#[]⟩,.string kW6]
def kindsV : Value:=.agg kindsL.toArray
def KindsOk (w : World) : Prop:=∀ j v,kindsL[j]? = some v → w.cell? ⟨0,j,none⟩ = some v
theorem KindsOk.pos {w : World} (h : KindsOk w) : 0 < w.heap.size:=World.block_lt_of_cell? w ⟨0,0,none⟩ (h 0 _ rfl)
theorem KindsOk.later {n : Nat} {w w' : World} (h : KindsOk w) (hb : Below n w w') (hn : 0 < n) : KindsOk w' :=
 fun j v hj => (hb.cell (p:=⟨0,j,none⟩) hn).trans (h j v hj)
theorem run_kinds {w : World} (h : KindsOk w) : (loadVar 222 ⟨0,0,none⟩).run Tryz.prog w = .ok kindsV w:=by
 have hl : (loadCells ⟨0,0,none⟩ 28).run Tryz.prog w = .ok kindsL.toArray w:=run_loadCells_list (P:=Tryz.prog) w ⟨0,0,none⟩ kindsL (fun j v hj => by
  have e : (⟨0,0,none⟩ : Addr).add j = ⟨0,j,none⟩:=by unfold Addr.add; split <;> simp_all
  rw [e]
  exact h j v hj)
 unfold loadVar
 simp only [Sem.run_bind,Tryz.isAgg222,Result.andThen,if_true,Tryz.sizeOf222,hl,Sem.run_pure]
 rfl
theorem exec_kinds {w : World} (h : KindsOk w) (a : Act) (d : Option Tmp) (p : String) (af : Array Edge) (g : Option (Nat × Bool)) :
  (execOp a.eval { dst:=d,op:=Op.load 222 (Operand.global 0),type:=222,pos:=p,after:=af,guard:=g }).run Tryz.prog w = .ok (.value kindsV) w:=by
 show (do pure (Next.value (← Instr.loadAt 222 (.pointer (some ⟨0,0,none⟩)))) : Sem Next).run Tryz.prog w = _
 have e : (Instr.sureAddr (.pointer (some ⟨0,0,none⟩))).run Tryz.prog w = .ok ⟨0,0,none⟩ w:=rfl
 unfold Instr.loadAt
 simp only [Sem.run_bind,e,Sem.run_pure,Result.andThen,run_kinds h]
set_option maxRecDepth 20000 in
theorem run_kind {w : World} (i : Nat) (hi : i < 7) : (Instr.index 222 kindsV (.int .i64 i)).run Tryz.prog w = .ok (.agg #[.int .u8 (kF i),.int .u8 (kL i),.string (kA i),.string (kW i)]) w:=by
 have h : i = 0 ∨ i = 1 ∨ i = 2 ∨ i = 3 ∨ i = 4 ∨ i = 5 ∨ i = 6:=by omega
 rcases h with rfl | rfl | rfl | rfl | rfl | rfl | rfl <;> simp [Instr.index,go_sem,kindsV,kindsL,kF,kL,kA,kW]
theorem kind_facts (i : Nat) (hi : i < 7) : 0 ≤ kF i ∧ kF i ≤ kL i ∧ kL i ≤ 117 ∧ kF i + (bpieces (kW i)).length ≤ 255 ∧ (kW i).size ≤ 1099511627776 ∧ (kA i).size ≤ 1099511627776:=by
 have h : i = 0 ∨ i = 1 ∨ i = 2 ∨ i = 3 ∨ i = 4 ∨ i = 5 ∨ i = 6:=by omega
 rcases h with rfl | rfl | rfl | rfl | rfl | rfl | rfl <;> decide +kernel
end Go.Proofs.YtepcmfegggdjfaaGreatDoor

/-
  Texts Lfu Feed Pieces Shelf Lib Split Word Kinds.
-/
import Derived.Below
import Derived.Ground.Names2Prog
import Derived.KernelRfl
import Derived.Lib.Bytealg
import Derived.LoopIn
import Derived.LoopNIn
import Derived.OwnWalkIn
import Derived.RangeFuncBox
import Derived.RangeFuncCalls
import Derived.RangeFuncLeaves
import Derived.RangeFuncWrites
import Derived.RowKit
import Derived.Shelf.Abstract
import Derived.Shelf.LaysM
import Derived.Shelf.RegionOpen
import Derived.Shelf.Slices.Cells
import Derived.Shelf.Slices.CompactI
import Derived.Shelf.Slices.In.SortNone
import Derived.Shelf.Small.Wraps
import Derived.Shelf.Sort.Plain
import Derived.Shelf.Strconv.Itoa0
import Derived.Shelf.Strconv.Itoa1
import Derived.Shelf.Strconv.Itoa2
import Derived.Shelf.Strconv.Itoa3
import Derived.Shelf.Strings.Prefix
import Derived.Shelf.Strings.Search1
import Derived.Shelf.Strings.Search2
import Derived.Shelf.Strings.Search3
import Derived.Shelf.Strings.Shaped
import Derived.Shelf.Unicode.DecodeSlow
import Derived.TacticsInMore
import Derived.Test.YtepnnenohjfkbaaGreatDoorP00
import Derived.Test.YtepnnenohjfkbaaGreatDoorProg
import Derived.WalkKit
import Derived.WalkLawsBesides
import Derived.WalkSpells
import Derived.Test.YtepnnenohjfkbaaGreatDoorP01
import Derived.Test.YtepnnenohjfkbaaGreatDoorP03
set_option linter.unusedVariables false
set_option maxRecDepth 100000
set_option maxHeartbeats 16000000
namespace Go.Proofs.YtepnnenohjfkbaaGreatDoor
open Go.RowKit
theorem N0 : ∃ i,Tryz.prog.info? 42 = some i ∧ i.zero = some (.agg #[.int .i64 0,.string ⟨#[]⟩,.slice none 0 0]) ∧ i.size = 3 ∧ i.bytes = 48:=AZ aw
def lZ (y : (Int × ByteArray × (Option Addr × Nat × Nat))) : List Value:=[.int .i64 y.1,.string y.2.1,.slice y.2.2.1 y.2.2.2.1 y.2.2.2.2]
abbrev QR (x : (Int × ByteArray × (Option Addr × Nat × Nat) × List (Int × Int × (Option Addr × Nat × Nat) × List Int))) : Value:=.agg #[.int .i64 x.1,.string x.2.1,.slice x.2.2.1.1 x.2.2.1.2.1 x.2.2.1.2.2]
abbrev RN (y : (Int × ByteArray × (Option Addr × Nat × Nat))) : Value:=.agg #[.int .i64 y.1,.string y.2.1,.slice y.2.2.1 y.2.2.2.1 y.2.2.2.2]
def i7 (w : World) (a : Option Addr) (n : Nat) (xs : List (Int × ByteArray × (Option Addr × Nat × Nat) × List (Int × Int × (Option Addr × Nat × Nat) × List Int))) : Prop :=
 xs.length = n ∧ (n = 0 ∨ ∃ b off,a = some ⟨b,off,none⟩ ∧ ∀ (j : Nat) x,xs[j]? = some x → w.cell? ⟨b,off + j * 3,none⟩ = some (.int .i64 x.1) ∧ w.cell? ⟨b,off + j * 3 + 1,none⟩ = some (.string x.2.1) ∧ w.cell? ⟨b,off + j * 3 + 2,none⟩ = some (.slice x.2.2.1.1 x.2.2.1.2.1 x.2.2.1.2.2))
theorem i7.kept {S : Nat → Prop} {w w' : World} {a : Option Addr} {n : Nat} {xs : List (Int × ByteArray × (Option Addr × Nat × Nat) × List (Int × Int × (Option Addr × Nat × Nat) × List Int))} (h : i7 w a n xs) (hk : Kept S w w') (hS : ∀ b off c,a = some ⟨b,off,c⟩ → ¬ S b) : i7 w' a n xs:=by
 exact JC
theorem oX (w : World) (y : (Int × ByteArray × (Option Addr × Nat × Nat))) : ∀ j u,(lZ y)[j]? = some u → (w.alloc (aI y.1 y.2.1 y.2.2.1 y.2.2.2.1 y.2.2.2.2)).cell? ((⟨w.heap.size,0,none⟩ : Addr).add j) = some u:=by
 intro j u hj;have hlt:=ax hj;have hl : (lZ y).length = 3:=rfl;rw [hl] at hlt;have hadd : (⟨w.heap.size,0,none⟩ : Addr).add j = ⟨w.heap.size,j,none⟩:=fZ;rw [hadd];have hb:=(MapKept.heap_alloc w (aI y.1 y.2.1 y.2.2.1 y.2.2.2.1 y.2.2.2.2)).1
 simp only [World.cell?,hb]
 simpa [lZ] using hj
theorem oU (y : (Int × ByteArray × (Option Addr × Nat × Nat))) : ∀ u ∈ lZ y,u.oneCell' = true:=by
 intro u hu
 simp [lZ] at hu
 rcases hu with rfl | rfl | rfl <;> rfl
namespace LFu
abbrev oC0:=lZ
abbrev cL (x : (Int × ByteArray × (Option Addr × Nat × Nat) × List (Int × Int × (Option Addr × Nat × Nat) × List Int))) : Obj:=.cells #[.int .i64 x.1,.string x.2.1,.slice x.2.2.1.1 x.2.2.1.2.1 x.2.2.1.2.2] 42
abbrev cM (y : (Int × ByteArray × (Option Addr × Nat × Nat))) : Obj:=.cells #[.int .i64 y.1,.string y.2.1,.slice y.2.2.1 y.2.2.2.1 y.2.2.2.2] 42
theorem nC (w : World) (y : (Int × ByteArray × (Option Addr × Nat × Nat))) : ∀ j u,(lZ y)[j]? = some u → (w.alloc (cM y)).cell? ((⟨w.heap.size,0,none⟩ : Addr).add j) = some u:=oX w y
theorem oC (y : (Int × ByteArray × (Option Addr × Nat × Nat))) : ∀ u ∈ lZ y,u.oneCell' = true:=oU y
theorem uN : Tryz.prog.underlying 25 = some (.slice 42):=Tryz.underlying25
end LFu
theorem nI (R g cap : Nat) (bs : List Int) (ha : Option Addr) (n hc : Nat) (most : Int) (f : Value) (w : World) (h : Wr w R g cap bs) (hm : most < (n : Int)) :
  Calls Tryz.prog 123 #[cW R,.slice ha n hc,.int .i64 most,f] w (aR R g 20 w):=by
 have hmc:=bz;have hcc:=bQ;have HC:=hid (dU R g cap bs n most w h hm);clear h
 go_enter Tryz.func123,Tryz.ntmps123
 exact jq
def fP (ps : List Addr) (W W' : World) : Prop:=∀ p ∈ ps,∀ v,W.cell? p = some v → W'.cell? p = some v ∧ W'.frozen? p = W.frozen? p
theorem fP.refl (ps : List Addr) (W : World) : fP ps W W:=fun _ _ _ h => ⟨h,rfl⟩
theorem fP.trans {ps : List Addr} {A B C : World} (h : fP ps A B) (k : fP ps B C) : fP ps A C:=fun p hp v hv => by
 obtain ⟨h1,h2⟩:=h p hp v hv;obtain ⟨k1,k2⟩:=k p hp v h1;exact ⟨k1,k2.trans h2⟩
theorem fP.turned {ps : List Addr} (W : World) (l : Nat) (o o' : Obj) (h : W.heap[l]? = some o) (ho : o.isCells = false) : fP ps W (W.putObj l o'):=fun p _ v hv =>
 have hr : ∀ r,some l = some r → ∃ q : Obj,W.heap[r]? = some q ∧ q.isCells = false:=fun r e => by cases e; exact ⟨o,h,ho⟩
 ⟨cell_kept hv (grownBy_putObj' W l o') hr,frozen_kept hv (grownBy_putObj' W l o') hr⟩
def N1 {α : Type} (F : Fence) (n : Nat) (P : Program) (gf : Nat) (lb : Array Value) (encs : α → Array Value) (c : Addr) (ps : List Addr) (xs : List α) (W : World) : Prop :=
 ∀ (l : Nat) (J : List α → World → Prop) (Jx : World → Prop) (W1 : World),fP ps W W1 →
  (∀ r A v,J r A → J r (A.setCell c v)) →
  (∀ x r A,J (x :: r) A → YieldAt F (n - 1) P l (encs x) A fun e B => (e = .returned (.bool true) ∧ J r B ∧ fP ps A B) ∨ (e = .returned (.bool false) ∧ Jx B)) →
  J xs W1 →
  CallsIn F n P gf (#[.func (.yield l) #[] #[]] ++ lb) W1 fun e B => (∃ v,e = .returned v) ∧ (J [] B ∨ Jx B)
def Leaves (B : Nat) (ps : List Addr) (I : World → Prop) (Ix : Code → World → Prop) (W : World) : Exit → Act → World → Prop
 | .normal,_,W' => KeepsFrom B W W' ∧ fP ps W W' ∧ I W'
 | .ret,_,W' => KeepsFrom B W W' ∧ Ix .ret W'
 | .exit _,_,_ => False
 | .goto _,_,_ => False
 | .panic _,_,_ => False
 | .outgrown,_,_ => False
theorem xQ {α : Type} {F : Fence} {n : Nat} {P : Program} {g : Operand} {prm : Array Tmp} {assign body : Code} {Q : Exit → Act → World → Prop} {a : Act} {w : World}
  (hro : F.round = none) (h1 : 1 ≤ n) {gf : Nat} {lb : Array Value} (hg : a.eval g = .func (.func gf) #[] lb) (hFg : F.fn gf) (eg : ∀ args w,(callFunc gf args).run P w = .ok (.enter gf args) w)
  {encs : α → Array Value} {c : Addr} {ps : List Addr} {xs : List α} (hps : ∀ x,(encs x).size = prm.size)
  (hseq : N1 F (n - 1) P gf lb encs c ps xs w)
  (I : List α → World → Prop) (Ix : Code → World → Prop) (hI : OwnFrom w.heap.size I) (hIx : OwnFrom w.heap.size Ix)
  (hIc : ∀ r A v,I r A → I r (A.setCell c v)) (h0 : I xs w) (a₁ : α → Act)
  (hassign : ∀ (l : Nat) (x : α) (W : World) (K : Act → World → Prop),K (a₁ x) W →
   assign.wpIn (F.inRound l) (n - 1 - 1) P (Exit.then K (fun _ _ _ => False)) { tmps:=(prm.zip (encs x)).foldl (fun t (p,v) => t.setIfInBounds p v) a.tmps,defers:=[] } W)
  (hbody : ∀ (l : Nat) (x : α) (r : List α) (W : World),I (x :: r) W → body.wpIn (F.inRound l) (n - 1 - 1) P (Leaves w.heap.size ps (I r) Ix W) (a₁ x) W)
  (hdone : ∀ (D : Nat) (W : World),w.heap.size ≤ D → I [] W → W.heap[D]? = some (.deferred (some [])) → Q .normal { a with defers:={ target:=.collected D,args:=#[] } :: a.defers } W)
  (hstop : ∀ (D : Nat) (j : Code) (W : World),w.heap.size ≤ D → Ix j W → W.heap[D]? = some (.deferred (some [])) → j.wpIn F n P Q { a with defers:={ target:=.collected D,args:=#[] } :: a.defers } W) :
  (Code.rangeFunc g prm assign body).wpIn F n P Q a w:=by
 refine wpIn_rangeFunc fun fn hfn => ?_
 rw [hro]
 let record : LoopState → Option Code → Loop:=fun st pe => { state:=st,pending:=pe,fn,tmps:=a.tmps,params:=prm,assign,body,defers:=w.heap.size }
 let D:=w.heap.size
 let L:=w.heap.size + 1
 let W0:=(w.alloc (.deferred (some []))).alloc (.loop (record .ready none))
 let Book : Loop → World → Prop:=fun rc W => W.heap[L]? = some (.loop rc) ∧ W.heap[D]? = some (.deferred (some []))
 have hbook : Book (record .ready none) W0:=by
  constructor
  ·have:=World.alloc_heap_new (w.alloc (.deferred (some []))) (.loop (record .ready none))
   rwa [World.size_alloc] at this
  ·exact (Below.heap_alloc _ _ _ (by simp [D])).trans (World.alloc_heap_new w _)
 have turn : ∀ {rc rc' : Loop} {W : World},Book rc W → Book rc' (W.putObj L (.loop rc')):=fun h =>
  ⟨World.putObj_heap_same (Array.getElem?_eq_some_iff.1 h.1).1,(World.putObj_heap_other (by simp [L,D])).trans h.2⟩
 have over : ∀ {rc : Loop} {W W' : World},Book rc W → KeepsFrom D W W' → Book rc W':=fun h k =>
  ⟨k.same _ _ (by simp [L,D]) h.1 rfl,k.same _ _ (Nat.le_refl _) h.2 rfl⟩
 have cells : ∀ {rc : Loop} {W : World} (v : Value),Book rc W → Book rc (W.setCell c v):=fun v h =>
  ⟨(KeepsOthers.setCell _ _ _).same _ _ h.1 rfl,(KeepsOthers.setCell _ _ _).same _ _ h.2 rfl⟩
 have hk0 : fP ps w W0:=fun p _ v hv => by
  have g1:=World.grownBy_alloc w (.deferred (some [])) none;have g2:=World.grownBy_alloc (w.alloc (.deferred (some []))) (.loop (record .ready none)) none
  have e1:=cell_kept hv g1 (fun r e => ju)
  exact ⟨cell_kept e1 g2 (fun r e => ju),(frozen_kept e1 g2 (fun r e => ju)).trans (frozen_kept hv g1 (fun r e => ju))⟩
 refine ⟨L,[{ target:=.collected D,args:=#[] }],W0,{ target:=.fn (.func gf) lb,args:=#[.func (.yield L) #[] #[]] },W0,gf,#[.func (.yield L) #[] #[]] ++ lb,W0,
  run_enterLoop_outer _ _ _ _ _,?_,?_,?_,fun _ => h1,?_⟩
 ·simp only [resolve,hg]; simp [go_sem]
 ·intro f' hf'; simp [Target.leads] at hf'; subst hf'; exact hFg
 ·simp [invoke,go_sem,eg]
 refine (hseq L (fun r W => I r W ∧ Book (record .ready none) W) (fun W => ∃ j,Ix j W ∧ Book (record .done (some j)) W) W0 hk0
  (fun r A v h => ⟨hIc r A v h.1,cells v h.2⟩) ?_ ⟨hI.alloc _ (hI.alloc _ h0),hbook⟩).mono ?_
 ·
  rintro x r W ⟨hi,hb⟩;have hy:=run_yield (P:=P) (args:=encs x) hb.1 (hps x);refine ⟨fn,_,assign,body,hy,roundIn_of_wpIn hfn (hassign _ x W _ ⟨_,run_beginRound hb.1 rfl,?_⟩)⟩
  have hb2 : Book { record .ready none with state:=.busy } (W.putObj L (.loop { record .ready none with state:=.busy })):=turn hb
  refine wpIn_mono (hbody _ x r _ (hI.putObj _ hi (by simp [L]) hb.1 rfl)) ?_
  rintro e a3 W3 hp
  cases e with
  | normal =>
   obtain ⟨hk3,hkp3,hi3⟩:=hp;have hb3:=over hb2 hk3
   exact ⟨_,_,run_endRound none hb3.1,.inl ⟨rfl,⟨hI.putObj _ hi3 (by simp [L]) hb3.1 rfl,turn hb3⟩,((fP.turned _ _ _ _ hb.1 rfl).trans hkp3).trans (fP.turned _ _ _ _ hb3.1 rfl)⟩⟩
  | ret =>
   obtain ⟨hk3,hi3⟩:=hp;have hb3:=over hb2 hk3
   exact ⟨_,_,run_endRound (some .ret) hb3.1,.inr ⟨rfl,.ret,hIx.putObj _ hi3 (by simp [L]) hb3.1 rfl,turn hb3⟩⟩
  | exit id => exact hp.elim
  | goto t => exact hp.elim
  | panic ch => exact hp.elim
  | outgrown => exact hp.elim
 ·
  rintro e W2 ⟨⟨v,rfl⟩,(⟨hi,hb⟩ | ⟨j,hi,hb⟩)⟩
  ·exact ⟨none,_,run_endLoop hb.1 (by simp [record]),hdone D _ (Nat.le_refl _) (hI.putObj _ hi (by simp [L]) hb.1 rfl) (turn (rc':=_) hb).2⟩
  ·exact ⟨some j,_,run_endLoop hb.1 (by simp [record]),hstop D j _ (Nat.le_refl _) (hIx.putObj _ hi (by simp [L]) hb.1 rfl) (turn (rc':=_) hb).2⟩
def pieces : List UInt8 → List (List UInt8)
 | [] => [[]]
 | b :: l => if b == 32 then [] :: pieces l else match pieces l with
  | [] => [[b]]
  | p :: r => (b :: p) :: r
theorem kJ : ∀ (l : List UInt8),Lib.indexByte l 32 = -1 ∨ (0 ≤ Lib.indexByte l 32 ∧ Lib.indexByte l 32 < l.length)
 | [] => .inl rfl
 | b :: l => by
  have:=kJ l
  unfold Lib.indexByte
  split
  ·right; simp
  ·split
   ·exact .inl rfl
   ·rename_i h
    simp at h
    right; simp; omega
theorem oP : ∀ (l : List UInt8),Lib.indexByte l 32 = -1 → pieces l = [l]
 | [],_ => rfl
 | b :: l,h => by
  have hr:=kJ l;unfold Lib.indexByte at h
  split at h
  ·simp at h
  ·rename_i hb
   split at h
   ·rename_i hi
    have:=oP l (by simpa using hi)
    unfold pieces;rw [if_neg hb,this]
   ·rename_i hi
    simp at hi
    omega
theorem oV : ∀ (l : List UInt8) (k : Nat),Lib.indexByte l 32 = k → pieces l = l.take k :: pieces (l.drop (k + 1))
 | [],k,h => by simp [Lib.indexByte] at h
 | b :: l,k,h => by
  have hr:=kJ l;unfold Lib.indexByte at h
  split at h
  ·rename_i hb
   obtain rfl : k = 0:=ae;rw [pieces,if_pos hb]
   simp
  ·rename_i hb
   split at h
   ·omega
   ·rename_i hi
    simp at hi
    obtain ⟨m,rfl⟩ : ∃ m,k = m + 1:=⟨k - 1,ae⟩
    have:=oV l m ae
    rw [pieces,if_neg hb,this]
    simp
def cS (s : ByteArray) : List ByteArray:=(pieces s.data.toList).map fun l => ⟨l.toArray⟩
theorem MO (s : ByteArray) (k : Nat) : s.extract 0 k = ⟨(s.data.toList.take k).toArray⟩:=by
 apply zQ; simp [ByteArray.data_extract,Array.toList_extract]
theorem Ng (s : ByteArray) (k : Nat) : s.extract k s.size = ⟨(s.data.toList.drop k).toArray⟩:=by
 apply zQ
 simp [ByteArray.data_extract,Array.toList_extract]
 rw [List.take_of_length_le]
 have:=dP s
 simp only [List.length_drop]
 omega
theorem tQ (s : ByteArray) (h : Lib.indexByte s.data.toList 32 = -1) : cS s = [s]:=by
 simp [cS,oP _ h]
theorem wu (s : ByteArray) (k : Nat) (h : Lib.indexByte s.data.toList 32 = k) : cS s = s.extract 0 k :: cS (s.extract (k + 1) s.size):=by
 rw [MO,Ng]
 simp [cS,oV _ k h]
theorem pn : ∀ (l : List UInt8) (p : List UInt8),p ∈ pieces l → p.length ≤ l.length
 | [],p,h => by simp [pieces] at h; simp [h]
 | b :: l,p,h => by
  have ih:=pn l;unfold pieces at h
  split at h
  ·simp only [List.mem_cons] at h
   rcases h with rfl | h
   ·simp
   ·have:=ih p h; simp; omega
  ·split at h
   ·simp at h; simp [h]
   ·rename_i q r hq
    simp only [List.mem_cons] at h
    rcases h with rfl | h
    ·have:=ih q (by rw [hq]; simp); simp; omega
    ·have:=ih p (by rw [hq]; simp [h]); simp; omega
theorem vA (s p : ByteArray) (h : p ∈ cS s) : p.size ≤ s.size:=by
 unfold cS at h;obtain ⟨l,hl,rfl⟩:=List.mem_map.1 h
 have:=pn _ _ hl
 rw [dP,dP];exact bY
end Go.Proofs.YtepnnenohjfkbaaGreatDoor
namespace Go.Proofs
open Go.Shelf YtepnnenohjfkbaaGreatDoor
def Tryz.laysM171_ren : Go.Shelf.Ren:=⟨fun | 171 => 88 | 243 => 138 | 246 => 208 | 283 => 250 | 284 => 251 | 285 => 252 | 286 => 253 | 129 => 205 | 317 => 274 | 318 => 275 | 319 => 276 | 320 => 277 | 337 => 284 | 338 => 285 | n => n,fun | 3 => 3 | 9 => 9 | 2 => 2 | 4 => 4 | 171 => 282 | 0 => 0 | 53 => 139 | 37 => 64 | 5 => 5 | 173 => 284 | 212 => 308 | 51 => 247 | 20 => 20 | 213 => 309 | 46 => 190 | 232 => 313 | 233 => 314 | n => n,fun | 17 => 1 | 18 => 2 | 19 => 3 | n => n⟩
theorem Tryz.laysM171 : Go.Proofs.LaysM.n171 Tryz.prog Tryz.laysM171_ren:={
 mixed:=aw
 f129:=Tryz.func205.trans (congrArg some aw)
 f171:=Tryz.func88.trans (congrArg some aw)
 f243:=Tryz.func138.trans (congrArg some aw)
 f246:=Tryz.func208.trans (congrArg some aw)
 f283:=Tryz.func250.trans (congrArg some aw)
 f284:=Tryz.func251.trans (congrArg some aw)
 f285:=Tryz.func252.trans (congrArg some aw)
 f286:=Tryz.func253.trans (congrArg some aw)
 f317:=Tryz.func274.trans (congrArg some aw)
 f318:=Tryz.func275.trans (congrArg some aw)
 f319:=Tryz.func276.trans (congrArg some aw)
 f320:=Tryz.func277.trans (congrArg some aw)
 f337:=Tryz.func284.trans (congrArg some aw)
 f338:=Tryz.func285.trans (congrArg some aw)
 t0:=Tryz.underlying0
 a0:=Tryz.isAgg0
 z0:=Tryz.sizeOf0
 v0:=Tryz.zeroValue0
 t2:=Tryz.underlying2
 a2:=Tryz.isAgg2
 z2:=Tryz.sizeOf2
 v2:=Tryz.zeroValue2
 t3:=Tryz.underlying3
 a3:=Tryz.isAgg3
 z3:=Tryz.sizeOf3
 v3:=Tryz.zeroValue3
 t4:=Tryz.underlying4
 a4:=Tryz.isAgg4
 z4:=Tryz.sizeOf4
 v4:=Tryz.zeroValue4
 t5:=Tryz.underlying5
 a5:=Tryz.isAgg5
 z5:=Tryz.sizeOf5
 v5:=Tryz.zeroValue5
 t9:=Tryz.underlying9
 a9:=Tryz.isAgg9
 z9:=Tryz.sizeOf9
 v9:=Tryz.zeroValue9
 t20:=Tryz.underlying20
 a20:=Tryz.isAgg20
 z20:=Tryz.sizeOf20
 v20:=Tryz.zeroValue20
 t37:=Tryz.underlying64
 a37:=Tryz.isAgg64
 z37:=Tryz.sizeOf64
 v37:=Tryz.zeroValue64
 t46:=Tryz.underlying190
 a46:=Tryz.isAgg190
 z46:=Tryz.sizeOf190
 v46:=Tryz.zeroValue190
 t51:=Tryz.underlying247
 a51:=Tryz.isAgg247
 z51:=Tryz.sizeOf247
 v51:=Tryz.zeroValue247
 t53:=Tryz.underlying139
 a53:=Tryz.isAgg139
 z53:=Tryz.sizeOf139
 v53:=Tryz.zeroValue139
 t171:=Tryz.underlying282
 a171:=Tryz.isAgg282
 z171:=Tryz.sizeOf282
 v171:=Tryz.zeroValue282
 t173:=Tryz.underlying284
 a173:=Tryz.isAgg284
 z173:=Tryz.sizeOf284
 v173:=Tryz.zeroValue284
 t212:=Tryz.underlying308
 a212:=Tryz.isAgg308
 z212:=Tryz.sizeOf308
 v212:=Tryz.zeroValue308
 t213:=Tryz.underlying309
 a213:=Tryz.isAgg309
 z213:=Tryz.sizeOf309
 t232:=Tryz.underlying313
 a232:=Tryz.isAgg313
 z232:=Tryz.sizeOf313
 v232:=Tryz.zeroValue313
 t233:=Tryz.underlying314
 a233:=Tryz.isAgg314
 z233:=Tryz.sizeOf314
 v233:=Tryz.zeroValue314
 g17:=aw
 g18:=aw
 g19:=aw
 i0:=aw
 i2:=aw
 i3:=aw
 i4:=aw
 i5:=aw
 i9:=aw
 i20:=aw
 i37:=aw
 i46:=aw
 i51:=aw
 i53:=aw
 i171:=aw
 i173:=aw
 i212:=aw
 i232:=aw
 i233:=aw
 m17:=aw
 m18:=aw
 m19:=aw }
open Go.RowKit Go.Sort Go.Lib in
theorem Tryz.strconv_Itoa (n : Int) (h0 : -9223372036854775808 ≤ n) (h1 : n ≤ 9223372036854775807) (w : World) (htab : Lib.TabIs Tryz.prog w "internal/strconv.uint64pow10" .u64 Lib.pow10Tab) :
  Calls Tryz.prog 88 #[.int .i64 n] w fun e w' => e = .returned (.string ⟨(Lib.itoa n).toArray⟩) ∧ ∃ k os,w' = grow (w.drewN k) os:=Any.strconv_Itoa Tryz.laysM171 n h0 h1 w htab
def Tryz.lays143_ren : Go.Shelf.Ren:=⟨fun | 143 => 280 | 219 => 287 | 217 => 288 | 225 => 289 | 224 => 290 | 267 => 291 | 266 => 292 | 314 => 293 | n => n,fun | 9 => 9 | 3 => 3 | 4 => 4 | 5 => 5 | 46 => 190 | 146 => 320 | 51 => 247 | n => n,fun | 1 => 6 | n => n⟩
theorem Tryz.lays143 : Go.Proofs.Lays.n143 Tryz.prog Tryz.lays143_ren:={
 mixed:=aw
 f143:=Tryz.func280.trans (congrArg some aw)
 f217:=Tryz.func288.trans (congrArg some aw)
 f219:=Tryz.func287.trans (congrArg some aw)
 f224:=Tryz.func290.trans (congrArg some aw)
 f225:=Tryz.func289.trans (congrArg some aw)
 f266:=Tryz.func292.trans (congrArg some aw)
 f267:=Tryz.func291.trans (congrArg some aw)
 f314:=Tryz.func293.trans (congrArg some aw)
 t3:=Tryz.underlying3
 a3:=Tryz.isAgg3
 z3:=Tryz.sizeOf3
 v3:=Tryz.zeroValue3
 t4:=Tryz.underlying4
 a4:=Tryz.isAgg4
 z4:=Tryz.sizeOf4
 v4:=Tryz.zeroValue4
 t5:=Tryz.underlying5
 a5:=Tryz.isAgg5
 z5:=Tryz.sizeOf5
 v5:=Tryz.zeroValue5
 t9:=Tryz.underlying9
 a9:=Tryz.isAgg9
 z9:=Tryz.sizeOf9
 v9:=Tryz.zeroValue9
 t46:=Tryz.underlying190
 a46:=Tryz.isAgg190
 z46:=Tryz.sizeOf190
 v46:=Tryz.zeroValue190
 t51:=Tryz.underlying247
 a51:=Tryz.isAgg247
 z51:=Tryz.sizeOf247
 v51:=Tryz.zeroValue247
 t146:=Tryz.underlying320
 a146:=Tryz.isAgg320
 z146:=Tryz.sizeOf320
 v146:=Tryz.zeroValue320
 g1:=aw }
open Go.RowKit Go.Lib in
theorem Tryz.strings_Index_one (s : ByteArray) (c : UInt8) (w : World) :
  Calls Tryz.prog 280 #[.string s,.string ⟨#[c]⟩] w fun e w' => e = .returned (.int .i64 (Lib.indexByte s.data.toList c)) ∧ w' = w:=Any.strings_Index_one Tryz.lays143 s c w
end Go.Proofs
namespace Go.Proofs.YtepnnenohjfkbaaGreatDoor
open Go.Shelf Go.RowKit Go.Lib
theorem MR (s : ByteArray) (w : World) :
  Calls Tryz.prog 280 #[.string s,.string ⟨#[32]⟩] w fun e w' => e = .returned (.int .i64 (Lib.indexByte s.data.toList 32)) ∧ w' = w:=Tryz.strings_Index_one s 32 w
open Go.RowKit Go.Shelf
def uT (W : World) (c : Addr) : ByteArray:=match W.cell? c with
 | some (.string s) => s
 | _ => ByteArray.empty
theorem IE (n l b1 b2 b3 : Nat) (h12 : b1 ≠ b2) (h32 : b3 ≠ b2) (s : ByteArray) (J : List ByteArray → World → Prop) (Jx : World → Prop)
  (hJ : ∀ r A v,J r A → J r (A.setCell ⟨b2,0,none⟩ v))
  (hY : ∀ x r A,J (x :: r) A → YieldAt Fence.wide (n - 1) Tryz.prog l #[.string x] A fun e B => (e = .returned (.bool true) ∧ J r B ∧ fP [⟨b1,0,none⟩,⟨b2,0,none⟩,⟨b3,0,none⟩] A B) ∨ (e = .returned (.bool false) ∧ Jx B))
  (W : World) (c1 : W.cell? ⟨b1,0,none⟩ = some (.string ⟨#[32]⟩)) (c2 : W.cell? ⟨b2,0,none⟩ = some (.string s)) (f2 : W.frozen? ⟨b2,0,none⟩ = false) (c3 : W.cell? ⟨b3,0,none⟩ = some (.int .i64 0)) (h0 : J (cS s) W) (hsz : s.size ≤ 1099511627776) :
  CallsIn Fence.wide n Tryz.prog 278 #[.func (.yield l) #[] #[],.pointer (some ⟨b1,0,none⟩),.pointer (some ⟨b2,0,none⟩),.pointer (some ⟨b3,0,none⟩)] W fun e B => (∃ v,e = .returned v) ∧ (J [] B ∨ Jx B):=by
 refine callsIn_of_wp Tryz.func278 rfl trivial ?_ rfl
 simp only [Tryz.ntmps278,List.size_toArray,List.length_cons,List.length_nil,Nat.reduceAdd,Nat.reduceSub,Array.replicate_succ,Array.replicate_zero,List.push_toArray,List.append_toArray,List.nil_append,List.cons_append]
 gi_wp2
 gi_loopw [] (fun wr => ∃ s : ByteArray,wr.cell? ⟨b1,0,none⟩ = some (.string ⟨#[32]⟩) ∧ wr.cell? ⟨b2,0,none⟩ = some (.string s) ∧ wr.frozen? ⟨b2,0,none⟩ = false ∧ wr.cell? ⟨b3,0,none⟩ = some (.int .i64 0) ∧ J (cS s) wr ∧ s.size ≤ 1099511627776)
  (fun wr => (uT wr ⟨b2,0,none⟩).size)
 case atStart => exact ⟨s,c1,c2,f2,c3,h0,hsz⟩
 case round =>
  clear c1 c2 f2 c3 h0 hsz;obtain ⟨s,c1,c2,f2,c3,hj,hsz⟩:=hrel;have hI:=callsIn_wide (n:=n - 1).2 (MR s wr)
  rcases kJ s.data.toList with hneg | ⟨hge,hlt⟩
  ·rw [hneg] at hI;rw [tQ s hneg] at hj;obtain ⟨fn,tmps,assign,body,hy,hR⟩:=hY s [] wr hj
   gi_wp2_with fail
   refine ⟨trivial,(fun h => nomatch h),?_⟩
   refine hI.mono ?_;rintro e w' ⟨rfl,rfl⟩
   gi_wp2_with fail
   refine ⟨(fun h => nomatch h),?_⟩
   refine hR.mono ?_
   rintro e W3 (⟨rfl,hJ3,hk3⟩ | ⟨rfl,hJx3⟩)
   ·gi_wp2_with fail
    go_end0;exact ⟨⟨_,rfl⟩,.inl hJ3⟩
   ·gi_wp2_with fail
    go_end0;exact ⟨⟨_,rfl⟩,.inr hJx3⟩
  ·obtain ⟨k,hk⟩ : ∃ k : Nat,Lib.indexByte s.data.toList 32 = k:=⟨(Lib.indexByte s.data.toList 32).toNat,ae⟩;rw [hk] at hI hlt;rw [← dP] at hlt;rw [wu s k hk] at hj;obtain ⟨fn,tmps,assign,body,hy,hR⟩:=hY _ _ wr hj;have k0 : (0 : Int) ≤ k:=ae;have k1 : (k : Int) < s.size:=ae;have k2 : (s.size : Int) ≤ 1099511627776:=ae;have k3 : wrap64 (k : Int) = k:=dS;have k4 : wrap64 ((k : Int) + 1) = k + 1:=dS
   gi_wp2_with fail
   refine ⟨trivial,(fun h => nomatch h),?_⟩
   refine hI.mono ?_;rintro e w' ⟨rfl,rfl⟩
   gi_wp2_with fail
   refine ⟨(fun h => nomatch h),?_⟩
   refine hR.mono ?_
   rintro e W3 (⟨rfl,hJ3,hk3⟩ | ⟨rfl,hJx3⟩)
   ·obtain ⟨d1,_⟩:=hk3 _ ak _ c1;obtain ⟨d2,e2⟩:=hk3 _ ak _ c2;obtain ⟨d3,_⟩:=hk3 _ ak _ c3;rw [f2] at e2;have k5 : (k : Int) + 1 ≤ s.size:=ae
    gi_wp2_with fail
    go_roundw
    case rel =>
     refine ⟨s.extract (k + 1) s.size,?_,?_,?_,?_,hJ _ _ _ hJ3,?_⟩
     ·rw [World.cell?_setCell_other _ _ _ _ ak]; exact d1
     ·exact World.cell?_setCell_same' _ _ _ (by rw [d2]; rfl)
     ·rw [World.frozen?_setCell]; exact e2
     ·rw [World.cell?_setCell_other _ _ _ _ ak]; exact d3
     ·simp; omega
    case measure =>
     rw [show uT w' ⟨b2,0,none⟩ = s by simp [uT,c2]]
     rw [uT,World.cell?_setCell_same' _ _ _ (by rw [d2]; rfl)]
     simp
     omega
   ·gi_wp2_with fail
    refine bodyPost_ret (results_none rfl _ _ _) rfl ?_;exact ⟨⟨_,rfl⟩,.inr hJx3⟩
theorem Nb (n b1 b2 b3 : Nat) (h12 : b1 ≠ b2) (h32 : b3 ≠ b2) (s : ByteArray) (W : World) (c1 : W.cell? ⟨b1,0,none⟩ = some (.string ⟨#[32]⟩)) (c2 : W.cell? ⟨b2,0,none⟩ = some (.string s)) (f2 : W.frozen? ⟨b2,0,none⟩ = false) (c3 : W.cell? ⟨b3,0,none⟩ = some (.int .i64 0)) (hsz : s.size ≤ 1099511627776) :
  N1 Fence.wide n Tryz.prog 278 #[.pointer (some ⟨b1,0,none⟩),.pointer (some ⟨b2,0,none⟩),.pointer (some ⟨b3,0,none⟩)] (fun x : ByteArray => #[.string x]) ⟨b2,0,none⟩ [⟨b1,0,none⟩,⟨b2,0,none⟩,⟨b3,0,none⟩] (cS s) W:=fun l J Jx W1 hk hJ hY h0 => by
 obtain ⟨d1,_⟩:=hk _ ak _ c1;obtain ⟨d2,e2⟩:=hk _ ak _ c2;obtain ⟨d3,_⟩:=hk _ ak _ c3;exact IE n l b1 b2 b3 h12 h32 s J Jx hJ hY W1 d1 d2 (e2.trans f2) d3 h0 hsz
theorem zF (s : ByteArray) (w : World) :
  Calls Tryz.prog 212 #[.string s,.string ⟨#[32]⟩] w fun e w' => e = .returned (.func (.func 278) #[] #[.pointer (some ⟨w.heap.size + 1,0,none⟩),.pointer (some ⟨w.heap.size,0,none⟩),.pointer (some ⟨w.heap.size + 2,0,none⟩)]) ∧
   w' = ((w.alloc (im s)).alloc (im ⟨#[32]⟩)).alloc (aM 0):=by
 go_enter Tryz.func212,Tryz.ntmps212
 exact nj
def Holds (cs : List (Addr × Value)) (W : World) : Prop:=∀ p ∈ cs,W.cell? p.1 = some p.2 ∧ W.frozen? p.1 = false
theorem Holds.grown {cs : List (Addr × Value)} {A B : World} {row : Option Nat} (h : Holds cs A) (hg : A.grownBy B row) (hr : ∀ r,row = some r → ∃ o : Obj,A.heap[r]? = some o ∧ o.isCells = false) : Holds cs B :=
 fun p hp => ⟨cell_kept (h p hp).1 hg hr,(frozen_kept (h p hp).1 hg hr).trans (h p hp).2⟩
theorem Holds.turned {cs : List (Addr × Value)} {W : World} (h : Holds cs W) {l : Nat} {o : Obj} (o' : Obj) (hl : W.heap[l]? = some o) (ho : o.isCells = false) : Holds cs (W.putObj l o') :=
 h.grown (grownBy_putObj' W l o') (fun r e => by cases e; exact ⟨o,hl,ho⟩)
theorem Holds.other {cs : List (Addr × Value)} {W : World} (h : Holds cs W) (c : Addr) (v : Value) (hc : ∀ p ∈ cs,c ≠ p.1) : Holds cs (W.setCell c v) :=
 fun p hp => ⟨(World.cell?_setCell_other _ _ _ _ (hc p hp)).trans (h p hp).1,(World.frozen?_setCell _ _ _ _).trans (h p hp).2⟩
theorem Holds.cons {p : Addr × Value} {cs : List (Addr × Value)} {W : World} (h1 : W.cell? p.1 = some p.2) (h2 : W.frozen? p.1 = false) (h : Holds cs W) : Holds (p :: cs) W :=
 fun q hq => by
  rcases List.mem_cons.1 hq with rfl | hq
  ·exact ⟨h1,h2⟩
  ·exact h q hq
theorem Holds.set {c : Addr} {u v : Value} {cs : List (Addr × Value)} {W : World} (h : Holds ((c,u) :: cs) W) (hc : ∀ p ∈ cs,c ≠ p.1) : Holds ((c,v) :: cs) (W.setCell c v):=by
 have h1:=h (c,u) ak
 refine Holds.cons (World.cell?_setCell_same' _ _ _ (by rw [h1.1]; rfl)) ((World.frozen?_setCell _ _ _ _).trans h1.2) (Holds.other (fun p hp => h p (by simp [hp])) _ _ hc)
theorem fP.other {ps : List Addr} (W : World) (c : Addr) (v : Value) (hc : ∀ p ∈ ps,c ≠ p) : fP ps W (W.setCell c v) :=
 fun p hp u hu => ⟨(World.cell?_setCell_other _ _ _ _ (hc p hp)).trans hu,World.frozen?_setCell _ _ _ _⟩
theorem pj {fn : Func} {p : Tmp} {ty : TypeId} (h : fn.results = #[.cell p ty]) (tmps : Array Value) (P : Program) (w : World) :
  (results fn tmps).run P w = ((asAddr (tmps.getD p undef)).run P w).andThen fun a w₁ => (loadVar ty a).run P w₁:=by
 simp only [results,h]
 simp [Sem.run_bind,Result.andThen]
def ly (f op : Int) (a : ByteArray) : List ByteArray → ByteArray
 | [] => ⟨#[]⟩
 | p :: r => if f = op then a ++ p else ly (f + 1) op a r
theorem OD (f l op : Int) (a ws : ByteArray) (w : World) (h0 : 0 ≤ f) (hb : f + (cS ws).length ≤ 255) (hsz : ws.size ≤ 1099511627776) (ha : a.size ≤ 1099511627776) :
  Calls Tryz.prog 142 #[.agg #[.int .u8 f,.int .u8 l,.string a,.string ws],.int .u8 op] w fun e w' => e = .returned (.string (ly f op a (cS ws))) ∧ Below w.heap.size w w':=by
 obtain ⟨xs,hxs⟩ : ∃ xs,cS ws = xs:=⟨_,rfl⟩;have hlen:=vA ws;rw [hxs] at hb hlen ⊢;obtain ⟨V,hV⟩ : ∃ V,ly f op a xs = V:=⟨_,rfl⟩;rw [hV];refine (callsIn_wide (n:=5)).1 ?_;refine callsIn_of_wp_marks Tryz.func142 rfl trivial ?_ rfl
 simp only [Tryz.ntmps142,List.size_toArray,List.length_cons,List.length_nil,Nat.reduceAdd,Nat.reduceSub,Array.replicate_succ,Array.replicate_zero,List.push_toArray,List.append_toArray,List.nil_append,List.cons_append]
 gi_wp2_with fail
 refine ⟨trivial,?_⟩;refine (callsIn_wide.2 (zF ws _)).mono ?_;rintro e w' ⟨rfl,rfl⟩
 gi_wp2_with fail
 simp only [Nat.add_assoc,Nat.reduceAdd]
 obtain ⟨W0,hW0⟩ : ∃ W0,(((((((w.alloc (.cells #[.int .u8 f,.int .u8 l,.string a,.string ws] 195)).alloc (dN op)).alloc (im ⟨#[]⟩)).alloc (dN f)).alloc (im ws)).alloc (im ⟨#[32]⟩)).alloc (aM 0)) = W0:=⟨_,rfl⟩;rw [hW0]
 have B0 : Below w.heap.size w W0:=by rw [← hW0]; exact (((((((Below.refl _ w).alloc ak _).alloc cH _).alloc cH _).alloc cH _).alloc cH _).alloc cH _).alloc cH _
 have z0 : W0.heap.size = w.heap.size + 7:=fU;have k2 : W0.cell? ⟨w.heap.size,2,none⟩ = some (.string a):=fU;have o1 : W0.cell? ⟨w.heap.size + 1,0,none⟩ = some (.int .u8 op):=fU;have r0 : W0.cell? ⟨w.heap.size + 2,0,none⟩ = some (.string ⟨#[]⟩):=fU;have rf : W0.frozen? ⟨w.heap.size + 2,0,none⟩ = false:=fU;have a0 : W0.cell? ⟨w.heap.size + 3,0,none⟩ = some (.int .u8 f):=fU;have af : W0.frozen? ⟨w.heap.size + 3,0,none⟩ = false:=fU;have c2 : W0.cell? ⟨w.heap.size + 4,0,none⟩ = some (.string ws):=fU;have f2 : W0.frozen? ⟨w.heap.size + 4,0,none⟩ = false:=fU;have c1 : W0.cell? ⟨w.heap.size + 5,0,none⟩ = some (.string ⟨#[32]⟩):=fU;have c3 : W0.cell? ⟨w.heap.size + 6,0,none⟩ = some (.int .i64 0):=fU;have kf : W0.frozen? ⟨w.heap.size,2,none⟩ = false:=fU;have of : W0.frozen? ⟨w.heap.size + 1,0,none⟩ = false:=fU;clear hW0;have HF:=Nb 4 (w.heap.size + 5) (w.heap.size + 4) (w.heap.size + 6) ae ae ws W0 c1 c2 f2 c3 hsz;rw [hxs] at HF
 refine xQ rfl aH (gf:=278) (lb:=#[.pointer (some ⟨w.heap.size + 5,0,none⟩),.pointer (some ⟨w.heap.size + 4,0,none⟩),.pointer (some ⟨w.heap.size + 6,0,none⟩)]) rfl trivial (enters_of Tryz.func278 aw rfl) (encs:=fun x : ByteArray => #[.string x]) (fun _ => rfl)
  HF
  (fun r W => Holds [(⟨w.heap.size + 3,0,none⟩,.int .u8 (f + xs.length - r.length)),(⟨w.heap.size,2,none⟩,.string a),(⟨w.heap.size + 1,0,none⟩,.int .u8 op),(⟨w.heap.size + 2,0,none⟩,.string ⟨#[]⟩)] W ∧ Below w.heap.size w W ∧ r.length ≤ xs.length ∧ (∀ p ∈ r,p.size ≤ ws.size) ∧ ly (f + xs.length - r.length) op a r = V)
  (fun j W => j = .ret ∧ Holds [(⟨w.heap.size + 2,0,none⟩,.string V)] W ∧ Below w.heap.size w W)
  ?own ?ownx ?cells ?start
  (fun x => { tmps:=#[.agg #[.int .u8 f,.int .u8 l,.string a,.string ws],.int .u8 op,.pointer (some ⟨w.heap.size,0,none⟩),.pointer (some ⟨w.heap.size + 1,0,none⟩),.pointer (some ⟨w.heap.size + 2,0,none⟩),.pointer (some ⟨w.heap.size + 3,0,none⟩),.string x,.pointer (some ⟨w.heap.size,0,none⟩),.int .u8 f,.pointer (some ⟨w.heap.size,3,none⟩),.string ws,
   .func (.func 278) #[] #[.pointer (some ⟨w.heap.size + 5,0,none⟩),.pointer (some ⟨w.heap.size + 4,0,none⟩),.pointer (some ⟨w.heap.size + 6,0,none⟩)],.string x,undef,undef,undef,undef,undef,undef,undef,undef,undef],defers:=[] }) ?assign ?body ?done ?stop
 case own =>
  exact fun r A B row hs hg hr => ⟨hs.1.grown hg (fun q e => (hr q e).2),ownFrom_below (β:=Unit) (Nat.le_refl _) ae () A B row hs.2.1 hg hr,hs.2.2⟩
 case ownx =>
  exact fun j A B row hs hg hr => ⟨hs.1,hs.2.1.grown hg (fun q e => (hr q e).2),ownFrom_below (β:=Unit) (Nat.le_refl _) ae () A B row hs.2.2 hg hr⟩
 case cells =>
  exact fun r A v hs => ⟨hs.1.other _ _ ak,hs.2.1.setCell (p:=⟨w.heap.size + 4,0,none⟩) ak _,hs.2.2⟩
 case start =>
  refine ⟨?_,B0,Nat.le_refl _,hlen,by rw [← hV]; congr 1; omega⟩
  refine Holds.cons (by simp only [a0]; congr 2; omega) af (Holds.cons k2 kf (Holds.cons o1 of (Holds.cons r0 rf (by simp [Holds]))))
 case assign =>
  intro l x W K hK;have hsem:=@Oper.semAt_some
  gi_wp2
  exact hK
 case body =>
  rintro m x r W ⟨hc,hB,hr,hp,hv⟩;have hsem:=@Oper.semAt_some;have d1:=hc _ (List.mem_cons_self ..);have d2:=hc _ (List.mem_cons_of_mem _ (List.mem_cons_self ..));have d3:=hc _ (List.mem_cons_of_mem _ (List.mem_cons_of_mem _ (List.mem_cons_self ..)));have d4:=hc _ (List.mem_cons_of_mem _ (List.mem_cons_of_mem _ (List.mem_cons_of_mem _ (List.mem_cons_self ..))));obtain ⟨q,hq⟩ : ∃ q : Int,f + xs.length - (x :: r).length = q:=⟨_,rfl⟩;rw [hq] at hc d1 hv
  have q0 : 0 ≤ q:=by simp at hq hr; omega
  have q1 : q + 1 ≤ 255:=by simp at hq hr; omega
  have q2 : f + xs.length - r.length = q + 1:=by simp at hq; omega
  have hx : x.size ≤ ws.size:=hp x ak;have hax : ¬ (a.size + x.size > 9223372036854775807):=ae
  by_cases he : q = op
  ·subst he
   gi_wp2_with fail
   refine ⟨(KeepsOthers.setCell _ _ _).from _,rfl,?_,hB.setCell (p:=⟨w.heap.size + 2,0,none⟩) ak _⟩;rw [ly,if_pos rfl] at hv;rw [← hv]
   exact Holds.set (Holds.cons d4.1 d4.2 (by simp [Holds])) ak
  ·gi_wp2_with fail
   rw [ly,if_neg he] at hv
   refine ⟨(KeepsOthers.setCell _ _ _).from _,?_,?_,hB.setCell (p:=⟨w.heap.size + 3,0,none⟩) ak _,by simp at hr; omega,fun p h => hp p (by simp [h]),hv⟩
   ·exact fP.other _ _ _ ak
   ·exact Holds.set hc ak
 case done =>
  rintro D W hD ⟨hc,hB,_,_,hv⟩ hK;have d4:=hc _ (List.mem_cons_of_mem _ (List.mem_cons_of_mem _ (List.mem_cons_of_mem _ (List.mem_cons_self ..))));have d5:=d4.1;have d6:=d4.2
  gi_wp2_with fail
  have hK2:=(KeepsOthers.setCell W ⟨w.heap.size + 2,0,none⟩ (.string ⟨#[]⟩)).same _ _ hK rfl;refine ⟨ak,.inl ⟨_,_,rfl,run_takeDeferred hK2,?_⟩⟩
  have hH:=(Holds.set (v:=.string ⟨#[]⟩) (Holds.cons (cs:=[]) d4.1 d4.2 (by simp [Holds])) ak).turned (.deferred none) hK2 rfl
  have e1:=(hH _ (List.mem_cons_self ..)).1;have hBB:=(hB.setCell (p:=⟨w.heap.size + 2,0,none⟩) ak (.string ⟨#[]⟩)).trans (belowK_b (w:=w) (Nat.le_refl _) _ D _ (.deferred none) ae hK2 rfl rfl);generalize World.putObj _ D (.deferred none) = W5 at e1 hBB ⊢;refine ⟨.string V,?_,rfl,hBB⟩;rw [pj rfl];rw [← hv,ly];go_simp
 case stop =>
  rintro D j W hD ⟨rfl,hc,hB⟩ hK
  gi_wp2_with fail
  refine ⟨ak,.inl ⟨_,_,rfl,run_takeDeferred hK,?_⟩⟩;have e1:=((hc.turned (.deferred none) hK rfl) _ (List.mem_cons_self ..)).1;have hBB:=hB.trans (belowK_b (w:=w) (Nat.le_refl _) _ D _ (.deferred none) ae hK rfl rfl);generalize World.putObj _ D (.deferred none) = W5 at e1 hBB ⊢;refine ⟨.string V,?_,rfl,hBB⟩;rw [pj rfl];go_simp
open Go.RowKit
def kW0 : ByteArray:=⟨#[116,114,97,112,32,110,111,112,32,98,108,111,99,107,32,108,111,111,112,32,105,102,32,101,108,115,101,32,101,110,100,32,98,114,32,98,114,105,102,32,98,114,116,97,98,108,101,32,114,101,116,117,114,110,32,99,97,108,108,32,104,111,115,116]⟩
def kW1 : ByteArray:=⟨#[100,114,111,112,32,115,101,108,101,99,116,32,103,101,116,32,115,101,116,32,116,101,101,32,103,103,101,116,32,103,115,101,116]⟩
def kW2 : ByteArray:=⟨#[119,46,99,111,110,115,116,32,108,46,99,111,110,115,116]⟩
def kW3 : ByteArray:=⟨#[119,46,108,111,97,100,56,117,32,119,46,108,111,97,100,56,115,32,119,46,108,111,97,100,49,54,117,32,119,46,108,111,97,100,49,54,115,32,119,46,108,111,97,100,32,108,46,108,111,97,100,32,119,46,115,116,111,114,101,56,32,119,46,115,116,111,114,101,49,54,32,119,46,115,116,111,114,101,32,108,46,115,116,111,114,101,32,115,105,122,101,32,103,114,111,119]⟩
def kW4 : ByteArray:=⟨#[101,113,122,32,101,113,32,110,101,32,108,116,115,32,108,116,117,32,108,101,115,32,108,101,117,32,99,108,122,32,99,116,122,32,112,111,112,32,97,100,100,32,115,117,98,32,109,117,108,32,100,105,118,115,32,100,105,118,117,32,114,101,109,115,32,114,101,109,117,32,97,110,100,32,111,114,32,120,111,114,32,115,104,108,32,115,104,114,115,32,115,104,114,117,32,114,111,116,108,32,114,111,116,114]⟩
def kW5 : ByteArray:=⟨#[101,113,122,32,101,113,32,110,101,32,108,116,115,32,108,116,117,32,108,101,115,32,108,101,117,32,99,108,122,32,99,116,122,32,112,111,112,32,97,100,100,32,115,117,98,32,109,117,108,32,100,105,118,115,32,100,105,118,117,32,114,101,109,115,32,114,101,109,117,32,97,110,100,32,111,114,32,120,111,114,32,115,104,108,32,115,104,114,115,32,115,104,114,117,32,114,111,116,108,32,114,111,116,114]⟩
def kW6 : ByteArray:=⟨#[119,46,119,114,97,112,32,108,46,101,120,116,101,110,100,115,32,108,46,101,120,116,101,110,100,117,32,119,46,101,120,116,56,32,119,46,101,120,116,49,54,32,108,46,101,120,116,51,50]⟩
def kF : Nat → Int
 | 0 => 0
 | 1 => 16
 | 2 => 24
 | 3 => 32
 | 4 => 48
 | 5 => 80
 | _ => 112
def kL : Nat → Int
 | 0 => 12
 | 1 => 22
 | 2 => 25
 | 3 => 43
 | 4 => 72
 | 5 => 104
 | _ => 117
def kA : Nat → ByteArray
 | 0 => ⟨#[]⟩
 | 1 => ⟨#[]⟩
 | 2 => ⟨#[]⟩
 | 3 => ⟨#[]⟩
 | 4 => ⟨#[119,46]⟩
 | 5 => ⟨#[108,46]⟩
 | _ => ⟨#[]⟩
def kW : Nat → ByteArray
 | 0 => kW0
 | 1 => kW1
 | 2 => kW2
 | 3 => kW3
 | 4 => kW4
 | 5 => kW5
 | _ => kW6
def od : List Value:=[.int .u8 0,.int .u8 12,.string ⟨#[]⟩,.string kW0,.int .u8 16,.int .u8 22,.string ⟨#[]⟩,.string kW1,.int .u8 24,.int .u8 25,.string ⟨#[]⟩,.string kW2,.int .u8 32,.int .u8 43,.string ⟨#[]⟩,.string kW3,.int .u8 48,.int .u8 72,.string ⟨#[119,46]⟩,.string kW4,.int .u8 80,.int .u8 104,.string ⟨#[108,46]⟩,.string kW5,.int .u8 112,.int .u8 117,.string ⟨#[]⟩,.string kW6]
def qz : Value:=.agg od.toArray
def aW (w : World) : Prop:=∀ j v,od[j]? = some v → w.cell? ⟨0,j,none⟩ = some v
theorem aW.pos {w : World} (h : aW w) : 0 < w.heap.size:=World.block_lt_of_cell? w ⟨0,0,none⟩ (h 0 _ rfl)
theorem aW.later {n : Nat} {w w' : World} (h : aW w) (hb : Below n w w') (hn : 0 < n) : aW w' :=
 fun j v hj => (hb.cell (p:=⟨0,j,none⟩) hn).trans (h j v hj)
theorem EA {w : World} (h : aW w) : (loadVar 196 ⟨0,0,none⟩).run Tryz.prog w = .ok qz w:=by
 have hl : (loadCells ⟨0,0,none⟩ 28).run Tryz.prog w = .ok od.toArray w:=run_loadCells_list (P:=Tryz.prog) w ⟨0,0,none⟩ od (fun j v hj => by
  have e : (⟨0,0,none⟩ : Addr).add j = ⟨0,j,none⟩:=fZ;rw [e];exact h j v hj)
 unfold loadVar
 simp only [Sem.run_bind,Tryz.isAgg196,Result.andThen,if_true,Tryz.sizeOf196,hl,Sem.run_pure]
 rfl
theorem Ah {w : World} (h : aW w) (a : Act) (d : Option Tmp) (p : String) (af : Array Edge) (g : Option (Nat × Bool)) :
  (execOp a.eval { dst:=d,op:=Op.load 196 (Operand.global 0),type:=196,pos:=p,after:=af,guard:=g }).run Tryz.prog w = .ok (.value qz) w:=by
 show (do pure (Next.value (← Instr.loadAt 196 (.pointer (some ⟨0,0,none⟩)))) : Sem Next).run Tryz.prog w = _
 have e : (Instr.sureAddr (.pointer (some ⟨0,0,none⟩))).run Tryz.prog w = .ok ⟨0,0,none⟩ w:=rfl;unfold Instr.loadAt
 simp only [Sem.run_bind,e,Sem.run_pure,Result.andThen,EA h]
set_option maxRecDepth 20000 in
theorem LK {w : World} (i : Nat) (hi : i < 7) : (Instr.index 196 qz (.int .i64 i)).run Tryz.prog w = .ok (.agg #[.int .u8 (kF i),.int .u8 (kL i),.string (kA i),.string (kW i)]) w:=by
 have h : i = 0 ∨ i = 1 ∨ i = 2 ∨ i = 3 ∨ i = 4 ∨ i = 5 ∨ i = 6:=ae
 rcases h with rfl | rfl | rfl | rfl | rfl | rfl | rfl <;> simp [Instr.index,go_sem,qz,od,kF,kL,kA,kW]
theorem AW (i : Nat) (hi : i < 7) : 0 ≤ kF i ∧ kF i ≤ kL i ∧ kL i ≤ 117 ∧ kF i + (cS (kW i)).length ≤ 255 ∧ (kW i).size ≤ 1099511627776 ∧ (kA i).size ≤ 1099511627776:=by
 have h : i = 0 ∨ i = 1 ∨ i = 2 ∨ i = 3 ∨ i = 4 ∨ i = 5 ∨ i = 6:=ae
 rcases h with rfl | rfl | rfl | rfl | rfl | rfl | rfl <;> decide +kernel
end Go.Proofs.YtepnnenohjfkbaaGreatDoor

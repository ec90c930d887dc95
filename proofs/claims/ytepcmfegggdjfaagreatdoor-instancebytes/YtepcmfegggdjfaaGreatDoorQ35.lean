/-
  Texts Vy Pure.
-/
import Derived.WalkKit
import Derived.Test.YtepcmfegggdjfaaGreatDoorQ34
set_option linter.unusedVariables false
set_option maxRecDepth 100000
set_option maxHeartbeats 16000000
namespace Go.Proofs.YtepcmfegggdjfaaGreatDoor
open Go.RowKit
section
variable {w : World}
theorem caught72_nil : Calls Tryz.prog 62 #[.nilIface] w fun e w' => e = .returned (.int .i64 0) ∧ Below w.heap.size w w':=by
 go_enter Tryz.func62,Tryz.ntmps62
 go_wp2_with fail
 go_ret
 exact ⟨rfl,Below.refl _ _⟩
theorem caught72 (x : Int) : Calls Tryz.prog 62 #[.iface 38 (.int .i64 x)] w fun e w' => e = .returned (.int .i64 x) ∧ Below w.heap.size w w':=by
 have hta : ∀ (v : Value) (w : World),(Instr.typeAssert (.iface 38 v) 20 38 true).run Tryz.prog w = .ok (.tuple #[v,.bool true]) w:=fun _ _ => rfl
 go_enter Tryz.func62,Tryz.ntmps62
 go_wp2_with fail
 go_ret
 exact ⟨rfl,Below.refl _ _⟩
abbrev zT : Array Value:=#[.slice none 0 0,.slice none 0 0,.slice none 0 0,.slice none 0 0,.int .i64 0]
theorem catch71 (x : Int) (hx : x ≠ 0) {CB TB EB PB C : Nat} {t0 t1 t2 t3 t4 : Value} {ev pv : Value} {pc : Int} (hC : w.cell? ⟨CB,0,none⟩ = some (.pointer (some ⟨C,0,none⟩))) (hp : w.cell? ⟨C,16,none⟩ = some (.int .i64 pc))
  (hT : w.heap[TB]? = some (.cells #[t0,t1,t2,t3,t4] 74)) (hE : w.heap[EB]? = some (.cells #[ev] 38)) (hP : w.heap[PB]? = some (.cells #[pv] 3)) (n1 : TB ≠ EB) (n2 : TB ≠ PB) (n3 : EB ≠ PB) (m1 : CB ≠ TB) (m2 : CB ≠ EB) (m3 : CB ≠ PB) (k1 : C ≠ TB) (k2 : C ≠ EB) (k3 : C ≠ PB) :
  CallsD Tryz.prog 61 #[.pointer (some ⟨CB,0,none⟩),.pointer (some ⟨TB,0,none⟩),.pointer (some ⟨EB,0,none⟩),.pointer (some ⟨PB,0,none⟩)] (.panicking ({ v:=.iface 38 (.int .i64 x),recovered:=false } :: [])) w fun e u' w' =>
   e = .returned (.tuple #[]) ∧ u' = .panicking ({ v:=.iface 38 (.int .i64 x),recovered:=true } :: []) ∧ w'.heap[TB]? = some (.cells zT 74) ∧ w'.cell? ⟨EB,0,none⟩ = some (.int .i64 x) ∧ w'.cell? ⟨PB,0,none⟩ = some (.int .i64 pc) ∧ Kept (fun k => k = TB ∨ k = EB ∨ k = PB) w w':=by
 have HC:=hid (caught72 (w:=w) x)
 refine callsD_of_wpS Tryz.func61 rfl fun c₀ cs hu => ?_
 apply wpS_seq
 apply wpS_region
 simp [wpOpsS,go_sem,recoverD,hu,Tryz.ntmps61,Exit.thenS]
 refine HC.out.mono ?_
 rintro e w1 ⟨rfl,hb1⟩
 have hx' : (x == 0) = false:=by simpa using hx
 simp [go_sem,Array.replicate]
 refine wpS_of_wp ?_
 have q0:=later_cell hb1 hC
 have q1:=later_cell hb1 hp
 have bT:=blk_later hb1 hT
 have bE:=blk_later hb1 hE
 have bP:=blk_later hb1 hP
 have a0 : w1.cell? ⟨TB,0,none⟩ = some t0:=cell_at bT
 have a1 : w1.cell? ⟨TB,1,none⟩ = some t1:=cell_at bT
 have a2 : w1.cell? ⟨TB,2,none⟩ = some t2:=cell_at bT
 have a3 : w1.cell? ⟨TB,3,none⟩ = some t3:=cell_at bT
 have a4 : w1.cell? ⟨TB,4,none⟩ = some t4:=cell_at bT
 have f0 : w1.frozen? ⟨TB,0,none⟩ = false:=free_at bT
 have f1 : w1.frozen? ⟨TB,1,none⟩ = false:=free_at bT
 have f2 : w1.frozen? ⟨TB,2,none⟩ = false:=free_at bT
 have f3 : w1.frozen? ⟨TB,3,none⟩ = false:=free_at bT
 have f4 : w1.frozen? ⟨TB,4,none⟩ = false:=free_at bT
 have e0 : w1.cell? ⟨EB,0,none⟩ = some ev:=cell_at bE
 have fe : w1.frozen? ⟨EB,0,none⟩ = false:=free_at bE
 have p0 : w1.cell? ⟨PB,0,none⟩ = some pv:=cell_at bP
 have fp : w1.frozen? ⟨PB,0,none⟩ = false:=free_at bP
 have HB1:=hid hb1
 have HQ:=hid (And.intro bT (And.intro bE bP))
 clear hC hp hT hE hP HC hb1 bT bE bP
 go_wp2_with fail
 obtain ⟨bT,bE,bP⟩:=HQ.out
 have s4:=setBlk (i:=4) (u:=.int .i64 0) (setBlk (i:=3) (u:=.slice none 0 0) (setBlk (i:=2) (u:=.slice none 0 0) (setBlk (i:=1) (u:=.slice none 0 0) (setBlk (i:=0) (u:=.slice none 0 0) bT))))
 have K1:=(((((kept_set w1 TB 0 (.slice none 0 0)).trans (kept_set _ TB 1 (.slice none 0 0))).trans (kept_set _ TB 2 (.slice none 0 0))).trans (kept_set _ TB 3 (.slice none 0 0))).trans (kept_set _ TB 4 (.int .i64 0)))
 have e4:=(K1.block EB (blk_lt bE) (fun e => n1 e.symm)).trans bE
 have p4:=(K1.block PB (blk_lt bP) (fun e => n2 e.symm)).trans bP
 generalize ((((w1.setCell ⟨TB,0,none⟩ (.slice none 0 0)).setCell ⟨TB,1,none⟩ (.slice none 0 0)).setCell ⟨TB,2,none⟩ (.slice none 0 0)).setCell ⟨TB,3,none⟩ (.slice none 0 0)).setCell ⟨TB,4,none⟩ (.int .i64 0) = W5 at *
 have KE:=kept_set W5 EB 0 (.int .i64 x)
 have KP:=kept_set (W5.setCell ⟨EB,0,none⟩ (.int .i64 x)) PB 0 (.int .i64 pc)
 have e5:=setBlk (i:=0) (u:=.int .i64 x) e4
 have p5:=(KE.block PB (blk_lt p4) (fun e => n3 e.symm)).trans p4
 have t5:=(KE.block TB (blk_lt s4) (fun e => n1 e)).trans s4
 have p6:=setBlk (i:=0) (u:=.int .i64 pc) p5
 have e6:=(KP.block EB (blk_lt e5) (fun e => n3 e)).trans e5
 have t6:=(KP.block TB (blk_lt t5) (fun e => n2 e)).trans t5
 have hk:=((((kept_of (S:=fun k => k = TB ∨ k = EB ∨ k = PB) HB1.out).then K1 (fun k _ h => .inl h)).then KE (fun k _ h => .inr (.inl h))).then KP (fun k _ h => .inr (.inr h)))
 exact ⟨rfl,_,rfl,_,results_none rfl _ _ _,rfl,rfl,t6,cell_at e6,cell_at p6,hk⟩
theorem idle71 {CB TB EB PB : Nat} :
  CallsD Tryz.prog 61 #[.pointer (some ⟨CB,0,none⟩),.pointer (some ⟨TB,0,none⟩),.pointer (some ⟨EB,0,none⟩),.pointer (some ⟨PB,0,none⟩)] .returning w fun e u' w' => e = .returned (.tuple #[]) ∧ u' = .returning ∧ Below w.heap.size w w':=by
 have HC:=hid (caught72_nil (w:=w))
 refine callsD_of_wpS Tryz.func61 rfl fun c₀ cs hu => ?_
 apply wpS_seq
 apply wpS_region
 simp [wpOpsS,go_sem,recoverD,hu,Tryz.ntmps61,Exit.thenS]
 refine HC.out.mono ?_
 rintro e w1 ⟨rfl,hb1⟩
 have BN:=hid hb1
 simp [go_sem,Array.replicate]
 refine wpS_of_wp ?_
 go_wp2_with fail
 cases c₀
 simp_all [bodyPostS,results,Tryz.results61]
end
def isO (c : Int) : Bool:=decide (c = 2) || decide (c = 3) || decide (c = 4)
theorem isO_iff {c : Int} : isO c = true ↔ c = 2 ∨ c = 3 ∨ c = 4:=by simp [isO,or_assoc]
theorem isO_ne5 {c : Int} (h : isO c = true) : c ≠ 5 ∧ c ≠ 6:=by rw [isO_iff] at h; omega
theorem isO_not {c : Int} (h : isO c = false) : c ≠ 2 ∧ c ≠ 3 ∧ c ≠ 4:=by
 have : ¬ (c = 2 ∨ c = 3 ∨ c = 4):=fun x => by rw [isO_iff.2 x] at h; cases h
 omega
def stk (O : Nat → Int) : Nat → List Nat
 | 0 => []
 | k + 1 => if isO (O k) = true then k :: stk O k else if O k = 6 then (stk O k).tail else stk O k
def top : List Nat → Int
 | [] => -1
 | t :: _ => t
def elF (O : Nat → Int) : Nat → Nat → Int
 | 0,_ => -1
 | k + 1,i => match stk O k with
  | [] => elF O k i
  | t :: _ => if O k = 5 ∧ i = t then k else elF O k i
def enF (O : Nat → Int) : Nat → Nat → Int
 | 0,_ => -1
 | k + 1,i => match stk O k with
  | [] => enF O k i
  | t :: _ => if O k = 6 ∧ (i = t ∨ (i : Int) = elF O k t) then k else enF O k i
def owF (O : Nat → Int) (k i : Nat) : Int:=if i < k then top (stk O i) else -1
def er (O : Nat → Int) (pc : Nat) : Int :=
 if isO (O pc) = true then (if (stk O pc).length = 32 then 35 else 0)
 else if O pc = 5 then (match stk O pc with
  | [] => 37
  | t :: _ => if O t = 4 ∧ elF O pc t = -1 then 0 else 37)
 else 0
def res (O : Nat → Int) : Nat → Nat → Int × Int
 | 0,pc => (38,pc)
 | f + 1,pc => if er O pc ≠ 0 then (er O pc,pc) else if O pc = 6 ∧ stk O pc = [] then (if f = 0 then (0,0) else (19,pc + 1)) else res O f (pc + 1)
def Okp (O : Nat → Int) (k : Nat) : Prop:=∀ i,i < k → er O i = 0 ∧ ¬ (O i = 6 ∧ stk O i = [])
def Good (O : Nat → Int) (n : Nat) : Prop:=0 < n ∧ Okp O (n - 1) ∧ er O (n - 1) = 0 ∧ O (n - 1) = 6 ∧ stk O (n - 1) = []
theorem res_okp {O : Nat → Int} {n : Nat} : ∀ (f pc : Nat),pc + f = n → Okp O pc → (res O f pc).1 = 0 → Good O n
 | 0,pc,_,_,h => by simp [res] at h
 | f + 1,pc,hn,hk,h => by
  unfold res at h
  by_cases h1 : er O pc ≠ 0
  ·rw [if_pos h1] at h; exact absurd h h1
  ·rw [if_neg h1] at h
   have h1' : er O pc = 0:=by omega
   by_cases h2 : O pc = 6 ∧ stk O pc = []
   ·rw [if_pos h2] at h
    by_cases h3 : f = 0
    ·obtain rfl : pc = n - 1:=by omega
     exact ⟨by omega,hk,h1',h2.1,h2.2⟩
    ·rw [if_neg h3] at h; simp at h
   ·rw [if_neg h2] at h
    refine res_okp f (pc + 1) (by omega) (fun i hi => ?_) h
    by_cases e : i = pc
    ·subst e; exact ⟨h1',h2⟩
    ·exact hk i (by omega)
theorem res_good {O : Nat → Int} {n : Nat} (h : (res O n 0).1 = 0) : Good O n:=res_okp n 0 (by omega) (fun i hi => absurd hi (by omega)) h
theorem res_step {O : Nat → Int} {n pc : Nat} (hlt : pc < n) (he : er O pc = 0) (h6 : ¬ (O pc = 6 ∧ stk O pc = [])) : res O (n - pc) pc = res O (n - (pc + 1)) (pc + 1):=by
 obtain ⟨f,hf⟩ : ∃ f,n - pc = f + 1:=⟨n - pc - 1,by omega⟩
 rw [hf,show n - (pc + 1) = f by omega]
 conv => lhs; unfold res
 rw [if_neg (by omega),if_neg h6]
theorem res_bad {O : Nat → Int} {n pc : Nat} (hlt : pc < n) (he : er O pc ≠ 0) : res O (n - pc) pc = (er O pc,(pc : Int)):=by
 obtain ⟨f,hf⟩ : ∃ f,n - pc = f + 1:=⟨n - pc - 1,by omega⟩
 rw [hf]; unfold res; rw [if_pos he]
theorem res_last {O : Nat → Int} {n pc : Nat} (hlt : pc < n) (he : er O pc = 0) (h6 : O pc = 6 ∧ stk O pc = []) : res O (n - pc) pc = if pc + 1 = n then ((0,0) : Int × Int) else (19,(pc : Int) + 1):=by
 obtain ⟨f,hf⟩ : ∃ f,n - pc = f + 1:=⟨n - pc - 1,by omega⟩
 rw [hf]; unfold res; rw [if_neg (by omega),if_pos h6]
 by_cases h : f = 0
 ·rw [if_pos h,if_pos (by omega)]
 ·rw [if_neg h,if_neg (by omega)]
theorem res_good_back {O : Nat → Int} {n : Nat} (h : Good O n) : res O n 0 = (0,0):=by
 obtain ⟨h0,h1,h2,h3,h4⟩:=h
 have : ∀ pc,pc ≤ n - 1 → res O (n - pc) pc = res O n 0:=by
  intro pc
  induction pc with
  | zero => intro _; rfl
  | succ k ih =>
   intro hk
   rw [← ih (by omega)]
   exact (res_step (by omega) (h1 k (by omega)).1 (h1 k (by omega)).2).symm
 rw [← this (n - 1) (Nat.le_refl _),res_last (by omega) h2 ⟨h3,h4⟩,if_pos (by omega)]
theorem stk_cases (O : Nat → Int) : ∀ (i : Nat),stk O i = [] ∨ ∃ t,t < i ∧ isO (O t) = true ∧ stk O i = t :: stk O t:=by
 intro i
 induction i using Nat.strongRecOn with
 | _ i ih =>
  cases i with
  | zero => exact .inl rfl
  | succ k =>
   have hk : stk O (k + 1) = if isO (O k) = true then k :: stk O k else if O k = 6 then (stk O k).tail else stk O k:=rfl
   rw [hk]
   by_cases h1 : isO (O k) = true
   ·rw [if_pos h1]; exact .inr ⟨k,by omega,h1,rfl⟩
   ·rw [if_neg h1]
    by_cases h2 : O k = 6
    ·rw [if_pos h2]
     rcases ih k (by omega) with h | ⟨t,ht,hO,h⟩
     ·rw [h]; exact .inl rfl
     ·rw [h]
      simp only [List.tail_cons]
      rcases ih t (by omega) with h' | ⟨u,hu,hO',h'⟩
      ·exact .inl h'
      ·exact .inr ⟨u,by omega,hO',h'⟩
    ·rw [if_neg h2]
     rcases ih k (by omega) with h | ⟨t,ht,hO,h⟩
     ·exact .inl h
     ·exact .inr ⟨t,by omega,hO,h⟩
theorem stk_mem (O : Nat → Int) : ∀ (i t : Nat),t ∈ stk O i → t < i ∧ isO (O t) = true:=by
 intro i
 induction i using Nat.strongRecOn with
 | _ i ih =>
  intro t ht
  rcases stk_cases O i with h | ⟨u,hu,hO,h⟩
  ·rw [h] at ht; cases ht
  ·rw [h] at ht
   rcases List.mem_cons.1 ht with rfl | ht
   ·exact ⟨hu,hO⟩
   ·have:=ih u hu t ht
    exact ⟨by omega,this.2⟩
theorem stk_open {O : Nat → Int} {k : Nat} (h : isO (O k) = true) : stk O (k + 1) = k :: stk O k:=by conv => lhs; unfold stk; rw [if_pos h]
theorem stk_end {O : Nat → Int} {k : Nat} (h : O k = 6) : stk O (k + 1) = (stk O k).tail:=by
 conv => lhs; unfold stk
 rw [if_neg (fun x => (isO_ne5 x).2 h),if_pos h]
theorem stk_same {O : Nat → Int} {k : Nat} (h : isO (O k) = false) (h6 : O k ≠ 6) : stk O (k + 1) = stk O k:=by
 conv => lhs; unfold stk
 rw [if_neg (by simp [h]),if_neg h6]
theorem stk_len {O : Nat → Int} : ∀ {k : Nat},Okp O k → (stk O k).length ≤ 32
 | 0,_ => by simp [stk]
 | k + 1,h => by
  have ih:=stk_len (k:=k) (fun i hi => h i (by omega))
  have he:=(h k (by omega)).1
  by_cases h1 : isO (O k) = true
  ·rw [stk_open h1]
   unfold er at he
   rw [if_pos h1] at he
   by_cases h2 : (stk O k).length = 32
   ·rw [if_pos h2] at he; cases he
   ·simp only [List.length_cons]; omega
  ·by_cases h2 : O k = 6
   ·rw [stk_end h2,List.length_tail]; omega
   ·rw [stk_same (by simpa using h1) h2]; exact ih
theorem elF_same {O : Nat → Int} {k i : Nat} (h : O k ≠ 5) : elF O (k + 1) i = elF O k i:=by
 conv => lhs; unfold elF
 split
 ·rfl
 ·rw [if_neg (fun x => h x.1)]
theorem elF_else {O : Nat → Int} {k t : Nat} {r : List Nat} (h : O k = 5) (hs : stk O k = t :: r) (i : Nat) : elF O (k + 1) i = if i = t then (k : Int) else elF O k i:=by
 conv => lhs; unfold elF
 rw [hs]
 simp [h]
theorem elF_none {O : Nat → Int} {k : Nat} (hs : stk O k = []) (i : Nat) : elF O (k + 1) i = elF O k i:=by
 conv => lhs; unfold elF
 rw [hs]
theorem enF_same {O : Nat → Int} {k i : Nat} (h : O k ≠ 6) : enF O (k + 1) i = enF O k i:=by
 conv => lhs; unfold enF
 split
 ·rfl
 ·rw [if_neg (fun x => h x.1)]
theorem enF_end {O : Nat → Int} {k t : Nat} {r : List Nat} (h : O k = 6) (hs : stk O k = t :: r) (i : Nat) : enF O (k + 1) i = if i = t ∨ (i : Int) = elF O k t then (k : Int) else enF O k i:=by
 conv => lhs; unfold enF
 rw [hs]
 simp [h]
theorem enF_none {O : Nat → Int} {k : Nat} (hs : stk O k = []) (i : Nat) : enF O (k + 1) i = enF O k i:=by
 conv => lhs; unfold enF
 rw [hs]
theorem owF_step (O : Nat → Int) (k i : Nat) : owF O (k + 1) i = if i = k then top (stk O k) else owF O k i:=by
 unfold owF
 by_cases h : i = k
 ·subst h; rw [if_pos rfl,if_pos (by omega)]
 ·rw [if_neg h]
  by_cases h2 : i < k
  ·rw [if_pos h2,if_pos (by omega)]
  ·rw [if_neg h2,if_neg (by omega)]
structure Iv (O : Nat → Int) (k : Nat) : Prop where
 opn : ∀ t,t < k → isO (O t) = true → (t ∈ stk O k ∧ enF O k t = -1) ∨ (t ∉ stk O k ∧ ∃ j : Nat,enF O k t = j ∧ t < j ∧ j < k ∧ O j = 6 ∧ stk O j = t :: stk O t ∧ elF O k t < j)
 els : ∀ t,elF O k t = -1 ∨ ∃ j : Nat,elF O k t = j ∧ t < j ∧ j < k ∧ O t = 4 ∧ O j = 5 ∧ stk O j = t :: stk O t ∧ enF O k j = enF O k t
 elp : ∀ j,j < k → O j = 5 → ∃ t,t < j ∧ elF O k t = j
 oth : ∀ i,isO (O i) = false → O i ≠ 5 → enF O k i = -1
 fut : ∀ i,k ≤ i → enF O k i = -1 ∧ elF O k i = -1
 nest : ∀ t u : Nat,t < u → isO (O t) = true → isO (O u) = true → (u : Int) < enF O k t → u < k ∧ u ∉ stk O k ∧ enF O k u < enF O k t
 ended : ∀ j : Nat,j < k → O j = 6 → ∃ t,t < j ∧ isO (O t) = true ∧ enF O k t = j
theorem er_else {O : Nat → Int} {k : Nat} (h5 : O k = 5) (he : er O k = 0) : ∃ t,stk O k = t :: stk O t ∧ t < k ∧ O t = 4 ∧ elF O k t = -1:=by
 unfold er at he
 rw [if_neg (fun x => (isO_ne5 x).1 h5),if_pos h5] at he
 rcases stk_cases O k with h | ⟨t,ht,hO,h⟩
 ·rw [h] at he; simp at he
 ·rw [h] at he
  simp only at he
  by_cases hc : O t = 4 ∧ elF O k t = -1
  ·exact ⟨t,h,ht,hc⟩
  ·rw [if_neg hc] at he; cases he
theorem iv_zero (O : Nat → Int) : Iv O 0 where
 opn:=fun t ht => absurd ht (by omega)
 els:=fun t => .inl rfl
 elp:=fun t ht => absurd ht (by omega)
 oth:=fun i _ _ => rfl
 fut:=fun i _ => ⟨rfl,rfl⟩
 nest:=fun t u h _ _ hx => by
  have : enF O 0 t = -1:=rfl
  omega
 ended:=fun t ht => absurd ht (by omega)
theorem iv_step {O : Nat → Int} {k : Nat} (h : Iv O k) (he : er O k = 0) (hb : ¬ (O k = 6 ∧ stk O k = [])) : Iv O (k + 1):=by
 by_cases h1 : isO (O k) = true
 ·have n5:=isO_ne5 h1
  have hen : ∀ i,enF O (k + 1) i = enF O k i:=fun i => enF_same n5.2
  have hel : ∀ i,elF O (k + 1) i = elF O k i:=fun i => elF_same n5.1
  have hst:=stk_open h1
  have hmem : ∀ t,t < k → (t ∈ stk O (k + 1) ↔ t ∈ stk O k):=fun t ht => by
   rw [hst,List.mem_cons]
   exact ⟨fun x => x.elim (fun e => absurd e (by omega)) (fun x => x),fun x => .inr x⟩
  constructor
  ·intro t ht hO
   rw [hen,hel]
   by_cases e : t = k
   ·subst e
    exact .inl ⟨by rw [hst]; simp,(h.fut t (Nat.le_refl _)).1⟩
   ·rw [hmem t (by omega)]
    rcases h.opn t (by omega) hO with hx | ⟨hx,j,a1,a2,a3,a4⟩
    ·exact .inl hx
    ·exact .inr ⟨hx,j,a1,a2,by omega,a4⟩
  ·intro t
   rw [hel]
   rcases h.els t with hx | ⟨j,a1,a2,a3,a4,a5,a6,a7⟩
   ·exact .inl hx
   ·exact .inr ⟨j,a1,a2,by omega,a4,a5,a6,by rw [hen,hen]; exact a7⟩
  ·intro j hj h5
   have : j ≠ k:=fun e => n5.1 (e ▸ h5)
   obtain ⟨t,ht,hx⟩:=h.elp j (by omega) h5
   exact ⟨t,ht,by rw [hel]; exact hx⟩
  ·intro i a b; rw [hen]; exact h.oth i a b
  ·intro i hi; rw [hen,hel]; exact h.fut i (by omega)
  ·intro t u htu a b c
   rw [hen] at c ⊢
   rw [hen]
   obtain ⟨x1,x2,x3⟩:=h.nest t u htu a b c
   exact ⟨by omega,by rw [hmem u x1]; exact x2,x3⟩
  ·intro j hj h6
   have : j ≠ k:=fun e => n5.2 (e ▸ h6)
   obtain ⟨t,a,b,c⟩:=h.ended j (by omega) h6
   exact ⟨t,a,b,by rw [hen]; exact c⟩
 have h1' : isO (O k) = false:=by simpa using h1
 by_cases h5 : O k = 5
 ·have n6 : O k ≠ 6:=by omega
  obtain ⟨t0,hs,ht0,h4,hel0⟩:=er_else h5 he
  have hen : ∀ i,enF O (k + 1) i = enF O k i:=fun i => enF_same n6
  have hel : ∀ i,elF O (k + 1) i = if i = t0 then (k : Int) else elF O k i:=fun i => elF_else h5 hs i
  have hst:=stk_same h1' n6
  have hO0 : isO (O t0) = true:=isO_iff.2 (by omega)
  have hm0 : t0 ∈ stk O k:=by rw [hs]; simp
  have he0 : enF O k t0 = -1:=by
   rcases h.opn t0 ht0 hO0 with hx | hx
   ·exact hx.2
   ·exact absurd hm0 hx.1
  constructor
  ·intro t ht hO
   have : t ≠ k:=fun e => by rw [e,h1'] at hO; cases hO
   rw [hen,hst]
   rcases h.opn t (by omega) hO with hx | ⟨hx,j,a1,a2,a3,a4,a5,a6⟩
   ·exact .inl hx
   ·refine .inr ⟨hx,j,a1,a2,by omega,a4,a5,?_⟩
    rw [hel,if_neg (fun e : t = t0 => hx (e ▸ hm0))]
    exact a6
  ·intro t
   rw [hel]
   by_cases e : t = t0
   ·subst e
    rw [if_pos rfl]
    exact .inr ⟨k,rfl,ht0,by omega,h4,h5,hs,by rw [hen,hen,he0]; exact (h.fut k (Nat.le_refl _)).1⟩
   ·rw [if_neg e]
    rcases h.els t with hx | ⟨j,a1,a2,a3,a4,a5,a6,a7⟩
    ·exact .inl hx
    ·exact .inr ⟨j,a1,a2,by omega,a4,a5,a6,by rw [hen,hen]; exact a7⟩
  ·intro j hj hj5
   by_cases e : j = k
   ·subst e
    exact ⟨t0,ht0,by rw [hel,if_pos rfl]⟩
   ·obtain ⟨t,ht,hx⟩:=h.elp j (by omega) hj5
    refine ⟨t,ht,?_⟩
    rw [hel,if_neg (fun e => by subst e; omega)]
    exact hx
  ·intro i a b; rw [hen]; exact h.oth i a b
  ·intro i hi
   rw [hen,hel,if_neg (by omega)]; exact h.fut i (by omega)
  ·intro t u htu a b c
   rw [hen] at c ⊢
   rw [hen,hst]
   obtain ⟨x1,x2,x3⟩:=h.nest t u htu a b c
   exact ⟨by omega,x2,x3⟩
  ·intro j hj h6
   have : j ≠ k:=fun e => n6 (e ▸ h6)
   obtain ⟨t,a,b,c⟩:=h.ended j (by omega) h6
   exact ⟨t,a,b,by rw [hen]; exact c⟩
 by_cases h6 : O k = 6
 ·rcases stk_cases O k with hs | ⟨t0,ht0,hO0,hs⟩
  ·exact absurd ⟨h6,hs⟩ hb
  have hen : ∀ i,enF O (k + 1) i = if i = t0 ∨ (i : Int) = elF O k t0 then (k : Int) else enF O k i:=fun i => enF_end h6 hs i
  have hel : ∀ i,elF O (k + 1) i = elF O k i:=fun i => elF_same h5
  have hst : stk O (k + 1) = stk O t0:=by rw [stk_end h6,hs]; rfl
  have hm0 : t0 ∈ stk O k:=by rw [hs]; simp
  have hne : ∀ u,isO (O u) = true → (u : Int) ≠ elF O k t0:=fun u hu e => by
   rcases h.els t0 with hx | ⟨j,a1,a2,a3,a4,a5,_⟩
   ·omega
   ·have : u = j:=by omega
    subst this
    exact (isO_ne5 hu).1 a5
  have hsub : ∀ u,u ∈ stk O t0 → u ∈ stk O k:=fun u hu => by rw [hs]; simp [hu]
  have hel0 : elF O k t0 < k:=by
   rcases h.els t0 with hx | ⟨j,a1,a2,a3,_⟩ <;> omega
  have hOe : ∀ u,isO (O u) = true → u ≠ t0 → enF O (k + 1) u = enF O k u:=fun u hu hn => by
   rw [hen,if_neg (fun x => x.elim hn (hne u hu))]
  constructor
  ·intro t ht hO
   have : t ≠ k:=fun e => by rw [e,h1'] at hO; cases hO
   by_cases e : t = t0
   ·subst e
    refine .inr ⟨?_,k,by rw [hen,if_pos (.inl rfl)],ht0,by omega,h6,hs,by rw [hel]; exact hel0⟩
    rw [hst]; exact fun hx => absurd (stk_mem O _ _ hx).1 (by omega)
   ·rw [hOe t hO e,hel,hst]
    rcases h.opn t (by omega) hO with hx | ⟨hx,j,a1,a2,a3,a4⟩
    ·refine .inl ⟨?_,hx.2⟩
     have:=hx.1
     rw [hs] at this
     exact (List.mem_cons.1 this).elim (fun x => absurd x e) (fun x => x)
    ·exact .inr ⟨fun x => hx (hsub t x),j,a1,a2,by omega,a4⟩
  ·intro t
   rw [hel]
   rcases h.els t with hx | ⟨j,a1,a2,a3,a4,a5,a6,a7⟩
   ·exact .inl hx
   ·refine .inr ⟨j,a1,a2,by omega,a4,a5,a6,?_⟩
    have hOt : isO (O t) = true:=isO_iff.2 (by omega)
    have hjt : j ≠ t0:=fun e => by rw [← e,a5] at hO0; exact absurd hO0 (by decide)
    by_cases e : t = t0
    ·subst e
     rw [hen,if_pos (.inr a1.symm),hen,if_pos (.inl rfl)]
    ·rw [hOe t hOt e,hen,if_neg]
     ·exact a7
     ·intro x
      rcases x with x | x
      ·exact hjt x
      ·rcases h.els t0 with y | ⟨j',b1,b2,b3,b4,b5,b6,_⟩
       ·omega
       ·have : j = j':=by omega
        subst this
        rw [a6] at b6
        injection b6 with b6 _
        exact e b6
  ·intro j hj hj5
   have : j ≠ k:=fun e => h5 (e ▸ hj5)
   obtain ⟨t,ht,hx⟩:=h.elp j (by omega) hj5
   exact ⟨t,ht,by rw [hel]; exact hx⟩
  ·intro i a b
   have e1 : i ≠ t0:=fun e => by rw [e,hO0] at a; cases a
   have e2 : (i : Int) ≠ elF O k t0:=fun e => by
    rcases h.els t0 with hx | ⟨j,a1,a2,a3,a4,a5,_⟩
    ·omega
    ·have : i = j:=by omega
     subst this
     exact b a5
   rw [hen,if_neg (fun x => x.elim e1 e2)]
   exact h.oth i a b
  ·intro i hi
   rw [hel,hen,if_neg (by omega)]
   exact h.fut i (by omega)
  ·intro t u htu a b c
   by_cases e : t = t0
   ·subst e
    rw [hen t,if_pos (.inl rfl)] at c ⊢
    have huk : u < k:=by omega
    have hut : u ≠ t:=by omega
    have hn : u ∉ stk O k:=fun x => by
     rw [hs] at x
     rcases List.mem_cons.1 x with x | x
     ·exact hut x
     ·exact absurd (stk_mem O _ _ x).1 (by omega)
    refine ⟨by omega,?_,?_⟩
    ·rw [hst]; exact fun x => hn (hsub u x)
    ·rw [hOe u b hut]
     rcases h.opn u huk b with hx | ⟨_,j,a1,a2,a3,_⟩
     ·exact absurd hx.1 hn
     ·omega
   ·rw [hOe t a e] at c ⊢
    obtain ⟨x1,x2,x3⟩:=h.nest t u htu a b c
    have hut : u ≠ t0:=fun e => x2 (e ▸ hm0)
    refine ⟨by omega,?_,by rw [hOe u b hut]; exact x3⟩
    rw [hst]; exact fun x => x2 (hsub u x)
  ·intro j hj hj6
   by_cases e : j = k
   ·subst e
    exact ⟨t0,ht0,hO0,by rw [hen,if_pos (.inl rfl)]⟩
   ·obtain ⟨t,a,b,c⟩:=h.ended j (by omega) hj6
    refine ⟨t,a,b,?_⟩
    have : t ≠ t0:=fun e => by
     subst e
     rcases h.opn t ht0 hO0 with hx | hx
     ·omega
     ·exact hx.1 hm0
    rw [hOe t b this]; exact c
 ·have hen : ∀ i,enF O (k + 1) i = enF O k i:=fun i => enF_same h6
  have hel : ∀ i,elF O (k + 1) i = elF O k i:=fun i => elF_same h5
  have hst:=stk_same h1' h6
  constructor
  ·intro t ht hO
   have : t ≠ k:=fun e => by rw [e,h1'] at hO; cases hO
   rw [hen,hel,hst]
   rcases h.opn t (by omega) hO with hx | ⟨hx,j,a1,a2,a3,a4⟩
   ·exact .inl hx
   ·exact .inr ⟨hx,j,a1,a2,by omega,a4⟩
  ·intro t
   rw [hel]
   rcases h.els t with hx | ⟨j,a1,a2,a3,a4,a5,a6,a7⟩
   ·exact .inl hx
   ·exact .inr ⟨j,a1,a2,by omega,a4,a5,a6,by rw [hen,hen]; exact a7⟩
  ·intro j hj hj5
   have : j ≠ k:=fun e => h5 (e ▸ hj5)
   obtain ⟨t,ht,hx⟩:=h.elp j (by omega) hj5
   exact ⟨t,ht,by rw [hel]; exact hx⟩
  ·intro i a b; rw [hen]; exact h.oth i a b
  ·intro i hi; rw [hen,hel]; exact h.fut i (by omega)
  ·intro t u htu a b c
   rw [hen] at c ⊢
   rw [hen,hst]
   obtain ⟨x1,x2,x3⟩:=h.nest t u htu a b c
   exact ⟨by omega,x2,x3⟩
  ·intro j hj hj6
   have : j ≠ k:=fun e => h6 (e ▸ hj6)
   obtain ⟨t,a,b,c⟩:=h.ended j (by omega) hj6
   exact ⟨t,a,b,by rw [hen]; exact c⟩
theorem iv_of {O : Nat → Int} : ∀ {k : Nat},Okp O k → Iv O k
 | 0,_ => iv_zero O
 | k + 1,h => iv_step (iv_of (k:=k) fun i hi => h i (by omega)) (h k (by omega)).1 (h k (by omega)).2
end Go.Proofs.YtepcmfegggdjfaaGreatDoor

/-
  Texts Pure Vz Blank.
-/
import Derived.WalkKit
import Derived.Test.YtkdldbfbldkkcaaGreatDoorM00
import Derived.Test.YtkdldbfbldkkcaaGreatDoorM37
set_option linter.unusedVariables false
set_option maxRecDepth 100000
set_option maxHeartbeats 16000000
namespace Go.Proofs.YtkdldbfbldkkcaaGreatDoor
def isO (c : Int) : Bool:=decide (c = 2) || decide (c = 3) || decide (c = 4)
theorem gH {c : Int} : isO c = true ↔ c = 2 ∨ c = 3 ∨ c = 4:=by simp [isO,or_assoc]
theorem mn {c : Int} (h : isO c = true) : c ≠ 5 ∧ c ≠ 6:=by rw [gH] at h; omega
theorem Kb {c : Int} (h : isO c = false) : c ≠ 2 ∧ c ≠ 3 ∧ c ≠ 4:=by
 have : ¬ (c = 2 ∨ c = 3 ∨ c = 4):=fun x => by rw [gH.2 x] at h; cases h
 omega
def stk (O : Nat → Int) : Nat → List Nat
 | 0 => []
 | k + 1 => if isO (O k) = true then k :: stk O k else if O k = 6 then (stk O k).tail else stk O k
def top : List Nat → Int
 | [] => -1
 | t :: _ => t
def elF (O : Nat → Int) : Nat → Nat → Int
 | 0,_ => -1
 | k + 1,i => match stk O k with
  | [] => elF O k i
  | t :: _ => if O k = 5 ∧ i = t then k else elF O k i
def enF (O : Nat → Int) : Nat → Nat → Int
 | 0,_ => -1
 | k + 1,i => match stk O k with
  | [] => enF O k i
  | t :: _ => if O k = 6 ∧ (i = t ∨ (i : Int) = elF O k t) then k else enF O k i
def owF (O : Nat → Int) (k i : Nat) : Int:=if i < k then top (stk O i) else -1
def er (O : Nat → Int) (pc : Nat) : Int :=
 if isO (O pc) = true then (if (stk O pc).length = 32 then 35 else 0)
 else if O pc = 5 then (match stk O pc with
  | [] => 37
  | t :: _ => if O t = 4 ∧ elF O pc t = -1 then 0 else 37)
 else 0
def res (O : Nat → Int) : Nat → Nat → Int × Int
 | 0,pc => (38,pc)
 | f + 1,pc => if er O pc ≠ 0 then (er O pc,pc) else if O pc = 6 ∧ stk O pc = [] then (if f = 0 then (0,0) else (19,pc + 1)) else res O f (pc + 1)
def Okp (O : Nat → Int) (k : Nat) : Prop:=∀ i,i < k → er O i = 0 ∧ ¬ (O i = 6 ∧ stk O i = [])
def Good (O : Nat → Int) (n : Nat) : Prop:=0 < n ∧ Okp O (n - 1) ∧ er O (n - 1) = 0 ∧ O (n - 1) = 6 ∧ stk O (n - 1) = []
theorem uD {O : Nat → Int} {n : Nat} : ∀ (f pc : Nat),pc + f = n → Okp O pc → (res O f pc).1 = 0 → Good O n
 | 0,pc,_,_,h => by simp [res] at h
 | f + 1,pc,hn,hk,h => by
  unfold res at h
  by_cases h1 : er O pc ≠ 0
  ·rw [if_pos h1] at h; exact absurd h h1
  ·rw [if_neg h1] at h;have h1' : er O pc = 0:=ae
   by_cases h2 : O pc = 6 ∧ stk O pc = []
   ·rw [if_pos h2] at h
    by_cases h3 : f = 0
    ·obtain rfl : pc = n - 1:=ae;exact ⟨ae,hk,h1',h2.1,h2.2⟩
    ·rw [if_neg h3] at h; simp at h
   ·rw [if_neg h2] at h
    refine uD f (pc + 1) ae (fun i hi => ?_) h
    by_cases e : i = pc
    ·subst e; exact ⟨h1',h2⟩
    ·exact hk i ae
theorem Fy {O : Nat → Int} {n : Nat} (h : (res O n 0).1 = 0) : Good O n:=uD n 0 ae (fun i hi => absurd hi ae) h
theorem vL {O : Nat → Int} {n pc : Nat} (hlt : pc < n) (he : er O pc = 0) (h6 : ¬ (O pc = 6 ∧ stk O pc = [])) : res O (n - pc) pc = res O (n - (pc + 1)) (pc + 1):=by
 obtain ⟨f,hf⟩ : ∃ f,n - pc = f + 1:=⟨n - pc - 1,ae⟩
 rw [hf,show n - (pc + 1) = f by omega]
 conv => lhs; unfold res
 rw [if_neg ae,if_neg h6]
theorem uK {O : Nat → Int} {n pc : Nat} (hlt : pc < n) (he : er O pc ≠ 0) : res O (n - pc) pc = (er O pc,(pc : Int)):=by
 obtain ⟨f,hf⟩ : ∃ f,n - pc = f + 1:=⟨n - pc - 1,ae⟩
 rw [hf]; unfold res; rw [if_pos he]
theorem vM {O : Nat → Int} {n pc : Nat} (hlt : pc < n) (he : er O pc = 0) (h6 : O pc = 6 ∧ stk O pc = []) : res O (n - pc) pc = if pc + 1 = n then ((0,0) : Int × Int) else (19,(pc : Int) + 1):=by
 obtain ⟨f,hf⟩ : ∃ f,n - pc = f + 1:=⟨n - pc - 1,ae⟩
 rw [hf]; unfold res; rw [if_neg ae,if_pos h6]
 by_cases h : f = 0
 ·rw [if_pos h,if_pos ae]
 ·rw [if_neg h,if_neg ae]
theorem kH {O : Nat → Int} {n : Nat} (h : Good O n) : res O n 0 = (0,0):=by
 obtain ⟨h0,h1,h2,h3,h4⟩:=h
 have : ∀ pc,pc ≤ n - 1 → res O (n - pc) pc = res O n 0:=by
  intro pc
  induction pc with
  | zero => intro _; rfl
  | succ k ih =>
   intro hk;rw [← ih ae];exact (vL ae (h1 k ae).1 (h1 k ae).2).symm
 rw [← this (n - 1) (Nat.le_refl _),vM ae h2 ⟨h3,h4⟩,if_pos ae]
theorem iP (O : Nat → Int) : ∀ (i : Nat),stk O i = [] ∨ ∃ t,t < i ∧ isO (O t) = true ∧ stk O i = t :: stk O t:=by
 intro i
 induction i using Nat.strongRecOn with
 | _ i ih =>
  cases i with
  | zero => exact .inl rfl
  | succ k =>
   have hk : stk O (k + 1) = if isO (O k) = true then k :: stk O k else if O k = 6 then (stk O k).tail else stk O k:=rfl;rw [hk]
   by_cases h1 : isO (O k) = true
   ·rw [if_pos h1]; exact .inr ⟨k,ae,h1,rfl⟩
   ·rw [if_neg h1]
    by_cases h2 : O k = 6
    ·rw [if_pos h2]
     rcases ih k ae with h | ⟨t,ht,hO,h⟩
     ·rw [h]; exact .inl rfl
     ·rw [h]
      simp only [List.tail_cons]
      rcases ih t ae with h' | ⟨u,hu,hO',h'⟩
      ·exact .inl h'
      ·exact .inr ⟨u,ae,hO',h'⟩
    ·rw [if_neg h2]
     rcases ih k ae with h | ⟨t,ht,hO,h⟩
     ·exact .inl h
     ·exact .inr ⟨t,ae,hO,h⟩
theorem Ab (O : Nat → Int) : ∀ (i t : Nat),t ∈ stk O i → t < i ∧ isO (O t) = true:=by
 intro i
 induction i using Nat.strongRecOn with
 | _ i ih =>
  intro t ht
  rcases iP O i with h | ⟨u,hu,hO,h⟩
  ·rw [h] at ht; cases ht
  ·rw [h] at ht
   rcases List.mem_cons.1 ht with rfl | ht
   ·exact ⟨hu,hO⟩
   ·have:=ih u hu t ht
    exact ⟨ae,this.2⟩
theorem jA {O : Nat → Int} {k : Nat} (h : isO (O k) = true) : stk O (k + 1) = k :: stk O k:=by conv => lhs; unfold stk; rw [if_pos h]
theorem oL {O : Nat → Int} {k : Nat} (h : O k = 6) : stk O (k + 1) = (stk O k).tail:=by
 conv => lhs; unfold stk
 rw [if_neg (fun x => (mn x).2 h),if_pos h]
theorem iQ {O : Nat → Int} {k : Nat} (h : isO (O k) = false) (h6 : O k ≠ 6) : stk O (k + 1) = stk O k:=by
 conv => lhs; unfold stk
 rw [if_neg (by simp [h]),if_neg h6]
theorem oD {O : Nat → Int} : ∀ {k : Nat},Okp O k → (stk O k).length ≤ 32
 | 0,_ => by simp [stk]
 | k + 1,h => by
  have ih:=oD (k:=k) (fun i hi => h i ae)
  have he:=(h k ae).1
  by_cases h1 : isO (O k) = true
  ·rw [jA h1];unfold er at he;rw [if_pos h1] at he
   by_cases h2 : (stk O k).length = 32
   ·rw [if_pos h2] at he; cases he
   ·simp only [List.length_cons]; omega
  ·by_cases h2 : O k = 6
   ·rw [oL h2,List.length_tail]; omega
   ·rw [iQ gj h2]; exact ih
theorem iJ {O : Nat → Int} {k i : Nat} (h : O k ≠ 5) : elF O (k + 1) i = elF O k i:=by
 conv => lhs; unfold elF
 split
 ·rfl
 ·rw [if_neg (fun x => h x.1)]
theorem vY {O : Nat → Int} {k t : Nat} {r : List Nat} (h : O k = 5) (hs : stk O k = t :: r) (i : Nat) : elF O (k + 1) i = if i = t then (k : Int) else elF O k i:=by
 conv => lhs; unfold elF
 rw [hs]
 simp [h]
theorem Fq {O : Nat → Int} {k : Nat} (hs : stk O k = []) (i : Nat) : elF O (k + 1) i = elF O k i:=by
 conv => lhs; unfold elF
 rw [hs]
theorem iN {O : Nat → Int} {k i : Nat} (h : O k ≠ 6) : enF O (k + 1) i = enF O k i:=by
 conv => lhs; unfold enF
 split
 ·rfl
 ·rw [if_neg (fun x => h x.1)]
theorem Au {O : Nat → Int} {k t : Nat} {r : List Nat} (h : O k = 6) (hs : stk O k = t :: r) (i : Nat) : enF O (k + 1) i = if i = t ∨ (i : Int) = elF O k t then (k : Int) else enF O k i:=by
 conv => lhs; unfold enF
 rw [hs]
 simp [h]
theorem FP {O : Nat → Int} {k : Nat} (hs : stk O k = []) (i : Nat) : enF O (k + 1) i = enF O k i:=by
 conv => lhs; unfold enF
 rw [hs]
theorem GP (O : Nat → Int) (k i : Nat) : owF O (k + 1) i = if i = k then top (stk O k) else owF O k i:=by
 unfold owF
 by_cases h : i = k
 ·subst h; rw [if_pos rfl,if_pos ae]
 ·rw [if_neg h]
  by_cases h2 : i < k
  ·rw [if_pos h2,if_pos ae]
  ·rw [if_neg h2,if_neg ae]
structure Iv (O : Nat → Int) (k : Nat) : Prop where
 opn : ∀ t,t < k → isO (O t) = true → (t ∈ stk O k ∧ enF O k t = -1) ∨ (t ∉ stk O k ∧ ∃ j : Nat,enF O k t = j ∧ t < j ∧ j < k ∧ O j = 6 ∧ stk O j = t :: stk O t ∧ elF O k t < j)
 els : ∀ t,elF O k t = -1 ∨ ∃ j : Nat,elF O k t = j ∧ t < j ∧ j < k ∧ O t = 4 ∧ O j = 5 ∧ stk O j = t :: stk O t ∧ enF O k j = enF O k t
 elp : ∀ j,j < k → O j = 5 → ∃ t,t < j ∧ elF O k t = j
 oth : ∀ i,isO (O i) = false → O i ≠ 5 → enF O k i = -1
 fut : ∀ i,k ≤ i → enF O k i = -1 ∧ elF O k i = -1
 nest : ∀ t u : Nat,t < u → isO (O t) = true → isO (O u) = true → (u : Int) < enF O k t → u < k ∧ u ∉ stk O k ∧ enF O k u < enF O k t
 ended : ∀ j : Nat,j < k → O j = 6 → ∃ t,t < j ∧ isO (O t) = true ∧ enF O k t = j
theorem Ji {O : Nat → Int} {k : Nat} (h5 : O k = 5) (he : er O k = 0) : ∃ t,stk O k = t :: stk O t ∧ t < k ∧ O t = 4 ∧ elF O k t = -1:=by
 unfold er at he
 rw [if_neg (fun x => (mn x).1 h5),if_pos h5] at he
 rcases iP O k with h | ⟨t,ht,hO,h⟩
 ·rw [h] at he; simp at he
 ·rw [h] at he
  simp only at he
  by_cases hc : O t = 4 ∧ elF O k t = -1
  ·exact ⟨t,h,ht,hc⟩
  ·rw [if_neg hc] at he; cases he
theorem JI (O : Nat → Int) : Iv O 0 where
 opn:=fun t ht => absurd ht ae
 els:=fun t => .inl rfl
 elp:=fun t ht => absurd ht ae
 oth:=fun i _ _ => rfl
 fut:=fun i _ => ⟨rfl,rfl⟩
 nest:=fun t u h _ _ hx => by
  have : enF O 0 t = -1:=rfl;omega
 ended:=fun t ht => absurd ht ae
theorem JZ {O : Nat → Int} {k : Nat} (h : Iv O k) (he : er O k = 0) (hb : ¬ (O k = 6 ∧ stk O k = [])) : Iv O (k + 1):=by
 by_cases h1 : isO (O k) = true
 ·have n5:=mn h1
  have hen : ∀ i,enF O (k + 1) i = enF O k i:=fun i => iN n5.2
  have hel : ∀ i,elF O (k + 1) i = elF O k i:=fun i => iJ n5.1
  have hst:=jA h1
  have hmem : ∀ t,t < k → (t ∈ stk O (k + 1) ↔ t ∈ stk O k):=fun t ht => by
   rw [hst,List.mem_cons]
   exact ⟨fun x => x.elim (fun e => absurd e ae) (fun x => x),fun x => .inr x⟩
  constructor
  ·intro t ht hO;rw [hen,hel]
   by_cases e : t = k
   ·subst e
    exact .inl ⟨by rw [hst]; simp,(h.fut t (Nat.le_refl _)).1⟩
   ·rw [hmem t ae];exact AG
  ·exact Ii
  ·intro j hj h5
   have : j ≠ k:=fun e => n5.1 (e ▸ h5)
   obtain ⟨t,ht,hx⟩:=h.elp j ae h5
   exact ⟨t,ht,by rw [hel]; exact hx⟩
  ·intro i a b; rw [hen]; exact h.oth i a b
  ·intro i hi; rw [hen,hel]; exact h.fut i ae
  ·intro t u htu a b c;rw [hen] at c ⊢;rw [hen];obtain ⟨x1,x2,x3⟩:=h.nest t u htu a b c
   exact ⟨ae,by rw [hmem u x1]; exact x2,x3⟩
  ·intro j hj h6
   have : j ≠ k:=fun e => n5.2 (e ▸ h6)
   exact Bf
 have h1' : isO (O k) = false:=gj
 by_cases h5 : O k = 5
 ·have n6 : O k ≠ 6:=ae;obtain ⟨t0,hs,ht0,h4,hel0⟩:=Ji h5 he
  have hen : ∀ i,enF O (k + 1) i = enF O k i:=fun i => iN n6
  have hel : ∀ i,elF O (k + 1) i = if i = t0 then (k : Int) else elF O k i:=fun i => vY h5 hs i
  have hst:=iQ h1' n6;have hO0 : isO (O t0) = true:=gH.2 ae
  have hm0 : t0 ∈ stk O k:=by rw [hs]; simp
  have he0 : enF O k t0 = -1:=by
   rcases h.opn t0 ht0 hO0 with hx | hx
   ·exact hx.2
   ·exact absurd hm0 hx.1
  constructor
  ·intro t ht hO
   have : t ≠ k:=fun e => yX
   rw [hen,hst]
   rcases h.opn t ae hO with hx | ⟨hx,j,a1,a2,a3,a4,a5,a6⟩
   ·exact .inl hx
   ·refine .inr ⟨hx,j,a1,a2,ae,a4,a5,?_⟩
    rw [hel,if_neg (fun e : t = t0 => hx (e ▸ hm0))]
    exact a6
  ·intro t;rw [hel]
   by_cases e : t = t0
   ·subst e;rw [if_pos rfl]
    exact .inr ⟨k,rfl,ht0,ae,h4,h5,hs,by rw [hen,hen,he0]; exact (h.fut k (Nat.le_refl _)).1⟩
   ·rw [if_neg e]
    rcases h.els t with hx | ⟨j,a1,a2,a3,a4,a5,a6,a7⟩
    ·exact .inl hx
    ·exact .inr ⟨j,a1,a2,ae,a4,a5,a6,by rw [hen,hen]; exact a7⟩
  ·intro j hj hj5
   by_cases e : j = k
   ·subst e
    exact ⟨t0,ht0,by rw [hel,if_pos rfl]⟩
   ·obtain ⟨t,ht,hx⟩:=h.elp j ae hj5;refine ⟨t,ht,?_⟩
    rw [hel,if_neg (fun e => by subst e; omega)]
    exact hx
  ·intro i a b; rw [hen]; exact h.oth i a b
  ·intro i hi
   rw [hen,hel,if_neg ae]; exact h.fut i ae
  ·exact AB
  ·intro j hj h6
   have : j ≠ k:=fun e => n6 (e ▸ h6)
   exact Bf
 by_cases h6 : O k = 6
 ·rcases iP O k with hs | ⟨t0,ht0,hO0,hs⟩
  ·exact absurd ⟨h6,hs⟩ hb
  have hen : ∀ i,enF O (k + 1) i = if i = t0 ∨ (i : Int) = elF O k t0 then (k : Int) else enF O k i:=fun i => Au h6 hs i
  have hel : ∀ i,elF O (k + 1) i = elF O k i:=fun i => iJ h5
  have hst : stk O (k + 1) = stk O t0:=by rw [oL h6,hs]; rfl
  have hm0 : t0 ∈ stk O k:=by rw [hs]; simp
  have hne : ∀ u,isO (O u) = true → (u : Int) ≠ elF O k t0:=fun u hu e => by
   rcases h.els t0 with hx | ⟨j,a1,a2,a3,a4,a5,_⟩
   ·omega
   ·have : u = j:=ae;subst this;exact (mn hu).1 a5
  have hsub : ∀ u,u ∈ stk O t0 → u ∈ stk O k:=fun u hu => by rw [hs]; simp [hu]
  have hel0 : elF O k t0 < k:=by
   rcases h.els t0 with hx | ⟨j,a1,a2,a3,_⟩ <;> omega
  have hOe : ∀ u,isO (O u) = true → u ≠ t0 → enF O (k + 1) u = enF O k u:=fun u hu hn => by
   rw [hen,if_neg (fun x => x.elim hn (hne u hu))]
  constructor
  ·intro t ht hO
   have : t ≠ k:=fun e => yX
   by_cases e : t = t0
   ·subst e
    refine .inr ⟨?_,k,by rw [hen,if_pos (.inl rfl)],ht0,ae,h6,hs,by rw [hel]; exact hel0⟩
    rw [hst]; exact fun hx => absurd (Ab O _ _ hx).1 ae
   ·rw [hOe t hO e,hel,hst]
    rcases h.opn t ae hO with hx | ⟨hx,j,a1,a2,a3,a4⟩
    ·refine .inl ⟨?_,hx.2⟩
     have:=hx.1
     rw [hs] at this
     exact (List.mem_cons.1 this).elim (fun x => absurd x e) (fun x => x)
    ·exact .inr ⟨fun x => hx (hsub t x),j,a1,a2,ae,a4⟩
  ·intro t;rw [hel]
   rcases h.els t with hx | ⟨j,a1,a2,a3,a4,a5,a6,a7⟩
   ·exact .inl hx
   ·refine .inr ⟨j,a1,a2,ae,a4,a5,a6,?_⟩;have hOt : isO (O t) = true:=gH.2 ae
    have hjt : j ≠ t0:=fun e => by rw [← e,a5] at hO0; exact absurd hO0 ax
    by_cases e : t = t0
    ·subst e;rw [hen,if_pos (.inr a1.symm),hen,if_pos (.inl rfl)]
    ·rw [hOe t hOt e,hen,if_neg]
     ·exact a7
     ·intro x
      rcases x with x | x
      ·exact hjt x
      ·rcases h.els t0 with y | ⟨j',b1,b2,b3,b4,b5,b6,_⟩
       ·omega
       ·have : j = j':=ae;subst this;rw [a6] at b6
        injection b6 with b6 _
        exact e b6
  ·exact Hz
  ·intro i a b
   have e1 : i ≠ t0:=fun e => by rw [e,hO0] at a; cases a
   have e2 : (i : Int) ≠ elF O k t0:=fun e => by
    rcases h.els t0 with hx | ⟨j,a1,a2,a3,a4,a5,_⟩
    ·omega
    ·have : i = j:=ae;subst this;exact b a5
   rw [hen,if_neg (fun x => x.elim e1 e2)]
   exact h.oth i a b
  ·intro i hi;rw [hel,hen,if_neg ae];exact h.fut i ae
  ·intro t u htu a b c
   by_cases e : t = t0
   ·subst e;rw [hen t,if_pos (.inl rfl)] at c ⊢;have huk : u < k:=ae;have hut : u ≠ t:=ae
    have hn : u ∉ stk O k:=fun x => by
     rw [hs] at x
     rcases List.mem_cons.1 x with x | x
     ·exact hut x
     ·exact absurd (Ab O _ _ x).1 ae
    refine ⟨ae,?_,?_⟩
    ·rw [hst]; exact fun x => hn (hsub u x)
    ·rw [hOe u b hut]
     rcases h.opn u huk b with hx | ⟨_,j,a1,a2,a3,_⟩
     ·exact absurd hx.1 hn
     ·omega
   ·rw [hOe t a e] at c ⊢;obtain ⟨x1,x2,x3⟩:=h.nest t u htu a b c
    have hut : u ≠ t0:=fun e => x2 (e ▸ hm0)
    refine ⟨ae,?_,by rw [hOe u b hut]; exact x3⟩
    rw [hst]; exact fun x => x2 (hsub u x)
  ·intro j hj hj6
   by_cases e : j = k
   ·subst e
    exact ⟨t0,ht0,hO0,by rw [hen,if_pos (.inl rfl)]⟩
   ·obtain ⟨t,a,b,c⟩:=h.ended j ae hj6;refine ⟨t,a,b,?_⟩
    have : t ≠ t0:=fun e => by
     subst e
     rcases h.opn t ht0 hO0 with hx | hx
     ·omega
     ·exact hx.1 hm0
    rw [hOe t b this]; exact c
 ·have hen : ∀ i,enF O (k + 1) i = enF O k i:=fun i => iN h6
  have hel : ∀ i,elF O (k + 1) i = elF O k i:=fun i => iJ h5
  have hst:=iQ h1' h6
  constructor
  ·intro t ht hO
   have : t ≠ k:=fun e => yX
   rw [hen,hel,hst];exact AG
  ·exact Ii
  ·exact Hz
  ·intro i a b; rw [hen]; exact h.oth i a b
  ·intro i hi; rw [hen,hel]; exact h.fut i ae
  ·exact AB
  ·intro j hj hj6
   have : j ≠ k:=fun e => h6 (e ▸ hj6)
   obtain ⟨t,a,b,c⟩:=h.ended j ae hj6
   exact ⟨t,a,b,by rw [hen]; exact c⟩
theorem La {O : Nat → Int} : ∀ {k : Nat},Okp O k → Iv O k
 | 0,_ => JI O
 | k + 1,h => JZ (La (k:=k) fun i hi => h i ae) (h k ae).1 (h k ae).2
open Go.RowKit
def bp (s : Cs) : Opn:=s.op.getD (s.op.length - 1) ⟨⟨#[]⟩,⟨#[]⟩,⟨#[]⟩,0,0⟩
structure Iv3 (O : Nat → Int) (n j : Nat) (s : Cs) : Prop where
 len : s.op.length = (stk O j).length + 1
 sz : ∀ p ∈ s.op,p.P.size ≤ 8 ∧ p.R.size ≤ 8 ∧ p.B.size + p.P.size ≤ 256 ∧ ∃ q : Nat,p.pc = q ∧ q < n
 ch : s.op.Pairwise (fun a b => a.B.size ≤ b.B.size)
 last : (bp s).B.size ≤ s.st.size
 st : s.st.size ≤ 256
 hi : s.hi ≤ 256
 sh : s.sh.length = n
theorem jO {s : Cs} {k : Nat} (h : s.op.length = k + 1) : s.op[k]? = some (bp s):=by
 unfold bp;rw [h]
 simp only [Nat.add_sub_cancel]
 rw [i7 (ba (by omega : k < s.op.length))]
 exact ba _
theorem vd {s : Cs} {k : Nat} (h : s.op.length = k + 1) : bp s ∈ s.op:=List.mem_of_getElem? (jO h)
theorem Cw {s t : ByteArray} (h : bV s t = 0) : iT s t = s ++ t ∧ s.size + t.size ≤ 256:=by
 refine ⟨by simp [iT,h],?_⟩
 unfold bV at h
 split at h
 ·split at h
  ·cases h
  ·omega
 ·cases h
theorem E9 {s : Cs} {o : Opn} {t : ByteArray} (h : bI s o t = 0) : t.size ≤ s.st.size - o.B.size:=by
 have:=oY h
 simp at this
 omega
theorem bA {a b : Int} (h : orE a b = 0) : a = 0 ∧ b = 0:=by
 unfold orE at h
 split at h
 ·rename_i g; exact absurd h g
 ·rename_i g; exact ⟨ae,h⟩
section
variable {v : Ev} {w1 : World} {m : MM} {lo : List Int}
theorem Iv3.keepOp {O : Nat → Int} {n j : Nat} {s s' : Cs} (h : Iv3 O n j s) (hs : stk O (j + 1) = stk O j) (h1 : s'.op = s.op) (h2 : (bp s).B.size ≤ s'.st.size) (h3 : s'.st.size ≤ 256) (h4 : s'.hi ≤ 256) (h5 : s'.sh.length = n) : Iv3 O n (j + 1) s':=by
 refine ⟨by rw [h1,hs]; exact h.len,by rw [h1]; exact h.sz,by rw [h1]; exact h.ch,?_,h3,h4,h5⟩
 have : bp s' = bp s:=by unfold bp; rw [h1]
 rw [this]; exact h2
theorem LM {O : Nat → Int} {n j : Nat} {s : Cs} (h : Iv3 O n j s) : Iv3 O n j (nD s):=by
 refine ⟨h.len,h.sz,h.ch,h.last,h.st,?_,?_⟩
 ·show max s.hi s.st.size ≤ 256
  have:=h.hi; have:=h.st; omega
 ·show (s.sh.set s.pc s.st).length = n
  rw [List.length_set]; exact h.sh
theorem Mk {O : Nat → Int} {n j : Nat} {s : Cs} {el c a : Int} {l : List Int} (hM : EvM v w1 m lo) (h : Iv3 O n j s) (hc : O j = c) (h0 : 0 ≤ c) (h1 : c ≤ 255) (hpc : s.pc = j) (hj : j < n) (hnb : ¬ (c = 6 ∧ stk O j = []))
  (he : rwE m lo el s (bp s) c a l = 0) : Iv3 O n (j + 1) (rwS m lo s (bp s) c a):=by
 have hmem:=vd h.len;have hsz:=h.sz _ hmem;have hlast:=h.last;have hst:=h.st
 have hnew : ∀ tk : ByteArray,opE m s (bp s) a tk = 0 → isO (O j) = true → Iv3 O n (j + 1) (ie s c tk (cG m a).1 (cG m a).2):=by
  intro tk he hO;obtain ⟨_,he2⟩:=bA he;obtain ⟨he3,_⟩:=bA he2;have hle:=E9 he3;rw [ByteArray.size_append] at hle;have ht:=rQ hM a
  have hBs : (ua s tk (cG m a).1).size = s.st.size - tk.size - (cG m a).1.size:=by
   unfold ua
   simp
  have hsts : (ie s c tk (cG m a).1 (cG m a).2).st.size = s.st.size - tk.size:=by
   show (s.st.extract 0 (s.st.size - tk.size)).size = _
   simp
  have hop : (ie s c tk (cG m a).1 (cG m a).2).op = s.op ++ [⟨(cG m a).1,(cG m a).2,ua s tk (cG m a).1,c,s.pc⟩]:=rfl
  have htop : bp (ie s c tk (cG m a).1 (cG m a).2) = ⟨(cG m a).1,(cG m a).2,ua s tk (cG m a).1,c,s.pc⟩:=by
   unfold bp;rw [hop]
   simp [List.getD_eq_getElem?_getD]
  refine ⟨?_,?_,?_,?_,by rw [hsts]; omega,h.hi,h.sh⟩
  ·rw [hop,jA hO]
   simp [h.len]
  ·rw [hop];intro p hp
   rcases List.mem_append.1 hp with hp | hp
   ·exact h.sz p hp
   ·simp only [List.mem_singleton] at hp
    subst hp
    exact ⟨ht.1,ht.2,pF,j,by dsimp only; rw [hpc],hj⟩
  ·rw [hop,List.pairwise_append];refine ⟨h.ch,au,?_⟩;intro p hp q hq
   simp only [List.mem_singleton] at hq
   subst hq;dsimp only;rw [hBs]
   have hpl : p.B.size ≤ (bp s).B.size:=by
    obtain ⟨i,hi,rfl⟩:=List.getElem_of_mem hp;have hget:=jO h.len;have hk:=h.len
    rcases Nat.lt_or_ge i (stk O j).length with hx | hx
    ·have:=List.pairwise_iff_getElem.1 h.ch i (stk O j).length hi ae hx
     rw [ba ae] at hget
     simp at hget
     rw [hget] at this;exact this
    ·have : i = (stk O j).length:=ae;subst this;rw [ba ae] at hget
     simp at hget
     rw [hget];exact Nat.le_refl _
   omega
  ·rw [htop,hsts];dsimp only;rw [hBs];omega
 by_cases c23 : c = 2 ∨ c = 3
 ·have eE : rwE m lo el s (bp s) c a l = opE m s (bp s) a nT:=by unfold rwE; rw [if_pos c23]
  have eS : rwS m lo s (bp s) c a = ie s c nT (cG m a).1 (cG m a).2:=by unfold rwS; rw [if_pos c23]
  rw [eS]
  exact hnew nT (by rw [← eE]; exact he) (by rw [hc,gH]; omega)
 by_cases c4 : c = 4
 ·have eE : rwE m lo el s (bp s) c a l = opE m s (bp s) a wT:=by unfold rwE; rw [if_neg c23,if_pos c4]
  have eS : rwS m lo s (bp s) c a = ie s c wT (cG m a).1 (cG m a).2:=by unfold rwS; rw [if_neg c23,if_pos c4]
  rw [eS]
  exact hnew wT (by rw [← eE]; exact he) (by rw [hc,gH]; omega)
 have hO : isO (O j) = false:=by
  cases hb : isO (O j)
  ·rfl
  ·rw [gH,hc] at hb; omega
 by_cases c6 : c = 6
 ·have eS : rwS m lo s (bp s) c a = rR s:=by
   unfold rwS; rw [if_neg c23,if_neg c4,if_neg ae,if_pos c6]
  rw [eS]
  have hst6 : stk O (j + 1) = (stk O j).tail:=oL (by rw [hc]; exact c6)
  have hne : stk O j ≠ []:=fun e => hnb ⟨c6,e⟩
  obtain ⟨t,r,hr⟩ : ∃ t r,stk O j = t :: r:=by
   cases hx : stk O j with
   | nil => exact absurd hx hne
   | cons t r => exact ⟨t,r,rfl⟩
  have hlen:=h.len;rw [hr] at hlen
  simp only [List.length_cons] at hlen
  have hop : (rR s).op = s.op.dropLast:=rfl
  have hdl : s.op.dropLast.length = r.length + 1:=by rw [List.length_dropLast,hlen]; omega
  refine ⟨?_,?_,?_,?_,h.st,h.hi,h.sh⟩
  ·rw [hop,hst6,hr,hdl]; rfl
  ·rw [hop]; exact fun p hp => h.sz p ((List.dropLast_sublist _).subset hp)
  ·rw [hop]; exact h.ch.sublist (List.dropLast_sublist _)
  ·show (bp (rR s)).B.size ≤ s.st.size
   have hg1:=jO (s:=rR s) (k:=r.length) hdl;have hg2:=jO (s:=s) (k:=r.length + 1) hlen;rw [hop,List.getElem?_dropLast,if_pos ae,ba ae] at hg1;rw [ba ae] at hg2
   simp only [Option.some.injEq] at hg1 hg2
   have:=List.pairwise_iff_getElem.1 h.ch r.length (r.length + 1) ae ae ae
   rw [hg1,hg2] at this;omega
 have hsame : stk O (j + 1) = stk O j:=iQ hO (by rw [hc]; exact c6)
 by_cases c5 : c = 5
 ·have eS : rwS m lo s (bp s) c a = Dz s (bp s):=by unfold rwS; rw [if_neg c23,if_neg c4,if_pos c5]
  rw [eS];refine h.keepOp hsame rfl ?_ ?_ h.hi h.sh
  ·show _ ≤ ((bp s).B ++ (bp s).P).size
   rw [ByteArray.size_append]; omega
  ·show ((bp s).B ++ (bp s).P).size ≤ 256
   rw [ByteArray.size_append]; omega
 have hleave : bV (bp s).B (bp s).R = 0 → Iv3 O n (j + 1) (dQ s (bp s)):=by
  intro hp;obtain ⟨e1,e2⟩:=Cw hp;have hs' : (dQ s (bp s)).st = (bp s).B ++ (bp s).R:=e1;exact Am
 have htake : ∀ t : ByteArray,bI s (bp s) t = 0 → (bp s).B.size ≤ (cB s t).st.size ∧ (cB s t).st.size ≤ 256:=by
  intro t ht
  have:=E9 ht
  have e : (cB s t).st.size = s.st.size - t.size:=by
   show (s.st.extract 0 (s.st.size - t.size)).size = _
   simp
  omega
 by_cases c7 : c = 7
 ·have eS : rwS m lo s (bp s) c a = dQ s (bp s):=by unfold rwS; rw [if_neg c23,if_neg c4,if_neg c5,if_neg c6,if_pos (.inl c7)]
  have eE : rwE m lo el s (bp s) c a l = orE (eF s a) (orE (bI s (bp s) (brg (dE s a))) (bV (bp s).B (bp s).R)):=by unfold rwE; rw [if_neg c23,if_neg c4,if_neg c5,if_neg c6,if_pos c7]
  rw [eS];rw [eE] at he;exact hleave (bA (bA he).2).2
 by_cases c8 : c = 8
 ·have eS : rwS m lo s (bp s) c a = cB s wT:=by unfold rwS; rw [if_neg c23,if_neg c4,if_neg c5,if_neg c6,if_neg ae,if_pos c8]
  have eE : rwE m lo el s (bp s) c a l = orE (eF s a) (orE (bI s (bp s) (brg (dE s a) ++ wT)) (bI s (bp s) wT)):=by unfold rwE; rw [if_neg c23,if_neg c4,if_neg c5,if_neg c6,if_neg c7,if_pos c8]
  rw [eS];rw [eE] at he
  have:=htake wT (bA (bA he).2).2
  exact h.keepOp hsame rfl this.1 this.2 h.hi h.sh
 by_cases c9 : c = 9
 ·have eS : rwS m lo s (bp s) c a = dQ s (bp s):=by unfold rwS; rw [if_neg c23,if_neg c4,if_neg c5,if_neg c6,if_pos (.inr (.inl c9))]
  have eE : rwE m lo el s (bp s) c a l = orE (ku s l) (orE (bI s (bp s) (brg (dE s (l.getD 0 0)) ++ wT)) (bV (bp s).B (bp s).R)):=by unfold rwE; rw [if_neg c23,if_neg c4,if_neg c5,if_neg c6,if_neg c7,if_neg c8,if_pos c9]
  rw [eS];rw [eE] at he;exact hleave (bA (bA he).2).2
 by_cases c10 : c = 10
 ·have eS : rwS m lo s (bp s) c a = dQ s (bp s):=by unfold rwS; rw [if_neg c23,if_neg c4,if_neg c5,if_neg c6,if_pos (.inr (.inr (.inl c10)))]
  have eE : rwE m lo el s (bp s) c a l = orE (bI s (bp s) (brg (Bv s))) (bV (bp s).B (bp s).R):=by unfold rwE; rw [if_neg c23,if_neg c4,if_neg c5,if_neg c6,if_neg c7,if_neg c8,if_neg c9,if_pos c10]
  rw [eS];rw [eE] at he;exact hleave (bA he).2
 by_cases c0 : c = 0
 ·have eS : rwS m lo s (bp s) c a = dQ s (bp s):=by unfold rwS; rw [if_neg c23,if_neg c4,if_neg c5,if_neg c6,if_pos (.inr (.inr (.inr c0)))]
  have eE : rwE m lo el s (bp s) c a l = bV (bp s).B (bp s).R:=by unfold rwE; rw [if_neg c23,if_neg c4,if_neg c5,if_neg c6,if_neg c7,if_neg c8,if_neg c9,if_neg c10,if_pos c0]
  rw [eS];rw [eE] at he;exact hleave he
 have eS : rwS m lo s (bp s) c a = tP (cB s (efV m lo s (bp s) c a).1) (efV m lo s (bp s) c a).2:=by
  unfold rwS; rw [if_neg c23,if_neg c4,if_neg c5,if_neg c6,if_neg ae,if_neg c8]
 have eE : rwE m lo el s (bp s) c a l = orE (efE m lo s (bp s) c a) (orE (bI s (bp s) (efV m lo s (bp s) c a).1) (bV (cB s (efV m lo s (bp s) c a).1).st (efV m lo s (bp s) c a).2)):=by
  unfold rwE; rw [if_neg c23,if_neg c4,if_neg c5,if_neg c6,if_neg c7,if_neg c8,if_neg c9,if_neg c10,if_neg c0]
 rw [eS];rw [eE] at he;obtain ⟨e1,e2⟩:=bA (bA he).2;have ht:=htake _ e1;obtain ⟨p1,p2⟩:=Cw e2;have hs' : (tP (cB s (efV m lo s (bp s) c a).1) (efV m lo s (bp s) c a).2).st = (cB s (efV m lo s (bp s) c a).1).st ++ (efV m lo s (bp s) c a).2:=p1;exact Am
theorem Iv3.wk {O : Nat → Int} {n j : Nat} {s : Cs} {v : Ev} (h : Iv3 O n j s) (hn : v.n = n) (hnn : n ≤ 1000000) (hpc : s.pc = j) (hj : j < n) (hd : (stk O j).length ≤ 32) : Wk v s (stk O j).length (bp s):=by
 have hmem:=vd h.len;have hsz:=h.sz _ hmem;have hst:=h.st
 refine ⟨⟨h.len,ae,jO h.len,h.last,ae⟩,ae,ae,ae,ae,fun p hp => ⟨(h.sz p hp).1,(h.sz p hp).2.1⟩,?_⟩
 obtain ⟨q,hq,hqn⟩:=hsz.2.2.2;exact ⟨q,hq,ae⟩
end
theorem xO {w wr : World} {B n k : Nat} (hlt : k < n) (h : RI wr B n (fun i => if i < k then -1 else 0)) (hb : Below w.heap.size w wr) (hB : w.heap.size ≤ B) :
  RI (wr.setCell ⟨B,k,none⟩ (.int .i64 (-1))) B n (fun i => if i < k + 1 then -1 else 0) ∧ Below w.heap.size w (wr.setCell ⟨B,k,none⟩ (.int .i64 (-1))):=by
 refine ⟨(h.put k (-1) (fun i hi => ?_)).1,hb.setCell (by simpa using hB) _⟩
 split <;> split <;> (try split) <;> omega
theorem blank (n : Nat) (w : World) (hn : n ≤ 1048576) :
  Calls Tryz.prog 80 #[.int .i64 n] w fun e w' => ∃ B,e = .returned (.slice (some ⟨B,0,none⟩) n n) ∧ w.heap.size ≤ B ∧ RI w' B n (fun _ => -1) ∧ Below w.heap.size w w':=by
 obtain ⟨i0,hi,hz0,hz1,hz2⟩:=info_parts Tryz.infInts;have hb2 : i0.bytes * n ≤ 281474976710656:=uy;have hml : n ≤ maxLen:=cH
 go_enter Tryz.func80,Tryz.ntmps80
 go_wp2_with (first | (at_make; refine wpList_make_full _ rfl _ _ 23 rfl w.heap.size 3 i0 (.int .i64 0) 1 Tryz.underlying23 hi hz0 hz1 .i64 .i64 _ _ n rfl rfl ae ae hb2 hml (Nat.le_refl _) ?_; intro w1 hown hgrow))
 have hown0 : RI w1 w.heap.size n (fun i => if i < 0 then -1 else 0):=by
  have e : (madeCells (Value.int .i64 0).cells (n * 1)).toList = fl n (fun i => if i < 0 then -1 else 0):=by
   rw [Nat.mul_one]; refine (toList_madeCells_one _ _).trans ?_
   exact IQ
  unfold RI
  rw [← e]; exact Row.of hown
 have hbel : Below w.heap.size w w1:=(Below.refl _ _).grown hgrow (Nat.le_refl _) au;clear hown hgrow hi hz0 hz1 hz2 hb2 hml
 go_loopw [9] (fun i wr => ∃ k : Nat,k ≤ n ∧ i = .int .i64 k ∧ RI wr w.heap.size n (fun i => if i < k then -1 else 0) ∧ Below w.heap.size w wr) (fun i _ => n - (intOf i).toNat)
 case atStart => exact ⟨0,ae,rfl,hown0,hbel⟩
 case round =>
  obtain ⟨k,hk,rfl,hown,hb⟩:=hrel;clear hown0 hbel
  by_cases hlt : k < n
  ·have hst:=xO hlt hown hb (Nat.le_refl _);have hcl:=hown.cell k hlt;have hfz:=hown.free k;have HS:=hid hst;clear hst hb hown;go_wp2;have R:=HS.out;exact ⟨⟨k + 1,ae,bU,R.1,R.2⟩,cC⟩
  ·obtain rfl : k = n:=ae;have HB:=hid hb;have HO:=hid hown;clear hb hown;go_wp2;go_ret
   exact ⟨_,rfl,Nat.le_refl _,HO.out.congr (fun i hi => by simp [hi]),HB.out⟩
def mf (A B C n : Nat) : Value:=.agg #[.slice (some ⟨A,0,none⟩) n n,.slice (some ⟨B,0,none⟩) n n,.slice (some ⟨C,0,none⟩) n n]
theorem Oz (A B C n t pc : Nat) (en el : Nat → Int) (w : World) (hn : n ≤ 1048576) (ht : t < n) (hAB : A ≠ B) (hA : RI w A n en) (hB : RI w B n el) (hel : el t = -1 ∨ ∃ j : Nat,el t = j ∧ j < n) :
  Calls Tryz.prog 107 #[mf A B C n,.int .i64 t,.int .i64 pc] w fun e w' => e = .returned (.tuple #[]) ∧ RI w' A n (fun i => if i = t ∨ (i : Int) = el t then (pc : Int) else en i) ∧ Kept (fun k => k = A) w w':=by
 unfold mf;have hAl:=hA.lt;have hBl:=hB.lt;obtain ⟨o,ho⟩ : ∃ o,o = Obj.cells #[Value.slice (some ⟨A,0,none⟩) n n,.slice (some ⟨B,0,none⟩) n n,.slice (some ⟨C,0,none⟩) n n] 152:=⟨_,rfl⟩
 have k0:=Kept.alloc (fun k => k = A) w o
 have hA1:=hA.kept (Kept.alloc (fun _ => False) w o) (fun x => x)
 have hB1:=hB.kept (Kept.alloc (fun _ => False) w o) (fun x => x)
 have hAn : ¬ A = w.heap.size:=ae;have hBn : ¬ B = w.heap.size:=ae;have g1 : (w.alloc o).cell? ⟨A,t,none⟩ = some (.int .i64 (en t)):=hA1.cell t ht;have g2 : (w.alloc o).frozen? ⟨A,t,none⟩ = false:=hA1.free t
 have P1:=hA1.put (g:=fun i => if i = t then (pc : Int) else en i) t pc (fun i hi => rfl)
 have g3 : ((w.alloc o).setCell ⟨A,t,none⟩ (.int .i64 pc)).cell? ⟨B,t,none⟩ = some (.int .i64 (el t)):=(hB1.kept P1.2 (fun x => hAB x.symm)).cell t ht
 have hp0 : (w.alloc o).cell? ⟨w.heap.size,0,none⟩ = some (.slice (some ⟨A,0,none⟩) n n):=pH;have hp1 : (w.alloc o).cell? ⟨w.heap.size,1,none⟩ = some (.slice (some ⟨B,0,none⟩) n n):=pH
 have g4 : ((w.alloc o).setCell ⟨A,t,none⟩ (.int .i64 pc)).cell? ⟨w.heap.size,0,none⟩ = some (.slice (some ⟨A,0,none⟩) n n):=P1.2.cell hp0 (fun x => hAn x.symm)
 have g5 : ((w.alloc o).setCell ⟨A,t,none⟩ (.int .i64 pc)).cell? ⟨w.heap.size,1,none⟩ = some (.slice (some ⟨B,0,none⟩) n n):=P1.2.cell hp1 (fun x => hAn x.symm)
 have HP:=hid P1;have HK:=hid k0
 rcases hel with hel | ⟨j,hel,hj⟩
 ·rw [hel] at g3;have HE:=hid hel;subst ho;clear hA1 hB1 hp0 hp1 hA hB P1 k0 hel hAB hAl hBl hAn hBn
  go_enter Tryz.func107,Tryz.ntmps107
  go_wp2_with fail;go_end0
  refine ⟨rfl,HP.out.1.congr (fun i hi => ?_),HK.out.trans HP.out.2⟩
  rw [HE.out];have : ¬ (i : Int) = -1:=ae
  simp [this]
 ·rw [hel] at g3;have HE:=hid hel
  have P2:=HP.out.1.put (g:=fun i => if i = t ∨ (i : Int) = el t then (pc : Int) else en i) j pc (fun i hi => by
   rw [hel]
   by_cases e : i = j
   ·subst e; simp
   ·have : ¬ (i : Int) = (j : Int):=ae
    simp [e,this])
  have g6:=HP.out.1.cell j hj;have g7:=HP.out.1.free j;have HP2:=hid P2;have hjb : ((j : Int) == -1) = false:=au;have hjn : ((j : Int) != -1) = true:=au;subst ho;clear hA1 hB1 hp0 hp1 hA hB P1 P2 k0 hel hAB hAl hBl hAn hBn
  go_enter Tryz.func107,Tryz.ntmps107
  go_wp2_with fail;go_end0;exact ⟨rfl,HP2.out.1,(HK.out.trans HP.out.2).trans HP2.out.2⟩
end Go.Proofs.YtkdldbfbldkkcaaGreatDoor

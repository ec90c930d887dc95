/-
  Texts Vu Ja Pure Blank.
-/
import Derived.WalkKit
import Derived.Test.YtepnnenohjfkbaaGreatDoorP00
import Derived.Test.YtepnnenohjfkbaaGreatDoorP14
set_option linter.unusedVariables false
set_option maxRecDepth 100000
set_option maxHeartbeats 16000000
namespace Go.Proofs.YtepnnenohjfkbaaGreatDoor
open Go.RowKit
def bE (m : MM) (i : Int) : Sg:=m.types.getD i.toNat (⟨#[]⟩,⟨#[]⟩)
def uq (m : MM) (i : Int) : Int:=((m.fns[i.toNat]?).map (fun f => f.1)).getD 0
def glC (m : MM) (i : Int) : Int:=((m.globals[i.toNat]?).map (fun g => g.1)).getD 0
def glM (m : MM) (i : Int) : Bool:=((m.globals[i.toNat]?).map (fun g => g.2.1)).getD false
def efE (m : MM) (lo : List Int) (s : Cs) (o : Opn) (c a : Int) : Int :=
 if c = 11 then bo m.fn a
 else if c = 12 then bo m.hn a
 else if c = 16 then Q0 s o 0
 else if c = 17 then Q0 s o 1
 else if c = 18 ∨ c = 19 ∨ c = 20 then bo lo.length a
 else if c = 21 ∨ c = 22 then orE (bo m.gn a) (if c = 21 ∨ glM m a = true then 0 else 39)
 else 0
def efV (m : MM) (lo : List Int) (s : Cs) (o : Opn) (c a : Int) : Sg :=
 if c = 11 then bE m (uq m a)
 else if c = 12 then bE m (m.hosts.getD a.toNat 0)
 else if c = 16 then (MS s o 0,⟨#[]⟩)
 else if c = 17 then (MS s o 1 ++ MS s o 1 ++ ⟨#[119]⟩,MS s o 1)
 else if c = 18 ∨ c = 19 ∨ c = 20 then (na c (ltr (lo.getD a.toNat 0)),kE c (ltr (lo.getD a.toNat 0)))
 else if c = 21 ∨ c = 22 then (na c (ltr (glC m a)),kE c (ltr (glC m a)))
 else ((ofV c).1.2.2.2.1,(ofV c).1.2.2.2.2.1)
theorem dw (n : Nat) (a : Int) : (bo n a = 30 ∧ (a < 0 ∨ (n : Int) ≤ a)) ∨ (bo n a = 0 ∧ ∃ q : Nat,a = q ∧ q < n):=by
 unfold bo
 by_cases h : a < 0 ∨ (n : Int) ≤ a
 ·exact .inl ⟨if_pos h,h⟩
 ·exact .inr ⟨if_neg h,a.toNat,ae,ae⟩
section
variable {v : Ev} {w1 w : World} {s : Cs} {m : MM} {lo : List Int}
theorem gY {α : Type} {l : List α} {q : Nat} {d x : α} (h : l[q]? = some x) : l.getD q d = x:=by rw [List.getD_eq_getElem?_getD,h]; rfl
end
variable {w : World}
theorem wG {b off n cap q : Nat} {P R : ByteArray} (hq : q < n) (hn : n ≤ 1099511627776) (h0 : w.cell? ⟨b,off + q * 2,none⟩ = some (.string P)) (h1 : w.cell? ⟨b,off + q * 2 + 1,none⟩ = some (.string R)) :
  Calls Tryz.prog 261 #[.slice (some ⟨b,off,none⟩) n cap,.int .i64 q] w fun e w' => e = .returned (.tuple #[.agg #[.string P,.string R],.bool true]) ∧ Below w.heap.size w w':=by
 have g0 : decide ((q : Int) < 0) = false:=ak;have g1 : (q : Int) < (n : Int):=ae;have g2 : decide ((n : Int) ≤ (q : Int)) = false:=aG;have BN:=aj w (aB ⟨#[]⟩ ⟨#[]⟩);have z0:=ag BN h0;have z1:=ag BN h1;clear BN h0 h1
 go_enter Tryz.func261,Tryz.ntmps261
 go_wp2_with fail;refine bodyPost_ret (v:=.tuple #[.agg #[.string P,.string R],.bool true]) ?_ rfl ⟨rfl,aj _ _⟩;exact cZ
theorem xz {a : Option Addr} {n cap : Nat} {z : Int} (hz : z < 0 ∨ (n : Int) ≤ z) (hn : n ≤ 1099511627776) :
  Calls Tryz.prog 261 #[.slice a n cap,.int .i64 z] w fun e w' => e = .returned (.tuple #[.agg #[.string ⟨#[]⟩,.string ⟨#[]⟩],.bool false]) ∧ Below w.heap.size w w':=by
 have BN : Below w.heap.size w ((w.alloc (aB ⟨#[]⟩ ⟨#[]⟩)).alloc (aB ⟨#[]⟩ ⟨#[]⟩)):=(aj _ _).trans ((aj _ _).mono (aj _ _).size)
 by_cases g0 : z < 0
 ·have g1 : decide (z < 0) = true:=gh;exact Im
 ·have g1 : decide (z < 0) = false:=gh;have g2 : decide ((n : Int) ≤ z) = true:=aG;exact Im
theorem vS {b off n cap q : Nat} {ty : Int} {lo : ByteArray} {ca : Option Addr} {cn cc : Nat} (hq : q < n) (hn : n ≤ 1099511627776) (h0 : w.cell? ⟨b,off + q * 3,none⟩ = some (.int .i64 ty)) (h1 : w.cell? ⟨b,off + q * 3 + 1,none⟩ = some (.string lo)) (h2 : w.cell? ⟨b,off + q * 3 + 2,none⟩ = some (.slice ca cn cc)) :
  Calls Tryz.prog 255 #[.slice (some ⟨b,off,none⟩) n cap,.int .i64 q] w fun e w' => e = .returned (.tuple #[.agg #[.int .i64 ty,.string lo,.slice ca cn cc],.bool true]) ∧ Below w.heap.size w w':=by
 have g0 : decide ((q : Int) < 0) = false:=ak;have g1 : (q : Int) < (n : Int):=ae;have g2 : decide ((n : Int) ≤ (q : Int)) = false:=aG;have BN:=aj w (aI 0 ⟨#[]⟩ none 0 0);have z0:=ag BN h0;have z1:=ag BN h1;have z2:=ag BN h2;clear BN h0 h1 h2
 go_enter Tryz.func255,Tryz.ntmps255
 go_wp2_with fail;refine bodyPost_ret (v:=.tuple #[.agg #[.int .i64 ty,.string lo,.slice ca cn cc],.bool true]) ?_ rfl ⟨rfl,aj _ _⟩;exact cZ
theorem xX {a : Option Addr} {n cap : Nat} {z : Int} (hz : z < 0 ∨ (n : Int) ≤ z) (hn : n ≤ 1099511627776) :
  Calls Tryz.prog 255 #[.slice a n cap,.int .i64 z] w fun e w' => e = .returned (.tuple #[.agg #[.int .i64 0,.string ⟨#[]⟩,.slice none 0 0],.bool false]) ∧ Below w.heap.size w w':=by
 have BN : Below w.heap.size w ((w.alloc (aI 0 ⟨#[]⟩ none 0 0)).alloc (aI 0 ⟨#[]⟩ none 0 0)):=(aj _ _).trans ((aj _ _).mono (aj _ _).size)
 by_cases g0 : z < 0
 ·have g1 : decide (z < 0) = true:=gh;exact Hn
 ·have g1 : decide (z < 0) = false:=gh;have g2 : decide ((n : Int) ≤ z) = true:=aG;exact Hn
theorem vD {b off n cap q : Nat} {c va : Int} {mu : Bool} (hq : q < n) (hn : n ≤ 1099511627776) (h0 : w.cell? ⟨b,off + q * 3,none⟩ = some (.int .u8 c)) (h1 : w.cell? ⟨b,off + q * 3 + 1,none⟩ = some (.bool mu)) (h2 : w.cell? ⟨b,off + q * 3 + 2,none⟩ = some (.int .u64 va)) :
  Calls Tryz.prog 260 #[.slice (some ⟨b,off,none⟩) n cap,.int .i64 q] w fun e w' => e = .returned (.tuple #[.agg #[.int .u8 c,.bool mu,.int .u64 va],.bool true]) ∧ Below w.heap.size w w':=by
 have g0 : decide ((q : Int) < 0) = false:=ak;have g1 : (q : Int) < (n : Int):=ae;have g2 : decide ((n : Int) ≤ (q : Int)) = false:=aG;have BN:=aj w (bC 0 false 0);have z0:=ag BN h0;have z1:=ag BN h1;have z2:=ag BN h2;clear BN h0 h1 h2
 go_enter Tryz.func260,Tryz.ntmps260
 go_wp2_with fail;refine bodyPost_ret (v:=.tuple #[.agg #[.int .u8 c,.bool mu,.int .u64 va],.bool true]) ?_ rfl ⟨rfl,aj _ _⟩;exact cZ
theorem xo {a : Option Addr} {n cap : Nat} {z : Int} (hz : z < 0 ∨ (n : Int) ≤ z) (hn : n ≤ 1099511627776) :
  Calls Tryz.prog 260 #[.slice a n cap,.int .i64 z] w fun e w' => e = .returned (.tuple #[.agg #[.int .u8 0,.bool false,.int .u64 0],.bool false]) ∧ Below w.heap.size w w':=by
 have BN : Below w.heap.size w ((w.alloc (bC 0 false 0)).alloc (bC 0 false 0)):=(aj _ _).trans ((aj _ _).mono (aj _ _).size)
 by_cases g0 : z < 0
 ·have g1 : decide (z < 0) = true:=gh;exact Gz
 ·have g1 : decide (z < 0) = false:=gh;have g2 : decide ((n : Int) ≤ z) = true:=aG;exact Gz
theorem tD {b off n cap q : Nat} {x : Int} (hq : q < n) (hn : n ≤ 1099511627776) (h0 : w.cell? ⟨b,off + q,none⟩ = some (.int .i64 x)) :
  Calls Tryz.prog 257 #[.slice (some ⟨b,off,none⟩) n cap,.int .i64 q] w fun e w' => e = .returned (.tuple #[.int .i64 x,.bool true]) ∧ w' = w:=by
 have g0 : decide ((q : Int) < 0) = false:=ak;have g1 : (q : Int) < (n : Int):=ae;have g2 : decide ((n : Int) ≤ (q : Int)) = false:=aG;exact uW
theorem xM {a : Option Addr} {n cap : Nat} {z : Int} (hz : z < 0 ∨ (n : Int) ≤ z) (hn : n ≤ 1099511627776) :
  Calls Tryz.prog 257 #[.slice a n cap,.int .i64 z] w fun e w' => e = .returned (.tuple #[.int .i64 0,.bool false]) ∧ w' = w:=by
 by_cases g0 : z < 0
 ·have g1 : decide (z < 0) = true:=gh;exact uW
 ·have g1 : decide (z < 0) = false:=gh;have g2 : decide ((n : Int) ≤ z) = true:=aG;exact uW
theorem wA {b off n cap q : Nat} {x : Int} (hq : q < n) (hn : n ≤ 1099511627776) (h0 : w.cell? ⟨b,off + q,none⟩ = some (.int .u8 x)) :
  Calls Tryz.prog 258 #[.slice (some ⟨b,off,none⟩) n cap,.int .i64 q] w fun e w' => e = .returned (.tuple #[.int .u8 x,.bool true]) ∧ w' = w:=by
 have g0 : decide ((q : Int) < 0) = false:=ak;have g1 : (q : Int) < (n : Int):=ae;have g2 : decide ((n : Int) ≤ (q : Int)) = false:=aG;exact uG
theorem yx {a : Option Addr} {n cap : Nat} {z : Int} (hz : z < 0 ∨ (n : Int) ≤ z) (hn : n ≤ 1099511627776) :
  Calls Tryz.prog 258 #[.slice a n cap,.int .i64 z] w fun e w' => e = .returned (.tuple #[.int .u8 0,.bool false]) ∧ w' = w:=by
 by_cases g0 : z < 0
 ·have g1 : decide (z < 0) = true:=gh;exact uG
 ·have g1 : decide (z < 0) = false:=gh;have g2 : decide ((n : Int) ≤ z) = true:=aG;exact uG
def isO (c : Int) : Bool:=decide (c = 2) || decide (c = 3) || decide (c = 4)
theorem cD {c : Int} : isO c = true ↔ c = 2 ∨ c = 3 ∨ c = 4:=by simp [isO,or_assoc]
theorem gV {c : Int} (h : isO c = true) : c ≠ 5 ∧ c ≠ 6:=by rw [cD] at h; omega
theorem mR {c : Int} (h : isO c = false) : c ≠ 2 ∧ c ≠ 3 ∧ c ≠ 4:=by
 have : ¬ (c = 2 ∨ c = 3 ∨ c = 4):=fun x => by rw [cD.2 x] at h; cases h
 omega
def stk (O : Nat → Int) : Nat → List Nat
 | 0 => []
 | k + 1 => if isO (O k) = true then k :: stk O k else if O k = 6 then (stk O k).tail else stk O k
def top : List Nat → Int
 | [] => -1
 | t :: _ => t
def elF (O : Nat → Int) : Nat → Nat → Int
 | 0,_ => -1
 | k + 1,i => match stk O k with
  | [] => elF O k i
  | t :: _ => if O k = 5 ∧ i = t then k else elF O k i
def enF (O : Nat → Int) : Nat → Nat → Int
 | 0,_ => -1
 | k + 1,i => match stk O k with
  | [] => enF O k i
  | t :: _ => if O k = 6 ∧ (i = t ∨ (i : Int) = elF O k t) then k else enF O k i
def owF (O : Nat → Int) (k i : Nat) : Int:=if i < k then top (stk O i) else -1
def er (O : Nat → Int) (pc : Nat) : Int :=
 if isO (O pc) = true then (if (stk O pc).length = 32 then 35 else 0)
 else if O pc = 5 then (match stk O pc with
  | [] => 37
  | t :: _ => if O t = 4 ∧ elF O pc t = -1 then 0 else 37)
 else 0
def res (O : Nat → Int) : Nat → Nat → Int × Int
 | 0,pc => (38,pc)
 | f + 1,pc => if er O pc ≠ 0 then (er O pc,pc) else if O pc = 6 ∧ stk O pc = [] then (if f = 0 then (0,0) else (19,pc + 1)) else res O f (pc + 1)
def Okp (O : Nat → Int) (k : Nat) : Prop:=∀ i,i < k → er O i = 0 ∧ ¬ (O i = 6 ∧ stk O i = [])
def Good (O : Nat → Int) (n : Nat) : Prop:=0 < n ∧ Okp O (n - 1) ∧ er O (n - 1) = 0 ∧ O (n - 1) = 6 ∧ stk O (n - 1) = []
theorem CE {O : Nat → Int} {n : Nat} : ∀ (f pc : Nat),pc + f = n → Okp O pc → (res O f pc).1 = 0 → Good O n
 | 0,pc,_,_,h => by simp [res] at h
 | f + 1,pc,hn,hk,h => by
  unfold res at h
  by_cases h1 : er O pc ≠ 0
  ·rw [if_pos h1] at h; exact absurd h h1
  ·rw [if_neg h1] at h;have h1' : er O pc = 0:=ae
   by_cases h2 : O pc = 6 ∧ stk O pc = []
   ·rw [if_pos h2] at h
    by_cases h3 : f = 0
    ·obtain rfl : pc = n - 1:=ae;exact ⟨ae,hk,h1',h2.1,h2.2⟩
    ·rw [if_neg h3] at h; simp at h
   ·rw [if_neg h2] at h
    refine CE f (pc + 1) ae (fun i hi => ?_) h
    by_cases e : i = pc
    ·subst e; exact ⟨h1',h2⟩
    ·exact hk i ae
theorem ku {O : Nat → Int} {n : Nat} (h : (res O n 0).1 = 0) : Good O n:=CE n 0 ae (fun i hi => absurd hi ae) h
theorem iX {O : Nat → Int} {n pc : Nat} (hlt : pc < n) (he : er O pc = 0) (h6 : ¬ (O pc = 6 ∧ stk O pc = [])) : res O (n - pc) pc = res O (n - (pc + 1)) (pc + 1):=by
 obtain ⟨f,hf⟩ : ∃ f,n - pc = f + 1:=⟨n - pc - 1,ae⟩
 rw [hf,show n - (pc + 1) = f by omega]
 conv => lhs; unfold res
 rw [if_neg ae,if_neg h6]
theorem Ep {O : Nat → Int} {n pc : Nat} (hlt : pc < n) (he : er O pc ≠ 0) : res O (n - pc) pc = (er O pc,(pc : Int)):=by
 obtain ⟨f,hf⟩ : ∃ f,n - pc = f + 1:=⟨n - pc - 1,ae⟩
 rw [hf]; unfold res; rw [if_pos he]
theorem qb {O : Nat → Int} {n pc : Nat} (hlt : pc < n) (he : er O pc = 0) (h6 : O pc = 6 ∧ stk O pc = []) : res O (n - pc) pc = if pc + 1 = n then ((0,0) : Int × Int) else (19,(pc : Int) + 1):=by
 obtain ⟨f,hf⟩ : ∃ f,n - pc = f + 1:=⟨n - pc - 1,ae⟩
 rw [hf]; unfold res; rw [if_neg ae,if_pos h6]
 by_cases h : f = 0
 ·rw [if_pos h,if_pos ae]
 ·rw [if_neg h,if_neg ae]
theorem sA {O : Nat → Int} {n : Nat} (h : Good O n) : res O n 0 = (0,0):=by
 obtain ⟨h0,h1,h2,h3,h4⟩:=h
 have : ∀ pc,pc ≤ n - 1 → res O (n - pc) pc = res O n 0:=by
  intro pc
  induction pc with
  | zero => intro _; rfl
  | succ k ih =>
   intro hk;rw [← ih ae];exact (iX ae (h1 k ae).1 (h1 k ae).2).symm
 rw [← this (n - 1) (Nat.le_refl _),qb ae h2 ⟨h3,h4⟩,if_pos ae]
theorem cQ (O : Nat → Int) : ∀ (i : Nat),stk O i = [] ∨ ∃ t,t < i ∧ isO (O t) = true ∧ stk O i = t :: stk O t:=by
 intro i
 induction i using Nat.strongRecOn with
 | _ i ih =>
  cases i with
  | zero => exact .inl rfl
  | succ k =>
   have hk : stk O (k + 1) = if isO (O k) = true then k :: stk O k else if O k = 6 then (stk O k).tail else stk O k:=rfl;rw [hk]
   by_cases h1 : isO (O k) = true
   ·rw [if_pos h1]; exact .inr ⟨k,ae,h1,rfl⟩
   ·rw [if_neg h1]
    by_cases h2 : O k = 6
    ·rw [if_pos h2]
     rcases ih k ae with h | ⟨t,ht,hO,h⟩
     ·rw [h]; exact .inl rfl
     ·rw [h]
      simp only [List.tail_cons]
      rcases ih t ae with h' | ⟨u,hu,hO',h'⟩
      ·exact .inl h'
      ·exact .inr ⟨u,ae,hO',h'⟩
    ·rw [if_neg h2]
     rcases ih k ae with h | ⟨t,ht,hO,h⟩
     ·exact .inl h
     ·exact .inr ⟨t,ae,hO,h⟩
theorem nE (O : Nat → Int) : ∀ (i t : Nat),t ∈ stk O i → t < i ∧ isO (O t) = true:=by
 intro i
 induction i using Nat.strongRecOn with
 | _ i ih =>
  intro t ht
  rcases cQ O i with h | ⟨u,hu,hO,h⟩
  ·rw [h] at ht; cases ht
  ·rw [h] at ht
   rcases List.mem_cons.1 ht with rfl | ht
   ·exact ⟨hu,hO⟩
   ·have:=ih u hu t ht
    exact ⟨ae,this.2⟩
theorem kq {O : Nat → Int} {k : Nat} (h : isO (O k) = true) : stk O (k + 1) = k :: stk O k:=by conv => lhs; unfold stk; rw [if_pos h]
theorem pN {O : Nat → Int} {k : Nat} (h : O k = 6) : stk O (k + 1) = (stk O k).tail:=by
 conv => lhs; unfold stk
 rw [if_neg (fun x => (gV x).2 h),if_pos h]
theorem iw {O : Nat → Int} {k : Nat} (h : isO (O k) = false) (h6 : O k ≠ 6) : stk O (k + 1) = stk O k:=by
 conv => lhs; unfold stk
 rw [if_neg (by simp [h]),if_neg h6]
theorem jn {O : Nat → Int} : ∀ {k : Nat},Okp O k → (stk O k).length ≤ 32
 | 0,_ => by simp [stk]
 | k + 1,h => by
  have ih:=jn (k:=k) (fun i hi => h i ae)
  have he:=(h k ae).1
  by_cases h1 : isO (O k) = true
  ·rw [kq h1];unfold er at he;rw [if_pos h1] at he
   by_cases h2 : (stk O k).length = 32
   ·rw [if_pos h2] at he; cases he
   ·simp only [List.length_cons]; omega
  ·by_cases h2 : O k = 6
   ·rw [pN h2,List.length_tail]; omega
   ·rw [iw lW h2]; exact ih
theorem fF {O : Nat → Int} {k i : Nat} (h : O k ≠ 5) : elF O (k + 1) i = elF O k i:=by
 conv => lhs; unfold elF
 split
 ·rfl
 ·rw [if_neg (fun x => h x.1)]
theorem rI {O : Nat → Int} {k t : Nat} {r : List Nat} (h : O k = 5) (hs : stk O k = t :: r) (i : Nat) : elF O (k + 1) i = if i = t then (k : Int) else elF O k i:=by
 conv => lhs; unfold elF
 rw [hs]
 simp [h]
theorem qg {O : Nat → Int} {k : Nat} (hs : stk O k = []) (i : Nat) : elF O (k + 1) i = elF O k i:=by
 conv => lhs; unfold elF
 rw [hs]
theorem fp {O : Nat → Int} {k i : Nat} (h : O k ≠ 6) : enF O (k + 1) i = enF O k i:=by
 conv => lhs; unfold enF
 split
 ·rfl
 ·rw [if_neg (fun x => h x.1)]
theorem pK {O : Nat → Int} {k t : Nat} {r : List Nat} (h : O k = 6) (hs : stk O k = t :: r) (i : Nat) : enF O (k + 1) i = if i = t ∨ (i : Int) = elF O k t then (k : Int) else enF O k i:=by
 conv => lhs; unfold enF
 rw [hs]
 simp [h]
theorem qV {O : Nat → Int} {k : Nat} (hs : stk O k = []) (i : Nat) : enF O (k + 1) i = enF O k i:=by
 conv => lhs; unfold enF
 rw [hs]
theorem yu (O : Nat → Int) (k i : Nat) : owF O (k + 1) i = if i = k then top (stk O k) else owF O k i:=by
 unfold owF
 by_cases h : i = k
 ·subst h; rw [if_pos rfl,if_pos ae]
 ·rw [if_neg h]
  by_cases h2 : i < k
  ·rw [if_pos h2,if_pos ae]
  ·rw [if_neg h2,if_neg ae]
structure Iv (O : Nat → Int) (k : Nat) : Prop where
 opn : ∀ t,t < k → isO (O t) = true → (t ∈ stk O k ∧ enF O k t = -1) ∨ (t ∉ stk O k ∧ ∃ j : Nat,enF O k t = j ∧ t < j ∧ j < k ∧ O j = 6 ∧ stk O j = t :: stk O t ∧ elF O k t < j)
 els : ∀ t,elF O k t = -1 ∨ ∃ j : Nat,elF O k t = j ∧ t < j ∧ j < k ∧ O t = 4 ∧ O j = 5 ∧ stk O j = t :: stk O t ∧ enF O k j = enF O k t
 elp : ∀ j,j < k → O j = 5 → ∃ t,t < j ∧ elF O k t = j
 oth : ∀ i,isO (O i) = false → O i ≠ 5 → enF O k i = -1
 fut : ∀ i,k ≤ i → enF O k i = -1 ∧ elF O k i = -1
 nest : ∀ t u : Nat,t < u → isO (O t) = true → isO (O u) = true → (u : Int) < enF O k t → u < k ∧ u ∉ stk O k ∧ enF O k u < enF O k t
 ended : ∀ j : Nat,j < k → O j = 6 → ∃ t,t < j ∧ isO (O t) = true ∧ enF O k t = j
theorem Mn {O : Nat → Int} {k : Nat} (h5 : O k = 5) (he : er O k = 0) : ∃ t,stk O k = t :: stk O t ∧ t < k ∧ O t = 4 ∧ elF O k t = -1:=by
 unfold er at he
 rw [if_neg (fun x => (gV x).1 h5),if_pos h5] at he
 rcases cQ O k with h | ⟨t,ht,hO,h⟩
 ·rw [h] at he; simp at he
 ·rw [h] at he
  simp only at he
  by_cases hc : O t = 4 ∧ elF O k t = -1
  ·exact ⟨t,h,ht,hc⟩
  ·rw [if_neg hc] at he; cases he
theorem Mq (O : Nat → Int) : Iv O 0 where
 opn:=fun t ht => absurd ht ae
 els:=fun t => .inl rfl
 elp:=fun t ht => absurd ht ae
 oth:=fun i _ _ => rfl
 fut:=fun i _ => ⟨rfl,rfl⟩
 nest:=fun t u h _ _ hx => by
  have : enF O 0 t = -1:=rfl;omega
 ended:=fun t ht => absurd ht ae
theorem LU {O : Nat → Int} {k : Nat} (h : Iv O k) (he : er O k = 0) (hb : ¬ (O k = 6 ∧ stk O k = [])) : Iv O (k + 1):=by
 by_cases h1 : isO (O k) = true
 ·have n5:=gV h1
  have hen : ∀ i,enF O (k + 1) i = enF O k i:=fun i => fp n5.2
  have hel : ∀ i,elF O (k + 1) i = elF O k i:=fun i => fF n5.1
  have hst:=kq h1
  have hmem : ∀ t,t < k → (t ∈ stk O (k + 1) ↔ t ∈ stk O k):=fun t ht => by
   rw [hst,List.mem_cons]
   exact ⟨fun x => x.elim (fun e => absurd e ae) (fun x => x),fun x => .inr x⟩
  constructor
  ·intro t ht hO;rw [hen,hel]
   by_cases e : t = k
   ·subst e
    exact .inl ⟨by rw [hst]; simp,(h.fut t (Nat.le_refl _)).1⟩
   ·rw [hmem t ae];exact C5
  ·exact Kj
  ·intro j hj h5
   have : j ≠ k:=fun e => n5.1 (e ▸ h5)
   obtain ⟨t,ht,hx⟩:=h.elp j ae h5
   exact ⟨t,ht,by rw [hel]; exact hx⟩
  ·intro i a b; rw [hen]; exact h.oth i a b
  ·intro i hi; rw [hen,hel]; exact h.fut i ae
  ·intro t u htu a b c;rw [hen] at c ⊢;rw [hen];obtain ⟨x1,x2,x3⟩:=h.nest t u htu a b c
   exact ⟨ae,by rw [hmem u x1]; exact x2,x3⟩
  ·intro j hj h6
   have : j ≠ k:=fun e => n5.2 (e ▸ h6)
   exact Cn
 have h1' : isO (O k) = false:=lW
 by_cases h5 : O k = 5
 ·have n6 : O k ≠ 6:=ae;obtain ⟨t0,hs,ht0,h4,hel0⟩:=Mn h5 he
  have hen : ∀ i,enF O (k + 1) i = enF O k i:=fun i => fp n6
  have hel : ∀ i,elF O (k + 1) i = if i = t0 then (k : Int) else elF O k i:=fun i => rI h5 hs i
  have hst:=iw h1' n6;have hO0 : isO (O t0) = true:=cD.2 ae
  have hm0 : t0 ∈ stk O k:=by rw [hs]; simp
  have he0 : enF O k t0 = -1:=by
   rcases h.opn t0 ht0 hO0 with hx | hx
   ·exact hx.2
   ·exact absurd hm0 hx.1
  constructor
  ·intro t ht hO
   have : t ≠ k:=fun e => zI
   rw [hen,hst]
   rcases h.opn t ae hO with hx | ⟨hx,j,a1,a2,a3,a4,a5,a6⟩
   ·exact .inl hx
   ·refine .inr ⟨hx,j,a1,a2,ae,a4,a5,?_⟩
    rw [hel,if_neg (fun e : t = t0 => hx (e ▸ hm0))]
    exact a6
  ·intro t;rw [hel]
   by_cases e : t = t0
   ·subst e;rw [if_pos rfl]
    exact .inr ⟨k,rfl,ht0,ae,h4,h5,hs,by rw [hen,hen,he0]; exact (h.fut k (Nat.le_refl _)).1⟩
   ·rw [if_neg e]
    rcases h.els t with hx | ⟨j,a1,a2,a3,a4,a5,a6,a7⟩
    ·exact .inl hx
    ·exact .inr ⟨j,a1,a2,ae,a4,a5,a6,by rw [hen,hen]; exact a7⟩
  ·intro j hj hj5
   by_cases e : j = k
   ·subst e
    exact ⟨t0,ht0,by rw [hel,if_pos rfl]⟩
   ·obtain ⟨t,ht,hx⟩:=h.elp j ae hj5;refine ⟨t,ht,?_⟩
    rw [hel,if_neg (fun e => by subst e; omega)]
    exact hx
  ·intro i a b; rw [hen]; exact h.oth i a b
  ·intro i hi
   rw [hen,hel,if_neg ae]; exact h.fut i ae
  ·exact C9
  ·intro j hj h6
   have : j ≠ k:=fun e => n6 (e ▸ h6)
   exact Cn
 by_cases h6 : O k = 6
 ·rcases cQ O k with hs | ⟨t0,ht0,hO0,hs⟩
  ·exact absurd ⟨h6,hs⟩ hb
  have hen : ∀ i,enF O (k + 1) i = if i = t0 ∨ (i : Int) = elF O k t0 then (k : Int) else enF O k i:=fun i => pK h6 hs i
  have hel : ∀ i,elF O (k + 1) i = elF O k i:=fun i => fF h5
  have hst : stk O (k + 1) = stk O t0:=by rw [pN h6,hs]; rfl
  have hm0 : t0 ∈ stk O k:=by rw [hs]; simp
  have hne : ∀ u,isO (O u) = true → (u : Int) ≠ elF O k t0:=fun u hu e => by
   rcases h.els t0 with hx | ⟨j,a1,a2,a3,a4,a5,_⟩
   ·omega
   ·have : u = j:=ae;subst this;exact (gV hu).1 a5
  have hsub : ∀ u,u ∈ stk O t0 → u ∈ stk O k:=fun u hu => by rw [hs]; simp [hu]
  have hel0 : elF O k t0 < k:=by
   rcases h.els t0 with hx | ⟨j,a1,a2,a3,_⟩ <;> omega
  have hOe : ∀ u,isO (O u) = true → u ≠ t0 → enF O (k + 1) u = enF O k u:=fun u hu hn => by
   rw [hen,if_neg (fun x => x.elim hn (hne u hu))]
  constructor
  ·intro t ht hO
   have : t ≠ k:=fun e => zI
   by_cases e : t = t0
   ·subst e
    refine .inr ⟨?_,k,by rw [hen,if_pos (.inl rfl)],ht0,ae,h6,hs,by rw [hel]; exact hel0⟩
    rw [hst]; exact fun hx => absurd (nE O _ _ hx).1 ae
   ·rw [hOe t hO e,hel,hst]
    rcases h.opn t ae hO with hx | ⟨hx,j,a1,a2,a3,a4⟩
    ·refine .inl ⟨?_,hx.2⟩
     have:=hx.1
     rw [hs] at this
     exact (List.mem_cons.1 this).elim (fun x => absurd x e) (fun x => x)
    ·exact .inr ⟨fun x => hx (hsub t x),j,a1,a2,ae,a4⟩
  ·intro t;rw [hel]
   rcases h.els t with hx | ⟨j,a1,a2,a3,a4,a5,a6,a7⟩
   ·exact .inl hx
   ·refine .inr ⟨j,a1,a2,ae,a4,a5,a6,?_⟩;have hOt : isO (O t) = true:=cD.2 ae
    have hjt : j ≠ t0:=fun e => by rw [← e,a5] at hO0; exact absurd hO0 aH
    by_cases e : t = t0
    ·subst e;rw [hen,if_pos (.inr a1.symm),hen,if_pos (.inl rfl)]
    ·rw [hOe t hOt e,hen,if_neg]
     ·exact a7
     ·intro x
      rcases x with x | x
      ·exact hjt x
      ·rcases h.els t0 with y | ⟨j',b1,b2,b3,b4,b5,b6,_⟩
       ·omega
       ·have : j = j':=ae;subst this;rw [a6] at b6
        injection b6 with b6 _
        exact e b6
  ·exact CZ
  ·intro i a b
   have e1 : i ≠ t0:=fun e => by rw [e,hO0] at a; cases a
   have e2 : (i : Int) ≠ elF O k t0:=fun e => by
    rcases h.els t0 with hx | ⟨j,a1,a2,a3,a4,a5,_⟩
    ·omega
    ·have : i = j:=ae;subst this;exact b a5
   rw [hen,if_neg (fun x => x.elim e1 e2)]
   exact h.oth i a b
  ·intro i hi;rw [hel,hen,if_neg ae];exact h.fut i ae
  ·intro t u htu a b c
   by_cases e : t = t0
   ·subst e;rw [hen t,if_pos (.inl rfl)] at c ⊢;have huk : u < k:=ae;have hut : u ≠ t:=ae
    have hn : u ∉ stk O k:=fun x => by
     rw [hs] at x
     rcases List.mem_cons.1 x with x | x
     ·exact hut x
     ·exact absurd (nE O _ _ x).1 ae
    refine ⟨ae,?_,?_⟩
    ·rw [hst]; exact fun x => hn (hsub u x)
    ·rw [hOe u b hut]
     rcases h.opn u huk b with hx | ⟨_,j,a1,a2,a3,_⟩
     ·exact absurd hx.1 hn
     ·omega
   ·rw [hOe t a e] at c ⊢;obtain ⟨x1,x2,x3⟩:=h.nest t u htu a b c
    have hut : u ≠ t0:=fun e => x2 (e ▸ hm0)
    refine ⟨ae,?_,by rw [hOe u b hut]; exact x3⟩
    rw [hst]; exact fun x => x2 (hsub u x)
  ·intro j hj hj6
   by_cases e : j = k
   ·subst e
    exact ⟨t0,ht0,hO0,by rw [hen,if_pos (.inl rfl)]⟩
   ·obtain ⟨t,a,b,c⟩:=h.ended j ae hj6;refine ⟨t,a,b,?_⟩
    have : t ≠ t0:=fun e => by
     subst e
     rcases h.opn t ht0 hO0 with hx | hx
     ·omega
     ·exact hx.1 hm0
    rw [hOe t b this]; exact c
 ·have hen : ∀ i,enF O (k + 1) i = enF O k i:=fun i => fp h6
  have hel : ∀ i,elF O (k + 1) i = elF O k i:=fun i => fF h5
  have hst:=iw h1' h6
  constructor
  ·intro t ht hO
   have : t ≠ k:=fun e => zI
   rw [hen,hel,hst];exact C5
  ·exact Kj
  ·exact CZ
  ·intro i a b; rw [hen]; exact h.oth i a b
  ·intro i hi; rw [hen,hel]; exact h.fut i ae
  ·exact C9
  ·intro j hj hj6
   have : j ≠ k:=fun e => h6 (e ▸ hj6)
   obtain ⟨t,a,b,c⟩:=h.ended j ae hj6
   exact ⟨t,a,b,by rw [hen]; exact c⟩
theorem sJ {O : Nat → Int} : ∀ {k : Nat},Okp O k → Iv O k
 | 0,_ => Mq O
 | k + 1,h => LU (sJ (k:=k) fun i hi => h i ae) (h k ae).1 (h k ae).2
theorem AC {w wr : World} {B n k : Nat} (hlt : k < n) (h : RI wr B n (fun i => if i < k then -1 else 0)) (hb : Below w.heap.size w wr) (hB : w.heap.size ≤ B) :
  RI (wr.setCell ⟨B,k,none⟩ (.int .i64 (-1))) B n (fun i => if i < k + 1 then -1 else 0) ∧ Below w.heap.size w (wr.setCell ⟨B,k,none⟩ (.int .i64 (-1))):=by
 refine ⟨(h.put k (-1) (fun i hi => ?_)).1,hb.setCell (by simpa using hB) _⟩
 split <;> split <;> (try split) <;> omega
theorem blank (n : Nat) (w : World) (hn : n ≤ 1048576) :
  Calls Tryz.prog 89 #[.int .i64 n] w fun e w' => ∃ B,e = .returned (.slice (some ⟨B,0,none⟩) n n) ∧ w.heap.size ≤ B ∧ RI w' B n (fun _ => -1) ∧ Below w.heap.size w w':=by
 obtain ⟨i0,hi,hz0,hz1,hz2⟩:=info_parts Tryz.infInts;have hb2 : i0.bytes * n ≤ 281474976710656:=gN;have hml : n ≤ maxLen:=cG
 go_enter Tryz.func89,Tryz.ntmps89
 go_wp2_with (first | (at_make; refine wpList_make_full _ rfl _ _ 23 rfl w.heap.size 3 i0 (.int .i64 0) 1 Tryz.underlying23 hi hz0 hz1 .i64 .i64 _ _ n rfl rfl ae ae hb2 hml (Nat.le_refl _) ?_; intro w1 hown hgrow))
 have hown0 : RI w1 w.heap.size n (fun i => if i < 0 then -1 else 0):=by
  have e : (madeCells (Value.int .i64 0).cells (n * 1)).toList = fl n (fun i => if i < 0 then -1 else 0):=by
   rw [Nat.mul_one]; refine (toList_madeCells_one _ _).trans ?_
   apply List.ext_getElem?
   intro j
   by_cases hj : j < n
   ·rw [rh n _ j hj]; simp [hj]
   ·rw [List.getElem?_eq_none aG,List.getElem?_eq_none (by rw [tF]; omega)]
  unfold RI
  rw [← e]; exact Row.of hown
 have hbel : Below w.heap.size w w1:=(Below.refl _ _).grown hgrow (Nat.le_refl _) ak;clear hown hgrow hi hz0 hz1 hz2 hb2 hml
 go_loopw [9] (fun i wr => ∃ k : Nat,k ≤ n ∧ i = .int .i64 k ∧ RI wr w.heap.size n (fun i => if i < k then -1 else 0) ∧ Below w.heap.size w wr) (fun i _ => n - (intOf i).toNat)
 case atStart => exact ⟨0,ae,rfl,hown0,hbel⟩
 case round =>
  obtain ⟨k,hk,rfl,hown,hb⟩:=hrel;clear hown0 hbel
  by_cases hlt : k < n
  ·have hst:=AC hlt hown hb (Nat.le_refl _);have hcl:=hown.cell k hlt;have hfz:=hown.free k;have HS:=hid hst;clear hst hb hown;go_wp2;have R:=HS.out;exact ⟨⟨k + 1,ae,aX,R.1,R.2⟩,aZ⟩
  ·obtain rfl : k = n:=ae;have HB:=hid hb;have HO:=hid hown;clear hb hown;go_wp2;go_ret
   exact ⟨_,rfl,Nat.le_refl _,HO.out.congr (fun i hi => by simp [hi]),HB.out⟩
def nr (A B C n : Nat) : Value:=.agg #[.slice (some ⟨A,0,none⟩) n n,.slice (some ⟨B,0,none⟩) n n,.slice (some ⟨C,0,none⟩) n n]
theorem Sl (A B C n t pc : Nat) (en el : Nat → Int) (w : World) (hn : n ≤ 1048576) (ht : t < n) (hAB : A ≠ B) (hA : RI w A n en) (hB : RI w B n el) (hel : el t = -1 ∨ ∃ j : Nat,el t = j ∧ j < n) :
  Calls Tryz.prog 139 #[nr A B C n,.int .i64 t,.int .i64 pc] w fun e w' => e = .returned (.tuple #[]) ∧ RI w' A n (fun i => if i = t ∨ (i : Int) = el t then (pc : Int) else en i) ∧ Kept (fun k => k = A) w w':=by
 unfold nr;have hAl:=hA.lt;have hBl:=hB.lt;obtain ⟨o,ho⟩ : ∃ o,o = Obj.cells #[Value.slice (some ⟨A,0,none⟩) n n,.slice (some ⟨B,0,none⟩) n n,.slice (some ⟨C,0,none⟩) n n] 78:=⟨_,rfl⟩
 have k0:=Kept.alloc (fun k => k = A) w o
 have hA1:=hA.kept (Kept.alloc (fun _ => False) w o) (fun x => x)
 have hB1:=hB.kept (Kept.alloc (fun _ => False) w o) (fun x => x)
 have hAn : ¬ A = w.heap.size:=ae;have hBn : ¬ B = w.heap.size:=ae;have g1 : (w.alloc o).cell? ⟨A,t,none⟩ = some (.int .i64 (en t)):=hA1.cell t ht;have g2 : (w.alloc o).frozen? ⟨A,t,none⟩ = false:=hA1.free t
 have P1:=hA1.put (g:=fun i => if i = t then (pc : Int) else en i) t pc (fun i hi => rfl)
 have g3 : ((w.alloc o).setCell ⟨A,t,none⟩ (.int .i64 pc)).cell? ⟨B,t,none⟩ = some (.int .i64 (el t)):=(hB1.kept P1.2 (fun x => hAB x.symm)).cell t ht
 have hp0 : (w.alloc o).cell? ⟨w.heap.size,0,none⟩ = some (.slice (some ⟨A,0,none⟩) n n):=qm;have hp1 : (w.alloc o).cell? ⟨w.heap.size,1,none⟩ = some (.slice (some ⟨B,0,none⟩) n n):=qm
 have g4 : ((w.alloc o).setCell ⟨A,t,none⟩ (.int .i64 pc)).cell? ⟨w.heap.size,0,none⟩ = some (.slice (some ⟨A,0,none⟩) n n):=P1.2.cell hp0 (fun x => hAn x.symm)
 have g5 : ((w.alloc o).setCell ⟨A,t,none⟩ (.int .i64 pc)).cell? ⟨w.heap.size,1,none⟩ = some (.slice (some ⟨B,0,none⟩) n n):=P1.2.cell hp1 (fun x => hAn x.symm)
 have HP:=hid P1;have HK:=hid k0
 rcases hel with hel | ⟨j,hel,hj⟩
 ·rw [hel] at g3;have HE:=hid hel;subst ho;clear hA1 hB1 hp0 hp1 hA hB P1 k0 hel hAB hAl hBl hAn hBn
  go_enter Tryz.func139,Tryz.ntmps139
  go_wp2_with fail;go_end0
  refine ⟨rfl,HP.out.1.congr (fun i hi => ?_),HK.out.trans HP.out.2⟩
  rw [HE.out];have : ¬ (i : Int) = -1:=ae
  simp [this]
 ·rw [hel] at g3;have HE:=hid hel
  have P2:=HP.out.1.put (g:=fun i => if i = t ∨ (i : Int) = el t then (pc : Int) else en i) j pc (fun i hi => by
   rw [hel]
   by_cases e : i = j
   ·subst e; simp
   ·have : ¬ (i : Int) = (j : Int):=ae
    simp [e,this])
  have g6:=HP.out.1.cell j hj;have g7:=HP.out.1.free j;have HP2:=hid P2;have hjb : ((j : Int) == -1) = false:=ak;have hjn : ((j : Int) != -1) = true:=ak;subst ho;clear hA1 hB1 hp0 hp1 hA hB P1 P2 k0 hel hAB hAl hBl hAn hBn
  go_enter Tryz.func139,Tryz.ntmps139
  go_wp2_with fail;go_end0;exact ⟨rfl,HP2.out.1,(HK.out.trans HP.out.2).trans HP2.out.2⟩
end Go.Proofs.YtepnnenohjfkbaaGreatDoor

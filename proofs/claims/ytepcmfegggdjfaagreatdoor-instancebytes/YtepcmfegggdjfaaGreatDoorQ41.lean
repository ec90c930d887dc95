/-
  Texts Ib.
-/
import Derived.Test.YtepcmfegggdjfaaGreatDoorQ05
import Derived.Test.YtepcmfegggdjfaaGreatDoorQ11
set_option linter.unusedVariables false
set_option maxRecDepth 100000
set_option maxHeartbeats 16000000
namespace Go.Proofs.YtepcmfegggdjfaaGreatDoor
open Go.RowKit
def glF (xs : List Gl) (i : Nat) : Int:=(xs[i]?).elim 0 (·.2.2)
theorem gl_step {w wr : World} {B n k : Nat} {xs : List Gl} {x : Gl} {o : Obj} (hx : xs[k]? = some x) (h : RB .u64 53 wr B n (fun i => if i < k then glF xs i else 0)) (hb : Below w.heap.size w wr) (hB : w.heap.size ≤ B) :
  RB .u64 53 ((wr.setCell ⟨B,k,none⟩ (.int .u64 x.2.2)).alloc o) B n (fun i => if i < k + 1 then glF xs i else 0) ∧ Below w.heap.size w ((wr.setCell ⟨B,k,none⟩ (.int .u64 x.2.2)).alloc o):=by
 refine ⟨(h.put k x.2.2 (fun i hi => ?_)).later ((Below.refl _ _).alloc (Nat.le_refl _) o),(hb.setCell (by simpa using hB) _).alloc (by simpa using hb.size) o⟩
 by_cases e : i = k
 ·subst e
  rw [if_pos (by omega),if_pos rfl]
  simp [glF,hx]
 ·rw [if_neg e]
  by_cases h1 : i < k
  ·rw [if_pos h1,if_pos (by omega)]
  ·rw [if_neg h1,if_neg (by omega)]
theorem glb17_in (b off n c : Nat) (xs : List Gl) (w : World) (hl : xs.length = n) (hc : ∀ (j : Nat) x,xs[j]? = some x → w.cell? ⟨b,off + j * 3,none⟩ = some (.int .u8 x.1) ∧ w.cell? ⟨b,off + j * 3 + 1,none⟩ = some (.bool x.2.1) ∧ w.cell? ⟨b,off + j * 3 + 2,none⟩ = some (.int .u64 x.2.2)) (hn : n ≤ 1048576) :
  Calls Tryz.prog 17 #[.slice (some ⟨b,off,none⟩) n c] w fun e w' => ∃ B,e = .returned (.slice (some ⟨B,0,none⟩) n n) ∧ w.heap.size ≤ B ∧ RB .u64 53 w' B n (glF xs) ∧ Below w.heap.size w w':=by
 obtain ⟨i0,hi,hz0,hz1,hz2⟩:=info_parts Tryz.infW
 have hb2 : i0.bytes * n ≤ 281474976710656:=by rw [hz2]; omega
 have hml : n ≤ maxLen:=by unfold maxLen; omega
 have HC:=hid hc
 clear hc
 go_enter Tryz.func17,Tryz.ntmps17
 go_wp2_with (first | (at_make; refine wpList_make_full _ rfl _ _ 30 rfl w.heap.size 53 i0 (.int .u64 0) 1 Tryz.underlying30 hi hz0 hz1 .i64 .i64 _ _ n rfl rfl (by omega) (by omega) hb2 hml (Nat.le_refl _) ?_; intro w1 hown hgrow))
 have hown0:=RB.made hown
 have hbel : Below w.heap.size w w1:=(Below.refl _ _).grown hgrow (Nat.le_refl _) (by simp)
 have H0:=hid (And.intro hown0 hbel)
 clear hown hgrow hi hz0 hz1 hz2 hb2 hml hown0 hbel
 go_loopw [11] (fun i wr => ∃ k : Nat,k ≤ n ∧ i = .int .i64 k ∧ Hid (RB .u64 53 wr w.heap.size n (fun i => if i < k then glF xs i else 0) ∧ Below w.heap.size w wr)) (fun i _ => n - (intOf i).toNat)
 case atStart => exact ⟨0,by omega,rfl,hid ⟨H0.out.1.congr (fun i _ => by simp),H0.out.2⟩⟩
 case round =>
  obtain ⟨k,hk,rfl,HR⟩:=hrel
  by_cases hlt : k < n
  ·obtain ⟨x,hx⟩ : ∃ x,xs[k]? = some x:=⟨_,List.getElem?_eq_getElem (by omega)⟩
   obtain ⟨q0,q1,q2⟩:=HC.out k x hx
   have g0:=later_cell HR.out.2 q0
   have g1:=later_cell HR.out.2 q1
   have g2:=later_cell HR.out.2 q2
   have hlt' : (k : Int) < (n : Int):=by omega
   have hBl:=HR.out.1.lt
   have HS:=fun o => hid (gl_step (o:=o) hx HR.out.1 HR.out.2 (Nat.le_refl _))
   have hal : Below wr.heap.size wr (wr.alloc (.cells #[.int .u8 x.1,.bool x.2.1,.int .u64 x.2.2] 80)):=(Below.refl _ _).alloc (Nat.le_refl _) _
   have gB : (wr.alloc (.cells #[.int .u8 x.1,.bool x.2.1,.int .u64 x.2.2] 80)).cell? ⟨w.heap.size,k,none⟩ = some (.int .u64 (if k < k then glF xs k else 0)):=(HR.out.1.later hal).cell k hlt
   have gF : (wr.alloc (.cells #[.int .u8 x.1,.bool x.2.1,.int .u64 x.2.2] 80)).frozen? ⟨w.heap.size,k,none⟩ = false:=(HR.out.1.later hal).free k
   rw [if_neg (Nat.lt_irrefl _)] at gB
   clear hx q0 q1 q2 hal
   go_wp2_with fail
   have R:=(HS (.cells #[.int .u8 x.1,.bool x.2.1,.int .u64 x.2.2] 80)).out
   exact ⟨⟨k + 1,by omega,by go_num,hid R⟩,by simp [intOf]; omega⟩
  ·obtain rfl : k = n:=by omega
   go_wp2
   go_ret
   exact ⟨_,rfl,Nat.le_refl _,HR.out.1.congr (fun i hi => by simp [hi]),HR.out.2⟩
theorem glb17_none (a : Option Addr) (c : Nat) (w : World) :
  Calls Tryz.prog 17 #[.slice a 0 c] w fun e w' => ∃ B,e = .returned (.slice (some ⟨B,0,none⟩) 0 0) ∧ w.heap.size ≤ B ∧ RB .u64 53 w' B 0 (glF []) ∧ Below w.heap.size w w':=by
 obtain ⟨i0,hi,hz0,hz1,hz2⟩:=info_parts Tryz.infW
 have hb2 : i0.bytes * 0 ≤ 281474976710656:=by omega
 have hml : 0 ≤ maxLen:=by omega
 go_enter Tryz.func17,Tryz.ntmps17
 go_wp2_with (first | (at_make; refine wpList_make_full _ rfl _ _ 30 rfl w.heap.size 53 i0 (.int .u64 0) 1 Tryz.underlying30 hi hz0 hz1 .i64 .i64 _ _ 0 rfl rfl rfl rfl hb2 hml (Nat.le_refl _) ?_; intro w1 hown hgrow))
 have hown0:=RB.made hown
 have hbel : Below w.heap.size w w1:=(Below.refl _ _).grown hgrow (Nat.le_refl _) (by simp)
 have H0:=hid (And.intro hown0 hbel)
 clear hown hgrow hi hz0 hz1 hz2 hb2 hml hown0 hbel
 refine wp_loop_rounds 1 ?_
 rw [rounds_succ]
 go_wp2
 go_ret
 exact ⟨_,rfl,Nat.le_refl _,H0.out.1.congr (fun i h => by omega),H0.out.2⟩
theorem glb17 (a : Option Addr) (n c : Nat) (xs : List Gl) (w : World) (h : AtGl w a n xs) (hn : n ≤ 1048576) :
  Calls Tryz.prog 17 #[.slice a n c] w fun e w' => ∃ B,e = .returned (.slice (some ⟨B,0,none⟩) n n) ∧ w.heap.size ≤ B ∧ RB .u64 53 w' B n (glF xs) ∧ Below w.heap.size w w':=by
 by_cases h0 : n = 0
 ·subst h0
  obtain rfl:=List.eq_nil_of_length_eq_zero h.1
  exact glb17_none a c w
 ·obtain ⟨b,off,rfl,hc⟩:=h.2.resolve_left h0
  exact glb17_in b off n c xs w h.1 hc hn
end Go.Proofs.YtepcmfegggdjfaaGreatDoor

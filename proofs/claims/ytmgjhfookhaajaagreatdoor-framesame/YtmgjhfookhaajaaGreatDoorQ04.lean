/-
  Texts Fa Fb.
-/
import Derived.Deep.RegionHeld3
import Derived.Test.YtmgjhfookhaajaaGreatDoorQ03
set_option linter.unusedVariables false
set_option maxRecDepth 100000
set_option maxHeartbeats 16000000
namespace Go.Proofs.YtmgjhfookhaajaaGreatDoor
open Go.RowKit
def SI (k : IntKind) (w : World) (a : Option Addr) (n : Nat) (l : List Int) : Prop :=
 l.length = n ∧ (n = 0 ∨ ∃ b off,a = some ⟨b,off,none⟩ ∧ ∀ (j : Nat) x,l[j]? = some x → w.cell? ⟨b,off + j,none⟩ = some (.int k x))
theorem SI.later {k : IntKind} {w w' : World} {a : Option Addr} {n : Nat} {l : List Int} (h : SI k w a n l) (hb : Below w.heap.size w w') : SI k w' a n l :=
 ⟨h.1,h.2.imp id fun ⟨b,off,e,hc⟩ => ⟨b,off,e,fun j x hj => later_cell hb (hc j x hj)⟩⟩
abbrev PgM:=(Option Addr × Nat × Nat) × List Int
abbrev FrM:=Int × Int × ((Option Addr × Nat × Nat) × List Int) × ((Option Addr × Nat × Nat) × List Int)
structure SPg (w : World) (a : Option Addr) (n : Nat) (l : List PgM) : Prop where
 len : l.length = n
 at_ : n = 0 ∨ ∃ b off,a = some ⟨b,off,none⟩ ∧ ∀ (j : Nat) x,l[j]? = some x → w.cell? ⟨b,off + j,none⟩ = some (.slice x.1.1 x.1.2.1 x.1.2.2)
 in_ : ∀ x ∈ l,SI .u8 w x.1.1 x.1.2.1 x.2
theorem SPg.later {w w' : World} {a : Option Addr} {n : Nat} {l : List PgM} (h : SPg w a n l) (hb : Below w.heap.size w w') : SPg w' a n l :=
 ⟨h.len,h.at_.imp id fun ⟨b,off,e,hc⟩ => ⟨b,off,e,fun j x hj => later_cell hb (hc j x hj)⟩,fun x hx => (h.in_ x hx).later hb⟩
structure SFr (w : World) (a : Option Addr) (n : Nat) (l : List FrM) : Prop where
 len : l.length = n
 at_ : n = 0 ∨ ∃ b off,a = some ⟨b,off,none⟩ ∧ ∀ (j : Nat) x,l[j]? = some x → w.cell? ⟨b,off + j * 4,none⟩ = some (.int .i64 x.1) ∧ w.cell? ⟨b,off + j * 4 + 1,none⟩ = some (.int .i64 x.2.1) ∧ w.cell? ⟨b,off + j * 4 + 2,none⟩ = some (.slice x.2.2.1.1.1 x.2.2.1.1.2.1 x.2.2.1.1.2.2) ∧ w.cell? ⟨b,off + j * 4 + 3,none⟩ = some (.slice x.2.2.2.1.1 x.2.2.2.1.2.1 x.2.2.2.1.2.2)
 in_ : ∀ x ∈ l,SI .u64 w x.2.2.1.1.1 x.2.2.1.1.2.1 x.2.2.1.2 ∧ SI .u64 w x.2.2.2.1.1 x.2.2.2.1.2.1 x.2.2.2.2
theorem SFr.later {w w' : World} {a : Option Addr} {n : Nat} {l : List FrM} (h : SFr w a n l) (hb : Below w.heap.size w w') : SFr w' a n l :=
 ⟨h.len,h.at_.imp id fun ⟨b,off,e,hc⟩ => ⟨b,off,e,fun j x hj => ⟨later_cell hb (hc j x hj).1,later_cell hb (hc j x hj).2.1,later_cell hb (hc j x hj).2.2.1,later_cell hb (hc j x hj).2.2.2⟩⟩,fun x hx => ⟨(h.in_ x hx).1.later hb,(h.in_ x hx).2.later hb⟩⟩
def lE {α : Type} (f : α → α → Bool) (l1 l2 : List α) : Bool:=decide (l1.length = l2.length) && (List.range l1.length).all fun i => (l1[i]?).elim true fun x => (l2[i]?).elim true (f x)
theorem lE_len {α : Type} {f : α → α → Bool} {l1 l2 : List α} (h : l1.length ≠ l2.length) : lE f l1 l2 = false:=by simp [lE,h]
theorem lE_no {α : Type} {f : α → α → Bool} {l1 l2 : List α} {i : Nat} {x y : α} (hx : l1[i]? = some x) (hy : l2[i]? = some y) (h : f x y = false) : lE f l1 l2 = false:=by
 have hi:=lt_of_get hx
 unfold lE
 rw [Bool.and_eq_false_iff]
 right
 rw [List.all_eq_false]
 exact ⟨i,List.mem_range.2 hi,by simp [hx,hy,h]⟩
theorem lE_yes {α : Type} {f : α → α → Bool} {l1 l2 : List α} (hl : l1.length = l2.length) (h : ∀ (i : Nat) x y,l1[i]? = some x → l2[i]? = some y → f x y = true) : lE f l1 l2 = true:=by
 unfold lE
 rw [Bool.and_eq_true]
 refine ⟨by simp [hl],?_⟩
 rw [List.all_eq_true]
 intro i hi
 cases hx : l1[i]? with
 | none => simp
 | some x =>
  cases hy : l2[i]? with
  | none => simp
  | some y => simpa using h i x y hx hy
def iE (x y : Int) : Bool:=decide (x = y)
theorem eqI23_in (b1 o1 b2 o2 n c1 c2 : Nat) (l1 l2 : List Int) (w : World) (h1 : l1.length = n) (h2 : l2.length = n) (hn : n ≤ 1099511627776)
  (hc1 : ∀ (j : Nat) x,l1[j]? = some x → w.cell? ⟨b1,o1 + j,none⟩ = some (.int .u64 x))
  (hc2 : ∀ (j : Nat) x,l2[j]? = some x → w.cell? ⟨b2,o2 + j,none⟩ = some (.int .u64 x)) :
  Calls Tryz.prog 23 #[.slice (some ⟨b1,o1,none⟩) n c1,.slice (some ⟨b2,o2,none⟩) n c2] w fun e w' => e = .returned (.bool (lE iE l1 l2)) ∧ Below w.heap.size w w':=by
 have hne : ((n : Int) != n) = false:=by simp
 have C1:=hid hc1
 have C2:=hid hc2
 clear hc1 hc2
 go_enter Tryz.func23,Tryz.ntmps23
 go_wp2
 go_loopw [5] (fun i wr => ∃ k m : Nat,k ≤ n ∧ i = .int .i64 k ∧ wr = w.drewN m ∧ Hid (∀ (i : Nat) x y,i < k → l1[i]? = some x → l2[i]? = some y → iE x y = true)) (fun i _ => n - (intOf i).toNat)
 case atStart => exact ⟨0,0,by omega,rfl,rfl,hid (fun i x y hi => by omega)⟩
 case round =>
  obtain ⟨k,m,hk,rfl,rfl,HE⟩:=hrel
  by_cases hlt : k < n
  ·obtain ⟨x,hx⟩ : ∃ x,l1[k]? = some x:=⟨_,List.getElem?_eq_getElem (by omega)⟩
   obtain ⟨y,hy⟩ : ∃ y,l2[k]? = some y:=⟨_,List.getElem?_eq_getElem (by omega)⟩
   have g1 : w.cell? ⟨b1,o1 + k,none⟩ = some (.int .u64 x):=C1.out k x hx
   have g2 : w.cell? ⟨b2,o2 + k,none⟩ = some (.int .u64 y):=C2.out k y hy
   have hlt' : (k : Int) < (n : Int):=by omega
   have HX:=hid hx
   have HY:=hid hy
   clear hx hy C1 C2
   by_cases hxy : x = y
   ·subst hxy
    have hb : (x != x) = false:=by simp
    go_wp2
    go_quiet (fail)
    go_wp2
    exact ⟨⟨k + 1,m + nq,by omega,by go_num,rfl,hid (fun i x' y' hi hx' hy' => by
     by_cases hik : i < k
     ·exact HE.out i x' y' hik hx' hy'
     ·obtain rfl : i = k:=by omega
      rw [HX.out] at hx'; rw [HY.out] at hy'
      injection hx' with e1; injection hy' with e2
      subst e1; subst e2
      simp [iE])⟩,by simp [intOf]; omega⟩
   ·have hb : (x != y) = true:=by simp [hxy]
    go_wp2
    go_quiet (fail)
    go_wp2
    go_ret
    exact ⟨by rw [lE_no HX.out HY.out (by simp [iE,hxy])]; rfl,(below_drewN w m).trans ((below_drewN (w.drewN m) nq).mono (Nat.le_of_eq (by simp)))⟩
  ·clear C1 C2
   obtain rfl : k = n:=by omega
   go_wp2
   go_ret
   exact ⟨by rw [lE_yes (by omega) (fun i x y hx hy => HE.out i x y (by have:=lt_of_get hx; omega) hx hy)]; rfl,below_drewN _ _⟩
theorem eqI23_len (a1 a2 : Option Addr) (n1 n2 c1 c2 : Nat) (l1 l2 : List Int) (w : World) (h1 : l1.length = n1) (h2 : l2.length = n2) (hne : n1 ≠ n2) :
  Calls Tryz.prog 23 #[.slice a1 n1 c1,.slice a2 n2 c2] w fun e w' => e = .returned (.bool (lE iE l1 l2)) ∧ Below w.heap.size w w':=by
 have hb : ((n1 : Int) != n2) = true:=by simp; omega
 have HV:=hid (lE_len (f:=iE) (l1:=l1) (l2:=l2) (by omega))
 go_enter Tryz.func23,Tryz.ntmps23
 go_wp2
 go_ret
 exact ⟨by rw [HV.out]; rfl,Below.refl _ _⟩
theorem eqI23_none (a1 a2 : Option Addr) (c1 c2 : Nat) (w : World) :
  Calls Tryz.prog 23 #[.slice a1 0 c1,.slice a2 0 c2] w fun e w' => e = .returned (.bool (lE iE [] [])) ∧ Below w.heap.size w w':=by
 go_enter Tryz.func23,Tryz.ntmps23
 go_wp2
 refine wp_loop_rounds 1 ?_
 rw [rounds_succ]
 go_wp2
 go_ret
 exact ⟨rfl,Below.refl _ _⟩
theorem eqI23 (a1 a2 : Option Addr) (n1 n2 c1 c2 : Nat) (l1 l2 : List Int) (w : World) (h1 : SI .u64 w a1 n1 l1) (h2 : SI .u64 w a2 n2 l2) (hn : n1 ≤ 1099511627776) :
  Calls Tryz.prog 23 #[.slice a1 n1 c1,.slice a2 n2 c2] w fun e w' => e = .returned (.bool (lE iE l1 l2)) ∧ Below w.heap.size w w':=by
 by_cases hne : n1 = n2
 ·subst hne
  obtain ⟨hz1,g1⟩:=h1
  obtain ⟨hz2,g2⟩:=h2
  by_cases h0 : n1 = 0
  ·subst h0
   obtain rfl:=List.eq_nil_of_length_eq_zero hz1
   obtain rfl:=List.eq_nil_of_length_eq_zero hz2
   exact eqI23_none a1 a2 c1 c2 w
  obtain ⟨b1,o1,rfl,e1⟩:=g1.resolve_left h0
  obtain ⟨b2,o2,rfl,e2⟩:=g2.resolve_left h0
  exact eqI23_in b1 o1 b2 o2 n1 c1 c2 l1 l2 w hz1 hz2 hn e1 e2
 ·exact eqI23_len a1 a2 n1 n2 c1 c2 l1 l2 w h1.1 h2.1 hne
theorem eqI39_in (b1 o1 b2 o2 n c1 c2 : Nat) (l1 l2 : List Int) (w : World) (h1 : l1.length = n) (h2 : l2.length = n) (hn : n ≤ 1099511627776)
  (hc1 : ∀ (j : Nat) x,l1[j]? = some x → w.cell? ⟨b1,o1 + j,none⟩ = some (.int .u8 x))
  (hc2 : ∀ (j : Nat) x,l2[j]? = some x → w.cell? ⟨b2,o2 + j,none⟩ = some (.int .u8 x)) :
  Calls Tryz.prog 39 #[.slice (some ⟨b1,o1,none⟩) n c1,.slice (some ⟨b2,o2,none⟩) n c2] w fun e w' => e = .returned (.bool (lE iE l1 l2)) ∧ Below w.heap.size w w':=by
 have hne : ((n : Int) != n) = false:=by simp
 have C1:=hid hc1
 have C2:=hid hc2
 clear hc1 hc2
 go_enter Tryz.func39,Tryz.ntmps39
 go_wp2
 go_loopw [5] (fun i wr => ∃ k m : Nat,k ≤ n ∧ i = .int .i64 k ∧ wr = w.drewN m ∧ Hid (∀ (i : Nat) x y,i < k → l1[i]? = some x → l2[i]? = some y → iE x y = true)) (fun i _ => n - (intOf i).toNat)
 case atStart => exact ⟨0,0,by omega,rfl,rfl,hid (fun i x y hi => by omega)⟩
 case round =>
  obtain ⟨k,m,hk,rfl,rfl,HE⟩:=hrel
  by_cases hlt : k < n
  ·obtain ⟨x,hx⟩ : ∃ x,l1[k]? = some x:=⟨_,List.getElem?_eq_getElem (by omega)⟩
   obtain ⟨y,hy⟩ : ∃ y,l2[k]? = some y:=⟨_,List.getElem?_eq_getElem (by omega)⟩
   have g1 : w.cell? ⟨b1,o1 + k,none⟩ = some (.int .u8 x):=C1.out k x hx
   have g2 : w.cell? ⟨b2,o2 + k,none⟩ = some (.int .u8 y):=C2.out k y hy
   have hlt' : (k : Int) < (n : Int):=by omega
   have HX:=hid hx
   have HY:=hid hy
   clear hx hy C1 C2
   by_cases hxy : x = y
   ·subst hxy
    have hb : (x != x) = false:=by simp
    go_wp2
    go_quiet (fail)
    go_wp2
    exact ⟨⟨k + 1,m + nq,by omega,by go_num,rfl,hid (fun i x' y' hi hx' hy' => by
     by_cases hik : i < k
     ·exact HE.out i x' y' hik hx' hy'
     ·obtain rfl : i = k:=by omega
      rw [HX.out] at hx'; rw [HY.out] at hy'
      injection hx' with e1; injection hy' with e2
      subst e1; subst e2
      simp [iE])⟩,by simp [intOf]; omega⟩
   ·have hb : (x != y) = true:=by simp [hxy]
    go_wp2
    go_quiet (fail)
    go_wp2
    go_ret
    exact ⟨by rw [lE_no HX.out HY.out (by simp [iE,hxy])]; rfl,(below_drewN w m).trans ((below_drewN (w.drewN m) nq).mono (Nat.le_of_eq (by simp)))⟩
  ·clear C1 C2
   obtain rfl : k = n:=by omega
   go_wp2
   go_ret
   exact ⟨by rw [lE_yes (by omega) (fun i x y hx hy => HE.out i x y (by have:=lt_of_get hx; omega) hx hy)]; rfl,below_drewN _ _⟩
theorem eqI39_len (a1 a2 : Option Addr) (n1 n2 c1 c2 : Nat) (l1 l2 : List Int) (w : World) (h1 : l1.length = n1) (h2 : l2.length = n2) (hne : n1 ≠ n2) :
  Calls Tryz.prog 39 #[.slice a1 n1 c1,.slice a2 n2 c2] w fun e w' => e = .returned (.bool (lE iE l1 l2)) ∧ Below w.heap.size w w':=by
 have hb : ((n1 : Int) != n2) = true:=by simp; omega
 have HV:=hid (lE_len (f:=iE) (l1:=l1) (l2:=l2) (by omega))
 go_enter Tryz.func39,Tryz.ntmps39
 go_wp2
 go_ret
 exact ⟨by rw [HV.out]; rfl,Below.refl _ _⟩
theorem eqI39_none (a1 a2 : Option Addr) (c1 c2 : Nat) (w : World) :
  Calls Tryz.prog 39 #[.slice a1 0 c1,.slice a2 0 c2] w fun e w' => e = .returned (.bool (lE iE [] [])) ∧ Below w.heap.size w w':=by
 go_enter Tryz.func39,Tryz.ntmps39
 go_wp2
 refine wp_loop_rounds 1 ?_
 rw [rounds_succ]
 go_wp2
 go_ret
 exact ⟨rfl,Below.refl _ _⟩
theorem eqI39 (a1 a2 : Option Addr) (n1 n2 c1 c2 : Nat) (l1 l2 : List Int) (w : World) (h1 : SI .u8 w a1 n1 l1) (h2 : SI .u8 w a2 n2 l2) (hn : n1 ≤ 1099511627776) :
  Calls Tryz.prog 39 #[.slice a1 n1 c1,.slice a2 n2 c2] w fun e w' => e = .returned (.bool (lE iE l1 l2)) ∧ Below w.heap.size w w':=by
 by_cases hne : n1 = n2
 ·subst hne
  obtain ⟨hz1,g1⟩:=h1
  obtain ⟨hz2,g2⟩:=h2
  by_cases h0 : n1 = 0
  ·subst h0
   obtain rfl:=List.eq_nil_of_length_eq_zero hz1
   obtain rfl:=List.eq_nil_of_length_eq_zero hz2
   exact eqI39_none a1 a2 c1 c2 w
  obtain ⟨b1,o1,rfl,e1⟩:=g1.resolve_left h0
  obtain ⟨b2,o2,rfl,e2⟩:=g2.resolve_left h0
  exact eqI39_in b1 o1 b2 o2 n1 c1 c2 l1 l2 w hz1 hz2 hn e1 e2
 ·exact eqI39_len a1 a2 n1 n2 c1 c2 l1 l2 w h1.1 h2.1 hne
theorem nb_lt {w : World} {b : Nat} {o : Obj} (h : w.heap[b]? = some o) : b < w.heap.size:=by
 rcases Nat.lt_or_ge b w.heap.size with h1 | h1
 ·exact h1
 ·rw [Array.getElem?_eq_none h1] at h; cases h
theorem nb_later {w w' : World} {b : Nat} {o : Obj} (hb : Below w.heap.size w w') (h : w.heap[b]? = some o) : w'.heap[b]? = some o:=(hb.block b (nb_lt h)).trans h
theorem nb_new (w : World) (o : Obj) : (w.alloc o).heap[w.heap.size]? = some o:=(MapKept.heap_alloc w o).1
theorem nb_at {w : World} {o : Obj} {b : Nat} (h : w.heap.size = b) : (w.alloc o).heap[b]? = some o:=by subst h; exact nb_new w o
def frE (x y : FrM) : Bool:=iE x.1 y.1 && (iE x.2.1 y.2.1 && (lE iE x.2.2.1.2 y.2.2.1.2 && lE iE x.2.2.2.2 y.2.2.2.2))
def pgE (x y : PgM) : Bool:=lE iE x.2 y.2
abbrev frO (f p : Int) (la : Option Addr) (ln lc : Nat) (sa : Option Addr) (sn sc : Nat) : Obj:=.cells #[.int .i64 f,.int .i64 p,.slice la ln lc,.slice sa sn sc] 40
abbrev frV (x : FrM) : Value:=.agg #[.int .i64 x.1,.int .i64 x.2.1,.slice x.2.2.1.1.1 x.2.2.1.1.2.1 x.2.2.1.1.2.2,.slice x.2.2.2.1.1 x.2.2.2.1.2.1 x.2.2.2.1.2.2]
def SF1 (w : World) (x : FrM) : Prop:=SI .u64 w x.2.2.1.1.1 x.2.2.1.1.2.1 x.2.2.1.2 ∧ SI .u64 w x.2.2.2.1.1 x.2.2.2.1.2.1 x.2.2.2.2
theorem SF1.later {w w' : World} {x : FrM} (h : SF1 w x) (hb : Below w.heap.size w w') : SF1 w' x:=⟨h.1.later hb,h.2.later hb⟩
theorem same26 (x y : Int) (w : World) : Calls Tryz.prog 26 #[.int .u64 x,.int .u64 y] w fun e w' => e = .returned (.bool (iE x y)) ∧ w' = w:=by
 by_cases h : x = y
 ·have hb : (x == y) = true:=by simp [h]
  have HV:=hid (show iE x y = true by simp [iE,h])
  go_enter Tryz.func26,Tryz.ntmps26
  go_wp2
  go_ret
  exact ⟨by rw [HV.out]; rfl,rfl⟩
 ·have hb : (x == y) = false:=by simp [h]
  have HV:=hid (show iE x y = false by simp [iE,h])
  go_enter Tryz.func26,Tryz.ntmps26
  go_wp2
  go_ret
  exact ⟨by rw [HV.out]; rfl,rfl⟩
theorem alk25_in (b1 o1 b2 o2 n c1 c2 : Nat) (l1 l2 : List Int) (w : World) (h1 : l1.length = n) (h2 : l2.length = n) (hn : n ≤ 1099511627776)
  (hc1 : ∀ (j : Nat) x,l1[j]? = some x → w.cell? ⟨b1,o1 + j,none⟩ = some (.int .u64 x))
  (hc2 : ∀ (j : Nat) x,l2[j]? = some x → w.cell? ⟨b2,o2 + j,none⟩ = some (.int .u64 x)) :
  Calls Tryz.prog 25 #[.slice (some ⟨b1,o1,none⟩) n c1,.slice (some ⟨b2,o2,none⟩) n c2,.func (.func 26) #[] #[]] w fun e w' => e = .returned (.bool (lE iE l1 l2)) ∧ Below w.heap.size w w':=by
 have hne : ((n : Int) != n) = false:=by simp
 have hK : ∀ args w,(callFunc 26 args).run Tryz.prog w = .ok (.enter 26 args) w:=fun _ _ => rfl
 have C1:=hid hc1
 have C2:=hid hc2
 have HS:=hid same26
 clear hc1 hc2
 go_enter Tryz.func25,Tryz.ntmps25
 go_wp2
 go_loopw [15] (fun i wr => ∃ k : Nat,k ≤ n ∧ i = .int .i64 k ∧ Hid (Below w.heap.size w wr) ∧ Hid (∀ (i : Nat) x y,i < k → l1[i]? = some x → l2[i]? = some y → iE x y = true)) (fun i _ => n - (intOf i).toNat)
 case atStart => exact ⟨0,by omega,rfl,hid (Below.refl _ _),hid (fun i x y hi => by omega)⟩
 case round =>
  obtain ⟨k,hk,rfl,HB,HE⟩:=hrel
  by_cases hlt : k < n
  ·obtain ⟨x,hx⟩ : ∃ x,l1[k]? = some x:=⟨_,List.getElem?_eq_getElem (by omega)⟩
   obtain ⟨y,hy⟩ : ∃ y,l2[k]? = some y:=⟨_,List.getElem?_eq_getElem (by omega)⟩
   have HFA:=hid (fun (W : World) (hW : Below wr.heap.size wr W) => (⟨later_cell (HB.out.trans (hW.mono HB.out.size)) (C1.out k x hx),later_cell (HB.out.trans (hW.mono HB.out.size)) (C2.out k y hy)⟩ : W.cell? ⟨b1,o1 + k,none⟩ = some (.int .u64 x) ∧ W.cell? ⟨b2,o2 + k,none⟩ = some (.int .u64 y)))
   obtain ⟨v0,v1⟩:=HFA.out wr (Below.refl _ _)
   have hlt' : (k : Int) < (n : Int):=by omega
   have HX:=hid hx
   have HY:=hid hy
   clear hx hy C1 C2
   have kd : Below wr.heap.size wr wr.drew:=(Kept.drewN (fun _ => False) wr 1).to_below (Nat.le_refl _) (fun _ _ x => x)
   generalize hv : iE x y = v
   have HV2:=hid hv
   have HQ2:=hid ((HS.out x y wr.drew).mono (fun e w' h => (⟨by rw [h.1,HV2.out],by rw [h.2]; exact kd⟩ : e = .returned (.bool v) ∧ Below wr.heap.size wr w')))
   clear hv HS kd
   cases v with
   | true =>
    go_wp2_with fail
    go_region_held3 (fun W => W.cell? ⟨b1,o1 + k,none⟩ = some (.int .u64 x) ∧ W.cell? ⟨b2,o2 + k,none⟩ = some (.int .u64 y)) (go_keep)
     (first | (go_at_call 26; refine HQ2.out.mono ?_; rintro e w5 ⟨rfl,hb5⟩; obtain ⟨t0,t1⟩:=HFA.out _ hb5; have HB5:=hid (HB.out.trans (hb5.mono HB.out.size)); clear hb5))
    go_wp2_with fail
    exact ⟨⟨k + 1,by omega,by go_num,HB5,hid (fun i x' y' hi hx' hy' => by
     by_cases hik : i < k
     ·exact HE.out i x' y' hik hx' hy'
     ·obtain rfl : i = k:=by omega
      rw [HX.out] at hx'; rw [HY.out] at hy'
      injection hx' with e1; injection hy' with e2
      subst e1; subst e2
      exact HV2.out)⟩,by simp [intOf]; omega⟩
   | false =>
    go_wp2_with fail
    go_region_held3 (fun W => W.cell? ⟨b1,o1 + k,none⟩ = some (.int .u64 x) ∧ W.cell? ⟨b2,o2 + k,none⟩ = some (.int .u64 y)) (go_keep)
     (first | (go_at_call 26; refine HQ2.out.mono ?_; rintro e w5 ⟨rfl,hb5⟩; obtain ⟨t0,t1⟩:=HFA.out _ hb5; have HB5:=hid (HB.out.trans (hb5.mono HB.out.size)); clear hb5))
    go_wp2_with fail
    go_ret
    exact ⟨by rw [lE_no HX.out HY.out HV2.out]; rfl,HB5.out⟩
  ·clear C1 C2 HS
   obtain rfl : k = n:=by omega
   go_wp2_with fail
   go_ret
   exact ⟨by rw [lE_yes (by omega) (fun i x y hx hy => HE.out i x y (by have:=lt_of_get hx; omega) hx hy)]; rfl,HB.out⟩
theorem alk25_len (a1 a2 : Option Addr) (n1 n2 c1 c2 : Nat) (l1 l2 : List Int) (w : World) (h1 : l1.length = n1) (h2 : l2.length = n2) (hne : n1 ≠ n2) :
  Calls Tryz.prog 25 #[.slice a1 n1 c1,.slice a2 n2 c2,.func (.func 26) #[] #[]] w fun e w' => e = .returned (.bool (lE iE l1 l2)) ∧ Below w.heap.size w w':=by
 have hb : ((n1 : Int) != n2) = true:=by simp; omega
 have HV:=hid (lE_len (f:=iE) (l1:=l1) (l2:=l2) (by omega))
 go_enter Tryz.func25,Tryz.ntmps25
 go_wp2
 go_ret
 exact ⟨by rw [HV.out]; rfl,Below.refl _ _⟩
theorem alk25_none (a1 a2 : Option Addr) (c1 c2 : Nat) (w : World) :
  Calls Tryz.prog 25 #[.slice a1 0 c1,.slice a2 0 c2,.func (.func 26) #[] #[]] w fun e w' => e = .returned (.bool (lE iE [] [])) ∧ Below w.heap.size w w':=by
 go_enter Tryz.func25,Tryz.ntmps25
 go_wp2
 refine wp_loop_rounds 1 ?_
 rw [rounds_succ]
 go_wp2
 go_ret
 exact ⟨rfl,Below.refl _ _⟩
theorem alk25 (a1 a2 : Option Addr) (n1 n2 c1 c2 : Nat) (l1 l2 : List Int) (w : World) (h1 : SI .u64 w a1 n1 l1) (h2 : SI .u64 w a2 n2 l2) (hn : n1 ≤ 1099511627776) :
  Calls Tryz.prog 25 #[.slice a1 n1 c1,.slice a2 n2 c2,.func (.func 26) #[] #[]] w fun e w' => e = .returned (.bool (lE iE l1 l2)) ∧ Below w.heap.size w w':=by
 by_cases hne : n1 = n2
 ·subst hne
  obtain ⟨hz1,g1⟩:=h1
  obtain ⟨hz2,g2⟩:=h2
  by_cases h0 : n1 = 0
  ·subst h0
   obtain rfl:=List.eq_nil_of_length_eq_zero hz1
   obtain rfl:=List.eq_nil_of_length_eq_zero hz2
   exact alk25_none a1 a2 c1 c2 w
  obtain ⟨b1,o1,rfl,e1⟩:=g1.resolve_left h0
  obtain ⟨b2,o2,rfl,e2⟩:=g2.resolve_left h0
  exact alk25_in b1 o1 b2 o2 n1 c1 c2 l1 l2 w hz1 hz2 hn e1 e2
 ·exact alk25_len a1 a2 n1 n2 c1 c2 l1 l2 w h1.1 h2.1 hne
theorem eqF38 (x y : FrM) (w : World) (h1 : SF1 w x) (h2 : SF1 w y) (hl : x.2.2.1.1.2.1 ≤ 1099511627776) (hs : x.2.2.2.1.2.1 ≤ 1099511627776) :
  Calls Tryz.prog 38 #[frV x,frV y] w fun e w' => e = .returned (.bool (frE x y)) ∧ Below w.heap.size w w':=by
 obtain ⟨f,p,⟨⟨la,ln,lc⟩,ll⟩,⟨⟨sa,sn,sc⟩,sl⟩⟩:=x
 obtain ⟨f',p',⟨⟨la',ln',lc'⟩,ll'⟩,⟨⟨sa',sn',sc'⟩,sl'⟩⟩:=y
 have HA:=hid (fun (W : World) (hb : Below w.heap.size w W) => eqI23 la la' ln ln' lc lc' ll ll' W (h1.1.later hb) (h2.1.later hb) hl)
 have HB:=hid (fun (W : World) (hb : Below w.heap.size w W) => eqI23 sa sa' sn sn' sc sc' sl sl' W (h1.2.later hb) (h2.2.later hb) hs)
 have hv : frE (f,p,((la,ln,lc),ll),((sa,sn,sc),sl)) (f',p',((la',ln',lc'),ll'),((sa',sn',sc'),sl')) = (iE f f' && (iE p p' && (lE iE ll ll' && lE iE sl sl'))):=rfl
 clear h1 h2 hl hs
 generalize frE (f,p,((la,ln,lc),ll),((sa,sn,sc),sl)) (f',p',((la',ln',lc'),ll'),((sa',sn',sc'),sl')) = V at *
 generalize lE iE ll ll' = A at *
 generalize lE iE sl sl' = B at *
 have HV:=hid hv
 clear hv
 have B1:=below_new w (frO f p la ln lc sa sn sc)
 have B2:=below_new (w.alloc (frO f p la ln lc sa sn sc)) (frO f' p' la' ln' lc' sa' sn' sc')
 have B0:=hid (B1.trans (B2.mono B1.size))
 have k1:=nb_later B2 (nb_new w (frO f p la ln lc sa sn sc))
 have k2 : ((w.alloc (frO f p la ln lc sa sn sc)).alloc (frO f' p' la' ln' lc' sa' sn' sc')).heap[w.heap.size + 1]? = some (frO f' p' la' ln' lc' sa' sn' sc'):=nb_at (by simp)
 have HC:=hid (fun (W : World) (hb : Below ((w.alloc (frO f p la ln lc sa sn sc)).alloc (frO f' p' la' ln' lc' sa' sn' sc')).heap.size ((w.alloc (frO f p la ln lc sa sn sc)).alloc (frO f' p' la' ln' lc' sa' sn' sc')) W) =>
  (⟨later_cell hb (cell_at k1),later_cell hb (cell_at k1),later_cell hb (cell_at k1),later_cell hb (cell_at k1),later_cell hb (cell_at k2),later_cell hb (cell_at k2),later_cell hb (cell_at k2),later_cell hb (cell_at k2)⟩ :
   W.cell? ⟨w.heap.size,0,none⟩ = some (.int .i64 f) ∧ W.cell? ⟨w.heap.size,1,none⟩ = some (.int .i64 p) ∧ W.cell? ⟨w.heap.size,2,none⟩ = some (.slice la ln lc) ∧ W.cell? ⟨w.heap.size,3,none⟩ = some (.slice sa sn sc) ∧
   W.cell? ⟨w.heap.size + 1,0,none⟩ = some (.int .i64 f') ∧ W.cell? ⟨w.heap.size + 1,1,none⟩ = some (.int .i64 p') ∧ W.cell? ⟨w.heap.size + 1,2,none⟩ = some (.slice la' ln' lc') ∧ W.cell? ⟨w.heap.size + 1,3,none⟩ = some (.slice sa' sn' sc')))
 obtain ⟨c0,c1,c2,c3,d0,d1,d2,d3⟩:=HC.out _ (Below.refl _ _)
 clear B1 B2 k1 k2
 by_cases ef : f = f'
 ·subst ef
  have hf : (f == f) = true:=by simp
  by_cases ep : p = p'
  ·subst ep
   have hp : (p == p) = true:=by simp
   go_enter Tryz.func38,Tryz.ntmps38
   go_wp2_with fail
   refine (HA.out _ B0.out).mono ?_
   rintro e w5 ⟨rfl,hb5⟩
   obtain ⟨x0,x1,x2,x3,y0,y1,y2,y3⟩:=HC.out w5 hb5
   have B5:=hid (B0.out.trans (hb5.mono B0.out.size))
   clear hb5
   cases A with
   | true =>
    go_wp2_with fail
    refine (HB.out _ B5.out).mono ?_
    rintro e w6 ⟨rfl,hb6⟩
    have B6:=hid (B5.out.trans (hb6.mono B5.out.size))
    clear hb6
    cases B with
    | true =>
     go_wp2_with fail
     go_ret
     exact ⟨by rw [HV.out]; simp [iE],B6.out⟩
    | false =>
     go_wp2_with fail
     go_ret
     exact ⟨by rw [HV.out]; simp [iE],B6.out⟩
   | false =>
    go_wp2_with fail
    go_ret
    exact ⟨by rw [HV.out]; simp [iE],B5.out⟩
  ·have hp : (p == p') = false:=by simp [ep]
   go_enter Tryz.func38,Tryz.ntmps38
   go_wp2_with fail
   go_ret
   exact ⟨by rw [HV.out]; simp [iE,ep],B0.out⟩
 ·have hf : (f == f') = false:=by simp [ef]
  go_enter Tryz.func38,Tryz.ntmps38
  go_wp2_with fail
  go_ret
  exact ⟨by rw [HV.out]; simp [iE,ef],B0.out⟩
theorem eqF30 (x y : FrM) (w : World) (h1 : SF1 w x) (h2 : SF1 w y) (hl : x.2.2.1.1.2.1 ≤ 1099511627776) (hs : x.2.2.2.1.2.1 ≤ 1099511627776) :
  Calls Tryz.prog 30 #[frV x,frV y] w fun e w' => e = .returned (.bool (frE x y)) ∧ Below w.heap.size w w':=by
 obtain ⟨f,p,⟨⟨la,ln,lc⟩,ll⟩,⟨⟨sa,sn,sc⟩,sl⟩⟩:=x
 obtain ⟨f',p',⟨⟨la',ln',lc'⟩,ll'⟩,⟨⟨sa',sn',sc'⟩,sl'⟩⟩:=y
 have HA:=hid (fun (W : World) (hb : Below w.heap.size w W) => alk25 la la' ln ln' lc lc' ll ll' W (h1.1.later hb) (h2.1.later hb) hl)
 have HB:=hid (fun (W : World) (hb : Below w.heap.size w W) => alk25 sa sa' sn sn' sc sc' sl sl' W (h1.2.later hb) (h2.2.later hb) hs)
 have hv : frE (f,p,((la,ln,lc),ll),((sa,sn,sc),sl)) (f',p',((la',ln',lc'),ll'),((sa',sn',sc'),sl')) = (iE f f' && (iE p p' && (lE iE ll ll' && lE iE sl sl'))):=rfl
 clear h1 h2 hl hs
 generalize frE (f,p,((la,ln,lc),ll),((sa,sn,sc),sl)) (f',p',((la',ln',lc'),ll'),((sa',sn',sc'),sl')) = V at *
 generalize lE iE ll ll' = A at *
 generalize lE iE sl sl' = B at *
 have HV:=hid hv
 clear hv
 have B1:=below_new w (frO f p la ln lc sa sn sc)
 have B2:=below_new (w.alloc (frO f p la ln lc sa sn sc)) (frO f' p' la' ln' lc' sa' sn' sc')
 have B0:=hid (B1.trans (B2.mono B1.size))
 have k1:=nb_later B2 (nb_new w (frO f p la ln lc sa sn sc))
 have k2 : ((w.alloc (frO f p la ln lc sa sn sc)).alloc (frO f' p' la' ln' lc' sa' sn' sc')).heap[w.heap.size + 1]? = some (frO f' p' la' ln' lc' sa' sn' sc'):=nb_at (by simp)
 have HC:=hid (fun (W : World) (hb : Below ((w.alloc (frO f p la ln lc sa sn sc)).alloc (frO f' p' la' ln' lc' sa' sn' sc')).heap.size ((w.alloc (frO f p la ln lc sa sn sc)).alloc (frO f' p' la' ln' lc' sa' sn' sc')) W) =>
  (⟨later_cell hb (cell_at k1),later_cell hb (cell_at k1),later_cell hb (cell_at k1),later_cell hb (cell_at k1),later_cell hb (cell_at k2),later_cell hb (cell_at k2),later_cell hb (cell_at k2),later_cell hb (cell_at k2)⟩ :
   W.cell? ⟨w.heap.size,0,none⟩ = some (.int .i64 f) ∧ W.cell? ⟨w.heap.size,1,none⟩ = some (.int .i64 p) ∧ W.cell? ⟨w.heap.size,2,none⟩ = some (.slice la ln lc) ∧ W.cell? ⟨w.heap.size,3,none⟩ = some (.slice sa sn sc) ∧
   W.cell? ⟨w.heap.size + 1,0,none⟩ = some (.int .i64 f') ∧ W.cell? ⟨w.heap.size + 1,1,none⟩ = some (.int .i64 p') ∧ W.cell? ⟨w.heap.size + 1,2,none⟩ = some (.slice la' ln' lc') ∧ W.cell? ⟨w.heap.size + 1,3,none⟩ = some (.slice sa' sn' sc')))
 obtain ⟨c0,c1,c2,c3,d0,d1,d2,d3⟩:=HC.out _ (Below.refl _ _)
 clear B1 B2 k1 k2
 by_cases ef : f = f'
 ·subst ef
  have hf : (f == f) = true:=by simp
  by_cases ep : p = p'
  ·subst ep
   have hp : (p == p) = true:=by simp
   go_enter Tryz.func30,Tryz.ntmps30
   go_wp2_with fail
   refine (HA.out _ B0.out).mono ?_
   rintro e w5 ⟨rfl,hb5⟩
   obtain ⟨x0,x1,x2,x3,y0,y1,y2,y3⟩:=HC.out w5 hb5
   have B5:=hid (B0.out.trans (hb5.mono B0.out.size))
   clear hb5
   cases A with
   | true =>
    go_wp2_with fail
    refine (HB.out _ B5.out).mono ?_
    rintro e w6 ⟨rfl,hb6⟩
    have B6:=hid (B5.out.trans (hb6.mono B5.out.size))
    clear hb6
    cases B with
    | true =>
     go_wp2_with fail
     go_ret
     exact ⟨by rw [HV.out]; simp [iE],B6.out⟩
    | false =>
     go_wp2_with fail
     go_ret
     exact ⟨by rw [HV.out]; simp [iE],B6.out⟩
   | false =>
    go_wp2_with fail
    go_ret
    exact ⟨by rw [HV.out]; simp [iE],B5.out⟩
  ·have hp : (p == p') = false:=by simp [ep]
   go_enter Tryz.func30,Tryz.ntmps30
   go_wp2_with fail
   go_ret
   exact ⟨by rw [HV.out]; simp [iE,ep],B0.out⟩
 ·have hf : (f == f') = false:=by simp [ef]
  go_enter Tryz.func30,Tryz.ntmps30
  go_wp2_with fail
  go_ret
  exact ⟨by rw [HV.out]; simp [iE,ef],B0.out⟩
end Go.Proofs.YtmgjhfookhaajaaGreatDoor

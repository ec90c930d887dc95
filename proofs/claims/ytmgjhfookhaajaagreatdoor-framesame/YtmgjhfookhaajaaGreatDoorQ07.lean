/-
  Texts Fg.
-/
import Derived.Deep.RegionHeld
import Derived.OrdersHeld
import Derived.Test.YtmgjhfookhaajaaGreatDoorQ06
set_option linter.unusedVariables false
set_option maxRecDepth 100000
set_option maxHeartbeats 16000000
namespace Go.Proofs.YtmgjhfookhaajaaGreatDoor
open Go.RowKit
theorem tkFh {P : Program} {ops : Array Oper} {Q : Exit → Act → World → Prop} {md : Region.Mode} {S : World → Prop} {i : Nat} {oi : Oper} {v : Value} {fuel : Nat} {listed : Array Bool} {a : Act} {w : World} (hi : ops[i]? = some oi) (h : wpAnyH P md ops Q S fuel (listed.setIfInBounds i true) (a.put oi.dst v) w) (hv : ∀ w,S w → (execOp a.eval oi).run P w = .ok (.value v) w:=by (intro w h; (try dsimp only at h); go_simp; try with_reducible rfl))
  (hc : (Region.noSelect ops && Region.free md ops listed i && (Region.ready md ops listed).contains i) = true:=by kernel_rfl) (hw : Region.wanted oi (yielded ops a.tmps) = true:=by rfl) (hQ : ∀ c a w,Q (.panic c) (a.put oi.dst v) w → Q (.panic c) a w:=by exact fun _ _ _ h => h) (hS : S w:=by assumption) : wpAnyH P md ops Q S (fuel + 1) listed a w:=by
 simp only [Bool.and_eq_true] at hc
 exact wpAnyH_take hi hc.1.1 hc.1.2 hc.2 hQ (Or.inl ⟨hw,hv⟩) hS h
theorem rdFc {P : Program} {ops : Array Oper} {Q : Exit → Act → World → Prop} {md : Region.Mode} {S : World → Prop} {i : Nat} {o : Oper} {fuel : Nat} {listed : Array Bool} {a : Act} {w : World} {rs : List Nat} (ho : ops[i]? = some o) (h : ∀ K : Act → World → Prop,Shut (∀ a w,S w → (S w → wpAnyH P md ops Q S fuel (listed.setIfInBounds i true) a w) → K a w) → Oper.wp P o a w K Q) (hs : AllReadyH P md ops Q S fuel listed a w rs) (hw : Region.wanted o (yielded ops a.tmps) = true:=by rfl) : AllReadyH P md ops Q S fuel listed a w (i :: rs):=AllReadyH.cons ho (fun K hK => by rw [if_pos hw]; exact h K hK) hs
theorem rdFy {P : Program} {ops : Array Oper} {Q : Exit → Act → World → Prop} {md : Region.Mode} {S : World → Prop} {rs : List Nat} {fuel : Nat} {listed : Array Bool} {a : Act} {w : World} (h : AllReadyH P md ops Q S fuel listed a w rs) (hr : Region.ready md ops listed = rs:=by kernel_rfl) (hne : rs ≠ []:=by simp) : wpAnyH P md ops Q S (fuel + 1) listed a w:=wpAnyH_ready hr hne h
theorem nb_far {W : World} {b G j : Nat} {u : Value} {o : Obj} (h : W.heap[b]? = some o) (hb : b ≠ G) : (W.setCell ⟨G,j,none⟩ u).heap[b]? = some o :=
 ((kept_set W G j u).block b (nb_lt h) hb).trans h
theorem SI.fl {k : IntKind} {w : World} {a : Option Addr} {n : Nat} {l : List Int} (h : SI k w a n l) : Fl w a n (l.map (Value.int k)):=by
 rcases h.2 with h0 | ⟨b,off,e,hc⟩
 ·exact .inl h0
 ·refine .inr ⟨b,off,e,fun j y hj => ?_⟩
  rw [List.getElem?_map] at hj
  cases hl : l[j]? with
  | none => rw [hl] at hj; cases hj
  | some x =>
   rw [hl] at hj
   injection hj with hj
   subst hj
   exact hc j x hl
theorem one_int (k : IntKind) (l : List Int) : ∀ u ∈ l.map (Value.int k),u.oneCell' = true:=by
 intro u hu
 obtain ⟨x,_,rfl⟩:=List.mem_map.1 hu
 rfl
def frC (x : FrM) : List Value:=[.int .i64 x.1,.int .i64 x.2.1,.slice x.2.2.1.1.1 x.2.2.1.1.2.1 x.2.2.1.1.2.2,.slice x.2.2.2.1.1 x.2.2.2.1.2.1 x.2.2.2.1.2.2]
def pgC (x : PgM) : List Value:=[.slice x.1.1 x.1.2.1 x.1.2.2]
theorem one_fr (l : List FrM) : ∀ u ∈ l.flatMap frC,u.oneCell' = true:=by
 intro u hu
 obtain ⟨y,_,h⟩:=List.mem_flatMap.1 hu
 simp only [frC,List.mem_cons,List.not_mem_nil,or_false] at h
 rcases h with rfl | rfl | rfl | rfl <;> rfl
theorem one_pg (l : List PgM) : ∀ u ∈ l.flatMap pgC,u.oneCell' = true:=by
 intro u hu
 obtain ⟨y,_,h⟩:=List.mem_flatMap.1 hu
 simp only [pgC,List.mem_cons,List.not_mem_nil,or_false] at h
 subst h; rfl
theorem SPg.fl {w : World} {a : Option Addr} {n : Nat} {l : List PgM} (h : SPg w a n l) : Fl w a n (l.flatMap pgC) :=
 fm_fl (k:=1) pgC (fun _ => rfl) (by decide) (h.at_.imp id fun ⟨b,off,e,hc⟩ => ⟨b,off,e,fun j x hj q y hq => by
  match q,hq with
  | 0,hq =>
   simp [pgC] at hq
   subst hq
   have:=hc j x hj
   rw [Nat.mul_one,Nat.add_zero]; exact this
  | q + 1,hq => simp [pgC] at hq⟩)
theorem SFr.fl {w : World} {a : Option Addr} {n : Nat} {l : List FrM} (h : SFr w a n l) : Fl w a n (l.flatMap frC) :=
 fm_fl (k:=4) frC (fun _ => rfl) (by decide) (h.at_.imp id fun ⟨b,off,e,hc⟩ => ⟨b,off,e,fun j x hj q y hq => by
  obtain ⟨g0,g1,g2,g3⟩:=hc j x hj
  match q,hq with
  | 0,hq | 1,hq | 2,hq | 3,hq =>
   simp [frC] at hq
   subst hq
   first | exact g0 | exact g1 | exact g2 | exact g3
  | q + 4,hq => simp [frC] at hq⟩)
def LW (w : World) (base : Nat) (h : Option Addr × Nat × Nat) (l : List Int) : Prop:=w.ownsRow base 43 1 (.slice h.1 h.2.1 h.2.2) h.2.1 (l.map (Value.int .u64))
def LB (w : World) (base : Nat) (h : Option Addr × Nat × Nat) (l : List Int) : Prop:=w.ownsRow base 5 1 (.slice h.1 h.2.1 h.2.2) h.2.1 (l.map (Value.int .u8))
theorem own_lat {w w' : World} {base e k n : Nat} {v : Value} {xs : List Value} (h : w.ownsRow base e k v n xs) (hb : Below w.heap.size w w') : w'.ownsRow base e k v n xs:=own_keepB h (kept_of (S:=fun _ => False) hb) (fun _ _ h => h)
theorem own_far {w : World} {base e k n : Nat} {v : Value} {xs : List Value} {b o : Nat} {u : Value} {cur : Array Value} {t : TypeId} (h : w.ownsRow base e k v n xs) (hb : w.heap[b]? = some (.cells cur t)) (ht : t ≠ e) : (w.setCell ⟨b,o,none⟩ u).ownsRow base e k v n xs :=
 own_keepB h (kept_set w b o u) (fun c hc e => by
  obtain ⟨_,_,cur2,h2⟩:=own_ty h hc
  have e : c = b:=e
  subst e
  rw [hb] at h2
  simp at h2
  exact ht h2.2)
end Go.Proofs.YtmgjhfookhaajaaGreatDoor

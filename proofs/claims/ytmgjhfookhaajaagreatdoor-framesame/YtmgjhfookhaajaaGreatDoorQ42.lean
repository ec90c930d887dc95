/-
  Texts Fu.
-/
import Derived.Test.YtmgjhfookhaajaaGreatDoorQ41
set_option linter.unusedVariables false
set_option maxRecDepth 100000
set_option maxHeartbeats 16000000
namespace Go.Proofs.YtmgjhfookhaajaaGreatDoor
open Go.RowKit
def WN (k : IntKind) (ty : TypeId) (W : World) (base top : Nat) (a : Option Addr) (n : Nat) : Prop :=
 n = 0 ∨ ∃ b cur,a = some ⟨b,0,none⟩ ∧ base ≤ b ∧ b < top ∧ W.heap[b]? = some (.cells cur ty) ∧ ∀ j,j < n → ∃ z,cur[j]? = some (.int k z)
def FN (W : World) (base top : Nat) (a : Option Addr) (n : Nat) (l : List FrM) : Prop :=
 n = 0 ∨ ∃ b cur,a = some ⟨b,0,none⟩ ∧ base ≤ b ∧ b < top ∧ W.heap[b]? = some (.cells cur 40) ∧ ∀ (j : Nat) x,l[j]? = some x → cur[j * 4]? = some (.int .i64 x.1) ∧ (∃ p,cur[j * 4 + 1]? = some (.int .i64 p)) ∧ cur[j * 4 + 2]? = some (.slice x.2.2.1.1.1 x.2.2.1.1.2.1 x.2.2.1.1.2.2) ∧ cur[j * 4 + 3]? = some (.slice x.2.2.2.1.1 x.2.2.2.1.2.1 x.2.2.2.1.2.2)
def PN (W : World) (base top : Nat) (a : Option Addr) (n : Nat) (l : List PgM) : Prop :=
 n = 0 ∨ ∃ b cur,a = some ⟨b,0,none⟩ ∧ base ≤ b ∧ b < top ∧ W.heap[b]? = some (.cells cur 44) ∧ ∀ (j : Nat) x,l[j]? = some x → cur[j]? = some (.slice x.1.1 x.1.2.1 x.1.2.2)
theorem WN.later {k : IntKind} {ty : TypeId} {W W' : World} {base top : Nat} {a : Option Addr} {n : Nat} (h : WN k ty W base top a n) (hb : Below W.heap.size W W') : WN k ty W' base top a n :=
 h.imp id fun ⟨b,cur,e,h1,h2,h3,h4⟩ => ⟨b,cur,e,h1,h2,nb_later hb h3,h4⟩
theorem FN.later {W W' : World} {base top : Nat} {a : Option Addr} {n : Nat} {l : List FrM} (h : FN W base top a n l) (hb : Below W.heap.size W W') : FN W' base top a n l :=
 h.imp id fun ⟨b,cur,e,h1,h2,h3,h4⟩ => ⟨b,cur,e,h1,h2,nb_later hb h3,h4⟩
theorem PN.later {W W' : World} {base top : Nat} {a : Option Addr} {n : Nat} {l : List PgM} (h : PN W base top a n l) (hb : Below W.heap.size W W') : PN W' base top a n l :=
 h.imp id fun ⟨b,cur,e,h1,h2,h3,h4⟩ => ⟨b,cur,e,h1,h2,nb_later hb h3,h4⟩
theorem WN.put {k : IntKind} {ty ty' : TypeId} {W : World} {base top : Nat} {a : Option Addr} {n b' i : Nat} {cur' : Array Value} {u : Value} (h : WN k ty W base top a n) (hb : W.heap[b']? = some (.cells cur' ty')) (hu : ty' = ty → ∃ z,u = .int k z) : WN k ty (W.setCell ⟨b',i,none⟩ u) base top a n:=by
 refine h.imp id fun ⟨b,cur,e,h1,h2,h3,h4⟩ => ?_
 by_cases hbb : b = b'
 ·subst hbb
  rw [h3] at hb
  cases hb
  obtain ⟨z,rfl⟩:=hu rfl
  refine ⟨b,_,e,h1,h2,setBlk h3,fun j hj => ?_⟩
  obtain ⟨y,hy⟩:=h4 j hj
  by_cases hij : i = j
  ·subst hij
   have hl : i < cur'.size:=by
    rcases Nat.lt_or_ge i cur'.size with hl | hl
    ·exact hl
    ·rw [Array.getElem?_eq_none hl] at hy; cases hy
   exact ⟨z,by simp [hl]⟩
  ·exact ⟨y,by simp [hij,hy]⟩
 ·exact ⟨b,cur,e,h1,h2,nb_far h3 hbb,h4⟩
theorem PN.put {ty' : TypeId} {W : World} {base top : Nat} {a : Option Addr} {n b' i : Nat} {l : List PgM} {cur' : Array Value} {u : Value} (h : PN W base top a n l) (hb : W.heap[b']? = some (.cells cur' ty')) (ht : ty' ≠ 44) : PN (W.setCell ⟨b',i,none⟩ u) base top a n l:=by
 refine h.imp id fun ⟨b,cur,e,h1,h2,h3,h4⟩ => ?_
 by_cases hbb : b = b'
 ·subst hbb
  rw [h3] at hb
  cases hb
  exact absurd rfl ht
 ·exact ⟨b,cur,e,h1,h2,nb_far h3 hbb,h4⟩
theorem FN.put {ty' : TypeId} {W : World} {base top : Nat} {a : Option Addr} {n b' i : Nat} {l : List FrM} {cur' : Array Value} {u : Value} (h : FN W base top a n l) (hb : W.heap[b']? = some (.cells cur' ty')) (ht : ty' = 40 → i % 4 = 1 ∧ ∃ z,u = .int .i64 z) : FN (W.setCell ⟨b',i,none⟩ u) base top a n l:=by
 refine h.imp id fun ⟨b,cur,e,h1,h2,h3,h4⟩ => ?_
 by_cases hbb : b = b'
 ·subst hbb
  rw [h3] at hb
  cases hb
  obtain ⟨hi,z,rfl⟩:=ht rfl
  refine ⟨b,_,e,h1,h2,setBlk h3,fun j x hj => ?_⟩
  obtain ⟨a0,⟨p,a1⟩,a2,a3⟩:=h4 j x hj
  have n0 : i ≠ j * 4:=by omega
  have n2 : i ≠ j * 4 + 2:=by omega
  have n3 : i ≠ j * 4 + 3:=by omega
  refine ⟨by simp [n0,a0],?_,by simp [n2,a2],by simp [n3,a3]⟩
  by_cases hij : i = j * 4 + 1
  ·subst hij
   have hl : j * 4 + 1 < cur'.size:=by
    rcases Nat.lt_or_ge (j * 4 + 1) cur'.size with hl | hl
    ·exact hl
    ·rw [Array.getElem?_eq_none hl] at a1; cases a1
   exact ⟨z,by simp [hl]⟩
  ·exact ⟨p,by simp [hij,a1]⟩
 ·exact ⟨b,cur,e,h1,h2,nb_far h3 hbb,h4⟩
theorem WN.of_row {k : IntKind} {ty : TypeId} {w : World} {base : Nat} {a : Option Addr} {n c : Nat} {l : List Int} (h : w.ownsRow base ty 1 (.slice a n c) n (l.map (Value.int k))) : WN k ty w base w.heap.size a n:=by
 have hlen:=h.1
 rw [List.length_map,Nat.mul_one] at hlen
 rcases h.2 with ⟨_,h0⟩ | ⟨g,cap,cur,e,hg,hc,hx⟩
 ·exact .inl h0
 ·injection e with e1 _ _
  subst e1
  refine .inr ⟨g,cur,rfl,hg,nb_lt hc,hc,fun j hj => ?_⟩
  have:=World.ownsRow.cellAt h j (by omega)
  rw [cell_at hc,List.getElem?_map,List.getElem?_eq_getElem (by omega)] at this
  exact ⟨_,this⟩
structure CWr (W : World) (base top : Nat) (t : StM) : Prop where
 fl : t.fs.length = t.fn
 pl : t.ps.length = t.pn
 f : FN W base top t.fa t.fn t.fs
 p : PN W base top t.pa t.pn t.ps
 fi : ∀ x ∈ t.fs,WN .u64 43 W base top x.2.2.1.1.1 x.2.2.1.1.2.1 ∧ WN .u64 43 W base top x.2.2.2.1.1 x.2.2.2.1.2.1
 pi : ∀ x ∈ t.ps,WN .u8 5 W base top x.1.1 x.1.2.1
 g : WN .u64 43 W base top t.ga t.gn
 r : WN .u64 43 W base top t.ra t.rn
theorem CWr.later {W W' : World} {base top : Nat} {t : StM} (h : CWr W base top t) (hb : Below W.heap.size W W') : CWr W' base top t :=
 ⟨h.fl,h.pl,h.f.later hb,h.p.later hb,fun x hx => ⟨(h.fi x hx).1.later hb,(h.fi x hx).2.later hb⟩,fun x hx => (h.pi x hx).later hb,h.g.later hb,h.r.later hb⟩
def Fit (ty : TypeId) (i : Nat) (u : Value) : Prop:=(ty = 43 ∧ ∃ z,u = .int .u64 z) ∨ (ty = 5 ∧ ∃ z,u = .int .u8 z) ∨ (ty = 40 ∧ i % 4 = 1 ∧ ∃ z,u = .int .i64 z)
theorem CWr.put {ty' : TypeId} {W : World} {base top b' i : Nat} {t : StM} {cur' : Array Value} {u : Value} (h : CWr W base top t) (hb : W.heap[b']? = some (.cells cur' ty')) (hu : Fit ty' i u) : CWr (W.setCell ⟨b',i,none⟩ u) base top t:=by
 have u8 : ty' = 5 → ∃ z,u = .int .u8 z:=fun e => by
  rcases hu with ⟨e',_⟩ | ⟨_,h⟩ | ⟨e',_⟩
  ·rw [e] at e'; cases e'
  ·exact h
  ·rw [e] at e'; cases e'
 have u6 : ty' = 43 → ∃ z,u = .int .u64 z:=fun e => by
  rcases hu with ⟨_,h⟩ | ⟨e',_⟩ | ⟨e',_⟩
  ·exact h
  ·rw [e] at e'; cases e'
  ·rw [e] at e'; cases e'
 have u4 : ty' = 40 → i % 4 = 1 ∧ ∃ z,u = .int .i64 z:=fun e => by
  rcases hu with ⟨e',_⟩ | ⟨e',_⟩ | ⟨_,h⟩
  ·rw [e] at e'; cases e'
  ·rw [e] at e'; cases e'
  ·exact h
 have up : ty' ≠ 44:=fun e => by
  rcases hu with ⟨e',_⟩ | ⟨e',_⟩ | ⟨e',_⟩ <;> · rw [e] at e'; cases e'
 exact ⟨h.fl,h.pl,h.f.put hb u4,h.p.put hb up,fun x hx => ⟨(h.fi x hx).1.put hb u6,(h.fi x hx).2.put hb u6⟩,fun x hx => (h.pi x hx).put hb u8,h.g.put hb u6,h.r.put hb u6⟩
theorem CSt.wide {w : World} {base : Nat} {t : StM} (h : CSt w base t) : CWr w base w.heap.size t:=by
 refine ⟨h.flen,h.plen,?_,?_,fun x hx => ⟨WN.of_row (h.fin x hx).1,WN.of_row (h.fin x hx).2⟩,fun x hx => WN.of_row (h.pin x hx),WN.of_row h.glo,WN.of_row h.res⟩
 ·have hr:=h.frow
  rcases hr.2 with ⟨_,h0⟩ | ⟨g,cap,cur,e,hg,hc,hx⟩
  ·exact .inl h0
  ·injection e with e1 _ _
   refine .inr ⟨g,cur,e1,hg,nb_lt hc,hc,fun j x hj => ?_⟩
   rw [e1] at hr
   have hl:=lt_of_get hj
   have hq : ∀ q,q < 4 → cur[j * 4 + q]? = (frC x)[q]?:=fun q hq => by
    have:=World.ownsRow.cellAt hr (j * 4 + q) (by have:=h.flen; omega)
    rw [cell_at hc,fm_get frC 4 (fun _ => rfl) _ _ _ hq,hj] at this
    exact this
   exact ⟨hq 0 (by omega),⟨_,hq 1 (by omega)⟩,hq 2 (by omega),hq 3 (by omega)⟩
 ·have hr:=h.prow
  rcases hr.2 with ⟨_,h0⟩ | ⟨g,cap,cur,e,hg,hc,hx⟩
  ·exact .inl h0
  ·injection e with e1 _ _
   refine .inr ⟨g,cur,e1,hg,nb_lt hc,hc,fun j x hj => ?_⟩
   rw [e1] at hr
   have hl:=lt_of_get hj
   have:=World.ownsRow.cellAt hr j (by have:=h.plen; omega)
   rw [cell_at hc,pg_flat,List.getElem?_map,hj] at this
   exact this
theorem CSt.above {S : Nat → Prop} {w w' : World} {base : Nat} {t : StM} (h : CSt w base t) (hk : Kept S w w') (hS : ∀ b,S b → b < base) : CSt w' base t:=by
 have ho : ∀ {e k n : Nat} {v : Value} {xs : List Value},w.ownsRow base e k v n xs → w'.ownsRow base e k v n xs:=fun hr => own_keepB hr hk (fun b hb hs => by
  have h1:=(own_ty hr hb).1
  have h2:=hS b hs
  omega)
 exact ⟨h.flen,h.plen,ho h.frow,fun x hx => ⟨ho (h.fin x hx).1,ho (h.fin x hx).2⟩,ho h.prow,fun x hx => ho (h.pin x hx),ho h.glo,ho h.res⟩
structure LV (W0 : World) (base top : Nat) (t : StM) (W : World) : Prop where
 k : Kept (fun b => base ≤ b ∧ b < top) W0 W
 c : CWr W base top t
theorem LV.put {W0 W : World} {base top : Nat} {t : StM} {ty : TypeId} {b i : Nat} {cur : Array Value} {u : Value} (h : LV W0 base top t W) (hb : W.heap[b]? = some (.cells cur ty)) (hu : Fit ty i u) (h1 : base ≤ b) (h2 : b < top) : LV W0 base top t (W.setCell ⟨b,i,none⟩ u) :=
 ⟨h.k.then (kept_set W b i u) (fun k _ e => by have e : k = b:=e; subst e; exact ⟨h1,h2⟩),h.c.put hb hu⟩
theorem WN.at_ {k : IntKind} {ty : TypeId} {W : World} {base top : Nat} {a : Option Addr} {n j : Nat} (h : WN k ty W base top a n) (hj : j < n) : ∃ b cur z,a = some ⟨b,0,none⟩ ∧ base ≤ b ∧ b < top ∧ W.heap[b]? = some (.cells cur ty) ∧ W.cell? ⟨b,j,none⟩ = some (.int k z) ∧ W.frozen? ⟨b,j,none⟩ = false:=by
 obtain ⟨b,cur,e,h1,h2,h3,h4⟩:=h.resolve_left (by omega)
 obtain ⟨z,hz⟩:=h4 j hj
 exact ⟨b,cur,z,e,h1,h2,h3,(cell_at h3).trans hz,free_at h3⟩
theorem FN.at_ {W : World} {base top : Nat} {a : Option Addr} {n : Nat} {l : List FrM} {j : Nat} {x : FrM} (h : FN W base top a n l) (hn : j < n) (hj : l[j]? = some x) : ∃ b cur p,a = some ⟨b,0,none⟩ ∧ base ≤ b ∧ b < top ∧ W.heap[b]? = some (.cells cur 40) ∧ W.cell? ⟨b,j * 4 + 1,none⟩ = some (.int .i64 p) ∧ W.frozen? ⟨b,j * 4 + 1,none⟩ = false ∧ W.cell? ⟨b,j * 4 + 2,none⟩ = some (.slice x.2.2.1.1.1 x.2.2.1.1.2.1 x.2.2.1.1.2.2) ∧ W.cell? ⟨b,j * 4 + 3,none⟩ = some (.slice x.2.2.2.1.1 x.2.2.2.1.2.1 x.2.2.2.1.2.2):=by
 obtain ⟨b,cur,e,h1,h2,h3,h4⟩:=h.resolve_left (by omega)
 obtain ⟨a0,⟨p,a1⟩,a2,a3⟩:=h4 j x hj
 exact ⟨b,cur,p,e,h1,h2,h3,(cell_at h3).trans a1,free_at h3,(cell_at h3).trans a2,(cell_at h3).trans a3⟩
theorem PN.at_ {W : World} {base top : Nat} {a : Option Addr} {n : Nat} {l : List PgM} {j : Nat} {x : PgM} (h : PN W base top a n l) (hn : j < n) (hj : l[j]? = some x) : ∃ b,a = some ⟨b,0,none⟩ ∧ W.cell? ⟨b,j,none⟩ = some (.slice x.1.1 x.1.2.1 x.1.2.2):=by
 obtain ⟨b,cur,e,h1,h2,h3,h4⟩:=h.resolve_left (by omega)
 exact ⟨b,e,(cell_at h3).trans (h4 j x hj)⟩
end Go.Proofs.YtmgjhfookhaajaaGreatDoor

/-
  What a store makes of a memory.
-/
import Derived.Test.YtedkmfklobipaaaDoorMa
import Derived.Deep.MidRow
namespace Go.Proofs.YtedkmfklobipaaaDoor
open Go.RowKit
set_option linter.unusedVariables false

theorem set_take (l : List Value) (o : Nat) (v : Value) (h : o < l.length) : (l.set o v).take (o + 1) = l.take o ++ [v] := by
  rw [List.take_add_one, List.getElem?_set_self h]
  congr 1
  apply List.ext_getElem?
  intro j
  by_cases hj : j < o
  · rw [List.getElem?_take_of_lt hj, List.getElem?_take_of_lt hj, List.getElem?_set_ne (by omega)]
  · rw [List.getElem?_eq_none (by simp; omega), List.getElem?_eq_none (by simp; omega)]
theorem set_drop (l : List Value) (o n : Nat) (v : Value) (h : o < n) : (l.set o v).drop n = l.drop n := by
  apply List.ext_getElem?
  intro j
  rw [List.getElem?_drop, List.getElem?_drop, List.getElem?_set_ne (by omega)]

theorem heap_setCells_same (b : Nat) (t : TypeId) : ∀ (vs : List Value) (o : Nat) (w : World) (cur : Array Value), w.heap[b]? = some (Obj.cells cur t) → o + vs.length ≤ cur.size →
    (w.setCells b o vs).heap[b]? = some (Obj.cells (cur.toList.take o ++ vs ++ cur.toList.drop (o + vs.length)).toArray t)
  | [], o, w, cur, h, hl => by simp [World.setCells, h]
  | v :: r, o, w, cur, h, hl => by
    simp only [List.length_cons] at hl
    have h1 : (w.setCell ⟨b, o, none⟩ v).heap[b]? = some (Obj.cells (cur.setIfInBounds o v) t) := heap_setCell_same w b o cur t v h
    have := heap_setCells_same b t r (o + 1) _ _ h1 (by simp; omega)
    rw [World.setCells, this]
    congr 3
    simp only [Array.toList_setIfInBounds, List.length_cons]
    rw [set_take _ _ _ (by simp; omega), set_drop _ _ _ _ (by omega), show o + 1 + r.length = o + (r.length + 1) by omega]
    simp
theorem heap_setCells_other (b : Nat) : ∀ (vs : List Value) (o : Nat) (w : World) (k : Nat), k ≠ b → (w.setCells b o vs).heap[k]? = w.heap[k]?
  | [], o, w, k, h => rfl
  | v :: r, o, w, k, h => by
    rw [World.setCells, heap_setCells_other b r (o + 1) _ k h, heap_setCell_other _ _ _ _ (by simpa using h)]
theorem kept_setCells (b : Nat) : ∀ (vs : List Value) (o : Nat) (w : World), Kept (fun k => k = b) w (w.setCells b o vs)
  | [], o, w => Kept.refl _ _
  | v :: r, o, w => (show Kept (fun k => k = b) w (w.setCell ⟨b, o, none⟩ v) from ⟨rfl, rfl, rfl, by simp [World.setCell], fun k hk hs => heap_setCell_other _ _ _ _ (by simpa using hs)⟩).trans (kept_setCells b r (o + 1) _)
theorem kept_setCell (w : World) (b o : Nat) (v : Value) : Kept (fun k => k = b) w (w.setCell ⟨b, o, none⟩ v) :=
  ⟨rfl, rfl, rfl, by simp [World.setCell], fun k hk hs => heap_setCell_other _ _ _ _ (by simpa using hs)⟩

def upd {A : Type} (f : Nat → A) (a : Nat) (v : A) (x : Nat) : A := if x = a then v else f x

theorem memC_ext {c : Array Value} {most : Nat} {sv : Value} {d : Nat → Bool} (h0 : c.size = 67) (h1 : c[0]? = some (.bool true)) (h2 : c[1]? = some (.int .i64 most)) (h3 : c[2]? = some sv) (h4 : ∀ i, i < 64 → c[3 + i]? = some (.bool (d i))) : c = memC most sv d := by
  apply Array.ext_getElem?
  intro j
  by_cases hj : j < 67
  · match j, hj with
    | 0, _ => rw [h1]; rfl
    | 1, _ => rw [h2]; rfl
    | 2, _ => rw [h3]; rfl
    | j + 3, hj => rw [show j + 3 = 3 + j by omega, h4 j (by omega), memC_mark _ _ _ j (by omega)]
  · rw [Array.getElem?_eq_none (by omega), Array.getElem?_eq_none (by rw [memC_size]; omega)]
theorem memC_set_mark (most : Nat) (sv : Value) (d : Nat → Bool) (i : Nat) (b : Bool) (hi : i < 64) : (memC most sv d).setIfInBounds (3 + i) (.bool b) = memC most sv (upd d i b) := by
  have hsz := memC_size most sv d
  refine memC_ext (by simp [hsz]) ?_ ?_ ?_ (fun j hj => ?_)
  · rw [Array.getElem?_setIfInBounds_ne (by omega)]; rfl
  · rw [Array.getElem?_setIfInBounds_ne (by omega)]; rfl
  · rw [Array.getElem?_setIfInBounds_ne (by omega)]; rfl
  · by_cases e : j = i
    · subst e
      rw [Array.getElem?_setIfInBounds_self_of_lt (by omega)]; simp [upd]
    · rw [Array.getElem?_setIfInBounds_ne (by omega), memC_mark _ _ _ j hj]; simp [upd, e]
theorem memC_set_list (most : Nat) (sv sv' : Value) (d : Nat → Bool) : (memC most sv d).setIfInBounds 2 sv' = memC most sv' d := by
  have hsz := memC_size most sv d
  refine memC_ext (by simp [hsz]) ?_ ?_ ?_ (fun j hj => ?_)
  · rw [Array.getElem?_setIfInBounds_ne (by omega)]; rfl
  · rw [Array.getElem?_setIfInBounds_ne (by omega)]; rfl
  · rw [Array.getElem?_setIfInBounds_self_of_lt (by omega)]
  · rw [Array.getElem?_setIfInBounds_ne (by omega), memC_mark _ _ _ j hj]
theorem memC_set_marks (most : Nat) (sv : Value) (d d' : Nat → Bool) : ((memC most sv d).toList.take 3 ++ marksL d' ++ (memC most sv d).toList.drop (3 + (marksL d').length)).toArray = memC most sv d' := by
  have : (memC most sv d).toList.drop (3 + (marksL d').length) = [] := by
    apply List.drop_eq_nil_of_le
    rw [marksL_len, Array.length_toList, memC_size]; omega
  rw [this, List.append_nil]
  rfl
theorem pageC_set (f : Nat → Int) (i k : Nat) (z : Int) (hk : k < 4096) : (pageC f i).setIfInBounds k (.int .u8 z) = pageC (upd f (i * 4096 + k) z) i := by
  apply Array.ext_getElem?
  intro j
  by_cases hj : j < 4096
  · rw [pageC_get _ _ _ hj]
    by_cases e : j = k
    · subst e
      rw [Array.getElem?_setIfInBounds_self_of_lt (by rw [pageC_size]; omega)]; simp [upd]
    · rw [Array.getElem?_setIfInBounds_ne (by omega), pageC_get _ _ _ hj]
      have : ¬ i * 4096 + j = i * 4096 + k := by omega
      unfold upd; rw [if_neg this]
  · rw [Array.getElem?_eq_none (by simp [pageC_size]; omega), Array.getElem?_eq_none (by rw [pageC_size]; omega)]
theorem pageC_congr {f g : Nat → Int} {i : Nat} (h : ∀ k, k < 4096 → f (i * 4096 + k) = g (i * 4096 + k)) : pageC f i = pageC g i := by
  apply Array.ext_getElem?
  intro j
  by_cases hj : j < 4096
  · rw [pageC_get _ _ _ hj, pageC_get _ _ _ hj, h j hj]
  · rw [Array.getElem?_eq_none (by rw [pageC_size]; omega), Array.getElem?_eq_none (by rw [pageC_size]; omega)]

section
variable {w : World} {R most : Nat} {sv : Value} {PB : List Nat} {f : Nat → Int} {d : Nat → Bool}

theorem Mem.R_ne_list (h : Mem w R most sv PB f d) (B : Nat) (hB : sv.ownBlock = some B) : B ≠ R := by
  intro e
  subst e
  rcases h.own.2 with ⟨e, _⟩ | ⟨g, cap, cur, e, _, h3, _⟩
  · rw [e] at hB; cases hB
  · rw [e] at hB
    obtain rfl : g = B := by simpa [Value.ownBlock] using hB
    have := h.blk
    rw [h3] at this
    simp at this
theorem Mem.R_ne_page (h : Mem w R most sv PB f d) {p : Nat} (hp : p ∈ PB) : p ≠ R := by
  intro e
  subst e
  obtain ⟨i, hi⟩ := List.getElem?_of_mem hp
  have h1 := h.pg i _ hi
  rw [h.blk] at h1
  simp at h1
theorem Mem.page_ne_list (h : Mem w R most sv PB f d) {p : Nat} (hp : p ∈ PB) : sv.ownBlock ≠ some p := by
  intro hB
  obtain ⟨i, hi⟩ := List.getElem?_of_mem hp
  have h1 := h.pg i _ hi
  rcases h.own.2 with ⟨e, _⟩ | ⟨g, cap, cur, e, _, h3, _⟩
  · rw [e] at hB; cases hB
  · rw [e] at hB
    obtain rfl : g = p := by simpa [Value.ownBlock] using hB
    rw [h3] at h1
    simp at h1

/-- Its block's cells are written. -/
theorem Mem.reblk {w' : World} {d' : Nat → Bool} (h : Mem w R most sv PB f d) (hk : Kept (fun k => k = R) w w') (hb : w'.heap[R]? = some (Obj.cells (memC most sv d') 79)) (hd : ∀ i, d' i = true → i < PB.length) : Mem w' R most sv PB f d' := by
  refine ⟨hb, own_keep h.own (fun B hB => hk.block B (h.fp_lt (.inr (.inl hB))) (h.R_ne_list B hB)), fun i p hp => ?_, h.nd, h.le, h.top, h.rng, hd, h.nt⟩
  have := h.pg i p hp
  exact (hk.block p (lt_at this) (h.R_ne_page (List.mem_of_getElem? hp))).trans this
theorem Mem.mark (h : Mem w R most sv PB f d) (i : Nat) (hi : i < PB.length) : Mem (w.setCell ⟨R, 3 + i, none⟩ (.bool true)) R most sv PB f (upd d i true) := by
  have hl := h.le
  have ht := h.top
  refine h.reblk (kept_setCell w R (3 + i) _) ?_ (fun j hj => ?_)
  · rw [← memC_set_mark most sv d i true (by omega)]
    exact heap_setCell_same w R (3 + i) _ _ _ h.blk
  · unfold upd at hj
    split at hj
    · omega
    · exact h.dr j hj
theorem Mem.marks (h : Mem w R most sv PB f d) : Mem (w.setCells R 3 (marksL fun _ => false)) R most sv PB f (fun _ => false) := by
  refine h.reblk (kept_setCells R _ 3 w) ?_ (fun j hj => by cases hj)
  rw [← memC_set_marks most sv d (fun _ => false)]
  exact heap_setCells_same R _ _ 3 w _ h.blk (by rw [marksL_len, memC_size]; omega)
theorem Mem.byte (h : Mem w R most sv PB f d) {i p k : Nat} (hp : PB[i]? = some p) (hk : k < 4096) (z : Int) (hz : 0 ≤ z ∧ z ≤ 255) : Mem (w.setCell ⟨p, k, none⟩ (.int .u8 z)) R most sv PB (upd f (i * 4096 + k) z) d := by
  have hm := List.mem_of_getElem? hp
  have hK := kept_setCell w p k (.int .u8 z)
  refine ⟨(hK.block R h.lt (fun e => h.R_ne_page hm e.symm)).trans h.blk, own_keep h.own (fun B hB => hK.block B (h.fp_lt (.inr (.inl hB))) (fun e => h.page_ne_list hm (e ▸ hB))), fun j q hq => ?_, h.nd, h.le, h.top, fun a => ?_, h.dr, fun a ha => ?_⟩
  · by_cases e : j = i
    · subst e
      obtain rfl : p = q := by rw [hp] at hq; simpa using hq
      rw [← pageC_set f j k z hk]
      exact heap_setCell_same w p k _ _ _ (h.pg j p hp)
    · have hq0 := h.pg j q hq
      have hne : q ≠ p := by
        intro e2
        subst e2
        have h1 : j < PB.length := (List.getElem?_eq_some_iff.1 hq).1
        exact e ((List.getElem?_inj h1 h.nd).1 (hq.trans hp.symm))
      have : pageC (upd f (i * 4096 + k) z) j = pageC f j := pageC_congr (fun x hx => by
        have : ¬ j * 4096 + x = i * 4096 + k := by omega
        unfold upd; rw [if_neg this])
      rw [this]
      exact (hK.block q (lt_at hq0) hne).trans hq0
  · unfold upd
    split
    · exact hz
    · exact h.rng a
  · have h1 : i < PB.length := (List.getElem?_eq_some_iff.1 hp).1
    have : ¬ a = i * 4096 + k := by omega
    unfold upd
    rw [if_neg this]
    exact h.nt a ha
theorem Mem.pcell (h : Mem w R most sv PB f d) {i p k : Nat} (hp : PB[i]? = some p) (hk : k < 4096) : w.cell? ⟨p, k, none⟩ = some (.int .u8 (f (i * 4096 + k))) := by
  rw [cell_at (h.pg i p hp)]; exact pageC_get f i k hk
theorem Mem.pfree (h : Mem w R most sv PB f d) {i p : Nat} (hp : PB[i]? = some p) (k : Nat) : w.frozen? ⟨p, k, none⟩ = false := free_at (h.pg i p hp)
end
end Go.Proofs.YtedkmfklobipaaaDoor

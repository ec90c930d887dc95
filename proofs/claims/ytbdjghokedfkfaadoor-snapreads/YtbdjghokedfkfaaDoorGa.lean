/-
  Turned by program from the seat YtbdjghokedfkfaaDoor.
-/
import Derived.Deep.RegionHeld3
import Derived.Test.YtbdjghokedfkfaaDoorVf
namespace Go.Proofs.YtbdjghokedfkfaaDoor
open Go.RowKit
set_option linter.unusedVariables false
set_option maxRecDepth 100000
/-- The first k marks of the list n. -/
def ml (mk : Nat → Nat → Value) (n k : Nat) : List Value := (List.range k).map (mk n)
theorem ml_len {mk : Nat → Nat → Value} (n k : Nat) : (ml mk n k).length = k := by simp [ml]
theorem ml_get {mk : Nat → Nat → Value} (n k i : Nat) (h : i < k) : (ml mk n k)[i]? = some (mk n i) := by simp [ml, h]
theorem ml_succ {mk : Nat → Nat → Value} (n k : Nat) : ml mk n (k + 1) = ml mk n k ++ [mk n k] := by simp [ml, List.range_succ]
theorem ml_take {mk : Nat → Nat → Value} (n k k' : Nat) (h : k ≤ k') : (ml mk n k').take k = ml mk n k := by
  simp only [ml, ← List.map_take, List.take_range]
  rw [Nat.min_eq_left h]
/-- A row of marks, with its owner. -/
def TR (e : TypeId) (mk : Nat → Nat → Value) (w : World) (f : Nat → Nat) (b j k c : Nat) : Prop := Row w e b k c (ml mk j k) ∧ f b = j
theorem TR.cell {e : TypeId} {mk : Nat → Nat → Value} {w : World} {f : Nat → Nat} {b j k c : Nat} (h : TR e mk w f b j k c) (i : Nat) (hi : i < k) : w.cell? ⟨b, i, none⟩ = some (mk j i) := by
  rw [h.1.cell i hi, ml_get j k i hi]
/-- The row of k cells that a longer row of the same block holds. -/
theorem Row.pre {e : TypeId} {mk : Nat → Nat → Value} {w : World} {b k k' c' j : Nat} (h : Row w e b k' c' (ml mk j k')) (hk : k ≤ k') : Row w e b k c' (ml mk j k) := by
  obtain ⟨cur, e1, e2, e3, e4, e5⟩ := h.block
  refine ⟨by simp [ml_len], .inr ⟨b, c', cur, rfl, Nat.zero_le _, e1, by omega, e3, by simpa using e4, ?_⟩⟩
  rw [Nat.mul_one, ← ml_take j k k' hk, ← e5, List.take_take, Nat.min_eq_left hk]
theorem Row.capEq {e : TypeId} {w : World} {b k k' c c' : Nat} {xs xs' : List Value} (h : Row w e b k c xs) (h' : Row w e b k' c' xs') : c = c' := by
  obtain ⟨cur, e1, e2, e3, e4, e5⟩ := h.block
  obtain ⟨cur', f1, f2, f3, f4, f5⟩ := h'.block
  rw [e1] at f1
  simp at f1
  subst f1
  omega
/-- What an append of one element does: the row stays in its block, or moves to a new one. -/
def Went (w w' : World) (g cap B cap' : Nat) : Prop := (B = g ∧ cap' = cap ∧ Kept (fun x => x = B) w w') ∨ (w.heap.size ≤ B ∧ Kept (fun _ => False) w w')
/-- Where the row of g has gone on to (B, i + 1), the others stand. -/
theorem TR.step {e : TypeId} {mk : Nat → Nat → Value} {w w' : World} {f : Nat → Nat} {b j k c g n i cap B cap' : Nat} (h : TR e mk w f b j k c) (hl : TR e mk w f g n i cap) (hr : Row w' e B (i + 1) cap' (ml mk n (i + 1)))
    (hcase : Went w w' g cap B cap') (hk : b = g → k ≤ i) : TR e mk w' (fun x => if x = B then n else f x) b j k c := by
  by_cases hb : b = B
  · subst hb
    rcases hcase with ⟨rfl, rfl, hkp⟩ | ⟨hge, hkp⟩
    · have hj : j = n := by rw [← h.2, hl.2]
      subst hj
      obtain rfl := h.1.capEq hl.1
      exact ⟨hr.pre (by have := hk rfl; omega), by simp⟩
    · have := h.1.lt; omega
  · refine ⟨?_, by simp [hb]; exact h.2⟩
    rcases hcase with ⟨_, _, hkp⟩ | ⟨_, hkp⟩
    · exact h.1.kept hkp hb
    · exact h.1.kept hkp (fun x => x)
/-- Where a new row has come, the others stand. -/
theorem TR.fresh {e : TypeId} {mk : Nat → Nat → Value} {w w' : World} {f : Nat → Nat} {b j k c n B : Nat} (h : TR e mk w f b j k c) (hge : w.heap.size ≤ B) (hkp : Kept (fun _ => False) w w') : TR e mk w' (fun x => if x = B then n else f x) b j k c := by
  have hb : b ≠ B := by have := h.1.lt; omega
  exact ⟨h.1.kept hkp (fun x => x), by simp [hb]; exact h.2⟩
theorem TR.kept {e : TypeId} {mk : Nat → Nat → Value} {S : Nat → Prop} {w w' : World} {f : Nat → Nat} {b j k c : Nat} (h : TR e mk w f b j k c) (hk : Kept S w w') (hs : ¬ S b) : TR e mk w' f b j k c := ⟨h.1.kept hk hs, h.2⟩
/-- Slices of marks that are listed: the j-th has L j + d marks. -/
def Listed (e : TypeId) (mk : Nat → Nat → Value) (w : World) (f : Nat → Nat) (L : Nat → Nat) (d n : Nat) (vs : List Value) : Prop :=
  ∀ j, j < n → ∃ B c, vs[j]? = some (.slice (some ⟨B, 0, none⟩) (L j + d) c) ∧ TR e mk w f B j (L j + d) c
theorem Listed.nil {e : TypeId} {mk : Nat → Nat → Value} (w : World) (f : Nat → Nat) (L : Nat → Nat) (d : Nat) : Listed e mk w f L d 0 [] := fun j hj => absurd hj (by omega)
theorem Listed.map {e : TypeId} {mk : Nat → Nat → Value} {w w' : World} {f f' : Nat → Nat} {L : Nat → Nat} {d n : Nat} {vs : List Value} (h : Listed e mk w f L d n vs) (hm : ∀ j B c, j < n → TR e mk w f B j (L j + d) c → TR e mk w' f' B j (L j + d) c) : Listed e mk w' f' L d n vs := by
  intro j hj
  obtain ⟨B, c, e', t⟩ := h j hj
  exact ⟨B, c, e', hm j B c hj t⟩
theorem Listed.add {e : TypeId} {mk : Nat → Nat → Value} {w : World} {f : Nat → Nat} {L : Nat → Nat} {d n : Nat} {vs : List Value} {B c : Nat} (h : Listed e mk w f L d n vs) (hl : vs.length = n) (ht : TR e mk w f B n (L n + d) c) : Listed e mk w f L d (n + 1) (vs ++ [.slice (some ⟨B, 0, none⟩) (L n + d) c]) := by
  intro j hj
  by_cases e' : j = n
  · subst e'
    exact ⟨B, c, by rw [List.getElem?_append_right (by omega)]; simp [hl], ht⟩
  · obtain ⟨B', c', e', t'⟩ := h j (by omega)
    exact ⟨B', c', by rw [List.getElem?_append_left (by omega)]; exact e', t'⟩
/-- The blocks that may be written: those of the lists that are not nil. -/
def Own (m : Nat) (N : Nat → Prop) (G : Nat → Nat) : Nat → Prop := fun b => ∃ j, j < m ∧ N j ∧ b = G j
/-- The state of the walk behind the marking: the lists' own rows, 'one', 'more'. -/
structure St (e es : TypeId) (mk : Nat → Nat → Value) (w : World) (m : Nat) (N : Nat → Prop) (G L C : Nat → Nat) (wr : World) (f : Nat → Nat) (n1 n2 : Nat) (one more : Value) (ovs mvs : List Value) : Prop where
  kept : Kept (Own m N G) w wr
  own : ∀ j, j < m → N j → TR e mk wr f (G j) j (L j) (C j)
  ownOne : wr.ownsRow 0 es 1 one n1 ovs
  ones : Listed e mk wr f L 1 n1 ovs
  ownMore : wr.ownsRow 0 es 1 more n2 mvs
  mores : Listed e mk wr f L 70 n2 mvs
  newOne : ∀ B, one.ownBlock = some B → w.heap.size ≤ B
  newMore : ∀ B, more.ownBlock = some B → w.heap.size ≤ B
  apart : ∀ B, one.ownBlock = some B → more.ownBlock ≠ some B
theorem own_lt {e : TypeId} {w : World} {base : Nat} {v : Value} {n : Nat} {xs : List Value} (h : w.ownsRow base e 1 v n xs) {B : Nat} (hB : v.ownBlock = some B) : B < w.heap.size ∧ ∃ cur, w.heap[B]? = some (.cells cur e) := by
  rcases h.2 with ⟨rfl, _⟩ | ⟨g, cp, cur, rfl, h2, h3, h4⟩
  · simp [Value.ownBlock] at hB
  · obtain rfl : g = B := by simpa [Value.ownBlock] using hB
    refine ⟨?_, cur, h3⟩
    rcases Nat.lt_or_ge g w.heap.size with hl | hl
    · exact hl
    · rw [Array.getElem?_eq_none hl] at h3; cases h3
theorem own_ne {w : World} {e e' : TypeId} {v : Value} {n b k c B : Nat} {xs ys : List Value} (h : w.ownsRow 0 e 1 v n xs) (hB : v.ownBlock = some B) (hr : Row w e' b k c ys) (he : e ≠ e') : b ≠ B := by
  intro hb
  subst hb
  obtain ⟨_, cur, h1⟩ := own_lt h hB
  obtain ⟨cur', h2, _⟩ := hr.block
  rw [h1] at h2
  simp at h2
  exact he h2.2
/-- A list that is being gone on with: nil, or a row of marks. -/
def Lst (e : TypeId) (mk : Nat → Nat → Value) (w : World) (N : Nat → Prop) (G : Nat → Nat) (wr : World) (f : Nat → Nat) (n k : Nat) (v : Value) : Prop :=
  (v = .slice none 0 0 ∧ k = 0) ∨ ∃ g cap, v = .slice (some ⟨g, 0, none⟩) k cap ∧ TR e mk wr f g n k cap ∧ ((N n ∧ g = G n) ∨ w.heap.size ≤ g)
theorem Lst.own {e : TypeId} {mk : Nat → Nat → Value} {w : World} {N : Nat → Prop} {G : Nat → Nat} {wr : World} {f : Nat → Nat} {n k : Nat} {v : Value} (h : Lst e mk w N G wr f n k v) : wr.ownsRow 0 e 1 v k (ml mk n k) := by
  rcases h with ⟨rfl, rfl⟩ | ⟨g, cap, rfl, ht, _⟩
  · exact World.ownsRow_nil _ _ _ _
  · exact ht.1
theorem Lst.kept {e : TypeId} {mk : Nat → Nat → Value} {w : World} {N : Nat → Prop} {G : Nat → Nat} {wr w' : World} {f : Nat → Nat} {n k : Nat} {v : Value} (h : Lst e mk w N G wr f n k v) (hk : Kept (fun _ => False) wr w') : Lst e mk w N G w' f n k v := by
  rcases h with ⟨rfl, rfl⟩ | ⟨g, cap, rfl, ht, hg⟩
  · exact .inl ⟨rfl, rfl⟩
  · exact .inr ⟨g, cap, rfl, ht.kept hk (fun x => x), hg⟩
theorem Lst.slice {e : TypeId} {mk : Nat → Nat → Value} {w : World} {N : Nat → Prop} {G : Nat → Nat} {wr : World} {f : Nat → Nat} {n k : Nat} {v : Value} (h : Lst e mk w N G wr f n k v) : ∃ a c, v = .slice a k c := by
  rcases h with ⟨rfl, rfl⟩ | ⟨g, cap, rfl, _⟩
  · exact ⟨_, _, rfl⟩
  · exact ⟨_, _, rfl⟩
/-- A new block turns nothing. -/
theorem St.alloc {e es : TypeId} {mk : Nat → Nat → Value} {w : World} {m : Nat} {N : Nat → Prop} {G L C : Nat → Nat} {wr : World} {f : Nat → Nat} {n1 n2 : Nat} {one more : Value} {ovs mvs : List Value} (h : St e es mk w m N G L C wr f n1 n2 one more ovs mvs) (o : Obj) :
    St e es mk w m N G L C (wr.alloc o) f n1 n2 one more ovs mvs := by
  have hk := Kept.alloc (fun _ => False) wr o
  refine ⟨h.kept.then hk (fun _ _ x => x.elim), fun j hj hN => (h.own j hj hN).kept hk (fun x => x), own_keep h.ownOne fun B hB => hk.block B (own_lt h.ownOne hB).1 (fun x => x), h.ones.map fun j B c _ t => t.kept hk (fun x => x),
    own_keep h.ownMore fun B hB => hk.block B (own_lt h.ownMore hB).1 (fun x => x), h.mores.map fun j B c _ t => t.kept hk (fun x => x), h.newOne, h.newMore, h.apart⟩
/-- One element more onto the list n, which is a row. -/
theorem St.list {e es : TypeId} {mk : Nat → Nat → Value} {w : World} {m : Nat} {N : Nat → Prop} {G L C : Nat → Nat} {wr w' : World} {f : Nat → Nat} {n1 n2 : Nat} {one more : Value} {ovs mvs : List Value} {g n i cap B cap' : Nat} (hes : es ≠ e) (h : St e es mk w m N G L C wr f n1 n2 one more ovs mvs)
    (hl : TR e mk wr f g n i cap) (hg : (N n ∧ g = G n) ∨ w.heap.size ≤ g) (hnm : n < m) (hr : Row w' e B (i + 1) cap' (ml mk n i ++ [mk n i])) (hc : Went wr w' g cap B cap')
    (hi : L n ≤ i) (h1 : n1 ≤ n ∨ (n1 = n + 1 ∧ L n + 1 ≤ i)) (h2 : n2 ≤ n) :
    St e es mk w m N G L C w' (fun x => if x = B then n else f x) n1 n2 one more ovs mvs ∧ TR e mk w' (fun x => if x = B then n else f x) B n (i + 1) cap' ∧ ((N n ∧ B = G n) ∨ w.heap.size ≤ B) := by
  rw [← ml_succ] at hr
  have hw := h.kept.size
  have step : ∀ b j k c, TR e mk wr f b j k c → (b = g → k ≤ i) → TR e mk w' (fun x => if x = B then n else f x) b j k c := fun b j k c t hk => t.step hl hr hc hk
  have hkept : ∀ b, b < wr.heap.size → b ≠ g → w'.heap[b]? = wr.heap[b]? := by
    intro b hb hbg
    rcases hc with ⟨rfl, _, hk⟩ | ⟨_, hk⟩
    · exact hk.block b hb hbg
    · exact hk.block b hb (fun x => x)
  refine ⟨⟨?_, fun j hj hN => step _ _ _ _ (h.own j hj hN) ?_, ?_, ?_, ?_, ?_, h.newOne, h.newMore, h.apart⟩, ⟨hr, by simp⟩, ?_⟩
  · rcases hc with ⟨rfl, _, hk⟩ | ⟨_, hk⟩
    · refine h.kept.then hk (fun k hk' hkb => ?_)
      subst hkb
      rcases hg with ⟨hN, rfl⟩ | hg
      · exact ⟨n, hnm, hN, rfl⟩
      · omega
    · exact h.kept.then hk (fun _ _ x => x.elim)
  · intro e'
    have hj1 := (h.own j hj hN).2
    rw [e', hl.2] at hj1
    subst hj1
    exact hi
  · exact own_keep h.ownOne fun B' hB => hkept B' (own_lt h.ownOne hB).1 (fun e' => (own_ne h.ownOne hB hl.1 hes) e'.symm)
  · refine h.ones.map fun j b c hj t => step _ _ _ _ t (fun e' => ?_)
    have hj1 := t.2
    rw [e', hl.2] at hj1
    subst hj1
    rcases h1 with h1 | ⟨_, h1⟩
    · omega
    · exact h1
  · exact own_keep h.ownMore fun B' hB => hkept B' (own_lt h.ownMore hB).1 (fun e' => (own_ne h.ownMore hB hl.1 hes) e'.symm)
  · refine h.mores.map fun j b c hj t => step _ _ _ _ t (fun e' => ?_)
    have hj1 := t.2
    rw [e', hl.2] at hj1
    omega
  · rcases hc with ⟨rfl, _, _⟩ | ⟨hge, _⟩
    · exact hg
    · exact .inr (by omega)
/-- One element more onto the list n, in a new block. -/
theorem St.fresh {e es : TypeId} {mk : Nat → Nat → Value} {w : World} {m : Nat} {N : Nat → Prop} {G L C : Nat → Nat} {wr w' : World} {f : Nat → Nat} {n1 n2 : Nat} {one more : Value} {ovs mvs : List Value} {n i B cap' : Nat} (h : St e es mk w m N G L C wr f n1 n2 one more ovs mvs)
    (hr : Row w' e B (i + 1) cap' (ml mk n i ++ [mk n i])) (hge : wr.heap.size ≤ B) (hk : Kept (fun _ => False) wr w') :
    St e es mk w m N G L C w' (fun x => if x = B then n else f x) n1 n2 one more ovs mvs ∧ TR e mk w' (fun x => if x = B then n else f x) B n (i + 1) cap' ∧ ((N n ∧ B = G n) ∨ w.heap.size ≤ B) := by
  rw [← ml_succ] at hr
  have hw := h.kept.size
  refine ⟨⟨h.kept.then hk (fun _ _ x => x.elim), fun j hj hN => (h.own j hj hN).fresh hge hk, own_keep h.ownOne fun B' hB => hk.block B' (own_lt h.ownOne hB).1 (fun x => x), h.ones.map fun j b c _ t => t.fresh hge hk,
    own_keep h.ownMore fun B' hB => hk.block B' (own_lt h.ownMore hB).1 (fun x => x), h.mores.map fun j b c _ t => t.fresh hge hk, h.newOne, h.newMore, h.apart⟩, ⟨hr, by simp⟩, .inr (by omega)⟩
/-- What an append onto 'one' or 'more' leaves. -/
def Onto (w w' : World) (v : Value) (n B cap : Nat) : Prop := (v = .slice (some ⟨B, 0, none⟩) n cap ∧ Kept (fun k => k = B) w w') ∨ (w.heap.size ≤ B ∧ Kept (fun _ => False) w w')
theorem TR.onto {e es : TypeId} {mk : Nat → Nat → Value} {w w' : World} {f : Nat → Nat} {b j k c : Nat} {v : Value} {n n' B cap : Nat} {xs : List Value} (hes : es ≠ e) (h : TR e mk w f b j k c) (hv : w.ownsRow 0 es 1 v n' xs) (ho : Onto w w' v n B cap) : TR e mk w' f b j k c := by
  rcases ho with ⟨rfl, hk⟩ | ⟨_, hk⟩
  · exact h.kept hk (own_ne hv rfl h.1 hes)
  · exact h.kept hk (fun x => x)
theorem Onto.kept {w w0 w' : World} {S : Nat → Prop} {v : Value} {n B cap : Nat} (h : Kept S w0 w) (ho : Onto w w' v n B cap) (hn : ∀ b, v.ownBlock = some b → w0.heap.size ≤ b) : Kept S w0 w' := by
  rcases ho with ⟨rfl, hk⟩ | ⟨_, hk⟩
  · refine h.then hk (fun k h1 h2 => ?_)
    subst h2
    have := hn k rfl
    omega
  · exact h.then hk (fun _ _ x => x.elim)
theorem Onto.other {es : TypeId} {w w' : World} {v u : Value} {n n' B cap : Nat} {xs : List Value} (ho : Onto w w' v n B cap) (hu : w.ownsRow 0 es 1 u n' xs) (ha : ∀ b, v.ownBlock = some b → u.ownBlock ≠ some b) : w'.ownsRow 0 es 1 u n' xs := by
  refine own_keep hu fun b hb => ?_
  rcases ho with ⟨rfl, hk⟩ | ⟨_, hk⟩
  · exact hk.block b (own_lt hu hb).1 (fun e' => ha B rfl (e' ▸ hb))
  · exact hk.block b (own_lt hu hb).1 (fun x => x)
/-- The list, so far, onto 'one'. -/
theorem St.pushOne {e es : TypeId} {mk : Nat → Nat → Value} {w : World} {m : Nat} {N : Nat → Prop} {G L C : Nat → Nat} {wr w' : World} {f : Nat → Nat} {n n2 : Nat} {one more : Value} {ovs mvs : List Value} {g c B cap : Nat} (hes : es ≠ e) (h : St e es mk w m N G L C wr f n n2 one more ovs mvs)
    (ht : TR e mk wr f g n (L n + 1) c) (hr : Row w' es B (n + 1) cap (ovs ++ [.slice (some ⟨g, 0, none⟩) (L n + 1) c])) (ho : Onto wr w' one n B cap) :
    St e es mk w m N G L C w' f (n + 1) n2 (.slice (some ⟨B, 0, none⟩) (n + 1) cap) more (ovs ++ [.slice (some ⟨g, 0, none⟩) (L n + 1) c]) mvs ∧ TR e mk w' f g n (L n + 1) c := by
  have hw := h.kept.size
  have ht' := ht.onto hes h.ownOne ho
  refine ⟨⟨ho.kept h.kept h.newOne, fun j hj hN => (h.own j hj hN).onto hes h.ownOne ho, hr, Listed.add (h.ones.map fun j b c hj t => t.onto hes h.ownOne ho) (by have := h.ownOne.1; simpa using this) ht', ho.other h.ownMore h.apart,
    h.mores.map fun j b c hj t => t.onto hes h.ownOne ho, ?_, h.newMore, ?_⟩, ht'⟩
  · intro b hb
    obtain rfl : B = b := by simpa [Value.ownBlock] using hb
    rcases ho with ⟨rfl, _⟩ | ⟨hge, _⟩
    · exact h.newOne B rfl
    · omega
  · intro b hb
    obtain rfl : B = b := by simpa [Value.ownBlock] using hb
    rcases ho with ⟨rfl, _⟩ | ⟨hge, _⟩
    · exact h.apart B rfl
    · intro e'
      have := (own_lt h.ownMore e').1
      omega
/-- The list, whole, onto 'more'. -/
theorem St.pushMore {e es : TypeId} {mk : Nat → Nat → Value} {w : World} {m : Nat} {N : Nat → Prop} {G L C : Nat → Nat} {wr w' : World} {f : Nat → Nat} {n n1 : Nat} {one more : Value} {ovs mvs : List Value} {g c B cap : Nat} (hes : es ≠ e) (h : St e es mk w m N G L C wr f n1 n one more ovs mvs)
    (ht : TR e mk wr f g n (L n + 70) c) (hr : Row w' es B (n + 1) cap (mvs ++ [.slice (some ⟨g, 0, none⟩) (L n + 70) c])) (ho : Onto wr w' more n B cap) :
    St e es mk w m N G L C w' f n1 (n + 1) one (.slice (some ⟨B, 0, none⟩) (n + 1) cap) ovs (mvs ++ [.slice (some ⟨g, 0, none⟩) (L n + 70) c]) := by
  have hw := h.kept.size
  have ht' := ht.onto hes h.ownMore ho
  refine ⟨ho.kept h.kept h.newMore, fun j hj hN => (h.own j hj hN).onto hes h.ownMore ho, ho.other h.ownOne (fun b hb e' => h.apart b e' hb), h.ones.map fun j b c hj t => t.onto hes h.ownMore ho, hr,
    Listed.add (h.mores.map fun j b c hj t => t.onto hes h.ownMore ho) (by have := h.ownMore.1; simpa using this) ht', h.newOne, ?_, ?_⟩
  · intro b hb
    obtain rfl : B = b := by simpa [Value.ownBlock] using hb
    rcases ho with ⟨rfl, _⟩ | ⟨hge, _⟩
    · exact h.newMore B rfl
    · omega
  · intro b hb e'
    obtain rfl : B = b := by simpa [Value.ownBlock] using e'
    rcases ho with ⟨rfl, _⟩ | ⟨hge, _⟩
    · exact h.apart B hb rfl
    · have := (own_lt h.ownOne hb).1
      omega
/-- The marking: which rows are done. -/
structure Ma (e : TypeId) (mk : Nat → Nat → Value) (w : World) (m : Nat) (N : Nat → Prop) (G L C : Nat → Nat) (wr : World) (n : Nat) : Prop where
  kept : Kept (Own m N G) w wr
  rows : ∀ j, j < m → N j → ∃ xs, Row wr e (G j) (L j) (C j) xs
  done : ∀ j, j < n → ∀ i, i < L j → wr.cell? ⟨G j, i, none⟩ = some (mk j i)
theorem Row.marks {e : TypeId} {mk : Nat → Nat → Value} {w : World} {b k c j : Nat} {xs : List Value} (h : Row w e b k c xs) (hm : ∀ i, i < k → w.cell? ⟨b, i, none⟩ = some (mk j i)) : Row w e b k c (ml mk j k) := by
  have : xs = ml mk j k := by
    apply List.ext_getElem?
    intro i
    by_cases hi : i < k
    · rw [← h.cell i hi, hm i hi, ml_get j k i hi]
    · have hl := h.1
      rw [List.getElem?_eq_none (by omega), List.getElem?_eq_none (by rw [ml_len]; omega)]
  rw [← this]; exact h
/-- One mark more. -/
theorem Ma.put {e : TypeId} {mk : Nat → Nat → Value} {w : World} {m : Nat} {N : Nat → Prop} {G L C : Nat → Nat} {wr : World} {n i : Nat} (h : Ma e mk w m N G L C wr n) (hn : n < m) (hN : ∀ j, j < m → 0 < L j → N j) (hi : i < L n) (hinj : ∀ a b, a < m → b < m → N a → N b → G a = G b → a = b)
    (hp : ∀ k, k < i → wr.cell? ⟨G n, k, none⟩ = some (mk n k)) :
    Ma e mk w m N G L C (wr.setCell ⟨G n, i, none⟩ (mk n i)) n ∧ ∀ k, k < i + 1 → (wr.setCell ⟨G n, i, none⟩ (mk n i)).cell? ⟨G n, k, none⟩ = some (mk n k) := by
  have hNn : N n := hN n hn (by omega)
  obtain ⟨xs, hr⟩ := h.rows n hn hNn
  obtain ⟨hr', hk⟩ := hr.put i (mk n i)
  have hl := hr.1
  have hcells : ∀ k, k < L n → (wr.setCell ⟨G n, i, none⟩ (mk n i)).cell? ⟨G n, k, none⟩ = if k = i then some (mk n i) else wr.cell? ⟨G n, k, none⟩ := by
    intro k hk'
    rw [hr'.cell k hk', hr.cell k hk', List.getElem?_set]
    by_cases e' : i = k
    · subst e'; simp; omega
    · simp [e', Ne.symm e']
  refine ⟨⟨h.kept.then hk (fun k _ e' => ⟨n, hn, hNn, e'⟩), fun j hj hNj => ?_, fun j hj k hk' => ?_⟩, fun k hk' => ?_⟩
  · by_cases e' : j = n
    · subst e'; exact ⟨_, hr'⟩
    · obtain ⟨ys, hy⟩ := h.rows j hj hNj
      exact ⟨ys, hy.kept hk (fun e'' => e' (hinj j n hj hn hNj hNn e''))⟩
  · have hjm : j < m := by omega
    have hne : ¬ G j = G n := fun e' => by have := hinj j n hjm hn (hN j hjm (by omega)) hNn e'; omega
    exact hk.cell (h.done j hj k hk') hne
  · rw [hcells k (by omega)]
    by_cases e' : k = i
    · simp [e']
    · rw [if_neg e']; exact hp k (by omega)
theorem owner (m : Nat) (N : Nat → Prop) (G : Nat → Nat) (hinj : ∀ a b, a < m → b < m → N a → N b → G a = G b → a = b) : ∃ f : Nat → Nat, ∀ j, j < m → N j → f (G j) = j := by
  refine ⟨fun b => Classical.epsilon fun j => j < m ∧ N j ∧ G j = b, fun j hj hN => ?_⟩
  have := Classical.epsilon_spec (p := fun i => i < m ∧ N i ∧ G i = G j) ⟨j, hj, hN, rfl⟩
  exact hinj _ j this.1 hj this.2.1 hN this.2.2
/-- A row as a slice, and its cells. -/
theorem own_sliceM {e : TypeId} {w : World} {v : Value} {n : Nat} {xs : List Value} (h : w.ownsRow 0 e 1 v n xs) : ∃ a c, v = .slice a n c ∧ (n = 0 ∨ ∃ B, a = some ⟨B, 0, none⟩ ∧ ∀ j, j < n → w.cell? ⟨B, j, none⟩ = xs[j]?) := by
  rcases h.2 with ⟨rfl, rfl⟩ | ⟨g, cap, cur, rfl, h2⟩
  · exact ⟨none, 0, rfl, .inl rfl⟩
  · exact ⟨_, cap, rfl, .inr ⟨g, rfl, fun j hj => World.ownsRow.cellAt h j (by omega)⟩⟩
/-- Behind the marking. -/
theorem Ma.state {e : TypeId} {mk : Nat → Nat → Value} {w : World} {m : Nat} {N : Nat → Prop} {G L C : Nat → Nat} {wr : World} (es : TypeId) (h : Ma e mk w m N G L C wr m) (hinj : ∀ a b, a < m → b < m → N a → N b → G a = G b → a = b) : ∃ f, St e es mk w m N G L C wr f 0 0 (.slice none 0 0) (.slice none 0 0) [] [] := by
  obtain ⟨f, hf⟩ := owner m N G hinj
  refine ⟨f, h.kept, fun j hj hN => ?_, World.ownsRow_nil _ _ _ _, Listed.nil _ _ _ _, World.ownsRow_nil _ _ _ _, Listed.nil _ _ _ _, fun B hB => by simp [Value.ownBlock] at hB, fun B hB => by simp [Value.ownBlock] at hB, fun B hB => by simp [Value.ownBlock] at hB⟩
  obtain ⟨xs, hr⟩ := h.rows j hj hN
  exact ⟨hr.marks (h.done j hj), hf j hj hN⟩
theorem stepL {e es : TypeId} {mk : Nat → Nat → Value} {w : World} {m : Nat} {N : Nat → Prop} {G L C : Nat → Nat} {wr w2 : World} {f : Nat → Nat} {n1 n2 : Nat} {one more : Value} {ovs mvs : List Value} {v : Value} {n k B cap' : Nat} (hes : es ≠ e) (h : St e es mk w m N G L C wr f n1 n2 one more ovs mvs)
    (hl : Lst e mk w N G wr f n k v) (hnm : n < m) (o : Obj) (hr : Row w2 e B (k + 1) cap' (ml mk n k ++ [mk n k]))
    (hc : (v = .slice (some ⟨B, 0, none⟩) k cap' ∧ Kept (fun x => x = B) (wr.alloc o) w2) ∨ ((wr.alloc o).heap.size ≤ B ∧ Kept (fun _ => False) (wr.alloc o) w2))
    (hi : L n ≤ k) (h1 : (k = L n ∧ n1 = n) ∨ (L n + 1 ≤ k ∧ n1 = n + 1)) (h2 : n2 ≤ n) :
    ∃ f', St e es mk w m N G L C w2 f' n1 n2 one more ovs mvs ∧ TR e mk w2 f' B n (k + 1) cap' ∧ ((N n ∧ B = G n) ∨ w.heap.size ≤ B) := by
  have ha := h.alloc o
  rcases hl.kept (Kept.alloc (fun _ => False) wr o) with ⟨rfl, rfl⟩ | ⟨g, cap, rfl, ht, hg⟩
  · rcases hc with ⟨e', _⟩ | ⟨hge, hk⟩
    · simp at e'
    · exact ⟨_, ha.fresh hr hge hk⟩
  · refine ⟨_, ha.list hes ht hg hnm hr ?_ hi (by omega) h2⟩
    rcases hc with ⟨e', hk⟩ | ⟨hge, hk⟩
    · simp at e'
      obtain ⟨rfl, rfl⟩ := e'
      exact .inl ⟨rfl, rfl, hk⟩
    · exact .inr ⟨hge, hk⟩
theorem stepO {e es : TypeId} {mk : Nat → Nat → Value} {w : World} {m : Nat} {N : Nat → Prop} {G L C : Nat → Nat} {wr w2 : World} {f : Nat → Nat} {n n2 : Nat} {one more : Value} {ovs mvs : List Value} {g c B cap kk : Nat} (hes : es ≠ e) (h : St e es mk w m N G L C wr f n n2 one more ovs mvs) (hkk : kk = L n + 1)
    (ht : TR e mk wr f g n kk c) (o : Obj) (hr : Row w2 es B (n + 1) cap (ovs ++ [.slice (some ⟨g, 0, none⟩) kk c])) (ho : Onto (wr.alloc o) w2 one n B cap) :
    St e es mk w m N G L C w2 f (n + 1) n2 (.slice (some ⟨B, 0, none⟩) (n + 1) cap) more (ovs ++ [.slice (some ⟨g, 0, none⟩) kk c]) mvs ∧ TR e mk w2 f g n kk c := by
  subst hkk
  have ha := h.alloc o
  exact ha.pushOne hes (ht.kept (Kept.alloc (fun _ => False) wr o) (fun x => x)) hr ho
theorem stepM {e es : TypeId} {mk : Nat → Nat → Value} {w : World} {m : Nat} {N : Nat → Prop} {G L C : Nat → Nat} {wr w2 : World} {f : Nat → Nat} {n n1 : Nat} {one more : Value} {ovs mvs : List Value} {g c B cap kk : Nat} (hes : es ≠ e) (h : St e es mk w m N G L C wr f n1 n one more ovs mvs) (hkk : kk = L n + 70)
    (ht : TR e mk wr f g n kk c) (o : Obj) (hr : Row w2 es B (n + 1) cap (mvs ++ [.slice (some ⟨g, 0, none⟩) kk c])) (ho : Onto (wr.alloc o) w2 more n B cap) :
    St e es mk w m N G L C w2 f n1 (n + 1) one (.slice (some ⟨B, 0, none⟩) (n + 1) cap) ovs (mvs ++ [.slice (some ⟨g, 0, none⟩) kk c]) := by
  subst hkk
  have ha := h.alloc o
  exact ha.pushMore hes (ht.kept (Kept.alloc (fun _ => False) wr o) (fun x => x)) hr ho
theorem Tryd.inlBytes : (Tryd.prog.info? 31).map (fun i => (i.zero, i.size, i.bytes)) = some (some (.slice none 0 0), 1, 24) := by kernel_rfl
/-- The mark of place i of the list n. -/
def mkBytes (n i : Nat) : Value := .int .u8 ((31 * (n : Int) + 7 * (i : Int) + 3) % 256)
/-- What the lists are: nil, or a row of their own. -/
def ListsBytes (w : World) (m : Nat) (N : Nat → Prop) (A : Nat → Option Addr) (G L C : Nat → Nat) : Prop :=
  ∀ j, j < m → (N j ∧ A j = some ⟨G j, 0, none⟩ ∧ ∃ xs, Row w 5 (G j) (L j) (C j) xs) ∨ (¬ N j ∧ A j = none ∧ L j = 0 ∧ C j = 0)
set_option maxRecDepth 100000 in
set_option maxHeartbeats 4000000 in
theorem apart43 (GB X m cx : Nat) (N : Nat → Prop) (A : Nat → Option Addr) (G L C : Nat → Nat) (w : World) (hm : m ≤ 300)
    (hg : w.cell? ⟨GB, 0, none⟩ = some (.slice (some ⟨X, 0, none⟩) m cx))
    (hx : ∀ j, j < m → w.cell? ⟨X, j, none⟩ = some (.slice (A j) (L j) (C j)))
    (ho : ListsBytes w m N A G L C) (hL : ∀ j, j < m → L j ≤ 4194304)
    (hinj : ∀ a b, a < m → b < m → N a → N b → G a = G b → a = b) (hGX : ∀ j, j < m → N j → ¬ GB = G j ∧ ¬ X = G j) :
    Calls Tryd.prog 30 #[.pointer (some ⟨GB, 0, none⟩)] w fun e w' => e = .returned (.bool true) ∧ Kept (Own m N G) w w' := by
  have hN : ∀ j, j < m → 0 < L j → N j ∧ A j = some ⟨G j, 0, none⟩ := fun j hj h0 => by
    rcases ho j hj with h | h
    · exact ⟨h.1, h.2.1⟩
    · omega
  have hR : ∀ j, j < m → N j → ∃ xs, Row w 5 (G j) (L j) (C j) xs := fun j hj h0 => by
    rcases ho j hj with h | h
    · exact h.2.2
    · exact absurd h0 h.1
  have hS : ∀ j, j < m → (N j ∧ A j = some ⟨G j, 0, none⟩) ∨ (A j = none ∧ L j = 0 ∧ C j = 0) := fun j hj => by
    rcases ho j hj with h | h
    · exact .inl ⟨h.1, h.2.1⟩
    · exact .inr h.2
  have HX := hid hx
  have HL := hid hL
  have HI := hid hinj
  have HGX := hid hGX
  have HN := hid hN
  have HR := hid hR
  have HSN := hid hS
  have HG := hid hg
  have nGB : ¬ Own m N G GB := fun ⟨j, hj, hn, e⟩ => (hGX j hj hn).1 e
  have nX : ¬ Own m N G X := fun ⟨j, hj, hn, e⟩ => (hGX j hj hn).2 e
  have NGB := hid nGB
  have NX := hid nX
  clear hx hL hinj hGX ho hg nGB nX hN hR hS
  go_enter Tryd.func30, Tryd.ntmps30
  go_wp2_with fail
  go_loopw [3] (fun i wr => ∃ n : Nat, n ≤ m ∧ i = .int .i64 n ∧ Ma 5 mkBytes w m N G L C wr n) (fun i _ => m - (intOf i).toNat)
  case atStart => exact ⟨0, by omega, rfl, Kept.refl _ _, HR.out, fun j hj => absurd hj (by omega)⟩
  case round =>
    obtain ⟨n, hn, rfl, hma⟩ := hrel
    have c0 : wr.cell? ⟨GB, 0, none⟩ = some (.slice (some ⟨X, 0, none⟩) m cx) := hma.kept.cell HG.out NGB.out
    by_cases hlt : n < m
    · have HM := hid hma
      clear hma
      go_wp2_with fail
      go_loopw [4] (fun i wr => ∃ k : Nat, k ≤ L n ∧ i = .int .i64 k ∧ Ma 5 mkBytes w m N G L C wr n ∧ ∀ t, t < k → wr.cell? ⟨G n, t, none⟩ = some (mkBytes n t)) (fun i _ => L n - (intOf i).toNat)
      case atStart => exact ⟨0, by omega, rfl, HM.out, fun t ht => absurd ht (by omega)⟩
      case round =>
        obtain ⟨k, hk, rfl, hma, hdn⟩ := hrel
        clear c0
        have hLn := HL.out n hlt
        have c0 : wr.cell? ⟨GB, 0, none⟩ = some (.slice (some ⟨X, 0, none⟩) m cx) := hma.kept.cell HG.out NGB.out
        have c1 : wr.cell? ⟨X, n, none⟩ = some (.slice (A n) (L n) (C n)) := hma.kept.cell (HX.out n hlt) NX.out
        by_cases hkl : k < L n
        · obtain ⟨hNn, hAn⟩ := HN.out n hlt (by omega)
          rw [hAn] at c1
          obtain ⟨xs, hrow⟩ := hma.rows n hlt hNn
          have hcl : ∃ u, wr.cell? ⟨G n, k, none⟩ = some u := ⟨_, (hrow.cell k hkl).trans (List.getElem?_eq_getElem (by have := hrow.1; omega))⟩
          obtain ⟨u0, hcl⟩ := hcl
          have hfz := hrow.free k
          have P := hid (hma.put hlt (fun j hj h0 => (HN.out j hj h0).1) hkl HI.out hdn)
          have gx := HGX.out n hlt hNn
          have g1 : ¬ GB = G n := gx.1
          have g2 : ¬ X = G n := gx.2
          skip
          have hn3 : n ≤ 300 := by omega
          have hk3 : k ≤ 8388608 := by omega
          clear hma hdn hrow HM gx
          go_wp2_with fail
          exact ⟨⟨k + 1, by omega, by go_num, P.out.1, P.out.2⟩, by simp [intOf]; omega⟩
        · have hkk : k = L n := by omega
          subst hkk
          have D := hid (show Ma 5 mkBytes w m N G L C wr (n + 1) from ⟨hma.kept, hma.rows, fun j hj i hi => by
            by_cases e : j = n
            · subst e; exact hdn i hi
            · exact hma.done j (by omega) i hi⟩)
          clear hma hdn HM
          go_wp2_with fail
          exact ⟨⟨n + 1, by omega, by go_num, D.out⟩, by simp [intOf]; omega⟩
    · have hnm : m = n := by omega
      subst hnm
      obtain ⟨f0, hst0⟩ := hma.state 31 HI.out
      have HS0 := hid hst0
      obtain ⟨i5, q0, q1, q2, q3⟩ := info_parts Tryd.infU8
      obtain ⟨i24, p0, p1, p2, p3⟩ := info_parts Tryd.inlBytes
      have hes : (31 : TypeId) ≠ 5 := by decide
      clear hma hst0
      go_wp2_with fail
      clear c0
      go_loopw [5, 6, 7] (fun one more i wr => ∃ (n : Nat) (f : Nat → Nat) (ovs mvs : List Value), n ≤ m ∧ i = .int .i64 n ∧ St 5 31 mkBytes w m N G L C wr f n n one more ovs mvs) (fun _ _ i _ => m - (intOf i).toNat)
      case atStart => exact ⟨0, f0, [], [], by omega, rfl, HS0.out⟩
      case round =>
        obtain ⟨n, f, ovs, mvs, hnm, rfl, hst⟩ := hrel
        have c0 : wr.cell? ⟨GB, 0, none⟩ = some (.slice (some ⟨X, 0, none⟩) m cx) := hst.kept.cell HG.out NGB.out
        by_cases hlt2 : n < m
        · have hLn := HL.out n hlt2
          have c1 : wr.cell? ⟨X, n, none⟩ = some (.slice (A n) (L n) (C n)) := hst.kept.cell (HX.out n hlt2) NX.out
          have HST := hid hst
          clear hst HS0
          go_wp2_with fail
          clear c0 c1
          go_loopw [5, 8, 9] (fun one l i wr => ∃ (k n1 : Nat) (f : Nat → Nat) (ovs : List Value), L n ≤ k ∧ k ≤ L n + 70 ∧ i = .int .i64 k ∧ Lst 5 mkBytes w N G wr f n k l ∧ ((k = L n ∧ n1 = n) ∨ (L n + 1 ≤ k ∧ n1 = n + 1)) ∧ St 5 31 mkBytes w m N G L C wr f n1 n one u6 ovs mvs) (fun _ _ i _ => L n + 70 - (intOf i).toNat)
          case atStart =>
            refine ⟨L n, n, f, ovs, by omega, by omega, rfl, ?_, .inl ⟨rfl, rfl⟩, HST.out⟩
            rcases HSN.out n hlt2 with ⟨hNn, hAn⟩ | ⟨hAn, h0, h1⟩
            · exact .inr ⟨G n, C n, by rw [hAn], HST.out.own n hlt2 hNn, .inl ⟨hNn, rfl⟩⟩
            · exact .inl ⟨by rw [hAn, h0, h1], h0⟩
          case round =>
            obtain ⟨k, n1, f, ovs, hk0, hk1, rfl, hlst, hn1, hst⟩ := hrel
            obtain ⟨la, lc, rfl⟩ := hlst.slice
            have c0 : wr.cell? ⟨GB, 0, none⟩ = some (.slice (some ⟨X, 0, none⟩) m cx) := hst.kept.cell HG.out NGB.out
            have c1 : wr.cell? ⟨X, n, none⟩ = some (.slice (A n) (L n) (C n)) := hst.kept.cell (HX.out n hlt2) NX.out
            by_cases hk : k < L n + 70
            · skip
              have hn3 : n ≤ 300 := by omega
              have hk3 : k ≤ 8388608 := by omega
              have hown : (wr.alloc (.cells #[.int .u8 ((31 * (n : Int) + 7 * (k : Int) + 3) % 256)] 5)).ownsRow 0 5 1 (.slice la k lc) k (ml mkBytes n k) := (hlst.kept (Kept.alloc (fun _ => False) wr _)).own
              have HOW := hid hown
              have HST2 := hid hst
              have HLS := hid hlst
              have HN1 := hid hn1
              have hb1 : k + 1 ≤ maxLen := by unfold maxLen; omega
              have hb2 : (k + 1) * 1 ≤ 140737488355328 := by omega
              have hb3 : n + 1 ≤ maxLen := by unfold maxLen; omega
              have hb4 : (n + 1) * 24 ≤ 140737488355328 := by omega
              clear hown hst hlst hn1
              by_cases hke : k = L n
              · have hkb : ((k : Int) == (L n : Int)) = true := by simp [hke]
                have hn1' : n1 = n := by have := HN1.out; omega
                subst hn1'
                have KE := hid hke
                clear hke
                go_wp2_with (first
                  | (at_builtin; refine app_cell _ rfl (.tmp 82) (.tmp 90) 31 rfl 5 i5 (.int .u8 0) 1 Tryd.underlying31 q0 q1 q2 q3 rfl _ k _ rfl HOW.out ⟨wr.heap.size, 0, none⟩ (.int .u8 ((31 * (n1 : Int) + 7 * (k : Int) + 3) % 256)) rfl (by simp [Addr.add]) rfl hb1 hb2 ?_; intro B cap' w2 hrow hcase; obtain ⟨f', hs2, ht2, hg2⟩ := stepL hes HST2.out HLS.out hlt2 _ hrow hcase hk0 (.inl ⟨KE.out, rfl⟩) (Nat.le_refl _); have c0' := hs2.kept.cell HG.out NGB.out; have c1' := hs2.kept.cell (HX.out n1 hlt2) NX.out; have S2 := hid hs2; have T2 := hid ht2; have G2 := hid hg2; clear hs2 ht2 hg2 hrow hcase)
                  | (at_builtin; refine app_cell _ rfl (.tmp 102) (.tmp 104) 24 rfl 31 i24 (.slice none 0 0) 24 Tryd.underlying24 p0 p1 p2 p3 rfl _ n1 _ rfl (by exact (S2.out.alloc _).ownOne) ⟨w2.heap.size, 0, none⟩ (.slice (some ⟨B, 0, none⟩) (k + 1) cap') rfl (by simp [Addr.add]) rfl hb3 hb4 ?_; intro B2 cap2 w3 hrow2 hcase2; obtain ⟨hs3, ht3⟩ := stepO hes S2.out (by rw [KE.out]) T2.out _ hrow2 hcase2; have S3 := hid hs3; have T3 := hid ht3; clear hs3 ht3 hrow2 hcase2))
                have hk2 := KE.out
                refine ⟨⟨k + 1, n1 + 1, f', _, by omega, by omega, by go_num, .inr ⟨B, cap', rfl, T3.out, G2.out⟩, .inr ⟨by omega, rfl⟩, S3.out⟩, by simp [intOf]; omega⟩
              · have hkb : ((k : Int) == (L n : Int)) = false := by simp; omega
                have hn1' : n1 = n + 1 := by have := HN1.out; omega
                subst hn1'
                clear hke
                go_wp2_with (first
                  | (at_builtin; refine app_cell _ rfl (.tmp 82) (.tmp 90) 31 rfl 5 i5 (.int .u8 0) 1 Tryd.underlying31 q0 q1 q2 q3 rfl _ k _ rfl HOW.out ⟨wr.heap.size, 0, none⟩ (.int .u8 ((31 * (n : Int) + 7 * (k : Int) + 3) % 256)) rfl (by simp [Addr.add]) rfl hb1 hb2 ?_; intro B cap' w2 hrow hcase; obtain ⟨f', hs2, ht2, hg2⟩ := stepL hes HST2.out HLS.out hlt2 _ hrow hcase hk0 (.inr ⟨by have := HN1.out; omega, rfl⟩) (Nat.le_refl _); have c0' := hs2.kept.cell HG.out NGB.out; have c1' := hs2.kept.cell (HX.out n hlt2) NX.out; have S2 := hid hs2; have T2 := hid ht2; have G2 := hid hg2; clear hs2 ht2 hg2 hrow hcase))
                refine ⟨⟨k + 1, n + 1, f', _, by omega, by omega, by go_num, .inr ⟨B, cap', rfl, T2.out, G2.out⟩, .inr ⟨by have := HN1.out; omega, rfl⟩, S2.out⟩, by simp [intOf]; omega⟩
            · obtain rfl : k = L n + 70 := by omega
              have hn1' : n1 = n + 1 := by omega
              subst hn1'
              have hb3 : n + 1 ≤ maxLen := by unfold maxLen; omega
              have hb4 : (n + 1) * 24 ≤ 140737488355328 := by omega
              rcases hlst with ⟨_, h0⟩ | ⟨g, cap, hv, htr, _⟩
              · omega
              simp only [Value.slice.injEq, true_and] at hv
              obtain ⟨rfl, rfl⟩ := hv
              have HST2 := hid hst
              have HTR := hid htr
              clear hst htr hn1
              go_wp2_with (first
                  | (at_builtin; refine app_cell _ rfl (.tmp 106) (.tmp 108) 24 rfl 31 i24 (.slice none 0 0) 24 Tryd.underlying24 p0 p1 p2 p3 rfl _ n _ rfl (by exact (HST2.out.alloc _).ownMore) ⟨wr.heap.size, 0, none⟩ (.slice (some ⟨g, 0, none⟩) (L n + 70) lc) rfl (by simp [Addr.add]) rfl hb3 hb4 ?_; intro B2 cap2 w3 hrow2 hcase2; have S3 := hid (stepM hes HST2.out rfl HTR.out _ hrow2 hcase2); clear hrow2 hcase2))
              refine ⟨⟨n + 1, _, _, _, by omega, by go_num, S3.out⟩, by simp [intOf]; omega⟩
        · have hnm2 : m = n := by omega
          subst hnm2
          obtain ⟨oa, oc, e5, h5⟩ := own_sliceM hst.ownOne
          obtain ⟨ma, mc, e6, h6⟩ := own_sliceM hst.ownMore
          subst e5
          subst e6
          have HST := hid hst
          have H5 := hid h5
          have H6 := hid h6
          clear hst HS0 h5 h6
          go_wp2_with fail
          clear c0
          go_loop [10] (fun i => ∃ n : Nat, n ≤ m ∧ i = .int .i64 n) (fun i => m - (intOf i).toNat)
          case atStart => exact ⟨0, by omega, rfl⟩
          case round =>
            obtain ⟨n, hnm3, rfl⟩ := hrel
            by_cases hlt3 : n < m
            · have hLn := HL.out n hlt3
              obtain ⟨OB, rfl, ho1⟩ : ∃ B, oa = some ⟨B, 0, none⟩ ∧ ∀ j, j < m → wr.cell? ⟨B, j, none⟩ = ovs[j]? := by
                rcases H5.out with h | h
                · omega
                · exact h
              obtain ⟨MB, rfl, hm1⟩ : ∃ B, ma = some ⟨B, 0, none⟩ ∧ ∀ j, j < m → wr.cell? ⟨B, j, none⟩ = mvs[j]? := by
                rcases H6.out with h | h
                · omega
                · exact h
              obtain ⟨B1, b1c, hb1, ht1⟩ := HST.out.ones n hlt3
              obtain ⟨B2, b2c, hb2, ht2⟩ := HST.out.mores n hlt3
              have co : wr.cell? ⟨OB, n, none⟩ = some (.slice (some ⟨B1, 0, none⟩) (L n + 1) b1c) := (ho1 n hlt3).trans hb1
              have cm : wr.cell? ⟨MB, n, none⟩ = some (.slice (some ⟨B2, 0, none⟩) (L n + 70) b2c) := (hm1 n hlt3).trans hb2
              have c0 : wr.cell? ⟨GB, 0, none⟩ = some (.slice (some ⟨X, 0, none⟩) m cx) := HST.out.kept.cell HG.out NGB.out
              have c1 : wr.cell? ⟨X, n, none⟩ = some (.slice (A n) (L n) (C n)) := HST.out.kept.cell (HX.out n hlt3) NX.out
              have T0 := hid (fun hN => HST.out.own n hlt3 hN)
              have T1 := hid ht1
              have T2 := hid ht2
              clear ho1 hm1 hb1 hb2 ht1 ht2 H5 H6 HST
              go_wp2_with fail
              go_loop [11] (fun i => ∃ k : Nat, k ≤ L n + 70 ∧ i = .int .i64 k) (fun i => L n + 70 - (intOf i).toNat)
              case atStart => exact ⟨0, by omega, rfl⟩
              case round =>
                obtain ⟨k, hk, rfl⟩ := hrel
                by_cases hlt4 : k < L n + 70
                · have x2 : wr.cell? ⟨B2, k, none⟩ = some (.int .u8 ((31 * (n : Int) + 7 * (k : Int) + 3) % 256)) := T2.out.cell k hlt4
                  skip
                  have hn3 : n ≤ 300 := by omega
                  have hk3 : k ≤ 8388608 := by omega
                  by_cases hka : k < L n
                  · obtain ⟨hNn, hAn⟩ := HN.out n hlt3 (by omega)
                    rw [hAn] at c1
                    have x0 : wr.cell? ⟨G n, k, none⟩ = some (.int .u8 ((31 * (n : Int) + 7 * (k : Int) + 3) % 256)) := (T0.out hNn).cell k hka
                    have hkb : ((k : Int) == (L n : Int)) = false := by simp; omega
                    go_wp2_with fail
                    exact ⟨⟨k + 1, by omega, by go_num⟩, by simp [intOf]; omega⟩
                  · by_cases hke : k = L n
                    · have x1 : wr.cell? ⟨B1, k, none⟩ = some (.int .u8 ((31 * (n : Int) + 7 * (k : Int) + 3) % 256)) := T1.out.cell k (by omega)
                      have hkb : ((k : Int) == (L n : Int)) = true := by simp [hke]
                      have hkl : k < L n + 1 := by omega
                      clear hke
                      go_wp2_with fail
                      exact ⟨⟨k + 1, by omega, by go_num⟩, by simp [intOf]; omega⟩
                    · have hkb : ((k : Int) == (L n : Int)) = false := by simp; omega
                      clear hke
                      go_wp2_with fail
                      exact ⟨⟨k + 1, by omega, by go_num⟩, by simp [intOf]; omega⟩
                · go_wp2_with fail
                  exact ⟨⟨n + 1, by omega, by go_num⟩, by simp [intOf]; omega⟩
            · go_wp2_with fail
              go_ret
              exact ⟨rfl, HST.out.kept⟩
theorem add_step {w w2 : World} {es : TypeId} {c GB n B cap : Nat} {v : Value} {xs ys : List Value} (hown : w.ownsRow 0 es 1 v n xs) (hne : v.ownBlock ≠ some GB) (hc : w.cell? ⟨GB, c, none⟩ = some v) (hf : w.frozen? ⟨GB, c, none⟩ = false) (o : Obj)
    (hrow : Row w2 es B (n + 1) cap ys) (hcase : (v = .slice (some ⟨B, 0, none⟩) n cap ∧ Kept (fun k => k = B) (w.alloc o) w2) ∨ ((w.alloc o).heap.size ≤ B ∧ Kept (fun _ => False) (w.alloc o) w2)) :
    w2.cell? ⟨GB, c, none⟩ = some v ∧ w2.frozen? ⟨GB, c, none⟩ = false ∧ B ≠ GB ∧ (v.ownBlock = some B ∨ w.heap.size ≤ B) ∧ (∀ j, w2.cell? ⟨GB, j, none⟩ = w.cell? ⟨GB, j, none⟩) ∧ Kept (fun b => v.ownBlock = some b) w w2 := by
  have hlt : GB < w.heap.size := block_lt_of_cell hc
  have hsz : (w.alloc o).heap.size = w.heap.size + 1 := by simp
  have hk0 := Kept.alloc (fun _ => False) w o
  have hk : Kept (fun b => v.ownBlock = some b) w w2 := by
    rcases hcase with ⟨rfl, h⟩ | ⟨_, h⟩
    · exact (hk0.mono (fun _ x => x.elim)).then h (fun k _ e => by subst e; rfl)
    · exact (hk0.mono (fun _ x => x.elim)).then h (fun _ _ x => x.elim)
  have hblk := hk.block GB hlt (fun e => hne e)
  refine ⟨(cell_of_block hblk c).trans hc, (frozen_of_block hblk c).trans hf, ?_, ?_, fun j => cell_of_block hblk j, hk⟩
  · rcases hcase with ⟨rfl, _⟩ | ⟨h, _⟩
    · intro e; subst e; exact hne rfl
    · omega
  · rcases hcase with ⟨rfl, _⟩ | ⟨h, _⟩
    · exact .inl rfl
    · exact .inr (by omega)
set_option maxRecDepth 100000 in
set_option maxHeartbeats 1000000 in
theorem add42 (GB : Nat) (v : Value) (n : Nat) (xs : List Value) (la : Option Addr) (ln lc : Nat) (w : World) (hn : n < 300) (hc : w.cell? ⟨GB, 0, none⟩ = some v) (hf : w.frozen? ⟨GB, 0, none⟩ = false)
    (hown : w.ownsRow 0 31 1 v n xs) (hne : v.ownBlock ≠ some GB) :
    Calls Tryd.prog 10 #[.pointer (some ⟨GB, 0, none⟩), .slice la ln lc] w fun e w' => e = .returned (.tuple #[]) ∧ ∃ B cap, Row w' 31 B (n + 1) cap (xs ++ [.slice la ln lc]) ∧ w'.cell? ⟨GB, 0, none⟩ = some (.slice (some ⟨B, 0, none⟩) (n + 1) cap) ∧
      w'.frozen? ⟨GB, 0, none⟩ = false ∧ B ≠ GB ∧ (v.ownBlock = some B ∨ w.heap.size ≤ B) ∧ (∀ j, j ≠ 0 → w'.cell? ⟨GB, j, none⟩ = w.cell? ⟨GB, j, none⟩) ∧ Kept (fun b => b = GB ∨ v.ownBlock = some b) w w' ∧ (∀ j, w'.frozen? ⟨GB, j, none⟩ = w.frozen? ⟨GB, j, none⟩) := by
  obtain ⟨i24, p0, p1, p2, p3⟩ := info_parts Tryd.inlBytes
  obtain ⟨va, vc, rfl, _⟩ := own_sliceM hown
  have hb3 : n + 1 ≤ maxLen := by unfold maxLen; omega
  have hb4 : (n + 1) * 24 ≤ 140737488355328 := by omega
  have HO := hid hown
  have HNE := hid hne
  have HC := hid hc
  have HF := hid hf
  have hk0 := Kept.alloc (fun _ => False) w (.cells #[.slice la ln lc] 31)
  have HK0 := hid hk0
  clear hown hne hk0
  go_enter Tryd.func10, Tryd.ntmps10
  go_wp2_with (first
    | (at_builtin; refine app_cell _ rfl (.tmp 14) (.tmp 16) 24 rfl 31 i24 (.slice none 0 0) 24 Tryd.underlying24 p0 p1 p2 p3 rfl _ n _ rfl (own_keep HO.out fun B hB => HK0.out.block B (own_lt HO.out hB).1 (fun x => x)) ⟨w.heap.size, 0, none⟩ (.slice la ln lc) rfl (by simp [Addr.add]) rfl hb3 hb4 ?_; intro B cap w2 hrow hcase; obtain ⟨d1, d2, d3, d4, d5, d6⟩ := add_step HO.out HNE.out HC.out HF.out _ hrow hcase; have R1 := hid hrow; have D3 := hid d3; have D4 := hid d4; have D5 := hid d5; have D6 := hid d6; clear hrow hcase d3 d4 d5 d6))
  go_end0
  refine ⟨rfl, B, cap, R1.out.keep (heap_setCell_other _ _ _ _ D3.out), World.cell?_setCell_same _ _ _ d1, (World.frozen?_setCell _ _ _ _).trans d2, D3.out, D4.out, fun j hj => ?_, ?_, fun j => ?_⟩
  · rw [World.cell?_setCell_other _ _ _ _ (fun h => hj (congrArg Addr.off h).symm)]
    exact D5.out j
  · have hk := D6.out
    exact ⟨hk.os, hk.tape, hk.output, by rw [World.size_setCell]; exact hk.size, fun k h1 h2 => (heap_setCell_other _ _ _ _ (fun e => h2 (.inl e))).trans (hk.block k h1 (fun e => h2 (.inr e)))⟩
  · rw [World.frozen?_setCell]
    exact frozen_of_block (D6.out.block GB (block_lt_of_cell HC.out) (fun e => HNE.out e)) j
set_option maxRecDepth 100000 in
set_option maxHeartbeats 400000 in
theorem empty45 (GB : Nat) (w : World) (hc : w.cell? ⟨GB, 2, none⟩ = some (.slice none 0 0)) :
    Calls Tryd.prog 32 #[.pointer (some ⟨GB, 0, none⟩)] w fun e w' => e = .returned (.bool true) ∧ w' = w := by
  go_enter Tryd.func32, Tryd.ntmps32
  go_wp2
  refine wp_loop_rounds 1 ?_
  rw [rounds_succ]
  go_wp2
  refine wp_loop_rounds 1 ?_
  rw [rounds_succ]
  go_wp2
  refine wp_loop_rounds 1 ?_
  rw [rounds_succ]
  go_wp2
  go_ret
  exact ⟨rfl, rfl⟩
set_option maxRecDepth 100000 in
set_option maxHeartbeats 400000 in
theorem empty46 (GB : Nat) (w : World) (hc : w.cell? ⟨GB, 3, none⟩ = some (.slice none 0 0)) :
    Calls Tryd.prog 33 #[.pointer (some ⟨GB, 0, none⟩)] w fun e w' => e = .returned (.bool true) ∧ w' = w := by
  go_enter Tryd.func33, Tryd.ntmps33
  go_wp2
  refine wp_loop_rounds 1 ?_
  rw [rounds_succ]
  go_wp2
  refine wp_loop_rounds 1 ?_
  rw [rounds_succ]
  go_wp2
  refine wp_loop_rounds 1 ?_
  rw [rounds_succ]
  go_wp2
  go_ret
  exact ⟨rfl, rfl⟩
set_option maxRecDepth 100000 in
set_option maxHeartbeats 400000 in
theorem empty47 (GB : Nat) (w : World) (hc : w.cell? ⟨GB, 4, none⟩ = some (.slice none 0 0)) :
    Calls Tryd.prog 34 #[.pointer (some ⟨GB, 0, none⟩)] w fun e w' => e = .returned (.bool true) ∧ w' = w := by
  go_enter Tryd.func34, Tryd.ntmps34
  go_wp2
  refine wp_loop_rounds 1 ?_
  rw [rounds_succ]
  go_wp2
  refine wp_loop_rounds 1 ?_
  rw [rounds_succ]
  go_wp2
  refine wp_loop_rounds 1 ?_
  rw [rounds_succ]
  go_wp2
  go_ret
  exact ⟨rfl, rfl⟩
set_option maxRecDepth 100000 in
set_option maxHeartbeats 400000 in
theorem empty48 (GB : Nat) (w : World) (hc : w.cell? ⟨GB, 5, none⟩ = some (.slice none 0 0)) :
    Calls Tryd.prog 35 #[.pointer (some ⟨GB, 0, none⟩)] w fun e w' => e = .returned (.bool true) ∧ w' = w := by
  go_enter Tryd.func35, Tryd.ntmps35
  go_wp2
  refine wp_loop_rounds 1 ?_
  rw [rounds_succ]
  go_wp2
  refine wp_loop_rounds 1 ?_
  rw [rounds_succ]
  go_wp2
  refine wp_loop_rounds 1 ?_
  rw [rounds_succ]
  go_wp2
  go_ret
  exact ⟨rfl, rfl⟩
set_option maxRecDepth 100000 in
set_option maxHeartbeats 400000 in
theorem empty49 (GB : Nat) (w : World) (hc : w.cell? ⟨GB, 6, none⟩ = some (.slice none 0 0)) :
    Calls Tryd.prog 36 #[.pointer (some ⟨GB, 0, none⟩)] w fun e w' => e = .returned (.bool true) ∧ w' = w := by
  go_enter Tryd.func36, Tryd.ntmps36
  go_wp2
  refine wp_loop_rounds 1 ?_
  rw [rounds_succ]
  go_wp2
  refine wp_loop_rounds 1 ?_
  rw [rounds_succ]
  go_wp2
  refine wp_loop_rounds 1 ?_
  rw [rounds_succ]
  go_wp2
  go_ret
  exact ⟨rfl, rfl⟩
set_option maxRecDepth 100000 in
set_option maxHeartbeats 400000 in
theorem empty50 (GB : Nat) (w : World) (hc : w.cell? ⟨GB, 7, none⟩ = some (.slice none 0 0)) :
    Calls Tryd.prog 37 #[.pointer (some ⟨GB, 0, none⟩)] w fun e w' => e = .returned (.bool true) ∧ w' = w := by
  go_enter Tryd.func37, Tryd.ntmps37
  go_wp2
  refine wp_loop_rounds 1 ?_
  rw [rounds_succ]
  go_wp2
  refine wp_loop_rounds 1 ?_
  rw [rounds_succ]
  go_wp2
  refine wp_loop_rounds 1 ?_
  rw [rounds_succ]
  go_wp2
  go_ret
  exact ⟨rfl, rfl⟩
set_option maxRecDepth 100000 in
set_option maxHeartbeats 400000 in
theorem empty51 (GB : Nat) (w : World) (hc : w.cell? ⟨GB, 8, none⟩ = some (.slice none 0 0)) :
    Calls Tryd.prog 38 #[.pointer (some ⟨GB, 0, none⟩)] w fun e w' => e = .returned (.bool true) ∧ w' = w := by
  go_enter Tryd.func38, Tryd.ntmps38
  go_wp2
  refine wp_loop_rounds 1 ?_
  rw [rounds_succ]
  go_wp2
  refine wp_loop_rounds 1 ?_
  rw [rounds_succ]
  go_wp2
  refine wp_loop_rounds 1 ?_
  rw [rounds_succ]
  go_wp2
  go_ret
  exact ⟨rfl, rfl⟩
set_option maxRecDepth 100000 in
set_option maxHeartbeats 400000 in
theorem empty52 (GB : Nat) (w : World) (hc : w.cell? ⟨GB, 9, none⟩ = some (.slice none 0 0)) :
    Calls Tryd.prog 39 #[.pointer (some ⟨GB, 0, none⟩)] w fun e w' => e = .returned (.bool true) ∧ w' = w := by
  go_enter Tryd.func39, Tryd.ntmps39
  go_wp2
  refine wp_loop_rounds 1 ?_
  rw [rounds_succ]
  go_wp2
  refine wp_loop_rounds 1 ?_
  rw [rounds_succ]
  go_wp2
  refine wp_loop_rounds 1 ?_
  rw [rounds_succ]
  go_wp2
  go_ret
  exact ⟨rfl, rfl⟩
set_option maxRecDepth 100000 in
set_option maxHeartbeats 400000 in
theorem empty53 (GB : Nat) (w : World) (hc : w.cell? ⟨GB, 10, none⟩ = some (.slice none 0 0)) :
    Calls Tryd.prog 40 #[.pointer (some ⟨GB, 0, none⟩)] w fun e w' => e = .returned (.bool true) ∧ w' = w := by
  go_enter Tryd.func40, Tryd.ntmps40
  go_wp2
  refine wp_loop_rounds 1 ?_
  rw [rounds_succ]
  go_wp2
  refine wp_loop_rounds 1 ?_
  rw [rounds_succ]
  go_wp2
  refine wp_loop_rounds 1 ?_
  rw [rounds_succ]
  go_wp2
  go_ret
  exact ⟨rfl, rfl⟩
set_option maxRecDepth 100000 in
set_option maxHeartbeats 400000 in
theorem empty54 (GB : Nat) (w : World) (hc : w.cell? ⟨GB, 11, none⟩ = some (.slice none 0 0)) :
    Calls Tryd.prog 41 #[.pointer (some ⟨GB, 0, none⟩)] w fun e w' => e = .returned (.bool true) ∧ w' = w := by
  go_enter Tryd.func41, Tryd.ntmps41
  go_wp2
  refine wp_loop_rounds 1 ?_
  rw [rounds_succ]
  go_wp2
  refine wp_loop_rounds 1 ?_
  rw [rounds_succ]
  go_wp2
  refine wp_loop_rounds 1 ?_
  rw [rounds_succ]
  go_wp2
  go_ret
  exact ⟨rfl, rfl⟩
set_option maxRecDepth 100000 in
set_option maxHeartbeats 400000 in
theorem empty55 (GB : Nat) (w : World) (hc : w.cell? ⟨GB, 12, none⟩ = some (.slice none 0 0)) :
    Calls Tryd.prog 42 #[.pointer (some ⟨GB, 0, none⟩)] w fun e w' => e = .returned (.bool true) ∧ w' = w := by
  go_enter Tryd.func42, Tryd.ntmps42
  go_wp2
  refine wp_loop_rounds 1 ?_
  rw [rounds_succ]
  go_wp2
  refine wp_loop_rounds 1 ?_
  rw [rounds_succ]
  go_wp2
  refine wp_loop_rounds 1 ?_
  rw [rounds_succ]
  go_wp2
  go_ret
  exact ⟨rfl, rfl⟩
set_option maxRecDepth 100000 in
set_option maxHeartbeats 400000 in
theorem empty56 (GB : Nat) (w : World) (hc : w.cell? ⟨GB, 13, none⟩ = some (.slice none 0 0)) :
    Calls Tryd.prog 43 #[.pointer (some ⟨GB, 0, none⟩)] w fun e w' => e = .returned (.bool true) ∧ w' = w := by
  go_enter Tryd.func43, Tryd.ntmps43
  go_wp2
  refine wp_loop_rounds 1 ?_
  rw [rounds_succ]
  go_wp2
  refine wp_loop_rounds 1 ?_
  rw [rounds_succ]
  go_wp2
  refine wp_loop_rounds 1 ?_
  rw [rounds_succ]
  go_wp2
  go_ret
  exact ⟨rfl, rfl⟩
set_option maxRecDepth 100000 in
set_option maxHeartbeats 400000 in
theorem empty57 (GB : Nat) (w : World) (hc : w.cell? ⟨GB, 14, none⟩ = some (.slice none 0 0)) :
    Calls Tryd.prog 44 #[.pointer (some ⟨GB, 0, none⟩)] w fun e w' => e = .returned (.bool true) ∧ w' = w := by
  go_enter Tryd.func44, Tryd.ntmps44
  go_wp2
  refine wp_loop_rounds 1 ?_
  rw [rounds_succ]
  go_wp2
  refine wp_loop_rounds 1 ?_
  rw [rounds_succ]
  go_wp2
  refine wp_loop_rounds 1 ?_
  rw [rounds_succ]
  go_wp2
  go_ret
  exact ⟨rfl, rfl⟩
set_option maxRecDepth 100000 in
set_option maxHeartbeats 400000 in
theorem empty59 (GB : Nat) (w : World) (hc : w.cell? ⟨GB, 16, none⟩ = some (.slice none 0 0)) :
    Calls Tryd.prog 46 #[.pointer (some ⟨GB, 0, none⟩)] w fun e w' => e = .returned (.bool true) ∧ w' = w := by
  go_enter Tryd.func46, Tryd.ntmps46
  go_wp2
  refine wp_loop_rounds 1 ?_
  rw [rounds_succ]
  go_wp2
  refine wp_loop_rounds 1 ?_
  rw [rounds_succ]
  go_wp2
  refine wp_loop_rounds 1 ?_
  rw [rounds_succ]
  go_wp2
  go_ret
  exact ⟨rfl, rfl⟩
theorem Ma.keep {e : TypeId} {mk : Nat → Nat → Value} {w : World} {m : Nat} {N : Nat → Prop} {G L C : Nat → Nat} {wr w2 : World} {n : Nat} (h : Ma e mk w m N G L C wr n) (hk : Kept (fun _ => False) wr w2) : Ma e mk w m N G L C w2 n :=
  ⟨h.kept.then hk (fun _ _ x => x.elim), fun j hj hN => let ⟨xs, hr⟩ := h.rows j hj hN; ⟨xs, hr.kept hk (fun x => x)⟩, fun j hj i hi => hk.cell (h.done j hj i hi) (fun x => x)⟩
theorem St.keep {e es : TypeId} {mk : Nat → Nat → Value} {w : World} {m : Nat} {N : Nat → Prop} {G L C : Nat → Nat} {wr w2 : World} {f : Nat → Nat} {n1 n2 : Nat} {one more : Value} {ovs mvs : List Value} (h : St e es mk w m N G L C wr f n1 n2 one more ovs mvs) (hk : Kept (fun _ => False) wr w2) :
    St e es mk w m N G L C w2 f n1 n2 one more ovs mvs :=
  ⟨h.kept.then hk (fun _ _ x => x.elim), fun j hj hN => (h.own j hj hN).kept hk (fun x => x), own_keep h.ownOne fun B hB => hk.block B (own_lt h.ownOne hB).1 (fun x => x), h.ones.map fun j B c _ t => t.kept hk (fun x => x),
    own_keep h.ownMore fun B hB => hk.block B (own_lt h.ownMore hB).1 (fun x => x), h.mores.map fun j B c _ t => t.kept hk (fun x => x), h.newOne, h.newMore, h.apart⟩
set_option maxRecDepth 100000 in
set_option maxHeartbeats 400000 in
theorem empty43 (GB : Nat) (w : World) (hc : w.cell? ⟨GB, 0, none⟩ = some (.slice none 0 0)) :
    Calls Tryd.prog 30 #[.pointer (some ⟨GB, 0, none⟩)] w fun e w' => e = .returned (.bool true) ∧ w' = w := by
  go_enter Tryd.func30, Tryd.ntmps30
  go_wp2
  refine wp_loop_rounds 1 ?_
  rw [rounds_succ]
  go_wp2
  refine wp_loop_rounds 1 ?_
  rw [rounds_succ]
  go_wp2
  refine wp_loop_rounds 1 ?_
  rw [rounds_succ]
  go_wp2
  go_ret
  exact ⟨rfl, rfl⟩
set_option maxRecDepth 100000 in
set_option maxHeartbeats 400000 in
theorem empty44 (GB : Nat) (w : World) (hc : w.cell? ⟨GB, 1, none⟩ = some (.slice none 0 0)) :
    Calls Tryd.prog 31 #[.pointer (some ⟨GB, 0, none⟩)] w fun e w' => e = .returned (.bool true) ∧ w' = w := by
  go_enter Tryd.func31, Tryd.ntmps31
  go_wp2
  refine wp_loop_rounds 1 ?_
  rw [rounds_succ]
  go_wp2
  refine wp_loop_rounds 1 ?_
  rw [rounds_succ]
  go_wp2
  refine wp_loop_rounds 1 ?_
  rw [rounds_succ]
  go_wp2
  go_ret
  exact ⟨rfl, rfl⟩
set_option maxRecDepth 100000 in
set_option maxHeartbeats 400000 in
theorem empty58 (GB : Nat) (w : World) (hc : w.cell? ⟨GB, 15, none⟩ = some (.slice none 0 0)) :
    Calls Tryd.prog 45 #[.pointer (some ⟨GB, 0, none⟩)] w fun e w' => e = .returned (.bool true) ∧ w' = w := by
  go_enter Tryd.func45, Tryd.ntmps45
  go_wp2
  refine wp_loop_rounds 1 ?_
  rw [rounds_succ]
  go_wp2
  refine wp_loop_rounds 1 ?_
  rw [rounds_succ]
  go_wp2
  refine wp_loop_rounds 1 ?_
  rw [rounds_succ]
  go_wp2
  go_ret
  exact ⟨rfl, rfl⟩
end Go.Proofs.YtbdjghokedfkfaaDoor

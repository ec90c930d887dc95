/-
  Facts on memory for the walks over the bag's kinds: rows of marks, each with an owner, lists that are nil or a row, and what an append leaves of them. Of whatever element type of one cell ('e'), whatever type of lists ('es'), whatever marks ('mk').
-/
import Derived.Test.YtedkmfklobipaaaDoorHeap
namespace Go.Proofs.YtedkmfklobipaaaDoor
open Go.RowKit
set_option linter.unusedVariables false

/-- The first k marks of the list n. -/
def ml (mk : Nat → Nat → Value) (n k : Nat) : List Value := (List.range k).map (mk n)

theorem ml_len {mk : Nat → Nat → Value} (n k : Nat) : (ml mk n k).length = k := by simp [ml]
theorem ml_get {mk : Nat → Nat → Value} (n k i : Nat) (h : i < k) : (ml mk n k)[i]? = some (mk n i) := by simp [ml, h]
theorem ml_succ {mk : Nat → Nat → Value} (n k : Nat) : ml mk n (k + 1) = ml mk n k ++ [mk n k] := by simp [ml, List.range_succ]
theorem ml_take {mk : Nat → Nat → Value} (n k k' : Nat) (h : k ≤ k') : (ml mk n k').take k = ml mk n k := by
  simp only [ml, ← List.map_take, List.take_range]
  rw [Nat.min_eq_left h]

/-- A row of marks, with its owner. -/
def TR (e : TypeId) (mk : Nat → Nat → Value) (w : World) (f : Nat → Nat) (b j k c : Nat) : Prop := Row w e b k c (ml mk j k) ∧ f b = j

theorem TR.cell {e : TypeId} {mk : Nat → Nat → Value} {w : World} {f : Nat → Nat} {b j k c : Nat} (h : TR e mk w f b j k c) (i : Nat) (hi : i < k) : w.cell? ⟨b, i, none⟩ = some (mk j i) := by
  rw [h.1.cell i hi, ml_get j k i hi]

/-- The row of k cells that a longer row of the same block holds. -/
theorem Row.pre {e : TypeId} {mk : Nat → Nat → Value} {w : World} {b k k' c' j : Nat} (h : Row w e b k' c' (ml mk j k')) (hk : k ≤ k') : Row w e b k c' (ml mk j k) := by
  obtain ⟨cur, e1, e2, e3, e4, e5⟩ := h.block
  refine ⟨by simp [ml_len], .inr ⟨b, c', cur, rfl, Nat.zero_le _, e1, by omega, e3, by simpa using e4, ?_⟩⟩
  rw [Nat.mul_one, ← ml_take j k k' hk, ← e5, List.take_take, Nat.min_eq_left hk]
theorem Row.capEq {e : TypeId} {w : World} {b k k' c c' : Nat} {xs xs' : List Value} (h : Row w e b k c xs) (h' : Row w e b k' c' xs') : c = c' := by
  obtain ⟨cur, e1, e2, e3, e4, e5⟩ := h.block
  obtain ⟨cur', f1, f2, f3, f4, f5⟩ := h'.block
  rw [e1] at f1
  simp at f1
  subst f1
  omega

/-- What an append of one element does: the row stays in its block, or moves to a new one. -/
def Went (w w' : World) (g cap B cap' : Nat) : Prop := (B = g ∧ cap' = cap ∧ Kept (fun x => x = B) w w') ∨ (w.heap.size ≤ B ∧ Kept (fun _ => False) w w')

/-- Where the row of g has gone on to (B, i + 1), the others stand. -/
theorem TR.step {e : TypeId} {mk : Nat → Nat → Value} {w w' : World} {f : Nat → Nat} {b j k c g n i cap B cap' : Nat} (h : TR e mk w f b j k c) (hl : TR e mk w f g n i cap) (hr : Row w' e B (i + 1) cap' (ml mk n (i + 1)))
    (hcase : Went w w' g cap B cap') (hk : b = g → k ≤ i) : TR e mk w' (fun x => if x = B then n else f x) b j k c := by
  by_cases hb : b = B
  · subst hb
    rcases hcase with ⟨rfl, rfl, hkp⟩ | ⟨hge, hkp⟩
    · have hj : j = n := by rw [← h.2, hl.2]
      subst hj
      obtain rfl := h.1.capEq hl.1
      exact ⟨hr.pre (by have := hk rfl; omega), by simp⟩
    · have := h.1.lt; omega
  · refine ⟨?_, by simp [hb]; exact h.2⟩
    rcases hcase with ⟨_, _, hkp⟩ | ⟨_, hkp⟩
    · exact h.1.kept hkp hb
    · exact h.1.kept hkp (fun x => x)
/-- Where a new row has come, the others stand. -/
theorem TR.fresh {e : TypeId} {mk : Nat → Nat → Value} {w w' : World} {f : Nat → Nat} {b j k c n B : Nat} (h : TR e mk w f b j k c) (hge : w.heap.size ≤ B) (hkp : Kept (fun _ => False) w w') : TR e mk w' (fun x => if x = B then n else f x) b j k c := by
  have hb : b ≠ B := by have := h.1.lt; omega
  exact ⟨h.1.kept hkp (fun x => x), by simp [hb]; exact h.2⟩

theorem TR.kept {e : TypeId} {mk : Nat → Nat → Value} {S : Nat → Prop} {w w' : World} {f : Nat → Nat} {b j k c : Nat} (h : TR e mk w f b j k c) (hk : Kept S w w') (hs : ¬ S b) : TR e mk w' f b j k c := ⟨h.1.kept hk hs, h.2⟩

/-- Slices of marks that are listed: the j-th has L j + d marks. -/
def Listed (e : TypeId) (mk : Nat → Nat → Value) (w : World) (f : Nat → Nat) (L : Nat → Nat) (d n : Nat) (vs : List Value) : Prop :=
  ∀ j, j < n → ∃ B c, vs[j]? = some (.slice (some ⟨B, 0, none⟩) (L j + d) c) ∧ TR e mk w f B j (L j + d) c

theorem Listed.nil {e : TypeId} {mk : Nat → Nat → Value} (w : World) (f : Nat → Nat) (L : Nat → Nat) (d : Nat) : Listed e mk w f L d 0 [] := fun j hj => absurd hj (by omega)
theorem Listed.map {e : TypeId} {mk : Nat → Nat → Value} {w w' : World} {f f' : Nat → Nat} {L : Nat → Nat} {d n : Nat} {vs : List Value} (h : Listed e mk w f L d n vs) (hm : ∀ j B c, j < n → TR e mk w f B j (L j + d) c → TR e mk w' f' B j (L j + d) c) : Listed e mk w' f' L d n vs := by
  intro j hj
  obtain ⟨B, c, e', t⟩ := h j hj
  exact ⟨B, c, e', hm j B c hj t⟩
theorem Listed.add {e : TypeId} {mk : Nat → Nat → Value} {w : World} {f : Nat → Nat} {L : Nat → Nat} {d n : Nat} {vs : List Value} {B c : Nat} (h : Listed e mk w f L d n vs) (hl : vs.length = n) (ht : TR e mk w f B n (L n + d) c) : Listed e mk w f L d (n + 1) (vs ++ [.slice (some ⟨B, 0, none⟩) (L n + d) c]) := by
  intro j hj
  by_cases e' : j = n
  · subst e'
    exact ⟨B, c, by rw [List.getElem?_append_right (by omega)]; simp [hl], ht⟩
  · obtain ⟨B', c', e', t'⟩ := h j (by omega)
    exact ⟨B', c', by rw [List.getElem?_append_left (by omega)]; exact e', t'⟩

/-- The blocks that may be written: those of the lists that are not nil. -/
def Own (m : Nat) (N : Nat → Prop) (G : Nat → Nat) : Nat → Prop := fun b => ∃ j, j < m ∧ N j ∧ b = G j

/-- The state of the walk behind the marking: the lists' own rows, 'one', 'more'. -/
structure St (e es : TypeId) (mk : Nat → Nat → Value) (w : World) (m : Nat) (N : Nat → Prop) (G L C : Nat → Nat) (wr : World) (f : Nat → Nat) (n1 n2 : Nat) (one more : Value) (ovs mvs : List Value) : Prop where
  kept : Kept (Own m N G) w wr
  own : ∀ j, j < m → N j → TR e mk wr f (G j) j (L j) (C j)
  ownOne : wr.ownsRow 0 es 1 one n1 ovs
  ones : Listed e mk wr f L 1 n1 ovs
  ownMore : wr.ownsRow 0 es 1 more n2 mvs
  mores : Listed e mk wr f L 70 n2 mvs
  newOne : ∀ B, one.ownBlock = some B → w.heap.size ≤ B
  newMore : ∀ B, more.ownBlock = some B → w.heap.size ≤ B
  apart : ∀ B, one.ownBlock = some B → more.ownBlock ≠ some B

theorem own_lt {e : TypeId} {w : World} {base : Nat} {v : Value} {n : Nat} {xs : List Value} (h : w.ownsRow base e 1 v n xs) {B : Nat} (hB : v.ownBlock = some B) : B < w.heap.size ∧ ∃ cur, w.heap[B]? = some (.cells cur e) := by
  rcases h.2 with ⟨rfl, _⟩ | ⟨g, cp, cur, rfl, h2, h3, h4⟩
  · simp [Value.ownBlock] at hB
  · obtain rfl : g = B := by simpa [Value.ownBlock] using hB
    refine ⟨?_, cur, h3⟩
    rcases Nat.lt_or_ge g w.heap.size with hl | hl
    · exact hl
    · rw [Array.getElem?_eq_none hl] at h3; cases h3

theorem own_ne {w : World} {e e' : TypeId} {v : Value} {n b k c B : Nat} {xs ys : List Value} (h : w.ownsRow 0 e 1 v n xs) (hB : v.ownBlock = some B) (hr : Row w e' b k c ys) (he : e ≠ e') : b ≠ B := by
  intro hb
  subst hb
  obtain ⟨_, cur, h1⟩ := own_lt h hB
  obtain ⟨cur', h2, _⟩ := hr.block
  rw [h1] at h2
  simp at h2
  exact he h2.2

/-- A list that is being gone on with: nil, or a row of marks. -/
def Lst (e : TypeId) (mk : Nat → Nat → Value) (w : World) (N : Nat → Prop) (G : Nat → Nat) (wr : World) (f : Nat → Nat) (n k : Nat) (v : Value) : Prop :=
  (v = .slice none 0 0 ∧ k = 0) ∨ ∃ g cap, v = .slice (some ⟨g, 0, none⟩) k cap ∧ TR e mk wr f g n k cap ∧ ((N n ∧ g = G n) ∨ w.heap.size ≤ g)

theorem Lst.own {e : TypeId} {mk : Nat → Nat → Value} {w : World} {N : Nat → Prop} {G : Nat → Nat} {wr : World} {f : Nat → Nat} {n k : Nat} {v : Value} (h : Lst e mk w N G wr f n k v) : wr.ownsRow 0 e 1 v k (ml mk n k) := by
  rcases h with ⟨rfl, rfl⟩ | ⟨g, cap, rfl, ht, _⟩
  · exact World.ownsRow_nil _ _ _ _
  · exact ht.1
theorem Lst.kept {e : TypeId} {mk : Nat → Nat → Value} {w : World} {N : Nat → Prop} {G : Nat → Nat} {wr w' : World} {f : Nat → Nat} {n k : Nat} {v : Value} (h : Lst e mk w N G wr f n k v) (hk : Kept (fun _ => False) wr w') : Lst e mk w N G w' f n k v := by
  rcases h with ⟨rfl, rfl⟩ | ⟨g, cap, rfl, ht, hg⟩
  · exact .inl ⟨rfl, rfl⟩
  · exact .inr ⟨g, cap, rfl, ht.kept hk (fun x => x), hg⟩
theorem Lst.slice {e : TypeId} {mk : Nat → Nat → Value} {w : World} {N : Nat → Prop} {G : Nat → Nat} {wr : World} {f : Nat → Nat} {n k : Nat} {v : Value} (h : Lst e mk w N G wr f n k v) : ∃ a c, v = .slice a k c := by
  rcases h with ⟨rfl, rfl⟩ | ⟨g, cap, rfl, _⟩
  · exact ⟨_, _, rfl⟩
  · exact ⟨_, _, rfl⟩

/-- A new block turns nothing. -/
theorem St.alloc {e es : TypeId} {mk : Nat → Nat → Value} {w : World} {m : Nat} {N : Nat → Prop} {G L C : Nat → Nat} {wr : World} {f : Nat → Nat} {n1 n2 : Nat} {one more : Value} {ovs mvs : List Value} (h : St e es mk w m N G L C wr f n1 n2 one more ovs mvs) (o : Obj) :
    St e es mk w m N G L C (wr.alloc o) f n1 n2 one more ovs mvs := by
  have hk := Kept.alloc (fun _ => False) wr o
  refine ⟨h.kept.then hk (fun _ _ x => x.elim), fun j hj hN => (h.own j hj hN).kept hk (fun x => x), own_keep h.ownOne fun B hB => hk.block B (own_lt h.ownOne hB).1 (fun x => x), h.ones.map fun j B c _ t => t.kept hk (fun x => x),
    own_keep h.ownMore fun B hB => hk.block B (own_lt h.ownMore hB).1 (fun x => x), h.mores.map fun j B c _ t => t.kept hk (fun x => x), h.newOne, h.newMore, h.apart⟩

/-- One element more onto the list n, which is a row. -/
theorem St.list {e es : TypeId} {mk : Nat → Nat → Value} {w : World} {m : Nat} {N : Nat → Prop} {G L C : Nat → Nat} {wr w' : World} {f : Nat → Nat} {n1 n2 : Nat} {one more : Value} {ovs mvs : List Value} {g n i cap B cap' : Nat} (hes : es ≠ e) (h : St e es mk w m N G L C wr f n1 n2 one more ovs mvs)
    (hl : TR e mk wr f g n i cap) (hg : (N n ∧ g = G n) ∨ w.heap.size ≤ g) (hnm : n < m) (hr : Row w' e B (i + 1) cap' (ml mk n i ++ [mk n i])) (hc : Went wr w' g cap B cap')
    (hi : L n ≤ i) (h1 : n1 ≤ n ∨ (n1 = n + 1 ∧ L n + 1 ≤ i)) (h2 : n2 ≤ n) :
    St e es mk w m N G L C w' (fun x => if x = B then n else f x) n1 n2 one more ovs mvs ∧ TR e mk w' (fun x => if x = B then n else f x) B n (i + 1) cap' ∧ ((N n ∧ B = G n) ∨ w.heap.size ≤ B) := by
  rw [← ml_succ] at hr
  have hw := h.kept.size
  have step : ∀ b j k c, TR e mk wr f b j k c → (b = g → k ≤ i) → TR e mk w' (fun x => if x = B then n else f x) b j k c := fun b j k c t hk => t.step hl hr hc hk
  have hkept : ∀ b, b < wr.heap.size → b ≠ g → w'.heap[b]? = wr.heap[b]? := by
    intro b hb hbg
    rcases hc with ⟨rfl, _, hk⟩ | ⟨_, hk⟩
    · exact hk.block b hb hbg
    · exact hk.block b hb (fun x => x)
  refine ⟨⟨?_, fun j hj hN => step _ _ _ _ (h.own j hj hN) ?_, ?_, ?_, ?_, ?_, h.newOne, h.newMore, h.apart⟩, ⟨hr, by simp⟩, ?_⟩
  · rcases hc with ⟨rfl, _, hk⟩ | ⟨_, hk⟩
    · refine h.kept.then hk (fun k hk' hkb => ?_)
      subst hkb
      rcases hg with ⟨hN, rfl⟩ | hg
      · exact ⟨n, hnm, hN, rfl⟩
      · omega
    · exact h.kept.then hk (fun _ _ x => x.elim)
  · intro e'
    have hj1 := (h.own j hj hN).2
    rw [e', hl.2] at hj1
    subst hj1
    exact hi
  · exact own_keep h.ownOne fun B' hB => hkept B' (own_lt h.ownOne hB).1 (fun e' => (own_ne h.ownOne hB hl.1 hes) e'.symm)
  · refine h.ones.map fun j b c hj t => step _ _ _ _ t (fun e' => ?_)
    have hj1 := t.2
    rw [e', hl.2] at hj1
    subst hj1
    rcases h1 with h1 | ⟨_, h1⟩
    · omega
    · exact h1
  · exact own_keep h.ownMore fun B' hB => hkept B' (own_lt h.ownMore hB).1 (fun e' => (own_ne h.ownMore hB hl.1 hes) e'.symm)
  · refine h.mores.map fun j b c hj t => step _ _ _ _ t (fun e' => ?_)
    have hj1 := t.2
    rw [e', hl.2] at hj1
    omega
  · rcases hc with ⟨rfl, _, _⟩ | ⟨hge, _⟩
    · exact hg
    · exact .inr (by omega)

/-- One element more onto the list n, in a new block. -/
theorem St.fresh {e es : TypeId} {mk : Nat → Nat → Value} {w : World} {m : Nat} {N : Nat → Prop} {G L C : Nat → Nat} {wr w' : World} {f : Nat → Nat} {n1 n2 : Nat} {one more : Value} {ovs mvs : List Value} {n i B cap' : Nat} (h : St e es mk w m N G L C wr f n1 n2 one more ovs mvs)
    (hr : Row w' e B (i + 1) cap' (ml mk n i ++ [mk n i])) (hge : wr.heap.size ≤ B) (hk : Kept (fun _ => False) wr w') :
    St e es mk w m N G L C w' (fun x => if x = B then n else f x) n1 n2 one more ovs mvs ∧ TR e mk w' (fun x => if x = B then n else f x) B n (i + 1) cap' ∧ ((N n ∧ B = G n) ∨ w.heap.size ≤ B) := by
  rw [← ml_succ] at hr
  have hw := h.kept.size
  refine ⟨⟨h.kept.then hk (fun _ _ x => x.elim), fun j hj hN => (h.own j hj hN).fresh hge hk, own_keep h.ownOne fun B' hB => hk.block B' (own_lt h.ownOne hB).1 (fun x => x), h.ones.map fun j b c _ t => t.fresh hge hk,
    own_keep h.ownMore fun B' hB => hk.block B' (own_lt h.ownMore hB).1 (fun x => x), h.mores.map fun j b c _ t => t.fresh hge hk, h.newOne, h.newMore, h.apart⟩, ⟨hr, by simp⟩, .inr (by omega)⟩

/-- What an append onto 'one' or 'more' leaves. -/
def Onto (w w' : World) (v : Value) (n B cap : Nat) : Prop := (v = .slice (some ⟨B, 0, none⟩) n cap ∧ Kept (fun k => k = B) w w') ∨ (w.heap.size ≤ B ∧ Kept (fun _ => False) w w')

theorem TR.onto {e es : TypeId} {mk : Nat → Nat → Value} {w w' : World} {f : Nat → Nat} {b j k c : Nat} {v : Value} {n n' B cap : Nat} {xs : List Value} (hes : es ≠ e) (h : TR e mk w f b j k c) (hv : w.ownsRow 0 es 1 v n' xs) (ho : Onto w w' v n B cap) : TR e mk w' f b j k c := by
  rcases ho with ⟨rfl, hk⟩ | ⟨_, hk⟩
  · exact h.kept hk (own_ne hv rfl h.1 hes)
  · exact h.kept hk (fun x => x)

theorem Onto.kept {w w0 w' : World} {S : Nat → Prop} {v : Value} {n B cap : Nat} (h : Kept S w0 w) (ho : Onto w w' v n B cap) (hn : ∀ b, v.ownBlock = some b → w0.heap.size ≤ b) : Kept S w0 w' := by
  rcases ho with ⟨rfl, hk⟩ | ⟨_, hk⟩
  · refine h.then hk (fun k h1 h2 => ?_)
    subst h2
    have := hn k rfl
    omega
  · exact h.then hk (fun _ _ x => x.elim)

theorem Onto.other {es : TypeId} {w w' : World} {v u : Value} {n n' B cap : Nat} {xs : List Value} (ho : Onto w w' v n B cap) (hu : w.ownsRow 0 es 1 u n' xs) (ha : ∀ b, v.ownBlock = some b → u.ownBlock ≠ some b) : w'.ownsRow 0 es 1 u n' xs := by
  refine own_keep hu fun b hb => ?_
  rcases ho with ⟨rfl, hk⟩ | ⟨_, hk⟩
  · exact hk.block b (own_lt hu hb).1 (fun e' => ha B rfl (e' ▸ hb))
  · exact hk.block b (own_lt hu hb).1 (fun x => x)

/-- The list, so far, onto 'one'. -/
theorem St.pushOne {e es : TypeId} {mk : Nat → Nat → Value} {w : World} {m : Nat} {N : Nat → Prop} {G L C : Nat → Nat} {wr w' : World} {f : Nat → Nat} {n n2 : Nat} {one more : Value} {ovs mvs : List Value} {g c B cap : Nat} (hes : es ≠ e) (h : St e es mk w m N G L C wr f n n2 one more ovs mvs)
    (ht : TR e mk wr f g n (L n + 1) c) (hr : Row w' es B (n + 1) cap (ovs ++ [.slice (some ⟨g, 0, none⟩) (L n + 1) c])) (ho : Onto wr w' one n B cap) :
    St e es mk w m N G L C w' f (n + 1) n2 (.slice (some ⟨B, 0, none⟩) (n + 1) cap) more (ovs ++ [.slice (some ⟨g, 0, none⟩) (L n + 1) c]) mvs ∧ TR e mk w' f g n (L n + 1) c := by
  have hw := h.kept.size
  have ht' := ht.onto hes h.ownOne ho
  refine ⟨⟨ho.kept h.kept h.newOne, fun j hj hN => (h.own j hj hN).onto hes h.ownOne ho, hr, Listed.add (h.ones.map fun j b c hj t => t.onto hes h.ownOne ho) (by have := h.ownOne.1; simpa using this) ht', ho.other h.ownMore h.apart,
    h.mores.map fun j b c hj t => t.onto hes h.ownOne ho, ?_, h.newMore, ?_⟩, ht'⟩
  · intro b hb
    obtain rfl : B = b := by simpa [Value.ownBlock] using hb
    rcases ho with ⟨rfl, _⟩ | ⟨hge, _⟩
    · exact h.newOne B rfl
    · omega
  · intro b hb
    obtain rfl : B = b := by simpa [Value.ownBlock] using hb
    rcases ho with ⟨rfl, _⟩ | ⟨hge, _⟩
    · exact h.apart B rfl
    · intro e'
      have := (own_lt h.ownMore e').1
      omega

/-- The list, whole, onto 'more'. -/
theorem St.pushMore {e es : TypeId} {mk : Nat → Nat → Value} {w : World} {m : Nat} {N : Nat → Prop} {G L C : Nat → Nat} {wr w' : World} {f : Nat → Nat} {n n1 : Nat} {one more : Value} {ovs mvs : List Value} {g c B cap : Nat} (hes : es ≠ e) (h : St e es mk w m N G L C wr f n1 n one more ovs mvs)
    (ht : TR e mk wr f g n (L n + 70) c) (hr : Row w' es B (n + 1) cap (mvs ++ [.slice (some ⟨g, 0, none⟩) (L n + 70) c])) (ho : Onto wr w' more n B cap) :
    St e es mk w m N G L C w' f n1 (n + 1) one (.slice (some ⟨B, 0, none⟩) (n + 1) cap) ovs (mvs ++ [.slice (some ⟨g, 0, none⟩) (L n + 70) c]) := by
  have hw := h.kept.size
  have ht' := ht.onto hes h.ownMore ho
  refine ⟨ho.kept h.kept h.newMore, fun j hj hN => (h.own j hj hN).onto hes h.ownMore ho, ho.other h.ownOne (fun b hb e' => h.apart b e' hb), h.ones.map fun j b c hj t => t.onto hes h.ownMore ho, hr,
    Listed.add (h.mores.map fun j b c hj t => t.onto hes h.ownMore ho) (by have := h.ownMore.1; simpa using this) ht', h.newOne, ?_, ?_⟩
  · intro b hb
    obtain rfl : B = b := by simpa [Value.ownBlock] using hb
    rcases ho with ⟨rfl, _⟩ | ⟨hge, _⟩
    · exact h.newMore B rfl
    · omega
  · intro b hb e'
    obtain rfl : B = b := by simpa [Value.ownBlock] using e'
    rcases ho with ⟨rfl, _⟩ | ⟨hge, _⟩
    · exact h.apart B hb rfl
    · have := (own_lt h.ownOne hb).1
      omega

/-- The marking: which rows are done. -/
structure Ma (e : TypeId) (mk : Nat → Nat → Value) (w : World) (m : Nat) (N : Nat → Prop) (G L C : Nat → Nat) (wr : World) (n : Nat) : Prop where
  kept : Kept (Own m N G) w wr
  rows : ∀ j, j < m → N j → ∃ xs, Row wr e (G j) (L j) (C j) xs
  done : ∀ j, j < n → ∀ i, i < L j → wr.cell? ⟨G j, i, none⟩ = some (mk j i)

theorem Row.marks {e : TypeId} {mk : Nat → Nat → Value} {w : World} {b k c j : Nat} {xs : List Value} (h : Row w e b k c xs) (hm : ∀ i, i < k → w.cell? ⟨b, i, none⟩ = some (mk j i)) : Row w e b k c (ml mk j k) := by
  have : xs = ml mk j k := by
    apply List.ext_getElem?
    intro i
    by_cases hi : i < k
    · rw [← h.cell i hi, hm i hi, ml_get j k i hi]
    · have hl := h.1
      rw [List.getElem?_eq_none (by omega), List.getElem?_eq_none (by rw [ml_len]; omega)]
  rw [← this]; exact h

/-- One mark more. -/
theorem Ma.put {e : TypeId} {mk : Nat → Nat → Value} {w : World} {m : Nat} {N : Nat → Prop} {G L C : Nat → Nat} {wr : World} {n i : Nat} (h : Ma e mk w m N G L C wr n) (hn : n < m) (hN : ∀ j, j < m → 0 < L j → N j) (hi : i < L n) (hinj : ∀ a b, a < m → b < m → N a → N b → G a = G b → a = b)
    (hp : ∀ k, k < i → wr.cell? ⟨G n, k, none⟩ = some (mk n k)) :
    Ma e mk w m N G L C (wr.setCell ⟨G n, i, none⟩ (mk n i)) n ∧ ∀ k, k < i + 1 → (wr.setCell ⟨G n, i, none⟩ (mk n i)).cell? ⟨G n, k, none⟩ = some (mk n k) := by
  have hNn : N n := hN n hn (by omega)
  obtain ⟨xs, hr⟩ := h.rows n hn hNn
  obtain ⟨hr', hk⟩ := hr.put i (mk n i)
  have hl := hr.1
  have hcells : ∀ k, k < L n → (wr.setCell ⟨G n, i, none⟩ (mk n i)).cell? ⟨G n, k, none⟩ = if k = i then some (mk n i) else wr.cell? ⟨G n, k, none⟩ := by
    intro k hk'
    rw [hr'.cell k hk', hr.cell k hk', List.getElem?_set]
    by_cases e' : i = k
    · subst e'; simp; omega
    · simp [e', Ne.symm e']
  refine ⟨⟨h.kept.then hk (fun k _ e' => ⟨n, hn, hNn, e'⟩), fun j hj hNj => ?_, fun j hj k hk' => ?_⟩, fun k hk' => ?_⟩
  · by_cases e' : j = n
    · subst e'; exact ⟨_, hr'⟩
    · obtain ⟨ys, hy⟩ := h.rows j hj hNj
      exact ⟨ys, hy.kept hk (fun e'' => e' (hinj j n hj hn hNj hNn e''))⟩
  · have hjm : j < m := by omega
    have hne : ¬ G j = G n := fun e' => by have := hinj j n hjm hn (hN j hjm (by omega)) hNn e'; omega
    exact hk.cell (h.done j hj k hk') hne
  · rw [hcells k (by omega)]
    by_cases e' : k = i
    · simp [e']
    · rw [if_neg e']; exact hp k (by omega)

theorem owner (m : Nat) (N : Nat → Prop) (G : Nat → Nat) (hinj : ∀ a b, a < m → b < m → N a → N b → G a = G b → a = b) : ∃ f : Nat → Nat, ∀ j, j < m → N j → f (G j) = j := by
  refine ⟨fun b => Classical.epsilon fun j => j < m ∧ N j ∧ G j = b, fun j hj hN => ?_⟩
  have := Classical.epsilon_spec (p := fun i => i < m ∧ N i ∧ G i = G j) ⟨j, hj, hN, rfl⟩
  exact hinj _ j this.1 hj this.2.1 hN this.2.2

/-- A row as a slice, and its cells. -/
theorem own_sliceM {e : TypeId} {w : World} {v : Value} {n : Nat} {xs : List Value} (h : w.ownsRow 0 e 1 v n xs) : ∃ a c, v = .slice a n c ∧ (n = 0 ∨ ∃ B, a = some ⟨B, 0, none⟩ ∧ ∀ j, j < n → w.cell? ⟨B, j, none⟩ = xs[j]?) := by
  rcases h.2 with ⟨rfl, rfl⟩ | ⟨g, cap, cur, rfl, h2⟩
  · exact ⟨none, 0, rfl, .inl rfl⟩
  · exact ⟨_, cap, rfl, .inr ⟨g, rfl, fun j hj => World.ownsRow.cellAt h j (by omega)⟩⟩

/-- Behind the marking. -/
theorem Ma.state {e : TypeId} {mk : Nat → Nat → Value} {w : World} {m : Nat} {N : Nat → Prop} {G L C : Nat → Nat} {wr : World} (es : TypeId) (h : Ma e mk w m N G L C wr m) (hinj : ∀ a b, a < m → b < m → N a → N b → G a = G b → a = b) : ∃ f, St e es mk w m N G L C wr f 0 0 (.slice none 0 0) (.slice none 0 0) [] [] := by
  obtain ⟨f, hf⟩ := owner m N G hinj
  refine ⟨f, h.kept, fun j hj hN => ?_, World.ownsRow_nil _ _ _ _, Listed.nil _ _ _ _, World.ownsRow_nil _ _ _ _, Listed.nil _ _ _ _, fun B hB => by simp [Value.ownBlock] at hB, fun B hB => by simp [Value.ownBlock] at hB, fun B hB => by simp [Value.ownBlock] at hB⟩
  obtain ⟨xs, hr⟩ := h.rows j hj hN
  exact ⟨hr.marks (h.done j hj), hf j hj hN⟩

theorem stepL {e es : TypeId} {mk : Nat → Nat → Value} {w : World} {m : Nat} {N : Nat → Prop} {G L C : Nat → Nat} {wr w2 : World} {f : Nat → Nat} {n1 n2 : Nat} {one more : Value} {ovs mvs : List Value} {v : Value} {n k B cap' : Nat} (hes : es ≠ e) (h : St e es mk w m N G L C wr f n1 n2 one more ovs mvs)
    (hl : Lst e mk w N G wr f n k v) (hnm : n < m) (o : Obj) (hr : Row w2 e B (k + 1) cap' (ml mk n k ++ [mk n k]))
    (hc : (v = .slice (some ⟨B, 0, none⟩) k cap' ∧ Kept (fun x => x = B) (wr.alloc o) w2) ∨ ((wr.alloc o).heap.size ≤ B ∧ Kept (fun _ => False) (wr.alloc o) w2))
    (hi : L n ≤ k) (h1 : (k = L n ∧ n1 = n) ∨ (L n + 1 ≤ k ∧ n1 = n + 1)) (h2 : n2 ≤ n) :
    ∃ f', St e es mk w m N G L C w2 f' n1 n2 one more ovs mvs ∧ TR e mk w2 f' B n (k + 1) cap' ∧ ((N n ∧ B = G n) ∨ w.heap.size ≤ B) := by
  have ha := h.alloc o
  rcases hl.kept (Kept.alloc (fun _ => False) wr o) with ⟨rfl, rfl⟩ | ⟨g, cap, rfl, ht, hg⟩
  · rcases hc with ⟨e', _⟩ | ⟨hge, hk⟩
    · simp at e'
    · exact ⟨_, ha.fresh hr hge hk⟩
  · refine ⟨_, ha.list hes ht hg hnm hr ?_ hi (by omega) h2⟩
    rcases hc with ⟨e', hk⟩ | ⟨hge, hk⟩
    · simp at e'
      obtain ⟨rfl, rfl⟩ := e'
      exact .inl ⟨rfl, rfl, hk⟩
    · exact .inr ⟨hge, hk⟩

theorem stepO {e es : TypeId} {mk : Nat → Nat → Value} {w : World} {m : Nat} {N : Nat → Prop} {G L C : Nat → Nat} {wr w2 : World} {f : Nat → Nat} {n n2 : Nat} {one more : Value} {ovs mvs : List Value} {g c B cap kk : Nat} (hes : es ≠ e) (h : St e es mk w m N G L C wr f n n2 one more ovs mvs) (hkk : kk = L n + 1)
    (ht : TR e mk wr f g n kk c) (o : Obj) (hr : Row w2 es B (n + 1) cap (ovs ++ [.slice (some ⟨g, 0, none⟩) kk c])) (ho : Onto (wr.alloc o) w2 one n B cap) :
    St e es mk w m N G L C w2 f (n + 1) n2 (.slice (some ⟨B, 0, none⟩) (n + 1) cap) more (ovs ++ [.slice (some ⟨g, 0, none⟩) kk c]) mvs ∧ TR e mk w2 f g n kk c := by
  subst hkk
  have ha := h.alloc o
  exact ha.pushOne hes (ht.kept (Kept.alloc (fun _ => False) wr o) (fun x => x)) hr ho

theorem stepM {e es : TypeId} {mk : Nat → Nat → Value} {w : World} {m : Nat} {N : Nat → Prop} {G L C : Nat → Nat} {wr w2 : World} {f : Nat → Nat} {n n1 : Nat} {one more : Value} {ovs mvs : List Value} {g c B cap kk : Nat} (hes : es ≠ e) (h : St e es mk w m N G L C wr f n1 n one more ovs mvs) (hkk : kk = L n + 70)
    (ht : TR e mk wr f g n kk c) (o : Obj) (hr : Row w2 es B (n + 1) cap (mvs ++ [.slice (some ⟨g, 0, none⟩) kk c])) (ho : Onto (wr.alloc o) w2 more n B cap) :
    St e es mk w m N G L C w2 f n1 (n + 1) one (.slice (some ⟨B, 0, none⟩) (n + 1) cap) ovs (mvs ++ [.slice (some ⟨g, 0, none⟩) kk c]) := by
  subst hkk
  have ha := h.alloc o
  exact ha.pushMore hes (ht.kept (Kept.alloc (fun _ => False) wr o) (fun x => x)) hr ho
end Go.Proofs.YtedkmfklobipaaaDoor

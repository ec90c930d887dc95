/-
  Rows of elements of four cells that are told apart by marks: the walk over apartFrames.
-/
import Derived.Test.YtbdjghokedfkfaaDoorGc
namespace Go.Proofs.YtbdjghokedfkfaaDoor
open Go.RowKit
set_option linter.unusedVariables false
set_option maxRecDepth 100000
/-- The cells of the first k marks of the list n. -/
def ml4 (mk : Nat → Nat → Value) (n k : Nat) : List Value := (List.range (k * 4)).map (mk n)
def q4 (mk : Nat → Nat → Value) (n k : Nat) : List Value := [mk n (k * 4), mk n (k * 4 + 1), mk n (k * 4 + 2), mk n (k * 4 + 3)]
theorem ml4_len {mk : Nat → Nat → Value} (n k : Nat) : (ml4 mk n k).length = k * 4 := by simp [ml4]
theorem ml4_get {mk : Nat → Nat → Value} (n k i : Nat) (h : i < k * 4) : (ml4 mk n k)[i]? = some (mk n i) := by simp [ml4, h]
theorem ml4_succ {mk : Nat → Nat → Value} (n k : Nat) : ml4 mk n (k + 1) = ml4 mk n k ++ q4 mk n k := by
  have e : (k + 1) * 4 = k * 4 + 1 + 1 + 1 + 1 := by omega
  simp only [ml4, q4, e, List.range_succ, List.map_append, List.map_cons, List.map_nil, List.append_assoc, List.cons_append, List.nil_append]
theorem ml4_take {mk : Nat → Nat → Value} (n k k' : Nat) (h : k ≤ k') : (ml4 mk n k').take (k * 4) = ml4 mk n k := by
  simp only [ml4, ← List.map_take, List.take_range]
  rw [Nat.min_eq_left (by omega)]
def Row4 (w : World) (e : TypeId) (B n cap : Nat) (xs : List Value) : Prop := w.ownsRow 0 e 4 (.slice (some ⟨B, 0, none⟩) n cap) n xs
theorem Row4.of {w : World} {base : Nat} {e : TypeId} {B n cap : Nat} {xs : List Value} (h : w.ownsRow base e 4 (.slice (some ⟨B, 0, none⟩) n cap) n xs) : Row4 w e B n cap xs := by
  refine ⟨h.1, ?_⟩
  rcases h.2 with ⟨h, _⟩ | ⟨g, cp, cur, h1, _, h3⟩
  · cases h
  · exact .inr ⟨g, cp, cur, h1, Nat.zero_le _, h3⟩
theorem Row4.block {w : World} {e : TypeId} {B n cap : Nat} {xs : List Value} (h : Row4 w e B n cap xs) : ∃ cur, w.heap[B]? = some (.cells cur e) ∧ n ≤ cap ∧ cap ≤ maxLen ∧ cur.size = cap * 4 ∧ cur.toList.take (n * 4) = xs := by
  rcases h.2 with ⟨h, _⟩ | ⟨g, cp, cur, h1, _, h3, h4, h5, h6, h7⟩
  · cases h
  · simp at h1
    obtain ⟨rfl, rfl⟩ := h1
    exact ⟨cur, h3, h4, h5, by simpa using h6, by simpa using h7⟩
theorem Row4.lt {w : World} {e : TypeId} {B n cap : Nat} {xs : List Value} (h : Row4 w e B n cap xs) : B < w.heap.size := by
  obtain ⟨cur, h, _⟩ := h.block
  exact nb_lt h
theorem Row4.keep {w w' : World} {e : TypeId} {B n cap : Nat} {xs : List Value} (h : Row4 w e B n cap xs) (hk : w'.heap[B]? = w.heap[B]?) : Row4 w' e B n cap xs := by
  refine ⟨h.1, ?_⟩
  rcases h.2 with ⟨h, _⟩ | ⟨g, cp, cur, h1, h2, h3, h4⟩
  · cases h
  · obtain rfl : B = g := by simp at h1; exact h1.1
    exact .inr ⟨B, cp, cur, h1, h2, hk.trans h3, h4⟩
theorem Row4.kept {S : Nat → Prop} {w w' : World} {e : TypeId} {B n cap : Nat} {xs : List Value} (h : Row4 w e B n cap xs) (hk : Kept S w w') (hs : ¬ S B) : Row4 w' e B n cap xs := h.keep (hk.block B h.lt hs)
theorem Row4.cell {w : World} {e : TypeId} {B n cap : Nat} {xs : List Value} (h : Row4 w e B n cap xs) (j : Nat) (hj : j < n * 4) : w.cell? ⟨B, j, none⟩ = xs[j]? := World.ownsRow.cellAt h j hj
theorem Row4.free {w : World} {e : TypeId} {B n cap : Nat} {xs : List Value} (h : Row4 w e B n cap xs) (j : Nat) : w.frozen? ⟨B, j, none⟩ = false := World.ownsRow.frozenAt h j
theorem Row4.put {w : World} {e : TypeId} {B n cap : Nat} {xs : List Value} (h : Row4 w e B n cap xs) (j : Nat) (u : Value) : Row4 (w.setCell ⟨B, j, none⟩ u) e B n cap (xs.set j u) ∧ Kept (fun k => k = B) w (w.setCell ⟨B, j, none⟩ u) := by
  have := World.ownsRow.stored h j u
  exact ⟨this.1, (Kept.of_grown this.2).mono (fun k hk => by simpa using hk)⟩
theorem Row4.pre {e : TypeId} {mk : Nat → Nat → Value} {w : World} {b k k' c' j : Nat} (h : Row4 w e b k' c' (ml4 mk j k')) (hk : k ≤ k') : Row4 w e b k c' (ml4 mk j k) := by
  obtain ⟨cur, e1, e2, e3, e4, e5⟩ := h.block
  refine ⟨by simp [ml4_len], .inr ⟨b, c', cur, rfl, Nat.zero_le _, e1, by omega, e3, by simpa using e4, ?_⟩⟩
  rw [← ml4_take j k k' hk, ← e5, List.take_take, Nat.min_eq_left (by omega)]
theorem Row4.capEq {e : TypeId} {w : World} {b k k' c c' : Nat} {xs xs' : List Value} (h : Row4 w e b k c xs) (h' : Row4 w e b k' c' xs') : c = c' := by
  obtain ⟨cur, e1, e2, e3, e4, e5⟩ := h.block
  obtain ⟨cur', f1, f2, f3, f4, f5⟩ := h'.block
  rw [e1] at f1
  simp at f1
  subst f1
  omega
theorem Row4.marks {e : TypeId} {mk : Nat → Nat → Value} {w : World} {b k c j : Nat} {xs : List Value} (h : Row4 w e b k c xs) (hm : ∀ i, i < k * 4 → w.cell? ⟨b, i, none⟩ = some (mk j i)) : Row4 w e b k c (ml4 mk j k) := by
  have : xs = ml4 mk j k := by
    apply List.ext_getElem?
    intro i
    by_cases hi : i < k * 4
    · rw [← h.cell i hi, hm i hi, ml4_get j k i hi]
    · have hl := h.1
      rw [List.getElem?_eq_none (by omega), List.getElem?_eq_none (by rw [ml4_len]; omega)]
  rw [← this]; exact h
/-- 'append(l, x)' of a struct of four cells. -/
theorem app_cell4 {P : Program} (w : World) {ops : Array Oper} {rest : List Oper} {o : Oper} {a : Act} {Q : Exit → Act → World → Prop} (hgd : o.guard = none)
    (s x : Operand) (t : TypeId) (ho : o.op = Op.call { callee := Callee.builtin Builtin.append, args := #[s, x], argTypes := #[t, t] }) (e : TypeId) (i : TypeInfo) (z : Value) (bytes : Nat)
    (h1 : P.underlying t = some (.slice e)) (h2 : P.info? e = some i) (h3 : i.zero = some z) (h4 : i.size = 4) (h5 : i.bytes = bytes) (h6 : z.cells.size = 4)
    (v : Value) (n : Nat) (xs : List Value) (hs : a.eval s = v) (hown : w.ownsRow 0 e 4 v n xs) (ad : Addr) (us : List Value) (hus : us.length = 4) (hx : a.eval x = .slice (some ad) 1 1) (hu : ∀ (j : Nat) (y : Value), us[j]? = some y → w.cell? (ad.add j) = some y) (hu1 : ∀ y ∈ us, y.oneCell' = true)
    (b1 : n + 1 ≤ maxLen) (b2 : (n + 1) * bytes ≤ 140737488355328)
    (h : ∀ (B cap : Nat) (w' : World), Row4 w' e B (n + 1) cap (xs ++ us) → ((v = .slice (some ⟨B, 0, none⟩) n cap ∧ Kept (fun k => k = B) w w') ∨ (w.heap.size ≤ B ∧ Kept (fun _ => False) w w')) → wpList P ops Q rest (a.put o.dst (.slice (some ⟨B, 0, none⟩) (n + 1) cap)) w') :
    wpList P ops Q (o :: rest) a w := by
  have grow : ∀ (ao : Option Addr) (cap : Nat), v = .slice ao n cap → (ao = none → n = 0 ∧ cap = 0) → (∀ b, ao = some b → ∀ (j : Nat) (y : Value), xs[j]? = some y → w.cell? (b.add j) = some y) → cap < n + 1 → wpList P ops Q (o :: rest) a w := by
    intro ao cap hv hnone holds hfull
    refine wpList_append_grows w hgd s x t ho e i z 4 bytes h1 h2 h3 h4 h5 h6 (by decide) ao n cap xs (hs.trans hv) hnone hown.1 holds ad 1 1 us hx hus hu hu1 hfull b1 b2 ?_
    intro v' w' ho' hg'
    rcases ho'.2 with ⟨_, hz⟩ | ⟨g, cp, cur, rfl, hbase, h8⟩
    · omega
    · exact h g cp w' (Row4.of ho') (.inr ⟨hbase, (Kept.of_grown hg').mono (fun k hk => by cases hk)⟩)
  rcases hown.2 with ⟨rfl, rfl⟩ | ⟨g, cap, cur, rfl, _, hh, hnc, hcm, hsz, htk⟩
  · exact grow none 0 rfl (fun _ => ⟨rfl, rfl⟩) (fun b hb => by cases hb) (by omega)
  · by_cases hroom : n + 1 ≤ cap
    · refine wpList_append_fits w hgd s x t ho 0 e i 4 h1 h2 h4 g n cap xs hs hown ad 1 1 us hx hus hu hu1 hroom ?_
      intro w' ho' hg'
      exact h g cap w' ho' (.inl ⟨rfl, (Kept.of_grown hg').mono (fun k hk => by simpa using hk)⟩)
    · refine grow (some ⟨g, 0, none⟩) cap rfl (fun hb => by cases hb) (fun b hb j y hy => ?_) (by omega)
      simp at hb
      subst hb
      have hj : j < xs.length := by
        rcases Nat.lt_or_ge j xs.length with h | h
        · exact h
        · simp [List.getElem?_eq_none h] at hy
      have hl := hown.1
      have hplain : (⟨g, 0, none⟩ : Addr).add j = ⟨g, j, none⟩ := by unfold Addr.add; split <;> simp_all
      rw [hplain, World.ownsRow.cellAt hown j (by omega)]
      exact hy
theorem own_ne4 {w : World} {e e' : TypeId} {v : Value} {n b k c B : Nat} {xs ys : List Value} (h : w.ownsRow 0 e 1 v n xs) (hB : v.ownBlock = some B) (hr : Row4 w e' b k c ys) (he : e ≠ e') : b ≠ B := by
  intro hb
  subst hb
  obtain ⟨_, cur, h1⟩ := own_lt h hB
  obtain ⟨cur', h2, _⟩ := hr.block
  rw [h1] at h2
  simp at h2
  exact he h2.2
/-- A row of marks, with its owner. -/
def TR4 (e : TypeId) (mk : Nat → Nat → Value) (w : World) (f : Nat → Nat) (b j k c : Nat) : Prop := Row4 w e b k c (ml4 mk j k) ∧ f b = j
theorem TR4.cell {e : TypeId} {mk : Nat → Nat → Value} {w : World} {f : Nat → Nat} {b j k c : Nat} (h : TR4 e mk w f b j k c) (i : Nat) (hi : i < k * 4) : w.cell? ⟨b, i, none⟩ = some (mk j i) := by
  rw [h.1.cell i hi, ml4_get j k i hi]
/-- Where the row of g has gone on to (B, i + 1), the others stand. -/
theorem TR4.step {e : TypeId} {mk : Nat → Nat → Value} {w w' : World} {f : Nat → Nat} {b j k c g n i cap B cap' : Nat} (h : TR4 e mk w f b j k c) (hl : TR4 e mk w f g n i cap) (hr : Row4 w' e B (i + 1) cap' (ml4 mk n (i + 1)))
    (hcase : Went w w' g cap B cap') (hk : b = g → k ≤ i) : TR4 e mk w' (fun x => if x = B then n else f x) b j k c := by
  by_cases hb : b = B
  · subst hb
    rcases hcase with ⟨rfl, rfl, hkp⟩ | ⟨hge, hkp⟩
    · have hj : j = n := by rw [← h.2, hl.2]
      subst hj
      obtain rfl := h.1.capEq hl.1
      exact ⟨hr.pre (by have := hk rfl; omega), by simp⟩
    · have := h.1.lt; omega
  · refine ⟨?_, by simp [hb]; exact h.2⟩
    rcases hcase with ⟨_, _, hkp⟩ | ⟨_, hkp⟩
    · exact h.1.kept hkp hb
    · exact h.1.kept hkp (fun x => x)
/-- Where a new row has come, the others stand. -/
theorem TR4.fresh {e : TypeId} {mk : Nat → Nat → Value} {w w' : World} {f : Nat → Nat} {b j k c n B : Nat} (h : TR4 e mk w f b j k c) (hge : w.heap.size ≤ B) (hkp : Kept (fun _ => False) w w') : TR4 e mk w' (fun x => if x = B then n else f x) b j k c := by
  have hb : b ≠ B := by have := h.1.lt; omega
  exact ⟨h.1.kept hkp (fun x => x), by simp [hb]; exact h.2⟩
theorem TR4.kept {e : TypeId} {mk : Nat → Nat → Value} {S : Nat → Prop} {w w' : World} {f : Nat → Nat} {b j k c : Nat} (h : TR4 e mk w f b j k c) (hk : Kept S w w') (hs : ¬ S b) : TR4 e mk w' f b j k c := ⟨h.1.kept hk hs, h.2⟩
/-- Slices of marks that are listed: the j-th has L j + d marks. -/
def Listed4 (e : TypeId) (mk : Nat → Nat → Value) (w : World) (f : Nat → Nat) (L : Nat → Nat) (d n : Nat) (vs : List Value) : Prop :=
  ∀ j, j < n → ∃ B c, vs[j]? = some (.slice (some ⟨B, 0, none⟩) (L j + d) c) ∧ TR4 e mk w f B j (L j + d) c
theorem Listed4.nil {e : TypeId} {mk : Nat → Nat → Value} (w : World) (f : Nat → Nat) (L : Nat → Nat) (d : Nat) : Listed4 e mk w f L d 0 [] := fun j hj => absurd hj (by omega)
theorem Listed4.map {e : TypeId} {mk : Nat → Nat → Value} {w w' : World} {f f' : Nat → Nat} {L : Nat → Nat} {d n : Nat} {vs : List Value} (h : Listed4 e mk w f L d n vs) (hm : ∀ j B c, j < n → TR4 e mk w f B j (L j + d) c → TR4 e mk w' f' B j (L j + d) c) : Listed4 e mk w' f' L d n vs := by
  intro j hj
  obtain ⟨B, c, e', t⟩ := h j hj
  exact ⟨B, c, e', hm j B c hj t⟩
theorem Listed4.add {e : TypeId} {mk : Nat → Nat → Value} {w : World} {f : Nat → Nat} {L : Nat → Nat} {d n : Nat} {vs : List Value} {B c : Nat} (h : Listed4 e mk w f L d n vs) (hl : vs.length = n) (ht : TR4 e mk w f B n (L n + d) c) : Listed4 e mk w f L d (n + 1) (vs ++ [.slice (some ⟨B, 0, none⟩) (L n + d) c]) := by
  intro j hj
  by_cases e' : j = n
  · subst e'
    exact ⟨B, c, by rw [List.getElem?_append_right (by omega)]; simp [hl], ht⟩
  · obtain ⟨B', c', e', t'⟩ := h j (by omega)
    exact ⟨B', c', by rw [List.getElem?_append_left (by omega)]; exact e', t'⟩
/-- The state of the walk behind the marking: the lists' own rows, 'one', 'more'. -/
structure St4 (e es : TypeId) (mk : Nat → Nat → Value) (w : World) (m : Nat) (N : Nat → Prop) (G L C : Nat → Nat) (wr : World) (f : Nat → Nat) (n1 n2 : Nat) (one more : Value) (ovs mvs : List Value) : Prop where
  kept : Kept (Own m N G) w wr
  own : ∀ j, j < m → N j → TR4 e mk wr f (G j) j (L j) (C j)
  ownOne : wr.ownsRow 0 es 1 one n1 ovs
  ones : Listed4 e mk wr f L 1 n1 ovs
  ownMore : wr.ownsRow 0 es 1 more n2 mvs
  mores : Listed4 e mk wr f L 70 n2 mvs
  newOne : ∀ B, one.ownBlock = some B → w.heap.size ≤ B
  newMore : ∀ B, more.ownBlock = some B → w.heap.size ≤ B
  apart : ∀ B, one.ownBlock = some B → more.ownBlock ≠ some B
/-- A list that is being gone on with: nil, or a row of marks. -/
def Lst4 (e : TypeId) (mk : Nat → Nat → Value) (w : World) (N : Nat → Prop) (G : Nat → Nat) (wr : World) (f : Nat → Nat) (n k : Nat) (v : Value) : Prop :=
  (v = .slice none 0 0 ∧ k = 0) ∨ ∃ g cap, v = .slice (some ⟨g, 0, none⟩) k cap ∧ TR4 e mk wr f g n k cap ∧ ((N n ∧ g = G n) ∨ w.heap.size ≤ g)
theorem Lst4.own {e : TypeId} {mk : Nat → Nat → Value} {w : World} {N : Nat → Prop} {G : Nat → Nat} {wr : World} {f : Nat → Nat} {n k : Nat} {v : Value} (h : Lst4 e mk w N G wr f n k v) : wr.ownsRow 0 e 4 v k (ml4 mk n k) := by
  rcases h with ⟨rfl, rfl⟩ | ⟨g, cap, rfl, ht, _⟩
  · exact World.ownsRow_nil _ _ _ _
  · exact ht.1
theorem Lst4.kept {e : TypeId} {mk : Nat → Nat → Value} {w : World} {N : Nat → Prop} {G : Nat → Nat} {wr w' : World} {f : Nat → Nat} {n k : Nat} {v : Value} (h : Lst4 e mk w N G wr f n k v) (hk : Kept (fun _ => False) wr w') : Lst4 e mk w N G w' f n k v := by
  rcases h with ⟨rfl, rfl⟩ | ⟨g, cap, rfl, ht, hg⟩
  · exact .inl ⟨rfl, rfl⟩
  · exact .inr ⟨g, cap, rfl, ht.kept hk (fun x => x), hg⟩
theorem Lst4.slice {e : TypeId} {mk : Nat → Nat → Value} {w : World} {N : Nat → Prop} {G : Nat → Nat} {wr : World} {f : Nat → Nat} {n k : Nat} {v : Value} (h : Lst4 e mk w N G wr f n k v) : ∃ a c, v = .slice a k c := by
  rcases h with ⟨rfl, rfl⟩ | ⟨g, cap, rfl, _⟩
  · exact ⟨_, _, rfl⟩
  · exact ⟨_, _, rfl⟩
/-- A new block turns nothing. -/
theorem St4.alloc {e es : TypeId} {mk : Nat → Nat → Value} {w : World} {m : Nat} {N : Nat → Prop} {G L C : Nat → Nat} {wr : World} {f : Nat → Nat} {n1 n2 : Nat} {one more : Value} {ovs mvs : List Value} (h : St4 e es mk w m N G L C wr f n1 n2 one more ovs mvs) (o : Obj) :
    St4 e es mk w m N G L C (wr.alloc o) f n1 n2 one more ovs mvs := by
  have hk := Kept.alloc (fun _ => False) wr o
  refine ⟨h.kept.then hk (fun _ _ x => x.elim), fun j hj hN => (h.own j hj hN).kept hk (fun x => x), own_keep h.ownOne fun B hB => hk.block B (own_lt h.ownOne hB).1 (fun x => x), h.ones.map fun j B c _ t => t.kept hk (fun x => x),
    own_keep h.ownMore fun B hB => hk.block B (own_lt h.ownMore hB).1 (fun x => x), h.mores.map fun j B c _ t => t.kept hk (fun x => x), h.newOne, h.newMore, h.apart⟩
/-- One element more onto the list n, which is a row. -/
theorem St4.list {e es : TypeId} {mk : Nat → Nat → Value} {w : World} {m : Nat} {N : Nat → Prop} {G L C : Nat → Nat} {wr w' : World} {f : Nat → Nat} {n1 n2 : Nat} {one more : Value} {ovs mvs : List Value} {g n i cap B cap' : Nat} (hes : es ≠ e) (h : St4 e es mk w m N G L C wr f n1 n2 one more ovs mvs)
    (hl : TR4 e mk wr f g n i cap) (hg : (N n ∧ g = G n) ∨ w.heap.size ≤ g) (hnm : n < m) (hr : Row4 w' e B (i + 1) cap' (ml4 mk n i ++ q4 mk n i)) (hc : Went wr w' g cap B cap')
    (hi : L n ≤ i) (h1 : n1 ≤ n ∨ (n1 = n + 1 ∧ L n + 1 ≤ i)) (h2 : n2 ≤ n) :
    St4 e es mk w m N G L C w' (fun x => if x = B then n else f x) n1 n2 one more ovs mvs ∧ TR4 e mk w' (fun x => if x = B then n else f x) B n (i + 1) cap' ∧ ((N n ∧ B = G n) ∨ w.heap.size ≤ B) := by
  rw [← ml4_succ] at hr
  have hw := h.kept.size
  have step : ∀ b j k c, TR4 e mk wr f b j k c → (b = g → k ≤ i) → TR4 e mk w' (fun x => if x = B then n else f x) b j k c := fun b j k c t hk => t.step hl hr hc hk
  have hkept : ∀ b, b < wr.heap.size → b ≠ g → w'.heap[b]? = wr.heap[b]? := by
    intro b hb hbg
    rcases hc with ⟨rfl, _, hk⟩ | ⟨_, hk⟩
    · exact hk.block b hb hbg
    · exact hk.block b hb (fun x => x)
  refine ⟨⟨?_, fun j hj hN => step _ _ _ _ (h.own j hj hN) ?_, ?_, ?_, ?_, ?_, h.newOne, h.newMore, h.apart⟩, ⟨hr, by simp⟩, ?_⟩
  · rcases hc with ⟨rfl, _, hk⟩ | ⟨_, hk⟩
    · refine h.kept.then hk (fun k hk' hkb => ?_)
      subst hkb
      rcases hg with ⟨hN, rfl⟩ | hg
      · exact ⟨n, hnm, hN, rfl⟩
      · omega
    · exact h.kept.then hk (fun _ _ x => x.elim)
  · intro e'
    have hj1 := (h.own j hj hN).2
    rw [e', hl.2] at hj1
    subst hj1
    exact hi
  · exact own_keep h.ownOne fun B' hB => hkept B' (own_lt h.ownOne hB).1 (fun e' => (own_ne4 h.ownOne hB hl.1 hes) e'.symm)
  · refine h.ones.map fun j b c hj t => step _ _ _ _ t (fun e' => ?_)
    have hj1 := t.2
    rw [e', hl.2] at hj1
    subst hj1
    rcases h1 with h1 | ⟨_, h1⟩
    · omega
    · exact h1
  · exact own_keep h.ownMore fun B' hB => hkept B' (own_lt h.ownMore hB).1 (fun e' => (own_ne4 h.ownMore hB hl.1 hes) e'.symm)
  · refine h.mores.map fun j b c hj t => step _ _ _ _ t (fun e' => ?_)
    have hj1 := t.2
    rw [e', hl.2] at hj1
    omega
  · rcases hc with ⟨rfl, _, _⟩ | ⟨hge, _⟩
    · exact hg
    · exact .inr (by omega)
/-- One element more onto the list n, in a new block. -/
theorem St4.fresh {e es : TypeId} {mk : Nat → Nat → Value} {w : World} {m : Nat} {N : Nat → Prop} {G L C : Nat → Nat} {wr w' : World} {f : Nat → Nat} {n1 n2 : Nat} {one more : Value} {ovs mvs : List Value} {n i B cap' : Nat} (h : St4 e es mk w m N G L C wr f n1 n2 one more ovs mvs)
    (hr : Row4 w' e B (i + 1) cap' (ml4 mk n i ++ q4 mk n i)) (hge : wr.heap.size ≤ B) (hk : Kept (fun _ => False) wr w') :
    St4 e es mk w m N G L C w' (fun x => if x = B then n else f x) n1 n2 one more ovs mvs ∧ TR4 e mk w' (fun x => if x = B then n else f x) B n (i + 1) cap' ∧ ((N n ∧ B = G n) ∨ w.heap.size ≤ B) := by
  rw [← ml4_succ] at hr
  have hw := h.kept.size
  refine ⟨⟨h.kept.then hk (fun _ _ x => x.elim), fun j hj hN => (h.own j hj hN).fresh hge hk, own_keep h.ownOne fun B' hB => hk.block B' (own_lt h.ownOne hB).1 (fun x => x), h.ones.map fun j b c _ t => t.fresh hge hk,
    own_keep h.ownMore fun B' hB => hk.block B' (own_lt h.ownMore hB).1 (fun x => x), h.mores.map fun j b c _ t => t.fresh hge hk, h.newOne, h.newMore, h.apart⟩, ⟨hr, by simp⟩, .inr (by omega)⟩
theorem TR4.onto {e es : TypeId} {mk : Nat → Nat → Value} {w w' : World} {f : Nat → Nat} {b j k c : Nat} {v : Value} {n n' B cap : Nat} {xs : List Value} (hes : es ≠ e) (h : TR4 e mk w f b j k c) (hv : w.ownsRow 0 es 1 v n' xs) (ho : Onto w w' v n B cap) : TR4 e mk w' f b j k c := by
  rcases ho with ⟨rfl, hk⟩ | ⟨_, hk⟩
  · exact h.kept hk (own_ne4 hv rfl h.1 hes)
  · exact h.kept hk (fun x => x)
/-- The list, so far, onto 'one'. -/
theorem St4.pushOne {e es : TypeId} {mk : Nat → Nat → Value} {w : World} {m : Nat} {N : Nat → Prop} {G L C : Nat → Nat} {wr w' : World} {f : Nat → Nat} {n n2 : Nat} {one more : Value} {ovs mvs : List Value} {g c B cap : Nat} (hes : es ≠ e) (h : St4 e es mk w m N G L C wr f n n2 one more ovs mvs)
    (ht : TR4 e mk wr f g n (L n + 1) c) (hr : Row w' es B (n + 1) cap (ovs ++ [.slice (some ⟨g, 0, none⟩) (L n + 1) c])) (ho : Onto wr w' one n B cap) :
    St4 e es mk w m N G L C w' f (n + 1) n2 (.slice (some ⟨B, 0, none⟩) (n + 1) cap) more (ovs ++ [.slice (some ⟨g, 0, none⟩) (L n + 1) c]) mvs ∧ TR4 e mk w' f g n (L n + 1) c := by
  have hw := h.kept.size
  have ht' := ht.onto hes h.ownOne ho
  refine ⟨⟨ho.kept h.kept h.newOne, fun j hj hN => (h.own j hj hN).onto hes h.ownOne ho, hr, Listed4.add (h.ones.map fun j b c hj t => t.onto hes h.ownOne ho) (by have := h.ownOne.1; simpa using this) ht', ho.other h.ownMore h.apart,
    h.mores.map fun j b c hj t => t.onto hes h.ownOne ho, ?_, h.newMore, ?_⟩, ht'⟩
  · intro b hb
    obtain rfl : B = b := by simpa [Value.ownBlock] using hb
    rcases ho with ⟨rfl, _⟩ | ⟨hge, _⟩
    · exact h.newOne B rfl
    · omega
  · intro b hb
    obtain rfl : B = b := by simpa [Value.ownBlock] using hb
    rcases ho with ⟨rfl, _⟩ | ⟨hge, _⟩
    · exact h.apart B rfl
    · intro e'
      have := (own_lt h.ownMore e').1
      omega
/-- The list, whole, onto 'more'. -/
theorem St4.pushMore {e es : TypeId} {mk : Nat → Nat → Value} {w : World} {m : Nat} {N : Nat → Prop} {G L C : Nat → Nat} {wr w' : World} {f : Nat → Nat} {n n1 : Nat} {one more : Value} {ovs mvs : List Value} {g c B cap : Nat} (hes : es ≠ e) (h : St4 e es mk w m N G L C wr f n1 n one more ovs mvs)
    (ht : TR4 e mk wr f g n (L n + 70) c) (hr : Row w' es B (n + 1) cap (mvs ++ [.slice (some ⟨g, 0, none⟩) (L n + 70) c])) (ho : Onto wr w' more n B cap) :
    St4 e es mk w m N G L C w' f n1 (n + 1) one (.slice (some ⟨B, 0, none⟩) (n + 1) cap) ovs (mvs ++ [.slice (some ⟨g, 0, none⟩) (L n + 70) c]) := by
  have hw := h.kept.size
  have ht' := ht.onto hes h.ownMore ho
  refine ⟨ho.kept h.kept h.newMore, fun j hj hN => (h.own j hj hN).onto hes h.ownMore ho, ho.other h.ownOne (fun b hb e' => h.apart b e' hb), h.ones.map fun j b c hj t => t.onto hes h.ownMore ho, hr,
    Listed4.add (h.mores.map fun j b c hj t => t.onto hes h.ownMore ho) (by have := h.ownMore.1; simpa using this) ht', h.newOne, ?_, ?_⟩
  · intro b hb
    obtain rfl : B = b := by simpa [Value.ownBlock] using hb
    rcases ho with ⟨rfl, _⟩ | ⟨hge, _⟩
    · exact h.newMore B rfl
    · omega
  · intro b hb e'
    obtain rfl : B = b := by simpa [Value.ownBlock] using e'
    rcases ho with ⟨rfl, _⟩ | ⟨hge, _⟩
    · exact h.apart B hb rfl
    · have := (own_lt h.ownOne hb).1
      omega
/-- The marking: which rows are done. -/
structure Ma4 (e : TypeId) (mk : Nat → Nat → Value) (w : World) (m : Nat) (N : Nat → Prop) (G L C : Nat → Nat) (wr : World) (n : Nat) : Prop where
  kept : Kept (Own m N G) w wr
  rows : ∀ j, j < m → N j → ∃ xs, Row4 wr e (G j) (L j) (C j) xs
  done : ∀ j, j < n → ∀ i, i < L j * 4 → wr.cell? ⟨G j, i, none⟩ = some (mk j i)
/-- One mark more. -/
theorem Ma4.put {e : TypeId} {mk : Nat → Nat → Value} {w : World} {m : Nat} {N : Nat → Prop} {G L C : Nat → Nat} {wr : World} {n i : Nat} (h : Ma4 e mk w m N G L C wr n) (hn : n < m) (hN : ∀ j, j < m → 0 < L j → N j) (hi : i < L n * 4) (hinj : ∀ a b, a < m → b < m → N a → N b → G a = G b → a = b)
    (hp : ∀ k, k < i → wr.cell? ⟨G n, k, none⟩ = some (mk n k)) :
    Ma4 e mk w m N G L C (wr.setCell ⟨G n, i, none⟩ (mk n i)) n ∧ ∀ k, k < i + 1 → (wr.setCell ⟨G n, i, none⟩ (mk n i)).cell? ⟨G n, k, none⟩ = some (mk n k) := by
  have hNn : N n := hN n hn (by omega)
  obtain ⟨xs, hr⟩ := h.rows n hn hNn
  obtain ⟨hr', hk⟩ := hr.put i (mk n i)
  have hl := hr.1
  have hcells : ∀ k, k < L n * 4 → (wr.setCell ⟨G n, i, none⟩ (mk n i)).cell? ⟨G n, k, none⟩ = if k = i then some (mk n i) else wr.cell? ⟨G n, k, none⟩ := by
    intro k hk'
    rw [hr'.cell k hk', hr.cell k hk', List.getElem?_set]
    by_cases e' : i = k
    · subst e'; simp; omega
    · simp [e', Ne.symm e']
  refine ⟨⟨h.kept.then hk (fun k _ e' => ⟨n, hn, hNn, e'⟩), fun j hj hNj => ?_, fun j hj k hk' => ?_⟩, fun k hk' => ?_⟩
  · by_cases e' : j = n
    · subst e'; exact ⟨_, hr'⟩
    · obtain ⟨ys, hy⟩ := h.rows j hj hNj
      exact ⟨ys, hy.kept hk (fun e'' => e' (hinj j n hj hn hNj hNn e''))⟩
  · have hjm : j < m := by omega
    have hne : ¬ G j = G n := fun e' => by have := hinj j n hjm hn (hN j hjm (by omega)) hNn e'; omega
    exact hk.cell (h.done j hj k hk') hne
  · rw [hcells k (by omega)]
    by_cases e' : k = i
    · simp [e']
    · rw [if_neg e']; exact hp k (by omega)
/-- Behind the marking. -/
theorem Ma4.state {e : TypeId} {mk : Nat → Nat → Value} {w : World} {m : Nat} {N : Nat → Prop} {G L C : Nat → Nat} {wr : World} (es : TypeId) (h : Ma4 e mk w m N G L C wr m) (hinj : ∀ a b, a < m → b < m → N a → N b → G a = G b → a = b) : ∃ f, St4 e es mk w m N G L C wr f 0 0 (.slice none 0 0) (.slice none 0 0) [] [] := by
  obtain ⟨f, hf⟩ := owner m N G hinj
  refine ⟨f, h.kept, fun j hj hN => ?_, World.ownsRow_nil _ _ _ _, Listed4.nil _ _ _ _, World.ownsRow_nil _ _ _ _, Listed4.nil _ _ _ _, fun B hB => by simp [Value.ownBlock] at hB, fun B hB => by simp [Value.ownBlock] at hB, fun B hB => by simp [Value.ownBlock] at hB⟩
  obtain ⟨xs, hr⟩ := h.rows j hj hN
  exact ⟨hr.marks (h.done j hj), hf j hj hN⟩
theorem stepL4 {e es : TypeId} {mk : Nat → Nat → Value} {w : World} {m : Nat} {N : Nat → Prop} {G L C : Nat → Nat} {wr w2 : World} {f : Nat → Nat} {n1 n2 : Nat} {one more : Value} {ovs mvs : List Value} {v : Value} {n k B cap' : Nat} (hes : es ≠ e) (h : St4 e es mk w m N G L C wr f n1 n2 one more ovs mvs)
    (hl : Lst4 e mk w N G wr f n k v) (hnm : n < m) (o : Obj) (hr : Row4 w2 e B (k + 1) cap' (ml4 mk n k ++ q4 mk n k))
    (hc : (v = .slice (some ⟨B, 0, none⟩) k cap' ∧ Kept (fun x => x = B) (wr.alloc o) w2) ∨ ((wr.alloc o).heap.size ≤ B ∧ Kept (fun _ => False) (wr.alloc o) w2))
    (hi : L n ≤ k) (h1 : (k = L n ∧ n1 = n) ∨ (L n + 1 ≤ k ∧ n1 = n + 1)) (h2 : n2 ≤ n) :
    ∃ f', St4 e es mk w m N G L C w2 f' n1 n2 one more ovs mvs ∧ TR4 e mk w2 f' B n (k + 1) cap' ∧ ((N n ∧ B = G n) ∨ w.heap.size ≤ B) := by
  have ha := h.alloc o
  rcases hl.kept (Kept.alloc (fun _ => False) wr o) with ⟨rfl, rfl⟩ | ⟨g, cap, rfl, ht, hg⟩
  · rcases hc with ⟨e', _⟩ | ⟨hge, hk⟩
    · simp at e'
    · exact ⟨_, ha.fresh hr hge hk⟩
  · refine ⟨_, ha.list hes ht hg hnm hr ?_ hi (by omega) h2⟩
    rcases hc with ⟨e', hk⟩ | ⟨hge, hk⟩
    · simp at e'
      obtain ⟨rfl, rfl⟩ := e'
      exact .inl ⟨rfl, rfl, hk⟩
    · exact .inr ⟨hge, hk⟩
theorem stepO4 {e es : TypeId} {mk : Nat → Nat → Value} {w : World} {m : Nat} {N : Nat → Prop} {G L C : Nat → Nat} {wr w2 : World} {f : Nat → Nat} {n n2 : Nat} {one more : Value} {ovs mvs : List Value} {g c B cap kk : Nat} (hes : es ≠ e) (h : St4 e es mk w m N G L C wr f n n2 one more ovs mvs) (hkk : kk = L n + 1)
    (ht : TR4 e mk wr f g n kk c) (o : Obj) (hr : Row w2 es B (n + 1) cap (ovs ++ [.slice (some ⟨g, 0, none⟩) kk c])) (ho : Onto (wr.alloc o) w2 one n B cap) :
    St4 e es mk w m N G L C w2 f (n + 1) n2 (.slice (some ⟨B, 0, none⟩) (n + 1) cap) more (ovs ++ [.slice (some ⟨g, 0, none⟩) kk c]) mvs ∧ TR4 e mk w2 f g n kk c := by
  subst hkk
  have ha := h.alloc o
  exact ha.pushOne hes (ht.kept (Kept.alloc (fun _ => False) wr o) (fun x => x)) hr ho
theorem stepM4 {e es : TypeId} {mk : Nat → Nat → Value} {w : World} {m : Nat} {N : Nat → Prop} {G L C : Nat → Nat} {wr w2 : World} {f : Nat → Nat} {n n1 : Nat} {one more : Value} {ovs mvs : List Value} {g c B cap kk : Nat} (hes : es ≠ e) (h : St4 e es mk w m N G L C wr f n1 n one more ovs mvs) (hkk : kk = L n + 70)
    (ht : TR4 e mk wr f g n kk c) (o : Obj) (hr : Row w2 es B (n + 1) cap (mvs ++ [.slice (some ⟨g, 0, none⟩) kk c])) (ho : Onto (wr.alloc o) w2 more n B cap) :
    St4 e es mk w m N G L C w2 f n1 (n + 1) one (.slice (some ⟨B, 0, none⟩) (n + 1) cap) ovs (mvs ++ [.slice (some ⟨g, 0, none⟩) kk c]) := by
  subst hkk
  have ha := h.alloc o
  exact ha.pushMore hes (ht.kept (Kept.alloc (fun _ => False) wr o) (fun x => x)) hr ho
theorem Tryd.infFr : (Tryd.prog.info? 66).map (fun i => (i.zero, i.size, i.bytes)) = some (some (.agg #[.int .i64 0, .int .i64 0, .slice none 0 0, .slice none 0 0]), 4, 64) := by kernel_rfl
theorem Tryd.inlFr : (Tryd.prog.info? 22).map (fun i => (i.zero, i.size, i.bytes)) = some (some (.slice none 0 0), 1, 24) := by kernel_rfl
/-- The mark of place i of the list n, cell by cell. -/
def mkFr (n p : Nat) : Value := if p % 4 = 1 then .int .i64 (nm n (p / 4)) else if p % 4 = 0 then .int .i64 0 else .slice none 0 0
theorem mkFr0 (n k : Nat) : mkFr n (k * 4) = .int .i64 0 := by unfold mkFr; rw [if_neg (by omega), if_pos (by omega)]
theorem mkFr1 (n k : Nat) : mkFr n (k * 4 + 1) = .int .i64 (nm n k) := by unfold mkFr; rw [if_pos (by omega), show (k * 4 + 1) / 4 = k by omega]
theorem mkFr2 (n k : Nat) : mkFr n (k * 4 + 2) = .slice none 0 0 := by unfold mkFr; rw [if_neg (by omega), if_neg (by omega)]
theorem mkFr3 (n k : Nat) : mkFr n (k * 4 + 3) = .slice none 0 0 := by unfold mkFr; rw [if_neg (by omega), if_neg (by omega)]
theorem q4Fr (n k : Nat) : q4 mkFr n k = [.int .i64 0, .int .i64 (nm n k), .slice none 0 0, .slice none 0 0] := by unfold q4; rw [mkFr0, mkFr1, mkFr2, mkFr3]
theorem ma4_drew {e : TypeId} {mk : Nat → Nat → Value} {w : World} {m : Nat} {N : Nat → Prop} {G L C : Nat → Nat} {wr : World} {n : Nat} (h : Ma4 e mk w m N G L C wr n) : Ma4 e mk w m N G L C wr.drew n :=
  ⟨h.kept.trans ((Kept.drewN _ wr 1).mono (fun _ x => x)), h.rows, fun j hj i hi => by rw [World.cell?_drew]; exact h.done j hj i hi⟩
theorem fr_put {w : World} {m : Nat} {N : Nat → Prop} {G L C : Nat → Nat} {wr : World} {n k : Nat} (h : Ma4 66 mkFr w m N G L C wr n) (hn : n < m) (hN : ∀ j, j < m → 0 < L j → N j) (hk : k < L n) (hinj : ∀ a b, a < m → b < m → N a → N b → G a = G b → a = b)
    (hp : ∀ t, t < k * 4 → wr.cell? ⟨G n, t, none⟩ = some (mkFr n t)) :
    Ma4 66 mkFr w m N G L C ((((wr.setCell ⟨G n, k * 4, none⟩ (.int .i64 0)).setCell ⟨G n, k * 4 + 1, none⟩ (.int .i64 (nm n k))).setCell ⟨G n, k * 4 + 2, none⟩ (.slice none 0 0)).setCell ⟨G n, k * 4 + 3, none⟩ (.slice none 0 0)) n ∧ ∀ t, t < (k + 1) * 4 → ((((wr.setCell ⟨G n, k * 4, none⟩ (.int .i64 0)).setCell ⟨G n, k * 4 + 1, none⟩ (.int .i64 (nm n k))).setCell ⟨G n, k * 4 + 2, none⟩ (.slice none 0 0)).setCell ⟨G n, k * 4 + 3, none⟩ (.slice none 0 0)).cell? ⟨G n, t, none⟩ = some (mkFr n t) := by
  have p0 := h.put hn hN (i := k * 4) (by omega) hinj hp
  rw [mkFr0] at p0
  have p1 := p0.1.put hn hN (i := k * 4 + 1) (by omega) hinj p0.2
  rw [mkFr1] at p1
  have p2 := p1.1.put hn hN (i := k * 4 + 2) (by omega) hinj p1.2
  rw [mkFr2] at p2
  have p3 := p2.1.put hn hN (i := k * 4 + 3) (by omega) hinj p2.2
  rw [mkFr3] at p3
  exact ⟨p3.1, fun t ht => p3.2 t (by omega)⟩
theorem new4 (w : World) (u0 u1 u2 u3 : Value) : ∀ (j : Nat) (y : Value), [u0, u1, u2, u3][j]? = some y → (w.alloc (.cells #[u0, u1, u2, u3] 66)).cell? ((⟨w.heap.size, 0, none⟩ : Addr).add j) = some y := by
  intro j y hj
  match j, hj with
  | 0, hj | 1, hj | 2, hj | 3, hj => simp at hj; subst hj; simp [Addr.add]
  | j + 4, hj => simp at hj
theorem one4 {z : Int} : ∀ y ∈ [Value.int .i64 0, .int .i64 z, .slice none 0 0, .slice none 0 0], y.oneCell' = true := by
  intro y hy
  simp at hy
  rcases hy with rfl | rfl | rfl <;> rfl
theorem TR4.four {wa W : World} {f : Nat → Nat} {B j K c k : Nat} (h : TR4 66 mkFr wa f B j K c) (hk : k < K) (hb : Below wa.heap.size wa W) : W.cell? ⟨B, k * 4, none⟩ = some (.int .i64 0) ∧ W.cell? ⟨B, k * 4 + 1, none⟩ = some (.int .i64 (nm j k)) ∧ W.cell? ⟨B, k * 4 + 2, none⟩ = some (.slice none 0 0) ∧ W.cell? ⟨B, k * 4 + 3, none⟩ = some (.slice none 0 0) :=
  ⟨later_cell hb ((h.cell _ (by omega)).trans (congrArg some (mkFr0 j k))), later_cell hb ((h.cell _ (by omega)).trans (congrArg some (mkFr1 j k))), later_cell hb ((h.cell _ (by omega)).trans (congrArg some (mkFr2 j k))), later_cell hb ((h.cell _ (by omega)).trans (congrArg some (mkFr3 j k)))⟩
/-- The variable x: a frame of its own, behind all that was made. -/
structure Xq (wa : World) (xb : Nat) (z : Int) (W : World) : Prop where
  b : Below wa.heap.size wa W
  lo : wa.heap.size ≤ xb
  o : W.heap[xb]? = some (.cells #[.int .i64 0, .int .i64 z, .slice none 0 0, .slice none 0 0] 66)
theorem Xq.cs {wa W : World} {xb : Nat} {z : Int} (h : Xq wa xb z W) : W.cell? ⟨xb, 0, none⟩ = some (.int .i64 0) ∧ W.cell? ⟨xb, 1, none⟩ = some (.int .i64 z) ∧ W.cell? ⟨xb, 2, none⟩ = some (.slice none 0 0) ∧ W.cell? ⟨xb, 3, none⟩ = some (.slice none 0 0) := ⟨cell_at h.o, cell_at h.o, cell_at h.o, cell_at h.o⟩
theorem Xq.fz {wa W : World} {xb : Nat} {z : Int} (h : Xq wa xb z W) : W.frozen? ⟨xb, 0, none⟩ = false ∧ W.frozen? ⟨xb, 1, none⟩ = false ∧ W.frozen? ⟨xb, 2, none⟩ = false ∧ W.frozen? ⟨xb, 3, none⟩ = false := ⟨frzB h.o, frzB h.o, frzB h.o, frzB h.o⟩
theorem Xq.new {wa wr : World} (hb : Below wa.heap.size wa wr) (z : Int) : Xq wa wr.heap.size z (wr.alloc (.cells #[.int .i64 0, .int .i64 z, .slice none 0 0, .slice none 0 0] 66)) := ⟨hb.trans ((below_new wr _).mono hb.size), hb.size, nb_new wr _⟩
theorem Xq.put {wa W : World} {xb : Nat} {z : Int} (h : Xq wa xb z W) : Xq wa xb z ((((W.setCell ⟨xb, 0, none⟩ (.int .i64 0)).setCell ⟨xb, 1, none⟩ (.int .i64 z)).setCell ⟨xb, 2, none⟩ (.slice none 0 0)).setCell ⟨xb, 3, none⟩ (.slice none 0 0)) := by
  have k : Kept (fun q => q = xb) W ((((W.setCell ⟨xb, 0, none⟩ (.int .i64 0)).setCell ⟨xb, 1, none⟩ (.int .i64 z)).setCell ⟨xb, 2, none⟩ (.slice none 0 0)).setCell ⟨xb, 3, none⟩ (.slice none 0 0)) := ((kept_put.trans kept_put).trans kept_put).trans kept_put
  exact ⟨h.b.trans (k.to_below h.b.size (fun q hq e => by have := h.lo; omega)), h.lo, blk_set (blk_set (blk_set (blk_set h.o)))⟩
theorem Xq.drew {wa W : World} {xb : Nat} {z : Int} (h : Xq wa xb z W) : Xq wa xb z W.drew := ⟨h.b.trans ((below_drewN W 1).mono h.b.size), h.lo, h.o⟩
/-- What the lists are: nil, or a row of their own. -/
def ListsFr (w : World) (m : Nat) (N : Nat → Prop) (A : Nat → Option Addr) (G L C : Nat → Nat) : Prop :=
  ∀ j, j < m → (N j ∧ A j = some ⟨G j, 0, none⟩ ∧ ∃ xs, Row4 w 66 (G j) (L j) (C j) xs) ∨ (¬ N j ∧ A j = none ∧ L j = 0 ∧ C j = 0)

set_option maxRecDepth 100000 in
set_option maxHeartbeats 4000000 in
theorem apart43F (GB X m cx : Nat) (N : Nat → Prop) (A : Nat → Option Addr) (G L C : Nat → Nat) (w : World) (hm : m ≤ 300)
    (hg : w.cell? ⟨GB, 13, none⟩ = some (.slice (some ⟨X, 0, none⟩) m cx))
    (hx : ∀ j, j < m → w.cell? ⟨X, j, none⟩ = some (.slice (A j) (L j) (C j)))
    (ho : ListsFr w m N A G L C) (hL : ∀ j, j < m → L j ≤ 4194304)
    (hinj : ∀ a b, a < m → b < m → N a → N b → G a = G b → a = b) (hGX : ∀ j, j < m → N j → ¬ GB = G j ∧ ¬ X = G j) :
    Calls Tryd.prog 43 #[.pointer (some ⟨GB, 0, none⟩)] w fun e w' => e = .returned (.bool true) ∧ Kept (Own m N G) w w' := by
  have hN : ∀ j, j < m → 0 < L j → N j ∧ A j = some ⟨G j, 0, none⟩ := fun j hj h0 => by
    rcases ho j hj with h | h
    · exact ⟨h.1, h.2.1⟩
    · omega
  have hR : ∀ j, j < m → N j → ∃ xs, Row4 w 66 (G j) (L j) (C j) xs := fun j hj h0 => by
    rcases ho j hj with h | h
    · exact h.2.2
    · exact absurd h0 h.1
  have hS : ∀ j, j < m → (N j ∧ A j = some ⟨G j, 0, none⟩) ∨ (A j = none ∧ L j = 0 ∧ C j = 0) := fun j hj => by
    rcases ho j hj with h | h
    · exact .inl ⟨h.1, h.2.1⟩
    · exact .inr h.2
  have HX := hid hx
  have HL := hid hL
  have HI := hid hinj
  have HGX := hid hGX
  have HN := hid hN
  have HR := hid hR
  have HSN := hid hS
  have HG := hid hg
  have nGB : ¬ Own m N G GB := fun ⟨j, hj, hn, e⟩ => (hGX j hj hn).1 e
  have nX : ¬ Own m N G X := fun ⟨j, hj, hn, e⟩ => (hGX j hj hn).2 e
  have NGB := hid nGB
  have NX := hid nX
  clear hx hL hinj hGX ho hg nGB nX hN hR hS
  go_enter Tryd.func43, Tryd.ntmps43
  go_wp2_with fail
  go_loopw [3] (fun i wr => ∃ n : Nat, n ≤ m ∧ i = .int .i64 n ∧ Ma4 66 mkFr w m N G L C wr n) (fun i _ => m - (intOf i).toNat)
  case atStart => exact ⟨0, by omega, rfl, Kept.refl _ _, HR.out, fun j hj => absurd hj (by omega)⟩
  case round =>
    obtain ⟨n, hn, rfl, hma⟩ := hrel
    have c0 : wr.cell? ⟨GB, 13, none⟩ = some (.slice (some ⟨X, 0, none⟩) m cx) := hma.kept.cell HG.out NGB.out
    by_cases hlt : n < m
    · have HM := hid hma
      clear hma
      go_wp2_with fail
      go_loopw [4] (fun i wr => ∃ k : Nat, k ≤ L n ∧ i = .int .i64 k ∧ Ma4 66 mkFr w m N G L C wr n ∧ ∀ t, t < k * 4 → wr.cell? ⟨G n, t, none⟩ = some (mkFr n t)) (fun i _ => L n - (intOf i).toNat)
      case atStart => exact ⟨0, by omega, rfl, HM.out, fun t ht => absurd ht (by omega)⟩
      case round =>
        obtain ⟨k, hk, rfl, hma, hdn⟩ := hrel
        clear c0
        have hLn := HL.out n hlt
        have c0 : wr.cell? ⟨GB, 13, none⟩ = some (.slice (some ⟨X, 0, none⟩) m cx) := hma.kept.cell HG.out NGB.out
        have c1 : wr.cell? ⟨X, n, none⟩ = some (.slice (A n) (L n) (C n)) := hma.kept.cell (HX.out n hlt) NX.out
        by_cases hkl : k < L n
        · obtain ⟨hNn, hAn⟩ := HN.out n hlt (by omega)
          rw [hAn] at c1
          obtain ⟨xs, hrow⟩ := hma.rows n hlt hNn
          have hcl : ∀ q, q < 4 → ∃ u, wr.cell? ⟨G n, k * 4 + q, none⟩ = some u := fun q hq => ⟨_, (hrow.cell (k * 4 + q) (by omega)).trans (List.getElem?_eq_getElem (by have := hrow.1; omega))⟩
          obtain ⟨u0, d0⟩ := hcl 0 (by omega)
          obtain ⟨u1, d1⟩ := hcl 1 (by omega)
          obtain ⟨u2, d2⟩ := hcl 2 (by omega)
          obtain ⟨u3, d3⟩ := hcl 3 (by omega)
          rw [Nat.add_zero] at d0
          have z0 := hrow.free (k * 4)
          have z1 := hrow.free (k * 4 + 1)
          have z2 := hrow.free (k * 4 + 2)
          have z3 := hrow.free (k * 4 + 3)
          have P := hid (fr_put hma hlt (fun j hj h0 => (HN.out j hj h0).1) hkl HI.out hdn)
          have gx := HGX.out n hlt hNn
          have g1 : ¬ GB = G n := gx.1
          have g2 : ¬ X = G n := gx.2
          have hn3 : n ≤ 300 := by omega
          have hk3 : k ≤ 8388608 := by omega
          have kx : Kept (fun q => q = G n) wr ((((wr.setCell ⟨G n, k * 4, none⟩ (.int .i64 0)).setCell ⟨G n, k * 4 + 1, none⟩ (.int .i64 (nm n k))).setCell ⟨G n, k * 4 + 2, none⟩ (.slice none 0 0)).setCell ⟨G n, k * 4 + 3, none⟩ (.slice none 0 0)) := ((kept_put.trans kept_put).trans kept_put).trans kept_put
          have s0 : ((((wr.setCell ⟨G n, k * 4, none⟩ (.int .i64 0)).setCell ⟨G n, k * 4 + 1, none⟩ (.int .i64 (nm n k))).setCell ⟨G n, k * 4 + 2, none⟩ (.slice none 0 0)).setCell ⟨G n, k * 4 + 3, none⟩ (.slice none 0 0)).cell? ⟨GB, 13, none⟩ = some (.slice (some ⟨X, 0, none⟩) m cx) := kx.cell c0 g1
          have s1 : ((((wr.setCell ⟨G n, k * 4, none⟩ (.int .i64 0)).setCell ⟨G n, k * 4 + 1, none⟩ (.int .i64 (nm n k))).setCell ⟨G n, k * 4 + 2, none⟩ (.slice none 0 0)).setCell ⟨G n, k * 4 + 3, none⟩ (.slice none 0 0)).cell? ⟨X, n, none⟩ = some (.slice (some ⟨G n, 0, none⟩) (L n) (C n)) := kx.cell c1 g2
          clear hma hdn hrow HM gx hcl kx
          go_wp2_with fail
          go_region_held3 (fun W => W.cell? ⟨GB, 13, none⟩ = some (.slice (some ⟨X, 0, none⟩) m cx) ∧ W.cell? ⟨X, n, none⟩ = some (.slice (some ⟨G n, 0, none⟩) (L n) (C n))) (first | go_keep | (simp only [World.cell?_drew]; exact ⟨s0, s1⟩))
            (first | (go_at_call 65; refine (num65 n k _ hn3 hk3).mono ?_; rintro e w' ⟨rfl, rfl⟩))
          go_wp2_with fail
          exact ⟨⟨k + 1, by omega, by go_num, ma4_drew P.out.1, fun t ht => by rw [World.cell?_drew]; exact P.out.2 t ht⟩, by simp [intOf]; omega⟩
        · have hkk : k = L n := by omega
          subst hkk
          have D := hid (show Ma4 66 mkFr w m N G L C wr (n + 1) from ⟨hma.kept, hma.rows, fun j hj i hi => by
            by_cases e : j = n
            · subst e; exact hdn i hi
            · exact hma.done j (by omega) i hi⟩)
          clear hma hdn HM
          go_wp2_with fail
          exact ⟨⟨n + 1, by omega, by go_num, D.out⟩, by simp [intOf]; omega⟩
    · have hnm : m = n := by omega
      subst hnm
      obtain ⟨f0, hst0⟩ := hma.state 22 HI.out
      have HS0 := hid hst0
      obtain ⟨i5, q0, q1, q2, q3⟩ := info_parts Tryd.infFr
      obtain ⟨i24, p0, p1, p2, p3⟩ := info_parts Tryd.inlFr
      have hes : (22 : TypeId) ≠ 66 := by decide
      clear hma hst0
      go_wp2_with fail
      clear c0
      go_loopw [5, 6, 7] (fun one more i wr => ∃ (n : Nat) (f : Nat → Nat) (ovs mvs : List Value), n ≤ m ∧ i = .int .i64 n ∧ St4 66 22 mkFr w m N G L C wr f n n one more ovs mvs) (fun _ _ i _ => m - (intOf i).toNat)
      case atStart => exact ⟨0, f0, [], [], by omega, rfl, HS0.out⟩
      case round =>
        obtain ⟨n, f, ovs, mvs, hnm, rfl, hst⟩ := hrel
        have c0 : wr.cell? ⟨GB, 13, none⟩ = some (.slice (some ⟨X, 0, none⟩) m cx) := hst.kept.cell HG.out NGB.out
        by_cases hlt2 : n < m
        · have hLn := HL.out n hlt2
          have c1 : wr.cell? ⟨X, n, none⟩ = some (.slice (A n) (L n) (C n)) := hst.kept.cell (HX.out n hlt2) NX.out
          have HST := hid hst
          clear hst HS0
          go_wp2_with fail
          clear c0 c1
          go_loopw [5, 8, 9] (fun one l i wr => ∃ (k n1 : Nat) (f : Nat → Nat) (ovs : List Value), L n ≤ k ∧ k ≤ L n + 70 ∧ i = .int .i64 k ∧ Lst4 66 mkFr w N G wr f n k l ∧ ((k = L n ∧ n1 = n) ∨ (L n + 1 ≤ k ∧ n1 = n + 1)) ∧ St4 66 22 mkFr w m N G L C wr f n1 n one u6 ovs mvs) (fun _ _ i _ => L n + 70 - (intOf i).toNat)
          case atStart =>
            refine ⟨L n, n, f, ovs, by omega, by omega, rfl, ?_, .inl ⟨rfl, rfl⟩, HST.out⟩
            rcases HSN.out n hlt2 with ⟨hNn, hAn⟩ | ⟨hAn, h0, h1⟩
            · exact .inr ⟨G n, C n, by rw [hAn], HST.out.own n hlt2 hNn, .inl ⟨hNn, rfl⟩⟩
            · exact .inl ⟨by rw [hAn, h0, h1], h0⟩
          case round =>
            obtain ⟨k, n1, f, ovs, hk0, hk1, rfl, hlst, hn1, hst⟩ := hrel
            obtain ⟨la, lc, rfl⟩ := hlst.slice
            have c0 : wr.cell? ⟨GB, 13, none⟩ = some (.slice (some ⟨X, 0, none⟩) m cx) := hst.kept.cell HG.out NGB.out
            have c1 : wr.cell? ⟨X, n, none⟩ = some (.slice (A n) (L n) (C n)) := hst.kept.cell (HX.out n hlt2) NX.out
            by_cases hk : k < L n + 70
            · skip
              have hn3 : n ≤ 300 := by omega
              have hk3 : k ≤ 8388608 := by omega
              have hown : (wr.alloc (.cells #[.int .i64 0, .int .i64 (nm n k), .slice none 0 0, .slice none 0 0] 66)).ownsRow 0 66 4 (.slice la k lc) k (ml4 mkFr n k) := (hlst.kept (Kept.alloc (fun _ => False) wr _)).own
              have HOW := hid hown
              have HST2 := hid hst
              have HLS := hid hlst
              have HN1 := hid hn1
              have hb1 : k + 1 ≤ maxLen := by unfold maxLen; omega
              have hb2 : (k + 1) * 64 ≤ 140737488355328 := by omega
              have hb3 : n + 1 ≤ maxLen := by unfold maxLen; omega
              have hb4 : (n + 1) * 24 ≤ 140737488355328 := by omega
              clear hown hst hlst hn1
              by_cases hke : k = L n
              · have hkb : ((k : Int) == (L n : Int)) = true := by simp [hke]
                have hn1' : n1 = n := by have := HN1.out; omega
                subst hn1'
                have KE := hid hke
                clear hke
                go_wp2_with (first
                  | (go_at_call 65; refine (num65 n1 k _ hn3 hk3).mono ?_; rintro e w' ⟨rfl, rfl⟩)
                  | (at_builtin; refine app_cell4 _ rfl (.tmp 79) (.tmp 84) 22 rfl 66 i5 (.agg #[.int .i64 0, .int .i64 0, .slice none 0 0, .slice none 0 0]) 64 Tryd.underlying22 q0 q1 q2 q3 rfl _ k _ rfl HOW.out ⟨w'.heap.size, 0, none⟩ [.int .i64 0, .int .i64 (nm n1 k), .slice none 0 0, .slice none 0 0] rfl rfl (new4 _ _ _ _ _) one4 hb1 hb2 ?_; intro B cap' w2 hrow hcase; rw [← q4Fr] at hrow; obtain ⟨f', hs2, ht2, hg2⟩ := stepL4 hes HST2.out HLS.out hlt2 _ hrow hcase hk0 (.inl ⟨KE.out, rfl⟩) (Nat.le_refl _); have c0' := hs2.kept.cell HG.out NGB.out; have c1' := hs2.kept.cell (HX.out n1 hlt2) NX.out; have S2 := hid hs2; have T2 := hid ht2; have G2 := hid hg2; clear hs2 ht2 hg2 hrow hcase)
                  | (at_builtin; refine app_cell _ rfl (.tmp 96) (.tmp 98) 48 rfl 22 i24 (.slice none 0 0) 24 Tryd.underlying48 p0 p1 p2 p3 rfl _ n1 _ rfl (by exact (S2.out.alloc _).ownOne) ⟨w2.heap.size, 0, none⟩ (.slice (some ⟨B, 0, none⟩) (k + 1) cap') rfl (by simp [Addr.add]) rfl hb3 hb4 ?_; intro B2 cap2 w3 hrow2 hcase2; obtain ⟨hs3, ht3⟩ := stepO4 hes S2.out (by rw [KE.out]) T2.out _ hrow2 hcase2; have S3 := hid hs3; have T3 := hid ht3; clear hs3 ht3 hrow2 hcase2))
                have hk2 := KE.out
                refine ⟨⟨k + 1, n1 + 1, f', _, by omega, by omega, by go_num, .inr ⟨B, cap', rfl, T3.out, G2.out⟩, .inr ⟨by omega, rfl⟩, S3.out⟩, by simp [intOf]; omega⟩
              · have hkb : ((k : Int) == (L n : Int)) = false := by simp; omega
                have hn1' : n1 = n + 1 := by have := HN1.out; omega
                subst hn1'
                clear hke
                go_wp2_with (first
                  | (go_at_call 65; refine (num65 n k _ hn3 hk3).mono ?_; rintro e w' ⟨rfl, rfl⟩)
                  | (at_builtin; refine app_cell4 _ rfl (.tmp 79) (.tmp 84) 22 rfl 66 i5 (.agg #[.int .i64 0, .int .i64 0, .slice none 0 0, .slice none 0 0]) 64 Tryd.underlying22 q0 q1 q2 q3 rfl _ k _ rfl HOW.out ⟨w'.heap.size, 0, none⟩ [.int .i64 0, .int .i64 (nm n k), .slice none 0 0, .slice none 0 0] rfl rfl (new4 _ _ _ _ _) one4 hb1 hb2 ?_; intro B cap' w2 hrow hcase; rw [← q4Fr] at hrow; obtain ⟨f', hs2, ht2, hg2⟩ := stepL4 hes HST2.out HLS.out hlt2 _ hrow hcase hk0 (.inr ⟨by have := HN1.out; omega, rfl⟩) (Nat.le_refl _); have c0' := hs2.kept.cell HG.out NGB.out; have c1' := hs2.kept.cell (HX.out n hlt2) NX.out; have S2 := hid hs2; have T2 := hid ht2; have G2 := hid hg2; clear hs2 ht2 hg2 hrow hcase))
                refine ⟨⟨k + 1, n + 1, f', _, by omega, by omega, by go_num, .inr ⟨B, cap', rfl, T2.out, G2.out⟩, .inr ⟨by have := HN1.out; omega, rfl⟩, S2.out⟩, by simp [intOf]; omega⟩
            · obtain rfl : k = L n + 70 := by omega
              have hn1' : n1 = n + 1 := by omega
              subst hn1'
              have hb3 : n + 1 ≤ maxLen := by unfold maxLen; omega
              have hb4 : (n + 1) * 24 ≤ 140737488355328 := by omega
              rcases hlst with ⟨_, h0⟩ | ⟨g, cap, hv, htr, _⟩
              · omega
              simp only [Value.slice.injEq, true_and] at hv
              obtain ⟨rfl, rfl⟩ := hv
              have HST2 := hid hst
              have HTR := hid htr
              clear hst htr hn1
              go_wp2_with (first
                  | (at_builtin; refine app_cell _ rfl (.tmp 100) (.tmp 102) 48 rfl 22 i24 (.slice none 0 0) 24 Tryd.underlying48 p0 p1 p2 p3 rfl _ n _ rfl (by exact (HST2.out.alloc _).ownMore) ⟨wr.heap.size, 0, none⟩ (.slice (some ⟨g, 0, none⟩) (L n + 70) lc) rfl (by simp [Addr.add]) rfl hb3 hb4 ?_; intro B2 cap2 w3 hrow2 hcase2; have S3 := hid (stepM4 hes HST2.out rfl HTR.out _ hrow2 hcase2); clear hrow2 hcase2))
              refine ⟨⟨n + 1, _, _, _, by omega, by go_num, S3.out⟩, by simp [intOf]; omega⟩
        · have hnm2 : m = n := by omega
          subst hnm2
          obtain ⟨oa, oc, e5, h5⟩ := own_sliceM hst.ownOne
          obtain ⟨ma, mc, e6, h6⟩ := own_sliceM hst.ownMore
          subst e5
          subst e6
          have HST := hid hst
          have H5 := hid h5
          have H6 := hid h6
          clear hst HS0 h5 h6
          go_wp2_with fail
          clear c0
          generalize wr = wa at *
          go_loopw [10] (fun i wq => ∃ n : Nat, n ≤ m ∧ i = .int .i64 n ∧ Below wa.heap.size wa wq) (fun i _ => m - (intOf i).toNat)
          case atStart => exact ⟨0, by omega, rfl, Below.refl _ _⟩
          case round =>
            obtain ⟨n, hnm3, rfl, hbw⟩ := hrel
            by_cases hlt3 : n < m
            · have hLn := HL.out n hlt3
              obtain ⟨OB, rfl, ho1⟩ : ∃ B, oa = some ⟨B, 0, none⟩ ∧ ∀ j, j < m → wa.cell? ⟨B, j, none⟩ = ovs[j]? := by
                rcases H5.out with h | h
                · omega
                · exact h
              obtain ⟨MB, rfl, hm1⟩ : ∃ B, ma = some ⟨B, 0, none⟩ ∧ ∀ j, j < m → wa.cell? ⟨B, j, none⟩ = mvs[j]? := by
                rcases H6.out with h | h
                · omega
                · exact h
              obtain ⟨B1, b1c, hb1, ht1⟩ := HST.out.ones n hlt3
              obtain ⟨B2, b2c, hb2, ht2⟩ := HST.out.mores n hlt3
              have CO := hid ((ho1 n hlt3).trans hb1)
              have CM := hid ((hm1 n hlt3).trans hb2)
              have C0 := hid (show wa.cell? ⟨GB, 13, none⟩ = some (.slice (some ⟨X, 0, none⟩) m cx) from HST.out.kept.cell HG.out NGB.out)
              have C1 := hid (show wa.cell? ⟨X, n, none⟩ = some (.slice (A n) (L n) (C n)) from HST.out.kept.cell (HX.out n hlt3) NX.out)
              have T0 := hid (fun hN => HST.out.own n hlt3 hN)
              have T1 := hid ht1
              have T2 := hid ht2
              have HBW := hid hbw
              clear ho1 hm1 hb1 hb2 ht1 ht2 H5 H6 HST hbw
              go_wp2_with fail
              generalize wr = wb at *
              go_loopw [11] (fun i wq => ∃ k : Nat, k ≤ L n + 70 ∧ i = .int .i64 k ∧ Below wa.heap.size wa wq) (fun i _ => L n + 70 - (intOf i).toNat)
              case atStart => exact ⟨0, by omega, rfl, HBW.out⟩
              case round =>
                obtain ⟨k, hk, rfl, hbq⟩ := hrel
                have cm := later_cell hbq CM.out
                have HBQ := hid hbq
                clear hbq HBW
                by_cases hlt4 : k < L n + 70
                · obtain ⟨m0, m1, m2, m3⟩ := T2.out.four hlt4 HBQ.out
                  have hn3 : n ≤ 300 := by omega
                  have hk3 : k ≤ 8388608 := by omega
                  by_cases hka : k < L n
                  · obtain ⟨hNn, hAn⟩ := HN.out n hlt3 (by omega)
                    have hkb : ((k : Int) == (L n : Int)) = false := by simp; omega
                    go_upto_region 27 with fail
                    have XQ := hid (Xq.new HBQ.out (nm n k))
                    clear cm m0 m1 m2 m3
                    generalize wr.alloc (.cells #[.int .i64 0, .int .i64 (nm n k), .slice none 0 0, .slice none 0 0] 66) = W1 at *
                    generalize wr.heap.size = xb at *
                    have c0 := later_cell XQ.out.b C0.out
                    have c1 := later_cell XQ.out.b C1.out
                    rw [hAn] at c1
                    obtain ⟨m0, m1, m2, m3⟩ := (T0.out hNn).four hka XQ.out.b
                    obtain ⟨x0, x1, x2, x3⟩ := XQ.out.cs
                    obtain ⟨z0, z1, z2, z3⟩ := XQ.out.fz
                    go_upto_region 29 with fail
                    clear c0 c1 m0 m1 m2 m3 x0 x1 x2 x3 z0 z1 z2 z3
                    have XQ2 := hid XQ.out.put
                    generalize ((((W1.setCell ⟨xb, 0, none⟩ (.int .i64 0)).setCell ⟨xb, 1, none⟩ (.int .i64 (nm n k))).setCell ⟨xb, 2, none⟩ (.slice none 0 0)).setCell ⟨xb, 3, none⟩ (.slice none 0 0)) = W2 at *
                    clear XQ
                    have XQ := hid XQ2.out
                    clear XQ2
                    have c0 := later_cell XQ.out.b C0.out
                    have c1 := later_cell XQ.out.b C1.out
                    rw [hAn] at c1
                    go_upto_region 31 with fail
                    clear c0 c1
                    generalize W2 = W3 at *
                    obtain ⟨x0, x1, x2, x3⟩ := XQ.out.cs
                    go_region_held3 (fun W => W.cell? ⟨xb, 1, none⟩ = some (.int .i64 (nm n k)) ∧ W.cell? ⟨xb, 2, none⟩ = some (.slice none 0 0)) (first | go_keep | (simp only [World.cell?_drew]; exact ⟨x1, x2⟩))
                      (first | (go_at_call 65; refine (num65 n k _ hn3 hk3).mono ?_; rintro e w' ⟨rfl, rfl⟩))
                    clear x0 x1 x2 x3
                    have XQ2 := hid XQ.out.drew
                    generalize W3.drew = W4 at *
                    clear XQ
                    have XQ := hid XQ2.out
                    clear XQ2
                    have cm := later_cell XQ.out.b CM.out
                    obtain ⟨m0, m1, m2, m3⟩ := T2.out.four hlt4 XQ.out.b
                    obtain ⟨x0, x1, x2, x3⟩ := XQ.out.cs
                    obtain ⟨z0, z1, z2, z3⟩ := XQ.out.fz
                    go_upto_region 33 with fail
                    clear cm m0 m1 m2 m3 x0 x1 x2 x3 z0 z1 z2 z3
                    have XQ2 := hid XQ.out.put
                    generalize ((((W4.setCell ⟨xb, 0, none⟩ (.int .i64 0)).setCell ⟨xb, 1, none⟩ (.int .i64 (nm n k))).setCell ⟨xb, 2, none⟩ (.slice none 0 0)).setCell ⟨xb, 3, none⟩ (.slice none 0 0)) = W5 at *
                    clear XQ
                    have XQ := hid XQ2.out
                    clear XQ2
                    obtain ⟨x0, x1, x2, x3⟩ := XQ.out.cs
                    go_region_held3 (fun W => W.cell? ⟨xb, 1, none⟩ = some (.int .i64 (nm n k)) ∧ W.cell? ⟨xb, 2, none⟩ = some (.slice none 0 0)) (first | go_keep | (simp only [World.cell?_drew]; exact ⟨x1, x2⟩))
                      (first | (go_at_call 65; refine (num65 n k _ hn3 hk3).mono ?_; rintro e w' ⟨rfl, rfl⟩))
                    clear x0 x1 x2 x3
                    have XQ2 := hid XQ.out.drew
                    generalize W5.drew = W6 at *
                    go_wp2_with fail
                    exact ⟨⟨k + 1, by omega, by go_num, XQ2.out.b⟩, by simp [intOf]; omega⟩
                  · by_cases hke : k = L n
                    · have hkb : ((k : Int) == (L n : Int)) = true := by simp [hke]
                      have hkl : k < L n + 1 := by omega
                      clear hke
                      go_upto_region 27 with fail
                      have XQ := hid (Xq.new HBQ.out (nm n k))
                      clear cm m0 m1 m2 m3
                      generalize wr.alloc (.cells #[.int .i64 0, .int .i64 (nm n k), .slice none 0 0, .slice none 0 0] 66) = W1 at *
                      generalize wr.heap.size = xb at *
                      generalize W1 = W2 at *
                      have c0 := later_cell XQ.out.b C0.out
                      have c1 := later_cell XQ.out.b C1.out
                      have co := later_cell XQ.out.b CO.out
                      obtain ⟨m0, m1, m2, m3⟩ := T1.out.four hkl XQ.out.b
                      obtain ⟨x0, x1, x2, x3⟩ := XQ.out.cs
                      obtain ⟨z0, z1, z2, z3⟩ := XQ.out.fz
                      go_upto_region 31 with fail
                      clear c0 c1 co m0 m1 m2 m3 x0 x1 x2 x3 z0 z1 z2 z3
                      have XQ2 := hid XQ.out.put
                      generalize ((((W2.setCell ⟨xb, 0, none⟩ (.int .i64 0)).setCell ⟨xb, 1, none⟩ (.int .i64 (nm n k))).setCell ⟨xb, 2, none⟩ (.slice none 0 0)).setCell ⟨xb, 3, none⟩ (.slice none 0 0)) = W3 at *
                      clear XQ
                      have XQ := hid XQ2.out
                      clear XQ2
                      obtain ⟨x0, x1, x2, x3⟩ := XQ.out.cs
                      go_region_held3 (fun W => W.cell? ⟨xb, 1, none⟩ = some (.int .i64 (nm n k)) ∧ W.cell? ⟨xb, 2, none⟩ = some (.slice none 0 0)) (first | go_keep | (simp only [World.cell?_drew]; exact ⟨x1, x2⟩))
                        (first | (go_at_call 65; refine (num65 n k _ hn3 hk3).mono ?_; rintro e w' ⟨rfl, rfl⟩))
                      clear x0 x1 x2 x3
                      have XQ2 := hid XQ.out.drew
                      generalize W3.drew = W4 at *
                      clear XQ
                      have XQ := hid XQ2.out
                      clear XQ2
                      have cm := later_cell XQ.out.b CM.out
                      obtain ⟨m0, m1, m2, m3⟩ := T2.out.four hlt4 XQ.out.b
                      obtain ⟨x0, x1, x2, x3⟩ := XQ.out.cs
                      obtain ⟨z0, z1, z2, z3⟩ := XQ.out.fz
                      go_upto_region 33 with fail
                      clear cm m0 m1 m2 m3 x0 x1 x2 x3 z0 z1 z2 z3
                      have XQ2 := hid XQ.out.put
                      generalize ((((W4.setCell ⟨xb, 0, none⟩ (.int .i64 0)).setCell ⟨xb, 1, none⟩ (.int .i64 (nm n k))).setCell ⟨xb, 2, none⟩ (.slice none 0 0)).setCell ⟨xb, 3, none⟩ (.slice none 0 0)) = W5 at *
                      clear XQ
                      have XQ := hid XQ2.out
                      clear XQ2
                      obtain ⟨x0, x1, x2, x3⟩ := XQ.out.cs
                      go_region_held3 (fun W => W.cell? ⟨xb, 1, none⟩ = some (.int .i64 (nm n k)) ∧ W.cell? ⟨xb, 2, none⟩ = some (.slice none 0 0)) (first | go_keep | (simp only [World.cell?_drew]; exact ⟨x1, x2⟩))
                        (first | (go_at_call 65; refine (num65 n k _ hn3 hk3).mono ?_; rintro e w' ⟨rfl, rfl⟩))
                      clear x0 x1 x2 x3
                      have XQ2 := hid XQ.out.drew
                      generalize W5.drew = W6 at *
                      go_wp2_with fail
                      exact ⟨⟨k + 1, by omega, by go_num, XQ2.out.b⟩, by simp [intOf]; omega⟩
                    · have hkb : ((k : Int) == (L n : Int)) = false := by simp; omega
                      clear hke
                      go_upto_region 27 with fail
                      have XQ := hid (Xq.new HBQ.out (nm n k))
                      clear cm m0 m1 m2 m3
                      generalize wr.alloc (.cells #[.int .i64 0, .int .i64 (nm n k), .slice none 0 0, .slice none 0 0] 66) = W1 at *
                      generalize wr.heap.size = xb at *
                      generalize W1 = W2 at *
                      have c0 := later_cell XQ.out.b C0.out
                      have c1 := later_cell XQ.out.b C1.out
                      go_upto_region 31 with fail
                      clear c0 c1
                      generalize W2 = W3 at *
                      obtain ⟨x0, x1, x2, x3⟩ := XQ.out.cs
                      go_region_held3 (fun W => W.cell? ⟨xb, 1, none⟩ = some (.int .i64 (nm n k)) ∧ W.cell? ⟨xb, 2, none⟩ = some (.slice none 0 0)) (first | go_keep | (simp only [World.cell?_drew]; exact ⟨x1, x2⟩))
                        (first | (go_at_call 65; refine (num65 n k _ hn3 hk3).mono ?_; rintro e w' ⟨rfl, rfl⟩))
                      clear x0 x1 x2 x3
                      have XQ2 := hid XQ.out.drew
                      generalize W3.drew = W4 at *
                      clear XQ
                      have XQ := hid XQ2.out
                      clear XQ2
                      have cm := later_cell XQ.out.b CM.out
                      obtain ⟨m0, m1, m2, m3⟩ := T2.out.four hlt4 XQ.out.b
                      obtain ⟨x0, x1, x2, x3⟩ := XQ.out.cs
                      obtain ⟨z0, z1, z2, z3⟩ := XQ.out.fz
                      go_upto_region 33 with fail
                      clear cm m0 m1 m2 m3 x0 x1 x2 x3 z0 z1 z2 z3
                      have XQ2 := hid XQ.out.put
                      generalize ((((W4.setCell ⟨xb, 0, none⟩ (.int .i64 0)).setCell ⟨xb, 1, none⟩ (.int .i64 (nm n k))).setCell ⟨xb, 2, none⟩ (.slice none 0 0)).setCell ⟨xb, 3, none⟩ (.slice none 0 0)) = W5 at *
                      clear XQ
                      have XQ := hid XQ2.out
                      clear XQ2
                      obtain ⟨x0, x1, x2, x3⟩ := XQ.out.cs
                      go_region_held3 (fun W => W.cell? ⟨xb, 1, none⟩ = some (.int .i64 (nm n k)) ∧ W.cell? ⟨xb, 2, none⟩ = some (.slice none 0 0)) (first | go_keep | (simp only [World.cell?_drew]; exact ⟨x1, x2⟩))
                        (first | (go_at_call 65; refine (num65 n k _ hn3 hk3).mono ?_; rintro e w' ⟨rfl, rfl⟩))
                      clear x0 x1 x2 x3
                      have XQ2 := hid XQ.out.drew
                      generalize W5.drew = W6 at *
                      go_wp2_with fail
                      exact ⟨⟨k + 1, by omega, by go_num, XQ2.out.b⟩, by simp [intOf]; omega⟩
                · go_wp2_with fail
                  exact ⟨⟨n + 1, by omega, by go_num, HBQ.out⟩, by simp [intOf]; omega⟩
            · have HBW := hid hbw
              clear hbw
              go_wp2_with fail
              go_ret
              exact ⟨rfl, HST.out.kept.trans (kept_bel HBW.out)⟩
end Go.Proofs.YtbdjghokedfkfaaDoor

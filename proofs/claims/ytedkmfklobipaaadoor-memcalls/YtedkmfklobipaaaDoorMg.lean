/-
  Marks that are told as they are made: what was marked hangs on no mark that is made later; marks that are bytes of a text in a block of their own.
-/
import Derived.Test.YtedkmfklobipaaaDoorMarks
import Derived.Test.YtedkmfklobipaaaDoorWf
namespace Go.Proofs.YtedkmfklobipaaaDoor
open Go.RowKit
set_option linter.unusedVariables false

theorem ml_congr {mk mk' : Nat → Nat → Value} {n k : Nat} (h : ∀ i, i < k → mk n i = mk' n i) : ml mk n k = ml mk' n k := by
  unfold ml
  apply List.map_congr_left
  intro i hi
  exact h i (by simpa using hi)
theorem TR.congr {e : TypeId} {mk mk' : Nat → Nat → Value} {w : World} {f : Nat → Nat} {b j k c : Nat} (h : TR e mk w f b j k c) (hm : ∀ i, i < k → mk j i = mk' j i) : TR e mk' w f b j k c :=
  ⟨ml_congr hm ▸ h.1, h.2⟩
theorem Listed.congr {e : TypeId} {mk mk' : Nat → Nat → Value} {w : World} {f : Nat → Nat} {L : Nat → Nat} {d n : Nat} {vs : List Value} (h : Listed e mk w f L d n vs) (hm : ∀ j, j < n → ∀ i, i < L j + d → mk j i = mk' j i) : Listed e mk' w f L d n vs := by
  intro j hj
  obtain ⟨B, c, e', t⟩ := h j hj
  exact ⟨B, c, e', t.congr (hm j hj)⟩
theorem St.congr {e es : TypeId} {mk mk' : Nat → Nat → Value} {w : World} {m : Nat} {N : Nat → Prop} {G L C : Nat → Nat} {wr : World} {f : Nat → Nat} {n1 n2 : Nat} {one more : Value} {ovs mvs : List Value} (h : St e es mk w m N G L C wr f n1 n2 one more ovs mvs)
    (h0 : ∀ j, j < m → ∀ i, i < L j → mk j i = mk' j i) (h1 : ∀ j, j < n1 → ∀ i, i < L j + 1 → mk j i = mk' j i) (h2 : ∀ j, j < n2 → ∀ i, i < L j + 70 → mk j i = mk' j i) : St e es mk' w m N G L C wr f n1 n2 one more ovs mvs :=
  ⟨h.kept, fun j hj hN => (h.own j hj hN).congr (h0 j hj), h.ownOne, h.ones.congr h1, h.ownMore, h.mores.congr h2, h.newOne, h.newMore, h.apart⟩
theorem Lst.congr {e : TypeId} {mk mk' : Nat → Nat → Value} {w : World} {N : Nat → Prop} {G : Nat → Nat} {wr : World} {f : Nat → Nat} {n k : Nat} {v : Value} (h : Lst e mk w N G wr f n k v) (hm : ∀ i, i < k → mk n i = mk' n i) : Lst e mk' w N G wr f n k v := by
  rcases h with h | ⟨g, cap, e', t, hg⟩
  · exact .inl h
  · exact .inr ⟨g, cap, e', t.congr hm, hg⟩
theorem Ma.congr {e : TypeId} {mk mk' : Nat → Nat → Value} {w : World} {m : Nat} {N : Nat → Prop} {G L C : Nat → Nat} {wr : World} {n : Nat} (h : Ma e mk w m N G L C wr n) (hm : ∀ j, j < n → ∀ i, i < L j → mk j i = mk' j i) : Ma e mk' w m N G L C wr n :=
  ⟨h.kept, h.rows, fun j hj i hi => by rw [← hm j hj i hi]; exact h.done j hj i hi⟩

/-- One more mark is told. -/
def upd2 (mk : Nat → Nat → Value) (n i : Nat) (u : Value) (j k : Nat) : Value := if j = n ∧ k = i then u else mk j k
theorem upd2_same (mk : Nat → Nat → Value) (n i : Nat) (u : Value) : upd2 mk n i u n i = u := by unfold upd2; rw [if_pos ⟨rfl, rfl⟩]
theorem upd2_other {mk : Nat → Nat → Value} {n i : Nat} {u : Value} {j k : Nat} (h : j ≠ n ∨ k ≠ i) : upd2 mk n i u j k = mk j k := by
  unfold upd2; rw [if_neg (by omega)]

/-- The value u is a list of the bytes of the mark (n, i), in a block of its own, not below base. -/
def Tm (w : World) (base n i : Nat) (u : Value) : Prop := ∃ q c, u = .slice (some ⟨q, 0, none⟩) (txt n i).size c ∧ base ≤ q ∧ q < w.heap.size ∧ Lib.Bytes w q 0 (txt n i) ∧ ∃ cur fr, w.heap[q]? = some (.cells cur 5 fr)
theorem Tm.later {w w' : World} {base n i : Nat} {u : Value} (h : Tm w base n i u) (hb : Below w.heap.size w w') : Tm w' base n i u := by
  obtain ⟨q, c, h1, h2, h3, h4, cur, fr, h5⟩ := h
  exact ⟨q, c, h1, h2, Nat.lt_of_lt_of_le h3 hb.size, bytes_keep h4 (kept_below hb) (fun x => x), cur, fr, (hb.block q h3).trans h5⟩
/-- A store into a block of another type leaves it. -/
theorem Tm.kept {S : Nat → Prop} {w w' : World} {base n i : Nat} {u : Value} (h : Tm w base n i u) (hk : Kept S w w') (hs : ∀ q, S q → q < w.heap.size → ∃ cur fr t, w.heap[q]? = some (.cells cur t fr) ∧ t ≠ 5) : Tm w' base n i u := by
  obtain ⟨q, c, h1, h2, h3, h4, cur, fr, h5⟩ := h
  have hq : ¬ S q := fun hx => by
    obtain ⟨cur', fr', t, h6, h7⟩ := hs q hx h3
    rw [h5] at h6
    injection h6 with h6
    injection h6 with _ h8 _
    exact h7 h8.symm
  exact ⟨q, c, h1, h2, Nat.lt_of_lt_of_le h3 hk.size, bytes_keep h4 hk hq, cur, fr, (hk.block q h3 hq).trans h5⟩
/-- '[]byte(text(n, i))'. -/
theorem tm_made (w : World) (base n i : Nat) (hb : base ≤ w.heap.size) : Tm (Lib.bytesWorld w 5 (txt n i)) base n i (.slice (some ⟨w.heap.size, 0, none⟩) (txt n i).size (grownCap w (txt n i).size 0 5)) :=
  ⟨w.heap.size, _, rfl, hb, by rw [Lib.bytesWorld_size]; omega, conv_bytes _ w, _, _, Lib.bytesWorld_at_new w 5 _⟩
/-- 'string(x)' of it. -/
theorem tm_read {w : World} {base n i : Nat} {u : Value} (h : Tm w base n i u) : (convert 41 9 u).run Tryd.prog w = .ok (.string (txt n i)) w := by
  obtain ⟨q, c, rfl, _, _, h4, _⟩ := h
  exact Lib.run_convert_whole _ 41 5 9 Tryd.underlying41 Tryd.underlying5 Tryd.underlying9 q 0 _ h4 c
end Go.Proofs.YtedkmfklobipaaaDoor

/-
  Turned by program from the seat YtbdjghokedfkfaaDoor: the walk over apartPages.
-/
import Derived.Deep.RegionHeld3
import Derived.Test.YtbdjghokedfkfaaDoorGa
namespace Go.Proofs.YtbdjghokedfkfaaDoor
open Go.RowKit
set_option linter.unusedVariables false
set_option maxRecDepth 100000
theorem kept_setCell (w : World) (b i : Nat) (v : Value) : Kept (fun k => k = b) w (w.setCell ⟨b, i, none⟩ v) := kept_put
theorem ml_congr {mk mk' : Nat → Nat → Value} {n k : Nat} (h : ∀ i, i < k → mk n i = mk' n i) : ml mk n k = ml mk' n k := by
  unfold ml
  apply List.map_congr_left
  intro i hi
  exact h i (by simpa using hi)
theorem TR.congr {e : TypeId} {mk mk' : Nat → Nat → Value} {w : World} {f : Nat → Nat} {b j k c : Nat} (h : TR e mk w f b j k c) (hm : ∀ i, i < k → mk j i = mk' j i) : TR e mk' w f b j k c :=
  ⟨ml_congr hm ▸ h.1, h.2⟩
theorem Listed.congr {e : TypeId} {mk mk' : Nat → Nat → Value} {w : World} {f : Nat → Nat} {L : Nat → Nat} {d n : Nat} {vs : List Value} (h : Listed e mk w f L d n vs) (hm : ∀ j, j < n → ∀ i, i < L j + d → mk j i = mk' j i) : Listed e mk' w f L d n vs := by
  intro j hj
  obtain ⟨B, c, e', t⟩ := h j hj
  exact ⟨B, c, e', t.congr (hm j hj)⟩
theorem St.congr {e es : TypeId} {mk mk' : Nat → Nat → Value} {w : World} {m : Nat} {N : Nat → Prop} {G L C : Nat → Nat} {wr : World} {f : Nat → Nat} {n1 n2 : Nat} {one more : Value} {ovs mvs : List Value} (h : St e es mk w m N G L C wr f n1 n2 one more ovs mvs)
    (h0 : ∀ j, j < m → ∀ i, i < L j → mk j i = mk' j i) (h1 : ∀ j, j < n1 → ∀ i, i < L j + 1 → mk j i = mk' j i) (h2 : ∀ j, j < n2 → ∀ i, i < L j + 70 → mk j i = mk' j i) : St e es mk' w m N G L C wr f n1 n2 one more ovs mvs :=
  ⟨h.kept, fun j hj hN => (h.own j hj hN).congr (h0 j hj), h.ownOne, h.ones.congr h1, h.ownMore, h.mores.congr h2, h.newOne, h.newMore, h.apart⟩
theorem Lst.congr {e : TypeId} {mk mk' : Nat → Nat → Value} {w : World} {N : Nat → Prop} {G : Nat → Nat} {wr : World} {f : Nat → Nat} {n k : Nat} {v : Value} (h : Lst e mk w N G wr f n k v) (hm : ∀ i, i < k → mk n i = mk' n i) : Lst e mk' w N G wr f n k v := by
  rcases h with h | ⟨g, cap, e', t, hg⟩
  · exact .inl h
  · exact .inr ⟨g, cap, e', t.congr hm, hg⟩
theorem Ma.congr {e : TypeId} {mk mk' : Nat → Nat → Value} {w : World} {m : Nat} {N : Nat → Prop} {G L C : Nat → Nat} {wr : World} {n : Nat} (h : Ma e mk w m N G L C wr n) (hm : ∀ j, j < n → ∀ i, i < L j → mk j i = mk' j i) : Ma e mk' w m N G L C wr n :=
  ⟨h.kept, h.rows, fun j hj i hi => by rw [← hm j hj i hi]; exact h.done j hj i hi⟩
/-- One more mark is told. -/
def upd2 (mk : Nat → Nat → Value) (n i : Nat) (u : Value) (j k : Nat) : Value := if j = n ∧ k = i then u else mk j k
theorem upd2_same (mk : Nat → Nat → Value) (n i : Nat) (u : Value) : upd2 mk n i u n i = u := by unfold upd2; rw [if_pos ⟨rfl, rfl⟩]
theorem upd2_other {mk : Nat → Nat → Value} {n i : Nat} {u : Value} {j k : Nat} (h : j ≠ n ∨ k ≠ i) : upd2 mk n i u j k = mk j k := by
  unfold upd2; rw [if_neg (by omega)]
/-- The value u is a list of the bytes of the mark (n, i), in a block of its own, not below base. -/
def Tm (w : World) (base n i : Nat) (u : Value) : Prop := ∃ q c, u = .slice (some ⟨q, 0, none⟩) (txt n i).size c ∧ base ≤ q ∧ q < w.heap.size ∧ Lib.Bytes w q 0 (txt n i) ∧ ∃ cur fr, w.heap[q]? = some (.cells cur 5 fr)
theorem Tm.later {w w' : World} {base n i : Nat} {u : Value} (h : Tm w base n i u) (hb : Below w.heap.size w w') : Tm w' base n i u := by
  obtain ⟨q, c, h1, h2, h3, h4, cur, fr, h5⟩ := h
  exact ⟨q, c, h1, h2, Nat.lt_of_lt_of_le h3 hb.size, bytes_keep h4 (kept_below hb) (fun x => x), cur, fr, (hb.block q h3).trans h5⟩
/-- A store into a block of another type leaves it. -/
theorem Tm.kept {S : Nat → Prop} {w w' : World} {base n i : Nat} {u : Value} (h : Tm w base n i u) (hk : Kept S w w') (hs : ∀ q, S q → q < w.heap.size → ∃ cur fr t, w.heap[q]? = some (.cells cur t fr) ∧ t ≠ 5) : Tm w' base n i u := by
  obtain ⟨q, c, h1, h2, h3, h4, cur, fr, h5⟩ := h
  have hq : ¬ S q := fun hx => by
    obtain ⟨cur', fr', t, h6, h7⟩ := hs q hx h3
    rw [h5] at h6
    injection h6 with h6
    injection h6 with _ h8 _
    exact h7 h8.symm
  exact ⟨q, c, h1, h2, Nat.lt_of_lt_of_le h3 hk.size, bytes_keep h4 hk hq, cur, fr, (hk.block q h3 hq).trans h5⟩
/-- '[]byte(text(n, i))'. -/
theorem tm_made (w : World) (base n i : Nat) (hb : base ≤ w.heap.size) : Tm (Lib.bytesWorld w 5 (txt n i)) base n i (.slice (some ⟨w.heap.size, 0, none⟩) (txt n i).size (grownCap w (txt n i).size 0 5)) :=
  ⟨w.heap.size, _, rfl, hb, by rw [Lib.bytesWorld_size]; omega, conv_bytes _ w, _, _, Lib.bytesWorld_at_new w 5 _⟩
/-- 'string(x)' of it. -/
theorem tm_read {w : World} {base n i : Nat} {u : Value} (h : Tm w base n i u) : (convert 31 9 u).run Tryd.prog w = .ok (.string (txt n i)) w := by
  obtain ⟨q, c, rfl, _, _, h4, _⟩ := h
  exact Lib.run_convert_whole _ 31 5 9 Tryd.underlying31 Tryd.underlying5 Tryd.underlying9 q 0 _ h4 c
theorem Tryd.inlPages : (Tryd.prog.info? 24).map (fun i => (i.zero, i.size, i.bytes)) = some (some (.slice none 0 0), 1, 24) := by kernel_rfl
/-- An append onto a row of no bytes leaves the marks. -/
theorem tm_app {W w4 : World} {e : TypeId} (he : e ≠ 5) {v : Value} {k B cap : Nat} {xs : List Value} (hown : W.ownsRow 0 e 1 v k xs)
    (hc : (v = .slice (some ⟨B, 0, none⟩) k cap ∧ Kept (fun x => x = B) W w4) ∨ (W.heap.size ≤ B ∧ Kept (fun _ => False) W w4)) {n i : Nat} {u : Value} (h : Tm W 0 n i u) : Tm w4 0 n i u := by
  rcases hc with ⟨rfl, hk⟩ | ⟨_, hk⟩
  · refine h.kept hk (fun q hq _ => ?_)
    subst hq
    obtain ⟨_, cur, hh⟩ := own_lt hown rfl
    exact ⟨cur, _, e, hh, he⟩
  · exact h.kept hk (fun _ x _ => x.elim)
theorem Tm.keep {w w' : World} {base n i : Nat} {u : Value} (h : Tm w base n i u) (hk : Kept (fun _ => False) w w') : Tm w' base n i u := h.kept hk (fun _ x _ => x.elim)
/-- A mark's value. -/
theorem Tm.sl {w : World} {base n i : Nat} {u : Value} (h : Tm w base n i u) : ∃ q c, u = .slice (some ⟨q, 0, none⟩) (txt n i).size c := by
  obtain ⟨q, c, h, _⟩ := h; exact ⟨q, c, h⟩
/-- All marks so far. -/
def Tms (w : World) (D : Nat → Nat → Prop) (mk : Nat → Nat → Value) : Prop := ∀ j i, D j i → Tm w 0 j i (mk j i)
/-- One mark more. -/
theorem Tms.more {w w' : World} {D D' : Nat → Nat → Prop} {mk : Nat → Nat → Value} {n k : Nat} {u : Value} (h : Tms w D mk) (hm : ∀ j i v, Tm w 0 j i v → Tm w' 0 j i v) (hu : Tm w' 0 n k u) (hD : ∀ j i, D' j i → D j i ∨ (j = n ∧ i = k)) : Tms w' D' (upd2 mk n k u) := by
  intro j i hji
  by_cases e : j = n ∧ i = k
  · obtain ⟨rfl, rfl⟩ := e
    rw [upd2_same]; exact hu
  · rw [upd2_other (by omega)]
    exact hm j i _ (h j i ((hD j i hji).resolve_right e))
/-- One mark more is made, ahead of its append. -/
theorem app_pre {mk : Nat → Nat → Value} {w : World} {m : Nat} {N : Nat → Prop} {G L C : Nat → Nat} {wr W4 : World} {f : Nat → Nat} {n1 n k : Nat} {one more v u : Value} {ovs mvs : List Value} (hst : St 31 24 mk w m N G L C wr f n1 n one more ovs mvs) (hlst : Lst 31 mk w N G wr f n k v)
    (htm : Tms wr (fun j i => (j < m ∧ i < L j) ∨ (j < n ∧ i < L j + 70) ∨ (j = n ∧ i < k)) mk) (hk : Kept (fun _ => False) wr W4) (hu : Tm W4 0 n k u) (hk0 : L n ≤ k) (hn1 : (k = L n ∧ n1 = n) ∨ (L n + 1 ≤ k ∧ n1 = n + 1)) :
    ∃ mk', St 31 24 mk' w m N G L C W4 f n1 n one more ovs mvs ∧ Lst 31 mk' w N G W4 f n k v ∧ Tms W4 (fun j i => (j < m ∧ i < L j) ∨ (j < n ∧ i < L j + 70) ∨ (j = n ∧ i < k + 1)) mk' ∧ mk' n k = u := by
  refine ⟨upd2 mk n k u, (hst.keep hk).congr (fun j hj i hi => (upd2_other ?_).symm) (fun j hj i hi => (upd2_other ?_).symm) (fun j hj i hi => (upd2_other (.inl (by omega))).symm), (hlst.kept hk).congr (fun i hi => (upd2_other (.inr (by omega))).symm), ?_, upd2_same _ _ _ _⟩
  · by_cases e : j = n
    · subst e; exact .inr (by omega)
    · exact .inl e
  · by_cases e : j = n
    · subst e; exact .inr (by omega)
    · exact .inl e
  · refine Tms.more htm (fun j i v h => h.keep hk) hu (fun j i h => ?_)
    rcases h with h | h | ⟨h, h'⟩
    · exact .inl (.inl h)
    · exact .inl (.inr (.inl h))
    · by_cases e : i = k
      · exact .inr ⟨h, e⟩
      · exact .inl (.inr (.inr ⟨h, by omega⟩))
theorem take_at {P : Program} {ops : Array Oper} {Q : Exit → Act → World → Prop} {md : Region.Mode} {S : World → Prop} {i : Nat} {oi : Oper} {d : Option Tmp} {v : Value} {fuel : Nat} {listed : Array Bool} {a : Act} {w : World} (hi : ops[i]? = some oi) (hd : oi.dst = d)
    (hs : Region.noSelect ops = true) (hf : Region.free md ops listed i = true) (hr : (Region.ready md ops listed).contains i = true)
    (hQ : ∀ c a w, Q (.panic c) (a.put d v) w → Q (.panic c) a w) (hy : YieldsIf P ops S oi v a) (hS : S w)
    (h : wpAnyH P md ops Q S fuel (listed.setIfInBounds i true) (a.put d v) w) : wpAnyH P md ops Q S (fuel + 1) listed a w := by
  subst hd
  exact wpAnyH_take hi hs hf hr hQ hy hS h
theorem ready_at {P : Program} {ops : Array Oper} {Q : Exit → Act → World → Prop} {md : Region.Mode} {S : World → Prop} {i : Nat} {o : Oper} {fuel : Nat} {listed : Array Bool} {a : Act} {w : World} {rs : List Nat} (ho : ops[i]? = some o) (hw : Region.wanted o (yielded ops a.tmps) = true)
    (h : ∀ K : Act → World → Prop, Shut (∀ a w, S w → (S w → wpAnyH P md ops Q S fuel (listed.setIfInBounds i true) a w) → K a w) → Oper.wp P o a w K Q)
    (hs : AllReadyH P md ops Q S fuel listed a w rs) : AllReadyH P md ops Q S fuel listed a w (i :: rs) :=
  AllReadyH.cons ho (fun K hK => by rw [if_pos hw]; exact h K hK) hs
/-- One mark more is stored. -/
theorem mark_step {mk : Nat → Nat → Value} {w : World} {m : Nat} {N : Nat → Prop} {A : Nat → Option Addr} {G L C : Nat → Nat} {wr W4 : World} {n k : Nat} {u : Value} (hma : Ma 31 mk w m N G L C wr n) (hdn : ∀ t, t < k → wr.cell? ⟨G n, t, none⟩ = some (mk n t)) (htm : Tms wr (fun j i => (j < n ∧ i < L j) ∨ (j = n ∧ i < k)) mk)
    (hk : Kept (fun _ => False) wr W4) (hu : Tm W4 0 n k u) (hn : n < m) (hN : ∀ j, j < m → 0 < L j → N j ∧ A j = some ⟨G j, 0, none⟩) (hkl : k < L n) (hinj : ∀ a b, a < m → b < m → N a → N b → G a = G b → a = b) :
    ∃ mk', Ma 31 mk' w m N G L C (W4.setCell ⟨G n, k, none⟩ u) n ∧ (∀ t, t < k + 1 → (W4.setCell ⟨G n, k, none⟩ u).cell? ⟨G n, t, none⟩ = some (mk' n t)) ∧ Tms (W4.setCell ⟨G n, k, none⟩ u) (fun j i => (j < n ∧ i < L j) ∨ (j = n ∧ i < k + 1)) mk' := by
  have h2 := (hma.keep hk).congr (mk' := upd2 mk n k u) (fun j hj i hi => (upd2_other (.inl (by omega))).symm)
  have hd2 : ∀ t, t < k → W4.cell? ⟨G n, t, none⟩ = some (upd2 mk n k u n t) := fun t ht => by
    rw [upd2_other (.inr (by omega))]; exact hk.cell (hdn t ht) (fun x => x)
  have hp := h2.put hn (fun j hj h0 => (hN j hj h0).1) hkl hinj hd2
  obtain ⟨xs, hrow⟩ := h2.rows n hn (hN n hn (by omega)).1
  obtain ⟨cur, hblk, _⟩ := hrow.block
  rw [upd2_same] at hp
  refine ⟨_, hp.1, hp.2, ?_⟩
  have hks := kept_setCell W4 (G n) k u
  have hty : ∀ q, q = G n → q < W4.heap.size → ∃ cur fr t, W4.heap[q]? = some (.cells cur t fr) ∧ t ≠ 5 := fun q hq _ => by subst hq; exact ⟨cur, _, 31, hblk, by decide⟩
  refine Tms.more htm (fun j i v h => (h.keep hk).kept hks hty) (hu.kept hks hty) (fun j i h => ?_)
  rcases h with h | ⟨h, h'⟩
  · exact .inl (.inl h)
  · by_cases e : i = k
    · exact .inr ⟨h, e⟩
    · exact .inl (.inr ⟨h, by omega⟩)
/-- What the lists are: nil, or a row of their own. -/
def ListsPages (w : World) (m : Nat) (N : Nat → Prop) (A : Nat → Option Addr) (G L C : Nat → Nat) : Prop :=
  ∀ j, j < m → (N j ∧ A j = some ⟨G j, 0, none⟩ ∧ ∃ xs, Row w 31 (G j) (L j) (C j) xs) ∨ (¬ N j ∧ A j = none ∧ L j = 0 ∧ C j = 0)
set_option maxRecDepth 100000 in
set_option maxHeartbeats 8000000 in
theorem apart58 (B0 GB X m cx : Nat) (N : Nat → Prop) (A : Nat → Option Addr) (G L C : Nat → Nat) (w : World) (hm : m ≤ 300)
    (hg : w.cell? ⟨GB, 15, none⟩ = some (.slice (some ⟨X, 0, none⟩) m cx))
    (hx : ∀ j, j < m → w.cell? ⟨X, j, none⟩ = some (.slice (A j) (L j) (C j)))
    (ho : ListsPages w m N A G L C) (hL : ∀ j, j < m → L j ≤ 4194304)
    (hinj : ∀ a b, a < m → b < m → N a → N b → G a = G b → a = b) (hGX : ∀ j, j < m → N j → ¬ GB = G j ∧ ¬ X = G j)
    (ht : Tens B0 w) (hB0 : ∀ j, j < m → N j → B0 ≤ G j) (hB1 : B0 ≤ w.heap.size) :
    Calls Tryd.prog 45 #[.pointer (some ⟨GB, 0, none⟩)] w fun e w' => e = .returned (.bool true) ∧ Kept (Own m N G) w w' := by
  have hN : ∀ j, j < m → 0 < L j → N j ∧ A j = some ⟨G j, 0, none⟩ := fun j hj h0 => by
    rcases ho j hj with h | h
    · exact ⟨h.1, h.2.1⟩
    · omega
  have hR : ∀ j, j < m → N j → ∃ xs, Row w 31 (G j) (L j) (C j) xs := fun j hj h0 => by
    rcases ho j hj with h | h
    · exact h.2.2
    · exact absurd h0 h.1
  have hS : ∀ j, j < m → (N j ∧ A j = some ⟨G j, 0, none⟩) ∨ (A j = none ∧ L j = 0 ∧ C j = 0) := fun j hj => by
    rcases ho j hj with h | h
    · exact .inl ⟨h.1, h.2.1⟩
    · exact .inr h.2
  have HX := hid hx
  have HL := hid hL
  have HI := hid hinj
  have HGX := hid hGX
  have HN := hid hN
  have HR := hid hR
  have HSN := hid hS
  have HG := hid hg
  have HTE := hid ht
  have nGB : ¬ Own m N G GB := fun ⟨j, hj, hn, e⟩ => (hGX j hj hn).1 e
  have nX : ¬ Own m N G X := fun ⟨j, hj, hn, e⟩ => (hGX j hj hn).2 e
  have NGB := hid nGB
  have NX := hid nX
  have HB0 := hid hB0
  have HTK := hid (show ∀ W, Kept (Own m N G) w W → Tens B0 W from fun W hk => HTE.out.later (hk.to_below hB1 (fun b hb ⟨j, hj, hn, e⟩ => by have := HB0.out j hj hn; omega)))
  clear hx hL hinj hGX ho hg nGB nX hN hR hS ht hB0
  go_enter Tryd.func45, Tryd.ntmps45
  go_wp2_with fail
  go_loopw [3] (fun i wr => ∃ n : Nat, n ≤ m ∧ i = .int .i64 n ∧ ∃ mk, Ma 31 mk w m N G L C wr n ∧ Tms wr (fun j i => j < n ∧ i < L j) mk) (fun i _ => m - (intOf i).toNat)
  case atStart => exact ⟨0, by omega, rfl, fun _ _ => .slice none 0 0, ⟨Kept.refl _ _, HR.out, fun j hj => absurd hj (by omega)⟩, fun j i h => absurd h.1 (by omega)⟩
  case round =>
    obtain ⟨n, hn, rfl, mk, hma, htm⟩ := hrel
    have c0 : wr.cell? ⟨GB, 15, none⟩ = some (.slice (some ⟨X, 0, none⟩) m cx) := hma.kept.cell HG.out NGB.out
    by_cases hlt : n < m
    · have HM := hid hma
      have HTM := hid htm
      clear hma htm
      go_wp2_with fail
      go_loopw [4] (fun i wr => ∃ k : Nat, k ≤ L n ∧ i = .int .i64 k ∧ ∃ mk, Ma 31 mk w m N G L C wr n ∧ (∀ t, t < k → wr.cell? ⟨G n, t, none⟩ = some (mk n t)) ∧ Tms wr (fun j i => (j < n ∧ i < L j) ∨ (j = n ∧ i < k)) mk) (fun i _ => L n - (intOf i).toNat)
      case atStart => exact ⟨0, by omega, rfl, mk, HM.out, fun t ht => absurd ht (by omega), fun j i h => HTM.out j i (by omega)⟩
      case round =>
        obtain ⟨k, hk, rfl, mk, hma, hdn, htm⟩ := hrel
        clear c0 HM HTM
        have hLn := HL.out n hlt
        have c0 : wr.cell? ⟨GB, 15, none⟩ = some (.slice (some ⟨X, 0, none⟩) m cx) := hma.kept.cell HG.out NGB.out
        have c1 : wr.cell? ⟨X, n, none⟩ = some (.slice (A n) (L n) (C n)) := hma.kept.cell (HX.out n hlt) NX.out
        by_cases hkl : k < L n
        · obtain ⟨hNn, hAn⟩ := HN.out n hlt (by omega)
          rw [hAn] at c1
          obtain ⟨xs, hrow⟩ := hma.rows n hlt hNn
          have hcl : ∃ u, wr.cell? ⟨G n, k, none⟩ = some u := ⟨_, (hrow.cell k hkl).trans (List.getElem?_eq_getElem (by have := hrow.1; omega))⟩
          obtain ⟨u0, hcl⟩ := hcl
          have hfz := hrow.free k
          have gx := HGX.out n hlt hNn
          have g1 : ¬ GB = G n := gx.1
          have g2 : ¬ X = G n := gx.2
          have hn3 : n ≤ 300 := by omega
          have hk3 : k ≤ 8388608 := by omega
          have HMA := hid hma
          have HDN := hid hdn
          have HTM := hid htm
          have HRW := hid hrow
          have HTX := hid (fun (W : World) (hb : Below wr.heap.size wr W) => textC B0 n k W (by omega) (by omega) ((HTK.out wr HMA.out.kept).later (hb.mono (Nat.le_trans hB1 HMA.out.kept.size))))
          obtain ⟨s, hs⟩ : ∃ s, s = txt n k := ⟨_, rfl⟩
          rw [← hs] at HTX
          have HS := hid hs
          have hcv := conv_in s
          have HMK := hid (show ∀ W, Below wr.heap.size wr W → W.cell? ⟨GB, 15, none⟩ = some (.slice (some ⟨X, 0, none⟩) m cx) ∧ W.cell? ⟨X, n, none⟩ = some (.slice (some ⟨G n, 0, none⟩) (L n) (C n)) from fun W hb => ⟨later_cell hb c0, later_cell hb c1⟩)
          have HCL := hid (show ∀ W, Below wr.heap.size wr W → W.cell? ⟨G n, k, none⟩ = some u0 ∧ W.frozen? ⟨G n, k, none⟩ = false from fun W hb => ⟨later_cell hb hcl, (frozen_of_block (hb.block (G n) hrow.lt) k).trans hfz⟩)
          clear hma hdn gx htm hrow hs hcl hfz
          go_wp2_with fail
          have HBB : Below wr.heap.size wr wr.drew := (Below.refl _ _).drew
          have hH : wr.drew.cell? ⟨GB, 15, none⟩ = some (.slice (some ⟨X, 0, none⟩) m cx) ∧ wr.drew.cell? ⟨X, n, none⟩ = some (.slice (some ⟨G n, 0, none⟩) (L n) (C n)) := HMK.out _ HBB
          refine wp_region_held_drew (S := (fun W => W.cell? ⟨GB, 15, none⟩ = some (.slice (some ⟨X, 0, none⟩) m cx) ∧ W.cell? ⟨X, n, none⟩ = some (.slice (some ⟨G n, 0, none⟩) (L n) (C n)))) (by kernel_rfl) hH (fun hHeld => ?_)
          generalize wr.drew = WD at *
          refine take_at (i := 0) (oi := { dst := some 35, op := Go.Op.move (Go.Operand.tmp 0), type := 35, pos := "bag.go:841", after := #[], guard := none }) (d := some 35) (v := ?_) (by kernel_rfl) (by kernel_rfl) (by kernel_rfl) (by kernel_rfl) (by kernel_rfl) (fun _ _ _ h => h) (Or.inl ⟨by kernel_rfl, ?_⟩) (by assumption) ?_
          rotate_left 1
          · (intro w hSw; (try dsimp only at hSw); go_simp; try with_reducible rfl)
          try simp only [Act.put, List.setIfInBounds_toArray, List.set_cons_zero, List.set_cons_succ]
          refine take_at (i := 1) (oi := { dst := some 36, op := Go.Op.nilCheck (Go.Operand.tmp 35), type := 0, pos := "bag.go:841", after := #[{ on := 0, ground := Go.Ground.data }], guard := none }) (d := some 36) (v := ?_) (by kernel_rfl) (by kernel_rfl) (by kernel_rfl) (by kernel_rfl) (by kernel_rfl) (fun _ _ _ h => h) (Or.inl ⟨by kernel_rfl, ?_⟩) (by assumption) ?_
          rotate_left 1
          · (intro w hSw; (try dsimp only at hSw); go_simp; try with_reducible rfl)
          try simp only [Act.put, List.setIfInBounds_toArray, List.set_cons_zero, List.set_cons_succ]
          refine take_at (i := 2) (oi := { dst := some 37, op := Go.Op.fieldAddr 53 (Go.Operand.tmp 36) 15, type := 0, pos := "bag.go:841", after := #[{ on := 1, ground := Go.Ground.data }], guard := none }) (d := some 37) (v := ?_) (by kernel_rfl) (by kernel_rfl) (by kernel_rfl) (by kernel_rfl) (by kernel_rfl) (fun _ _ _ h => h) (Or.inl ⟨by kernel_rfl, ?_⟩) (by assumption) ?_
          rotate_left 1
          · (intro w hSw; (try dsimp only at hSw); go_simp; try with_reducible rfl)
          try simp only [Act.put, List.setIfInBounds_toArray, List.set_cons_zero, List.set_cons_succ]
          refine take_at (i := 3) (oi := { dst := some 38, op := Go.Op.load 50 (Go.Operand.tmp 37), type := 50, pos := "bag.go:841", after := #[{ on := 2, ground := Go.Ground.data }], guard := none }) (d := some 38) (v := ?_) (by kernel_rfl) (by kernel_rfl) (by kernel_rfl) (by kernel_rfl) (by kernel_rfl) (fun _ _ _ h => h) (Or.inl ⟨by kernel_rfl, ?_⟩) (by assumption) ?_
          rotate_left 1
          · (intro w hSw; (try dsimp only at hSw); go_simp; try with_reducible rfl)
          try simp only [Act.put, List.setIfInBounds_toArray, List.set_cons_zero, List.set_cons_succ]
          refine take_at (i := 4) (oi := { dst := some 39, op := Go.Op.move (Go.Operand.tmp 3), type := 3, pos := "bag.go:841", after := #[], guard := none }) (d := some 39) (v := ?_) (by kernel_rfl) (by kernel_rfl) (by kernel_rfl) (by kernel_rfl) (by kernel_rfl) (fun _ _ _ h => h) (Or.inl ⟨by kernel_rfl, ?_⟩) (by assumption) ?_
          rotate_left 1
          · (intro w hSw; (try dsimp only at hSw); go_simp; try with_reducible rfl)
          try simp only [Act.put, List.setIfInBounds_toArray, List.set_cons_zero, List.set_cons_succ]
          refine take_at (i := 5) (oi := { dst := some 40, op := Go.Op.indexAddr 50 (Go.Operand.tmp 38) (Go.Operand.tmp 39), type := 0, pos := "bag.go:841", after := #[{ on := 3, ground := Go.Ground.data }, { on := 4, ground := Go.Ground.data }], guard := none }) (d := some 40) (v := ?_) (by kernel_rfl) (by kernel_rfl) (by kernel_rfl) (by kernel_rfl) (by kernel_rfl) (fun _ _ _ h => h) (Or.inl ⟨by kernel_rfl, ?_⟩) (by assumption) ?_
          rotate_left 1
          · (intro w hSw; (try dsimp only at hSw); go_simp; try with_reducible rfl)
          try simp only [Act.put, List.setIfInBounds_toArray, List.set_cons_zero, List.set_cons_succ]
          refine take_at (i := 6) (oi := { dst := some 41, op := Go.Op.load 24 (Go.Operand.tmp 40), type := 24, pos := "bag.go:841", after := #[{ on := 5, ground := Go.Ground.data }], guard := none }) (d := some 41) (v := ?_) (by kernel_rfl) (by kernel_rfl) (by kernel_rfl) (by kernel_rfl) (by kernel_rfl) (fun _ _ _ h => h) (Or.inl ⟨by kernel_rfl, ?_⟩) (by assumption) ?_
          rotate_left 1
          · (intro w hSw; (try dsimp only at hSw); go_simp; try with_reducible rfl)
          try simp only [Act.put, List.setIfInBounds_toArray, List.set_cons_zero, List.set_cons_succ]
          refine take_at (i := 7) (oi := { dst := some 42, op := Go.Op.move (Go.Operand.tmp 4), type := 3, pos := "bag.go:841", after := #[], guard := none }) (d := some 42) (v := ?_) (by kernel_rfl) (by kernel_rfl) (by kernel_rfl) (by kernel_rfl) (by kernel_rfl) (fun _ _ _ h => h) (Or.inl ⟨by kernel_rfl, ?_⟩) (by assumption) ?_
          rotate_left 1
          · (intro w hSw; (try dsimp only at hSw); go_simp; try with_reducible rfl)
          try simp only [Act.put, List.setIfInBounds_toArray, List.set_cons_zero, List.set_cons_succ]
          refine take_at (i := 8) (oi := { dst := some 43, op := Go.Op.move (Go.Operand.tmp 3), type := 3, pos := "bag.go:841", after := #[], guard := none }) (d := some 43) (v := ?_) (by kernel_rfl) (by kernel_rfl) (by kernel_rfl) (by kernel_rfl) (by kernel_rfl) (fun _ _ _ h => h) (Or.inl ⟨by kernel_rfl, ?_⟩) (by assumption) ?_
          rotate_left 1
          · (intro w hSw; (try dsimp only at hSw); go_simp; try with_reducible rfl)
          try simp only [Act.put, List.setIfInBounds_toArray, List.set_cons_zero, List.set_cons_succ]
          refine take_at (i := 9) (oi := { dst := some 44, op := Go.Op.move (Go.Operand.tmp 4), type := 3, pos := "bag.go:841", after := #[], guard := none }) (d := some 44) (v := ?_) (by kernel_rfl) (by kernel_rfl) (by kernel_rfl) (by kernel_rfl) (by kernel_rfl) (fun _ _ _ h => h) (Or.inl ⟨by kernel_rfl, ?_⟩) (by assumption) ?_
          rotate_left 1
          · (intro w hSw; (try dsimp only at hSw); go_simp; try with_reducible rfl)
          try simp only [Act.put, List.setIfInBounds_toArray, List.set_cons_zero, List.set_cons_succ]
          refine wpAnyH_ready (rs := [10]) (by kernel_rfl) (by simp) ?_
          refine ready_at (o := { dst := some 45, op := Go.Op.call { callee := Go.Callee.value (Go.Operand.func 66), args := #[Go.Operand.tmp 43, Go.Operand.tmp 44], argTypes := #[3, 3] }, type := 9, pos := "bag.go:841", after := #[{ on := 8, ground := Go.Ground.data }, { on := 9, ground := Go.Ground.data }], guard := none }) (by kernel_rfl) (by kernel_rfl) (fun K hK => ?_) ?_
          · go_simp
            refine (HTX.out WD HBB).mono ?_
            rintro e w3 ⟨rfl, hb3⟩
            have hB3 : Below wr.heap.size wr w3 := HBB.trans (hb3.mono HBB.size)
            refine hK.out _ _ (HMK.out _ hB3) (fun _ => ?_)
            clear hK K
            have hH3 := HMK.out _ hB3
            have hcw := hcv w3
            refine wpAnyH_ready (rs := [11]) (by kernel_rfl) (by simp) ?_
            refine ready_at (o := { dst := some 46, op := Go.Op.convert 9 31 (Go.Operand.tmp 45), type := 31, pos := "bag.go:841", after := #[{ on := 10, ground := Go.Ground.data }], guard := none }) (by kernel_rfl) (by kernel_rfl) (fun K hK => ?_) ?_
            · go_simp
              have hB4 : Below wr.heap.size wr (Lib.bytesWorld w3 5 s) := hB3.trans ((conv_below s w3).mono hB3.size)
              refine hK.out _ _ (HMK.out _ hB4) (fun _ => ?_)
              clear hK K
              have hH4 := HMK.out _ hB4
              have hcz := HCL.out _ hB4
              have hTu : Tm (Lib.bytesWorld w3 5 s) 0 n k (.slice (some ⟨w3.heap.size, 0, none⟩) s.size (grownCap w3 s.size 0 5)) := by rw [HS.out]; exact tm_made w3 0 n k (Nat.zero_le _)
              have P := hid (mark_step HMA.out HDN.out HTM.out (kept_below hB4) hTu hlt HN.out hkl HI.out)
              have hS5 : ((Lib.bytesWorld w3 5 s).setCell ⟨G n, k, none⟩ (.slice (some ⟨w3.heap.size, 0, none⟩) s.size (grownCap w3 s.size 0 5))).cell? ⟨GB, 15, none⟩ = some (.slice (some ⟨X, 0, none⟩) m cx) ∧ ((Lib.bytesWorld w3 5 s).setCell ⟨G n, k, none⟩ (.slice (some ⟨w3.heap.size, 0, none⟩) s.size (grownCap w3 s.size 0 5))).cell? ⟨X, n, none⟩ = some (.slice (some ⟨G n, 0, none⟩) (L n) (C n)) := ⟨(World.cell?_setCell_other _ _ _ _ (fun e => g1 (by injection e with e1; exact e1.symm))).trans hH4.1, (World.cell?_setCell_other _ _ _ _ (fun e => g2 (by injection e with e1; exact e1.symm))).trans hH4.2⟩
              have HS5 := hid hS5
              have hc5 := hcz.1
              have hf5 := hcz.2
              clear hTu hS5 hcz hcw hcv
              generalize Lib.bytesWorld w3 5 s = W4 at *
              generalize grownCap w3 s.size 0 5 = cc at *
              generalize w3.heap.size = q3 at *
              refine take_at (i := 12) (oi := { dst := some 47, op := Go.Op.indexAddr 24 (Go.Operand.tmp 41) (Go.Operand.tmp 42), type := 0, pos := "bag.go:841", after := #[{ on := 6, ground := Go.Ground.data }, { on := 7, ground := Go.Ground.data }, { on := 0, ground := Go.Ground.phase }, { on := 1, ground := Go.Ground.phase }, { on := 2, ground := Go.Ground.phase }, { on := 3, ground := Go.Ground.phase }, { on := 4, ground := Go.Ground.phase }, { on := 5, ground := Go.Ground.phase }, { on := 6, ground := Go.Ground.phase }, { on := 7, ground := Go.Ground.phase }, { on := 8, ground := Go.Ground.phase }, { on := 9, ground := Go.Ground.phase }, { on := 10, ground := Go.Ground.phase }, { on := 11, ground := Go.Ground.phase }], guard := none }) (d := some 47) (v := ?_) (by kernel_rfl) (by kernel_rfl) (by kernel_rfl) (by kernel_rfl) (by kernel_rfl) (fun _ _ _ h => h) (Or.inl ⟨by kernel_rfl, ?_⟩) (by assumption) ?_
              rotate_left 1
              · (intro w hSw; (try dsimp only at hSw); go_simp; try with_reducible rfl)
              try simp only [Act.put, List.setIfInBounds_toArray, List.set_cons_zero, List.set_cons_succ]
              refine wpAnyH_ready (rs := [13]) (by kernel_rfl) (by simp) ?_
              refine ready_at (o := { dst := none, op := Go.Op.store 31 (Go.Operand.tmp 47) (Go.Operand.tmp 46), type := 0, pos := "bag.go:841", after := #[{ on := 12, ground := Go.Ground.data }, { on := 11, ground := Go.Ground.data }, { on := 10, ground := Go.Ground.chain }, { on := 0, ground := Go.Ground.phase }, { on := 1, ground := Go.Ground.phase }, { on := 2, ground := Go.Ground.phase }, { on := 3, ground := Go.Ground.phase }, { on := 4, ground := Go.Ground.phase }, { on := 5, ground := Go.Ground.phase }, { on := 6, ground := Go.Ground.phase }, { on := 7, ground := Go.Ground.phase }, { on := 8, ground := Go.Ground.phase }, { on := 9, ground := Go.Ground.phase }, { on := 10, ground := Go.Ground.phase }, { on := 11, ground := Go.Ground.phase }], guard := none }) (by kernel_rfl) (by kernel_rfl) (fun K hK => ?_) ?_
              · go_simp
                refine hK.out _ _ HS5.out (fun _ => ?_)
                clear hK K
                refine wpAnyH_done (by kernel_rfl) ?_ _
                obtain ⟨mk2, p1, p2, p3⟩ := P.out
                generalize W4.setCell ⟨G n, k, none⟩ (.slice (some ⟨q3, 0, none⟩) s.size cc) = W5 at *
                go_wp2_with fail
                exact ⟨⟨k + 1, by omega, by go_num, mk2, p1, p2, p3⟩, by simp [intOf]; omega⟩
              exact AllReadyH.nil
            exact AllReadyH.nil
          exact AllReadyH.nil
        · have hkk : k = L n := by omega
          subst hkk
          have D := hid (show Ma 31 mk w m N G L C wr (n + 1) from ⟨hma.kept, hma.rows, fun j hj i hi => by
            by_cases e : j = n
            · subst e; exact hdn i hi
            · exact hma.done j (by omega) i hi⟩)
          have HTM := hid htm
          clear hma hdn htm
          go_wp2_with fail
          exact ⟨⟨n + 1, by omega, by go_num, mk, D.out, fun j i h => HTM.out j i (by
            have h1 := h.1
            rcases Nat.lt_or_ge j n with e | e
            · exact .inl ⟨e, h.2⟩
            · obtain rfl : j = n := by omega
              exact .inr ⟨rfl, h.2⟩)⟩, by simp [intOf]; omega⟩
    · have hnm : m = n := by omega
      subst hnm
      obtain ⟨f0, hst0⟩ := hma.state 24 HI.out
      have HS0 := hid hst0
      have HTM0 := hid htm
      obtain ⟨i5, q0, q1, q2, q3⟩ := info_parts Tryd.inlBytes
      obtain ⟨i24, p0, p1, p2, p3⟩ := info_parts Tryd.inlPages
      have hes : (24 : TypeId) ≠ 31 := by decide
      have h41 : (31 : TypeId) ≠ 5 := by decide
      have h22 : (24 : TypeId) ≠ 5 := by decide
      clear hma hst0 htm
      go_wp2_with fail
      clear c0
      go_loopw [5, 6, 7] (fun one more i wr => ∃ (n : Nat) (f : Nat → Nat) (ovs mvs : List Value), n ≤ m ∧ i = .int .i64 n ∧ ∃ mk, St 31 24 mk w m N G L C wr f n n one more ovs mvs ∧ Tms wr (fun j i => (j < m ∧ i < L j) ∨ (j < n ∧ i < L j + 70)) mk) (fun _ _ i _ => m - (intOf i).toNat)
      case atStart => exact ⟨0, f0, [], [], by omega, rfl, mk, HS0.out, fun j i h => HTM0.out j i (h.elim id (fun h => absurd h.1 (by omega)))⟩
      case round =>
        obtain ⟨n, f, ovs, mvs, hnm, rfl, mk, hst, htm⟩ := hrel
        have c0 : wr.cell? ⟨GB, 15, none⟩ = some (.slice (some ⟨X, 0, none⟩) m cx) := hst.kept.cell HG.out NGB.out
        by_cases hlt2 : n < m
        · have hLn := HL.out n hlt2
          have c1 : wr.cell? ⟨X, n, none⟩ = some (.slice (A n) (L n) (C n)) := hst.kept.cell (HX.out n hlt2) NX.out
          have HST := hid hst
          have HTM := hid htm
          clear hst HS0 htm
          go_wp2_with fail
          clear c0 c1
          go_loopw [5, 8, 9] (fun one l i wr => ∃ (k n1 : Nat) (f : Nat → Nat) (ovs : List Value), L n ≤ k ∧ k ≤ L n + 70 ∧ i = .int .i64 k ∧ ∃ mk, Lst 31 mk w N G wr f n k l ∧ ((k = L n ∧ n1 = n) ∨ (L n + 1 ≤ k ∧ n1 = n + 1)) ∧ St 31 24 mk w m N G L C wr f n1 n one u6 ovs mvs ∧ Tms wr (fun j i => (j < m ∧ i < L j) ∨ (j < n ∧ i < L j + 70) ∨ (j = n ∧ i < k)) mk) (fun _ _ i _ => L n + 70 - (intOf i).toNat)
          case atStart =>
            refine ⟨L n, n, f, ovs, by omega, by omega, rfl, mk, ?_, .inl ⟨rfl, rfl⟩, HST.out, fun j i h => HTM.out j i (h.elim .inl (fun h => h.elim .inr (fun h => .inl (by obtain ⟨rfl, h2⟩ := h; exact ⟨hlt2, h2⟩))))⟩
            rcases HSN.out n hlt2 with ⟨hNn, hAn⟩ | ⟨hAn, h0, h1⟩
            · exact .inr ⟨G n, C n, by rw [hAn], HST.out.own n hlt2 hNn, .inl ⟨hNn, rfl⟩⟩
            · exact .inl ⟨by rw [hAn, h0, h1], h0⟩
          case round =>
            obtain ⟨k, n1, f, ovs, hk0, hk1, rfl, mk, hlst, hn1, hst, htm⟩ := hrel
            obtain ⟨la, lc, rfl⟩ := hlst.slice
            have c0 : wr.cell? ⟨GB, 15, none⟩ = some (.slice (some ⟨X, 0, none⟩) m cx) := hst.kept.cell HG.out NGB.out
            have c1 : wr.cell? ⟨X, n, none⟩ = some (.slice (A n) (L n) (C n)) := hst.kept.cell (HX.out n hlt2) NX.out
            by_cases hk : k < L n + 70
            · have hn3 : n ≤ 300 := by omega
              have hk3 : k ≤ 8388608 := by omega
              have HTX := hid (textC B0 n k wr (by omega) (by omega) (HTK.out wr hst.kept))
              obtain ⟨s, hs⟩ : ∃ s, s = txt n k := ⟨_, rfl⟩
              rw [← hs] at HTX
              have HS := hid hs
              have HST2 := hid hst
              have HLS := hid hlst
              have HN1 := hid hn1
              have HTM2 := hid htm
              have hb1 : k + 1 ≤ maxLen := by unfold maxLen; omega
              have hb2 : (k + 1) * 24 ≤ 140737488355328 := by omega
              have hb3 : n + 1 ≤ maxLen := by unfold maxLen; omega
              have hb4 : (n + 1) * 24 ≤ 140737488355328 := by omega
              have hc01 : wr.cell? ⟨GB, 15, none⟩ = some (.slice (some ⟨X, 0, none⟩) m cx) ∧ wr.cell? ⟨X, n, none⟩ = some (.slice (A n) (L n) (C n)) := ⟨c0, c1⟩
              clear hst hlst hn1 htm hs HTM HST HTM0
              go_wp2_with fail
              refine HTX.out.mono ?_
              rintro e w2 ⟨rfl, hb⟩
              have hcw := conv_in s w2
              have hB4 : Below wr.heap.size wr (Lib.bytesWorld w2 5 s) := hb.trans ((conv_below s w2).mono hb.size)
              have hK4 := kept_below hB4
              have hTu : Tm (Lib.bytesWorld w2 5 s) 0 n k (.slice (some ⟨w2.heap.size, 0, none⟩) s.size (grownCap w2 s.size 0 5)) := by rw [HS.out]; exact tm_made w2 0 n k (Nat.zero_le _)
              have c0 := hK4.cell hc01.1 (fun x => x)
              have c1 := hK4.cell hc01.2 (fun x => x)
              have PB := hid (app_pre HST2.out HLS.out HTM2.out hK4 hTu hk0 HN1.out)
              clear hb hB4 hK4 hTu hc01
              generalize hW4 : Lib.bytesWorld w2 5 s = W4 at *
              generalize grownCap w2 s.size 0 5 = cc at *
              generalize hz3 : w2.heap.size = z3 at *
              obtain ⟨mk2, hst, hlst, htm, hmk⟩ := PB.out
              have hown : (W4.alloc (.cells #[.slice (some ⟨z3, 0, none⟩) s.size cc] 31)).ownsRow 0 31 1 (.slice la k lc) k (ml mk2 n k) := (hlst.kept (Kept.alloc (fun _ => False) W4 _)).own
              have HOW := hid hown
              have HST3 := hid hst
              have HLS3 := hid hlst
              have HTM3 := hid htm
              have HMK2 := hid hmk
              clear hown hst hlst htm PB hmk hz3 HST2 HLS HTM2
              by_cases hke : k = L n
              · have hkb : ((k : Int) == (L n : Int)) = true := by simp [hke]
                have hn1' : n1 = n := by have := HN1.out; omega
                subst hn1'
                have KE := hid hke
                clear hke
                go_wp2_with (first
                  | (at_builtin; refine app_cell _ rfl (.tmp 79) (.tmp 84) 24 rfl 31 i5 (.slice none 0 0) 24 Tryd.underlying24 q0 q1 q2 q3 rfl _ k _ rfl HOW.out ⟨W4.heap.size, 0, none⟩ (.slice (some ⟨z3, 0, none⟩) s.size cc) rfl (by simp [Addr.add]) rfl hb1 hb2 ?_; intro B cap' w3 hrow hcase; rw [← HMK2.out] at hrow; obtain ⟨f', hs2, ht2, hg2⟩ := stepL hes HST3.out HLS3.out hlt2 _ hrow hcase hk0 (.inl ⟨KE.out, rfl⟩) (Nat.le_refl _); have M2 := hid (show Tms w3 _ mk2 from fun j i h => tm_app h41 HOW.out hcase ((HTM3.out j i h).keep (Kept.alloc _ _ _))); have c0' := hs2.kept.cell HG.out NGB.out; have c1' := hs2.kept.cell (HX.out n1 hlt2) NX.out; have S2 := hid hs2; have T2 := hid ht2; have G2 := hid hg2; clear hs2 ht2 hg2 hrow hcase)
                  | (at_builtin; refine app_cell _ rfl (.tmp 96) (.tmp 98) 50 rfl 24 i24 (.slice none 0 0) 24 Tryd.underlying50 p0 p1 p2 p3 rfl _ n1 _ rfl (by exact (S2.out.alloc _).ownOne) ⟨w3.heap.size, 0, none⟩ (.slice (some ⟨B, 0, none⟩) (k + 1) cap') rfl (by simp [Addr.add]) rfl hb3 hb4 ?_; intro B2 cap2 w4 hrow2 hcase2; have M3 := hid (show Tms w4 _ mk2 from fun j i h => tm_app h22 (S2.out.alloc _).ownOne hcase2 ((M2.out j i h).keep (Kept.alloc _ _ _))); obtain ⟨hs3, ht3⟩ := stepO hes S2.out (by rw [KE.out]) T2.out _ hrow2 hcase2; have S3 := hid hs3; have T3 := hid ht3; clear hs3 ht3 hrow2 hcase2))
                have hk2 := KE.out
                refine ⟨⟨k + 1, n1 + 1, f', _, by omega, by omega, by go_num, mk2, .inr ⟨B, cap', rfl, T3.out, G2.out⟩, .inr ⟨by omega, rfl⟩, S3.out, M3.out⟩, by simp [intOf]; omega⟩
              · have hkb : ((k : Int) == (L n : Int)) = false := by simp; omega
                have hn1' : n1 = n + 1 := by have := HN1.out; omega
                subst hn1'
                clear hke
                go_wp2_with (first
                  | (at_builtin; refine app_cell _ rfl (.tmp 79) (.tmp 84) 24 rfl 31 i5 (.slice none 0 0) 24 Tryd.underlying24 q0 q1 q2 q3 rfl _ k _ rfl HOW.out ⟨W4.heap.size, 0, none⟩ (.slice (some ⟨z3, 0, none⟩) s.size cc) rfl (by simp [Addr.add]) rfl hb1 hb2 ?_; intro B cap' w3 hrow hcase; rw [← HMK2.out] at hrow; obtain ⟨f', hs2, ht2, hg2⟩ := stepL hes HST3.out HLS3.out hlt2 _ hrow hcase hk0 (.inr ⟨by have := HN1.out; omega, rfl⟩) (Nat.le_refl _); have M2 := hid (show Tms w3 _ mk2 from fun j i h => tm_app h41 HOW.out hcase ((HTM3.out j i h).keep (Kept.alloc _ _ _))); have c0' := hs2.kept.cell HG.out NGB.out; have c1' := hs2.kept.cell (HX.out n hlt2) NX.out; have S2 := hid hs2; have T2 := hid ht2; have G2 := hid hg2; clear hs2 ht2 hg2 hrow hcase))
                refine ⟨⟨k + 1, n + 1, f', _, by omega, by omega, by go_num, mk2, .inr ⟨B, cap', rfl, T2.out, G2.out⟩, .inr ⟨by have := HN1.out; omega, rfl⟩, S2.out, M2.out⟩, by simp [intOf]; omega⟩
            · obtain rfl : k = L n + 70 := by omega
              have hn1' : n1 = n + 1 := by omega
              subst hn1'
              have hb3 : n + 1 ≤ maxLen := by unfold maxLen; omega
              have hb4 : (n + 1) * 24 ≤ 140737488355328 := by omega
              rcases hlst with ⟨_, h0⟩ | ⟨g, cap, hv, htr, _⟩
              · omega
              simp only [Value.slice.injEq, true_and] at hv
              obtain ⟨rfl, rfl⟩ := hv
              have HST2 := hid hst
              have HTR := hid htr
              have HTM2 := hid htm
              clear hst htr hn1 htm HTM HST HTM0
              go_wp2_with (first
                  | (at_builtin; refine app_cell _ rfl (.tmp 100) (.tmp 102) 50 rfl 24 i24 (.slice none 0 0) 24 Tryd.underlying50 p0 p1 p2 p3 rfl _ n _ rfl (by exact (HST2.out.alloc _).ownMore) ⟨wr.heap.size, 0, none⟩ (.slice (some ⟨g, 0, none⟩) (L n + 70) lc) rfl (by simp [Addr.add]) rfl hb3 hb4 ?_; intro B2 cap2 w3 hrow2 hcase2; have M3 := hid (show Tms w3 _ mk from fun j i h => tm_app h22 (HST2.out.alloc _).ownMore hcase2 ((HTM2.out j i h).keep (Kept.alloc _ _ _))); have S3 := hid (stepM hes HST2.out rfl HTR.out _ hrow2 hcase2); clear hrow2 hcase2))
              refine ⟨⟨n + 1, _, _, _, by omega, by go_num, mk, S3.out, fun j i h => M3.out j i (h.elim .inl (fun h => .inr (by
                have h1 := h.1
                rcases Nat.lt_or_ge j n with e | e
                · exact .inl ⟨e, h.2⟩
                · obtain rfl : j = n := by omega
                  exact .inr ⟨rfl, h.2⟩)))⟩, by simp [intOf]; omega⟩
        · have hnm2 : m = n := by omega
          subst hnm2
          obtain ⟨oa, oc, e5, h5⟩ := own_sliceM hst.ownOne
          obtain ⟨ma, mc, e6, h6⟩ := own_sliceM hst.ownMore
          subst e5
          subst e6
          have HST := hid hst
          have HTM := hid htm
          have H5 := hid h5
          have H6 := hid h6
          have HC0 := hid c0
          clear hst HS0 h5 h6 htm HTM0
          go_wp2_with fail
          clear c0
          generalize wr = wa at *
          have hBa : B0 ≤ wa.heap.size := Nat.le_trans hB1 HST.out.kept.size
          have HTA := hid (HTK.out wa HST.out.kept)
          go_loopw [10] (fun i wr => ∃ n : Nat, n ≤ m ∧ i = .int .i64 n ∧ Hid (Below wa.heap.size wa wr)) (fun i _ => m - (intOf i).toNat)
          case atStart => exact ⟨0, by omega, rfl, hid (Below.refl _ _)⟩
          case round =>
            obtain ⟨n, hnm3, rfl, HB⟩ := hrel
            by_cases hlt3 : n < m
            · have hLn := HL.out n hlt3
              obtain ⟨OB, rfl, ho1⟩ : ∃ B, oa = some ⟨B, 0, none⟩ ∧ ∀ j, j < m → wa.cell? ⟨B, j, none⟩ = ovs[j]? := by
                rcases H5.out with h | h
                · omega
                · exact h
              obtain ⟨MB, rfl, hm1⟩ : ∃ B, ma = some ⟨B, 0, none⟩ ∧ ∀ j, j < m → wa.cell? ⟨B, j, none⟩ = mvs[j]? := by
                rcases H6.out with h | h
                · omega
                · exact h
              obtain ⟨B1, b1c, hb1, ht1⟩ := HST.out.ones n hlt3
              obtain ⟨B2, b2c, hb2, ht2⟩ := HST.out.mores n hlt3
              have CO := hid (show wa.cell? ⟨OB, n, none⟩ = some (.slice (some ⟨B1, 0, none⟩) (L n + 1) b1c) from (ho1 n hlt3).trans hb1)
              have CM := hid (show wa.cell? ⟨MB, n, none⟩ = some (.slice (some ⟨B2, 0, none⟩) (L n + 70) b2c) from (hm1 n hlt3).trans hb2)
              have C1 := hid (show wa.cell? ⟨X, n, none⟩ = some (.slice (A n) (L n) (C n)) from HST.out.kept.cell (HX.out n hlt3) NX.out)
              have T0 := hid (fun hN => HST.out.own n hlt3 hN)
              have T1 := hid ht1
              have T2 := hid ht2
              clear ho1 hm1 hb1 hb2 ht1 ht2 H5 H6 HST
              have cm := later_cell HB.out CM.out
              go_wp2_with fail
              clear cm
              generalize wr = wb at *
              go_loopw [11] (fun i wr => ∃ k : Nat, k ≤ L n + 70 ∧ i = .int .i64 k ∧ Hid (Below wa.heap.size wa wr)) (fun i _ => L n + 70 - (intOf i).toNat)
              case atStart => exact ⟨0, by omega, rfl, HB⟩
              case round =>
                clear HB
                obtain ⟨k, hk, rfl, HB⟩ := hrel
                have c0 := later_cell HB.out HC0.out
                have c1 := later_cell HB.out C1.out
                have co := later_cell HB.out CO.out
                have cm := later_cell HB.out CM.out
                by_cases hlt4 : k < L n + 70
                · obtain ⟨q, c, hmk, _, hq, hby, _⟩ := HTM.out n k (.inr ⟨hlt3, hlt4⟩)
                  have hn3 : n ≤ 300 := by omega
                  have hk3 : k ≤ 8388608 := by omega
                  have HTX := hid (fun (W : World) (hb : Below wa.heap.size wa W) => textC B0 n k W (by omega) (by omega) (HTA.out.later (hb.mono hBa)))
                  obtain ⟨s, hs⟩ : ∃ s, s = txt n k := ⟨_, rfl⟩
                  rw [← hs] at HTX hmk hby
                  have HCV := hid (fun (W : World) (hb : Below wa.heap.size wa W) => (Lib.run_convert_whole _ 31 5 9 Tryd.underlying31 Tryd.underlying5 Tryd.underlying9 q 0 s (bytes_keep hby (kept_below hb) (fun x => x)) c : (convert 31 9 (.slice (some ⟨q, 0, none⟩) s.size c)).run Tryd.prog W = .ok (.string s) W))
                  have X2 := hid (show wa.cell? ⟨B2, k, none⟩ = some (.slice (some ⟨q, 0, none⟩) s.size c) from (T2.out.cell k hlt4).trans (by rw [hmk]))
                  have x2 := later_cell HB.out X2.out
                  have hss : (s.toList == s.toList) = true := by simp
                  clear hs hby hq
                  by_cases hka : k < L n
                  · obtain ⟨hNn, hAn⟩ := HN.out n hlt3 (by omega)
                    rw [hAn] at c1
                    have x0 : wr.cell? ⟨G n, k, none⟩ = some (.slice (some ⟨q, 0, none⟩) s.size c) := later_cell HB.out (((T0.out hNn).cell k hka).trans (by rw [hmk]))
                    have hkb : ((k : Int) == (L n : Int)) = false := by simp; omega
                    clear hmk
                    clear hk
                    go_wp2_with fail
                    have hdr : Below wa.heap.size wa wr.drew := HB.out.trans ((below_drewN wr 1).mono HB.out.size)
                    refine wp_region_held_drew (S := fun W => Below wa.heap.size wa W) (by kernel_rfl) hdr (fun hHeld => ?_)
                    generalize wr.drew = WD at *
                    refine take_at (i := 0) (oi := { dst := some 163, op := Go.Op.move (Go.Operand.tmp 12), type := 31, pos := "bag.go:864", after := #[], guard := none }) (d := some 163) (v := ?_) (by kernel_rfl) (by kernel_rfl) (by kernel_rfl) (by kernel_rfl) (by kernel_rfl) (fun _ _ _ h => h) (Or.inl ⟨by kernel_rfl, ?_⟩) (by assumption) ?_
                    rotate_left 1
                    · (intro w hSw; (try dsimp only at hSw); go_simp; try with_reducible rfl)
                    try simp only [Act.put, List.setIfInBounds_toArray, List.set_cons_zero, List.set_cons_succ]
                    refine take_at (i := 1) (oi := { dst := some 164, op := Go.Op.convert 31 9 (Go.Operand.tmp 163), type := 9, pos := "bag.go:864", after := #[{ on := 0, ground := Go.Ground.data }], guard := none }) (d := some 164) (v := .string s) (by kernel_rfl) (by kernel_rfl) (by kernel_rfl) (by kernel_rfl) (by kernel_rfl) (fun _ _ _ h => h) (Or.inl ⟨by kernel_rfl, ?_⟩) (by assumption) ?_
                    · (intro w hSw; have hcq := HCV.out w hSw; go_simp; try with_reducible rfl)
                    try simp only [Act.put, List.setIfInBounds_toArray, List.set_cons_zero, List.set_cons_succ]
                    refine take_at (i := 2) (oi := { dst := some 165, op := Go.Op.move (Go.Operand.tmp 10), type := 3, pos := "bag.go:864", after := #[], guard := none }) (d := some 165) (v := ?_) (by kernel_rfl) (by kernel_rfl) (by kernel_rfl) (by kernel_rfl) (by kernel_rfl) (fun _ _ _ h => h) (Or.inl ⟨by kernel_rfl, ?_⟩) (by assumption) ?_
                    rotate_left 1
                    · (intro w hSw; (try dsimp only at hSw); go_simp; try with_reducible rfl)
                    try simp only [Act.put, List.setIfInBounds_toArray, List.set_cons_zero, List.set_cons_succ]
                    refine take_at (i := 3) (oi := { dst := some 166, op := Go.Op.move (Go.Operand.tmp 11), type := 3, pos := "bag.go:864", after := #[], guard := none }) (d := some 166) (v := ?_) (by kernel_rfl) (by kernel_rfl) (by kernel_rfl) (by kernel_rfl) (by kernel_rfl) (fun _ _ _ h => h) (Or.inl ⟨by kernel_rfl, ?_⟩) (by assumption) ?_
                    rotate_left 1
                    · (intro w hSw; (try dsimp only at hSw); go_simp; try with_reducible rfl)
                    try simp only [Act.put, List.setIfInBounds_toArray, List.set_cons_zero, List.set_cons_succ]
                    refine wpAnyH_ready (rs := [4]) (by kernel_rfl) (by simp) ?_
                    refine ready_at (o := { dst := some 167, op := Go.Op.call { callee := Go.Callee.value (Go.Operand.func 66), args := #[Go.Operand.tmp 165, Go.Operand.tmp 166], argTypes := #[3, 3] }, type := 9, pos := "bag.go:864", after := #[{ on := 2, ground := Go.Ground.data }, { on := 3, ground := Go.Ground.data }], guard := none }) (by kernel_rfl) (by kernel_rfl) (fun K hK => ?_) ?_
                    · go_simp
                      refine (HTX.out WD hdr).mono ?_
                      rintro e w2 ⟨rfl, hb3⟩
                      have hw2 : Below wa.heap.size wa w2 := hdr.trans (hb3.mono hdr.size)
                      refine hK.out _ _ hw2 (fun _ => ?_)
                      clear hK K hb3 hdr hHeld
                      refine take_at (i := 5) (oi := { dst := some 168, op := Go.Op.binOp Go.BinOp.eql 9 (Go.Operand.tmp 164) (Go.Operand.tmp 167) 9, type := 4, pos := "bag.go:864", after := #[{ on := 1, ground := Go.Ground.data }, { on := 4, ground := Go.Ground.data }], guard := none }) (d := some 168) (v := ?_) (by kernel_rfl) (by kernel_rfl) (by kernel_rfl) (by kernel_rfl) (by kernel_rfl) (fun _ _ _ h => h) (Or.inl ⟨by kernel_rfl, ?_⟩) (by assumption) ?_
                      rotate_left 1
                      · (intro w hSw; (try dsimp only at hSw); go_simp; try with_reducible rfl)
                      try simp only [Act.put, List.setIfInBounds_toArray, List.set_cons_zero, List.set_cons_succ]
                      refine take_at (i := 6) (oi := { dst := some 13, op := Go.Op.assign (Go.Operand.tmp 168), type := 4, pos := "bag.go:864", after := #[{ on := 5, ground := Go.Ground.data }, { on := 4, ground := Go.Ground.chain }, { on := 0, ground := Go.Ground.phase }, { on := 1, ground := Go.Ground.phase }, { on := 2, ground := Go.Ground.phase }, { on := 3, ground := Go.Ground.phase }, { on := 4, ground := Go.Ground.phase }, { on := 5, ground := Go.Ground.phase }], guard := none }) (d := some 13) (v := ?_) (by kernel_rfl) (by kernel_rfl) (by kernel_rfl) (by kernel_rfl) (by kernel_rfl) (fun _ _ _ h => h) (Or.inl ⟨by kernel_rfl, ?_⟩) (by assumption) ?_
                      rotate_left 1
                      · (intro w hSw; (try dsimp only at hSw); go_simp; try with_reducible rfl)
                      try simp only [Act.put, List.setIfInBounds_toArray, List.set_cons_zero, List.set_cons_succ]
                      refine wpAnyH_done (by kernel_rfl) ?_ _
                      have HB2 := hid hw2
                      have cm2 := later_cell hw2 CM.out
                      have x22 := later_cell hw2 X2.out
                      clear hw2 c0 c1 co cm x2
                      go_wp2_with fail
                      have hdr : Below wa.heap.size wa w2.drew := HB2.out.trans ((below_drewN w2 1).mono HB2.out.size)
                      refine wp_region_held_drew (S := fun W => Below wa.heap.size wa W) (by kernel_rfl) hdr (fun hHeld => ?_)
                      generalize w2.drew = WD at *
                      refine take_at (i := 0) (oi := { dst := some 176, op := Go.Op.move (Go.Operand.tmp 13), type := 4, pos := "bag.go:866", after := #[], guard := none }) (d := some 176) (v := ?_) (by kernel_rfl) (by kernel_rfl) (by kernel_rfl) (by kernel_rfl) (by kernel_rfl) (fun _ _ _ h => h) (Or.inl ⟨by kernel_rfl, ?_⟩) (by assumption) ?_
                      rotate_left 1
                      · (intro w hSw; (try dsimp only at hSw); go_simp; try with_reducible rfl)
                      try simp only [Act.put, List.setIfInBounds_toArray, List.set_cons_zero, List.set_cons_succ]
                      refine take_at (i := 1) (oi := { dst := some 177, op := Go.Op.unOp Go.UnOp.not 4 (Go.Operand.tmp 176), type := 4, pos := "bag.go:866", after := #[{ on := 0, ground := Go.Ground.data }], guard := none }) (d := some 177) (v := ?_) (by kernel_rfl) (by kernel_rfl) (by kernel_rfl) (by kernel_rfl) (by kernel_rfl) (fun _ _ _ h => h) (Or.inl ⟨by kernel_rfl, ?_⟩) (by assumption) ?_
                      rotate_left 1
                      · (intro w hSw; (try dsimp only at hSw); go_simp; try with_reducible rfl)
                      try simp only [Act.put, List.setIfInBounds_toArray, List.set_cons_zero, List.set_cons_succ]
                      refine take_at (i := 2) (oi := { dst := some 178, op := Go.Op.move (Go.Operand.tmp 177), type := 4, pos := "bag.go:866", after := #[{ on := 1, ground := Go.Ground.data }], guard := none }) (d := some 178) (v := ?_) (by kernel_rfl) (by kernel_rfl) (by kernel_rfl) (by kernel_rfl) (by kernel_rfl) (fun _ _ _ h => h) (Or.inl ⟨by kernel_rfl, ?_⟩) (by assumption) ?_
                      rotate_left 1
                      · (intro w hSw; (try dsimp only at hSw); go_simp; try with_reducible rfl)
                      try simp only [Act.put, List.setIfInBounds_toArray, List.set_cons_zero, List.set_cons_succ]
                      refine take_at (i := 3) (oi := { dst := some 179, op := Go.Op.move (Go.Operand.tmp 12), type := 31, pos := "bag.go:866", after := #[{ on := 2, ground := Go.Ground.guard }], guard := some (2, false) }) (d := some 179) (v := ?_) (by kernel_rfl) (by kernel_rfl) (by kernel_rfl) (by kernel_rfl) (by kernel_rfl) (fun _ _ _ h => h) (Or.inl ⟨by kernel_rfl, ?_⟩) (by assumption) ?_
                      rotate_left 1
                      · (intro w hSw; (try dsimp only at hSw); go_simp; try with_reducible rfl)
                      try simp only [Act.put, List.setIfInBounds_toArray, List.set_cons_zero, List.set_cons_succ]
                      refine take_at (i := 4) (oi := { dst := some 180, op := Go.Op.convert 31 9 (Go.Operand.tmp 179), type := 9, pos := "bag.go:866", after := #[{ on := 3, ground := Go.Ground.data }, { on := 2, ground := Go.Ground.guard }], guard := some (2, false) }) (d := some 180) (v := .string s) (by kernel_rfl) (by kernel_rfl) (by kernel_rfl) (by kernel_rfl) (by kernel_rfl) (fun _ _ _ h => h) (Or.inl ⟨by kernel_rfl, ?_⟩) (by assumption) ?_
                      · (intro w hSw; have hcq := HCV.out w hSw; go_simp; try with_reducible rfl)
                      try simp only [Act.put, List.setIfInBounds_toArray, List.set_cons_zero, List.set_cons_succ]
                      refine take_at (i := 5) (oi := { dst := some 181, op := Go.Op.move (Go.Operand.tmp 10), type := 3, pos := "bag.go:866", after := #[{ on := 2, ground := Go.Ground.guard }], guard := some (2, false) }) (d := some 181) (v := ?_) (by kernel_rfl) (by kernel_rfl) (by kernel_rfl) (by kernel_rfl) (by kernel_rfl) (fun _ _ _ h => h) (Or.inl ⟨by kernel_rfl, ?_⟩) (by assumption) ?_
                      rotate_left 1
                      · (intro w hSw; (try dsimp only at hSw); go_simp; try with_reducible rfl)
                      try simp only [Act.put, List.setIfInBounds_toArray, List.set_cons_zero, List.set_cons_succ]
                      refine take_at (i := 6) (oi := { dst := some 182, op := Go.Op.move (Go.Operand.tmp 11), type := 3, pos := "bag.go:866", after := #[{ on := 2, ground := Go.Ground.guard }], guard := some (2, false) }) (d := some 182) (v := ?_) (by kernel_rfl) (by kernel_rfl) (by kernel_rfl) (by kernel_rfl) (by kernel_rfl) (fun _ _ _ h => h) (Or.inl ⟨by kernel_rfl, ?_⟩) (by assumption) ?_
                      rotate_left 1
                      · (intro w hSw; (try dsimp only at hSw); go_simp; try with_reducible rfl)
                      try simp only [Act.put, List.setIfInBounds_toArray, List.set_cons_zero, List.set_cons_succ]
                      refine wpAnyH_ready (rs := [7]) (by kernel_rfl) (by simp) ?_
                      refine ready_at (o := { dst := some 183, op := Go.Op.call { callee := Go.Callee.value (Go.Operand.func 66), args := #[Go.Operand.tmp 181, Go.Operand.tmp 182], argTypes := #[3, 3] }, type := 9, pos := "bag.go:866", after := #[{ on := 5, ground := Go.Ground.data }, { on := 6, ground := Go.Ground.data }, { on := 2, ground := Go.Ground.chain }, { on := 2, ground := Go.Ground.guard }], guard := some (2, false) }) (by kernel_rfl) (by kernel_rfl) (fun K hK => ?_) ?_
                      · go_simp
                        refine (HTX.out WD hdr).mono ?_
                        rintro e w5 ⟨rfl, hb3⟩
                        have hw5 : Below wa.heap.size wa w5 := hdr.trans (hb3.mono hdr.size)
                        refine hK.out _ _ hw5 (fun _ => ?_)
                        clear hK K hb3 hdr hHeld
                        refine take_at (i := 8) (oi := { dst := some 184, op := Go.Op.binOp Go.BinOp.eql 9 (Go.Operand.tmp 180) (Go.Operand.tmp 183) 9, type := 4, pos := "bag.go:866", after := #[{ on := 4, ground := Go.Ground.data }, { on := 7, ground := Go.Ground.data }, { on := 2, ground := Go.Ground.guard }], guard := some (2, false) }) (d := some 184) (v := ?_) (by kernel_rfl) (by kernel_rfl) (by kernel_rfl) (by kernel_rfl) (by kernel_rfl) (fun _ _ _ h => h) (Or.inl ⟨by kernel_rfl, ?_⟩) (by assumption) ?_
                        rotate_left 1
                        · (intro w hSw; (try dsimp only at hSw); go_simp; try with_reducible rfl)
                        try simp only [Act.put, List.setIfInBounds_toArray, List.set_cons_zero, List.set_cons_succ]
                        refine take_at (i := 9) (oi := { dst := some 185, op := Go.Op.unOp Go.UnOp.not 4 (Go.Operand.tmp 184), type := 4, pos := "bag.go:866", after := #[{ on := 8, ground := Go.Ground.data }, { on := 2, ground := Go.Ground.guard }], guard := some (2, false) }) (d := some 185) (v := ?_) (by kernel_rfl) (by kernel_rfl) (by kernel_rfl) (by kernel_rfl) (by kernel_rfl) (fun _ _ _ h => h) (Or.inl ⟨by kernel_rfl, ?_⟩) (by assumption) ?_
                        rotate_left 1
                        · (intro w hSw; (try dsimp only at hSw); go_simp; try with_reducible rfl)
                        try simp only [Act.put, List.setIfInBounds_toArray, List.set_cons_zero, List.set_cons_succ]
                        refine take_at (i := 10) (oi := { dst := some 186, op := Go.Op.pick (Go.Operand.tmp 178) (Go.Operand.const (Go.Value.bool true)) (Go.Operand.tmp 185), type := 4, pos := "bag.go:866", after := #[{ on := 2, ground := Go.Ground.data }, { on := 9, ground := Go.Ground.data }], guard := none }) (d := some 186) (v := ?_) (by kernel_rfl) (by kernel_rfl) (by kernel_rfl) (by kernel_rfl) (by kernel_rfl) (fun _ _ _ h => h) (Or.inl ⟨by kernel_rfl, ?_⟩) (by assumption) ?_
                        rotate_left 1
                        · (intro w hSw; (try dsimp only at hSw); go_simp; try with_reducible rfl)
                        try simp only [Act.put, List.setIfInBounds_toArray, List.set_cons_zero, List.set_cons_succ]
                        refine wpAnyH_done (by kernel_rfl) ?_ _
                        have HB5 := hid hw5
                        clear hw5
                        go_wp2_with fail
                        exact ⟨⟨k + 1, by omega, by go_num, HB5⟩, by simp [intOf]; omega⟩
                      exact AllReadyH.nil
                    exact AllReadyH.nil
                  · by_cases hke : k = L n
                    · have x1 : wr.cell? ⟨B1, k, none⟩ = some (.slice (some ⟨q, 0, none⟩) s.size c) := later_cell HB.out ((T1.out.cell k (by omega)).trans (by rw [hmk]))
                      have hkb : ((k : Int) == (L n : Int)) = true := by simp [hke]
                      have hkl : k < L n + 1 := by omega
                      clear hke hmk
                      clear hk
                      go_wp2_with fail
                      have hdr : Below wa.heap.size wa wr.drew := HB.out.trans ((below_drewN wr 1).mono HB.out.size)
                      refine wp_region_held_drew (S := fun W => Below wa.heap.size wa W) (by kernel_rfl) hdr (fun hHeld => ?_)
                      generalize wr.drew = WD at *
                      refine take_at (i := 0) (oi := { dst := some 163, op := Go.Op.move (Go.Operand.tmp 12), type := 31, pos := "bag.go:864", after := #[], guard := none }) (d := some 163) (v := ?_) (by kernel_rfl) (by kernel_rfl) (by kernel_rfl) (by kernel_rfl) (by kernel_rfl) (fun _ _ _ h => h) (Or.inl ⟨by kernel_rfl, ?_⟩) (by assumption) ?_
                      rotate_left 1
                      · (intro w hSw; (try dsimp only at hSw); go_simp; try with_reducible rfl)
                      try simp only [Act.put, List.setIfInBounds_toArray, List.set_cons_zero, List.set_cons_succ]
                      refine take_at (i := 1) (oi := { dst := some 164, op := Go.Op.convert 31 9 (Go.Operand.tmp 163), type := 9, pos := "bag.go:864", after := #[{ on := 0, ground := Go.Ground.data }], guard := none }) (d := some 164) (v := .string s) (by kernel_rfl) (by kernel_rfl) (by kernel_rfl) (by kernel_rfl) (by kernel_rfl) (fun _ _ _ h => h) (Or.inl ⟨by kernel_rfl, ?_⟩) (by assumption) ?_
                      · (intro w hSw; have hcq := HCV.out w hSw; go_simp; try with_reducible rfl)
                      try simp only [Act.put, List.setIfInBounds_toArray, List.set_cons_zero, List.set_cons_succ]
                      refine take_at (i := 2) (oi := { dst := some 165, op := Go.Op.move (Go.Operand.tmp 10), type := 3, pos := "bag.go:864", after := #[], guard := none }) (d := some 165) (v := ?_) (by kernel_rfl) (by kernel_rfl) (by kernel_rfl) (by kernel_rfl) (by kernel_rfl) (fun _ _ _ h => h) (Or.inl ⟨by kernel_rfl, ?_⟩) (by assumption) ?_
                      rotate_left 1
                      · (intro w hSw; (try dsimp only at hSw); go_simp; try with_reducible rfl)
                      try simp only [Act.put, List.setIfInBounds_toArray, List.set_cons_zero, List.set_cons_succ]
                      refine take_at (i := 3) (oi := { dst := some 166, op := Go.Op.move (Go.Operand.tmp 11), type := 3, pos := "bag.go:864", after := #[], guard := none }) (d := some 166) (v := ?_) (by kernel_rfl) (by kernel_rfl) (by kernel_rfl) (by kernel_rfl) (by kernel_rfl) (fun _ _ _ h => h) (Or.inl ⟨by kernel_rfl, ?_⟩) (by assumption) ?_
                      rotate_left 1
                      · (intro w hSw; (try dsimp only at hSw); go_simp; try with_reducible rfl)
                      try simp only [Act.put, List.setIfInBounds_toArray, List.set_cons_zero, List.set_cons_succ]
                      refine wpAnyH_ready (rs := [4]) (by kernel_rfl) (by simp) ?_
                      refine ready_at (o := { dst := some 167, op := Go.Op.call { callee := Go.Callee.value (Go.Operand.func 66), args := #[Go.Operand.tmp 165, Go.Operand.tmp 166], argTypes := #[3, 3] }, type := 9, pos := "bag.go:864", after := #[{ on := 2, ground := Go.Ground.data }, { on := 3, ground := Go.Ground.data }], guard := none }) (by kernel_rfl) (by kernel_rfl) (fun K hK => ?_) ?_
                      · go_simp
                        refine (HTX.out WD hdr).mono ?_
                        rintro e w2 ⟨rfl, hb3⟩
                        have hw2 : Below wa.heap.size wa w2 := hdr.trans (hb3.mono hdr.size)
                        refine hK.out _ _ hw2 (fun _ => ?_)
                        clear hK K hb3 hdr hHeld
                        refine take_at (i := 5) (oi := { dst := some 168, op := Go.Op.binOp Go.BinOp.eql 9 (Go.Operand.tmp 164) (Go.Operand.tmp 167) 9, type := 4, pos := "bag.go:864", after := #[{ on := 1, ground := Go.Ground.data }, { on := 4, ground := Go.Ground.data }], guard := none }) (d := some 168) (v := ?_) (by kernel_rfl) (by kernel_rfl) (by kernel_rfl) (by kernel_rfl) (by kernel_rfl) (fun _ _ _ h => h) (Or.inl ⟨by kernel_rfl, ?_⟩) (by assumption) ?_
                        rotate_left 1
                        · (intro w hSw; (try dsimp only at hSw); go_simp; try with_reducible rfl)
                        try simp only [Act.put, List.setIfInBounds_toArray, List.set_cons_zero, List.set_cons_succ]
                        refine take_at (i := 6) (oi := { dst := some 13, op := Go.Op.assign (Go.Operand.tmp 168), type := 4, pos := "bag.go:864", after := #[{ on := 5, ground := Go.Ground.data }, { on := 4, ground := Go.Ground.chain }, { on := 0, ground := Go.Ground.phase }, { on := 1, ground := Go.Ground.phase }, { on := 2, ground := Go.Ground.phase }, { on := 3, ground := Go.Ground.phase }, { on := 4, ground := Go.Ground.phase }, { on := 5, ground := Go.Ground.phase }], guard := none }) (d := some 13) (v := ?_) (by kernel_rfl) (by kernel_rfl) (by kernel_rfl) (by kernel_rfl) (by kernel_rfl) (fun _ _ _ h => h) (Or.inl ⟨by kernel_rfl, ?_⟩) (by assumption) ?_
                        rotate_left 1
                        · (intro w hSw; (try dsimp only at hSw); go_simp; try with_reducible rfl)
                        try simp only [Act.put, List.setIfInBounds_toArray, List.set_cons_zero, List.set_cons_succ]
                        refine wpAnyH_done (by kernel_rfl) ?_ _
                        have HB2 := hid hw2
                        have cm2 := later_cell hw2 CM.out
                        have x22 := later_cell hw2 X2.out
                        clear hw2 c0 c1 co cm x2
                        go_wp2_with fail
                        have hdr : Below wa.heap.size wa w2.drew := HB2.out.trans ((below_drewN w2 1).mono HB2.out.size)
                        refine wp_region_held_drew (S := fun W => Below wa.heap.size wa W) (by kernel_rfl) hdr (fun hHeld => ?_)
                        generalize w2.drew = WD at *
                        refine take_at (i := 0) (oi := { dst := some 176, op := Go.Op.move (Go.Operand.tmp 13), type := 4, pos := "bag.go:866", after := #[], guard := none }) (d := some 176) (v := ?_) (by kernel_rfl) (by kernel_rfl) (by kernel_rfl) (by kernel_rfl) (by kernel_rfl) (fun _ _ _ h => h) (Or.inl ⟨by kernel_rfl, ?_⟩) (by assumption) ?_
                        rotate_left 1
                        · (intro w hSw; (try dsimp only at hSw); go_simp; try with_reducible rfl)
                        try simp only [Act.put, List.setIfInBounds_toArray, List.set_cons_zero, List.set_cons_succ]
                        refine take_at (i := 1) (oi := { dst := some 177, op := Go.Op.unOp Go.UnOp.not 4 (Go.Operand.tmp 176), type := 4, pos := "bag.go:866", after := #[{ on := 0, ground := Go.Ground.data }], guard := none }) (d := some 177) (v := ?_) (by kernel_rfl) (by kernel_rfl) (by kernel_rfl) (by kernel_rfl) (by kernel_rfl) (fun _ _ _ h => h) (Or.inl ⟨by kernel_rfl, ?_⟩) (by assumption) ?_
                        rotate_left 1
                        · (intro w hSw; (try dsimp only at hSw); go_simp; try with_reducible rfl)
                        try simp only [Act.put, List.setIfInBounds_toArray, List.set_cons_zero, List.set_cons_succ]
                        refine take_at (i := 2) (oi := { dst := some 178, op := Go.Op.move (Go.Operand.tmp 177), type := 4, pos := "bag.go:866", after := #[{ on := 1, ground := Go.Ground.data }], guard := none }) (d := some 178) (v := ?_) (by kernel_rfl) (by kernel_rfl) (by kernel_rfl) (by kernel_rfl) (by kernel_rfl) (fun _ _ _ h => h) (Or.inl ⟨by kernel_rfl, ?_⟩) (by assumption) ?_
                        rotate_left 1
                        · (intro w hSw; (try dsimp only at hSw); go_simp; try with_reducible rfl)
                        try simp only [Act.put, List.setIfInBounds_toArray, List.set_cons_zero, List.set_cons_succ]
                        refine take_at (i := 3) (oi := { dst := some 179, op := Go.Op.move (Go.Operand.tmp 12), type := 31, pos := "bag.go:866", after := #[{ on := 2, ground := Go.Ground.guard }], guard := some (2, false) }) (d := some 179) (v := ?_) (by kernel_rfl) (by kernel_rfl) (by kernel_rfl) (by kernel_rfl) (by kernel_rfl) (fun _ _ _ h => h) (Or.inl ⟨by kernel_rfl, ?_⟩) (by assumption) ?_
                        rotate_left 1
                        · (intro w hSw; (try dsimp only at hSw); go_simp; try with_reducible rfl)
                        try simp only [Act.put, List.setIfInBounds_toArray, List.set_cons_zero, List.set_cons_succ]
                        refine take_at (i := 4) (oi := { dst := some 180, op := Go.Op.convert 31 9 (Go.Operand.tmp 179), type := 9, pos := "bag.go:866", after := #[{ on := 3, ground := Go.Ground.data }, { on := 2, ground := Go.Ground.guard }], guard := some (2, false) }) (d := some 180) (v := .string s) (by kernel_rfl) (by kernel_rfl) (by kernel_rfl) (by kernel_rfl) (by kernel_rfl) (fun _ _ _ h => h) (Or.inl ⟨by kernel_rfl, ?_⟩) (by assumption) ?_
                        · (intro w hSw; have hcq := HCV.out w hSw; go_simp; try with_reducible rfl)
                        try simp only [Act.put, List.setIfInBounds_toArray, List.set_cons_zero, List.set_cons_succ]
                        refine take_at (i := 5) (oi := { dst := some 181, op := Go.Op.move (Go.Operand.tmp 10), type := 3, pos := "bag.go:866", after := #[{ on := 2, ground := Go.Ground.guard }], guard := some (2, false) }) (d := some 181) (v := ?_) (by kernel_rfl) (by kernel_rfl) (by kernel_rfl) (by kernel_rfl) (by kernel_rfl) (fun _ _ _ h => h) (Or.inl ⟨by kernel_rfl, ?_⟩) (by assumption) ?_
                        rotate_left 1
                        · (intro w hSw; (try dsimp only at hSw); go_simp; try with_reducible rfl)
                        try simp only [Act.put, List.setIfInBounds_toArray, List.set_cons_zero, List.set_cons_succ]
                        refine take_at (i := 6) (oi := { dst := some 182, op := Go.Op.move (Go.Operand.tmp 11), type := 3, pos := "bag.go:866", after := #[{ on := 2, ground := Go.Ground.guard }], guard := some (2, false) }) (d := some 182) (v := ?_) (by kernel_rfl) (by kernel_rfl) (by kernel_rfl) (by kernel_rfl) (by kernel_rfl) (fun _ _ _ h => h) (Or.inl ⟨by kernel_rfl, ?_⟩) (by assumption) ?_
                        rotate_left 1
                        · (intro w hSw; (try dsimp only at hSw); go_simp; try with_reducible rfl)
                        try simp only [Act.put, List.setIfInBounds_toArray, List.set_cons_zero, List.set_cons_succ]
                        refine wpAnyH_ready (rs := [7]) (by kernel_rfl) (by simp) ?_
                        refine ready_at (o := { dst := some 183, op := Go.Op.call { callee := Go.Callee.value (Go.Operand.func 66), args := #[Go.Operand.tmp 181, Go.Operand.tmp 182], argTypes := #[3, 3] }, type := 9, pos := "bag.go:866", after := #[{ on := 5, ground := Go.Ground.data }, { on := 6, ground := Go.Ground.data }, { on := 2, ground := Go.Ground.chain }, { on := 2, ground := Go.Ground.guard }], guard := some (2, false) }) (by kernel_rfl) (by kernel_rfl) (fun K hK => ?_) ?_
                        · go_simp
                          refine (HTX.out WD hdr).mono ?_
                          rintro e w5 ⟨rfl, hb3⟩
                          have hw5 : Below wa.heap.size wa w5 := hdr.trans (hb3.mono hdr.size)
                          refine hK.out _ _ hw5 (fun _ => ?_)
                          clear hK K hb3 hdr hHeld
                          refine take_at (i := 8) (oi := { dst := some 184, op := Go.Op.binOp Go.BinOp.eql 9 (Go.Operand.tmp 180) (Go.Operand.tmp 183) 9, type := 4, pos := "bag.go:866", after := #[{ on := 4, ground := Go.Ground.data }, { on := 7, ground := Go.Ground.data }, { on := 2, ground := Go.Ground.guard }], guard := some (2, false) }) (d := some 184) (v := ?_) (by kernel_rfl) (by kernel_rfl) (by kernel_rfl) (by kernel_rfl) (by kernel_rfl) (fun _ _ _ h => h) (Or.inl ⟨by kernel_rfl, ?_⟩) (by assumption) ?_
                          rotate_left 1
                          · (intro w hSw; (try dsimp only at hSw); go_simp; try with_reducible rfl)
                          try simp only [Act.put, List.setIfInBounds_toArray, List.set_cons_zero, List.set_cons_succ]
                          refine take_at (i := 9) (oi := { dst := some 185, op := Go.Op.unOp Go.UnOp.not 4 (Go.Operand.tmp 184), type := 4, pos := "bag.go:866", after := #[{ on := 8, ground := Go.Ground.data }, { on := 2, ground := Go.Ground.guard }], guard := some (2, false) }) (d := some 185) (v := ?_) (by kernel_rfl) (by kernel_rfl) (by kernel_rfl) (by kernel_rfl) (by kernel_rfl) (fun _ _ _ h => h) (Or.inl ⟨by kernel_rfl, ?_⟩) (by assumption) ?_
                          rotate_left 1
                          · (intro w hSw; (try dsimp only at hSw); go_simp; try with_reducible rfl)
                          try simp only [Act.put, List.setIfInBounds_toArray, List.set_cons_zero, List.set_cons_succ]
                          refine take_at (i := 10) (oi := { dst := some 186, op := Go.Op.pick (Go.Operand.tmp 178) (Go.Operand.const (Go.Value.bool true)) (Go.Operand.tmp 185), type := 4, pos := "bag.go:866", after := #[{ on := 2, ground := Go.Ground.data }, { on := 9, ground := Go.Ground.data }], guard := none }) (d := some 186) (v := ?_) (by kernel_rfl) (by kernel_rfl) (by kernel_rfl) (by kernel_rfl) (by kernel_rfl) (fun _ _ _ h => h) (Or.inl ⟨by kernel_rfl, ?_⟩) (by assumption) ?_
                          rotate_left 1
                          · (intro w hSw; (try dsimp only at hSw); go_simp; try with_reducible rfl)
                          try simp only [Act.put, List.setIfInBounds_toArray, List.set_cons_zero, List.set_cons_succ]
                          refine wpAnyH_done (by kernel_rfl) ?_ _
                          have HB5 := hid hw5
                          clear hw5
                          go_wp2_with fail
                          exact ⟨⟨k + 1, by omega, by go_num, HB5⟩, by simp [intOf]; omega⟩
                        exact AllReadyH.nil
                      exact AllReadyH.nil
                    · have hkb : ((k : Int) == (L n : Int)) = false := by simp; omega
                      clear hke hmk
                      clear hk
                      go_wp2_with fail
                      have hdr : Below wa.heap.size wa wr.drew := HB.out.trans ((below_drewN wr 1).mono HB.out.size)
                      refine wp_region_held_drew (S := fun W => Below wa.heap.size wa W) (by kernel_rfl) hdr (fun hHeld => ?_)
                      generalize wr.drew = WD at *
                      refine take_at (i := 0) (oi := { dst := some 163, op := Go.Op.move (Go.Operand.tmp 12), type := 31, pos := "bag.go:864", after := #[], guard := none }) (d := some 163) (v := ?_) (by kernel_rfl) (by kernel_rfl) (by kernel_rfl) (by kernel_rfl) (by kernel_rfl) (fun _ _ _ h => h) (Or.inl ⟨by kernel_rfl, ?_⟩) (by assumption) ?_
                      rotate_left 1
                      · (intro w hSw; (try dsimp only at hSw); go_simp; try with_reducible rfl)
                      try simp only [Act.put, List.setIfInBounds_toArray, List.set_cons_zero, List.set_cons_succ]
                      refine take_at (i := 1) (oi := { dst := some 164, op := Go.Op.convert 31 9 (Go.Operand.tmp 163), type := 9, pos := "bag.go:864", after := #[{ on := 0, ground := Go.Ground.data }], guard := none }) (d := some 164) (v := .string s) (by kernel_rfl) (by kernel_rfl) (by kernel_rfl) (by kernel_rfl) (by kernel_rfl) (fun _ _ _ h => h) (Or.inl ⟨by kernel_rfl, ?_⟩) (by assumption) ?_
                      · (intro w hSw; have hcq := HCV.out w hSw; go_simp; try with_reducible rfl)
                      try simp only [Act.put, List.setIfInBounds_toArray, List.set_cons_zero, List.set_cons_succ]
                      refine take_at (i := 2) (oi := { dst := some 165, op := Go.Op.move (Go.Operand.tmp 10), type := 3, pos := "bag.go:864", after := #[], guard := none }) (d := some 165) (v := ?_) (by kernel_rfl) (by kernel_rfl) (by kernel_rfl) (by kernel_rfl) (by kernel_rfl) (fun _ _ _ h => h) (Or.inl ⟨by kernel_rfl, ?_⟩) (by assumption) ?_
                      rotate_left 1
                      · (intro w hSw; (try dsimp only at hSw); go_simp; try with_reducible rfl)
                      try simp only [Act.put, List.setIfInBounds_toArray, List.set_cons_zero, List.set_cons_succ]
                      refine take_at (i := 3) (oi := { dst := some 166, op := Go.Op.move (Go.Operand.tmp 11), type := 3, pos := "bag.go:864", after := #[], guard := none }) (d := some 166) (v := ?_) (by kernel_rfl) (by kernel_rfl) (by kernel_rfl) (by kernel_rfl) (by kernel_rfl) (fun _ _ _ h => h) (Or.inl ⟨by kernel_rfl, ?_⟩) (by assumption) ?_
                      rotate_left 1
                      · (intro w hSw; (try dsimp only at hSw); go_simp; try with_reducible rfl)
                      try simp only [Act.put, List.setIfInBounds_toArray, List.set_cons_zero, List.set_cons_succ]
                      refine wpAnyH_ready (rs := [4]) (by kernel_rfl) (by simp) ?_
                      refine ready_at (o := { dst := some 167, op := Go.Op.call { callee := Go.Callee.value (Go.Operand.func 66), args := #[Go.Operand.tmp 165, Go.Operand.tmp 166], argTypes := #[3, 3] }, type := 9, pos := "bag.go:864", after := #[{ on := 2, ground := Go.Ground.data }, { on := 3, ground := Go.Ground.data }], guard := none }) (by kernel_rfl) (by kernel_rfl) (fun K hK => ?_) ?_
                      · go_simp
                        refine (HTX.out WD hdr).mono ?_
                        rintro e w2 ⟨rfl, hb3⟩
                        have hw2 : Below wa.heap.size wa w2 := hdr.trans (hb3.mono hdr.size)
                        refine hK.out _ _ hw2 (fun _ => ?_)
                        clear hK K hb3 hdr hHeld
                        refine take_at (i := 5) (oi := { dst := some 168, op := Go.Op.binOp Go.BinOp.eql 9 (Go.Operand.tmp 164) (Go.Operand.tmp 167) 9, type := 4, pos := "bag.go:864", after := #[{ on := 1, ground := Go.Ground.data }, { on := 4, ground := Go.Ground.data }], guard := none }) (d := some 168) (v := ?_) (by kernel_rfl) (by kernel_rfl) (by kernel_rfl) (by kernel_rfl) (by kernel_rfl) (fun _ _ _ h => h) (Or.inl ⟨by kernel_rfl, ?_⟩) (by assumption) ?_
                        rotate_left 1
                        · (intro w hSw; (try dsimp only at hSw); go_simp; try with_reducible rfl)
                        try simp only [Act.put, List.setIfInBounds_toArray, List.set_cons_zero, List.set_cons_succ]
                        refine take_at (i := 6) (oi := { dst := some 13, op := Go.Op.assign (Go.Operand.tmp 168), type := 4, pos := "bag.go:864", after := #[{ on := 5, ground := Go.Ground.data }, { on := 4, ground := Go.Ground.chain }, { on := 0, ground := Go.Ground.phase }, { on := 1, ground := Go.Ground.phase }, { on := 2, ground := Go.Ground.phase }, { on := 3, ground := Go.Ground.phase }, { on := 4, ground := Go.Ground.phase }, { on := 5, ground := Go.Ground.phase }], guard := none }) (d := some 13) (v := ?_) (by kernel_rfl) (by kernel_rfl) (by kernel_rfl) (by kernel_rfl) (by kernel_rfl) (fun _ _ _ h => h) (Or.inl ⟨by kernel_rfl, ?_⟩) (by assumption) ?_
                        rotate_left 1
                        · (intro w hSw; (try dsimp only at hSw); go_simp; try with_reducible rfl)
                        try simp only [Act.put, List.setIfInBounds_toArray, List.set_cons_zero, List.set_cons_succ]
                        refine wpAnyH_done (by kernel_rfl) ?_ _
                        have HB2 := hid hw2
                        have cm2 := later_cell hw2 CM.out
                        have x22 := later_cell hw2 X2.out
                        clear hw2 c0 c1 co cm x2
                        go_wp2_with fail
                        have hdr : Below wa.heap.size wa w2.drew := HB2.out.trans ((below_drewN w2 1).mono HB2.out.size)
                        refine wp_region_held_drew (S := fun W => Below wa.heap.size wa W) (by kernel_rfl) hdr (fun hHeld => ?_)
                        generalize w2.drew = WD at *
                        refine take_at (i := 0) (oi := { dst := some 176, op := Go.Op.move (Go.Operand.tmp 13), type := 4, pos := "bag.go:866", after := #[], guard := none }) (d := some 176) (v := ?_) (by kernel_rfl) (by kernel_rfl) (by kernel_rfl) (by kernel_rfl) (by kernel_rfl) (fun _ _ _ h => h) (Or.inl ⟨by kernel_rfl, ?_⟩) (by assumption) ?_
                        rotate_left 1
                        · (intro w hSw; (try dsimp only at hSw); go_simp; try with_reducible rfl)
                        try simp only [Act.put, List.setIfInBounds_toArray, List.set_cons_zero, List.set_cons_succ]
                        refine take_at (i := 1) (oi := { dst := some 177, op := Go.Op.unOp Go.UnOp.not 4 (Go.Operand.tmp 176), type := 4, pos := "bag.go:866", after := #[{ on := 0, ground := Go.Ground.data }], guard := none }) (d := some 177) (v := ?_) (by kernel_rfl) (by kernel_rfl) (by kernel_rfl) (by kernel_rfl) (by kernel_rfl) (fun _ _ _ h => h) (Or.inl ⟨by kernel_rfl, ?_⟩) (by assumption) ?_
                        rotate_left 1
                        · (intro w hSw; (try dsimp only at hSw); go_simp; try with_reducible rfl)
                        try simp only [Act.put, List.setIfInBounds_toArray, List.set_cons_zero, List.set_cons_succ]
                        refine take_at (i := 2) (oi := { dst := some 178, op := Go.Op.move (Go.Operand.tmp 177), type := 4, pos := "bag.go:866", after := #[{ on := 1, ground := Go.Ground.data }], guard := none }) (d := some 178) (v := ?_) (by kernel_rfl) (by kernel_rfl) (by kernel_rfl) (by kernel_rfl) (by kernel_rfl) (fun _ _ _ h => h) (Or.inl ⟨by kernel_rfl, ?_⟩) (by assumption) ?_
                        rotate_left 1
                        · (intro w hSw; (try dsimp only at hSw); go_simp; try with_reducible rfl)
                        try simp only [Act.put, List.setIfInBounds_toArray, List.set_cons_zero, List.set_cons_succ]
                        refine take_at (i := 3) (oi := { dst := some 179, op := Go.Op.move (Go.Operand.tmp 12), type := 31, pos := "bag.go:866", after := #[{ on := 2, ground := Go.Ground.guard }], guard := some (2, false) }) (d := some 179) (v := ?_) (by kernel_rfl) (by kernel_rfl) (by kernel_rfl) (by kernel_rfl) (by kernel_rfl) (fun _ _ _ h => h) (Or.inl ⟨by kernel_rfl, ?_⟩) (by assumption) ?_
                        rotate_left 1
                        · (intro w hSw; (try dsimp only at hSw); go_simp; try with_reducible rfl)
                        try simp only [Act.put, List.setIfInBounds_toArray, List.set_cons_zero, List.set_cons_succ]
                        refine take_at (i := 4) (oi := { dst := some 180, op := Go.Op.convert 31 9 (Go.Operand.tmp 179), type := 9, pos := "bag.go:866", after := #[{ on := 3, ground := Go.Ground.data }, { on := 2, ground := Go.Ground.guard }], guard := some (2, false) }) (d := some 180) (v := .string s) (by kernel_rfl) (by kernel_rfl) (by kernel_rfl) (by kernel_rfl) (by kernel_rfl) (fun _ _ _ h => h) (Or.inl ⟨by kernel_rfl, ?_⟩) (by assumption) ?_
                        · (intro w hSw; have hcq := HCV.out w hSw; go_simp; try with_reducible rfl)
                        try simp only [Act.put, List.setIfInBounds_toArray, List.set_cons_zero, List.set_cons_succ]
                        refine take_at (i := 5) (oi := { dst := some 181, op := Go.Op.move (Go.Operand.tmp 10), type := 3, pos := "bag.go:866", after := #[{ on := 2, ground := Go.Ground.guard }], guard := some (2, false) }) (d := some 181) (v := ?_) (by kernel_rfl) (by kernel_rfl) (by kernel_rfl) (by kernel_rfl) (by kernel_rfl) (fun _ _ _ h => h) (Or.inl ⟨by kernel_rfl, ?_⟩) (by assumption) ?_
                        rotate_left 1
                        · (intro w hSw; (try dsimp only at hSw); go_simp; try with_reducible rfl)
                        try simp only [Act.put, List.setIfInBounds_toArray, List.set_cons_zero, List.set_cons_succ]
                        refine take_at (i := 6) (oi := { dst := some 182, op := Go.Op.move (Go.Operand.tmp 11), type := 3, pos := "bag.go:866", after := #[{ on := 2, ground := Go.Ground.guard }], guard := some (2, false) }) (d := some 182) (v := ?_) (by kernel_rfl) (by kernel_rfl) (by kernel_rfl) (by kernel_rfl) (by kernel_rfl) (fun _ _ _ h => h) (Or.inl ⟨by kernel_rfl, ?_⟩) (by assumption) ?_
                        rotate_left 1
                        · (intro w hSw; (try dsimp only at hSw); go_simp; try with_reducible rfl)
                        try simp only [Act.put, List.setIfInBounds_toArray, List.set_cons_zero, List.set_cons_succ]
                        refine wpAnyH_ready (rs := [7]) (by kernel_rfl) (by simp) ?_
                        refine ready_at (o := { dst := some 183, op := Go.Op.call { callee := Go.Callee.value (Go.Operand.func 66), args := #[Go.Operand.tmp 181, Go.Operand.tmp 182], argTypes := #[3, 3] }, type := 9, pos := "bag.go:866", after := #[{ on := 5, ground := Go.Ground.data }, { on := 6, ground := Go.Ground.data }, { on := 2, ground := Go.Ground.chain }, { on := 2, ground := Go.Ground.guard }], guard := some (2, false) }) (by kernel_rfl) (by kernel_rfl) (fun K hK => ?_) ?_
                        · go_simp
                          refine (HTX.out WD hdr).mono ?_
                          rintro e w5 ⟨rfl, hb3⟩
                          have hw5 : Below wa.heap.size wa w5 := hdr.trans (hb3.mono hdr.size)
                          refine hK.out _ _ hw5 (fun _ => ?_)
                          clear hK K hb3 hdr hHeld
                          refine take_at (i := 8) (oi := { dst := some 184, op := Go.Op.binOp Go.BinOp.eql 9 (Go.Operand.tmp 180) (Go.Operand.tmp 183) 9, type := 4, pos := "bag.go:866", after := #[{ on := 4, ground := Go.Ground.data }, { on := 7, ground := Go.Ground.data }, { on := 2, ground := Go.Ground.guard }], guard := some (2, false) }) (d := some 184) (v := ?_) (by kernel_rfl) (by kernel_rfl) (by kernel_rfl) (by kernel_rfl) (by kernel_rfl) (fun _ _ _ h => h) (Or.inl ⟨by kernel_rfl, ?_⟩) (by assumption) ?_
                          rotate_left 1
                          · (intro w hSw; (try dsimp only at hSw); go_simp; try with_reducible rfl)
                          try simp only [Act.put, List.setIfInBounds_toArray, List.set_cons_zero, List.set_cons_succ]
                          refine take_at (i := 9) (oi := { dst := some 185, op := Go.Op.unOp Go.UnOp.not 4 (Go.Operand.tmp 184), type := 4, pos := "bag.go:866", after := #[{ on := 8, ground := Go.Ground.data }, { on := 2, ground := Go.Ground.guard }], guard := some (2, false) }) (d := some 185) (v := ?_) (by kernel_rfl) (by kernel_rfl) (by kernel_rfl) (by kernel_rfl) (by kernel_rfl) (fun _ _ _ h => h) (Or.inl ⟨by kernel_rfl, ?_⟩) (by assumption) ?_
                          rotate_left 1
                          · (intro w hSw; (try dsimp only at hSw); go_simp; try with_reducible rfl)
                          try simp only [Act.put, List.setIfInBounds_toArray, List.set_cons_zero, List.set_cons_succ]
                          refine take_at (i := 10) (oi := { dst := some 186, op := Go.Op.pick (Go.Operand.tmp 178) (Go.Operand.const (Go.Value.bool true)) (Go.Operand.tmp 185), type := 4, pos := "bag.go:866", after := #[{ on := 2, ground := Go.Ground.data }, { on := 9, ground := Go.Ground.data }], guard := none }) (d := some 186) (v := ?_) (by kernel_rfl) (by kernel_rfl) (by kernel_rfl) (by kernel_rfl) (by kernel_rfl) (fun _ _ _ h => h) (Or.inl ⟨by kernel_rfl, ?_⟩) (by assumption) ?_
                          rotate_left 1
                          · (intro w hSw; (try dsimp only at hSw); go_simp; try with_reducible rfl)
                          try simp only [Act.put, List.setIfInBounds_toArray, List.set_cons_zero, List.set_cons_succ]
                          refine wpAnyH_done (by kernel_rfl) ?_ _
                          have HB5 := hid hw5
                          clear hw5
                          go_wp2_with fail
                          exact ⟨⟨k + 1, by omega, by go_num, HB5⟩, by simp [intOf]; omega⟩
                        exact AllReadyH.nil
                      exact AllReadyH.nil
                · go_wp2_with fail
                  exact ⟨⟨n + 1, by omega, by go_num, HB⟩, by simp [intOf]; omega⟩
            · go_wp2_with fail
              go_ret
              exact ⟨rfl, HST.out.kept.then (kept_below HB.out) (fun _ _ x => x.elim)⟩
end Go.Proofs.YtbdjghokedfkfaaDoor

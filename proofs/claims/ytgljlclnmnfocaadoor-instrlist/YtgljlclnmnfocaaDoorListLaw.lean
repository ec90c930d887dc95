/-
  The walk over InstrList: true, whatever the list of instructions.
-/
import Derived.Test.YtgljlclnmnfocaaDoorEqI
namespace Go.Proofs.YtgljlclnmnfocaaDoor
open Go.RowKit
set_option linter.unusedVariables false

/-- An instruction among others, and where its labels lie. -/
structure Inx where
  c : Int
  a : Int
  la : Option Addr
  ln : Nat
  lc : Nat
  l : List Int

/-- It lies there. -/
def InAt (w : World) (b o : Nat) (x : Inx) : Prop :=
  w.cell? ⟨b, o, none⟩ = some (.int .u8 x.c) ∧ w.cell? ⟨b, o + 1, none⟩ = some (.int .i64 x.a) ∧ w.cell? ⟨b, o + 2, none⟩ = some (.slice x.la x.ln x.lc) ∧
    0 ≤ x.c ∧ x.c ≤ 255 ∧ x.ln ≤ 140737488355328 ∧ (x.ln ≤ 1000 → SegI w x.la x.ln x.lc x.l)

theorem InAt.later {w w' : World} {b o : Nat} {x : Inx} (h : InAt w b o x) (hb : Below w.heap.size w w') : InAt w' b o x := by
  obtain ⟨h0, h1, h2, h3, h4, h5, h6⟩ := h
  have hlt := block_lt_of_cell h0
  simp only at hlt
  exact ⟨(hb.cell (by exact hlt)).trans h0, (hb.cell (by exact hlt)).trans h1, (hb.cell (by exact hlt)).trans h2, h3, h4, h5, fun h => (h6 h).later hb (Nat.le_refl _)⟩

/-- Those of the list. -/
def encs : List Inx → List Int
  | [] => []
  | x :: r => encV x.c x.a x.l ++ encs r
def good (x : Inx) : Prop := chk (tkV x.c) (lgV x.c) x.a x.l = 0 ∧ 0 ≤ x.c ∧ x.c ≤ 255 ∧ x.ln ≤ 1000

theorem encs_append : ∀ (p q : List Inx), encs (p ++ q) = encs p ++ encs q
  | [], q => rfl
  | x :: p, q => by simp [encs, encs_append p q, List.append_assoc]
theorem encs_len : ∀ (p : List Inx), (∀ x ∈ p, good x) → (encs p).length ≤ 171 * p.length
  | [], _ => by simp [encs]
  | x :: p, h => by
    have := encs_len p (fun y hy => h y (by simp [hy]))
    have := encV_len (h x (by simp)).1
    simp only [encs, List.length_append, List.length_cons]; omega
theorem encs_mem : ∀ (p : List Inx), (∀ x ∈ p, good x) → ∀ z ∈ encs p, 0 ≤ z ∧ z ≤ 255
  | [], _, z, hz => by simp [encs] at hz
  | x :: p, h, z, hz => by
    simp only [encs, List.mem_append] at hz
    have hx := h x (by simp)
    rcases hz with hz | hz
    · exact encV_mem hx.2.1 hx.2.2.1 hx.1 z hz
    · exact encs_mem p (fun y hy => h y (by simp [hy])) z hz
theorem encs_take (xs : List Inx) (k : Nat) (x : Inx) (h : xs[k]? = some x) : encs (xs.take (k + 1)) = encs (xs.take k) ++ encV x.c x.a x.l := by
  obtain ⟨hk, rfl⟩ := List.getElem?_eq_some_iff.1 h
  rw [List.take_succ_eq_append_getElem hk, encs_append]
  simp [encs]
theorem encs_at (xs : List Inx) (k : Nat) (x : Inx) (h : xs[k]? = some x) : encs xs = encs (xs.take k) ++ encV x.c x.a x.l ++ encs (xs.drop (k + 1)) := by
  rw [← encs_take xs k x h, ← encs_append, List.take_append_drop]
theorem good_take {xs : List Inx} {k : Nat} {x : Inx} (h : xs[k]? = some x) (hg : ∀ y ∈ xs.take k, good y) (hx : good x) : ∀ y ∈ xs.take (k + 1), good y := by
  obtain ⟨hk, rfl⟩ := List.getElem?_eq_some_iff.1 h
  rw [List.take_succ_eq_append_getElem hk]
  intro y hy
  rcases List.mem_append.1 hy with hy | hy
  · exact hg y hy
  · simp at hy; subst hy; exact hx

set_option maxRecDepth 100000 in
set_option maxHeartbeats 1000000 in
theorem list6_big (a : Option Addr) (n cap : Nat) (w : World) (hk : KindsOk w) (hn : 2000 < n) (hb : n ≤ 140737488355328) :
    Calls Tryd.prog 6 #[.slice a n cap] w fun e w' => e = .returned (.bool true) ∧ Below w.heap.size w w' := by
  have HW := hid (works7 _ hk)
  have hs' : (2000 : Int) < (n : Int) := by omega
  clear hk
  go_enter Tryd.func6, Tryd.ntmps6
  go_wp2_with fail
  refine HW.out.mono ?_
  rintro e w1 ⟨rfl, hb1⟩
  go_wp2_with fail
  go_ret
  exact ⟨rfl, hb1⟩

theorem held_two {X b O : Nat} {c a : Int} {va la : Option Addr} {ln vc lc : Nat} {w7 W W' : World} (hb : Below W.heap.size W W')
    (h : W.cell? ⟨X, 0, none⟩ = some (.int .u8 c) ∧ W.cell? ⟨X, 1, none⟩ = some (.int .i64 a) ∧ W.cell? ⟨X, 2, none⟩ = some (.slice va ln vc) ∧ W.cell? ⟨b, O, none⟩ = some (.int .u8 c) ∧ W.cell? ⟨b, O + 1, none⟩ = some (.int .i64 a) ∧ W.cell? ⟨b, O + 2, none⟩ = some (.slice la ln lc) ∧ Below w7.heap.size w7 W) :
    W'.cell? ⟨X, 0, none⟩ = some (.int .u8 c) ∧ W'.cell? ⟨X, 1, none⟩ = some (.int .i64 a) ∧ W'.cell? ⟨X, 2, none⟩ = some (.slice va ln vc) ∧ W'.cell? ⟨b, O, none⟩ = some (.int .u8 c) ∧ W'.cell? ⟨b, O + 1, none⟩ = some (.int .i64 a) ∧ W'.cell? ⟨b, O + 2, none⟩ = some (.slice la ln lc) ∧ Below w7.heap.size w7 W' := by
  obtain ⟨h0, h1, h2, h3, h4, h5, h9⟩ := h
  have hX := block_lt_of_cell h0
  have hY := block_lt_of_cell h3
  exact ⟨(hb.cell (by simpa using hX)).trans h0, (hb.cell (by simpa using hX)).trans h1, (hb.cell (by simpa using hX)).trans h2, (hb.cell (by simpa using hY)).trans h3, (hb.cell (by simpa using hY)).trans h4,
    (hb.cell (by simpa using hY)).trans h5, h9.trans (hb.mono h9.size)⟩

set_option maxRecDepth 100000 in
set_option maxHeartbeats 4000000 in
theorem list6_in (b off n cap : Nat) (xs : List Inx) (w : World) (hk : KindsOk w) (hn : n ≤ 2000) (hcap : n ≤ cap) (hl : xs.length = n) (hx : ∀ j x, xs[j]? = some x → InAt w b (off + j * 3) x) :
    Calls Tryd.prog 6 #[.slice (some ⟨b, off, none⟩) n cap] w fun e w' => e = .returned (.bool true) ∧ Below w.heap.size w w' := by
  have h0 := hk.pos
  have HW := hid (works7 _ hk)
  have hs' : ¬ (2000 : Int) < (n : Int) := by omega
  have HK := hid hk
  have HX := hid hx
  have HL := hid hl
  clear hk hx hl
  go_enter Tryd.func6, Tryd.ntmps6
  go_wp2_with fail
  refine HW.out.mono ?_
  rintro e w1 ⟨rfl, hb1⟩
  have B1 := hid hb1
  clear hb1 HW
  go_wp2_with fail
  go_loopw [4, 5] (fun v i wr => ∃ k : Nat, k ≤ n ∧ i = .int .i64 k ∧ wr.ownsRow w1.heap.size 5 1 v (encs (xs.take k)).length ((encs (xs.take k)).map (Value.int .u8)) ∧ Below w1.heap.size w1 wr ∧ (∀ y ∈ xs.take k, good y)) (fun _ i _ => n - (intOf i).toNat)
  case atStart => exact ⟨0, Nat.zero_le _, rfl, by simp [encs]; exact World.ownsRow_nil _ _ _ _, Below.refl _ _, by simp⟩
  case round =>
    obtain ⟨k, hk, rfl, hown, hb, hgd⟩ := hrel
    have OW := hid hown
    have BR := hid hb
    have HG := hid hgd
    clear hown hb hgd
    have BW := hid (below_late B1.out BR.out)
    by_cases hlt : k < n
    · obtain ⟨x, hxk⟩ : ∃ x, xs[k]? = some x := ⟨_, List.getElem?_eq_getElem (by rw [HL.out]; exact hlt)⟩
      have hin := (HX.out k x hxk).later BW.out
      have HXK := hid hxk
      clear hxk
      obtain ⟨c, a, la, ln, lc, l⟩ := x
      obtain ⟨y0, y1, y2, hc0, hc1, hln, hsg⟩ := hin
      simp only at y0 y1 y2 hc0 hc1 hln hsg
      have HS := hid hsg
      clear hsg
      by_cases hbig : 1000 < ln
      · have hbig' : (1000 : Int) < (ln : Int) := by omega
        go_wp2_with fail
        go_ret
        exact ⟨rfl, BW.out⟩
      · have hbig' : ¬ (1000 : Int) < (ln : Int) := by omega
        have HSI := hid (HS.out (by omega))
        clear HS
        have HN := hid (encode9_no c a la ln lc l wr (HK.out.later BW.out h0) hc0 hc1 HSI.out)
        have HY := hid (encode9 c a la ln lc l wr (HK.out.later BW.out h0) hc0 hc1 HSI.out)
        unfold insV at HN HY
        by_cases hx0 : chk (tkV c) (lgV c) a l = 0
        · have HE := hid (HY.out hx0)
          have hll := encV_len hx0
          have hmem := hid (encV_mem hc0 hc1 hx0)
          have HT := hid (encs_take xs k ⟨c, a, la, ln, lc, l⟩ HXK.out)
          have HGN := hid (good_take HXK.out HG.out (show good ⟨c, a, la, ln, lc, l⟩ from ⟨hx0, hc0, hc1, by simp only; omega⟩))
          have hle := encs_len (xs.take k) HG.out
          have hle2 : (xs.take k).length ≤ 2000 := by simp; omega
          clear HN HY hx0
          simp only at HT
          obtain ⟨E, hE⟩ : ∃ E, encV c a l = E := ⟨_, rfl⟩
          rw [hE] at HE HT hll hmem
          clear hE
          go_wp2_with fail
          refine HE.out.mono ?_
          rintro e w2 ⟨v2, rfl, hown2, hb2⟩
          obtain ⟨va, vc, rfl, hs2, hvn⟩ := seg_of_own hown2 (by omega) hmem.out
          have S2 := hid hs2
          have B2 := hid (BR.out.trans (hb2.mono BR.out.size))
          have O2 := hid (own_later OW.out hb2)
          have HVN := hid hvn
          clear hown2 hs2 hb2 HE hvn y0 y1 y2 OW
          go_wp2_with (at_builtin; (refine app_any _ rfl (.tmp 48) (.tmp 49) rfl w1.heap.size _ _ (encs (xs.take k)) rfl O2.out va E.length vc E rfl S2.out HVN.out (by omega) B2.out.size ?_; intro v3 w3 hown3 hb3; have O3 := hid hown3; have B3 := hid (B2.out.trans hb3); clear hown3 hb3))
          refine ⟨⟨k + 1, by omega, by go_num, ?_, B3.out, HGN.out⟩, by simp [intOf]; omega⟩
          rw [HT.out, List.length_append]
          exact O3.out
        · have HE := hid (HN.out hx0)
          clear HN HY
          have hxb : (chk (tkV c) (lgV c) a l != 0) = true := by simp [hx0]
          obtain ⟨X, hX⟩ : ∃ X, chk (tkV c) (lgV c) a l = X := ⟨_, rfl⟩
          rw [hX] at HE hxb
          clear hX hx0
          go_wp2_with fail
          refine HE.out.mono ?_
          rintro e w2 ⟨rfl, hb2⟩
          have B2 := hid (below_late BW.out hb2)
          clear hb2 HE y0 y1 y2
          go_wp2_with fail
          go_ret
          exact ⟨rfl, B2.out⟩
    · obtain rfl : k = n := by omega
      have hown := OW.out
      rw [List.take_of_length_le (by rw [HL.out]; exact Nat.le_refl _)] at hown
      have hgd := HG.out
      rw [List.take_of_length_le (by rw [HL.out]; exact Nat.le_refl _)] at hgd
      have hle := encs_len xs hgd
      rw [HL.out] at hle
      obtain ⟨ja, jc, rfl, hsj, _⟩ := seg_of_own hown (by omega) (encs_mem xs hgd)
      have SJ := hid hsj
      have HGA := hid hgd
      have hN : (encs xs).length ≤ 342000 := by omega
      clear hown hgd hsj OW HG hle
      obtain ⟨Z, hZ⟩ : ∃ Z, encs xs = Z := ⟨_, rfl⟩
      rw [hZ] at SJ hN ⊢
      have HZ := hid hZ
      clear hZ
      generalize wr = wa at *
      go_wp2_with fail
      go_loopw [8, 9] (fun p i w9 => ∃ j : Nat, j ≤ k ∧ i = .int .i64 j ∧ p = .int .i64 (encs (xs.take j)).length ∧ Below wa.heap.size wa w9) (fun _ i _ => k - (intOf i).toNat)
      case atStart => exact ⟨0, Nat.zero_le _, rfl, rfl, Below.refl _ _⟩
      case round =>
        obtain ⟨j, hj, rfl, rfl, hb2⟩ := hrel
        have B2 := hid hb2
        have BX := hid (below_late BW.out hb2)
        clear hb2
        by_cases hlt2 : j < k
        · obtain ⟨x, hxk⟩ : ∃ x, xs[j]? = some x := ⟨_, List.getElem?_eq_getElem (by rw [HL.out]; exact hlt2)⟩
          have hgx := HGA.out x (List.mem_of_getElem? hxk)
          have HT := hid (encs_take xs j x hxk)
          have hat := encs_at xs j x hxk
          have hdb := decV_back (encs (xs.take j)) (encs (xs.drop (j + 1))) x.c x.a x.l hgx.1
          rw [← hat, HZ.out] at hdb
          have hll := encV_len hgx.1
          have hin := HX.out j x hxk
          clear hxk hat
          obtain ⟨c, a, la, ln, lc, l⟩ := x
          simp only at hdb hll HT hgx hin
          obtain ⟨hch, hc0, hc1, hlnl⟩ := hgx
          simp only at hlnl
          have C0 := hid hch
          have hlenE : (encs (xs.take (j + 1))).length = (encs (xs.take j)).length + (encV c a l).length := by rw [HT.out, List.length_append]
          have HD := hid (decode19 ja Z.length jc Z ((encs (xs.take j)).length : Int) wr (HK.out.later BX.out h0) (SJ.out.later B2.out (Nat.le_refl _)))
          rw [hdb] at HD
          unfold DecPost at HD
          have HLE := hid hlenE
          have hPb : (encs (xs.take j)).length ≤ 342000 := by
            have h1 := encs_len (xs.take j) (fun y hy => HGA.out y (List.mem_of_mem_take hy))
            have h2 : (xs.take j).length ≤ 2000 := by simp; omega
            omega
          clear hdb hlenE hch HT
          generalize (encs (xs.take j)).length = P at *
          generalize (encV c a l).length = Q at *
          have hle2 : ¬ (P : Int) + (Q : Int) ≤ (P : Int) := by omega
          have hle3 : decide ((P : Int) + (Q : Int) ≤ (P : Int)) = false := decide_eq_false hle2
          go_wp2_with fail
          refine HD.out.mono ?_
          rintro e w3 ⟨v, rfl, hown3, hb3⟩
          obtain ⟨va, vc, rfl, hs3⟩ := segI_own (n := l.length) (zs := l) hown3 (by have := (chk_list C0.out).1; omega) (chk_list C0.out).2
          have B3 := hid (B2.out.trans (hb3.mono B2.out.size))
          have hbw3 := below_late BX.out hb3
          have hin3 := hin.later hbw3
          obtain ⟨y0, y1, y2, _, _, _, hsg⟩ := hin3
          simp only at y0 y1 y2 hsg
          have SL := hsg hlnl
          have hl3 : l.length = ln := SL.1
          rw [hl3] at hs3 ⊢
          have S3 := hid hs3
          have SL3 := hid SL
          have BW3 := hid hbw3
          clear hown3 hb3 hs3 HD hsg SL hbw3 hin
          go_wp2_with fail
          obtain ⟨w7, hw7⟩ : ∃ w7, w3.alloc (.cells #[.int .u8 c, .int .i64 a, .slice va ln vc] 24) = w7 := ⟨_, rfl⟩
          rw [hw7]
          have hb7 : Below w3.heap.size w3 w7 := by rw [← hw7]; exact (Below.refl _ _).alloc (Nat.le_refl _) _
          have hyb : b < w3.heap.size := block_lt_of_cell y0
          have z0 : w7.cell? ⟨w3.heap.size, 0, none⟩ = some (.int .u8 c) := by rw [← hw7]; simp [go_sem]
          have z1 : w7.cell? ⟨w3.heap.size, 1, none⟩ = some (.int .i64 a) := by rw [← hw7]; simp [go_sem]
          have z2 : w7.cell? ⟨w3.heap.size, 2, none⟩ = some (.slice va ln vc) := by rw [← hw7]; simp [go_sem]
          have t0 := (hb7.cell (p := ⟨b, off + j * 3, none⟩) hyb).trans y0
          have t1 := (hb7.cell (p := ⟨b, off + j * 3 + 1, none⟩) hyb).trans y1
          have t2 := (hb7.cell (p := ⟨b, off + j * 3 + 2, none⟩) hyb).trans y2
          have HQ := hid (fun W (h : Below w7.heap.size w7 W) => eqIns16 c a va la ln vc lc l W ((S3.out.later hb7 (Nat.le_refl _)).later h (Nat.le_refl _)) ((SL3.out.later hb7 (Nat.le_refl _)).later h (Nat.le_refl _)))
          unfold insV at HQ
          have B7 := hid (B3.out.trans (hb7.mono B3.out.size))
          have BX7 := hid (below_late BW3.out hb7)
          clear hw7 hb7 y0 y1 y2 S3 SL3 B3 BW3
          go_region_held3 (fun W => W.cell? ⟨w3.heap.size, 0, none⟩ = some (.int .u8 c) ∧ W.cell? ⟨w3.heap.size, 1, none⟩ = some (.int .i64 a) ∧ W.cell? ⟨w3.heap.size, 2, none⟩ = some (.slice va ln vc) ∧ W.cell? ⟨b, off + j * 3, none⟩ = some (.int .u8 c) ∧ W.cell? ⟨b, off + j * 3 + 1, none⟩ = some (.int .i64 a) ∧ W.cell? ⟨b, off + j * 3 + 2, none⟩ = some (.slice la ln lc) ∧ Below w7.heap.size w7 W)
            (first | assumption | (refine held_two ?_ ?_ <;> assumption) | (exact ⟨z0, z1, z2, t0, t1, t2, (Below.refl _ _).drew⟩))
            (first
              | (go_at_call 16; refine (HQ.out _ (And.right (And.right (And.right (And.right (And.right (And.right (by assumption)))))))).mono ?_; rintro e w' ⟨rfl, hbx⟩; have hS' := held_two (X := w3.heap.size) (b := b) (O := off + j * 3) (w7 := w7) hbx (by assumption); clear hbx))
          have B8 := hid (B7.out.trans (hS'.2.2.2.2.2.2.mono B7.out.size))
          clear hS' z0 z1 z2 t0 t1 t2
          go_wp2_with fail
          refine ⟨⟨j + 1, by omega, by go_num, ?_, B8.out⟩, by simp [intOf]; omega⟩
          rw [HLE.out]
          simp
        · obtain rfl : j = k := by omega
          have hfin : (encs (xs.take j)).length = Z.length := by rw [List.take_of_length_le (by rw [HL.out]; exact Nat.le_refl _), HZ.out]
          rw [hfin]
          go_wp2_with fail
          go_ret
          exact ⟨rfl, BX.out⟩
end Go.Proofs.YtgljlclnmnfocaaDoor

/-
  The walk over apartBytes: lists in blocks of their own are told apart: true.
-/
import Derived.Test.YtlhopgdafaehhaaDoorMarks
import Derived.Test.YtlhopgdafaehhaaDoorWrite
namespace Go.Proofs.YtlhopgdafaehhaaDoor
open Go.RowKit
set_option linter.unusedVariables false

theorem Tryd.info24 : (Tryd.prog.info? 24).map (fun i => (i.zero, i.size, i.bytes)) = some (some (.slice none 0 0), 1, 24) := by kernel_rfl

theorem owner (m : Nat) (G : Nat → Nat) (hinj : ∀ a b, a < m → b < m → G a = G b → a = b) : ∃ f : Nat → Nat, ∀ j, j < m → f (G j) = j := by
  refine ⟨fun b => Classical.epsilon fun j => j < m ∧ G j = b, fun j hj => ?_⟩
  have := Classical.epsilon_spec (p := fun i => i < m ∧ G i = G j) ⟨j, hj, rfl⟩
  exact hinj _ j this.1 hj this.2

/-- A row as a slice, and its cells. -/
theorem own_slice {w : World} {e : TypeId} {v : Value} {n : Nat} {xs : List Value} (h : w.ownsRow 0 e 1 v n xs) : ∃ a c, v = .slice a n c ∧ (n = 0 ∨ ∃ B, a = some ⟨B, 0, none⟩ ∧ ∀ j, j < n → w.cell? ⟨B, j, none⟩ = xs[j]?) := by
  rcases h.2 with ⟨rfl, rfl⟩ | ⟨g, cap, cur, rfl, h2⟩
  · exact ⟨none, 0, rfl, .inl rfl⟩
  · exact ⟨_, cap, rfl, .inr ⟨g, rfl, fun j hj => World.ownsRow.cellAt h j (by omega)⟩⟩

/-- Behind the marking. -/
theorem Ma.state {w : World} {m : Nat} {G L C : Nat → Nat} {wr : World} (h : Ma w m G L C wr m) (hinj : ∀ a b, a < m → b < m → G a = G b → a = b) : ∃ f, St w m G L C wr f 0 0 (.slice none 0 0) (.slice none 0 0) [] [] := by
  obtain ⟨f, hf⟩ := owner m G hinj
  refine ⟨f, h.kept, fun j hj => ?_, World.ownsRow_nil _ _ _ _, Listed.nil _ _ _ _, World.ownsRow_nil _ _ _ _, Listed.nil _ _ _ _, fun B hB => by simp [Value.ownBlock] at hB, fun B hB => by simp [Value.ownBlock] at hB, fun B hB => by simp [Value.ownBlock] at hB⟩
  obtain ⟨xs, hr⟩ := h.rows j hj
  exact ⟨hr.marks (h.done j hj), hf j hj⟩

theorem stepL {w : World} {m : Nat} {G L C : Nat → Nat} {wr w2 : World} {f : Nat → Nat} {n1 n2 : Nat} {one more : Value} {ovs mvs : List Value} {g n k cap B cap' : Nat} (h : St w m G L C wr f n1 n2 one more ovs mvs)
    (hl : TR wr f g n k cap) (hg : g = G n ∨ w.heap.size ≤ g) (hnm : n < m) (o : Obj) (hr : Row w2 5 B (k + 1) cap' (ml n k ++ [.int .u8 (mrk n k)]))
    (hc : (Value.slice (some ⟨g, 0, none⟩) k cap = .slice (some ⟨B, 0, none⟩) k cap' ∧ Kept (fun x => x = B) (wr.alloc o) w2) ∨ ((wr.alloc o).heap.size ≤ B ∧ Kept (fun _ => False) (wr.alloc o) w2))
    (hi : L n ≤ k) (h1 : (k = L n ∧ n1 = n) ∨ (L n + 1 ≤ k ∧ n1 = n + 1)) (h2 : n2 ≤ n) :
    ∃ f', St w m G L C w2 f' n1 n2 one more ovs mvs ∧ TR w2 f' B n (k + 1) cap' ∧ (B = G n ∨ w.heap.size ≤ B) := by
  have ha := h.alloc o
  have hla : TR (wr.alloc o) f g n k cap := hl.kept (Kept.alloc (fun _ => False) wr o) (fun x => x)
  refine ⟨_, ha.list hla hg hnm hr ?_ ha.kept.size hi (by omega) h2⟩
  rcases hc with ⟨e, hk⟩ | ⟨hge, hk⟩
  · simp at e
    obtain ⟨rfl, rfl⟩ := e
    exact .inl ⟨rfl, rfl, hk⟩
  · exact .inr ⟨hge, hk⟩

theorem stepO {w : World} {m : Nat} {G L C : Nat → Nat} {wr w2 : World} {f : Nat → Nat} {n n2 : Nat} {one more : Value} {ovs mvs : List Value} {g c B cap kk : Nat} (h : St w m G L C wr f n n2 one more ovs mvs) (hkk : kk = L n + 1)
    (ht : TR wr f g n kk c) (o : Obj) (hr : Row w2 24 B (n + 1) cap (ovs ++ [.slice (some ⟨g, 0, none⟩) kk c])) (ho : Onto (wr.alloc o) w2 one n B cap) :
    St w m G L C w2 f (n + 1) n2 (.slice (some ⟨B, 0, none⟩) (n + 1) cap) more (ovs ++ [.slice (some ⟨g, 0, none⟩) kk c]) mvs ∧ TR w2 f g n kk c := by
  subst hkk
  have ha := h.alloc o
  exact ha.pushOne (ht.kept (Kept.alloc (fun _ => False) wr o) (fun x => x)) hr ho ha.kept.size

theorem stepM {w : World} {m : Nat} {G L C : Nat → Nat} {wr w2 : World} {f : Nat → Nat} {n n1 : Nat} {one more : Value} {ovs mvs : List Value} {g c B cap kk : Nat} (h : St w m G L C wr f n1 n one more ovs mvs) (hkk : kk = L n + 70)
    (ht : TR wr f g n kk c) (o : Obj) (hr : Row w2 24 B (n + 1) cap (mvs ++ [.slice (some ⟨g, 0, none⟩) kk c])) (ho : Onto (wr.alloc o) w2 more n B cap) :
    St w m G L C w2 f n1 (n + 1) one (.slice (some ⟨B, 0, none⟩) (n + 1) cap) ovs (mvs ++ [.slice (some ⟨g, 0, none⟩) kk c]) := by
  subst hkk
  have ha := h.alloc o
  exact ha.pushMore (ht.kept (Kept.alloc (fun _ => False) wr o) (fun x => x)) hr ho ha.kept.size

set_option maxRecDepth 100000 in
set_option maxHeartbeats 4000000 in
theorem apart19 (GB X m cx : Nat) (G L C : Nat → Nat) (w : World) (hm : m ≤ 300)
    (hg : w.cell? ⟨GB, 0, none⟩ = some (.slice (some ⟨X, 0, none⟩) m cx))
    (hx : ∀ j, j < m → w.cell? ⟨X, j, none⟩ = some (.slice (some ⟨G j, 0, none⟩) (L j) (C j)))
    (ho : ∀ j, j < m → ∃ xs, Row w 5 (G j) (L j) (C j) xs) (hL : ∀ j, j < m → L j ≤ 4194304)
    (hinj : ∀ a b, a < m → b < m → G a = G b → a = b) (hGX : ∀ j, j < m → ¬ GB = G j ∧ ¬ X = G j) :
    Calls Tryd.prog 19 #[.pointer (some ⟨GB, 0, none⟩)] w fun e w' => e = .returned (.bool true) ∧ Kept (fun b => ∃ j, j < m ∧ b = G j) w w' := by
  have HX := hid hx
  have HL := hid hL
  have HI := hid hinj
  have HGX := hid hGX
  have HO := hid ho
  have HG := hid hg
  have nGB : ¬ ∃ j, j < m ∧ GB = G j := fun ⟨j, hj, e⟩ => (hGX j hj).1 e
  have nX : ¬ ∃ j, j < m ∧ X = G j := fun ⟨j, hj, e⟩ => (hGX j hj).2 e
  have NGB := hid nGB
  have NX := hid nX
  clear hx hL hinj hGX ho hg nGB nX
  go_enter Tryd.func19, Tryd.ntmps19
  go_wp2_with fail
  go_loopw [3] (fun i wr => ∃ n : Nat, n ≤ m ∧ i = .int .i64 n ∧ Ma w m G L C wr n) (fun i _ => m - (intOf i).toNat)
  case atStart => exact ⟨0, by omega, rfl, Kept.refl _ _, HO.out, fun j hj => absurd hj (by omega)⟩
  case round =>
    obtain ⟨n, hn, rfl, hma⟩ := hrel
    have c0 : wr.cell? ⟨GB, 0, none⟩ = some (.slice (some ⟨X, 0, none⟩) m cx) := hma.kept.cell HG.out NGB.out
    by_cases hlt : n < m
    · have HM := hid hma
      clear hma
      go_wp2_with fail
      go_loopw [4] (fun i wr => ∃ k : Nat, k ≤ L n ∧ i = .int .i64 k ∧ Ma w m G L C wr n ∧ ∀ t, t < k → wr.cell? ⟨G n, t, none⟩ = some (.int .u8 (mrk n t))) (fun i _ => L n - (intOf i).toNat)
      case atStart => exact ⟨0, by omega, rfl, HM.out, fun t ht => absurd ht (by omega)⟩
      case round =>
        obtain ⟨k, hk, rfl, hma, hdn⟩ := hrel
        clear c0
        have hLn := HL.out n hlt
        have c0 : wr.cell? ⟨GB, 0, none⟩ = some (.slice (some ⟨X, 0, none⟩) m cx) := hma.kept.cell HG.out NGB.out
        have c1 : wr.cell? ⟨X, n, none⟩ = some (.slice (some ⟨G n, 0, none⟩) (L n) (C n)) := hma.kept.cell (HX.out n hlt) NX.out
        by_cases hkl : k < L n
        · obtain ⟨xs, hrow⟩ := hma.rows n hlt
          have hcl : ∃ u, wr.cell? ⟨G n, k, none⟩ = some u := ⟨_, (hrow.cell k hkl).trans (List.getElem?_eq_getElem (by have := hrow.1; omega))⟩
          obtain ⟨u0, hcl⟩ := hcl
          have hfz := hrow.free k
          have P := hid (hma.put hlt hkl HI.out hdn)
          have EM := hid (show (31 * (n : Int) + 7 * (k : Int) + 3) % 256 = mrk n k from rfl)
          clear hma hdn hrow HM
          go_wp2_with fail
          rw [EM.out]
          exact ⟨⟨k + 1, by omega, by go_num, P.out.1, P.out.2⟩, by simp [intOf]; omega⟩
        · have hkk : k = L n := by omega
          subst hkk
          have D := hid (show Ma w m G L C wr (n + 1) from ⟨hma.kept, hma.rows, fun j hj i hi => by
            by_cases e : j = n
            · subst e; exact hdn i hi
            · exact hma.done j (by omega) i hi⟩)
          clear hma hdn HM
          go_wp2_with fail
          exact ⟨⟨n + 1, by omega, by go_num, D.out⟩, by simp [intOf]; omega⟩
    · have hnm : m = n := by omega
      subst hnm
      obtain ⟨f0, hst0⟩ := hma.state HI.out
      have HS0 := hid hst0
      obtain ⟨i5, q0, q1, q2, q3⟩ := info_parts Tryd.info5
      obtain ⟨i24, p0, p1, p2, p3⟩ := info_parts Tryd.info24
      clear hma hst0
      go_wp2_with fail
      clear c0
      go_loopw [5, 6, 7] (fun one more i wr => ∃ (n : Nat) (f : Nat → Nat) (ovs mvs : List Value), n ≤ m ∧ i = .int .i64 n ∧ St w m G L C wr f n n one more ovs mvs) (fun _ _ i _ => m - (intOf i).toNat)
      case atStart => exact ⟨0, f0, [], [], by omega, rfl, HS0.out⟩
      case round =>
        obtain ⟨n, f, ovs, mvs, hnm, rfl, hst⟩ := hrel
        have c0 : wr.cell? ⟨GB, 0, none⟩ = some (.slice (some ⟨X, 0, none⟩) m cx) := hst.kept.cell HG.out NGB.out
        by_cases hlt2 : n < m
        · have hLn := HL.out n hlt2
          have c1 : wr.cell? ⟨X, n, none⟩ = some (.slice (some ⟨G n, 0, none⟩) (L n) (C n)) := hst.kept.cell (HX.out n hlt2) NX.out
          have HST := hid hst
          clear hst HS0
          go_wp2_with fail
          clear c0 c1
          go_loopw [5, 8, 9] (fun one l i wr => ∃ (k g cap n1 : Nat) (f : Nat → Nat) (ovs : List Value), L n ≤ k ∧ k ≤ L n + 70 ∧ i = .int .i64 k ∧ l = .slice (some ⟨g, 0, none⟩) k cap ∧ TR wr f g n k cap ∧ (g = G n ∨ w.heap.size ≤ g) ∧ ((k = L n ∧ n1 = n) ∨ (L n + 1 ≤ k ∧ n1 = n + 1)) ∧ St w m G L C wr f n1 n one u6 ovs mvs) (fun _ _ i _ => L n + 70 - (intOf i).toNat)
          case atStart => exact ⟨L n, G n, C n, n, f, ovs, by omega, by omega, rfl, rfl, HST.out.own n hlt2, .inl rfl, .inl ⟨rfl, rfl⟩, HST.out⟩
          case round =>
            obtain ⟨k, g, cap, n1, f, ovs, hk0, hk1, rfl, rfl, htr, hgn, hn1, hst⟩ := hrel
            have c0 : wr.cell? ⟨GB, 0, none⟩ = some (.slice (some ⟨X, 0, none⟩) m cx) := hst.kept.cell HG.out NGB.out
            have c1 : wr.cell? ⟨X, n, none⟩ = some (.slice (some ⟨G n, 0, none⟩) (L n) (C n)) := hst.kept.cell (HX.out n hlt2) NX.out
            by_cases hk : k < L n + 70
            · have EM := hid (show (31 * (n : Int) + 7 * (k : Int) + 3) % 256 = mrk n k from rfl)
              have hown : (wr.alloc (.cells #[.int .u8 ((31 * (n : Int) + 7 * (k : Int) + 3) % 256)] 5)).ownsRow 0 5 1 (.slice (some ⟨g, 0, none⟩) k cap) k (ml n k) := (htr.kept (Kept.alloc (fun _ => False) wr _) (fun x => x)).1
              have HOW := hid hown
              have HST2 := hid hst
              have HTR := hid htr
              have HN1 := hid hn1
              have HGN := hid hgn
              have hb1 : k + 1 ≤ maxLen := by unfold maxLen; omega
              have hb2 : (k + 1) * 1 ≤ 140737488355328 := by omega
              have hb3 : n + 1 ≤ maxLen := by unfold maxLen; omega
              have hb4 : (n + 1) * 24 ≤ 140737488355328 := by omega
              clear hown hst htr hn1 hgn
              by_cases hke : k = L n
              · have hkb : ((k : Int) == (L n : Int)) = true := by simp [hke]
                have hn1' : n1 = n := by have := HN1.out; omega
                subst hn1'
                have KE := hid hke
                clear hke
                go_wp2_with (first
                  | (at_builtin; refine app_cell _ rfl (.tmp 82) (.tmp 90) 24 rfl 5 i5 (.int .u8 0) 1 Tryd.underlying24 q0 q1 q2 q3 rfl _ k _ rfl HOW.out ⟨wr.heap.size, 0, none⟩ (.int .u8 ((31 * (n1 : Int) + 7 * (k : Int) + 3) % 256)) rfl (by simp [Addr.add]) rfl hb1 hb2 ?_; intro B cap' w2 hrow hcase; rw [EM.out] at hrow; obtain ⟨f', hs2, ht2, hg2⟩ := stepL HST2.out HTR.out HGN.out hlt2 _ hrow hcase hk0 HN1.out (Nat.le_refl _); have c0' := hs2.kept.cell HG.out NGB.out; have c1' := hs2.kept.cell (HX.out n1 hlt2) NX.out; have S2 := hid hs2; have T2 := hid ht2; have G2 := hid hg2; clear hs2 ht2 hg2 hrow hcase)
                  | (at_builtin; refine app_cell _ rfl (.tmp 102) (.tmp 104) 29 rfl 24 i24 (.slice none 0 0) 24 Tryd.underlying29 p0 p1 p2 p3 rfl _ n1 _ rfl (by exact (S2.out.alloc _).ownOne) ⟨w2.heap.size, 0, none⟩ (.slice (some ⟨B, 0, none⟩) (k + 1) cap') rfl (by simp [Addr.add]) rfl hb3 hb4 ?_; intro B2 cap2 w3 hrow2 hcase2; obtain ⟨hs3, ht3⟩ := stepO S2.out (by rw [KE.out]) T2.out _ hrow2 hcase2; have S3 := hid hs3; have T3 := hid ht3; clear hs3 ht3 hrow2 hcase2))
                have hk2 := KE.out
                refine ⟨⟨k + 1, B, cap', n1 + 1, f', _, by omega, by omega, by go_num, rfl, T3.out, G2.out, .inr ⟨by omega, rfl⟩, S3.out⟩, by simp [intOf]; omega⟩
              · have hkb : ((k : Int) == (L n : Int)) = false := by simp; omega
                have hn1' : n1 = n + 1 := by have := HN1.out; omega
                subst hn1'
                clear hke
                go_wp2_with (first
                  | (at_builtin; refine app_cell _ rfl (.tmp 82) (.tmp 90) 24 rfl 5 i5 (.int .u8 0) 1 Tryd.underlying24 q0 q1 q2 q3 rfl _ k _ rfl HOW.out ⟨wr.heap.size, 0, none⟩ (.int .u8 ((31 * (n : Int) + 7 * (k : Int) + 3) % 256)) rfl (by simp [Addr.add]) rfl hb1 hb2 ?_; intro B cap' w2 hrow hcase; rw [EM.out] at hrow; obtain ⟨f', hs2, ht2, hg2⟩ := stepL HST2.out HTR.out HGN.out hlt2 _ hrow hcase hk0 HN1.out (Nat.le_refl _); have c0' := hs2.kept.cell HG.out NGB.out; have c1' := hs2.kept.cell (HX.out n hlt2) NX.out; have S2 := hid hs2; have T2 := hid ht2; have G2 := hid hg2; clear hs2 ht2 hg2 hrow hcase))
                refine ⟨⟨k + 1, B, cap', n + 1, f', _, by omega, by omega, by go_num, rfl, T2.out, G2.out, .inr ⟨by have := HN1.out; omega, rfl⟩, S2.out⟩, by simp [intOf]; omega⟩
            · obtain rfl : k = L n + 70 := by omega
              have hn1' : n1 = n + 1 := by omega
              subst hn1'
              have hb3 : n + 1 ≤ maxLen := by unfold maxLen; omega
              have hb4 : (n + 1) * 24 ≤ 140737488355328 := by omega
              have HST2 := hid hst
              have HTR := hid htr
              clear hst htr hn1 hgn
              go_wp2_with (first
                  | (at_builtin; refine app_cell _ rfl (.tmp 106) (.tmp 108) 29 rfl 24 i24 (.slice none 0 0) 24 Tryd.underlying29 p0 p1 p2 p3 rfl _ n _ rfl (by exact (HST2.out.alloc _).ownMore) ⟨wr.heap.size, 0, none⟩ (.slice (some ⟨g, 0, none⟩) (L n + 70) cap) rfl (by simp [Addr.add]) rfl hb3 hb4 ?_; intro B2 cap2 w3 hrow2 hcase2; have S3 := hid (stepM HST2.out rfl HTR.out _ hrow2 hcase2); clear hrow2 hcase2))
              refine ⟨⟨n + 1, _, _, _, by omega, by go_num, S3.out⟩, by simp [intOf]; omega⟩
        · have hnm2 : m = n := by omega
          subst hnm2
          obtain ⟨oa, oc, e5, h5⟩ := own_slice hst.ownOne
          obtain ⟨ma, mc, e6, h6⟩ := own_slice hst.ownMore
          subst e5
          subst e6
          have HST := hid hst
          have H5 := hid h5
          have H6 := hid h6
          clear hst HS0 h5 h6
          go_wp2_with fail
          clear c0
          go_loop [10] (fun i => ∃ n : Nat, n ≤ m ∧ i = .int .i64 n) (fun i => m - (intOf i).toNat)
          case atStart => exact ⟨0, by omega, rfl⟩
          case round =>
            obtain ⟨n, hnm3, rfl⟩ := hrel
            by_cases hlt3 : n < m
            · have hLn := HL.out n hlt3
              obtain ⟨OB, rfl, ho1⟩ : ∃ B, oa = some ⟨B, 0, none⟩ ∧ ∀ j, j < m → wr.cell? ⟨B, j, none⟩ = ovs[j]? := by
                rcases H5.out with h | h
                · omega
                · exact h
              obtain ⟨MB, rfl, hm1⟩ : ∃ B, ma = some ⟨B, 0, none⟩ ∧ ∀ j, j < m → wr.cell? ⟨B, j, none⟩ = mvs[j]? := by
                rcases H6.out with h | h
                · omega
                · exact h
              obtain ⟨B1, b1c, hb1, ht1⟩ := HST.out.ones n hlt3
              obtain ⟨B2, b2c, hb2, ht2⟩ := HST.out.mores n hlt3
              have co : wr.cell? ⟨OB, n, none⟩ = some (.slice (some ⟨B1, 0, none⟩) (L n + 1) b1c) := (ho1 n hlt3).trans hb1
              have cm : wr.cell? ⟨MB, n, none⟩ = some (.slice (some ⟨B2, 0, none⟩) (L n + 70) b2c) := (hm1 n hlt3).trans hb2
              have c0 : wr.cell? ⟨GB, 0, none⟩ = some (.slice (some ⟨X, 0, none⟩) m cx) := HST.out.kept.cell HG.out NGB.out
              have c1 : wr.cell? ⟨X, n, none⟩ = some (.slice (some ⟨G n, 0, none⟩) (L n) (C n)) := HST.out.kept.cell (HX.out n hlt3) NX.out
              have T0 := hid (HST.out.own n hlt3)
              have T1 := hid ht1
              have T2 := hid ht2
              clear ho1 hm1 hb1 hb2 ht1 ht2 H5 H6 HST
              go_wp2_with fail
              go_loop [11] (fun i => ∃ k : Nat, k ≤ L n + 70 ∧ i = .int .i64 k) (fun i => L n + 70 - (intOf i).toNat)
              case atStart => exact ⟨0, by omega, rfl⟩
              case round =>
                obtain ⟨k, hk, rfl⟩ := hrel
                by_cases hlt4 : k < L n + 70
                · have x2 : wr.cell? ⟨B2, k, none⟩ = some (.int .u8 ((31 * (n : Int) + 7 * (k : Int) + 3) % 256)) := T2.out.cell k hlt4
                  by_cases hka : k < L n
                  · have x0 : wr.cell? ⟨G n, k, none⟩ = some (.int .u8 ((31 * (n : Int) + 7 * (k : Int) + 3) % 256)) := T0.out.cell k hka
                    have hkb : ((k : Int) == (L n : Int)) = false := by simp; omega
                    go_wp2_with fail
                    exact ⟨⟨k + 1, by omega, by go_num⟩, by simp [intOf]; omega⟩
                  · by_cases hke : k = L n
                    · have x1 : wr.cell? ⟨B1, k, none⟩ = some (.int .u8 ((31 * (n : Int) + 7 * (k : Int) + 3) % 256)) := T1.out.cell k (by omega)
                      have hkb : ((k : Int) == (L n : Int)) = true := by simp [hke]
                      have hkl : k < L n + 1 := by omega
                      clear hke
                      go_wp2_with fail
                      exact ⟨⟨k + 1, by omega, by go_num⟩, by simp [intOf]; omega⟩
                    · have hkb : ((k : Int) == (L n : Int)) = false := by simp; omega
                      clear hke
                      go_wp2_with fail
                      exact ⟨⟨k + 1, by omega, by go_num⟩, by simp [intOf]; omega⟩
                · go_wp2_with fail
                  exact ⟨⟨n + 1, by omega, by go_num⟩, by simp [intOf]; omega⟩
            · go_wp2_with fail
              go_ret
              exact ⟨rfl, HST.out.kept⟩
end Go.Proofs.YtlhopgdafaehhaaDoor

/-
  The walk over apartWords: lists that are nil or lie in blocks of their own are told apart: true.
-/
import Derived.Test.YtbdjghokedfkfaaDoorGa
import Derived.Deep.RegionHeld3
namespace Go.Proofs.YtbdjghokedfkfaaDoor
open Go.RowKit
set_option linter.unusedVariables false

theorem Tryd.infWords : (Tryd.prog.info? 63).map (fun i => (i.zero, i.size, i.bytes)) = some (some (.int .u64 0), 1, 8) := by kernel_rfl
theorem Tryd.inlWords : (Tryd.prog.info? 23).map (fun i => (i.zero, i.size, i.bytes)) = some (some (.slice none 0 0), 1, 24) := by kernel_rfl

/-- The mark of place i of the list n, as a number. -/
def nm (n i : Nat) : Int := 1048576 * (n : Int) + (i : Int) + 1
theorem nm_wrap_u64 (n i : Nat) (hn : n ≤ 300) (hi : i ≤ 8388608) : IntKind.u64.wrap (nm n i) = nm n i := by
  rw [IntKind.wrap_u64]; unfold nm; omega

/-- flagonref00.num. -/
theorem num65 (n i : Nat) (w : World) (hn : n ≤ 300) (hi : i ≤ 8388608) : Calls Tryd.prog 65 #[.int .i64 n, .int .i64 i] w fun e w' => e = .returned (.int .i64 (nm n i)) ∧ w' = w := by
  go_enter Tryd.func65, Tryd.ntmps65
  go_wp2
  go_ret
  exact ⟨by simp [nm], rfl⟩

theorem ma_drewWords {e : TypeId} {mk : Nat → Nat → Value} {w : World} {m : Nat} {N : Nat → Prop} {G L C : Nat → Nat} {wr : World} {n : Nat} (h : Ma e mk w m N G L C wr n) : Ma e mk w m N G L C wr.drew n :=
  ⟨h.kept.trans ((Kept.drewN _ wr 1).mono (fun _ x => x)), h.rows, fun j hj i hi => by rw [World.cell?_drew]; exact h.done j hj i hi⟩

/-- The mark of place i of the list n. -/
def mkWords (n i : Nat) : Value := .int .u64 (nm n i)

/-- What the lists are: nil, or a row of their own. -/
def ListsWords (w : World) (m : Nat) (N : Nat → Prop) (A : Nat → Option Addr) (G L C : Nat → Nat) : Prop :=
  ∀ j, j < m → (N j ∧ A j = some ⟨G j, 0, none⟩ ∧ ∃ xs, Row w 63 (G j) (L j) (C j) xs) ∨ (¬ N j ∧ A j = none ∧ L j = 0 ∧ C j = 0)

set_option maxRecDepth 100000 in
set_option maxHeartbeats 4000000 in
theorem apart33 (GB X m cx : Nat) (N : Nat → Prop) (A : Nat → Option Addr) (G L C : Nat → Nat) (w : World) (hm : m ≤ 300)
    (hg : w.cell? ⟨GB, 3, none⟩ = some (.slice (some ⟨X, 0, none⟩) m cx))
    (hx : ∀ j, j < m → w.cell? ⟨X, j, none⟩ = some (.slice (A j) (L j) (C j)))
    (ho : ListsWords w m N A G L C) (hL : ∀ j, j < m → L j ≤ 4194304)
    (hinj : ∀ a b, a < m → b < m → N a → N b → G a = G b → a = b) (hGX : ∀ j, j < m → N j → ¬ GB = G j ∧ ¬ X = G j) :
    Calls Tryd.prog 33 #[.pointer (some ⟨GB, 0, none⟩)] w fun e w' => e = .returned (.bool true) ∧ Kept (Own m N G) w w' := by
  have hN : ∀ j, j < m → 0 < L j → N j ∧ A j = some ⟨G j, 0, none⟩ := fun j hj h0 => by
    rcases ho j hj with h | h
    · exact ⟨h.1, h.2.1⟩
    · omega
  have hR : ∀ j, j < m → N j → ∃ xs, Row w 63 (G j) (L j) (C j) xs := fun j hj h0 => by
    rcases ho j hj with h | h
    · exact h.2.2
    · exact absurd h0 h.1
  have hS : ∀ j, j < m → (N j ∧ A j = some ⟨G j, 0, none⟩) ∨ (A j = none ∧ L j = 0 ∧ C j = 0) := fun j hj => by
    rcases ho j hj with h | h
    · exact .inl ⟨h.1, h.2.1⟩
    · exact .inr h.2
  have HX := hid hx
  have HL := hid hL
  have HI := hid hinj
  have HGX := hid hGX
  have HN := hid hN
  have HR := hid hR
  have HSN := hid hS
  have HG := hid hg
  have nGB : ¬ Own m N G GB := fun ⟨j, hj, hn, e⟩ => (hGX j hj hn).1 e
  have nX : ¬ Own m N G X := fun ⟨j, hj, hn, e⟩ => (hGX j hj hn).2 e
  have NGB := hid nGB
  have NX := hid nX
  clear hx hL hinj hGX ho hg nGB nX hN hR hS
  go_enter Tryd.func33, Tryd.ntmps33
  go_wp2_with fail
  go_loopw [3] (fun i wr => ∃ n : Nat, n ≤ m ∧ i = .int .i64 n ∧ Ma 63 mkWords w m N G L C wr n) (fun i _ => m - (intOf i).toNat)
  case atStart => exact ⟨0, by omega, rfl, Kept.refl _ _, HR.out, fun j hj => absurd hj (by omega)⟩
  case round =>
    obtain ⟨n, hn, rfl, hma⟩ := hrel
    have c0 : wr.cell? ⟨GB, 3, none⟩ = some (.slice (some ⟨X, 0, none⟩) m cx) := hma.kept.cell HG.out NGB.out
    by_cases hlt : n < m
    · have HM := hid hma
      clear hma
      go_wp2_with fail
      go_loopw [4] (fun i wr => ∃ k : Nat, k ≤ L n ∧ i = .int .i64 k ∧ Ma 63 mkWords w m N G L C wr n ∧ ∀ t, t < k → wr.cell? ⟨G n, t, none⟩ = some (mkWords n t)) (fun i _ => L n - (intOf i).toNat)
      case atStart => exact ⟨0, by omega, rfl, HM.out, fun t ht => absurd ht (by omega)⟩
      case round =>
        obtain ⟨k, hk, rfl, hma, hdn⟩ := hrel
        clear c0
        have hLn := HL.out n hlt
        have c0 : wr.cell? ⟨GB, 3, none⟩ = some (.slice (some ⟨X, 0, none⟩) m cx) := hma.kept.cell HG.out NGB.out
        have c1 : wr.cell? ⟨X, n, none⟩ = some (.slice (A n) (L n) (C n)) := hma.kept.cell (HX.out n hlt) NX.out
        by_cases hkl : k < L n
        · obtain ⟨hNn, hAn⟩ := HN.out n hlt (by omega)
          rw [hAn] at c1
          obtain ⟨xs, hrow⟩ := hma.rows n hlt hNn
          have hcl : ∃ u, wr.cell? ⟨G n, k, none⟩ = some u := ⟨_, (hrow.cell k hkl).trans (List.getElem?_eq_getElem (by have := hrow.1; omega))⟩
          obtain ⟨u0, hcl⟩ := hcl
          have hfz := hrow.free k
          have P := hid (hma.put hlt (fun j hj h0 => (HN.out j hj h0).1) hkl HI.out hdn)
          have gx := HGX.out n hlt hNn
          have g1 : ¬ GB = G n := gx.1
          have g2 : ¬ X = G n := gx.2
          have cv := nm_wrap_u64 n k (by omega) (by omega)
          have hn3 : n ≤ 300 := by omega
          have hk3 : k ≤ 8388608 := by omega
          clear hma hdn hrow HM gx
          have s0 : ∀ v, (wr.setCell ⟨G n, k, none⟩ v).cell? ⟨GB, 3, none⟩ = some (.slice (some ⟨X, 0, none⟩) m cx) := fun v => (World.cell?_setCell_other _ _ _ _ (fun e => g1 (by injection e with e1; exact e1.symm))).trans c0
          have s1 : ∀ v, (wr.setCell ⟨G n, k, none⟩ v).cell? ⟨X, n, none⟩ = some (.slice (some ⟨G n, 0, none⟩) (L n) (C n)) := fun v => (World.cell?_setCell_other _ _ _ _ (fun e => g2 (by injection e with e1; exact e1.symm))).trans c1
          go_wp2_with fail
          go_region_held3 (fun W => W.cell? ⟨GB, 3, none⟩ = some (.slice (some ⟨X, 0, none⟩) m cx) ∧ W.cell? ⟨X, n, none⟩ = some (.slice (some ⟨G n, 0, none⟩) (L n) (C n))) (first | go_keep | (simp only [World.cell?_drew]; exact ⟨s0 _, s1 _⟩))
            (first | (go_at_call 65; refine (num65 n k _ hn3 hk3).mono ?_; rintro e w' ⟨rfl, rfl⟩))
          go_wp2_with fail
          exact ⟨⟨k + 1, by omega, by go_num, ma_drewWords P.out.1, fun t ht => by rw [World.cell?_drew]; exact P.out.2 t ht⟩, by simp [intOf]; omega⟩
        · have hkk : k = L n := by omega
          subst hkk
          have D := hid (show Ma 63 mkWords w m N G L C wr (n + 1) from ⟨hma.kept, hma.rows, fun j hj i hi => by
            by_cases e : j = n
            · subst e; exact hdn i hi
            · exact hma.done j (by omega) i hi⟩)
          clear hma hdn HM
          go_wp2_with fail
          exact ⟨⟨n + 1, by omega, by go_num, D.out⟩, by simp [intOf]; omega⟩
    · have hnm : m = n := by omega
      subst hnm
      obtain ⟨f0, hst0⟩ := hma.state 23 HI.out
      have HS0 := hid hst0
      obtain ⟨i5, q0, q1, q2, q3⟩ := info_parts Tryd.infWords
      obtain ⟨i24, p0, p1, p2, p3⟩ := info_parts Tryd.inlWords
      have hes : (23 : TypeId) ≠ 63 := by decide
      clear hma hst0
      go_wp2_with fail
      clear c0
      go_loopw [5, 6, 7] (fun one more i wr => ∃ (n : Nat) (f : Nat → Nat) (ovs mvs : List Value), n ≤ m ∧ i = .int .i64 n ∧ St 63 23 mkWords w m N G L C wr f n n one more ovs mvs) (fun _ _ i _ => m - (intOf i).toNat)
      case atStart => exact ⟨0, f0, [], [], by omega, rfl, HS0.out⟩
      case round =>
        obtain ⟨n, f, ovs, mvs, hnm, rfl, hst⟩ := hrel
        have c0 : wr.cell? ⟨GB, 3, none⟩ = some (.slice (some ⟨X, 0, none⟩) m cx) := hst.kept.cell HG.out NGB.out
        by_cases hlt2 : n < m
        · have hLn := HL.out n hlt2
          have c1 : wr.cell? ⟨X, n, none⟩ = some (.slice (A n) (L n) (C n)) := hst.kept.cell (HX.out n hlt2) NX.out
          have HST := hid hst
          clear hst HS0
          go_wp2_with fail
          clear c0 c1
          go_loopw [5, 8, 9] (fun one l i wr => ∃ (k n1 : Nat) (f : Nat → Nat) (ovs : List Value), L n ≤ k ∧ k ≤ L n + 70 ∧ i = .int .i64 k ∧ Lst 63 mkWords w N G wr f n k l ∧ ((k = L n ∧ n1 = n) ∨ (L n + 1 ≤ k ∧ n1 = n + 1)) ∧ St 63 23 mkWords w m N G L C wr f n1 n one u6 ovs mvs) (fun _ _ i _ => L n + 70 - (intOf i).toNat)
          case atStart =>
            refine ⟨L n, n, f, ovs, by omega, by omega, rfl, ?_, .inl ⟨rfl, rfl⟩, HST.out⟩
            rcases HSN.out n hlt2 with ⟨hNn, hAn⟩ | ⟨hAn, h0, h1⟩
            · exact .inr ⟨G n, C n, by rw [hAn], HST.out.own n hlt2 hNn, .inl ⟨hNn, rfl⟩⟩
            · exact .inl ⟨by rw [hAn, h0, h1], h0⟩
          case round =>
            obtain ⟨k, n1, f, ovs, hk0, hk1, rfl, hlst, hn1, hst⟩ := hrel
            obtain ⟨la, lc, rfl⟩ := hlst.slice
            have c0 : wr.cell? ⟨GB, 3, none⟩ = some (.slice (some ⟨X, 0, none⟩) m cx) := hst.kept.cell HG.out NGB.out
            have c1 : wr.cell? ⟨X, n, none⟩ = some (.slice (A n) (L n) (C n)) := hst.kept.cell (HX.out n hlt2) NX.out
            by_cases hk : k < L n + 70
            · have cv := nm_wrap_u64 n k (by omega) (by omega)
              have hn3 : n ≤ 300 := by omega
              have hk3 : k ≤ 8388608 := by omega
              have hown : (wr.alloc (.cells #[.int .u64 (nm n k)] 63)).ownsRow 0 63 1 (.slice la k lc) k (ml mkWords n k) := (hlst.kept (Kept.alloc (fun _ => False) wr _)).own
              have HOW := hid hown
              have HST2 := hid hst
              have HLS := hid hlst
              have HN1 := hid hn1
              have hb1 : k + 1 ≤ maxLen := by unfold maxLen; omega
              have hb2 : (k + 1) * 8 ≤ 140737488355328 := by omega
              have hb3 : n + 1 ≤ maxLen := by unfold maxLen; omega
              have hb4 : (n + 1) * 24 ≤ 140737488355328 := by omega
              clear hown hst hlst hn1
              by_cases hke : k = L n
              · have hkb : ((k : Int) == (L n : Int)) = true := by simp [hke]
                have hn1' : n1 = n := by have := HN1.out; omega
                subst hn1'
                have KE := hid hke
                clear hke
                go_wp2_with (first
                  | (go_at_call 65; refine (num65 n1 k _ hn3 hk3).mono ?_; rintro e w' ⟨rfl, rfl⟩)
                  | (at_builtin; refine app_cell _ rfl (.tmp 79) (.tmp 84) 23 rfl 63 i5 (.int .u64 0) 8 Tryd.underlying23 q0 q1 q2 q3 rfl _ k _ rfl HOW.out ⟨w'.heap.size, 0, none⟩ (.int .u64 (nm n1 k)) rfl (by simp [Addr.add]) rfl hb1 hb2 ?_; intro B cap' w2 hrow hcase; obtain ⟨f', hs2, ht2, hg2⟩ := stepL hes HST2.out HLS.out hlt2 _ hrow hcase hk0 (.inl ⟨KE.out, rfl⟩) (Nat.le_refl _); have c0' := hs2.kept.cell HG.out NGB.out; have c1' := hs2.kept.cell (HX.out n1 hlt2) NX.out; have S2 := hid hs2; have T2 := hid ht2; have G2 := hid hg2; clear hs2 ht2 hg2 hrow hcase)
                  | (at_builtin; refine app_cell _ rfl (.tmp 96) (.tmp 98) 38 rfl 23 i24 (.slice none 0 0) 24 Tryd.underlying38 p0 p1 p2 p3 rfl _ n1 _ rfl (by exact (S2.out.alloc _).ownOne) ⟨w2.heap.size, 0, none⟩ (.slice (some ⟨B, 0, none⟩) (k + 1) cap') rfl (by simp [Addr.add]) rfl hb3 hb4 ?_; intro B2 cap2 w3 hrow2 hcase2; obtain ⟨hs3, ht3⟩ := stepO hes S2.out (by rw [KE.out]) T2.out _ hrow2 hcase2; have S3 := hid hs3; have T3 := hid ht3; clear hs3 ht3 hrow2 hcase2))
                have hk2 := KE.out
                refine ⟨⟨k + 1, n1 + 1, f', _, by omega, by omega, by go_num, .inr ⟨B, cap', rfl, T3.out, G2.out⟩, .inr ⟨by omega, rfl⟩, S3.out⟩, by simp [intOf]; omega⟩
              · have hkb : ((k : Int) == (L n : Int)) = false := by simp; omega
                have hn1' : n1 = n + 1 := by have := HN1.out; omega
                subst hn1'
                clear hke
                go_wp2_with (first
                  | (go_at_call 65; refine (num65 n k _ hn3 hk3).mono ?_; rintro e w' ⟨rfl, rfl⟩)
                  | (at_builtin; refine app_cell _ rfl (.tmp 79) (.tmp 84) 23 rfl 63 i5 (.int .u64 0) 8 Tryd.underlying23 q0 q1 q2 q3 rfl _ k _ rfl HOW.out ⟨w'.heap.size, 0, none⟩ (.int .u64 (nm n k)) rfl (by simp [Addr.add]) rfl hb1 hb2 ?_; intro B cap' w2 hrow hcase; obtain ⟨f', hs2, ht2, hg2⟩ := stepL hes HST2.out HLS.out hlt2 _ hrow hcase hk0 (.inr ⟨by have := HN1.out; omega, rfl⟩) (Nat.le_refl _); have c0' := hs2.kept.cell HG.out NGB.out; have c1' := hs2.kept.cell (HX.out n hlt2) NX.out; have S2 := hid hs2; have T2 := hid ht2; have G2 := hid hg2; clear hs2 ht2 hg2 hrow hcase))
                refine ⟨⟨k + 1, n + 1, f', _, by omega, by omega, by go_num, .inr ⟨B, cap', rfl, T2.out, G2.out⟩, .inr ⟨by have := HN1.out; omega, rfl⟩, S2.out⟩, by simp [intOf]; omega⟩
            · obtain rfl : k = L n + 70 := by omega
              have hn1' : n1 = n + 1 := by omega
              subst hn1'
              have hb3 : n + 1 ≤ maxLen := by unfold maxLen; omega
              have hb4 : (n + 1) * 24 ≤ 140737488355328 := by omega
              rcases hlst with ⟨_, h0⟩ | ⟨g, cap, hv, htr, _⟩
              · omega
              simp only [Value.slice.injEq, true_and] at hv
              obtain ⟨rfl, rfl⟩ := hv
              have HST2 := hid hst
              have HTR := hid htr
              clear hst htr hn1
              go_wp2_with (first
                  | (at_builtin; refine app_cell _ rfl (.tmp 100) (.tmp 102) 38 rfl 23 i24 (.slice none 0 0) 24 Tryd.underlying38 p0 p1 p2 p3 rfl _ n _ rfl (by exact (HST2.out.alloc _).ownMore) ⟨wr.heap.size, 0, none⟩ (.slice (some ⟨g, 0, none⟩) (L n + 70) lc) rfl (by simp [Addr.add]) rfl hb3 hb4 ?_; intro B2 cap2 w3 hrow2 hcase2; have S3 := hid (stepM hes HST2.out rfl HTR.out _ hrow2 hcase2); clear hrow2 hcase2))
              refine ⟨⟨n + 1, _, _, _, by omega, by go_num, S3.out⟩, by simp [intOf]; omega⟩
        · have hnm2 : m = n := by omega
          subst hnm2
          obtain ⟨oa, oc, e5, h5⟩ := own_sliceM hst.ownOne
          obtain ⟨ma, mc, e6, h6⟩ := own_sliceM hst.ownMore
          subst e5
          subst e6
          have HST := hid hst
          have H5 := hid h5
          have H6 := hid h6
          clear hst HS0 h5 h6
          go_wp2_with fail
          clear c0
          go_loop [10] (fun i => ∃ n : Nat, n ≤ m ∧ i = .int .i64 n) (fun i => m - (intOf i).toNat)
          case atStart => exact ⟨0, by omega, rfl⟩
          case round =>
            obtain ⟨n, hnm3, rfl⟩ := hrel
            by_cases hlt3 : n < m
            · have hLn := HL.out n hlt3
              obtain ⟨OB, rfl, ho1⟩ : ∃ B, oa = some ⟨B, 0, none⟩ ∧ ∀ j, j < m → wr.cell? ⟨B, j, none⟩ = ovs[j]? := by
                rcases H5.out with h | h
                · omega
                · exact h
              obtain ⟨MB, rfl, hm1⟩ : ∃ B, ma = some ⟨B, 0, none⟩ ∧ ∀ j, j < m → wr.cell? ⟨B, j, none⟩ = mvs[j]? := by
                rcases H6.out with h | h
                · omega
                · exact h
              obtain ⟨B1, b1c, hb1, ht1⟩ := HST.out.ones n hlt3
              obtain ⟨B2, b2c, hb2, ht2⟩ := HST.out.mores n hlt3
              have co : wr.cell? ⟨OB, n, none⟩ = some (.slice (some ⟨B1, 0, none⟩) (L n + 1) b1c) := (ho1 n hlt3).trans hb1
              have cm : wr.cell? ⟨MB, n, none⟩ = some (.slice (some ⟨B2, 0, none⟩) (L n + 70) b2c) := (hm1 n hlt3).trans hb2
              have c0 : wr.cell? ⟨GB, 3, none⟩ = some (.slice (some ⟨X, 0, none⟩) m cx) := HST.out.kept.cell HG.out NGB.out
              have c1 : wr.cell? ⟨X, n, none⟩ = some (.slice (A n) (L n) (C n)) := HST.out.kept.cell (HX.out n hlt3) NX.out
              have T0 := hid (fun hN => HST.out.own n hlt3 hN)
              have T1 := hid ht1
              have T2 := hid ht2
              clear ho1 hm1 hb1 hb2 ht1 ht2 H5 H6 HST
              go_wp2_with fail
              go_loop [11] (fun i => ∃ k : Nat, k ≤ L n + 70 ∧ i = .int .i64 k) (fun i => L n + 70 - (intOf i).toNat)
              case atStart => exact ⟨0, by omega, rfl⟩
              case round =>
                obtain ⟨k, hk, rfl⟩ := hrel
                by_cases hlt4 : k < L n + 70
                · have x2 : wr.cell? ⟨B2, k, none⟩ = some (.int .u64 (nm n k)) := T2.out.cell k hlt4
                  have cv := nm_wrap_u64 n k (by omega) (by omega)
                  have hn3 : n ≤ 300 := by omega
                  have hk3 : k ≤ 8388608 := by omega
                  by_cases hka : k < L n
                  · obtain ⟨hNn, hAn⟩ := HN.out n hlt3 (by omega)
                    rw [hAn] at c1
                    have x0 : wr.cell? ⟨G n, k, none⟩ = some (.int .u64 (nm n k)) := (T0.out hNn).cell k hka
                    have hkb : ((k : Int) == (L n : Int)) = false := by simp; omega
                    go_wp2_with (first | (go_at_call 65; refine (num65 n k _ hn3 hk3).mono ?_; rintro e w' ⟨rfl, rfl⟩))
                    exact ⟨⟨k + 1, by omega, by go_num⟩, by simp [intOf]; omega⟩
                  · by_cases hke : k = L n
                    · have x1 : wr.cell? ⟨B1, k, none⟩ = some (.int .u64 (nm n k)) := T1.out.cell k (by omega)
                      have hkb : ((k : Int) == (L n : Int)) = true := by simp [hke]
                      have hkl : k < L n + 1 := by omega
                      clear hke
                      go_wp2_with (first | (go_at_call 65; refine (num65 n k _ hn3 hk3).mono ?_; rintro e w' ⟨rfl, rfl⟩))
                      exact ⟨⟨k + 1, by omega, by go_num⟩, by simp [intOf]; omega⟩
                    · have hkb : ((k : Int) == (L n : Int)) = false := by simp; omega
                      clear hke
                      go_wp2_with (first | (go_at_call 65; refine (num65 n k _ hn3 hk3).mono ?_; rintro e w' ⟨rfl, rfl⟩))
                      exact ⟨⟨k + 1, by omega, by go_num⟩, by simp [intOf]; omega⟩
                · go_wp2_with fail
                  exact ⟨⟨n + 1, by omega, by go_num⟩, by simp [intOf]; omega⟩
            · go_wp2_with fail
              go_ret
              exact ⟨rfl, HST.out.kept⟩
end Go.Proofs.YtbdjghokedfkfaaDoor

/-
  The walk over the document's ReadSig.
-/
import Derived.Test.YtdlpbldpddobcaaRead
namespace Go.Proofs.Ytdlpbldpddobcaa
open Go.RowKit
set_option linter.unusedVariables false

/-- What holds behind the document's Word. -/
theorem after9 {w wr w1 : World} (p r : ByteArray) (hk : wr.heap[w.heap.size]? = some (.cells #[.string ⟨#[]⟩, .string ⟨#[]⟩] 23)) (hb : Below w.heap.size w wr)
    (h1 : Below (wr.alloc (.cells #[.string p, .string r] 23)).heap.size (wr.alloc (.cells #[.string p, .string r] 23)) w1) :
    w1.heap[w.heap.size]? = some (.cells #[.string ⟨#[]⟩, .string ⟨#[]⟩] 23) ∧ Below w.heap.size w w1 ∧
    w1.cell? ⟨wr.heap.size, 0, none⟩ = some (.string p) ∧ w1.cell? ⟨wr.heap.size, 1, none⟩ = some (.string r) ∧
    w1.cell? ⟨w.heap.size, 0, none⟩ = some (.string ⟨#[]⟩) ∧ w1.cell? ⟨w.heap.size, 1, none⟩ = some (.string ⟨#[]⟩) ∧ w1.frozen? ⟨w.heap.size, 0, none⟩ = false ∧ w1.frozen? ⟨w.heap.size, 1, none⟩ = false := by
  have hlt : w.heap.size < wr.heap.size := by
    rcases Nat.lt_or_ge w.heap.size wr.heap.size with h | h
    · exact h
    · rw [Array.getElem?_eq_none h] at hk; cases hk
  have hx : w1.heap[w.heap.size]? = some (.cells #[.string ⟨#[]⟩, .string ⟨#[]⟩] 23) := by
    rw [h1.block _ (by simp; omega), Below.heap_alloc _ _ _ hlt]; exact hk
  have hy : w1.heap[wr.heap.size]? = some (.cells #[.string p, .string r] 23) := by
    rw [h1.block _ (by simp)]; exact heap_alloc_new _ _
  refine ⟨hx, (hb.alloc hb.size _).trans (h1.mono (by have := hb.size; simp; omega)), ?_, ?_, ?_, ?_, blk_free hx 0, blk_free hx 1⟩
  · rw [blk_cell hy]; rfl
  · rw [blk_cell hy]; rfl
  · rw [blk_cell hx]; rfl
  · rw [blk_cell hx]; rfl
theorem step9 {s : ByteArray} {n m : Nat} (h : ∀ k, k < m → hit s n k = false) (hm : hit s n m = false) : ∀ k, k < m + 1 → hit s n k = false := by
  intro k hk
  rcases Nat.lt_or_ge k m with h' | h'
  · exact h k h'
  · obtain rfl : k = m := by omega
    exact hm
theorem step9' {s : ByteArray} {n : Nat} (h : ∀ i k, i < n → k ≤ 8 → hit s i k = false) (hn : ∀ k, k ≤ 8 → hit s n k = false) : ∀ i k, i < n + 1 → k ≤ 8 → hit s i k = false := by
  intro i k hi hk
  rcases Nat.lt_or_ge i n with h' | h'
  · exact h i k h' hk
  · obtain rfl : i = n := by omega
    exact hn k hk

set_option maxRecDepth 100000 in
set_option maxHeartbeats 4000000 in
theorem readSig9 (s : ByteArray) (w : World) (hs : s.size ≤ 1073741824) :
    Calls Try.prog 9 #[.string s] w fun e w' => e = .returned (.tuple #[.agg #[.string (rdP s), .string (rdR s)], .int .i64 (rdE s)]) ∧ Below w.heap.size w w' := by
  go_enter Try.func9, Try.ntmps9
  go_wp2
  go_loopw [4] (fun i wr => ∃ n : Nat, n ≤ 9 ∧ n ≤ s.size ∧ i = .int .i64 n ∧ (∀ i k, i < n → k ≤ 8 → hit s i k = false) ∧ wr.heap[w.heap.size]? = some (.cells #[.string ⟨#[]⟩, .string ⟨#[]⟩] 23) ∧ Below w.heap.size w wr) (fun i _ => 9 - (intOf i).toNat)
  case atStart => exact ⟨0, by omega, by omega, rfl, fun i k h _ => by omega, heap_alloc_new _ _, (Below.refl _ _).alloc (Nat.le_refl _) _⟩
  case round =>
    obtain ⟨n, hn9, hns, rfl, hno, hblk, hb⟩ := hrel
    have HN := hid hno
    have HK := hid hblk
    have HB := hid hb
    clear hno hblk hb
    by_cases hc : n < s.size ∧ n ≤ 8
    · obtain ⟨hc1, hc2⟩ := hc
      have hc1' : (n : Int) < s.size := by omega
      have hc2' : (n : Int) ≤ 8 := by omega
      go_wp2
      go_loopw [5] (fun k wr => ∃ m : Nat, m ≤ 9 ∧ k = .int .i64 m ∧ (∀ k, k < m → hit s n k = false) ∧ wr.heap[w.heap.size]? = some (.cells #[.string ⟨#[]⟩, .string ⟨#[]⟩] 23) ∧ Below w.heap.size w wr) (fun k _ => 9 - (intOf k).toNat)
      case atStart => exact ⟨0, by omega, rfl, fun k h => by omega, HK.out, HB.out⟩
      case round =>
        obtain ⟨m, hm9, rfl, hno, hblk, hb⟩ := hrel
        have HM := hid hno
        have HK2 := hid hblk
        have HB2 := hid hb
        clear hno hblk hb HK HB
        by_cases hm : m ≤ 8
        · have hm' : (m : Int) ≤ 8 := by omega
          cases h45 : ((s.extract 0 n).toList == [45])
          · by_cases hk : m ≤ s.size
            · have hk' : (m : Int) ≤ s.size := by omega
              cases h46 : ((s.extract (s.size - m) s.size).toList == [45])
              · have e1 : candP s n = (s.extract 0 n) := by rw [candP, undash, h45]; rfl
                have e2 : candR s m = (s.extract (s.size - m) s.size) := by rw [candR, if_pos hk, undash, h46]; rfl
                have hh : hit s n m = (sigB (s.extract 0 n) (s.extract (s.size - m) s.size) && ((wordS (s.extract 0 n) (s.extract (s.size - m) s.size)).toList == s.toList)) := by rw [hit, e1, e2]
                have z1 : ((s.extract 0 n) : ByteArray).size ≤ 1073741824 := by rw [ByteArray.size_extract]; omega
                have z2 : ((s.extract (s.size - m) s.size) : ByteArray).size ≤ 1073741824 := by rw [ByteArray.size_extract]; omega
                go_wp2_with fail
                refine (word7 (s.extract 0 n) (s.extract (s.size - m) s.size) _ z1 z2).mono ?_
                rintro e w1 ⟨rfl, hb1⟩
                have F := hid (after9 (s.extract 0 n) (s.extract (s.size - m) s.size) HK2.out HB2.out hb1)
                clear hb1
                cases hg : sigB (s.extract 0 n) (s.extract (s.size - m) s.size)
                · rw [show wordE (s.extract 0 n) (s.extract (s.size - m) s.size) = 15 by rw [wordE, hg]; rfl]
                  generalize wordV (s.extract 0 n) (s.extract (s.size - m) s.size) = wv
                  go_wp2
                  go_roundw
                  case rel => exact ⟨m + 1, by omega, by simp, step9 HM.out (by rw [hh, hg]; rfl), F.out.1, F.out.2.1⟩
                  case measure => simp [intOf]; omega
                · rw [show wordE (s.extract 0 n) (s.extract (s.size - m) s.size) = 0 by rw [wordE, hg]; rfl, show wordV (s.extract 0 n) (s.extract (s.size - m) s.size) = wordS (s.extract 0 n) (s.extract (s.size - m) s.size) by rw [wordV, hg]; rfl]
                  cases hw : ((wordS (s.extract 0 n) (s.extract (s.size - m) s.size)).toList == s.toList)
                  · go_wp2
                    go_roundw
                    case rel => exact ⟨m + 1, by omega, by simp, step9 HM.out (by rw [hh, hg, hw]; rfl), F.out.1, F.out.2.1⟩
                    case measure => simp [intOf]; omega
                  · obtain ⟨_, _, x0, x1, y0, y1, f0, f1⟩ := F.out
                    have HH := hid (hit_rd (s := s) (i := n) (k := m) (by rw [hh, hg, hw]; rfl))
                    have HB3 := hid F.out.2.1
                    go_wp2
                    (try simp only [Exit.inBlock, Exit.then])
                    refine bodyPost_ret (v := .tuple #[.agg #[.string (s.extract 0 n), .string (s.extract (s.size - m) s.size)], .int .i64 0]) ?_ rfl ⟨by rw [HH.out.1, HH.out.2.1, HH.out.2.2, e1, e2], ?_⟩
                    · rw [results_cell_tmp rfl]
                      go_simp
                    · exact (HB3.out.setCell (by simp) _).setCell (by simp) _
              · have e1 : candP s n = (s.extract 0 n) := by rw [candP, undash, h45]; rfl
                have e2 : candR s m = ⟨#[]⟩ := by rw [candR, if_pos hk, undash, h46]; rfl
                have hh : hit s n m = (sigB (s.extract 0 n) ⟨#[]⟩ && ((wordS (s.extract 0 n) ⟨#[]⟩).toList == s.toList)) := by rw [hit, e1, e2]
                have z1 : ((s.extract 0 n) : ByteArray).size ≤ 1073741824 := by rw [ByteArray.size_extract]; omega
                have z2 : (⟨#[]⟩ : ByteArray).size ≤ 1073741824 := by exact Nat.zero_le _
                go_wp2_with fail
                refine (word7 (s.extract 0 n) ⟨#[]⟩ _ z1 z2).mono ?_
                rintro e w1 ⟨rfl, hb1⟩
                have F := hid (after9 (s.extract 0 n) ⟨#[]⟩ HK2.out HB2.out hb1)
                clear hb1
                cases hg : sigB (s.extract 0 n) ⟨#[]⟩
                · rw [show wordE (s.extract 0 n) ⟨#[]⟩ = 15 by rw [wordE, hg]; rfl]
                  generalize wordV (s.extract 0 n) ⟨#[]⟩ = wv
                  go_wp2
                  go_roundw
                  case rel => exact ⟨m + 1, by omega, by simp, step9 HM.out (by rw [hh, hg]; rfl), F.out.1, F.out.2.1⟩
                  case measure => simp [intOf]; omega
                · rw [show wordE (s.extract 0 n) ⟨#[]⟩ = 0 by rw [wordE, hg]; rfl, show wordV (s.extract 0 n) ⟨#[]⟩ = wordS (s.extract 0 n) ⟨#[]⟩ by rw [wordV, hg]; rfl]
                  cases hw : ((wordS (s.extract 0 n) ⟨#[]⟩).toList == s.toList)
                  · go_wp2
                    go_roundw
                    case rel => exact ⟨m + 1, by omega, by simp, step9 HM.out (by rw [hh, hg, hw]; rfl), F.out.1, F.out.2.1⟩
                    case measure => simp [intOf]; omega
                  · obtain ⟨_, _, x0, x1, y0, y1, f0, f1⟩ := F.out
                    have HH := hid (hit_rd (s := s) (i := n) (k := m) (by rw [hh, hg, hw]; rfl))
                    have HB3 := hid F.out.2.1
                    go_wp2
                    (try simp only [Exit.inBlock, Exit.then])
                    refine bodyPost_ret (v := .tuple #[.agg #[.string (s.extract 0 n), .string ⟨#[]⟩], .int .i64 0]) ?_ rfl ⟨by rw [HH.out.1, HH.out.2.1, HH.out.2.2, e1, e2], ?_⟩
                    · rw [results_cell_tmp rfl]
                      go_simp
                    · exact (HB3.out.setCell (by simp) _).setCell (by simp) _
            · have hk' : ¬ (m : Int) ≤ s.size := by omega
              have e1 : candP s n = (s.extract 0 n) := by rw [candP, undash, h45]; rfl
              have e2 : candR s m = ⟨#[]⟩ := by rw [candR, if_neg hk]
              have hh : hit s n m = (sigB (s.extract 0 n) ⟨#[]⟩ && ((wordS (s.extract 0 n) ⟨#[]⟩).toList == s.toList)) := by rw [hit, e1, e2]
              have z1 : ((s.extract 0 n) : ByteArray).size ≤ 1073741824 := by rw [ByteArray.size_extract]; omega
              have z2 : (⟨#[]⟩ : ByteArray).size ≤ 1073741824 := by exact Nat.zero_le _
              go_wp2_with fail
              refine (word7 (s.extract 0 n) ⟨#[]⟩ _ z1 z2).mono ?_
              rintro e w1 ⟨rfl, hb1⟩
              have F := hid (after9 (s.extract 0 n) ⟨#[]⟩ HK2.out HB2.out hb1)
              clear hb1
              cases hg : sigB (s.extract 0 n) ⟨#[]⟩
              · rw [show wordE (s.extract 0 n) ⟨#[]⟩ = 15 by rw [wordE, hg]; rfl]
                generalize wordV (s.extract 0 n) ⟨#[]⟩ = wv
                go_wp2
                go_roundw
                case rel => exact ⟨m + 1, by omega, by simp, step9 HM.out (by rw [hh, hg]; rfl), F.out.1, F.out.2.1⟩
                case measure => simp [intOf]; omega
              · rw [show wordE (s.extract 0 n) ⟨#[]⟩ = 0 by rw [wordE, hg]; rfl, show wordV (s.extract 0 n) ⟨#[]⟩ = wordS (s.extract 0 n) ⟨#[]⟩ by rw [wordV, hg]; rfl]
                cases hw : ((wordS (s.extract 0 n) ⟨#[]⟩).toList == s.toList)
                · go_wp2
                  go_roundw
                  case rel => exact ⟨m + 1, by omega, by simp, step9 HM.out (by rw [hh, hg, hw]; rfl), F.out.1, F.out.2.1⟩
                  case measure => simp [intOf]; omega
                · obtain ⟨_, _, x0, x1, y0, y1, f0, f1⟩ := F.out
                  have HH := hid (hit_rd (s := s) (i := n) (k := m) (by rw [hh, hg, hw]; rfl))
                  have HB3 := hid F.out.2.1
                  go_wp2
                  (try simp only [Exit.inBlock, Exit.then])
                  refine bodyPost_ret (v := .tuple #[.agg #[.string (s.extract 0 n), .string ⟨#[]⟩], .int .i64 0]) ?_ rfl ⟨by rw [HH.out.1, HH.out.2.1, HH.out.2.2, e1, e2], ?_⟩
                  · rw [results_cell_tmp rfl]
                    go_simp
                  · exact (HB3.out.setCell (by simp) _).setCell (by simp) _
          · by_cases hk : m ≤ s.size
            · have hk' : (m : Int) ≤ s.size := by omega
              cases h46 : ((s.extract (s.size - m) s.size).toList == [45])
              · have e1 : candP s n = ⟨#[]⟩ := by rw [candP, undash, h45]; rfl
                have e2 : candR s m = (s.extract (s.size - m) s.size) := by rw [candR, if_pos hk, undash, h46]; rfl
                have hh : hit s n m = (sigB ⟨#[]⟩ (s.extract (s.size - m) s.size) && ((wordS ⟨#[]⟩ (s.extract (s.size - m) s.size)).toList == s.toList)) := by rw [hit, e1, e2]
                have z1 : (⟨#[]⟩ : ByteArray).size ≤ 1073741824 := by exact Nat.zero_le _
                have z2 : ((s.extract (s.size - m) s.size) : ByteArray).size ≤ 1073741824 := by rw [ByteArray.size_extract]; omega
                go_wp2_with fail
                refine (word7 ⟨#[]⟩ (s.extract (s.size - m) s.size) _ z1 z2).mono ?_
                rintro e w1 ⟨rfl, hb1⟩
                have F := hid (after9 ⟨#[]⟩ (s.extract (s.size - m) s.size) HK2.out HB2.out hb1)
                clear hb1
                cases hg : sigB ⟨#[]⟩ (s.extract (s.size - m) s.size)
                · rw [show wordE ⟨#[]⟩ (s.extract (s.size - m) s.size) = 15 by rw [wordE, hg]; rfl]
                  generalize wordV ⟨#[]⟩ (s.extract (s.size - m) s.size) = wv
                  go_wp2
                  go_roundw
                  case rel => exact ⟨m + 1, by omega, by simp, step9 HM.out (by rw [hh, hg]; rfl), F.out.1, F.out.2.1⟩
                  case measure => simp [intOf]; omega
                · rw [show wordE ⟨#[]⟩ (s.extract (s.size - m) s.size) = 0 by rw [wordE, hg]; rfl, show wordV ⟨#[]⟩ (s.extract (s.size - m) s.size) = wordS ⟨#[]⟩ (s.extract (s.size - m) s.size) by rw [wordV, hg]; rfl]
                  cases hw : ((wordS ⟨#[]⟩ (s.extract (s.size - m) s.size)).toList == s.toList)
                  · go_wp2
                    go_roundw
                    case rel => exact ⟨m + 1, by omega, by simp, step9 HM.out (by rw [hh, hg, hw]; rfl), F.out.1, F.out.2.1⟩
                    case measure => simp [intOf]; omega
                  · obtain ⟨_, _, x0, x1, y0, y1, f0, f1⟩ := F.out
                    have HH := hid (hit_rd (s := s) (i := n) (k := m) (by rw [hh, hg, hw]; rfl))
                    have HB3 := hid F.out.2.1
                    go_wp2
                    (try simp only [Exit.inBlock, Exit.then])
                    refine bodyPost_ret (v := .tuple #[.agg #[.string ⟨#[]⟩, .string (s.extract (s.size - m) s.size)], .int .i64 0]) ?_ rfl ⟨by rw [HH.out.1, HH.out.2.1, HH.out.2.2, e1, e2], ?_⟩
                    · rw [results_cell_tmp rfl]
                      go_simp
                    · exact (HB3.out.setCell (by simp) _).setCell (by simp) _
              · have e1 : candP s n = ⟨#[]⟩ := by rw [candP, undash, h45]; rfl
                have e2 : candR s m = ⟨#[]⟩ := by rw [candR, if_pos hk, undash, h46]; rfl
                have hh : hit s n m = (sigB ⟨#[]⟩ ⟨#[]⟩ && ((wordS ⟨#[]⟩ ⟨#[]⟩).toList == s.toList)) := by rw [hit, e1, e2]
                have z1 : (⟨#[]⟩ : ByteArray).size ≤ 1073741824 := by exact Nat.zero_le _
                have z2 : (⟨#[]⟩ : ByteArray).size ≤ 1073741824 := by exact Nat.zero_le _
                go_wp2_with fail
                refine (word7 ⟨#[]⟩ ⟨#[]⟩ _ z1 z2).mono ?_
                rintro e w1 ⟨rfl, hb1⟩
                have F := hid (after9 ⟨#[]⟩ ⟨#[]⟩ HK2.out HB2.out hb1)
                clear hb1
                cases hg : sigB ⟨#[]⟩ ⟨#[]⟩
                · rw [show wordE ⟨#[]⟩ ⟨#[]⟩ = 15 by rw [wordE, hg]; rfl]
                  generalize wordV ⟨#[]⟩ ⟨#[]⟩ = wv
                  go_wp2
                  go_roundw
                  case rel => exact ⟨m + 1, by omega, by simp, step9 HM.out (by rw [hh, hg]; rfl), F.out.1, F.out.2.1⟩
                  case measure => simp [intOf]; omega
                · rw [show wordE ⟨#[]⟩ ⟨#[]⟩ = 0 by rw [wordE, hg]; rfl, show wordV ⟨#[]⟩ ⟨#[]⟩ = wordS ⟨#[]⟩ ⟨#[]⟩ by rw [wordV, hg]; rfl]
                  cases hw : ((wordS ⟨#[]⟩ ⟨#[]⟩).toList == s.toList)
                  · go_wp2
                    go_roundw
                    case rel => exact ⟨m + 1, by omega, by simp, step9 HM.out (by rw [hh, hg, hw]; rfl), F.out.1, F.out.2.1⟩
                    case measure => simp [intOf]; omega
                  · obtain ⟨_, _, x0, x1, y0, y1, f0, f1⟩ := F.out
                    have HH := hid (hit_rd (s := s) (i := n) (k := m) (by rw [hh, hg, hw]; rfl))
                    have HB3 := hid F.out.2.1
                    go_wp2
                    (try simp only [Exit.inBlock, Exit.then])
                    refine bodyPost_ret (v := .tuple #[.agg #[.string ⟨#[]⟩, .string ⟨#[]⟩], .int .i64 0]) ?_ rfl ⟨by rw [HH.out.1, HH.out.2.1, HH.out.2.2, e1, e2], ?_⟩
                    · rw [results_cell_tmp rfl]
                      go_simp
                    · exact (HB3.out.setCell (by simp) _).setCell (by simp) _
            · have hk' : ¬ (m : Int) ≤ s.size := by omega
              have e1 : candP s n = ⟨#[]⟩ := by rw [candP, undash, h45]; rfl
              have e2 : candR s m = ⟨#[]⟩ := by rw [candR, if_neg hk]
              have hh : hit s n m = (sigB ⟨#[]⟩ ⟨#[]⟩ && ((wordS ⟨#[]⟩ ⟨#[]⟩).toList == s.toList)) := by rw [hit, e1, e2]
              have z1 : (⟨#[]⟩ : ByteArray).size ≤ 1073741824 := by exact Nat.zero_le _
              have z2 : (⟨#[]⟩ : ByteArray).size ≤ 1073741824 := by exact Nat.zero_le _
              go_wp2_with fail
              refine (word7 ⟨#[]⟩ ⟨#[]⟩ _ z1 z2).mono ?_
              rintro e w1 ⟨rfl, hb1⟩
              have F := hid (after9 ⟨#[]⟩ ⟨#[]⟩ HK2.out HB2.out hb1)
              clear hb1
              cases hg : sigB ⟨#[]⟩ ⟨#[]⟩
              · rw [show wordE ⟨#[]⟩ ⟨#[]⟩ = 15 by rw [wordE, hg]; rfl]
                generalize wordV ⟨#[]⟩ ⟨#[]⟩ = wv
                go_wp2
                go_roundw
                case rel => exact ⟨m + 1, by omega, by simp, step9 HM.out (by rw [hh, hg]; rfl), F.out.1, F.out.2.1⟩
                case measure => simp [intOf]; omega
              · rw [show wordE ⟨#[]⟩ ⟨#[]⟩ = 0 by rw [wordE, hg]; rfl, show wordV ⟨#[]⟩ ⟨#[]⟩ = wordS ⟨#[]⟩ ⟨#[]⟩ by rw [wordV, hg]; rfl]
                cases hw : ((wordS ⟨#[]⟩ ⟨#[]⟩).toList == s.toList)
                · go_wp2
                  go_roundw
                  case rel => exact ⟨m + 1, by omega, by simp, step9 HM.out (by rw [hh, hg, hw]; rfl), F.out.1, F.out.2.1⟩
                  case measure => simp [intOf]; omega
                · obtain ⟨_, _, x0, x1, y0, y1, f0, f1⟩ := F.out
                  have HH := hid (hit_rd (s := s) (i := n) (k := m) (by rw [hh, hg, hw]; rfl))
                  have HB3 := hid F.out.2.1
                  go_wp2
                  (try simp only [Exit.inBlock, Exit.then])
                  refine bodyPost_ret (v := .tuple #[.agg #[.string ⟨#[]⟩, .string ⟨#[]⟩], .int .i64 0]) ?_ rfl ⟨by rw [HH.out.1, HH.out.2.1, HH.out.2.2, e1, e2], ?_⟩
                  · rw [results_cell_tmp rfl]
                    go_simp
                  · exact (HB3.out.setCell (by simp) _).setCell (by simp) _
        · have hm' : ¬ (m : Int) ≤ 8 := by omega
          go_wp2
          go_roundw
          case rel => exact ⟨n + 1, by omega, by omega, by simp, step9' HN.out (fun k hk => HM.out k (by omega)), HK2.out, HB2.out⟩
          case measure => simp [intOf]; omega
    · have hex : ∀ i k, i < s.size → i ≤ 8 → k ≤ 8 → hit s i k = false := fun i k h1 h2 h3 => HN.out i k (by omega) h3
      have HR := hid (rd_none hex)
      have c0 := blk_cell HK.out 0
      have c1 := blk_cell HK.out 1
      have f0 := blk_free HK.out 0
      have f1 := blk_free HK.out 1
      simp at c0 c1
      by_cases hc1 : n < s.size
      · have hc1' : (n : Int) < s.size := by omega
        have hc2' : ¬ (n : Int) ≤ 8 := by omega
        go_wp2
        (try simp only [Exit.inBlock, Exit.then])
        refine bodyPost_ret (v := .tuple #[.agg #[.string ⟨#[]⟩, .string ⟨#[]⟩], .int .i64 15]) ?_ rfl ⟨by rw [HR.out.1, HR.out.2.1, HR.out.2.2], ?_⟩
        · rw [results_cell_tmp rfl]
          go_simp
        · exact (HB.out.setCell (by simp) _).setCell (by simp) _
      · have hc1' : ¬ (n : Int) < s.size := by omega
        go_wp2
        (try simp only [Exit.inBlock, Exit.then])
        refine bodyPost_ret (v := .tuple #[.agg #[.string ⟨#[]⟩, .string ⟨#[]⟩], .int .i64 15]) ?_ rfl ⟨by rw [HR.out.1, HR.out.2.1, HR.out.2.2], ?_⟩
        · rw [results_cell_tmp rfl]
          go_simp
        · exact (HB.out.setCell (by simp) _).setCell (by simp) _
end Go.Proofs.Ytdlpbldpddobcaa

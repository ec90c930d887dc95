/-
  The iterator that strings.SplitSeq hands back, at a blank: it hands over the pieces one by one.
-/
import Derived.Test.YtgljlclnmnfocaaDoorRows
import Derived.Test.YtgljlclnmnfocaaDoorFeed
import Derived.Test.YtgljlclnmnfocaaDoorPieces
import Derived.Test.YtgljlclnmnfocaaDoorLib
import Derived.Shelf.Abstract
import Derived.Shelf.RegionOpen
import Derived.WalkKit
import Derived.OwnWalkIn
import Derived.TacticsInMore
import Derived.LoopNIn
import Derived.LoopIn
namespace Go.Proofs.YtgljlclnmnfocaaDoor
open Go.RowKit Go.Shelf

set_option linter.unusedVariables false

/-- The text that a cell holds. -/
def textAt (W : World) (c : Addr) : ByteArray := match W.cell? c with
  | some (.string s) => s
  | _ => ByteArray.empty

set_option maxRecDepth 100000 in
set_option maxHeartbeats 2000000 in
theorem split_in (n l b1 b2 b3 : Nat) (h12 : b1 ≠ b2) (h32 : b3 ≠ b2) (s : ByteArray) (J : List ByteArray → World → Prop) (Jx : World → Prop)
    (hJ : ∀ r A v, J r A → J r (A.setCell ⟨b2, 0, none⟩ v))
    (hY : ∀ x r A, J (x :: r) A → YieldAt Fence.wide (n - 1) Tryd.prog l #[.string x] A fun e B => (e = .returned (.bool true) ∧ J r B ∧ Keeps [⟨b1, 0, none⟩, ⟨b2, 0, none⟩, ⟨b3, 0, none⟩] A B) ∨ (e = .returned (.bool false) ∧ Jx B))
    (W : World) (c1 : W.cell? ⟨b1, 0, none⟩ = some (.string ⟨#[32]⟩)) (c2 : W.cell? ⟨b2, 0, none⟩ = some (.string s)) (f2 : W.frozen? ⟨b2, 0, none⟩ = false) (c3 : W.cell? ⟨b3, 0, none⟩ = some (.int .i64 0)) (h0 : J (bpieces s) W) (hsz : s.size ≤ 1099511627776) :
    CallsIn Fence.wide n Tryd.prog 80 #[.func (.yield l) #[] #[], .pointer (some ⟨b1, 0, none⟩), .pointer (some ⟨b2, 0, none⟩), .pointer (some ⟨b3, 0, none⟩)] W fun e B => (∃ v, e = .returned v) ∧ (J [] B ∨ Jx B) := by
  refine callsIn_of_wp Tryd.func80 rfl trivial ?_ rfl
  simp only [Tryd.ntmps80, List.size_toArray, List.length_cons, List.length_nil, Nat.reduceAdd, Nat.reduceSub, Array.replicate_succ, Array.replicate_zero, List.push_toArray, List.append_toArray, List.nil_append, List.cons_append]
  gi_wp2
  gi_loopw [] (fun wr => ∃ s : ByteArray, wr.cell? ⟨b1, 0, none⟩ = some (.string ⟨#[32]⟩) ∧ wr.cell? ⟨b2, 0, none⟩ = some (.string s) ∧ wr.frozen? ⟨b2, 0, none⟩ = false ∧ wr.cell? ⟨b3, 0, none⟩ = some (.int .i64 0) ∧ J (bpieces s) wr ∧ s.size ≤ 1099511627776)
    (fun wr => (textAt wr ⟨b2, 0, none⟩).size)
  case atStart => exact ⟨s, c1, c2, f2, c3, h0, hsz⟩
  case round =>
    clear c1 c2 f2 c3 h0 hsz
    obtain ⟨s, c1, c2, f2, c3, hj, hsz⟩ := hrel
    have hI := callsIn_wide (n := n - 1).2 (index82 s wr)
    rcases idx_range s.data.toList with hneg | ⟨hge, hlt⟩
    · rw [hneg] at hI
      rw [bpieces_none s hneg] at hj
      obtain ⟨fn, tmps, assign, body, hy, hR⟩ := hY s [] wr hj
      gi_wp2_with fail
      refine ⟨trivial, (fun h => nomatch h), ?_⟩
      refine hI.mono ?_
      rintro e w' ⟨rfl, rfl⟩
      gi_wp2_with fail
      refine ⟨(fun h => nomatch h), ?_⟩
      refine hR.mono ?_
      rintro e W3 (⟨rfl, hJ3, hk3⟩ | ⟨rfl, hJx3⟩)
      · gi_wp2_with fail
        go_end0
        exact ⟨⟨_, rfl⟩, .inl hJ3⟩
      · gi_wp2_with fail
        go_end0
        exact ⟨⟨_, rfl⟩, .inr hJx3⟩
    · obtain ⟨k, hk⟩ : ∃ k : Nat, Lib.indexByte s.data.toList 32 = k := ⟨(Lib.indexByte s.data.toList 32).toNat, by omega⟩
      rw [hk] at hI hlt
      rw [← ba_size] at hlt
      rw [bpieces_some s k hk] at hj
      obtain ⟨fn, tmps, assign, body, hy, hR⟩ := hY _ _ wr hj
      have k0 : (0 : Int) ≤ k := by omega
      have k1 : (k : Int) < s.size := by omega
      have k2 : (s.size : Int) ≤ 1099511627776 := by omega
      have k3 : wrap64 (k : Int) = k := by unfold wrap64; omega
      have k4 : wrap64 ((k : Int) + 1) = k + 1 := by unfold wrap64; omega
      gi_wp2_with fail
      refine ⟨trivial, (fun h => nomatch h), ?_⟩
      refine hI.mono ?_
      rintro e w' ⟨rfl, rfl⟩
      gi_wp2_with fail
      refine ⟨(fun h => nomatch h), ?_⟩
      refine hR.mono ?_
      rintro e W3 (⟨rfl, hJ3, hk3⟩ | ⟨rfl, hJx3⟩)
      · obtain ⟨d1, _⟩ := hk3 _ (by simp) _ c1
        obtain ⟨d2, e2⟩ := hk3 _ (by simp) _ c2
        obtain ⟨d3, _⟩ := hk3 _ (by simp) _ c3
        rw [f2] at e2
        have k5 : (k : Int) + 1 ≤ s.size := by omega
        gi_wp2_with fail
        go_roundw
        case rel =>
          refine ⟨s.extract (k + 1) s.size, ?_, ?_, ?_, ?_, hJ _ _ _ hJ3, ?_⟩
          · rw [World.cell?_setCell_other _ _ _ _ (by simp)]; exact d1
          · exact World.cell?_setCell_same' _ _ _ (by rw [d2]; rfl)
          · rw [World.frozen?_setCell]; exact e2
          · rw [World.cell?_setCell_other _ _ _ _ (by simp)]; exact d3
          · simp; omega
        case measure =>
          rw [show textAt w' ⟨b2, 0, none⟩ = s by simp [textAt, c2]]
          rw [textAt, World.cell?_setCell_same' _ _ _ (by rw [d2]; rfl)]
          simp
          omega
      · gi_wp2_with fail
        refine bodyPost_ret (results_none rfl _ _ _) rfl ?_
        exact ⟨⟨_, rfl⟩, .inr hJx3⟩

/-- What that iterator owes a loop. -/
theorem feeds47 (n b1 b2 b3 : Nat) (h12 : b1 ≠ b2) (h32 : b3 ≠ b2) (s : ByteArray) (W : World) (c1 : W.cell? ⟨b1, 0, none⟩ = some (.string ⟨#[32]⟩)) (c2 : W.cell? ⟨b2, 0, none⟩ = some (.string s)) (f2 : W.frozen? ⟨b2, 0, none⟩ = false) (c3 : W.cell? ⟨b3, 0, none⟩ = some (.int .i64 0)) (hsz : s.size ≤ 1099511627776) :
    Feeds Fence.wide n Tryd.prog 80 #[.pointer (some ⟨b1, 0, none⟩), .pointer (some ⟨b2, 0, none⟩), .pointer (some ⟨b3, 0, none⟩)] (fun x : ByteArray => #[.string x]) ⟨b2, 0, none⟩ [⟨b1, 0, none⟩, ⟨b2, 0, none⟩, ⟨b3, 0, none⟩] (bpieces s) W := fun l J Jx W1 hk hJ hY h0 => by
  obtain ⟨d1, _⟩ := hk _ (by simp) _ c1
  obtain ⟨d2, e2⟩ := hk _ (by simp) _ c2
  obtain ⟨d3, _⟩ := hk _ (by simp) _ c3
  exact split_in n l b1 b2 b3 h12 h32 s J Jx hJ hY W1 d1 d2 (e2.trans f2) d3 h0 hsz

set_option maxRecDepth 100000 in
theorem splitSeq40 (s : ByteArray) (w : World) :
    Calls Tryd.prog 72 #[.string s, .string ⟨#[32]⟩] w fun e w' => e = .returned (.func (.func 80) #[] #[.pointer (some ⟨w.heap.size + 1, 0, none⟩), .pointer (some ⟨w.heap.size, 0, none⟩), .pointer (some ⟨w.heap.size + 2, 0, none⟩)]) ∧
      w' = ((w.alloc (.cells #[.string s] 9)).alloc (.cells #[.string ⟨#[32]⟩] 9)).alloc (.cells #[.int .i64 0] 3) := by
  go_enter Tryd.func72, Tryd.ntmps72
  go_wp2
  go_ret
  exact ⟨rfl, rfl⟩
end Go.Proofs.YtgljlclnmnfocaaDoor

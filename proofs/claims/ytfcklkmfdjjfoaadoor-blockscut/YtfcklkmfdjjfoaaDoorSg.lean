/-
  The iterator that segments hands back: it hands over the segments one by one.
-/
import Derived.Test.YtfcklkmfdjjfoaaDoorFd
import Derived.Shelf.Abstract
import Derived.Shelf.RegionOpen
import Derived.OwnWalkIn
import Derived.TacticsInMore
import Derived.LoopNIn
import Derived.LoopIn
namespace Go.Proofs.YtfcklkmfdjjfoaaDoor
open Go.RowKit Go.Shelf
set_option linter.unusedVariables false

/-- The cells that the iterator reads. -/
def psG (bx G N : Nat) : List Addr := ⟨bx, 0, none⟩ :: (List.range N).map (fun i => (⟨G, i, none⟩ : Addr))

/-- What it reads there. -/
def Seen (L : Nat → Bool) (bx G N : Nat) (W : World) : Prop := W.cell? ⟨bx, 0, none⟩ = some (.slice (some ⟨G, 0, none⟩) N N) ∧ ∀ i, i < N → W.cell? ⟨G, i, none⟩ = some (.bool (L i))
theorem Seen.keeps {L : Nat → Bool} {bx G N : Nat} {W W' : World} (h : Seen L bx G N W) (hk : Keeps (psG bx G N) W W') : Seen L bx G N W' :=
  ⟨(hk _ (by simp [psG]) _ h.1).1, fun i hi => (hk _ (by simp [psG, hi]) _ (h.2 i hi)).1⟩

set_option maxRecDepth 100000 in
set_option maxHeartbeats 2000000 in
theorem seg_in (n l bx G N : Nat) (L : Nat → Bool) (J : Nat → World → Prop) (hN : N ≤ 1048576)
    (hY : ∀ s A, s < N → J s A → YieldAt Fence.wide (n - 1) Tryd.prog l #[.int .i64 (s : Int), .int .i64 ((s + lfF (stF L) N s : Nat) : Int)] A fun e B => e = .returned (.bool true) ∧ J (s + lfF (stF L) N s) B ∧ Keeps (psG bx G N) A B)
    (W : World) (hs : Seen L bx G N W) (h0 : J 0 W) :
    CallsIn Fence.wide n Tryd.prog 61 #[.func (.yield l) #[] #[], .pointer (some ⟨bx, 0, none⟩)] W fun e B => (∃ v, e = .returned v) ∧ ∃ s, ¬ s < N ∧ J s B := by
  have HY := hid hY
  have HS := hid hs
  clear hY hs
  refine callsIn_of_wp Tryd.func61 rfl trivial ?_ rfl
  simp only [Tryd.ntmps61, List.size_toArray, List.length_cons, List.length_nil, Nat.reduceAdd, Nat.reduceSub, Array.replicate_succ, Array.replicate_zero, List.push_toArray, List.append_toArray, List.nil_append, List.cons_append]
  gi_wp2
  gi_loopw [3, 4] (fun a b wr => ∃ s : Nat, s ≤ N ∧ a = .int .i64 s ∧ b = .int .i64 s ∧ (s < N → stF L s = s) ∧ Seen L bx G N wr ∧ J s wr) (fun a _ _ => N - (intOf a).toNat)
  case atStart => exact ⟨0, by omega, rfl, rfl, fun _ => rfl, HS.out, h0⟩
  case round =>
    obtain ⟨s, hsN, rfl, rfl, hst, hsn, hj⟩ := hrel
    have c1 := hsn.1
    by_cases hlt : s < N
    · have hlt' : (s : Int) < (N : Int) := by omega
      have HSN := hid hsn
      have HST := hid (hst hlt)
      have HJ := hid hj
      clear hsn hst hj h0
      gi_wp2
      generalize wr = wa at *
      gi_loopw [4] (fun b wr => ∃ q : Nat, s < q ∧ q ≤ N ∧ q - s ≤ 16 ∧ b = .int .i64 q ∧ stF L (q - 1) = s ∧ wr = wa) (fun b _ => N - (intOf b).toNat)
      case atStart => exact ⟨s + 1, by omega, by omega, by omega, by go_num, by rw [Nat.add_sub_cancel]; exact HST.out, rfl⟩
      case round =>
        obtain ⟨q, h1, h2, h3, rfl, h4, rfl⟩ := hrel
        have c1 := HSN.out.1
        by_cases hq : q < N
        · have c2 := HSN.out.2 q hq
          have hq' : (q : Int) < (N : Int) := by omega
          by_cases hgo : L q = false ∧ q - s < 16
          · have hon := st_on (L := L) (s := s) (b := q - 1) h4 (by rw [show q - 1 + 1 = q by omega]; exact hgo.1) (by omega)
            rw [show q - 1 + 1 = q by omega] at hon
            rw [hgo.1] at c2
            have h16 : (q : Int) - (s : Int) < 16 := by omega
            have HON := hid hon
            clear h4 hon hgo
            gi_wp2
            go_roundw
            case rel => exact ⟨q + 1, by omega, by omega, by omega, by go_num, by rw [Nat.add_sub_cancel]; exact HON.out, trivial⟩
            case measure => simp [intOf]; omega
          · have hoff := st_off (L := L) (s := s) (b := q - 1) h4 (by
              rw [show q - 1 + 1 = q by omega]
              by_cases e : L q = true
              · exact .inl e
              · exact .inr (fun x => hgo ⟨by simpa using e, x⟩))
            rw [show q - 1 + 1 = q by omega] at hoff
            have hlf : s + lfF (stF L) N s = q := by
              have := lfF_eq (S := stF L) (n := N) (p := s) (k := q - s) (by omega) (fun j hj => by rw [HST.out, ← h4]; exact st_mid (by omega) (by omega)) (by omega) (.inr (by rw [HST.out, show s + (q - s) = q by omega, hoff]; omega))
              omega
            have hyy := HY.out s wr hlt HJ.out
            rw [hlf] at hyy
            obtain ⟨fn, tmps, assign, body, hy, hR⟩ := hyy
            have HOFF := hid hoff
            have HG := hid hgo
            clear h4 hoff hlf hgo
            by_cases hL : L q = true
            · rw [hL] at c2
              clear HG
              gi_wp2_with fail
              refine ⟨(fun h => nomatch h), ?_⟩
              refine hR.mono ?_
              rintro e W3 ⟨rfl, hJ3, hk3⟩
              have HJ3 := hid hJ3
              have HS3 := hid (HSN.out.keeps hk3)
              clear hJ3 hk3
              gi_wp2_with fail
              go_roundw
              case rel => exact ⟨q, by omega, rfl, rfl, fun _ => HOFF.out, HS3.out, HJ3.out⟩
              case measure => simp [intOf]; omega
            · have hL' : L q = false := by simpa using hL
              have h16 : ¬ (q : Int) - (s : Int) < 16 := by
                intro x; apply HG.out; exact ⟨hL', by omega⟩
              rw [hL'] at c2
              clear HG hL hL'
              gi_wp2_with fail
              refine ⟨(fun h => nomatch h), ?_⟩
              refine hR.mono ?_
              rintro e W3 ⟨rfl, hJ3, hk3⟩
              have HJ3 := hid hJ3
              have HS3 := hid (HSN.out.keeps hk3)
              clear hJ3 hk3
              gi_wp2_with fail
              go_roundw
              case rel => exact ⟨q, by omega, rfl, rfl, fun _ => HOFF.out, HS3.out, HJ3.out⟩
              case measure => simp [intOf]; omega
        · obtain rfl : q = N := by omega
          have hq' : ¬ (q : Int) < (q : Int) := by omega
          have hlf : s + lfF (stF L) q s = q := by
            have := lfF_eq (S := stF L) (n := q) (p := s) (k := q - s) (by omega) (fun j hj => by rw [HST.out, ← h4]; exact st_mid (by omega) (by omega)) (by omega) (.inl (by omega))
            omega
          have hyy := HY.out s wr hlt HJ.out
          rw [hlf] at hyy
          obtain ⟨fn, tmps, assign, body, hy, hR⟩ := hyy
          clear h4 hlf
          gi_wp2_with fail
          refine ⟨(fun h => nomatch h), ?_⟩
          refine hR.mono ?_
          rintro e W3 ⟨rfl, hJ3, hk3⟩
          have HJ3 := hid hJ3
          have HS3 := hid (HSN.out.keeps hk3)
          clear hJ3 hk3
          gi_wp2_with fail
          go_roundw
          case rel => exact ⟨q, by omega, rfl, rfl, fun h => by omega, HS3.out, HJ3.out⟩
          case measure => simp [intOf]; omega
    · obtain rfl : s = N := by omega
      have hlt' : ¬ (s : Int) < (s : Int) := by omega
      have HJ := hid hj
      clear hsn hj hst h0
      gi_wp2
      go_end0
      exact ⟨⟨_, rfl⟩, s, by omega, HJ.out⟩

/-- What that iterator owes a loop. -/
theorem feedsSeg (n bx G N : Nat) (L : Nat → Bool) (W : World) (hN : N ≤ 1048576) (hs : Seen L bx G N W) :
    FeedsS Fence.wide n Tryd.prog 61 #[.pointer (some ⟨bx, 0, none⟩)] (fun s : Nat => #[.int .i64 (s : Int), .int .i64 ((s + lfF (stF L) N s : Nat) : Int)]) (fun s => s < N) (fun s => s + lfF (stF L) N s) (psG bx G N) 0 W :=
  fun l J W1 hk hY h0 => seg_in n l bx G N L J hN hY W1 (hs.keeps hk) h0

set_option maxRecDepth 100000 in
/-- segments. -/
theorem segmentsC (a : Option Addr) (n c : Nat) (w : World) :
    Calls Tryd.prog 30 #[.slice a n c] w fun e w' => e = .returned (.func (.func 61) #[] #[.pointer (some ⟨w.heap.size, 0, none⟩)]) ∧ w' = w.alloc (.cells #[.slice a n c] 35) := by
  go_enter Tryd.func30, Tryd.ntmps30
  go_wp2
  go_ret
  exact ⟨rfl, rfl⟩
end Go.Proofs.YtfcklkmfdjjfoaaDoor

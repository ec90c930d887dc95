/-
  The walk over AddPages.
-/
import Derived.Test.YtedkmfklobipaaaDoorBa
namespace Go.Proofs.YtedkmfklobipaaaDoor
open Go.RowKit
set_option linter.unusedVariables false

theorem Tryd.inlPages : (Tryd.prog.info? 22).map (fun i => (i.zero, i.size, i.bytes)) = some (some (.slice none 0 0), 1, 24) := by kernel_rfl

/-- The blocks that an AddPages may write. -/
def Fa (GB : Nat) (v u : Value) (b : Nat) : Prop := b = GB ∨ v.ownBlock = some b ∨ u.ownBlock = some b
/-- A bag's pages and bytes, in memory. -/
structure Bq (w : World) (GB : Nat) (v : Value) (n : Nat) (xs : List Value) (u : Value) (k : Nat) (ys : List Value) : Prop where
  c15 : w.cell? ⟨GB, 15, none⟩ = some v
  c0 : w.cell? ⟨GB, 0, none⟩ = some u
  f15 : w.frozen? ⟨GB, 15, none⟩ = false
  f0 : w.frozen? ⟨GB, 0, none⟩ = false
  ov : w.ownsRow 0 22 1 v n xs
  ou : w.ownsRow 0 41 1 u k ys
  nv : v.ownBlock ≠ some GB
  nu : u.ownBlock ≠ some GB
theorem Bq.ne {w : World} {GB : Nat} {v : Value} {n : Nat} {xs : List Value} {u : Value} {k : Nat} {ys : List Value} (h : Bq w GB v n xs u k ys) {b : Nat} (hv : v.ownBlock = some b) : u.ownBlock ≠ some b := by
  intro hu
  obtain ⟨_, c1, h1⟩ := own_lt h.ov hv
  obtain ⟨_, c2, h2⟩ := own_lt h.ou hu
  rw [h1] at h2
  simp at h2

set_option maxRecDepth 100000 in
set_option maxHeartbeats 2000000 in
theorem addP (GB : Nat) (v : Value) (n : Nat) (xs : List Value) (u : Value) (k : Nat) (ys : List Value) (L N : Nat) (QF : Nat → Nat) (w : World) (h : Bq w GB v n xs u k ys) (hn : n < 300) (hk : k + N ≤ 300)
    (hl : ∀ i, i < N → w.cell? ⟨L, i, none⟩ = some (sv4 (QF i))) (hL : ¬ Fa GB v u L) :
    Calls Tryd.prog 25 #[.pointer (some ⟨GB, 0, none⟩), .slice (some ⟨L, 0, none⟩) N N] w fun e w' => e = .returned (.tuple #[]) ∧ ∃ v' u', Bq w' GB v' (n + 1) (xs ++ [.slice (some ⟨L, 0, none⟩) N N]) u' (k + N) (ys ++ (List.range N).map fun i => sv4 (QF i)) ∧
      Kept (Fa GB v u) w w' ∧ (∀ b, v'.ownBlock = some b → v.ownBlock = some b ∨ w.heap.size ≤ b) ∧ (∀ b, u'.ownBlock = some b → u.ownBlock = some b ∨ w.heap.size ≤ b) ∧ (∀ j, j ≠ 0 → j ≠ 15 → w'.cell? ⟨GB, j, none⟩ = w.cell? ⟨GB, j, none⟩) ∧ (∀ j, w'.frozen? ⟨GB, j, none⟩ = w.frozen? ⟨GB, j, none⟩) := by
  obtain ⟨i22, p0, p1, p2, p3⟩ := info_parts Tryd.inlPages
  obtain ⟨va, vc, rfl, _⟩ := own_sliceM h.ov
  have hb3 : n + 1 ≤ maxLen := by unfold maxLen; omega
  have hb4 : (n + 1) * 24 ≤ 140737488355328 := by omega
  have hc := h.c15
  have hf := h.f15
  have HQ := hid h
  have HO := hid h.ov
  have HNE := hid h.nv
  have HC := hid hc
  have HF := hid hf
  have HLL := hid hL
  have HCL := hid hl
  have hk0 := Kept.alloc (fun _ => False) w (.cells #[.slice (some ⟨L, 0, none⟩) N N] 22)
  have HK0 := hid hk0
  clear h hL hl hk0
  go_enter Tryd.func25, Tryd.ntmps25
  go_wp2_with (first
    | (at_builtin; refine app_cell _ rfl (.tmp 15) (.tmp 17) 59 rfl 22 i22 (.slice none 0 0) 24 Tryd.underlying59 p0 p1 p2 p3 rfl _ n _ rfl (own_keep HO.out fun B hB => HK0.out.block B (own_lt HO.out hB).1 (fun x => x)) ⟨w.heap.size, 0, none⟩ (.slice (some ⟨L, 0, none⟩) N N) rfl (by simp [Addr.add]) rfl hb3 hb4 ?_; intro B cap w2 hrow hcase; obtain ⟨d1, d2, d3, d4, d5, d6⟩ := add_step HO.out HNE.out HC.out HF.out _ hrow hcase; have R1 := hid hrow; have D3 := hid d3; have D4 := hid d4; have D5 := hid d5; have D6 := hid d6; clear hrow hcase d3 d4 d5 d6))
  have hG := block_lt_of_cell HC.out
  simp only at hG
  have hk3 : Kept (Fa GB (.slice va n vc) u) w (w2.setCell ⟨GB, 15, none⟩ (.slice (some ⟨B, 0, none⟩) (n + 1) cap)) := (D6.out.mono (fun b hb => .inr (.inl hb))).trans ((kept_setCell w2 GB 15 _).mono (fun b hb => .inl hb))
  have hBq : Bq (w2.setCell ⟨GB, 15, none⟩ (.slice (some ⟨B, 0, none⟩) (n + 1) cap)) GB (.slice (some ⟨B, 0, none⟩) (n + 1) cap) (n + 1) (xs ++ [.slice (some ⟨L, 0, none⟩) N N]) u k ys := by
    refine ⟨World.cell?_setCell_same _ _ _ d1, ?_, (World.frozen?_setCell _ _ _ _).trans d2, ?_, R1.out.keep (heap_setCell_other _ _ _ _ D3.out), own_keep HQ.out.ou (fun b hb => ?_), ?_, HQ.out.nu⟩
    · rw [World.cell?_setCell_other _ _ _ _ (by simp), D5.out 0]; exact HQ.out.c0
    · rw [World.frozen?_setCell]
      exact (frozen_of_block (D6.out.block GB hG (fun e => HNE.out e)) 0).trans HQ.out.f0
    · have hbl := (own_lt HQ.out.ou hb).1
      rw [heap_setCell_other _ _ _ _ (fun e => HQ.out.nu (by rw [hb]; simpa using e)), D6.out.block b hbl (fun e => HQ.out.ne e hb)]
    · intro e; exact D3.out (by simpa [Value.ownBlock] using e)
  have hcc : ∀ j, j ≠ 15 → (w2.setCell ⟨GB, 15, none⟩ (.slice (some ⟨B, 0, none⟩) (n + 1) cap)).cell? ⟨GB, j, none⟩ = w.cell? ⟨GB, j, none⟩ := fun j hj => by
    rw [World.cell?_setCell_other _ _ _ _ (fun h => hj (congrArg Addr.off h).symm)]
    exact D5.out j
  have hff : ∀ j, (w2.setCell ⟨GB, 15, none⟩ (.slice (some ⟨B, 0, none⟩) (n + 1) cap)).frozen? ⟨GB, j, none⟩ = w.frozen? ⟨GB, j, none⟩ := fun j => by
    rw [World.frozen?_setCell]
    exact frozen_of_block (D6.out.block GB hG (fun e => HNE.out e)) j
  have HNB := hid D4.out
  obtain ⟨w3, hw3⟩ : ∃ w3, w3 = w2.setCell ⟨GB, 15, none⟩ (.slice (some ⟨B, 0, none⟩) (n + 1) cap) := ⟨_, rfl⟩
  rw [← hw3] at hk3 hBq hcc hff ⊢
  have HK3 := hid hk3
  have HBQ := hid hBq
  have HCC := hid hcc
  have HFF := hid hff
  clear hk3 hBq hcc hff hw3 d1 d2 hc hf p0 p1 p2 p3 hb3 hb4 HK0 R1 D3 D4 D5 D6
  go_loopw [4] (fun i wr => ∃ j : Nat, j ≤ N ∧ i = .int .i64 j ∧ Hid (∃ u', Bq wr GB (.slice (some ⟨B, 0, none⟩) (n + 1) cap) (n + 1) (xs ++ [.slice (some ⟨L, 0, none⟩) N N]) u' (k + j) (ys ++ (List.range j).map fun i => sv4 (QF i)) ∧ Kept (Fa GB (.slice va n vc) u) w wr ∧ (∀ b, u'.ownBlock = some b → u.ownBlock = some b ∨ w.heap.size ≤ b) ∧ (∀ j, j ≠ 0 → j ≠ 15 → wr.cell? ⟨GB, j, none⟩ = w.cell? ⟨GB, j, none⟩) ∧ (∀ j, wr.frozen? ⟨GB, j, none⟩ = w.frozen? ⟨GB, j, none⟩))) (fun i _ => N - (intOf i).toNat)
  case atStart => exact ⟨0, by omega, rfl, hid ⟨u, by simpa using HBQ.out, HK3.out, fun b hb => .inl hb, fun j _ hj => HCC.out j hj, HFF.out⟩⟩
  case round =>
    obtain ⟨j, hj, rfl, HX⟩ := hrel
    clear HBQ HK3 HCC HFF
    by_cases hlt : j < N
    · obtain ⟨u', hQ, hK, hU, hC, hF⟩ := HX.out
      have hcl : wr.cell? ⟨L, j, none⟩ = some (.slice (some ⟨QF j, 0, none⟩) 4096 4096) := hK.cell (HCL.out j hlt) HLL.out
      have HAD := hid (add42 GB u' (k + j) _ (some ⟨QF j, 0, none⟩) 4096 4096 wr (by omega) hQ.c0 hQ.f0 hQ.ou hQ.nu)
      have HQ2 := hid hQ
      have HK2 := hid hK
      have HU2 := hid hU
      have HC2 := hid hC
      have HF2 := hid hF
      have hlt' : (j : Int) < N := by omega
      have h300 : (j : Int) < 300 := by omega
      have hd3 : decide ((j : Int) < 300) = true := by simpa using h300
      clear hQ hK hU hC hF HX
      go_wp2_with fail
      refine HAD.out.mono ?_
      rintro e w4 ⟨rfl, B4, c4, hr4, hc4, hf4, hne4, hor4, hcs4, hk4, hfs4⟩
      have hG4 := block_lt_of_cell HQ2.out.c0
      simp only at hG4
      have HN := hid (show Bq w4 GB (.slice (some ⟨B, 0, none⟩) (n + 1) cap) (n + 1) (xs ++ [.slice (some ⟨L, 0, none⟩) N N]) (.slice (some ⟨B4, 0, none⟩) (k + j + 1) c4) (k + (j + 1)) (ys ++ (List.range (j + 1)).map fun i => sv4 (QF i)) from by
        refine ⟨(hcs4 15 (by omega)).trans HQ2.out.c15, hc4, (hfs4 15).trans HQ2.out.f15, hf4, own_keep HQ2.out.ov (fun b hb => hk4.block b (own_lt HQ2.out.ov hb).1 (fun x => x.elim (fun e => HQ2.out.nv (e ▸ hb)) (fun e => HQ2.out.ne hb e))), ?_, HQ2.out.nv, fun e => hne4 (by simpa [Value.ownBlock] using e)⟩
        rw [List.range_succ, List.map_append, ← List.append_assoc]
        exact hr4)
      have HKN := hid (show Kept (Fa GB (.slice va n vc) u) w w4 from HK2.out.then hk4 (fun b hb hx => hx.elim .inl (fun e => (HU2.out b e).elim (fun e2 => .inr (.inr e2)) (fun e2 => absurd e2 (by omega)))))
      have HUN := hid (show ∀ b, (Value.slice (some ⟨B4, 0, none⟩) (k + j + 1) c4).ownBlock = some b → u.ownBlock = some b ∨ w.heap.size ≤ b from fun b hb => by
        obtain rfl : B4 = b := by simpa [Value.ownBlock] using hb
        exact hor4.elim (fun e => HU2.out B4 e) (fun e => .inr (Nat.le_trans HK2.out.size e)))
      have HCN := hid (show ∀ j, j ≠ 0 → j ≠ 15 → w4.cell? ⟨GB, j, none⟩ = w.cell? ⟨GB, j, none⟩ from fun j h1 h2 => (hcs4 j h1).trans (HC2.out j h1 h2))
      have HFN := hid (show ∀ j, w4.frozen? ⟨GB, j, none⟩ = w.frozen? ⟨GB, j, none⟩ from fun j => (hfs4 j).trans (HF2.out j))
      clear hr4 hc4 hf4 hne4 hor4 hcs4 hk4 hfs4
      go_wp2_with fail
      exact ⟨⟨j + 1, by omega, by go_num, hid ⟨_, HN.out, HKN.out, HUN.out, HCN.out, HFN.out⟩⟩, by simp [intOf]; omega⟩
    · obtain rfl : j = N := by omega
      have hlt' : ¬ (j : Int) < j := by omega
      go_wp2_with fail
      go_end0
      obtain ⟨u', hQ, hK, hU, hC, hF⟩ := HX.out
      refine ⟨rfl, _, u', hQ, hK, fun b hb => ?_, hU, hC, hF⟩
      obtain rfl : B = b := by simpa [Value.ownBlock] using hb
      exact HNB.out
end Go.Proofs.YtedkmfklobipaaaDoor

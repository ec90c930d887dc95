/-
  The walk over ops.All: all opcodes, kind by kind, in a row of the call's own.
-/
import Derived.Test.YtmbbmlchbnjoiaaDoorKinds
import Derived.Test.YtmbbmlchbnjoiaaDoorRef
import Derived.Test.YtmbbmlchbnjoiaaDoorHeap
namespace Go.Proofs.YtmbbmlchbnjoiaaDoor
open Go.RowKit
set_option linter.unusedVariables false

theorem Tryd.infoB : (Tryd.prog.info? 5).map (fun i => (i.zero, i.size, i.bytes)) = some (some (.int .u8 0), 1, 1) := by kernel_rfl

/-- A list of bytes that a call has made: nil, or a row in a block from n₀ on. -/
def Made (n₀ : Nat) (w : World) (v : Value) (zs : List Int) : Prop :=
  (v = .slice none 0 0 ∧ zs = []) ∨ ∃ B cap, v = .slice (some ⟨B, 0, none⟩) zs.length cap ∧ Row w 5 B zs.length cap (zs.map (Value.int .u8)) ∧ n₀ ≤ B

theorem Made.own {n₀ : Nat} {w : World} {v : Value} {zs : List Int} (h : Made n₀ w v zs) : w.ownsRow 0 5 1 v zs.length (zs.map (Value.int .u8)) := by
  rcases h with ⟨rfl, rfl⟩ | ⟨B, cap, rfl, hr, _⟩
  · exact ⟨rfl, .inl ⟨rfl, rfl⟩⟩
  · exact hr
theorem Made.kept {n₀ : Nat} {w w' : World} {v : Value} {zs : List Int} {S : Nat → Prop} (h : Made n₀ w v zs) (hk : Kept S w w') (hs : ∀ B, v.ownBlock = some B → ¬ S B) : Made n₀ w' v zs := by
  rcases h with h | ⟨B, cap, rfl, hr, hB⟩
  · exact .inl h
  · exact .inr ⟨B, cap, rfl, hr.kept hk (hs B rfl), hB⟩
/-- A list that was made is kept by whatever keeps what lay there. -/
theorem Made.later {n₀ : Nat} {w w' : World} {v : Value} {zs : List Int} (h : Made n₀ w v zs) (hb : Below w.heap.size w w') : Made n₀ w' v zs := by
  rcases h with h | ⟨B, cap, rfl, hr, hB⟩
  · exact .inl h
  · exact .inr ⟨B, cap, rfl, hr.keep (hb.block B hr.lt), hB⟩

theorem Made.slice {n₀ : Nat} {w : World} {v : Value} {zs : List Int} (h : Made n₀ w v zs) : ∃ a c, v = .slice a zs.length c := by
  rcases h with ⟨rfl, rfl⟩ | ⟨B, cap, rfl, _⟩
  · exact ⟨none, 0, rfl⟩
  · exact ⟨_, cap, rfl⟩

/-- One byte more. -/
theorem Made.more {n₀ : Nat} {w w' : World} {v : Value} {zs : List Int} {z : Int} {B cap : Nat} (h : Made n₀ w v zs) (hn : n₀ ≤ w.heap.size) (hrow : Row w' 5 B (zs.length + 1) cap (zs.map (Value.int .u8) ++ [.int .u8 z]))
    (hcase : (v = .slice (some ⟨B, 0, none⟩) zs.length cap ∧ Kept (fun k => k = B) w w') ∨ (w.heap.size ≤ B ∧ Kept (fun _ => False) w w')) :
    Made n₀ w' (.slice (some ⟨B, 0, none⟩) (zs.length + 1) cap) (zs ++ [z]) ∧ Below n₀ w w' ∧ (∀ b i x, w.cell? ⟨b, i, none⟩ = some x → v.ownBlock ≠ some b → w'.cell? ⟨b, i, none⟩ = some x ∧ b ≠ B) := by
  have hB : n₀ ≤ B := by
    rcases hcase with ⟨e, _⟩ | ⟨hs, _⟩
    · rcases h with ⟨rfl, _⟩ | ⟨B', cap', rfl, _, hb⟩
      · cases e
      · simp at e; omega
    · omega
  refine ⟨.inr ⟨B, cap, by simp, by simpa using hrow, hB⟩, ?_, ?_⟩
  · rcases hcase with ⟨_, hk⟩ | ⟨_, hk⟩
    · exact hk.to_below hn (fun k hk' e => by omega)
    · exact hk.to_below hn (fun k hk' e => e.elim)
  · intro b i x hc hne
    rcases hcase with ⟨e, hk⟩ | ⟨hs, hk⟩
    · have hbB : b ≠ B := fun e' => hne (by rw [e, e']; rfl)
      exact ⟨hk.cell hc hbB, hbB⟩
    · exact ⟨hk.cell hc (fun e => e.elim), fun e' => by have := block_lt_of_cell hc; simp at this; omega⟩

/-- The first n opcodes of a kind. -/
def kOps (i n : Nat) : List Int := (List.range n).map fun (j : Nat) => kF i + (j : Int)
def kCnt (i : Nat) : Nat := (kL i - kF i + 1).toNat
/-- The opcodes of the kinds below i. -/
def opsTo : Nat → List Int
  | 0 => []
  | i + 1 => opsTo i ++ kOps i (kCnt i)

theorem kOps_succ (i n : Nat) : kOps i (n + 1) = kOps i n ++ [kF i + (n : Int)] := by simp [kOps, List.range_succ]
theorem opsTo_len (i : Nat) (h : i ≤ 7) : (opsTo i).length ≤ 90 := by
  have : i = 0 ∨ i = 1 ∨ i = 2 ∨ i = 3 ∨ i = 4 ∨ i = 5 ∨ i = 6 ∨ i = 7 := by omega
  rcases this with rfl | rfl | rfl | rfl | rfl | rfl | rfl | rfl <;> decide +kernel

set_option maxRecDepth 100000 in
set_option maxHeartbeats 4000000 in
theorem all12 (w : World) (hk : KindsOk w) : Calls Tryd.prog 12 #[] w fun e w' => ∃ v, e = .returned v ∧ Made w.heap.size w' v (opsTo 7) ∧ Below w.heap.size w w' := by
  obtain ⟨i5, q0, q1, q2, q3⟩ := info_parts Tryd.infoB
  go_enter Tryd.func12, Tryd.ntmps12
  refine wp_seq_k fun K1 hK1 => wp_region_lit ?_
  refine step_val rfl (v := .slice none 0 0) (w' := w) (by simp [go_sem]) ?_
  refine wpList_nil (hK1 _ _ ?_)
  clear hK1
  refine wp_seq_k fun K2 hK2 => wp_region_lit ?_
  refine step_val rfl (v := .slice none 0 0) (w' := w) (by simp [go_sem]) ?_
  refine wpList_nil (hK2 _ _ ?_)
  clear hK2
  refine wp_seq_k fun K3 hK3 => wp_seq_k fun K4 hK4 => wp_region_lit ?_
  refine step_val rfl (exec_kinds hk _ _ _ _ _) ?_
  obtain ⟨kv, hkv⟩ : ∃ kv, kindsV = kv := ⟨_, rfl⟩
  rw [hkv]
  have run_kind' : ∀ (w : World) (i : Nat) (hi : i < 7), (Instr.index 62 kv (.int .i64 i)).run Tryd.prog w = .ok (.agg #[.int .u8 (kF i), .int .u8 (kL i), .string (kA i), .string (kW i)]) w := fun w i hi => hkv ▸ run_kind i hi
  have HK := hid run_kind'
  clear run_kind' hkv
  go_wp2_with fail
  go_loopw [1, 6] (fun v p wr => ∃ i : Nat, p = .int .i64 i ∧ i ≤ 7 ∧ Below w.heap.size w wr ∧ Made w.heap.size wr v (opsTo i)) (fun v p wr => 7 - (intOf p).toNat)
  case atStart => exact ⟨0, rfl, by decide, Below.refl _ _, .inl ⟨rfl, rfl⟩⟩
  case round =>
    obtain ⟨i, rfl, hi, hB, hM⟩ := hrel
    by_cases h7 : i = 7
    · subst h7
      go_wp2_with fail
      go_ret
      exact ⟨_, rfl, hM, hB⟩
    have hlt : (i : Int) < 7 := by omega
    have hix := HK.out wr i (by omega)
    obtain ⟨f0, f1, f2, _, _, _⟩ := kind_facts i (by omega)
    have hw : wrap64 ((i : Int) + 1) = i + 1 := by unfold wrap64; omega
    have hol := opsTo_len i (by omega)
    have hcnt : kF i + (kCnt i : Int) = kL i + 1 := by unfold kCnt; omega
    have hcnt2 : kCnt i ≤ 200 := by unfold kCnt; omega
    have h00 := hid (show opsTo i = opsTo i ++ kOps i 0 by simp [kOps])
    have HM := hid (hM.kept (Kept.alloc (fun _ => False) wr (.cells #[.int .u8 (kF i), .int .u8 (kL i), .string (kA i), .string (kW i)] 61)) (fun _ _ h => h))
    have hne : u1.ownBlock ≠ some wr.heap.size := by
      rcases hM with ⟨rfl, _⟩ | ⟨B, cap, rfl, hr, _⟩
      · simp [Value.ownBlock]
      · have := hr.lt; simp [Value.ownBlock]; omega
    have HB2 := hid (hB.alloc hB.size (.cells #[.int .u8 (kF i), .int .u8 (kL i), .string (kA i), .string (kW i)] 61))
    have HS := hid (show w.heap.size ≤ wr.heap.size from hB.size)
    have HNE := hid hne
    clear hM hB hne
    generalize kA i = a at *
    generalize kW i = ws at *
    have hf0 : kF i + ((0 : Nat) : Int) = kF i := by simp
    have HC := hid (show (wr.alloc (.cells #[.int .u8 (kF i), .int .u8 (kL i), .string a, .string ws] 61)).cell? ⟨wr.heap.size, 1, none⟩ = some (.int .u8 (kL i)) by simp [go_sem])
    go_wp2_with fail
    clear hix
    generalize wr.alloc (.cells #[.int .u8 (kF i), .int .u8 (kL i), .string a, .string ws] 61) = W1 at *
    generalize wr.heap.size = bk at *
    go_loopw [1, 4] (fun v p ww => ∃ n : Nat, p = .int .u8 (kF i + (n : Int)) ∧ n ≤ kCnt i ∧ Below w.heap.size w ww ∧ Made w.heap.size ww v (opsTo i ++ kOps i n) ∧ ww.cell? ⟨bk, 1, none⟩ = some (.int .u8 (kL i)) ∧ v.ownBlock ≠ some bk) (fun v p ww => 300 - (intOf p).toNat)
    case atStart => exact ⟨0, by rw [hf0], by omega, HB2.out, by rw [← h00.out]; exact HM.out, HC.out, HNE.out⟩
    case round =>
      clear HB2 HM HC HNE
      obtain ⟨n, rfl, hn, hB, hM, hc, hne⟩ := hrel
      by_cases hnn : n = kCnt i
      · subst hnn
        have hgt : kL i < kF i + (kCnt i : Int) := by omega
        have HB := hid hB
        have HM := hid hM
        clear hB hM hne
        go_wp2_with fail
        exact ⟨⟨i + 1, by simp, by omega, HB.out, HM.out⟩, by simp [intOf]; omega⟩
      · have hle : kF i + (n : Int) ≤ kL i := by omega
        have hu8 : kF i + (n : Int) + 1 ≤ 255 := by omega
        have hlen : (opsTo i ++ kOps i n).length = (opsTo i).length + n := by simp [kOps]
        obtain ⟨va, vc, rfl⟩ := hM.slice
        have hb1 : (opsTo i ++ kOps i n).length + 1 ≤ maxLen := by unfold maxLen; omega
        have hb2 : ((opsTo i ++ kOps i n).length + 1) * 1 ≤ 140737488355328 := by omega
        have hM2 := hM.kept (Kept.alloc (fun _ => False) wr (.cells #[.int .u8 (kF i + (n : Int))] 5)) (fun _ _ h => h)
        have HOW := hid hM2.own
        have HM := hid hM2
        have HB := hid (hB.alloc hB.size (.cells #[.int .u8 (kF i + (n : Int))] 5))
        have HC := hid (show (wr.alloc (.cells #[.int .u8 (kF i + (n : Int))] 5)).cell? ⟨bk, 1, none⟩ = some (.int .u8 (kL i)) from cell_kept hc (World.grownBy_alloc wr _ none) (fun r e => by cases e))
        have HSZ := hid (show w.heap.size ≤ (wr.alloc (.cells #[.int .u8 (kF i + (n : Int))] 5)).heap.size from HB.out.size)
        have HNE := hid hne
        clear hM2 hM hB hne
        go_wp2_with (first
          | (at_builtin; refine app_cell _ rfl (.tmp 17) (.tmp 19) 34 rfl 5 i5 (.int .u8 0) 1 Tryd.underlying34 q0 q1 q2 q3 rfl _ (opsTo i ++ kOps i n).length _ rfl HOW.out ⟨wr.heap.size, 0, none⟩ (.int .u8 (kF i + (n : Int))) rfl (by simp [Addr.add]) rfl hb1 hb2 ?_; intro B cap' w2 hrow hcase; obtain ⟨m1, m2, m3⟩ := HM.out.more HSZ.out hrow hcase; obtain ⟨m4, m5⟩ := m3 _ _ _ HC.out HNE.out; have M1 := hid m1; have M2 := hid m2; have M4 := hid m4; have M5 := hid m5; clear hrow hcase m1 m2 m3 m4 m5))
        refine ⟨⟨n + 1, by simp; omega, by omega, HB.out.trans M2.out, ?_, M4.out, ?_⟩, by simp [intOf]; omega⟩
        · have := M1.out
          rw [hlen] at this
          rw [kOps_succ, ← List.append_assoc]
          exact this
        · have := M5.out
          simp [Value.ownBlock]; omega
end Go.Proofs.YtmbbmlchbnjoiaaDoor

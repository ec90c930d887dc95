/-
  The document's answer to a call.
-/
import Derived.Test.YthdgbeaibajkeaaNx
namespace Go.Proofs.Ythdgbeaibajkeaa
open Go.RowKit
set_option linter.unusedVariables false

set_option maxHeartbeats 1000000 in
theorem ref15_out (a : Option Addr) (n c T : Nat) (s : ByteArray) (w : World) (hn : n ≤ 2000) (h : n ≤ T) :
    Calls Try.prog 15 #[.slice a n c, .int .i64 T, .string s] w fun e w' => e = .returned (.tuple #[.slice none 0 0, .bool false, .int .i64 T]) ∧ w' = w := by
  have h0 : ¬ (T : Int) < 0 := by omega
  have h1 : (n : Int) ≤ (T : Int) := by omega
  go_enter Try.func15, Try.ntmps15
  go_wp2_with fail
  refine bodyPost_ret (v := .tuple #[.slice none 0 0, .bool false, .int .i64 T]) (by simp [results, Try.results15, go_sem]) rfl ⟨rfl, rfl⟩

set_option maxHeartbeats 2000000 in
theorem ref15_no (Q : Nat → Prop) (b off n c T : Nat) (x : Rp) (s : ByteArray) (w : World) (hn : n ≤ 2000) (h : T < n) (hx : RpAt Q w b (off + T * 2) x) (hs : s.size ≤ 140737488355328) (hno : x.tr = true ∨ allB x.l s = false) :
    Calls Try.prog 15 #[.slice (some ⟨b, off, none⟩) n c, .int .i64 T, .string s] w fun e w' => e = .returned (.tuple #[.slice none 0 0, .bool false, .int .i64 ((T + 1 : Nat) : Int)]) ∧ Below w.heap.size w w' := by
  obtain ⟨xa, xn, xc, xl, xt⟩ := x
  obtain ⟨d0, d1, d2⟩ := hx
  simp only at d0 d1 d2 hno
  have h0 : ¬ (T : Int) < 0 := by omega
  have h1 : ¬ (n : Int) ≤ (T : Int) := by omega
  have hT : T ≤ 2000 := by omega
  have hb := below_new w (Obj.cells #[.slice xa xn xc, .bool xt] 33)
  have HL := hid (lies22 Q xa xn xc xl s _ (d2.later hb) hs)
  have HB := hid hb
  clear d2 hb
  cases xt with
  | true =>
    clear HL hno
    go_enter Try.func15, Try.ntmps15
    go_wp2_with fail
    refine bodyPost_ret (v := .tuple #[.slice none 0 0, .bool false, .int .i64 ((T + 1 : Nat) : Int)]) (by simp [results, Try.results15, go_sem]) rfl ⟨rfl, HB.out⟩
  | false =>
    have hf : allB xl s = false := by simpa using hno
    rw [hf] at HL
    clear hno hf
    go_enter Try.func15, Try.ntmps15
    go_wp2_with fail
    refine HL.out.mono ?_
    rintro e w1 ⟨rfl, hb1⟩
    have HB1 := hid (HB.out.trans (hb1.mono HB.out.size))
    clear hb1 HL
    go_wp2_with fail
    refine bodyPost_ret (v := .tuple #[.slice none 0 0, .bool false, .int .i64 ((T + 1 : Nat) : Int)]) (by simp [results, Try.results15, go_sem]) rfl ⟨rfl, HB1.out⟩

set_option maxRecDepth 100000 in
set_option maxHeartbeats 4000000 in
theorem ref15_yes (Q : Nat → Prop) (b off n c T : Nat) (x : Rp) (s : ByteArray) (w : World) (hn : n ≤ 2000) (h : T < n) (hx : RpAt Q w b (off + T * 2) x) (hs : s.size ≤ 140737488355328) (hno : x.tr = false) (hyes : allB x.l s = true) :
    Calls Try.prog 15 #[.slice (some ⟨b, off, none⟩) n c, .int .i64 T, .string s] w fun e w' => (∃ a' c', e = .returned (.tuple #[.slice a' x.n c', .bool true, .int .i64 ((T + 1 : Nat) : Int)]) ∧ LU w' w.heap.size (.slice a' x.n c') x.l) ∧ Below w.heap.size w w' := by
  obtain ⟨xa, xn, xc, xl, xt⟩ := x
  obtain ⟨d0, d1, d2⟩ := hx
  simp only at d0 d1 d2 hno hyes ⊢
  subst hno
  have h0 : ¬ (T : Int) < 0 := by omega
  have h1 : ¬ (n : Int) ≤ (T : Int) := by omega
  have hT : T ≤ 2000 := by omega
  have hxn : xn ≤ 2147483647 := d2.2.2.1
  have hxl : xl.length = xn := d2.1
  have hb := below_new w (Obj.cells #[.slice xa xn xc, .bool false] 33)
  have hblk := heap_alloc_new w (Obj.cells #[.slice xa xn xc, .bool false] 33)
  have HL := hid (lies22 Q xa xn xc xl s _ (d2.later hb) hs)
  rw [hyes] at HL
  have HB := hid hb
  have HBK := hid hblk
  have HSG := hid d2
  have HXL := hid hxl
  clear d2 hb hyes hblk hxl
  go_enter Try.func15, Try.ntmps15
  go_wp2_with fail
  refine HL.out.mono ?_
  rintro e w1 ⟨rfl, hb1⟩
  have HB1 := hid (HB.out.trans (hb1.mono HB.out.size))
  have HK1 := hid (blk_later hb1 HBK.out)
  have r1 : w1.cell? ⟨w.heap.size, 0, none⟩ = some (.slice xa xn xc) := cell_at (blk_later hb1 HBK.out)
  clear hb1 HL
  go_wp2_with fail
  clear r1
  go_loopw [11, 12] (fun v i wr => ∃ (k : Nat), k ≤ xn ∧ i = .int .i64 k ∧ wr.ownsRow (w.heap.size + 1) 34 1 v k ((xl.take k).map (Value.int .u64)) ∧ Below w.heap.size w wr ∧ wr.heap[w.heap.size]? = some (Obj.cells #[.slice xa xn xc, .bool false] 33)) (fun _ i _ => xn - (intOf i).toNat)
  case atStart => exact ⟨0, by omega, rfl, by simpa using World.ownsRow_nil _ _ _ _, HB1.out, HK1.out⟩
  case round =>
    obtain ⟨k, hk, rfl, hown, hbe, hbk⟩ := hrel
    obtain ⟨va, vc, hv, _⟩ := own_sl hown
    subst hv
    have r1 : wr.cell? ⟨w.heap.size, 0, none⟩ = some (.slice xa xn xc) := cell_at hbk
    have HOW := hid hown
    have HBE := hid hbe
    have HBK2 := hid hbk
    by_cases hkn : k < xn
    · obtain ⟨b2, o2, hxa, _, hcc⟩ := HSG.out.2.2.2.2.resolve_left (by omega)
      subst hxa
      have hz : wr.cell? ⟨b2, o2 + k, none⟩ = some (.int .u64 (xl.getD k 0)) := later_cell hbe (hcc k hkn)
      have hkn' : (k : Int) < (xn : Int) := by omega
      obtain ⟨z, hzz⟩ : ∃ z, z = xl.getD k 0 := ⟨_, rfl⟩
      rw [← hzz] at hz
      have HZZ := hid (show (xl.take (k + 1)).map (Value.int .u64) = (xl.take k).map (Value.int .u64) ++ [.int .u64 z] by
        have hkl : k < xl.length := by rw [HXL.out]; exact hkn
        rw [List.take_succ_eq_append_getElem hkl, List.map_append, hzz, List.getD_eq_getElem?_getD, List.getElem?_eq_getElem hkl]; rfl)
      obtain ⟨o1, ho1⟩ : ∃ o1, o1 = Obj.cells #[.int .u64 z] 34 := ⟨_, rfl⟩
      have hba := below_new wr o1
      have HR0 := hid (own_later hown hba)
      have HBA := hid hba
      have hsz : w.heap.size + 1 ≤ (wr.alloc o1).heap.size := by have := blk_lt hbk; simp; omega
      have HN := hid (show ∀ (j : Nat) (y : Value), [Value.int .u64 z][j]? = some y → (wr.alloc o1).cell? ((⟨wr.heap.size, 0, none⟩ : Addr).add j) = some y from fun j y hj => by
        have hplain : (⟨wr.heap.size, 0, none⟩ : Addr).add j = ⟨wr.heap.size, j, none⟩ := by unfold Addr.add; split <;> simp_all
        rw [hplain, ho1, World.cell?_alloc_new]
        rcases j with _ | j
        · simpa using hj
        · simp at hj)
      obtain ⟨i0, hi, hz0, hz1, hz2⟩ := info_parts Try.infW
      have HO1 := hid ho1
      clear hown hbe hbk hcc hba ho1 hzz
      go_wp2_with (first
        | (at_builtin; rw [← HO1.out]; refine wpList_append_own _ rfl (.tmp 43) (.tmp 49) 31 rfl (w.heap.size + 1) 34 i0 _ 1 8 Try.underlying31 hi hz0 hz1 hz2 rfl (by decide) _ k _ rfl HR0.out ⟨wr.heap.size, 0, none⟩ 1 1 [.int .u64 z] rfl rfl HN.out (fun u hu => by simp at hu; subst hu; rfl) (by unfold maxLen; omega) (by omega) hsz ?_; intro v' w2 hr2 hg2 _; have HR2 := hid hr2; have HK2 := hid (Kept.of_grown hg2); obtain ⟨va2, vc2, hv2, _⟩ := own_sl hr2; subst hv2; clear hr2 hg2))
      have hbl : ∀ bb, some bb = (Value.slice va k vc).ownBlock → w.heap.size + 1 ≤ bb := fun bb e => (own_ty HR0.out e.symm).1
      refine ⟨⟨k + 1, by omega, by go_num, by rw [HZZ.out]; exact HR2.out, ?_, ?_⟩, by simp [intOf]; omega⟩
      · exact below_kept (HBE.out.trans (HBA.out.mono HBE.out.size)) HK2.out (by omega) (fun bb e => by have := hbl bb e; omega)
      · exact (HK2.out.block _ (by omega) (fun e => by have := hbl _ e; omega)).trans (blk_later HBA.out HBK2.out)
    · obtain rfl : k = xn := by omega
      clear hown hbe hbk
      go_wp2_with fail
      refine bodyPost_ret (v := .tuple #[.slice va k vc, .bool true, .int .i64 ((T + 1 : Nat) : Int)]) (by simp [results, Try.results15, go_sem]) rfl ⟨⟨va, vc, rfl, ?_⟩, HBE.out⟩
      have h2 := HOW.out
      rw [List.take_of_length_le (by rw [HXL.out]; exact Nat.le_refl _)] at h2
      unfold LU
      rw [HXL.out]
      exact own_low h2 (by omega)
end Go.Proofs.Ythdgbeaibajkeaa

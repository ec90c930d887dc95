/-
  The walk over HostNil.
-/
import Derived.Test.YthdgbeaibajkeaaWo
namespace Go.Proofs.Ythdgbeaibajkeaa
open Go.RowKit
set_option linter.unusedVariables false

set_option maxHeartbeats 4000000 in
theorem nil4 (s : ByteArray) (w : World) (hs : s.size ≤ 140737488355328) : Calls Try.prog 4 #[.string s] w fun e w' => e = .returned (.bool true) ∧ Below w.heap.size w w' := by
  have H1 := hid (call14_none none s w (fun W _ => left12_nil W))
  go_enter Try.func4, Try.ntmps4
  go_wp2_with fail
  refine wp_loop_rounds 3 ?_
  rw [rounds_succ]
  go_wp2_with fail
  refine H1.out.mono ?_
  rintro e w1 ⟨rfl, hb1⟩
  have HB1 := hid hb1
  clear hb1 H1
  go_wp2_with fail
  refine (taken11_nil w1).mono ?_
  rintro e w2 ⟨rfl, hw⟩
  have hw' := hw.symm; subst hw'; clear hw
  go_wp2_with fail
  refine (left12_nil w1).mono ?_
  rintro e w2 ⟨rfl, hw⟩
  have hw' := hw.symm; subst hw'; clear hw
  obtain ⟨oh, hoh⟩ : ∃ oh, oh = Obj.cells #[Value.int .i64 0, .slice none 0 0] 44 := ⟨_, rfl⟩
  have b2 := below_new w1 oh
  have k2 := heap_alloc_new w1 oh
  rw [hoh] at k2
  have hhs : HS (w1.alloc oh) w1.heap.size (fun k => k ≠ w1.heap.size) 0 0 [] := by
    rw [hoh]
    exact ⟨cell_at k2, free_at k2, free_at k2, none, 0, cell_at k2, rfl, Nat.le_refl _, by omega, .inl rfl⟩
  have H2 := hid (callH w1.heap.size _ 0 0 [] s _ hhs (fun k hk => hk) (by omega) hs)
  have HH := hid hhs
  have HB2 := hid (HB1.out.trans (b2.mono HB1.out.size))
  have HO := hid hoh
  clear b2 k2 hhs hoh
  go_wp2_with fail
  rw [rounds_succ]
  go_wp2_with fail
  rw [← HO.out]
  generalize hW : w1.alloc oh = W2 at *
  clear hW
  refine H2.out.mono ?_
  rintro e w3 (⟨_, rfl, hb3⟩ | ⟨x, rest, hx, _⟩)
  rotate_left 1
  · cases hx
  have hh3 := HH.out.later hb3
  have HT := hid (taken11 w1.heap.size 0 w3 hh3.1)
  obtain ⟨_, _, _, la, lc, hl3, _⟩ := hh3
  have HL := hid (left12 w1.heap.size la 0 lc w3 hl3)
  have HB3 := hid (HB2.out.trans (hb3.mono HB2.out.size))
  clear hb3 hl3 H2 HH HB2 HO
  go_wp2_with fail
  refine HT.out.mono ?_
  rintro e w4 ⟨rfl, hw⟩
  have hw' := hw.symm; subst hw'; clear hw
  go_wp2_with fail
  refine HL.out.mono ?_
  rintro e w4 ⟨rfl, hw⟩
  have hw' := hw.symm; subst hw'; clear hw
  obtain ⟨oq, hoq⟩ : ∃ oq, oq = Obj.cells #[Value.int .i64 0, .slice none 0 0] 44 := ⟨_, rfl⟩
  have HB4 := hid (HB3.out.trans ((below_new w3 oq).mono HB3.out.size))
  have HOQ := hid hoq
  clear hoq HT HL
  go_wp2_with fail
  rw [rounds_succ]
  go_wp2_with fail
  rw [← HOQ.out]
  refine (works7 _).mono ?_
  rintro e w5 ⟨rfl, hb5⟩
  have HB5 := hid (HB4.out.trans (hb5.mono HB4.out.size))
  clear hb5
  go_wp2_with fail
  go_ret
  exact ⟨rfl, HB5.out⟩
end Go.Proofs.Ythdgbeaibajkeaa

/-
  The walks over the document's labels and Decode.
-/
import Derived.Test.YtgljlclnmnfocaaDoorRefE
namespace Go.Proofs.YtgljlclnmnfocaaDoor
open Go.RowKit
set_option linter.unusedVariables false

/-- One int more onto a row of the call's own. -/
theorem app_int (w : World) {ops : Array Oper} {rest : List Oper} {o : Oper} {a : Act} {Q : Exit → Act → World → Prop} (hgd : o.guard = none)
    (s x : Operand) (ho : o.op = Op.call { callee := Callee.builtin Builtin.append, args := #[s, x], argTypes := #[22, 22] }) (base : Nat) (v : Value) (n : Nat) (xs : List Int)
    (hs : a.eval s = v) (hown : w.ownsRow base 3 1 v n (xs.map (Value.int .i64))) (ad : Addr) (z : Int) (hx : a.eval x = .slice (some ad) 1 1) (hu : w.cell? (ad.add 0) = some (.int .i64 z)) (hb : n + 1 ≤ 1000000) (hbase : base ≤ w.heap.size)
    (h : ∀ (v' : Value) (w' : World), w'.ownsRow base 3 1 v' (n + 1) ((xs ++ [z]).map (Value.int .i64)) → Below base w w' → wpList Tryd.prog ops Q rest (a.put o.dst v') w') :
    wpList Tryd.prog ops Q (o :: rest) a w := by
  obtain ⟨i0, hi, hz0, hz1, hz2⟩ := info_parts Tryd.info3
  refine wpList_append_own w hgd s x 22 ho base 3 i0 (.int .i64 0) 1 8 Tryd.underlying22 hi hz0 hz1 hz2 rfl (by decide) v n _ hs hown ad 1 1 [.int .i64 z] hx rfl ?_ ?_ (by unfold maxLen; omega) (by omega) hbase ?_
  · intro j u hj
    match j, hj with
    | 0, hj => simp at hj; subst hj; exact hu
    | j + 1, hj => simp at hj
  · intro u hu; simp at hu; subst hu; rfl
  · intro v' w' ho' hg _
    refine h v' w' (by rw [List.map_append]; exact ho') ?_
    refine ⟨hg.os, hg.tape, hg.output, hg.size, fun k hk => hg.block k (by omega) ?_⟩
    rcases hown.2 with ⟨rfl, _⟩ | ⟨g, cap, cur, rfl, hbg, _⟩
    · simp [Value.ownBlock]
    · simp [Value.ownBlock]; omega

set_option maxRecDepth 100000 in
set_option maxHeartbeats 4000000 in
theorem rlabels55 (a : Option Addr) (n cap : Nat) (zs : List Int) (p : Int) (w : World) (hs : Seg w a n cap zs) :
    Calls Tryd.prog 55 #[.slice a n cap, .int .i64 p] w fun e w' => ∃ v, e = .returned (.tuple #[v, .int .i64 (labR zs p).2.1, .int .i64 (labR zs p).2.2]) ∧ w'.ownsRow w.heap.size 3 1 v (labR zs p).1.length ((labR zs p).1.map (Value.int .i64)) ∧ Below w.heap.size w w' := by
  have HC := hid (fun W (h : Seg W a n cap zs) p u q x (hr : ruAt zs p = (u, q, x)) => tup3q (ru8 a n cap zs p W h) hr)
  have HZ := hid hs.2.2.2.1
  have HS := hid hs
  have hg := ruAt_range zs p hs.2.2.2.1
  clear hs
  obtain ⟨L, hL⟩ : ∃ L, labR zs p = L := ⟨_, rfl⟩
  rw [hL]
  unfold labR at hL
  obtain ⟨r, hr⟩ : ∃ r, ruAt zs p = r := ⟨_, rfl⟩
  rw [hr] at hL hg
  obtain ⟨u, q, x⟩ := r
  simp only at hL hg
  have HC0 := hid (HC.out w HS.out p u q x hr)
  clear hr
  obtain ⟨g0, g1, _, _, _, _, _, _⟩ := hg
  by_cases hx : x = 0
  · subst hx
    rw [if_neg (by simp)] at hL
    by_cases hn1 : u < 1
    · rw [if_pos (.inl hn1)] at hL
      subst hL
      go_enter Tryd.func55, Tryd.ntmps55
      go_wp2_with fail
      refine HC0.out.mono ?_
      rintro e w1 ⟨rfl, rfl⟩
      go_wp2_with fail
      go_ret3
      exact ⟨.slice none 0 0, rfl, World.ownsRow_nil _ _ _ _, Below.refl _ _⟩
    by_cases hn2 : 16 < u
    · rw [if_pos (.inr hn2)] at hL
      subst hL
      go_enter Tryd.func55, Tryd.ntmps55
      go_wp2_with fail
      refine HC0.out.mono ?_
      rintro e w1 ⟨rfl, rfl⟩
      go_wp2_with fail
      go_ret3
      exact ⟨.slice none 0 0, rfl, World.ownsRow_nil _ _ _ _, Below.refl _ _⟩
    rw [if_neg (by omega)] at hL
    obtain ⟨m, rfl⟩ := Int.eq_ofNat_of_zero_le g0
    rw [Int.toNat_natCast] at hL
    have HL := hid hL
    have hm1 : (1 : Int) ≤ (m : Int) := by omega
    have hm2 : (m : Int) ≤ 16 := by omega
    clear hL g1 hn1 hn2 g0
    go_enter Tryd.func55, Tryd.ntmps55
    go_wp2_with fail
    refine HC0.out.mono ?_
    rintro e w1 ⟨rfl, rfl⟩
    clear HC0
    go_wp2_with fail
    go_loopw [8, 10, 11] (fun pl v i wr => ∃ (k : Nat) (done : List Int) (q' : Int), k ≤ m ∧ i = .int .u64 k ∧ pl = .int .i64 q' ∧ done.length = k ∧ wr.ownsRow w1.heap.size 3 1 v k (done.map (Value.int .i64)) ∧ Below w1.heap.size w1 wr ∧ labs zs (m - k) q' done = L) (fun _ _ i _ => m - (intOf i).toNat)
    case atStart => exact ⟨0, [], q, Nat.zero_le _, rfl, rfl, rfl, World.ownsRow_nil _ _ _ _, Below.refl _ _, HL.out⟩
    case round =>
      obtain ⟨k, done, q', hk, rfl, rfl, hdl, hown, hb, hlb⟩ := hrel
      have HO := hid hown
      have HB := hid hb
      have HDL := hid hdl
      by_cases hlt : k < m
      · rw [show m - k = m - (k + 1) + 1 by omega, labs] at hlb
        have hg2 := ruAt_range zs q' HZ.out
        obtain ⟨r1, hr1⟩ : ∃ r1, ruAt zs q' = r1 := ⟨_, rfl⟩
        rw [hr1] at hlb hg2
        obtain ⟨z, q2, x⟩ := r1
        simp only at hlb hg2
        have HC1 := hid (HC.out wr (HS.out.later hb (Nat.le_refl _)) q' z q2 x hr1)
        obtain ⟨z0, z1, _, _, _, _, _, _⟩ := hg2
        clear hr1 hown hb hdl HL
        by_cases hx : x = 0
        · subst hx
          rw [if_neg (by simp)] at hlb
          by_cases hz : 2147483647 < z
          · rw [if_pos hz] at hlb
            subst hlb
            go_wp2_with fail
            refine HC1.out.mono ?_
            rintro e w2 ⟨rfl, rfl⟩
            go_wp2_with fail
            go_ret3
            exact ⟨.slice none 0 0, rfl, World.ownsRow_nil _ _ _ _, HB.out⟩
          · rw [if_neg hz] at hlb
            have HLB := hid hlb
            have hwr := i64_in z (by omega) (by omega)
            clear hlb
            go_wp2_with (first
              | (go_at_call 57; refine HC1.out.mono ?_; rintro e w2 ⟨rfl, rfl⟩)
              | (at_builtin; refine app_int _ rfl (.tmp 48) (.tmp 51) rfl w1.heap.size _ k done rfl (HO.out.alloc _) ⟨w2.heap.size, 0, none⟩ z rfl (by simp [Addr.add]) (by omega) (by have := HB.out.size; simp; omega) ?_; intro v' w3 hown3 hb3; have O3 := hid hown3; have B3 := hid ((HB.out.alloc HB.out.size _).trans hb3); clear hown3 hb3))
            exact ⟨⟨k + 1, done ++ [z], q2, by omega, by go_num, rfl, by simp [HDL.out], O3.out, B3.out, HLB.out⟩, by simp [intOf]; omega⟩
        · have hx' : (x != 0) = true := by simp [hx]
          rw [if_pos hx] at hlb
          subst hlb
          go_wp2_with fail
          refine HC1.out.mono ?_
          rintro e w2 ⟨rfl, rfl⟩
          go_wp2_with fail
          go_ret3
          exact ⟨.slice none 0 0, rfl, World.ownsRow_nil _ _ _ _, HB.out⟩
      · obtain rfl : k = m := by omega
        rw [Nat.sub_self] at hlb
        have HLB := hid (show L = (done, q', 0) from hlb.symm)
        obtain ⟨va, vn, vc, rfl⟩ := own_slice hown
        clear hlb hown hb hdl HL
        go_wp2_with fail
        go_ret3
        refine ⟨.slice va vn vc, by rw [HLB.out]; rfl, ?_, HB.out⟩
        rw [HLB.out]
        simp only [HDL.out]
        exact HO.out
  · have hx' : (x != 0) = true := by simp [hx]
    rw [if_pos hx] at hL
    subst hL
    go_enter Tryd.func55, Tryd.ntmps55
    go_wp2_with fail
    refine HC0.out.mono ?_
    rintro e w1 ⟨rfl, rfl⟩
    go_wp2_with fail
    go_ret3
    exact ⟨.slice none 0 0, rfl, World.ownsRow_nil _ _ _ _, Below.refl _ _⟩
end Go.Proofs.YtgljlclnmnfocaaDoor

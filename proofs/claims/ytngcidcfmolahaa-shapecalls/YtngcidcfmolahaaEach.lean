/-
  The walks over each, letters, Shape and the document's Letters.
-/
import Derived.Test.YtngcidcfmolahaaLett
namespace Go.Proofs.Ytngcidcfmolahaa
open Go.RowKit
set_option linter.unusedVariables false

/-- The i-th byte of a text. -/
def byteI (s : ByteArray) (i : Nat) : Int := ((s.data.toList[i]?.getD 0).toNat : Int)
theorem byteI_at (s : ByteArray) (i : Nat) (h : i < s.size) : ((s[i]'h).toNat : Int) = byteI s i := by
  have h' : i < s.data.toList.length := by simpa using h
  rw [byteI, List.getElem?_eq_getElem h', Option.getD_some, Array.getElem_toList]; rfl

/-- types.each. -/
theorem each25 (s : ByteArray) (K B : Nat) (p : Nat → Bool) (w : World) (hs : s.size ≤ 1073741824)
    (he : ∀ args w, (callFunc K args).run Try.prog w = .ok (.enter K args) w)
    (hp : ∀ (pos i : Nat) (h : i < s.size), isL (byteI s i) = true → Calls Try.prog K #[.int .i64 i, .int .u8 (s[i]'h).toNat, .pointer (some ⟨B, 0, none⟩)] (w.iter s pos) fun e w' => e = .returned (.bool (p i)) ∧ w' = w.iter s pos) :
    Calls Try.prog 25 #[.string s, .func (.func K) #[] #[.pointer (some ⟨B, 0, none⟩)]] w fun e w' =>
      ∃ b pos, e = .returned (.bool b) ∧ (b = true ↔ ∀ i, i < s.size → isL (byteI s i) = true ∧ p i = true) ∧ w' = w.iter s pos := by
  have HP := hid hp
  clear hp
  go_enter Try.func25, Try.ntmps25
  go_wp2
  go_loopw [5] (fun _ wr => ∃ k : Nat, k ≤ s.size ∧ wr = w.iter s k ∧ ∀ i, i < k → isL (byteI s i) = true ∧ p i = true) (fun _ wr => s.size - wr.iterPos w.heap.size)
  case atStart => exact ⟨0, Nat.zero_le _, rfl, fun i h => by omega⟩
  case round =>
    obtain ⟨k, hk, rfl, hall⟩ := hrel
    have HA := hid hall
    clear hall
    by_cases hlt : k < s.size
    · by_cases hL : isL (byteI s k) = true
      · have hlow : (s[k]'hlt).toNat < 128 := by have := isL_low hL; rw [← byteI_at s k hlt] at this; omega
        have hnx : ∀ ty, (Instr.next (.pointer (some ⟨w.heap.size, 0, none⟩)) true ty).run Try.prog (w.iter s k) = _ := fun ty => run_next_ascii w s k ty hlt hlow
        go_wp2_with fail
        refine (letter27 _ _).mono ?_
        rintro e w1 ⟨rfl, rfl⟩
        rw [byteI_at s k hlt, hL]
        go_wp2_with fail
        refine (HP.out (k + 1) k hlt hL).mono ?_
        rintro e w2 ⟨rfl, rfl⟩
        cases hpk : p k
        · go_wp2
          go_ret
          exact ⟨false, k + 1, rfl, ⟨fun h => (nomatch h), fun h => (by rw [(h k hlt).2] at hpk; cases hpk)⟩, rfl⟩
        · go_wp2
          go_roundw
          case rel =>
            refine ⟨k + 1, by omega, rfl, fun i hi => ?_⟩
            rcases Nat.lt_or_ge i k with h | h
            · exact HA.out i h
            · obtain rfl : i = k := by omega
              exact ⟨hL, hpk⟩
          case measure => simp; omega
      · have hL' : isL (byteI s k) = false := by simpa using hL
        have hnx : ∀ ty, (Instr.next (.pointer (some ⟨w.heap.size, 0, none⟩)) true ty).run Try.prog (w.iter s k) = _ := fun ty => run_next_any w s k ty hlt
        generalize (Utf8.decode s k).2 = wd at hnx
        generalize (Utf8.decode s k).1 = rv at hnx
        go_wp2_with fail
        refine (letter27 _ _).mono ?_
        rintro e w1 ⟨rfl, rfl⟩
        rw [byteI_at s k hlt, hL']
        go_wp2
        go_ret
        exact ⟨false, _, rfl, ⟨fun h => (nomatch h), fun h => absurd (h k hlt).1 hL⟩, rfl⟩
    · have hnx : ∀ ty, (Instr.next (.pointer (some ⟨w.heap.size, 0, none⟩)) true ty).run Try.prog (w.iter s k) = _ := fun ty => run_next_end w s k ty hlt
      go_wp2
      go_ret
      exact ⟨true, _, rfl, ⟨fun _ i hi => HA.out i (by omega), fun _ => rfl⟩, rfl⟩

/-- Letters alone, at most so many? -/
def lett (s : ByteArray) (most : Nat) : Bool := (List.range s.size).all (fun i => isL (byteI s i)) && decide (s.size ≤ most)
theorem lett_iff (s : ByteArray) (most : Nat) : lett s most = true ↔ (∀ i, i < s.size → isL (byteI s i) = true) ∧ s.size ≤ most := by
  simp [lett]
theorem lett_of {s : ByteArray} {most : Nat} {b : Bool} (h : b = true ↔ (∀ i, i < s.size → isL (byteI s i) = true) ∧ s.size ≤ most) : b = lett s most :=
  Bool.eq_iff_iff.2 (h.trans (lett_iff s most).symm)

set_option maxRecDepth 100000 in
/-- types.letters. -/
theorem letters23 (s : ByteArray) (most : Nat) (w : World) (hs : s.size ≤ 1073741824) (hm : most ≤ 1073741824) :
    Calls Try.prog 23 #[.string s, .int .i64 most] w fun e w' => e = .returned (.bool (lett s most)) ∧ Below w.heap.size w w' := by
  have hmf : ∀ (fn : Fn) (first cap : Array Value) (w : World), (Instr.makeFunc fn first cap).run Try.prog w = .ok (.func fn first cap) w := fun _ _ _ _ => rfl
  have HE := hid (each25 s 26 w.heap.size (fun i => decide ((i : Int) < most)) (w.alloc (.cells #[.int .i64 most] 3)) hs (fun _ _ => by rfl) (fun pos i h _ => ask26 i most _ w.heap.size _ (by
    rw [World.iter, World.cell?_alloc_past _ _ _ (by simp), World.cell?_alloc_at _ _ _ _ rfl]; rfl)))
  go_enter Try.func23, Try.ntmps23
  go_wp2_with fail
  refine HE.out.mono ?_
  rintro e w1 ⟨b, pos, rfl, hb, rfl⟩
  go_wp2
  go_ret
  have hbl : b = lett s most := by
    refine lett_of (hb.trans ⟨fun h => ⟨fun i hi => (h i hi).1, ?_⟩, fun h i hi => ⟨h.1 i hi, by simp; omega⟩⟩)
    rcases Nat.eq_zero_or_pos s.size with h0 | h0
    · omega
    · have := (h (s.size - 1) (by omega)).2
      simp at this
      omega
  subst hbl
  exact ⟨rfl, ((Below.refl _ _).alloc (Nat.le_refl _) _).alloc (by simp) _⟩

/-- The document's Letters. -/
theorem letters20 (s : ByteArray) (most : Nat) (w : World) (hs : s.size ≤ 1073741824) (hm : most ≤ 1073741824) :
    Calls Try.prog 20 #[.string s, .int .i64 most] w fun e w' => e = .returned (.bool (lett s most)) ∧ w' = w := by
  by_cases hbig : most < s.size
  · have h' : (most : Int) < s.size := by omega
    go_enter Try.func20, Try.ntmps20
    go_wp2
    go_ret
    have hb : false = lett s most := lett_of ⟨fun h => (nomatch h), fun h => by omega⟩
    exact ⟨by rw [← hb]; rfl, rfl⟩
  have h' : ¬ (most : Int) < s.size := by omega
  go_enter Try.func20, Try.ntmps20
  go_wp2
  go_loop [5] (fun i => ∃ k : Nat, k ≤ s.size ∧ i = .int .i64 k ∧ ∀ i, i < k → isL (byteI s i) = true) (fun i => s.size - (intOf i).toNat)
  case atStart => exact ⟨0, Nat.zero_le _, rfl, fun i h => by omega⟩
  case round =>
    obtain ⟨k, hk, rfl, hall⟩ := hrel
    have HA := hid hall
    clear hall
    by_cases hlt : k < s.size
    · have hlt' : (k : Int) < s.size := by omega
      cases hL : isL (byteI s k)
      · go_wp2_with fail
        refine (letter24 _ _).mono ?_
        rintro e w1 ⟨rfl, rfl⟩
        rw [byteI_at s k hlt, hL]
        go_wp2
        go_ret
        have hb : false = lett s most := lett_of ⟨fun h => (nomatch h), fun h => by rw [h.1 k hlt] at hL; cases hL⟩
        exact ⟨by rw [← hb]; rfl, rfl⟩
      · go_wp2_with fail
        refine (letter24 _ _).mono ?_
        rintro e w1 ⟨rfl, rfl⟩
        rw [byteI_at s k hlt, hL]
        go_wp2
        refine ⟨⟨k + 1, by omega, by simp, fun i hi => ?_⟩, by simp [intOf]; omega⟩
        rcases Nat.lt_or_ge i k with h | h
        · exact HA.out i h
        · obtain rfl : i = k := by omega
          exact hL
    · have hlt' : ¬ (k : Int) < s.size := by omega
      go_wp2
      go_ret
      have hb : true = lett s most := lett_of ⟨fun _ => ⟨fun i hi => HA.out i (by omega), by omega⟩, fun _ => rfl⟩
      exact ⟨by rw [← hb]; rfl, rfl⟩

/-- types.Shape. -/
theorem shape19 (s : ByteArray) (w : World) (hs : s.size ≤ 1073741824) :
    Calls Try.prog 19 #[.string s] w fun e w' => e = .returned (.bool (lett s 256)) ∧ Below w.heap.size w w' := by
  have HE := hid (letters23 s 256 w hs (by omega))
  go_enter Try.func19, Try.ntmps19
  go_wp2_with fail
  refine HE.out.mono ?_
  rintro e w1 ⟨rfl, hb⟩
  go_wp2
  go_ret
  exact ⟨rfl, hb⟩

/-- The document's Shape. -/
theorem shape15 (s : ByteArray) (w : World) (hs : s.size ≤ 1073741824) :
    Calls Try.prog 15 #[.string s] w fun e w' => e = .returned (.bool (lett s 256)) ∧ w' = w := by
  have HE := hid (letters20 s 256 w hs (by omega))
  go_enter Try.func15, Try.ntmps15
  go_wp2_with fail
  refine HE.out.mono ?_
  rintro e w1 ⟨rfl, rfl⟩
  go_wp2
  go_ret
  exact ⟨rfl, rfl⟩

end Go.Proofs.Ytngcidcfmolahaa

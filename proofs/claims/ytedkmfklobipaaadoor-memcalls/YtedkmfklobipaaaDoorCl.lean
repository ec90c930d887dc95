/-
  The walk over MemCalls.
-/
import Derived.Test.YtedkmfklobipaaaDoorCp
import Derived.Test.YtedkmfklobipaaaDoorMd
namespace Go.Proofs.YtedkmfklobipaaaDoor
open Go.RowKit
set_option linter.unusedVariables false

theorem dl_rng (d : Nat → Bool) : ∀ z ∈ dl d 64, -9223372036854775808 ≤ z ∧ z ≤ 9223372036854775807 := by
  intro z hz
  unfold dl at hz
  obtain ⟨i, hi, rfl⟩ := List.mem_map.1 hz
  have := (List.mem_filter.1 hi).1
  have : i < 64 := by simpa using this
  omega
/-- The two lists of dirty pages are the same. -/
theorem eq_dirty {w : World} {b1 b2 : Nat} {a1 a2 : Option Addr} {k1 c1 k2 c2 : Nat} {d : Nat → Bool} (h1 : LI w b1 (.slice a1 k1 c1) (dl d 64)) (h2 : LI w b2 (.slice a2 k2 c2) (dl d 64)) :
    Calls Tryd.prog 29 #[.slice a1 k1 c1, .slice a2 k2 c2] w fun e w' => e = .returned (.bool true) ∧ Kept (fun _ => False) w w' := by
  have hl := dl_len d 64
  have := eqi a1 a2 k1 k2 c1 c2 _ _ w (h1.seg (dl_rng d) (by omega)) (h2.seg (dl_rng d) (by omega))
  refine this.mono ?_
  rintro e w' ⟨rfl, hk⟩
  exact ⟨by simp, hk⟩
theorem Tl.ownb {p : Tl} {b : Nat} (h : (Value.slice p.ad p.n p.c).ownBlock = some b) : p.b = some b := by
  unfold Tl.ad at h
  cases hp : p.b with
  | none => rw [hp] at h; simp [Value.ownBlock] at h
  | some B => rw [hp] at h; simpa [Value.ownBlock] using h
/-- The state of the law's loop. -/
def LS (w0 wr : World) (lo most Ra Rx Rb Ry GB k gr : Nat) : Prop :=
  ∃ F1 F2 F3 F4 F5 Na fa da Nb fb db cB cP, S5 w0 wr lo most Ra Rx Rb Ry GB F1 F2 F3 F4 F5 Na fa da Na fa da Nb fb db k cB cP ∧ cB ≤ gr ∧ cB ≤ 7 ∧ cP ≤ k ∧ gr ≤ 64 * k
abbrev ck26 (CB : Nat) (cl : Cl) (W : World) : Prop := W.cell? ⟨CB, 2, none⟩ = some (.int .u64 cl.addr) ∧ W.cell? ⟨CB, 3, none⟩ = some (.int .i64 cl.n) ∧ W.cell? ⟨CB, 4, none⟩ = some (.int .u64 cl.v)
theorem CAt.ck {w : World} {b : Nat} {x : Cl} (h : CAt w b 0 x) : ck26 b x w := ⟨by simpa using h.c2, by simpa using h.c3, by simpa using h.c4⟩
theorem CAt.z0 {w : World} {b : Nat} {x : Cl} (h : CAt w b 0 x) : w.cell? ⟨b, 0, none⟩ = some (.int .i64 x.op) := h.c0
theorem CAt.z1 {w : World} {b : Nat} {x : Cl} (h : CAt w b 0 x) : w.cell? ⟨b, 1, none⟩ = some (.bool x.sec) := by simpa using h.c1
theorem CAt.z2 {w : World} {b : Nat} {x : Cl} (h : CAt w b 0 x) : w.cell? ⟨b, 2, none⟩ = some (.int .u64 x.addr) := by simpa using h.c2
theorem CAt.z3 {w : World} {b : Nat} {x : Cl} (h : CAt w b 0 x) : w.cell? ⟨b, 3, none⟩ = some (.int .i64 x.n) := by simpa using h.c3
theorem CAt.z4 {w : World} {b : Nat} {x : Cl} (h : CAt w b 0 x) : w.cell? ⟨b, 4, none⟩ = some (.int .u64 x.v) := by simpa using h.c4
theorem cat_new {w : World} (x : Cl) (ra : 0 ≤ x.addr ∧ x.addr ≤ 18446744073709551615) (rv : 0 ≤ x.v ∧ x.v ≤ 18446744073709551615) : CAt (w.alloc (.cells #[.int .i64 x.op, .bool x.sec, .int .u64 x.addr, .int .i64 x.n, .int .u64 x.v] 65)) w.heap.size 0 x :=
  ⟨by rw [World.cell?_alloc_new]; rfl, by rw [World.cell?_alloc_new]; rfl, by rw [World.cell?_alloc_new]; rfl, by rw [World.cell?_alloc_new]; rfl, by rw [World.cell?_alloc_new]; rfl, ra, rv⟩
/-- Both memories made twice, and a bag. -/
theorem S5.init {w0 w1 w2 w3 w4 w5 : World} {m p Ra Rx Rb Ry : Nat} {FA FX FB FY : Nat → Prop} {f : Nat → Int} {d : Nat → Bool} (b1 : Below w0.heap.size w0 w1) (hA : PM w2 m Ra FA p f d) (b2 : Below w1.heap.size w1 w2) (a2 : ∀ k, FA k → w1.heap.size ≤ k)
    (hX : DM w3 m Rx FX p f d) (b3 : Below w2.heap.size w2 w3) (a3 : ∀ k, FX k → w2.heap.size ≤ k) (hB : PM w4 m Rb FB p f d) (b4 : Below w3.heap.size w3 w4) (a4 : ∀ k, FB k → w3.heap.size ≤ k) (hY : DM w5 m Ry FY p f d) (b5 : Below w4.heap.size w4 w5) (a5 : ∀ k, FY k → w4.heap.size ≤ k) :
    LS w0 (w5.alloc (.cells #[.slice none 0 0, .slice none 0 0, .slice none 0 0, .slice none 0 0, .slice none 0 0, .slice none 0 0, .slice none 0 0, .slice none 0 0, .slice none 0 0, .slice none 0 0, .slice none 0 0, .slice none 0 0, .slice none 0 0, .slice none 0 0, .slice none 0 0, .slice none 0 0, .slice none 0 0] 62)) w0.heap.size m Ra Rx Rb Ry w5.heap.size 0 0 := by
  have z1 := b1.size
  have z2 := b2.size
  have z3 := b3.size
  have z4 := b4.size
  have z5 := b5.size
  have l1 : ∀ k, FA k → k < w2.heap.size := fun k h => hA.lt h
  have l2 : ∀ k, FX k → k < w3.heap.size := fun k h => hX.lt h
  have l3 : ∀ k, FB k → k < w4.heap.size := fun k h => hB.lt h
  have l4 : ∀ k, FY k → k < w5.heap.size := fun k h => hY.lt h
  have hbf : ∀ k, Bf w5.heap.size (.slice none 0 0) (.slice none 0 0) (.slice none 0 0) [] [] [] k → k = w5.heap.size := fun k h => by
    have hn : ∀ k, ¬ Kf (.slice none 0 0) [] k := fun k hk => by rcases hk with hk | ⟨p, hp, _⟩ <;> simp_all [Value.ownBlock]
    rcases h with h | h | h | h
    · exact h
    · exact absurd h (hn k)
    · exact absurd h (hn k)
    · exact absurd h (hn k)
  have ka := Kept.alloc (fun _ => False) w5 (.cells #[.slice none 0 0, .slice none 0 0, .slice none 0 0, .slice none 0 0, .slice none 0 0, .slice none 0 0, .slice none 0 0, .slice none 0 0, .slice none 0 0, .slice none 0 0, .slice none 0 0, .slice none 0 0, .slice none 0 0, .slice none 0 0, .slice none 0 0, .slice none 0 0, .slice none 0 0] 62)
  have k5 := (kept_below b5).trans ka
  have k4 := (kept_below b4).trans k5
  have k3 := (kept_below b3).trans k4
  refine ⟨FA, FX, FB, FY, _, p, f, d, p, f, d, 0, 0, ⟨hA.kept k3 (fun _ _ x => x), hX.kept k4 (fun _ _ x => x), hB.kept k5 (fun _ _ x => x), hY.kept ka (fun _ _ x => x), ⟨_, _, _, [], [], [], bag0 (by omega), fun _ => Iff.rfl, rfl, rfl, rfl⟩, fun k => ⟨fun h => ⟨fun q => ?_, fun q => ?_, fun q => ?_, fun q => ?_⟩, fun h => ⟨fun q => ?_, fun q => ?_, fun q => ?_⟩, fun h => ⟨fun q => ?_, fun q => ?_⟩, fun h q => ?_⟩, fun k h => ?_, ?_⟩, by omega, by omega, by omega, by omega⟩
  · have := l1 k h; have := a3 k q; omega
  · have := l1 k h; have := a4 k q; omega
  · have := l1 k h; have := a5 k q; omega
  · have := l1 k h; have := hbf k q; omega
  · have := l2 k h; have := a4 k q; omega
  · have := l2 k h; have := a5 k q; omega
  · have := l2 k h; have := hbf k q; omega
  · have := l3 k h; have := a5 k q; omega
  · have := l3 k h; have := hbf k q; omega
  · have := l4 k h; have := hbf k q; omega
  · rcases h with h | h | h | h | h
    · have := a2 k h; omega
    · have := a3 k h; omega
    · have := a4 k h; omega
    · have := a5 k h; omega
    · have := hbf k h; omega
  · exact below_kept (b1.trans (b2.mono b1.size)) k3 (by omega) (fun _ x => x.elim)

section
variable {w : World} {most R X N : Nat} {F : Nat → Prop} {f : Nat → Int} {d : Nat → Bool}
theorem PM.load' (h : PM w most R F N f d) (a n : Int) (ha : 0 ≤ a ∧ a ≤ 18446744073709551615) : Calls Tryd.prog 19 #[.pointer (some ⟨R, 0, none⟩), .int .u64 a, .int .i64 n] w fun e w' => e = .returned (.tuple #[.int .u64 (ldA N f a.toNat n), .bool (hol N a.toNat n)]) ∧ w' = w := by
  have := h.load a.toNat n (by omega)
  rwa [Int.toNat_of_nonneg ha.1] at this
theorem DM.load' (h : DM w most X F N f d) (a n : Int) (ha : 0 ≤ a ∧ a ≤ 18446744073709551615) : Calls Tryd.prog 20 #[.pointer (some ⟨X, 0, none⟩), .int .u64 a, .int .i64 n] w fun e w' => e = .returned (.tuple #[.int .u64 (ldA N f a.toNat n), .bool (hol N a.toNat n)]) ∧ w' = w := by
  have := h.load a.toNat n (by omega)
  rwa [Int.toNat_of_nonneg ha.1] at this
theorem PM.store' (h : PM w most R F N f d) (a n v : Int) (ha : 0 ≤ a ∧ a ≤ 18446744073709551615) (hv : 0 ≤ v ∧ v ≤ 18446744073709551615) : Calls Tryd.prog 21 #[.pointer (some ⟨R, 0, none⟩), .int .u64 a, .int .i64 n, .int .u64 v] w fun e w' => e = .returned (.bool (hol N a.toNat n)) ∧ PM w' most R F N (stF N f a.toNat n v) (stD N d a.toNat n) ∧ Kept F w w' := by
  have := h.store a.toNat n v (by omega) hv
  rwa [Int.toNat_of_nonneg ha.1] at this
theorem DM.store' (h : DM w most X F N f d) (a n v : Int) (ha : 0 ≤ a ∧ a ≤ 18446744073709551615) (hv : 0 ≤ v ∧ v ≤ 18446744073709551615) : Calls Tryd.prog 22 #[.pointer (some ⟨X, 0, none⟩), .int .u64 a, .int .i64 n, .int .u64 v] w fun e w' => e = .returned (.bool (hol N a.toNat n)) ∧ DM w' most X F N (stF N f a.toNat n v) (stD N d a.toNat n) ∧ Kept F w w' := by
  have := h.store a.toNat n v (by omega) hv
  rwa [Int.toNat_of_nonneg ha.1] at this
end

set_option maxRecDepth 100000 in
set_option maxHeartbeats 40000000 in
theorem calls_law (p m : Nat) (ca : Option Addr) (n cap : Nat) (xs : List Cl) (w : World) (hxl : xs.length = n) (hn : n ≤ 300) (hcs : n = 0 ∨ ∃ b off, ca = some ⟨b, off, none⟩ ∧ ∀ j x, xs[j]? = some x → CAt w b (off + j * 5) x) (ht : Tens w.heap.size w) (hmy : mayB p m = true) :
    Calls Tryd.prog 4 #[.int .i64 p, .int .i64 m, .slice ca n cap] w fun e w' => e = .returned (.bool true) ∧ Below w.heap.size w w' := by
  have hm : p ≤ m ∧ m ≤ 64 := by simp [mayB] at hmy; omega
  have HMY := hid hmy
  have HT := hid ht
  have HCS := hid hcs
  clear hmy ht hcs
  have hn3 : ¬ (300 : Int) < (n : Int) := by omega
  go_enter Tryd.func4, Tryd.ntmps4
  go_wp2_with fail
  refine (works_yes w).mono ?_
  rintro e w1 ⟨rfl, hb1⟩
  have B1 := hid hb1
  clear hb1
  go_wp2_with fail
  refine (pm_new HMY.out).mono ?_
  rintro e w2 ⟨Ra, FA, rfl, hA, b2, a2⟩
  have HA := hid (And.intro hA (And.intro b2 a2))
  clear hA b2 a2
  go_wp2_with fail
  refine (dm_new HMY.out).mono ?_
  rintro e w3 ⟨Rx, FX, rfl, hA, b2, a2⟩
  have HX := hid (And.intro hA (And.intro b2 a2))
  clear hA b2 a2
  go_wp2_with fail
  refine (pm_new HMY.out).mono ?_
  rintro e w4 ⟨Rb, FB, rfl, hA, b2, a2⟩
  have HB := hid (And.intro hA (And.intro b2 a2))
  clear hA b2 a2
  go_wp2_with fail
  refine (dm_new HMY.out).mono ?_
  rintro e w5 ⟨Ry, FY, rfl, hA, b2, a2⟩
  have HY := hid (And.intro hA (And.intro b2 a2))
  clear hA b2 a2
  have hi := S5.init B1.out HA.out.1 HA.out.2.1 HA.out.2.2 HX.out.1 HX.out.2.1 HX.out.2.2 HB.out.1 HB.out.2.1 HB.out.2.2 HY.out.1 HY.out.2.1 HY.out.2.2
  have HL := hid hi
  clear hi HA HX HB HY B1
  go_wp2_with fail
  generalize w5.alloc (.cells #[.slice none 0 0, .slice none 0 0, .slice none 0 0, .slice none 0 0, .slice none 0 0, .slice none 0 0, .slice none 0 0, .slice none 0 0, .slice none 0 0, .slice none 0 0, .slice none 0 0, .slice none 0 0, .slice none 0 0, .slice none 0 0, .slice none 0 0, .slice none 0 0, .slice none 0 0] 62) = W0 at *
  generalize w5.heap.size = GB at *
  go_loopw [8, 10, 12, 14, 17, 18] (fun va vx vb vy vg i wr => ∃ k Ra Rx Rb Ry gr : Nat, k ≤ n ∧ va = .pointer (some ⟨Ra, 0, none⟩) ∧ vx = .pointer (some ⟨Rx, 0, none⟩) ∧ vb = .pointer (some ⟨Rb, 0, none⟩) ∧ vy = .pointer (some ⟨Ry, 0, none⟩) ∧ vg = .int .i64 gr ∧ i = .int .i64 k ∧ Hid (LS w wr w.heap.size m Ra Rx Rb Ry GB k gr)) (fun _ _ _ _ _ i _ => n - (intOf i).toNat)
  case atStart => exact ⟨0, Ra, Rx, Rb, Ry, 0, by omega, rfl, rfl, rfl, rfl, rfl, rfl, HL⟩
  case round =>
    clear HL
    obtain ⟨k, Ra, Rx, Rb, Ry, gr, hk, rfl, rfl, rfl, rfl, rfl, rfl, HLS⟩ := hrel
    obtain ⟨F1, F2, F3, F4, F5, Na, fa, da, Nb, fb, db, cB, cP, hS, hcB, hcB7, hcP, hgr⟩ := HLS.out
    have hNa : Na ≤ 64 := by have := hS.pa.bnd; omega
    have hNb : Nb ≤ 64 := by have := hS.pb.bnd; omega
    have HS := hid hS
    clear hS HLS
    by_cases hlt : k < n
    · obtain ⟨b0, off, rfl, hcell⟩ := HCS.out.resolve_left (by omega)
      obtain ⟨cl, hcl⟩ : ∃ cl, xs[k]? = some cl := ⟨_, List.getElem?_eq_getElem (by omega)⟩
      have hct := hcell k cl hcl
      have hct2 : CAt wr b0 (off + k * 5) cl := hct.kept (Kept.of_below HS.out.bl) (fun h => by have := hct.lt; omega)
      obtain ⟨e0, e1, e2, e3, e4, hra, hrv⟩ := hct2
      have hlt' : (k : Int) < (n : Int) := by omega
      clear hcell hcl hct HCS
      cases hsec : cl.sec
      · rw [hsec] at e1
        by_cases hop : cl.op = 0
        · rw [hop] at e0
          as_aux_lemma =>
            go_wp2_with fail
            have hcn := cat_new (w := wr) cl hra hrv
            rw [hop, hsec] at hcn
            have hcq : Cq (wr.alloc (.cells #[.int .i64 0, .bool false, .int .u64 cl.addr, .int .i64 cl.n, .int .u64 cl.v] 65)) wr.heap.size F1 F2 F3 F4 F5 cl := ⟨hcn, fun k hx => by have := HS.out.lt hx; omega⟩
            have hsl := (HS.out.later (Kept.alloc (fun _ => False) wr (.cells #[.int .i64 0, .bool false, .int .u64 cl.addr, .int .i64 cl.n, .int .u64 cl.v] 65))).1
            have HC := hid hcq
            have HS := hid hsl
            clear hcn hcq hsl e0 e1 e2 e3 e4
            generalize wr.alloc (.cells #[.int .i64 0, .bool false, .int .u64 cl.addr, .int .i64 cl.n, .int .u64 cl.v] 65) = W at *
            generalize wr.heap.size = CB at *
            have hz2 := HC.out.1.z2
            have hz3 := HC.out.1.z3
            refine (HS.out.pa.load' cl.addr cl.n hra).mono ?_
            rintro e w' ⟨rfl, hw⟩
            have hw2 := hw.symm; subst hw2; clear hw
            go_wp2_with fail
            refine (HS.out.px.load' cl.addr cl.n hra).mono ?_
            rintro e w' ⟨rfl, hw⟩
            have hw2 := hw.symm; subst hw2; clear hw
            generalize ldA Na fa cl.addr.toNat cl.n = lv at *
            generalize hol Na cl.addr.toNat cl.n = lh at *
            have h1 : (lv != lv) = false := by simp
            have h2 : (lh != lh) = false := by simp
            have hz1 := HC.out.1.z1
            clear hz1
            go_wp2_with fail
            refine HS.out.pa.dirty.mono ?_
            rintro e wd ⟨v, rfl, hLI, hb⟩
            have hsz := HS.out.lows
            have hFz := fun k hx => HS.out.lt (k := k) hx
            have hCz := HC.out.1.lt
            obtain ⟨hs, hc⟩ := HS.out.later (kept_below hb)
            have HC := hid (hc _ _ HC.out)
            have HS := hid hs
            obtain ⟨pt, rfl, hok, hpl, hpz⟩ := tl_of_li hLI hsz (by have := dl_len da 64; omega)
            have HLI := hid hLI
            have HAD := hid (HS.out.addI pt hok hpl _ hpz hsz hFz hb.size (by omega) HC.out hCz)
            have HPZ := hid hpz
            have HFZ := hid hFz
            clear hs hc hLI hok hpl hpz hFz hb hsz hCz
            go_wp2_with fail
            refine HAD.out.mono ?_
            rintro e wi ⟨rfl, F6, hs, hc, hk⟩
            have HLI := hid (HLI.out.kept hk (fun b hb hx => by have h1 := HPZ.out b (Tl.ownb hb); have h2 := HFZ.out b (.inr (.inr (.inr (.inr hx)))); omega))
            have HS := hid hs
            have HC := hid hc
            clear hs hc hk HPZ HFZ
            have hNN : ((Na : Int) != (Na : Int)) = false := by simp
            go_wp2_with fail
            refine HS.out.pa.size.mono ?_
            rintro e w' ⟨rfl, hw⟩
            have hw2 := hw.symm; subst hw2; clear hw
            go_wp2_with fail
            refine HS.out.px.size.mono ?_
            rintro e w' ⟨rfl, hw⟩
            have hw2 := hw.symm; subst hw2; clear hw
            go_wp2_with fail
            refine HS.out.px.dirty.mono ?_
            rintro e wx ⟨v2, rfl, hL2, hb⟩
            obtain ⟨q2, c2, rfl⟩ := hL2.slice
            obtain ⟨hs, hc⟩ := HS.out.later (kept_below hb)
            have HC := hid (hc _ _ HC.out)
            have HS := hid hs
            have HEQ := hid (eq_dirty (HLI.out.kept (kept_below hb) (fun _ _ x => x)) hL2)
            clear hs hc hb hL2 HLI
            go_wp2_with fail
            refine HEQ.out.mono ?_
            rintro e wy ⟨rfl, hk⟩
            obtain ⟨hs, hc⟩ := HS.out.later hk
            have HC := hid (hc _ _ HC.out)
            have HS := hid hs
            have hz1 := HC.out.1.z1
            rw [hsec] at hz1
            clear hs hc hk HEQ
            go_wp2_with fail
            exact ⟨⟨k + 1, Ra, Rx, Rb, Ry, gr, by omega, rfl, rfl, rfl, rfl, by go_num, by go_num, hid ⟨_, _, _, _, _, _, _, _, _, _, _, _, _, HS.out, by omega, by omega, by omega, by omega⟩⟩, by simp [intOf]; omega⟩
        have hb0 : (cl.op == 0) = false := by simpa using hop
        have hn0 : ¬ cl.op = 0 := hop
        clear hop
        by_cases hop : cl.op = 1
        · rw [hop] at e0
          as_aux_lemma =>
            go_wp2_with fail
            have hcn := cat_new (w := wr) cl hra hrv
            rw [hop, hsec] at hcn
            have hcq : Cq (wr.alloc (.cells #[.int .i64 1, .bool false, .int .u64 cl.addr, .int .i64 cl.n, .int .u64 cl.v] 65)) wr.heap.size F1 F2 F3 F4 F5 cl := ⟨hcn, fun k hx => by have := HS.out.lt hx; omega⟩
            have hsl := (HS.out.later (Kept.alloc (fun _ => False) wr (.cells #[.int .i64 1, .bool false, .int .u64 cl.addr, .int .i64 cl.n, .int .u64 cl.v] 65))).1
            have HC := hid hcq
            have HS := hid hsl
            clear hcn hcq hsl e0 e1 e2 e3 e4
            generalize wr.alloc (.cells #[.int .i64 1, .bool false, .int .u64 cl.addr, .int .i64 cl.n, .int .u64 cl.v] 65) = W at *
            generalize wr.heap.size = CB at *
            have hH := HC.out.1.ck
            obtain ⟨hs, hc⟩ := HS.out.later (Kept.drewN (fun _ => False) W 1)
            have hcd := hc _ _ HC.out
            have HS := hid hs
            have HC := hid hcd
            have hHD : ck26 CB cl W.drew := hcd.1.ck
            clear hs hc hcd hH
            refine wp_region_held_drew (S := ck26 CB cl) (by kernel_rfl) hHD (fun hHeld => ?_)
            have hHD2 := hHD
            skip
            have HS : Hid (S5 w W.drew w.heap.size m Ra Rx Rb Ry GB F1 F2 F3 F4 F5 Na fa da Na fa da Nb fb db k cB cP) := HS
            have HC : Hid (Cq W.drew CB F1 F2 F3 F4 F5 cl) := HC
            generalize W.drew = WD at *
            refine take_at (i := 0) (oi := { dst := some 137, op := Go.Op.move (Go.Operand.tmp 8), type := 25, pos := "law.go:90", after := #[], guard := none }) (d := some 137) (v := ?_) (by kernel_rfl) (by kernel_rfl) (by kernel_rfl) (by kernel_rfl) (by kernel_rfl) (fun _ _ _ h => h) (Or.inl ⟨by kernel_rfl, ?_⟩) (by assumption) ?_
            rotate_left 1
            · (intro w hSw; (try dsimp only at hSw); go_simp; try with_reducible rfl)
            try simp only [Act.put, List.setIfInBounds_toArray, List.set_cons_zero, List.set_cons_succ]
            refine take_at (i := 1) (oi := { dst := some 138, op := Go.Op.fieldAddr 65 (Go.Operand.tmp 19) 2, type := 0, pos := "law.go:90", after := #[], guard := none }) (d := some 138) (v := ?_) (by kernel_rfl) (by kernel_rfl) (by kernel_rfl) (by kernel_rfl) (by kernel_rfl) (fun _ _ _ h => h) (Or.inl ⟨by kernel_rfl, ?_⟩) (by assumption) ?_
            rotate_left 1
            · (intro w hSw; (try dsimp only at hSw); go_simp; try with_reducible rfl)
            try simp only [Act.put, List.setIfInBounds_toArray, List.set_cons_zero, List.set_cons_succ]
            refine take_at (i := 2) (oi := { dst := some 139, op := Go.Op.load 63 (Go.Operand.tmp 138), type := 63, pos := "law.go:90", after := #[{ on := 1, ground := Go.Ground.data }], guard := none }) (d := some 139) (v := ?_) (by kernel_rfl) (by kernel_rfl) (by kernel_rfl) (by kernel_rfl) (by kernel_rfl) (fun _ _ _ h => h) (Or.inl ⟨by kernel_rfl, ?_⟩) (by assumption) ?_
            rotate_left 1
            · (intro w hSw; (try dsimp only at hSw); go_simp; try with_reducible rfl)
            try simp only [Act.put, List.setIfInBounds_toArray, List.set_cons_zero, List.set_cons_succ]
            refine take_at (i := 3) (oi := { dst := some 140, op := Go.Op.fieldAddr 65 (Go.Operand.tmp 19) 3, type := 0, pos := "law.go:90", after := #[], guard := none }) (d := some 140) (v := ?_) (by kernel_rfl) (by kernel_rfl) (by kernel_rfl) (by kernel_rfl) (by kernel_rfl) (fun _ _ _ h => h) (Or.inl ⟨by kernel_rfl, ?_⟩) (by assumption) ?_
            rotate_left 1
            · (intro w hSw; (try dsimp only at hSw); go_simp; try with_reducible rfl)
            try simp only [Act.put, List.setIfInBounds_toArray, List.set_cons_zero, List.set_cons_succ]
            refine take_at (i := 4) (oi := { dst := some 141, op := Go.Op.load 3 (Go.Operand.tmp 140), type := 3, pos := "law.go:90", after := #[{ on := 3, ground := Go.Ground.data }], guard := none }) (d := some 141) (v := ?_) (by kernel_rfl) (by kernel_rfl) (by kernel_rfl) (by kernel_rfl) (by kernel_rfl) (fun _ _ _ h => h) (Or.inl ⟨by kernel_rfl, ?_⟩) (by assumption) ?_
            rotate_left 1
            · (intro w hSw; (try dsimp only at hSw); go_simp; try with_reducible rfl)
            try simp only [Act.put, List.setIfInBounds_toArray, List.set_cons_zero, List.set_cons_succ]
            refine take_at (i := 5) (oi := { dst := some 142, op := Go.Op.fieldAddr 65 (Go.Operand.tmp 19) 4, type := 0, pos := "law.go:90", after := #[], guard := none }) (d := some 142) (v := ?_) (by kernel_rfl) (by kernel_rfl) (by kernel_rfl) (by kernel_rfl) (by kernel_rfl) (fun _ _ _ h => h) (Or.inl ⟨by kernel_rfl, ?_⟩) (by assumption) ?_
            rotate_left 1
            · (intro w hSw; (try dsimp only at hSw); go_simp; try with_reducible rfl)
            try simp only [Act.put, List.setIfInBounds_toArray, List.set_cons_zero, List.set_cons_succ]
            refine take_at (i := 6) (oi := { dst := some 143, op := Go.Op.load 63 (Go.Operand.tmp 142), type := 63, pos := "law.go:90", after := #[{ on := 5, ground := Go.Ground.data }], guard := none }) (d := some 143) (v := ?_) (by kernel_rfl) (by kernel_rfl) (by kernel_rfl) (by kernel_rfl) (by kernel_rfl) (fun _ _ _ h => h) (Or.inl ⟨by kernel_rfl, ?_⟩) (by assumption) ?_
            rotate_left 1
            · (intro w hSw; (try dsimp only at hSw); go_simp; try with_reducible rfl)
            try simp only [Act.put, List.setIfInBounds_toArray, List.set_cons_zero, List.set_cons_succ]
            refine take_at (i := 8) (oi := { dst := some 145, op := Go.Op.move (Go.Operand.tmp 10), type := 29, pos := "law.go:90", after := #[], guard := none }) (d := some 145) (v := ?_) (by kernel_rfl) (by kernel_rfl) (by kernel_rfl) (by kernel_rfl) (by kernel_rfl) (fun _ _ _ h => h) (Or.inl ⟨by kernel_rfl, ?_⟩) (by assumption) ?_
            rotate_left 1
            · (intro w hSw; (try dsimp only at hSw); go_simp; try with_reducible rfl)
            try simp only [Act.put, List.setIfInBounds_toArray, List.set_cons_zero, List.set_cons_succ]
            refine take_at (i := 9) (oi := { dst := some 146, op := Go.Op.fieldAddr 65 (Go.Operand.tmp 19) 2, type := 0, pos := "law.go:90", after := #[], guard := none }) (d := some 146) (v := ?_) (by kernel_rfl) (by kernel_rfl) (by kernel_rfl) (by kernel_rfl) (by kernel_rfl) (fun _ _ _ h => h) (Or.inl ⟨by kernel_rfl, ?_⟩) (by assumption) ?_
            rotate_left 1
            · (intro w hSw; (try dsimp only at hSw); go_simp; try with_reducible rfl)
            try simp only [Act.put, List.setIfInBounds_toArray, List.set_cons_zero, List.set_cons_succ]
            refine take_at (i := 10) (oi := { dst := some 147, op := Go.Op.load 63 (Go.Operand.tmp 146), type := 63, pos := "law.go:90", after := #[{ on := 9, ground := Go.Ground.data }], guard := none }) (d := some 147) (v := ?_) (by kernel_rfl) (by kernel_rfl) (by kernel_rfl) (by kernel_rfl) (by kernel_rfl) (fun _ _ _ h => h) (Or.inl ⟨by kernel_rfl, ?_⟩) (by assumption) ?_
            rotate_left 1
            · (intro w hSw; (try dsimp only at hSw); go_simp; try with_reducible rfl)
            try simp only [Act.put, List.setIfInBounds_toArray, List.set_cons_zero, List.set_cons_succ]
            refine take_at (i := 11) (oi := { dst := some 148, op := Go.Op.fieldAddr 65 (Go.Operand.tmp 19) 3, type := 0, pos := "law.go:90", after := #[], guard := none }) (d := some 148) (v := ?_) (by kernel_rfl) (by kernel_rfl) (by kernel_rfl) (by kernel_rfl) (by kernel_rfl) (fun _ _ _ h => h) (Or.inl ⟨by kernel_rfl, ?_⟩) (by assumption) ?_
            rotate_left 1
            · (intro w hSw; (try dsimp only at hSw); go_simp; try with_reducible rfl)
            try simp only [Act.put, List.setIfInBounds_toArray, List.set_cons_zero, List.set_cons_succ]
            refine take_at (i := 12) (oi := { dst := some 149, op := Go.Op.load 3 (Go.Operand.tmp 148), type := 3, pos := "law.go:90", after := #[{ on := 11, ground := Go.Ground.data }], guard := none }) (d := some 149) (v := ?_) (by kernel_rfl) (by kernel_rfl) (by kernel_rfl) (by kernel_rfl) (by kernel_rfl) (fun _ _ _ h => h) (Or.inl ⟨by kernel_rfl, ?_⟩) (by assumption) ?_
            rotate_left 1
            · (intro w hSw; (try dsimp only at hSw); go_simp; try with_reducible rfl)
            try simp only [Act.put, List.setIfInBounds_toArray, List.set_cons_zero, List.set_cons_succ]
            refine take_at (i := 13) (oi := { dst := some 150, op := Go.Op.fieldAddr 65 (Go.Operand.tmp 19) 4, type := 0, pos := "law.go:90", after := #[], guard := none }) (d := some 150) (v := ?_) (by kernel_rfl) (by kernel_rfl) (by kernel_rfl) (by kernel_rfl) (by kernel_rfl) (fun _ _ _ h => h) (Or.inl ⟨by kernel_rfl, ?_⟩) (by assumption) ?_
            rotate_left 1
            · (intro w hSw; (try dsimp only at hSw); go_simp; try with_reducible rfl)
            try simp only [Act.put, List.setIfInBounds_toArray, List.set_cons_zero, List.set_cons_succ]
            refine take_at (i := 14) (oi := { dst := some 151, op := Go.Op.load 63 (Go.Operand.tmp 150), type := 63, pos := "law.go:90", after := #[{ on := 13, ground := Go.Ground.data }], guard := none }) (d := some 151) (v := ?_) (by kernel_rfl) (by kernel_rfl) (by kernel_rfl) (by kernel_rfl) (by kernel_rfl) (fun _ _ _ h => h) (Or.inl ⟨by kernel_rfl, ?_⟩) (by assumption) ?_
            rotate_left 1
            · (intro w hSw; (try dsimp only at hSw); go_simp; try with_reducible rfl)
            try simp only [Act.put, List.setIfInBounds_toArray, List.set_cons_zero, List.set_cons_succ]
            refine wpAnyH_ready (rs := [7]) (by kernel_rfl) (by simp) ?_
            refine ready_at (o := { dst := some 144, op := Go.Op.call { callee := Go.Callee.value (Go.Operand.func 21), args := #[Go.Operand.tmp 137, Go.Operand.tmp 139, Go.Operand.tmp 141, Go.Operand.tmp 143], argTypes := #[25, 63, 3, 63] }, type := 4, pos := "law.go:90", after := #[{ on := 0, ground := Go.Ground.data }, { on := 2, ground := Go.Ground.data }, { on := 4, ground := Go.Ground.data }, { on := 6, ground := Go.Ground.data }], guard := none }) (by kernel_rfl) (by kernel_rfl) (fun K hK => ?_) ?_
            · go_simp
              refine (HS.out.pa.store' cl.addr cl.n cl.v hra hrv).mono ?_
              rintro e w3 ⟨rfl, hpa, hk⟩
              obtain ⟨hs, hc⟩ := HS.out.stepA hpa hk (fun k hk => .inl hk)
              have hcd := hc _ _ HC.out
              have HS := hid hs
              have HC := hid hcd
              have hH3 : ck26 CB cl w3 := hcd.1.ck
              clear hs hc hcd hpa hk
              refine hK.out _ _ hH3 (fun _ => ?_)
              clear hK K
              refine wpAnyH_ready (rs := [15]) (by kernel_rfl) (by simp) ?_
              refine ready_at (o := { dst := some 152, op := Go.Op.call { callee := Go.Callee.value (Go.Operand.func 22), args := #[Go.Operand.tmp 145, Go.Operand.tmp 147, Go.Operand.tmp 149, Go.Operand.tmp 151], argTypes := #[29, 63, 3, 63] }, type := 4, pos := "law.go:90", after := #[{ on := 8, ground := Go.Ground.data }, { on := 10, ground := Go.Ground.data }, { on := 12, ground := Go.Ground.data }, { on := 14, ground := Go.Ground.data }, { on := 7, ground := Go.Ground.chain }], guard := none }) (by kernel_rfl) (by kernel_rfl) (fun K hK => ?_) ?_
              · go_simp
                refine (HS.out.px.store' cl.addr cl.n cl.v hra hrv).mono ?_
                rintro e w4 ⟨rfl, hpa, hk⟩
                obtain ⟨hs, hc⟩ := HS.out.stepX hpa hk (fun k hk => .inl hk)
                have HRS := hid (show hol Na cl.addr.toNat cl.n = hol Na cl.addr.toNat cl.n from rfl)
                have hcd := hc _ _ HC.out
                have HS := hid hs
                have HC := hid hcd
                have hH4 : ck26 CB cl w4 := hcd.1.ck
                clear hs hc hcd hpa hk
                refine hK.out _ _ hH4 (fun _ => ?_)
                clear hK K
                obtain ⟨rr, hrr⟩ : ∃ rr, rr = hol Na cl.addr.toNat cl.n := ⟨_, rfl⟩
                rw [← hrr]
                clear hrr HRS
                have hrn : (rr != rr) = false := by simp
                refine take_at (i := 16) (oi := { dst := some 153, op := Go.Op.binOp Go.BinOp.neq 4 (Go.Operand.tmp 144) (Go.Operand.tmp 152) 4, type := 4, pos := "law.go:90", after := #[{ on := 7, ground := Go.Ground.data }, { on := 15, ground := Go.Ground.data }], guard := none }) (d := some 153) (v := ?_) (by kernel_rfl) (by kernel_rfl) (by kernel_rfl) (by kernel_rfl) (by kernel_rfl) (fun _ _ _ h => h) (Or.inl ⟨by kernel_rfl, ?_⟩) (by assumption) ?_
                rotate_left 1
                · (intro w hSw; (try dsimp only at hSw); go_simp; try with_reducible rfl)
                try simp only [Act.put, List.setIfInBounds_toArray, List.set_cons_zero, List.set_cons_succ]
                refine wpAnyH_done (by kernel_rfl) ?_ _
                generalize stF Na fa cl.addr.toNat cl.n cl.v = fa at *
                generalize stD Na da cl.addr.toNat cl.n = da at *
                have hz1 := HC.out.1.z1
                clear hz1
                go_wp2_with fail
                refine HS.out.pa.dirty.mono ?_
                rintro e wd ⟨v, rfl, hLI, hb⟩
                have hsz := HS.out.lows
                have hFz := fun k hx => HS.out.lt (k := k) hx
                have hCz := HC.out.1.lt
                obtain ⟨hs, hc⟩ := HS.out.later (kept_below hb)
                have HC := hid (hc _ _ HC.out)
                have HS := hid hs
                obtain ⟨pt, rfl, hok, hpl, hpz⟩ := tl_of_li hLI hsz (by have := dl_len da 64; omega)
                have HLI := hid hLI
                have HAD := hid (HS.out.addI pt hok hpl _ hpz hsz hFz hb.size (by omega) HC.out hCz)
                have HPZ := hid hpz
                have HFZ := hid hFz
                clear hs hc hLI hok hpl hpz hFz hb hsz hCz
                go_wp2_with fail
                refine HAD.out.mono ?_
                rintro e wi ⟨rfl, F6, hs, hc, hk⟩
                have HLI := hid (HLI.out.kept hk (fun b hb hx => by have h1 := HPZ.out b (Tl.ownb hb); have h2 := HFZ.out b (.inr (.inr (.inr (.inr hx)))); omega))
                have HS := hid hs
                have HC := hid hc
                clear hs hc hk HPZ HFZ
                have hNN : ((Na : Int) != (Na : Int)) = false := by simp
                go_wp2_with fail
                refine HS.out.pa.size.mono ?_
                rintro e w' ⟨rfl, hw⟩
                have hw2 := hw.symm; subst hw2; clear hw
                go_wp2_with fail
                refine HS.out.px.size.mono ?_
                rintro e w' ⟨rfl, hw⟩
                have hw2 := hw.symm; subst hw2; clear hw
                go_wp2_with fail
                refine HS.out.px.dirty.mono ?_
                rintro e wx ⟨v2, rfl, hL2, hb⟩
                obtain ⟨q2, c2, rfl⟩ := hL2.slice
                obtain ⟨hs, hc⟩ := HS.out.later (kept_below hb)
                have HC := hid (hc _ _ HC.out)
                have HS := hid hs
                have HEQ := hid (eq_dirty (HLI.out.kept (kept_below hb) (fun _ _ x => x)) hL2)
                clear hs hc hb hL2 HLI
                go_wp2_with fail
                refine HEQ.out.mono ?_
                rintro e wy ⟨rfl, hk⟩
                obtain ⟨hs, hc⟩ := HS.out.later hk
                have HC := hid (hc _ _ HC.out)
                have HS := hid hs
                have hz1 := HC.out.1.z1
                rw [hsec] at hz1
                clear hs hc hk HEQ
                go_wp2_with fail
                exact ⟨⟨k + 1, Ra, Rx, Rb, Ry, gr, by omega, rfl, rfl, rfl, rfl, by go_num, by go_num, hid ⟨_, _, _, _, _, _, _, _, _, _, _, _, _, HS.out, by omega, by omega, by omega, by omega⟩⟩, by simp [intOf]; omega⟩
              exact AllReadyH.nil
            exact AllReadyH.nil
        have hb1 : (cl.op == 1) = false := by simpa using hop
        have hn1 : ¬ cl.op = 1 := hop
        clear hop
        by_cases hop : cl.op = 3
        · rw [hop] at e0
          as_aux_lemma =>
            go_wp2_with fail
            have hcn := cat_new (w := wr) cl hra hrv
            rw [hop, hsec] at hcn
            have hcq : Cq (wr.alloc (.cells #[.int .i64 3, .bool false, .int .u64 cl.addr, .int .i64 cl.n, .int .u64 cl.v] 65)) wr.heap.size F1 F2 F3 F4 F5 cl := ⟨hcn, fun k hx => by have := HS.out.lt hx; omega⟩
            have hsl := (HS.out.later (Kept.alloc (fun _ => False) wr (.cells #[.int .i64 3, .bool false, .int .u64 cl.addr, .int .i64 cl.n, .int .u64 cl.v] 65))).1
            have HC := hid hcq
            have HS := hid hsl
            clear hcn hcq hsl e0 e1 e2 e3 e4
            generalize wr.alloc (.cells #[.int .i64 3, .bool false, .int .u64 cl.addr, .int .i64 cl.n, .int .u64 cl.v] 65) = W at *
            generalize wr.heap.size = CB at *
            have hH := HC.out.1.ck
            obtain ⟨hs, hc⟩ := HS.out.later (Kept.drewN (fun _ => False) W 1)
            have hcd := hc _ _ HC.out
            have HS := hid hs
            have HC := hid hcd
            have hHD : ck26 CB cl W.drew := hcd.1.ck
            clear hs hc hcd hH
            refine wp_region_held_drew (S := ck26 CB cl) (by kernel_rfl) hHD (fun hHeld => ?_)
            have hHD2 := hHD
            skip
            have HS : Hid (S5 w W.drew w.heap.size m Ra Rx Rb Ry GB F1 F2 F3 F4 F5 Na fa da Na fa da Nb fb db k cB cP) := HS
            have HC : Hid (Cq W.drew CB F1 F2 F3 F4 F5 cl) := HC
            generalize W.drew = WD at *
            refine take_at (i := 0) (oi := { dst := some 156, op := Go.Op.move (Go.Operand.tmp 8), type := 25, pos := "law.go:94", after := #[], guard := none }) (d := some 156) (v := ?_) (by kernel_rfl) (by kernel_rfl) (by kernel_rfl) (by kernel_rfl) (by kernel_rfl) (fun _ _ _ h => h) (Or.inl ⟨by kernel_rfl, ?_⟩) (by assumption) ?_
            rotate_left 1
            · (intro w hSw; (try dsimp only at hSw); go_simp; try with_reducible rfl)
            try simp only [Act.put, List.setIfInBounds_toArray, List.set_cons_zero, List.set_cons_succ]
            refine take_at (i := 1) (oi := { dst := some 157, op := Go.Op.fieldAddr 65 (Go.Operand.tmp 19) 4, type := 0, pos := "law.go:94", after := #[], guard := none }) (d := some 157) (v := ?_) (by kernel_rfl) (by kernel_rfl) (by kernel_rfl) (by kernel_rfl) (by kernel_rfl) (fun _ _ _ h => h) (Or.inl ⟨by kernel_rfl, ?_⟩) (by assumption) ?_
            rotate_left 1
            · (intro w hSw; (try dsimp only at hSw); go_simp; try with_reducible rfl)
            try simp only [Act.put, List.setIfInBounds_toArray, List.set_cons_zero, List.set_cons_succ]
            refine take_at (i := 2) (oi := { dst := some 158, op := Go.Op.load 63 (Go.Operand.tmp 157), type := 63, pos := "law.go:94", after := #[{ on := 1, ground := Go.Ground.data }], guard := none }) (d := some 158) (v := ?_) (by kernel_rfl) (by kernel_rfl) (by kernel_rfl) (by kernel_rfl) (by kernel_rfl) (fun _ _ _ h => h) (Or.inl ⟨by kernel_rfl, ?_⟩) (by assumption) ?_
            rotate_left 1
            · (intro w hSw; (try dsimp only at hSw); go_simp; try with_reducible rfl)
            try simp only [Act.put, List.setIfInBounds_toArray, List.set_cons_zero, List.set_cons_succ]
            refine take_at (i := 4) (oi := { dst := some 160, op := Go.Op.move (Go.Operand.tmp 10), type := 29, pos := "law.go:94", after := #[], guard := none }) (d := some 160) (v := ?_) (by kernel_rfl) (by kernel_rfl) (by kernel_rfl) (by kernel_rfl) (by kernel_rfl) (fun _ _ _ h => h) (Or.inl ⟨by kernel_rfl, ?_⟩) (by assumption) ?_
            rotate_left 1
            · (intro w hSw; (try dsimp only at hSw); go_simp; try with_reducible rfl)
            try simp only [Act.put, List.setIfInBounds_toArray, List.set_cons_zero, List.set_cons_succ]
            refine take_at (i := 5) (oi := { dst := some 161, op := Go.Op.fieldAddr 65 (Go.Operand.tmp 19) 4, type := 0, pos := "law.go:94", after := #[], guard := none }) (d := some 161) (v := ?_) (by kernel_rfl) (by kernel_rfl) (by kernel_rfl) (by kernel_rfl) (by kernel_rfl) (fun _ _ _ h => h) (Or.inl ⟨by kernel_rfl, ?_⟩) (by assumption) ?_
            rotate_left 1
            · (intro w hSw; (try dsimp only at hSw); go_simp; try with_reducible rfl)
            try simp only [Act.put, List.setIfInBounds_toArray, List.set_cons_zero, List.set_cons_succ]
            refine take_at (i := 6) (oi := { dst := some 162, op := Go.Op.load 63 (Go.Operand.tmp 161), type := 63, pos := "law.go:94", after := #[{ on := 5, ground := Go.Ground.data }], guard := none }) (d := some 162) (v := ?_) (by kernel_rfl) (by kernel_rfl) (by kernel_rfl) (by kernel_rfl) (by kernel_rfl) (fun _ _ _ h => h) (Or.inl ⟨by kernel_rfl, ?_⟩) (by assumption) ?_
            rotate_left 1
            · (intro w hSw; (try dsimp only at hSw); go_simp; try with_reducible rfl)
            try simp only [Act.put, List.setIfInBounds_toArray, List.set_cons_zero, List.set_cons_succ]
            refine wpAnyH_ready (rs := [3]) (by kernel_rfl) (by simp) ?_
            refine ready_at (o := { dst := some 159, op := Go.Op.call { callee := Go.Callee.value (Go.Operand.func 23), args := #[Go.Operand.tmp 156, Go.Operand.tmp 158], argTypes := #[25, 63] }, type := 2, pos := "law.go:94", after := #[{ on := 0, ground := Go.Ground.data }, { on := 2, ground := Go.Ground.data }], guard := none }) (by kernel_rfl) (by kernel_rfl) (fun K hK => ?_) ?_
            · go_simp
              refine (HS.out.pa.grow cl.v hrv).mono ?_
              rintro e w3 ⟨rfl, FG, hpa, hk, ho⟩
              obtain ⟨hs, hc⟩ := HS.out.stepA hpa hk ho
              have hcd := hc _ _ HC.out
              have HS := hid hs
              have HC := hid hcd
              have hH3 : ck26 CB cl w3 := hcd.1.ck
              clear hs hc hcd hpa hk ho
              refine hK.out _ _ hH3 (fun _ => ?_)
              clear hK K
              refine wpAnyH_ready (rs := [7]) (by kernel_rfl) (by simp) ?_
              refine ready_at (o := { dst := some 163, op := Go.Op.call { callee := Go.Callee.value (Go.Operand.func 24), args := #[Go.Operand.tmp 160, Go.Operand.tmp 162], argTypes := #[29, 63] }, type := 2, pos := "law.go:94", after := #[{ on := 4, ground := Go.Ground.data }, { on := 6, ground := Go.Ground.data }, { on := 3, ground := Go.Ground.chain }], guard := none }) (by kernel_rfl) (by kernel_rfl) (fun K hK => ?_) ?_
              · go_simp
                refine (HS.out.px.grow cl.v hrv).mono ?_
                rintro e w4 ⟨rfl, FH, hpa, hk, ho⟩
                obtain ⟨hs, hc⟩ := HS.out.stepX hpa hk ho
                have hcd := hc _ _ HC.out
                have HS := hid hs
                have HC := hid hcd
                have hH4 : ck26 CB cl w4 := hcd.1.ck
                clear hs hc hcd hpa hk ho
                refine hK.out _ _ hH4 (fun _ => ?_)
                clear hK K
                obtain ⟨rr, hrr⟩ : ∃ rr, rr = grR m Na cl.v := ⟨_, rfl⟩
                rw [← hrr]
                clear hrr
                have hrn : (rr != rr) = false := by simp
                refine take_at (i := 8) (oi := { dst := some 164, op := Go.Op.binOp Go.BinOp.neq 2 (Go.Operand.tmp 159) (Go.Operand.tmp 163) 2, type := 4, pos := "law.go:94", after := #[{ on := 3, ground := Go.Ground.data }, { on := 7, ground := Go.Ground.data }], guard := none }) (d := some 164) (v := ?_) (by kernel_rfl) (by kernel_rfl) (by kernel_rfl) (by kernel_rfl) (by kernel_rfl) (fun _ _ _ h => h) (Or.inl ⟨by kernel_rfl, ?_⟩) (by assumption) ?_
                rotate_left 1
                · (intro w hSw; (try dsimp only at hSw); go_simp; try with_reducible rfl)
                try simp only [Act.put, List.setIfInBounds_toArray, List.set_cons_zero, List.set_cons_succ]
                refine wpAnyH_done (by kernel_rfl) ?_ _
                generalize grD m Na da cl.v = da at *
                generalize grN m Na cl.v = Na at *
                have hz1 := HC.out.1.z1
                clear hz1
                go_wp2_with fail
                refine HS.out.pa.dirty.mono ?_
                rintro e wd ⟨v, rfl, hLI, hb⟩
                have hsz := HS.out.lows
                have hFz := fun k hx => HS.out.lt (k := k) hx
                have hCz := HC.out.1.lt
                obtain ⟨hs, hc⟩ := HS.out.later (kept_below hb)
                have HC := hid (hc _ _ HC.out)
                have HS := hid hs
                obtain ⟨pt, rfl, hok, hpl, hpz⟩ := tl_of_li hLI hsz (by have := dl_len da 64; omega)
                have HLI := hid hLI
                have HAD := hid (HS.out.addI pt hok hpl _ hpz hsz hFz hb.size (by omega) HC.out hCz)
                have HPZ := hid hpz
                have HFZ := hid hFz
                clear hs hc hLI hok hpl hpz hFz hb hsz hCz
                go_wp2_with fail
                refine HAD.out.mono ?_
                rintro e wi ⟨rfl, F6, hs, hc, hk⟩
                have HLI := hid (HLI.out.kept hk (fun b hb hx => by have h1 := HPZ.out b (Tl.ownb hb); have h2 := HFZ.out b (.inr (.inr (.inr (.inr hx)))); omega))
                have HS := hid hs
                have HC := hid hc
                clear hs hc hk HPZ HFZ
                have hNN : ((Na : Int) != (Na : Int)) = false := by simp
                go_wp2_with fail
                refine HS.out.pa.size.mono ?_
                rintro e w' ⟨rfl, hw⟩
                have hw2 := hw.symm; subst hw2; clear hw
                go_wp2_with fail
                refine HS.out.px.size.mono ?_
                rintro e w' ⟨rfl, hw⟩
                have hw2 := hw.symm; subst hw2; clear hw
                go_wp2_with fail
                refine HS.out.px.dirty.mono ?_
                rintro e wx ⟨v2, rfl, hL2, hb⟩
                obtain ⟨q2, c2, rfl⟩ := hL2.slice
                obtain ⟨hs, hc⟩ := HS.out.later (kept_below hb)
                have HC := hid (hc _ _ HC.out)
                have HS := hid hs
                have HEQ := hid (eq_dirty (HLI.out.kept (kept_below hb) (fun _ _ x => x)) hL2)
                clear hs hc hb hL2 HLI
                go_wp2_with fail
                refine HEQ.out.mono ?_
                rintro e wy ⟨rfl, hk⟩
                obtain ⟨hs, hc⟩ := HS.out.later hk
                have HC := hid (hc _ _ HC.out)
                have HS := hid hs
                have hz1 := HC.out.1.z1
                rw [hsec] at hz1
                clear hs hc hk HEQ
                go_wp2_with fail
                exact ⟨⟨k + 1, Ra, Rx, Rb, Ry, gr, by omega, rfl, rfl, rfl, rfl, by go_num, by go_num, hid ⟨_, _, _, _, _, _, _, _, _, _, _, _, _, HS.out, by omega, by omega, by omega, by omega⟩⟩, by simp [intOf]; omega⟩
              exact AllReadyH.nil
            exact AllReadyH.nil
        have hb3 : (cl.op == 3) = false := by simpa using hop
        have hn3 : ¬ cl.op = 3 := hop
        clear hop
        by_cases hop : cl.op = 4
        · rw [hop] at e0
          as_aux_lemma =>
            go_wp2_with fail
            have hcn := cat_new (w := wr) cl hra hrv
            rw [hop, hsec] at hcn
            have hcq : Cq (wr.alloc (.cells #[.int .i64 4, .bool false, .int .u64 cl.addr, .int .i64 cl.n, .int .u64 cl.v] 65)) wr.heap.size F1 F2 F3 F4 F5 cl := ⟨hcn, fun k hx => by have := HS.out.lt hx; omega⟩
            have hsl := (HS.out.later (Kept.alloc (fun _ => False) wr (.cells #[.int .i64 4, .bool false, .int .u64 cl.addr, .int .i64 cl.n, .int .u64 cl.v] 65))).1
            have HC := hid hcq
            have HS := hid hsl
            clear hcn hcq hsl e0 e1 e2 e3 e4
            generalize wr.alloc (.cells #[.int .i64 4, .bool false, .int .u64 cl.addr, .int .i64 cl.n, .int .u64 cl.v] 65) = W at *
            generalize wr.heap.size = CB at *
            refine HS.out.pa.pages.mono ?_
            rintro e w2 ⟨PL, QB, rfl, hpg, hql, hb⟩
            have hsz := HS.out.lows
            have hFz := fun k hx => HS.out.lt (k := k) hx
            have hCz := HC.out.1.lt
            obtain ⟨hs, hc⟩ := HS.out.later (kept_below hb)
            have HC := hid (hc _ _ HC.out)
            have HS := hid hs
            have HPG := hid hpg
            have HSZ := hid (And.intro hsz (And.intro hFz (And.intro hCz hb.size)))
            clear hs hc hpg hb hsz hFz hCz
            go_wp2_with fail
            refine HS.out.px.pages.mono ?_
            rintro e w3 ⟨v3, rfl, hps, hb⟩
            obtain ⟨hs, hc⟩ := HS.out.later (kept_below hb)
            have HC := hid (hc _ _ HC.out)
            have HS := hid hs
            have HPG := hid (HPG.out.later hb)
            have HSZ := hid (And.intro HSZ.out.1 (And.intro HSZ.out.2.1 (And.intro HSZ.out.2.2.1 (Nat.le_trans HSZ.out.2.2.2 hb.size))))
            obtain ⟨v3a, v3c, rfl, _⟩ := id hps
            have HEP := hid (eqp_same _ _ Na _ _ w3 (HPG.out.pseg hql (by omega)) hps)
            clear hs hc hb hps
            go_wp2_with fail
            refine HEP.out.mono ?_
            rintro e w4 ⟨rfl, hk⟩
            obtain ⟨hs, hc⟩ := HS.out.later hk
            have HC := hid (hc _ _ HC.out)
            have HS := hid hs
            have HPG := hid (HPG.out.kept hk (fun _ _ x => x))
            have HSZ := hid (And.intro HSZ.out.1 (And.intro HSZ.out.2.1 (And.intro HSZ.out.2.2.1 (Nat.le_trans HSZ.out.2.2.2 hk.size))))
            clear hs hc hk HEP
            by_cases hg8 : gr + Na < 8
            · have hg8' : (gr : Int) + (Na : Int) < 8 := by omega
              have HAP := hid (HS.out.addP HPG.out hql (by omega) HSZ.out.1 HSZ.out.2.1 HSZ.out.2.2.2 (by omega) (by omega) HC.out HSZ.out.2.2.1)
              clear HPG HSZ hql
              go_wp2_with fail
              refine HAP.out.mono ?_
              rintro e w5 ⟨rfl, F7, hs, hc⟩
              have HS := hid hs
              have HC := hid hc
              clear hs hc HAP
              have hz1 := HC.out.1.z1
              clear hz1
              go_wp2_with fail
              refine HS.out.pa.dirty.mono ?_
              rintro e wd ⟨v, rfl, hLI, hb⟩
              have hsz := HS.out.lows
              have hFz := fun k hx => HS.out.lt (k := k) hx
              have hCz := HC.out.1.lt
              obtain ⟨hs, hc⟩ := HS.out.later (kept_below hb)
              have HC := hid (hc _ _ HC.out)
              have HS := hid hs
              obtain ⟨pt, rfl, hok, hpl, hpz⟩ := tl_of_li hLI hsz (by have := dl_len da 64; omega)
              have HLI := hid hLI
              have HAD := hid (HS.out.addI pt hok hpl _ hpz hsz hFz hb.size (by omega) HC.out hCz)
              have HPZ := hid hpz
              have HFZ := hid hFz
              clear hs hc hLI hok hpl hpz hFz hb hsz hCz
              go_wp2_with fail
              refine HAD.out.mono ?_
              rintro e wi ⟨rfl, F6, hs, hc, hk⟩
              have HLI := hid (HLI.out.kept hk (fun b hb hx => by have h1 := HPZ.out b (Tl.ownb hb); have h2 := HFZ.out b (.inr (.inr (.inr (.inr hx)))); omega))
              have HS := hid hs
              have HC := hid hc
              clear hs hc hk HPZ HFZ
              have hNN : ((Na : Int) != (Na : Int)) = false := by simp
              go_wp2_with fail
              refine HS.out.pa.size.mono ?_
              rintro e w' ⟨rfl, hw⟩
              have hw2 := hw.symm; subst hw2; clear hw
              go_wp2_with fail
              refine HS.out.px.size.mono ?_
              rintro e w' ⟨rfl, hw⟩
              have hw2 := hw.symm; subst hw2; clear hw
              go_wp2_with fail
              refine HS.out.px.dirty.mono ?_
              rintro e wx ⟨v2, rfl, hL2, hb⟩
              obtain ⟨q2, c2, rfl⟩ := hL2.slice
              obtain ⟨hs, hc⟩ := HS.out.later (kept_below hb)
              have HC := hid (hc _ _ HC.out)
              have HS := hid hs
              have HEQ := hid (eq_dirty (HLI.out.kept (kept_below hb) (fun _ _ x => x)) hL2)
              clear hs hc hb hL2 HLI
              go_wp2_with fail
              refine HEQ.out.mono ?_
              rintro e wy ⟨rfl, hk⟩
              obtain ⟨hs, hc⟩ := HS.out.later hk
              have HC := hid (hc _ _ HC.out)
              have HS := hid hs
              have hz1 := HC.out.1.z1
              rw [hsec] at hz1
              clear hs hc hk HEQ
              go_wp2_with fail
              exact ⟨⟨k + 1, Ra, Rx, Rb, Ry, gr + Na, by omega, rfl, rfl, rfl, rfl, by go_num, by go_num, hid ⟨_, _, _, _, _, _, _, _, _, _, _, _, _, HS.out, by omega, by omega, by omega, by omega⟩⟩, by simp [intOf]; omega⟩
            · have hg8' : ¬ (gr : Int) + (Na : Int) < 8 := by omega
              clear HPG HSZ hql
              have hz1 := HC.out.1.z1
              clear hz1
              go_wp2_with fail
              refine HS.out.pa.dirty.mono ?_
              rintro e wd ⟨v, rfl, hLI, hb⟩
              have hsz := HS.out.lows
              have hFz := fun k hx => HS.out.lt (k := k) hx
              have hCz := HC.out.1.lt
              obtain ⟨hs, hc⟩ := HS.out.later (kept_below hb)
              have HC := hid (hc _ _ HC.out)
              have HS := hid hs
              obtain ⟨pt, rfl, hok, hpl, hpz⟩ := tl_of_li hLI hsz (by have := dl_len da 64; omega)
              have HLI := hid hLI
              have HAD := hid (HS.out.addI pt hok hpl _ hpz hsz hFz hb.size (by omega) HC.out hCz)
              have HPZ := hid hpz
              have HFZ := hid hFz
              clear hs hc hLI hok hpl hpz hFz hb hsz hCz
              go_wp2_with fail
              refine HAD.out.mono ?_
              rintro e wi ⟨rfl, F6, hs, hc, hk⟩
              have HLI := hid (HLI.out.kept hk (fun b hb hx => by have h1 := HPZ.out b (Tl.ownb hb); have h2 := HFZ.out b (.inr (.inr (.inr (.inr hx)))); omega))
              have HS := hid hs
              have HC := hid hc
              clear hs hc hk HPZ HFZ
              have hNN : ((Na : Int) != (Na : Int)) = false := by simp
              go_wp2_with fail
              refine HS.out.pa.size.mono ?_
              rintro e w' ⟨rfl, hw⟩
              have hw2 := hw.symm; subst hw2; clear hw
              go_wp2_with fail
              refine HS.out.px.size.mono ?_
              rintro e w' ⟨rfl, hw⟩
              have hw2 := hw.symm; subst hw2; clear hw
              go_wp2_with fail
              refine HS.out.px.dirty.mono ?_
              rintro e wx ⟨v2, rfl, hL2, hb⟩
              obtain ⟨q2, c2, rfl⟩ := hL2.slice
              obtain ⟨hs, hc⟩ := HS.out.later (kept_below hb)
              have HC := hid (hc _ _ HC.out)
              have HS := hid hs
              have HEQ := hid (eq_dirty (HLI.out.kept (kept_below hb) (fun _ _ x => x)) hL2)
              clear hs hc hb hL2 HLI
              go_wp2_with fail
              refine HEQ.out.mono ?_
              rintro e wy ⟨rfl, hk⟩
              obtain ⟨hs, hc⟩ := HS.out.later hk
              have HC := hid (hc _ _ HC.out)
              have HS := hid hs
              have hz1 := HC.out.1.z1
              rw [hsec] at hz1
              clear hs hc hk HEQ
              go_wp2_with fail
              exact ⟨⟨k + 1, Ra, Rx, Rb, Ry, gr + Na, by omega, rfl, rfl, rfl, rfl, by go_num, by go_num, hid ⟨_, _, _, _, _, _, _, _, _, _, _, _, _, HS.out, by omega, by omega, by omega, by omega⟩⟩, by simp [intOf]; omega⟩
        have hb4 : (cl.op == 4) = false := by simpa using hop
        have hn4 : ¬ cl.op = 4 := hop
        clear hop
        by_cases hop : cl.op = 6
        · rw [hop] at e0
          as_aux_lemma =>
            go_wp2_with fail
            have hcn := cat_new (w := wr) cl hra hrv
            rw [hop, hsec] at hcn
            have hcq : Cq (wr.alloc (.cells #[.int .i64 6, .bool false, .int .u64 cl.addr, .int .i64 cl.n, .int .u64 cl.v] 65)) wr.heap.size F1 F2 F3 F4 F5 cl := ⟨hcn, fun k hx => by have := HS.out.lt hx; omega⟩
            have hsl := (HS.out.later (Kept.alloc (fun _ => False) wr (.cells #[.int .i64 6, .bool false, .int .u64 cl.addr, .int .i64 cl.n, .int .u64 cl.v] 65))).1
            have HC := hid hcq
            have HS := hid hsl
            clear hcn hcq hsl e0 e1 e2 e3 e4
            generalize wr.alloc (.cells #[.int .i64 6, .bool false, .int .u64 cl.addr, .int .i64 cl.n, .int .u64 cl.v] 65) = W at *
            generalize wr.heap.size = CB at *
            refine HS.out.px.clean.mono ?_
            rintro e w2 ⟨rfl, hpx, hk⟩
            obtain ⟨hs, hc⟩ := HS.out.stepX hpx hk (fun k hk => .inl hk)
            have HC := hid (hc _ _ HC.out)
            have HS := hid hs
            clear hs hc hpx hk
            go_wp2_with fail
            refine HS.out.pa.clean.mono ?_
            rintro e w3 ⟨rfl, hpx, hk⟩
            obtain ⟨hs, hc⟩ := HS.out.stepA hpx hk (fun k hk => .inl hk)
            have HC := hid (hc _ _ HC.out)
            have HS := hid hs
            clear hs hc hpx hk
            generalize (fun (_ : Nat) => false) = da at *
            have hz1 := HC.out.1.z1
            clear hz1
            go_wp2_with fail
            refine HS.out.pa.dirty.mono ?_
            rintro e wd ⟨v, rfl, hLI, hb⟩
            have hsz := HS.out.lows
            have hFz := fun k hx => HS.out.lt (k := k) hx
            have hCz := HC.out.1.lt
            obtain ⟨hs, hc⟩ := HS.out.later (kept_below hb)
            have HC := hid (hc _ _ HC.out)
            have HS := hid hs
            obtain ⟨pt, rfl, hok, hpl, hpz⟩ := tl_of_li hLI hsz (by have := dl_len da 64; omega)
            have HLI := hid hLI
            have HAD := hid (HS.out.addI pt hok hpl _ hpz hsz hFz hb.size (by omega) HC.out hCz)
            have HPZ := hid hpz
            have HFZ := hid hFz
            clear hs hc hLI hok hpl hpz hFz hb hsz hCz
            go_wp2_with fail
            refine HAD.out.mono ?_
            rintro e wi ⟨rfl, F6, hs, hc, hk⟩
            have HLI := hid (HLI.out.kept hk (fun b hb hx => by have h1 := HPZ.out b (Tl.ownb hb); have h2 := HFZ.out b (.inr (.inr (.inr (.inr hx)))); omega))
            have HS := hid hs
            have HC := hid hc
            clear hs hc hk HPZ HFZ
            have hNN : ((Na : Int) != (Na : Int)) = false := by simp
            go_wp2_with fail
            refine HS.out.pa.size.mono ?_
            rintro e w' ⟨rfl, hw⟩
            have hw2 := hw.symm; subst hw2; clear hw
            go_wp2_with fail
            refine HS.out.px.size.mono ?_
            rintro e w' ⟨rfl, hw⟩
            have hw2 := hw.symm; subst hw2; clear hw
            go_wp2_with fail
            refine HS.out.px.dirty.mono ?_
            rintro e wx ⟨v2, rfl, hL2, hb⟩
            obtain ⟨q2, c2, rfl⟩ := hL2.slice
            obtain ⟨hs, hc⟩ := HS.out.later (kept_below hb)
            have HC := hid (hc _ _ HC.out)
            have HS := hid hs
            have HEQ := hid (eq_dirty (HLI.out.kept (kept_below hb) (fun _ _ x => x)) hL2)
            clear hs hc hb hL2 HLI
            go_wp2_with fail
            refine HEQ.out.mono ?_
            rintro e wy ⟨rfl, hk⟩
            obtain ⟨hs, hc⟩ := HS.out.later hk
            have HC := hid (hc _ _ HC.out)
            have HS := hid hs
            have hz1 := HC.out.1.z1
            rw [hsec] at hz1
            clear hs hc hk HEQ
            go_wp2_with fail
            exact ⟨⟨k + 1, Ra, Rx, Rb, Ry, gr, by omega, rfl, rfl, rfl, rfl, by go_num, by go_num, hid ⟨_, _, _, _, _, _, _, _, _, _, _, _, _, HS.out, by omega, by omega, by omega, by omega⟩⟩, by simp [intOf]; omega⟩
        have hb6 : (cl.op == 6) = false := by simpa using hop
        have hn6 : ¬ cl.op = 6 := hop
        clear hop
        by_cases hop : cl.op = 7
        · rw [hop] at e0
          as_aux_lemma =>
            go_wp2_with fail
            have hcn := cat_new (w := wr) cl hra hrv
            rw [hop, hsec] at hcn
            have hcq : Cq (wr.alloc (.cells #[.int .i64 7, .bool false, .int .u64 cl.addr, .int .i64 cl.n, .int .u64 cl.v] 65)) wr.heap.size F1 F2 F3 F4 F5 cl := ⟨hcn, fun k hx => by have := HS.out.lt hx; omega⟩
            have hsl := (HS.out.later (Kept.alloc (fun _ => False) wr (.cells #[.int .i64 7, .bool false, .int .u64 cl.addr, .int .i64 cl.n, .int .u64 cl.v] 65))).1
            have HC := hid hcq
            have HS := hid hsl
            clear hcn hcq hsl e0 e1 e2 e3 e4
            generalize wr.alloc (.cells #[.int .i64 7, .bool false, .int .u64 cl.addr, .int .i64 cl.n, .int .u64 cl.v] 65) = W at *
            generalize wr.heap.size = CB at *
            have hbd := HS.out.pa.bnd
            have HBD := hid hbd
            clear hbd
            refine HS.out.pa.pages.mono ?_
            rintro e w2 ⟨PL, QB, rfl, hpg, hql, hb⟩
            obtain ⟨hs, hc⟩ := HS.out.later (kept_below hb)
            have HC := hid (hc _ _ HC.out)
            have HS := hid hs
            have HFR := hid (pm_from (hpg.pseg hql (by omega)) HBD.out.1 HBD.out.2.1 HBD.out.2.2.1 HBD.out.2.2.2)
            clear hs hc hpg hb hql
            go_wp2_with fail
            refine HFR.out.mono ?_
            rintro e w3 ⟨R7, F7, rfl, hpm, hb, hF7⟩
            obtain ⟨hs, hc⟩ := HS.out.stepA hpm ((kept_below hb).mono (fun _ x => x.elim)) (fun k hk => .inr (hF7 k hk))
            have HC := hid (hc _ _ HC.out)
            have HS := hid hs
            clear hs hc hpm hb hF7 HFR
            go_wp2_with fail
            refine HS.out.px.pages.mono ?_
            rintro e w4 ⟨v4, rfl, hps, hb⟩
            obtain ⟨hs, hc⟩ := HS.out.later (kept_below hb)
            have HC := hid (hc _ _ HC.out)
            have HS := hid hs
            obtain ⟨v4a, v4c, rfl, _⟩ := id hps
            have HFR := hid (dm_from hps HBD.out.1 HBD.out.2.1 HBD.out.2.2.1 HBD.out.2.2.2)
            clear hs hc hps hb
            go_wp2_with fail
            refine HFR.out.mono ?_
            rintro e w5 ⟨X7, F8, rfl, hpm, hb, hF7⟩
            obtain ⟨hs, hc⟩ := HS.out.stepX hpm ((kept_below hb).mono (fun _ x => x.elim)) (fun k hk => .inr (hF7 k hk))
            have HC := hid (hc _ _ HC.out)
            have HS := hid hs
            clear hs hc hpm hb hF7 HFR
            generalize (fun (_ : Nat) => false) = da at *
            have hz1 := HC.out.1.z1
            clear hz1
            go_wp2_with fail
            refine HS.out.pa.dirty.mono ?_
            rintro e wd ⟨v, rfl, hLI, hb⟩
            have hsz := HS.out.lows
            have hFz := fun k hx => HS.out.lt (k := k) hx
            have hCz := HC.out.1.lt
            obtain ⟨hs, hc⟩ := HS.out.later (kept_below hb)
            have HC := hid (hc _ _ HC.out)
            have HS := hid hs
            obtain ⟨pt, rfl, hok, hpl, hpz⟩ := tl_of_li hLI hsz (by have := dl_len da 64; omega)
            have HLI := hid hLI
            have HAD := hid (HS.out.addI pt hok hpl _ hpz hsz hFz hb.size (by omega) HC.out hCz)
            have HPZ := hid hpz
            have HFZ := hid hFz
            clear hs hc hLI hok hpl hpz hFz hb hsz hCz
            go_wp2_with fail
            refine HAD.out.mono ?_
            rintro e wi ⟨rfl, F6, hs, hc, hk⟩
            have HLI := hid (HLI.out.kept hk (fun b hb hx => by have h1 := HPZ.out b (Tl.ownb hb); have h2 := HFZ.out b (.inr (.inr (.inr (.inr hx)))); omega))
            have HS := hid hs
            have HC := hid hc
            clear hs hc hk HPZ HFZ
            have hNN : ((Na : Int) != (Na : Int)) = false := by simp
            go_wp2_with fail
            refine HS.out.pa.size.mono ?_
            rintro e w' ⟨rfl, hw⟩
            have hw2 := hw.symm; subst hw2; clear hw
            go_wp2_with fail
            refine HS.out.px.size.mono ?_
            rintro e w' ⟨rfl, hw⟩
            have hw2 := hw.symm; subst hw2; clear hw
            go_wp2_with fail
            refine HS.out.px.dirty.mono ?_
            rintro e wx ⟨v2, rfl, hL2, hb⟩
            obtain ⟨q2, c2, rfl⟩ := hL2.slice
            obtain ⟨hs, hc⟩ := HS.out.later (kept_below hb)
            have HC := hid (hc _ _ HC.out)
            have HS := hid hs
            have HEQ := hid (eq_dirty (HLI.out.kept (kept_below hb) (fun _ _ x => x)) hL2)
            clear hs hc hb hL2 HLI
            go_wp2_with fail
            refine HEQ.out.mono ?_
            rintro e wy ⟨rfl, hk⟩
            obtain ⟨hs, hc⟩ := HS.out.later hk
            have HC := hid (hc _ _ HC.out)
            have HS := hid hs
            have hz1 := HC.out.1.z1
            rw [hsec] at hz1
            clear hs hc hk HEQ
            go_wp2_with fail
            exact ⟨⟨k + 1, R7, X7, Rb, Ry, gr, by omega, rfl, rfl, rfl, rfl, by go_num, by go_num, hid ⟨_, _, _, _, _, _, _, _, _, _, _, _, _, HS.out, by omega, by omega, by omega, by omega⟩⟩, by simp [intOf]; omega⟩
        have hb7 : (cl.op == 7) = false := by simpa using hop
        have hn7 : ¬ cl.op = 7 := hop
        clear hop
        as_aux_lemma =>
          go_wp2_with fail
          have hcn := cat_new (w := wr) cl hra hrv
          rw [hsec] at hcn
          have hcq : Cq (wr.alloc (.cells #[.int .i64 cl.op, .bool false, .int .u64 cl.addr, .int .i64 cl.n, .int .u64 cl.v] 65)) wr.heap.size F1 F2 F3 F4 F5 cl := ⟨hcn, fun k hx => by have := HS.out.lt hx; omega⟩
          have hsl := (HS.out.later (Kept.alloc (fun _ => False) wr (.cells #[.int .i64 cl.op, .bool false, .int .u64 cl.addr, .int .i64 cl.n, .int .u64 cl.v] 65))).1
          have HC := hid hcq
          have HS := hid hsl
          clear hcn hcq hsl e0 e1 e2 e3 e4
          generalize wr.alloc (.cells #[.int .i64 cl.op, .bool false, .int .u64 cl.addr, .int .i64 cl.n, .int .u64 cl.v] 65) = W at *
          generalize wr.heap.size = CB at *
          have hz1 := HC.out.1.z1
          clear hz1
          refine HS.out.pa.dirty.mono ?_
          rintro e wd ⟨v, rfl, hLI, hb⟩
          have hsz := HS.out.lows
          have hFz := fun k hx => HS.out.lt (k := k) hx
          have hCz := HC.out.1.lt
          obtain ⟨hs, hc⟩ := HS.out.later (kept_below hb)
          have HC := hid (hc _ _ HC.out)
          have HS := hid hs
          obtain ⟨pt, rfl, hok, hpl, hpz⟩ := tl_of_li hLI hsz (by have := dl_len da 64; omega)
          have HLI := hid hLI
          have HAD := hid (HS.out.addI pt hok hpl _ hpz hsz hFz hb.size (by omega) HC.out hCz)
          have HPZ := hid hpz
          have HFZ := hid hFz
          clear hs hc hLI hok hpl hpz hFz hb hsz hCz
          go_wp2_with fail
          refine HAD.out.mono ?_
          rintro e wi ⟨rfl, F6, hs, hc, hk⟩
          have HLI := hid (HLI.out.kept hk (fun b hb hx => by have h1 := HPZ.out b (Tl.ownb hb); have h2 := HFZ.out b (.inr (.inr (.inr (.inr hx)))); omega))
          have HS := hid hs
          have HC := hid hc
          clear hs hc hk HPZ HFZ
          have hNN : ((Na : Int) != (Na : Int)) = false := by simp
          go_wp2_with fail
          refine HS.out.pa.size.mono ?_
          rintro e w' ⟨rfl, hw⟩
          have hw2 := hw.symm; subst hw2; clear hw
          go_wp2_with fail
          refine HS.out.px.size.mono ?_
          rintro e w' ⟨rfl, hw⟩
          have hw2 := hw.symm; subst hw2; clear hw
          go_wp2_with fail
          refine HS.out.px.dirty.mono ?_
          rintro e wx ⟨v2, rfl, hL2, hb⟩
          obtain ⟨q2, c2, rfl⟩ := hL2.slice
          obtain ⟨hs, hc⟩ := HS.out.later (kept_below hb)
          have HC := hid (hc _ _ HC.out)
          have HS := hid hs
          have HEQ := hid (eq_dirty (HLI.out.kept (kept_below hb) (fun _ _ x => x)) hL2)
          clear hs hc hb hL2 HLI
          go_wp2_with fail
          refine HEQ.out.mono ?_
          rintro e wy ⟨rfl, hk⟩
          obtain ⟨hs, hc⟩ := HS.out.later hk
          have HC := hid (hc _ _ HC.out)
          have HS := hid hs
          have hz1 := HC.out.1.z1
          rw [hsec] at hz1
          clear hs hc hk HEQ
          go_wp2_with fail
          exact ⟨⟨k + 1, Ra, Rx, Rb, Ry, gr, by omega, rfl, rfl, rfl, rfl, by go_num, by go_num, hid ⟨_, _, _, _, _, _, _, _, _, _, _, _, _, HS.out, by omega, by omega, by omega, by omega⟩⟩, by simp [intOf]; omega⟩
      · rw [hsec] at e1
        have HS := hid HS.out.swap
        by_cases hop : cl.op = 0
        · rw [hop] at e0
          as_aux_lemma =>
            go_wp2_with fail
            have hcn := cat_new (w := wr) cl hra hrv
            rw [hop, hsec] at hcn
            have hcq : Cq (wr.alloc (.cells #[.int .i64 0, .bool true, .int .u64 cl.addr, .int .i64 cl.n, .int .u64 cl.v] 65)) wr.heap.size F3 F4 F1 F2 F5 cl := ⟨hcn, fun k hx => by have := HS.out.lt hx; omega⟩
            have hsl := (HS.out.later (Kept.alloc (fun _ => False) wr (.cells #[.int .i64 0, .bool true, .int .u64 cl.addr, .int .i64 cl.n, .int .u64 cl.v] 65))).1
            have HC := hid hcq
            have HS := hid hsl
            clear hcn hcq hsl e0 e1 e2 e3 e4
            generalize wr.alloc (.cells #[.int .i64 0, .bool true, .int .u64 cl.addr, .int .i64 cl.n, .int .u64 cl.v] 65) = W at *
            generalize wr.heap.size = CB at *
            have hz2 := HC.out.1.z2
            have hz3 := HC.out.1.z3
            refine (HS.out.pa.load' cl.addr cl.n hra).mono ?_
            rintro e w' ⟨rfl, hw⟩
            have hw2 := hw.symm; subst hw2; clear hw
            go_wp2_with fail
            refine (HS.out.px.load' cl.addr cl.n hra).mono ?_
            rintro e w' ⟨rfl, hw⟩
            have hw2 := hw.symm; subst hw2; clear hw
            generalize ldA Nb fb cl.addr.toNat cl.n = lv at *
            generalize hol Nb cl.addr.toNat cl.n = lh at *
            have h1 : (lv != lv) = false := by simp
            have h2 : (lh != lh) = false := by simp
            have hz1 := HC.out.1.z1
            clear hz1
            go_wp2_with fail
            refine HS.out.pa.dirty.mono ?_
            rintro e wd ⟨v, rfl, hLI, hb⟩
            have hsz := HS.out.lows
            have hFz := fun k hx => HS.out.lt (k := k) hx
            have hCz := HC.out.1.lt
            obtain ⟨hs, hc⟩ := HS.out.later (kept_below hb)
            have HC := hid (hc _ _ HC.out)
            have HS := hid hs
            obtain ⟨pt, rfl, hok, hpl, hpz⟩ := tl_of_li hLI hsz (by have := dl_len db 64; omega)
            have HLI := hid hLI
            have HAD := hid (HS.out.addI pt hok hpl _ hpz hsz hFz hb.size (by omega) HC.out hCz)
            have HPZ := hid hpz
            have HFZ := hid hFz
            clear hs hc hLI hok hpl hpz hFz hb hsz hCz
            go_wp2_with fail
            refine HAD.out.mono ?_
            rintro e wi ⟨rfl, F6, hs, hc, hk⟩
            have HLI := hid (HLI.out.kept hk (fun b hb hx => by have h1 := HPZ.out b (Tl.ownb hb); have h2 := HFZ.out b (.inr (.inr (.inr (.inr hx)))); omega))
            have HS := hid hs
            have HC := hid hc
            clear hs hc hk HPZ HFZ
            have hNN : ((Nb : Int) != (Nb : Int)) = false := by simp
            go_wp2_with fail
            refine HS.out.pa.size.mono ?_
            rintro e w' ⟨rfl, hw⟩
            have hw2 := hw.symm; subst hw2; clear hw
            go_wp2_with fail
            refine HS.out.px.size.mono ?_
            rintro e w' ⟨rfl, hw⟩
            have hw2 := hw.symm; subst hw2; clear hw
            go_wp2_with fail
            refine HS.out.px.dirty.mono ?_
            rintro e wx ⟨v2, rfl, hL2, hb⟩
            obtain ⟨q2, c2, rfl⟩ := hL2.slice
            obtain ⟨hs, hc⟩ := HS.out.later (kept_below hb)
            have HC := hid (hc _ _ HC.out)
            have HS := hid hs
            have HEQ := hid (eq_dirty (HLI.out.kept (kept_below hb) (fun _ _ x => x)) hL2)
            clear hs hc hb hL2 HLI
            go_wp2_with fail
            refine HEQ.out.mono ?_
            rintro e wy ⟨rfl, hk⟩
            obtain ⟨hs, hc⟩ := HS.out.later hk
            have HC := hid (hc _ _ HC.out)
            have HS := hid hs
            have hz1 := HC.out.1.z1
            rw [hsec] at hz1
            clear hs hc hk HEQ
            go_wp2_with fail
            exact ⟨⟨k + 1, Ra, Rx, Rb, Ry, gr, by omega, rfl, rfl, rfl, rfl, by go_num, by go_num, hid ⟨_, _, _, _, _, _, _, _, _, _, _, _, _, HS.out.swap, by omega, by omega, by omega, by omega⟩⟩, by simp [intOf]; omega⟩
        have hb0 : (cl.op == 0) = false := by simpa using hop
        have hn0 : ¬ cl.op = 0 := hop
        clear hop
        by_cases hop : cl.op = 1
        · rw [hop] at e0
          as_aux_lemma =>
            go_wp2_with fail
            have hcn := cat_new (w := wr) cl hra hrv
            rw [hop, hsec] at hcn
            have hcq : Cq (wr.alloc (.cells #[.int .i64 1, .bool true, .int .u64 cl.addr, .int .i64 cl.n, .int .u64 cl.v] 65)) wr.heap.size F3 F4 F1 F2 F5 cl := ⟨hcn, fun k hx => by have := HS.out.lt hx; omega⟩
            have hsl := (HS.out.later (Kept.alloc (fun _ => False) wr (.cells #[.int .i64 1, .bool true, .int .u64 cl.addr, .int .i64 cl.n, .int .u64 cl.v] 65))).1
            have HC := hid hcq
            have HS := hid hsl
            clear hcn hcq hsl e0 e1 e2 e3 e4
            generalize wr.alloc (.cells #[.int .i64 1, .bool true, .int .u64 cl.addr, .int .i64 cl.n, .int .u64 cl.v] 65) = W at *
            generalize wr.heap.size = CB at *
            have hH := HC.out.1.ck
            obtain ⟨hs, hc⟩ := HS.out.later (Kept.drewN (fun _ => False) W 1)
            have hcd := hc _ _ HC.out
            have HS := hid hs
            have HC := hid hcd
            have hHD : ck26 CB cl W.drew := hcd.1.ck
            clear hs hc hcd hH
            refine wp_region_held_drew (S := ck26 CB cl) (by kernel_rfl) hHD (fun hHeld => ?_)
            have hHD2 := hHD
            skip
            have HS : Hid (S5 w W.drew w.heap.size m Rb Ry Ra Rx GB F3 F4 F1 F2 F5 Nb fb db Nb fb db Na fa da k cB cP) := HS
            have HC : Hid (Cq W.drew CB F3 F4 F1 F2 F5 cl) := HC
            generalize W.drew = WD at *
            refine take_at (i := 0) (oi := { dst := some 137, op := Go.Op.move (Go.Operand.tmp 8), type := 25, pos := "law.go:90", after := #[], guard := none }) (d := some 137) (v := ?_) (by kernel_rfl) (by kernel_rfl) (by kernel_rfl) (by kernel_rfl) (by kernel_rfl) (fun _ _ _ h => h) (Or.inl ⟨by kernel_rfl, ?_⟩) (by assumption) ?_
            rotate_left 1
            · (intro w hSw; (try dsimp only at hSw); go_simp; try with_reducible rfl)
            try simp only [Act.put, List.setIfInBounds_toArray, List.set_cons_zero, List.set_cons_succ]
            refine take_at (i := 1) (oi := { dst := some 138, op := Go.Op.fieldAddr 65 (Go.Operand.tmp 19) 2, type := 0, pos := "law.go:90", after := #[], guard := none }) (d := some 138) (v := ?_) (by kernel_rfl) (by kernel_rfl) (by kernel_rfl) (by kernel_rfl) (by kernel_rfl) (fun _ _ _ h => h) (Or.inl ⟨by kernel_rfl, ?_⟩) (by assumption) ?_
            rotate_left 1
            · (intro w hSw; (try dsimp only at hSw); go_simp; try with_reducible rfl)
            try simp only [Act.put, List.setIfInBounds_toArray, List.set_cons_zero, List.set_cons_succ]
            refine take_at (i := 2) (oi := { dst := some 139, op := Go.Op.load 63 (Go.Operand.tmp 138), type := 63, pos := "law.go:90", after := #[{ on := 1, ground := Go.Ground.data }], guard := none }) (d := some 139) (v := ?_) (by kernel_rfl) (by kernel_rfl) (by kernel_rfl) (by kernel_rfl) (by kernel_rfl) (fun _ _ _ h => h) (Or.inl ⟨by kernel_rfl, ?_⟩) (by assumption) ?_
            rotate_left 1
            · (intro w hSw; (try dsimp only at hSw); go_simp; try with_reducible rfl)
            try simp only [Act.put, List.setIfInBounds_toArray, List.set_cons_zero, List.set_cons_succ]
            refine take_at (i := 3) (oi := { dst := some 140, op := Go.Op.fieldAddr 65 (Go.Operand.tmp 19) 3, type := 0, pos := "law.go:90", after := #[], guard := none }) (d := some 140) (v := ?_) (by kernel_rfl) (by kernel_rfl) (by kernel_rfl) (by kernel_rfl) (by kernel_rfl) (fun _ _ _ h => h) (Or.inl ⟨by kernel_rfl, ?_⟩) (by assumption) ?_
            rotate_left 1
            · (intro w hSw; (try dsimp only at hSw); go_simp; try with_reducible rfl)
            try simp only [Act.put, List.setIfInBounds_toArray, List.set_cons_zero, List.set_cons_succ]
            refine take_at (i := 4) (oi := { dst := some 141, op := Go.Op.load 3 (Go.Operand.tmp 140), type := 3, pos := "law.go:90", after := #[{ on := 3, ground := Go.Ground.data }], guard := none }) (d := some 141) (v := ?_) (by kernel_rfl) (by kernel_rfl) (by kernel_rfl) (by kernel_rfl) (by kernel_rfl) (fun _ _ _ h => h) (Or.inl ⟨by kernel_rfl, ?_⟩) (by assumption) ?_
            rotate_left 1
            · (intro w hSw; (try dsimp only at hSw); go_simp; try with_reducible rfl)
            try simp only [Act.put, List.setIfInBounds_toArray, List.set_cons_zero, List.set_cons_succ]
            refine take_at (i := 5) (oi := { dst := some 142, op := Go.Op.fieldAddr 65 (Go.Operand.tmp 19) 4, type := 0, pos := "law.go:90", after := #[], guard := none }) (d := some 142) (v := ?_) (by kernel_rfl) (by kernel_rfl) (by kernel_rfl) (by kernel_rfl) (by kernel_rfl) (fun _ _ _ h => h) (Or.inl ⟨by kernel_rfl, ?_⟩) (by assumption) ?_
            rotate_left 1
            · (intro w hSw; (try dsimp only at hSw); go_simp; try with_reducible rfl)
            try simp only [Act.put, List.setIfInBounds_toArray, List.set_cons_zero, List.set_cons_succ]
            refine take_at (i := 6) (oi := { dst := some 143, op := Go.Op.load 63 (Go.Operand.tmp 142), type := 63, pos := "law.go:90", after := #[{ on := 5, ground := Go.Ground.data }], guard := none }) (d := some 143) (v := ?_) (by kernel_rfl) (by kernel_rfl) (by kernel_rfl) (by kernel_rfl) (by kernel_rfl) (fun _ _ _ h => h) (Or.inl ⟨by kernel_rfl, ?_⟩) (by assumption) ?_
            rotate_left 1
            · (intro w hSw; (try dsimp only at hSw); go_simp; try with_reducible rfl)
            try simp only [Act.put, List.setIfInBounds_toArray, List.set_cons_zero, List.set_cons_succ]
            refine take_at (i := 8) (oi := { dst := some 145, op := Go.Op.move (Go.Operand.tmp 10), type := 29, pos := "law.go:90", after := #[], guard := none }) (d := some 145) (v := ?_) (by kernel_rfl) (by kernel_rfl) (by kernel_rfl) (by kernel_rfl) (by kernel_rfl) (fun _ _ _ h => h) (Or.inl ⟨by kernel_rfl, ?_⟩) (by assumption) ?_
            rotate_left 1
            · (intro w hSw; (try dsimp only at hSw); go_simp; try with_reducible rfl)
            try simp only [Act.put, List.setIfInBounds_toArray, List.set_cons_zero, List.set_cons_succ]
            refine take_at (i := 9) (oi := { dst := some 146, op := Go.Op.fieldAddr 65 (Go.Operand.tmp 19) 2, type := 0, pos := "law.go:90", after := #[], guard := none }) (d := some 146) (v := ?_) (by kernel_rfl) (by kernel_rfl) (by kernel_rfl) (by kernel_rfl) (by kernel_rfl) (fun _ _ _ h => h) (Or.inl ⟨by kernel_rfl, ?_⟩) (by assumption) ?_
            rotate_left 1
            · (intro w hSw; (try dsimp only at hSw); go_simp; try with_reducible rfl)
            try simp only [Act.put, List.setIfInBounds_toArray, List.set_cons_zero, List.set_cons_succ]
            refine take_at (i := 10) (oi := { dst := some 147, op := Go.Op.load 63 (Go.Operand.tmp 146), type := 63, pos := "law.go:90", after := #[{ on := 9, ground := Go.Ground.data }], guard := none }) (d := some 147) (v := ?_) (by kernel_rfl) (by kernel_rfl) (by kernel_rfl) (by kernel_rfl) (by kernel_rfl) (fun _ _ _ h => h) (Or.inl ⟨by kernel_rfl, ?_⟩) (by assumption) ?_
            rotate_left 1
            · (intro w hSw; (try dsimp only at hSw); go_simp; try with_reducible rfl)
            try simp only [Act.put, List.setIfInBounds_toArray, List.set_cons_zero, List.set_cons_succ]
            refine take_at (i := 11) (oi := { dst := some 148, op := Go.Op.fieldAddr 65 (Go.Operand.tmp 19) 3, type := 0, pos := "law.go:90", after := #[], guard := none }) (d := some 148) (v := ?_) (by kernel_rfl) (by kernel_rfl) (by kernel_rfl) (by kernel_rfl) (by kernel_rfl) (fun _ _ _ h => h) (Or.inl ⟨by kernel_rfl, ?_⟩) (by assumption) ?_
            rotate_left 1
            · (intro w hSw; (try dsimp only at hSw); go_simp; try with_reducible rfl)
            try simp only [Act.put, List.setIfInBounds_toArray, List.set_cons_zero, List.set_cons_succ]
            refine take_at (i := 12) (oi := { dst := some 149, op := Go.Op.load 3 (Go.Operand.tmp 148), type := 3, pos := "law.go:90", after := #[{ on := 11, ground := Go.Ground.data }], guard := none }) (d := some 149) (v := ?_) (by kernel_rfl) (by kernel_rfl) (by kernel_rfl) (by kernel_rfl) (by kernel_rfl) (fun _ _ _ h => h) (Or.inl ⟨by kernel_rfl, ?_⟩) (by assumption) ?_
            rotate_left 1
            · (intro w hSw; (try dsimp only at hSw); go_simp; try with_reducible rfl)
            try simp only [Act.put, List.setIfInBounds_toArray, List.set_cons_zero, List.set_cons_succ]
            refine take_at (i := 13) (oi := { dst := some 150, op := Go.Op.fieldAddr 65 (Go.Operand.tmp 19) 4, type := 0, pos := "law.go:90", after := #[], guard := none }) (d := some 150) (v := ?_) (by kernel_rfl) (by kernel_rfl) (by kernel_rfl) (by kernel_rfl) (by kernel_rfl) (fun _ _ _ h => h) (Or.inl ⟨by kernel_rfl, ?_⟩) (by assumption) ?_
            rotate_left 1
            · (intro w hSw; (try dsimp only at hSw); go_simp; try with_reducible rfl)
            try simp only [Act.put, List.setIfInBounds_toArray, List.set_cons_zero, List.set_cons_succ]
            refine take_at (i := 14) (oi := { dst := some 151, op := Go.Op.load 63 (Go.Operand.tmp 150), type := 63, pos := "law.go:90", after := #[{ on := 13, ground := Go.Ground.data }], guard := none }) (d := some 151) (v := ?_) (by kernel_rfl) (by kernel_rfl) (by kernel_rfl) (by kernel_rfl) (by kernel_rfl) (fun _ _ _ h => h) (Or.inl ⟨by kernel_rfl, ?_⟩) (by assumption) ?_
            rotate_left 1
            · (intro w hSw; (try dsimp only at hSw); go_simp; try with_reducible rfl)
            try simp only [Act.put, List.setIfInBounds_toArray, List.set_cons_zero, List.set_cons_succ]
            refine wpAnyH_ready (rs := [7]) (by kernel_rfl) (by simp) ?_
            refine ready_at (o := { dst := some 144, op := Go.Op.call { callee := Go.Callee.value (Go.Operand.func 21), args := #[Go.Operand.tmp 137, Go.Operand.tmp 139, Go.Operand.tmp 141, Go.Operand.tmp 143], argTypes := #[25, 63, 3, 63] }, type := 4, pos := "law.go:90", after := #[{ on := 0, ground := Go.Ground.data }, { on := 2, ground := Go.Ground.data }, { on := 4, ground := Go.Ground.data }, { on := 6, ground := Go.Ground.data }], guard := none }) (by kernel_rfl) (by kernel_rfl) (fun K hK => ?_) ?_
            · go_simp
              refine (HS.out.pa.store' cl.addr cl.n cl.v hra hrv).mono ?_
              rintro e w3 ⟨rfl, hpa, hk⟩
              obtain ⟨hs, hc⟩ := HS.out.stepA hpa hk (fun k hk => .inl hk)
              have hcd := hc _ _ HC.out
              have HS := hid hs
              have HC := hid hcd
              have hH3 : ck26 CB cl w3 := hcd.1.ck
              clear hs hc hcd hpa hk
              refine hK.out _ _ hH3 (fun _ => ?_)
              clear hK K
              refine wpAnyH_ready (rs := [15]) (by kernel_rfl) (by simp) ?_
              refine ready_at (o := { dst := some 152, op := Go.Op.call { callee := Go.Callee.value (Go.Operand.func 22), args := #[Go.Operand.tmp 145, Go.Operand.tmp 147, Go.Operand.tmp 149, Go.Operand.tmp 151], argTypes := #[29, 63, 3, 63] }, type := 4, pos := "law.go:90", after := #[{ on := 8, ground := Go.Ground.data }, { on := 10, ground := Go.Ground.data }, { on := 12, ground := Go.Ground.data }, { on := 14, ground := Go.Ground.data }, { on := 7, ground := Go.Ground.chain }], guard := none }) (by kernel_rfl) (by kernel_rfl) (fun K hK => ?_) ?_
              · go_simp
                refine (HS.out.px.store' cl.addr cl.n cl.v hra hrv).mono ?_
                rintro e w4 ⟨rfl, hpa, hk⟩
                obtain ⟨hs, hc⟩ := HS.out.stepX hpa hk (fun k hk => .inl hk)
                have HRS := hid (show hol Nb cl.addr.toNat cl.n = hol Nb cl.addr.toNat cl.n from rfl)
                have hcd := hc _ _ HC.out
                have HS := hid hs
                have HC := hid hcd
                have hH4 : ck26 CB cl w4 := hcd.1.ck
                clear hs hc hcd hpa hk
                refine hK.out _ _ hH4 (fun _ => ?_)
                clear hK K
                obtain ⟨rr, hrr⟩ : ∃ rr, rr = hol Nb cl.addr.toNat cl.n := ⟨_, rfl⟩
                rw [← hrr]
                clear hrr HRS
                have hrn : (rr != rr) = false := by simp
                refine take_at (i := 16) (oi := { dst := some 153, op := Go.Op.binOp Go.BinOp.neq 4 (Go.Operand.tmp 144) (Go.Operand.tmp 152) 4, type := 4, pos := "law.go:90", after := #[{ on := 7, ground := Go.Ground.data }, { on := 15, ground := Go.Ground.data }], guard := none }) (d := some 153) (v := ?_) (by kernel_rfl) (by kernel_rfl) (by kernel_rfl) (by kernel_rfl) (by kernel_rfl) (fun _ _ _ h => h) (Or.inl ⟨by kernel_rfl, ?_⟩) (by assumption) ?_
                rotate_left 1
                · (intro w hSw; (try dsimp only at hSw); go_simp; try with_reducible rfl)
                try simp only [Act.put, List.setIfInBounds_toArray, List.set_cons_zero, List.set_cons_succ]
                refine wpAnyH_done (by kernel_rfl) ?_ _
                generalize stF Nb fb cl.addr.toNat cl.n cl.v = fb at *
                generalize stD Nb db cl.addr.toNat cl.n = db at *
                have hz1 := HC.out.1.z1
                clear hz1
                go_wp2_with fail
                refine HS.out.pa.dirty.mono ?_
                rintro e wd ⟨v, rfl, hLI, hb⟩
                have hsz := HS.out.lows
                have hFz := fun k hx => HS.out.lt (k := k) hx
                have hCz := HC.out.1.lt
                obtain ⟨hs, hc⟩ := HS.out.later (kept_below hb)
                have HC := hid (hc _ _ HC.out)
                have HS := hid hs
                obtain ⟨pt, rfl, hok, hpl, hpz⟩ := tl_of_li hLI hsz (by have := dl_len db 64; omega)
                have HLI := hid hLI
                have HAD := hid (HS.out.addI pt hok hpl _ hpz hsz hFz hb.size (by omega) HC.out hCz)
                have HPZ := hid hpz
                have HFZ := hid hFz
                clear hs hc hLI hok hpl hpz hFz hb hsz hCz
                go_wp2_with fail
                refine HAD.out.mono ?_
                rintro e wi ⟨rfl, F6, hs, hc, hk⟩
                have HLI := hid (HLI.out.kept hk (fun b hb hx => by have h1 := HPZ.out b (Tl.ownb hb); have h2 := HFZ.out b (.inr (.inr (.inr (.inr hx)))); omega))
                have HS := hid hs
                have HC := hid hc
                clear hs hc hk HPZ HFZ
                have hNN : ((Nb : Int) != (Nb : Int)) = false := by simp
                go_wp2_with fail
                refine HS.out.pa.size.mono ?_
                rintro e w' ⟨rfl, hw⟩
                have hw2 := hw.symm; subst hw2; clear hw
                go_wp2_with fail
                refine HS.out.px.size.mono ?_
                rintro e w' ⟨rfl, hw⟩
                have hw2 := hw.symm; subst hw2; clear hw
                go_wp2_with fail
                refine HS.out.px.dirty.mono ?_
                rintro e wx ⟨v2, rfl, hL2, hb⟩
                obtain ⟨q2, c2, rfl⟩ := hL2.slice
                obtain ⟨hs, hc⟩ := HS.out.later (kept_below hb)
                have HC := hid (hc _ _ HC.out)
                have HS := hid hs
                have HEQ := hid (eq_dirty (HLI.out.kept (kept_below hb) (fun _ _ x => x)) hL2)
                clear hs hc hb hL2 HLI
                go_wp2_with fail
                refine HEQ.out.mono ?_
                rintro e wy ⟨rfl, hk⟩
                obtain ⟨hs, hc⟩ := HS.out.later hk
                have HC := hid (hc _ _ HC.out)
                have HS := hid hs
                have hz1 := HC.out.1.z1
                rw [hsec] at hz1
                clear hs hc hk HEQ
                go_wp2_with fail
                exact ⟨⟨k + 1, Ra, Rx, Rb, Ry, gr, by omega, rfl, rfl, rfl, rfl, by go_num, by go_num, hid ⟨_, _, _, _, _, _, _, _, _, _, _, _, _, HS.out.swap, by omega, by omega, by omega, by omega⟩⟩, by simp [intOf]; omega⟩
              exact AllReadyH.nil
            exact AllReadyH.nil
        have hb1 : (cl.op == 1) = false := by simpa using hop
        have hn1 : ¬ cl.op = 1 := hop
        clear hop
        by_cases hop : cl.op = 3
        · rw [hop] at e0
          as_aux_lemma =>
            go_wp2_with fail
            have hcn := cat_new (w := wr) cl hra hrv
            rw [hop, hsec] at hcn
            have hcq : Cq (wr.alloc (.cells #[.int .i64 3, .bool true, .int .u64 cl.addr, .int .i64 cl.n, .int .u64 cl.v] 65)) wr.heap.size F3 F4 F1 F2 F5 cl := ⟨hcn, fun k hx => by have := HS.out.lt hx; omega⟩
            have hsl := (HS.out.later (Kept.alloc (fun _ => False) wr (.cells #[.int .i64 3, .bool true, .int .u64 cl.addr, .int .i64 cl.n, .int .u64 cl.v] 65))).1
            have HC := hid hcq
            have HS := hid hsl
            clear hcn hcq hsl e0 e1 e2 e3 e4
            generalize wr.alloc (.cells #[.int .i64 3, .bool true, .int .u64 cl.addr, .int .i64 cl.n, .int .u64 cl.v] 65) = W at *
            generalize wr.heap.size = CB at *
            have hH := HC.out.1.ck
            obtain ⟨hs, hc⟩ := HS.out.later (Kept.drewN (fun _ => False) W 1)
            have hcd := hc _ _ HC.out
            have HS := hid hs
            have HC := hid hcd
            have hHD : ck26 CB cl W.drew := hcd.1.ck
            clear hs hc hcd hH
            refine wp_region_held_drew (S := ck26 CB cl) (by kernel_rfl) hHD (fun hHeld => ?_)
            have hHD2 := hHD
            skip
            have HS : Hid (S5 w W.drew w.heap.size m Rb Ry Ra Rx GB F3 F4 F1 F2 F5 Nb fb db Nb fb db Na fa da k cB cP) := HS
            have HC : Hid (Cq W.drew CB F3 F4 F1 F2 F5 cl) := HC
            generalize W.drew = WD at *
            refine take_at (i := 0) (oi := { dst := some 156, op := Go.Op.move (Go.Operand.tmp 8), type := 25, pos := "law.go:94", after := #[], guard := none }) (d := some 156) (v := ?_) (by kernel_rfl) (by kernel_rfl) (by kernel_rfl) (by kernel_rfl) (by kernel_rfl) (fun _ _ _ h => h) (Or.inl ⟨by kernel_rfl, ?_⟩) (by assumption) ?_
            rotate_left 1
            · (intro w hSw; (try dsimp only at hSw); go_simp; try with_reducible rfl)
            try simp only [Act.put, List.setIfInBounds_toArray, List.set_cons_zero, List.set_cons_succ]
            refine take_at (i := 1) (oi := { dst := some 157, op := Go.Op.fieldAddr 65 (Go.Operand.tmp 19) 4, type := 0, pos := "law.go:94", after := #[], guard := none }) (d := some 157) (v := ?_) (by kernel_rfl) (by kernel_rfl) (by kernel_rfl) (by kernel_rfl) (by kernel_rfl) (fun _ _ _ h => h) (Or.inl ⟨by kernel_rfl, ?_⟩) (by assumption) ?_
            rotate_left 1
            · (intro w hSw; (try dsimp only at hSw); go_simp; try with_reducible rfl)
            try simp only [Act.put, List.setIfInBounds_toArray, List.set_cons_zero, List.set_cons_succ]
            refine take_at (i := 2) (oi := { dst := some 158, op := Go.Op.load 63 (Go.Operand.tmp 157), type := 63, pos := "law.go:94", after := #[{ on := 1, ground := Go.Ground.data }], guard := none }) (d := some 158) (v := ?_) (by kernel_rfl) (by kernel_rfl) (by kernel_rfl) (by kernel_rfl) (by kernel_rfl) (fun _ _ _ h => h) (Or.inl ⟨by kernel_rfl, ?_⟩) (by assumption) ?_
            rotate_left 1
            · (intro w hSw; (try dsimp only at hSw); go_simp; try with_reducible rfl)
            try simp only [Act.put, List.setIfInBounds_toArray, List.set_cons_zero, List.set_cons_succ]
            refine take_at (i := 4) (oi := { dst := some 160, op := Go.Op.move (Go.Operand.tmp 10), type := 29, pos := "law.go:94", after := #[], guard := none }) (d := some 160) (v := ?_) (by kernel_rfl) (by kernel_rfl) (by kernel_rfl) (by kernel_rfl) (by kernel_rfl) (fun _ _ _ h => h) (Or.inl ⟨by kernel_rfl, ?_⟩) (by assumption) ?_
            rotate_left 1
            · (intro w hSw; (try dsimp only at hSw); go_simp; try with_reducible rfl)
            try simp only [Act.put, List.setIfInBounds_toArray, List.set_cons_zero, List.set_cons_succ]
            refine take_at (i := 5) (oi := { dst := some 161, op := Go.Op.fieldAddr 65 (Go.Operand.tmp 19) 4, type := 0, pos := "law.go:94", after := #[], guard := none }) (d := some 161) (v := ?_) (by kernel_rfl) (by kernel_rfl) (by kernel_rfl) (by kernel_rfl) (by kernel_rfl) (fun _ _ _ h => h) (Or.inl ⟨by kernel_rfl, ?_⟩) (by assumption) ?_
            rotate_left 1
            · (intro w hSw; (try dsimp only at hSw); go_simp; try with_reducible rfl)
            try simp only [Act.put, List.setIfInBounds_toArray, List.set_cons_zero, List.set_cons_succ]
            refine take_at (i := 6) (oi := { dst := some 162, op := Go.Op.load 63 (Go.Operand.tmp 161), type := 63, pos := "law.go:94", after := #[{ on := 5, ground := Go.Ground.data }], guard := none }) (d := some 162) (v := ?_) (by kernel_rfl) (by kernel_rfl) (by kernel_rfl) (by kernel_rfl) (by kernel_rfl) (fun _ _ _ h => h) (Or.inl ⟨by kernel_rfl, ?_⟩) (by assumption) ?_
            rotate_left 1
            · (intro w hSw; (try dsimp only at hSw); go_simp; try with_reducible rfl)
            try simp only [Act.put, List.setIfInBounds_toArray, List.set_cons_zero, List.set_cons_succ]
            refine wpAnyH_ready (rs := [3]) (by kernel_rfl) (by simp) ?_
            refine ready_at (o := { dst := some 159, op := Go.Op.call { callee := Go.Callee.value (Go.Operand.func 23), args := #[Go.Operand.tmp 156, Go.Operand.tmp 158], argTypes := #[25, 63] }, type := 2, pos := "law.go:94", after := #[{ on := 0, ground := Go.Ground.data }, { on := 2, ground := Go.Ground.data }], guard := none }) (by kernel_rfl) (by kernel_rfl) (fun K hK => ?_) ?_
            · go_simp
              refine (HS.out.pa.grow cl.v hrv).mono ?_
              rintro e w3 ⟨rfl, FG, hpa, hk, ho⟩
              obtain ⟨hs, hc⟩ := HS.out.stepA hpa hk ho
              have hcd := hc _ _ HC.out
              have HS := hid hs
              have HC := hid hcd
              have hH3 : ck26 CB cl w3 := hcd.1.ck
              clear hs hc hcd hpa hk ho
              refine hK.out _ _ hH3 (fun _ => ?_)
              clear hK K
              refine wpAnyH_ready (rs := [7]) (by kernel_rfl) (by simp) ?_
              refine ready_at (o := { dst := some 163, op := Go.Op.call { callee := Go.Callee.value (Go.Operand.func 24), args := #[Go.Operand.tmp 160, Go.Operand.tmp 162], argTypes := #[29, 63] }, type := 2, pos := "law.go:94", after := #[{ on := 4, ground := Go.Ground.data }, { on := 6, ground := Go.Ground.data }, { on := 3, ground := Go.Ground.chain }], guard := none }) (by kernel_rfl) (by kernel_rfl) (fun K hK => ?_) ?_
              · go_simp
                refine (HS.out.px.grow cl.v hrv).mono ?_
                rintro e w4 ⟨rfl, FH, hpa, hk, ho⟩
                obtain ⟨hs, hc⟩ := HS.out.stepX hpa hk ho
                have hcd := hc _ _ HC.out
                have HS := hid hs
                have HC := hid hcd
                have hH4 : ck26 CB cl w4 := hcd.1.ck
                clear hs hc hcd hpa hk ho
                refine hK.out _ _ hH4 (fun _ => ?_)
                clear hK K
                obtain ⟨rr, hrr⟩ : ∃ rr, rr = grR m Nb cl.v := ⟨_, rfl⟩
                rw [← hrr]
                clear hrr
                have hrn : (rr != rr) = false := by simp
                refine take_at (i := 8) (oi := { dst := some 164, op := Go.Op.binOp Go.BinOp.neq 2 (Go.Operand.tmp 159) (Go.Operand.tmp 163) 2, type := 4, pos := "law.go:94", after := #[{ on := 3, ground := Go.Ground.data }, { on := 7, ground := Go.Ground.data }], guard := none }) (d := some 164) (v := ?_) (by kernel_rfl) (by kernel_rfl) (by kernel_rfl) (by kernel_rfl) (by kernel_rfl) (fun _ _ _ h => h) (Or.inl ⟨by kernel_rfl, ?_⟩) (by assumption) ?_
                rotate_left 1
                · (intro w hSw; (try dsimp only at hSw); go_simp; try with_reducible rfl)
                try simp only [Act.put, List.setIfInBounds_toArray, List.set_cons_zero, List.set_cons_succ]
                refine wpAnyH_done (by kernel_rfl) ?_ _
                generalize grD m Nb db cl.v = db at *
                generalize grN m Nb cl.v = Nb at *
                have hz1 := HC.out.1.z1
                clear hz1
                go_wp2_with fail
                refine HS.out.pa.dirty.mono ?_
                rintro e wd ⟨v, rfl, hLI, hb⟩
                have hsz := HS.out.lows
                have hFz := fun k hx => HS.out.lt (k := k) hx
                have hCz := HC.out.1.lt
                obtain ⟨hs, hc⟩ := HS.out.later (kept_below hb)
                have HC := hid (hc _ _ HC.out)
                have HS := hid hs
                obtain ⟨pt, rfl, hok, hpl, hpz⟩ := tl_of_li hLI hsz (by have := dl_len db 64; omega)
                have HLI := hid hLI
                have HAD := hid (HS.out.addI pt hok hpl _ hpz hsz hFz hb.size (by omega) HC.out hCz)
                have HPZ := hid hpz
                have HFZ := hid hFz
                clear hs hc hLI hok hpl hpz hFz hb hsz hCz
                go_wp2_with fail
                refine HAD.out.mono ?_
                rintro e wi ⟨rfl, F6, hs, hc, hk⟩
                have HLI := hid (HLI.out.kept hk (fun b hb hx => by have h1 := HPZ.out b (Tl.ownb hb); have h2 := HFZ.out b (.inr (.inr (.inr (.inr hx)))); omega))
                have HS := hid hs
                have HC := hid hc
                clear hs hc hk HPZ HFZ
                have hNN : ((Nb : Int) != (Nb : Int)) = false := by simp
                go_wp2_with fail
                refine HS.out.pa.size.mono ?_
                rintro e w' ⟨rfl, hw⟩
                have hw2 := hw.symm; subst hw2; clear hw
                go_wp2_with fail
                refine HS.out.px.size.mono ?_
                rintro e w' ⟨rfl, hw⟩
                have hw2 := hw.symm; subst hw2; clear hw
                go_wp2_with fail
                refine HS.out.px.dirty.mono ?_
                rintro e wx ⟨v2, rfl, hL2, hb⟩
                obtain ⟨q2, c2, rfl⟩ := hL2.slice
                obtain ⟨hs, hc⟩ := HS.out.later (kept_below hb)
                have HC := hid (hc _ _ HC.out)
                have HS := hid hs
                have HEQ := hid (eq_dirty (HLI.out.kept (kept_below hb) (fun _ _ x => x)) hL2)
                clear hs hc hb hL2 HLI
                go_wp2_with fail
                refine HEQ.out.mono ?_
                rintro e wy ⟨rfl, hk⟩
                obtain ⟨hs, hc⟩ := HS.out.later hk
                have HC := hid (hc _ _ HC.out)
                have HS := hid hs
                have hz1 := HC.out.1.z1
                rw [hsec] at hz1
                clear hs hc hk HEQ
                go_wp2_with fail
                exact ⟨⟨k + 1, Ra, Rx, Rb, Ry, gr, by omega, rfl, rfl, rfl, rfl, by go_num, by go_num, hid ⟨_, _, _, _, _, _, _, _, _, _, _, _, _, HS.out.swap, by omega, by omega, by omega, by omega⟩⟩, by simp [intOf]; omega⟩
              exact AllReadyH.nil
            exact AllReadyH.nil
        have hb3 : (cl.op == 3) = false := by simpa using hop
        have hn3 : ¬ cl.op = 3 := hop
        clear hop
        by_cases hop : cl.op = 4
        · rw [hop] at e0
          as_aux_lemma =>
            go_wp2_with fail
            have hcn := cat_new (w := wr) cl hra hrv
            rw [hop, hsec] at hcn
            have hcq : Cq (wr.alloc (.cells #[.int .i64 4, .bool true, .int .u64 cl.addr, .int .i64 cl.n, .int .u64 cl.v] 65)) wr.heap.size F3 F4 F1 F2 F5 cl := ⟨hcn, fun k hx => by have := HS.out.lt hx; omega⟩
            have hsl := (HS.out.later (Kept.alloc (fun _ => False) wr (.cells #[.int .i64 4, .bool true, .int .u64 cl.addr, .int .i64 cl.n, .int .u64 cl.v] 65))).1
            have HC := hid hcq
            have HS := hid hsl
            clear hcn hcq hsl e0 e1 e2 e3 e4
            generalize wr.alloc (.cells #[.int .i64 4, .bool true, .int .u64 cl.addr, .int .i64 cl.n, .int .u64 cl.v] 65) = W at *
            generalize wr.heap.size = CB at *
            refine HS.out.pa.pages.mono ?_
            rintro e w2 ⟨PL, QB, rfl, hpg, hql, hb⟩
            have hsz := HS.out.lows
            have hFz := fun k hx => HS.out.lt (k := k) hx
            have hCz := HC.out.1.lt
            obtain ⟨hs, hc⟩ := HS.out.later (kept_below hb)
            have HC := hid (hc _ _ HC.out)
            have HS := hid hs
            have HPG := hid hpg
            have HSZ := hid (And.intro hsz (And.intro hFz (And.intro hCz hb.size)))
            clear hs hc hpg hb hsz hFz hCz
            go_wp2_with fail
            refine HS.out.px.pages.mono ?_
            rintro e w3 ⟨v3, rfl, hps, hb⟩
            obtain ⟨hs, hc⟩ := HS.out.later (kept_below hb)
            have HC := hid (hc _ _ HC.out)
            have HS := hid hs
            have HPG := hid (HPG.out.later hb)
            have HSZ := hid (And.intro HSZ.out.1 (And.intro HSZ.out.2.1 (And.intro HSZ.out.2.2.1 (Nat.le_trans HSZ.out.2.2.2 hb.size))))
            obtain ⟨v3a, v3c, rfl, _⟩ := id hps
            have HEP := hid (eqp_same _ _ Nb _ _ w3 (HPG.out.pseg hql (by omega)) hps)
            clear hs hc hb hps
            go_wp2_with fail
            refine HEP.out.mono ?_
            rintro e w4 ⟨rfl, hk⟩
            obtain ⟨hs, hc⟩ := HS.out.later hk
            have HC := hid (hc _ _ HC.out)
            have HS := hid hs
            have HPG := hid (HPG.out.kept hk (fun _ _ x => x))
            have HSZ := hid (And.intro HSZ.out.1 (And.intro HSZ.out.2.1 (And.intro HSZ.out.2.2.1 (Nat.le_trans HSZ.out.2.2.2 hk.size))))
            clear hs hc hk HEP
            by_cases hg8 : gr + Nb < 8
            · have hg8' : (gr : Int) + (Nb : Int) < 8 := by omega
              have HAP := hid (HS.out.addP HPG.out hql (by omega) HSZ.out.1 HSZ.out.2.1 HSZ.out.2.2.2 (by omega) (by omega) HC.out HSZ.out.2.2.1)
              clear HPG HSZ hql
              go_wp2_with fail
              refine HAP.out.mono ?_
              rintro e w5 ⟨rfl, F7, hs, hc⟩
              have HS := hid hs
              have HC := hid hc
              clear hs hc HAP
              have hz1 := HC.out.1.z1
              clear hz1
              go_wp2_with fail
              refine HS.out.pa.dirty.mono ?_
              rintro e wd ⟨v, rfl, hLI, hb⟩
              have hsz := HS.out.lows
              have hFz := fun k hx => HS.out.lt (k := k) hx
              have hCz := HC.out.1.lt
              obtain ⟨hs, hc⟩ := HS.out.later (kept_below hb)
              have HC := hid (hc _ _ HC.out)
              have HS := hid hs
              obtain ⟨pt, rfl, hok, hpl, hpz⟩ := tl_of_li hLI hsz (by have := dl_len db 64; omega)
              have HLI := hid hLI
              have HAD := hid (HS.out.addI pt hok hpl _ hpz hsz hFz hb.size (by omega) HC.out hCz)
              have HPZ := hid hpz
              have HFZ := hid hFz
              clear hs hc hLI hok hpl hpz hFz hb hsz hCz
              go_wp2_with fail
              refine HAD.out.mono ?_
              rintro e wi ⟨rfl, F6, hs, hc, hk⟩
              have HLI := hid (HLI.out.kept hk (fun b hb hx => by have h1 := HPZ.out b (Tl.ownb hb); have h2 := HFZ.out b (.inr (.inr (.inr (.inr hx)))); omega))
              have HS := hid hs
              have HC := hid hc
              clear hs hc hk HPZ HFZ
              have hNN : ((Nb : Int) != (Nb : Int)) = false := by simp
              go_wp2_with fail
              refine HS.out.pa.size.mono ?_
              rintro e w' ⟨rfl, hw⟩
              have hw2 := hw.symm; subst hw2; clear hw
              go_wp2_with fail
              refine HS.out.px.size.mono ?_
              rintro e w' ⟨rfl, hw⟩
              have hw2 := hw.symm; subst hw2; clear hw
              go_wp2_with fail
              refine HS.out.px.dirty.mono ?_
              rintro e wx ⟨v2, rfl, hL2, hb⟩
              obtain ⟨q2, c2, rfl⟩ := hL2.slice
              obtain ⟨hs, hc⟩ := HS.out.later (kept_below hb)
              have HC := hid (hc _ _ HC.out)
              have HS := hid hs
              have HEQ := hid (eq_dirty (HLI.out.kept (kept_below hb) (fun _ _ x => x)) hL2)
              clear hs hc hb hL2 HLI
              go_wp2_with fail
              refine HEQ.out.mono ?_
              rintro e wy ⟨rfl, hk⟩
              obtain ⟨hs, hc⟩ := HS.out.later hk
              have HC := hid (hc _ _ HC.out)
              have HS := hid hs
              have hz1 := HC.out.1.z1
              rw [hsec] at hz1
              clear hs hc hk HEQ
              go_wp2_with fail
              exact ⟨⟨k + 1, Ra, Rx, Rb, Ry, gr + Nb, by omega, rfl, rfl, rfl, rfl, by go_num, by go_num, hid ⟨_, _, _, _, _, _, _, _, _, _, _, _, _, HS.out.swap, by omega, by omega, by omega, by omega⟩⟩, by simp [intOf]; omega⟩
            · have hg8' : ¬ (gr : Int) + (Nb : Int) < 8 := by omega
              clear HPG HSZ hql
              have hz1 := HC.out.1.z1
              clear hz1
              go_wp2_with fail
              refine HS.out.pa.dirty.mono ?_
              rintro e wd ⟨v, rfl, hLI, hb⟩
              have hsz := HS.out.lows
              have hFz := fun k hx => HS.out.lt (k := k) hx
              have hCz := HC.out.1.lt
              obtain ⟨hs, hc⟩ := HS.out.later (kept_below hb)
              have HC := hid (hc _ _ HC.out)
              have HS := hid hs
              obtain ⟨pt, rfl, hok, hpl, hpz⟩ := tl_of_li hLI hsz (by have := dl_len db 64; omega)
              have HLI := hid hLI
              have HAD := hid (HS.out.addI pt hok hpl _ hpz hsz hFz hb.size (by omega) HC.out hCz)
              have HPZ := hid hpz
              have HFZ := hid hFz
              clear hs hc hLI hok hpl hpz hFz hb hsz hCz
              go_wp2_with fail
              refine HAD.out.mono ?_
              rintro e wi ⟨rfl, F6, hs, hc, hk⟩
              have HLI := hid (HLI.out.kept hk (fun b hb hx => by have h1 := HPZ.out b (Tl.ownb hb); have h2 := HFZ.out b (.inr (.inr (.inr (.inr hx)))); omega))
              have HS := hid hs
              have HC := hid hc
              clear hs hc hk HPZ HFZ
              have hNN : ((Nb : Int) != (Nb : Int)) = false := by simp
              go_wp2_with fail
              refine HS.out.pa.size.mono ?_
              rintro e w' ⟨rfl, hw⟩
              have hw2 := hw.symm; subst hw2; clear hw
              go_wp2_with fail
              refine HS.out.px.size.mono ?_
              rintro e w' ⟨rfl, hw⟩
              have hw2 := hw.symm; subst hw2; clear hw
              go_wp2_with fail
              refine HS.out.px.dirty.mono ?_
              rintro e wx ⟨v2, rfl, hL2, hb⟩
              obtain ⟨q2, c2, rfl⟩ := hL2.slice
              obtain ⟨hs, hc⟩ := HS.out.later (kept_below hb)
              have HC := hid (hc _ _ HC.out)
              have HS := hid hs
              have HEQ := hid (eq_dirty (HLI.out.kept (kept_below hb) (fun _ _ x => x)) hL2)
              clear hs hc hb hL2 HLI
              go_wp2_with fail
              refine HEQ.out.mono ?_
              rintro e wy ⟨rfl, hk⟩
              obtain ⟨hs, hc⟩ := HS.out.later hk
              have HC := hid (hc _ _ HC.out)
              have HS := hid hs
              have hz1 := HC.out.1.z1
              rw [hsec] at hz1
              clear hs hc hk HEQ
              go_wp2_with fail
              exact ⟨⟨k + 1, Ra, Rx, Rb, Ry, gr + Nb, by omega, rfl, rfl, rfl, rfl, by go_num, by go_num, hid ⟨_, _, _, _, _, _, _, _, _, _, _, _, _, HS.out.swap, by omega, by omega, by omega, by omega⟩⟩, by simp [intOf]; omega⟩
        have hb4 : (cl.op == 4) = false := by simpa using hop
        have hn4 : ¬ cl.op = 4 := hop
        clear hop
        by_cases hop : cl.op = 6
        · rw [hop] at e0
          as_aux_lemma =>
            go_wp2_with fail
            have hcn := cat_new (w := wr) cl hra hrv
            rw [hop, hsec] at hcn
            have hcq : Cq (wr.alloc (.cells #[.int .i64 6, .bool true, .int .u64 cl.addr, .int .i64 cl.n, .int .u64 cl.v] 65)) wr.heap.size F3 F4 F1 F2 F5 cl := ⟨hcn, fun k hx => by have := HS.out.lt hx; omega⟩
            have hsl := (HS.out.later (Kept.alloc (fun _ => False) wr (.cells #[.int .i64 6, .bool true, .int .u64 cl.addr, .int .i64 cl.n, .int .u64 cl.v] 65))).1
            have HC := hid hcq
            have HS := hid hsl
            clear hcn hcq hsl e0 e1 e2 e3 e4
            generalize wr.alloc (.cells #[.int .i64 6, .bool true, .int .u64 cl.addr, .int .i64 cl.n, .int .u64 cl.v] 65) = W at *
            generalize wr.heap.size = CB at *
            refine HS.out.px.clean.mono ?_
            rintro e w2 ⟨rfl, hpx, hk⟩
            obtain ⟨hs, hc⟩ := HS.out.stepX hpx hk (fun k hk => .inl hk)
            have HC := hid (hc _ _ HC.out)
            have HS := hid hs
            clear hs hc hpx hk
            go_wp2_with fail
            refine HS.out.pa.clean.mono ?_
            rintro e w3 ⟨rfl, hpx, hk⟩
            obtain ⟨hs, hc⟩ := HS.out.stepA hpx hk (fun k hk => .inl hk)
            have HC := hid (hc _ _ HC.out)
            have HS := hid hs
            clear hs hc hpx hk
            generalize (fun (_ : Nat) => false) = db at *
            have hz1 := HC.out.1.z1
            clear hz1
            go_wp2_with fail
            refine HS.out.pa.dirty.mono ?_
            rintro e wd ⟨v, rfl, hLI, hb⟩
            have hsz := HS.out.lows
            have hFz := fun k hx => HS.out.lt (k := k) hx
            have hCz := HC.out.1.lt
            obtain ⟨hs, hc⟩ := HS.out.later (kept_below hb)
            have HC := hid (hc _ _ HC.out)
            have HS := hid hs
            obtain ⟨pt, rfl, hok, hpl, hpz⟩ := tl_of_li hLI hsz (by have := dl_len db 64; omega)
            have HLI := hid hLI
            have HAD := hid (HS.out.addI pt hok hpl _ hpz hsz hFz hb.size (by omega) HC.out hCz)
            have HPZ := hid hpz
            have HFZ := hid hFz
            clear hs hc hLI hok hpl hpz hFz hb hsz hCz
            go_wp2_with fail
            refine HAD.out.mono ?_
            rintro e wi ⟨rfl, F6, hs, hc, hk⟩
            have HLI := hid (HLI.out.kept hk (fun b hb hx => by have h1 := HPZ.out b (Tl.ownb hb); have h2 := HFZ.out b (.inr (.inr (.inr (.inr hx)))); omega))
            have HS := hid hs
            have HC := hid hc
            clear hs hc hk HPZ HFZ
            have hNN : ((Nb : Int) != (Nb : Int)) = false := by simp
            go_wp2_with fail
            refine HS.out.pa.size.mono ?_
            rintro e w' ⟨rfl, hw⟩
            have hw2 := hw.symm; subst hw2; clear hw
            go_wp2_with fail
            refine HS.out.px.size.mono ?_
            rintro e w' ⟨rfl, hw⟩
            have hw2 := hw.symm; subst hw2; clear hw
            go_wp2_with fail
            refine HS.out.px.dirty.mono ?_
            rintro e wx ⟨v2, rfl, hL2, hb⟩
            obtain ⟨q2, c2, rfl⟩ := hL2.slice
            obtain ⟨hs, hc⟩ := HS.out.later (kept_below hb)
            have HC := hid (hc _ _ HC.out)
            have HS := hid hs
            have HEQ := hid (eq_dirty (HLI.out.kept (kept_below hb) (fun _ _ x => x)) hL2)
            clear hs hc hb hL2 HLI
            go_wp2_with fail
            refine HEQ.out.mono ?_
            rintro e wy ⟨rfl, hk⟩
            obtain ⟨hs, hc⟩ := HS.out.later hk
            have HC := hid (hc _ _ HC.out)
            have HS := hid hs
            have hz1 := HC.out.1.z1
            rw [hsec] at hz1
            clear hs hc hk HEQ
            go_wp2_with fail
            exact ⟨⟨k + 1, Ra, Rx, Rb, Ry, gr, by omega, rfl, rfl, rfl, rfl, by go_num, by go_num, hid ⟨_, _, _, _, _, _, _, _, _, _, _, _, _, HS.out.swap, by omega, by omega, by omega, by omega⟩⟩, by simp [intOf]; omega⟩
        have hb6 : (cl.op == 6) = false := by simpa using hop
        have hn6 : ¬ cl.op = 6 := hop
        clear hop
        by_cases hop : cl.op = 7
        · rw [hop] at e0
          as_aux_lemma =>
            go_wp2_with fail
            have hcn := cat_new (w := wr) cl hra hrv
            rw [hop, hsec] at hcn
            have hcq : Cq (wr.alloc (.cells #[.int .i64 7, .bool true, .int .u64 cl.addr, .int .i64 cl.n, .int .u64 cl.v] 65)) wr.heap.size F3 F4 F1 F2 F5 cl := ⟨hcn, fun k hx => by have := HS.out.lt hx; omega⟩
            have hsl := (HS.out.later (Kept.alloc (fun _ => False) wr (.cells #[.int .i64 7, .bool true, .int .u64 cl.addr, .int .i64 cl.n, .int .u64 cl.v] 65))).1
            have HC := hid hcq
            have HS := hid hsl
            clear hcn hcq hsl e0 e1 e2 e3 e4
            generalize wr.alloc (.cells #[.int .i64 7, .bool true, .int .u64 cl.addr, .int .i64 cl.n, .int .u64 cl.v] 65) = W at *
            generalize wr.heap.size = CB at *
            have hbd := HS.out.pa.bnd
            have HBD := hid hbd
            clear hbd
            refine HS.out.pa.pages.mono ?_
            rintro e w2 ⟨PL, QB, rfl, hpg, hql, hb⟩
            obtain ⟨hs, hc⟩ := HS.out.later (kept_below hb)
            have HC := hid (hc _ _ HC.out)
            have HS := hid hs
            have HFR := hid (pm_from (hpg.pseg hql (by omega)) HBD.out.1 HBD.out.2.1 HBD.out.2.2.1 HBD.out.2.2.2)
            clear hs hc hpg hb hql
            go_wp2_with fail
            refine HFR.out.mono ?_
            rintro e w3 ⟨R7, F7, rfl, hpm, hb, hF7⟩
            obtain ⟨hs, hc⟩ := HS.out.stepA hpm ((kept_below hb).mono (fun _ x => x.elim)) (fun k hk => .inr (hF7 k hk))
            have HC := hid (hc _ _ HC.out)
            have HS := hid hs
            clear hs hc hpm hb hF7 HFR
            go_wp2_with fail
            refine HS.out.px.pages.mono ?_
            rintro e w4 ⟨v4, rfl, hps, hb⟩
            obtain ⟨hs, hc⟩ := HS.out.later (kept_below hb)
            have HC := hid (hc _ _ HC.out)
            have HS := hid hs
            obtain ⟨v4a, v4c, rfl, _⟩ := id hps
            have HFR := hid (dm_from hps HBD.out.1 HBD.out.2.1 HBD.out.2.2.1 HBD.out.2.2.2)
            clear hs hc hps hb
            go_wp2_with fail
            refine HFR.out.mono ?_
            rintro e w5 ⟨X7, F8, rfl, hpm, hb, hF7⟩
            obtain ⟨hs, hc⟩ := HS.out.stepX hpm ((kept_below hb).mono (fun _ x => x.elim)) (fun k hk => .inr (hF7 k hk))
            have HC := hid (hc _ _ HC.out)
            have HS := hid hs
            clear hs hc hpm hb hF7 HFR
            generalize (fun (_ : Nat) => false) = db at *
            have hz1 := HC.out.1.z1
            clear hz1
            go_wp2_with fail
            refine HS.out.pa.dirty.mono ?_
            rintro e wd ⟨v, rfl, hLI, hb⟩
            have hsz := HS.out.lows
            have hFz := fun k hx => HS.out.lt (k := k) hx
            have hCz := HC.out.1.lt
            obtain ⟨hs, hc⟩ := HS.out.later (kept_below hb)
            have HC := hid (hc _ _ HC.out)
            have HS := hid hs
            obtain ⟨pt, rfl, hok, hpl, hpz⟩ := tl_of_li hLI hsz (by have := dl_len db 64; omega)
            have HLI := hid hLI
            have HAD := hid (HS.out.addI pt hok hpl _ hpz hsz hFz hb.size (by omega) HC.out hCz)
            have HPZ := hid hpz
            have HFZ := hid hFz
            clear hs hc hLI hok hpl hpz hFz hb hsz hCz
            go_wp2_with fail
            refine HAD.out.mono ?_
            rintro e wi ⟨rfl, F6, hs, hc, hk⟩
            have HLI := hid (HLI.out.kept hk (fun b hb hx => by have h1 := HPZ.out b (Tl.ownb hb); have h2 := HFZ.out b (.inr (.inr (.inr (.inr hx)))); omega))
            have HS := hid hs
            have HC := hid hc
            clear hs hc hk HPZ HFZ
            have hNN : ((Nb : Int) != (Nb : Int)) = false := by simp
            go_wp2_with fail
            refine HS.out.pa.size.mono ?_
            rintro e w' ⟨rfl, hw⟩
            have hw2 := hw.symm; subst hw2; clear hw
            go_wp2_with fail
            refine HS.out.px.size.mono ?_
            rintro e w' ⟨rfl, hw⟩
            have hw2 := hw.symm; subst hw2; clear hw
            go_wp2_with fail
            refine HS.out.px.dirty.mono ?_
            rintro e wx ⟨v2, rfl, hL2, hb⟩
            obtain ⟨q2, c2, rfl⟩ := hL2.slice
            obtain ⟨hs, hc⟩ := HS.out.later (kept_below hb)
            have HC := hid (hc _ _ HC.out)
            have HS := hid hs
            have HEQ := hid (eq_dirty (HLI.out.kept (kept_below hb) (fun _ _ x => x)) hL2)
            clear hs hc hb hL2 HLI
            go_wp2_with fail
            refine HEQ.out.mono ?_
            rintro e wy ⟨rfl, hk⟩
            obtain ⟨hs, hc⟩ := HS.out.later hk
            have HC := hid (hc _ _ HC.out)
            have HS := hid hs
            have hz1 := HC.out.1.z1
            rw [hsec] at hz1
            clear hs hc hk HEQ
            go_wp2_with fail
            exact ⟨⟨k + 1, Ra, Rx, R7, X7, gr, by omega, rfl, rfl, rfl, rfl, by go_num, by go_num, hid ⟨_, _, _, _, _, _, _, _, _, _, _, _, _, HS.out.swap, by omega, by omega, by omega, by omega⟩⟩, by simp [intOf]; omega⟩
        have hb7 : (cl.op == 7) = false := by simpa using hop
        have hn7 : ¬ cl.op = 7 := hop
        clear hop
        as_aux_lemma =>
          go_wp2_with fail
          have hcn := cat_new (w := wr) cl hra hrv
          rw [hsec] at hcn
          have hcq : Cq (wr.alloc (.cells #[.int .i64 cl.op, .bool true, .int .u64 cl.addr, .int .i64 cl.n, .int .u64 cl.v] 65)) wr.heap.size F3 F4 F1 F2 F5 cl := ⟨hcn, fun k hx => by have := HS.out.lt hx; omega⟩
          have hsl := (HS.out.later (Kept.alloc (fun _ => False) wr (.cells #[.int .i64 cl.op, .bool true, .int .u64 cl.addr, .int .i64 cl.n, .int .u64 cl.v] 65))).1
          have HC := hid hcq
          have HS := hid hsl
          clear hcn hcq hsl e0 e1 e2 e3 e4
          generalize wr.alloc (.cells #[.int .i64 cl.op, .bool true, .int .u64 cl.addr, .int .i64 cl.n, .int .u64 cl.v] 65) = W at *
          generalize wr.heap.size = CB at *
          have hz1 := HC.out.1.z1
          clear hz1
          refine HS.out.pa.dirty.mono ?_
          rintro e wd ⟨v, rfl, hLI, hb⟩
          have hsz := HS.out.lows
          have hFz := fun k hx => HS.out.lt (k := k) hx
          have hCz := HC.out.1.lt
          obtain ⟨hs, hc⟩ := HS.out.later (kept_below hb)
          have HC := hid (hc _ _ HC.out)
          have HS := hid hs
          obtain ⟨pt, rfl, hok, hpl, hpz⟩ := tl_of_li hLI hsz (by have := dl_len db 64; omega)
          have HLI := hid hLI
          have HAD := hid (HS.out.addI pt hok hpl _ hpz hsz hFz hb.size (by omega) HC.out hCz)
          have HPZ := hid hpz
          have HFZ := hid hFz
          clear hs hc hLI hok hpl hpz hFz hb hsz hCz
          go_wp2_with fail
          refine HAD.out.mono ?_
          rintro e wi ⟨rfl, F6, hs, hc, hk⟩
          have HLI := hid (HLI.out.kept hk (fun b hb hx => by have h1 := HPZ.out b (Tl.ownb hb); have h2 := HFZ.out b (.inr (.inr (.inr (.inr hx)))); omega))
          have HS := hid hs
          have HC := hid hc
          clear hs hc hk HPZ HFZ
          have hNN : ((Nb : Int) != (Nb : Int)) = false := by simp
          go_wp2_with fail
          refine HS.out.pa.size.mono ?_
          rintro e w' ⟨rfl, hw⟩
          have hw2 := hw.symm; subst hw2; clear hw
          go_wp2_with fail
          refine HS.out.px.size.mono ?_
          rintro e w' ⟨rfl, hw⟩
          have hw2 := hw.symm; subst hw2; clear hw
          go_wp2_with fail
          refine HS.out.px.dirty.mono ?_
          rintro e wx ⟨v2, rfl, hL2, hb⟩
          obtain ⟨q2, c2, rfl⟩ := hL2.slice
          obtain ⟨hs, hc⟩ := HS.out.later (kept_below hb)
          have HC := hid (hc _ _ HC.out)
          have HS := hid hs
          have HEQ := hid (eq_dirty (HLI.out.kept (kept_below hb) (fun _ _ x => x)) hL2)
          clear hs hc hb hL2 HLI
          go_wp2_with fail
          refine HEQ.out.mono ?_
          rintro e wy ⟨rfl, hk⟩
          obtain ⟨hs, hc⟩ := HS.out.later hk
          have HC := hid (hc _ _ HC.out)
          have HS := hid hs
          have hz1 := HC.out.1.z1
          rw [hsec] at hz1
          clear hs hc hk HEQ
          go_wp2_with fail
          exact ⟨⟨k + 1, Ra, Rx, Rb, Ry, gr, by omega, rfl, rfl, rfl, rfl, by go_num, by go_num, hid ⟨_, _, _, _, _, _, _, _, _, _, _, _, _, HS.out.swap, by omega, by omega, by omega, by omega⟩⟩, by simp [intOf]; omega⟩
    · obtain rfl : k = n := by omega
      have hlt' : ¬ (k : Int) < (k : Int) := by omega
      go_wp2_with fail
      refine HS.out.pa.pages.mono ?_
      rintro e w2 ⟨PL, QB, rfl, hpg, hql, hb⟩
      have HS := hid (HS.out.later (kept_below hb)).1
      have HPG := hid hpg
      clear hpg hb
      go_wp2_with fail
      refine HS.out.px.pages.mono ?_
      rintro e w3 ⟨v3, rfl, hps, hb⟩
      have HS := hid (HS.out.later (kept_below hb)).1
      obtain ⟨v3a, v3c, rfl, _⟩ := id hps
      have HEP := hid (eqp_same _ _ Na _ _ w3 ((HPG.out.later hb).pseg hql (by omega)) hps)
      clear hb hps HPG hql
      go_wp2_with fail
      refine HEP.out.mono ?_
      rintro e w4 ⟨rfl, hkk⟩
      have HS := hid (HS.out.later hkk).1
      clear hkk HEP
      go_wp2_with fail
      refine HS.out.pb.pages.mono ?_
      rintro e w5 ⟨PL2, QB2, rfl, hpg, hql, hb⟩
      have HS := hid (HS.out.later (kept_below hb)).1
      have HPG := hid hpg
      clear hpg hb
      go_wp2_with fail
      refine HS.out.py.pages.mono ?_
      rintro e w6 ⟨v6, rfl, hps, hb⟩
      have HS := hid (HS.out.later (kept_below hb)).1
      obtain ⟨v6a, v6c, rfl, _⟩ := id hps
      have HEP := hid (eqp_same _ _ Nb _ _ w6 ((HPG.out.later hb).pseg hql (by omega)) hps)
      clear hb hps HPG hql
      go_wp2_with fail
      refine HEP.out.mono ?_
      rintro e w7 ⟨rfl, hkk⟩
      have HS := hid (HS.out.later hkk).1
      clear hkk HEP
      obtain ⟨vI, vB, vP, lI, lB, lP, hBG, hF5, e1, e2, e3⟩ := HS.out.bg
      have HAP := hid (hBG.apart (B0 := w.heap.size) (by omega) (by omega) (by omega) (HT.out.later HS.out.bl) (Nat.le_refl _) HS.out.lows)
      have HF5 := hid hF5
      clear hBG hF5
      go_wp2_with fail
      refine HAP.out.mono ?_
      rintro e w8 ⟨rfl, hkk⟩
      have HBL := hid (HS.out.below hkk (fun k hx => HS.out.low k (.inr (.inr (.inr (.inr ((HF5.out k).2 hx)))))))
      clear hkk
      go_wp2_with fail
      go_ret
      exact ⟨rfl, HBL.out⟩
end Go.Proofs.YtedkmfklobipaaaDoor

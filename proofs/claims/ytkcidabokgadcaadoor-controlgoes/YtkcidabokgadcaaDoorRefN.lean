/-
  The walks over the document's Labels, place and Next.
-/
import Derived.Test.YtkcidabokgadcaaDoorRefF
import Derived.Test.YtkcidabokgadcaaDoorGood
namespace Go.Proofs.YtkcidabokgadcaaDoor
open Go.RowKit
set_option linter.unusedVariables false

theorem li_cells {w : World} {base n k c : Nat} {a : Option Addr} {f : Nat → Int} (h : LI w base (.slice a k c) ((List.range n).map f)) (hn : 0 < n) : k = n ∧ ∃ B, a = some ⟨B, 0, none⟩ ∧ base ≤ B ∧ B < w.heap.size ∧ ∀ j, j < n → w.cell? ⟨B, j, none⟩ = some (.int .i64 (f j)) := by
  obtain ⟨e, hc⟩ := h.cell
  have e2 : k = n := by simpa using e
  subst e2
  obtain ⟨B, rfl, hcell⟩ := hc.resolve_left (by omega)
  have hb := LI.block h rfl
  refine ⟨rfl, B, rfl, hb.1, hb.2, fun j hj => ?_⟩
  rw [hcell j hj]
  simp [List.getD_eq_getElem?_getD, hj]

set_option maxRecDepth 100000 in
set_option maxHeartbeats 2000000 in
/-- The document's Labels. -/
theorem refLabels (a : Option Addr) (n cap : Nat) (xs : List Inx) (pc : Int) (w : World) (hn : n ≤ 1048576) (hcap : n ≤ cap) (hc : CodS w a n xs) :
    Calls Tryd.prog 17 #[.slice a n cap, .int .i64 pc] w fun e w' => ∃ v, e = .returned v ∧ LI w' w.heap.size v (labV (opF xs) n pc) ∧ Below w.heap.size w w' := by
  have H1 := hid (refMap a n cap xs w hn hcap hc)
  clear hc
  go_enter Tryd.func17, Tryd.ntmps17
  go_wp2_with fail
  refine H1.out.mono ?_
  rintro e w1 ⟨a1, a2, a3, n1, n2, n3, c1, c2, c3, rfl, hM, hb⟩
  have HB := hid hb
  have hbs := hb.size
  by_cases h0 : (res (opF xs) n 0).1 = 0
  · by_cases hp : pc < 0
    · have HV := hid (show labV (opF xs) n pc = [] by unfold labV; rw [if_neg (by omega)])
      have hz : ((res (opF xs) n 0).1 != 0) = false := by rw [h0]; rfl
      have hz' : ((res (opF xs) n 0).1 == 0) = true := by rw [h0]; rfl
      clear hM hb h0
      generalize (res (opF xs) n 0).1 = r1 at *
      generalize (res (opF xs) n 0).2 = r2 at *
      go_wp2_with fail
      go_ret
      exact ⟨_, rfl, by rw [HV.out]; exact LI.nil _ _, HB.out⟩
    · by_cases hp2 : (n : Int) ≤ pc
      · have HV := hid (show labV (opF xs) n pc = [] by unfold labV; rw [if_neg (by omega)])
        have hz : ((res (opF xs) n 0).1 != 0) = false := by rw [h0]; rfl
        have hz' : ((res (opF xs) n 0).1 == 0) = true := by rw [h0]; rfl
        clear hM hb h0
        generalize (res (opF xs) n 0).1 = r1 at *
        generalize (res (opF xs) n 0).2 = r2 at *
        go_wp2_with fail
        go_ret
        exact ⟨_, rfl, by rw [HV.out]; exact LI.nil _ _, HB.out⟩
      · obtain ⟨j, rfl⟩ : ∃ j : Nat, pc = (j : Int) := ⟨pc.toNat, by omega⟩
        have hj : j < n := by omega
        rcases hM with ⟨hx, _⟩ | ⟨hr, y1, y2, y3⟩
        · exact absurd h0 hx
        obtain ⟨e3, B3, rfl, b3, l3, k3⟩ := li_cells y3 (by omega)
        subst e3
        have HV := hid (show labV (opF xs) n3 j = labs (opF xs) j by unfold labV; rw [if_pos ⟨h0, by omega, by omega⟩, Int.toNat_natCast])
        have hlen := labs_len (good_okp (res_good h0) hj)
        have K3 := hid k3
        have c0 : w1.cell? ⟨B3, j, none⟩ = some (.int .i64 (top (stk (opF xs) j))) := by rw [k3 j hj]; unfold owF; rw [if_pos hj]
        have hz : ((res (opF xs) n3 0).1 != 0) = false := by rw [h0]; rfl
        have hz' : ((res (opF xs) n3 0).1 == 0) = true := by rw [h0]; rfl
        have hjd : decide ((j : Int) < 0) = false := by simp
        have hnd : decide (n3 ≤ j) = false := by simp; omega
        have hnd2 : decide ((n3 : Int) ≤ (j : Int)) = false := by simp; omega
        have ht0 := top_lt (opF xs) j
        have HLS := hid (labs_step (opF xs) j)
        have HLN := hid hlen
        clear hr y1 y2 y3 k3 h0 hb hlen
        generalize (res (opF xs) n3 0).1 = r1 at *
        generalize (res (opF xs) n3 0).2 = r2 at *
        generalize htp : top (stk (opF xs) j) = tp at *
        have HTP := hid htp
        clear htp
        go_wp2_with fail
        go_loopw [10, 11] (fun v p wr => ∃ (q : Int) (l : List Int), p = .int .i64 q ∧ -1 ≤ q ∧ q < n3 ∧ LI wr w1.heap.size v l ∧ l ++ (q :: rst (opF xs) q) = labs (opF xs) j ∧ Below w1.heap.size w1 wr) (fun _ p _ => (intOf p + 1).toNat)
        case atStart => exact ⟨tp, [], rfl, by omega, by omega, LI.nil _ _, by rw [HLS.out]; rfl, Below.refl _ _⟩
        case round =>
          obtain ⟨q, l, rfl, hq0, hq1, hli, he, hbr⟩ := hrel
          obtain ⟨la, lc, rfl⟩ := hli.slice
          have hsz := hbr.size
          have hll : l.length ≤ 1073741824 := by
            have h1 := HLN.out
            rw [← he] at h1
            simp at h1; omega
          clear c0
          by_cases hq : q = -1
          · subst hq
            have HE := hid (show l ++ [-1] = labs (opF xs) j by rw [← he]; simp [rst])
            have HLI := hid (hli.later ((Below.refl wr.heap.size wr).alloc (Nat.le_refl _) (.cells #[.int .i64 (-1)] 3)) (Nat.le_refl _))
            have HBR := hid (hbr.alloc hsz (.cells #[.int .i64 (-1)] 3))
            have hsa : w1.heap.size ≤ (wr.alloc (.cells #[.int .i64 (-1)] 3)).heap.size := by simp; omega
            clear hli hbr he
            go_wp2_with (first
              | (at_builtin; refine app_int _ rfl (.tmp 46) (.tmp 47) rfl w1.heap.size _ l rfl HLI.out hsa ⟨wr.heap.size, 0, none⟩ (-1) rfl (by simp [Addr.add]) hll ?_; intro B1 cap1 w2 hL2 hB2 hb2; have HL2 := hid hL2; have HB2 := hid (HBR.out.trans hb2); clear hL2 hb2))
            go_ret
            exact ⟨_, rfl, by rw [HV.out, ← HE.out]; exact HL2.out.mono hbs, HB.out.trans (HB2.out.mono hbs)⟩
          · obtain ⟨t, rfl⟩ : ∃ t : Nat, q = (t : Int) := ⟨q.toNat, by omega⟩
            have ht : t < n3 := by omega
            have c4 : w1.cell? ⟨B3, t, none⟩ = some (.int .i64 (top (stk (opF xs) t))) := by rw [K3.out t ht]; unfold owF; rw [if_pos ht]
            have hr : rst (opF xs) (t : Int) = top (stk (opF xs) t) :: rst (opF xs) (top (stk (opF xs) t)) := by
              have : ¬ (t : Int) = -1 := by omega
              have e : rst (opF xs) (t : Int) = labs (opF xs) t := by simp [rst, this]
              rw [e]; exact labs_step _ _
            rw [hr] at he
            have htl := top_lt (opF xs) t
            have HE := hid he
            have HLI := hid (hli.later ((Below.refl wr.heap.size wr).alloc (Nat.le_refl _) (.cells #[.int .i64 (t : Int)] 3)) (Nat.le_refl _))
            have HBR := hid (hbr.alloc hsz (.cells #[.int .i64 (t : Int)] 3))
            have hsa : w1.heap.size ≤ (wr.alloc (.cells #[.int .i64 (t : Int)] 3)).heap.size := by simp; omega
            clear hli hbr he hr
            generalize top (stk (opF xs) t) = z at *
            have hge : (0 : Int) ≤ (t : Int) := by omega
            go_wp2_with (first
              | (at_builtin; refine app_int _ rfl (.tmp 38) (.tmp 40) rfl w1.heap.size _ l rfl HLI.out hsa ⟨wr.heap.size, 0, none⟩ t rfl (by simp [Addr.add]) hll ?_; intro B1 cap1 w2 hL2 hB2 hb2; have HL2 := hid hL2; have HB2 := hid (HBR.out.trans hb2); have c5 := ((HB2.out).cell (p := ⟨B3, t, none⟩) (by exact l3)).trans c4; clear hL2 hb2))
            refine ⟨⟨z, l ++ [(t : Int)], rfl, by omega, by omega, HL2.out, ?_, HB2.out⟩, by simp only [intOf]; omega⟩
            rw [List.append_assoc]; exact HE.out
  · have HV := hid (show labV (opF xs) n pc = [] by unfold labV; rw [if_neg (fun x => h0 x.1)])
    have hz : ((res (opF xs) n 0).1 != 0) = true := by simpa using h0
    have hz' : ((res (opF xs) n 0).1 == 0) = false := by simpa using h0
    clear hM hb h0
    generalize (res (opF xs) n 0).1 = r1 at *
    generalize (res (opF xs) n 0).2 = r2 at *
    go_wp2_with fail
    go_ret
    exact ⟨_, rfl, by rw [HV.out]; exact LI.nil _ _, HB.out⟩

/-- Where a branch goes; -1: nowhere. -/
def plcN (O : Nat → Int) (n i : Nat) (a : Int) : Int := if 0 ≤ a ∧ a < (labs O i).length then plc O n ((labs O i).getD a.toNat (-1)) else -1

set_option maxRecDepth 100000 in
set_option maxHeartbeats 2000000 in
theorem refPlace (b off n cap i A ca Lb lc : Nat) (xs : List Inx) (z : Int) (w : World) (hn : n ≤ 1048576) (hi : i < n) (hcap : n ≤ cap) (hll : (labs (opF xs) i).length ≤ 33)
    (hc : ∀ j, j < n → w.cell? ⟨b, off + j * 3, none⟩ = some (.int .u8 (opF xs j))) (hr : ∀ j, j < n → 0 ≤ opF xs j ∧ opF xs j ≤ 255) (hA : ∀ j, j < n → w.cell? ⟨A, j, none⟩ = some (.int .i64 (enF (opF xs) n j)))
    (hL : ∀ j, j < (labs (opF xs) i).length → w.cell? ⟨Lb, j, none⟩ = some (.int .i64 ((labs (opF xs) i).getD j (-1)))) (hca : n ≤ ca) (hlc : (labs (opF xs) i).length ≤ lc) :
    Calls Tryd.prog 50 #[.slice (some ⟨b, off, none⟩) n cap, .slice (some ⟨A, 0, none⟩) n ca, .slice (some ⟨Lb, 0, none⟩) (labs (opF xs) i).length lc, .int .i64 z] w fun e w' => e = .returned (.int .i64 (plcN (opF xs) n i z)) ∧ w' = w := by
  by_cases hz : 0 ≤ z ∧ z < (labs (opF xs) i).length
  · obtain ⟨k, rfl⟩ : ∃ k : Nat, z = (k : Int) := ⟨z.toNat, by omega⟩
    have hk : k < (labs (opF xs) i).length := by omega
    have hv : plcN (opF xs) n i k = plc (opF xs) n ((labs (opF xs) i).getD k (-1)) := by unfold plcN; rw [if_pos hz, Int.toNat_natCast]
    rw [hv]
    have c1 := hL k hk
    have hm : (labs (opF xs) i).getD k (-1) ∈ labs (opF xs) i := by
      rw [List.getD_eq_getElem?_getD, List.getElem?_eq_getElem hk]; exact List.getElem_mem hk
    have hqr := labs_mem _ hm
    generalize (labs (opF xs) i).getD k (-1) = q at *
    generalize (labs (opF xs) i).length = ll at *
    have hk1 : ¬ (k : Int) < 0 := by omega
    have hk2 : ¬ (ll : Int) ≤ (k : Int) := by omega
    clear hL hm hv hz
    by_cases hq : q = -1
    · subst hq
      clear hc hr hA
      go_enter Tryd.func50, Tryd.ntmps50
      go_wp2_with fail
      go_ret
      exact ⟨rfl, rfl⟩
    · obtain ⟨j, rfl⟩ : ∃ j : Nat, q = (j : Int) := ⟨q.toNat, by omega⟩
      have hj : j < n := by omega
      have hv : plc (opF xs) n (j : Int) = if opF xs j = 3 then (j : Int) + 1 else enF (opF xs) n j + 1 := by unfold plc; rw [if_neg hq, Int.toNat_natCast]
      rw [hv]
      have d1 := hc j hj
      have d2 := hA j hj
      have hcr := hr j hj
      have her := enF_range (O := opF xs) n j
      have hj0 : ¬ (j : Int) < 0 := by omega
      clear hc hr hA hv hq
      by_cases h3 : opF xs j = 3
      · rw [if_pos h3]
        rw [h3] at d1
        generalize enF (opF xs) n j = ev at *
        go_enter Tryd.func50, Tryd.ntmps50
        go_wp2_with fail
        go_ret
        exact ⟨rfl, rfl⟩
      · rw [if_neg h3]
        have h3b : (opF xs j == 3) = false := by simpa using h3
        generalize enF (opF xs) n j = ev at *
        generalize opF xs j = cj at *
        go_enter Tryd.func50, Tryd.ntmps50
        go_wp2_with fail
        go_ret
        exact ⟨rfl, rfl⟩
  · have hv : plcN (opF xs) n i z = -1 := by unfold plcN; rw [if_neg hz]
    rw [hv]
    generalize (labs (opF xs) i).length = ll at *
    clear hL hc hr hA hv
    by_cases hz0 : z < 0
    · go_enter Tryd.func50, Tryd.ntmps50
      go_wp2_with fail
      go_ret
      exact ⟨rfl, rfl⟩
    · have hz1 : (ll : Int) ≤ z := by omega
      go_enter Tryd.func50, Tryd.ntmps50
      go_wp2_with fail
      go_ret
      exact ⟨rfl, rfl⟩

/-- All places, as they are gathered. -/
def sm (O : Nat → Int) (n i : Nat) (c a : Int) (l : List Int) : List Int :=
  if c = 0 then [] else if c = 4 then [(i : Int) + 1, oth O n i] else if c = 5 then [enF O n i] else if c = 8 then [(i : Int) + 1, plcN O n i a]
  else if c = 7 then [plcN O n i a] else if c = 9 then l.map (plcN O n i) else if c = 10 then [(n : Int)] else [(i : Int) + 1]
theorem plcN_brn {O : Nat → Int} {n i : Nat} {a x : Int} (hi : i < n) (hx : 0 ≤ x) : x = plcN O n i a ↔ x ∈ brn O n i a := by
  unfold plcN brn
  split
  · simp
  · simp; omega
theorem sm_pls {O : Nat → Int} {n i : Nat} {c a : Int} {l : List Int} (hi : i < n) {x : Int} (hx : 0 ≤ x) : x ∈ sm O n i c a l ↔ x ∈ pls O n i c a l := by
  unfold sm pls
  split
  · exact Iff.rfl
  split
  · exact Iff.rfl
  split
  · exact Iff.rfl
  split
  · simp only [List.mem_cons, List.not_mem_nil, or_false, plcN_brn hi hx]
  split
  · simp only [List.mem_singleton, plcN_brn hi hx]
  split
  · simp only [List.mem_map, List.mem_flatMap]
    constructor
    · rintro ⟨z, hz, e⟩; exact ⟨z, hz, (plcN_brn hi hx).1 e.symm⟩
    · rintro ⟨z, hz, e⟩; exact ⟨z, hz, ((plcN_brn hi hx).2 e).symm⟩
  exact Iff.rfl

/-- Those of k places that are marked, rising. -/
def pick (S : List Int) (k : Nat) : List Int := ((List.range k).filter fun j : Nat => decide ((j : Int) ∈ S)).map fun j : Nat => (j : Int)
theorem pick_len (S : List Int) (k : Nat) : (pick S k).length ≤ k := by
  unfold pick
  rw [List.length_map]
  exact Nat.le_trans (List.length_filter_le _ _) (by simp)
theorem pick_succ (S : List Int) (k : Nat) : pick S (k + 1) = pick S k ++ (if (k : Int) ∈ S then [(k : Int)] else []) := by
  unfold pick
  rw [List.range_succ, List.filter_append, List.map_append]
  congr 1
  by_cases h : (k : Int) ∈ S <;> simp [h]
theorem pick_nub {O : Nat → Int} {n i : Nat} {a : Int} {l : List Int} (h : Good O n) (hi : i < n) : pick (sm O n i (O i) a l) (n + 1) = nub (pls O n i (O i) a l) := by
  obtain ⟨n1, n2⟩ := nub_facts (pls O n i (O i) a l)
  refine lt_ext ?_ n1 (fun x => ?_)
  · unfold pick
    have h1 : ((List.range (n + 1)).filter fun j : Nat => decide ((j : Int) ∈ sm O n i (O i) a l)).Pairwise (· < ·) := List.Pairwise.filter _ List.pairwise_lt_range
    exact List.pairwise_map.2 (h1.imp (fun h => by omega))
  · rw [n2]
    unfold pick
    simp only [List.mem_map, List.mem_filter, List.mem_range, decide_eq_true_eq]
    constructor
    · rintro ⟨j, ⟨_, hj⟩, rfl⟩
      exact (sm_pls hi (by omega)).1 hj
    · intro hx
      have hr := pls_range h hi x hx
      exact ⟨x.toNat, ⟨by omega, by rw [Int.toNat_of_nonneg hr.1]; exact (sm_pls hi hr.1).2 hx⟩, by omega⟩

/-- A list of marks. -/
def flB (n : Nat) (f : Nat → Bool) : List Value := (List.range n).map fun i => Value.bool (f i)
theorem flB_len (n : Nat) (f : Nat → Bool) : (flB n f).length = n := by simp [flB]
theorem flB_get (n : Nat) (f : Nat → Bool) (i : Nat) (h : i < n) : (flB n f)[i]? = some (.bool (f i)) := by simp [flB, h]
theorem flB_congr {n : Nat} {f g : Nat → Bool} (h : ∀ i, i < n → f i = g i) : flB n f = flB n g := by
  unfold flB; apply List.map_congr_left; intro i hi; rw [h i (by simpa using hi)]
theorem flB_set {n : Nat} {f : Nat → Bool} {t : Nat} {v : Bool} {g : Nat → Bool} (h : ∀ i, i < n → g i = if i = t then v else f i) : (flB n f).set t (.bool v) = flB n g := by
  apply List.ext_getElem?
  intro j
  by_cases hj : j < n
  · rw [flB_get n g j hj, h j hj]
    by_cases e : j = t
    · subst e
      rw [if_pos rfl, List.getElem?_set_self (by rw [flB_len]; exact hj)]
    · rw [if_neg e, List.getElem?_set_ne (fun x => e x.symm), flB_get n f j hj]
  · rw [List.getElem?_eq_none (by rw [List.length_set, flB_len]; omega), List.getElem?_eq_none (by rw [flB_len]; omega)]
/-- Block B holds the marks f. -/
def RB (w : World) (B n : Nat) (f : Nat → Bool) : Prop := Row w 4 B n n (flB n f)
theorem RB.cell {w : World} {B n : Nat} {f : Nat → Bool} (h : RB w B n f) (i : Nat) (hi : i < n) : w.cell? ⟨B, i, none⟩ = some (.bool (f i)) := (Row.cell h i hi).trans (flB_get n f i hi)
theorem RB.put {w : World} {B n : Nat} {f g : Nat → Bool} (h : RB w B n f) (t : Nat) (v : Bool) (e : ∀ i, i < n → g i = if i = t then v else f i) : RB (w.setCell ⟨B, t, none⟩ (.bool v)) B n g ∧ Kept (fun k => k = B) w (w.setCell ⟨B, t, none⟩ (.bool v)) := by
  have := Row.put h t (.bool v)
  rw [flB_set e] at this
  exact this
theorem RB.congr {w : World} {B n : Nat} {f g : Nat → Bool} (h : RB w B n f) (e : ∀ i, i < n → g i = f i) : RB w B n g := by
  unfold RB; rw [flB_congr e]; exact h
theorem Tryd.infBool : (Tryd.prog.info? 4).map (fun i => (i.zero, i.size, i.bytes)) = some (some (.bool false), 1, 1) := by kernel_rfl

/-- What the gathering stands on. -/
structure Nf (w4 : World) (O : Nat → Int) (b off n A ca B cb Cn Lb lc i Xb : Nat) (xs : List Inx) (x : Inx) : Prop where
  hO : O = opF xs
  cod : ∀ j, j < n → w4.cell? ⟨b, off + j * 3, none⟩ = some (.int .u8 (opF xs j))
  rng : ∀ j, j < n → 0 ≤ opF xs j ∧ opF xs j ≤ 255
  en : ∀ j, j < n → w4.cell? ⟨A, j, none⟩ = some (.int .i64 (enF O n j))
  el : ∀ j, j < n → w4.cell? ⟨B, j, none⟩ = some (.int .i64 (elF O n j))
  lab : ∀ j, j < (labs O i).length → w4.cell? ⟨Lb, j, none⟩ = some (.int .i64 ((labs O i).getD j (-1)))
  can : RB w4 Cn (n + 1) (fun _ => false)
  x0 : w4.cell? ⟨Xb, 0, none⟩ = some (.int .u8 x.c)
  x1 : w4.cell? ⟨Xb, 1, none⟩ = some (.int .i64 x.a)
  x2 : w4.cell? ⟨Xb, 2, none⟩ = some (.slice x.la x.ln x.lc)
  seg : SegI w4 x.la x.ln x.lc x.l
  lb : b < w4.heap.size
  lA : A < w4.heap.size
  lB : B < w4.heap.size
  lC : Cn < w4.heap.size
  lL : Lb < w4.heap.size
  lX : Xb < w4.heap.size
  ll : (labs O i).length ≤ 33
  hca : n ≤ ca
  hlc : (labs O i).length ≤ lc

/-- place, at a later world. -/
theorem Nf.place {w4 W : World} {O : Nat → Int} {b off n A ca B cb Cn Lb lc i Xb cap : Nat} {xs : List Inx} {x : Inx} (F : Nf w4 O b off n A ca B cb Cn Lb lc i Xb xs x) (hn : n ≤ 1048576) (hi : i < n) (hcap : n ≤ cap) (hW : Below w4.heap.size w4 W) (z : Int) :
    Calls Tryd.prog 50 #[.slice (some ⟨b, off, none⟩) n cap, .slice (some ⟨A, 0, none⟩) n ca, .slice (some ⟨Lb, 0, none⟩) (labs O i).length lc, .int .i64 z] W fun e w' => e = .returned (.int .i64 (plcN O n i z)) ∧ w' = W := by
  have hO := F.hO
  subst hO
  exact refPlace b off n cap i A ca Lb lc xs z W hn hi hcap F.ll (fun j hj => (hW.cell (by exact F.lb)).trans (F.cod j hj)) F.rng (fun j hj => (hW.cell (by exact F.lA)).trans (F.en j hj)) (fun j hj => (hW.cell (by exact F.lL)).trans (F.lab j hj)) F.hca F.hlc

theorem take_mem {S : List Int} {k : Nat} (hk : k < S.length) (x : Int) : x ∈ S.take (k + 1) ↔ x ∈ S.take k ∨ x = S.getD k 0 := by
  rw [List.take_succ_eq_append_getElem hk, List.mem_append, List.mem_singleton, List.getD_eq_getElem?_getD, List.getElem?_eq_getElem hk]
  exact Iff.rfl

theorem plcN_range {O : Nat → Int} {n i : Nat} {a : Int} (hi : i < n) : -1 ≤ plcN O n i a ∧ plcN O n i a ≤ n := by
  unfold plcN
  split
  · next h =>
    have hl : a.toNat < (labs O i).length := by omega
    have hm : (labs O i).getD a.toNat (-1) ∈ labs O i := by
      rw [List.getD_eq_getElem?_getD, List.getElem?_eq_getElem hl]; exact List.getElem_mem hl
    have := labs_mem _ hm
    have := plc_range (O := O) (n := n) (q := (labs O i).getD a.toNat (-1)) (by omega) (by omega)
    omega
  · omega

theorem nf_end {w w4 wy wx w9 : World} {Cn n j : Nat} {xs : List Inx} {x : Inx} {SS : List Int} {v : Value} (hx : xs.getD j dx = x) (hg : Good (opF xs) n) (hj : j < n) (hS : SS = sm (opF xs) n j x.c x.a x.l) (hOx : opF xs j = x.c) (hL : LI w9 wx.heap.size v (pick SS (n + 1))) (hb9 : Below wx.heap.size wx w9) (hk : Kept (fun b => b = Cn) wy wx) (hby : Below w4.heap.size w4 wy) (hb4 : Below w.heap.size w w4) (hC : Cn < w4.heap.size) (hCw : w.heap.size ≤ Cn) :
    ∃ v', Ending.returned v = .returned v' ∧ LI w9 w.heap.size v' (nub (pls (opF xs) n j (xs.getD j dx).c (xs.getD j dx).a (xs.getD j dx).l)) ∧ Below w.heap.size w w9 := by
  have h1 : Below w.heap.size w wy := hb4.trans (hby.mono hb4.size)
  have h2 : Below w.heap.size w wx := below_kept h1 hk h1.size (fun k hx => by omega)
  refine ⟨v, rfl, ?_, h2.trans (hb9.mono h2.size)⟩
  have e := pick_nub (a := x.a) (l := x.l) hg hj
  rw [hOx] at e
  rw [hx, ← e, ← hS]
  exact hL.mono h2.size

set_option maxRecDepth 100000 in
set_option maxHeartbeats 8000000 in
theorem refNext_in (b off n cap : Nat) (xs : List Inx) (j : Nat) (w : World) (hn : n ≤ 100000) (hcap : n ≤ cap) (hc : Cod w b off n xs) (hj : j < n) (h0 : (res (opF xs) n 0).1 = 0) (hln : (xs.getD j dx).ln ≤ 100000) :
    Calls Tryd.prog 18 #[.slice (some ⟨b, off, none⟩) n cap, .int .i64 j] w fun e w' => ∃ v, e = .returned v ∧ LI w' w.heap.size v (nub (pls (opF xs) n j (xs.getD j dx).c (xs.getD j dx).a (xs.getD j dx).l)) ∧ Below w.heap.size w w' := by
  obtain ⟨i0, hi, hz0, hz1, hz2⟩ := info_parts Tryd.infBool
  have hb2 : i0.bytes * (n + 1) ≤ 281474976710656 := by rw [hz2]; omega
  have hml : n + 1 ≤ maxLen := by unfold maxLen; omega
  have hcs : CodS w (some ⟨b, off, none⟩) n xs := ⟨hc.1, .inr ⟨b, off, rfl, hc⟩⟩
  have H1 := hid (refMap (some ⟨b, off, none⟩) n cap xs w (by omega) hcap hcs)
  have HC := hid hc
  have HCS := hid hcs
  have hbl := hc.lt (by omega)
  have HG := hid (res_good h0)
  clear hc hcs
  go_enter Tryd.func18, Tryd.ntmps18
  go_wp2_with fail
  refine H1.out.mono ?_
  rintro e w1 ⟨a1, a2, a3, n1, n2, n3, c1, c2, c3, rfl, hM, hb1⟩
  rcases hM with ⟨hx, _⟩ | ⟨hr, y1, y2, y3⟩
  · exact absurd h0 hx
  obtain ⟨m1, A, rfl, gA, lA, kA⟩ := li_cells y1 (by omega)
  obtain ⟨m2, B, rfl, gB, lB, kB⟩ := li_cells y2 (by omega)
  have hca : n ≤ c1 := by
    have h1 := y1.2
    rcases h1 with ⟨h1, _⟩ | ⟨g, cp, cur, h1, _, _, h4, _⟩
    · cases h1
    · injection h1 with _ _ h3; simp at h4; omega
  have m1s := m1.symm
  have m2s := m2.symm
  subst m1s
  subst m2s
  have hz : ((res (opF xs) n 0).1 != 0) = false := by rw [h0]; rfl
  have hz' : ((res (opF xs) n 0).1 == 0) = true := by rw [h0]; rfl
  have hp1 : ¬ (j : Int) < 0 := by omega
  have hjd : decide ((j : Int) < 0) = false := by simp
  have hnd : decide (n ≤ j) = false := by simp; omega
  have hnd2 : decide ((n : Int) ≤ (j : Int)) = false := by simp; omega
  have hp2 : ¬ (n : Int) ≤ (j : Int) := by omega
  have hs1 := hb1.size
  have HB1 := hid hb1
  have KA := hid kA
  have KB := hid kB
  clear hr y1 y2 y3 kA kB hb1
  generalize (res (opF xs) n 0).1 = r1 at *
  generalize (res (opF xs) n 0).2 = r2 at *
  go_wp2_with (first | (at_make; refine wpList_make_full _ rfl _ _ 74 rfl w1.heap.size 4 i0 (.bool false) 1 Tryd.underlying74 hi hz0 hz1 .i64 .i64 _ _ (n + 1) rfl rfl (by omega) (by omega) hb2 hml (Nat.le_refl _) ?_; intro w2 hown hgrow))
  have hrb2 : RB w2 w1.heap.size (n + 1) (fun _ => false) := by
    have e : (madeCells (Value.bool false).cells ((n + 1) * 1)).toList = flB (n + 1) (fun _ => false) := by
      rw [Nat.mul_one]; refine (toList_madeCells_one _ _).trans ?_
      apply List.ext_getElem?
      intro q
      by_cases hq : q < n + 1
      · rw [flB_get (n + 1) _ q hq]; simp [hq]
      · rw [List.getElem?_eq_none (by simp; omega), List.getElem?_eq_none (by rw [flB_len]; omega)]
    unfold RB
    rw [← e]; exact Row.of hown
  have hb2' : Below w1.heap.size w1 w2 := (Below.refl _ _).grown hgrow (Nat.le_refl _) (by simp)
  have hs2 := hb2'.size
  have hb02 : Below w.heap.size w w2 := HB1.out.trans (hb2'.mono hs1)
  have HL := hid (refLabels (some ⟨b, off, none⟩) n cap xs j w2 (by omega) hcap (HCS.out.later hb02 (Nat.le_refl _)))
  have hlv : labV (opF xs) n j = labs (opF xs) j := by unfold labV; rw [if_pos ⟨by rw [res_good_back HG.out], by omega, by omega⟩, Int.toNat_natCast]
  rw [hlv] at HL
  have HRB2 := hid hrb2
  have HB2 := hid hb2'
  have HB02 := hid hb02
  clear hown hgrow hi hz0 hz1 hz2 hb2 hml hrb2 hb2' hb02 hlv
  go_wp2_with fail
  refine HL.out.mono ?_
  rintro e w3 ⟨lv, rfl, hli, hb3⟩
  obtain ⟨la, lc, rfl⟩ := hli.slice
  have hll := labs_len (good_okp HG.out hj)
  have hl1 : 0 < (labs (opF xs) j).length := by simp [labs]
  obtain ⟨-, hlc⟩ := hli.cell
  obtain ⟨Lb, rfl, hlab⟩ := hlc.resolve_left (by omega)
  have hLb : w2.heap.size ≤ Lb ∧ Lb < w3.heap.size := LI.block hli rfl
  have hlcc : (labs (opF xs) j).length ≤ lc := by
    rcases hli.2 with ⟨h1, _⟩ | ⟨g, cp, cur, h1, _, _, h4, _⟩
    · cases h1
    · injection h1 with _ _ h3; omega
  have hs3 := hb3.size
  have lCn : w1.heap.size < w2.heap.size := Row.lt HRB2.out
  obtain ⟨⟨cx, ax, xa, xn, xc, xl⟩, hx⟩ : ∃ x, xs.getD j dx = x := ⟨_, rfl⟩
  obtain ⟨ox, hox⟩ : ∃ ox, ox = Obj.cells #[Value.int .u8 cx, .int .i64 ax, .slice xa xn xc] 57 := ⟨_, rfl⟩
  have hb4 := (Below.refl w3.heap.size w3).alloc (Nat.le_refl _) ox
  have h24 : Below w2.heap.size w2 (w3.alloc ox) := hb3.trans (hb4.mono hs3)
  have h14 : Below w1.heap.size w1 (w3.alloc ox) := HB2.out.trans (h24.mono hs2)
  have h04 : Below w.heap.size w (w3.alloc ox) := HB1.out.trans (h14.mono hs1)
  have cod4 := HC.out.later h04 (Nat.le_refl _)
  have hs4 : (w3.alloc ox).heap.size = w3.heap.size + 1 := by simp
  have hOx : opF xs j = cx := by unfold opF; rw [hx]
  have hcr := cod4.range hj
  have hin := cod4.2 j hj
  rw [hx] at hin hln
  simp only at hln
  have hsg : SegI (w3.alloc ox) xa xn xc xl := hin.2.2.2.2.2.2.2.2 hln
  have F : Nf (w3.alloc ox) (opF xs) b off n A c1 B c2 w1.heap.size Lb lc j w3.heap.size xs ⟨cx, ax, xa, xn, xc, xl⟩ :=
    { hO := rfl, cod := fun q hq => cod4.op hq, rng := fun q hq => cod4.range hq
      en := fun q hq => (h14.cell (by exact lA)).trans (KA.out q hq)
      el := fun q hq => (h14.cell (by exact lB)).trans (KB.out q hq)
      lab := fun q hq => (hb4.cell (by exact hLb.2)).trans ((hlab q hq).trans (by rw [List.getD_eq_getElem?_getD, List.getD_eq_getElem?_getD, List.getElem?_eq_getElem hq]; rfl))
      can := Row.keep HRB2.out (h24.block _ lCn)
      x0 := by rw [hox, World.cell?_alloc_new]; rfl
      x1 := by rw [hox, World.cell?_alloc_new]; rfl
      x2 := by rw [hox, World.cell?_alloc_new]; rfl
      seg := hsg
      lb := by omega, lA := by omega, lB := by omega, lC := by omega, lL := by omega, lX := by omega, ll := hll, hca := hca, hlc := hlcc }
  have cod3 := (HC.out.later HB02.out (Nat.le_refl _)).later hb3 (Nat.le_refl _)
  have g0 := cod3.op hj
  have g1 := cod3.num hj
  have g2 := cod3.lab hj
  rw [hOx] at g0 hcr
  rw [hx] at g1 g2
  simp only at g1 g2
  have hCg : w.heap.size ≤ w1.heap.size := hs1
  have HF := hid F
  have HX := hid hx
  have HB4 := hid h04
  have HOX := hid hOx
  have x0 := F.x0
  have x1 := F.x1
  have x2 := F.x2
  have f1 := F.en j hj
  have f2 := F.el j hj
  have hrr1 := enF_range (O := opF xs) n j
  have hrr2 := elF_range (O := opF xs) n j
  simp only at x0 x1 x2
  clear F hli hb3 hb4 h24 h14 h04 cod4 cod3 hin hsg hlab hlc KA KB HB1 HB2 HB02 HRB2 H1 hx hlcc
  obtain ⟨Cn, hCn⟩ : ∃ Cn, w1.heap.size = Cn := ⟨_, rfl⟩
  rw [hCn] at HF hCg
  by_cases h_0 : cx = 0
  · subst h_0
    subst hox
    generalize hw4 : w3.alloc (Obj.cells #[Value.int .u8 0, .int .i64 ax, .slice xa xn xc] 57) = w4 at *
    clear hs4
    have HBY := hid (Below.refl w4.heap.size w4)
    have HRB := hid (show RB w4 Cn (n + 1) (fun q => decide ((q : Int) ∈ ([] : List Int))) from HF.out.can.congr (fun i _ => by simp))
    have HKP := hid (Kept.refl (fun b => b = Cn) w4)
    go_wp2_with fail
    refine wp_loop_rounds 1 ?_
    rw [rounds_succ]
    go_wp2_with fail
    go_loopw [16, 17] (fun v p wr => ∃ k : Nat, k ≤ n + 1 ∧ p = .int .i64 k ∧ LI wr w4.heap.size v (pick [] k) ∧ Below w4.heap.size w4 wr) (fun _ p _ => n + 1 - (intOf p).toNat)
    case atStart => exact ⟨0, by omega, rfl, (by rw [show pick [] 0 = [] from rfl]; exact LI.nil _ _), Below.refl _ _⟩
    case round =>
      obtain ⟨k, hk, rfl, hli, hbr⟩ := hrel
      obtain ⟨la, lc2, rfl⟩ := hli.slice
      have hsz := hbr.size
      have hpl := pick_len [] k
      have hps := pick_succ [] k
      by_cases hlt : k < n + 1
      · have g0 := (hbr.cell (p := ⟨Cn, k, none⟩) (by have := HF.out.lC; have := HKP.out.size; simp only; omega)).trans (HRB.out.cell k hlt)
        have hlt' : (k : Int) < (n : Int) + 1 := by omega
        by_cases hm : (k : Int) ∈ ([] : List Int)
        · rw [decide_eq_true hm] at g0
          rw [if_pos hm] at hps
          have HPS := hid hps
          have HLI := hid (hli.later ((Below.refl wr.heap.size wr).alloc (Nat.le_refl _) (.cells #[.int .i64 (k : Int)] 3)) (Nat.le_refl _))
          have HBR := hid (hbr.alloc hsz (.cells #[.int .i64 (k : Int)] 3))
          have hsa : w4.heap.size ≤ (wr.alloc (.cells #[.int .i64 (k : Int)] 3)).heap.size := by simp; omega
          have hpl2 : (pick [] k).length ≤ 1073741824 := by omega
          clear hli hbr hm hps hpl
          generalize hpk : pick [] k = pk at *
          go_wp2_with (first
            | (at_builtin; refine app_int _ rfl (.tmp 176) (.tmp 178) rfl w4.heap.size _ pk rfl HLI.out hsa ⟨wr.heap.size, 0, none⟩ k rfl (by simp [Addr.add]) hpl2 ?_; intro B1 cap1 w2 hL2 hB2 hb2; have HL2 := hid hL2; have HB2 := hid (HBR.out.trans hb2); clear hL2 hb2))
          exact ⟨⟨k + 1, by omega, by go_num, by rw [HPS.out]; exact HL2.out, HB2.out⟩, by simp [intOf]; omega⟩
        · rw [decide_eq_false hm] at g0
          rw [if_neg hm, List.append_nil] at hps
          have HPS := hid hps
          have HLI := hid hli
          have HBR := hid hbr
          clear hli hbr hm hps hpl
          generalize hpk : pick [] k = pk at *
          go_wp2_with fail
          exact ⟨⟨k + 1, by omega, by go_num, by rw [HPS.out]; exact HLI.out, HBR.out⟩, by simp [intOf]; omega⟩
      · obtain rfl : n + 1 = k := by omega
        have HLI := hid hli
        have HBR := hid hbr
        have hlt' : ¬ ((n + 1 : Nat) : Int) < (n : Int) + 1 := by omega
        clear hli hbr hps hpl
        go_wp2_with fail
        go_ret
        exact nf_end HX.out HG.out hj (by simp [sm]) HOX.out HLI.out HBR.out HKP.out HBY.out HB4.out HF.out.lC hCg
  by_cases h_4 : cx = 4
  · subst h_4
    by_cases hel : elF (opF xs) n j = -1
    · have HEL := hid hel
      subst hox
      generalize hw4 : w3.alloc (Obj.cells #[Value.int .u8 4, .int .i64 ax, .slice xa xn xc] 57) = w4 at *
      clear hs4
      rw [hel] at f2
      have hal0 : w4.heap.size ≤ (w4.alloc (.cells #[.int .i64 ((j : Int) + 1)] 3)).heap.size := by simp
      have HBA0 := hid ((Below.refl w4.heap.size w4).alloc (Nat.le_refl _) (.cells #[.int .i64 ((j : Int) + 1)] 3))
      have HLA0 := hid (LI.nil (w4.alloc (.cells #[.int .i64 ((j : Int) + 1)] 3)) w4.heap.size)
      go_wp2_with (first
        | (at_builtin; refine app_ints _ rfl (.tmp 60) (.tmp 63) rfl w4.heap.size _ ([]) rfl HLA0.out hal0 ⟨w4.heap.size, 0, none⟩ [(j : Int) + 1] 1 1 rfl rfl (cells1 (by simp [Addr.add])) (by simp) ?_; intro a1 k1 s1 wy1 hk1 hL1 hb1; have HLY1 := hid hL1; have HBY1 := hid (HBA0.out.trans hb1); have HK1 := hid hk1; clear hL1 hb1 hk1; have hal1 : w4.heap.size ≤ (wy1.alloc (.cells #[.int .i64 (enF (opF xs) n j)] 3)).heap.size := (by have := HBY1.out.size; simp; omega); have HBA1 := hid (HBY1.out.alloc HBY1.out.size (.cells #[.int .i64 (enF (opF xs) n j)] 3)); have HLA1 := hid (HLY1.out.later ((Below.refl wy1.heap.size wy1).alloc (Nat.le_refl _) (.cells #[.int .i64 (enF (opF xs) n j)] 3)) (Nat.le_refl _)); have x1y := (HBY1.out.cell (p := ⟨w3.heap.size, 1, none⟩) (by exact HF.out.lX)).trans x1; have f1y := (HBY1.out.cell (p := ⟨A, j, none⟩) (by exact HF.out.lA)).trans f1; have f2y := (HBY1.out.cell (p := ⟨B, j, none⟩) (by exact HF.out.lB)).trans f2)
        | (at_builtin; refine app_ints _ rfl (.tmp 78) (.tmp 83) rfl w4.heap.size _ ([] ++ [(j : Int) + 1]) rfl HLA1.out hal1 ⟨wy1.heap.size, 0, none⟩ [enF (opF xs) n j] 1 1 rfl rfl (cells1 (by simp [Addr.add])) (by simp) ?_; intro a2 k2 s2 wy2 hk2 hL2 hb2; have HLY2 := hid hL2; have HBY2 := hid (HBA1.out.trans hb2); have HK2 := hid hk2; clear hL2 hb2 hk2))
      have HL8 := HLY2
      have HBY := HBY2
      obtain ⟨SS, hSS⟩ : ∃ SS, ([] ++ [(j : Int) + 1] ++ [enF (opF xs) n j]) = SS := ⟨_, rfl⟩
      rw [hSS] at HL8
      have HSS := hid hSS
      have hsr : ∀ z ∈ SS, z ≤ n := by rw [← hSS]; exact (fun q hq => by simp at hq; omega)
      have HSR := hid hsr
      obtain ⟨hsl, hsc⟩ := HL8.out.cell
      have hslb : SS.length ≤ 200000 := by rw [← hSS]; simp
      have HSC := hid hsc
      have hwys := HBY.out.size
      have hcan : RB wy2 Cn (n + 1) (fun q => decide ((q : Int) ∈ SS.take 0)) := by
        have h1 : RB wy2 Cn (n + 1) (fun _ => false) := Row.keep HF.out.can (HBY.out.block _ HF.out.lC)
        exact h1.congr (fun i _ => by simp)
      have HCAN := hid hcan
      have hsk := hsl
      subst hsl
      clear hSS hsr hsc hcan
      go_wp2_with fail
      go_loopw [15] (fun p wr => ∃ k : Nat, k ≤ SS.length ∧ p = .int .i64 k ∧ RB wr Cn (n + 1) (fun q => decide ((q : Int) ∈ SS.take k)) ∧ Kept (fun b => b = Cn) wy2 wr) (fun p _ => SS.length - (intOf p).toNat)
      case atStart => exact ⟨0, by omega, rfl, HCAN.out, Kept.refl _ _⟩
      case round =>
        obtain ⟨k, hk, rfl, hrb, hkp⟩ := hrel
        clear HCAN
        by_cases hlt : k < SS.length
        · obtain ⟨Sb, rfl, hcell⟩ := HSC.out.resolve_left (by omega)
          have hSb : w4.heap.size ≤ Sb := (LI.block HL8.out rfl).1
          have hCS : ¬ Sb = Cn := by have := HF.out.lC; omega
          have g0 := hkp.cell (hcell k hlt) hCS
          have hzm : SS.getD k 0 ∈ SS := by rw [List.getD_eq_getElem?_getD, List.getElem?_eq_getElem hlt]; exact List.getElem_mem hlt
          have hzr := HSR.out _ hzm
          have htm := take_mem hlt
          by_cases hz : 0 ≤ SS.getD k 0
          · obtain ⟨t, ht⟩ : ∃ t : Nat, SS.getD k 0 = (t : Int) := ⟨(SS.getD k 0).toNat, by omega⟩
            have P := hrb.put (g := fun q => decide ((q : Int) ∈ SS.take (k + 1))) t true (fun i hi => by
              by_cases e : i = t
              · subst e
                rw [if_pos rfl, decide_eq_true ((htm _).2 (.inr ht.symm))]
              · rw [if_neg e]
                have : ((i : Int) ∈ SS.take (k + 1)) ↔ ((i : Int) ∈ SS.take k) := by rw [htm, ht]; constructor; (rintro (h | h); exact h; omega); exact .inl
                simp only [this])
            rw [ht] at g0 hzr
            have q0 := hrb.cell t (by omega)
            have r0 := Row.free hrb t
            have HP := hid (show RB _ Cn (n + 1) _ ∧ Kept (fun b => b = Cn) wy2 _ from ⟨P.1, hkp.trans P.2⟩)
            clear P hrb hkp hzm htm ht hz hcell
            have htn : (t : Int) < (n : Int) + 1 := by omega
            have ht0 : (0 : Int) ≤ (t : Int) := by omega
            go_wp2_with fail
            exact ⟨⟨k + 1, by omega, by go_num, HP.out.1, HP.out.2⟩, by simp [intOf]; omega⟩
          · have hz' : SS.getD k 0 < 0 := by omega
            have HP := hid (show RB wr Cn (n + 1) (fun q => decide ((q : Int) ∈ SS.take (k + 1))) ∧ Kept (fun b => b = Cn) wy2 wr from ⟨hrb.congr (fun i hi => by
              have : ((i : Int) ∈ SS.take (k + 1)) ↔ ((i : Int) ∈ SS.take k) := by rw [htm]; constructor; (rintro (h | h); exact h; omega); exact .inl
              simp only [this]), hkp⟩)
            generalize SS.getD k 0 = z at *
            clear hrb hkp hzm htm hcell
            go_wp2_with fail
            exact ⟨⟨k + 1, by omega, by go_num, HP.out.1, HP.out.2⟩, by simp [intOf]; omega⟩
        · obtain rfl : SS.length = k := by omega
          rw [List.take_of_length_le (Nat.le_refl _)] at hrb
          have HRB := hid hrb
          have HKP := hid hkp
          clear hrb hkp
          generalize wr = wx at *
          go_wp2_with fail
          go_loopw [16, 17] (fun v p wr => ∃ k : Nat, k ≤ n + 1 ∧ p = .int .i64 k ∧ LI wr wx.heap.size v (pick SS k) ∧ Below wx.heap.size wx wr) (fun _ p _ => n + 1 - (intOf p).toNat)
          case atStart => exact ⟨0, by omega, rfl, (by rw [show pick SS 0 = [] from rfl]; exact LI.nil _ _), Below.refl _ _⟩
          case round =>
            obtain ⟨k, hk, rfl, hli, hbr⟩ := hrel
            obtain ⟨la, lc2, rfl⟩ := hli.slice
            have hsz := hbr.size
            have hpl := pick_len SS k
            have hps := pick_succ SS k
            by_cases hlt : k < n + 1
            · have g0 := (hbr.cell (p := ⟨Cn, k, none⟩) (by have := HF.out.lC; have := HKP.out.size; simp only; omega)).trans (HRB.out.cell k hlt)
              have hlt' : (k : Int) < (n : Int) + 1 := by omega
              by_cases hm : (k : Int) ∈ SS
              · rw [decide_eq_true hm] at g0
                rw [if_pos hm] at hps
                have HPS := hid hps
                have HLI := hid (hli.later ((Below.refl wr.heap.size wr).alloc (Nat.le_refl _) (.cells #[.int .i64 (k : Int)] 3)) (Nat.le_refl _))
                have HBR := hid (hbr.alloc hsz (.cells #[.int .i64 (k : Int)] 3))
                have hsa : wx.heap.size ≤ (wr.alloc (.cells #[.int .i64 (k : Int)] 3)).heap.size := by simp; omega
                have hpl2 : (pick SS k).length ≤ 1073741824 := by omega
                clear hli hbr hm hps hpl
                generalize hpk : pick SS k = pk at *
                go_wp2_with (first
                  | (at_builtin; refine app_int _ rfl (.tmp 176) (.tmp 178) rfl wx.heap.size _ pk rfl HLI.out hsa ⟨wr.heap.size, 0, none⟩ k rfl (by simp [Addr.add]) hpl2 ?_; intro B1 cap1 w2 hL2 hB2 hb2; have HL2 := hid hL2; have HB2 := hid (HBR.out.trans hb2); clear hL2 hb2))
                exact ⟨⟨k + 1, by omega, by go_num, by rw [HPS.out]; exact HL2.out, HB2.out⟩, by simp [intOf]; omega⟩
              · rw [decide_eq_false hm] at g0
                rw [if_neg hm, List.append_nil] at hps
                have HPS := hid hps
                have HLI := hid hli
                have HBR := hid hbr
                clear hli hbr hm hps hpl
                generalize hpk : pick SS k = pk at *
                go_wp2_with fail
                exact ⟨⟨k + 1, by omega, by go_num, by rw [HPS.out]; exact HLI.out, HBR.out⟩, by simp [intOf]; omega⟩
            · obtain rfl : n + 1 = k := by omega
              have HLI := hid hli
              have HBR := hid hbr
              have hlt' : ¬ ((n + 1 : Nat) : Int) < (n : Int) + 1 := by omega
              clear hli hbr hps hpl
              go_wp2_with fail
              go_ret
              exact nf_end HX.out HG.out hj (HSS.out.symm.trans (by simp [sm, oth, HEL.out])) HOX.out HLI.out HBR.out HKP.out HBY.out HB4.out HF.out.lC hCg
    · have HEL := hid hel
      subst hox
      generalize hw4 : w3.alloc (Obj.cells #[Value.int .u8 4, .int .i64 ax, .slice xa xn xc] 57) = w4 at *
      clear hs4
      have hge : 0 ≤ elF (opF xs) n j := by omega
      have hal0 : w4.heap.size ≤ (w4.alloc (.cells #[.int .i64 ((j : Int) + 1)] 3)).heap.size := by simp
      have HBA0 := hid ((Below.refl w4.heap.size w4).alloc (Nat.le_refl _) (.cells #[.int .i64 ((j : Int) + 1)] 3))
      have HLA0 := hid (LI.nil (w4.alloc (.cells #[.int .i64 ((j : Int) + 1)] 3)) w4.heap.size)
      go_wp2_with (first
        | (at_builtin; refine app_ints _ rfl (.tmp 60) (.tmp 63) rfl w4.heap.size _ ([]) rfl HLA0.out hal0 ⟨w4.heap.size, 0, none⟩ [(j : Int) + 1] 1 1 rfl rfl (cells1 (by simp [Addr.add])) (by simp) ?_; intro a1 k1 s1 wy1 hk1 hL1 hb1; have HLY1 := hid hL1; have HBY1 := hid (HBA0.out.trans hb1); have HK1 := hid hk1; clear hL1 hb1 hk1; have hal1 : w4.heap.size ≤ (wy1.alloc (.cells #[.int .i64 (elF (opF xs) n j + 1)] 3)).heap.size := (by have := HBY1.out.size; simp; omega); have HBA1 := hid (HBY1.out.alloc HBY1.out.size (.cells #[.int .i64 (elF (opF xs) n j + 1)] 3)); have HLA1 := hid (HLY1.out.later ((Below.refl wy1.heap.size wy1).alloc (Nat.le_refl _) (.cells #[.int .i64 (elF (opF xs) n j + 1)] 3)) (Nat.le_refl _)); have x1y := (HBY1.out.cell (p := ⟨w3.heap.size, 1, none⟩) (by exact HF.out.lX)).trans x1; have f1y := (HBY1.out.cell (p := ⟨A, j, none⟩) (by exact HF.out.lA)).trans f1; have f2y := (HBY1.out.cell (p := ⟨B, j, none⟩) (by exact HF.out.lB)).trans f2)
        | (at_builtin; refine app_ints _ rfl (.tmp 70) (.tmp 76) rfl w4.heap.size _ ([] ++ [(j : Int) + 1]) rfl HLA1.out hal1 ⟨wy1.heap.size, 0, none⟩ [elF (opF xs) n j + 1] 1 1 rfl rfl (cells1 (by simp [Addr.add])) (by simp) ?_; intro a2 k2 s2 wy2 hk2 hL2 hb2; have HLY2 := hid hL2; have HBY2 := hid (HBA1.out.trans hb2); have HK2 := hid hk2; clear hL2 hb2 hk2))
      have HL8 := HLY2
      have HBY := HBY2
      obtain ⟨SS, hSS⟩ : ∃ SS, ([] ++ [(j : Int) + 1] ++ [elF (opF xs) n j + 1]) = SS := ⟨_, rfl⟩
      rw [hSS] at HL8
      have HSS := hid hSS
      have hsr : ∀ z ∈ SS, z ≤ n := by rw [← hSS]; exact (fun q hq => by simp at hq; omega)
      have HSR := hid hsr
      obtain ⟨hsl, hsc⟩ := HL8.out.cell
      have hslb : SS.length ≤ 200000 := by rw [← hSS]; simp
      have HSC := hid hsc
      have hwys := HBY.out.size
      have hcan : RB wy2 Cn (n + 1) (fun q => decide ((q : Int) ∈ SS.take 0)) := by
        have h1 : RB wy2 Cn (n + 1) (fun _ => false) := Row.keep HF.out.can (HBY.out.block _ HF.out.lC)
        exact h1.congr (fun i _ => by simp)
      have HCAN := hid hcan
      have hsk := hsl
      subst hsl
      clear hSS hsr hsc hcan
      go_wp2_with fail
      go_loopw [15] (fun p wr => ∃ k : Nat, k ≤ SS.length ∧ p = .int .i64 k ∧ RB wr Cn (n + 1) (fun q => decide ((q : Int) ∈ SS.take k)) ∧ Kept (fun b => b = Cn) wy2 wr) (fun p _ => SS.length - (intOf p).toNat)
      case atStart => exact ⟨0, by omega, rfl, HCAN.out, Kept.refl _ _⟩
      case round =>
        obtain ⟨k, hk, rfl, hrb, hkp⟩ := hrel
        clear HCAN
        by_cases hlt : k < SS.length
        · obtain ⟨Sb, rfl, hcell⟩ := HSC.out.resolve_left (by omega)
          have hSb : w4.heap.size ≤ Sb := (LI.block HL8.out rfl).1
          have hCS : ¬ Sb = Cn := by have := HF.out.lC; omega
          have g0 := hkp.cell (hcell k hlt) hCS
          have hzm : SS.getD k 0 ∈ SS := by rw [List.getD_eq_getElem?_getD, List.getElem?_eq_getElem hlt]; exact List.getElem_mem hlt
          have hzr := HSR.out _ hzm
          have htm := take_mem hlt
          by_cases hz : 0 ≤ SS.getD k 0
          · obtain ⟨t, ht⟩ : ∃ t : Nat, SS.getD k 0 = (t : Int) := ⟨(SS.getD k 0).toNat, by omega⟩
            have P := hrb.put (g := fun q => decide ((q : Int) ∈ SS.take (k + 1))) t true (fun i hi => by
              by_cases e : i = t
              · subst e
                rw [if_pos rfl, decide_eq_true ((htm _).2 (.inr ht.symm))]
              · rw [if_neg e]
                have : ((i : Int) ∈ SS.take (k + 1)) ↔ ((i : Int) ∈ SS.take k) := by rw [htm, ht]; constructor; (rintro (h | h); exact h; omega); exact .inl
                simp only [this])
            rw [ht] at g0 hzr
            have q0 := hrb.cell t (by omega)
            have r0 := Row.free hrb t
            have HP := hid (show RB _ Cn (n + 1) _ ∧ Kept (fun b => b = Cn) wy2 _ from ⟨P.1, hkp.trans P.2⟩)
            clear P hrb hkp hzm htm ht hz hcell
            have htn : (t : Int) < (n : Int) + 1 := by omega
            have ht0 : (0 : Int) ≤ (t : Int) := by omega
            go_wp2_with fail
            exact ⟨⟨k + 1, by omega, by go_num, HP.out.1, HP.out.2⟩, by simp [intOf]; omega⟩
          · have hz' : SS.getD k 0 < 0 := by omega
            have HP := hid (show RB wr Cn (n + 1) (fun q => decide ((q : Int) ∈ SS.take (k + 1))) ∧ Kept (fun b => b = Cn) wy2 wr from ⟨hrb.congr (fun i hi => by
              have : ((i : Int) ∈ SS.take (k + 1)) ↔ ((i : Int) ∈ SS.take k) := by rw [htm]; constructor; (rintro (h | h); exact h; omega); exact .inl
              simp only [this]), hkp⟩)
            generalize SS.getD k 0 = z at *
            clear hrb hkp hzm htm hcell
            go_wp2_with fail
            exact ⟨⟨k + 1, by omega, by go_num, HP.out.1, HP.out.2⟩, by simp [intOf]; omega⟩
        · obtain rfl : SS.length = k := by omega
          rw [List.take_of_length_le (Nat.le_refl _)] at hrb
          have HRB := hid hrb
          have HKP := hid hkp
          clear hrb hkp
          generalize wr = wx at *
          go_wp2_with fail
          go_loopw [16, 17] (fun v p wr => ∃ k : Nat, k ≤ n + 1 ∧ p = .int .i64 k ∧ LI wr wx.heap.size v (pick SS k) ∧ Below wx.heap.size wx wr) (fun _ p _ => n + 1 - (intOf p).toNat)
          case atStart => exact ⟨0, by omega, rfl, (by rw [show pick SS 0 = [] from rfl]; exact LI.nil _ _), Below.refl _ _⟩
          case round =>
            obtain ⟨k, hk, rfl, hli, hbr⟩ := hrel
            obtain ⟨la, lc2, rfl⟩ := hli.slice
            have hsz := hbr.size
            have hpl := pick_len SS k
            have hps := pick_succ SS k
            by_cases hlt : k < n + 1
            · have g0 := (hbr.cell (p := ⟨Cn, k, none⟩) (by have := HF.out.lC; have := HKP.out.size; simp only; omega)).trans (HRB.out.cell k hlt)
              have hlt' : (k : Int) < (n : Int) + 1 := by omega
              by_cases hm : (k : Int) ∈ SS
              · rw [decide_eq_true hm] at g0
                rw [if_pos hm] at hps
                have HPS := hid hps
                have HLI := hid (hli.later ((Below.refl wr.heap.size wr).alloc (Nat.le_refl _) (.cells #[.int .i64 (k : Int)] 3)) (Nat.le_refl _))
                have HBR := hid (hbr.alloc hsz (.cells #[.int .i64 (k : Int)] 3))
                have hsa : wx.heap.size ≤ (wr.alloc (.cells #[.int .i64 (k : Int)] 3)).heap.size := by simp; omega
                have hpl2 : (pick SS k).length ≤ 1073741824 := by omega
                clear hli hbr hm hps hpl
                generalize hpk : pick SS k = pk at *
                go_wp2_with (first
                  | (at_builtin; refine app_int _ rfl (.tmp 176) (.tmp 178) rfl wx.heap.size _ pk rfl HLI.out hsa ⟨wr.heap.size, 0, none⟩ k rfl (by simp [Addr.add]) hpl2 ?_; intro B1 cap1 w2 hL2 hB2 hb2; have HL2 := hid hL2; have HB2 := hid (HBR.out.trans hb2); clear hL2 hb2))
                exact ⟨⟨k + 1, by omega, by go_num, by rw [HPS.out]; exact HL2.out, HB2.out⟩, by simp [intOf]; omega⟩
              · rw [decide_eq_false hm] at g0
                rw [if_neg hm, List.append_nil] at hps
                have HPS := hid hps
                have HLI := hid hli
                have HBR := hid hbr
                clear hli hbr hm hps hpl
                generalize hpk : pick SS k = pk at *
                go_wp2_with fail
                exact ⟨⟨k + 1, by omega, by go_num, by rw [HPS.out]; exact HLI.out, HBR.out⟩, by simp [intOf]; omega⟩
            · obtain rfl : n + 1 = k := by omega
              have HLI := hid hli
              have HBR := hid hbr
              have hlt' : ¬ ((n + 1 : Nat) : Int) < (n : Int) + 1 := by omega
              clear hli hbr hps hpl
              go_wp2_with fail
              go_ret
              exact nf_end HX.out HG.out hj (HSS.out.symm.trans (by simp [sm, oth, HEL.out])) HOX.out HLI.out HBR.out HKP.out HBY.out HB4.out HF.out.lC hCg
  by_cases h_5 : cx = 5
  · subst h_5
    subst hox
    generalize hw4 : w3.alloc (Obj.cells #[Value.int .u8 5, .int .i64 ax, .slice xa xn xc] 57) = w4 at *
    clear hs4
    have hal0 : w4.heap.size ≤ (w4.alloc (.cells #[.int .i64 (enF (opF xs) n j)] 3)).heap.size := by simp
    have HBA0 := hid ((Below.refl w4.heap.size w4).alloc (Nat.le_refl _) (.cells #[.int .i64 (enF (opF xs) n j)] 3))
    have HLA0 := hid (LI.nil (w4.alloc (.cells #[.int .i64 (enF (opF xs) n j)] 3)) w4.heap.size)
    go_wp2_with (first
      | (at_builtin; refine app_ints _ rfl (.tmp 87) (.tmp 92) rfl w4.heap.size _ ([]) rfl HLA0.out hal0 ⟨w4.heap.size, 0, none⟩ [enF (opF xs) n j] 1 1 rfl rfl (cells1 (by simp [Addr.add])) (by simp) ?_; intro a1 k1 s1 wy1 hk1 hL1 hb1; have HLY1 := hid hL1; have HBY1 := hid (HBA0.out.trans hb1); have HK1 := hid hk1; clear hL1 hb1 hk1))
    have HL8 := HLY1
    have HBY := HBY1
    obtain ⟨SS, hSS⟩ : ∃ SS, ([] ++ [enF (opF xs) n j]) = SS := ⟨_, rfl⟩
    rw [hSS] at HL8
    have HSS := hid hSS
    have hsr : ∀ z ∈ SS, z ≤ n := by rw [← hSS]; exact (fun q hq => by simp at hq; omega)
    have HSR := hid hsr
    obtain ⟨hsl, hsc⟩ := HL8.out.cell
    have hslb : SS.length ≤ 200000 := by rw [← hSS]; simp
    have HSC := hid hsc
    have hwys := HBY.out.size
    have hcan : RB wy1 Cn (n + 1) (fun q => decide ((q : Int) ∈ SS.take 0)) := by
      have h1 : RB wy1 Cn (n + 1) (fun _ => false) := Row.keep HF.out.can (HBY.out.block _ HF.out.lC)
      exact h1.congr (fun i _ => by simp)
    have HCAN := hid hcan
    have hsk := hsl
    subst hsl
    clear hSS hsr hsc hcan
    go_wp2_with fail
    go_loopw [15] (fun p wr => ∃ k : Nat, k ≤ SS.length ∧ p = .int .i64 k ∧ RB wr Cn (n + 1) (fun q => decide ((q : Int) ∈ SS.take k)) ∧ Kept (fun b => b = Cn) wy1 wr) (fun p _ => SS.length - (intOf p).toNat)
    case atStart => exact ⟨0, by omega, rfl, HCAN.out, Kept.refl _ _⟩
    case round =>
      obtain ⟨k, hk, rfl, hrb, hkp⟩ := hrel
      clear HCAN
      by_cases hlt : k < SS.length
      · obtain ⟨Sb, rfl, hcell⟩ := HSC.out.resolve_left (by omega)
        have hSb : w4.heap.size ≤ Sb := (LI.block HL8.out rfl).1
        have hCS : ¬ Sb = Cn := by have := HF.out.lC; omega
        have g0 := hkp.cell (hcell k hlt) hCS
        have hzm : SS.getD k 0 ∈ SS := by rw [List.getD_eq_getElem?_getD, List.getElem?_eq_getElem hlt]; exact List.getElem_mem hlt
        have hzr := HSR.out _ hzm
        have htm := take_mem hlt
        by_cases hz : 0 ≤ SS.getD k 0
        · obtain ⟨t, ht⟩ : ∃ t : Nat, SS.getD k 0 = (t : Int) := ⟨(SS.getD k 0).toNat, by omega⟩
          have P := hrb.put (g := fun q => decide ((q : Int) ∈ SS.take (k + 1))) t true (fun i hi => by
            by_cases e : i = t
            · subst e
              rw [if_pos rfl, decide_eq_true ((htm _).2 (.inr ht.symm))]
            · rw [if_neg e]
              have : ((i : Int) ∈ SS.take (k + 1)) ↔ ((i : Int) ∈ SS.take k) := by rw [htm, ht]; constructor; (rintro (h | h); exact h; omega); exact .inl
              simp only [this])
          rw [ht] at g0 hzr
          have q0 := hrb.cell t (by omega)
          have r0 := Row.free hrb t
          have HP := hid (show RB _ Cn (n + 1) _ ∧ Kept (fun b => b = Cn) wy1 _ from ⟨P.1, hkp.trans P.2⟩)
          clear P hrb hkp hzm htm ht hz hcell
          have htn : (t : Int) < (n : Int) + 1 := by omega
          have ht0 : (0 : Int) ≤ (t : Int) := by omega
          go_wp2_with fail
          exact ⟨⟨k + 1, by omega, by go_num, HP.out.1, HP.out.2⟩, by simp [intOf]; omega⟩
        · have hz' : SS.getD k 0 < 0 := by omega
          have HP := hid (show RB wr Cn (n + 1) (fun q => decide ((q : Int) ∈ SS.take (k + 1))) ∧ Kept (fun b => b = Cn) wy1 wr from ⟨hrb.congr (fun i hi => by
            have : ((i : Int) ∈ SS.take (k + 1)) ↔ ((i : Int) ∈ SS.take k) := by rw [htm]; constructor; (rintro (h | h); exact h; omega); exact .inl
            simp only [this]), hkp⟩)
          generalize SS.getD k 0 = z at *
          clear hrb hkp hzm htm hcell
          go_wp2_with fail
          exact ⟨⟨k + 1, by omega, by go_num, HP.out.1, HP.out.2⟩, by simp [intOf]; omega⟩
      · obtain rfl : SS.length = k := by omega
        rw [List.take_of_length_le (Nat.le_refl _)] at hrb
        have HRB := hid hrb
        have HKP := hid hkp
        clear hrb hkp
        generalize wr = wx at *
        go_wp2_with fail
        go_loopw [16, 17] (fun v p wr => ∃ k : Nat, k ≤ n + 1 ∧ p = .int .i64 k ∧ LI wr wx.heap.size v (pick SS k) ∧ Below wx.heap.size wx wr) (fun _ p _ => n + 1 - (intOf p).toNat)
        case atStart => exact ⟨0, by omega, rfl, (by rw [show pick SS 0 = [] from rfl]; exact LI.nil _ _), Below.refl _ _⟩
        case round =>
          obtain ⟨k, hk, rfl, hli, hbr⟩ := hrel
          obtain ⟨la, lc2, rfl⟩ := hli.slice
          have hsz := hbr.size
          have hpl := pick_len SS k
          have hps := pick_succ SS k
          by_cases hlt : k < n + 1
          · have g0 := (hbr.cell (p := ⟨Cn, k, none⟩) (by have := HF.out.lC; have := HKP.out.size; simp only; omega)).trans (HRB.out.cell k hlt)
            have hlt' : (k : Int) < (n : Int) + 1 := by omega
            by_cases hm : (k : Int) ∈ SS
            · rw [decide_eq_true hm] at g0
              rw [if_pos hm] at hps
              have HPS := hid hps
              have HLI := hid (hli.later ((Below.refl wr.heap.size wr).alloc (Nat.le_refl _) (.cells #[.int .i64 (k : Int)] 3)) (Nat.le_refl _))
              have HBR := hid (hbr.alloc hsz (.cells #[.int .i64 (k : Int)] 3))
              have hsa : wx.heap.size ≤ (wr.alloc (.cells #[.int .i64 (k : Int)] 3)).heap.size := by simp; omega
              have hpl2 : (pick SS k).length ≤ 1073741824 := by omega
              clear hli hbr hm hps hpl
              generalize hpk : pick SS k = pk at *
              go_wp2_with (first
                | (at_builtin; refine app_int _ rfl (.tmp 176) (.tmp 178) rfl wx.heap.size _ pk rfl HLI.out hsa ⟨wr.heap.size, 0, none⟩ k rfl (by simp [Addr.add]) hpl2 ?_; intro B1 cap1 w2 hL2 hB2 hb2; have HL2 := hid hL2; have HB2 := hid (HBR.out.trans hb2); clear hL2 hb2))
              exact ⟨⟨k + 1, by omega, by go_num, by rw [HPS.out]; exact HL2.out, HB2.out⟩, by simp [intOf]; omega⟩
            · rw [decide_eq_false hm] at g0
              rw [if_neg hm, List.append_nil] at hps
              have HPS := hid hps
              have HLI := hid hli
              have HBR := hid hbr
              clear hli hbr hm hps hpl
              generalize hpk : pick SS k = pk at *
              go_wp2_with fail
              exact ⟨⟨k + 1, by omega, by go_num, by rw [HPS.out]; exact HLI.out, HBR.out⟩, by simp [intOf]; omega⟩
          · obtain rfl : n + 1 = k := by omega
            have HLI := hid hli
            have HBR := hid hbr
            have hlt' : ¬ ((n + 1 : Nat) : Int) < (n : Int) + 1 := by omega
            clear hli hbr hps hpl
            go_wp2_with fail
            go_ret
            exact nf_end HX.out HG.out hj (HSS.out.symm.trans (by simp [sm])) HOX.out HLI.out HBR.out HKP.out HBY.out HB4.out HF.out.lC hCg
  by_cases h_8 : cx = 8
  · subst h_8
    subst hox
    generalize hw4 : w3.alloc (Obj.cells #[Value.int .u8 8, .int .i64 ax, .slice xa xn xc] 57) = w4 at *
    clear hs4
    have hpr := plcN_range (O := opF xs) (n := n) (i := j) (a := ax) hj
    have hal0 : w4.heap.size ≤ (w4.alloc (.cells #[.int .i64 ((j : Int) + 1)] 3)).heap.size := by simp
    have HBA0 := hid ((Below.refl w4.heap.size w4).alloc (Nat.le_refl _) (.cells #[.int .i64 ((j : Int) + 1)] 3))
    have HLA0 := hid (LI.nil (w4.alloc (.cells #[.int .i64 ((j : Int) + 1)] 3)) w4.heap.size)
    go_wp2_with (first
      | (at_builtin; refine app_ints _ rfl (.tmp 107) (.tmp 110) rfl w4.heap.size _ ([]) rfl HLA0.out hal0 ⟨w4.heap.size, 0, none⟩ [(j : Int) + 1] 1 1 rfl rfl (cells1 (by simp [Addr.add])) (by simp) ?_; intro a1 k1 s1 wy1 hk1 hL1 hb1; have HLY1 := hid hL1; have HBY1 := hid (HBA0.out.trans hb1); have HK1 := hid hk1; clear hL1 hb1 hk1; have hal1 : w4.heap.size ≤ (wy1.alloc (.cells #[.int .i64 (plcN (opF xs) n j ax)] 3)).heap.size := (by have := HBY1.out.size; simp; omega); have HBA1 := hid (HBY1.out.alloc HBY1.out.size (.cells #[.int .i64 (plcN (opF xs) n j ax)] 3)); have HLA1 := hid (HLY1.out.later ((Below.refl wy1.heap.size wy1).alloc (Nat.le_refl _) (.cells #[.int .i64 (plcN (opF xs) n j ax)] 3)) (Nat.le_refl _)); have x1y := (HBY1.out.cell (p := ⟨w3.heap.size, 1, none⟩) (by exact HF.out.lX)).trans x1; have f1y := (HBY1.out.cell (p := ⟨A, j, none⟩) (by exact HF.out.lA)).trans f1; have f2y := (HBY1.out.cell (p := ⟨B, j, none⟩) (by exact HF.out.lB)).trans f2)
      | (go_at_call 50; refine (HF.out.place (by omega) hj hcap HBY1.out _).mono ?_; rintro e w5 ⟨rfl, hw5⟩; have hw6 := hw5.symm; subst hw6)
      | (at_builtin; refine app_ints _ rfl (.tmp 112) (.tmp 119) rfl w4.heap.size _ ([] ++ [(j : Int) + 1]) rfl HLA1.out hal1 ⟨wy1.heap.size, 0, none⟩ [plcN (opF xs) n j ax] 1 1 rfl rfl (cells1 (by simp [Addr.add])) (by simp) ?_; intro a2 k2 s2 wy2 hk2 hL2 hb2; have HLY2 := hid hL2; have HBY2 := hid (HBA1.out.trans hb2); have HK2 := hid hk2; clear hL2 hb2 hk2))
    have HL8 := HLY2
    have HBY := HBY2
    obtain ⟨SS, hSS⟩ : ∃ SS, ([] ++ [(j : Int) + 1] ++ [plcN (opF xs) n j ax]) = SS := ⟨_, rfl⟩
    rw [hSS] at HL8
    have HSS := hid hSS
    have hsr : ∀ z ∈ SS, z ≤ n := by rw [← hSS]; exact (fun q hq => by simp at hq; omega)
    have HSR := hid hsr
    obtain ⟨hsl, hsc⟩ := HL8.out.cell
    have hslb : SS.length ≤ 200000 := by rw [← hSS]; simp
    have HSC := hid hsc
    have hwys := HBY.out.size
    have hcan : RB wy2 Cn (n + 1) (fun q => decide ((q : Int) ∈ SS.take 0)) := by
      have h1 : RB wy2 Cn (n + 1) (fun _ => false) := Row.keep HF.out.can (HBY.out.block _ HF.out.lC)
      exact h1.congr (fun i _ => by simp)
    have HCAN := hid hcan
    have hsk := hsl
    subst hsl
    clear hSS hsr hsc hcan
    go_wp2_with fail
    go_loopw [15] (fun p wr => ∃ k : Nat, k ≤ SS.length ∧ p = .int .i64 k ∧ RB wr Cn (n + 1) (fun q => decide ((q : Int) ∈ SS.take k)) ∧ Kept (fun b => b = Cn) wy2 wr) (fun p _ => SS.length - (intOf p).toNat)
    case atStart => exact ⟨0, by omega, rfl, HCAN.out, Kept.refl _ _⟩
    case round =>
      obtain ⟨k, hk, rfl, hrb, hkp⟩ := hrel
      clear HCAN
      by_cases hlt : k < SS.length
      · obtain ⟨Sb, rfl, hcell⟩ := HSC.out.resolve_left (by omega)
        have hSb : w4.heap.size ≤ Sb := (LI.block HL8.out rfl).1
        have hCS : ¬ Sb = Cn := by have := HF.out.lC; omega
        have g0 := hkp.cell (hcell k hlt) hCS
        have hzm : SS.getD k 0 ∈ SS := by rw [List.getD_eq_getElem?_getD, List.getElem?_eq_getElem hlt]; exact List.getElem_mem hlt
        have hzr := HSR.out _ hzm
        have htm := take_mem hlt
        by_cases hz : 0 ≤ SS.getD k 0
        · obtain ⟨t, ht⟩ : ∃ t : Nat, SS.getD k 0 = (t : Int) := ⟨(SS.getD k 0).toNat, by omega⟩
          have P := hrb.put (g := fun q => decide ((q : Int) ∈ SS.take (k + 1))) t true (fun i hi => by
            by_cases e : i = t
            · subst e
              rw [if_pos rfl, decide_eq_true ((htm _).2 (.inr ht.symm))]
            · rw [if_neg e]
              have : ((i : Int) ∈ SS.take (k + 1)) ↔ ((i : Int) ∈ SS.take k) := by rw [htm, ht]; constructor; (rintro (h | h); exact h; omega); exact .inl
              simp only [this])
          rw [ht] at g0 hzr
          have q0 := hrb.cell t (by omega)
          have r0 := Row.free hrb t
          have HP := hid (show RB _ Cn (n + 1) _ ∧ Kept (fun b => b = Cn) wy2 _ from ⟨P.1, hkp.trans P.2⟩)
          clear P hrb hkp hzm htm ht hz hcell
          have htn : (t : Int) < (n : Int) + 1 := by omega
          have ht0 : (0 : Int) ≤ (t : Int) := by omega
          go_wp2_with fail
          exact ⟨⟨k + 1, by omega, by go_num, HP.out.1, HP.out.2⟩, by simp [intOf]; omega⟩
        · have hz' : SS.getD k 0 < 0 := by omega
          have HP := hid (show RB wr Cn (n + 1) (fun q => decide ((q : Int) ∈ SS.take (k + 1))) ∧ Kept (fun b => b = Cn) wy2 wr from ⟨hrb.congr (fun i hi => by
            have : ((i : Int) ∈ SS.take (k + 1)) ↔ ((i : Int) ∈ SS.take k) := by rw [htm]; constructor; (rintro (h | h); exact h; omega); exact .inl
            simp only [this]), hkp⟩)
          generalize SS.getD k 0 = z at *
          clear hrb hkp hzm htm hcell
          go_wp2_with fail
          exact ⟨⟨k + 1, by omega, by go_num, HP.out.1, HP.out.2⟩, by simp [intOf]; omega⟩
      · obtain rfl : SS.length = k := by omega
        rw [List.take_of_length_le (Nat.le_refl _)] at hrb
        have HRB := hid hrb
        have HKP := hid hkp
        clear hrb hkp
        generalize wr = wx at *
        go_wp2_with fail
        go_loopw [16, 17] (fun v p wr => ∃ k : Nat, k ≤ n + 1 ∧ p = .int .i64 k ∧ LI wr wx.heap.size v (pick SS k) ∧ Below wx.heap.size wx wr) (fun _ p _ => n + 1 - (intOf p).toNat)
        case atStart => exact ⟨0, by omega, rfl, (by rw [show pick SS 0 = [] from rfl]; exact LI.nil _ _), Below.refl _ _⟩
        case round =>
          obtain ⟨k, hk, rfl, hli, hbr⟩ := hrel
          obtain ⟨la, lc2, rfl⟩ := hli.slice
          have hsz := hbr.size
          have hpl := pick_len SS k
          have hps := pick_succ SS k
          by_cases hlt : k < n + 1
          · have g0 := (hbr.cell (p := ⟨Cn, k, none⟩) (by have := HF.out.lC; have := HKP.out.size; simp only; omega)).trans (HRB.out.cell k hlt)
            have hlt' : (k : Int) < (n : Int) + 1 := by omega
            by_cases hm : (k : Int) ∈ SS
            · rw [decide_eq_true hm] at g0
              rw [if_pos hm] at hps
              have HPS := hid hps
              have HLI := hid (hli.later ((Below.refl wr.heap.size wr).alloc (Nat.le_refl _) (.cells #[.int .i64 (k : Int)] 3)) (Nat.le_refl _))
              have HBR := hid (hbr.alloc hsz (.cells #[.int .i64 (k : Int)] 3))
              have hsa : wx.heap.size ≤ (wr.alloc (.cells #[.int .i64 (k : Int)] 3)).heap.size := by simp; omega
              have hpl2 : (pick SS k).length ≤ 1073741824 := by omega
              clear hli hbr hm hps hpl
              generalize hpk : pick SS k = pk at *
              go_wp2_with (first
                | (at_builtin; refine app_int _ rfl (.tmp 176) (.tmp 178) rfl wx.heap.size _ pk rfl HLI.out hsa ⟨wr.heap.size, 0, none⟩ k rfl (by simp [Addr.add]) hpl2 ?_; intro B1 cap1 w2 hL2 hB2 hb2; have HL2 := hid hL2; have HB2 := hid (HBR.out.trans hb2); clear hL2 hb2))
              exact ⟨⟨k + 1, by omega, by go_num, by rw [HPS.out]; exact HL2.out, HB2.out⟩, by simp [intOf]; omega⟩
            · rw [decide_eq_false hm] at g0
              rw [if_neg hm, List.append_nil] at hps
              have HPS := hid hps
              have HLI := hid hli
              have HBR := hid hbr
              clear hli hbr hm hps hpl
              generalize hpk : pick SS k = pk at *
              go_wp2_with fail
              exact ⟨⟨k + 1, by omega, by go_num, by rw [HPS.out]; exact HLI.out, HBR.out⟩, by simp [intOf]; omega⟩
          · obtain rfl : n + 1 = k := by omega
            have HLI := hid hli
            have HBR := hid hbr
            have hlt' : ¬ ((n + 1 : Nat) : Int) < (n : Int) + 1 := by omega
            clear hli hbr hps hpl
            go_wp2_with fail
            go_ret
            exact nf_end HX.out HG.out hj (HSS.out.symm.trans (by simp [sm])) HOX.out HLI.out HBR.out HKP.out HBY.out HB4.out HF.out.lC hCg
  by_cases h_7 : cx = 7
  · subst h_7
    subst hox
    generalize hw4 : w3.alloc (Obj.cells #[Value.int .u8 7, .int .i64 ax, .slice xa xn xc] 57) = w4 at *
    clear hs4
    have hpr := plcN_range (O := opF xs) (n := n) (i := j) (a := ax) hj
    have hal0 : w4.heap.size ≤ (w4.alloc (.cells #[.int .i64 (plcN (opF xs) n j ax)] 3)).heap.size := by simp
    have HBA0 := hid ((Below.refl w4.heap.size w4).alloc (Nat.le_refl _) (.cells #[.int .i64 (plcN (opF xs) n j ax)] 3))
    have HLA0 := hid (LI.nil (w4.alloc (.cells #[.int .i64 (plcN (opF xs) n j ax)] 3)) w4.heap.size)
    go_wp2_with (first
      | (go_at_call 50; refine (HF.out.place (by omega) hj hcap (Below.refl _ _) _).mono ?_; rintro e w5 ⟨rfl, hw5⟩; have hw6 := hw5.symm; subst hw6)
      | (at_builtin; refine app_ints _ rfl (.tmp 96) (.tmp 103) rfl w4.heap.size _ ([]) rfl HLA0.out hal0 ⟨w4.heap.size, 0, none⟩ [plcN (opF xs) n j ax] 1 1 rfl rfl (cells1 (by simp [Addr.add])) (by simp) ?_; intro a1 k1 s1 wy1 hk1 hL1 hb1; have HLY1 := hid hL1; have HBY1 := hid (HBA0.out.trans hb1); have HK1 := hid hk1; clear hL1 hb1 hk1))
    have HL8 := HLY1
    have HBY := HBY1
    obtain ⟨SS, hSS⟩ : ∃ SS, ([] ++ [plcN (opF xs) n j ax]) = SS := ⟨_, rfl⟩
    rw [hSS] at HL8
    have HSS := hid hSS
    have hsr : ∀ z ∈ SS, z ≤ n := by rw [← hSS]; exact (fun q hq => by simp at hq; omega)
    have HSR := hid hsr
    obtain ⟨hsl, hsc⟩ := HL8.out.cell
    have hslb : SS.length ≤ 200000 := by rw [← hSS]; simp
    have HSC := hid hsc
    have hwys := HBY.out.size
    have hcan : RB wy1 Cn (n + 1) (fun q => decide ((q : Int) ∈ SS.take 0)) := by
      have h1 : RB wy1 Cn (n + 1) (fun _ => false) := Row.keep HF.out.can (HBY.out.block _ HF.out.lC)
      exact h1.congr (fun i _ => by simp)
    have HCAN := hid hcan
    have hsk := hsl
    subst hsl
    clear hSS hsr hsc hcan
    go_wp2_with fail
    go_loopw [15] (fun p wr => ∃ k : Nat, k ≤ SS.length ∧ p = .int .i64 k ∧ RB wr Cn (n + 1) (fun q => decide ((q : Int) ∈ SS.take k)) ∧ Kept (fun b => b = Cn) wy1 wr) (fun p _ => SS.length - (intOf p).toNat)
    case atStart => exact ⟨0, by omega, rfl, HCAN.out, Kept.refl _ _⟩
    case round =>
      obtain ⟨k, hk, rfl, hrb, hkp⟩ := hrel
      clear HCAN
      by_cases hlt : k < SS.length
      · obtain ⟨Sb, rfl, hcell⟩ := HSC.out.resolve_left (by omega)
        have hSb : w4.heap.size ≤ Sb := (LI.block HL8.out rfl).1
        have hCS : ¬ Sb = Cn := by have := HF.out.lC; omega
        have g0 := hkp.cell (hcell k hlt) hCS
        have hzm : SS.getD k 0 ∈ SS := by rw [List.getD_eq_getElem?_getD, List.getElem?_eq_getElem hlt]; exact List.getElem_mem hlt
        have hzr := HSR.out _ hzm
        have htm := take_mem hlt
        by_cases hz : 0 ≤ SS.getD k 0
        · obtain ⟨t, ht⟩ : ∃ t : Nat, SS.getD k 0 = (t : Int) := ⟨(SS.getD k 0).toNat, by omega⟩
          have P := hrb.put (g := fun q => decide ((q : Int) ∈ SS.take (k + 1))) t true (fun i hi => by
            by_cases e : i = t
            · subst e
              rw [if_pos rfl, decide_eq_true ((htm _).2 (.inr ht.symm))]
            · rw [if_neg e]
              have : ((i : Int) ∈ SS.take (k + 1)) ↔ ((i : Int) ∈ SS.take k) := by rw [htm, ht]; constructor; (rintro (h | h); exact h; omega); exact .inl
              simp only [this])
          rw [ht] at g0 hzr
          have q0 := hrb.cell t (by omega)
          have r0 := Row.free hrb t
          have HP := hid (show RB _ Cn (n + 1) _ ∧ Kept (fun b => b = Cn) wy1 _ from ⟨P.1, hkp.trans P.2⟩)
          clear P hrb hkp hzm htm ht hz hcell
          have htn : (t : Int) < (n : Int) + 1 := by omega
          have ht0 : (0 : Int) ≤ (t : Int) := by omega
          go_wp2_with fail
          exact ⟨⟨k + 1, by omega, by go_num, HP.out.1, HP.out.2⟩, by simp [intOf]; omega⟩
        · have hz' : SS.getD k 0 < 0 := by omega
          have HP := hid (show RB wr Cn (n + 1) (fun q => decide ((q : Int) ∈ SS.take (k + 1))) ∧ Kept (fun b => b = Cn) wy1 wr from ⟨hrb.congr (fun i hi => by
            have : ((i : Int) ∈ SS.take (k + 1)) ↔ ((i : Int) ∈ SS.take k) := by rw [htm]; constructor; (rintro (h | h); exact h; omega); exact .inl
            simp only [this]), hkp⟩)
          generalize SS.getD k 0 = z at *
          clear hrb hkp hzm htm hcell
          go_wp2_with fail
          exact ⟨⟨k + 1, by omega, by go_num, HP.out.1, HP.out.2⟩, by simp [intOf]; omega⟩
      · obtain rfl : SS.length = k := by omega
        rw [List.take_of_length_le (Nat.le_refl _)] at hrb
        have HRB := hid hrb
        have HKP := hid hkp
        clear hrb hkp
        generalize wr = wx at *
        go_wp2_with fail
        go_loopw [16, 17] (fun v p wr => ∃ k : Nat, k ≤ n + 1 ∧ p = .int .i64 k ∧ LI wr wx.heap.size v (pick SS k) ∧ Below wx.heap.size wx wr) (fun _ p _ => n + 1 - (intOf p).toNat)
        case atStart => exact ⟨0, by omega, rfl, (by rw [show pick SS 0 = [] from rfl]; exact LI.nil _ _), Below.refl _ _⟩
        case round =>
          obtain ⟨k, hk, rfl, hli, hbr⟩ := hrel
          obtain ⟨la, lc2, rfl⟩ := hli.slice
          have hsz := hbr.size
          have hpl := pick_len SS k
          have hps := pick_succ SS k
          by_cases hlt : k < n + 1
          · have g0 := (hbr.cell (p := ⟨Cn, k, none⟩) (by have := HF.out.lC; have := HKP.out.size; simp only; omega)).trans (HRB.out.cell k hlt)
            have hlt' : (k : Int) < (n : Int) + 1 := by omega
            by_cases hm : (k : Int) ∈ SS
            · rw [decide_eq_true hm] at g0
              rw [if_pos hm] at hps
              have HPS := hid hps
              have HLI := hid (hli.later ((Below.refl wr.heap.size wr).alloc (Nat.le_refl _) (.cells #[.int .i64 (k : Int)] 3)) (Nat.le_refl _))
              have HBR := hid (hbr.alloc hsz (.cells #[.int .i64 (k : Int)] 3))
              have hsa : wx.heap.size ≤ (wr.alloc (.cells #[.int .i64 (k : Int)] 3)).heap.size := by simp; omega
              have hpl2 : (pick SS k).length ≤ 1073741824 := by omega
              clear hli hbr hm hps hpl
              generalize hpk : pick SS k = pk at *
              go_wp2_with (first
                | (at_builtin; refine app_int _ rfl (.tmp 176) (.tmp 178) rfl wx.heap.size _ pk rfl HLI.out hsa ⟨wr.heap.size, 0, none⟩ k rfl (by simp [Addr.add]) hpl2 ?_; intro B1 cap1 w2 hL2 hB2 hb2; have HL2 := hid hL2; have HB2 := hid (HBR.out.trans hb2); clear hL2 hb2))
              exact ⟨⟨k + 1, by omega, by go_num, by rw [HPS.out]; exact HL2.out, HB2.out⟩, by simp [intOf]; omega⟩
            · rw [decide_eq_false hm] at g0
              rw [if_neg hm, List.append_nil] at hps
              have HPS := hid hps
              have HLI := hid hli
              have HBR := hid hbr
              clear hli hbr hm hps hpl
              generalize hpk : pick SS k = pk at *
              go_wp2_with fail
              exact ⟨⟨k + 1, by omega, by go_num, by rw [HPS.out]; exact HLI.out, HBR.out⟩, by simp [intOf]; omega⟩
          · obtain rfl : n + 1 = k := by omega
            have HLI := hid hli
            have HBR := hid hbr
            have hlt' : ¬ ((n + 1 : Nat) : Int) < (n : Int) + 1 := by omega
            clear hli hbr hps hpl
            go_wp2_with fail
            go_ret
            exact nf_end HX.out HG.out hj (HSS.out.symm.trans (by simp [sm])) HOX.out HLI.out HBR.out HKP.out HBY.out HB4.out HF.out.lC hCg
  by_cases h_9 : cx = 9
  · subst h_9
    subst hox
    generalize hw4 : w3.alloc (Obj.cells #[Value.int .u8 9, .int .i64 ax, .slice xa xn xc] 57) = w4 at *
    clear hs4
    have hxl : xl.length = xn := HF.out.seg.1
    go_wp2_with fail
    go_loopw [13, 14] (fun v p wr => ∃ k : Nat, k ≤ xn ∧ p = .int .i64 k ∧ LI wr w4.heap.size v ((xl.take k).map (plcN (opF xs) n j)) ∧ Below w4.heap.size w4 wr) (fun _ p _ => xn - (intOf p).toNat)
    case atStart => exact ⟨0, by omega, rfl, LI.nil _ _, Below.refl _ _⟩
    case round =>
      obtain ⟨k, hk, rfl, hli, hbr⟩ := hrel
      obtain ⟨ra, rc, rfl⟩ := hli.slice
      have hsz := hbr.size
      have hrl : ((xl.take k).map (plcN (opF xs) n j)).length = k := by simp; omega
      have y2 := (hbr.cell (p := ⟨w3.heap.size, 2, none⟩) (by exact HF.out.lX)).trans x2
      by_cases hlt : k < xn
      · rw [hrl] at hli ⊢
        obtain ⟨b1, o1, rfl, hcell⟩ := (HF.out.seg.2.2.2.2).resolve_left (by simp only; omega)
        have hb1 : b1 < w4.heap.size := block_lt_of_cell (hcell k hlt)
        have y3 := (hbr.cell (p := ⟨b1, o1 + k, none⟩) (by exact hb1)).trans (hcell k hlt)
        simp only at y3
        have hnx : (xl.take (k + 1)).map (plcN (opF xs) n j) = (xl.take k).map (plcN (opF xs) n j) ++ [plcN (opF xs) n j (xl.getD k 0)] := by
          rw [List.take_succ_eq_append_getElem (by omega), List.map_append]
          simp [List.getD_eq_getElem?_getD, List.getElem?_eq_getElem (show k < xl.length by omega)]
        have HPL := hid (HF.out.place (by omega) hj hcap hbr (xl.getD k 0))
        have HNX := hid hnx
        generalize xl.getD k 0 = zk at *
        generalize plcN (opF xs) n j zk = pv at *
        have hlt' : (k : Int) < (xn : Int) := by omega
        have HLI := hid (hli.later ((Below.refl wr.heap.size wr).alloc (Nat.le_refl _) (.cells #[.int .i64 pv] 3)) (Nat.le_refl _))
        have HBR := hid (hbr.alloc hsz (.cells #[.int .i64 pv] 3))
        have hsa : w4.heap.size ≤ (wr.alloc (.cells #[.int .i64 pv] 3)).heap.size := by simp; omega
        have hlb : ((xl.take k).map (plcN (opF xs) n j)).length + [pv].length ≤ 1073741824 := by rw [hrl]; simp; omega
        generalize hlst : (xl.take k).map (plcN (opF xs) n j) = lst at *
        clear hli hbr hcell hnx
        go_wp2_with (first
          | (go_at_call 50; refine HPL.out.mono ?_; rintro e w5 ⟨rfl, hw5⟩; have hw6 := hw5.symm; subst hw6)
          | (at_builtin; refine app_ints _ rfl (.tmp 130) (.tmp 140) rfl w4.heap.size _ lst rfl HLI.out hsa ⟨wr.heap.size, 0, none⟩ [pv] 1 1 rfl rfl (cells1 (by simp [Addr.add])) hlb ?_; intro a6 k6 c6 w6 hk6 hL6 hb6; have HL6 := hid hL6; have HB6 := hid (HBR.out.trans hb6); clear hL6 hb6 hk6))
        exact ⟨⟨k + 1, by omega, by go_num, by rw [HNX.out]; exact HL6.out, HB6.out⟩, by simp [intOf]; omega⟩
      · obtain rfl : xn = k := by omega
        generalize hsq : ((xl.take xn).map (plcN (opF xs) n j)).length = sk at *
        rw [List.take_of_length_le (by omega)] at hli
        have HL8 := hid hli
        clear hsq
        have HBY := hid hbr
        have hlt' : ¬ (xn : Int) < (xn : Int) := by omega
        clear hli hbr hrl
        generalize wr = wy at *
        obtain ⟨SS, hSS⟩ : ∃ SS, (xl.map (plcN (opF xs) n j)) = SS := ⟨_, rfl⟩
        rw [hSS] at HL8
        have HSS := hid hSS
        have hsr : ∀ z ∈ SS, z ≤ n := by rw [← hSS]; exact (fun q hq => by obtain ⟨z, _, rfl⟩ := List.mem_map.1 hq; exact (plcN_range hj).2)
        have HSR := hid hsr
        obtain ⟨hsl, hsc⟩ := HL8.out.cell
        have hslb : SS.length ≤ 200000 := by rw [← hSS]; simp; omega
        have HSC := hid hsc
        have hwys := HBY.out.size
        have hcan : RB wy Cn (n + 1) (fun q => decide ((q : Int) ∈ SS.take 0)) := by
          have h1 : RB wy Cn (n + 1) (fun _ => false) := Row.keep HF.out.can (HBY.out.block _ HF.out.lC)
          exact h1.congr (fun i _ => by simp)
        have HCAN := hid hcan
        have hsk := hsl
        subst hsl
        clear hSS hsr hsc hcan
        go_wp2_with fail
        go_loopw [15] (fun p wr => ∃ k : Nat, k ≤ SS.length ∧ p = .int .i64 k ∧ RB wr Cn (n + 1) (fun q => decide ((q : Int) ∈ SS.take k)) ∧ Kept (fun b => b = Cn) wy wr) (fun p _ => SS.length - (intOf p).toNat)
        case atStart => exact ⟨0, by omega, rfl, HCAN.out, Kept.refl _ _⟩
        case round =>
          obtain ⟨k, hk, rfl, hrb, hkp⟩ := hrel
          clear HCAN
          by_cases hlt : k < SS.length
          · obtain ⟨Sb, rfl, hcell⟩ := HSC.out.resolve_left (by omega)
            have hSb : w4.heap.size ≤ Sb := (LI.block HL8.out rfl).1
            have hCS : ¬ Sb = Cn := by have := HF.out.lC; omega
            have g0 := hkp.cell (hcell k hlt) hCS
            have hzm : SS.getD k 0 ∈ SS := by rw [List.getD_eq_getElem?_getD, List.getElem?_eq_getElem hlt]; exact List.getElem_mem hlt
            have hzr := HSR.out _ hzm
            have htm := take_mem hlt
            by_cases hz : 0 ≤ SS.getD k 0
            · obtain ⟨t, ht⟩ : ∃ t : Nat, SS.getD k 0 = (t : Int) := ⟨(SS.getD k 0).toNat, by omega⟩
              have P := hrb.put (g := fun q => decide ((q : Int) ∈ SS.take (k + 1))) t true (fun i hi => by
                by_cases e : i = t
                · subst e
                  rw [if_pos rfl, decide_eq_true ((htm _).2 (.inr ht.symm))]
                · rw [if_neg e]
                  have : ((i : Int) ∈ SS.take (k + 1)) ↔ ((i : Int) ∈ SS.take k) := by rw [htm, ht]; constructor; (rintro (h | h); exact h; omega); exact .inl
                  simp only [this])
              rw [ht] at g0 hzr
              have q0 := hrb.cell t (by omega)
              have r0 := Row.free hrb t
              have HP := hid (show RB _ Cn (n + 1) _ ∧ Kept (fun b => b = Cn) wy _ from ⟨P.1, hkp.trans P.2⟩)
              clear P hrb hkp hzm htm ht hz hcell
              have htn : (t : Int) < (n : Int) + 1 := by omega
              have ht0 : (0 : Int) ≤ (t : Int) := by omega
              go_wp2_with fail
              exact ⟨⟨k + 1, by omega, by go_num, HP.out.1, HP.out.2⟩, by simp [intOf]; omega⟩
            · have hz' : SS.getD k 0 < 0 := by omega
              have HP := hid (show RB wr Cn (n + 1) (fun q => decide ((q : Int) ∈ SS.take (k + 1))) ∧ Kept (fun b => b = Cn) wy wr from ⟨hrb.congr (fun i hi => by
                have : ((i : Int) ∈ SS.take (k + 1)) ↔ ((i : Int) ∈ SS.take k) := by rw [htm]; constructor; (rintro (h | h); exact h; omega); exact .inl
                simp only [this]), hkp⟩)
              generalize SS.getD k 0 = z at *
              clear hrb hkp hzm htm hcell
              go_wp2_with fail
              exact ⟨⟨k + 1, by omega, by go_num, HP.out.1, HP.out.2⟩, by simp [intOf]; omega⟩
          · obtain rfl : SS.length = k := by omega
            rw [List.take_of_length_le (Nat.le_refl _)] at hrb
            have HRB := hid hrb
            have HKP := hid hkp
            clear hrb hkp
            generalize wr = wx at *
            go_wp2_with fail
            go_loopw [16, 17] (fun v p wr => ∃ k : Nat, k ≤ n + 1 ∧ p = .int .i64 k ∧ LI wr wx.heap.size v (pick SS k) ∧ Below wx.heap.size wx wr) (fun _ p _ => n + 1 - (intOf p).toNat)
            case atStart => exact ⟨0, by omega, rfl, (by rw [show pick SS 0 = [] from rfl]; exact LI.nil _ _), Below.refl _ _⟩
            case round =>
              obtain ⟨k, hk, rfl, hli, hbr⟩ := hrel
              obtain ⟨la, lc2, rfl⟩ := hli.slice
              have hsz := hbr.size
              have hpl := pick_len SS k
              have hps := pick_succ SS k
              by_cases hlt : k < n + 1
              · have g0 := (hbr.cell (p := ⟨Cn, k, none⟩) (by have := HF.out.lC; have := HKP.out.size; simp only; omega)).trans (HRB.out.cell k hlt)
                have hlt' : (k : Int) < (n : Int) + 1 := by omega
                by_cases hm : (k : Int) ∈ SS
                · rw [decide_eq_true hm] at g0
                  rw [if_pos hm] at hps
                  have HPS := hid hps
                  have HLI := hid (hli.later ((Below.refl wr.heap.size wr).alloc (Nat.le_refl _) (.cells #[.int .i64 (k : Int)] 3)) (Nat.le_refl _))
                  have HBR := hid (hbr.alloc hsz (.cells #[.int .i64 (k : Int)] 3))
                  have hsa : wx.heap.size ≤ (wr.alloc (.cells #[.int .i64 (k : Int)] 3)).heap.size := by simp; omega
                  have hpl2 : (pick SS k).length ≤ 1073741824 := by omega
                  clear hli hbr hm hps hpl
                  generalize hpk : pick SS k = pk at *
                  go_wp2_with (first
                    | (at_builtin; refine app_int _ rfl (.tmp 176) (.tmp 178) rfl wx.heap.size _ pk rfl HLI.out hsa ⟨wr.heap.size, 0, none⟩ k rfl (by simp [Addr.add]) hpl2 ?_; intro B1 cap1 w2 hL2 hB2 hb2; have HL2 := hid hL2; have HB2 := hid (HBR.out.trans hb2); clear hL2 hb2))
                  exact ⟨⟨k + 1, by omega, by go_num, by rw [HPS.out]; exact HL2.out, HB2.out⟩, by simp [intOf]; omega⟩
                · rw [decide_eq_false hm] at g0
                  rw [if_neg hm, List.append_nil] at hps
                  have HPS := hid hps
                  have HLI := hid hli
                  have HBR := hid hbr
                  clear hli hbr hm hps hpl
                  generalize hpk : pick SS k = pk at *
                  go_wp2_with fail
                  exact ⟨⟨k + 1, by omega, by go_num, by rw [HPS.out]; exact HLI.out, HBR.out⟩, by simp [intOf]; omega⟩
              · obtain rfl : n + 1 = k := by omega
                have HLI := hid hli
                have HBR := hid hbr
                have hlt' : ¬ ((n + 1 : Nat) : Int) < (n : Int) + 1 := by omega
                clear hli hbr hps hpl
                go_wp2_with fail
                go_ret
                exact nf_end HX.out HG.out hj (HSS.out.symm.trans (by simp [sm])) HOX.out HLI.out HBR.out HKP.out HBY.out HB4.out HF.out.lC hCg
  by_cases h_10 : cx = 10
  · subst h_10
    subst hox
    generalize hw4 : w3.alloc (Obj.cells #[Value.int .u8 10, .int .i64 ax, .slice xa xn xc] 57) = w4 at *
    clear hs4
    have hal0 : w4.heap.size ≤ (w4.alloc (.cells #[.int .i64 ((n : Int))] 3)).heap.size := by simp
    have HBA0 := hid ((Below.refl w4.heap.size w4).alloc (Nat.le_refl _) (.cells #[.int .i64 ((n : Int))] 3))
    have HLA0 := hid (LI.nil (w4.alloc (.cells #[.int .i64 ((n : Int))] 3)) w4.heap.size)
    go_wp2_with (first
      | (at_builtin; refine app_ints _ rfl (.tmp 144) (.tmp 147) rfl w4.heap.size _ ([]) rfl HLA0.out hal0 ⟨w4.heap.size, 0, none⟩ [(n : Int)] 1 1 rfl rfl (cells1 (by simp [Addr.add])) (by simp) ?_; intro a1 k1 s1 wy1 hk1 hL1 hb1; have HLY1 := hid hL1; have HBY1 := hid (HBA0.out.trans hb1); have HK1 := hid hk1; clear hL1 hb1 hk1))
    have HL8 := HLY1
    have HBY := HBY1
    obtain ⟨SS, hSS⟩ : ∃ SS, ([] ++ [(n : Int)]) = SS := ⟨_, rfl⟩
    rw [hSS] at HL8
    have HSS := hid hSS
    have hsr : ∀ z ∈ SS, z ≤ n := by rw [← hSS]; exact (fun q hq => by simp at hq; omega)
    have HSR := hid hsr
    obtain ⟨hsl, hsc⟩ := HL8.out.cell
    have hslb : SS.length ≤ 200000 := by rw [← hSS]; simp
    have HSC := hid hsc
    have hwys := HBY.out.size
    have hcan : RB wy1 Cn (n + 1) (fun q => decide ((q : Int) ∈ SS.take 0)) := by
      have h1 : RB wy1 Cn (n + 1) (fun _ => false) := Row.keep HF.out.can (HBY.out.block _ HF.out.lC)
      exact h1.congr (fun i _ => by simp)
    have HCAN := hid hcan
    have hsk := hsl
    subst hsl
    clear hSS hsr hsc hcan
    go_wp2_with fail
    go_loopw [15] (fun p wr => ∃ k : Nat, k ≤ SS.length ∧ p = .int .i64 k ∧ RB wr Cn (n + 1) (fun q => decide ((q : Int) ∈ SS.take k)) ∧ Kept (fun b => b = Cn) wy1 wr) (fun p _ => SS.length - (intOf p).toNat)
    case atStart => exact ⟨0, by omega, rfl, HCAN.out, Kept.refl _ _⟩
    case round =>
      obtain ⟨k, hk, rfl, hrb, hkp⟩ := hrel
      clear HCAN
      by_cases hlt : k < SS.length
      · obtain ⟨Sb, rfl, hcell⟩ := HSC.out.resolve_left (by omega)
        have hSb : w4.heap.size ≤ Sb := (LI.block HL8.out rfl).1
        have hCS : ¬ Sb = Cn := by have := HF.out.lC; omega
        have g0 := hkp.cell (hcell k hlt) hCS
        have hzm : SS.getD k 0 ∈ SS := by rw [List.getD_eq_getElem?_getD, List.getElem?_eq_getElem hlt]; exact List.getElem_mem hlt
        have hzr := HSR.out _ hzm
        have htm := take_mem hlt
        by_cases hz : 0 ≤ SS.getD k 0
        · obtain ⟨t, ht⟩ : ∃ t : Nat, SS.getD k 0 = (t : Int) := ⟨(SS.getD k 0).toNat, by omega⟩
          have P := hrb.put (g := fun q => decide ((q : Int) ∈ SS.take (k + 1))) t true (fun i hi => by
            by_cases e : i = t
            · subst e
              rw [if_pos rfl, decide_eq_true ((htm _).2 (.inr ht.symm))]
            · rw [if_neg e]
              have : ((i : Int) ∈ SS.take (k + 1)) ↔ ((i : Int) ∈ SS.take k) := by rw [htm, ht]; constructor; (rintro (h | h); exact h; omega); exact .inl
              simp only [this])
          rw [ht] at g0 hzr
          have q0 := hrb.cell t (by omega)
          have r0 := Row.free hrb t
          have HP := hid (show RB _ Cn (n + 1) _ ∧ Kept (fun b => b = Cn) wy1 _ from ⟨P.1, hkp.trans P.2⟩)
          clear P hrb hkp hzm htm ht hz hcell
          have htn : (t : Int) < (n : Int) + 1 := by omega
          have ht0 : (0 : Int) ≤ (t : Int) := by omega
          go_wp2_with fail
          exact ⟨⟨k + 1, by omega, by go_num, HP.out.1, HP.out.2⟩, by simp [intOf]; omega⟩
        · have hz' : SS.getD k 0 < 0 := by omega
          have HP := hid (show RB wr Cn (n + 1) (fun q => decide ((q : Int) ∈ SS.take (k + 1))) ∧ Kept (fun b => b = Cn) wy1 wr from ⟨hrb.congr (fun i hi => by
            have : ((i : Int) ∈ SS.take (k + 1)) ↔ ((i : Int) ∈ SS.take k) := by rw [htm]; constructor; (rintro (h | h); exact h; omega); exact .inl
            simp only [this]), hkp⟩)
          generalize SS.getD k 0 = z at *
          clear hrb hkp hzm htm hcell
          go_wp2_with fail
          exact ⟨⟨k + 1, by omega, by go_num, HP.out.1, HP.out.2⟩, by simp [intOf]; omega⟩
      · obtain rfl : SS.length = k := by omega
        rw [List.take_of_length_le (Nat.le_refl _)] at hrb
        have HRB := hid hrb
        have HKP := hid hkp
        clear hrb hkp
        generalize wr = wx at *
        go_wp2_with fail
        go_loopw [16, 17] (fun v p wr => ∃ k : Nat, k ≤ n + 1 ∧ p = .int .i64 k ∧ LI wr wx.heap.size v (pick SS k) ∧ Below wx.heap.size wx wr) (fun _ p _ => n + 1 - (intOf p).toNat)
        case atStart => exact ⟨0, by omega, rfl, (by rw [show pick SS 0 = [] from rfl]; exact LI.nil _ _), Below.refl _ _⟩
        case round =>
          obtain ⟨k, hk, rfl, hli, hbr⟩ := hrel
          obtain ⟨la, lc2, rfl⟩ := hli.slice
          have hsz := hbr.size
          have hpl := pick_len SS k
          have hps := pick_succ SS k
          by_cases hlt : k < n + 1
          · have g0 := (hbr.cell (p := ⟨Cn, k, none⟩) (by have := HF.out.lC; have := HKP.out.size; simp only; omega)).trans (HRB.out.cell k hlt)
            have hlt' : (k : Int) < (n : Int) + 1 := by omega
            by_cases hm : (k : Int) ∈ SS
            · rw [decide_eq_true hm] at g0
              rw [if_pos hm] at hps
              have HPS := hid hps
              have HLI := hid (hli.later ((Below.refl wr.heap.size wr).alloc (Nat.le_refl _) (.cells #[.int .i64 (k : Int)] 3)) (Nat.le_refl _))
              have HBR := hid (hbr.alloc hsz (.cells #[.int .i64 (k : Int)] 3))
              have hsa : wx.heap.size ≤ (wr.alloc (.cells #[.int .i64 (k : Int)] 3)).heap.size := by simp; omega
              have hpl2 : (pick SS k).length ≤ 1073741824 := by omega
              clear hli hbr hm hps hpl
              generalize hpk : pick SS k = pk at *
              go_wp2_with (first
                | (at_builtin; refine app_int _ rfl (.tmp 176) (.tmp 178) rfl wx.heap.size _ pk rfl HLI.out hsa ⟨wr.heap.size, 0, none⟩ k rfl (by simp [Addr.add]) hpl2 ?_; intro B1 cap1 w2 hL2 hB2 hb2; have HL2 := hid hL2; have HB2 := hid (HBR.out.trans hb2); clear hL2 hb2))
              exact ⟨⟨k + 1, by omega, by go_num, by rw [HPS.out]; exact HL2.out, HB2.out⟩, by simp [intOf]; omega⟩
            · rw [decide_eq_false hm] at g0
              rw [if_neg hm, List.append_nil] at hps
              have HPS := hid hps
              have HLI := hid hli
              have HBR := hid hbr
              clear hli hbr hm hps hpl
              generalize hpk : pick SS k = pk at *
              go_wp2_with fail
              exact ⟨⟨k + 1, by omega, by go_num, by rw [HPS.out]; exact HLI.out, HBR.out⟩, by simp [intOf]; omega⟩
          · obtain rfl : n + 1 = k := by omega
            have HLI := hid hli
            have HBR := hid hbr
            have hlt' : ¬ ((n + 1 : Nat) : Int) < (n : Int) + 1 := by omega
            clear hli hbr hps hpl
            go_wp2_with fail
            go_ret
            exact nf_end HX.out HG.out hj (HSS.out.symm.trans (by simp [sm])) HOX.out HLI.out HBR.out HKP.out HBY.out HB4.out HF.out.lC hCg
  have d0 : (cx == 0) = false := by simpa using h_0
  have d4 : (cx == 4) = false := by simpa using h_4
  have d5 : (cx == 5) = false := by simpa using h_5
  have d8 : (cx == 8) = false := by simpa using h_8
  have d7 : (cx == 7) = false := by simpa using h_7
  have d9 : (cx == 9) = false := by simpa using h_9
  have d10 : (cx == 10) = false := by simpa using h_10
  subst hox
  generalize hw4 : w3.alloc (Obj.cells #[Value.int .u8 cx, .int .i64 ax, .slice xa xn xc] 57) = w4 at *
  clear hs4
  have hal0 : w4.heap.size ≤ (w4.alloc (.cells #[.int .i64 ((j : Int) + 1)] 3)).heap.size := by simp
  have HBA0 := hid ((Below.refl w4.heap.size w4).alloc (Nat.le_refl _) (.cells #[.int .i64 ((j : Int) + 1)] 3))
  have HLA0 := hid (LI.nil (w4.alloc (.cells #[.int .i64 ((j : Int) + 1)] 3)) w4.heap.size)
  go_wp2_with (first
    | (at_builtin; refine app_ints _ rfl (.tmp 51) (.tmp 54) rfl w4.heap.size _ ([]) rfl HLA0.out hal0 ⟨w4.heap.size, 0, none⟩ [(j : Int) + 1] 1 1 rfl rfl (cells1 (by simp [Addr.add])) (by simp) ?_; intro a1 k1 s1 wy1 hk1 hL1 hb1; have HLY1 := hid hL1; have HBY1 := hid (HBA0.out.trans hb1); have HK1 := hid hk1; clear hL1 hb1 hk1))
  have HL8 := HLY1
  have HBY := HBY1
  obtain ⟨SS, hSS⟩ : ∃ SS, ([] ++ [(j : Int) + 1]) = SS := ⟨_, rfl⟩
  rw [hSS] at HL8
  have HSS := hid hSS
  have hsr : ∀ z ∈ SS, z ≤ n := by rw [← hSS]; exact (fun q hq => by simp at hq; omega)
  have HSR := hid hsr
  obtain ⟨hsl, hsc⟩ := HL8.out.cell
  have hslb : SS.length ≤ 200000 := by rw [← hSS]; simp
  have HSC := hid hsc
  have hwys := HBY.out.size
  have hcan : RB wy1 Cn (n + 1) (fun q => decide ((q : Int) ∈ SS.take 0)) := by
    have h1 : RB wy1 Cn (n + 1) (fun _ => false) := Row.keep HF.out.can (HBY.out.block _ HF.out.lC)
    exact h1.congr (fun i _ => by simp)
  have HCAN := hid hcan
  have hsk := hsl
  subst hsl
  clear hSS hsr hsc hcan
  go_wp2_with fail
  go_loopw [15] (fun p wr => ∃ k : Nat, k ≤ SS.length ∧ p = .int .i64 k ∧ RB wr Cn (n + 1) (fun q => decide ((q : Int) ∈ SS.take k)) ∧ Kept (fun b => b = Cn) wy1 wr) (fun p _ => SS.length - (intOf p).toNat)
  case atStart => exact ⟨0, by omega, rfl, HCAN.out, Kept.refl _ _⟩
  case round =>
    obtain ⟨k, hk, rfl, hrb, hkp⟩ := hrel
    clear HCAN
    by_cases hlt : k < SS.length
    · obtain ⟨Sb, rfl, hcell⟩ := HSC.out.resolve_left (by omega)
      have hSb : w4.heap.size ≤ Sb := (LI.block HL8.out rfl).1
      have hCS : ¬ Sb = Cn := by have := HF.out.lC; omega
      have g0 := hkp.cell (hcell k hlt) hCS
      have hzm : SS.getD k 0 ∈ SS := by rw [List.getD_eq_getElem?_getD, List.getElem?_eq_getElem hlt]; exact List.getElem_mem hlt
      have hzr := HSR.out _ hzm
      have htm := take_mem hlt
      by_cases hz : 0 ≤ SS.getD k 0
      · obtain ⟨t, ht⟩ : ∃ t : Nat, SS.getD k 0 = (t : Int) := ⟨(SS.getD k 0).toNat, by omega⟩
        have P := hrb.put (g := fun q => decide ((q : Int) ∈ SS.take (k + 1))) t true (fun i hi => by
          by_cases e : i = t
          · subst e
            rw [if_pos rfl, decide_eq_true ((htm _).2 (.inr ht.symm))]
          · rw [if_neg e]
            have : ((i : Int) ∈ SS.take (k + 1)) ↔ ((i : Int) ∈ SS.take k) := by rw [htm, ht]; constructor; (rintro (h | h); exact h; omega); exact .inl
            simp only [this])
        rw [ht] at g0 hzr
        have q0 := hrb.cell t (by omega)
        have r0 := Row.free hrb t
        have HP := hid (show RB _ Cn (n + 1) _ ∧ Kept (fun b => b = Cn) wy1 _ from ⟨P.1, hkp.trans P.2⟩)
        clear P hrb hkp hzm htm ht hz hcell
        have htn : (t : Int) < (n : Int) + 1 := by omega
        have ht0 : (0 : Int) ≤ (t : Int) := by omega
        go_wp2_with fail
        exact ⟨⟨k + 1, by omega, by go_num, HP.out.1, HP.out.2⟩, by simp [intOf]; omega⟩
      · have hz' : SS.getD k 0 < 0 := by omega
        have HP := hid (show RB wr Cn (n + 1) (fun q => decide ((q : Int) ∈ SS.take (k + 1))) ∧ Kept (fun b => b = Cn) wy1 wr from ⟨hrb.congr (fun i hi => by
          have : ((i : Int) ∈ SS.take (k + 1)) ↔ ((i : Int) ∈ SS.take k) := by rw [htm]; constructor; (rintro (h | h); exact h; omega); exact .inl
          simp only [this]), hkp⟩)
        generalize SS.getD k 0 = z at *
        clear hrb hkp hzm htm hcell
        go_wp2_with fail
        exact ⟨⟨k + 1, by omega, by go_num, HP.out.1, HP.out.2⟩, by simp [intOf]; omega⟩
    · obtain rfl : SS.length = k := by omega
      rw [List.take_of_length_le (Nat.le_refl _)] at hrb
      have HRB := hid hrb
      have HKP := hid hkp
      clear hrb hkp
      generalize wr = wx at *
      go_wp2_with fail
      go_loopw [16, 17] (fun v p wr => ∃ k : Nat, k ≤ n + 1 ∧ p = .int .i64 k ∧ LI wr wx.heap.size v (pick SS k) ∧ Below wx.heap.size wx wr) (fun _ p _ => n + 1 - (intOf p).toNat)
      case atStart => exact ⟨0, by omega, rfl, (by rw [show pick SS 0 = [] from rfl]; exact LI.nil _ _), Below.refl _ _⟩
      case round =>
        obtain ⟨k, hk, rfl, hli, hbr⟩ := hrel
        obtain ⟨la, lc2, rfl⟩ := hli.slice
        have hsz := hbr.size
        have hpl := pick_len SS k
        have hps := pick_succ SS k
        by_cases hlt : k < n + 1
        · have g0 := (hbr.cell (p := ⟨Cn, k, none⟩) (by have := HF.out.lC; have := HKP.out.size; simp only; omega)).trans (HRB.out.cell k hlt)
          have hlt' : (k : Int) < (n : Int) + 1 := by omega
          by_cases hm : (k : Int) ∈ SS
          · rw [decide_eq_true hm] at g0
            rw [if_pos hm] at hps
            have HPS := hid hps
            have HLI := hid (hli.later ((Below.refl wr.heap.size wr).alloc (Nat.le_refl _) (.cells #[.int .i64 (k : Int)] 3)) (Nat.le_refl _))
            have HBR := hid (hbr.alloc hsz (.cells #[.int .i64 (k : Int)] 3))
            have hsa : wx.heap.size ≤ (wr.alloc (.cells #[.int .i64 (k : Int)] 3)).heap.size := by simp; omega
            have hpl2 : (pick SS k).length ≤ 1073741824 := by omega
            clear hli hbr hm hps hpl
            generalize hpk : pick SS k = pk at *
            go_wp2_with (first
              | (at_builtin; refine app_int _ rfl (.tmp 176) (.tmp 178) rfl wx.heap.size _ pk rfl HLI.out hsa ⟨wr.heap.size, 0, none⟩ k rfl (by simp [Addr.add]) hpl2 ?_; intro B1 cap1 w2 hL2 hB2 hb2; have HL2 := hid hL2; have HB2 := hid (HBR.out.trans hb2); clear hL2 hb2))
            exact ⟨⟨k + 1, by omega, by go_num, by rw [HPS.out]; exact HL2.out, HB2.out⟩, by simp [intOf]; omega⟩
          · rw [decide_eq_false hm] at g0
            rw [if_neg hm, List.append_nil] at hps
            have HPS := hid hps
            have HLI := hid hli
            have HBR := hid hbr
            clear hli hbr hm hps hpl
            generalize hpk : pick SS k = pk at *
            go_wp2_with fail
            exact ⟨⟨k + 1, by omega, by go_num, by rw [HPS.out]; exact HLI.out, HBR.out⟩, by simp [intOf]; omega⟩
        · obtain rfl : n + 1 = k := by omega
          have HLI := hid hli
          have HBR := hid hbr
          have hlt' : ¬ ((n + 1 : Nat) : Int) < (n : Int) + 1 := by omega
          clear hli hbr hps hpl
          go_wp2_with fail
          go_ret
          exact nf_end HX.out HG.out hj (HSS.out.symm.trans (by simp [sm, h_0, h_4, h_5, h_8, h_7, h_9, h_10])) HOX.out HLI.out HBR.out HKP.out HBY.out HB4.out HF.out.lC hCg

set_option maxRecDepth 100000 in
set_option maxHeartbeats 2000000 in
theorem refNext_none (a : Option Addr) (n cap : Nat) (xs : List Inx) (pc : Int) (w : World) (hn : n ≤ 1048576) (hcap : n ≤ cap) (hc : CodS w a n xs) (hno : ¬ ((res (opF xs) n 0).1 = 0 ∧ 0 ≤ pc ∧ pc < n)) :
    Calls Tryd.prog 18 #[.slice a n cap, .int .i64 pc] w fun e w' => e = .returned nilV ∧ Below w.heap.size w w' := by
  have H1 := hid (refMap a n cap xs w hn hcap hc)
  clear hc
  go_enter Tryd.func18, Tryd.ntmps18
  go_wp2_with fail
  refine H1.out.mono ?_
  rintro e w1 ⟨a1, a2, a3, n1, n2, n3, c1, c2, c3, rfl, hM, hb⟩
  have HB := hid hb
  clear hM hb H1
  by_cases h0 : (res (opF xs) n 0).1 = 0
  · have hz : ((res (opF xs) n 0).1 != 0) = false := by rw [h0]; rfl
    have hz' : ((res (opF xs) n 0).1 == 0) = true := by rw [h0]; rfl
    by_cases hp : pc < 0
    · clear hno h0
      generalize (res (opF xs) n 0).1 = r1 at *
      generalize (res (opF xs) n 0).2 = r2 at *
      go_wp2_with fail
      go_ret
      exact ⟨rfl, HB.out⟩
    · have hp2 : (n : Int) ≤ pc := by omega
      clear hno h0
      generalize (res (opF xs) n 0).1 = r1 at *
      generalize (res (opF xs) n 0).2 = r2 at *
      go_wp2_with fail
      go_ret
      exact ⟨rfl, HB.out⟩
  · have hz : ((res (opF xs) n 0).1 != 0) = true := by simpa using h0
    have hz' : ((res (opF xs) n 0).1 == 0) = false := by simpa using h0
    clear hno h0
    generalize (res (opF xs) n 0).1 = r1 at *
    generalize (res (opF xs) n 0).2 = r2 at *
    go_wp2_with fail
    go_ret
    exact ⟨rfl, HB.out⟩

/-- The document's Next. -/
theorem refNext (a : Option Addr) (n cap : Nat) (xs : List Inx) (pc : Int) (w : World) (hn : n ≤ 100000) (hcap : n ≤ cap) (hc : CodS w a n xs) (hln : ∀ j, j < n → (xs.getD j dx).ln ≤ 100000) :
    Calls Tryd.prog 18 #[.slice a n cap, .int .i64 pc] w fun e w' => ∃ v, e = .returned v ∧ LI w' w.heap.size v (nxtV (opF xs) n pc (xs.getD pc.toNat dx)) ∧ Below w.heap.size w w' := by
  unfold nxtV
  by_cases h : (res (opF xs) n 0).1 = 0 ∧ 0 ≤ pc ∧ pc < n
  · obtain ⟨j, rfl⟩ : ∃ j : Nat, pc = (j : Int) := ⟨pc.toNat, by omega⟩
    rw [if_pos h, Int.toNat_natCast]
    have hj : j < n := by omega
    rcases hc.2 with h0 | ⟨b, off, rfl, hcd⟩
    · omega
    exact refNext_in b off n cap xs j w hn hcap hcd hj h.1 (hln j hj)
  · rw [if_neg h]
    exact (refNext_none a n cap xs pc w (by omega) hcap hc h).mono fun e w' ⟨he, hb⟩ => ⟨_, he, LI.nil _ _, hb⟩
end Go.Proofs.YtkcidabokgadcaaDoor

/-
  The walk over WireBack: true, whatever the numbers, the text and the bytes.
-/
import Derived.Test.YtlhopgdafaehhaaReadsLaw
import Derived.Test.YtlhopgdafaehhaaWrite
import Derived.Deep.RegionHeld3
namespace Go.Proofs.Ytlhopgdafaehhaa
open Go.RowKit
set_option linter.unusedVariables false

theorem str_back (s : ByteArray) : strOfNums (strBytes s) = s := by
  have h : (strBytes s).map (fun n => UInt8.ofNat n.toNat) = s.data.toList := by
    unfold strBytes
    rw [List.map_map]
    conv => rhs; rw [← List.map_id s.data.toList]
    apply List.map_congr_left
    intro c _
    simp
  unfold strOfNums
  rw [h]

theorem text_back (A R : List Int) (s : ByteArray) (hs : s.size ≤ 1000000) : rtAt (A ++ (uvar s.size ++ strBytes s) ++ R) A.length s.size = (strBytes s, (A.length : Int) + ((uvar s.size).length + s.size : Nat), 0) := by
  have e : A ++ (uvar s.size ++ strBytes s) ++ R = A ++ uvar s.size ++ (strBytes s ++ R) := by simp [List.append_assoc]
  have hb := read_back A (strBytes s ++ R) s.size (by omega) (by omega)
  have hl : (A ++ uvar s.size ++ (strBytes s ++ R)).length = A.length + (uvar s.size).length + s.size + R.length := by
    simp only [List.length_append, strBytes_len]; omega
  have hr : rbAt (A ++ uvar s.size ++ (strBytes s ++ R)) A.length s.size 13 = ((s.size : Int), (A.length : Int) + (uvar s.size).length, 0) := by
    unfold rbAt
    rw [hb, hl, if_neg (by omega), if_neg (by simp), if_neg (by simp)]
  rw [e]
  unfold rtAt
  rw [hr, hl]
  rw [if_neg (by simp), if_neg (by simp only; omega)]
  have e1 : ((A.length : Int) + (uvar s.size).length).toNat = (A ++ uvar s.size).length := by rw [List.length_append]; omega
  simp only [e1, List.drop_left, Int.toNat_natCast]
  have e2 : (strBytes s ++ R).take s.size = strBytes s := by
    rw [← strBytes_len s]; exact List.take_left
  rw [e2]
  refine Prod.ext rfl (Prod.ext ?_ rfl)
  simp only [Int.natCast_add]; omega

theorem Seg.cut {w : World} {b n cap : Nat} {zs : List Int} (h : Seg w (some ⟨b, 0, none⟩) n cap zs) (i : Nat) (hi : i ≤ n) : Seg w (some ⟨b, 0, none⟩) i cap (zs.take i) := by
  obtain ⟨hz, hc, hn, hr, ha⟩ := h
  refine ⟨by simp; omega, by omega, by omega, fun z hz => hr z (List.mem_of_mem_take hz), ?_⟩
  by_cases h0 : i = 0
  · exact .inl h0
  · rcases ha with ha | ⟨b', off, e, ha⟩
    · omega
    · refine .inr ⟨b', off, e, fun j hj => ?_⟩
      rw [ha j (by omega)]
      simp [hj]

theorem Seg.part {w : World} {b off n cap : Nat} {zs : List Int} (h : Seg w (some ⟨b, off, none⟩) n cap zs) (p q : Nat) (hp : p ≤ q) (hq : q ≤ n) : Seg w (some ⟨b, off + p, none⟩) (q - p) (cap - p) ((zs.drop p).take (q - p)) := by
  obtain ⟨hz, hc, hn, hr, ha⟩ := h
  refine ⟨by simp; omega, by omega, by omega, fun z hz => hr z (List.mem_of_mem_drop (List.mem_of_mem_take hz)), ?_⟩
  by_cases h0 : q - p = 0
  · exact .inl h0
  · rcases ha with ha | ⟨b', off', e, ha⟩
    · omega
    · simp at e
      obtain ⟨rfl, rfl⟩ := e
      refine .inr ⟨b, off + p, rfl, fun j hj => ?_⟩
      rw [Nat.add_assoc, ha (p + j) (by omega)]
      simp [hj]

/-- EqBytes, the two lengths said apart. -/
theorem eq15x (a1 a2 : Option Addr) (n1 n2 c1 c2 : Nat) (zs : List Int) (w : World) (hn : n1 = n2) (h1 : Seg w a1 n1 c1 zs) (h2 : Seg w a2 n2 c2 zs) :
    Calls Try.prog 15 #[.slice a1 n1 c1, .slice a2 n2 c2] w fun e w' => e = .returned (.bool true) ∧ ∃ m, w' = w.drewN m := by
  subst hn; exact eq15 a1 a2 n1 c1 c2 zs w h1 h2

theorem uf_range (u : Int) (h0 : 0 ≤ u) (h1 : u < 18446744073709551616) : -9223372036854775808 ≤ uf u ∧ uf u < 9223372036854775808 := by
  unfold uf; split <;> omega

theorem below_of_drew {w w' : World} (h : Below w.drew.heap.size w.drew w') : Below w.heap.size w w' := ((Below.refl _ _).drew).trans h

/-- Uvar and Svar behind a draw. -/
theorem uvar17d (v : Int) (w : World) (h0 : 0 ≤ v) (h1 : v < 18446744073709551616) :
    Calls Try.prog 17 #[.int .u64 v] w.drew fun e w' => e = .returned (.slice (some ⟨w.heap.size + 2, 0, none⟩) (uvar v).length (uvar v).length) ∧
      Seg w' (some ⟨w.heap.size + 2, 0, none⟩) (uvar v).length (uvar v).length (uvar v) ∧ Below w.heap.size w w' ∧ w.heap.size + 2 < w'.heap.size :=
  (uvar17 v w.drew h0 h1).mono fun e w' ⟨he, hs, hb, hz⟩ => ⟨he, hs, below_of_drew hb, hz⟩
theorem svar19d (v : Int) (w : World) (h0 : -9223372036854775808 ≤ v) (h1 : v < 9223372036854775808) :
    Calls Try.prog 19 #[.int .i64 v] w.drew fun e w' => e = .returned (.slice (some ⟨w.heap.size + 2, 0, none⟩) (uvar (fo v)).length (uvar (fo v)).length) ∧
      Seg w' (some ⟨w.heap.size + 2, 0, none⟩) (uvar (fo v)).length (uvar (fo v)).length (uvar (fo v)) ∧ Below w.heap.size w w' ∧ w.heap.size + 2 < w'.heap.size :=
  (svar19 v w.drew h0 h1).mono fun e w' ⟨he, hs, hb, hz⟩ => ⟨he, hs, below_of_drew hb, hz⟩

set_option maxRecDepth 100000 in
set_option maxHeartbeats 1500000 in
theorem back4 (u n : Int) (s : ByteArray) (a3 a4 : Option Addr) (n3 c3 n4 c4 : Nat) (z3 z4 : List Int) (pa : Int) (w : World) (hu0 : 0 ≤ u) (hu1 : u < 18446744073709551616)
    (hn0 : -9223372036854775808 ≤ n) (hn1 : n < 9223372036854775808) (hsum : s.size + n3 + n4 ≤ 65536) (h3 : Seg w a3 n3 c3 z3) (e3 : a3 = none → c3 = 0) (h4 : Seg w a4 n4 c4 z4) (e4 : a4 = none → c4 = 0) :
    Calls Try.prog 4 #[.int .u64 u, .int .i64 n, .string s, .slice a3 n3 c3, .slice a4 n4 c4, .int .i64 pa] w fun e w' => e = .returned (.bool true) ∧ Below w.heap.size w w' := by
  have E3 := hid e3
  have E4 := hid e4
  have H3 := hid h3
  have H4 := hid h4
  have hlu := uvar_len u
  have RB := hid (read_back z3 z4 u hu0 hu1)
  have RC := hid (fun i => read_cut z3 u i hu0 hu1)
  have UV := hid (fun W => uvar17 u W hu0 hu1)
  have hz3 := h3.1
  clear e3 e4 h3 h4
  generalize uvar u = lu at *
  go_enter Try.func4, Try.ntmps4
  go_wp2_with fail
  refine (works5 _).mono ?_
  rintro e w1 ⟨rfl, hb1⟩
  have B1 := hid hb1
  clear hb1
  go_wp2_with fail
  refine (UV.out _).mono ?_
  rintro e w2 ⟨rfl, hs2, hb2, hz2⟩
  have S2 := hid hs2
  have B2 := hid (B1.out.trans (hb2.mono B1.out.size))
  clear hs2 hb2
  have J := hid (joined18 a3 _ a4 n3 lu.length n4 c3 lu.length c4 z3 lu z4 w2 (H3.out.later B2.out (Nat.le_refl _)) S2.out (H4.out.later B2.out (Nat.le_refl _)) E3.out (fun h => by cases h) E4.out (by omega))
  go_wp2_with fail
  refine J.out.mono ?_
  rintro e w3 ⟨ja, jc, rfl, hs3, hb3⟩
  have c7 := tup3 (ru7 _ _ _ _ (n3 : Int) _ hs3)
  have rb := RB.out
  rw [hz3] at rb
  rw [rb] at c7
  simp only at c7
  have C7 := hid c7
  have B3 := hid (B2.out.trans (hb3.mono B2.out.size))
  have S3 := hid (S2.out.later hb3 (Nat.le_refl _))
  clear c7 rb hs3 hb3 J RB
  go_wp2_with fail
  refine C7.out.mono ?_
  rintro e w4 ⟨rfl, rfl⟩
  clear C7
  have hd10 : ¬ (10 : Int) < (lu.length : Int) := by omega
  go_wp2_with fail
  go_loopw [19] (fun i wr => ∃ k : Nat, k ≤ lu.length ∧ i = .int .i64 k ∧ Below w4.heap.size w4 wr) (fun i _ => lu.length - (intOf i).toNat)
  case atStart => exact ⟨0, by omega, rfl, Below.refl _ _⟩
  case round =>
    obtain ⟨k, hk, rfl, hb⟩ := hrel
    have HB := hid hb
    have BW := hid (B3.out.trans (hb.mono B3.out.size))
    clear hb
    by_cases hlt : k < lu.length
    · have rc := RC.out k hlt
      rw [hz3] at rc
      have RCk := hid rc
      have J := hid (joined18 a3 _ none n3 k 0 c3 lu.length 0 z3 (lu.take k) [] wr (H3.out.later BW.out (Nat.le_refl _)) ((S3.out.later HB.out (Nat.le_refl _)).cut k (by omega)) ⟨rfl, Nat.le_refl _, by omega, by simp, .inl rfl⟩ E3.out (fun h => by cases h) (fun _ => rfl) (by omega))
      clear rc
      go_wp2_with fail
      refine J.out.mono ?_
      rintro e w5 ⟨ja, jc, rfl, hs5, hb5⟩
      have c7 := tup3 (ru7 _ _ _ _ (n3 : Int) _ hs5)
      rw [RCk.out] at c7
      simp only at c7
      have C7 := hid c7
      have B5 := hid (HB.out.trans (hb5.mono HB.out.size))
      clear c7 hs5 hb5 J RCk
      go_wp2_with fail
      refine C7.out.mono ?_
      rintro e w6 ⟨rfl, rfl⟩
      clear C7
      go_wp2_with fail
      exact ⟨⟨k + 1, by omega, by go_num, B5.out⟩, by simp [intOf]; omega⟩
    · clear HB S3 RC UV S2 B3 B2 B1 hd10
      have SV := hid (svar19 n wr hn0 hn1)
      have hfr := fo_range n hn0 hn1
      have rs := read_back z3 z4 (fo n) hfr.1 hfr.2
      have RS := hid (show rsAt (z3 ++ uvar (fo n) ++ z4) n3 = (n, (n3 : Int) + (uvar (fo n)).length, 0) by
        unfold rsAt
        rw [hz3] at rs
        rw [rs]
        simp only
        rw [uf_fo])
      have hls := uvar_len (fo n)
      clear hfr rs
      generalize uvar (fo n) = ls at *
      go_wp2_with fail
      refine SV.out.mono ?_
      rintro e w7 ⟨rfl, hs7, hb7, hz7⟩
      have B7 := hid (BW.out.trans (hb7.mono BW.out.size))
      have J := hid (joined18 a3 _ a4 n3 ls.length n4 c3 ls.length c4 z3 ls z4 w7 (H3.out.later B7.out (Nat.le_refl _)) hs7 (H4.out.later B7.out (Nat.le_refl _)) E3.out (fun h => by cases h) E4.out (by omega))
      clear SV hs7 hb7 hz7 BW
      go_wp2_with fail
      refine J.out.mono ?_
      rintro e w8 ⟨ja8, jc8, rfl, hs8, hb8⟩
      have c9 := tup3 (rs9 _ _ _ _ (n3 : Int) _ hs8)
      rw [RS.out] at c9
      simp only at c9
      have C9 := hid c9
      have B8 := hid (B7.out.trans (hb8.mono B7.out.size))
      clear c9 hs8 hb8 J RS B7
      go_wp2_with fail
      refine C9.out.mono ?_
      rintro e w9 ⟨rfl, rfl⟩
      clear C9
      have RT := hid (show rtAt (z3 ++ (uvar s.size ++ strBytes s) ++ z4) n3 s.size = (strBytes s, (n3 : Int) + ((uvar s.size).length + s.size : Nat), 0) by
        have h := text_back z3 z4 s (by omega)
        rw [hz3] at h
        exact h)
      have TX := hid (text20 s w9 (by omega))
      have hlt2 := uvar_len s.size
      generalize uvar s.size = lt at *
      go_wp2_with fail
      refine TX.out.mono ?_
      rintro e w10 ⟨B, rfl, hs10, hb10, _, _⟩
      have B10 := hid (B8.out.trans (hb10.mono B8.out.size))
      have J := hid (joined18 a3 _ a4 n3 (lt.length + s.size) n4 c3 (lt.length + s.size) c4 z3 (lt ++ strBytes s) z4 w10 (H3.out.later B10.out (Nat.le_refl _)) hs10 (H4.out.later B10.out (Nat.le_refl _)) E3.out (fun h => by cases h) E4.out (by omega))
      clear TX hs10 hb10 B8
      go_wp2_with fail
      refine J.out.mono ?_
      rintro e w11 ⟨ja11, jc11, rfl, hs11, hb11⟩
      have c13 := tupT (rt13 _ _ _ _ (n3 : Int) s.size _ hs11 (by omega))
      rw [RT.out] at c13
      simp only [str_back] at c13
      have C13 := hid c13
      have B11 := hid (B10.out.trans (hb11.mono B10.out.size))
      clear c13 hs11 hb11 J RT B10
      go_wp2_with fail
      refine C13.out.mono ?_
      rintro e w12 ⟨rfl, rfl⟩
      have S4 := hid (H4.out.later B11.out (Nat.le_refl _))
      have HB := hid B11.out
      have hzr := H4.out.2.2.2.1
      have hcap := H4.out.2.1
      have hz4 := H4.out.1
      have c7 := tup3 (ru7 _ _ _ _ pa _ S4.out)
      have c9 := fun W (h : Seg W a4 n4 c4 z4) => tup3 (rs9 _ _ _ _ pa _ h)
      have hsame := fun v q => read_same z4 pa v q hzr
      unfold rsAt at c9
      clear C13 H3 H4 B11 E3 E4
      generalize ruAt z4 pa = r at c7 c9 hsame
      obtain ⟨v, q, x⟩ := r
      simp only at c7 c9
      have C7 := hid c7
      have C9 := hid c9
      clear c7 c9 hzr
      by_cases hx : x = 0
      · subst hx
        obtain ⟨hv, hv0, hv1, hp0, hpq, hq⟩ := hsame v q rfl
        clear hsame
        obtain ⟨p, rfl⟩ := Int.eq_ofNat_of_zero_le hp0
        obtain ⟨q, rfl⟩ := Int.eq_ofNat_of_zero_le (by omega : 0 ≤ q)
        rw [Int.toNat_natCast, show ((q : Int) - (p : Int)).toNat = q - p by omega] at hv
        have HV := hid hv
        have HL := hid (show (uvar v).length = q - p by rw [← hv]; simp; omega)
        clear hv
        go_wp2_with fail
        refine C7.out.mono ?_
        rintro e w13 ⟨rfl, rfl⟩
        clear C7
        rcases S4.out.2.2.2.2 with h0 | ⟨b, off, rfl, hcell⟩
        · omega
        clear hcell
        have hpc : (p : Int) ≤ (q : Int) := by omega
        have hqc : (q : Int) ≤ (c4 : Int) := by omega
        have hpne : ¬ c4 = p := by omega
        have UV := hid (fun W => uvar17d v W hv0 hv1)
        go_wp2_with fail
        have sp := S4.out.part p q (by omega) (by omega)
        rw [HV.out] at sp
        have SP := hid sp
        clear sp
        go_region_held3 (fun _ => True) (trivial) (first
          | (go_at_call 17; refine (UV.out _).mono ?_; rintro e wa ⟨rfl, hsa, hba, hza⟩; have HSA := hid hsa; have HBA := hid hba; clear hsa hba)
          | (go_at_call 15; refine (eq15x _ _ _ _ _ _ (uvar v) _ HL.out HSA.out (SP.out.later HBA.out (Nat.le_refl _))).mono ?_; rintro e wb ⟨rfl, m, rfl⟩))
        have S5 := hid ((S4.out.later HBA.out (Nat.le_refl _)).drewN m)
        have SP5 := hid ((SP.out.later HBA.out (Nat.le_refl _)).drewN m)
        have B5 := hid (below_drewN (HB.out.trans (HBA.out.mono HB.out.size)) m)
        clear S4 SP HSA HBA HB UV
        generalize wa.drewN m = w15 at S5 SP5 B5 ⊢
        go_wp2_with fail
        refine (C9.out _ S5.out).mono ?_
        rintro e w14 ⟨rfl, rfl⟩
        have hur := uf_range v hv0 hv1
        have SV := hid (fun W => svar19d (uf v) W hur.1 hur.2)
        rw [fo_uf v hv0] at SV
        clear C9 S5
        go_wp2_with fail
        go_region_held3 (fun _ => True) (trivial) (first
          | (go_at_call 19; refine (SV.out _).mono ?_; rintro e wc ⟨rfl, hsa, hba, hza⟩; have HSA := hid hsa; have HBA := hid hba; clear hsa hba)
          | (go_at_call 15; refine (eq15x _ _ _ _ _ _ (uvar v) _ HL.out HSA.out (SP5.out.later HBA.out (Nat.le_refl _))).mono ?_; rintro e wd ⟨rfl, m2, rfl⟩))
        go_wp2
        go_ret
        exact ⟨rfl, below_drewN (B5.out.trans (HBA.out.mono B5.out.size)) m2⟩
      · have hx' : (x == 0) = false := by simp [hx]
        have hx2 : (x != 0) = true := by simp [hx]
        clear hsame hz4
        go_wp2_with fail
        refine C7.out.mono ?_
        rintro e w13 ⟨rfl, rfl⟩
        clear C7
        go_wp2_with fail
        go_quiet (fail)
        go_wp2_with fail
        refine (C9.out _ (S4.out.drewN nq)).mono ?_
        rintro e w14 ⟨rfl, rfl⟩
        clear C9
        go_wp2_with fail
        go_quiet (fail)
        go_wp2
        go_ret
        exact ⟨rfl, by first | exact below_drewN HB.out _ | exact below_drewN (below_drewN HB.out _) _⟩

set_option maxRecDepth 100000 in
set_option maxHeartbeats 1000000 in
/-- Too much of it is let go. -/
theorem back4_big (u n : Int) (s : ByteArray) (a3 a4 : Option Addr) (n3 c3 n4 c4 : Nat) (pa : Int) (w : World) (hsum : 65536 < s.size + n3 + n4) (h2 : s.size ≤ 140737488355328) (h3 : n3 ≤ 140737488355328) (h4 : n4 ≤ 140737488355328) :
    Calls Try.prog 4 #[.int .u64 u, .int .i64 n, .string s, .slice a3 n3 c3, .slice a4 n4 c4, .int .i64 pa] w fun e w' => e = .returned (.bool true) ∧ Below w.heap.size w w' := by
  have hs' : (65536 : Int) < (s.size : Int) + n3 + n4 := by omega
  go_enter Try.func4, Try.ntmps4
  go_wp2_with fail
  refine (works5 _).mono ?_
  rintro e w1 ⟨rfl, hb1⟩
  go_wp2
  go_ret
  exact ⟨rfl, hb1⟩
end Go.Proofs.Ytlhopgdafaehhaa

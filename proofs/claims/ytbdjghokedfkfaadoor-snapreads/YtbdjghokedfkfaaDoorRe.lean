/-
  snap's reader: a frame.
-/
import Derived.Test.YtbdjghokedfkfaaDoorRd
namespace Go.Proofs.YtbdjghokedfkfaaDoor
open Go.RowKit
set_option linter.unusedVariables false
set_option maxRecDepth 100000

theorem blk_set {w : World} {b i : Nat} {cur : Array Value} {t : TypeId} {v : Value} (h : w.heap[b]? = some (.cells cur t)) : (w.setCell ⟨b, i, none⟩ v).heap[b]? = some (.cells (cur.setIfInBounds i v) t) := by
  rw [setCell_eq_setRow w b i cur t (0, 0) v h]
  exact setRow_heap w b cur _ t _ h
theorem RwU.keep {S : Nat → Prop} {base B : Nat} {w w' : World} {l : List Int} (h : RwU base w B l) (hk : Kept S w w') (hs : ¬ S B) : RwU base w' B l :=
  ⟨own_keepB h.own hk (fun b hb => by obtain rfl : B = b := by simpa [Value.ownBlock] using hb
                                      exact hs), h.lo, Nat.lt_of_lt_of_le h.hi hk.size⟩
theorem RwU.low {base base' B : Nat} {w : World} {l : List Int} (h : RwU base w B l) (hb : base' ≤ base) : RwU base' w B l := ⟨own_low h.own hb, Nat.le_trans hb h.lo, h.hi⟩
theorem RwU.si {base B : Nat} {w : World} {l : List Int} (h : RwU base w B l) : SI .u64 w (some ⟨B, 0, none⟩) l.length l :=
  ⟨rfl, .inr ⟨B, 0, rfl, fun j x hj => by
    have := h.own.cellAt j (by have := lt_of_get hj; omega)
    rw [Nat.zero_add, this]
    simp [hj]⟩⟩

theorem frzB {w : World} {b i : Nat} {a : Array Value} {t : TypeId} (h : w.heap[b]? = some (.cells a t)) : w.frozen? ⟨b, i, none⟩ = false := by
  unfold World.frozen?
  rw [h]
  simp
theorem keep_blk {R b : Nat} {o : Obj} {w w' : World} (hk : Kept (fun k => k = R) w w') (hb : b ≠ R) (h : w.heap[b]? = some o) : w'.heap[b]? = some o := (hk.block b (nb_lt h) (by omega)).trans h
theorem put_blk {B b i : Nat} {v : Value} {o : Obj} {w : World} (hb : b ≠ B) (h : w.heap[b]? = some o) : (w.setCell ⟨B, i, none⟩ v).heap[b]? = some o := (Below.heap_setCell _ _ _ _ (by simpa using hb)).trans h
/-- A frame as it is read. -/
abbrev FrP := Int × Int × List Int × List Int
def frR (zs : List Int) (st : RS) : FrP × RS :=
  (((nmR zs 127 17 st).1, (nmR zs 2047 17 (nmR zs 127 17 st).2).1, (lsR zs 64 (nmR zs 2047 17 (nmR zs 127 17 st).2).2).1, (lsR zs 256 (lsR zs 64 (nmR zs 2047 17 (nmR zs 127 17 st).2).2).2).1),
    (lsR zs 256 (lsR zs 64 (nmR zs 2047 17 (nmR zs 127 17 st).2).2).2).2)
abbrev frN (x : FrP) (B1 B2 : Nat) : FrM := (x.1, x.2.1, ((some ⟨B1, 0, none⟩, x.2.2.1.length, x.2.2.1.length), x.2.2.1), ((some ⟨B2, 0, none⟩, x.2.2.2.length, x.2.2.2.length), x.2.2.2))
structure FrA (base : Nat) (w : World) (x : FrP) (B1 B2 : Nat) : Prop where
  l : RwU base w B1 x.2.2.1
  s : RwU base w B2 x.2.2.2
  lt : B1 < B2
theorem FrA.keep {S : Nat → Prop} {base : Nat} {w w' : World} {x : FrP} {B1 B2 : Nat} (h : FrA base w x B1 B2) (hk : Kept S w w') (h1 : ¬ S B1) (h2 : ¬ S B2) : FrA base w' x B1 B2 := ⟨h.l.keep hk h1, h.s.keep hk h2, h.lt⟩

set_option maxHeartbeats 4000000 in
theorem frame34 (R : Nat) (a : Option Addr) (n c : Nat) (zs : List Int) (st : RS) (w : World) (h : Rd w R a n c zs st) :
    Calls Tryd.prog 84 #[.pointer (some ⟨R, 0, none⟩)] w fun e w' => ∃ B1 B2, e = .returned (frV (frN (frR zs st).1 B1 B2)) ∧ FrA w.heap.size w' (frR zs st).1 B1 B2 ∧ Rd w' R a n c zs (frR zs st).2 ∧ Kept (fun k => k = R) w w' := by
  have hz := h.seg.2.2.2.1
  have l1 := nmR_le (st := st) hz (by decide : (17 : Int) ≠ 0) (by decide : (0 : Int) ≤ 127)
  have N1 := hid (fun (W : World) (hW : Rd W R a n c zs st) => number29 R a n c zs st 127 17 W hW (.inl (by decide)))
  have e : frR zs st = (((nmR zs 127 17 st).1, (nmR zs 2047 17 (nmR zs 127 17 st).2).1, (lsR zs 64 (nmR zs 2047 17 (nmR zs 127 17 st).2).2).1, (lsR zs 256 (lsR zs 64 (nmR zs 2047 17 (nmR zs 127 17 st).2).2).2).1),
    (lsR zs 256 (lsR zs 64 (nmR zs 2047 17 (nmR zs 127 17 st).2).2).2).2) := rfl
  rw [e]
  clear e
  generalize nmR zs 127 17 st = p1 at *
  obtain ⟨V1, s1⟩ := p1
  dsimp only at *
  have l2 := nmR_le (st := s1) hz (by decide : (17 : Int) ≠ 0) (by decide : (0 : Int) ≤ 2047)
  have N2 := hid (fun (W : World) (hW : Rd W R a n c zs s1) => number29 R a n c zs s1 2047 17 W hW (.inl (by decide)))
  generalize nmR zs 2047 17 s1 = p2 at *
  obtain ⟨V2, s2⟩ := p2
  dsimp only at *
  have N3 := hid (fun (W : World) (hW : Rd W R a n c zs s2) => rlU30 R a n c zs s2 64 W hW (by decide))
  simp only [Int.cast_ofNat_Int] at N3
  generalize lsR zs 64 s2 = p3 at *
  obtain ⟨L1, s3⟩ := p3
  dsimp only at *
  have N4 := hid (fun (W : World) (hW : Rd W R a n c zs s3) => rlU30 R a n c zs s3 256 W hW (by decide))
  simp only [Int.cast_ofNat_Int] at N4
  generalize lsR zs 256 s3 = p4 at *
  obtain ⟨L2, s4⟩ := p4
  dsimp only at *
  have hv1 : IntKind.i64.wrap V1 = V1 := i64_in V1 (by omega) (by omega)
  have hv2 : IntKind.i64.wrap V2 = V2 := i64_in V2 (by omega) (by omega)
  have hRl := h.lt
  have HLO := hid h.low
  have b0 := below_new w (frO 0 0 none 0 0 none 0 0)
  have b1 := b0.trans ((below_new (w.alloc (frO 0 0 none 0 0 none 0 0)) (frO 0 0 none 0 0 none 0 0)).mono b0.size)
  have K0 := hid (kept_R (R := R) b1)
  have R0 := hid (h.later b1)
  have kb0 : ((w.alloc (frO 0 0 none 0 0 none 0 0)).alloc (frO 0 0 none 0 0 none 0 0)).heap[w.heap.size + 1]? = some (frO 0 0 none 0 0 none 0 0) := nb_at (by simp)
  have ka0 : ((w.alloc (frO 0 0 none 0 0 none 0 0)).alloc (frO 0 0 none 0 0 none 0 0)).heap[w.heap.size]? = some (frO 0 0 none 0 0 none 0 0) := nb_later (below_new _ _) (nb_new _ _)
  have hsz : ((w.alloc (frO 0 0 none 0 0 none 0 0)).alloc (frO 0 0 none 0 0 none 0 0)).heap.size = w.heap.size + 2 := by simp
  have KA := hid ka0
  have KB := hid kb0
  clear h hz l1 l2 b0 b1 ka0 kb0
  go_enter Tryd.func84, Tryd.ntmps84
  go_wp2_with fail
  generalize (w.alloc (frO 0 0 none 0 0 none 0 0)).alloc (frO 0 0 none 0 0 none 0 0) = W0 at *
  have HS0 := hid (show w.heap.size + 2 ≤ W0.heap.size by omega)
  refine (N1.out W0 R0.out).mono ?_
  rintro e w1 ⟨rfl, h1, k1⟩
  have kb := keep_blk k1 (by omega : w.heap.size + 1 ≠ R) KB.out
  have ka := keep_blk k1 (by omega : w.heap.size ≠ R) KA.out
  have g0 : w1.cell? ⟨w.heap.size + 1, 0, none⟩ = some (.int .i64 0) := cell_at kb
  have g1 : w1.frozen? ⟨w.heap.size + 1, 0, none⟩ = false := frzB kb
  have KB := hid (show (w1.setCell ⟨w.heap.size + 1, 0, none⟩ (.int .i64 V1)).heap[w.heap.size + 1]? = some (frO V1 0 none 0 0 none 0 0) from blk_set kb)
  have KA := hid (show (w1.setCell ⟨w.heap.size + 1, 0, none⟩ (.int .i64 V1)).heap[w.heap.size]? = some (frO 0 0 none 0 0 none 0 0) from put_blk (by omega) ka)
  have R1 := hid (h1.put (B := w.heap.size + 1) (i := 0) (v := (.int .i64 V1)) (by omega) (fun b off e hn => by have := HLO.out b off e hn; omega))
  have HS1 := hid (show w.heap.size + 2 ≤ (w1.setCell ⟨w.heap.size + 1, 0, none⟩ (.int .i64 V1)).heap.size by have := k1.size; have := HS0.out; simp [World.setCell]; omega)
  have K1 := hid ((K0.out.trans k1).then (kept_put (B := w.heap.size + 1) (i := 0) (v := (.int .i64 V1))) (fun q h1 h2 => by omega))
  clear h1 k1 kb ka N1
  go_wp2_with fail
  generalize hW1 : w1.setCell ⟨w.heap.size + 1, 0, none⟩ (.int .i64 V1) = W1 at *
  clear g0 g1
  refine (N2.out W1 R1.out).mono ?_
  rintro e w2 ⟨rfl, h2, k2⟩
  have kb := keep_blk k2 (by omega : w.heap.size + 1 ≠ R) KB.out
  have ka := keep_blk k2 (by omega : w.heap.size ≠ R) KA.out
  have g0 : w2.cell? ⟨w.heap.size + 1, 1, none⟩ = some (.int .i64 0) := cell_at kb
  have g1 : w2.frozen? ⟨w.heap.size + 1, 1, none⟩ = false := frzB kb
  have KB := hid (show (w2.setCell ⟨w.heap.size + 1, 1, none⟩ (.int .i64 V2)).heap[w.heap.size + 1]? = some (frO V1 V2 none 0 0 none 0 0) from blk_set kb)
  have KA := hid (show (w2.setCell ⟨w.heap.size + 1, 1, none⟩ (.int .i64 V2)).heap[w.heap.size]? = some (frO 0 0 none 0 0 none 0 0) from put_blk (by omega) ka)
  have R2 := hid (h2.put (B := w.heap.size + 1) (i := 1) (v := (.int .i64 V2)) (by omega) (fun b off e hn => by have := HLO.out b off e hn; omega))
  have HS2 := hid (show w.heap.size + 2 ≤ (w2.setCell ⟨w.heap.size + 1, 1, none⟩ (.int .i64 V2)).heap.size by have := k2.size; have := HS1.out; simp [World.setCell]; omega)
  have K2 := hid ((K1.out.trans k2).then (kept_put (B := w.heap.size + 1) (i := 1) (v := (.int .i64 V2))) (fun q h1 h2 => by omega))
  clear h2 k2 kb ka N2
  go_wp2_with fail
  generalize hW2 : w2.setCell ⟨w.heap.size + 1, 1, none⟩ (.int .i64 V2) = W2 at *
  clear g0 g1
  refine (N3.out W2 R2.out).mono ?_
  rintro e w3 ⟨B3, rfl, o3, h3, k3⟩
  have kb := keep_blk k3 (by omega : w.heap.size + 1 ≠ R) KB.out
  have ka := keep_blk k3 (by omega : w.heap.size ≠ R) KA.out
  have g0 : w3.cell? ⟨w.heap.size + 1, 2, none⟩ = some (.slice none 0 0) := cell_at kb
  have g1 : w3.frozen? ⟨w.heap.size + 1, 2, none⟩ = false := frzB kb
  have KB := hid (show (w3.setCell ⟨w.heap.size + 1, 2, none⟩ (.slice (some ⟨B3, 0, none⟩) L1.length L1.length)).heap[w.heap.size + 1]? = some (frO V1 V2 (some ⟨B3, 0, none⟩) L1.length L1.length none 0 0) from blk_set kb)
  have KA := hid (show (w3.setCell ⟨w.heap.size + 1, 2, none⟩ (.slice (some ⟨B3, 0, none⟩) L1.length L1.length)).heap[w.heap.size]? = some (frO 0 0 none 0 0 none 0 0) from put_blk (by omega) ka)
  have R3 := hid (h3.put (B := w.heap.size + 1) (i := 2) (v := (.slice (some ⟨B3, 0, none⟩) L1.length L1.length)) (by omega) (fun b off e hn => by have := HLO.out b off e hn; omega))
  have HS3 := hid (show w.heap.size + 2 ≤ (w3.setCell ⟨w.heap.size + 1, 2, none⟩ (.slice (some ⟨B3, 0, none⟩) L1.length L1.length)).heap.size by have := k3.size; have := HS2.out; simp [World.setCell]; omega)
  have K3 := hid ((K2.out.trans k3).then (kept_put (B := w.heap.size + 1) (i := 2) (v := (.slice (some ⟨B3, 0, none⟩) L1.length L1.length))) (fun q h1 h2 => by omega))
  have O3 := hid ((o3.low (base' := w.heap.size) (by have := HS2.out; omega)).keep (kept_put (B := w.heap.size + 1) (i := 2) (v := (.slice (some ⟨B3, 0, none⟩) L1.length L1.length))) (by have := o3.lo; have := HS2.out; omega))
  have L3 := hid (And.intro o3.lo o3.hi)
  clear h3 k3 kb ka N3 o3
  go_wp2_with fail
  generalize hW3 : w3.setCell ⟨w.heap.size + 1, 2, none⟩ (.slice (some ⟨B3, 0, none⟩) L1.length L1.length) = W3 at *
  clear g0 g1
  refine (N4.out W3 R3.out).mono ?_
  rintro e w4 ⟨B4, rfl, o4, h4, k4⟩
  have kb := keep_blk k4 (by omega : w.heap.size + 1 ≠ R) KB.out
  have ka := keep_blk k4 (by omega : w.heap.size ≠ R) KA.out
  have g0 : w4.cell? ⟨w.heap.size + 1, 3, none⟩ = some (.slice none 0 0) := cell_at kb
  have g1 : w4.frozen? ⟨w.heap.size + 1, 3, none⟩ = false := frzB kb
  have KB := hid (show (w4.setCell ⟨w.heap.size + 1, 3, none⟩ (.slice (some ⟨B4, 0, none⟩) L2.length L2.length)).heap[w.heap.size + 1]? = some (frO V1 V2 (some ⟨B3, 0, none⟩) L1.length L1.length (some ⟨B4, 0, none⟩) L2.length L2.length) from blk_set kb)
  have KA := hid (show (w4.setCell ⟨w.heap.size + 1, 3, none⟩ (.slice (some ⟨B4, 0, none⟩) L2.length L2.length)).heap[w.heap.size]? = some (frO 0 0 none 0 0 none 0 0) from put_blk (by omega) ka)
  have R4 := hid (h4.put (B := w.heap.size + 1) (i := 3) (v := (.slice (some ⟨B4, 0, none⟩) L2.length L2.length)) (by omega) (fun b off e hn => by have := HLO.out b off e hn; omega))
  have HS4 := hid (show w.heap.size + 2 ≤ (w4.setCell ⟨w.heap.size + 1, 3, none⟩ (.slice (some ⟨B4, 0, none⟩) L2.length L2.length)).heap.size by have := k4.size; have := HS3.out; simp [World.setCell]; omega)
  have K4 := hid ((K3.out.trans k4).then (kept_put (B := w.heap.size + 1) (i := 3) (v := (.slice (some ⟨B4, 0, none⟩) L2.length L2.length))) (fun q h1 h2 => by omega))
  have O4 := hid ((o4.low (base' := w.heap.size) (by have := HS3.out; omega)).keep (kept_put (B := w.heap.size + 1) (i := 3) (v := (.slice (some ⟨B4, 0, none⟩) L2.length L2.length))) (by have := o4.lo; have := HS3.out; omega))
  have O3 := hid ((O3.out.keep k4 (by have := L3.out; have := HS2.out; omega)).keep (kept_put (B := w.heap.size + 1) (i := 3) (v := (.slice (some ⟨B4, 0, none⟩) L2.length L2.length))) (by have := L3.out; have := HS2.out; omega))
  have LT := hid (show B3 < B4 by
    have e1 : W3.heap.size = w3.heap.size := by rw [← hW3]; simp [World.setCell]
    have h1 := o4.lo
    have h2 := L3.out
    omega)
  have q0 : (w4.setCell ⟨w.heap.size + 1, 3, none⟩ (.slice (some ⟨B4, 0, none⟩) L2.length L2.length)).cell? ⟨w.heap.size + 1, 0, none⟩ = some (.int .i64 V1) := cell_at KB.out
  have p0 : (w4.setCell ⟨w.heap.size + 1, 3, none⟩ (.slice (some ⟨B4, 0, none⟩) L2.length L2.length)).cell? ⟨w.heap.size, 0, none⟩ = some (.int .i64 0) := cell_at KA.out
  have f0 : (w4.setCell ⟨w.heap.size + 1, 3, none⟩ (.slice (some ⟨B4, 0, none⟩) L2.length L2.length)).frozen? ⟨w.heap.size, 0, none⟩ = false := frzB KA.out
  have q1 : (w4.setCell ⟨w.heap.size + 1, 3, none⟩ (.slice (some ⟨B4, 0, none⟩) L2.length L2.length)).cell? ⟨w.heap.size + 1, 1, none⟩ = some (.int .i64 V2) := cell_at KB.out
  have p1 : (w4.setCell ⟨w.heap.size + 1, 3, none⟩ (.slice (some ⟨B4, 0, none⟩) L2.length L2.length)).cell? ⟨w.heap.size, 1, none⟩ = some (.int .i64 0) := cell_at KA.out
  have f1 : (w4.setCell ⟨w.heap.size + 1, 3, none⟩ (.slice (some ⟨B4, 0, none⟩) L2.length L2.length)).frozen? ⟨w.heap.size, 1, none⟩ = false := frzB KA.out
  have q2 : (w4.setCell ⟨w.heap.size + 1, 3, none⟩ (.slice (some ⟨B4, 0, none⟩) L2.length L2.length)).cell? ⟨w.heap.size + 1, 2, none⟩ = some (.slice (some ⟨B3, 0, none⟩) L1.length L1.length) := cell_at KB.out
  have p2 : (w4.setCell ⟨w.heap.size + 1, 3, none⟩ (.slice (some ⟨B4, 0, none⟩) L2.length L2.length)).cell? ⟨w.heap.size, 2, none⟩ = some (.slice none 0 0) := cell_at KA.out
  have f2 : (w4.setCell ⟨w.heap.size + 1, 3, none⟩ (.slice (some ⟨B4, 0, none⟩) L2.length L2.length)).frozen? ⟨w.heap.size, 2, none⟩ = false := frzB KA.out
  have q3 : (w4.setCell ⟨w.heap.size + 1, 3, none⟩ (.slice (some ⟨B4, 0, none⟩) L2.length L2.length)).cell? ⟨w.heap.size + 1, 3, none⟩ = some (.slice (some ⟨B4, 0, none⟩) L2.length L2.length) := cell_at KB.out
  have p3 : (w4.setCell ⟨w.heap.size + 1, 3, none⟩ (.slice (some ⟨B4, 0, none⟩) L2.length L2.length)).cell? ⟨w.heap.size, 3, none⟩ = some (.slice none 0 0) := cell_at KA.out
  have f3 : (w4.setCell ⟨w.heap.size + 1, 3, none⟩ (.slice (some ⟨B4, 0, none⟩) L2.length L2.length)).frozen? ⟨w.heap.size, 3, none⟩ = false := frzB KA.out
  clear h4 k4 kb ka N4 o4
  go_wp2_with fail
  clear q0 q1 q2 q3 p0 p1 p2 p3 f0 f1 f2 f3
  generalize hW4 : w4.setCell ⟨w.heap.size + 1, 3, none⟩ (.slice (some ⟨B4, 0, none⟩) L2.length L2.length) = W4 at *
  have z0 := KA.out
  have z1 : (W4.setCell ⟨w.heap.size, 0, none⟩ (.int .i64 V1)).heap[w.heap.size]? = some (frO V1 0 none 0 0 none 0 0) := blk_set z0
  have z2 : ((W4.setCell ⟨w.heap.size, 0, none⟩ (.int .i64 V1)).setCell ⟨w.heap.size, 1, none⟩ (.int .i64 V2)).heap[w.heap.size]? = some (frO V1 V2 none 0 0 none 0 0) := blk_set z1
  have z3 : (((W4.setCell ⟨w.heap.size, 0, none⟩ (.int .i64 V1)).setCell ⟨w.heap.size, 1, none⟩ (.int .i64 V2)).setCell ⟨w.heap.size, 2, none⟩ (.slice (some ⟨B3, 0, none⟩) L1.length L1.length)).heap[w.heap.size]? = some (frO V1 V2 (some ⟨B3, 0, none⟩) L1.length L1.length none 0 0) := blk_set z2
  have z4 : ((((W4.setCell ⟨w.heap.size, 0, none⟩ (.int .i64 V1)).setCell ⟨w.heap.size, 1, none⟩ (.int .i64 V2)).setCell ⟨w.heap.size, 2, none⟩ (.slice (some ⟨B3, 0, none⟩) L1.length L1.length)).setCell ⟨w.heap.size, 3, none⟩ (.slice (some ⟨B4, 0, none⟩) L2.length L2.length)).heap[w.heap.size]? = some (frO V1 V2 (some ⟨B3, 0, none⟩) L1.length L1.length (some ⟨B4, 0, none⟩) L2.length L2.length) := blk_set z3
  have kk : Kept (fun k => k = w.heap.size) W4 ((((W4.setCell ⟨w.heap.size, 0, none⟩ (.int .i64 V1)).setCell ⟨w.heap.size, 1, none⟩ (.int .i64 V2)).setCell ⟨w.heap.size, 2, none⟩ (.slice (some ⟨B3, 0, none⟩) L1.length L1.length)).setCell ⟨w.heap.size, 3, none⟩ (.slice (some ⟨B4, 0, none⟩) L2.length L2.length)) := ((kept_put.trans kept_put).trans kept_put).trans kept_put
  have rr : Rd ((((W4.setCell ⟨w.heap.size, 0, none⟩ (.int .i64 V1)).setCell ⟨w.heap.size, 1, none⟩ (.int .i64 V2)).setCell ⟨w.heap.size, 2, none⟩ (.slice (some ⟨B3, 0, none⟩) L1.length L1.length)).setCell ⟨w.heap.size, 3, none⟩ (.slice (some ⟨B4, 0, none⟩) L2.length L2.length)) R a n c zs s4 := by
    have hR0 : w.heap.size ≠ R := by omega
    have hl : ∀ b off, a = some ⟨b, off, none⟩ → 0 < n → b ≠ w.heap.size := fun b off e hn => by have := HLO.out b off e hn; omega
    exact (((R4.out.put hR0 hl).put hR0 hl).put hR0 hl).put hR0 hl
  generalize ((((W4.setCell ⟨w.heap.size, 0, none⟩ (.int .i64 V1)).setCell ⟨w.heap.size, 1, none⟩ (.int .i64 V2)).setCell ⟨w.heap.size, 2, none⟩ (.slice (some ⟨B3, 0, none⟩) L1.length L1.length)).setCell ⟨w.heap.size, 3, none⟩ (.slice (some ⟨B4, 0, none⟩) L2.length L2.length)) = X at *
  refine bodyPost_ret (v := frV (frN (V1, V2, L1, L2) B3 B4)) ?_ rfl ?_
  · exact results_cell_row (p := 2) (ty := 66) rfl _ _ w.heap.size 66 _ (0, 0) _ rfl z4 Tryd.underlying66 rfl (by kernel_rfl)
  · exact ⟨B3, B4, rfl, ⟨O3.out.keep kk (by have := L3.out; have := HS2.out; omega), O4.out.keep kk (by have := LT.out; have := L3.out; have := HS2.out; omega), LT.out⟩, rr, K4.out.then kk (fun q h1 h2 => by omega)⟩
end Go.Proofs.YtbdjghokedfkfaaDoor

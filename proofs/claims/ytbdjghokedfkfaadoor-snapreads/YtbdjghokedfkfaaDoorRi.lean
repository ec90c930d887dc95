/-
  snap's reader: a state.
-/
import Derived.Test.YtbdjghokedfkfaaDoorRc
import Derived.Test.YtbdjghokedfkfaaDoorRh
import Derived.Test.YtbdjghokedfkfaaDoorWe
namespace Go.Proofs.YtbdjghokedfkfaaDoor
open Go.RowKit
set_option linter.unusedVariables false
set_option maxRecDepth 100000

/-- What is read, one thing after the other. -/
structure StP where
  en : Int
  tr : Int
  us : Int
  rep : Int
  rs : List Int
  gs : List Int
  ps : List (List Int)
  fs : List FrP
def r1 (zs : List Int) (st : RS) := ocR zs 1 3 st
def r2 (zs : List Int) (st : RS) := ocR zs 0 6 (r1 zs st).2
def r3 (zs : List Int) (st : RS) := nmR zs 4611686018427387904 17 (r2 zs st).2
def r4 (zs : List Int) (st : RS) := nmR zs 9223372036854775807 17 (r3 zs st).2
def r5 (zs : List Int) (st : RS) := lsR zs 8 (r4 zs st).2
def r6 (zs : List Int) (st : RS) := lsR zs 64 (r5 zs st).2
def r7 (zs : List Int) (st : RS) := pgsR zs (r6 zs st).2
def r8 (zs : List Int) (st : RS) := fsR zs 64 (r7 zs st).2
def stP (zs : List Int) (st : RS) : StP := ⟨(r1 zs st).1, (r2 zs st).1, (r3 zs st).1, (r4 zs st).1, (r5 zs st).1, (r6 zs st).1, (r7 zs st).1, (r8 zs st).1⟩
abbrev mkS (p : StP) (B5 B6 B7 : Nat) (bl : List Nat) (B8 : Nat) (ys : List FrM) : StM :=
  ⟨some ⟨B8, 0, none⟩, ys.length, ys.length, ys, some ⟨B6, 0, none⟩, p.gs.length, p.gs.length, p.gs, some ⟨B7, 0, none⟩, p.ps.length, p.ps.length, List.zipWith (fun b l => ((some ⟨b, 0, none⟩, 4096, 4096), l)) bl p.ps, p.rep, p.en, some ⟨B5, 0, none⟩, p.rs.length, p.rs.length, p.rs, p.tr, p.us⟩
structure StA (base : Nat) (w : World) (p : StP) (B5 B6 B7 : Nat) (bl : List Nat) (B8 : Nat) (ys : List FrM) : Prop where
  rs : RwU base w B5 p.rs
  gs : RwU base w B6 p.gs
  ps : PgA (B7 + 1) w B7 bl p.ps
  fr : w.heap[B8]? = some (.cells (ys.flatMap frCs).toArray 66)
  fa : FsA (B8 + 1) w.heap.size w ys
  fp : ys.map plF = p.fs
  o1 : B5 < B6
  o2 : B6 < B7
  o3 : ∀ q ∈ bl, q < B8
  o4 : B7 < B8
theorem StA.keep {S : Nat → Prop} {base : Nat} {w w' : World} {p : StP} {B5 B6 B7 : Nat} {bl : List Nat} {B8 : Nat} {ys : List FrM} (h : StA base w p B5 B6 B7 bl B8 ys) (hk : Kept S w w') (hs : ∀ q, B5 ≤ q → q < w.heap.size → ¬ S q) : StA base w' p B5 B6 B7 bl B8 ys := by
  have h5 := h.rs.hi
  have h6 := h.gs.hi
  have h7 := nb_lt h.ps.row
  have h8 := nb_lt h.fr
  have := h.o1
  have := h.o2
  have := h.o4
  refine ⟨h.rs.keep hk (hs _ (by omega) h5), h.gs.keep hk (hs _ (by omega) h6), h.ps.keep hk (hs _ (by omega) h7) (fun q h1 h2 => hs q (by omega) h2), (hk.block _ h8 (hs _ (by omega) h8)).trans h.fr, ?_, h.fp, h.o1, h.o2, h.o3, h.o4⟩
  have := h.fa.keep hk (fun q h1 h2 => hs q (by omega) h2)
  exact ⟨fun y hy => by obtain ⟨x, C1, C2, e, hf, hl⟩ := this.el y hy; exact ⟨x, C1, C2, e, hf, Nat.lt_of_lt_of_le hl hk.size⟩, this.asc⟩
abbrev stC (c0 c1 c2 : Value) (c3 c4 : Int) (c5 : Value) (c6 c7 : Int) : Obj := .cells #[c0, c1, c2, .int .i64 c3, .int .i8 c4, c5, .int .i8 c6, .int .i64 c7] 27
abbrev nS : Value := .slice none 0 0

set_option maxHeartbeats 8000000 in
theorem rstate15 (R : Nat) (b off n c : Nat) (zs : List Int) (st : RS) (w : World) (h : Rd w R (some ⟨b, off, none⟩) n c zs st) (h0 : 0 < n) :
    Calls Tryd.prog 54 #[.pointer (some ⟨R, 0, none⟩)] w fun e w' => ∃ B5 B6 B7 bl B8 ys, e = .returned (.agg (stAr (mkS (stP zs st) B5 B6 B7 bl B8 ys))) ∧ StA w.heap.size w' (stP zs st) B5 B6 B7 bl B8 ys ∧ Rd w' R (some ⟨b, off, none⟩) n c zs (r8 zs st).2 ∧ Kept (fun k => k = R) w w' := by
  have hz := h.seg.2.2.2.1
  have N1 := hid (fun (W : World) (hW : Rd W R (some ⟨b, off, none⟩) n c zs st) => octet28 R (some ⟨b, off, none⟩) n c zs st 1 3 W hW (by decide) (by decide))
  have N2 := hid (fun (W : World) (hW : Rd W R (some ⟨b, off, none⟩) n c zs (r1 zs st).2) => octet28 R (some ⟨b, off, none⟩) n c zs _ 0 6 W hW (by decide) (by decide))
  have N3 := hid (fun (W : World) (hW : Rd W R (some ⟨b, off, none⟩) n c zs (r2 zs st).2) => number29 R (some ⟨b, off, none⟩) n c zs _ 4611686018427387904 17 W hW (.inl (by decide)))
  have N4 := hid (fun (W : World) (hW : Rd W R (some ⟨b, off, none⟩) n c zs (r3 zs st).2) => number29 R (some ⟨b, off, none⟩) n c zs _ 9223372036854775807 17 W hW (.inl (by decide)))
  have N5 := hid (fun (W : World) (hW : Rd W R (some ⟨b, off, none⟩) n c zs (r4 zs st).2) => rlU30 R (some ⟨b, off, none⟩) n c zs _ 8 W hW (by decide))
  have N6 := hid (fun (W : World) (hW : Rd W R (some ⟨b, off, none⟩) n c zs (r5 zs st).2) => rlU30 R (some ⟨b, off, none⟩) n c zs _ 64 W hW (by decide))
  have N7 := hid (fun (W : World) (hW : Rd W R (some ⟨b, off, none⟩) n c zs (r6 zs st).2) => pages32 R b off n c zs _ W hW h0)
  have N8 := hid (fun (W : World) (hW : Rd W R (some ⟨b, off, none⟩) n c zs (r7 zs st).2) => rlF33 R (some ⟨b, off, none⟩) n c zs _ 64 W hW (by decide))
  simp only [Int.cast_ofNat_Int] at N5 N6 N8
  have l3 := nmR_le (st := (r2 zs st).2) hz (by decide : (17 : Int) ≠ 0) (by decide : (0 : Int) ≤ 4611686018427387904)
  have l4 := nmR_le (st := (r3 zs st).2) hz (by decide : (17 : Int) ≠ 0) (by decide : (0 : Int) ≤ 9223372036854775807)
  have e1 : ocR zs 1 3 st = r1 zs st := rfl
  have e2 : ocR zs 0 6 (r1 zs st).2 = r2 zs st := rfl
  have e3 : nmR zs 4611686018427387904 17 (r2 zs st).2 = r3 zs st := rfl
  have e4 : nmR zs 9223372036854775807 17 (r3 zs st).2 = r4 zs st := rfl
  have e5 : lsR zs 8 (r4 zs st).2 = r5 zs st := rfl
  have e6 : lsR zs 64 (r5 zs st).2 = r6 zs st := rfl
  have e7 : pgsR zs (r6 zs st).2 = r7 zs st := rfl
  have e8 : fsR zs 64 (r7 zs st).2 = r8 zs st := rfl
  have eP : stP zs st = ⟨(r1 zs st).1, (r2 zs st).1, (r3 zs st).1, (r4 zs st).1, (r5 zs st).1, (r6 zs st).1, (r7 zs st).1, (r8 zs st).1⟩ := rfl
  rw [e1] at N1
  rw [e2] at N2
  rw [e3] at N3 l3
  rw [e4] at N4 l4
  rw [e5] at N5
  rw [e6] at N6
  rw [e7] at N7
  rw [e8] at N8
  rw [eP]
  clear e1 e2 e3 e4 e5 e6 e7 e8 eP
  generalize r1 zs st = p1 at *
  generalize r2 zs st = p2 at *
  generalize r3 zs st = p3 at *
  generalize r4 zs st = p4 at *
  generalize r5 zs st = p5 at *
  generalize r6 zs st = p6 at *
  generalize r7 zs st = p7 at *
  generalize r8 zs st = p8 at *
  obtain ⟨V1, s1⟩ := p1
  obtain ⟨V2, s2⟩ := p2
  obtain ⟨V3, s3⟩ := p3
  obtain ⟨V4, s4⟩ := p4
  obtain ⟨V5, s5⟩ := p5
  obtain ⟨V6, s6⟩ := p6
  obtain ⟨V7, s7⟩ := p7
  obtain ⟨V8, s8⟩ := p8
  dsimp only at *
  have hv3 : IntKind.i64.wrap V3 = V3 := i64_in V3 (by omega) (by omega)
  have hv4 : IntKind.i64.wrap V4 = V4 := i64_in V4 (by omega) (by omega)
  have hRl := h.lt
  have HLO := hid h.low
  have b0 := below_new w (stC nS nS nS 0 0 nS 0 0)
  have b1 := b0.trans ((below_new (w.alloc (stC nS nS nS 0 0 nS 0 0)) (stC nS nS nS 0 0 nS 0 0)).mono b0.size)
  have K0 := hid (kept_R (R := R) b1)
  have R0 := hid (h.later b1)
  have kb0 : ((w.alloc (stC nS nS nS 0 0 nS 0 0)).alloc (stC nS nS nS 0 0 nS 0 0)).heap[w.heap.size + 1]? = some (stC nS nS nS 0 0 nS 0 0) := nb_at (by simp)
  have ka0 : ((w.alloc (stC nS nS nS 0 0 nS 0 0)).alloc (stC nS nS nS 0 0 nS 0 0)).heap[w.heap.size]? = some (stC nS nS nS 0 0 nS 0 0) := nb_later (below_new _ _) (nb_new _ _)
  have hsz : ((w.alloc (stC nS nS nS 0 0 nS 0 0)).alloc (stC nS nS nS 0 0 nS 0 0)).heap.size = w.heap.size + 2 := by simp
  have KA := hid ka0
  have KB := hid kb0
  clear h hz l3 l4 b0 b1 ka0 kb0
  go_enter Tryd.func54, Tryd.ntmps54
  go_wp2_with fail
  generalize (w.alloc (stC nS nS nS 0 0 nS 0 0)).alloc (stC nS nS nS 0 0 nS 0 0) = W0 at *
  have HS0 := hid (show w.heap.size + 2 ≤ W0.heap.size by omega)
  refine (N1.out W0 R0.out).mono ?_
  rintro e w1 ⟨rfl, h1, k1⟩
  have kb := keep_blk k1 (by omega : w.heap.size + 1 ≠ R) KB.out
  have ka := keep_blk k1 (by omega : w.heap.size ≠ R) KA.out
  have g0 : w1.cell? ⟨w.heap.size + 1, 4, none⟩ = some (.int .i8 0) := cell_at kb
  have g1 : w1.frozen? ⟨w.heap.size + 1, 4, none⟩ = false := frzB kb
  have KB := hid (show (w1.setCell ⟨w.heap.size + 1, 4, none⟩ (.int .i8 V1)).heap[w.heap.size + 1]? = some (stC nS nS nS 0 V1 nS 0 0) from blk_set kb)
  have KA := hid (show (w1.setCell ⟨w.heap.size + 1, 4, none⟩ (.int .i8 V1)).heap[w.heap.size]? = some (stC nS nS nS 0 0 nS 0 0) from put_blk (by omega) ka)
  have R1 := hid (h1.put (B := w.heap.size + 1) (i := 4) (v := (.int .i8 V1)) (by omega) (fun b off e hn => by have := HLO.out b off e hn; omega))
  have hx1 : (w1.setCell ⟨w.heap.size + 1, 4, none⟩ (.int .i8 V1)).heap.size = w1.heap.size := by simp [World.setCell]
  have HS1 := hid (show w.heap.size + 2 ≤ (w1.setCell ⟨w.heap.size + 1, 4, none⟩ (.int .i8 V1)).heap.size by have := k1.size; have := HS0.out; omega)
  have K1 := hid ((K0.out.trans k1).then (kept_put (B := w.heap.size + 1) (i := 4) (v := (.int .i8 V1))) (fun q h1 h2 => by omega))
  have hs0 := HS0.out
  clear h1 k1 N1
  clear kb ka
  go_wp2_with fail
  generalize hW1 : w1.setCell ⟨w.heap.size + 1, 4, none⟩ (.int .i8 V1) = W1 at *
  clear g0 g1
  refine (N2.out W1 R1.out).mono ?_
  rintro e w2 ⟨rfl, h2, k2⟩
  have kb := keep_blk k2 (by omega : w.heap.size + 1 ≠ R) KB.out
  have ka := keep_blk k2 (by omega : w.heap.size ≠ R) KA.out
  have g0 : w2.cell? ⟨w.heap.size + 1, 6, none⟩ = some (.int .i8 0) := cell_at kb
  have g1 : w2.frozen? ⟨w.heap.size + 1, 6, none⟩ = false := frzB kb
  have KB := hid (show (w2.setCell ⟨w.heap.size + 1, 6, none⟩ (.int .i8 V2)).heap[w.heap.size + 1]? = some (stC nS nS nS 0 V1 nS V2 0) from blk_set kb)
  have KA := hid (show (w2.setCell ⟨w.heap.size + 1, 6, none⟩ (.int .i8 V2)).heap[w.heap.size]? = some (stC nS nS nS 0 0 nS 0 0) from put_blk (by omega) ka)
  have R2 := hid (h2.put (B := w.heap.size + 1) (i := 6) (v := (.int .i8 V2)) (by omega) (fun b off e hn => by have := HLO.out b off e hn; omega))
  have hx2 : (w2.setCell ⟨w.heap.size + 1, 6, none⟩ (.int .i8 V2)).heap.size = w2.heap.size := by simp [World.setCell]
  have HS2 := hid (show w.heap.size + 2 ≤ (w2.setCell ⟨w.heap.size + 1, 6, none⟩ (.int .i8 V2)).heap.size by have := k2.size; have := HS1.out; omega)
  have K2 := hid ((K1.out.trans k2).then (kept_put (B := w.heap.size + 1) (i := 6) (v := (.int .i8 V2))) (fun q h1 h2 => by omega))
  have hs1 := HS1.out
  clear h2 k2 N2
  clear kb ka
  go_wp2_with fail
  generalize hW2 : w2.setCell ⟨w.heap.size + 1, 6, none⟩ (.int .i8 V2) = W2 at *
  clear g0 g1
  refine (N3.out W2 R2.out).mono ?_
  rintro e w3 ⟨rfl, h3, k3⟩
  have kb := keep_blk k3 (by omega : w.heap.size + 1 ≠ R) KB.out
  have ka := keep_blk k3 (by omega : w.heap.size ≠ R) KA.out
  have g0 : w3.cell? ⟨w.heap.size + 1, 7, none⟩ = some (.int .i64 0) := cell_at kb
  have g1 : w3.frozen? ⟨w.heap.size + 1, 7, none⟩ = false := frzB kb
  have KB := hid (show (w3.setCell ⟨w.heap.size + 1, 7, none⟩ (.int .i64 V3)).heap[w.heap.size + 1]? = some (stC nS nS nS 0 V1 nS V2 V3) from blk_set kb)
  have KA := hid (show (w3.setCell ⟨w.heap.size + 1, 7, none⟩ (.int .i64 V3)).heap[w.heap.size]? = some (stC nS nS nS 0 0 nS 0 0) from put_blk (by omega) ka)
  have R3 := hid (h3.put (B := w.heap.size + 1) (i := 7) (v := (.int .i64 V3)) (by omega) (fun b off e hn => by have := HLO.out b off e hn; omega))
  have hx3 : (w3.setCell ⟨w.heap.size + 1, 7, none⟩ (.int .i64 V3)).heap.size = w3.heap.size := by simp [World.setCell]
  have HS3 := hid (show w.heap.size + 2 ≤ (w3.setCell ⟨w.heap.size + 1, 7, none⟩ (.int .i64 V3)).heap.size by have := k3.size; have := HS2.out; omega)
  have K3 := hid ((K2.out.trans k3).then (kept_put (B := w.heap.size + 1) (i := 7) (v := (.int .i64 V3))) (fun q h1 h2 => by omega))
  have hs2 := HS2.out
  clear h3 k3 N3
  clear kb ka
  go_wp2_with fail
  generalize hW3 : w3.setCell ⟨w.heap.size + 1, 7, none⟩ (.int .i64 V3) = W3 at *
  clear g0 g1
  refine (N4.out W3 R3.out).mono ?_
  rintro e w4 ⟨rfl, h4, k4⟩
  have kb := keep_blk k4 (by omega : w.heap.size + 1 ≠ R) KB.out
  have ka := keep_blk k4 (by omega : w.heap.size ≠ R) KA.out
  have g0 : w4.cell? ⟨w.heap.size + 1, 3, none⟩ = some (.int .i64 0) := cell_at kb
  have g1 : w4.frozen? ⟨w.heap.size + 1, 3, none⟩ = false := frzB kb
  have KB := hid (show (w4.setCell ⟨w.heap.size + 1, 3, none⟩ (.int .i64 V4)).heap[w.heap.size + 1]? = some (stC nS nS nS V4 V1 nS V2 V3) from blk_set kb)
  have KA := hid (show (w4.setCell ⟨w.heap.size + 1, 3, none⟩ (.int .i64 V4)).heap[w.heap.size]? = some (stC nS nS nS 0 0 nS 0 0) from put_blk (by omega) ka)
  have R4 := hid (h4.put (B := w.heap.size + 1) (i := 3) (v := (.int .i64 V4)) (by omega) (fun b off e hn => by have := HLO.out b off e hn; omega))
  have hx4 : (w4.setCell ⟨w.heap.size + 1, 3, none⟩ (.int .i64 V4)).heap.size = w4.heap.size := by simp [World.setCell]
  have HS4 := hid (show w.heap.size + 2 ≤ (w4.setCell ⟨w.heap.size + 1, 3, none⟩ (.int .i64 V4)).heap.size by have := k4.size; have := HS3.out; omega)
  have K4 := hid ((K3.out.trans k4).then (kept_put (B := w.heap.size + 1) (i := 3) (v := (.int .i64 V4))) (fun q h1 h2 => by omega))
  have hs3 := HS3.out
  clear h4 k4 N4
  clear kb ka
  go_wp2_with fail
  generalize hW4 : w4.setCell ⟨w.heap.size + 1, 3, none⟩ (.int .i64 V4) = W4 at *
  clear g0 g1
  refine (N5.out W4 R4.out).mono ?_
  rintro e w5 ⟨B5, rfl, o5, h5, k5⟩
  have kb := keep_blk k5 (by omega : w.heap.size + 1 ≠ R) KB.out
  have ka := keep_blk k5 (by omega : w.heap.size ≠ R) KA.out
  have g0 : w5.cell? ⟨w.heap.size + 1, 5, none⟩ = some nS := cell_at kb
  have g1 : w5.frozen? ⟨w.heap.size + 1, 5, none⟩ = false := frzB kb
  have KB := hid (show (w5.setCell ⟨w.heap.size + 1, 5, none⟩ (.slice (some ⟨B5, 0, none⟩) V5.length V5.length)).heap[w.heap.size + 1]? = some (stC nS nS nS V4 V1 (.slice (some ⟨B5, 0, none⟩) V5.length V5.length) V2 V3) from blk_set kb)
  have KA := hid (show (w5.setCell ⟨w.heap.size + 1, 5, none⟩ (.slice (some ⟨B5, 0, none⟩) V5.length V5.length)).heap[w.heap.size]? = some (stC nS nS nS 0 0 nS 0 0) from put_blk (by omega) ka)
  have R5 := hid (h5.put (B := w.heap.size + 1) (i := 5) (v := (.slice (some ⟨B5, 0, none⟩) V5.length V5.length)) (by omega) (fun b off e hn => by have := HLO.out b off e hn; omega))
  have hx5 : (w5.setCell ⟨w.heap.size + 1, 5, none⟩ (.slice (some ⟨B5, 0, none⟩) V5.length V5.length)).heap.size = w5.heap.size := by simp [World.setCell]
  have HS5 := hid (show w.heap.size + 2 ≤ (w5.setCell ⟨w.heap.size + 1, 5, none⟩ (.slice (some ⟨B5, 0, none⟩) V5.length V5.length)).heap.size by have := k5.size; have := HS4.out; omega)
  have K5 := hid ((K4.out.trans k5).then (kept_put (B := w.heap.size + 1) (i := 5) (v := (.slice (some ⟨B5, 0, none⟩) V5.length V5.length))) (fun q h1 h2 => by omega))
  have hs4 := HS4.out
  have hlo5 := o5.lo
  have hhi5 := o5.hi
  have O5 := hid ((o5.low (base' := w.heap.size) (by omega)).keep (kept_put (B := w.heap.size + 1) (i := 5) (v := (.slice (some ⟨B5, 0, none⟩) V5.length V5.length))) (by omega))
  clear h5 k5 N5 o5
  clear kb ka
  go_wp2_with fail
  generalize hW5 : w5.setCell ⟨w.heap.size + 1, 5, none⟩ (.slice (some ⟨B5, 0, none⟩) V5.length V5.length) = W5 at *
  clear g0 g1
  refine (N6.out W5 R5.out).mono ?_
  rintro e w6 ⟨B6, rfl, o6, h6, k6⟩
  have kb := keep_blk k6 (by omega : w.heap.size + 1 ≠ R) KB.out
  have ka := keep_blk k6 (by omega : w.heap.size ≠ R) KA.out
  have g0 : w6.cell? ⟨w.heap.size + 1, 1, none⟩ = some nS := cell_at kb
  have g1 : w6.frozen? ⟨w.heap.size + 1, 1, none⟩ = false := frzB kb
  have KB := hid (show (w6.setCell ⟨w.heap.size + 1, 1, none⟩ (.slice (some ⟨B6, 0, none⟩) V6.length V6.length)).heap[w.heap.size + 1]? = some (stC nS (.slice (some ⟨B6, 0, none⟩) V6.length V6.length) nS V4 V1 (.slice (some ⟨B5, 0, none⟩) V5.length V5.length) V2 V3) from blk_set kb)
  have KA := hid (show (w6.setCell ⟨w.heap.size + 1, 1, none⟩ (.slice (some ⟨B6, 0, none⟩) V6.length V6.length)).heap[w.heap.size]? = some (stC nS nS nS 0 0 nS 0 0) from put_blk (by omega) ka)
  have R6 := hid (h6.put (B := w.heap.size + 1) (i := 1) (v := (.slice (some ⟨B6, 0, none⟩) V6.length V6.length)) (by omega) (fun b off e hn => by have := HLO.out b off e hn; omega))
  have hx6 : (w6.setCell ⟨w.heap.size + 1, 1, none⟩ (.slice (some ⟨B6, 0, none⟩) V6.length V6.length)).heap.size = w6.heap.size := by simp [World.setCell]
  have HS6 := hid (show w.heap.size + 2 ≤ (w6.setCell ⟨w.heap.size + 1, 1, none⟩ (.slice (some ⟨B6, 0, none⟩) V6.length V6.length)).heap.size by have := k6.size; have := HS5.out; omega)
  have K6 := hid ((K5.out.trans k6).then (kept_put (B := w.heap.size + 1) (i := 1) (v := (.slice (some ⟨B6, 0, none⟩) V6.length V6.length))) (fun q h1 h2 => by omega))
  have hs5 := HS5.out
  have hlo6 := o6.lo
  have hhi6 := o6.hi
  have O6 := hid ((o6.low (base' := w.heap.size) (by omega)).keep (kept_put (B := w.heap.size + 1) (i := 1) (v := (.slice (some ⟨B6, 0, none⟩) V6.length V6.length))) (by omega))
  have O5 := hid ((O5.out.keep k6 (by omega)).keep (kept_put (B := w.heap.size + 1) (i := 1) (v := (.slice (some ⟨B6, 0, none⟩) V6.length V6.length))) (by omega))
  clear h6 k6 N6 o6
  clear kb ka
  go_wp2_with fail
  generalize hW6 : w6.setCell ⟨w.heap.size + 1, 1, none⟩ (.slice (some ⟨B6, 0, none⟩) V6.length V6.length) = W6 at *
  clear g0 g1
  refine (N7.out W6 R6.out).mono ?_
  rintro e w7 ⟨B7, bl, rfl, o7, lo7, h7, k7⟩
  have kb := keep_blk k7 (by omega : w.heap.size + 1 ≠ R) KB.out
  have ka := keep_blk k7 (by omega : w.heap.size ≠ R) KA.out
  have g0 : w7.cell? ⟨w.heap.size + 1, 2, none⟩ = some nS := cell_at kb
  have g1 : w7.frozen? ⟨w.heap.size + 1, 2, none⟩ = false := frzB kb
  have KB := hid (show (w7.setCell ⟨w.heap.size + 1, 2, none⟩ (.slice (some ⟨B7, 0, none⟩) V7.length V7.length)).heap[w.heap.size + 1]? = some (stC nS (.slice (some ⟨B6, 0, none⟩) V6.length V6.length) (.slice (some ⟨B7, 0, none⟩) V7.length V7.length) V4 V1 (.slice (some ⟨B5, 0, none⟩) V5.length V5.length) V2 V3) from blk_set kb)
  have KA := hid (show (w7.setCell ⟨w.heap.size + 1, 2, none⟩ (.slice (some ⟨B7, 0, none⟩) V7.length V7.length)).heap[w.heap.size]? = some (stC nS nS nS 0 0 nS 0 0) from put_blk (by omega) ka)
  have R7 := hid (h7.put (B := w.heap.size + 1) (i := 2) (v := (.slice (some ⟨B7, 0, none⟩) V7.length V7.length)) (by omega) (fun b off e hn => by have := HLO.out b off e hn; omega))
  have hx7 : (w7.setCell ⟨w.heap.size + 1, 2, none⟩ (.slice (some ⟨B7, 0, none⟩) V7.length V7.length)).heap.size = w7.heap.size := by simp [World.setCell]
  have HS7 := hid (show w.heap.size + 2 ≤ (w7.setCell ⟨w.heap.size + 1, 2, none⟩ (.slice (some ⟨B7, 0, none⟩) V7.length V7.length)).heap.size by have := k7.size; have := HS6.out; omega)
  have K7 := hid ((K6.out.trans k7).then (kept_put (B := w.heap.size + 1) (i := 2) (v := (.slice (some ⟨B7, 0, none⟩) V7.length V7.length))) (fun q h1 h2 => by omega))
  have hs6 := HS6.out
  have hr7 := nb_lt o7.row
  have O7 := hid (o7.keep (kept_put (B := w.heap.size + 1) (i := 2) (v := (.slice (some ⟨B7, 0, none⟩) V7.length V7.length))) (by omega) (fun q h1 h2 => by omega))
  have hel7 : ∀ q ∈ bl, B7 < q ∧ q < w7.heap.size := fun q hq => by
    obtain ⟨j, hj⟩ := List.getElem?_of_mem hq
    have := o7.lo j q hj
    omega
  have O5 := hid ((O5.out.keep k7 (by omega)).keep (kept_put (B := w.heap.size + 1) (i := 2) (v := (.slice (some ⟨B7, 0, none⟩) V7.length V7.length))) (by omega))
  have O6 := hid ((O6.out.keep k7 (by omega)).keep (kept_put (B := w.heap.size + 1) (i := 2) (v := (.slice (some ⟨B7, 0, none⟩) V7.length V7.length))) (by omega))
  clear h7 k7 N7 o7
  clear kb ka
  go_wp2_with fail
  generalize hW7 : w7.setCell ⟨w.heap.size + 1, 2, none⟩ (.slice (some ⟨B7, 0, none⟩) V7.length V7.length) = W7 at *
  clear g0 g1
  refine (N8.out W7 R7.out).mono ?_
  rintro e w8 ⟨B8, ys, rfl, fp8, fr8, lo8, o8, h8, k8⟩
  have kb := keep_blk k8 (by omega : w.heap.size + 1 ≠ R) KB.out
  have ka := keep_blk k8 (by omega : w.heap.size ≠ R) KA.out
  have g0 : w8.cell? ⟨w.heap.size + 1, 0, none⟩ = some nS := cell_at kb
  have g1 : w8.frozen? ⟨w.heap.size + 1, 0, none⟩ = false := frzB kb
  have KB := hid (show (w8.setCell ⟨w.heap.size + 1, 0, none⟩ (.slice (some ⟨B8, 0, none⟩) ys.length ys.length)).heap[w.heap.size + 1]? = some (stC (.slice (some ⟨B8, 0, none⟩) ys.length ys.length) (.slice (some ⟨B6, 0, none⟩) V6.length V6.length) (.slice (some ⟨B7, 0, none⟩) V7.length V7.length) V4 V1 (.slice (some ⟨B5, 0, none⟩) V5.length V5.length) V2 V3) from blk_set kb)
  have KA := hid (show (w8.setCell ⟨w.heap.size + 1, 0, none⟩ (.slice (some ⟨B8, 0, none⟩) ys.length ys.length)).heap[w.heap.size]? = some (stC nS nS nS 0 0 nS 0 0) from put_blk (by omega) ka)
  have R8 := hid (h8.put (B := w.heap.size + 1) (i := 0) (v := (.slice (some ⟨B8, 0, none⟩) ys.length ys.length)) (by omega) (fun b off e hn => by have := HLO.out b off e hn; omega))
  have hx8 : (w8.setCell ⟨w.heap.size + 1, 0, none⟩ (.slice (some ⟨B8, 0, none⟩) ys.length ys.length)).heap.size = w8.heap.size := by simp [World.setCell]
  have HS8 := hid (show w.heap.size + 2 ≤ (w8.setCell ⟨w.heap.size + 1, 0, none⟩ (.slice (some ⟨B8, 0, none⟩) ys.length ys.length)).heap.size by have := k8.size; have := HS7.out; omega)
  have K8 := hid ((K7.out.trans k8).then (kept_put (B := w.heap.size + 1) (i := 0) (v := (.slice (some ⟨B8, 0, none⟩) ys.length ys.length))) (fun q h1 h2 => by omega))
  have hs7 := HS7.out
  have hr8 := nb_lt fr8
  have F8 := hid (put_blk (i := 0) (v := (.slice (some ⟨B8, 0, none⟩) ys.length ys.length)) (by omega : B8 ≠ w.heap.size + 1) fr8)
  have O8 := hid (o8.keep (kept_put (B := w.heap.size + 1) (i := 0) (v := (.slice (some ⟨B8, 0, none⟩) ys.length ys.length))) (fun q h1 h2 => by omega))
  have O5 := hid ((O5.out.keep k8 (by omega)).keep (kept_put (B := w.heap.size + 1) (i := 0) (v := (.slice (some ⟨B8, 0, none⟩) ys.length ys.length))) (by omega))
  have O6 := hid ((O6.out.keep k8 (by omega)).keep (kept_put (B := w.heap.size + 1) (i := 0) (v := (.slice (some ⟨B8, 0, none⟩) ys.length ys.length))) (by omega))
  have O7 := hid ((O7.out.keep k8 (by omega) (fun q h1 h2 => by omega)).keep (kept_put (B := w.heap.size + 1) (i := 0) (v := (.slice (some ⟨B8, 0, none⟩) ys.length ys.length))) (by omega) (fun q h1 h2 => by omega))
  clear h8 k8 N8 o8 fr8
  have q0 : (w8.setCell ⟨w.heap.size + 1, 0, none⟩ (.slice (some ⟨B8, 0, none⟩) ys.length ys.length)).cell? ⟨w.heap.size + 1, 0, none⟩ = some (.slice (some ⟨B8, 0, none⟩) ys.length ys.length) := cell_at KB.out
  have p0 : (w8.setCell ⟨w.heap.size + 1, 0, none⟩ (.slice (some ⟨B8, 0, none⟩) ys.length ys.length)).cell? ⟨w.heap.size, 0, none⟩ = some nS := cell_at KA.out
  have f0 : (w8.setCell ⟨w.heap.size + 1, 0, none⟩ (.slice (some ⟨B8, 0, none⟩) ys.length ys.length)).frozen? ⟨w.heap.size, 0, none⟩ = false := frzB KA.out
  have q1 : (w8.setCell ⟨w.heap.size + 1, 0, none⟩ (.slice (some ⟨B8, 0, none⟩) ys.length ys.length)).cell? ⟨w.heap.size + 1, 1, none⟩ = some (.slice (some ⟨B6, 0, none⟩) V6.length V6.length) := cell_at KB.out
  have p1 : (w8.setCell ⟨w.heap.size + 1, 0, none⟩ (.slice (some ⟨B8, 0, none⟩) ys.length ys.length)).cell? ⟨w.heap.size, 1, none⟩ = some nS := cell_at KA.out
  have f1 : (w8.setCell ⟨w.heap.size + 1, 0, none⟩ (.slice (some ⟨B8, 0, none⟩) ys.length ys.length)).frozen? ⟨w.heap.size, 1, none⟩ = false := frzB KA.out
  have q2 : (w8.setCell ⟨w.heap.size + 1, 0, none⟩ (.slice (some ⟨B8, 0, none⟩) ys.length ys.length)).cell? ⟨w.heap.size + 1, 2, none⟩ = some (.slice (some ⟨B7, 0, none⟩) V7.length V7.length) := cell_at KB.out
  have p2 : (w8.setCell ⟨w.heap.size + 1, 0, none⟩ (.slice (some ⟨B8, 0, none⟩) ys.length ys.length)).cell? ⟨w.heap.size, 2, none⟩ = some nS := cell_at KA.out
  have f2 : (w8.setCell ⟨w.heap.size + 1, 0, none⟩ (.slice (some ⟨B8, 0, none⟩) ys.length ys.length)).frozen? ⟨w.heap.size, 2, none⟩ = false := frzB KA.out
  have q3 : (w8.setCell ⟨w.heap.size + 1, 0, none⟩ (.slice (some ⟨B8, 0, none⟩) ys.length ys.length)).cell? ⟨w.heap.size + 1, 3, none⟩ = some (.int .i64 V4) := cell_at KB.out
  have p3 : (w8.setCell ⟨w.heap.size + 1, 0, none⟩ (.slice (some ⟨B8, 0, none⟩) ys.length ys.length)).cell? ⟨w.heap.size, 3, none⟩ = some (.int .i64 0) := cell_at KA.out
  have f3 : (w8.setCell ⟨w.heap.size + 1, 0, none⟩ (.slice (some ⟨B8, 0, none⟩) ys.length ys.length)).frozen? ⟨w.heap.size, 3, none⟩ = false := frzB KA.out
  have q4 : (w8.setCell ⟨w.heap.size + 1, 0, none⟩ (.slice (some ⟨B8, 0, none⟩) ys.length ys.length)).cell? ⟨w.heap.size + 1, 4, none⟩ = some (.int .i8 V1) := cell_at KB.out
  have p4 : (w8.setCell ⟨w.heap.size + 1, 0, none⟩ (.slice (some ⟨B8, 0, none⟩) ys.length ys.length)).cell? ⟨w.heap.size, 4, none⟩ = some (.int .i8 0) := cell_at KA.out
  have f4 : (w8.setCell ⟨w.heap.size + 1, 0, none⟩ (.slice (some ⟨B8, 0, none⟩) ys.length ys.length)).frozen? ⟨w.heap.size, 4, none⟩ = false := frzB KA.out
  have q5 : (w8.setCell ⟨w.heap.size + 1, 0, none⟩ (.slice (some ⟨B8, 0, none⟩) ys.length ys.length)).cell? ⟨w.heap.size + 1, 5, none⟩ = some (.slice (some ⟨B5, 0, none⟩) V5.length V5.length) := cell_at KB.out
  have p5 : (w8.setCell ⟨w.heap.size + 1, 0, none⟩ (.slice (some ⟨B8, 0, none⟩) ys.length ys.length)).cell? ⟨w.heap.size, 5, none⟩ = some nS := cell_at KA.out
  have f5 : (w8.setCell ⟨w.heap.size + 1, 0, none⟩ (.slice (some ⟨B8, 0, none⟩) ys.length ys.length)).frozen? ⟨w.heap.size, 5, none⟩ = false := frzB KA.out
  have q6 : (w8.setCell ⟨w.heap.size + 1, 0, none⟩ (.slice (some ⟨B8, 0, none⟩) ys.length ys.length)).cell? ⟨w.heap.size + 1, 6, none⟩ = some (.int .i8 V2) := cell_at KB.out
  have p6 : (w8.setCell ⟨w.heap.size + 1, 0, none⟩ (.slice (some ⟨B8, 0, none⟩) ys.length ys.length)).cell? ⟨w.heap.size, 6, none⟩ = some (.int .i8 0) := cell_at KA.out
  have f6 : (w8.setCell ⟨w.heap.size + 1, 0, none⟩ (.slice (some ⟨B8, 0, none⟩) ys.length ys.length)).frozen? ⟨w.heap.size, 6, none⟩ = false := frzB KA.out
  have q7 : (w8.setCell ⟨w.heap.size + 1, 0, none⟩ (.slice (some ⟨B8, 0, none⟩) ys.length ys.length)).cell? ⟨w.heap.size + 1, 7, none⟩ = some (.int .i64 V3) := cell_at KB.out
  have p7 : (w8.setCell ⟨w.heap.size + 1, 0, none⟩ (.slice (some ⟨B8, 0, none⟩) ys.length ys.length)).cell? ⟨w.heap.size, 7, none⟩ = some (.int .i64 0) := cell_at KA.out
  have f7 : (w8.setCell ⟨w.heap.size + 1, 0, none⟩ (.slice (some ⟨B8, 0, none⟩) ys.length ys.length)).frozen? ⟨w.heap.size, 7, none⟩ = false := frzB KA.out
  clear kb ka
  go_wp2_with fail
  clear q0 p0 f0 q1 p1 f1 q2 p2 f2 q3 p3 f3 q4 p4 f4 q5 p5 f5 q6 p6 f6 q7 p7 f7
  generalize hW8 : w8.setCell ⟨w.heap.size + 1, 0, none⟩ (.slice (some ⟨B8, 0, none⟩) ys.length ys.length) = W8 at *
  have z0 := KA.out
  have z1 : (W8.setCell ⟨w.heap.size, 0, none⟩ (.slice (some ⟨B8, 0, none⟩) ys.length ys.length)).heap[w.heap.size]? = some (stC (.slice (some ⟨B8, 0, none⟩) ys.length ys.length) nS nS 0 0 nS 0 0) := blk_set z0
  have z2 : ((W8.setCell ⟨w.heap.size, 0, none⟩ (.slice (some ⟨B8, 0, none⟩) ys.length ys.length)).setCell ⟨w.heap.size, 1, none⟩ (.slice (some ⟨B6, 0, none⟩) V6.length V6.length)).heap[w.heap.size]? = some (stC (.slice (some ⟨B8, 0, none⟩) ys.length ys.length) (.slice (some ⟨B6, 0, none⟩) V6.length V6.length) nS 0 0 nS 0 0) := blk_set z1
  have z3 : (((W8.setCell ⟨w.heap.size, 0, none⟩ (.slice (some ⟨B8, 0, none⟩) ys.length ys.length)).setCell ⟨w.heap.size, 1, none⟩ (.slice (some ⟨B6, 0, none⟩) V6.length V6.length)).setCell ⟨w.heap.size, 2, none⟩ (.slice (some ⟨B7, 0, none⟩) V7.length V7.length)).heap[w.heap.size]? = some (stC (.slice (some ⟨B8, 0, none⟩) ys.length ys.length) (.slice (some ⟨B6, 0, none⟩) V6.length V6.length) (.slice (some ⟨B7, 0, none⟩) V7.length V7.length) 0 0 nS 0 0) := blk_set z2
  have z4 : ((((W8.setCell ⟨w.heap.size, 0, none⟩ (.slice (some ⟨B8, 0, none⟩) ys.length ys.length)).setCell ⟨w.heap.size, 1, none⟩ (.slice (some ⟨B6, 0, none⟩) V6.length V6.length)).setCell ⟨w.heap.size, 2, none⟩ (.slice (some ⟨B7, 0, none⟩) V7.length V7.length)).setCell ⟨w.heap.size, 3, none⟩ (.int .i64 V4)).heap[w.heap.size]? = some (stC (.slice (some ⟨B8, 0, none⟩) ys.length ys.length) (.slice (some ⟨B6, 0, none⟩) V6.length V6.length) (.slice (some ⟨B7, 0, none⟩) V7.length V7.length) V4 0 nS 0 0) := blk_set z3
  have z5 : (((((W8.setCell ⟨w.heap.size, 0, none⟩ (.slice (some ⟨B8, 0, none⟩) ys.length ys.length)).setCell ⟨w.heap.size, 1, none⟩ (.slice (some ⟨B6, 0, none⟩) V6.length V6.length)).setCell ⟨w.heap.size, 2, none⟩ (.slice (some ⟨B7, 0, none⟩) V7.length V7.length)).setCell ⟨w.heap.size, 3, none⟩ (.int .i64 V4)).setCell ⟨w.heap.size, 4, none⟩ (.int .i8 V1)).heap[w.heap.size]? = some (stC (.slice (some ⟨B8, 0, none⟩) ys.length ys.length) (.slice (some ⟨B6, 0, none⟩) V6.length V6.length) (.slice (some ⟨B7, 0, none⟩) V7.length V7.length) V4 V1 nS 0 0) := blk_set z4
  have z6 : ((((((W8.setCell ⟨w.heap.size, 0, none⟩ (.slice (some ⟨B8, 0, none⟩) ys.length ys.length)).setCell ⟨w.heap.size, 1, none⟩ (.slice (some ⟨B6, 0, none⟩) V6.length V6.length)).setCell ⟨w.heap.size, 2, none⟩ (.slice (some ⟨B7, 0, none⟩) V7.length V7.length)).setCell ⟨w.heap.size, 3, none⟩ (.int .i64 V4)).setCell ⟨w.heap.size, 4, none⟩ (.int .i8 V1)).setCell ⟨w.heap.size, 5, none⟩ (.slice (some ⟨B5, 0, none⟩) V5.length V5.length)).heap[w.heap.size]? = some (stC (.slice (some ⟨B8, 0, none⟩) ys.length ys.length) (.slice (some ⟨B6, 0, none⟩) V6.length V6.length) (.slice (some ⟨B7, 0, none⟩) V7.length V7.length) V4 V1 (.slice (some ⟨B5, 0, none⟩) V5.length V5.length) 0 0) := blk_set z5
  have z7 : (((((((W8.setCell ⟨w.heap.size, 0, none⟩ (.slice (some ⟨B8, 0, none⟩) ys.length ys.length)).setCell ⟨w.heap.size, 1, none⟩ (.slice (some ⟨B6, 0, none⟩) V6.length V6.length)).setCell ⟨w.heap.size, 2, none⟩ (.slice (some ⟨B7, 0, none⟩) V7.length V7.length)).setCell ⟨w.heap.size, 3, none⟩ (.int .i64 V4)).setCell ⟨w.heap.size, 4, none⟩ (.int .i8 V1)).setCell ⟨w.heap.size, 5, none⟩ (.slice (some ⟨B5, 0, none⟩) V5.length V5.length)).setCell ⟨w.heap.size, 6, none⟩ (.int .i8 V2)).heap[w.heap.size]? = some (stC (.slice (some ⟨B8, 0, none⟩) ys.length ys.length) (.slice (some ⟨B6, 0, none⟩) V6.length V6.length) (.slice (some ⟨B7, 0, none⟩) V7.length V7.length) V4 V1 (.slice (some ⟨B5, 0, none⟩) V5.length V5.length) V2 0) := blk_set z6
  have z8 : ((((((((W8.setCell ⟨w.heap.size, 0, none⟩ (.slice (some ⟨B8, 0, none⟩) ys.length ys.length)).setCell ⟨w.heap.size, 1, none⟩ (.slice (some ⟨B6, 0, none⟩) V6.length V6.length)).setCell ⟨w.heap.size, 2, none⟩ (.slice (some ⟨B7, 0, none⟩) V7.length V7.length)).setCell ⟨w.heap.size, 3, none⟩ (.int .i64 V4)).setCell ⟨w.heap.size, 4, none⟩ (.int .i8 V1)).setCell ⟨w.heap.size, 5, none⟩ (.slice (some ⟨B5, 0, none⟩) V5.length V5.length)).setCell ⟨w.heap.size, 6, none⟩ (.int .i8 V2)).setCell ⟨w.heap.size, 7, none⟩ (.int .i64 V3)).heap[w.heap.size]? = some (stC (.slice (some ⟨B8, 0, none⟩) ys.length ys.length) (.slice (some ⟨B6, 0, none⟩) V6.length V6.length) (.slice (some ⟨B7, 0, none⟩) V7.length V7.length) V4 V1 (.slice (some ⟨B5, 0, none⟩) V5.length V5.length) V2 V3) := blk_set z7
  have kk : Kept (fun k => k = w.heap.size) W8 ((((((((W8.setCell ⟨w.heap.size, 0, none⟩ (.slice (some ⟨B8, 0, none⟩) ys.length ys.length)).setCell ⟨w.heap.size, 1, none⟩ (.slice (some ⟨B6, 0, none⟩) V6.length V6.length)).setCell ⟨w.heap.size, 2, none⟩ (.slice (some ⟨B7, 0, none⟩) V7.length V7.length)).setCell ⟨w.heap.size, 3, none⟩ (.int .i64 V4)).setCell ⟨w.heap.size, 4, none⟩ (.int .i8 V1)).setCell ⟨w.heap.size, 5, none⟩ (.slice (some ⟨B5, 0, none⟩) V5.length V5.length)).setCell ⟨w.heap.size, 6, none⟩ (.int .i8 V2)).setCell ⟨w.heap.size, 7, none⟩ (.int .i64 V3)) := ((((((kept_put.trans kept_put).trans kept_put).trans kept_put).trans kept_put).trans kept_put).trans kept_put).trans kept_put
  have rr : Rd ((((((((W8.setCell ⟨w.heap.size, 0, none⟩ (.slice (some ⟨B8, 0, none⟩) ys.length ys.length)).setCell ⟨w.heap.size, 1, none⟩ (.slice (some ⟨B6, 0, none⟩) V6.length V6.length)).setCell ⟨w.heap.size, 2, none⟩ (.slice (some ⟨B7, 0, none⟩) V7.length V7.length)).setCell ⟨w.heap.size, 3, none⟩ (.int .i64 V4)).setCell ⟨w.heap.size, 4, none⟩ (.int .i8 V1)).setCell ⟨w.heap.size, 5, none⟩ (.slice (some ⟨B5, 0, none⟩) V5.length V5.length)).setCell ⟨w.heap.size, 6, none⟩ (.int .i8 V2)).setCell ⟨w.heap.size, 7, none⟩ (.int .i64 V3)) R (some ⟨b, off, none⟩) n c zs s8 := by
    have hR0 : w.heap.size ≠ R := by omega
    have hl : ∀ b1 o1, (some ⟨b, off, none⟩ : Option Addr) = some ⟨b1, o1, none⟩ → 0 < n → b1 ≠ w.heap.size := fun b1 o1 e hn => by have := HLO.out b1 o1 e hn; omega
    exact (((((((R8.out.put hR0 hl).put hR0 hl).put hR0 hl).put hR0 hl).put hR0 hl).put hR0 hl).put hR0 hl).put hR0 hl
  have sta : StA w.heap.size W8 ⟨V1, V2, V3, V4, V5, V6, V7, V8⟩ B5 B6 B7 bl B8 ys := ⟨O5.out, O6.out, O7.out, F8.out, by rw [hx8]; exact O8.out, fp8, by omega, by omega, fun q hq => by have := hel7 q hq; omega, by omega⟩
  have stb := sta.keep kk (fun q h1 h2 => by omega)
  generalize ((((((((W8.setCell ⟨w.heap.size, 0, none⟩ (.slice (some ⟨B8, 0, none⟩) ys.length ys.length)).setCell ⟨w.heap.size, 1, none⟩ (.slice (some ⟨B6, 0, none⟩) V6.length V6.length)).setCell ⟨w.heap.size, 2, none⟩ (.slice (some ⟨B7, 0, none⟩) V7.length V7.length)).setCell ⟨w.heap.size, 3, none⟩ (.int .i64 V4)).setCell ⟨w.heap.size, 4, none⟩ (.int .i8 V1)).setCell ⟨w.heap.size, 5, none⟩ (.slice (some ⟨B5, 0, none⟩) V5.length V5.length)).setCell ⟨w.heap.size, 6, none⟩ (.int .i8 V2)).setCell ⟨w.heap.size, 7, none⟩ (.int .i64 V3)) = X at *
  refine bodyPost_ret (v := .agg (stAr (mkS ⟨V1, V2, V3, V4, V5, V6, V7, V8⟩ B5 B6 B7 bl B8 ys))) ?_ rfl ?_
  · exact results_cell_row (p := 2) (ty := 27) rfl _ _ w.heap.size 27 _ (0, 0) _ rfl z8 Tryd.underlying27 rfl (by kernel_rfl)
  · exact ⟨B5, B6, B7, bl, B8, ys, rfl, stb, rr, K8.out.then kk (fun q h1 h2 => by omega)⟩
end Go.Proofs.YtbdjghokedfkfaaDoor

/-
  A state that was read is told to the bag.
-/
import Derived.Test.YtbdjghokedfkfaaDoorJGf
import Derived.Test.YtbdjghokedfkfaaDoorKi
namespace Go.Proofs.YtbdjghokedfkfaaDoor
open Go.RowKit
set_option linter.unusedVariables false
set_option maxRecDepth 100000
theorem own_of_block {w : World} {e : TypeId} {k B n : Nat} {xs : List Value} (h : w.heap[B]? = some (.cells xs.toArray e)) (hl : xs.length = n * k) (hm : n ≤ maxLen) : w.ownsRow 0 e k (.slice (some ⟨B, 0, none⟩) n n) n xs :=
  ⟨hl, .inr ⟨B, n, xs.toArray, rfl, Nat.zero_le _, h, Nat.le_refl _, hm, by rw [List.size_toArray, hl], by
    show xs.take (n * k) = xs
    exact List.take_of_length_le (by omega)⟩⟩
/-- A state that was read, its blocks from lo up to hi. -/
structure StL (lo hi : Nat) (w : World) (p : StP) (B5 B6 B7 : Nat) (bl : List Nat) (B8 : Nat) (ys : List FrM) : Prop where
  rs : RwU lo w B5 p.rs
  gs : RwU lo w B6 p.gs
  ps : PgA (B7 + 1) w B7 bl p.ps
  fr : w.heap[B8]? = some (.cells (ys.flatMap frCs).toArray 66)
  fa : FsA (B8 + 1) hi w ys
  o1 : B5 < B6
  o2 : B6 < B7
  o3 : ∀ q ∈ bl, q < B8
  o4 : B7 < B8
  h8 : B8 < hi
  fp : ys.map plF = p.fs
theorem StA.stl {lo : Nat} {w : World} {p : StP} {B5 B6 B7 : Nat} {bl : List Nat} {B8 : Nat} {ys : List FrM} (h : StA lo w p B5 B6 B7 bl B8 ys) : StL lo w.heap.size w p B5 B6 B7 bl B8 ys := ⟨h.rs, h.gs, h.ps, h.fr, h.fa, h.o1, h.o2, h.o3, h.o4, nb_lt h.fr, h.fp⟩
theorem StL.later {lo hi : Nat} {w w' : World} {p : StP} {B5 B6 B7 : Nat} {bl : List Nat} {B8 : Nat} {ys : List FrM} (h : StL lo hi w p B5 B6 B7 bl B8 ys) (hb : Below w.heap.size w w') : StL lo hi w' p B5 B6 B7 bl B8 ys :=
  have hk : Kept (fun _ => False) w w' := kept_bel hb
  ⟨h.rs.keep hk id, h.gs.keep hk id, h.ps.keep hk id (fun _ _ _ => id), (hk.block _ (nb_lt h.fr) id).trans h.fr, h.fa.keep hk (fun _ _ _ => id), h.o1, h.o2, h.o3, h.o4, h.h8, h.fp⟩
theorem rwu_ok {lo base : Nat} {w : World} {B : Nat} {l : List Int} (h : RwU base w B l) (hl : lo ≤ base) : (⟨some B, l.length, l.length⟩ : Tl).ok 1 63 lo w := .inl ⟨B, rfl, Nat.le_trans hl h.lo, _, own_low h.own (Nat.zero_le _)⟩
def frY (ys : List FrM) (i : Nat) : FrM := ys.getD i zF
theorem frY_get {ys : List FrM} {i : Nat} (hi : i < ys.length) : ys[i]? = some (frY ys i) := by unfold frY; rw [List.getD_eq_getElem?_getD, List.getElem?_eq_getElem hi]; rfl
def tL (ys : List FrM) (i : Nat) : Tl := ⟨some (bkL (frY ys i)), (frY ys i).2.2.1.2.length, (frY ys i).2.2.1.2.length⟩
def tS (ys : List FrM) (i : Nat) : Tl := ⟨some (bkS (frY ys i)), (frY ys i).2.2.2.2.length, (frY ys i).2.2.2.2.length⟩
def tP (bl : List Nat) (i : Nat) : Tl := ⟨some (bl.getD i 0), 4096, 4096⟩
theorem bl_get {bl : List Nat} {i : Nat} (hi : i < bl.length) : bl[i]? = some (bl.getD i 0) := by rw [List.getD_eq_getElem?_getD, List.getElem?_eq_getElem hi]; rfl
set_option maxHeartbeats 1000000 in
theorem BgK.addSt {lo base : Nat} {w : World} {GB : Nat} {K : KM} (h : BgK lo base w GB K) (l2 : (K 2).2.length < 300) (l3 : (K 3).2.length + 2 < 300) {lo' hi : Nat} {p : StP} {B5 B6 B7 : Nat} {bl : List Nat} {B8 : Nat} {ys : List FrM} (S : StL lo' hi w p B5 B6 B7 bl B8 ys) (hp : SzP p) (hlo : lo ≤ lo') (hih : hi ≤ w.heap.size) (nb : ∀ k, lo' ≤ k → k < hi → ¬ BF GB K k) :
    Calls Tryd.prog 18 #[.pointer (some ⟨GB, 0, none⟩), .agg (stAr (mkS p B5 B6 B7 bl B8 ys))] w fun e w' => e = .returned (.tuple #[]) ∧ Added lo base GB K (fun k => B5 ≤ k ∧ k < hi) 2 w w' := by
  have hpl := S.ps.len
  have hyl : ys.length ≤ 64 := by
    have h1 := congrArg List.length S.fp
    have h2 := hp.fs
    rw [List.length_map] at h1
    omega
  have hps := hp.ps
  have hrs := hp.rs
  have hgs := hp.gs
  have h5 := S.rs.lo
  have hm : ∀ n, n ≤ 300 → n ≤ maxLen := fun n hn => by unfold maxLen; omega
  have hfr : ∀ i, i < ys.length → ∃ x C1 C2, frY ys i = frN x C1 C2 ∧ FrA (B8 + 1) w x C1 C2 ∧ C2 < hi := fun i hi' => S.fa.el _ (List.mem_of_getElem? (frY_get hi'))
  have ho1 := S.o1
  have ho2 := S.o2
  have ho4 := S.o4
  have cell8 : ∀ i q, i < ys.length → q < 4 → w.cell? ⟨B8, i * 4 + q, none⟩ = (frCs (frY ys i))[q]? := fun i q hi' hq => by
    rw [cell_at S.fr, List.getElem?_toArray, fm_get frCs 4 frCs_len ys i q hq, frY_get hi']
    rfl
  refine h.addS l2 l3 B5 B6 B7 B8 ys.length p.ps.length p.rs.length p.gs.length p.rep p.en p.tr p.us (fun i => (frY ys i).1) (fun i => (frY ys i).2.1) (tL ys) (tS ys) (tP bl) (by omega) (by omega) (by omega) (by omega) (rwu_ok S.rs hlo) (rwu_ok S.gs hlo) ?_ ?_ ?_ ?_ ?_ ?_ ?_ (hi := hi) S.o1 S.o2 S.o4 ?_ ?_ ?_ hih S.h8 (fun k h1 h2 => nb k (by omega) h2)
  · exact .inl ⟨B7, rfl, by show lo ≤ B7; omega, bl.map slP, own_of_block S.ps.row (by rw [List.length_map, Nat.mul_one]; exact hpl) (hm _ (by show p.ps.length ≤ 300; omega))⟩
  · exact .inl ⟨B8, rfl, by show lo ≤ B8; omega, ys.flatMap frCs, own_of_block S.fr (fm4_len ys) (hm _ (by show ys.length ≤ 300; omega))⟩
  · intro i hi'
    obtain ⟨x, C1, C2, e, hf, hC⟩ := hfr i hi'
    have c0 := cell8 i 0 hi' (by omega)
    have c1 := cell8 i 1 hi' (by omega)
    have c2 := cell8 i 2 hi' (by omega)
    have c3 := cell8 i 3 hi' (by omega)
    rw [Nat.add_zero] at c0
    unfold tL tS
    rw [e] at c0 c1 c2 c3 ⊢
    exact ⟨c0, c1, c2, c3⟩
  · intro i hi'
    obtain ⟨x, C1, C2, e, hf, hC⟩ := hfr i hi'
    have hx := hp.fl (plF (frY ys i)) (by rw [← S.fp]; exact List.mem_map_of_mem (List.mem_of_getElem? (frY_get hi')))
    unfold tL
    rw [e] at hx ⊢
    refine ⟨rwu_ok hf.l (by omega), ?_⟩
    have h1 : x.2.2.1.length ≤ 64 := hx.1
    show x.2.2.1.length ≤ 4194304
    omega
  · intro i hi'
    obtain ⟨x, C1, C2, e, hf, hC⟩ := hfr i hi'
    have hx := hp.fl (plF (frY ys i)) (by rw [← S.fp]; exact List.mem_map_of_mem (List.mem_of_getElem? (frY_get hi')))
    unfold tS
    rw [e] at hx ⊢
    refine ⟨rwu_ok hf.s (by omega), ?_⟩
    have h1 : x.2.2.2.length ≤ 256 := hx.2
    show x.2.2.2.length ≤ 4194304
    omega
  · intro i hi'
    rw [cell_at S.ps.row, List.getElem?_toArray, List.getElem?_map, bl_get (by omega)]
    rfl
  · intro i hi'
    have hb := bl_get (bl := bl) (i := i) (by omega)
    obtain ⟨l, hl⟩ : ∃ l, p.ps[i]? = some l := ⟨_, List.getElem?_eq_getElem hi'⟩
    have hll := (hp.pl l (List.mem_of_getElem? hl)).1
    have hlo' := (S.ps.lo i _ hb).1
    refine ⟨.inl ⟨_, rfl, by show lo ≤ bl.getD i 0; omega, l.map (Value.int .u8), own_of_block (n := 4096) (S.ps.el i _ l hb hl) (by rw [List.length_map, hll]) (by unfold maxLen; omega)⟩, ?_⟩
    show 4096 ≤ 4194304
    omega
  · intro i k hi' hk
    obtain ⟨x, C1, C2, e, hf, hC⟩ := hfr i hi'
    have hk' : bkL (frY ys i) = k := Option.some.inj hk
    have hlt := hf.lt
    have hl1 := hf.l.lo
    have eL : bkL (frY ys i) = C1 := by rw [e]; rfl
    refine ⟨by omega, by omega, fun j hj => ?_⟩
    have has := S.fa.asc j i _ _ hj (frY_get (by omega)) (frY_get hi')
    obtain ⟨y, D1, D2, e', hf', _⟩ := hfr j (by omega)
    have hlt' := hf'.lt
    have eL' : bkL (frY ys j) = D1 := by rw [e']; rfl
    have eS' : bkS (frY ys j) = D2 := by rw [e']; rfl
    exact ⟨fun hx => by have : bkL (frY ys j) = k := Option.some.inj hx; omega, fun hx => by have : bkS (frY ys j) = k := Option.some.inj hx; omega⟩
  · intro i k hi' hk
    obtain ⟨x, C1, C2, e, hf, hC⟩ := hfr i hi'
    have hk' : bkS (frY ys i) = k := Option.some.inj hk
    have hlt := hf.lt
    have hl1 := hf.l.lo
    have eL : bkL (frY ys i) = C1 := by rw [e]; rfl
    have eS : bkS (frY ys i) = C2 := by rw [e]; rfl
    refine ⟨by omega, by omega, fun hx => by have : bkL (frY ys i) = k := Option.some.inj hx; omega, fun j hj => ?_⟩
    have has := S.fa.asc j i _ _ hj (frY_get (by omega)) (frY_get hi')
    obtain ⟨y, D1, D2, e', hf', _⟩ := hfr j (by omega)
    have hlt' := hf'.lt
    have eL' : bkL (frY ys j) = D1 := by rw [e']; rfl
    have eS' : bkS (frY ys j) = D2 := by rw [e']; rfl
    exact ⟨fun hx => by have : bkL (frY ys j) = k := Option.some.inj hx; omega, fun hx => by have : bkS (frY ys j) = k := Option.some.inj hx; omega⟩
  · intro i k hi' hk
    have hk' : bl.getD i 0 = k := Option.some.inj hk
    have hb := bl_get (bl := bl) (i := i) (by omega)
    have hlo' := (S.ps.lo i _ hb).1
    have h3 := S.o3 _ (List.mem_of_getElem? hb)
    refine ⟨by omega, by omega, fun j hj hx => ?_⟩
    have hx' : bl.getD j 0 = k := Option.some.inj hx
    have := S.ps.asc j i _ _ hj (bl_get (by omega)) hb
    omega
end Go.Proofs.YtbdjghokedfkfaaDoor

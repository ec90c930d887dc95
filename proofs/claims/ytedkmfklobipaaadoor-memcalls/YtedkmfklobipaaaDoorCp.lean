/-
  Two memories beside their documents and a bag: none knows of another.
-/
import Derived.Test.YtedkmfklobipaaaDoorBh
import Derived.Test.YtedkmfklobipaaaDoorOpenC
namespace Go.Proofs.YtedkmfklobipaaaDoor
open Go.RowKit
set_option linter.unusedVariables false

/-- A bag of so many lists, its blocks F. -/
def BG (w : World) (lo GB : Nat) (F : Nat → Prop) (cI cB cP : Nat) : Prop :=
  ∃ vI vB vP lI lB lP, Bg3 lo w GB vI vB vP lI lB lP ∧ (∀ k, F k ↔ Bf GB vI vB vP lI lB lP k) ∧ lI.length = cI ∧ lB.length = cB ∧ lP.length = cP
theorem BG.lt {w : World} {lo GB : Nat} {F : Nat → Prop} {cI cB cP : Nat} (h : BG w lo GB F cI cB cP) {k : Nat} (hk : F k) : k < w.heap.size := by
  obtain ⟨vI, vB, vP, lI, lB, lP, h, hF, _⟩ := h
  exact h.lt ((hF k).1 hk)
theorem BG.kept {S : Nat → Prop} {w w' : World} {lo GB : Nat} {F : Nat → Prop} {cI cB cP : Nat} (h : BG w lo GB F cI cB cP) (hk : Kept S w w') (hs : ∀ k, F k → ¬ S k) : BG w' lo GB F cI cB cP := by
  obtain ⟨vI, vB, vP, lI, lB, lP, h, hF, h1⟩ := h
  exact ⟨vI, vB, vP, lI, lB, lP, h.kept hk (fun k x => hs k ((hF k).2 x)), hF, h1⟩

structure S5 (w0 w : World) (lo most a x b y GB : Nat) (F1 F2 F3 F4 F5 : Nat → Prop) (Na : Nat) (fa : Nat → Int) (da : Nat → Bool) (Nx : Nat) (fx : Nat → Int) (dx : Nat → Bool) (Nb : Nat) (fb : Nat → Int) (db : Nat → Bool) (cI cB cP : Nat) : Prop where
  pa : PM w most a F1 Na fa da
  px : DM w most x F2 Nx fx dx
  pb : PM w most b F3 Nb fb db
  py : DM w most y F4 Nb fb db
  bg : BG w lo GB F5 cI cB cP
  dj : ∀ k, (F1 k → ¬ F2 k ∧ ¬ F3 k ∧ ¬ F4 k ∧ ¬ F5 k) ∧ (F2 k → ¬ F3 k ∧ ¬ F4 k ∧ ¬ F5 k) ∧ (F3 k → ¬ F4 k ∧ ¬ F5 k) ∧ (F4 k → ¬ F5 k)
  low : ∀ k, F1 k ∨ F2 k ∨ F3 k ∨ F4 k ∨ F5 k → lo ≤ k
  bl : Below lo w0 w
/-- The law's own call, apart from all that. -/
def Cq (w : World) (CB : Nat) (F1 F2 F3 F4 F5 : Nat → Prop) (cl : Cl) : Prop := CAt w CB 0 cl ∧ ∀ k, F1 k ∨ F2 k ∨ F3 k ∨ F4 k ∨ F5 k → k ≠ CB
theorem CAt.kept {S : Nat → Prop} {w w' : World} {b o : Nat} {x : Cl} (h : CAt w b o x) (hk : Kept S w w') (hs : ¬ S b) : CAt w' b o x :=
  ⟨hk.cell h.c0 hs, hk.cell h.c1 hs, hk.cell h.c2 hs, hk.cell h.c3 hs, hk.cell h.c4 hs, h.ra, h.rv⟩
theorem CAt.lt {w : World} {b o : Nat} {x : Cl} (h : CAt w b o x) : b < w.heap.size := block_lt_of_cell h.c0

section
variable {w0 w w' : World} {lo most a x b y GB : Nat} {F1 F2 F3 F4 F5 F' : Nat → Prop} {Na : Nat} {fa : Nat → Int} {da : Nat → Bool} {Nx : Nat} {fx : Nat → Int} {dx : Nat → Bool} {Nb : Nat} {fb : Nat → Int} {db : Nat → Bool} {cI cB cP CB : Nat} {cl : Cl}
theorem S5.lows (h : S5 w0 w lo most a x b y GB F1 F2 F3 F4 F5 Na fa da Nx fx dx Nb fb db cI cB cP) : lo ≤ w.heap.size := by
  obtain ⟨vI, vB, vP, lI, lB, lP, hB, _⟩ := h.bg
  exact Nat.le_of_lt (Nat.lt_of_le_of_lt hB.gb (block_lt_of_cell hB.c0))
theorem S5.below {S : Nat → Prop} (h : S5 w0 w lo most a x b y GB F1 F2 F3 F4 F5 Na fa da Nx fx dx Nb fb db cI cB cP) (hk : Kept S w w') (hs : ∀ k, S k → lo ≤ k) : Below lo w0 w' := below_kept h.bl hk h.lows hs
/-- The program's memory has been written, or is another one. -/
theorem S5.stepA (h : S5 w0 w lo most a x b y GB F1 F2 F3 F4 F5 Na fa da Nx fx dx Nb fb db cI cB cP) {a' Na' : Nat} {fa' : Nat → Int} {da' : Nat → Bool} (hpa : PM w' most a' F' Na' fa' da') (hk : Kept F1 w w') (ho : Out F1 F' w) :
    S5 w0 w' lo most a' x b y GB F' F2 F3 F4 F5 Na' fa' da' Nx fx dx Nb fb db cI cB cP ∧ ∀ CB cl, Cq w CB F1 F2 F3 F4 F5 cl → Cq w' CB F' F2 F3 F4 F5 cl := by
  have hl := h.lows
  refine ⟨⟨hpa, h.px.kept hk (fun k h2 h1 => ((h.dj k).1 h1).1 h2), h.pb.kept hk (fun k h2 h1 => ((h.dj k).1 h1).2.1 h2), h.py.kept hk (fun k h2 h1 => ((h.dj k).1 h1).2.2.1 h2), h.bg.kept hk (fun k h2 h1 => ((h.dj k).1 h1).2.2.2 h2), fun k => ⟨fun h1 => ?_, (h.dj k).2⟩, fun k hx => ?_, h.below hk (fun k hx => h.low k (.inl hx))⟩, fun CB cl hc => ⟨hc.1.kept hk (fun hx => hc.2 CB (.inl hx) rfl), fun k hx => ?_⟩⟩
  · rcases ho k h1 with o | o
    · exact (h.dj k).1 o
    · exact ⟨fun z => by have := h.px.lt z; omega, fun z => by have := h.pb.lt z; omega, fun z => by have := h.py.lt z; omega, fun z => by have := h.bg.lt z; omega⟩
  · rcases hx with hx | hx
    · rcases ho k hx with o | o
      · exact h.low k (.inl o)
      · omega
    · exact h.low k (.inr hx)
  · rcases hx with hx | hx
    · rcases ho k hx with o | o
      · exact hc.2 k (.inl o)
      · have := hc.1.lt; omega
    · exact hc.2 k (.inr hx)
theorem S5.stepX (h : S5 w0 w lo most a x b y GB F1 F2 F3 F4 F5 Na fa da Nx fx dx Nb fb db cI cB cP) {x' Nx' : Nat} {fx' : Nat → Int} {dx' : Nat → Bool} (hpx : DM w' most x' F' Nx' fx' dx') (hk : Kept F2 w w') (ho : Out F2 F' w) :
    S5 w0 w' lo most a x' b y GB F1 F' F3 F4 F5 Na fa da Nx' fx' dx' Nb fb db cI cB cP ∧ ∀ CB cl, Cq w CB F1 F2 F3 F4 F5 cl → Cq w' CB F1 F' F3 F4 F5 cl := by
  have hl := h.lows
  refine ⟨⟨h.pa.kept hk (fun k h2 h1 => ((h.dj k).1 h2).1 h1), hpx, h.pb.kept hk (fun k h2 h1 => ((h.dj k).2.1 h1).1 h2), h.py.kept hk (fun k h2 h1 => ((h.dj k).2.1 h1).2.1 h2), h.bg.kept hk (fun k h2 h1 => ((h.dj k).2.1 h1).2.2 h2), fun k => ⟨fun h1 => ⟨fun h2 => ?_, ((h.dj k).1 h1).2⟩, fun h1 => ?_, (h.dj k).2.2⟩, fun k hx => ?_, h.below hk (fun k hx => h.low k (.inr (.inl hx)))⟩, fun CB cl hc => ⟨hc.1.kept hk (fun hx => hc.2 CB (.inr (.inl hx)) rfl), fun k hx => ?_⟩⟩
  · rcases ho k h2 with o | o
    · exact ((h.dj k).1 h1).1 o
    · have := h.pa.lt h1; omega
  · rcases ho k h1 with o | o
    · exact (h.dj k).2.1 o
    · exact ⟨fun z => by have := h.pb.lt z; omega, fun z => by have := h.py.lt z; omega, fun z => by have := h.bg.lt z; omega⟩
  · rcases hx with hx | hx | hx
    · exact h.low k (.inl hx)
    · rcases ho k hx with o | o
      · exact h.low k (.inr (.inl o))
      · omega
    · exact h.low k (.inr (.inr hx))
  · rcases hx with hx | hx | hx
    · exact hc.2 k (.inl hx)
    · rcases ho k hx with o | o
      · exact hc.2 k (.inr (.inl o))
      · have := hc.1.lt; omega
    · exact hc.2 k (.inr (.inr hx))
/-- The bag has taken a list that is newer than z. -/
theorem S5.stepG (h : S5 w0 w lo most a x b y GB F1 F2 F3 F4 F5 Na fa da Nx fx dx Nb fb db cI cB cP) {cI' cB' cP' : Nat} (hbg : BG w' lo GB F' cI' cB' cP') (hk : Kept F5 w w') (ho : ∀ k, F' k → F5 k ∨ (¬ F1 k ∧ ¬ F2 k ∧ ¬ F3 k ∧ ¬ F4 k ∧ lo ≤ k)) :
    S5 w0 w' lo most a x b y GB F1 F2 F3 F4 F' Na fa da Nx fx dx Nb fb db cI' cB' cP' ∧ ∀ CB cl, Cq w CB F1 F2 F3 F4 F5 cl → (∀ k, F' k → F5 k ∨ k ≠ CB) → Cq w' CB F1 F2 F3 F4 F' cl := by
  refine ⟨⟨h.pa.kept hk (fun k h2 h1 => ((h.dj k).1 h2).2.2.2 h1), h.px.kept hk (fun k h2 h1 => ((h.dj k).2.1 h2).2.2 h1), h.pb.kept hk (fun k h2 h1 => ((h.dj k).2.2.1 h2).2 h1), h.py.kept hk (fun k h2 h1 => (h.dj k).2.2.2 h2 h1), hbg,
    fun k => ⟨fun h1 => ⟨((h.dj k).1 h1).1, ((h.dj k).1 h1).2.1, ((h.dj k).1 h1).2.2.1, fun z => ?_⟩, fun h1 => ⟨((h.dj k).2.1 h1).1, ((h.dj k).2.1 h1).2.1, fun z => ?_⟩, fun h1 => ⟨((h.dj k).2.2.1 h1).1, fun z => ?_⟩, fun h1 z => ?_⟩, fun k hx => ?_, h.below hk (fun k hx => h.low k (.inr (.inr (.inr (.inr hx)))))⟩,
    fun CB cl hc hn => ⟨hc.1.kept hk (fun hx => hc.2 CB (.inr (.inr (.inr (.inr hx)))) rfl), fun k hx => ?_⟩⟩
  · rcases ho k z with o | o
    · exact ((h.dj k).1 h1).2.2.2 o
    · exact o.1 h1
  · rcases ho k z with o | o
    · exact ((h.dj k).2.1 h1).2.2 o
    · exact o.2.1 h1
  · rcases ho k z with o | o
    · exact ((h.dj k).2.2.1 h1).2 o
    · exact o.2.2.1 h1
  · rcases ho k z with o | o
    · exact (h.dj k).2.2.2 h1 o
    · exact o.2.2.2.1 h1
  · rcases hx with hx | hx | hx | hx | hx
    · exact h.low k (.inl hx)
    · exact h.low k (.inr (.inl hx))
    · exact h.low k (.inr (.inr (.inl hx)))
    · exact h.low k (.inr (.inr (.inr (.inl hx))))
    · exact (ho k hx).elim (fun o => h.low k (.inr (.inr (.inr (.inr o))))) (fun o => o.2.2.2.2)
  · rcases hx with hx | hx | hx | hx | hx
    · exact hc.2 k (.inl hx)
    · exact hc.2 k (.inr (.inl hx))
    · exact hc.2 k (.inr (.inr (.inl hx)))
    · exact hc.2 k (.inr (.inr (.inr (.inl hx))))
    · exact (hn k hx).elim (fun o => hc.2 k (.inr (.inr (.inr (.inr o))))) id
/-- Only new blocks. -/
theorem S5.later (h : S5 w0 w lo most a x b y GB F1 F2 F3 F4 F5 Na fa da Nx fx dx Nb fb db cI cB cP) (hk : Kept (fun _ => False) w w') :
    S5 w0 w' lo most a x b y GB F1 F2 F3 F4 F5 Na fa da Nx fx dx Nb fb db cI cB cP ∧ ∀ CB cl, Cq w CB F1 F2 F3 F4 F5 cl → Cq w' CB F1 F2 F3 F4 F5 cl :=
  ⟨⟨h.pa.kept hk (fun _ _ x => x), h.px.kept hk (fun _ _ x => x), h.pb.kept hk (fun _ _ x => x), h.py.kept hk (fun _ _ x => x), h.bg.kept hk (fun _ _ x => x), h.dj, h.low, h.below hk (fun _ x => x.elim)⟩, fun CB cl hc => ⟨hc.1.kept hk (fun x => x), hc.2⟩⟩
/-- All blocks are there. -/
theorem S5.lt (h : S5 w0 w lo most a x b y GB F1 F2 F3 F4 F5 Na fa da Nx fx dx Nb fb db cI cB cP) {k : Nat} (hx : F1 k ∨ F2 k ∨ F3 k ∨ F4 k ∨ F5 k) : k < w.heap.size := by
  rcases hx with hx | hx | hx | hx | hx
  · exact h.pa.lt hx
  · exact h.px.lt hx
  · exact h.pb.lt hx
  · exact h.py.lt hx
  · exact h.bg.lt hx
/-- The other pair first. -/
theorem S5.swap (h : S5 w0 w lo most a x b y GB F1 F2 F3 F4 F5 Na fa da Na fa da Nb fb db cI cB cP) :
    S5 w0 w lo most b y a x GB F3 F4 F1 F2 F5 Nb fb db Nb fb db Na fa da cI cB cP := by
  refine ⟨h.pb, h.py, h.pa, h.px, h.bg, fun k => ?_, fun k hx => h.low k ?_, h.bl⟩
  · have D := h.dj k
    exact ⟨fun z => ⟨(D.2.2.1 z).1, fun q => (D.1 q).2.1 z, fun q => (D.2.1 q).1 z, (D.2.2.1 z).2⟩, fun z => ⟨fun q => (D.1 q).2.2.1 z, fun q => (D.2.1 q).2.1 z, D.2.2.2 z⟩, fun z => ⟨(D.1 z).1, (D.1 z).2.2.2⟩, fun z => (D.2.1 z).2.2⟩
  · rcases hx with hx | hx | hx | hx | hx
    · exact .inr (.inr (.inl hx))
    · exact .inr (.inr (.inr (.inl hx)))
    · exact .inl hx
    · exact .inr (.inl hx)
    · exact .inr (.inr (.inr (.inr hx)))
theorem Cq.swap (h : Cq w CB F1 F2 F3 F4 F5 cl) : Cq w CB F3 F4 F1 F2 F5 cl := by
  refine ⟨h.1, fun k hx => h.2 k ?_⟩
  rcases hx with hx | hx | hx | hx | hx
  · exact .inr (.inr (.inl hx))
  · exact .inr (.inr (.inr (.inl hx)))
  · exact .inl hx
  · exact .inr (.inl hx)
  · exact .inr (.inr (.inr (.inr hx)))

/-- AddInts of a list that is newer than z. -/
theorem S5.addI (h : S5 w0 w lo most a x b y GB F1 F2 F3 F4 F5 Na fa da Nx fx dx Nb fb db cI cB cP) (p : Tl) (hp : p.ok 3 lo w) (hl : p.n ≤ 4096) (z : Nat) (hz : ∀ k, p.b = some k → z ≤ k) (hlz : lo ≤ z) (hF : ∀ k, F1 k ∨ F2 k ∨ F3 k ∨ F4 k ∨ F5 k → k < z) (hzw : z ≤ w.heap.size) (hn : cI < 300) (hcq : Cq w CB F1 F2 F3 F4 F5 cl) (hCz : CB < z) :
    Calls Tryd.prog 28 #[.pointer (some ⟨GB, 0, none⟩), .slice p.ad p.n p.c] w fun e w' => e = .returned (.tuple #[]) ∧ ∃ F', S5 w0 w' lo most a x b y GB F1 F2 F3 F4 F' Na fa da Nx fx dx Nb fb db (cI + 1) cB cP ∧ Cq w' CB F1 F2 F3 F4 F' cl ∧ Kept F5 w w' := by
  obtain ⟨vI, vB, vP, lI, lB, lP, hB, hF5, e1, e2, e3⟩ := h.bg
  subst e1 e2 e3
  refine (hB.addI p hp hl (fun k hk hx => by have := hz k hk; have := hF k (.inr (.inr (.inr (.inr ((hF5 k).2 hx))))); omega) (by omega)).mono ?_
  rintro e w' ⟨rfl, vI', hB', hk, ho⟩
  have hk5 : Kept F5 w w' := hk.mono (fun k hx => (hF5 k).2 hx)
  have ho2 : ∀ k, Bf GB vI' vB vP (lI ++ [p]) lB lP k → F5 k ∨ z ≤ k := fun k hx => by
    rcases ho k hx with o | o | o
    · exact .inl ((hF5 k).2 o)
    · exact .inr (hz k o)
    · exact .inr (Nat.le_trans hzw o)
  obtain ⟨h2, hc2⟩ := h.stepG (F' := Bf GB vI' vB vP (lI ++ [p]) lB lP) ⟨vI', vB, vP, _, lB, lP, hB', fun _ => Iff.rfl, List.length_append, rfl, rfl⟩ hk5 (fun k hx => (ho2 k hx).imp id (fun o => ⟨fun q => by have := hF k (.inl q); omega, fun q => by have := hF k (.inr (.inl q)); omega, fun q => by have := hF k (.inr (.inr (.inl q))); omega, fun q => by have := hF k (.inr (.inr (.inr (.inl q)))); omega, by omega⟩))
  exact ⟨rfl, _, h2, hc2 CB cl hcq (fun k hx => (ho2 k hx).imp id (fun o => by omega)), hk5⟩
/-- AddPages of pages that are newer than z. -/
theorem S5.addP (h : S5 w0 w lo most a x b y GB F1 F2 F3 F4 F5 Na fa da Nx fx dx Nb fb db cI cB cP) {L N z : Nat} {QB : List Nat} {f : Nat → Int} (hg : Pgs w z L N QB f) (hl : QB.length = N) (hN : N ≤ 64) (hlz : lo ≤ z) (hF : ∀ k, F1 k ∨ F2 k ∨ F3 k ∨ F4 k ∨ F5 k → k < z) (hzw : z ≤ w.heap.size) (hn : cP < 300) (hb : cB + N ≤ 300) (hcq : Cq w CB F1 F2 F3 F4 F5 cl) (hCz : CB < z) :
    Calls Tryd.prog 25 #[.pointer (some ⟨GB, 0, none⟩), .slice (some ⟨L, 0, none⟩) N N] w fun e w' => e = .returned (.tuple #[]) ∧ ∃ F', S5 w0 w' lo most a x b y GB F1 F2 F3 F4 F' Na fa da Nx fx dx Nb fb db cI (cB + N) (cP + 1) ∧ Cq w' CB F1 F2 F3 F4 F' cl := by
  obtain ⟨vI, vB, vP, lI, lB, lP, hB, hF5, e1, e2, e3⟩ := h.bg
  subst e1 e2 e3
  have hQ : ∀ q ∈ QB, z ≤ q := fun q hq => by
    obtain ⟨i, hi⟩ := List.getElem?_of_mem hq
    exact (hg.pg i q hi).1
  refine (hB.addP hg hl (by omega) hlz (fun hx => by have := hg.lo; have := hF L (.inr (.inr (.inr (.inr ((hF5 L).2 hx))))); omega) (fun q hq hx => by have := hQ q hq; have := hF q (.inr (.inr (.inr (.inr ((hF5 q).2 hx))))); omega) (by omega) (by omega)).mono ?_
  rintro e w' ⟨rfl, vB', vP', lB', lP', hB', e2', e3', hk, ho⟩
  have ho2 : ∀ k, Bf GB vI vB' vP' lI lB' lP' k → F5 k ∨ z ≤ k := fun k hx => by
    rcases ho k hx with o | o | o | o
    · exact .inl ((hF5 k).2 o)
    · exact .inr (by have := hg.lo; omega)
    · exact .inr (hQ k o)
    · exact .inr (by omega)
  obtain ⟨h2, hc2⟩ := h.stepG (F' := Bf GB vI vB' vP' lI lB' lP') ⟨vI, vB', vP', lI, lB', lP', hB', fun _ => Iff.rfl, rfl, e2', e3'⟩ (hk.mono (fun k hx => (hF5 k).2 hx)) (fun k hx => (ho2 k hx).imp id (fun o => ⟨fun q => by have := hF k (.inl q); omega, fun q => by have := hF k (.inr (.inl q)); omega, fun q => by have := hF k (.inr (.inr (.inl q))); omega, fun q => by have := hF k (.inr (.inr (.inr (.inl q)))); omega, by omega⟩))
  exact ⟨rfl, _, h2, hc2 CB cl hcq (fun k hx => (ho2 k hx).imp id (fun o => by omega))⟩
end
end Go.Proofs.YtedkmfklobipaaaDoor

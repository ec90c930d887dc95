/-
  The document's Read for all bytes; the two states that are read are alike.
-/
import Derived.Test.YtbdjghokedfkfaaDoorKh
import Derived.Test.YtbdjghokedfkfaaDoorJPd
namespace Go.Proofs.YtbdjghokedfkfaaDoor
open Go.RowKit
set_option linter.unusedVariables false
set_option maxRecDepth 100000

theorem rread17 (a : Option Addr) (n c : Nat) (zs : List Int) (w : World) (h : Seg w a n c zs) :
    Calls Tryd.prog 17 #[.slice a n c] w (RdD zs w) := by
  by_cases hE : 524288 < n ∨ pfx zs = false
  · exact rrd17_no a n c zs w h hE
  · have hp : pfx zs = true := by
      cases hx : pfx zs with
      | true => rfl
      | false => exact absurd (.inr hx) hE
    have hn : n ≤ 524288 := by
      apply Nat.le_of_not_lt
      intro hx
      exact hE (.inl hx)
    have h1 : zs.take 5 = mgc := by simpa [pfx] using hp
    have h2 := congrArg List.length h1
    rw [List.length_take] at h2
    have h3 : mgc.length = 5 := rfl
    have hl := h.1
    obtain ⟨b, off, rfl, _⟩ := h.2.2.2.2.resolve_left (by omega)
    exact rrd17_yes b off n c zs w h hn hp
theorem StA.smp {base : Nat} {w : World} {p : StP} {B5 B6 B7 : Nat} {bl : List Nat} {B8 : Nat} {ys : List FrM} (h : StA base w p B5 B6 B7 bl B8 ys) : SmP (mkS p B5 B6 B7 bl B8 ys) p := ⟨rfl, rfl, rfl, rfl, rfl, rfl, zip_sndD bl p.ps h.ps.len, h.fp⟩
theorem smp_same {s t : StM} {p : StP} (h1 : SmP s p) (h2 : SmP t p) : stE s t = true := by
  have hi : ∀ x : Int, iE x x = true := fun x => by simp [iE]
  have hl : ∀ l : List Int, lE iE l l = true := fun l => by rw [lE_int]; simp
  have hf : lE frE s.fs t.fs = true := by
    have e : s.fs.map plF = t.fs.map plF := h1.fs.trans h2.fs.symm
    refine lE_yes (by have := congrArg List.length e; simpa using this) (fun i x y hx hy => ?_)
    have e1 : (s.fs.map plF)[i]? = some (plF x) := by rw [List.getElem?_map, hx]; rfl
    have e2 : (t.fs.map plF)[i]? = some (plF y) := by rw [List.getElem?_map, hy]; rfl
    rw [e, e2] at e1
    injection e1 with e1
    simp only [plF, Prod.mk.injEq] at e1
    obtain ⟨g1, g2, g3, g4⟩ := e1
    unfold frE
    rw [g1, g2, g3, g4, hi, hi, hl, hl]
    rfl
  have hp : lE pgE s.ps t.ps = true := by
    have e : s.ps.map (·.2) = t.ps.map (·.2) := h1.ps.trans h2.ps.symm
    refine lE_yes (by have := congrArg List.length e; simpa using this) (fun i x y hx hy => ?_)
    have e1 : (s.ps.map (·.2))[i]? = some x.2 := by rw [List.getElem?_map, hx]; rfl
    have e2 : (t.ps.map (·.2))[i]? = some y.2 := by rw [List.getElem?_map, hy]; rfl
    rw [e, e2] at e1
    injection e1 with e1
    unfold pgE
    rw [e1, hl]
  unfold stE
  rw [h1.rep, h2.rep, h1.en, h2.en, h1.tr, h2.tr, h1.us, h2.us, h1.gs, h2.gs, h1.rs, h2.rs, hf, hp, hl, hl, hi, hi, hi, hi]
  rfl
theorem smp_sb {w : World} {s : StM} {p : StP} (h : SmP s p) (hs : SSt w s) (hp : SzP p) : SB s := by
  refine ⟨fun x hx => ?_, fun x hx => ?_, ?_, ?_, ?_, ?_⟩
  · have hm : plF x ∈ p.fs := by rw [← h.fs]; exact List.mem_map_of_mem hx
    have := hp.fl _ hm
    simp only [plF] at this
    have h1 := (hs.fr.in_ x hx).1.1
    have h2 := (hs.fr.in_ x hx).2.1
    exact ⟨by omega, by omega⟩
  · have hm : x.2 ∈ p.ps := by rw [← h.ps]; exact List.mem_map_of_mem hx
    have h1 := (hs.pg.in_ x hx).1
    have h2 := hp.pl _ hm
    exact ⟨by omega, h2.2⟩
  · have := hs.fr.len
    have h2 := congrArg List.length h.fs
    rw [List.length_map] at h2
    have := hp.fs
    omega
  · have := hs.gl.1
    have h2 := hp.gs
    rw [← h.gs] at h2
    omega
  · have := hs.pg.len
    have h2 := congrArg List.length h.ps
    rw [List.length_map] at h2
    have := hp.ps
    omega
  · have := hs.rs.1
    have h2 := hp.rs
    rw [← h.rs] at h2
    omega
end Go.Proofs.YtbdjghokedfkfaaDoor

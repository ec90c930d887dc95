/-
  Texts Vo.
-/
import Derived.Deep.AppendLies
import Derived.Test.YtepcmfegggdjfaaGreatDoorQ00
import Derived.Test.YtepcmfegggdjfaaGreatDoorQ30
set_option linter.unusedVariables false
set_option maxRecDepth 100000
set_option maxHeartbeats 16000000
namespace Go.Proofs.YtepcmfegggdjfaaGreatDoor
open Go.RowKit
theorem Tryz.infOpn : (Tryz.prog.info? 116).map (fun i => (i.zero,i.size,i.bytes)) = some (some (.agg #[.string ⟨#[]⟩,.string ⟨#[]⟩,.string ⟨#[]⟩,.int .u8 0,.int .i64 0]),5,64):=by kernel_rfl
section
variable {v : Ev} {w1 w : World} {s : Cs} {m : MM} {lo : List Int}
theorem CI.other (hA : EvA v w1) (h : CI v w1 w s) {w' : World} {S : Nat → Prop} (hk : Kept S w w') (hS : ∀ k,S k → k = v.SH ∨ k = v.FL) {sh : List ByteArray} {fl : Nat → Int}
  (h1 : Row w' 9 v.SH v.n v.n (sh.map Value.string)) (h2 : RI w' v.FL v.n fl) : CI v w1 w' { s with sh:=sh,fl:=fl }:=by
 obtain ⟨OB,oc,g1,g2,g3⟩:=h.ck
 have hne:=CI.OB_ne hA g3
 have hCl : v.C < w.heap.size:=Nat.lt_of_lt_of_le hA.c h.kept.size
 have cs:=hA.cs
 have cf:=hA.cf
 refine ⟨h.kept.then hk (fun k _ e => ?_),⟨OB,oc,(hk.block _ hCl (fun e => ?_)).trans g1,own_kept g2 hk (fun e => ?_),g3⟩,h1,h2⟩
 ·rcases hS k e with rfl | rfl
  ·exact .inr (.inl rfl)
  ·exact .inr (.inr (.inl rfl))
 ·rcases hS _ e with e | e
  ·exact cs e
  ·exact cf e
 ·rcases hS _ e with e | e
  ·exact hne.2.1 e
  ·exact hne.2.2 e
theorem CI.putFl (hA : EvA v w1) (h : CI v w1 w s) (t : Nat) (x : Int) : CI v w1 (w.setCell ⟨v.FL,t,none⟩ (.int .i64 x)) { s with fl:=fun i => if i = t then x else s.fl i }:=by
 have hp:=h.fl.put (g:=fun i => if i = t then x else s.fl i) t x (fun i _ => rfl)
 exact CI.other (sh:=s.sh) hA h hp.2 (fun k e => .inr e) (h.sh.kept hp.2 (fun e => hA.sf e)) hp.1
theorem CI.putSh (hA : EvA v w1) (h : CI v w1 w s) (t : Nat) (x : ByteArray) : CI v w1 (w.setCell ⟨v.SH,t,none⟩ (.string x)) { s with sh:=s.sh.set t x }:=by
 have hp:=h.sh.put t (.string x)
 rw [← List.map_set] at hp
 exact CI.other (fl:=s.fl) hA h hp.2 (fun k e => .inl e) hp.1 (h.fl.kept hp.2 (fun e => hA.sf e.symm))
theorem opV_snoc (l : List Opn) (p : Opn) : opV (l ++ [p]) = opV l ++ p.vals:=by simp [opV]
theorem step_opn (w : World) {ops : Array Oper} {o : Oper} {a : Act} {K : Act → World → Prop} {Q : Exit → Act → World → Prop} {E : Prop} (hgd : o.guard = none)
  (sl x : Operand) (ho : o.op = Op.call { callee:=Callee.builtin Builtin.append,args:=#[sl,x],argTypes:=#[118,118] })
  {OB n oc : Nat} {l : List Opn} (hl : l.length = n) (hs : a.eval sl = .slice (some ⟨OB,0,none⟩) n oc) (hown : w.ownsRow 0 116 5 (.slice (some ⟨OB,0,none⟩) n oc) n (opV l)) {ad : Nat} (p : Opn) (hx : a.eval x = .slice (some ⟨ad,0,none⟩) 1 1)
  (hc : w.heap[ad]? = some (.cells #[.string p.P,.string p.R,.string p.B,.int .u8 p.op,.int .i64 p.pc] 116)) (hlen : n ≤ 1000)
  (h : ∀ (g cap : Nat) (w' : World),w'.ownsRow 0 116 5 (.slice (some ⟨g,0,none⟩) (n + 1) cap) (n + 1) (opV (l ++ [p])) → Kept (fun k => k = OB) w w' → (g = OB ∨ g = w.heap.size) → K (a.put o.dst (.slice (some ⟨g,0,none⟩) (n + 1) cap)) w') :
  if Region.wanted o (yielded ops a.tmps) = true then Oper.wp Tryz.prog o a w K Q else E:=by
 obtain ⟨i0,hi,hz0,hz1,hz2⟩:=info_parts Tryz.infOpn
 refine step_append_lies w hgd sl x 118 ho 0 116 i0 _ 5 64 Tryz.underlying118 hi hz0 hz1 hz2 rfl (by decide) _ n _ hs hown ⟨ad,0,none⟩ 1 1 p.vals hx rfl
  (World.news_of_block hc) (by intro u hu; simp [Opn.vals] at hu; rcases hu with rfl | rfl | rfl | rfl | rfl <;> rfl) (by decide) (by unfold maxLen; omega) (by omega) (Nat.zero_le _) _ rfl ?_
 intro g cap w' ho' hg hcase _
 rw [← opV_snoc] at ho'
 refine h g cap w' ho' ((Kept.of_grown hg).mono (fun k hk => by simpa [Value.ownBlock] using hk)) ?_
 rcases hcase with e | e
 ·exact .inl (by simpa [Value.ownBlock] using e.symm)
 ·exact .inr e
theorem CI.push (hA : EvA v w1) (h : CI v w1 w s) {OB oc g cap : Nat} {w2 : World} {p : Opn} (h14 : w.cell? ⟨v.C,14,none⟩ = some (.slice (some ⟨OB,0,none⟩) s.op.length oc)) (hk : Kept (fun k => k = OB) w w2) (hg : g = OB ∨ w1.heap.size ≤ g)
  (hown : w2.ownsRow 0 116 5 (.slice (some ⟨g,0,none⟩) (s.op.length + 1) cap) (s.op.length + 1) (opV (s.op ++ [p]))) :
  CI v w1 (w2.setCell ⟨v.C,14,none⟩ (.slice (some ⟨g,0,none⟩) (s.op.length + 1) cap)) { s with op:=s.op ++ [p] }:=by
 obtain ⟨OB',oc',h1,h2,h3⟩:=h.ck
 have h0 : w.cell? ⟨v.C,14,none⟩ = some (.slice (some ⟨OB',0,none⟩) s.op.length oc'):=by rw [cell_at h1]; rfl
 rw [h0] at h14
 simp at h14
 obtain ⟨rfl,rfl⟩:=h14
 have hne:=CI.OB_ne hA h3
 have hg' : g = v.O0 ∨ w1.heap.size ≤ g:=by rcases hg with rfl | e; exact h3; exact .inr e
 have hne':=CI.OB_ne hA hg'
 have hkp:=kept_set w2 v.C 14 (.slice (some ⟨g,0,none⟩) (s.op.length + 1) cap)
 have hCl : v.C < w.heap.size:=Nat.lt_of_lt_of_le hA.c h.kept.size
 have hk1 : Kept v.S w1 w2:=h.kept.then hk (fun k hkl e => by
  have : k = OB':=e
  rcases h3 with e3 | e3
  ·exact .inr (.inr (.inr (this.trans e3)))
  ·omega)
 refine ⟨hk1.then hkp (fun k _ e => .inl e),⟨g,cap,?_,?_,hg'⟩,(h.sh.kept hk (fun e => hne.2.1 e.symm)).kept hkp (fun e => hA.cs e.symm),(h.fl.kept hk (fun e => hne.2.2 e.symm)).kept hkp (fun e => hA.cf e.symm)⟩
 ·rw [setBlk ((hk.block _ hCl (fun e => hne.1 e.symm)).trans h1)]
  simp [ckV]
 ·have:=own_kept hown hkp (fun e => hne'.1 e)
  simpa using this
end
end Go.Proofs.YtepcmfegggdjfaaGreatDoor

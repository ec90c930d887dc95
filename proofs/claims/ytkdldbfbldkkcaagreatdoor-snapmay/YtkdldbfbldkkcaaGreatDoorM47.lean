/-
  Texts Cl Vii.
-/
import Derived.BigQuiet
import Derived.Deep.QuietTactic
import Derived.Test.YtkdldbfbldkkcaaGreatDoorM00
import Derived.Test.YtkdldbfbldkkcaaGreatDoorM17
import Derived.Test.YtkdldbfbldkkcaaGreatDoorM42
import Derived.Test.YtkdldbfbldkkcaaGreatDoorM46
set_option linter.unusedVariables false
set_option maxRecDepth 100000
set_option maxHeartbeats 16000000
namespace Go.Proofs.YtkdldbfbldkkcaaGreatDoor
open Go.RowKit
theorem Nu {m : MM} (h : cN m = 0) : m.mo ≤ 64:=by
 obtain ⟨h,_⟩:=bA h;obtain ⟨_,h⟩:=bA h;obtain ⟨_,h⟩:=bA h;obtain ⟨_,h⟩:=bA h;obtain ⟨_,h⟩:=bA h;obtain ⟨h5,_⟩:=bA h;unfold e5 lG at h5
 split at h5
 ·cases h5
 ·omega
theorem uR {z : Int} {b : Int} (h0 : 0 ≤ z) (h1 : z ≤ b) (h2 : b < 18446744073709551616) : u64 z ≤ b:=by
 show IntKind.u64.wrap z ≤ b
 rw [IntKind.wrap_u64]; omega
theorem MZ {w : World} {m : MM} {s : StM} {sb : Nat → Bool} (h0 : cN m = 0) (hgl : m.globals.length ≤ 64) (hs : SSt w s) (hr : RgS s) (hf : ∀ i,sb i = true → ∀ f,s.fs[i]? = some f → FrB f)
  (ha : ∀ j,j < 8 + min s.fn 64 → Kj (s.en == 1) (s.en == 2) (s.en == 3) s.fn s.rn s.pn s.tr s.us s.rep m.fi m.mo m.globals s.gs s.ps sb j = true) : OkS s:=by
 have q0:=ha 0 ae;have q1:=ha 1 ae;have q2:=ha 2 ae;have q3:=ha 3 ae;have q4:=ha 4 ae;have q5:=ha 5 ae;have q6:=ha 6 ae;have q7:=ha 7 ae
 simp only [Kj,a2,a3,a4,lZ,whB,Bool.and_eq_true,Bool.or_eq_true,decide_eq_true_eq,beq_iff_eq,Bool.not_eq_true',Bool.or_eq_false_iff,decide_eq_false_iff_not,List.all_eq_true] at q0 q1 q2 q3 q4 q5 q6 q7
 have hfn : s.fn ≤ 64:=q1.2;have hl1:=hs.fr.len;have hl2:=hs.gl.1;have hl3:=hs.pg.len;have hl4:=hs.rs.1;have hmo:=Nu h0;have hrep:=hr.rep.2
 refine ⟨ae,q3.2,uR q4.1 q4.2 ae,uR q5 ae ae,ae,ae,ae,fun p hp => q7.2 p hp,ae,fun f hf' => ?_⟩
 obtain ⟨i,hi⟩:=List.getElem?_of_mem hf';have hil:=az hi;have hsb : sb i = true:=ha (i + 8) ae;obtain ⟨g1,g2,g3,g4,g5,g6⟩:=hf i hsb f hi;exact ⟨uR g1 g2 ae,uR g3 g4 ae,g5,g6⟩
theorem DR (m : MM) (s : StM) (w : World) (hk : bf w) (hp : 0 < w.heap.size) (hm : ∀ W,Below w.heap.size w W → ∀ R g,W.heap.size ≤ R → W.heap.size ≤ g → MOk W R g m) (hcap : ∀ x ∈ m.fns,x.2.2.1.2.1 ≤ x.2.2.1.2.2) (hs : SSt w s) (hb : CkB s) (hfb : ∀ x ∈ s.fs,x.2.2.1.1.2.1 ≤ 1099511627776 ∧ x.2.2.2.1.2.1 ≤ 1099511627776) (hr : RgS s) :
  Calls Tryz.prog 7 #[.agg (mV m),.agg (bW s)] w fun e w' => Below w.heap.size w w' ∧ ∃ E pl,e = .returned (.tuple #[.int .i64 E,.int .i64 pl]) ∧ (E = 0 → OkS s):=by
 have hm0 : ∀ W,Below w.heap.size w W → MOk W W.heap.size W.heap.size m:=fun W hW => hm W hW _ _ (Nat.le_refl _) (Nat.le_refl _)
 obtain ⟨sb,hsb⟩ : ∃ sb : Nat → Bool,∀ i,(∃ b : Bool,(∀ gb go_,s.fa = some ⟨gb,go_,none⟩ → ∀ TT W,Below w.heap.size w W → TbC m TT W → Calls Tryz.prog 38 #[.agg (mV m),.slice (some ⟨TT,0,none⟩) m.fn m.fn,.slice (some ⟨gb,go_ + i * 4,none⟩) (s.fn - i) (s.fc - i)] W fun e w' => e = .returned (.bool b) ∧ Below W.heap.size W w') ∧ (b = true → ∀ f,s.fs[i]? = some f → FrB f)) →
   (∀ gb go_,s.fa = some ⟨gb,go_,none⟩ → ∀ TT W,Below w.heap.size w W → TbC m TT W → Calls Tryz.prog 38 #[.agg (mV m),.slice (some ⟨TT,0,none⟩) m.fn m.fn,.slice (some ⟨gb,go_ + i * 4,none⟩) (s.fn - i) (s.fc - i)] W fun e w' => e = .returned (.bool (sb i)) ∧ Below W.heap.size W w') ∧ (sb i = true → ∀ f,s.fs[i]? = some f → FrB f) :=
  ⟨fun i => Classical.epsilon fun b : Bool => (∀ gb go_,s.fa = some ⟨gb,go_,none⟩ → ∀ TT W,Below w.heap.size w W → TbC m TT W → Calls Tryz.prog 38 #[.agg (mV m),.slice (some ⟨TT,0,none⟩) m.fn m.fn,.slice (some ⟨gb,go_ + i * 4,none⟩) (s.fn - i) (s.fc - i)] W fun e w' => e = .returned (.bool b) ∧ Below W.heap.size W w') ∧ (b = true → ∀ f,s.fs[i]? = some f → FrB f),fun i h => Classical.epsilon_spec h⟩
 have one : cN m = 0 → I0 m → ∀ i,i < s.fn → (∃ b : Bool,(∀ gb go_,s.fa = some ⟨gb,go_,none⟩ → ∀ TT W,Below w.heap.size w W → TbC m TT W → Calls Tryz.prog 38 #[.agg (mV m),.slice (some ⟨TT,0,none⟩) m.fn m.fn,.slice (some ⟨gb,go_ + i * 4,none⟩) (s.fn - i) (s.fc - i)] W fun e w' => e = .returned (.bool b) ∧ Below W.heap.size W w') ∧ (b = true → ∀ f,s.fs[i]? = some f → FrB f)):=fun h0 hT i hi => by
  obtain ⟨gb,go_,hfa,_⟩:=hs.fr.at_.resolve_left ae;obtain ⟨b,h1,h2⟩:=Mp h0 hm0 hk hp hT hs hfb hb.fc hfa hi
  refine ⟨b,fun gb' go' hfa' => ?_,h2⟩
  rw [hfa] at hfa'
  obtain ⟨rfl,rfl⟩ : gb = gb' ∧ go_ = go':=by injection hfa' with e; injection e with e1 e2; exact ⟨e1,e2⟩
  exact h1
 refine (Ot m s _ _ _ _ sb w hk hp (hm w (Below.refl _ _)) hcap hs hb rfl rfl rfl rfl (fun h0 hT gb go_ hfa TT W hW hTb i hi => (hsb i (one h0 hT i ae)).1 gb go_ hfa TT W hW hTb)).mono ?_
 rintro e w' ⟨hbel,h⟩;refine ⟨hbel,?_⟩
 rcases h with ⟨_,E,hE,rfl⟩ | ⟨h0,hT,ha,rfl⟩ | ⟨_,j,_,_,_,rfl⟩
 ·exact ⟨E,0,rfl,fun h => absurd h hE⟩
 ·refine ⟨0,0,rfl,fun _ => MZ h0 (by have h1:=(dB (mg h0).2.2.1).1; omega) hs hr (fun i hi f hf => (hsb i (one h0 hT i (by have:=az hf; have:=hs.fr.len; omega))).2 hi f hf) ha⟩
 ·exact ⟨44,_,rfl,fun h => cj⟩
theorem xZ (a : Option Addr) (cap : Nat) (w : World) : Calls Tryz.prog 14 #[.slice a 0 cap] w fun e w' => e = .returned (.int .i64 0) ∧ w' = w:=by
 go_enter Tryz.func14,Tryz.ntmps14
 exact BJ
def szG : List InM → Nat → Nat
 | [],z => z
 | x :: r,z => if z ≤ 2147483647 then szG r (z + x.2.2.1.2.1) else z
theorem Bu {x : InM} {r : List InM} {z : Nat} (h : z ≤ 2147483647) : szG (x :: r) z = szG r (z + x.2.2.1.2.1):=by simp [szG,h]
theorem Ai {x : InM} {r : List InM} {z : Nat} (h : ¬ z ≤ 2147483647) : szG (x :: r) z = z:=by simp [szG,h]
end Go.Proofs.YtkdldbfbldkkcaaGreatDoor

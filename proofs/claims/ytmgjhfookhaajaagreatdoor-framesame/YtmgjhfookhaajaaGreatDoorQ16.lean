/-
  Texts Of Ins Span Chk.
-/
import Derived.Below
import Derived.BigQuiet
import Derived.Deep.QuietTactic
import Derived.Deep.RegionHeld3
import Derived.Deep.RegionWith
import Derived.KernelRfl
import Derived.RowKit
import Derived.Test.YtmgjhfookhaajaaGreatDoorProg
import Derived.WalkKit
import Derived.WalkLawsBesides
import Derived.WalkSpells
import Derived.Test.YtmgjhfookhaajaaGreatDoorQ00
import Derived.Test.YtmgjhfookhaajaaGreatDoorQ15
set_option linter.unusedVariables false
set_option maxRecDepth 100000
set_option maxHeartbeats 16000000
namespace Go.Proofs.YtmgjhfookhaajaaGreatDoor
open Go.RowKit
def zeroRow : RefRow:=(0,⟨#[]⟩,0,⟨#[]⟩,⟨#[]⟩,false)
def rv (x : RefRow) : Array Value:=rowV x.1 x.2.1 x.2.2.1 x.2.2.2.1 x.2.2.2.2.1 x.2.2.2.2.2
def rowAt (b : Nat) (x : RefRow) : List (Addr × Value):=[(⟨b,0,none⟩,.int .u8 x.1),(⟨b,1,none⟩,.string x.2.1),(⟨b,2,none⟩,.int .i8 x.2.2.1),(⟨b,3,none⟩,.string x.2.2.2.1),(⟨b,4,none⟩,.string x.2.2.2.2.1),(⟨b,5,none⟩,.bool x.2.2.2.2.2)]
theorem rowAt_cells {b : Nat} {x : RefRow} {W : World} (h : Holds (rowAt b x) W) :
  (W.cell? ⟨b,0,none⟩ = some (.int .u8 x.1) ∧ W.cell? ⟨b,1,none⟩ = some (.string x.2.1) ∧ W.cell? ⟨b,2,none⟩ = some (.int .i8 x.2.2.1) ∧ W.cell? ⟨b,3,none⟩ = some (.string x.2.2.2.1) ∧ W.cell? ⟨b,4,none⟩ = some (.string x.2.2.2.2.1) ∧ W.cell? ⟨b,5,none⟩ = some (.bool x.2.2.2.2.2)) ∧
  (W.frozen? ⟨b,0,none⟩ = false ∧ W.frozen? ⟨b,1,none⟩ = false ∧ W.frozen? ⟨b,2,none⟩ = false ∧ W.frozen? ⟨b,3,none⟩ = false ∧ W.frozen? ⟨b,4,none⟩ = false ∧ W.frozen? ⟨b,5,none⟩ = false):=by
 unfold rowAt at h
 exact ⟨⟨(h (⟨b,0,none⟩,_) (by simp)).1,(h (⟨b,1,none⟩,_) (by simp)).1,(h (⟨b,2,none⟩,_) (by simp)).1,(h (⟨b,3,none⟩,_) (by simp)).1,(h (⟨b,4,none⟩,_) (by simp)).1,(h (⟨b,5,none⟩,_) (by simp)).1⟩,
  (h _ (List.mem_cons_self ..)).2,(h (⟨b,1,none⟩,.string x.2.1) (by simp)).2,(h (⟨b,2,none⟩,.int .i8 x.2.2.1) (by simp)).2,(h (⟨b,3,none⟩,.string x.2.2.2.1) (by simp)).2,(h (⟨b,4,none⟩,.string x.2.2.2.2.1) (by simp)).2,(h (⟨b,5,none⟩,.bool x.2.2.2.2.2) (by simp)).2⟩
theorem Holds.later {cs : List (Addr × Value)} {n : Nat} {A B : World} (h : Holds cs A) (hb : Below n A B) (hn : ∀ p ∈ cs,p.1.block < n) : Holds cs B :=
 fun p hp => ⟨(hb.cell (hn p hp)).trans (h p hp).1,(hb.frozen (hn p hp)).trans (h p hp).2⟩
def kinRow (i : Nat) (c : Int) : RefRow:=(c,wordV (kF i) c (kA i) (bpieces (kW i)),takesV c,(effV c).1,(effV c).2,plainV c)
def ofFrom : Nat → Nat → Int → RefRow × Bool
 | 0,_,_ => (zeroRow,false)
 | n + 1,i,c => if kF i ≤ c ∧ c ≤ kL i then (kinRow i c,true) else ofFrom n (i + 1) c
def ofV (c : Int) : RefRow × Bool:=ofFrom 7 0 c
theorem of6 (c : Int) (w : World) (hk : KindsOk w) (h0 : 0 ≤ c) (h1 : c ≤ 255) : Calls Tryz.prog 139 #[.int .u8 c] w fun e w' => e = .returned (.tuple #[.agg (rv (ofV c).1),.bool (ofV c).2]) ∧ Below w.heap.size w w':=by
 obtain ⟨V,hV⟩ : ∃ V,ofV c = V:=⟨_,rfl⟩
 rw [hV]
 go_enter Tryz.func139,Tryz.ntmps139
 refine wp_seq_k fun K1 hK1 => wp_region_lit ?_
 refine step_val rfl (v:=.pointer (some ⟨w.heap.size,0,none⟩)) (w':=w.alloc (.cells #[.int .u8 0,.string ⟨#[]⟩,.int .i8 0,.string ⟨#[]⟩,.string ⟨#[]⟩,.bool false] 193)) (by simp [go_sem]) ?_
 refine step_val rfl (v:=.bool false) (w':=w.alloc (.cells #[.int .u8 0,.string ⟨#[]⟩,.int .i8 0,.string ⟨#[]⟩,.string ⟨#[]⟩,.bool false] 193)) (by simp [go_sem]) ?_
 refine wpList_nil (hK1 _ _ ?_)
 clear hK1
 have hb : Below w.heap.size w (w.alloc (.cells #[.int .u8 0,.string ⟨#[]⟩,.int .i8 0,.string ⟨#[]⟩,.string ⟨#[]⟩,.bool false] 193)):=(Below.refl _ w).alloc (Nat.le_refl _) _
 have hc : Holds (rowAt w.heap.size zeroRow) (w.alloc (.cells #[.int .u8 0,.string ⟨#[]⟩,.int .i8 0,.string ⟨#[]⟩,.string ⟨#[]⟩,.bool false] 193)):=by
  unfold rowAt zeroRow
  refine Holds.cons ?_ ?_ (Holds.cons ?_ ?_ (Holds.cons ?_ ?_ (Holds.cons ?_ ?_ (Holds.cons ?_ ?_ (Holds.cons ?_ ?_ (by simp [Holds])))))) <;> simp [go_sem]
 refine wp_seq_k fun K2 hK2 => wp_seq_k fun K3 hK3 => wp_region_lit ?_
 refine step_val rfl (exec_kinds (hk.later hb hk.pos) _ _ _ _ _) ?_
 obtain ⟨kv,hkv⟩ : ∃ kv,kindsV = kv:=⟨_,rfl⟩
 rw [hkv]
 have run_kind' : ∀ (w : World) (i : Nat) (hi : i < 7),(Instr.index 202 kv (.int .i64 i)).run Tryz.prog w = .ok (.agg #[.int .u8 (kF i),.int .u8 (kL i),.string (kA i),.string (kW i)]) w:=fun w i hi => hkv ▸ run_kind i hi
 have HK:=hid run_kind'
 clear run_kind' hkv
 go_wp2_with fail
 go_loopw [9] (fun p wr => ∃ i : Nat,p = .int .i64 i ∧ i ≤ 7 ∧ Below w.heap.size w wr ∧ Holds (rowAt w.heap.size zeroRow) wr ∧ ofFrom (7 - i) i c = V) (fun p wr => 7 - (intOf p).toNat)
 case atStart => exact ⟨0,rfl,by decide,hb,hc,hV⟩
 case round =>
  clear hb hc hV
  obtain ⟨i,rfl,hi,hB,hR,hV⟩:=hrel
  by_cases h7 : i = 7
  ·subst h7
   have hx : V = (zeroRow,false):=hV.symm
   subst hx
   obtain ⟨⟨d0,d1,d2,d3,d4,d5⟩,e0,e1,e2,e3,e4,e5⟩:=rowAt_cells hR
   go_wp2_with fail
   refine bodyPost_ret (v:=.tuple #[.agg (rv zeroRow),.bool false]) ?_ rfl ⟨rfl,?_⟩
   ·rw [results_cell_tmp rfl]
    go_simp
    rfl
   ·exact (((((hB.setCell (p:=⟨w.heap.size,0,none⟩) (by simp) _).setCell (p:=⟨w.heap.size,1,none⟩) (by simp) _).setCell (p:=⟨w.heap.size,2,none⟩) (by simp) _).setCell (p:=⟨w.heap.size,3,none⟩) (by simp) _).setCell (p:=⟨w.heap.size,4,none⟩) (by simp) _).setCell (p:=⟨w.heap.size,5,none⟩) (by simp) _
  have hlt : (i : Int) < 7:=by omega
  have hix:=HK.out wr i (by omega)
  obtain ⟨f0,f1,f2,f3,f4,f5⟩:=kind_facts i (by omega)
  have HF:=hid ((word18 (kF i) (kL i) c (kA i) (kW i) · f0 f3 f4 f5))
  obtain ⟨n,hn⟩ : ∃ n,7 - i = n + 1:=⟨6 - i,by omega⟩
  rw [hn,ofFrom] at hV
  have hwd : (kinRow i c).2.1 = wordV (kF i) c (kA i) (bpieces (kW i)):=rfl
  generalize wordV (kF i) c (kA i) (bpieces (kW i)) = wd at HF hwd
  by_cases hin : kF i ≤ c ∧ c ≤ kL i
  ·obtain ⟨g1,g2⟩:=hin
   rw [if_pos ⟨g1,g2⟩] at hV
   generalize kF i = f at *
   generalize kL i = l at *
   generalize kA i = a at *
   generalize kW i = ws at *
   go_wp2_with fail
   refine (effect17 c _ h0 h1).mono ?_
   rintro e w2 ⟨rfl,rfl⟩
   go_wp2_with fail
   refine (HF.out _).mono ?_
   rintro e w3 ⟨rfl,hb3⟩
   go_wp2_with fail
   refine (takes19 c w3).mono ?_
   rintro e w4 ⟨rfl,rfl⟩
   go_wp2_with fail
   refine (plain20 c w4).mono ?_
   rintro e w5 ⟨rfl,rfl⟩
   have hwr : w.heap.size < wr.heap.size:=World.block_lt_of_cell? wr ⟨w.heap.size,0,none⟩ (rowAt_cells hR).1.1
   have hR3 : Holds (rowAt w.heap.size zeroRow) w5:=(hR.grown (World.grownBy_alloc wr _ none) (fun r e => by cases e)).later hb3 (by simp [rowAt]; omega)
   have hB3 : Below w.heap.size w w5:=(hB.alloc hB.size _).trans (hb3.mono (by simp; omega))
   clear hb3 hR
   obtain ⟨⟨d0,d1,d2,d3,d4,d5⟩,e0,e1,e2,e3,e4,e5⟩:=rowAt_cells hR3
   go_wp2_with fail
   subst hV
   refine bodyPost_ret (v:=.tuple #[.agg #[.int .u8 c,.string wd,.int .i8 (takesV c),.string (effV c).1,.string (effV c).2,.bool (plainV c)],.bool true]) ?_ rfl ⟨by rw [← hwd]; rfl,?_⟩
   ·rw [results_cell_tmp rfl]
    go_simp
   ·exact (((((hB3.setCell (p:=⟨w.heap.size,0,none⟩) (by simp) _).setCell (p:=⟨w.heap.size,1,none⟩) (by simp) _).setCell (p:=⟨w.heap.size,2,none⟩) (by simp) _).setCell (p:=⟨w.heap.size,3,none⟩) (by simp) _).setCell (p:=⟨w.heap.size,4,none⟩) (by simp) _).setCell (p:=⟨w.heap.size,5,none⟩) (by simp) _
  ·rw [if_neg hin] at hV
   have hwr : w.heap.size < wr.heap.size:=World.block_lt_of_cell? wr ⟨w.heap.size,0,none⟩ (rowAt_cells hR).1.1
   have hR2:=hid (hR.grown (World.grownBy_alloc wr (.cells #[.int .u8 (kF i),.int .u8 (kL i),.string (kA i),.string (kW i)] 201) none) (fun r e => by cases e))
   have hB2:=hid (hB.alloc hB.size (.cells #[.int .u8 (kF i),.int .u8 (kL i),.string (kA i),.string (kW i)] 201))
   have hV2:=hid hV
   clear hV hR hB
   have hw : wrap64 ((i : Int) + 1) = i + 1:=by unfold wrap64; omega
   clear HF hwd f0 f1 f2 f3 f4 f5
   generalize kF i = f at *
   generalize kL i = l at *
   generalize kA i = a at *
   generalize kW i = ws at *
   by_cases hlow : c < f
   ·go_wp2_with fail
    exact ⟨⟨i + 1,by simp,by omega,hB2.out,hR2.out,by rw [show 7 - (i + 1) = n by omega]; exact hV2.out⟩,by simp [intOf]; omega⟩
   ·have hhigh : l < c:=by omega
    go_wp2_with fail
    exact ⟨⟨i + 1,by simp,by omega,hB2.out,hR2.out,by rw [show 7 - (i + 1) = n by omega]; exact hV2.out⟩,by simp [intOf]; omega⟩
def lo (t : Int) (g : Bool) : Int:=if t = 8 then (if g = true then -9223372036854775808 else -2147483648) else 0
def hi (t : Int) (g : Bool) : Int :=
 if t = 0 ∨ t = 3 then 0 else if t = 9 then 4294967295 else if t = 8 then (if g = true then 9223372036854775807 else 2147483647) else 2147483647
theorem lo_range (t : Int) (g : Bool) : -9223372036854775808 ≤ lo t g ∧ lo t g ≤ 0:=by
 unfold lo; split
 ·split <;> omega
 ·omega
theorem hi_range (t : Int) (g : Bool) : 0 ≤ hi t g ∧ hi t g ≤ 9223372036854775807 ∧ (t ≠ 8 → hi t g ≤ 4294967295 ∧ lo t g = 0):=by
 unfold hi lo
 split
 ·refine ⟨by omega,by omega,fun h => ?_⟩
  rw [if_neg h]; omega
 ·split
  ·refine ⟨by omega,by omega,fun h => ?_⟩
   rw [if_neg h]; omega
  ·split
   ·refine ⟨by split <;> omega,by split <;> omega,fun h => by omega⟩
   ·refine ⟨by omega,by omega,fun h => ?_⟩
    omega
def okL : List Int → Prop
 | [] => True
 | z :: l => (0 ≤ z ∧ z ≤ 2147483647) ∧ okL l
instance decOkL : (l : List Int) → Decidable (okL l)
 | [] => .isTrue trivial
 | z :: l => match decOkL l with
  | .isTrue h => if hz : 0 ≤ z ∧ z ≤ 2147483647 then .isTrue ⟨hz,h⟩ else .isFalse fun x => hz x.1
  | .isFalse h => .isFalse fun x => h x.2
theorem okL_mem : ∀ (l : List Int),okL l ↔ ∀ z ∈ l,0 ≤ z ∧ z ≤ 2147483647
 | [] => by simp [okL]
 | z :: l => by simp [okL,okL_mem l]
def chk (t : Int) (g : Bool) (a : Int) (l : List Int) : Int :=
 if t = -1 then 21
 else if a < lo t g ∨ hi t g < a then 17
 else if t = 3 then (if l.length < 1 ∨ 16 < l.length then 17 else if okL l then 0 else 17)
 else if l.length = 0 then 0 else 17
def labB : List Int → List Int
 | [] => []
 | z :: l => uvar z ++ labB l
def encB (t a : Int) (l : List Int) : List Int :=
 if t = 0 then [] else if t = 8 then uvar (fo a) else if t = 3 then uvar l.length ++ labB l else uvar a
theorem labB_len : ∀ (l : List Int),(labB l).length ≤ 10 * l.length
 | [] => by simp [labB]
 | z :: l => by
  have:=labB_len l
  have:=uvar_len z
  simp only [labB,List.length_append,List.length_cons]; omega
theorem uv_mem (f : Nat) : ∀ (v : Int),0 ≤ v → v < 128 ^ f * 256 → ∀ z ∈ uv f v,0 ≤ z ∧ z ≤ 255:=by
 induction f with
 | zero => intro v h0 h1 z hz; simp [uv] at hz; simp at h1; omega
 | succ f ih =>
  intro v h0 h1 z hz
  by_cases h : v < 128
  ·simp [uv,h] at hz; omega
  ·simp only [uv,h,if_false,List.mem_cons] at hz
   rcases hz with rfl | hz
   ·omega
   ·refine ih (v / 128) (by omega) ?_ z hz
    have hs : (128 : Int) ^ (f + 1) = 128 ^ f * 128:=Int.pow_succ _ _
    rw [hs] at h1
    generalize (128 : Int) ^ f = X at h1 ⊢
    omega
theorem uvar_mem (v : Int) (h0 : 0 ≤ v) (h1 : v < 18446744073709551616) : ∀ z ∈ uvar v,0 ≤ z ∧ z ≤ 255:=by
 have e : (128 : Int) ^ 9 = 9223372036854775808:=by decide
 refine uv_mem 9 v h0 ?_
 rw [e]; omega
theorem labB_mem : ∀ (l : List Int),okL l → ∀ z ∈ labB l,0 ≤ z ∧ z ≤ 255
 | [],_,z,hz => by simp [labB] at hz
 | y :: l,h,z,hz => by
  simp only [labB,List.mem_append] at hz
  rcases hz with hz | hz
  ·exact uvar_mem y h.1.1 (by have:=h.1.2; omega) z hz
  ·exact labB_mem l h.2 z hz
theorem chk_ok {t : Int} {g : Bool} {a : Int} {l : List Int} (h : chk t g a l = 0) :
  t ≠ -1 ∧ lo t g ≤ a ∧ a ≤ hi t g ∧ (t = 3 → 1 ≤ l.length ∧ l.length ≤ 16 ∧ okL l) ∧ (t ≠ 3 → l = []):=by
 unfold chk at h
 by_cases h1 : t = -1
 ·rw [if_pos h1] at h; omega
 rw [if_neg h1] at h
 by_cases h2 : a < lo t g ∨ hi t g < a
 ·rw [if_pos h2] at h; omega
 rw [if_neg h2] at h
 by_cases h3 : t = 3
 ·rw [if_pos h3] at h
  by_cases h4 : l.length < 1 ∨ 16 < l.length
  ·rw [if_pos h4] at h; omega
  rw [if_neg h4] at h
  by_cases h5 : okL l
  ·exact ⟨h1,by omega,by omega,fun _ => ⟨by omega,by omega,h5⟩,fun h => absurd h3 h⟩
  ·rw [if_neg h5] at h; omega
 ·rw [if_neg h3] at h
  by_cases h4 : l.length = 0
  ·exact ⟨h1,by omega,by omega,fun h => absurd h h3,fun _ => List.eq_nil_of_length_eq_zero h4⟩
  ·rw [if_neg h4] at h; omega
theorem encB_len (t a : Int) (l : List Int) (h : l.length ≤ 16) : (encB t a l).length ≤ 170:=by
 unfold encB
 split
 ·simp
 ·split
  ·have:=uvar_len (fo a); omega
  ·split
   ·have:=uvar_len l.length
    have:=labB_len l
    rw [List.length_append]; omega
   ·have:=uvar_len a; omega
theorem encB_mem {t : Int} {g : Bool} {a : Int} {l : List Int} (h : chk t g a l = 0) : ∀ z ∈ encB t a l,0 ≤ z ∧ z ≤ 255:=by
 obtain ⟨h1,h2,h3,h4,h5⟩:=chk_ok h
 have hl:=lo_range t g
 have hh:=hi_range t g
 intro z hz
 unfold encB at hz
 by_cases t0 : t = 0
 ·rw [if_pos t0] at hz; simp at hz
 rw [if_neg t0] at hz
 by_cases t8 : t = 8
 ·rw [if_pos t8] at hz
  have:=fo_range a (by omega) (by omega)
  exact uvar_mem _ this.1 this.2 z hz
 rw [if_neg t8] at hz
 by_cases t3 : t = 3
 ·rw [if_pos t3] at hz
  obtain ⟨a1,a2,a3⟩:=h4 t3
  rcases List.mem_append.1 hz with hz | hz
  ·exact uvar_mem _ (by omega) (by omega) z hz
  ·exact labB_mem l a3 z hz
 ·rw [if_neg t3] at hz
  have:=hh.2.2 t8
  exact uvar_mem _ (by omega) (by omega) z hz
def spanV (a b : Int) : Value:=.agg #[.int .i64 a,.int .i64 b]
def inB (a b v : Int) : Bool:=decide (a ≤ v ∧ v ≤ b)
theorem inB_yes {a b v : Int} (h1 : a ≤ v) (h2 : v ≤ b) : inB a b v = true:=by unfold inB; simp [h1,h2]
theorem inB_no {a b v : Int} (h : v < a ∨ b < v) : inB a b v = false:=by unfold inB; simp; omega
theorem holds31 (a b v : Int) (w : World) : Calls Tryz.prog 197 #[spanV a b,.int .i64 v] w fun e w' => e = .returned (.bool (inB a b v)) ∧ Below w.heap.size w w':=by
 unfold spanV
 by_cases h1 : a ≤ v
 ·by_cases h2 : v ≤ b
  ·have HR:=show Hid _ from inB_yes h1 h2
   go_enter Tryz.func197,Tryz.ntmps197
   go_wp2
   go_ret
   exact ⟨by rw [HR.out]; rfl,(Below.refl _ _).alloc (Nat.le_refl _) _⟩
  ·have HR:=show Hid _ from inB_no (a:=a) (.inr (by omega : b < v))
   go_enter Tryz.func197,Tryz.ntmps197
   go_wp2
   go_ret
   exact ⟨by rw [HR.out]; rfl,(Below.refl _ _).alloc (Nat.le_refl _) _⟩
 ·have HR:=show Hid _ from inB_no (b:=b) (.inl (by omega : v < a))
  go_enter Tryz.func197,Tryz.ntmps197
  go_wp2
  go_ret
  exact ⟨by rw [HR.out]; rfl,(Below.refl _ _).alloc (Nat.le_refl _) _⟩
theorem indices33 (w : World) : Calls Tryz.prog 199 #[] w fun e w' => e = .returned (spanV 0 2147483647) ∧ Below w.heap.size w w':=by
 go_enter Tryz.func199,Tryz.ntmps199
 go_wp2
 refine bodyPost_ret (v:=.agg #[.int .i64 0,.int .i64 2147483647]) (by simp [results,Tryz.results199,go_sem]) rfl ⟨rfl,?_⟩
 exact (Below.refl _ _).alloc (Nat.le_refl _) _
def isLg (ps : ByteArray) : Bool:=decide (ps = ⟨#[108]⟩)
theorem isL_toList (ps : ByteArray) : (ps.toList == [108]) = isLg ps:=by
 rw [ByteArray.toList_eq]
 unfold isLg
 by_cases h : ps = ⟨#[108]⟩
 ·simp [h]
 ·rw [decide_eq_false h,beq_eq_false_iff_ne]
  intro e
  apply h
  cases ps with
  | mk d =>
   have e2 : d.toList = (#[108] : Array UInt8).toList:=e
   rw [Array.toList_inj.1 e2]
theorem numbers30 (c t : Int) (wd pp ps : ByteArray) (pl : Bool) (w : World) :
  Calls Tryz.prog 196 #[.agg #[.int .u8 c,.string wd,.int .i8 t,.string pp,.string ps,.bool pl]] w fun e w' => e = .returned (spanV (lo t (isLg ps)) (hi t (isLg ps))) ∧ Below w.heap.size w w':=by
 by_cases h0 : t = 0
 ·subst h0
  go_enter Tryz.func196,Tryz.ntmps196
  go_wp2
  refine bodyPost_ret (v:=.agg #[.int .i64 0,.int .i64 0]) (by simp [results,Tryz.results196,go_sem]) rfl ⟨rfl,?_⟩
  exact ((Below.refl _ _).alloc (Nat.le_refl _) _).alloc (by simp) _
 by_cases h3 : t = 3
 ·subst h3
  go_enter Tryz.func196,Tryz.ntmps196
  go_wp2
  refine bodyPost_ret (v:=.agg #[.int .i64 0,.int .i64 0]) (by simp [results,Tryz.results196,go_sem]) rfl ⟨rfl,?_⟩
  exact ((Below.refl _ _).alloc (Nat.le_refl _) _).alloc (by simp) _
 by_cases h9 : t = 9
 ·subst h9
  go_enter Tryz.func196,Tryz.ntmps196
  go_wp2
  refine bodyPost_ret (v:=.agg #[.int .i64 0,.int .i64 4294967295]) (by simp [results,Tryz.results196,go_sem]) rfl ⟨rfl,?_⟩
  exact ((Below.refl _ _).alloc (Nat.le_refl _) _).alloc (by simp) _
 by_cases h8 : t = 8
 ·subst h8
  have hl:=isL_toList ps
  cases hb : isLg ps
  ·rw [hb] at hl
   go_enter Tryz.func196,Tryz.ntmps196
   go_wp2
   refine bodyPost_ret (v:=.agg #[.int .i64 (-2147483648),.int .i64 2147483647]) (by simp [results,Tryz.results196,go_sem]) rfl ⟨rfl,?_⟩
   exact ((Below.refl _ _).alloc (Nat.le_refl _) _).alloc (by simp) _
  ·rw [hb] at hl
   go_enter Tryz.func196,Tryz.ntmps196
   go_wp2
   refine bodyPost_ret (v:=.agg #[.int .i64 (-9223372036854775808),.int .i64 9223372036854775807]) (by simp [results,Tryz.results196,go_sem]) rfl ⟨rfl,?_⟩
   exact ((Below.refl _ _).alloc (Nat.le_refl _) _).alloc (by simp) _
 have e0 : (t == 0) = false:=by simp [h0]
 have e3 : (t == 3) = false:=by simp [h3]
 have e9 : (t == 9) = false:=by simp [h9]
 have e8 : (t == 8) = false:=by simp [h8]
 have HV:=show Hid (spanV (lo t (isLg ps)) (hi t (isLg ps)) = spanV 0 2147483647) by
  show spanV (lo t (isLg ps)) (hi t (isLg ps)) = spanV 0 2147483647
  unfold lo hi
  rw [if_neg h8,if_neg (by omega),if_neg h9,if_neg h8]
 clear h0 h3 h9 h8
 go_enter Tryz.func196,Tryz.ntmps196
 go_wp2_with fail
 refine (indices33 _).mono ?_
 rintro e w1 ⟨rfl,hb⟩
 unfold spanV at *
 have c0 : w1.cell? ⟨w.heap.size + 1,0,none⟩ = some (.int .i64 0):=by rw [hb.cell (by simp)]; simp [go_sem]
 have c1 : w1.cell? ⟨w.heap.size + 1,1,none⟩ = some (.int .i64 0):=by rw [hb.cell (by simp)]; simp [go_sem]
 have f0 : w1.frozen? ⟨w.heap.size + 1,0,none⟩ = false:=by rw [hb.frozen (by simp)]; simp [go_sem]
 have f1 : w1.frozen? ⟨w.heap.size + 1,1,none⟩ = false:=by rw [hb.frozen (by simp)]; simp [go_sem]
 go_wp2
 refine bodyPost_ret (v:=.agg #[.int .i64 0,.int .i64 2147483647]) (by simp [results,Tryz.results196,go_sem,c0,c1]) rfl ⟨congrArg Ending.returned HV.out.symm,?_⟩
 exact ((((((Below.refl _ _).alloc (Nat.le_refl _) _).alloc (by simp) _).trans (hb.mono (by simp; omega))).setCell (by simp) _).setCell (by simp) _)
theorem counts32 (c t : Int) (wd pp ps : ByteArray) (pl : Bool) (w : World) :
  Calls Tryz.prog 198 #[.agg #[.int .u8 c,.string wd,.int .i8 t,.string pp,.string ps,.bool pl]] w fun e w' => e = .returned (if t = 3 then spanV 1 16 else spanV 0 0) ∧ Below w.heap.size w w':=by
 by_cases h3 : t = 3
 ·subst h3
  rw [if_pos rfl]
  go_enter Tryz.func198,Tryz.ntmps198
  go_wp2
  refine bodyPost_ret (v:=.agg #[.int .i64 1,.int .i64 16]) (by simp [results,Tryz.results198,go_sem]) rfl ⟨rfl,?_⟩
  exact ((Below.refl _ _).alloc (Nat.le_refl _) _).alloc (by simp) _
 ·rw [if_neg h3]
  have e3 : (t == 3) = false:=by simp [h3]
  clear h3
  go_enter Tryz.func198,Tryz.ntmps198
  go_wp2
  refine bodyPost_ret (v:=.agg #[.int .i64 0,.int .i64 0]) (by simp [results,Tryz.results198,go_sem]) rfl ⟨rfl,?_⟩
  exact ((Below.refl _ _).alloc (Nat.le_refl _) _).alloc (by simp) _
def tkV (c : Int) : Int:=if (ofV c).2 = true then (ofV c).1.2.2.1 else -1
def lgV (c : Int) : Bool:=isLg (ofV c).1.2.2.2.2.1
def SegI (w : World) (a : Option Addr) (n cap : Nat) (l : List Int) : Prop :=
 l.length = n ∧ n ≤ cap ∧ n ≤ 1099511627776 ∧ (∀ z ∈ l,-9223372036854775808 ≤ z ∧ z ≤ 9223372036854775807) ∧
 (n = 0 ∨ ∃ b off,a = some ⟨b,off,none⟩ ∧ ∀ j,j < n → w.cell? ⟨b,off + j,none⟩ = some (.int .i64 (l.getD j 0)))
theorem SegI.later {w w' : World} {a : Option Addr} {n cap : Nat} {l : List Int} {B : Nat} (h : SegI w a n cap l) (hb : Below B w w') (hB : w.heap.size ≤ B) : SegI w' a n cap l:=by
 obtain ⟨hz,h1,h2,h3,ha⟩:=h
 refine ⟨hz,h1,h2,h3,?_⟩
 rcases ha with ha | ⟨b,off,e,hc⟩
 ·exact .inl ha
 ·refine .inr ⟨b,off,e,fun j hj => ?_⟩
  have:=hc j hj
  have hlt : b < w.heap.size:=block_lt_of_cell this
  exact (hb.cell (p:=⟨b,off + j,none⟩) (by exact Nat.lt_of_lt_of_le hlt hB)).trans this
def insV (c a : Int) (s : Value) : Value:=.agg #[.int .u8 c,.int .i64 a,s]
theorem held_chk {X Y : Nat} {c a rc t : Int} {la : Option Addr} {ln lc : Nat} {wd pp ps : ByteArray} {pl : Bool} {w2 W W' : World} (hb : Below W.heap.size W W')
  (h : W.cell? ⟨X,0,none⟩ = some (.int .u8 c) ∧ W.cell? ⟨X,1,none⟩ = some (.int .i64 a) ∧ W.cell? ⟨X,2,none⟩ = some (.slice la ln lc) ∧ W.cell? ⟨Y,0,none⟩ = some (.int .u8 rc) ∧ W.cell? ⟨Y,1,none⟩ = some (.string wd) ∧ W.cell? ⟨Y,2,none⟩ = some (.int .i8 t) ∧ W.cell? ⟨Y,3,none⟩ = some (.string pp) ∧ W.cell? ⟨Y,4,none⟩ = some (.string ps) ∧ W.cell? ⟨Y,5,none⟩ = some (.bool pl) ∧ Below w2.heap.size w2 W) :
  W'.cell? ⟨X,0,none⟩ = some (.int .u8 c) ∧ W'.cell? ⟨X,1,none⟩ = some (.int .i64 a) ∧ W'.cell? ⟨X,2,none⟩ = some (.slice la ln lc) ∧ W'.cell? ⟨Y,0,none⟩ = some (.int .u8 rc) ∧ W'.cell? ⟨Y,1,none⟩ = some (.string wd) ∧ W'.cell? ⟨Y,2,none⟩ = some (.int .i8 t) ∧ W'.cell? ⟨Y,3,none⟩ = some (.string pp) ∧ W'.cell? ⟨Y,4,none⟩ = some (.string ps) ∧ W'.cell? ⟨Y,5,none⟩ = some (.bool pl) ∧ Below w2.heap.size w2 W':=by
 obtain ⟨h0,h1,h2,h3,h4,h5,h6,h7,h8,h9⟩:=h
 have hX:=block_lt_of_cell h0
 have hY:=block_lt_of_cell h3
 exact ⟨(hb.cell (by simpa using hX)).trans h0,(hb.cell (by simpa using hX)).trans h1,(hb.cell (by simpa using hX)).trans h2,(hb.cell (by simpa using hY)).trans h3,(hb.cell (by simpa using hY)).trans h4,
  (hb.cell (by simpa using hY)).trans h5,(hb.cell (by simpa using hY)).trans h6,(hb.cell (by simpa using hY)).trans h7,(hb.cell (by simpa using hY)).trans h8,h9.trans (hb.mono h9.size)⟩
theorem chk_none {g : Bool} {a : Int} {l : List Int} : chk (-1) g a l = 21:=by unfold chk; rw [if_pos rfl]
theorem okL_drop (l : List Int) (k : Nat) (hk : k < l.length) : okL (l.drop k) ↔ (0 ≤ l.getD k 0 ∧ l.getD k 0 ≤ 2147483647) ∧ okL (l.drop (k + 1)):=by
 rw [List.drop_eq_getElem_cons hk]
 simp [okL,hk]
theorem getD_i64 (l : List Int) (hr : ∀ z ∈ l,-9223372036854775808 ≤ z ∧ z ≤ 9223372036854775807) (j : Nat) : -9223372036854775808 ≤ l.getD j 0 ∧ l.getD j 0 ≤ 9223372036854775807:=by
 by_cases h : j < l.length
 ·simp only [List.getD_eq_getElem?_getD,List.getElem?_eq_getElem h,Option.getD_some]; exact hr _ (List.getElem_mem h)
 ·simp only [List.getD_eq_getElem?_getD,List.getElem?_eq_none (by omega : l.length ≤ j),Option.getD_none]; omega
def cLo (t : Int) : Int:=if t = 3 then 1 else 0
def cHi (t : Int) : Int:=if t = 3 then 16 else 0
theorem chk_some {t : Int} {g : Bool} {a : Int} {l : List Int} (ht : t ≠ -1) (h1 : inB (lo t g) (hi t g) a = true) (h2 : inB (cLo t) (cHi t) l.length = true) :
  chk t g a l = if okL l then 0 else 17:=by
 unfold inB cLo cHi at *
 have h1:=of_decide_eq_true h1
 have h2:=of_decide_eq_true h2
 unfold chk
 rw [if_neg ht,if_neg (by omega)]
 by_cases h3 : t = 3
 ·rw [if_pos h3] at *
  rw [if_pos h3] at h2
  rw [if_neg (by omega)]
 ·rw [if_neg h3] at *
  rw [if_neg h3] at h2
  have : l = []:=List.eq_nil_of_length_eq_zero (by omega)
  subst this
  rfl
theorem chk_out {t : Int} {g : Bool} {a : Int} {l : List Int} (ht : t ≠ -1) (h : inB (lo t g) (hi t g) a = false ∨ inB (cLo t) (cHi t) l.length = false) : chk t g a l = 17:=by
 unfold inB cLo cHi at h
 unfold chk
 rw [if_neg ht]
 by_cases ha : a < lo t g ∨ hi t g < a
 ·rw [if_pos ha]
 rw [if_neg ha]
 have h : ¬ ((if t = 3 then 1 else 0 : Int) ≤ l.length ∧ (l.length : Int) ≤ (if t = 3 then 16 else 0 : Int)):=by
  rcases h with h | h
  ·exact absurd (of_decide_eq_false h) (by omega)
  ·exact of_decide_eq_false h
 by_cases h3 : t = 3
 ·rw [if_pos h3] at h ⊢
  rw [if_pos h3] at h
  rw [if_pos (by omega)]
 ·rw [if_neg h3] at h ⊢
  rw [if_neg h3] at h
  rw [if_neg (by omega)]
theorem tk_ne (c : Int) (h0 : 0 ≤ c) (h1 : c ≤ 255) : ((ofV c).1.2.2.1 ≠ -1):=by
 obtain ⟨n,rfl⟩:=Int.eq_ofNat_of_zero_le h0
 have hall : ((List.range 256).all fun (n : Nat) => decide ((ofV (n : Int)).1.2.2.1 ≠ -1)) = true:=by decide +kernel
 exact of_decide_eq_true (List.all_eq_true.1 hall n (List.mem_range.2 (by omega)))
theorem counts_spans (c t : Int) (wd pp ps : ByteArray) (pl : Bool) (w : World) :
  Calls Tryz.prog 198 #[.agg #[.int .u8 c,.string wd,.int .i8 t,.string pp,.string ps,.bool pl]] w fun e w' => e = .returned (spanV (cLo t) (cHi t)) ∧ Below w.heap.size w w':=by
 refine (counts32 c t wd pp ps pl w).mono fun e w' ⟨he,hb⟩ => ⟨?_,hb⟩
 rw [he]
 unfold cLo cHi
 by_cases h : t = 3
 ·rw [if_pos h,if_pos h,if_pos h]
 ·rw [if_neg h,if_neg h,if_neg h]
theorem check12 (c a : Int) (la : Option Addr) (ln lc : Nat) (l : List Int) (w : World) (hk : KindsOk w) (h0 : 0 ≤ c) (h1 : c ≤ 255) (hl : SegI w la ln lc l) :
  Calls Tryz.prog 194 #[insV c a (.slice la ln lc)] w fun e w' => e = .returned (.int .i64 (chk (tkV c) (lgV c) a l)) ∧ Below w.heap.size w w':=by
 have hof:=hid (fun W hW => of6 c W hW h0 h1)
 have hne:=tk_ne c h0 h1
 unfold tkV lgV insV
 generalize ofV c = V at *
 obtain ⟨⟨rc,wd,t,pp,ps,pl⟩,fnd⟩:=V
 simp only [rv,rowV] at hof hne ⊢
 have HL:=hid hl
 have hln:=hl.2.2.1
 have hlen:=hl.1
 clear hl
 have hb0 : Below w.heap.size w (w.alloc (.cells #[.int .u8 c,.int .i64 a,.slice la ln lc] 86)):=(Below.refl _ _).alloc (Nat.le_refl _) _
 have HO:=hid (hof.out _ (hk.later hb0 hk.pos))
 clear hof
 cases fnd
 ·go_enter Tryz.func194,Tryz.ntmps194
  go_wp2_with fail
  refine HO.out.mono ?_
  rintro e w1 ⟨rfl,hb1⟩
  go_wp2
  go_ret
  refine ⟨?_,?_⟩
  ·rw [chk_none]; rfl
  ·exact (hb0.trans (hb1.mono (by simp))).alloc (by have:=hb1.size; simp at this; omega) _
 simp only [if_true]
 go_enter Tryz.func194,Tryz.ntmps194
 go_wp2_with fail
 refine HO.out.mono ?_
 rintro e w1 ⟨rfl,hb1⟩
 have x0 : w1.cell? ⟨w.heap.size,0,none⟩ = some (.int .u8 c):=by rw [hb1.cell (by simp)]; simp [go_sem]
 have x1 : w1.cell? ⟨w.heap.size,1,none⟩ = some (.int .i64 a):=by rw [hb1.cell (by simp)]; simp [go_sem]
 have x2 : w1.cell? ⟨w.heap.size,2,none⟩ = some (.slice la ln lc):=by rw [hb1.cell (by simp)]; simp [go_sem]
 have hx:=block_lt_of_cell x0
 have B1:=hid (hb0.trans (hb1.mono (by simp)))
 clear hb1
 go_wp2_with fail
 obtain ⟨w2,hw2⟩ : ∃ w2,w1.alloc (.cells #[.int .u8 rc,.string wd,.int .i8 t,.string pp,.string ps,.bool pl] 193) = w2:=⟨_,rfl⟩
 rw [hw2]
 have B2:=hid (show Below w.heap.size w w2 by rw [← hw2]; exact B1.out.alloc (by have:=B1.out.size; omega) _)
 have y : w2.cell? ⟨w.heap.size,0,none⟩ = some (.int .u8 c) ∧ w2.cell? ⟨w.heap.size,1,none⟩ = some (.int .i64 a) ∧ w2.cell? ⟨w.heap.size,2,none⟩ = some (.slice la ln lc) ∧ w2.cell? ⟨w1.heap.size,0,none⟩ = some (.int .u8 rc) ∧ w2.cell? ⟨w1.heap.size,1,none⟩ = some (.string wd) ∧ w2.cell? ⟨w1.heap.size,2,none⟩ = some (.int .i8 t) ∧ w2.cell? ⟨w1.heap.size,3,none⟩ = some (.string pp) ∧ w2.cell? ⟨w1.heap.size,4,none⟩ = some (.string ps) ∧ w2.cell? ⟨w1.heap.size,5,none⟩ = some (.bool pl) ∧ Below w2.heap.size w2 w2:=by
  rw [← hw2]
  refine ⟨?_,?_,?_,?_,?_,?_,?_,?_,?_,(Below.refl _ _)⟩
  ·rw [World.cell?_alloc_past _ _ _ hx]; exact x0
  ·rw [World.cell?_alloc_past _ _ _ hx]; exact x1
  ·rw [World.cell?_alloc_past _ _ _ hx]; exact x2
  all_goals simp [go_sem]
 clear hw2 x0 x1 x2 B1 HO hb0
 have yd:=y
 obtain ⟨y0,y1,y2,y3,y4,y5,y6,y7,y8,_⟩:=y
 have hwrap : IntKind.i64.wrap (ln : Int) = ln:=by simp [IntKind.wrap,IntKind.bits,IntKind.signed]; omega
 by_cases hA : inB (lo t (isLg ps)) (hi t (isLg ps)) a = true
 ·by_cases hC : inB (cLo t) (cHi t) l.length = true
  ·have HV:=hid (chk_some (a:=a) (l:=l) hne hA hC)
   rw [hlen] at hC
   go_region_held3 (fun W => W.cell? ⟨w.heap.size,0,none⟩ = some (.int .u8 c) ∧ W.cell? ⟨w.heap.size,1,none⟩ = some (.int .i64 a) ∧ W.cell? ⟨w.heap.size,2,none⟩ = some (.slice la ln lc) ∧ W.cell? ⟨w1.heap.size,0,none⟩ = some (.int .u8 rc) ∧ W.cell? ⟨w1.heap.size,1,none⟩ = some (.string wd) ∧ W.cell? ⟨w1.heap.size,2,none⟩ = some (.int .i8 t) ∧ W.cell? ⟨w1.heap.size,3,none⟩ = some (.string pp) ∧ W.cell? ⟨w1.heap.size,4,none⟩ = some (.string ps) ∧ W.cell? ⟨w1.heap.size,5,none⟩ = some (.bool pl) ∧ Below w2.heap.size w2 W)
    (first | assumption | (refine held_chk ?_ ?_ <;> assumption) | (exact ⟨y0,y1,y2,y3,y4,y5,y6,y7,y8,(Below.refl _ _).drew⟩))
    (first
     | (go_at_call 196; refine (numbers30 rc t wd pp ps pl _).mono ?_; rintro e w' ⟨rfl,hbx⟩; have hS':=held_chk (X:=w.heap.size) (Y:=w1.heap.size) (w2:=w2) hbx (by assumption); clear hbx)
     | (go_at_call 198; refine (counts_spans rc t wd pp ps pl _).mono ?_; rintro e w' ⟨rfl,hbx⟩; have hS':=held_chk (X:=w.heap.size) (Y:=w1.heap.size) (w2:=w2) hbx (by assumption); clear hbx)
     | (go_at_call 197; refine (holds31 _ _ _ _).mono ?_; rintro e w' ⟨rfl,hbx⟩; have hS':=held_chk (X:=w.heap.size) (Y:=w1.heap.size) (w2:=w2) hbx (by assumption); clear hbx))
   have B3:=hid (B2.out.trans (hS'.2.2.2.2.2.2.2.2.2.mono B2.out.size))
   have z2:=hS'.2.2.1
   clear hS' yd y0 y1 y2 y3 y4 y5 y6 y7 y8 hC hA
   go_wp2_with fail
   go_loopw [33] (fun i wr => ∃ k : Nat,k ≤ ln ∧ i = .int .i64 k ∧ Below w.heap.size w wr ∧ (okL l ↔ okL (l.drop k))) (fun i _ => ln - (intOf i).toNat)
   case atStart => exact ⟨0,Nat.zero_le _,rfl,B3.out,by simp⟩
   case round =>
    obtain ⟨k,hk,rfl,hb,hok⟩:=hrel
    have HB:=hid hb
    have HK:=hid hok
    clear hb hok B3 z2
    by_cases hlt : k < ln
    ·rcases HL.out.2.2.2.2 with hz | ⟨b,off,rfl,hc⟩
     ·omega
     have hcell : wr.cell? ⟨b,off + k,none⟩ = some (.int .i64 (l.getD k 0)):=(HB.out.cell (p:=⟨b,off + k,none⟩) (block_lt_of_cell (hc k hlt))).trans (hc k hlt)
     have hd:=okL_drop l k (by omega)
     have hrz:=getD_i64 l HL.out.2.2.2.1 k
     generalize l.getD k 0 = z at *
     have HD:=hid hd
     clear hd hc
     by_cases hin : inB 0 2147483647 z = true
     ·go_wp2_with fail
      refine (indices33 _).mono ?_
      rintro e w3 ⟨rfl,hb3⟩
      go_wp2_with fail
      refine (holds31 _ _ _ _).mono ?_
      rintro e w4 ⟨rfl,hb4⟩
      go_wp2_with fail
      have hz2:=of_decide_eq_true hin
      exact ⟨⟨k + 1,by omega,by go_num,(HB.out.trans (hb3.mono HB.out.size)).trans (hb4.mono (Nat.le_trans HB.out.size hb3.size)),by rw [HK.out,HD.out]; simp [hz2]⟩,by simp [intOf]; omega⟩
     ·have hin' : inB 0 2147483647 z = false:=by simpa using hin
      clear hin
      go_wp2_with fail
      refine (indices33 _).mono ?_
      rintro e w3 ⟨rfl,hb3⟩
      go_wp2_with fail
      refine (holds31 _ _ _ _).mono ?_
      rintro e w4 ⟨rfl,hb4⟩
      go_wp2_with fail
      go_ret
      have hz2:=of_decide_eq_false hin'
      refine ⟨?_,(HB.out.trans (hb3.mono HB.out.size)).trans (hb4.mono (Nat.le_trans HB.out.size hb3.size))⟩
      rw [HV.out,if_neg (by rw [HK.out,HD.out]; exact fun h => hz2 h.1)]
      rfl
    ·go_wp2_with fail
     go_ret
     refine ⟨?_,HB.out⟩
     rw [HV.out,if_pos (by rw [HK.out,List.drop_eq_nil_of_le (by omega)]; trivial)]
     rfl
  ·have hC' : inB (cLo t) (cHi t) l.length = false:=by simpa using hC
   have HV:=hid (chk_out (a:=a) (l:=l) (g:=isLg ps) hne (.inr hC'))
   rw [hlen] at hC'
   clear hC
   go_region_held3 (fun W => W.cell? ⟨w.heap.size,0,none⟩ = some (.int .u8 c) ∧ W.cell? ⟨w.heap.size,1,none⟩ = some (.int .i64 a) ∧ W.cell? ⟨w.heap.size,2,none⟩ = some (.slice la ln lc) ∧ W.cell? ⟨w1.heap.size,0,none⟩ = some (.int .u8 rc) ∧ W.cell? ⟨w1.heap.size,1,none⟩ = some (.string wd) ∧ W.cell? ⟨w1.heap.size,2,none⟩ = some (.int .i8 t) ∧ W.cell? ⟨w1.heap.size,3,none⟩ = some (.string pp) ∧ W.cell? ⟨w1.heap.size,4,none⟩ = some (.string ps) ∧ W.cell? ⟨w1.heap.size,5,none⟩ = some (.bool pl) ∧ Below w2.heap.size w2 W)
    (first | assumption | (refine held_chk ?_ ?_ <;> assumption) | (exact ⟨y0,y1,y2,y3,y4,y5,y6,y7,y8,(Below.refl _ _).drew⟩))
    (first
     | (go_at_call 196; refine (numbers30 rc t wd pp ps pl _).mono ?_; rintro e w' ⟨rfl,hbx⟩; have hS':=held_chk (X:=w.heap.size) (Y:=w1.heap.size) (w2:=w2) hbx (by assumption); clear hbx)
     | (go_at_call 198; refine (counts_spans rc t wd pp ps pl _).mono ?_; rintro e w' ⟨rfl,hbx⟩; have hS':=held_chk (X:=w.heap.size) (Y:=w1.heap.size) (w2:=w2) hbx (by assumption); clear hbx)
     | (go_at_call 197; refine (holds31 _ _ _ _).mono ?_; rintro e w' ⟨rfl,hbx⟩; have hS':=held_chk (X:=w.heap.size) (Y:=w1.heap.size) (w2:=w2) hbx (by assumption); clear hbx))
   have B3:=hid (B2.out.trans (hS'.2.2.2.2.2.2.2.2.2.mono B2.out.size))
   clear hS' yd y0 y1 y2 y3 y4 y5 y6 y7 y8
   go_wp2_with fail
   go_ret
   exact ⟨by rw [HV.out]; rfl,B3.out⟩
 ·have hA' : inB (lo t (isLg ps)) (hi t (isLg ps)) a = false:=by simpa using hA
  have HV:=hid (chk_out (a:=a) (l:=l) hne (.inl hA'))
  clear hA
  first | (go_region_with (first
   | (go_at_call 196; refine (numbers30 rc t wd pp ps pl _).mono ?_; rintro e w3 ⟨rfl,hb3⟩; have hS3:=held_chk (X:=w.heap.size) (Y:=w1.heap.size) (w2:=w2) hb3 ⟨y0,y1,y2,y3,y4,y5,y6,y7,y8,(Below.refl _ _).drew⟩; clear hb3)
   | (go_at_call 197; refine (holds31 _ _ _ _).mono ?_; rintro e w4 ⟨rfl,hb4⟩; have hS':=held_chk (X:=w.heap.size) (Y:=w1.heap.size) (w2:=w2) hb4 hS3; clear hb4))) | fail
  all_goals
   have B3:=hid (B2.out.trans (hS'.2.2.2.2.2.2.2.2.2.mono B2.out.size))
   clear hS' yd y0 y1 y2 y3 y4 y5 y6 y7 y8
   go_wp2_with fail
   go_ret
   exact ⟨by rw [HV.out]; rfl,B3.out⟩
end Go.Proofs.YtmgjhfookhaajaaGreatDoor

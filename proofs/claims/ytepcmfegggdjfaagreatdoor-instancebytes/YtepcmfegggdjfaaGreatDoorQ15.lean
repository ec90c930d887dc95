/-
  Texts Small Ref Of Ins Span.
-/
import Derived.Below
import Derived.BigQuiet
import Derived.Deep.QuietTactic
import Derived.Deep.RegionHeld3
import Derived.KernelRfl
import Derived.RowKit
import Derived.Test.YtepcmfegggdjfaaGreatDoorProg
import Derived.WalkKit
import Derived.WalkLawsBesides
import Derived.WalkSpells
import Derived.Test.YtepcmfegggdjfaaGreatDoorQ00
import Derived.Test.YtepcmfegggdjfaaGreatDoorQ14
set_option linter.unusedVariables false
set_option maxRecDepth 100000
set_option maxHeartbeats 16000000
namespace Go.Proofs.YtepcmfegggdjfaaGreatDoor
open Go.RowKit
def takesV (c : Int) : Int :=
 if c = 2 then 1 else if c = 3 then 1 else if c = 4 then 1 else if c = 7 then 2 else if c = 8 then 2 else if c = 9 then 3 else if c = 11 then 4 else if c = 12 then 5
 else if c = 18 then 6 else if c = 19 then 6 else if c = 20 then 6 else if c = 21 then 7 else if c = 22 then 7 else if c = 24 then 8 else if c = 25 then 8
 else if c = 32 then 9 else if c = 33 then 9 else if c = 34 then 9 else if c = 35 then 9 else if c = 36 then 9 else if c = 37 then 9 else if c = 38 then 9 else if c = 39 then 9 else if c = 40 then 9 else if c = 41 then 9 else 0
def plainV (c : Int) : Bool:=decide (c = 1 ∨ 24 ≤ c)
def numV (k : Int) (s : ByteArray) : ByteArray × ByteArray :=
 if k = 0 then (s,⟨#[119]⟩) else if k ≤ 6 then (s ++ s,⟨#[119]⟩) else if k ≤ 9 then (s,s) else (s ++ s,s)
def effV (c : Int) : ByteArray × ByteArray :=
 if 48 ≤ c ∧ c ≤ 72 then numV (c - 48) ⟨#[119]⟩ else if 80 ≤ c ∧ c ≤ 104 then numV (c - 80) ⟨#[108]⟩
 else if c = 24 then (⟨#[]⟩,⟨#[119]⟩) else if c = 42 then (⟨#[]⟩,⟨#[119]⟩) else if c = 25 then (⟨#[]⟩,⟨#[108]⟩)
 else if c = 32 then (⟨#[119]⟩,⟨#[119]⟩) else if c = 33 then (⟨#[119]⟩,⟨#[119]⟩) else if c = 34 then (⟨#[119]⟩,⟨#[119]⟩) else if c = 35 then (⟨#[119]⟩,⟨#[119]⟩) else if c = 36 then (⟨#[119]⟩,⟨#[119]⟩) else if c = 43 then (⟨#[119]⟩,⟨#[119]⟩) else if c = 115 then (⟨#[119]⟩,⟨#[119]⟩) else if c = 116 then (⟨#[119]⟩,⟨#[119]⟩)
 else if c = 37 then (⟨#[119]⟩,⟨#[108]⟩) else if c = 113 then (⟨#[119]⟩,⟨#[108]⟩) else if c = 114 then (⟨#[119]⟩,⟨#[108]⟩)
 else if c = 112 then (⟨#[108]⟩,⟨#[119]⟩) else if c = 117 then (⟨#[108]⟩,⟨#[108]⟩)
 else if c = 38 then (⟨#[119,119]⟩,⟨#[]⟩) else if c = 39 then (⟨#[119,119]⟩,⟨#[]⟩) else if c = 40 then (⟨#[119,119]⟩,⟨#[]⟩) else if c = 41 then (⟨#[119,108]⟩,⟨#[]⟩) else (⟨#[]⟩,⟨#[]⟩)
theorem takes19 (c : Int) (w : World) : Calls Tryz.prog 168 #[.int .u8 c] w fun e w' => e = .returned (.int .i8 (takesV c)) ∧ w' = w:=by
 go_enter Tryz.func168,Tryz.ntmps168
 go_wp2
 all_goals (go_ret; exact ⟨by unfold takesV; simp_all,rfl⟩)
theorem plain20 (c : Int) (w : World) : Calls Tryz.prog 169 #[.int .u8 c] w fun e w' => e = .returned (.bool (plainV c)) ∧ w' = w:=by
 go_enter Tryz.func169,Tryz.ntmps169
 go_wp2
 all_goals (go_ret; refine ⟨?_,rfl⟩; unfold plainV; simp_all)
theorem num39 (k : Int) (s : ByteArray) (w : World) (hs : s.size ≤ 1099511627776) : Calls Tryz.prog 171 #[.int .u8 k,.string s] w fun e w' => e = .returned (.tuple #[.string (numV k s).1,.string (numV k s).2]) ∧ w' = w:=by
 have hax : ¬ (s.size + s.size > 9223372036854775807):=by omega
 go_enter Tryz.func171,Tryz.ntmps171
 go_wp2
 all_goals (go_ret2; refine ⟨?_,rfl⟩; unfold numV; simp_all)
 all_goals (repeat rw [if_neg (by omega)])
 all_goals exact ⟨rfl,rfl⟩
theorem effect17 (c : Int) (w : World) (h0 : 0 ≤ c) (h1 : c ≤ 255) : Calls Tryz.prog 166 #[.int .u8 c] w fun e w' => e = .returned (.tuple #[.string (effV c).1,.string (effV c).2]) ∧ w' = w:=by
 by_cases ha : 48 ≤ c ∧ c ≤ 72
 ·rw [show effV c = numV (c - 48) ⟨#[119]⟩ by unfold effV; rw [if_pos ha]]
  obtain ⟨ha1,ha2⟩:=ha
  go_enter Tryz.func166,Tryz.ntmps166
  go_wp2_with fail
  refine (num39 (c - 48) ⟨#[119]⟩ w (by decide)).mono ?_
  rintro e w' ⟨rfl,rfl⟩
  go_wp2
  go_ret2
  exact ⟨rfl,rfl⟩
 ·by_cases hb : 80 ≤ c ∧ c ≤ 104
  ·rw [show effV c = numV (c - 80) ⟨#[108]⟩ by unfold effV; rw [if_neg ha,if_pos hb]]
   obtain ⟨hb1,hb2⟩:=hb
   have hx : ¬ c ≤ 72:=by omega
   go_enter Tryz.func166,Tryz.ntmps166
   go_wp2_with fail
   refine (num39 (c - 80) ⟨#[108]⟩ w (by decide)).mono ?_
   rintro e w' ⟨rfl,rfl⟩
   go_wp2
   go_ret2
   exact ⟨rfl,rfl⟩
  ·unfold effV
   rw [if_neg ha,if_neg hb]
   go_enter Tryz.func166,Tryz.ntmps166
   go_wp2_with fail
   all_goals (go_ret2; first | exact ⟨rfl,rfl⟩ | (refine ⟨?_,rfl⟩; simp_all))
theorem step_val {ops : Array Oper} {Q : Exit → Act → World → Prop} {o : Oper} {rest : List Oper} {a : Act} {w w' : World} {v : Value} (hg : o.guard = none) (he : (execOp a.eval o).run Tryz.prog w = .ok (.value v) w')
  (h : wpList Tryz.prog ops Q rest (a.put o.dst v) w') : wpList Tryz.prog ops Q (o :: rest) a w :=
 wpList_plain hg fun K hK => by simp only [Oper.wp,he,Oper.upon_value]; exact hK _ _ h
def rowV (k : Int) (wd : ByteArray) (tk : Int) (pp ps : ByteArray) (pl : Bool) : Array Value:=#[.int .u8 k,.string wd,.int .i8 tk,.string pp,.string ps,.bool pl]
abbrev RefRow:=Int × ByteArray × Int × ByteArray × ByteArray × Bool
def zeroRow : RefRow:=(0,⟨#[]⟩,0,⟨#[]⟩,⟨#[]⟩,false)
def rv (x : RefRow) : Array Value:=rowV x.1 x.2.1 x.2.2.1 x.2.2.2.1 x.2.2.2.2.1 x.2.2.2.2.2
def rowAt (b : Nat) (x : RefRow) : List (Addr × Value):=[(⟨b,0,none⟩,.int .u8 x.1),(⟨b,1,none⟩,.string x.2.1),(⟨b,2,none⟩,.int .i8 x.2.2.1),(⟨b,3,none⟩,.string x.2.2.2.1),(⟨b,4,none⟩,.string x.2.2.2.2.1),(⟨b,5,none⟩,.bool x.2.2.2.2.2)]
theorem rowAt_cells {b : Nat} {x : RefRow} {W : World} (h : Holds (rowAt b x) W) :
  (W.cell? ⟨b,0,none⟩ = some (.int .u8 x.1) ∧ W.cell? ⟨b,1,none⟩ = some (.string x.2.1) ∧ W.cell? ⟨b,2,none⟩ = some (.int .i8 x.2.2.1) ∧ W.cell? ⟨b,3,none⟩ = some (.string x.2.2.2.1) ∧ W.cell? ⟨b,4,none⟩ = some (.string x.2.2.2.2.1) ∧ W.cell? ⟨b,5,none⟩ = some (.bool x.2.2.2.2.2)) ∧
  (W.frozen? ⟨b,0,none⟩ = false ∧ W.frozen? ⟨b,1,none⟩ = false ∧ W.frozen? ⟨b,2,none⟩ = false ∧ W.frozen? ⟨b,3,none⟩ = false ∧ W.frozen? ⟨b,4,none⟩ = false ∧ W.frozen? ⟨b,5,none⟩ = false):=by
 unfold rowAt at h
 exact ⟨⟨(h (⟨b,0,none⟩,_) (by simp)).1,(h (⟨b,1,none⟩,_) (by simp)).1,(h (⟨b,2,none⟩,_) (by simp)).1,(h (⟨b,3,none⟩,_) (by simp)).1,(h (⟨b,4,none⟩,_) (by simp)).1,(h (⟨b,5,none⟩,_) (by simp)).1⟩,
  (h _ (List.mem_cons_self ..)).2,(h (⟨b,1,none⟩,.string x.2.1) (by simp)).2,(h (⟨b,2,none⟩,.int .i8 x.2.2.1) (by simp)).2,(h (⟨b,3,none⟩,.string x.2.2.2.1) (by simp)).2,(h (⟨b,4,none⟩,.string x.2.2.2.2.1) (by simp)).2,(h (⟨b,5,none⟩,.bool x.2.2.2.2.2) (by simp)).2⟩
theorem Holds.later {cs : List (Addr × Value)} {n : Nat} {A B : World} (h : Holds cs A) (hb : Below n A B) (hn : ∀ p ∈ cs,p.1.block < n) : Holds cs B :=
 fun p hp => ⟨(hb.cell (hn p hp)).trans (h p hp).1,(hb.frozen (hn p hp)).trans (h p hp).2⟩
def kinRow (i : Nat) (c : Int) : RefRow:=(c,wordV (kF i) c (kA i) (bpieces (kW i)),takesV c,(effV c).1,(effV c).2,plainV c)
def ofFrom : Nat → Nat → Int → RefRow × Bool
 | 0,_,_ => (zeroRow,false)
 | n + 1,i,c => if kF i ≤ c ∧ c ≤ kL i then (kinRow i c,true) else ofFrom n (i + 1) c
def ofV (c : Int) : RefRow × Bool:=ofFrom 7 0 c
theorem of6 (c : Int) (w : World) (hk : KindsOk w) (h0 : 0 ≤ c) (h1 : c ≤ 255) : Calls Tryz.prog 161 #[.int .u8 c] w fun e w' => e = .returned (.tuple #[.agg (rv (ofV c).1),.bool (ofV c).2]) ∧ Below w.heap.size w w':=by
 obtain ⟨V,hV⟩ : ∃ V,ofV c = V:=⟨_,rfl⟩
 rw [hV]
 go_enter Tryz.func161,Tryz.ntmps161
 refine wp_seq_k fun K1 hK1 => wp_region_lit ?_
 refine step_val rfl (v:=.pointer (some ⟨w.heap.size,0,none⟩)) (w':=w.alloc (.cells #[.int .u8 0,.string ⟨#[]⟩,.int .i8 0,.string ⟨#[]⟩,.string ⟨#[]⟩,.bool false] 214)) (by simp [go_sem]) ?_
 refine step_val rfl (v:=.bool false) (w':=w.alloc (.cells #[.int .u8 0,.string ⟨#[]⟩,.int .i8 0,.string ⟨#[]⟩,.string ⟨#[]⟩,.bool false] 214)) (by simp [go_sem]) ?_
 refine wpList_nil (hK1 _ _ ?_)
 clear hK1
 have hb : Below w.heap.size w (w.alloc (.cells #[.int .u8 0,.string ⟨#[]⟩,.int .i8 0,.string ⟨#[]⟩,.string ⟨#[]⟩,.bool false] 214)):=(Below.refl _ w).alloc (Nat.le_refl _) _
 have hc : Holds (rowAt w.heap.size zeroRow) (w.alloc (.cells #[.int .u8 0,.string ⟨#[]⟩,.int .i8 0,.string ⟨#[]⟩,.string ⟨#[]⟩,.bool false] 214)):=by
  unfold rowAt zeroRow
  refine Holds.cons ?_ ?_ (Holds.cons ?_ ?_ (Holds.cons ?_ ?_ (Holds.cons ?_ ?_ (Holds.cons ?_ ?_ (Holds.cons ?_ ?_ (by simp [Holds])))))) <;> simp [go_sem]
 refine wp_seq_k fun K2 hK2 => wp_seq_k fun K3 hK3 => wp_region_lit ?_
 refine step_val rfl (exec_kinds (hk.later hb hk.pos) _ _ _ _ _) ?_
 obtain ⟨kv,hkv⟩ : ∃ kv,kindsV = kv:=⟨_,rfl⟩
 rw [hkv]
 have run_kind' : ∀ (w : World) (i : Nat) (hi : i < 7),(Instr.index 222 kv (.int .i64 i)).run Tryz.prog w = .ok (.agg #[.int .u8 (kF i),.int .u8 (kL i),.string (kA i),.string (kW i)]) w:=fun w i hi => hkv ▸ run_kind i hi
 have HK:=hid run_kind'
 clear run_kind' hkv
 go_wp2_with fail
 go_loopw [9] (fun p wr => ∃ i : Nat,p = .int .i64 i ∧ i ≤ 7 ∧ Below w.heap.size w wr ∧ Holds (rowAt w.heap.size zeroRow) wr ∧ ofFrom (7 - i) i c = V) (fun p wr => 7 - (intOf p).toNat)
 case atStart => exact ⟨0,rfl,by decide,hb,hc,hV⟩
 case round =>
  clear hb hc hV
  obtain ⟨i,rfl,hi,hB,hR,hV⟩:=hrel
  by_cases h7 : i = 7
  ·subst h7
   have hx : V = (zeroRow,false):=hV.symm
   subst hx
   obtain ⟨⟨d0,d1,d2,d3,d4,d5⟩,e0,e1,e2,e3,e4,e5⟩:=rowAt_cells hR
   go_wp2_with fail
   refine bodyPost_ret (v:=.tuple #[.agg (rv zeroRow),.bool false]) ?_ rfl ⟨rfl,?_⟩
   ·rw [results_cell_tmp rfl]
    go_simp
    rfl
   ·exact (((((hB.setCell (p:=⟨w.heap.size,0,none⟩) (by simp) _).setCell (p:=⟨w.heap.size,1,none⟩) (by simp) _).setCell (p:=⟨w.heap.size,2,none⟩) (by simp) _).setCell (p:=⟨w.heap.size,3,none⟩) (by simp) _).setCell (p:=⟨w.heap.size,4,none⟩) (by simp) _).setCell (p:=⟨w.heap.size,5,none⟩) (by simp) _
  have hlt : (i : Int) < 7:=by omega
  have hix:=HK.out wr i (by omega)
  obtain ⟨f0,f1,f2,f3,f4,f5⟩:=kind_facts i (by omega)
  have HF:=hid ((word18 (kF i) (kL i) c (kA i) (kW i) · f0 f3 f4 f5))
  obtain ⟨n,hn⟩ : ∃ n,7 - i = n + 1:=⟨6 - i,by omega⟩
  rw [hn,ofFrom] at hV
  have hwd : (kinRow i c).2.1 = wordV (kF i) c (kA i) (bpieces (kW i)):=rfl
  generalize wordV (kF i) c (kA i) (bpieces (kW i)) = wd at HF hwd
  by_cases hin : kF i ≤ c ∧ c ≤ kL i
  ·obtain ⟨g1,g2⟩:=hin
   rw [if_pos ⟨g1,g2⟩] at hV
   generalize kF i = f at *
   generalize kL i = l at *
   generalize kA i = a at *
   generalize kW i = ws at *
   go_wp2_with fail
   refine (effect17 c _ h0 h1).mono ?_
   rintro e w2 ⟨rfl,rfl⟩
   go_wp2_with fail
   refine (HF.out _).mono ?_
   rintro e w3 ⟨rfl,hb3⟩
   go_wp2_with fail
   refine (takes19 c w3).mono ?_
   rintro e w4 ⟨rfl,rfl⟩
   go_wp2_with fail
   refine (plain20 c w4).mono ?_
   rintro e w5 ⟨rfl,rfl⟩
   have hwr : w.heap.size < wr.heap.size:=World.block_lt_of_cell? wr ⟨w.heap.size,0,none⟩ (rowAt_cells hR).1.1
   have hR3 : Holds (rowAt w.heap.size zeroRow) w5:=(hR.grown (World.grownBy_alloc wr _ none) (fun r e => by cases e)).later hb3 (by simp [rowAt]; omega)
   have hB3 : Below w.heap.size w w5:=(hB.alloc hB.size _).trans (hb3.mono (by simp; omega))
   clear hb3 hR
   obtain ⟨⟨d0,d1,d2,d3,d4,d5⟩,e0,e1,e2,e3,e4,e5⟩:=rowAt_cells hR3
   go_wp2_with fail
   subst hV
   refine bodyPost_ret (v:=.tuple #[.agg #[.int .u8 c,.string wd,.int .i8 (takesV c),.string (effV c).1,.string (effV c).2,.bool (plainV c)],.bool true]) ?_ rfl ⟨by rw [← hwd]; rfl,?_⟩
   ·rw [results_cell_tmp rfl]
    go_simp
   ·exact (((((hB3.setCell (p:=⟨w.heap.size,0,none⟩) (by simp) _).setCell (p:=⟨w.heap.size,1,none⟩) (by simp) _).setCell (p:=⟨w.heap.size,2,none⟩) (by simp) _).setCell (p:=⟨w.heap.size,3,none⟩) (by simp) _).setCell (p:=⟨w.heap.size,4,none⟩) (by simp) _).setCell (p:=⟨w.heap.size,5,none⟩) (by simp) _
  ·rw [if_neg hin] at hV
   have hwr : w.heap.size < wr.heap.size:=World.block_lt_of_cell? wr ⟨w.heap.size,0,none⟩ (rowAt_cells hR).1.1
   have hR2:=hid (hR.grown (World.grownBy_alloc wr (.cells #[.int .u8 (kF i),.int .u8 (kL i),.string (kA i),.string (kW i)] 221) none) (fun r e => by cases e))
   have hB2:=hid (hB.alloc hB.size (.cells #[.int .u8 (kF i),.int .u8 (kL i),.string (kA i),.string (kW i)] 221))
   have hV2:=hid hV
   clear hV hR hB
   have hw : wrap64 ((i : Int) + 1) = i + 1:=by unfold wrap64; omega
   clear HF hwd f0 f1 f2 f3 f4 f5
   generalize kF i = f at *
   generalize kL i = l at *
   generalize kA i = a at *
   generalize kW i = ws at *
   by_cases hlow : c < f
   ·go_wp2_with fail
    exact ⟨⟨i + 1,by simp,by omega,hB2.out,hR2.out,by rw [show 7 - (i + 1) = n by omega]; exact hV2.out⟩,by simp [intOf]; omega⟩
   ·have hhigh : l < c:=by omega
    go_wp2_with fail
    exact ⟨⟨i + 1,by simp,by omega,hB2.out,hR2.out,by rw [show 7 - (i + 1) = n by omega]; exact hV2.out⟩,by simp [intOf]; omega⟩
def lo (t : Int) (g : Bool) : Int:=if t = 8 then (if g = true then -9223372036854775808 else -2147483648) else 0
def hi (t : Int) (g : Bool) : Int :=
 if t = 0 ∨ t = 3 then 0 else if t = 9 then 4294967295 else if t = 8 then (if g = true then 9223372036854775807 else 2147483647) else 2147483647
theorem lo_range (t : Int) (g : Bool) : -9223372036854775808 ≤ lo t g ∧ lo t g ≤ 0:=by
 unfold lo; split
 ·split <;> omega
 ·omega
theorem hi_range (t : Int) (g : Bool) : 0 ≤ hi t g ∧ hi t g ≤ 9223372036854775807 ∧ (t ≠ 8 → hi t g ≤ 4294967295 ∧ lo t g = 0):=by
 unfold hi lo
 split
 ·refine ⟨by omega,by omega,fun h => ?_⟩
  rw [if_neg h]; omega
 ·split
  ·refine ⟨by omega,by omega,fun h => ?_⟩
   rw [if_neg h]; omega
  ·split
   ·refine ⟨by split <;> omega,by split <;> omega,fun h => by omega⟩
   ·refine ⟨by omega,by omega,fun h => ?_⟩
    omega
def okL : List Int → Prop
 | [] => True
 | z :: l => (0 ≤ z ∧ z ≤ 2147483647) ∧ okL l
instance decOkL : (l : List Int) → Decidable (okL l)
 | [] => .isTrue trivial
 | z :: l => match decOkL l with
  | .isTrue h => if hz : 0 ≤ z ∧ z ≤ 2147483647 then .isTrue ⟨hz,h⟩ else .isFalse fun x => hz x.1
  | .isFalse h => .isFalse fun x => h x.2
theorem okL_mem : ∀ (l : List Int),okL l ↔ ∀ z ∈ l,0 ≤ z ∧ z ≤ 2147483647
 | [] => by simp [okL]
 | z :: l => by simp [okL,okL_mem l]
def chk (t : Int) (g : Bool) (a : Int) (l : List Int) : Int :=
 if t = -1 then 21
 else if a < lo t g ∨ hi t g < a then 17
 else if t = 3 then (if l.length < 1 ∨ 16 < l.length then 17 else if okL l then 0 else 17)
 else if l.length = 0 then 0 else 17
def labB : List Int → List Int
 | [] => []
 | z :: l => uvar z ++ labB l
def encB (t a : Int) (l : List Int) : List Int :=
 if t = 0 then [] else if t = 8 then uvar (fo a) else if t = 3 then uvar l.length ++ labB l else uvar a
theorem labB_len : ∀ (l : List Int),(labB l).length ≤ 10 * l.length
 | [] => by simp [labB]
 | z :: l => by
  have:=labB_len l
  have:=uvar_len z
  simp only [labB,List.length_append,List.length_cons]; omega
theorem uv_mem (f : Nat) : ∀ (v : Int),0 ≤ v → v < 128 ^ f * 256 → ∀ z ∈ uv f v,0 ≤ z ∧ z ≤ 255:=by
 induction f with
 | zero => intro v h0 h1 z hz; simp [uv] at hz; simp at h1; omega
 | succ f ih =>
  intro v h0 h1 z hz
  by_cases h : v < 128
  ·simp [uv,h] at hz; omega
  ·simp only [uv,h,if_false,List.mem_cons] at hz
   rcases hz with rfl | hz
   ·omega
   ·refine ih (v / 128) (by omega) ?_ z hz
    have hs : (128 : Int) ^ (f + 1) = 128 ^ f * 128:=Int.pow_succ _ _
    rw [hs] at h1
    generalize (128 : Int) ^ f = X at h1 ⊢
    omega
theorem uvar_mem (v : Int) (h0 : 0 ≤ v) (h1 : v < 18446744073709551616) : ∀ z ∈ uvar v,0 ≤ z ∧ z ≤ 255:=by
 have e : (128 : Int) ^ 9 = 9223372036854775808:=by decide
 refine uv_mem 9 v h0 ?_
 rw [e]; omega
theorem labB_mem : ∀ (l : List Int),okL l → ∀ z ∈ labB l,0 ≤ z ∧ z ≤ 255
 | [],_,z,hz => by simp [labB] at hz
 | y :: l,h,z,hz => by
  simp only [labB,List.mem_append] at hz
  rcases hz with hz | hz
  ·exact uvar_mem y h.1.1 (by have:=h.1.2; omega) z hz
  ·exact labB_mem l h.2 z hz
theorem chk_ok {t : Int} {g : Bool} {a : Int} {l : List Int} (h : chk t g a l = 0) :
  t ≠ -1 ∧ lo t g ≤ a ∧ a ≤ hi t g ∧ (t = 3 → 1 ≤ l.length ∧ l.length ≤ 16 ∧ okL l) ∧ (t ≠ 3 → l = []):=by
 unfold chk at h
 by_cases h1 : t = -1
 ·rw [if_pos h1] at h; omega
 rw [if_neg h1] at h
 by_cases h2 : a < lo t g ∨ hi t g < a
 ·rw [if_pos h2] at h; omega
 rw [if_neg h2] at h
 by_cases h3 : t = 3
 ·rw [if_pos h3] at h
  by_cases h4 : l.length < 1 ∨ 16 < l.length
  ·rw [if_pos h4] at h; omega
  rw [if_neg h4] at h
  by_cases h5 : okL l
  ·exact ⟨h1,by omega,by omega,fun _ => ⟨by omega,by omega,h5⟩,fun h => absurd h3 h⟩
  ·rw [if_neg h5] at h; omega
 ·rw [if_neg h3] at h
  by_cases h4 : l.length = 0
  ·exact ⟨h1,by omega,by omega,fun h => absurd h h3,fun _ => List.eq_nil_of_length_eq_zero h4⟩
  ·rw [if_neg h4] at h; omega
theorem encB_len (t a : Int) (l : List Int) (h : l.length ≤ 16) : (encB t a l).length ≤ 170:=by
 unfold encB
 split
 ·simp
 ·split
  ·have:=uvar_len (fo a); omega
  ·split
   ·have:=uvar_len l.length
    have:=labB_len l
    rw [List.length_append]; omega
   ·have:=uvar_len a; omega
theorem encB_mem {t : Int} {g : Bool} {a : Int} {l : List Int} (h : chk t g a l = 0) : ∀ z ∈ encB t a l,0 ≤ z ∧ z ≤ 255:=by
 obtain ⟨h1,h2,h3,h4,h5⟩:=chk_ok h
 have hl:=lo_range t g
 have hh:=hi_range t g
 intro z hz
 unfold encB at hz
 by_cases t0 : t = 0
 ·rw [if_pos t0] at hz; simp at hz
 rw [if_neg t0] at hz
 by_cases t8 : t = 8
 ·rw [if_pos t8] at hz
  have:=fo_range a (by omega) (by omega)
  exact uvar_mem _ this.1 this.2 z hz
 rw [if_neg t8] at hz
 by_cases t3 : t = 3
 ·rw [if_pos t3] at hz
  obtain ⟨a1,a2,a3⟩:=h4 t3
  rcases List.mem_append.1 hz with hz | hz
  ·exact uvar_mem _ (by omega) (by omega) z hz
  ·exact labB_mem l a3 z hz
 ·rw [if_neg t3] at hz
  have:=hh.2.2 t8
  exact uvar_mem _ (by omega) (by omega) z hz
def spanV (a b : Int) : Value:=.agg #[.int .i64 a,.int .i64 b]
def inB (a b v : Int) : Bool:=decide (a ≤ v ∧ v ≤ b)
theorem inB_yes {a b v : Int} (h1 : a ≤ v) (h2 : v ≤ b) : inB a b v = true:=by unfold inB; simp [h1,h2]
theorem inB_no {a b v : Int} (h : v < a ∨ b < v) : inB a b v = false:=by unfold inB; simp; omega
theorem holds31 (a b v : Int) (w : World) : Calls Tryz.prog 217 #[spanV a b,.int .i64 v] w fun e w' => e = .returned (.bool (inB a b v)) ∧ Below w.heap.size w w':=by
 unfold spanV
 by_cases h1 : a ≤ v
 ·by_cases h2 : v ≤ b
  ·have HR:=show Hid _ from inB_yes h1 h2
   go_enter Tryz.func217,Tryz.ntmps217
   go_wp2
   go_ret
   exact ⟨by rw [HR.out]; rfl,(Below.refl _ _).alloc (Nat.le_refl _) _⟩
  ·have HR:=show Hid _ from inB_no (a:=a) (.inr (by omega : b < v))
   go_enter Tryz.func217,Tryz.ntmps217
   go_wp2
   go_ret
   exact ⟨by rw [HR.out]; rfl,(Below.refl _ _).alloc (Nat.le_refl _) _⟩
 ·have HR:=show Hid _ from inB_no (b:=b) (.inl (by omega : v < a))
  go_enter Tryz.func217,Tryz.ntmps217
  go_wp2
  go_ret
  exact ⟨by rw [HR.out]; rfl,(Below.refl _ _).alloc (Nat.le_refl _) _⟩
theorem indices33 (w : World) : Calls Tryz.prog 219 #[] w fun e w' => e = .returned (spanV 0 2147483647) ∧ Below w.heap.size w w':=by
 go_enter Tryz.func219,Tryz.ntmps219
 go_wp2
 refine bodyPost_ret (v:=.agg #[.int .i64 0,.int .i64 2147483647]) (by simp [results,Tryz.results219,go_sem]) rfl ⟨rfl,?_⟩
 exact (Below.refl _ _).alloc (Nat.le_refl _) _
def isLg (ps : ByteArray) : Bool:=decide (ps = ⟨#[108]⟩)
theorem isL_toList (ps : ByteArray) : (ps.toList == [108]) = isLg ps:=by
 rw [ByteArray.toList_eq]
 unfold isLg
 by_cases h : ps = ⟨#[108]⟩
 ·simp [h]
 ·rw [decide_eq_false h,beq_eq_false_iff_ne]
  intro e
  apply h
  cases ps with
  | mk d =>
   have e2 : d.toList = (#[108] : Array UInt8).toList:=e
   rw [Array.toList_inj.1 e2]
theorem numbers30 (c t : Int) (wd pp ps : ByteArray) (pl : Bool) (w : World) :
  Calls Tryz.prog 216 #[.agg #[.int .u8 c,.string wd,.int .i8 t,.string pp,.string ps,.bool pl]] w fun e w' => e = .returned (spanV (lo t (isLg ps)) (hi t (isLg ps))) ∧ Below w.heap.size w w':=by
 by_cases h0 : t = 0
 ·subst h0
  go_enter Tryz.func216,Tryz.ntmps216
  go_wp2
  refine bodyPost_ret (v:=.agg #[.int .i64 0,.int .i64 0]) (by simp [results,Tryz.results216,go_sem]) rfl ⟨rfl,?_⟩
  exact ((Below.refl _ _).alloc (Nat.le_refl _) _).alloc (by simp) _
 by_cases h3 : t = 3
 ·subst h3
  go_enter Tryz.func216,Tryz.ntmps216
  go_wp2
  refine bodyPost_ret (v:=.agg #[.int .i64 0,.int .i64 0]) (by simp [results,Tryz.results216,go_sem]) rfl ⟨rfl,?_⟩
  exact ((Below.refl _ _).alloc (Nat.le_refl _) _).alloc (by simp) _
 by_cases h9 : t = 9
 ·subst h9
  go_enter Tryz.func216,Tryz.ntmps216
  go_wp2
  refine bodyPost_ret (v:=.agg #[.int .i64 0,.int .i64 4294967295]) (by simp [results,Tryz.results216,go_sem]) rfl ⟨rfl,?_⟩
  exact ((Below.refl _ _).alloc (Nat.le_refl _) _).alloc (by simp) _
 by_cases h8 : t = 8
 ·subst h8
  have hl:=isL_toList ps
  cases hb : isLg ps
  ·rw [hb] at hl
   go_enter Tryz.func216,Tryz.ntmps216
   go_wp2
   refine bodyPost_ret (v:=.agg #[.int .i64 (-2147483648),.int .i64 2147483647]) (by simp [results,Tryz.results216,go_sem]) rfl ⟨rfl,?_⟩
   exact ((Below.refl _ _).alloc (Nat.le_refl _) _).alloc (by simp) _
  ·rw [hb] at hl
   go_enter Tryz.func216,Tryz.ntmps216
   go_wp2
   refine bodyPost_ret (v:=.agg #[.int .i64 (-9223372036854775808),.int .i64 9223372036854775807]) (by simp [results,Tryz.results216,go_sem]) rfl ⟨rfl,?_⟩
   exact ((Below.refl _ _).alloc (Nat.le_refl _) _).alloc (by simp) _
 have e0 : (t == 0) = false:=by simp [h0]
 have e3 : (t == 3) = false:=by simp [h3]
 have e9 : (t == 9) = false:=by simp [h9]
 have e8 : (t == 8) = false:=by simp [h8]
 have HV:=show Hid (spanV (lo t (isLg ps)) (hi t (isLg ps)) = spanV 0 2147483647) by
  show spanV (lo t (isLg ps)) (hi t (isLg ps)) = spanV 0 2147483647
  unfold lo hi
  rw [if_neg h8,if_neg (by omega),if_neg h9,if_neg h8]
 clear h0 h3 h9 h8
 go_enter Tryz.func216,Tryz.ntmps216
 go_wp2_with fail
 refine (indices33 _).mono ?_
 rintro e w1 ⟨rfl,hb⟩
 unfold spanV at *
 have c0 : w1.cell? ⟨w.heap.size + 1,0,none⟩ = some (.int .i64 0):=by rw [hb.cell (by simp)]; simp [go_sem]
 have c1 : w1.cell? ⟨w.heap.size + 1,1,none⟩ = some (.int .i64 0):=by rw [hb.cell (by simp)]; simp [go_sem]
 have f0 : w1.frozen? ⟨w.heap.size + 1,0,none⟩ = false:=by rw [hb.frozen (by simp)]; simp [go_sem]
 have f1 : w1.frozen? ⟨w.heap.size + 1,1,none⟩ = false:=by rw [hb.frozen (by simp)]; simp [go_sem]
 go_wp2
 refine bodyPost_ret (v:=.agg #[.int .i64 0,.int .i64 2147483647]) (by simp [results,Tryz.results216,go_sem,c0,c1]) rfl ⟨congrArg Ending.returned HV.out.symm,?_⟩
 exact ((((((Below.refl _ _).alloc (Nat.le_refl _) _).alloc (by simp) _).trans (hb.mono (by simp; omega))).setCell (by simp) _).setCell (by simp) _)
theorem counts32 (c t : Int) (wd pp ps : ByteArray) (pl : Bool) (w : World) :
  Calls Tryz.prog 218 #[.agg #[.int .u8 c,.string wd,.int .i8 t,.string pp,.string ps,.bool pl]] w fun e w' => e = .returned (if t = 3 then spanV 1 16 else spanV 0 0) ∧ Below w.heap.size w w':=by
 by_cases h3 : t = 3
 ·subst h3
  rw [if_pos rfl]
  go_enter Tryz.func218,Tryz.ntmps218
  go_wp2
  refine bodyPost_ret (v:=.agg #[.int .i64 1,.int .i64 16]) (by simp [results,Tryz.results218,go_sem]) rfl ⟨rfl,?_⟩
  exact ((Below.refl _ _).alloc (Nat.le_refl _) _).alloc (by simp) _
 ·rw [if_neg h3]
  have e3 : (t == 3) = false:=by simp [h3]
  clear h3
  go_enter Tryz.func218,Tryz.ntmps218
  go_wp2
  refine bodyPost_ret (v:=.agg #[.int .i64 0,.int .i64 0]) (by simp [results,Tryz.results218,go_sem]) rfl ⟨rfl,?_⟩
  exact ((Below.refl _ _).alloc (Nat.le_refl _) _).alloc (by simp) _
end Go.Proofs.YtepcmfegggdjfaaGreatDoor

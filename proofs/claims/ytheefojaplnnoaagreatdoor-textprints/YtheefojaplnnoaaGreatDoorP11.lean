/-
  Texts Of Ins Span Chk.
-/
import Derived.Below
import Derived.BigQuiet
import Derived.Deep.QuietTactic
import Derived.Deep.RegionHeld3
import Derived.Deep.RegionWith
import Derived.KernelRfl
import Derived.RowKit
import Derived.Test.YtheefojaplnnoaaGreatDoorProg
import Derived.WalkKit
import Derived.WalkLawsBesides
import Derived.WalkSpells
import Derived.Test.YtheefojaplnnoaaGreatDoorP00
import Derived.Test.YtheefojaplnnoaaGreatDoorP10
set_option linter.unusedVariables false
set_option maxRecDepth 100000
set_option maxHeartbeats 16000000
namespace Go.Proofs.YtheefojaplnnoaaGreatDoor
open Go.RowKit
def iI : aB:=(0,⟨#[]⟩,0,⟨#[]⟩,⟨#[]⟩,false)
def rv (x : aB) : Array Value:=cT x.1 x.2.1 x.2.2.1 x.2.2.2.1 x.2.2.2.2.1 x.2.2.2.2.2
def qJ (b : Nat) (x : aB) : List (Addr × Value):=[(⟨b,0,none⟩,.int .u8 x.1),(⟨b,1,none⟩,.string x.2.1),(⟨b,2,none⟩,.int .i8 x.2.2.1),(⟨b,3,none⟩,.string x.2.2.2.1),(⟨b,4,none⟩,.string x.2.2.2.2.1),(⟨b,5,none⟩,.bool x.2.2.2.2.2)]
theorem iJ {b : Nat} {x : aB} {W : World} (h : aD (qJ b x) W) :
  (W.cell? ⟨b,0,none⟩ = some (.int .u8 x.1) ∧ W.cell? ⟨b,1,none⟩ = some (.string x.2.1) ∧ W.cell? ⟨b,2,none⟩ = some (.int .i8 x.2.2.1) ∧ W.cell? ⟨b,3,none⟩ = some (.string x.2.2.2.1) ∧ W.cell? ⟨b,4,none⟩ = some (.string x.2.2.2.2.1) ∧ W.cell? ⟨b,5,none⟩ = some (.bool x.2.2.2.2.2)) ∧
  (W.frozen? ⟨b,0,none⟩ = false ∧ W.frozen? ⟨b,1,none⟩ = false ∧ W.frozen? ⟨b,2,none⟩ = false ∧ W.frozen? ⟨b,3,none⟩ = false ∧ W.frozen? ⟨b,4,none⟩ = false ∧ W.frozen? ⟨b,5,none⟩ = false):=by
 unfold qJ at h;exact ⟨⟨(h (⟨b,0,none⟩,_) aq).1,(h (⟨b,1,none⟩,_) aq).1,(h (⟨b,2,none⟩,_) aq).1,(h (⟨b,3,none⟩,_) aq).1,(h (⟨b,4,none⟩,_) aq).1,(h (⟨b,5,none⟩,_) aq).1⟩,
  (h _ (List.mem_cons_self ..)).2,(h (⟨b,1,none⟩,.string x.2.1) aq).2,(h (⟨b,2,none⟩,.int .i8 x.2.2.1) aq).2,(h (⟨b,3,none⟩,.string x.2.2.2.1) aq).2,(h (⟨b,4,none⟩,.string x.2.2.2.2.1) aq).2,(h (⟨b,5,none⟩,.bool x.2.2.2.2.2) aq).2⟩
theorem aD.later {cs : List (Addr × Value)} {n : Nat} {A B : World} (h : aD cs A) (hb : Below n A B) (hn : ∀ p ∈ cs,p.1.block < n) : aD cs B :=
 fun p hp => ⟨(hb.cell (hn p hp)).trans (h p hp).1,(hb.frozen (hn p hp)).trans (h p hp).2⟩
def IK (i : Nat) (c : Int) : aB:=(c,lh (kF i) c (kA i) (cK (kW i)),se c,(pR c).1,(pR c).2,uq c)
def sw : Nat → Nat → Int → aB × Bool
 | 0,_,_ => (iI,false)
 | n + 1,i,c => if kF i ≤ c ∧ c ≤ kL i then (IK i c,true) else sw n (i + 1) c
def ofV (c : Int) : aB × Bool:=sw 7 0 c
theorem of6 (c : Int) (w : World) (hk : aX w) (h0 : 0 ≤ c) (h1 : c ≤ 255) : Calls Tryz.prog 178 #[.int .u8 c] w fun e w' => e = .returned (.tuple #[.agg (rv (ofV c).1),.bool (ofV c).2]) ∧ Below w.heap.size w w':=by
 obtain ⟨V,hV⟩ : ∃ V,ofV c = V:=⟨_,rfl⟩;rw [hV]
 go_enter Tryz.func178,Tryz.ntmps178
 refine wp_seq_k fun K1 hK1 => wp_region_lit ?_
 refine eA rfl (v:=.pointer (some ⟨w.heap.size,0,none⟩)) (w':=w.alloc (fH 0 ⟨#[]⟩ 0 ⟨#[]⟩ ⟨#[]⟩ false)) cu ?_;refine eA rfl (v:=.bool false) (w':=w.alloc (fH 0 ⟨#[]⟩ 0 ⟨#[]⟩ ⟨#[]⟩ false)) cu ?_;refine wpList_nil (hK1 _ _ ?_);clear hK1;have hb : Below w.heap.size w (w.alloc (fH 0 ⟨#[]⟩ 0 ⟨#[]⟩ ⟨#[]⟩ false)):=(Below.refl _ w).alloc (Nat.le_refl _) _
 have hc : aD (qJ w.heap.size iI) (w.alloc (fH 0 ⟨#[]⟩ 0 ⟨#[]⟩ ⟨#[]⟩ false)):=by
  unfold qJ iI
  refine aD.cons ?_ ?_ (aD.cons ?_ ?_ (aD.cons ?_ ?_ (aD.cons ?_ ?_ (aD.cons ?_ ?_ (aD.cons ?_ ?_ jt))))) <;> simp [go_sem]
 refine wp_seq_k fun K2 hK2 => wp_seq_k fun K3 hK3 => wp_region_lit ?_
 refine eA rfl (qU (hk.later hb hk.pos) _ _ _ _ _) ?_;obtain ⟨kv,hkv⟩ : ∃ kv,n9 = kv:=⟨_,rfl⟩;rw [hkv]
 have run_kind' : ∀ (w : World) (i : Nat) (hi : i < 7),(Instr.index 288 kv (.int .i64 i)).run Tryz.prog w = .ok (.agg #[.int .u8 (kF i),.int .u8 (kL i),.string (kA i),.string (kW i)]) w:=fun w i hi => hkv ▸ vd i hi
 have HK:=hid run_kind';clear run_kind' hkv;go_wp2_with fail
 go_loopw [9] (fun p wr => ∃ i : Nat,p = .int .i64 i ∧ i ≤ 7 ∧ Below w.heap.size w wr ∧ aD (qJ w.heap.size iI) wr ∧ sw (7 - i) i c = V) (fun p wr => 7 - (intOf p).toNat)
 case atStart => exact ⟨0,rfl,av,hb,hc,hV⟩
 case round =>
  clear hb hc hV;obtain ⟨i,rfl,hi,hB,hR,hV⟩:=hrel
  by_cases h7 : i = 7
  ·subst h7;have hx : V = (iI,false):=hV.symm;subst hx;obtain ⟨⟨d0,d1,d2,d3,d4,d5⟩,e0,e1,e2,e3,e4,e5⟩:=iJ hR;go_wp2_with fail;refine bodyPost_ret (v:=.tuple #[.agg (rv iI),.bool false]) ?_ rfl ⟨rfl,?_⟩
   ·rw [results_cell_tmp rfl];go_simp;rfl
   ·exact (((((hB.setCell (p:=⟨w.heap.size,0,none⟩) aq _).setCell (p:=⟨w.heap.size,1,none⟩) aq _).setCell (p:=⟨w.heap.size,2,none⟩) aq _).setCell (p:=⟨w.heap.size,3,none⟩) aq _).setCell (p:=⟨w.heap.size,4,none⟩) aq _).setCell (p:=⟨w.heap.size,5,none⟩) aq _
  have hlt : (i : Int) < 7:=ae;have hix:=HK.out wr i ae;obtain ⟨f0,f1,f2,f3,f4,f5⟩:=lN i ae
  have HF:=hid ((MW (kF i) (kL i) c (kA i) (kW i) · f0 f3 f4 f5))
  obtain ⟨n,hn⟩ : ∃ n,7 - i = n + 1:=⟨6 - i,ae⟩;rw [hn,sw] at hV;have hwd : (IK i c).2.1 = lh (kF i) c (kA i) (cK (kW i)):=rfl;generalize lh (kF i) c (kA i) (cK (kW i)) = wd at HF hwd
  by_cases hin : kF i ≤ c ∧ c ≤ kL i
  ·obtain ⟨g1,g2⟩:=hin;rw [if_pos ⟨g1,g2⟩] at hV;generalize kF i = f at *;generalize kL i = l at *;generalize kA i = a at *;generalize kW i = ws at *;go_wp2_with fail;refine (Fv c _ h0 h1).mono ?_;rintro e w2 ⟨rfl,rfl⟩;go_wp2_with fail;refine (HF.out _).mono ?_;rintro e w3 ⟨rfl,hb3⟩;go_wp2_with fail;refine (Jk c w3).mono ?_;rintro e w4 ⟨rfl,rfl⟩;go_wp2_with fail;refine (KD c w4).mono ?_;rintro e w5 ⟨rfl,rfl⟩;have hwr : w.heap.size < wr.heap.size:=World.block_lt_of_cell? wr ⟨w.heap.size,0,none⟩ (iJ hR).1.1
   have hR3 : aD (qJ w.heap.size iI) w5:=(hR.grown (World.grownBy_alloc wr _ none) (fun r e => dY)).later hb3 (by simp [qJ]; omega)
   have hB3 : Below w.heap.size w w5:=(hB.alloc hB.size _).trans (hb3.mono aG);clear hb3 hR;obtain ⟨⟨d0,d1,d2,d3,d4,d5⟩,e0,e1,e2,e3,e4,e5⟩:=iJ hR3;go_wp2_with fail;subst hV
   refine bodyPost_ret (v:=.tuple #[.agg #[.int .u8 c,.string wd,.int .i8 (se c),.string (pR c).1,.string (pR c).2,.bool (uq c)],.bool true]) ?_ rfl ⟨by rw [← hwd]; rfl,?_⟩
   ·exact kN
   ·exact (((((hB3.setCell (p:=⟨w.heap.size,0,none⟩) aq _).setCell (p:=⟨w.heap.size,1,none⟩) aq _).setCell (p:=⟨w.heap.size,2,none⟩) aq _).setCell (p:=⟨w.heap.size,3,none⟩) aq _).setCell (p:=⟨w.heap.size,4,none⟩) aq _).setCell (p:=⟨w.heap.size,5,none⟩) aq _
  ·rw [if_neg hin] at hV;have hwr : w.heap.size < wr.heap.size:=World.block_lt_of_cell? wr ⟨w.heap.size,0,none⟩ (iJ hR).1.1
   have hR2:=hid (hR.grown (World.grownBy_alloc wr (nr (kF i) (kL i) (kA i) (kW i)) none) (fun r e => dY))
   have hB2:=hid (hB.alloc hB.size (nr (kF i) (kL i) (kA i) (kW i)));have hV2:=hid hV;clear hV hR hB;have hw : wrap64 ((i : Int) + 1) = i + 1:=cQ;clear HF hwd f0 f1 f2 f3 f4 f5;generalize kF i = f at *;generalize kL i = l at *;generalize kA i = a at *;generalize kW i = ws at *
   by_cases hlow : c < f
   ·exact F7
   ·have hhigh : l < c:=ae;exact F7
def lo (t : Int) (g : Bool) : Int:=if t = 8 then (if g = true then -9223372036854775808 else -2147483648) else 0
def hi (t : Int) (g : Bool) : Int :=
 if t = 0 ∨ t = 3 then 0 else if t = 9 then 4294967295 else if t = 8 then (if g = true then 9223372036854775807 else 2147483647) else 2147483647
theorem mN (t : Int) (g : Bool) : -9223372036854775808 ≤ lo t g ∧ lo t g ≤ 0:=by
 unfold lo; split
 ·split <;> omega
 ·omega
theorem mW (t : Int) (g : Bool) : 0 ≤ hi t g ∧ hi t g ≤ 9223372036854775807 ∧ (t ≠ 8 → hi t g ≤ 4294967295 ∧ lo t g = 0):=by
 unfold hi lo
 split
 ·refine ⟨ae,ae,fun h => ?_⟩
  rw [if_neg h]; omega
 ·split
  ·refine ⟨ae,ae,fun h => ?_⟩
   rw [if_neg h]; omega
  ·split
   ·refine ⟨by split <;> omega,by split <;> omega,fun h => ae⟩
   ·refine ⟨ae,ae,fun h => ?_⟩
    omega
def okL : List Int → Prop
 | [] => True
 | z :: l => (0 ≤ z ∧ z ≤ 2147483647) ∧ okL l
instance decOkL : (l : List Int) → Decidable (okL l)
 | [] => .isTrue trivial
 | z :: l => match decOkL l with
  | .isTrue h => if hz : 0 ≤ z ∧ z ≤ 2147483647 then .isTrue ⟨hz,h⟩ else .isFalse fun x => hz x.1
  | .isFalse h => .isFalse fun x => h x.2
theorem uw : ∀ (l : List Int),okL l ↔ ∀ z ∈ l,0 ≤ z ∧ z ≤ 2147483647
 | [] => by simp [okL]
 | z :: l => by simp [okL,uw l]
def chk (t : Int) (g : Bool) (a : Int) (l : List Int) : Int :=
 if t = -1 then 21
 else if a < lo t g ∨ hi t g < a then 17
 else if t = 3 then (if l.length < 1 ∨ 16 < l.length then 17 else if okL l then 0 else 17)
 else if l.length = 0 then 0 else 17
def dG : List Int → List Int
 | [] => []
 | z :: l => au z ++ dG l
def wh (t a : Int) (l : List Int) : List Int :=
 if t = 0 then [] else if t = 8 then au (fo a) else if t = 3 then au l.length ++ dG l else au a
theorem ml : ∀ (l : List Int),(dG l).length ≤ 10 * l.length
 | [] => by simp [dG]
 | z :: l => by
  have:=ml l
  have:=ay z
  simp only [dG,List.length_append,List.length_cons]; omega
theorem Lq (f : Nat) : ∀ (v : Int),0 ≤ v → v < 128 ^ f * 256 → ∀ z ∈ uv f v,0 ≤ z ∧ z ≤ 255:=by
 induction f with
 | zero => intro v h0 h1 z hz; simp [uv] at hz; simp at h1; omega
 | succ f ih =>
  intro v h0 h1 z hz
  by_cases h : v < 128
  ·simp [uv,h] at hz; omega
  ·simp only [uv,h,if_false,List.mem_cons] at hz
   rcases hz with rfl | hz
   ·omega
   ·refine ih (v / 128) ae ?_ z hz;have hs : (128 : Int) ^ (f + 1) = 128 ^ f * 128:=Int.pow_succ _ _;rw [hs] at h1;generalize (128 : Int) ^ f = X at h1 ⊢;omega
theorem mR (v : Int) (h0 : 0 ≤ v) (h1 : v < 18446744073709551616) : ∀ z ∈ au v,0 ≤ z ∧ z ≤ 255:=by
 have e : (128 : Int) ^ 9 = 9223372036854775808:=av;refine Lq 9 v h0 ?_
 rw [e]; omega
theorem vK : ∀ (l : List Int),okL l → ∀ z ∈ dG l,0 ≤ z ∧ z ≤ 255
 | [],_,z,hz => by simp [dG] at hz
 | y :: l,h,z,hz => by
  simp only [dG,List.mem_append] at hz
  rcases hz with hz | hz
  ·exact mR y h.1.1 (by have:=h.1.2; omega) z hz
  ·exact vK l h.2 z hz
theorem lQ {t : Int} {g : Bool} {a : Int} {l : List Int} (h : chk t g a l = 0) :
  t ≠ -1 ∧ lo t g ≤ a ∧ a ≤ hi t g ∧ (t = 3 → 1 ≤ l.length ∧ l.length ≤ 16 ∧ okL l) ∧ (t ≠ 3 → l = []):=by
 unfold chk at h
 by_cases h1 : t = -1
 ·rw [if_pos h1] at h; omega
 rw [if_neg h1] at h
 by_cases h2 : a < lo t g ∨ hi t g < a
 ·rw [if_pos h2] at h; omega
 rw [if_neg h2] at h
 by_cases h3 : t = 3
 ·rw [if_pos h3] at h
  by_cases h4 : l.length < 1 ∨ 16 < l.length
  ·rw [if_pos h4] at h; omega
  rw [if_neg h4] at h
  by_cases h5 : okL l
  ·exact ⟨h1,ae,ae,fun _ => ⟨ae,ae,h5⟩,fun h => absurd h3 h⟩
  ·rw [if_neg h5] at h; omega
 ·rw [if_neg h3] at h
  by_cases h4 : l.length = 0
  ·exact ⟨h1,ae,ae,fun h => absurd h h3,fun _ => List.eq_nil_of_length_eq_zero h4⟩
  ·rw [if_neg h4] at h; omega
theorem wR (t a : Int) (l : List Int) (h : l.length ≤ 16) : (wh t a l).length ≤ 170:=by
 unfold wh
 split
 ·simp
 ·split
  ·have:=ay (fo a); omega
  ·split
   ·have:=ay l.length
    have:=ml l
    rw [List.length_append]; omega
   ·have:=ay a; omega
theorem Gf {t : Int} {g : Bool} {a : Int} {l : List Int} (h : chk t g a l = 0) : ∀ z ∈ wh t a l,0 ≤ z ∧ z ≤ 255:=by
 obtain ⟨h1,h2,h3,h4,h5⟩:=lQ h;have hl:=mN t g;have hh:=mW t g;intro z hz;unfold wh at hz
 by_cases t0 : t = 0
 ·rw [if_pos t0] at hz; simp at hz
 rw [if_neg t0] at hz
 by_cases t8 : t = 8
 ·rw [if_pos t8] at hz
  have:=kG a ae ae
  exact mR _ this.1 this.2 z hz
 rw [if_neg t8] at hz
 by_cases t3 : t = 3
 ·rw [if_pos t3] at hz;obtain ⟨a1,a2,a3⟩:=h4 t3
  rcases List.mem_append.1 hz with hz | hz
  ·exact mR _ ae ae z hz
  ·exact vK l a3 z hz
 ·rw [if_neg t3] at hz
  have:=hh.2.2 t8
  exact mR _ ae ae z hz
def jR (a b : Int) : Value:=.agg #[.int .i64 a,.int .i64 b]
def inB (a b v : Int) : Bool:=decide (a ≤ v ∧ v ≤ b)
theorem Kz {a b v : Int} (h1 : a ≤ v) (h2 : v ≤ b) : inB a b v = true:=by unfold inB; simp [h1,h2]
theorem FK {a b v : Int} (h : v < a ∨ b < v) : inB a b v = false:=by unfold inB; simp; omega
theorem mS (a b v : Int) (w : World) : Calls Tryz.prog 315 #[jR a b,.int .i64 v] w fun e w' => e = .returned (.bool (inB a b v)) ∧ Below w.heap.size w w':=by
 unfold jR
 by_cases h1 : a ≤ v
 ·by_cases h2 : v ≤ b
  ·have HR:=show Hid _ from Kz h1 h2;exact rZ
  ·have HR:=show Hid _ from FK (a:=a) (.inr (by omega : b < v))
   exact rZ
 ·have HR:=show Hid _ from FK (b:=b) (.inl (by omega : v < a))
  exact rZ
theorem og (w : World) : Calls Tryz.prog 316 #[] w fun e w' => e = .returned (jR 0 2147483647) ∧ Below w.heap.size w w':=by
 go_enter Tryz.func316,Tryz.ntmps316
 go_wp2
 refine bodyPost_ret (v:=.agg #[.int .i64 0,.int .i64 2147483647]) (by simp [results,Tryz.results316,go_sem]) rfl ⟨rfl,?_⟩
 exact (Below.refl _ _).alloc (Nat.le_refl _) _
def dS (ps : ByteArray) : Bool:=decide (ps = ⟨#[108]⟩)
theorem yw (ps : ByteArray) : (ps.toList == [108]) = dS ps:=by
 rw [ByteArray.toList_eq];unfold dS
 by_cases h : ps = ⟨#[108]⟩
 ·simp [h]
 ·rw [decide_eq_false h,beq_eq_false_iff_ne];intro e
  apply h
  cases ps with
  | mk d =>
   have e2 : d.toList = (#[108] : Array UInt8).toList:=e;rw [Array.toList_inj.1 e2]
theorem oa (c t : Int) (wd pp ps : ByteArray) (pl : Bool) (w : World) :
  Calls Tryz.prog 314 #[.agg #[.int .u8 c,.string wd,.int .i8 t,.string pp,.string ps,.bool pl]] w fun e w' => e = .returned (jR (lo t (dS ps)) (hi t (dS ps))) ∧ Below w.heap.size w w':=by
 by_cases h0 : t = 0
 ·subst h0;exact Gn
 by_cases h3 : t = 3
 ·subst h3;exact Gn
 by_cases h9 : t = 9
 ·subst h9
  go_enter Tryz.func314,Tryz.ntmps314
  go_wp2;refine bodyPost_ret (v:=.agg #[.int .i64 0,.int .i64 4294967295]) ui rfl ⟨rfl,?_⟩;exact mJ
 by_cases h8 : t = 8
 ·subst h8;have hl:=yw ps
  cases hb : dS ps
  ·rw [hb] at hl
   go_enter Tryz.func314,Tryz.ntmps314
   go_wp2;refine bodyPost_ret (v:=.agg #[.int .i64 (-2147483648),.int .i64 2147483647]) ui rfl ⟨rfl,?_⟩;exact mJ
  ·rw [hb] at hl
   go_enter Tryz.func314,Tryz.ntmps314
   go_wp2;refine bodyPost_ret (v:=.agg #[.int .i64 (-9223372036854775808),.int .i64 9223372036854775807]) ui rfl ⟨rfl,?_⟩;exact mJ
 have e0 : (t == 0) = false:=by simp [h0]
 have e3 : (t == 3) = false:=by simp [h3]
 have e9 : (t == 9) = false:=by simp [h9]
 have e8 : (t == 8) = false:=by simp [h8]
 have HV:=show Hid (jR (lo t (dS ps)) (hi t (dS ps)) = jR 0 2147483647) by
  show jR (lo t (dS ps)) (hi t (dS ps)) = jR 0 2147483647
  unfold lo hi;rw [if_neg h8,if_neg ae,if_neg h9,if_neg h8]
 clear h0 h3 h9 h8
 go_enter Tryz.func314,Tryz.ntmps314
 go_wp2_with fail;refine (og _).mono ?_;rintro e w1 ⟨rfl,hb⟩;unfold jR at *
 have c0 : w1.cell? ⟨w.heap.size + 1,0,none⟩ = some (.int .i64 0):=by rw [hb.cell aq]; simp [go_sem]
 have c1 : w1.cell? ⟨w.heap.size + 1,1,none⟩ = some (.int .i64 0):=by rw [hb.cell aq]; simp [go_sem]
 have f0 : w1.frozen? ⟨w.heap.size + 1,0,none⟩ = false:=by rw [hb.frozen aq]; simp [go_sem]
 have f1 : w1.frozen? ⟨w.heap.size + 1,1,none⟩ = false:=by rw [hb.frozen aq]; simp [go_sem]
 go_wp2
 refine bodyPost_ret (v:=.agg #[.int .i64 0,.int .i64 2147483647]) (by simp [results,Tryz.results314,go_sem,c0,c1]) rfl ⟨congrArg Ending.returned HV.out.symm,?_⟩
 exact ((((((Below.refl _ _).alloc (Nat.le_refl _) _).alloc aq _).trans (hb.mono aG)).setCell aq _).setCell aq _)
theorem Hx (c t : Int) (wd pp ps : ByteArray) (pl : Bool) (w : World) :
  Calls Tryz.prog 312 #[.agg #[.int .u8 c,.string wd,.int .i8 t,.string pp,.string ps,.bool pl]] w fun e w' => e = .returned (if t = 3 then jR 1 16 else jR 0 0) ∧ Below w.heap.size w w':=by
 by_cases h3 : t = 3
 ·subst h3;rw [if_pos rfl]
  go_enter Tryz.func312,Tryz.ntmps312
  go_wp2
  refine bodyPost_ret (v:=.agg #[.int .i64 1,.int .i64 16]) (by simp [results,Tryz.results312,go_sem]) rfl ⟨rfl,?_⟩
  exact mJ
 ·rw [if_neg h3]
  have e3 : (t == 3) = false:=by simp [h3]
  clear h3
  go_enter Tryz.func312,Tryz.ntmps312
  go_wp2
  refine bodyPost_ret (v:=.agg #[.int .i64 0,.int .i64 0]) (by simp [results,Tryz.results312,go_sem]) rfl ⟨rfl,?_⟩
  exact mJ
def tkV (c : Int) : Int:=if (ofV c).2 = true then (ofV c).1.2.2.1 else -1
def lgV (c : Int) : Bool:=dS (ofV c).1.2.2.2.2.1
def fe (w : World) (a : Option Addr) (n cap : Nat) (l : List Int) : Prop :=
 l.length = n ∧ n ≤ cap ∧ n ≤ 1099511627776 ∧ (∀ z ∈ l,-9223372036854775808 ≤ z ∧ z ≤ 9223372036854775807) ∧
 (n = 0 ∨ ∃ b off,a = some ⟨b,off,none⟩ ∧ ∀ j,j < n → w.cell? ⟨b,off + j,none⟩ = some (.int .i64 (l.getD j 0)))
theorem fe.later {w w' : World} {a : Option Addr} {n cap : Nat} {l : List Int} {B : Nat} (h : fe w a n cap l) (hb : Below B w w') (hB : w.heap.size ≤ B) : fe w' a n cap l:=by
 exact yJ
def iH (c a : Int) (s : Value) : Value:=.agg #[.int .u8 c,.int .i64 a,s]
theorem fp {X Y : Nat} {c a rc t : Int} {la : Option Addr} {ln lc : Nat} {wd pp ps : ByteArray} {pl : Bool} {w2 W W' : World} (hb : Below W.heap.size W W')
  (h : W.cell? ⟨X,0,none⟩ = some (.int .u8 c) ∧ W.cell? ⟨X,1,none⟩ = some (.int .i64 a) ∧ W.cell? ⟨X,2,none⟩ = some (.slice la ln lc) ∧ W.cell? ⟨Y,0,none⟩ = some (.int .u8 rc) ∧ W.cell? ⟨Y,1,none⟩ = some (.string wd) ∧ W.cell? ⟨Y,2,none⟩ = some (.int .i8 t) ∧ W.cell? ⟨Y,3,none⟩ = some (.string pp) ∧ W.cell? ⟨Y,4,none⟩ = some (.string ps) ∧ W.cell? ⟨Y,5,none⟩ = some (.bool pl) ∧ Below w2.heap.size w2 W) :
  W'.cell? ⟨X,0,none⟩ = some (.int .u8 c) ∧ W'.cell? ⟨X,1,none⟩ = some (.int .i64 a) ∧ W'.cell? ⟨X,2,none⟩ = some (.slice la ln lc) ∧ W'.cell? ⟨Y,0,none⟩ = some (.int .u8 rc) ∧ W'.cell? ⟨Y,1,none⟩ = some (.string wd) ∧ W'.cell? ⟨Y,2,none⟩ = some (.int .i8 t) ∧ W'.cell? ⟨Y,3,none⟩ = some (.string pp) ∧ W'.cell? ⟨Y,4,none⟩ = some (.string ps) ∧ W'.cell? ⟨Y,5,none⟩ = some (.bool pl) ∧ Below w2.heap.size w2 W':=by
 obtain ⟨h0,h1,h2,h3,h4,h5,h6,h7,h8,h9⟩:=h;have hX:=block_lt_of_cell h0;have hY:=block_lt_of_cell h3
 exact ⟨(hb.cell (by simpa using hX)).trans h0,(hb.cell (by simpa using hX)).trans h1,(hb.cell (by simpa using hX)).trans h2,(hb.cell nB).trans h3,(hb.cell nB).trans h4,
  (hb.cell nB).trans h5,(hb.cell nB).trans h6,(hb.cell nB).trans h7,(hb.cell nB).trans h8,h9.trans (hb.mono h9.size)⟩
theorem vD {g : Bool} {a : Int} {l : List Int} : chk (-1) g a l = 21:=by unfold chk; rw [if_pos rfl]
theorem wN (l : List Int) (k : Nat) (hk : k < l.length) : okL (l.drop k) ↔ (0 ≤ l.getD k 0 ∧ l.getD k 0 ≤ 2147483647) ∧ okL (l.drop (k + 1)):=by
 rw [List.drop_eq_getElem_cons hk]
 simp [okL,hk]
theorem Eo (l : List Int) (hr : ∀ z ∈ l,-9223372036854775808 ≤ z ∧ z ≤ 9223372036854775807) (j : Nat) : -9223372036854775808 ≤ l.getD j 0 ∧ l.getD j 0 ≤ 9223372036854775807:=by
 by_cases h : j < l.length
 ·simp only [List.getD_eq_getElem?_getD,aN h,Option.getD_some]; exact hr _ (List.getElem_mem h)
 ·simp only [List.getD_eq_getElem?_getD,List.getElem?_eq_none (by omega : l.length ≤ j),Option.getD_none]; omega
def cLo (t : Int) : Int:=if t = 3 then 1 else 0
def cHi (t : Int) : Int:=if t = 3 then 16 else 0
theorem FV {t : Int} {g : Bool} {a : Int} {l : List Int} (ht : t ≠ -1) (h1 : inB (lo t g) (hi t g) a = true) (h2 : inB (cLo t) (cHi t) l.length = true) :
  chk t g a l = if okL l then 0 else 17:=by
 unfold inB cLo cHi at *;have h1:=of_decide_eq_true h1;have h2:=of_decide_eq_true h2;unfold chk;rw [if_neg ht,if_neg ae]
 by_cases h3 : t = 3
 ·rw [if_pos h3] at *;rw [if_pos h3] at h2;rw [if_neg ae]
 ·rw [if_neg h3] at *;rw [if_neg h3] at h2;have : l = []:=List.eq_nil_of_length_eq_zero ae;subst this;rfl
theorem Ae {t : Int} {g : Bool} {a : Int} {l : List Int} (ht : t ≠ -1) (h : inB (lo t g) (hi t g) a = false ∨ inB (cLo t) (cHi t) l.length = false) : chk t g a l = 17:=by
 unfold inB cLo cHi at h;unfold chk;rw [if_neg ht]
 by_cases ha : a < lo t g ∨ hi t g < a
 ·rw [if_pos ha]
 rw [if_neg ha]
 have h : ¬ ((if t = 3 then 1 else 0 : Int) ≤ l.length ∧ (l.length : Int) ≤ (if t = 3 then 16 else 0 : Int)):=by
  rcases h with h | h
  ·exact absurd (of_decide_eq_false h) ae
  ·exact of_decide_eq_false h
 by_cases h3 : t = 3
 ·rw [if_pos h3] at h ⊢;rw [if_pos h3] at h;rw [if_pos ae]
 ·rw [if_neg h3] at h ⊢;rw [if_neg h3] at h;rw [if_neg ae]
theorem KJ (c : Int) (h0 : 0 ≤ c) (h1 : c ≤ 255) : ((ofV c).1.2.2.1 ≠ -1):=by
 obtain ⟨n,rfl⟩:=Int.eq_ofNat_of_zero_le h0
 have hall : ((List.range 256).all fun (n : Nat) => decide ((ofV (n : Int)).1.2.2.1 ≠ -1)) = true:=nW
 exact of_decide_eq_true (List.all_eq_true.1 hall n (List.mem_range.2 ae))
theorem mj (c t : Int) (wd pp ps : ByteArray) (pl : Bool) (w : World) :
  Calls Tryz.prog 312 #[.agg #[.int .u8 c,.string wd,.int .i8 t,.string pp,.string ps,.bool pl]] w fun e w' => e = .returned (jR (cLo t) (cHi t)) ∧ Below w.heap.size w w':=by
 refine (Hx c t wd pp ps pl w).mono fun e w' ⟨he,hb⟩ => ⟨?_,hb⟩
 rw [he];unfold cLo cHi
 by_cases h : t = 3
 ·rw [if_pos h,if_pos h,if_pos h]
 ·rw [if_neg h,if_neg h,if_neg h]
theorem zQ (c a : Int) (la : Option Addr) (ln lc : Nat) (l : List Int) (w : World) (hk : aX w) (h0 : 0 ≤ c) (h1 : c ≤ 255) (hl : fe w la ln lc l) :
  Calls Tryz.prog 330 #[iH c a (.slice la ln lc)] w fun e w' => e = .returned (.int .i64 (chk (tkV c) (lgV c) a l)) ∧ Below w.heap.size w w':=by
 have hof:=hid (fun W hW => of6 c W hW h0 h1)
 have hne:=KJ c h0 h1;unfold tkV lgV iH;generalize ofV c = V at *;obtain ⟨⟨rc,wd,t,pp,ps,pl⟩,fnd⟩:=V
 simp only [rv,cT] at hof hne ⊢
 have HL:=hid hl;have hln:=hl.2.2.1;have hlen:=hl.1;clear hl;have hb0 : Below w.heap.size w (w.alloc (aH c a la ln lc)):=(Below.refl _ _).alloc (Nat.le_refl _) _;have HO:=hid (hof.out _ (hk.later hb0 hk.pos));clear hof
 cases fnd
 ·go_enter Tryz.func330,Tryz.ntmps330
  go_wp2_with fail;refine HO.out.mono ?_;rintro e w1 ⟨rfl,hb1⟩;go_wp2;go_ret;refine ⟨?_,?_⟩
  ·rw [vD]; rfl
  ·exact (hb0.trans (hb1.mono aq)).alloc qA _
 simp only [if_true]
 go_enter Tryz.func330,Tryz.ntmps330
 go_wp2_with fail;refine HO.out.mono ?_;rintro e w1 ⟨rfl,hb1⟩;have x0 : w1.cell? ⟨w.heap.size,0,none⟩ = some (.int .u8 c):=aY;have x1 : w1.cell? ⟨w.heap.size,1,none⟩ = some (.int .i64 a):=aY;have x2 : w1.cell? ⟨w.heap.size,2,none⟩ = some (.slice la ln lc):=aY;have hx:=block_lt_of_cell x0;have B1:=hid (hb0.trans (hb1.mono aq));clear hb1;go_wp2_with fail;obtain ⟨w2,hw2⟩ : ∃ w2,w1.alloc (fH rc wd t pp ps pl) = w2:=⟨_,rfl⟩;rw [hw2]
 have B2:=hid (show Below w.heap.size w w2 by rw [← hw2]; exact B1.out.alloc eN _)
 have y : w2.cell? ⟨w.heap.size,0,none⟩ = some (.int .u8 c) ∧ w2.cell? ⟨w.heap.size,1,none⟩ = some (.int .i64 a) ∧ w2.cell? ⟨w.heap.size,2,none⟩ = some (.slice la ln lc) ∧ w2.cell? ⟨w1.heap.size,0,none⟩ = some (.int .u8 rc) ∧ w2.cell? ⟨w1.heap.size,1,none⟩ = some (.string wd) ∧ w2.cell? ⟨w1.heap.size,2,none⟩ = some (.int .i8 t) ∧ w2.cell? ⟨w1.heap.size,3,none⟩ = some (.string pp) ∧ w2.cell? ⟨w1.heap.size,4,none⟩ = some (.string ps) ∧ w2.cell? ⟨w1.heap.size,5,none⟩ = some (.bool pl) ∧ Below w2.heap.size w2 w2:=by
  rw [← hw2];refine ⟨?_,?_,?_,?_,?_,?_,?_,?_,?_,(Below.refl _ _)⟩
  ·rw [World.cell?_alloc_past _ _ _ hx]; exact x0
  ·rw [World.cell?_alloc_past _ _ _ hx]; exact x1
  ·rw [World.cell?_alloc_past _ _ _ hx]; exact x2
  all_goals simp [go_sem]
 clear hw2 x0 x1 x2 B1 HO hb0;have yd:=y;obtain ⟨y0,y1,y2,y3,y4,y5,y6,y7,y8,_⟩:=y
 have hwrap : IntKind.i64.wrap (ln : Int) = ln:=by simp [IntKind.wrap,IntKind.bits,IntKind.signed]; omega
 by_cases hA : inB (lo t (dS ps)) (hi t (dS ps)) a = true
 ·by_cases hC : inB (cLo t) (cHi t) l.length = true
  ·have HV:=hid (FV (a:=a) (l:=l) hne hA hC);rw [hlen] at hC
   go_region_held3 (fun W => W.cell? ⟨w.heap.size,0,none⟩ = some (.int .u8 c) ∧ W.cell? ⟨w.heap.size,1,none⟩ = some (.int .i64 a) ∧ W.cell? ⟨w.heap.size,2,none⟩ = some (.slice la ln lc) ∧ W.cell? ⟨w1.heap.size,0,none⟩ = some (.int .u8 rc) ∧ W.cell? ⟨w1.heap.size,1,none⟩ = some (.string wd) ∧ W.cell? ⟨w1.heap.size,2,none⟩ = some (.int .i8 t) ∧ W.cell? ⟨w1.heap.size,3,none⟩ = some (.string pp) ∧ W.cell? ⟨w1.heap.size,4,none⟩ = some (.string ps) ∧ W.cell? ⟨w1.heap.size,5,none⟩ = some (.bool pl) ∧ Below w2.heap.size w2 W)
    (first | assumption | (refine fp ?_ ?_ <;> assumption) | (exact ⟨y0,y1,y2,y3,y4,y5,y6,y7,y8,(Below.refl _ _).drew⟩))
    (first
     | (go_at_call 314; refine (oa rc t wd pp ps pl _).mono ?_; rintro e w' ⟨rfl,hbx⟩; have hS':=fp (X:=w.heap.size) (Y:=w1.heap.size) (w2:=w2) hbx kI; clear hbx)
     | (go_at_call 312; refine (mj rc t wd pp ps pl _).mono ?_; rintro e w' ⟨rfl,hbx⟩; have hS':=fp (X:=w.heap.size) (Y:=w1.heap.size) (w2:=w2) hbx kI; clear hbx)
     | (go_at_call 315; refine (mS _ _ _ _).mono ?_; rintro e w' ⟨rfl,hbx⟩; have hS':=fp (X:=w.heap.size) (Y:=w1.heap.size) (w2:=w2) hbx kI; clear hbx))
   have B3:=hid (B2.out.trans (hS'.2.2.2.2.2.2.2.2.2.mono B2.out.size));have z2:=hS'.2.2.1;clear hS' yd y0 y1 y2 y3 y4 y5 y6 y7 y8 hC hA;go_wp2_with fail
   go_loopw [33] (fun i wr => ∃ k : Nat,k ≤ ln ∧ i = .int .i64 k ∧ Below w.heap.size w wr ∧ (okL l ↔ okL (l.drop k))) (fun i _ => ln - (intOf i).toNat)
   case atStart => exact ⟨0,Nat.zero_le _,rfl,B3.out,aq⟩
   case round =>
    obtain ⟨k,hk,rfl,hb,hok⟩:=hrel;have HB:=hid hb;have HK:=hid hok;clear hb hok B3 z2
    by_cases hlt : k < ln
    ·rcases HL.out.2.2.2.2 with hz | ⟨b,off,rfl,hc⟩
     ·omega
     have hcell : wr.cell? ⟨b,off + k,none⟩ = some (.int .i64 (l.getD k 0)):=(HB.out.cell (p:=⟨b,off + k,none⟩) (block_lt_of_cell (hc k hlt))).trans (hc k hlt);have hd:=wN l k ae;have hrz:=Eo l HL.out.2.2.2.1 k;generalize l.getD k 0 = z at *;have HD:=hid hd;clear hd hc
     by_cases hin : inB 0 2147483647 z = true
     ·go_wp2_with fail;refine (og _).mono ?_;rintro e w3 ⟨rfl,hb3⟩;go_wp2_with fail;refine (mS _ _ _ _).mono ?_;rintro e w4 ⟨rfl,hb4⟩;go_wp2_with fail;have hz2:=of_decide_eq_true hin
      exact ⟨⟨k + 1,ae,bB,(HB.out.trans (hb3.mono HB.out.size)).trans (hb4.mono (Nat.le_trans HB.out.size hb3.size)),by rw [HK.out,HD.out]; simp [hz2]⟩,bD⟩
     ·have hin' : inB 0 2147483647 z = false:=by simpa using hin
      clear hin;go_wp2_with fail;refine (og _).mono ?_;rintro e w3 ⟨rfl,hb3⟩;go_wp2_with fail;refine (mS _ _ _ _).mono ?_;rintro e w4 ⟨rfl,hb4⟩;go_wp2_with fail;go_ret;have hz2:=of_decide_eq_false hin';refine ⟨?_,(HB.out.trans (hb3.mono HB.out.size)).trans (hb4.mono (Nat.le_trans HB.out.size hb3.size))⟩
      rw [HV.out,if_neg (by rw [HK.out,HD.out]; exact fun h => hz2 h.1)]
      rfl
    ·go_wp2_with fail;go_ret;refine ⟨?_,HB.out⟩;rw [HV.out,if_pos z8];rfl
  ·have hC' : inB (cLo t) (cHi t) l.length = false:=by simpa using hC
   have HV:=hid (Ae (a:=a) (l:=l) (g:=dS ps) hne (.inr hC'));rw [hlen] at hC';clear hC
   go_region_held3 (fun W => W.cell? ⟨w.heap.size,0,none⟩ = some (.int .u8 c) ∧ W.cell? ⟨w.heap.size,1,none⟩ = some (.int .i64 a) ∧ W.cell? ⟨w.heap.size,2,none⟩ = some (.slice la ln lc) ∧ W.cell? ⟨w1.heap.size,0,none⟩ = some (.int .u8 rc) ∧ W.cell? ⟨w1.heap.size,1,none⟩ = some (.string wd) ∧ W.cell? ⟨w1.heap.size,2,none⟩ = some (.int .i8 t) ∧ W.cell? ⟨w1.heap.size,3,none⟩ = some (.string pp) ∧ W.cell? ⟨w1.heap.size,4,none⟩ = some (.string ps) ∧ W.cell? ⟨w1.heap.size,5,none⟩ = some (.bool pl) ∧ Below w2.heap.size w2 W)
    (first | assumption | (refine fp ?_ ?_ <;> assumption) | (exact ⟨y0,y1,y2,y3,y4,y5,y6,y7,y8,(Below.refl _ _).drew⟩))
    (first
     | (go_at_call 314; refine (oa rc t wd pp ps pl _).mono ?_; rintro e w' ⟨rfl,hbx⟩; have hS':=fp (X:=w.heap.size) (Y:=w1.heap.size) (w2:=w2) hbx kI; clear hbx)
     | (go_at_call 312; refine (mj rc t wd pp ps pl _).mono ?_; rintro e w' ⟨rfl,hbx⟩; have hS':=fp (X:=w.heap.size) (Y:=w1.heap.size) (w2:=w2) hbx kI; clear hbx)
     | (go_at_call 315; refine (mS _ _ _ _).mono ?_; rintro e w' ⟨rfl,hbx⟩; have hS':=fp (X:=w.heap.size) (Y:=w1.heap.size) (w2:=w2) hbx kI; clear hbx))
   have B3:=hid (B2.out.trans (hS'.2.2.2.2.2.2.2.2.2.mono B2.out.size));exact AH
 ·have hA' : inB (lo t (dS ps)) (hi t (dS ps)) a = false:=by simpa using hA
  have HV:=hid (Ae (a:=a) (l:=l) hne (.inl hA'));clear hA
  first | (go_region_with (first
   | (go_at_call 314; refine (oa rc t wd pp ps pl _).mono ?_; rintro e w3 ⟨rfl,hb3⟩; have hS3:=fp (X:=w.heap.size) (Y:=w1.heap.size) (w2:=w2) hb3 ⟨y0,y1,y2,y3,y4,y5,y6,y7,y8,(Below.refl _ _).drew⟩; clear hb3)
   | (go_at_call 315; refine (mS _ _ _ _).mono ?_; rintro e w4 ⟨rfl,hb4⟩; have hS':=fp (X:=w.heap.size) (Y:=w1.heap.size) (w2:=w2) hb4 hS3; clear hb4))) | fail
  all_goals
   have B3:=hid (B2.out.trans (hS'.2.2.2.2.2.2.2.2.2.mono B2.out.size));exact AH
end Go.Proofs.YtheefojaplnnoaaGreatDoor

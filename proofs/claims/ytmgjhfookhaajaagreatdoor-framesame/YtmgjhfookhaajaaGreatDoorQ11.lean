/-
  Texts Vf Vg Ls Lsig.
-/
import Derived.Test.YtmgjhfookhaajaaGreatDoorQ03
import Derived.Test.YtmgjhfookhaajaaGreatDoorQ10
set_option linter.unusedVariables false
set_option maxRecDepth 100000
set_option maxHeartbeats 16000000
namespace Go.Proofs.YtmgjhfookhaajaaGreatDoor
open Go.RowKit
theorem below_put {B : Nat} {w W : World} {g i : Nat} {u : Value} (h : Below B w W) (hB : B ≤ g) (hs : B ≤ W.heap.size) : Below B w (W.setCell ⟨g,i,none⟩ u) :=
 h.trans ((kept_set W g i u).to_below hs (fun k hk e => by omega))
section
variable {v : Ev} {w1 w : World} {s : Cs}
theorem pick229_yes {b off n cap q : Nat} {P R : ByteArray} (hq : q < n) (hn : n ≤ 1099511627776) (h0 : w.cell? ⟨b,off + q * 2,none⟩ = some (.string P)) (h1 : w.cell? ⟨b,off + q * 2 + 1,none⟩ = some (.string R)) :
  Calls Tryz.prog 126 #[.slice (some ⟨b,off,none⟩) n cap,.int .i64 q] w fun e w' => e = .returned (.agg #[.string P,.string R]) ∧ Below w.heap.size w w':=by
 have g0 : (0 : Int) ≤ (q : Int):=by omega
 have g1 : (q : Int) < (n : Int):=by omega
 have BN:=below_new w (.cells #[.string ⟨#[]⟩,.string ⟨#[]⟩] 68)
 have z0:=later_cell BN h0
 have z1:=later_cell BN h1
 have BW:=hid BN
 clear BN h0 h1
 go_enter Tryz.func126,Tryz.ntmps126
 go_wp2_with fail
 refine (must_yes _ _).mono ?_
 rintro e w3 ⟨rfl,hw3⟩
 obtain rfl:=hw3.symm
 go_wp2_with fail
 refine bodyPost_ret (v:=.agg #[.string P,.string R]) ?_ rfl ⟨rfl,?_⟩
 ·rw [results_cell1 rfl]
  go_simp
 ·exact below_new _ _
theorem pick229_no {a : Option Addr} {n cap : Nat} {z : Int} (hz : z < 0 ∨ (n : Int) ≤ z) (hn : n ≤ 1099511627776) :
  Calls Tryz.prog 126 #[.slice a n cap,.int .i64 z] w fun e w' => e = thv 30 ∧ Below w.heap.size w w':=by
 by_cases g0 : 0 ≤ z
 ·go_enter Tryz.func126,Tryz.ntmps126
  go_wp2_with fail
  refine (mustB _ _ _).mono ?_
  rintro e w3 (⟨hb,rfl,rfl⟩ | ⟨hb,rfl,rfl⟩)
  ·exact absurd hb (by simp; omega)
  ·exact ⟨rfl,rfl,below_new _ _⟩
 ·have g1 : z < 0:=by omega
  go_enter Tryz.func126,Tryz.ntmps126
  go_wp2_with fail
  refine (mustB _ _ _).mono ?_
  rintro e w3 (⟨hb,rfl,rfl⟩ | ⟨hb,rfl,rfl⟩)
  ·exact absurd hb (by simp)
  ·exact ⟨rfl,rfl,below_new _ _⟩
theorem pick236_yes {b off n cap q : Nat} {ty : Int} {lo : ByteArray} {ca : Option Addr} {cn cc : Nat} (hq : q < n) (hn : n ≤ 1099511627776) (h0 : w.cell? ⟨b,off + q * 3,none⟩ = some (.int .i64 ty)) (h1 : w.cell? ⟨b,off + q * 3 + 1,none⟩ = some (.string lo)) (h2 : w.cell? ⟨b,off + q * 3 + 2,none⟩ = some (.slice ca cn cc)) :
  Calls Tryz.prog 133 #[.slice (some ⟨b,off,none⟩) n cap,.int .i64 q] w fun e w' => e = .returned (.agg #[.int .i64 ty,.string lo,.slice ca cn cc]) ∧ Below w.heap.size w w':=by
 have g0 : (0 : Int) ≤ (q : Int):=by omega
 have g1 : (q : Int) < (n : Int):=by omega
 have BN:=below_new w (.cells #[.int .i64 0,.string ⟨#[]⟩,.slice none 0 0] 71)
 have z0:=later_cell BN h0
 have z1:=later_cell BN h1
 have z2:=later_cell BN h2
 have BW:=hid BN
 clear BN h0 h1 h2
 go_enter Tryz.func133,Tryz.ntmps133
 go_wp2_with fail
 refine (must_yes _ _).mono ?_
 rintro e w3 ⟨rfl,hw3⟩
 obtain rfl:=hw3.symm
 go_wp2_with fail
 refine bodyPost_ret (v:=.agg #[.int .i64 ty,.string lo,.slice ca cn cc]) ?_ rfl ⟨rfl,?_⟩
 ·rw [results_cell1 rfl]
  go_simp
 ·exact below_new _ _
theorem pick236_no {a : Option Addr} {n cap : Nat} {z : Int} (hz : z < 0 ∨ (n : Int) ≤ z) (hn : n ≤ 1099511627776) :
  Calls Tryz.prog 133 #[.slice a n cap,.int .i64 z] w fun e w' => e = thv 30 ∧ Below w.heap.size w w':=by
 by_cases g0 : 0 ≤ z
 ·go_enter Tryz.func133,Tryz.ntmps133
  go_wp2_with fail
  refine (mustB _ _ _).mono ?_
  rintro e w3 (⟨hb,rfl,rfl⟩ | ⟨hb,rfl,rfl⟩)
  ·exact absurd hb (by simp; omega)
  ·exact ⟨rfl,rfl,below_new _ _⟩
 ·have g1 : z < 0:=by omega
  go_enter Tryz.func133,Tryz.ntmps133
  go_wp2_with fail
  refine (mustB _ _ _).mono ?_
  rintro e w3 (⟨hb,rfl,rfl⟩ | ⟨hb,rfl,rfl⟩)
  ·exact absurd hb (by simp)
  ·exact ⟨rfl,rfl,below_new _ _⟩
theorem pick237_yes {b off n cap q : Nat} {x : Int} (hq : q < n) (hn : n ≤ 1099511627776) (h0 : w.cell? ⟨b,off + q,none⟩ = some (.int .i64 x)) :
  Calls Tryz.prog 134 #[.slice (some ⟨b,off,none⟩) n cap,.int .i64 q] w fun e w' => e = .returned (.int .i64 x) ∧ Below w.heap.size w w':=by
 have g0 : (0 : Int) ≤ (q : Int):=by omega
 have g1 : (q : Int) < (n : Int):=by omega
 go_enter Tryz.func134,Tryz.ntmps134
 go_wp2_with fail
 refine (must_yes _ _).mono ?_
 rintro e w3 ⟨rfl,hw3⟩
 obtain rfl:=hw3.symm
 go_wp2_with fail
 go_ret
 exact ⟨rfl,Below.refl _ _⟩
theorem pick237_no {a : Option Addr} {n cap : Nat} {z : Int} (hz : z < 0 ∨ (n : Int) ≤ z) (hn : n ≤ 1099511627776) :
  Calls Tryz.prog 134 #[.slice a n cap,.int .i64 z] w fun e w' => e = thv 30 ∧ w' = w:=by
 by_cases g0 : 0 ≤ z
 ·go_enter Tryz.func134,Tryz.ntmps134
  go_wp2_with fail
  refine (mustB _ _ _).mono ?_
  rintro e w3 (⟨hb,rfl,rfl⟩ | ⟨hb,rfl,rfl⟩)
  ·exact absurd hb (by simp; omega)
  ·exact ⟨rfl,rfl,rfl⟩
 ·have g1 : z < 0:=by omega
  go_enter Tryz.func134,Tryz.ntmps134
  go_wp2_with fail
  refine (mustB _ _ _).mono ?_
  rintro e w3 (⟨hb,rfl,rfl⟩ | ⟨hb,rfl,rfl⟩)
  ·exact absurd hb (by simp)
  ·exact ⟨rfl,rfl,rfl⟩
theorem pick240_yes {b off n cap q : Nat} {x : Int} (hq : q < n) (hn : n ≤ 1099511627776) (h0 : w.cell? ⟨b,off + q,none⟩ = some (.int .u8 x)) :
  Calls Tryz.prog 137 #[.slice (some ⟨b,off,none⟩) n cap,.int .i64 q] w fun e w' => e = .returned (.int .u8 x) ∧ Below w.heap.size w w':=by
 have g0 : (0 : Int) ≤ (q : Int):=by omega
 have g1 : (q : Int) < (n : Int):=by omega
 go_enter Tryz.func137,Tryz.ntmps137
 go_wp2_with fail
 refine (must_yes _ _).mono ?_
 rintro e w3 ⟨rfl,hw3⟩
 obtain rfl:=hw3.symm
 go_wp2_with fail
 go_ret
 exact ⟨rfl,Below.refl _ _⟩
theorem pick240_no {a : Option Addr} {n cap : Nat} {z : Int} (hz : z < 0 ∨ (n : Int) ≤ z) (hn : n ≤ 1099511627776) :
  Calls Tryz.prog 137 #[.slice a n cap,.int .i64 z] w fun e w' => e = thv 30 ∧ w' = w:=by
 by_cases g0 : 0 ≤ z
 ·go_enter Tryz.func137,Tryz.ntmps137
  go_wp2_with fail
  refine (mustB _ _ _).mono ?_
  rintro e w3 (⟨hb,rfl,rfl⟩ | ⟨hb,rfl,rfl⟩)
  ·exact absurd hb (by simp; omega)
  ·exact ⟨rfl,rfl,rfl⟩
 ·have g1 : z < 0:=by omega
  go_enter Tryz.func137,Tryz.ntmps137
  go_wp2_with fail
  refine (mustB _ _ _).mono ?_
  rintro e w3 (⟨hb,rfl,rfl⟩ | ⟨hb,rfl,rfl⟩)
  ·exact absurd hb (by simp)
  ·exact ⟨rfl,rfl,rfl⟩
theorem pick241_yes {b off n cap q : Nat} {c : Int} {mu : Bool} {x : Int} (hq : q < n) (hn : n ≤ 1099511627776) (h0 : w.cell? ⟨b,off + q * 3,none⟩ = some (.int .u8 c)) (h1 : w.cell? ⟨b,off + q * 3 + 1,none⟩ = some (.bool mu)) (h2 : w.cell? ⟨b,off + q * 3 + 2,none⟩ = some (.int .u64 x)) :
  Calls Tryz.prog 138 #[.slice (some ⟨b,off,none⟩) n cap,.int .i64 q] w fun e w' => e = .returned (.agg #[.int .u8 c,.bool mu,.int .u64 x]) ∧ Below w.heap.size w w':=by
 have g0 : (0 : Int) ≤ (q : Int):=by omega
 have g1 : (q : Int) < (n : Int):=by omega
 have BN:=below_new w (.cells #[.int .u8 0,.bool false,.int .u64 0] 113)
 have z0:=later_cell BN h0
 have z1:=later_cell BN h1
 have z2:=later_cell BN h2
 have BW:=hid BN
 clear BN h0 h1 h2
 go_enter Tryz.func138,Tryz.ntmps138
 go_wp2_with fail
 refine (must_yes _ _).mono ?_
 rintro e w3 ⟨rfl,hw3⟩
 obtain rfl:=hw3.symm
 go_wp2_with fail
 refine bodyPost_ret (v:=.agg #[.int .u8 c,.bool mu,.int .u64 x]) ?_ rfl ⟨rfl,?_⟩
 ·rw [results_cell1 rfl]
  go_simp
 ·exact below_new _ _
theorem pick241_no {a : Option Addr} {n cap : Nat} {z : Int} (hz : z < 0 ∨ (n : Int) ≤ z) (hn : n ≤ 1099511627776) :
  Calls Tryz.prog 138 #[.slice a n cap,.int .i64 z] w fun e w' => e = thv 30 ∧ Below w.heap.size w w':=by
 by_cases g0 : 0 ≤ z
 ·go_enter Tryz.func138,Tryz.ntmps138
  go_wp2_with fail
  refine (mustB _ _ _).mono ?_
  rintro e w3 (⟨hb,rfl,rfl⟩ | ⟨hb,rfl,rfl⟩)
  ·exact absurd hb (by simp; omega)
  ·exact ⟨rfl,rfl,below_new _ _⟩
 ·have g1 : z < 0:=by omega
  go_enter Tryz.func138,Tryz.ntmps138
  go_wp2_with fail
  refine (mustB _ _ _).mono ?_
  rintro e w3 (⟨hb,rfl,rfl⟩ | ⟨hb,rfl,rfl⟩)
  ·exact absurd hb (by simp)
  ·exact ⟨rfl,rfl,below_new _ _⟩
theorem left231 (P R B : ByteArray) (hs : B.size + R.size ≤ 1073741824) : Calls Tryz.prog 128 #[.agg #[.string P,.string R],.string B] w fun e w' => e = .returned (.string (B ++ R)) ∧ Below w.heap.size w w':=by
 go_enter Tryz.func128,Tryz.ntmps128
 go_wp2_with fail
 go_ret
 exact ⟨rfl,below_new _ _⟩
theorem entered232 (P R B : ByteArray) (hs : B.size + P.size ≤ 1073741824) : Calls Tryz.prog 129 #[.agg #[.string P,.string R],.string B] w fun e w' => e = .returned (.string (B ++ P)) ∧ Below w.heap.size w w':=by
 go_enter Tryz.func129,Tryz.ntmps129
 go_wp2_with fail
 go_ret
 exact ⟨rfl,below_new _ _⟩
theorem same233 (P R : ByteArray) : Calls Tryz.prog 130 #[.agg #[.string P,.string R]] w fun e w' => e = .returned (.bool (P.toList == R.toList)) ∧ Below w.heap.size w w':=by
 go_enter Tryz.func130,Tryz.ntmps130
 go_wp2_with fail
 go_ret
 exact ⟨rfl,below_new _ _⟩
end
section
variable {v : Ev} {w1 w : World} {s : Cs}
def letE (s : Cs) (o : Opn) (j : Nat) : Int:=if j < (s.st.extract o.B.size s.st.size).size then 0 else 33
def letV (s : Cs) (o : Opn) (j : Nat) : ByteArray:=(s.st.extract o.B.size s.st.size).extract ((s.st.extract o.B.size s.st.size).size - 1 - j) ((s.st.extract o.B.size s.st.size).size - 1 - j + 1)
theorem letter238 (hA : EvA v w1) (h : CI v w1 w s) {k : Nat} {o : Opn} (hw : CW s k o) (j : Nat) (hj : j ≤ 1) : Calls Tryz.prog 135 #[.pointer (some ⟨v.C,0,none⟩),.int .i64 j] w (Rdz w (letE s o j) (.string (letV s o j))):=by
 have H1:=hid (above235 h hw)
 have hz : (s.st.extract o.B.size s.st.size).size ≤ 1000000:=by
  have:=hw.big
  simp; omega
 have HC:=hid h
 have hT : j < (s.st.extract o.B.size s.st.size).size → letE s o j = 0:=fun h => by simp only [letE,h,if_true]
 have hF : ¬ j < (s.st.extract o.B.size s.st.size).size → letE s o j = 33:=fun h => by simp only [letE,h,if_false]
 have HV:=hid (show letV s o j = (s.st.extract o.B.size s.st.size).extract ((s.st.extract o.B.size s.st.size).size - 1 - j) ((s.st.extract o.B.size s.st.size).size - 1 - j + 1) from rfl)
 clear h
 generalize letE s o j = E at *
 generalize letV s o j = V at *
 generalize s.st.extract o.B.size s.st.size = a at *
 by_cases hlt : j < a.size
 ·have hE:=hT hlt
  subst hE
  obtain ⟨d,hd⟩ : ∃ d,a.size = d + 1 + j:=⟨a.size - 1 - j,by omega⟩
  have hd' : a.size - 1 - j = d:=by omega
  rw [hd'] at HV
  have g1 : (d : Int) + 1 ≤ (a.size : Int):=by omega
  have a1 : (a.size : Int) - 1 - (j : Int) = (d : Int):=by omega
  clear hT hF
  go_enter Tryz.func135,Tryz.ntmps135
  go_wp2_with fail
  refine H1.out.mono ?_
  rintro e w2 ⟨rfl,hb⟩
  have HC2:=hid hb
  clear hb
  go_wp2_with fail
  refine (mustB _ _ _).mono ?_
  rintro e w3 (⟨hb,rfl,rfl⟩ | ⟨hb,rfl,rfl⟩)
  ·clear hb
   go_wp2_with fail
   go_ret
   refine .inl ⟨rfl,?_,HC2.out⟩
   have e1 : d + 1 + j - 1 - j = d:=by omega
   rw [HV.out]
   show Ending.returned (Value.string (a.extract (d + 1 + j - 1 - j) (d + 1 + j - 1 - j + 1))) = _
   rw [e1]
  ·exact absurd hb (by simp; omega)
 ·have hE:=hF hlt
  subst hE
  clear hT hF
  go_enter Tryz.func135,Tryz.ntmps135
  go_wp2_with fail
  refine H1.out.mono ?_
  rintro e w2 ⟨rfl,hb⟩
  have HC2:=hid hb
  clear hb
  go_wp2_with fail
  refine (mustB _ _ _).mono ?_
  rintro e w3 (⟨hb,rfl,rfl⟩ | ⟨hb,rfl,rfl⟩)
  ·exfalso
   simp at hb; omega
  ·exact ⟨rfl,.inr ⟨by decide,rfl,HC2.out⟩⟩
def ltr (c : Int) : ByteArray:=if c = 119 then ⟨#[119]⟩ else ⟨#[108]⟩
def hldP (op : Int) (y : ByteArray) : ByteArray:=if op = 18 ∨ op = 21 then ⟨#[]⟩ else y
def hldR (op : Int) (y : ByteArray) : ByteArray:=if op = 18 ∨ op = 21 ∨ op = 20 then y else ⟨#[]⟩
theorem enc_w : Utf8.encode 119 = ⟨#[119]⟩:=by decide
theorem enc_l : Utf8.encode 108 = ⟨#[108]⟩:=by decide
theorem holder239 (op c : Int) (hc : c = 119 ∨ c = 108) (hop : op = 18 ∨ op = 19 ∨ op = 20 ∨ op = 21 ∨ op = 22) : Calls Tryz.prog 136 #[.int .u8 op,.int .u8 c] w fun e w' => e = .returned (.agg #[.string (hldP op (ltr c)),.string (hldR op (ltr c))]) ∧ Below w.heap.size w w':=by
 obtain ⟨P,hP⟩ : ∃ P,hldP op (ltr c) = P:=⟨_,rfl⟩
 obtain ⟨R,hR⟩ : ∃ R,hldR op (ltr c) = R:=⟨_,rfl⟩
 rw [hP,hR]
 have HP:=hid hP.symm
 have HR:=hid hR.symm
 clear hP hR
 rcases hc with rfl | rfl <;> rcases hop with rfl | rfl | rfl | rfl | rfl
 all_goals
  go_enter Tryz.func136,Tryz.ntmps136
  go_wp2_with fail
  refine bodyPost_ret (v:=.agg #[.string P,.string R]) ?_ rfl ⟨rfl,?_⟩
  ·rw [results_cell1 rfl]
   go_simp
   rw [HP.out,HR.out]
   simp [enc_w,enc_l,hldP,hldR,ltr]
  ·exact (below_new _ _)
end
theorem lt_of_ownS {w : World} {base : Nat} {e : TypeId} {size : Nat} {v : Value} {n : Nat} {xs : List Value} {B : Nat} (h : w.ownsRow base e size v n xs) (hB : v.ownBlock = some B) : B < w.heap.size:=by
 rcases h.2 with ⟨rfl,_⟩ | ⟨g,cp,cur,rfl,h2,h3,h4⟩
 ·simp [Value.ownBlock] at hB
 ·obtain rfl : g = B:=by simpa [Value.ownBlock] using hB
  rcases Nat.lt_or_ge g w.heap.size with hl | hl
  ·exact hl
  ·rw [Array.getElem?_eq_none hl] at h3; cases h3
theorem own_addr {aa : Option Addr} {j ac B : Nat} (h : (Value.slice aa j ac).ownBlock = some B) : ∃ a,aa = some a ∧ a.block = B:=by
 cases aa with
 | none => simp [Value.ownBlock] at h
 | some a => exact ⟨a,rfl,by simpa [Value.ownBlock] using h⟩
theorem own_addr' {w : World} {base : Nat} {e : TypeId} {size : Nat} {aa : Option Addr} {j ac n : Nat} {xs : List Value} {a : Addr} (h : w.ownsRow base e size (.slice aa j ac) n xs) (ha : aa = some a) : (Value.slice aa j ac).ownBlock = some a.block:=by
 subst ha; simp [Value.ownBlock]
theorem take_flat {α : Type} (enc : α → List Int) {xs : List α} {j : Nat} {x : α} (hx : xs[j]? = some x) : (xs.take (j + 1)).flatMap enc = (xs.take j).flatMap enc ++ enc x:=by
 have hj:=lt_of_get hx
 rw [List.take_succ_eq_append_getElem hj]
 rw [List.getElem?_eq_getElem hj] at hx
 simp at hx
 simp [hx]
theorem flat_le {α : Type} (enc : α → List Int) (M : Nat) : ∀ (xs : List α),(∀ (j : Nat) x,xs[j]? = some x → (enc x).length ≤ M) → (xs.flatMap enc).length ≤ xs.length * M
 | [],_ => by simp
 | x :: r,h => by
  have h0:=h 0 x rfl
  have h1:=flat_le enc M r (fun j y hj => h (j + 1) y (by simpa using hj))
  simp only [List.flatMap_cons,List.length_append,List.length_cons]
  rw [Nat.add_mul,Nat.one_mul]
  omega
theorem flat_get {α : Type} {oc : α → List Value} {CS : Nat} (hoc : ∀ y,(oc y).length = CS) : ∀ (ys : List α) (i t : Nat) (y : α) (u : Value),ys[i]? = some y → (oc y)[t]? = some u → (ys.flatMap oc)[i * CS + t]? = some u
 | [],i,t,y,u,h,_ => by simp at h
 | z :: r,0,t,y,u,h,hu => by
  simp at h
  subst h
  have ht:=lt_of_get hu
  simp only [List.flatMap_cons,Nat.zero_mul,Nat.zero_add]
  rw [List.getElem?_append_left ht]
  exact hu
 | z :: r,i + 1,t,y,u,h,hu => by
  have h' : r[i]? = some y:=by simpa using h
  have:=flat_get hoc r i t y u h' hu
  simp only [List.flatMap_cons]
  rw [List.getElem?_append_right (by rw [hoc,Nat.add_mul]; omega),hoc]
  have e : (i + 1) * CS + t - CS = i * CS + t:=by rw [Nat.add_mul]; omega
  rw [e]
  exact this
theorem row_cell {w : World} {TE : TypeId} {CS : Nat} {aa : Option Addr} {j ac : Nat} {α : Type} {oc : α → List Value} {ys : List α} (hoc : ∀ y,(oc y).length = CS) (h : w.ownsRow 0 TE CS (.slice aa j ac) j (ys.flatMap oc)) {i t : Nat} {y : α} {u : Value} (hy : ys[i]? = some y) (hu : (oc y)[t]? = some u) :
  ∃ B,aa = some ⟨B,0,none⟩ ∧ w.cell? ⟨B,i * CS + t,none⟩ = some u:=by
 have hg:=flat_get hoc ys i t y u hy hu
 have hl:=lt_of_get hg
 rcases h.2 with ⟨h1,h2⟩ | ⟨g,cp,cur,h1,_⟩
 ·have:=h.1
  rw [h2] at this
  omega
 ·obtain ⟨e1,e2⟩:=Value.slice.inj h1
  subst e1
  refine ⟨g,rfl,?_⟩
  have h' : RowS w TE CS g j ac (ys.flatMap oc):=h
  rw [h'.cell _ (by rw [← h.1]; exact hl)]
  exact hg
theorem Stp.throw {R g g1 : Nat} {w W w5 : World} (h : Stp R g g1 w W) (hk : Kept (fun k => k = R ∨ k = g1) W w5) : Kept (fun k => k = R ∨ k = g) w w5:=by
 refine h.k.then hk (fun k hkl hh => ?_)
 rcases hh with rfl | rfl
 ·exact .inl rfl
 ·rcases h.m with h | h
  ·exact .inr h
  ·omega
theorem inf73 : ∃ i,Tryz.prog.info? 68 = some i ∧ i.zero = some (.agg #[.string ⟨#[]⟩,.string ⟨#[]⟩]) ∧ i.size = 2 ∧ i.bytes = 32:=by
 have h : (Tryz.prog.info? 68).map (fun i => (i.zero,i.size,i.bytes)) = some (some (.agg #[.string ⟨#[]⟩,.string ⟨#[]⟩]),2,32):=by kernel_rfl
 cases hi : Tryz.prog.info? 68 with
 | none => rw [hi] at h; cases h
 | some i => rw [hi] at h; simp at h; exact ⟨i,rfl,h.1,h.2.1,h.2.2⟩
def ocSig (y : Sg) : List Value:=[.string y.1,.string y.2]
abbrev ivSig (x : Sg) : Value:=.agg #[.string x.1,.string x.2]
abbrev ovSig (y : Sg) : Value:=.agg #[.string y.1,.string y.2]
def AtSig (w : World) (a : Option Addr) (n : Nat) (xs : List Sg) : Prop :=
 xs.length = n ∧ (n = 0 ∨ ∃ b off,a = some ⟨b,off,none⟩ ∧ ∀ (j : Nat) x,xs[j]? = some x → w.cell? ⟨b,off + j * 2,none⟩ = some (.string x.1) ∧ w.cell? ⟨b,off + j * 2 + 1,none⟩ = some (.string x.2))
theorem AtSig.kept {S : Nat → Prop} {w w' : World} {a : Option Addr} {n : Nat} {xs : List Sg} (h : AtSig w a n xs) (hk : Kept S w w') (hS : ∀ b off c,a = some ⟨b,off,c⟩ → ¬ S b) : AtSig w' a n xs:=by
 refine ⟨h.1,h.2.imp id ?_⟩
 rintro ⟨b,off,ha,hc⟩
 refine ⟨b,off,ha,fun j x hj => ?_⟩
 have:=hc j x hj
 exact ⟨hk.cell this.1 (hS _ _ _ ha),hk.cell this.2 (hS _ _ _ ha)⟩
theorem new_cellsSig (w : World) (y : Sg) : ∀ j u,(ocSig y)[j]? = some u → (w.alloc (.cells #[.string y.1,.string y.2] 68)).cell? ((⟨w.heap.size,0,none⟩ : Addr).add j) = some u:=by
 intro j u hj
 have hlt:=lt_of_get hj
 have hl : (ocSig y).length = 2:=rfl
 rw [hl] at hlt
 have hadd : (⟨w.heap.size,0,none⟩ : Addr).add j = ⟨w.heap.size,j,none⟩:=by unfold Addr.add; split <;> simp_all
 rw [hadd]
 have hb:=(MapKept.heap_alloc w (.cells #[.string y.1,.string y.2] 68)).1
 simp only [World.cell?,hb]
 simpa [ocSig] using hj
theorem one_cellsSig (y : Sg) : ∀ u ∈ ocSig y,u.oneCell' = true:=by
 intro u hu
 simp [ocSig] at hu
 rcases hu with rfl | rfl <;> rfl
def EachSig (R g : Nat) (w : World) (K : Nat) (cs : Array Value) (bs : List Int) (n : Nat) (xs : List Sg) (enc : Sg → List Int) (Ok : Sg → Sg → Prop) (j : Nat) (x : Sg) : Prop :=
 ∀ (ys : List Sg) (W : World) (g1 cap1 : Nat) (aa : Option Addr) (ac : Nat),ys.length = j → (∀ (i : Nat) y,ys[i]? = some y → ∃ x',xs[i]? = some x' ∧ Ok x' y) → Stp R g g1 w W → Wr W R g1 cap1 (bs ++ uvar n ++ (xs.take j).flatMap enc) →
  W.ownsRow 0 68 2 (.slice aa j ac) j (ys.flatMap ocSig) → (∀ b,aa = some b → w.heap.size ≤ b.block ∧ b.block ≠ g1) →
  Calls Tryz.prog K (#[ivSig x,.slice aa j ac] ++ cs) W (fun e w' => ∃ y,e = .returned (ovSig y) ∧ Ok x y ∧ ∃ g' cap',Wr w' R g' cap' (bs ++ uvar n ++ (xs.take j).flatMap enc ++ enc x) ∧ Stp R g1 g' W w')
def EachNoSig (R g : Nat) (w : World) (K : Nat) (cs : Array Value) (bs : List Int) (n : Nat) (xs : List Sg) (enc : Sg → List Int) (Ok : Sg → Sg → Prop) (j : Nat) (x : Sg) (er : Int) : Prop :=
 ∀ (ys : List Sg) (W : World) (g1 cap1 : Nat) (aa : Option Addr) (ac : Nat),ys.length = j → (∀ (i : Nat) y,ys[i]? = some y → ∃ x',xs[i]? = some x' ∧ Ok x' y) → Stp R g g1 w W → Wr W R g1 cap1 (bs ++ uvar n ++ (xs.take j).flatMap enc) →
  W.ownsRow 0 68 2 (.slice aa j ac) j (ys.flatMap ocSig) → (∀ b,aa = some b → w.heap.size ≤ b.block ∧ b.block ≠ g1) →
  Calls Tryz.prog K (#[ivSig x,.slice aa j ac] ++ cs) W (Throws R g1 er W)
theorem list131_yes (R g cap : Nat) (bs : List Int) (ha : Option Addr) (n hc : Nat) (most : Int) (K : Nat) (cs : Array Value) (w : World) (xs : List Sg) (enc : Sg → List Int) (Ok : Sg → Sg → Prop) (M : Nat)
  (h : Wr w R g cap bs) (hn : n ≤ 100000) (hm : (n : Int) ≤ most) (hmem : AtSig w ha n xs) (hne : ∀ b off c,ha = some ⟨b,off,c⟩ → b ≠ R ∧ b ≠ g)
  (hK : ∀ args w,(callFunc K args).run Tryz.prog w = .ok (.enter K args) w) (hlen : ∀ (j : Nat) x,xs[j]? = some x → (enc x).length ≤ M) (hM : M ≤ 1000000) (hb : bs.length + 200000000000 ≤ 1099511627776)
  (heach : ∀ (j : Nat) x,xs[j]? = some x → EachSig R g w K cs bs n xs enc Ok j x) :
  Calls Tryz.prog 77 #[cW R,.slice ha n hc,.int .i64 most,.func (.func K) #[] cs] w fun e w' => ∃ (aa : Option Addr) (ac : Nat) (ys : List Sg),e = .returned (.slice aa n ac) ∧ ys.length = n ∧ (∀ (i : Nat) y,ys[i]? = some y → ∃ x,xs[i]? = some x ∧ Ok x y) ∧
   w'.ownsRow 0 68 2 (.slice aa n ac) n (ys.flatMap ocSig) ∧ ∃ g' cap',(∀ b,aa = some b → w.heap.size ≤ b.block ∧ b.block ≠ g') ∧ Wr w' R g' cap' (bs ++ uvar n ++ xs.flatMap enc) ∧ Stp R g g' w w':=by
 have hmc:=meth_count
 have hcc:=enter317
 have HC:=hid (count317_yes R g cap bs n most w h hm (by omega) (by omega))
 have hRl:=h.lt
 have hgl:=h.g_lt
 have hxl:=hmem.1
 have HM:=hid hmem
 have HNE:=hid hne
 have HE:=hid heach
 obtain ⟨i0,hi,hz0,hz1,hz2⟩:=inf73
 clear h hmem heach hne
 go_enter Tryz.func77,Tryz.ntmps77
 go_wp2_with fail
 refine HC.out.mono ?_
 rintro e w2 ⟨rfl,g1,cap1,hw2,hs2⟩
 have W2:=hid hw2
 have S2:=hid hs2
 clear hw2 hs2 HC hmc hcc
 go_wp2_with fail
 go_loopw [9,17] (fun o i wr => ∃ (j : Nat) (ys : List Sg) (aa : Option Addr) (ac g1 cap1 : Nat),j ≤ n ∧ i = .int .i64 j ∧ o = .slice aa j ac ∧ ys.length = j ∧ (∀ (i : Nat) y,ys[i]? = some y → ∃ x,xs[i]? = some x ∧ Ok x y) ∧
   wr.ownsRow 0 68 2 (.slice aa j ac) j (ys.flatMap ocSig) ∧ (∀ b,aa = some b → w.heap.size ≤ b.block ∧ b.block ≠ g1) ∧ Wr wr R g1 cap1 (bs ++ uvar n ++ (xs.take j).flatMap enc) ∧ Stp R g g1 w wr) (fun _ i _ => n - (intOf i).toNat)
 case atStart => exact ⟨0,[],none,0,g1,cap1,by omega,rfl,rfl,rfl,(fun i y h => by simp at h),World.ownsRow_nil _ _ _ _,(fun b h => by cases h),by simpa using W2.out,S2.out⟩
 case round =>
  obtain ⟨j,ys,aa,ac,g3,cap3,hj,rfl,rfl,hyl,hys,hrow,hab,hwr,hst⟩:=hrel
  have HY:=hid hys
  have HRW:=hid hrow
  have HAB:=hid hab
  have HWR:=hid hwr
  have HST:=hid hst
  clear hys hrow hab hwr hst W2 S2
  by_cases hlt : j < n
  ·obtain ⟨x,hx⟩ : ∃ x,xs[j]? = some x:=⟨_,List.getElem?_eq_getElem (by omega)⟩
   obtain ⟨b,off,rfl,hcell⟩ : ∃ b off,ha = some ⟨b,off,none⟩ ∧ ∀ (j : Nat) x,xs[j]? = some x → wr.cell? ⟨b,off + j * 2,none⟩ = some (.string x.1) ∧ wr.cell? ⟨b,off + j * 2 + 1,none⟩ = some (.string x.2):=by
    rcases (HM.out.kept HST.out.k (fun b off c h => by have:=HNE.out b off c h; simp; omega)).2 with h0 | h
    ·omega
    ·exact h
   have hcj:=hcell j x hx
   have hbl:=block_lt_of_cell hcj.1
   clear hcell
   obtain ⟨v0,v1⟩:=hcj
   have BN:=hid (below_new wr (.cells #[.string x.1,.string x.2] 68))
   have HC1:=hid (HE.out j x hx ys (wr.alloc (.cells #[.string x.1,.string x.2] 68)) g3 cap3 aa ac hyl HY.out (HST.out.trans (Stp.of_below BN.out)) (HWR.out.later BN.out) (ownS_keep HRW.out (fun B hB => BN.out.block B (lt_of_ownS HRW.out hB))) HAB.out)
   go_wp2_with fail
   generalize wr.alloc (.cells #[.string x.1,.string x.2] 68) = W at *
   have hszW:=BN.out.size
   refine HC1.out.mono ?_
   rintro e w5 ⟨y,rfl,hok,g4,cap4,hw5,hs5⟩
   have hgr : g3 < wr.heap.size:=HWR.out.g_lt
   have hRr : R < wr.heap.size:=HWR.out.lt
   have row5 : w5.ownsRow 0 68 2 (.slice aa j ac) j (ys.flatMap ocSig):=ownS_keep HRW.out (fun B hB => by
    have h1:=lt_of_ownS HRW.out hB
    have h2 : ∃ a,aa = some a ∧ a.block = B:=own_addr hB
    obtain ⟨a,ha1,ha2⟩:=h2
    have h3:=HAB.out a ha1
    have h4:=HST.out.size
    exact (hs5.block (b:=B) (by omega) (by omega) (by omega)).trans (BN.out.block B h1))
   have gg4:=hw5.g_lt
   have hab5 : ∀ b,aa = some b → b.block ≠ g4 ∧ b.block < w5.heap.size:=fun a ha1 => by
    have h3:=HAB.out a ha1
    have h1 : a.block < wr.heap.size:=lt_of_ownS HRW.out (own_addr' HRW.out ha1)
    exact ⟨hs5.ne (by omega) h3.2,Nat.lt_of_lt_of_le h1 (Nat.le_trans hszW hs5.size)⟩
   have W5:=hid hw5
   have S5:=hid (HST.out.trans ((Stp.of_below BN.out).trans hs5))
   have O5:=hid hok
   have BN5:=hid (below_new w5 (.cells #[.string y.1,.string y.2] 68))
   have R6:=hid (ownS_keep (w':=w5.alloc (.cells #[.string y.1,.string y.2] 68)) row5 (fun B hB => BN5.out.block B (lt_of_ownS row5 hB)))
   have HAB5:=hid hab5
   have NC:=hid (new_cellsSig w5 y)
   have hz6 : (w5.alloc (.cells #[.string y.1,.string y.2] 68)).heap.size = w5.heap.size + 1:=by simp
   clear hw5 hs5 row5 hab5 HC1 hok
   go_wp2_with (at_builtin; (refine app_rows _ rfl (.tmp 28) (.tmp 33) 29 rfl 68 i0 _ 2 32 Tryz.underlying29 hi hz0 hz1 hz2 rfl (by decide) _ j _ rfl R6.out ⟨w5.heap.size,0,none⟩ 1 1 (ocSig y) rfl rfl NC.out (one_cellsSig y) (by omega) (by unfold maxLen; omega) (by omega) ?_; intro B cap7 w7 hrow7 hor7; have R7:=hid hrow7; have OR7:=hid hor7; clear hrow7 hor7))
   generalize w5.alloc (.cells #[.string y.1,.string y.2] 68) = W6 at *
   have hBn : w.heap.size ≤ B ∧ B ≠ g4 ∧ Kept (fun k => k = B) W6 w7:=by
    rcases OR7.out with ⟨h1,h2⟩ | ⟨h1,h2⟩
    ·have h1' : aa = some ⟨B,0,none⟩:=(Value.slice.inj h1).1
     exact ⟨(HAB.out _ h1').1,(HAB5.out _ h1').1,h2⟩
    ·have:=S5.out.size
     exact ⟨by omega,by omega,h2.mono (fun k hk => hk.elim)⟩
   have hRw:=S5.out.size
   go_roundw
   ·refine ⟨j + 1,ys ++ [y],some ⟨B,0,none⟩,cap7,g4,cap4,by omega,rfl,rfl,by simp [hyl],?_,?_,?_,?_,?_⟩
    ·intro i y' hi'
     by_cases hij : i < ys.length
     ·rw [List.getElem?_append_left hij] at hi'
      exact HY.out i y' hi'
     ·rw [List.getElem?_append_right (by omega)] at hi'
      have hi0 : i - ys.length = 0:=by
       rcases Nat.eq_zero_or_pos (i - ys.length) with h | h
       ·exact h
       ·rw [List.getElem?_eq_none (by simp; omega)] at hi'; cases hi'
      rw [hi0] at hi'
      simp at hi'
      subst hi'
      obtain rfl : i = j:=by omega
      exact ⟨x,hx,O5.out⟩
    ·have:=R7.out
     simpa [RowS] using this
    ·intro b' hb'
     simp at hb'
     subst hb'
     exact ⟨hBn.1,hBn.2.1⟩
    ·have:=(W5.out.later BN5.out).kept hBn.2.2 (by omega) (Ne.symm hBn.2.1)
     rw [take_flat enc hx]
     simpa [List.append_assoc] using this
    ·exact ⟨(S5.out.k.trans (kept_of BN5.out)).then hBn.2.2 (fun k hk hkB => by have:=hBn.1; omega),S5.out.m⟩
   ·simp [intOf]; omega
  ·obtain rfl : j = n:=by omega
   have hxs : xs.take j = xs:=List.take_of_length_le (by omega)
   go_wp2_with fail
   go_ret
   refine ⟨aa,ac,ys,rfl,hyl,HY.out,HRW.out,g3,cap3,HAB.out,?_,HST.out⟩
   rw [← hxs]
   exact HWR.out
theorem list131_no (R g cap : Nat) (bs : List Int) (ha : Option Addr) (n hc : Nat) (most : Int) (K : Nat) (cs : Array Value) (w : World) (xs : List Sg) (enc : Sg → List Int) (Ok : Sg → Sg → Prop) (M : Nat)
  (h : Wr w R g cap bs) (hn : n ≤ 100000) (hm : (n : Int) ≤ most) (hmem : AtSig w ha n xs) (hne : ∀ b off c,ha = some ⟨b,off,c⟩ → b ≠ R ∧ b ≠ g)
  (hK : ∀ args w,(callFunc K args).run Tryz.prog w = .ok (.enter K args) w) (hlen : ∀ (j : Nat) x,xs[j]? = some x → (enc x).length ≤ M) (hM : M ≤ 1000000) (hb : bs.length + 200000000000 ≤ 1099511627776)
  (k : Nat) (xk : Sg) (er : Int) (hk : xs[k]? = some xk) (heach : ∀ (j : Nat) x,xs[j]? = some x → j < k → EachSig R g w K cs bs n xs enc Ok j x) (hno : EachNoSig R g w K cs bs n xs enc Ok k xk er) :
  Calls Tryz.prog 77 #[cW R,.slice ha n hc,.int .i64 most,.func (.func K) #[] cs] w (Throws R g er w):=by
 have hkn:=lt_of_get hk
 have hmc:=meth_count
 have hcc:=enter317
 have HC:=hid (count317_yes R g cap bs n most w h hm (by omega) (by omega))
 have hRl:=h.lt
 have hgl:=h.g_lt
 have hxl:=hmem.1
 have HM:=hid hmem
 have HNE:=hid hne
 have HE:=hid heach
 have HN:=hid hno
 obtain ⟨i0,hi,hz0,hz1,hz2⟩:=inf73
 clear h hmem heach hne hno
 go_enter Tryz.func77,Tryz.ntmps77
 go_wp2_with fail
 refine HC.out.mono ?_
 rintro e w2 ⟨rfl,g1,cap1,hw2,hs2⟩
 have W2:=hid hw2
 have S2:=hid hs2
 clear hw2 hs2 HC hmc hcc
 go_wp2_with fail
 go_loopw [9,17] (fun o i wr => ∃ (j : Nat) (ys : List Sg) (aa : Option Addr) (ac g1 cap1 : Nat),j ≤ k ∧ i = .int .i64 j ∧ o = .slice aa j ac ∧ ys.length = j ∧ (∀ (i : Nat) y,ys[i]? = some y → ∃ x,xs[i]? = some x ∧ Ok x y) ∧
   wr.ownsRow 0 68 2 (.slice aa j ac) j (ys.flatMap ocSig) ∧ (∀ b,aa = some b → w.heap.size ≤ b.block ∧ b.block ≠ g1) ∧ Wr wr R g1 cap1 (bs ++ uvar n ++ (xs.take j).flatMap enc) ∧ Stp R g g1 w wr) (fun _ i _ => n - (intOf i).toNat)
 case atStart => exact ⟨0,[],none,0,g1,cap1,by omega,rfl,rfl,rfl,(fun i y h => by simp at h),World.ownsRow_nil _ _ _ _,(fun b h => by cases h),by simpa using W2.out,S2.out⟩
 case round =>
  obtain ⟨j,ys,aa,ac,g3,cap3,hj,rfl,rfl,hyl,hys,hrow,hab,hwr,hst⟩:=hrel
  have HY:=hid hys
  have HRW:=hid hrow
  have HAB:=hid hab
  have HWR:=hid hwr
  have HST:=hid hst
  clear hys hrow hab hwr hst W2 S2
  have hlt : j < n:=by omega
  ·obtain ⟨x,hx⟩ : ∃ x,xs[j]? = some x:=⟨_,List.getElem?_eq_getElem (by omega)⟩
   obtain ⟨b,off,rfl,hcell⟩ : ∃ b off,ha = some ⟨b,off,none⟩ ∧ ∀ (j : Nat) x,xs[j]? = some x → wr.cell? ⟨b,off + j * 2,none⟩ = some (.string x.1) ∧ wr.cell? ⟨b,off + j * 2 + 1,none⟩ = some (.string x.2):=by
    rcases (HM.out.kept HST.out.k (fun b off c h => by have:=HNE.out b off c h; simp; omega)).2 with h0 | h
    ·omega
    ·exact h
   have hcj:=hcell j x hx
   have hbl:=block_lt_of_cell hcj.1
   clear hcell
   obtain ⟨v0,v1⟩:=hcj
   have BN:=hid (below_new wr (.cells #[.string x.1,.string x.2] 68))
   by_cases hjk : j < k
   ·skip
    have HC1:=hid (HE.out j x hx hjk ys (wr.alloc (.cells #[.string x.1,.string x.2] 68)) g3 cap3 aa ac hyl HY.out (HST.out.trans (Stp.of_below BN.out)) (HWR.out.later BN.out) (ownS_keep HRW.out (fun B hB => BN.out.block B (lt_of_ownS HRW.out hB))) HAB.out)
    go_wp2_with fail
    generalize wr.alloc (.cells #[.string x.1,.string x.2] 68) = W at *
    have hszW:=BN.out.size
    refine HC1.out.mono ?_
    rintro e w5 ⟨y,rfl,hok,g4,cap4,hw5,hs5⟩
    have hgr : g3 < wr.heap.size:=HWR.out.g_lt
    have hRr : R < wr.heap.size:=HWR.out.lt
    have row5 : w5.ownsRow 0 68 2 (.slice aa j ac) j (ys.flatMap ocSig):=ownS_keep HRW.out (fun B hB => by
     have h1:=lt_of_ownS HRW.out hB
     have h2 : ∃ a,aa = some a ∧ a.block = B:=own_addr hB
     obtain ⟨a,ha1,ha2⟩:=h2
     have h3:=HAB.out a ha1
     have h4:=HST.out.size
     exact (hs5.block (b:=B) (by omega) (by omega) (by omega)).trans (BN.out.block B h1))
    have gg4:=hw5.g_lt
    have hab5 : ∀ b,aa = some b → b.block ≠ g4 ∧ b.block < w5.heap.size:=fun a ha1 => by
     have h3:=HAB.out a ha1
     have h1 : a.block < wr.heap.size:=lt_of_ownS HRW.out (own_addr' HRW.out ha1)
     exact ⟨hs5.ne (by omega) h3.2,Nat.lt_of_lt_of_le h1 (Nat.le_trans hszW hs5.size)⟩
    have W5:=hid hw5
    have S5:=hid (HST.out.trans ((Stp.of_below BN.out).trans hs5))
    have O5:=hid hok
    have BN5:=hid (below_new w5 (.cells #[.string y.1,.string y.2] 68))
    have R6:=hid (ownS_keep (w':=w5.alloc (.cells #[.string y.1,.string y.2] 68)) row5 (fun B hB => BN5.out.block B (lt_of_ownS row5 hB)))
    have HAB5:=hid hab5
    have NC:=hid (new_cellsSig w5 y)
    have hz6 : (w5.alloc (.cells #[.string y.1,.string y.2] 68)).heap.size = w5.heap.size + 1:=by simp
    clear hw5 hs5 row5 hab5 HC1 hok
    go_wp2_with (at_builtin; (refine app_rows _ rfl (.tmp 28) (.tmp 33) 29 rfl 68 i0 _ 2 32 Tryz.underlying29 hi hz0 hz1 hz2 rfl (by decide) _ j _ rfl R6.out ⟨w5.heap.size,0,none⟩ 1 1 (ocSig y) rfl rfl NC.out (one_cellsSig y) (by omega) (by unfold maxLen; omega) (by omega) ?_; intro B cap7 w7 hrow7 hor7; have R7:=hid hrow7; have OR7:=hid hor7; clear hrow7 hor7))
    generalize w5.alloc (.cells #[.string y.1,.string y.2] 68) = W6 at *
    have hBn : w.heap.size ≤ B ∧ B ≠ g4 ∧ Kept (fun k => k = B) W6 w7:=by
     rcases OR7.out with ⟨h1,h2⟩ | ⟨h1,h2⟩
     ·have h1' : aa = some ⟨B,0,none⟩:=(Value.slice.inj h1).1
      exact ⟨(HAB.out _ h1').1,(HAB5.out _ h1').1,h2⟩
     ·have:=S5.out.size
      exact ⟨by omega,by omega,h2.mono (fun k hk => hk.elim)⟩
    have hRw:=S5.out.size
    go_roundw
    ·refine ⟨j + 1,ys ++ [y],some ⟨B,0,none⟩,cap7,g4,cap4,by omega,rfl,rfl,by simp [hyl],?_,?_,?_,?_,?_⟩
     ·intro i y' hi'
      by_cases hij : i < ys.length
      ·rw [List.getElem?_append_left hij] at hi'
       exact HY.out i y' hi'
      ·rw [List.getElem?_append_right (by omega)] at hi'
       have hi0 : i - ys.length = 0:=by
        rcases Nat.eq_zero_or_pos (i - ys.length) with h | h
        ·exact h
        ·rw [List.getElem?_eq_none (by simp; omega)] at hi'; cases hi'
       rw [hi0] at hi'
       simp at hi'
       subst hi'
       obtain rfl : i = j:=by omega
       exact ⟨x,hx,O5.out⟩
     ·have:=R7.out
      simpa [RowS] using this
     ·intro b' hb'
      simp at hb'
      subst hb'
      exact ⟨hBn.1,hBn.2.1⟩
     ·have:=(W5.out.later BN5.out).kept hBn.2.2 (by omega) (Ne.symm hBn.2.1)
      rw [take_flat enc hx]
      simpa [List.append_assoc] using this
     ·exact ⟨(S5.out.k.trans (kept_of BN5.out)).then hBn.2.2 (fun k hk hkB => by have:=hBn.1; omega),S5.out.m⟩
    ·simp [intOf]; omega
   ·obtain rfl : j = k:=by omega
    obtain rfl : x = xk:=by rw [hx] at hk; simpa using hk
    have HC1:=hid (HN.out ys (wr.alloc (.cells #[.string x.1,.string x.2] 68)) g3 cap3 aa ac hyl HY.out (HST.out.trans (Stp.of_below BN.out)) (HWR.out.later BN.out) (ownS_keep HRW.out (fun B hB => BN.out.block B (lt_of_ownS HRW.out hB))) HAB.out)
    go_wp2_with fail
    refine HC1.out.mono ?_
    rintro e w5 ⟨⟨p,rfl⟩,hk5⟩
    exact ⟨rfl,⟨p,rfl⟩,(HST.out.trans (Stp.of_below BN.out)).throw hk5⟩
theorem list131_many (R g cap : Nat) (bs : List Int) (ha : Option Addr) (n hc : Nat) (most : Int) (f : Value) (w : World) (h : Wr w R g cap bs) (hm : most < (n : Int)) :
  Calls Tryz.prog 77 #[cW R,.slice ha n hc,.int .i64 most,f] w (Throws R g 20 w):=by
 have hmc:=meth_count
 have hcc:=enter317
 have HC:=hid (count317_no R g cap bs n most w h hm)
 clear h
 go_enter Tryz.func77,Tryz.ntmps77
 go_wp2_with fail
 refine HC.out.mono ?_
 rintro e w2 ⟨⟨p,rfl⟩,hk⟩
 exact ⟨rfl,⟨p,rfl⟩,hk⟩
end Go.Proofs.YtmgjhfookhaajaaGreatDoor

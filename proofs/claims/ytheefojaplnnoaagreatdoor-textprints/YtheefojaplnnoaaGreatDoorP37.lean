/-
  Texts Ri Ck Bp Bq Ub.
-/
import Derived.Lib.ItoaLen
import Derived.Test.YtheefojaplnnoaaGreatDoorP00
import Derived.Test.YtheefojaplnnoaaGreatDoorP19
import Derived.Test.YtheefojaplnnoaaGreatDoorP24
import Derived.Test.YtheefojaplnnoaaGreatDoorP26
import Derived.Test.YtheefojaplnnoaaGreatDoorP34
import Derived.Test.YtheefojaplnnoaaGreatDoorP36
set_option linter.unusedVariables false
set_option maxRecDepth 100000
set_option maxHeartbeats 16000000
namespace Go.Proofs.YtheefojaplnnoaaGreatDoor
open Go.RowKit
theorem wK (s : ByteArray) (w : World) (hs : s.size ≤ 2000000) :
  Calls Tryz.prog 211 #[.string s] w fun e w' => ∃ a c,e = .returned (.slice a (eY s).length c) ∧ Seg w' a (eY s).length c (eY s) ∧ (a = none → c = 0) ∧ Below w.heap.size w w':=by
 refine (IH s w hs).mono ?_;rintro e w' ⟨a,c,he,hsg,hb⟩;have hl : (eY s).length = (au s.size).length + s.size:=vT s;have hu:=ay s.size;rw [← hl] at he hsg
 refine ⟨a,c,he,hsg,fun h => ?_,hb⟩
 rcases hsg.2.2.2.2 with h0 | ⟨b,off,e2,_⟩
 ·omega
 ·rw [h] at e2; cases e2
theorem qb : ∀ (l : List Int),okL l → ∀ z ∈ dG l,0 ≤ z ∧ z ≤ 255
 | [],_,z,hz => by simp [dG] at hz
 | x :: l,h,z,hz => by
  simp only [dG,List.mem_append] at hz
  rcases hz with hz | hz
  ·exact fE x h.1.1 (by have:=h.1.2; omega) z hz
  ·exact qb l h.2 z hz
theorem Dr {x : InM} (h0 : 0 ≤ x.1) (h1 : x.1 ≤ 255) (h : cS x = 0) : ∀ z ∈ cP x,0 ≤ z ∧ z ≤ 255:=by
 intro z hz;obtain ⟨k1,k2,k3,k4,k5⟩:=lQ h;have lr:=mN (tkV x.1) (lgV x.1);have hr:=mW (tkV x.1) (lgV x.1);unfold cP jK wh at hz
 rcases List.mem_cons.1 hz with rfl | hz
 ·exact ⟨h0,h1⟩
 ·by_cases t0 : tkV x.1 = 0
  ·rw [if_pos t0] at hz; cases hz
  ·rw [if_neg t0] at hz
   by_cases t8 : tkV x.1 = 8
   ·rw [if_pos t8] at hz;have hf:=kG x.2.1 ae ae;exact fE _ hf.1 hf.2 z hz
   ·rw [if_neg t8] at hz;have hh:=hr.2.2 t8
    by_cases t3 : tkV x.1 = 3
    ·rw [if_pos t3] at hz;obtain ⟨q1,q2,q3⟩:=k4 t3
     rcases List.mem_append.1 hz with hz | hz
     ·exact fE _ ae ae z hz
     ·exact qb _ q3 z hz
    ·rw [if_neg t3] at hz;exact fE _ ae ae z hz
theorem JR (x : InM) (w : World) (h0 : 0 ≤ x.1) (h1 : x.1 ≤ 255) (hl : fe w x.2.2.1.1 x.2.2.1.2.1 x.2.2.1.2.2 x.2.2.2) (hx : cS x = 0) :
  Calls Tryz.prog 213 #[.agg #[.int .u8 x.1,.int .i64 x.2.1,.slice x.2.2.1.1 x.2.2.1.2.1 x.2.2.1.2.2]] w fun e w' => ∃ a c,e = .returned (.tuple #[.slice a (cP x).length c,.int .i64 0]) ∧ Seg w' a (cP x).length c (cP x) ∧ (a = none → c = 0) ∧ Below w.heap.size w w':=by
 have h:=CX x.1 x.2.1 _ _ _ x.2.2.2 w h0 h1 hl hx;unfold iH at h;refine h.mono ?_;rintro e w' ⟨v,he,ho,hb⟩;have hle:=ip hx
 obtain ⟨a,c,rfl,hs,hn⟩:=iz (zs:=cP x) ho (by show (cP x).length ≤ _; omega) (Dr h0 h1 hx)
 exact ⟨a,c,he,hs,hn,hb⟩
theorem ja {w : World} {b : Nat} {z : Int} (h : w.cell? ⟨b,0,none⟩ = some (.int .u8 z)) (h0 : 0 ≤ z) (h1 : z ≤ 255) : Seg w (some ⟨b,0,none⟩) [z].length 1 [z] :=
 ⟨rfl,aq,aq,fun y hy => by
  obtain rfl : y = z:=by simpa using hy
  exact ⟨h0,h1⟩,.inr ⟨b,0,rfl,fun j hj => by
  have : j = 0:=by simp at hj; omega
  subst this; simpa using h⟩⟩
theorem wj {nf : Int} {ah : List Ex} {x : Ex} (h : dw nf ah x = 0) : (dz x).length ≤ 60:=by
 unfold dw at h
 split at h
 ·cases h
 ·have a:=cX x.1 32 ae;have b:=ay x.2
  simp only [dz,List.length_append]; omega
theorem gI {α β : Type} (g : α → List β) (L : List α) {t : Nat} {x : α} (h : L[t]? = some x) : (L.take (t + 1)).flatMap g = (L.take t).flatMap g ++ g x:=by
 rw [List.take_add_one,h]
 simp
theorem jF {α : Type} (enc : α → List Int) {xs : List α} {t : Nat} {x : α} (h : xs[t]? = some x) : (xs.take (t + 1)).flatMap enc = (xs.take t).flatMap enc ++ enc x:=gI enc xs h
theorem cj {a b : Int} (h : orE a b = 0) : a = 0 ∧ b = 0:=by
 unfold orE at h
 by_cases ha : a = 0
 ·rw [if_neg (by simpa using ha)] at h; exact ⟨ha,h⟩
 ·rw [if_pos ha] at h; exact absurd h ha
theorem zg {m : MM} (h : eu m = 0) : e1 m = 0 ∧ e2 m = 0 ∧ e3 m = 0 ∧ e4 m = 0 ∧ e5 m = 0 ∧ e6 m = 0 ∧ e7 m = 0 ∧ e8 m = 0:=by
 unfold eu at h;obtain ⟨h1,h⟩:=cj h;obtain ⟨h2,h⟩:=cj h;obtain ⟨h3,h⟩:=cj h;obtain ⟨h4,h⟩:=cj h;obtain ⟨h5,h⟩:=cj h;obtain ⟨h6,h⟩:=cj h;obtain ⟨h7,h⟩:=cj h;exact ⟨h1,h2,h3,h4,h5,h6,h7,h⟩
theorem fG {α : Type} {f : List α → α → Int} {most : Int} {xs : List α} (h : bu f most xs = 0) : ∀ (j : Nat) x,xs[j]? = some x → f (xs.take j) x = 0:=by
 unfold bu at h
 split at h
 ·cases h
 ·intro j x hj
  have:=bq f xs [] h j x hj
  exact b9
theorem gh {α : Type} {f : List α → α → Int} {most : Int} {xs : List α} (h : bu f most xs = 0) : (xs.length : Int) ≤ most ∧ ∀ (j : Nat) x,xs[j]? = some x → f (xs.take j) x = 0:=by
 unfold bu at h
 split at h
 ·cases h
 ·rename_i hl
  refine ⟨ae,fun j x hj => ?_⟩
  have:=bq f xs [] h j x hj
  exact b9
theorem vA {ah : List Sg} {x : Sg} (h : cd ah x = 0) : x.1.size ≤ 8 ∧ bP x.1 8 = true ∧ x.2.size ≤ 8 ∧ bP x.2 8 = true:=by
 unfold cd at h
 by_cases a1 : 8 < x.1.size
 ·rw [if_pos a1] at h; cases h
 rw [if_neg a1] at h
 by_cases a2 : bP x.1 8 = false
 ·rw [if_pos a2] at h; cases h
 rw [if_neg a2] at h
 by_cases a3 : 8 < x.2.size
 ·rw [if_pos a3] at h; cases h
 rw [if_neg a3] at h
 by_cases a4 : bP x.2 8 = false
 ·rw [if_pos a4] at h; cases h
 exact ⟨ae,by simpa using a2,ae,by simpa using a4⟩
theorem wO {sg : List Sg} {left ty : Int} {lo : ByteArray} {xs : List InM} (h : eX sg left ty lo xs = 0) : 0 ≤ ty ∧ ty < sg.length ∧ lo.size + (nO sg ty).size ≤ 64 ∧ bP lo 64 = true ∧ xs.length ≤ 2048 ∧ ∀ (j : Nat) x,xs[j]? = some x → cS x = 0:=by
 unfold eX at h
 by_cases a1 : ty < 0 ∨ (sg.length : Int) ≤ ty
 ·rw [if_pos a1] at h; cases h
 rw [if_neg a1] at h
 by_cases a2 : 64 < lo.size + (nO sg ty).size
 ·rw [if_pos a2] at h; cases h
 rw [if_neg a2] at h
 by_cases a3 : bP lo 64 = false
 ·rw [if_pos a3] at h; cases h
 rw [if_neg a3] at h
 by_cases a4 : min 2048 left < (xs.length : Int)
 ·rw [if_pos a4] at h; cases h
 rw [if_neg a4] at h
 exact ⟨ae,ae,ae,by simpa using a3,ae,fun j x hj => by simpa using bq _ xs [] h j x hj⟩
theorem uK {t : Int} {g : Bool} {a : Int} {l : List Int} (h : chk t g a l = 0) : t ≠ -1 ∧ lo t g ≤ a ∧ a ≤ hi t g ∧ l.length ≤ 16 ∧ (t = 3 → 0 < l.length) ∧ (t ≠ 3 → l.length = 0):=by
 unfold chk at h
 by_cases a1 : t = -1
 ·rw [if_pos a1] at h; cases h
 rw [if_neg a1] at h
 by_cases a2 : a < lo t g ∨ hi t g < a
 ·rw [if_pos a2] at h; cases h
 rw [if_neg a2] at h
 by_cases a3 : t = 3
 ·rw [if_pos a3] at h
  by_cases a4 : l.length < 1 ∨ 16 < l.length
  ·rw [if_pos a4] at h; cases h
  ·exact ⟨a1,ae,ae,ae,fun _ => ae,fun e => absurd a3 e⟩
 ·rw [if_neg a3] at h
  by_cases a4 : l.length = 0
  ·exact ⟨a1,ae,ae,ae,fun e => absurd e a3,fun _ => a4⟩
  ·rw [if_neg a4] at h; cases h
theorem yK {x : Gl} (h : dM x = 0) : (x.1 = 119 ∨ x.1 = 108) ∧ eJ x.2.2 x.1 = true:=by
 unfold dM at h
 by_cases b1 : isL x.1 = false
 ·exact mt
 ·rw [if_neg b1] at h
  have b2 : isL x.1 = true:=by simpa using b1
  simp only [isL,Bool.or_eq_true,decide_eq_true_eq] at b2
  refine ⟨b2,?_⟩
  by_cases b3 : eJ x.2.2 x.1 = false
  ·rw [if_pos b3] at h; cases h
  ·simpa using b3
theorem kw {n x : Int} (h : bQ n x = 0) : 0 ≤ x ∧ x < n:=by
 unfold bQ at h
 by_cases b1 : x < 0 ∨ n ≤ x
 ·exact mt
 ·omega
theorem pV {n x : Int} (h : il n x = 0) : n ≤ x ∧ x ≤ 64:=by
 unfold il at h
 by_cases b1 : x < n ∨ 64 < x
 ·exact mt
 ·omega
theorem uP {room : Int} {ah : List DaM} {x : DaM} (h : bK room ah x = 0) : 0 ≤ x.1 ∧ x.1 ≤ room ∧ d9 ah x.1 = false ∧ (x.2.2.length : Int) ≤ room - x.1 ∧ x.2.2.length ≠ 0:=by
 unfold bK at h
 by_cases b1 : x.1 < 0 ∨ room < x.1
 ·exact mt
 rw [if_neg b1] at h
 by_cases b2 : d9 ah x.1 = true
 ·rw [if_pos b2] at h; cases h
 rw [if_neg b2] at h
 by_cases b3 : room - x.1 < (x.2.2.length : Int)
 ·rw [if_pos b3] at h; cases h
 rw [if_neg b3] at h
 by_cases b4 : x.2.2.length = 0
 ·rw [if_pos b4] at h; cases h
 exact ⟨ae,ae,by simpa using b2,ae,b4⟩
theorem xg {nf : Int} {ah : List Ex} {x : Ex} (h : dw nf ah x = 0) : x.1.size ≤ 32 ∧ iR x.1 = true ∧ fy ah x.1 = false ∧ 0 ≤ x.2 ∧ x.2 < nf:=by
 unfold dw at h
 by_cases b1 : 32 < x.1.size
 ·exact mt
 rw [if_neg b1] at h
 by_cases b2 : iR x.1 = false
 ·rw [if_pos b2] at h; cases h
 rw [if_neg b2] at h
 by_cases b3 : fy ah x.1 = true
 ·rw [if_pos b3] at h; cases h
 rw [if_neg b3] at h
 exact ⟨ae,by simpa using b2,by simpa using b3,(kw h).1,(kw h).2⟩
structure Pas (m : MM) : Prop where
 nt : m.types.length ≤ 64
 ty : ∀ (j : Nat) x,m.types[j]? = some x → x.1.size ≤ 8 ∧ bP x.1 8 = true ∧ x.2.size ≤ 8 ∧ bP x.2 8 = true
 nh : m.hosts.length ≤ 32
 ho : ∀ (j : Nat) x,m.hosts[j]? = some x → 0 ≤ x ∧ x < m.tn
 ng : m.globals.length ≤ 64
 gl : ∀ (j : Nat) x,m.globals[j]? = some x → (x.1 = 119 ∨ x.1 = 108) ∧ eJ x.2.2 x.1 = true
 fi : 0 ≤ m.fi ∧ m.fi ≤ 64
 mo : m.fi ≤ m.mo ∧ m.mo ≤ 64
 nf : m.fns.length ≤ 128
 fn : ∀ (j : Nat) x,m.fns[j]? = some x → 0 ≤ x.1 ∧ x.1 < m.types.length ∧ x.2.1.size ≤ 64 ∧ bP x.2.1 64 = true ∧ x.2.2.2.length ≤ 2048 ∧ ∀ (i : Nat) y,x.2.2.2[i]? = some y → cS y = 0
 nd : m.data.length ≤ 64
 da : ∀ (j : Nat) x,m.data[j]? = some x → 0 ≤ x.1 ∧ x.1 ≤ 262144 ∧ x.2.2.length ≤ 262144 ∧ x.2.2.length ≠ 0
 ne : m.exps.length ≤ 64
 ex : ∀ (j : Nat) x,m.exps[j]? = some x → x.1.size ≤ 32 ∧ iR x.1 = true ∧ 0 ≤ x.2 ∧ x.2 < m.fn
theorem xK {m : MM} (h : cL m = 0) : Pas m:=by
 obtain ⟨h,_⟩:=cj h;obtain ⟨h1,h⟩:=cj h;obtain ⟨h2,h⟩:=cj h;obtain ⟨h3,h⟩:=cj h;obtain ⟨h4,h⟩:=cj h;obtain ⟨h5,h⟩:=cj h;obtain ⟨h6,h⟩:=cj h;obtain ⟨h7,h8⟩:=cj h;obtain ⟨l1,a1⟩:=gh h1;obtain ⟨l2,a2⟩:=gh h2;obtain ⟨l3,a3⟩:=gh h3;obtain ⟨l6,a6⟩:=gh h6;obtain ⟨l7,a7⟩:=gh h7;obtain ⟨l8,a8⟩:=gh h8;have p4:=pV h4;have p5:=pV h5
 refine ⟨ae,fun j x hj => vA (a1 j x hj),ae,fun j x hj => kw (a2 j x hj),ae,fun j x hj => yK (a3 j x hj),p4,p5,ae,fun j x hj => ?_,ae,fun j x hj => ?_,ae,fun j x hj => ?_⟩
 ·have:=wO (a6 j x hj)
  exact ⟨this.1,this.2.1,ae,this.2.2.2.1,this.2.2.2.2.1,this.2.2.2.2.2⟩
 ·have:=uP (a7 j x hj)
  exact ⟨this.1,ae,ae,this.2.2.2.2⟩
 ·have:=xg (a8 j x hj)
  exact ⟨this.1,this.2.1,this.2.2.2.1,this.2.2.2.2⟩
theorem dA (n : Int) (h0 : -9223372036854775808 ≤ n) (h1 : n ≤ 9223372036854775807) : (bp n).size ≤ 21:=by
 have:=Lib.itoa_length_le n h0 h1
 simpa [bp,ByteArray.size] using this
theorem uH (r : List ByteArray) : (Lib.joinTail [32] (r.map (·.data.toList))).length = (r.map (·.size)).sum + r.length:=by
 exact Hz
theorem eI (x : ByteArray) (r : List ByteArray) : (bj (x :: r)).length = x.size + (r.map (·.size)).sum + r.length + 1:=by
 rw [bj,List.length_append,List.map_cons,Lib.join_cons,List.length_append,uH];have e : x.data.toList.length = x.size:=Array.length_toList;rw [e]
 simp only [List.length_cons,List.length_nil]
 omega
theorem iQ {α : Type} (f : α → List UInt8) (K : Nat) : ∀ (l : List α),(∀ x ∈ l,(f x).length ≤ K) → (l.flatMap f).length ≤ l.length * K
 | [],_ => by simp
 | x :: l,h => by
  rw [List.flatMap_cons,List.length_append,List.length_cons,Nat.succ_mul];have h1:=h x aq
  have h2:=iQ f K l (fun y hy => h y (by simp [hy]))
  omega
theorem wG : ∀ c : Nat,c < 256 → (ofV (c : Int)).1.2.1.size ≤ 100:=by
 have h : ((List.range 256).all fun c => decide ((ofV (c : Int)).1.2.1.size ≤ 100)) = true:=aj
 intro c hc
 have:=List.all_eq_true.1 h c (List.mem_range.2 hc)
 exact b9
theorem Ao {p r : ByteArray} (hp : p.size ≤ 8) (hr : r.size ≤ 8) : (qR p r).size ≤ 100:=by
 unfold qR
 split
 ·unfold AB;have h1:=gv p;have h2:=gv r;have h3 : (⟨#[32,45,62,32]⟩ : ByteArray).size = 4:=rfl;rw [ByteArray.size_append,ByteArray.size_append,h3];omega
 ·show 0 ≤ 100
  omega
theorem gA {α : Type} {l : List α} {x : α} (h : x ∈ l) : ∃ j : Nat,l[j]? = some x:=List.mem_iff_getElem?.1 h
theorem Cw : ∀ (l : List Int),(∀ v ∈ l,-9223372036854775808 ≤ v ∧ v ≤ 9223372036854775807) → ((l.map bp).map (·.size)).sum ≤ l.length * 21
 | [],_ => by simp
 | v :: l,h => by
  rw [List.map_cons,List.map_cons,List.sum_cons,List.length_cons,Nat.succ_mul];have h1:=dA v (h v aq).1 (h v aq).2
  have h2:=Cw l (fun u hu => h u (by simp [hu]))
  omega
theorem J3 {y : InM} (h0 : 0 ≤ y.1) (h1 : y.1 ≤ 255) (ha : -9223372036854775808 ≤ y.2.1 ∧ y.2.1 ≤ 9223372036854775807) (hl : y.2.2.2.length ≤ 16) (hr : ∀ v ∈ y.2.2.2,-9223372036854775808 ≤ v ∧ v ≤ 9223372036854775807) : (iW y).length ≤ 1000:=by
 unfold iW fM;rw [eI,mI];have hw:=wG y.1.toNat ae
 rw [show ((y.1.toNat : Nat) : Int) = y.1 by omega] at hw
 split
 ·simp only [List.map_nil,List.sum_nil,List.length_nil]; omega
 ·split
  ·have h2:=Cw y.2.2.2 hr;rw [List.length_map];omega
  ·have h3:=dA y.2.1 ha.1 ha.2
   simp only [List.map_cons,List.map_nil,List.sum_cons,List.sum_nil,List.length_cons,List.length_nil]
   omega
theorem AU {R g : Nat} {m : MM} {w : World} (hM : MOk w R g m) (hp : Pas m) (hcn : ∀ (j : Nat) x,m.fns[j]? = some x → ∀ (i : Nat) y,x.2.2.2[i]? = some y → -9223372036854775808 ≤ y.2.1 ∧ y.2.1 ≤ 9223372036854775807) : (gp m).length ≤ 1000000000:=by
 have b1:=iQ gj 200 m.types (fun x hx => by
  obtain ⟨j,hj⟩:=gA hx
  have:=hp.ty j x hj
  have h2:=Ao this.1 this.2.2.1;unfold gj;rw [eI]
  simp only [List.map_cons,List.map_nil,List.sum_cons,List.sum_nil,List.length_cons,List.length_nil]
  have : BO.size = 4:=rfl
  omega)
 have b2:=iQ cZ 200 m.hosts (fun x hx => by
  obtain ⟨j,hj⟩:=gA hx
  have:=hM.hr j x hj
  have h2:=dA x this.1 ae;unfold cZ;rw [eI]
  simp only [List.map_cons,List.map_nil,List.sum_cons,List.sum_nil,List.length_cons,List.length_nil]
  have : pk.size = 6:=rfl
  omega)
 have b3:=iQ glL 200 m.globals (fun x hx => by
  obtain ⟨j,hj⟩:=gA hx
  have:=hM.gr j x hj
  have h2:=dA (qG x.1 x.2.2) (by unfold qG; split <;> (first | unfold wrap32 | unfold wrap64) <;> omega) (by unfold qG; split <;> (first | unfold wrap32 | unfold wrap64) <;> omega)
  unfold glL;rw [eI]
  simp only [List.map_cons,List.map_nil,List.sum_cons,List.sum_nil,List.length_cons,List.length_nil]
  have h3 : pu.size = 6:=rfl;have h4 : (⟨#[UInt8.ofNat x.1.toNat]⟩ : ByteArray).size = 1:=rfl
  have h5 : (uQ x.2.1).size ≤ 5:=by cases x.2.1 <;> decide
  omega)
 have b4 : (iu m.fi m.mo).length ≤ 200:=by
  have h1:=dA m.fi hM.i0 (by have:=hM.i1; omega)
  have h2:=dA m.mo hM.o0 (by have:=hM.o1; omega)
  unfold iu;rw [eI]
  simp only [List.map_cons,List.map_nil,List.sum_cons,List.sum_nil,List.length_cons,List.length_nil]
  have : po.size = 6:=rfl;omega
 have b5:=iQ fuL 2100000 m.fns (fun x hx => by
  obtain ⟨j,hj⟩:=gA hx;have h1:=hp.fn j x hj;have h2:=hM.fr j x hj
  have h3:=dA x.1 h2.1.1 (by have:=h2.1.2; omega)
  have h4 : (j6 x.2.1).size ≤ 65:=by unfold j6; split <;> first | decide | omega
  have h5:=iQ iW 1000 x.2.2.2 (fun y hy => by
   obtain ⟨i,hi⟩:=gA hy;have g1:=h2.2.2.2 i y hi;have g2:=uK (h1.2.2.2.2.2 i y hi)
   exact J3 g1.1 g1.2.1 (hcn j x hj i y hi) g2.2.2.2.1 (fun v hv => by have:=g1.2.2.1.2.2.2.1 v hv; omega))
  unfold fuL fnL;rw [List.length_append,eI]
  simp only [List.map_cons,List.map_nil,List.sum_cons,List.sum_nil,List.length_cons,List.length_nil]
  have : gG.size = 4:=rfl;have h6:=h1.2.2.2.2.1
  omega)
 have b6:=iQ daL 600000 m.data (fun x hx => by
  obtain ⟨j,hj⟩:=gA hx;have h1:=hp.da j x hj;have h2:=dA x.1 ae ae;unfold daL;rw [eI]
  simp only [List.map_cons,List.map_nil,List.sum_cons,List.sum_nil,List.length_cons,List.length_nil]
  have h3 : zW.size = 4:=rfl
  have h4 : (⟨(gm x.2.2).toArray⟩ : ByteArray).size = 2 * x.2.2.length:=by
   have:=vJ x.2.2
   simpa [ByteArray.size] using this
  omega)
 have b7:=iQ exL 200 m.exps (fun x hx => by
  obtain ⟨j,hj⟩:=gA hx;have h1:=hp.ex j x hj;have h0:=hM.er j x hj;have h2:=dA x.2 h0.1 ae;unfold exL;rw [eI]
  simp only [List.map_cons,List.map_nil,List.sum_cons,List.sum_nil,List.length_cons,List.length_nil]
  have : pn.size = 6:=rfl
  omega)
 have e : (gp m).length = 7 + ((m.types.flatMap gj).length + ((m.hosts.flatMap cZ).length + ((m.globals.flatMap glL).length + ((iu m.fi m.mo).length + ((m.fns.flatMap fuL).length + ((m.data.flatMap daL).length + (m.exps.flatMap exL).length)))))):=by
  simp only [gp,List.length_append]; rfl
 have n1:=hp.nt;have n2:=hp.nh;have n3:=hp.ng;have n4:=hp.nf;have n5:=hp.nd;have n6:=hp.ne;omega
def mQ (m : MM) : ByteArray:=if cL m = 0 then ⟨(gp m).toArray⟩ else ⟨#[]⟩
theorem eW.up {B B' : Nat} {w : World} (h : eW B w) (hb : B ≤ B') : eW B' w:=fun W hW => h W (hW.mono hb)
def DU (m : MM) : Prop:=∀ (j : Nat) x,m.fns[j]? = some x → ∀ (i : Nat) y,x.2.2.2[i]? = some y → -9223372036854775808 ≤ y.2.1 ∧ y.2.1 ≤ 9223372036854775807
theorem Bo (B : Nat) (m : MM) (w : World) (hB : B ≤ w.heap.size) (htn : eW B w) (hk : aX w) (hm : ∀ R g,w.heap.size ≤ R → w.heap.size ≤ g → MOk w R g m) (hir : DU m) :
  Calls Tryz.prog 11 #[.agg (mV m)] w fun e w' => e = .returned (.tuple #[.string (mQ m),.int .i64 (cL m)]) ∧ Below w.heap.size w w':=by
 have B1:=ak w (.cells (mV m) 29)
 have HC:=hid (Ar m (w.alloc (.cells (mV m) 29)) (hk.later B1 hk.pos) (fun R g h1 h2 => (hm R g (by simp at h1; omega) (by simp at h2; omega)).later B1))
 have hb:=heap_alloc_new w (.cells (mV m) 29);have BW:=hid B1;obtain ⟨⟨m0,m1,m2,m3,m4,m5,m6,m7⟩,-⟩:=ax hb;have HMX:=hid hb;have HW : w.alloc (bg m.ta m.tn m.tc m.ha m.hn m.hc m.ga m.gn m.gc m.fi m.mo m.fa m.fn m.fc m.da m.dn m.dc m.ea m.en m.ec) = w.alloc (.cells (mV m) 29):=rfl;have z1 : (w.alloc (.cells (mV m) 29)).heap.size = w.heap.size + 1:=aq;generalize w.alloc (.cells (mV m) 29) = W1 at *;have HM:=hid hm;have HK:=hid hk;have HT:=hid (htn.up hB);have HR:=hid hir
 show Calls Tryz.prog 11 #[.agg #[.slice m.ta m.tn m.tc,.slice m.ha m.hn m.hc,.slice m.ga m.gn m.gc,.int .i64 m.fi,.int .i64 m.mo,.slice m.fa m.fn m.fc,.slice m.da m.dn m.dc,.slice m.ea m.en m.ec]] w _
 unfold mV at HC;clear hm hk htn hir B1 hb
 go_enter Tryz.func11,Tryz.ntmps11
 go_wp2_with fail;refine HC.out.mono ?_;rintro e w2 ⟨rfl,hb2⟩;have B2:=hid (BW.out.trans (hb2.mono BW.out.size));have MX2:=hid (ar hb2 HMX.out);obtain ⟨⟨n0,n1,n2,n3,n4,n5,n6,n7⟩,-⟩:=ax MX2.out;clear hb2 m0 m1 m2 m3 m4 m5 m6 m7 HC HW
 by_cases hx : cL m = 0
 ·have hP:=xK hx
  have hprt : mQ m = ⟨(gp m).toArray⟩:=by unfold mQ; rw [if_pos hx]
  rw [hx];have HPR:=hid hprt;have HX:=hid hx;clear hprt hx;have hMO : MOk w2 w2.heap.size w2.heap.size m:=(HM.out w2.heap.size w2.heap.size B2.out.size B2.out.size).later B2.out;have hlen:=AU hMO hP HR.out;have e1:=hMO.pt.1;have e2:=hMO.ph.1;have e3:=hMO.pg.1;have e4:=hMO.pf.1;have e5:=hMO.pd.1;have e6:=hMO.pe.1
  have hown : Lib.IsBuilder 96 5 w2.heap.size w2.heap.size [] (w2.alloc (.cells #[.pointer none,.slice none 0 0] 96)):=.inl ⟨Nat.le_refl _,.slice none 0 0,(MapKept.heap_alloc w2 _).1,World.ownsRow_nil _ _ _ _,by simp [Value.ownBlock]⟩
  have hPS : PS w2 (w2.alloc (.cells #[.pointer none,.slice none 0 0] 96)) w2.heap.size [] (w2.alloc (.cells #[.pointer none,.slice none 0 0] 96)):=⟨hown,ak w2 _,cN.refl _ _⟩
  have HMod:=hid (OP w2.heap.size w2.heap.size w2.heap.size m w2 (w2.alloc (.cells #[.pointer none,.slice none 0 0] 96)) [] hPS (HT.out.later B2.out |>.up B2.out.size) (HK.out.later B2.out HK.out.pos) hMO aG (fun j x hj => by have:=hP.ty j x hj; omega) (fun j x hj => by have:=(hP.gl j x hj).1; omega) (by have:=hP.nt; omega) (by have:=hP.nh; omega) (by have:=hP.ng; omega) (by have:=hP.nf; omega) (by have:=hP.nd; omega) (by have:=hP.ne; omega) (fun j x hj => ⟨by
   have h1:=(hP.fn j x hj).2.2.2.2.1;have h2:=(hMO.fr j x hj).2.1.1
   omega,HR.out j x hj⟩))
  have HS:=hid (fun (W : World) (hW : Lib.IsBuilder 96 5 w2.heap.size w2.heap.size (Lib.byteCells (gp m)) W) => Gy MK w2.heap.size w2.heap.size (gp m) W hW (by
   intro h0
   have : (gp m).length = 0:=by rw [h0]; rfl
   have e : (gp m).length = 7 + ((m.types.flatMap gj).length + ((m.hosts.flatMap cZ).length + ((m.globals.flatMap glL).length + ((iu m.fi m.mo).length + ((m.fns.flatMap fuL).length + ((m.data.flatMap daL).length + (m.exps.flatMap exL).length)))))):=by
    simp only [gp,List.length_append]; rfl
   omega))
  obtain ⟨⟨q0,q1,q2,q3,q4,q5,q6,q7⟩,-⟩:=ax (ar (ak w2 (.cells #[.pointer none,.slice none 0 0] 96)) MX2.out);have hlt2 : w.heap.size < w2.heap.size:=aV MX2.out;clear hown hPS hMO hP e1 e2 e3 e4 e5 e6 hlen n0 n1 n2 n3 n4 n5 n6 n7;unfold mV at HMod;rw [List.nil_append] at HMod;go_wp2_with fail;refine HMod.out.mono ?_;rintro e w4 ⟨rfl,h4⟩;have P4:=hid h4;clear h4;go_wp2_with fail;refine (HS.out _ P4.out.own).mono ?_;rintro e w5 ⟨rfl,hb5⟩;go_wp2_with fail;go_ret2
  exact ⟨by rw [HPR.out,HX.out]; rfl,B2.out.trans ((P4.out.low.trans hb5).mono B2.out.size)⟩
 ·have hprt : mQ m = ⟨#[]⟩:=by unfold mQ; rw [if_neg hx]
  have HPR:=hid hprt
  have hne : (cL m == 0) = false:=by simpa using hx
  generalize hcc : cL m = c at *;have HCC:=hid hcc;clear hprt hcc;go_wp2_with fail;go_ret2
  exact ⟨by rw [HPR.out,HCC.out]; rfl,B2.out⟩
def unI (y : PIn) : InM:=(y.1,y.2.1,(none,0,0),y.2.2)
def unF (x : PFn) : FuM:=(x.1,x.2.1,(none,0,0),x.2.2.map unI)
def unD (x : Int × List Int) : DaM:=(x.1,(none,0,0),x.2)
def un (M : PM) : MM:={ ta:=none,tn:=M.types.length,tc:=0,types:=M.types,ha:=none,hn:=M.hosts.length,hc:=0,hosts:=M.hosts,ga:=none,gn:=M.globals.length,gc:=0,globals:=M.globals,fi:=M.fi,mo:=M.mo,fa:=none,fn:=M.fns.length,fc:=0,fns:=M.fns.map unF,da:=none,dn:=M.data.length,dc:=0,data:=M.data.map unD,ea:=none,en:=M.exps.length,ec:=0,exps:=M.exps }
theorem lX {α : Type} {f : List α → α → Int} {c : α → α} (h : ∀ ah x,f (ah.map c) (c x) = f ah x) : ∀ (xs ah : List α),bi f (ah.map c) (xs.map c) = bi f ah xs
 | [],ah => rfl
 | x :: r,ah => by
  simp only [List.map_cons,bi,h]
  have e : ah.map c ++ [c x] = (ah ++ [x]).map c:=aq;rw [e,lX h r (ah ++ [x])]
theorem rM {α : Type} {f : List α → α → Int} {c : α → α} (h : ∀ ah x,f (ah.map c) (c x) = f ah x) (most : Int) (xs : List α) : bu f most (xs.map c) = bu f most xs:=by
 unfold bu;rw [List.length_map]
 have:=lX h xs []
 rw [List.map_nil] at this;rw [this]
theorem jh {α β : Type} {f : α → List β} {c : α → α} (h : ∀ x,f (c x) = f x) (xs : List α) : (xs.map c).flatMap f = xs.flatMap f:=by
 rw [List.flatMap_map]
 congr 1
 exact funext h
def cI (y : InM) : InM:=unI (plI y)
def cF (x : FuM) : FuM:=unF (plF x)
def cD (x : DaM) : DaM:=unD (plD x)
theorem pC (x : FuM) : (cF x).2.2.2 = x.2.2.2.map cI:=by simp [cF,plF,unF,cI,Function.comp_def]
theorem JM (sg : List Sg) (ah : List FuM) (x : FuM) : cR sg (ah.map cF) (cF x) = cR sg ah x:=by
 have e : bN (ah.map cF) = bN ah:=by
  unfold bN;rw [List.map_map]
  congr 2
  funext y
  simp only [Function.comp,pC,List.length_map]
 unfold cR;rw [e,pC]
 show eX sg _ x.1 x.2.1 _ = _
 unfold eX;rw [List.length_map]
 have h:=lX (f:=fun (_ : List InM) y => cS y) (c:=cI) (fun _ _ => rfl) x.2.2.2 []
 rw [List.map_nil] at h;rw [h]
theorem Jo (x : FuM) : bX (cF x) = bX x:=by
 unfold bX;rw [pC]
 show nH x.1 x.2.1 _ = _
 unfold nH
 rw [List.length_map,jh (f:=cP) (c:=cI) (fun _ => rfl)]
theorem N8 (x : FuM) : fuL (cF x) = fuL x:=by
 unfold fuL;rw [pC]
 show fnL x.1 x.2.1 _ = _
 unfold fnL
 rw [jh (f:=iW) (c:=cI) (fun _ => rfl)]
theorem Kf (room : Int) (ah : List DaM) (x : DaM) : bK room (ah.map cD) (cD x) = bK room ah x:=by
 have e : ∀ v,d9 (ah.map cD) v = d9 ah v:=by
  intro v;unfold d9;rw [List.getLast?_map]
  cases ah.getLast? <;> rfl
 unfold bK;rw [e];rfl
theorem Fz (m : MM) : (un (pl m)).fns = m.fns.map cF:=by
 show (m.fns.map plF).map unF = _
 rw [List.map_map]; rfl
theorem Af (m : MM) : (un (pl m)).data = m.data.map cD:=by
 show (m.data.map plD).map unD = _
 rw [List.map_map]; rfl
theorem Hv (m : MM) : gp (un (pl m)) = gp m:=by
 unfold gp
 rw [Fz,Af,jh N8,jh (f:=daL) (c:=cD) (fun _ => rfl)]
 rfl
theorem Ge {m : MM} (h : LnM m) : cL (un (pl m)) = cL m:=by
 have h1 : (un (pl m)).tn = m.tn:=h.t.symm;have h2 : (un (pl m)).hn = m.hn:=h.h.symm;have h3 : (un (pl m)).gn = m.gn:=h.g.symm
 have h4 : (un (pl m)).fn = m.fn:=by rw [h.f]; simp [un,pl]
 have h5 : (un (pl m)).dn = m.dn:=by rw [h.d]; simp [un,pl]
 have h6 : (un (pl m)).en = m.en:=h.e.symm;unfold cL eu nY e1 e2 e3 e4 e5 e6 e7 e8;rw [h1,h2,h3,h4,h5,h6,Fz,Af]
 rw [rM (fun ah x => JM _ ah x),rM (fun ah x => Kf _ ah x),jh Jo,jh (f:=ck) (c:=cD) (fun _ => rfl)]
 rfl
theorem xH {m n : MM} (hm : LnM m) (hn : LnM n) (h : pl m = pl n) : cL m = cL n:=by rw [← Ge hm,h,Ge hn]
theorem LS {m n : MM} (h : pl m = pl n) : gp m = gp n:=by rw [← Hv m,h,Hv n]
theorem MI {m n : MM} (hm : LnM m) (hn : LnM n) (h : pl m = pl n) : mQ m = mQ n:=by
 unfold mQ;rw [xH hm hn h,LS h]
theorem qj {α β : Type} {f : α → β} {xs ys : List α} (hl : xs.length = ys.length) (h : ∀ (j : Nat) a b,xs[j]? = some a → ys[j]? = some b → f b = f a) : ys.map f = xs.map f:=by
 apply List.ext_getElem (by simp [hl])
 intro j h1 h2;rw [List.length_map] at h1 h2
 simp only [List.getElem_map]
 exact h j _ _ (aN h2) (aN h1)
theorem LG {x y : InM} (h : mY x y) : plI y = plI x:=by
 obtain ⟨h1,h2,h3,h4⟩:=h;unfold plI;rw [h1,h2,h4]
theorem M9 {x y : FuM} (h : ki x y) : plF y = plF x:=by
 obtain ⟨h1,h2,h3,h4,h5⟩:=h;unfold plF
 rw [h1,h2,qj h4.symm (fun j a b ha hb => LG (h5 j a b ha hb))]
theorem MF {x y : DaM} (h : kY x y) : plD y = plD x:=by
 obtain ⟨h1,h2,h3⟩:=h;unfold plD;rw [h1,h3]
theorem Js {m : MM} {base : Nat} {w : World} {BT BH BG BF BD BE : Nat} {fs : List FuM} {ds : List DaM} (h : MWd m base w BT BH BG BF BD BE fs ds) (hl : LnM m) : pl (wMM m BT BH BG BF BD BE fs ds) = pl m:=by
 unfold pl wMM;dsimp only
 rw [qj (by rw [h.fl,hl.f]) (fun j a b ha hb => M9 (h.fs j a b ha hb)),qj (by rw [h.dl,hl.d]) (fun j a b ha hb => MF (h.ds j a b ha hb))]
theorem ER {m : MM} {base : Nat} {w : World} {BT BH BG BF BD BE : Nat} {fs : List FuM} {ds : List DaM} (h : MWd m base w BT BH BG BF BD BE fs ds) (hl : LnM m) : LnM (wMM m BT BH BG BF BD BE fs ds) :=
 ⟨hl.t,hl.h,hl.g,h.fl.symm,h.dl.symm,hl.e⟩
theorem MSr.len {w : World} {m : MM} (h : MSr w m) : LnM m:=⟨h.pt.1.symm,h.ph.1.symm,h.pg.1.symm,h.pf.1.symm,h.pd.1.symm,h.pe.1.symm⟩
theorem MOk.len {w : World} {R g : Nat} {m : MM} (h : MOk w R g m) : LnM m:=⟨h.pt.1.symm,h.ph.1.symm,h.pg.1.symm,h.pf.1.symm,h.pd.1.symm,h.pe.1.symm⟩
end Go.Proofs.YtheefojaplnnoaaGreatDoor

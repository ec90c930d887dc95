/-
  Texts Ck Bp Bq Ub.
-/
import Derived.Lib.ItoaLen
import Derived.Test.YtheefojaplnnoaaGreatDoorC00
import Derived.Test.YtheefojaplnnoaaGreatDoorC18
import Derived.Test.YtheefojaplnnoaaGreatDoorC19
import Derived.Test.YtheefojaplnnoaaGreatDoorC34
set_option linter.unusedVariables false
set_option maxRecDepth 100000
set_option maxHeartbeats 16000000
namespace Go.Proofs.YtheefojaplnnoaaGreatDoor
open Go.RowKit
theorem fV {α : Type} {f : List α → α → Int} {most : Int} {xs : List α} (h : bI f most xs = 0) : (xs.length : Int) ≤ most ∧ ∀ (j : Nat) x,xs[j]? = some x → f (xs.take j) x = 0:=by
 unfold bI at h
 split at h
 ·cases h
 ·rename_i hl
  refine ⟨ae,fun j x hj => ?_⟩
  have:=bo f xs [] h j x hj
  exact bX
theorem uV {ah : List Sg} {x : Sg} (h : dF ah x = 0) : x.1.size ≤ 8 ∧ bH x.1 8 = true ∧ x.2.size ≤ 8 ∧ bH x.2 8 = true:=by
 unfold dF at h
 by_cases a1 : 8 < x.1.size
 ·rw [if_pos a1] at h; cases h
 rw [if_neg a1] at h
 by_cases a2 : bH x.1 8 = false
 ·rw [if_pos a2] at h; cases h
 rw [if_neg a2] at h
 by_cases a3 : 8 < x.2.size
 ·rw [if_pos a3] at h; cases h
 rw [if_neg a3] at h
 by_cases a4 : bH x.2 8 = false
 ·rw [if_pos a4] at h; cases h
 exact ⟨ae,by simpa using a2,ae,by simpa using a4⟩
theorem vO {sg : List Sg} {left ty : Int} {lo : ByteArray} {xs : List InM} (h : fR sg left ty lo xs = 0) : 0 ≤ ty ∧ ty < sg.length ∧ lo.size + (nJ sg ty).size ≤ 64 ∧ bH lo 64 = true ∧ xs.length ≤ 2048 ∧ ∀ (j : Nat) x,xs[j]? = some x → eo x = 0:=by
 unfold fR at h
 by_cases a1 : ty < 0 ∨ (sg.length : Int) ≤ ty
 ·rw [if_pos a1] at h; cases h
 rw [if_neg a1] at h
 by_cases a2 : 64 < lo.size + (nJ sg ty).size
 ·rw [if_pos a2] at h; cases h
 rw [if_neg a2] at h
 by_cases a3 : bH lo 64 = false
 ·rw [if_pos a3] at h; cases h
 rw [if_neg a3] at h
 by_cases a4 : min 2048 left < (xs.length : Int)
 ·rw [if_pos a4] at h; cases h
 rw [if_neg a4] at h
 exact ⟨ae,ae,ae,by simpa using a3,ae,fun j x hj => by simpa using bo _ xs [] h j x hj⟩
theorem wU {t : Int} {g : Bool} {a : Int} {l : List Int} (h : chk t g a l = 0) : t ≠ -1 ∧ lo t g ≤ a ∧ a ≤ hi t g ∧ l.length ≤ 16 ∧ (t = 3 → 0 < l.length) ∧ (t ≠ 3 → l.length = 0):=by
 unfold chk at h
 by_cases a1 : t = -1
 ·rw [if_pos a1] at h; cases h
 rw [if_neg a1] at h
 by_cases a2 : a < lo t g ∨ hi t g < a
 ·rw [if_pos a2] at h; cases h
 rw [if_neg a2] at h
 by_cases a3 : t = 3
 ·rw [if_pos a3] at h
  by_cases a4 : l.length < 1 ∨ 16 < l.length
  ·rw [if_pos a4] at h; cases h
  ·exact ⟨a1,ae,ae,ae,fun _ => ae,fun e => absurd a3 e⟩
 ·rw [if_neg a3] at h
  by_cases a4 : l.length = 0
  ·exact ⟨a1,ae,ae,ae,fun e => absurd e a3,fun _ => a4⟩
  ·rw [if_neg a4] at h; cases h
theorem zB {x : Gl} (h : iz x = 0) : (x.1 = 119 ∨ x.1 = 108) ∧ fP x.2.2 x.1 = true:=by
 unfold iz at h
 by_cases b1 : isL x.1 = false
 ·exact mA
 ·rw [if_neg b1] at h
  have b2 : isL x.1 = true:=by simpa using b1
  simp only [isL,Bool.or_eq_true,decide_eq_true_eq] at b2
  refine ⟨b2,?_⟩
  by_cases b3 : fP x.2.2 x.1 = false
  ·rw [if_pos b3] at h; cases h
  ·simpa using b3
theorem j5 {n x : Int} (h : dJ n x = 0) : 0 ≤ x ∧ x < n:=by
 unfold dJ at h
 by_cases b1 : x < 0 ∨ n ≤ x
 ·exact mA
 ·omega
theorem pZ {n x : Int} (h : kU n x = 0) : n ≤ x ∧ x ≤ 64:=by
 unfold kU at h
 by_cases b1 : x < n ∨ 64 < x
 ·exact mA
 ·omega
theorem wK {room : Int} {ah : List DaM} {x : DaM} (h : dm room ah x = 0) : 0 ≤ x.1 ∧ x.1 ≤ room ∧ jn ah x.1 = false ∧ (x.2.2.length : Int) ≤ room - x.1 ∧ x.2.2.length ≠ 0:=by
 unfold dm at h
 by_cases b1 : x.1 < 0 ∨ room < x.1
 ·exact mA
 rw [if_neg b1] at h
 by_cases b2 : jn ah x.1 = true
 ·rw [if_pos b2] at h; cases h
 rw [if_neg b2] at h
 by_cases b3 : room - x.1 < (x.2.2.length : Int)
 ·rw [if_pos b3] at h; cases h
 rw [if_neg b3] at h
 by_cases b4 : x.2.2.length = 0
 ·rw [if_pos b4] at h; cases h
 exact ⟨ae,ae,by simpa using b2,ae,b4⟩
theorem yz {nf : Int} {ah : List Ex} {x : Ex} (h : fN nf ah x = 0) : x.1.size ≤ 32 ∧ iW x.1 = true ∧ gA ah x.1 = false ∧ 0 ≤ x.2 ∧ x.2 < nf:=by
 unfold fN at h
 by_cases b1 : 32 < x.1.size
 ·exact mA
 rw [if_neg b1] at h
 by_cases b2 : iW x.1 = false
 ·rw [if_pos b2] at h; cases h
 rw [if_neg b2] at h
 by_cases b3 : gA ah x.1 = true
 ·rw [if_pos b3] at h; cases h
 rw [if_neg b3] at h
 exact ⟨ae,by simpa using b2,by simpa using b3,(j5 h).1,(j5 h).2⟩
structure Pas (m : MM) : Prop where
 nt : m.types.length ≤ 64
 ty : ∀ (j : Nat) x,m.types[j]? = some x → x.1.size ≤ 8 ∧ bH x.1 8 = true ∧ x.2.size ≤ 8 ∧ bH x.2 8 = true
 nh : m.hosts.length ≤ 32
 ho : ∀ (j : Nat) x,m.hosts[j]? = some x → 0 ≤ x ∧ x < m.tn
 ng : m.globals.length ≤ 64
 gl : ∀ (j : Nat) x,m.globals[j]? = some x → (x.1 = 119 ∨ x.1 = 108) ∧ fP x.2.2 x.1 = true
 fi : 0 ≤ m.fi ∧ m.fi ≤ 64
 mo : m.fi ≤ m.mo ∧ m.mo ≤ 64
 nf : m.fns.length ≤ 128
 fn : ∀ (j : Nat) x,m.fns[j]? = some x → 0 ≤ x.1 ∧ x.1 < m.types.length ∧ x.2.1.size ≤ 64 ∧ bH x.2.1 64 = true ∧ x.2.2.2.length ≤ 2048 ∧ ∀ (i : Nat) y,x.2.2.2[i]? = some y → eo y = 0
 nd : m.data.length ≤ 64
 da : ∀ (j : Nat) x,m.data[j]? = some x → 0 ≤ x.1 ∧ x.1 ≤ 262144 ∧ x.2.2.length ≤ 262144 ∧ x.2.2.length ≠ 0
 ne : m.exps.length ≤ 64
 ex : ∀ (j : Nat) x,m.exps[j]? = some x → x.1.size ≤ 32 ∧ iW x.1 = true ∧ 0 ≤ x.2 ∧ x.2 < m.fn
theorem nv {m : MM} (h : cS m = 0) : Pas m:=by
 obtain ⟨h,_⟩:=gj h;obtain ⟨h1,h⟩:=gj h;obtain ⟨h2,h⟩:=gj h;obtain ⟨h3,h⟩:=gj h;obtain ⟨h4,h⟩:=gj h;obtain ⟨h5,h⟩:=gj h;obtain ⟨h6,h⟩:=gj h;obtain ⟨h7,h8⟩:=gj h;obtain ⟨l1,a1⟩:=fV h1;obtain ⟨l2,a2⟩:=fV h2;obtain ⟨l3,a3⟩:=fV h3;obtain ⟨l6,a6⟩:=fV h6;obtain ⟨l7,a7⟩:=fV h7;obtain ⟨l8,a8⟩:=fV h8;have p4:=pZ h4;have p5:=pZ h5
 refine ⟨ae,fun j x hj => uV (a1 j x hj),ae,fun j x hj => j5 (a2 j x hj),ae,fun j x hj => zB (a3 j x hj),p4,p5,ae,fun j x hj => ?_,ae,fun j x hj => ?_,ae,fun j x hj => ?_⟩
 ·have:=vO (a6 j x hj)
  exact ⟨this.1,this.2.1,ae,this.2.2.2.1,this.2.2.2.2.1,this.2.2.2.2.2⟩
 ·have:=wK (a7 j x hj)
  exact ⟨this.1,ae,ae,this.2.2.2.2⟩
 ·have:=yz (a8 j x hj)
  exact ⟨this.1,this.2.1,this.2.2.2.1,this.2.2.2.2⟩
theorem cQ (n : Int) (h0 : -9223372036854775808 ≤ n) (h1 : n ≤ 9223372036854775807) : (aQ n).size ≤ 21:=by
 have:=Lib.itoa_length_le n h0 h1
 simpa [aQ,ByteArray.size] using this
theorem ul (r : List ByteArray) : (Lib.joinTail [32] (r.map (·.data.toList))).length = (r.map (·.size)).sum + r.length:=by
 exact Em
theorem bS (x : ByteArray) (r : List ByteArray) : (bq (x :: r)).length = x.size + (r.map (·.size)).sum + r.length + 1:=by
 rw [bq,List.length_append,List.map_cons,Lib.join_cons,List.length_append,ul];have e : x.data.toList.length = x.size:=Array.length_toList;rw [e]
 simp only [List.length_cons,List.length_nil]
 omega
theorem eP {α : Type} (f : α → List UInt8) (K : Nat) : ∀ (l : List α),(∀ x ∈ l,(f x).length ≤ K) → (l.flatMap f).length ≤ l.length * K
 | [],_ => by simp
 | x :: l,h => by
  rw [List.flatMap_cons,List.length_append,List.length_cons,Nat.succ_mul];have h1:=h x ar
  have h2:=eP f K l (fun y hy => h y jL)
  omega
theorem FD : ∀ c : Nat,c < 256 → (ofV (c : Int)).1.2.1.size ≤ 100:=by
 have h : ((List.range 256).all fun c => decide ((ofV (c : Int)).1.2.1.size ≤ 100)) = true:=ai
 intro c hc
 have:=List.all_eq_true.1 h c (List.mem_range.2 hc)
 exact bX
theorem AV {p r : ByteArray} (hp : p.size ≤ 8) (hr : r.size ≤ 8) : (jF p r).size ≤ 100:=by
 unfold jF
 split
 ·unfold gm;have h1:=jq p;have h2:=jq r;have h3 : (⟨#[32,45,62,32]⟩ : ByteArray).size = 4:=rfl;rw [ByteArray.size_append,ByteArray.size_append,h3];omega
 ·show 0 ≤ 100
  omega
theorem cd {α : Type} {l : List α} {x : α} (h : x ∈ l) : ∃ j : Nat,l[j]? = some x:=List.mem_iff_getElem?.1 h
theorem Cb : ∀ (l : List Int),(∀ v ∈ l,-9223372036854775808 ≤ v ∧ v ≤ 9223372036854775807) → ((l.map aQ).map (·.size)).sum ≤ l.length * 21
 | [],_ => by simp
 | v :: l,h => by
  rw [List.map_cons,List.map_cons,List.sum_cons,List.length_cons,Nat.succ_mul];have h1:=cQ v (h v ar).1 (h v ar).2
  have h2:=Cb l (fun u hu => h u (by simp [hu]))
  omega
theorem Ka {y : InM} (h0 : 0 ≤ y.1) (h1 : y.1 ≤ 255) (ha : -9223372036854775808 ≤ y.2.1 ∧ y.2.1 ≤ 9223372036854775807) (hl : y.2.2.2.length ≤ 16) (hr : ∀ v ∈ y.2.2.2,-9223372036854775808 ≤ v ∧ v ≤ 9223372036854775807) : (mW y).length ≤ 1000:=by
 unfold mW dZ;rw [bS,jN];have hw:=FD y.1.toNat ae
 rw [show ((y.1.toNat : Nat) : Int) = y.1 by omega] at hw
 split
 ·simp only [List.map_nil,List.sum_nil,List.length_nil]; omega
 ·split
  ·have h2:=Cb y.2.2.2 hr;rw [List.length_map];omega
  ·have h3:=cQ y.2.1 ha.1 ha.2;exact Bt
theorem Jj {R g : Nat} {m : MM} {w : World} (hM : MOk w R g m) (hp : Pas m) (hcn : ∀ (j : Nat) x,m.fns[j]? = some x → ∀ (i : Nat) y,x.2.2.2[i]? = some y → -9223372036854775808 ≤ y.2.1 ∧ y.2.1 ≤ 9223372036854775807) : (fe m).length ≤ 1000000000:=by
 have b1:=eP js 200 m.types (fun x hx => by
  obtain ⟨j,hj⟩:=cd hx
  have:=hp.ty j x hj
  have h2:=AV this.1 this.2.2.1;unfold js;rw [bS]
  simp only [List.map_cons,List.map_nil,List.sum_cons,List.sum_nil,List.length_cons,List.length_nil]
  have : eJ.size = 4:=rfl
  omega)
 have b2:=eP fk 200 m.hosts (fun x hx => by
  obtain ⟨j,hj⟩:=cd hx
  have:=hM.hr j x hj
  have h2:=cQ x this.1 ae;unfold fk;rw [bS]
  simp only [List.map_cons,List.map_nil,List.sum_cons,List.sum_nil,List.length_cons,List.length_nil]
  have : dI.size = 6:=rfl
  omega)
 have b3:=eP glL 200 m.globals (fun x hx => by
  obtain ⟨j,hj⟩:=cd hx
  have:=hM.gr j x hj
  have h2:=cQ (gS x.1 x.2.2) (by unfold gS; split <;> (first | unfold wrap32 | unfold wrap64) <;> omega) (by unfold gS; split <;> (first | unfold wrap32 | unfold wrap64) <;> omega)
  unfold glL;rw [bS]
  simp only [List.map_cons,List.map_nil,List.sum_cons,List.sum_nil,List.length_cons,List.length_nil]
  have h3 : cX.size = 6:=rfl;have h4 : (⟨#[UInt8.ofNat x.1.toNat]⟩ : ByteArray).size = 1:=rfl
  have h5 : (ig x.2.1).size ≤ 5:=by cases x.2.1 <;> decide
  omega)
 have b4 : (lR m.fi m.mo).length ≤ 200:=by
  have h1:=cQ m.fi hM.i0 (by have:=hM.i1; omega)
  have h2:=cQ m.mo hM.o0 (by have:=hM.o1; omega)
  exact Hy
 have b5:=eP fuL 2100000 m.fns (fun x hx => by
  obtain ⟨j,hj⟩:=cd hx;have h1:=hp.fn j x hj;have h2:=hM.fr j x hj
  have h3:=cQ x.1 h2.1.1 (by have:=h2.1.2; omega)
  have h4 : (ia x.2.1).size ≤ 65:=by unfold ia; split <;> first | decide | omega
  have h5:=eP mW 1000 x.2.2.2 (fun y hy => by
   obtain ⟨i,hi⟩:=cd hy;have g1:=h2.2.2.2 i y hi;have g2:=wU (h1.2.2.2.2.2 i y hi)
   exact Ka g1.1 g1.2.1 (hcn j x hj i y hi) g2.2.2.2.1 (fun v hv => by have:=g1.2.2.1.2.2.2.1 v hv; omega))
  unfold fuL fnL;rw [List.length_append,bS]
  simp only [List.map_cons,List.map_nil,List.sum_cons,List.sum_nil,List.length_cons,List.length_nil]
  have : dO.size = 4:=rfl;have h6:=h1.2.2.2.2.1
  omega)
 have b6:=eP daL 600000 m.data (fun x hx => by
  obtain ⟨j,hj⟩:=cd hx;have h1:=hp.da j x hj;have h2:=cQ x.1 ae ae;unfold daL;rw [bS]
  simp only [List.map_cons,List.map_nil,List.sum_cons,List.sum_nil,List.length_cons,List.length_nil]
  have h3 : gK.size = 4:=rfl
  have h4 : (⟨(eX x.2.2).toArray⟩ : ByteArray).size = 2 * x.2.2.length:=by
   have:=qj x.2.2
   simpa [ByteArray.size] using this
  omega)
 have b7:=eP exL 200 m.exps (fun x hx => by
  obtain ⟨j,hj⟩:=cd hx;have h1:=hp.ex j x hj;have h0:=hM.er j x hj;have h2:=cQ x.2 h0.1 ae;unfold exL;rw [bS]
  simp only [List.map_cons,List.map_nil,List.sum_cons,List.sum_nil,List.length_cons,List.length_nil]
  have : dv.size = 6:=rfl
  omega)
 have e : (fe m).length = 7 + ((m.types.flatMap js).length + ((m.hosts.flatMap fk).length + ((m.globals.flatMap glL).length + ((lR m.fi m.mo).length + ((m.fns.flatMap fuL).length + ((m.data.flatMap daL).length + (m.exps.flatMap exL).length)))))):=by
  exact oV
 have n1:=hp.nt;have n2:=hp.nh;have n3:=hp.ng;have n4:=hp.nf;have n5:=hp.nd;have n6:=hp.ne;omega
def uz (m : MM) : ByteArray:=if cS m = 0 then ⟨(fe m).toArray⟩ else ⟨#[]⟩
theorem ij.up {B B' : Nat} {w : World} (h : ij B w) (hb : B ≤ B') : ij B' w:=fun W hW => h W (hW.mono hb)
def wL (m : MM) : Prop:=∀ (j : Nat) x,m.fns[j]? = some x → ∀ (i : Nat) y,x.2.2.2[i]? = some y → -9223372036854775808 ≤ y.2.1 ∧ y.2.1 ≤ 9223372036854775807
theorem sw (B : Nat) (m : MM) (w : World) (hB : B ≤ w.heap.size) (htn : ij B w) (hk : aT w) (hm : ∀ R g,w.heap.size ≤ R → w.heap.size ≤ g → MOk w R g m) (hir : wL m) :
  Calls Tryz.prog 11 #[.agg (mV m)] w fun e w' => e = .returned (.tuple #[.string (uz m),.int .i64 (cS m)]) ∧ Below w.heap.size w w':=by
 have B1:=ag w (.cells (mV m) 29)
 have HC:=hid (zQ m (w.alloc (.cells (mV m) 29)) (hk.later B1 hk.pos) (fun R g h1 h2 => (hm R g (by simp at h1; omega) (by simp at h2; omega)).later B1))
 have hb:=heap_alloc_new w (.cells (mV m) 29);have BW:=hid B1;obtain ⟨⟨m0,m1,m2,m3,m4,m5,m6,m7⟩,-⟩:=av hb;have HMX:=hid hb;have HW : w.alloc (ck m.ta m.tn m.tc m.ha m.hn m.hc m.ga m.gn m.gc m.fi m.mo m.fa m.fn m.fc m.da m.dn m.dc m.ea m.en m.ec) = w.alloc (.cells (mV m) 29):=rfl;have z1 : (w.alloc (.cells (mV m) 29)).heap.size = w.heap.size + 1:=ar;generalize w.alloc (.cells (mV m) 29) = W1 at *;have HM:=hid hm;have HK:=hid hk;have HT:=hid (htn.up hB);have HR:=hid hir
 show Calls Tryz.prog 11 #[.agg #[.slice m.ta m.tn m.tc,.slice m.ha m.hn m.hc,.slice m.ga m.gn m.gc,.int .i64 m.fi,.int .i64 m.mo,.slice m.fa m.fn m.fc,.slice m.da m.dn m.dc,.slice m.ea m.en m.ec]] w _
 unfold mV at HC;clear hm hk htn hir B1 hb
 go_enter Tryz.func11,Tryz.ntmps11
 go_wp2_with fail;refine HC.out.mono ?_;rintro e w2 ⟨rfl,hb2⟩;have B2:=hid (BW.out.trans (hb2.mono BW.out.size));have MX2:=hid (ak hb2 HMX.out);obtain ⟨⟨n0,n1,n2,n3,n4,n5,n6,n7⟩,-⟩:=av MX2.out;clear hb2 m0 m1 m2 m3 m4 m5 m6 m7 HC HW
 by_cases hx : cS m = 0
 ·have hP:=nv hx
  have hprt : uz m = ⟨(fe m).toArray⟩:=by unfold uz; rw [if_pos hx]
  rw [hx];have HPR:=hid hprt;have HX:=hid hx;clear hprt hx;have hMO : MOk w2 w2.heap.size w2.heap.size m:=(HM.out w2.heap.size w2.heap.size B2.out.size B2.out.size).later B2.out;have hlen:=Jj hMO hP HR.out;have e1:=hMO.pt.1;have e2:=hMO.ph.1;have e3:=hMO.pg.1;have e4:=hMO.pf.1;have e5:=hMO.pd.1;have e6:=hMO.pe.1
  have hown : Lib.IsBuilder 96 5 w2.heap.size w2.heap.size [] (w2.alloc (.cells #[.pointer none,.slice none 0 0] 96)):=.inl ⟨Nat.le_refl _,.slice none 0 0,(MapKept.heap_alloc w2 _).1,World.ownsRow_nil _ _ _ _,by simp [Value.ownBlock]⟩
  have hPS : PS w2 (w2.alloc (.cells #[.pointer none,.slice none 0 0] 96)) w2.heap.size [] (w2.alloc (.cells #[.pointer none,.slice none 0 0] 96)):=⟨hown,ag w2 _,cL.refl _ _⟩
  have HMod:=hid (Oh w2.heap.size w2.heap.size w2.heap.size m w2 (w2.alloc (.cells #[.pointer none,.slice none 0 0] 96)) [] hPS (HT.out.later B2.out |>.up B2.out.size) (HK.out.later B2.out HK.out.pos) hMO aL (fun j x hj => by have:=hP.ty j x hj; omega) (fun j x hj => by have:=(hP.gl j x hj).1; omega) (by have:=hP.nt; omega) (by have:=hP.nh; omega) (by have:=hP.ng; omega) (by have:=hP.nf; omega) (by have:=hP.nd; omega) (by have:=hP.ne; omega) (fun j x hj => ⟨by
   have h1:=(hP.fn j x hj).2.2.2.2.1;have h2:=(hMO.fr j x hj).2.1.1
   omega,HR.out j x hj⟩))
  have HS:=hid (fun (W : World) (hW : Lib.IsBuilder 96 5 w2.heap.size w2.heap.size (Lib.byteCells (fe m)) W) => Fv Nt w2.heap.size w2.heap.size (fe m) W hW (by
   intro h0
   have : (fe m).length = 0:=by rw [h0]; rfl
   have e : (fe m).length = 7 + ((m.types.flatMap js).length + ((m.hosts.flatMap fk).length + ((m.globals.flatMap glL).length + ((lR m.fi m.mo).length + ((m.fns.flatMap fuL).length + ((m.data.flatMap daL).length + (m.exps.flatMap exL).length)))))):=by
    exact oV
   omega))
  obtain ⟨⟨q0,q1,q2,q3,q4,q5,q6,q7⟩,-⟩:=av (ak (ag w2 (.cells #[.pointer none,.slice none 0 0] 96)) MX2.out);have hlt2 : w.heap.size < w2.heap.size:=aS MX2.out;clear hown hPS hMO hP e1 e2 e3 e4 e5 e6 hlen n0 n1 n2 n3 n4 n5 n6 n7;unfold mV at HMod;rw [List.nil_append] at HMod;go_wp2_with fail;refine HMod.out.mono ?_;rintro e w4 ⟨rfl,h4⟩;have P4:=hid h4;clear h4;go_wp2_with fail;refine (HS.out _ P4.out.own).mono ?_;rintro e w5 ⟨rfl,hb5⟩;go_wp2_with fail;go_ret2
  exact ⟨by rw [HPR.out,HX.out]; rfl,B2.out.trans ((P4.out.low.trans hb5).mono B2.out.size)⟩
 ·have hprt : uz m = ⟨#[]⟩:=by unfold uz; rw [if_neg hx]
  have HPR:=hid hprt
  have hne : (cS m == 0) = false:=by simpa using hx
  generalize hcc : cS m = c at *;have HCC:=hid hcc;clear hprt hcc;go_wp2_with fail;go_ret2
  exact ⟨by rw [HPR.out,HCC.out]; rfl,B2.out⟩
def unI (y : PIn) : InM:=(y.1,y.2.1,(none,0,0),y.2.2)
def unF (x : PFn) : FuM:=(x.1,x.2.1,(none,0,0),x.2.2.map unI)
def unD (x : Int × List Int) : DaM:=(x.1,(none,0,0),x.2)
def un (M : PM) : MM:={ ta:=none,tn:=M.types.length,tc:=0,types:=M.types,ha:=none,hn:=M.hosts.length,hc:=0,hosts:=M.hosts,ga:=none,gn:=M.globals.length,gc:=0,globals:=M.globals,fi:=M.fi,mo:=M.mo,fa:=none,fn:=M.fns.length,fc:=0,fns:=M.fns.map unF,da:=none,dn:=M.data.length,dc:=0,data:=M.data.map unD,ea:=none,en:=M.exps.length,ec:=0,exps:=M.exps }
theorem ld {α : Type} {f : List α → α → Int} {c : α → α} (h : ∀ ah x,f (ah.map c) (c x) = f ah x) : ∀ (xs ah : List α),cM f (ah.map c) (xs.map c) = cM f ah xs
 | [],ah => rfl
 | x :: r,ah => by
  simp only [List.map_cons,cM,h]
  have e : ah.map c ++ [c x] = (ah ++ [x]).map c:=ar;rw [e,ld h r (ah ++ [x])]
theorem rz {α : Type} {f : List α → α → Int} {c : α → α} (h : ∀ ah x,f (ah.map c) (c x) = f ah x) (most : Int) (xs : List α) : bI f most (xs.map c) = bI f most xs:=by
 unfold bI;rw [List.length_map]
 have:=ld h xs []
 rw [List.map_nil] at this;rw [this]
theorem qz {α β : Type} {f : α → List β} {c : α → α} (h : ∀ x,f (c x) = f x) (xs : List α) : (xs.map c).flatMap f = xs.flatMap f:=by
 rw [List.flatMap_map]
 congr 1
 exact funext h
def cI (y : InM) : InM:=unI (plI y)
def cF (x : FuM) : FuM:=unF (plF x)
def cD (x : DaM) : DaM:=unD (plD x)
theorem s9 (x : FuM) : (cF x).2.2.2 = x.2.2.2.map cI:=by simp [cF,plF,unF,cI,Function.comp_def]
theorem Km (sg : List Sg) (ah : List FuM) (x : FuM) : fQ sg (ah.map cF) (cF x) = fQ sg ah x:=by
 have e : cR (ah.map cF) = cR ah:=by
  unfold cR;rw [List.map_map]
  congr 2
  funext y
  simp only [Function.comp,s9,List.length_map]
 unfold fQ;rw [e,s9]
 show fR sg _ x.1 x.2.1 _ = _
 unfold fR;rw [List.length_map]
 have h:=ld (f:=fun (_ : List InM) y => eo y) (c:=cI) (fun _ _ => rfl) x.2.2.2 []
 rw [List.map_nil] at h;rw [h]
theorem JV (x : FuM) : cT (cF x) = cT x:=by
 unfold cT;rw [s9]
 show nY x.1 x.2.1 _ = _
 unfold nY
 rw [List.length_map,qz (f:=gp) (c:=cI) (fun _ => rfl)]
theorem J0 (room : Int) (ah : List DaM) (x : DaM) : dm room (ah.map cD) (cD x) = dm room ah x:=by
 have e : ∀ v,jn (ah.map cD) v = jn ah v:=by
  intro v;unfold jn;rw [List.getLast?_map]
  cases ah.getLast? <;> rfl
 unfold dm;rw [e];rfl
theorem Np (m : MM) : (un (pl m)).fns = m.fns.map cF:=by
 show (m.fns.map plF).map unF = _
 rw [List.map_map]; rfl
theorem Jm (m : MM) : (un (pl m)).data = m.data.map cD:=by
 show (m.data.map plD).map unD = _
 rw [List.map_map]; rfl
theorem Gn {m : MM} (h : LnM m) : cS (un (pl m)) = cS m:=by
 have h1 : (un (pl m)).tn = m.tn:=h.t.symm;have h2 : (un (pl m)).hn = m.hn:=h.h.symm;have h3 : (un (pl m)).gn = m.gn:=h.g.symm
 have h4 : (un (pl m)).fn = m.fn:=by rw [h.f]; simp [un,pl]
 have h5 : (un (pl m)).dn = m.dn:=by rw [h.d]; simp [un,pl]
 have h6 : (un (pl m)).en = m.en:=h.e.symm;unfold cS fU uP e1 e2 e3 e4 e5 e6 e7 e8;rw [h1,h2,h3,h4,h5,h6,Np,Jm]
 rw [rz (fun ah x => Km _ ah x),rz (fun ah x => J0 _ ah x),qz JV,qz (f:=dM) (c:=cD) (fun _ => rfl)]
 rfl
theorem Fp {m n : MM} (hm : LnM m) (hn : LnM n) (h : pl m = pl n) : cS m = cS n:=by rw [← Gn hm,h,Gn hn]
theorem MSr.len {w : World} {m : MM} (h : MSr w m) : LnM m:=⟨h.pt.1.symm,h.ph.1.symm,h.pg.1.symm,h.pf.1.symm,h.pd.1.symm,h.pe.1.symm⟩
theorem MOk.len {w : World} {R g : Nat} {m : MM} (h : MOk w R g m) : LnM m:=⟨h.pt.1.symm,h.ph.1.symm,h.pg.1.symm,h.pf.1.symm,h.pd.1.symm,h.pe.1.symm⟩
end Go.Proofs.YtheefojaplnnoaaGreatDoor

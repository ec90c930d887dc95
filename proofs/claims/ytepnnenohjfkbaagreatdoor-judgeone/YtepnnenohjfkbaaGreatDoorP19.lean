/-
  Texts Wk Sd.
-/
import Derived.Test.YtepnnenohjfkbaaGreatDoorP13
import Derived.Test.YtepnnenohjfkbaaGreatDoorP14
import Derived.Test.YtepnnenohjfkbaaGreatDoorP18
set_option linter.unusedVariables false
set_option maxRecDepth 100000
set_option maxHeartbeats 16000000
namespace Go.Proofs.YtepnnenohjfkbaaGreatDoor
open Go.RowKit
abbrev FuM:=Int × ByteArray × SLv × List InM
def gP (sg : List Sg) (ty : Int) : ByteArray:=(sg.getD ty.toNat (⟨#[]⟩,⟨#[]⟩)).1
def dU (sg : List Sg) (left : Int) (ty : Int) (lo : ByteArray) (xs : List InM) : Int :=
 if ty < 0 ∨ (sg.length : Int) ≤ ty then 30 else if 64 < lo.size + (gP sg ty).size then 13 else if lett lo 64 = false then 15 else if min 2048 left < (xs.length : Int) then 20 else bN (fun _ x => cX x) [] xs
def na (ty : Int) (lo : ByteArray) (xs : List InM) : List Int:=am ty ++ ib lo ++ (am xs.length ++ xs.flatMap dH)
theorem eP {sg : List Sg} {t : Nat} {p r : ByteArray} (h : sg[t]? = some (p,r)) : gP sg (t : Int) = p:=by
 simp [gP,List.getD,h]
section
variable (R g cap : Nat) (bs : List Int) (ty left : Int) (lo : ByteArray) (ca : Option Addr) (cn cc : Nat) (sa : Option Addr) (sn sc : Nat) (sg : List Sg) (xs : List InM) (w : World)
theorem tB (hmem : AtIn w ca cn xs) (hne : ∀ b off c,nz cn ca = some ⟨b,off,c⟩ → b ≠ R ∧ b ≠ g) (hbl : ∀ b off c,nz cn ca = some ⟨b,off,c⟩ → b < w.heap.size) (hok : ∀ (j : Nat) x,xs[j]? = some x → ly w R g x) (hil : ∀ (j : Nat) x,xs[j]? = some x → ∀ b off c,nz x.2.2.1.2.1 x.2.2.1.1 = some ⟨b,off,c⟩ → b < w.heap.size) {W : World} {g2 : Nat} (hst : Stp R g g2 w W) :
  AtIn W ca cn xs ∧ (∀ b off c,nz cn ca = some ⟨b,off,c⟩ → b ≠ R ∧ b ≠ g2) ∧ (∀ (j : Nat) x,xs[j]? = some x → ly W R g2 x):=by
 refine ⟨hmem.kept hst.k (fun b off c h => by have:=hne b off c h; simp; omega),fun b off c h => ⟨(hne b off c h).1,hst.ne (hbl b off c h) (hne b off c h).2⟩,fun j x hj => ?_⟩
 have h:=hok j x hj
 exact ⟨h.r0,h.r1,h.seg' hst,fun b off c hb => ⟨(h.ne b off c hb).1,hst.ne (hil j x hj b off c hb) (h.ne b off c hb).2⟩⟩
theorem tY (h : Wr w R g cap bs) (hb : bs.length + 400000000000 ≤ 1099511627776) (hs : sn ≤ 100000) (hR0 : R ≠ 0) (hg0 : g ≠ 0) (hk : aL w) (hsg : bj w sa sn sg) (hne : ∀ b off c,sa = some ⟨b,off,c⟩ → b ≠ R ∧ b ≠ g) (hp8 : ∀ (t : Nat) p r,sg[t]? = some (p,r) → p.size ≤ 8) (hcn : cn ≤ 100000 ∨ 2048 < cn) (hmem : AtIn w ca cn xs) (hcne : ∀ b off c,nz cn ca = some ⟨b,off,c⟩ → b ≠ R ∧ b ≠ g) (hcbl : ∀ b off c,nz cn ca = some ⟨b,off,c⟩ → b < w.heap.size) (hok : ∀ (j : Nat) x,xs[j]? = some x → ly w R g x) (hil : ∀ (j : Nat) x,xs[j]? = some x → ∀ b off c,nz x.2.2.1.2.1 x.2.2.1.1 = some ⟨b,off,c⟩ → b < w.heap.size) (hx : dU sg left ty lo xs = 0) :
  Calls Tryz.prog 125 #[cW R,.agg #[.int .i64 ty,.string lo,.slice ca cn cc],.slice sa sn sc,.int .i64 left] w (fun e w' => ∃ (aa : Option Addr) (ac : Nat),e = .returned (.agg #[.int .i64 ty,.string lo,.slice aa cn ac]) ∧ ∃ g' cap',Wr w' R g' cap' (bs ++ na ty lo xs) ∧ Stp R g g' w w'):=by
 have hxl:=hmem.1;have hsl:=hsg.1;unfold dU at hx
 split at hx
 ·cases hx
 ·rename_i c1
  split at hx
  ·cases hx
  ·rename_i c2
   split at hx
   ·cases hx
   ·rename_i c3
    split at hx
    ·cases hx
    ·rename_i c4
     obtain ⟨t,rfl⟩ : ∃ t : Nat,ty = t:=⟨ty.toNat,by omega⟩
     have hlt : lett lo 64 = true:=by simpa using c3
     refine (Dk R g cap bs t left lo ca cn cc sa sn sc sg w h (by omega) hs (by omega) hsg hne (fun p r hp => hp8 t p r hp) (fun p r hp => by have:=eP hp; rw [this] at c2; omega) hlt (am cn ++ xs.flatMap dH)
      (fun W g2 cap2 hW hst hA hAg => ?_)).mono ?_
     ·obtain ⟨m1,m2,m3⟩:=tB R g ca cn xs w hmem hcne hcbl hok hil hst
      have hg2 : g2 ≠ 0:=Ne.symm (hst.ne (by have:=h.lt; omega) (Ne.symm hg0))
      have hu:=aC (t : Int)
      have hlo:=cM lo 64 (by omega)
      exact oL R g2 cap2 _ ca cn cc (min 2048 left) w.heap.size xs W hW (by rw [List.length_append,List.length_append]; omega) (by omega) (by omega) hR0 hg2 (hk.kept hst.k (by simp; omega)) hA (by have:=h.lt; omega) hAg m1 m2 m3 hx
     ·rintro e w' ⟨aa,ac,he,g',cap',hw',hs'⟩;refine ⟨aa,ac,he,g',cap',?_,hs'⟩;rw [← hxl] at hw'
      simpa [na,List.append_assoc] using hw'
theorem Dr (h : Wr w R g cap bs) (hb : bs.length + 400000000000 ≤ 1099511627776) (hs : sn ≤ 100000) (hR0 : R ≠ 0) (hg0 : g ≠ 0) (hk : aL w) (hsg : bj w sa sn sg) (hne : ∀ b off c,sa = some ⟨b,off,c⟩ → b ≠ R ∧ b ≠ g) (hp8 : ∀ (t : Nat) p r,sg[t]? = some (p,r) → p.size ≤ 8) (hcn : cn ≤ 100000 ∨ 2048 < cn) (hmem : AtIn w ca cn xs) (hcne : ∀ b off c,nz cn ca = some ⟨b,off,c⟩ → b ≠ R ∧ b ≠ g) (hcbl : ∀ b off c,nz cn ca = some ⟨b,off,c⟩ → b < w.heap.size) (hok : ∀ (j : Nat) x,xs[j]? = some x → ly w R g x) (hil : ∀ (j : Nat) x,xs[j]? = some x → ∀ b off c,nz x.2.2.1.2.1 x.2.2.1.1 = some ⟨b,off,c⟩ → b < w.heap.size) (hty : -9223372036854775808 ≤ ty) (hty1 : ty < 9223372036854775808) (hlo : lo.size ≤ 1073741824 ∨ 64 < lo.size) (hx : dU sg left ty lo xs ≠ 0) :
  Calls Tryz.prog 125 #[cW R,.agg #[.int .i64 ty,.string lo,.slice ca cn cc],.slice sa sn sc,.int .i64 left] w (aG R g (dU sg left ty lo xs) w):=by
 have hxl:=hmem.1;have hsl:=hsg.1;have hRl:=h.lt;unfold dU at hx ⊢
 by_cases c1 : ty < 0 ∨ (sg.length : Int) ≤ ty
 ·rw [if_pos c1]
  exact ux R g cap bs left lo ca cn cc sa sn sc w ty h hty hty1 (by omega) hs
 rw [if_neg c1] at hx ⊢
 obtain ⟨t,rfl⟩ : ∃ t : Nat,ty = t:=⟨ty.toNat,by omega⟩
 by_cases c2 : 64 < lo.size + (gP sg t).size
 ·rw [if_pos c2]
  exact pk R g cap bs t left lo ca cn cc sa sn sc sg w h (by omega) hs (by omega) hsg hne (fun p r hp => hp8 t p r hp) 13 (fun W g1 cap1 p r hp hps hW => dh R g1 cap1 _ lo _ _ W hW (by have:=eP hp; rw [this] at c2; omega))
 rw [if_neg c2] at hx ⊢
 by_cases c3 : lett lo 64 = false
 ·rw [if_pos c3]
  exact pk R g cap bs t left lo ca cn cc sa sn sc sg w h (by omega) hs (by omega) hsg hne (fun p r hp => hp8 t p r hp) 15 (fun W g1 cap1 p r hp hps hW => cO R g1 cap1 _ lo _ 177 #[] 15 W hW (by have:=eP hp; rw [this] at c2; omega) (fun _ _ => rfl) (eq lo _ W (by omega) (by rw [cd lo 256 64 (by omega) (by omega)]; exact c3)))
 rw [if_neg c3] at hx ⊢
 have c3' : lett lo 64 = true:=by simpa using c3
 have hlo8 : ∀ p r,sg[t]? = some (p,r) → lo.size + p.size ≤ 64:=fun p r hp => by have:=eP hp; rw [this] at c2; omega
 have hu:=aC (t : Int)
 have hle:=cM lo 64 (by omega)
 by_cases c4 : min 2048 left < (xs.length : Int)
 ·rw [if_pos c4]
  exact C8 R g cap bs t left lo ca cn cc sa sn sc sg w h (by omega) hs (by omega) hsg hne (fun p r hp => hp8 t p r hp) hlo8 c3' 20 (fun W g2 cap2 hW hst hA hAg => nB R g2 cap2 _ ca cn cc _ _ W hW (by omega))
 rw [if_neg c4] at hx ⊢
 refine C8 R g cap bs t left lo ca cn cc sa sn sc sg w h (by omega) hs (by omega) hsg hne (fun p r hp => hp8 t p r hp) hlo8 c3' _ (fun W g2 cap2 hW hst hA hAg => ?_)
 obtain ⟨m1,m2,m3⟩:=tB R g ca cn xs w hmem hcne hcbl hok hil hst
 have hg2 : g2 ≠ 0:=Ne.symm (hst.ne (by omega) (Ne.symm hg0))
 exact sH R g2 cap2 _ ca cn cc (min 2048 left) w.heap.size xs W hW (by rw [List.length_append,List.length_append]; omega) (by omega) (by omega) hR0 hg2 (hk.kept hst.k (by simp; omega)) hA (by omega) hAg m1 m2 m3 hx
end
def Ce (xs : List FuM) : Nat:=(xs.map fun x => x.2.2.2.length).sum
theorem C5 {xs : List FuM} {j : Nat} {x : FuM} (hx : xs[j]? = some x) : Ce (xs.take (j + 1)) = Ce (xs.take j) + x.2.2.2.length:=by
 have hj:=au hx;rw [List.take_succ_eq_append_getElem hj];rw [List.getElem?_eq_getElem hj] at hx
 simp at hx
 simp [Ce,hx]
def ey (sg : List Sg) (ah : List FuM) (x : FuM) : Int:=dU sg (16384 - Ce ah) x.1 x.2.1 x.2.2.2
def cj (x : FuM) : List Int:=na x.1 x.2.1 x.2.2.2
structure Dx (w : World) (R g L : Nat) (x : FuM) : Prop where
 r0 : -9223372036854775808 ≤ x.1
 r1 : x.1 < 9223372036854775808
 mem : AtIn w x.2.2.1.1 x.2.2.1.2.1 x.2.2.2
 ne : ∀ b off c,nz x.2.2.1.2.1 x.2.2.1.1 = some ⟨b,off,c⟩ → b ≠ R ∧ b ≠ g ∧ b ≠ L
 lt : ∀ b off c,nz x.2.2.1.2.1 x.2.2.1.1 = some ⟨b,off,c⟩ → b < w.heap.size
 ins : ∀ (j : Nat) y,x.2.2.2[j]? = some y → ly w R g y
 inl : ∀ (j : Nat) y,x.2.2.2[j]? = some y → ∀ b off c,nz y.2.2.1.2.1 y.2.2.1.1 = some ⟨b,off,c⟩ → b < w.heap.size ∧ b ≠ L
theorem l8 {sg : List Sg} {left : Int} {ty : Int} {lo : ByteArray} {xs : List InM} (h : dU sg left ty lo xs = 0) : lo.size ≤ 64 ∧ (xs.length : Int) ≤ left ∧ xs.length ≤ 2048 ∧ bN (fun _ x => cX x) [] xs = 0:=by
 unfold dU at h
 split at h
 ·cases h
 ·split at h
  ·cases h
  ·split at h
   ·cases h
   ·split at h
    ·cases h
    ·refine ⟨by omega,by omega,by omega,h⟩
theorem gz {sg : List Sg} {left : Int} {x : FuM} (h : dU sg left x.1 x.2.1 x.2.2.2 = 0) : (cj x).length ≤ 400000:=by
 obtain ⟨h1,h2,h3,h4⟩:=l8 h;have a:=aC x.1;have b:=cM x.2.1 64 h1;have c:=aC x.2.2.2.length
 have d:=bR dH 171 x.2.2.2 (fun j y hj => iF (aR (fun _ x => cX x) x.2.2.2 [] h4 j y hj))
 simp only [cj,na,List.length_append]
 have : x.2.2.2.length * 171 ≤ 2048 * 171:=Nat.mul_le_mul_right _ h3;omega
section
variable (R g cap : Nat) (bs : List Int) (n : Nat) (A O L : Nat) (ta : Option Addr) (tn tc : Nat) (sg : List Sg) (w : World) (xs : List FuM)
theorem wH (hok : ∀ (j : Nat) x,xs[j]? = some x → Dx w R g L x) {W : World} {g1 : Nat} (hst : cH R L g g1 w W) (j : Nat) (x : FuM) (hx : xs[j]? = some x) :
  AtIn W x.2.2.1.1 x.2.2.1.2.1 x.2.2.2 ∧ (∀ b off c,nz x.2.2.1.2.1 x.2.2.1.1 = some ⟨b,off,c⟩ → b ≠ R ∧ b ≠ g1) ∧ (∀ b off c,nz x.2.2.1.2.1 x.2.2.1.1 = some ⟨b,off,c⟩ → b < W.heap.size) ∧ (∀ (i : Nat) y,x.2.2.2[i]? = some y → ly W R g1 y) ∧ (∀ (i : Nat) y,x.2.2.2[i]? = some y → ∀ b off c,nz y.2.2.1.2.1 y.2.2.1.1 = some ⟨b,off,c⟩ → b < W.heap.size):=by
 have h:=hok j x hx;have hz:=hst.size
 refine ⟨h.mem.kept hst.k (fun b off c hb => by have:=h.ne b off c hb; simp; omega),fun b off c hb => ⟨(h.ne b off c hb).1,hst.ne (h.lt b off c hb) (h.ne b off c hb).2.1⟩,fun b off c hb => Nat.lt_of_lt_of_le (h.lt b off c hb) hz,fun i y hi => ?_,fun i y hi b off c hb => Nat.lt_of_lt_of_le (h.inl i y hi b off c hb).1 hz⟩
 have q:=h.ins i y hi
 exact ⟨q.r0,q.r1,q.seg.kept' hst.k (fun b off c hb => by have:=q.ne b off c hb; have:=(h.inl i y hi b off c hb).2; simp; omega),fun b off c hb => ⟨(q.ne b off c hb).1,hst.ne (h.inl i y hi b off c hb).1 (q.ne b off c hb).2⟩⟩
theorem qu (h : Wr w R g cap bs) (hb : bs.length + 500000000000 ≤ 1099511627776) (hn : n ≤ 1000) (hR0 : R ≠ 0) (hg0 : g ≠ 0) (hk : aL w) (hL0 : L ≠ 0) (hA : w.cell? ⟨A,0,none⟩ = some (cW R)) (hAR : A ≠ R) (hAg : A ≠ g) (hAL : A ≠ L) (hO : w.cell? ⟨O,0,none⟩ = some (.slice ta tn tc)) (hOR : O ≠ R) (hOg : O ≠ g) (hOL : O ≠ L) (htn : tn ≤ 100000) (hsg : bj w ta tn sg) (hsn : ∀ b off c,ta = some ⟨b,off,c⟩ → b ≠ R ∧ b ≠ g ∧ b ≠ L) (hsl : ∀ b off c,ta = some ⟨b,off,c⟩ → b < w.heap.size) (hp8 : ∀ (t : Nat) p r,sg[t]? = some (p,r) → p.size ≤ 8) (hLR : L ≠ R) (hLg : L ≠ g) (hok : ∀ (j : Nat) x,xs[j]? = some x → Dx w R g L x) (hl : xs.length = n) (e : FuM → List Int) (k : Nat) (he : ∀ (i : Nat) y,xs[i]? = some y → i < k → e y = cj y) (hall : ∀ (i : Nat) y,xs[i]? = some y → i < k → ey sg (xs.take i) y = 0) (j : Nat) (x : FuM) (hx : xs[j]? = some x) (hjk : j < k) :
  rL R g L (fun j => 16384 - (Ce (xs.take j) : Int)) w 124 #[.pointer (some ⟨A,0,none⟩),.pointer (some ⟨O,0,none⟩),.pointer (some ⟨L,0,none⟩)] bs n xs e (fun _ _ => True) j x:=by
 intro ys W g1 cap1 aa ac hyl hys hst hla hlg hwr hrow hab;have hlt:=au hx;have hchk:=hall j x hx hjk;have henc:=he j x hx hjk
 have hlen : ((xs.take j).flatMap e).length ≤ j * 400000:=by
  have:=bR e 400000 (xs.take j) (fun i y hi => by
   have hij : i < j:=by have:=au hi; simp at this; omega
   rw [List.getElem?_take_of_lt hij] at hi
   rw [he i y hi (by omega)]
   exact gz (hall i y hi (by omega)))
  rw [List.length_take] at this
  have e1 : min j xs.length = j:=by omega
  rwa [e1] at this
 have hu:=aC (n : Int)
 have hbb : (bs ++ am n ++ (xs.take j).flatMap e).length ≤ bs.length + 10 + 1000 * 400000:=by
  rw [List.length_append,List.length_append]
  have : j * 400000 ≤ 1000 * 400000:=Nat.mul_le_mul_right _ (by omega)
  omega
 obtain ⟨m1,m2,m3,m4,m5⟩:=wH R g L w xs hok hst j x hx;have hkk:=l8 hchk;have hxl:=(hok j x hx).mem.1
 have hg1 : g1 ≠ 0:=Ne.symm (hst.ne (by have:=h.lt; omega) (Ne.symm hg0))
 have hkW : aL W:=hk.kept hst.k (by simp; omega)
 have hsgW:=hsg.kept hst.k (fun b off c hb' => by have:=hsn b off c hb'; simp; omega)
 have hcell:=hla.c
 refine (qU R g1 cap1 _ x.1 x.2.1 x.2.2.1.1 x.2.2.1.2.1 x.2.2.1.2.2 aa j ac A O L ta tn tc (16384 - (Ce (xs.take j) : Int)) W hwr (hst.cell hA hAR hAg hAL) (hst.cell hO hOR hOg hOL) hla.c hla.f hLR hlg (by omega) (by omega) (bs ++ am n ++ (xs.take j).flatMap e ++ e x) (fun W2 hb2 => ?_)).mono ?_
 ·have hst2:=hst.trans (cH.of_below (L:=L) (R:=R) (g:=g1) hb2);obtain ⟨p1,p2,p3,p4,p5⟩:=wH R g L w xs hok hst2 j x hx
  refine (tY R g1 cap1 _ x.1 (16384 - (Ce (xs.take j) : Int)) x.2.1 x.2.2.1.1 x.2.2.1.2.1 x.2.2.1.2.2 ta tn tc sg x.2.2.2 W2 (hwr.later hb2) (by omega) htn hR0 hg1 (hkW.later hb2 hkW.pos) (hsgW.later hb2) (fun b off c hb' => ⟨(hsn b off c hb').1,hst.ne (hsl b off c hb') (hsn b off c hb').2.1⟩) hp8 (by omega) p1 p2 p3 p4 p5 hchk).mono ?_
  rintro e' w' ⟨fa,fc,he',g',cap',hw',hs'⟩;refine ⟨fa,fc,he',g',cap',?_,hs'⟩;rw [henc];exact hw'
 ·rintro e' w' ⟨fa,fc,he',hlc,hlf,g',cap',hw',hk',hm'⟩;refine ⟨(x.1,x.2.1,(fa,x.2.2.1.2.1,fc)),he',trivial,g',cap',hw',⟨hk',hm'⟩,⟨?_,hlf⟩⟩;rw [hlc]
  show some (Value.int IntKind.i64 (16384 - (Ce (xs.take j) : Int) - (x.2.2.1.2.1 : Int))) = some (Value.int IntKind.i64 (16384 - (Ce (xs.take (j + 1)) : Int)))
  rw [C5 hx]
  congr 2
  omega
theorem yt (h : Wr w R g cap bs) (hb : bs.length + 500000000000 ≤ 1099511627776) (hn : n ≤ 1000) (hR0 : R ≠ 0) (hg0 : g ≠ 0) (hk : aL w) (hL0 : L ≠ 0) (hA : w.cell? ⟨A,0,none⟩ = some (cW R)) (hAR : A ≠ R) (hAg : A ≠ g) (hAL : A ≠ L) (hO : w.cell? ⟨O,0,none⟩ = some (.slice ta tn tc)) (hOR : O ≠ R) (hOg : O ≠ g) (hOL : O ≠ L) (htn : tn ≤ 100000) (hsg : bj w ta tn sg) (hsn : ∀ b off c,ta = some ⟨b,off,c⟩ → b ≠ R ∧ b ≠ g ∧ b ≠ L) (hsl : ∀ b off c,ta = some ⟨b,off,c⟩ → b < w.heap.size) (hp8 : ∀ (t : Nat) p r,sg[t]? = some (p,r) → p.size ≤ 8) (hLR : L ≠ R) (hLg : L ≠ g) (hok : ∀ (j : Nat) x,xs[j]? = some x → Dx w R g L x) (hl : xs.length = n) (ha : Option Addr) (hc : Nat) (hL : LAt w L 16384) (hmem : iP w ha n xs) (hne : ∀ b off c,ha = some ⟨b,off,c⟩ → b ≠ R ∧ b ≠ g ∧ b ≠ L) (hx : bc (ey sg) 128 xs = 0) :
  Calls Tryz.prog 123 #[cW R,.slice ha n hc,.int .i64 128,.func (.func 124) #[] #[.pointer (some ⟨A,0,none⟩),.pointer (some ⟨O,0,none⟩),.pointer (some ⟨L,0,none⟩)]] w fun e w' => ∃ (aa : Option Addr) (ac : Nat),e = .returned (.slice aa n ac) ∧ ∃ g' cap',Wr w' R g' cap' (bs ++ (am n ++ xs.flatMap cj)) ∧ cH R L g g' w w':=by
 unfold bc at hx
 split at hx
 ·cases hx
 rename_i hm
 have hall:=aR (ey sg) xs [] hx
 have hall' : ∀ (i : Nat) y,xs[i]? = some y → ey sg (xs.take i) y = 0:=fun i y hi => hall i y hi
 refine (mM R g cap bs ha n hc 128 124 _ w xs cj (fun _ _ => True) 400000 L (fun j => 16384 - (Ce (xs.take j) : Int)) (by simpa [Ce] using hL) hLR hLg h (by omega) (by omega) hmem hne (fun _ _ => rfl) (fun j x hj => gz (hall' j x hj)) (by omega) (by omega)
  (fun j x hj => qu R g cap bs n A O L ta tn tc sg w xs h hb hn hR0 hg0 hk hL0 hA hAR hAg hAL hO hOR hOg hOL htn hsg hsn hsl hp8 hLR hLg hok hl cj (j + 1) (fun _ _ _ _ => rfl) (fun i y hi _ => hall' i y hi) j x hj (by omega))).mono ?_
 rintro e w' ⟨aa,ac,ys,he,hyl,hys,hrow,g',cap',hab,hw',hs',_⟩
 exact ⟨aa,ac,he,g',cap',by simpa [List.append_assoc] using hw',hs'⟩
theorem Av (h : Wr w R g cap bs) (hb : bs.length + 500000000000 ≤ 1099511627776) (hn : n ≤ 1000) (hR0 : R ≠ 0) (hg0 : g ≠ 0) (hk : aL w) (hL0 : L ≠ 0) (hA : w.cell? ⟨A,0,none⟩ = some (cW R)) (hAR : A ≠ R) (hAg : A ≠ g) (hAL : A ≠ L) (hO : w.cell? ⟨O,0,none⟩ = some (.slice ta tn tc)) (hOR : O ≠ R) (hOg : O ≠ g) (hOL : O ≠ L) (htn : tn ≤ 100000) (hsg : bj w ta tn sg) (hsn : ∀ b off c,ta = some ⟨b,off,c⟩ → b ≠ R ∧ b ≠ g ∧ b ≠ L) (hsl : ∀ b off c,ta = some ⟨b,off,c⟩ → b < w.heap.size) (hp8 : ∀ (t : Nat) p r,sg[t]? = some (p,r) → p.size ≤ 8) (hLR : L ≠ R) (hLg : L ≠ g) (hok : ∀ (j : Nat) x,xs[j]? = some x → Dx w R g L x) (hl : xs.length = n) (ha : Option Addr) (hc : Nat) (hL : LAt w L 16384) (hmem : iP w ha n xs) (hne : ∀ b off c,ha = some ⟨b,off,c⟩ → b ≠ R ∧ b ≠ g ∧ b ≠ L) (hx : bc (ey sg) 128 xs ≠ 0) :
  Calls Tryz.prog 123 #[cW R,.slice ha n hc,.int .i64 128,.func (.func 124) #[] #[.pointer (some ⟨A,0,none⟩),.pointer (some ⟨O,0,none⟩),.pointer (some ⟨L,0,none⟩)]] w (tM R L g (bc (ey sg) 128 xs) w):=by
 unfold bc at hx ⊢
 by_cases hm : (128 : Int) < xs.length
 ·rw [if_pos hm]
  refine (iu R g cap bs ha n hc 128 _ w h (by omega)).mono ?_
  rintro e w' ⟨hp,hk'⟩
  exact ⟨hp,hk'.mono (fun k hk => by omega)⟩
 rw [if_neg hm] at hx ⊢;obtain ⟨k,x,h1,h2,h3,h4⟩:=b7 (ey sg) xs [] hx;have hall:=aR (ey sg) (xs.take k) [] h2
 have hall' : ∀ (i : Nat) y,xs[i]? = some y → i < k → ey sg (xs.take i) y = 0:=fun i y hi hik => by
  have hh:=hall i y (by rw [List.getElem?_take_of_lt hik]; exact hi)
  have e : (xs.take k).take i = xs.take i:=by rw [List.take_take]; congr 1; omega
  simp only [List.nil_append,e] at hh
  exact hh
 rw [h4]
 simp only [List.nil_append] at h3 ⊢
 obtain ⟨E,hE⟩ : ∃ E : FuM → List Int,E = fun y => if (cj y).length ≤ 400000 then cj y else []:=⟨_,rfl⟩
 have hEl : ∀ y,(E y).length ≤ 400000:=fun y => by
  rw [hE]
  show (if (cj y).length ≤ 400000 then cj y else []).length ≤ 400000
  split
  ·assumption
  ·simp
 have hEe : ∀ (i : Nat) z,xs[i]? = some z → i < k → E z = cj z:=fun i z hi hik => by
  rw [hE];exact if_pos (gz (hall' i z hi hik))
 refine pm R g cap bs ha n hc 128 124 _ w xs E (fun _ _ => True) 400000 L (fun j => 16384 - (Ce (xs.take j) : Int)) (by simpa [Ce] using hL) hLR hLg h (by omega) (by omega) hmem hne (fun _ _ => rfl) (fun j y hj => hEl y) (by omega) (by omega) k x _ h1
  (fun j y hj hjk => qu R g cap bs n A O L ta tn tc sg w xs h hb hn hR0 hg0 hk hL0 hA hAR hAg hAL hO hOR hOg hOL htn hsg hsn hsl hp8 hLR hLg hok hl E k hEe hall' j y hj hjk) ?_
 intro ys W g1 cap1 aa ac hyl hys hst hla hlg hwr hrow hab;have hlt:=au h1;have hu:=aC (n : Int)
 have hbb : (bs ++ am n ++ (xs.take k).flatMap E).length ≤ bs.length + 10 + 1000 * 400000:=by
  have hf:=bR E 400000 (xs.take k) (fun i y _ => hEl y)
  rw [List.length_take] at hf
  have e1 : min k xs.length = k:=by omega
  rw [e1] at hf;rw [List.length_append,List.length_append]
  have : k * 400000 ≤ 1000 * 400000:=Nat.mul_le_mul_right _ (by omega)
  omega
 have hg1 : g1 ≠ 0:=Ne.symm (hst.ne (by have:=h.lt; omega) (Ne.symm hg0))
 have hkW : aL W:=hk.kept hst.k (by simp; omega)
 have hsgW:=hsg.kept hst.k (fun b off c hb' => by have:=hsn b off c hb'; simp; omega)
 refine vd R g1 cap1 _ x.1 x.2.1 x.2.2.1.1 x.2.2.1.2.1 x.2.2.1.2.2 aa k ac A O L ta tn tc (16384 - (Ce (xs.take k) : Int)) W hwr (hst.cell hA hAR hAg hAL) (hst.cell hO hOR hOg hOL) hla.c _ (fun W2 hb2 => ?_)
 have hst2:=hst.trans (cH.of_below (L:=L) (R:=R) (g:=g1) hb2);obtain ⟨p1,p2,p3,p4,p5⟩:=wH R g L w xs hok hst2 k x h1
 exact Dr R g1 cap1 _ x.1 (16384 - (Ce (xs.take k) : Int)) x.2.1 x.2.2.1.1 x.2.2.1.2.1 x.2.2.1.2.2 ta tn tc sg x.2.2.2 W2 (hwr.later hb2) (by omega) htn hR0 hg1 (hkW.later hb2 hkW.pos) (hsgW.later hb2) (fun b off c hb' => ⟨(hsn b off c hb').1,hst.ne (hsl b off c hb') (hsn b off c hb').2.1⟩) hp8 (by omega) p1 p2 p3 p4 p5 (hok k x h1).r0 (hok k x h1).r1 (by omega) h3
end
end Go.Proofs.YtepnnenohjfkbaaGreatDoor

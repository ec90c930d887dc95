/-
  Texts Xk Xl Xm Xn.
-/
import Derived.Test.YtepnnenohjfkbaaGreatDoorQ44
import Derived.Test.YtepnnenohjfkbaaGreatDoorQ45
set_option linter.unusedVariables false
set_option maxRecDepth 100000
set_option maxHeartbeats 16000000
namespace Go.Proofs.YtepnnenohjfkbaaGreatDoor
open Go.RowKit
theorem firstE_of {α : Type} (f : List α → α → Int) : ∀ (xs ah : List α),(∀ (j : Nat) x,xs[j]? = some x → f (ah ++ xs.take j) x = 0) → firstE f ah xs = 0
 | [],ah,_ => rfl
 | x :: r,ah,h => by
  have h0:=h 0 x rfl
  simp only [List.take_zero,List.append_nil] at h0
  have h1:=firstE_of f r (ah ++ [x]) (fun j y hj => by
   have:=h (j + 1) y (by simpa using hj)
   simpa using this)
  simp [firstE,h0,h1]
theorem listE_of {α : Type} {f : List α → α → Int} {most : Int} {xs : List α} (h : (xs.length : Int) ≤ most) (h1 : ∀ (j : Nat) x,xs[j]? = some x → f (xs.take j) x = 0) : listE f most xs = 0:=by
 unfold listE
 rw [if_neg (by omega)]
 exact firstE_of f xs [] (fun j x hj => by simpa using h1 j x hj)
theorem chkFuM_intro {sg : List Sg} {left ty : Int} {lo : ByteArray} {xs : List InM} (h1 : 0 ≤ ty) (h2 : ty < sg.length) (h3 : lo.size + (parsOf sg ty).size ≤ 64) (h4 : lett lo 64 = true) (h5 : xs.length ≤ 2048) (h6 : (xs.length : Int) ≤ left) (h7 : ∀ (j : Nat) x,xs[j]? = some x → chkIn x = 0) : chkFuM sg left ty lo xs = 0:=by
 unfold chkFuM
 rw [if_neg (by omega),if_neg (by omega),if_neg (by rw [h4]; simp),if_neg (by omega)]
 exact firstE_of _ xs [] (fun j x hj => h7 j x hj)
theorem labB_le : ∀ l : List Int,(labB l).length ≤ 10 * l.length
 | [] => by simp [labB]
 | z :: l => by
  have:=uvar_len z
  have:=labB_le l
  simp only [labB,List.length_append,List.length_cons]; omega
theorem encIn_len (x : InM) : (encIn x).length ≤ 11 + 10 * x.2.2.2.length:=by
 unfold encIn encV encB
 rw [List.length_cons]
 have h1:=uvar_len (fo x.2.1)
 have h2:=uvar_len x.2.2.2.length
 have h3:=uvar_len x.2.1
 have h4:=labB_le x.2.2.2
 split
 ·simp only [List.length_nil]; omega
 ·split
  ·omega
  ·split
   ·rw [List.length_append]; omega
   ·omega
def lsum (xs : List InM) : Nat:=(xs.map fun x => x.2.2.1.2.1).sum
theorem szG_sum : ∀ (xs : List InM) (z : Nat),szG xs z ≤ 2147483647 → szG xs z = z + lsum xs
 | [],z,_ => by simp [szG,lsum]
 | x :: r,z,h => by
  unfold szG at h ⊢
  split
  ·rename_i hz
   rw [if_pos hz] at h
   rw [szG_sum r _ h]
   simp [lsum]; omega
  ·rename_i hz
   rw [if_neg hz] at h
   exact absurd h hz
theorem szG_ge : ∀ (xs : List InM) (z : Nat),z ≤ szG xs z
 | [],z => by simp [szG]
 | x :: r,z => by
  unfold szG
  split
  ·exact Nat.le_trans (by omega) (szG_ge r _)
  ·exact Nat.le_refl _
theorem code_le : ∀ (xs : List InM),(∀ x ∈ xs,x.2.2.1.2.1 = x.2.2.2.length) → (xs.flatMap encIn).length ≤ 11 * (xs.length + lsum xs)
 | [],_ => by simp
 | x :: r,h => by
  have h1:=encIn_len x
  have h2:=h x (by simp)
  have h3:=code_le r (fun y hy => h y (by simp [hy]))
  have e : lsum (x :: r) = x.2.2.1.2.1 + lsum r:=by simp [lsum]
  rw [List.flatMap_cons,List.length_append,List.length_cons,e]
  omega
def FnW (x : FuM) : Prop:=x.2.2.1.2.1 = x.2.2.2.length ∧ ∀ y ∈ x.2.2.2,y.2.2.1.2.1 = y.2.2.2.length
theorem fn_le {x : FuM} (h : FnW x) (hs : szG x.2.2.2 x.2.2.1.2.1 ≤ 2147483647) (hl : x.2.1.size ≤ 64) : (encFuT x).length ≤ 94 + 11 * szG x.2.2.2 x.2.2.1.2.1:=by
 have h1:=code_le x.2.2.2 h.2
 have h2:=szG_sum _ _ hs
 have h3:=uvar_len x.1
 have h4:=encT_le x.2.1 64 hl
 have h5:=uvar_len x.2.2.2.length
 have h6:=h.1
 unfold encFuT encFuM
 simp only [List.length_append]
 omega
theorem flat_len_le {α : Type} (f : α → List Int) (c : Nat) : ∀ (l : List α),(∀ x ∈ l,(f x).length ≤ c) → (l.flatMap f).length ≤ c * l.length
 | [],_ => by simp
 | x :: r,h => by
  have h1:=h x (by simp)
  have h2:=flat_len_le f c r (fun y hy => h y (by simp [hy]))
  rw [List.flatMap_cons,List.length_append,List.length_cons,Nat.mul_succ]
  omega
theorem fns_le : ∀ (l : List FuM),(∀ x ∈ l,FnW x ∧ x.2.1.size ≤ 64) → fsum l ≤ 2147483647 → (l.flatMap encFuT).length ≤ 94 * l.length + 11 * fsum l
 | [],_,_ => by simp
 | x :: r,h,hs => by
  have e : fsum (x :: r) = szG x.2.2.2 x.2.2.1.2.1 + fsum r:=by simp [fsum]
  rw [e] at hs
  have h1:=h x (by simp)
  have h2:=fn_le h1.1 (by omega) h1.2
  have h3:=fns_le r (fun y hy => h y (by simp [hy])) (by omega)
  rw [List.flatMap_cons,List.length_append,List.length_cons,e]
  omega
theorem das_le : ∀ (l : List DaM),(∀ x ∈ l,x.2.1.2.1 = x.2.2.length) → (l.flatMap encDaT).length ≤ 20 * l.length + dsum l
 | [],_ => by simp
 | x :: r,h => by
  have e : dsum (x :: r) = x.2.1.2.1 + dsum r:=by simp [dsum]
  have h1:=h x (by simp)
  have h2:=das_le r (fun y hy => h y (by simp [hy]))
  have h3:=uvar_len x.1
  have h4:=uvar_len x.2.2.length
  have h5 : (encDaT x).length = (uvar x.1).length + ((uvar x.2.2.length).length + x.2.2.length):=by simp [encDaT]
  rw [List.flatMap_cons,List.length_append,List.length_cons,e,h5]
  omega
theorem chkEx_size {nf : Int} {ah : List Ex} {x : Ex} (h : chkEx nf ah x = 0) : x.1.size ≤ 32:=by
 unfold chkEx at h
 split at h
 ·cases h
 ·omega
theorem chk_small {n : MM} (h1 : e1 n = 0) (h2 : e2 n = 0) (h3 : e3 n = 0) (h4 : e4 n = 0) (h5 : e5 n = 0) (h6 : e6 n = 0) (h7 : e7 n = 0) (h8 : e8 n = 0) (hf : ∀ x ∈ n.fns,FnW x) (hd : ∀ x ∈ n.data,x.2.1.2.1 = x.2.2.length) (hs : fsum n.fns + dsum n.data ≤ 4010) : chkMM n = 0:=by
 obtain ⟨l1,a1⟩:=listE_zero h1
 obtain ⟨l2,_⟩:=listE_zero h2
 obtain ⟨l3,_⟩:=listE_zero h3
 obtain ⟨l6,a6⟩:=listE_zero h6
 obtain ⟨l7,_⟩:=listE_zero h7
 obtain ⟨l8,a8⟩:=listE_zero h8
 have k1 : (n.types.flatMap encSig).length ≤ 36 * n.types.length:=flat_len_le encSig 36 n.types (fun x hx => by
  obtain ⟨j,hj⟩:=List.getElem?_of_mem hx
  have:=chkSig_zero (a1 j x hj)
  exact encSig_le x this.1 this.2.2.1)
 have k2 : (n.hosts.flatMap (fun x => uvar x)).length ≤ 10 * n.hosts.length:=flat_len_le (fun x => uvar x) 10 n.hosts (fun x hx => (uvar_len x).2)
 have k3 : (n.globals.flatMap encGl).length ≤ 12 * n.globals.length:=flat_len_le encGl 12 n.globals (fun x hx => encGl_le x)
 have k6 : (n.fns.flatMap encFuT).length ≤ 94 * n.fns.length + 11 * fsum n.fns:=fns_le n.fns (fun x hx => ⟨hf x hx,by
  obtain ⟨j,hj⟩:=List.getElem?_of_mem hx
  have:=(chkFuM_zero (a6 j x hj)).2.2.1
  omega⟩) (by omega)
 have k7:=das_le n.data hd
 have k8 : (n.exps.flatMap encEx).length ≤ 52 * n.exps.length:=flat_len_le encEx 52 n.exps (fun x hx => by
  obtain ⟨j,hj⟩:=List.getElem?_of_mem hx
  have hz:=chkEx_size (a8 j x hj)
  have h1:=encT_le x.1 32 hz
  have h2:=uvar_len x.2
  simp only [encEx,List.length_append]; omega)
 have u1:=uvar_len n.tn
 have u2:=uvar_len n.hn
 have u3:=uvar_len n.gn
 have u4:=uvar_len n.fi
 have u5:=uvar_len n.mo
 have u6:=uvar_len n.fn
 have u7:=uvar_len n.dn
 have u8:=uvar_len n.en
 have hlen : (magicB ++ encW n).length ≤ 65536:=by
  unfold encW magicB
  simp only [List.length_append,List.length_cons,List.length_nil]
  omega
 have hw : chkW n = 0:=by
  unfold chkW
  rw [orE_neg h1,orE_neg h2,orE_neg h3,orE_neg h4,orE_neg h5,orE_neg h6,orE_neg h7,h8]
 unfold chkMM
 rw [orE_neg hw,if_neg (by omega)]
theorem chkW_all {m : MM} (h : chkMM m = 0) : e1 m = 0 ∧ e2 m = 0 ∧ e3 m = 0 ∧ e4 m = 0 ∧ e5 m = 0 ∧ e6 m = 0 ∧ e7 m = 0 ∧ e8 m = 0:=by
 obtain ⟨h,_⟩:=orE_zero h
 obtain ⟨h1,h⟩:=orE_zero h
 obtain ⟨h2,h⟩:=orE_zero h
 obtain ⟨h3,h⟩:=orE_zero h
 obtain ⟨h4,h⟩:=orE_zero h
 obtain ⟨h5,h⟩:=orE_zero h
 obtain ⟨h6,h⟩:=orE_zero h
 exact ⟨h1,h2,h3,h4,h5,h6,orE_zero h⟩
def setFn (n : MM) (k : Nat) (y : FuM) : MM:={ n with fns:=n.fns.set k y }
theorem le_sum_of {l : List Nat} {x : Nat} (h : x ∈ l) : x ≤ l.sum:=by
 induction l with
 | nil => cases h
 | cons a l ih =>
  rcases List.mem_cons.1 h with rfl | h
  ·simp
  ·have:=ih h; simp; omega
theorem mco_of {w : World} {R g : Nat} {m : MM} (h0 : chkMM m = 0) (hm : MOk w R g m) (hcap : ∀ x ∈ m.fns,x.2.2.1.2.1 ≤ x.2.2.1.2.2) (hd : dsum m.data ≤ 4000) : MCo w m:=by
 obtain ⟨h1,h2,h3,h4,h5,h6,h7,h8⟩:=chkW_all h0
 have l1:=(listE_zero h1).1
 have l2:=(listE_zero h2).1
 have l3:=(listE_zero h3).1
 have l6:=(listE_zero h6).1
 have l7:=(listE_zero h7).1
 have l8:=(listE_zero h8).1
 have n1:=hm.pt.1
 have n2:=hm.ph.1
 have n3:=hm.pg.1
 have n6:=hm.pf.1
 have n7:=hm.pd.1
 have n8:=hm.pe.1
 refine ⟨hm.pt,by omega,hm.ph,by omega,hm.pg,by omega,hm.pf,by omega,fun x hx => ?_,hm.pd,by omega,fun x hx => ?_,hm.pe,by omega⟩
 ·obtain ⟨j,hj⟩:=List.getElem?_of_mem hx
  obtain ⟨t,P,Q,_,_,_,_,hn,hc,hl⟩:=fn_of h0 hm hj
  exact ⟨by omega,hcap x hx,hc,fun j hj => (hl j hj).1⟩
 ·obtain ⟨j,hj⟩:=List.getElem?_of_mem hx
  have hle : x.2.1.2.1 ≤ dsum m.data:=by
   unfold dsum
   exact le_sum_of (List.mem_map.2 ⟨x,hx,rfl⟩)
  exact ⟨by omega,(hm.dr j x hj).2.1⟩
structure FnN (W : World) (FB : Nat) (y : FuM) : Prop where
 at_ : AtIn W y.2.2.1.1 y.2.2.1.2.1 y.2.2.2
 ne : ∀ b off c,y.2.2.1.1 = some ⟨b,off,c⟩ → b ≠ FB ∧ b < W.heap.size
 ins : ∀ (i : Nat) z,y.2.2.2[i]? = some z → 0 ≤ z.1 ∧ z.1 ≤ 255 ∧ SegI W z.2.2.1.1 z.2.2.1.2.1 z.2.2.1.2.2 z.2.2.2 ∧ ∀ b off c,z.2.2.1.1 = some ⟨b,off,c⟩ → b ≠ FB ∧ b < W.heap.size
theorem MC.set {m n : MM} {base : Nat} {W1 W2 w0 : World} {R0 g0 FB k : Nat} {y y' : FuM} (h : MC m n base W1) (hm : MOk w0 R0 g0 m) (hfa : n.fa = some ⟨FB,0,none⟩) (hy : n.fns[k]? = some y) (hk : Kept (fun b => b = FB) W1 W2)
  (c1 : W2.cell? ⟨FB,k * 3 + 1,none⟩ = some (.string y'.2.1)) (c2 : W2.cell? ⟨FB,k * 3 + 2,none⟩ = some (.slice y'.2.2.1.1 y'.2.2.1.2.1 y'.2.2.1.2.2)) (ho : ∀ o,o ≠ k * 3 + 1 → o ≠ k * 3 + 2 → W2.cell? ⟨FB,o,none⟩ = W1.cell? ⟨FB,o,none⟩) (hty : y'.1 = y.1) (hN : FnN W1 FB y') :
  ∀ R g,W2.heap.size ≤ R → W2.heap.size ≤ g → MOk W2 R g (setFn n k y'):=by
 intro R g hR hg
 have hs:=hk.size
 have ok:=h.ok hm R g (by omega) (by omega)
 have l4 : n.fns.length = n.fn:=by rw [h.fl,h.fn]
 have hFB : ∃ cur,W1.heap[FB]? = some (.cells cur 42):=((own_at fcel (fun _ => rfl) h.rF l4).2.1 FB 0 none hfa).2.2
 obtain ⟨fcur,hFB⟩:=hFB
 have ne : ∀ {e kk nn c : Nat} {a : Option Addr} {xs : List Value},W1.ownsRow base e kk (.slice a nn c) nn xs → e ≠ 42 → ∀ b off cc,a = some ⟨b,off,cc⟩ → ¬ b = FB:=by
  intro e kk nn c a xs hr he b off cc ha hb
  subst ha
  rcases hr.2 with ⟨h0,_⟩ | ⟨q,cp,cur,h1,_,h3,_⟩
  ·cases h0
  ·injection h1 with h1
   obtain rfl : b = q:=by injection h1 with h1; injection h1
   subst hb
   rw [hFB] at h3; simp at h3
   exact he h3.2.symm
 have far : ∀ {a : Option Addr},Far W1 R g a → Far W2 R g a:=fun hf b off cc hb => ⟨(hf b off cc hb).1,(hf b off cc hb).2.1,Nat.lt_of_lt_of_le (hf b off cc hb).2.2 hs⟩
 refine ⟨ok.pt.kept hk (ne h.rT (by decide)),far ok.tf,ok.ph.kept hk (ne h.rH (by decide)),far ok.hf,ok.hr,ok.pg.kept hk (ne h.rG (by decide)),far ok.gf,ok.gr,ok.i0,ok.i1,ok.o0,ok.o1,⟨?_,.inr ⟨FB,0,hfa,fun j x hj => ?_⟩⟩,far ok.ff,fun j x hj => ?_,ok.pd.kept hk (ne h.rD (by decide)),far ok.df,fun j x hj => ?_,ok.pe.kept hk (ne h.rE (by decide)),far ok.ef,ok.er⟩
 ·show (n.fns.set k y').length = n.fn
  rw [List.length_set]; exact l4
 ·obtain ⟨b0,off0,e0,hat⟩:=ok.pf.2.resolve_left (by have:=lt_of_get hy; omega)
  rw [hfa] at e0
  injection e0 with e0
  injection e0 with e1 e2
  subst e1 e2
  have hj' : (n.fns.set k y')[j]? = some x:=hj
  by_cases e : j = k
  ·subst e
   rw [List.getElem?_set_self (lt_of_get hy)] at hj'
   obtain rfl:=Option.some.inj hj'
   obtain ⟨d0,_,_⟩:=hat j y hy
   refine ⟨?_,?_,?_⟩
   ·rw [ho _ (by omega) (by omega),hty]; exact d0
   ·rw [Nat.zero_add]; exact c1
   ·rw [Nat.zero_add]; exact c2
  ·rw [List.getElem?_set_ne (fun x => e x.symm)] at hj'
   obtain ⟨d0,d1,d2⟩:=hat j x hj'
   exact ⟨(ho _ (by omega) (by omega)).trans d0,(ho _ (by omega) (by omega)).trans d1,(ho _ (by omega) (by omega)).trans d2⟩
 ·have hj' : (n.fns.set k y')[j]? = some x:=hj
  by_cases e : j = k
  ·subst e
   rw [List.getElem?_set_self (lt_of_get hy)] at hj'
   obtain rfl:=Option.some.inj hj'
   obtain ⟨a1,_⟩:=ok.fr j y hy
   refine ⟨by rw [hty]; exact a1,hN.at_.kept hk (fun b off c e => (hN.ne b off c (nz_some e)).1),fun b off c e => by have:=(hN.ne b off c (nz_some e)).2; omega,fun i z hz => ?_⟩
   obtain ⟨q1,q2,q3,q4⟩:=hN.ins i z hz
   exact ⟨q1,q2,q3.kept' hk (fun b off c e => (q4 b off c (nz_some e)).1),fun b off c e => by have:=(q4 b off c (nz_some e)).2; omega⟩
  ·rw [List.getElem?_set_ne (fun x => e x.symm)] at hj'
   obtain ⟨a1,a2,a3,a4⟩:=ok.fr j x hj'
   have hL:=h.fL x (List.mem_of_getElem? hj')
   have hLC:=hL.1
   unfold LC at hLC
   rw [List.length_map,a2.1] at hLC
   refine ⟨a1,a2.kept hk (fun b off c e => ne hLC (by decide) b off c (nz_some e)),far a3,fun i z hz => ?_⟩
   obtain ⟨q1,q2,q3,q4⟩:=a4 i z hz
   have hLi : LI W1 base (.slice z.2.2.1.1 z.2.2.1.2.1 z.2.2.1.2.2) z.2.2.2:=hL.2 (inx z) (List.mem_map.2 ⟨z,List.mem_of_getElem? hz,rfl⟩)
   unfold LI at hLi
   rw [q3.1] at hLi
   exact ⟨q1,q2,q3.kept' hk (fun b off c e => ne hLi (by decide) b off c (nz_some e)),far q4⟩
 ·obtain ⟨a1,a2,a3⟩:=ok.dr j x hj
  have hL : W1.ownsRow base 5 1 (.slice x.2.1.1 x.2.1.2.1 x.2.1.2.2) x.2.1.2.1 (x.2.2.map (Value.int .u8)):=h.dL x (List.mem_of_getElem? hj)
  exact ⟨a1,a2.kept' hk (fun b off c e => ne hL (by decide) b off c (nz_some e)),far a3⟩
theorem szG_eq : ∀ (xs ys : List InM) (z : Nat),xs.map (fun x => x.2.2.1.2.1) = ys.map (fun x => x.2.2.1.2.1) → szG xs z = szG ys z
 | [],[],_,_ => rfl
 | [],y :: ys,_,h => by simp at h
 | x :: xs,[],_,h => by simp at h
 | x :: xs,y :: ys,z,h => by
  simp only [List.map_cons,List.cons.injEq] at h
  unfold szG
  rw [h.1,szG_eq xs ys _ h.2]
theorem FnS.lns {x y : FuM} (h : FnS x y) : y.2.2.2.map (fun x => x.2.2.1.2.1) = x.2.2.2.map (fun x => x.2.2.1.2.1):=by
 apply List.ext_getElem?
 intro j
 rw [List.getElem?_map,List.getElem?_map]
 by_cases hj : j < x.2.2.2.length
 ·obtain ⟨a,ha⟩ : ∃ a,x.2.2.2[j]? = some a:=⟨_,List.getElem?_eq_getElem hj⟩
  obtain ⟨b,hb⟩ : ∃ b,y.2.2.2[j]? = some b:=⟨_,List.getElem?_eq_getElem (by rw [h.len]; exact hj)⟩
  have:=(h.code j hj).2.2.2
  rw [getD_inx ha,getD_inx hb] at this
  rw [ha,hb]
  exact congrArg some this
 ·have e:=h.len
  rw [List.getElem?_eq_none (by omega),List.getElem?_eq_none (by omega)]
theorem FnS.sz {x y : FuM} (h : FnS x y) : szG y.2.2.2 y.2.2.1.2.1 = szG x.2.2.2 x.2.2.1.2.1:=by
 rw [h.n]; exact szG_eq _ _ _ h.lns
theorem MC.fsum {m n : MM} {base : Nat} {w : World} (h : MC m n base w) (hl : m.fns.length = m.fn) : fsum n.fns = fsum m.fns:=by
 unfold Go.Proofs.YtepnnenohjfkbaaGreatDoor.fsum
 congr 1
 apply List.ext_getElem?
 intro j
 rw [List.getElem?_map,List.getElem?_map]
 by_cases hj : j < m.fns.length
 ·obtain ⟨a,ha⟩ : ∃ a,m.fns[j]? = some a:=⟨_,List.getElem?_eq_getElem hj⟩
  obtain ⟨b,hb⟩ : ∃ b,n.fns[j]? = some b:=⟨_,List.getElem?_eq_getElem (by rw [h.fl]; omega)⟩
  rw [ha,hb]
  exact congrArg some (h.fs j a b ha hb).sz
 ·have e:=h.fl
  rw [List.getElem?_eq_none (by omega),List.getElem?_eq_none (by omega)]
theorem MC.dsum {m n : MM} {base : Nat} {w : World} (h : MC m n base w) (hl : m.data.length = m.dn) : dsum n.data = dsum m.data:=by
 unfold Go.Proofs.YtepnnenohjfkbaaGreatDoor.dsum
 congr 1
 apply List.ext_getElem?
 intro j
 rw [List.getElem?_map,List.getElem?_map]
 by_cases hj : j < m.data.length
 ·obtain ⟨a,ha⟩ : ∃ a,m.data[j]? = some a:=⟨_,List.getElem?_eq_getElem hj⟩
  obtain ⟨b,hb⟩ : ∃ b,n.data[j]? = some b:=⟨_,List.getElem?_eq_getElem (by rw [h.dl]; omega)⟩
  rw [ha,hb]
  exact congrArg some (h.ds j a b ha hb).n
 ·have e:=h.dl
  rw [List.getElem?_eq_none (by omega),List.getElem?_eq_none (by omega)]
theorem sum_set_le (l : List Nat) : ∀ (k v : Nat),(l.set k v).sum ≤ l.sum + v:=by
 induction l with
 | nil => intro k v; simp
 | cons a l ih =>
  intro k v
  cases k with
  | zero => simp; omega
  | succ k => have:=ih k v; simp; omega
theorem fsum_set (l : List FuM) (k : Nat) (y : FuM) : fsum (l.set k y) ≤ fsum l + szG y.2.2.2 y.2.2.1.2.1:=by
 unfold Go.Proofs.YtepnnenohjfkbaaGreatDoor.fsum
 rw [List.map_set]
 exact sum_set_le _ _ _
theorem codeSum_le (l : List FuM) (hW : ∀ x ∈ l,FnW x) : codeSum l ≤ fsum l:=by
 induction l with
 | nil => simp [codeSum,fsum]
 | cons a l ih =>
  have h1:=ih (fun x hx => hW x (by simp [hx]))
  have h2:=szG_ge a.2.2.2 a.2.2.1.2.1
  have h3:=(hW a (by simp)).1
  have e1 : codeSum (a :: l) = a.2.2.2.length + codeSum l:=by simp [codeSum]
  have e2 : fsum (a :: l) = szG a.2.2.2 a.2.2.1.2.1 + fsum l:=by simp [fsum]
  omega
theorem codeSum_take_le (l : List FuM) (j : Nat) {x : FuM} (hx : l[j]? = some x) : codeSum (l.take j) + x.2.2.2.length ≤ codeSum l:=by
 rw [← codeSum_take hx]
 unfold codeSum
 rw [List.map_take]
 generalize l.map (fun x => x.2.2.2.length) = q
 have : q = q.take (j + 1) ++ q.drop (j + 1):=(List.take_append_drop _ _).symm
 conv => rhs; rw [this]
 rw [List.sum_append]; omega
def coT : List InM:=[inn 0 0,inn 6 0]
def teF (ty : Int) (CB : Nat) : FuM:=(ty,⟨#[]⟩,(some ⟨CB,0,none⟩,2,2),coT)
theorem coT_in : ∀ (j : Nat) x,coT[j]? = some x → chkIn x = 0
 | 0,x,h => by obtain rfl:=Option.some.inj h; kernel_rfl
 | 1,x,h => by obtain rfl:=Option.some.inj h; kernel_rfl
 | j + 2,x,h => by simp [coT] at h
theorem FnW.of {w : World} {R g : Nat} {m : MM} (hm : MOk w R g m) {j : Nat} {x : FuM} (hx : m.fns[j]? = some x) : FnW x:=by
 obtain ⟨_,a2,_,a4⟩:=hm.fr j x hx
 refine ⟨a2.1.symm,fun y hy => ?_⟩
 obtain ⟨i,hi⟩:=List.getElem?_of_mem hy
 exact (a4 i y hi).2.2.1.1.symm
theorem touch_con {a b : List DaM} (h : a.map (fun y => (y.1,y.2.2)) = b.map (fun y => (y.1,y.2.2))) (v : Int) : touchT a v = touchT b v:=by
 have h2:=congrArg List.getLast? h
 rw [List.getLast?_map,List.getLast?_map] at h2
 unfold touchT
 cases ha : a.getLast? with
 | none =>
  rw [ha] at h2
  cases hb : b.getLast? with
  | none => rfl
  | some y => rw [hb] at h2; cases h2
 | some x =>
  rw [ha] at h2
  cases hb : b.getLast? with
  | none => rw [hb] at h2; cases h2
  | some y =>
   rw [hb] at h2
   simp only [Option.map_some,Option.some.injEq,Prod.mk.injEq] at h2
   simp only [h2.1,h2.2]
section
variable {m n : MM} {base : Nat} {w w0 : World} {R0 g0 : Nat}
theorem MC.data (h : MC m n base w) (hl : m.data.length = m.dn) : n.data.map (fun y => (y.1,y.2.2)) = m.data.map (fun y => (y.1,y.2.2)):=by
 apply List.ext_getElem?
 intro j
 rw [List.getElem?_map,List.getElem?_map]
 by_cases hj : j < m.data.length
 ·obtain ⟨a,ha⟩ : ∃ a,m.data[j]? = some a:=⟨_,List.getElem?_eq_getElem hj⟩
  obtain ⟨b,hb⟩ : ∃ b,n.data[j]? = some b:=⟨_,List.getElem?_eq_getElem (by rw [h.dl]; omega)⟩
  have hs:=h.ds j a b ha hb
  rw [ha,hb]
  simp only [Option.map_some,hs.at_,hs.b]
 ·have e:=h.dl
  rw [List.getElem?_eq_none (by omega),List.getElem?_eq_none (by omega)]
theorem chk_set (h : MC m n base w) (hm : MOk w0 R0 g0 m) (h0 : chkMM m = 0) (hs : fsum m.fns + dsum m.data ≤ 4000) {k CB : Nat} {y : FuM} (hy : n.fns[k]? = some y) : chkMM (setFn n k (teF y.1 CB)) = 0:=by
 obtain ⟨h1,h2,h3,h4,h5,h6,h7,h8⟩:=chkW_all h0
 obtain ⟨l6,a6⟩:=listE_zero h6
 obtain ⟨l7,a7⟩:=listE_zero h7
 have nf:=hm.pf.1
 have nd:=hm.pd.1
 have hfl:=h.fl
 have hdl:=h.dl
 have hkl:=lt_of_get hy
 have hW : ∀ x ∈ n.fns.set k (teF y.1 CB),FnW x:=fun x hx => by
  obtain ⟨j,hj⟩:=List.getElem?_of_mem hx
  by_cases e : j = k
  ·subst e
   rw [List.getElem?_set_self hkl] at hj
   obtain rfl:=Option.some.inj hj
   exact ⟨rfl,by simp [teF,coT,inn]⟩
  ·rw [List.getElem?_set_ne (fun x => e x.symm)] at hj
   exact FnW.of (h.ok hm w.heap.size w.heap.size (Nat.le_refl _) (Nat.le_refl _)) hj
 have hsz : szG (teF y.1 CB).2.2.2 (teF y.1 CB).2.2.1.2.1 = 2:=by kernel_rfl
 have hfs:=fsum_set n.fns k (teF y.1 CB)
 rw [hsz,h.fsum nf] at hfs
 have hcs:=codeSum_le _ hW
 refine chk_small (n:=setFn n k (teF y.1 CB)) ?_ ?_ ?_ ?_ ?_ ?_ ?_ ?_ hW (fun x hx => ?_) ?_
 ·show listE chkSig 64 n.types = 0
  rw [h.types]; exact h1
 ·show listE (fun (_ : List Int) x => chkIdx n.tn x) 32 n.hosts = 0
  rw [h.hosts,h.tn]; exact h2
 ·show listE (fun (_ : List Gl) x => chkGl x) 64 n.globals = 0
  rw [h.globals]; exact h3
 ·show chkPg 0 n.fi = 0
  rw [h.fi]; exact h4
 ·show chkPg n.fi n.mo = 0
  rw [h.fi,h.mo]; exact h5
 ·show listE (chkFuT n.types) 128 (n.fns.set k (teF y.1 CB)) = 0
  refine listE_of (by rw [List.length_set]; omega) (fun j x hj => ?_)
  have hct:=codeSum_take_le _ j hj
  unfold chkFuT
  by_cases e : j = k
  ·subst e
   rw [List.getElem?_set_self hkl] at hj
   obtain rfl:=Option.some.inj hj
   obtain ⟨x0,hx0⟩ : ∃ x0,m.fns[j]? = some x0:=⟨_,List.getElem?_eq_getElem (by omega)⟩
   have hf:=h.fs j x0 y hx0 hy
   obtain ⟨b1,b2,b3,b4,b5,b6⟩:=chkFuM_zero (a6 j x0 hx0)
   have hty : y.1 = x0.1:=hf.ty
   have hln : (teF y.1 CB).2.2.2.length = 2:=rfl
   rw [hln] at hct
   refine chkFuM_intro (by show 0 ≤ y.1; omega) (by show y.1 < _; rw [h.types]; omega) ?_ (by kernel_rfl) (by rw [hln]; omega) (by rw [hln]; omega) coT_in
   show (⟨#[]⟩ : ByteArray).size + (parsOf n.types y.1).size ≤ 64
   rw [h.types,hty]
   have : (⟨#[]⟩ : ByteArray).size = 0:=rfl
   omega
  ·rw [List.getElem?_set_ne (fun x => e x.symm)] at hj
   obtain ⟨x0,hx0⟩ : ∃ x0,m.fns[j]? = some x0:=⟨_,List.getElem?_eq_getElem (by have:=lt_of_get hj; omega)⟩
   have hf:=h.fs j x0 x hx0 hj
   obtain ⟨b1,b2,b3,b4,b5,b6⟩:=chkFuM_zero (a6 j x0 hx0)
   have hlen:=hf.len
   refine chkFuM_intro (by rw [hf.ty]; exact b1) (by rw [hf.ty,h.types]; exact b2) (by rw [hf.ty,hf.lo,h.types]; exact b3) (by rw [hf.lo]; exact b4) (by omega) (by omega) (fun i z hz => ?_)
   obtain ⟨z0,hz0⟩ : ∃ z0,x0.2.2.2[i]? = some z0:=⟨_,List.getElem?_eq_getElem (by have:=lt_of_get hz; omega)⟩
   obtain ⟨q1,q2,q3,_⟩:=hf.code i (lt_of_get hz0)
   rw [getD_inx hz,getD_inx hz0] at q1 q2 q3
   have q1' : z.1 = z0.1:=q1
   have q2' : z.2.1 = z0.2.1:=q2
   have q3' : z.2.2.2 = z0.2.2.2:=q3
   have:=b6 i z0 hz0
   unfold chkIn at this ⊢
   rw [q1',q2',q3']; exact this
 ·show listE (fun (ah : List DaM) x => chkDaT (n.fi * 4096) ah x) 64 n.data = 0
  refine listE_of (by omega) (fun j x hj => ?_)
  obtain ⟨x0,hx0⟩ : ∃ x0,m.data[j]? = some x0:=⟨_,List.getElem?_eq_getElem (by have:=lt_of_get hj; omega)⟩
  have hd:=h.ds j x0 x hx0 hj
  have ht : touchT (n.data.take j) x.1 = touchT (m.data.take j) x0.1:=by
   rw [hd.at_]
   refine touch_con ?_ _
   rw [List.map_take,List.map_take,h.data nd]
  have:=a7 j x0 hx0
  simp only [chkDaT] at this ⊢
  rw [ht,hd.at_,hd.b,h.fi]
  exact this
 ·show listE (fun (ah : List Ex) x => chkEx n.fn ah x) 64 n.exps = 0
  rw [h.exps,h.fn]; exact h8
 ·obtain ⟨j,hj⟩:=List.getElem?_of_mem hx
  obtain ⟨x0,hx0⟩ : ∃ x0,m.data[j]? = some x0:=⟨_,List.getElem?_eq_getElem (by have:=lt_of_get hj; have : (setFn n k (teF y.1 CB)).data.length = n.data.length:=rfl; omega)⟩
  have hd:=h.ds j x0 x hx0 hj
  rw [hd.n,hd.b]
  exact (hm.dr j x0 hx0).2.1.1.symm
 ·show fsum (n.fns.set k (teF y.1 CB)) + dsum n.data ≤ 4010
  rw [h.dsum nd]; omega
theorem same_set (h : MC m n base w) (hl : m.fns.length = m.fn) {k : Nat} {y y' : FuM} (hy : n.fns[k]? = some y) (hty : y'.1 = y.1) : SameM m (setFn n k y'):=by
 refine ⟨h.tn,h.hn,h.gn,h.fn,h.types,h.hosts,h.globals,?_⟩
 show (n.fns.set k y').map (fun f => f.1) = _
 apply List.ext_getElem?
 intro j
 rw [List.getElem?_map,List.getElem?_map]
 by_cases hj : j < m.fns.length
 ·obtain ⟨a,ha⟩ : ∃ a,m.fns[j]? = some a:=⟨_,List.getElem?_eq_getElem hj⟩
  obtain ⟨b,hb⟩ : ∃ b,n.fns[j]? = some b:=⟨_,List.getElem?_eq_getElem (by rw [h.fl]; omega)⟩
  have hs:=h.fs j a b ha hb
  by_cases e : j = k
  ·subst e
   rw [List.getElem?_set_self (lt_of_get hy),ha]
   rw [hy] at hb
   obtain rfl:=Option.some.inj hb
   simp only [Option.map_some,hty,hs.ty]
  ·rw [List.getElem?_set_ne (fun x => e x.symm),ha,hb]
   simp only [Option.map_some,hs.ty]
 ·have e:=h.fl
  rw [List.getElem?_eq_none (by rw [List.length_set]; omega),List.getElem?_eq_none (by omega)]
theorem FnS.sameX {x y : FuM} (h : FnS x y) : SameX (x.2.2.2.map inx) (y.2.2.2.map inx):=by
 intro j
 by_cases hj : j < x.2.2.2.length
 ·obtain ⟨q1,q2,q3,_⟩:=h.code j hj
  exact ⟨q1,q2,q3⟩
 ·have e:=h.len
  rw [List.getD_eq_getElem?_getD,List.getD_eq_getElem?_getD,List.getElem?_eq_none (by rw [List.length_map]; omega),List.getElem?_eq_none (by rw [List.length_map]; omega)]
  exact ⟨rfl,rfl,rfl⟩
theorem FnS.op {x y : FuM} (h : FnS x y) : opF (y.2.2.2.map inx) = opF (x.2.2.2.map inx):=funext fun j => (h.sameX j).1
end
theorem er_te (m : MM) (lo : List Int) (Q : ByteArray) (hQ : lett Q 8 = true) : ∀ j,j < 2 → erA m lo (coT.map inx) Q 2 j = 0:=by
 have hs:=((lett_mem Q 8).1 hQ).2
 have hp : pushE ⟨#[]⟩ Q = 0:=by
  unfold pushE
  have : shp ⟨#[]⟩ Q = true:=by
   have h1 : lett ⟨#[]⟩ 256 = true:=by kernel_rfl
   have h2 : lett Q 256 = true:=by rw [lett_short Q 256 8 (by omega) hs]; exact hQ
   unfold shp
   rw [h1,h2]; rfl
  rw [if_pos this,if_neg (by have : (⟨#[]⟩ : ByteArray).size = 0:=rfl; omega)]
 intro j hj
 match j,hj with
 | 0,_ =>
  show pushE ⟨#[]⟩ Q = 0
  exact hp
 | 1,_ =>
  have hv : pushV ⟨#[]⟩ Q = ⟨#[]⟩ ++ Q:=by unfold pushV; rw [if_pos hp]
  show orE (if ((pushV ⟨#[]⟩ Q).toList == ((⟨#[]⟩ : ByteArray) ++ Q).toList) = true then 0 else 33) (elsE ⟨⟨#[]⟩,Q,⟨#[]⟩,0,0⟩ _) = 0
  rw [hv]
  simp [orE,elsE]
 | j + 2,hj => exact absurd hj (by omega)
theorem no_err {m n : MM} {base : Nat} {w w0 : World} {R0 g0 : Nat} (h : MC m n base w) (hm : MOk w0 R0 g0 m) (h0 : chkMM m = 0) (hT : ∀ (i : Nat) y,m.fns[i]? = some y → ∃ W b t,TabV m y b W t) {k CB : Nat} {y : FuM} (hy : n.fns[k]? = some y)
  {j : Nat} {x : FuM} (hx : (setFn n k (teF y.1 CB)).fns[j]? = some x) : Good (opF (x.2.2.2.map inx)) x.2.2.1.2.1 ∧ ∀ P Q,(setFn n k (teF y.1 CB)).types[x.1.toNat]? = some (P,Q) → ∀ i,i < x.2.2.1.2.1 → erA (setFn n k (teF y.1 CB)) (strBytes (P ++ x.2.1)) (x.2.2.2.map inx) Q x.2.2.1.2.1 i = 0:=by
 have nf:=hm.pf.1
 have hfl:=h.fl
 have hx' : (n.fns.set k (teF y.1 CB))[j]? = some x:=hx
 have hS:=same_set h nf hy (y':=teF y.1 CB) rfl
 by_cases e : j = k
 ·subst e
  rw [List.getElem?_set_self (lt_of_get hy)] at hx'
  obtain rfl:=Option.some.inj hx'
  refine ⟨res_okp 2 0 rfl (fun i hi => absurd hi (by omega)) (by kernel_rfl),fun P Q hPQ i hi => er_te _ _ _ ?_ i hi⟩
  have hPQ' : n.types[y.1.toNat]? = some (P,Q):=hPQ
  rw [h.types] at hPQ'
  exact (chkSig_zero ((listE_zero (chkW_all h0).1).2 _ _ hPQ')).2.2.2
 ·rw [List.getElem?_set_ne (fun x => e x.symm)] at hx'
  obtain ⟨x0,hx0⟩ : ∃ x0,m.fns[j]? = some x0:=⟨_,List.getElem?_eq_getElem (by have:=lt_of_get hx'; omega)⟩
  have hf:=h.fs j x0 x hx0 hx'
  obtain ⟨W,b,t,hG,P0,Q0,hP0,hz,_⟩:=hT j x0 hx0
  refine ⟨by rw [hf.op,hf.n]; exact hG,fun P Q hPQ i hi => ?_⟩
  have hPQ' : n.types[x.1.toNat]? = some (P,Q):=hPQ
  rw [h.types,hf.ty,hP0] at hPQ'
  obtain ⟨rfl,rfl⟩:=Prod.mk.inj (Option.some.inj hPQ')
  rw [hS.erA hf.sameX,hf.n,hf.lo]
  rw [hf.n] at hi
  exact hz i hi
theorem no_errF {m n : MM} {base : Nat} {w w0 : World} {R0 g0 : Nat} (h : MC m n base w) (hm : MOk w0 R0 g0 m) (h0 : chkMM m = 0) (hT : ∀ (i : Nat) y,m.fns[i]? = some y → ∃ W b t,TabV m y b W t) {k CB : Nat} {y : FuM} (hy : n.fns[k]? = some y)
  {j : Nat} {x : FuM} (hx : (setFn n k (teF y.1 CB)).fns[j]? = some x) {E pc : Int} (hE : ErrF (setFn n k (teF y.1 CB)) x E pc) : False:=by
 obtain ⟨hG,hz⟩:=no_err h hm h0 hT hy hx
 rcases hE with ⟨h1,_⟩ | ⟨_,P,Q,hPQ,i,hi,_,h2,_⟩
 ·rw [res_good_back hG] at h1; exact h1 rfl
 ·exact h2 (hz P Q hPQ i hi)
theorem MC.keep {m n : MM} {base : Nat} {w w' : World} (h : MC m n base w) (hk : Kept (fun _ => False) w w') : MC m n base w' :=
 ⟨h.tn,h.types,h.hn,h.hosts,h.gn,h.globals,h.fi,h.mo,h.fn,h.dn,h.en,h.exps,h.fl,h.fs,h.dl,h.ds,own_keepB h.rT hk (fun _ _ x => x),own_keepB h.rH hk (fun _ _ x => x),own_keepB h.rG hk (fun _ _ x => x),own_keepB h.rF hk (fun _ _ x => x),
  fun y hy => (h.fL y hy).kept hk (fun k (hx : False) _ => hx.elim),own_keepB h.rD hk (fun _ _ x => x),fun y hy => (h.dL y hy).kept hk (fun k (hx : False) _ => hx.elim),own_keepB h.rE hk (fun _ _ x => x)⟩
theorem MC.cap {m n : MM} {base : Nat} {w w0 : World} {R0 g0 : Nat} (h : MC m n base w) (hm : MOk w0 R0 g0 m) : ∀ x ∈ n.fns,x.2.2.1.2.1 ≤ x.2.2.1.2.2:=by
 intro y hy
 obtain ⟨j,hj⟩:=List.getElem?_of_mem hy
 have ok:=h.ok hm w.heap.size w.heap.size (Nat.le_refl _) (Nat.le_refl _)
 have hlen:=(ok.fr j y hj).2.1.1
 have hL:=(h.fL y hy).1
 have h' : w.ownsRow base 51 3 (.slice y.2.2.1.1 y.2.2.1.2.1 y.2.2.1.2.2) y.2.2.1.2.1 ((y.2.2.2.map inx).flatMap cel):=by
  have : w.ownsRow base 51 3 (.slice y.2.2.1.1 y.2.2.1.2.1 y.2.2.1.2.2) (y.2.2.2.map inx).length (flat (y.2.2.2.map inx)):=hL
  rw [List.length_map,hlen] at this
  exact this
 exact (own_at cel (fun _ => rfl) h' (by simp [hlen])).1
theorem MC.fblk {m n : MM} {base : Nat} {w : World} (h : MC m n base w) (h0 : 0 < n.fn) : ∃ FB cur,n.fa = some ⟨FB,0,none⟩ ∧ base ≤ FB ∧ w.heap[FB]? = some (.cells cur 42) ∧ ∀ o,o < n.fn * 3 → ∃ u,w.cell? ⟨FB,o,none⟩ = some u:=by
 rcases h.rF.2 with ⟨_,h1⟩ | ⟨b,cap,cur,h1,h2,h3,h4,h5,h6,h7⟩
 ·omega
 ·injection h1 with h1 _ _
  refine ⟨b,cur,h1,h2,h3,fun o ho => ?_⟩
  have hr:=h.rF
  rw [h1] at hr
  have hc:=World.ownsRow.cellAt hr o ho
  have hl:=hr.1
  exact ⟨_,hc.trans (List.getElem?_eq_getElem (by omega))⟩
theorem tab_no {m : MM} {x : FuM} {b : Nat} {W : World} {t : Array Value} (h : TabV m x b W t) {E pc : Int} (hE : ErrF m x E pc) : False:=by
 obtain ⟨hG,P,Q,hP,hz,_⟩:=h
 rcases hE with ⟨h1,_⟩ | ⟨_,P',Q',hP',i,hi,_,h2,_⟩
 ·rw [res_good_back hG] at h1; exact h1 rfl
 ·rw [hP] at hP'
  obtain ⟨rfl,rfl⟩:=Prod.mk.inj (Option.some.inj hP')
  exact h2 (hz i hi)
structure Tb (m : MM) (x : FuM) (P Q : ByteArray) (w : World) (SH EN EL FL : Nat) : Prop where
 sh : Row w 9 SH x.2.2.1.2.1 x.2.2.1.2.1 ((stA m (strBytes (P ++ x.2.1)) (x.2.2.2.map inx) Q x.2.2.1.2.1 x.2.2.1.2.1).sh.map Value.string)
 en : RI w EN x.2.2.1.2.1 (enF (opF (x.2.2.2.map inx)) x.2.2.1.2.1)
 el : RI w EL x.2.2.1.2.1 (elF (opF (x.2.2.2.map inx)) x.2.2.1.2.1)
 fl : RI w FL x.2.2.1.2.1 (stA m (strBytes (P ++ x.2.1)) (x.2.2.2.map inx) Q x.2.2.1.2.1 x.2.2.1.2.1).fl
theorem Tb.keep {m : MM} {x : FuM} {P Q : ByteArray} {w w' : World} {SH EN EL FL : Nat} (h : Tb m x P Q w SH EN EL FL) (hk : Kept (fun _ => False) w w') : Tb m x P Q w' SH EN EL FL:=⟨h.sh.kept hk (fun x => x),h.en.kept hk (fun x => x),h.el.kept hk (fun x => x),h.fl.kept hk (fun x => x)⟩
theorem Tb.keepS {S : Nat → Prop} {m : MM} {x : FuM} {P Q : ByteArray} {w w' : World} {SH EN EL FL : Nat} (h : Tb m x P Q w SH EN EL FL) (hk : Kept S w w') (h1 : ¬ S SH) (h2 : ¬ S EN) (h3 : ¬ S EL) (h4 : ¬ S FL) : Tb m x P Q w' SH EN EL FL:=⟨h.sh.kept hk h1,h.en.kept hk h2,h.el.kept hk h3,h.fl.kept hk h4⟩
theorem outfn_ok {m : MM} {f : Nat} {x : FuM} {w w' : World} {e : Ending} (h : OutFn m f w e w') (h0 : chkMM m = 0) (hx : m.fns[f]? = some x) (hl : m.fns.length = m.fn) (hno : ∀ E pc,¬ ErrF m x E pc) :
  Below w.heap.size w w' ∧ ∃ P Q SH EN EL FL,m.types[x.1.toNat]? = some (P,Q) ∧ (SH < w'.heap.size ∧ EN < w'.heap.size ∧ EL < w'.heap.size ∧ FL < w'.heap.size) ∧ Tb m x P Q w' SH EN EL FL ∧
   e = .returned (.tuple #[.agg #[.slice (some ⟨SH,0,none⟩) x.2.2.1.2.1 x.2.2.1.2.1,.slice (some ⟨EN,0,none⟩) x.2.2.1.2.1 x.2.2.1.2.1,.slice (some ⟨EL,0,none⟩) x.2.2.1.2.1 x.2.2.1.2.1,.slice (some ⟨FL,0,none⟩) x.2.2.1.2.1 x.2.2.1.2.1,.int .i64 (stA m (strBytes (P ++ x.2.1)) (x.2.2.2.map inx) Q x.2.2.1.2.1 x.2.2.1.2.1).hi],.int .i64 0,.int .i64 0]):=by
 rcases h with ⟨h1,_⟩ | ⟨_,h1,_⟩ | ⟨_,x',_,hx',hO⟩
 ·exact absurd h0 h1
 ·have:=lt_of_get hx; omega
 ·have ex : x = x':=by
   have : ((f : Int)).toNat = f:=by omega
   rw [this,hx] at hx'
   exact Option.some.inj hx'
  subst ex
  refine ⟨hO.1,?_⟩
  rcases hO.cases with ⟨E,pc,hE,_⟩ | ⟨a0,a1,a2,a3,n0,n1,n2,n3,c0,c1,c2,c3,hi,he,hT⟩
  ·exact absurd hE (hno E pc)
  ·obtain ⟨_,P,Q,hP,_,SH,EN,EL,FL,_,_,_,_,ht,r1,r2,r3,r4⟩:=hT
   rw [ht] at he
   exact ⟨P,Q,SH,EN,EL,FL,hP,⟨r1.lt,r2.lt,r3.lt,r4.lt⟩,⟨r1,r2,r3,r4⟩,he⟩
theorem outm_ok {m : MM} {w w' : World} {e : Ending} (h : OutM m w e w') (h0 : chkMM m = 0) (hno : ∀ (j : Nat) x E pc,m.fns[j]? = some x → ¬ ErrF m x E pc) : Below w.heap.size w w' ∧ ∃ TT,e = .returned (.tuple #[.slice (some ⟨TT,0,none⟩) m.fn m.fn,.int .i64 0,.int .i64 0,.int .i64 0]):=by
 refine ⟨h.1,?_⟩
 rcases h.2 with ⟨h1,_⟩ | ⟨_,k,x,E,pc,hx,hE,_⟩ | ⟨_,TT,arr,_,he,_⟩
 ·exact absurd h0 h1
 ·exact absurd hE (hno k x E pc hx)
 ·exact ⟨TT,he⟩
end Go.Proofs.YtepnnenohjfkbaaGreatDoor

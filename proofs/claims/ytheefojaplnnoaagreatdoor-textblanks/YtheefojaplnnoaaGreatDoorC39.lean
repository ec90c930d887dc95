/-
  Texts Gc Gd Ha.
-/
import Derived.Test.YtheefojaplnnoaaGreatDoorC00
import Derived.Test.YtheefojaplnnoaaGreatDoorC32
import Derived.Test.YtheefojaplnnoaaGreatDoorC34
import Derived.Test.YtheefojaplnnoaaGreatDoorC38
set_option linter.unusedVariables false
set_option maxRecDepth 100000
set_option maxHeartbeats 16000000
namespace Go.Proofs.YtheefojaplnnoaaGreatDoor
open Go.RowKit
section
variable (p : Int) (M : PM) (xs : List ByteArray)
theorem CV : bJ p M (dR :: xs) = iX p M (dR :: xs):=by
 have e : wdx (dR :: xs) 0 = dR:=rfl;unfold bJ;rw [e,if_pos aq]
theorem KT : bJ p M (eJ :: xs) = fM p M (eJ :: xs):=by
 have e : wdx (eJ :: xs) 0 = eJ:=rfl;unfold bJ;rw [e,if_neg aq,if_pos aq]
theorem CJ : bJ p M (dI :: xs) = fL p M (dI :: xs):=by
 have e : wdx (dI :: xs) 0 = dI:=rfl;unfold bJ;rw [e,if_neg aq,if_neg aq,if_pos aq]
theorem CG : bJ p M (cX :: xs) = bF p M (cX :: xs):=by
 have e : wdx (cX :: xs) 0 = cX:=rfl;unfold bJ;rw [e,if_neg aq,if_neg aq,if_neg aq,if_pos aq]
theorem Du : bJ p M (dz :: xs) = iL p M (dz :: xs):=by
 have e : wdx (dz :: xs) 0 = dz:=rfl;unfold bJ;rw [e,if_neg aq,if_neg aq,if_neg aq,if_neg aq,if_pos aq]
theorem Lb : bJ p M (dO :: xs) = iq p M (dO :: xs):=by
 have e : wdx (dO :: xs) 0 = dO:=rfl;unfold bJ;rw [e,if_neg aq,if_neg aq,if_neg aq,if_neg aq,if_neg aq,if_pos aq]
theorem Jy : bJ p M (gK :: xs) = iF p M (gK :: xs):=by
 have e : wdx (gK :: xs) 0 = gK:=rfl;unfold bJ;rw [e,if_neg aq,if_neg aq,if_neg aq,if_neg aq,if_neg aq,if_neg aq,if_pos aq]
theorem DW : bJ p M (dv :: xs) = jH p M (dv :: xs):=by
 have e : wdx (dv :: xs) 0 = dv:=rfl;unfold bJ;rw [e,if_neg aq,if_neg aq,if_neg aq,if_neg aq,if_neg aq,if_neg aq,if_neg aq,if_pos aq]
end
def wu : List ByteArray:=[dR,eJ,dI,cX,dz,dO,gK,dv]
def Om (c : Nat) : Bool:=decide (tkV (c : Int) = -1) || ((!((ofV (c : Int)).1.2.1.data.toList).isEmpty && ((ofV (c : Int)).1.2.1.data.toList).all fun b => decide (33 ≤ b.toNat) && decide (b.toNat ≤ 126)) && decide (bi (ofV (c : Int)).1.2.1 = ((c : Int),true)) && (wu.all fun w => !decide ((ofV (c : Int)).1.2.1 = w)) && !decide (((ofV (c : Int)).1.2.1.data.toList).head? = some 59))
theorem MJ : ((List.range 256).all Om) = true:=ai
theorem Jl {w : ByteArray} (h : (wu.all fun x => !decide (w = x)) = true) (p : Int) (M : PM) (xs : List ByteArray) : bJ p M (w :: xs) = cj p M (w :: xs):=by
 have e : wdx (w :: xs) 0 = w:=rfl
 have h' : ∀ x ∈ wu,w ≠ x:=fun x hx => by
  have:=List.all_eq_true.1 h x hx
  exact bX
 have k0 : w ≠ ⟨#[102,108,97,103,111,110]⟩:=h' dR j3;have k1 : w ≠ ⟨#[116,121,112,101]⟩:=h' eJ j3;have k2 : w ≠ ⟨#[101,120,116,101,114,110]⟩:=h' dI j3;have k3 : w ≠ ⟨#[103,108,111,98,97,108]⟩:=h' cX j3;have k4 : w ≠ ⟨#[109,101,109,111,114,121]⟩:=h' dz j3;have k5 : w ≠ ⟨#[102,117,110,99]⟩:=h' dO j3;have k6 : w ≠ ⟨#[100,97,116,97]⟩:=h' gK j3;have k7 : w ≠ ⟨#[101,120,112,111,114,116]⟩:=h' dv j3;unfold bJ;rw [e,if_neg k0,if_neg k1,if_neg k2,if_neg k3,if_neg k4,if_neg k5,if_neg k6,if_neg k7]
theorem qC {α : Type} {P : α → Prop} {a : α} (h : P a) : ∀ x ∈ [a],P x:=fun x hx => by obtain rfl:=List.mem_singleton.1 hx; exact h
def jW : ByteArray:=⟨#[45,62]⟩
theorem Il (x : Sg) (hp : bH x.1 8 = true) (hr : bH x.2 8 = true) (p : Int) (M : PM) (h1 : 1 ≤ p) (h2 : p ≤ 2) : bO p M (ba (lnS [eJ,jF x.1 x.2])) = some (2,{ M with types:=M.types ++ [x] }):=by
 obtain ⟨a,b⟩:=x;dsimp only at *;have hs : uj a b = true:=yD;have hv : jF a b = gm a b:=xH
 have e : lnS [eJ,jF a b] = lnS [eJ,ct a,jW,ct b]:=by
  exact tT
 have ej : dh [ct a,jW,ct b] = gm a b:=by
  apply iK
  rw [lK]
  simp [dh,Lib.join_cons,Lib.joinTail,jW,fy]
 obtain ⟨q1,q2,q3,q4⟩:=J4 hs
 rw [e,gv (bp aq) (fun y hy => ?_) aq,KT]
 ·unfold fM;have et : (eJ :: [ct a,jW,ct b]).tail = [ct a,jW,ct b]:=rfl;rw [et,ej,if_pos ⟨⟨h1,h2⟩,q4⟩,q2,q3]
 ·exact zm
theorem Dy (v : Int) (hv : I64 v) (p : Int) (M : PM) (h1 : 1 ≤ p) (h2 : p ≤ 3) : bO p M (ba (lnS [dI,aQ v])) = some (3,{ M with hosts:=M.hosts ++ [v] }):=by
 rw [gv (bp aq) (qC (eB v)) aq,CJ];unfold fL;have e1 : wdx [dI,aQ v] 1 = aQ v:=rfl;rw [if_pos ⟨⟨h1,h2⟩,rfl⟩,e1,ja v hv];rfl
theorem Jq (x : Gl) (hc : x.1 = 119 ∨ x.1 = 108) (hf : fP x.2.2 x.1 = true) (h0 : 0 ≤ x.2.2) (h3 : x.2.2 < 18446744073709551616) (p : Int) (M : PM) (h1 : 1 ≤ p) (h2 : p ≤ 4) :
  bO p M (ba (lnS [cX,⟨#[UInt8.ofNat x.1.toNat]⟩,ig x.2.1,aQ (gS x.1 x.2.2)])) = some (4,{ M with globals:=M.globals ++ [x] }):=by
 obtain ⟨c,mu,v⟩:=x;dsimp only at *
 have hi : I64 (gS c v):=by
  unfold I64 gS
  split
  ·unfold wrap32; omega
  ·unfold wrap64; omega
 have hl : Sgn (⟨#[UInt8.ofNat c.toNat]⟩ : ByteArray).data.toList:=by
  rcases hc with rfl | rfl <;> exact bp aq
 have hk : Sgn (ig mu).data.toList:=by cases mu <;> exact bp aq
 rw [gv (bp aq) (fun y hy => ?_) aq,CG]
 ·unfold bF;have e1 : wdx [cX,⟨#[UInt8.ofNat c.toNat]⟩,ig mu,aQ (gS c v)] 1 = ⟨#[UInt8.ofNat c.toNat]⟩:=rfl;have e2 : wdx [cX,⟨#[UInt8.ofNat c.toNat]⟩,ig mu,aQ (gS c v)] 2 = ig mu:=rfl;have e3 : wdx [cX,⟨#[UInt8.ofNat c.toNat]⟩,ig mu,aQ (gS c v)] 3 = aQ (gS c v):=rfl
  rw [e1,e2,e3,if_pos ⟨⟨h1,h2⟩,rfl,by cases mu; exact .inr rfl; exact .inl rfl⟩,ja _ hi]
  simp only [Option.bind_some]
  have eg : gvV ⟨#[UInt8.ofNat c.toNat]⟩ (gS c v) = some (c,v):=by
   rcases hc with rfl | rfl
   ·have hv : v < 4294967296:=by simpa [fP] using hf
    have et : gS 119 v = wrap32 v:=rfl;unfold gvV
    rw [et,if_pos yL,if_pos (by unfold wrap32; omega)]
    congr 2
    unfold wrap32;omega
   ·have et : gS 108 v = wrap64 v:=rfl;unfold gvV;rw [et,if_neg yL,if_pos yL]
    congr 2
    unfold wrap64;omega
  have ek : ((ig mu).toList == wk.toList) = mu:=by rw [cg,cg]; cases mu <;> rfl
  rw [eg]
  simp only [Option.map_some,ek]
 ·simp only [List.mem_cons,List.not_mem_nil,or_false] at hy
  rcases hy with rfl | rfl | rfl
  ·exact hl
  ·exact hk
  ·exact eB _
theorem IG (a b : Int) (ha : I64 a) (hb : I64 b) (p : Int) (M : PM) (h1 : 1 ≤ p) (h2 : p < 5) : bO p M (ba (lnS [dz,aQ a,aQ b])) = some (5,{ M with fi:=a,mo:=b }):=by
 rw [gv (bp aq) (fun y hy => ?_) aq,Du]
 ·unfold iL;have e1 : wdx [dz,aQ a,aQ b] 1 = aQ a:=rfl;have e2 : wdx [dz,aQ a,aQ b] 2 = aQ b:=rfl;rw [if_pos ⟨⟨h1,h2⟩,rfl⟩,e1,e2,ja a ha,ja b hb];rfl
 ·exact rZ
theorem FB (t : Int) (lo : ByteArray) (ht : I64 t) (hlo : bH lo 64 = true) (p : Int) (M : PM) (h1 : 5 ≤ p) (h2 : p ≤ 6) : bO p M (ba (lnS [dO,aQ t,ia lo])) = some (6,{ M with fns:=M.fns ++ [(t,lo,[])] }):=by
 have hl : lo.toList.isEmpty = true ∨ lo.data.toList ≠ []:=by
  rw [cg]
  cases lo.data.toList <;> simp
 have hw : Sgn (ia lo).data.toList ∧ rK (ia lo) = lo:=by
  unfold ia
  by_cases he : lo.toList.isEmpty = true
  ·rw [if_pos he];refine ⟨bp aq,?_⟩;unfold rK;rw [if_pos (cg _)]
   apply iK
   rw [cg] at he;rw [List.isEmpty_iff.1 he]
  ·rw [if_neg he];have hne:=hl.resolve_left he;refine ⟨⟨hne,qc hlo⟩,?_⟩;unfold rK;rw [if_neg];intro h45;rw [cg] at h45
   have:=((gq lo 64).1 hlo).1 45 (by rw [h45]; simp)
   rcases this with h | h <;> cases h
 rw [gv (bp aq) (fun y hy => ?_) aq,Lb]
 ·unfold iq;have e1 : wdx [dO,aQ t,ia lo] 1 = aQ t:=rfl;have e2 : wdx [dO,aQ t,ia lo] 2 = ia lo:=rfl;rw [if_pos ⟨⟨h1,h2⟩,rfl⟩,e1,e2,ja t ht,hw.2];rfl
 ·simp only [List.mem_cons,List.not_mem_nil,or_false] at hy
  rcases hy with rfl | rfl
  ·exact eB _
  ·exact hw.1
theorem KJ (a : Int) (l : List Int) (ha : I64 a) (hl : l ≠ []) (hr : ∀ b ∈ l,0 ≤ b ∧ b ≤ 255) (p : Int) (M : PM) (h1 : 5 ≤ p) (h2 : p ≤ 7) : bO p M (ba (lnS [gK,aQ a,⟨(eX l).toArray⟩])) = some (7,{ M with data:=M.data ++ [(a,l)] }):=by
 rw [gv (bp aq) (fun y hy => ?_) aq,Jy]
 ·unfold iF;have e1 : wdx [gK,aQ a,⟨(eX l).toArray⟩] 1 = aQ a:=rfl;have e2 : wdx [gK,aQ a,⟨(eX l).toArray⟩] 2 = ⟨(eX l).toArray⟩:=rfl;have e3 : mO ⟨(eX l).toArray⟩ = some l:=BA l hr;rw [if_pos ⟨⟨h1,h2⟩,rfl⟩,e1,e2,ja a ha,e3];rfl
 ·exact sX
theorem Jg (n : ByteArray) (f : Int) (hf : I64 f) (hn : iW n = true) (p : Int) (M : PM) (h1 : 5 ≤ p) (h2 : p ≤ 8) : bO p M (ba (lnS [dv,n,aQ f])) = some (8,{ M with exps:=M.exps ++ [(n,f)] }):=by
 have hs : Sgn n.data.toList:=by
  exact Er
 rw [gv (bp aq) (fun y hy => ?_) aq,DW]
 ·unfold jH;have e1 : wdx [dv,n,aQ f] 1 = n:=rfl;have e2 : wdx [dv,n,aQ f] 2 = aQ f:=rfl;rw [if_pos ⟨⟨h1,h2⟩,rfl⟩,e1,e2,ja f hf];rfl
 ·simp only [List.mem_cons,List.not_mem_nil,or_false] at hy
  rcases hy with rfl | rfl
  ·exact hs
  ·exact eB _
theorem Dk (M : PM) : bO 0 M (ba (lnS [dR])) = some (1,M):=by
 rw [gv (bp aq) (fun y hy => by cases hy) aq,CV]
 unfold iX;rw [if_pos ⟨ae,rfl⟩]
abbrev sD (l : List UInt8) : Prop:=∀ c ∈ l,c ≠ 10
theorem LW.no {l : List UInt8} {ws : List (List UInt8)} (h : LW l ws) : sD l:=fun c hc => (h.a c hc).2
theorem OV (x : Sg) (hp : bH x.1 8 = true) (hr : bH x.2 8 = true) : sD (lnS [eJ,jF x.1 x.2]):=by
 obtain ⟨a,b⟩:=x;dsimp only at *;have hs : uj a b = true:=yD;have hv : jF a b = gm a b:=xH
 have e : lnS [eJ,jF a b] = lnS [eJ,ct a,jW,ct b]:=by
  exact tT
 rw [e]
 refine (dQ (bp aq) (fun y hy => ?_)).no
 exact zm
theorem NQ (v : Int) : sD (lnS [dI,aQ v]):=(dQ (bp aq) (qC (eB v))).no
theorem PW (x : Gl) (hc : x.1 = 119 ∨ x.1 = 108) : sD (lnS [cX,⟨#[UInt8.ofNat x.1.toNat]⟩,ig x.2.1,aQ (gS x.1 x.2.2)]):=by
 refine (dQ (bp aq) (fun y hy => ?_)).no
 exact Gt
theorem NY (a b : Int) : sD (lnS [dz,aQ a,aQ b]):=by
 refine (dQ (bp aq) (fun y hy => ?_)).no
 exact rZ
theorem Js {lo : ByteArray} (hlo : bH lo 64 = true) : Sgn (ia lo).data.toList:=by
 unfold ia
 by_cases he : lo.toList.isEmpty = true
 ·rw [if_pos he];exact bp aq
 ·rw [if_neg he];rw [cg] at he
  exact ⟨fun e => he (by rw [e]; rfl),qc hlo⟩
theorem OH (t : Int) (lo : ByteArray) (hlo : bH lo 64 = true) : sD (lnS [dO,aQ t,ia lo]):=by
 refine (dQ (bp aq) (fun y hy => ?_)).no
 exact zR
theorem PV (a : Int) (l : List Int) (hl : l ≠ []) (hr : ∀ b ∈ l,0 ≤ b ∧ b ≤ 255) : sD (lnS [gK,aQ a,⟨(eX l).toArray⟩]):=by
 refine (dQ (bp aq) (fun y hy => ?_)).no
 exact sX
theorem ME {n : ByteArray} (hn : iW n = true) : Sgn n.data.toList:=by
 exact Er
theorem PU (n : ByteArray) (f : Int) (hn : iW n = true) : sD (lnS [dv,n,aQ f]):=by
 refine (dQ (bp aq) (fun y hy => ?_)).no
 exact AJ
abbrev JT (y : InM) : ByteArray:=ba (lnS (dZ (ofV y.1).1.2.2.1 (ofV y.1).1.2.1 y.2.1 y.2.2.2))
theorem LJ {c : Int} (h0 : 0 ≤ c) (h1 : c ≤ 255) (hk : tkV c ≠ -1) : Sgn (ofV c).1.2.1.data.toList ∧ bi (ofV c).1.2.1 = (c,true) ∧ (wu.all fun w => !decide ((ofV c).1.2.1 = w)) = true ∧ (ofV c).1.2.1.data.toList.head? ≠ some 59:=by
 obtain ⟨n,rfl⟩ : ∃ n : Nat,c = n:=⟨c.toNat,ae⟩;have h:=List.all_eq_true.1 MJ n (List.mem_range.2 ae);unfold Om at h;rw [Bool.or_eq_true] at h
 rcases h with h | h
 ·exact absurd (of_decide_eq_true h) hk
 ·rw [Bool.and_eq_true,Bool.and_eq_true,Bool.and_eq_true] at h;obtain ⟨⟨⟨g1,g2⟩,g3⟩,g4⟩:=h
  exact ⟨bp g1,of_decide_eq_true g2,g3,by simpa using g4⟩
theorem H6 {c : Int} (hk : tkV c ≠ -1) : (ofV c).1.2.2.1 = tkV c:=by
 unfold tkV at hk ⊢
 split at hk
 ·rename_i h1; rw [if_pos h1]
 ·exact absurd rfl hk
def inW (y : InM) : List ByteArray:=if tkV y.1 = 0 then [] else if tkV y.1 = 3 then y.2.2.2.map aQ else [aQ y.2.1]
theorem DZ (y : InM) (h0 : 0 ≤ y.1) (h1 : y.1 ≤ 255) (hk : tkV y.1 ≠ -1) : LW (lnS (dZ (ofV y.1).1.2.2.1 (ofV y.1).1.2.1 y.2.1 y.2.2.2)) ((ofV y.1).1.2.1.data.toList :: (inW y).map (·.data.toList)):=by
 have e : lnS (dZ (ofV y.1).1.2.2.1 (ofV y.1).1.2.1 y.2.1 y.2.2.2) = 32 :: 32 :: lnS ((ofV y.1).1.2.1 :: inW y):=by
  unfold dZ;rw [H6 hk,nj,nj]
  simp [inW]
 rw [e]
 refine ((dQ (LJ h0 h1 hk).1 (fun w hw => ?_)).lead).lead
 unfold inW at hw
 split at hw
 ·cases hw
 ·split at hw
  ·obtain ⟨z,-,rfl⟩:=List.mem_map.1 hw;exact eB z
  ·obtain rfl:=List.mem_singleton.1 hw;exact eB _
theorem Di (fs : List PFn) (t : Int) (lo : ByteArray) (c : List PIn) (y : PIn) : qa (fs ++ [(t,lo,c)]) y = fs ++ [(t,lo,c ++ [y])]:=by
 unfold qa
 simp
theorem Hi (y : InM) (h0 : 0 ≤ y.1) (h1 : y.1 ≤ 255) (hx : eo y = 0) (hl : ∀ z ∈ y.2.2.2,I64 z) (ha : I64 y.2.1) (M : PM) (fs : List PFn) (t : Int) (lo : ByteArray) (c : List PIn) (hM : M.fns = fs ++ [(t,lo,c)]) :
  bO 6 M (JT y) = some (6,{ M with fns:=fs ++ [(t,lo,c ++ [plI y])] }):=by
 obtain ⟨k1,k2,k3,k4,k5⟩:=kg hx;obtain ⟨g1,g2,g3,g4⟩:=LJ h0 h1 k1;rw [Cf (DZ y h0 h1 k1) g1 g4,List.map_cons,Ie,Jl g3];have e0 : wdx (ba (ofV y.1).1.2.1.data.toList :: inW y) 0 = (ofV y.1).1.2.1:=rfl
 have ep : jl y.1 (ba (ofV y.1).1.2.1.data.toList :: inW y) = some (plI y):=by
  unfold jl;rw [H6 k1];unfold inW plI
  by_cases t0 : tkV y.1 = 0
  ·rw [if_pos t0,if_pos t0,if_pos (List.length_singleton)]
   have hi' : hi (tkV y.1) (lgV y.1) = 0:=by unfold hi; rw [if_pos (Or.inl t0)]
   have lw : Go.Proofs.YtheefojaplnnoaaGreatDoor.lo (tkV y.1) (lgV y.1) = 0:=by unfold Go.Proofs.YtheefojaplnnoaaGreatDoor.lo; rw [t0]; rfl
   have ea : y.2.1 = 0:=ae;rw [ea,k5 ae]
  ·rw [if_neg t0,if_neg t0]
   by_cases t3 : tkV y.1 = 3
   ·rw [if_pos t3,if_pos t3]
    have hi' : hi (tkV y.1) (lgV y.1) = 0:=by unfold hi; rw [if_pos (Or.inr t3)]
    have lw : Go.Proofs.YtheefojaplnnoaaGreatDoor.lo (tkV y.1) (lgV y.1) = 0:=by unfold Go.Proofs.YtheefojaplnnoaaGreatDoor.lo; rw [t3]; rfl
    have ea : y.2.1 = 0:=ae;rw [List.tail_cons,wo _ hl,ea];rfl
   ·rw [if_neg t3,if_neg t3,if_pos (show [ba (ofV y.1).1.2.1.data.toList,aQ y.2.1].length = 2 from rfl),k5 t3];have e1 : wdx (ba (ofV y.1).1.2.1.data.toList :: [aQ y.2.1]) 1 = aQ y.2.1:=rfl;rw [e1,ja _ ha];rfl
 unfold cj;rw [e0,g2,if_pos ⟨ae,rfl⟩,ep,hM]
 simp only [Option.map_some,Di]
def InC (y : InM) : Prop:=0 ≤ y.1 ∧ y.1 ≤ 255 ∧ eo y = 0 ∧ (∀ z ∈ y.2.2.2,I64 z) ∧ I64 y.2.1
theorem pD (fs : List PFn) (t : Int) (lo : ByteArray) : ∀ (ys : List InM),(∀ y ∈ ys,InC y) → ∀ (c : List PIn) (ln : Int) (M : PM),M.fns = fs ++ [(t,lo,c)] → ∃ ln',bh ln 6 M (ys.map JT) = (ln',some (6,{ M with fns:=fs ++ [(t,lo,c ++ ys.map plI)] }))
 | [],_,c,ln,M,hM => ⟨ln,by
  have e : ({ M with fns:=fs ++ [(t,lo,c ++ [])] } : PM) = M:=by rw [List.append_nil,← hM]
  simp only [List.map_nil,bh,e]⟩
 | y :: ys,h,c,ln,M,hM => by
  obtain ⟨q1,q2,q3,q4,q5⟩:=h y ar;have ht:=Hi y q1 q2 q3 q4 q5 M fs t lo c hM
  obtain ⟨l',e⟩:=pD fs t lo ys (fun z hz => h z (by simp [hz])) (c ++ [plI y]) (ln + 1) { M with fns:=fs ++ [(t,lo,c ++ [plI y])] } rfl
  refine ⟨l',?_⟩
  simp only [List.map_cons,bh,ht]
  rw [e]
  simp
abbrev nH (x : FuM) : List ByteArray:=ba (lnS [dO,aQ x.1,ia x.2.1]) :: x.2.2.2.map JT
def M0 (x : FuM) : Prop:=I64 x.1 ∧ bH x.2.1 64 = true ∧ ∀ y ∈ x.2.2.2,InC y
theorem qY : ∀ (xs : List FuM),(∀ x ∈ xs,M0 x) → ∀ (ln p : Int) (M : PM),5 ≤ p → p ≤ 6 → ∃ ln' p',bh ln p M (xs.flatMap nH) = (ln',some (p',{ M with fns:=M.fns ++ xs.map plF })) ∧ 5 ≤ p' ∧ p' ≤ 6
 | [],_,ln,p,M,h1,h2 => ⟨ln,p,by simp [bh],h1,h2⟩
 | x :: xs,h,ln,p,M,h1,h2 => by
  obtain ⟨q1,q2,q3⟩:=h x ar;have ht:=FB x.1 x.2.1 q1 q2 p M h1 h2
  obtain ⟨l1,e1⟩:=pD M.fns x.1 x.2.1 x.2.2.2 q3 [] (ln + 1) { M with fns:=M.fns ++ [(x.1,x.2.1,[])] } rfl
  obtain ⟨l2,p2,e2,k1,k2⟩:=qY xs (fun z hz => h z (by simp [hz])) l1 6 { M with fns:=M.fns ++ [plF x] } aq aq
  refine ⟨l2,p2,?_,k1,k2⟩
  have e0 : bh ln p M (nH x) = (l1,some (6,{ M with fns:=M.fns ++ [plF x] })):=by
   unfold nH
   simp only [bh,ht]
   rw [e1]
   simp [plF]
  rw [List.flatMap_cons,cU _ _ _ _ _ _ _ _ e0,e2]
  simp
structure MC8 (m : MM) : Prop where
 ty : ∀ x ∈ m.types,bH x.1 8 = true ∧ bH x.2 8 = true
 ho : ∀ x ∈ m.hosts,I64 x
 gl : ∀ x ∈ m.globals,(x.1 = 119 ∨ x.1 = 108) ∧ fP x.2.2 x.1 = true ∧ 0 ≤ x.2.2 ∧ x.2.2 < 18446744073709551616
 fi : I64 m.fi
 mo : I64 m.mo
 fn : ∀ x ∈ m.fns,M0 x
 da : ∀ x ∈ m.data,I64 x.1 ∧ x.2.2 ≠ [] ∧ ∀ b ∈ x.2.2,0 ≤ b ∧ b ≤ 255
 ex : ∀ x ∈ m.exps,I64 x.2 ∧ iW x.1 = true
def Ko (x : Sg) : ByteArray:=ba (lnS [eJ,jF x.1 x.2])
def J7 (x : Int) : ByteArray:=ba (lnS [dI,aQ x])
def Lf (x : Gl) : ByteArray:=ba (lnS [cX,⟨#[UInt8.ofNat x.1.toNat]⟩,ig x.2.1,aQ (gS x.1 x.2.2)])
def J1 (x : DaM) : ByteArray:=ba (lnS [gK,aQ x.1,⟨(eX x.2.2).toArray⟩])
def Ju (x : Ex) : ByteArray:=ba (lnS [dv,x.1,aQ x.2])
def gu (m : MM) : List ByteArray:=[ba (lnS [dR])] ++ (m.types.map Ko ++ (m.hosts.map J7 ++ (m.globals.map Lf ++ ([ba (lnS [dz,aQ m.fi,aQ m.mo])] ++ (m.fns.flatMap nH ++ (m.data.map J1 ++ m.exps.map Ju))))))
theorem A3 : ∀ (xs : List Sg) (M : PM),xs.foldl (fun M x => { M with types:=M.types ++ [x] }) M = { M with types:=M.types ++ xs }
 | [],M => by simp
 | x :: xs,M => by rw [List.foldl_cons,A3]; simp
theorem Ao : ∀ (xs : List Int) (M : PM),xs.foldl (fun M x => { M with hosts:=M.hosts ++ [x] }) M = { M with hosts:=M.hosts ++ xs }
 | [],M => by simp
 | x :: xs,M => by rw [List.foldl_cons,Ao]; simp
theorem zY : ∀ (xs : List Gl) (M : PM),xs.foldl (fun M x => { M with globals:=M.globals ++ [x] }) M = { M with globals:=M.globals ++ xs }
 | [],M => by simp
 | x :: xs,M => by rw [List.foldl_cons,zY]; simp
theorem AK : ∀ (xs : List DaM) (M : PM),xs.foldl (fun M x => { M with data:=M.data ++ [plD x] }) M = { M with data:=M.data ++ xs.map plD }
 | [],M => by simp
 | x :: xs,M => by rw [List.foldl_cons,AK]; simp
theorem AX : ∀ (xs : List Ex) (M : PM),xs.foldl (fun M x => { M with exps:=M.exps ++ [x] }) M = { M with exps:=M.exps ++ xs }
 | [],M => by simp
 | x :: xs,M => by rw [List.foldl_cons,AX]; simp
theorem EA (m : MM) (h : MC8 m) : ∃ ln p,bh 0 0 pm0 (gu m) = (ln,some (p,pl m)) ∧ 5 ≤ p ∧ p ≤ 8:=by
 have e0 : bh 0 0 pm0 [ba (lnS [dR])] = (1,some (1,pm0)):=by
  simp only [bh,Dk]
  rfl
 obtain ⟨l1,p1,e1,a1,b1⟩:=sec Ko (fun M x => { M with types:=M.types ++ [x] }) 1 2 aq m.types (fun x hx p M h1 h2 => Il x (h.ty x hx).1 (h.ty x hx).2 p M h1 h2) 1 1 pm0 aq aq
 rw [A3] at e1
 replace e1 : bh 1 1 pm0 (m.types.map Ko) = (l1,some (p1,(⟨m.types,[],[],0,0,[],[],[]⟩ : PM))):=e1
 obtain ⟨l2,p2,e2,a2,b2⟩:=sec J7 (fun M x => { M with hosts:=M.hosts ++ [x] }) 1 3 aq m.hosts (fun x hx p M h1 h2 => Dy x (h.ho x hx) p M h1 h2) l1 p1 ⟨m.types,[],[],0,0,[],[],[]⟩ a1 ae
 rw [Ao] at e2
 replace e2 : bh l1 p1 ⟨m.types,[],[],0,0,[],[],[]⟩ (m.hosts.map J7) = (l2,some (p2,(⟨m.types,m.hosts,[],0,0,[],[],[]⟩ : PM))):=e2
 obtain ⟨l3,p3,e3,a3,b3⟩:=sec Lf (fun M x => { M with globals:=M.globals ++ [x] }) 1 4 aq m.globals (fun x hx p M h1 h2 => Jq x (h.gl x hx).1 (h.gl x hx).2.1 (h.gl x hx).2.2.1 (h.gl x hx).2.2.2 p M h1 h2) l2 p2 ⟨m.types,m.hosts,[],0,0,[],[],[]⟩ a2 ae
 rw [zY] at e3
 replace e3 : bh l2 p2 ⟨m.types,m.hosts,[],0,0,[],[],[]⟩ (m.globals.map Lf) = (l3,some (p3,(⟨m.types,m.hosts,m.globals,0,0,[],[],[]⟩ : PM))):=e3
 have e4 : bh l3 p3 ⟨m.types,m.hosts,m.globals,0,0,[],[],[]⟩ [ba (lnS [dz,aQ m.fi,aQ m.mo])] = (l3 + 1,some (5,(⟨m.types,m.hosts,m.globals,m.fi,m.mo,[],[],[]⟩ : PM))):=by
  simp only [bh,IG m.fi m.mo h.fi h.mo p3 _ a3 ae]
 obtain ⟨l5,p5,e5,a5,b5⟩:=qY m.fns h.fn (l3 + 1) 5 ⟨m.types,m.hosts,m.globals,m.fi,m.mo,[],[],[]⟩ aq aq
 replace e5 : bh (l3 + 1) 5 ⟨m.types,m.hosts,m.globals,m.fi,m.mo,[],[],[]⟩ (m.fns.flatMap nH) = (l5,some (p5,(⟨m.types,m.hosts,m.globals,m.fi,m.mo,m.fns.map plF,[],[]⟩ : PM))):=e5
 obtain ⟨l6,p6,e6,a6,b6⟩:=sec J1 (fun M x => { M with data:=M.data ++ [plD x] }) 5 7 aq m.data (fun x hx p M h1 h2 => KJ x.1 x.2.2 (h.da x hx).1 (h.da x hx).2.1 (h.da x hx).2.2 p M h1 h2) l5 p5 ⟨m.types,m.hosts,m.globals,m.fi,m.mo,m.fns.map plF,[],[]⟩ a5 ae
 rw [AK] at e6
 replace e6 : bh l5 p5 ⟨m.types,m.hosts,m.globals,m.fi,m.mo,m.fns.map plF,[],[]⟩ (m.data.map J1) = (l6,some (p6,(⟨m.types,m.hosts,m.globals,m.fi,m.mo,m.fns.map plF,m.data.map plD,[]⟩ : PM))):=e6
 obtain ⟨l7,p7,e7,a7,b7⟩:=sec Ju (fun M x => { M with exps:=M.exps ++ [x] }) 5 8 aq m.exps (fun x hx p M h1 h2 => Jg x.1 x.2 (h.ex x hx).1 (h.ex x hx).2 p M h1 h2) l6 p6 ⟨m.types,m.hosts,m.globals,m.fi,m.mo,m.fns.map plF,m.data.map plD,[]⟩ a6 ae
 rw [AX] at e7
 replace e7 : bh l6 p6 ⟨m.types,m.hosts,m.globals,m.fi,m.mo,m.fns.map plF,m.data.map plD,[]⟩ (m.exps.map Ju) = (l7,some (p7,pl m)):=e7
 refine ⟨l7,p7,?_,a7,b7⟩;unfold gu;rw [cU _ _ _ _ _ _ _ _ e0,cU _ _ _ _ _ _ _ _ e1,cU _ _ _ _ _ _ _ _ e2,cU _ _ _ _ _ _ _ _ e3,cU _ _ _ _ _ _ _ _ e4,cU _ _ _ _ _ _ _ _ e5,cU _ _ _ _ _ _ _ _ e6,e7]
theorem ku {α : Type} (g : α → ByteArray) (f : α → List UInt8) (h : ∀ x,f x = (g x).data.toList ++ [10]) (xs : List α) : xs.flatMap f = (xs.map g).flatMap (fun b => b.data.toList ++ [10]):=by
 rw [List.flatMap_map]
 congr 1
 exact funext h
theorem rI (m : MM) : fe m = (gu m).flatMap (fun b => b.data.toList ++ [10]):=by
 unfold fe gu
 simp only [List.flatMap_append]
 rw [← ku Ko js (fun x => rfl),← ku J7 fk (fun x => rfl),← ku Lf glL (fun x => rfl),← ku J1 daL (fun x => rfl),← ku Ju exL (fun x => rfl)]
 have ef : (m.fns.flatMap nH).flatMap (fun b => b.data.toList ++ [10]) = m.fns.flatMap fuL:=by
  rw [List.flatMap_assoc]
  congr 1
  funext x
  unfold nH fuL fnL
  rw [List.flatMap_cons,← ku JT mW (fun y => rfl)]
  rfl
 rw [ef,List.flatMap_singleton,List.flatMap_singleton];rfl
theorem MV (m : MM) (h : MC8 m) : ∀ b ∈ gu m,sD b.data.toList:=by
 intro b hb;unfold gu at hb
 simp only [List.mem_append,List.mem_singleton,List.mem_map,List.mem_flatMap] at hb
 rcases hb with rfl | ⟨x,hx,rfl⟩ | ⟨x,hx,rfl⟩ | ⟨x,hx,rfl⟩ | rfl | ⟨x,hx,hb⟩ | ⟨x,hx,rfl⟩ | ⟨x,hx,rfl⟩
 ·exact (dQ (bp aq) (fun y hy => by cases hy)).no
 ·exact OV x (h.ty x hx).1 (h.ty x hx).2
 ·exact NQ x
 ·exact PW x (h.gl x hx).1
 ·exact NY _ _
 ·obtain ⟨q1,q2,q3⟩:=h.fn x hx;unfold nH at hb
  rcases List.mem_cons.1 hb with rfl | hb
  ·exact OH _ _ q2
  ·obtain ⟨y,hy,rfl⟩:=List.mem_map.1 hb;obtain ⟨r1,r2,r3,-,-⟩:=q3 y hy;exact (DZ y r1 r2 (kg r3).1).no
 ·exact PV _ _ (h.da x hx).2.1 (h.da x hx).2.2
 ·exact PU _ _ (h.ex x hx).2
theorem GN (m : MM) (h : MC8 m) : ∃ ln p,bh 0 0 pm0 (aI ⟨(fe m).toArray⟩) = (ln,some (p,pl m)) ∧ 5 ≤ p:=by
 obtain ⟨ln,p,e,hp,-⟩:=EA m h
 have ep : aI ⟨(fe m).toArray⟩ = gu m ++ [⟨#[]⟩]:=by
  exact Fx
 have et : bO p (pl m) ⟨#[]⟩ = some (p,pl m):=by
  unfold bO;rw [if_pos (Or.inl (show aM ⟨#[]⟩ = [] from rfl))]
 refine ⟨ln + 1,p,?_,hp⟩;rw [ep,cU _ _ _ _ _ _ _ _ e]
 simp only [bh,et]
theorem xx {w : World} {R g : Nat} {m : MM} (hM : MOk w R g m) (hp : Pas m) (hi : wL m) : MC8 m:=by
 refine ⟨fun x hx => ?_,fun x hx => ?_,fun x hx => ?_,⟨hM.i0,by have:=hM.i1; omega⟩,⟨hM.o0,by have:=hM.o1; omega⟩,fun x hx => ?_,fun x hx => ?_,fun x hx => ?_⟩
 ·obtain ⟨j,hj⟩:=cd hx
  have:=hp.ty j x hj
  exact ⟨this.2.1,this.2.2.2⟩
 ·obtain ⟨j,hj⟩:=cd hx
  have:=hM.hr j x hj
  exact ⟨this.1,ae⟩
 ·obtain ⟨j,hj⟩:=cd hx;have h1:=hp.gl j x hj;have h2:=hM.gr j x hj;exact ⟨h1.1,h1.2,h2.2.2.1,h2.2.2.2⟩
 ·obtain ⟨j,hj⟩:=cd hx;have h1:=hp.fn j x hj;have h2:=hM.fr j x hj
  refine ⟨⟨h2.1.1,by have:=h2.1.2; omega⟩,h1.2.2.2.1,fun y hy => ?_⟩
  obtain ⟨i,hy⟩:=cd hy;have h3:=h2.2.2.2 i y hy
  exact ⟨h3.1,h3.2.1,h1.2.2.2.2.2 i y hy,fun z hz => h3.2.2.1.2.2.2.1 z hz,hi j x hj i y hy⟩
 ·obtain ⟨j,hj⟩:=cd hx;have h1:=hp.da j x hj;have h2:=hM.dr j x hj
  refine ⟨⟨h2.1.1,by have:=h2.1.2; omega⟩,fun e => h1.2.2.2 (by rw [e]; rfl),fun b hb => h2.2.1.2.2.2.1 b hb⟩
 ·obtain ⟨j,hj⟩:=cd hx;have h1:=hp.ex j x hj;have h2:=hM.er j x hj;exact ⟨⟨h2.1,ae⟩,h1.2.1⟩
abbrev St8 (w : World) (base : Nat) (v : Value) (xs : List ByteArray) : Prop:=w.ownsRow base 9 1 v xs.length (xs.map Value.string)
theorem Cj (w : World) (base : Nat) : St8 w base (.slice none 0 0) []:=World.ownsRow_nil w base 9 1
theorem zu {w w' : World} {base e k n : Nat} {v : Value} {xs : List Value} (h : w.ownsRow base e k v n xs) (hg : w.grownBy w' v.ownBlock) (hb : base ≤ w.heap.size) : Below base w w' :=
 ⟨hg.os,hg.tape,hg.output,hg.size,fun j hj => hg.block j ae (fun e => by have:=(gD h e.symm).1; omega)⟩
theorem KH (w : World) {ops : Array Oper} {rest : List Oper} {o : Oper} {a : Act} {Q : Exit → Act → World → Prop} (hgd : o.guard = none) (sl x : Operand) (ho : o.op = Op.call { callee:=Callee.builtin Builtin.append,args:=#[sl,x],argTypes:=#[64,64] }) (base : Nat) (v : Value) (xs : List ByteArray) (s : ByteArray) (b : Nat)
  (hs : a.eval sl = v) (hown : St8 w base v xs) (hx : a.eval x = .slice (some ⟨b,0,none⟩) 1 1) (hc : w.cell? ⟨b,0,none⟩ = some (.string s)) (hb : xs.length ≤ 1099511627776) (hbase : base ≤ w.heap.size)
  (h : ∀ (v' : Value) (w' : World),St8 w' base v' (xs ++ [s]) → Below base w w' → wpList Tryz.prog ops Q rest (a.put o.dst v') w') : wpList Tryz.prog ops Q (o :: rest) a w:=by
 obtain ⟨i0,hi,hz0,hz1,hz2⟩:=info_parts Fk;refine wpList_append_own w hgd sl x 64 ho base 9 i0 (.string ⟨#[]⟩) 1 16 Tryz.underlying64 hi hz0 hz1 hz2 rfl aq v xs.length _ hs hown ⟨b,0,none⟩ 1 1 [.string s] hx rfl ?_ ?_ bP ae hbase ?_
 ·intro j u hj
  match j,hj with
  | 0,hj =>
   obtain rfl:=Option.some.inj hj
   simpa [Addr.add] using hc
 ·intro u hu;obtain rfl:=List.mem_singleton.1 hu;rfl
 ·intro v' w' ho' hg _;refine h v' w' ?_ (zu hown hg hbase);unfold St8;rw [List.length_append,List.map_append];exact ho'
theorem vt : ∀ (l : List UInt8),(∀ c ∈ l,c ≠ 10) → aV l = [l]
 | [],_ => rfl
 | c :: l,h => by
  have hc : (c == 10) = false:=by simpa using h c ar
  rw [aV,hc,vt l (fun x hx => h x cP)]
  rfl
theorem Mn (l : List UInt8) {f i : Nat} (hf : f ≤ i) (hi : i < l.length) : (l.drop f) = (l.drop f).take (i - f) ++ (l[i]! :: l.drop (i + 1)):=by
 have e : l.drop i = (l.drop f).drop (i - f):=by rw [List.drop_drop]; congr 1; omega
 rw [← mh l hi,e,List.take_append_drop]
theorem JK (l : List UInt8) {f i : Nat} (hf : f ≤ i) (hi : i < l.length) (h : ∀ c ∈ (l.drop f).take (i - f),c ≠ 10) (hc : l[i]! ≠ 10) : ∀ c ∈ (l.drop f).take (i + 1 - f),c ≠ 10:=by
 rw [mi l hf hi];intro c hx
 rcases List.mem_append.1 hx with hx | hx
 ·exact h c hx
 ·obtain rfl:=List.mem_singleton.1 hx;exact hc
theorem sL (s : ByteArray) (i j : Nat) : s.extract i j = ba ((s.data.toList.drop i).take (j - i)):=iK (IV s i j)
theorem Lm (s : ByteArray) (w : World) (hs : s.size ≤ 1000000000) :
  Calls Tryz.prog 19 #[.string s] w fun e w' => ∃ v,e = .returned v ∧ St8 w' w.heap.size v (aI s) ∧ Below w.heap.size w w':=by
 have hL : s.data.toList.length = s.size:=Array.length_toList;have hR : ∃ P,aI s = P:=⟨_,rfl⟩;obtain ⟨P,hP⟩:=hR;rw [hP]
 have HPL:=hid (show P.length ≤ s.size + 1 by rw [← hP]; exact il s)
 have HP:=hid hP;clear hP
 go_enter Tryz.func19,Tryz.ntmps19
 go_wp2_with fail
 go_loopw [3,4,5] (fun l f i wr => ∃ (xs : List ByteArray) (fr k : Nat),f = .int .i64 fr ∧ i = .int .i64 k ∧ fr ≤ k ∧ k ≤ s.size ∧ Hid (St8 wr w.heap.size l xs) ∧ Hid (Below w.heap.size w wr) ∧ Hid (P = xs ++ (aV (s.data.toList.drop fr)).map ba) ∧ Hid (∀ c ∈ (s.data.toList.drop fr).take (k - fr),c ≠ 10)) (fun _ _ i _ => s.size - (intOf i).toNat)
 case atStart => exact ⟨[],0,0,rfl,rfl,Nat.le_refl _,Nat.zero_le _,hid (Cj w _),hid (Below.refl _ _),hid (by rw [List.drop_zero,← HP.out]; rfl),hid (fun c hc => by simp at hc)⟩
 case round =>
  obtain ⟨xs,fr,k,rfl,rfl,hfk,hk,HS,HB,HQ,HN⟩:=hrel
  by_cases hlt : k < s.size
  ·have hlt' : (k : Int) < (s.size : Int):=ae;have hk0 : (0 : Int) ≤ (k : Int):=ae;have hf0 : (0 : Int) ≤ (fr : Int):=ae;have hfk' : (fr : Int) ≤ (k : Int):=ae;have hks : (k : Int) ≤ (s.size : Int):=ae;have hwi : IntKind.i64.wrap ((k : Int) + 1) = k + 1:=IntWalk.i64_in _ ae;have hkL : k < s.data.toList.length:=ae
   have HXL:=hid (show xs.length ≤ s.size + 1 by have h1:=HPL.out; have h2:=congrArg List.length HQ.out; rw [List.length_append] at h2; omega)
   have HAT:=hid (show s.data.toList[k]! = s[k] by rw [getElem!_pos s.data.toList k hkL]; rfl)
   by_cases hc : s[k].toNat = 10
   ·have HE:=hid (show s.data.toList[k]! = 10 by rw [HAT.out]; exact UInt8.toNat_inj.1 hc)
    go_wp2_with (at_builtin; (refine KH _ rfl (.tmp 16) (.tmp 21) rfl w.heap.size _ xs (s.extract fr k) wr.heap.size rfl (HS.out.alloc _) rfl ar t6 jk ?_; intro v5 w5 hown5 hb5; have HS5:=hid hown5; have HB5:=hid ((HB.out.alloc HB.out.size _).trans hb5); clear hown5 hb5))
    refine ⟨⟨xs ++ [s.extract fr k],k + 1,k + 1,bZ,bZ,Nat.le_refl _,hlt,HS5,HB5,hid ?_,hid (fun c hc => by simp at hc)⟩,b9⟩
    rw [HQ.out,Mn _ hfk hkL,HE.out,py _ _ HN.out,List.map_cons,sL,List.append_assoc];rfl
   ·have HE:=hid (show s.data.toList[k]! ≠ 10 by rw [HAT.out]; intro h; exact hc (by rw [h]; rfl))
    go_wp2_with fail;exact ⟨⟨xs,fr,k + 1,bZ,bZ,ae,hlt,HS,HB,HQ,hid (JK _ hfk hkL HN.out HE.out)⟩,b9⟩
  ·obtain rfl : k = s.size:=ae
   have HXL:=hid (show xs.length ≤ s.size + 1 by have h1:=HPL.out; have h2:=congrArg List.length HQ.out; rw [List.length_append] at h2; omega)
   have hf0 : (0 : Int) ≤ (fr : Int):=ae;have hfk' : (fr : Int) ≤ (s.size : Int):=ae
   go_wp2_with (at_builtin; (refine KH _ rfl (.tmp 25) (.tmp 29) rfl w.heap.size _ xs (s.extract fr s.size) wr.heap.size rfl (HS.out.alloc _) rfl ar t6 jk ?_; intro v5 w5 hown5 hb5; have HS5:=hid hown5; have HB5:=hid ((HB.out.alloc HB.out.size _).trans hb5); clear hown5 hb5))
   go_wp2_with fail;go_ret;refine ⟨_,rfl,?_,HB5.out⟩
   rw [HQ.out,vt _ (fun c hc => HN.out c (by rw [List.take_of_length_le (by rw [List.length_drop]; omega)]; exact hc)),← List.take_of_length_le (l:=List.drop fr s.data.toList) (i:=s.size - fr) (by rw [List.length_drop]; omega)]
   have:=HS5.out
   rw [sL] at this;exact this
end Go.Proofs.YtheefojaplnnoaaGreatDoor

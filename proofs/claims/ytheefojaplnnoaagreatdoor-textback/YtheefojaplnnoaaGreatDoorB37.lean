/-
  Texts Ga Gb Gc.
-/
import Derived.Lib.ParseIntBTie
import Derived.Test.YtheefojaplnnoaaGreatDoorB00
import Derived.Test.YtheefojaplnnoaaGreatDoorB30
import Derived.Test.YtheefojaplnnoaaGreatDoorB33
set_option linter.unusedVariables false
set_option maxRecDepth 100000
set_option maxHeartbeats 16000000
namespace Go.Proofs.YtheefojaplnnoaaGreatDoor
open Go.RowKit
theorem Ez : ∀ (l : List UInt8) (acc : Nat) (r : List UInt8) (u : Nat),Lib.parseUint10 acc l = .ok u → Lib.parseUint10 acc (l ++ r) = Lib.parseUint10 u r
 | [],acc,r,u,h => by
  simp only [Lib.parseUint10] at h
  injection h with h
  subst h;rfl
 | c :: l,acc,r,u,h => by
  simp only [List.cons_append,Lib.parseUint10] at h ⊢
  split at h
  ·rename_i h1
   rw [if_pos h1]
   split at h
   ·cases h
   ·rename_i h2
    rw [if_neg h2]
    split at h
    ·cases h
    ·rename_i h3
     rw [if_neg h3];exact Ez l _ r u h
  ·cases h
theorem nW {d : Nat} (h : d < 10) : (UInt8.ofNat (48 + d)).toNat = 48 + d:=by
 rw [UInt8.toNat_ofNat'];omega
theorem xZ (u : Nat) (hu : u < 18446744073709551616) : Lib.parseUint10 0 (Lib.decDigits u) = .ok u:=by
 induction u using Nat.strongRecOn with
 | ind u ih =>
  rw [Lib.decDigits]
  split
  ·rename_i h
   simp only [Lib.parseUint10,nW h]
   rw [if_pos ae,if_neg ae,if_neg ae]
   congr 1
   omega
  ·rename_i h
   rw [Ez _ _ _ _ (ih (u / 10) ae ae)];have hd : u % 10 < 10:=Nat.mod_lt _ aq
   simp only [Lib.parseUint10,nW hd]
   rw [if_pos ae,if_neg ae,if_neg ae]
   congr 1
   omega
theorem xN (u : Nat) : ∀ c ∈ Lib.decDigits u,48 ≤ c.toNat ∧ c.toNat ≤ 57:=by
 induction u using Nat.strongRecOn with
 | ind u ih =>
  intro c hc;rw [Lib.decDigits] at hc
  split at hc
  ·rename_i h
   obtain rfl:=List.mem_singleton.1 hc
   rw [nW h]; omega
  ·rename_i h
   rcases List.mem_append.1 hc with hc | hc
   ·exact ih (u / 10) ae c hc
   ·obtain rfl:=List.mem_singleton.1 hc;rw [nW (Nat.mod_lt _ aq)];have : u % 10 < 10:=Nat.mod_lt _ aq;omega
theorem zq (u : Nat) : Lib.decDigits u ≠ []:=by
 rw [Lib.decDigits]
 split <;> simp
theorem Ch (n : Int) : ∀ c ∈ Lib.itoa n,45 ≤ c.toNat ∧ c.toNat ≤ 57:=by
 intro c hc;unfold Lib.itoa at hc
 split at hc
 ·rcases List.mem_cons.1 hc with rfl | hc
  ·decide
  ·have:=xN _ c hc; omega
 ·have:=xN _ c hc; omega
theorem G1 (n : Int) : Lib.itoa n ≠ []:=by
 unfold Lib.itoa
 split
 ·simp
 ·exact zq _
theorem Cc (n : Int) (h : I64 n) : Lib.atoiAll (Lib.itoa n) = .ok n:=by
 unfold I64 at h;unfold Lib.itoa
 split
 ·rename_i hn
  simp only [Lib.atoiAll]
  rw [if_pos aq]
  have e : Lib.parseMag (Lib.decDigits n.natAbs) = .ok n.natAbs:=by
   unfold Lib.parseMag;rw [if_neg (zq _)];exact xZ _ ae
  rw [e];dsimp only;rw [if_neg ar,if_neg ae,if_pos aq]
  congr 1
  omega
 ·rename_i hn
  have e : Lib.parseMag (Lib.decDigits n.toNat) = .ok n.toNat:=by
   unfold Lib.parseMag;rw [if_neg (zq _)];exact xZ _ ae
  rcases hd : Lib.decDigits n.toNat with _ | ⟨c,r⟩
  ·exact absurd hd (zq _)
  ·have hc:=xN n.toNat c (by rw [hd]; simp)
   simp only [Lib.atoiAll]
   rw [if_neg ae,← hd,e];dsimp only;rw [if_neg ae,if_neg ae,if_neg ae]
   congr 1
   omega
theorem iW (n : Int) (h : I64 n) : nmV (aS n) = some n:=by
 unfold nmV
 have e : Lib.parseIntB 64 (aS n).data.toList = .ok n:=by
  rw [Lib.parseIntB_64];exact Cc n h
 rw [e]
 simp
theorem vC : ∀ (l : List Int),(∀ z ∈ l,I64 z) → cL (l.map aS) = some l
 | [],_ => rfl
 | z :: l,h => by
  simp only [List.map_cons,cL]
  rw [iW z (h z ar),vC l (fun y hy => h y kM)]
  rfl
theorem Ic (b : Int) (h0 : 0 ≤ b) (h1 : b ≤ 255) (r : List UInt8) (t : List Int) (hr : dY r = some t) : dY (eX [b] ++ r) = some (b :: t):=by
 obtain ⟨n,rfl⟩ : ∃ n : Nat,b = n:=⟨b.toNat,ae⟩;have hn : n ≤ 255:=ae;have key : ∀ k : Fin 256,(0 ≤ eo (gj.data[((k.val : Int)).toNat / 16]?.getD 0).toNat ∧ 0 ≤ eo (gj.data[((k.val : Int)).toNat % 16]?.getD 0).toNat) ∧ eo (gj.data[((k.val : Int)).toNat / 16]?.getD 0).toNat * 16 + eo (gj.data[((k.val : Int)).toNat % 16]?.getD 0).toNat = k.val:=nv;obtain ⟨k1,k2⟩:=key ⟨n,ae⟩;dsimp only at k1 k2
 simp only [eX,List.flatMap_cons,List.flatMap_nil,List.append_nil,List.cons_append,List.nil_append,dY]
 rw [if_pos k1,hr,k2];rfl
theorem zj : ∀ (l : List Int),(∀ b ∈ l,0 ≤ b ∧ b ≤ 255) → dY (eX l) = some l
 | [],_ => rfl
 | b :: l,h => by
  have e : eX (b :: l) = eX [b] ++ eX l:=by simp [eX]
  rw [e]
  exact Ic b (h b ar).1 (h b ar).2 _ _ (zj l (fun x hx => h x jb))
theorem Ih (l : List Int) (h : ∀ b ∈ l,0 ≤ b ∧ b ≤ 255) : ∀ c ∈ eX l,48 ≤ c.toNat ∧ c.toNat ≤ 102:=by
 intro c hc;unfold eX at hc;obtain ⟨b,hb,hc⟩:=List.mem_flatMap.1 hc;have hr:=h b hb;obtain ⟨n,rfl⟩ : ∃ n : Nat,b = n:=⟨b.toNat,ae⟩;have key : ∀ k : Fin 256,(48 ≤ (gj.data[((k.val : Int)).toNat / 16]?.getD 0).toNat ∧ (gj.data[((k.val : Int)).toNat / 16]?.getD 0).toNat ≤ 102) ∧ (48 ≤ (gj.data[((k.val : Int)).toNat % 16]?.getD 0).toNat ∧ (gj.data[((k.val : Int)).toNat % 16]?.getD 0).toNat ≤ 102):=nv;obtain ⟨k1,k2⟩:=key ⟨n,ae⟩
 simp only [List.mem_cons,List.not_mem_nil,or_false] at hc
 rcases hc with rfl | rfl
 ·exact k1
 ·exact k2
theorem tR : ∀ (a r : List UInt8),(∀ c ∈ a,c ≠ 10) → bg (a ++ 10 :: r) = a :: bg r
 | [],r,_ => by simp [bg]
 | c :: a,r,h => by
  have hc : (c == 10) = false:=by simpa using h c ar
  rw [List.cons_append,bg,hc,tR a r (fun x hx => h x jb)]
  rfl
theorem qE : ∀ (ls : List (List UInt8)),(∀ a ∈ ls,∀ c ∈ a,c ≠ 10) → bg (ls.flatMap fun a => a ++ [10]) = ls ++ [[]]
 | [],_ => rfl
 | a :: ls,h => by
  rw [List.flatMap_cons,List.append_assoc,List.singleton_append,tR a _ (h a ar),qE ls (fun x hx => h x jb)]
  rfl
def gX : List UInt8 → Option (List UInt8) → List (List UInt8)
 | [],none => []
 | [],some t => [t]
 | c :: l,none => if iR c.toNat = true then gX l none else gX l (some [c])
 | c :: l,some t => if iR c.toNat = true then t :: gX l none else gX l (some (t ++ [c]))
theorem Cb (s : ByteArray) (pos : Nat) (hp : pos < s.size) (ha : ∀ c ∈ s.data.toList,c.toNat < 128) : Utf8.decode s pos = (s.data.toList[pos]!.toNat,1):=by
 have hl : pos < s.data.toList.length:=by rw [Array.length_toList]; exact hp
 have e : s.get! pos = s.data.toList[pos]!:=by
  rw [List.getElem!_eq_getElem?_getD,aD hl]
  simp only [ByteArray.get!,Option.getD_some]
  rw [Array.getElem!_eq_getD]
  simp only [Array.getD,Array.getElem_toList]
  exact dif_pos hp
 have hm : s.data.toList[pos]! ∈ s.data.toList:=by
  rw [List.getElem!_eq_getElem?_getD,aD hl];exact List.getElem_mem _
 have h1:=ha _ hm;unfold Utf8.decode
 simp only [Nat.add_zero,e]
 rw [if_pos h1]
theorem G9 (l : List UInt8) {pos : Nat} (h : pos < l.length) : l.drop pos = l[pos]! :: l.drop (pos + 1):=by
 rw [List.drop_eq_getElem_cons h,List.getElem!_eq_getElem?_getD,aD h];rfl
theorem yH (l : List UInt8) {a pos : Nat} (ha : a ≤ pos) (h : pos < l.length) : (l.drop a).take (pos + 1 - a) = (l.drop a).take (pos - a) ++ [l[pos]!]:=by
 have e : pos + 1 - a = (pos - a) + 1:=ae
 rw [e,List.take_add_one,List.getElem?_drop,show a + (pos - a) = pos by omega,List.getElem!_eq_getElem?_getD,aD h]
 rfl
theorem wG (s : ByteArray) (ha : ∀ c ∈ s.data.toList,c.toNat < 128) : ∀ (f pos : Nat) (st : Option Nat) (acc : List (Nat × Nat)),s.size - pos ≤ f → pos ≤ s.size → (∀ a,st = some a → a ≤ pos) →
  (Lib.closeSpans s (Lib.spansFromP iR s f pos st acc)).map (fun x => (s.extract x.1 x.2).data.toList) = acc.map (fun x => (s.extract x.1 x.2).data.toList) ++ gX (s.data.toList.drop pos) (st.map fun a => (s.data.toList.drop a).take (pos - a)):=by
 have hsz : s.data.toList.length = s.size:=Array.length_toList
 have fin : ∀ (st : Option Nat) (acc : List (Nat × Nat)),(∀ a,st = some a → a ≤ s.size) → (Lib.closeSpans s (acc,st)).map (fun x => (s.extract x.1 x.2).data.toList) = acc.map (fun x => (s.extract x.1 x.2).data.toList) ++ gX (s.data.toList.drop s.size) (st.map fun a => (s.data.toList.drop a).take (s.size - a)):=by
  intro st acc h;rw [List.drop_eq_nil_of_le ae]
  cases st with
  | none => simp [Lib.closeSpans,gX]
  | some a => simp [Lib.closeSpans,gX]
 intro f
 induction f with
 | zero =>
  intro pos st acc h1 h2 h3;obtain rfl : pos = s.size:=ae;exact fin st acc h3
 | succ f ih =>
  intro pos st acc h1 h2 h3
  by_cases hp : pos < s.size
  ·rw [G9 s.data.toList ae];unfold Lib.spansFromP;rw [if_pos hp,Cb s pos hp ha];dsimp only
   cases st with
   | none =>
    simp only [Option.map_none,gX]
    by_cases hb : iR s.data.toList[pos]!.toNat = true
    ·rw [if_pos hb,if_pos hb]
     exact ih (pos + 1) none acc ae ae (fun a e => dt)
    ·rw [if_neg hb,if_neg hb]
     have:=ih (pos + 1) (some pos) acc ae ae (fun a e => rB)
     rw [this]
     simp only [Option.map_some]
     rw [yH s.data.toList (Nat.le_refl pos) ae]
     simp
   | some a =>
    have ha':=h3 a rfl
    simp only [Option.map_some,gX]
    by_cases hb : iR s.data.toList[pos]!.toNat = true
    ·rw [if_pos hb,if_pos hb]
     have:=ih (pos + 1) none (acc ++ [(a,pos)]) ae ae (fun a e => dt)
     rw [this]
     simp
    ·rw [if_neg hb,if_neg hb]
     have:=ih (pos + 1) (some a) acc ae ae (fun b e => rB)
     rw [this]
     simp only [Option.map_some]
     rw [yH s.data.toList ha' ae]
  ·obtain rfl : pos = s.size:=ae;rw [Lib.spansFromP_end _ _ _ _ _ _ hp];exact fin st acc h3
theorem vN (s : ByteArray) (ha : ∀ c ∈ s.data.toList,c.toNat < 128) : aM s = (gX s.data.toList none).map fun l => ⟨l.toArray⟩:=by
 have h:=wG s ha s.size 0 none [] ae ae (fun a e => dt)
 simp only [List.map_nil,List.nil_append,List.drop_zero,Option.map_none] at h
 rw [← h];unfold aM Lib.goFieldsP Lib.spansOfP;rw [List.map_map]
 apply List.map_congr_left
 intro x _;rfl
theorem qI : ∀ (w t r : List UInt8),(∀ c ∈ w,iR c.toNat = false) → gX (w ++ r) (some t) = gX r (some (t ++ w))
 | [],t,r,_ => by simp
 | c :: w,t,r,h => by
  rw [List.cons_append,gX,if_neg (by simp [h c ar]),qI w _ r (fun x hx => h x jb)]
  simp
def Wrd (w : List UInt8) : Prop:=w ≠ [] ∧ ∀ c ∈ w,iR c.toNat = false
theorem uO {w : List UInt8} (h : Wrd w) (r : List UInt8) : gX (w ++ r) none = gX r (some w):=by
 obtain ⟨h0,h1⟩:=h
 cases w with
 | nil => exact absurd rfl h0
 | cons c w =>
  rw [List.cons_append,gX,if_neg (by simp [h1 c ar]),qI w _ r (fun x hx => h1 x jb)]
  rfl
theorem qh : ∀ (ws : List (List UInt8)) (w : List UInt8),Wrd w → (∀ x ∈ ws,Wrd x) → gX (w ++ Lib.joinTail [32] ws) none = w :: ws
 | [],w,h,_ => by
  rw [uO h];rfl
 | x :: ws,w,h,hw => by
  have e : Lib.joinTail [32] (x :: ws) = 32 :: (x ++ Lib.joinTail [32] ws):=by simp [Lib.joinTail]
  rw [uO h,e,gX,if_pos aq,qh ws x (hw x ar) (fun y hy => hw y kM)]
def Sgn (w : List UInt8) : Prop:=w ≠ [] ∧ ∀ c ∈ w,33 ≤ c.toNat ∧ c.toNat ≤ 126
theorem LC {c : UInt8} (h : 33 ≤ c.toNat ∧ c.toNat ≤ 126) : iR c.toNat = false:=by
 unfold iR
 simp
 omega
theorem Sgn.wrd {w : List UInt8} (h : Sgn w) : Wrd w:=⟨h.1,fun c hc => LC (h.2 c hc)⟩
structure LW (l : List UInt8) (ws : List (List UInt8)) : Prop where
 f : gX l none = ws
 a : ∀ c ∈ l,c.toNat < 128 ∧ c ≠ 10
theorem Ep : ∀ (ws : List (List UInt8)),(∀ x ∈ ws,Sgn x) → ∀ c ∈ Lib.joinTail [32] ws,c.toNat < 128 ∧ c ≠ 10
 | [],_,c,hc => by simp [Lib.joinTail] at hc
 | x :: ws,h,c,hc => by
  have e : Lib.joinTail [32] (x :: ws) = 32 :: (x ++ Lib.joinTail [32] ws):=by simp [Lib.joinTail]
  rw [e] at hc
  rcases List.mem_cons.1 hc with rfl | hc
  ·decide
  ·rcases List.mem_append.1 hc with hc | hc
   ·have:=(h x ar).2 c hc
    refine ⟨ae,fun e => ?_⟩
    subst e;exact absurd this aq
   ·exact Ep ws (fun y hy => h y kM) c hc
theorem GK {w : List UInt8} {ws : List (List UInt8)} (h : Sgn w) (hw : ∀ x ∈ ws,Sgn x) : LW (w ++ Lib.joinTail [32] ws) (w :: ws):=by
 refine ⟨qh ws w h.wrd (fun x hx => (hw x hx).wrd),fun c hc => ?_⟩
 rcases List.mem_append.1 hc with hc | hc
 ·have:=h.2 c hc
  refine ⟨ae,fun e => ?_⟩
  subst e;exact absurd this aq
 ·exact Ep ws hw c hc
theorem LW.lead {l : List UInt8} {ws : List (List UInt8)} (h : LW l ws) : LW (32 :: l) ws:=by
 refine ⟨?_,fun c hc => ?_⟩
 ·rw [gX,if_pos aq];exact h.f
 ·rcases List.mem_cons.1 hc with rfl | hc
  ·decide
  ·exact h.a c hc
abbrev ba (l : List UInt8) : ByteArray:=⟨l.toArray⟩
theorem yD {l : List UInt8} {w : List UInt8} {ws : List (List UInt8)} (h : LW l (w :: ws)) (hw : Sgn w) (h59 : w.head? ≠ some 59) (p : Int) (M : PM) : cM p M (ba l) = bG p M ((w :: ws).map ba):=by
 have e : aM (ba l) = (w :: ws).map ba:=by
  rw [vN _ (fun c hc => (h.a c hc).1)]
  show (gX l none).map _ = _
  rw [h.f]
 unfold cM;rw [e,if_neg]
 rintro (h1 | h1)
 ·cases h1
 ·cases w with
  | nil => exact hw.1 rfl
  | cons c w =>
   have h2 : ((c.toNat : Nat) : Int) = 59:=h1
   exact h59 (by
    simp only [List.head?_cons,Option.some.injEq]
    apply UInt8.toNat.inj
    show c.toNat = 59
    omega)
theorem dH : ∀ (a b : List ByteArray) (ln p : Int) (M : PM) (l' p' : Int) (M' : PM),bA ln p M a = (l',some (p',M')) → bA ln p M (a ++ b) = bA l' p' M' b
 | [],b,ln,p,M,l',p',M',h => by
  simp only [bA] at h
  obtain ⟨h1,h2⟩:=Prod.mk.inj h;obtain ⟨h3,h4⟩:=Prod.mk.inj (Option.some.inj h2);subst h1 h3 h4;rfl
 | x :: a,b,ln,p,M,l',p',M',h => by
  simp only [List.cons_append,bA] at h ⊢
  cases ht : cM p M x with
  | none => rw [ht] at h; cases h
  | some y =>
   rw [ht] at h;exact dH a b _ _ _ _ _ _ h
theorem sec {α : Type} (g : α → ByteArray) (f : PM → α → PM) (lo q : Int) (hq : lo ≤ q) : ∀ (xs : List α),(∀ x ∈ xs,∀ p M,lo ≤ p → p ≤ q → cM p M (g x) = some (q,f M x)) → ∀ ln p M,lo ≤ p → p ≤ q → ∃ ln' p',bA ln p M (xs.map g) = (ln',some (p',xs.foldl f M)) ∧ lo ≤ p' ∧ p' ≤ q
 | [],_,ln,p,M,h1,h2 => ⟨ln,p,rfl,h1,h2⟩
 | x :: xs,h,ln,p,M,h1,h2 => by
  obtain ⟨l',p',e,k1,k2⟩:=sec g f lo q hq xs (fun y hy => h y kM) (ln + 1) q (f M x) hq (Int.le_refl _)
  refine ⟨l',p',?_,k1,k2⟩
  simp only [List.map_cons,bA,h x ar p M h1 h2,List.foldl_cons]
  exact e
theorem eD (n : Int) : Sgn (aS n).data.toList:=⟨G1 n,fun c hc => by have:=Ch n c hc; omega⟩
theorem pM {s : ByteArray} {k : Nat} (h : bI s k = true) : ∀ c ∈ s.data.toList,33 ≤ c.toNat ∧ c.toNat ≤ 126:=fun c hc => by
 rcases ((fX s k).1 h).1 c hc with rfl | rfl <;> decide
theorem uy {p : ByteArray} (h : bI p 8 = true) : Sgn (cu p).data.toList:=by
 rw [ji]
 split
 ·exact ⟨ar,fun c hc => by obtain rfl:=List.mem_singleton.1 hc; decide⟩
 ·rename_i hn
  exact ⟨hn,pM h⟩
theorem Iu {l : List Int} (h0 : l ≠ []) (h : ∀ b ∈ l,0 ≤ b ∧ b ≤ 255) : Sgn (eX l):=by
 refine ⟨?_,fun c hc => by have:=Ih l h c hc; omega⟩
 cases l with
 | nil => exact absurd rfl h0
 | cons b l => simp [eX]
theorem bR {l : List UInt8} (h : (!l.isEmpty && l.all fun c => decide (33 ≤ c.toNat) && decide (c.toNat ≤ 126)) = true) : Sgn l:=by
 simp only [Bool.and_eq_true,List.all_eq_true,decide_eq_true_eq] at h
 exact ⟨fun e => by rw [e] at h; simp at h,h.2⟩
def lnS (xs : List ByteArray) : List UInt8:=Lib.join (xs.map (·.data.toList)) [32]
theorem jF (x : ByteArray) (xs : List ByteArray) : lnS (x :: xs) = x.data.toList ++ Lib.joinTail [32] (xs.map (·.data.toList)):=by
 unfold lnS;rw [List.map_cons,Lib.join_cons]
theorem EX (xs : List ByteArray) : (xs.map (·.data.toList)).map ba = xs:=by
 rw [List.map_map];exact List.map_id xs
theorem iy {x : ByteArray} {xs : List ByteArray} (h : Sgn x.data.toList) (hx : ∀ y ∈ xs,Sgn y.data.toList) : LW (lnS (x :: xs)) (x.data.toList :: xs.map (·.data.toList)):=by
 rw [jF]
 refine GK h (fun w hw => ?_)
 obtain ⟨y,hy,rfl⟩:=List.mem_map.1 hw;exact hx y hy
theorem fY {x : ByteArray} {xs : List ByteArray} (h : Sgn x.data.toList) (hx : ∀ y ∈ xs,Sgn y.data.toList) (h59 : x.data.toList.head? ≠ some 59) (p : Int) (M : PM) : cM p M (ba (lnS (x :: xs))) = bG p M (x :: xs):=by
 rw [yD (iy h hx) h h59]
 congr 1
 rw [List.map_cons,EX]
section
variable (p : Int) (M : PM) (xs : List ByteArray)
theorem AH : bG p M (dJ :: xs) = iD p M (dJ :: xs):=by
 have e : wdx (dJ :: xs) 0 = dJ:=rfl;unfold bG;rw [e,if_pos aq]
theorem I7 : bG p M (fM :: xs) = fO p M (fM :: xs):=by
 have e : wdx (fM :: xs) 0 = fM:=rfl;unfold bG;rw [e,if_neg aq,if_pos aq]
theorem Ar : bG p M (dL :: xs) = fJ p M (dL :: xs):=by
 have e : wdx (dL :: xs) 0 = dL:=rfl;unfold bG;rw [e,if_neg aq,if_neg aq,if_pos aq]
theorem A4 : bG p M (cV :: xs) = bD p M (cV :: xs):=by
 have e : wdx (cV :: xs) 0 = cV:=rfl;unfold bG;rw [e,if_neg aq,if_neg aq,if_neg aq,if_pos aq]
theorem Bc : bG p M (dB :: xs) = iw p M (dB :: xs):=by
 have e : wdx (dB :: xs) 0 = dB:=rfl;unfold bG;rw [e,if_neg aq,if_neg aq,if_neg aq,if_neg aq,if_pos aq]
theorem Hx : bG p M (dM :: xs) = gU p M (dM :: xs):=by
 have e : wdx (dM :: xs) 0 = dM:=rfl;unfold bG;rw [e,if_neg aq,if_neg aq,if_neg aq,if_neg aq,if_neg aq,if_pos aq]
theorem Iy : bG p M (gB :: xs) = iz p M (gB :: xs):=by
 have e : wdx (gB :: xs) 0 = gB:=rfl;unfold bG;rw [e,if_neg aq,if_neg aq,if_neg aq,if_neg aq,if_neg aq,if_neg aq,if_pos aq]
theorem BO : bG p M (dF :: xs) = jt p M (dF :: xs):=by
 have e : wdx (dF :: xs) 0 = dF:=rfl;unfold bG;rw [e,if_neg aq,if_neg aq,if_neg aq,if_neg aq,if_neg aq,if_neg aq,if_neg aq,if_pos aq]
end
def uU : List ByteArray:=[dJ,fM,dL,cV,dB,dM,gB,dF]
def MB (c : Nat) : Bool:=decide (tkV (c : Int) = -1) || ((!((ofV (c : Int)).1.2.1.data.toList).isEmpty && ((ofV (c : Int)).1.2.1.data.toList).all fun b => decide (33 ≤ b.toNat) && decide (b.toNat ≤ 126)) && decide (bh (ofV (c : Int)).1.2.1 = ((c : Int),true)) && (uU.all fun w => !decide ((ofV (c : Int)).1.2.1 = w)) && !decide (((ofV (c : Int)).1.2.1.data.toList).head? = some 59))
theorem Kj : ((List.range 256).all MB) = true:=ai
theorem GF {w : ByteArray} (h : (uU.all fun x => !decide (w = x)) = true) (p : Int) (M : PM) (xs : List ByteArray) : bG p M (w :: xs) = b9 p M (w :: xs):=by
 have e : wdx (w :: xs) 0 = w:=rfl
 have h' : ∀ x ∈ uU,w ≠ x:=fun x hx => by
  have:=List.all_eq_true.1 h x hx
  exact bV
 have k0 : w ≠ ⟨#[102,108,97,103,111,110]⟩:=h' dJ jJ;have k1 : w ≠ ⟨#[116,121,112,101]⟩:=h' fM jJ;have k2 : w ≠ ⟨#[101,120,116,101,114,110]⟩:=h' dL jJ;have k3 : w ≠ ⟨#[103,108,111,98,97,108]⟩:=h' cV jJ;have k4 : w ≠ ⟨#[109,101,109,111,114,121]⟩:=h' dB jJ;have k5 : w ≠ ⟨#[102,117,110,99]⟩:=h' dM jJ;have k6 : w ≠ ⟨#[100,97,116,97]⟩:=h' gB jJ;have k7 : w ≠ ⟨#[101,120,112,111,114,116]⟩:=h' dF jJ;unfold bG;rw [e,if_neg k0,if_neg k1,if_neg k2,if_neg k3,if_neg k4,if_neg k5,if_neg k6,if_neg k7]
theorem ux {α : Type} {P : α → Prop} {a : α} (h : P a) : ∀ x ∈ [a],P x:=fun x hx => by obtain rfl:=List.mem_singleton.1 hx; exact h
def jA : ByteArray:=⟨#[45,62]⟩
theorem Ew (x : Sg) (hp : bI x.1 8 = true) (hr : bI x.2 8 = true) (p : Int) (M : PM) (h1 : 1 ≤ p) (h2 : p ≤ 2) : cM p M (ba (lnS [fM,kj x.1 x.2])) = some (2,{ M with types:=M.types ++ [x] }):=by
 obtain ⟨a,b⟩:=x;dsimp only at *
 have hs : sf a b = true:=by unfold sf; simp [hp,hr]
 have hv : kj a b = gu a b:=by unfold kj; rw [if_pos hs]
 have e : lnS [fM,kj a b] = lnS [fM,cu a,jA,cu b]:=by
  rw [hv]
  simp [jF,Lib.joinTail,iZ,jA,eU]
 have ej : cS [cu a,jA,cu b] = gu a b:=by
  apply iQ
  rw [iZ]
  simp [cS,Lib.join_cons,Lib.joinTail,jA,eU]
 obtain ⟨q1,q2,q3,q4⟩:=Io hs
 rw [e,fY (bR aq) (fun y hy => ?_) aq,I7]
 ·unfold fO;have et : (fM :: [cu a,jA,cu b]).tail = [cu a,jA,cu b]:=rfl;rw [et,ej,if_pos ⟨⟨h1,h2⟩,q4⟩,q2,q3]
 ·exact EO
theorem A1 (v : Int) (hv : I64 v) (p : Int) (M : PM) (h1 : 1 ≤ p) (h2 : p ≤ 3) : cM p M (ba (lnS [dL,aS v])) = some (3,{ M with hosts:=M.hosts ++ [v] }):=by
 rw [fY (bR aq) (ux (eD v)) aq,Ar];unfold fJ;have e1 : wdx [dL,aS v] 1 = aS v:=rfl;rw [if_pos ⟨⟨h1,h2⟩,rfl⟩,e1,iW v hv];rfl
theorem Gx (x : Gl) (hc : x.1 = 119 ∨ x.1 = 108) (hf : fL x.2.2 x.1 = true) (h0 : 0 ≤ x.2.2) (h3 : x.2.2 < 18446744073709551616) (p : Int) (M : PM) (h1 : 1 ≤ p) (h2 : p ≤ 4) :
  cM p M (ba (lnS [cV,⟨#[UInt8.ofNat x.1.toNat]⟩,gZ x.2.1,aS (gD x.1 x.2.2)])) = some (4,{ M with globals:=M.globals ++ [x] }):=by
 obtain ⟨c,mu,v⟩:=x;dsimp only at *
 have hi : I64 (gD c v):=by
  unfold I64 gD
  split
  ·unfold wrap32; omega
  ·unfold wrap64; omega
 have hl : Sgn (⟨#[UInt8.ofNat c.toNat]⟩ : ByteArray).data.toList:=by
  rcases hc with rfl | rfl <;> exact bR aq
 have hk : Sgn (gZ mu).data.toList:=by cases mu <;> exact bR aq
 rw [fY (bR aq) (fun y hy => ?_) aq,A4]
 ·unfold bD;have e1 : wdx [cV,⟨#[UInt8.ofNat c.toNat]⟩,gZ mu,aS (gD c v)] 1 = ⟨#[UInt8.ofNat c.toNat]⟩:=rfl;have e2 : wdx [cV,⟨#[UInt8.ofNat c.toNat]⟩,gZ mu,aS (gD c v)] 2 = gZ mu:=rfl;have e3 : wdx [cV,⟨#[UInt8.ofNat c.toNat]⟩,gZ mu,aS (gD c v)] 3 = aS (gD c v):=rfl
  rw [e1,e2,e3,if_pos ⟨⟨h1,h2⟩,rfl,by cases mu; exact .inr rfl; exact .inl rfl⟩,iW _ hi]
  simp only [Option.bind_some]
  have eg : gvV ⟨#[UInt8.ofNat c.toNat]⟩ (gD c v) = some (c,v):=by
   rcases hc with rfl | rfl
   ·have hv : v < 4294967296:=by simpa [fL] using hf
    have et : gD 119 v = wrap32 v:=rfl;unfold gvV
    rw [et,if_pos wV,if_pos (by unfold wrap32; omega)]
    congr 2
    unfold wrap32;omega
   ·have et : gD 108 v = wrap64 v:=rfl;unfold gvV;rw [et,if_neg wV,if_pos wV]
    congr 2
    unfold wrap64;omega
  have ek : ((gZ mu).toList == vg.toList) = mu:=by rw [bZ,bZ]; cases mu <;> rfl
  rw [eg]
  simp only [Option.map_some,ek]
 ·simp only [List.mem_cons,List.not_mem_nil,or_false] at hy
  rcases hy with rfl | rfl | rfl
  ·exact hl
  ·exact hk
  ·exact eD _
theorem EC (a b : Int) (ha : I64 a) (hb : I64 b) (p : Int) (M : PM) (h1 : 1 ≤ p) (h2 : p < 5) : cM p M (ba (lnS [dB,aS a,aS b])) = some (5,{ M with fi:=a,mo:=b }):=by
 rw [fY (bR aq) (fun y hy => ?_) aq,Bc]
 ·unfold iw;have e1 : wdx [dB,aS a,aS b] 1 = aS a:=rfl;have e2 : wdx [dB,aS a,aS b] 2 = aS b:=rfl;rw [if_pos ⟨⟨h1,h2⟩,rfl⟩,e1,e2,iW a ha,iW b hb];rfl
 ·exact Ac
theorem Ek (t : Int) (lo : ByteArray) (ht : I64 t) (hlo : bI lo 64 = true) (p : Int) (M : PM) (h1 : 5 ≤ p) (h2 : p ≤ 6) : cM p M (ba (lnS [dM,aS t,gW lo])) = some (6,{ M with fns:=M.fns ++ [(t,lo,[])] }):=by
 have hl : lo.toList.isEmpty = true ∨ lo.data.toList ≠ []:=by
  rw [bZ]
  cases lo.data.toList <;> simp
 have hw : Sgn (gW lo).data.toList ∧ qG (gW lo) = lo:=by
  unfold gW
  by_cases he : lo.toList.isEmpty = true
  ·rw [if_pos he];refine ⟨bR aq,?_⟩;unfold qG;rw [if_pos (bZ _)]
   apply iQ
   rw [bZ] at he;rw [List.isEmpty_iff.1 he]
  ·rw [if_neg he];have hne:=hl.resolve_left he;refine ⟨⟨hne,pM hlo⟩,?_⟩;unfold qG;rw [if_neg];intro h45;rw [bZ] at h45
   have:=((fX lo 64).1 hlo).1 45 (by rw [h45]; simp)
   rcases this with h | h <;> cases h
 rw [fY (bR aq) (fun y hy => ?_) aq,Hx]
 ·unfold gU;have e1 : wdx [dM,aS t,gW lo] 1 = aS t:=rfl;have e2 : wdx [dM,aS t,gW lo] 2 = gW lo:=rfl;rw [if_pos ⟨⟨h1,h2⟩,rfl⟩,e1,e2,iW t ht,hw.2];rfl
 ·simp only [List.mem_cons,List.not_mem_nil,or_false] at hy
  rcases hy with rfl | rfl
  ·exact eD _
  ·exact hw.1
theorem I9 (a : Int) (l : List Int) (ha : I64 a) (hl : l ≠ []) (hr : ∀ b ∈ l,0 ≤ b ∧ b ≤ 255) (p : Int) (M : PM) (h1 : 5 ≤ p) (h2 : p ≤ 7) : cM p M (ba (lnS [gB,aS a,⟨(eX l).toArray⟩])) = some (7,{ M with data:=M.data ++ [(a,l)] }):=by
 rw [fY (bR aq) (fun y hy => ?_) aq,Iy]
 ·unfold iz;have e1 : wdx [gB,aS a,⟨(eX l).toArray⟩] 1 = aS a:=rfl;have e2 : wdx [gB,aS a,⟨(eX l).toArray⟩] 2 = ⟨(eX l).toArray⟩:=rfl;have e3 : ml ⟨(eX l).toArray⟩ = some l:=zj l hr;rw [if_pos ⟨⟨h1,h2⟩,rfl⟩,e1,e2,iW a ha,e3];rfl
 ·exact zU
theorem GG (n : ByteArray) (f : Int) (hf : I64 f) (hn : iO n = true) (p : Int) (M : PM) (h1 : 5 ≤ p) (h2 : p ≤ 8) : cM p M (ba (lnS [dF,n,aS f])) = some (8,{ M with exps:=M.exps ++ [(n,f)] }):=by
 have hs : Sgn n.data.toList:=by
  exact Gq
 rw [fY (bR aq) (fun y hy => ?_) aq,BO]
 ·unfold jt;have e1 : wdx [dF,n,aS f] 1 = n:=rfl;have e2 : wdx [dF,n,aS f] 2 = aS f:=rfl;rw [if_pos ⟨⟨h1,h2⟩,rfl⟩,e1,e2,iW f hf];rfl
 ·simp only [List.mem_cons,List.not_mem_nil,or_false] at hy
  rcases hy with rfl | rfl
  ·exact hs
  ·exact eD _
theorem Aq (M : PM) : cM 0 M (ba (lnS [dJ])) = some (1,M):=by
 rw [fY (bR aq) (fun y hy => by cases hy) aq,AH]
 unfold iD;rw [if_pos ⟨ae,rfl⟩]
abbrev rZ (l : List UInt8) : Prop:=∀ c ∈ l,c ≠ 10
theorem LW.no {l : List UInt8} {ws : List (List UInt8)} (h : LW l ws) : rZ l:=fun c hc => (h.a c hc).2
theorem LS (x : Sg) (hp : bI x.1 8 = true) (hr : bI x.2 8 = true) : rZ (lnS [fM,kj x.1 x.2]):=by
 obtain ⟨a,b⟩:=x;dsimp only at *
 have hs : sf a b = true:=by unfold sf; simp [hp,hr]
 have hv : kj a b = gu a b:=by unfold kj; rw [if_pos hs]
 have e : lnS [fM,kj a b] = lnS [fM,cu a,jA,cu b]:=by
  rw [hv]
  simp [jF,Lib.joinTail,iZ,jA,eU]
 rw [e]
 refine (iy (bR aq) (fun y hy => ?_)).no
 exact EO
theorem KA (v : Int) : rZ (lnS [dL,aS v]):=(iy (bR aq) (ux (eD v))).no
theorem MT (x : Gl) (hc : x.1 = 119 ∨ x.1 = 108) : rZ (lnS [cV,⟨#[UInt8.ofNat x.1.toNat]⟩,gZ x.2.1,aS (gD x.1 x.2.2)]):=by
 refine (iy (bR aq) (fun y hy => ?_)).no
 simp only [List.mem_cons,List.not_mem_nil,or_false] at hy
 rcases hy with rfl | rfl | rfl
 ·rcases hc with h | h <;> (rw [h]; exact bR aq)
 ·cases x.2.1 <;> exact bR aq
 ·exact eD _
theorem Mu (a b : Int) : rZ (lnS [dB,aS a,aS b]):=by
 refine (iy (bR aq) (fun y hy => ?_)).no
 exact Ac
theorem Iq {lo : ByteArray} (hlo : bI lo 64 = true) : Sgn (gW lo).data.toList:=by
 unfold gW
 by_cases he : lo.toList.isEmpty = true
 ·rw [if_pos he];exact bR aq
 ·rw [if_neg he];rw [bZ] at he
  exact ⟨fun e => he (by rw [e]; rfl),pM hlo⟩
theorem My (t : Int) (lo : ByteArray) (hlo : bI lo 64 = true) : rZ (lnS [dM,aS t,gW lo]):=by
 refine (iy (bR aq) (fun y hy => ?_)).no
 simp only [List.mem_cons,List.not_mem_nil,or_false] at hy
 rcases hy with rfl | rfl
 ·exact eD _
 ·exact Iq hlo
theorem MN (a : Int) (l : List Int) (hl : l ≠ []) (hr : ∀ b ∈ l,0 ≤ b ∧ b ≤ 255) : rZ (lnS [gB,aS a,⟨(eX l).toArray⟩]):=by
 refine (iy (bR aq) (fun y hy => ?_)).no
 exact zU
theorem JX {n : ByteArray} (hn : iO n = true) : Sgn n.data.toList:=by
 exact Gq
theorem MJ (n : ByteArray) (f : Int) (hn : iO n = true) : rZ (lnS [dF,n,aS f]):=by
 refine (iy (bR aq) (fun y hy => ?_)).no
 simp only [List.mem_cons,List.not_mem_nil,or_false] at hy
 rcases hy with rfl | rfl
 ·exact JX hn
 ·exact eD _
abbrev Ig (y : InM) : ByteArray:=ba (lnS (dX (ofV y.1).1.2.2.1 (ofV y.1).1.2.1 y.2.1 y.2.2.2))
theorem JS {c : Int} (h0 : 0 ≤ c) (h1 : c ≤ 255) (hk : tkV c ≠ -1) : Sgn (ofV c).1.2.1.data.toList ∧ bh (ofV c).1.2.1 = (c,true) ∧ (uU.all fun w => !decide ((ofV c).1.2.1 = w)) = true ∧ (ofV c).1.2.1.data.toList.head? ≠ some 59:=by
 obtain ⟨n,rfl⟩ : ∃ n : Nat,c = n:=⟨c.toNat,ae⟩;have h:=List.all_eq_true.1 Kj n (List.mem_range.2 ae);unfold MB at h;rw [Bool.or_eq_true] at h
 rcases h with h | h
 ·exact absurd (of_decide_eq_true h) hk
 ·rw [Bool.and_eq_true,Bool.and_eq_true,Bool.and_eq_true] at h;obtain ⟨⟨⟨g1,g2⟩,g3⟩,g4⟩:=h
  exact ⟨bR g1,of_decide_eq_true g2,g3,by simpa using g4⟩
theorem EQ {c : Int} (hk : tkV c ≠ -1) : (ofV c).1.2.2.1 = tkV c:=by
 unfold tkV at hk ⊢
 split at hk
 ·rename_i h1; rw [if_pos h1]
 ·exact absurd rfl hk
def inW (y : InM) : List ByteArray:=if tkV y.1 = 0 then [] else if tkV y.1 = 3 then y.2.2.2.map aS else [aS y.2.1]
theorem JB (y : InM) (h0 : 0 ≤ y.1) (h1 : y.1 ≤ 255) (hk : tkV y.1 ≠ -1) : LW (lnS (dX (ofV y.1).1.2.2.1 (ofV y.1).1.2.1 y.2.1 y.2.2.2)) ((ofV y.1).1.2.1.data.toList :: (inW y).map (·.data.toList)):=by
 have e : lnS (dX (ofV y.1).1.2.2.1 (ofV y.1).1.2.1 y.2.1 y.2.2.2) = 32 :: 32 :: lnS ((ofV y.1).1.2.1 :: inW y):=by
  unfold dX;rw [EQ hk,jF,jF]
  simp [inW]
 rw [e]
 refine ((iy (JS h0 h1 hk).1 (fun w hw => ?_)).lead).lead
 unfold inW at hw
 split at hw
 ·cases hw
 ·split at hw
  ·obtain ⟨z,-,rfl⟩:=List.mem_map.1 hw;exact eD z
  ·obtain rfl:=List.mem_singleton.1 hw;exact eD _
theorem AE (fs : List PFn) (t : Int) (lo : ByteArray) (c : List PIn) (y : PIn) : oV (fs ++ [(t,lo,c)]) y = fs ++ [(t,lo,c ++ [y])]:=by
 unfold oV
 simp
theorem Fq (y : InM) (h0 : 0 ≤ y.1) (h1 : y.1 ≤ 255) (hx : dP y = 0) (hl : ∀ z ∈ y.2.2.2,I64 z) (ha : I64 y.2.1) (M : PM) (fs : List PFn) (t : Int) (lo : ByteArray) (c : List PIn) (hM : M.fns = fs ++ [(t,lo,c)]) :
  cM 6 M (Ig y) = some (6,{ M with fns:=fs ++ [(t,lo,c ++ [plI y])] }):=by
 obtain ⟨k1,k2,k3,k4,k5⟩:=kG hx;obtain ⟨g1,g2,g3,g4⟩:=JS h0 h1 k1;rw [yD (JB y h0 h1 k1) g1 g4,List.map_cons,EX,GF g3];have e0 : wdx (ba (ofV y.1).1.2.1.data.toList :: inW y) 0 = (ofV y.1).1.2.1:=rfl
 have ep : jm y.1 (ba (ofV y.1).1.2.1.data.toList :: inW y) = some (plI y):=by
  unfold jm;rw [EQ k1];unfold inW plI
  by_cases t0 : tkV y.1 = 0
  ·rw [if_pos t0,if_pos t0,if_pos (List.length_singleton)]
   have hi' : hi (tkV y.1) (lgV y.1) = 0:=by unfold hi; rw [if_pos (Or.inl t0)]
   have lw : Go.Proofs.YtheefojaplnnoaaGreatDoor.lo (tkV y.1) (lgV y.1) = 0:=by unfold Go.Proofs.YtheefojaplnnoaaGreatDoor.lo; rw [t0]; rfl
   have ea : y.2.1 = 0:=ae;rw [ea,k5 ae]
  ·rw [if_neg t0,if_neg t0]
   by_cases t3 : tkV y.1 = 3
   ·rw [if_pos t3,if_pos t3]
    have hi' : hi (tkV y.1) (lgV y.1) = 0:=by unfold hi; rw [if_pos (Or.inr t3)]
    have lw : Go.Proofs.YtheefojaplnnoaaGreatDoor.lo (tkV y.1) (lgV y.1) = 0:=by unfold Go.Proofs.YtheefojaplnnoaaGreatDoor.lo; rw [t3]; rfl
    have ea : y.2.1 = 0:=ae;rw [List.tail_cons,vC _ hl,ea];rfl
   ·rw [if_neg t3,if_neg t3,if_pos (show [ba (ofV y.1).1.2.1.data.toList,aS y.2.1].length = 2 from rfl),k5 t3];have e1 : wdx (ba (ofV y.1).1.2.1.data.toList :: [aS y.2.1]) 1 = aS y.2.1:=rfl;rw [e1,iW _ ha];rfl
 unfold b9;rw [e0,g2,if_pos ⟨ae,rfl⟩,ep,hM]
 simp only [Option.map_some,AE]
end Go.Proofs.YtheefojaplnnoaaGreatDoor

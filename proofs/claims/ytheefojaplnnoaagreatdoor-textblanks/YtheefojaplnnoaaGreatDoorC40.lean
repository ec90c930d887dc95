/-
  Texts Hb Hc Ge.
-/
import Derived.Test.YtheefojaplnnoaaGreatDoorC00
import Derived.Test.YtheefojaplnnoaaGreatDoorC39
set_option linter.unusedVariables false
set_option maxRecDepth 100000
set_option maxHeartbeats 16000000
namespace Go.Proofs.YtheefojaplnnoaaGreatDoor
open Go.RowKit
theorem iP : ∀ (l : List UInt8) (st : Option (List UInt8)),(bR l st).length ≤ l.length + 1
 | [],none => by simp [bR]
 | [],some t => by simp [bR]
 | c :: l,none => by
  rw [bR]
  split
  ·exact Nat.le_trans (iP l none) ar
  ·exact Nat.le_trans (iP l _) ar
 | c :: l,some t => by
  rw [bR]
  split
  ·have:=iP l none
   simp only [List.length_cons]
   omega
  ·exact Nat.le_trans (iP l _) ar
def gI (s : ByteArray) (k : Nat) (st : Option Nat) : List (List UInt8):=bR (s.data.toList.drop k) (st.map fun fr => (s.data.toList.drop fr).take (k - fr))
theorem Hp {s : ByteArray} {k : Nat} (hk : k < s.data.toList.length) (h : fI s.data.toList[k]!.toNat = true) : gI s k none = gI s (k + 1) none:=by
 exact Bu
theorem Dp {s : ByteArray} {k fr : Nat} (hk : k < s.data.toList.length) (h : fI s.data.toList[k]!.toNat = true) : gI s k (some fr) = (s.data.toList.drop fr).take (k - fr) :: gI s (k + 1) none:=by
 exact Bu
theorem GD {s : ByteArray} {k : Nat} (hk : k < s.data.toList.length) (h : fI s.data.toList[k]!.toNat = false) : gI s k none = gI s (k + 1) (some k):=by
 unfold gI;rw [mh _ hk]
 show (if _ then _ else _) = _
 rw [if_neg (by rw [h]; exact Bool.false_ne_true)]
 simp only [Option.map_some]
 rw [mi _ (Nat.le_refl k) hk,Nat.sub_self];rfl
theorem DN {s : ByteArray} {k fr : Nat} (hf : fr ≤ k) (hk : k < s.data.toList.length) (h : fI s.data.toList[k]!.toNat = false) : gI s k (some fr) = gI s (k + 1) (some fr):=by
 unfold gI;rw [mh _ hk]
 show (if _ then _ else _) = _
 rw [if_neg (by rw [h]; exact Bool.false_ne_true)]
 simp only [Option.map_some]
 rw [mi _ hf hk]
theorem kI {s : ByteArray} {k : Nat} (hk : s.data.toList.length ≤ k) : gI s k none = []:=by
 unfold gI;rw [List.drop_eq_nil_of_le hk];rfl
theorem xO {s : ByteArray} {k fr : Nat} (hk : s.data.toList.length ≤ k) : gI s k (some fr) = [(s.data.toList.drop fr).take (k - fr)]:=by
 unfold gI;rw [List.drop_eq_nil_of_le hk];rfl
theorem Br (s : ByteArray) (w : World) (hs : s.size ≤ 1000000000) :
  Calls Tryz.prog 20 #[.string s] w fun e w' => ∃ v,e = .returned v ∧ St8 w' w.heap.size v ((bR s.data.toList none).map ba) ∧ Below w.heap.size w w':=by
 have hL : s.data.toList.length = s.size:=Array.length_toList;obtain ⟨P,hP⟩ : ∃ P,(bR s.data.toList none).map ba = P:=⟨_,rfl⟩;rw [hP]
 have HPL:=hid (show P.length ≤ s.size + 1 by rw [← hP,List.length_map,← hL]; exact iP _ _)
 have HP:=hid hP;clear hP
 go_enter Tryz.func20,Tryz.ntmps20
 go_wp2_with fail
 go_loopw [3,4,5] (fun l f i wr => ∃ (xs : List ByteArray) (st : Option Nat) (k : Nat),i = .int .i64 k ∧ k ≤ s.size + 1 ∧ ((st = none ∧ f = .int .i64 (-1)) ∨ ∃ fr : Nat,st = some fr ∧ f = .int .i64 fr ∧ fr ≤ k ∧ k ≤ s.size) ∧ Hid (St8 wr w.heap.size l xs) ∧ Hid (Below w.heap.size w wr) ∧ Hid (P = xs ++ (gI s k st).map ba)) (fun _ _ i _ => s.size + 1 - (intOf i).toNat)
 case atStart => exact ⟨[],none,0,rfl,Nat.zero_le _,.inl ⟨rfl,rfl⟩,hid (Cj w _),hid (Below.refl _ _),hid (by rw [← HP.out]; rfl)⟩
 case round =>
  obtain ⟨xs,st,k,rfl,hk,hst,HS,HB,HQ⟩:=hrel
  have HXL:=hid (show xs.length ≤ s.size + 1 by have h1:=HPL.out; have h2:=congrArg List.length HQ.out; rw [List.length_append] at h2; omega)
  have hk0 : (0 : Int) ≤ (k : Int):=ae;have hwi : IntKind.i64.wrap ((k : Int) + 1) = k + 1:=IntWalk.i64_in _ ae
  by_cases hgo : k ≤ s.size
  ·have hgo' : (k : Int) ≤ (s.size : Int):=ae
   by_cases hend : k = s.size
   ·have hen : ((k : Int) == (s.size : Int)) = true:=by simp [hend]
    have hen2 : (k : Int) = (s.size : Int):=ae
    rcases hst with ⟨rfl,rfl⟩ | ⟨fr,rfl,rfl,hfk,hk2⟩
    ·as_aux_lemma =>
      go_wp2_with fail
      exact ⟨⟨xs,none,k + 1,bZ,ae,.inl ⟨rfl,rfl⟩,HS,HB,hid (by rw [kI ae]; have h1:=HQ.out; rw [kI ae] at h1; exact h1)⟩,b9⟩
    ·as_aux_lemma =>
      have hf0 : (0 : Int) ≤ (fr : Int):=ae;have hfk1 : (fr : Int) ≤ (k : Int):=ae
      go_wp2_with (at_builtin; (refine KH _ rfl (.tmp 40) (.tmp 45) rfl w.heap.size _ xs (s.extract fr k) wr.heap.size rfl (HS.out.alloc _) rfl (by simp [hend]) t6 jk ?_; intro v5 w5 hown5 hb5; have HS5:=hid hown5; have HB5:=hid ((HB.out.alloc HB.out.size _).trans hb5); clear hown5 hb5))
      exact ⟨⟨xs ++ [s.extract fr k],none,k + 1,bZ,ae,.inl ⟨rfl,rfl⟩,HS5,HB5,hid (by have h1:=HQ.out; rw [xO ae] at h1; rw [kI ae,sL,List.append_assoc]; exact h1)⟩,b9⟩
   ·have hlt : k < s.size:=ae;have hlt' : (k : Int) < (s.size : Int):=ae;have hen : ((k : Int) == (s.size : Int)) = false:=aL;have hen2 : ¬ (k : Int) = (s.size : Int):=ae;have hkL : k < s.data.toList.length:=ae
    have HAT:=hid (show s.data.toList[k]! = s[k] by rw [getElem!_pos s.data.toList k hkL]; rfl)
    by_cases h9 : s[k].toNat = 9
    ·have HE:=hid (show fI s.data.toList[k]!.toNat = true by rw [HAT.out,h9]; decide)
     exact yH
    ·skip
     by_cases h13 : s[k].toNat = 13
     ·have HE:=hid (show fI s.data.toList[k]!.toNat = true by rw [HAT.out,h13]; decide)
      exact yH
     ·skip
      by_cases h32 : s[k].toNat = 32
      ·have HE:=hid (show fI s.data.toList[k]!.toNat = true by rw [HAT.out,h32]; decide)
       exact yH
      ·skip
       have HE:=hid (show fI s.data.toList[k]!.toNat = false by rw [HAT.out]; unfold fI; simp [h9,h13,h32])
       have g9 : (((s[k].toNat : Nat) : Int) == 9) = false:=zl;have g13 : (((s[k].toNat : Nat) : Int) == 13) = false:=zl;have g32 : (((s[k].toNat : Nat) : Int) == 32) = false:=zl
       rcases hst with ⟨rfl,rfl⟩ | ⟨fr,rfl,rfl,hfk,hk2⟩
       ·skip
        go_wp2_with fail
        exact ⟨⟨xs,some k,k + 1,bZ,ae,.inr ⟨k,rfl,rfl,ae,ae⟩,HS,HB,hid (by rw [← GD hkL HE.out]; exact HQ.out)⟩,b9⟩
       ·as_aux_lemma =>
         have hf0 : (0 : Int) ≤ (fr : Int):=ae;have hfk1 : (fr : Int) ≤ (k : Int):=ae;have hfn : ¬ ((fr : Int) < 0):=ae;go_wp2_with fail
         exact ⟨⟨xs,some fr,k + 1,bZ,ae,.inr ⟨fr,rfl,bZ,ae,ae⟩,HS,HB,hid (by rw [← DN hfk hkL HE.out]; exact HQ.out)⟩,b9⟩
  ·have hgo' : ¬ (k : Int) ≤ (s.size : Int):=ae
   rcases hst with ⟨rfl,rfl⟩ | ⟨fr,rfl,rfl,hfk,hk2⟩
   ·go_wp2_with fail;go_ret;refine ⟨_,rfl,?_,HB.out⟩;have h1:=HQ.out;rw [kI ae,List.map_nil,List.append_nil] at h1;rw [h1];exact HS.out
   ·omega
theorem OS (x : Sg) (hp : bH x.1 8 = true) (hr : bH x.2 8 = true) : ∃ ws,LW (lnS [eJ,jF x.1 x.2]) ws:=by
 obtain ⟨a,b⟩:=x;dsimp only at *;have hs : uj a b = true:=yD;have hv : jF a b = gm a b:=xH
 have e : lnS [eJ,jF a b] = lnS [eJ,ct a,jW,ct b]:=by
  exact tT
 rw [e]
 refine ⟨_,dQ (bp aq) (fun y hy => ?_)⟩
 exact zm
theorem M4 (v : Int) : ∃ ws,LW (lnS [dI,aQ v]) ws:=⟨_,dQ (bp aq) (qC (eB v))⟩
theorem PN (x : Gl) (hc : x.1 = 119 ∨ x.1 = 108) : ∃ ws,LW (lnS [cX,⟨#[UInt8.ofNat x.1.toNat]⟩,ig x.2.1,aQ (gS x.1 x.2.2)]) ws:=by
 refine ⟨_,dQ (bp aq) (fun y hy => ?_)⟩
 exact Gt
theorem Od (a b : Int) : ∃ ws,LW (lnS [dz,aQ a,aQ b]) ws:=by
 refine ⟨_,dQ (bp aq) (fun y hy => ?_)⟩
 exact rZ
theorem N4 (t : Int) (lo : ByteArray) (hlo : bH lo 64 = true) : ∃ ws,LW (lnS [dO,aQ t,ia lo]) ws:=by
 refine ⟨_,dQ (bp aq) (fun y hy => ?_)⟩
 exact zR
theorem PO (a : Int) (l : List Int) (hl : l ≠ []) (hr : ∀ b ∈ l,0 ≤ b ∧ b ≤ 255) : ∃ ws,LW (lnS [gK,aQ a,⟨(eX l).toArray⟩]) ws:=by
 refine ⟨_,dQ (bp aq) (fun y hy => ?_)⟩
 exact sX
theorem Py (n : ByteArray) (f : Int) (hn : iW n = true) : ∃ ws,LW (lnS [dv,n,aQ f]) ws:=by
 refine ⟨_,dQ (bp aq) (fun y hy => ?_)⟩
 exact AJ
theorem OQ (m : MM) (h : MC8 m) : ∀ b ∈ gu m,∃ ws,LW b.data.toList ws:=by
 intro b hb;unfold gu at hb
 simp only [List.mem_append,List.mem_singleton,List.mem_map,List.mem_flatMap] at hb
 rcases hb with rfl | ⟨x,hx,rfl⟩ | ⟨x,hx,rfl⟩ | ⟨x,hx,rfl⟩ | rfl | ⟨x,hx,hb⟩ | ⟨x,hx,rfl⟩ | ⟨x,hx,rfl⟩
 ·exact ⟨_,dQ (bp aq) (fun y hy => by cases hy)⟩
 ·exact OS x (h.ty x hx).1 (h.ty x hx).2
 ·exact M4 x
 ·exact PN x (h.gl x hx).1
 ·exact Od _ _
 ·obtain ⟨q1,q2,q3⟩:=h.fn x hx;unfold nH at hb
  rcases List.mem_cons.1 hb with rfl | hb
  ·exact N4 _ _ q2
  ·obtain ⟨y,hy,rfl⟩:=List.mem_map.1 hb;obtain ⟨r1,r2,r3,-,-⟩:=q3 y hy;exact ⟨_,DZ y r1 r2 (kg r3).1⟩
 ·exact PO _ _ (h.da x hx).2.1 (h.da x hx).2.2
 ·exact Py _ _ (h.ex x hx).2
abbrev Pl8 (c : UInt8) : Prop:=c.toNat < 128 ∧ c ≠ 10
theorem kJ : ∀ (l : List UInt8) (st : Option (List UInt8)),(∀ c ∈ l,Pl8 c) → (∀ t,st = some t → Wrd t ∧ ∀ c ∈ t,Pl8 c) → ∀ w ∈ bR l st,Wrd w ∧ ∀ c ∈ w,Pl8 c
 | [],none,_,_,w,hw => by simp [bR] at hw
 | [],some t,_,ht,w,hw => by
  simp only [bR,List.mem_singleton] at hw
  subst hw;exact ht _ rfl
 | c :: l,none,h,ht,w,hw => by
  rw [bR] at hw
  split at hw
  ·exact Ad
  ·rename_i hb
   refine kJ l (some [c]) (fun x hx => h x cP) (fun t e => ?_) w hw
   obtain rfl:=Option.some.inj e
   refine ⟨⟨ar,fun x hx => ?_⟩,fun x hx => ?_⟩ <;> obtain rfl:=List.mem_singleton.1 hx
   ·simpa using hb
   ·exact h x ar
 | c :: l,some t,h,ht,w,hw => by
  rw [bR] at hw
  split at hw
  ·rcases List.mem_cons.1 hw with rfl | hw
   ·exact ht _ rfl
   ·exact Ad
  ·rename_i hb
   refine kJ l (some (t ++ [c])) (fun x hx => h x cP) (fun t' e => ?_) w hw
   obtain rfl:=Option.some.inj e;obtain ⟨⟨a1,a2⟩,a3⟩:=ht t rfl
   refine ⟨⟨ar,fun x hx => ?_⟩,fun x hx => ?_⟩ <;> rcases List.mem_append.1 hx with hx | hx
   ·exact a2 x hx
   ·obtain rfl:=List.mem_singleton.1 hx
    simpa using hb
   ·exact a3 x hx
   ·obtain rfl:=List.mem_singleton.1 hx;exact h x ar
abbrev Bl8 (b : List UInt8) : Prop:=∀ c ∈ b,fI c.toNat = true
theorem lX : ∀ (b r : List UInt8),Bl8 b → bR (b ++ r) none = bR r none
 | [],r,_ => rfl
 | c :: b,r,h => by
  rw [List.cons_append,bR,if_pos (h c ar)]
  exact lX b r (fun x hx => h x cP)
theorem D6 : ∀ (b w : List UInt8),Bl8 b → bR b (some w) = [w]
 | [],w,_ => rfl
 | c :: b,w,h => by
  rw [bR,if_pos (h c ar)]
  have:=lX b [] (fun x hx => h x cP)
  rw [List.append_nil] at this;rw [this];rfl
def fH (b : List UInt8) : List (List UInt8) → List UInt8
 | [] => []
 | w :: ws => 32 :: (b ++ (w ++ fH b ws))
def cA (b : List UInt8) : List (List UInt8) → List UInt8
 | [] => []
 | w :: ws => w ++ fH b ws
theorem AA (b e : List UInt8) (hb : Bl8 b) (he : Bl8 e) : ∀ (ws : List (List UInt8)) (w : List UInt8),Wrd w → (∀ x ∈ ws,Wrd x) → bR (w ++ (fH b ws ++ e)) none = w :: ws
 | [],w,hw,_ => by
  rw [mI hw];exact D6 e w he
 | x :: ws,w,hw,h => by
  rw [mI hw]
  show bR (32 :: ((b ++ (x ++ fH b ws)) ++ e)) (some w) = _
  rw [bR,if_pos aq,List.append_assoc,lX b _ hb,List.append_assoc,AA b e hb he ws x (h x ar) (fun y hy => h y jL)]
def mC (b0 b1 b2 : List UInt8) (ws : List (List UInt8)) : List UInt8:=b0 ++ (cA b1 ws ++ b2)
theorem DY (b0 b1 b2 : List UInt8) (h0 : Bl8 b0) (h1 : Bl8 b1) (h2 : Bl8 b2) (ws : List (List UInt8)) (h : ∀ x ∈ ws,Wrd x) : bR (mC b0 b1 b2 ws) none = ws:=by
 unfold mC;rw [lX _ _ h0]
 cases ws with
 | nil =>
  have:=lX b2 [] h2
  rw [List.append_nil] at this;exact this
 | cons w ws =>
  show bR ((w ++ fH b1 ws) ++ b2) none = _
  rw [List.append_assoc]
  exact AA b1 b2 h1 h2 ws w (h w ar) (fun x hx => h x cP)
theorem OC (b : List UInt8) (hb : ∀ c ∈ b,Pl8 c) : ∀ (ws : List (List UInt8)),(∀ x ∈ ws,∀ c ∈ x,Pl8 c) → ∀ c ∈ fH b ws,Pl8 c
 | [],_,c,hc => by cases hc
 | w :: ws,h,c,hc => by
  rcases List.mem_cons.1 hc with rfl | hc
  ·decide
  ·rcases List.mem_append.1 hc with hc | hc
   ·exact hb c hc
   ·exact Bn
theorem NZ (b : List UInt8) (hb : ∀ c ∈ b,Pl8 c) (ws : List (List UInt8)) (h : ∀ x ∈ ws,∀ c ∈ x,Pl8 c) : ∀ c ∈ cA b ws,Pl8 c:=by
 cases ws with
 | nil => intro c hc; cases hc
 | cons w ws =>
  intro c hc;exact Bn
theorem vJ {b0 b1 b2 : List UInt8} (h0 : ∀ c ∈ b0,Pl8 c) (h1 : ∀ c ∈ b1,Pl8 c) (h2 : ∀ c ∈ b2,Pl8 c) {ws : List (List UInt8)} (h : ∀ x ∈ ws,∀ c ∈ x,Pl8 c) : ∀ c ∈ mC b0 b1 b2 ws,Pl8 c:=by
 intro c hc;unfold mC at hc
 rcases List.mem_append.1 hc with hc | hc
 ·exact h0 c hc
 ·rcases List.mem_append.1 hc with hc | hc
  ·exact NZ b1 h1 ws h c hc
  ·exact h2 c hc
def bL (n : Nat) : List UInt8:=if n % 4 = 0 then [] else if n % 4 = 1 then [32] else if n % 4 = 2 then [9] else [13,32,9]
theorem uw (n : Nat) : Bl8 (bL n):=by
 exact IZ
theorem kq (n : Nat) : ∀ c ∈ bL n,Pl8 c:=by
 exact IZ
theorem ie (n : Nat) : (bL n).length ≤ 3:=by
 unfold bL
 split
 ·simp
 ·split
  ·simp
  ·split <;> simp
def JA : List UInt8:=[32,59,32,101,120,116,101,114,110,32,57,32,119]
def jM (t : Nat) (l : List UInt8) : List (List UInt8):=mC (bL t) (bL (t / 4)) (bL (t / 16)) (bR l none) :: (if 192 ≤ t then [JA,[]] else [])
def ma (t : Nat) (l : List UInt8) : List UInt8:=(jM t l).flatMap fun a => a ++ [10]
def mD (ts : List Int) (i : Nat) : Nat:=((ts[i]?).getD 0).toNat
def gz (ts : List Int) : Nat → List ByteArray → List UInt8
 | _,[] => []
 | i,b :: r => ma (mD ts i) b.data.toList ++ gz ts (i + 1) r
def ot (ts : List Int) : Nat → List ByteArray → List (List UInt8)
 | _,[] => []
 | i,b :: r => jM (mD ts i) b.data.toList ++ ot ts (i + 1) r
theorem tF (ts : List Int) : ∀ (a b : List ByteArray) (i : Nat),gz ts i (a ++ b) = gz ts i a ++ gz ts (i + a.length) b
 | [],b,i => rfl
 | x :: a,b,i => by
  rw [List.cons_append,gz,gz,tF ts a b (i + 1),List.append_assoc,List.length_cons,show i + (a.length + 1) = i + 1 + a.length by omega]
theorem vM (ts : List Int) (ls : List ByteArray) {k : Nat} {b : ByteArray} (h : ls[k]? = some b) : gz ts 0 (ls.take (k + 1)) = gz ts 0 (ls.take k) ++ ma (mD ts k) b.data.toList:=by
 have hk : k < ls.length:=by
  rcases Nat.lt_or_ge k ls.length with h1 | h1
  ·exact h1
  ·rw [List.getElem?_eq_none h1] at h; cases h
 rw [List.take_add_one,h,tF,List.length_take,Nat.min_eq_left ae,Nat.zero_add]
 show _ ++ (_ ++ []) = _
 rw [List.append_nil]
theorem ry (ts : List Int) : ∀ (ls : List ByteArray) (i : Nat),gz ts i ls = (ot ts i ls).flatMap fun a => a ++ [10]
 | [],i => rfl
 | b :: r,i => by rw [gz,ot,List.flatMap_append,ry ts r (i + 1)]; rfl
theorem Dx {p : Int} {M : PM} {a b : ByteArray} (h : aM a = aM b) : bO p M a = bO p M b:=by
 unfold bO;rw [h]
theorem C8 {l : List UInt8} (hl : ∀ c ∈ l,Pl8 c) (t : Nat) (p : Int) (M : PM) : bO p M (ba (mC (bL t) (bL (t / 4)) (bL (t / 16)) (bR l none))) = bO p M (ba l):=by
 have hp:=kJ l none hl (fun t e => cJ)
 refine Dx ?_
 rw [lf (ba l) (fun c hc => (hl c hc).1),lf _ (fun c hc => (vJ (kq _) (kq _) (kq _) (fun x hx => (hp x hx).2) c hc).1)]
 show (bR (mC _ _ _ _) none).map _ = (bR l none).map _
 rw [DY _ _ _ (uw _) (uw _) (uw _) _ (fun x hx => (hp x hx).1)]
theorem EU (p : Int) (M : PM) : bO p M (ba JA) = some (p,M):=by
 unfold bO;rw [if_pos (Or.inr ai)]
theorem xd (p : Int) (M : PM) : bO p M (ba []) = some (p,M):=by
 unfold bO;rw [if_pos (Or.inl (show aM ⟨#[]⟩ = [] from rfl))]
theorem zJ {l : List UInt8} (hl : ∀ c ∈ l,Pl8 c) (t : Nat) (ln p : Int) (M : PM) {p' : Int} {M' : PM} (h : bO p M (ba l) = some (p',M')) : ∃ ln',bh ln p M ((jM t l).map ba) = (ln',some (p',M')):=by
 unfold jM;rw [List.map_cons]
 simp only [bh,C8 hl,h]
 split
 ·exact ⟨ln + 1 + 1 + 1,by simp only [List.map_cons,List.map_nil,bh,EU,xd]⟩
 ·exact ⟨_,rfl⟩
theorem vr (ts : List Int) : ∀ (ls : List ByteArray) (i : Nat),(∀ b ∈ ls,∀ c ∈ b.data.toList,Pl8 c) → ∀ (ln l2 p : Int) (M : PM) (l' p' : Int) (M' : PM),bh ln p M ls = (l',some (p',M')) → ∃ ln',bh l2 p M ((ot ts i ls).map ba) = (ln',some (p',M'))
 | [],i,_,ln,l2,p,M,l',p',M',h => by
  simp only [bh] at h
  exact ⟨l2,by rw [← (Prod.mk.inj h).2]; rfl⟩
 | b :: r,i,hp,ln,l2,p,M,l',p',M',h => by
  simp only [bh] at h
  cases ht : bO p M b with
  | none => rw [ht] at h; cases h
  | some y =>
   obtain ⟨p1,M1⟩:=y;rw [ht] at h;obtain ⟨l3,e3⟩:=zJ (hp b ar) (mD ts i) l2 p M (show bO p M (ba b.data.toList) = some (p1,M1) from ht)
   obtain ⟨l4,e4⟩:=vr ts r (i + 1) (fun x hx => hp x cP) _ l3 p1 M1 _ _ _ h
   refine ⟨l4,?_⟩;rw [ot,List.map_append,cU _ _ _ _ _ _ _ _ e3,e4]
theorem Jb {l : List UInt8} (hl : ∀ c ∈ l,Pl8 c) (t : Nat) : ∀ a ∈ jM t l,∀ c ∈ a,c ≠ 10:=by
 intro a ha c hc
 have hp:=kJ l none hl (fun t e => cJ)
 unfold jM at ha
 rcases List.mem_cons.1 ha with rfl | ha
 ·exact (vJ (kq _) (kq _) (kq _) (fun x hx => (hp x hx).2) c hc).2
 ·split at ha
  ·simp only [List.mem_cons,List.not_mem_nil,or_false] at ha
   rcases ha with rfl | rfl
   ·intro e;subst e;exact absurd hc aq
   ·cases hc
  ·cases ha
theorem IX (ts : List Int) : ∀ (ls : List ByteArray) (i : Nat),(∀ b ∈ ls,∀ c ∈ b.data.toList,Pl8 c) → ∀ a ∈ ot ts i ls,∀ c ∈ a,c ≠ 10
 | [],i,_,a,ha => by cases ha
 | b :: r,i,hp,a,ha => by
  rw [ot] at ha
  rcases List.mem_append.1 ha with ha | ha
  ·exact Jb (hp b ar) _ a ha
  ·exact IX ts r (i + 1) (fun x hx => hp x cP) a ha
theorem qm (m : MM) (h : MC8 m) : aI ⟨(fe m).toArray⟩ = gu m ++ [⟨#[]⟩]:=by
 exact Fx
theorem Bg (m : MM) (h : MC8 m) : ∀ b ∈ aI ⟨(fe m).toArray⟩,∀ c ∈ b.data.toList,Pl8 c:=by
 rw [qm m h];intro b hb c hc
 rcases List.mem_append.1 hb with hb | hb
 ·obtain ⟨ws,hw⟩:=OQ m h b hb;exact hw.a c hc
 ·obtain rfl:=List.mem_singleton.1 hb
  cases hc
theorem Ii (m : MM) (h : MC8 m) (ts : List Int) : ∃ ln p,bh 0 0 pm0 (aI (ba (gz ts 0 (aI ⟨(fe m).toArray⟩)))) = (ln,some (p,pl m)) ∧ 5 ≤ p:=by
 obtain ⟨ln,p,e,hp⟩:=GN m h;have hpl:=Bg m h;generalize aI ⟨(fe m).toArray⟩ = ls at *;obtain ⟨l2,e2⟩:=vr ts ls 0 hpl _ 0 _ _ _ _ _ e;refine ⟨l2 + 1,p,?_,hp⟩
 have ep : aI (ba (gz ts 0 ls)) = (ot ts 0 ls).map ba ++ [ba []]:=by
  unfold aI
  show (aV (gz ts 0 ls)).map _ = _
  rw [ry,nD _ (IX ts ls 0 hpl),List.map_append];rfl
 rw [ep,cU _ _ _ _ _ _ _ _ e2]
 simp only [bh,xd]
theorem C9 : ((List.range 256).all fun c => decide ((ofV (c : Int)).1.2.1.size ≤ 13)) = true:=ai
theorem Kf (c : Int) (h0 : 0 ≤ c) (h1 : c ≤ 255) : (ofV c).1.2.1.size ≤ 13:=by
 obtain ⟨n,rfl⟩ : ∃ n : Nat,c = n:=⟨c.toNat,ae⟩;exact of_decide_eq_true (List.all_eq_true.1 C9 n (List.mem_range.2 ae))
end Go.Proofs.YtheefojaplnnoaaGreatDoor

/-
  Texts Pt Pu Pv Nc Nd.
-/
import Derived.Lib.FieldsP
import Derived.Test.YtheefojaplnnoaaGreatDoorC00
import Derived.Test.YtheefojaplnnoaaGreatDoorC18
import Derived.Test.YtheefojaplnnoaaGreatDoorC27
import Derived.Test.YtheefojaplnnoaaGreatDoorC28
set_option linter.unusedVariables false
set_option maxRecDepth 100000
set_option maxHeartbeats 16000000
namespace Go.Proofs.YtheefojaplnnoaaGreatDoor
open Go.RowKit
theorem xG (s : ByteArray) (i : Nat) : 1 ≤ (Utf8.decode s i).2:=by
 unfold Utf8.decode;dsimp only
 repeat' split
 all_goals simp
def OO (s : ByteArray) (b : Nat) (acc : List (Nat × Nat)) : Prop:=(∀ x ∈ acc,x.1 < x.2 ∧ x.2 ≤ s.size) ∧ (acc.map fun x => x.2 - x.1).sum ≤ b
theorem jS (p : Nat → Bool) (s : ByteArray) : ∀ (f pos : Nat) (st : Option Nat) (acc : List (Nat × Nat)),OO s (min (st.getD pos) s.size) acc → (∀ a,st = some a → a < pos ∧ a < s.size) →
  OO s s.size (Lib.closeSpans s (Lib.spansFromP p s f pos st acc))
 | 0,pos,st,acc,h,hs => by
  unfold Lib.spansFromP;exact GZ
 | f + 1,pos,st,acc,h,hs => by
  unfold Lib.spansFromP;have hd:=xG s pos
  by_cases hp : pos < s.size
  ·rw [if_pos hp]
   by_cases hb : p (Utf8.decode s pos).1 = true
   ·rw [if_pos hb]
    cases st with
    | none =>
     refine jS p s f _ none acc ⟨h.1,?_⟩ (fun a e => cJ)
     have:=h.2
     simp only [Option.getD_none] at this ⊢
     omega
    | some a =>
     have ha:=hs a rfl
     refine jS p s f _ none _ ⟨fun x hx => ?_,?_⟩ (fun a e => cJ)
     ·rcases List.mem_append.1 hx with hx | hx
      ·exact h.1 x hx
      ·rw [List.mem_singleton] at hx;subst hx;exact ⟨ha.1,Nat.le_of_lt hp⟩
     ·have:=h.2
      simp only [List.map_append,List.sum_append,List.map_cons,List.map_nil,List.sum_cons,List.sum_nil,Option.getD_none,Option.getD_some] at this ⊢
      omega
   ·rw [if_neg hb]
    cases st with
    | none =>
     refine jS p s f _ (some pos) acc ⟨h.1,?_⟩ (fun a e => ug)
     have:=h.2
     simp only [Option.getD_none,Option.getD_some] at this ⊢
     omega
    | some a =>
     have ha:=hs a rfl
     exact jS p s f _ (some a) acc h (fun b e => ug)
  ·rw [if_neg hp];exact GZ
theorem EF (s : ByteArray) (a b : Nat) (h : b ≤ s.size) : (s.extract a b).size = b - a:=by
 simp
 omega
theorem Fu : ∀ (l : List Nat),(∀ x ∈ l,1 ≤ x) → l.length ≤ l.sum
 | [],_ => by simp
 | x :: l,h => by
  have h1:=h x ar
  have h2:=Fu l (fun y hy => h y jL)
  simp only [List.length_cons,List.sum_cons]
  omega
theorem pI : ∀ (l : List Nat) (x : Nat),x ∈ l → x ≤ l.sum
 | [],x,h => by cases h
 | y :: l,x,h => by
  rcases List.mem_cons.1 h with rfl | h
  ·simp
  ·have:=pI l x h
   simp only [List.sum_cons]
   omega
def aM (s : ByteArray) : List ByteArray:=Lib.goFieldsP fI s
theorem iC (s : ByteArray) : (∀ x ∈ aM s,1 ≤ x.size) ∧ ((aM s).map (·.size)).sum ≤ s.size:=by
 have h:=jS fI s s.size 0 none [] ⟨(fun x hx => ju),ar⟩ (fun a e => cJ)
 have hsz : ∀ x ∈ Lib.spansOfP fI s,(s.extract x.1 x.2).size = x.2 - x.1:=fun x hx => EF s x.1 x.2 (h.1 x hx).2
 refine ⟨fun x hx => ?_,?_⟩
 ·obtain ⟨q,hq,rfl⟩:=List.mem_map.1 hx;have h1:=(h.1 q hq).1;have h2:=hsz q hq;omega
 ·have e : (aM s).map (·.size) = (Lib.spansOfP fI s).map fun x => x.2 - x.1:=by
   unfold aM Lib.goFieldsP;rw [List.map_map]
   exact List.map_congr_left (fun x hx => hsz x hx)
  rw [e];exact h.2
theorem pR (s : ByteArray) : (aM s).length ≤ s.size ∧ ∀ x ∈ aM s,x.size ≤ s.size:=by
 obtain ⟨h1,h2⟩:=iC s
 have h3:=Fu ((aM s).map (·.size)) (fun x hx => by obtain ⟨q,hq,rfl⟩:=List.mem_map.1 hx; exact h1 q hq)
 rw [List.length_map] at h3
 refine ⟨ae,fun x hx => ?_⟩
 have:=pI ((aM s).map (·.size)) x.size (List.mem_map.2 ⟨x,hx,rfl⟩)
 omega
theorem Ej : ∀ (l : List ByteArray),(Lib.join (l.map (·.data.toList)) [32]).length ≤ (l.map (·.size)).sum + l.length
 | [] => by simp [Lib.join]
 | x :: r => by
  have hj : ∀ (r : List ByteArray),(Lib.joinTail [32] (r.map (·.data.toList))).length = (r.map (·.size)).sum + r.length:=by
   intro r;exact Em
  rw [List.map_cons,Lib.join_cons,List.length_append,hj];have e : x.data.toList.length = x.size:=Array.length_toList;rw [e]
  simp only [List.map_cons,List.sum_cons,List.length_cons]
  omega
theorem Gm (s : ByteArray) : (dh (aM s).tail).size ≤ 2 * s.size:=by
 have h1:=Ej (aM s).tail;have h2:=iC s;have h3:=pR s
 have h4 : ((aM s).tail.map (·.size)).sum ≤ ((aM s).map (·.size)).sum:=by
  cases aM s with
  | nil => simp
  | cons x r => simp
 have h5 : (aM s).tail.length ≤ (aM s).length:=by rw [List.length_tail]; omega
 have e : (dh (aM s).tail).size = (Lib.join ((aM s).tail.map (·.data.toList)) [32]).length:=by simp [dh,ByteArray.size]
 omega
def bJ (p : Int) (M : PM) (ws : List ByteArray) : Option (Int × PM) :=
 if wdx ws 0 = ⟨#[102,108,97,103,111,110]⟩ then iX p M ws else
 if wdx ws 0 = ⟨#[116,121,112,101]⟩ then fM p M ws else
 if wdx ws 0 = ⟨#[101,120,116,101,114,110]⟩ then fL p M ws else
 if wdx ws 0 = ⟨#[103,108,111,98,97,108]⟩ then bF p M ws else
 if wdx ws 0 = ⟨#[109,101,109,111,114,121]⟩ then iL p M ws else
 if wdx ws 0 = ⟨#[102,117,110,99]⟩ then iq p M ws else
 if wdx ws 0 = ⟨#[100,97,116,97]⟩ then iF p M ws else
 if wdx ws 0 = ⟨#[101,120,112,111,114,116]⟩ then jH p M ws else
 cj p M ws
def fb (x : ByteArray) : Int:=((x.data.toList.headD 0).toNat : Int)
def bO (p : Int) (M : PM) (s : ByteArray) : Option (Int × PM):=if aM s = [] ∨ fb (wdx (aM s) 0) = 59 then some (p,M) else bJ p M (aM s)
theorem OJ : ∀ args w,(callFunc 108 args).run Tryz.prog w = .ok (.enter 108 args) w:=fun args w => iG
theorem Oe : ∀ args w,(callFunc 109 args).run Tryz.prog w = .ok (.enter 109 args) w:=fun args w => iG
theorem N3 : ∀ args w,(callFunc 110 args).run Tryz.prog w = .ok (.enter 110 args) w:=fun args w => iG
theorem Oy : ∀ args w,(callFunc 111 args).run Tryz.prog w = .ok (.enter 111 args) w:=fun args w => iG
theorem NT : ∀ args w,(callFunc 112 args).run Tryz.prog w = .ok (.enter 112 args) w:=fun args w => iG
theorem NU : ∀ args w,(callFunc 113 args).run Tryz.prog w = .ok (.enter 113 args) w:=fun args w => iG
theorem OB : ∀ args w,(callFunc 114 args).run Tryz.prog w = .ok (.enter 114 args) w:=fun args w => iG
theorem NS : ∀ args w,(callFunc 115 args).run Tryz.prog w = .ok (.enter 115 args) w:=fun args w => iG
theorem Gz {B base R A n c : Nat} {mp : Value} {m : MM} {ln pt : Int} {w : World} {ws : List ByteArray} (h : RQ base R mp m ln pt w) (hw : Wds w A n c ws) (hA : base ≤ A) (hE : bY B w) (hBR : B ≤ R) (hps : psz (pl m) ≤ 2097152) (hc : c = n) (hn0 : 1 ≤ n) (hj : (dh ws.tail).size ≤ 8388608) (hne : pt = 6 → m.fns ≠ []) :
  (∃ i f,Instr.findNow .string (.string (wdx ws 0)) kdE.toList 0 = some (some (i,.func (.func f) #[] #[])) ∧ (∀ args w,(callFunc f args).run Tryz.prog w = .ok (.enter f args) w) ∧ Calls Tryz.prog f #[.pointer (some ⟨R,0,none⟩),.slice (some ⟨A,0,none⟩) n c] w (LnP base R mp ln w (bJ pt (pl m) ws)))
  ∨ (Instr.findNow .string (.string (wdx ws 0)) kdE.toList 0 = some none ∧ Calls Tryz.prog 119 #[.pointer (some ⟨R,0,none⟩),.slice (some ⟨A,0,none⟩) n c] w (LnP base R mp ln w (bJ pt (pl m) ws))):=by
 by_cases h0 : wdx ws 0 = ⟨#[102,108,97,103,111,110]⟩
 ·refine .inl ⟨_,_,(by rw [h0]; exact xK),OJ,?_⟩
  have e : bJ pt (pl m) ws = iX pt (pl m) ws:=by
   unfold bJ;rw [if_pos h0]
  rw [e];exact KL h hw
 by_cases h1 : wdx ws 0 = ⟨#[116,121,112,101]⟩
 ·refine .inl ⟨_,_,(by rw [h1]; exact IB),Oe,?_⟩
  have e : bJ pt (pl m) ws = fM pt (pl m) ws:=by
   unfold bJ;rw [if_neg h0,if_pos h1]
  rw [e];exact NB h hw hA hE hBR hps hc hn0 hj
 by_cases h2 : wdx ws 0 = ⟨#[101,120,116,101,114,110]⟩
 ·refine .inl ⟨_,_,(by rw [h2]; exact zi),N3,?_⟩
  have e : bJ pt (pl m) ws = fL pt (pl m) ws:=by
   unfold bJ;rw [if_neg h0,if_neg h1,if_pos h2]
  rw [e];exact KQ h hw hA hE hBR hps
 by_cases h3 : wdx ws 0 = ⟨#[103,108,111,98,97,108]⟩
 ·refine .inl ⟨_,_,(by rw [h3]; exact zN),Oy,?_⟩
  have e : bJ pt (pl m) ws = bF pt (pl m) ws:=by
   unfold bJ;rw [if_neg h0,if_neg h1,if_neg h2,if_pos h3]
  rw [e];exact Ks h hw hA hE hBR hps
 by_cases h4 : wdx ws 0 = ⟨#[109,101,109,111,114,121]⟩
 ·refine .inl ⟨_,_,(by rw [h4]; exact yQ),NT,?_⟩
  have e : bJ pt (pl m) ws = iL pt (pl m) ws:=by
   unfold bJ;rw [if_neg h0,if_neg h1,if_neg h2,if_neg h3,if_pos h4]
  rw [e];exact MC h hw hA hE hBR hps
 by_cases h5 : wdx ws 0 = ⟨#[102,117,110,99]⟩
 ·refine .inl ⟨_,_,(by rw [h5]; exact I7),NU,?_⟩
  have e : bJ pt (pl m) ws = iq pt (pl m) ws:=by
   unfold bJ;rw [if_neg h0,if_neg h1,if_neg h2,if_neg h3,if_neg h4,if_pos h5]
  rw [e];exact NM h hw hA hE hBR hps
 by_cases h6 : wdx ws 0 = ⟨#[100,97,116,97]⟩
 ·refine .inl ⟨_,_,(by rw [h6]; exact Iz),OB,?_⟩
  have e : bJ pt (pl m) ws = iF pt (pl m) ws:=by
   unfold bJ;rw [if_neg h0,if_neg h1,if_neg h2,if_neg h3,if_neg h4,if_neg h5,if_pos h6]
  rw [e];exact M9 h hw hA hE hBR hps
 by_cases h7 : wdx ws 0 = ⟨#[101,120,112,111,114,116]⟩
 ·refine .inl ⟨_,_,(by rw [h7]; exact xJ),NS,?_⟩
  have e : bJ pt (pl m) ws = jH pt (pl m) ws:=by
   unfold bJ;rw [if_neg h0,if_neg h1,if_neg h2,if_neg h3,if_neg h4,if_neg h5,if_neg h6,if_pos h7]
  rw [e];exact Ny h hw hA hE hBR hps
 refine .inr ⟨ED _ h0 h1 h2 h3 h4 h5 h6 h7,?_⟩
 have e : bJ pt (pl m) ws = cj pt (pl m) ws:=by
  unfold bJ;rw [if_neg h0,if_neg h1,if_neg h2,if_neg h3,if_neg h4,if_neg h5,if_neg h6,if_neg h7]
 rw [e];exact Jw h hw hA hE hBR hps hc hn0 hne
theorem K0 (w : World) : PredAtRunes Tryz.prog 118 #[] fI w:=fun W x _ _ => (Eu x W).mono fun e w' ⟨he,hw⟩ => ⟨he,0,by rw [hw]; rfl⟩
theorem Oi : ∀ args w,(callFunc 118 args).run Tryz.prog w = .ok (.enter 118 args) w:=fun args w => iG
theorem nK (s : ByteArray) (w : World) (hs : s.size ≤ 2097152) : Calls Tryz.prog 117 #[.string s,.func (.func 118) #[] #[]] w fun e w' => ∃ A,e = .returned (.slice (some ⟨A,0,none⟩) (aM s).length (aM s).length) ∧ w.heap.size ≤ A ∧ Wds w' A (aM s).length (aM s).length (aM s) ∧ Below w.heap.size w w':=by
 refine (Tryz.strings_FieldsFunc_runes 118 #[] Oi fI s w ae (K0 w)).mono ?_;rintro e w' ⟨A,rfl,hA,ho,hb⟩
 refine ⟨A,rfl,hA,⟨rfl,?_,Nat.le_refl _,fun j x hx => ?_,fun x hx => ?_,?_⟩,hb⟩
 ·obtain ⟨_,cur,hc⟩:=gD ho (b:=A) rfl;exact aS hc
 ·have hj : j < (aM s).length:=(List.getElem?_eq_some_iff.1 hx).1
  have:=ho.cellAt j (by have : (Lib.goFieldsP fI s).length = (aM s).length:=rfl; omega)
  rw [Nat.zero_add,this,List.getElem?_map];have hx' : (Lib.goFieldsP fI s)[j]? = some x:=hx;rw [hx'];rfl
 ·have:=(pR s).2 x hx
  omega
 ·have:=(pR s).1
  omega
theorem L8 (x : ByteArray) (h : 1 ≤ x.size) : fb x = ((x[0].toNat : Nat) : Int):=by
 cases x with | mk a =>
 cases a with | mk l =>
 cases l with
 | nil => simp [ByteArray.size] at h
 | cons b l => rfl
theorem Kg {B base R KB : Nat} {m : MM} {ln pt : Int} {w : World} (s : ByteArray) (h : RQ base R (.map (some KB)) m ln pt w) (hs : s.size ≤ 2097152) (hl : 0 ≤ ln ∧ ln ≤ 2097152) (h0 : aM s = []) :
  Calls Tryz.prog 56 #[.pointer (some ⟨R,0,none⟩),.string s] w (LnP base R (.map (some KB)) (ln + 1) w (bO pt (pl m) s)):=by
 have e : bO pt (pl m) s = some (pt,pl m):=by unfold bO; rw [if_pos (.inl h0)]
 rw [e];obtain ⟨hl0,hl1⟩:=hl;have hi : IntKind.i64.wrap (ln + 1) = ln + 1:=IntWalk.i64_in _ ae;have q1:=hid (h.line (ln + 1));have k1:=hid (KR.set base R 9 w (.int .i64 (ln + 1)));have c9:=h.cells 9;have f9:=h.free 9
 simp [iZ] at c9
 have HF:=hid (nK s (w.setCell ⟨R,9,none⟩ (.int .i64 (ln + 1))) hs);rw [h0] at HF
 simp only [List.length_nil] at HF
 clear h e h0
 go_enter Tryz.func56,Tryz.ntmps56
 go_wp2_with fail;refine HF.out.mono ?_;clear HF;generalize w.setCell ⟨R,9,none⟩ (.int .i64 (ln + 1)) = w1 at *;rintro e w2 ⟨A,rfl,hA,hd,hb⟩;have HD:=hid hd;have HB:=hid hb;clear hd hb;exact AL
theorem Gj {B base R KB : Nat} {m : MM} {ln pt : Int} {w : World} (s : ByteArray) (h : RQ base R (.map (some KB)) m ln pt w) (hs : s.size ≤ 2097152) (hl : 0 ≤ ln ∧ ln ≤ 2097152) (h0 : aM s ≠ []) (h1 : fb (wdx (aM s) 0) = 59) :
  Calls Tryz.prog 56 #[.pointer (some ⟨R,0,none⟩),.string s] w (LnP base R (.map (some KB)) (ln + 1) w (bO pt (pl m) s)):=by
 have e : bO pt (pl m) s = some (pt,pl m):=by unfold bO; rw [if_pos (.inr h1)]
 rw [e];obtain ⟨hl0,hl1⟩:=hl;have hi : IntKind.i64.wrap (ln + 1) = ln + 1:=IntWalk.i64_in _ ae
 obtain ⟨x,r,hx⟩ : ∃ x r,aM s = x :: r:=by cases hw : aM s with | nil => exact absurd hw h0 | cons x r => exact ⟨x,r,rfl⟩
 have hx1 : 1 ≤ x.size:=(iC s).1 x (by rw [hx]; simp)
 have ex : wdx (aM s) 0 = x:=kZ;have hr : (((r.length : Int) + 1) == 0) = false:=aL;rw [ex,L8 x hx1] at h1
 have h2 : (((x[0].toNat : Nat) : Int) == 59) = true:=by rw [h1]; rfl
 have q1:=hid (h.line (ln + 1));have k1:=hid (KR.set base R 9 w (.int .i64 (ln + 1)));have c9:=h.cells 9;have f9:=h.free 9
 simp [iZ] at c9
 have HF:=hid (nK s (w.setCell ⟨R,9,none⟩ (.int .i64 (ln + 1))) hs);clear h e h0
 go_enter Tryz.func56,Tryz.ntmps56
 go_wp2_with fail;refine HF.out.mono ?_;clear HF;generalize w.setCell ⟨R,9,none⟩ (.int .i64 (ln + 1)) = w1 at *;rintro e w2 ⟨A,rfl,hA,hd,hb⟩;have HD:=hid hd;have HB:=hid hb;have c0 : w2.cell? ⟨A,0,none⟩ = some (.string x):=hd.at_ 0 x kZ;have hn : (aM s).length = r.length + 1:=kZ;rw [hn];clear hd hb hx hn;exact AL
theorem JB {B base R KB : Nat} {m : MM} {ln pt : Int} {w : World} (s : ByteArray) (h : RQ base R (.map (some KB)) m ln pt w) (hs : s.size ≤ 2097152) (hl : 0 ≤ ln ∧ ln ≤ 2097152) (h0 : aM s ≠ []) (h1 : fb (wdx (aM s) 0) ≠ 59) (hE : bY B w) (hBR : B ≤ R) (hps : psz (pl m) ≤ 2097152) (hne : pt = 6 → m.fns ≠ []) (hKB : w.heap[KB]? = some (.map kdE 8)) (hKR : KB ≠ R) (hKb : KB < base) :
  Calls Tryz.prog 56 #[.pointer (some ⟨R,0,none⟩),.string s] w (LnP base R (.map (some KB)) (ln + 1) w (bO pt (pl m) s)):=by
 have e : bO pt (pl m) s = bJ pt (pl m) (aM s):=by unfold bO; rw [if_neg (fun x => x.elim h0 h1)]
 rw [e];obtain ⟨hl0,hl1⟩:=hl;have hi : IntKind.i64.wrap (ln + 1) = ln + 1:=IntWalk.i64_in _ ae
 obtain ⟨x,r,hx⟩ : ∃ x r,aM s = x :: r:=by cases hw : aM s with | nil => exact absurd hw h0 | cons x r => exact ⟨x,r,rfl⟩
 have hx1 : 1 ≤ x.size:=(iC s).1 x (by rw [hx]; simp)
 have ex : wdx (aM s) 0 = x:=kZ;have hr : (((r.length : Int) + 1) == 0) = false:=aL;rw [ex,L8 x hx1] at h1;have h2 : (((x[0].toNat : Nat) : Int) == 59) = false:=tI;have hn : (aM s).length = r.length + 1:=kZ
 have hfew : r.length ≤ 2097152:=by have:=(pR s).1; omega
 have hj:=Gm s;have hE1:=hid (hE.later ((KR.set base R 9 w (.int .i64 (ln + 1))).below hBR bu hE.bw))
 have hM1:=hid (((KR.set base R 9 w (.int .i64 (ln + 1))).block KB (aS hKB) (fun e => by rcases e with e | e; exact hKR e; omega)).trans hKB)
 have q1:=hid (h.line (ln + 1));have k1:=hid (KR.set base R 9 w (.int .i64 (ln + 1)));have c9:=h.cells 9;have f9:=h.free 9
 simp [iZ] at c9
 have HF:=hid (nK s (w.setCell ⟨R,9,none⟩ (.int .i64 (ln + 1))) hs);clear h e h0 hE hKB
 go_enter Tryz.func56,Tryz.ntmps56
 go_wp2_with fail;refine HF.out.mono ?_;clear HF;generalize w.setCell ⟨R,9,none⟩ (.int .i64 (ln + 1)) = w1 at *;rintro e w2 ⟨A,rfl,hA,hd,hb⟩;have HD:=hid hd;have HB:=hid hb;have c0 : w2.cell? ⟨A,0,none⟩ = some (.string x):=hd.at_ 0 x kZ;have hq2:=q1.out.later hb;have hE2:=hE1.out.later (hb.mono hE1.out.bw);have hM2:=ak hb hM1.out;have hk2:=k1.out.trans (KR.later hb);have hA2 : base ≤ A:=Nat.le_trans q1.out.bw hA;rw [hn] at hd;rw [hn];clear hb HD HB q1 k1 hE1 hM1 c9 f9;have b3 : Below w2.heap.size w2 w2.drew:=(Below.refl _ _).drew;have d3:=hd.later b3;have q3:=hq2.later b3;have e3:=hE2.later (b3.mono hE2.bw);have m3:=ak b3 hM2;have k3:=hk2.trans (KR.later b3)
 have c3 : w2.drew.cell? ⟨A,0,none⟩ = some (.string x):=by rw [← c0]; rfl
 have g3 : w2.drew.cell? ⟨R,0,none⟩ = some (.map (some KB)):=(q3.cells 0).trans rfl;have ew:=ex;have way:=hid (Gz q3 d3 hA2 e3 hBR hps rfl ae ae hne);rw [ex] at way;have HK:=hid k3;have M3:=hid m3;clear hd hq2 hE2 hM2 hk2 b3 d3 q3 e3 m3 k3;generalize hwd : w2.drew = wd at *;have HW:=hid hwd;clear hwd;clear ex hx
 rcases way.out with ⟨i,f,hf,eg,hc⟩ | ⟨hf,hc⟩
 ·have hlk:=Hr wd KB i f x M3.out hf;exact FI
 ·have hlk:=CE wd KB x M3.out hf;exact FI
theorem MN {B base R KB : Nat} {m : MM} {ln pt : Int} {w : World} (s : ByteArray) (h : RQ base R (.map (some KB)) m ln pt w) (hs : s.size ≤ 2097152) (hl : 0 ≤ ln ∧ ln ≤ 2097152) (hE : bY B w) (hBR : B ≤ R) (hps : psz (pl m) ≤ 2097152) (hne : pt = 6 → m.fns ≠ []) (hKB : w.heap[KB]? = some (.map kdE 8)) (hKR : KB ≠ R) (hKb : KB < base) :
  Calls Tryz.prog 56 #[.pointer (some ⟨R,0,none⟩),.string s] w (LnP base R (.map (some KB)) (ln + 1) w (bO pt (pl m) s)):=by
 by_cases h0 : aM s = []
 ·exact Kg (B:=B) s h hs hl h0
 ·by_cases h1 : fb (wdx (aM s) 0) = 59
  ·exact Gj (B:=B) s h hs hl h0 h1
  ·exact JB s h hs hl h0 h1 hE hBR hps hne hKB hKR hKb
def I64 (x : Int) : Prop:=-9223372036854775808 ≤ x ∧ x ≤ 9223372036854775807
structure PR (M : PM) : Prop where
 hr : ∀ x ∈ M.hosts,I64 x
 gr : ∀ x ∈ M.globals,0 ≤ x.1 ∧ x.1 ≤ 255 ∧ 0 ≤ x.2.2 ∧ x.2.2 < 18446744073709551616
 i : I64 M.fi
 o : I64 M.mo
 fr : ∀ x ∈ M.fns,I64 x.1 ∧ ∀ y ∈ x.2.2,0 ≤ y.1 ∧ y.1 ≤ 255 ∧ I64 y.2.1 ∧ y.2.2.length ≤ 2097152 ∧ ∀ z ∈ y.2.2,I64 z
 dr : ∀ x ∈ M.data,I64 x.1 ∧ x.2.length ≤ 2097152 ∧ ∀ b ∈ x.2,0 ≤ b ∧ b ≤ 255
 er : ∀ x ∈ M.exps,I64 x.2
theorem jP {x : ByteArray} {v : Int} (h : nmV x = some v) : I64 v:=iB (qy h).1
theorem gX {α : Type} {l : List α} {y : α} {Q : α → Prop} (h : ∀ x ∈ l,Q x) (hy : Q y) : ∀ x ∈ l ++ [y],Q x:=by
 intro x hx
 rcases List.mem_append.1 hx with hx | hx
 ·exact h x hx
 ·rw [List.mem_singleton] at hx; subst hx; exact hy
structure StO (M : PM) (p' : Int) (M' : PM) : Prop where
 sz : psz M' ≤ psz M + 1
 pr : PR M'
 ne : p' = 6 → M'.fns ≠ []
theorem JU {p p' : Int} {M M' : PM} {ws : List ByteArray} (h : iX p M ws = some (p',M')) (hR : PR M) : StO M p' M':=by
 unfold iX at h
 split at h
 ·cases h; exact ⟨ae,hR,fun e => cJ⟩
 ·cases h
theorem Mh {p p' : Int} {M M' : PM} {ws : List ByteArray} (h : fM p M ws = some (p',M')) (hR : PR M) : StO M p' M':=by
 unfold fM at h
 split at h
 ·cases h; exact ⟨nW,⟨hR.hr,hR.gr,hR.i,hR.o,hR.fr,hR.dr,hR.er⟩,fun e => cJ⟩
 ·cases h
theorem JW {p p' : Int} {M M' : PM} {ws : List ByteArray} (h : fL p M ws = some (p',M')) (hR : PR M) : StO M p' M':=by
 unfold fL at h
 split at h
 ·rcases h3 : nmV (wdx ws 1) with _ | v
  ·exact iy
  ·rw [h3] at h; cases h
   exact ⟨nW,⟨gX hR.hr (jP h3),hR.gr,hR.i,hR.o,hR.fr,hR.dr,hR.er⟩,fun e => cJ⟩
 ·cases h
theorem NW {l : ByteArray} {v : Int} {x : Int × Int} (h : gvV l v = some x) : 0 ≤ x.1 ∧ x.1 ≤ 255 ∧ 0 ≤ x.2 ∧ x.2 < 18446744073709551616:=by
 unfold gvV at h
 split at h
 ·split at h
  ·cases h; dsimp only; omega
  ·cases h
 ·split at h
  ·cases h; dsimp only; omega
  ·cases h
theorem Jf {p p' : Int} {M M' : PM} {ws : List ByteArray} (h : bF p M ws = some (p',M')) (hR : PR M) : StO M p' M':=by
 unfold bF at h
 split at h
 ·rcases h3 : nmV (wdx ws 3) with _ | v
  ·exact iy
  ·rw [h3] at h
   simp only [Option.bind_some] at h
   rcases h4 : gvV (wdx ws 1) v with _ | x
   ·rw [h4] at h; cases h
   ·rw [h4] at h; cases h
    exact ⟨nW,⟨hR.hr,gX hR.gr (NW h4),hR.i,hR.o,hR.fr,hR.dr,hR.er⟩,fun e => cJ⟩
 ·cases h
theorem NF {p p' : Int} {M M' : PM} {ws : List ByteArray} (h : iL p M ws = some (p',M')) (hR : PR M) : StO M p' M':=by
 unfold iL at h
 split at h
 ·rcases h3 : nmV (wdx ws 1) with _ | v
  ·exact iy
  ·rw [h3] at h
   simp only [Option.bind_some] at h
   rcases h4 : nmV (wdx ws 2) with _ | x
   ·rw [h4] at h; cases h
   ·rw [h4] at h; cases h
    exact ⟨by unfold psz; simp,⟨hR.hr,hR.gr,jP h3,jP h4,hR.fr,hR.dr,hR.er⟩,fun e => cJ⟩
 ·cases h
theorem M7 {p p' : Int} {M M' : PM} {ws : List ByteArray} (h : iq p M ws = some (p',M')) (hR : PR M) : StO M p' M':=by
 unfold iq at h
 split at h
 ·rcases h3 : nmV (wdx ws 1) with _ | v
  ·exact iy
  ·rw [h3] at h; cases h
   exact ⟨nW,⟨hR.hr,hR.gr,hR.i,hR.o,gX hR.fr ⟨jP h3,fun y hy => by cases hy⟩,hR.dr,hR.er⟩,fun _ => ar⟩
 ·cases h
theorem BK : ∀ (l : List UInt8) (r : List Int),eD l = some r → r.length ≤ l.length ∧ ∀ b ∈ r,0 ≤ b ∧ b ≤ 255
 | [],r,h => by simp [eD] at h; subst h; simp
 | [_],r,h => by simp [eD] at h
 | a :: b :: l,r,h => by
  simp only [eD] at h
  split at h
  ·rename_i hd
   rcases hl : eD l with _ | t
   ·rw [hl] at h; cases h
   ·rw [hl] at h; cases h
    have ih:=BK l t hl;have h1:=mR a.toNat;have h2:=mR b.toNat
    refine ⟨aL,fun x hx => ?_⟩
    rcases List.mem_cons.1 hx with rfl | hx
    ·omega
    ·exact ih.2 x hx
  ·cases h
theorem Nq {ws : List ByteArray} (hz : ∀ x ∈ ws,x.size ≤ 2097152) (i : Nat) : (wdx ws i).size ≤ 2097152:=by
 unfold wdx
 rcases hx : ws[i]? with _ | x
 ·simp only [List.getD,hx,Option.getD_none]; decide
 ·simp only [List.getD,hx,Option.getD_some]; exact hz x (List.mem_of_getElem? hx)
theorem Mu {p p' : Int} {M M' : PM} {ws : List ByteArray} (h : iF p M ws = some (p',M')) (hR : PR M) (hz : ∀ x ∈ ws,x.size ≤ 2097152) : StO M p' M':=by
 unfold iF at h
 split at h
 ·rcases h3 : nmV (wdx ws 1) with _ | v
  ·exact iy
  ·rw [h3] at h
   simp only [Option.bind_some] at h
   rcases h4 : mO (wdx ws 2) with _ | x
   ·rw [h4] at h; cases h
   ·rw [h4] at h; cases h
    have h5:=BK _ _ h4;have h6:=Nq hz 2;have h7 : (wdx ws 2).data.toList.length = (wdx ws 2).size:=Array.length_toList
    exact ⟨nW,⟨hR.hr,hR.gr,hR.i,hR.o,hR.fr,gX hR.dr ⟨jP h3,by dsimp only; omega,h5.2⟩,hR.er⟩,fun e => cJ⟩
 ·cases h
theorem MZ {p p' : Int} {M M' : PM} {ws : List ByteArray} (h : jH p M ws = some (p',M')) (hR : PR M) : StO M p' M':=by
 unfold jH at h
 split at h
 ·rcases h3 : nmV (wdx ws 2) with _ | v
  ·exact iy
  ·rw [h3] at h; cases h
   exact ⟨nW,⟨hR.hr,hR.gr,hR.i,hR.o,hR.fr,hR.dr,gX hR.er (jP h3)⟩,fun e => cJ⟩
 ·cases h
theorem Cv : ∀ (ws : List ByteArray) (l : List Int),cO ws = some l → l.length = ws.length ∧ ∀ z ∈ l,I64 z
 | [],l,h => by simp [cO] at h; subst h; simp
 | x :: r,l,h => by
  simp only [cO] at h
  rcases h3 : nmV x with _ | v
  ·exact iy
  ·rw [h3] at h
   simp only [Option.bind_some] at h
   rcases h4 : cO r with _ | t
   ·rw [h4] at h; cases h
   ·rw [h4] at h; cases h
    have ih:=Cv r t h4
    refine ⟨by simp [ih.1],fun z hz => ?_⟩
    rcases List.mem_cons.1 hz with rfl | hz
    ·exact jP h3
    ·exact ih.2 z hz
theorem NL {op : Int} {ws : List ByteArray} {y : PIn} (h : jl op ws = some y) (ho : 0 ≤ op ∧ op ≤ 255) (hn : ws.length ≤ 2097152) : 0 ≤ y.1 ∧ y.1 ≤ 255 ∧ I64 y.2.1 ∧ y.2.2.length ≤ 2097152 ∧ ∀ z ∈ y.2.2,I64 z:=by
 have z0 : I64 0:=by unfold I64; omega
 unfold jl at h
 split at h
 ·split at h
  ·cases h; exact ⟨ho.1,ho.2,z0,ar,fun z hz => by cases hz⟩
  ·cases h
 ·split at h
  ·rcases h4 : cO ws.tail with _ | t
   ·rw [h4] at h; cases h
   ·rw [h4] at h; cases h
    have:=Cv _ _ h4
    refine ⟨ho.1,ho.2,z0,?_,this.2⟩;have h5:=this.1;rw [List.length_tail] at h5;dsimp only;omega
  ·split at h
   ·rcases h4 : nmV (wdx ws 1) with _ | t
    ·rw [h4] at h; cases h
    ·rw [h4] at h; cases h
     exact ⟨ho.1,ho.2,jP h4,ar,fun z hz => by cases hz⟩
   ·cases h
theorem Kc {fs : List PFn} (h : fs ≠ []) (y : PIn) : ∃ init f,fs = init ++ [f] ∧ qa fs y = init ++ [(f.1,f.2.1,f.2.2 ++ [y])]:=by
 refine ⟨fs.dropLast,fs.getLast h,(List.dropLast_concat_getLast h).symm,?_⟩;unfold qa;rw [List.getLast?_eq_some_getLast h]
theorem J9 {p p' : Int} {M M' : PM} {ws : List ByteArray} (h : cj p M ws = some (p',M')) (hR : PR M) (hn : p = 6 → M.fns ≠ []) (hl : ws.length ≤ 2097152) : StO M p' M':=by
 unfold cj at h
 split at h
 ·rename_i hc
  rcases h3 : jl (bi (wdx ws 0)).1 ws with _ | y
  ·exact iy
  ·rw [h3] at h; cases h
   have hy:=NL h3 (cZ _ hc.2) hl;obtain ⟨init,f,e1,e2⟩:=Kc (hn ae) y;rw [e2];have hf:=hR.fr;rw [e1] at hf
   refine ⟨?_,⟨hR.hr,hR.gr,hR.i,hR.o,?_,hR.dr,hR.er⟩,fun _ => ar⟩
   ·unfold psz;rw [e1]
    simp
    omega
   ·have h1:=hf f ar
    exact gX (fun x hx => hf x cP) ⟨h1.1,gX h1.2 hy⟩
 ·cases h
theorem JQ {p p' : Int} {M M' : PM} {ws : List ByteArray} (h : bJ p M ws = some (p',M')) (hR : PR M) (hn : p = 6 → M.fns ≠ []) (hl : ws.length ≤ 2097152) (hz : ∀ x ∈ ws,x.size ≤ 2097152) : StO M p' M':=by
 unfold bJ at h
 split at h
 ·exact JU h hR
 ·split at h
  ·exact Mh h hR
  ·split at h
   ·exact JW h hR
   ·split at h
    ·exact Jf h hR
    ·split at h
     ·exact NF h hR
     ·split at h
      ·exact M7 h hR
      ·split at h
       ·exact Mu h hR hz
       ·split at h
        ·exact MZ h hR
        ·exact J9 h hR hn hl
theorem Lj {p p' : Int} {M M' : PM} {s : ByteArray} (h : bO p M s = some (p',M')) (hR : PR M) (hn : p = 6 → M.fns ≠ []) (hs : s.size ≤ 2097152) : StO M p' M':=by
 unfold bO at h
 split at h
 ·cases h; exact ⟨ae,hR,hn⟩
 ·have:=pR s
  exact JQ h hR hn ae (fun x hx => by have:=this.2 x hx; omega)
def bh (ln p : Int) (M : PM) : List ByteArray → Int × Option (Int × PM)
 | [] => (ln,some (p,M))
 | s :: r => match bO p M s with
  | none => (ln + 1,none)
  | some (p',M') => bh (ln + 1) p' M' r
def pm0 : PM:=⟨[],[],[],0,0,[],[],[]⟩
theorem Nn : PR pm0:=⟨(fun x hx => ju),(fun x hx => ju),by unfold I64 pm0; dsimp only; omega,by unfold I64 pm0; dsimp only; omega,(fun x hx => ju),(fun x hx => ju),(fun x hx => ju)⟩
theorem na {α : Type} {w : World} {base e k n c : Nat} {a : Option Addr} {l : List α} (gc : α → List Value) (hk : ∀ x,(gc x).length = k) (hp : 0 < k) (h : w.ownsRow base e k (.slice a n c) n (l.flatMap gc)) :
  l.length = n ∧ (n = 0 ∨ ∃ b off,a = some ⟨b,off,none⟩ ∧ ∀ (j : Nat) x,l[j]? = some x → ∀ q y,(gc x)[q]? = some y → w.cell? ⟨b,off + j * k + q,none⟩ = some y):=by
 refine ⟨dL hk hp h,?_⟩
 rcases h.2 with ⟨h0,hz⟩ | ⟨b,cp,cur,h1,h2,h3,h4,h5,h6,h7⟩
 ·exact .inl hz
 ·injection h1 with e1 e2 e3
  refine .inr ⟨b,0,e1,fun j x hj q y hq => ?_⟩
  have hq' : q < k:=by have:=(List.getElem?_eq_some_iff.1 hq).1; rw [hk] at this; exact this
  have hx : (l.flatMap gc)[j * k + q]? = some y:=by rw [xy gc k hk l j q hq',hj]; exact hq
  have hlt : j * k + q < n * k:=by have:=(List.getElem?_eq_some_iff.1 hx).1; rw [h.1] at this; exact this
  subst e1
  have:=h.cellAt (j * k + q) hlt
  rw [hx] at this
  rw [show 0 + j * k + q = j * k + q by omega]
  exact this
theorem i6 {w : World} {base e k n c R g : Nat} {a : Option Addr} {xs : List Value} (h : w.ownsRow base e k (.slice a n c) n xs) (hR : w.heap.size ≤ R) (hg : w.heap.size ≤ g) : Far w R g a:=by
 intro b off cc hb
 obtain ⟨_,cur,hc⟩:=gD h (b:=b) (by rw [hb]; rfl)
 have:=aS hc
 omega
theorem Hh {w : World} {base e k n c : Nat} {a : Option Addr} {xs : List Value} (h : w.ownsRow base e k (.slice a n c) n xs) : n ≤ c:=by
 rcases h.2 with ⟨h0,hz⟩ | ⟨b,cp,cur,h1,h2,h3,h4,h5,h6,h7⟩
 ·omega
 ·injection h1 with e1 e2 e3
  omega
theorem RQ.mok {base R0 : Nat} {mp : Value} {m : MM} {ln pt : Int} {w : World} (h : RQ base R0 mp m ln pt w) (hp : PR (pl m)) (R g : Nat) (hR : w.heap.size ≤ R) (hg : w.heap.size ≤ g) : MOk w R g m:=by
 have ht:=na mM (fun _ => rfl) aq h.rt
 have hh:=na ir (fun _ => rfl) aq h.rh
 have hgl:=na dW (fun _ => rfl) aq h.rg
 have hf:=na dD (fun _ => rfl) aq h.rf
 have hd:=na mL (fun _ => rfl) aq h.rd
 have he:=na mz (fun _ => rfl) aq h.re
 refine ⟨⟨ht.1,ht.2.imp id ?_⟩,i6 h.rt hR hg,⟨hh.1,hh.2.imp id ?_⟩,i6 h.rh hR hg,?_,⟨hgl.1,hgl.2.imp id ?_⟩,i6 h.rg hR hg,?_,hp.i.1,by have:=hp.i.2; show m.fi < _; unfold pl at this; dsimp only at this; omega,hp.o.1,by have:=hp.o.2; unfold pl at this; dsimp only at this; omega,⟨hf.1,hf.2.imp id ?_⟩,i6 h.rf hR hg,?_,⟨hd.1,hd.2.imp id ?_⟩,i6 h.rd hR hg,?_,⟨he.1,he.2.imp id ?_⟩,i6 h.re hR hg,?_⟩
 ·exact uG
 ·rintro ⟨b,off,ha,hc⟩
  exact ⟨b,off,ha,fun j x hj => by have:=hc j x hj 0 _ rfl; simpa using this⟩
 ·intro j x hj
  have:=hp.hr x (List.mem_of_getElem? hj)
  unfold I64 at this;omega
 ·exact tH
 ·intro j x hj;exact hp.gr x (List.mem_of_getElem? hj)
 ·exact tH
 ·intro j x hj;have hm:=List.mem_of_getElem? hj;have hx:=hp.fr (plF x) (List.mem_map.2 ⟨x,hm,rfl⟩);have hfo:=h.fo x hm
  have hco:=na dX (fun _ => rfl) aq hfo.code
  have hx1 : I64 x.1:=hx.1;unfold I64 at hx1
  refine ⟨ae,⟨hco.1,hco.2.imp id ?_⟩,(i6 hfo.code hR hg).nz _,fun i y hi => ?_⟩
  ·exact tH
  ·have hym:=List.mem_of_getElem? hi;have hy:=hx.2 (plI y) (List.mem_map.2 ⟨y,hym,rfl⟩)
   have hlo:=na ir (fun _ => rfl) aq (hfo.lab y hym)
   refine ⟨hy.1,hy.2.1,⟨hlo.1,Hh (hfo.lab y hym),?_,fun z hz => hy.2.2.2.2 z hz,hlo.2.imp id ?_⟩,(i6 (hfo.lab y hym) hR hg).nz _⟩
   ·have h1 : y.2.2.2.length ≤ 2097152:=hy.2.2.2.1;have h2:=hlo.1;omega
   ·rintro ⟨b,off,ha,hc⟩
    refine ⟨b,off,ha,fun j hj => ?_⟩
    have hl:=hlo.1
    have:=hc j (y.2.2.2[j]'(ae)) (aD _) 0 _ rfl
    exact A2
 ·exact uG
 ·intro j x hj;have hm:=List.mem_of_getElem? hj;have hx:=hp.dr (plD x) (List.mem_map.2 ⟨x,hm,rfl⟩);have hfo:=h.dd x hm
  have hco:=na qL (fun _ => rfl) aq hfo
  have hx1 : I64 x.1:=hx.1;unfold I64 at hx1;refine ⟨ae,⟨hco.1,Hh hfo,?_,hx.2.2,hco.2.imp id ?_⟩,(i6 hfo hR hg).nz _⟩
  ·have h1 : x.2.2.length ≤ 2097152:=hx.2.1;have h2:=hco.1;omega
  ·rintro ⟨b,off,ha,hc⟩
   refine ⟨b,off,ha,fun j hj => ?_⟩
   have hl:=hco.1
   have:=hc j (x.2.2[j]'(ae)) (aD _) 0 _ rfl
   exact A2
 ·exact uG
 ·intro j x hj
  have:=hp.er x (List.mem_of_getElem? hj)
  unfold I64 at this;omega
end Go.Proofs.YtheefojaplnnoaaGreatDoor

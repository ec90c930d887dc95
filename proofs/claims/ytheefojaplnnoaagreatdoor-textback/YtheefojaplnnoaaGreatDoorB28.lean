/-
  Texts Pt Pu Pv Nc Nd.
-/
import Derived.Lib.FieldsP
import Derived.Test.YtheefojaplnnoaaGreatDoorB00
import Derived.Test.YtheefojaplnnoaaGreatDoorB18
import Derived.Test.YtheefojaplnnoaaGreatDoorB26
import Derived.Test.YtheefojaplnnoaaGreatDoorB27
set_option linter.unusedVariables false
set_option maxRecDepth 100000
set_option maxHeartbeats 16000000
namespace Go.Proofs.YtheefojaplnnoaaGreatDoor
open Go.RowKit
theorem vL (s : ByteArray) (i : Nat) : 1 ≤ (Utf8.decode s i).2:=by
 unfold Utf8.decode;dsimp only
 repeat' split
 all_goals simp
def LF (s : ByteArray) (b : Nat) (acc : List (Nat × Nat)) : Prop:=(∀ x ∈ acc,x.1 < x.2 ∧ x.2 ≤ s.size) ∧ (acc.map fun x => x.2 - x.1).sum ≤ b
theorem jH (p : Nat → Bool) (s : ByteArray) : ∀ (f pos : Nat) (st : Option Nat) (acc : List (Nat × Nat)),LF s (min (st.getD pos) s.size) acc → (∀ a,st = some a → a < pos ∧ a < s.size) →
  LF s s.size (Lib.closeSpans s (Lib.spansFromP p s f pos st acc))
 | 0,pos,st,acc,h,hs => by
  unfold Lib.spansFromP;exact Da
 | f + 1,pos,st,acc,h,hs => by
  unfold Lib.spansFromP;have hd:=vL s pos
  by_cases hp : pos < s.size
  ·rw [if_pos hp]
   by_cases hb : p (Utf8.decode s pos).1 = true
   ·rw [if_pos hb]
    cases st with
    | none =>
     refine jH p s f _ none acc ⟨h.1,?_⟩ (fun a e => dt)
     have:=h.2
     simp only [Option.getD_none] at this ⊢
     omega
    | some a =>
     have ha:=hs a rfl
     refine jH p s f _ none _ ⟨fun x hx => ?_,?_⟩ (fun a e => dt)
     ·rcases List.mem_append.1 hx with hx | hx
      ·exact h.1 x hx
      ·rw [List.mem_singleton] at hx;subst hx;exact ⟨ha.1,Nat.le_of_lt hp⟩
     ·have:=h.2
      simp only [List.map_append,List.sum_append,List.map_cons,List.map_nil,List.sum_cons,List.sum_nil,Option.getD_none,Option.getD_some] at this ⊢
      omega
   ·rw [if_neg hb]
    cases st with
    | none =>
     refine jH p s f _ (some pos) acc ⟨h.1,?_⟩ (fun a e => rB)
     have:=h.2
     simp only [Option.getD_none,Option.getD_some] at this ⊢
     omega
    | some a =>
     have ha:=hs a rfl
     exact jH p s f _ (some a) acc h (fun b e => rB)
  ·rw [if_neg hp];exact Da
theorem DD (s : ByteArray) (a b : Nat) (h : b ≤ s.size) : (s.extract a b).size = b - a:=by
 simp
 omega
theorem D6 : ∀ (l : List Nat),(∀ x ∈ l,1 ≤ x) → l.length ≤ l.sum
 | [],_ => by simp
 | x :: l,h => by
  have h1:=h x ar
  have h2:=D6 l (fun y hy => h y kM)
  simp only [List.length_cons,List.sum_cons]
  omega
theorem pP : ∀ (l : List Nat) (x : Nat),x ∈ l → x ≤ l.sum
 | [],x,h => by cases h
 | y :: l,x,h => by
  rcases List.mem_cons.1 h with rfl | h
  ·simp
  ·have:=pP l x h
   simp only [List.sum_cons]
   omega
def aM (s : ByteArray) : List ByteArray:=Lib.goFieldsP iR s
theorem ik (s : ByteArray) : (∀ x ∈ aM s,1 ≤ x.size) ∧ ((aM s).map (·.size)).sum ≤ s.size:=by
 have h:=jH iR s s.size 0 none [] ⟨(fun x hx => jf),ar⟩ (fun a e => dt)
 have hsz : ∀ x ∈ Lib.spansOfP iR s,(s.extract x.1 x.2).size = x.2 - x.1:=fun x hx => DD s x.1 x.2 (h.1 x hx).2
 refine ⟨fun x hx => ?_,?_⟩
 ·obtain ⟨q,hq,rfl⟩:=List.mem_map.1 hx;have h1:=(h.1 q hq).1;have h2:=hsz q hq;omega
 ·have e : (aM s).map (·.size) = (Lib.spansOfP iR s).map fun x => x.2 - x.1:=by
   unfold aM Lib.goFieldsP;rw [List.map_map]
   exact List.map_congr_left (fun x hx => hsz x hx)
  rw [e];exact h.2
theorem oz (s : ByteArray) : (aM s).length ≤ s.size ∧ ∀ x ∈ aM s,x.size ≤ s.size:=by
 obtain ⟨h1,h2⟩:=ik s
 have h3:=D6 ((aM s).map (·.size)) (fun x hx => by obtain ⟨q,hq,rfl⟩:=List.mem_map.1 hx; exact h1 q hq)
 rw [List.length_map] at h3
 refine ⟨ae,fun x hx => ?_⟩
 have:=pP ((aM s).map (·.size)) x.size (List.mem_map.2 ⟨x,hx,rfl⟩)
 omega
theorem Co : ∀ (l : List ByteArray),(Lib.join (l.map (·.data.toList)) [32]).length ≤ (l.map (·.size)).sum + l.length
 | [] => by simp [Lib.join]
 | x :: r => by
  have hj : ∀ (r : List ByteArray),(Lib.joinTail [32] (r.map (·.data.toList))).length = (r.map (·.size)).sum + r.length:=by
   intro r;exact FR
  rw [List.map_cons,Lib.join_cons,List.length_append,hj];have e : x.data.toList.length = x.size:=Array.length_toList;rw [e]
  simp only [List.map_cons,List.sum_cons,List.length_cons]
  omega
theorem DX (s : ByteArray) : (cS (aM s).tail).size ≤ 2 * s.size:=by
 have h1:=Co (aM s).tail;have h2:=ik s;have h3:=oz s
 have h4 : ((aM s).tail.map (·.size)).sum ≤ ((aM s).map (·.size)).sum:=by
  cases aM s with
  | nil => simp
  | cons x r => simp
 have h5 : (aM s).tail.length ≤ (aM s).length:=by rw [List.length_tail]; omega
 have e : (cS (aM s).tail).size = (Lib.join ((aM s).tail.map (·.data.toList)) [32]).length:=by simp [cS,ByteArray.size]
 omega
def bG (p : Int) (M : PM) (ws : List ByteArray) : Option (Int × PM) :=
 if wdx ws 0 = ⟨#[102,108,97,103,111,110]⟩ then iD p M ws else
 if wdx ws 0 = ⟨#[116,121,112,101]⟩ then fO p M ws else
 if wdx ws 0 = ⟨#[101,120,116,101,114,110]⟩ then fJ p M ws else
 if wdx ws 0 = ⟨#[103,108,111,98,97,108]⟩ then bD p M ws else
 if wdx ws 0 = ⟨#[109,101,109,111,114,121]⟩ then iw p M ws else
 if wdx ws 0 = ⟨#[102,117,110,99]⟩ then gU p M ws else
 if wdx ws 0 = ⟨#[100,97,116,97]⟩ then iz p M ws else
 if wdx ws 0 = ⟨#[101,120,112,111,114,116]⟩ then jt p M ws else
 b9 p M ws
def fb (x : ByteArray) : Int:=((x.data.toList.headD 0).toNat : Int)
def cM (p : Int) (M : PM) (s : ByteArray) : Option (Int × PM):=if aM s = [] ∨ fb (wdx (aM s) 0) = 59 then some (p,M) else bG p M (aM s)
theorem LQ : ∀ args w,(callFunc 108 args).run Tryz.prog w = .ok (.enter 108 args) w:=fun args w => ir
theorem LG : ∀ args w,(callFunc 109 args).run Tryz.prog w = .ok (.enter 109 args) w:=fun args w => ir
theorem LO : ∀ args w,(callFunc 110 args).run Tryz.prog w = .ok (.enter 110 args) w:=fun args w => ir
theorem Mz : ∀ args w,(callFunc 111 args).run Tryz.prog w = .ok (.enter 111 args) w:=fun args w => ir
theorem LX : ∀ args w,(callFunc 112 args).run Tryz.prog w = .ok (.enter 112 args) w:=fun args w => ir
theorem LZ : ∀ args w,(callFunc 113 args).run Tryz.prog w = .ok (.enter 113 args) w:=fun args w => ir
theorem L9 : ∀ args w,(callFunc 114 args).run Tryz.prog w = .ok (.enter 114 args) w:=fun args w => ir
theorem L8 : ∀ args w,(callFunc 115 args).run Tryz.prog w = .ok (.enter 115 args) w:=fun args w => ir
theorem EG {B base R A n c : Nat} {mp : Value} {m : MM} {ln pt : Int} {w : World} {ws : List ByteArray} (h : RQ base R mp m ln pt w) (hw : Wds w A n c ws) (hA : base ≤ A) (hE : bT B w) (hBR : B ≤ R) (hps : psz (pl m) ≤ 2097152) (hc : c = n) (hn0 : 1 ≤ n) (hj : (cS ws.tail).size ≤ 8388608) (hne : pt = 6 → m.fns ≠ []) :
  (∃ i f,Instr.findNow .string (.string (wdx ws 0)) kdE.toList 0 = some (some (i,.func (.func f) #[] #[])) ∧ (∀ args w,(callFunc f args).run Tryz.prog w = .ok (.enter f args) w) ∧ Calls Tryz.prog f #[.pointer (some ⟨R,0,none⟩),.slice (some ⟨A,0,none⟩) n c] w (LnP base R mp ln w (bG pt (pl m) ws)))
  ∨ (Instr.findNow .string (.string (wdx ws 0)) kdE.toList 0 = some none ∧ Calls Tryz.prog 119 #[.pointer (some ⟨R,0,none⟩),.slice (some ⟨A,0,none⟩) n c] w (LnP base R mp ln w (bG pt (pl m) ws))):=by
 by_cases h0 : wdx ws 0 = ⟨#[102,108,97,103,111,110]⟩
 ·refine .inl ⟨_,_,(by rw [h0]; exact wQ),LQ,?_⟩
  have e : bG pt (pl m) ws = iD pt (pl m) ws:=by
   unfold bG;rw [if_pos h0]
  rw [e];exact Hz h hw
 by_cases h1 : wdx ws 0 = ⟨#[116,121,112,101]⟩
 ·refine .inl ⟨_,_,(by rw [h1]; exact C5),LG,?_⟩
  have e : bG pt (pl m) ws = fO pt (pl m) ws:=by
   unfold bG;rw [if_neg h0,if_pos h1]
  rw [e];exact KL h hw hA hE hBR hps hc hn0 hj
 by_cases h2 : wdx ws 0 = ⟨#[101,120,116,101,114,110]⟩
 ·refine .inl ⟨_,_,(by rw [h2]; exact xz),LO,?_⟩
  have e : bG pt (pl m) ws = fJ pt (pl m) ws:=by
   unfold bG;rw [if_neg h0,if_neg h1,if_pos h2]
  rw [e];exact IV h hw hA hE hBR hps
 by_cases h3 : wdx ws 0 = ⟨#[103,108,111,98,97,108]⟩
 ·refine .inl ⟨_,_,(by rw [h3]; exact wP),Mz,?_⟩
  have e : bG pt (pl m) ws = bD pt (pl m) ws:=by
   unfold bG;rw [if_neg h0,if_neg h1,if_neg h2,if_pos h3]
  rw [e];exact GJ h hw hA hE hBR hps
 by_cases h4 : wdx ws 0 = ⟨#[109,101,109,111,114,121]⟩
 ·refine .inl ⟨_,_,(by rw [h4]; exact xW),LX,?_⟩
  have e : bG pt (pl m) ws = iw pt (pl m) ws:=by
   unfold bG;rw [if_neg h0,if_neg h1,if_neg h2,if_neg h3,if_pos h4]
  rw [e];exact La h hw hA hE hBR hps
 by_cases h5 : wdx ws 0 = ⟨#[102,117,110,99]⟩
 ·refine .inl ⟨_,_,(by rw [h5]; exact FZ),LZ,?_⟩
  have e : bG pt (pl m) ws = gU pt (pl m) ws:=by
   unfold bG;rw [if_neg h0,if_neg h1,if_neg h2,if_neg h3,if_neg h4,if_pos h5]
  rw [e];exact Lb h hw hA hE hBR hps
 by_cases h6 : wdx ws 0 = ⟨#[100,97,116,97]⟩
 ·refine .inl ⟨_,_,(by rw [h6]; exact Er),L9,?_⟩
  have e : bG pt (pl m) ws = iz pt (pl m) ws:=by
   unfold bG;rw [if_neg h0,if_neg h1,if_neg h2,if_neg h3,if_neg h4,if_neg h5,if_pos h6]
  rw [e];exact KE h hw hA hE hBR hps
 by_cases h7 : wdx ws 0 = ⟨#[101,120,112,111,114,116]⟩
 ·refine .inl ⟨_,_,(by rw [h7]; exact xy),L8,?_⟩
  have e : bG pt (pl m) ws = jt pt (pl m) ws:=by
   unfold bG;rw [if_neg h0,if_neg h1,if_neg h2,if_neg h3,if_neg h4,if_neg h5,if_neg h6,if_pos h7]
  rw [e];exact Ld h hw hA hE hBR hps
 refine .inr ⟨Dh _ h0 h1 h2 h3 h4 h5 h6 h7,?_⟩
 have e : bG pt (pl m) ws = b9 pt (pl m) ws:=by
  unfold bG;rw [if_neg h0,if_neg h1,if_neg h2,if_neg h3,if_neg h4,if_neg h5,if_neg h6,if_neg h7]
 rw [e];exact Gt h hw hA hE hBR hps hc hn0 hne
theorem IQ (w : World) : PredAtRunes Tryz.prog 118 #[] iR w:=fun W x _ _ => (FW x W).mono fun e w' ⟨he,hw⟩ => ⟨he,0,by rw [hw]; rfl⟩
theorem Mt : ∀ args w,(callFunc 118 args).run Tryz.prog w = .ok (.enter 118 args) w:=fun args w => ir
theorem m8 (s : ByteArray) (w : World) (hs : s.size ≤ 2097152) : Calls Tryz.prog 117 #[.string s,.func (.func 118) #[] #[]] w fun e w' => ∃ A,e = .returned (.slice (some ⟨A,0,none⟩) (aM s).length (aM s).length) ∧ w.heap.size ≤ A ∧ Wds w' A (aM s).length (aM s).length (aM s) ∧ Below w.heap.size w w':=by
 refine (Tryz.strings_FieldsFunc_runes 118 #[] Mt iR s w ae (IQ w)).mono ?_;rintro e w' ⟨A,rfl,hA,ho,hb⟩
 refine ⟨A,rfl,hA,⟨rfl,?_,Nat.le_refl _,fun j x hx => ?_,fun x hx => ?_,?_⟩,hb⟩
 ·obtain ⟨_,cur,hc⟩:=gA ho (b:=A) rfl;exact aP hc
 ·have hj : j < (aM s).length:=(List.getElem?_eq_some_iff.1 hx).1
  have:=ho.cellAt j (by have : (Lib.goFieldsP iR s).length = (aM s).length:=rfl; omega)
  rw [Nat.zero_add,this,List.getElem?_map];have hx' : (Lib.goFieldsP iR s)[j]? = some x:=hx;rw [hx'];rfl
 ·have:=(oz s).2 x hx
  omega
 ·have:=(oz s).1
  omega
theorem JJ (x : ByteArray) (h : 1 ≤ x.size) : fb x = ((x[0].toNat : Nat) : Int):=by
 cases x with | mk a =>
 cases a with | mk l =>
 cases l with
 | nil => simp [ByteArray.size] at h
 | cons b l => rfl
theorem IR {B base R KB : Nat} {m : MM} {ln pt : Int} {w : World} (s : ByteArray) (h : RQ base R (.map (some KB)) m ln pt w) (hs : s.size ≤ 2097152) (hl : 0 ≤ ln ∧ ln ≤ 2097152) (h0 : aM s = []) :
  Calls Tryz.prog 56 #[.pointer (some ⟨R,0,none⟩),.string s] w (LnP base R (.map (some KB)) (ln + 1) w (cM pt (pl m) s)):=by
 have e : cM pt (pl m) s = some (pt,pl m):=by unfold cM; rw [if_pos (.inl h0)]
 rw [e];obtain ⟨hl0,hl1⟩:=hl;have hi : IntKind.i64.wrap (ln + 1) = ln + 1:=IntWalk.i64_in _ ae;have q1:=hid (h.line (ln + 1));have k1:=hid (KR.set base R 9 w (.int .i64 (ln + 1)));have c9:=h.cells 9;have f9:=h.free 9
 simp [jh] at c9
 have HF:=hid (m8 s (w.setCell ⟨R,9,none⟩ (.int .i64 (ln + 1))) hs);rw [h0] at HF
 simp only [List.length_nil] at HF
 clear h e h0
 go_enter Tryz.func56,Tryz.ntmps56
 go_wp2_with fail;refine HF.out.mono ?_;clear HF;generalize w.setCell ⟨R,9,none⟩ (.int .i64 (ln + 1)) = w1 at *;rintro e w2 ⟨A,rfl,hA,hd,hb⟩;have HD:=hid hd;have HB:=hid hb;clear hd hb;exact zZ
theorem FA {B base R KB : Nat} {m : MM} {ln pt : Int} {w : World} (s : ByteArray) (h : RQ base R (.map (some KB)) m ln pt w) (hs : s.size ≤ 2097152) (hl : 0 ≤ ln ∧ ln ≤ 2097152) (h0 : aM s ≠ []) (h1 : fb (wdx (aM s) 0) = 59) :
  Calls Tryz.prog 56 #[.pointer (some ⟨R,0,none⟩),.string s] w (LnP base R (.map (some KB)) (ln + 1) w (cM pt (pl m) s)):=by
 have e : cM pt (pl m) s = some (pt,pl m):=by unfold cM; rw [if_pos (.inr h1)]
 rw [e];obtain ⟨hl0,hl1⟩:=hl;have hi : IntKind.i64.wrap (ln + 1) = ln + 1:=IntWalk.i64_in _ ae
 obtain ⟨x,r,hx⟩ : ∃ x r,aM s = x :: r:=by cases hw : aM s with | nil => exact absurd hw h0 | cons x r => exact ⟨x,r,rfl⟩
 have hx1 : 1 ≤ x.size:=(ik s).1 x (by rw [hx]; simp)
 have ex : wdx (aM s) 0 = x:=lD;have hr : (((r.length : Int) + 1) == 0) = false:=aK;rw [ex,JJ x hx1] at h1
 have h2 : (((x[0].toNat : Nat) : Int) == 59) = true:=by rw [h1]; rfl
 have q1:=hid (h.line (ln + 1));have k1:=hid (KR.set base R 9 w (.int .i64 (ln + 1)));have c9:=h.cells 9;have f9:=h.free 9
 simp [jh] at c9
 have HF:=hid (m8 s (w.setCell ⟨R,9,none⟩ (.int .i64 (ln + 1))) hs);clear h e h0
 go_enter Tryz.func56,Tryz.ntmps56
 go_wp2_with fail;refine HF.out.mono ?_;clear HF;generalize w.setCell ⟨R,9,none⟩ (.int .i64 (ln + 1)) = w1 at *;rintro e w2 ⟨A,rfl,hA,hd,hb⟩;have HD:=hid hd;have HB:=hid hb;have c0 : w2.cell? ⟨A,0,none⟩ = some (.string x):=hd.at_ 0 x lD;have hn : (aM s).length = r.length + 1:=lD;rw [hn];clear hd hb hx hn;exact zZ
theorem Hg {B base R KB : Nat} {m : MM} {ln pt : Int} {w : World} (s : ByteArray) (h : RQ base R (.map (some KB)) m ln pt w) (hs : s.size ≤ 2097152) (hl : 0 ≤ ln ∧ ln ≤ 2097152) (h0 : aM s ≠ []) (h1 : fb (wdx (aM s) 0) ≠ 59) (hE : bT B w) (hBR : B ≤ R) (hps : psz (pl m) ≤ 2097152) (hne : pt = 6 → m.fns ≠ []) (hKB : w.heap[KB]? = some (.map kdE 8)) (hKR : KB ≠ R) (hKb : KB < base) :
  Calls Tryz.prog 56 #[.pointer (some ⟨R,0,none⟩),.string s] w (LnP base R (.map (some KB)) (ln + 1) w (cM pt (pl m) s)):=by
 have e : cM pt (pl m) s = bG pt (pl m) (aM s):=by unfold cM; rw [if_neg (fun x => x.elim h0 h1)]
 rw [e];obtain ⟨hl0,hl1⟩:=hl;have hi : IntKind.i64.wrap (ln + 1) = ln + 1:=IntWalk.i64_in _ ae
 obtain ⟨x,r,hx⟩ : ∃ x r,aM s = x :: r:=by cases hw : aM s with | nil => exact absurd hw h0 | cons x r => exact ⟨x,r,rfl⟩
 have hx1 : 1 ≤ x.size:=(ik s).1 x (by rw [hx]; simp)
 have ex : wdx (aM s) 0 = x:=lD;have hr : (((r.length : Int) + 1) == 0) = false:=aK;rw [ex,JJ x hx1] at h1;have h2 : (((x[0].toNat : Nat) : Int) == 59) = false:=sO;have hn : (aM s).length = r.length + 1:=lD
 have hfew : r.length ≤ 2097152:=by have:=(oz s).1; omega
 have hj:=DX s;have hE1:=hid (hE.later ((KR.set base R 9 w (.int .i64 (ln + 1))).below hBR bX hE.bw))
 have hM1:=hid (((KR.set base R 9 w (.int .i64 (ln + 1))).block KB (aP hKB) (fun e => by rcases e with e | e; exact hKR e; omega)).trans hKB)
 have q1:=hid (h.line (ln + 1));have k1:=hid (KR.set base R 9 w (.int .i64 (ln + 1)));have c9:=h.cells 9;have f9:=h.free 9
 simp [jh] at c9
 have HF:=hid (m8 s (w.setCell ⟨R,9,none⟩ (.int .i64 (ln + 1))) hs);clear h e h0 hE hKB
 go_enter Tryz.func56,Tryz.ntmps56
 go_wp2_with fail;refine HF.out.mono ?_;clear HF;generalize w.setCell ⟨R,9,none⟩ (.int .i64 (ln + 1)) = w1 at *;rintro e w2 ⟨A,rfl,hA,hd,hb⟩;have HD:=hid hd;have HB:=hid hb;have c0 : w2.cell? ⟨A,0,none⟩ = some (.string x):=hd.at_ 0 x lD;have hq2:=q1.out.later hb;have hE2:=hE1.out.later (hb.mono hE1.out.bw);have hM2:=ak hb hM1.out;have hk2:=k1.out.trans (KR.later hb);have hA2 : base ≤ A:=Nat.le_trans q1.out.bw hA;rw [hn] at hd;rw [hn];clear hb HD HB q1 k1 hE1 hM1 c9 f9;have b3 : Below w2.heap.size w2 w2.drew:=(Below.refl _ _).drew;have d3:=hd.later b3;have q3:=hq2.later b3;have e3:=hE2.later (b3.mono hE2.bw);have m3:=ak b3 hM2;have k3:=hk2.trans (KR.later b3)
 have c3 : w2.drew.cell? ⟨A,0,none⟩ = some (.string x):=by rw [← c0]; rfl
 have g3 : w2.drew.cell? ⟨R,0,none⟩ = some (.map (some KB)):=(q3.cells 0).trans rfl;have ew:=ex;have way:=hid (EG q3 d3 hA2 e3 hBR hps rfl ae ae hne);rw [ex] at way;have HK:=hid k3;have M3:=hid m3;clear hd hq2 hE2 hM2 hk2 b3 d3 q3 e3 m3 k3;generalize hwd : w2.drew = wd at *;have HW:=hid hwd;clear hwd;clear ex hx
 rcases way.out with ⟨i,f,hf,eg,hc⟩ | ⟨hf,hc⟩
 ·have hlk:=EE wd KB i f x M3.out hf;exact CY
 ·have hlk:=A2 wd KB x M3.out hf;exact CY
theorem Kz {B base R KB : Nat} {m : MM} {ln pt : Int} {w : World} (s : ByteArray) (h : RQ base R (.map (some KB)) m ln pt w) (hs : s.size ≤ 2097152) (hl : 0 ≤ ln ∧ ln ≤ 2097152) (hE : bT B w) (hBR : B ≤ R) (hps : psz (pl m) ≤ 2097152) (hne : pt = 6 → m.fns ≠ []) (hKB : w.heap[KB]? = some (.map kdE 8)) (hKR : KB ≠ R) (hKb : KB < base) :
  Calls Tryz.prog 56 #[.pointer (some ⟨R,0,none⟩),.string s] w (LnP base R (.map (some KB)) (ln + 1) w (cM pt (pl m) s)):=by
 by_cases h0 : aM s = []
 ·exact IR (B:=B) s h hs hl h0
 ·by_cases h1 : fb (wdx (aM s) 0) = 59
  ·exact FA (B:=B) s h hs hl h0 h1
  ·exact Hg s h hs hl h0 h1 hE hBR hps hne hKB hKR hKb
def I64 (x : Int) : Prop:=-9223372036854775808 ≤ x ∧ x ≤ 9223372036854775807
structure PR (M : PM) : Prop where
 hr : ∀ x ∈ M.hosts,I64 x
 gr : ∀ x ∈ M.globals,0 ≤ x.1 ∧ x.1 ≤ 255 ∧ 0 ≤ x.2.2 ∧ x.2.2 < 18446744073709551616
 i : I64 M.fi
 o : I64 M.mo
 fr : ∀ x ∈ M.fns,I64 x.1 ∧ ∀ y ∈ x.2.2,0 ≤ y.1 ∧ y.1 ≤ 255 ∧ I64 y.2.1 ∧ y.2.2.length ≤ 2097152 ∧ ∀ z ∈ y.2.2,I64 z
 dr : ∀ x ∈ M.data,I64 x.1 ∧ x.2.length ≤ 2097152 ∧ ∀ b ∈ x.2,0 ≤ b ∧ b ≤ 255
 er : ∀ x ∈ M.exps,I64 x.2
theorem jy {x : ByteArray} {v : Int} (h : nmV x = some v) : I64 v:=ie (pC h).1
theorem gF {α : Type} {l : List α} {y : α} {Q : α → Prop} (h : ∀ x ∈ l,Q x) (hy : Q y) : ∀ x ∈ l ++ [y],Q x:=by
 intro x hx
 rcases List.mem_append.1 hx with hx | hx
 ·exact h x hx
 ·rw [List.mem_singleton] at hx; subst hx; exact hy
structure StO (M : PM) (p' : Int) (M' : PM) : Prop where
 sz : psz M' ≤ psz M + 1
 pr : PR M'
 ne : p' = 6 → M'.fns ≠ []
theorem II {p p' : Int} {M M' : PM} {ws : List ByteArray} (h : iD p M ws = some (p',M')) (hR : PR M) : StO M p' M':=by
 unfold iD at h
 split at h
 ·cases h; exact ⟨ae,hR,fun e => dt⟩
 ·cases h
theorem Ko {p p' : Int} {M M' : PM} {ws : List ByteArray} (h : fO p M ws = some (p',M')) (hR : PR M) : StO M p' M':=by
 unfold fO at h
 split at h
 ·cases h; exact ⟨m9,⟨hR.hr,hR.gr,hR.i,hR.o,hR.fr,hR.dr,hR.er⟩,fun e => dt⟩
 ·cases h
theorem Hj {p p' : Int} {M M' : PM} {ws : List ByteArray} (h : fJ p M ws = some (p',M')) (hR : PR M) : StO M p' M':=by
 unfold fJ at h
 split at h
 ·rcases h3 : nmV (wdx ws 1) with _ | v
  ·exact ib
  ·rw [h3] at h; cases h
   exact ⟨m9,⟨gF hR.hr (jy h3),hR.gr,hR.i,hR.o,hR.fr,hR.dr,hR.er⟩,fun e => dt⟩
 ·cases h
theorem Mq {l : ByteArray} {v : Int} {x : Int × Int} (h : gvV l v = some x) : 0 ≤ x.1 ∧ x.1 ≤ 255 ∧ 0 ≤ x.2 ∧ x.2 < 18446744073709551616:=by
 unfold gvV at h
 split at h
 ·split at h
  ·cases h; dsimp only; omega
  ·cases h
 ·split at h
  ·cases h; dsimp only; omega
  ·cases h
theorem GU {p p' : Int} {M M' : PM} {ws : List ByteArray} (h : bD p M ws = some (p',M')) (hR : PR M) : StO M p' M':=by
 unfold bD at h
 split at h
 ·rcases h3 : nmV (wdx ws 3) with _ | v
  ·exact ib
  ·rw [h3] at h
   simp only [Option.bind_some] at h
   rcases h4 : gvV (wdx ws 1) v with _ | x
   ·rw [h4] at h; cases h
   ·rw [h4] at h; cases h
    exact ⟨m9,⟨hR.hr,gF hR.gr (Mq h4),hR.i,hR.o,hR.fr,hR.dr,hR.er⟩,fun e => dt⟩
 ·cases h
theorem J9 {p p' : Int} {M M' : PM} {ws : List ByteArray} (h : iw p M ws = some (p',M')) (hR : PR M) : StO M p' M':=by
 unfold iw at h
 split at h
 ·rcases h3 : nmV (wdx ws 1) with _ | v
  ·exact ib
  ·rw [h3] at h
   simp only [Option.bind_some] at h
   rcases h4 : nmV (wdx ws 2) with _ | x
   ·rw [h4] at h; cases h
   ·rw [h4] at h; cases h
    exact ⟨by unfold psz; simp,⟨hR.hr,hR.gr,jy h3,jy h4,hR.fr,hR.dr,hR.er⟩,fun e => dt⟩
 ·cases h
theorem J1 {p p' : Int} {M M' : PM} {ws : List ByteArray} (h : gU p M ws = some (p',M')) (hR : PR M) : StO M p' M':=by
 unfold gU at h
 split at h
 ·rcases h3 : nmV (wdx ws 1) with _ | v
  ·exact ib
  ·rw [h3] at h; cases h
   exact ⟨m9,⟨hR.hr,hR.gr,hR.i,hR.o,gF hR.fr ⟨jy h3,fun y hy => by cases hy⟩,hR.dr,hR.er⟩,fun _ => ar⟩
 ·cases h
theorem zu : ∀ (l : List UInt8) (r : List Int),dY l = some r → r.length ≤ l.length ∧ ∀ b ∈ r,0 ≤ b ∧ b ≤ 255
 | [],r,h => by simp [dY] at h; subst h; simp
 | [_],r,h => by simp [dY] at h
 | a :: b :: l,r,h => by
  simp only [dY] at h
  split at h
  ·rename_i hd
   rcases hl : dY l with _ | t
   ·rw [hl] at h; cases h
   ·rw [hl] at h; cases h
    have ih:=zu l t hl;have h1:=lH a.toNat;have h2:=lH b.toNat
    refine ⟨aK,fun x hx => ?_⟩
    rcases List.mem_cons.1 hx with rfl | hx
    ·omega
    ·exact ih.2 x hx
  ·cases h
theorem KJ {ws : List ByteArray} (hz : ∀ x ∈ ws,x.size ≤ 2097152) (i : Nat) : (wdx ws i).size ≤ 2097152:=by
 unfold wdx
 rcases hx : ws[i]? with _ | x
 ·simp only [List.getD,hx,Option.getD_none]; decide
 ·simp only [List.getD,hx,Option.getD_some]; exact hz x (List.mem_of_getElem? hx)
theorem Lf {p p' : Int} {M M' : PM} {ws : List ByteArray} (h : iz p M ws = some (p',M')) (hR : PR M) (hz : ∀ x ∈ ws,x.size ≤ 2097152) : StO M p' M':=by
 unfold iz at h
 split at h
 ·rcases h3 : nmV (wdx ws 1) with _ | v
  ·exact ib
  ·rw [h3] at h
   simp only [Option.bind_some] at h
   rcases h4 : ml (wdx ws 2) with _ | x
   ·rw [h4] at h; cases h
   ·rw [h4] at h; cases h
    have h5:=zu _ _ h4;have h6:=KJ hz 2;have h7 : (wdx ws 2).data.toList.length = (wdx ws 2).size:=Array.length_toList
    exact ⟨m9,⟨hR.hr,hR.gr,hR.i,hR.o,hR.fr,gF hR.dr ⟨jy h3,by dsimp only; omega,h5.2⟩,hR.er⟩,fun e => dt⟩
 ·cases h
theorem J5 {p p' : Int} {M M' : PM} {ws : List ByteArray} (h : jt p M ws = some (p',M')) (hR : PR M) : StO M p' M':=by
 unfold jt at h
 split at h
 ·rcases h3 : nmV (wdx ws 2) with _ | v
  ·exact ib
  ·rw [h3] at h; cases h
   exact ⟨m9,⟨hR.hr,hR.gr,hR.i,hR.o,hR.fr,hR.dr,gF hR.er (jy h3)⟩,fun e => dt⟩
 ·cases h
theorem zE : ∀ (ws : List ByteArray) (l : List Int),cL ws = some l → l.length = ws.length ∧ ∀ z ∈ l,I64 z
 | [],l,h => by simp [cL] at h; subst h; simp
 | x :: r,l,h => by
  simp only [cL] at h
  rcases h3 : nmV x with _ | v
  ·exact ib
  ·rw [h3] at h
   simp only [Option.bind_some] at h
   rcases h4 : cL r with _ | t
   ·rw [h4] at h; cases h
   ·rw [h4] at h; cases h
    have ih:=zE r t h4
    refine ⟨by simp [ih.1],fun z hz => ?_⟩
    rcases List.mem_cons.1 hz with rfl | hz
    ·exact jy h3
    ·exact ih.2 z hz
theorem Kt {op : Int} {ws : List ByteArray} {y : PIn} (h : jm op ws = some y) (ho : 0 ≤ op ∧ op ≤ 255) (hn : ws.length ≤ 2097152) : 0 ≤ y.1 ∧ y.1 ≤ 255 ∧ I64 y.2.1 ∧ y.2.2.length ≤ 2097152 ∧ ∀ z ∈ y.2.2,I64 z:=by
 have z0 : I64 0:=by unfold I64; omega
 unfold jm at h
 split at h
 ·split at h
  ·cases h; exact ⟨ho.1,ho.2,z0,ar,fun z hz => by cases hz⟩
  ·cases h
 ·split at h
  ·rcases h4 : cL ws.tail with _ | t
   ·rw [h4] at h; cases h
   ·rw [h4] at h; cases h
    have:=zE _ _ h4
    refine ⟨ho.1,ho.2,z0,?_,this.2⟩;have h5:=this.1;rw [List.length_tail] at h5;dsimp only;omega
  ·split at h
   ·rcases h4 : nmV (wdx ws 1) with _ | t
    ·rw [h4] at h; cases h
    ·rw [h4] at h; cases h
     exact ⟨ho.1,ho.2,jy h4,ar,fun z hz => by cases hz⟩
   ·cases h
theorem Hb {fs : List PFn} (h : fs ≠ []) (y : PIn) : ∃ init f,fs = init ++ [f] ∧ oV fs y = init ++ [(f.1,f.2.1,f.2.2 ++ [y])]:=by
 refine ⟨fs.dropLast,fs.getLast h,(List.dropLast_concat_getLast h).symm,?_⟩;unfold oV;rw [List.getLast?_eq_some_getLast h]
theorem Hr {p p' : Int} {M M' : PM} {ws : List ByteArray} (h : b9 p M ws = some (p',M')) (hR : PR M) (hn : p = 6 → M.fns ≠ []) (hl : ws.length ≤ 2097152) : StO M p' M':=by
 unfold b9 at h
 split at h
 ·rename_i hc
  rcases h3 : jm (bh (wdx ws 0)).1 ws with _ | y
  ·exact ib
  ·rw [h3] at h; cases h
   have hy:=Kt h3 (cO _ hc.2) hl;obtain ⟨init,f,e1,e2⟩:=Hb (hn ae) y;rw [e2];have hf:=hR.fr;rw [e1] at hf
   refine ⟨?_,⟨hR.hr,hR.gr,hR.i,hR.o,?_,hR.dr,hR.er⟩,fun _ => ar⟩
   ·unfold psz;rw [e1]
    simp
    omega
   ·have h1:=hf f ar
    exact gF (fun x hx => hf x jb) ⟨h1.1,gF h1.2 hy⟩
 ·cases h
theorem GM {p p' : Int} {M M' : PM} {ws : List ByteArray} (h : bG p M ws = some (p',M')) (hR : PR M) (hn : p = 6 → M.fns ≠ []) (hl : ws.length ≤ 2097152) (hz : ∀ x ∈ ws,x.size ≤ 2097152) : StO M p' M':=by
 unfold bG at h
 split at h
 ·exact II h hR
 ·split at h
  ·exact Ko h hR
  ·split at h
   ·exact Hj h hR
   ·split at h
    ·exact GU h hR
    ·split at h
     ·exact J9 h hR
     ·split at h
      ·exact J1 h hR
      ·split at h
       ·exact Lf h hR hz
       ·split at h
        ·exact J5 h hR
        ·exact Hr h hR hn hl
theorem GV {p p' : Int} {M M' : PM} {s : ByteArray} (h : cM p M s = some (p',M')) (hR : PR M) (hn : p = 6 → M.fns ≠ []) (hs : s.size ≤ 2097152) : StO M p' M':=by
 unfold cM at h
 split at h
 ·cases h; exact ⟨ae,hR,hn⟩
 ·have:=oz s
  exact GM h hR hn ae (fun x hx => by have:=this.2 x hx; omega)
def bA (ln p : Int) (M : PM) : List ByteArray → Int × Option (Int × PM)
 | [] => (ln,some (p,M))
 | s :: r => match cM p M s with
  | none => (ln + 1,none)
  | some (p',M') => bA (ln + 1) p' M' r
def pm0 : PM:=⟨[],[],[],0,0,[],[],[]⟩
theorem Lp : PR pm0:=⟨(fun x hx => jf),(fun x hx => jf),by unfold I64 pm0; dsimp only; omega,by unfold I64 pm0; dsimp only; omega,(fun x hx => jf),(fun x hx => jf),(fun x hx => jf)⟩
theorem lZ {α : Type} {w : World} {base e k n c : Nat} {a : Option Addr} {l : List α} (gc : α → List Value) (hk : ∀ x,(gc x).length = k) (hp : 0 < k) (h : w.ownsRow base e k (.slice a n c) n (l.flatMap gc)) :
  l.length = n ∧ (n = 0 ∨ ∃ b off,a = some ⟨b,off,none⟩ ∧ ∀ (j : Nat) x,l[j]? = some x → ∀ q y,(gc x)[q]? = some y → w.cell? ⟨b,off + j * k + q,none⟩ = some y):=by
 refine ⟨dG hk hp h,?_⟩
 rcases h.2 with ⟨h0,hz⟩ | ⟨b,cp,cur,h1,h2,h3,h4,h5,h6,h7⟩
 ·exact .inl hz
 ·injection h1 with e1 e2 e3
  refine .inr ⟨b,0,e1,fun j x hj q y hq => ?_⟩
  have hq' : q < k:=by have:=(List.getElem?_eq_some_iff.1 hq).1; rw [hk] at this; exact this
  have hx : (l.flatMap gc)[j * k + q]? = some y:=by rw [wE gc k hk l j q hq',hj]; exact hq
  have hlt : j * k + q < n * k:=by have:=(List.getElem?_eq_some_iff.1 hx).1; rw [h.1] at this; exact this
  subst e1
  have:=h.cellAt (j * k + q) hlt
  rw [hx] at this
  rw [show 0 + j * k + q = j * k + q by omega]
  exact this
theorem iK {w : World} {base e k n c R g : Nat} {a : Option Addr} {xs : List Value} (h : w.ownsRow base e k (.slice a n c) n xs) (hR : w.heap.size ≤ R) (hg : w.heap.size ≤ g) : Far w R g a:=by
 intro b off cc hb
 obtain ⟨_,cur,hc⟩:=gA h (b:=b) (by rw [hb]; rfl)
 have:=aP hc
 omega
theorem EU {w : World} {base e k n c : Nat} {a : Option Addr} {xs : List Value} (h : w.ownsRow base e k (.slice a n c) n xs) : n ≤ c:=by
 rcases h.2 with ⟨h0,hz⟩ | ⟨b,cp,cur,h1,h2,h3,h4,h5,h6,h7⟩
 ·omega
 ·injection h1 with e1 e2 e3
  omega
theorem RQ.mok {base R0 : Nat} {mp : Value} {m : MM} {ln pt : Int} {w : World} (h : RQ base R0 mp m ln pt w) (hp : PR (pl m)) (R g : Nat) (hR : w.heap.size ≤ R) (hg : w.heap.size ≤ g) : MOk w R g m:=by
 have ht:=lZ lW (fun _ => rfl) aq h.rt
 have hh:=lZ gT (fun _ => rfl) aq h.rh
 have hgl:=lZ dR (fun _ => rfl) aq h.rg
 have hf:=lZ dv (fun _ => rfl) aq h.rf
 have hd:=lZ lO (fun _ => rfl) aq h.rd
 have he:=lZ lY (fun _ => rfl) aq h.re
 refine ⟨⟨ht.1,ht.2.imp id ?_⟩,iK h.rt hR hg,⟨hh.1,hh.2.imp id ?_⟩,iK h.rh hR hg,?_,⟨hgl.1,hgl.2.imp id ?_⟩,iK h.rg hR hg,?_,hp.i.1,by have:=hp.i.2; show m.fi < _; unfold pl at this; dsimp only at this; omega,hp.o.1,by have:=hp.o.2; unfold pl at this; dsimp only at this; omega,⟨hf.1,hf.2.imp id ?_⟩,iK h.rf hR hg,?_,⟨hd.1,hd.2.imp id ?_⟩,iK h.rd hR hg,?_,⟨he.1,he.2.imp id ?_⟩,iK h.re hR hg,?_⟩
 ·exact qX
 ·rintro ⟨b,off,ha,hc⟩
  exact ⟨b,off,ha,fun j x hj => by have:=hc j x hj 0 _ rfl; simpa using this⟩
 ·intro j x hj
  have:=hp.hr x (List.mem_of_getElem? hj)
  unfold I64 at this;omega
 ·exact q9
 ·intro j x hj;exact hp.gr x (List.mem_of_getElem? hj)
 ·exact q9
 ·intro j x hj;have hm:=List.mem_of_getElem? hj;have hx:=hp.fr (plF x) (List.mem_map.2 ⟨x,hm,rfl⟩);have hfo:=h.fo x hm
  have hco:=lZ dQ (fun _ => rfl) aq hfo.code
  have hx1 : I64 x.1:=hx.1;unfold I64 at hx1
  refine ⟨ae,⟨hco.1,hco.2.imp id ?_⟩,(iK hfo.code hR hg).nz _,fun i y hi => ?_⟩
  ·exact q9
  ·have hym:=List.mem_of_getElem? hi;have hy:=hx.2 (plI y) (List.mem_map.2 ⟨y,hym,rfl⟩)
   have hlo:=lZ gT (fun _ => rfl) aq (hfo.lab y hym)
   refine ⟨hy.1,hy.2.1,⟨hlo.1,EU (hfo.lab y hym),?_,fun z hz => hy.2.2.2.2 z hz,hlo.2.imp id ?_⟩,(iK (hfo.lab y hym) hR hg).nz _⟩
   ·have h1 : y.2.2.2.length ≤ 2097152:=hy.2.2.2.1;have h2:=hlo.1;omega
   ·rintro ⟨b,off,ha,hc⟩
    refine ⟨b,off,ha,fun j hj => ?_⟩
    have hl:=hlo.1
    have:=hc j (y.2.2.2[j]'(ae)) (aD _) 0 _ rfl
    exact yV
 ·exact qX
 ·intro j x hj;have hm:=List.mem_of_getElem? hj;have hx:=hp.dr (plD x) (List.mem_map.2 ⟨x,hm,rfl⟩);have hfo:=h.dd x hm
  have hco:=lZ p9 (fun _ => rfl) aq hfo
  have hx1 : I64 x.1:=hx.1;unfold I64 at hx1;refine ⟨ae,⟨hco.1,EU hfo,?_,hx.2.2,hco.2.imp id ?_⟩,(iK hfo hR hg).nz _⟩
  ·have h1 : x.2.2.length ≤ 2097152:=hx.2.1;have h2:=hco.1;omega
  ·rintro ⟨b,off,ha,hc⟩
   refine ⟨b,off,ha,fun j hj => ?_⟩
   have hl:=hco.1
   have:=hc j (x.2.2[j]'(ae)) (aD _) 0 _ rfl
   exact yV
 ·exact qX
 ·intro j x hj
  have:=hp.er x (List.mem_of_getElem? hj)
  unfold I64 at this;omega
end Go.Proofs.YtheefojaplnnoaaGreatDoor

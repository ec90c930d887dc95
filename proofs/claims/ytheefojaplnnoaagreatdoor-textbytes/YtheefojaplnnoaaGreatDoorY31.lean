/-
  Texts Pt Pu Pv Nc.
-/
import Derived.Lib.FieldsP
import Derived.Test.YtheefojaplnnoaaGreatDoorY00
import Derived.Test.YtheefojaplnnoaaGreatDoorY29
import Derived.Test.YtheefojaplnnoaaGreatDoorY30
set_option linter.unusedVariables false
set_option maxRecDepth 100000
set_option maxHeartbeats 16000000
namespace Go.Proofs.YtheefojaplnnoaaGreatDoor
open Go.RowKit
theorem Ak(s:ByteArray)(i:Nat):1≤(Utf8.decode s i).2:=by
 unfold Utf8.decode;dsimp only
 repeat' split
 all_goals simp
def Rs(s:ByteArray)(b:Nat)(acc:List (Nat×Nat)):Prop:=(∀x∈acc,x.1<x.2∧x.2≤s.size)∧(acc.map fun x=>x.2-x.1).sum≤b
theorem kT(p:Nat→Bool)(s:ByteArray):∀(f pos:Nat)(st:Option Nat)(acc:List (Nat×Nat)),Rs s (min (st.getD pos) s.size) acc→(∀a,st=some a→a<pos∧a<s.size) →
  Rs s s.size (Lib.closeSpans s (Lib.spansFromP p s f pos st acc))
 | 0,pos,st,acc,h,hs=>by
  unfold Lib.spansFromP;exact Gp
 | f+1,pos,st,acc,h,hs=>by
  unfold Lib.spansFromP;have hd:=Ak s pos
  by_cases hp:pos<s.size
  ·rw[if_pos hp]
   by_cases hb:p (Utf8.decode s pos).1=true
   ·rw[if_pos hb]
    cases st with
    | none =>
     refine kT p s f _ none acc ⟨h.1,?_⟩ (fun a e=>dS)
     have:=h.2
     simp only[Option.getD_none]at this ⊢
     omega
    | some a =>
     have ha:=hs a rfl
     refine kT p s f _ none _ ⟨fun x hx=>?_,?_⟩ (fun a e=>dS)
     ·rcases List.mem_append.1 hx with hx | hx
      ·exact h.1 x hx
      ·rw[List.mem_singleton]at hx;subst hx;exact⟨ha.1,Nat.le_of_lt hp⟩
     ·have:=h.2
      simp only[List.map_append,List.sum_append,List.map_cons,List.map_nil,List.sum_cons,List.sum_nil,Option.getD_none,Option.getD_some]at this ⊢
      omega
   ·rw[if_neg hb]
    cases st with
    | none =>
     refine kT p s f _ (some pos) acc ⟨h.1,?_⟩ (fun a e=>uE)
     have:=h.2
     simp only[Option.getD_none,Option.getD_some]at this ⊢
     omega
    | some a =>
     have ha:=hs a rfl
     exact kT p s f _ (some a) acc h (fun b e=>uE)
  ·rw[if_neg hp];exact Gp
theorem ext_size(s:ByteArray)(a b:Nat)(h:b≤s.size):(s.extract a b).size=b-a:=by
 simp
 omega
theorem GG:∀(l:List Nat),(∀x∈l,1≤x)→l.length≤l.sum
 | [],_=>by simp
 | x::l,h=>by
  have h1:=h x ar
  have h2:=GG l (fun y hy=>h y lO)
  simp only[List.length_cons,List.sum_cons]
  omega
theorem sP:∀(l:List Nat)(x:Nat),x∈l→x≤l.sum
 | [],x,h=>by cases h
 | y::l,x,h=>by
  rcases List.mem_cons.1 h with rfl | h
  ·simp
  ·have:=sP l x h
   simp only[List.sum_cons]
   omega
def aS(s:ByteArray):List ByteArray:=Lib.goFieldsP jZ s
theorem jn(s:ByteArray):(∀x∈aS s,1≤x.size)∧((aS s).map (·.size)).sum≤s.size:=by
 have h:=kT jZ s s.size 0 none [] ⟨(fun x hx=>lC),ar⟩ (fun a e=>dS)
 have hsz:∀x∈Lib.spansOfP jZ s,(s.extract x.1 x.2).size=x.2-x.1:=fun x hx=>ext_size s x.1 x.2 (h.1 x hx).2
 refine⟨fun x hx=>?_,?_⟩
 ·obtain⟨q,hq,rfl⟩:=List.mem_map.1 hx;have h1:=(h.1 q hq).1;have h2:=hsz q hq;omega
 ·have e:(aS s).map (·.size)=(Lib.spansOfP jZ s).map fun x=>x.2-x.1:=by
   unfold aS Lib.goFieldsP;rw[List.map_map]
   exact List.map_congr_left (fun x hx=>hsz x hx)
  rw[e];exact h.2
theorem sD(s:ByteArray):(aS s).length≤s.size∧∀x∈aS s,x.size≤s.size:=by
 obtain⟨h1,h2⟩:=jn s
 have h3:=GG ((aS s).map (·.size)) (fun x hx=>by obtain⟨q,hq,rfl⟩:=List.mem_map.1 hx; exact h1 q hq)
 rw[List.length_map]at h3
 refine⟨ae,fun x hx=>?_⟩
 have:=sP ((aS s).map (·.size)) x.size (List.mem_map.2 ⟨x,hx,rfl⟩)
 omega
theorem IJ:∀(l:List ByteArray),(Lib.join (l.map (·.data.toList)) [32]).length≤(l.map (·.size)).sum+l.length
 | []=>by simp[Lib.join]
 | x::r=>by
  have hj:∀(r:List ByteArray),(Lib.joinTail [32] (r.map (·.data.toList))).length=(r.map (·.size)).sum+r.length:=by
   intro r;exact Ju
  rw[List.map_cons,Lib.join_cons,List.length_append,hj];have e:x.data.toList.length=x.size:=Array.length_toList;rw[e]
  simp only[List.map_cons,List.sum_cons,List.length_cons]
  omega
theorem Gj(s:ByteArray):(dC (aS s).tail).size≤2*s.size:=by
 have h1:=IJ (aS s).tail;have h2:=jn s;have h3:=sD s
 have h4:((aS s).tail.map (·.size)).sum≤((aS s).map (·.size)).sum:=by
  cases aS s with
  | nil=>simp
  | cons x r=>simp
 have h5:(aS s).tail.length≤(aS s).length:=by rw[List.length_tail]; omega
 have e:(dC (aS s).tail).size=(Lib.join ((aS s).tail.map (·.data.toList)) [32]).length:=by simp[dC,ByteArray.size]
 omega
def bX(p:Int)(M:PM)(ws:List ByteArray):Option (Int×PM) :=
 if wdx ws 0=⟨#[102,108,97,103,111,110]⟩ then jB p M ws else
 if wdx ws 0=⟨#[116,121,112,101]⟩ then gN p M ws else
 if wdx ws 0=⟨#[101,120,116,101,114,110]⟩ then gL p M ws else
 if wdx ws 0=⟨#[103,108,111,98,97,108]⟩ then bR p M ws else
 if wdx ws 0=⟨#[109,101,109,111,114,121]⟩ then js p M ws else
 if wdx ws 0=⟨#[102,117,110,99]⟩ then iZ p M ws else
 if wdx ws 0=⟨#[100,97,116,97]⟩ then jt p M ws else
 if wdx ws 0=⟨#[101,120,112,111,114,116]⟩ then kN p M ws else
 cO p M ws
def fb(x:ByteArray):Int:=((x.data.toList.headD 0).toNat:Int)
def dB(p:Int)(M:PM)(s:ByteArray):Option (Int×PM):=if aS s=[]∨fb (wdx (aS s) 0)=59 then some (p,M) else bX p M (aS s)
theorem RB:∀args w,(callFunc 108 args).run Tryz.prog w=.ok (.enter 108 args) w:=fun args w=>jx
theorem Rl:∀args w,(callFunc 109 args).run Tryz.prog w=.ok (.enter 109 args) w:=fun args w=>jx
theorem RR:∀args w,(callFunc 110 args).run Tryz.prog w=.ok (.enter 110 args) w:=fun args w=>jx
theorem RA:∀args w,(callFunc 111 args).run Tryz.prog w=.ok (.enter 111 args) w:=fun args w=>jx
theorem Rv:∀args w,(callFunc 112 args).run Tryz.prog w=.ok (.enter 112 args) w:=fun args w=>jx
theorem RO:∀args w,(callFunc 113 args).run Tryz.prog w=.ok (.enter 113 args) w:=fun args w=>jx
theorem RD:∀args w,(callFunc 114 args).run Tryz.prog w=.ok (.enter 114 args) w:=fun args w=>jx
theorem Sk:∀args w,(callFunc 115 args).run Tryz.prog w=.ok (.enter 115 args) w:=fun args w=>jx
theorem Hw{B base R A n c:Nat}{mp:Value}{m:MM}{ln pt:Int}{w:World}{ws:List ByteArray}(h:RQ base R mp m ln pt w)(hw:Wds w A n c ws)(hA:base≤A)(hE:cw B w)(hBR:B≤R)(hps:psz (pl m)≤2097152)(hc:c=n)(hn0:1≤n)(hj:(dC ws.tail).size≤8388608)(hne:pt=6→m.fns≠[]) :
  (∃i f,Instr.findNow .string (.string (wdx ws 0)) kdE.toList 0=some (some (i,.func (.func f) #[] #[]))∧(∀args w,(callFunc f args).run Tryz.prog w=.ok (.enter f args) w)∧Calls Tryz.prog f #[.pointer (some ⟨R,0,none⟩),.slice (some ⟨A,0,none⟩) n c] w (LnP base R mp ln w (bX pt (pl m) ws)))
  ∨ (Instr.findNow .string (.string (wdx ws 0)) kdE.toList 0=some none∧Calls Tryz.prog 119 #[.pointer (some ⟨R,0,none⟩),.slice (some ⟨A,0,none⟩) n c] w (LnP base R mp ln w (bX pt (pl m) ws))):=by
 by_cases h0:wdx ws 0=⟨#[102,108,97,103,111,110]⟩
 ·refine .inl ⟨_,_,(by rw[h0]; exact Au),RB,?_⟩
  have e:bX pt (pl m) ws=jB pt (pl m) ws:=by
   unfold bX;rw[if_pos h0]
  rw[e];exact Mn h hw
 by_cases h1:wdx ws 0=⟨#[116,121,112,101]⟩
 ·refine .inl ⟨_,_,(by rw[h1]; exact JD),Rl,?_⟩
  have e:bX pt (pl m) ws=gN pt (pl m) ws:=by
   unfold bX;rw[if_neg h0,if_pos h1]
  rw[e];exact Qx h hw hA hE hBR hps hc hn0 hj
 by_cases h2:wdx ws 0=⟨#[101,120,116,101,114,110]⟩
 ·refine .inl ⟨_,_,(by rw[h2]; exact A3),RR,?_⟩
  have e:bX pt (pl m) ws=gL pt (pl m) ws:=by
   unfold bX;rw[if_neg h0,if_neg h1,if_pos h2]
  rw[e];exact LD h hw hA hE hBR hps
 by_cases h3:wdx ws 0=⟨#[103,108,111,98,97,108]⟩
 ·refine .inl ⟨_,_,(by rw[h3]; exact A0),RA,?_⟩
  have e:bX pt (pl m) ws=bR pt (pl m) ws:=by
   unfold bX;rw[if_neg h0,if_neg h1,if_neg h2,if_pos h3]
  rw[e];exact MV h hw hA hE hBR hps
 by_cases h4:wdx ws 0=⟨#[109,101,109,111,114,121]⟩
 ·refine .inl ⟨_,_,(by rw[h4]; exact AB),Rv,?_⟩
  have e:bX pt (pl m) ws=js pt (pl m) ws:=by
   unfold bX;rw[if_neg h0,if_neg h1,if_neg h2,if_neg h3,if_pos h4]
  rw[e];exact QR h hw hA hE hBR hps
 by_cases h5:wdx ws 0=⟨#[102,117,110,99]⟩
 ·refine .inl ⟨_,_,(by rw[h5]; exact Jj),RO,?_⟩
  have e:bX pt (pl m) ws=iZ pt (pl m) ws:=by
   unfold bX;rw[if_neg h0,if_neg h1,if_neg h2,if_neg h3,if_neg h4,if_pos h5]
  rw[e];exact Qr h hw hA hE hBR hps
 by_cases h6:wdx ws 0=⟨#[100,97,116,97]⟩
 ·refine .inl ⟨_,_,(by rw[h6]; exact Jl),RD,?_⟩
  have e:bX pt (pl m) ws=jt pt (pl m) ws:=by
   unfold bX;rw[if_neg h0,if_neg h1,if_neg h2,if_neg h3,if_neg h4,if_neg h5,if_pos h6]
  rw[e];exact Qb h hw hA hE hBR hps
 by_cases h7:wdx ws 0=⟨#[101,120,112,111,114,116]⟩
 ·refine .inl ⟨_,_,(by rw[h7]; exact Ah),Sk,?_⟩
  have e:bX pt (pl m) ws=kN pt (pl m) ws:=by
   unfold bX;rw[if_neg h0,if_neg h1,if_neg h2,if_neg h3,if_neg h4,if_neg h5,if_neg h6,if_pos h7]
  rw[e];exact OZ h hw hA hE hBR hps
 refine .inr ⟨JU _ h0 h1 h2 h3 h4 h5 h6 h7,?_⟩
 have e:bX pt (pl m) ws=cO pt (pl m) ws:=by
  unfold bX;rw[if_neg h0,if_neg h1,if_neg h2,if_neg h3,if_neg h4,if_neg h5,if_neg h6,if_neg h7]
 rw[e];exact KZ h hw hA hE hBR hps hc hn0 hne
theorem Mz(w:World):PredAtRunes Tryz.prog 118 #[] jZ w:=fun W x _ _=>(JV x W).mono fun e w' ⟨he,hw⟩=>⟨he,0,by rw[hw]; rfl⟩
theorem Sq:∀args w,(callFunc 118 args).run Tryz.prog w=.ok (.enter 118 args) w:=fun args w=>jx
theorem pk(s:ByteArray)(w:World)(hs:s.size≤2097152):Calls Tryz.prog 117 #[.string s,.func (.func 118) #[] #[]] w fun e w'=>∃A,e=.returned (.slice (some ⟨A,0,none⟩) (aS s).length (aS s).length)∧w.heap.size≤A∧Wds w' A (aS s).length (aS s).length (aS s)∧Below w.heap.size w w':=by
 refine(Tryz.strings_FieldsFunc_runes 118 #[] Sq jZ s w ae (Mz w)).mono ?_;rintro e w' ⟨A,rfl,hA,ho,hb⟩
 refine⟨A,rfl,hA,⟨rfl,?_,Nat.le_refl _,fun j x hx=>?_,fun x hx=>?_,?_⟩,hb⟩
 ·obtain⟨_,cur,hc⟩:=iK ho (b:=A) rfl;exact aJ hc
 ·have hj:j<(aS s).length:=(List.getElem?_eq_some_iff.1 hx).1
  have:=ho.cellAt j (by have:(Lib.goFieldsP jZ s).length=(aS s).length:=rfl; omega)
  rw[Nat.zero_add,this,List.getElem?_map];have hx':(Lib.goFieldsP jZ s)[j]? =some x:=hx;rw[hx'];rfl
 ·have:=(sD s).2 x hx
  omega
 ·have:=(sD s).1
  omega
theorem Ob(x:ByteArray)(h:1≤x.size):fb x=((x[0].toNat:Nat):Int):=by
 cases x with | mk a =>
 cases a with | mk l =>
 cases l with
 | nil=>simp[ByteArray.size]at h
 | cons b l=>rfl
theorem Lh{B base R KB:Nat}{m:MM}{ln pt:Int}{w:World}(s:ByteArray)(h:RQ base R (.map (some KB)) m ln pt w)(hs:s.size≤2097152)(hl:0≤ln∧ln≤2097152)(h0:aS s=[]) :
  Calls Tryz.prog 56 #[.pointer (some ⟨R,0,none⟩),.string s] w (LnP base R (.map (some KB)) (ln+1) w (dB pt (pl m) s)):=by
 have e:dB pt (pl m) s=some (pt,pl m):=by unfold dB; rw[if_pos (.inl h0)]
 rw[e];obtain⟨hl0,hl1⟩:=hl;have hi:IntKind.i64.wrap (ln+1)=ln+1:=IntWalk.i64_in _ ae;have q1:=hid (h.line (ln+1));have k1:=hid (KR.set base R 9 w (.int .i64 (ln+1)));have c9:=h.cells 9;have f9:=h.free 9
 simp[kC]at c9
 have HF:=hid (pk s (w.setCell ⟨R,9,none⟩ (.int .i64 (ln+1))) hs);rw[h0]at HF
 simp only[List.length_nil]at HF
 clear h e h0
 go_enter Tryz.func56,Tryz.ntmps56
 go_wp2_with fail;refine HF.out.mono ?_;clear HF;generalize w.setCell ⟨R,9,none⟩ (.int .i64 (ln+1))=w1 at *;rintro e w2⟨A,rfl,hA,hd,hb⟩;have HD:=hid hd;have HB:=hid hb;clear hd hb;exact Eg
theorem Kn{B base R KB:Nat}{m:MM}{ln pt:Int}{w:World}(s:ByteArray)(h:RQ base R (.map (some KB)) m ln pt w)(hs:s.size≤2097152)(hl:0≤ln∧ln≤2097152)(h0:aS s≠[])(h1:fb (wdx (aS s) 0)=59) :
  Calls Tryz.prog 56 #[.pointer (some ⟨R,0,none⟩),.string s] w (LnP base R (.map (some KB)) (ln+1) w (dB pt (pl m) s)):=by
 have e:dB pt (pl m) s=some (pt,pl m):=by unfold dB; rw[if_pos (.inr h1)]
 rw[e];obtain⟨hl0,hl1⟩:=hl;have hi:IntKind.i64.wrap (ln+1)=ln+1:=IntWalk.i64_in _ ae
 obtain⟨x,r,hx⟩:∃x r,aS s=x::r:=by cases hw:aS s with | nil=>exact absurd hw h0 | cons x r=>exact⟨x,r,rfl⟩
 have hx1:1≤x.size:=(jn s).1 x (by rw[hx]; simp)
 have ex:wdx (aS s) 0=x:=mY;have hr:(((r.length:Int)+1)==0)=false:=aI;rw[ex,Ob x hx1]at h1
 have h2:(((x[0].toNat:Nat):Int)==59)=true:=by rw[h1]; rfl
 have q1:=hid (h.line (ln+1));have k1:=hid (KR.set base R 9 w (.int .i64 (ln+1)));have c9:=h.cells 9;have f9:=h.free 9
 simp[kC]at c9
 have HF:=hid (pk s (w.setCell ⟨R,9,none⟩ (.int .i64 (ln+1))) hs);clear h e h0
 go_enter Tryz.func56,Tryz.ntmps56
 go_wp2_with fail;refine HF.out.mono ?_;clear HF;generalize w.setCell ⟨R,9,none⟩ (.int .i64 (ln+1))=w1 at *;rintro e w2⟨A,rfl,hA,hd,hb⟩;have HD:=hid hd;have HB:=hid hb;have c0:w2.cell? ⟨A,0,none⟩=some (.string x):=hd.at_ 0 x mY;have hn:(aS s).length=r.length+1:=mY;rw[hn];clear hd hb hx hn;exact Eg
theorem L9{B base R KB:Nat}{m:MM}{ln pt:Int}{w:World}(s:ByteArray)(h:RQ base R (.map (some KB)) m ln pt w)(hs:s.size≤2097152)(hl:0≤ln∧ln≤2097152)(h0:aS s≠[])(h1:fb (wdx (aS s) 0)≠59)(hE:cw B w)(hBR:B≤R)(hps:psz (pl m)≤2097152)(hne:pt=6→m.fns≠[])(hKB:w.heap[KB]? =some (.map kdE 8))(hKR:KB≠R)(hKb:KB<base) :
  Calls Tryz.prog 56 #[.pointer (some ⟨R,0,none⟩),.string s] w (LnP base R (.map (some KB)) (ln+1) w (dB pt (pl m) s)):=by
 have e:dB pt (pl m) s=bX pt (pl m) (aS s):=by unfold dB; rw[if_neg (fun x=>x.elim h0 h1)]
 rw[e];obtain⟨hl0,hl1⟩:=hl;have hi:IntKind.i64.wrap (ln+1)=ln+1:=IntWalk.i64_in _ ae
 obtain⟨x,r,hx⟩:∃x r,aS s=x::r:=by cases hw:aS s with | nil=>exact absurd hw h0 | cons x r=>exact⟨x,r,rfl⟩
 have hx1:1≤x.size:=(jn s).1 x (by rw[hx]; simp)
 have ex:wdx (aS s) 0=x:=mY;have hr:(((r.length:Int)+1)==0)=false:=aI;rw[ex,Ob x hx1]at h1;have h2:(((x[0].toNat:Nat):Int)==59)=false:=rx;have hn:(aS s).length=r.length+1:=mY
 have hfew:r.length≤2097152:=by have:=(sD s).1; omega
 have hj:=Gj s;have hE1:=hid (hE.later ((KR.set base R 9 w (.int .i64 (ln+1))).below hBR bM hE.bw))
 have hM1:=hid (((KR.set base R 9 w (.int .i64 (ln+1))).block KB (aJ hKB) (fun e=>by rcases e with e | e; exact hKR e; omega)).trans hKB)
 have q1:=hid (h.line (ln+1));have k1:=hid (KR.set base R 9 w (.int .i64 (ln+1)));have c9:=h.cells 9;have f9:=h.free 9
 simp[kC]at c9
 have HF:=hid (pk s (w.setCell ⟨R,9,none⟩ (.int .i64 (ln+1))) hs);clear h e h0 hE hKB
 go_enter Tryz.func56,Tryz.ntmps56
 go_wp2_with fail;refine HF.out.mono ?_;clear HF;generalize w.setCell ⟨R,9,none⟩ (.int .i64 (ln+1))=w1 at *;rintro e w2⟨A,rfl,hA,hd,hb⟩;have HD:=hid hd;have HB:=hid hb;have c0:w2.cell? ⟨A,0,none⟩=some (.string x):=hd.at_ 0 x mY;have hq2:=q1.out.later hb;have hE2:=hE1.out.later (hb.mono hE1.out.bw);have hM2:=au hb hM1.out;have hk2:=k1.out.trans (KR.later hb);have hA2:base≤A:=Nat.le_trans q1.out.bw hA;rw[hn]at hd;rw[hn];clear hb HD HB q1 k1 hE1 hM1 c9 f9;have b3:Below w2.heap.size w2 w2.drew:=(Below.refl _ _).drew;have d3:=hd.later b3;have q3:=hq2.later b3;have e3:=hE2.later (b3.mono hE2.bw);have m3:=au b3 hM2;have k3:=hk2.trans (KR.later b3)
 have c3:w2.drew.cell? ⟨A,0,none⟩=some (.string x):=by rw[← c0]; rfl
 have g3:w2.drew.cell? ⟨R,0,none⟩=some (.map (some KB)):=(q3.cells 0).trans rfl;have ew:=ex;have way:=hid (Hw q3 d3 hA2 e3 hBR hps rfl ae ae hne);rw[ex]at way;have HK:=hid k3;have M3:=hid m3;clear hd hq2 hE2 hM2 hk2 b3 d3 q3 e3 m3 k3;generalize hwd:w2.drew=wd at *;have HW:=hid hwd;clear hwd;clear ex hx
 rcases way.out with ⟨i,f,hf,eg,hc⟩ | ⟨hf,hc⟩
 ·have hlk:=GF wd KB i f x M3.out hf;exact Oc
 ·have hlk:=EX wd KB x M3.out hf;exact Oc
theorem QJ{B base R KB:Nat}{m:MM}{ln pt:Int}{w:World}(s:ByteArray)(h:RQ base R (.map (some KB)) m ln pt w)(hs:s.size≤2097152)(hl:0≤ln∧ln≤2097152)(hE:cw B w)(hBR:B≤R)(hps:psz (pl m)≤2097152)(hne:pt=6→m.fns≠[])(hKB:w.heap[KB]? =some (.map kdE 8))(hKR:KB≠R)(hKb:KB<base) :
  Calls Tryz.prog 56 #[.pointer (some ⟨R,0,none⟩),.string s] w (LnP base R (.map (some KB)) (ln+1) w (dB pt (pl m) s)):=by
 by_cases h0:aS s=[]
 ·exact Lh (B:=B) s h hs hl h0
 ·by_cases h1:fb (wdx (aS s) 0)=59
  ·exact Kn (B:=B) s h hs hl h0 h1
  ·exact L9 s h hs hl h0 h1 hE hBR hps hne hKB hKR hKb
def I64(x:Int):Prop:=-9223372036854775808≤x∧x≤9223372036854775807
structure PR(M:PM):Prop where
 hr:∀x∈M.hosts,I64 x
 gr:∀x∈M.globals,0≤x.1∧x.1≤255∧0≤x.2.2∧x.2.2<18446744073709551616
 i:I64 M.fi
 o:I64 M.mo
 fr:∀x∈M.fns,I64 x.1∧∀y∈x.2.2,0≤y.1∧y.1≤255∧I64 y.2.1∧y.2.2.length≤2097152∧∀z∈y.2.2,I64 z
 dr:∀x∈M.data,I64 x.1∧x.2.length≤2097152∧∀b∈x.2,0≤b∧b≤255
 er:∀x∈M.exps,I64 x.2
theorem li{x:ByteArray}{v:Int}(h:nmV x=some v):I64 v:=jd (rz h).1
theorem iN{α:Type}{l:List α}{y:α}{Q:α→Prop}(h:∀x∈l,Q x)(hy:Q y):∀x∈l++[y],Q x:=by
 intro x hx
 rcases List.mem_append.1 hx with hx | hx
 ·exact h x hx
 ·rw[List.mem_singleton]at hx; subst hx; exact hy
structure StO(M:PM)(p':Int)(M':PM):Prop where
 sz:psz M'≤psz M+1
 pr:PR M'
 ne:p'=6→M'.fns≠[]
theorem Nv{p p':Int}{M M':PM}{ws:List ByteArray}(h:jB p M ws=some (p',M'))(hR:PR M):StO M p' M':=by
 unfold jB at h
 split at h
 ·cases h; exact⟨ae,hR,fun e=>dS⟩
 ·cases h
theorem OA{p p':Int}{M M':PM}{ws:List ByteArray}(h:gN p M ws=some (p',M'))(hR:PR M):StO M p' M':=by
 unfold gN at h
 split at h
 ·cases h; exact⟨pS,⟨hR.hr,hR.gr,hR.i,hR.o,hR.fr,hR.dr,hR.er⟩,fun e=>dS⟩
 ·cases h
theorem M0{p p':Int}{M M':PM}{ws:List ByteArray}(h:gL p M ws=some (p',M'))(hR:PR M):StO M p' M':=by
 unfold gL at h
 split at h
 ·rcases h3:nmV (wdx ws 1) with _ | v
  ·exact jk
  ·rw[h3]at h; cases h
   exact⟨pS,⟨iN hR.hr (li h3),hR.gr,hR.i,hR.o,hR.fr,hR.dr,hR.er⟩,fun e=>dS⟩
 ·cases h
theorem RX{l:ByteArray}{v:Int}{x:Int×Int}(h:gvV l v=some x):0≤x.1∧x.1≤255∧0≤x.2∧x.2<18446744073709551616:=by
 unfold gvV at h
 split at h
 ·split at h
  ·cases h; dsimp only; omega
  ·cases h
 ·split at h
  ·cases h; dsimp only; omega
  ·cases h
theorem LN{p p':Int}{M M':PM}{ws:List ByteArray}(h:bR p M ws=some (p',M'))(hR:PR M):StO M p' M':=by
 unfold bR at h
 split at h
 ·rcases h3:nmV (wdx ws 3) with _ | v
  ·exact jk
  ·rw[h3]at h
   simp only[Option.bind_some]at h
   rcases h4:gvV (wdx ws 1) v with _ | x
   ·rw[h4]at h; cases h
   ·rw[h4]at h; cases h
    exact⟨pS,⟨hR.hr,iN hR.gr (RX h4),hR.i,hR.o,hR.fr,hR.dr,hR.er⟩,fun e=>dS⟩
 ·cases h
theorem OO{p p':Int}{M M':PM}{ws:List ByteArray}(h:js p M ws=some (p',M'))(hR:PR M):StO M p' M':=by
 unfold js at h
 split at h
 ·rcases h3:nmV (wdx ws 1) with _ | v
  ·exact jk
  ·rw[h3]at h
   simp only[Option.bind_some]at h
   rcases h4:nmV (wdx ws 2) with _ | x
   ·rw[h4]at h; cases h
   ·rw[h4]at h; cases h
    exact⟨by unfold psz; simp,⟨hR.hr,hR.gr,li h3,li h4,hR.fr,hR.dr,hR.er⟩,fun e=>dS⟩
 ·cases h
theorem QF{p p':Int}{M M':PM}{ws:List ByteArray}(h:iZ p M ws=some (p',M'))(hR:PR M):StO M p' M':=by
 unfold iZ at h
 split at h
 ·rcases h3:nmV (wdx ws 1) with _ | v
  ·exact jk
  ·rw[h3]at h; cases h
   exact⟨pS,⟨hR.hr,hR.gr,hR.i,hR.o,iN hR.fr ⟨li h3,fun y hy=>jy⟩,hR.dr,hR.er⟩,fun _=>ar⟩
 ·cases h
theorem Bb:∀(l:List UInt8)(r:List Int),fA l=some r→r.length≤l.length∧∀b∈r,0≤b∧b≤255
 | [],r,h=>by simp[fA]at h; subst h; simp
 | [_],r,h=>by simp[fA]at h
 | a::b::l,r,h=>by
  simp only[fA]at h
  split at h
  ·rename_i hd
   rcases hl:fA l with _ | t
   ·rw[hl]at h; cases h
   ·rw[hl]at h; cases h
    have ih:=Bb l t hl;have h1:=oa a.toNat;have h2:=oa b.toNat
    refine⟨aI,fun x hx=>?_⟩
    rcases List.mem_cons.1 hx with rfl | hx
    ·omega
    ·exact ih.2 x hx
  ·cases h
theorem OT{ws:List ByteArray}(hz:∀x∈ws,x.size≤2097152)(i:Nat):(wdx ws i).size≤2097152:=by
 unfold wdx
 rcases hx:ws[i]? with _ | x
 ·simp only[List.getD,hx,Option.getD_none]; decide
 ·simp only[List.getD,hx,Option.getD_some]; exact hz x (List.mem_of_getElem? hx)
theorem Pz{p p':Int}{M M':PM}{ws:List ByteArray}(h:jt p M ws=some (p',M'))(hR:PR M)(hz:∀x∈ws,x.size≤2097152):StO M p' M':=by
 unfold jt at h
 split at h
 ·rcases h3:nmV (wdx ws 1) with _ | v
  ·exact jk
  ·rw[h3]at h
   simp only[Option.bind_some]at h
   rcases h4:nQ (wdx ws 2) with _ | x
   ·rw[h4]at h; cases h
   ·rw[h4]at h; cases h
    have h5:=Bb _ _ h4;have h6:=OT hz 2;have h7:(wdx ws 2).data.toList.length=(wdx ws 2).size:=Array.length_toList
    exact⟨pS,⟨hR.hr,hR.gr,hR.i,hR.o,hR.fr,iN hR.dr ⟨li h3,by dsimp only; omega,h5.2⟩,hR.er⟩,fun e=>dS⟩
 ·cases h
theorem Qj{p p':Int}{M M':PM}{ws:List ByteArray}(h:kN p M ws=some (p',M'))(hR:PR M):StO M p' M':=by
 unfold kN at h
 split at h
 ·rcases h3:nmV (wdx ws 2) with _ | v
  ·exact jk
  ·rw[h3]at h; cases h
   exact⟨pS,⟨hR.hr,hR.gr,hR.i,hR.o,hR.fr,hR.dr,iN hR.er (li h3)⟩,fun e=>dS⟩
 ·cases h
theorem CP:∀(ws:List ByteArray)(l:List Int),dm ws=some l→l.length=ws.length∧∀z∈l,I64 z
 | [],l,h=>by simp[dm]at h; subst h; simp
 | x::r,l,h=>by
  simp only[dm]at h
  rcases h3:nmV x with _ | v
  ·exact jk
  ·rw[h3]at h
   simp only[Option.bind_some]at h
   rcases h4:dm r with _ | t
   ·rw[h4]at h; cases h
   ·rw[h4]at h; cases h
    have ih:=CP r t h4
    refine⟨by simp[ih.1],fun z hz=>?_⟩
    rcases List.mem_cons.1 hz with rfl | hz
    ·exact li h3
    ·exact ih.2 z hz
theorem O1{op:Int}{ws:List ByteArray}{y:PIn}(h:jP op ws=some y)(ho:0≤op∧op≤255)(hn:ws.length≤2097152):0≤y.1∧y.1≤255∧I64 y.2.1∧y.2.2.length≤2097152∧∀z∈y.2.2,I64 z:=by
 have z0:I64 0:=by unfold I64; omega
 unfold jP at h
 split at h
 ·split at h
  ·cases h; exact⟨ho.1,ho.2,z0,ar,fun z hz=>by cases hz⟩
  ·cases h
 ·split at h
  ·rcases h4:dm ws.tail with _ | t
   ·rw[h4]at h; cases h
   ·rw[h4]at h; cases h
    have:=CP _ _ h4
    refine⟨ho.1,ho.2,z0,?_,this.2⟩;have h5:=this.1;rw[List.length_tail]at h5;dsimp only;omega
  ·split at h
   ·rcases h4:nmV (wdx ws 1) with _ | t
    ·rw[h4]at h; cases h
    ·rw[h4]at h; cases h
     exact⟨ho.1,ho.2,li h4,ar,fun z hz=>by cases hz⟩
   ·cases h
theorem MD{fs:List PFn}(h:fs≠[])(y:PIn):∃init f,fs=init++[f]∧su fs y=init++[(f.1,f.2.1,f.2.2++[y])]:=by
 refine⟨fs.dropLast,fs.getLast h,(List.dropLast_concat_getLast h).symm,?_⟩;unfold su;rw[List.getLast?_eq_some_getLast h]
theorem Nt{p p':Int}{M M':PM}{ws:List ByteArray}(h:cO p M ws=some (p',M'))(hR:PR M)(hn:p=6→M.fns≠[])(hl:ws.length≤2097152):StO M p' M':=by
 unfold cO at h
 split at h
 ·rename_i hc
  rcases h3:jP (bC (wdx ws 0)).1 ws with _ | y
  ·exact jk
  ·rw[h3]at h; cases h
   have hy:=O1 h3 (dG _ hc.2) hl;obtain⟨init,f,e1,e2⟩:=MD (hn ae) y;rw[e2];have hf:=hR.fr;rw[e1]at hf
   refine⟨?_,⟨hR.hr,hR.gr,hR.i,hR.o,?_,hR.dr,hR.er⟩,fun _=>ar⟩
   ·unfold psz;rw[e1]
    simp
    omega
   ·have h1:=hf f ar
    exact iN (fun x hx=>hf x fZ) ⟨h1.1,iN h1.2 hy⟩
 ·cases h
theorem Lg{p p':Int}{M M':PM}{ws:List ByteArray}(h:bX p M ws=some (p',M'))(hR:PR M)(hn:p=6→M.fns≠[])(hl:ws.length≤2097152)(hz:∀x∈ws,x.size≤2097152):StO M p' M':=by
 unfold bX at h
 split at h
 ·exact Nv h hR
 ·split at h
  ·exact OA h hR
  ·split at h
   ·exact M0 h hR
   ·split at h
    ·exact LN h hR
    ·split at h
     ·exact OO h hR
     ·split at h
      ·exact QF h hR
      ·split at h
       ·exact Pz h hR hz
       ·split at h
        ·exact Qj h hR
        ·exact Nt h hR hn hl
theorem Mm{p p':Int}{M M':PM}{s:ByteArray}(h:dB p M s=some (p',M'))(hR:PR M)(hn:p=6→M.fns≠[])(hs:s.size≤2097152):StO M p' M':=by
 unfold dB at h
 split at h
 ·cases h; exact⟨ae,hR,hn⟩
 ·have:=sD s
  exact Lg h hR hn ae (fun x hx=>by have:=this.2 x hx; omega)
def bT(ln p:Int)(M:PM):List ByteArray→Int×Option (Int×PM)
 | []=>(ln,some (p,M))
 | s::r=>match dB p M s with
  | none=>(ln+1,none)
  | some (p',M')=>bT (ln+1) p' M' r
def pm0:PM:=⟨[],[],[],0,0,[],[],[]⟩
theorem P6:PR pm0:=⟨(fun x hx=>lC),(fun x hx=>lC),by unfold I64 pm0; dsimp only; omega,by unfold I64 pm0; dsimp only; omega,(fun x hx=>lC),(fun x hx=>lC),(fun x hx=>lC)⟩
end Go.Proofs.YtheefojaplnnoaaGreatDoor

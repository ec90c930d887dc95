/-
  Texts NOa NPg Vc Vd.
-/
import Derived.Below
import Derived.BigQuiet
import Derived.ChangeArms
import Derived.ChangeOld
import Derived.Deep.DeepHandedRow
import Derived.Deep.QuietTactic
import Derived.Deep.RegionHeld
import Derived.Deep.RegionHeld3
import Derived.Deep.RegionWith
import Derived.Deep.Strs
import Derived.KernelRfl
import Derived.LaidMore
import Derived.Lay
import Derived.Lib.Bytealg
import Derived.OpenShut
import Derived.OrdersHeld
import Derived.ProofKit
import Derived.RangeFuncBox
import Derived.RowKit
import Derived.ShutString
import Derived.SizedLaws
import Derived.WalkKit
import Derived.WalkLawsBesides
import Derived.WalkSpells
import Derived.Test.YtkdldbfbldkkcaaGreatDoorM00
import Derived.Test.YtkdldbfbldkkcaaGreatDoorM03
import Derived.Test.YtkdldbfbldkkcaaGreatDoorM17
set_option linter.unusedVariables false
set_option maxRecDepth 100000
set_option maxHeartbeats 16000000
namespace Go.Proofs.YtkdldbfbldkkcaaGreatDoor
open Go.RowKit Go.ChangeShapes Go.WideShapes Go.ChangeAt
def frC (x : FrM) : List Value:=[.int .i64 x.1,.int .i64 x.2.1,.slice x.2.2.1.1.1 x.2.2.1.1.2.1 x.2.2.1.1.2.2,.slice x.2.2.2.1.1 x.2.2.2.1.2.1 x.2.2.2.1.2.2]
def pgC (x : PgM) : List Value:=[.slice x.1.1 x.1.2.1 x.1.2.2]
def BY (s : StM) : Prop:=∀ x ∈ s.ps,∀ z ∈ x.2,0 ≤ z ∧ z ≤ 255
theorem oK {n : Int} (h : (Lit.int .i64 n).wf = true) : sL n:=⟨(bounds_i64 h).1,by have:=(bounds_i64 h).2; omega⟩
def u6 (a : Int) : Prop:=0 ≤ a ∧ a < 18446744073709551616
structure jw {α : Type} (W : World) (c : Nat) (F : α → List Value) (a : Option Addr) (n cap : Nat) (xs : List α) : Prop where
 cap_ : n ≤ cap
 big : n ≤ 140737488355328
 len : xs.length = n
 at_ : n = 0 ∨ ∃ b off,a = some ⟨b,off,none⟩ ∧ ∀ j x,xs[j]? = some x → ∀ i v,(F x)[i]? = some v → W.cell? ⟨b,off + j * c + i,none⟩ = some v
section
variable {H : Type} {enc : TypeId × Value → H} {W : World}
theorem dU {α : Type} {t e : TypeId} {c B : Nat} (F : α → List Value) (G : α → Prop) (ht : Tryz.prog.underlying t = some (.slice e)) (hc : Tryz.prog.cellsOf e = c) (h1 : 1 ≤ c) (hB : Tryz.prog.bytesOf e = B) (hB1 : 1 ≤ B)
  (hel : ∀ fuel ys y,DataW.trod enc Tryz.prog W 0 (fun _ => true) true fuel e ys = some y → (∀ n ∈ y.1.weights Tryz.prog e,n ≤ reachBytes) → ∃ a : α,ys = F a ∧ G a)
  {fuel : Nat} {cs : List Value} {x : DataW H × List MemPlace} (h : DataW.trod enc Tryz.prog W 0 (fun _ => true) true fuel t cs = some x) (hw : ∀ n ∈ x.1.weights Tryz.prog t,n ≤ reachBytes) :
  ∃ (a : Option Addr) (n cap : Nat) (xs : List α),cs = [.slice a n cap] ∧ jw W c F a n cap xs ∧ ∀ (j : Nat) x,xs[j]? = some x → G x:=by
 rcases DataW.trod_slice ht h with ⟨hcs,_⟩ | ⟨x,len,cap,elems,rest,n,_,hcs,hx,hb,hl,hm,hlen,hem,hsp,hns⟩
 ·exact ⟨none,0,0,[],hcs,⟨Nat.le_refl _,ae,rfl,.inl rfl⟩,fun j x hj => by simp at hj⟩
 ·have hd:=congrArg Prod.fst hx
  simp only at hd
  rw [hd] at hw
  have hbound : len ≤ 140737488355328:=by
   exact Ha
  by_cases h0 : len = 0
  ·subst h0
   exact ⟨_,0,cap,[],hcs,⟨Nat.zero_le _,ae,rfl,.inl rfl⟩,fun j x hj => by simp at hj⟩
  obtain ⟨b,off,spot⟩:=x
  have hadd0 : ∀ (y : Addr),y.add 0 = y:=by intro y; cases y with | mk p q r => cases r <;> simp [Addr.add]
  have hstep : ∀ j,j < len → ∃ y : α,(F y).length = c ∧ G y ∧ ∀ i,i < c → W.cell? (((⟨b,off,spot⟩ : Addr).add (j * c)).add i) = (F y)[i]?:=by
   exact Hh
  have hspot : spot = none:=by
   exact FV
  subst hspot;have hplain : ∀ (p q i : Nat),(⟨p,q,none⟩ : Addr).add i = ⟨p,q + i,none⟩:=Ej
  obtain ⟨xs,hxl,hxs⟩:=qf (P:=fun j (y : α) => (F y).length = c ∧ G y ∧ ∀ i,i < c → W.cell? ⟨b,off + j * c + i,none⟩ = (F y)[i]?) len (fun j hj => by
   obtain ⟨y,q1,q2,q3⟩:=hstep j hj
   exact ⟨y,q1,q2,fun i hi => FM⟩)
  refine ⟨_,len,cap,xs,hcs,⟨hl,hbound,hxl,.inr ⟨b,off,rfl,fun j x hj i v hv => ?_⟩⟩,fun j x hj => (hxs j x hj).2.1⟩
  ·exact Bi
theorem Kk : Tryz.prog.cellsOf 49 = 1:=ak
theorem cX5 : Tryz.prog.cellsOf 5 = 1:=ak
theorem cX3 : Tryz.prog.cellsOf 3 = 1:=ak
theorem cX2 : Tryz.prog.cellsOf 2 = 1:=ak
theorem MX : Tryz.prog.cellsOf 33 = 1:=ak
theorem Oi : Tryz.prog.cellsOf 30 = 1:=ak
theorem Jm : Tryz.prog.cellsOf 31 = 1:=ak
theorem Ow : Tryz.prog.cellsOf 32 = 1:=ak
theorem OG : Tryz.prog.cellsOf 42 = 1:=ak
theorem Nc : Tryz.prog.cellsOf 54 = 4:=ak
theorem OE : Tryz.prog.cellsOf 35 = 8:=ak
theorem Je : Tryz.prog.bytesOf 49 = 8:=ak
theorem yX5 : Tryz.prog.bytesOf 5 = 1:=ak
theorem OA : Tryz.prog.bytesOf 42 = 24:=ak
theorem Og : Tryz.prog.bytesOf 54 = 64:=ak
abbrev FW (z : Int) : List Value:=[Value.int .u64 z]
abbrev FY (z : Int) : List Value:=[Value.int .u8 z]
theorem tV {fuel : Nat} {cs : List Value} {x : DataW H × List MemPlace} (h : DataW.trod enc Tryz.prog W 0 (fun _ => true) true fuel 49 cs = some x) (hw : ∀ n ∈ x.1.weights Tryz.prog 49,n ≤ reachBytes) : ∃ a : Int,cs = FW a ∧ u6 a:=by
 obtain ⟨n,h1,_,wf⟩:=DataW.trod_int Tryz.underlying49 h
 have:=bounds_u64 wf
 exact ⟨n,h1,ae,ae⟩
theorem MR {fuel : Nat} {cs : List Value} {x : DataW H × List MemPlace} (h : DataW.trod enc Tryz.prog W 0 (fun _ => true) true fuel 5 cs = some x) (hw : ∀ n ∈ x.1.weights Tryz.prog 5,n ≤ reachBytes) : ∃ a : Int,cs = FY a ∧ (0 ≤ a ∧ a ≤ 255):=by
 exact AZ
def GPg (W : World) (x : PgM) : Prop:=jw W 1 FY x.1.1 x.1.2.1 x.1.2.2 x.2 ∧ ∀ (j : Nat) z,x.2[j]? = some z → 0 ≤ z ∧ z ≤ 255
theorem J7 {fuel : Nat} {cs : List Value} {x : DataW H × List MemPlace} (h : DataW.trod enc Tryz.prog W 0 (fun _ => true) true fuel 42 cs = some x) (hw : ∀ n ∈ x.1.weights Tryz.prog 42,n ≤ reachBytes) : ∃ a : PgM,cs = pgC a ∧ GPg W a:=by
 obtain ⟨la,ln,lc,ls,h0,at0,el0⟩:=dU (c:=1) (B:=1) FY (fun (a : Int) => 0 ≤ a ∧ a ≤ 255) Tryz.underlying42 cX5 ax yX5 ax (fun _ _ _ h1 h2 => MR h1 h2) h hw
 exact ⟨((la,ln,lc),ls),h0,at0,el0⟩
def GFr (W : World) (x : FrM) : Prop:=jw W 1 FW x.2.2.1.1.1 x.2.2.1.1.2.1 x.2.2.1.1.2.2 x.2.2.1.2 ∧ jw W 1 FW x.2.2.2.1.1 x.2.2.2.1.2.1 x.2.2.2.1.2.2 x.2.2.2.2 ∧ (∀ (j : Nat) z,x.2.2.1.2[j]? = some z → u6 z) ∧ (∀ (j : Nat) z,x.2.2.2.2[j]? = some z → u6 z) ∧ sL x.1 ∧ sL x.2.1
theorem I6 {fuel : Nat} {cs : List Value} {x : DataW H × List MemPlace} (h : DataW.trod enc Tryz.prog W 0 (fun _ => true) true fuel 54 cs = some x) (hw : ∀ n ∈ x.1.weights Tryz.prog 54,n ≤ reachBytes) : ∃ a : FrM,cs = frC a ∧ GFr W a:=by
 obtain ⟨ys,m,_,hx,hl,hyl,hel⟩:=DataW.trod_struct Tryz.underlying54 h;rw [Nc] at hl;have hd:=congrArg Prod.fst hx
 simp only at hd
 rw [hd] at hw
 match ys,hyl with
 | [y0,y1,y2,y3],_ =>
  match cs,hl with
  | [x0,x1,x2,x3],_ =>
   have e0 : DataW.trod enc Tryz.prog W 0 (fun _ => true) true m 3 (([x0,x1,x2,x3].drop 0).take (Tryz.prog.cellsOf 3)) = some y0:=hel 0 _ rfl
   have w0:=aH (j:=0) (u:=3) (y:=y0) Tryz.underlying54 rfl rfl hw;rw [cX3] at e0;obtain ⟨p,h0,_,wf_p⟩:=DataW.trod_int Tryz.underlying3 e0
   have e1 : DataW.trod enc Tryz.prog W 0 (fun _ => true) true m 3 (([x0,x1,x2,x3].drop 1).take (Tryz.prog.cellsOf 3)) = some y1:=hel 1 _ rfl
   have w1:=aH (j:=1) (u:=3) (y:=y1) Tryz.underlying54 rfl rfl hw;rw [cX3] at e1;obtain ⟨q,h1,_,wf_q⟩:=DataW.trod_int Tryz.underlying3 e1
   have e2 : DataW.trod enc Tryz.prog W 0 (fun _ => true) true m 31 (([x0,x1,x2,x3].drop 2).take (Tryz.prog.cellsOf 31)) = some y2:=hel 2 _ rfl
   have w2:=aH (j:=2) (u:=31) (y:=y2) Tryz.underlying54 rfl rfl hw;rw [Jm] at e2
   obtain ⟨la,ln,lc,ls,h2,at2,el2⟩:=dU (c:=1) (B:=8) FW u6 Tryz.underlying31 Kk ax Je ax (fun _ _ _ h1 h2 => tV h1 h2) e2 w2
   have e3 : DataW.trod enc Tryz.prog W 0 (fun _ => true) true m 31 (([x0,x1,x2,x3].drop 3).take (Tryz.prog.cellsOf 31)) = some y3:=hel 3 _ rfl
   have w3:=aH (j:=3) (u:=31) (y:=y3) Tryz.underlying54 rfl rfl hw;rw [Jm] at e3
   obtain ⟨ka,kn,kc,ks,h3,at3,el3⟩:=dU (c:=1) (B:=8) FW u6 Tryz.underlying31 Kk ax Je ax (fun _ _ _ h1 h2 => tV h1 h2) e3 w3
   simp at h0 h1 h2 h3
   subst h0 h1 h2 h3;exact ⟨(p,q,((la,ln,lc),ls),((ka,kn,kc),ks)),rfl,at2,at3,el2,el3,oK wf_p,oK wf_q⟩
structure od (W : World) (s : StM) : Prop where
 f : jw W 4 frC s.fa s.fn s.fc s.fs
 fg : ∀ (j : Nat) x,s.fs[j]? = some x → GFr W x
 g : jw W 1 FW s.ga s.gn s.gc s.gs
 p : jw W 1 pgC s.pa s.pn s.pc s.ps
 pg : ∀ (j : Nat) x,s.ps[j]? = some x → GPg W x
 r : jw W 1 FW s.ra s.rn s.rc s.rs
 gr : ∀ (j : Nat) z,s.gs[j]? = some z → u6 z
 rr : ∀ (j : Nat) z,s.rs[j]? = some z → u6 z
 us : sL s.us
 rep : sL s.rep
 en : -128 ≤ s.en ∧ s.en ≤ 127
 tr : -128 ≤ s.tr ∧ s.tr ≤ 127
theorem JO {fuel : Nat} {cs : List Value} {x : DataW H × List MemPlace} (h : DataW.trod enc Tryz.prog W 0 (fun _ => true) true fuel 35 cs = some x) (hw : ∀ n ∈ x.1.weights Tryz.prog 35,n ≤ reachBytes) : ∃ s : StM,cs = (bW s).toList ∧ od W s:=by
 obtain ⟨ys,m,_,hx,hl,hyl,hel⟩:=DataW.trod_struct Tryz.underlying35 h;rw [OE] at hl;have hd:=congrArg Prod.fst hx
 simp only at hd
 rw [hd] at hw
 match ys,hyl with
 | [y0,y1,y2,y3,y4,y5,y6,y7],_ =>
  match cs,hl with
  | [x0,x1,x2,x3,x4,x5,x6,x7],_ =>
   have e0 : DataW.trod enc Tryz.prog W 0 (fun _ => true) true m 30 (([x0,x1,x2,x3,x4,x5,x6,x7].drop 0).take (Tryz.prog.cellsOf 30)) = some y0:=hel 0 _ rfl
   have w0:=aH (j:=0) (u:=30) (y:=y0) Tryz.underlying35 rfl rfl hw;rw [Oi] at e0
   obtain ⟨fa,fn,fc,fs,h0,at0,el0⟩:=dU (c:=4) (B:=64) frC (GFr W) Tryz.underlying30 Nc ax Og ax (fun _ _ _ h1 h2 => I6 h1 h2) e0 w0
   have e1 : DataW.trod enc Tryz.prog W 0 (fun _ => true) true m 31 (([x0,x1,x2,x3,x4,x5,x6,x7].drop 1).take (Tryz.prog.cellsOf 31)) = some y1:=hel 1 _ rfl
   have w1:=aH (j:=1) (u:=31) (y:=y1) Tryz.underlying35 rfl rfl hw;rw [Jm] at e1
   obtain ⟨ga,gn,gc,gs,h1,at1,el1⟩:=dU (c:=1) (B:=8) FW u6 Tryz.underlying31 Kk ax Je ax (fun _ _ _ h1 h2 => tV h1 h2) e1 w1
   have e2 : DataW.trod enc Tryz.prog W 0 (fun _ => true) true m 32 (([x0,x1,x2,x3,x4,x5,x6,x7].drop 2).take (Tryz.prog.cellsOf 32)) = some y2:=hel 2 _ rfl
   have w2:=aH (j:=2) (u:=32) (y:=y2) Tryz.underlying35 rfl rfl hw;rw [Ow] at e2
   obtain ⟨pa,pn,pc,ps,h2,at2,el2⟩:=dU (c:=1) (B:=24) pgC (GPg W) Tryz.underlying32 OG ax OA ax (fun _ _ _ h1 h2 => J7 h1 h2) e2 w2
   have e3 : DataW.trod enc Tryz.prog W 0 (fun _ => true) true m 3 (([x0,x1,x2,x3,x4,x5,x6,x7].drop 3).take (Tryz.prog.cellsOf 3)) = some y3:=hel 3 _ rfl
   have w3:=aH (j:=3) (u:=3) (y:=y3) Tryz.underlying35 rfl rfl hw;rw [cX3] at e3;obtain ⟨rep,h3,_,wf_rep⟩:=DataW.trod_int Tryz.underlying3 e3
   have e4 : DataW.trod enc Tryz.prog W 0 (fun _ => true) true m 33 (([x0,x1,x2,x3,x4,x5,x6,x7].drop 4).take (Tryz.prog.cellsOf 33)) = some y4:=hel 4 _ rfl
   have w4:=aH (j:=4) (u:=33) (y:=y4) Tryz.underlying35 rfl rfl hw;rw [MX] at e4;obtain ⟨en,h4,_,wf_en⟩:=DataW.trod_int Tryz.underlying33 e4
   have e5 : DataW.trod enc Tryz.prog W 0 (fun _ => true) true m 31 (([x0,x1,x2,x3,x4,x5,x6,x7].drop 5).take (Tryz.prog.cellsOf 31)) = some y5:=hel 5 _ rfl
   have w5:=aH (j:=5) (u:=31) (y:=y5) Tryz.underlying35 rfl rfl hw;rw [Jm] at e5
   obtain ⟨ra,rn,rc,rs,h5,at5,el5⟩:=dU (c:=1) (B:=8) FW u6 Tryz.underlying31 Kk ax Je ax (fun _ _ _ h1 h2 => tV h1 h2) e5 w5
   have e6 : DataW.trod enc Tryz.prog W 0 (fun _ => true) true m 33 (([x0,x1,x2,x3,x4,x5,x6,x7].drop 6).take (Tryz.prog.cellsOf 33)) = some y6:=hel 6 _ rfl
   have w6:=aH (j:=6) (u:=33) (y:=y6) Tryz.underlying35 rfl rfl hw;rw [MX] at e6;obtain ⟨tr,h6,_,wf_tr⟩:=DataW.trod_int Tryz.underlying33 e6
   have e7 : DataW.trod enc Tryz.prog W 0 (fun _ => true) true m 2 (([x0,x1,x2,x3,x4,x5,x6,x7].drop 7).take (Tryz.prog.cellsOf 2)) = some y7:=hel 7 _ rfl
   have w7:=aH (j:=7) (u:=2) (y:=y7) Tryz.underlying35 rfl rfl hw;rw [cX2] at e7;obtain ⟨us,h7,_,wf_us⟩:=DataW.trod_int Tryz.underlying2 e7
   simp at h0 h1 h2 h3 h4 h5 h6 h7
   subst h0 h1 h2 h3 h4 h5 h6 h7;exact ⟨⟨fa,fn,fc,fs,ga,gn,gc,gs,pa,pn,pc,ps,rep,en,ra,rn,rc,rs,tr,us⟩,rfl,at0,el0,at1,at2,el2,at5,el1,el5,oK wf_us,oK wf_rep,bounds_i8 wf_en,bounds_i8 wf_tr⟩
theorem jw.si {a : Option Addr} {n cap : Nat} {xs : List Int} (h : jw W 1 FW a n cap xs) : SI .u64 W a n xs :=
 ⟨h.len,h.at_.imp id fun ⟨b,off,e,hc⟩ => ⟨b,off,e,fun j x hj => uJ⟩⟩
theorem jw.sy {a : Option Addr} {n cap : Nat} {xs : List Int} (h : jw W 1 FY a n cap xs) : SI .u8 W a n xs :=
 ⟨h.len,h.at_.imp id fun ⟨b,off,e,hc⟩ => ⟨b,off,e,fun j x hj => uJ⟩⟩
theorem od.read {s : StM} (h : od W s) : SSt W s:=by
 refine ⟨⟨h.f.len,h.f.at_.imp id fun ⟨b,off,e,hc⟩ => ⟨b,off,e,fun j x hj => ⟨hc j x hj 0 _ rfl,hc j x hj 1 _ rfl,hc j x hj 2 _ rfl,hc j x hj 3 _ rfl⟩⟩,fun x hx => ?_⟩,h.g.si,⟨h.p.len,h.p.at_.imp id fun ⟨b,off,e,hc⟩ => ⟨b,off,e,fun j x hj => uJ⟩,fun x hx => ?_⟩,h.r.si⟩
 ·obtain ⟨j,hj⟩:=List.getElem?_of_mem hx;exact ⟨(h.fg j x hj).1.si,(h.fg j x hj).2.1.si⟩
 ·obtain ⟨j,hj⟩:=List.getElem?_of_mem hx;exact (h.pg j x hj).1.sy
theorem od.sm {s : StM} (h : od W s) : SM s:=by
 refine ⟨h.f.big,h.g.big,h.p.big,h.r.big,fun x hx => ?_,fun x hx => ?_⟩
 ·obtain ⟨j,hj⟩:=List.getElem?_of_mem hx;exact ⟨(h.fg j x hj).1.big,(h.fg j x hj).2.1.big⟩
 ·obtain ⟨j,hj⟩:=List.getElem?_of_mem hx;exact (h.pg j x hj).1.big
theorem od.by_ {s : StM} (h : od W s) : BY s:=fun x hx z hz => by
 obtain ⟨j,hj⟩:=List.getElem?_of_mem hx;obtain ⟨i,hi⟩:=List.getElem?_of_mem hz;exact (h.pg j x hj).2 i z hi
theorem ye {base : Nat} {v : Value} {d : DataW H} {ps : List MemPlace} (hval : Value.okWide Tryz.prog W .any base 35 v) (h : DataW.Trod enc Tryz.prog W 0 (fun _ => true) true 35 v d ps) (hw : ∀ n ∈ d.weights Tryz.prog 35,n ≤ reachBytes) :
  ∃ s : StM,v = .agg (bW s) ∧ od W s:=by
 obtain ⟨cs,rfl,hsz⟩:=okWide_struct Tryz.underlying35 hval;obtain ⟨fuel,hf⟩:=h;obtain ⟨s,hcs,hr⟩:=JO hf hw
 have ec' : cs = bW s:=by
  apply Array.toList_inj.1
  exact hcs
 exact ⟨s,by rw [ec'],hr⟩
theorem od.sr {s : StM} (h : od W s) : SR s:=by
 refine ⟨h.en,h.tr,fun v hv => ?_,fun v hv => ?_,fun f hf => ⟨fun v hv => ?_,fun v hv => ?_⟩,fun p hp => ?_⟩
 ·obtain ⟨j,hj⟩:=List.getElem?_of_mem hv; exact h.rr j v hj
 ·obtain ⟨j,hj⟩:=List.getElem?_of_mem hv; exact h.gr j v hj
 ·obtain ⟨i,hi⟩:=List.getElem?_of_mem hf;obtain ⟨j,hj⟩:=List.getElem?_of_mem hv;exact (h.fg i f hi).2.2.1 j v hj
 ·obtain ⟨i,hi⟩:=List.getElem?_of_mem hf;obtain ⟨j,hj⟩:=List.getElem?_of_mem hv;exact (h.fg i f hi).2.2.2.1 j v hj
 ·obtain ⟨i,hi⟩:=List.getElem?_of_mem hp;exact (h.pg i p hi).1.cap_
theorem od.rg {s : StM} (h : od W s) : RgS s:=by
 have hs:=h.sr
 refine ⟨h.us,h.rep,hs.rs,hs.gs,fun f hf => ?_,fun p hp => ?_⟩
 ·obtain ⟨i,hi⟩:=List.getElem?_of_mem hf;exact ⟨hs.fs f hf,(h.fg i f hi).2.2.2.2.1,(h.fg i f hi).2.2.2.2.2⟩
 ·obtain ⟨i,hi⟩:=List.getElem?_of_mem hp;exact (h.pg i p hi).1.len
end
open Go.RowKit
def U64 (v : Int) : Prop:=0 ≤ v ∧ v < 18446744073709551616
theorem ip {v most : Int} (bs : List Int) (h : v ≤ most) : bz v most (bs,false) = (bs ++ aw v,false):=by unfold bz ed; simp [h,fE]
theorem Bw {v least most : Int} (bs : List Int) (h : least ≤ v ∧ v ≤ most) : fY v least most (bs,false) = (bs ++ [v],false):=by unfold fY ed; simp [h.1,h.2,fE]
theorem qI {α : Type} {f : α → WS → WS} {enc : α → List Int} : ∀ (l : List α) (bs : List Int),(∀ x ∈ l,∀ bs,f x (bs,false) = (bs ++ enc x,false)) → aV f l (bs,false) = (bs ++ l.flatMap enc,false)
 | [],bs,_ => by simp [aV]
 | x :: l,bs,h => by
  show aV f l (f x (bs,false)) = _
  rw [h x au,qI l _ (fun y hy => h y (by simp [hy]))]
  simp
theorem iI {α : Type} {f : α → WS → WS} {enc : α → List Int} (l : List α) (most : Int) (bs : List Int) (hl : (l.length : Int) ≤ most) (h : ∀ x ∈ l,∀ bs,f x (bs,false) = (bs ++ enc x,false)) : bw f l most (bs,false) = (bs ++ (aw l.length ++ l.flatMap enc),false):=by
 unfold bw;rw [ip bs hl,qI l _ h,List.append_assoc]
theorem oP (l : List Int) (h : ∀ v ∈ l,0 ≤ v ∧ v < 18446744073709551616) : ∀ x ∈ l,∀ bs,dM x (bs,false) = (bs ++ aw x,false):=fun x hx bs => ip bs (by have:=(h x hx).2; omega)
theorem MI {x : FrM} (bs : List Int) (h : u64 x.1 ≤ 127 ∧ u64 x.2.1 ≤ 2047 ∧ x.2.2.1.2.length ≤ 64 ∧ x.2.2.2.2.length ≤ 256) (hr : FrR x) : frW x (bs,false) = (bs ++ gW x,false):=by
 unfold frW;rw [ip bs h.1,ip _ h.2.1,iI (enc:=aw) _ 64 _ ae (oP _ hr.1),iI (enc:=aw) _ 256 _ ae (oP _ hr.2)]
 simp [gW,bQ]
theorem IL {ps : List PgM} (h : ∀ p ∈ ps,p.1.2.1 = 4096) (bs : List Int) : aV pgA ps (bs,false) = (bs,false):=by
 have:=qI (f:=pgA) (enc:=fun _ => []) ps bs (fun x hx b => by unfold pgA ed; simp [h x hx])
 rw [this]
 simp
theorem Dd {ps : List PgM} (hn : ps.length ≤ 64) (h : ∀ p ∈ ps,p.1.2.1 = 4096) (bs : List Int) : dN ps (bs,false) = (bs ++ ey ps,false):=by
 unfold dN
 rw [ip bs ae,IL h,iI (enc:=fF ps) (idx ps) _ _ (by have:=iU ps ps.length; unfold idx; omega) (fun k hk b => by
  obtain ⟨i,y,rfl,hi,hy,_⟩:=j5 hk;unfold pgK;rw [ip b ae]
  simp [fE,fF])]
 simp [ey]
theorem NI {x : StM} (h : OkS x) (hr : RgS x) : wrV x = (mgc ++ encS x,false):=by
 unfold wrV stW
 rw [Bw _ h.en,Bw _ h.tr,ip _ h.us,ip _ h.rep,iI (enc:=aw) _ 8 _ (by have:=h.rs; omega) (oP _ hr.rs),iI (enc:=aw) _ 64 _ (by have:=h.gs; omega) (oP _ hr.gs),Dd h.ps h.pl,iI (enc:=gW) _ 64 _ (by have:=h.fs; omega) (fun f hf b => MI b (h.fl f hf) (hr.fs f hf).1)]
 simp [encS,bQ,ez]
theorem Bg : ∀ (bl : List Nat) (ps : List (List Int)),bl.length = ps.length → (List.zipWith (fun b l => (((some ⟨b,0,none⟩,4096,4096),l) : PgM)) bl ps).map (fun p => p.2) = ps
 | [],[],_ => rfl
 | b :: bl,l :: ps,h => by
  rw [List.zipWith_cons_cons,List.map_cons,Bg bl ps qa]
 | [],l :: ps,h => by simp at h
 | b :: bl,[],h => ei
theorem LI {p : StP} {B5 B6 B7 : Nat} {bl : List Nat} {B8 : Nat} {ys : List FrM} (h1 : bl.length = p.ps.length) (h2 : ys.map plF = p.fs) : plS (mkS p B5 B6 B7 bl B8 ys) = p:=by
 unfold plS
 show (⟨p.en,p.tr,p.us,p.rep,p.rs,p.gs,(List.zipWith (fun b l => (((some ⟨b,0,none⟩,4096,4096),l) : PgM)) bl p.ps).map (fun p => p.2),ys.map plF⟩ : StP) = p
 rw [Bg bl p.ps h1,h2]
theorem Nf {s : StM} (h : SC s) (hb : BY s) : SB s :=
 ⟨fun x hx => ⟨by have:=(h.fb x hx).1; omega,by have:=(h.fb x hx).2; omega⟩,fun x hx => ⟨by have:=h.pb x hx; omega,hb x hx⟩,by have:=h.f; omega,by have:=h.g; omega,by have:=h.p; omega,by have:=h.r; omega⟩
theorem ED : ∀ (f : Nat) (v : Int),0 ≤ v → v < 2 * 128 ^ f → ∀ z ∈ uv f v,0 ≤ z ∧ z ≤ 255
 | 0,v,h0,h1,z,hz => by
  have:=List.mem_singleton.1 hz
  simp at h1
  omega
 | f + 1,v,h0,h1,z,hz => by
  unfold uv at hz
  by_cases h : v < 128
  ·rw [if_pos h] at hz
   have:=List.mem_singleton.1 hz
   omega
  ·rw [if_neg h] at hz
   rcases List.mem_cons.1 hz with rfl | hz
   ·omega
   ·refine ED f (v / 128) ae ?_ z hz;rw [Int.pow_succ] at h1;omega
theorem gX {v : Int} (h : U64 v) : ∀ z ∈ aw v,0 ≤ z ∧ z ≤ 255:=ED 9 v h.1 (by rw [show (2 : Int) * 128 ^ 9 = 18446744073709551616 from by decide]; exact h.2)
theorem lI {l : List Int} (hl : l.length < 1000) (h : ∀ v ∈ l,U64 v) : ∀ z ∈ bQ l,0 ≤ z ∧ z ≤ 255:=fun z hz => by
 unfold bQ at hz
 rcases List.mem_append.1 hz with hz | hz
 ·exact gX ⟨ae,ae⟩ z hz
 ·obtain ⟨v,hv,hz⟩:=List.mem_flatMap.1 hz;exact gX (h v hv) z hz
theorem MJ {s : StM} (h : (wrV s).2 = false) (gs : RgS s) (ys : BY s) : ∀ z ∈ (wrV s).1,0 ≤ z ∧ z ≤ 255:=by
 have a:=ul h
 have e1 : (wrV s).1 = mgc ++ encS s:=by show (stW s (mgc,false)).1 = _; rw [a.2]
 rw [e1];intro z hz
 rcases List.mem_append.1 hz with hz | hz
 ·simp only [mgc,List.mem_cons,List.not_mem_nil,or_false] at hz
  omega
 unfold encS at hz
 simp only [List.mem_append,List.mem_singleton] at hz
 have u:=fun v => gX (v:=u64 v) (dv v)
 have o:=a.1
 rcases hz with ((((((hz | hz) | hz) | hz) | hz) | hz) | hz) | hz
 ·have:=o.en; omega
 ·have:=o.tr; omega
 ·exact u _ z hz
 ·exact u _ z hz
 ·exact lI (by have:=o.rs; omega) gs.rs z hz
 ·exact lI (by have:=o.gs; omega) gs.gs z hz
 ·unfold ey at hz
  rcases List.mem_append.1 hz with hz | hz
  ·rcases List.mem_append.1 hz with hz | hz
   ·exact gX ⟨ae,by have:=o.ps; omega⟩ z hz
   ·exact gX ⟨ae,by have:=iU s.ps s.ps.length; have:=o.ps; unfold idx; omega⟩ z hz
  ·obtain ⟨k,hk,hz⟩:=List.mem_flatMap.1 hz;obtain ⟨i,y,rfl,hi,hy,_⟩:=j5 hk;unfold fF at hz
   rcases List.mem_append.1 hz with hz | hz
   ·exact gX ⟨ae,by have:=o.ps; omega⟩ z hz
   ·rw [Int.toNat_natCast,hy] at hz;exact ys y (List.mem_of_getElem? hy) z hz
 ·unfold ez at hz
  rcases List.mem_append.1 hz with hz | hz
  ·exact gX ⟨ae,by have:=o.fs; omega⟩ z hz
  ·obtain ⟨f,hf,hz⟩:=List.mem_flatMap.1 hz;have hl:=o.fl f hf;have hr:=(gs.fs f hf).1;unfold gW at hz
   simp only [List.mem_append] at hz
   rcases hz with ((hz | hz) | hz) | hz
   ·exact u _ z hz
   ·exact u _ z hz
   ·exact lI ae hr.1 z hz
   ·exact lI ae hr.2 z hz
theorem vB (s : StM) (h : (wrV s).2 = false) (gs : RgS s) : 5 ≤ (wrV s).1.length ∧ (wrV s).1.length ≤ 524288:=by
 refine ⟨?_,?_⟩
 ·have a:=ul h
  have e1 : (wrV s).1 = mgc ++ encS s:=by show (stW s (mgc,false)).1 = _; rw [a.2]
  rw [e1,List.length_append];have : mgc.length = 5:=rfl;omega
 have l1:=lR s.en 1 3 (mgc,false);have l2:=lR s.tr 0 6 (fY s.en 1 3 (mgc,false));have l3:=cx (u64 s.us) 4611686018427387904 (fY s.tr 0 6 (fY s.en 1 3 (mgc,false)));have l4:=cx (u64 s.rep) 9223372036854775807 (bz (u64 s.us) 4611686018427387904 (fY s.tr 0 6 (fY s.en 1 3 (mgc,false))));have e : wrV s = stW s (mgc,false):=rfl;rw [e];unfold stW;generalize bz (u64 s.rep) 9223372036854775807 (bz (u64 s.us) 4611686018427387904 (fY s.tr 0 6 (fY s.en 1 3 (mgc,false)))) = s4 at *;have l5:=dY cD (eY s.rs) 8 s4;have l6:=dY cD (eY s.gs) 64 (bw dM s.rs 8 s4);have l7:=pG s.ps gs.pl (bw dM s.gs 64 (bw dM s.rs 8 s4));have l8:=dY lF (vv s.fs) 64 (dN s.ps (bw dM s.gs 64 (bw dM s.rs 8 s4)))
 simp only [Int.cast_ofNat_Int] at l5 l6 l8
 have lm : (mgc,false).fst.length = 5:=rfl;omega
theorem Mj {s : StM} (h : OkS s) (hr : RgS s) (hb : BY s) : SzP (plS s):=by
 refine ⟨h.rs,h.gs,by simpa [plS] using h.ps,fun l hl => ?_,by simpa [plS] using h.fs,fun f hf => ?_⟩
 ·obtain ⟨p,hp,rfl⟩:=List.mem_map.1 hl
  exact ⟨by rw [hr.pl p hp,h.pl p hp],hb p hp⟩
 ·obtain ⟨x,hx,rfl⟩:=List.mem_map.1 hf;exact ⟨(h.fl x hx).2.2.1,(h.fl x hx).2.2.2⟩
theorem LS {s : StM} (hb : (wrV s).2 = false) (gs : RgS s) (ys : BY s) {w w' : World} {e : Ending} (h : RdA (wrV s).1 w e w') : Below w.heap.size w w' ∧ ∃ y : StM,e = .returned (.tuple #[.agg (bW y),.int .i64 0,.int .i64 0]) ∧ SSt w' y ∧ SB y ∧ stE y s = true:=by
 obtain ⟨hbl,hor⟩:=h;have hl:=(vB s hb gs).2;have r:=JR hb gs hl;have rr:=Mj (ul hb).1 gs ys
 rcases hor with ⟨h,_⟩ | ⟨_,B5,B6,B7,bl,B8,fs,he,hs⟩
 ·rw [r.1] at h; exact absurd rfl h
 ·rw [← r.2] at rr
  refine ⟨hbl,_,he,hs.sst (fun l hl => (rr.pl l hl).1),hs.sb rr,?_⟩
  rw [Lm,LI hs.ps.len hs.fp,r.2]
section
variable {v : Ev} {w1 w : World} {s : Cs}
structure CW (s : Cs) (k : Nat) (o : Opn) : Prop where
 len : s.op.length = k + 1
 le : k < 64
 last : s.op[k]? = some o
 base : o.B.size ≤ s.st.size
 big : s.st.size ≤ 1000000
theorem CI.top (h : CI v w1 w s) {k : Nat} {o : Opn} (hw : CW s k o) : ∃ OB oc,w.cell? ⟨v.C,14,none⟩ = some (.slice (some ⟨OB,0,none⟩) (k + 1) oc) ∧
  w.cell? ⟨OB,k * 5,none⟩ = some (.string o.P) ∧ w.cell? ⟨OB,k * 5 + 1,none⟩ = some (.string o.R) ∧ w.cell? ⟨OB,k * 5 + 2,none⟩ = some (.string o.B) ∧ w.cell? ⟨OB,k * 5 + 3,none⟩ = some (.int .u8 o.op) ∧ w.cell? ⟨OB,k * 5 + 4,none⟩ = some (.int .i64 o.pc):=by
 obtain ⟨OB,oc,h1,h2,h3⟩:=h.opn;rw [hw.len] at h1;exact ⟨OB,oc,h1,h3 k o hw.last⟩
theorem Kg {C OB i : Nat} {st B : ByteArray} {w W W' : World} (hb : Below W.heap.size W W') (h : W.cell? ⟨C,15,none⟩ = some (.string st) ∧ W.cell? ⟨OB,i,none⟩ = some (.string B) ∧ Below w.heap.size w W) :
  W'.cell? ⟨C,15,none⟩ = some (.string st) ∧ W'.cell? ⟨OB,i,none⟩ = some (.string B) ∧ Below w.heap.size w W' :=
 ⟨ag hb h.1,ag hb h.2.1,h.2.2.trans (hb.mono h.2.2.size)⟩
theorem wE (h : CI v w1 w s) {k : Nat} {o : Opn} (hw : CW s k o) : Calls Tryz.prog 143 #[.pointer (some ⟨v.C,0,none⟩)] w fun e w' => e = .returned (.string (s.st.extract o.B.size s.st.size)) ∧ Below w.heap.size w w':=by
 obtain ⟨OB,oc,h1,x0,x1,x2,x3,x4⟩:=h.top hw;have hst:=h.st
 have HI:=hid (fun W (hb : Below w.heap.size w W) => jI (w:=W) (ag hb h1) hw.le)
 have hb1:=hw.base;have hb2:=hw.big;clear x0 x1 x3 x4 h h1;generalize s.st = st at *;generalize o.B = B at *
 go_enter Tryz.func143,Tryz.ntmps143
 go_wp2_with fail
 go_region_held3 (fun W => W.cell? ⟨v.C,15,none⟩ = some (.string st) ∧ W.cell? ⟨OB,k * 5 + 2,none⟩ = some (.string B) ∧ Below w.heap.size w W)
  (first | assumption | exact ⟨hst,x2,(Below.refl _ _).drew⟩)
  (first
   | (go_at_call 138; refine (HI.out _ (And.right (And.right bB))).mono ?_; rintro e w' ⟨rfl,hbx⟩; have hS':=Kg hbx bB; clear hbx))
 go_wp2_with fail;go_ret;exact ⟨rfl,hS'.2.2⟩
def bI (s : Cs) (o : Opn) (t : ByteArray) : Int:=if wM (s.st.extract o.B.size s.st.size) t = true then 0 else 33
theorem mX (hA : EvA v w1) (h : CI v w1 w s) {k : Nat} {o : Opn} (hw : CW s k o) (t : ByteArray) (ht : t.size ≤ 1000000) : Calls Tryz.prog 111 #[.pointer (some ⟨v.C,0,none⟩),.string t] w (Rdz w (bI s o t) kD):=by
 have H1:=hid (wE h hw)
 have hz : (s.st.extract o.B.size s.st.size).size ≤ 1073741824:=by
  have:=hw.big
  simp; omega
 have H2:=hid (fun W => LV (s.st.extract o.B.size s.st.size) t W hz ae)
 clear h
 have hT : wM (s.st.extract o.B.size s.st.size) t = true → bI s o t = 0:=fun h => by simp [bI,h]
 have hF : wM (s.st.extract o.B.size s.st.size) t = false → bI s o t = 33:=fun h => by simp [bI,h]
 generalize bI s o t = E at *;generalize s.st.extract o.B.size s.st.size = a at *;generalize wM a t = b at *
 go_enter Tryz.func111,Tryz.ntmps111
 go_wp2_with fail;refine H1.out.mono ?_;rintro e w2 ⟨rfl,hb⟩;go_wp2_with fail;refine (H2.out _).mono ?_;rintro e w3 ⟨rfl,hb3⟩;have HB:=hid (hb.trans (hb3.mono hb.size));go_wp2_with fail;refine (gu _ _ _).mono ?_
 rintro e w4 (⟨hb,rfl,rfl⟩ | ⟨hb,rfl,rfl⟩)
 ·go_wp2_with fail;go_end0;exact .inl ⟨hT hb,rfl,HB.out⟩
 ·have hE:=hF hb;subst hE;exact ⟨rfl,.inr ⟨ax,rfl,HB.out⟩⟩
def cB (s : Cs) (t : ByteArray) : Cs:={ s with st:=s.st.extract 0 (s.st.size - t.size) }
theorem oY {s : Cs} {o : Opn} {t : ByteArray} (h : bI s o t = 0) : t.size ≤ (s.st.extract o.B.size s.st.size).size:=by
 unfold bI at h
 split at h
 ·rename_i hb
  simp only [wM,Bool.and_eq_true] at hb
  exact JP hb.2
 ·cases h
theorem uN (hA : EvA v w1) (h : CI v w1 w s) {k : Nat} {o : Opn} (hw : CW s k o) (t : ByteArray) (ht : t.size ≤ 1000000) : Calls Tryz.prog 115 #[.pointer (some ⟨v.C,0,none⟩),.string t] w (Doz v w1 w s.pc (bI s o t) kD (cB s t)):=by
 have H1:=hid (mX hA h hw t ht);have hle:=@oY s o t;have hbig:=hw.big;have H0:=hid h;clear h
 go_enter Tryz.func115,Tryz.ntmps115
 go_wp2_with fail;refine H1.out.mono ?_
 rintro e w2 (⟨h0,rfl,hb2⟩ | ⟨h0,rfl,hb2⟩)
 ·have hc:=H0.out.later hA hb2;have HB2:=hid hb2
  have hle' : t.size ≤ s.st.size:=by
   have:=hle h0
   simp at this; omega
  have hsub : ((s.st.size : Int) - (t.size : Int) + 9223372036854775808) % 18446744073709551616 - 9223372036854775808 = ((s.st.size - t.size : Nat) : Int):=Gy hle' ae;have hst:=hc.st;have hfr:=hc.free 15;have HC:=hid hc
  have HD:=hid (show cB s t = { s with st:=s.st.extract 0 (s.st.size - t.size) } from rfl)
  have hd1 : (0 : Int) ≤ ((s.st.size - t.size : Nat) : Int):=ae;have hd2 : ((s.st.size - t.size : Nat) : Int) ≤ (s.st.size : Int):=ae
  have hsub2 : IntKind.i64.wrap ((s.st.size : Int) - (t.size : Int)) = ((s.st.size - t.size : Nat) : Int):=by
   exact lU
  generalize s.st.size - t.size = d at *;clear hc hle hb2;go_wp2_with fail
  go_region
  go_wp2_with fail;go_end0;refine .inl ⟨h0,rfl,?_,((aX HB2.out).trans (ay _ _ _ _)).trans (Kept.drewN _ _ 1)⟩;rw [HD.out];exact (HC.out.putSt hA _).later hA (below_drewN _ 1)
 ·exact ⟨rfl,.inr ⟨h0,rfl,(H0.out.later hA hb2).bad⟩⟩
end
section
variable {v : Ev} {w1 w : World} {s : Cs}
def tP (s : Cs) (t : ByteArray) : Cs:={ s with st:=iT s.st t }
theorem Io (hA : EvA v w1) (h : CI v w1 w s) (t : ByteArray) (hs : s.st.size ≤ 1000000) (ht : t.size ≤ 1000000) : Calls Tryz.prog 118 #[.pointer (some ⟨v.C,0,none⟩),.string t] w (Doz v w1 w s.pc (bV s.st t) kD (tP s t)):=by
 have H1:=hid (fun W => Jt s.st t W ae ae)
 have hst:=h.st;have HC:=hid h
 have HD:=hid (show tP s t = { s with st:=iT s.st t } from rfl)
 clear h;generalize bV s.st t = E at *;generalize iT s.st t = V at *
 by_cases hE : E = 0
 ·subst hE
  go_enter Tryz.func118,Tryz.ntmps118
  go_wp2_with fail;refine (H1.out _).mono ?_;rintro e w2 ⟨rfl,hb⟩;have HC2:=hid (HC.out.later hA hb);have HB2:=hid hb;clear hb hst;go_wp2_with fail;refine (fk _ _).mono ?_;rintro e w3 ⟨rfl,rfl⟩;have hfr:=HC2.out.free 15;have hst:=HC2.out.st;go_wp2_with fail;go_end0;refine .inl ⟨rfl,rfl,?_,(aX HB2.out).trans (ay _ _ _ _)⟩;rw [HD.out];exact HC2.out.putSt hA _
 ·have hE' : decide (E = 0) = false:=by simp [hE]
  go_enter Tryz.func118,Tryz.ntmps118
  go_wp2_with fail;refine (H1.out _).mono ?_;rintro e w2 ⟨rfl,hb⟩;have HC2:=hid (HC.out.later hA hb);have HB2:=hid hb;clear hb hst;go_wp2_with fail;refine (gu _ _ _).mono ?_
  rintro e w3 (⟨hb,rfl,rfl⟩ | ⟨hb,rfl,rfl⟩)
  ·exact absurd hb (by simp [hE])
  ·exact ⟨rfl,.inr ⟨hE,rfl,HC2.out.bad⟩⟩
def dQ (s : Cs) (o : Opn) : Cs:={ s with dead:=true,st:=iT o.B o.R }
theorem yH (s : Cs) (o : Opn) : tP { s with dead:=true,st:=o.B } o.R = dQ s o:=rfl
theorem qC (hA : EvA v w1) (h : CI v w1 w s) {k : Nat} {o : Opn} (hw : CW s k o) (hB : o.B.size ≤ 1000000) (hR : o.R.size ≤ 1000000) : Calls Tryz.prog 114 #[.pointer (some ⟨v.C,0,none⟩)] w (Doz v w1 w s.pc (bV o.B o.R) kD (dQ s o)):=by
 have h1:=h.putDead hA true;have hd:=h.dead;have hfr:=h.free 17
 have hw1 : CW { s with dead:=true } k o:=⟨hw.len,hw.le,hw.last,hw.base,hw.big⟩
 obtain ⟨OB,oc,x14,x0,x1,x2,x3,x4⟩:=h1.top hw1;have y15:=h1.st;have f15:=h1.free 15;have H1:=hid h1;have K1:=hid (ay w v.C 17 (.bool true));clear h
 go_enter Tryz.func114,Tryz.ntmps114
 go_wp2_with fail;generalize w.setCell ⟨v.C,17,none⟩ (.bool true) = W at *;refine (jI x14 hw.le).mono ?_;rintro e w2 ⟨rfl,hb⟩;have H2:=hid (H1.out.later hA hb);have K2:=hid (K1.out.trans (aX hb));have z15:=ag hb y15;have zf:=H2.out.free 15;have z2:=ag hb x2;clear hb x0 x1 x2 x3 x4 x14 y15 f15 h1 hd hfr;go_wp2_with fail;have H3:=hid (H2.out.putSt hA o.B);have K3:=hid (K2.out.trans (ay w2 v.C 15 (.string o.B)))
 have hw3 : CW { s with dead:=true,st:=o.B } k o:=⟨hw.len,hw.le,hw.last,Nat.le_refl _,hB⟩
 generalize w2.setCell ⟨v.C,15,none⟩ (.string o.B) = W3 at *;obtain ⟨OB',oc',x14,x0,x1,x2,x3,x4⟩:=H3.out.top hw3;refine (jI x14 hw.le).mono ?_;rintro e w4 ⟨rfl,hb⟩;have H4:=hid (H3.out.later hA hb);have K4:=hid (K3.out.trans (aX hb));have z1:=ag hb x1;clear hb x0 x1 x2 x3 x4 x14 z15 zf z2;go_wp2_with fail;refine (Io hA H4.out o.R hB hR).mono ?_
 rintro e w5 (⟨h0,rfl,hc,hk⟩ | ⟨h0,rfl,hb⟩)
 ·rw [yH] at hc;have HC:=hid hc;have HK:=hid (K4.out.trans hk);clear hc hk;go_wp2_with fail;go_end0;exact .inl ⟨h0,rfl,HC.out,HK.out⟩
 ·exact ⟨rfl,.inr ⟨h0,rfl,hb⟩⟩
end
end Go.Proofs.YtkdldbfbldkkcaaGreatDoor

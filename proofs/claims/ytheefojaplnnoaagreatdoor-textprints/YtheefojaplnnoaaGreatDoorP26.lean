/-
  Texts Fnd Pg Ph Pi Pj.
-/
import Derived.Deep.AppendLies
import Derived.Deep.RegionHeld3
import Derived.Test.YtheefojaplnnoaaGreatDoorP00
import Derived.Test.YtheefojaplnnoaaGreatDoorP04
import Derived.Test.YtheefojaplnnoaaGreatDoorP10
import Derived.Test.YtheefojaplnnoaaGreatDoorP11
import Derived.Test.YtheefojaplnnoaaGreatDoorP25
set_option linter.unusedVariables false
set_option maxRecDepth 100000
set_option maxHeartbeats 16000000
namespace Go.Proofs.YtheefojaplnnoaaGreatDoor
open Go.RowKit
def jW (f : Int) (rest : ByteArray) : List ByteArray → Int × Bool
 | [] => (0,false)
 | p :: r => if p = rest then (f,true) else jW (f + 1) rest r
def fS (f : Int) (a ws word : ByteArray) : Int × Bool :=
 if Lib.hasPrefix word.data.toList a.data.toList = true then jW f ⟨(Lib.trimPrefix word.data.toList a.data.toList).toArray⟩ (cK ws) else (0,false)
theorem MR (f l : Int) (a ws word : ByteArray) (w : World) (h0 : 0 ≤ f) (hb : f + (cK ws).length ≤ 255) (hsz : ws.size ≤ 1099511627776) :
  Calls Tryz.prog 224 #[.agg #[.int .u8 f,.int .u8 l,.string a,.string ws],.string word] w fun e w' => e = .returned (.tuple #[.int .u8 (fS f a ws word).1,.bool (fS f a ws word).2]) ∧ Below w.heap.size w w':=by
 obtain ⟨xs,hxs⟩ : ∃ xs,cK ws = xs:=⟨_,rfl⟩;obtain ⟨rest,hrest⟩ : ∃ rest : ByteArray,(⟨(Lib.trimPrefix word.data.toList a.data.toList).toArray⟩ : ByteArray) = rest:=⟨_,rfl⟩;obtain ⟨ok,hok⟩ : ∃ ok : Bool,Lib.hasPrefix word.data.toList a.data.toList = ok:=⟨_,rfl⟩;obtain ⟨V,hV⟩ : ∃ V,fS f a ws word = V:=⟨_,rfl⟩;have hcut:=Tryz.strings_CutPrefix word a;rw [hrest,hok] at hcut;rw [hV];rw [hxs] at hb;unfold fS at hV;rw [hrest,hok,hxs] at hV;refine (callsIn_wide (n:=5)).1 ?_;refine callsIn_of_wp_marks Tryz.func224 rfl trivial ?_ rfl
 simp only [Tryz.ntmps224,List.size_toArray,List.length_cons,List.length_nil,Nat.reduceAdd,Nat.reduceSub,Array.replicate_succ,Array.replicate_zero,List.push_toArray,List.append_toArray,List.nil_append,List.cons_append]
 gi_wp2_with fail
 refine ⟨trivial,?_⟩;refine (callsIn_wide.2 (hcut _)).mono ?_;rintro e w' ⟨rfl,rfl⟩
 cases ok
 ·gi_wp2_with fail
  subst hV;refine ⟨.tuple #[.int .u8 0,.bool false],?_,rfl,((((Below.refl _ w).alloc aq _).alloc bZ _).alloc bZ _).alloc bZ _⟩;rw [jZ rfl];go_simp
 gi_wp2_with fail
 refine ⟨trivial,?_⟩;refine (callsIn_wide.2 (pE ws _)).mono ?_;rintro e w' ⟨rfl,rfl⟩
 gi_wp2_with fail
 simp only [Nat.add_assoc,Nat.reduceAdd]
 rw [if_pos trivial] at hV;obtain ⟨W0,hW0⟩ : ∃ W0,((((((((w.alloc (nr f l a ws)).alloc (bY 0)).alloc (.cells #[.bool false] 4)).alloc (bL rest)).alloc (bY f)).alloc (bL ws)).alloc (bL ⟨#[32]⟩)).alloc (bS 0)) = W0:=⟨_,rfl⟩;rw [hW0]
 have B0 : Below w.heap.size w W0:=by rw [← hW0]; exact ((((((((Below.refl _ w).alloc aq _).alloc bZ _).alloc bZ _).alloc bZ _).alloc bZ _).alloc bZ _).alloc bZ _).alloc bZ _
 have z0 : W0.heap.size = w.heap.size + 8:=dX
 have hstart : aD [(⟨w.heap.size + 4,0,none⟩,.int .u8 f),(⟨w.heap.size + 3,0,none⟩,.string rest),(⟨w.heap.size + 1,0,none⟩,.int .u8 0),(⟨w.heap.size + 2,0,none⟩,.bool false)] W0:=by
  rw [← hW0]
  refine aD.cons ?_ ?_ (aD.cons ?_ ?_ (aD.cons ?_ ?_ (aD.cons ?_ ?_ jt))) <;> simp [go_sem]
 have c2 : W0.cell? ⟨w.heap.size + 5,0,none⟩ = some (.string ws):=dX;have f2 : W0.frozen? ⟨w.heap.size + 5,0,none⟩ = false:=dX;have c1 : W0.cell? ⟨w.heap.size + 6,0,none⟩ = some (.string ⟨#[32]⟩):=dX;have c3 : W0.cell? ⟨w.heap.size + 7,0,none⟩ = some (.int .i64 0):=dX;clear hW0;have HF:=BI 4 (w.heap.size + 6) (w.heap.size + 5) (w.heap.size + 7) ae ae ws W0 c1 c2 f2 c3 hsz;rw [hxs] at HF
 refine oL rfl av (gf:=174) (lb:=#[.pointer (some ⟨w.heap.size + 6,0,none⟩),.pointer (some ⟨w.heap.size + 5,0,none⟩),.pointer (some ⟨w.heap.size + 7,0,none⟩)]) rfl trivial (enters_of Tryz.func174 aj rfl) (encs:=fun x : ByteArray => #[.string x]) (fun _ => rfl)
  HF
  (fun r W => aD [(⟨w.heap.size + 4,0,none⟩,.int .u8 (f + xs.length - r.length)),(⟨w.heap.size + 3,0,none⟩,.string rest),(⟨w.heap.size + 1,0,none⟩,.int .u8 0),(⟨w.heap.size + 2,0,none⟩,.bool false)] W ∧ Below w.heap.size w W ∧ r.length ≤ xs.length ∧ jW (f + xs.length - r.length) rest r = V)
  (fun j W => j = .ret ∧ aD [(⟨w.heap.size + 1,0,none⟩,.int .u8 V.1),(⟨w.heap.size + 2,0,none⟩,.bool V.2)] W ∧ Below w.heap.size w W)
  ?own ?ownx ?cells ?start
  (fun x => { tmps:=#[.agg #[.int .u8 f,.int .u8 l,.string a,.string ws],.string word,.pointer (some ⟨w.heap.size,0,none⟩),undef,.pointer (some ⟨w.heap.size + 1,0,none⟩),.pointer (some ⟨w.heap.size + 2,0,none⟩),.pointer (some ⟨w.heap.size + 3,0,none⟩),.bool true,.pointer (some ⟨w.heap.size + 4,0,none⟩),.string x,.tuple #[.string rest,.bool true],.string word,.pointer (some ⟨w.heap.size,2,none⟩),.string a,.tuple #[.string rest,.bool true],.string rest,.bool true,.bool true,.bool false,.pointer (some ⟨w.heap.size,0,none⟩),.int .u8 f,.pointer (some ⟨w.heap.size,3,none⟩),.string ws,
   .func (.func 174) #[] #[.pointer (some ⟨w.heap.size + 6,0,none⟩),.pointer (some ⟨w.heap.size + 5,0,none⟩),.pointer (some ⟨w.heap.size + 7,0,none⟩)],.string x,undef,undef,undef,undef,undef,undef],defers:=[] }) ?assign ?body ?done ?stop
 case own =>
  exact Hn
 case ownx =>
  exact FH
 case cells =>
  exact fun r A v hs => ⟨hs.1.other _ _ aq,hs.2.1.setCell (p:=⟨w.heap.size + 5,0,none⟩) aq _,hs.2.2⟩
 case start =>
  have e : f + xs.length - xs.length = f:=ae
  exact ⟨by rw [e]; exact hstart,B0,Nat.le_refl _,by rw [e]; exact hV⟩
 case assign =>
  exact sF
 case body =>
  rintro m x r W ⟨hc,hB,hr,hv⟩;have hsem:=@Oper.semAt_some;have d1:=hc _ (List.mem_cons_self ..);have d2:=hc _ (List.mem_cons_of_mem _ (List.mem_cons_self ..));have d3:=hc _ (List.mem_cons_of_mem _ (List.mem_cons_of_mem _ (List.mem_cons_self ..)));have d4:=hc _ (List.mem_cons_of_mem _ (List.mem_cons_of_mem _ (List.mem_cons_of_mem _ (List.mem_cons_self ..))));obtain ⟨q,hq⟩ : ∃ q : Int,f + xs.length - (x :: r).length = q:=⟨_,rfl⟩;rw [hq] at hc d1 hv;have q0 : 0 ≤ q:=tE;have q1 : q + 1 ≤ 255:=tE
  have q2 : f + xs.length - r.length = q + 1:=by simp at hq; omega
  by_cases he : x = rest
  ·rw [jW,if_pos he] at hv;subst he hv
   gi_wp2_with fail
   refine ⟨((KeepsOthers.setCell _ _ _).trans (KeepsOthers.setCell _ _ _)).from _,rfl,?_,(hB.setCell (p:=⟨w.heap.size + 1,0,none⟩) aq _).setCell (p:=⟨w.heap.size + 2,0,none⟩) aq _⟩;have g1 : aD [(⟨w.heap.size + 1,0,none⟩,.int .u8 0),(⟨w.heap.size + 2,0,none⟩,.bool false)] W:=aD.cons d3.1 d3.2 (aD.cons d4.1 d4.2 jt);exact g1.set2 aq
  ·rw [jW,if_neg he] at hv
   have he2 : (x.toList == rest.toList) = false:=by rw [J8]; simp [he]
   gi_wp2_with fail
   refine ⟨(KeepsOthers.setCell _ _ _).from _,dB.other _ _ _ aq,aD.set hc aq,hB.setCell (p:=⟨w.heap.size + 4,0,none⟩) aq _,by simp at hr; omega⟩
 case done =>
  rintro D W hD ⟨hc,hB,_,hv⟩ hK;have d3:=hc _ (List.mem_cons_of_mem _ (List.mem_cons_of_mem _ (List.mem_cons_self ..)));have d4:=hc _ (List.mem_cons_of_mem _ (List.mem_cons_of_mem _ (List.mem_cons_of_mem _ (List.mem_cons_self ..))));have d5:=d3.1;have d6:=d3.2;have d7:=d4.1;have d8:=d4.2
  gi_wp2_with fail
  have hK2:=((KeepsOthers.setCell W ⟨w.heap.size + 1,0,none⟩ (.int .u8 0)).trans (KeepsOthers.setCell _ ⟨w.heap.size + 2,0,none⟩ (.bool false))).same _ _ hK rfl;refine ⟨aq,.inl ⟨_,_,rfl,run_takeDeferred hK2,?_⟩⟩;have g1 : aD [(⟨w.heap.size + 1,0,none⟩,.int .u8 0),(⟨w.heap.size + 2,0,none⟩,.bool false)] W:=aD.cons d3.1 d3.2 (aD.cons d4.1 d4.2 jt);have hH:=(g1.set2 (v1:=.int .u8 0) (v2:=.bool false) aq).turned (.deferred none) hK2 rfl;have e1:=(hH _ (List.mem_cons_self ..)).1;have e2:=(hH _ (List.mem_cons_of_mem _ (List.mem_cons_self ..))).1;have hBB:=((hB.setCell (p:=⟨w.heap.size + 1,0,none⟩) aq (.int .u8 0)).setCell (p:=⟨w.heap.size + 2,0,none⟩) aq (.bool false)).trans (belowK_b (w:=w) (Nat.le_refl _) _ D _ (.deferred none) ae hK2 rfl rfl);generalize World.putObj _ D (.deferred none) = W5 at e1 e2 hBB ⊢;rw [jW] at hv;subst hv;refine ⟨.tuple #[.int .u8 0,.bool false],?_,rfl,hBB⟩;rw [jZ rfl];go_simp
 case stop =>
  rintro D j W hD ⟨rfl,hc,hB⟩ hK
  gi_wp2_with fail
  refine ⟨aq,.inl ⟨_,_,rfl,run_takeDeferred hK,?_⟩⟩;have e1:=((hc.turned (.deferred none) hK rfl) _ (List.mem_cons_self ..)).1;have e2:=((hc.turned (.deferred none) hK rfl) _ (List.mem_cons_of_mem _ (List.mem_cons_self ..))).1;have hBB:=hB.trans (belowK_b (w:=w) (Nat.le_refl _) _ D _ (.deferred none) ae hK rfl rfl);generalize World.putObj _ D (.deferred none) = W5 at e1 e2 hBB ⊢;refine ⟨.tuple #[.int .u8 V.1,.bool V.2],?_,rfl,hBB⟩;rw [jZ rfl];go_simp
def fU : Nat → Nat → ByteArray → Int × Bool
 | 0,_,_ => (0,false)
 | n + 1,i,s => if (fS (kF i) (kA i) (kW i) s).2 = true then ((fS (kF i) (kA i) (kW i) s).1,true) else fU n (i + 1) s
def ek (s : ByteArray) : Int × Bool:=fU 7 0 s
theorem Gh (s : ByteArray) (w : World) (hk : aX w) : Calls Tryz.prog 177 #[.string s] w fun e w' => e = .returned (.tuple #[.int .u8 (ek s).1,.bool (ek s).2]) ∧ Below w.heap.size w w':=by
 obtain ⟨V,hV⟩ : ∃ V,ek s = V:=⟨_,rfl⟩;rw [hV]
 go_enter Tryz.func177,Tryz.ntmps177
 refine wp_seq_k fun K1 hK1 => wp_region_lit ?_
 refine eA rfl (v:=.int .u8 0) (w':=w) cu ?_;refine eA rfl (v:=.bool false) (w':=w) cu ?_;refine wpList_nil (hK1 _ _ ?_);clear hK1
 refine wp_seq_k fun K2 hK2 => wp_seq_k fun K3 hK3 => wp_region_lit ?_
 refine eA rfl (qU hk _ _ _ _ _) ?_;obtain ⟨kv,hkv⟩ : ∃ kv,n9 = kv:=⟨_,rfl⟩;rw [hkv]
 have run_kind' : ∀ (w : World) (i : Nat) (hi : i < 7),(Instr.index 288 kv (.int .i64 i)).run Tryz.prog w = .ok (.agg #[.int .u8 (kF i),.int .u8 (kL i),.string (kA i),.string (kW i)]) w:=fun w i hi => hkv ▸ vd i hi
 have HK:=hid run_kind';clear run_kind' hkv;go_wp2_with fail
 go_loopw [9] (fun p wr => ∃ i : Nat,p = .int .i64 i ∧ i ≤ 7 ∧ Below w.heap.size w wr ∧ fU (7 - i) i s = V) (fun p wr => 7 - (intOf p).toNat)
 case atStart => exact ⟨0,rfl,av,Below.refl _ _,hV⟩
 case round =>
  clear hV;obtain ⟨i,rfl,hi,hB,hV⟩:=hrel
  by_cases h7 : i = 7
  ·subst h7;have hx : V = (0,false):=hV.symm;subst hx;go_wp2_with fail;go_ret2;exact ⟨rfl,hB⟩
  have hlt : (i : Int) < 7:=ae;have hix:=HK.out wr i ae;obtain ⟨f0,f1,f2,f3,f4,f5⟩:=lN i ae;have HF:=hid (MR (kF i) (kL i) (kA i) (kW i) s (wr.alloc (nr (kF i) (kL i) (kA i) (kW i))) f0 f3 f4);have hB2:=hid (hB.alloc hB.size (nr (kF i) (kL i) (kA i) (kW i)));obtain ⟨n,hn⟩ : ∃ n,7 - i = n + 1:=⟨6 - i,ae⟩;rw [hn,fU] at hV;have hw : wrap64 ((i : Int) + 1) = i + 1:=cQ;clear f0 f1 f2 f3 f4 f5 hB;generalize fS (kF i) (kA i) (kW i) s = R at *;obtain ⟨r1,r2⟩:=R;have HV:=hid hV;clear hV;generalize kF i = f at *;generalize kL i = l at *;generalize kA i = a at *;generalize kW i = ws at *
  cases r2
  ·go_wp2_with fail;refine HF.out.mono ?_;rintro e w3 ⟨rfl,hb3⟩;have hB3:=hid (hB2.out.trans (hb3.mono hB2.out.size));clear hb3;go_wp2_with fail
   exact ⟨⟨i + 1,aq,ae,hB3.out,by have:=HV.out; rw [show 7 - (i + 1) = n by omega]; simpa using this⟩,bD⟩
  ·have hx : V = (r1,true):=by have:=HV.out; simpa using this.symm
   subst hx;go_wp2_with fail;refine HF.out.mono ?_;rintro e w3 ⟨rfl,hb3⟩;have hB3:=hid (hB2.out.trans (hb3.mono hB2.out.size));clear hb3;go_wp2_with fail;go_ret2;exact ⟨rfl,hB3.out⟩
abbrev PIn:=Int × Int × List Int
abbrev PFn:=Int × ByteArray × List PIn
structure PM where
 types : List Sg
 hosts : List Int
 globals : List Gl
 fi : Int
 mo : Int
 fns : List PFn
 data : List (Int × List Int)
 exps : List Ex
def plI (y : InM) : PIn:=(y.1,y.2.1,y.2.2.2)
def plF (x : FuM) : PFn:=(x.1,x.2.1,x.2.2.2.map plI)
def plD (x : DaM) : Int × List Int:=(x.1,x.2.2)
def pl (m : MM) : PM:=⟨m.types,m.hosts,m.globals,m.fi,m.mo,m.fns.map plF,m.data.map plD,m.exps⟩
structure LnM (m : MM) : Prop where
 t : m.tn = m.types.length
 h : m.hn = m.hosts.length
 g : m.gn = m.globals.length
 f : m.fn = m.fns.length
 d : m.dn = m.data.length
 e : m.en = m.exps.length
def gU (xs : List ByteArray) : ByteArray:=⟨(Lib.join (xs.map (·.data.toList)) [32]).toArray⟩
def Oq : ByteArray:=⟨#[118,97,114]⟩
def NB : ByteArray:=⟨#[99,111,110,115,116]⟩
def wdx (ws : List ByteArray) (i : Nat) : ByteArray:=ws.getD i ⟨#[]⟩
def j4 (p : Int) (M : PM) (ws : List ByteArray) : Option (Int × PM):=if (0 ≤ p ∧ p < 1) ∧ ws.length = 1 then some (1,M) else none
def lA (p : Int) (M : PM) (ws : List ByteArray) : Option (Int × PM):=if (1 ≤ p ∧ p ≤ 2) ∧ rdE (gU ws.tail) = 0 then some (2,{ M with types:=M.types ++ [(rdP (gU ws.tail),rdR (gU ws.tail))] }) else none
def lq (p : Int) (M : PM) (ws : List ByteArray) : Option (Int × PM):=if (1 ≤ p ∧ p ≤ 3) ∧ ws.length = 2 then (nmV (wdx ws 1)).map fun v => (3,{ M with hosts:=M.hosts ++ [v] }) else none
def gvV (l : ByteArray) (v : Int) : Option (Int × Int):=if l.toList = [119] then (if v = wrap32 v then some (119,v % 4294967296) else none) else if l.toList = [108] then some (108,v % 18446744073709551616) else none
def D7 (p : Int) (M : PM) (ws : List ByteArray) : Option (Int × PM):=if (1 ≤ p ∧ p ≤ 4) ∧ ws.length = 4 ∧ ((wdx ws 2).toList = Oq.toList ∨ (wdx ws 2).toList = NB.toList) then (nmV (wdx ws 3)).bind fun v => (gvV (wdx ws 1) v).map fun x => (4,{ M with globals:=M.globals ++ [(x.1,(wdx ws 2).toList == Oq.toList,x.2)] }) else none
def ru (p : Int) (M : PM) (ws : List ByteArray) : Option (Int × PM):=if (1 ≤ p ∧ p < 5) ∧ ws.length = 3 then (nmV (wdx ws 1)).bind fun a => (nmV (wdx ws 2)).map fun b => (5,{ M with fi:=a,mo:=b }) else none
def Li (l : ByteArray) : ByteArray:=if l.toList = [45] then ⟨#[]⟩ else l
def ra (p : Int) (M : PM) (ws : List ByteArray) : Option (Int × PM):=if (5 ≤ p ∧ p ≤ 6) ∧ ws.length = 3 then (nmV (wdx ws 1)).map fun v => (6,{ M with fns:=M.fns ++ [(v,Li (wdx ws 2),[])] }) else none
def yD : List UInt8 → Option (List Int)
 | [] => some []
 | [_] => none
 | a :: b :: r => if 0 ≤ yg a.toNat ∧ 0 ≤ yg b.toNat then (yD r).map (fun t => (yg a.toNat * 16 + yg b.toNat) :: t) else none
def Ot (s : ByteArray) : Option (List Int):=yD s.data.toList
def MZ (p : Int) (M : PM) (ws : List ByteArray) : Option (Int × PM):=if (5 ≤ p ∧ p ≤ 7) ∧ ws.length = 3 then (nmV (wdx ws 1)).bind fun v => (Ot (wdx ws 2)).map fun b => (7,{ M with data:=M.data ++ [(v,b)] }) else none
def M5 (p : Int) (M : PM) (ws : List ByteArray) : Option (Int × PM):=if (5 ≤ p ∧ p ≤ 8) ∧ ws.length = 3 then (nmV (wdx ws 2)).map fun v => (8,{ M with exps:=M.exps ++ [(wdx ws 1,v)] }) else none
def dI : List ByteArray → Option (List Int)
 | [] => some []
 | x :: r => (nmV x).bind fun v => (dI r).map fun t => v :: t
def zi (fs : List PFn) (y : PIn) : List PFn:=match fs.getLast? with
 | none => fs
 | some f => fs.dropLast ++ [(f.1,f.2.1,f.2.2 ++ [y])]
def wU (op : Int) (ws : List ByteArray) : Option PIn :=
 if (ofV op).1.2.2.1 = 0 then (if ws.length = 1 then some (op,0,[]) else none) else if (ofV op).1.2.2.1 = 3 then (dI ws.tail).map (fun l => (op,0,l)) else if ws.length = 2 then (nmV (wdx ws 1)).map (fun a => (op,a,[])) else none
def iM (p : Int) (M : PM) (ws : List ByteArray) : Option (Int × PM):=if (6 ≤ p ∧ p ≤ 6) ∧ (ek (wdx ws 0)).2 = true then (wU (ek (wdx ws 0)).1 ws).map fun y => (6,{ M with fns:=zi M.fns y }) else none
section
variable {base R : Nat} {mp : Value} {m : MM} {ln pt : Int} {w : World}
theorem qE (h : RQ base R mp m ln pt w) (f q : Int) (h1 : f ≤ pt) (h2 : pt ≤ q) :
  Calls Tryz.prog 168 #[.pointer (some ⟨R,0,none⟩),.int .i64 f,.int .i64 q] w fun e w' => e = .returned (.tuple #[]) ∧ w' = w.setCell ⟨R,10,none⟩ (.int .i64 q):=wT R f pt q w (h.cells 10) (h.free 10) h1 h2
theorem sG (h : RQ base R mp m ln pt w) (f q : Int) (hn : ¬ (f ≤ pt ∧ pt ≤ q)) :
  Calls Tryz.prog 168 #[.pointer (some ⟨R,0,none⟩),.int .i64 f,.int .i64 q] w fun e w' => e = thL ln ∧ w' = w:=BP R f pt q ln w (h.cells 9) (h.cells 10) hn
theorem Gj (h : RQ base R mp m ln pt w) (f q : Int) (h1 : f ≤ pt) (h2 : pt < q) :
  Calls Tryz.prog 167 #[.pointer (some ⟨R,0,none⟩),.int .i64 f,.int .i64 q] w fun e w' => e = .returned (.tuple #[]) ∧ w' = w.setCell ⟨R,10,none⟩ (.int .i64 q):=EI R f pt q w (h.cells 10) (h.free 10) h1 h2
theorem Hg (h : RQ base R mp m ln pt w) (f q : Int) (hn : ¬ (f ≤ pt ∧ pt < q)) :
  Calls Tryz.prog 167 #[.pointer (some ⟨R,0,none⟩),.int .i64 f,.int .i64 q] w fun e w' => e = thL ln ∧ w' = w:=Ks R f pt q ln w (h.cells 9) (h.cells 10) hn
theorem Gx (h : RQ base R mp m ln pt w) : Calls Tryz.prog 120 #[.pointer (some ⟨R,0,none⟩),.bool false] w fun e w' => e = thL ln ∧ w' = w:=mB R ln w (h.cells 9)
end
theorem Wds.setR {w : World} {A n c R o base : Nat} {u : Value} {ws : List ByteArray} (h : Wds w A n c ws) (hA : base ≤ A) (hR : R < base) : Wds (w.setCell ⟨R,o,none⟩ u) A n c ws :=
 ⟨h.len,by have:=h.lt; simpa [World.setCell] using this,h.cap,fun j x hj => ((aw w R o u).cell (S:=fun k => k = R) (h.at_ j x hj) (by show ¬ A = R; omega)),h.sz,h.few⟩
def LnP (base R : Nat) (mp : Value) (ln : Int) (w : World) (res : Option (Int × PM)) (e : Ending) (w' : World) : Prop :=
 KR base R w w' ∧ match res with
 | some (p,M) => e = .returned (.tuple #[]) ∧ ∃ m',RQ base R mp m' ln p w' ∧ pl m' = M
 | none => e = thL ln
theorem Kj {base R A n c : Nat} {mp : Value} {m : MM} {ln pt : Int} {w : World} {ws : List ByteArray} (h : RQ base R mp m ln pt w) (hw : Wds w A n c ws) :
  Calls Tryz.prog 108 #[.pointer (some ⟨R,0,none⟩),.slice (some ⟨A,0,none⟩) n c] w (LnP base R mp ln w (j4 pt (pl m) ws)):=by
 have hl:=hw.len
 by_cases h1 : 0 ≤ pt ∧ pt < 1
 ·have HO:=hid (Gj h 0 1 h1.1 h1.2);have HR:=hid (h.part 1 ae)
  by_cases h2 : n = 1
  ·have e : j4 pt (pl m) ws = some (1,pl m):=by unfold j4; rw [if_pos ⟨h1,ae⟩]
   rw [e];subst h2;clear hw hl h
   go_enter Tryz.func108,Tryz.ntmps108
   go_wp2_with fail;refine HO.out.mono ?_;rintro e w1 ⟨rfl,hw1⟩;have hw2:=hw1.symm;subst hw2;go_wp2_with fail;refine (dU R _).mono ?_;rintro e w2 ⟨rfl,hw1⟩;have hw2:=hw1.symm;subst hw2;go_wp2_with fail;go_end0;exact ⟨KR.set base R 10 w _,rfl,m,HR.out,rfl⟩
  ·have e : j4 pt (pl m) ws = none:=by unfold j4; rw [if_neg (fun x => h2 ae)]
   rw [e];have hne : ((n : Int) == 1) = false:=aG;have HM:=hid (Gx HR.out);clear hw hl h
   go_enter Tryz.func108,Tryz.ntmps108
   exact G8
 ·have e : j4 pt (pl m) ws = none:=by unfold j4; rw [if_neg (fun x => h1 x.1)]
  rw [e];have HO:=hid (Hg h 0 1 h1);clear hw hl h
  go_enter Tryz.func108,Tryz.ntmps108
  exact nJ
theorem tkQ {P : Program} {ops : Array Oper} {Q : Exit → Act → World → Prop} {md : Region.Mode} {S : World → Prop} {i : Nat} {oi : Oper} {v : Value} {fuel : Nat} {listed : Array Bool} {a : Act} {w : World} (hi : ops[i]? = some oi) (h : wpAnyH P md ops Q S fuel (listed.setIfInBounds i true) (a.put oi.dst v) w) (hv : ∀ w,S w → (execOp a.eval oi).run P w = .ok (.value v) w:=by (intro w h; (try dsimp only at h); go_simp; try with_reducible rfl))
  (hc : (Region.noSelect ops && Region.free md ops listed i && (Region.ready md ops listed).contains i) = true:=by kernel_rfl) (hw : Region.wanted oi (yielded ops a.tmps) = true:=by rfl) (hQ : ∀ c a w,Q (.panic c) (a.put oi.dst v) w → Q (.panic c) a w:=by exact fun _ _ _ h => h) (hS : S w:=by assumption) : wpAnyH P md ops Q S (fuel + 1) listed a w:=by
 simp only [Bool.and_eq_true] at hc
 exact uh
theorem rcQ {P : Program} {ops : Array Oper} {Q : Exit → Act → World → Prop} {md : Region.Mode} {S : World → Prop} {i : Nat} {o : Oper} {fuel : Nat} {listed : Array Bool} {a : Act} {w : World} {rs : List Nat} (ho : ops[i]? = some o) (h : ∀ K : Act → World → Prop,Shut (∀ a w,S w → (S w → wpAnyH P md ops Q S fuel (listed.setIfInBounds i true) a w) → K a w) → Oper.wp P o a w K Q) (hs : AllReadyH P md ops Q S fuel listed a w rs) (hw : Region.wanted o (yielded ops a.tmps) = true:=by rfl) : AllReadyH P md ops Q S fuel listed a w (i :: rs):=AllReadyH.cons ho (fun K hK => by rw [if_pos hw]; exact h K hK) hs
theorem ryQ {P : Program} {ops : Array Oper} {Q : Exit → Act → World → Prop} {md : Region.Mode} {S : World → Prop} {rs : List Nat} {fuel : Nat} {listed : Array Bool} {a : Act} {w : World} (h : AllReadyH P md ops Q S fuel listed a w rs) (hr : Region.ready md ops listed = rs:=by kernel_rfl) (hne : rs ≠ []:=by simp) : wpAnyH P md ops Q S (fuel + 1) listed a w:=wpAnyH_ready hr hne h
def psz (M : PM) : Nat:=M.types.length + M.hosts.length + M.globals.length + M.fns.length + (M.fns.map fun f => f.2.2.length).sum + M.data.length + M.exps.length
theorem fT {w : World} {base e k n : Nat} {v : Value} {α : Type} {g : α → List Value} {l : List α} (hk : ∀ x,(g x).length = k) (hp : 0 < k) (h : w.ownsRow base e k v n (l.flatMap g)) : l.length = n:=by
 have:=h.1
 rw [gu g k hk] at this;exact Nat.eq_of_mul_eq_mul_right hp this
theorem OY : (Tryz.prog.info? 3).map (fun i => (i.zero,i.size,i.bytes)) = some (some (.int .i64 0),1,8):=aj
theorem KC {base R A n c : Nat} {mp : Value} {m : MM} {ln pt : Int} {w : World} {ws : List ByteArray} (h : RQ base R mp m ln pt w) (h1 : ¬ (1 ≤ pt ∧ pt ≤ 2)) :
  Calls Tryz.prog 109 #[.pointer (some ⟨R,0,none⟩),.slice (some ⟨A,0,none⟩) n c] w (LnP base R mp ln w (lA pt (pl m) ws)):=by
 have e : lA pt (pl m) ws = none:=by unfold lA; rw [if_neg (fun x => h1 x.1)]
 rw [e];have HO:=hid (sG h 1 2 h1);clear h
 go_enter Tryz.func109,Tryz.ntmps109
 exact nJ
theorem J7 {base R A n c : Nat} {mp : Value} {m : MM} {ln pt : Int} {w : World} {ws : List ByteArray} (h : RQ base R mp m ln pt w) (h1 : ¬ (1 ≤ pt ∧ pt ≤ 3)) :
  Calls Tryz.prog 110 #[.pointer (some ⟨R,0,none⟩),.slice (some ⟨A,0,none⟩) n c] w (LnP base R mp ln w (lq pt (pl m) ws)):=by
 have e : lq pt (pl m) ws = none:=by unfold lq; rw [if_neg (fun x => h1 x.1)]
 rw [e];have HO:=hid (sG h 1 3 h1);clear h
 go_enter Tryz.func110,Tryz.ntmps110
 exact nJ
theorem Jj {base R A n c : Nat} {mp : Value} {m : MM} {ln pt : Int} {w : World} {ws : List ByteArray} (h : RQ base R mp m ln pt w) (hw : Wds w A n c ws) (h1 : 1 ≤ pt ∧ pt ≤ 3) (h2 : n ≠ 2) :
  Calls Tryz.prog 110 #[.pointer (some ⟨R,0,none⟩),.slice (some ⟨A,0,none⟩) n c] w (LnP base R mp ln w (lq pt (pl m) ws)):=by
 have e : lq pt (pl m) ws = none:=by unfold lq; rw [if_neg (fun x => h2 (by rw [← hw.len]; exact x.2))]
 rw [e];have HO:=hid (qE h 1 3 h1.1 h1.2);have HR:=hid (h.part 3 ae);have HM:=hid (Gx HR.out);have hne : ((n : Int) == 2) = false:=aG;clear h hw
 go_enter Tryz.func110,Tryz.ntmps110
 exact G8
theorem J2 {base R A n c : Nat} {mp : Value} {m : MM} {ln pt : Int} {w : World} {ws : List ByteArray} (h : RQ base R mp m ln pt w) (h1 : ¬ (1 ≤ pt ∧ pt < 5)) :
  Calls Tryz.prog 112 #[.pointer (some ⟨R,0,none⟩),.slice (some ⟨A,0,none⟩) n c] w (LnP base R mp ln w (ru pt (pl m) ws)):=by
 have e : ru pt (pl m) ws = none:=by unfold ru; rw [if_neg (fun x => h1 x.1)]
 rw [e];have HO:=hid (Hg h 1 5 h1);clear h
 go_enter Tryz.func112,Tryz.ntmps112
 exact nJ
theorem Kv {base R A n c : Nat} {mp : Value} {m : MM} {ln pt : Int} {w : World} {ws : List ByteArray} (h : RQ base R mp m ln pt w) (h1 : ¬ (5 ≤ pt ∧ pt ≤ 6)) :
  Calls Tryz.prog 113 #[.pointer (some ⟨R,0,none⟩),.slice (some ⟨A,0,none⟩) n c] w (LnP base R mp ln w (ra pt (pl m) ws)):=by
 have e : ra pt (pl m) ws = none:=by unfold ra; rw [if_neg (fun x => h1 x.1)]
 rw [e];have HO:=hid (sG h 5 6 h1);clear h
 go_enter Tryz.func113,Tryz.ntmps113
 exact nJ
theorem J1 {base R A n c : Nat} {mp : Value} {m : MM} {ln pt : Int} {w : World} {ws : List ByteArray} (h : RQ base R mp m ln pt w) (h1 : ¬ (6 ≤ pt ∧ pt ≤ 6)) :
  Calls Tryz.prog 119 #[.pointer (some ⟨R,0,none⟩),.slice (some ⟨A,0,none⟩) n c] w (LnP base R mp ln w (iM pt (pl m) ws)):=by
 have e : iM pt (pl m) ws = none:=by unfold iM; rw [if_neg (fun x => h1 x.1)]
 rw [e];have HO:=hid (sG h 6 6 h1);clear h
 go_enter Tryz.func119,Tryz.ntmps119
 exact nJ
theorem Oy : (Tryz.prog.info? 73).map (fun i => (i.zero,i.size,i.bytes)) = some (some (.agg #[.string ⟨#[]⟩,.string ⟨#[]⟩]),2,32):=aj
theorem uY {α : Type} {l : List α} {j : Nat} : l.tail[j]? = l[j + 1]?:=by cases l <;> simp
theorem Jm {B base R A n c : Nat} {mp : Value} {m : MM} {ln pt : Int} {w : World} {ws : List ByteArray} (h : RQ base R mp m ln pt w) (hw : Wds w A n c ws) (hA : base ≤ A) (hE : iG B w) (hBR : B ≤ R) (hps : psz (pl m) ≤ 2097152) (hc : c = n) (hn0 : 2 ≤ n) (hj : (gU ws.tail).size ≤ 8388608) (h1 : 1 ≤ pt ∧ pt ≤ 2) (h3 : rdE (gU ws.tail) = 0) :
  Calls Tryz.prog 109 #[.pointer (some ⟨R,0,none⟩),.slice (some ⟨A,0,none⟩) n c] w (LnP base R mp ln w (lA pt (pl m) ws)):=by
 have hc':=hc.symm;subst hc';obtain ⟨i0,hi,hz0,hz1,hz2⟩:=info_parts Oy
 have e : lA pt (pl m) ws = some (2,{ pl m with types:=(pl m).types ++ [(rdP (gU ws.tail),rdR (gU ws.tail))] }):=by unfold lA; rw [if_pos ⟨h1,h3⟩]
 rw [e]
 have hn : m.tn ≤ 2097152:=by
  have e1:=fT (g:=dP) (fun _ => rfl) av h.rt
  have e2 : m.types.length ≤ psz (pl m):=by unfold psz pl; dsimp only; omega
  omega
 have HO:=hid (qE h 1 2 h1.1 h1.2);have q1:=h.part 2 h1.2;have d1:=hw.setR (o:=10) (u:=.int .i64 2) hA h.low;have k1:=KR.set base R 10 w (.int .i64 2);have e1:=hE.later (k1.below hBR nM hE.bw);generalize w.setCell ⟨R,10,none⟩ (.int .i64 2) = w0 at *
 have hlen : ws.tail.length = n - 1:=by rw [List.length_tail,hw.len]
 have HJ:=hid (Tryz.strings_Join A 1 (n - 1) ws.tail ⟨#[32]⟩ w0 (fun j x hx => by rw [uY] at hx; have:=d1.at_ (j + 1) x hx; rwa [Nat.zero_add,Nat.add_comm] at this) d1.lt (by have:=hw.few; omega) (by have:=hw.cap; omega) (by have:=hj; unfold gU ByteArray.size at this; simp at this; simpa using ae))
 rw [hlen] at HJ
 have ej : (⟨(Lib.join (ws.tail.map (·.data.toList)) (⟨#[32]⟩ : ByteArray).data.toList).toArray⟩ : ByteArray) = gU ws.tail:=rfl
 rw [ej] at HJ
 have HS:=hid (fun (W : World) (hW : Below w0.heap.size w0 W) => xj (gU ws.tail) W ae (e1.mx.later hW (Nat.le_refl _)))
 have HQ0:=hid q1;have HK0:=hid k1;have hc2 : ¬ n = 1:=ae;have hn1 : 1 ≤ n:=ae;generalize gU ws.tail = jw at *;clear h hw hE hps h1 q1 d1 k1 e1 e ej hlen hj
 go_enter Tryz.func109,Tryz.ntmps109
 go_wp2_with fail;refine HO.out.mono ?_;rintro e w1' ⟨rfl,hw1⟩;have hw2:=hw1.symm;subst hw2;go_wp2_with fail;refine HJ.out.mono ?_;rintro e w2 ⟨rfl,hb2⟩;have B2:=hid hb2;clear hb2;go_wp2_with fail;refine (HS.out _ B2.out).mono ?_;rintro e w3 ⟨rfl,hb3⟩;have B3:=hid (B2.out.trans (hb3.mono B2.out.size));clear hb3;go_wp2_with fail;have HM:=hid (dU R (w3.alloc (aS (rdP jw) (rdR jw))));generalize rdP jw = rp at *;generalize rdR jw = rr at *;have B4:=hid (B3.out.trans ((ak w3 (aS rp rr)).mono B3.out.size));have HBX:=hid (heap_alloc_new w3 (aS rp rr));have Q1:=hid (HQ0.out.later B4.out);clear HS HJ HO;refine HM.out.mono ?_;rintro e w1'' ⟨rfl,hw1⟩;have hw2:=hw1.symm;subst hw2;go_wp2_with fail;generalize w3.alloc (aS rp rr) = w1 at *;generalize w3.heap.size = X at *;have B1:=hid ((Below.refl w1.heap.size w1).drew)
 refine wp_region_held_drew (S:=fun _ => True) aj trivial (fun _ => ?_)
 generalize w1.drew = wd at *;refine tkQ (i:=0) rfl ?_;(try simp only [Act.put,sIB]);refine tkQ (i:=1) rfl ?_;(try simp only [Act.put]);refine tkQ (i:=2) rfl ?_;(try simp only [Act.put]);refine tkQ (i:=3) rfl ?_;(try simp only [Act.put]);refine tkQ (i:=4) rfl ?_;(try simp only [Act.put]);refine ryQ (rs:=[5,6]) ?_
 refine rcQ (i:=5) rfl (fun K hK => ?_) (rcQ (i:=6) rfl (fun K hK => ?_) rN)
 ·have cH : wd.cell? ⟨R,1,none⟩ = some (.slice m.ta m.tn m.tc):=(Q1.out.later B1.out).cells 1;go_simp
  refine hK.out _ _ trivial (fun _ => ?_)
  clear hK K;refine ryQ (rs:=[6]) ?_
  refine rcQ (i:=6) rfl (fun K hK => ?_) rN
  have y0 : wd.cell? ⟨X,0,none⟩ = some (.string rp):=ag (ar B1.out HBX.out);have y1 : wd.cell? ⟨X,1,none⟩ = some (.string rr):=ag (ar B1.out HBX.out);exact Gv
 ·have y0 : wd.cell? ⟨X,0,none⟩ = some (.string rp):=ag (ar B1.out HBX.out);have y1 : wd.cell? ⟨X,1,none⟩ = some (.string rr):=ag (ar B1.out HBX.out);go_simp
  refine hK.out _ _ trivial (fun _ => ?_)
  clear hK K;refine ryQ (rs:=[5,7]) ?_
  refine rcQ (i:=5) rfl (fun K hK => ?_) (rcQ (i:=7) rfl (fun K hK => ?_) rN)
  ·have cH : wd.cell? ⟨R,1,none⟩ = some (.slice m.ta m.tn m.tc):=(Q1.out.later B1.out).cells 1;exact Gv
  ·go_simp;have BN:=hid (B1.out.trans ((ak wd (aS rp rr)).mono B1.out.size))
   refine hK.out _ _ trivial (fun _ => ?_)
   clear hK K;refine ryQ (rs:=[5]) ?_
   refine rcQ (i:=5) rfl (fun K hK => ?_) rN
   have cH : (wd.alloc (aS rp rr)).cell? ⟨R,1,none⟩ = some (.slice m.ta m.tn m.tc):=(Q1.out.later BN.out).cells 1;go_simp
   refine hK.out _ _ trivial (fun _ => ?_)
   clear hK K;refine ryQ (rs:=[8]) ?_
   refine rcQ (i:=8) rfl (fun K hK => ?_) rN
   refine wp_append_lies _ (.tmp 24) (.tmp 26) 22 rfl base 73 i0 (.agg #[.string ⟨#[]⟩,.string ⟨#[]⟩]) 2 32 Tryz.underlying22 hi hz0 hz1 hz2 rfl av (.slice m.ta m.tn m.tc) m.tn (m.types.flatMap dP) rfl (Q1.out.later BN.out).rt ⟨wd.heap.size,0,none⟩ 1 1 (dP (rp,rr)) rfl rfl ?n1 ?n2 av bU ae (Q1.out.later BN.out).bw _ rfl ?_
   case n1 =>
    exact Cj
   case n2 => intro u hu; simp [dP] at hu; rcases hu with rfl | rfl <;> rfl
   intro g cap w6 ho6 hg6 _ _;have PX:=hid ((Q1.out).pushT BN.out (rp,rr) ho6 hg6);have z6:=hid (gJ ((Q1.out.later BN.out).blk) (Q1.out).low ((Q1.out.later BN.out).rt) hg6);clear ho6 hg6
   refine hK.out _ _ trivial (fun _ => ?_)
   clear hK K;refine tkQ (i:=9) rfl ?_;(try simp only [Act.put,sIB]);refine tkQ (i:=10) rfl ?_;(try simp only [Act.put]);refine tkQ (i:=11) rfl ?_;(try simp only [Act.put]);refine ryQ (rs:=[12]) ?_
   refine rcQ (i:=12) rfl (fun K hK => ?_) rN
   have c16 : w6.cell? ⟨R,1,none⟩ = some (.slice m.ta m.tn m.tc):=ag z6.out;have f16 : w6.frozen? ⟨R,1,none⟩ = false:=aU z6.out;go_simp
   refine hK.out _ _ trivial (fun _ => ?_)
   clear hK K;refine wpAnyH_done aj ?_ _;go_end0;exact ⟨(HK0.out.trans (KR.later B4.out)).trans PX.out.2,rfl,_,PX.out.1,sf⟩
end Go.Proofs.YtheefojaplnnoaaGreatDoor

/-
  Texts Xw Ya Yb Yd Ye At.
-/
import Derived.ArgAppend
import Derived.Below
import Derived.BigQuiet
import Derived.ChangeArms
import Derived.ChangeOld
import Derived.Deep.AppendLies
import Derived.Deep.CutRange
import Derived.Deep.DeepHandedRow
import Derived.Deep.OwnRows
import Derived.Deep.QuietTactic
import Derived.Deep.RegionHeld3
import Derived.Deep.RegionWith
import Derived.Deep.Strs
import Derived.Defers
import Derived.Ground.Names2Prog
import Derived.Handy
import Derived.KernelRfl
import Derived.LaidMore
import Derived.Laws.AppendOwnNone
import Derived.Laws.BitsAllLaws
import Derived.Laws.BytesArg
import Derived.Lay
import Derived.Lib.Bytealg
import Derived.Lib.CutLaws
import Derived.Lib.SlBytesConst
import Derived.LoopIn
import Derived.LoopNIn
import Derived.OpenShut
import Derived.OwnWalkIn
import Derived.ProofKit
import Derived.RangeFuncBox
import Derived.RangeFuncCalls
import Derived.RangeFuncLeaves
import Derived.RangeFuncWrites
import Derived.Recover
import Derived.RegionDies
import Derived.RowKit
import Derived.Shelf.Abstract
import Derived.Shelf.LaysM
import Derived.Shelf.RegionOpen
import Derived.Shelf.Slices.Cells
import Derived.Shelf.Slices.CompactI
import Derived.Shelf.Slices.In.SortNone
import Derived.Shelf.Sort.Plain
import Derived.Shelf.Strings.Search1
import Derived.Shelf.Strings.Search2
import Derived.Shelf.Strings.Search3
import Derived.Shelf.Strings.Shaped
import Derived.Shelf.Unicode.DecodeSlow
import Derived.ShutString
import Derived.SizedLaws
import Derived.TacticsInMore
import Derived.Test.YtepnnenohjfkbaaGreatDoorProg
import Derived.WalkKit
import Derived.WalkLawsBesides
import Derived.WalkMore
import Derived.WalkSpells
import Derived.Test.YtepnnenohjfkbaaGreatDoorR33
import Derived.Test.YtepnnenohjfkbaaGreatDoorS00
import Derived.Test.YtepnnenohjfkbaaGreatDoorS01
import Derived.Test.YtepnnenohjfkbaaGreatDoorS02
import Derived.Test.YtepnnenohjfkbaaGreatDoorS03
import Derived.Test.YtepnnenohjfkbaaGreatDoorS04
set_option linter.unusedVariables false
set_option maxRecDepth 100000
set_option maxHeartbeats 16000000
namespace Go.Proofs.YtepnnenohjfkbaaGreatDoor
open Go.ChangeShapes Go.WideShapes Go.ChangeAt Go.RowKit
structure Raw (W : World) (m : MM) : Prop where
 t : LsAt W 2 FSig m.ta m.tn m.tc m.types
 tg : ∀ (j : Nat) x,m.types[j]? = some x → GSig W x
 h : LsAt W 1 (fun (z : Int) => [Value.int .i64 z]) m.ha m.hn m.hc m.hosts
 hg : ∀ (j : Nat) a,m.hosts[j]? = some a → -9223372036854775808 ≤ a ∧ a < 9223372036854775808
 g : LsAt W 3 FGl m.ga m.gn m.gc m.globals
 gg : ∀ (j : Nat) x,m.globals[j]? = some x → GGl W x
 i : -9223372036854775808 ≤ m.fi ∧ m.fi < 9223372036854775808
 o : -9223372036854775808 ≤ m.mo ∧ m.mo < 9223372036854775808
 f : LsAt W 3 FFu m.fa m.fn m.fc m.fns
 fg : ∀ (j : Nat) x,m.fns[j]? = some x → GFu W x
 d : LsAt W 2 FDa m.da m.dn m.dc m.data
 dg : ∀ (j : Nat) x,m.data[j]? = some x → GDa W x
 e : LsAt W 2 FEx m.ea m.en m.ec m.exps
 eg : ∀ (j : Nat) x,m.exps[j]? = some x → GEx W x
 top : ∀ a ∈ [m.ta,m.ha,m.ga,m.fa,m.da,m.ea],∀ b off s,a = some ⟨b,off,s⟩ → b < W.heap.size
def Small (m : MM) : Prop:=tsum m.types + fsumL m.fns + dsum m.data + esum m.exps ≤ 4000
theorem le_sumX {α : Type} {f : α → Nat} {l : List α} {x : α} (h : x ∈ l) : f x ≤ (l.map f).sum:=le_sum_of (List.mem_map.2 ⟨x,h,rfl⟩)
theorem szG_each : ∀ (xs : List InM) (z : Nat),szG xs z ≤ 4000 → z ≤ 4000 ∧ ∀ x ∈ xs,x.2.2.1.2.1 ≤ 4000
 | [],z,h => ⟨h,fun x hx => by cases hx⟩
 | y :: r,z,h => by
  by_cases hz : z ≤ 2147483647
  ·rw [szG_pos hz] at h
   obtain ⟨h1,h2⟩:=szG_each r _ h
   refine ⟨by omega,fun x hx => ?_⟩
   rcases List.mem_cons.1 hx with rfl | hx
   ·omega
   ·exact h2 x hx
  ·rw [szG_neg hz] at h
   omega
section
variable {W : World} {m : MM}
theorem LsAt.sig {a : Option Addr} {n cap : Nat} {xs : List Sg} (h : LsAt W 2 FSig a n cap xs) : AtSig W a n xs :=
 ⟨h.len,h.at_.imp id fun ⟨b,off,e,hc⟩ => ⟨b,off,e,fun j x hj => ⟨hc j x hj 0 _ rfl,hc j x hj 1 _ rfl⟩⟩⟩
theorem LsAt.nu {a : Option Addr} {n cap : Nat} {xs : List Int} (h : LsAt W 1 (fun (z : Int) => [Value.int .i64 z]) a n cap xs) : AtNu W a n xs :=
 ⟨h.len,h.at_.imp id fun ⟨b,off,e,hc⟩ => ⟨b,off,e,fun j x hj => by have:=hc j x hj 0 _ rfl; rwa [Nat.mul_one] at this⟩⟩
theorem LsAt.gl {a : Option Addr} {n cap : Nat} {xs : List Gl} (h : LsAt W 3 FGl a n cap xs) : AtGl W a n xs :=
 ⟨h.len,h.at_.imp id fun ⟨b,off,e,hc⟩ => ⟨b,off,e,fun j x hj => ⟨hc j x hj 0 _ rfl,hc j x hj 1 _ rfl,hc j x hj 2 _ rfl⟩⟩⟩
theorem LsAt.fu {a : Option Addr} {n cap : Nat} {xs : List FuM} (h : LsAt W 3 FFu a n cap xs) : AtFu W a n xs :=
 ⟨h.len,h.at_.imp id fun ⟨b,off,e,hc⟩ => ⟨b,off,e,fun j x hj => ⟨hc j x hj 0 _ rfl,hc j x hj 1 _ rfl,hc j x hj 2 _ rfl⟩⟩⟩
theorem LsAt.in_ {a : Option Addr} {n cap : Nat} {xs : List InM} (h : LsAt W 3 FIn a n cap xs) : AtIn W a n xs :=
 ⟨h.len,h.at_.imp id fun ⟨b,off,e,hc⟩ => ⟨b,off,e,fun j x hj => ⟨hc j x hj 0 _ rfl,hc j x hj 1 _ rfl,hc j x hj 2 _ rfl⟩⟩⟩
theorem LsAt.da {a : Option Addr} {n cap : Nat} {xs : List DaM} (h : LsAt W 2 FDa a n cap xs) : AtDa W a n xs :=
 ⟨h.len,h.at_.imp id fun ⟨b,off,e,hc⟩ => ⟨b,off,e,fun j x hj => ⟨hc j x hj 0 _ rfl,hc j x hj 1 _ rfl⟩⟩⟩
theorem LsAt.ex {a : Option Addr} {n cap : Nat} {xs : List Ex} (h : LsAt W 2 FEx a n cap xs) : AtEx W a n xs :=
 ⟨h.len,h.at_.imp id fun ⟨b,off,e,hc⟩ => ⟨b,off,e,fun j x hj => ⟨hc j x hj 0 _ rfl,hc j x hj 1 _ rfl⟩⟩⟩
theorem LsAt.segI {a : Option Addr} {n cap : Nat} {xs : List Int} (h : LsAt W 1 (fun (z : Int) => [Value.int .i64 z]) a n cap xs) (hr : ∀ (j : Nat) a,xs[j]? = some a → -9223372036854775808 ≤ a ∧ a < 9223372036854775808) (hn : n ≤ 4000) : SegI W a n cap xs:=by
 refine ⟨h.len,h.cap_,by omega,fun z hz => ?_,h.at_.imp id fun ⟨b,off,e,hc⟩ => ⟨b,off,e,fun j hj => ?_⟩⟩
 ·obtain ⟨j,hj⟩:=List.getElem?_of_mem hz
  have:=hr j z hj
  omega
 ·have hl:=h.len
  have hx : xs[j]? = some (xs[j]'(by omega)):=List.getElem?_eq_getElem _
  have:=hc j _ hx 0 _ rfl
  rw [Nat.mul_one] at this
  rw [List.getD_eq_getElem?_getD,hx]
  exact this
theorem LsAt.segB {a : Option Addr} {n cap : Nat} {xs : List Int} (h : LsAt W 1 (fun (z : Int) => [Value.int .u8 z]) a n cap xs) (hr : ∀ (j : Nat) a,xs[j]? = some a → 0 ≤ a ∧ a ≤ 255) (hn : n ≤ 4000) : Seg W a n cap xs:=by
 refine ⟨h.len,h.cap_,by omega,fun z hz => ?_,h.at_.imp id fun ⟨b,off,e,hc⟩ => ⟨b,off,e,fun j hj => ?_⟩⟩
 ·obtain ⟨j,hj⟩:=List.getElem?_of_mem hz
  exact hr j z hj
 ·have hl:=h.len
  have hx : xs[j]? = some (xs[j]'(by omega)):=List.getElem?_eq_getElem _
  have:=hc j _ hx 0 _ rfl
  rw [Nat.mul_one] at this
  rw [List.getD_eq_getElem?_getD,hx]
  exact this
theorem Small.parts (h : Small m) : (∀ (j : Nat) x,m.types[j]? = some x → x.1.size + x.2.size ≤ 4000) ∧ (∀ (j : Nat) x,m.fns[j]? = some x → x.2.1.size ≤ 4000 ∧ ∀ (i : Nat) y,x.2.2.2[i]? = some y → y.2.2.1.2.1 ≤ 4000) ∧ (∀ (j : Nat) x,m.data[j]? = some x → x.2.1.2.1 ≤ 4000) ∧ ∀ (j : Nat) x,m.exps[j]? = some x → x.1.size ≤ 4000:=by
 unfold Small at h
 refine ⟨fun j x hj => ?_,fun j x hj => ?_,fun j x hj => ?_,fun j x hj => ?_⟩
 ·have : x.1.size + x.2.size ≤ tsum m.types:=le_sumX (f:=fun x : Sg => x.1.size + x.2.size) (List.mem_of_getElem? hj)
  omega
 ·have : x.2.1.size + szG x.2.2.2 x.2.2.1.2.1 ≤ fsumL m.fns:=le_sumX (f:=fun x : FuM => x.2.1.size + szG x.2.2.2 x.2.2.1.2.1) (List.mem_of_getElem? hj)
  exact ⟨by omega,fun i y hi => (szG_each x.2.2.2 x.2.2.1.2.1 (by omega)).2 y (List.mem_of_getElem? hi)⟩
 ·have : x.2.1.2.1 ≤ dsum m.data:=le_sumX (f:=fun x : DaM => x.2.1.2.1) (List.mem_of_getElem? hj)
  omega
 ·have : x.1.size ≤ esum m.exps:=le_sumX (f:=fun x : Ex => x.1.size) (List.mem_of_getElem? hj)
  omega
theorem Raw.ok (h : Raw W m) (hs : Small m) : ∀ R g,W.heap.size ≤ R → W.heap.size ≤ g → MOk W R g m:=by
 intro R g hR hg
 obtain ⟨s1,s2,s3,s4⟩:=hs.parts
 have far : ∀ a ∈ [m.ta,m.ha,m.ga,m.fa,m.da,m.ea],Far W R g a:=fun a ha b off c hb => by have:=h.top a ha b off c hb; omega
 have farN : ∀ {a : Option Addr} {n : Nat},(∀ b off s,nz n a = some ⟨b,off,s⟩ → b < W.heap.size) → Far W R g (nz n a):=fun hl b off c hb => by have:=hl b off c hb; omega
 refine ⟨h.t.sig,far _ (by simp),h.h.nu,far _ (by simp),h.hg,h.g.gl,far _ (by simp),h.gg,h.i.1,h.i.2,h.o.1,h.o.2,h.f.fu,far _ (by simp),fun j x hj => ?_,h.d.da,far _ (by simp),fun j x hj => ?_,h.e.ex,far _ (by simp),fun j x hj => (h.eg j x hj).2⟩
 ·obtain ⟨q1,q2,q3,q4⟩:=h.fg j x hj
  refine ⟨q1,q3.in_,farN q3.lt,fun i y hi => ?_⟩
  obtain ⟨r1,r2,r3,r4⟩:=q4 i y hi
  exact ⟨r1,r2,r3.segI r4 ((s2 j x hj).2 i y hi),farN r3.lt⟩
 ·obtain ⟨q1,q2,q3⟩:=h.dg j x hj
  exact ⟨q1,q2.segB q3 (s3 j x hj),farN q2.lt⟩
theorem Raw.szc (h : Raw W m) : SzC W m :=
 ⟨h.t.big,h.h.big,h.g.big,h.f.big,h.d.big,h.e.big,h.tg,fun j x hj => by
  obtain ⟨q1,q2,q3,q4⟩:=h.fg j x hj
  exact ⟨q2,q3.big,q3.in_,fun i y hi => (q4 i y hi).2.2.1.big⟩,fun j x hj => (h.dg j x hj).2.1.big,fun j x hj => (h.eg j x hj).1⟩
theorem Raw.szb (h : Raw W m) (hs : Small m) : SzB W m:=by
 obtain ⟨s1,s2,s3,s4⟩:=hs.parts
 exact ⟨h.t.big,h.h.big,h.g.big,h.f.big,h.d.big,h.e.big,fun j x hj => by have:=s1 j x hj; omega,fun j x hj => by
  obtain ⟨q1,q2,q3,q4⟩:=h.fg j x hj
  exact ⟨by have:=(s2 j x hj).1; omega,q3.big,q3.in_,fun i y hi => by have:=(s2 j x hj).2 i y hi; omega⟩,fun j x hj => by have:=s3 j x hj; omega,fun j x hj => by have:=s4 j x hj; omega⟩
theorem Raw.cap (h : Raw W m) : ∀ x ∈ m.fns,x.2.2.1.2.1 ≤ x.2.2.1.2.2:=fun x hx => by
 obtain ⟨j,hj⟩:=List.getElem?_of_mem hx
 exact (h.fg j x hj).2.2.1.cap_
theorem Raw.later {W' : World} (h : Raw W m) (hb : Below W.heap.size W W') : SzC W' m ∧ AtSig W' m.ta m.tn m.types ∧ AtFu W' m.fa m.fn m.fns ∧ AtDa W' m.da m.dn m.data ∧ AtEx W' m.ea m.en m.exps:=by
 have hk : Kept (fun _ => False) W W':=kept_of hb
 have z:=h.szc
 exact ⟨⟨z.tn,z.hn,z.gn,z.fn,z.dn,z.en,z.t,fun j x hj => ⟨(z.f j x hj).1,(z.f j x hj).2.1,(z.f j x hj).2.2.1.kept hk (fun _ _ _ _ => id),(z.f j x hj).2.2.2⟩,z.d,z.e⟩,h.t.sig.kept hk (fun _ _ _ _ => id),h.f.fu.kept hk (fun _ _ _ _ => id),h.d.da.kept hk (fun _ _ _ _ => id),h.e.ex.kept hk (fun _ _ _ _ => id)⟩
end
section
variable {H : Type} {enc : TypeId × Value → H} {W : World}
theorem cell_ltX {r : Reach} {base : Nat} {u : TypeId} {a : Addr} {n c : Nat} (h : Cell.okWide Tryz.prog W r base u (.slice (some a) n c)) : a.block < W.heap.size:=by
 unfold Cell.okWide at h
 cases hu : Tryz.prog.underlying u with
 | none => simp [hu,Cell.ok] at h
 | some d =>
  cases d <;> simp [hu,Cell.ok] at h
  obtain ⟨_,_,_,_,row,cells,hsh,_⟩:=h
  unfold World.shape? at hsh
  rcases Nat.lt_or_ge a.block W.heap.size with hl | hl
  ·exact hl
  ·rw [Array.getElem?_eq_none hl] at hsh; cases hsh
theorem open_module {base : Nat} {v : Value} {d : DataW H} {ps : List MemPlace} (hval : Value.okWide Tryz.prog W .any base 29 v) (h : DataW.Trod enc Tryz.prog W 0 (fun _ => true) true 29 v d ps) (hw : ∀ n ∈ d.weights Tryz.prog 29,n ≤ reachBytes) :
  ∃ m : MM,v = .agg (mV m) ∧ Raw W m:=by
 have hval':=hval
 obtain ⟨cs,rfl,hsz⟩:=okWide_struct Tryz.underlying29 hval
 obtain ⟨fuel,hf⟩:=h
 obtain ⟨ta,tn,tc,ts,ha,hn,hc,hs,ga,gn,gc,gs,fi,mo,fa,fn,fc,fs,da,dn,dc,ds,ea,en,ec,es,hcs,⟨t1,t2⟩,⟨h1,h2⟩,⟨g1,g2⟩,i1,o1,⟨f1,f2⟩,⟨d1,d2⟩,e1,e2⟩:=open_Mod hf hw
 have e : cs.toList = [.slice ta tn tc,.slice ha hn hc,.slice ga gn gc,.int .i64 fi,.int .i64 mo,.slice fa fn fc,.slice da dn dc,.slice ea en ec]:=hcs
 have ec' : cs = #[.slice ta tn tc,.slice ha hn hc,.slice ga gn gc,.int .i64 fi,.int .i64 mo,.slice fa fn fc,.slice da dn dc,.slice ea en ec]:=by
  apply Array.toList_inj.1
  rw [e]
 refine ⟨⟨ta,tn,tc,ts,ha,hn,hc,hs,ga,gn,gc,gs,fi,mo,fa,fn,fc,fs,da,dn,dc,ds,ea,en,ec,es⟩,by rw [ec']; rfl,⟨t1,t2,h1,h2,g1,g2,i1,o1,f1,f2,d1,d2,e1,e2,?_⟩⟩
 obtain ⟨cs',hv,_,⟨tt,htt,_,hall⟩⟩ : ∃ cs',Value.agg cs = .agg cs' ∧ cs'.size = Tryz.prog.cellsOf 29 ∧ Row.okWide Tryz.prog W .any base 29 cs':=by
  have:=hval'
  simp only [Value.okWide,Tryz.underlying29] at this
  exact this
 injection hv with hv
 subst hv
 have look : ∀ (i : Nat) a n c,cs[i]? = some (.slice (some a) n c) → a.block < W.heap.size:=fun i a n c hi => by
  obtain ⟨u,_,hu⟩:=hall i _ hi
  exact cell_ltX hu
 rw [ec'] at look
 intro a hm b off s hb
 subst hb
 simp only [List.mem_cons,List.not_mem_nil,or_false] at hm
 rcases hm with hm | hm | hm | hm | hm | hm
 ·exact look 0 ⟨b,off,s⟩ tn tc (by rw [hm]; rfl)
 ·exact look 1 ⟨b,off,s⟩ hn hc (by rw [hm]; rfl)
 ·exact look 2 ⟨b,off,s⟩ gn gc (by rw [hm]; rfl)
 ·exact look 5 ⟨b,off,s⟩ fn fc (by rw [hm]; rfl)
 ·exact look 6 ⟨b,off,s⟩ dn dc (by rw [hm]; rfl)
 ·exact look 7 ⟨b,off,s⟩ en ec (by rw [hm]; rfl)
end
def mv (p i : Nat) : Nat:=if i < p then i else i + 1
def mvI (p : Nat) (z : Int) : Int:=if z < p then z else z + 1
open Go.RowKit
abbrev dO : Opn:=⟨⟨#[]⟩,⟨#[]⟩,⟨#[]⟩,0,0⟩
theorem gd_app {l : List Opn} {x : Opn} {k : Nat} (h : k < l.length) : (l ++ [x]).getD k dO = l.getD k dO:=by
 rw [List.getD_eq_getElem?_getD,List.getD_eq_getElem?_getD,List.getElem?_append_left h]
theorem gd_app' {l : List Opn} {x : Opn} {k : Nat} (h : l.length ≤ k) : (l ++ [x]).getD k dO = [x].getD (k - l.length) dO:=by
 rw [List.getD_eq_getElem?_getD,List.getD_eq_getElem?_getD,List.getElem?_append_right h]
theorem gd_drop {l : List Opn} {k : Nat} (h : k < l.length - 1) : l.dropLast.getD k dO = l.getD k dO:=by
 rw [List.getD_eq_getElem?_getD,List.getD_eq_getElem?_getD,List.getElem?_dropLast,if_pos h]
theorem gd_drop' {l : List Opn} {k : Nat} (h : ¬ k < l.length - 1) : l.dropLast.getD k dO = dO:=by
 rw [List.getD_eq_getElem?_getD,List.getElem?_dropLast,if_neg h]; rfl
structure SamO (o o' : Opn) : Prop where
 P : o'.P = o.P
 R : o'.R = o.R
 B : o'.B = o.B
 op : o'.op = o.op
structure RelS (p : Nat) (s s' : Cs) : Prop where
 st : s'.st = s.st
 len : s'.op.length = s.op.length
 o : ∀ k,SamO (s.op.getD k dO) (s'.op.getD k dO)
 pc : ∀ k,0 < k → k < s.op.length → (s'.op.getD k dO).pc = mvI p (s.op.getD k dO).pc
section
variable {p : Nat} {s s' : Cs} (h : RelS p s s')
end
section
variable {p : Nat} {s s' : Cs}
end
def Ltr (s : ByteArray) : Prop:=∀ c ∈ s.data.toList,c = 119 ∨ c = 108
theorem Ltr.nil : Ltr ⟨#[]⟩:=fun c h => by simp at h
theorem Ltr.app {a b : ByteArray} (ha : Ltr a) (hb : Ltr b) : Ltr (a ++ b):=fun c h => by
 rw [ByteArray.data_append,Array.toList_append,List.mem_append] at h
 exact h.elim (ha c) (hb c)
theorem Ltr.ext {a : ByteArray} (h : Ltr a) (i j : Nat) : Ltr (a.extract i j):=fun c hc => by
 rw [ByteArray.data_extract,Array.toList_extract] at hc
 exact h c (List.mem_of_mem_drop (List.mem_of_mem_take (by simpa [List.extract_eq_take_drop] using hc)))
theorem Ltr.of {a : ByteArray} {n : Nat} (h : Go.Proofs.YtepnnenohjfkbaaGreatDoor.lett a n = true) : Ltr a:=((lett_mem a n).1 h).1
structure LvO (o : Opn) : Prop where
 P : Ltr o.P
 R : Ltr o.R
 B : Ltr o.B
 sz : o.B.size + o.P.size ≤ 256
structure Lv (s : Cs) : Prop where
 st : Ltr s.st
 sz : s.st.size ≤ 256
 op : ∀ k,LvO (s.op.getD k dO)
theorem lvO_dO : LvO dO:=⟨.nil,.nil,.nil,by decide⟩
theorem pushV_ok {s t : ByteArray} : Ltr (pushV s t) ∧ (pushV s t).size ≤ 256:=by
 unfold pushV
 split
 ·rename_i h
  unfold pushE at h
  split at h
  ·rename_i hs
   unfold shp at hs
   rw [Bool.and_eq_true] at hs
   split at h
   ·cases h
   ·exact ⟨(Ltr.of hs.1).app (Ltr.of hs.2),by rw [ByteArray.size_append]; omega⟩
  ·cases h
 ·exact ⟨.nil,by decide⟩
theorem ext_le (a : ByteArray) (n : Nat) : (a.extract 0 n).size ≤ a.size:=by rw [ByteArray.size_extract]; omega
theorem lv_cs0 {R : ByteArray} (hR : Ltr R) (n : Nat) : Lv (cs0 R n):=by
 refine ⟨.nil,by show (0 : Nat) ≤ 256; omega,fun k => ?_⟩
 cases k with
 | zero => exact ⟨.nil,hR,.nil,by show (0 : Nat) + 0 ≤ 256; omega⟩
 | succ k => exact lvO_dO
theorem Lv.rw {s : Cs} (h : Lv s) {m : MM} (hT : ∀ a,Ltr (tyAt m a).1 ∧ Ltr (tyAt m a).2 ∧ (tyAt m a).1.size ≤ 8) (lo : List Int) {o : Opn} (ho : LvO o) (c a : Int) : Lv (rwS m lo s o c a):=by
 have ent : ∀ tk : ByteArray,Lv (entS s c tk (tyAt m a).1 (tyAt m a).2):=fun tk => by
  have e1:=ext_le s.st (s.st.size - tk.size)
  have e2:=ext_le (s.st.extract 0 (s.st.size - tk.size)) ((s.st.extract 0 (s.st.size - tk.size)).size - (tyAt m a).1.size)
  have hsz:=h.sz
  refine ⟨h.st.ext _ _,by show (s.st.extract 0 (s.st.size - tk.size)).size ≤ 256; omega,fun k => ?_⟩
  show LvO ((s.op ++ [(⟨(tyAt m a).1,(tyAt m a).2,entB s tk (tyAt m a).1,c,s.pc⟩ : Opn)]).getD k dO)
  by_cases hk : k < s.op.length
  ·rw [gd_app hk]; exact h.op k
  ·rw [gd_app' (by omega)]
   generalize k - s.op.length = q
   cases q with
   | zero =>
    refine ⟨(hT a).1,(hT a).2.1,(h.st.ext _ _).ext _ _,?_⟩
    show ((s.st.extract 0 (s.st.size - tk.size)).extract 0 ((s.st.extract 0 (s.st.size - tk.size)).size - (tyAt m a).1.size)).size + (tyAt m a).1.size ≤ 256
    have h8:=(hT a).2.2
    rw [ByteArray.size_extract]
    omega
   | succ q => exact lvO_dO
 unfold rwS
 split
 ·exact ent _
 ·split
  ·exact ent _
  ·split
   ·exact ⟨ho.B.app ho.P,by show (o.B ++ o.P).size ≤ 256; rw [ByteArray.size_append]; exact ho.sz,h.op⟩
   ·split
    ·refine ⟨h.st,h.sz,fun k => ?_⟩
     show LvO (s.op.dropLast.getD k dO)
     by_cases hk : k < s.op.length - 1
     ·rw [gd_drop hk]; exact h.op k
     ·rw [gd_drop' hk]; exact lvO_dO
    ·split
     ·exact ⟨pushV_ok.1,pushV_ok.2,h.op⟩
     ·split
      ·exact ⟨h.st.ext _ _,Nat.le_trans (ext_le _ _) h.sz,h.op⟩
      ·generalize efV m lo s o c a = E
       have key : ∀ u : ByteArray,Ltr u ∧ u.size ≤ 256 → Lv { takeS s E.1 with st:=u }:=fun u hu => ⟨hu.1,hu.2,h.op⟩
       unfold putS
       exact key _ pushV_ok
theorem Lv.vis {s : Cs} (h : Lv s) (j : Nat) : Lv (visS (atPc s j)):=⟨h.st,h.sz,h.op⟩
theorem Lv.top {s : Cs} (h : Lv s) : LvO (topO s):=h.op _
theorem lv_stA {m : MM} (hT : ∀ a,Ltr (tyAt m a).1 ∧ Ltr (tyAt m a).2 ∧ (tyAt m a).1.size ≤ 8) (lo : List Int) (xs : List Inx) {R : ByteArray} (hR : Ltr R) (n : Nat) : ∀ j,Lv (stA m lo xs R n j)
 | 0 => lv_cs0 hR n
 | j + 1 => ((lv_stA hT lo xs hR n j).vis j).rw hT lo (lv_stA hT lo xs hR n j).top _ _
def ddC (c : Int) (d : Bool) : Bool:=if c = 7 ∨ c = 9 ∨ c = 10 ∨ c = 0 then true else d
theorem rwS_keep (m : MM) (lo : List Int) (s : Cs) (o : Opn) (c a : Int) : (rwS m lo s o c a).sh = s.sh ∧ (rwS m lo s o c a).hi = s.hi ∧ (rwS m lo s o c a).dead = ddC c s.dead:=by
 unfold rwS ddC
 by_cases h1 : c = 2 ∨ c = 3
 ·rw [if_pos h1,if_neg (by omega)]; exact ⟨rfl,rfl,rfl⟩
 rw [if_neg h1]
 by_cases h2 : c = 4
 ·rw [if_pos h2,if_neg (by omega)]; exact ⟨rfl,rfl,rfl⟩
 rw [if_neg h2]
 by_cases h3 : c = 5
 ·rw [if_pos h3,if_neg (by omega)]; exact ⟨rfl,rfl,rfl⟩
 rw [if_neg h3]
 by_cases h4 : c = 6
 ·rw [if_pos h4,if_neg (by omega)]; exact ⟨rfl,rfl,rfl⟩
 rw [if_neg h4]
 by_cases h5 : c = 7 ∨ c = 9 ∨ c = 10 ∨ c = 0
 ·rw [if_pos h5,if_pos h5]; exact ⟨rfl,rfl,rfl⟩
 rw [if_neg h5,if_neg h5]
 by_cases h6 : c = 8
 ·rw [if_pos h6]; exact ⟨rfl,rfl,rfl⟩
 rw [if_neg h6]
 generalize efV m lo s o c a = E
 have key : ∀ u : ByteArray,({ takeS s E.1 with st:=u } : Cs).sh = s.sh ∧ ({ takeS s E.1 with st:=u } : Cs).hi = s.hi ∧ ({ takeS s E.1 with st:=u } : Cs).dead = s.dead:=fun u => ⟨rfl,rfl,rfl⟩
 unfold putS
 exact key _
theorem sh_len (m : MM) (lo : List Int) (xs : List Inx) (R : ByteArray) (n : Nat) : ∀ j,(stA m lo xs R n j).sh.length = n
 | 0 => List.length_replicate
 | j + 1 => by
  show (rwS m lo (visS (atPc (stA m lo xs R n j) j)) _ _ _).sh.length = n
  rw [(rwS_keep m lo _ _ _ _).1]
  show ((stA m lo xs R n j).sh.set _ _).length = n
  rw [List.length_set]
  exact sh_len m lo xs R n j
section
variable {m : MM} {lo : List Int} {xs ys : List Inx} {R : ByteArray} {n p : Nat}
end
theorem planAt_out (a : Option Addr) (n cap : Nat) (pc : Int) (w : World) (hp : pc < 0 ∨ (n : Int) ≤ pc) :
  Calls Tryz.prog 35 #[.slice a n cap,.int .i64 pc] w fun e w' => e = .returned (.tuple #[.agg #[nilV,nilV,nilV],.bool false]) ∧ Below w.heap.size w w':=by
 go_enter Tryz.func35,Tryz.ntmps35
 have HB:=hid ((Below.refl w.heap.size w).alloc (Nat.le_refl _) (Obj.cells #[nilV,nilV,nilV] 78))
 by_cases h : pc < 0
 ·go_wp2_with fail
  refine bodyPost_ret (v:=.tuple #[.agg #[nilV,nilV,nilV],.bool false]) ?_ rfl ⟨rfl,HB.out⟩
  rw [results_cell_tmp rfl]
  go_simp
 ·have h2 : (n : Int) ≤ pc:=by omega
  go_wp2_with fail
  refine bodyPost_ret (v:=.tuple #[.agg #[nilV,nilV,nilV],.bool false]) ?_ rfl ⟨rfl,HB.out⟩
  rw [results_cell_tmp rfl]
  go_simp
theorem planAt_in (a : Option Addr) (n cap : Nat) (xs : List Inx) (pc : Nat) (w : World) (hn : n ≤ 1048576) (hcap : n ≤ cap) (hc : CodS w a n xs) (hp : pc < n) :
  Calls Tryz.prog 35 #[.slice a n cap,.int .i64 pc] w fun e w' => ∃ a1 a2 a3 m,e = .returned (.tuple #[.agg #[.slice a1 m m,.slice a2 m m,.slice a3 m m],.bool (decide ((res (opF xs) n 0).1 = 0))]) ∧ MapO (opF xs) n w.heap.size w' a1 a2 a3 m ∧ Below w.heap.size w w':=by
 have hb0:=(Below.refl w.heap.size w).alloc (Nat.le_refl _) (Obj.cells #[nilV,nilV,nilV] 78)
 have H1:=hid (map_in a n cap xs _ hn hcap (hc.later hb0 (Nat.le_refl _)))
 have hp1 : ¬ (pc : Int) < 0:=by omega
 have hp2 : ¬ (n : Int) ≤ (pc : Int):=by omega
 have HB0:=hid hb0
 clear hc hb0
 go_enter Tryz.func35,Tryz.ntmps35
 go_wp2_with fail
 refine H1.out.mono ?_
 rintro e w1 ⟨a1,a2,a3,m,rfl,hM,hb1⟩
 have q : ∀ j,j < 3 → w1.cell? ⟨w.heap.size,j,none⟩ = some nilV:=fun j hj => by
  rw [hb1.cell (p:=⟨w.heap.size,j,none⟩) (by simp),World.cell?_alloc_new]
  rcases j with _ | _ | _ | j <;> first | rfl | omega
 have f : ∀ j,w1.frozen? ⟨w.heap.size,j,none⟩ = false:=fun j => by
  rw [frozen_of_block (hb1.block w.heap.size (by simp))]; simp
 have q0:=q 0 (by omega)
 have q1:=q 1 (by omega)
 have q2:=q 2 (by omega)
 have f0:=f 0
 have f1:=f 1
 have f2:=f 2
 have hs1:=hb1.size
 simp only [World.size_alloc] at hs1
 have hb2 : Below w.heap.size w w1:=HB0.out.trans (hb1.mono (by simp))
 have hb3:=((hb2.setCell (p:=⟨w.heap.size,0,none⟩) (by simp) (.slice a1 m m)).setCell (p:=⟨w.heap.size,1,none⟩) (by simp) (.slice a2 m m)).setCell (p:=⟨w.heap.size,2,none⟩) (by simp) (.slice a3 m m)
 have hK : Kept (fun k => k = w.heap.size) w1 (((w1.setCell ⟨w.heap.size,0,none⟩ (.slice a1 m m)).setCell ⟨w.heap.size,1,none⟩ (.slice a2 m m)).setCell ⟨w.heap.size,2,none⟩ (.slice a3 m m)):=by
  refine ⟨rfl,rfl,rfl,by simp,fun k hk hs => ?_⟩
  rw [heap_setCell_other _ _ _ _ (fun e => hs e),heap_setCell_other _ _ _ _ (fun e => hs e),heap_setCell_other _ _ _ _ (fun e => hs e)]
 have HM:=hid hM
 have HB:=hid hb3
 have HK:=hid hK
 clear hM hb1 hb2 hb3 hK q f HB0
 have hs2 : w.heap.size + 1 ≤ w1.heap.size:=hs1
 by_cases h0 : (res (opF xs) n 0).1 = 0
 ·have hz : ((res (opF xs) n 0).1 == 0) = true:=by rw [h0]; rfl
  have H0:=hid h0
  clear h0
  generalize hr1 : (res (opF xs) n 0).1 = r1 at *
  generalize hr2 : (res (opF xs) n 0).2 = r2 at *
  go_wp2_with fail
  refine bodyPost_ret (v:=.tuple #[.agg #[.slice a1 m m,.slice a2 m m,.slice a3 m m],.bool true]) ?_ rfl ⟨a1,a2,a3,m,?_,?_,HB.out⟩
  ·rw [results_cell_tmp rfl]
   go_simp
  ·rw [hr1,H0.out]; rfl
  ·exact HM.out.keep HK.out (fun k hk e => by simp only [World.size_alloc] at hk; omega) (by simp)
 ·have hz : ((res (opF xs) n 0).1 == 0) = false:=by simpa using h0
  have H0:=hid h0
  clear h0
  generalize hr1 : (res (opF xs) n 0).1 = r1 at *
  generalize hr2 : (res (opF xs) n 0).2 = r2 at *
  go_wp2_with fail
  refine bodyPost_ret (v:=.tuple #[.agg #[.slice a1 m m,.slice a2 m m,.slice a3 m m],.bool false]) ?_ rfl ⟨a1,a2,a3,m,?_,?_,HB.out⟩
  ·rw [results_cell_tmp rfl]
   go_simp
  ·rw [hr1,decide_eq_false H0.out]
  ·exact HM.out.keep HK.out (fun k hk e => by simp only [World.size_alloc] at hk; omega) (by simp)
def labz (O : Nat → Int) (i : Nat) : List Int:=(stk O i).map (fun t : Nat => (t : Int)) ++ [-1]
def rst (O : Nat → Int) (q : Int) : List Int:=if q = -1 then [] else labz O q.toNat
theorem labs_step (O : Nat → Int) (i : Nat) : labz O i = top (stk O i) :: rst O (top (stk O i)):=by
 rcases stk_cases O i with h | ⟨t,ht,hO,h⟩
 ·unfold labz; rw [h]; rfl
 ·unfold labz; rw [h]
  have : ¬ (t : Int) = -1:=by omega
  simp [top,rst,this,labz]
theorem top_lt (O : Nat → Int) (i : Nat) : -1 ≤ top (stk O i) ∧ top (stk O i) < i:=by
 rcases stk_cases O i with h | ⟨t,ht,hO,h⟩
 ·rw [h]; simp [top]; omega
 ·rw [h]; simp [top]; omega
theorem labs_len {O : Nat → Int} {k : Nat} (h : Okp O k) : (labz O k).length ≤ 33:=by
 have:=stk_len h
 simp [labz]; exact this
theorem labs_mem {O : Nat → Int} {i : Nat} : ∀ z ∈ labz O i,-1 ≤ z ∧ z < i:=fun z hz => by
 simp only [labz,List.mem_append,List.mem_map,List.mem_singleton] at hz
 rcases hz with ⟨t,ht,rfl⟩ | rfl
 ·have:=(stk_mem O i t ht).1; omega
 ·omega
theorem good_okp {O : Nat → Int} {n i : Nat} (h : Good O n) (hi : i < n) : Okp O i:=fun j hj => h.2.1 j (by omega)
theorem labels (A B C n i : Nat) (O : Nat → Int) (w : World) (hn : n ≤ 1048576) (hi : i < n) (hl : (labz O i).length ≤ 33) (hC : RI w C n (owF O n)) :
  Calls Tryz.prog 36 #[planV A B C n,.int .i64 i] w fun e w' => ∃ v,e = .returned v ∧ LI w' w.heap.size v (labz O i) ∧ Below w.heap.size w w':=by
 unfold planV
 obtain ⟨op,hop⟩ : ∃ op,op = Obj.cells #[Value.slice (some ⟨A,0,none⟩) n n,.slice (some ⟨B,0,none⟩) n n,.slice (some ⟨C,0,none⟩) n n] 78:=⟨_,rfl⟩
 have hCl:=hC.lt
 have hC1:=hC.kept (Kept.alloc (fun _ => False) w op) (fun x => x)
 have p2 : (w.alloc op).cell? ⟨w.heap.size,2,none⟩ = some (.slice (some ⟨C,0,none⟩) n n):=by rw [hop,World.cell?_alloc_new]; rfl
 have hb0:=(Below.refl w.heap.size w).alloc (Nat.le_refl _) op
 have hs1 : (w.alloc op).heap.size = w.heap.size + 1:=by simp
 have HC:=hid hC1
 have HP2:=hid p2
 have HB0:=hid hb0
 have HL:=hid hl
 clear hC hC1 p2 hb0 hl
 subst hop
 go_enter Tryz.func36,Tryz.ntmps36
 go_wp2_with fail
 generalize hw1 : w.alloc (Obj.cells #[Value.slice (some ⟨A,0,none⟩) n n,.slice (some ⟨B,0,none⟩) n n,.slice (some ⟨C,0,none⟩) n n] 78) = w1 at *
 go_loopw [1,5] (fun p v wr => ∃ (q : Int) (l : List Int),p = .int .i64 q ∧ -1 ≤ q ∧ q < n ∧ LI wr (w.heap.size + 1) v l ∧ l ++ rst O q = labz O i ∧ Below (w.heap.size + 1) w1 wr) (fun p _ _ => (intOf p + 1).toNat)
 case atStart =>
  refine ⟨(i : Int),[],rfl,by omega,by omega,LI.nil _ _,?_,Below.refl _ _⟩
  have : ¬ (i : Int) = -1:=by omega
  simp [rst,this]
 case round =>
  obtain ⟨q,l,rfl,hq0,hq1,hli,he,hb⟩:=hrel
  obtain ⟨la,lc,rfl⟩:=hli.slice
  have hsz:=hb.size
  by_cases hq : q = -1
  ·subst hq
   have hl2 : l = labz O i:=by rw [← he]; simp [rst]
   subst hl2
   have HLI:=hid hli
   have HB:=hid hb
   clear hli hb he
   go_wp2_with fail
   go_ret
   exact ⟨_,rfl,HLI.out.mono (by omega),HB0.out.trans (HB.out.mono (by omega))⟩
  ·obtain ⟨j,rfl⟩ : ∃ j : Nat,q = (j : Int):=⟨q.toNat,by omega⟩
   have hj : j < n:=by omega
   have hz : owF O n j = top (stk O j):=by unfold owF; rw [if_pos hj]
   have c1 : wr.cell? ⟨C,j,none⟩ = some (.int .i64 (top (stk O j))):=by
    rw [hb.cell (p:=⟨C,j,none⟩) (by simp only; omega),HC.out.cell j hj,hz]
   have c2 : wr.cell? ⟨w.heap.size,2,none⟩ = some (.slice (some ⟨C,0,none⟩) n n):=by
    rw [hb.cell (p:=⟨w.heap.size,2,none⟩) (by simp only; omega),HP2.out]
   have hr : rst O (j : Int) = labz O j:=by
    have : ¬ (j : Int) = -1:=by omega
    simp [rst,this]
   rw [hr,labs_step] at he
   have htl:=top_lt O j
   have hll : l.length ≤ 1073741824:=by
    have h1:=HL.out
    rw [← he] at h1
    simp at h1; omega
   have HE:=hid he
   have hjb : ((j : Int) != -1) = true:=by simp
   generalize top (stk O j) = z at *
   have hal:=hli.later ((Below.refl wr.heap.size wr).alloc (Nat.le_refl _) (.cells #[.int .i64 z] 3)) (Nat.le_refl _)
   have HLI:=hid hal
   have HB:=hid (hb.alloc (by omega) (.cells #[.int .i64 z] 3))
   clear hli hb he hal hz hr
   have hsa : w.heap.size + 1 ≤ (wr.alloc (.cells #[.int .i64 z] 3)).heap.size:=by simp; omega
   go_wp2_with (first
    | (at_builtin; refine app_int _ rfl (.tmp 13) (.tmp 15) rfl (w.heap.size + 1) _ l rfl HLI.out hsa ⟨wr.heap.size,0,none⟩ z rfl (by simp [Addr.add]) hll ?_; intro B1 cap1 w2 hL2 hB2 hb2; have HL2:=hid hL2; have HB2:=hid (HB.out.trans hb2); clear hL2 hb2))
   refine ⟨⟨z,l ++ [z],rfl,by omega,by omega,HL2.out,?_,HB2.out⟩,?_⟩
   ·rw [List.append_assoc]; exact HE.out
   ·simp only [intOf]; omega
def labV (O : Nat → Int) (n : Nat) (pc : Int) : List Int:=if (res O n 0).1 = 0 ∧ 0 ≤ pc ∧ pc < n then labz O pc.toNat else []
theorem labelsC (a : Option Addr) (n cap : Nat) (xs : List Inx) (pc : Int) (w : World) (hn : n ≤ 1048576) (hcap : n ≤ cap) (hc : CodS w a n xs) :
  Calls Tryz.prog 13 #[.slice a n cap,.int .i64 pc] w fun e w' => ∃ v,e = .returned v ∧ LI w' w.heap.size v (labV (opF xs) n pc) ∧ Below w.heap.size w w':=by
 by_cases hp : pc < 0 ∨ (n : Int) ≤ pc
 ·have H1:=hid (planAt_out a n cap pc w hp)
  have hv : labV (opF xs) n pc = []:=by unfold labV; rw [if_neg (by omega)]
  rw [hv]
  clear hv hp hc
  go_enter Tryz.func13,Tryz.ntmps13
  go_wp2_with fail
  refine H1.out.mono ?_
  rintro e w1 ⟨rfl,hb⟩
  have HB:=hid (hb.alloc hb.size (Obj.cells #[nilV,nilV,nilV] 78))
  go_wp2_with fail
  go_ret
  exact ⟨_,rfl,LI.nil _ _,HB.out⟩
 obtain ⟨j,rfl⟩ : ∃ j : Nat,pc = (j : Int):=⟨pc.toNat,by omega⟩
 have hj : j < n:=by omega
 have H1:=hid (planAt_in a n cap xs j w hn hcap hc hj)
 clear hp hc
 go_enter Tryz.func13,Tryz.ntmps13
 go_wp2_with fail
 refine H1.out.mono ?_
 rintro e w1 ⟨a1,a2,a3,m,rfl,hM,hb⟩
 have hbs:=hb.size
 rcases hM with ⟨h0,rfl,rfl,rfl,rfl⟩ | ⟨hr,hg,rfl,A,B,C,x1,x2,x3,x4,x5,x6,rfl,rfl,rfl,y1,y2,y3⟩
 ·rw [decide_eq_false h0]
  have hv : labV (opF xs) n j = []:=by unfold labV; rw [if_neg (fun x => h0 x.1)]
  have HV:=hid hv
  have HB:=hid (hb.alloc hb.size (Obj.cells #[nilV,nilV,nilV] 78))
  clear hb hv
  go_wp2_with fail
  go_ret
  exact ⟨_,rfl,by rw [HV.out]; exact LI.nil _ _,HB.out⟩
 ·have h0 : (res (opF xs) m 0).1 = 0:=by rw [hr]
  rw [decide_eq_true h0]
  have hv : labV (opF xs) m j = labz (opF xs) j:=by unfold labV; rw [if_pos ⟨h0,by omega,by omega⟩,Int.toNat_natCast]
  have HV:=hid hv
  have hb2:=hb.alloc hb.size (Obj.cells #[Value.slice (some ⟨A,0,none⟩) m m,.slice (some ⟨B,0,none⟩) m m,.slice (some ⟨C,0,none⟩) m m] 78)
  have H2:=hid (labels A B C m j (opF xs) (w1.alloc (Obj.cells #[Value.slice (some ⟨A,0,none⟩) m m,.slice (some ⟨B,0,none⟩) m m,.slice (some ⟨C,0,none⟩) m m] 78)) hn hj (labs_len (good_okp hg hj)) (y3.kept (Kept.alloc (fun _ => False) w1 _) (fun x => x)))
  have HB:=hid hb2
  unfold planV at H2
  clear hb hb2 y1 y2 y3 hg hr h0 hv
  go_wp2_with fail
  refine H2.out.mono ?_
  rintro e w3 ⟨v,rfl,hli,hb3⟩
  have HLI:=hid hli
  have HB3:=hid (HB.out.trans (hb3.mono (by simp; omega)))
  have hszz : w.heap.size ≤ w1.heap.size + 1:=by omega
  clear hli hb3
  go_wp2_with fail
  go_ret
  exact ⟨_,rfl,by rw [HV.out]; exact HLI.out.mono (by simp; omega),HB3.out⟩
end Go.Proofs.YtepnnenohjfkbaaGreatDoor

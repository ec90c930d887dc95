/-
  Texts Mb Ik Il.
-/
import Derived.ChangeMaps5
import Derived.Test.YtepcmfegggdjfaaGreatDoorQ43
import Derived.Test.YtepcmfegggdjfaaGreatDoorQ44
import Derived.Test.YtepcmfegggdjfaaGreatDoorQ45
set_option linter.unusedVariables false
set_option maxRecDepth 100000
set_option maxHeartbeats 16000000
namespace Go.Proofs.YtepcmfegggdjfaaGreatDoor
open Go.ChangeShapes Go.WideShapes Go.ChangeAt Go.RowKit
structure Raw (W : World) (m : MM) : Prop where
 t : LsAt W 2 FSig m.ta m.tn m.tc m.types
 tg : ∀ (j : Nat) x,m.types[j]? = some x → GSig W x
 h : LsAt W 1 (fun (z : Int) => [Value.int .i64 z]) m.ha m.hn m.hc m.hosts
 hg : ∀ (j : Nat) a,m.hosts[j]? = some a → -9223372036854775808 ≤ a ∧ a < 9223372036854775808
 g : LsAt W 3 FGl m.ga m.gn m.gc m.globals
 gg : ∀ (j : Nat) x,m.globals[j]? = some x → GGl W x
 i : -9223372036854775808 ≤ m.fi ∧ m.fi < 9223372036854775808
 o : -9223372036854775808 ≤ m.mo ∧ m.mo < 9223372036854775808
 f : LsAt W 3 FFu m.fa m.fn m.fc m.fns
 fg : ∀ (j : Nat) x,m.fns[j]? = some x → GFu W x
 d : LsAt W 2 FDa m.da m.dn m.dc m.data
 dg : ∀ (j : Nat) x,m.data[j]? = some x → GDa W x
 e : LsAt W 2 FEx m.ea m.en m.ec m.exps
 eg : ∀ (j : Nat) x,m.exps[j]? = some x → GEx W x
 top : ∀ a ∈ [m.ta,m.ha,m.ga,m.fa,m.da,m.ea],∀ b off s,a = some ⟨b,off,s⟩ → b < W.heap.size
def Small (m : MM) : Prop:=tsum m.types + fsumL m.fns + dsum m.data + esum m.exps ≤ 20000
theorem le_sum_of {l : List Nat} {x : Nat} (h : x ∈ l) : x ≤ l.sum:=by
 induction l with
 | nil => cases h
 | cons a l ih =>
  rcases List.mem_cons.1 h with rfl | h
  ·simp
  ·have:=ih h; simp; omega
theorem le_sumX {α : Type} {f : α → Nat} {l : List α} {x : α} (h : x ∈ l) : f x ≤ (l.map f).sum:=le_sum_of (List.mem_map.2 ⟨x,h,rfl⟩)
theorem szG_each : ∀ (xs : List InM) (z : Nat),szG xs z ≤ 20000 → z ≤ 20000 ∧ ∀ x ∈ xs,x.2.2.1.2.1 ≤ 20000
 | [],z,h => ⟨h,fun x hx => by cases hx⟩
 | y :: r,z,h => by
  by_cases hz : z ≤ 2147483647
  ·rw [szG_pos hz] at h
   obtain ⟨h1,h2⟩:=szG_each r _ h
   refine ⟨by omega,fun x hx => ?_⟩
   rcases List.mem_cons.1 hx with rfl | hx
   ·omega
   ·exact h2 x hx
  ·rw [szG_neg hz] at h
   omega
section
variable {W : World} {m : MM}
theorem LsAt.sig {a : Option Addr} {n cap : Nat} {xs : List Sg} (h : LsAt W 2 FSig a n cap xs) : AtSig W a n xs :=
 ⟨h.len,h.at_.imp id fun ⟨b,off,e,hc⟩ => ⟨b,off,e,fun j x hj => ⟨hc j x hj 0 _ rfl,hc j x hj 1 _ rfl⟩⟩⟩
theorem LsAt.nu {a : Option Addr} {n cap : Nat} {xs : List Int} (h : LsAt W 1 (fun (z : Int) => [Value.int .i64 z]) a n cap xs) : AtNu W a n xs :=
 ⟨h.len,h.at_.imp id fun ⟨b,off,e,hc⟩ => ⟨b,off,e,fun j x hj => by have:=hc j x hj 0 _ rfl; rwa [Nat.mul_one] at this⟩⟩
theorem LsAt.gl {a : Option Addr} {n cap : Nat} {xs : List Gl} (h : LsAt W 3 FGl a n cap xs) : AtGl W a n xs :=
 ⟨h.len,h.at_.imp id fun ⟨b,off,e,hc⟩ => ⟨b,off,e,fun j x hj => ⟨hc j x hj 0 _ rfl,hc j x hj 1 _ rfl,hc j x hj 2 _ rfl⟩⟩⟩
theorem LsAt.fu {a : Option Addr} {n cap : Nat} {xs : List FuM} (h : LsAt W 3 FFu a n cap xs) : AtFu W a n xs :=
 ⟨h.len,h.at_.imp id fun ⟨b,off,e,hc⟩ => ⟨b,off,e,fun j x hj => ⟨hc j x hj 0 _ rfl,hc j x hj 1 _ rfl,hc j x hj 2 _ rfl⟩⟩⟩
theorem LsAt.in_ {a : Option Addr} {n cap : Nat} {xs : List InM} (h : LsAt W 3 FIn a n cap xs) : AtIn W a n xs :=
 ⟨h.len,h.at_.imp id fun ⟨b,off,e,hc⟩ => ⟨b,off,e,fun j x hj => ⟨hc j x hj 0 _ rfl,hc j x hj 1 _ rfl,hc j x hj 2 _ rfl⟩⟩⟩
theorem LsAt.da {a : Option Addr} {n cap : Nat} {xs : List DaM} (h : LsAt W 2 FDa a n cap xs) : AtDa W a n xs :=
 ⟨h.len,h.at_.imp id fun ⟨b,off,e,hc⟩ => ⟨b,off,e,fun j x hj => ⟨hc j x hj 0 _ rfl,hc j x hj 1 _ rfl⟩⟩⟩
theorem LsAt.ex {a : Option Addr} {n cap : Nat} {xs : List Ex} (h : LsAt W 2 FEx a n cap xs) : AtEx W a n xs :=
 ⟨h.len,h.at_.imp id fun ⟨b,off,e,hc⟩ => ⟨b,off,e,fun j x hj => ⟨hc j x hj 0 _ rfl,hc j x hj 1 _ rfl⟩⟩⟩
theorem LsAt.segI {a : Option Addr} {n cap : Nat} {xs : List Int} (h : LsAt W 1 (fun (z : Int) => [Value.int .i64 z]) a n cap xs) (hr : ∀ (j : Nat) a,xs[j]? = some a → -9223372036854775808 ≤ a ∧ a < 9223372036854775808) (hn : n ≤ 20000) : SegI W a n cap xs:=by
 refine ⟨h.len,h.cap_,by omega,fun z hz => ?_,h.at_.imp id fun ⟨b,off,e,hc⟩ => ⟨b,off,e,fun j hj => ?_⟩⟩
 ·obtain ⟨j,hj⟩:=List.getElem?_of_mem hz
  have:=hr j z hj
  omega
 ·have hl:=h.len
  have hx : xs[j]? = some (xs[j]'(by omega)):=List.getElem?_eq_getElem _
  have:=hc j _ hx 0 _ rfl
  rw [Nat.mul_one] at this
  rw [List.getD_eq_getElem?_getD,hx]
  exact this
theorem LsAt.segB {a : Option Addr} {n cap : Nat} {xs : List Int} (h : LsAt W 1 (fun (z : Int) => [Value.int .u8 z]) a n cap xs) (hr : ∀ (j : Nat) a,xs[j]? = some a → 0 ≤ a ∧ a ≤ 255) (hn : n ≤ 20000) : Seg W a n cap xs:=by
 refine ⟨h.len,h.cap_,by omega,fun z hz => ?_,h.at_.imp id fun ⟨b,off,e,hc⟩ => ⟨b,off,e,fun j hj => ?_⟩⟩
 ·obtain ⟨j,hj⟩:=List.getElem?_of_mem hz
  exact hr j z hj
 ·have hl:=h.len
  have hx : xs[j]? = some (xs[j]'(by omega)):=List.getElem?_eq_getElem _
  have:=hc j _ hx 0 _ rfl
  rw [Nat.mul_one] at this
  rw [List.getD_eq_getElem?_getD,hx]
  exact this
theorem Small.parts (h : Small m) : (∀ (j : Nat) x,m.types[j]? = some x → x.1.size + x.2.size ≤ 20000) ∧ (∀ (j : Nat) x,m.fns[j]? = some x → x.2.1.size ≤ 20000 ∧ ∀ (i : Nat) y,x.2.2.2[i]? = some y → y.2.2.1.2.1 ≤ 20000) ∧ (∀ (j : Nat) x,m.data[j]? = some x → x.2.1.2.1 ≤ 20000) ∧ ∀ (j : Nat) x,m.exps[j]? = some x → x.1.size ≤ 20000:=by
 unfold Small at h
 refine ⟨fun j x hj => ?_,fun j x hj => ?_,fun j x hj => ?_,fun j x hj => ?_⟩
 ·have : x.1.size + x.2.size ≤ tsum m.types:=le_sumX (f:=fun x : Sg => x.1.size + x.2.size) (List.mem_of_getElem? hj)
  omega
 ·have : x.2.1.size + szG x.2.2.2 x.2.2.1.2.1 ≤ fsumL m.fns:=le_sumX (f:=fun x : FuM => x.2.1.size + szG x.2.2.2 x.2.2.1.2.1) (List.mem_of_getElem? hj)
  exact ⟨by omega,fun i y hi => (szG_each x.2.2.2 x.2.2.1.2.1 (by omega)).2 y (List.mem_of_getElem? hi)⟩
 ·have : x.2.1.2.1 ≤ dsum m.data:=le_sumX (f:=fun x : DaM => x.2.1.2.1) (List.mem_of_getElem? hj)
  omega
 ·have : x.1.size ≤ esum m.exps:=le_sumX (f:=fun x : Ex => x.1.size) (List.mem_of_getElem? hj)
  omega
theorem Raw.ok (h : Raw W m) (hs : Small m) : ∀ R g,W.heap.size ≤ R → W.heap.size ≤ g → MOk W R g m:=by
 intro R g hR hg
 obtain ⟨s1,s2,s3,s4⟩:=hs.parts
 have far : ∀ a ∈ [m.ta,m.ha,m.ga,m.fa,m.da,m.ea],Far W R g a:=fun a ha b off c hb => by have:=h.top a ha b off c hb; omega
 have farN : ∀ {a : Option Addr} {n : Nat},(∀ b off s,nz n a = some ⟨b,off,s⟩ → b < W.heap.size) → Far W R g (nz n a):=fun hl b off c hb => by have:=hl b off c hb; omega
 refine ⟨h.t.sig,far _ (by simp),h.h.nu,far _ (by simp),h.hg,h.g.gl,far _ (by simp),h.gg,h.i.1,h.i.2,h.o.1,h.o.2,h.f.fu,far _ (by simp),fun j x hj => ?_,h.d.da,far _ (by simp),fun j x hj => ?_,h.e.ex,far _ (by simp),fun j x hj => (h.eg j x hj).2⟩
 ·obtain ⟨q1,q2,q3,q4⟩:=h.fg j x hj
  refine ⟨q1,q3.in_,farN q3.lt,fun i y hi => ?_⟩
  obtain ⟨r1,r2,r3,r4⟩:=q4 i y hi
  exact ⟨r1,r2,r3.segI r4 ((s2 j x hj).2 i y hi),farN r3.lt⟩
 ·obtain ⟨q1,q2,q3⟩:=h.dg j x hj
  exact ⟨q1,q2.segB q3 (s3 j x hj),farN q2.lt⟩
theorem Raw.szc (h : Raw W m) : SzC W m :=
 ⟨h.t.big,h.h.big,h.g.big,h.f.big,h.d.big,h.e.big,h.tg,fun j x hj => by
  obtain ⟨q1,q2,q3,q4⟩:=h.fg j x hj
  exact ⟨q2,q3.big,q3.in_,fun i y hi => (q4 i y hi).2.2.1.big⟩,fun j x hj => (h.dg j x hj).2.1.big,fun j x hj => (h.eg j x hj).1⟩
theorem Raw.cap (h : Raw W m) : ∀ x ∈ m.fns,x.2.2.1.2.1 ≤ x.2.2.1.2.2:=fun x hx => by
 obtain ⟨j,hj⟩:=List.getElem?_of_mem hx
 exact (h.fg j x hj).2.2.1.cap_
theorem Raw.later {W' : World} (h : Raw W m) (hb : Below W.heap.size W W') : SzC W' m ∧ AtSig W' m.ta m.tn m.types ∧ AtFu W' m.fa m.fn m.fns ∧ AtDa W' m.da m.dn m.data ∧ AtEx W' m.ea m.en m.exps:=by
 have hk : Kept (fun _ => False) W W':=kept_of hb
 have z:=h.szc
 exact ⟨⟨z.tn,z.hn,z.gn,z.fn,z.dn,z.en,z.t,fun j x hj => ⟨(z.f j x hj).1,(z.f j x hj).2.1,(z.f j x hj).2.2.1.kept hk (fun _ _ _ _ => id),(z.f j x hj).2.2.2⟩,z.d,z.e⟩,h.t.sig.kept hk (fun _ _ _ _ => id),h.f.fu.kept hk (fun _ _ _ _ => id),h.d.da.kept hk (fun _ _ _ _ => id),h.e.ex.kept hk (fun _ _ _ _ => id)⟩
end
section
variable {H : Type} {enc : TypeId × Value → H} {W : World}
theorem cell_ltX {r : Reach} {base : Nat} {u : TypeId} {a : Addr} {n c : Nat} (h : Cell.okWide Tryz.prog W r base u (.slice (some a) n c)) : a.block < W.heap.size:=by
 unfold Cell.okWide at h
 cases hu : Tryz.prog.underlying u with
 | none => simp [hu,Cell.ok] at h
 | some d =>
  cases d <;> simp [hu,Cell.ok] at h
  obtain ⟨_,_,_,_,row,cells,hsh,_⟩:=h
  unfold World.shape? at hsh
  rcases Nat.lt_or_ge a.block W.heap.size with hl | hl
  ·exact hl
  ·rw [Array.getElem?_eq_none hl] at hsh; cases hsh
theorem open_module {base : Nat} {v : Value} {d : DataW H} {ps : List MemPlace} (hval : Value.okWide Tryz.prog W .any base 29 v) (h : DataW.Trod enc Tryz.prog W 0 (fun _ => true) true 29 v d ps) (hw : ∀ n ∈ d.weights Tryz.prog 29,n ≤ reachBytes) :
  ∃ m : MM,v = .agg (mV m) ∧ Raw W m:=by
 have hval':=hval
 obtain ⟨cs,rfl,hsz⟩:=okWide_struct Tryz.underlying29 hval
 obtain ⟨fuel,hf⟩:=h
 obtain ⟨ta,tn,tc,ts,ha,hn,hc,hs,ga,gn,gc,gs,fi,mo,fa,fn,fc,fs,da,dn,dc,ds,ea,en,ec,es,hcs,⟨t1,t2⟩,⟨h1,h2⟩,⟨g1,g2⟩,i1,o1,⟨f1,f2⟩,⟨d1,d2⟩,e1,e2⟩:=open_Mod hf hw
 have e : cs.toList = [.slice ta tn tc,.slice ha hn hc,.slice ga gn gc,.int .i64 fi,.int .i64 mo,.slice fa fn fc,.slice da dn dc,.slice ea en ec]:=hcs
 have ec' : cs = #[.slice ta tn tc,.slice ha hn hc,.slice ga gn gc,.int .i64 fi,.int .i64 mo,.slice fa fn fc,.slice da dn dc,.slice ea en ec]:=by
  apply Array.toList_inj.1
  rw [e]
 refine ⟨⟨ta,tn,tc,ts,ha,hn,hc,hs,ga,gn,gc,gs,fi,mo,fa,fn,fc,fs,da,dn,dc,ds,ea,en,ec,es⟩,by rw [ec']; rfl,⟨t1,t2,h1,h2,g1,g2,i1,o1,f1,f2,d1,d2,e1,e2,?_⟩⟩
 obtain ⟨cs',hv,_,⟨tt,htt,_,hall⟩⟩ : ∃ cs',Value.agg cs = .agg cs' ∧ cs'.size = Tryz.prog.cellsOf 29 ∧ Row.okWide Tryz.prog W .any base 29 cs':=by
  have:=hval'
  simp only [Value.okWide,Tryz.underlying29] at this
  exact this
 injection hv with hv
 subst hv
 have look : ∀ (i : Nat) a n c,cs[i]? = some (.slice (some a) n c) → a.block < W.heap.size:=fun i a n c hi => by
  obtain ⟨u,_,hu⟩:=hall i _ hi
  exact cell_ltX hu
 rw [ec'] at look
 intro a hm b off s hb
 subst hb
 simp only [List.mem_cons,List.not_mem_nil,or_false] at hm
 rcases hm with hm | hm | hm | hm | hm | hm
 ·exact look 0 ⟨b,off,s⟩ tn tc (by rw [hm]; rfl)
 ·exact look 1 ⟨b,off,s⟩ hn hc (by rw [hm]; rfl)
 ·exact look 2 ⟨b,off,s⟩ gn gc (by rw [hm]; rfl)
 ·exact look 5 ⟨b,off,s⟩ fn fc (by rw [hm]; rfl)
 ·exact look 6 ⟨b,off,s⟩ dn dc (by rw [hm]; rfl)
 ·exact look 7 ⟨b,off,s⟩ en ec (by rw [hm]; rfl)
end
open Go.RowKit
theorem lnS_take {l : List DaM} {i : Nat} {x : DaM} (h : l[i]? = some x) : lnS (l.take (i + 1)) = lnS (l.take i) + lnz x.2.2:=by
 rw [take_snoc h,lnS_snoc]
theorem lnS_le : ∀ (l : List DaM) (i : Nat),lnS (l.take i) ≤ lnS l
 | [],i => by simp [lnS]
 | x :: l,0 => Nat.zero_le _
 | x :: l,i + 1 => by
  have:=lnS_le l i
  simp only [lnS,List.take_succ_cons,List.map_cons,List.sum_cons] at this ⊢
  omega
theorem cnt_next (f : Nat → Int) (a k : Nat) : cnt f (a + (k + 1)) = cnt f (a + k) + (if f (a + k) = 0 then 0 else 1):=rfl
theorem cnt_mono (f : Nat → Int) {a b : Nat} (h : a ≤ b) : cnt f a ≤ cnt f b:=by
 obtain ⟨c,rfl⟩ : ∃ c,b = a + c:=⟨b - a,by omega⟩
 rw [cnt_add]; omega
theorem lnS_in {l : List DaM} {i : Nat} {x : DaM} (h : l[i]? = some x) {k : Nat} (hk : k ≤ x.2.2.length) : lnS (l.take i) + cnt (fun q => x.2.2.getD q 0) k ≤ lnS l:=by
 have h1:=lnS_take h
 have h2:=lnS_le l (i + 1)
 have h3 : cnt (fun q => x.2.2.getD q 0) k ≤ lnz x.2.2:=cnt_mono _ hk
 omega
structure LwS (w W : World) (m : MM) (SB XB YB LB R LO N : Nat) (s : ByteArray) (zs : List Int) : Prop where
 b : Below w.heap.size w W
 mb : W.heap[w.heap.size]? = some (.cells #[.slice m.ta m.tn m.tc,.slice m.ha m.hn m.hc,.slice m.ga m.gn m.gc,.int .i64 m.fi,.int .i64 m.mo,.slice m.fa m.fn m.fc,.slice m.da m.dn m.dc,.slice m.ea m.en m.ec] 29)
 sb : W.heap[SB]? = some (.cells (begV XB YB LB N m.gn) 37)
 pg : W.heap[LB]? = some (.cells (pgL R N).toArray 49)
 by_ : RB .u8 5 W R (N * 4096) (layA m.data)
theorem LwS.later {w W W' : World} {m : MM} {SB XB YB LB R LO N : Nat} {s : ByteArray} {zs : List Int} (h : LwS w W m SB XB YB LB R LO N s zs) (hb : Below W.heap.size W W') : LwS w W' m SB XB YB LB R LO N s zs :=
 ⟨h.b.trans (hb.mono h.b.size),blk_later hb h.mb,blk_later hb h.sb,blk_later hb h.pg,h.by_.later hb⟩
theorem byt_law (m : MM) (s : ByteArray) (a : Option Addr) (n c : Nat) (zs : List Int) (w : World) (hk : KindsOk w) (hp : 0 < w.heap.size) (hr : Raw w m) (hn : n ≤ 281474976710656) (hs8 : s.size ≤ 281474976710656) (hz : n ≤ 20000 → SegW w a n c zs) :
  Calls Tryz.prog 4 #[.agg (mV m),.string s,.slice a n c] w fun e w' => e = .returned (.bool true) ∧ Below w.heap.size w w':=by
 have HK:=hid (fun (W : World) (hb : Below w.heap.size w W) => And.intro (hk.later hb hp) (Nat.lt_of_lt_of_le hp hb.size))
 have HR:=hid (fun (W : World) (hb : Below w.heap.size w W) => hr.later hb)
 have HM:=hid (fun (hs : Small m) => hr.ok hs)
 have HCP:=hid hr.cap
 have HZ:=hid hz
 have B0:=below_new w (.cells (mV m) 29)
 have bx : (w.alloc (.cells (mV m) 29)).heap[w.heap.size]? = some (.cells (mV m) 29):=heap_alloc_new w (.cells (mV m) 29)
 have HW : w.alloc (.cells #[.slice m.ta m.tn m.tc,.slice m.ha m.hn m.hc,.slice m.ga m.gn m.gc,.int .i64 m.fi,.int .i64 m.mo,.slice m.fa m.fn m.fc,.slice m.da m.dn m.dc,.slice m.ea m.en m.ec] 29) = w.alloc (.cells (mV m) 29):=rfl
 clear hk hr hz
 generalize w.alloc (.cells (mV m) 29) = W0 at *
 have HB0:=hid B0
 have HBX:=hid bx
 clear B0 bx
 show Calls Tryz.prog 4 #[.agg #[.slice m.ta m.tn m.tc,.slice m.ha m.hn m.hc,.slice m.ga m.gn m.gc,.int .i64 m.fi,.int .i64 m.mo,.slice m.fa m.fn m.fc,.slice m.da m.dn m.dc,.slice m.ea m.en m.ec],.string s,.slice a n c] w _
 go_enter Tryz.func4,Tryz.ntmps4
 go_wp2_with fail
 refine (works5 W0 (HK.out W0 HB0.out).1).mono ?_
 rintro e w1 ⟨rfl,hb⟩
 have HB1:=hid (HB0.out.trans (hb.mono HB0.out.size))
 have HBX:=hid (blk_later hb HBX.out)
 clear hb HB0 HW
 obtain ⟨z1,z2,z3,z4,z5⟩:=HR.out w1 HB1.out
 have H9:=size9c m w1 z1 z2 z3 z4 z5
 unfold mV at H9
 have HH9:=hid H9
 clear H9 z1 z2 z3 z4 z5
 have m0 : w1.cell? ⟨w.heap.size,0,none⟩ = some (.slice m.ta m.tn m.tc):=cell_at HBX.out
 have m1 : w1.cell? ⟨w.heap.size,1,none⟩ = some (.slice m.ha m.hn m.hc):=cell_at HBX.out
 have m2 : w1.cell? ⟨w.heap.size,2,none⟩ = some (.slice m.ga m.gn m.gc):=cell_at HBX.out
 have m3 : w1.cell? ⟨w.heap.size,3,none⟩ = some (.int .i64 m.fi):=cell_at HBX.out
 have m4 : w1.cell? ⟨w.heap.size,4,none⟩ = some (.int .i64 m.mo):=cell_at HBX.out
 have m5 : w1.cell? ⟨w.heap.size,5,none⟩ = some (.slice m.fa m.fn m.fc):=cell_at HBX.out
 have m6 : w1.cell? ⟨w.heap.size,6,none⟩ = some (.slice m.da m.dn m.dc):=cell_at HBX.out
 have m7 : w1.cell? ⟨w.heap.size,7,none⟩ = some (.slice m.ea m.en m.ec):=cell_at HBX.out
 go_wp2_with fail
 clear m0 m1 m2 m3 m4 m5 m6 m7
 refine HH9.out.mono ?_
 rintro e w2 ⟨sz,rfl,hb,hs⟩
 have HB2:=hid (HB1.out.trans (hb.mono HB1.out.size))
 have HBX:=hid (blk_later hb HBX.out)
 clear hb HH9 HB1
 by_cases hs4 : sz ≤ 20000
 rotate_left
 ·have h4' : (20000 : Int) < (sz : Int):=by omega
  clear hs hs4
  go_wp2_with fail
  go_ret
  exact ⟨rfl,HB2.out⟩
 have h4' : ¬ (20000 : Int) < (sz : Int):=by omega
 have hsm : Small m:=hs hs4
 clear hs hs4
 by_cases hs5 : n ≤ 20000
 rotate_left
 ·have h5' : (20000 : Int) < (n : Int):=by omega
  clear hs5
  go_wp2_with fail
  go_ret
  exact ⟨rfl,HB2.out⟩
 have h5' : ¬ (20000 : Int) < (n : Int):=by omega
 by_cases hs6 : s.size ≤ 20000
 rotate_left
 ·have h6' : (20000 : Int) < (s.size : Int):=by omega
  clear hs6
  go_wp2_with fail
  go_ret
  exact ⟨rfl,HB2.out⟩
 have h6' : ¬ (20000 : Int) < (s.size : Int):=by omega
 have HMO:=hid (fun (W : World) (hb : Below w.heap.size w W) => fun R g h1 h2 => (HM.out hsm R g (Nat.le_trans hb.size h1) (Nat.le_trans hb.size h2)).later hb)
 have H7:=hid (beg7 m s a n c zs w2 (HK.out w2 HB2.out).1 (HK.out w2 HB2.out).2 (HMO.out w2 HB2.out) HCP.out ((HZ.out hs5).later HB2.out (Nat.le_refl _)))
 unfold mV at H7
 have m0 : w2.cell? ⟨w.heap.size,0,none⟩ = some (.slice m.ta m.tn m.tc):=cell_at HBX.out
 have m1 : w2.cell? ⟨w.heap.size,1,none⟩ = some (.slice m.ha m.hn m.hc):=cell_at HBX.out
 have m2 : w2.cell? ⟨w.heap.size,2,none⟩ = some (.slice m.ga m.gn m.gc):=cell_at HBX.out
 have m3 : w2.cell? ⟨w.heap.size,3,none⟩ = some (.int .i64 m.fi):=cell_at HBX.out
 have m4 : w2.cell? ⟨w.heap.size,4,none⟩ = some (.int .i64 m.mo):=cell_at HBX.out
 have m5 : w2.cell? ⟨w.heap.size,5,none⟩ = some (.slice m.fa m.fn m.fc):=cell_at HBX.out
 have m6 : w2.cell? ⟨w.heap.size,6,none⟩ = some (.slice m.da m.dn m.dc):=cell_at HBX.out
 have m7 : w2.cell? ⟨w.heap.size,7,none⟩ = some (.slice m.ea m.en m.ec):=cell_at HBX.out
 go_wp2_with fail
 clear m0 m1 m2 m3 m4 m5 m6 m7
 refine H7.out.mono ?_
 intro e w3 hO
 have hb3:=hO.1
 have HB3:=hid (HB2.out.trans (hb3.mono HB2.out.size))
 have HBX:=hid (blk_later hb3 HBX.out)
 rcases hO.2 with ⟨E,hE,_,rfl⟩ | ⟨XB,YB,LB,R,LO,N,hB,rfl⟩
 ·have hE' : (E == 0) = false:=by simpa using hE
  clear hO hb3 hE
  have hS:=below_new w3 zSt
  go_wp2_with fail
  go_ret
  exact ⟨rfl,HB3.out.trans (hS.mono HB3.out.size)⟩
 ·have hmk:=HMO.out w3 HB3.out w3.heap.size w3.heap.size (Nat.le_refl _) (Nat.le_refl _)
  obtain ⟨N',hfi,hN,hdl,hel,hFit,hOrd⟩:=data_of hB.chk
  have hNN : N' = N:=by have:=hB.fi; omega
  subst hNN
  have hS:=below_new w3 (.cells (begV XB YB LB N' m.gn) 37)
  have HLw : Hid (LwS w (w3.alloc (.cells (begV XB YB LB N' m.gn) 37)) m w3.heap.size XB YB LB R LO N' s zs):=hid ⟨HB3.out.trans (hS.mono HB3.out.size),blk_later hS HBX.out,heap_alloc_new _ _,blk_later hS hB.pg,hB.by_.later hS⟩
  have HDT:=hid (fun (W : World) (hb : Below w.heap.size w W) => And.intro ((HM.out hsm _ _ (Nat.le_refl _) (Nat.le_refl _)).later hb).pd ((HM.out hsm _ _ (Nat.le_refl _) (Nat.le_refl _)).later hb).dr)
  have HPU:=hid (And.intro hFit (And.intro hOrd (And.intro hdl hN)))
  have hgn : m.gn ≤ 64:=by
   have h2:=(listE_zero (chkW_of hB.chk).2.2.1).1
   rw [hmk.pg.1] at h2
   omega
  have hdn : m.dn ≤ 64:=by rw [← hmk.pd.1]; exact hdl
  have c3 : (w3.alloc (.cells (begV XB YB LB N' m.gn) 37)).cell? ⟨w.heap.size,3,none⟩ = some (.int .i64 N'):=by rw [← hfi]; exact cell_at HLw.out.mb
  have c2 : (w3.alloc (.cells (begV XB YB LB N' m.gn) 37)).cell? ⟨w.heap.size,2,none⟩ = some (.slice m.ga m.gn m.gc):=cell_at HLw.out.mb
  clear hO hb3 hB hmk hFit hOrd hdl hel hfi hS hsm HM HR HK HMO H7 HZ
  unfold begV at c2 c3 ⊢
  go_wp2_with fail
  clear c2 c3
  have HSB : Hid (∃ SB,SB = w3.heap.size):=hid ⟨_,rfl⟩
  obtain ⟨SB,hSB⟩:=HSB.out
  rw [← hSB] at HLw ⊢
  have HLw : Hid (LwS w (w3.alloc (.cells #[.slice (some ⟨XB,0,none⟩) 1 1,.slice (some ⟨YB,0,none⟩) m.gn m.gn,.slice (some ⟨LB,0,none⟩) N' N',.int .i64 0,.int .i8 1,.slice none 0 0,.int .i8 0,.int .i64 0] 37)) m SB XB YB LB R LO N' s zs):=HLw
  generalize w3.alloc (.cells #[.slice (some ⟨XB,0,none⟩) 1 1,.slice (some ⟨YB,0,none⟩) m.gn m.gn,.slice (some ⟨LB,0,none⟩) N' N',.int .i64 0,.int .i8 1,.slice none 0 0,.int .i8 0,.int .i64 0] 37) = w4 at *
  clear hSB HSB HB3 HBX
  go_loopw [10,11] (fun l i wr => ∃ q L : Nat,q ≤ m.dn ∧ i = .int .i64 q ∧ l = .int .i64 L ∧ Hid (L = lnS (m.data.take q) ∧ Below w4.heap.size w4 wr)) (fun _ i _ => m.dn - (intOf i).toNat)
  case atStart => exact ⟨0,0,Nat.zero_le _,rfl,rfl,hid ⟨rfl,Below.refl _ _⟩⟩
  case round =>
   obtain ⟨q,L,hq,rfl,rfl,HS⟩:=hrel
   have HLr:=hid (HLw.out.later HS.out.2)
   have e6 : wr.cell? ⟨w.heap.size,6,none⟩ = some (.slice m.da m.dn m.dc):=cell_at HLr.out.mb
   by_cases hlt : q < m.dn
   ·obtain ⟨hAD,hDR⟩:=HDT.out wr HLr.out.b
    obtain ⟨⟨px,⟨sa,sn,sc⟩,ys⟩,hx⟩ : ∃ x,m.data[q]? = some x:=⟨_,List.getElem?_eq_getElem (by rw [hAD.1]; exact hlt)⟩
    obtain ⟨b0,off0,hda,hc⟩:=hAD.2.resolve_left (by omega)
    obtain ⟨q0,q1⟩:=hc q _ hx
    obtain ⟨f1,f2,f3⟩:=HPU.out.1 q _ hx
    obtain ⟨s1,s2,s3,s4,s5⟩:=(hDR q _ hx).2.1
    simp only at q0 q1 f1 f2 f3 s1 s2 s3 s4 s5
    obtain ⟨b,off,hsa,hcs⟩:=s5.resolve_left (by omega)
    obtain ⟨At,hAt⟩ : ∃ At : Nat,px = At:=⟨px.toNat,by omega⟩
    subst hAt hsa
    have HX:=hid hx
    have HCS:=hid hcs
    have HAt : Hid (At + sn ≤ N' * 4096 ∧ ys.length = sn):=hid ⟨by omega,s1⟩
    have hsn : sn ≤ 1000000:=by have:=HPU.out.2.2.2; omega
    rw [hda] at e6
    have hlt' : (q : Int) < (m.dn : Int):=by omega
    clear hx hc f1 f2 f3 s1 s2 s3 s4 s5 hcs hAD hDR hda
    go_wp2_with fail
    have HE:=hid (And.intro e6 (And.intro q0 q1))
    clear e6 q0 q1
    generalize wr = wa at *
    go_loopw [10,12] (fun l i wr => ∃ k L2 : Nat,k ≤ sn ∧ i = .int .i64 k ∧ l = .int .i64 L2 ∧ Hid (L2 = lnS (m.data.take q) + cnt (fun t => ys.getD t 0) k ∧ Below wa.heap.size wa wr)) (fun _ i _ => sn - (intOf i).toNat)
    case atStart => exact ⟨0,L,Nat.zero_le _,rfl,rfl,hid ⟨by rw [HS.out.1]; rfl,Below.refl _ _⟩⟩
    case round =>
     obtain ⟨k,L2,hk,rfl,rfl,HT⟩:=hrel
     have HLi:=hid (HLr.out.later HT.out.2)
     have e6:=later_cell HT.out.2 HE.out.1
     have q0:=later_cell HT.out.2 HE.out.2.1
     have q1:=later_cell HT.out.2 HE.out.2.2
     by_cases hkl : k < sn
     ·obtain ⟨p,hp⟩ : ∃ p,p = (At + k) / 4096:=⟨_,rfl⟩
      obtain ⟨r,hr⟩ : ∃ r,r = (At + k) % 4096:=⟨_,rfl⟩
      have hA1:=HAt.out.1
      have hqr : At + k = p * 4096 + r:=by omega
      have hr4 : r < 4096:=by omega
      have hpn : p < N':=by omega
      have t1 : Int.tdiv ((At : Int) + (k : Int)) 4096 = (p : Int):=by rw [Int.tdiv_eq_ediv_of_nonneg (by omega)]; omega
      have t2 : Int.tmod ((At : Int) + (k : Int)) 4096 = (r : Int):=by rw [Int.tmod_eq_emod_of_nonneg (by omega)]; omega
      obtain ⟨v,hv⟩ : ∃ v,v = ys.getD k 0:=⟨_,rfl⟩
      have bb : wr.cell? ⟨b,off + k,none⟩ = some (.int .u8 v):=by rw [hv]; exact later_cell HT.out.2 (HCS.out k hkl)
      have d2 : wr.cell? ⟨SB,2,none⟩ = some (.slice (some ⟨LB,0,none⟩) N' N'):=cell_at HLi.out.sb
      have pc : wr.cell? ⟨LB,p,none⟩ = some (.slice (some ⟨R,p * 4096,none⟩) 4096 4096):=by rw [cell_at HLi.out.pg,List.getElem?_toArray,pgL_get R N' p hpn]
      have by_ : wr.cell? ⟨R,p * 4096 + r,none⟩ = some (.int .u8 v):=by
       rw [HLi.out.by_.cell (p * 4096 + r) (by omega),← hqr,hv]
       have:=lay_at m.data HPU.out.1 HPU.out.2.1 q _ HX.out k (by show k < ys.length; rw [HAt.out.2]; exact hkl)
       simp only [Int.toNat_natCast] at this
       rw [this]
      have hL2 : L2 ≤ 262144:=by
       have h1:=lnS_in HX.out (k:=k) (by show k ≤ ys.length; rw [HAt.out.2]; exact hk)
       have h2:=lay_cnt m.data HPU.out.1 HPU.out.2.1
       have h3:=cnt_le (layA m.data) (N' * 4096)
       have h4:=HPU.out.2.2.2
       have h5:=HT.out.1
       simp only at h1
       omega
      have hkl' : (k : Int) < (sn : Int):=by omega
      have hpn' : (p : Int) < (N' : Int):=by omega
      have hvv : (v != v) = false:=by simp
      have hak : ¬ (9223372036854775807 : Int) < (At : Int) + (k : Int):=by have:=HPU.out.2.2.2; omega
      have HV:=hid hv
      have g1 : decide ((N' : Int) ≤ (p : Int)) = false:=by simp; omega
      have g2 : decide (N' ≤ p) = false:=by simp; omega
      have g3 : ¬ ((N' : Int) ≤ (p : Int)):=by omega
      have g4 : ¬ (N' ≤ p):=by omega
      clear hp hr hqr hv hA1
      go_wp2_with fail
      go_quiet (fail)
      have HTq:=hid (HT.out.2.trans ((below_drewN wr nq).mono HT.out.2.size))
      have bb:=later_cell (below_drewN wr nq) bb
      have e6:=later_cell (below_drewN wr nq) e6
      have q0:=later_cell (below_drewN wr nq) q0
      have q1:=later_cell (below_drewN wr nq) q1
      clear g1 g2 g3 g4 d2 pc by_
      generalize wr.drewN nq = wq at *
      by_cases hv0 : v = 0
      ·subst hv0
       go_wp2_with fail
       exact ⟨⟨k + 1,L2,by omega,by go_num,rfl,hid ⟨by rw [HT.out.1,lnz_succ,← HV.out,if_pos rfl]; rfl,HTq.out⟩⟩,by simp [intOf]; omega⟩
      ·have hv1 : (v == 0) = false:=by simpa using hv0
       have HV0:=hid hv0
       clear hv0
       go_wp2_with fail
       exact ⟨⟨k + 1,L2 + 1,by omega,by go_num,by go_num,hid ⟨by rw [HT.out.1,lnz_succ,← HV.out,if_neg HV0.out]; omega,HTq.out⟩⟩,by simp [intOf]; omega⟩
     ·have hkl' : ¬ (k : Int) < (sn : Int):=by omega
      have hks : k = sn:=by omega
      have HKS:=hid hks
      clear hks
      go_wp2_with fail
      exact ⟨⟨q + 1,L2,by omega,by go_num,rfl,hid ⟨by rw [HT.out.1,HKS.out,lnS_take HX.out,← HAt.out.2]; rfl,HS.out.2.trans (HT.out.2.mono HS.out.2.size)⟩⟩,by simp [intOf]; omega⟩
   ·have hlt' : ¬ (q : Int) < (m.dn : Int):=by omega
    have HLD : Hid (L = lnS m.data):=hid (by
     rw [HS.out.1,List.take_of_length_le]
     have:=(HDT.out wr HLr.out.b).1.1
     omega)
    have HBw:=hid HLr.out.b
    go_wp2_with fail
    clear e6 hlt'
    generalize wr = wa at *
    have hN64:=HPU.out.2.2.2
    go_loopw [14,15] (fun l i wr => ∃ p F : Nat,p ≤ N' ∧ i = .int .i64 p ∧ l = .int .i64 F ∧ Hid (F = cnt (layA m.data) (p * 4096) ∧ Below wa.heap.size wa wr)) (fun _ i _ => N' - (intOf i).toNat)
    case atStart => exact ⟨0,0,Nat.zero_le _,rfl,rfl,hid ⟨by rw [Nat.zero_mul]; rfl,Below.refl _ _⟩⟩
    case round =>
     obtain ⟨p,F,hp,rfl,rfl,HT⟩:=hrel
     have HLi:=hid (HLr.out.later HT.out.2)
     have d2 : wr.cell? ⟨SB,2,none⟩ = some (.slice (some ⟨LB,0,none⟩) N' N'):=cell_at HLi.out.sb
     by_cases hpn : p < N'
     ·have hpn' : (p : Int) < (N' : Int):=by omega
      have pc : wr.cell? ⟨LB,p,none⟩ = some (.slice (some ⟨R,p * 4096,none⟩) 4096 4096):=by rw [cell_at HLi.out.pg,List.getElem?_toArray,pgL_get R N' p hpn]
      go_wp2_with fail
      have HE:=hid (And.intro d2 pc)
      clear d2 pc
      generalize wr = wb at *
      go_loopw [14,16] (fun l i wr => ∃ k G : Nat,k ≤ 4096 ∧ i = .int .i64 k ∧ l = .int .i64 G ∧ Hid (G = cnt (layA m.data) (p * 4096 + k) ∧ Below wb.heap.size wb wr)) (fun _ i _ => 4096 - (intOf i).toNat)
      case atStart => exact ⟨0,F,Nat.zero_le _,rfl,rfl,hid ⟨by rw [HT.out.1,Nat.add_zero],Below.refl _ _⟩⟩
      case round =>
       obtain ⟨k,G,hk,rfl,rfl,HU⟩:=hrel
       have HLj:=hid (HLi.out.later HU.out.2)
       have d2:=later_cell HU.out.2 HE.out.1
       have pc:=later_cell HU.out.2 HE.out.2
       by_cases hkl : k < 4096
       ·have hkl' : (k : Int) < 4096:=by omega
        obtain ⟨v,hv⟩ : ∃ v,v = layA m.data (p * 4096 + k):=⟨_,rfl⟩
        have by_ : wr.cell? ⟨R,p * 4096 + k,none⟩ = some (.int .u8 v):=by rw [hv]; exact HLj.out.by_.cell (p * 4096 + k) (by omega)
        have hG : G ≤ 262144:=by
         have h3:=cnt_le (layA m.data) (p * 4096 + k)
         have h5:=HU.out.1
         omega
        have HV:=hid hv
        clear hv
        by_cases hv0 : v = 0
        ·subst hv0
         go_wp2_with fail
         exact ⟨⟨k + 1,G,by omega,by go_num,rfl,hid ⟨by rw [HU.out.1,cnt_next,← HV.out,if_pos rfl]; rfl,HU.out.2⟩⟩,by simp [intOf]; omega⟩
        ·have hv1 : (v == 0) = false:=by simpa using hv0
         have HV0:=hid hv0
         clear hv0
         go_wp2_with fail
         exact ⟨⟨k + 1,G + 1,by omega,by go_num,by go_num,hid ⟨by rw [HU.out.1,cnt_next,← HV.out,if_neg HV0.out],HU.out.2⟩⟩,by simp [intOf]; omega⟩
       ·have hkl' : ¬ (k : Int) < 4096:=by omega
        have HKS : Hid (k = 4096):=hid (by omega)
        go_wp2_with fail
        exact ⟨⟨p + 1,G,by omega,by go_num,rfl,hid ⟨by rw [HU.out.1,HKS.out,show (p + 1) * 4096 = p * 4096 + 4096 by omega],HT.out.2.trans (HU.out.2.mono HT.out.2.size)⟩⟩,by simp [intOf]; omega⟩
     ·have hpn' : ¬ (p : Int) < (N' : Int):=by omega
      have hFL : F = L:=by
       have h1 : p = N':=by omega
       rw [HT.out.1,HLD.out,h1]
       exact lay_cnt m.data HPU.out.1 HPU.out.2.1
      have hb : ((F : Int) == (L : Int)) = true:=by rw [hFL]; simp
      have HBe:=hid (HLi.out.b)
      subst hFL
      go_wp2_with fail
      go_ret
      exact ⟨rfl,HBe.out⟩
theorem bytesW53 : Tryz.prog.bytesOf 53 = 8:=by kernel_rfl
theorem cellsW53 : Tryz.prog.cellsOf 53 = 1:=by kernel_rfl
section
variable {H : Type} {enc : TypeId × Value → H} {W : World}
theorem open_W {fuel : Nat} {cs : List Value} {x : DataW H × List MemPlace} (h : DataW.trod enc Tryz.prog W 0 (fun _ => true) true fuel 53 cs = some x) (hw : ∀ n ∈ x.1.weights Tryz.prog 53,n ≤ reachBytes) : ∃ a : Int,cs = [.int .u64 a] ∧ (0 ≤ a ∧ a < 18446744073709551616):=by
 obtain ⟨n,h1,_,wf⟩:=DataW.trod_int Tryz.underlying53 h
 have:=bounds_u64 wf
 exact ⟨n,h1,by omega,by omega⟩
theorem open_words {base : Nat} {v : Value} {d : DataW H} {ps : List MemPlace} (hval : Value.okWide Tryz.prog W .any base 30 v) (h : DataW.Trod enc Tryz.prog W 0 (fun _ => true) true 30 v d ps) (hw : ∀ n ∈ d.weights Tryz.prog 30,n ≤ reachBytes) :
  ∃ (a : Option Addr) (n c : Nat) (zs : List Int),v = .slice a n c ∧ n ≤ 281474976710656 ∧ (n ≤ 20000 → SegW W a n c zs):=by
 obtain ⟨a0,n0,c0,rfl⟩:=okWide_slice Tryz.underlying30 hval
 obtain ⟨fuel,hf⟩:=h
 obtain ⟨a,n,c,xs,hcs,hat,hsz⟩:=open_listX (c:=1) (B:=8) (fun (z : Int) => [Value.int .u64 z]) (fun (z : Int) => 0 ≤ z ∧ z < 18446744073709551616) Tryz.underlying30 cellsW53 (by decide) bytesW53 (by decide) (fun _ _ _ h1 h2 => open_W h1 h2) hf hw
 have e : Value.slice a0 n0 c0 = .slice a n c:=by
  have : [Value.slice a0 n0 c0] = [.slice a n c]:=hcs
  exact (List.cons.inj this).1
 cases e
 have hl:=hat.len
 have hb:=hat.big
 refine ⟨a0,n0,c0,xs,rfl,by omega,fun hn => ⟨hl,hat.cap_,by omega,fun z hz => ?_,hat.at_.imp id fun ⟨b,off,e,hc⟩ => ⟨b,off,e,fun j hj => ?_⟩⟩⟩
 ·obtain ⟨j,hj⟩:=List.getElem?_of_mem hz
  exact hsz j z hj
 ·have hx : xs[j]? = some (xs[j]'(by omega)):=List.getElem?_eq_getElem _
  have:=hc j _ hx 0 _ rfl
  rw [Nat.mul_one] at this
  rw [List.getD_eq_getElem?_getD,hx]
  exact this
end
end Go.Proofs.YtepcmfegggdjfaaGreatDoor

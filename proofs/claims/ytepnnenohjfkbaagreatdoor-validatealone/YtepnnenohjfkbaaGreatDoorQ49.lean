/-
  Texts Xw Laid.
-/
import Derived.ChangeArms
import Derived.FnData
import Derived.OpenShut
import Derived.Stop.LaidErr
import Derived.Test.YtepnnenohjfkbaaGreatDoorCards
import Derived.Test.YtepnnenohjfkbaaGreatDoorQ12
import Derived.Test.YtepnnenohjfkbaaGreatDoorQ45
import Derived.Test.YtepnnenohjfkbaaGreatDoorQ47
import Derived.Test.YtepnnenohjfkbaaGreatDoorQ48
set_option linter.unusedVariables false
set_option maxRecDepth 100000
set_option maxHeartbeats 16000000
namespace Go.Proofs.YtepnnenohjfkbaaGreatDoor
open Go.ChangeShapes Go.WideShapes Go.ChangeAt Go.RowKit
structure Raw (W : World) (m : MM) : Prop where
 t : LsAt W 2 FSig m.ta m.tn m.tc m.types
 tg : ∀ (j : Nat) x,m.types[j]? = some x → GSig W x
 h : LsAt W 1 (fun (z : Int) => [Value.int .i64 z]) m.ha m.hn m.hc m.hosts
 hg : ∀ (j : Nat) a,m.hosts[j]? = some a → -9223372036854775808 ≤ a ∧ a < 9223372036854775808
 g : LsAt W 3 FGl m.ga m.gn m.gc m.globals
 gg : ∀ (j : Nat) x,m.globals[j]? = some x → GGl W x
 i : -9223372036854775808 ≤ m.fi ∧ m.fi < 9223372036854775808
 o : -9223372036854775808 ≤ m.mo ∧ m.mo < 9223372036854775808
 f : LsAt W 3 FFu m.fa m.fn m.fc m.fns
 fg : ∀ (j : Nat) x,m.fns[j]? = some x → GFu W x
 d : LsAt W 2 FDa m.da m.dn m.dc m.data
 dg : ∀ (j : Nat) x,m.data[j]? = some x → GDa W x
 e : LsAt W 2 FEx m.ea m.en m.ec m.exps
 eg : ∀ (j : Nat) x,m.exps[j]? = some x → GEx W x
 top : ∀ a ∈ [m.ta,m.ha,m.ga,m.fa,m.da,m.ea],∀ b off s,a = some ⟨b,off,s⟩ → b < W.heap.size
def Small (m : MM) : Prop:=tsum m.types + fsumL m.fns + dsum m.data + esum m.exps ≤ 4000
theorem le_sumX {α : Type} {f : α → Nat} {l : List α} {x : α} (h : x ∈ l) : f x ≤ (l.map f).sum:=le_sum_of (List.mem_map.2 ⟨x,h,rfl⟩)
theorem szG_each : ∀ (xs : List InM) (z : Nat),szG xs z ≤ 4000 → z ≤ 4000 ∧ ∀ x ∈ xs,x.2.2.1.2.1 ≤ 4000
 | [],z,h => ⟨h,fun x hx => by cases hx⟩
 | y :: r,z,h => by
  by_cases hz : z ≤ 2147483647
  ·rw [szG_pos hz] at h
   obtain ⟨h1,h2⟩:=szG_each r _ h
   refine ⟨by omega,fun x hx => ?_⟩
   rcases List.mem_cons.1 hx with rfl | hx
   ·omega
   ·exact h2 x hx
  ·rw [szG_neg hz] at h
   omega
section
variable {W : World} {m : MM}
theorem LsAt.sig {a : Option Addr} {n cap : Nat} {xs : List Sg} (h : LsAt W 2 FSig a n cap xs) : AtSig W a n xs :=
 ⟨h.len,h.at_.imp id fun ⟨b,off,e,hc⟩ => ⟨b,off,e,fun j x hj => ⟨hc j x hj 0 _ rfl,hc j x hj 1 _ rfl⟩⟩⟩
theorem LsAt.nu {a : Option Addr} {n cap : Nat} {xs : List Int} (h : LsAt W 1 (fun (z : Int) => [Value.int .i64 z]) a n cap xs) : AtNu W a n xs :=
 ⟨h.len,h.at_.imp id fun ⟨b,off,e,hc⟩ => ⟨b,off,e,fun j x hj => by have:=hc j x hj 0 _ rfl; rwa [Nat.mul_one] at this⟩⟩
theorem LsAt.gl {a : Option Addr} {n cap : Nat} {xs : List Gl} (h : LsAt W 3 FGl a n cap xs) : AtGl W a n xs :=
 ⟨h.len,h.at_.imp id fun ⟨b,off,e,hc⟩ => ⟨b,off,e,fun j x hj => ⟨hc j x hj 0 _ rfl,hc j x hj 1 _ rfl,hc j x hj 2 _ rfl⟩⟩⟩
theorem LsAt.fu {a : Option Addr} {n cap : Nat} {xs : List FuM} (h : LsAt W 3 FFu a n cap xs) : AtFu W a n xs :=
 ⟨h.len,h.at_.imp id fun ⟨b,off,e,hc⟩ => ⟨b,off,e,fun j x hj => ⟨hc j x hj 0 _ rfl,hc j x hj 1 _ rfl,hc j x hj 2 _ rfl⟩⟩⟩
theorem LsAt.in_ {a : Option Addr} {n cap : Nat} {xs : List InM} (h : LsAt W 3 FIn a n cap xs) : AtIn W a n xs :=
 ⟨h.len,h.at_.imp id fun ⟨b,off,e,hc⟩ => ⟨b,off,e,fun j x hj => ⟨hc j x hj 0 _ rfl,hc j x hj 1 _ rfl,hc j x hj 2 _ rfl⟩⟩⟩
theorem LsAt.da {a : Option Addr} {n cap : Nat} {xs : List DaM} (h : LsAt W 2 FDa a n cap xs) : AtDa W a n xs :=
 ⟨h.len,h.at_.imp id fun ⟨b,off,e,hc⟩ => ⟨b,off,e,fun j x hj => ⟨hc j x hj 0 _ rfl,hc j x hj 1 _ rfl⟩⟩⟩
theorem LsAt.ex {a : Option Addr} {n cap : Nat} {xs : List Ex} (h : LsAt W 2 FEx a n cap xs) : AtEx W a n xs :=
 ⟨h.len,h.at_.imp id fun ⟨b,off,e,hc⟩ => ⟨b,off,e,fun j x hj => ⟨hc j x hj 0 _ rfl,hc j x hj 1 _ rfl⟩⟩⟩
theorem LsAt.segI {a : Option Addr} {n cap : Nat} {xs : List Int} (h : LsAt W 1 (fun (z : Int) => [Value.int .i64 z]) a n cap xs) (hr : ∀ (j : Nat) a,xs[j]? = some a → -9223372036854775808 ≤ a ∧ a < 9223372036854775808) (hn : n ≤ 4000) : SegI W a n cap xs:=by
 refine ⟨h.len,h.cap_,by omega,fun z hz => ?_,h.at_.imp id fun ⟨b,off,e,hc⟩ => ⟨b,off,e,fun j hj => ?_⟩⟩
 ·obtain ⟨j,hj⟩:=List.getElem?_of_mem hz
  have:=hr j z hj
  omega
 ·have hl:=h.len
  have hx : xs[j]? = some (xs[j]'(by omega)):=List.getElem?_eq_getElem _
  have:=hc j _ hx 0 _ rfl
  rw [Nat.mul_one] at this
  rw [List.getD_eq_getElem?_getD,hx]
  exact this
theorem LsAt.segB {a : Option Addr} {n cap : Nat} {xs : List Int} (h : LsAt W 1 (fun (z : Int) => [Value.int .u8 z]) a n cap xs) (hr : ∀ (j : Nat) a,xs[j]? = some a → 0 ≤ a ∧ a ≤ 255) (hn : n ≤ 4000) : Seg W a n cap xs:=by
 refine ⟨h.len,h.cap_,by omega,fun z hz => ?_,h.at_.imp id fun ⟨b,off,e,hc⟩ => ⟨b,off,e,fun j hj => ?_⟩⟩
 ·obtain ⟨j,hj⟩:=List.getElem?_of_mem hz
  exact hr j z hj
 ·have hl:=h.len
  have hx : xs[j]? = some (xs[j]'(by omega)):=List.getElem?_eq_getElem _
  have:=hc j _ hx 0 _ rfl
  rw [Nat.mul_one] at this
  rw [List.getD_eq_getElem?_getD,hx]
  exact this
theorem Small.parts (h : Small m) : (∀ (j : Nat) x,m.types[j]? = some x → x.1.size + x.2.size ≤ 4000) ∧ (∀ (j : Nat) x,m.fns[j]? = some x → x.2.1.size ≤ 4000 ∧ ∀ (i : Nat) y,x.2.2.2[i]? = some y → y.2.2.1.2.1 ≤ 4000) ∧ (∀ (j : Nat) x,m.data[j]? = some x → x.2.1.2.1 ≤ 4000) ∧ ∀ (j : Nat) x,m.exps[j]? = some x → x.1.size ≤ 4000:=by
 unfold Small at h
 refine ⟨fun j x hj => ?_,fun j x hj => ?_,fun j x hj => ?_,fun j x hj => ?_⟩
 ·have : x.1.size + x.2.size ≤ tsum m.types:=le_sumX (f:=fun x : Sg => x.1.size + x.2.size) (List.mem_of_getElem? hj)
  omega
 ·have : x.2.1.size + szG x.2.2.2 x.2.2.1.2.1 ≤ fsumL m.fns:=le_sumX (f:=fun x : FuM => x.2.1.size + szG x.2.2.2 x.2.2.1.2.1) (List.mem_of_getElem? hj)
  exact ⟨by omega,fun i y hi => (szG_each x.2.2.2 x.2.2.1.2.1 (by omega)).2 y (List.mem_of_getElem? hi)⟩
 ·have : x.2.1.2.1 ≤ dsum m.data:=le_sumX (f:=fun x : DaM => x.2.1.2.1) (List.mem_of_getElem? hj)
  omega
 ·have : x.1.size ≤ esum m.exps:=le_sumX (f:=fun x : Ex => x.1.size) (List.mem_of_getElem? hj)
  omega
theorem Raw.ok (h : Raw W m) (hs : Small m) : ∀ R g,W.heap.size ≤ R → W.heap.size ≤ g → MOk W R g m:=by
 intro R g hR hg
 obtain ⟨s1,s2,s3,s4⟩:=hs.parts
 have far : ∀ a ∈ [m.ta,m.ha,m.ga,m.fa,m.da,m.ea],Far W R g a:=fun a ha b off c hb => by have:=h.top a ha b off c hb; omega
 have farN : ∀ {a : Option Addr} {n : Nat},(∀ b off s,nz n a = some ⟨b,off,s⟩ → b < W.heap.size) → Far W R g (nz n a):=fun hl b off c hb => by have:=hl b off c hb; omega
 refine ⟨h.t.sig,far _ (by simp),h.h.nu,far _ (by simp),h.hg,h.g.gl,far _ (by simp),h.gg,h.i.1,h.i.2,h.o.1,h.o.2,h.f.fu,far _ (by simp),fun j x hj => ?_,h.d.da,far _ (by simp),fun j x hj => ?_,h.e.ex,far _ (by simp),fun j x hj => (h.eg j x hj).2⟩
 ·obtain ⟨q1,q2,q3,q4⟩:=h.fg j x hj
  refine ⟨q1,q3.in_,farN q3.lt,fun i y hi => ?_⟩
  obtain ⟨r1,r2,r3,r4⟩:=q4 i y hi
  exact ⟨r1,r2,r3.segI r4 ((s2 j x hj).2 i y hi),farN r3.lt⟩
 ·obtain ⟨q1,q2,q3⟩:=h.dg j x hj
  exact ⟨q1,q2.segB q3 (s3 j x hj),farN q2.lt⟩
theorem Raw.szc (h : Raw W m) : SzC W m :=
 ⟨h.t.big,h.h.big,h.g.big,h.f.big,h.d.big,h.e.big,h.tg,fun j x hj => by
  obtain ⟨q1,q2,q3,q4⟩:=h.fg j x hj
  exact ⟨q2,q3.big,q3.in_,fun i y hi => (q4 i y hi).2.2.1.big⟩,fun j x hj => (h.dg j x hj).2.1.big,fun j x hj => (h.eg j x hj).1⟩
theorem Raw.szb (h : Raw W m) (hs : Small m) : SzB W m:=by
 obtain ⟨s1,s2,s3,s4⟩:=hs.parts
 exact ⟨h.t.big,h.h.big,h.g.big,h.f.big,h.d.big,h.e.big,fun j x hj => by have:=s1 j x hj; omega,fun j x hj => by
  obtain ⟨q1,q2,q3,q4⟩:=h.fg j x hj
  exact ⟨by have:=(s2 j x hj).1; omega,q3.big,q3.in_,fun i y hi => by have:=(s2 j x hj).2 i y hi; omega⟩,fun j x hj => by have:=s3 j x hj; omega,fun j x hj => by have:=s4 j x hj; omega⟩
theorem Raw.cap (h : Raw W m) : ∀ x ∈ m.fns,x.2.2.1.2.1 ≤ x.2.2.1.2.2:=fun x hx => by
 obtain ⟨j,hj⟩:=List.getElem?_of_mem hx
 exact (h.fg j x hj).2.2.1.cap_
theorem Raw.later {W' : World} (h : Raw W m) (hb : Below W.heap.size W W') : SzC W' m ∧ AtSig W' m.ta m.tn m.types ∧ AtFu W' m.fa m.fn m.fns ∧ AtDa W' m.da m.dn m.data ∧ AtEx W' m.ea m.en m.exps:=by
 have hk : Kept (fun _ => False) W W':=kept_of hb
 have z:=h.szc
 exact ⟨⟨z.tn,z.hn,z.gn,z.fn,z.dn,z.en,z.t,fun j x hj => ⟨(z.f j x hj).1,(z.f j x hj).2.1,(z.f j x hj).2.2.1.kept hk (fun _ _ _ _ => id),(z.f j x hj).2.2.2⟩,z.d,z.e⟩,h.t.sig.kept hk (fun _ _ _ _ => id),h.f.fu.kept hk (fun _ _ _ _ => id),h.d.da.kept hk (fun _ _ _ _ => id),h.e.ex.kept hk (fun _ _ _ _ => id)⟩
end
theorem alone_big (m : MM) (f g : Int) (w : World) (hk : KindsOk w) (hp : 0 < w.heap.size) (hr : Raw w m) (hs : ¬ Small m) :
  Calls Tryz.prog 4 #[.agg (mV m),.int .i64 f,.int .i64 g] w fun e w' => e = .returned (.bool true) ∧ Below w.heap.size w w':=by
 have HK:=hid (fun (W : World) (hb : Below w.heap.size w W) => And.intro (hk.later hb hp) (Nat.lt_of_lt_of_le hp hb.size))
 have HR:=hid (fun (W : World) (hb : Below w.heap.size w W) => hr.later hb)
 have hfn:=hr.szc.fn
 have HNS:=hid hs
 have B0:=below_new w (.cells (mV m) 29)
 have bx : (w.alloc (.cells (mV m) 29)).heap[w.heap.size]? = some (.cells (mV m) 29):=heap_alloc_new w (.cells (mV m) 29)
 have HW : w.alloc (.cells #[.slice m.ta m.tn m.tc,.slice m.ha m.hn m.hc,.slice m.ga m.gn m.gc,.int .i64 m.fi,.int .i64 m.mo,.slice m.fa m.fn m.fc,.slice m.da m.dn m.dc,.slice m.ea m.en m.ec] 29) = w.alloc (.cells (mV m) 29):=rfl
 clear hk hr hs
 generalize w.alloc (.cells (mV m) 29) = W0 at *
 have HB0:=hid B0
 have HBX:=hid bx
 clear B0 bx
 show Calls Tryz.prog 4 #[.agg #[.slice m.ta m.tn m.tc,.slice m.ha m.hn m.hc,.slice m.ga m.gn m.gc,.int .i64 m.fi,.int .i64 m.mo,.slice m.fa m.fn m.fc,.slice m.da m.dn m.dc,.slice m.ea m.en m.ec],.int .i64 f,.int .i64 g] w _
 go_enter Tryz.func4,Tryz.ntmps4
 go_wp2_with fail
 refine (works8 W0 (HK.out W0 HB0.out).1 (HK.out W0 HB0.out).2).mono ?_
 rintro e w1 ⟨rfl,hb⟩
 have HB1:=hid (HB0.out.trans (hb.mono HB0.out.size))
 have HBX:=hid (blk_later hb HBX.out)
 clear hb HB0 HW
 obtain ⟨z1,z2,z3,z4,z5⟩:=HR.out w1 HB1.out
 have H9:=size9c m w1 z1 z2 z3 z4 z5
 unfold mV at H9
 have HH9:=hid H9
 clear H9 z1 z2 z3 z4 z5
 have hc8:=eight_cells HBX.out
 obtain ⟨⟨m0,m1,m2,m3,m4,m5,m6,m7⟩,_⟩:=hc8
 go_wp2_with fail
 clear m0 m1 m2 m3 m4 m5 m6 m7
 refine HH9.out.mono ?_
 rintro e w2 ⟨s,rfl,hb,hs⟩
 have HB2:=hid (HB1.out.trans (hb.mono HB1.out.size))
 have h4' : (4000 : Int) < (s : Int):=by
  by_cases h : s ≤ 4000
  ·exact absurd (hs h) HNS.out
  ·omega
 clear hb HH9 HB1 hs
 go_wp2_with fail
 go_ret
 exact ⟨rfl,HB2.out⟩
theorem alone_all (m : MM) (f g : Int) (w : World) (hf : -9223372036854775808 ≤ f ∧ f ≤ 9223372036854775807) (hg : -9223372036854775808 ≤ g ∧ g ≤ 9223372036854775807) (hk : KindsOk w) (hr : Raw w m) :
  Calls Tryz.prog 4 #[.agg (mV m),.int .i64 f,.int .i64 g] w fun e w' => e = .returned (.bool true) ∧ Below w.heap.size w w':=by
 by_cases hs : Small m
 ·exact alone_law m f g w hf hg hk hk.pos (hr.ok hs) hr.cap (hr.szb hs)
 ·exact alone_big m f g w hk hk.pos hr hs
section
variable {H : Type} {enc : TypeId × Value → H} {W : World}
theorem cell_ltX {r : Reach} {base : Nat} {u : TypeId} {a : Addr} {n c : Nat} (h : Cell.okWide Tryz.prog W r base u (.slice (some a) n c)) : a.block < W.heap.size:=by
 unfold Cell.okWide at h
 cases hu : Tryz.prog.underlying u with
 | none => simp [hu,Cell.ok] at h
 | some d =>
  cases d <;> simp [hu,Cell.ok] at h
  obtain ⟨_,_,_,_,row,cells,hsh,_⟩:=h
  unfold World.shape? at hsh
  rcases Nat.lt_or_ge a.block W.heap.size with hl | hl
  ·exact hl
  ·rw [Array.getElem?_eq_none hl] at hsh; cases hsh
theorem open_module {base : Nat} {v : Value} {d : DataW H} {ps : List MemPlace} (hval : Value.okWide Tryz.prog W .any base 29 v) (h : DataW.Trod enc Tryz.prog W 0 (fun _ => true) true 29 v d ps) (hw : ∀ n ∈ d.weights Tryz.prog 29,n ≤ reachBytes) :
  ∃ m : MM,v = .agg (mV m) ∧ Raw W m:=by
 have hval':=hval
 obtain ⟨cs,rfl,hsz⟩:=okWide_struct Tryz.underlying29 hval
 obtain ⟨fuel,hf⟩:=h
 obtain ⟨ta,tn,tc,ts,ha,hn,hc,hs,ga,gn,gc,gs,fi,mo,fa,fn,fc,fs,da,dn,dc,ds,ea,en,ec,es,hcs,⟨t1,t2⟩,⟨h1,h2⟩,⟨g1,g2⟩,i1,o1,⟨f1,f2⟩,⟨d1,d2⟩,e1,e2⟩:=open_Mod hf hw
 have e : cs.toList = [.slice ta tn tc,.slice ha hn hc,.slice ga gn gc,.int .i64 fi,.int .i64 mo,.slice fa fn fc,.slice da dn dc,.slice ea en ec]:=hcs
 have ec' : cs = #[.slice ta tn tc,.slice ha hn hc,.slice ga gn gc,.int .i64 fi,.int .i64 mo,.slice fa fn fc,.slice da dn dc,.slice ea en ec]:=by
  apply Array.toList_inj.1
  rw [e]
 refine ⟨⟨ta,tn,tc,ts,ha,hn,hc,hs,ga,gn,gc,gs,fi,mo,fa,fn,fc,fs,da,dn,dc,ds,ea,en,ec,es⟩,by rw [ec']; rfl,⟨t1,t2,h1,h2,g1,g2,i1,o1,f1,f2,d1,d2,e1,e2,?_⟩⟩
 obtain ⟨cs',hv,_,⟨tt,htt,_,hall⟩⟩ : ∃ cs',Value.agg cs = .agg cs' ∧ cs'.size = Tryz.prog.cellsOf 29 ∧ Row.okWide Tryz.prog W .any base 29 cs':=by
  have:=hval'
  simp only [Value.okWide,Tryz.underlying29] at this
  exact this
 injection hv with hv
 subst hv
 have look : ∀ (i : Nat) a n c,cs[i]? = some (.slice (some a) n c) → a.block < W.heap.size:=fun i a n c hi => by
  obtain ⟨u,_,hu⟩:=hall i _ hi
  exact cell_ltX hu
 rw [ec'] at look
 intro a hm b off s hb
 subst hb
 simp only [List.mem_cons,List.not_mem_nil,or_false] at hm
 rcases hm with hm | hm | hm | hm | hm | hm
 ·exact look 0 ⟨b,off,s⟩ tn tc (by rw [hm]; rfl)
 ·exact look 1 ⟨b,off,s⟩ hn hc (by rw [hm]; rfl)
 ·exact look 2 ⟨b,off,s⟩ gn gc (by rw [hm]; rfl)
 ·exact look 5 ⟨b,off,s⟩ fn fc (by rw [hm]; rfl)
 ·exact look 6 ⟨b,off,s⟩ dn dc (by rw [hm]; rfl)
 ·exact look 7 ⟨b,off,s⟩ en ec (by rw [hm]; rfl)
end
theorem Tryz.cells195 : Tryz.prog.cellsOf 195 = 4:=by kernel_rfl
theorem Tryz.cells196 : Tryz.prog.cellsOf 196 = 28:=by kernel_rfl
theorem Tryz.cells5 : Tryz.prog.cellsOf 5 = 1:=by kernel_rfl
theorem Tryz.cells9 : Tryz.prog.cellsOf 9 = 1:=by kernel_rfl
theorem Tryz.kindsAt : Tryz.prog.globalNamed "flagon/ops.kinds" = some 0:=by kernel_rfl
theorem Tryz.kindsType : (Tryz.prog.globals[0]?).map (·.type) = some 196:=by kernel_rfl
theorem len4 {α : Type} : ∀ (l : List α),l.length = 4 → ∃ a b c d,l = [a,b,c,d]
 | [a,b,c,d],_ => ⟨a,b,c,d,rfl⟩
theorem len7 {α : Type} : ∀ (l : List α),l.length = 7 → ∃ a b c d e f g,l = [a,b,c,d,e,f,g]
 | [a,b,c,d,e,f,g],_ => ⟨a,b,c,d,e,f,g,rfl⟩
theorem kind_cells {H : Type} {enc : TypeId × Value → H} {w : World} {base : Nat} {sp : Nat → Bool} {held : Bool} {fuel : Nat} {cs : List Value} {f l : Int} {a s : List UInt8} {p : List MemPlace}
  (h : DataW.trod enc Tryz.prog w base sp held fuel 195 cs = some (.agg [.lit (.int .u8 f),.lit (.int .u8 l),.lit (.string a),.lit (.string s)],p)) :
  cs = [.int .u8 f,.int .u8 l,.string ⟨a.toArray⟩,.string ⟨s.toArray⟩]:=by
 obtain ⟨xs,n,_,hx,hl,hxl,hel⟩:=DataW.trod_struct Tryz.underlying195 h
 rw [Tryz.cells195] at hl
 obtain ⟨c0,c1,c2,c3,rfl⟩:=len4 cs hl
 obtain ⟨x0,x1,x2,x3,rfl⟩:=len4 xs hxl
 have e:=congrArg Prod.fst hx
 simp only [List.map_cons,List.map_nil,DataW.agg.injEq,List.cons.injEq,and_true] at e
 obtain ⟨e0,e1,e2,e3⟩:=e
 have h0 : DataW.trod enc Tryz.prog w base sp held n 5 (([c0,c1,c2,c3].drop 0).take (Tryz.prog.cellsOf 5)) = some x0:=hel 0 _ rfl
 have h1 : DataW.trod enc Tryz.prog w base sp held n 5 (([c0,c1,c2,c3].drop 1).take (Tryz.prog.cellsOf 5)) = some x1:=hel 1 _ rfl
 have h2 : DataW.trod enc Tryz.prog w base sp held n 9 (([c0,c1,c2,c3].drop 2).take (Tryz.prog.cellsOf 9)) = some x2:=hel 2 _ rfl
 have h3 : DataW.trod enc Tryz.prog w base sp held n 9 (([c0,c1,c2,c3].drop 3).take (Tryz.prog.cellsOf 9)) = some x3:=hel 3 _ rfl
 rw [Tryz.cells5] at h0 h1
 rw [Tryz.cells9] at h2 h3
 obtain ⟨n0,g0,k0,_⟩:=DataW.trod_int Tryz.underlying5 h0
 obtain ⟨n1,g1,k1,_⟩:=DataW.trod_int Tryz.underlying5 h1
 obtain ⟨s2,g2,k2,_⟩:=DataW.trod_string Tryz.underlying9 h2
 obtain ⟨s3,g3,k3,_⟩:=DataW.trod_string Tryz.underlying9 h3
 clear hel h hx h0 h1 h2 h3
 rw [k0] at e0
 rw [k1] at e1
 rw [k2] at e2
 rw [k3] at e3
 simp only [DataW.lit.injEq,Lit.int.injEq,true_and,Lit.string.injEq] at e0 e1 e2 e3
 simp only [List.drop_zero,List.drop_succ_cons,List.take_succ_cons,List.take_zero,List.cons.injEq,and_true] at g0 g1 g2 g3
 rw [g0,g1,g2,g3,e0,e1,e2,e3]
theorem chunks (l : List Value) (h : l.length = 28) : l = l.take 4 ++ ((l.drop 4).take 4 ++ ((l.drop 8).take 4 ++ ((l.drop 12).take 4 ++ ((l.drop 16).take 4 ++ ((l.drop 20).take 4 ++ (l.drop 24).take 4))))):=by
 have e : ∀ n,l.drop n = (l.drop n).take 4 ++ l.drop (n + 4):=fun n => by
  have:=(List.take_append_drop 4 (l.drop n)).symm
  rwa [List.drop_drop] at this
 have e6 : l.drop 24 = (l.drop 24).take 4:=by rw [List.take_of_length_le (by simp; omega)]
 have e5:=e 20; have e4:=e 16; have e3:=e 12; have e2:=e 8; have e1:=e 4; have e0:=e 0
 simp only [List.drop_zero,Nat.zero_add,Nat.reduceAdd] at e0 e1 e2 e3 e4 e5
 rw [← e6,← e5,← e4,← e3,← e2,← e1,← e0]
theorem kinds_of_laid {W : World} {rest : List (String × DataW Unit)} (h : laidMet Tryz.prog (("flagon/ops.kinds",Rows.laid_flagon_ops_kinds) :: rest) W) : KindsOk W:=by
 obtain ⟨ps,⟨g',t',cs,fuel,p,q,hg',ht',hvar,hd,_,_⟩,_⟩:=h
 obtain rfl:=Option.some.inj (Tryz.kindsAt.symm.trans hg')
 obtain rfl:=Option.some.inj (Tryz.kindsType.symm.trans ht')
 obtain ⟨xs,n,_,hx,hl,hxl,hel⟩:=DataW.trod_array Tryz.underlying196 hd
 rw [Tryz.cells196] at hl
 obtain ⟨x0,x1,x2,x3,x4,x5,x6,rfl⟩:=len7 xs hxl
 have e:=congrArg Prod.fst hx
 simp only [Rows.laid_flagon_ops_kinds,List.map_cons,List.map_nil,DataW.agg.injEq,List.cons.injEq,and_true] at e
 obtain ⟨e0,e1,e2,e3,e4,e5,e6⟩:=e
 have h0:=hel 0 (by decide); have h1:=hel 1 (by decide); have h2:=hel 2 (by decide); have h3:=hel 3 (by decide); have h4:=hel 4 (by decide); have h5:=hel 5 (by decide); have h6:=hel 6 (by decide)
 simp only [Tryz.cells195,Nat.reduceMul,List.drop_zero,List.getElem?_cons_zero,List.getElem?_cons_succ] at h0 h1 h2 h3 h4 h5 h6
 obtain ⟨d0,p0⟩:=x0; obtain ⟨d1,p1⟩:=x1; obtain ⟨d2,p2⟩:=x2; obtain ⟨d3,p3⟩:=x3; obtain ⟨d4,p4⟩:=x4; obtain ⟨d5,p5⟩:=x5; obtain ⟨d6,p6⟩:=x6
 simp only at e0 e1 e2 e3 e4 e5 e6
 subst e0 e1 e2 e3 e4 e5 e6
 have hcs : cs.toList = kindsL:=by
  rw [chunks _ hl,kind_cells h0,kind_cells h1,kind_cells h2,kind_cells h3,kind_cells h4,kind_cells h5,kind_cells h6]
  rfl
 intro j v hj
 rw [World.var?_cell Tryz.kindsAt hvar j,← Array.getElem?_toList,hcs]
 exact hj
end Go.Proofs.YtepnnenohjfkbaaGreatDoor

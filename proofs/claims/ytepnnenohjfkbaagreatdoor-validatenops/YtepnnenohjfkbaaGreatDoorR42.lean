/-
  Texts Xw Yg Yi Ya Yb Yc.
-/
import Derived.Test.YtepnnenohjfkbaaGreatDoorR30
import Derived.Test.YtepnnenohjfkbaaGreatDoorR35
import Derived.Test.YtepnnenohjfkbaaGreatDoorR40
import Derived.Test.YtepnnenohjfkbaaGreatDoorR41
set_option linter.unusedVariables false
set_option maxRecDepth 100000
set_option maxHeartbeats 16000000
namespace Go.Proofs.YtepnnenohjfkbaaGreatDoor
open Go.ChangeShapes Go.WideShapes Go.ChangeAt Go.RowKit
structure Raw (W : World) (m : MM) : Prop where
 t : LsAt W 2 FSig m.ta m.tn m.tc m.types
 tg : ∀ (j : Nat) x,m.types[j]? = some x → GSig W x
 h : LsAt W 1 (fun (z : Int) => [Value.int .i64 z]) m.ha m.hn m.hc m.hosts
 hg : ∀ (j : Nat) a,m.hosts[j]? = some a → -9223372036854775808 ≤ a ∧ a < 9223372036854775808
 g : LsAt W 3 FGl m.ga m.gn m.gc m.globals
 gg : ∀ (j : Nat) x,m.globals[j]? = some x → GGl W x
 i : -9223372036854775808 ≤ m.fi ∧ m.fi < 9223372036854775808
 o : -9223372036854775808 ≤ m.mo ∧ m.mo < 9223372036854775808
 f : LsAt W 3 FFu m.fa m.fn m.fc m.fns
 fg : ∀ (j : Nat) x,m.fns[j]? = some x → GFu W x
 d : LsAt W 2 FDa m.da m.dn m.dc m.data
 dg : ∀ (j : Nat) x,m.data[j]? = some x → GDa W x
 e : LsAt W 2 FEx m.ea m.en m.ec m.exps
 eg : ∀ (j : Nat) x,m.exps[j]? = some x → GEx W x
 top : ∀ a ∈ [m.ta,m.ha,m.ga,m.fa,m.da,m.ea],∀ b off s,a = some ⟨b,off,s⟩ → b < W.heap.size
def Small (m : MM) : Prop:=tsum m.types + fsumL m.fns + dsum m.data + esum m.exps ≤ 4000
theorem le_sumX {α : Type} {f : α → Nat} {l : List α} {x : α} (h : x ∈ l) : f x ≤ (l.map f).sum:=le_sum_of (List.mem_map.2 ⟨x,h,rfl⟩)
theorem szG_each : ∀ (xs : List InM) (z : Nat),szG xs z ≤ 4000 → z ≤ 4000 ∧ ∀ x ∈ xs,x.2.2.1.2.1 ≤ 4000
 | [],z,h => ⟨h,fun x hx => by cases hx⟩
 | y :: r,z,h => by
  by_cases hz : z ≤ 2147483647
  ·rw [szG_pos hz] at h
   obtain ⟨h1,h2⟩:=szG_each r _ h
   refine ⟨by omega,fun x hx => ?_⟩
   rcases List.mem_cons.1 hx with rfl | hx
   ·omega
   ·exact h2 x hx
  ·rw [szG_neg hz] at h
   omega
section
variable {W : World} {m : MM}
theorem LsAt.sig {a : Option Addr} {n cap : Nat} {xs : List Sg} (h : LsAt W 2 FSig a n cap xs) : AtSig W a n xs :=
 ⟨h.len,h.at_.imp id fun ⟨b,off,e,hc⟩ => ⟨b,off,e,fun j x hj => ⟨hc j x hj 0 _ rfl,hc j x hj 1 _ rfl⟩⟩⟩
theorem LsAt.nu {a : Option Addr} {n cap : Nat} {xs : List Int} (h : LsAt W 1 (fun (z : Int) => [Value.int .i64 z]) a n cap xs) : AtNu W a n xs :=
 ⟨h.len,h.at_.imp id fun ⟨b,off,e,hc⟩ => ⟨b,off,e,fun j x hj => by have:=hc j x hj 0 _ rfl; rwa [Nat.mul_one] at this⟩⟩
theorem LsAt.gl {a : Option Addr} {n cap : Nat} {xs : List Gl} (h : LsAt W 3 FGl a n cap xs) : AtGl W a n xs :=
 ⟨h.len,h.at_.imp id fun ⟨b,off,e,hc⟩ => ⟨b,off,e,fun j x hj => ⟨hc j x hj 0 _ rfl,hc j x hj 1 _ rfl,hc j x hj 2 _ rfl⟩⟩⟩
theorem LsAt.fu {a : Option Addr} {n cap : Nat} {xs : List FuM} (h : LsAt W 3 FFu a n cap xs) : AtFu W a n xs :=
 ⟨h.len,h.at_.imp id fun ⟨b,off,e,hc⟩ => ⟨b,off,e,fun j x hj => ⟨hc j x hj 0 _ rfl,hc j x hj 1 _ rfl,hc j x hj 2 _ rfl⟩⟩⟩
theorem LsAt.in_ {a : Option Addr} {n cap : Nat} {xs : List InM} (h : LsAt W 3 FIn a n cap xs) : AtIn W a n xs :=
 ⟨h.len,h.at_.imp id fun ⟨b,off,e,hc⟩ => ⟨b,off,e,fun j x hj => ⟨hc j x hj 0 _ rfl,hc j x hj 1 _ rfl,hc j x hj 2 _ rfl⟩⟩⟩
theorem LsAt.da {a : Option Addr} {n cap : Nat} {xs : List DaM} (h : LsAt W 2 FDa a n cap xs) : AtDa W a n xs :=
 ⟨h.len,h.at_.imp id fun ⟨b,off,e,hc⟩ => ⟨b,off,e,fun j x hj => ⟨hc j x hj 0 _ rfl,hc j x hj 1 _ rfl⟩⟩⟩
theorem LsAt.ex {a : Option Addr} {n cap : Nat} {xs : List Ex} (h : LsAt W 2 FEx a n cap xs) : AtEx W a n xs :=
 ⟨h.len,h.at_.imp id fun ⟨b,off,e,hc⟩ => ⟨b,off,e,fun j x hj => ⟨hc j x hj 0 _ rfl,hc j x hj 1 _ rfl⟩⟩⟩
theorem LsAt.segI {a : Option Addr} {n cap : Nat} {xs : List Int} (h : LsAt W 1 (fun (z : Int) => [Value.int .i64 z]) a n cap xs) (hr : ∀ (j : Nat) a,xs[j]? = some a → -9223372036854775808 ≤ a ∧ a < 9223372036854775808) (hn : n ≤ 4000) : SegI W a n cap xs:=by
 refine ⟨h.len,h.cap_,by omega,fun z hz => ?_,h.at_.imp id fun ⟨b,off,e,hc⟩ => ⟨b,off,e,fun j hj => ?_⟩⟩
 ·obtain ⟨j,hj⟩:=List.getElem?_of_mem hz
  have:=hr j z hj
  omega
 ·have hl:=h.len
  have hx : xs[j]? = some (xs[j]'(by omega)):=List.getElem?_eq_getElem _
  have:=hc j _ hx 0 _ rfl
  rw [Nat.mul_one] at this
  rw [List.getD_eq_getElem?_getD,hx]
  exact this
theorem LsAt.segB {a : Option Addr} {n cap : Nat} {xs : List Int} (h : LsAt W 1 (fun (z : Int) => [Value.int .u8 z]) a n cap xs) (hr : ∀ (j : Nat) a,xs[j]? = some a → 0 ≤ a ∧ a ≤ 255) (hn : n ≤ 4000) : Seg W a n cap xs:=by
 refine ⟨h.len,h.cap_,by omega,fun z hz => ?_,h.at_.imp id fun ⟨b,off,e,hc⟩ => ⟨b,off,e,fun j hj => ?_⟩⟩
 ·obtain ⟨j,hj⟩:=List.getElem?_of_mem hz
  exact hr j z hj
 ·have hl:=h.len
  have hx : xs[j]? = some (xs[j]'(by omega)):=List.getElem?_eq_getElem _
  have:=hc j _ hx 0 _ rfl
  rw [Nat.mul_one] at this
  rw [List.getD_eq_getElem?_getD,hx]
  exact this
theorem Small.parts (h : Small m) : (∀ (j : Nat) x,m.types[j]? = some x → x.1.size + x.2.size ≤ 4000) ∧ (∀ (j : Nat) x,m.fns[j]? = some x → x.2.1.size ≤ 4000 ∧ ∀ (i : Nat) y,x.2.2.2[i]? = some y → y.2.2.1.2.1 ≤ 4000) ∧ (∀ (j : Nat) x,m.data[j]? = some x → x.2.1.2.1 ≤ 4000) ∧ ∀ (j : Nat) x,m.exps[j]? = some x → x.1.size ≤ 4000:=by
 unfold Small at h
 refine ⟨fun j x hj => ?_,fun j x hj => ?_,fun j x hj => ?_,fun j x hj => ?_⟩
 ·have : x.1.size + x.2.size ≤ tsum m.types:=le_sumX (f:=fun x : Sg => x.1.size + x.2.size) (List.mem_of_getElem? hj)
  omega
 ·have : x.2.1.size + szG x.2.2.2 x.2.2.1.2.1 ≤ fsumL m.fns:=le_sumX (f:=fun x : FuM => x.2.1.size + szG x.2.2.2 x.2.2.1.2.1) (List.mem_of_getElem? hj)
  exact ⟨by omega,fun i y hi => (szG_each x.2.2.2 x.2.2.1.2.1 (by omega)).2 y (List.mem_of_getElem? hi)⟩
 ·have : x.2.1.2.1 ≤ dsum m.data:=le_sumX (f:=fun x : DaM => x.2.1.2.1) (List.mem_of_getElem? hj)
  omega
 ·have : x.1.size ≤ esum m.exps:=le_sumX (f:=fun x : Ex => x.1.size) (List.mem_of_getElem? hj)
  omega
theorem Raw.ok (h : Raw W m) (hs : Small m) : ∀ R g,W.heap.size ≤ R → W.heap.size ≤ g → MOk W R g m:=by
 intro R g hR hg
 obtain ⟨s1,s2,s3,s4⟩:=hs.parts
 have far : ∀ a ∈ [m.ta,m.ha,m.ga,m.fa,m.da,m.ea],Far W R g a:=fun a ha b off c hb => by have:=h.top a ha b off c hb; omega
 have farN : ∀ {a : Option Addr} {n : Nat},(∀ b off s,nz n a = some ⟨b,off,s⟩ → b < W.heap.size) → Far W R g (nz n a):=fun hl b off c hb => by have:=hl b off c hb; omega
 refine ⟨h.t.sig,far _ (by simp),h.h.nu,far _ (by simp),h.hg,h.g.gl,far _ (by simp),h.gg,h.i.1,h.i.2,h.o.1,h.o.2,h.f.fu,far _ (by simp),fun j x hj => ?_,h.d.da,far _ (by simp),fun j x hj => ?_,h.e.ex,far _ (by simp),fun j x hj => (h.eg j x hj).2⟩
 ·obtain ⟨q1,q2,q3,q4⟩:=h.fg j x hj
  refine ⟨q1,q3.in_,farN q3.lt,fun i y hi => ?_⟩
  obtain ⟨r1,r2,r3,r4⟩:=q4 i y hi
  exact ⟨r1,r2,r3.segI r4 ((s2 j x hj).2 i y hi),farN r3.lt⟩
 ·obtain ⟨q1,q2,q3⟩:=h.dg j x hj
  exact ⟨q1,q2.segB q3 (s3 j x hj),farN q2.lt⟩
theorem Raw.szc (h : Raw W m) : SzC W m :=
 ⟨h.t.big,h.h.big,h.g.big,h.f.big,h.d.big,h.e.big,h.tg,fun j x hj => by
  obtain ⟨q1,q2,q3,q4⟩:=h.fg j x hj
  exact ⟨q2,q3.big,q3.in_,fun i y hi => (q4 i y hi).2.2.1.big⟩,fun j x hj => (h.dg j x hj).2.1.big,fun j x hj => (h.eg j x hj).1⟩
theorem Raw.szb (h : Raw W m) (hs : Small m) : SzB W m:=by
 obtain ⟨s1,s2,s3,s4⟩:=hs.parts
 exact ⟨h.t.big,h.h.big,h.g.big,h.f.big,h.d.big,h.e.big,fun j x hj => by have:=s1 j x hj; omega,fun j x hj => by
  obtain ⟨q1,q2,q3,q4⟩:=h.fg j x hj
  exact ⟨by have:=(s2 j x hj).1; omega,q3.big,q3.in_,fun i y hi => by have:=(s2 j x hj).2 i y hi; omega⟩,fun j x hj => by have:=s3 j x hj; omega,fun j x hj => by have:=s4 j x hj; omega⟩
theorem Raw.cap (h : Raw W m) : ∀ x ∈ m.fns,x.2.2.1.2.1 ≤ x.2.2.1.2.2:=fun x hx => by
 obtain ⟨j,hj⟩:=List.getElem?_of_mem hx
 exact (h.fg j x hj).2.2.1.cap_
theorem Raw.later {W' : World} (h : Raw W m) (hb : Below W.heap.size W W') : SzC W' m ∧ AtSig W' m.ta m.tn m.types ∧ AtFu W' m.fa m.fn m.fns ∧ AtDa W' m.da m.dn m.data ∧ AtEx W' m.ea m.en m.exps:=by
 have hk : Kept (fun _ => False) W W':=kept_of hb
 have z:=h.szc
 exact ⟨⟨z.tn,z.hn,z.gn,z.fn,z.dn,z.en,z.t,fun j x hj => ⟨(z.f j x hj).1,(z.f j x hj).2.1,(z.f j x hj).2.2.1.kept hk (fun _ _ _ _ => id),(z.f j x hj).2.2.2⟩,z.d,z.e⟩,h.t.sig.kept hk (fun _ _ _ _ => id),h.f.fu.kept hk (fun _ _ _ _ => id),h.d.da.kept hk (fun _ _ _ _ => id),h.e.ex.kept hk (fun _ _ _ _ => id)⟩
end
section
variable {H : Type} {enc : TypeId × Value → H} {W : World}
theorem cell_ltX {r : Reach} {base : Nat} {u : TypeId} {a : Addr} {n c : Nat} (h : Cell.okWide Tryz.prog W r base u (.slice (some a) n c)) : a.block < W.heap.size:=by
 unfold Cell.okWide at h
 cases hu : Tryz.prog.underlying u with
 | none => simp [hu,Cell.ok] at h
 | some d =>
  cases d <;> simp [hu,Cell.ok] at h
  obtain ⟨_,_,_,_,row,cells,hsh,_⟩:=h
  unfold World.shape? at hsh
  rcases Nat.lt_or_ge a.block W.heap.size with hl | hl
  ·exact hl
  ·rw [Array.getElem?_eq_none hl] at hsh; cases hsh
theorem open_module {base : Nat} {v : Value} {d : DataW H} {ps : List MemPlace} (hval : Value.okWide Tryz.prog W .any base 29 v) (h : DataW.Trod enc Tryz.prog W 0 (fun _ => true) true 29 v d ps) (hw : ∀ n ∈ d.weights Tryz.prog 29,n ≤ reachBytes) :
  ∃ m : MM,v = .agg (mV m) ∧ Raw W m:=by
 have hval':=hval
 obtain ⟨cs,rfl,hsz⟩:=okWide_struct Tryz.underlying29 hval
 obtain ⟨fuel,hf⟩:=h
 obtain ⟨ta,tn,tc,ts,ha,hn,hc,hs,ga,gn,gc,gs,fi,mo,fa,fn,fc,fs,da,dn,dc,ds,ea,en,ec,es,hcs,⟨t1,t2⟩,⟨h1,h2⟩,⟨g1,g2⟩,i1,o1,⟨f1,f2⟩,⟨d1,d2⟩,e1,e2⟩:=open_Mod hf hw
 have e : cs.toList = [.slice ta tn tc,.slice ha hn hc,.slice ga gn gc,.int .i64 fi,.int .i64 mo,.slice fa fn fc,.slice da dn dc,.slice ea en ec]:=hcs
 have ec' : cs = #[.slice ta tn tc,.slice ha hn hc,.slice ga gn gc,.int .i64 fi,.int .i64 mo,.slice fa fn fc,.slice da dn dc,.slice ea en ec]:=by
  apply Array.toList_inj.1
  rw [e]
 refine ⟨⟨ta,tn,tc,ts,ha,hn,hc,hs,ga,gn,gc,gs,fi,mo,fa,fn,fc,fs,da,dn,dc,ds,ea,en,ec,es⟩,by rw [ec']; rfl,⟨t1,t2,h1,h2,g1,g2,i1,o1,f1,f2,d1,d2,e1,e2,?_⟩⟩
 obtain ⟨cs',hv,_,⟨tt,htt,_,hall⟩⟩ : ∃ cs',Value.agg cs = .agg cs' ∧ cs'.size = Tryz.prog.cellsOf 29 ∧ Row.okWide Tryz.prog W .any base 29 cs':=by
  have:=hval'
  simp only [Value.okWide,Tryz.underlying29] at this
  exact this
 injection hv with hv
 subst hv
 have look : ∀ (i : Nat) a n c,cs[i]? = some (.slice (some a) n c) → a.block < W.heap.size:=fun i a n c hi => by
  obtain ⟨u,_,hu⟩:=hall i _ hi
  exact cell_ltX hu
 rw [ec'] at look
 intro a hm b off s hb
 subst hb
 simp only [List.mem_cons,List.not_mem_nil,or_false] at hm
 rcases hm with hm | hm | hm | hm | hm | hm
 ·exact look 0 ⟨b,off,s⟩ tn tc (by rw [hm]; rfl)
 ·exact look 1 ⟨b,off,s⟩ hn hc (by rw [hm]; rfl)
 ·exact look 2 ⟨b,off,s⟩ gn gc (by rw [hm]; rfl)
 ·exact look 5 ⟨b,off,s⟩ fn fc (by rw [hm]; rfl)
 ·exact look 6 ⟨b,off,s⟩ dn dc (by rw [hm]; rfl)
 ·exact look 7 ⟨b,off,s⟩ en ec (by rw [hm]; rfl)
end
open Go.RowKit
theorem away18 (c : Int) (w : World) : Calls Tryz.prog 18 #[.int .u8 c] w fun e w' => e = .returned (.bool (decide (c = 7 ∨ c = 9 ∨ c = 10 ∨ c = 0))) ∧ w' = w:=by
 by_cases h0 : c = 0
 ·subst h0
  go_enter Tryz.func18,Tryz.ntmps18
  go_wp2
  go_ret
  exact ⟨rfl,rfl⟩
 by_cases h7 : c = 7
 ·subst h7
  go_enter Tryz.func18,Tryz.ntmps18
  go_wp2
  go_ret
  exact ⟨rfl,rfl⟩
 by_cases h9 : c = 9
 ·subst h9
  go_enter Tryz.func18,Tryz.ntmps18
  go_wp2
  go_ret
  exact ⟨rfl,rfl⟩
 by_cases h10 : c = 10
 ·subst h10
  go_enter Tryz.func18,Tryz.ntmps18
  go_wp2
  go_ret
  exact ⟨rfl,rfl⟩
 have e : decide (c = 7 ∨ c = 9 ∨ c = 10 ∨ c = 0) = false:=decide_eq_false (by omega)
 rw [e]
 have b0 : (c == 0) = false:=by simpa using h0
 have b7 : (c == 7) = false:=by simpa using h7
 have b9 : (c == 9) = false:=by simpa using h9
 have b10 : (c == 10) = false:=by simpa using h10
 go_enter Tryz.func18,Tryz.ntmps18
 go_wp2
 go_ret
 exact ⟨rfl,rfl⟩
structure FnZ (W : World) (FB : Nat) (y : FuM) : Prop where
 at_ : AtIn W y.2.2.1.1 y.2.2.1.2.1 y.2.2.2
 ne : ∀ b off c,nz y.2.2.1.2.1 y.2.2.1.1 = some ⟨b,off,c⟩ → b ≠ FB ∧ b < W.heap.size
 ins : ∀ (i : Nat) z,y.2.2.2[i]? = some z → 0 ≤ z.1 ∧ z.1 ≤ 255 ∧ SegI W z.2.2.1.1 z.2.2.1.2.1 z.2.2.1.2.2 z.2.2.2 ∧ ∀ b off c,nz z.2.2.1.2.1 z.2.2.1.1 = some ⟨b,off,c⟩ → b ≠ FB ∧ b < W.heap.size
theorem MC.setZ {m n : MM} {base : Nat} {W1 W2 w0 : World} {R0 g0 FB k : Nat} {y y' : FuM} (h : MC m n base W1) (hm : MOk w0 R0 g0 m) (hfa : n.fa = some ⟨FB,0,none⟩) (hy : n.fns[k]? = some y) (hk : Kept (fun b => b = FB) W1 W2)
  (c1 : W2.cell? ⟨FB,k * 3 + 1,none⟩ = some (.string y'.2.1)) (c2 : W2.cell? ⟨FB,k * 3 + 2,none⟩ = some (.slice y'.2.2.1.1 y'.2.2.1.2.1 y'.2.2.1.2.2)) (ho : ∀ o,o ≠ k * 3 + 1 → o ≠ k * 3 + 2 → W2.cell? ⟨FB,o,none⟩ = W1.cell? ⟨FB,o,none⟩) (hty : y'.1 = y.1) (hN : FnZ W1 FB y') :
  ∀ R g,W2.heap.size ≤ R → W2.heap.size ≤ g → MOk W2 R g (setFn n k y'):=by
 intro R g hR hg
 have hs:=hk.size
 have ok:=h.ok hm R g (by omega) (by omega)
 have l4 : n.fns.length = n.fn:=by rw [h.fl,h.fn]
 have hFB : ∃ cur,W1.heap[FB]? = some (.cells cur 42):=((own_at fcel (fun _ => rfl) h.rF l4).2.1 FB 0 none hfa).2.2
 obtain ⟨fcur,hFB⟩:=hFB
 have ne : ∀ {e kk nn c : Nat} {a : Option Addr} {xs : List Value},W1.ownsRow base e kk (.slice a nn c) nn xs → e ≠ 42 → ∀ b off cc,a = some ⟨b,off,cc⟩ → ¬ b = FB:=by
  intro e kk nn c a xs hr he b off cc ha hb
  subst ha
  rcases hr.2 with ⟨h0,_⟩ | ⟨q,cp,cur,h1,_,h3,_⟩
  ·cases h0
  ·injection h1 with h1
   obtain rfl : b = q:=by injection h1 with h1; injection h1
   subst hb
   rw [hFB] at h3; simp at h3
   exact he h3.2.symm
 have far : ∀ {a : Option Addr},Far W1 R g a → Far W2 R g a:=fun hf b off cc hb => ⟨(hf b off cc hb).1,(hf b off cc hb).2.1,Nat.lt_of_lt_of_le (hf b off cc hb).2.2 hs⟩
 refine ⟨ok.pt.kept hk (ne h.rT (by decide)),far ok.tf,ok.ph.kept hk (ne h.rH (by decide)),far ok.hf,ok.hr,ok.pg.kept hk (ne h.rG (by decide)),far ok.gf,ok.gr,ok.i0,ok.i1,ok.o0,ok.o1,⟨?_,.inr ⟨FB,0,hfa,fun j x hj => ?_⟩⟩,far ok.ff,fun j x hj => ?_,ok.pd.kept hk (ne h.rD (by decide)),far ok.df,fun j x hj => ?_,ok.pe.kept hk (ne h.rE (by decide)),far ok.ef,ok.er⟩
 ·show (n.fns.set k y').length = n.fn
  rw [List.length_set]; exact l4
 ·obtain ⟨b0,off0,e0,hat⟩:=ok.pf.2.resolve_left (by have:=lt_of_get hy; omega)
  rw [hfa] at e0
  injection e0 with e0
  injection e0 with e1 e2
  subst e1 e2
  have hj' : (n.fns.set k y')[j]? = some x:=hj
  by_cases e : j = k
  ·subst e
   rw [List.getElem?_set_self (lt_of_get hy)] at hj'
   obtain rfl:=Option.some.inj hj'
   obtain ⟨d0,_,_⟩:=hat j y hy
   refine ⟨?_,?_,?_⟩
   ·rw [ho _ (by omega) (by omega),hty]; exact d0
   ·rw [Nat.zero_add]; exact c1
   ·rw [Nat.zero_add]; exact c2
  ·rw [List.getElem?_set_ne (fun x => e x.symm)] at hj'
   obtain ⟨d0,d1,d2⟩:=hat j x hj'
   exact ⟨(ho _ (by omega) (by omega)).trans d0,(ho _ (by omega) (by omega)).trans d1,(ho _ (by omega) (by omega)).trans d2⟩
 ·have hj' : (n.fns.set k y')[j]? = some x:=hj
  by_cases e : j = k
  ·subst e
   rw [List.getElem?_set_self (lt_of_get hy)] at hj'
   obtain rfl:=Option.some.inj hj'
   obtain ⟨a1,_⟩:=ok.fr j y hy
   refine ⟨by rw [hty]; exact a1,hN.at_.kept hk (fun b off c e => (hN.ne b off c e).1),fun b off c e => by have:=(hN.ne b off c e).2; omega,fun i z hz => ?_⟩
   obtain ⟨q1,q2,q3,q4⟩:=hN.ins i z hz
   exact ⟨q1,q2,q3.kept' hk (fun b off c e => (q4 b off c e).1),fun b off c e => by have:=(q4 b off c e).2; omega⟩
  ·rw [List.getElem?_set_ne (fun x => e x.symm)] at hj'
   obtain ⟨a1,a2,a3,a4⟩:=ok.fr j x hj'
   have hL:=h.fL x (List.mem_of_getElem? hj')
   have hLC:=hL.1
   unfold LC at hLC
   rw [List.length_map,a2.1] at hLC
   refine ⟨a1,a2.kept hk (fun b off c e => ne hLC (by decide) b off c (nz_some e)),far a3,fun i z hz => ?_⟩
   obtain ⟨q1,q2,q3,q4⟩:=a4 i z hz
   have hLi : LI W1 base (.slice z.2.2.1.1 z.2.2.1.2.1 z.2.2.1.2.2) z.2.2.2:=hL.2 (inx z) (List.mem_map.2 ⟨z,List.mem_of_getElem? hz,rfl⟩)
   unfold LI at hLi
   rw [q3.1] at hLi
   exact ⟨q1,q2,q3.kept' hk (fun b off c e => ne hLi (by decide) b off c (nz_some e)),far q4⟩
 ·obtain ⟨a1,a2,a3⟩:=ok.dr j x hj
  have hL : W1.ownsRow base 5 1 (.slice x.2.1.1 x.2.1.2.1 x.2.1.2.2) x.2.1.2.1 (x.2.2.map (Value.int .u8)):=h.dL x (List.mem_of_getElem? hj)
  exact ⟨a1,a2.kept' hk (fun b off c e => ne hL (by decide) b off c (nz_some e)),far a3⟩
def insO (O : Nat → Int) (p i : Nat) : Int:=if i < p then O i else if i = p then 1 else O (i - 1)
def mv (p i : Nat) : Nat:=if i < p then i else i + 1
def mvI (p : Nat) (z : Int) : Int:=if z < p then z else z + 1
theorem mv_lo {p i : Nat} (h : i < p) : mv p i = i:=if_pos h
theorem mv_hi {p i : Nat} (h : p ≤ i) : mv p i = i + 1:=if_neg (by omega)
theorem mv_inj {p i j : Nat} : mv p i = mv p j ↔ i = j:=by unfold mv; split <;> split <;> omega
theorem mv_nat (p i : Nat) : mvI p (i : Int) = (mv p i : Nat):=by unfold mvI mv; split <;> split <;> omega
theorem mvI_none {p : Nat} {z : Int} : mvI p z = -1 ↔ z = -1:=by unfold mvI; split <;> omega
theorem insO_mv (O : Nat → Int) (p i : Nat) : insO O p (mv p i) = O i:=by
 unfold insO mv
 by_cases h : i < p
 ·rw [if_pos h,if_pos h]
 ·rw [if_neg h,if_neg (by omega),if_neg (by omega)]; congr 1
theorem insO_at (O : Nat → Int) (p : Nat) : insO O p p = 1:=by unfold insO; rw [if_neg (by omega),if_pos rfl]
theorem insO_lo (O : Nat → Int) {p i : Nat} (h : i < p) : insO O p i = O i:=if_pos h
theorem insO_hi (O : Nat → Int) {p i : Nat} (h : p ≤ i) : insO O p (i + 1) = O i:=by rw [← mv_hi h,insO_mv]
theorem stk_lo (O : Nat → Int) (p : Nat) : ∀ i,i ≤ p → stk (insO O p) i = stk O i
 | 0,_ => rfl
 | i + 1,h => by
  unfold stk
  rw [insO_lo O (by omega),stk_lo O p i (by omega)]
theorem map_mv_lo {p : Nat} {l : List Nat} (h : ∀ t ∈ l,t < p) : l.map (mv p) = l:=by
 conv => rhs; rw [← List.map_id l]
 exact List.map_congr_left fun t ht => mv_lo (h t ht)
theorem stk_hi (O : Nat → Int) (p : Nat) : ∀ i,p ≤ i → stk (insO O p) (i + 1) = (stk O i).map (mv p):=by
 intro i hi
 obtain ⟨k,rfl⟩:=Nat.exists_eq_add_of_le hi
 clear hi
 induction k with
 | zero =>
  show stk (insO O p) (p + 1) = (stk O p).map (mv p)
  rw [stk_same (by rw [insO_at]; rfl) (by rw [insO_at]; decide),stk_lo O p p (Nat.le_refl _),map_mv_lo (fun t ht => (stk_mem O p t ht).1)]
 | succ k ih =>
  have e : insO O p (p + k + 1) = O (p + k):=insO_hi O (by omega)
  show stk (insO O p) (p + k + 1 + 1) = (stk O (p + k + 1)).map (mv p)
  by_cases h1 : isO (O (p + k)) = true
  ·rw [stk_open (by rw [e]; exact h1),stk_open h1,ih,List.map_cons,mv_hi (by omega)]
  ·by_cases h6 : O (p + k) = 6
   ·rw [stk_end (by rw [e]; exact h6),stk_end h6,ih,List.map_tail]
   ·rw [stk_same (by rw [e]; simpa using h1) (by rw [e]; exact h6),stk_same (by simpa using h1) h6,ih]
theorem stk_mv (O : Nat → Int) (p i : Nat) : stk (insO O p) (mv p i) = (stk O i).map (mv p):=by
 by_cases h : i < p
 ·rw [mv_lo h,stk_lo O p i (by omega),map_mv_lo (fun t ht => by have:=(stk_mem O i t ht).1; omega)]
 ·rw [mv_hi (by omega),stk_hi O p i (by omega)]
theorem elF_far (O : Nat → Int) : ∀ (k i : Nat),k ≤ i → elF O k i = -1
 | 0,_,_ => rfl
 | k + 1,i,h => by
  have ih:=elF_far O k i (by omega)
  unfold elF
  split
  ·exact ih
  ·rename_i t r hs
   rw [if_neg (fun hh => by have:=(stk_head hs).1; omega)]
   exact ih
theorem elF_lt (O : Nat → Int) : ∀ (k i : Nat),elF O k i < k
 | 0,_ => by show (-1 : Int) < _; omega
 | k + 1,i => by
  have ih:=elF_lt O k i
  unfold elF
  split
  ·omega
  ·split <;> omega
theorem elF_lo (O : Nat → Int) (p : Nat) : ∀ k,k ≤ p → ∀ i,elF (insO O p) k i = elF O k i
 | 0,_,_ => rfl
 | k + 1,h,i => by
  unfold elF
  rw [stk_lo O p k (by omega),insO_lo O (by omega)]
  split
  ·exact elF_lo O p k (by omega) i
  ·rw [elF_lo O p k (by omega) i]
theorem elF_lo' (O : Nat → Int) (p k i : Nat) (h : k ≤ p) : elF (insO O p) k (mv p i) = mvI p (elF O k i):=by
 rw [elF_lo O p k h]
 have hlt:=elF_lt O k i
 have e : mvI p (elF O k i) = elF O k i:=if_pos (by omega)
 rw [e]
 by_cases hi : i < p
 ·rw [mv_lo hi]
 ·rw [mv_hi (by omega),elF_far O k i (by omega),elF_far O k (i + 1) (by omega)]
theorem elF_hi (O : Nat → Int) (p : Nat) : ∀ k,p ≤ k → ∀ i,elF (insO O p) (k + 1) (mv p i) = mvI p (elF O k i):=by
 intro k hk
 obtain ⟨d,rfl⟩:=Nat.exists_eq_add_of_le hk
 clear hk
 induction d with
 | zero =>
  intro i
  show elF (insO O p) (p + 1) (mv p i) = mvI p (elF O p i)
  rw [elF_same (by rw [insO_at]; decide)]
  exact elF_lo' O p p i (Nat.le_refl _)
 | succ d ih =>
  intro i
  have e : insO O p (p + d + 1) = O (p + d):=insO_hi O (by omega)
  have es : stk (insO O p) (p + d + 1) = (stk O (p + d)).map (mv p):=stk_hi O p (p + d) (by omega)
  show elF (insO O p) (p + d + 1 + 1) (mv p i) = mvI p (elF O (p + d + 1) i)
  by_cases h5 : O (p + d) = 5
  ·cases hs : stk O (p + d) with
   | nil =>
    rw [hs] at es
    rw [elF_none es,elF_none hs]; exact ih i
   | cons t r =>
    rw [hs] at es
    rw [elF_else (by rw [e]; exact h5) es,elF_else h5 hs]
    by_cases hi : i = t
    ·rw [if_pos (mv_inj.2 hi),if_pos hi,mv_nat,mv_hi (by omega)]
    ·rw [if_neg (fun h => hi (mv_inj.1 h)),if_neg hi]; exact ih i
  ·rw [elF_same (by rw [e]; exact h5),elF_same h5]; exact ih i
theorem elF_mv (O : Nat → Int) (p k i : Nat) : elF (insO O p) (mv p k) (mv p i) = mvI p (elF O k i):=by
 by_cases h : k < p
 ·rw [mv_lo h]; exact elF_lo' O p k i (by omega)
 ·rw [mv_hi (by omega)]; exact elF_hi O p k (by omega) i
theorem er_mv (O : Nat → Int) (p i : Nat) : er (insO O p) (mv p i) = er O i:=by
 unfold er
 rw [insO_mv,stk_mv,List.length_map]
 split
 ·rfl
 ·split
  ·cases hs : stk O i with
   | nil => rfl
   | cons t r =>
    show (if insO O p (mv p t) = 4 ∧ elF (insO O p) (mv p i) (mv p t) = -1 then (0 : Int) else 37) = if O t = 4 ∧ elF O i t = -1 then 0 else 37
    rw [insO_mv,elF_mv]
    by_cases h : O t = 4 ∧ elF O i t = -1
    ·rw [if_pos h,if_pos ⟨h.1,mvI_none.2 h.2⟩]
    ·rw [if_neg h,if_neg (fun q => h ⟨q.1,mvI_none.1 q.2⟩)]
  ·rfl
theorem er_at (O : Nat → Int) (p : Nat) : er (insO O p) p = 0:=by
 unfold er
 rw [insO_at]
 rfl
theorem mv_cases (p i : Nat) : i = p ∨ ∃ j,i = mv p j ∧ (i < p → j = i) ∧ (p < i → j + 1 = i):=by
 by_cases h : i < p
 ·exact .inr ⟨i,(mv_lo h).symm,fun _ => rfl,fun h' => by omega⟩
 ·by_cases e : i = p
  ·exact .inl e
  ·exact .inr ⟨i - 1,by rw [mv_hi (by omega)]; omega,fun h' => absurd h' h,fun _ => by omega⟩
theorem good_ins {O : Nat → Int} {n p : Nat} (h : Good O n) (hp : p < n) : Good (insO O p) (n + 1):=by
 obtain ⟨h0,h1,h2,h3,h4⟩:=h
 have e : n + 1 - 1 = mv p (n - 1):=by rw [mv_hi (by omega)]; omega
 rw [Good,e]
 refine ⟨by omega,fun i hi => ?_,by rw [er_mv]; exact h2,by rw [insO_mv]; exact h3,by rw [stk_mv,h4]; rfl⟩
 rcases mv_cases p i with rfl | ⟨j,rfl,_,_⟩
 ·exact ⟨er_at O _,fun q => by rw [insO_at] at q; exact absurd q.1 (by decide)⟩
 ·have hj : j < n - 1:=by
   unfold mv at hi
   split at hi <;> split at hi <;> omega
  have:=h1 j hj
  refine ⟨by rw [er_mv]; exact this.1,fun q => this.2 ⟨by rw [← q.1,insO_mv],?_⟩⟩
  have q2:=q.2
  rw [stk_mv] at q2
  exact List.map_eq_nil_iff.1 q2
abbrev dO : Opn:=⟨⟨#[]⟩,⟨#[]⟩,⟨#[]⟩,0,0⟩
theorem gd_app {l : List Opn} {x : Opn} {k : Nat} (h : k < l.length) : (l ++ [x]).getD k dO = l.getD k dO:=by
 rw [List.getD_eq_getElem?_getD,List.getD_eq_getElem?_getD,List.getElem?_append_left h]
theorem gd_app' {l : List Opn} {x : Opn} {k : Nat} (h : l.length ≤ k) : (l ++ [x]).getD k dO = [x].getD (k - l.length) dO:=by
 rw [List.getD_eq_getElem?_getD,List.getD_eq_getElem?_getD,List.getElem?_append_right h]
theorem gd_drop {l : List Opn} {k : Nat} (h : k < l.length - 1) : l.dropLast.getD k dO = l.getD k dO:=by
 rw [List.getD_eq_getElem?_getD,List.getD_eq_getElem?_getD,List.getElem?_dropLast,if_pos h]
theorem gd_drop' {l : List Opn} {k : Nat} (h : ¬ k < l.length - 1) : l.dropLast.getD k dO = dO:=by
 rw [List.getD_eq_getElem?_getD,List.getElem?_dropLast,if_neg h]; rfl
structure SamO (o o' : Opn) : Prop where
 P : o'.P = o.P
 R : o'.R = o.R
 B : o'.B = o.B
 op : o'.op = o.op
structure RelS (p : Nat) (s s' : Cs) : Prop where
 st : s'.st = s.st
 len : s'.op.length = s.op.length
 o : ∀ k,SamO (s.op.getD k dO) (s'.op.getD k dO)
 pc : ∀ k,0 < k → k < s.op.length → (s'.op.getD k dO).pc = mvI p (s.op.getD k dO).pc
section
variable {p : Nat} {s s' : Cs} (h : RelS p s s')
theorem RelS.top (h : RelS p s s') : SamO (topO s) (topO s'):=by
 unfold topO
 rw [h.len]
 exact h.o _
theorem SamO.brg {o o' : Opn} (h : SamO o o') : brg o' = brg o:=by
 unfold Go.Proofs.YtepnnenohjfkbaaGreatDoor.brg
 rw [h.op,h.P,h.R]
theorem RelS.lab (h : RelS p s s') (n : Int) : labE s' n = labE s n ∧ Go.Proofs.YtepnnenohjfkbaaGreatDoor.brg (labO s' n) = Go.Proofs.YtepnnenohjfkbaaGreatDoor.brg (labO s n):=by
 unfold labE labO
 rw [h.len]
 exact ⟨rfl,(h.o _).brg⟩
theorem RelS.ask (h : RelS p s s') {o o' : Opn} (ho : SamO o o') (t : ByteArray) : askE s' o' t = askE s o t:=by
 unfold askE
 rw [h.st,ho.B]
theorem RelS.lef (h : RelS p s s') {o o' : Opn} (ho : SamO o o') : lefE s' o' = lefE s o:=by
 unfold lefE
 rw [h.st,ho.B,ho.R]
theorem els_same {o o' : Opn} (ho : SamO o o') {el el' : Int} (he : o.op = 4 → (el' = -1 ↔ el = -1)) : elsE o' el' = elsE o el:=by
 unfold elsE
 rw [ho.op,ho.P,ho.R]
 by_cases h4 : o.op = 4
 ·by_cases hq : el = -1
  ·rw [hq,(he h4).2 hq]
  ·have hq' : el' ≠ -1:=fun h => hq ((he h4).1 h)
   rw [if_pos (.inr (.inl hq')),if_pos (.inr (.inl hq))]
 ·rw [if_pos (.inl h4),if_pos (.inl h4)]
theorem RelS.let_ (h : RelS p s s') {o o' : Opn} (ho : SamO o o') (j : Nat) : letE s' o' j = letE s o j ∧ letV s' o' j = letV s o j:=by
 unfold letE letV
 rw [h.st,ho.B]
 exact ⟨rfl,rfl⟩
theorem RelS.ef (h : RelS p s s') {o o' : Opn} (ho : SamO o o') (m : MM) (lo : List Int) (c a : Int) : efE m lo s' o' c a = efE m lo s o c a ∧ efV m lo s' o' c a = efV m lo s o c a:=by
 unfold efE efV
 rw [(h.let_ ho 0).1,(h.let_ ho 1).1,(h.let_ ho 0).2,(h.let_ ho 1).2]
 exact ⟨rfl,rfl⟩
end
section
variable {p : Nat} {s s' : Cs}
theorem RelS.com (h : RelS p s s') (l : List Int) : comE s' l = comE s l:=by
 unfold comE
 have e1 : (fun n => labE s' n == 0) = fun n => labE s n == 0:=funext fun n => by rw [(h.lab n).1]
 have e2 : (fun n => (brg (labO s' n)).toList == (brg (labO s' (l.getD 0 0))).toList) = fun n => (brg (labO s n)).toList == (brg (labO s (l.getD 0 0))).toList:=funext fun n => by rw [(h.lab n).2,(h.lab (l.getD 0 0)).2]
 rw [e1,e2]
theorem RelS.body (h : RelS p s s') : brg (bodyO s') = brg (bodyO s):=(h.o 0).brg
theorem RelS.take (h : RelS p s s') (t : ByteArray) : (takeS s' t).st = (takeS s t).st:=by
 show s'.st.extract 0 (s'.st.size - t.size) = s.st.extract 0 (s.st.size - t.size)
 rw [h.st]
theorem RelS.rwE (h : RelS p s s') {o o' : Opn} (ho : SamO o o') {el el' : Int} (he : o.op = 4 → (el' = -1 ↔ el = -1)) (m : MM) (lo : List Int) (c a : Int) (l : List Int) : rwE m lo el' s' o' c a l = rwE m lo el s o c a l:=by
 unfold Go.Proofs.YtepnnenohjfkbaaGreatDoor.rwE opE
 simp only [h.ask ho,h.lef ho,els_same ho he,(h.lab _).1,(h.lab _).2,h.com,h.body,(h.ef ho m lo c a).1,(h.ef ho m lo c a).2,h.take,ho.B,ho.R]
theorem RelS.rwS (h : RelS p s s') {o o' : Opn} (ho : SamO o o') (m : MM) (lo : List Int) (c a : Int) (hp : s'.pc = mv p s.pc) : RelS p (rwS m lo s o c a) (rwS m lo s' o' c a):=by
 unfold Go.Proofs.YtepnnenohjfkbaaGreatDoor.rwS
 have ent : ∀ (tk P R : ByteArray),RelS p (entS s c tk P R) (entS s' c tk P R):=fun tk P R => by
  have eB : entB s' tk P = entB s tk P:=by unfold entB; rw [h.st]
  refine ⟨?_,?_,fun k => ?_,fun k h0 hk => ?_⟩
  ·show s'.st.extract 0 (s'.st.size - tk.size) = s.st.extract 0 (s.st.size - tk.size)
   rw [h.st]
  ·show (s'.op ++ [_]).length = (s.op ++ [_]).length
   simp [h.len]
  ·show SamO ((s.op ++ [(⟨P,R,entB s tk P,c,s.pc⟩ : Opn)]).getD k dO) ((s'.op ++ [(⟨P,R,entB s' tk P,c,s'.pc⟩ : Opn)]).getD k dO)
   by_cases hk : k < s.op.length
   ·rw [gd_app hk,gd_app (by rw [h.len]; exact hk)]
    exact h.o k
   ·rw [gd_app' (by omega),gd_app' (by rw [h.len]; omega),h.len,eB]
    generalize k - s.op.length = q
    cases q with
    | zero => exact ⟨rfl,rfl,rfl,rfl⟩
    | succ q => exact ⟨rfl,rfl,rfl,rfl⟩
  ·have hk' : k < s.op.length + 1:=by
    have : (s.op ++ [(⟨P,R,entB s tk P,c,s.pc⟩ : Opn)]).length = s.op.length + 1:=by simp
    have hh : k < (s.op ++ [(⟨P,R,entB s tk P,c,s.pc⟩ : Opn)]).length:=hk
    omega
   show ((s'.op ++ [(⟨P,R,entB s' tk P,c,s'.pc⟩ : Opn)]).getD k dO).pc = mvI p ((s.op ++ [(⟨P,R,entB s tk P,c,s.pc⟩ : Opn)]).getD k dO).pc
   by_cases hk2 : k < s.op.length
   ·rw [gd_app hk2,gd_app (by rw [h.len]; exact hk2)]
    exact h.pc k h0 hk2
   ·obtain rfl : k = s.op.length:=by omega
    rw [gd_app' (Nat.le_refl _),gd_app' (by rw [h.len]; exact Nat.le_refl _),h.len,Nat.sub_self]
    show (s'.pc : Int) = mvI p (s.pc : Int)
    rw [mv_nat,hp]
 split
 ·exact ent _ _ _
 ·split
  ·exact ent _ _ _
  ·split
   ·exact ⟨by show o'.B ++ o'.P = o.B ++ o.P; rw [ho.B,ho.P],h.len,h.o,h.pc⟩
   ·split
    ·refine ⟨h.st,?_,fun k => ?_,fun k h0 hk => ?_⟩
     ·show s'.op.dropLast.length = s.op.dropLast.length
      simp [h.len]
     ·show SamO (s.op.dropLast.getD k dO) (s'.op.dropLast.getD k dO)
      by_cases hk : k < s.op.length - 1
      ·have e1 : s.op.dropLast.getD k dO = s.op.getD k dO:=gd_drop hk
       have e2 : s'.op.dropLast.getD k dO = s'.op.getD k dO:=gd_drop (by rw [h.len]; exact hk)
       rw [e1,e2]; exact h.o k
      ·have e1 : s.op.dropLast.getD k dO = dO:=gd_drop' hk
       have e2 : s'.op.dropLast.getD k dO = dO:=gd_drop' (by rw [h.len]; exact hk)
       rw [e1,e2]; exact ⟨rfl,rfl,rfl,rfl⟩
     ·have hk' : k < s.op.length - 1:=by
       have hh : k < s.op.dropLast.length:=hk
       simpa using hh
      show (s'.op.dropLast.getD k dO).pc = mvI p (s.op.dropLast.getD k dO).pc
      have e1 : s.op.dropLast.getD k dO = s.op.getD k dO:=gd_drop hk'
      have e2 : s'.op.dropLast.getD k dO = s'.op.getD k dO:=gd_drop (by rw [h.len]; exact hk')
      rw [e1,e2]; exact h.pc k h0 (by omega)
    ·split
     ·exact ⟨by show pushV o'.B o'.R = pushV o.B o.R; rw [ho.B,ho.R],h.len,h.o,h.pc⟩
     ·split
      ·exact ⟨h.take _,h.len,h.o,h.pc⟩
      ·rw [(h.ef ho m lo c a).2]
       generalize efV m lo s o c a = E
       have key : ∀ (u u' : ByteArray),u' = u → RelS p { takeS s E.1 with st:=u } { takeS s' E.1 with st:=u' }:=fun u u' hu => ⟨hu,h.len,h.o,h.pc⟩
       unfold putS
       exact key _ _ (by rw [h.take])
end
structure InvO (O : Nat → Int) (j : Nat) (s : Cs) : Prop where
 len : s.op.length = (stk O j).length + 1
 pcn : ∀ k,∃ q : Nat,(s.op.getD k dO).pc = (q : Int)
 body : (s.op.getD 0 dO).op = 0
theorem inv_cs0 (O : Nat → Int) (R : ByteArray) (n : Nat) : InvO O 0 (cs0 R n):=by
 refine ⟨rfl,fun k => ?_,rfl⟩
 cases k with
 | zero => exact ⟨0,rfl⟩
 | succ k => exact ⟨0,rfl⟩
theorem InvO.rw {O : Nat → Int} {j : Nat} {s : Cs} (h : InvO O j s) (m : MM) (lo : List Int) (o : Opn) (a : Int) (hb : ¬ (O j = 6 ∧ stk O j = [])) (t : Cs) (ht : t.op = s.op) : InvO O (j + 1) (rwS m lo t o (O j) a):=by
 have hl:=h.len
 have same : ∀ u : Cs,u.op = s.op → isO (O j) = false → O j ≠ 6 → InvO O (j + 1) u:=fun u hu h1 h6 => by
  refine ⟨by rw [hu,stk_same h1 h6]; exact hl,fun k => by rw [hu]; exact h.pcn k,by rw [hu]; exact h.body⟩
 have ent : ∀ tk P R,isO (O j) = true → InvO O (j + 1) (entS t (O j) tk P R):=fun tk P R h1 => by
  have e : (entS t (O j) tk P R).op = s.op ++ [⟨P,R,entB t tk P,O j,t.pc⟩]:=by rw [← ht]; rfl
  refine ⟨by rw [e,stk_open h1]; simp [hl],fun k => ?_,?_⟩
  ·rw [e]
   by_cases hk : k < s.op.length
   ·rw [gd_app hk]; exact h.pcn k
   ·rw [gd_app' (by omega)]
    generalize k - s.op.length = q
    cases q with
    | zero => exact ⟨t.pc,rfl⟩
    | succ q => exact ⟨0,rfl⟩
  ·rw [e,gd_app (by omega)]; exact h.body
 unfold rwS
 split
 ·exact ent _ _ _ (isO_iff.2 (by omega))
 ·split
  ·exact ent _ _ _ (isO_iff.2 (by omega))
  ·have h1 : isO (O j) = false:=by
    cases hh : isO (O j) with
    | false => rfl
    | true => have:=isO_iff.1 hh; omega
   split
   ·exact same _ ht h1 (by omega)
   ·split
    ·rename_i h6
     have e : (endS t).op = s.op.dropLast:=by rw [← ht]; rfl
     have hne : stk O j ≠ []:=fun hh => hb ⟨h6,hh⟩
     have h2 : 0 < (stk O j).length:=List.length_pos_iff.2 hne
     refine ⟨by rw [e,stk_end h6]; simp; omega,fun k => ?_,?_⟩
     ·rw [e]
      by_cases hk : k < s.op.length - 1
      ·rw [gd_drop hk]; exact h.pcn k
      ·rw [gd_drop' hk]; exact ⟨0,rfl⟩
     ·rw [e,gd_drop (by omega)]; exact h.body
    ·rename_i h6
     split
     ·exact same _ ht h1 h6
     ·split
      ·exact same _ ht h1 h6
      ·generalize efV m lo t o (O j) a = E
       have e : (putS (takeS t E.1) E.2).op = s.op:=by unfold putS takeS; exact ht
       exact same _ e h1 h6
theorem inv_stA (m : MM) (lo : List Int) (xs : List Inx) (R : ByteArray) (n : Nat) : ∀ j,Okp (opF xs) j → InvO (opF xs) j (stA m lo xs R n j)
 | 0,_ => inv_cs0 _ R n
 | j + 1,h => (inv_stA m lo xs R n j (fun i hi => h i (by omega))).rw m lo _ _ (h j (by omega)).2 _ rfl
end Go.Proofs.YtepnnenohjfkbaaGreatDoor

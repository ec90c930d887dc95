/-
  Texts Wz Vh Vl Vm List Vn.
-/
import Derived.Deep.AppendLies
import Derived.Deep.CutRange
import Derived.Test.YtepnnenohjfkbaaGreatDoorP00
import Derived.Test.YtepnnenohjfkbaaGreatDoorP03
import Derived.Test.YtepnnenohjfkbaaGreatDoorP07
import Derived.Test.YtepnnenohjfkbaaGreatDoorP10
import Derived.Test.YtepnnenohjfkbaaGreatDoorP12
import Derived.Test.YtepnnenohjfkbaaGreatDoorP13
set_option linter.unusedVariables false
set_option maxRecDepth 100000
set_option maxHeartbeats 16000000
namespace Go.Proofs.YtepnnenohjfkbaaGreatDoor
open Go.RowKit
structure MM where
 ta : Option Addr
 tn : Nat
 tc : Nat
 types : List Sg
 ha : Option Addr
 hn : Nat
 hc : Nat
 hosts : List Int
 ga : Option Addr
 gn : Nat
 gc : Nat
 globals : List Gl
 fi : Int
 mo : Int
 fa : Option Addr
 fn : Nat
 fc : Nat
 fns : List FuM
 da : Option Addr
 dn : Nat
 dc : Nat
 data : List DaM
 ea : Option Addr
 en : Nat
 ec : Nat
 exps : List Ex
def Far (w : World) (R g : Nat) (a : Option Addr) : Prop:=∀ b off c,a = some ⟨b,off,c⟩ → b ≠ R ∧ b ≠ g ∧ b < w.heap.size
theorem Far.nz {w : World} {R g : Nat} {a : Option Addr} (h : Far w R g a) (n : Nat) : Far w R g (nz n a):=fun b off c hb => h b off c (DD hb)
theorem Far.at {w W : World} {R g g1 : Nat} {a : Option Addr} (h : Far w R g a) (hs : Stp R g g1 w W) : ∀ b off c,a = some ⟨b,off,c⟩ → b ≠ R ∧ b ≠ g1:=fun b off c hb => ⟨(h b off c hb).1,hs.ne (h b off c hb).2.2 (h b off c hb).2.1⟩
theorem Far.not {w : World} {R g : Nat} {a : Option Addr} (h : Far w R g a) : ∀ b off c,a = some ⟨b,off,c⟩ → ¬ (b = R ∨ b = g):=fun b off c hb => by have:=h b off c hb; omega
structure MOk (w : World) (R g : Nat) (m : MM) : Prop where
 pt : eA w m.ta m.tn m.types
 tf : Far w R g m.ta
 ph : iN w m.ha m.hn m.hosts
 hf : Far w R g m.ha
 hr : ∀ (j : Nat) x,m.hosts[j]? = some x → -9223372036854775808 ≤ x ∧ x < 9223372036854775808
 pg : jf w m.ga m.gn m.globals
 gf : Far w R g m.ga
 gr : ∀ (j : Nat) x,m.globals[j]? = some x → 0 ≤ x.1 ∧ x.1 ≤ 255 ∧ 0 ≤ x.2.2 ∧ x.2.2 < 18446744073709551616
 i0 : -9223372036854775808 ≤ m.fi
 i1 : m.fi < 9223372036854775808
 o0 : -9223372036854775808 ≤ m.mo
 o1 : m.mo < 9223372036854775808
 pf : i7 w m.fa m.fn m.fns
 ff : Far w R g m.fa
 fr : ∀ (j : Nat) x,m.fns[j]? = some x → (-9223372036854775808 ≤ x.1 ∧ x.1 < 9223372036854775808) ∧ AtIn w x.2.2.1.1 x.2.2.1.2.1 x.2.2.2 ∧ Far w R g (nz x.2.2.1.2.1 x.2.2.1.1) ∧ ∀ (i : Nat) y,x.2.2.2[i]? = some y → 0 ≤ y.1 ∧ y.1 ≤ 255 ∧ fN w y.2.2.1.1 y.2.2.1.2.1 y.2.2.1.2.2 y.2.2.2 ∧ Far w R g (nz y.2.2.1.2.1 y.2.2.1.1)
 pd : ki w m.da m.dn m.data
 df : Far w R g m.da
 dr : ∀ (j : Nat) x,m.data[j]? = some x → (-9223372036854775808 ≤ x.1 ∧ x.1 < 9223372036854775808) ∧ Seg w x.2.1.1 x.2.1.2.1 x.2.1.2.2 x.2.2 ∧ Far w R g (nz x.2.1.2.1 x.2.1.1)
 pe : jL w m.ea m.en m.exps
 ef : Far w R g m.ea
 er : ∀ (j : Nat) x,m.exps[j]? = some x → -9223372036854775808 ≤ x.2 ∧ x.2 < 9223372036854775808
def e1 (m : MM) : Int:=bq bW 64 m.types
def e2 (m : MM) : Int:=bq (fun (_ : List Int) x => bo m.tn x) 32 m.hosts
def e3 (m : MM) : Int:=bq (fun (_ : List Gl) x => dJ x) 64 m.globals
def e4 (m : MM) : Int:=iP 0 m.fi
def e5 (m : MM) : Int:=iP m.fi m.mo
def e6 (m : MM) : Int:=bq (cz m.types) 128 m.fns
def e7 (m : MM) : Int:=bq (fun (ah : List DaM) x => bL (m.fi * 4096) ah x) 64 m.data
def e8 (m : MM) : Int:=bq (fun (ah : List Ex) x => dB m.fn ah x) 64 m.exps
def dQ (m : MM) : Int:=orE (e1 m) (orE (e2 m) (orE (e3 m) (orE (e4 m) (orE (e5 m) (orE (e6 m) (orE (e7 m) (e8 m)))))))
def lC (m : MM) : List Int:=(au m.tn ++ m.types.flatMap bG) ++ ((au m.hn ++ m.hosts.flatMap (fun x => au x)) ++ ((au m.gn ++ m.globals.flatMap cm) ++ (au m.fi ++ (au m.mo ++ ((au m.fn ++ m.fns.flatMap bR) ++ ((au m.dn ++ m.data.flatMap bU) ++ (au m.en ++ m.exps.flatMap cX)))))))
def mV (m : MM) : Array Value:=#[.slice m.ta m.tn m.tc,.slice m.ha m.hn m.hc,.slice m.ga m.gn m.gc,.int .i64 m.fi,.int .i64 m.mo,.slice m.fa m.fn m.fc,.slice m.da m.dn m.dc,.slice m.ea m.en m.ec]
def zV : Array Value:=#[.slice none 0 0,.slice none 0 0,.slice none 0 0,.int .i64 0,.int .i64 0,.slice none 0 0,.slice none 0 0,.slice none 0 0]
theorem cJ {a b : Int} (h : a ≠ 0) : orE a b = a:=by simp [orE,h]
theorem aP {a b : Int} (h : a = 0) : orE a b = b:=by simp [orE,h]
structure Sta (w W : World) (R g g1 : Nat) (mv ov : Array Value) : Prop where
 s : Stp R g g1 w W
 z : w.heap.size + 1 + 1 + 1 < W.heap.size
 c0 : W.cell? ⟨w.heap.size,0,none⟩ = some (cW R)
 mb : W.heap[w.heap.size + 1]? = some (.cells mv 29)
 rb : W.heap[w.heap.size + 1 + 1]? = some (.cells zV 29)
 ob : W.heap[w.heap.size + 1 + 1 + 1]? = some (.cells ov 29)
 n0 : w.heap.size ≠ g1
 n1 : w.heap.size + 1 ≠ g1
 n2 : w.heap.size + 1 + 1 ≠ g1
 n3 : w.heap.size + 1 + 1 + 1 ≠ g1
theorem Sta.step {w W W' : World} {R g g1 g2 : Nat} {mv ov : Array Value} (h : Sta w W R g g1 mv ov) (hR : R < w.heap.size) (hs : Stp R g1 g2 W W') : Sta w W' R g g2 mv ov:=by
 have hz:=h.z;exact ⟨h.s.trans hs,Nat.lt_of_lt_of_le hz hs.size,hs.cell h.c0 ae h.n0,(hs.block ae ae h.n1).trans h.mb,(hs.block ae ae h.n2).trans h.rb,(hs.block ae ae h.n3).trans h.ob,hs.ne ae h.n0,hs.ne ae h.n1,hs.ne ae h.n2,hs.ne ae h.n3⟩
theorem Sta.set {w W : World} {R g g1 : Nat} {mv ov : Array Value} (h : Sta w W R g g1 mv ov) {i : Nat} {v : Value} (hi : i < ov.size) : Sta w (W.setCell ⟨w.heap.size + 1 + 1 + 1,i,none⟩ v) R g g1 mv (ov.setIfInBounds i v):=by
 have hk:=ay W (w.heap.size + 1 + 1 + 1) i v;have hz:=h.z;exact ⟨h.s.set ae,Nat.lt_of_lt_of_le hz hk.size,hk.cell h.c0 ae,(hk.block _ ae ae).trans h.mb,(hk.block _ ae ae).trans h.rb,Fx h.ob hi,h.n0,h.n1,h.n2,h.n3⟩
def W86 (w : World) (R : Nat) (m : MM) : World:=(((w.alloc (eD (cW R))).alloc (.cells (mV m) 29)).alloc (.cells zV 29)).alloc (.cells zV 29)
theorem LZ (w : World) (R g cap : Nat) (bs : List Int) (m : MM) (h : Wr w R g cap bs) : Sta w (W86 w R m) R g g (mV m) zV ∧ Below w.heap.size w (W86 w R m):=by
 have hgl:=h.g_lt;have B : Below w.heap.size w (W86 w R m):=((((Below.refl _ w).alloc (Nat.le_refl _) _).alloc ak _).alloc cH _).alloc cH _
 refine ⟨⟨Stp.of_below B,by simp [W86],?_,?_,?_,?_,ae,ae,ae,ae⟩,B⟩
 ·simp [W86,go_sem]
 ·unfold W86;rw [(aj (((w.alloc (eD (cW R))).alloc (.cells (mV m) 29)).alloc (.cells zV 29)) _).block (w.heap.size + 1) cH,(aj ((w.alloc (eD (cW R))).alloc (.cells (mV m) 29)) _).block (w.heap.size + 1) ak]
  have:=(MapKept.heap_alloc (w.alloc (eD (cW R))) (.cells (mV m) 29)).1
  exact bY
 ·unfold W86;rw [(aj (((w.alloc (eD (cW R))).alloc (.cells (mV m) 29)).alloc (.cells zV 29)) _).block (w.heap.size + 1 + 1) ak]
  have:=(MapKept.heap_alloc ((w.alloc (eD (cW R))).alloc (.cells (mV m) 29)) (.cells zV 29)).1
  exact bY
 ·unfold W86
  have:=(MapKept.heap_alloc (((w.alloc (eD (cW R))).alloc (.cells (mV m) 29)).alloc (.cells zV 29)) (.cells zV 29)).1
  exact bY
theorem dz {α : Type} {f : List α → α → Int} {most : Int} {xs : List α} {enc : α → List Int} {M : Nat} (h : bq f most xs = 0) (hM : ∀ ah x,f ah x = 0 → (enc x).length ≤ M) : (xs.length : Int) ≤ most ∧ (xs.flatMap enc).length ≤ xs.length * M:=by
 unfold bq at h
 split at h
 ·cases h
 ·exact ⟨ae,bV enc M xs (fun j x hj => hM _ x (bp f xs [] h j x hj))⟩
theorem Stp.transL {R L g g1 g2 : Nat} {w W W' : World} (h : Stp R g g1 w W) (h' : ek R L g1 g2 W W') (hL : w.heap.size ≤ L) : Stp R g g2 w W':=by
 refine ⟨h.k.then h'.k (fun k hk ht => ?_),?_⟩
 ·rcases ht with rfl | rfl | rfl
  ·exact .inl rfl
  ·exact pS
  ·omega
 ·exact ux
theorem Sta.stepL {w W W' : World} {R L g g1 g2 : Nat} {mv ov : Array Value} (h : Sta w W R g g1 mv ov) (hR : R < w.heap.size) (hs : ek R L g1 g2 W W') (hL : w.heap.size + 1 + 1 + 1 < L) : Sta w W' R g g2 mv ov:=by
 have hz:=h.z;exact ⟨h.s.transL hs ae,Nat.lt_of_lt_of_le hz hs.size,hs.cell h.c0 ae h.n0 ae,(hs.block ae ae h.n1 ae).trans h.mb,(hs.block ae ae h.n2 ae).trans h.rb,(hs.block ae ae h.n3 ae).trans h.ob,hs.ne ae h.n0,hs.ne ae h.n1,hs.ne ae h.n2,hs.ne ae h.n3⟩
theorem Stp.throwL {R L g g1 : Nat} {w W w5 : World} (h : Stp R g g1 w W) (hk : Kept (fun k => k = R ∨ k = g1 ∨ k = L) W w5) (hL : w.heap.size ≤ L) : Kept (fun k => k = R ∨ k = g) w w5:=by
 refine h.k.then hk (fun k hkl hh => ?_)
 rcases hh with rfl | rfl | rfl
 ·exact .inl rfl
 ·exact pS
 ·omega
theorem PU (R g cap : Nat) (bs : List Int) (m : MM) (w : World) (h : Wr w R g cap bs) (hb : bs.length ≤ 1000) (hR0 : R ≠ 0) (hg0 : g ≠ 0) (hk : aW w) (hm : MOk w R g m) :
  Calls Tryz.prog 76 #[cW R,.agg (mV m)] w fun e w' => (dQ m = 0 → ∃ v,e = .returned v ∧ ∃ g' cap',Wr w' R g' cap' (bs ++ lC m) ∧ Kept (fun k => k = R ∨ k = g) w w') ∧ (dQ m ≠ 0 → (∃ p,e = thr (dQ m) p) ∧ Kept (fun k => k = R ∨ k = g) w w'):=by
 have hRl:=h.lt;have hgl:=h.g_lt;obtain ⟨T1,B1⟩:=LZ w R g cap bs m h;have HW : (((w.alloc (eD (cW R))).alloc (.cells (mV m) 29)).alloc (.cells zV 29)).alloc (.cells zV 29) = W86 w R m:=rfl;have V1:=hid (h.later B1);generalize W86 w R m = W1 at *;have TT:=hid T1;have HM:=hid hm;have HK:=hid hk;obtain ⟨⟨m0,m1,m2,m3,m4,m5,m6,m7⟩,_⟩:=aJ T1.mb;have c0:=T1.c0;clear h hm hk T1;unfold mV zV at HW
 show Calls Tryz.prog 76 #[cW R,.agg #[.slice m.ta m.tn m.tc,.slice m.ha m.hn m.hc,.slice m.ga m.gn m.gc,.int .i64 m.fi,.int .i64 m.mo,.slice m.fa m.fn m.fc,.slice m.da m.dn m.dc,.slice m.ea m.en m.ec]] w _
 go_enter Tryz.func76,Tryz.ntmps76
 go_wp2_with fail
 by_cases E1 : e1 m = 0
 rotate_left
 ·have hcw : dQ m = e1 m:=by unfold dQ; exact cJ E1
  refine (KM R g cap bs m.ta m.tn m.tc w.heap.size W1 m.types V1.out ae c0 ae ae (HM.out.pt.kept TT.out.s.k HM.out.tf.not) (HM.out.tf.at TT.out.s) E1).mono ?_;rintro e w' ⟨⟨q,rfl⟩,hk'⟩
  refine ⟨rfl,fun h0 => absurd (hcw.symm.trans h0) E1,fun _ => ⟨⟨q,?_⟩,TT.out.s.throw hk'⟩⟩
  rw [hcw];rfl
 have L1:=dz (enc:=bG) (M:=36) E1 (fun ah x hx => by have:=di hx; exact fQ x this.1 this.2.2.1)
 have l1:=HM.out.pt.1
 have hp8 : Hid (∀ (t : Nat) p r,m.types[t]? = some (p,r) → p.size ≤ 8):=fun t p r ht => by
  have h1 : aV bW [] m.types = 0:=by
   have:=E1
   unfold e1 bq at this
   split at this
   ·cases this
   ·exact this
  exact (di (bp bW m.types [] h1 t (p,r) ht)).1
 have u1:=aA (m.tn : Int);refine (EY R g cap bs m.ta m.tn m.tc w.heap.size W1 m.types V1.out ae c0 ae ae (HM.out.pt.kept TT.out.s.k HM.out.tf.not) (HM.out.tf.at TT.out.s) E1).mono ?_;rintro e w2 ⟨ta',tc',rfl,hsig,g2,cap2,hab2,hw2,hs2⟩;have T1:=TT;have Tq:=T1.out.step hRl hs2;obtain ⟨⟨o0,o1,o2,o3,o4,o5,o6,o7⟩,⟨f0,f1,f2,f3,f4,f5,f6,f7⟩⟩:=aJ Tq.ob;obtain ⟨⟨m0',m1',m2',m3',m4',m5',m6',m7'⟩,_⟩:=aJ Tq.mb;have hzq:=Tq.z;obtain ⟨W2,hW2⟩ : ∃ W',w2.setCell ⟨w.heap.size + 1 + 1 + 1,0,none⟩ (.slice ta' m.tn tc') = W':=⟨_,rfl⟩
 have T2:=hid (show Sta w W2 R g g2 (mV m) #[.slice ta' m.tn tc',.slice none 0 0,.slice none 0 0,.int .i64 0,.int .i64 0,.slice none 0 0,.slice none 0 0,.slice none 0 0] by rw [← hW2]; exact Tq.set (i:=0) (v:=.slice ta' m.tn tc') (by simp [zV]))
 have V2:=hid (show Wr W2 R g2 cap2 (bs ++ (au m.tn ++ m.types.flatMap bG)) by rw [← hW2]; exact hw2.set ae Tq.n3)
 have hlt2 : (bs ++ (au m.tn ++ m.types.flatMap bG)).length ≤ 4000:=iH
 have G2:=hid (show cj W2 ta' m.tn m.types by rw [← hW2]; exact hsig.kept (ay _ _ _ _) (fun b off c hb' => by have q1:=(hab2 _ hb').1; have q2:=TT.out.z; simp only at q1; omega))
 have F2:=hid (show ∀ b off c,ta' = some ⟨b,off,c⟩ → w.heap.size + 1 + 1 + 1 < b ∧ b ≠ g2 ∧ b < W2.heap.size from fun b off c hb' => by
  have q1:=(hab2 _ hb').1;have q2:=(hab2 _ hb').2;have q3:=TT.out.z;have q4:=(ay w2 (w.heap.size + 1 + 1 + 1) 0 (.slice ta' m.tn tc')).size;rw [hW2] at q4
  simp only at q1 q2
  exact ⟨ae,q2.1,ae⟩)
 clear hsig hab2;clear m0 m1 m2 m3 m4 m5 m6 m7 hw2 hs2 c0;obtain ⟨⟨m0,m1,m2,m3,m4,m5,m6,m7⟩,_⟩:=aJ T2.out.mb;have c0:=T2.out.c0;have p0:=(aJ T2.out.ob).1;obtain ⟨p0,p1,p2,p3,p4,p5,p6,p7⟩:=p0;go_wp2_with fail;clear Tq o0 o1 o2 o3 o4 o5 o6 o7 f0 f1 f2 f3 f4 f5 f6 f7 m0' m1' m2' m3' m4' m5' m6' m7' hzq hW2
 by_cases E2 : e2 m = 0
 rotate_left
 ·have hcw : dQ m = e2 m:=by unfold dQ; rw [aP E1]; exact cJ E2
  refine (GZ R g2 cap2 _ m.ha m.hn m.hc w.heap.size W2 (w.heap.size + 1 + 1 + 1) ta' m.tn tc' m.hosts V2.out ae c0 ae T2.out.n0 p0 ae T2.out.n3 ae HM.out.hr (HM.out.ph.kept T2.out.s.k HM.out.hf.not) (HM.out.hf.at T2.out.s) E2).mono ?_;rintro e w' ⟨⟨q,rfl⟩,hk'⟩
  refine ⟨rfl,fun h0 => absurd (hcw.symm.trans h0) E2,fun _ => ⟨⟨q,?_⟩,T2.out.s.throw hk'⟩⟩
  rw [hcw];rfl
 have L2:=dz (enc:=fun x => au x) (M:=10) E2 (fun ah x hx => (aA x).2)
 have l2:=HM.out.ph.1;have u2:=aA (m.hn : Int);refine (Fq R g2 cap2 _ m.ha m.hn m.hc w.heap.size W2 (w.heap.size + 1 + 1 + 1) ta' m.tn tc' m.hosts V2.out ae c0 ae T2.out.n0 p0 ae T2.out.n3 ae HM.out.hr (HM.out.ph.kept T2.out.s.k HM.out.hf.not) (HM.out.hf.at T2.out.s) E2).mono ?_;rintro e w3 ⟨ha',hc',ys3,rfl,_,_,g3,eT,hw3,hs3⟩;have Tq:=T2.out.step hRl hs3;obtain ⟨⟨o0,o1,o2,o3,o4,o5,o6,o7⟩,⟨f0,f1,f2,f3,f4,f5,f6,f7⟩⟩:=aJ Tq.ob;obtain ⟨⟨m0',m1',m2',m3',m4',m5',m6',m7'⟩,_⟩:=aJ Tq.mb;have hzq:=Tq.z;obtain ⟨W3,hW3⟩ : ∃ W',w3.setCell ⟨w.heap.size + 1 + 1 + 1,1,none⟩ (.slice ha' m.hn hc') = W':=⟨_,rfl⟩
 have T3:=hid (show Sta w W3 R g g3 (mV m) #[.slice ta' m.tn tc',.slice ha' m.hn hc',.slice none 0 0,.int .i64 0,.int .i64 0,.slice none 0 0,.slice none 0 0,.slice none 0 0] by rw [← hW3]; exact Tq.set (i:=1) (v:=.slice ha' m.hn hc') ak)
 have V3:=hid (show Wr W3 R g3 eT (bs ++ (au m.tn ++ m.types.flatMap bG) ++ (au m.hn ++ m.hosts.flatMap (fun x => au x))) by rw [← hW3]; exact hw3.set ae Tq.n3)
 have hlt3 : (bs ++ (au m.tn ++ m.types.flatMap bG) ++ (au m.hn ++ m.hosts.flatMap (fun x => au x))).length ≤ 5000:=iH
 have G3:=hid (show cj W3 ta' m.tn m.types by
  have q:=G2.out.kept hs3.k (fun b off c hb' => by have:=F2.out b off c hb'; have:=hRl; simp; omega)
  rw [← hW3]
  exact q.kept (ay _ _ _ _) (fun b off c hb' => by have:=F2.out b off c hb'; omega))
 have F3:=hid (show ∀ b off c,ta' = some ⟨b,off,c⟩ → w.heap.size + 1 + 1 + 1 < b ∧ b ≠ g3 ∧ b < W3.heap.size from fun b off c hb' => by
  have q:=F2.out b off c hb';have q1:=hs3.size;have q4:=(ay w3 (w.heap.size + 1 + 1 + 1) 1 (.slice ha' m.hn hc')).size;rw [hW3] at q4;exact ⟨q.1,hs3.ne q.2.2 q.2.1,ae⟩)
 clear m0 m1 m2 m3 m4 m5 m6 m7 hw3 hs3 c0;obtain ⟨⟨m0,m1,m2,m3,m4,m5,m6,m7⟩,_⟩:=aJ T3.out.mb;have c0:=T3.out.c0;have p0:=(aJ T3.out.ob).1;obtain ⟨p0,p1,p2,p3,p4,p5,p6,p7⟩:=p0;go_wp2_with fail;clear Tq o0 o1 o2 o3 o4 o5 o6 o7 f0 f1 f2 f3 f4 f5 f6 f7 m0' m1' m2' m3' m4' m5' m6' m7' hzq hW3
 by_cases E3 : e3 m = 0
 rotate_left
 ·have hcw : dQ m = e3 m:=by unfold dQ; rw [aP E1]; rw [aP E2]; exact cJ E3
  refine (zD R g3 eT _ m.ga m.gn m.gc w.heap.size W3 m.globals V3.out ae c0 ae T3.out.n0 HM.out.gr (HM.out.pg.kept T3.out.s.k HM.out.gf.not) (HM.out.gf.at T3.out.s) E3).mono ?_;rintro e w' ⟨⟨q,rfl⟩,hk'⟩
  refine ⟨rfl,fun h0 => absurd (hcw.symm.trans h0) E3,fun _ => ⟨⟨q,?_⟩,T3.out.s.throw hk'⟩⟩
  rw [hcw];rfl
 have L3:=dz (enc:=cm) (M:=12) E3 (fun ah x hx => iZ x)
 have l3:=HM.out.pg.1;have u3:=aA (m.gn : Int);refine (wW R g3 eT _ m.ga m.gn m.gc w.heap.size W3 m.globals V3.out ae c0 ae T3.out.n0 HM.out.gr (HM.out.pg.kept T3.out.s.k HM.out.gf.not) (HM.out.gf.at T3.out.s) E3).mono ?_;rintro e w4 ⟨ga',gc',ys4,rfl,_,_,g4,cap4,hw4,hs4⟩;have Tq:=T3.out.step hRl hs4;obtain ⟨⟨o0,o1,o2,o3,o4,o5,o6,o7⟩,⟨f0,f1,f2,f3,f4,f5,f6,f7⟩⟩:=aJ Tq.ob;obtain ⟨⟨m0',m1',m2',m3',m4',m5',m6',m7'⟩,_⟩:=aJ Tq.mb;have hzq:=Tq.z;obtain ⟨W4,hW4⟩ : ∃ W',w4.setCell ⟨w.heap.size + 1 + 1 + 1,2,none⟩ (.slice ga' m.gn gc') = W':=⟨_,rfl⟩
 have T4:=hid (show Sta w W4 R g g4 (mV m) #[.slice ta' m.tn tc',.slice ha' m.hn hc',.slice ga' m.gn gc',.int .i64 0,.int .i64 0,.slice none 0 0,.slice none 0 0,.slice none 0 0] by rw [← hW4]; exact Tq.set (i:=2) (v:=.slice ga' m.gn gc') ak)
 have V4:=hid (show Wr W4 R g4 cap4 (bs ++ (au m.tn ++ m.types.flatMap bG) ++ (au m.hn ++ m.hosts.flatMap (fun x => au x)) ++ (au m.gn ++ m.globals.flatMap cm)) by rw [← hW4]; exact hw4.set ae Tq.n3)
 have hlt4 : (bs ++ (au m.tn ++ m.types.flatMap bG) ++ (au m.hn ++ m.hosts.flatMap (fun x => au x)) ++ (au m.gn ++ m.globals.flatMap cm)).length ≤ 6000:=iH
 have G4:=hid (show cj W4 ta' m.tn m.types by
  have q:=G3.out.kept hs4.k (fun b off c hb' => by have:=F3.out b off c hb'; have:=hRl; simp; omega)
  rw [← hW4]
  exact q.kept (ay _ _ _ _) (fun b off c hb' => by have:=F3.out b off c hb'; omega))
 have F4:=hid (show ∀ b off c,ta' = some ⟨b,off,c⟩ → w.heap.size + 1 + 1 + 1 < b ∧ b ≠ g4 ∧ b < W4.heap.size from fun b off c hb' => by
  have q:=F3.out b off c hb';have q1:=hs4.size;have q4:=(ay w4 (w.heap.size + 1 + 1 + 1) 2 (.slice ga' m.gn gc')).size;rw [hW4] at q4;exact ⟨q.1,hs4.ne q.2.2 q.2.1,ae⟩)
 clear m0 m1 m2 m3 m4 m5 m6 m7 hw4 hs4 c0;obtain ⟨⟨m0,m1,m2,m3,m4,m5,m6,m7⟩,_⟩:=aJ T4.out.mb;have c0:=T4.out.c0;have p0:=(aJ T4.out.ob).1;obtain ⟨p0,p1,p2,p3,p4,p5,p6,p7⟩:=p0;go_wp2_with fail;clear Tq o0 o1 o2 o3 o4 o5 o6 o7 f0 f1 f2 f3 f4 f5 f6 f7 m0' m1' m2' m3' m4' m5' m6' m7' hzq hW4
 by_cases E4 : e4 m = 0
 rotate_left
 ·have hcw : dQ m = e4 m:=by unfold dQ; rw [aP E1]; rw [aP E2]; rw [aP E3]; exact cJ E4
  have hbad : m.fi < 0 ∨ 64 < m.fi:=by
   apply Classical.byContradiction
   intro hq
   exact E4 (by unfold e4 iP; exact if_neg hq)
  have h17 : e4 m = 17:=by unfold e4 iP; exact if_pos hbad
  refine (pk R g4 cap4 _ m.fi 0 W4 V4.out HM.out.i0 HM.out.i1 hbad ae ae).mono ?_;rintro e w' ⟨⟨q,rfl⟩,hk'⟩
  refine ⟨rfl,fun h0 => absurd (hcw.symm.trans h0) E4,fun _ => ⟨⟨q,?_⟩,T4.out.s.throw hk'⟩⟩
  rw [hcw,h17];rfl
 have R4 : 0 ≤ m.fi ∧ m.fi ≤ 64:=by
  have hq:=E4;unfold e4 iP at hq
  split at hq
  ·cases hq
  ·omega
 have u4:=aA (m.fi);refine (mG R g4 cap4 _ m.fi 0 W4 V4.out ae ae R4.1 R4.2).mono ?_;rintro e w5 ⟨rfl,g5,cap5,hw5,hs5⟩;have Tq:=T4.out.step hRl hs5;obtain ⟨⟨o0,o1,o2,o3,o4,o5,o6,o7⟩,⟨f0,f1,f2,f3,f4,f5,f6,f7⟩⟩:=aJ Tq.ob;obtain ⟨⟨m0',m1',m2',m3',m4',m5',m6',m7'⟩,_⟩:=aJ Tq.mb;have hzq:=Tq.z;obtain ⟨W5,hW5⟩ : ∃ W',w5.setCell ⟨w.heap.size + 1 + 1 + 1,3,none⟩ (.int .i64 m.fi) = W':=⟨_,rfl⟩
 have T5:=hid (show Sta w W5 R g g5 (mV m) #[.slice ta' m.tn tc',.slice ha' m.hn hc',.slice ga' m.gn gc',.int .i64 m.fi,.int .i64 0,.slice none 0 0,.slice none 0 0,.slice none 0 0] by rw [← hW5]; exact Tq.set (i:=3) (v:=.int .i64 m.fi) ak)
 have V5:=hid (show Wr W5 R g5 cap5 (bs ++ (au m.tn ++ m.types.flatMap bG) ++ (au m.hn ++ m.hosts.flatMap (fun x => au x)) ++ (au m.gn ++ m.globals.flatMap cm) ++ au m.fi) by rw [← hW5]; exact hw5.set ae Tq.n3)
 have hlt5 : (bs ++ (au m.tn ++ m.types.flatMap bG) ++ (au m.hn ++ m.hosts.flatMap (fun x => au x)) ++ (au m.gn ++ m.globals.flatMap cm) ++ au m.fi).length ≤ 6100:=iH
 have G5:=hid (show cj W5 ta' m.tn m.types by
  have q:=G4.out.kept hs5.k (fun b off c hb' => by have:=F4.out b off c hb'; have:=hRl; simp; omega)
  rw [← hW5]
  exact q.kept (ay _ _ _ _) (fun b off c hb' => by have:=F4.out b off c hb'; omega))
 have F5:=hid (show ∀ b off c,ta' = some ⟨b,off,c⟩ → w.heap.size + 1 + 1 + 1 < b ∧ b ≠ g5 ∧ b < W5.heap.size from fun b off c hb' => by
  have q:=F4.out b off c hb';have q1:=hs5.size;have q4:=(ay w5 (w.heap.size + 1 + 1 + 1) 3 (.int .i64 m.fi)).size;rw [hW5] at q4;exact ⟨q.1,hs5.ne q.2.2 q.2.1,ae⟩)
 clear m0 m1 m2 m3 m4 m5 m6 m7 hw5 hs5 c0;obtain ⟨⟨m0,m1,m2,m3,m4,m5,m6,m7⟩,_⟩:=aJ T5.out.mb;have c0:=T5.out.c0;have p0:=(aJ T5.out.ob).1;obtain ⟨p0,p1,p2,p3,p4,p5,p6,p7⟩:=p0;go_wp2_with fail;clear Tq o0 o1 o2 o3 o4 o5 o6 o7 f0 f1 f2 f3 f4 f5 f6 f7 m0' m1' m2' m3' m4' m5' m6' m7' hzq hW5
 by_cases E5 : e5 m = 0
 rotate_left
 ·have hcw : dQ m = e5 m:=by unfold dQ; rw [aP E1]; rw [aP E2]; rw [aP E3]; rw [aP E4]; exact cJ E5
  have hbad : m.mo < m.fi ∨ 64 < m.mo:=by
   apply Classical.byContradiction
   intro hq
   exact E5 (by unfold e5 iP; exact if_neg hq)
  have h17 : e5 m = 17:=by unfold e5 iP; exact if_pos hbad
  refine (pk R g5 cap5 _ m.mo m.fi W5 V5.out HM.out.o0 HM.out.o1 hbad ae ae).mono ?_;rintro e w' ⟨⟨q,rfl⟩,hk'⟩
  refine ⟨rfl,fun h0 => absurd (hcw.symm.trans h0) E5,fun _ => ⟨⟨q,?_⟩,T5.out.s.throw hk'⟩⟩
  rw [hcw,h17];rfl
 have R5 : m.fi ≤ m.mo ∧ m.mo ≤ 64:=by
  have hq:=E5;unfold e5 iP at hq
  split at hq
  ·cases hq
  ·omega
 have u5:=aA (m.mo);refine (mG R g5 cap5 _ m.mo m.fi W5 V5.out ae ae R5.1 R5.2).mono ?_;rintro e w6 ⟨rfl,g6,cap6,hw6,hs6⟩;have Tq:=T5.out.step hRl hs6;obtain ⟨⟨o0,o1,o2,o3,o4,o5,o6,o7⟩,⟨f0,f1,f2,f3,f4,f5,f6,f7⟩⟩:=aJ Tq.ob;obtain ⟨⟨m0',m1',m2',m3',m4',m5',m6',m7'⟩,_⟩:=aJ Tq.mb;have hzq:=Tq.z;obtain ⟨W6,hW6⟩ : ∃ W',w6.setCell ⟨w.heap.size + 1 + 1 + 1,4,none⟩ (.int .i64 m.mo) = W':=⟨_,rfl⟩
 have T6:=hid (show Sta w W6 R g g6 (mV m) #[.slice ta' m.tn tc',.slice ha' m.hn hc',.slice ga' m.gn gc',.int .i64 m.fi,.int .i64 m.mo,.slice none 0 0,.slice none 0 0,.slice none 0 0] by rw [← hW6]; exact Tq.set (i:=4) (v:=.int .i64 m.mo) ak)
 have V6:=hid (show Wr W6 R g6 cap6 (bs ++ (au m.tn ++ m.types.flatMap bG) ++ (au m.hn ++ m.hosts.flatMap (fun x => au x)) ++ (au m.gn ++ m.globals.flatMap cm) ++ au m.fi ++ au m.mo) by rw [← hW6]; exact hw6.set ae Tq.n3)
 have hlt6 : (bs ++ (au m.tn ++ m.types.flatMap bG) ++ (au m.hn ++ m.hosts.flatMap (fun x => au x)) ++ (au m.gn ++ m.globals.flatMap cm) ++ au m.fi ++ au m.mo).length ≤ 6200:=iH
 have G6:=hid (show cj W6 ta' m.tn m.types by
  have q:=G5.out.kept hs6.k (fun b off c hb' => by have:=F5.out b off c hb'; have:=hRl; simp; omega)
  rw [← hW6]
  exact q.kept (ay _ _ _ _) (fun b off c hb' => by have:=F5.out b off c hb'; omega))
 have F6:=hid (show ∀ b off c,ta' = some ⟨b,off,c⟩ → w.heap.size + 1 + 1 + 1 < b ∧ b ≠ g6 ∧ b < W6.heap.size from fun b off c hb' => by
  have q:=F5.out b off c hb';have q1:=hs6.size;have q4:=(ay w6 (w.heap.size + 1 + 1 + 1) 4 (.int .i64 m.mo)).size;rw [hW6] at q4;exact ⟨q.1,hs6.ne q.2.2 q.2.1,ae⟩)
 obtain ⟨WL,hWL⟩ : ∃ WL,W6.alloc (aM 16384) = WL:=⟨_,rfl⟩
 have BL : Below W6.heap.size W6 WL:=by rw [← hWL]; exact aj _ _
 have zL : WL.heap.size = W6.heap.size + 1:=by rw [← hWL]; simp
 have TL:=hid (T6.out.step hRl (Stp.of_below BL));have VL:=hid (V6.out.later BL);have GL:=hid (G6.out.later BL)
 have LL:=hid (show LAt WL W6.heap.size 16384 by rw [← hWL]; exact ⟨fw _ _ _,cP⟩)
 have z6:=T6.out.z;clear m0 m1 m2 m3 m4 m5 m6 m7 hw6 hs6 c0;obtain ⟨⟨m0,m1,m2,m3,m4,m5,m6,m7⟩,_⟩:=aJ TL.out.mb;have c0:=TL.out.c0;have p0:=(aJ TL.out.ob).1;obtain ⟨p0,p1,p2,p3,p4,p5,p6,p7⟩:=p0;go_wp2_with fail;clear Tq o0 o1 o2 o3 o4 o5 o6 o7 f0 f1 f2 f3 f4 f5 f6 f7 m0' m1' m2' m3' m4' m5' m6' m7' hzq hW6 hWL BL;have hgg : g6 ≠ 0:=Ne.symm (TL.out.s.ne ae (Ne.symm hg0));have hkL:=hid (HK.out.kept TL.out.s.k aG)
 have hokL : Hid (∀ (j : Nat) x,m.fns[j]? = some x → GF WL R g6 W6.heap.size x):=fun j x hj => by
  obtain ⟨⟨r0,r1⟩,hmem,hfar,hins⟩:=HM.out.fr j x hj;have hz:=TL.out.s.size
  refine ⟨r0,r1,hmem.kept TL.out.s.k hfar.not,fun b off c hb' => ?_,fun b off c hb' => ?_,fun i y hi => ?_,fun i y hi b off c hb' => ?_⟩
  ·have q:=hfar b off c hb';have q2:=hfar.at TL.out.s b off c hb';exact ⟨q2.1,q2.2,ae⟩
  ·have q:=hfar b off c hb';omega
  ·obtain ⟨y0,y1,ysg,yfar⟩:=hins i y hi;exact ⟨y0,y1,ysg.kept' TL.out.s.k yfar.not,yfar.at TL.out.s⟩
  ·obtain ⟨y0,y1,ysg,yfar⟩:=hins i y hi;have q:=yfar b off c hb';omega
 by_cases E6 : e6 m = 0
 rotate_left
 ·have hcw : dQ m = e6 m:=by unfold dQ; rw [aP E1]; rw [aP E2]; rw [aP E3]; rw [aP E4]; rw [aP E5]; exact cJ E6
  by_cases hfn : m.fn ≤ 1000
  ·refine (Oa R g6 cap6 _ m.fn w.heap.size (w.heap.size + 1 + 1 + 1) W6.heap.size ta' m.tn tc' m.types WL m.fns VL.out ae hfn hR0 hgg hkL.out ae c0 ae TL.out.n0 ae p0 ae TL.out.n3 ae ae GL.out (fun b off c hb' => BV) (fun b off c hb' => by have q:=F6.out b off c hb'; omega) hp8.out ae Cz hokL.out HM.out.pf.1 m.fa m.fc LL.out (HM.out.pf.kept TL.out.s.k HM.out.ff.not) (fun b off c hb' => Dp) E6).mono ?_
   rintro e w' ⟨⟨q,rfl⟩,hk'⟩
   refine ⟨rfl,fun h0 => absurd (hcw.symm.trans h0) E6,fun _ => ⟨⟨q,?_⟩,TL.out.s.throwL hk' ae⟩⟩
   rw [hcw];rfl
  ·have hmany : e6 m = 20:=by
    unfold e6 bq
    have:=HM.out.pf.1
    exact if_pos ae
   refine (nI R g6 cap6 _ m.fa m.fn m.fc 128 _ WL VL.out ae).mono ?_;rintro e w' ⟨⟨q,rfl⟩,hk'⟩
   refine ⟨rfl,fun h0 => absurd (hcw.symm.trans h0) E6,fun _ => ⟨⟨q,?_⟩,TL.out.s.throw hk'⟩⟩
   rw [hcw,hmany];rfl
 have L6:=dz (enc:=bR) (M:=400000) E6 (fun ah x hx => ig hx)
 have l6:=HM.out.pf.1;have u6:=aA (m.fn : Int)
 refine (MB R g6 cap6 _ m.fn w.heap.size (w.heap.size + 1 + 1 + 1) W6.heap.size ta' m.tn tc' m.types WL m.fns VL.out ae ae hR0 hgg hkL.out ae c0 ae TL.out.n0 ae p0 ae TL.out.n3 ae ae GL.out (fun b off c hb' => BV) (fun b off c hb' => by have q:=F6.out b off c hb'; omega) hp8.out ae Cz hokL.out HM.out.pf.1 m.fa m.fc LL.out (HM.out.pf.kept TL.out.s.k HM.out.ff.not) (fun b off c hb' => Dp) E6).mono ?_
 rintro e w7 ⟨fa',fc',rfl,g7,cap7,hw7,hs7⟩;have Tq:=TL.out.stepL hRl hs7 ae;obtain ⟨⟨o0,o1,o2,o3,o4,o5,o6,o7⟩,⟨f0,f1,f2,f3,f4,f5,f6,f7⟩⟩:=aJ Tq.ob;obtain ⟨⟨m0',m1',m2',m3',m4',m5',m6',m7'⟩,_⟩:=aJ Tq.mb;have hzq:=Tq.z;obtain ⟨W7,hW7⟩ : ∃ W',w7.setCell ⟨w.heap.size + 1 + 1 + 1,5,none⟩ (.slice fa' m.fn fc') = W':=⟨_,rfl⟩
 have T7:=hid (show Sta w W7 R g g7 (mV m) #[.slice ta' m.tn tc',.slice ha' m.hn hc',.slice ga' m.gn gc',.int .i64 m.fi,.int .i64 m.mo,.slice fa' m.fn fc',.slice none 0 0,.slice none 0 0] by rw [← hW7]; exact Tq.set (i:=5) (v:=.slice fa' m.fn fc') ak)
 have V7:=hid (show Wr W7 R g7 cap7 (bs ++ (au m.tn ++ m.types.flatMap bG) ++ (au m.hn ++ m.hosts.flatMap (fun x => au x)) ++ (au m.gn ++ m.globals.flatMap cm) ++ au m.fi ++ au m.mo ++ (au m.fn ++ m.fns.flatMap bR)) by rw [← hW7]; exact hw7.set ae Tq.n3)
 have hlt7 : (bs ++ (au m.tn ++ m.types.flatMap bG) ++ (au m.hn ++ m.hosts.flatMap (fun x => au x)) ++ (au m.gn ++ m.globals.flatMap cm) ++ au m.fi ++ au m.mo ++ (au m.fn ++ m.fns.flatMap bR)).length ≤ 60000000:=iH
 clear m0 m1 m2 m3 m4 m5 m6 m7 hw7 hs7 c0;obtain ⟨⟨m0,m1,m2,m3,m4,m5,m6,m7⟩,_⟩:=aJ T7.out.mb;have c0:=T7.out.c0;have p0:=(aJ T7.out.ob).1;obtain ⟨p0,p1,p2,p3,p4,p5,p6,p7⟩:=p0;go_wp2_with fail;clear Tq o0 o1 o2 o3 o4 o5 o6 o7 f0 f1 f2 f3 f4 f5 f6 f7 m0' m1' m2' m3' m4' m5' m6' m7' hzq hW7
 have hrD : Hid (∀ (j : Nat) x,m.data[j]? = some x → Nh W7 R g7 x):=fun j x hj => by
  obtain ⟨⟨r0,r1⟩,hsg,hfar⟩:=HM.out.dr j x hj;have hz:=T7.out.s.size
  exact ⟨r0,r1,hsg.kept' T7.out.s.k hfar.not,hfar.at T7.out.s,fun b off c hb' => by have q:=hfar b off c hb'; omega⟩
 by_cases E7 : e7 m = 0
 rotate_left
 ·have hcw : dQ m = e7 m:=by unfold dQ; rw [aP E1]; rw [aP E2]; rw [aP E3]; rw [aP E4]; rw [aP E5]; rw [aP E6]; exact cJ E7
  refine (Mj R g7 cap7 _ m.da m.dn m.dc w.heap.size W7 (w.heap.size + 1 + 1 + 1) m.fi m.data V7.out ae c0 ae T7.out.n0 p3 ae T7.out.n3 R4.1 R4.2 hrD.out (HM.out.pd.kept T7.out.s.k HM.out.df.not) (HM.out.df.at T7.out.s) E7).mono ?_;rintro e w' ⟨⟨q,rfl⟩,hk'⟩
  refine ⟨rfl,fun h0 => absurd (hcw.symm.trans h0) E7,fun _ => ⟨⟨q,?_⟩,T7.out.s.throw hk'⟩⟩
  rw [hcw];rfl
 have L7:=dz (enc:=bU) (M:=300000) E7 (fun ah x hx => ic ae hx)
 have l7:=HM.out.pd.1;have u7:=aA (m.dn : Int);refine (Iq R g7 cap7 _ m.da m.dn m.dc w.heap.size W7 (w.heap.size + 1 + 1 + 1) m.fi m.data V7.out ae c0 ae T7.out.n0 p3 ae T7.out.n3 R4.1 R4.2 hrD.out (HM.out.pd.kept T7.out.s.k HM.out.df.not) (HM.out.df.at T7.out.s) E7).mono ?_;rintro e w8 ⟨da',dc',ys8,rfl,_,_,g8,cap8,hw8,hs8⟩;have Tq:=T7.out.step hRl hs8;obtain ⟨⟨o0,o1,o2,o3,o4,o5,o6,o7⟩,⟨f0,f1,f2,f3,f4,f5,f6,f7⟩⟩:=aJ Tq.ob;obtain ⟨⟨m0',m1',m2',m3',m4',m5',m6',m7'⟩,_⟩:=aJ Tq.mb;have hzq:=Tq.z;obtain ⟨W8,hW8⟩ : ∃ W',w8.setCell ⟨w.heap.size + 1 + 1 + 1,6,none⟩ (.slice da' m.dn dc') = W':=⟨_,rfl⟩
 have T8:=hid (show Sta w W8 R g g8 (mV m) #[.slice ta' m.tn tc',.slice ha' m.hn hc',.slice ga' m.gn gc',.int .i64 m.fi,.int .i64 m.mo,.slice fa' m.fn fc',.slice da' m.dn dc',.slice none 0 0] by rw [← hW8]; exact Tq.set (i:=6) (v:=.slice da' m.dn dc') ak)
 have V8:=hid (show Wr W8 R g8 cap8 (bs ++ (au m.tn ++ m.types.flatMap bG) ++ (au m.hn ++ m.hosts.flatMap (fun x => au x)) ++ (au m.gn ++ m.globals.flatMap cm) ++ au m.fi ++ au m.mo ++ (au m.fn ++ m.fns.flatMap bR) ++ (au m.dn ++ m.data.flatMap bU)) by rw [← hW8]; exact hw8.set ae Tq.n3)
 have hlt8 : (bs ++ (au m.tn ++ m.types.flatMap bG) ++ (au m.hn ++ m.hosts.flatMap (fun x => au x)) ++ (au m.gn ++ m.globals.flatMap cm) ++ au m.fi ++ au m.mo ++ (au m.fn ++ m.fns.flatMap bR) ++ (au m.dn ++ m.data.flatMap bU)).length ≤ 90000000:=iH
 clear m0 m1 m2 m3 m4 m5 m6 m7 hw8 hs8 c0;obtain ⟨⟨m0,m1,m2,m3,m4,m5,m6,m7⟩,_⟩:=aJ T8.out.mb;have c0:=T8.out.c0;have p0:=(aJ T8.out.ob).1;obtain ⟨p0,p1,p2,p3,p4,p5,p6,p7⟩:=p0;go_wp2_with fail;clear Tq o0 o1 o2 o3 o4 o5 o6 o7 f0 f1 f2 f3 f4 f5 f6 f7 m0' m1' m2' m3' m4' m5' m6' m7' hzq hW8
 by_cases E8 : e8 m = 0
 rotate_left
 ·have hcw : dQ m = e8 m:=by unfold dQ; rw [aP E1]; rw [aP E2]; rw [aP E3]; rw [aP E4]; rw [aP E5]; rw [aP E6]; rw [aP E7]; skip
  refine (AL R g8 cap8 _ m.ea m.en m.ec w.heap.size W8 (w.heap.size + 1 + 1 + 1) fa' m.fn fc' m.exps V8.out ae c0 ae T8.out.n0 p5 ae T8.out.n3 ae HM.out.er (HM.out.pe.kept T8.out.s.k HM.out.ef.not) (HM.out.ef.at T8.out.s) E8).mono ?_;rintro e w' ⟨⟨q,rfl⟩,hk'⟩
  refine ⟨rfl,fun h0 => absurd (hcw.symm.trans h0) E8,fun _ => ⟨⟨q,?_⟩,T8.out.s.throw hk'⟩⟩
  rw [hcw];rfl
 refine (yX R g8 cap8 _ m.ea m.en m.ec w.heap.size W8 (w.heap.size + 1 + 1 + 1) fa' m.fn fc' m.exps V8.out ae c0 ae T8.out.n0 p5 ae T8.out.n3 ae HM.out.er (HM.out.pe.kept T8.out.s.k HM.out.ef.not) (HM.out.ef.at T8.out.s) E8).mono ?_;rintro e w9 ⟨ea',ec',ys9,rfl,_,_,g9,cap9,hw9,hs9⟩;have Tq:=T8.out.step hRl hs9;obtain ⟨⟨o0,o1,o2,o3,o4,o5,o6,o7⟩,⟨f0,f1,f2,f3,f4,f5,f6,f7⟩⟩:=aJ Tq.ob;obtain ⟨⟨m0',m1',m2',m3',m4',m5',m6',m7'⟩,_⟩:=aJ Tq.mb;have hzq:=Tq.z;obtain ⟨W9,hW9⟩ : ∃ W',w9.setCell ⟨w.heap.size + 1 + 1 + 1,7,none⟩ (.slice ea' m.en ec') = W':=⟨_,rfl⟩
 have T9:=hid (show Sta w W9 R g g9 (mV m) #[.slice ta' m.tn tc',.slice ha' m.hn hc',.slice ga' m.gn gc',.int .i64 m.fi,.int .i64 m.mo,.slice fa' m.fn fc',.slice da' m.dn dc',.slice ea' m.en ec'] by rw [← hW9]; exact Tq.set (i:=7) (v:=.slice ea' m.en ec') ak)
 have V9:=hid (show Wr W9 R g9 cap9 (bs ++ (au m.tn ++ m.types.flatMap bG) ++ (au m.hn ++ m.hosts.flatMap (fun x => au x)) ++ (au m.gn ++ m.globals.flatMap cm) ++ au m.fi ++ au m.mo ++ (au m.fn ++ m.fns.flatMap bR) ++ (au m.dn ++ m.data.flatMap bU) ++ (au m.en ++ m.exps.flatMap cX)) by rw [← hW9]; exact hw9.set ae Tq.n3)
 clear m0 m1 m2 m3 m4 m5 m6 m7 hw9 hs9 c0;obtain ⟨p0,p1,p2,p3,p4,p5,p6,p7⟩:=(aJ T9.out.ob).1;have rbb:=T9.out.rb;unfold zV at rbb;obtain ⟨⟨r0,r1,r2,r3,r4,r5,r6,r7⟩,⟨s0,s1,s2,s3,s4,s5,s6,s7⟩⟩:=aJ rbb;clear rbb;have z9:=T9.out.z;go_wp2_with fail
 have hcw : dQ m = 0:=by unfold dQ; rw [aP E1]; rw [aP E2]; rw [aP E3]; rw [aP E4]; rw [aP E5]; rw [aP E6]; rw [aP E7]; exact E8
 refine bodyPost_ret (v:=.agg #[.slice ta' m.tn tc',.slice ha' m.hn hc',.slice ga' m.gn gc',.int .i64 m.fi,.int .i64 m.mo,.slice fa' m.fn fc',.slice da' m.dn dc',.slice ea' m.en ec']) ?_ rfl ⟨fun _ => ⟨_,rfl,g9,cap9,?_,?_⟩,fun h0 => absurd hcw h0⟩
 ·exact fH
 ·have hcast : bs ++ lC m = bs ++ (au m.tn ++ m.types.flatMap bG) ++ (au m.hn ++ m.hosts.flatMap (fun x => au x)) ++ (au m.gn ++ m.globals.flatMap cm) ++ au m.fi ++ au m.mo ++ (au m.fn ++ m.fns.flatMap bR) ++ (au m.dn ++ m.data.flatMap bU) ++ (au m.en ++ m.exps.flatMap cX):=by simp [lC,List.append_assoc]
  rw [hcast];exact ((((((((V9.out.set (b:=w.heap.size + 1 + 1) ae T9.out.n2).set (b:=w.heap.size + 1 + 1) ae T9.out.n2).set (b:=w.heap.size + 1 + 1) ae T9.out.n2).set (b:=w.heap.size + 1 + 1) ae T9.out.n2).set (b:=w.heap.size + 1 + 1) ae T9.out.n2).set (b:=w.heap.size + 1 + 1) ae T9.out.n2).set (b:=w.heap.size + 1 + 1) ae T9.out.n2).set (b:=w.heap.size + 1 + 1) ae T9.out.n2)
 ·exact ((((((((T9.out.s.set ae).set ae).set ae).set ae).set ae).set ae).set ae).set ae).k
section
variable {v : Ev} {w1 w : World} {s : Cs} {m : MM} {lo : List Int}
theorem dZ {W W' : World} {b o : Nat} {u : Value} (hb : Below W.heap.size W W') (h : W.cell? ⟨b,o,none⟩ = some u) (hf : W.frozen? ⟨b,o,none⟩ = false) : W'.frozen? ⟨b,o,none⟩ = false:=(hb.frozen (by exact block_lt_of_cell h)).trans hf
end
section
variable {v : Ev} {w1 w : World} {s : Cs} {m : MM} {lo : List Int}
def Sm (s : Cs) (o : Opn) : Cs:={ s with st:=o.B ++ o.P }
end
section
variable {v : Ev} {w1 w : World} {s : Cs} {m : MM} {lo : List Int}
theorem take_at {P : Program} {ops : Array Oper} {Q : Exit → Act → World → Prop} {md : Region.Mode} {S : World → Prop} {i : Nat} {oi : Oper} {d : Option Tmp} {v : Value} {fuel : Nat} {listed : Array Bool} {a : Act} {w : World} (hi : ops[i]? = some oi) (hd : oi.dst = d)
  (hs : Region.noSelect ops = true) (hf : Region.free md ops listed i = true) (hr : (Region.ready md ops listed).contains i = true)
  (hQ : ∀ c a w,Q (.panic c) (a.put d v) w → Q (.panic c) a w) (hy : YieldsIf P ops S oi v a) (hS : S w)
  (h : wpAnyH P md ops Q S fuel (listed.setIfInBounds i true) (a.put d v) w) : wpAnyH P md ops Q S (fuel + 1) listed a w:=by
 subst hd;exact wpAnyH_take hi hs hf hr hQ hy hS h
def RP (s : Cs) : Cs:={ s with op:=s.op.dropLast }
end
def LI (w : World) (base : Nat) (v : Value) (l : List Int) : Prop:=w.ownsRow base 3 1 v l.length (l.map (Value.int .i64))
theorem LI.nil (w : World) (base : Nat) : LI w base (.slice none 0 0) []:=⟨rfl,.inl ⟨rfl,rfl⟩⟩
theorem LI.later {w w' : World} {base B : Nat} {v : Value} {l : List Int} (h : LI w base v l) (hb : Below B w w') (hB : w.heap.size ≤ B) : LI w' base v l :=
 gu h (fun b hx => hb.block b (by
  rcases h.2 with h0 | ⟨g,cp,cur,h1,h2,h3,_⟩
  ·rw [h0.1] at hx; cases hx
  ·rw [h1] at hx
   have : g = b:=by simpa [Value.ownBlock] using hx
   subst this;exact Nat.lt_of_lt_of_le (Array.getElem?_eq_some_iff.1 h3).1 hB))
theorem LI.kept {S : Nat → Prop} {w w' : World} {base : Nat} {v : Value} {l : List Int} (h : LI w base v l) (hk : Kept S w w') (hs : ∀ b,v.ownBlock = some b → ¬ S b) : LI w' base v l :=
 gu h (fun b hx => hk.block b (by
  rcases h.2 with h0 | ⟨g,cp,cur,h1,h2,h3,_⟩
  ·rw [h0.1] at hx; cases hx
  ·rw [h1] at hx
   have : g = b:=by simpa [Value.ownBlock] using hx
   subst this;exact (Array.getElem?_eq_some_iff.1 h3).1) (hs b hx))
theorem LI.slice {w : World} {base : Nat} {v : Value} {l : List Int} (h : LI w base v l) : ∃ a c,v = .slice a l.length c:=by
 rcases h.2 with ⟨h0,h1⟩ | ⟨g,cp,cur,h1,_⟩
 ·refine ⟨none,0,?_⟩;rw [h0,h1]
 ·exact ⟨_,_,h1⟩
theorem LI.block {w : World} {base b : Nat} {v : Value} {l : List Int} (h : LI w base v l) (hb : v.ownBlock = some b) : base ≤ b ∧ b < w.heap.size:=by
 rcases h.2 with h0 | ⟨g,cp,cur,h1,h2,h3,_⟩
 ·rw [h0.1] at hb; cases hb
 ·rw [h1] at hb;have : g = b:=ry;subst this;exact ⟨h2,(Array.getElem?_eq_some_iff.1 h3).1⟩
theorem LI.mono {w : World} {base base' : Nat} {v : Value} {l : List Int} (h : LI w base v l) (hb : base' ≤ base) : LI w base' v l:=fD h hb
theorem LI.cell {w : World} {base : Nat} {a : Option Addr} {k c : Nat} {l : List Int} (h : LI w base (.slice a k c) l) : k = l.length ∧ (k = 0 ∨ ∃ B,a = some ⟨B,0,none⟩ ∧ ∀ j,j < k → w.cell? ⟨B,j,none⟩ = some (.int .i64 (l.getD j 0))):=by
 rcases h.2 with ⟨h0,h1⟩ | ⟨g,cp,cur,h1,h2,h3,_⟩
 ·injection h0 with e1 e2 e3
  exact ⟨ae,.inl e2⟩
 ·injection h1 with e1 e2 e3
  subst e1 e2 e3
  refine ⟨rfl,.inr ⟨g,rfl,fun j hj => ?_⟩⟩
  have:=World.ownsRow.cellAt h j ae
  rw [this]
  simp [hj]
theorem LI.seg {w : World} {base : Nat} {a : Option Addr} {k c : Nat} {l : List Int} (h : LI w base (.slice a k c) l) (hr : ∀ z ∈ l,-9223372036854775808 ≤ z ∧ z ≤ 9223372036854775807) (hk : l.length ≤ 1099511627776) : km w a k c l:=by
 obtain ⟨e,hc⟩:=h.cell;refine ⟨e.symm,?_,ae,hr,?_⟩
 ·rcases h.2 with ⟨h0,h1⟩ | ⟨g,cp,cur,h1,h2,h3,h4,_⟩
  ·injection h0 with e1 e2 e3
   omega
  ·injection h1 with e1 e2 e3
   omega
 ·rcases hc with h0 | ⟨B,rfl,hc⟩
  ·exact .inl h0
  ·exact .inr ⟨B,0,rfl,fun j hj => by rw [Nat.zero_add]; exact hc j hj⟩
theorem lB {w : World} {e : TypeId} {base B n cap : Nat} {xs : List Value} (h : Row w e B n cap xs) (hb : base ≤ B) : w.ownsRow base e 1 (.slice (some ⟨B,0,none⟩) n cap) n xs:=by
 refine ⟨h.1,?_⟩
 rcases h.2 with ⟨h0,_⟩ | ⟨g,cp,cur,h1,_,h3⟩
 ·cases h0
 ·injection h1 with e1 e2 e3
  injection e1 with e1
  injection e1 with e1
  subst e1
  exact .inr ⟨B,cp,cur,by rw [e3],hb,h3⟩
theorem Bh (w : World) {ops : Array Oper} {rest : List Oper} {o : Oper} {a : Act} {Q : Exit → Act → World → Prop} (hgd : o.guard = none)
  (s x : Operand) (ho : o.op = Op.call { callee:=Callee.builtin Builtin.append,args:=#[s,x],argTypes:=#[23,23] })
  (base : Nat) (v : Value) (l : List Int) (hs : a.eval s = v) (hown : LI w base v l) (hbase : base ≤ w.heap.size) (ad : Addr) (z : Int) (hx : a.eval x = .slice (some ad) 1 1) (hu : w.cell? (ad.add 0) = some (.int .i64 z))
  (hlen : l.length ≤ 1073741824)
  (h : ∀ (B cap : Nat) (w' : World),LI w' base (.slice (some ⟨B,0,none⟩) (l.length + 1) cap) (l ++ [z]) → base ≤ B → Below base w w' → wpList Tryz.prog ops Q rest (a.put o.dst (.slice (some ⟨B,0,none⟩) (l.length + 1) cap)) w') :
  wpList Tryz.prog ops Q (o :: rest) a w:=by
 obtain ⟨i0,hi,hz0,hz1,hz2⟩:=info_parts Tryz.infInts;refine yo w hgd s x 23 ho 3 i0 (.int .i64 0) 8 Tryz.underlying23 hi hz0 hz1 hz2 rfl v l.length (l.map (Value.int .i64)) hs (fD hown (Nat.zero_le _)) ad (.int .i64 z) hx hu rfl cG ae ?_;intro B cap w' hrow hcase
 have hB : base ≤ B:=by
  exact D7
 refine h B cap w' ?_ hB ?_
 ·have:=lB hrow hB
  unfold LI;exact bY
 ·rcases hcase with ⟨_,h1⟩ | ⟨_,h1⟩
  ·exact h1.to_below hbase (fun k hk e => ae)
  ·exact h1.to_below hbase (fun k hk e => e)
section
variable {v : Ev} {w1 w : World} {s : Cs} {m : MM} {lo : List Int}
theorem dY {w : World} {b : Nat} {o : Obj} (h : w.heap[b]? = some o) : b < w.heap.size:=by
 exact Dc
theorem ar {w w' : World} {b : Nat} {o : Obj} (hb : Below w.heap.size w w') (h : w.heap[b]? = some o) : w'.heap[b]? = some o:=(hb.block b (dY h)).trans h
def Q6 (s : Cs) (tk P : ByteArray) : ByteArray:=(s.st.extract 0 (s.st.size - tk.size)).extract 0 ((s.st.extract 0 (s.st.size - tk.size)).size - P.size)
def Rt (s : Cs) (c : Int) (tk P R : ByteArray) : Cs:={ s with st:=s.st.extract 0 (s.st.size - tk.size),fl:=fun i => if i = s.pc then ((Q6 s tk P).size : Int) else s.fl i,op:=s.op ++ [⟨P,R,Q6 s tk P,c,s.pc⟩] }
end
end Go.Proofs.YtepnnenohjfkbaaGreatDoor

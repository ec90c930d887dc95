/-
  Texts Wz Vh.
-/
import Derived.Test.YtkdldbfbldkkcaaGreatDoorM00
import Derived.Test.YtkdldbfbldkkcaaGreatDoorM05
import Derived.Test.YtkdldbfbldkkcaaGreatDoorM19
import Derived.Test.YtkdldbfbldkkcaaGreatDoorM24
import Derived.Test.YtkdldbfbldkkcaaGreatDoorM26
import Derived.Test.YtkdldbfbldkkcaaGreatDoorM28
set_option linter.unusedVariables false
set_option maxRecDepth 100000
set_option maxHeartbeats 16000000
namespace Go.Proofs.YtkdldbfbldkkcaaGreatDoor
open Go.RowKit
structure MM where
 ta : Option Addr
 tn : Nat
 tc : Nat
 types : List Sg
 ha : Option Addr
 hn : Nat
 hc : Nat
 hosts : List Int
 ga : Option Addr
 gn : Nat
 gc : Nat
 globals : List Gl
 fi : Int
 mo : Int
 fa : Option Addr
 fn : Nat
 fc : Nat
 fns : List FuM
 da : Option Addr
 dn : Nat
 dc : Nat
 data : List DaM
 ea : Option Addr
 en : Nat
 ec : Nat
 exps : List Ex
def Far (w : World) (R g : Nat) (a : Option Addr) : Prop:=∀ b off c,a = some ⟨b,off,c⟩ → b ≠ R ∧ b ≠ g ∧ b < w.heap.size
theorem Far.at {w W : World} {R g g1 : Nat} {a : Option Addr} (h : Far w R g a) (hs : Stp R g g1 w W) : ∀ b off c,a = some ⟨b,off,c⟩ → b ≠ R ∧ b ≠ g1:=fun b off c hb => ⟨(h b off c hb).1,hs.ne (h b off c hb).2.2 (h b off c hb).2.1⟩
theorem Far.not {w : World} {R g : Nat} {a : Option Addr} (h : Far w R g a) : ∀ b off c,a = some ⟨b,off,c⟩ → ¬ (b = R ∨ b = g):=fun b off c hb => by have:=h b off c hb; omega
structure MOk (w : World) (R g : Nat) (m : MM) : Prop where
 pt : i5 w m.ta m.tn m.types
 tf : Far w R g m.ta
 ph : pU w m.ha m.hn m.hosts
 hf : Far w R g m.ha
 hr : ∀ (j : Nat) x,m.hosts[j]? = some x → -9223372036854775808 ≤ x ∧ x < 9223372036854775808
 pg : na w m.ga m.gn m.globals
 gf : Far w R g m.ga
 gr : ∀ (j : Nat) x,m.globals[j]? = some x → 0 ≤ x.1 ∧ x.1 ≤ 255 ∧ 0 ≤ x.2.2 ∧ x.2.2 < 18446744073709551616
 i0 : -9223372036854775808 ≤ m.fi
 i1 : m.fi < 9223372036854775808
 o0 : -9223372036854775808 ≤ m.mo
 o1 : m.mo < 9223372036854775808
 pf : mZ w m.fa m.fn m.fns
 ff : Far w R g m.fa
 fr : ∀ (j : Nat) x,m.fns[j]? = some x → (-9223372036854775808 ≤ x.1 ∧ x.1 < 9223372036854775808) ∧ AtIn w x.2.2.1.1 x.2.2.1.2.1 x.2.2.2 ∧ Far w R g (nz x.2.2.1.2.1 x.2.2.1.1) ∧ ∀ (i : Nat) y,x.2.2.2[i]? = some y → 0 ≤ y.1 ∧ y.1 ≤ 255 ∧ jG w y.2.2.1.1 y.2.2.1.2.1 y.2.2.1.2.2 y.2.2.2 ∧ Far w R g (nz y.2.2.1.2.1 y.2.2.1.1)
 pd : qq w m.da m.dn m.data
 df : Far w R g m.da
 dr : ∀ (j : Nat) x,m.data[j]? = some x → (-9223372036854775808 ≤ x.1 ∧ x.1 < 9223372036854775808) ∧ Seg w x.2.1.1 x.2.1.2.1 x.2.1.2.2 x.2.2 ∧ Far w R g (nz x.2.1.2.1 x.2.1.1)
 pe : qM w m.ea m.en m.exps
 ef : Far w R g m.ea
 er : ∀ (j : Nat) x,m.exps[j]? = some x → -9223372036854775808 ≤ x.2 ∧ x.2 < 9223372036854775808
def e1 (m : MM) : Int:=bS cZ 64 m.types
def e2 (m : MM) : Int:=bS (fun (_ : List Int) x => cd m.tn x) 32 m.hosts
def e3 (m : MM) : Int:=bS (fun (_ : List Gl) x => iR x) 64 m.globals
def e4 (m : MM) : Int:=lG 0 m.fi
def e5 (m : MM) : Int:=lG m.fi m.mo
def e6 (m : MM) : Int:=bS (iy m.types) 128 m.fns
def e7 (m : MM) : Int:=bS (fun (ah : List DaM) x => eo (m.fi * 4096) ah x) 64 m.data
def e8 (m : MM) : Int:=bS (fun (ah : List Ex) x => gy m.fn ah x) 64 m.exps
def fV (m : MM) : Int:=orE (e1 m) (orE (e2 m) (orE (e3 m) (orE (e4 m) (orE (e5 m) (orE (e6 m) (orE (e7 m) (e8 m)))))))
def yA (m : MM) : List Int:=(aw m.tn ++ m.types.flatMap bX) ++ ((aw m.hn ++ m.hosts.flatMap (fun x => aw x)) ++ ((aw m.gn ++ m.globals.flatMap cQ) ++ (aw m.fi ++ (aw m.mo ++ ((aw m.fn ++ m.fns.flatMap dw) ++ ((aw m.dn ++ m.data.flatMap dI) ++ (aw m.en ++ m.exps.flatMap fG)))))))
def mV (m : MM) : Array Value:=#[.slice m.ta m.tn m.tc,.slice m.ha m.hn m.hc,.slice m.ga m.gn m.gc,.int .i64 m.fi,.int .i64 m.mo,.slice m.fa m.fn m.fc,.slice m.da m.dn m.dc,.slice m.ea m.en m.ec]
def zV : Array Value:=#[.slice none 0 0,.slice none 0 0,.slice none 0 0,.int .i64 0,.int .i64 0,.slice none 0 0,.slice none 0 0,.slice none 0 0]
theorem ik {a b : Int} (h : a ≠ 0) : orE a b = a:=by simp [orE,h]
theorem bn {a b : Int} (h : a = 0) : orE a b = b:=by simp [orE,h]
structure Sta (w W : World) (R g g1 : Nat) (mv ov : Array Value) : Prop where
 s : Stp R g g1 w W
 z : w.heap.size + 1 + 1 + 1 < W.heap.size
 c0 : W.cell? ⟨w.heap.size,0,none⟩ = some (cW R)
 mb : W.heap[w.heap.size + 1]? = some (.cells mv 29)
 rb : W.heap[w.heap.size + 1 + 1]? = some (.cells zV 29)
 ob : W.heap[w.heap.size + 1 + 1 + 1]? = some (.cells ov 29)
 n0 : w.heap.size ≠ g1
 n1 : w.heap.size + 1 ≠ g1
 n2 : w.heap.size + 1 + 1 ≠ g1
 n3 : w.heap.size + 1 + 1 + 1 ≠ g1
theorem Sta.step {w W W' : World} {R g g1 g2 : Nat} {mv ov : Array Value} (h : Sta w W R g g1 mv ov) (hR : R < w.heap.size) (hs : Stp R g1 g2 W W') : Sta w W' R g g2 mv ov:=by
 have hz:=h.z;exact ⟨h.s.trans hs,Nat.lt_of_lt_of_le hz hs.size,hs.cell h.c0 ae h.n0,(hs.block ae ae h.n1).trans h.mb,(hs.block ae ae h.n2).trans h.rb,(hs.block ae ae h.n3).trans h.ob,hs.ne ae h.n0,hs.ne ae h.n1,hs.ne ae h.n2,hs.ne ae h.n3⟩
theorem Sta.set {w W : World} {R g g1 : Nat} {mv ov : Array Value} (h : Sta w W R g g1 mv ov) {i : Nat} {v : Value} (hi : i < ov.size) : Sta w (W.setCell ⟨w.heap.size + 1 + 1 + 1,i,none⟩ v) R g g1 mv (ov.setIfInBounds i v):=by
 have hk:=ay W (w.heap.size + 1 + 1 + 1) i v;have hz:=h.z;exact ⟨h.s.set ae,Nat.lt_of_lt_of_le hz hk.size,hk.cell h.c0 ae,(hk.block _ ae ae).trans h.mb,(hk.block _ ae ae).trans h.rb,Dm h.ob hi,h.n0,h.n1,h.n2,h.n3⟩
def W86 (w : World) (R : Nat) (m : MM) : World:=(((w.alloc (ek (cW R))).alloc (.cells (mV m) 29)).alloc (.cells zV 29)).alloc (.cells zV 29)
theorem Ju (w : World) (R g cap : Nat) (bs : List Int) (m : MM) (h : Wr w R g cap bs) : Sta w (W86 w R m) R g g (mV m) zV ∧ Below w.heap.size w (W86 w R m):=by
 have hgl:=h.g_lt;have B : Below w.heap.size w (W86 w R m):=((((Below.refl _ w).alloc (Nat.le_refl _) _).alloc au _).alloc cE _).alloc cE _
 refine ⟨⟨Stp.of_below B,by simp [W86],?_,?_,?_,?_,ae,ae,ae,ae⟩,B⟩
 ·simp [W86,go_sem]
 ·unfold W86;rw [(aj (((w.alloc (ek (cW R))).alloc (.cells (mV m) 29)).alloc (.cells zV 29)) _).block (w.heap.size + 1) cE,(aj ((w.alloc (ek (cW R))).alloc (.cells (mV m) 29)) _).block (w.heap.size + 1) au]
  have:=(MapKept.heap_alloc (w.alloc (ek (cW R))) (.cells (mV m) 29)).1
  exact cm
 ·unfold W86;rw [(aj (((w.alloc (ek (cW R))).alloc (.cells (mV m) 29)).alloc (.cells zV 29)) _).block (w.heap.size + 1 + 1) au]
  have:=(MapKept.heap_alloc ((w.alloc (ek (cW R))).alloc (.cells (mV m) 29)) (.cells zV 29)).1
  exact cm
 ·unfold W86
  have:=(MapKept.heap_alloc (((w.alloc (ek (cW R))).alloc (.cells (mV m) 29)).alloc (.cells zV 29)) (.cells zV 29)).1
  exact cm
theorem iL {α : Type} {f : List α → α → Int} {most : Int} {xs : List α} {enc : α → List Int} {M : Nat} (h : bS f most xs = 0) (hM : ∀ ah x,f ah x = 0 → (enc x).length ≤ M) : (xs.length : Int) ≤ most ∧ (xs.flatMap enc).length ≤ xs.length * M:=by
 unfold bS at h
 split at h
 ·cases h
 ·exact ⟨ae,cT enc M xs (fun j x hj => hM _ x (bu f xs [] h j x hj))⟩
theorem Stp.transL {R L g g1 g2 : Nat} {w W W' : World} (h : Stp R g g1 w W) (h' : dZ R L g1 g2 W W') (hL : w.heap.size ≤ L) : Stp R g g2 w W':=by
 refine ⟨h.k.then h'.k (fun k hk ht => ?_),?_⟩
 ·rcases ht with rfl | rfl | rfl
  ·exact .inl rfl
  ·exact oM
  ·omega
 ·exact sj
theorem Sta.stepL {w W W' : World} {R L g g1 g2 : Nat} {mv ov : Array Value} (h : Sta w W R g g1 mv ov) (hR : R < w.heap.size) (hs : dZ R L g1 g2 W W') (hL : w.heap.size + 1 + 1 + 1 < L) : Sta w W' R g g2 mv ov:=by
 have hz:=h.z;exact ⟨h.s.transL hs ae,Nat.lt_of_lt_of_le hz hs.size,hs.cell h.c0 ae h.n0 ae,(hs.block ae ae h.n1 ae).trans h.mb,(hs.block ae ae h.n2 ae).trans h.rb,(hs.block ae ae h.n3 ae).trans h.ob,hs.ne ae h.n0,hs.ne ae h.n1,hs.ne ae h.n2,hs.ne ae h.n3⟩
theorem Stp.throwL {R L g g1 : Nat} {w W w5 : World} (h : Stp R g g1 w W) (hk : Kept (fun k => k = R ∨ k = g1 ∨ k = L) W w5) (hL : w.heap.size ≤ L) : Kept (fun k => k = R ∨ k = g) w w5:=by
 refine h.k.then hk (fun k hkl hh => ?_)
 rcases hh with rfl | rfl | rfl
 ·exact .inl rfl
 ·exact oM
 ·omega
theorem MH (R g cap : Nat) (bs : List Int) (m : MM) (w : World) (h : Wr w R g cap bs) (hb : bs.length ≤ 1000) (hR0 : R ≠ 0) (hg0 : g ≠ 0) (hk : bf w) (hm : MOk w R g m) :
  Calls Tryz.prog 78 #[cW R,.agg (mV m)] w fun e w' => (fV m = 0 → ∃ v,e = .returned v ∧ ∃ g' cap',Wr w' R g' cap' (bs ++ yA m) ∧ Kept (fun k => k = R ∨ k = g) w w') ∧ (fV m ≠ 0 → (∃ p,e = thr (fV m) p) ∧ Kept (fun k => k = R ∨ k = g) w w'):=by
 have hRl:=h.lt;have hgl:=h.g_lt;obtain ⟨T1,B1⟩:=Ju w R g cap bs m h;have HW : (((w.alloc (ek (cW R))).alloc (.cells (mV m) 29)).alloc (.cells zV 29)).alloc (.cells zV 29) = W86 w R m:=rfl;have V1:=hid (h.later B1);generalize W86 w R m = W1 at *;have TT:=hid T1;have HM:=hid hm;have HK:=hid hk;obtain ⟨⟨m0,m1,m2,m3,m4,m5,m6,m7⟩,_⟩:=aN T1.mb;have c0:=T1.c0;clear h hm hk T1;unfold mV zV at HW
 show Calls Tryz.prog 78 #[cW R,.agg #[.slice m.ta m.tn m.tc,.slice m.ha m.hn m.hc,.slice m.ga m.gn m.gc,.int .i64 m.fi,.int .i64 m.mo,.slice m.fa m.fn m.fc,.slice m.da m.dn m.dc,.slice m.ea m.en m.ec]] w _
 go_enter Tryz.func78,Tryz.ntmps78
 go_wp2_with fail
 by_cases E1 : e1 m = 0
 rotate_left
 ·have hcw : fV m = e1 m:=by unfold fV; exact ik E1
  refine (Gp R g cap bs m.ta m.tn m.tc w.heap.size W1 m.types V1.out ae c0 ae ae (HM.out.pt.kept TT.out.s.k HM.out.tf.not) (HM.out.tf.at TT.out.s) E1).mono ?_;rintro e w' ⟨⟨q,rfl⟩,hk'⟩
  refine ⟨rfl,fun h0 => absurd (hcw.symm.trans h0) E1,fun _ => ⟨⟨q,?_⟩,TT.out.s.throw hk'⟩⟩
  rw [hcw];rfl
 have L1:=iL (enc:=bX) (M:=36) E1 (fun ah x hx => by have:=fJ hx; exact i4 x this.1 this.2.2.1)
 have l1:=HM.out.pt.1
 have hp8 : Hid (∀ (t : Nat) p r,m.types[t]? = some (p,r) → p.size ≤ 8):=fun t p r ht => by
  have h1 : cO cZ [] m.types = 0:=by
   have:=E1
   unfold e1 bS at this
   split at this
   ·cases this
   ·exact this
  exact (fJ (bu cZ m.types [] h1 t (p,r) ht)).1
 have u1:=aK (m.tn : Int);refine (CU R g cap bs m.ta m.tn m.tc w.heap.size W1 m.types V1.out ae c0 ae ae (HM.out.pt.kept TT.out.s.k HM.out.tf.not) (HM.out.tf.at TT.out.s) E1).mono ?_;rintro e w2 ⟨ta',tc',rfl,hsig,g2,cap2,hab2,hw2,hs2⟩;have T1:=TT;have Tq:=T1.out.step hRl hs2;obtain ⟨⟨o0,o1,o2,o3,o4,o5,o6,o7⟩,⟨f0,f1,f2,f3,f4,f5,f6,f7⟩⟩:=aN Tq.ob;obtain ⟨⟨m0',m1',m2',m3',m4',m5',m6',m7'⟩,_⟩:=aN Tq.mb;have hzq:=Tq.z;obtain ⟨W2,hW2⟩ : ∃ W',w2.setCell ⟨w.heap.size + 1 + 1 + 1,0,none⟩ (.slice ta' m.tn tc') = W':=⟨_,rfl⟩
 have T2:=hid (show Sta w W2 R g g2 (mV m) #[.slice ta' m.tn tc',.slice none 0 0,.slice none 0 0,.int .i64 0,.int .i64 0,.slice none 0 0,.slice none 0 0,.slice none 0 0] by rw [← hW2]; exact Tq.set (i:=0) (v:=.slice ta' m.tn tc') (by simp [zV]))
 have V2:=hid (show Wr W2 R g2 cap2 (bs ++ (aw m.tn ++ m.types.flatMap bX)) by rw [← hW2]; exact hw2.set ae Tq.n3)
 have hlt2 : (bs ++ (aw m.tn ++ m.types.flatMap bX)).length ≤ 4000:=lf
 have G2:=hid (show cr W2 ta' m.tn m.types by rw [← hW2]; exact hsig.kept (ay _ _ _ _) (fun b off c hb' => by have q1:=(hab2 _ hb').1; have q2:=TT.out.z; simp only at q1; omega))
 have F2:=hid (show ∀ b off c,ta' = some ⟨b,off,c⟩ → w.heap.size + 1 + 1 + 1 < b ∧ b ≠ g2 ∧ b < W2.heap.size from fun b off c hb' => by
  have q1:=(hab2 _ hb').1;have q2:=(hab2 _ hb').2;have q3:=TT.out.z;have q4:=(ay w2 (w.heap.size + 1 + 1 + 1) 0 (.slice ta' m.tn tc')).size;rw [hW2] at q4
  simp only at q1 q2
  exact ⟨ae,q2.1,ae⟩)
 clear hsig hab2;clear m0 m1 m2 m3 m4 m5 m6 m7 hw2 hs2 c0;obtain ⟨⟨m0,m1,m2,m3,m4,m5,m6,m7⟩,_⟩:=aN T2.out.mb;have c0:=T2.out.c0;have p0:=(aN T2.out.ob).1;obtain ⟨p0,p1,p2,p3,p4,p5,p6,p7⟩:=p0;go_wp2_with fail;clear Tq o0 o1 o2 o3 o4 o5 o6 o7 f0 f1 f2 f3 f4 f5 f6 f7 m0' m1' m2' m3' m4' m5' m6' m7' hzq hW2
 by_cases E2 : e2 m = 0
 rotate_left
 ·have hcw : fV m = e2 m:=by unfold fV; rw [bn E1]; exact ik E2
  refine (IR R g2 cap2 _ m.ha m.hn m.hc w.heap.size W2 (w.heap.size + 1 + 1 + 1) ta' m.tn tc' m.hosts V2.out ae c0 ae T2.out.n0 p0 ae T2.out.n3 ae HM.out.hr (HM.out.ph.kept T2.out.s.k HM.out.hf.not) (HM.out.hf.at T2.out.s) E2).mono ?_;rintro e w' ⟨⟨q,rfl⟩,hk'⟩
  refine ⟨rfl,fun h0 => absurd (hcw.symm.trans h0) E2,fun _ => ⟨⟨q,?_⟩,T2.out.s.throw hk'⟩⟩
  rw [hcw];rfl
 have L2:=iL (enc:=fun x => aw x) (M:=10) E2 (fun ah x hx => (aK x).2)
 have l2:=HM.out.ph.1;have u2:=aK (m.hn : Int);refine (Dl R g2 cap2 _ m.ha m.hn m.hc w.heap.size W2 (w.heap.size + 1 + 1 + 1) ta' m.tn tc' m.hosts V2.out ae c0 ae T2.out.n0 p0 ae T2.out.n3 ae HM.out.hr (HM.out.ph.kept T2.out.s.k HM.out.hf.not) (HM.out.hf.at T2.out.s) E2).mono ?_;rintro e w3 ⟨ha',hc',ys3,rfl,_,_,g3,cap3,hw3,hs3⟩;have Tq:=T2.out.step hRl hs3;obtain ⟨⟨o0,o1,o2,o3,o4,o5,o6,o7⟩,⟨f0,f1,f2,f3,f4,f5,f6,f7⟩⟩:=aN Tq.ob;obtain ⟨⟨m0',m1',m2',m3',m4',m5',m6',m7'⟩,_⟩:=aN Tq.mb;have hzq:=Tq.z;obtain ⟨W3,hW3⟩ : ∃ W',w3.setCell ⟨w.heap.size + 1 + 1 + 1,1,none⟩ (.slice ha' m.hn hc') = W':=⟨_,rfl⟩
 have T3:=hid (show Sta w W3 R g g3 (mV m) #[.slice ta' m.tn tc',.slice ha' m.hn hc',.slice none 0 0,.int .i64 0,.int .i64 0,.slice none 0 0,.slice none 0 0,.slice none 0 0] by rw [← hW3]; exact Tq.set (i:=1) (v:=.slice ha' m.hn hc') au)
 have V3:=hid (show Wr W3 R g3 cap3 (bs ++ (aw m.tn ++ m.types.flatMap bX) ++ (aw m.hn ++ m.hosts.flatMap (fun x => aw x))) by rw [← hW3]; exact hw3.set ae Tq.n3)
 have hlt3 : (bs ++ (aw m.tn ++ m.types.flatMap bX) ++ (aw m.hn ++ m.hosts.flatMap (fun x => aw x))).length ≤ 5000:=lf
 have G3:=hid (show cr W3 ta' m.tn m.types by
  have q:=G2.out.kept hs3.k (fun b off c hb' => by have:=F2.out b off c hb'; have:=hRl; simp; omega)
  rw [← hW3]
  exact q.kept (ay _ _ _ _) (fun b off c hb' => by have:=F2.out b off c hb'; omega))
 have F3:=hid (show ∀ b off c,ta' = some ⟨b,off,c⟩ → w.heap.size + 1 + 1 + 1 < b ∧ b ≠ g3 ∧ b < W3.heap.size from fun b off c hb' => by
  have q:=F2.out b off c hb';have q1:=hs3.size;have q4:=(ay w3 (w.heap.size + 1 + 1 + 1) 1 (.slice ha' m.hn hc')).size;rw [hW3] at q4;exact ⟨q.1,hs3.ne q.2.2 q.2.1,ae⟩)
 clear m0 m1 m2 m3 m4 m5 m6 m7 hw3 hs3 c0;obtain ⟨⟨m0,m1,m2,m3,m4,m5,m6,m7⟩,_⟩:=aN T3.out.mb;have c0:=T3.out.c0;have p0:=(aN T3.out.ob).1;obtain ⟨p0,p1,p2,p3,p4,p5,p6,p7⟩:=p0;go_wp2_with fail;clear Tq o0 o1 o2 o3 o4 o5 o6 o7 f0 f1 f2 f3 f4 f5 f6 f7 m0' m1' m2' m3' m4' m5' m6' m7' hzq hW3
 by_cases E3 : e3 m = 0
 rotate_left
 ·have hcw : fV m = e3 m:=by unfold fV; rw [bn E1]; rw [bn E2]; exact ik E3
  refine (zE R g3 cap3 _ m.ga m.gn m.gc w.heap.size W3 m.globals V3.out ae c0 ae T3.out.n0 HM.out.gr (HM.out.pg.kept T3.out.s.k HM.out.gf.not) (HM.out.gf.at T3.out.s) E3).mono ?_;rintro e w' ⟨⟨q,rfl⟩,hk'⟩
  refine ⟨rfl,fun h0 => absurd (hcw.symm.trans h0) E3,fun _ => ⟨⟨q,?_⟩,T3.out.s.throw hk'⟩⟩
  rw [hcw];rfl
 have L3:=iL (enc:=cQ) (M:=12) E3 (fun ah x hx => lK x)
 have l3:=HM.out.pg.1;have u3:=aK (m.gn : Int);refine (xd R g3 cap3 _ m.ga m.gn m.gc w.heap.size W3 m.globals V3.out ae c0 ae T3.out.n0 HM.out.gr (HM.out.pg.kept T3.out.s.k HM.out.gf.not) (HM.out.gf.at T3.out.s) E3).mono ?_;rintro e w4 ⟨ga',gc',ys4,rfl,_,_,g4,cap4,hw4,hs4⟩;have Tq:=T3.out.step hRl hs4;obtain ⟨⟨o0,o1,o2,o3,o4,o5,o6,o7⟩,⟨f0,f1,f2,f3,f4,f5,f6,f7⟩⟩:=aN Tq.ob;obtain ⟨⟨m0',m1',m2',m3',m4',m5',m6',m7'⟩,_⟩:=aN Tq.mb;have hzq:=Tq.z;obtain ⟨W4,hW4⟩ : ∃ W',w4.setCell ⟨w.heap.size + 1 + 1 + 1,2,none⟩ (.slice ga' m.gn gc') = W':=⟨_,rfl⟩
 have T4:=hid (show Sta w W4 R g g4 (mV m) #[.slice ta' m.tn tc',.slice ha' m.hn hc',.slice ga' m.gn gc',.int .i64 0,.int .i64 0,.slice none 0 0,.slice none 0 0,.slice none 0 0] by rw [← hW4]; exact Tq.set (i:=2) (v:=.slice ga' m.gn gc') au)
 have V4:=hid (show Wr W4 R g4 cap4 (bs ++ (aw m.tn ++ m.types.flatMap bX) ++ (aw m.hn ++ m.hosts.flatMap (fun x => aw x)) ++ (aw m.gn ++ m.globals.flatMap cQ)) by rw [← hW4]; exact hw4.set ae Tq.n3)
 have hlt4 : (bs ++ (aw m.tn ++ m.types.flatMap bX) ++ (aw m.hn ++ m.hosts.flatMap (fun x => aw x)) ++ (aw m.gn ++ m.globals.flatMap cQ)).length ≤ 6000:=lf
 have G4:=hid (show cr W4 ta' m.tn m.types by
  have q:=G3.out.kept hs4.k (fun b off c hb' => by have:=F3.out b off c hb'; have:=hRl; simp; omega)
  rw [← hW4]
  exact q.kept (ay _ _ _ _) (fun b off c hb' => by have:=F3.out b off c hb'; omega))
 have F4:=hid (show ∀ b off c,ta' = some ⟨b,off,c⟩ → w.heap.size + 1 + 1 + 1 < b ∧ b ≠ g4 ∧ b < W4.heap.size from fun b off c hb' => by
  have q:=F3.out b off c hb';have q1:=hs4.size;have q4:=(ay w4 (w.heap.size + 1 + 1 + 1) 2 (.slice ga' m.gn gc')).size;rw [hW4] at q4;exact ⟨q.1,hs4.ne q.2.2 q.2.1,ae⟩)
 clear m0 m1 m2 m3 m4 m5 m6 m7 hw4 hs4 c0;obtain ⟨⟨m0,m1,m2,m3,m4,m5,m6,m7⟩,_⟩:=aN T4.out.mb;have c0:=T4.out.c0;have p0:=(aN T4.out.ob).1;obtain ⟨p0,p1,p2,p3,p4,p5,p6,p7⟩:=p0;go_wp2_with fail;clear Tq o0 o1 o2 o3 o4 o5 o6 o7 f0 f1 f2 f3 f4 f5 f6 f7 m0' m1' m2' m3' m4' m5' m6' m7' hzq hW4
 by_cases E4 : e4 m = 0
 rotate_left
 ·have hcw : fV m = e4 m:=by unfold fV; rw [bn E1]; rw [bn E2]; rw [bn E3]; exact ik E4
  have hbad : m.fi < 0 ∨ 64 < m.fi:=by
   apply Classical.byContradiction
   intro hq
   exact E4 (by unfold e4 lG; exact if_neg hq)
  have h17 : e4 m = 17:=by unfold e4 lG; exact if_pos hbad
  refine (nH R g4 cap4 _ m.fi 0 W4 V4.out HM.out.i0 HM.out.i1 hbad ae ae).mono ?_;rintro e w' ⟨⟨q,rfl⟩,hk'⟩
  refine ⟨rfl,fun h0 => absurd (hcw.symm.trans h0) E4,fun _ => ⟨⟨q,?_⟩,T4.out.s.throw hk'⟩⟩
  rw [hcw,h17];rfl
 have R4 : 0 ≤ m.fi ∧ m.fi ≤ 64:=by
  have hq:=E4;unfold e4 lG at hq
  split at hq
  ·cases hq
  ·omega
 have u4:=aK (m.fi);refine (mE R g4 cap4 _ m.fi 0 W4 V4.out ae ae R4.1 R4.2).mono ?_;rintro e w5 ⟨rfl,g5,cap5,hw5,hs5⟩;have Tq:=T4.out.step hRl hs5;obtain ⟨⟨o0,o1,o2,o3,o4,o5,o6,o7⟩,⟨f0,f1,f2,f3,f4,f5,f6,f7⟩⟩:=aN Tq.ob;obtain ⟨⟨m0',m1',m2',m3',m4',m5',m6',m7'⟩,_⟩:=aN Tq.mb;have hzq:=Tq.z;obtain ⟨W5,hW5⟩ : ∃ W',w5.setCell ⟨w.heap.size + 1 + 1 + 1,3,none⟩ (.int .i64 m.fi) = W':=⟨_,rfl⟩
 have T5:=hid (show Sta w W5 R g g5 (mV m) #[.slice ta' m.tn tc',.slice ha' m.hn hc',.slice ga' m.gn gc',.int .i64 m.fi,.int .i64 0,.slice none 0 0,.slice none 0 0,.slice none 0 0] by rw [← hW5]; exact Tq.set (i:=3) (v:=.int .i64 m.fi) au)
 have V5:=hid (show Wr W5 R g5 cap5 (bs ++ (aw m.tn ++ m.types.flatMap bX) ++ (aw m.hn ++ m.hosts.flatMap (fun x => aw x)) ++ (aw m.gn ++ m.globals.flatMap cQ) ++ aw m.fi) by rw [← hW5]; exact hw5.set ae Tq.n3)
 have hlt5 : (bs ++ (aw m.tn ++ m.types.flatMap bX) ++ (aw m.hn ++ m.hosts.flatMap (fun x => aw x)) ++ (aw m.gn ++ m.globals.flatMap cQ) ++ aw m.fi).length ≤ 6100:=lf
 have G5:=hid (show cr W5 ta' m.tn m.types by
  have q:=G4.out.kept hs5.k (fun b off c hb' => by have:=F4.out b off c hb'; have:=hRl; simp; omega)
  rw [← hW5]
  exact q.kept (ay _ _ _ _) (fun b off c hb' => by have:=F4.out b off c hb'; omega))
 have F5:=hid (show ∀ b off c,ta' = some ⟨b,off,c⟩ → w.heap.size + 1 + 1 + 1 < b ∧ b ≠ g5 ∧ b < W5.heap.size from fun b off c hb' => by
  have q:=F4.out b off c hb';have q1:=hs5.size;have q4:=(ay w5 (w.heap.size + 1 + 1 + 1) 3 (.int .i64 m.fi)).size;rw [hW5] at q4;exact ⟨q.1,hs5.ne q.2.2 q.2.1,ae⟩)
 clear m0 m1 m2 m3 m4 m5 m6 m7 hw5 hs5 c0;obtain ⟨⟨m0,m1,m2,m3,m4,m5,m6,m7⟩,_⟩:=aN T5.out.mb;have c0:=T5.out.c0;have p0:=(aN T5.out.ob).1;obtain ⟨p0,p1,p2,p3,p4,p5,p6,p7⟩:=p0;go_wp2_with fail;clear Tq o0 o1 o2 o3 o4 o5 o6 o7 f0 f1 f2 f3 f4 f5 f6 f7 m0' m1' m2' m3' m4' m5' m6' m7' hzq hW5
 by_cases E5 : e5 m = 0
 rotate_left
 ·have hcw : fV m = e5 m:=by unfold fV; rw [bn E1]; rw [bn E2]; rw [bn E3]; rw [bn E4]; exact ik E5
  have hbad : m.mo < m.fi ∨ 64 < m.mo:=by
   apply Classical.byContradiction
   intro hq
   exact E5 (by unfold e5 lG; exact if_neg hq)
  have h17 : e5 m = 17:=by unfold e5 lG; exact if_pos hbad
  refine (nH R g5 cap5 _ m.mo m.fi W5 V5.out HM.out.o0 HM.out.o1 hbad ae ae).mono ?_;rintro e w' ⟨⟨q,rfl⟩,hk'⟩
  refine ⟨rfl,fun h0 => absurd (hcw.symm.trans h0) E5,fun _ => ⟨⟨q,?_⟩,T5.out.s.throw hk'⟩⟩
  rw [hcw,h17];rfl
 have R5 : m.fi ≤ m.mo ∧ m.mo ≤ 64:=by
  have hq:=E5;unfold e5 lG at hq
  split at hq
  ·cases hq
  ·omega
 have u5:=aK (m.mo);refine (mE R g5 cap5 _ m.mo m.fi W5 V5.out ae ae R5.1 R5.2).mono ?_;rintro e w6 ⟨rfl,g6,cap6,hw6,hs6⟩;have Tq:=T5.out.step hRl hs6;obtain ⟨⟨o0,o1,o2,o3,o4,o5,o6,o7⟩,⟨f0,f1,f2,f3,f4,f5,f6,f7⟩⟩:=aN Tq.ob;obtain ⟨⟨m0',m1',m2',m3',m4',m5',m6',m7'⟩,_⟩:=aN Tq.mb;have hzq:=Tq.z;obtain ⟨W6,hW6⟩ : ∃ W',w6.setCell ⟨w.heap.size + 1 + 1 + 1,4,none⟩ (.int .i64 m.mo) = W':=⟨_,rfl⟩
 have T6:=hid (show Sta w W6 R g g6 (mV m) #[.slice ta' m.tn tc',.slice ha' m.hn hc',.slice ga' m.gn gc',.int .i64 m.fi,.int .i64 m.mo,.slice none 0 0,.slice none 0 0,.slice none 0 0] by rw [← hW6]; exact Tq.set (i:=4) (v:=.int .i64 m.mo) au)
 have V6:=hid (show Wr W6 R g6 cap6 (bs ++ (aw m.tn ++ m.types.flatMap bX) ++ (aw m.hn ++ m.hosts.flatMap (fun x => aw x)) ++ (aw m.gn ++ m.globals.flatMap cQ) ++ aw m.fi ++ aw m.mo) by rw [← hW6]; exact hw6.set ae Tq.n3)
 have hlt6 : (bs ++ (aw m.tn ++ m.types.flatMap bX) ++ (aw m.hn ++ m.hosts.flatMap (fun x => aw x)) ++ (aw m.gn ++ m.globals.flatMap cQ) ++ aw m.fi ++ aw m.mo).length ≤ 6200:=lf
 have G6:=hid (show cr W6 ta' m.tn m.types by
  have q:=G5.out.kept hs6.k (fun b off c hb' => by have:=F5.out b off c hb'; have:=hRl; simp; omega)
  rw [← hW6]
  exact q.kept (ay _ _ _ _) (fun b off c hb' => by have:=F5.out b off c hb'; omega))
 have F6:=hid (show ∀ b off c,ta' = some ⟨b,off,c⟩ → w.heap.size + 1 + 1 + 1 < b ∧ b ≠ g6 ∧ b < W6.heap.size from fun b off c hb' => by
  have q:=F5.out b off c hb';have q1:=hs6.size;have q4:=(ay w6 (w.heap.size + 1 + 1 + 1) 4 (.int .i64 m.mo)).size;rw [hW6] at q4;exact ⟨q.1,hs6.ne q.2.2 q.2.1,ae⟩)
 obtain ⟨WL,hWL⟩ : ∃ WL,W6.alloc (bJ 16384) = WL:=⟨_,rfl⟩
 have BL : Below W6.heap.size W6 WL:=by rw [← hWL]; exact aj _ _
 have zL : WL.heap.size = W6.heap.size + 1:=by rw [← hWL]; simp
 have TL:=hid (T6.out.step hRl (Stp.of_below BL));have VL:=hid (V6.out.later BL);have GL:=hid (G6.out.later BL)
 have LL:=hid (show LAt WL W6.heap.size 16384 by rw [← hWL]; exact ⟨fD _ _ _,aB⟩)
 have z6:=T6.out.z;clear m0 m1 m2 m3 m4 m5 m6 m7 hw6 hs6 c0;obtain ⟨⟨m0,m1,m2,m3,m4,m5,m6,m7⟩,_⟩:=aN TL.out.mb;have c0:=TL.out.c0;have p0:=(aN TL.out.ob).1;obtain ⟨p0,p1,p2,p3,p4,p5,p6,p7⟩:=p0;go_wp2_with fail;clear Tq o0 o1 o2 o3 o4 o5 o6 o7 f0 f1 f2 f3 f4 f5 f6 f7 m0' m1' m2' m3' m4' m5' m6' m7' hzq hW6 hWL BL;have hgg : g6 ≠ 0:=Ne.symm (TL.out.s.ne ae (Ne.symm hg0));have hkL:=hid (HK.out.kept TL.out.s.k aI)
 have hokL : Hid (∀ (j : Nat) x,m.fns[j]? = some x → EH WL R g6 W6.heap.size x):=fun j x hj => by
  obtain ⟨⟨r0,r1⟩,hmem,hfar,hins⟩:=HM.out.fr j x hj;have hz:=TL.out.s.size
  refine ⟨r0,r1,hmem.kept TL.out.s.k hfar.not,fun b off c hb' => ?_,fun b off c hb' => ?_,fun i y hi => ?_,fun i y hi b off c hb' => ?_⟩
  ·have q:=hfar b off c hb';have q2:=hfar.at TL.out.s b off c hb';exact ⟨q2.1,q2.2,ae⟩
  ·have q:=hfar b off c hb';omega
  ·obtain ⟨y0,y1,ysg,yfar⟩:=hins i y hi;exact ⟨y0,y1,ysg.kept' TL.out.s.k yfar.not,yfar.at TL.out.s⟩
  ·obtain ⟨y0,y1,ysg,yfar⟩:=hins i y hi;have q:=yfar b off c hb';omega
 by_cases E6 : e6 m = 0
 rotate_left
 ·have hcw : fV m = e6 m:=by unfold fV; rw [bn E1]; rw [bn E2]; rw [bn E3]; rw [bn E4]; rw [bn E5]; exact ik E6
  by_cases hfn : m.fn ≤ 1000
  ·refine (Mh R g6 cap6 _ m.fn w.heap.size (w.heap.size + 1 + 1 + 1) W6.heap.size ta' m.tn tc' m.types WL m.fns VL.out ae hfn hR0 hgg hkL.out ae c0 ae TL.out.n0 ae p0 ae TL.out.n3 ae ae GL.out (fun b off c hb' => AR) (fun b off c hb' => by have q:=F6.out b off c hb'; omega) hp8.out ae DX hokL.out HM.out.pf.1 m.fa m.fc LL.out (HM.out.pf.kept TL.out.s.k HM.out.ff.not) (fun b off c hb' => BI) E6).mono ?_
   rintro e w' ⟨⟨q,rfl⟩,hk'⟩
   refine ⟨rfl,fun h0 => absurd (hcw.symm.trans h0) E6,fun _ => ⟨⟨q,?_⟩,TL.out.s.throwL hk' ae⟩⟩
   rw [hcw];rfl
  ·have hmany : e6 m = 20:=by
    unfold e6 bS
    have:=HM.out.pf.1
    exact if_pos ae
   refine (mD R g6 cap6 _ m.fa m.fn m.fc 128 _ WL VL.out ae).mono ?_;rintro e w' ⟨⟨q,rfl⟩,hk'⟩
   refine ⟨rfl,fun h0 => absurd (hcw.symm.trans h0) E6,fun _ => ⟨⟨q,?_⟩,TL.out.s.throw hk'⟩⟩
   rw [hcw,hmany];rfl
 have L6:=iL (enc:=dw) (M:=400000) E6 (fun ah x hx => jU hx)
 have l6:=HM.out.pf.1;have u6:=aK (m.fn : Int)
 refine (JU R g6 cap6 _ m.fn w.heap.size (w.heap.size + 1 + 1 + 1) W6.heap.size ta' m.tn tc' m.types WL m.fns VL.out ae ae hR0 hgg hkL.out ae c0 ae TL.out.n0 ae p0 ae TL.out.n3 ae ae GL.out (fun b off c hb' => AR) (fun b off c hb' => by have q:=F6.out b off c hb'; omega) hp8.out ae DX hokL.out HM.out.pf.1 m.fa m.fc LL.out (HM.out.pf.kept TL.out.s.k HM.out.ff.not) (fun b off c hb' => BI) E6).mono ?_
 rintro e w7 ⟨fa',fc',rfl,g7,cap7,hw7,hs7⟩;have Tq:=TL.out.stepL hRl hs7 ae;obtain ⟨⟨o0,o1,o2,o3,o4,o5,o6,o7⟩,⟨f0,f1,f2,f3,f4,f5,f6,f7⟩⟩:=aN Tq.ob;obtain ⟨⟨m0',m1',m2',m3',m4',m5',m6',m7'⟩,_⟩:=aN Tq.mb;have hzq:=Tq.z;obtain ⟨W7,hW7⟩ : ∃ W',w7.setCell ⟨w.heap.size + 1 + 1 + 1,5,none⟩ (.slice fa' m.fn fc') = W':=⟨_,rfl⟩
 have T7:=hid (show Sta w W7 R g g7 (mV m) #[.slice ta' m.tn tc',.slice ha' m.hn hc',.slice ga' m.gn gc',.int .i64 m.fi,.int .i64 m.mo,.slice fa' m.fn fc',.slice none 0 0,.slice none 0 0] by rw [← hW7]; exact Tq.set (i:=5) (v:=.slice fa' m.fn fc') au)
 have V7:=hid (show Wr W7 R g7 cap7 (bs ++ (aw m.tn ++ m.types.flatMap bX) ++ (aw m.hn ++ m.hosts.flatMap (fun x => aw x)) ++ (aw m.gn ++ m.globals.flatMap cQ) ++ aw m.fi ++ aw m.mo ++ (aw m.fn ++ m.fns.flatMap dw)) by rw [← hW7]; exact hw7.set ae Tq.n3)
 have hlt7 : (bs ++ (aw m.tn ++ m.types.flatMap bX) ++ (aw m.hn ++ m.hosts.flatMap (fun x => aw x)) ++ (aw m.gn ++ m.globals.flatMap cQ) ++ aw m.fi ++ aw m.mo ++ (aw m.fn ++ m.fns.flatMap dw)).length ≤ 60000000:=lf
 clear m0 m1 m2 m3 m4 m5 m6 m7 hw7 hs7 c0;obtain ⟨⟨m0,m1,m2,m3,m4,m5,m6,m7⟩,_⟩:=aN T7.out.mb;have c0:=T7.out.c0;have p0:=(aN T7.out.ob).1;obtain ⟨p0,p1,p2,p3,p4,p5,p6,p7⟩:=p0;go_wp2_with fail;clear Tq o0 o1 o2 o3 o4 o5 o6 o7 f0 f1 f2 f3 f4 f5 f6 f7 m0' m1' m2' m3' m4' m5' m6' m7' hzq hW7
 have hrD : Hid (∀ (j : Nat) x,m.data[j]? = some x → JY W7 R g7 x):=fun j x hj => by
  obtain ⟨⟨r0,r1⟩,hsg,hfar⟩:=HM.out.dr j x hj;have hz:=T7.out.s.size
  exact ⟨r0,r1,hsg.kept' T7.out.s.k hfar.not,hfar.at T7.out.s,fun b off c hb' => by have q:=hfar b off c hb'; omega⟩
 by_cases E7 : e7 m = 0
 rotate_left
 ·have hcw : fV m = e7 m:=by unfold fV; rw [bn E1]; rw [bn E2]; rw [bn E3]; rw [bn E4]; rw [bn E5]; rw [bn E6]; exact ik E7
  refine (Jr R g7 cap7 _ m.da m.dn m.dc w.heap.size W7 (w.heap.size + 1 + 1 + 1) m.fi m.data V7.out ae c0 ae T7.out.n0 p3 ae T7.out.n3 R4.1 R4.2 hrD.out (HM.out.pd.kept T7.out.s.k HM.out.df.not) (HM.out.df.at T7.out.s) E7).mono ?_;rintro e w' ⟨⟨q,rfl⟩,hk'⟩
  refine ⟨rfl,fun h0 => absurd (hcw.symm.trans h0) E7,fun _ => ⟨⟨q,?_⟩,T7.out.s.throw hk'⟩⟩
  rw [hcw];rfl
 have L7:=iL (enc:=dI) (M:=300000) E7 (fun ah x hx => j6 ae hx)
 have l7:=HM.out.pd.1;have u7:=aK (m.dn : Int);refine (Hf R g7 cap7 _ m.da m.dn m.dc w.heap.size W7 (w.heap.size + 1 + 1 + 1) m.fi m.data V7.out ae c0 ae T7.out.n0 p3 ae T7.out.n3 R4.1 R4.2 hrD.out (HM.out.pd.kept T7.out.s.k HM.out.df.not) (HM.out.df.at T7.out.s) E7).mono ?_;rintro e w8 ⟨da',dc',ys8,rfl,_,_,g8,cap8,hw8,hs8⟩;have Tq:=T7.out.step hRl hs8;obtain ⟨⟨o0,o1,o2,o3,o4,o5,o6,o7⟩,⟨f0,f1,f2,f3,f4,f5,f6,f7⟩⟩:=aN Tq.ob;obtain ⟨⟨m0',m1',m2',m3',m4',m5',m6',m7'⟩,_⟩:=aN Tq.mb;have hzq:=Tq.z;obtain ⟨W8,hW8⟩ : ∃ W',w8.setCell ⟨w.heap.size + 1 + 1 + 1,6,none⟩ (.slice da' m.dn dc') = W':=⟨_,rfl⟩
 have T8:=hid (show Sta w W8 R g g8 (mV m) #[.slice ta' m.tn tc',.slice ha' m.hn hc',.slice ga' m.gn gc',.int .i64 m.fi,.int .i64 m.mo,.slice fa' m.fn fc',.slice da' m.dn dc',.slice none 0 0] by rw [← hW8]; exact Tq.set (i:=6) (v:=.slice da' m.dn dc') au)
 have V8:=hid (show Wr W8 R g8 cap8 (bs ++ (aw m.tn ++ m.types.flatMap bX) ++ (aw m.hn ++ m.hosts.flatMap (fun x => aw x)) ++ (aw m.gn ++ m.globals.flatMap cQ) ++ aw m.fi ++ aw m.mo ++ (aw m.fn ++ m.fns.flatMap dw) ++ (aw m.dn ++ m.data.flatMap dI)) by rw [← hW8]; exact hw8.set ae Tq.n3)
 have hlt8 : (bs ++ (aw m.tn ++ m.types.flatMap bX) ++ (aw m.hn ++ m.hosts.flatMap (fun x => aw x)) ++ (aw m.gn ++ m.globals.flatMap cQ) ++ aw m.fi ++ aw m.mo ++ (aw m.fn ++ m.fns.flatMap dw) ++ (aw m.dn ++ m.data.flatMap dI)).length ≤ 90000000:=lf
 clear m0 m1 m2 m3 m4 m5 m6 m7 hw8 hs8 c0;obtain ⟨⟨m0,m1,m2,m3,m4,m5,m6,m7⟩,_⟩:=aN T8.out.mb;have c0:=T8.out.c0;have p0:=(aN T8.out.ob).1;obtain ⟨p0,p1,p2,p3,p4,p5,p6,p7⟩:=p0;go_wp2_with fail;clear Tq o0 o1 o2 o3 o4 o5 o6 o7 f0 f1 f2 f3 f4 f5 f6 f7 m0' m1' m2' m3' m4' m5' m6' m7' hzq hW8
 by_cases E8 : e8 m = 0
 rotate_left
 ·have hcw : fV m = e8 m:=by unfold fV; rw [bn E1]; rw [bn E2]; rw [bn E3]; rw [bn E4]; rw [bn E5]; rw [bn E6]; rw [bn E7]; skip
  refine (zm R g8 cap8 _ m.ea m.en m.ec w.heap.size W8 (w.heap.size + 1 + 1 + 1) fa' m.fn fc' m.exps V8.out ae c0 ae T8.out.n0 p5 ae T8.out.n3 ae HM.out.er (HM.out.pe.kept T8.out.s.k HM.out.ef.not) (HM.out.ef.at T8.out.s) E8).mono ?_;rintro e w' ⟨⟨q,rfl⟩,hk'⟩
  refine ⟨rfl,fun h0 => absurd (hcw.symm.trans h0) E8,fun _ => ⟨⟨q,?_⟩,T8.out.s.throw hk'⟩⟩
  rw [hcw];rfl
 refine (wI R g8 cap8 _ m.ea m.en m.ec w.heap.size W8 (w.heap.size + 1 + 1 + 1) fa' m.fn fc' m.exps V8.out ae c0 ae T8.out.n0 p5 ae T8.out.n3 ae HM.out.er (HM.out.pe.kept T8.out.s.k HM.out.ef.not) (HM.out.ef.at T8.out.s) E8).mono ?_;rintro e w9 ⟨ea',ec',ys9,rfl,_,_,g9,cap9,hw9,hs9⟩;have Tq:=T8.out.step hRl hs9;obtain ⟨⟨o0,o1,o2,o3,o4,o5,o6,o7⟩,⟨f0,f1,f2,f3,f4,f5,f6,f7⟩⟩:=aN Tq.ob;obtain ⟨⟨m0',m1',m2',m3',m4',m5',m6',m7'⟩,_⟩:=aN Tq.mb;have hzq:=Tq.z;obtain ⟨W9,hW9⟩ : ∃ W',w9.setCell ⟨w.heap.size + 1 + 1 + 1,7,none⟩ (.slice ea' m.en ec') = W':=⟨_,rfl⟩
 have T9:=hid (show Sta w W9 R g g9 (mV m) #[.slice ta' m.tn tc',.slice ha' m.hn hc',.slice ga' m.gn gc',.int .i64 m.fi,.int .i64 m.mo,.slice fa' m.fn fc',.slice da' m.dn dc',.slice ea' m.en ec'] by rw [← hW9]; exact Tq.set (i:=7) (v:=.slice ea' m.en ec') au)
 have V9:=hid (show Wr W9 R g9 cap9 (bs ++ (aw m.tn ++ m.types.flatMap bX) ++ (aw m.hn ++ m.hosts.flatMap (fun x => aw x)) ++ (aw m.gn ++ m.globals.flatMap cQ) ++ aw m.fi ++ aw m.mo ++ (aw m.fn ++ m.fns.flatMap dw) ++ (aw m.dn ++ m.data.flatMap dI) ++ (aw m.en ++ m.exps.flatMap fG)) by rw [← hW9]; exact hw9.set ae Tq.n3)
 clear m0 m1 m2 m3 m4 m5 m6 m7 hw9 hs9 c0;obtain ⟨p0,p1,p2,p3,p4,p5,p6,p7⟩:=(aN T9.out.ob).1;have rbb:=T9.out.rb;unfold zV at rbb;obtain ⟨⟨r0,r1,r2,r3,r4,r5,r6,r7⟩,⟨s0,s1,s2,s3,s4,s5,s6,s7⟩⟩:=aN rbb;clear rbb;have z9:=T9.out.z;go_wp2_with fail
 have hcw : fV m = 0:=by unfold fV; rw [bn E1]; rw [bn E2]; rw [bn E3]; rw [bn E4]; rw [bn E5]; rw [bn E6]; rw [bn E7]; exact E8
 refine bodyPost_ret (v:=.agg #[.slice ta' m.tn tc',.slice ha' m.hn hc',.slice ga' m.gn gc',.int .i64 m.fi,.int .i64 m.mo,.slice fa' m.fn fc',.slice da' m.dn dc',.slice ea' m.en ec']) ?_ rfl ⟨fun _ => ⟨_,rfl,g9,cap9,?_,?_⟩,fun h0 => absurd hcw h0⟩
 ·exact cF
 ·have hcast : bs ++ yA m = bs ++ (aw m.tn ++ m.types.flatMap bX) ++ (aw m.hn ++ m.hosts.flatMap (fun x => aw x)) ++ (aw m.gn ++ m.globals.flatMap cQ) ++ aw m.fi ++ aw m.mo ++ (aw m.fn ++ m.fns.flatMap dw) ++ (aw m.dn ++ m.data.flatMap dI) ++ (aw m.en ++ m.exps.flatMap fG):=by simp [yA,List.append_assoc]
  rw [hcast];exact ((((((((V9.out.set (b:=w.heap.size + 1 + 1) ae T9.out.n2).set (b:=w.heap.size + 1 + 1) ae T9.out.n2).set (b:=w.heap.size + 1 + 1) ae T9.out.n2).set (b:=w.heap.size + 1 + 1) ae T9.out.n2).set (b:=w.heap.size + 1 + 1) ae T9.out.n2).set (b:=w.heap.size + 1 + 1) ae T9.out.n2).set (b:=w.heap.size + 1 + 1) ae T9.out.n2).set (b:=w.heap.size + 1 + 1) ae T9.out.n2)
 ·exact ((((((((T9.out.s.set ae).set ae).set ae).set ae).set ae).set ae).set ae).set ae).k
structure EvM (v : Ev) (w1 : World) (m : MM) (lo : List Int) : Prop where
 mv : v.mv = mV m
 pt : i5 w1 m.ta m.tn m.types
 tS : ∀ b off c,m.ta = some ⟨b,off,c⟩ → ¬ v.S b
 t64 : m.tn ≤ 64
 ph : pU w1 m.ha m.hn m.hosts
 hS : ∀ b off c,m.ha = some ⟨b,off,c⟩ → ¬ v.S b
 h32 : m.hn ≤ 32
 pg : na w1 m.ga m.gn m.globals
 gS : ∀ b off c,m.ga = some ⟨b,off,c⟩ → ¬ v.S b
 g64 : m.gn ≤ 64
 pf : mZ w1 m.fa m.fn m.fns
 fS : ∀ b off c,m.fa = some ⟨b,off,c⟩ → ¬ v.S b
 f128 : m.fn ≤ 128
 lv : ∃ a n cap,v.lv = .slice a n cap ∧ lo.length = n ∧ n ≤ 64 ∧ (n = 0 ∨ ∃ b off,a = some ⟨b,off,none⟩ ∧ ¬ v.S b ∧ ∀ (j : Nat) x,lo[j]? = some x → w1.cell? ⟨b,off + j,none⟩ = some (.int .u8 x))
 lL : ∀ x ∈ lo,x = 119 ∨ x = 108
 gL : ∀ x ∈ m.globals,x.1 = 119 ∨ x.1 = 108
 tL : ∀ x ∈ m.types,x.1.size ≤ 8 ∧ x.2.size ≤ 8
 hT : ∀ x ∈ m.hosts,0 ≤ x ∧ x < m.tn
 fT : ∀ x ∈ m.fns,0 ≤ x.1 ∧ x.1 < m.tn
 kinds : bf w1
 kS : ∀ k,v.S k → 1 ≤ k
section
variable {v : Ev} {w1 w : World} {s : Cs} {m : MM} {lo : List Int}
theorem aT {W : World} {b o Y i : Nat} {u x : Value} (h : W.cell? ⟨b,o,none⟩ = some u) (hne : b ≠ Y) : (W.setCell ⟨Y,i,none⟩ x).cell? ⟨b,o,none⟩ = some u:=by
 rw [World.cell?_setCell_other _ _ _ _ au]; exact h
theorem aC {W W' : World} {b o : Nat} {u : Value} (hb : Below W.heap.size W W') (h : W.cell? ⟨b,o,none⟩ = some u) (hf : W.frozen? ⟨b,o,none⟩ = false) : W'.frozen? ⟨b,o,none⟩ = false:=(hb.frozen (by exact block_lt_of_cell h)).trans hf
abbrev sgS (C X : Nat) (i : Nat) (tv lv : Value) (q : Int) (tb toq : Nat) (P R : ByteArray) (w : World) (W : World) : Prop :=
 W.cell? ⟨C,0,none⟩ = some tv ∧ W.cell? ⟨C,i,none⟩ = some lv ∧ W.cell? ⟨X,1,none⟩ = some (.int .i64 q) ∧ W.cell? ⟨tb,toq,none⟩ = some (.string P) ∧ W.cell? ⟨tb,toq + 1,none⟩ = some (.string R) ∧ Below w.heap.size w W
theorem sgS.later {C X i : Nat} {tv lv : Value} {q : Int} {tb toq : Nat} {P R : ByteArray} {w W W' : World} (h : sgS C X i tv lv q tb toq P R w W) (hb : Below W.heap.size W W') : sgS C X i tv lv q tb toq P R w W' :=
 ⟨ag hb h.1,ag hb h.2.1,ag hb h.2.2.1,ag hb h.2.2.2.1,ag hb h.2.2.2.2.1,h.2.2.2.2.2.trans (hb.mono h.2.2.2.2.2.size)⟩
theorem sgS.put {C X i : Nat} {tv lv : Value} {q : Int} {tb toq : Nat} {P R : ByteArray} {w W : World} {j : Nat} {u : Value} (h : sgS C X i tv lv q tb toq P R w W) (hC : C < w.heap.size) (ht : tb < w.heap.size) (hX : X = w.heap.size) : sgS C X i tv lv q tb toq P R w (W.setCell ⟨w.heap.size + 1,j,none⟩ u) :=
 ⟨aT h.1 ae,aT h.2.1 ae,aT h.2.2.1 ae,aT h.2.2.2.1 ae,aT h.2.2.2.2.1 ae,bF h.2.2.2.2.2 ae h.2.2.2.2.2.size⟩
theorem pJ (hA : EvA v w1) (hM : EvM v w1 m lo) (h : CI v w1 w s) {q t : Nat} {fu : FuM} {P R : ByteArray} (L : Value) (hq : m.fns[q]? = some fu) (ht : fu.1 = t) (hP : m.types[t]? = some (P,R)) :
  Calls Tryz.prog 117 #[.pointer (some ⟨v.C,0,none⟩),.agg #[.int .u8 11,.int .i64 q,L]] w (Rdz w 0 (.agg #[.string P,.string R])):=by
 obtain ⟨c0,c1,c2,c5⟩:=h.mc;rw [hM.mv] at c0 c1 c2 c5;have HC:=hid h;have pt:=hM.pt.kept h.kept hM.tS;have pf:=hM.pf.kept h.kept hM.fS
 have hqn : q < m.fn:=by rw [← pf.1]; exact az hq
 have htn : t < m.tn:=tJ
 obtain ⟨tb,toff,hta,htc⟩ : ∃ b off,m.ta = some ⟨b,off,none⟩ ∧ ∀ (j : Nat) x,m.types[j]? = some x → w.cell? ⟨b,off + j * 2,none⟩ = some (.string x.1) ∧ w.cell? ⟨b,off + j * 2 + 1,none⟩ = some (.string x.2):=by
  exact oO
 obtain ⟨fb,foff,hfa,hfc⟩ : ∃ b off,m.fa = some ⟨b,off,none⟩ ∧ ∀ (j : Nat) x,m.fns[j]? = some x → w.cell? ⟨b,off + j * 3,none⟩ = some (.int .i64 x.1) ∧ w.cell? ⟨b,off + j * 3 + 1,none⟩ = some (.string x.2.1) ∧ w.cell? ⟨b,off + j * 3 + 2,none⟩ = some (.slice x.2.2.1.1 x.2.2.1.2.1 x.2.2.1.2.2):=by
  rcases pf.2 with h0 | hx
  ·omega
  ·exact hx
 obtain ⟨t0,t1⟩:=htc t _ hP;obtain ⟨f0,f1,f2⟩:=hfc q _ hq
 have HF:=hid (fun W (hb : Below w.heap.size w W) => wY (w:=W) (cap:=m.fc) hqn (by have:=hM.f128; omega) (ag hb f0) (ag hb f1) (ag hb f2))
 rw [ht] at HF
 change w.cell? ⟨v.C,0,none⟩ = some (.slice m.ta m.tn m.tc) at c0
 change w.cell? ⟨v.C,5,none⟩ = some (.slice m.fa m.fn m.fc) at c5
 rw [hta] at c0;rw [hfa] at c5
 simp only at t0 t1
 have hCl : v.C < w.heap.size:=block_lt_of_cell c0;have htl : tb < w.heap.size:=block_lt_of_cell t0;have g0 : (0 : Int) ≤ (t : Int):=ae;have g1 : (t : Int) < (m.tn : Int):=ae;have BW : Below w.heap.size w ((w.alloc (aA 11 q L)).alloc (aG ⟨#[]⟩ ⟨#[]⟩)):=((Below.refl _ _).alloc (Nat.le_refl _) _).alloc au _;have x1 : ((w.alloc (aA 11 q L)).alloc (aG ⟨#[]⟩ ⟨#[]⟩)).cell? ⟨w.heap.size,1,none⟩ = some (.int .i64 q):=aB;have y0 : ((w.alloc (aA 11 q L)).alloc (aG ⟨#[]⟩ ⟨#[]⟩)).cell? ⟨w.heap.size + 1,0,none⟩ = some (.string ⟨#[]⟩):=aB;have y1 : ((w.alloc (aA 11 q L)).alloc (aG ⟨#[]⟩ ⟨#[]⟩)).cell? ⟨w.heap.size + 1,1,none⟩ = some (.string ⟨#[]⟩):=aB;have z0 : ((w.alloc (aA 11 q L)).alloc (aG ⟨#[]⟩ ⟨#[]⟩)).frozen? ⟨w.heap.size + 1,0,none⟩ = false:=aB;have z1 : ((w.alloc (aA 11 q L)).alloc (aG ⟨#[]⟩ ⟨#[]⟩)).frozen? ⟨w.heap.size + 1,1,none⟩ = false:=aB;have d0:=ag BW c0;have d5:=ag BW c5;have e0:=ag BW t0;have e1:=ag BW t1;have HB:=hid BW
 have hfld : ∀ (a b c : Value) (W : World),(Instr.field 59 (.agg #[a,b,c]) 0).run Tryz.prog W = .ok a W:=fun _ _ _ _ => rfl
 clear htc hfc hP hq ht pt pf c1 c2 h c0 c5 t0 t1 f0 f1 f2
 go_enter Tryz.func117,Tryz.ntmps117
 go_wp2_with fail;generalize (w.alloc (aA 11 q L)).alloc (aG ⟨#[]⟩ ⟨#[]⟩) = W0 at *
 go_region_held3 (sgS v.C w.heap.size 5 (.slice (some ⟨tb,toff,none⟩) m.tn m.tc) (.slice (some ⟨fb,foff,none⟩) m.fn m.fc) q tb (toff + t * 2) P R w)
  (first | assumption | exact sgS.put (sgS.put bB hCl htl rfl) hCl htl rfl | exact (sgS.put (sgS.put bB hCl htl rfl) hCl htl rfl).later (below_drewN _ 1) | exact ⟨d0,d5,x1,e0,e1,HB.out.drew⟩)
  (first
   | (go_at_call 144; refine (HF.out _ (And.right (And.right (And.right (And.right (And.right bB)))))).mono ?_; rintro e w' ⟨rfl,hbx⟩; have hS':=sgS.later bB hbx; have k0:=ag hbx (show World.cell? _ _ = _ from y0); have k1:=ag hbx (show World.cell? _ _ = _ from y1); have j0:=aC hbx (show World.cell? _ _ = _ from y0) (show World.frozen? _ _ = _ from z0); have j1:=aC hbx (show World.cell? _ _ = _ from y1) (show World.frozen? _ _ = _ from z1); clear hbx))
 exact EY
end
end Go.Proofs.YtkdldbfbldkkcaaGreatDoor

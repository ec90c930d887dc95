/-
  Texts Mf Kh.
-/
import Derived.Test.YtheefojaplnnoaaGreatDoorP00
import Derived.Test.YtheefojaplnnoaaGreatDoorP25
import Derived.Test.YtheefojaplnnoaaGreatDoorP42
import Derived.Test.YtheefojaplnnoaaGreatDoorP44
set_option linter.unusedVariables false
set_option maxRecDepth 100000
set_option maxHeartbeats 16000000
namespace Go.Proofs.YtheefojaplnnoaaGreatDoor
open Go.RowKit
theorem Md (m : MM) (w : World) (hb : SzC w m) (pt : fk w m.ta m.tn m.types) (pf : iU w m.fa m.fn m.fns) (pd : jn w m.da m.dn m.data) (pe : jD w m.ea m.en m.exps) :
  Calls Tryz.prog 9 #[.agg (mV m)] w fun e w' => ∃ s : Nat,e = .returned (.int .i64 s) ∧ Below w.heap.size w w' ∧ (s ≤ 131072 → m.tn + m.hn + m.gn + m.fn + m.dn + m.en + (pX m.types + jP m.fns + nU m.data + lH m.exps) ≤ 131072):=by
 have B0:=ak w (.cells (mV m) 29);have b0:=heap_alloc_new w (.cells (mV m) 29)
 have hk : aJ (fun _ => False) w (w.alloc (.cells (mV m) 29)):=az B0
 have PT:=hid (pt.kept hk (fun _ _ _ _ => id))
 have PF:=hid (pf.kept hk (fun _ _ _ _ => id))
 have PD:=hid (pd.kept hk (fun _ _ _ _ => id))
 have PE:=hid (pe.kept hk (fun _ _ _ _ => id))
 have PI:=hid (fun (j : Nat) x (hj : m.fns[j]? = some x) => (hb.f j x hj).2.2.1.kept hk (fun _ _ _ _ => id))
 obtain ⟨u1,u2,u3,u4,u5,u6,ut,uf,ud,ue⟩:=hb;have UT:=hid ut;have UF:=hid uf;have UD:=hid ud;have UE:=hid ue;have BW:=hid B0
 have BW2:=hid (fun (q : Nat) => (jc (w.alloc (.cells (mV m) 29)) q).mono (show w.heap.size ≤ (w.alloc (.cells (mV m) 29)).heap.size by simp))
 clear pt pf pd pe hk ut uf ud ue B0;have m0 : (w.alloc (.cells (mV m) 29)).cell? ⟨w.heap.size,0,none⟩ = some (.slice m.ta m.tn m.tc):=ag b0;have m1 : (w.alloc (.cells (mV m) 29)).cell? ⟨w.heap.size,1,none⟩ = some (.slice m.ha m.hn m.hc):=ag b0;have m2 : (w.alloc (.cells (mV m) 29)).cell? ⟨w.heap.size,2,none⟩ = some (.slice m.ga m.gn m.gc):=ag b0;have m3 : (w.alloc (.cells (mV m) 29)).cell? ⟨w.heap.size,3,none⟩ = some (.int .i64 m.fi):=ag b0;have m4 : (w.alloc (.cells (mV m) 29)).cell? ⟨w.heap.size,4,none⟩ = some (.int .i64 m.mo):=ag b0;have m5 : (w.alloc (.cells (mV m) 29)).cell? ⟨w.heap.size,5,none⟩ = some (.slice m.fa m.fn m.fc):=ag b0;have m6 : (w.alloc (.cells (mV m) 29)).cell? ⟨w.heap.size,6,none⟩ = some (.slice m.da m.dn m.dc):=ag b0;have m7 : (w.alloc (.cells (mV m) 29)).cell? ⟨w.heap.size,7,none⟩ = some (.slice m.ea m.en m.ec):=ag b0;have HW : w.alloc (bg m.ta m.tn m.tc m.ha m.hn m.hc m.ga m.gn m.gc m.fi m.mo m.fa m.fn m.fc m.da m.dn m.dc m.ea m.en m.ec) = w.alloc (.cells (mV m) 29):=rfl;generalize w.alloc (.cells (mV m) 29) = W0 at *
 show Calls Tryz.prog 9 #[.agg #[.slice m.ta m.tn m.tc,.slice m.ha m.hn m.hc,.slice m.ga m.gn m.gc,.int .i64 m.fi,.int .i64 m.mo,.slice m.fa m.fn m.fc,.slice m.da m.dn m.dc,.slice m.ea m.en m.ec]] w _
 clear b0
 go_enter Tryz.func9,Tryz.ntmps9
 go_wp2_with fail
 go_loopw [3,4] (fun s i wr => ∃ k z : Nat,k ≤ m.tn ∧ s = .int .i64 (z : Nat) ∧ i = .int .i64 k ∧ (∃ q,wr = W0.drewN q) ∧ z ≤ 1125899906842624 ∧ Hid (m.tn + m.hn + m.gn + m.fn + m.dn + m.en + pX (m.types.take k) ≤ z)) (fun _ i _ => m.tn - (intOf i).toNat)
 case atStart => exact ⟨0,(m.tn + m.hn + m.gn + m.fn + m.dn + m.en),ae,bB,rfl,⟨0,rfl⟩,ae,hid (by simp [pX])⟩
 case round =>
  obtain ⟨k,z1,hk,rfl,rfl,⟨q1,rfl⟩,hz1,HF1⟩:=hrel
  by_cases hlt : k < m.tn
  ·have hlt' : (k : Int) < (m.tn : Int):=ae
   by_cases hbd : z1 ≤ 2147483647
   ·obtain ⟨x,hxk⟩ : ∃ x,m.types[k]? = some x:=⟨_,aN (by rw [PT.out.1]; exact hlt)⟩
    obtain ⟨b,off,hfa,hat⟩:=PT.out.2.resolve_left ae;have hat:=hat k x hxk;have hu:=UT.out k x hxk;have hk0 : (0 : Int) ≤ (k : Int):=ae;have hbd' : (z1 : Int) ≤ 2147483647:=ae;have hbq : decide ((z1 : Int) ≤ 2147483647) = true:=decide_eq_true hbd';rw [hfa] at m0;obtain ⟨g0,g1⟩:=hat;rw [hfa];go_wp2_with fail
    go_quiet (fail)
    go_wp2_with fail
    exact ⟨⟨k + 1,z1 + x.1.size + x.2.size,ae,bB,bB,⟨_,rfl⟩,ae,hid (by have:=HF1.out; rw [DG hxk]; omega)⟩,bD⟩
   ·have hbd' : ¬ (z1 : Int) ≤ 2147483647:=ae;have hbq : decide ((z1 : Int) ≤ 2147483647) = false:=decide_eq_false hbd';exact Lh
  ·obtain rfl : k = m.tn:=ae;exact Lh
section
variable {m : MM} {base : Nat} {w : World} {BT BH BG BF BD BE : Nat} {fs : List FuM} {ds : List DaM}
theorem C9 (l : List InM) : Jc (l.map inx) = l.flatMap cM:=by
 unfold Jc;rw [List.flatMap_map];rfl
theorem EY : ∀ (l : List Int),l.flatMap dR = l.map (Value.int .i64)
 | [] => rfl
 | a :: r => by rw [List.flatMap_cons,EY r]; rfl
theorem Io : ∀ (l : List Int),l.flatMap iw = l.map (Value.int .u8)
 | [] => rfl
 | a :: r => by rw [List.flatMap_cons,Io r]; rfl
theorem LV {y : FuM} (h : jV w base y) : FnL w base y:=by
 obtain ⟨B,n,e,hl,ho,hz⟩:=h
 refine ⟨?_,fun z hz2 => ?_⟩
 ·unfold LC;rw [List.length_map,C9,e,hl]
  exact eT cM (fun _ => rfl) ho hl
 ·obtain ⟨u,hu,rfl⟩:=List.mem_map.1 hz2;obtain ⟨B2,n2,e2,hl2,ho2⟩:=hz u hu
  show LI w base (.slice u.2.2.1.1 u.2.2.1.2.1 u.2.2.1.2.2) u.2.2.2
  unfold LI;rw [e2,hl2]
  have:=eT dR (fun _ => rfl) ho2 hl2
  rwa [EY] at this
theorem Mx {y : DaM} (h : jU w base y) : DaL w base y:=by
 obtain ⟨B,n,e,hl,ho⟩:=h;unfold DaL;rw [e]
 have:=eT iw (fun _ => rfl) ho hl
 rwa [Io] at this
theorem Mp {x y : FuM} (h : ki x y) : FnS x y:=by
 refine ⟨h.1,h.2.1,h.2.2.1,h.2.2.2.1,fun j hj => ?_⟩
 have hj2 : j < y.2.2.2.length:=by rw [h.2.2.2.1]; exact hj
 have e1:=aN hj;have e2:=aN hj2;have hs:=h.2.2.2.2 j _ _ e1 e2;rw [np e1,np e2];exact ⟨hs.1,hs.2.1,hs.2.2.2,hs.2.2.1⟩
theorem Je (h : MWd m base w BT BH BG BF BD BE fs ds) {w0 : World} (hm : MSr w0 m) : MC m (wMM m BT BH BG BF BD BE fs ds) base w :=
 ⟨rfl,rfl,rfl,rfl,rfl,rfl,rfl,rfl,rfl,rfl,rfl,rfl,h.fl,fun j x y hx hy => Mp (h.fs j x y hx hy),h.dl,fun j x y hx hy => ⟨(h.ds j x y hx hy).1,(h.ds j x y hx hy).2.1,(h.ds j x y hx hy).2.2⟩,
  eT dP (fun _ => rfl) h.rT hm.pt.1,eT dR (fun _ => rfl) h.rH hm.ph.1,eT fF (fun _ => rfl) h.rG hm.pg.1,eT cm (fun _ => rfl) h.rF h.fl,fun y hy => LV (h.wF y hy),eT fY (fun _ => rfl) h.rD h.dl,fun y hy => Mx (h.wD y hy),eT fX (fun _ => rfl) h.rE hm.pe.1⟩
theorem JQ (h : Raw w m) (hs : m.tn + m.hn + m.gn + m.fn + m.dn + m.en + (pX m.types + jP m.fns + nU m.data + lH m.exps) ≤ 131072) : MSr w m ∧ Szs m:=by
 have hsm : Small m:=by unfold Small; omega
 obtain ⟨s1,s2,s3,s4⟩:=hsm.parts
 have s5 : ∀ (j : Nat) x,m.fns[j]? = some x → x.2.2.1.2.1 ≤ 131072:=fun j x hj => by
  have : x.2.1.size + szG x.2.2.2 x.2.2.1.2.1 ≤ jP m.fns:=mK (f:=fun x : FuM => x.2.1.size + szG x.2.2.2 x.2.2.1.2.1) (List.mem_of_getElem? hj)
  exact (qO x.2.2.2 x.2.2.1.2.1 ae).1
 refine ⟨⟨h.t.sig,ae,h.h.nu,ae,h.g.gl,ae,h.f.fu,ae,fun x hx => ?_,h.d.da,ae,fun x hx => ?_,h.e.ex,ae⟩,⟨ae,ae,ae,ae,ae,ae,fun j x hj => ?_,fun j x hj => ?_,fun j x hj => ?_,fun j x hj => ?_⟩⟩
 ·obtain ⟨j,hj⟩:=List.getElem?_of_mem hx;obtain ⟨q1,q2,q3,q4⟩:=h.fg j x hj
  refine ⟨q3.in_,by have:=s5 j x hj; omega,fun y hy => ?_⟩
  obtain ⟨i,hi⟩:=List.getElem?_of_mem hy;obtain ⟨r1,r2,r3,r4⟩:=q4 i y hi
  exact ⟨r3.nu,by have:=(s2 j x hj).2 i y hi; omega⟩
 ·obtain ⟨j,hj⟩:=List.getElem?_of_mem hx;obtain ⟨q1,q2,q3⟩:=h.dg j x hj
  refine ⟨⟨q2.len,q2.at_.imp id fun ⟨b,off,e,hc⟩ => ⟨b,off,e,fun j x hj => ?_⟩⟩,by have:=s3 j x hj; omega⟩
  have:=hc j x hj 0 _ rfl
  rwa [Nat.mul_one] at this
 ·have:=s1 j x hj
  omega
 ·have:=s2 j x hj
  have:=s5 j x hj
  omega
 ·have:=s3 j x hj
  omega
 ·have:=s4 j x hj
  omega
end
end Go.Proofs.YtheefojaplnnoaaGreatDoor

/-
  Texts Mi.
-/
import Derived.Test.YtheefojaplnnoaaGreatDoorC00
import Derived.Test.YtheefojaplnnoaaGreatDoorC38
set_option linter.unusedVariables false
set_option maxRecDepth 100000
set_option maxHeartbeats 16000000
namespace Go.Proofs.YtheefojaplnnoaaGreatDoor
open Go.RowKit
theorem Mx (m : MM) (w : World) (hb : SzC w m) (pt : gJ w m.ta m.tn m.types) (pf : kK w m.fa m.fn m.fns) (pd : lI w m.da m.dn m.data) (pe : lm w m.ea m.en m.exps) :
  Calls Tryz.prog 9 #[.agg (mV m)] w fun e w' => ∃ s : Nat,e = .returned (.int .i64 s) ∧ Below w.heap.size w w' ∧ (∀ b : Nat,s ≤ b → b ≤ 131072 → m.tn + m.hn + m.gn + m.fn + m.dn + m.en + (mP m.types + eG m.fns + iJ m.data + jG m.exps) ≤ b):=by
 have B0:=ag w (.cells (mV m) 29);have b0:=heap_alloc_new w (.cells (mV m) 29)
 have hk : aP (fun _ => False) w (w.alloc (.cells (mV m) 29)):=bA B0
 have PT:=hid (pt.kept hk (fun _ _ _ _ => id))
 have PF:=hid (pf.kept hk (fun _ _ _ _ => id))
 have PD:=hid (pd.kept hk (fun _ _ _ _ => id))
 have PE:=hid (pe.kept hk (fun _ _ _ _ => id))
 have PI:=hid (fun (j : Nat) x (hj : m.fns[j]? = some x) => (hb.f j x hj).2.2.1.kept hk (fun _ _ _ _ => id))
 obtain ⟨u1,u2,u3,u4,u5,u6,ut,uf,ud,ue⟩:=hb;have UT:=hid ut;have UF:=hid uf;have UD:=hid ud;have UE:=hid ue;have BW:=hid B0
 have BW2:=hid (fun (q : Nat) => (iM (w.alloc (.cells (mV m) 29)) q).mono (show w.heap.size ≤ (w.alloc (.cells (mV m) 29)).heap.size by simp))
 clear pt pf pd pe hk ut uf ud ue B0;have m0 : (w.alloc (.cells (mV m) 29)).cell? ⟨w.heap.size,0,none⟩ = some (.slice m.ta m.tn m.tc):=aj b0;have m1 : (w.alloc (.cells (mV m) 29)).cell? ⟨w.heap.size,1,none⟩ = some (.slice m.ha m.hn m.hc):=aj b0;have m2 : (w.alloc (.cells (mV m) 29)).cell? ⟨w.heap.size,2,none⟩ = some (.slice m.ga m.gn m.gc):=aj b0;have m3 : (w.alloc (.cells (mV m) 29)).cell? ⟨w.heap.size,3,none⟩ = some (.int .i64 m.fi):=aj b0;have m4 : (w.alloc (.cells (mV m) 29)).cell? ⟨w.heap.size,4,none⟩ = some (.int .i64 m.mo):=aj b0;have m5 : (w.alloc (.cells (mV m) 29)).cell? ⟨w.heap.size,5,none⟩ = some (.slice m.fa m.fn m.fc):=aj b0;have m6 : (w.alloc (.cells (mV m) 29)).cell? ⟨w.heap.size,6,none⟩ = some (.slice m.da m.dn m.dc):=aj b0;have m7 : (w.alloc (.cells (mV m) 29)).cell? ⟨w.heap.size,7,none⟩ = some (.slice m.ea m.en m.ec):=aj b0;have HW : w.alloc (ck m.ta m.tn m.tc m.ha m.hn m.hc m.ga m.gn m.gc m.fi m.mo m.fa m.fn m.fc m.da m.dn m.dc m.ea m.en m.ec) = w.alloc (.cells (mV m) 29):=rfl;generalize w.alloc (.cells (mV m) 29) = W0 at *
 show Calls Tryz.prog 9 #[.agg #[.slice m.ta m.tn m.tc,.slice m.ha m.hn m.hc,.slice m.ga m.gn m.gc,.int .i64 m.fi,.int .i64 m.mo,.slice m.fa m.fn m.fc,.slice m.da m.dn m.dc,.slice m.ea m.en m.ec]] w _
 clear b0
 go_enter Tryz.func9,Tryz.ntmps9
 go_wp2_with fail
 go_loopw [3,4] (fun s i wr => ∃ k z : Nat,k ≤ m.tn ∧ s = .int .i64 (z : Nat) ∧ i = .int .i64 k ∧ (∃ q,wr = W0.drewN q) ∧ z ≤ 1125899906842624 ∧ Hid (m.tn + m.hn + m.gn + m.fn + m.dn + m.en + mP (m.types.take k) ≤ z)) (fun _ i _ => m.tn - (intOf i).toNat)
 case atStart => exact ⟨0,(m.tn + m.hn + m.gn + m.fn + m.dn + m.en),ae,bZ,rfl,⟨0,rfl⟩,ae,hid (by simp [mP])⟩
 case round =>
  obtain ⟨k,z1,hk,rfl,rfl,⟨q1,rfl⟩,hz1,HF1⟩:=hrel
  by_cases hlt : k < m.tn
  ·have hlt' : (k : Int) < (m.tn : Int):=ae
   by_cases hbd : z1 ≤ 2147483647
   ·obtain ⟨x,hxk⟩ : ∃ x,m.types[k]? = some x:=⟨_,aD (by rw [PT.out.1]; exact hlt)⟩
    obtain ⟨b,off,hfa,hat⟩:=PT.out.2.resolve_left ae;have hat:=hat k x hxk;have hu:=UT.out k x hxk;have hk0 : (0 : Int) ≤ (k : Int):=ae;have hbd' : (z1 : Int) ≤ 2147483647:=ae;have hbq : decide ((z1 : Int) ≤ 2147483647) = true:=decide_eq_true hbd';rw [hfa] at m0;obtain ⟨g0,g1⟩:=hat;rw [hfa];go_wp2_with fail
    go_quiet (fail)
    go_wp2_with fail
    exact ⟨⟨k + 1,z1 + x.1.size + x.2.size,ae,bZ,bZ,⟨_,rfl⟩,ae,hid (by have:=HF1.out; rw [Dt hxk]; omega)⟩,b9⟩
   ·have hbd' : ¬ (z1 : Int) ≤ 2147483647:=ae;have hbq : decide ((z1 : Int) ≤ 2147483647) = false:=decide_eq_false hbd';exact Mf
  ·obtain rfl : k = m.tn:=ae;exact Mf
end Go.Proofs.YtheefojaplnnoaaGreatDoor

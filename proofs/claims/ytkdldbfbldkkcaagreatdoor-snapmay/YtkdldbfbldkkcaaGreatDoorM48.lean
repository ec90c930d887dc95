/-
  Texts Ma.
-/
import Derived.Test.YtkdldbfbldkkcaaGreatDoorM00
import Derived.Test.YtkdldbfbldkkcaaGreatDoorM47
set_option linter.unusedVariables false
set_option maxRecDepth 100000
set_option maxHeartbeats 16000000
namespace Go.Proofs.YtkdldbfbldkkcaaGreatDoor
open Go.RowKit
def nZ (l : List DaM) : Nat:=(l.map fun x => x.2.1.2.1).sum
theorem jX {α : Type} {l : List α} {k : Nat} {x : α} (h : l[k]? = some x) : l.take (k + 1) = l.take k ++ [x]:=by
 have hk:=(List.getElem?_eq_some_iff.1 h).1;rw [List.take_succ_eq_append_getElem hk];rw [ba hk] at h;rw [Option.some.inj h]
theorem Du {l : List DaM} {k : Nat} {x : DaM} (h : l[k]? = some x) : nZ (l.take (k + 1)) = nZ (l.take k) + x.2.1.2.1:=by
 rw [jX h]; simp [nZ]
theorem Il {l : List DaM} {n : Nat} (h : l.length = n) : nZ (l.take n) = nZ l:=se
def qT (l : List Sg) : Nat:=(l.map fun x => x.1.size + x.2.size).sum
def kG (l : List FuM) : Nat:=(l.map fun x => x.2.1.size + szG x.2.2.2 x.2.2.1.2.1).sum
def mF (l : List Ex) : Nat:=(l.map fun x => x.1.size).sum
theorem CJ {l : List Sg} {k : Nat} {x : Sg} (h : l[k]? = some x) : qT (l.take (k + 1)) = qT (l.take k) + (x.1.size + x.2.size):=by
 rw [jX h]; simp [qT]
theorem yT {l : List FuM} {k : Nat} {x : FuM} (h : l[k]? = some x) : kG (l.take (k + 1)) = kG (l.take k) + (x.2.1.size + szG x.2.2.2 x.2.2.1.2.1):=by
 rw [jX h]; simp [kG]
theorem DV {l : List Ex} {k : Nat} {x : Ex} (h : l[k]? = some x) : mF (l.take (k + 1)) = mF (l.take k) + x.1.size:=by
 rw [jX h]; simp [mF]
theorem FA {l : List Sg} {n : Nat} (h : l.length = n) : qT (l.take n) = qT l:=se
theorem DU {l : List FuM} {n : Nat} (h : l.length = n) : kG (l.take n) = kG l:=se
theorem Ir {l : List Ex} {n : Nat} (h : l.length = n) : mF (l.take n) = mF l:=se
theorem BQ : ∀ (xs : List InM) (z : Nat),(∀ (j : Nat) x,xs[j]? = some x → x.2.2.1.2.1 ≤ 140737488355328) → z ≤ 281474976710656 → szG xs z ≤ 281474976710656
 | [],z,_,hz => hz
 | x :: r,z,hl,hz => by
  unfold szG
  split
  ·refine BQ r _ (fun j y hj => hl (j + 1) y tU) ?_
   have:=hl 0 x rfl
   omega
  ·exact hz
structure SzC (w : World) (m : MM) : Prop where
 tn : m.tn ≤ 140737488355328
 hn : m.hn ≤ 140737488355328
 gn : m.gn ≤ 140737488355328
 fn : m.fn ≤ 140737488355328
 dn : m.dn ≤ 140737488355328
 en : m.en ≤ 140737488355328
 t : ∀ (j : Nat) x,m.types[j]? = some x → x.1.size ≤ 140737488355328 ∧ x.2.size ≤ 140737488355328
 f : ∀ (j : Nat) x,m.fns[j]? = some x → x.2.1.size ≤ 140737488355328 ∧ x.2.2.1.2.1 ≤ 140737488355328 ∧ AtIn w x.2.2.1.1 x.2.2.1.2.1 x.2.2.2 ∧ ∀ (i : Nat) y,x.2.2.2[i]? = some y → y.2.2.1.2.1 ≤ 140737488355328
 d : ∀ (j : Nat) x,m.data[j]? = some x → x.2.1.2.1 ≤ 140737488355328
 e : ∀ (j : Nat) x,m.exps[j]? = some x → x.1.size ≤ 140737488355328
theorem xC (b off cn cap : Nat) (xs : List InM) (w : World) (hn : cn ≤ 140737488355328) (hx : xs.length = cn)
  (hc : ∀ (j : Nat) x,xs[j]? = some x → w.cell? ⟨b,off + j * 3 + 2,none⟩ = some (.slice x.2.2.1.1 x.2.2.1.2.1 x.2.2.1.2.2)) (hl : ∀ (j : Nat) x,xs[j]? = some x → x.2.2.1.2.1 ≤ 140737488355328) :
  Calls Tryz.prog 14 #[.slice (some ⟨b,off,none⟩) cn cap] w fun e w' => e = .returned (.int .i64 (szG xs cn : Nat)) ∧ ∃ q,w' = w.drewN q:=by
 have HC:=hid hc;have HL:=hid hl;clear hc hl
 go_enter Tryz.func14,Tryz.ntmps14
 go_wp2_with fail
 go_loopw [3,4] (fun s i wr => ∃ k z : Nat,k ≤ cn ∧ s = .int .i64 (z : Nat) ∧ i = .int .i64 k ∧ (∃ m,wr = w.drewN m) ∧ z ≤ 281474976710656 ∧ szG (xs.drop k) z = szG xs cn) (fun _ i _ => cn - (intOf i).toNat)
 case atStart => exact ⟨0,cn,ae,rfl,rfl,⟨0,rfl⟩,ae,rfl⟩
 case round =>
  obtain ⟨k,z,hk,rfl,rfl,⟨m,rfl⟩,hsz,hG⟩:=hrel;have HG:=hid hG;clear hG
  by_cases hlt : k < cn
  ·obtain ⟨x,hxk⟩ : ∃ x,xs[k]? = some x:=⟨_,ba ae⟩
   have hdr : xs.drop k = x :: xs.drop (k + 1):=by
    have hlk : k < xs.length:=ae;rw [List.drop_eq_getElem_cons hlk]
    have:=ba hlk
    rw [hxk] at this;rw [Option.some.inj this]
   have HD:=hid hdr;clear hdr
   by_cases hbd : z ≤ 2147483647
   ·have g:=HC.out k x hxk;have hln:=HL.out k x hxk;have hlt' : (k : Int) < (cn : Int):=ae;have hbd' : (z : Int) ≤ 2147483647:=ae;go_wp2_with fail;refine ⟨⟨k + 1,z + x.2.2.1.2.1,ae,bU,bU,⟨m,rfl⟩,ae,?_⟩,cC⟩;have h:=HG.out;rw [HD.out,Bu hbd] at h;exact h
   ·have hlt' : (k : Int) < (cn : Int):=ae;have hbd' : ¬ (z : Int) ≤ 2147483647:=ae;go_wp2_with fail;go_ret;have h:=HG.out;rw [HD.out,Ai hbd] at h
    exact ⟨by rw [← h]; rfl,m,rfl⟩
  ·obtain rfl : k = cn:=ae;go_wp2_with fail;go_ret;have h:=HG.out;rw [List.drop_eq_nil_of_le ae] at h
   exact ⟨by rw [← h]; rfl,m,rfl⟩
theorem Jf (a : Option Addr) (cn cap : Nat) (xs : List InM) (w : World) (hn : cn ≤ 140737488355328) (hc : AtIn w a cn xs) (hl : ∀ (j : Nat) x,xs[j]? = some x → x.2.2.1.2.1 ≤ 140737488355328) :
  Calls Tryz.prog 14 #[.slice a cn cap] w fun e w' => e = .returned (.int .i64 (szG xs cn : Nat)) ∧ ∃ q,w' = w.drewN q:=by
 by_cases h0 : cn = 0
 ·subst h0;have : xs = []:=List.length_eq_zero_iff.1 hc.1;subst this
  exact (xZ a cap w).mono fun e w' ⟨he,hw⟩ => ⟨he,0,hw⟩
 ·rcases hc.2 with h | ⟨b,off,rfl,hcd⟩
  ·exact absurd h h0
  ·exact xC b off cn cap xs w hn hc.1 (fun j x hj => (hcd j x hj).2.2) hl
theorem L4 (m : MM) (w : World) (hb : SzC w m) (pt : i5 w m.ta m.tn m.types) (pf : mZ w m.fa m.fn m.fns) (pd : qq w m.da m.dn m.data) (pe : qM w m.ea m.en m.exps) :
  Calls Tryz.prog 6 #[.agg (mV m)] w fun e w' => ∃ s : Nat,e = .returned (.int .i64 s) ∧ Below w.heap.size w w' ∧ (s ≤ 20000 → qT m.types + kG m.fns + nZ m.data + mF m.exps ≤ 20000):=by
 have B0:=aj w (.cells (mV m) 29);have b0:=heap_alloc_new w (.cells (mV m) 29)
 have hk : Kept (fun _ => False) w (w.alloc (.cells (mV m) 29)):=aX B0
 have PT:=hid (pt.kept hk (fun _ _ _ _ => id))
 have PF:=hid (pf.kept hk (fun _ _ _ _ => id))
 have PD:=hid (pd.kept hk (fun _ _ _ _ => id))
 have PE:=hid (pe.kept hk (fun _ _ _ _ => id))
 have PI:=hid (fun (j : Nat) x (hj : m.fns[j]? = some x) => (hb.f j x hj).2.2.1.kept hk (fun _ _ _ _ => id))
 obtain ⟨u1,u2,u3,u4,u5,u6,ut,uf,ud,ue⟩:=hb;have UT:=hid ut;have UF:=hid uf;have UD:=hid ud;have UE:=hid ue;have BW:=hid B0
 have BW2:=hid (fun (q : Nat) => (below_drewN (w.alloc (.cells (mV m) 29)) q).mono (show w.heap.size ≤ (w.alloc (.cells (mV m) 29)).heap.size by simp))
 clear pt pf pd pe hk ut uf ud ue B0;have m0 : (w.alloc (.cells (mV m) 29)).cell? ⟨w.heap.size,0,none⟩ = some (.slice m.ta m.tn m.tc):=ai b0;have m1 : (w.alloc (.cells (mV m) 29)).cell? ⟨w.heap.size,1,none⟩ = some (.slice m.ha m.hn m.hc):=ai b0;have m2 : (w.alloc (.cells (mV m) 29)).cell? ⟨w.heap.size,2,none⟩ = some (.slice m.ga m.gn m.gc):=ai b0;have m3 : (w.alloc (.cells (mV m) 29)).cell? ⟨w.heap.size,3,none⟩ = some (.int .i64 m.fi):=ai b0;have m4 : (w.alloc (.cells (mV m) 29)).cell? ⟨w.heap.size,4,none⟩ = some (.int .i64 m.mo):=ai b0;have m5 : (w.alloc (.cells (mV m) 29)).cell? ⟨w.heap.size,5,none⟩ = some (.slice m.fa m.fn m.fc):=ai b0;have m6 : (w.alloc (.cells (mV m) 29)).cell? ⟨w.heap.size,6,none⟩ = some (.slice m.da m.dn m.dc):=ai b0;have m7 : (w.alloc (.cells (mV m) 29)).cell? ⟨w.heap.size,7,none⟩ = some (.slice m.ea m.en m.ec):=ai b0;have HW : w.alloc (aR m.ta m.tn m.tc m.ha m.hn m.hc m.ga m.gn m.gc m.fi m.mo m.fa m.fn m.fc m.da m.dn m.dc m.ea m.en m.ec) = w.alloc (.cells (mV m) 29):=rfl;generalize w.alloc (.cells (mV m) 29) = W0 at *
 show Calls Tryz.prog 6 #[.agg #[.slice m.ta m.tn m.tc,.slice m.ha m.hn m.hc,.slice m.ga m.gn m.gc,.int .i64 m.fi,.int .i64 m.mo,.slice m.fa m.fn m.fc,.slice m.da m.dn m.dc,.slice m.ea m.en m.ec]] w _
 clear b0
 go_enter Tryz.func6,Tryz.ntmps6
 go_wp2_with fail
 go_loopw [3,4] (fun s i wr => ∃ k z : Nat,k ≤ m.tn ∧ s = .int .i64 (z : Nat) ∧ i = .int .i64 k ∧ (∃ q,wr = W0.drewN q) ∧ z ≤ 1125899906842624 ∧ Hid (qT (m.types.take k) ≤ z)) (fun _ i _ => m.tn - (intOf i).toNat)
 case atStart => exact ⟨0,(m.tn + m.hn + m.gn + m.fn + m.dn + m.en),ae,bU,rfl,⟨0,rfl⟩,ae,hid (by simp [qT])⟩
 case round =>
  obtain ⟨k,z1,hk,rfl,rfl,⟨q1,rfl⟩,hz1,HF1⟩:=hrel
  by_cases hlt : k < m.tn
  ·have hlt' : (k : Int) < (m.tn : Int):=ae
   by_cases hbd : z1 ≤ 2147483647
   ·obtain ⟨x,hxk⟩ : ∃ x,m.types[k]? = some x:=⟨_,ba (by rw [PT.out.1]; exact hlt)⟩
    obtain ⟨b,off,hfa,hat⟩:=PT.out.2.resolve_left ae;have hat:=hat k x hxk;have hu:=UT.out k x hxk;have hk0 : (0 : Int) ≤ (k : Int):=ae;have hbd' : (z1 : Int) ≤ 2147483647:=ae;have hbq : decide ((z1 : Int) ≤ 2147483647) = true:=decide_eq_true hbd';rw [hfa] at m0;obtain ⟨g0,g1⟩:=hat;rw [hfa];go_wp2_with fail
    go_quiet (fail)
    go_wp2_with fail
    exact ⟨⟨k + 1,z1 + x.1.size + x.2.size,ae,bU,bU,⟨_,rfl⟩,ae,hid (by have:=HF1.out; rw [CJ hxk]; omega)⟩,cC⟩
   ·have hbd' : ¬ (z1 : Int) ≤ 2147483647:=ae;have hbq : decide ((z1 : Int) ≤ 2147483647) = false:=decide_eq_false hbd';exact KL
  ·obtain rfl : k = m.tn:=ae;exact KL
end Go.Proofs.YtkdldbfbldkkcaaGreatDoor

/-
  Texts Ma.
-/
import Derived.Test.YtepcmfegggdjfaaGreatDoorQ43
set_option linter.unusedVariables false
set_option maxRecDepth 100000
set_option maxHeartbeats 16000000
namespace Go.Proofs.YtepcmfegggdjfaaGreatDoor
open Go.RowKit
def dsum (l : List DaM) : Nat:=(l.map fun x => x.2.1.2.1).sum
theorem take_snoc {α : Type} {l : List α} {k : Nat} {x : α} (h : l[k]? = some x) : l.take (k + 1) = l.take k ++ [x]:=by
 have hk:=(List.getElem?_eq_some_iff.1 h).1
 rw [List.take_succ_eq_append_getElem hk]
 rw [List.getElem?_eq_getElem hk] at h
 rw [Option.some.inj h]
theorem dsum_succ {l : List DaM} {k : Nat} {x : DaM} (h : l[k]? = some x) : dsum (l.take (k + 1)) = dsum (l.take k) + x.2.1.2.1:=by
 rw [take_snoc h]; simp [dsum]
theorem dsum_all {l : List DaM} {n : Nat} (h : l.length = n) : dsum (l.take n) = dsum l:=by rw [← h,List.take_length]
def tsum (l : List Sg) : Nat:=(l.map fun x => x.1.size + x.2.size).sum
def fsumL (l : List FuM) : Nat:=(l.map fun x => x.2.1.size + szG x.2.2.2 x.2.2.1.2.1).sum
def esum (l : List Ex) : Nat:=(l.map fun x => x.1.size).sum
theorem tsum_succ {l : List Sg} {k : Nat} {x : Sg} (h : l[k]? = some x) : tsum (l.take (k + 1)) = tsum (l.take k) + (x.1.size + x.2.size):=by
 rw [take_snoc h]; simp [tsum]
theorem fsumL_succ {l : List FuM} {k : Nat} {x : FuM} (h : l[k]? = some x) : fsumL (l.take (k + 1)) = fsumL (l.take k) + (x.2.1.size + szG x.2.2.2 x.2.2.1.2.1):=by
 rw [take_snoc h]; simp [fsumL]
theorem esum_succ {l : List Ex} {k : Nat} {x : Ex} (h : l[k]? = some x) : esum (l.take (k + 1)) = esum (l.take k) + x.1.size:=by
 rw [take_snoc h]; simp [esum]
theorem tsum_all {l : List Sg} {n : Nat} (h : l.length = n) : tsum (l.take n) = tsum l:=by rw [← h,List.take_length]
theorem fsumL_all {l : List FuM} {n : Nat} (h : l.length = n) : fsumL (l.take n) = fsumL l:=by rw [← h,List.take_length]
theorem esum_all {l : List Ex} {n : Nat} (h : l.length = n) : esum (l.take n) = esum l:=by rw [← h,List.take_length]
theorem szG_leC : ∀ (xs : List InM) (z : Nat),(∀ (j : Nat) x,xs[j]? = some x → x.2.2.1.2.1 ≤ 140737488355328) → z ≤ 281474976710656 → szG xs z ≤ 281474976710656
 | [],z,_,hz => hz
 | x :: r,z,hl,hz => by
  unfold szG
  split
  ·refine szG_leC r _ (fun j y hj => hl (j + 1) y (by simpa using hj)) ?_
   have:=hl 0 x rfl
   omega
  ·exact hz
structure SzC (w : World) (m : MM) : Prop where
 tn : m.tn ≤ 140737488355328
 hn : m.hn ≤ 140737488355328
 gn : m.gn ≤ 140737488355328
 fn : m.fn ≤ 140737488355328
 dn : m.dn ≤ 140737488355328
 en : m.en ≤ 140737488355328
 t : ∀ (j : Nat) x,m.types[j]? = some x → x.1.size ≤ 140737488355328 ∧ x.2.size ≤ 140737488355328
 f : ∀ (j : Nat) x,m.fns[j]? = some x → x.2.1.size ≤ 140737488355328 ∧ x.2.2.1.2.1 ≤ 140737488355328 ∧ AtIn w x.2.2.1.1 x.2.2.1.2.1 x.2.2.2 ∧ ∀ (i : Nat) y,x.2.2.2[i]? = some y → y.2.2.1.2.1 ≤ 140737488355328
 d : ∀ (j : Nat) x,m.data[j]? = some x → x.2.1.2.1 ≤ 140737488355328
 e : ∀ (j : Nat) x,m.exps[j]? = some x → x.1.size ≤ 140737488355328
theorem size29_inC (b off cn cap : Nat) (xs : List InM) (w : World) (hn : cn ≤ 140737488355328) (hx : xs.length = cn)
  (hc : ∀ (j : Nat) x,xs[j]? = some x → w.cell? ⟨b,off + j * 3 + 2,none⟩ = some (.slice x.2.2.1.1 x.2.2.1.2.1 x.2.2.1.2.2)) (hl : ∀ (j : Nat) x,xs[j]? = some x → x.2.2.1.2.1 ≤ 140737488355328) :
  Calls Tryz.prog 13 #[.slice (some ⟨b,off,none⟩) cn cap] w fun e w' => e = .returned (.int .i64 (szG xs cn : Nat)) ∧ ∃ q,w' = w.drewN q:=by
 have HC:=hid hc
 have HL:=hid hl
 clear hc hl
 go_enter Tryz.func13,Tryz.ntmps13
 go_wp2_with fail
 go_loopw [3,4] (fun s i wr => ∃ k z : Nat,k ≤ cn ∧ s = .int .i64 (z : Nat) ∧ i = .int .i64 k ∧ (∃ m,wr = w.drewN m) ∧ z ≤ 281474976710656 ∧ szG (xs.drop k) z = szG xs cn) (fun _ i _ => cn - (intOf i).toNat)
 case atStart => exact ⟨0,cn,by omega,rfl,rfl,⟨0,rfl⟩,by omega,rfl⟩
 case round =>
  obtain ⟨k,z,hk,rfl,rfl,⟨m,rfl⟩,hsz,hG⟩:=hrel
  have HG:=hid hG
  clear hG
  by_cases hlt : k < cn
  ·obtain ⟨x,hxk⟩ : ∃ x,xs[k]? = some x:=⟨_,List.getElem?_eq_getElem (by omega)⟩
   have hdr : xs.drop k = x :: xs.drop (k + 1):=by
    have hlk : k < xs.length:=by omega
    rw [List.drop_eq_getElem_cons hlk]
    have:=List.getElem?_eq_getElem hlk
    rw [hxk] at this
    rw [Option.some.inj this]
   have HD:=hid hdr
   clear hdr
   by_cases hbd : z ≤ 2147483647
   ·have g:=HC.out k x hxk
    have hln:=HL.out k x hxk
    have hlt' : (k : Int) < (cn : Int):=by omega
    have hbd' : (z : Int) ≤ 2147483647:=by omega
    go_wp2_with fail
    refine ⟨⟨k + 1,z + x.2.2.1.2.1,by omega,by go_num,by go_num,⟨m,rfl⟩,by omega,?_⟩,by simp [intOf]; omega⟩
    have h:=HG.out
    rw [HD.out,szG_pos hbd] at h
    exact h
   ·have hlt' : (k : Int) < (cn : Int):=by omega
    have hbd' : ¬ (z : Int) ≤ 2147483647:=by omega
    go_wp2_with fail
    go_ret
    have h:=HG.out
    rw [HD.out,szG_neg hbd] at h
    exact ⟨by rw [← h]; rfl,m,rfl⟩
  ·obtain rfl : k = cn:=by omega
   go_wp2_with fail
   go_ret
   have h:=HG.out
   rw [List.drop_eq_nil_of_le (by omega)] at h
   exact ⟨by rw [← h]; rfl,m,rfl⟩
theorem size29C (a : Option Addr) (cn cap : Nat) (xs : List InM) (w : World) (hn : cn ≤ 140737488355328) (hc : AtIn w a cn xs) (hl : ∀ (j : Nat) x,xs[j]? = some x → x.2.2.1.2.1 ≤ 140737488355328) :
  Calls Tryz.prog 13 #[.slice a cn cap] w fun e w' => e = .returned (.int .i64 (szG xs cn : Nat)) ∧ ∃ q,w' = w.drewN q:=by
 by_cases h0 : cn = 0
 ·subst h0
  have : xs = []:=List.length_eq_zero_iff.1 hc.1
  subst this
  exact (size29_nil a cap w).mono fun e w' ⟨he,hw⟩ => ⟨he,0,hw⟩
 ·rcases hc.2 with h | ⟨b,off,rfl,hcd⟩
  ·exact absurd h h0
  ·exact size29_inC b off cn cap xs w hn hc.1 (fun j x hj => (hcd j x hj).2.2) hl
theorem size9c (m : MM) (w : World) (hb : SzC w m) (pt : AtSig w m.ta m.tn m.types) (pf : AtFu w m.fa m.fn m.fns) (pd : AtDa w m.da m.dn m.data) (pe : AtEx w m.ea m.en m.exps) :
  Calls Tryz.prog 6 #[.agg (mV m)] w fun e w' => ∃ s : Nat,e = .returned (.int .i64 s) ∧ Below w.heap.size w w' ∧ (s ≤ 20000 → tsum m.types + fsumL m.fns + dsum m.data + esum m.exps ≤ 20000):=by
 have B0:=below_new w (.cells (mV m) 29)
 have b0:=heap_alloc_new w (.cells (mV m) 29)
 have hk : Kept (fun _ => False) w (w.alloc (.cells (mV m) 29)):=kept_of B0
 have PT:=hid (pt.kept hk (fun _ _ _ _ => id))
 have PF:=hid (pf.kept hk (fun _ _ _ _ => id))
 have PD:=hid (pd.kept hk (fun _ _ _ _ => id))
 have PE:=hid (pe.kept hk (fun _ _ _ _ => id))
 have PI:=hid (fun (j : Nat) x (hj : m.fns[j]? = some x) => (hb.f j x hj).2.2.1.kept hk (fun _ _ _ _ => id))
 obtain ⟨u1,u2,u3,u4,u5,u6,ut,uf,ud,ue⟩:=hb
 have UT:=hid ut
 have UF:=hid uf
 have UD:=hid ud
 have UE:=hid ue
 have BW:=hid B0
 have BW2:=hid (fun (q : Nat) => (below_drewN (w.alloc (.cells (mV m) 29)) q).mono (show w.heap.size ≤ (w.alloc (.cells (mV m) 29)).heap.size by simp))
 clear pt pf pd pe hk ut uf ud ue B0
 have m0 : (w.alloc (.cells (mV m) 29)).cell? ⟨w.heap.size,0,none⟩ = some (.slice m.ta m.tn m.tc):=cell_at b0
 have m1 : (w.alloc (.cells (mV m) 29)).cell? ⟨w.heap.size,1,none⟩ = some (.slice m.ha m.hn m.hc):=cell_at b0
 have m2 : (w.alloc (.cells (mV m) 29)).cell? ⟨w.heap.size,2,none⟩ = some (.slice m.ga m.gn m.gc):=cell_at b0
 have m3 : (w.alloc (.cells (mV m) 29)).cell? ⟨w.heap.size,3,none⟩ = some (.int .i64 m.fi):=cell_at b0
 have m4 : (w.alloc (.cells (mV m) 29)).cell? ⟨w.heap.size,4,none⟩ = some (.int .i64 m.mo):=cell_at b0
 have m5 : (w.alloc (.cells (mV m) 29)).cell? ⟨w.heap.size,5,none⟩ = some (.slice m.fa m.fn m.fc):=cell_at b0
 have m6 : (w.alloc (.cells (mV m) 29)).cell? ⟨w.heap.size,6,none⟩ = some (.slice m.da m.dn m.dc):=cell_at b0
 have m7 : (w.alloc (.cells (mV m) 29)).cell? ⟨w.heap.size,7,none⟩ = some (.slice m.ea m.en m.ec):=cell_at b0
 have HW : w.alloc (.cells #[.slice m.ta m.tn m.tc,.slice m.ha m.hn m.hc,.slice m.ga m.gn m.gc,.int .i64 m.fi,.int .i64 m.mo,.slice m.fa m.fn m.fc,.slice m.da m.dn m.dc,.slice m.ea m.en m.ec] 29) = w.alloc (.cells (mV m) 29):=rfl
 generalize w.alloc (.cells (mV m) 29) = W0 at *
 show Calls Tryz.prog 6 #[.agg #[.slice m.ta m.tn m.tc,.slice m.ha m.hn m.hc,.slice m.ga m.gn m.gc,.int .i64 m.fi,.int .i64 m.mo,.slice m.fa m.fn m.fc,.slice m.da m.dn m.dc,.slice m.ea m.en m.ec]] w _
 clear b0
 go_enter Tryz.func6,Tryz.ntmps6
 go_wp2_with fail
 go_loopw [3,4] (fun s i wr => ∃ k z : Nat,k ≤ m.tn ∧ s = .int .i64 (z : Nat) ∧ i = .int .i64 k ∧ (∃ q,wr = W0.drewN q) ∧ z ≤ 1125899906842624 ∧ Hid (tsum (m.types.take k) ≤ z)) (fun _ i _ => m.tn - (intOf i).toNat)
 case atStart => exact ⟨0,(m.tn + m.hn + m.gn + m.fn + m.dn + m.en),by omega,by go_num,rfl,⟨0,rfl⟩,by omega,hid (by simp [tsum])⟩
 case round =>
  obtain ⟨k,z1,hk,rfl,rfl,⟨q1,rfl⟩,hz1,HF1⟩:=hrel
  by_cases hlt : k < m.tn
  ·have hlt' : (k : Int) < (m.tn : Int):=by omega
   by_cases hbd : z1 ≤ 2147483647
   ·obtain ⟨x,hxk⟩ : ∃ x,m.types[k]? = some x:=⟨_,List.getElem?_eq_getElem (by rw [PT.out.1]; exact hlt)⟩
    obtain ⟨b,off,hfa,hat⟩:=PT.out.2.resolve_left (by omega)
    have hat:=hat k x hxk
    have hu:=UT.out k x hxk
    have hk0 : (0 : Int) ≤ (k : Int):=by omega
    have hbd' : (z1 : Int) ≤ 2147483647:=by omega
    have hbq : decide ((z1 : Int) ≤ 2147483647) = true:=decide_eq_true hbd'
    rw [hfa] at m0
    obtain ⟨g0,g1⟩:=hat
    rw [hfa]
    go_wp2_with fail
    go_quiet (fail)
    go_wp2_with fail
    exact ⟨⟨k + 1,z1 + x.1.size + x.2.size,by omega,by go_num,by go_num,⟨_,rfl⟩,by omega,hid (by have:=HF1.out; rw [tsum_succ hxk]; omega)⟩,by simp [intOf]; omega⟩
   ·have hbd' : ¬ (z1 : Int) ≤ 2147483647:=by omega
    have hbq : decide ((z1 : Int) ≤ 2147483647) = false:=decide_eq_false hbd'
    clear hlt
    go_wp2_with fail
    go_loopw [3,5] (fun s i wr => ∃ k z : Nat,k ≤ m.fn ∧ s = .int .i64 (z : Nat) ∧ i = .int .i64 k ∧ (∃ q,wr = W0.drewN q) ∧ z ≤ 1125899906842624 ∧ Hid (z1 + fsumL (m.fns.take k) ≤ z)) (fun _ i _ => m.fn - (intOf i).toNat)
    case atStart => exact ⟨0,z1,by omega,rfl,rfl,⟨_,rfl⟩,by omega,hid (by simp [fsumL])⟩
    case round =>
     obtain ⟨k,z2,hk,rfl,rfl,⟨q2,rfl⟩,hz2,HF2⟩:=hrel
     by_cases hlt : k < m.fn
     ·have hlt' : (k : Int) < (m.fn : Int):=by omega
      by_cases hbd : z2 ≤ 2147483647
      ·obtain ⟨x,hxk⟩ : ∃ x,m.fns[k]? = some x:=⟨_,List.getElem?_eq_getElem (by rw [PF.out.1]; exact hlt)⟩
       obtain ⟨b,off,hfa,hat⟩:=PF.out.2.resolve_left (by omega)
       have hat:=hat k x hxk
       have hu:=UF.out k x hxk
       have hk0 : (0 : Int) ≤ (k : Int):=by omega
       have hbd' : (z2 : Int) ≤ 2147483647:=by omega
       have hbq : decide ((z2 : Int) ≤ 2147483647) = true:=decide_eq_true hbd'
       rw [hfa] at m5
       obtain ⟨_,g0,g1⟩:=hat
       have H29 : Hid (∀ n,Calls Tryz.prog 13 #[.slice x.2.2.1.1 x.2.2.1.2.1 x.2.2.1.2.2] (W0.drewN (q2 + n)) fun e w'' => e = .returned (.int .i64 (szG x.2.2.2 x.2.2.1.2.1 : Nat)) ∧ ∃ n',w'' = W0.drewN (q2 + n')):=hid (fun (n : Nat) => (size29C x.2.2.1.1 x.2.2.1.2.1 x.2.2.1.2.2 x.2.2.2 (W0.drewN (q2 + n)) hu.2.1 ((PI.out k x hxk).kept (kept_of (S:=fun _ => False) (below_drewN W0 (q2 + n))) (fun _ _ _ _ => id)) hu.2.2.2).mono fun e w' ⟨he,q,hq⟩ => ⟨he,n + q,by rw [hq,World.drewN_drewN,Nat.add_assoc]⟩)
       have hsg:=szG_leC x.2.2.2 x.2.2.1.2.1 hu.2.2.2 (by omega)
       have hsl : ((szG x.2.2.2 x.2.2.1.2.1 : Nat) : Int) ≤ 281474976710656:=by omega
       rw [hfa]
       go_wp2_with fail
       go_quiet ((go_at_call 13; exact H29.out _))
       go_wp2_with fail
       exact ⟨⟨k + 1,z2 + x.2.1.size + szG x.2.2.2 x.2.2.1.2.1,by omega,by go_num,by go_num,⟨_,rfl⟩,by omega,hid (by have:=HF2.out; rw [fsumL_succ hxk]; omega)⟩,by simp [intOf]; omega⟩
      ·have hbd' : ¬ (z2 : Int) ≤ 2147483647:=by omega
       have hbq : decide ((z2 : Int) ≤ 2147483647) = false:=decide_eq_false hbd'
       clear hlt
       go_wp2_with fail
       go_loopw [3,6] (fun s i wr => ∃ k z : Nat,k ≤ m.dn ∧ s = .int .i64 (z : Nat) ∧ i = .int .i64 k ∧ (∃ q,wr = W0.drewN q) ∧ z ≤ 1125899906842624 ∧ Hid (z2 + dsum (m.data.take k) ≤ z)) (fun _ i _ => m.dn - (intOf i).toNat)
       case atStart => exact ⟨0,z2,by omega,rfl,rfl,⟨_,rfl⟩,by omega,hid (by simp [dsum])⟩
       case round =>
        obtain ⟨k,z3,hk,rfl,rfl,⟨q3,rfl⟩,hz3,HF3⟩:=hrel
        by_cases hlt : k < m.dn
        ·have hlt' : (k : Int) < (m.dn : Int):=by omega
         by_cases hbd : z3 ≤ 2147483647
         ·obtain ⟨x,hxk⟩ : ∃ x,m.data[k]? = some x:=⟨_,List.getElem?_eq_getElem (by rw [PD.out.1]; exact hlt)⟩
          obtain ⟨b,off,hfa,hat⟩:=PD.out.2.resolve_left (by omega)
          have hat:=hat k x hxk
          have hu:=UD.out k x hxk
          have hk0 : (0 : Int) ≤ (k : Int):=by omega
          have hbd' : (z3 : Int) ≤ 2147483647:=by omega
          have hbq : decide ((z3 : Int) ≤ 2147483647) = true:=decide_eq_true hbd'
          rw [hfa] at m6
          obtain ⟨_,g1⟩:=hat
          rw [hfa]
          go_wp2_with fail
          exact ⟨⟨k + 1,z3 + x.2.1.2.1,by omega,by go_num,by go_num,⟨_,rfl⟩,by omega,hid (by have:=HF3.out; rw [dsum_succ hxk]; omega)⟩,by simp [intOf]; omega⟩
         ·have hbd' : ¬ (z3 : Int) ≤ 2147483647:=by omega
          have hbq : decide ((z3 : Int) ≤ 2147483647) = false:=decide_eq_false hbd'
          clear hlt
          go_wp2_with fail
          go_loopw [3,7] (fun s i wr => ∃ k z : Nat,k ≤ m.en ∧ s = .int .i64 (z : Nat) ∧ i = .int .i64 k ∧ (∃ q,wr = W0.drewN q) ∧ z ≤ 1125899906842624 ∧ Hid (z3 + esum (m.exps.take k) ≤ z)) (fun _ i _ => m.en - (intOf i).toNat)
          case atStart => exact ⟨0,z3,by omega,rfl,rfl,⟨_,rfl⟩,by omega,hid (by simp [esum])⟩
          case round =>
           obtain ⟨k,z4,hk,rfl,rfl,⟨q4,rfl⟩,hz4,HF4⟩:=hrel
           by_cases hlt : k < m.en
           ·have hlt' : (k : Int) < (m.en : Int):=by omega
            by_cases hbd : z4 ≤ 2147483647
            ·obtain ⟨x,hxk⟩ : ∃ x,m.exps[k]? = some x:=⟨_,List.getElem?_eq_getElem (by rw [PE.out.1]; exact hlt)⟩
             obtain ⟨b,off,hfa,hat⟩:=PE.out.2.resolve_left (by omega)
             have hat:=hat k x hxk
             have hu:=UE.out k x hxk
             have hk0 : (0 : Int) ≤ (k : Int):=by omega
             have hbd' : (z4 : Int) ≤ 2147483647:=by omega
             have hbq : decide ((z4 : Int) ≤ 2147483647) = true:=decide_eq_true hbd'
             rw [hfa] at m7
             obtain ⟨g0,_⟩:=hat
             rw [hfa]
             go_wp2_with fail
             exact ⟨⟨k + 1,z4 + x.1.size,by omega,by go_num,by go_num,⟨_,rfl⟩,by omega,hid (by have:=HF4.out; rw [esum_succ hxk]; omega)⟩,by simp [intOf]; omega⟩
            ·have hbd' : ¬ (z4 : Int) ≤ 2147483647:=by omega
             have hbq : decide ((z4 : Int) ≤ 2147483647) = false:=decide_eq_false hbd'
             clear hlt
             go_wp2_with fail
             go_ret
             exact ⟨z4,rfl,BW.out.trans (BW2.out _),fun h4 => by have e0:=tsum_all (l:=m.types) PT.out.1; have e1:=fsumL_all (l:=m.fns) PF.out.1; have e2:=dsum_all (l:=m.data) PD.out.1; have e3:=esum_all (l:=m.exps) PE.out.1; have f1:=HF1.out; have f2:=HF2.out; have f3:=HF3.out; have f4:=HF4.out; omega⟩
           ·obtain rfl : k = m.en:=by omega
            clear hlt
            go_wp2_with fail
            go_ret
            exact ⟨z4,rfl,BW.out.trans (BW2.out _),fun h4 => by have e0:=tsum_all (l:=m.types) PT.out.1; have e1:=fsumL_all (l:=m.fns) PF.out.1; have e2:=dsum_all (l:=m.data) PD.out.1; have e3:=esum_all (l:=m.exps) PE.out.1; have f1:=HF1.out; have f2:=HF2.out; have f3:=HF3.out; have f4:=HF4.out; omega⟩
        ·obtain rfl : k = m.dn:=by omega
         clear hlt
         go_wp2_with fail
         go_loopw [3,7] (fun s i wr => ∃ k z : Nat,k ≤ m.en ∧ s = .int .i64 (z : Nat) ∧ i = .int .i64 k ∧ (∃ q,wr = W0.drewN q) ∧ z ≤ 1125899906842624 ∧ Hid (z3 + esum (m.exps.take k) ≤ z)) (fun _ i _ => m.en - (intOf i).toNat)
         case atStart => exact ⟨0,z3,by omega,rfl,rfl,⟨_,rfl⟩,by omega,hid (by simp [esum])⟩
         case round =>
          obtain ⟨k,z4,hk,rfl,rfl,⟨q4,rfl⟩,hz4,HF4⟩:=hrel
          by_cases hlt : k < m.en
          ·have hlt' : (k : Int) < (m.en : Int):=by omega
           by_cases hbd : z4 ≤ 2147483647
           ·obtain ⟨x,hxk⟩ : ∃ x,m.exps[k]? = some x:=⟨_,List.getElem?_eq_getElem (by rw [PE.out.1]; exact hlt)⟩
            obtain ⟨b,off,hfa,hat⟩:=PE.out.2.resolve_left (by omega)
            have hat:=hat k x hxk
            have hu:=UE.out k x hxk
            have hk0 : (0 : Int) ≤ (k : Int):=by omega
            have hbd' : (z4 : Int) ≤ 2147483647:=by omega
            have hbq : decide ((z4 : Int) ≤ 2147483647) = true:=decide_eq_true hbd'
            rw [hfa] at m7
            obtain ⟨g0,_⟩:=hat
            rw [hfa]
            go_wp2_with fail
            exact ⟨⟨k + 1,z4 + x.1.size,by omega,by go_num,by go_num,⟨_,rfl⟩,by omega,hid (by have:=HF4.out; rw [esum_succ hxk]; omega)⟩,by simp [intOf]; omega⟩
           ·have hbd' : ¬ (z4 : Int) ≤ 2147483647:=by omega
            have hbq : decide ((z4 : Int) ≤ 2147483647) = false:=decide_eq_false hbd'
            clear hlt
            go_wp2_with fail
            go_ret
            exact ⟨z4,rfl,BW.out.trans (BW2.out _),fun h4 => by have e0:=tsum_all (l:=m.types) PT.out.1; have e1:=fsumL_all (l:=m.fns) PF.out.1; have e2:=dsum_all (l:=m.data) PD.out.1; have e3:=esum_all (l:=m.exps) PE.out.1; have f1:=HF1.out; have f2:=HF2.out; have f3:=HF3.out; have f4:=HF4.out; omega⟩
          ·obtain rfl : k = m.en:=by omega
           clear hlt
           go_wp2_with fail
           go_ret
           exact ⟨z4,rfl,BW.out.trans (BW2.out _),fun h4 => by have e0:=tsum_all (l:=m.types) PT.out.1; have e1:=fsumL_all (l:=m.fns) PF.out.1; have e2:=dsum_all (l:=m.data) PD.out.1; have e3:=esum_all (l:=m.exps) PE.out.1; have f1:=HF1.out; have f2:=HF2.out; have f3:=HF3.out; have f4:=HF4.out; omega⟩
     ·obtain rfl : k = m.fn:=by omega
      clear hlt
      go_wp2_with fail
      go_loopw [3,6] (fun s i wr => ∃ k z : Nat,k ≤ m.dn ∧ s = .int .i64 (z : Nat) ∧ i = .int .i64 k ∧ (∃ q,wr = W0.drewN q) ∧ z ≤ 1125899906842624 ∧ Hid (z2 + dsum (m.data.take k) ≤ z)) (fun _ i _ => m.dn - (intOf i).toNat)
      case atStart => exact ⟨0,z2,by omega,rfl,rfl,⟨_,rfl⟩,by omega,hid (by simp [dsum])⟩
      case round =>
       obtain ⟨k,z3,hk,rfl,rfl,⟨q3,rfl⟩,hz3,HF3⟩:=hrel
       by_cases hlt : k < m.dn
       ·have hlt' : (k : Int) < (m.dn : Int):=by omega
        by_cases hbd : z3 ≤ 2147483647
        ·obtain ⟨x,hxk⟩ : ∃ x,m.data[k]? = some x:=⟨_,List.getElem?_eq_getElem (by rw [PD.out.1]; exact hlt)⟩
         obtain ⟨b,off,hfa,hat⟩:=PD.out.2.resolve_left (by omega)
         have hat:=hat k x hxk
         have hu:=UD.out k x hxk
         have hk0 : (0 : Int) ≤ (k : Int):=by omega
         have hbd' : (z3 : Int) ≤ 2147483647:=by omega
         have hbq : decide ((z3 : Int) ≤ 2147483647) = true:=decide_eq_true hbd'
         rw [hfa] at m6
         obtain ⟨_,g1⟩:=hat
         rw [hfa]
         go_wp2_with fail
         exact ⟨⟨k + 1,z3 + x.2.1.2.1,by omega,by go_num,by go_num,⟨_,rfl⟩,by omega,hid (by have:=HF3.out; rw [dsum_succ hxk]; omega)⟩,by simp [intOf]; omega⟩
        ·have hbd' : ¬ (z3 : Int) ≤ 2147483647:=by omega
         have hbq : decide ((z3 : Int) ≤ 2147483647) = false:=decide_eq_false hbd'
         clear hlt
         go_wp2_with fail
         go_loopw [3,7] (fun s i wr => ∃ k z : Nat,k ≤ m.en ∧ s = .int .i64 (z : Nat) ∧ i = .int .i64 k ∧ (∃ q,wr = W0.drewN q) ∧ z ≤ 1125899906842624 ∧ Hid (z3 + esum (m.exps.take k) ≤ z)) (fun _ i _ => m.en - (intOf i).toNat)
         case atStart => exact ⟨0,z3,by omega,rfl,rfl,⟨_,rfl⟩,by omega,hid (by simp [esum])⟩
         case round =>
          obtain ⟨k,z4,hk,rfl,rfl,⟨q4,rfl⟩,hz4,HF4⟩:=hrel
          by_cases hlt : k < m.en
          ·have hlt' : (k : Int) < (m.en : Int):=by omega
           by_cases hbd : z4 ≤ 2147483647
           ·obtain ⟨x,hxk⟩ : ∃ x,m.exps[k]? = some x:=⟨_,List.getElem?_eq_getElem (by rw [PE.out.1]; exact hlt)⟩
            obtain ⟨b,off,hfa,hat⟩:=PE.out.2.resolve_left (by omega)
            have hat:=hat k x hxk
            have hu:=UE.out k x hxk
            have hk0 : (0 : Int) ≤ (k : Int):=by omega
            have hbd' : (z4 : Int) ≤ 2147483647:=by omega
            have hbq : decide ((z4 : Int) ≤ 2147483647) = true:=decide_eq_true hbd'
            rw [hfa] at m7
            obtain ⟨g0,_⟩:=hat
            rw [hfa]
            go_wp2_with fail
            exact ⟨⟨k + 1,z4 + x.1.size,by omega,by go_num,by go_num,⟨_,rfl⟩,by omega,hid (by have:=HF4.out; rw [esum_succ hxk]; omega)⟩,by simp [intOf]; omega⟩
           ·have hbd' : ¬ (z4 : Int) ≤ 2147483647:=by omega
            have hbq : decide ((z4 : Int) ≤ 2147483647) = false:=decide_eq_false hbd'
            clear hlt
            go_wp2_with fail
            go_ret
            exact ⟨z4,rfl,BW.out.trans (BW2.out _),fun h4 => by have e0:=tsum_all (l:=m.types) PT.out.1; have e1:=fsumL_all (l:=m.fns) PF.out.1; have e2:=dsum_all (l:=m.data) PD.out.1; have e3:=esum_all (l:=m.exps) PE.out.1; have f1:=HF1.out; have f2:=HF2.out; have f3:=HF3.out; have f4:=HF4.out; omega⟩
          ·obtain rfl : k = m.en:=by omega
           clear hlt
           go_wp2_with fail
           go_ret
           exact ⟨z4,rfl,BW.out.trans (BW2.out _),fun h4 => by have e0:=tsum_all (l:=m.types) PT.out.1; have e1:=fsumL_all (l:=m.fns) PF.out.1; have e2:=dsum_all (l:=m.data) PD.out.1; have e3:=esum_all (l:=m.exps) PE.out.1; have f1:=HF1.out; have f2:=HF2.out; have f3:=HF3.out; have f4:=HF4.out; omega⟩
       ·obtain rfl : k = m.dn:=by omega
        clear hlt
        go_wp2_with fail
        go_loopw [3,7] (fun s i wr => ∃ k z : Nat,k ≤ m.en ∧ s = .int .i64 (z : Nat) ∧ i = .int .i64 k ∧ (∃ q,wr = W0.drewN q) ∧ z ≤ 1125899906842624 ∧ Hid (z3 + esum (m.exps.take k) ≤ z)) (fun _ i _ => m.en - (intOf i).toNat)
        case atStart => exact ⟨0,z3,by omega,rfl,rfl,⟨_,rfl⟩,by omega,hid (by simp [esum])⟩
        case round =>
         obtain ⟨k,z4,hk,rfl,rfl,⟨q4,rfl⟩,hz4,HF4⟩:=hrel
         by_cases hlt : k < m.en
         ·have hlt' : (k : Int) < (m.en : Int):=by omega
          by_cases hbd : z4 ≤ 2147483647
          ·obtain ⟨x,hxk⟩ : ∃ x,m.exps[k]? = some x:=⟨_,List.getElem?_eq_getElem (by rw [PE.out.1]; exact hlt)⟩
           obtain ⟨b,off,hfa,hat⟩:=PE.out.2.resolve_left (by omega)
           have hat:=hat k x hxk
           have hu:=UE.out k x hxk
           have hk0 : (0 : Int) ≤ (k : Int):=by omega
           have hbd' : (z4 : Int) ≤ 2147483647:=by omega
           have hbq : decide ((z4 : Int) ≤ 2147483647) = true:=decide_eq_true hbd'
           rw [hfa] at m7
           obtain ⟨g0,_⟩:=hat
           rw [hfa]
           go_wp2_with fail
           exact ⟨⟨k + 1,z4 + x.1.size,by omega,by go_num,by go_num,⟨_,rfl⟩,by omega,hid (by have:=HF4.out; rw [esum_succ hxk]; omega)⟩,by simp [intOf]; omega⟩
          ·have hbd' : ¬ (z4 : Int) ≤ 2147483647:=by omega
           have hbq : decide ((z4 : Int) ≤ 2147483647) = false:=decide_eq_false hbd'
           clear hlt
           go_wp2_with fail
           go_ret
           exact ⟨z4,rfl,BW.out.trans (BW2.out _),fun h4 => by have e0:=tsum_all (l:=m.types) PT.out.1; have e1:=fsumL_all (l:=m.fns) PF.out.1; have e2:=dsum_all (l:=m.data) PD.out.1; have e3:=esum_all (l:=m.exps) PE.out.1; have f1:=HF1.out; have f2:=HF2.out; have f3:=HF3.out; have f4:=HF4.out; omega⟩
         ·obtain rfl : k = m.en:=by omega
          clear hlt
          go_wp2_with fail
          go_ret
          exact ⟨z4,rfl,BW.out.trans (BW2.out _),fun h4 => by have e0:=tsum_all (l:=m.types) PT.out.1; have e1:=fsumL_all (l:=m.fns) PF.out.1; have e2:=dsum_all (l:=m.data) PD.out.1; have e3:=esum_all (l:=m.exps) PE.out.1; have f1:=HF1.out; have f2:=HF2.out; have f3:=HF3.out; have f4:=HF4.out; omega⟩
  ·obtain rfl : k = m.tn:=by omega
   clear hlt
   go_wp2_with fail
   go_loopw [3,5] (fun s i wr => ∃ k z : Nat,k ≤ m.fn ∧ s = .int .i64 (z : Nat) ∧ i = .int .i64 k ∧ (∃ q,wr = W0.drewN q) ∧ z ≤ 1125899906842624 ∧ Hid (z1 + fsumL (m.fns.take k) ≤ z)) (fun _ i _ => m.fn - (intOf i).toNat)
   case atStart => exact ⟨0,z1,by omega,rfl,rfl,⟨_,rfl⟩,by omega,hid (by simp [fsumL])⟩
   case round =>
    obtain ⟨k,z2,hk,rfl,rfl,⟨q2,rfl⟩,hz2,HF2⟩:=hrel
    by_cases hlt : k < m.fn
    ·have hlt' : (k : Int) < (m.fn : Int):=by omega
     by_cases hbd : z2 ≤ 2147483647
     ·obtain ⟨x,hxk⟩ : ∃ x,m.fns[k]? = some x:=⟨_,List.getElem?_eq_getElem (by rw [PF.out.1]; exact hlt)⟩
      obtain ⟨b,off,hfa,hat⟩:=PF.out.2.resolve_left (by omega)
      have hat:=hat k x hxk
      have hu:=UF.out k x hxk
      have hk0 : (0 : Int) ≤ (k : Int):=by omega
      have hbd' : (z2 : Int) ≤ 2147483647:=by omega
      have hbq : decide ((z2 : Int) ≤ 2147483647) = true:=decide_eq_true hbd'
      rw [hfa] at m5
      obtain ⟨_,g0,g1⟩:=hat
      have H29 : Hid (∀ n,Calls Tryz.prog 13 #[.slice x.2.2.1.1 x.2.2.1.2.1 x.2.2.1.2.2] (W0.drewN (q2 + n)) fun e w'' => e = .returned (.int .i64 (szG x.2.2.2 x.2.2.1.2.1 : Nat)) ∧ ∃ n',w'' = W0.drewN (q2 + n')):=hid (fun (n : Nat) => (size29C x.2.2.1.1 x.2.2.1.2.1 x.2.2.1.2.2 x.2.2.2 (W0.drewN (q2 + n)) hu.2.1 ((PI.out k x hxk).kept (kept_of (S:=fun _ => False) (below_drewN W0 (q2 + n))) (fun _ _ _ _ => id)) hu.2.2.2).mono fun e w' ⟨he,q,hq⟩ => ⟨he,n + q,by rw [hq,World.drewN_drewN,Nat.add_assoc]⟩)
      have hsg:=szG_leC x.2.2.2 x.2.2.1.2.1 hu.2.2.2 (by omega)
      have hsl : ((szG x.2.2.2 x.2.2.1.2.1 : Nat) : Int) ≤ 281474976710656:=by omega
      rw [hfa]
      go_wp2_with fail
      go_quiet ((go_at_call 13; exact H29.out _))
      go_wp2_with fail
      exact ⟨⟨k + 1,z2 + x.2.1.size + szG x.2.2.2 x.2.2.1.2.1,by omega,by go_num,by go_num,⟨_,rfl⟩,by omega,hid (by have:=HF2.out; rw [fsumL_succ hxk]; omega)⟩,by simp [intOf]; omega⟩
     ·have hbd' : ¬ (z2 : Int) ≤ 2147483647:=by omega
      have hbq : decide ((z2 : Int) ≤ 2147483647) = false:=decide_eq_false hbd'
      clear hlt
      go_wp2_with fail
      go_loopw [3,6] (fun s i wr => ∃ k z : Nat,k ≤ m.dn ∧ s = .int .i64 (z : Nat) ∧ i = .int .i64 k ∧ (∃ q,wr = W0.drewN q) ∧ z ≤ 1125899906842624 ∧ Hid (z2 + dsum (m.data.take k) ≤ z)) (fun _ i _ => m.dn - (intOf i).toNat)
      case atStart => exact ⟨0,z2,by omega,rfl,rfl,⟨_,rfl⟩,by omega,hid (by simp [dsum])⟩
      case round =>
       obtain ⟨k,z3,hk,rfl,rfl,⟨q3,rfl⟩,hz3,HF3⟩:=hrel
       by_cases hlt : k < m.dn
       ·have hlt' : (k : Int) < (m.dn : Int):=by omega
        by_cases hbd : z3 ≤ 2147483647
        ·obtain ⟨x,hxk⟩ : ∃ x,m.data[k]? = some x:=⟨_,List.getElem?_eq_getElem (by rw [PD.out.1]; exact hlt)⟩
         obtain ⟨b,off,hfa,hat⟩:=PD.out.2.resolve_left (by omega)
         have hat:=hat k x hxk
         have hu:=UD.out k x hxk
         have hk0 : (0 : Int) ≤ (k : Int):=by omega
         have hbd' : (z3 : Int) ≤ 2147483647:=by omega
         have hbq : decide ((z3 : Int) ≤ 2147483647) = true:=decide_eq_true hbd'
         rw [hfa] at m6
         obtain ⟨_,g1⟩:=hat
         rw [hfa]
         go_wp2_with fail
         exact ⟨⟨k + 1,z3 + x.2.1.2.1,by omega,by go_num,by go_num,⟨_,rfl⟩,by omega,hid (by have:=HF3.out; rw [dsum_succ hxk]; omega)⟩,by simp [intOf]; omega⟩
        ·have hbd' : ¬ (z3 : Int) ≤ 2147483647:=by omega
         have hbq : decide ((z3 : Int) ≤ 2147483647) = false:=decide_eq_false hbd'
         clear hlt
         go_wp2_with fail
         go_loopw [3,7] (fun s i wr => ∃ k z : Nat,k ≤ m.en ∧ s = .int .i64 (z : Nat) ∧ i = .int .i64 k ∧ (∃ q,wr = W0.drewN q) ∧ z ≤ 1125899906842624 ∧ Hid (z3 + esum (m.exps.take k) ≤ z)) (fun _ i _ => m.en - (intOf i).toNat)
         case atStart => exact ⟨0,z3,by omega,rfl,rfl,⟨_,rfl⟩,by omega,hid (by simp [esum])⟩
         case round =>
          obtain ⟨k,z4,hk,rfl,rfl,⟨q4,rfl⟩,hz4,HF4⟩:=hrel
          by_cases hlt : k < m.en
          ·have hlt' : (k : Int) < (m.en : Int):=by omega
           by_cases hbd : z4 ≤ 2147483647
           ·obtain ⟨x,hxk⟩ : ∃ x,m.exps[k]? = some x:=⟨_,List.getElem?_eq_getElem (by rw [PE.out.1]; exact hlt)⟩
            obtain ⟨b,off,hfa,hat⟩:=PE.out.2.resolve_left (by omega)
            have hat:=hat k x hxk
            have hu:=UE.out k x hxk
            have hk0 : (0 : Int) ≤ (k : Int):=by omega
            have hbd' : (z4 : Int) ≤ 2147483647:=by omega
            have hbq : decide ((z4 : Int) ≤ 2147483647) = true:=decide_eq_true hbd'
            rw [hfa] at m7
            obtain ⟨g0,_⟩:=hat
            rw [hfa]
            go_wp2_with fail
            exact ⟨⟨k + 1,z4 + x.1.size,by omega,by go_num,by go_num,⟨_,rfl⟩,by omega,hid (by have:=HF4.out; rw [esum_succ hxk]; omega)⟩,by simp [intOf]; omega⟩
           ·have hbd' : ¬ (z4 : Int) ≤ 2147483647:=by omega
            have hbq : decide ((z4 : Int) ≤ 2147483647) = false:=decide_eq_false hbd'
            clear hlt
            go_wp2_with fail
            go_ret
            exact ⟨z4,rfl,BW.out.trans (BW2.out _),fun h4 => by have e0:=tsum_all (l:=m.types) PT.out.1; have e1:=fsumL_all (l:=m.fns) PF.out.1; have e2:=dsum_all (l:=m.data) PD.out.1; have e3:=esum_all (l:=m.exps) PE.out.1; have f1:=HF1.out; have f2:=HF2.out; have f3:=HF3.out; have f4:=HF4.out; omega⟩
          ·obtain rfl : k = m.en:=by omega
           clear hlt
           go_wp2_with fail
           go_ret
           exact ⟨z4,rfl,BW.out.trans (BW2.out _),fun h4 => by have e0:=tsum_all (l:=m.types) PT.out.1; have e1:=fsumL_all (l:=m.fns) PF.out.1; have e2:=dsum_all (l:=m.data) PD.out.1; have e3:=esum_all (l:=m.exps) PE.out.1; have f1:=HF1.out; have f2:=HF2.out; have f3:=HF3.out; have f4:=HF4.out; omega⟩
       ·obtain rfl : k = m.dn:=by omega
        clear hlt
        go_wp2_with fail
        go_loopw [3,7] (fun s i wr => ∃ k z : Nat,k ≤ m.en ∧ s = .int .i64 (z : Nat) ∧ i = .int .i64 k ∧ (∃ q,wr = W0.drewN q) ∧ z ≤ 1125899906842624 ∧ Hid (z3 + esum (m.exps.take k) ≤ z)) (fun _ i _ => m.en - (intOf i).toNat)
        case atStart => exact ⟨0,z3,by omega,rfl,rfl,⟨_,rfl⟩,by omega,hid (by simp [esum])⟩
        case round =>
         obtain ⟨k,z4,hk,rfl,rfl,⟨q4,rfl⟩,hz4,HF4⟩:=hrel
         by_cases hlt : k < m.en
         ·have hlt' : (k : Int) < (m.en : Int):=by omega
          by_cases hbd : z4 ≤ 2147483647
          ·obtain ⟨x,hxk⟩ : ∃ x,m.exps[k]? = some x:=⟨_,List.getElem?_eq_getElem (by rw [PE.out.1]; exact hlt)⟩
           obtain ⟨b,off,hfa,hat⟩:=PE.out.2.resolve_left (by omega)
           have hat:=hat k x hxk
           have hu:=UE.out k x hxk
           have hk0 : (0 : Int) ≤ (k : Int):=by omega
           have hbd' : (z4 : Int) ≤ 2147483647:=by omega
           have hbq : decide ((z4 : Int) ≤ 2147483647) = true:=decide_eq_true hbd'
           rw [hfa] at m7
           obtain ⟨g0,_⟩:=hat
           rw [hfa]
           go_wp2_with fail
           exact ⟨⟨k + 1,z4 + x.1.size,by omega,by go_num,by go_num,⟨_,rfl⟩,by omega,hid (by have:=HF4.out; rw [esum_succ hxk]; omega)⟩,by simp [intOf]; omega⟩
          ·have hbd' : ¬ (z4 : Int) ≤ 2147483647:=by omega
           have hbq : decide ((z4 : Int) ≤ 2147483647) = false:=decide_eq_false hbd'
           clear hlt
           go_wp2_with fail
           go_ret
           exact ⟨z4,rfl,BW.out.trans (BW2.out _),fun h4 => by have e0:=tsum_all (l:=m.types) PT.out.1; have e1:=fsumL_all (l:=m.fns) PF.out.1; have e2:=dsum_all (l:=m.data) PD.out.1; have e3:=esum_all (l:=m.exps) PE.out.1; have f1:=HF1.out; have f2:=HF2.out; have f3:=HF3.out; have f4:=HF4.out; omega⟩
         ·obtain rfl : k = m.en:=by omega
          clear hlt
          go_wp2_with fail
          go_ret
          exact ⟨z4,rfl,BW.out.trans (BW2.out _),fun h4 => by have e0:=tsum_all (l:=m.types) PT.out.1; have e1:=fsumL_all (l:=m.fns) PF.out.1; have e2:=dsum_all (l:=m.data) PD.out.1; have e3:=esum_all (l:=m.exps) PE.out.1; have f1:=HF1.out; have f2:=HF2.out; have f3:=HF3.out; have f4:=HF4.out; omega⟩
    ·obtain rfl : k = m.fn:=by omega
     clear hlt
     go_wp2_with fail
     go_loopw [3,6] (fun s i wr => ∃ k z : Nat,k ≤ m.dn ∧ s = .int .i64 (z : Nat) ∧ i = .int .i64 k ∧ (∃ q,wr = W0.drewN q) ∧ z ≤ 1125899906842624 ∧ Hid (z2 + dsum (m.data.take k) ≤ z)) (fun _ i _ => m.dn - (intOf i).toNat)
     case atStart => exact ⟨0,z2,by omega,rfl,rfl,⟨_,rfl⟩,by omega,hid (by simp [dsum])⟩
     case round =>
      obtain ⟨k,z3,hk,rfl,rfl,⟨q3,rfl⟩,hz3,HF3⟩:=hrel
      by_cases hlt : k < m.dn
      ·have hlt' : (k : Int) < (m.dn : Int):=by omega
       by_cases hbd : z3 ≤ 2147483647
       ·obtain ⟨x,hxk⟩ : ∃ x,m.data[k]? = some x:=⟨_,List.getElem?_eq_getElem (by rw [PD.out.1]; exact hlt)⟩
        obtain ⟨b,off,hfa,hat⟩:=PD.out.2.resolve_left (by omega)
        have hat:=hat k x hxk
        have hu:=UD.out k x hxk
        have hk0 : (0 : Int) ≤ (k : Int):=by omega
        have hbd' : (z3 : Int) ≤ 2147483647:=by omega
        have hbq : decide ((z3 : Int) ≤ 2147483647) = true:=decide_eq_true hbd'
        rw [hfa] at m6
        obtain ⟨_,g1⟩:=hat
        rw [hfa]
        go_wp2_with fail
        exact ⟨⟨k + 1,z3 + x.2.1.2.1,by omega,by go_num,by go_num,⟨_,rfl⟩,by omega,hid (by have:=HF3.out; rw [dsum_succ hxk]; omega)⟩,by simp [intOf]; omega⟩
       ·have hbd' : ¬ (z3 : Int) ≤ 2147483647:=by omega
        have hbq : decide ((z3 : Int) ≤ 2147483647) = false:=decide_eq_false hbd'
        clear hlt
        go_wp2_with fail
        go_loopw [3,7] (fun s i wr => ∃ k z : Nat,k ≤ m.en ∧ s = .int .i64 (z : Nat) ∧ i = .int .i64 k ∧ (∃ q,wr = W0.drewN q) ∧ z ≤ 1125899906842624 ∧ Hid (z3 + esum (m.exps.take k) ≤ z)) (fun _ i _ => m.en - (intOf i).toNat)
        case atStart => exact ⟨0,z3,by omega,rfl,rfl,⟨_,rfl⟩,by omega,hid (by simp [esum])⟩
        case round =>
         obtain ⟨k,z4,hk,rfl,rfl,⟨q4,rfl⟩,hz4,HF4⟩:=hrel
         by_cases hlt : k < m.en
         ·have hlt' : (k : Int) < (m.en : Int):=by omega
          by_cases hbd : z4 ≤ 2147483647
          ·obtain ⟨x,hxk⟩ : ∃ x,m.exps[k]? = some x:=⟨_,List.getElem?_eq_getElem (by rw [PE.out.1]; exact hlt)⟩
           obtain ⟨b,off,hfa,hat⟩:=PE.out.2.resolve_left (by omega)
           have hat:=hat k x hxk
           have hu:=UE.out k x hxk
           have hk0 : (0 : Int) ≤ (k : Int):=by omega
           have hbd' : (z4 : Int) ≤ 2147483647:=by omega
           have hbq : decide ((z4 : Int) ≤ 2147483647) = true:=decide_eq_true hbd'
           rw [hfa] at m7
           obtain ⟨g0,_⟩:=hat
           rw [hfa]
           go_wp2_with fail
           exact ⟨⟨k + 1,z4 + x.1.size,by omega,by go_num,by go_num,⟨_,rfl⟩,by omega,hid (by have:=HF4.out; rw [esum_succ hxk]; omega)⟩,by simp [intOf]; omega⟩
          ·have hbd' : ¬ (z4 : Int) ≤ 2147483647:=by omega
           have hbq : decide ((z4 : Int) ≤ 2147483647) = false:=decide_eq_false hbd'
           clear hlt
           go_wp2_with fail
           go_ret
           exact ⟨z4,rfl,BW.out.trans (BW2.out _),fun h4 => by have e0:=tsum_all (l:=m.types) PT.out.1; have e1:=fsumL_all (l:=m.fns) PF.out.1; have e2:=dsum_all (l:=m.data) PD.out.1; have e3:=esum_all (l:=m.exps) PE.out.1; have f1:=HF1.out; have f2:=HF2.out; have f3:=HF3.out; have f4:=HF4.out; omega⟩
         ·obtain rfl : k = m.en:=by omega
          clear hlt
          go_wp2_with fail
          go_ret
          exact ⟨z4,rfl,BW.out.trans (BW2.out _),fun h4 => by have e0:=tsum_all (l:=m.types) PT.out.1; have e1:=fsumL_all (l:=m.fns) PF.out.1; have e2:=dsum_all (l:=m.data) PD.out.1; have e3:=esum_all (l:=m.exps) PE.out.1; have f1:=HF1.out; have f2:=HF2.out; have f3:=HF3.out; have f4:=HF4.out; omega⟩
      ·obtain rfl : k = m.dn:=by omega
       clear hlt
       go_wp2_with fail
       go_loopw [3,7] (fun s i wr => ∃ k z : Nat,k ≤ m.en ∧ s = .int .i64 (z : Nat) ∧ i = .int .i64 k ∧ (∃ q,wr = W0.drewN q) ∧ z ≤ 1125899906842624 ∧ Hid (z3 + esum (m.exps.take k) ≤ z)) (fun _ i _ => m.en - (intOf i).toNat)
       case atStart => exact ⟨0,z3,by omega,rfl,rfl,⟨_,rfl⟩,by omega,hid (by simp [esum])⟩
       case round =>
        obtain ⟨k,z4,hk,rfl,rfl,⟨q4,rfl⟩,hz4,HF4⟩:=hrel
        by_cases hlt : k < m.en
        ·have hlt' : (k : Int) < (m.en : Int):=by omega
         by_cases hbd : z4 ≤ 2147483647
         ·obtain ⟨x,hxk⟩ : ∃ x,m.exps[k]? = some x:=⟨_,List.getElem?_eq_getElem (by rw [PE.out.1]; exact hlt)⟩
          obtain ⟨b,off,hfa,hat⟩:=PE.out.2.resolve_left (by omega)
          have hat:=hat k x hxk
          have hu:=UE.out k x hxk
          have hk0 : (0 : Int) ≤ (k : Int):=by omega
          have hbd' : (z4 : Int) ≤ 2147483647:=by omega
          have hbq : decide ((z4 : Int) ≤ 2147483647) = true:=decide_eq_true hbd'
          rw [hfa] at m7
          obtain ⟨g0,_⟩:=hat
          rw [hfa]
          go_wp2_with fail
          exact ⟨⟨k + 1,z4 + x.1.size,by omega,by go_num,by go_num,⟨_,rfl⟩,by omega,hid (by have:=HF4.out; rw [esum_succ hxk]; omega)⟩,by simp [intOf]; omega⟩
         ·have hbd' : ¬ (z4 : Int) ≤ 2147483647:=by omega
          have hbq : decide ((z4 : Int) ≤ 2147483647) = false:=decide_eq_false hbd'
          clear hlt
          go_wp2_with fail
          go_ret
          exact ⟨z4,rfl,BW.out.trans (BW2.out _),fun h4 => by have e0:=tsum_all (l:=m.types) PT.out.1; have e1:=fsumL_all (l:=m.fns) PF.out.1; have e2:=dsum_all (l:=m.data) PD.out.1; have e3:=esum_all (l:=m.exps) PE.out.1; have f1:=HF1.out; have f2:=HF2.out; have f3:=HF3.out; have f4:=HF4.out; omega⟩
        ·obtain rfl : k = m.en:=by omega
         clear hlt
         go_wp2_with fail
         go_ret
         exact ⟨z4,rfl,BW.out.trans (BW2.out _),fun h4 => by have e0:=tsum_all (l:=m.types) PT.out.1; have e1:=fsumL_all (l:=m.fns) PF.out.1; have e2:=dsum_all (l:=m.data) PD.out.1; have e3:=esum_all (l:=m.exps) PE.out.1; have f1:=HF1.out; have f2:=HF2.out; have f3:=HF3.out; have f4:=HF4.out; omega⟩
end Go.Proofs.YtepcmfegggdjfaaGreatDoor

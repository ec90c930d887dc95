/-
  Texts Ph Pi.
-/
import Derived.Deep.AppendLies
import Derived.Deep.RegionHeld3
import Derived.Test.YtheefojaplnnoaaGreatDoorC00
import Derived.Test.YtheefojaplnnoaaGreatDoorC19
set_option linter.unusedVariables false
set_option maxRecDepth 100000
set_option maxHeartbeats 16000000
namespace Go.Proofs.YtheefojaplnnoaaGreatDoor
open Go.RowKit
theorem tkQ {P : Program} {ops : Array Oper} {Q : Exit → Act → World → Prop} {md : Region.Mode} {S : World → Prop} {i : Nat} {oi : Oper} {v : Value} {fuel : Nat} {listed : Array Bool} {a : Act} {w : World} (hi : ops[i]? = some oi) (h : wpAnyH P md ops Q S fuel (listed.setIfInBounds i true) (a.put oi.dst v) w) (hv : ∀ w,S w → (execOp a.eval oi).run P w = .ok (.value v) w:=by (intro w h; (try dsimp only at h); go_simp; try with_reducible rfl))
  (hc : (Region.noSelect ops && Region.free md ops listed i && (Region.ready md ops listed).contains i) = true:=by kernel_rfl) (hw : Region.wanted oi (yielded ops a.tmps) = true:=by rfl) (hQ : ∀ c a w,Q (.panic c) (a.put oi.dst v) w → Q (.panic c) a w:=by exact fun _ _ _ h => h) (hS : S w:=by assumption) : wpAnyH P md ops Q S (fuel + 1) listed a w:=by
 simp only [Bool.and_eq_true] at hc
 exact tZ
theorem rcQ {P : Program} {ops : Array Oper} {Q : Exit → Act → World → Prop} {md : Region.Mode} {S : World → Prop} {i : Nat} {o : Oper} {fuel : Nat} {listed : Array Bool} {a : Act} {w : World} {rs : List Nat} (ho : ops[i]? = some o) (h : ∀ K : Act → World → Prop,Shut (∀ a w,S w → (S w → wpAnyH P md ops Q S fuel (listed.setIfInBounds i true) a w) → K a w) → Oper.wp P o a w K Q) (hs : AllReadyH P md ops Q S fuel listed a w rs) (hw : Region.wanted o (yielded ops a.tmps) = true:=by rfl) : AllReadyH P md ops Q S fuel listed a w (i :: rs):=AllReadyH.cons ho (fun K hK => by rw [if_pos hw]; exact h K hK) hs
theorem ryQ {P : Program} {ops : Array Oper} {Q : Exit → Act → World → Prop} {md : Region.Mode} {S : World → Prop} {rs : List Nat} {fuel : Nat} {listed : Array Bool} {a : Act} {w : World} (h : AllReadyH P md ops Q S fuel listed a w rs) (hr : Region.ready md ops listed = rs:=by kernel_rfl) (hne : rs ≠ []:=by simp) : wpAnyH P md ops Q S (fuel + 1) listed a w:=wpAnyH_ready hr hne h
def psz (M : PM) : Nat:=M.types.length + M.hosts.length + M.globals.length + M.fns.length + (M.fns.map fun f => f.2.2.length).sum + M.data.length + M.exps.length
theorem dL {w : World} {base e k n : Nat} {v : Value} {α : Type} {g : α → List Value} {l : List α} (hk : ∀ x,(g x).length = k) (hp : 0 < k) (h : w.ownsRow base e k v n (l.flatMap g)) : l.length = n:=by
 have:=h.1
 rw [lV g k hk] at this;exact Nat.eq_of_mul_eq_mul_right hp this
theorem D4 : (Tryz.prog.info? 3).map (fun i => (i.zero,i.size,i.bytes)) = some (some (.int .i64 0),1,8):=ai
theorem IQ {B base R A n c : Nat} {mp : Value} {m : MM} {ln pt : Int} {w : World} {ws : List ByteArray} (h : RQ base R mp m ln pt w) (hw : Wds w A n c ws) (hA : base ≤ A) (hE : bY B w) (hBR : B ≤ R) (hps : psz (pl m) ≤ 2097152) (h1 : 1 ≤ pt ∧ pt ≤ 3) (h2 : n = 2) {v : Int} (h3 : nmV (wdx ws 1) = some v) :
  Calls Tryz.prog 110 #[.pointer (some ⟨R,0,none⟩),.slice (some ⟨A,0,none⟩) n c] w (LnP base R mp ln w (fL pt (pl m) ws)):=by
 obtain ⟨i0,hi,hz0,hz1,hz2⟩:=info_parts D4;obtain ⟨x,hx⟩ : ∃ x,ws[1]? = some x:=⟨_,aD aU⟩;have ex : wdx ws 1 = x:=bK
 have e : fL pt (pl m) ws = some (3,{ pl m with hosts:=(pl m).hosts ++ [v] }):=BS
 rw [e];rw [ex] at h3;subst h2
 have hn : m.hn ≤ 2097152:=by
  exact IU
 have HO:=hid (br h 1 3 h1.1 h1.2);have q1:=h.part 3 h1.2;have d1:=hw.setR (o:=10) (u:=.int .i64 3) hA h.low;have k1:=KR.set base R 10 w (.int .i64 3);have e1:=hE.later (k1.below hBR bu hE.bw);have HM:=hid (aB R (w.setCell ⟨R,10,none⟩ (.int .i64 3)));generalize w.setCell ⟨R,10,none⟩ (.int .i64 3) = w1 at *;have Q1:=hid q1;have D1:=hid d1;have HX:=hid hx;have HK1:=hid k1;have hxs:=hw.sz x (List.mem_of_getElem? hx)
 have HI:=hid (fun (W : World) (hW : Below w1.heap.size w1 W) => fZ B R x v W (e1.tens.later (hW.mono e1.bw)) (Nat.le_trans e1.bw hW.size) ae h3)
 have B1:=hid ((Below.refl w1.heap.size w1).drew);clear h hw hE hps h1 h3 q1 d1 k1 e1 e ex hx
 go_enter Tryz.func110,Tryz.ntmps110
 go_wp2_with fail;refine HO.out.mono ?_;rintro e w1' ⟨rfl,hw1⟩;have hw2:=hw1.symm;subst hw2;go_wp2_with fail;refine HM.out.mono ?_;rintro e w1'' ⟨rfl,hw1⟩;have hw2:=hw1.symm;subst hw2;go_wp2_with fail
 refine wp_region_held_drew (S:=fun _ => True) ai trivial (fun _ => ?_)
 refine tkQ (i:=0) rfl ?_;(try simp only [Act.put,sIB]);refine tkQ (i:=1) rfl ?_;(try simp only [Act.put]);refine tkQ (i:=6) rfl ?_;(try simp only [Act.put]);refine tkQ (i:=7) rfl ?_;(try simp only [Act.put]);refine tkQ (i:=2) rfl ?_;(try simp only [Act.put]);refine tkQ (i:=8) rfl ?_;(try simp only [Act.put]);refine tkQ (i:=3) rfl ?_;(try simp only [Act.put]);refine tkQ (i:=4) rfl ?_;(try simp only [Act.put]);refine ryQ (rs:=[5,9]) ?_
 refine rcQ (i:=5) rfl (fun K hK => ?_) (rcQ (i:=9) rfl (fun K hK => ?_) rN)
 ·have c5 : w1.drew.cell? ⟨R,2,none⟩ = some (.slice m.ha m.hn m.hc):=(Q1.out.later B1.out).cells 2;go_simp
  refine hK.out _ _ trivial (fun _ => ?_)
  clear hK K;refine ryQ (rs:=[9]) ?_
  refine rcQ (i:=9) rfl (fun K hK => ?_) rN
  have c9 : w1.drew.cell? ⟨A,1,none⟩ = some (.string x):=tE;exact E9
 ·have c9 : w1.drew.cell? ⟨A,1,none⟩ = some (.string x):=tE;go_simp
  refine hK.out _ _ trivial (fun _ => ?_)
  clear hK K;refine ryQ (rs:=[5,10]) ?_
  refine rcQ (i:=5) rfl (fun K hK => ?_) (rcQ (i:=10) rfl (fun K hK => ?_) rN)
  ·have c5 : w1.drew.cell? ⟨R,2,none⟩ = some (.slice m.ha m.hn m.hc):=(Q1.out.later B1.out).cells 2;exact E9
  ·go_simp;refine (HI.out _ B1.out).mono ?_;rintro e w5 ⟨rfl,hb5⟩;have B5:=hid (B1.out.trans (hb5.mono B1.out.size));clear hb5
   refine hK.out _ _ trivial (fun _ => ?_)
   clear hK K;refine ryQ (rs:=[5,11]) ?_
   refine rcQ (i:=5) rfl (fun K hK => ?_) (rcQ (i:=11) rfl (fun K hK => ?_) rN)
   ·have c5 : w5.cell? ⟨R,2,none⟩ = some (.slice m.ha m.hn m.hc):=(Q1.out.later B5.out).cells 2;go_simp
    refine hK.out _ _ trivial (fun _ => ?_)
    clear hK K;refine ryQ (rs:=[11]) ?_
    refine rcQ (i:=11) rfl (fun K hK => ?_) rN
    go_simp;have BN:=hid (B5.out.trans ((ag w5 (bz v)).mono B5.out.size));exact Iq
   ·go_simp;have BN:=hid (B5.out.trans ((ag w5 (bz v)).mono B5.out.size))
    refine hK.out _ _ trivial (fun _ => ?_)
    clear hK K;refine ryQ (rs:=[5]) ?_
    refine rcQ (i:=5) rfl (fun K hK => ?_) rN
    have c5 : (w5.alloc (bz v)).cell? ⟨R,2,none⟩ = some (.slice m.ha m.hn m.hc):=(Q1.out.later BN.out).cells 2;go_simp;exact Iq
theorem Ja {B base R A n c : Nat} {mp : Value} {m : MM} {ln pt : Int} {w : World} {ws : List ByteArray} (h : RQ base R mp m ln pt w) (hw : Wds w A n c ws) (hA : base ≤ A) (hE : bY B w) (hBR : B ≤ R) (hps : psz (pl m) ≤ 2097152) (h1 : 1 ≤ pt ∧ pt ≤ 3) (h2 : n = 2) (h3 : nmV (wdx ws 1) = none) :
  Calls Tryz.prog 110 #[.pointer (some ⟨R,0,none⟩),.slice (some ⟨A,0,none⟩) n c] w (LnP base R mp ln w (fL pt (pl m) ws)):=by
 obtain ⟨i0,hi,hz0,hz1,hz2⟩:=info_parts D4;obtain ⟨x,hx⟩ : ∃ x,ws[1]? = some x:=⟨_,aD aU⟩;have ex : wdx ws 1 = x:=bK;have e : fL pt (pl m) ws = none:=BS;rw [e];rw [ex] at h3;subst h2
 have hn : m.hn ≤ 2097152:=by
  exact IU
 have HO:=hid (br h 1 3 h1.1 h1.2);have q1:=h.part 3 h1.2;have d1:=hw.setR (o:=10) (u:=.int .i64 3) hA h.low;have k1:=KR.set base R 10 w (.int .i64 3);have e1:=hE.later (k1.below hBR bu hE.bw);have HM:=hid (aB R (w.setCell ⟨R,10,none⟩ (.int .i64 3)));generalize w.setCell ⟨R,10,none⟩ (.int .i64 3) = w1 at *;have Q1:=hid q1;have D1:=hid d1;have HX:=hid hx;have HK1:=hid k1;have hxs:=hw.sz x (List.mem_of_getElem? hx)
 have HI:=hid (fun (W : World) (hW : Below w1.heap.size w1 W) => lO B R x ln W (e1.tens.later (hW.mono e1.bw)) (e1.errs.later (hW.mono e1.bw)) (Nat.le_trans e1.bw hW.size) ae ((q1.later hW).cells 9) h3)
 have B1:=hid ((Below.refl w1.heap.size w1).drew);clear h hw hE hps h1 h3 q1 d1 k1 e1 e ex hx
 go_enter Tryz.func110,Tryz.ntmps110
 go_wp2_with fail;refine HO.out.mono ?_;rintro e w1' ⟨rfl,hw1⟩;have hw2:=hw1.symm;subst hw2;go_wp2_with fail;refine HM.out.mono ?_;rintro e w1'' ⟨rfl,hw1⟩;have hw2:=hw1.symm;subst hw2;go_wp2_with fail
 refine wp_region_held_drew (S:=fun _ => True) ai trivial (fun _ => ?_)
 refine tkQ (i:=0) rfl ?_;(try simp only [Act.put,sIB]);refine tkQ (i:=1) rfl ?_;(try simp only [Act.put]);refine tkQ (i:=6) rfl ?_;(try simp only [Act.put]);refine tkQ (i:=7) rfl ?_;(try simp only [Act.put]);refine tkQ (i:=2) rfl ?_;(try simp only [Act.put]);refine tkQ (i:=8) rfl ?_;(try simp only [Act.put]);refine tkQ (i:=3) rfl ?_;(try simp only [Act.put]);refine tkQ (i:=4) rfl ?_;(try simp only [Act.put]);refine ryQ (rs:=[5,9]) ?_
 refine rcQ (i:=5) rfl (fun K hK => ?_) (rcQ (i:=9) rfl (fun K hK => ?_) rN)
 ·have c5 : w1.drew.cell? ⟨R,2,none⟩ = some (.slice m.ha m.hn m.hc):=(Q1.out.later B1.out).cells 2;go_simp
  refine hK.out _ _ trivial (fun _ => ?_)
  clear hK K;refine ryQ (rs:=[9]) ?_
  refine rcQ (i:=9) rfl (fun K hK => ?_) rN
  have c9 : w1.drew.cell? ⟨A,1,none⟩ = some (.string x):=tE;exact FK
 ·have c9 : w1.drew.cell? ⟨A,1,none⟩ = some (.string x):=tE;go_simp
  refine hK.out _ _ trivial (fun _ => ?_)
  clear hK K;refine ryQ (rs:=[5,10]) ?_
  refine rcQ (i:=5) rfl (fun K hK => ?_) (rcQ (i:=10) rfl (fun K hK => ?_) rN)
  ·have c5 : w1.drew.cell? ⟨R,2,none⟩ = some (.slice m.ha m.hn m.hc):=(Q1.out.later B1.out).cells 2;exact FK
  ·go_simp;refine (HI.out _ B1.out).mono ?_;rintro e w5 ⟨rfl,hb5⟩;exact ⟨rfl,HK1.out.trans (KR.later (B1.out.trans (hb5.mono B1.out.size))),rfl⟩
theorem JF {base R A n c : Nat} {mp : Value} {m : MM} {ln pt : Int} {w : World} {ws : List ByteArray} (h : RQ base R mp m ln pt w) (h1 : ¬ (1 ≤ pt ∧ pt ≤ 2)) :
  Calls Tryz.prog 109 #[.pointer (some ⟨R,0,none⟩),.slice (some ⟨A,0,none⟩) n c] w (LnP base R mp ln w (fM pt (pl m) ws)):=by
 have e : fM pt (pl m) ws = none:=by unfold fM; rw [if_neg (fun x => h1 x.1)]
 rw [e];have HO:=hid (kX h 1 2 h1);clear h
 go_enter Tryz.func109,Tryz.ntmps109
 exact gN
theorem Li {base R A n c : Nat} {mp : Value} {m : MM} {ln pt : Int} {w : World} {ws : List ByteArray} (h : RQ base R mp m ln pt w) (h1 : ¬ (1 ≤ pt ∧ pt ≤ 3)) :
  Calls Tryz.prog 110 #[.pointer (some ⟨R,0,none⟩),.slice (some ⟨A,0,none⟩) n c] w (LnP base R mp ln w (fL pt (pl m) ws)):=by
 have e : fL pt (pl m) ws = none:=by unfold fL; rw [if_neg (fun x => h1 x.1)]
 rw [e];have HO:=hid (kX h 1 3 h1);clear h
 go_enter Tryz.func110,Tryz.ntmps110
 exact gN
theorem JI {base R A n c : Nat} {mp : Value} {m : MM} {ln pt : Int} {w : World} {ws : List ByteArray} (h : RQ base R mp m ln pt w) (hw : Wds w A n c ws) (h1 : 1 ≤ pt ∧ pt ≤ 3) (h2 : n ≠ 2) :
  Calls Tryz.prog 110 #[.pointer (some ⟨R,0,none⟩),.slice (some ⟨A,0,none⟩) n c] w (LnP base R mp ln w (fL pt (pl m) ws)):=by
 have e : fL pt (pl m) ws = none:=by unfold fL; rw [if_neg (fun x => h2 px)]
 rw [e];have HO:=hid (br h 1 3 h1.1 h1.2);have HR:=hid (h.part 3 ae);have HM:=hid (fq HR.out);have hne : ((n : Int) == 2) = false:=aL;clear h hw
 go_enter Tryz.func110,Tryz.ntmps110
 exact lu
theorem Ke {base R A n c : Nat} {mp : Value} {m : MM} {ln pt : Int} {w : World} {ws : List ByteArray} (h : RQ base R mp m ln pt w) (h1 : ¬ (1 ≤ pt ∧ pt ≤ 4)) :
  Calls Tryz.prog 111 #[.pointer (some ⟨R,0,none⟩),.slice (some ⟨A,0,none⟩) n c] w (LnP base R mp ln w (bF pt (pl m) ws)):=by
 have e : bF pt (pl m) ws = none:=by unfold bF; rw [if_neg (fun x => h1 x.1)]
 rw [e];have HO:=hid (kX h 1 4 h1);clear h
 go_enter Tryz.func111,Tryz.ntmps111
 exact gN
theorem JM {base R A n c : Nat} {mp : Value} {m : MM} {ln pt : Int} {w : World} {ws : List ByteArray} (h : RQ base R mp m ln pt w) (hw : Wds w A n c ws) (h1 : 1 ≤ pt ∧ pt ≤ 4) (h2 : n ≠ 4) :
  Calls Tryz.prog 111 #[.pointer (some ⟨R,0,none⟩),.slice (some ⟨A,0,none⟩) n c] w (LnP base R mp ln w (bF pt (pl m) ws)):=by
 have e : bF pt (pl m) ws = none:=by unfold bF; rw [if_neg (fun x => h2 (by rw [← hw.len]; exact x.2.1))]
 rw [e];have HO:=hid (br h 1 4 h1.1 h1.2);have HR:=hid (h.part 4 ae);have HM:=hid (fq HR.out);have hne : ((n : Int) == 4) = false:=aL;clear h hw
 go_enter Tryz.func111,Tryz.ntmps111
 exact lu
theorem JO {base R A n c : Nat} {mp : Value} {m : MM} {ln pt : Int} {w : World} {ws : List ByteArray} (h : RQ base R mp m ln pt w) (h1 : ¬ (1 ≤ pt ∧ pt < 5)) :
  Calls Tryz.prog 112 #[.pointer (some ⟨R,0,none⟩),.slice (some ⟨A,0,none⟩) n c] w (LnP base R mp ln w (iL pt (pl m) ws)):=by
 have e : iL pt (pl m) ws = none:=by unfold iL; rw [if_neg (fun x => h1 x.1)]
 rw [e];have HO:=hid (I5 h 1 5 h1);clear h
 go_enter Tryz.func112,Tryz.ntmps112
 exact gN
theorem Le {base R A n c : Nat} {mp : Value} {m : MM} {ln pt : Int} {w : World} {ws : List ByteArray} (h : RQ base R mp m ln pt w) (hw : Wds w A n c ws) (h1 : 1 ≤ pt ∧ pt < 5) (h2 : n ≠ 3) :
  Calls Tryz.prog 112 #[.pointer (some ⟨R,0,none⟩),.slice (some ⟨A,0,none⟩) n c] w (LnP base R mp ln w (iL pt (pl m) ws)):=by
 have e : iL pt (pl m) ws = none:=by unfold iL; rw [if_neg (fun x => h2 px)]
 rw [e];have HO:=hid (pW h 1 5 h1.1 h1.2);have HR:=hid (h.part 5 ae);have HM:=hid (fq HR.out);have hne : ((n : Int) == 3) = false:=aL;clear h hw
 go_enter Tryz.func112,Tryz.ntmps112
 exact lu
theorem K9 {base R A n c : Nat} {mp : Value} {m : MM} {ln pt : Int} {w : World} {ws : List ByteArray} (h : RQ base R mp m ln pt w) (h1 : ¬ (5 ≤ pt ∧ pt ≤ 6)) :
  Calls Tryz.prog 113 #[.pointer (some ⟨R,0,none⟩),.slice (some ⟨A,0,none⟩) n c] w (LnP base R mp ln w (iq pt (pl m) ws)):=by
 have e : iq pt (pl m) ws = none:=by unfold iq; rw [if_neg (fun x => h1 x.1)]
 rw [e];have HO:=hid (kX h 5 6 h1);clear h
 go_enter Tryz.func113,Tryz.ntmps113
 exact gN
theorem JX {base R A n c : Nat} {mp : Value} {m : MM} {ln pt : Int} {w : World} {ws : List ByteArray} (h : RQ base R mp m ln pt w) (hw : Wds w A n c ws) (h1 : 5 ≤ pt ∧ pt ≤ 6) (h2 : n ≠ 3) :
  Calls Tryz.prog 113 #[.pointer (some ⟨R,0,none⟩),.slice (some ⟨A,0,none⟩) n c] w (LnP base R mp ln w (iq pt (pl m) ws)):=by
 have e : iq pt (pl m) ws = none:=by unfold iq; rw [if_neg (fun x => h2 px)]
 rw [e];have HO:=hid (br h 5 6 h1.1 h1.2);have HR:=hid (h.part 6 ae);have HM:=hid (fq HR.out);have hne : ((n : Int) == 3) = false:=aL;clear h hw
 go_enter Tryz.func113,Tryz.ntmps113
 exact lu
theorem Ku {base R A n c : Nat} {mp : Value} {m : MM} {ln pt : Int} {w : World} {ws : List ByteArray} (h : RQ base R mp m ln pt w) (h1 : ¬ (5 ≤ pt ∧ pt ≤ 7)) :
  Calls Tryz.prog 114 #[.pointer (some ⟨R,0,none⟩),.slice (some ⟨A,0,none⟩) n c] w (LnP base R mp ln w (iF pt (pl m) ws)):=by
 have e : iF pt (pl m) ws = none:=by unfold iF; rw [if_neg (fun x => h1 x.1)]
 rw [e];have HO:=hid (kX h 5 7 h1);clear h
 go_enter Tryz.func114,Tryz.ntmps114
 exact gN
theorem Kw {base R A n c : Nat} {mp : Value} {m : MM} {ln pt : Int} {w : World} {ws : List ByteArray} (h : RQ base R mp m ln pt w) (hw : Wds w A n c ws) (h1 : 5 ≤ pt ∧ pt ≤ 7) (h2 : n ≠ 3) :
  Calls Tryz.prog 114 #[.pointer (some ⟨R,0,none⟩),.slice (some ⟨A,0,none⟩) n c] w (LnP base R mp ln w (iF pt (pl m) ws)):=by
 have e : iF pt (pl m) ws = none:=by unfold iF; rw [if_neg (fun x => h2 px)]
 rw [e];have HO:=hid (br h 5 7 h1.1 h1.2);have HR:=hid (h.part 7 ae);have HM:=hid (fq HR.out);have hne : ((n : Int) == 3) = false:=aL;clear h hw
 go_enter Tryz.func114,Tryz.ntmps114
 exact lu
theorem KA {base R A n c : Nat} {mp : Value} {m : MM} {ln pt : Int} {w : World} {ws : List ByteArray} (h : RQ base R mp m ln pt w) (h1 : ¬ (5 ≤ pt ∧ pt ≤ 8)) :
  Calls Tryz.prog 115 #[.pointer (some ⟨R,0,none⟩),.slice (some ⟨A,0,none⟩) n c] w (LnP base R mp ln w (jH pt (pl m) ws)):=by
 have e : jH pt (pl m) ws = none:=by unfold jH; rw [if_neg (fun x => h1 x.1)]
 rw [e];have HO:=hid (kX h 5 8 h1);clear h
 go_enter Tryz.func115,Tryz.ntmps115
 exact gN
theorem JH {base R A n c : Nat} {mp : Value} {m : MM} {ln pt : Int} {w : World} {ws : List ByteArray} (h : RQ base R mp m ln pt w) (hw : Wds w A n c ws) (h1 : 5 ≤ pt ∧ pt ≤ 8) (h2 : n ≠ 3) :
  Calls Tryz.prog 115 #[.pointer (some ⟨R,0,none⟩),.slice (some ⟨A,0,none⟩) n c] w (LnP base R mp ln w (jH pt (pl m) ws)):=by
 have e : jH pt (pl m) ws = none:=by unfold jH; rw [if_neg (fun x => h2 px)]
 rw [e];have HO:=hid (br h 5 8 h1.1 h1.2);have HR:=hid (h.part 8 ae);have HM:=hid (fq HR.out);have hne : ((n : Int) == 3) = false:=aL;clear h hw
 go_enter Tryz.func115,Tryz.ntmps115
 exact lu
theorem KU {base R A n c : Nat} {mp : Value} {m : MM} {ln pt : Int} {w : World} {ws : List ByteArray} (h : RQ base R mp m ln pt w) (h1 : ¬ (6 ≤ pt ∧ pt ≤ 6)) :
  Calls Tryz.prog 119 #[.pointer (some ⟨R,0,none⟩),.slice (some ⟨A,0,none⟩) n c] w (LnP base R mp ln w (cj pt (pl m) ws)):=by
 have e : cj pt (pl m) ws = none:=by unfold cj; rw [if_neg (fun x => h1 x.1)]
 rw [e];have HO:=hid (kX h 6 6 h1);clear h
 go_enter Tryz.func119,Tryz.ntmps119
 exact gN
theorem KQ {B base R A n c : Nat} {mp : Value} {m : MM} {ln pt : Int} {w : World} {ws : List ByteArray} (h : RQ base R mp m ln pt w) (hw : Wds w A n c ws) (hA : base ≤ A) (hE : bY B w) (hBR : B ≤ R) (hps : psz (pl m) ≤ 2097152) :
  Calls Tryz.prog 110 #[.pointer (some ⟨R,0,none⟩),.slice (some ⟨A,0,none⟩) n c] w (LnP base R mp ln w (fL pt (pl m) ws)):=by
 by_cases h1 : 1 ≤ pt ∧ pt ≤ 3
 ·by_cases h2 : n = 2
  ·rcases h3 : nmV (wdx ws 1) with _ | v
   ·exact Ja h hw hA hE hBR hps h1 h2 h3
   ·exact IQ h hw hA hE hBR hps h1 h2 h3
  ·exact JI h hw h1 h2
 ·exact Li h h1
end Go.Proofs.YtheefojaplnnoaaGreatDoor

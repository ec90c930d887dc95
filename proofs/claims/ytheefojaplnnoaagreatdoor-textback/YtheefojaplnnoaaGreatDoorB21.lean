/-
  Texts Pj Pk.
-/
import Derived.Test.YtheefojaplnnoaaGreatDoorB00
import Derived.Test.YtheefojaplnnoaaGreatDoorB20
set_option linter.unusedVariables false
set_option maxRecDepth 100000
set_option maxHeartbeats 16000000
namespace Go.Proofs.YtheefojaplnnoaaGreatDoor
open Go.RowKit
theorem EI : (Tryz.prog.info? 73).map (fun i => (i.zero,i.size,i.bytes)) = some (some (.agg #[.string ⟨#[]⟩,.string ⟨#[]⟩]),2,32):=ai
theorem uC {α : Type} {l : List α} {j : Nat} : l.tail[j]? = l[j + 1]?:=by cases l <;> simp
theorem G0 {B base R A n c : Nat} {mp : Value} {m : MM} {ln pt : Int} {w : World} {ws : List ByteArray} (h : RQ base R mp m ln pt w) (hw : Wds w A n c ws) (hA : base ≤ A) (hE : bT B w) (hBR : B ≤ R) (hps : psz (pl m) ≤ 2097152) (hc : c = n) (hn0 : 2 ≤ n) (hj : (cS ws.tail).size ≤ 8388608) (h1 : 1 ≤ pt ∧ pt ≤ 2) (h3 : rdE (cS ws.tail) = 0) :
  Calls Tryz.prog 109 #[.pointer (some ⟨R,0,none⟩),.slice (some ⟨A,0,none⟩) n c] w (LnP base R mp ln w (fO pt (pl m) ws)):=by
 have hc':=hc.symm;subst hc';obtain ⟨i0,hi,hz0,hz1,hz2⟩:=info_parts EI
 have e : fO pt (pl m) ws = some (2,{ pl m with types:=(pl m).types ++ [(rdP (cS ws.tail),rdR (cS ws.tail))] }):=by unfold fO; rw [if_pos ⟨h1,h3⟩]
 rw [e]
 have hn : m.tn ≤ 2097152:=by
  exact vK
 have HO:=hid (bq h 1 2 h1.1 h1.2);have q1:=h.part 2 h1.2;have d1:=hw.setR (o:=10) (u:=.int .i64 2) hA h.low;have k1:=KR.set base R 10 w (.int .i64 2);have e1:=hE.later (k1.below hBR bX hE.bw);generalize w.setCell ⟨R,10,none⟩ (.int .i64 2) = w0 at *;have hlen : ws.tail.length = n - 1:=py
 have HJ:=hid (Tryz.strings_Join A 1 (n - 1) ws.tail ⟨#[32]⟩ w0 (fun j x hx => C3) d1.lt ni (by have:=hw.cap; omega) qN)
 rw [hlen] at HJ
 have ej : (⟨(Lib.join (ws.tail.map (·.data.toList)) (⟨#[32]⟩ : ByteArray).data.toList).toArray⟩ : ByteArray) = cS ws.tail:=rfl
 rw [ej] at HJ
 have HS:=hid (fun (W : World) (hW : Below w0.heap.size w0 W) => ky (cS ws.tail) W ae (e1.mx.later hW (Nat.le_refl _)))
 have HQ0:=hid q1;have HK0:=hid k1;have hc2 : ¬ n = 1:=ae;have hn1 : 1 ≤ n:=ae;generalize cS ws.tail = jw at *;clear h hw hE hps h1 q1 d1 k1 e1 e ej hlen hj
 go_enter Tryz.func109,Tryz.ntmps109
 go_wp2_with fail;refine HO.out.mono ?_;rintro e w1' ⟨rfl,hw1⟩;have hw2:=hw1.symm;subst hw2;go_wp2_with fail;refine HJ.out.mono ?_;rintro e w2 ⟨rfl,hb2⟩;have B2:=hid hb2;clear hb2;go_wp2_with fail;refine (HS.out _ B2.out).mono ?_;rintro e w3 ⟨rfl,hb3⟩;have B3:=hid (B2.out.trans (hb3.mono B2.out.size));clear hb3;go_wp2_with fail;have HM:=hid (aC R (w3.alloc (aW (rdP jw) (rdR jw))));generalize rdP jw = rp at *;generalize rdR jw = rr at *;have B4:=hid (B3.out.trans ((ag w3 (aW rp rr)).mono B3.out.size));have HBX:=hid (heap_alloc_new w3 (aW rp rr));have Q1:=hid (HQ0.out.later B4.out);clear HS HJ HO;refine HM.out.mono ?_;rintro e w1'' ⟨rfl,hw1⟩;have hw2:=hw1.symm;subst hw2;go_wp2_with fail;generalize w3.alloc (aW rp rr) = w1 at *;generalize w3.heap.size = X at *;have B1:=hid ((Below.refl w1.heap.size w1).drew)
 refine wp_region_held_drew (S:=fun _ => True) ai trivial (fun _ => ?_)
 generalize w1.drew = wd at *;refine tkQ (i:=0) rfl ?_;(try simp only [Act.put,sIB]);refine tkQ (i:=1) rfl ?_;(try simp only [Act.put]);refine tkQ (i:=2) rfl ?_;(try simp only [Act.put]);refine tkQ (i:=3) rfl ?_;(try simp only [Act.put]);refine tkQ (i:=4) rfl ?_;(try simp only [Act.put]);refine ryQ (rs:=[5,6]) ?_
 refine rcQ (i:=5) rfl (fun K hK => ?_) (rcQ (i:=6) rfl (fun K hK => ?_) rN)
 ·have cH : wd.cell? ⟨R,1,none⟩ = some (.slice m.ta m.tn m.tc):=(Q1.out.later B1.out).cells 1;go_simp
  refine hK.out _ _ trivial (fun _ => ?_)
  clear hK K;refine ryQ (rs:=[6]) ?_
  refine rcQ (i:=6) rfl (fun K hK => ?_) rN
  have y0 : wd.cell? ⟨X,0,none⟩ = some (.string rp):=aj (ak B1.out HBX.out);have y1 : wd.cell? ⟨X,1,none⟩ = some (.string rr):=aj (ak B1.out HBX.out);exact Cl
 ·have y0 : wd.cell? ⟨X,0,none⟩ = some (.string rp):=aj (ak B1.out HBX.out);have y1 : wd.cell? ⟨X,1,none⟩ = some (.string rr):=aj (ak B1.out HBX.out);go_simp
  refine hK.out _ _ trivial (fun _ => ?_)
  clear hK K;refine ryQ (rs:=[5,7]) ?_
  refine rcQ (i:=5) rfl (fun K hK => ?_) (rcQ (i:=7) rfl (fun K hK => ?_) rN)
  ·have cH : wd.cell? ⟨R,1,none⟩ = some (.slice m.ta m.tn m.tc):=(Q1.out.later B1.out).cells 1;exact Cl
  ·go_simp;have BN:=hid (B1.out.trans ((ag wd (aW rp rr)).mono B1.out.size))
   refine hK.out _ _ trivial (fun _ => ?_)
   clear hK K;refine ryQ (rs:=[5]) ?_
   refine rcQ (i:=5) rfl (fun K hK => ?_) rN
   have cH : (wd.alloc (aW rp rr)).cell? ⟨R,1,none⟩ = some (.slice m.ta m.tn m.tc):=(Q1.out.later BN.out).cells 1;go_simp
   refine hK.out _ _ trivial (fun _ => ?_)
   clear hK K;refine ryQ (rs:=[8]) ?_
   refine rcQ (i:=8) rfl (fun K hK => ?_) rN
   refine wp_append_lies _ (.tmp 24) (.tmp 26) 22 rfl base 73 i0 (.agg #[.string ⟨#[]⟩,.string ⟨#[]⟩]) 2 32 Tryz.underlying22 hi hz0 hz1 hz2 rfl aq (.slice m.ta m.tn m.tc) m.tn (m.types.flatMap lW) rfl (Q1.out.later BN.out).rt ⟨wd.heap.size,0,none⟩ 1 1 (lW (rp,rr)) rfl rfl ?n1 ?n2 aq bU ae (Q1.out.later BN.out).bw _ rfl ?_
   case n1 =>
    exact zM
   case n2 => intro u hu; simp [lW] at hu; rcases hu with rfl | rfl <;> rfl
   intro g cap w6 ho6 hg6 _ _;have PX:=hid ((Q1.out).pushT BN.out (rp,rr) ho6 hg6);have z6:=hid (bQ ((Q1.out.later BN.out).blk) (Q1.out).low ((Q1.out.later BN.out).rt) hg6);clear ho6 hg6
   refine hK.out _ _ trivial (fun _ => ?_)
   clear hK K;refine tkQ (i:=9) rfl ?_;(try simp only [Act.put,sIB]);refine tkQ (i:=10) rfl ?_;(try simp only [Act.put]);refine tkQ (i:=11) rfl ?_;(try simp only [Act.put]);refine ryQ (rs:=[12]) ?_
   refine rcQ (i:=12) rfl (fun K hK => ?_) rN
   have c16 : w6.cell? ⟨R,1,none⟩ = some (.slice m.ta m.tn m.tc):=aj z6.out;have f16 : w6.frozen? ⟨R,1,none⟩ = false:=aI z6.out;go_simp
   refine hK.out _ _ trivial (fun _ => ?_)
   clear hK K;refine wpAnyH_done ai ?_ _;go_end0;exact ⟨(HK0.out.trans (KR.later B4.out)).trans PX.out.2,rfl,_,PX.out.1,gG⟩
theorem Ka {B base R A n c : Nat} {mp : Value} {m : MM} {ln pt : Int} {w : World} {ws : List ByteArray} (h : RQ base R mp m ln pt w) (hw : Wds w A n c ws) (hA : base ≤ A) (hE : bT B w) (hBR : B ≤ R) (hps : psz (pl m) ≤ 2097152) (hc : c = n) (hn0 : 2 ≤ n) (hj : (cS ws.tail).size ≤ 8388608) (h1 : 1 ≤ pt ∧ pt ≤ 2) (h3 : rdE (cS ws.tail) ≠ 0) :
  Calls Tryz.prog 109 #[.pointer (some ⟨R,0,none⟩),.slice (some ⟨A,0,none⟩) n c] w (LnP base R mp ln w (fO pt (pl m) ws)):=by
 have hc':=hc.symm;subst hc';obtain ⟨i0,hi,hz0,hz1,hz2⟩:=info_parts EI;have e : fO pt (pl m) ws = none:=CU;rw [e]
 have hn : m.tn ≤ 2097152:=by
  exact vK
 have HO:=hid (bq h 1 2 h1.1 h1.2);have q1:=h.part 2 h1.2;have d1:=hw.setR (o:=10) (u:=.int .i64 2) hA h.low;have k1:=KR.set base R 10 w (.int .i64 2);have e1:=hE.later (k1.below hBR bX hE.bw);generalize w.setCell ⟨R,10,none⟩ (.int .i64 2) = w0 at *;have hlen : ws.tail.length = n - 1:=py
 have HJ:=hid (Tryz.strings_Join A 1 (n - 1) ws.tail ⟨#[32]⟩ w0 (fun j x hx => C3) d1.lt ni (by have:=hw.cap; omega) qN)
 rw [hlen] at HJ
 have ej : (⟨(Lib.join (ws.tail.map (·.data.toList)) (⟨#[32]⟩ : ByteArray).data.toList).toArray⟩ : ByteArray) = cS ws.tail:=rfl
 rw [ej] at HJ
 have HS:=hid (fun (W : World) (hW : Below w0.heap.size w0 W) => ky (cS ws.tail) W ae (e1.mx.later hW (Nat.le_refl _)))
 have HQ0:=hid q1;have HK0:=hid k1;have hc2 : ¬ n = 1:=ae;have hn1 : 1 ≤ n:=ae;exact Es
theorem Gv {B base R A n c : Nat} {mp : Value} {m : MM} {ln pt : Int} {w : World} {ws : List ByteArray} (h : RQ base R mp m ln pt w) (hw : Wds w A n c ws) (hA : base ≤ A) (hE : bT B w) (hBR : B ≤ R) (hps : psz (pl m) ≤ 2097152) (hc : c = n) (hn0 : n = 1) (hj : (cS ws.tail).size ≤ 8388608) (h1 : 1 ≤ pt ∧ pt ≤ 2) (h3 : rdE (cS ws.tail) ≠ 0) :
  Calls Tryz.prog 109 #[.pointer (some ⟨R,0,none⟩),.slice (some ⟨A,0,none⟩) n c] w (LnP base R mp ln w (fO pt (pl m) ws)):=by
 have hc':=hc.symm;subst hc';obtain ⟨i0,hi,hz0,hz1,hz2⟩:=info_parts EI;have e : fO pt (pl m) ws = none:=CU;rw [e]
 have hn : m.tn ≤ 2097152:=by
  exact vK
 have HO:=hid (bq h 1 2 h1.1 h1.2);have q1:=h.part 2 h1.2;have d1:=hw.setR (o:=10) (u:=.int .i64 2) hA h.low;have k1:=KR.set base R 10 w (.int .i64 2);have e1:=hE.later (k1.below hBR bX hE.bw);generalize w.setCell ⟨R,10,none⟩ (.int .i64 2) = w0 at *;have hlen : ws.tail.length = n - 1:=py
 have HJ:=hid (Tryz.strings_Join A 0 0 ws.tail ⟨#[32]⟩ w0 (fun j x hx => by have:=List.getElem?_eq_some_iff.1 hx; obtain ⟨hl,_⟩:=this; omega) d1.lt ni (by have:=hw.cap; omega) qN)
 rw [hlen] at HJ
 have ej : (⟨(Lib.join (ws.tail.map (·.data.toList)) (⟨#[32]⟩ : ByteArray).data.toList).toArray⟩ : ByteArray) = cS ws.tail:=rfl
 rw [ej] at HJ
 have HS:=hid (fun (W : World) (hW : Below w0.heap.size w0 W) => ky (cS ws.tail) W ae (e1.mx.later hW (Nat.le_refl _)))
 have HQ0:=hid q1;have HK0:=hid k1;subst hn0;exact Es
theorem GX : rdE (cS []) = 15:=ai
theorem KL {B base R A n c : Nat} {mp : Value} {m : MM} {ln pt : Int} {w : World} {ws : List ByteArray} (h : RQ base R mp m ln pt w) (hw : Wds w A n c ws) (hA : base ≤ A) (hE : bT B w) (hBR : B ≤ R) (hps : psz (pl m) ≤ 2097152) (hc : c = n) (hn0 : 1 ≤ n) (hj : (cS ws.tail).size ≤ 8388608) :
  Calls Tryz.prog 109 #[.pointer (some ⟨R,0,none⟩),.slice (some ⟨A,0,none⟩) n c] w (LnP base R mp ln w (fO pt (pl m) ws)):=by
 by_cases h1 : 1 ≤ pt ∧ pt ≤ 2
 ·by_cases h2 : n = 1
  ·have e : ws.tail = []:=by
    have:=hw.len
    rw [h2] at this
    exact List.eq_nil_of_length_eq_zero (by rw [List.length_tail]; omega)
   exact Gv h hw hA hE hBR hps hc h2 hj h1 (by rw [e,GX]; decide)
  ·by_cases h3 : rdE (cS ws.tail) = 0
   ·exact G0 h hw hA hE hBR hps hc ae hj h1 h3
   ·exact Ka h hw hA hE hBR hps hc ae hj h1 h3
 ·exact Hu h h1
theorem GA {B base R A n c : Nat} {mp : Value} {m : MM} {ln pt : Int} {w : World} {ws : List ByteArray} (h : RQ base R mp m ln pt w) (hw : Wds w A n c ws) (hA : base ≤ A) (hE : bT B w) (hBR : B ≤ R) (hps : psz (pl m) ≤ 2097152) (h1 : 1 ≤ pt ∧ pt < 5) (h2 : n = 3) {a b : Int} (h3 : nmV (wdx ws 1) = some a) (h4 : nmV (wdx ws 2) = some b) :
  Calls Tryz.prog 112 #[.pointer (some ⟨R,0,none⟩),.slice (some ⟨A,0,none⟩) n c] w (LnP base R mp ln w (iw pt (pl m) ws)):=by
 obtain ⟨x,hx⟩ : ∃ x,ws[1]? = some x:=⟨_,aD aT⟩;have ex : wdx ws 1 = x:=bH;obtain ⟨y,hy⟩ : ∃ x,ws[2]? = some x:=⟨_,aD aT⟩;have ey : wdx ws 2 = y:=cE
 have e : iw pt (pl m) ws = some (5,{ pl m with fi:=a,mo:=b }):=by
  exact y9
 rw [e];subst h2;have HO:=hid (pD h 1 5 h1.1 h1.2);have q1:=h.part 5 ae;have d1:=hw.setR (o:=10) (u:=.int .i64 5) hA h.low;have k1:=KR.set base R 10 w (.int .i64 5);have e1:=hE.later (k1.below hBR bX hE.bw);have HM:=hid (aC R (w.setCell ⟨R,10,none⟩ (.int .i64 5)));generalize w.setCell ⟨R,10,none⟩ (.int .i64 5) = w1 at *;have HQ0:=hid q1;have HD0:=hid d1;have HK0:=hid k1;have HE0:=hid e1;have sx:=hw.sz x (List.mem_of_getElem? hx)
 have HWx:=hid (fun (W : World) (hW : Below w1.heap.size w1 W) => (by have:=(d1.later hW).at_ 1 x hx; rwa [Nat.zero_add] at this : W.cell? ⟨A,1,none⟩ = some (.string x)))
 have sy:=hw.sz y (List.mem_of_getElem? hy)
 have HWy:=hid (fun (W : World) (hW : Below w1.heap.size w1 W) => (by have:=(d1.later hW).at_ 2 y hy; rwa [Nat.zero_add] at this : W.cell? ⟨A,2,none⟩ = some (.string y)))
 rw [ex] at h3;rw [ey] at h4
 have HI1:=hid (fun (W : World) (hW : Below w1.heap.size w1 W) => fT B R x a W (e1.tens.later (hW.mono e1.bw)) (Nat.le_trans e1.bw hW.size) ae h3)
 have HI2:=hid (fun (W : World) (hW : Below w1.heap.size w1 W) => fT B R y b W (e1.tens.later (hW.mono e1.bw)) (Nat.le_trans e1.bw hW.size) ae h4)
 clear h hw hE hps h1 q1 d1 k1 e1 e hx ex hy ey h3 h4
 go_enter Tryz.func112,Tryz.ntmps112
 go_wp2_with fail;refine HO.out.mono ?_;rintro e w1' ⟨rfl,hw1⟩;have hw2:=hw1.symm;subst hw2;go_wp2_with fail;refine HM.out.mono ?_;rintro e w1'' ⟨rfl,hw1⟩;have hw2:=hw1.symm;subst hw2;go_wp2_with fail;have B1:=hid ((Below.refl w1.heap.size w1).drew)
 refine wp_region_held_drew (S:=fun _ => True) ai trivial (fun _ => ?_)
 generalize w1.drew = wd at *;refine tkQ (i:=0) rfl ?_;(try simp only [Act.put,sIB]);refine tkQ (i:=1) rfl ?_;(try simp only [Act.put]);refine tkQ (i:=2) rfl ?_;(try simp only [Act.put]);refine tkQ (i:=3) rfl ?_;(try simp only [Act.put]);refine tkQ (i:=7) rfl ?_;(try simp only [Act.put]);refine tkQ (i:=8) rfl ?_;(try simp only [Act.put]);refine tkQ (i:=4) rfl ?_;(try simp only [Act.put]);refine tkQ (i:=9) rfl ?_;(try simp only [Act.put]);refine ryQ (rs:=[5,10]) ?_
 refine rcQ (i:=5) rfl (fun K hK => ?_) (rcQ (i:=10) rfl (fun K hK => ?_) rN)
 ·have c5 : wd.cell? ⟨A,1,none⟩ = some (.string x):=HWx.out _ B1.out;go_simp
  refine hK.out _ _ trivial (fun _ => ?_)
  clear hK K;refine ryQ (rs:=[6,10]) ?_
  refine rcQ (i:=6) rfl (fun K hK => ?_) (rcQ (i:=10) rfl (fun K hK => ?_) rN)
  ·go_simp;refine (HI1.out _ B1.out).mono ?_;rintro e w5 ⟨rfl,hb5⟩;have B5:=hid (B1.out.trans (hb5.mono B1.out.size));clear hb5
   refine hK.out _ _ trivial (fun _ => ?_)
   clear hK K;refine ryQ (rs:=[10]) ?_
   refine rcQ (i:=10) rfl (fun K hK => ?_) rN
   have c10 : w5.cell? ⟨A,2,none⟩ = some (.string y):=HWy.out _ B5.out;go_simp
   refine hK.out _ _ trivial (fun _ => ?_)
   clear hK K;refine ryQ (rs:=[11]) ?_
   refine rcQ (i:=11) rfl (fun K hK => ?_) rN
   go_simp;refine (HI2.out _ B5.out).mono ?_;rintro e w6 ⟨rfl,hb6⟩;have B6:=hid (B5.out.trans (hb6.mono B5.out.size));clear hb6;have Q6:=hid (HQ0.out.later B6.out)
   refine hK.out _ _ trivial (fun _ => ?_)
   clear hK K;refine tkQ (i:=12) rfl ?_;(try simp only [Act.put,sIB]);refine tkQ (i:=13) rfl ?_;(try simp only [Act.put]);refine tkQ (i:=14) rfl ?_;(try simp only [Act.put]);refine ryQ (rs:=[15]) ?_
   refine rcQ (i:=15) rfl (fun K hK => ?_) rN
   have c16:=Q6.out.cells 4;have f16:=Q6.out.free 4;go_simp
   have Q7:=hid (RQ.set (m':={ m with fi:=a }) Q6.out 4 (.int .i64 a) rfl ⟨rfl,rfl,rfl,rfl⟩ ⟨rfl,rfl,rfl,rfl⟩ ⟨rfl,rfl,rfl,rfl⟩ ⟨rfl,rfl,rfl,rfl⟩ ⟨rfl,rfl,rfl,rfl⟩ ⟨rfl,rfl,rfl,rfl⟩ id)
   have K7:=hid ((KR.later B6.out).trans (KR.set base R 4 w6 (.int .i64 a)))
   refine hK.out _ _ trivial (fun _ => ?_)
   clear hK K;refine tkQ (i:=16) rfl ?_;(try simp only [Act.put,sIB]);refine tkQ (i:=17) rfl ?_;(try simp only [Act.put]);refine tkQ (i:=18) rfl ?_;(try simp only [Act.put]);refine ryQ (rs:=[19]) ?_
   refine rcQ (i:=19) rfl (fun K hK => ?_) rN
   generalize w6.setCell ⟨R,4,none⟩ (.int .i64 a) = w7 at *;have c17:=Q7.out.cells 5;have f17:=Q7.out.free 5;go_simp
   have Q8:=hid (RQ.set (m':={ m with fi:=a,mo:=b }) Q7.out 5 (.int .i64 b) rfl ⟨rfl,rfl,rfl,rfl⟩ ⟨rfl,rfl,rfl,rfl⟩ ⟨rfl,rfl,rfl,rfl⟩ ⟨rfl,rfl,rfl,rfl⟩ ⟨rfl,rfl,rfl,rfl⟩ ⟨rfl,rfl,rfl,rfl⟩ id)
   have K8:=hid (K7.out.trans (KR.set base R 5 w7 (.int .i64 b)))
   refine hK.out _ _ trivial (fun _ => ?_)
   clear hK K;refine wpAnyH_done ai ?_ _;go_end0;exact ⟨HK0.out.trans K8.out,rfl,_,Q8.out,gG⟩
  ·have c10 : wd.cell? ⟨A,2,none⟩ = some (.string y):=HWy.out _ B1.out;exact Cz
 ·have c10 : wd.cell? ⟨A,2,none⟩ = some (.string y):=HWy.out _ B1.out;go_simp
  refine hK.out _ _ trivial (fun _ => ?_)
  clear hK K;refine ryQ (rs:=[5]) ?_
  refine rcQ (i:=5) rfl (fun K hK => ?_) rN
  have c5 : wd.cell? ⟨A,1,none⟩ = some (.string x):=HWx.out _ B1.out;exact Cz
theorem KF {B base R A n c : Nat} {mp : Value} {m : MM} {ln pt : Int} {w : World} {ws : List ByteArray} (h : RQ base R mp m ln pt w) (hw : Wds w A n c ws) (hA : base ≤ A) (hE : bT B w) (hBR : B ≤ R) (hps : psz (pl m) ≤ 2097152) (h1 : 1 ≤ pt ∧ pt < 5) (h2 : n = 3) (h3 : nmV (wdx ws 1) = none) :
  Calls Tryz.prog 112 #[.pointer (some ⟨R,0,none⟩),.slice (some ⟨A,0,none⟩) n c] w (LnP base R mp ln w (iw pt (pl m) ws)):=by
 obtain ⟨x,hx⟩ : ∃ x,ws[1]? = some x:=⟨_,aD aT⟩;have ex : wdx ws 1 = x:=bH;obtain ⟨y,hy⟩ : ∃ x,ws[2]? = some x:=⟨_,aD aT⟩;have ey : wdx ws 2 = y:=cE
 have e : iw pt (pl m) ws = none:=by
  rw [ex] at h3
  unfold iw; rw [if_pos ⟨h1,dE⟩,ex,ey]; rw [h3]; rfl
 rw [e];subst h2;have HO:=hid (pD h 1 5 h1.1 h1.2);have q1:=h.part 5 ae;have d1:=hw.setR (o:=10) (u:=.int .i64 5) hA h.low;have k1:=KR.set base R 10 w (.int .i64 5);have e1:=hE.later (k1.below hBR bX hE.bw);have HM:=hid (aC R (w.setCell ⟨R,10,none⟩ (.int .i64 5)));generalize w.setCell ⟨R,10,none⟩ (.int .i64 5) = w1 at *;have HQ0:=hid q1;have HD0:=hid d1;have HK0:=hid k1;have HE0:=hid e1;have sx:=hw.sz x (List.mem_of_getElem? hx)
 have HWx:=hid (fun (W : World) (hW : Below w1.heap.size w1 W) => (by have:=(d1.later hW).at_ 1 x hx; rwa [Nat.zero_add] at this : W.cell? ⟨A,1,none⟩ = some (.string x)))
 have sy:=hw.sz y (List.mem_of_getElem? hy)
 have HWy:=hid (fun (W : World) (hW : Below w1.heap.size w1 W) => (by have:=(d1.later hW).at_ 2 y hy; rwa [Nat.zero_add] at this : W.cell? ⟨A,2,none⟩ = some (.string y)))
 rw [ex] at h3
 have HI1:=hid (fun (W : World) (hW : Below w1.heap.size w1 W) => kZ B R x ln W (e1.tens.later (hW.mono e1.bw)) (e1.errs.later (hW.mono e1.bw)) (Nat.le_trans e1.bw hW.size) ae ((q1.later hW).cells 9) h3)
 clear h hw hE hps h1 q1 d1 k1 e1 e hx ex hy ey h3
 go_enter Tryz.func112,Tryz.ntmps112
 go_wp2_with fail;refine HO.out.mono ?_;rintro e w1' ⟨rfl,hw1⟩;have hw2:=hw1.symm;subst hw2;go_wp2_with fail;refine HM.out.mono ?_;rintro e w1'' ⟨rfl,hw1⟩;have hw2:=hw1.symm;subst hw2;go_wp2_with fail;have B1:=hid ((Below.refl w1.heap.size w1).drew)
 refine wp_region_held_drew (S:=fun _ => True) ai trivial (fun _ => ?_)
 generalize w1.drew = wd at *;refine tkQ (i:=0) rfl ?_;(try simp only [Act.put,sIB]);refine tkQ (i:=1) rfl ?_;(try simp only [Act.put]);refine tkQ (i:=2) rfl ?_;(try simp only [Act.put]);refine tkQ (i:=3) rfl ?_;(try simp only [Act.put]);refine tkQ (i:=7) rfl ?_;(try simp only [Act.put]);refine tkQ (i:=8) rfl ?_;(try simp only [Act.put]);refine tkQ (i:=4) rfl ?_;(try simp only [Act.put]);refine tkQ (i:=9) rfl ?_;(try simp only [Act.put]);refine ryQ (rs:=[5,10]) ?_
 refine rcQ (i:=5) rfl (fun K hK => ?_) (rcQ (i:=10) rfl (fun K hK => ?_) rN)
 ·have c5 : wd.cell? ⟨A,1,none⟩ = some (.string x):=HWx.out _ B1.out;go_simp
  refine hK.out _ _ trivial (fun _ => ?_)
  clear hK K;refine ryQ (rs:=[6,10]) ?_
  refine rcQ (i:=6) rfl (fun K hK => ?_) (rcQ (i:=10) rfl (fun K hK => ?_) rN)
  ·exact Cw
  ·have c10 : wd.cell? ⟨A,2,none⟩ = some (.string y):=HWy.out _ B1.out;exact Gn
 ·have c10 : wd.cell? ⟨A,2,none⟩ = some (.string y):=HWy.out _ B1.out;go_simp
  refine hK.out _ _ trivial (fun _ => ?_)
  clear hK K;refine ryQ (rs:=[5]) ?_
  refine rcQ (i:=5) rfl (fun K hK => ?_) rN
  have c5 : wd.cell? ⟨A,1,none⟩ = some (.string x):=HWx.out _ B1.out;exact Gn
theorem Lm {B base R A n c : Nat} {mp : Value} {m : MM} {ln pt : Int} {w : World} {ws : List ByteArray} (h : RQ base R mp m ln pt w) (hw : Wds w A n c ws) (hA : base ≤ A) (hE : bT B w) (hBR : B ≤ R) (hps : psz (pl m) ≤ 2097152) (h1 : 1 ≤ pt ∧ pt < 5) (h2 : n = 3) {a : Int} (h3 : nmV (wdx ws 1) = some a) (h4 : nmV (wdx ws 2) = none) :
  Calls Tryz.prog 112 #[.pointer (some ⟨R,0,none⟩),.slice (some ⟨A,0,none⟩) n c] w (LnP base R mp ln w (iw pt (pl m) ws)):=by
 obtain ⟨x,hx⟩ : ∃ x,ws[1]? = some x:=⟨_,aD aT⟩;have ex : wdx ws 1 = x:=bH;obtain ⟨y,hy⟩ : ∃ x,ws[2]? = some x:=⟨_,aD aT⟩;have ey : wdx ws 2 = y:=cE
 have e : iw pt (pl m) ws = none:=by
  exact y9
 rw [e];subst h2;have HO:=hid (pD h 1 5 h1.1 h1.2);have q1:=h.part 5 ae;have d1:=hw.setR (o:=10) (u:=.int .i64 5) hA h.low;have k1:=KR.set base R 10 w (.int .i64 5);have e1:=hE.later (k1.below hBR bX hE.bw);have HM:=hid (aC R (w.setCell ⟨R,10,none⟩ (.int .i64 5)));generalize w.setCell ⟨R,10,none⟩ (.int .i64 5) = w1 at *;have HQ0:=hid q1;have HD0:=hid d1;have HK0:=hid k1;have HE0:=hid e1;have sx:=hw.sz x (List.mem_of_getElem? hx)
 have HWx:=hid (fun (W : World) (hW : Below w1.heap.size w1 W) => (by have:=(d1.later hW).at_ 1 x hx; rwa [Nat.zero_add] at this : W.cell? ⟨A,1,none⟩ = some (.string x)))
 have sy:=hw.sz y (List.mem_of_getElem? hy)
 have HWy:=hid (fun (W : World) (hW : Below w1.heap.size w1 W) => (by have:=(d1.later hW).at_ 2 y hy; rwa [Nat.zero_add] at this : W.cell? ⟨A,2,none⟩ = some (.string y)))
 rw [ex] at h3;rw [ey] at h4
 have HI1:=hid (fun (W : World) (hW : Below w1.heap.size w1 W) => fT B R x a W (e1.tens.later (hW.mono e1.bw)) (Nat.le_trans e1.bw hW.size) ae h3)
 have HI2:=hid (fun (W : World) (hW : Below w1.heap.size w1 W) => kZ B R y ln W (e1.tens.later (hW.mono e1.bw)) (e1.errs.later (hW.mono e1.bw)) (Nat.le_trans e1.bw hW.size) ae ((q1.later hW).cells 9) h4)
 clear h hw hE hps h1 q1 d1 k1 e1 e hx ex hy ey h3 h4
 go_enter Tryz.func112,Tryz.ntmps112
 go_wp2_with fail;refine HO.out.mono ?_;rintro e w1' ⟨rfl,hw1⟩;have hw2:=hw1.symm;subst hw2;go_wp2_with fail;refine HM.out.mono ?_;rintro e w1'' ⟨rfl,hw1⟩;have hw2:=hw1.symm;subst hw2;go_wp2_with fail;have B1:=hid ((Below.refl w1.heap.size w1).drew)
 refine wp_region_held_drew (S:=fun _ => True) ai trivial (fun _ => ?_)
 generalize w1.drew = wd at *;refine tkQ (i:=0) rfl ?_;(try simp only [Act.put,sIB]);refine tkQ (i:=1) rfl ?_;(try simp only [Act.put]);refine tkQ (i:=2) rfl ?_;(try simp only [Act.put]);refine tkQ (i:=3) rfl ?_;(try simp only [Act.put]);refine tkQ (i:=7) rfl ?_;(try simp only [Act.put]);refine tkQ (i:=8) rfl ?_;(try simp only [Act.put]);refine tkQ (i:=4) rfl ?_;(try simp only [Act.put]);refine tkQ (i:=9) rfl ?_;(try simp only [Act.put]);refine ryQ (rs:=[5,10]) ?_
 refine rcQ (i:=5) rfl (fun K hK => ?_) (rcQ (i:=10) rfl (fun K hK => ?_) rN)
 ·have c5 : wd.cell? ⟨A,1,none⟩ = some (.string x):=HWx.out _ B1.out;go_simp
  refine hK.out _ _ trivial (fun _ => ?_)
  clear hK K;refine ryQ (rs:=[6,10]) ?_
  refine rcQ (i:=6) rfl (fun K hK => ?_) (rcQ (i:=10) rfl (fun K hK => ?_) rN)
  ·go_simp;refine (HI1.out _ B1.out).mono ?_;rintro e w5 ⟨rfl,hb5⟩;have B5:=hid (B1.out.trans (hb5.mono B1.out.size));clear hb5
   refine hK.out _ _ trivial (fun _ => ?_)
   clear hK K;refine ryQ (rs:=[10]) ?_
   refine rcQ (i:=10) rfl (fun K hK => ?_) rN
   have c10 : w5.cell? ⟨A,2,none⟩ = some (.string y):=HWy.out _ B5.out;go_simp
   refine hK.out _ _ trivial (fun _ => ?_)
   clear hK K;refine ryQ (rs:=[11]) ?_
   refine rcQ (i:=11) rfl (fun K hK => ?_) rN
   go_simp;refine (HI2.out _ B5.out).mono ?_;rintro e w6 ⟨rfl,hb6⟩;exact ⟨rfl,HK0.out.trans (KR.later (B5.out.trans (hb6.mono B5.out.size))),rfl⟩
  ·have c10 : wd.cell? ⟨A,2,none⟩ = some (.string y):=HWy.out _ B1.out;exact Dx
 ·have c10 : wd.cell? ⟨A,2,none⟩ = some (.string y):=HWy.out _ B1.out;go_simp
  refine hK.out _ _ trivial (fun _ => ?_)
  clear hK K;refine ryQ (rs:=[5]) ?_
  refine rcQ (i:=5) rfl (fun K hK => ?_) rN
  have c5 : wd.cell? ⟨A,1,none⟩ = some (.string x):=HWx.out _ B1.out;exact Dx
theorem La {B base R A n c : Nat} {mp : Value} {m : MM} {ln pt : Int} {w : World} {ws : List ByteArray} (h : RQ base R mp m ln pt w) (hw : Wds w A n c ws) (hA : base ≤ A) (hE : bT B w) (hBR : B ≤ R) (hps : psz (pl m) ≤ 2097152) :
  Calls Tryz.prog 112 #[.pointer (some ⟨R,0,none⟩),.slice (some ⟨A,0,none⟩) n c] w (LnP base R mp ln w (iw pt (pl m) ws)):=by
 by_cases h1 : 1 ≤ pt ∧ pt < 5
 ·by_cases h2 : n = 3
  ·rcases h3 : nmV (wdx ws 1) with _ | a
   ·exact KF h hw hA hE hBR hps h1 h2 h3
   ·rcases h4 : nmV (wdx ws 2) with _ | b
    ·exact Lm h hw hA hE hBR hps h1 h2 h3 h4
    ·exact GA h hw hA hE hBR hps h1 h2 h3 h4
  ·exact GI h hw h1 h2
 ·exact GY h h1
end Go.Proofs.YtheefojaplnnoaaGreatDoor

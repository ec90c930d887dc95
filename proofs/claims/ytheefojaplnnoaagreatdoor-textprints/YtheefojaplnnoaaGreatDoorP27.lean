/-
  Texts Pk Pl Pm Pn Po Pq.
-/
import Derived.Test.YtheefojaplnnoaaGreatDoorP00
import Derived.Test.YtheefojaplnnoaaGreatDoorP26
set_option linter.unusedVariables false
set_option maxRecDepth 100000
set_option maxHeartbeats 16000000
namespace Go.Proofs.YtheefojaplnnoaaGreatDoor
open Go.RowKit
theorem Jz {B base R A n c : Nat} {mp : Value} {m : MM} {ln pt : Int} {w : World} {ws : List ByteArray} (h : RQ base R mp m ln pt w) (hw : Wds w A n c ws) (hA : base ≤ A) (hE : iG B w) (hBR : B ≤ R) (hps : psz (pl m) ≤ 2097152) (h1 : 1 ≤ pt ∧ pt < 5) (h2 : n = 3) {a b : Int} (h3 : nmV (wdx ws 1) = some a) (h4 : nmV (wdx ws 2) = some b) :
  Calls Tryz.prog 112 #[.pointer (some ⟨R,0,none⟩),.slice (some ⟨A,0,none⟩) n c] w (LnP base R mp ln w (ru pt (pl m) ws)):=by
 obtain ⟨x,hx⟩ : ∃ x,ws[1]? = some x:=⟨_,aN jb⟩;have ex : wdx ws 1 = x:=sH;obtain ⟨y,hy⟩ : ∃ x,ws[2]? = some x:=⟨_,aN jb⟩
 have ey : wdx ws 2 = y:=by simp [wdx,List.getD,hy]
 have e : ru pt (pl m) ws = some (5,{ pl m with fi:=a,mo:=b }):=by
  rw [ex] at h3; rw [ey] at h4
  unfold ru; rw [if_pos ⟨h1,by rw [hw.len]; exact h2⟩,ex,ey]; rw [h3,h4]; rfl
 rw [e];subst h2;have HO:=hid (Gj h 1 5 h1.1 h1.2);have q1:=h.part 5 ae;have d1:=hw.setR (o:=10) (u:=.int .i64 5) hA h.low;have k1:=KR.set base R 10 w (.int .i64 5);have e1:=hE.later (k1.below hBR nM hE.bw);have HM:=hid (dU R (w.setCell ⟨R,10,none⟩ (.int .i64 5)));generalize w.setCell ⟨R,10,none⟩ (.int .i64 5) = w1 at *;have HQ0:=hid q1;have HD0:=hid d1;have HK0:=hid k1;have HE0:=hid e1;have sx:=hw.sz x (List.mem_of_getElem? hx)
 have HWx:=hid (fun (W : World) (hW : Below w1.heap.size w1 W) => (by have:=(d1.later hW).at_ 1 x hx; rwa [Nat.zero_add] at this : W.cell? ⟨A,1,none⟩ = some (.string x)))
 have sy:=hw.sz y (List.mem_of_getElem? hy)
 have HWy:=hid (fun (W : World) (hW : Below w1.heap.size w1 W) => (by have:=(d1.later hW).at_ 2 y hy; rwa [Nat.zero_add] at this : W.cell? ⟨A,2,none⟩ = some (.string y)))
 rw [ex] at h3;rw [ey] at h4
 have HI1:=hid (fun (W : World) (hW : Below w1.heap.size w1 W) => pD B R x a W (e1.tens.later (hW.mono e1.bw)) (Nat.le_trans e1.bw hW.size) ae h3)
 have HI2:=hid (fun (W : World) (hW : Below w1.heap.size w1 W) => pD B R y b W (e1.tens.later (hW.mono e1.bw)) (Nat.le_trans e1.bw hW.size) ae h4)
 clear h hw hE hps h1 q1 d1 k1 e1 e hx ex hy ey h3 h4
 go_enter Tryz.func112,Tryz.ntmps112
 go_wp2_with fail;refine HO.out.mono ?_;rintro e w1' ⟨rfl,hw1⟩;have hw2:=hw1.symm;subst hw2;go_wp2_with fail;refine HM.out.mono ?_;rintro e w1'' ⟨rfl,hw1⟩;have hw2:=hw1.symm;subst hw2;go_wp2_with fail;have B1:=hid ((Below.refl w1.heap.size w1).drew)
 refine wp_region_held_drew (S:=fun _ => True) aj trivial (fun _ => ?_)
 generalize w1.drew = wd at *;refine tkQ (i:=0) rfl ?_;(try simp only [Act.put,sIB]);refine tkQ (i:=1) rfl ?_;(try simp only [Act.put]);refine tkQ (i:=2) rfl ?_;(try simp only [Act.put]);refine tkQ (i:=3) rfl ?_;(try simp only [Act.put]);refine tkQ (i:=7) rfl ?_;(try simp only [Act.put]);refine tkQ (i:=8) rfl ?_;(try simp only [Act.put]);refine tkQ (i:=4) rfl ?_;(try simp only [Act.put]);refine tkQ (i:=9) rfl ?_;(try simp only [Act.put]);refine ryQ (rs:=[5,10]) ?_
 refine rcQ (i:=5) rfl (fun K hK => ?_) (rcQ (i:=10) rfl (fun K hK => ?_) rN)
 ·have c5 : wd.cell? ⟨A,1,none⟩ = some (.string x):=HWx.out _ B1.out;go_simp
  refine hK.out _ _ trivial (fun _ => ?_)
  clear hK K;refine ryQ (rs:=[6,10]) ?_
  refine rcQ (i:=6) rfl (fun K hK => ?_) (rcQ (i:=10) rfl (fun K hK => ?_) rN)
  ·go_simp;refine (HI1.out _ B1.out).mono ?_;rintro e w5 ⟨rfl,hb5⟩;have B5:=hid (B1.out.trans (hb5.mono B1.out.size));clear hb5
   refine hK.out _ _ trivial (fun _ => ?_)
   clear hK K;refine ryQ (rs:=[10]) ?_
   refine rcQ (i:=10) rfl (fun K hK => ?_) rN
   have c10 : w5.cell? ⟨A,2,none⟩ = some (.string y):=HWy.out _ B5.out;go_simp
   refine hK.out _ _ trivial (fun _ => ?_)
   clear hK K;refine ryQ (rs:=[11]) ?_
   refine rcQ (i:=11) rfl (fun K hK => ?_) rN
   go_simp;refine (HI2.out _ B5.out).mono ?_;rintro e w6 ⟨rfl,hb6⟩;have B6:=hid (B5.out.trans (hb6.mono B5.out.size));clear hb6;have Q6:=hid (HQ0.out.later B6.out)
   refine hK.out _ _ trivial (fun _ => ?_)
   clear hK K;refine tkQ (i:=12) rfl ?_;(try simp only [Act.put,sIB]);refine tkQ (i:=13) rfl ?_;(try simp only [Act.put]);refine tkQ (i:=14) rfl ?_;(try simp only [Act.put]);refine ryQ (rs:=[15]) ?_
   refine rcQ (i:=15) rfl (fun K hK => ?_) rN
   have c16:=Q6.out.cells 4;have f16:=Q6.out.free 4;go_simp
   have Q7:=hid (RQ.set (m':={ m with fi:=a }) Q6.out 4 (.int .i64 a) rfl ⟨rfl,rfl,rfl,rfl⟩ ⟨rfl,rfl,rfl,rfl⟩ ⟨rfl,rfl,rfl,rfl⟩ ⟨rfl,rfl,rfl,rfl⟩ ⟨rfl,rfl,rfl,rfl⟩ ⟨rfl,rfl,rfl,rfl⟩ id)
   have K7:=hid ((KR.later B6.out).trans (KR.set base R 4 w6 (.int .i64 a)))
   refine hK.out _ _ trivial (fun _ => ?_)
   clear hK K;refine tkQ (i:=16) rfl ?_;(try simp only [Act.put,sIB]);refine tkQ (i:=17) rfl ?_;(try simp only [Act.put]);refine tkQ (i:=18) rfl ?_;(try simp only [Act.put]);refine ryQ (rs:=[19]) ?_
   refine rcQ (i:=19) rfl (fun K hK => ?_) rN
   generalize w6.setCell ⟨R,4,none⟩ (.int .i64 a) = w7 at *;have c17:=Q7.out.cells 5;have f17:=Q7.out.free 5;go_simp
   have Q8:=hid (RQ.set (m':={ m with fi:=a,mo:=b }) Q7.out 5 (.int .i64 b) rfl ⟨rfl,rfl,rfl,rfl⟩ ⟨rfl,rfl,rfl,rfl⟩ ⟨rfl,rfl,rfl,rfl⟩ ⟨rfl,rfl,rfl,rfl⟩ ⟨rfl,rfl,rfl,rfl⟩ ⟨rfl,rfl,rfl,rfl⟩ id)
   have K8:=hid (K7.out.trans (KR.set base R 5 w7 (.int .i64 b)))
   refine hK.out _ _ trivial (fun _ => ?_)
   clear hK K;refine wpAnyH_done aj ?_ _;go_end0;exact ⟨HK0.out.trans K8.out,rfl,_,Q8.out,sf⟩
  ·have c10 : wd.cell? ⟨A,2,none⟩ = some (.string y):=HWy.out _ B1.out;exact Ik
 ·have c10 : wd.cell? ⟨A,2,none⟩ = some (.string y):=HWy.out _ B1.out;go_simp
  refine hK.out _ _ trivial (fun _ => ?_)
  clear hK K;refine ryQ (rs:=[5]) ?_
  refine rcQ (i:=5) rfl (fun K hK => ?_) rN
  have c5 : wd.cell? ⟨A,1,none⟩ = some (.string x):=HWx.out _ B1.out;exact Ik
theorem Oo : (Tryz.prog.info? 78).map (fun i => (i.zero,i.size,i.bytes)) = some (some (.agg #[.int .i64 0,.string ⟨#[]⟩,.slice none 0 0]),3,48):=aj
theorem Hl (s : ByteArray) (w : World) (hs : s.size ≤ 281474976710656) : Calls Tryz.prog 172 #[.string s] w fun e w' => e = .returned (.string s) ∧ Below w.heap.size w w':=by
 have HC:=hid (Tryz.stringslite_Clone s w hs)
 go_enter Tryz.func172,Tryz.ntmps172
 go_wp2_with fail;refine HC.out.mono ?_;rintro e w1 ⟨rfl,hb⟩;go_wp2_with fail;go_ret;exact ⟨rfl,hb⟩
theorem JH {B base R A n c : Nat} {mp : Value} {m : MM} {ln pt : Int} {w : World} {ws : List ByteArray} (h : RQ base R mp m ln pt w) (hw : Wds w A n c ws) (hA : base ≤ A) (hE : iG B w) (hBR : B ≤ R) (hps : psz (pl m) ≤ 2097152) (h1 : 5 ≤ pt ∧ pt ≤ 6) (h2 : n = 3) {v : Int} (h3 : nmV (wdx ws 1) = some v) (h4 : ¬ (wdx ws 2).toList = [45]) :
  Calls Tryz.prog 113 #[.pointer (some ⟨R,0,none⟩),.slice (some ⟨A,0,none⟩) n c] w (LnP base R mp ln w (ra pt (pl m) ws)):=by
 obtain ⟨i0,hi,hz0,hz1,hz2⟩:=info_parts Oo;obtain ⟨x,hx⟩ : ∃ x,ws[1]? = some x:=⟨_,aN jb⟩;have ex : wdx ws 1 = x:=sH;obtain ⟨y,hy⟩ : ∃ x,ws[2]? = some x:=⟨_,aN jb⟩
 have ey : wdx ws 2 = y:=by simp [wdx,List.getD,hy]
 have e : ra pt (pl m) ws = some (6,{ pl m with fns:=(pl m).fns ++ [(v,wdx ws 2,[])] }):=by
  rw [ex] at h3; rw [ey] at h4
  unfold ra; rw [if_pos ⟨h1,by rw [hw.len]; exact h2⟩,ex,ey]; rw [h3]; unfold Li; rw [if_neg h4]; rfl
 rw [e];subst h2
 have hn : m.fn ≤ 2097152:=by
  have e1:=fT (g:=cm) (fun _ => rfl) av h.rf
  have e2 : m.fns.length ≤ psz (pl m):=by unfold psz pl; (try simp only [List.length_map]); omega
  omega
 have HO:=hid (qE h 5 6 h1.1 h1.2);have q1:=h.part 6 ae;have d1:=hw.setR (o:=10) (u:=.int .i64 6) hA h.low;have k1:=KR.set base R 10 w (.int .i64 6);have e1:=hE.later (k1.below hBR nM hE.bw);have HM:=hid (dU R (w.setCell ⟨R,10,none⟩ (.int .i64 6)));generalize w.setCell ⟨R,10,none⟩ (.int .i64 6) = w1 at *;have HQ0:=hid q1;have HD0:=hid d1;have HK0:=hid k1;have HE0:=hid e1;have sx:=hw.sz x (List.mem_of_getElem? hx)
 have HWx:=hid (fun (W : World) (hW : Below w1.heap.size w1 W) => (by have:=(d1.later hW).at_ 1 x hx; rwa [Nat.zero_add] at this : W.cell? ⟨A,1,none⟩ = some (.string x)))
 have sy:=hw.sz y (List.mem_of_getElem? hy)
 have HWy:=hid (fun (W : World) (hW : Below w1.heap.size w1 W) => (by have:=(d1.later hW).at_ 2 y hy; rwa [Nat.zero_add] at this : W.cell? ⟨A,2,none⟩ = some (.string y)))
 rw [ex] at h3;rw [ey] at h4
 have hne : (y.toList == [45]) = false:=by simpa using h4
 have HI1:=hid (fun (W : World) (hW : Below w1.heap.size w1 W) => pD B R x v W (e1.tens.later (hW.mono e1.bw)) (Nat.le_trans e1.bw hW.size) ae h3)
 have HCl:=hid (fun (W : World) => Hl y W ae)
 have HEy:=hid ey;clear h hw hE hps h1 q1 d1 k1 e1 e hx ex hy ey h3 h4
 go_enter Tryz.func113,Tryz.ntmps113
 go_wp2_with fail;refine HO.out.mono ?_;rintro e w1' ⟨rfl,hw1⟩;have hw2:=hw1.symm;subst hw2;go_wp2_with fail;refine HM.out.mono ?_;rintro e w1'' ⟨rfl,hw1⟩;have hw2:=hw1.symm;subst hw2;have cx:=HWx.out w1 (Below.refl _ _);go_wp2_with fail;refine (HI1.out _ (Below.refl _ _)).mono ?_;rintro e w5 ⟨rfl,hb5⟩;have B5:=hid hb5;clear hb5;have cy : (w5.alloc (aL v ⟨#[]⟩ none 0 0)).cell? ⟨A,2,none⟩ = some (.string y):=HWy.out _ (B5.out.trans ((ak w5 _).mono B5.out.size));have hAl:=hid (block_lt_of_cell (HWy.out _ B5.out));go_wp2_with fail;refine (HCl.out _).mono ?_;rintro e w8 ⟨rfl,hb8⟩
 have B8:=hid ((B5.out.trans ((ak w5 (aL v ⟨#[]⟩ none 0 0)).mono B5.out.size)).trans (hb8.mono (by have:=B5.out.size; simp; omega)))
 have hX8:=ar hb8 (heap_alloc_new w5 (aL v ⟨#[]⟩ none 0 0));have c8 : w8.cell? ⟨w5.heap.size,1,none⟩ = some (.string ⟨#[]⟩):=ag hX8;have f8 : w8.frozen? ⟨w5.heap.size,1,none⟩ = false:=aU hX8;have hXb:=hid (Nat.le_trans (HQ0.out.later B5.out).bw (Nat.le_refl w5.heap.size));have HBX:=hid (bJ (i:=1) (u:=.string y) hX8);have kS:=aw w8 w5.heap.size 1 (.string y)
 have BX0 : Below w1.heap.size w8 (w8.setCell ⟨w5.heap.size,1,none⟩ (.string y)):=kS.to_below B8.out.size (fun k _ hk => by have e : k = w5.heap.size:=hk; have:=B5.out.size; omega)
 have BX:=hid (B8.out.trans BX0);have KX:=hid (KR.later (base:=base) (R:=R) BX.out);have Q1:=hid (HQ0.out.later BX.out);clear hb8 hX8 kS BX0;go_wp2_with fail;generalize w8.setCell ⟨w5.heap.size,1,none⟩ (.string y) = w9 at *;generalize w5.heap.size = X at *;have B1:=hid ((Below.refl w9.heap.size w9).drew)
 refine wp_region_held_drew (S:=fun _ => True) aj trivial (fun _ => ?_)
 generalize w9.drew = wd at *;refine tkQ (i:=0) rfl ?_;(try simp only [Act.put,sIB]);refine tkQ (i:=1) rfl ?_;(try simp only [Act.put]);refine tkQ (i:=2) rfl ?_;(try simp only [Act.put]);refine tkQ (i:=3) rfl ?_;(try simp only [Act.put]);refine tkQ (i:=4) rfl ?_;(try simp only [Act.put]);refine ryQ (rs:=[5,6]) ?_
 refine rcQ (i:=5) rfl (fun K hK => ?_) (rcQ (i:=6) rfl (fun K hK => ?_) rN)
 ·have cH : wd.cell? ⟨R,6,none⟩ = some (.slice m.fa m.fn m.fc):=(Q1.out.later B1.out).cells 6;go_simp
  refine hK.out _ _ trivial (fun _ => ?_)
  clear hK K;refine ryQ (rs:=[6]) ?_
  refine rcQ (i:=6) rfl (fun K hK => ?_) rN
  have y0 : wd.cell? ⟨X,0,none⟩ = some (.int .i64 v):=ag (ar B1.out HBX.out);have y1 : wd.cell? ⟨X,1,none⟩ = some (.string y):=ag (ar B1.out HBX.out);have y2 : wd.cell? ⟨X,2,none⟩ = some (.slice none 0 0):=ag (ar B1.out HBX.out);exact Hi
 ·have y0 : wd.cell? ⟨X,0,none⟩ = some (.int .i64 v):=ag (ar B1.out HBX.out);have y1 : wd.cell? ⟨X,1,none⟩ = some (.string y):=ag (ar B1.out HBX.out);have y2 : wd.cell? ⟨X,2,none⟩ = some (.slice none 0 0):=ag (ar B1.out HBX.out);go_simp
  refine hK.out _ _ trivial (fun _ => ?_)
  clear hK K;refine ryQ (rs:=[5,7]) ?_
  refine rcQ (i:=5) rfl (fun K hK => ?_) (rcQ (i:=7) rfl (fun K hK => ?_) rN)
  ·have cH : wd.cell? ⟨R,6,none⟩ = some (.slice m.fa m.fn m.fc):=(Q1.out.later B1.out).cells 6;exact Hi
  ·go_simp;have BN:=hid (B1.out.trans ((ak wd (aL v y none 0 0)).mono B1.out.size))
   refine hK.out _ _ trivial (fun _ => ?_)
   clear hK K;refine ryQ (rs:=[5]) ?_
   refine rcQ (i:=5) rfl (fun K hK => ?_) rN
   have cH : (wd.alloc (aL v y none 0 0)).cell? ⟨R,6,none⟩ = some (.slice m.fa m.fn m.fc):=(Q1.out.later BN.out).cells 6;go_simp
   refine hK.out _ _ trivial (fun _ => ?_)
   clear hK K;refine ryQ (rs:=[8]) ?_
   refine rcQ (i:=8) rfl (fun K hK => ?_) rN
   refine wp_append_lies _ (.tmp 32) (.tmp 34) 25 rfl base 78 i0 (.agg #[.int .i64 0,.string ⟨#[]⟩,.slice none 0 0]) 3 48 Tryz.underlying25 hi hz0 hz1 hz2 rfl av (.slice m.fa m.fn m.fc) m.fn (m.fns.flatMap cm) rfl (Q1.out.later BN.out).rf ⟨wd.heap.size,0,none⟩ 1 1 (cm ((v,y,(none,0,0),[]) : FuM)) rfl rfl ?n1 ?n2 av bU ae (Q1.out.later BN.out).bw _ rfl ?_
   case n1 =>
    exact Ad
   case n2 => intro u hu; simp [cm] at hu; rcases hu with rfl | rfl | rfl <;> rfl
   intro g cap w6 ho6 hg6 _ _;have PX:=hid ((Q1.out).pushF BN.out ((v,y,(none,0,0),[]) : FuM) av ⟨rfl,rfl⟩ ho6 hg6);have z6:=hid (gJ ((Q1.out.later BN.out).blk) (Q1.out).low ((Q1.out.later BN.out).rf) hg6);clear ho6 hg6
   refine hK.out _ _ trivial (fun _ => ?_)
   clear hK K;refine tkQ (i:=9) rfl ?_;(try simp only [Act.put,sIB]);refine tkQ (i:=10) rfl ?_;(try simp only [Act.put]);refine tkQ (i:=11) rfl ?_;(try simp only [Act.put]);refine ryQ (rs:=[12]) ?_
   refine rcQ (i:=12) rfl (fun K hK => ?_) rN
   have c16 : w6.cell? ⟨R,6,none⟩ = some (.slice m.fa m.fn m.fc):=ag z6.out;have f16 : w6.frozen? ⟨R,6,none⟩ = false:=aU z6.out;go_simp
   refine hK.out _ _ trivial (fun _ => ?_)
   clear hK K;refine wpAnyH_done aj ?_ _;go_end0;exact ⟨(HK0.out.trans KX.out).trans PX.out.2,rfl,_,PX.out.1,Ag⟩
theorem rR : ∀ (xs pre : List _) (x : ByteArray) (v : Int),dI xs = some pre → nmV x = some v → dI (xs ++ [x]) = some (pre ++ [v])
 | [],pre,x,v,h,hv => by
  simp only [dI,Option.some.injEq] at h
  subst h
  simp [dI,hv]
 | y :: r,pre,x,v,h,hv => by
  simp only [dI] at h
  rcases hy : nmV y with _ | u
  ·rw [hy] at h; simp at h
  ·rw [hy] at h
   rcases hr : dI r with _ | t
   ·rw [hr] at h; simp at h
   ·rw [hr] at h
    simp at h
    subst h
    have:=rR r t x v hr hv
    simp [dI,hy,this]
theorem rU : ∀ (xs : List ByteArray) (k : Nat) (x : ByteArray),xs[k]? = some x → nmV x = none → dI xs = none
 | [],k,x,h,_ => by simp at h
 | y :: r,0,x,h,hx => by
  simp at h
  subst h
  simp [dI,hx]
 | y :: r,k + 1,x,h,hx => by
  simp at h
  have:=rU r k x h hx
  simp [dI,this]
theorem pW : ∀ (xs : List ByteArray) (l : List Int),dI xs = some l → l.length = xs.length
 | [],l,h => by simp [dI] at h; subst h; rfl
 | y :: r,l,h => by
  simp only [dI] at h
  rcases hy : nmV y with _ | u
  ·rw [hy] at h; simp at h
  ·rw [hy] at h
   rcases hr : dI r with _ | t
   ·rw [hr] at h; simp at h
   ·rw [hr] at h
    simp at h
    subst h
    simp [pW r t hr]
def LbP (ln : Int) (w : World) (n : Nat) (res : Option (List Int)) (e : Ending) (w' : World) : Prop :=
 Below w.heap.size w w' ∧ match res with
 | some l => e = .returned (.slice (some ⟨w.heap.size,0,none⟩) n n) ∧ w'.ownsRow w.heap.size 3 1 (.slice (some ⟨w.heap.size,0,none⟩) n n) n (l.flatMap dR)
 | none => e = thL ln
theorem DI {B base R : Nat} {mp : Value} {m : MM} {ln pt : Int} {w : World} (h : RQ base R mp m ln pt w) (hE : iG B w) (A o n c : Nat) (xs : List ByteArray) (hl : xs.length = n) (hn : n ≤ 2097152) (hx : ∀ (j : Nat) x,xs[j]? = some x → w.cell? ⟨A,o + j,none⟩ = some (.string x)) (hz : ∀ x ∈ xs,x.size ≤ 2097152) :
  Calls Tryz.prog 179 #[.pointer (some ⟨R,0,none⟩),.slice (some ⟨A,o,none⟩) n c] w (LbP ln w n (dI xs)):=by
 obtain ⟨i0,hi,hz0,hz1,hz2⟩:=info_parts OY;have hb2 : i0.bytes * n ≤ 281474976710656:=iV;have hml : n ≤ maxLen:=bU;have HQ:=hid h;have HE:=hid hE;have HX:=hid hx;have HZ:=hid hz;clear h hE hx hz
 go_enter Tryz.func179,Tryz.ntmps179
 go_wp2_with (first | (at_make; refine wpList_make_full _ rfl _ _ 23 rfl w.heap.size 3 i0 (.int .i64 0) 1 Tryz.underlying23 hi hz0 hz1 .i64 .i64 _ _ n rfl rfl rfl rfl hb2 hml (Nat.le_refl _) ?_; intro w1 hown hgrow))
 have hZ : (madeCells (Value.int .i64 0).cells (n * 1)).toList.length = n * 1:=hown.1;have HF0 : Hid (FLd w 3 1 n (([] : List Int).flatMap dR) (madeCells (Value.int .i64 0).cells (n * 1)).toList w1):=hid ⟨jy,(Below.refl _ _).grown hgrow (Nat.le_refl _) aq⟩;generalize (madeCells (Value.int .i64 0).cells (n * 1)).toList = Z at *;clear hown hgrow hi hz0 hz1 hz2 hb2 hml
 go_loopw [13] (fun i wr => ∃ t : Nat,t ≤ n ∧ i = .int .i64 t ∧ Hid (∃ pre,dI (xs.take t) = some pre ∧ FLd w 3 1 n (pre.flatMap dR) Z wr)) (fun i _ => n - (intOf i).toNat)
 case atStart => exact ⟨0,ae,rfl,hid ⟨[],rfl,HF0.out⟩⟩
 case round =>
  obtain ⟨t,ht,rfl,HF⟩:=hrel;clear HF0
  by_cases hlt : t < n
  ·obtain ⟨x,hxt⟩ : ∃ x,xs[t]? = some x:=⟨_,aN ae⟩;obtain ⟨pre,hpre,hF⟩:=HF.out
   have hpl : pre.length = t:=by rw [pW _ _ hpre,List.length_take,hl]; omega
   have cx : wr.cell? ⟨A,o + t,none⟩ = some (.string x):=ai hF.bel (HX.out t x hxt);have hlt' : (t : Int) < (n : Int):=ae;have hxs:=HZ.out x (List.mem_of_getElem? hxt);have qr:=HQ.out.later hF.bel;have er:=HE.out.later (hF.bel.mono HE.out.bw)
   rcases hv : nmV x with _ | v
   ·have HI:=hid (Lp B R x ln wr er.tens er.errs er.bw ae (qr.cells 9) hv);have hnone:=rU xs t x hxt hv;have HB:=hid hF.bel;clear hF HF hpre qr er hxt;go_wp2_with fail;refine HI.out.mono ?_;rintro e w5 ⟨rfl,hb5⟩;refine ⟨rfl,?_⟩;rw [hnone];exact ⟨HB.out.trans (hb5.mono HB.out.size),rfl⟩
   ·have HI:=hid (pD B R x v wr er.tens er.bw ae hv);have HFr:=hid hF
    have htk : xs.take (t + 1) = xs.take t ++ [x]:=by rw [List.take_add_one,hxt]; rfl
    have HN1:=hid (show dI (xs.take (t + 1)) = some (pre ++ [v]) by rw [htk]; exact rR _ _ x v hpre hv)
    clear hF HF hpre qr er hxt htk;go_wp2_with fail;refine HI.out.mono ?_;rintro e w5 ⟨rfl,hb5⟩;have F5:=hid (HFr.out.later hb5);clear hb5
    obtain ⟨u0,q0⟩:=F5.out.cell hZ (show t < n * 1 by omega)
    have r0:=F5.out.free t;have P0:=hid (F5.out.put (j:=t) zS ae (.int .i64 v));go_wp2_with fail
    exact ⟨⟨t + 1,ae,bB,hid ⟨pre ++ [v],HN1.out,by rw [List.flatMap_append]; exact P0.out⟩⟩,bD⟩
  ·obtain rfl : t = n:=ae;obtain ⟨pre,hpre,hF⟩:=HF.out;rw [List.take_of_length_le ae] at hpre
   have hpl : pre.length = t:=by rw [pW _ _ hpre,hl]
   have hlt' : ¬ (t : Int) < (t : Int):=ae;have HFF:=hid hF;have HPre:=hid hpre;clear hF HF hpre;go_wp2_with fail;go_ret;rw [HPre.out];exact ⟨HFF.out.bel,rfl,HFF.out.full zS⟩
theorem tkD {P : Program} {ops : Array Oper} {Q : Exit → Act → World → Prop} {md : Region.Mode} {S : World → Prop} {i : Nat} {oi : Oper} {d : Option Tmp} {v : Value} {fuel : Nat} {listed : Array Bool} {a : Act} {w : World} (hi : ops[i]? = some oi) (h : wpAnyH P md ops Q S fuel (listed.setIfInBounds i true) (a.put d v) w) (hv : ∀ w,S w → (execOp a.eval oi).run P w = .ok (.value v) w:=by (intro w h; (try dsimp only at h); go_simp; try with_reducible rfl)) (hd : oi.dst = d:=by kernel_rfl)
  (hc : (Region.noSelect ops && Region.free md ops listed i && (Region.ready md ops listed).contains i) = true:=by kernel_rfl) (hw : Region.wanted oi (yielded ops a.tmps) = true:=by kernel_rfl) (hQ : ∀ c a w,Q (.panic c) (a.put d v) w → Q (.panic c) a w:=by exact fun _ _ _ h => h) (hS : S w:=by assumption) : wpAnyH P md ops Q S (fuel + 1) listed a w:=by
 subst hd
 simp only [Bool.and_eq_true] at hc
 exact uh
theorem Ns {w : World} {base base' e k n : Nat} {v : Value} {xs : List Value} (h : w.ownsRow base e k v n xs) (hb : base' ≤ base) : w.ownsRow base' e k v n xs :=
 ⟨h.1,h.2.imp id fun ⟨g,cap,cur,h1,h2,h3⟩ => ⟨g,cap,cur,h1,Nat.le_trans hb h2,h3⟩⟩
theorem Fi {W W' : World} {X base e k n : Nat} {v : Value} {xs : List Value} {cs : Array Value} {t : TypeId} (h : W.ownsRow base e k v n xs) (hk : aJ (fun k => k = X) W W') (hX : W.heap[X]? = some (.cells cs t)) (ht : e ≠ t) : W'.ownsRow base e k v n xs :=
 aW h hk (fun b hb hx => by
  obtain ⟨_,cur,h1⟩:=iD h hb;have e : b = X:=hx;subst e;rw [h1] at hX
  simp only [Option.some.injEq,Obj.cells.injEq] at hX
  exact ht hX.2.1)
theorem G7 (init : List FuM) (t : Int) (lo : ByteArray) (a a' : SLv) (c c' : List InM) : ((init ++ [((t,lo,a,c) : FuM)]).flatMap cm).set (init.length * 3 + 2) (.slice a'.1 a'.2.1 a'.2.2) = (init ++ [((t,lo,a',c') : FuM)]).flatMap cm:=by
 rw [List.flatMap_append,List.flatMap_append,List.flatMap_singleton,List.flatMap_singleton,List.set_append_right _ _ (by rw [gu cm 3 (fun _ => rfl)]; omega),gu cm 3 (fun _ => rfl)]
 congr 1
 rw [show init.length * 3 + 2 - init.length * 3 = 2 by omega]
 rfl
theorem RQ.pushI {base R : Nat} {mp : Value} {m : MM} {ln pt : Int} {w W w' : World} {g cap : Nat} (h : RQ base R mp m ln pt w) (hW : Below w.heap.size w W) {init : List FuM} {t : Int} {lo : ByteArray} {ca : Option Addr} {cn cc : Nat} {code : List InM} (hf : m.fns = init ++ [((t,lo,(ca,cn,cc),code) : FuM)]) {fb : Nat} (hfa : m.fa = some ⟨fb,0,none⟩) (y : InM)
  (hy : w.ownsRow base 3 1 (.slice y.2.2.1.1 y.2.2.1.2.1 y.2.2.1.2.2) y.2.2.1.2.1 (y.2.2.2.flatMap dR)) (ho : w'.ownsRow base 75 3 (.slice (some ⟨g,0,none⟩) (cn + 1) cap) (cn + 1) (code.flatMap cM ++ cM y)) (hg : W.grownBy w' (Value.slice ca cn cc).ownBlock) (hgb : (Value.slice ca cn cc).ownBlock = some g ∨ g = W.heap.size) :
  RQ base R mp { m with fns:=init ++ [((t,lo,(some ⟨g,0,none⟩,cn + 1,cap),code ++ [y]) : FuM)] } ln pt (w'.setCell ⟨fb,init.length * 3 + 2,none⟩ (.slice (some ⟨g,0,none⟩) (cn + 1) cap)) ∧ KR base R w (w'.setCell ⟨fb,init.length * 3 + 2,none⟩ (.slice (some ⟨g,0,none⟩) (cn + 1) cap)):=by
 have hq:=h.later hW;have hR:=h.low
 have hlm : ((t,lo,(ca,cn,cc),code) : FuM) ∈ m.fns:=by rw [hf]; simp
 have hu:=(hq.fo _ hlm).code;have hrf':=bA hq.rf hu hg av;rw [hfa] at hrf';obtain ⟨hfb,cur,hcur⟩:=iD hrf' (b:=fb) rfl;have kS:=aw w' fb (init.length * 3 + 2) (.slice (some ⟨g,0,none⟩) (cn + 1) cap)
 have far : ∀ {e k n : Nat} {v : Value} {xs : List Value},w'.ownsRow base e k v n xs → e ≠ 78 → (w'.setCell ⟨fb,init.length * 3 + 2,none⟩ (.slice (some ⟨g,0,none⟩) (cn + 1) cap)).ownsRow base e k v n xs:=fun h0 he => Fi h0 kS hcur he
 have hlast : m.fns[init.length]? = some ((t,lo,(ca,cn,cc),code) : FuM):=by rw [hf]; simp
 have codes : ∀ (i : Nat) x,init[i]? = some x → w'.ownsRow base 75 3 (.slice x.2.2.1.1 x.2.2.1.2.1 x.2.2.1.2.2) x.2.2.1.2.1 (x.2.2.2.flatMap cM):=fun i x hi => by
  have hil:=aA hi;have hi' : m.fns[i]? = some x:=zq;refine (hq.fo x (List.mem_of_getElem? hi')).code.kept hg ?_
  rcases hv : (Value.slice x.2.2.1.1 x.2.2.1.2.1 x.2.2.1.2.2).ownBlock with _ | b
  ·exact .inl rfl
  ·refine .inr fun hx => ?_
   exact h.fd i init.length x _ b hi' hlast ae hv hx.symm
 refine ⟨⟨?_,hR,?_,?_,?_,?_,?_,?_,?_,?_,?_,?_,?_⟩,((KR.later hW).trans (KR.grow hu hg)).trans ⟨kS.os,kS.tape,kS.output,kS.size,fun k hk hs => kS.block k hk (fun e => hs (.inr (by have e : k = fb:=e; omega)))⟩⟩
 ·exact (kS.block R (aV (gJ hq.blk hR hu hg)) (by show ¬ R = fb; omega)).trans (gJ hq.blk hR hu hg)
 ·exact uC
 ·exact far (bA hq.rt hu hg av) av
 ·exact far (bA hq.rh hu hg av) av
 ·exact far (bA hq.rg hu hg av) av
 ·have h1:=(hrf'.stored (init.length * 3 + 2) (.slice (some ⟨g,0,none⟩) (cn + 1) cap)).1;rw [hf] at h1;rw [G7 init t lo (ca,cn,cc) (some ⟨g,0,none⟩,cn + 1,cap) code (code ++ [y])] at h1
  show (World.setCell _ _ _).ownsRow base 78 3 (.slice m.fa m.fn m.fc) m.fn _
  rw [hfa];exact h1
 ·exact far (bA hq.rd hu hg av) av
 ·exact far (bA hq.re hu hg av) av
 ·intro x hx
  rcases List.mem_append.1 hx with hx | hx
  ·obtain ⟨i,hi⟩:=List.mem_iff_getElem?.1 hx
   have hxm : x ∈ m.fns:=by rw [hf]; exact List.mem_append_left _ hx
   exact ⟨far (codes i x hi) av,fun z hz => far (bA ((hq.fo x hxm).lab z hz) hu hg av) av⟩
  ·rw [List.mem_singleton] at hx;subst hx
   refine ⟨far (by dsimp only; rw [List.flatMap_append,List.flatMap_singleton]; exact ho) av,fun z hz => ?_⟩
   rcases List.mem_append.1 hz with hz | hz
   ·exact far (bA ((hq.fo _ hlm).lab z hz) hu hg av) av
   ·rw [List.mem_singleton] at hz;subst hz;exact far (bA (gy hy hW) hu hg av) av
 ·have key : ∀ (i : Nat) x k,init[i]? = some x → fcb x = some k → k ≠ g:=fun i x k hi hk e => by
   subst e;have hil:=aA hi;have hi' : m.fns[i]? = some x:=zq
   rcases hgb with hgb | hgb
   ·exact h.fd i init.length x _ k hi' hlast ae hk hgb
   ·obtain ⟨_,cur2,h2⟩:=iD (hq.fo x (List.mem_of_getElem? hi')).code hk
    have:=aV h2
    omega
  have hnew : fcb ((t,lo,(some ⟨g,0,none⟩,cn + 1,cap),code ++ [y]) : FuM) = some g:=rfl;intro i j x z k hi hj hij hk hkz;dsimp only at hi hj
  rcases Nat.lt_or_ge i init.length with hil | hil
  ·rw [List.getElem?_append_left hil] at hi
   rcases Nat.lt_or_ge j init.length with hjl | hjl
   ·rw [List.getElem?_append_left hjl] at hj;have hi' : m.fns[i]? = some x:=zq
    have hj' : m.fns[j]? = some z:=by rw [hf,List.getElem?_append_left hjl]; exact hj
    exact h.fd i j x z k hi' hj' hij hk hkz
   ·rw [List.getElem?_append_right hjl] at hj
    have:=List.mem_of_getElem? hj
    rw [List.mem_singleton] at this;subst this;rw [hnew] at hkz
    cases hkz
    exact key i x g hi hk rfl
  ·rw [List.getElem?_append_right hil] at hi;have hx:=List.mem_of_getElem? hi;rw [List.mem_singleton] at hx;subst hx;rw [hnew] at hk
   cases hk
   rcases Nat.lt_or_ge j init.length with hjl | hjl
   ·rw [List.getElem?_append_left hjl] at hj;exact key j z g hj hkz rfl
   ·rw [List.getElem?_append_right hjl] at hj;have h1:=aA hi;have h2:=aA hj
    simp at h1 h2
    omega
 ·exact fun x hx => far (bA (hq.dd x hx) hu hg av) av
 ·intro hp
  have:=h.nf hp
  rw [hf] at this
  simp at this
end Go.Proofs.YtheefojaplnnoaaGreatDoor

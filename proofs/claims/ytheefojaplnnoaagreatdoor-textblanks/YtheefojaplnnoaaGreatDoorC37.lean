/-
  Texts Ud Ut Vii Ma Xv.
-/
import Derived.Below
import Derived.BigQuiet
import Derived.ChangeArms
import Derived.ChangeOld
import Derived.Deep.DeepHandedRow
import Derived.Deep.QuietTactic
import Derived.Deep.Strs
import Derived.LaidMore
import Derived.Lay
import Derived.OpenShut
import Derived.ProofKit
import Derived.ShutString
import Derived.SizedLaws
import Derived.Test.YtheefojaplnnoaaGreatDoorC00
import Derived.Test.YtheefojaplnnoaaGreatDoorC03
import Derived.Test.YtheefojaplnnoaaGreatDoorC04
import Derived.Test.YtheefojaplnnoaaGreatDoorC18
import Derived.Test.YtheefojaplnnoaaGreatDoorC36
set_option linter.unusedVariables false
set_option maxRecDepth 100000
set_option maxHeartbeats 16000000
namespace Go.Proofs.YtheefojaplnnoaaGreatDoor
open Go.RowKit
def wkW (w : World) : World:=((((w.alloc (Obj.cells #[Value.string ⟨#[119]⟩,Value.string ⟨#[]⟩] 73)).alloc (Obj.cells #[Value.int IntKind.i64 0,Value.int IntKind.i64 1] 3)).alloc (Obj.cells #[Value.int IntKind.u8 9,Value.int IntKind.i64 0,Value.slice (some ⟨w.heap.size + 1,0,none⟩) 2 2,Value.int IntKind.u8 6,Value.int IntKind.i64 0,Value.slice none 0 0] 75)).alloc (Obj.cells #[Value.int IntKind.i64 0,Value.string ⟨#[108]⟩,Value.slice (some ⟨w.heap.size + 1 + 1,0,none⟩) 2 2] 78)).alloc (Obj.cells (mV (wkM w.heap.size)) 29)
theorem M5 (w : World) : jQ w.heap.size (wkW w) ∧ (wkW w).heap[w.heap.size + 1 + 1 + 1 + 1]? = some (.cells (mV (wkM w.heap.size)) 29) ∧ Below w.heap.size w (wkW w) ∧ w.heap.size + 1 + 1 + 1 + 1 < (wkW w).heap.size:=by
 obtain ⟨y0,h0⟩ : ∃ y,w.alloc (Obj.cells #[Value.string ⟨#[119]⟩,Value.string ⟨#[]⟩] 73) = y:=⟨_,rfl⟩;obtain ⟨y1,h1⟩ : ∃ y,y0.alloc (Obj.cells #[Value.int IntKind.i64 0,Value.int IntKind.i64 1] 3) = y:=⟨_,rfl⟩;obtain ⟨y2,h2⟩ : ∃ y,y1.alloc (Obj.cells #[Value.int IntKind.u8 9,Value.int IntKind.i64 0,Value.slice (some ⟨w.heap.size + 1,0,none⟩) 2 2,Value.int IntKind.u8 6,Value.int IntKind.i64 0,Value.slice none 0 0] 75) = y:=⟨_,rfl⟩;obtain ⟨y3,h3⟩ : ∃ y,y2.alloc (Obj.cells #[Value.int IntKind.i64 0,Value.string ⟨#[108]⟩,Value.slice (some ⟨w.heap.size + 1 + 1,0,none⟩) 2 2] 78) = y:=⟨_,rfl⟩;obtain ⟨y4,h4⟩ : ∃ y,y3.alloc (Obj.cells (mV (wkM w.heap.size)) 29) = y:=⟨_,rfl⟩
 have e : wkW w = y4:=by unfold wkW; rw [h0,h1,h2,h3,h4]
 have z0 : y0.heap.size = w.heap.size + 1:=by rw [← h0]; simp
 have z1 : y1.heap.size = w.heap.size + 1 + 1:=by rw [← h1]; simp [z0]
 have z2 : y2.heap.size = w.heap.size + 1 + 1 + 1:=by rw [← h2]; simp [z1]
 have z3 : y3.heap.size = w.heap.size + 1 + 1 + 1 + 1:=by rw [← h3]; simp [z2]
 have z4 : y4.heap.size = w.heap.size + 1 + 1 + 1 + 1 + 1:=by rw [← h4]; simp [z3]
 have b0:=h0 ▸ ag w (Obj.cells #[Value.string ⟨#[119]⟩,Value.string ⟨#[]⟩] 73);have b1:=h1 ▸ ag y0 (Obj.cells #[Value.int IntKind.i64 0,Value.int IntKind.i64 1] 3);have b2:=h2 ▸ ag y1 (Obj.cells #[Value.int IntKind.u8 9,Value.int IntKind.i64 0,Value.slice (some ⟨w.heap.size + 1,0,none⟩) 2 2,Value.int IntKind.u8 6,Value.int IntKind.i64 0,Value.slice none 0 0] 75);have b3:=h3 ▸ ag y2 (Obj.cells #[Value.int IntKind.i64 0,Value.string ⟨#[108]⟩,Value.slice (some ⟨w.heap.size + 1 + 1,0,none⟩) 2 2] 78);have b4:=h4 ▸ ag y3 (Obj.cells (mV (wkM w.heap.size)) 29)
 have c0 : y0.heap[w.heap.size]? = some (Obj.cells #[Value.string ⟨#[119]⟩,Value.string ⟨#[]⟩] 73):=by rw [← h0]; exact heap_alloc_new _ _
 have c1 : y1.heap[w.heap.size + 1]? = some (Obj.cells #[Value.int IntKind.i64 0,Value.int IntKind.i64 1] 3):=by rw [← h1,← z0]; exact heap_alloc_new _ _
 have c2 : y2.heap[w.heap.size + 1 + 1]? = some (Obj.cells #[Value.int IntKind.u8 9,Value.int IntKind.i64 0,Value.slice (some ⟨w.heap.size + 1,0,none⟩) 2 2,Value.int IntKind.u8 6,Value.int IntKind.i64 0,Value.slice none 0 0] 75):=by rw [← h2,← z1]; exact heap_alloc_new _ _
 have c3 : y3.heap[w.heap.size + 1 + 1 + 1]? = some (Obj.cells #[Value.int IntKind.i64 0,Value.string ⟨#[108]⟩,Value.slice (some ⟨w.heap.size + 1 + 1,0,none⟩) 2 2] 78):=by rw [← h3,← z2]; exact heap_alloc_new _ _
 have c4 : y4.heap[w.heap.size + 1 + 1 + 1 + 1]? = some (Obj.cells (mV (wkM w.heap.size)) 29):=by rw [← h4,← z3]; exact heap_alloc_new _ _
 rw [e];refine ⟨⟨?_,?_,?_,?_⟩,c4,?_,ae⟩
 ·exact ak b4 (ak b3 (ak b2 (ak b1 c0)))
 ·exact ak b4 (ak b3 (ak b2 c1))
 ·exact ak b4 (ak b3 c2)
 ·exact ak b4 c3
 ·exact (((b0.trans (b1.mono b0.size)).trans (b2.mono ae)).trans (b3.mono ae)).trans (b4.mono ae)
theorem qF.up {B B' : Nat} {w : World} (h : qF B w) (hb : B ≤ B') : qF B' w :=
 ⟨h.syn.imp fun _ ⟨p,h⟩ => ⟨p,fun W hW => h W (hW.mono hb)⟩,h.ran.imp fun _ ⟨p,h⟩ => ⟨p,fun W hW => h W (hW.mono hb)⟩⟩
theorem Nr {w w' : World} {e : Ending} (h : qM wkT w e w') : ∃ m,pl m = wkP ∧ MSr w' m ∧ e = rt3 (mV m) 0 0 ∧ Below w.heap.size w w':=by
 obtain ⟨hb,-,h2⟩:=h;have h3:=((h2 aq _ _ Ee).2 _ _ rfl).2 aq;obtain ⟨m,hpl,hlen,hpr,-,h5⟩:=h3;have hc : cS m = 0:=(Fp hlen (Mm 0) (hpl.trans (LC 0).symm)).trans (yY 0);obtain ⟨he,base,R,mp,ln,hR,hq⟩:=h5 hc
 exact ⟨m,hpl,(hq.mok (by rw [hpl]; exact hpr) _ _ (Nat.le_refl _) (Nat.le_refl _)).sr (nv hc),he,hb⟩
theorem JL {w w' : World} {e : Ending} (h : qM wkE w e w') : e = rt3 zV 22 2 ∧ Below w.heap.size w w':=by
 obtain ⟨hb,-,h2⟩:=h;exact ⟨(h2 aq _ _ DC).1 rfl,hb⟩
theorem Nu (w : World) (hE : bY w.heap.size w) : Calls Tryz.prog 8 #[] w fun e w' => e = .returned (.bool true) ∧ Below w.heap.size w w':=by
 have HE:=hid (fun (W : World) (hb : Below w.heap.size w W) => (⟨(hE.later hb).tens.up hb.size,(hE.later hb).errs.up hb.size,(hE.later hb).kinds,(hE.later hb).mx,Nat.lt_of_lt_of_le hE.b3 hb.size,Nat.le_refl _⟩ : bY W.heap.size W))
 obtain ⟨ha,hm,hb,hl⟩:=M5 w;have H11:=hid (sw w.heap.size (wkM w.heap.size) (wkW w) hb.size (hE.later hb).tens (hE.later hb).kinds ha.ok (JN _));rw [MH,yY] at H11;have HA:=hid ha;have HM:=hid hm;have HB:=hid hb;have HL:=hid hl
 have HEQ:=hid (fun (m : MM) (W : World) (h1 : MSr W m) (h2 : jQ w.heap.size W) (hp : pl m = wkP) => LN h2.sr h1 (LR (hp.symm ▸ LC w.heap.size) h2.sr h1))
 clear hE ha hm hb hl
 go_enter Tryz.func8,Tryz.ntmps8
 go_wp2_with fail
 change Calls Tryz.prog 11 #[.agg (mV (wkM w.heap.size))] (wkW w) _
 generalize wkW w = W0 at *;refine H11.out.mono ?_;rintro e w1 ⟨rfl,hb1⟩
 replace HA:=hid (HA.out.later hb1)
 replace HM:=hid (ak hb1 HM.out)
 replace HB:=hid (HB.out.trans (hb1.mono HB.out.size))
 clear hb1 H11 HL;have H15:=hid (tP wkT w1 (HE.out w1 HB.out));have e0 : wkT = ⟨#[102,108,97,103,111,110,10,116,121,112,101,32,119,32,45,62,32,45,10,109,101,109,111,114,121,32,49,32,50,10,102,117,110,99,32,48,32,108,10,32,32,98,114,116,97,98,108,101,32,48,32,49,10,32,32,101,110,100,10]⟩:=rfl;rw [← e0]
 have HPA:=hid (fun (e : Ending) (w' : World) => Nr (w:=w1) (e:=e) (w':=w'))
 clear e0;generalize wkT = T at *;go_wp2_with fail;refine H15.out.mono ?_;intro e w2 hp;obtain ⟨m,hpl,hms,rfl,hb2⟩:=HPA.out _ _ hp
 replace HA:=hid (HA.out.later hb2)
 replace HM:=hid (ak hb2 HM.out)
 replace HB:=hid (HB.out.trans (hb2.mono HB.out.size))
 have HMS:=hid hms;have HPL:=hid hpl;clear hp hb2 H15 HPA hms hpl;unfold rt3 mV;go_wp2_with fail;have BN:=ag w2 (ck m.ta m.tn m.tc m.ha m.hn m.hc m.ga m.gn m.gc m.fi m.mo m.fa m.fn m.fc m.da m.dn m.dc m.ea m.en m.ec);have bx:=heap_alloc_new w2 (ck m.ta m.tn m.tc m.ha m.hn m.hc m.ga m.gn m.gc m.fi m.mo m.fa m.fn m.fc m.da m.dn m.dc m.ea m.en m.ec)
 replace HA:=hid (HA.out.later BN)
 replace HM:=hid (ak BN HM.out)
 replace HB:=hid (HB.out.trans (BN.mono HB.out.size))
 replace HMS:=hid (HMS.out.later BN)
 have HX:=hid bx;clear BN bx;generalize w2.alloc (ck m.ta m.tn m.tc m.ha m.hn m.hc m.ga m.gn m.gc m.fi m.mo m.fa m.fn m.fc m.da m.dn m.dc m.ea m.en m.ec) = w3 at *;generalize w2.heap.size = X at *;have H15:=hid (tP wkE w3 (HE.out w3 HB.out));unfold wkE at H15;refine H15.out.mono ?_;intro e w4 hp;obtain ⟨rfl,hb4⟩:=JL hp
 replace HA:=hid (HA.out.later hb4)
 replace HM:=hid (ak hb4 HM.out)
 replace HX:=hid (ak hb4 HX.out)
 replace HB:=hid (HB.out.trans (hb4.mono HB.out.size))
 replace HMS:=hid (HMS.out.later hb4)
 clear hp hb4 H15;unfold rt3 zV;have BN:=ag w4 (ck none 0 0 none 0 0 none 0 0 0 0 none 0 0 none 0 0 none 0 0)
 replace HA:=hid (HA.out.later BN)
 replace HM:=hid (ak BN HM.out)
 replace HX:=hid (ak BN HX.out)
 replace HB:=hid (HB.out.trans (BN.mono HB.out.size))
 replace HMS:=hid (HMS.out.later BN)
 clear BN;have HQ:=hid (HEQ.out m _ HMS.out HA.out HPL.out);unfold wkM mV at HQ HM;dsimp only at HQ HM;obtain ⟨⟨m0,m1,m2,m3,m4,m5,m6,m7⟩,-⟩:=av HX.out;obtain ⟨⟨n0,n1,n2,n3,n4,n5,n6,n7⟩,-⟩:=av HM.out;have hTT : (T.toList == T.toList) = true:=ar;go_wp2_with fail;refine HQ.out.mono ?_;rintro e w6 ⟨rfl,hb6⟩;have HB6:=hid (HB.out.trans (hb6.mono HB.out.size));clear hb6;go_wp2_with fail;go_ret;exact ⟨rfl,HB6.out⟩
theorem bY.top {B : Nat} {w W : World} (h : bY B w) (hb : Below B w W) : bY W.heap.size W :=
 ⟨(h.later hb).tens.up (Nat.le_trans h.bw hb.size),(h.later hb).errs.up (Nat.le_trans h.bw hb.size),(h.later hb).kinds,(h.later hb).mx,Nat.lt_of_lt_of_le h.b3 (Nat.le_trans h.bw hb.size),Nat.le_refl _⟩
theorem yZ (a : Option Addr) (cap : Nat) (w : World) : Calls Tryz.prog 24 #[.slice a 0 cap] w fun e w' => e = .returned (.int .i64 0) ∧ w' = w:=by
 go_enter Tryz.func24,Tryz.ntmps24
 go_wp2_with fail;refine wp_loop_rounds 1 ?_;rw [rounds_succ];exact kz
def szG : List InM → Nat → Nat
 | [],z => z
 | x :: r,z => if z ≤ 2147483647 then szG r (z + x.2.2.1.2.1) else z
theorem sj {x : InM} {r : List InM} {z : Nat} (h : z ≤ 2147483647) : szG (x :: r) z = szG r (z + x.2.2.1.2.1):=by simp [szG,h]
theorem sY {x : InM} {r : List InM} {z : Nat} (h : ¬ z ≤ 2147483647) : szG (x :: r) z = z:=by simp [szG,h]
def iJ (l : List DaM) : Nat:=(l.map fun x => x.2.1.2.1).sum
theorem CN {l : List DaM} {k : Nat} {x : DaM} (h : l[k]? = some x) : iJ (l.take (k + 1)) = iJ (l.take k) + x.2.1.2.1:=by
 rw [cu h]; simp [iJ]
theorem Ir {l : List DaM} {n : Nat} (h : l.length = n) : iJ (l.take n) = iJ l:=sP
def mP (l : List Sg) : Nat:=(l.map fun x => x.1.size + x.2.size).sum
def eG (l : List FuM) : Nat:=(l.map fun x => x.2.1.size + szG x.2.2.2 x.2.2.1.2.1).sum
def jG (l : List Ex) : Nat:=(l.map fun x => x.1.size).sum
theorem Dt {l : List Sg} {k : Nat} {x : Sg} (h : l[k]? = some x) : mP (l.take (k + 1)) = mP (l.take k) + (x.1.size + x.2.size):=by
 rw [cu h]; simp [mP]
theorem xC {l : List FuM} {k : Nat} {x : FuM} (h : l[k]? = some x) : eG (l.take (k + 1)) = eG (l.take k) + (x.2.1.size + szG x.2.2.2 x.2.2.1.2.1):=by
 rw [cu h]; simp [eG]
theorem CW {l : List Ex} {k : Nat} {x : Ex} (h : l[k]? = some x) : jG (l.take (k + 1)) = jG (l.take k) + x.1.size:=by
 rw [cu h]; simp [jG]
theorem G7 {l : List Sg} {n : Nat} (h : l.length = n) : mP (l.take n) = mP l:=sP
theorem Dq {l : List FuM} {n : Nat} (h : l.length = n) : eG (l.take n) = eG l:=sP
theorem Fi {l : List Ex} {n : Nat} (h : l.length = n) : jG (l.take n) = jG l:=sP
theorem A6 : ∀ (xs : List InM) (z : Nat),(∀ (j : Nat) x,xs[j]? = some x → x.2.2.1.2.1 ≤ 140737488355328) → z ≤ 281474976710656 → szG xs z ≤ 281474976710656
 | [],z,_,hz => hz
 | x :: r,z,hl,hz => by
  unfold szG
  split
  ·refine A6 r _ (fun j y hj => hl (j + 1) y (by simpa using hj)) ?_
   have:=hl 0 x rfl
   omega
  ·exact hz
structure SzC (w : World) (m : MM) : Prop where
 tn : m.tn ≤ 140737488355328
 hn : m.hn ≤ 140737488355328
 gn : m.gn ≤ 140737488355328
 fn : m.fn ≤ 140737488355328
 dn : m.dn ≤ 140737488355328
 en : m.en ≤ 140737488355328
 t : ∀ (j : Nat) x,m.types[j]? = some x → x.1.size ≤ 140737488355328 ∧ x.2.size ≤ 140737488355328
 f : ∀ (j : Nat) x,m.fns[j]? = some x → x.2.1.size ≤ 140737488355328 ∧ x.2.2.1.2.1 ≤ 140737488355328 ∧ gV w x.2.2.1.1 x.2.2.1.2.1 x.2.2.2 ∧ ∀ (i : Nat) y,x.2.2.2[i]? = some y → y.2.2.1.2.1 ≤ 140737488355328
 d : ∀ (j : Nat) x,m.data[j]? = some x → x.2.1.2.1 ≤ 140737488355328
 e : ∀ (j : Nat) x,m.exps[j]? = some x → x.1.size ≤ 140737488355328
theorem ye (b off cn cap : Nat) (xs : List InM) (w : World) (hn : cn ≤ 140737488355328) (hx : xs.length = cn)
  (hc : ∀ (j : Nat) x,xs[j]? = some x → w.cell? ⟨b,off + j * 3 + 2,none⟩ = some (.slice x.2.2.1.1 x.2.2.1.2.1 x.2.2.1.2.2)) (hl : ∀ (j : Nat) x,xs[j]? = some x → x.2.2.1.2.1 ≤ 140737488355328) :
  Calls Tryz.prog 24 #[.slice (some ⟨b,off,none⟩) cn cap] w fun e w' => e = .returned (.int .i64 (szG xs cn : Nat)) ∧ ∃ q,w' = w.drewN q:=by
 have HC:=hid hc;have HL:=hid hl;clear hc hl
 go_enter Tryz.func24,Tryz.ntmps24
 go_wp2_with fail
 go_loopw [3,4] (fun s i wr => ∃ k z : Nat,k ≤ cn ∧ s = .int .i64 (z : Nat) ∧ i = .int .i64 k ∧ (∃ m,wr = w.drewN m) ∧ z ≤ 281474976710656 ∧ szG (xs.drop k) z = szG xs cn) (fun _ i _ => cn - (intOf i).toNat)
 case atStart => exact ⟨0,cn,ae,rfl,rfl,⟨0,rfl⟩,ae,rfl⟩
 case round =>
  obtain ⟨k,z,hk,rfl,rfl,⟨m,rfl⟩,hsz,hG⟩:=hrel;have HG:=hid hG;clear hG
  by_cases hlt : k < cn
  ·obtain ⟨x,hxk⟩ : ∃ x,xs[k]? = some x:=⟨_,aD ae⟩
   have hdr : xs.drop k = x :: xs.drop (k + 1):=by
    have hlk : k < xs.length:=ae;rw [List.drop_eq_getElem_cons hlk]
    have:=aD hlk
    rw [hxk] at this;rw [Option.some.inj this]
   have HD:=hid hdr;clear hdr
   by_cases hbd : z ≤ 2147483647
   ·have g:=HC.out k x hxk;have hln:=HL.out k x hxk;have hlt' : (k : Int) < (cn : Int):=ae;have hbd' : (z : Int) ≤ 2147483647:=ae;go_wp2_with fail;refine ⟨⟨k + 1,z + x.2.2.1.2.1,ae,bZ,bZ,⟨m,rfl⟩,ae,?_⟩,b9⟩;have h:=HG.out;rw [HD.out,sj hbd] at h;exact h
   ·have hlt' : (k : Int) < (cn : Int):=ae;have hbd' : ¬ (z : Int) ≤ 2147483647:=ae;go_wp2_with fail;go_ret;have h:=HG.out;rw [HD.out,sY hbd] at h
    exact ⟨by rw [← h]; rfl,m,rfl⟩
  ·obtain rfl : k = cn:=ae;go_wp2_with fail;go_ret;have h:=HG.out;rw [List.drop_eq_nil_of_le ae] at h
   exact ⟨by rw [← h]; rfl,m,rfl⟩
theorem J2 (a : Option Addr) (cn cap : Nat) (xs : List InM) (w : World) (hn : cn ≤ 140737488355328) (hc : gV w a cn xs) (hl : ∀ (j : Nat) x,xs[j]? = some x → x.2.2.1.2.1 ≤ 140737488355328) :
  Calls Tryz.prog 24 #[.slice a cn cap] w fun e w' => e = .returned (.int .i64 (szG xs cn : Nat)) ∧ ∃ q,w' = w.drewN q:=by
 by_cases h0 : cn = 0
 ·subst h0;have : xs = []:=List.length_eq_zero_iff.1 hc.1;subst this
  exact (yZ a cap w).mono fun e w' ⟨he,hw⟩ => ⟨he,0,hw⟩
 ·rcases hc.2 with h | ⟨b,off,rfl,hcd⟩
  ·exact absurd h h0
  ·exact ye b off cn cap xs w hn hc.1 (fun j x hj => (hcd j x hj).2.2) hl
open Go.ChangeShapes Go.WideShapes Go.ChangeAt Go.RowKit
theorem xe {α : Type} {P : Nat → α → Prop} : ∀ (n : Nat),(∀ j,j < n → ∃ x,P j x) → ∃ xs : List α,xs.length = n ∧ ∀ j x,xs[j]? = some x → P j x
 | 0,_ => ⟨[],rfl,fun j x h => eY⟩
 | n + 1,h => by
  obtain ⟨xs,hl,hx⟩:=xe n (fun j hj => h j ae)
  obtain ⟨y,hy⟩:=h n ae
  refine ⟨xs ++ [y],by simp [hl],fun j x hj => ?_⟩
  by_cases hjn : j < xs.length
  ·rw [List.getElem?_append_left hjn] at hj;exact hx j x hj
  ·rw [List.getElem?_append_right ae] at hj
   have hj0 : j - xs.length = 0:=by
    rcases Nat.eq_zero_or_pos (j - xs.length) with h | h
    ·exact h
    ·rw [List.getElem?_eq_none aL] at hj; cases hj
   rw [hj0] at hj
   simp at hj
   subst hj;obtain rfl : j = n:=ae;exact hy
theorem jD {H : Type} {P : Program} {e : TypeId} : ∀ {l : List (DataW H)} {d : DataW H},d ∈ l → ∀ n ∈ d.weights P e,n ∈ DataW.weightsAll P e l
 | x :: r,d,h,n,hn => by
  simp only [DataW.weightsAll,List.mem_append]
  rcases List.mem_cons.1 h with rfl | h
  ·exact .inl hn
  ·exact .inr (jD h n hn)
theorem aO {H : Type} {P : Program} {t u : TypeId} {fs : Array Field} {ys : List (DataW H × List MemPlace)} {y : DataW H × List MemPlace} {j : Nat} (ht : P.underlying t = some (.struct fs)) (hj : (fs.toList.map (·.type))[j]? = some u) (hy : ys[j]? = some y) {r : Nat} (hw : ∀ n ∈ (DataW.agg (ys.map (·.1))).weights P t,n ≤ r) : ∀ n ∈ y.1.weights P u,n ≤ r:=by
 intro n hn;refine hw n ?_
 simp only [DataW.weights,ht]
 exact DataW.weights_mem_each hj (by rw [List.getElem?_map,hy]; rfl) n hn
structure dV {α : Type} (W : World) (c : Nat) (F : α → List Value) (a : Option Addr) (n cap : Nat) (xs : List α) : Prop where
 cap_ : n ≤ cap
 big : n ≤ 140737488355328
 len : xs.length = n
 lt : ∀ b off s,nz n a = some ⟨b,off,s⟩ → b < W.heap.size
 at_ : n = 0 ∨ ∃ b off,a = some ⟨b,off,none⟩ ∧ ∀ j x,xs[j]? = some x → ∀ i v,(F x)[i]? = some v → W.cell? ⟨b,off + j * c + i,none⟩ = some v
section
variable {H : Type} {enc : TypeId × Value → H} {W : World}
theorem di {α : Type} {t e : TypeId} {c B : Nat} (F : α → List Value) (G : α → Prop) (ht : Tryz.prog.underlying t = some (.slice e)) (hc : Tryz.prog.cellsOf e = c) (h1 : 1 ≤ c) (hB : Tryz.prog.bytesOf e = B) (hB1 : 1 ≤ B)
  (hel : ∀ fuel ys y,DataW.trod enc Tryz.prog W 0 (fun _ => true) true fuel e ys = some y → (∀ n ∈ y.1.weights Tryz.prog e,n ≤ reachBytes) → ∃ a : α,ys = F a ∧ G a)
  {fuel : Nat} {cs : List Value} {x : DataW H × List MemPlace} (h : DataW.trod enc Tryz.prog W 0 (fun _ => true) true fuel t cs = some x) (hw : ∀ n ∈ x.1.weights Tryz.prog t,n ≤ reachBytes) :
  ∃ (a : Option Addr) (n cap : Nat) (xs : List α),cs = [.slice a n cap] ∧ dV W c F a n cap xs ∧ ∀ (j : Nat) x,xs[j]? = some x → G x:=by
 rcases DataW.trod_slice ht h with ⟨hcs,_⟩ | ⟨x,len,cap,elems,rest,n,_,hcs,hx,hb,hl,hm,hlen,hem,hsp,hns⟩
 ·exact ⟨none,0,0,[],hcs,⟨Nat.le_refl _,ae,rfl,fun b off s h => by simp [nz] at h,.inl rfl⟩,fun j x hj => by simp at hj⟩
 ·have hd:=congrArg Prod.fst hx
  simp only at hd
  rw [hd] at hw
  have hbound : len ≤ 140737488355328:=by
   have h2:=hw ((elems.length + rest.length) * B) (by simp [DataW.weights,ht,hB])
   simp only [reachBytes] at h2
   have h3 : (elems.length + rest.length) * 1 ≤ (elems.length + rest.length) * B:=Nat.mul_le_mul_left _ hB1;omega
  by_cases h0 : len = 0
  ·subst h0
   exact ⟨_,0,cap,[],hcs,⟨Nat.zero_le _,ae,rfl,fun b off s h => by simp [nz] at h,.inl rfl⟩,fun j x hj => by simp at hj⟩
  obtain ⟨b,off,spot⟩:=x
  have hadd0 : ∀ (y : Addr),y.add 0 = y:=by intro y; cases y with | mk p q r => cases r <;> simp [Addr.add]
  have hstep : ∀ j,j < len → ∃ y : α,(F y).length = c ∧ G y ∧ ∀ i,i < c → W.cell? (((⟨b,off,spot⟩ : Addr).add (j * c)).add i) = (F y)[i]?:=by
   intro j hj;have he:=hem j hj;rw [aD ae] at he;obtain ⟨ys,hys,htr⟩:=Option.bind_eq_some_iff.1 he;rw [hc] at hys;obtain ⟨_,hlc,hcell⟩:=World.cells?_some hys
   have hmem : (elems[j]'(ae)).1 ∈ elems.map (·.1):=List.mem_map.2 ⟨_,List.getElem_mem _,rfl⟩
   obtain ⟨y,rfl,hG⟩:=hel _ _ _ htr (fun n hn => hw n (by
    have hin:=jD (P:=Tryz.prog) (e:=e) hmem n hn
    simp only [DataW.weights,ht,List.mem_cons,List.mem_append]
    exact .inr (.inl hin)))
   exact ⟨y,hlc,hG,hcell⟩
  have hspot : spot = none:=by
   obtain ⟨y,hy,_,hcl⟩:=hstep 0 ae;have h2:=hcl 0 ae;rw [aD ae] at h2
   have:=World.cell?_spot h2
   simpa [Addr.add] using this
  subst hspot
  have hplain : ∀ (p q i : Nat),(⟨p,q,none⟩ : Addr).add i = ⟨p,q + i,none⟩:=by intro p q i; unfold Addr.add; split <;> simp_all
  obtain ⟨xs,hxl,hxs⟩:=xe (P:=fun j (y : α) => (F y).length = c ∧ G y ∧ ∀ i,i < c → W.cell? ⟨b,off + j * c + i,none⟩ = (F y)[i]?) len (fun j hj => by
   obtain ⟨y,q1,q2,q3⟩:=hstep j hj
   exact ⟨y,q1,q2,fun i hi => by have:=q3 i hi; rwa [hplain,hplain] at this⟩)
  refine ⟨_,len,cap,xs,hcs,⟨hl,hbound,hxl,fun b' off' s' hb' => ?_,.inr ⟨b,off,rfl,fun j x hj i v hv => ?_⟩⟩,fun j x hj => (hxs j x hj).2.1⟩
  ·have e:=Ab hb'
   cases e
   obtain ⟨y,hy,_,hcl⟩:=hstep 0 ae;have h2:=hcl 0 ae;rw [aD ae,hplain,hplain] at h2;exact World.block_lt_of_cell? W _ h2
  ·have hi : i < (F x).length:=(List.getElem?_eq_some_iff.1 hv).1;have q:=hxs j x hj;rw [q.1] at hi;rw [q.2.2 i hi];exact hv
theorem kG {t : TypeId} (ht : Tryz.prog.underlying t = some .string) {fuel : Nat} {cs : List Value} {x : DataW H × List MemPlace} (h : DataW.trod enc Tryz.prog W 0 (fun _ => true) true fuel t cs = some x) (hw : ∀ n ∈ x.1.weights Tryz.prog t,n ≤ reachBytes) : ∃ s : ByteArray,cs = [.string s] ∧ s.size ≤ 140737488355328:=by
 obtain ⟨s,hs,hx,_⟩:=DataW.trod_string ht h;refine ⟨s,hs,?_⟩;rw [hx] at hw
 have:=hw s.data.toList.length (by unfold DataW.weights; exact List.mem_singleton.2 rfl)
 simp only [reachBytes] at this
 have e : s.size = s.data.toList.length:=by rw [Array.length_toList]; rfl
 omega
theorem vU : Tryz.prog.cellsOf 73 = 2:=ai
theorem je : Tryz.prog.cellsOf 3 = 1:=ai
theorem qU : Tryz.prog.cellsOf 102 = 3:=ai
theorem vR : Tryz.prog.cellsOf 78 = 3:=ai
theorem vQ : Tryz.prog.cellsOf 81 = 2:=ai
theorem uR : Tryz.prog.cellsOf 83 = 2:=ai
theorem wW : Tryz.prog.cellsOf 75 = 3:=ai
theorem o8 : Tryz.prog.cellsOf 5 = 1:=ai
theorem oX : Tryz.prog.cellsOf 9 = 1:=ai
theorem J5 : Tryz.prog.cellsOf 4 = 1:=ai
theorem DG : Tryz.prog.cellsOf 100 = 1:=ai
theorem KC : Tryz.prog.cellsOf 2 = 1:=ai
theorem IC : Tryz.prog.cellsOf 76 = 1:=ai
theorem uZ : Tryz.prog.cellsOf 23 = 1:=ai
theorem GC : Tryz.prog.cellsOf 63 = 1:=ai
theorem FY : Tryz.prog.cellsOf 22 = 1:=ai
theorem Hg : Tryz.prog.cellsOf 24 = 1:=ai
theorem Fh : Tryz.prog.cellsOf 25 = 1:=ai
theorem ER : Tryz.prog.cellsOf 26 = 1:=ai
theorem FL : Tryz.prog.cellsOf 27 = 1:=ai
theorem Fb : Tryz.prog.cellsOf 29 = 8:=ai
theorem Fg : Tryz.prog.bytesOf 73 = 32:=ai
theorem zP : Tryz.prog.bytesOf 3 = 8:=ai
theorem De : Tryz.prog.bytesOf 102 = 16:=ai
theorem Hl : Tryz.prog.bytesOf 78 = 48:=ai
theorem I8 : Tryz.prog.bytesOf 81 = 32:=ai
theorem EJ : Tryz.prog.bytesOf 83 = 24:=ai
theorem Ig : Tryz.prog.bytesOf 75 = 40:=ai
theorem CC : Tryz.prog.bytesOf 5 = 1:=ai
theorem tV {fuel : Nat} {cs : List Value} {x : DataW H × List MemPlace} (h : DataW.trod enc Tryz.prog W 0 (fun _ => true) true fuel 3 cs = some x) (hw : ∀ n ∈ x.1.weights Tryz.prog 3,n ≤ reachBytes) : ∃ a : Int,cs = [.int .i64 a] ∧ (-9223372036854775808 ≤ a ∧ a < 9223372036854775808):=by
 obtain ⟨n,h1,_,wf⟩:=DataW.trod_int Tryz.underlying3 h
 have:=bounds_i64 wf
 exact ⟨n,h1,ae,ae⟩
theorem GP {fuel : Nat} {cs : List Value} {x : DataW H × List MemPlace} (h : DataW.trod enc Tryz.prog W 0 (fun _ => true) true fuel 5 cs = some x) (hw : ∀ n ∈ x.1.weights Tryz.prog 5,n ≤ reachBytes) : ∃ a : Int,cs = [.int .u8 a] ∧ (0 ≤ a ∧ a ≤ 255):=by
 obtain ⟨n,h1,_,wf⟩:=DataW.trod_int Tryz.underlying5 h
 have:=bounds_u8 wf
 exact ⟨n,h1,ae,ae⟩
def Hu (x : ByteArray × ByteArray) : List Value:=[.string x.1,.string x.2]
def JC (W : World) (x : ByteArray × ByteArray) : Prop:=x.1.size ≤ 140737488355328 ∧ x.2.size ≤ 140737488355328
theorem Ed {fuel : Nat} {cs : List Value} {x : DataW H × List MemPlace} (h : DataW.trod enc Tryz.prog W 0 (fun _ => true) true fuel 73 cs = some x) (hw : ∀ n ∈ x.1.weights Tryz.prog 73,n ≤ reachBytes) : ∃ a : ByteArray × ByteArray,cs = Hu a ∧ JC W a:=by
 obtain ⟨ys,m,_,hx,hl,hyl,hel⟩:=DataW.trod_struct Tryz.underlying73 h;rw [vU] at hl;have hd:=congrArg Prod.fst hx
 simp only at hd
 rw [hd] at hw
 match ys,hyl with
 | [y0,y1],_ =>
  match cs,hl with
  | [x0,x1],_ =>
   have e0 : DataW.trod enc Tryz.prog W 0 (fun _ => true) true m 9 (([x0,x1].drop 0).take (Tryz.prog.cellsOf 9)) = some y0:=hel 0 _ rfl
   have w0:=aO (j:=0) (u:=9) (y:=y0) Tryz.underlying73 rfl rfl hw;rw [oX] at e0;obtain ⟨p,h0,z0⟩:=kG Tryz.underlying9 e0 w0
   have e1 : DataW.trod enc Tryz.prog W 0 (fun _ => true) true m 9 (([x0,x1].drop 1).take (Tryz.prog.cellsOf 9)) = some y1:=hel 1 _ rfl
   have w1:=aO (j:=1) (u:=9) (y:=y1) Tryz.underlying73 rfl rfl hw;rw [oX] at e1;obtain ⟨q,h1,z1⟩:=kG Tryz.underlying9 e1 w1
   simp at h0 h1
   subst h0 h1;exact ⟨(p,q),rfl,z0,z1⟩
def FGl (x : Int × Bool × Int) : List Value:=[.int .u8 x.1,.bool x.2.1,.int .u64 x.2.2]
def GGl (W : World) (x : Int × Bool × Int) : Prop:=0 ≤ x.1 ∧ x.1 ≤ 255 ∧ 0 ≤ x.2.2 ∧ x.2.2 < 18446744073709551616
theorem J6 {fuel : Nat} {cs : List Value} {x : DataW H × List MemPlace} (h : DataW.trod enc Tryz.prog W 0 (fun _ => true) true fuel 102 cs = some x) (hw : ∀ n ∈ x.1.weights Tryz.prog 102,n ≤ reachBytes) : ∃ a : Int × Bool × Int,cs = FGl a ∧ GGl W a:=by
 obtain ⟨ys,m,_,hx,hl,hyl,hel⟩:=DataW.trod_struct Tryz.underlying102 h;rw [qU] at hl;have hd:=congrArg Prod.fst hx
 simp only at hd
 rw [hd] at hw
 match ys,hyl with
 | [y0,y1,y2],_ =>
  match cs,hl with
  | [x0,x1,x2],_ =>
   have e0 : DataW.trod enc Tryz.prog W 0 (fun _ => true) true m 5 (([x0,x1,x2].drop 0).take (Tryz.prog.cellsOf 5)) = some y0:=hel 0 _ rfl
   have w0:=aO (j:=0) (u:=5) (y:=y0) Tryz.underlying102 rfl rfl hw;rw [o8] at e0;obtain ⟨p,h0,_,wf0⟩:=DataW.trod_int Tryz.underlying5 e0;have b0:=bounds_u8 wf0
   have e1 : DataW.trod enc Tryz.prog W 0 (fun _ => true) true m 4 (([x0,x1,x2].drop 1).take (Tryz.prog.cellsOf 4)) = some y1:=hel 1 _ rfl
   have w1:=aO (j:=1) (u:=4) (y:=y1) Tryz.underlying102 rfl rfl hw;rw [J5] at e1;obtain ⟨q,h1,_⟩:=DataW.trod_bool Tryz.underlying4 e1
   have e2 : DataW.trod enc Tryz.prog W 0 (fun _ => true) true m 100 (([x0,x1,x2].drop 2).take (Tryz.prog.cellsOf 100)) = some y2:=hel 2 _ rfl
   have w2:=aO (j:=2) (u:=100) (y:=y2) Tryz.underlying102 rfl rfl hw;rw [DG] at e2;obtain ⟨r,h2,_,wf2⟩:=DataW.trod_int Tryz.underlying100 e2;have b2:=bounds_u64 wf2
   simp at h0 h1 h2
   subst h0 h1 h2;exact ⟨(p,q,r),rfl,fJ,fJ,fJ,fJ⟩
def FEx (x : ByteArray × Int) : List Value:=[.string x.1,.int .i64 x.2]
def GEx (W : World) (x : ByteArray × Int) : Prop:=x.1.size ≤ 140737488355328 ∧ -9223372036854775808 ≤ x.2 ∧ x.2 < 9223372036854775808
theorem J8 {fuel : Nat} {cs : List Value} {x : DataW H × List MemPlace} (h : DataW.trod enc Tryz.prog W 0 (fun _ => true) true fuel 83 cs = some x) (hw : ∀ n ∈ x.1.weights Tryz.prog 83,n ≤ reachBytes) : ∃ a : ByteArray × Int,cs = FEx a ∧ GEx W a:=by
 obtain ⟨ys,m,_,hx,hl,hyl,hel⟩:=DataW.trod_struct Tryz.underlying83 h;rw [uR] at hl;have hd:=congrArg Prod.fst hx
 simp only at hd
 rw [hd] at hw
 match ys,hyl with
 | [y0,y1],_ =>
  match cs,hl with
  | [x0,x1],_ =>
   have e0 : DataW.trod enc Tryz.prog W 0 (fun _ => true) true m 9 (([x0,x1].drop 0).take (Tryz.prog.cellsOf 9)) = some y0:=hel 0 _ rfl
   have w0:=aO (j:=0) (u:=9) (y:=y0) Tryz.underlying83 rfl rfl hw;rw [oX] at e0;obtain ⟨p,h0,z0⟩:=kG Tryz.underlying9 e0 w0
   have e1 : DataW.trod enc Tryz.prog W 0 (fun _ => true) true m 3 (([x0,x1].drop 1).take (Tryz.prog.cellsOf 3)) = some y1:=hel 1 _ rfl
   have w1:=aO (j:=1) (u:=3) (y:=y1) Tryz.underlying83 rfl rfl hw;rw [je] at e1;obtain ⟨q,h1,_,wf1⟩:=DataW.trod_int Tryz.underlying3 e1;have b1:=bounds_i64 wf1
   simp at h0 h1
   subst h0 h1;exact ⟨(p,q),rfl,z0,fJ,fJ⟩
def FIn (x : Int × Int × (Option Addr × Nat × Nat) × List Int) : List Value:=[.int .u8 x.1,.int .i64 x.2.1,.slice x.2.2.1.1 x.2.2.1.2.1 x.2.2.1.2.2]
def GIn (W : World) (x : Int × Int × (Option Addr × Nat × Nat) × List Int) : Prop:=0 ≤ x.1 ∧ x.1 ≤ 255 ∧ dV W 1 (fun (z : Int) => [Value.int .i64 z]) x.2.2.1.1 x.2.2.1.2.1 x.2.2.1.2.2 x.2.2.2 ∧ (∀ (j : Nat) a,x.2.2.2[j]? = some a → -9223372036854775808 ≤ a ∧ a < 9223372036854775808) ∧ -9223372036854775808 ≤ x.2.1 ∧ x.2.1 < 9223372036854775808
theorem I9 {fuel : Nat} {cs : List Value} {x : DataW H × List MemPlace} (h : DataW.trod enc Tryz.prog W 0 (fun _ => true) true fuel 75 cs = some x) (hw : ∀ n ∈ x.1.weights Tryz.prog 75,n ≤ reachBytes) : ∃ a : Int × Int × (Option Addr × Nat × Nat) × List Int,cs = FIn a ∧ GIn W a:=by
 obtain ⟨ys,m,_,hx,hl,hyl,hel⟩:=DataW.trod_struct Tryz.underlying75 h;rw [wW] at hl;have hd:=congrArg Prod.fst hx
 simp only at hd
 rw [hd] at hw
 match ys,hyl with
 | [y0,y1,y2],_ =>
  match cs,hl with
  | [x0,x1,x2],_ =>
   have e0 : DataW.trod enc Tryz.prog W 0 (fun _ => true) true m 5 (([x0,x1,x2].drop 0).take (Tryz.prog.cellsOf 5)) = some y0:=hel 0 _ rfl
   have w0:=aO (j:=0) (u:=5) (y:=y0) Tryz.underlying75 rfl rfl hw;rw [o8] at e0;obtain ⟨p,h0,_,wf0⟩:=DataW.trod_int Tryz.underlying5 e0;have b0:=bounds_u8 wf0
   have e1 : DataW.trod enc Tryz.prog W 0 (fun _ => true) true m 2 (([x0,x1,x2].drop 1).take (Tryz.prog.cellsOf 2)) = some y1:=hel 1 _ rfl
   have w1:=aO (j:=1) (u:=2) (y:=y1) Tryz.underlying75 rfl rfl hw;rw [KC] at e1;obtain ⟨q,h1,_,wf1⟩:=DataW.trod_int Tryz.underlying2 e1;have b1:=bounds_i64 wf1
   have e2 : DataW.trod enc Tryz.prog W 0 (fun _ => true) true m 23 (([x0,x1,x2].drop 2).take (Tryz.prog.cellsOf 23)) = some y2:=hel 2 _ rfl
   have w2:=aO (j:=2) (u:=23) (y:=y2) Tryz.underlying75 rfl rfl hw;rw [uZ] at e2
   obtain ⟨la,ln,lc,ls,h2,at2,el2⟩:=(di (c:=1) (B:=8) (fun (z : Int) => [Value.int .i64 z]) (fun (a : Int) => -9223372036854775808 ≤ a ∧ a < 9223372036854775808) Tryz.underlying23 je aq zP aq (fun _ _ _ h1 h2 => tV h1 h2)) e2 w2
   simp at h0 h1 h2
   subst h0 h1 h2;exact ⟨(p,q,(la,ln,lc),ls),rfl,fJ,fJ,at2,el2,fJ,fJ⟩
def FFu (x : Int × ByteArray × (Option Addr × Nat × Nat) × List (Int × Int × (Option Addr × Nat × Nat) × List Int)) : List Value:=[.int .i64 x.1,.string x.2.1,.slice x.2.2.1.1 x.2.2.1.2.1 x.2.2.1.2.2]
def GFu (W : World) (x : Int × ByteArray × (Option Addr × Nat × Nat) × List (Int × Int × (Option Addr × Nat × Nat) × List Int)) : Prop:=(-9223372036854775808 ≤ x.1 ∧ x.1 < 9223372036854775808) ∧ x.2.1.size ≤ 140737488355328 ∧ dV W 3 FIn x.2.2.1.1 x.2.2.1.2.1 x.2.2.1.2.2 x.2.2.2 ∧ ∀ (j : Nat) y,x.2.2.2[j]? = some y → GIn W y
theorem Jr {fuel : Nat} {cs : List Value} {x : DataW H × List MemPlace} (h : DataW.trod enc Tryz.prog W 0 (fun _ => true) true fuel 78 cs = some x) (hw : ∀ n ∈ x.1.weights Tryz.prog 78,n ≤ reachBytes) : ∃ a : Int × ByteArray × (Option Addr × Nat × Nat) × List (Int × Int × (Option Addr × Nat × Nat) × List Int),cs = FFu a ∧ GFu W a:=by
 obtain ⟨ys,m,_,hx,hl,hyl,hel⟩:=DataW.trod_struct Tryz.underlying78 h;rw [vR] at hl;have hd:=congrArg Prod.fst hx
 simp only at hd
 rw [hd] at hw
 match ys,hyl with
 | [y0,y1,y2],_ =>
  match cs,hl with
  | [x0,x1,x2],_ =>
   have e0 : DataW.trod enc Tryz.prog W 0 (fun _ => true) true m 3 (([x0,x1,x2].drop 0).take (Tryz.prog.cellsOf 3)) = some y0:=hel 0 _ rfl
   have w0:=aO (j:=0) (u:=3) (y:=y0) Tryz.underlying78 rfl rfl hw;rw [je] at e0;obtain ⟨p,h0,_,wf0⟩:=DataW.trod_int Tryz.underlying3 e0;have b0:=bounds_i64 wf0
   have e1 : DataW.trod enc Tryz.prog W 0 (fun _ => true) true m 9 (([x0,x1,x2].drop 1).take (Tryz.prog.cellsOf 9)) = some y1:=hel 1 _ rfl
   have w1:=aO (j:=1) (u:=9) (y:=y1) Tryz.underlying78 rfl rfl hw;rw [oX] at e1;obtain ⟨q,h1,z1⟩:=kG Tryz.underlying9 e1 w1
   have e2 : DataW.trod enc Tryz.prog W 0 (fun _ => true) true m 76 (([x0,x1,x2].drop 2).take (Tryz.prog.cellsOf 76)) = some y2:=hel 2 _ rfl
   have w2:=aO (j:=2) (u:=76) (y:=y2) Tryz.underlying78 rfl rfl hw;rw [IC] at e2
   obtain ⟨la,ln,lc,ls,h2,at2,el2⟩:=(di (c:=3) (B:=40) FIn (GIn W) Tryz.underlying76 wW aq Ig aq (fun _ _ _ h1 h2 => I9 h1 h2)) e2 w2
   simp at h0 h1 h2
   subst h0 h1 h2;exact ⟨(p,q,(la,ln,lc),ls),rfl,⟨fJ,fJ⟩,z1,at2,el2⟩
def FDa (x : Int × (Option Addr × Nat × Nat) × List Int) : List Value:=[.int .i64 x.1,.slice x.2.1.1 x.2.1.2.1 x.2.1.2.2]
def GDa (W : World) (x : Int × (Option Addr × Nat × Nat) × List Int) : Prop:=(-9223372036854775808 ≤ x.1 ∧ x.1 < 9223372036854775808) ∧ dV W 1 (fun (z : Int) => [Value.int .u8 z]) x.2.1.1 x.2.1.2.1 x.2.1.2.2 x.2.2 ∧ ∀ (j : Nat) a,x.2.2[j]? = some a → 0 ≤ a ∧ a ≤ 255
theorem JS {fuel : Nat} {cs : List Value} {x : DataW H × List MemPlace} (h : DataW.trod enc Tryz.prog W 0 (fun _ => true) true fuel 81 cs = some x) (hw : ∀ n ∈ x.1.weights Tryz.prog 81,n ≤ reachBytes) : ∃ a : Int × (Option Addr × Nat × Nat) × List Int,cs = FDa a ∧ GDa W a:=by
 obtain ⟨ys,m,_,hx,hl,hyl,hel⟩:=DataW.trod_struct Tryz.underlying81 h;rw [vQ] at hl;have hd:=congrArg Prod.fst hx
 simp only at hd
 rw [hd] at hw
 match ys,hyl with
 | [y0,y1],_ =>
  match cs,hl with
  | [x0,x1],_ =>
   have e0 : DataW.trod enc Tryz.prog W 0 (fun _ => true) true m 3 (([x0,x1].drop 0).take (Tryz.prog.cellsOf 3)) = some y0:=hel 0 _ rfl
   have w0:=aO (j:=0) (u:=3) (y:=y0) Tryz.underlying81 rfl rfl hw;rw [je] at e0;obtain ⟨p,h0,_,wf0⟩:=DataW.trod_int Tryz.underlying3 e0;have b0:=bounds_i64 wf0
   have e1 : DataW.trod enc Tryz.prog W 0 (fun _ => true) true m 63 (([x0,x1].drop 1).take (Tryz.prog.cellsOf 63)) = some y1:=hel 1 _ rfl
   have w1:=aO (j:=1) (u:=63) (y:=y1) Tryz.underlying81 rfl rfl hw;rw [GC] at e1
   obtain ⟨la,ln,lc,ls,h1,at1,el1⟩:=(di (c:=1) (B:=1) (fun (z : Int) => [Value.int .u8 z]) (fun (a : Int) => 0 ≤ a ∧ a ≤ 255) Tryz.underlying63 o8 aq CC aq (fun _ _ _ h1 h2 => GP h1 h2)) e1 w1
   simp at h0 h1
   subst h0 h1;exact ⟨(p,(la,ln,lc),ls),rfl,⟨fJ,fJ⟩,at1,el1⟩
theorem Ib {fuel : Nat} {cs : List Value} {x : DataW H × List MemPlace} (h : DataW.trod enc Tryz.prog W 0 (fun _ => true) true fuel 29 cs = some x) (hw : ∀ n ∈ x.1.weights Tryz.prog 29,n ≤ reachBytes) :
  ∃ (ta : Option Addr) (tn tc : Nat) (ts : List (ByteArray × ByteArray)) (ha : Option Addr) (hn hc : Nat) (hs : List Int) (ga : Option Addr) (gn gc : Nat) (gs : List (Int × Bool × Int)) (fi mo : Int) (fa : Option Addr) (fn fc : Nat) (fs : List (Int × ByteArray × (Option Addr × Nat × Nat) × List (Int × Int × (Option Addr × Nat × Nat) × List Int))) (da : Option Addr) (dn dc : Nat) (ds : List (Int × (Option Addr × Nat × Nat) × List Int)) (ea : Option Addr) (en ec : Nat) (es : List (ByteArray × Int)),
   cs = [.slice ta tn tc,.slice ha hn hc,.slice ga gn gc,.int .i64 fi,.int .i64 mo,.slice fa fn fc,.slice da dn dc,.slice ea en ec] ∧
   (dV W 2 Hu ta tn tc ts ∧ ∀ (j : Nat) x,ts[j]? = some x → JC W x) ∧ (dV W 1 (fun (z : Int) => [Value.int .i64 z]) ha hn hc hs ∧ ∀ (j : Nat) a,hs[j]? = some a → -9223372036854775808 ≤ a ∧ a < 9223372036854775808) ∧ (dV W 3 FGl ga gn gc gs ∧ ∀ (j : Nat) x,gs[j]? = some x → GGl W x) ∧ (-9223372036854775808 ≤ fi ∧ fi < 9223372036854775808) ∧ (-9223372036854775808 ≤ mo ∧ mo < 9223372036854775808) ∧ (dV W 3 FFu fa fn fc fs ∧ ∀ (j : Nat) x,fs[j]? = some x → GFu W x) ∧ (dV W 2 FDa da dn dc ds ∧ ∀ (j : Nat) x,ds[j]? = some x → GDa W x) ∧ (dV W 2 FEx ea en ec es ∧ ∀ (j : Nat) x,es[j]? = some x → GEx W x):=by
 obtain ⟨ys,m,_,hx,hl,hyl,hel⟩:=DataW.trod_struct Tryz.underlying29 h;rw [Fb] at hl;have hd:=congrArg Prod.fst hx
 simp only at hd
 rw [hd] at hw
 match ys,hyl with
 | [y0,y1,y2,y3,y4,y5,y6,y7],_ =>
  match cs,hl with
  | [x0,x1,x2,x3,x4,x5,x6,x7],_ =>
   have e0 : DataW.trod enc Tryz.prog W 0 (fun _ => true) true m 22 (([x0,x1,x2,x3,x4,x5,x6,x7].drop 0).take (Tryz.prog.cellsOf 22)) = some y0:=hel 0 _ rfl
   have w0:=aO (j:=0) (u:=22) (y:=y0) Tryz.underlying29 rfl rfl hw;rw [FY] at e0
   obtain ⟨ta,tn,tc,ts,h0,at0,el0⟩:=(di (c:=2) (B:=32) Hu (JC W) Tryz.underlying22 vU aq Fg aq (fun _ _ _ h1 h2 => Ed h1 h2)) e0 w0
   have e1 : DataW.trod enc Tryz.prog W 0 (fun _ => true) true m 23 (([x0,x1,x2,x3,x4,x5,x6,x7].drop 1).take (Tryz.prog.cellsOf 23)) = some y1:=hel 1 _ rfl
   have w1:=aO (j:=1) (u:=23) (y:=y1) Tryz.underlying29 rfl rfl hw;rw [uZ] at e1
   obtain ⟨ha,hn,hc,hs,h1,at1,el1⟩:=(di (c:=1) (B:=8) (fun (z : Int) => [Value.int .i64 z]) (fun (a : Int) => -9223372036854775808 ≤ a ∧ a < 9223372036854775808) Tryz.underlying23 je aq zP aq (fun _ _ _ h1 h2 => tV h1 h2)) e1 w1
   have e2 : DataW.trod enc Tryz.prog W 0 (fun _ => true) true m 24 (([x0,x1,x2,x3,x4,x5,x6,x7].drop 2).take (Tryz.prog.cellsOf 24)) = some y2:=hel 2 _ rfl
   have w2:=aO (j:=2) (u:=24) (y:=y2) Tryz.underlying29 rfl rfl hw;rw [Hg] at e2
   obtain ⟨ga,gn,gc,gs,h2,at2,el2⟩:=(di (c:=3) (B:=16) FGl (GGl W) Tryz.underlying24 qU aq De aq (fun _ _ _ h1 h2 => J6 h1 h2)) e2 w2
   have e3 : DataW.trod enc Tryz.prog W 0 (fun _ => true) true m 3 (([x0,x1,x2,x3,x4,x5,x6,x7].drop 3).take (Tryz.prog.cellsOf 3)) = some y3:=hel 3 _ rfl
   have w3:=aO (j:=3) (u:=3) (y:=y3) Tryz.underlying29 rfl rfl hw;rw [je] at e3;obtain ⟨fi,h3,b3⟩:=tV e3 w3
   have e4 : DataW.trod enc Tryz.prog W 0 (fun _ => true) true m 3 (([x0,x1,x2,x3,x4,x5,x6,x7].drop 4).take (Tryz.prog.cellsOf 3)) = some y4:=hel 4 _ rfl
   have w4:=aO (j:=4) (u:=3) (y:=y4) Tryz.underlying29 rfl rfl hw;rw [je] at e4;obtain ⟨mo,h4,b4⟩:=tV e4 w4
   have e5 : DataW.trod enc Tryz.prog W 0 (fun _ => true) true m 25 (([x0,x1,x2,x3,x4,x5,x6,x7].drop 5).take (Tryz.prog.cellsOf 25)) = some y5:=hel 5 _ rfl
   have w5:=aO (j:=5) (u:=25) (y:=y5) Tryz.underlying29 rfl rfl hw;rw [Fh] at e5
   obtain ⟨fa,fn,fc,fs,h5,at5,el5⟩:=(di (c:=3) (B:=48) FFu (GFu W) Tryz.underlying25 vR aq Hl aq (fun _ _ _ h1 h2 => Jr h1 h2)) e5 w5
   have e6 : DataW.trod enc Tryz.prog W 0 (fun _ => true) true m 26 (([x0,x1,x2,x3,x4,x5,x6,x7].drop 6).take (Tryz.prog.cellsOf 26)) = some y6:=hel 6 _ rfl
   have w6:=aO (j:=6) (u:=26) (y:=y6) Tryz.underlying29 rfl rfl hw;rw [ER] at e6
   obtain ⟨da,dn,dc,ds,h6,at6,el6⟩:=(di (c:=2) (B:=32) FDa (GDa W) Tryz.underlying26 vQ aq I8 aq (fun _ _ _ h1 h2 => JS h1 h2)) e6 w6
   have e7 : DataW.trod enc Tryz.prog W 0 (fun _ => true) true m 27 (([x0,x1,x2,x3,x4,x5,x6,x7].drop 7).take (Tryz.prog.cellsOf 27)) = some y7:=hel 7 _ rfl
   have w7:=aO (j:=7) (u:=27) (y:=y7) Tryz.underlying29 rfl rfl hw;rw [FL] at e7
   obtain ⟨ea,en,ec,es,h7,at7,el7⟩:=(di (c:=2) (B:=24) FEx (GEx W) Tryz.underlying27 uR aq EJ aq (fun _ _ _ h1 h2 => J8 h1 h2)) e7 w7
   simp at h0 h1 h2 h3 h4 h5 h6 h7
   subst h0 h1 h2 h3 h4 h5 h6 h7;exact ⟨ta,tn,tc,ts,ha,hn,hc,hs,ga,gn,gc,gs,fi,mo,fa,fn,fc,fs,da,dn,dc,ds,ea,en,ec,es,rfl,⟨at0,el0⟩,⟨at1,el1⟩,⟨at2,el2⟩,b3,b4,⟨at5,el5⟩,⟨at6,el6⟩,⟨at7,el7⟩⟩
end
end Go.Proofs.YtheefojaplnnoaaGreatDoor

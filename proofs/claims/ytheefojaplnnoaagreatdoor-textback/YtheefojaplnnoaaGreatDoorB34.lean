/-
  Texts Ua Uc Ud Ut Vii Ma.
-/
import Derived.BigQuiet
import Derived.Deep.QuietTactic
import Derived.Test.YtheefojaplnnoaaGreatDoorB00
import Derived.Test.YtheefojaplnnoaaGreatDoorB03
import Derived.Test.YtheefojaplnnoaaGreatDoorB18
import Derived.Test.YtheefojaplnnoaaGreatDoorB30
import Derived.Test.YtheefojaplnnoaaGreatDoorB33
set_option linter.unusedVariables false
set_option maxRecDepth 100000
set_option maxHeartbeats 16000000
namespace Go.Proofs.YtheefojaplnnoaaGreatDoor
open Go.RowKit
def wkM (b : Nat) : MM :=
 { ta:=some ⟨b,0,none⟩,tn:=1,tc:=1,types:=[(⟨#[119]⟩,⟨#[]⟩)],ha:=none,hn:=0,hc:=0,hosts:=[],ga:=none,gn:=0,gc:=0,globals:=[],fi:=1,mo:=2,fa:=some ⟨b + 1 + 1 + 1,0,none⟩,fn:=1,fc:=1,fns:=[(0,⟨#[108]⟩,(some ⟨b + 1 + 1,0,none⟩,2,2),[(9,0,(some ⟨b + 1,0,none⟩,2,2),[0,1]),(6,0,(none,0,0),[])])],da:=none,dn:=0,dc:=0,data:=[],ea:=none,en:=0,ec:=0,exps:=[] }
def wkP : PM:=⟨[(⟨#[119]⟩,⟨#[]⟩)],[],[],1,2,[(0,⟨#[108]⟩,[(9,0,[0,1]),(6,0,[])])],[],[]⟩
def wkT : ByteArray:=⟨#[102,108,97,103,111,110,10,116,121,112,101,32,119,32,45,62,32,45,10,109,101,109,111,114,121,32,49,32,50,10,102,117,110,99,32,48,32,108,10,32,32,98,114,116,97,98,108,101,32,48,32,49,10,32,32,101,110,100,10]⟩
def wkE : ByteArray:=⟨#[102,108,97,103,111,110,10,101,120,116,101,114,110]⟩
theorem Ju (b : Nat) : pl (wkM b) = wkP:=rfl
theorem wH (b : Nat) : cN (wkM b) = 0:=ai
theorem JZ (b : Nat) : (⟨(eY (wkM b)).toArray⟩ : ByteArray) = wkT:=ai
theorem Kp (b : Nat) : kC (wkM b) = wkT:=by
 unfold kC;rw [if_pos (wH b)];exact JZ b
theorem Ct : bA 0 0 pm0 (aU wkT) = (7,some (6,wkP)):=ai
theorem Av : bA 0 0 pm0 (aU wkE) = (2,none):=ai
theorem Kc (b : Nat) : LnM (wkM b):=⟨rfl,rfl,rfl,rfl,rfl,rfl⟩
structure jM (b : Nat) (W : World) : Prop where
 t : W.heap[b]? = some (aW ⟨#[119]⟩ ⟨#[]⟩)
 l : W.heap[b + 1]? = some (.cells #[.int .i64 0,.int .i64 1] 3)
 c : W.heap[b + 1 + 1]? = some (.cells #[.int .u8 9,.int .i64 0,.slice (some ⟨b + 1,0,none⟩) 2 2,.int .u8 6,.int .i64 0,.slice none 0 0] 75)
 f : W.heap[b + 1 + 1 + 1]? = some (aZ 0 ⟨#[108]⟩ (some ⟨b + 1 + 1,0,none⟩) 2 2)
theorem jM.later {b : Nat} {W W' : World} (h : jM b W) (hb : Below W.heap.size W W') : jM b W':=⟨ak hb h.t,ak hb h.l,ak hb h.c,ak hb h.f⟩
theorem jM.sig {b : Nat} {W : World} (h : jM b W) : gp W (some ⟨b,0,none⟩) 1 [(⟨#[119]⟩,⟨#[]⟩)]:=by
 refine ⟨rfl,.inr ⟨b,0,rfl,fun j x hj => ?_⟩⟩
 match j,hj with
 | 0,hj =>
  obtain rfl:=Option.some.inj hj;exact ⟨aj h.t,aj h.t⟩
theorem jM.fu {b : Nat} {W : World} (h : jM b W) : kp W (some ⟨b + 1 + 1 + 1,0,none⟩) 1 (wkM b).fns:=by
 refine ⟨rfl,.inr ⟨b + 1 + 1 + 1,0,rfl,fun j x hj => ?_⟩⟩
 match j,hj with
 | 0,hj =>
  obtain rfl:=Option.some.inj hj;exact ⟨aj h.f,aj h.f,aj h.f⟩
theorem jM.ins {b : Nat} {W : World} (h : jM b W) : gI W (some ⟨b + 1 + 1,0,none⟩) 2 [(9,0,(some ⟨b + 1,0,none⟩,2,2),[0,1]),(6,0,(none,0,0),[])]:=by
 refine ⟨rfl,.inr ⟨b + 1 + 1,0,rfl,fun j x hj => ?_⟩⟩
 match j,hj with
 | 0,hj =>
  obtain rfl:=Option.some.inj hj;exact ⟨aj h.c,aj h.c,aj h.c⟩
 | 1,hj =>
  obtain rfl:=Option.some.inj hj;exact ⟨aj (i:=3) h.c,aj (i:=4) h.c,aj (i:=5) h.c⟩
theorem jM.lab {b : Nat} {W : World} (h : jM b W) : jK W (some ⟨b + 1,0,none⟩) 2 [0,1]:=by
 refine ⟨rfl,.inr ⟨b + 1,0,rfl,fun j x hj => ?_⟩⟩
 match j,hj with
 | 0,hj =>
  obtain rfl:=Option.some.inj hj;exact aj h.l
 | 1,hj =>
  obtain rfl:=Option.some.inj hj;exact aj (i:=1) h.l
theorem CC (W : World) : jK W none 0 []:=⟨rfl,.inl rfl⟩
theorem jM.sr {b : Nat} {W : World} (h : jM b W) : MSr W (wkM b):=by
 refine ⟨h.sig,dm,⟨rfl,.inl rfl⟩,dm,⟨rfl,.inl rfl⟩,dm,h.fu,dm,?_,⟨rfl,.inl rfl⟩,dm,?_,⟨rfl,.inl rfl⟩,dm⟩
 ·intro x hx
  obtain rfl : x = (0,⟨#[108]⟩,(some ⟨b + 1 + 1,0,none⟩,2,2),[(9,0,(some ⟨b + 1,0,none⟩,2,2),[0,1]),(6,0,(none,0,0),[])]):=by simpa [wkM] using hx
  refine ⟨h.ins,dm,fun y hy => ?_⟩
  simp only [List.mem_cons,List.not_mem_nil,or_false] at hy
  rcases hy with rfl | rfl
  ·exact ⟨h.lab,dm⟩
  ·exact ⟨CC W,dm⟩
 ·intro x hx
  simp [wkM] at hx
theorem jM.ok {b : Nat} {W : World} (h : jM b W) : ∀ R g,W.heap.size ≤ R → W.heap.size ≤ g → MOk W R g (wkM b):=by
 intro R g hR hg
 have far : ∀ (a : Option Addr),(∀ b off cc,a = some ⟨b,off,cc⟩ → b < W.heap.size) → Far W R g a:=fun a h b off cc hb => by have:=h b off cc hb; omega
 have fn : Far W R g none:=far none (fun b off cc h => bE)
 refine ⟨h.sig,far _ (fun b off cc hh => by cases hh; exact aP h.t),⟨rfl,.inl rfl⟩,fn,fun j x hj => qK,⟨rfl,.inl rfl⟩,fn,fun j x hj => qK,dm,dm,dm,dm,h.fu,far _ (fun b off cc hh => by cases hh; exact aP h.f),?_,⟨rfl,.inl rfl⟩,fn,fun j x hj => qK,⟨rfl,.inl rfl⟩,fn,fun j x hj => qK⟩
 intro j x hj
 match j,hj with
 | 0,hj =>
  obtain rfl:=Option.some.inj hj
  refine ⟨dm,h.ins,(far _ (fun b off cc hh => by cases hh; exact aP h.c)).nz _,fun i y hi => ?_⟩
  match i,hi with
  | 0,hi =>
   obtain rfl:=Option.some.inj hi
   refine ⟨dm,dm,⟨rfl,dm,dm,fun z hz => ?_,.inr ⟨b + 1,0,rfl,fun j hj => ?_⟩⟩,(far _ (fun b off cc hh => by cases hh; exact aP h.l)).nz _⟩
   ·simp only [List.mem_cons,List.not_mem_nil,or_false] at hz
    rcases hz with rfl | rfl <;> decide
   ·match j,hj with
    | 0,_ => exact aj h.l
    | 1,_ => exact aj (i:=1) h.l
  | 1,hi =>
   obtain rfl:=Option.some.inj hi
   exact ⟨dm,dm,⟨rfl,Nat.zero_le _,Nat.zero_le _,fun z hz => by simp at hz,.inl rfl⟩,fn.nz _⟩
theorem IW (b : Nat) : wI (wkM b):=by
 intro j x hj i y hi
 match j,hj with
 | 0,hj =>
  obtain rfl:=Option.some.inj hj
  match i,hi with
  | 0,hi =>
   obtain rfl:=Option.some.inj hi
   (try dsimp only); omega
  | 1,hi =>
   obtain rfl:=Option.some.inj hi
   (try dsimp only); omega
theorem xx {α β : Type} {f : α → β} {xs ys : List α} (h : xs.map f = ys.map f) {j : Nat} {a b : α} (ha : xs[j]? = some a) (hb : ys[j]? = some b) : f a = f b:=by
 have:=congrArg (fun l => l[j]?) h
 simp only [List.getElem?_map,ha,hb,Option.map_some,Option.some.injEq] at this
 exact this
theorem KI {w w' : World} {a b : InM} (h : plI a = plI b) (ha : p8 w a) (hb : p8 w' b) : FM a b:=by
 obtain ⟨a1,a2,⟨aa,an,ac⟩,al⟩:=a;obtain ⟨b1,b2,⟨ba,bn,bc⟩,bl⟩:=b;unfold plI at h;obtain ⟨rfl,h⟩:=Prod.mk.inj h;obtain ⟨rfl,rfl⟩:=Prod.mk.inj h;have h1 : al.length = an:=ha.1.1;have h2 : al.length = bn:=hb.1.1
 exact ⟨rfl,rfl,by dsimp only; omega,rfl⟩
theorem Le {w w' : World} {a b : DaM} (h : plD a = plD b) (ha : pX w a) (hb : pX w' b) : EY a b:=by
 obtain ⟨a1,⟨aa,an,ac⟩,al⟩:=a;obtain ⟨b1,⟨ba,bn,bc⟩,bl⟩:=b;unfold plD at h;obtain ⟨rfl,rfl⟩:=Prod.mk.inj h;have h1 : al.length = an:=ha.1.1;have h2 : al.length = bn:=hb.1.1
 exact ⟨rfl,by dsimp only; omega,rfl⟩
theorem Lt {w w' : World} {a b : FuM} (h : plF a = plF b) (ha : oU w a) (hb : oU w' b) : Cx a b:=by
 obtain ⟨a1,a2,⟨aa,an,ac⟩,al⟩:=a;obtain ⟨b1,b2,⟨ba,bn,bc⟩,bl⟩:=b;unfold plF at h;obtain ⟨h1,h⟩:=Prod.mk.inj h;obtain ⟨h2,h⟩:=Prod.mk.inj h;dsimp only at h1 h2 h;have l1 : al.length = an:=ha.1.1;have l2 : bl.length = bn:=hb.1.1
 have l3 : al.length = bl.length:=by have:=congrArg List.length h; simpa using this
 refine ⟨h1.symm,h2.symm,?_,l3.symm,fun j x y hx hy => ?_⟩
 ·dsimp only; omega
 ·exact KI (xx h hx hy) (ha.2.2 x (List.mem_of_getElem? hx)) (hb.2.2 y (List.mem_of_getElem? hy))
theorem EH {w w' : World} {x y : MM} (h : pl x = pl y) (hx : MSr w x) (hy : MSr w' y) : SmM x y:=by
 unfold pl at h;obtain ⟨h1,h2,h3,h4,h5,h6,h7,h8⟩:=PM.mk.inj h;have lx:=hx.len;have ly:=hy.len
 have l6 : x.fns.length = y.fns.length:=by have:=congrArg List.length h6; simpa using this
 have l7 : x.data.length = y.data.length:=by have:=congrArg List.length h7; simpa using this
 refine ⟨?_,h1.symm,?_,h2.symm,?_,h3.symm,h4.symm,h5.symm,?_,fun j a b ha hb => ?_,?_,fun j a b ha hb => ?_,?_,h8.symm⟩
 ·rw [ly.t,lx.t,h1]
 ·rw [ly.h,lx.h,h2]
 ·rw [ly.g,lx.g,h3]
 ·rw [ly.f,lx.f,l6]
 ·exact Lt (xx h6 ha hb) (hx.fx a (List.mem_of_getElem? ha)) (hy.fx b (List.mem_of_getElem? hb))
 ·rw [ly.d,lx.d,l7]
 ·exact Le (xx h7 ha hb) (hx.dx a (List.mem_of_getElem? ha)) (hy.dx b (List.mem_of_getElem? hb))
 ·rw [ly.e,lx.e,h8]
theorem Lz {w : World} {a : Option Addr} {n c : Nat} {l : List Int} (h : iA w a n c l) : jK w a n l:=by
 refine ⟨h.1,?_⟩
 rcases h.2.2.2.2 with h0 | ⟨b,off,e,hc⟩
 ·exact .inl h0
 ·refine .inr ⟨b,off,e,fun j x hj => ?_⟩
  have hl:=aF hj;rw [h.1] at hl
  have:=hc j hl
  rw [List.getD_eq_getElem?_getD,hj] at this;exact this
theorem MOk.sr {w : World} {R g : Nat} {m : MM} (h : MOk w R g m) (hp : Pas m) : MSr w m:=by
 have l:=h.len;have n1:=hp.nt;have n2:=hp.nh;have n3:=hp.ng;have n4:=hp.nf;have n5:=hp.nd;have n6:=hp.ne
 refine ⟨h.pt,by rw [l.t]; omega,h.ph,by rw [l.h]; omega,h.pg,by rw [l.g]; omega,h.pf,by rw [l.f]; omega,fun x hx => ?_,h.pd,by rw [l.d]; omega,fun x hx => ?_,h.pe,by rw [l.e]; omega⟩
 ·obtain ⟨j,hj⟩:=ck hx;have hf:=h.fr j x hj;have hq:=hp.fn j x hj
  refine ⟨hf.2.1,?_,fun y hy => ?_⟩
  ·rw [← hf.2.1.1]; omega
  ·obtain ⟨i,hi⟩:=ck hy;have hi1:=(hf.2.2.2 i y hi).2.2.1;have hc:=t6 (hq.2.2.2.2.2 i y hi)
   exact ⟨Lz hi1,by rw [← hi1.1]; omega⟩
 ·obtain ⟨j,hj⟩:=ck hx;have hd:=h.dr j x hj;have hq:=hp.da j x hj
  exact ⟨ro.of hd.2.1,by rw [← hd.2.1.1]; omega⟩
def wkW (w : World) : World:=((((w.alloc (Obj.cells #[Value.string ⟨#[119]⟩,Value.string ⟨#[]⟩] 73)).alloc (Obj.cells #[Value.int IntKind.i64 0,Value.int IntKind.i64 1] 3)).alloc (Obj.cells #[Value.int IntKind.u8 9,Value.int IntKind.i64 0,Value.slice (some ⟨w.heap.size + 1,0,none⟩) 2 2,Value.int IntKind.u8 6,Value.int IntKind.i64 0,Value.slice none 0 0] 75)).alloc (Obj.cells #[Value.int IntKind.i64 0,Value.string ⟨#[108]⟩,Value.slice (some ⟨w.heap.size + 1 + 1,0,none⟩) 2 2] 78)).alloc (Obj.cells (mV (wkM w.heap.size)) 29)
theorem Ki (w : World) : jM w.heap.size (wkW w) ∧ (wkW w).heap[w.heap.size + 1 + 1 + 1 + 1]? = some (.cells (mV (wkM w.heap.size)) 29) ∧ Below w.heap.size w (wkW w) ∧ w.heap.size + 1 + 1 + 1 + 1 < (wkW w).heap.size:=by
 obtain ⟨y0,h0⟩ : ∃ y,w.alloc (Obj.cells #[Value.string ⟨#[119]⟩,Value.string ⟨#[]⟩] 73) = y:=⟨_,rfl⟩;obtain ⟨y1,h1⟩ : ∃ y,y0.alloc (Obj.cells #[Value.int IntKind.i64 0,Value.int IntKind.i64 1] 3) = y:=⟨_,rfl⟩;obtain ⟨y2,h2⟩ : ∃ y,y1.alloc (Obj.cells #[Value.int IntKind.u8 9,Value.int IntKind.i64 0,Value.slice (some ⟨w.heap.size + 1,0,none⟩) 2 2,Value.int IntKind.u8 6,Value.int IntKind.i64 0,Value.slice none 0 0] 75) = y:=⟨_,rfl⟩;obtain ⟨y3,h3⟩ : ∃ y,y2.alloc (Obj.cells #[Value.int IntKind.i64 0,Value.string ⟨#[108]⟩,Value.slice (some ⟨w.heap.size + 1 + 1,0,none⟩) 2 2] 78) = y:=⟨_,rfl⟩;obtain ⟨y4,h4⟩ : ∃ y,y3.alloc (Obj.cells (mV (wkM w.heap.size)) 29) = y:=⟨_,rfl⟩
 have e : wkW w = y4:=by unfold wkW; rw [h0,h1,h2,h3,h4]
 have z0 : y0.heap.size = w.heap.size + 1:=by rw [← h0]; simp
 have z1 : y1.heap.size = w.heap.size + 1 + 1:=by rw [← h1]; simp [z0]
 have z2 : y2.heap.size = w.heap.size + 1 + 1 + 1:=by rw [← h2]; simp [z1]
 have z3 : y3.heap.size = w.heap.size + 1 + 1 + 1 + 1:=by rw [← h3]; simp [z2]
 have z4 : y4.heap.size = w.heap.size + 1 + 1 + 1 + 1 + 1:=by rw [← h4]; simp [z3]
 have b0:=h0 ▸ ag w (Obj.cells #[Value.string ⟨#[119]⟩,Value.string ⟨#[]⟩] 73);have b1:=h1 ▸ ag y0 (Obj.cells #[Value.int IntKind.i64 0,Value.int IntKind.i64 1] 3);have b2:=h2 ▸ ag y1 (Obj.cells #[Value.int IntKind.u8 9,Value.int IntKind.i64 0,Value.slice (some ⟨w.heap.size + 1,0,none⟩) 2 2,Value.int IntKind.u8 6,Value.int IntKind.i64 0,Value.slice none 0 0] 75);have b3:=h3 ▸ ag y2 (Obj.cells #[Value.int IntKind.i64 0,Value.string ⟨#[108]⟩,Value.slice (some ⟨w.heap.size + 1 + 1,0,none⟩) 2 2] 78);have b4:=h4 ▸ ag y3 (Obj.cells (mV (wkM w.heap.size)) 29)
 have c0 : y0.heap[w.heap.size]? = some (Obj.cells #[Value.string ⟨#[119]⟩,Value.string ⟨#[]⟩] 73):=by rw [← h0]; exact heap_alloc_new _ _
 have c1 : y1.heap[w.heap.size + 1]? = some (Obj.cells #[Value.int IntKind.i64 0,Value.int IntKind.i64 1] 3):=by rw [← h1,← z0]; exact heap_alloc_new _ _
 have c2 : y2.heap[w.heap.size + 1 + 1]? = some (Obj.cells #[Value.int IntKind.u8 9,Value.int IntKind.i64 0,Value.slice (some ⟨w.heap.size + 1,0,none⟩) 2 2,Value.int IntKind.u8 6,Value.int IntKind.i64 0,Value.slice none 0 0] 75):=by rw [← h2,← z1]; exact heap_alloc_new _ _
 have c3 : y3.heap[w.heap.size + 1 + 1 + 1]? = some (Obj.cells #[Value.int IntKind.i64 0,Value.string ⟨#[108]⟩,Value.slice (some ⟨w.heap.size + 1 + 1,0,none⟩) 2 2] 78):=by rw [← h3,← z2]; exact heap_alloc_new _ _
 have c4 : y4.heap[w.heap.size + 1 + 1 + 1 + 1]? = some (Obj.cells (mV (wkM w.heap.size)) 29):=by rw [← h4,← z3]; exact heap_alloc_new _ _
 rw [e];refine ⟨⟨?_,?_,?_,?_⟩,c4,?_,ae⟩
 ·exact ak b4 (ak b3 (ak b2 (ak b1 c0)))
 ·exact ak b4 (ak b3 (ak b2 c1))
 ·exact ak b4 (ak b3 c2)
 ·exact ak b4 c3
 ·exact (((b0.trans (b1.mono b0.size)).trans (b2.mono ae)).trans (b3.mono ae)).trans (b4.mono ae)
theorem qb.up {B B' : Nat} {w : World} (h : qb B w) (hb : B ≤ B') : qb B' w :=
 ⟨h.syn.imp fun _ ⟨p,h⟩ => ⟨p,fun W hW => h W (hW.mono hb)⟩,h.ran.imp fun _ ⟨p,h⟩ => ⟨p,fun W hW => h W (hW.mono hb)⟩⟩
theorem KQ {w w' : World} {e : Ending} (h : oN wkT w e w') : ∃ m,pl m = wkP ∧ MSr w' m ∧ e = rt3 (mV m) 0 0 ∧ Below w.heap.size w w':=by
 obtain ⟨hb,-,h2⟩:=h;have h3:=((h2 aq _ _ Ct).2 _ _ rfl).2 aq;obtain ⟨m,hpl,hlen,hpr,-,h5⟩:=h3;have hc : cN m = 0:=(xw hlen (Kc 0) (hpl.trans (Ju 0).symm)).trans (wH 0);obtain ⟨he,base,R,mp,ln,hR,hq⟩:=h5 hc
 exact ⟨m,hpl,(hq.mok (by rw [hpl]; exact hpr) _ _ (Nat.le_refl _) (Nat.le_refl _)).sr (pB hc),he,hb⟩
theorem I6 {w w' : World} {e : Ending} (h : oN wkE w e w') : e = rt3 zV 22 2 ∧ Below w.heap.size w w':=by
 obtain ⟨hb,-,h2⟩:=h;exact ⟨(h2 aq _ _ Av).1 rfl,hb⟩
theorem Kk (w : World) (hE : bT w.heap.size w) : Calls Tryz.prog 8 #[] w fun e w' => e = .returned (.bool true) ∧ Below w.heap.size w w':=by
 have HE:=hid (fun (W : World) (hb : Below w.heap.size w W) => (⟨(hE.later hb).tens.up hb.size,(hE.later hb).errs.up hb.size,(hE.later hb).kinds,(hE.later hb).mx,Nat.lt_of_lt_of_le hE.b3 hb.size,Nat.le_refl _⟩ : bT W.heap.size W))
 obtain ⟨ha,hm,hb,hl⟩:=Ki w;have H11:=hid (se w.heap.size (wkM w.heap.size) (wkW w) hb.size (hE.later hb).tens (hE.later hb).kinds ha.ok (IW _));rw [Kp,wH] at H11;have HA:=hid ha;have HM:=hid hm;have HB:=hid hb;have HL:=hid hl
 have HEQ:=hid (fun (m : MM) (W : World) (h1 : MSr W m) (h2 : jM w.heap.size W) (hp : pl m = wkP) => FX h2.sr h1 (EH (hp.symm ▸ Ju w.heap.size) h2.sr h1))
 clear hE ha hm hb hl
 go_enter Tryz.func8,Tryz.ntmps8
 go_wp2_with fail
 change Calls Tryz.prog 11 #[.agg (mV (wkM w.heap.size))] (wkW w) _
 generalize wkW w = W0 at *;refine H11.out.mono ?_;rintro e w1 ⟨rfl,hb1⟩
 replace HA:=hid (HA.out.later hb1)
 replace HM:=hid (ak hb1 HM.out)
 replace HB:=hid (HB.out.trans (hb1.mono HB.out.size))
 clear hb1 H11 HL;have H15:=hid (qV wkT w1 (HE.out w1 HB.out));have e0 : wkT = ⟨#[102,108,97,103,111,110,10,116,121,112,101,32,119,32,45,62,32,45,10,109,101,109,111,114,121,32,49,32,50,10,102,117,110,99,32,48,32,108,10,32,32,98,114,116,97,98,108,101,32,48,32,49,10,32,32,101,110,100,10]⟩:=rfl;rw [← e0]
 have HPA:=hid (fun (e : Ending) (w' : World) => KQ (w:=w1) (e:=e) (w':=w'))
 clear e0;generalize wkT = T at *;go_wp2_with fail;refine H15.out.mono ?_;intro e w2 hp;obtain ⟨m,hpl,hms,rfl,hb2⟩:=HPA.out _ _ hp
 replace HA:=hid (HA.out.later hb2)
 replace HM:=hid (ak hb2 HM.out)
 replace HB:=hid (HB.out.trans (hb2.mono HB.out.size))
 have HMS:=hid hms;have HPL:=hid hpl;clear hp hb2 H15 HPA hms hpl;unfold rt3 mV;go_wp2_with fail;have BN:=ag w2 (bJ m.ta m.tn m.tc m.ha m.hn m.hc m.ga m.gn m.gc m.fi m.mo m.fa m.fn m.fc m.da m.dn m.dc m.ea m.en m.ec);have bx:=heap_alloc_new w2 (bJ m.ta m.tn m.tc m.ha m.hn m.hc m.ga m.gn m.gc m.fi m.mo m.fa m.fn m.fc m.da m.dn m.dc m.ea m.en m.ec)
 replace HA:=hid (HA.out.later BN)
 replace HM:=hid (ak BN HM.out)
 replace HB:=hid (HB.out.trans (BN.mono HB.out.size))
 replace HMS:=hid (HMS.out.later BN)
 have HX:=hid bx;clear BN bx;generalize w2.alloc (bJ m.ta m.tn m.tc m.ha m.hn m.hc m.ga m.gn m.gc m.fi m.mo m.fa m.fn m.fc m.da m.dn m.dc m.ea m.en m.ec) = w3 at *;generalize w2.heap.size = X at *;have H15:=hid (qV wkE w3 (HE.out w3 HB.out));unfold wkE at H15;refine H15.out.mono ?_;intro e w4 hp;obtain ⟨rfl,hb4⟩:=I6 hp
 replace HA:=hid (HA.out.later hb4)
 replace HM:=hid (ak hb4 HM.out)
 replace HX:=hid (ak hb4 HX.out)
 replace HB:=hid (HB.out.trans (hb4.mono HB.out.size))
 replace HMS:=hid (HMS.out.later hb4)
 clear hp hb4 H15;unfold rt3 zV;have BN:=ag w4 (bJ none 0 0 none 0 0 none 0 0 0 0 none 0 0 none 0 0 none 0 0)
 replace HA:=hid (HA.out.later BN)
 replace HM:=hid (ak BN HM.out)
 replace HX:=hid (ak BN HX.out)
 replace HB:=hid (HB.out.trans (BN.mono HB.out.size))
 replace HMS:=hid (HMS.out.later BN)
 clear BN;have HQ:=hid (HEQ.out m _ HMS.out HA.out HPL.out);unfold wkM mV at HQ HM;dsimp only at HQ HM;obtain ⟨⟨m0,m1,m2,m3,m4,m5,m6,m7⟩,-⟩:=av HX.out;obtain ⟨⟨n0,n1,n2,n3,n4,n5,n6,n7⟩,-⟩:=av HM.out;have hTT : (T.toList == T.toList) = true:=ar;go_wp2_with fail;refine HQ.out.mono ?_;rintro e w6 ⟨rfl,hb6⟩;have HB6:=hid (HB.out.trans (hb6.mono HB.out.size));clear hb6;go_wp2_with fail;go_ret;exact ⟨rfl,HB6.out⟩
theorem bT.top {B : Nat} {w W : World} (h : bT B w) (hb : Below B w W) : bT W.heap.size W :=
 ⟨(h.later hb).tens.up (Nat.le_trans h.bw hb.size),(h.later hb).errs.up (Nat.le_trans h.bw hb.size),(h.later hb).kinds,(h.later hb).mx,Nat.lt_of_lt_of_le h.b3 (Nat.le_trans h.bw hb.size),Nat.le_refl _⟩
theorem wj (a : Option Addr) (cap : Nat) (w : World) : Calls Tryz.prog 24 #[.slice a 0 cap] w fun e w' => e = .returned (.int .i64 0) ∧ w' = w:=by
 go_enter Tryz.func24,Tryz.ntmps24
 go_wp2_with fail;refine wp_loop_rounds 1 ?_;rw [rounds_succ];exact jR
def szG : List InM → Nat → Nat
 | [],z => z
 | x :: r,z => if z ≤ 2147483647 then szG r (z + x.2.2.1.2.1) else z
theorem yM {x : InM} {r : List InM} {z : Nat} (h : z ≤ 2147483647) : szG (x :: r) z = szG r (z + x.2.2.1.2.1):=by simp [szG,h]
theorem zG {x : InM} {r : List InM} {z : Nat} (h : ¬ z ≤ 2147483647) : szG (x :: r) z = z:=by simp [szG,h]
def mI (l : List DaM) : Nat:=(l.map fun x => x.2.1.2.1).sum
theorem AW {l : List DaM} {k : Nat} {x : DaM} (h : l[k]? = some x) : mI (l.take (k + 1)) = mI (l.take k) + x.2.1.2.1:=by
 rw [cJ h]; simp [mI]
theorem C0 {l : List DaM} {n : Nat} (h : l.length = n) : mI (l.take n) = mI l:=qY
def o8 (l : List Sg) : Nat:=(l.map fun x => x.1.size + x.2.size).sum
def js (l : List FuM) : Nat:=(l.map fun x => x.2.1.size + szG x.2.2.2 x.2.2.1.2.1).sum
def kT (l : List Ex) : Nat:=(l.map fun x => x.1.size).sum
theorem BS {l : List Sg} {k : Nat} {x : Sg} (h : l[k]? = some x) : o8 (l.take (k + 1)) = o8 (l.take k) + (x.1.size + x.2.size):=by
 rw [cJ h]; simp [o8]
theorem vP {l : List FuM} {k : Nat} {x : FuM} (h : l[k]? = some x) : js (l.take (k + 1)) = js (l.take k) + (x.2.1.size + szG x.2.2.2 x.2.2.1.2.1):=by
 rw [cJ h]; simp [js]
theorem BA {l : List Ex} {k : Nat} {x : Ex} (h : l[k]? = some x) : kT (l.take (k + 1)) = kT (l.take k) + x.1.size:=by
 rw [cJ h]; simp [kT]
theorem Dz {l : List Sg} {n : Nat} (h : l.length = n) : o8 (l.take n) = o8 l:=qY
theorem BQ {l : List FuM} {n : Nat} (h : l.length = n) : js (l.take n) = js l:=qY
theorem CB {l : List Ex} {n : Nat} (h : l.length = n) : kT (l.take n) = kT l:=qY
theorem Af : ∀ (xs : List InM) (z : Nat),(∀ (j : Nat) x,xs[j]? = some x → x.2.2.1.2.1 ≤ 140737488355328) → z ≤ 281474976710656 → szG xs z ≤ 281474976710656
 | [],z,_,hz => hz
 | x :: r,z,hl,hz => by
  unfold szG
  split
  ·refine Af r _ (fun j y hj => hl (j + 1) y (by simpa using hj)) ?_
   have:=hl 0 x rfl
   omega
  ·exact hz
structure SzC (w : World) (m : MM) : Prop where
 tn : m.tn ≤ 140737488355328
 hn : m.hn ≤ 140737488355328
 gn : m.gn ≤ 140737488355328
 fn : m.fn ≤ 140737488355328
 dn : m.dn ≤ 140737488355328
 en : m.en ≤ 140737488355328
 t : ∀ (j : Nat) x,m.types[j]? = some x → x.1.size ≤ 140737488355328 ∧ x.2.size ≤ 140737488355328
 f : ∀ (j : Nat) x,m.fns[j]? = some x → x.2.1.size ≤ 140737488355328 ∧ x.2.2.1.2.1 ≤ 140737488355328 ∧ gI w x.2.2.1.1 x.2.2.1.2.1 x.2.2.2 ∧ ∀ (i : Nat) y,x.2.2.2[i]? = some y → y.2.2.1.2.1 ≤ 140737488355328
 d : ∀ (j : Nat) x,m.data[j]? = some x → x.2.1.2.1 ≤ 140737488355328
 e : ∀ (j : Nat) x,m.exps[j]? = some x → x.1.size ≤ 140737488355328
theorem xJ (b off cn cap : Nat) (xs : List InM) (w : World) (hn : cn ≤ 140737488355328) (hx : xs.length = cn)
  (hc : ∀ (j : Nat) x,xs[j]? = some x → w.cell? ⟨b,off + j * 3 + 2,none⟩ = some (.slice x.2.2.1.1 x.2.2.1.2.1 x.2.2.1.2.2)) (hl : ∀ (j : Nat) x,xs[j]? = some x → x.2.2.1.2.1 ≤ 140737488355328) :
  Calls Tryz.prog 24 #[.slice (some ⟨b,off,none⟩) cn cap] w fun e w' => e = .returned (.int .i64 (szG xs cn : Nat)) ∧ ∃ q,w' = w.drewN q:=by
 have HC:=hid hc;have HL:=hid hl;clear hc hl
 go_enter Tryz.func24,Tryz.ntmps24
 go_wp2_with fail
 go_loopw [3,4] (fun s i wr => ∃ k z : Nat,k ≤ cn ∧ s = .int .i64 (z : Nat) ∧ i = .int .i64 k ∧ (∃ m,wr = w.drewN m) ∧ z ≤ 281474976710656 ∧ szG (xs.drop k) z = szG xs cn) (fun _ i _ => cn - (intOf i).toNat)
 case atStart => exact ⟨0,cn,ae,rfl,rfl,⟨0,rfl⟩,ae,rfl⟩
 case round =>
  obtain ⟨k,z,hk,rfl,rfl,⟨m,rfl⟩,hsz,hG⟩:=hrel;have HG:=hid hG;clear hG
  by_cases hlt : k < cn
  ·obtain ⟨x,hxk⟩ : ∃ x,xs[k]? = some x:=⟨_,aD ae⟩
   have hdr : xs.drop k = x :: xs.drop (k + 1):=by
    have hlk : k < xs.length:=ae;rw [List.drop_eq_getElem_cons hlk]
    have:=aD hlk
    rw [hxk] at this;rw [Option.some.inj this]
   have HD:=hid hdr;clear hdr
   by_cases hbd : z ≤ 2147483647
   ·have g:=HC.out k x hxk;have hln:=HL.out k x hxk;have hlt' : (k : Int) < (cn : Int):=ae;have hbd' : (z : Int) ≤ 2147483647:=ae;go_wp2_with fail;refine ⟨⟨k + 1,z + x.2.2.1.2.1,ae,dh,dh,⟨m,rfl⟩,ae,?_⟩,eT⟩;have h:=HG.out;rw [HD.out,yM hbd] at h;exact h
   ·have hlt' : (k : Int) < (cn : Int):=ae;have hbd' : ¬ (z : Int) ≤ 2147483647:=ae;go_wp2_with fail;go_ret;have h:=HG.out;rw [HD.out,zG hbd] at h
    exact ⟨by rw [← h]; rfl,m,rfl⟩
  ·obtain rfl : k = cn:=ae;go_wp2_with fail;go_ret;have h:=HG.out;rw [List.drop_eq_nil_of_le ae] at h
   exact ⟨by rw [← h]; rfl,m,rfl⟩
theorem H6 (a : Option Addr) (cn cap : Nat) (xs : List InM) (w : World) (hn : cn ≤ 140737488355328) (hc : gI w a cn xs) (hl : ∀ (j : Nat) x,xs[j]? = some x → x.2.2.1.2.1 ≤ 140737488355328) :
  Calls Tryz.prog 24 #[.slice a cn cap] w fun e w' => e = .returned (.int .i64 (szG xs cn : Nat)) ∧ ∃ q,w' = w.drewN q:=by
 by_cases h0 : cn = 0
 ·subst h0;have : xs = []:=List.length_eq_zero_iff.1 hc.1;subst this
  exact (wj a cap w).mono fun e w' ⟨he,hw⟩ => ⟨he,0,hw⟩
 ·rcases hc.2 with h | ⟨b,off,rfl,hcd⟩
  ·exact absurd h h0
  ·exact xJ b off cn cap xs w hn hc.1 (fun j x hj => (hcd j x hj).2.2) hl
end Go.Proofs.YtheefojaplnnoaaGreatDoor

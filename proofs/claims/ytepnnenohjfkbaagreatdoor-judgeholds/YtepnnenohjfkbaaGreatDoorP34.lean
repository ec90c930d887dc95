/-
  Texts Jv.
-/
import Derived.Test.YtepnnenohjfkbaaGreatDoorP00
import Derived.Test.YtepnnenohjfkbaaGreatDoorP30
import Derived.Test.YtepnnenohjfkbaaGreatDoorP31
import Derived.Test.YtepnnenohjfkbaaGreatDoorP33
set_option linter.unusedVariables false
set_option maxRecDepth 100000
set_option maxHeartbeats 16000000
namespace Go.Proofs.YtepnnenohjfkbaaGreatDoor
open Go.RowKit
structure JS (g : Jg) : Prop where
 N : g.N ≤ 2048
 T : g.m.tn ≤ 1000000
 TS : ∀ a,(bE g.m a).1.size ≤ 8 ∧ (bE g.m a).2.size ≤ 8
 R8 : g.R.size ≤ 8
 shS : ∀ j,(g.sh j).size ≤ 256
 G : Good (opF g.xs) g.N
 lo : ∀ x ∈ g.lo,x = 119 ∨ x = 108
 gL : ∀ x ∈ g.m.globals,x.1 = 119 ∨ x.1 = 108
 hT : ∀ x ∈ g.m.hosts,0 ≤ x ∧ x < g.m.tn
 fT : ∀ x ∈ g.m.fns,0 ≤ x.1 ∧ x.1 < g.m.tn
 lol : g.lo.length ≤ 1000000
 gn : g.m.gn ≤ 1000000
 hn : g.m.hn ≤ 1000000
 fn : g.m.fn ≤ 1000000
section
variable {w : World}
theorem Qx : Utf8.encode 0 = ⟨#[0]⟩:=aH
theorem yE {c z : Int} (hc : c = 18 ∨ c = 19 ∨ c = 20 ∨ c = 21 ∨ c = 22) (hz : z = 119 ∨ z = 108) :
  Calls Tryz.prog 259 #[.string (wdV c),.int .u8 z] w fun e w' => e = .returned (.agg #[.string (na c (ltr z)),.string (kE c (ltr z))]) ∧ Below w.heap.size w w':=by
 rcases hc with rfl | rfl | rfl | rfl | rfl
 ·exact pu (.inl (by rw [Iy,ck]; rfl)) z hz
 ·exact pq nK nK nK z hz
 ·exact wS oI oI oI z hz
 ·exact pu (.inr ⟨uh,uh⟩) z hz
 ·exact pq nN nN nN z hz
theorem s9 {wd : ByteArray} (hw : (wd.toList == [103,101,116]) = true ∨ ((wd.toList == [103,101,116]) = false ∧ (wd.toList == [103,103,101,116]) = true)) :
  Calls Tryz.prog 259 #[.string wd,.int .u8 0] w fun e w' => e = .returned (.agg #[.string ⟨#[]⟩,.string ⟨#[0]⟩]) ∧ Below w.heap.size w w':=by
 rcases hw with h1 | ⟨h0,h1⟩
 all_goals
  go_enter Tryz.func259,Tryz.ntmps259
  go_wp2_with fail;refine bodyPost_ret (v:=.agg #[.string ⟨#[]⟩,.string ⟨#[0]⟩]) ?_ rfl ⟨rfl,aj _ _⟩;exact wM
theorem Gg {wd : ByteArray} (h0 : (wd.toList == [103,101,116]) = false) (h1 : (wd.toList == [103,103,101,116]) = false) (h2 : (wd.toList == [116,101,101]) = true) :
  Calls Tryz.prog 259 #[.string wd,.int .u8 0] w fun e w' => e = .returned (.agg #[.string ⟨#[0]⟩,.string ⟨#[0]⟩]) ∧ Below w.heap.size w w':=by
 go_enter Tryz.func259,Tryz.ntmps259
 go_wp2_with fail;refine bodyPost_ret (v:=.agg #[.string ⟨#[0]⟩,.string ⟨#[0]⟩]) ?_ rfl ⟨rfl,aj _ _⟩;exact wM
theorem tA {wd : ByteArray} (h0 : (wd.toList == [103,101,116]) = false) (h1 : (wd.toList == [103,103,101,116]) = false) (h2 : (wd.toList == [116,101,101]) = false) :
  Calls Tryz.prog 259 #[.string wd,.int .u8 0] w fun e w' => e = .returned (.agg #[.string ⟨#[0]⟩,.string ⟨#[]⟩]) ∧ Below w.heap.size w w':=by
 go_enter Tryz.func259,Tryz.ntmps259
 go_wp2_with fail;refine bodyPost_ret (v:=.agg #[.string ⟨#[0]⟩,.string ⟨#[]⟩]) ?_ rfl ⟨rfl,aj _ _⟩;exact wM
end
theorem tC {c : Int} (hc : c = 18 ∨ c = 19 ∨ c = 20 ∨ c = 21 ∨ c = 22) :
  ∃ P Q : ByteArray,Q.size ≤ 1000 ∧ ∀ w,Calls Tryz.prog 259 #[.string (wdV c),.int .u8 0] w fun e w' => e = .returned (.agg #[.string P,.string Q]) ∧ Below w.heap.size w w':=by
 have s0 : (ByteArray.mk #[0]).size ≤ 1000:=aH;have s1 : (ByteArray.mk #[]).size ≤ 1000:=aH
 rcases hc with rfl | rfl | rfl | rfl | rfl
 ·exact ⟨_,_,s0,fun w => s9 (.inl (by rw [Iy,ck]; rfl))⟩
 ·exact ⟨_,_,s1,fun w => tA nK nK nK⟩
 ·exact ⟨_,_,s0,fun w => Gg oI oI oI⟩
 ·exact ⟨_,_,s0,fun w => s9 (.inr ⟨uh,uh⟩)⟩
 ·exact ⟨_,_,s1,fun w => tA nN nN nN⟩
def ChO (g : Jg) (w : World) (i : Nat) : Prop :=
 ∃ P Q : ByteArray,Q.size ≤ 1000 ∧ (jF g.m g.lo g.R g.xs i = true → (P,Q) = jX g.m g.lo g.R g.xs i) ∧
  Calls Tryz.prog 213 #[.pointer (some ⟨g.J,0,none⟩),.int .i64 i] w fun e w' => e = .returned (.tuple #[.agg #[.string P,.string Q],.bool (jF g.m g.lo g.R g.xs i)]) ∧ Below w.heap.size w w'
section
variable {g : Jg} {w : World}
theorem oW {m : MM} {lo : List Int} {R : ByteArray} {xs : List Inx} {i : Nat} (hO : isO (opF xs i) = false) (h8 : opF xs i ≠ 8) : jF m lo R xs i = decide (efE m lo csD opD (opF xs i) (xs.getD i dx).a = 0) ∧ jX m lo R xs i = efV m lo csD opD (opF xs i) (xs.getD i dx).a:=by
 unfold jF jX;rw [if_neg lK,if_neg h8,if_neg lK,if_neg h8];exact ⟨rfl,rfl⟩
theorem fW {c : Int} (h : c ≠ 2 ∧ c ≠ 3 ∧ c ≠ 4) : isO c = false:=by
 cases hx : isO c with
 | false => rfl
 | true => have:=cD.1 hx; omega
theorem BO {m : MM} (hTS : ∀ a,(bE m a).1.size ≤ 8 ∧ (bE m a).2.size ≤ 8) {q : Nat} {p : Sg} (hp : m.types[q]? = some p) : bE m (q : Int) = p ∧ p.2.size ≤ 1000:=by
 have e : bE m (q : Int) = p:=by
  unfold bE;rw [Int.toNat_natCast,gY hp]
 have:=(hTS q).2
 rw [e] at this;exact ⟨e,ae⟩
theorem tJ (h : Jw g w) (hS : JS g) {i : Nat} (hi : i < g.N) (hO : isO (opF g.xs i) = true) : ChO g w i:=by
 have e : jF g.m g.lo g.R g.xs i = (bu g.m g.R g.xs i).2 ∧ jX g.m g.lo g.R g.xs i = (fy g.m g.R g.xs i,(bu g.m g.R g.xs i).1.1):=by
  unfold jF jX;rw [if_pos hO,if_pos hO];exact ⟨rfl,rfl⟩
 have:=kQ (fun a => (hS.TS a).1) g.R g.xs (i : Int)
 refine ⟨fy g.m g.R g.xs i,(bu g.m g.R g.xs i).1.1,ae,fun _ => e.2.symm,?_⟩
 rw [e.1]
 exact iC h hS.N hS.T (fun a => (hS.TS a).1) hi hO
theorem tI (h : Jw g w) (hS : JS g) {i : Nat} (hi : i < g.N) (h8 : opF g.xs i = 8) : ChO g w i:=by
 have hO : isO (opF g.xs i) = false:=fW ae
 have e : jF g.m g.lo g.R g.xs i = (bI (ltV g.m g.R g.xs i) false ⟨#[]⟩ [(g.xs.getD i dx).a]).2 ∧ jX g.m g.lo g.R g.xs i = ((bI (ltV g.m g.R g.xs i) false ⟨#[]⟩ [(g.xs.getD i dx).a]).1 ++ ⟨#[119]⟩,(bI (ltV g.m g.R g.xs i) false ⟨#[]⟩ [(g.xs.getD i dx).a]).1):=by
  unfold jF jX;rw [if_neg lK,if_pos h8,if_neg lK,if_pos h8];exact ⟨rfl,rfl⟩
 have:=ie (nk hS.TS hS.R8 g.xs i) [(g.xs.getD i dx).a] false ⟨#[]⟩ (Nat.zero_le _)
 refine ⟨_,_,ae,fun _ => e.2.symm,?_⟩
 rw [e.1];exact pB h hS.N hS.T hS.TS hS.R8 hi h8
theorem vk (h : Jw g w) (hS : JS g) {i : Nat} (hi : i < g.N) (hc : opF g.xs i = 11) : ChO g w i:=by
 obtain ⟨e1,e2⟩:=oW (m:=g.m) (lo:=g.lo) (R:=g.R) (xs:=g.xs) (i:=i) (fW ae) ae;have hE : efE g.m g.lo csD opD (opF g.xs i) (g.xs.getD i dx).a = bo g.m.fn (g.xs.getD i dx).a:=j4;have hV : efV g.m g.lo csD opD (opF g.xs i) (g.xs.getD i dx).a = bE g.m (uq g.m (g.xs.getD i dx).a):=j4;have hfn:=hS.fn;unfold ChO;rw [e1,e2,hE,hV]
 rcases dw g.m.fn (g.xs.getD i dx).a with ⟨h1,h2⟩ | ⟨h1,q,hq,hqn⟩
 ·rw [h1]
  refine ⟨⟨#[]⟩,⟨#[]⟩,Nat.zero_le _,fun hx => jy,?_⟩
  exact jC h hS.N hi hc (hid fun W hb => xX h2 ae) (hid fun W hb => mN (h.later hb) _)
 ·rw [h1];have hl:=h.pf.1;obtain ⟨x,hx⟩ : ∃ x,g.m.fns[q]? = some x:=⟨_,aN ae⟩;obtain ⟨fb,foff,hfa,hat⟩:=h.pf.2.resolve_left ae;obtain ⟨c0,c1,c2⟩:=hat q x hx;have hty:=hS.fT x (List.mem_of_getElem? hx);obtain ⟨t,ht⟩ : ∃ t : Nat,x.1 = t:=⟨x.1.toNat,ae⟩;have hl2:=h.pt.1;obtain ⟨p,hp⟩ : ∃ p,g.m.types[t]? = some p:=⟨_,aN ae⟩;obtain ⟨hpe,hps⟩:=BO hS.TS hp
  have hfty : uq g.m (g.xs.getD i dx).a = t:=by
   unfold uq;rw [hq,Int.toNat_natCast,hx,← ht];rfl
  refine ⟨p.1,p.2,hps,fun _ => by rw [hfty,hpe],?_⟩
  refine jC h hS.N hi hc (ty:=x.1) (lo:=x.2.1) (ca:=x.2.2.1.1) (cn:=x.2.2.1.2.1) (cc:=x.2.2.1.2.2) (hid fun W hb => ?_) (hid fun W hb => ?_)
  ·rw [hfa,hq];exact vS hqn ae (ag hb c0) (ag hb c1) (ag hb c2)
  ·rw [ht];exact lw (h.later hb) hS.T hp
theorem tZ (h : Jw g w) (hS : JS g) {i : Nat} (hi : i < g.N) (hc : opF g.xs i = 12) : ChO g w i:=by
 obtain ⟨e1,e2⟩:=oW (m:=g.m) (lo:=g.lo) (R:=g.R) (xs:=g.xs) (i:=i) (fW ae) ae;have hE : efE g.m g.lo csD opD (opF g.xs i) (g.xs.getD i dx).a = bo g.m.hn (g.xs.getD i dx).a:=j4;have hV : efV g.m g.lo csD opD (opF g.xs i) (g.xs.getD i dx).a = bE g.m (g.m.hosts.getD (g.xs.getD i dx).a.toNat 0):=j4;have hfn:=hS.hn;unfold ChO;rw [e1,e2,hE,hV]
 rcases dw g.m.hn (g.xs.getD i dx).a with ⟨h1,h2⟩ | ⟨h1,q,hq,hqn⟩
 ·rw [h1]
  refine ⟨⟨#[]⟩,⟨#[]⟩,Nat.zero_le _,fun hx => jy,?_⟩
  exact jD h hS.N hS.T (fun a => (hS.TS a).1) hi hc (hid fun W hb => xM h2 ae) (hid fun W hb => mN (h.later hb) _)
 ·rw [h1];have hl:=h.ph.1;obtain ⟨x,hx⟩ : ∃ x,g.m.hosts[q]? = some x:=⟨_,aN ae⟩;obtain ⟨fb,foff,hfa,hat⟩:=h.ph.2.resolve_left ae;have c0:=hat q x hx;have hty:=hS.hT x (List.mem_of_getElem? hx);obtain ⟨t,ht⟩ : ∃ t : Nat,x = t:=⟨x.toNat,ae⟩;have hl2:=h.pt.1;obtain ⟨p,hp⟩ : ∃ p,g.m.types[t]? = some p:=⟨_,aN ae⟩;obtain ⟨hpe,hps⟩:=BO hS.TS hp
  have hfty : g.m.hosts.getD (g.xs.getD i dx).a.toNat 0 = t:=by rw [hq,Int.toNat_natCast,gY hx,ht]
  refine ⟨p.1,p.2,hps,fun _ => by rw [hfty,hpe],?_⟩
  refine jD h hS.N hS.T (fun a => (hS.TS a).1) hi hc (num:=x) (hid fun W hb => ?_) (hid fun W hb => ?_)
  ·rw [hfa,hq];exact tD hqn ae (ag hb c0)
  ·rw [ht];exact lw (h.later hb) hS.T hp
theorem tz (z : Int) (c : Int) : (kE c (ltr z)).size ≤ 1000:=by
 have:=M5 c (ltr z) (A0 z)
 omega
theorem xR (h : Jw g w) (hS : JS g) {i : Nat} (hi : i < g.N) (hc : opF g.xs i = 18 ∨ opF g.xs i = 19 ∨ opF g.xs i = 20) : ChO g w i:=by
 obtain ⟨e1,e2⟩:=oW (m:=g.m) (lo:=g.lo) (R:=g.R) (xs:=g.xs) (i:=i) (fW ae) ae
 have hE : efE g.m g.lo csD opD (opF g.xs i) (g.xs.getD i dx).a = bo g.lo.length (g.xs.getD i dx).a:=by
  unfold efE;exact Cy
 have hV : efV g.m g.lo csD opD (opF g.xs i) (g.xs.getD i dx).a = (na (opF g.xs i) (ltr (g.lo.getD (g.xs.getD i dx).a.toNat 0)),kE (opF g.xs i) (ltr (g.lo.getD (g.xs.getD i dx).a.toNat 0))):=by
  unfold efV;exact Cy
 have hfn:=hS.lol;have hc5 : opF g.xs i = 18 ∨ opF g.xs i = 19 ∨ opF g.xs i = 20 ∨ opF g.xs i = 21 ∨ opF g.xs i = 22:=ae;unfold ChO;rw [e1,e2,hE,hV]
 rcases dw g.lo.length (g.xs.getD i dx).a with ⟨h1,h2⟩ | ⟨h1,q,hq,hqn⟩
 ·rw [h1];obtain ⟨P,Q,hQ,hG⟩:=tC hc5
  refine ⟨P,Q,hQ,fun hx => jy,?_⟩
  exact kr h hS.N hS.T (fun a => (hS.TS a).1) hi hc (hid fun W hb => yx h2 ae) (hid fun W hb => hG W)
 ·rw [h1];obtain ⟨x,hx⟩ : ∃ x,g.lo[q]? = some x:=⟨_,aN hqn⟩;have c0:=h.lcs q x hx;have hxl:=hS.lo x (List.mem_of_getElem? hx);rw [hq,Int.toNat_natCast,gY hx]
  refine ⟨_,_,tz x (opF g.xs i),fun _ => rfl,?_⟩
  refine kr h hS.N hS.T (fun a => (hS.TS a).1) hi hc (num:=x) (hid fun W hb => ?_) (hid fun W hb => yE hc5 hxl)
  rw [hq];refine wA hqn ae ?_;rw [Nat.zero_add];exact ag hb c0
theorem vH (h : Jw g w) (hS : JS g) {i : Nat} (hi : i < g.N) (hc : opF g.xs i = 21 ∨ opF g.xs i = 22) : ChO g w i:=by
 obtain ⟨e1,e2⟩:=oW (m:=g.m) (lo:=g.lo) (R:=g.R) (xs:=g.xs) (i:=i) (fW ae) ae
 have hE : efE g.m g.lo csD opD (opF g.xs i) (g.xs.getD i dx).a = orE (bo g.m.gn (g.xs.getD i dx).a) (if opF g.xs i = 21 ∨ glM g.m (g.xs.getD i dx).a = true then 0 else 39):=by
  unfold efE;exact CK
 have hV : efV g.m g.lo csD opD (opF g.xs i) (g.xs.getD i dx).a = (na (opF g.xs i) (ltr (glC g.m (g.xs.getD i dx).a)),kE (opF g.xs i) (ltr (glC g.m (g.xs.getD i dx).a))):=by
  unfold efV;exact CK
 have hfn:=hS.gn;have hc5 : opF g.xs i = 18 ∨ opF g.xs i = 19 ∨ opF g.xs i = 20 ∨ opF g.xs i = 21 ∨ opF g.xs i = 22:=ae;unfold ChO;rw [e1,e2,hE,hV]
 rcases dw g.m.gn (g.xs.getD i dx).a with ⟨h1,h2⟩ | ⟨h1,q,hq,hqn⟩
 ·rw [h1,show decide (orE 30 (if opF g.xs i = 21 ∨ glM g.m (g.xs.getD i dx).a = true then 0 else 39) = 0) = false from rfl];obtain ⟨P,Q,hQ,hG⟩:=tC hc5
  refine ⟨P,Q,hQ,fun hx => jy,?_⟩
  exact jH h hS.N hi hc (fd:=false) (mu:=false) (by rw [Bool.false_and]) (hid fun W hb => xo h2 ae) (hid fun W hb => hG W)
 ·have hl:=h.pg.1;obtain ⟨x,hx⟩ : ∃ x,g.m.globals[q]? = some x:=⟨_,aN ae⟩;obtain ⟨fb,foff,hfa,hat⟩:=h.pg.2.resolve_left ae;obtain ⟨c0,c1,c2⟩:=hat q x hx;have hxl:=hS.gL x (List.mem_of_getElem? hx)
  have hC : glC g.m (g.xs.getD i dx).a = x.1:=by
   unfold glC;rw [hq,Int.toNat_natCast,hx];rfl
  have hM : glM g.m (g.xs.getD i dx).a = x.2.1:=by
   unfold glM;rw [hq,Int.toNat_natCast,hx];rfl
  rw [hC,hM,h1]
  have hd : decide (orE 0 (if opF g.xs i = 21 ∨ x.2.1 = true then (0 : Int) else 39) = 0) = (true && (decide (opF g.xs i = 21) || x.2.1)):=by
   show decide ((if opF g.xs i = 21 ∨ x.2.1 = true then (0 : Int) else 39) = 0) = _
   by_cases h21 : opF g.xs i = 21
   ·rw [if_pos (.inl h21),h21]; rfl
   ·exact BU
  rw [hd]
  refine ⟨_,_,tz x.1 (opF g.xs i),fun _ => rfl,?_⟩
  refine jH h hS.N hi hc rfl (lt:=x.1) (mu:=x.2.1) (va:=x.2.2) (hid fun W hb => ?_) (hid fun W hb => yE hc5 hxl)
  rw [hfa,hq];exact vD hqn ae (ag hb c0) (ag hb c1) (ag hb c2)
theorem r9 (h : Jw g w) (hS : JS g) {i : Nat} (hi : i < g.N) (hc : Fe (opF g.xs i) = false) (h16 : opF g.xs i ≠ 16) (h17 : opF g.xs i ≠ 17) : ChO g w i:=by
 have hc2 : opF g.xs i ≠ 2 ∧ opF g.xs i ≠ 3 ∧ opF g.xs i ≠ 4 ∧ opF g.xs i ≠ 8 ∧ opF g.xs i ≠ 11 ∧ opF g.xs i ≠ 12 ∧ opF g.xs i ≠ 18 ∧ opF g.xs i ≠ 19 ∧ opF g.xs i ≠ 20 ∧ opF g.xs i ≠ 21 ∧ opF g.xs i ≠ 22:=by
  unfold Fe at hc
  simp only [Bool.or_eq_false_iff,decide_eq_false_iff_not] at hc
  omega
 obtain ⟨e1,e2⟩:=oW (m:=g.m) (lo:=g.lo) (R:=g.R) (xs:=g.xs) (i:=i) (fW ae) ae
 have hE : efE g.m g.lo csD opD (opF g.xs i) (g.xs.getD i dx).a = 0:=by
  exact Bj
 have hV : efV g.m g.lo csD opD (opF g.xs i) (g.xs.getD i dx).a = ((ofV (opF g.xs i)).1.2.2.2.1,(ofV (opF g.xs i)).1.2.2.2.2.1):=by
  exact D8
 have hr:=h.cod.range hi
 have:=(of_le hr.1 hr.2).2
 unfold ChO;rw [e1,e2,hE,hV]
 exact ⟨_,_,ae,fun _ => rfl,oG h hS.N hS.T (fun a => (hS.TS a).1) hi hc⟩
theorem zu (h : Jw g w) (hS : JS g) {i : Nat} (hi : i < g.N) (h16 : opF g.xs i ≠ 16) (h17 : opF g.xs i ≠ 17) : ChO g w i:=by
 by_cases hO : isO (opF g.xs i) = true
 ·exact tJ h hS hi hO
 by_cases h8 : opF g.xs i = 8
 ·exact tI h hS hi h8
 by_cases h11 : opF g.xs i = 11
 ·exact vk h hS hi h11
 by_cases h12 : opF g.xs i = 12
 ·exact tZ h hS hi h12
 by_cases hl : opF g.xs i = 18 ∨ opF g.xs i = 19 ∨ opF g.xs i = 20
 ·exact xR h hS hi hl
 by_cases hg : opF g.xs i = 21 ∨ opF g.xs i = 22
 ·exact vH h hS hi hg
 have hn:=mR vL;refine r9 h hS hi ?_ h16 h17;unfold Fe
 simp only [Bool.or_eq_false_iff,decide_eq_false_iff_not]
 omega
theorem DU (h : Jw g w) (hS : JS g) {i : Nat} (hi : i + 1 < g.N) (h16 : opF g.xs i ≠ 16) (h17 : opF g.xs i ≠ 17) :
  Calls Tryz.prog 145 #[.pointer (some ⟨g.J,0,none⟩),.int .i64 i] w fun e w' => e = .returned (.bool (goV g.m g.lo g.R g.xs g.sh i)) ∧ Below w.heap.size w w':=by
 obtain ⟨P,Q,hQ,hE,hC⟩:=zu h hS (show i < g.N by omega) h16 h17
 have:=EU h hS.N hS.T (fun a => (hS.TS a).1) hS.shS hi hQ (hid hC)
 have e : (jF g.m g.lo g.R g.xs i && gS g.m g.R g.xs g.sh i (P,Q)) = goV g.m g.lo g.R g.xs g.sh i:=by
  unfold goV
  cases hf : jF g.m g.lo g.R g.xs i with
  | false => rfl
  | true => rw [hE hf]
 rw [e] at this;exact this
theorem www : (ByteArray.mk #[119]) ++ ⟨#[119]⟩ ++ ⟨#[119]⟩ = ⟨#[119,119,119]⟩:=by rfl
theorem llw : (ByteArray.mk #[108]) ++ ⟨#[108]⟩ ++ ⟨#[119]⟩ = ⟨#[108,108,119]⟩:=by rfl
def zP (g : Jg) (i : Nat) (y : ByteArray) : Bool:=gS g.m g.R g.xs g.sh i (y ++ y ++ ⟨#[119]⟩,y)
theorem OO (i : Nat) : zP g i ⟨#[119]⟩ = gS g.m g.R g.xs g.sh i (⟨#[119,119,119]⟩,⟨#[119]⟩):=by
 unfold zP;rw [www]
theorem O8 (i : Nat) : zP g i ⟨#[108]⟩ = gS g.m g.R g.xs g.sh i (⟨#[108,108,119]⟩,⟨#[108]⟩):=by
 unfold zP;rw [llw]
theorem Pn (h : Jw g w) (hS : JS g) {i : Nat} (hi : i + 1 < g.N) (y : ByteArray) (hy : y.size ≤ 8) {JB PB : Nat}
  (c0 : w.cell? ⟨JB,0,none⟩ = some (.pointer (some ⟨g.J,0,none⟩))) (c1 : w.cell? ⟨PB,0,none⟩ = some (.int .i64 i)) :
  Calls Tryz.prog 153 #[.string y,.pointer (some ⟨JB,0,none⟩),.pointer (some ⟨PB,0,none⟩)] w fun e w' => e = .returned (.bool (zP g i y)) ∧ Below w.heap.size w w':=by
 unfold zP
 exact OH h hS.N hS.T (fun a => (hS.TS a).1) hS.shS hi y hy c0 c1
theorem QI (h : Jw g w) (hS : JS g) {i : Nat} (hi : i < g.N) (hl : opF g.xs i = 9 → km w (g.xs.getD i dx).la (g.xs.getD i dx).ln (g.xs.getD i dx).lc (g.xs.getD i dx).l ∧ (g.xs.getD i dx).ln ≤ 100000) {HB : Nat} {hv : Bool} (hb : w.heap[HB]? = some (f9 hv)) :
  Calls Tryz.prog 95 #[.pointer (some ⟨g.J,0,none⟩),.int .i64 i,.func (.func 94) #[] #[.pointer (some ⟨HB,0,none⟩)]] w (xu w HB hv (lY g.m g.lo g.R g.xs g.sh g.N i)):=by
 have hlast:=fun h6 => kV (i:=i) hS.G hi h6
 unfold lY
 by_cases h4 : opF g.xs i = 4
 ·rw [if_pos h4]
  have:=hlast ae
  obtain ⟨q,q1,q2,q3,_⟩:=kR hS.G hi (cD.2 ae)
  refine K0 h hS.N hi hb h4 (hid fun W hb => DU (h.later hb) hS ae ae ae) (hid fun W hb => wn (h.later hb) hS.N hS.T hS.TS hS.R8 hS.shS hi (cD.2 ae) ?_ ⟨q,q1,ae⟩)
  rcases yH (i:=i) hS.G with hx | ⟨j,h1,h2,h3,_⟩
  ·exact .inl hx
  ·exact .inr ⟨j,h1,ae⟩
 rw [if_neg h4]
 by_cases h5 : opF g.xs i = 5
 ·rw [if_pos h5];obtain ⟨_,q,q1,q2,q3,_⟩:=oN hS.G hi h5;have hN:=hS.N;rw [q1,Int.toNat_natCast]
  exact AX h hS.N hi hb h5 q1 (hid fun W hb => sP (h.later hb) hS.N hS.T hS.TS hS.R8 hS.shS hi (fun _ => ae) ae)
 rw [if_neg h5]
 by_cases h6 : opF g.xs i = 6
 ·rw [if_pos h6];have hN:=hS.N
  refine FP h hS.N hi hb h6 (hid fun W hb => sP (h.later hb) hS.N hS.T hS.TS hS.R8 hS.shS hi (fun ht => ?_) ae)
  rcases Nat.lt_or_ge (i + 1) g.N with hx | hx
  ·exact hx
  ·exfalso
   apply ht
   have e : i = g.N - 1:=ae;rw [e,hS.G.2.2.2.2];rfl
 rw [if_neg h6];have hi1:=hlast h6
 have HX : Hid (∀ W,Below w.heap.size w W → Calls Tryz.prog 148 #[.pointer (some ⟨g.J,0,none⟩),.int .i64 ((i + 1 : Nat) : Int)] W fun e w' => e = .returned (.bool (decide (opF g.xs (i + 1) = 5) || decide (opF g.xs (i + 1) = 6))) ∧ Below W.heap.size W w'):=hid fun W hb => by
  refine (ET (h.later hb) hS.N (show i + 1 < g.N by omega)).mono ?_
  rintro e w' ⟨rfl,hw⟩;rw [hw];exact kX
 by_cases hw : opF g.xs i = 0 ∨ opF g.xs i = 7 ∨ opF g.xs i = 9 ∨ opF g.xs i = 10
 ·rw [if_pos hw]
  have HY : Hid (∀ W,Below w.heap.size w W → Calls Tryz.prog 149 #[.pointer (some ⟨g.J,0,none⟩),.int .i64 i] W fun e w' => e = .returned (.bool (yN g.m g.R g.xs g.sh i)) ∧ Below W.heap.size W w'):=hid fun W hb => Gp (h.later hb) hS.N hS.T hS.TS hS.R8 hS.shS hi hw (fun h9 => ⟨(hl h9).1.later hb (Nat.le_refl _),(hl h9).2⟩)
  exact Gi h hS.N hi hb hw HX HY
 rw [if_neg hw]
 by_cases h16 : opF g.xs i = 16
 ·rw [if_pos h16]
  have key:=un (p:=fun y => gS g.m g.R g.xs g.sh i (y,⟨#[]⟩)) h hS.N hi hb h16 (hid fun W JB PB y hb c0 c1 hy => O9 (h.later hb) hS.N hS.T (fun a => (hS.TS a).1) hS.shS ae y c0 c1)
  exact key
 rw [if_neg h16]
 by_cases h17 : opF g.xs i = 17
 ·rw [if_pos h17]
  have key:=uU (p:=zP g i) h hS.N hi hb h17 (hid fun W JB PB y hb c0 c1 hy => Pn (h.later hb) hS ae y hy c0 c1)
  rw [OO,O8] at key;exact key
 rw [if_neg h17]
 refine zE h hS.N hi hb ?_ (hid fun W hb => DU (h.later hb) hS ae h16 h17)
 unfold Mv
 simp only [Bool.or_eq_false_iff,decide_eq_false_iff_not]
 omega
theorem KV (f : Nat → Bool) (k : Nat) : (List.range (k + 1)).all f = ((List.range k).all f && f k):=by
 rw [List.range_succ,List.all_append,List.all_cons,List.all_nil,Bool.and_true]
theorem LY (h : Jw g w) (hS : JS g) (hl : ∀ i,i < g.N → opF g.xs i = 9 → km w (g.xs.getD i dx).la (g.xs.getD i dx).ln (g.xs.getD i dx).lc (g.xs.getD i dx).l ∧ (g.xs.getD i dx).ln ≤ 100000) :
  Calls Tryz.prog 54 #[.pointer (some ⟨g.J,0,none⟩)] w fun e w' => e = .returned (.bool (vU g.m g.lo g.R g.xs g.sh g.N)) ∧ Below w.heap.size w w':=by
 have hn0:=hS.G.1;have hN:=hS.N;have B1:=aj w (gG 0 ⟨#[]⟩);have b1:=heap_alloc_new w (gG 0 ⟨#[]⟩)
 have H93:=hid (vJ (h.later B1) hS.N (pb:=w.heap.size) (poff:=0) (n:=1) (cap:=1) (l:=[(0,⟨#[]⟩)]) rfl ae (fun j p hj => by
  have hj0 : j = 0:=rR;subst hj0
  simp at hj
  subst hj;exact ⟨ai b1,ai b1,hn0⟩))
 have HRW:=hid (fun (W : World) (i HB : Nat) (hv : Bool) (hi : i < g.N) (hb : Below w.heap.size w W) (hc : W.heap[HB]? = some (f9 hv)) => QI (h.later hb) hS hi (fun h9 => ⟨(hl i hi h9).1.later hb (Nat.le_refl _),(hl i hi h9).2⟩) hc)
 have HC:=hid (fun (W : World) (hb : Below w.heap.size w W) => (h.later hb).c)
 have HB1:=hid B1
 have hmf : ∀ (fn : Fn) (first cap : Array Value) (w : World),(Instr.makeFunc fn first cap).run Tryz.prog w = .ok (.func fn first cap) w:=fun _ _ _ _ => rfl
 have HV : Hid (vU g.m g.lo g.R g.xs g.sh g.N = (fG g.sh [(0,⟨#[]⟩)] && (List.range g.N).all (lY g.m g.lo g.R g.xs g.sh g.N))):=hid rfl;generalize vU g.m g.lo g.R g.xs g.sh g.N = hol at *;generalize fG g.sh [(0,⟨#[]⟩)] = h0 at *;clear h hl B1 b1 hS;generalize g.N = N at *;generalize lY g.m g.lo g.R g.xs g.sh N = F at *
 go_enter Tryz.func54,Tryz.ntmps54
 go_wp2_with fail;refine H93.out.mono ?_;rintro e w2 ⟨rfl,hb2⟩;have BB:=HB1.out.trans (hb2.mono HB1.out.size);have B3:=BB.trans ((aj w2 (f9 h0)).mono BB.size);have b3:=heap_alloc_new w2 (f9 h0);have hw2 : w.heap.size ≤ w2.heap.size:=BB.size;have HB3:=hid B3;have Hb3:=hid b3;have cc:=HC.out _ B3;clear hb2 BB B3 b3 H93 HB1;go_wp2_with fail;generalize w2.heap.size = HB at *;clear cc
 go_loopw [16] (fun ix wr => ∃ k : Nat,k ≤ N ∧ ix = .int .i64 k ∧ Below w.heap.size w wr ∧ wr.heap[HB]? = some (f9 (h0 && (List.range k).all F))) (fun ix _ => N - (intOf ix).toNat)
 case atStart => exact ⟨0,Nat.zero_le _,rfl,HB3.out,by rw [show (h0 && (List.range 0).all F) = h0 from Bool.and_true _]; exact Hb3.out⟩
 case round =>
  obtain ⟨k,hk,rfl,hbr,hcr⟩:=hrel;have HBR:=hid hbr;have HCR:=hid hcr
  by_cases hlt : k < N
  ·have hk1 : (k : Int) < (N : Int):=ae;have HR:=hid (HRW.out wr k HB _ hlt hbr hcr);clear hbr hcr;go_wp2_with fail;refine HR.out.mono ?_;rintro e w5 ⟨rfl,W,hbW,rfl⟩;have hB5:=HBR.out.trans (hbW.mono HBR.out.size);have hC5:=bP (i:=0) (u:=.bool ((h0 && (List.range k).all F) && F k)) (ar hbW HCR.out);have HX:=hid (And.intro (bN (i:=0) (u:=.bool ((h0 && (List.range k).all F) && F k)) hB5 hw2 hB5.size) hC5);clear hbW hB5 hC5 HR;generalize W.setCell ⟨HB,0,none⟩ (.bool ((h0 && (List.range k).all F) && F k)) = W5 at *;go_wp2_with fail;refine ⟨⟨k + 1,ae,aX,HX.out.1,?_⟩,aZ⟩;rw [KV,← Bool.and_assoc];exact HX.out.2
  ·obtain rfl : k = N:=ae;have hk1 : ¬ ((k : Int) < (k : Int)):=ae;have c0 : wr.cell? ⟨HB,0,none⟩ = some (.bool (h0 && (List.range k).all F)):=ai hcr;clear hbr hcr;rw [← HV.out] at c0;go_wp2_with fail;go_ret;exact ⟨rfl,HBR.out⟩
end
end Go.Proofs.YtepnnenohjfkbaaGreatDoor

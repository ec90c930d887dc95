/-
  Texts Lp Rf.
-/
import Derived.Test.YtepnnenohjfkbaaGreatDoorP00
import Derived.Test.YtepnnenohjfkbaaGreatDoorP24
import Derived.Test.YtepnnenohjfkbaaGreatDoorP25
import Derived.Test.YtepnnenohjfkbaaGreatDoorP26
import Derived.Test.YtepnnenohjfkbaaGreatDoorP28
import Derived.Test.YtepnnenohjfkbaaGreatDoorP29
import Derived.Test.YtepnnenohjfkbaaGreatDoorP34
set_option linter.unusedVariables false
set_option maxRecDepth 100000
set_option maxHeartbeats 16000000
namespace Go.Proofs.YtepnnenohjfkbaaGreatDoor
open Go.RowKit
structure RS (g : Rg) (lo : List Int) : Prop where
 N : g.N ≤ 2048
 cap : g.N ≤ g.cc
 T : g.m.tn ≤ 1000000
 TS : ∀ a,(bE g.m a).1.size ≤ 8 ∧ (bE g.m a).2.size ≤ 8
 R8 : g.R.size ≤ 8
 shS : ∀ j,(g.sh j).size ≤ 256
 E : res (opF g.xs) g.N 0 = (0,0)
 loL : ∀ x ∈ lo,x = 119 ∨ x = 108
 gL : ∀ x ∈ g.m.globals,x.1 = 119 ∨ x.1 = 108
 hT : ∀ x ∈ g.m.hosts,0 ≤ x ∧ x < g.m.tn
 fT : ∀ x ∈ g.m.fns,0 ≤ x.1 ∧ x.1 < g.m.tn
 gn : g.m.gn ≤ 1000000
 hn : g.m.hn ≤ 1000000
 fn : g.m.fn ≤ 1000000
 kn : ∀ p,p < g.N → (ofV (opF g.xs p)).2 = true
 lc : ∃ (y : FuM) (q : Nat) (p : Sg),g.m.fns[g.f]? = some y ∧ y.1 = q ∧ g.m.types[q]? = some p ∧ aD (p.1 ++ y.2.1) = lo ∧ p.1.size + y.2.1.size ≤ 1000
theorem RS.G {g : Rg} {lo : List Int} (h : RS g lo) : Good (opF g.xs) g.N:=ku (by rw [h.E])
def rl1 (m : MM) (R : ByteArray) (xs : List Inx) (p : Nat) : ByteArray × Bool:=bI (fJ m R xs p) false ⟨#[]⟩ [(xs.getD p dx).a]
def rll (m : MM) (R : ByteArray) (xs : List Inx) (p : Nat) : ByteArray × Bool:=bI (fJ m R xs p) false ⟨#[]⟩ (xs.getD p dx).l
def kH (m : MM) (lo : List Int) (R : ByteArray) (xs : List Inx) (N : Nat) (sh : Nat → ByteArray) (p : Nat) : Bool :=
 if opF xs p = 0 then true
 else if isO (opF xs p) = true then sL m R xs N sh p
 else if opF xs p = 5 ∨ opF xs p = 6 then xA m R xs N sh p
 else if opF xs p = 7 then decide (0 ≤ (xs.getD p dx).a ∧ (xs.getD p dx).a ≤ 1000) && ((rl1 m R xs p).2 && (isV m R xs sh p (rl1 m R xs p).1).2)
 else if opF xs p = 8 then decide (0 ≤ (xs.getD p dx).a ∧ (xs.getD p dx).a ≤ 1000) && ((rl1 m R xs p).2 && fk m R xs N sh p ((rl1 m R xs p).1 ++ ⟨#[119]⟩) (rl1 m R xs p).1)
 else if opF xs p = 9 then (rll m R xs p).2 && (isV m R xs sh p ((rll m R xs p).1 ++ ⟨#[119]⟩)).2
 else if opF xs p = 10 then (isV m R xs sh p R).2
 else if opF xs p = 16 then fk m R xs N sh p ⟨#[119]⟩ ⟨#[]⟩ || fk m R xs N sh p ⟨#[108]⟩ ⟨#[]⟩
 else if opF xs p = 17 then fk m R xs N sh p ⟨#[119,119,119]⟩ ⟨#[119]⟩ || fk m R xs N sh p ⟨#[108,108,119]⟩ ⟨#[108]⟩
 else jF m lo R xs p && fk m R xs N sh p (jX m lo R xs p).1 (jX m lo R xs p).2
theorem Su (s : ByteArray) (n : Nat) (h : n < s.size) : s.extract n (n + 1) = ⟨#[s.data[n]'h]⟩:=by
 have h' : n < s.data.size:=h
 apply ByteArray.ext
 rw [ByteArray.data_extract]
 apply Array.ext
 ·simp; omega
 ·intro i h1 h2
  simp at h2
  subst h2
  simp
theorem Mw (s : ByteArray) (n : Nat) (h : n < s.size) (hl : (aD s).getD n 0 = 119 ∨ (aD s).getD n 0 = 108) : s.extract n (n + 1) = ltr ((aD s).getD n 0):=by
 have h' : n < s.data.size:=h
 have e : (aD s).getD n 0 = ((s.data[n]'h).toNat : Int):=by
  unfold aD;rw [List.getD_eq_getElem?_getD,List.getElem?_map,Array.getElem?_toList,Array.getElem?_eq_getElem h'];rfl
 rw [Su s n h];rw [e] at hl ⊢;generalize s.data[n]'h = b at *
 rcases hl with hl | hl
 ·have : b = 119:=UInt8.toNat_inj.1 (by have : b.toNat = 119:=(by omega);rw [this];rfl)
  subst this; rfl
 ·have : b = 108:=UInt8.toNat_inj.1 (by have : b.toNat = 108:=(by omega);rw [this];rfl)
  subst this; rfl
theorem Ms {z : Int} (h : z = 119 ∨ z = 108) : strOfNums [z] = ltr z:=by
 rcases h with rfl | rfl <;> rfl
theorem Ho {c : Int} (h : c = 18 ∨ c = 19 ∨ c = 20) : (tkV c == (6 : Int)) = true:=by rcases h with rfl | rfl | rfl <;> kernel_rfl
theorem NZ {c : Int} (h : c = 21 ∨ c = 22) : (tkV c == (6 : Int)) = false:=by rcases h with rfl | rfl <;> kernel_rfl
theorem Ov {c : Int} (h : c = 18 ∨ c = 19 ∨ c = 20 ∨ c = 21 ∨ c = 22) : (ofV c).1.2.2.2.2.2 = false:=by rcases h with rfl | rfl | rfl | rfl | rfl <;> kernel_rfl
theorem Pw : ((List.range 256).all fun k => !(ofV (k : Int)).2 || decide (k = 0) || decide (2 ≤ k ∧ k ≤ 12) || decide (16 ≤ k ∧ k ≤ 22) || (ofV (k : Int)).1.2.2.2.2.2) = true:=aw
theorem Ku {c : Int} (h0 : 0 ≤ c) (h1 : c ≤ 255) (hk : (ofV c).2 = true) (n : c ≠ 0 ∧ ¬ (2 ≤ c ∧ c ≤ 12) ∧ ¬ (16 ≤ c ∧ c ≤ 22)) : (ofV c).1.2.2.2.2.2 = true:=by
 have h:=List.all_eq_true.1 Pw c.toNat oK
 rw [show ((c.toNat : Nat) : Int) = c by omega,hk,decide_eq_false ae,decide_eq_false ae,decide_eq_false ae] at h
 simpa using h
section
variable {g : Rg} {w : World} {lo : List Int}
theorem CW (h : Rw g w) (hS : RS g lo) {i : Nat} (hi : i < g.N) {la : Option Addr} {ln lc : Nat} {l : List Int} (hl : km w la ln lc l) (hln : ln ≤ 100000) :
  Calls Tryz.prog 101 #[.pointer (some ⟨g.J,0,none⟩),.int .i64 i,.slice la ln lc] w fun e w' => e = .returned (.tuple #[.string (bI (fJ g.m g.R g.xs i) false ⟨#[]⟩ l).1,.bool (bI (fJ g.m g.R g.xs i) false ⟨#[]⟩ l).2]) ∧ Below w.heap.size w w':=by
 have hN:=hS.N;have hsl:=jn (ra hS.G hi)
 refine Aq h hS.N hS.T hi hl hln ae (hid fun W hb => ?_)
 refine (FI (some ⟨g.cb,g.coff,none⟩) g.N g.cc g.xs i W ae hS.cap ⟨h.cod.1,.inr ⟨_,_,rfl,h.cod.later hb (Nat.le_refl _)⟩⟩).mono ?_;rintro e w' ⟨v,rfl,hli,hb'⟩
 have hv : tK (opF g.xs) g.N i = dG (opF g.xs) i:=by unfold tK; rw [if_pos ⟨by rw [hS.E],ae,ae⟩,Int.toNat_natCast]
 rw [hv] at hli;obtain ⟨a,c,rfl⟩:=hli.slice;obtain ⟨h1,h2⟩:=hli.cell;have hlen:=yL (opF g.xs) i;obtain ⟨B,rfl,hc⟩:=h2.resolve_left ae
 refine ⟨B,c,by rw [hlen],hb',fun j hj => hc j ae⟩
theorem sK (hS : RS g lo) (i : Nat) (a : Int) : (fJ g.m g.R g.xs i a).1.size ≤ 8:=nk hS.TS hS.R8 g.xs i a
theorem Oo {W : World} {b : Nat} {z : Int} (h : W.cell? ⟨b,0,none⟩ = some (.int .i64 z)) (h0 : -9223372036854775808 ≤ z) (h1 : z ≤ 9223372036854775807) : km W (some ⟨b,0,none⟩) 1 1 [z] :=
 ⟨rfl,Nat.le_refl _,ae,fun x hx => by rw [List.mem_singleton] at hx; subst hx; exact ⟨h0,h1⟩,.inr ⟨b,0,rfl,fun j hj => by
  have : j = 0:=ae;subst this;exact h⟩⟩
theorem GV (h : Rw g w) (hS : RS g lo) {p : Nat} (hp : p < g.N) (hc : opF g.xs p = 18 ∨ opF g.xs p = 19 ∨ opF g.xs p = 20 ∨ opF g.xs p = 21 ∨ opF g.xs p = 22) :
  ∃ (y : ByteArray),(jF g.m lo g.R g.xs p = true → y.size ≤ 1000 ∧ jX g.m lo g.R g.xs p = (na (opF g.xs p) y,kE (opF g.xs p) y)) ∧
   vv w 106 #[.pointer (some ⟨g.J,0,none⟩),.agg #[.int .u8 (opF g.xs p),.int .i64 (g.xs.getD p dx).a,.slice (g.xs.getD p dx).la (g.xs.getD p dx).ln (g.xs.getD p dx).lc]] y (jF g.m lo g.R g.xs p):=by
 obtain ⟨e1,e2⟩:=oW (m:=g.m) (lo:=lo) (R:=g.R) (xs:=g.xs) (i:=p) (fW ae) ae;obtain ⟨y,q,pp,hy,hq,hpp,hlo,hls⟩:=hS.lc;have hr:=h.cod.range hp
 have H61 : Hid (∀ W,Calls Tryz.prog 161 #[.int .u8 (opF g.xs p)] W fun e w' => e = .returned (.int .i8 (tkV (opF g.xs p))) ∧ Below W.heap.size W w'):=hid fun W => Dj _ W hr.1 hr.2
 rw [e1,e2]
 rcases (show (opF g.xs p = 18 ∨ opF g.xs p = 19 ∨ opF g.xs p = 20) ∨ (opF g.xs p = 21 ∨ opF g.xs p = 22) by omega) with hl | hl
 ·have hE : efE g.m lo csD opD (opF g.xs p) (g.xs.getD p dx).a = bo lo.length (g.xs.getD p dx).a:=by
   unfold efE;exact Bw
  have hV : efV g.m lo csD opD (opF g.xs p) (g.xs.getD p dx).a = (na (opF g.xs p) (ltr (lo.getD (g.xs.getD p dx).a.toNat 0)),kE (opF g.xs p) (ltr (lo.getD (g.xs.getD p dx).a.toNat 0))):=by
   unfold efV;exact Bw
  rw [hE,hV]
  have hsz : lo.length = (pp.1 ++ y.2.1).size:=by rw [← hlo,cR]
  rcases dw lo.length (g.xs.getD p dx).a with ⟨h1,h2⟩ | ⟨h1,n,hn,hnn⟩
  ·rw [h1]
   refine ⟨⟨#[]⟩,fun hx => jy,hid fun W hb => ?_⟩
   exact mQ (h.later hb) hS.fn hS.T hS.gn hy hq hpp rfl hls (Ho hl) (by rw [← hsz]; exact h2) H61
  ·rw [h1]
   have hz:=hS.loL (lo.getD n 0) (by rw [List.getD_eq_getElem?_getD,aN hnn]; exact List.getElem_mem _)
   refine ⟨ltr (lo.getD n 0),fun _ => ⟨by have:=A0 (lo.getD n 0); omega,by rw [hn,Int.toNat_natCast]⟩,hid fun W hb => ?_⟩
   have:=l8 (h.later hb) hS.fn hS.T hS.gn (lv:=.slice (g.xs.getD p dx).la (g.xs.getD p dx).ln (g.xs.getD p dx).lc) hy hq hpp rfl hls (Ho hl) hn ae H61
   rw [Mw _ n ae (by rw [hlo]; exact hz),hlo] at this
   exact this
 ·have hE : efE g.m lo csD opD (opF g.xs p) (g.xs.getD p dx).a = orE (bo g.m.gn (g.xs.getD p dx).a) (if opF g.xs p = 21 ∨ glM g.m (g.xs.getD p dx).a = true then 0 else 39):=by
   unfold efE;exact CJ
  have hV : efV g.m lo csD opD (opF g.xs p) (g.xs.getD p dx).a = (na (opF g.xs p) (ltr (glC g.m (g.xs.getD p dx).a)),kE (opF g.xs p) (ltr (glC g.m (g.xs.getD p dx).a))):=by
   unfold efV;exact CJ
  rw [hE,hV]
  rcases dw g.m.gn (g.xs.getD p dx).a with ⟨h1,h2⟩ | ⟨h1,n,hn,hnn⟩
  ·rw [h1,show decide (orE 30 (if opF g.xs p = 21 ∨ glM g.m (g.xs.getD p dx).a = true then 0 else 39) = 0) = false from rfl]
   refine ⟨⟨#[]⟩,fun hx => jy,hid fun W hb => ?_⟩
   exact mj (h.later hb) hS.fn hS.T hS.gn hy hq hpp rfl hls (NZ hl) h2 H61
  ·have hlg:=h.pg.1;obtain ⟨x,hx⟩ : ∃ x,g.m.globals[n]? = some x:=⟨_,aN ae⟩;have hxl:=hS.gL x (List.mem_of_getElem? hx)
   have hC : glC g.m (g.xs.getD p dx).a = x.1:=by
    unfold glC;rw [hn,Int.toNat_natCast,hx];rfl
   have hM : glM g.m (g.xs.getD p dx).a = x.2.1:=by
    unfold glM;rw [hn,Int.toNat_natCast,hx];rfl
   rw [hC,hM,h1]
   have hd : decide (orE 0 (if opF g.xs p = 21 ∨ x.2.1 = true then (0 : Int) else 39) = 0) = ((opF g.xs p == (21 : Int)) || x.2.1):=by
    show decide ((if opF g.xs p = 21 ∨ x.2.1 = true then (0 : Int) else 39) = 0) = _
    by_cases h21 : opF g.xs p = 21
    ·rw [if_pos (.inl h21),h21]; rfl
    ·exact BU
   rw [hd]
   refine ⟨ltr x.1,fun _ => ⟨by have:=A0 x.1; omega,rfl⟩,hid fun W hb => ?_⟩
   have:=lm (h.later hb) hS.fn hS.T hS.gn (lv:=.slice (g.xs.getD p dx).la (g.xs.getD p dx).ln (g.xs.getD p dx).lc) hy hq hpp rfl hls (NZ hl) hn hx ae H61
   rw [Ms hxl] at this;exact this
theorem Fu (h : Rw g w) (hS : RS g lo) {p : Nat} (hp : p < g.N) (hc : opF g.xs p = 11 ∨ opF g.xs p = 12) :
  ∃ (P Q : ByteArray),(jF g.m lo g.R g.xs p = true → Q.size ≤ 1000 ∧ (P,Q) = jX g.m lo g.R g.xs p) ∧
   OE w 105 #[.pointer (some ⟨g.J,0,none⟩),.agg #[.int .u8 (opF g.xs p),.int .i64 (g.xs.getD p dx).a,.slice (g.xs.getD p dx).la (g.xs.getD p dx).ln (g.xs.getD p dx).lc]] P Q (jF g.m lo g.R g.xs p):=by
 obtain ⟨e1,e2⟩:=oW (m:=g.m) (lo:=lo) (R:=g.R) (xs:=g.xs) (i:=p) (fW ae) ae;rw [e1,e2]
 rcases hc with hc | hc
 ·have hE : efE g.m lo csD opD (opF g.xs p) (g.xs.getD p dx).a = bo g.m.fn (g.xs.getD p dx).a:=j4;have hV : efV g.m lo csD opD (opF g.xs p) (g.xs.getD p dx).a = bE g.m (uq g.m (g.xs.getD p dx).a):=j4;rw [hE,hV]
  rcases dw g.m.fn (g.xs.getD p dx).a with ⟨h1,h2⟩ | ⟨h1,q,hq,hqn⟩
  ·rw [h1]
   refine ⟨⟨#[]⟩,⟨#[]⟩,fun hx => jy,hid fun W hb => ?_⟩
   exact oO (h.later hb) hc hS.fn h2
  ·rw [h1];have hl:=h.pf.1;obtain ⟨x,hx⟩ : ∃ x,g.m.fns[q]? = some x:=⟨_,aN ae⟩;have hty:=hS.fT x (List.mem_of_getElem? hx);obtain ⟨t,ht⟩ : ∃ t : Nat,x.1 = t:=⟨x.1.toNat,ae⟩;have hl2:=h.pt.1;obtain ⟨pp,hpp⟩ : ∃ p,g.m.types[t]? = some p:=⟨_,aN ae⟩;obtain ⟨hpe,hps⟩:=BO hS.TS hpp
   have hfty : uq g.m (g.xs.getD p dx).a = t:=by
    unfold uq;rw [hq,Int.toNat_natCast,hx,← ht];rfl
   refine ⟨pp.1,pp.2,fun _ => ⟨hps,by rw [hfty,hpe]⟩,hid fun W hb => ?_⟩
   rw [hq];exact r8 (h.later hb) hc hS.fn hS.T hx ht hpp
 ·have hE : efE g.m lo csD opD (opF g.xs p) (g.xs.getD p dx).a = bo g.m.hn (g.xs.getD p dx).a:=j4;have hV : efV g.m lo csD opD (opF g.xs p) (g.xs.getD p dx).a = bE g.m (g.m.hosts.getD (g.xs.getD p dx).a.toNat 0):=j4;rw [hE,hV]
  rcases dw g.m.hn (g.xs.getD p dx).a with ⟨h1,h2⟩ | ⟨h1,q,hq,hqn⟩
  ·rw [h1]
   refine ⟨⟨#[]⟩,⟨#[]⟩,fun hx => jy,hid fun W hb => ?_⟩
   exact lU (h.later hb) ae hS.hn h2
  ·rw [h1];have hl:=h.ph.1;obtain ⟨x,hx⟩ : ∃ x,g.m.hosts[q]? = some x:=⟨_,aN ae⟩;have hty:=hS.hT x (List.mem_of_getElem? hx);obtain ⟨t,ht⟩ : ∃ t : Nat,x = t:=⟨x.toNat,ae⟩;have hl2:=h.pt.1;obtain ⟨pp,hpp⟩ : ∃ p,g.m.types[t]? = some p:=⟨_,aN ae⟩;obtain ⟨hpe,hps⟩:=BO hS.TS hpp
   have hfty : g.m.hosts.getD (g.xs.getD p dx).a.toNat 0 = t:=by rw [hq,Int.toNat_natCast,gY hx,ht]
   refine ⟨pp.1,pp.2,fun _ => ⟨hps,by rw [hfty,hpe]⟩,hid fun W hb => ?_⟩
   rw [hq];exact pA (h.later hb) ae hS.hn hS.T hx ht hpp
theorem pV {a b c : Bool} (h : a = true → b = c) : (a && b) = (a && c):=by cases a <;> simp_all
theorem Py (h : Rw g w) (hS : RS g lo) {p : Nat} (hp : p < g.N) (hl : opF g.xs p = 9 → (g.xs.getD p dx).ln ≤ 100000) :
  Calls Tryz.prog 58 #[.pointer (some ⟨g.J,0,none⟩),.int .i64 p] w fun e w' => e = .returned (.bool (kH g.m lo g.R g.xs g.N g.sh p)) ∧ Below w.heap.size w w':=by
 have hr:=h.cod.range hp;have hra:=(h.cod.2 p hp).2.2.2.2.2
 have TU : ∀ (off on : ByteArray),on.size ≤ 1000 → nM w 102 #[.pointer (some ⟨g.J,0,none⟩),.int .i64 p,.string off,.string on] (fk g.m g.R g.xs g.N g.sh p off on):=fun off on ho => hid fun W hb => Fa (h.later hb) hS.N hS.T (fun a => (hS.TS a).1) hS.shS hp off on ho
 have TX : ∀ (y : ByteArray),vv w 103 #[.pointer (some ⟨g.J,0,none⟩),.int .i64 p,.string y] (rxV g.m g.R g.xs g.sh p y) (isV g.m g.R g.xs g.sh p y).2:=fun y => hid fun W hb => Cu (h.later hb) hS.N hS.T (fun a => (hS.TS a).1) hS.shS hp y
 have s1 : (rl1 g.m g.R g.xs p).1.size ≤ 8:=ie (sK hS p) _ _ _ (Nat.zero_le _);have sl : (rll g.m g.R g.xs p).1.size ≤ 8:=ie (sK hS p) _ _ _ (Nat.zero_le _)
 have OF : Hid (∀ W,Below w.heap.size w W → Calls Tryz.prog 32 #[.int .u8 (opF g.xs p)] W fun e w' => e = .returned (.tuple #[.agg #[.int .u8 (ofV (opF g.xs p)).1.1,.string (ofV (opF g.xs p)).1.2.1,.int .i8 (ofV (opF g.xs p)).1.2.2.1,.string (ofV (opF g.xs p)).1.2.2.2.1,.string (ofV (opF g.xs p)).1.2.2.2.2.1,.bool (ofV (opF g.xs p)).1.2.2.2.2.2],.bool (ofV (opF g.xs p)).2]) ∧ Below W.heap.size W w'):=hid fun W hb => wJ _ W hr.1 hr.2
 unfold kH
 by_cases c0 : opF g.xs p = 0
 ·rw [if_pos c0];exact M9 h hS.N hp c0
 rw [if_neg c0]
 by_cases cO : isO (opF g.xs p) = true
 ·rw [if_pos cO];have cO':=cD.1 cO;obtain ⟨q,q1,q2,q3,_,_,q4⟩:=kR hS.G hp cO
  exact Ay h hS.N hp cO' (hid fun W hb => Kl (h.later hb) hS.N hS.T hS.TS hS.R8 hS.shS hp ae ae)
 rw [if_neg cO]
 have cN:=mR (by simpa using cO)
 by_cases c5 : opF g.xs p = 5 ∨ opF g.xs p = 6
 ·rw [if_pos c5]
  refine yf h hS.N hp c5 (hid fun W hb => AB (h.later hb) hS.N hS.T hS.TS hS.R8 hS.shS hp fun h5 => ?_)
  obtain ⟨_,q,q1,_⟩:=oN hS.G hp h5;omega
 rw [if_neg c5]
 have L1 : Hid (∀ W la,Below w.heap.size w W → W.cell? ⟨la,0,none⟩ = some (.int .i64 (g.xs.getD p dx).a) → Calls Tryz.prog 101 #[.pointer (some ⟨g.J,0,none⟩),.int .i64 p,.slice (some ⟨la,0,none⟩) 1 1] W fun e w' => e = .returned (.tuple #[.string (rl1 g.m g.R g.xs p).1,.bool (rl1 g.m g.R g.xs p).2]) ∧ Below W.heap.size W w') :=
  hid fun W la hb hc => CW (h.later hb) hS hp (Oo hc hra.1 hra.2.1) ae
 by_cases c7 : opF g.xs p = 7
 ·rw [if_pos c7]
  by_cases ha : 0 ≤ (g.xs.getD p dx).a ∧ (g.xs.getD p dx).a ≤ 1000
  ·rw [decide_eq_true ha,Bool.true_and];exact Lx h hS.N hp c7 ae L1 (TX _)
  ·rw [decide_eq_false ha,Bool.false_and];exact sM h hS.N hp (.inl c7) ae
 rw [if_neg c7]
 by_cases c8 : opF g.xs p = 8
 ·rw [if_pos c8]
  by_cases ha : 0 ≤ (g.xs.getD p dx).a ∧ (g.xs.getD p dx).a ≤ 1000
  ·rw [decide_eq_true ha,Bool.true_and]
   exact zH h hS.N hp c8 ae ae L1 (fun _ => TU _ _ ae)
  ·rw [decide_eq_false ha,Bool.false_and];exact sM h hS.N hp (.inr c8) ae
 rw [if_neg c8]
 by_cases c9 : opF g.xs p = 9
 ·rw [if_pos c9];have hl2:=hl c9;have hl1:=hra.2.2.2 hl2
  exact Fy h hS.N hp c9 (y:=(rll g.m g.R g.xs p).1) (Nat.le_trans sl ae) (hid fun W hb => CW (h.later hb) hS hp (hl1.later hb (Nat.le_refl _)) hl2) (TX _)
 rw [if_neg c9]
 by_cases c10 : opF g.xs p = 10
 ·rw [if_pos c10]
  exact Gm h hS.N hp c10 (hid fun W hb => ni (h.later hb)) (TX _)
 rw [if_neg c10]
 by_cases c16 : opF g.xs p = 16
 ·rw [if_pos c16];exact Bd h hS.N hp c16 (TU _ _ aH) (TU _ _ aH)
 rw [if_neg c16]
 by_cases c17 : opF g.xs p = 17
 ·rw [if_pos c17];exact Gd h hS.N hp c17 (TU _ _ aH) (TU _ _ aH)
 rw [if_neg c17]
 by_cases c11 : opF g.xs p = 11 ∨ opF g.xs p = 12
 ·obtain ⟨P,Q,hx,hA⟩:=Fu h hS hp c11
  rw [show (jF g.m lo g.R g.xs p && fk g.m g.R g.xs g.N g.sh p (jX g.m lo g.R g.xs p).1 (jX g.m lo g.R g.xs p).2) = (jF g.m lo g.R g.xs p && fk g.m g.R g.xs g.N g.sh p P Q) from pV fun hj => by rw [← (hx hj).2]]
  exact AA h hS.N hp c11 hA (fun hj => TU _ _ (hx hj).1)
 by_cases cv : opF g.xs p = 18 ∨ opF g.xs p = 19 ∨ opF g.xs p = 20 ∨ opF g.xs p = 21 ∨ opF g.xs p = 22
 ·obtain ⟨y,hx,hA⟩:=GV h hS hp cv;rw [Ov cv] at OF
  by_cases cg : opF g.xs p = 18 ∨ opF g.xs p = 21
  ·have eP : na (opF g.xs p) y = ⟨#[]⟩:=by unfold na; rw [if_pos cg]
   have eR : kE (opF g.xs p) y = y:=by unfold kE; rw [if_pos ae]
   rw [eP,eR] at hx
   rw [show (jF g.m lo g.R g.xs p && fk g.m g.R g.xs g.N g.sh p (jX g.m lo g.R g.xs p).1 (jX g.m lo g.R g.xs p).2) = (jF g.m lo g.R g.xs p && fk g.m g.R g.xs g.N g.sh p ⟨#[]⟩ y) from pV fun hj => by rw [(hx hj).2]]
   exact EJ h hS.N hp cg OF hA (fun hj => TU _ _ (hx hj).1)
  by_cases cs : opF g.xs p = 19 ∨ opF g.xs p = 22
  ·have eP : na (opF g.xs p) y = y:=by unfold na; rw [if_neg ae]
   have eR : kE (opF g.xs p) y = ⟨#[]⟩:=by unfold kE; rw [if_neg ae]
   rw [eP,eR] at hx
   rw [show (jF g.m lo g.R g.xs p && fk g.m g.R g.xs g.N g.sh p (jX g.m lo g.R g.xs p).1 (jX g.m lo g.R g.xs p).2) = (jF g.m lo g.R g.xs p && fk g.m g.R g.xs g.N g.sh p y ⟨#[]⟩) from pV fun hj => by rw [(hx hj).2]]
   exact Fb h hS.N hp cs OF hA (fun hj => TU _ _ aH)
  ·have eP : na (opF g.xs p) y = y:=by unfold na; rw [if_neg ae]
   have eR : kE (opF g.xs p) y = y:=by unfold kE; rw [if_pos ae]
   rw [eP,eR] at hx
   rw [show (jF g.m lo g.R g.xs p && fk g.m g.R g.xs g.N g.sh p (jX g.m lo g.R g.xs p).1 (jX g.m lo g.R g.xs p).2) = (jF g.m lo g.R g.xs p && fk g.m g.R g.xs g.N g.sh p y y) from pV fun hj => by rw [(hx hj).2]]
   exact EP h hS.N hp ae OF hA (fun hj => TU _ _ (hx hj).1)
 obtain ⟨e1,e2⟩:=oW (m:=g.m) (lo:=lo) (R:=g.R) (xs:=g.xs) (i:=p) (by simpa using cO) c8
 have hE : efE g.m lo csD opD (opF g.xs p) (g.xs.getD p dx).a = 0:=by
  exact Bj
 have hV : efV g.m lo csD opD (opF g.xs p) (g.xs.getD p dx).a = ((ofV (opF g.xs p)).1.2.2.2.1,(ofV (opF g.xs p)).1.2.2.2.2.1):=by
  exact D8
 rw [e1,e2,hE,hV,decide_eq_true rfl,Bool.true_and];have hps:=(of_le hr.1 hr.2).2;rw [Ku hr.1 hr.2 (hS.kn p hp) ae] at OF
 have nq : ∀ {k : Int},opF g.xs p ≠ k → (opF g.xs p == k) = false:=fun h => jZ
 exact xh h hS.N hp (nq ae) (nq ae) (nq ae) (nq ae) (nq ae) (nq ae) (nq ae) (nq ae) (nq ae) (nq ae) (nq ae) (nq ae) (nq ae) (nq ae) OF (TU _ _ ae)
end
theorem JN {sg : List Sg} {ah : List FuM} {x : FuM} {t : Nat} {P Q : ByteArray} (ht : x.1 = t) (hp : sg[t]? = some (P,Q)) (hP : P.size ≤ 8) :
  cz sg ah x = orE (ltE x.2.1 (64 - P.size)) (if 2048 < x.2.2.2.length then 20 else if 16384 < bM ah + x.2.2.2.length then 20 else aV (fun _ y => cA y) [] x.2.2.2):=by
 unfold cz eW;have hl:=ax hp
 rw [if_neg (by rw [ht]; omega),ht,oM hp]
 unfold ltE orE
 by_cases h1 : 64 < x.2.1.size + P.size
 ·simp [h1,show 64 - P.size < x.2.1.size by omega]
 ·rw [if_neg h1,if_neg (show ¬ 64 - P.size < x.2.1.size by omega),d9 x.2.1 (64 - P.size) 64 ae ae]
  by_cases h2 : lett x.2.1 64 = false
  ·rw [if_pos h2,if_pos h2]; rfl
  ·rw [if_neg h2,if_neg h2]
   simp only [ne_eq,not_true_eq_false,if_false]
   by_cases h3 : 2048 < x.2.2.2.length
   ·rw [if_pos h3,if_pos ae]
   ·rw [if_neg h3]
    by_cases h4 : 16384 < bM ah + x.2.2.2.length
    ·rw [if_pos h4,if_pos ae]
    ·rw [if_neg h4,if_neg ae]
theorem FR {sg : List Sg} {ah : List FuM} {x : FuM} (h : x.1 < 0 ∨ (sg.length : Int) ≤ x.1) : cz sg ah x = 30:=by
 unfold cz eW;rw [if_pos h]
theorem yU (m : MM) (w : World) (pt : eA w m.ta m.tn m.types) (hT : ∀ (j : Nat) x,m.types[j]? = some x → x.1.size ≤ 8) (htn : m.tn ≤ 281474976710656) (pf : i7 w m.fa m.fn m.fns) (hfn : m.fn ≤ 281474976710656)
  (fr : ∀ (j : Nat) x,m.fns[j]? = some x → (-9223372036854775808 ≤ x.1 ∧ x.1 < 9223372036854775808) ∧ AtIn w x.2.2.1.1 x.2.2.1.2.1 x.2.2.2 ∧ x.2.1.size ≤ 281474976710656 ∧ x.2.2.1.2.1 ≤ 281474976710656 ∧ ∀ (i : Nat) y,x.2.2.2[i]? = some y → 0 ≤ y.1 ∧ y.1 ≤ 255 ∧ fN w y.2.2.1.1 y.2.2.1.2.1 y.2.2.1.2.2 y.2.2.2) :
  Calls Tryz.prog 220 #[.agg (mV m)] w fun e w' => e = .returned (.int .i64 (e6 m)) ∧ Below w.heap.size w w':=by
 have HPT:=hid (fun (W : World) (hb : Below w.heap.size w W) => pt.kept (az hb) (fun _ _ _ _ => id))
 have HPF:=hid (fun (W : World) (hb : Below w.heap.size w W) => pf.kept (az hb) (fun _ _ _ _ => id))
 have HFR:=hid (fun (W : World) (hb : Below w.heap.size w W) (j : Nat) x (hj : m.fns[j]? = some x) => (⟨(fr j x hj).1,(fr j x hj).2.1.kept (az hb) (fun _ _ _ _ => id),(fr j x hj).2.2.1,(fr j x hj).2.2.2.1,fun i y hi => ⟨((fr j x hj).2.2.2.2 i y hi).1,((fr j x hj).2.2.2.2 i y hi).2.1,((fr j x hj).2.2.2.2 i y hi).2.2.later hb (Nat.le_refl _)⟩⟩ : (-9223372036854775808 ≤ x.1 ∧ x.1 < 9223372036854775808) ∧ AtIn W x.2.2.1.1 x.2.2.1.2.1 x.2.2.2 ∧ x.2.1.size ≤ 281474976710656 ∧ x.2.2.1.2.1 ≤ 281474976710656 ∧ ∀ (i : Nat) y,x.2.2.2[i]? = some y → 0 ≤ y.1 ∧ y.1 ≤ 255 ∧ fN W y.2.2.1.1 y.2.2.1.2.1 y.2.2.1.2.2 y.2.2.2))
 have HT8:=hid hT;have tl:=pt.1;have fl:=pf.1;clear pt pf fr hT;have B0:=aj w (.cells (mV m) 29);have b0:=heap_alloc_new w (.cells (mV m) 29);have HW : w.alloc (bD m.ta m.tn m.tc m.ha m.hn m.hc m.ga m.gn m.gc m.fi m.mo m.fa m.fn m.fc m.da m.dn m.dc m.ea m.en m.ec) = w.alloc (.cells (mV m) 29):=rfl;generalize w.alloc (.cells (mV m) 29) = W0 at *;have HB0:=hid B0
 have HX:=hid (fun (W : World) (hb : Below W0.heap.size W0 W) => (⟨ag hb (ai b0),ag hb (ai b0)⟩ : W.cell? ⟨w.heap.size,0,none⟩ = some (.slice m.ta m.tn m.tc) ∧ W.cell? ⟨w.heap.size,5,none⟩ = some (.slice m.fa m.fn m.fc)))
 obtain ⟨m0,m5⟩:=HX.out W0 (Below.refl _ _);clear B0 b0
 show Calls Tryz.prog 220 #[.agg #[.slice m.ta m.tn m.tc,.slice m.ha m.hn m.hc,.slice m.ga m.gn m.gc,.int .i64 m.fi,.int .i64 m.mo,.slice m.fa m.fn m.fc,.slice m.da m.dn m.dc,.slice m.ea m.en m.ec]] w _
 by_cases ht : 128 < m.fn
 ·have HV:=hid (show e6 m = 20 by unfold e6 bq; rw [if_pos ae])
  have ht' : (128 : Int) < (m.fn : Int):=ae
  go_enter Tryz.func220,Tryz.ntmps220
  exact pL
 have ht' : ¬ (128 : Int) < (m.fn : Int):=ae
 have HE6:=hid (show e6 m = aV (cz m.types) [] m.fns by unfold e6 bq; rw [if_neg ae])
 go_enter Tryz.func220,Tryz.ntmps220
 go_wp2_with fail;clear m0 m5 HW
 go_loopw [3,4] (fun al i wr => ∃ t : Nat,t ≤ m.fn ∧ al = .int .i64 (bM (m.fns.take t) : Nat) ∧ i = .int .i64 t ∧ bM (m.fns.take t) ≤ 16384 ∧ Hid (aV (cz m.types) [] (m.fns.take t) = 0) ∧ Hid (Below W0.heap.size W0 wr)) (fun _ i _ => m.fn - (intOf i).toNat)
 case atStart => exact ⟨0,Nat.zero_le _,rfl,rfl,by simp [bM],hid rfl,hid (Below.refl _ _)⟩
 case round =>
  obtain ⟨t,htf,rfl,rfl,hal,HF,HB⟩:=hrel;obtain ⟨m0,m5⟩:=HX.out wr HB.out
  by_cases hlt : t < m.fn
  ·have hlt' : (t : Int) < (m.fn : Int):=ae;obtain ⟨x,hx⟩ : ∃ x,m.fns[t]? = some x:=⟨_,aN ae⟩;obtain ⟨fb,fof,hfa,hat⟩:=(HPF.out wr (HB0.out.trans (HB.out.mono HB0.out.size))).2.resolve_left ae;obtain ⟨g0,g1,g2⟩:=hat t x hx;obtain ⟨⟨r0,r1⟩,-,r2,r3,-⟩:=HFR.out wr (HB0.out.trans (HB.out.mono HB0.out.size)) t x hx
   have HFX:=hid (fun (W : World) (hb : Below w.heap.size w W) => HFR.out W hb t x hx)
   have HH:=hid (fun hne => dV (cz m.types) m.fns t x hx HF.out hne)
   have HT:=hid (fun hz => dX (cz m.types) m.fns t x hx HF.out hz)
   have hcs:=mI hx;have HCS:=hid hcs;clear hat;rw [hfa] at m5
   try rw [hfa]
   have FQ:=hid (fun (sg : List Sg) (ah : List FuM) (t : Nat) (P Q : ByteArray) => @JN sg ah x t P Q)
   have FX:=hid (fun (sg : List Sg) (ah : List FuM) => @FR sg ah x)
   obtain ⟨ty,lo,⟨ca,cn,cc⟩,ins⟩:=x;dsimp only at *;have BN:=aj wr (aI ty lo ca cn cc);have bn:=heap_alloc_new wr (aI ty lo ca cn cc);have HB1:=hid (HB.out.trans (BN.mono HB.out.size))
   have HY:=hid (fun (W : World) (hb : Below (wr.alloc (aI ty lo ca cn cc)).heap.size (wr.alloc (aI ty lo ca cn cc)) W) => (⟨ag hb (ai bn),ag hb (ai bn),ag hb (ai bn)⟩ : W.cell? ⟨wr.heap.size,0,none⟩ = some (.int .i64 ty) ∧ W.cell? ⟨wr.heap.size,1,none⟩ = some (.string lo) ∧ W.cell? ⟨wr.heap.size,2,none⟩ = some (.slice ca cn cc)))
   obtain ⟨y0,y1,y2⟩:=HY.out _ (Below.refl _ _);have m0:=ag BN m0;clear BN bn HF hcs hx
   by_cases hb : ty < 0 ∨ (m.tn : Int) ≤ ty
   ·have HV:=hid (show e6 m = 30 by
     have hc:=FX.out m.types (m.fns.take t) (by rw [tl]; exact hb)
     rw [HE6.out,HH.out gF,hc])
    by_cases h0 : ty < 0
    ·have d0 : decide (ty < 0) = true:=fV;exact pG
    ·have d0 : decide (ty < 0) = false:=fV;have d1 : decide ((m.tn : Int) ≤ ty) = true:=aG;exact pG
   have d0 : decide (ty < 0) = false:=aG;have d1 : decide ((m.tn : Int) ≤ ty) = false:=aG;obtain ⟨q,hq⟩ : ∃ q : Nat,ty = q:=⟨ty.toNat,ae⟩;subst hq;clear r0 r1;have hqn : (q : Int) < (m.tn : Int):=ae;obtain ⟨P,hP⟩ : ∃ P,m.types[q]? = some P:=⟨_,aN ae⟩;obtain ⟨tb,tof,hta,hatT⟩:=(HPT.out _ (HB0.out.trans (HB1.out.mono HB0.out.size))).2.resolve_left ae;obtain ⟨p0,-⟩:=hatT q P hP;have h8:=HT8.out q P hP;have HC:=hid (FQ.out m.types (m.fns.take t) q P.1 P.2 rfl hP h8);rw [hta] at m0
   try rw [hta]
   clear hatT hP FQ FX hb;obtain ⟨P,Q⟩:=P;dsimp only at *
   have HSUB:=hid (show (64 : Int) - (P.size : Int) = ((64 - P.size : Nat) : Int) by omega)
   have HL:=hid (fun (W : World) => by
    have hL:=lG lo (64 - P.size) W r2 ae;rw [← HSUB.out] at hL;exact hL)
   have HBD:=hid (fun (n : Nat) => (show Below W0.heap.size W0 ((wr.alloc (aI (q : Int) lo ca cn cc)).drewN n) from bA HB1.out (Kept.drewN (fun _ => False) _ n) HB1.out.size (fun _ x => x.elim)))
   have HYD:=hid (fun (n : Nat) => HY.out ((wr.alloc (aI (q : Int) lo ca cn cc)).drewN n) (bA (Below.refl _ _) (Kept.drewN (fun _ => False) _ n) (Nat.le_refl _) (fun _ x => x.elim)))
   by_cases z0 : ltE lo (64 - P.size) = 0
   rotate_left
   ·have HV:=hid (show e6 m = ltE lo (64 - P.size) by
     have hc:=HC.out.trans (cJ z0)
     rw [HE6.out,HH.out (by rw [hc]; exact z0),hc])
    generalize ltE lo (64 - P.size) = E at *;have hE : (E != 0) = true:=wC;exact zM
   rw [z0] at HL;have hlen : ins.length = cn:=(HFX.out _ (HB0.out.trans (HB1.out.mono HB0.out.size))).2.1.1;have HC2:=hid (HC.out.trans (aP z0));rw [hlen] at HC2 HCS;clear HC z0
   by_cases z1 : 2048 < cn
   ·have HV:=hid (show e6 m = 20 by
     have hc:=HC2.out;rw [if_pos z1] at hc
     rw [HE6.out,HH.out gF,hc])
    have z1' : (2048 : Int) < (cn : Int):=ae;exact zM
   have z1' : ¬ (2048 : Int) < (cn : Int):=ae
   by_cases z2 : 16384 < bM (m.fns.take t) + cn
   ·have HV:=hid (show e6 m = 20 by
     have hc:=HC2.out;rw [if_neg z1,if_pos z2] at hc
     rw [HE6.out,HH.out gF,hc])
    generalize bM (m.fns.take t) = al at *;have z2' : (16384 : Int) < (al : Int) + (cn : Int):=ae;exact zM
   have HC3:=hid (show cz m.types (m.fns.take t) (q,lo,(ca,cn,cc),ins) = aV (fun _ y => cA y) [] ins by
    have hc:=HC2.out;rw [if_neg z1,if_neg z2] at hc;exact hc)
   clear HC2;generalize hal9 : bM (m.fns.take t) = al at *;have HAL:=hid hal9;clear hal9;have z2' : ¬ (16384 : Int) < (al : Int) + (cn : Int):=ae;go_wp2_with fail
   go_quiet ((go_at_call 265; exact Calls.quiet_of_same (HL.out _)))
   go_wp2_with fail;have HBE:=hid (HBD.out nq)
   have HBF:=hid (show Below (wr.alloc (aI (q : Int) lo ca cn cc)).heap.size (wr.alloc (aI (q : Int) lo ca cn cc)) ((wr.alloc (aI (q : Int) lo ca cn cc)).drewN nq) from bA (Below.refl _ _) (Kept.drewN (fun _ => False) _ nq) (Nat.le_refl _) (fun _ x => x.elim))
   clear y0 y1 y2 p0 g0 g1 g2 m0 m5 HL HBD HYD;generalize (wr.alloc (aI (q : Int) lo ca cn cc)).drewN nq = WL at *
   go_loopw [6,7] (fun _ k wq => ∃ j : Nat,j ≤ cn ∧ k = .int .i64 j ∧ Hid (aV (fun _ y => cA y) [] (ins.take j) = 0) ∧ Hid (Below W0.heap.size W0 wq) ∧ Hid (Below (wr.alloc (aI (q : Int) lo ca cn cc)).heap.size (wr.alloc (aI (q : Int) lo ca cn cc)) wq)) (fun _ k _ => cn - (intOf k).toNat)
   case atStart => exact ⟨0,Nat.zero_le _,rfl,hid rfl,HBE,HBF⟩
   case round =>
    obtain ⟨j,hj,rfl,HFI,HBJ,HBK⟩:=hrel;clear HBE HBF;obtain ⟨y0,y1,y2⟩:=HY.out _ HBK.out
    by_cases hjn : j < cn
    ·have hjn' : (j : Int) < (cn : Int):=ae;obtain ⟨y,hy⟩ : ∃ y,ins[j]? = some y:=⟨_,aN ae⟩;obtain ⟨-,hin,-,-,hiy⟩:=HFX.out _ (HB0.out.trans (HBJ.out.mono HB0.out.size));obtain ⟨cb,cof,rfl,hatI⟩:=hin.2.resolve_left ae;obtain ⟨g0,g1,g2⟩:=hatI j y hy;obtain ⟨v0,v1,v2⟩:=hiy j y hy;have HCK:=hid (yQ y.1 y.2.1 _ _ _ y.2.2.2 _ v0 v1 v2);unfold iy at HCK
     have HH2:=hid (fun hne => dV (fun _ y => cA y) ins j y hy HFI.out hne)
     have HT2:=hid (fun hz => dX (fun _ y => cA y) ins j y hy HFI.out hz)
     have hk0 : (0 : Int) ≤ (j : Int):=ae;have HE:=hid (show cA y = chk (tkV y.1) (lgV y.1) y.2.1 y.2.2.2 from rfl);clear hin hiy hatI v0 v1 v2 hy;generalize chk (tkV y.1) (lgV y.1) y.2.1 y.2.2.2 = E at *
     by_cases z3 : E = 0
     ·subst z3;have HN:=hid (HT2.out HE.out);go_wp2_with fail;refine HCK.out.mono ?_;rintro e w9 ⟨rfl,hb9⟩;have HB9:=hid (HBJ.out.trans (hb9.mono HBJ.out.size));have HB8:=hid (HBK.out.trans (hb9.mono HBK.out.size));clear hb9;go_wp2_with fail;exact ⟨⟨j + 1,ae,aX,HN,HB9,HB8⟩,aZ⟩
     ·have HV:=hid (show e6 m = E by
       have h2:=HH2.out (by rw [HE.out]; exact z3)
       rw [HE6.out,HH.out (by rw [HC3.out,h2,HE.out]; exact z3),HC3.out,h2,HE.out])
      have hE : (E != 0) = true:=by simpa using z3
      go_wp2_with fail;refine HCK.out.mono ?_;rintro e w9 ⟨rfl,hb9⟩;have HB9:=hid (HBJ.out.trans (hb9.mono HBJ.out.size));clear hb9;go_wp2_with fail;go_ret;exact ⟨cd,HB0.out.trans (HB9.out.mono HB0.out.size)⟩
    ·obtain rfl : j = cn:=ae
     have HN:=hid (HT.out (by rw [HC3.out]; have:=HFI.out; rwa [ir hlen] at this))
     go_wp2_with fail
     refine ⟨⟨t + 1,ae,by rw [HCS.out]; go_num,aX,by rw [HCS.out]; omega,HN,HBJ⟩,aZ⟩
  ·obtain rfl : t = m.fn:=ae
   have HV:=hid (show e6 m = 0 by rw [HE6.out]; have:=HF.out; rwa [ir fl] at this)
   exact gX
end Go.Proofs.YtepnnenohjfkbaaGreatDoor

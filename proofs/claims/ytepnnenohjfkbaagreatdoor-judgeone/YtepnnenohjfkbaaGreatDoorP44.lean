/-
  Texts Jv Ya Yb Yd Ye.
-/
import Derived.Test.YtepnnenohjfkbaaGreatDoorP29
import Derived.Test.YtepnnenohjfkbaaGreatDoorP33
import Derived.Test.YtepnnenohjfkbaaGreatDoorP39
import Derived.Test.YtepnnenohjfkbaaGreatDoorP41
import Derived.Test.YtepnnenohjfkbaaGreatDoorP43
set_option linter.unusedVariables false
set_option maxRecDepth 100000
set_option maxHeartbeats 16000000
namespace Go.Proofs.YtepnnenohjfkbaaGreatDoor
open Go.RowKit
structure JS (g : Jg) : Prop where
 N : g.N ≤ 2048
 T : g.m.tn ≤ 1000000
 TS : ∀ a,(aH g.m a).1.size ≤ 8 ∧ (aH g.m a).2.size ≤ 8
 R8 : g.R.size ≤ 8
 shS : ∀ j,(g.sh j).size ≤ 256
 G : Good (opF g.xs) g.N
 lo : ∀ x ∈ g.lo,x = 119 ∨ x = 108
 gL : ∀ x ∈ g.m.globals,x.1 = 119 ∨ x.1 = 108
 hT : ∀ x ∈ g.m.hosts,0 ≤ x ∧ x < g.m.tn
 fT : ∀ x ∈ g.m.fns,0 ≤ x.1 ∧ x.1 < g.m.tn
 lol : g.lo.length ≤ 1000000
 gn : g.m.gn ≤ 1000000
 hn : g.m.hn ≤ 1000000
 fn : g.m.fn ≤ 1000000
section
variable {w : World}
theorem vw : Utf8.encode 0 = ⟨#[0]⟩:=by decide
theorem oG {c z : Int} (hc : c = 18 ∨ c = 19 ∨ c = 20 ∨ c = 21 ∨ c = 22) (hz : z = 119 ∨ z = 108) :
  Calls Tryz.prog 259 #[.string (wdV c),.int .u8 z] w fun e w' => e = .returned (.agg #[.string (eh c (ltr z)),.string (dY c (ltr z))]) ∧ Below w.heap.size w w':=by
 rcases hc with rfl | rfl | rfl | rfl | rfl
 ·exact jB (.inl (by rw [wm,aM]; rfl)) z hz
 ·exact jv (by rw [CO,aM]; rfl) (by rw [CO,aM]; rfl) (by rw [CO,aM]; rfl) z hz
 ·exact qw (by rw [CN,aM]; rfl) (by rw [CN,aM]; rfl) (by rw [CN,aM]; rfl) z hz
 ·exact jB (.inr ⟨by rw [oO,aM]; rfl,by rw [oO,aM]; rfl⟩) z hz
 ·exact jv (by rw [kD,aM]; rfl) (by rw [kD,aM]; rfl) (by rw [kD,aM]; rfl) z hz
theorem mj {wd : ByteArray} (hw : (wd.toList == [103,101,116]) = true ∨ ((wd.toList == [103,101,116]) = false ∧ (wd.toList == [103,103,101,116]) = true)) :
  Calls Tryz.prog 259 #[.string wd,.int .u8 0] w fun e w' => e = .returned (.agg #[.string ⟨#[]⟩,.string ⟨#[0]⟩]) ∧ Below w.heap.size w w':=by
 rcases hw with h1 | ⟨h0,h1⟩
 all_goals
  go_enter Tryz.func259,Tryz.ntmps259
  go_wp2_with fail;refine bodyPost_ret (v:=.agg #[.string ⟨#[]⟩,.string ⟨#[0]⟩]) ?_ rfl ⟨rfl,ag _ _⟩;rw [ay rfl];go_simp
  simp [vw]
theorem uG {wd : ByteArray} (h0 : (wd.toList == [103,101,116]) = false) (h1 : (wd.toList == [103,103,101,116]) = false) (h2 : (wd.toList == [116,101,101]) = true) :
  Calls Tryz.prog 259 #[.string wd,.int .u8 0] w fun e w' => e = .returned (.agg #[.string ⟨#[0]⟩,.string ⟨#[0]⟩]) ∧ Below w.heap.size w w':=by
 go_enter Tryz.func259,Tryz.ntmps259
 go_wp2_with fail;refine bodyPost_ret (v:=.agg #[.string ⟨#[0]⟩,.string ⟨#[0]⟩]) ?_ rfl ⟨rfl,ag _ _⟩;rw [ay rfl];go_simp
 simp [vw]
theorem mz {wd : ByteArray} (h0 : (wd.toList == [103,101,116]) = false) (h1 : (wd.toList == [103,103,101,116]) = false) (h2 : (wd.toList == [116,101,101]) = false) :
  Calls Tryz.prog 259 #[.string wd,.int .u8 0] w fun e w' => e = .returned (.agg #[.string ⟨#[0]⟩,.string ⟨#[]⟩]) ∧ Below w.heap.size w w':=by
 go_enter Tryz.func259,Tryz.ntmps259
 go_wp2_with fail;refine bodyPost_ret (v:=.agg #[.string ⟨#[0]⟩,.string ⟨#[]⟩]) ?_ rfl ⟨rfl,ag _ _⟩;rw [ay rfl];go_simp
 simp [vw]
end
theorem CY {c : Int} (hc : c = 18 ∨ c = 19 ∨ c = 20 ∨ c = 21 ∨ c = 22) :
  ∃ P Q : ByteArray,Q.size ≤ 1000 ∧ ∀ w,Calls Tryz.prog 259 #[.string (wdV c),.int .u8 0] w fun e w' => e = .returned (.agg #[.string P,.string Q]) ∧ Below w.heap.size w w':=by
 have s0 : (ByteArray.mk #[0]).size ≤ 1000:=by decide
 have s1 : (ByteArray.mk #[]).size ≤ 1000:=by decide
 rcases hc with rfl | rfl | rfl | rfl | rfl
 ·exact ⟨_,_,s0,fun w => mj (.inl (by rw [wm,aM]; rfl))⟩
 ·exact ⟨_,_,s1,fun w => mz (by rw [CO,aM]; rfl) (by rw [CO,aM]; rfl) (by rw [CO,aM]; rfl)⟩
 ·exact ⟨_,_,s0,fun w => uG (by rw [CN,aM]; rfl) (by rw [CN,aM]; rfl) (by rw [CN,aM]; rfl)⟩
 ·exact ⟨_,_,s0,fun w => mj (.inr ⟨by rw [oO,aM]; rfl,by rw [oO,aM]; rfl⟩)⟩
 ·exact ⟨_,_,s1,fun w => mz (by rw [kD,aM]; rfl) (by rw [kD,aM]; rfl) (by rw [kD,aM]; rfl)⟩
def ChO (g : Jg) (w : World) (i : Nat) : Prop :=
 ∃ P Q : ByteArray,Q.size ≤ 1000 ∧ (jF g.m g.lo g.R g.xs i = true → (P,Q) = jX g.m g.lo g.R g.xs i) ∧
  Calls Tryz.prog 213 #[.pointer (some ⟨g.J,0,none⟩),.int .i64 i] w fun e w' => e = .returned (.tuple #[.agg #[.string P,.string Q],.bool (jF g.m g.lo g.R g.xs i)]) ∧ Below w.heap.size w w'
section
variable {g : Jg} {w : World}
theorem pz {m : MM} {lo : List Int} {R : ByteArray} {xs : List Inx} {i : Nat} (hO : isO (opF xs i) = false) (h8 : opF xs i ≠ 8) : jF m lo R xs i = decide (efE m lo csD opD (opF xs i) (xs.getD i dx).a = 0) ∧ jX m lo R xs i = efV m lo csD opD (opF xs i) (xs.getD i dx).a:=by
 unfold jF jX
 rw [if_neg (by rw [hO]; decide),if_neg h8,if_neg (by rw [hO]; decide),if_neg h8]
 exact ⟨rfl,rfl⟩
theorem jd {c : Int} (h : c ≠ 2 ∧ c ≠ 3 ∧ c ≠ 4) : isO c = false:=by
 cases hx : isO c with
 | false => rfl
 | true => have:=aV.1 hx; omega
theorem DK {m : MM} (hTS : ∀ a,(aH m a).1.size ≤ 8 ∧ (aH m a).2.size ≤ 8) {q : Nat} {p : Sg} (hp : m.types[q]? = some p) : aH m (q : Int) = p ∧ p.2.size ≤ 1000:=by
 have e : aH m (q : Int) = p:=by
  unfold aH;rw [Int.toNat_natCast,Cc hp]
 have:=(hTS q).2
 rw [e] at this
 exact ⟨e,by omega⟩
theorem mZ (h : Jw g w) (hS : JS g) {i : Nat} (hi : i < g.N) (hO : isO (opF g.xs i) = true) : ChO g w i:=by
 have e : jF g.m g.lo g.R g.xs i = (bn g.m g.R g.xs i).2 ∧ jX g.m g.lo g.R g.xs i = (fI g.m g.R g.xs i,(bn g.m g.R g.xs i).1.1):=by
  unfold jF jX;rw [if_pos hO,if_pos hO];exact ⟨rfl,rfl⟩
 have:=gp (fun a => (hS.TS a).1) g.R g.xs (i : Int)
 refine ⟨fI g.m g.R g.xs i,(bn g.m g.R g.xs i).1.1,by omega,fun _ => e.2.symm,?_⟩
 rw [e.1]
 exact Cm h hS.N hS.T (fun a => (hS.TS a).1) hi hO
theorem nj (h : Jw g w) (hS : JS g) {i : Nat} (hi : i < g.N) (h8 : opF g.xs i = 8) : ChO g w i:=by
 have hO : isO (opF g.xs i) = false:=jd (by omega)
 have e : jF g.m g.lo g.R g.xs i = (aY (ltV g.m g.R g.xs i) false ⟨#[]⟩ [(g.xs.getD i dx).a]).2 ∧ jX g.m g.lo g.R g.xs i = ((aY (ltV g.m g.R g.xs i) false ⟨#[]⟩ [(g.xs.getD i dx).a]).1 ++ ⟨#[119]⟩,(aY (ltV g.m g.R g.xs i) false ⟨#[]⟩ [(g.xs.getD i dx).a]).1):=by
  unfold jF jX
  rw [if_neg (by rw [hO]; decide),if_pos h8,if_neg (by rw [hO]; decide),if_pos h8]
  exact ⟨rfl,rfl⟩
 have:=gq (CR hS.TS hS.R8 g.xs i) [(g.xs.getD i dx).a] false ⟨#[]⟩ (Nat.zero_le _)
 refine ⟨_,_,by omega,fun _ => e.2.symm,?_⟩
 rw [e.1];exact jQ h hS.N hS.T hS.TS hS.R8 hi h8
theorem mE (h : Jw g w) (hS : JS g) {i : Nat} (hi : i < g.N) (hc : opF g.xs i = 11) : ChO g w i:=by
 obtain ⟨e1,e2⟩:=pz (m:=g.m) (lo:=g.lo) (R:=g.R) (xs:=g.xs) (i:=i) (jd (by omega)) (by omega)
 have hE : efE g.m g.lo csD opD (opF g.xs i) (g.xs.getD i dx).a = aT g.m.fn (g.xs.getD i dx).a:=by rw [hc]; rfl
 have hV : efV g.m g.lo csD opD (opF g.xs i) (g.xs.getD i dx).a = aH g.m (rq g.m (g.xs.getD i dx).a):=by rw [hc]; rfl
 have hfn:=hS.fn;unfold ChO;rw [e1,e2,hE,hV]
 rcases cr g.m.fn (g.xs.getD i dx).a with ⟨h1,h2⟩ | ⟨h1,q,hq,hqn⟩
 ·rw [h1]
  refine ⟨⟨#[]⟩,⟨#[]⟩,Nat.zero_le _,fun hx => (by cases hx),?_⟩
  exact fG h hS.N hi hc (hid fun W hb => po h2 (by omega)) (hid fun W hb => ij (h.later hb) _)
 ·rw [h1];have hl:=h.pf.1
  obtain ⟨x,hx⟩ : ∃ x,g.m.fns[q]? = some x:=⟨_,List.getElem?_eq_getElem (by omega)⟩
  obtain ⟨fb,foff,hfa,hat⟩:=h.pf.2.resolve_left (by omega)
  obtain ⟨c0,c1,c2⟩:=hat q x hx;have hty:=hS.fT x (List.mem_of_getElem? hx)
  obtain ⟨t,ht⟩ : ∃ t : Nat,x.1 = t:=⟨x.1.toNat,by omega⟩
  have hl2:=h.pt.1
  obtain ⟨p,hp⟩ : ∃ p,g.m.types[t]? = some p:=⟨_,List.getElem?_eq_getElem (by omega)⟩
  obtain ⟨hpe,hps⟩:=DK hS.TS hp
  have hfty : rq g.m (g.xs.getD i dx).a = t:=by
   unfold rq;rw [hq,Int.toNat_natCast,hx,← ht];rfl
  refine ⟨p.1,p.2,hps,fun _ => by rw [hfty,hpe],?_⟩
  refine fG h hS.N hi hc (ty:=x.1) (lo:=x.2.1) (ca:=x.2.2.1.1) (cn:=x.2.2.1.2.1) (cc:=x.2.2.1.2.2) (hid fun W hb => ?_) (hid fun W hb => ?_)
  ·rw [hfa,hq]
   exact m9 hqn (by omega) (ae hb c0) (ae hb c1) (ae hb c2)
  ·rw [ht];exact gK (h.later hb) hS.T hp
theorem ol (h : Jw g w) (hS : JS g) {i : Nat} (hi : i < g.N) (hc : opF g.xs i = 12) : ChO g w i:=by
 obtain ⟨e1,e2⟩:=pz (m:=g.m) (lo:=g.lo) (R:=g.R) (xs:=g.xs) (i:=i) (jd (by omega)) (by omega)
 have hE : efE g.m g.lo csD opD (opF g.xs i) (g.xs.getD i dx).a = aT g.m.hn (g.xs.getD i dx).a:=by rw [hc]; rfl
 have hV : efV g.m g.lo csD opD (opF g.xs i) (g.xs.getD i dx).a = aH g.m (g.m.hosts.getD (g.xs.getD i dx).a.toNat 0):=by rw [hc]; rfl
 have hfn:=hS.hn;unfold ChO;rw [e1,e2,hE,hV]
 rcases cr g.m.hn (g.xs.getD i dx).a with ⟨h1,h2⟩ | ⟨h1,q,hq,hqn⟩
 ·rw [h1]
  refine ⟨⟨#[]⟩,⟨#[]⟩,Nat.zero_le _,fun hx => (by cases hx),?_⟩
  exact fB h hS.N hS.T (fun a => (hS.TS a).1) hi hc (hid fun W hb => pH h2 (by omega)) (hid fun W hb => ij (h.later hb) _)
 ·rw [h1];have hl:=h.ph.1
  obtain ⟨x,hx⟩ : ∃ x,g.m.hosts[q]? = some x:=⟨_,List.getElem?_eq_getElem (by omega)⟩
  obtain ⟨fb,foff,hfa,hat⟩:=h.ph.2.resolve_left (by omega)
  have c0:=hat q x hx;have hty:=hS.hT x (List.mem_of_getElem? hx)
  obtain ⟨t,ht⟩ : ∃ t : Nat,x = t:=⟨x.toNat,by omega⟩
  have hl2:=h.pt.1
  obtain ⟨p,hp⟩ : ∃ p,g.m.types[t]? = some p:=⟨_,List.getElem?_eq_getElem (by omega)⟩
  obtain ⟨hpe,hps⟩:=DK hS.TS hp
  have hfty : g.m.hosts.getD (g.xs.getD i dx).a.toNat 0 = t:=by rw [hq,Int.toNat_natCast,Cc hx,ht]
  refine ⟨p.1,p.2,hps,fun _ => by rw [hfty,hpe],?_⟩
  refine fB h hS.N hS.T (fun a => (hS.TS a).1) hi hc (num:=x) (hid fun W hb => ?_) (hid fun W hb => ?_)
  ·rw [hfa,hq]
   exact C2 hqn (by omega) (ae hb c0)
  ·rw [ht];exact gK (h.later hb) hS.T hp
theorem CV (z : Int) (c : Int) : (dY c (ltr z)).size ≤ 1000:=by
 have:=C4 c (ltr z) (kN z)
 omega
theorem qx (h : Jw g w) (hS : JS g) {i : Nat} (hi : i < g.N) (hc : opF g.xs i = 18 ∨ opF g.xs i = 19 ∨ opF g.xs i = 20) : ChO g w i:=by
 obtain ⟨e1,e2⟩:=pz (m:=g.m) (lo:=g.lo) (R:=g.R) (xs:=g.xs) (i:=i) (jd (by omega)) (by omega)
 have hE : efE g.m g.lo csD opD (opF g.xs i) (g.xs.getD i dx).a = aT g.lo.length (g.xs.getD i dx).a:=by
  unfold efE
  rw [if_neg (by omega),if_neg (by omega),if_neg (by omega),if_neg (by omega),if_pos hc]
 have hV : efV g.m g.lo csD opD (opF g.xs i) (g.xs.getD i dx).a = (eh (opF g.xs i) (ltr (g.lo.getD (g.xs.getD i dx).a.toNat 0)),dY (opF g.xs i) (ltr (g.lo.getD (g.xs.getD i dx).a.toNat 0))):=by
  unfold efV
  rw [if_neg (by omega),if_neg (by omega),if_neg (by omega),if_neg (by omega),if_pos hc]
 have hfn:=hS.lol
 have hc5 : opF g.xs i = 18 ∨ opF g.xs i = 19 ∨ opF g.xs i = 20 ∨ opF g.xs i = 21 ∨ opF g.xs i = 22:=by omega
 unfold ChO;rw [e1,e2,hE,hV]
 rcases cr g.lo.length (g.xs.getD i dx).a with ⟨h1,h2⟩ | ⟨h1,q,hq,hqn⟩
 ·rw [h1];obtain ⟨P,Q,hQ,hG⟩:=CY hc5
  refine ⟨P,Q,hQ,fun hx => (by cases hx),?_⟩
  exact f9 h hS.N hS.T (fun a => (hS.TS a).1) hi hc (hid fun W hb => Df h2 (by omega)) (hid fun W hb => hG W)
 ·rw [h1];obtain ⟨x,hx⟩ : ∃ x,g.lo[q]? = some x:=⟨_,List.getElem?_eq_getElem hqn⟩;have c0:=h.lcs q x hx;have hxl:=hS.lo x (List.mem_of_getElem? hx);rw [hq,Int.toNat_natCast,Cc hx]
  refine ⟨_,_,CV x (opF g.xs i),fun _ => rfl,?_⟩
  refine f9 h hS.N hS.T (fun a => (hS.TS a).1) hi hc (num:=x) (hid fun W hb => ?_) (hid fun W hb => oG hc5 hxl)
  rw [hq]
  refine nK hqn (by omega) ?_
  rw [Nat.zero_add];exact ae hb c0
theorem oq (h : Jw g w) (hS : JS g) {i : Nat} (hi : i < g.N) (hc : opF g.xs i = 21 ∨ opF g.xs i = 22) : ChO g w i:=by
 obtain ⟨e1,e2⟩:=pz (m:=g.m) (lo:=g.lo) (R:=g.R) (xs:=g.xs) (i:=i) (jd (by omega)) (by omega)
 have hE : efE g.m g.lo csD opD (opF g.xs i) (g.xs.getD i dx).a = orE (aT g.m.gn (g.xs.getD i dx).a) (if opF g.xs i = 21 ∨ glM g.m (g.xs.getD i dx).a = true then 0 else 39):=by
  unfold efE
  rw [if_neg (by omega),if_neg (by omega),if_neg (by omega),if_neg (by omega),if_neg (by omega),if_pos hc]
 have hV : efV g.m g.lo csD opD (opF g.xs i) (g.xs.getD i dx).a = (eh (opF g.xs i) (ltr (glC g.m (g.xs.getD i dx).a)),dY (opF g.xs i) (ltr (glC g.m (g.xs.getD i dx).a))):=by
  unfold efV
  rw [if_neg (by omega),if_neg (by omega),if_neg (by omega),if_neg (by omega),if_neg (by omega),if_pos hc]
 have hfn:=hS.gn
 have hc5 : opF g.xs i = 18 ∨ opF g.xs i = 19 ∨ opF g.xs i = 20 ∨ opF g.xs i = 21 ∨ opF g.xs i = 22:=by omega
 unfold ChO;rw [e1,e2,hE,hV]
 rcases cr g.m.gn (g.xs.getD i dx).a with ⟨h1,h2⟩ | ⟨h1,q,hq,hqn⟩
 ·rw [h1,show decide (orE 30 (if opF g.xs i = 21 ∨ glM g.m (g.xs.getD i dx).a = true then 0 else 39) = 0) = false from rfl];obtain ⟨P,Q,hQ,hG⟩:=CY hc5
  refine ⟨P,Q,hQ,fun hx => (by cases hx),?_⟩
  exact fF h hS.N hi hc (fd:=false) (mu:=false) (by rw [Bool.false_and]) (hid fun W hb => oC h2 (by omega)) (hid fun W hb => hG W)
 ·have hl:=h.pg.1
  obtain ⟨x,hx⟩ : ∃ x,g.m.globals[q]? = some x:=⟨_,List.getElem?_eq_getElem (by omega)⟩
  obtain ⟨fb,foff,hfa,hat⟩:=h.pg.2.resolve_left (by omega)
  obtain ⟨c0,c1,c2⟩:=hat q x hx;have hxl:=hS.gL x (List.mem_of_getElem? hx)
  have hC : glC g.m (g.xs.getD i dx).a = x.1:=by
   unfold glC;rw [hq,Int.toNat_natCast,hx];rfl
  have hM : glM g.m (g.xs.getD i dx).a = x.2.1:=by
   unfold glM;rw [hq,Int.toNat_natCast,hx];rfl
  rw [hC,hM,h1]
  have hd : decide (orE 0 (if opF g.xs i = 21 ∨ x.2.1 = true then (0 : Int) else 39) = 0) = (true && (decide (opF g.xs i = 21) || x.2.1)):=by
   show decide ((if opF g.xs i = 21 ∨ x.2.1 = true then (0 : Int) else 39) = 0) = _
   by_cases h21 : opF g.xs i = 21
   ·rw [if_pos (.inl h21),h21]; rfl
   ·cases hm : x.2.1 with
    | true => rw [if_pos (.inr rfl)]; simp
    | false => rw [if_neg (by simp [h21])]; simp [h21]
  rw [hd]
  refine ⟨_,_,CV x.1 (opF g.xs i),fun _ => rfl,?_⟩
  refine fF h hS.N hi hc rfl (lt:=x.1) (mu:=x.2.1) (va:=x.2.2) (hid fun W hb => ?_) (hid fun W hb => oG hc5 hxl)
  rw [hfa,hq]
  exact oo hqn (by omega) (ae hb c0) (ae hb c1) (ae hb c2)
theorem lQ (h : Jw g w) (hS : JS g) {i : Nat} (hi : i < g.N) (hc : uk (opF g.xs i) = false) (h16 : opF g.xs i ≠ 16) (h17 : opF g.xs i ≠ 17) : ChO g w i:=by
 have hc2 : opF g.xs i ≠ 2 ∧ opF g.xs i ≠ 3 ∧ opF g.xs i ≠ 4 ∧ opF g.xs i ≠ 8 ∧ opF g.xs i ≠ 11 ∧ opF g.xs i ≠ 12 ∧ opF g.xs i ≠ 18 ∧ opF g.xs i ≠ 19 ∧ opF g.xs i ≠ 20 ∧ opF g.xs i ≠ 21 ∧ opF g.xs i ≠ 22:=by
  unfold uk at hc
  simp only [Bool.or_eq_false_iff,decide_eq_false_iff_not] at hc
  omega
 obtain ⟨e1,e2⟩:=pz (m:=g.m) (lo:=g.lo) (R:=g.R) (xs:=g.xs) (i:=i) (jd (by omega)) (by omega)
 have hE : efE g.m g.lo csD opD (opF g.xs i) (g.xs.getD i dx).a = 0:=by
  unfold efE
  rw [if_neg (by omega),if_neg (by omega),if_neg (by omega),if_neg (by omega),if_neg (by omega),if_neg (by omega)]
 have hV : efV g.m g.lo csD opD (opF g.xs i) (g.xs.getD i dx).a = ((ofV (opF g.xs i)).1.2.2.2.1,(ofV (opF g.xs i)).1.2.2.2.2.1):=by
  unfold efV
  rw [if_neg (by omega),if_neg (by omega),if_neg (by omega),if_neg (by omega),if_neg (by omega),if_neg (by omega)]
 have hr:=h.cod.range hi
 have:=(of_le hr.1 hr.2).2
 unfold ChO;rw [e1,e2,hE,hV]
 exact ⟨_,_,by omega,fun _ => rfl,jg h hS.N hS.T (fun a => (hS.TS a).1) hi hc⟩
theorem rQ (h : Jw g w) (hS : JS g) {i : Nat} (hi : i < g.N) (h16 : opF g.xs i ≠ 16) (h17 : opF g.xs i ≠ 17) : ChO g w i:=by
 by_cases hO : isO (opF g.xs i) = true
 ·exact mZ h hS hi hO
 by_cases h8 : opF g.xs i = 8
 ·exact nj h hS hi h8
 by_cases h11 : opF g.xs i = 11
 ·exact mE h hS hi h11
 by_cases h12 : opF g.xs i = 12
 ·exact ol h hS hi h12
 by_cases hl : opF g.xs i = 18 ∨ opF g.xs i = 19 ∨ opF g.xs i = 20
 ·exact qx h hS hi hl
 by_cases hg : opF g.xs i = 21 ∨ opF g.xs i = 22
 ·exact oq h hS hi hg
 have hn:=gA (by simpa using hO)
 refine lQ h hS hi ?_ h16 h17;unfold uk
 simp only [Bool.or_eq_false_iff,decide_eq_false_iff_not]
 omega
theorem sY (h : Jw g w) (hS : JS g) {i : Nat} (hi : i + 1 < g.N) (h16 : opF g.xs i ≠ 16) (h17 : opF g.xs i ≠ 17) :
  Calls Tryz.prog 145 #[.pointer (some ⟨g.J,0,none⟩),.int .i64 i] w fun e w' => e = .returned (.bool (goV g.m g.lo g.R g.xs g.sh i)) ∧ Below w.heap.size w w':=by
 obtain ⟨P,Q,hQ,hE,hC⟩:=rQ h hS (show i < g.N by omega) h16 h17
 have:=uq h hS.N hS.T (fun a => (hS.TS a).1) hS.shS hi hQ (hid hC)
 have e : (jF g.m g.lo g.R g.xs i && cT g.m g.R g.xs g.sh i (P,Q)) = goV g.m g.lo g.R g.xs g.sh i:=by
  unfold goV
  cases hf : jF g.m g.lo g.R g.xs i with
  | false => rfl
  | true => rw [hE hf]
 rw [e] at this;exact this
theorem www : (ByteArray.mk #[119]) ++ ⟨#[119]⟩ ++ ⟨#[119]⟩ = ⟨#[119,119,119]⟩:=by rfl
theorem llw : (ByteArray.mk #[108]) ++ ⟨#[108]⟩ ++ ⟨#[119]⟩ = ⟨#[108,108,119]⟩:=by rfl
def qM (g : Jg) (i : Nat) (y : ByteArray) : Bool:=cT g.m g.R g.xs g.sh i (y ++ y ++ ⟨#[119]⟩,y)
theorem Au (i : Nat) : qM g i ⟨#[119]⟩ = cT g.m g.R g.xs g.sh i (⟨#[119,119,119]⟩,⟨#[119]⟩):=by
 unfold qM;rw [www]
theorem zC (i : Nat) : qM g i ⟨#[108]⟩ = cT g.m g.R g.xs g.sh i (⟨#[108,108,119]⟩,⟨#[108]⟩):=by
 unfold qM;rw [llw]
theorem zF (h : Jw g w) (hS : JS g) {i : Nat} (hi : i + 1 < g.N) (y : ByteArray) (hy : y.size ≤ 8) {JB PB : Nat}
  (c0 : w.cell? ⟨JB,0,none⟩ = some (.pointer (some ⟨g.J,0,none⟩))) (c1 : w.cell? ⟨PB,0,none⟩ = some (.int .i64 i)) :
  Calls Tryz.prog 153 #[.string y,.pointer (some ⟨JB,0,none⟩),.pointer (some ⟨PB,0,none⟩)] w fun e w' => e = .returned (.bool (qM g i y)) ∧ Below w.heap.size w w':=by
 unfold qM
 exact Am h hS.N hS.T (fun a => (hS.TS a).1) hS.shS hi y hy c0 c1
theorem DU (h : Jw g w) (hS : JS g) {i : Nat} (hi : i < g.N) (hl : opF g.xs i = 9 → iq w (g.xs.getD i dx).la (g.xs.getD i dx).ln (g.xs.getD i dx).lc (g.xs.getD i dx).l ∧ (g.xs.getD i dx).ln ≤ 100000) {HB : Nat} {hv : Bool} (hb : w.heap[HB]? = some (.cells #[.bool hv] 4)) :
  Calls Tryz.prog 95 #[.pointer (some ⟨g.J,0,none⟩),.int .i64 i,.func (.func 94) #[] #[.pointer (some ⟨HB,0,none⟩)]] w (Da w HB hv (Cn g.m g.lo g.R g.xs g.sh g.N i)):=by
 have hlast:=fun h6 => Ci (i:=i) hS.G hi h6
 unfold Cn
 by_cases h4 : opF g.xs i = 4
 ·rw [if_pos h4]
  have:=hlast (by omega)
  obtain ⟨q,q1,q2,q3,_⟩:=Cx hS.G hi (aV.2 (by omega))
  refine vE h hS.N hi hb h4 (hid fun W hb => sY (h.later hb) hS (by omega) (by omega) (by omega)) (hid fun W hb => nH (h.later hb) hS.N hS.T hS.TS hS.R8 hS.shS hi (aV.2 (by omega)) ?_ ⟨q,q1,by omega⟩)
  rcases lG (i:=i) hS.G with hx | ⟨j,h1,h2,h3,_⟩
  ·exact .inl hx
  ·exact .inr ⟨j,h1,by omega⟩
 rw [if_neg h4]
 by_cases h5 : opF g.xs i = 5
 ·rw [if_pos h5];obtain ⟨_,q,q1,q2,q3,_⟩:=Dt hS.G hi h5;have hN:=hS.N;rw [q1,Int.toNat_natCast]
  exact rH h hS.N hi hb h5 q1 (hid fun W hb => ml (h.later hb) hS.N hS.T hS.TS hS.R8 hS.shS hi (fun _ => by omega) (by omega))
 rw [if_neg h5]
 by_cases h6 : opF g.xs i = 6
 ·rw [if_pos h6];have hN:=hS.N
  refine uj h hS.N hi hb h6 (hid fun W hb => ml (h.later hb) hS.N hS.T hS.TS hS.R8 hS.shS hi (fun ht => ?_) (by omega))
  rcases Nat.lt_or_ge (i + 1) g.N with hx | hx
  ·exact hx
  ·exfalso
   apply ht
   have e : i = g.N - 1:=by omega
   rw [e,hS.G.2.2.2.2];rfl
 rw [if_neg h6];have hi1:=hlast h6
 have HX : Hid (∀ W,Below w.heap.size w W → Calls Tryz.prog 148 #[.pointer (some ⟨g.J,0,none⟩),.int .i64 ((i + 1 : Nat) : Int)] W fun e w' => e = .returned (.bool (decide (opF g.xs (i + 1) = 5) || decide (opF g.xs (i + 1) = 6))) ∧ Below W.heap.size W w'):=hid fun W hb => by
  refine (ug (h.later hb) hS.N (show i + 1 < g.N by omega)).mono ?_
  rintro e w' ⟨rfl,hw⟩;rw [hw];exact ⟨rfl,Below.refl _ _⟩
 by_cases hw : opF g.xs i = 0 ∨ opF g.xs i = 7 ∨ opF g.xs i = 9 ∨ opF g.xs i = 10
 ·rw [if_pos hw]
  have HY : Hid (∀ W,Below w.heap.size w W → Calls Tryz.prog 149 #[.pointer (some ⟨g.J,0,none⟩),.int .i64 i] W fun e w' => e = .returned (.bool (pV g.m g.R g.xs g.sh i)) ∧ Below W.heap.size W w'):=hid fun W hb => tX (h.later hb) hS.N hS.T hS.TS hS.R8 hS.shS hi hw (fun h9 => ⟨(hl h9).1.later hb (Nat.le_refl _),(hl h9).2⟩)
  exact uE h hS.N hi hb hw HX HY
 rw [if_neg hw]
 by_cases h16 : opF g.xs i = 16
 ·rw [if_pos h16]
  have key:=mF (p:=fun y => cT g.m g.R g.xs g.sh i (y,⟨#[]⟩)) h hS.N hi hb h16 (hid fun W JB PB y hb c0 c1 hy => zY (h.later hb) hS.N hS.T (fun a => (hS.TS a).1) hS.shS (by omega) y c0 c1)
  exact key
 rw [if_neg h16]
 by_cases h17 : opF g.xs i = 17
 ·rw [if_pos h17]
  have key:=ot (p:=qM g i) h hS.N hi hb h17 (hid fun W JB PB y hb c0 c1 hy => zF (h.later hb) hS (by omega) y hy c0 c1)
  rw [Au,zC] at key;exact key
 rw [if_neg h17]
 refine qC h hS.N hi hb ?_ (hid fun W hb => sY (h.later hb) hS (by omega) h16 h17)
 unfold yr
 simp only [Bool.or_eq_false_iff,decide_eq_false_iff_not]
 omega
theorem wN (f : Nat → Bool) (k : Nat) : (List.range (k + 1)).all f = ((List.range k).all f && f k):=by
 rw [List.range_succ,List.all_append,List.all_cons,List.all_nil,Bool.and_true]
theorem ye (h : Jw g w) (hS : JS g) (hl : ∀ i,i < g.N → opF g.xs i = 9 → iq w (g.xs.getD i dx).la (g.xs.getD i dx).ln (g.xs.getD i dx).lc (g.xs.getD i dx).l ∧ (g.xs.getD i dx).ln ≤ 100000) :
  Calls Tryz.prog 54 #[.pointer (some ⟨g.J,0,none⟩)] w fun e w' => e = .returned (.bool (nW g.m g.lo g.R g.xs g.sh g.N)) ∧ Below w.heap.size w w':=by
 have hn0:=hS.G.1;have hN:=hS.N;have B1:=ag w (.cells #[.int .i64 0,.string ⟨#[]⟩] 150);have b1:=heap_alloc_new w (.cells #[.int .i64 0,.string ⟨#[]⟩] 150)
 have H93:=hid (ni (h.later B1) hS.N (pb:=w.heap.size) (poff:=0) (n:=1) (cap:=1) (l:=[(0,⟨#[]⟩)]) rfl (by omega) (fun j p hj => by
  have hj0 : j = 0:=by have:=au hj; simp at this; omega
  subst hj0
  simp at hj
  subst hj;exact ⟨ai b1,ai b1,hn0⟩))
 have HRW:=hid (fun (W : World) (i HB : Nat) (hv : Bool) (hi : i < g.N) (hb : Below w.heap.size w W) (hc : W.heap[HB]? = some (.cells #[.bool hv] 4)) => DU (h.later hb) hS hi (fun h9 => ⟨(hl i hi h9).1.later hb (Nat.le_refl _),(hl i hi h9).2⟩) hc)
 have HC:=hid (fun (W : World) (hb : Below w.heap.size w W) => (h.later hb).c)
 have HB1:=hid B1
 have hmf : ∀ (fn : Fn) (first cap : Array Value) (w : World),(Instr.makeFunc fn first cap).run Tryz.prog w = .ok (.func fn first cap) w:=fun _ _ _ _ => rfl
 have HV : Hid (nW g.m g.lo g.R g.xs g.sh g.N = (di g.sh [(0,⟨#[]⟩)] && (List.range g.N).all (Cn g.m g.lo g.R g.xs g.sh g.N))):=hid rfl;generalize nW g.m g.lo g.R g.xs g.sh g.N = hol at *;generalize di g.sh [(0,⟨#[]⟩)] = h0 at *;clear h hl B1 b1 hS;generalize g.N = N at *;generalize Cn g.m g.lo g.R g.xs g.sh N = F at *
 go_enter Tryz.func54,Tryz.ntmps54
 go_wp2_with fail;refine H93.out.mono ?_;rintro e w2 ⟨rfl,hb2⟩;have BB:=HB1.out.trans (hb2.mono HB1.out.size);have B3:=BB.trans ((ag w2 (.cells #[.bool h0] 4)).mono BB.size);have b3:=heap_alloc_new w2 (.cells #[.bool h0] 4);have hw2 : w.heap.size ≤ w2.heap.size:=BB.size;have HB3:=hid B3;have Hb3:=hid b3;have cc:=HC.out _ B3;clear hb2 BB B3 b3 H93 HB1;go_wp2_with fail;generalize w2.heap.size = HB at *;clear cc
 go_loopw [16] (fun ix wr => ∃ k : Nat,k ≤ N ∧ ix = .int .i64 k ∧ Below w.heap.size w wr ∧ wr.heap[HB]? = some (.cells #[.bool (h0 && (List.range k).all F)] 4)) (fun ix _ => N - (intOf ix).toNat)
 case atStart => exact ⟨0,Nat.zero_le _,rfl,HB3.out,by rw [show (h0 && (List.range 0).all F) = h0 from Bool.and_true _]; exact Hb3.out⟩
 case round =>
  obtain ⟨k,hk,rfl,hbr,hcr⟩:=hrel;have HBR:=hid hbr;have HCR:=hid hcr
  by_cases hlt : k < N
  ·have hk1 : (k : Int) < (N : Int):=by omega
   have HR:=hid (HRW.out wr k HB _ hlt hbr hcr);clear hbr hcr;go_wp2_with fail;refine HR.out.mono ?_;rintro e w5 ⟨rfl,W,hbW,rfl⟩;have hB5:=HBR.out.trans (hbW.mono HBR.out.size);have hC5:=aF (i:=0) (u:=.bool ((h0 && (List.range k).all F) && F k)) (aj hbW HCR.out);have HX:=hid (And.intro (aN (i:=0) (u:=.bool ((h0 && (List.range k).all F) && F k)) hB5 hw2 hB5.size) hC5);clear hbW hB5 hC5 HR;generalize W.setCell ⟨HB,0,none⟩ (.bool ((h0 && (List.range k).all F) && F k)) = W5 at *;go_wp2_with fail
   refine ⟨⟨k + 1,by omega,by go_num,HX.out.1,?_⟩,by simp [intOf]; omega⟩
   rw [wN,← Bool.and_assoc];exact HX.out.2
  ·obtain rfl : k = N:=by omega
   have hk1 : ¬ ((k : Int) < (k : Int)):=by omega
   have c0 : wr.cell? ⟨HB,0,none⟩ = some (.bool (h0 && (List.range k).all F)):=ai hcr;clear hbr hcr;rw [← HV.out] at c0;go_wp2_with fail;go_ret;exact ⟨rfl,HBR.out⟩
end
def mv (p i : Nat) : Nat:=if i < p then i else i + 1
def mvI (p : Nat) (z : Int) : Int:=if z < p then z else z + 1
abbrev dO : Opn:=⟨⟨#[]⟩,⟨#[]⟩,⟨#[]⟩,0,0⟩
theorem Aq {l : List Opn} {x : Opn} {k : Nat} (h : k < l.length) : (l ++ [x]).getD k dO = l.getD k dO:=by
 rw [List.getD_eq_getElem?_getD,List.getD_eq_getElem?_getD,List.getElem?_append_left h]
theorem yK {l : List Opn} {x : Opn} {k : Nat} (h : l.length ≤ k) : (l ++ [x]).getD k dO = [x].getD (k - l.length) dO:=by
 rw [List.getD_eq_getElem?_getD,List.getD_eq_getElem?_getD,List.getElem?_append_right h]
theorem xQ {l : List Opn} {k : Nat} (h : k < l.length - 1) : l.dropLast.getD k dO = l.getD k dO:=by
 rw [List.getD_eq_getElem?_getD,List.getD_eq_getElem?_getD,List.getElem?_dropLast,if_pos h]
theorem vT {l : List Opn} {k : Nat} (h : ¬ k < l.length - 1) : l.dropLast.getD k dO = dO:=by
 rw [List.getD_eq_getElem?_getD,List.getElem?_dropLast,if_neg h]; rfl
structure BH (o o' : Opn) : Prop where
 P : o'.P = o.P
 R : o'.R = o.R
 B : o'.B = o.B
 op : o'.op = o.op
structure Bz (p : Nat) (s s' : Cs) : Prop where
 st : s'.st = s.st
 len : s'.op.length = s.op.length
 o : ∀ k,BH (s.op.getD k dO) (s'.op.getD k dO)
 pc : ∀ k,0 < k → k < s.op.length → (s'.op.getD k dO).pc = mvI p (s.op.getD k dO).pc
section
variable {p : Nat} {s s' : Cs} (h : Bz p s s')
end
section
variable {p : Nat} {s s' : Cs}
end
def Ltr (s : ByteArray) : Prop:=∀ c ∈ s.data.toList,c = 119 ∨ c = 108
theorem Ltr.nil : Ltr ⟨#[]⟩:=fun c h => by simp at h
theorem Ltr.app {a b : ByteArray} (ha : Ltr a) (hb : Ltr b) : Ltr (a ++ b):=fun c h => by
 rw [ByteArray.data_append,Array.toList_append,List.mem_append] at h;exact h.elim (ha c) (hb c)
theorem Ltr.ext {a : ByteArray} (h : Ltr a) (i j : Nat) : Ltr (a.extract i j):=fun c hc => by
 rw [ByteArray.data_extract,Array.toList_extract] at hc
 exact h c (List.mem_of_mem_drop (List.mem_of_mem_take (by simpa [List.extract_eq_take_drop] using hc)))
theorem Ltr.lett {a : ByteArray} (h : Ltr a) {n : Nat} (hs : a.size ≤ n) : lett a n = true:=(dE a n).2 ⟨h,hs⟩
theorem Ltr.of {a : ByteArray} {n : Nat} (h : Go.Proofs.YtepnnenohjfkbaaGreatDoor.lett a n = true) : Ltr a:=((dE a n).1 h).1
structure LvO (o : Opn) : Prop where
 P : Ltr o.P
 R : Ltr o.R
 B : Ltr o.B
 sz : o.B.size + o.P.size ≤ 256
structure Lv (s : Cs) : Prop where
 st : Ltr s.st
 sz : s.st.size ≤ 256
 op : ∀ k,LvO (s.op.getD k dO)
theorem rU : LvO dO:=⟨.nil,.nil,.nil,by decide⟩
theorem CP {s t : ByteArray} : Ltr (cK s t) ∧ (cK s t).size ≤ 256:=by
 unfold cK
 split
 ·rename_i h
  unfold aS at h
  split at h
  ·rename_i hs
   unfold shp at hs;rw [Bool.and_eq_true] at hs
   split at h
   ·cases h
   ·exact ⟨(Ltr.of hs.1).app (Ltr.of hs.2),by rw [ByteArray.size_append]; omega⟩
  ·cases h
 ·exact ⟨.nil,by decide⟩
theorem Dh (a : ByteArray) (n : Nat) : (a.extract 0 n).size ≤ a.size:=by rw [ByteArray.size_extract]; omega
theorem Ae {R : ByteArray} (hR : Ltr R) (n : Nat) : Lv (cs0 R n):=by
 refine ⟨.nil,by show (0 : Nat) ≤ 256; omega,fun k => ?_⟩
 cases k with
 | zero => exact ⟨.nil,hR,.nil,by show (0 : Nat) + 0 ≤ 256; omega⟩
 | succ k => exact rU
theorem Lv.rw {s : Cs} (h : Lv s) {m : MM} (hT : ∀ a,Ltr (aH m a).1 ∧ Ltr (aH m a).2 ∧ (aH m a).1.size ≤ 8) (lo : List Int) {o : Opn} (ho : LvO o) (c a : Int) : Lv (rwS m lo s o c a):=by
 have ent : ∀ tk : ByteArray,Lv (dJ s c tk (aH m a).1 (aH m a).2):=fun tk => by
  have e1:=Dh s.st (s.st.size - tk.size);have e2:=Dh (s.st.extract 0 (s.st.size - tk.size)) ((s.st.extract 0 (s.st.size - tk.size)).size - (aH m a).1.size);have hsz:=h.sz
  refine ⟨h.st.ext _ _,by show (s.st.extract 0 (s.st.size - tk.size)).size ≤ 256; omega,fun k => ?_⟩
  show LvO ((s.op ++ [(⟨(aH m a).1,(aH m a).2,i5 s tk (aH m a).1,c,s.pc⟩ : Opn)]).getD k dO)
  by_cases hk : k < s.op.length
  ·rw [Aq hk]; exact h.op k
  ·rw [yK (by omega)]
   generalize k - s.op.length = q
   cases q with
   | zero =>
    refine ⟨(hT a).1,(hT a).2.1,(h.st.ext _ _).ext _ _,?_⟩
    show ((s.st.extract 0 (s.st.size - tk.size)).extract 0 ((s.st.extract 0 (s.st.size - tk.size)).size - (aH m a).1.size)).size + (aH m a).1.size ≤ 256
    have h8:=(hT a).2.2;rw [ByteArray.size_extract];omega
   | succ q => exact rU
 unfold rwS
 split
 ·exact ent _
 ·split
  ·exact ent _
  ·split
   ·exact ⟨ho.B.app ho.P,by show (o.B ++ o.P).size ≤ 256; rw [ByteArray.size_append]; exact ho.sz,h.op⟩
   ·split
    ·refine ⟨h.st,h.sz,fun k => ?_⟩
     show LvO (s.op.dropLast.getD k dO)
     by_cases hk : k < s.op.length - 1
     ·rw [xQ hk]; exact h.op k
     ·rw [vT hk]; exact rU
    ·split
     ·exact ⟨CP.1,CP.2,h.op⟩
     ·split
      ·exact ⟨h.st.ext _ _,Nat.le_trans (Dh _ _) h.sz,h.op⟩
      ·generalize efV m lo s o c a = E
       have key : ∀ u : ByteArray,Ltr u ∧ u.size ≤ 256 → Lv { bh s E.1 with st:=u }:=fun u hu => ⟨hu.1,hu.2,h.op⟩
       unfold jh;exact key _ CP
theorem Lv.vis {s : Cs} (h : Lv s) (j : Nat) : Lv (bA (bG s j)):=⟨h.st,h.sz,h.op⟩
theorem Lv.top {s : Cs} (h : Lv s) : LvO (aA s):=h.op _
theorem jm {m : MM} (hT : ∀ a,Ltr (aH m a).1 ∧ Ltr (aH m a).2 ∧ (aH m a).1.size ≤ 8) (lo : List Int) (xs : List Inx) {R : ByteArray} (hR : Ltr R) (n : Nat) : ∀ j,Lv (stA m lo xs R n j)
 | 0 => Ae hR n
 | j + 1 => ((jm hT lo xs hR n j).vis j).rw hT lo (jm hT lo xs hR n j).top _ _
theorem vK (a : ByteArray) : a ++ (ByteArray.mk #[]) = a:=by
 apply dZ
 rw [wR]
 simp
def ddC (c : Int) (d : Bool) : Bool:=if c = 7 ∨ c = 9 ∨ c = 10 ∨ c = 0 then true else d
theorem Db (m : MM) (lo : List Int) (s : Cs) (o : Opn) (c a : Int) : (rwS m lo s o c a).sh = s.sh ∧ (rwS m lo s o c a).hi = s.hi ∧ (rwS m lo s o c a).dead = ddC c s.dead:=by
 unfold rwS ddC
 by_cases h1 : c = 2 ∨ c = 3
 ·rw [if_pos h1,if_neg (by omega)]; exact ⟨rfl,rfl,rfl⟩
 rw [if_neg h1]
 by_cases h2 : c = 4
 ·rw [if_pos h2,if_neg (by omega)]; exact ⟨rfl,rfl,rfl⟩
 rw [if_neg h2]
 by_cases h3 : c = 5
 ·rw [if_pos h3,if_neg (by omega)]; exact ⟨rfl,rfl,rfl⟩
 rw [if_neg h3]
 by_cases h4 : c = 6
 ·rw [if_pos h4,if_neg (by omega)]; exact ⟨rfl,rfl,rfl⟩
 rw [if_neg h4]
 by_cases h5 : c = 7 ∨ c = 9 ∨ c = 10 ∨ c = 0
 ·rw [if_pos h5,if_pos h5]; exact ⟨rfl,rfl,rfl⟩
 rw [if_neg h5,if_neg h5]
 by_cases h6 : c = 8
 ·rw [if_pos h6]; exact ⟨rfl,rfl,rfl⟩
 rw [if_neg h6];generalize efV m lo s o c a = E
 have key : ∀ u : ByteArray,({ bh s E.1 with st:=u } : Cs).sh = s.sh ∧ ({ bh s E.1 with st:=u } : Cs).hi = s.hi ∧ ({ bh s E.1 with st:=u } : Cs).dead = s.dead:=fun u => ⟨rfl,rfl,rfl⟩
 unfold jh;exact key _
theorem wh (m : MM) (lo : List Int) (xs : List Inx) (R : ByteArray) (n : Nat) : ∀ j,(stA m lo xs R n j).sh.length = n
 | 0 => List.length_replicate
 | j + 1 => by
  show (rwS m lo (bA (bG (stA m lo xs R n j) j)) _ _ _).sh.length = n
  rw [(Db m lo _ _ _ _).1]
  show ((stA m lo xs R n j).sh.set _ _).length = n
  rw [List.length_set];exact wh m lo xs R n j
section
variable {m : MM} {lo : List Int} {xs ys : List Inx} {R : ByteArray} {n p : Nat}
end
end Go.Proofs.YtepnnenohjfkbaaGreatDoor

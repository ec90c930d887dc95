/-
  Texts NPc NWk NWl NWm NPd.
-/
import Derived.Test.YtkdldbfbldkkcaaGreatDoorM00
import Derived.Test.YtkdldbfbldkkcaaGreatDoorM16
set_option linter.unusedVariables false
set_option maxRecDepth 100000
set_option maxHeartbeats 16000000
namespace Go.Proofs.YtkdldbfbldkkcaaGreatDoor
open Go.RowKit
def sL (v : Int) : Prop:=-9223372036854775808 ≤ v ∧ v < 9223372036854775808
theorem ww : ∀ {l : List FrM} {bs : List Int},(aV frW l (bs,false)).2 = false → (∀ x ∈ l,u64 x.1 ≤ 127 ∧ u64 x.2.1 ≤ 2047 ∧ x.2.2.1.2.length ≤ 64 ∧ x.2.2.2.2.length ≤ 256) ∧ aV frW l (bs,false) = (bs ++ l.flatMap gW,false)
 | [],bs,_ => ⟨fun k hk => (by cases hk),by simp [aV]⟩
 | x :: l,bs,h => by
  have h1 : (aV frW l (frW x (bs,false))).2 = false:=h;have h2:=LZ (cM lF h1);rw [h2.2.2.2.2] at h1;have ih:=ww h1
  refine ⟨fun q hq => ?_,?_⟩
  ·rcases List.mem_cons.1 hq with rfl | hq
   ·exact ⟨h2.1,h2.2.1,h2.2.2.1,h2.2.2.2.1⟩
   ·exact ih.1 q hq
  ·show aV frW l (frW x (bs,false)) = _
   rw [h2.2.2.2.2,ih.2]
   simp
def ez (l : List FrM) : List Int:=aw l.length ++ l.flatMap gW
def encS (x : StM) : List Int:=[x.en] ++ [x.tr] ++ aw (u64 x.us) ++ aw (u64 x.rep) ++ bQ x.rs ++ bQ x.gs ++ ey x.ps ++ ez x.fs
structure OkS (x : StM) : Prop where
 en : 1 ≤ x.en ∧ x.en ≤ 3
 tr : 0 ≤ x.tr ∧ x.tr ≤ 6
 us : u64 x.us ≤ 4611686018427387904
 rep : u64 x.rep ≤ 9223372036854775807
 rs : x.rs.length ≤ 8
 gs : x.gs.length ≤ 64
 ps : x.ps.length ≤ 64
 pl : ∀ p ∈ x.ps,p.1.2.1 = 4096
 fs : x.fs.length ≤ 64
 fl : ∀ f ∈ x.fs,u64 f.1 ≤ 127 ∧ u64 f.2.1 ≤ 2047 ∧ f.2.2.1.2.length ≤ 64 ∧ f.2.2.2.2.length ≤ 256
theorem ul {x : StM} {bs : List Int} (h : (stW x (bs,false)).2 = false) : OkS x ∧ stW x (bs,false) = (bs ++ encS x,false):=by
 unfold stW at h ⊢
 have k1 : ∀ {s : WS},(bw frW x.fs 64 s).2 = false → s.2 = false:=fun {s} hh => by
  cases hb : s.2 with
  | false => rfl
  | true => rw [dG lF _ _ _ hb,hb] at hh; cases hh
 have k2 : ∀ {s : WS},(dN x.ps s).2 = false → s.2 = false:=fun {s} hh => by
  cases hb : s.2 with
  | false => rfl
  | true => rw [yg _ _ hb,hb] at hh; cases hh
 have k3 : ∀ {l : List Int} {m : Int} {s : WS},(bw dM l m s).2 = false → s.2 = false:=fun {l m s} hh => by
  cases hb : s.2 with
  | false => rfl
  | true => rw [dG cD _ _ _ hb,hb] at hh; cases hh
 have k4 : ∀ {v m : Int} {s : WS},(bz v m s).2 = false → s.2 = false:=fun {v m s} hh => (gA hh).2
 have k5 : ∀ {v l m : Int} {s : WS},(fY v l m s).2 = false → s.2 = false:=fun {v l m s} hh => by
  cases hb : s.2 with
  | false => rfl
  | true => rw [EU _ _ _ _ hb,hb] at hh; cases hh
 have g7:=k1 h;have g6:=k2 g7;have g5:=k3 g6;have g4:=k3 g5;have g3:=k4 g4;have g2:=k4 g3;have g1:=k5 g2;have a1:=Bd g1;rw [a1.2.2] at g2 g3 g4 g5 g6 g7 h ⊢;have a2:=Bd g2;rw [a2.2.2] at g3 g4 g5 g6 g7 h ⊢;have a3:=fP g3;rw [a3.2] at g4 g5 g6 g7 h ⊢;have a4:=fP g4;rw [a4.2] at g5 g6 g7 h ⊢;have a5:=jW g5;rw [a5.2] at g6 g7 h ⊢;have a6:=jW g6;rw [a6.2] at g7 h ⊢;have a7:=CE g7;rw [a7.2.2] at h ⊢;unfold bw at h ⊢;have a8:=fP (cM lF h);rw [a8.2] at h ⊢;have a9:=ww h
 refine ⟨⟨⟨a1.1,a1.2.1⟩,⟨a2.1,a2.2.1⟩,a3.1,a4.1,by have:=a5.1; omega,by have:=a6.1; omega,a7.1,a7.2.1,by have:=a8.1; omega,a9.1⟩,?_⟩
 rw [a9.2]
 simp [encS,ez]
structure RgS (x : StM) : Prop where
 us : sL x.us
 rep : sL x.rep
 rs : ∀ v ∈ x.rs,0 ≤ v ∧ v < 18446744073709551616
 gs : ∀ v ∈ x.gs,0 ≤ v ∧ v < 18446744073709551616
 fs : ∀ f ∈ x.fs,FrR f ∧ sL f.1 ∧ sL f.2.1
 pl : ∀ p ∈ x.ps,p.2.length = p.1.2.1
def plS (x : StM) : StP:=⟨x.en,x.tr,x.us,x.rep,x.rs,x.gs,x.ps.map (fun p => p.2),x.fs.map plF⟩
theorem Jz (A R : List Int) (x : StM) (ho : OkS x) (hr : RgS x) : stP (A ++ encS x ++ R) (at0 A.length) = plS x ∧ (r8 (A ++ encS x ++ R) (at0 A.length)).2 = at0 (A.length + (encS x).length):=by
 obtain ⟨Z,hZ⟩ : ∃ Z,A ++ encS x ++ R = Z:=⟨_,rfl⟩;have w1 : Z = A ++ [x.en] ++ ([x.tr] ++ aw (u64 x.us) ++ aw (u64 x.rep) ++ bQ x.rs ++ bQ x.gs ++ ey x.ps ++ ez x.fs ++ R):=lh;have w2 : Z = (A ++ [x.en]) ++ [x.tr] ++ (aw (u64 x.us) ++ aw (u64 x.rep) ++ bQ x.rs ++ bQ x.gs ++ ey x.ps ++ ez x.fs ++ R):=lh;have w3 : Z = (A ++ [x.en] ++ [x.tr]) ++ aw (u64 x.us) ++ (aw (u64 x.rep) ++ bQ x.rs ++ bQ x.gs ++ ey x.ps ++ ez x.fs ++ R):=lh;have w4 : Z = (A ++ [x.en] ++ [x.tr] ++ aw (u64 x.us)) ++ aw (u64 x.rep) ++ (bQ x.rs ++ bQ x.gs ++ ey x.ps ++ ez x.fs ++ R):=lh;have w5 : Z = (A ++ [x.en] ++ [x.tr] ++ aw (u64 x.us) ++ aw (u64 x.rep)) ++ bQ x.rs ++ (bQ x.gs ++ ey x.ps ++ ez x.fs ++ R):=lh;have w6 : Z = (A ++ [x.en] ++ [x.tr] ++ aw (u64 x.us) ++ aw (u64 x.rep) ++ bQ x.rs) ++ bQ x.gs ++ (ey x.ps ++ ez x.fs ++ R):=lh;have w7 : Z = (A ++ [x.en] ++ [x.tr] ++ aw (u64 x.us) ++ aw (u64 x.rep) ++ bQ x.rs ++ bQ x.gs) ++ ey x.ps ++ (ez x.fs ++ R):=lh
 have w8 : Z = (A ++ [x.en] ++ [x.tr] ++ aw (u64 x.us) ++ aw (u64 x.rep) ++ bQ x.rs ++ bQ x.gs ++ ey x.ps) ++ aw x.fs.length ++ (x.fs.flatMap gW ++ R):=by rw [← hZ]; simp [encS,ez]
 have w9 : Z = (A ++ [x.en] ++ [x.tr] ++ aw (u64 x.us) ++ aw (u64 x.rep) ++ bQ x.rs ++ bQ x.gs ++ ey x.ps ++ aw x.fs.length) ++ x.fs.flatMap gW ++ R:=by rw [← hZ]; simp [encS,ez]
 have b1:=zU A ([x.tr] ++ aw (u64 x.us) ++ aw (u64 x.rep) ++ bQ x.rs ++ bQ x.gs ++ ey x.ps ++ ez x.fs ++ R) x.en 1 3 ho.en;have b2:=zU (A ++ [x.en]) (aw (u64 x.us) ++ aw (u64 x.rep) ++ bQ x.rs ++ bQ x.gs ++ ey x.ps ++ ez x.fs ++ R) x.tr 0 6 ho.tr;have b3:=gJ (A ++ [x.en] ++ [x.tr]) (aw (u64 x.rep) ++ bQ x.rs ++ bQ x.gs ++ ey x.ps ++ ez x.fs ++ R) (u64 x.us) 4611686018427387904 17 (dv _).1 (dv _).2 ho.us;have b4:=gJ (A ++ [x.en] ++ [x.tr] ++ aw (u64 x.us)) (bQ x.rs ++ bQ x.gs ++ ey x.ps ++ ez x.fs ++ R) (u64 x.rep) 9223372036854775807 17 (dv _).1 (dv _).2 ho.rep
 have b5:=oI (A ++ [x.en] ++ [x.tr] ++ aw (u64 x.us) ++ aw (u64 x.rep)) (bQ x.gs ++ ey x.ps ++ ez x.fs ++ R) x.rs 8 (by have:=ho.rs; omega) (by have:=ho.rs; omega) hr.rs
 have b6:=oI (A ++ [x.en] ++ [x.tr] ++ aw (u64 x.us) ++ aw (u64 x.rep) ++ bQ x.rs) (ey x.ps ++ ez x.fs ++ R) x.gs 64 (by have:=ho.gs; omega) (by have:=ho.gs; omega) hr.gs
 have b7:=GY x.ps (fun p hp => by rw [hr.pl p hp,ho.pl p hp]) ho.ps (A ++ [x.en] ++ [x.tr] ++ aw (u64 x.us) ++ aw (u64 x.rep) ++ bQ x.rs ++ bQ x.gs) (ez x.fs ++ R)
 have b8:=gJ (A ++ [x.en] ++ [x.tr] ++ aw (u64 x.us) ++ aw (u64 x.rep) ++ bQ x.rs ++ bQ x.gs ++ ey x.ps) (x.fs.flatMap gW ++ R) x.fs.length 64 20 ae (by have:=ho.fs; omega) (by have:=ho.fs; omega)
 rw [← w1] at b1;rw [← w2] at b2;rw [← w3] at b3;rw [← w4] at b4;rw [← w5] at b5;rw [← w6] at b6;rw [← w7] at b7;rw [← w8] at b8
 have b9:=Aw (frR Z) gW plF Z x.fs _ R w9 (fun f hf A' R' hh => by
  rw [hh];have h1:=ho.fl f hf;have h2:=hr.fs f hf;exact Ke A' R' f h1.1 h1.2.1 h1.2.2.1 h1.2.2.2 h2.1 h2.2.1 h2.2.2) x.fs.length (Nat.le_refl _)
 rw [List.take_of_length_le (Nat.le_refl _)] at b9
 simp only [List.length_append,List.length_singleton] at b2 b3 b4 b5 b6 b7 b8 b9
 have u1:=(ke hr.us ax ho.us).1;have u2:=(ke hr.rep ax ho.rep).1;rw [hZ];have e1 : r1 Z (at0 A.length) = (x.en,at0 (A.length + 1)):=b1;have e2 : r2 Z (at0 A.length) = ocR Z 0 6 (r1 Z (at0 A.length)).2:=rfl;rw [e1] at e2
 simp only at e2
 rw [b2] at e2;have e3 : r3 Z (at0 A.length) = nmR Z 4611686018427387904 17 (r2 Z (at0 A.length)).2:=rfl;rw [e2] at e3
 simp only at e3
 rw [b3] at e3;have e4 : r4 Z (at0 A.length) = nmR Z 9223372036854775807 17 (r3 Z (at0 A.length)).2:=rfl;rw [e3] at e4
 simp only at e4
 rw [b4] at e4;have e5 : r5 Z (at0 A.length) = lsR Z 8 (r4 Z (at0 A.length)).2:=rfl;rw [e4] at e5
 simp only at e5
 rw [b5] at e5;have e6 : r6 Z (at0 A.length) = lsR Z 64 (r5 Z (at0 A.length)).2:=rfl;rw [e5] at e6
 simp only at e6
 rw [b6] at e6;have e7 : r7 Z (at0 A.length) = qV Z (r6 Z (at0 A.length)).2:=rfl;rw [e6] at e7
 simp only at e7
 rw [b7] at e7;have e8 : r8 Z (at0 A.length) = rlR (frR Z) (nmR Z 64 20 (r7 Z (at0 A.length)).2).1.toNat (nmR Z 64 20 (r7 Z (at0 A.length)).2).2:=rfl;rw [e7] at e8
 simp only at e8
 rw [b8] at e8
 simp only [Int.toNat_natCast] at e8
 rw [b9] at e8;refine ⟨?_,?_⟩
 ·unfold stP plS;rw [e1,e2,e3,e4,e5,e6,e7,e8]
  simp only
  rw [u1,u2]
 ·rw [e8]
  show at0 _ = at0 _
  congr 1
  simp only [encS,ez,List.length_append,List.length_singleton]
  omega
def ko : List Int:=[70,83,78,80,1,2,0,2,0,1,5,0,0,0,0]
abbrev kS (B : Nat) : StM:=⟨none,0,0,[],none,0,0,[],none,0,0,[],0,2,some ⟨B,0,none⟩,1,1,[5],0,2⟩
theorem MU (B : Nat) : wrV (kS B) = (ko,false):=ak
theorem NT : rdE ko = (0,0):=ak
theorem MD : rdE (ko ++ [0]) = (19,15):=ak
theorem NP : stP ko (5,0) = ⟨2,0,2,0,[5],[],[],[]⟩:=ak
theorem uU (bl : List Nat) (ps : List (List Int)) (j : Nat) (x : PgM) (h : (List.zipWith (fun b l => (((some ⟨b,0,none⟩,4096,4096),l) : PgM)) bl ps)[j]? = some x) : ∃ b l,bl[j]? = some b ∧ ps[j]? = some l ∧ x = ((some ⟨b,0,none⟩,4096,4096),l):=by
 rw [List.getElem?_zipWith] at h
 cases hb : bl[j]? with
 | none => rw [hb] at h; simp at h
 | some b =>
  cases hl : ps[j]? with
  | none => rw [hb,hl] at h; simp at h
  | some l =>
   rw [hb,hl] at h
   exact ⟨b,l,rfl,rfl,by simpa using h.symm⟩
theorem StA.sst {base : Nat} {w : World} {p : StP} {B5 B6 B7 : Nat} {bl : List Nat} {B8 : Nat} {ys : List FrM} (h : StA base w p B5 B6 B7 bl B8 ys) (hp : ∀ l ∈ p.ps,l.length = 4096) : SSt w (mkS p B5 B6 B7 bl B8 ys):=by
 refine ⟨⟨rfl,.inr ⟨B8,0,rfl,fun j x hj => ?_⟩,fun x hx => ?_⟩,h.gs.si,⟨?_,.inr ⟨B7,0,rfl,fun j x hj => ?_⟩,fun x hx => ?_⟩,h.rs.si⟩
 ·have hc : ∀ q,q < 4 → w.cell? ⟨B8,0 + j * 4 + q,none⟩ = (gP x)[q]?:=fun q hq => by
   rw [ai h.fr,Nat.zero_add,List.getElem?_toArray,yc gP 4 qx ys j q hq];have hj' : ys[j]? = some x:=hj;rw [hj'];rfl
  exact ⟨hc 0 ae,hc 1 ae,hc 2 ae,hc 3 ae⟩
 ·obtain ⟨f,C1,C2,rfl,hf,_⟩:=h.fa.el x hx;exact ⟨hf.l.si,hf.s.si⟩
 ·have:=h.ps.len
  simp only [List.length_zipWith]
  omega
 ·obtain ⟨b,l,hb,hl,rfl⟩:=uU bl p.ps j x hj;rw [ai h.ps.row,Nat.zero_add,List.getElem?_toArray,List.getElem?_map,hb];rfl
 ·obtain ⟨j,hj⟩:=List.getElem?_of_mem hx;obtain ⟨b,l,hb,hl,rfl⟩:=uU bl p.ps j x hj
  refine ⟨hp l (List.mem_of_getElem? hl),.inr ⟨b,0,rfl,fun i z hz => ?_⟩⟩
  have hz' : l[i]? = some z:=hz;rw [ai (h.ps.el j b l hb hl),Nat.zero_add]
  simp [byV,hz']
structure SzP (p : StP) : Prop where
 rs : p.rs.length ≤ 8
 gs : p.gs.length ≤ 64
 ps : p.ps.length ≤ 64
 pl : ∀ l ∈ p.ps,l.length = 4096 ∧ ∀ z ∈ l,0 ≤ z ∧ z ≤ 255
 fs : p.fs.length ≤ 64
 fl : ∀ f ∈ p.fs,f.2.2.1.length ≤ 64 ∧ f.2.2.2.length ≤ 256
theorem StA.sb {base : Nat} {w : World} {p : StP} {B5 B6 B7 : Nat} {bl : List Nat} {B8 : Nat} {ys : List FrM} (h : StA base w p B5 B6 B7 bl B8 ys) (hp : SzP p) : SB (mkS p B5 B6 B7 bl B8 ys):=by
 have hyl : ys.length = p.fs.length:=by rw [← h.fp,List.length_map]
 refine ⟨fun x hx => ?_,fun x hx => ?_,?_,?_,?_,?_⟩
 ·obtain ⟨f,C1,C2,rfl,hf,_⟩:=h.fa.el x hx
  have hm : plF (frN f C1 C2) ∈ p.fs:=by rw [← h.fp]; exact List.mem_map_of_mem hx
  have:=hp.fl _ hm
  simp only [plF] at this
  exact ⟨by show f.2.2.1.length ≤ _; omega,by show f.2.2.2.length ≤ _; omega⟩
 ·obtain ⟨j,hj⟩:=List.getElem?_of_mem hx;obtain ⟨b,l,hb,hl,rfl⟩:=uU bl p.ps j x hj
  exact ⟨by show 4096 ≤ 1099511627776; omega,(hp.pl l (List.mem_of_getElem? hl)).2⟩
 ·show ys.length ≤ _
  have:=hp.fs
  omega
 ·show p.gs.length ≤ _
  have:=hp.gs
  omega
 ·show p.ps.length ≤ _
  have:=hp.ps
  omega
 ·show p.rs.length ≤ _
  have:=hp.rs
  omega
theorem KZ : SzP ⟨2,0,2,0,[5],[],[],[]⟩:=⟨ax,ax,ax,fun l hl => (by cases hl),ax,fun f hf => (by cases hf)⟩
theorem F7 {w : World} {B : Nat} (h : w.heap[B]? = some (ja 5)) : SSt w (kS B) :=
 ⟨⟨rfl,.inl rfl,fun x hx => (by cases hx)⟩,⟨rfl,.inl rfl⟩,⟨rfl,.inl rfl,fun x hx => (by cases hx)⟩,⟨rfl,.inr ⟨B,0,rfl,fun j x hj => by
  have hj0 : j = 0:=by have:=az hj; simp at this; omega
  subst hj0;obtain rfl : (5 : Int) = x:=tU;exact ai h⟩⟩⟩
theorem Ld (B : Nat) : SB (kS B):=⟨fun x hx => (by cases hx),fun x hx => (by cases hx),by show 0 ≤ _; omega,by show 0 ≤ _; omega,by show 0 ≤ _; omega,by show 1 ≤ _; omega⟩
theorem NA (B : Nat) : SR (kS B):=⟨by show (-128 : Int) ≤ 2 ∧ (2 : Int) ≤ 127; decide,by show (-128 : Int) ≤ 0 ∧ (0 : Int) ≤ 127; decide,fun v hv => by
  have : v = 5:=by simpa using hv
  subst this; decide,fun v hv => (by cases hv),fun v hv => (by cases hv),fun v hv => (by cases hv)⟩
theorem LQ {base : Nat} {w : World} {B5 B6 B7 : Nat} {bl : List Nat} {B8 B : Nat} {ys : List FrM} (h : StA base w ⟨2,0,2,0,[5],[],[],[]⟩ B5 B6 B7 bl B8 ys) : stE (mkS ⟨2,0,2,0,[5],[],[],[]⟩ B5 B6 B7 bl B8 ys) (kS B) = true:=by
 have hy : ys = []:=by
  have:=congrArg List.length h.fp
  rw [List.length_map] at this;exact List.eq_nil_of_length_eq_zero this
 subst hy
 have hz : List.zipWith (fun b l => (((some ⟨b,0,none⟩,4096,4096),l) : PgM)) bl ([] : List (List Int)) = []:=au
 simp only [stE,hz]
 decide
abbrev zA : Array Value:=#[.int .u8 70,.int .u8 83,.int .u8 78,.int .u8 80,.int .u8 1,.int .u8 2,.int .u8 0,.int .u8 2,.int .u8 0,.int .u8 1,.int .u8 5,.int .u8 0,.int .u8 0,.int .u8 0,.int .u8 0]
abbrev zO : Obj:=.cells zA 5 (15,16)
theorem Om (w : World) : (convert 42 42 (.slice (some ⟨w.heap.size,0,none⟩) 15 15)).run Tryz.prog (w.alloc (.cells zA 5)) = .ok (.slice (some ⟨w.heap.size,0,none⟩) 15 15) (w.alloc zO) :=
 Go.Lib.run_convert_bytes_const (P:=Tryz.prog) w 42 5 zA 15 15 Tryz.underlying42 Tryz.underlying5
theorem zK {w : World} {b : Nat} (h : w.heap[b]? = some zO) : Seg w (some ⟨b,0,none⟩) 15 15 ko:=by
 refine ⟨rfl,ae,ae,ax,.inr ⟨b,0,rfl,fun j hj => ?_⟩⟩
 have : w.cell? ⟨b,0 + j,none⟩ = zA[0 + j]?:=by simp only [World.cell?,h]; rfl
 rw [this,Nat.zero_add];have h6 : j = 0 ∨ j = 1 ∨ j = 2 ∨ j = 3 ∨ j = 4 ∨ j = 5 ∨ j = 6 ∨ j = 7 ∨ j = 8 ∨ j = 9 ∨ j = 10 ∨ j = 11 ∨ j = 12 ∨ j = 13 ∨ j = 14:=ae
 rcases h6 with rfl | rfl | rfl | rfl | rfl | rfl | rfl | rfl | rfl | rfl | rfl | rfl | rfl | rfl | rfl <;> rfl
theorem Seg.toSI {w : World} {a : Option Addr} {n c : Nat} {zs : List Int} (h : Seg w a n c zs) : SI .u8 w a n zs :=
 ⟨h.1,h.2.2.2.2.imp id fun ⟨b,off,e,hc⟩ => ⟨b,off,e,fun j x hj => by
  have hj':=az hj
  have:=hc j (by have:=h.1; omega)
  rw [List.getD_eq_getElem?_getD,hj] at this;exact this⟩⟩
theorem Seg.toFl {w : World} {a : Option Addr} {n c : Nat} {zs : List Int} (h : Seg w a n c zs) : Fl w a n (zs.map (Value.int .u8)):=by
 rcases h.toSI.2 with h0 | ⟨b,off,e,hc⟩
 ·exact .inl h0
 ·refine .inr ⟨b,off,e,fun j y hj => ?_⟩
  rw [List.getElem?_map,Option.map_eq_some_iff] at hj;obtain ⟨x,hx,rfl⟩:=hj;exact hc j x hx
theorem ny.si {w : World} {g n cap : Nat} {bs : List Int} (h : ny w g n cap (bs.map (Value.int .u8))) (hn : bs.length = n) : SI .u8 w (some ⟨g,0,none⟩) n bs:=by
 refine ⟨hn,.inr ⟨g,0,rfl,fun j x hj => ?_⟩⟩
 have hm : (bs.map (Value.int .u8))[j]? = some (.int .u8 x):=by rw [List.getElem?_map,hj]; rfl
 rw [Nat.zero_add]
 rcases h with hr | hr
 ·have:=hr.cell j sK
  rw [this]; exact hm
 ·exact hr.2.2.2.2 j _ hm
abbrev kP : StP:=⟨2,0,2,0,[5],[],[],[]⟩
theorem Lh {b : Nat} {w w' : World} {e : Ending} (h : WrA (kS b) w e w') : Below w.heap.size w w' ∧ ∃ B cap,e = .returned (.tuple #[.slice (some ⟨B,0,none⟩) 15 cap,.int .i64 0]) ∧ ny w' B 15 cap (ko.map (Value.int .u8)) ∧ w.heap.size ≤ B:=by
 obtain ⟨hb,hor⟩:=h;rw [MU] at hor
 rcases hor with ⟨h,_⟩ | ⟨_,B,cap,he,hbuf,hlo⟩
 ·cases h
 ·exact ⟨hb,B,cap,he,hbuf,hlo⟩
theorem Ll {w w' : World} {e : Ending} (h : RdA ko w e w') : Below w.heap.size w w' ∧ ∃ y : StM,∃ B5 B6 B7 bl B8 ys,e = .returned (.tuple #[.agg (bW y),.int .i64 0,.int .i64 0]) ∧ y = mkS kP B5 B6 B7 bl B8 ys ∧ StA w.heap.size w' kP B5 B6 B7 bl B8 ys:=by
 obtain ⟨hb,hor⟩:=h;rw [NT,NP] at hor
 rcases hor with ⟨h,_⟩ | ⟨_,B5,B6,B7,bl,B8,ys,he,hs⟩
 ·exact absurd rfl h
 ·exact ⟨hb,_,B5,B6,B7,bl,B8,ys,he,rfl,hs⟩
theorem JV {w w' : World} {e : Ending} (h : RdA (ko ++ [0]) w e w') : Below w.heap.size w w' ∧ e = .returned (.tuple #[.agg zSt,.int .i64 19,.int .i64 15]):=by
 obtain ⟨hb,hor⟩:=h;rw [MD] at hor
 rcases hor with ⟨_,h⟩ | ⟨h,_⟩
 ·exact ⟨hb,h⟩
 ·cases h
theorem Lq (w : World) : Calls Tryz.prog 4 #[] w fun e w' => e = .returned (.bool true) ∧ Below w.heap.size w w':=by
 have hcv:=Om w;have b1:=aj w zO;have b2:=b1.trans ((aj (w.alloc zO) (ja 5)).mono b1.size);have b3:=b2.trans ((aj ((w.alloc zO).alloc (ja 5)) (.cells (bW (kS (w.heap.size + 1))) 35)).mono b2.size);have ka : (((w.alloc zO).alloc (ja 5)).alloc (.cells (bW (kS (w.heap.size + 1))) 35)).heap[w.heap.size]? = some zO:=bc (aj _ _) (bc (aj _ _) (bZ w zO));have kb : (((w.alloc zO).alloc (ja 5)).alloc (.cells (bW (kS (w.heap.size + 1))) 35)).heap[w.heap.size + 1]? = some (ja 5):=bc (aj _ _) (gZ au);have kc : (((w.alloc zO).alloc (ja 5)).alloc (.cells (bW (kS (w.heap.size + 1))) 35)).heap[w.heap.size + 2]? = some (.cells (bW (kS (w.heap.size + 1))) 35):=gZ au;have HB3:=hid b3;have KA:=hid ka;have KB:=hid kb;have KC:=hid kc;have HW:=hid (Ei (kS (w.heap.size + 1)) _ (F7 kb) (Ld _) (NA _));have hsz : (((w.alloc zO).alloc (ja 5)).alloc (.cells (bW (kS (w.heap.size + 1))) 35)).heap.size = w.heap.size + 3:=au;clear b1 b2 b3 ka kb kc
 go_enter Tryz.func4,Tryz.ntmps4
 go_wp2_with fail;generalize ((w.alloc zO).alloc (ja 5)).alloc (.cells (bW (kS (w.heap.size + 1))) 35) = W3 at *;refine HW.out.mono ?_;rintro e w4 h4;obtain ⟨hb4,B,cap,rfl,hbuf,hlo⟩:=Lh h4;have ka4:=bc hb4 KA.out;have kb4:=bc hb4 KB.out;have kc4:=bc hb4 KC.out;have HB4:=hid (HB3.out.trans (hb4.mono HB3.out.size));have KA4:=hid ka4;have KB4:=hid kb4;have KC4:=hid kc4;have BF4:=hid (hbuf.si rfl);have HR:=hid (II (some ⟨w.heap.size,0,none⟩) 15 15 ko w4 (zK ka4));have hs4:=hb4.size;clear hb4 hbuf HW ka4 kb4 kc4 KA KB KC h4 hcv;go_wp2_with fail;refine HR.out.mono ?_;rintro e w5 h5;obtain ⟨hb5,y,B5,B6,B7,bl,B8,ys,rfl,hy,hst⟩:=Ll h5;have b6:=aj w5 (.cells (bW y) 35);have bb6:=hb5.trans (b6.mono hb5.size);have KA6:=hid (bc bb6 KA4.out);have KB6:=hid (bc bb6 KB4.out);have KC6:=hid (bc bb6 KC4.out);have BF6:=hid (BF4.out.later bb6);have HB6:=hid (HB4.out.trans (bb6.mono HB4.out.size))
 have ST6:=hid (hst.keep (aX (S:=fun _ => False) b6) (fun _ _ _ h => h))
 have KY6:=hid (bZ w5 (.cells (bW y) 35));have HY:=hid hy;have hs6 : (w5.alloc (.cells (bW y) 35)).heap.size = w5.heap.size + 1:=au;have hs5:=hb5.size;clear hb5 b6 bb6 hst hy h5 HR KA4 KB4 KC4 BF4 HB4;go_wp2_with fail;generalize w5.alloc (.cells (bW y) 35) = W6 at *
 have SS6:=hid (show SSt W6 y by rw [HY.out]; exact ST6.out.sst (fun l hl => (KZ.pl l hl).1))
 have SB6:=hid (show SB y by rw [HY.out]; exact ST6.out.sb KZ)
 have SE6:=hid (show stE y (kS (w.heap.size + 1)) = true by rw [HY.out]; exact LQ ST6.out)
 clear ST6 HY;have HC:=hid (LA (some ⟨w.heap.size,0,none⟩) 15 15 (ko.map (Value.int .u8)) W6 (zK KA6.out).toFl rfl (fX _) ae);refine HC.out.mono ?_;rintro e w7 ⟨va,vc,rfl,hown,hb7⟩;have b8:=aj w7 (.cells #[.int .u8 0] 5);have bb8:=hb7.trans (b8.mono hb7.size);have BB8:=hid bb8
 have OW8:=hid (gM hown (aX (S:=fun _ => False) b8) (fun _ _ h => h))
 have HU:=hid (one_cell w7 w7.heap.size (.int .u8 0) 5 rfl);have hs8 : (w7.alloc (.cells #[.int .u8 0] 5)).heap.size = w7.heap.size + 1:=au;have hs7:=hb7.size;obtain ⟨i0,hi0,hz0,hz1,hz2⟩:=info_parts Tryz.info5;clear hb7 b8 bb8 hown HC
 go_wp2_with (first | (at_builtin; refine wpList_append_own _ rfl (.tmp 29) (.tmp 30) 42 rfl W6.heap.size 5 i0 (.int .u8 0) 1 1 Tryz.underlying42 hi0 hz0 hz1 hz2 rfl (by decide) _ 15 _ rfl OW8.out ⟨w7.heap.size,0,none⟩ 1 1 [.int .u8 0] rfl rfl HU.out (by intro u hu; simp at hu; subst hu; rfl) (by unfold maxLen; omega) (by omega) (by omega) ?_; intro v' w9 hown hg hdrop; clear hdrop; have HO:=hid hown; have HG:=hid hg; clear hown hg))
 have hb9 : Below W6.heap.size (w7.alloc (.cells #[.int .u8 0] 5)) w9:=own_below OW8.out HG.out ae
 have hown9 : w9.ownsRow W6.heap.size 5 1 v' 16 ((ko ++ [0]).map (Value.int .u8)):=by
  have:=HO.out
  rw [List.map_append];exact this
 obtain ⟨va9,vc9,rfl,hseg9,_⟩:=pk hown9 ae ax;have BB9:=hid (BB8.out.trans hb9);have HR2:=hid (II va9 16 vc9 (ko ++ [0]) w9 hseg9);clear hb9 hown9 hseg9 HO HG OW8 HU BB8 hi0 hz0 hz1 hz2;go_wp2_with fail;refine HR2.out.mono ?_;rintro e w10 h10;obtain ⟨hb10,rfl⟩:=JV h10;have b11:=aj w10 (.cells zSt 35);have hbA:=BB9.out.trans (hb10.mono BB9.out.size);have hbB:=hbA.trans (b11.mono hbA.size);have KA:=bc hbB KA6.out;have KB:=bc hbB KB6.out;have KC:=bc hbB KC6.out;have KY:=bc hbB KY6.out;have HBB:=hid (HB6.out.trans (hbB.mono HB6.out.size));have EB:=hid (KG (some ⟨B,0,none⟩) (some ⟨w.heap.size,0,none⟩) 15 15 cap 15 ko ko _ (BF6.out.later hbB) (zK KA).toSI ae)
 have ES:=hid (fun (W : World) (hW : Below (w10.alloc (.cells zSt 35)).heap.size (w10.alloc (.cells zSt 35)) W) => ND y (kS (w.heap.size + 1)) W ((SS6.out.later hbB).later hW) ((F7 KB).later hW) SB6.out (Ld _))
 have el : lE iE ko ko = true:=by rw [jN]; simp
 rw [el] at EB;rw [SE6.out] at ES;have HKC:=hid KC;have HKY:=hid KY
 have hy0 : ∀ (W : World),Below (w10.alloc (.cells zSt 35)).heap.size (w10.alloc (.cells zSt 35)) W → Hid (W.heap[w5.heap.size]? = some (.cells (bW y) 35) ∧ W.heap[w.heap.size + 2]? = some (.cells (bW (kS (w.heap.size + 1))) 35)):=fun W hW => hid ⟨bc hW HKY.out,bc hW HKC.out⟩
 have HY0:=hid hy0;clear hb10 b11 hbA hbB KA KB KC KY h10 HR2 el hy0 KA6 KB6 KC6 KY6 BF6 SS6 SB6 SE6 BB9 HB6;go_wp2_with fail;generalize w10.alloc (.cells zSt 35) = W11 at *;refine EB.out.mono ?_;rintro e w12 ⟨rfl,hb12⟩;have hk12:=HY0.out w12 hb12
 have c0 : ∀ i,w12.cell? ⟨w5.heap.size,i,none⟩ = (bW y)[i]?:=fun i => ai hk12.out.1
 have d0 : ∀ i,w12.cell? ⟨w.heap.size + 2,i,none⟩ = (bW (kS (w.heap.size + 1)))[i]?:=fun i => ai hk12.out.2
 have m0 : w12.cell? ⟨w5.heap.size,0,none⟩ = some (.slice y.fa y.fn y.fc):=c0 0;have m1 : w12.cell? ⟨w5.heap.size,1,none⟩ = some (.slice y.ga y.gn y.gc):=c0 1;have m2 : w12.cell? ⟨w5.heap.size,2,none⟩ = some (.slice y.pa y.pn y.pc):=c0 2;have m3 : w12.cell? ⟨w5.heap.size,3,none⟩ = some (.int .i64 y.rep):=c0 3;have m4 : w12.cell? ⟨w5.heap.size,4,none⟩ = some (.int .i8 y.en):=c0 4;have m5 : w12.cell? ⟨w5.heap.size,5,none⟩ = some (.slice y.ra y.rn y.rc):=c0 5;have m6 : w12.cell? ⟨w5.heap.size,6,none⟩ = some (.int .i8 y.tr):=c0 6;have m7 : w12.cell? ⟨w5.heap.size,7,none⟩ = some (.int .i64 y.us):=c0 7;have p0 : w12.cell? ⟨w.heap.size + 1 + 1,0,none⟩ = some nS:=d0 0;have p1 : w12.cell? ⟨w.heap.size + 1 + 1,1,none⟩ = some nS:=d0 1;have p2 : w12.cell? ⟨w.heap.size + 1 + 1,2,none⟩ = some nS:=d0 2;have p3 : w12.cell? ⟨w.heap.size + 1 + 1,3,none⟩ = some (.int .i64 0):=d0 3;have p4 : w12.cell? ⟨w.heap.size + 1 + 1,4,none⟩ = some (.int .i8 2):=d0 4;have p5 : w12.cell? ⟨w.heap.size + 1 + 1,5,none⟩ = some (.slice (some ⟨w.heap.size + 1,0,none⟩) 1 1):=d0 5;have p6 : w12.cell? ⟨w.heap.size + 1 + 1,6,none⟩ = some (.int .i8 0):=d0 6;have p7 : w12.cell? ⟨w.heap.size + 1 + 1,7,none⟩ = some (.int .i64 2):=d0 7;have HB12:=hid (HBB.out.trans (hb12.mono HBB.out.size));have ES12:=hid (ES.out w12 hb12);clear hb12 hk12 c0 d0 EB ES HY0;go_wp2_with fail;refine ES12.out.mono ?_;rintro e w13 ⟨rfl,hb13⟩;have HB13:=hid (HB12.out.trans (hb13.mono HB12.out.size));clear hb13 ES12;go_wp2_with fail;go_ret;exact ⟨rfl,HB13.out⟩
theorem Ip {α β : Type} [DecidableEq β] {f : α → α → Bool} {g : α → β} (h : ∀ x y,f x y = decide (g x = g y)) (l1 l2 : List α) : lE f l1 l2 = decide (l1.map g = l2.map g):=by
 by_cases hq : l1.map g = l2.map g
 ·rw [decide_eq_true hq]
  have hl : l1.length = l2.length:=by have:=congrArg List.length hq; simpa using this
  refine xG hl (fun i x y hx hy => ?_)
  rw [h]
  have h1 : (l1.map g)[i]? = some (g x):=by rw [List.getElem?_map,hx]; rfl
  have h2 : (l2.map g)[i]? = some (g y):=by rw [List.getElem?_map,hy]; rfl
  rw [hq,h2] at h1
  have:=Option.some.inj h1
  simp [this]
 ·rw [decide_eq_false hq]
  by_cases hl : l1.length = l2.length
  ·have : ∃ (i : Nat) (x y : α),l1[i]? = some x ∧ l2[i]? = some y ∧ g x ≠ g y:=by
    refine Classical.byContradiction (fun hn => hq ?_)
    apply List.ext_getElem?
    intro i;rw [List.getElem?_map,List.getElem?_map]
    cases hx : l1[i]? with
    | none =>
     have : l2[i]? = none:=by rw [List.getElem?_eq_none_iff] at hx ⊢; omega
     rw [this]
    | some x =>
     have hi:=az hx;obtain ⟨y,hy⟩ : ∃ y,l2[i]? = some y:=⟨_,ba ae⟩;rw [hy]
     have : g x = g y:=Classical.byContradiction (fun hne => hn ⟨i,x,y,hx,hy,hne⟩)
     simp [this]
   obtain ⟨i,x,y,hx,hy,hne⟩:=this
   exact IP hx hy (by rw [h]; simp [hne])
  ·exact pR hl
theorem ML (x y : FrM) : frE x y = decide (plF x = plF y):=by
 unfold frE;rw [jN,jN];obtain ⟨a,b,⟨_,c⟩,⟨_,d⟩⟩:=x;obtain ⟨a',b',⟨_,c'⟩,⟨_,d'⟩⟩:=y
 simp [iE,plF]
theorem Mv (x y : PgM) : pgE x y = decide (x.2 = y.2):=by
 unfold pgE;rw [jN]
theorem Lm (s t : StM) : stE s t = true ↔ plS s = plS t:=by
 rw [BM,Ip (g:=plF) ML,Ip (g:=fun p : PgM => p.2) Mv,jN,jN]
 simp only [iE,Bool.and_eq_true,decide_eq_true_eq,plS,StP.mk.injEq]
 constructor
 ·rintro ⟨h1,h2,h3,h4,h5,h6,h7,h8⟩;exact ⟨h2,h3,h4,h1,h8,h6,h7,h5⟩
 ·rintro ⟨h1,h2,h3,h4,h5,h6,h7,h8⟩;exact ⟨h4,h1,h2,h3,h8,h6,h7,h5⟩
theorem JR {s : StM} (hs : (wrV s).2 = false) (rs : RgS s) (hl : (wrV s).1.length ≤ 524288) : rdE (wrV s).1 = (0,0) ∧ stP (wrV s).1 (5,0) = plS s:=by
 have a:=ul hs
 have e1 : (wrV s).1 = mgc ++ encS s ++ []:=by show (stW s (mgc,false)).1 = _; rw [a.2]; simp
 have g:=Jz mgc [] s a.1 rs;rw [← e1] at g
 have hlen : (wrV s).1.length = mgc.length + (encS s).length:=by rw [e1]; simp
 have hp : pfx (wrV s).1 = true:=by
  unfold pfx;rw [e1]
  simp [mgc]
 have hf : fnR (wrV s).1 (r8 (wrV s).1 (5,0)).2 = at0 (mgc.length + (encS s).length):=by
  have h8 : (r8 (wrV s).1 (5,0)).2 = at0 (mgc.length + (encS s).length):=g.2;rw [h8];unfold fnR
  rw [if_neg (by rw [hlen]; simp)]
 refine ⟨?_,g.1⟩;unfold rdE
 rw [if_neg ae,if_neg (by rw [hp]; decide),hf]
 rfl
end Go.Proofs.YtkdldbfbldkkcaaGreatDoor

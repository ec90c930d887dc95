/-
  Texts Wt Vb Vc Vd Vf Vg Ls Lsig.
-/
import Derived.Deep.RegionHeld3
import Derived.Test.YtepnnenohjfkbaaGreatDoorP00
import Derived.Test.YtepnnenohjfkbaaGreatDoorP02
set_option linter.unusedVariables false
set_option maxRecDepth 100000
set_option maxHeartbeats 16000000
namespace Go.Proofs.YtepnnenohjfkbaaGreatDoor
open Go.RowKit
theorem je {w w1 w2 : World} (h : Below w.heap.size w w1) (h' : Below w1.heap.size w1 w2) : Below w.heap.size w w2:=h.trans (h'.mono h.size)
theorem Stp.ne {R g g' b : Nat} {w w' : World} (h : Stp R g g' w w') (hb : b < w.heap.size) (hn : b ≠ g) : b ≠ g':=by
 rcases h.m with rfl | h
 ·exact hn
 ·omega
theorem Wr.g_lt {w : World} {R g cap : Nat} {bs : List Int} (h : Wr w R g cap bs) : g < w.heap.size:=h.row.lt
theorem gm {fn : Func} {p : Tmp} {ty : TypeId} (h : fn.results = #[.cell p ty]) (tmps : Array Value) (P : Program) (w : World) :
  (results fn tmps).run P w = ((asAddr (tmps.getD p undef)).run P w).andThen fun a w₁ => (loadVar ty a).run P w₁:=by
 simp only [results,h]
 simp [Sem.run_bind,Result.andThen]
theorem ay (w : World) (b o : Nat) (v : Value) : Kept (fun k => k = b) w (w.setCell ⟨b,o,none⟩ v):=⟨rfl,rfl,rfl,by simp [World.setCell],fun k hk hs => Below.heap_setCell _ _ _ _ (by simpa using hs)⟩
theorem Wr.set {w : World} {R g cap : Nat} {bs : List Int} (h : Wr w R g cap bs) {b o : Nat} {v : Value} (h1 : b ≠ R) (h2 : b ≠ g) : Wr (w.setCell ⟨b,o,none⟩ v) R g cap bs:=h.kept (ay w b o v) (Ne.symm h1) (Ne.symm h2)
theorem Stp.set {R g g' : Nat} {w w' : World} (h : Stp R g g' w w') {b o : Nat} {v : Value} (hb : w.heap.size ≤ b) : Stp R g g' w (w'.setCell ⟨b,o,none⟩ v) :=
 ⟨h.k.then (ay w' b o v) (fun k hk hb' => ae),h.m⟩
theorem Stp.block {R g g' : Nat} {w w' : World} (h : Stp R g g' w w') {b : Nat} (hb : b < w.heap.size) (h1 : b ≠ R) (h2 : b ≠ g) : w'.heap[b]? = w.heap[b]?:=h.k.block b hb (by simp [h1,h2])
theorem bS {w : World} {b : Nat} {u v : Value} {t : TypeId} (h : w.heap[b]? = some (.cells #[u,v] t)) : w.cell? ⟨b,0,none⟩ = some u ∧ w.cell? ⟨b,1,none⟩ = some v ∧ w.frozen? ⟨b,0,none⟩ = false ∧ w.frozen? ⟨b,1,none⟩ = false:=by
 simp [World.cell?,World.frozen?,h]
def mC (w : World) (p r : ByteArray) (aa : Option Addr) (an ac : Nat) (n : Nat) : World :=
 (((w.alloc (aB p r)).alloc (jx aa an ac)).alloc (aB ⟨#[]⟩ ⟨#[]⟩)).alloc (aM n)
theorem mi (w : World) (p r : ByteArray) (aa : Option Addr) (an ac n : Nat) : Below w.heap.size w (mC w p r aa an ac n) ∧ (mC w p r aa an ac n).heap.size = w.heap.size + 4 ∧
  (mC w p r aa an ac n).cell? ⟨w.heap.size,0,none⟩ = some (.string p) ∧ (mC w p r aa an ac n).cell? ⟨w.heap.size,1,none⟩ = some (.string r) ∧
  (mC w p r aa an ac n).cell? ⟨w.heap.size + 1,0,none⟩ = some (.slice aa an ac) ∧ (mC w p r aa an ac n).cell? ⟨w.heap.size + 1 + 1 + 1,0,none⟩ = some (.int .i64 n) ∧ (mC w p r aa an ac n).heap[w.heap.size + 1 + 1]? = some (aB ⟨#[]⟩ ⟨#[]⟩):=by
 unfold mC;refine ⟨?_,ak,cP,cP,cP,cP,?_⟩;rotate_left
 ·have h1:=(MapKept.heap_alloc ((w.alloc (aB p r)).alloc (jx aa an ac)) (aB ⟨#[]⟩ ⟨#[]⟩)).1;have h2:=(aj (((w.alloc (aB p r)).alloc (jx aa an ac)).alloc (aB ⟨#[]⟩ ⟨#[]⟩)) (aM n)).block (w.heap.size + 1 + 1) ak;rw [h2]
  simpa using h1
 exact ((((Below.refl _ w).alloc (Nat.le_refl _) _).alloc cH _).alloc cH _).alloc cH _
theorem Am (R g cap : Nat) (bs : List Int) (p r : ByteArray) (aa : Option Addr) (an ac : Nat) (ah : List Sg) (w : World) (h : Wr w R g cap bs) (hb : bs.length + 100 ≤ 1099511627776)
  (hah : cj w aa an ah) (hne : ∀ b off c,aa = some ⟨b,off,c⟩ → b ≠ R ∧ b ≠ g) (hx : bW ah (p,r) = 0) :
  Calls Tryz.prog 115 #[cW R,.agg #[.string p,.string r],.slice aa an ac] w (oo R g bs (bG (p,r)) (.agg #[.string p,.string r]) w):=by
 obtain ⟨s1,l1,s2,l2,t2⟩:=di hx
 simp only at s1 l1 s2 l2 t2
 clear hx;obtain ⟨B0,z0,x0,x1,x2,x3,x4⟩:=mi w p r aa an ac bs.length;have H4:=hid (h.later B0);have HAH:=hid (hah.later B0);have hRl:=h.lt;have hgl:=h.g_lt;have u1:=cI p 8 s1;have u2:=cI r 8 s2;have hmp:=lQ;have hcp:=rZ;have hmt:=dv;have hct:=ei
 have c0 : (((w.alloc (aB p r)).alloc (jx aa an ac)).alloc (aB ⟨#[]⟩ ⟨#[]⟩)).cell? ⟨R,0,none⟩ = some (.slice (some ⟨g,0,none⟩) bs.length cap):=by
  exact tV
 have HW4 : (((w.alloc (aB p r)).alloc (jx aa an ac)).alloc (aB ⟨#[]⟩ ⟨#[]⟩)).alloc (aM bs.length) = mC w p r aa an ac bs.length:=rfl;generalize mC w p r aa an ac bs.length = W4 at *;have B4:=hid B0;clear h hah B0
 have HT1:=hid (dD R g cap bs p 8 177 #[] W4 H4.out ae ae ae (fun _ _ => rfl) (dm p bs.length W4 ae Du))
 go_enter Tryz.func115,Tryz.ntmps115
 go_wp2_with fail;refine (cT R _ _ _ _ c0).mono ?_;rintro e w1 ⟨rfl,rfl⟩;clear c0;go_wp2_with fail;refine HT1.out.mono ?_;rintro e w5 ⟨rfl,g1,aQ,hw5,hs5⟩;have y0:=hs5.cell x0 ae ae;have y1:=hs5.cell x1 ae ae;have y2:=hs5.cell x2 ae ae;have y3:=hs5.cell x3 ae ae;have hN1 : w.heap.size + 1 + 1 ≠ g1:=hs5.ne ae ae;have y4:=(hs5.block (b:=w.heap.size + 1 + 1) ae ae ae).trans x4;have hl5:=block_lt_of_cell y3;have hl5':=block_lt_of_cell y1;have B6:=hid (aj w5 (im p));have N6:=hid (fw w5 (.string p) 9);have W5:=hid hw5;have S5:=hid ((Stp.of_below B4.out).trans hs5)
 have A5:=hid (HAH.out.kept hs5.k (fun b off c ha => by have:=hne b off c ha; simp; omega))
 clear HT1 hw5 hs5 x0 x1 x2 x3 H4 HW4
 have HT2:=hid (dD R g1 aQ (bs ++ eI p) r 8 178 #[.pointer (some ⟨w.heap.size + 1,0,none⟩),.pointer (some ⟨w5.heap.size,0,none⟩),.pointer (some ⟨w.heap.size + 1 + 1 + 1,0,none⟩)] _ (W5.out.later B6.out) ae ae aG (fun _ _ => rfl)
  (Ae r p _ bs.length (w.heap.size + 1) w5.heap.size (w.heap.size + 1 + 1 + 1) aa an ac ah _ ae (by rw [d9 r 256 8 ae s2]; exact l2) (A5.out.later B6.out) t2 ((B6.out.cell (by exact block_lt_of_cell y2)).trans y2) N6.out ((B6.out.cell (by exact hl5)).trans y3)))
 go_wp2_with fail;refine HT2.out.mono ?_;rintro e w7 ⟨rfl,g2,cap2,hw7,hs7⟩;have W7:=hid hw7;have S7:=hid ((S5.out.trans (Stp.of_below B6.out)).trans hs7)
 have q0:=hs7.cell N6.out ae (by have:=W5.out.g_lt; omega)
 have q1:=block_lt_of_cell q0;have hz6 : (w5.alloc (im p)).heap.size = w5.heap.size + 1:=ak;have q2:=(hs7.block (b:=w.heap.size + 1 + 1) ae ae hN1).trans ((B6.out.block _ ae).trans y4);obtain ⟨q3,q4,q5,q6⟩:=bS q2;have hN2 : w.heap.size + 1 + 1 ≠ g2:=hs7.ne ae hN1;clear hw7 hs7 HT2 y0 y1 y2 y3 y4 q2;go_wp2_with fail;refine bodyPost_ret (v:=.agg #[.string p,.string r]) ?_ rfl ⟨rfl,g2,cap2,?_,?_⟩
 ·exact fH
 ·have:=(W7.out.set (b:=w.heap.size + 1 + 1) (o:=0) (v:=.string p) ae hN2).set (b:=w.heap.size + 1 + 1) (o:=1) (v:=.string r) ae hN2
  simpa [bG,eI,List.append_assoc] using this
 ·exact (S7.out.set ae).set ae
theorem sN (R g cap : Nat) (bs : List Int) (p r : ByteArray) (aa : Option Addr) (an ac : Nat) (w : World) (h : Wr w R g cap bs) (x : Int)
  (ht : ∀ W,Wr W R g cap bs → Calls Tryz.prog 316 #[.pointer (some ⟨R,0,none⟩),.string p,.int .i64 8,.func (.func 177) #[] #[]] W (aR R g x W)) :
  Calls Tryz.prog 115 #[cW R,.agg #[.string p,.string r],.slice aa an ac] w (aR R g x w):=by
 obtain ⟨B0,z0,x0,x1,x2,x3,x4⟩:=mi w p r aa an ac bs.length;have H4:=hid (h.later B0);have hRl:=h.lt;have hgl:=h.g_lt;have hmp:=lQ;have hcp:=rZ;have hmt:=dv;have hct:=ei
 have c0 : (((w.alloc (aB p r)).alloc (jx aa an ac)).alloc (aB ⟨#[]⟩ ⟨#[]⟩)).cell? ⟨R,0,none⟩ = some (.slice (some ⟨g,0,none⟩) bs.length cap):=by
  exact tV
 have HW4 : (((w.alloc (aB p r)).alloc (jx aa an ac)).alloc (aB ⟨#[]⟩ ⟨#[]⟩)).alloc (aM bs.length) = mC w p r aa an ac bs.length:=rfl;generalize mC w p r aa an ac bs.length = W4 at *;have B4:=hid B0;clear h B0;have HT1:=hid (ht W4 H4.out);clear ht
 go_enter Tryz.func115,Tryz.ntmps115
 go_wp2_with fail;refine (cT R _ _ _ _ c0).mono ?_;rintro e w1 ⟨rfl,rfl⟩;clear c0;go_wp2_with fail;refine HT1.out.mono ?_;rintro e w5 ⟨⟨q,rfl⟩,hk⟩;exact ⟨rfl,⟨q,rfl⟩,(az B4.out).trans hk⟩
theorem oH (R g cap : Nat) (bs : List Int) (p r : ByteArray) (aa : Option Addr) (an ac : Nat) (ah : List Sg) (w : World) (h : Wr w R g cap bs) (hb : bs.length + 100 ≤ 1099511627776)
  (hah : cj w aa an ah) (hne : ∀ b off c,aa = some ⟨b,off,c⟩ → b ≠ R ∧ b ≠ g) (s1 : p.size ≤ 8) (l1 : lett p 8 = true) (x : Int)
  (ht : ∀ W g1 aQ bs1 A B C beg,Wr W R g1 aQ bs1 → cj W aa an ah → W.cell? ⟨A,0,none⟩ = some (.slice aa an ac) → W.cell? ⟨B,0,none⟩ = some (.string p) → W.cell? ⟨C,0,none⟩ = some (.int .i64 beg) →
   Calls Tryz.prog 316 #[.pointer (some ⟨R,0,none⟩),.string r,.int .i64 8,.func (.func 178) #[] #[.pointer (some ⟨A,0,none⟩),.pointer (some ⟨B,0,none⟩),.pointer (some ⟨C,0,none⟩)]] W (aR R g1 x W)) :
  Calls Tryz.prog 115 #[cW R,.agg #[.string p,.string r],.slice aa an ac] w (aR R g x w):=by
 obtain ⟨B0,z0,x0,x1,x2,x3,x4⟩:=mi w p r aa an ac bs.length;have H4:=hid (h.later B0);have HAH:=hid (hah.later B0);have hRl:=h.lt;have hgl:=h.g_lt;have u1:=cI p 8 s1;have hmp:=lQ;have hcp:=rZ;have hmt:=dv;have hct:=ei
 have c0 : (((w.alloc (aB p r)).alloc (jx aa an ac)).alloc (aB ⟨#[]⟩ ⟨#[]⟩)).cell? ⟨R,0,none⟩ = some (.slice (some ⟨g,0,none⟩) bs.length cap):=by
  exact tV
 have HW4 : (((w.alloc (aB p r)).alloc (jx aa an ac)).alloc (aB ⟨#[]⟩ ⟨#[]⟩)).alloc (aM bs.length) = mC w p r aa an ac bs.length:=rfl;generalize mC w p r aa an ac bs.length = W4 at *;have B4:=hid B0;clear h hah B0
 have HT1:=hid (dD R g cap bs p 8 177 #[] W4 H4.out ae ae ae (fun _ _ => rfl) (dm p bs.length W4 ae Du))
 have HT:=hid ht;clear ht
 go_enter Tryz.func115,Tryz.ntmps115
 go_wp2_with fail;refine (cT R _ _ _ _ c0).mono ?_;rintro e w1 ⟨rfl,rfl⟩;clear c0;go_wp2_with fail;refine HT1.out.mono ?_;rintro e w5 ⟨rfl,g1,aQ,hw5,hs5⟩;have y0:=hs5.cell x0 ae ae;have y1:=hs5.cell x1 ae ae;have y2:=hs5.cell x2 ae ae;have y3:=hs5.cell x3 ae ae;have hN1 : w.heap.size + 1 + 1 ≠ g1:=hs5.ne ae ae;have y4:=(hs5.block (b:=w.heap.size + 1 + 1) ae ae ae).trans x4;have hl5:=block_lt_of_cell y3;have hl5':=block_lt_of_cell y1;have B6:=hid (aj w5 (im p));have N6:=hid (fw w5 (.string p) 9);have W5:=hid hw5;have S5:=hid ((Stp.of_below B4.out).trans hs5)
 have A5:=hid (HAH.out.kept hs5.k (fun b off c ha => by have:=hne b off c ha; simp; omega))
 clear HT1 hw5 hs5 x0 x1 x2 x3 H4 HW4
 have HT2:=hid (HT.out _ g1 aQ _ (w.heap.size + 1) w5.heap.size (w.heap.size + 1 + 1 + 1) bs.length (W5.out.later B6.out) (A5.out.later B6.out) ((B6.out.cell (by exact block_lt_of_cell y2)).trans y2) N6.out ((B6.out.cell (by exact hl5)).trans y3))
 clear HT;go_wp2_with fail;refine HT2.out.mono ?_;rintro e w7 ⟨⟨q,rfl⟩,hk⟩;refine ⟨rfl,⟨q,rfl⟩,?_⟩
 refine (S5.out.k.trans (az B6.out)).then hk (fun k hkl hh => ?_)
 rcases hh with rfl | rfl
 ·exact .inl rfl
 ·rcases S5.out.m with h | h
  ·exact .inr h
  ·omega
theorem EZ (R g cap : Nat) (bs : List Int) (p r : ByteArray) (aa : Option Addr) (an ac : Nat) (ah : List Sg) (w : World) (h : Wr w R g cap bs) (hb : bs.length + 100 ≤ 1099511627776)
  (hah : cj w aa an ah) (hne : ∀ b off c,aa = some ⟨b,off,c⟩ → b ≠ R ∧ b ≠ g) (hx : bW ah (p,r) ≠ 0) :
  Calls Tryz.prog 115 #[cW R,.agg #[.string p,.string r],.slice aa an ac] w (aR R g (bW ah (p,r)) w):=by
 unfold bW at hx ⊢
 simp only at hx ⊢
 by_cases s1 : 8 < p.size
 ·rw [if_pos s1]
  exact sN R g cap bs p r aa an ac w h 13 (fun W hW => fh R g cap bs p 8 _ W hW ae)
 rw [if_neg s1] at hx ⊢
 by_cases l1 : lett p 8 = false
 ·rw [if_pos l1]
  exact sN R g cap bs p r aa an ac w h 15 (fun W hW => eX R g cap bs p 8 177 #[] 15 W hW ae (fun _ _ => rfl) (iI p bs.length W ae (by rw [d9 p 256 8 ae ae]; exact l1)))
 rw [if_neg l1] at hx ⊢
 have l1' : lett p 8 = true:=by simpa using l1
 by_cases s2 : 8 < r.size
 ·rw [if_pos s2]
  exact oH R g cap bs p r aa an ac ah w h hb hah hne ae l1' 13 (fun W g1 aQ bs1 A B C beg hW _ _ _ _ => fh R g1 aQ bs1 r 8 _ W hW ae)
 rw [if_neg s2] at hx ⊢
 by_cases l2 : lett r 8 = false
 ·rw [if_pos l2]
  exact oH R g cap bs p r aa an ac ah w h hb hah hne ae l1' 15 (fun W g1 aQ bs1 A B C beg hW _ _ _ _ => eX R g1 aQ bs1 r 8 178 _ 15 W hW ae (fun _ _ => rfl) (Fg r _ A B C W ae (by rw [d9 r 256 8 ae ae]; exact l2)))
 rw [if_neg l2] at hx ⊢
 have l2' : lett r 8 = true:=by simpa using l2
 by_cases t2 : eZ ah (p,r) = true
 ·rw [if_pos t2];obtain ⟨k,y,h1,h2,h3,h4⟩:=GA t2
  exact oH R g cap bs p r aa an ac ah w h hb hah hne ae l1' 16 (fun W g1 aQ bs1 A B C beg hW hA hc1 hc2 hc3 => eX R g1 aQ bs1 r 8 178 _ 16 W hW ae (fun _ _ => rfl)
   (vF r p _ beg A B C aa an ac ah W ae (by rw [d9 r 256 8 ae ae]; exact l2') hA k ⟨y,h1,h2,h3⟩ h4 hc1 hc2 hc3))
 ·rw [if_neg t2] at hx; exact absurd rfl hx
theorem bP {w : World} {b i : Nat} {a : Array Value} {t : TypeId} {u : Value} (h : w.heap[b]? = some (.cells a t)) : (w.setCell ⟨b,i,none⟩ u).heap[b]? = some (.cells (a.setIfInBounds i u) t):=by
 have hl : b < w.heap.size:=by
  exact Dc
 rw [Array.getElem?_eq_getElem hl] at h
 simp only [Option.some.injEq] at h
 simp [World.setCell,hl,Array.getElem_modify,h]
theorem below_drewN (w : World) (m : Nat) : Below w.heap.size w (w.drewN m):=(Kept.drewN (fun _ => False) w m).to_below (Nat.le_refl _) (fun _ _ h => h)
theorem ag {W W' : World} {b o : Nat} {u : Value} (hb : Below W.heap.size W W') (h : W.cell? ⟨b,o,none⟩ = some u) : W'.cell? ⟨b,o,none⟩ = some u:=(hb.cell (by exact block_lt_of_cell h)).trans h
section
variable {v : Ev} {w1 w : World} {s : Cs}
abbrev NG : Value:=.tuple #[]
end
section
variable {v : Ev} {w1 w : World} {s : Cs}
def NI (s : Cs) (t : ByteArray) : Cs:={ s with st:=s.st.extract 0 (s.st.size - t.size) }
end
section
variable {v : Ev} {w1 w : World} {s : Cs}
def Sv (s : Cs) (t : ByteArray) : Cs:={ s with st:=Nt s.st t }
def Pz (s : Cs) (o : Opn) : Cs:={ s with dead:=true,st:=Nt o.B o.R }
end
theorem bN {B : Nat} {w W : World} {g i : Nat} {u : Value} (h : Below B w W) (hB : B ≤ g) (hs : B ≤ W.heap.size) : Below B w (W.setCell ⟨g,i,none⟩ u) :=
 h.trans ((ay W g i u).to_below hs (fun k hk e => ae))
section
variable {v : Ev} {w1 w : World} {s : Cs}
end
section
variable {v : Ev} {w1 w : World} {s : Cs}
def Q0 (s : Cs) (o : Opn) (j : Nat) : Int:=if j < (s.st.extract o.B.size s.st.size).size then 0 else 33
def MS (s : Cs) (o : Opn) (j : Nat) : ByteArray:=(s.st.extract o.B.size s.st.size).extract ((s.st.extract o.B.size s.st.size).size - 1 - j) ((s.st.extract o.B.size s.st.size).size - 1 - j + 1)
def ltr (c : Int) : ByteArray:=if c = 119 then ⟨#[119]⟩ else ⟨#[108]⟩
def na (op : Int) (y : ByteArray) : ByteArray:=if op = 18 ∨ op = 21 then ⟨#[]⟩ else y
def kE (op : Int) (y : ByteArray) : ByteArray:=if op = 18 ∨ op = 21 ∨ op = 20 then y else ⟨#[]⟩
theorem QF : Utf8.encode 119 = ⟨#[119]⟩:=aH
theorem QX : Utf8.encode 108 = ⟨#[108]⟩:=aH
end
theorem aO {w : World} {base : Nat} {e : TypeId} {size : Nat} {v : Value} {n : Nat} {xs : List Value} {B : Nat} (h : w.ownsRow base e size v n xs) (hB : v.ownBlock = some B) : B < w.heap.size:=by
 rcases h.2 with ⟨rfl,_⟩ | ⟨g,cp,cur,rfl,h2,h3,h4⟩
 ·simp [Value.ownBlock] at hB
 ·obtain rfl : g = B:=by simpa [Value.ownBlock] using hB
  rcases Nat.lt_or_ge g w.heap.size with hl | hl
  ·exact hl
  ·rw [Array.getElem?_eq_none hl] at h3; cases h3
theorem ny {aa : Option Addr} {j ac B : Nat} (h : (Value.slice aa j ac).ownBlock = some B) : ∃ a,aa = some a ∧ a.block = B:=by
 cases aa with
 | none => simp [Value.ownBlock] at h
 | some a => exact ⟨a,rfl,by simpa [Value.ownBlock] using h⟩
theorem ou {w : World} {base : Nat} {e : TypeId} {size : Nat} {aa : Option Addr} {j ac n : Nat} {xs : List Value} {a : Addr} (h : w.ownsRow base e size (.slice aa j ac) n xs) (ha : aa = some a) : (Value.slice aa j ac).ownBlock = some a.block:=by
 subst ha; simp [Value.ownBlock]
theorem sY {α : Type} (enc : α → List Int) {xs : List α} {j : Nat} {x : α} (hx : xs[j]? = some x) : (xs.take (j + 1)).flatMap enc = (xs.take j).flatMap enc ++ enc x:=by
 have hj:=ax hx;rw [List.take_succ_eq_append_getElem hj];rw [aN hj] at hx
 simp at hx
 simp [hx]
theorem bV {α : Type} (enc : α → List Int) (M : Nat) : ∀ (xs : List α),(∀ (j : Nat) x,xs[j]? = some x → (enc x).length ≤ M) → (xs.flatMap enc).length ≤ xs.length * M
 | [],_ => by simp
 | x :: r,h => by
  have h0:=h 0 x rfl
  have h1:=bV enc M r (fun j y hj => h (j + 1) y nY)
  simp only [List.flatMap_cons,List.length_append,List.length_cons]
  rw [Nat.add_mul,Nat.one_mul];omega
theorem flat_get {α : Type} {oc : α → List Value} {CS : Nat} (hoc : ∀ y,(oc y).length = CS) : ∀ (ys : List α) (i t : Nat) (y : α) (u : Value),ys[i]? = some y → (oc y)[t]? = some u → (ys.flatMap oc)[i * CS + t]? = some u
 | [],i,t,y,u,h,_ => by simp at h
 | z :: r,0,t,y,u,h,hu => by
  simp at h
  subst h;have ht:=ax hu
  simp only [List.flatMap_cons,Nat.zero_mul,Nat.zero_add]
  rw [List.getElem?_append_left ht];exact hu
 | z :: r,i + 1,t,y,u,h,hu => by
  have h' : r[i]? = some y:=jZ
  have:=flat_get hoc r i t y u h' hu
  simp only [List.flatMap_cons]
  rw [List.getElem?_append_right (by rw [hoc,Nat.add_mul]; omega),hoc]
  have e : (i + 1) * CS + t - CS = i * CS + t:=by rw [Nat.add_mul]; omega
  rw [e];exact this
theorem iV {w : World} {TE : TypeId} {CS : Nat} {aa : Option Addr} {j ac : Nat} {α : Type} {oc : α → List Value} {ys : List α} (hoc : ∀ y,(oc y).length = CS) (h : w.ownsRow 0 TE CS (.slice aa j ac) j (ys.flatMap oc)) {i t : Nat} {y : α} {u : Value} (hy : ys[i]? = some y) (hu : (oc y)[t]? = some u) :
  ∃ B,aa = some ⟨B,0,none⟩ ∧ w.cell? ⟨B,i * CS + t,none⟩ = some u:=by
 have hg:=flat_get hoc ys i t y u hy hu;have hl:=ax hg
 rcases h.2 with ⟨h1,h2⟩ | ⟨g,cp,cur,h1,_⟩
 ·have:=h.1
  rw [h2] at this;omega
 ·obtain ⟨e1,e2⟩:=Value.slice.inj h1;subst e1;refine ⟨g,rfl,?_⟩;have h' : gw w TE CS g j ac (ys.flatMap oc):=h
  rw [h'.cell _ (by rw [← h.1]; exact hl)]
  exact hg
theorem Stp.throw {R g g1 : Nat} {w W w5 : World} (h : Stp R g g1 w W) (hk : Kept (fun k => k = R ∨ k = g1) W w5) : Kept (fun k => k = R ∨ k = g) w w5:=by
 refine h.k.then hk (fun k hkl hh => ?_)
 rcases hh with rfl | rfl
 ·exact .inl rfl
 ·exact pS
def oY {α β : Type} (oc : β → List Value) (iv : α → Value) (ov : β → Value) (et k R g : Nat) (w : World) (K : Nat) (cs : Array Value) (bs : List Int) (n : Nat) (xs : List α) (enc : α → List Int) (Ok : α → β → Prop) (j : Nat) (x : α) : Prop :=
 ∀ (ys : List β) (W : World) (g1 aQ : Nat) (aa : Option Addr) (ac : Nat),ys.length = j → (∀ (i : Nat) y,ys[i]? = some y → ∃ x',xs[i]? = some x' ∧ Ok x' y) → Stp R g g1 w W → Wr W R g1 aQ (bs ++ au n ++ (xs.take j).flatMap enc) →
  W.ownsRow 0 et k (.slice aa j ac) j (ys.flatMap oc) → (∀ b,aa = some b → w.heap.size ≤ b.block ∧ b.block ≠ g1) →
  Calls Tryz.prog K (#[iv x,.slice aa j ac] ++ cs) W (fun e w' => ∃ y,e = .returned (ov y) ∧ Ok x y ∧ ∃ g' cap',Wr w' R g' cap' (bs ++ au n ++ (xs.take j).flatMap enc ++ enc x) ∧ Stp R g1 g' W w')
def El {α β : Type} (oc : β → List Value) (iv : α → Value) (et k R g : Nat) (w : World) (K : Nat) (cs : Array Value) (bs : List Int) (n : Nat) (xs : List α) (enc : α → List Int) (Ok : α → β → Prop) (j : Nat) (x : α) (er : Int) : Prop :=
 ∀ (ys : List β) (W : World) (g1 aQ : Nat) (aa : Option Addr) (ac : Nat),ys.length = j → (∀ (i : Nat) y,ys[i]? = some y → ∃ x',xs[i]? = some x' ∧ Ok x' y) → Stp R g g1 w W → Wr W R g1 aQ (bs ++ au n ++ (xs.take j).flatMap enc) →
  W.ownsRow 0 et k (.slice aa j ac) j (ys.flatMap oc) → (∀ b,aa = some b → w.heap.size ≤ b.block ∧ b.block ≠ g1) →
  Calls Tryz.prog K (#[iv x,.slice aa j ac] ++ cs) W (aR R g1 er W)
def pF {α β : Type} (oc : β → List Value) (et k R g : Nat) (w : World) (bs : List Int) (n : Nat) (xs : List α) (enc : α → List Int) (Ok : α → β → Prop) (m : Nat) (o i : Value) (wr : World) : Prop :=
 ∃ (j : Nat) (ys : List β) (aa : Option Addr) (ac g1 aQ : Nat),j ≤ m ∧ i = .int .i64 j ∧ o = .slice aa j ac ∧ ys.length = j ∧ (∀ (i : Nat) y,ys[i]? = some y → ∃ x,xs[i]? = some x ∧ Ok x y) ∧
   wr.ownsRow 0 et k (.slice aa j ac) j (ys.flatMap oc) ∧ (∀ b,aa = some b → w.heap.size ≤ b.block ∧ b.block ≠ g1) ∧ Wr wr R g1 aQ (bs ++ au n ++ (xs.take j).flatMap enc) ∧ Stp R g g1 w wr
def mF (f : Nat) {α β : Type} (oc : β → List Value) (iv : α → Value) (ov : β → Value) (At : World → Option Addr → Nat → List α → Prop) (et k : Nat) : Prop :=
 ∀ (R g cap : Nat) (bs : List Int) (ha : Option Addr) (n hc : Nat) (most : Int) (K : Nat) (cs : Array Value) (w : World) (xs : List α) (enc : α → List Int) (Ok : α → β → Prop) (M : Nat),
  Wr w R g cap bs → n ≤ 100000 → (n : Int) ≤ most → At w ha n xs → (∀ b off c,ha = some ⟨b,off,c⟩ → b ≠ R ∧ b ≠ g) →
  (∀ args w,(callFunc K args).run Tryz.prog w = .ok (.enter K args) w) → (∀ (j : Nat) x,xs[j]? = some x → (enc x).length ≤ M) → M ≤ 1000000 → bs.length + 200000000000 ≤ 1099511627776 →
  (∀ (j : Nat) x,xs[j]? = some x → oY oc iv ov et k R g w K cs bs n xs enc Ok j x) →
  Calls Tryz.prog f #[cW R,.slice ha n hc,.int .i64 most,.func (.func K) #[] cs] w fun e w' => ∃ (aa : Option Addr) (ac : Nat) (ys : List β),e = .returned (.slice aa n ac) ∧ ys.length = n ∧ (∀ (i : Nat) y,ys[i]? = some y → ∃ x,xs[i]? = some x ∧ Ok x y) ∧
   w'.ownsRow 0 et k (.slice aa n ac) n (ys.flatMap oc) ∧ ∃ g' cap',(∀ b,aa = some b → w.heap.size ≤ b.block ∧ b.block ≠ g') ∧ Wr w' R g' cap' (bs ++ au n ++ xs.flatMap enc) ∧ Stp R g g' w w'
def qH (f : Nat) {α β : Type} (oc : β → List Value) (iv : α → Value) (ov : β → Value) (At : World → Option Addr → Nat → List α → Prop) (et k : Nat) : Prop :=
 ∀ (R g cap : Nat) (bs : List Int) (ha : Option Addr) (n hc : Nat) (most : Int) (K : Nat) (cs : Array Value) (w : World) (xs : List α) (enc : α → List Int) (Ok : α → β → Prop) (M : Nat),
  Wr w R g cap bs → n ≤ 100000 → (n : Int) ≤ most → At w ha n xs → (∀ b off c,ha = some ⟨b,off,c⟩ → b ≠ R ∧ b ≠ g) →
  (∀ args w,(callFunc K args).run Tryz.prog w = .ok (.enter K args) w) → (∀ (j : Nat) x,xs[j]? = some x → (enc x).length ≤ M) → M ≤ 1000000 → bs.length + 200000000000 ≤ 1099511627776 →
  ∀ (k' : Nat) (xk : α) (er : Int),xs[k']? = some xk → (∀ (j : Nat) x,xs[j]? = some x → j < k' → oY oc iv ov et k R g w K cs bs n xs enc Ok j x) → El oc iv et k R g w K cs bs n xs enc Ok k' xk er →
  Calls Tryz.prog f #[cW R,.slice ha n hc,.int .i64 most,.func (.func K) #[] cs] w (aR R g er w)
theorem AZ {t : Nat} {z : Value} {s b : Nat} (h : (Tryz.prog.info? t).map (fun i => (i.zero,i.size,i.bytes)) = some (some z,s,b)) : ∃ i,Tryz.prog.info? t = some i ∧ i.zero = some z ∧ i.size = s ∧ i.bytes = b:=by
 cases hi : Tryz.prog.info? t with
 | none => rw [hi] at h; cases h
 | some i => rw [hi] at h; simp at h; exact ⟨i,rfl,h.1,h.2.1,h.2.2⟩
theorem NR : ∃ i,Tryz.prog.info? 62 = some i ∧ i.zero = some (.agg #[.string ⟨#[]⟩,.string ⟨#[]⟩]) ∧ i.size = 2 ∧ i.bytes = 32:=AZ aw
def iu (y : Sg) : List Value:=[.string y.1,.string y.2]
abbrev KA (x : Sg) : Value:=.agg #[.string x.1,.string x.2]
abbrev KT (y : Sg) : Value:=.agg #[.string y.1,.string y.2]
def eA (w : World) (a : Option Addr) (n : Nat) (xs : List Sg) : Prop :=
 xs.length = n ∧ (n = 0 ∨ ∃ b off,a = some ⟨b,off,none⟩ ∧ ∀ (j : Nat) x,xs[j]? = some x → w.cell? ⟨b,off + j * 2,none⟩ = some (.string x.1) ∧ w.cell? ⟨b,off + j * 2 + 1,none⟩ = some (.string x.2))
theorem eA.kept {S : Nat → Prop} {w w' : World} {a : Option Addr} {n : Nat} {xs : List Sg} (h : eA w a n xs) (hk : Kept S w w') (hS : ∀ b off c,a = some ⟨b,off,c⟩ → ¬ S b) : eA w' a n xs:=by
 exact zw
theorem vV (w : World) (y : Sg) : ∀ j u,(iu y)[j]? = some u → (w.alloc (aB y.1 y.2)).cell? ((⟨w.heap.size,0,none⟩ : Addr).add j) = some u:=by
 intro j u hj;have hlt:=ax hj;have hl : (iu y).length = 2:=rfl;rw [hl] at hlt;have hadd : (⟨w.heap.size,0,none⟩ : Addr).add j = ⟨w.heap.size,j,none⟩:=fZ;rw [hadd];have hb:=(MapKept.heap_alloc w (aB y.1 y.2)).1
 simp only [World.cell?,hb]
 simpa [iu] using hj
theorem tN (y : Sg) : ∀ u ∈ iu y,u.oneCell' = true:=by
 intro u hu
 simp [iu] at hu
 rcases hu with rfl | rfl <;> rfl
abbrev MD:=@oY Sg Sg iu KA KT 62 2
namespace LSig
abbrev oC0:=iu
abbrev cL (x : Sg) : Obj:=.cells #[.string x.1,.string x.2] 62
abbrev cM (y : Sg) : Obj:=.cells #[.string y.1,.string y.2] 62
theorem nC (w : World) (y : Sg) : ∀ j u,(iu y)[j]? = some u → (w.alloc (cM y)).cell? ((⟨w.heap.size,0,none⟩ : Addr).add j) = some u:=vV w y
theorem oC (y : Sg) : ∀ u ∈ iu y,u.oneCell' = true:=tN y
theorem uN : Tryz.prog.underlying 22 = some (.slice 62):=Tryz.underlying22
end LSig
open LSig in
theorem ze : mF 113 iu KA KT eA 62 2:=by
 intro R g cap bs ha n hc most K cs w xs enc Ok M h hn hm hmem hne hK hlen hM hb heach;have hmc:=bz;have hcc:=bQ;have HC:=hid (bK R g cap bs n most w h hm ae ae);have hRl:=h.lt;have hgl:=h.g_lt;have hxl:=hmem.1;have HM:=hid hmem;have HNE:=hid hne;have HE:=hid heach;obtain ⟨i0,hi,hz0,hz1,hz2⟩:=NR;clear h hmem heach hne
 go_enter Tryz.func113,Tryz.ntmps113
 go_wp2_with fail;refine HC.out.mono ?_;rintro e w2 ⟨rfl,g1,aQ,hw2,hs2⟩;have W2:=hid hw2;have S2:=hid hs2;clear hw2 hs2 HC hmc hcc;go_wp2_with fail
 go_loopw [9,17] (fun o i wr => pF oC0 62 2 R g w bs n xs enc Ok n o i wr) (fun _ i _ => n - (intOf i).toNat)
 case atStart => exact ⟨0,[],none,0,g1,aQ,ae,rfl,rfl,rfl,(fun i y h => eF),World.ownsRow_nil _ _ _ _,(fun b h => cE),fK,S2.out⟩
 case round =>
  exact I3
open LSig in
theorem AR : qH 113 iu KA KT eA 62 2:=by
 intro R g cap bs ha n hc most K cs w xs enc Ok M h hn hm hmem hne hK hlen hM hb k xk er hk heach hno;have hkn:=ax hk;have hmc:=bz;have hcc:=bQ;have HC:=hid (bK R g cap bs n most w h hm ae ae);have hRl:=h.lt;have hgl:=h.g_lt;have hxl:=hmem.1;have HM:=hid hmem;have HNE:=hid hne;have HE:=hid heach;have HN:=hid hno;obtain ⟨i0,hi,hz0,hz1,hz2⟩:=NR;clear h hmem heach hne hno
 go_enter Tryz.func113,Tryz.ntmps113
 go_wp2_with fail;refine HC.out.mono ?_;rintro e w2 ⟨rfl,g1,aQ,hw2,hs2⟩;have W2:=hid hw2;have S2:=hid hs2;clear hw2 hs2 HC hmc hcc;go_wp2_with fail
 go_loopw [9,17] (fun o i wr => pF oC0 62 2 R g w bs n xs enc Ok k o i wr) (fun _ i _ => n - (intOf i).toNat)
 case atStart => exact ⟨0,[],none,0,g1,aQ,ae,rfl,rfl,rfl,(fun i y h => eF),World.ownsRow_nil _ _ _ _,(fun b h => cE),fK,S2.out⟩
 case round =>
  exact LG
theorem uD (R g cap : Nat) (bs : List Int) (ha : Option Addr) (n hc : Nat) (most : Int) (f : Value) (w : World) (h : Wr w R g cap bs) (hm : most < (n : Int)) :
  Calls Tryz.prog 113 #[cW R,.slice ha n hc,.int .i64 most,f] w (aR R g 20 w):=by
 have hmc:=bz;have hcc:=bQ;have HC:=hid (dU R g cap bs n most w h hm);clear h
 go_enter Tryz.func113,Tryz.ntmps113
 exact jq
end Go.Proofs.YtepnnenohjfkbaaGreatDoor

/-
  Texts Wt Gen Pb Bd.
-/
import Derived.Lib.Builder
import Derived.Shelf.Strings.Builder1
import Derived.Test.YtheefojaplnnoaaGreatDoorProg
import Derived.Test.YtheefojaplnnoaaGreatDoorC00
import Derived.Test.YtheefojaplnnoaaGreatDoorC01
import Derived.Test.YtheefojaplnnoaaGreatDoorC02
set_option linter.unusedVariables false
set_option maxRecDepth 100000
set_option maxHeartbeats 16000000
namespace Go.Proofs.YtheefojaplnnoaaGreatDoor
open Go.RowKit
theorem gZ {w w1 w2 : World} (h : Below w.heap.size w w1) (h' : Below w1.heap.size w1 w2) : Below w.heap.size w w2:=h.trans (h'.mono h.size)
theorem Stp.ne {R g g' b : Nat} {w w' : World} (h : Stp R g g' w w') (hb : b < w.heap.size) (hn : b ≠ g) : b ≠ g':=by
 rcases h.m with rfl | h
 ·exact hn
 ·omega
theorem Wr.g_lt {w : World} {R g cap : Nat} {bs : List Int} (h : Wr w R g cap bs) : g < w.heap.size:=h.row.lt
theorem kP {fn : Func} {p : Tmp} {ty : TypeId} (h : fn.results = #[.cell p ty]) (tmps : Array Value) (P : Program) (w : World) :
  (results fn tmps).run P w = ((asAddr (tmps.getD p undef)).run P w).andThen fun a w₁ => (loadVar ty a).run P w₁:=by
 simp only [results,h]
 simp [Sem.run_bind,Result.andThen]
theorem az (w : World) (b o : Nat) (v : Value) : aP (fun k => k = b) w (w.setCell ⟨b,o,none⟩ v):=⟨rfl,rfl,rfl,by simp [World.setCell],fun k hk hs => Below.heap_setCell _ _ _ _ (by simpa using hs)⟩
theorem Wr.set {w : World} {R g cap : Nat} {bs : List Int} (h : Wr w R g cap bs) {b o : Nat} {v : Value} (h1 : b ≠ R) (h2 : b ≠ g) : Wr (w.setCell ⟨b,o,none⟩ v) R g cap bs:=h.kept (az w b o v) (Ne.symm h1) (Ne.symm h2)
theorem Stp.set {R g g' : Nat} {w w' : World} (h : Stp R g g' w w') {b o : Nat} {v : Value} (hb : w.heap.size ≤ b) : Stp R g g' w (w'.setCell ⟨b,o,none⟩ v) :=
 ⟨h.k.then (az w' b o v) (fun k hk hb' => ae),h.m⟩
theorem Stp.block {R g g' : Nat} {w w' : World} (h : Stp R g g' w w') {b : Nat} (hb : b < w.heap.size) (h1 : b ≠ R) (h2 : b ≠ g) : w'.heap[b]? = w.heap[b]?:=h.k.block b hb (by simp [h1,h2])
theorem bU {w : World} {b : Nat} {u v : Value} {t : TypeId} (h : w.heap[b]? = some (.cells #[u,v] t)) : w.cell? ⟨b,0,none⟩ = some u ∧ w.cell? ⟨b,1,none⟩ = some v ∧ w.frozen? ⟨b,0,none⟩ = false ∧ w.frozen? ⟨b,1,none⟩ = false:=by
 simp [World.cell?,World.frozen?,h]
def mS (w : World) (p r : ByteArray) (aa : Option Addr) (an ac : Nat) (n : Nat) : World :=
 (((w.alloc (aX p r)).alloc (jd aa an ac)).alloc (aX ⟨#[]⟩ ⟨#[]⟩)).alloc (bz n)
theorem lM (w : World) (p r : ByteArray) (aa : Option Addr) (an ac n : Nat) : Below w.heap.size w (mS w p r aa an ac n) ∧ (mS w p r aa an ac n).heap.size = w.heap.size + 4 ∧
  (mS w p r aa an ac n).cell? ⟨w.heap.size,0,none⟩ = some (.string p) ∧ (mS w p r aa an ac n).cell? ⟨w.heap.size,1,none⟩ = some (.string r) ∧
  (mS w p r aa an ac n).cell? ⟨w.heap.size + 1,0,none⟩ = some (.slice aa an ac) ∧ (mS w p r aa an ac n).cell? ⟨w.heap.size + 1 + 1 + 1,0,none⟩ = some (.int .i64 n) ∧ (mS w p r aa an ac n).heap[w.heap.size + 1 + 1]? = some (aX ⟨#[]⟩ ⟨#[]⟩):=by
 unfold mS;refine ⟨?_,ar,cE,cE,cE,cE,?_⟩;rotate_left
 ·have h1:=(MapKept.heap_alloc ((w.alloc (aX p r)).alloc (jd aa an ac)) (aX ⟨#[]⟩ ⟨#[]⟩)).1;have h2:=(ag (((w.alloc (aX p r)).alloc (jd aa an ac)).alloc (aX ⟨#[]⟩ ⟨#[]⟩)) (bz n)).block (w.heap.size + 1 + 1) ar;rw [h2]
  simpa using h1
 exact ((((Below.refl _ w).alloc (Nat.le_refl _) _).alloc bM _).alloc bM _).alloc bM _
theorem zn (R g cap : Nat) (bs : List Int) (p r : ByteArray) (aa : Option Addr) (an ac : Nat) (ah : List Sg) (w : World) (h : Wr w R g cap bs) (hb : bs.length + 100 ≤ 1099511627776)
  (hah : cf w aa an ah) (hne : ∀ b off c,aa = some ⟨b,off,c⟩ → b ≠ R ∧ b ≠ g) (hx : dF ah (p,r) = 0) :
  Calls Tryz.prog 133 #[cW R,.agg #[.string p,.string r],.slice aa an ac] w (nX R g bs (bQ (p,r)) (.agg #[.string p,.string r]) w):=by
 obtain ⟨s1,l1,s2,l2,t2⟩:=fW hx
 simp only at s1 l1 s2 l2 t2
 clear hx;obtain ⟨B0,z0,x0,x1,x2,x3,x4⟩:=lM w p r aa an ac bs.length;have H4:=hid (h.later B0);have HAH:=hid (hah.later B0);have hRl:=h.lt;have hgl:=h.g_lt;have u1:=eO p 8 s1;have u2:=eO r 8 s2;have hmp:=lq;have hcp:=pE;have hmt:=dB;have hct:=dY
 have c0 : (((w.alloc (aX p r)).alloc (jd aa an ac)).alloc (aX ⟨#[]⟩ ⟨#[]⟩)).cell? ⟨R,0,none⟩ = some (.slice (some ⟨g,0,none⟩) bs.length cap):=by
  exact sH
 have HW4 : (((w.alloc (aX p r)).alloc (jd aa an ac)).alloc (aX ⟨#[]⟩ ⟨#[]⟩)).alloc (bz bs.length) = mS w p r aa an ac bs.length:=rfl;generalize mS w p r aa an ac bs.length = W4 at *;have B4:=hid B0;clear h hah B0
 have HT1:=hid (dH R g cap bs p 8 183 #[] W4 H4.out ae ae ae (fun _ _ => rfl) (dA p bs.length W4 ae AG))
 go_enter Tryz.func133,Tryz.ntmps133
 go_wp2_with fail;refine (cY R _ _ _ _ c0).mono ?_;rintro e w1 ⟨rfl,rfl⟩;clear c0;go_wp2_with fail;refine HT1.out.mono ?_;rintro e w5 ⟨rfl,g1,cap1,hw5,hs5⟩;have y0:=hs5.cell x0 ae ae;have y1:=hs5.cell x1 ae ae;have y2:=hs5.cell x2 ae ae;have y3:=hs5.cell x3 ae ae;have hN1 : w.heap.size + 1 + 1 ≠ g1:=hs5.ne ae ae;have y4:=(hs5.block (b:=w.heap.size + 1 + 1) ae ae ae).trans x4;have hl5:=block_lt_of_cell y3;have hl5':=block_lt_of_cell y1;have B6:=hid (ag w5 (cK p));have N6:=hid (fE w5 (.string p) 9);have W5:=hid hw5;have S5:=hid ((Stp.of_below B4.out).trans hs5)
 have A5:=hid (HAH.out.kept hs5.k (fun b off c ha => by have:=hne b off c ha; simp; omega))
 clear HT1 hw5 hs5 x0 x1 x2 x3 H4 HW4
 have HT2:=hid (dH R g1 cap1 (bs ++ lC p) r 8 184 #[.pointer (some ⟨w.heap.size + 1,0,none⟩),.pointer (some ⟨w5.heap.size,0,none⟩),.pointer (some ⟨w.heap.size + 1 + 1 + 1,0,none⟩)] _ (W5.out.later B6.out) ae ae aL (fun _ _ => rfl)
  (xV r p _ bs.length (w.heap.size + 1) w5.heap.size (w.heap.size + 1 + 1 + 1) aa an ac ah _ ae (by rw [eZ r 256 8 ae s2]; exact l2) (A5.out.later B6.out) t2 ((B6.out.cell (by exact block_lt_of_cell y2)).trans y2) N6.out ((B6.out.cell (by exact hl5)).trans y3)))
 go_wp2_with fail;refine HT2.out.mono ?_;rintro e w7 ⟨rfl,g2,cap2,hw7,hs7⟩;have W7:=hid hw7;have S7:=hid ((S5.out.trans (Stp.of_below B6.out)).trans hs7)
 have q0:=hs7.cell N6.out ae (by have:=W5.out.g_lt; omega)
 have q1:=block_lt_of_cell q0;have hz6 : (w5.alloc (cK p)).heap.size = w5.heap.size + 1:=ar;have q2:=(hs7.block (b:=w.heap.size + 1 + 1) ae ae hN1).trans ((B6.out.block _ ae).trans y4);obtain ⟨q3,q4,q5,q6⟩:=bU q2;have hN2 : w.heap.size + 1 + 1 ≠ g2:=hs7.ne ae hN1;clear hw7 hs7 HT2 y0 y1 y2 y3 y4 q2;go_wp2_with fail;refine bodyPost_ret (v:=.agg #[.string p,.string r]) ?_ rfl ⟨rfl,g2,cap2,?_,?_⟩
 ·exact fF
 ·have:=(W7.out.set (b:=w.heap.size + 1 + 1) (o:=0) (v:=.string p) ae hN2).set (b:=w.heap.size + 1 + 1) (o:=1) (v:=.string r) ae hN2
  simpa [bQ,lC,List.append_assoc] using this
 ·exact (S7.out.set ae).set ae
theorem ra (R g cap : Nat) (bs : List Int) (p r : ByteArray) (aa : Option Addr) (an ac : Nat) (w : World) (h : Wr w R g cap bs) (x : Int)
  (ht : ∀ W,Wr W R g cap bs → Calls Tryz.prog 323 #[.pointer (some ⟨R,0,none⟩),.string p,.int .i64 8,.func (.func 183) #[] #[]] W (aJ R g x W)) :
  Calls Tryz.prog 133 #[cW R,.agg #[.string p,.string r],.slice aa an ac] w (aJ R g x w):=by
 obtain ⟨B0,z0,x0,x1,x2,x3,x4⟩:=lM w p r aa an ac bs.length;have H4:=hid (h.later B0);have hRl:=h.lt;have hgl:=h.g_lt;have hmp:=lq;have hcp:=pE;have hmt:=dB;have hct:=dY
 have c0 : (((w.alloc (aX p r)).alloc (jd aa an ac)).alloc (aX ⟨#[]⟩ ⟨#[]⟩)).cell? ⟨R,0,none⟩ = some (.slice (some ⟨g,0,none⟩) bs.length cap):=by
  exact sH
 have HW4 : (((w.alloc (aX p r)).alloc (jd aa an ac)).alloc (aX ⟨#[]⟩ ⟨#[]⟩)).alloc (bz bs.length) = mS w p r aa an ac bs.length:=rfl;generalize mS w p r aa an ac bs.length = W4 at *;have B4:=hid B0;clear h B0;have HT1:=hid (ht W4 H4.out);clear ht
 go_enter Tryz.func133,Tryz.ntmps133
 go_wp2_with fail;refine (cY R _ _ _ _ c0).mono ?_;rintro e w1 ⟨rfl,rfl⟩;clear c0;go_wp2_with fail;refine HT1.out.mono ?_;rintro e w5 ⟨⟨q,rfl⟩,hk⟩;exact ⟨rfl,⟨q,rfl⟩,(bA B4.out).trans hk⟩
theorem nE (R g cap : Nat) (bs : List Int) (p r : ByteArray) (aa : Option Addr) (an ac : Nat) (ah : List Sg) (w : World) (h : Wr w R g cap bs) (hb : bs.length + 100 ≤ 1099511627776)
  (hah : cf w aa an ah) (hne : ∀ b off c,aa = some ⟨b,off,c⟩ → b ≠ R ∧ b ≠ g) (s1 : p.size ≤ 8) (l1 : bH p 8 = true) (x : Int)
  (ht : ∀ W g1 cap1 bs1 A B C beg,Wr W R g1 cap1 bs1 → cf W aa an ah → W.cell? ⟨A,0,none⟩ = some (.slice aa an ac) → W.cell? ⟨B,0,none⟩ = some (.string p) → W.cell? ⟨C,0,none⟩ = some (.int .i64 beg) →
   Calls Tryz.prog 323 #[.pointer (some ⟨R,0,none⟩),.string r,.int .i64 8,.func (.func 184) #[] #[.pointer (some ⟨A,0,none⟩),.pointer (some ⟨B,0,none⟩),.pointer (some ⟨C,0,none⟩)]] W (aJ R g1 x W)) :
  Calls Tryz.prog 133 #[cW R,.agg #[.string p,.string r],.slice aa an ac] w (aJ R g x w):=by
 obtain ⟨B0,z0,x0,x1,x2,x3,x4⟩:=lM w p r aa an ac bs.length;have H4:=hid (h.later B0);have HAH:=hid (hah.later B0);have hRl:=h.lt;have hgl:=h.g_lt;have u1:=eO p 8 s1;have hmp:=lq;have hcp:=pE;have hmt:=dB;have hct:=dY
 have c0 : (((w.alloc (aX p r)).alloc (jd aa an ac)).alloc (aX ⟨#[]⟩ ⟨#[]⟩)).cell? ⟨R,0,none⟩ = some (.slice (some ⟨g,0,none⟩) bs.length cap):=by
  exact sH
 have HW4 : (((w.alloc (aX p r)).alloc (jd aa an ac)).alloc (aX ⟨#[]⟩ ⟨#[]⟩)).alloc (bz bs.length) = mS w p r aa an ac bs.length:=rfl;generalize mS w p r aa an ac bs.length = W4 at *;have B4:=hid B0;clear h hah B0
 have HT1:=hid (dH R g cap bs p 8 183 #[] W4 H4.out ae ae ae (fun _ _ => rfl) (dA p bs.length W4 ae AG))
 have HT:=hid ht;clear ht
 go_enter Tryz.func133,Tryz.ntmps133
 go_wp2_with fail;refine (cY R _ _ _ _ c0).mono ?_;rintro e w1 ⟨rfl,rfl⟩;clear c0;go_wp2_with fail;refine HT1.out.mono ?_;rintro e w5 ⟨rfl,g1,cap1,hw5,hs5⟩;have y0:=hs5.cell x0 ae ae;have y1:=hs5.cell x1 ae ae;have y2:=hs5.cell x2 ae ae;have y3:=hs5.cell x3 ae ae;have hN1 : w.heap.size + 1 + 1 ≠ g1:=hs5.ne ae ae;have y4:=(hs5.block (b:=w.heap.size + 1 + 1) ae ae ae).trans x4;have hl5:=block_lt_of_cell y3;have hl5':=block_lt_of_cell y1;have B6:=hid (ag w5 (cK p));have N6:=hid (fE w5 (.string p) 9);have W5:=hid hw5;have S5:=hid ((Stp.of_below B4.out).trans hs5)
 have A5:=hid (HAH.out.kept hs5.k (fun b off c ha => by have:=hne b off c ha; simp; omega))
 clear HT1 hw5 hs5 x0 x1 x2 x3 H4 HW4
 have HT2:=hid (HT.out _ g1 cap1 _ (w.heap.size + 1) w5.heap.size (w.heap.size + 1 + 1 + 1) bs.length (W5.out.later B6.out) (A5.out.later B6.out) ((B6.out.cell (by exact block_lt_of_cell y2)).trans y2) N6.out ((B6.out.cell (by exact hl5)).trans y3))
 clear HT;go_wp2_with fail;refine HT2.out.mono ?_;rintro e w7 ⟨⟨q,rfl⟩,hk⟩;refine ⟨rfl,⟨q,rfl⟩,?_⟩
 refine (S5.out.k.trans (bA B6.out)).then hk (fun k hkl hh => ?_)
 rcases hh with rfl | rfl
 ·exact .inl rfl
 ·rcases S5.out.m with h | h
  ·exact .inr h
  ·omega
theorem CO (R g cap : Nat) (bs : List Int) (p r : ByteArray) (aa : Option Addr) (an ac : Nat) (ah : List Sg) (w : World) (h : Wr w R g cap bs) (hb : bs.length + 100 ≤ 1099511627776)
  (hah : cf w aa an ah) (hne : ∀ b off c,aa = some ⟨b,off,c⟩ → b ≠ R ∧ b ≠ g) (hx : dF ah (p,r) ≠ 0) :
  Calls Tryz.prog 133 #[cW R,.agg #[.string p,.string r],.slice aa an ac] w (aJ R g (dF ah (p,r)) w):=by
 unfold dF at hx ⊢
 simp only at hx ⊢
 by_cases s1 : 8 < p.size
 ·rw [if_pos s1]
  exact ra R g cap bs p r aa an ac w h 13 (fun W hW => fK R g cap bs p 8 _ W hW ae)
 rw [if_neg s1] at hx ⊢
 by_cases l1 : bH p 8 = false
 ·rw [if_pos l1]
  exact ra R g cap bs p r aa an ac w h 15 (fun W hW => eT R g cap bs p 8 183 #[] 15 W hW ae (fun _ _ => rfl) (iH p bs.length W ae (by rw [eZ p 256 8 ae ae]; exact l1)))
 rw [if_neg l1] at hx ⊢
 have l1' : bH p 8 = true:=by simpa using l1
 by_cases s2 : 8 < r.size
 ·rw [if_pos s2]
  exact nE R g cap bs p r aa an ac ah w h hb hah hne ae l1' 13 (fun W g1 cap1 bs1 A B C beg hW _ _ _ _ => fK R g1 cap1 bs1 r 8 _ W hW ae)
 rw [if_neg s2] at hx ⊢
 by_cases l2 : bH r 8 = false
 ·rw [if_pos l2]
  exact nE R g cap bs p r aa an ac ah w h hb hah hne ae l1' 15 (fun W g1 cap1 bs1 A B C beg hW _ _ _ _ => eT R g1 cap1 bs1 r 8 184 _ 15 W hW ae (fun _ _ => rfl) (Dn r _ A B C W ae (by rw [eZ r 256 8 ae ae]; exact l2)))
 rw [if_neg l2] at hx ⊢
 have l2' : bH r 8 = true:=by simpa using l2
 by_cases t2 : iw ah (p,r) = true
 ·rw [if_pos t2];obtain ⟨k,y,h1,h2,h3,h4⟩:=Gs t2
  exact nE R g cap bs p r aa an ac ah w h hb hah hne ae l1' 16 (fun W g1 cap1 bs1 A B C beg hW hA hc1 hc2 hc3 => eT R g1 cap1 bs1 r 8 184 _ 16 W hW ae (fun _ _ => rfl)
   (tX r p _ beg A B C aa an ac ah W ae (by rw [eZ r 256 8 ae ae]; exact l2') hA k ⟨y,h1,h2,h3⟩ h4 hc1 hc2 hc3))
 ·rw [if_neg t2] at hx; exact absurd rfl hx
theorem aj {w : World} {b i : Nat} {a : Array Value} {t : TypeId} (h : w.heap[b]? = some (.cells a t)) : w.cell? ⟨b,i,none⟩ = a[i]?:=by
 simp [World.cell?,h]
theorem aK {w : World} {b i : Nat} {a : Array Value} {t : TypeId} (h : w.heap[b]? = some (.cells a t)) : w.frozen? ⟨b,i,none⟩ = false:=by
 simp [World.frozen?,h]
theorem bT {w : World} {b i : Nat} {a : Array Value} {t : TypeId} {u : Value} (h : w.heap[b]? = some (.cells a t)) : (w.setCell ⟨b,i,none⟩ u).heap[b]? = some (.cells (a.setIfInBounds i u) t):=by
 have hl : b < w.heap.size:=by
  exact zW
 rw [Array.getElem?_eq_getElem hl] at h
 simp only [Option.some.injEq] at h
 simp [World.setCell,hl,Array.getElem_modify,h]
theorem iM (w : World) (m : Nat) : Below w.heap.size w (w.drewN m):=(aP.drewN (fun _ => False) w m).to_below (Nat.le_refl _) (fun _ _ h => h)
theorem aw {W W' : World} {b o : Nat} {u : Value} (hb : Below W.heap.size W W') (h : W.cell? ⟨b,o,none⟩ = some u) : W'.cell? ⟨b,o,none⟩ = some u:=(hb.cell (by exact block_lt_of_cell h)).trans h
theorem lG {B : Nat} {w w1 w2 : World} {S : Nat → Prop} (h : Below B w w1) (hk : aP S w1 w2) (hB : B ≤ w1.heap.size) (hs : ∀ k,S k → B ≤ k) : Below B w w2 :=
 ⟨hk.os.trans h.os,hk.tape.trans h.tape,hk.output.trans h.output,Nat.le_trans h.size hk.size,fun k hx => (hk.block k ae (fun x => by have:=hs k x; omega)).trans (h.block k hx)⟩
theorem aS {w : World} {b : Nat} {o : Obj} (h : w.heap[b]? = some o) : b < w.heap.size:=by
 exact zW
theorem ak {w w' : World} {b : Nat} {o : Obj} (hb : Below w.heap.size w w') (h : w.heap[b]? = some o) : w'.heap[b]? = some o:=(hb.block b (aS h)).trans h
def thL (ln : Int) : Ending:=.panicked [{ v:=.iface 119 (.agg #[.int .i64 ln]),recovered:=false }]
theorem aB (R : Nat) (w : World) : Calls Tryz.prog 120 #[.pointer (some ⟨R,0,none⟩),.bool true] w fun e w' => e = .returned (.tuple #[]) ∧ w' = w:=by
 go_enter Tryz.func120,Tryz.ntmps120
 exact mE
theorem kH (R : Nat) (ln : Int) (w : World) (h : w.cell? ⟨R,9,none⟩ = some (.int .i64 ln)) : Calls Tryz.prog 120 #[.pointer (some ⟨R,0,none⟩),.bool false] w fun e w' => e = thL ln ∧ w' = w:=by
 go_enter Tryz.func120,Tryz.ntmps120
 go_wp2_with fail;exact ⟨rfl,rfl,rfl⟩
theorem vS (R : Nat) (f p q : Int) (w : World) (h : w.cell? ⟨R,10,none⟩ = some (.int .i64 p)) (hf : w.frozen? ⟨R,10,none⟩ = false) (h1 : f ≤ p) (h2 : p ≤ q) :
  Calls Tryz.prog 168 #[.pointer (some ⟨R,0,none⟩),.int .i64 f,.int .i64 q] w fun e w' => e = .returned (.tuple #[]) ∧ w' = w.setCell ⟨R,10,none⟩ (.int .i64 q):=by
 have HM:=hid (aB R w)
 go_enter Tryz.func168,Tryz.ntmps168
 go_wp2_with fail;refine HM.out.mono ?_;rintro e w1 ⟨rfl,hw⟩;have hw2:=hw.symm;subst hw2;exact mE
theorem Au (R : Nat) (f p q ln : Int) (w : World) (h9 : w.cell? ⟨R,9,none⟩ = some (.int .i64 ln)) (h : w.cell? ⟨R,10,none⟩ = some (.int .i64 p)) (hn : ¬ (f ≤ p ∧ p ≤ q)) :
  Calls Tryz.prog 168 #[.pointer (some ⟨R,0,none⟩),.int .i64 f,.int .i64 q] w fun e w' => e = thL ln ∧ w' = w:=by
 have HM:=hid (kH R ln w h9)
 by_cases h1 : f ≤ p
 ·have h2 : ¬ p ≤ q:=fun h2 => hn ⟨h1,h2⟩
  exact zT
 ·exact zT
theorem Eg (R : Nat) (f p q : Int) (w : World) (h : w.cell? ⟨R,10,none⟩ = some (.int .i64 p)) (hf : w.frozen? ⟨R,10,none⟩ = false) (h1 : f ≤ p) (h2 : p < q) :
  Calls Tryz.prog 167 #[.pointer (some ⟨R,0,none⟩),.int .i64 f,.int .i64 q] w fun e w' => e = .returned (.tuple #[]) ∧ w' = w.setCell ⟨R,10,none⟩ (.int .i64 q):=by
 have HM:=hid (aB R w);have HN:=hid (vS R f p q w h hf h1 (Int.le_of_lt h2))
 go_enter Tryz.func167,Tryz.ntmps167
 go_wp2_with fail;refine HM.out.mono ?_;rintro e w1 ⟨rfl,hw⟩;have hw2:=hw.symm;subst hw2;go_wp2_with fail;refine HN.out.mono ?_;rintro e w2 ⟨rfl,hw⟩;exact mE
theorem Kr (R : Nat) (f p q ln : Int) (w : World) (h9 : w.cell? ⟨R,9,none⟩ = some (.int .i64 ln)) (h : w.cell? ⟨R,10,none⟩ = some (.int .i64 p)) (hn : ¬ (f ≤ p ∧ p < q)) :
  Calls Tryz.prog 167 #[.pointer (some ⟨R,0,none⟩),.int .i64 f,.int .i64 q] w fun e w' => e = thL ln ∧ w' = w:=by
 by_cases h1 : p < q
 ·have HM:=hid (aB R w)
  have HN:=hid (Au R f p q ln w h9 h (fun x => hn ⟨x.1,h1⟩))
  go_enter Tryz.func167,Tryz.ntmps167
  go_wp2_with fail;refine HM.out.mono ?_;rintro e w1 ⟨rfl,hw⟩;have hw2:=hw.symm;subst hw2;go_wp2_with fail;refine HN.out.mono ?_;rintro e w2 ⟨rfl,hw⟩;exact ⟨rfl,rfl,hw⟩
 ·have HM:=hid (kH R ln w h9)
  go_enter Tryz.func167,Tryz.ntmps167
  exact s8
theorem KS (R : Nat) (p : Int) (w : World) (h : w.cell? ⟨R,10,none⟩ = some (.int .i64 p)) (h1 : 5 ≤ p) :
  Calls Tryz.prog 57 #[.pointer (some ⟨R,0,none⟩)] w fun e w' => e = .returned (.tuple #[]) ∧ w' = w:=by
 have HM:=hid (aB R w)
 go_enter Tryz.func57,Tryz.ntmps57
 go_wp2_with fail;refine HM.out.mono ?_;rintro e w1 ⟨rfl,hw⟩;exact mE
theorem M6 (R : Nat) (p ln : Int) (w : World) (h9 : w.cell? ⟨R,9,none⟩ = some (.int .i64 ln)) (h : w.cell? ⟨R,10,none⟩ = some (.int .i64 p)) (h1 : ¬ 5 ≤ p) :
  Calls Tryz.prog 57 #[.pointer (some ⟨R,0,none⟩)] w fun e w' => e = thL ln ∧ w' = w:=by
 have HM:=hid (kH R ln w h9)
 go_enter Tryz.func57,Tryz.ntmps57
 exact s8
def fI (x : Nat) : Bool:=x == 9 || x == 13 || x == 32
theorem Eu (x : Nat) (w : World) : Calls Tryz.prog 118 #[.int .i32 x] w fun e w' => e = .returned (.bool (fI x)) ∧ w' = w:=by
 unfold fI
 by_cases h9 : x = 9
 ·subst h9;exact oZ
 ·by_cases h13 : x = 13
  ·subst h13;exact oZ
  ·by_cases h32 : x = 32
   ·subst h32;exact oZ
   ·have e9 : ((x : Int) == 9) = false:=aL;have e13 : ((x : Int) == 13) = false:=aL;have e32 : ((x : Int) == 32) = false:=aL;have f9 : (x == 9) = false:=aL;have f13 : (x == 13) = false:=aL;have f32 : (x == 32) = false:=aL;rw [f9,f13,f32];exact oZ
def BT (T : TypeId) : Prop:=liesAt Tryz.prog Tryz.prog.depth T (2 / Tryz.prog.cellsOf T) 0 94 1 = true ∧ T ≠ 5
theorem OI : BT 94:=⟨ai,aq⟩
theorem Nt : BT 96:=⟨ai,aq⟩
def cL (b : Nat) (w w' : World) : Prop:=w.heap.size ≤ w'.heap.size ∧ ∀ k cs e f,w.heap[k]? = some (.cells cs e f) → e ≠ 5 → k ≠ b → w'.heap[k]? = w.heap[k]?
theorem cL.refl (b : Nat) (w : World) : cL b w w:=⟨Nat.le_refl _,fun _ _ _ _ _ _ _ => rfl⟩
theorem cL.trans {b : Nat} {w w1 w2 : World} (h : cL b w w1) (h' : cL b w1 w2) : cL b w w2 :=
 ⟨Nat.le_trans h.1 h'.1,fun k cs e f hk he hb => (h'.2 k cs e f ((h.2 k cs e f hk he hb).trans hk) he hb).trans (h.2 k cs e f hk he hb)⟩
theorem od {w : World} {k : Nat} {o : Obj} (h : w.heap[k]? = some o) : k < w.heap.size:=by
 rcases Nat.lt_or_ge k w.heap.size with h' | h'
 ·exact h'
 ·simp [Array.getElem?_eq_none h'] at h
theorem cL.of_below {b : Nat} {w w' : World} (h : Below w.heap.size w w') : cL b w w':=⟨h.size,fun k cs e f hk he hb => h.block k (od hk)⟩
theorem cL.set (b o : Nat) (w : World) (v : Value) : cL b w (w.setCell ⟨b,o,none⟩ v):=⟨by simp [World.setCell],fun k cs e f hk he hb => Below.heap_setCell _ _ _ _ (fun x => hb x)⟩
theorem cL.cell {b : Nat} {w w' : World} (h : cL b w w') {k o : Nat} {cs : Array Value} {e : TypeId} {f : Nat × Nat} (hk : w.heap[k]? = some (.cells cs e f)) (he : e ≠ 5) (hb : k ≠ b) : w'.cell? ⟨k,o,none⟩ = w.cell? ⟨k,o,none⟩:=kT (h.2 k cs e f hk he hb) o
theorem cL.grown {b base n : Nat} {v : Value} {xs : List Value} {w w' : World} (hown : w.ownsRow base 5 1 v n xs) (hg : w.grownBy w' v.ownBlock) : cL b w w':=by
 refine ⟨hg.size,fun k cs e f hk he hb => hg.block k (od hk) fun x => ?_⟩
 rcases hown.2 with ⟨hv,_⟩ | ⟨g,cap,cur,hv,_,hgc,_⟩
 ·rw [hv] at x; simp [Value.ownBlock] at x
 ·rw [hv] at x
  simp [Value.ownBlock] at x
  subst x;rw [hk] at hgc
  simp at hgc
  exact he hgc.2.1
theorem GQ : (Tryz.prog.info? 94).map (·.size) = some 2:=ai
theorem info5 : (Tryz.prog.info? 5).map (fun i => (i.zero,i.size,i.bytes)) = some (some (.int .u8 0),1,1):=ai
theorem u92 : Tryz.prog.underlying 92 = some (.pointer 94):=ai
theorem OT : Tryz.prog.underlying 292 = some .unsafePointer:=ai
theorem u63 : Tryz.prog.underlying 63 = some (.slice 5):=ai
theorem u9 : Tryz.prog.underlying 9 = some .string:=ai
theorem cells5 : Tryz.prog.cellsOf 5 = 1:=ai
theorem qJ (b : Nat) (w : World) (h0 : w.cell? ⟨b,0,none⟩ = some (.pointer (some ⟨b,0,none⟩))) :
  Calls Tryz.prog 202 #[.pointer (some ⟨b,0,none⟩)] w fun e w' => e = .returned (.tuple #[]) ∧ w' = w:=by
 obtain ⟨j,hj,_⟩:=Option.map_eq_some_iff.1 GQ
 go_enter Tryz.func202,Tryz.ntmps202
 go_wp2;rw [Lib.run_neq_ptr_same w _ u92 hj];go_wp2;go_end0;exact ⟨rfl,rfl⟩
theorem pC {T : TypeId} (hT : BT T) (b : Nat) (w : World) (h0 : w.cell? ⟨b,0,none⟩ = some (.pointer none)) (hsh : w.shape? b = some (T,2)) (hfz : w.frozen? ⟨b,0,none⟩ = false) :
  Calls Tryz.prog 202 #[.pointer (some ⟨b,0,none⟩)] w fun e w' => e = .returned (.tuple #[]) ∧ w' = w.setCell ⟨b,0,none⟩ (.pointer (some ⟨b,0,none⟩)):=by
 obtain ⟨j,hj,hjs⟩:=Option.map_eq_some_iff.1 GQ
 go_enter Tryz.func202,Tryz.ntmps202
 go_wp2
 rw [Lib.run_to_unsafe w ⟨b,0,none⟩ u92 OT hj (by rw [hjs]; decide) hsh (Nat.zero_lt_succ 1)]
 simp only [Result.andThen]
 rw [Oper.upon_value];go_wp2;rw [run_callFunc_extern Tryz.func232 ai ai ai (e:=Extern.AbiNoEscape.same) ai];rw [Lib.run_noEscape]
 simp only [Result.andThen]
 rw [Oper.upon_value];go_wp2;rw [Lib.run_from_unsafe w ⟨b,0,none⟩ OT u92 hj hsh hT.1]
 simp only [Result.andThen]
 rw [Oper.upon_value];go_wp2;go_end0;exact ⟨rfl,rfl⟩
theorem wh {T : TypeId} (hT : BT T) (B b : Nat) (bs : List Value) (w : World) (h : Lib.IsBuilder T 5 B b bs w) :
  Calls Tryz.prog 202 #[.pointer (some ⟨b,0,none⟩)] w fun e w' => e = .returned (.tuple #[]) ∧ (Lib.BuilderAt T 5 B b (.pointer (some ⟨b,0,none⟩)) bs w' ∧ Below B w w' ∧ cL b w w'):=by
 rcases h with h | h
 ·refine (pC hT b w h.cell0 h.shape h.frozen0).mono ?_;rintro e w' ⟨rfl,rfl⟩;exact ⟨rfl,h.used _,(Below.refl B w).setCell (p:=⟨b,0,none⟩) h.1 _,cL.set b 0 w _⟩
 ·refine (qJ b w h.cell0).mono ?_;rintro e w' ⟨rfl,rfl⟩;exact ⟨rfl,h,Below.refl B _,cL.refl b _⟩
theorem lH {T : TypeId} (hT : BT T) (B b : Nat) (bs : List Value) (c : Int) (w : World) (h : Lib.IsBuilder T 5 B b bs w) (hlen : bs.length + 1 ≤ 140737488355328) (hBw : B ≤ w.heap.size) :
  Calls Tryz.prog 154 #[.pointer (some ⟨b,0,none⟩),.int .u8 c] w fun e w' => e = .returned .nilIface ∧ (Lib.BuilderAt T 5 B b (.pointer (some ⟨b,0,none⟩)) (bs ++ [.int .u8 c]) w' ∧ Below B w w' ∧ cL b w w'):=by
 obtain ⟨i0,hi,hz0,hz1,hz2⟩:=info_parts info5
 go_enter Tryz.func154,Tryz.ntmps154
 go_wp2_with (go_at_call 202; refine (wh hT B b bs _ h).mono ?_)
 rintro e w1 ⟨rfl,h1,hb1,hh1⟩;obtain ⟨hB,v,hbk,hown,hne⟩:=h1;have c0 : w1.cell? ⟨b,0,none⟩ = some (.pointer (some ⟨b,0,none⟩)):=tG;have c1 : w1.cell? ⟨b,1,none⟩ = some v:=tG
 go_wp2_with (at_builtin; refine wpList_append_own _ rfl _ _ 63 rfl B 5 i0 (.int .u8 0) 1 1 u63 hi hz0 hz1 hz2 rfl aq _ _ _ rfl (hown.alloc _) ⟨w1.heap.size,0,none⟩ 1 1 [.int .u8 c] rfl rfl ?c1 ?c2 ?c3 ?c4 ?c5 ?_)
 case c1 =>
  exact sZ
 case c2 => intro u hu; simp at hu; subst hu; rfl
 case c3 => unfold maxLen; omega
 case c4 => omega
 case c5 => have:=hb1.size; simp; omega
 intro v' w2 hown' hgrow _
 have hlt : b < w1.heap.size:=by
  exact Ak
 have hb2 : w2.heap[b]? = some (.cells #[.pointer (some ⟨b,0,none⟩),v] T (0,0)):=by
  rw [hgrow.block b aL (fun e => hne e.symm),Lib.alloc_old w1 _ b hlt]
  exact hbk
 have d0 : w2.cell? ⟨b,0,none⟩ = some (.pointer (some ⟨b,0,none⟩)):=su;have d1 : w2.cell? ⟨b,1,none⟩ = some v:=su;have f1 : w2.frozen? ⟨b,1,none⟩ = false:=Lib.frozen_of_heap hb2 1
 obtain ⟨g,cap,rfl⟩ : ∃ g cap,v' = .slice (some ⟨g,0,none⟩) (bs.length + 1) cap:=by
  rcases hown'.2 with ⟨_,h0⟩ | ⟨g,cap,cur,hv,_⟩
  ·omega
  ·exact ⟨g,cap,hv⟩
 go_wp2;go_ret;refine ⟨rfl,?_,?_,?_⟩
 ·exact Lib.BuilderAt.put (T:=T) (e:=5) hB hb2 (bs':=bs ++ [.int .u8 c]) (by simpa using hown') hT.2
 ·exact ((hb1.alloc (by have:=hb1.size; omega) _).grown hgrow (by have:=hb1.size; simp; omega) (fun k hk => (hown.lt k hk).1)).setCell (p:=⟨b,1,none⟩) hB _
 ·exact hh1.trans (((cL.of_below ((Below.refl _ w1).alloc (Nat.le_refl _) _)).trans (cL.grown (hown.alloc _) hgrow)).trans (cL.set b 1 _ _))
theorem zx {T : TypeId} (hT : BT T) (B b : Nat) (bs : List Value) (s : ByteArray) (w : World) (h : Lib.IsBuilder T 5 B b bs w) (hlen : bs.length + s.size ≤ 140737488355328) (hBw : B ≤ w.heap.size) :
  Calls Tryz.prog 152 #[.pointer (some ⟨b,0,none⟩),.string s] w fun e w' => e = .returned (.tuple #[.int .i64 s.size,.nilIface]) ∧ (Lib.BuilderAt T 5 B b (.pointer (some ⟨b,0,none⟩)) (bs ++ Lib.strCells s) w' ∧ Below B w w' ∧ cL b w w'):=by
 obtain ⟨i0,hi,hz0,hz1,hz2⟩:=info_parts info5
 go_enter Tryz.func152,Tryz.ntmps152
 go_wp2_with (go_at_call 202; refine (wh hT B b bs _ h).mono ?_)
 rintro e w1 ⟨rfl,h1,hb1,hh1⟩;obtain ⟨hB,v,hbk,hown,hne⟩:=h1;have c0 : w1.cell? ⟨b,0,none⟩ = some (.pointer (some ⟨b,0,none⟩)):=tG;have c1 : w1.cell? ⟨b,1,none⟩ = some v:=tG
 go_wp2_with (at_builtin; refine Lib.wpList_append_own_string _ rfl _ _ 63 9 rfl B 5 i0 u63 u9 hi hz0 hz1 hz2 _ _ _ rfl hown s rfl ?c3 ?c4 ?c5 ?_)
 case c3 => unfold maxLen; omega
 case c4 => omega
 case c5 => have:=hb1.size; omega
 intro v' w2 hown' hgrow _
 have hlt : b < w1.heap.size:=by
  exact Ak
 have hb2 : w2.heap[b]? = some (.cells #[.pointer (some ⟨b,0,none⟩),v] T (0,0)):=by
  rw [hgrow.block b hlt (fun e => hne e.symm)]
  exact hbk
 have d0 : w2.cell? ⟨b,0,none⟩ = some (.pointer (some ⟨b,0,none⟩)):=su;have d1 : w2.cell? ⟨b,1,none⟩ = some v:=su;have f1 : w2.frozen? ⟨b,1,none⟩ = false:=Lib.frozen_of_heap hb2 1
 obtain ⟨ao,n',cap,rfl⟩ : ∃ ao n' cap,v' = .slice ao n' cap:=by
  rcases hown'.2 with ⟨hv,_⟩ | ⟨g,cap,cur,hv,_⟩
  ·exact ⟨_,_,_,hv⟩
  ·exact ⟨_,_,_,hv⟩
 go_wp2;go_ret2;refine ⟨rfl,?_,?_,?_⟩
 ·exact Lib.BuilderAt.put (T:=T) (e:=5) hB hb2 (bs':=bs ++ Lib.strCells s) (by simpa [Lib.strCells_length] using hown') hT.2
 ·exact (hb1.grown hgrow (by have:=hb1.size; omega) (fun k hk => (hown.lt k hk).1)).setCell (p:=⟨b,1,none⟩) hB _
 ·exact hh1.trans ((cL.grown hown hgrow).trans (cL.set b 1 _ _))
end Go.Proofs.YtheefojaplnnoaaGreatDoor

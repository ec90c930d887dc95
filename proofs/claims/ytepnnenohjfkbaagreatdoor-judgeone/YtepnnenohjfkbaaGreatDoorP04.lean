/-
  Texts Wt Vb Vc Vd.
-/
import Derived.Deep.RegionHeld3
import Derived.Test.YtepnnenohjfkbaaGreatDoorP02
import Derived.Test.YtepnnenohjfkbaaGreatDoorP03
set_option linter.unusedVariables false
set_option maxRecDepth 100000
set_option maxHeartbeats 16000000
namespace Go.Proofs.YtepnnenohjfkbaaGreatDoor
open Go.RowKit
theorem fq {w w1 w2 : World} (h : Below w.heap.size w w1) (h' : Below w1.heap.size w1 w2) : Below w.heap.size w w2:=h.trans (h'.mono h.size)
theorem Stp.ne {R g g' b : Nat} {w w' : World} (h : Stp R g g' w w') (hb : b < w.heap.size) (hn : b ≠ g) : b ≠ g':=by
 rcases h.m with rfl | h
 ·exact hn
 ·omega
theorem Wr.g_lt {w : World} {R g cap : Nat} {bs : List Int} (h : Wr w R g cap bs) : g < w.heap.size:=h.row.lt
theorem ay {fn : Func} {p : Tmp} {ty : TypeId} (h : fn.results = #[.cell p ty]) (tmps : Array Value) (P : Program) (w : World) :
  (results fn tmps).run P w = ((asAddr (tmps.getD p undef)).run P w).andThen fun a w₁ => (loadVar ty a).run P w₁:=by
 simp only [results,h]
 simp [Sem.run_bind,Result.andThen]
theorem al (w : World) (b o : Nat) (v : Value) : Kept (fun k => k = b) w (w.setCell ⟨b,o,none⟩ v):=⟨rfl,rfl,rfl,by simp [World.setCell],fun k hk hs => Below.heap_setCell _ _ _ _ (by simpa using hs)⟩
theorem Wr.set {w : World} {R g cap : Nat} {bs : List Int} (h : Wr w R g cap bs) {b o : Nat} {v : Value} (h1 : b ≠ R) (h2 : b ≠ g) : Wr (w.setCell ⟨b,o,none⟩ v) R g cap bs:=h.kept (al w b o v) (Ne.symm h1) (Ne.symm h2)
theorem Stp.set {R g g' : Nat} {w w' : World} (h : Stp R g g' w w') {b o : Nat} {v : Value} (hb : w.heap.size ≤ b) : Stp R g g' w (w'.setCell ⟨b,o,none⟩ v) :=
 ⟨h.k.then (al w' b o v) (fun k hk hb' => by omega),h.m⟩
theorem Stp.block {R g g' : Nat} {w w' : World} (h : Stp R g g' w w') {b : Nat} (hb : b < w.heap.size) (h1 : b ≠ R) (h2 : b ≠ g) : w'.heap[b]? = w.heap[b]?:=h.k.block b hb (by simp [h1,h2])
theorem be {w : World} {b : Nat} {u v : Value} {t : TypeId} (h : w.heap[b]? = some (.cells #[u,v] t)) : w.cell? ⟨b,0,none⟩ = some u ∧ w.cell? ⟨b,1,none⟩ = some v ∧ w.frozen? ⟨b,0,none⟩ = false ∧ w.frozen? ⟨b,1,none⟩ = false:=by
 simp [World.cell?,World.frozen?,h]
def iK (w : World) (p r : ByteArray) (aa : Option Addr) (an ac : Nat) (n : Nat) : World :=
 (((w.alloc (.cells #[.string p,.string r] 62)).alloc (.cells #[.slice aa an ac] 22)).alloc (.cells #[.string ⟨#[]⟩,.string ⟨#[]⟩] 62)).alloc (.cells #[.int .i64 n] 3)
theorem gQ (w : World) (p r : ByteArray) (aa : Option Addr) (an ac n : Nat) : Below w.heap.size w (iK w p r aa an ac n) ∧ (iK w p r aa an ac n).heap.size = w.heap.size + 4 ∧
  (iK w p r aa an ac n).cell? ⟨w.heap.size,0,none⟩ = some (.string p) ∧ (iK w p r aa an ac n).cell? ⟨w.heap.size,1,none⟩ = some (.string r) ∧
  (iK w p r aa an ac n).cell? ⟨w.heap.size + 1,0,none⟩ = some (.slice aa an ac) ∧ (iK w p r aa an ac n).cell? ⟨w.heap.size + 1 + 1 + 1,0,none⟩ = some (.int .i64 n) ∧ (iK w p r aa an ac n).heap[w.heap.size + 1 + 1]? = some (.cells #[.string ⟨#[]⟩,.string ⟨#[]⟩] 62):=by
 unfold iK
 refine ⟨?_,by simp,by simp [go_sem],by simp [go_sem],by simp [go_sem],by simp [go_sem],?_⟩
 rotate_left
 ·have h1:=(MapKept.heap_alloc ((w.alloc (.cells #[.string p,.string r] 62)).alloc (.cells #[.slice aa an ac] 22)) (.cells #[.string ⟨#[]⟩,.string ⟨#[]⟩] 62)).1
  have h2:=(ag (((w.alloc (.cells #[.string p,.string r] 62)).alloc (.cells #[.slice aa an ac] 22)).alloc (.cells #[.string ⟨#[]⟩,.string ⟨#[]⟩] 62)) (.cells #[.int .i64 n] 3)).block (w.heap.size + 1 + 1) (by simp)
  rw [h2]
  simpa using h1
 exact ((((Below.refl _ w).alloc (Nat.le_refl _) _).alloc (by simp <;> omega) _).alloc (by simp <;> omega) _).alloc (by simp <;> omega) _
theorem rk (R g cap : Nat) (bs : List Int) (p r : ByteArray) (aa : Option Addr) (an ac : Nat) (ah : List Sg) (w : World) (h : Wr w R g cap bs) (hb : bs.length + 100 ≤ 1099511627776)
  (hah : bj w aa an ah) (hne : ∀ b off c,aa = some ⟨b,off,c⟩ → b ≠ R ∧ b ≠ g) (hx : bV ah (p,r) = 0) :
  Calls Tryz.prog 115 #[cW R,.agg #[.string p,.string r],.slice aa an ac] w (i6 R g bs (bd (p,r)) (.agg #[.string p,.string r]) w):=by
 obtain ⟨s1,l1,s2,l2,t2⟩:=du hx
 simp only at s1 l1 s2 l2 t2
 clear hx;obtain ⟨B0,z0,x0,x1,x2,x3,x4⟩:=gQ w p r aa an ac bs.length;have H4:=hid (h.later B0);have HAH:=hid (hah.later B0);have hRl:=h.lt;have hgl:=h.g_lt;have u1:=cM p 8 s1;have u2:=cM r 8 s2;have hmp:=gR;have hcp:=ks;have hmt:=bW;have hct:=cD
 have c0 : (((w.alloc (.cells #[.string p,.string r] 62)).alloc (.cells #[.slice aa an ac] 22)).alloc (.cells #[.string ⟨#[]⟩,.string ⟨#[]⟩] 62)).cell? ⟨R,0,none⟩ = some (.slice (some ⟨g,0,none⟩) bs.length cap):=by
  rw [(((Below.refl _ w).alloc (Nat.le_refl _) _).alloc (by simp <;> omega) _ |>.alloc (by simp <;> omega) _).cell (by exact hRl)]; exact h.c0
 have HW4 : (((w.alloc (.cells #[.string p,.string r] 62)).alloc (.cells #[.slice aa an ac] 22)).alloc (.cells #[.string ⟨#[]⟩,.string ⟨#[]⟩] 62)).alloc (.cells #[.int .i64 bs.length] 3) = iK w p r aa an ac bs.length:=rfl;generalize iK w p r aa an ac bs.length = W4 at *;have B4:=hid B0;clear h hah B0
 have HT1:=hid (bZ R g cap bs p 8 177 #[] W4 H4.out (by omega) (by omega) (by omega) (fun _ _ => rfl) (bU p bs.length W4 (by omega) (by rw [cd p 256 8 (by omega) s1]; exact l1)))
 go_enter Tryz.func115,Tryz.ntmps115
 go_wp2_with fail;refine (bi R _ _ _ _ c0).mono ?_;rintro e w1 ⟨rfl,rfl⟩;clear c0;go_wp2_with fail;refine HT1.out.mono ?_;rintro e w5 ⟨rfl,g1,cap1,hw5,hs5⟩
 have y0:=hs5.cell x0 (by omega) (by omega)
 have y1:=hs5.cell x1 (by omega) (by omega)
 have y2:=hs5.cell x2 (by omega) (by omega)
 have y3:=hs5.cell x3 (by omega) (by omega)
 have hN1 : w.heap.size + 1 + 1 ≠ g1:=hs5.ne (by omega) (by omega)
 have y4:=(hs5.block (b:=w.heap.size + 1 + 1) (by omega) (by omega) (by omega)).trans x4
 have hl5:=block_lt_of_cell y3;have hl5':=block_lt_of_cell y1;have B6:=hid (ag w5 (.cells #[.string p] 9));have N6:=hid (cZ w5 (.string p) 9);have W5:=hid hw5;have S5:=hid ((Stp.of_below B4.out).trans hs5)
 have A5:=hid (HAH.out.kept hs5.k (fun b off c ha => by have:=hne b off c ha; simp; omega))
 clear HT1 hw5 hs5 x0 x1 x2 x3 H4 HW4
 have HT2:=hid (bZ R g1 cap1 (bs ++ ib p) r 8 178 #[.pointer (some ⟨w.heap.size + 1,0,none⟩),.pointer (some ⟨w5.heap.size,0,none⟩),.pointer (some ⟨w.heap.size + 1 + 1 + 1,0,none⟩)] _ (W5.out.later B6.out) (by omega) (by omega) (by simp; omega) (fun _ _ => rfl)
  (ry r p _ bs.length (w.heap.size + 1) w5.heap.size (w.heap.size + 1 + 1 + 1) aa an ac ah _ (by omega) (by rw [cd r 256 8 (by omega) s2]; exact l2) (A5.out.later B6.out) t2 ((B6.out.cell (by exact block_lt_of_cell y2)).trans y2) N6.out ((B6.out.cell (by exact hl5)).trans y3)))
 go_wp2_with fail;refine HT2.out.mono ?_;rintro e w7 ⟨rfl,g2,cap2,hw7,hs7⟩;have W7:=hid hw7;have S7:=hid ((S5.out.trans (Stp.of_below B6.out)).trans hs7)
 have q0:=hs7.cell N6.out (by omega) (by have:=W5.out.g_lt; omega)
 have q1:=block_lt_of_cell q0
 have hz6 : (w5.alloc (.cells #[.string p] 9)).heap.size = w5.heap.size + 1:=by simp
 have q2:=(hs7.block (b:=w.heap.size + 1 + 1) (by omega) (by omega) hN1).trans ((B6.out.block _ (by omega)).trans y4)
 obtain ⟨q3,q4,q5,q6⟩:=be q2
 have hN2 : w.heap.size + 1 + 1 ≠ g2:=hs7.ne (by omega) hN1
 clear hw7 hs7 HT2 y0 y1 y2 y3 y4 q2;go_wp2_with fail;refine bodyPost_ret (v:=.agg #[.string p,.string r]) ?_ rfl ⟨rfl,g2,cap2,?_,?_⟩
 ·rw [ay rfl];go_simp
 ·have:=(W7.out.set (b:=w.heap.size + 1 + 1) (o:=0) (v:=.string p) (by omega) hN2).set (b:=w.heap.size + 1 + 1) (o:=1) (v:=.string r) (by omega) hN2
  simpa [bd,ib,List.append_assoc] using this
 ·exact (S7.out.set (by omega)).set (by omega)
theorem lZ (R g cap : Nat) (bs : List Int) (p r : ByteArray) (aa : Option Addr) (an ac : Nat) (w : World) (h : Wr w R g cap bs) (x : Int)
  (ht : ∀ W,Wr W R g cap bs → Calls Tryz.prog 316 #[.pointer (some ⟨R,0,none⟩),.string p,.int .i64 8,.func (.func 177) #[] #[]] W (aG R g x W)) :
  Calls Tryz.prog 115 #[cW R,.agg #[.string p,.string r],.slice aa an ac] w (aG R g x w):=by
 obtain ⟨B0,z0,x0,x1,x2,x3,x4⟩:=gQ w p r aa an ac bs.length;have H4:=hid (h.later B0);have hRl:=h.lt;have hgl:=h.g_lt;have hmp:=gR;have hcp:=ks;have hmt:=bW;have hct:=cD
 have c0 : (((w.alloc (.cells #[.string p,.string r] 62)).alloc (.cells #[.slice aa an ac] 22)).alloc (.cells #[.string ⟨#[]⟩,.string ⟨#[]⟩] 62)).cell? ⟨R,0,none⟩ = some (.slice (some ⟨g,0,none⟩) bs.length cap):=by
  rw [(((Below.refl _ w).alloc (Nat.le_refl _) _).alloc (by simp <;> omega) _ |>.alloc (by simp <;> omega) _).cell (by exact hRl)]; exact h.c0
 have HW4 : (((w.alloc (.cells #[.string p,.string r] 62)).alloc (.cells #[.slice aa an ac] 22)).alloc (.cells #[.string ⟨#[]⟩,.string ⟨#[]⟩] 62)).alloc (.cells #[.int .i64 bs.length] 3) = iK w p r aa an ac bs.length:=rfl;generalize iK w p r aa an ac bs.length = W4 at *;have B4:=hid B0;clear h B0;have HT1:=hid (ht W4 H4.out);clear ht
 go_enter Tryz.func115,Tryz.ntmps115
 go_wp2_with fail;refine (bi R _ _ _ _ c0).mono ?_;rintro e w1 ⟨rfl,rfl⟩;clear c0;go_wp2_with fail;refine HT1.out.mono ?_;rintro e w5 ⟨⟨q,rfl⟩,hk⟩;exact ⟨rfl,⟨q,rfl⟩,(aB B4.out).trans hk⟩
theorem i7 (R g cap : Nat) (bs : List Int) (p r : ByteArray) (aa : Option Addr) (an ac : Nat) (ah : List Sg) (w : World) (h : Wr w R g cap bs) (hb : bs.length + 100 ≤ 1099511627776)
  (hah : bj w aa an ah) (hne : ∀ b off c,aa = some ⟨b,off,c⟩ → b ≠ R ∧ b ≠ g) (s1 : p.size ≤ 8) (l1 : lett p 8 = true) (x : Int)
  (ht : ∀ W g1 cap1 bs1 A B C beg,Wr W R g1 cap1 bs1 → bj W aa an ah → W.cell? ⟨A,0,none⟩ = some (.slice aa an ac) → W.cell? ⟨B,0,none⟩ = some (.string p) → W.cell? ⟨C,0,none⟩ = some (.int .i64 beg) →
   Calls Tryz.prog 316 #[.pointer (some ⟨R,0,none⟩),.string r,.int .i64 8,.func (.func 178) #[] #[.pointer (some ⟨A,0,none⟩),.pointer (some ⟨B,0,none⟩),.pointer (some ⟨C,0,none⟩)]] W (aG R g1 x W)) :
  Calls Tryz.prog 115 #[cW R,.agg #[.string p,.string r],.slice aa an ac] w (aG R g x w):=by
 obtain ⟨B0,z0,x0,x1,x2,x3,x4⟩:=gQ w p r aa an ac bs.length;have H4:=hid (h.later B0);have HAH:=hid (hah.later B0);have hRl:=h.lt;have hgl:=h.g_lt;have u1:=cM p 8 s1;have hmp:=gR;have hcp:=ks;have hmt:=bW;have hct:=cD
 have c0 : (((w.alloc (.cells #[.string p,.string r] 62)).alloc (.cells #[.slice aa an ac] 22)).alloc (.cells #[.string ⟨#[]⟩,.string ⟨#[]⟩] 62)).cell? ⟨R,0,none⟩ = some (.slice (some ⟨g,0,none⟩) bs.length cap):=by
  rw [(((Below.refl _ w).alloc (Nat.le_refl _) _).alloc (by simp <;> omega) _ |>.alloc (by simp <;> omega) _).cell (by exact hRl)]; exact h.c0
 have HW4 : (((w.alloc (.cells #[.string p,.string r] 62)).alloc (.cells #[.slice aa an ac] 22)).alloc (.cells #[.string ⟨#[]⟩,.string ⟨#[]⟩] 62)).alloc (.cells #[.int .i64 bs.length] 3) = iK w p r aa an ac bs.length:=rfl;generalize iK w p r aa an ac bs.length = W4 at *;have B4:=hid B0;clear h hah B0
 have HT1:=hid (bZ R g cap bs p 8 177 #[] W4 H4.out (by omega) (by omega) (by omega) (fun _ _ => rfl) (bU p bs.length W4 (by omega) (by rw [cd p 256 8 (by omega) s1]; exact l1)))
 have HT:=hid ht;clear ht
 go_enter Tryz.func115,Tryz.ntmps115
 go_wp2_with fail;refine (bi R _ _ _ _ c0).mono ?_;rintro e w1 ⟨rfl,rfl⟩;clear c0;go_wp2_with fail;refine HT1.out.mono ?_;rintro e w5 ⟨rfl,g1,cap1,hw5,hs5⟩
 have y0:=hs5.cell x0 (by omega) (by omega)
 have y1:=hs5.cell x1 (by omega) (by omega)
 have y2:=hs5.cell x2 (by omega) (by omega)
 have y3:=hs5.cell x3 (by omega) (by omega)
 have hN1 : w.heap.size + 1 + 1 ≠ g1:=hs5.ne (by omega) (by omega)
 have y4:=(hs5.block (b:=w.heap.size + 1 + 1) (by omega) (by omega) (by omega)).trans x4
 have hl5:=block_lt_of_cell y3;have hl5':=block_lt_of_cell y1;have B6:=hid (ag w5 (.cells #[.string p] 9));have N6:=hid (cZ w5 (.string p) 9);have W5:=hid hw5;have S5:=hid ((Stp.of_below B4.out).trans hs5)
 have A5:=hid (HAH.out.kept hs5.k (fun b off c ha => by have:=hne b off c ha; simp; omega))
 clear HT1 hw5 hs5 x0 x1 x2 x3 H4 HW4
 have HT2:=hid (HT.out _ g1 cap1 _ (w.heap.size + 1) w5.heap.size (w.heap.size + 1 + 1 + 1) bs.length (W5.out.later B6.out) (A5.out.later B6.out) ((B6.out.cell (by exact block_lt_of_cell y2)).trans y2) N6.out ((B6.out.cell (by exact hl5)).trans y3))
 clear HT;go_wp2_with fail;refine HT2.out.mono ?_;rintro e w7 ⟨⟨q,rfl⟩,hk⟩;refine ⟨rfl,⟨q,rfl⟩,?_⟩
 refine (S5.out.k.trans (aB B6.out)).then hk (fun k hkl hh => ?_)
 rcases hh with rfl | rfl
 ·exact .inl rfl
 ·rcases S5.out.m with h | h
  ·exact .inr h
  ·omega
theorem um (R g cap : Nat) (bs : List Int) (p r : ByteArray) (aa : Option Addr) (an ac : Nat) (ah : List Sg) (w : World) (h : Wr w R g cap bs) (hb : bs.length + 100 ≤ 1099511627776)
  (hah : bj w aa an ah) (hne : ∀ b off c,aa = some ⟨b,off,c⟩ → b ≠ R ∧ b ≠ g) (hx : bV ah (p,r) ≠ 0) :
  Calls Tryz.prog 115 #[cW R,.agg #[.string p,.string r],.slice aa an ac] w (aG R g (bV ah (p,r)) w):=by
 unfold bV at hx ⊢
 simp only at hx ⊢
 by_cases s1 : 8 < p.size
 ·rw [if_pos s1]
  exact lZ R g cap bs p r aa an ac w h 13 (fun W hW => dh R g cap bs p 8 _ W hW (by omega))
 rw [if_neg s1] at hx ⊢
 by_cases l1 : lett p 8 = false
 ·rw [if_pos l1]
  exact lZ R g cap bs p r aa an ac w h 15 (fun W hW => cO R g cap bs p 8 177 #[] 15 W hW (by omega) (fun _ _ => rfl) (eq p bs.length W (by omega) (by rw [cd p 256 8 (by omega) (by omega)]; exact l1)))
 rw [if_neg l1] at hx ⊢
 have l1' : lett p 8 = true:=by simpa using l1
 by_cases s2 : 8 < r.size
 ·rw [if_pos s2]
  exact i7 R g cap bs p r aa an ac ah w h hb hah hne (by omega) l1' 13 (fun W g1 cap1 bs1 A B C beg hW _ _ _ _ => dh R g1 cap1 bs1 r 8 _ W hW (by omega))
 rw [if_neg s2] at hx ⊢
 by_cases l2 : lett r 8 = false
 ·rw [if_pos l2]
  exact i7 R g cap bs p r aa an ac ah w h hb hah hne (by omega) l1' 15 (fun W g1 cap1 bs1 A B C beg hW _ _ _ _ => cO R g1 cap1 bs1 r 8 178 _ 15 W hW (by omega) (fun _ _ => rfl) (uJ r _ A B C W (by omega) (by rw [cd r 256 8 (by omega) (by omega)]; exact l2)))
 rw [if_neg l2] at hx ⊢
 have l2' : lett r 8 = true:=by simpa using l2
 by_cases t2 : ej ah (p,r) = true
 ·rw [if_pos t2];obtain ⟨k,y,h1,h2,h3,h4⟩:=wW t2
  exact i7 R g cap bs p r aa an ac ah w h hb hah hne (by omega) l1' 16 (fun W g1 cap1 bs1 A B C beg hW hA hc1 hc2 hc3 => cO R g1 cap1 bs1 r 8 178 _ 16 W hW (by omega) (fun _ _ => rfl)
   (nt r p _ beg A B C aa an ac ah W (by omega) (by rw [cd r 256 8 (by omega) (by omega)]; exact l2') hA k ⟨y,h1,h2,h3⟩ h4 hc1 hc2 hc3))
 ·rw [if_neg t2] at hx; exact absurd rfl hx
theorem aF {w : World} {b i : Nat} {a : Array Value} {t : TypeId} {u : Value} (h : w.heap[b]? = some (.cells a t)) : (w.setCell ⟨b,i,none⟩ u).heap[b]? = some (.cells (a.setIfInBounds i u) t):=by
 have hl : b < w.heap.size:=by
  rcases Nat.lt_or_ge b w.heap.size with hx | hx
  ·exact hx
  ·rw [Array.getElem?_eq_none hx] at h; cases h
 rw [Array.getElem?_eq_getElem hl] at h
 simp only [Option.some.injEq] at h
 simp [World.setCell,hl,Array.getElem_modify,h]
theorem fP {S : Nat → Prop} {w w' : World} {base sz OB n oc : Nat} {e : TypeId} {xs : List Value} (h : w.ownsRow base e sz (.slice (some ⟨OB,0,none⟩) n oc) n xs) (hk : Kept S w w') (hS : ¬ S OB) : w'.ownsRow base e sz (.slice (some ⟨OB,0,none⟩) n oc) n xs:=by
 rcases h.2 with ⟨e,_⟩ | ⟨g,cap,cur,e,h4,h5,h6⟩
 ·cases e
 ·cases e
  have hl : OB < w.heap.size:=by
   rcases Nat.lt_or_ge OB w.heap.size with hx | hx
   ·exact hx
   ·rw [Array.getElem?_eq_none hx] at h5; cases h5
  exact ⟨h.1,.inr ⟨_,_,cur,rfl,h4,(hk.block _ hl hS).trans h5,h6⟩⟩
theorem below_drewN (w : World) (m : Nat) : Below w.heap.size w (w.drewN m):=(Kept.drewN (fun _ => False) w m).to_below (Nat.le_refl _) (fun _ _ h => h)
theorem ae {W W' : World} {b o : Nat} {u : Value} (hb : Below W.heap.size W W') (h : W.cell? ⟨b,o,none⟩ = some u) : W'.cell? ⟨b,o,none⟩ = some u:=(hb.cell (by exact block_lt_of_cell h)).trans h
section
variable {v : Ev} {w1 w : World} {s : Cs}
theorem CI.OB_ne (hA : EvA v w1) {OB : Nat} (h : OB = v.O0 ∨ w1.heap.size ≤ OB) : OB ≠ v.C ∧ OB ≠ v.SH ∧ OB ≠ v.FL:=by
 have h1:=hA.c;have h2:=hA.s;have h3:=hA.f;have h4:=hA.co;have h5:=hA.so;have h6:=hA.fo;omega
theorem CI.put (hA : EvA v w1) (h : CI v w1 w s) (i : Nat) (u : Value) (s' : Cs) (hop : s'.op = s.op) (hsh : s'.sh = s.sh) (hfl : s'.fl = s.fl)
  (hv : ∀ ov,(ckV v s ov).setIfInBounds i u = ckV v s' ov) : CI v w1 (w.setCell ⟨v.C,i,none⟩ u) s':=by
 obtain ⟨OB,oc,h1,h2,h3⟩:=h.ck;have hk:=al w v.C i u;have hne:=CI.OB_ne hA h3
 refine ⟨h.kept.then hk (fun k _ e => .inl e),⟨OB,oc,?_,?_,h3⟩,?_,?_⟩
 ·rw [aF h1,hv,hop]
 ·rw [hop]; exact fP h2 hk (fun e => hne.1 e)
 ·rw [hsh]; exact h.sh.kept hk (fun e => hA.cs e.symm)
 ·rw [hfl]; exact h.fl.kept hk (fun e => hA.cf e.symm)
theorem CI.putSt (hA : EvA v w1) (h : CI v w1 w s) (t : ByteArray) : CI v w1 (w.setCell ⟨v.C,15,none⟩ (.string t)) { s with st:=t }:=h.put hA 15 _ _ rfl rfl rfl (fun _ => rfl)
theorem CI.putDead (hA : EvA v w1) (h : CI v w1 w s) (b : Bool) : CI v w1 (w.setCell ⟨v.C,17,none⟩ (.bool b)) { s with dead:=b }:=h.put hA 17 _ _ rfl rfl rfl (fun _ => rfl)
theorem CI.putPc (hA : EvA v w1) (h : CI v w1 w s) (p : Nat) : CI v w1 (w.setCell ⟨v.C,16,none⟩ (.int .i64 p)) { s with pc:=p }:=h.put hA 16 _ _ rfl rfl rfl (fun _ => rfl)
theorem CI.putHi (hA : EvA v w1) (h : CI v w1 w s) (p : Nat) : CI v w1 (w.setCell ⟨v.C,13,none⟩ (.int .i64 p)) { s with hi:=p }:=h.put hA 13 _ _ rfl rfl rfl (fun _ => rfl)
def thv (x : Int) : Ending:=.panicked [{ v:=.iface 33 (.int .i64 x),recovered:=false }]
structure Bad (v : Ev) (w1 : World) (pc : Nat) (w : World) : Prop where
 kept : Kept v.S w1 w
 pc : w.cell? ⟨v.C,16,none⟩ = some (.int .i64 pc)
theorem CI.bad (h : CI v w1 w s) : Bad v w1 s.pc w:=⟨h.kept,h.pc⟩
abbrev Doz (v : Ev) (w1 w : World) (pc : Nat) (E : Int) (val : Value) (s' : Cs) : Ending → World → Prop:=fun e w' => (E = 0 ∧ e = .returned val ∧ CI v w1 w' s' ∧ Kept (fun k => k = v.C) w w') ∨ (E ≠ 0 ∧ e = thv E ∧ Bad v w1 pc w')
abbrev Rdz (w : World) (E : Int) (val : Value) : Ending → World → Prop:=fun e w' => (E = 0 ∧ e = .returned val ∧ Below w.heap.size w w') ∨ (E ≠ 0 ∧ e = thv E ∧ Below w.heap.size w w')
abbrev fA : Value:=.tuple #[]
theorem bL (x : Int) (w : World) : Calls Tryz.prog 111 #[.bool true,.int .i64 x] w fun e w' => e = .returned fA ∧ w' = w:=by
 go_enter Tryz.func111,Tryz.ntmps111
 go_wp2_with fail;go_end0;exact ⟨rfl,rfl⟩
theorem tK (x : Int) (w : World) : Calls Tryz.prog 111 #[.bool false,.int .i64 x] w fun e w' => e = thv x ∧ w' = w:=by
 go_enter Tryz.func111,Tryz.ntmps111
 go_wp2_with fail
 first | exact ⟨rfl,rfl,rfl⟩ | (refine ⟨rfl,?_,rfl⟩; rfl)
theorem cF (b : Bool) (x : Int) (w : World) : Calls Tryz.prog 111 #[.bool b,.int .i64 x] w fun e w' => (b = true ∧ e = .returned fA ∧ w' = w) ∨ (b = false ∧ e = thv x ∧ w' = w):=by
 cases b
 ·exact (tK x w).mono fun e w' h => .inr ⟨rfl,h⟩
 ·exact (bL x w).mono fun e w' h => .inl ⟨rfl,h⟩
theorem fV {C OB k oc : Nat} (h1 : w.cell? ⟨C,14,none⟩ = some (.slice (some ⟨OB,0,none⟩) (k + 1) oc)) (hm : k < 64) : Calls Tryz.prog 230 #[.pointer (some ⟨C,0,none⟩)] w fun e w' => e = .returned (.pointer (some ⟨OB,k * 5,none⟩)) ∧ Below w.heap.size w w':=by
 go_enter Tryz.func230,Tryz.ntmps230
 go_wp2_with fail
 go_quiet (fail)
 go_wp2_with fail;go_ret
 exact ⟨by simp,below_drewN _ _⟩
end
section
variable {v : Ev} {w1 w : World} {s : Cs}
structure CW (s : Cs) (k : Nat) (o : Opn) : Prop where
 len : s.op.length = k + 1
 le : k < 64
 last : s.op[k]? = some o
 base : o.B.size ≤ s.st.size
 big : s.st.size ≤ 1000000
theorem CI.top (h : CI v w1 w s) {k : Nat} {o : Opn} (hw : CW s k o) : ∃ OB oc,w.cell? ⟨v.C,14,none⟩ = some (.slice (some ⟨OB,0,none⟩) (k + 1) oc) ∧
  w.cell? ⟨OB,k * 5,none⟩ = some (.string o.P) ∧ w.cell? ⟨OB,k * 5 + 1,none⟩ = some (.string o.R) ∧ w.cell? ⟨OB,k * 5 + 2,none⟩ = some (.string o.B) ∧ w.cell? ⟨OB,k * 5 + 3,none⟩ = some (.int .u8 o.op) ∧ w.cell? ⟨OB,k * 5 + 4,none⟩ = some (.int .i64 o.pc):=by
 obtain ⟨OB,oc,h1,h2,h3⟩:=h.opn;rw [hw.len] at h1;exact ⟨OB,oc,h1,h3 k o hw.last⟩
theorem yc {C OB i : Nat} {st B : ByteArray} {w W W' : World} (hb : Below W.heap.size W W') (h : W.cell? ⟨C,15,none⟩ = some (.string st) ∧ W.cell? ⟨OB,i,none⟩ = some (.string B) ∧ Below w.heap.size w W) :
  W'.cell? ⟨C,15,none⟩ = some (.string st) ∧ W'.cell? ⟨OB,i,none⟩ = some (.string B) ∧ Below w.heap.size w W' :=
 ⟨ae hb h.1,ae hb h.2.1,h.2.2.trans (hb.mono h.2.2.size)⟩
theorem pS (h : CI v w1 w s) {k : Nat} {o : Opn} (hw : CW s k o) : Calls Tryz.prog 235 #[.pointer (some ⟨v.C,0,none⟩)] w fun e w' => e = .returned (.string (s.st.extract o.B.size s.st.size)) ∧ Below w.heap.size w w':=by
 obtain ⟨OB,oc,h1,x0,x1,x2,x3,x4⟩:=h.top hw;have hst:=h.st
 have HI:=hid (fun W (hb : Below w.heap.size w W) => fV (w:=W) (ae hb h1) hw.le)
 have hb1:=hw.base;have hb2:=hw.big;clear x0 x1 x3 x4 h h1;generalize s.st = st at *;generalize o.B = B at *
 go_enter Tryz.func235,Tryz.ntmps235
 go_wp2_with fail
 go_region_held3 (fun W => W.cell? ⟨v.C,15,none⟩ = some (.string st) ∧ W.cell? ⟨OB,k * 5 + 2,none⟩ = some (.string B) ∧ Below w.heap.size w W)
  (first | assumption | exact ⟨hst,x2,(Below.refl _ _).drew⟩)
  (first
   | (go_at_call 230; refine (HI.out _ (And.right (And.right (by assumption)))).mono ?_; rintro e w' ⟨rfl,hbx⟩; have hS':=yc hbx (by assumption); clear hbx))
 go_wp2_with fail;go_ret;exact ⟨rfl,hS'.2.2⟩
def aO (s : Cs) (o : Opn) (t : ByteArray) : Int:=if kT (s.st.extract o.B.size s.st.size) t = true then 0 else 33
theorem jl (hA : EvA v w1) (h : CI v w1 w s) {k : Nat} {o : Opn} (hw : CW s k o) (t : ByteArray) (ht : t.size ≤ 1000000) : Calls Tryz.prog 169 #[.pointer (some ⟨v.C,0,none⟩),.string t] w (Rdz w (aO s o t) fA):=by
 have H1:=hid (pS h hw)
 have hz : (s.st.extract o.B.size s.st.size).size ≤ 1073741824:=by
  have:=hw.big
  simp; omega
 have H2:=hid (fun W => zw (s.st.extract o.B.size s.st.size) t W hz (by omega))
 clear h
 have hT : kT (s.st.extract o.B.size s.st.size) t = true → aO s o t = 0:=fun h => by simp [aO,h]
 have hF : kT (s.st.extract o.B.size s.st.size) t = false → aO s o t = 33:=fun h => by simp [aO,h]
 generalize aO s o t = E at *;generalize s.st.extract o.B.size s.st.size = a at *;generalize kT a t = b at *
 go_enter Tryz.func169,Tryz.ntmps169
 go_wp2_with fail;refine H1.out.mono ?_;rintro e w2 ⟨rfl,hb⟩;go_wp2_with fail;refine (H2.out _).mono ?_;rintro e w3 ⟨rfl,hb3⟩;have HB:=hid (hb.trans (hb3.mono hb.size));go_wp2_with fail;refine (cF _ _ _).mono ?_
 rintro e w4 (⟨hb,rfl,rfl⟩ | ⟨hb,rfl,rfl⟩)
 ·go_wp2_with fail;go_end0;exact .inl ⟨hT hb,rfl,HB.out⟩
 ·have hE:=hF hb;subst hE
  exact ⟨rfl,.inr ⟨by decide,rfl,HB.out⟩⟩
def bh (s : Cs) (t : ByteArray) : Cs:={ s with st:=s.st.extract 0 (s.st.size - t.size) }
theorem mR {s : Cs} {o : Opn} {t : ByteArray} (h : aO s o t = 0) : t.size ≤ (s.st.extract o.B.size s.st.size).size:=by
 unfold aO at h
 split at h
 ·rename_i hb
  simp only [kT,Bool.and_eq_true] at hb
  exact yf hb.2
 ·cases h
theorem nw (hA : EvA v w1) (h : CI v w1 w s) {k : Nat} {o : Opn} (hw : CW s k o) (t : ByteArray) (ht : t.size ≤ 1000000) : Calls Tryz.prog 173 #[.pointer (some ⟨v.C,0,none⟩),.string t] w (Doz v w1 w s.pc (aO s o t) fA (bh s t)):=by
 have H1:=hid (jl hA h hw t ht);have hle:=@mR s o t;have hbig:=hw.big;have H0:=hid h;clear h
 go_enter Tryz.func173,Tryz.ntmps173
 go_wp2_with fail;refine H1.out.mono ?_
 rintro e w2 (⟨h0,rfl,hb2⟩ | ⟨h0,rfl,hb2⟩)
 ·have hc:=H0.out.later hA hb2;have HB2:=hid hb2
  have hle' : t.size ≤ s.st.size:=by
   have:=hle h0
   simp at this; omega
  have hsub : ((s.st.size : Int) - (t.size : Int) + 9223372036854775808) % 18446744073709551616 - 9223372036854775808 = ((s.st.size - t.size : Nat) : Int):=oR hle' (by omega)
  have hst:=hc.st;have hfr:=hc.free 15;have HC:=hid hc
  have HD:=hid (show bh s t = { s with st:=s.st.extract 0 (s.st.size - t.size) } from rfl)
  have hd1 : (0 : Int) ≤ ((s.st.size - t.size : Nat) : Int):=by omega
  have hd2 : ((s.st.size - t.size : Nat) : Int) ≤ (s.st.size : Int):=by omega
  have hsub2 : IntKind.i64.wrap ((s.st.size : Int) - (t.size : Int)) = ((s.st.size - t.size : Nat) : Int):=by
   simp [IntKind.wrap,IntKind.bits,IntKind.signed]; omega
  generalize s.st.size - t.size = d at *;clear hc hle hb2;go_wp2_with fail
  go_region
  go_wp2_with fail;go_end0;refine .inl ⟨h0,rfl,?_,((aB HB2.out).trans (al _ _ _ _)).trans (Kept.drewN _ _ 1)⟩;rw [HD.out];exact (HC.out.putSt hA _).later hA (below_drewN _ 1)
 ·exact ⟨rfl,.inr ⟨h0,rfl,(H0.out.later hA hb2).bad⟩⟩
end
section
variable {v : Ev} {w1 w : World} {s : Cs}
def jh (s : Cs) (t : ByteArray) : Cs:={ s with st:=cK s.st t }
theorem wC (hA : EvA v w1) (h : CI v w1 w s) (t : ByteArray) (hs : s.st.size ≤ 1000000) (ht : t.size ≤ 1000000) : Calls Tryz.prog 176 #[.pointer (some ⟨v.C,0,none⟩),.string t] w (Doz v w1 w s.pc (aS s.st t) fA (jh s t)):=by
 have H1:=hid (fun W => xZ s.st t W (by omega) (by omega))
 have hst:=h.st;have HC:=hid h
 have HD:=hid (show jh s t = { s with st:=cK s.st t } from rfl)
 clear h;generalize aS s.st t = E at *;generalize cK s.st t = V at *
 by_cases hE : E = 0
 ·subst hE
  go_enter Tryz.func176,Tryz.ntmps176
  go_wp2_with fail;refine (H1.out _).mono ?_;rintro e w2 ⟨rfl,hb⟩;have HC2:=hid (HC.out.later hA hb);have HB2:=hid hb;clear hb hst;go_wp2_with fail;refine (bL _ _).mono ?_;rintro e w3 ⟨rfl,rfl⟩;have hfr:=HC2.out.free 15;have hst:=HC2.out.st;go_wp2_with fail;go_end0;refine .inl ⟨rfl,rfl,?_,(aB HB2.out).trans (al _ _ _ _)⟩;rw [HD.out];exact HC2.out.putSt hA _
 ·have hE' : decide (E = 0) = false:=by simp [hE]
  go_enter Tryz.func176,Tryz.ntmps176
  go_wp2_with fail;refine (H1.out _).mono ?_;rintro e w2 ⟨rfl,hb⟩;have HC2:=hid (HC.out.later hA hb);have HB2:=hid hb;clear hb hst;go_wp2_with fail;refine (cF _ _ _).mono ?_
  rintro e w3 (⟨hb,rfl,rfl⟩ | ⟨hb,rfl,rfl⟩)
  ·exact absurd hb (by simp [hE])
  ·exact ⟨rfl,.inr ⟨hE,rfl,HC2.out.bad⟩⟩
def cu (s : Cs) (o : Opn) : Cs:={ s with dead:=true,st:=cK o.B o.R }
theorem sK (s : Cs) (o : Opn) : jh { s with dead:=true,st:=o.B } o.R = cu s o:=rfl
theorem iJ (hA : EvA v w1) (h : CI v w1 w s) {k : Nat} {o : Opn} (hw : CW s k o) (hB : o.B.size ≤ 1000000) (hR : o.R.size ≤ 1000000) : Calls Tryz.prog 172 #[.pointer (some ⟨v.C,0,none⟩)] w (Doz v w1 w s.pc (aS o.B o.R) fA (cu s o)):=by
 have h1:=h.putDead hA true;have hd:=h.dead;have hfr:=h.free 17
 have hw1 : CW { s with dead:=true } k o:=⟨hw.len,hw.le,hw.last,hw.base,hw.big⟩
 obtain ⟨OB,oc,x14,x0,x1,x2,x3,x4⟩:=h1.top hw1;have y15:=h1.st;have f15:=h1.free 15;have H1:=hid h1;have K1:=hid (al w v.C 17 (.bool true));clear h
 go_enter Tryz.func172,Tryz.ntmps172
 go_wp2_with fail;generalize w.setCell ⟨v.C,17,none⟩ (.bool true) = W at *;refine (fV x14 hw.le).mono ?_;rintro e w2 ⟨rfl,hb⟩;have H2:=hid (H1.out.later hA hb);have K2:=hid (K1.out.trans (aB hb));have z15:=ae hb y15;have zf:=H2.out.free 15;have z2:=ae hb x2;clear hb x0 x1 x2 x3 x4 x14 y15 f15 h1 hd hfr;go_wp2_with fail;have H3:=hid (H2.out.putSt hA o.B);have K3:=hid (K2.out.trans (al w2 v.C 15 (.string o.B)))
 have hw3 : CW { s with dead:=true,st:=o.B } k o:=⟨hw.len,hw.le,hw.last,Nat.le_refl _,hB⟩
 generalize w2.setCell ⟨v.C,15,none⟩ (.string o.B) = W3 at *;obtain ⟨OB',oc',x14,x0,x1,x2,x3,x4⟩:=H3.out.top hw3;refine (fV x14 hw.le).mono ?_;rintro e w4 ⟨rfl,hb⟩;have H4:=hid (H3.out.later hA hb);have K4:=hid (K3.out.trans (aB hb));have z1:=ae hb x1;clear hb x0 x1 x2 x3 x4 x14 z15 zf z2;go_wp2_with fail;refine (wC hA H4.out o.R hB hR).mono ?_
 rintro e w5 (⟨h0,rfl,hc,hk⟩ | ⟨h0,rfl,hb⟩)
 ·rw [sK] at hc;have HC:=hid hc;have HK:=hid (K4.out.trans hk);clear hc hk;go_wp2_with fail;go_end0;exact .inl ⟨h0,rfl,HC.out,HK.out⟩
 ·exact ⟨rfl,.inr ⟨h0,rfl,hb⟩⟩
end
end Go.Proofs.YtepnnenohjfkbaaGreatDoor

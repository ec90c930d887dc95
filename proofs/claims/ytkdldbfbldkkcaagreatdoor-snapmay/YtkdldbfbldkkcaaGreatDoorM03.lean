/-
  Texts Ws Wt Vb Fa Ia Ls.
-/
import Derived.Deep.RegionHeld3
import Derived.Laws.CopyRow
import Derived.Laws.IdiomCopy
import Derived.RegionDies
import Derived.Test.YtkdldbfbldkkcaaGreatDoorM00
import Derived.Test.YtkdldbfbldkkcaaGreatDoorM01
import Derived.Test.YtkdldbfbldkkcaaGreatDoorM02
set_option linter.unusedVariables false
set_option maxRecDepth 100000
set_option maxHeartbeats 16000000
namespace Go.Proofs.YtkdldbfbldkkcaaGreatDoor
open Go.RowKit
def cr (w : World) (a : Option Addr) (n : Nat) (xs : List Sg) : Prop :=
 xs.length = n ∧ n ≤ 1099511627776 ∧ (n = 0 ∨ ∃ b off,a = some ⟨b,off,none⟩ ∧ ∀ j x,xs[j]? = some x → w.cell? ⟨b,off + j * 2,none⟩ = some (.string x.1) ∧ w.cell? ⟨b,off + j * 2 + 1,none⟩ = some (.string x.2))
theorem cr.later {w w' : World} {a : Option Addr} {n : Nat} {xs : List Sg} (h : cr w a n xs) (hb : Below w.heap.size w w') : cr w' a n xs:=by
 refine ⟨h.1,h.2.1,h.2.2.imp id ?_⟩;rintro ⟨b,off,ha,hc⟩
 refine ⟨b,off,ha,fun j x hj => ?_⟩
 obtain ⟨h1,h2⟩:=hc j x hj
 exact ⟨(hb.cell (by exact block_lt_of_cell h1)).trans h1,(hb.cell (by exact block_lt_of_cell h2)).trans h2⟩
theorem cr.kept {S : Nat → Prop} {w w' : World} {a : Option Addr} {n : Nat} {xs : List Sg} (h : cr w a n xs) (hk : Kept S w w') (hS : ∀ b off c,a = some ⟨b,off,c⟩ → ¬ S b) : cr w' a n xs:=by
 refine ⟨h.1,h.2.1,h.2.2.imp id ?_⟩;rintro ⟨b,off,ha,hc⟩
 exact ⟨b,off,ha,fun j x hj => ⟨hk.cell (hc j x hj).1 (hS _ _ _ ha),hk.cell (hc j x hj).2 (hS _ _ _ ha)⟩⟩
theorem az {α : Type} {xs : List α} {j : Nat} {x : α} (h : xs[j]? = some x) : j < xs.length:=by
 rcases Nat.lt_or_ge j xs.length with hl | hl
 ·exact hl
 ·rw [List.getElem?_eq_none hl] at h; cases h
section
variable (s p : ByteArray) (at_ beg : Int) (A B C : Nat) (aa : Option Addr) (an ac : Nat) (ah : List Sg) (w : World)
theorem zQ {wr : World} {p' r' : ByteArray} (hBl : B < wr.heap.size) (hCl : C < wr.heap.size) (yB : wr.cell? ⟨B,0,none⟩ = some (.string p)) (yC : wr.cell? ⟨C,0,none⟩ = some (.int .i64 beg)) :
  let W1:=wr.alloc (bD p' r')
  W1.cell? ⟨wr.heap.size,0,none⟩ = some (.string p') ∧ W1.cell? ⟨wr.heap.size,1,none⟩ = some (.string r') ∧ W1.cell? ⟨B,0,none⟩ = some (.string p) ∧ W1.cell? ⟨C,0,none⟩ = some (.int .i64 beg):=by
 refine ⟨aB,aB,?_,?_⟩
 ·rw [(aj wr _).cell (by exact hBl)]; exact yB
 ·rw [(aj wr _).cell (by exact hCl)]; exact yC
theorem vZ {ah : List Sg} {x y : Sg} {j : Nat} (hy : ah[j]? = some y) (h : im ah x = false) : ((y.1.toList == x.1.toList) && (y.2.toList == x.2.toList)) = false:=by
 have hm:=List.mem_of_getElem? hy
 simp only [im,List.any_eq_false] at h
 have:=h y hm
 exact cm
theorem xm (hs : s.size ≤ 1073741824) (hl : cA s 256 = true) (hah : cr w aa an ah) (h2 : im ah (p,s) = false)
  (hA : w.cell? ⟨A,0,none⟩ = some (.slice aa an ac)) (hB : w.cell? ⟨B,0,none⟩ = some (.string p)) (hC : w.cell? ⟨C,0,none⟩ = some (.int .i64 beg)) :
  Calls Tryz.prog 121 #[.string s,.int .i64 at_,.pointer (some ⟨A,0,none⟩),.pointer (some ⟨B,0,none⟩),.pointer (some ⟨C,0,none⟩)] w (kr w):=by
 have HL:=hid (cV s at_ w hs hl);have hAl:=block_lt_of_cell hA;have hBl:=block_lt_of_cell hB;have hCl:=block_lt_of_cell hC;have HAH:=hid hah;have hlen:=hah.1;have hbig:=hah.2.1;clear hah
 go_enter Tryz.func121,Tryz.ntmps121
 go_wp2_with fail;refine HL.out.mono ?_;rintro e w1 ⟨rfl,hb⟩
 have hA1 : w1.cell? ⟨A,0,none⟩ = some (.slice aa an ac):=(hb.cell (by exact hAl)).trans hA
 have B1:=hid hb;have HB:=hid hB;have HC:=hid hC;clear hb hA hB hC HL;go_wp2_with fail
 go_loopw [14] (fun i wr => ∃ j : Nat,j ≤ an ∧ i = .int .i64 j ∧ Below w.heap.size w wr) (fun i _ => an - (intOf i).toNat)
 case atStart => exact ⟨0,ae,rfl,B1.out⟩
 case round =>
  obtain ⟨j,hj,rfl,hB2⟩:=hrel;have BW:=hid hB2;clear hB2
  by_cases hlt : j < an
  ·obtain ⟨x,hx⟩ : ∃ x,ah[j]? = some x:=⟨_,ba ae⟩
   obtain ⟨ab,off,rfl,hc⟩ : ∃ b off,aa = some ⟨b,off,none⟩ ∧ ∀ j x,ah[j]? = some x → wr.cell? ⟨b,off + j * 2,none⟩ = some (.string x.1) ∧ wr.cell? ⟨b,off + j * 2 + 1,none⟩ = some (.string x.2):=by
    rcases (HAH.out.later BW.out).2.2 with h0 | h
    ·omega
    ·exact h
   obtain ⟨y0,y1⟩:=hc j x hx;obtain ⟨p',r'⟩:=x;have hne:=vZ hx h2;clear hc
   have yB : wr.cell? ⟨B,0,none⟩ = some (.string p):=(BW.out.cell (by exact hBl)).trans HB.out
   have yC : wr.cell? ⟨C,0,none⟩ = some (.int .i64 beg):=(BW.out.cell (by exact hCl)).trans HC.out
   have hBl':=block_lt_of_cell yB;have hCl':=block_lt_of_cell yC
   simp only at y0 y1 hne
   obtain ⟨z0,z1,z2,z3⟩:=zQ (p':=p') (r':=r') p beg B C hBl' hCl' yB yC;go_wp2_with fail;have BN:=hid (aj wr (bD p' r'));generalize wr.alloc (bD p' r') = W1 at *;clear y0 y1 yB yC;exact Hs
  ·go_wp2_with fail;go_end0;exact ⟨rfl,BW.out⟩
theorem CG (hs : s.size ≤ 1073741824) (hl : cA s 256 = false) :
  Calls Tryz.prog 121 #[.string s,.int .i64 at_,.pointer (some ⟨A,0,none⟩),.pointer (some ⟨B,0,none⟩),.pointer (some ⟨C,0,none⟩)] w (kC 15 w):=by
 have HL:=hid (iA s at_ w hs hl)
 go_enter Tryz.func121,Tryz.ntmps121
 go_wp2_with fail;refine HL.out.mono ?_;rintro e w1 ⟨⟨q,rfl⟩,hb⟩;exact ⟨rfl,⟨q,rfl⟩,hb⟩
theorem sO (hs : s.size ≤ 1073741824) (hl : cA s 256 = true) (hah : cr w aa an ah) (k : Nat) (hk : ∃ y,ah[k]? = some y ∧ y.1.toList = p.toList ∧ y.2.toList = s.toList) (h2 : im (ah.take k) (p,s) = false)
  (hA : w.cell? ⟨A,0,none⟩ = some (.slice aa an ac)) (hB : w.cell? ⟨B,0,none⟩ = some (.string p)) (hC : w.cell? ⟨C,0,none⟩ = some (.int .i64 beg)) :
  Calls Tryz.prog 121 #[.string s,.int .i64 at_,.pointer (some ⟨A,0,none⟩),.pointer (some ⟨B,0,none⟩),.pointer (some ⟨C,0,none⟩)] w (kC 16 w):=by
 have HL:=hid (cV s at_ w hs hl);have hAl:=block_lt_of_cell hA;have hBl:=block_lt_of_cell hB;have hCl:=block_lt_of_cell hC;have HAH:=hid hah;have hlen:=hah.1;have hbig:=hah.2.1;clear hah;obtain ⟨y,hy,hy1,hy2⟩:=hk;have hkl:=az hy;rw [hlen] at hkl
 go_enter Tryz.func121,Tryz.ntmps121
 go_wp2_with fail;refine HL.out.mono ?_;rintro e w1 ⟨rfl,hb⟩
 have hA1 : w1.cell? ⟨A,0,none⟩ = some (.slice aa an ac):=(hb.cell (by exact hAl)).trans hA
 have B1:=hid hb;have HB:=hid hB;have HC:=hid hC;clear hb hA hB hC HL;go_wp2_with fail
 go_loopw [14] (fun i wr => ∃ j : Nat,j ≤ k ∧ i = .int .i64 j ∧ Below w.heap.size w wr) (fun i _ => an - (intOf i).toNat)
 case atStart => exact ⟨0,ae,rfl,B1.out⟩
 case round =>
  obtain ⟨j,hj,rfl,hB2⟩:=hrel;have BW:=hid hB2;clear hB2;obtain ⟨x,hx⟩ : ∃ x,ah[j]? = some x:=⟨_,ba ae⟩;have hlt : j < an:=ae
  obtain ⟨ab,off,rfl,hc⟩ : ∃ b off,aa = some ⟨b,off,none⟩ ∧ ∀ j x,ah[j]? = some x → wr.cell? ⟨b,off + j * 2,none⟩ = some (.string x.1) ∧ wr.cell? ⟨b,off + j * 2 + 1,none⟩ = some (.string x.2):=by
   rcases (HAH.out.later BW.out).2.2 with h0 | h
   ·omega
   ·exact h
  obtain ⟨y0,y1⟩:=hc j x hx;obtain ⟨p',r'⟩:=x
  have hne : j < k → ((p'.toList == p.toList) && (r'.toList == s.toList)) = false:=fun hlk => vZ (ah:=ah.take k) (x:=(p,s)) (y:=(p',r')) (j:=j) (by rw [List.getElem?_take_of_lt hlk]; exact hx) h2
  have heq : j = k → p' = y.1 ∧ r' = y.2:=fun h => by subst h; rw [hx] at hy; simp at hy; subst hy; exact ⟨rfl,rfl⟩
  clear hc
  have yB : wr.cell? ⟨B,0,none⟩ = some (.string p):=(BW.out.cell (by exact hBl)).trans HB.out
  have yC : wr.cell? ⟨C,0,none⟩ = some (.int .i64 beg):=(BW.out.cell (by exact hCl)).trans HC.out
  have hBl':=block_lt_of_cell yB;have hCl':=block_lt_of_cell yC
  simp only at y0 y1
  obtain ⟨z0,z1,z2,z3⟩:=zQ (p':=p') (r':=r') p beg B C hBl' hCl' yB yC;go_wp2_with fail;have BN:=hid (aj wr (bD p' r'));generalize wr.alloc (bD p' r') = W1 at *;clear y0 y1 yB yC
  by_cases hjk : j < k
  ·have hne:=hne hjk;clear heq;exact Hs
  ·obtain ⟨rfl,rfl⟩:=heq ae
   have k1 : (y.1.toList == p.toList) = true:=by simp [hy1]
   have k2 : (y.2.toList == s.toList) = true:=by simp [hy2]
   clear hne hy1 hy2
   go_region_dies
   all_goals (refine (dX rfl).mono ?_; rintro e w' ⟨rfl,rfl⟩; exact ⟨rfl,⟨_,rfl⟩,(BW.out.trans (BN.out.mono BW.out.size)).drew⟩)
end
theorem i9 {w w1 w2 : World} (h : Below w.heap.size w w1) (h' : Below w1.heap.size w1 w2) : Below w.heap.size w w2:=h.trans (h'.mono h.size)
theorem Stp.ne {R g g' b : Nat} {w w' : World} (h : Stp R g g' w w') (hb : b < w.heap.size) (hn : b ≠ g) : b ≠ g':=by
 rcases h.m with rfl | h
 ·exact hn
 ·omega
theorem Wr.g_lt {w : World} {R g cap : Nat} {bs : List Int} (h : Wr w R g cap bs) : g < w.heap.size:=h.row.lt
theorem cP {fn : Func} {p : Tmp} {ty : TypeId} (h : fn.results = #[.cell p ty]) (tmps : Array Value) (P : Program) (w : World) :
  (results fn tmps).run P w = ((asAddr (tmps.getD p undef)).run P w).andThen fun a w₁ => (loadVar ty a).run P w₁:=by
 simp only [results,h]
 simp [Sem.run_bind,Result.andThen]
theorem ay (w : World) (b o : Nat) (v : Value) : Kept (fun k => k = b) w (w.setCell ⟨b,o,none⟩ v):=⟨rfl,rfl,rfl,dH,fun k hk hs => Below.heap_setCell _ _ _ _ nt⟩
theorem Wr.set {w : World} {R g cap : Nat} {bs : List Int} (h : Wr w R g cap bs) {b o : Nat} {v : Value} (h1 : b ≠ R) (h2 : b ≠ g) : Wr (w.setCell ⟨b,o,none⟩ v) R g cap bs:=h.kept (ay w b o v) (Ne.symm h1) (Ne.symm h2)
theorem Stp.set {R g g' : Nat} {w w' : World} (h : Stp R g g' w w') {b o : Nat} {v : Value} (hb : w.heap.size ≤ b) : Stp R g g' w (w'.setCell ⟨b,o,none⟩ v) :=
 ⟨h.k.then (ay w' b o v) (fun k hk hb' => ae),h.m⟩
theorem Stp.block {R g g' : Nat} {w w' : World} (h : Stp R g g' w w') {b : Nat} (hb : b < w.heap.size) (h1 : b ≠ R) (h2 : b ≠ g) : w'.heap[b]? = w.heap[b]?:=h.k.block b hb (by simp [h1,h2])
theorem bY {w : World} {b : Nat} {u v : Value} {t : TypeId} (h : w.heap[b]? = some (.cells #[u,v] t)) : w.cell? ⟨b,0,none⟩ = some u ∧ w.cell? ⟨b,1,none⟩ = some v ∧ w.frozen? ⟨b,0,none⟩ = false ∧ w.frozen? ⟨b,1,none⟩ = false:=by
 simp [World.cell?,World.frozen?,h]
def mG (w : World) (p r : ByteArray) (aa : Option Addr) (an ac : Nat) (n : Nat) : World :=
 (((w.alloc (bD p r)).alloc (jp aa an ac)).alloc (bD ⟨#[]⟩ ⟨#[]⟩)).alloc (bJ n)
theorem li (w : World) (p r : ByteArray) (aa : Option Addr) (an ac n : Nat) : Below w.heap.size w (mG w p r aa an ac n) ∧ (mG w p r aa an ac n).heap.size = w.heap.size + 4 ∧
  (mG w p r aa an ac n).cell? ⟨w.heap.size,0,none⟩ = some (.string p) ∧ (mG w p r aa an ac n).cell? ⟨w.heap.size,1,none⟩ = some (.string r) ∧
  (mG w p r aa an ac n).cell? ⟨w.heap.size + 1,0,none⟩ = some (.slice aa an ac) ∧ (mG w p r aa an ac n).cell? ⟨w.heap.size + 1 + 1 + 1,0,none⟩ = some (.int .i64 n) ∧ (mG w p r aa an ac n).heap[w.heap.size + 1 + 1]? = some (bD ⟨#[]⟩ ⟨#[]⟩):=by
 unfold mG;refine ⟨?_,au,aB,aB,aB,aB,?_⟩;rotate_left
 ·have h1:=(MapKept.heap_alloc ((w.alloc (bD p r)).alloc (jp aa an ac)) (bD ⟨#[]⟩ ⟨#[]⟩)).1;have h2:=(aj (((w.alloc (bD p r)).alloc (jp aa an ac)).alloc (bD ⟨#[]⟩ ⟨#[]⟩)) (bJ n)).block (w.heap.size + 1 + 1) au;rw [h2]
  simpa using h1
 exact ((((Below.refl _ w).alloc (Nat.le_refl _) _).alloc cE _).alloc cE _).alloc cE _
theorem xA (R g cap : Nat) (bs : List Int) (p r : ByteArray) (aa : Option Addr) (an ac : Nat) (ah : List Sg) (w : World) (h : Wr w R g cap bs) (hb : bs.length + 100 ≤ 1099511627776)
  (hah : cr w aa an ah) (hne : ∀ b off c,aa = some ⟨b,off,c⟩ → b ≠ R ∧ b ≠ g) (hx : cZ ah (p,r) = 0) :
  Calls Tryz.prog 90 #[cW R,.agg #[.string p,.string r],.slice aa an ac] w (nv R g bs (bX (p,r)) (.agg #[.string p,.string r]) w):=by
 obtain ⟨s1,l1,s2,l2,t2⟩:=fJ hx
 simp only at s1 l1 s2 l2 t2
 clear hx;obtain ⟨B0,z0,x0,x1,x2,x3,x4⟩:=li w p r aa an ac bs.length;have H4:=hid (h.later B0);have HAH:=hid (hah.later B0);have hRl:=h.lt;have hgl:=h.g_lt;have u1:=eB p 8 s1;have u2:=eB r 8 s2;have hmp:=kV;have hcp:=qB;have hmt:=cX;have hct:=dP
 have c0 : (((w.alloc (bD p r)).alloc (jp aa an ac)).alloc (bD ⟨#[]⟩ ⟨#[]⟩)).cell? ⟨R,0,none⟩ = some (.slice (some ⟨g,0,none⟩) bs.length cap):=by
  exact zn
 have HW4 : (((w.alloc (bD p r)).alloc (jp aa an ac)).alloc (bD ⟨#[]⟩ ⟨#[]⟩)).alloc (bJ bs.length) = mG w p r aa an ac bs.length:=rfl;generalize mG w p r aa an ac bs.length = W4 at *;have B4:=hid B0;clear h hah B0
 have HT1:=hid (di R g cap bs p 8 120 #[] W4 H4.out ae ae ae (fun _ _ => rfl) (cV p bs.length W4 ae Aq))
 go_enter Tryz.func90,Tryz.ntmps90
 go_wp2_with fail;refine (cJ R _ _ _ _ c0).mono ?_;rintro e w1 ⟨rfl,rfl⟩;clear c0;go_wp2_with fail;refine HT1.out.mono ?_;rintro e w5 ⟨rfl,g1,cap1,hw5,hs5⟩;have y0:=hs5.cell x0 ae ae;have y1:=hs5.cell x1 ae ae;have y2:=hs5.cell x2 ae ae;have y3:=hs5.cell x3 ae ae;have hN1 : w.heap.size + 1 + 1 ≠ g1:=hs5.ne ae ae;have y4:=(hs5.block (b:=w.heap.size + 1 + 1) ae ae ae).trans x4;have hl5:=block_lt_of_cell y3;have hl5':=block_lt_of_cell y1;have B6:=hid (aj w5 (jK p));have N6:=hid (fD w5 (.string p) 9);have W5:=hid hw5;have S5:=hid ((Stp.of_below B4.out).trans hs5)
 have A5:=hid (HAH.out.kept hs5.k (fun b off c ha => by have:=hne b off c ha; simp; omega))
 clear HT1 hw5 hs5 x0 x1 x2 x3 H4 HW4
 have HT2:=hid (di R g1 cap1 (bs ++ lA p) r 8 121 #[.pointer (some ⟨w.heap.size + 1,0,none⟩),.pointer (some ⟨w5.heap.size,0,none⟩),.pointer (some ⟨w.heap.size + 1 + 1 + 1,0,none⟩)] _ (W5.out.later B6.out) ae ae aI (fun _ _ => rfl)
  (xm r p _ bs.length (w.heap.size + 1) w5.heap.size (w.heap.size + 1 + 1 + 1) aa an ac ah _ ae (by rw [eG r 256 8 ae s2]; exact l2) (A5.out.later B6.out) t2 ((B6.out.cell (by exact block_lt_of_cell y2)).trans y2) N6.out ((B6.out.cell (by exact hl5)).trans y3)))
 go_wp2_with fail;refine HT2.out.mono ?_;rintro e w7 ⟨rfl,g2,cap2,hw7,hs7⟩;have W7:=hid hw7;have S7:=hid ((S5.out.trans (Stp.of_below B6.out)).trans hs7)
 have q0:=hs7.cell N6.out ae (by have:=W5.out.g_lt; omega)
 have q1:=block_lt_of_cell q0;have hz6 : (w5.alloc (jK p)).heap.size = w5.heap.size + 1:=au;have q2:=(hs7.block (b:=w.heap.size + 1 + 1) ae ae hN1).trans ((B6.out.block _ ae).trans y4);obtain ⟨q3,q4,q5,q6⟩:=bY q2;have hN2 : w.heap.size + 1 + 1 ≠ g2:=hs7.ne ae hN1;clear hw7 hs7 HT2 y0 y1 y2 y3 y4 q2;go_wp2_with fail;refine bodyPost_ret (v:=.agg #[.string p,.string r]) ?_ rfl ⟨rfl,g2,cap2,?_,?_⟩
 ·exact cF
 ·have:=(W7.out.set (b:=w.heap.size + 1 + 1) (o:=0) (v:=.string p) ae hN2).set (b:=w.heap.size + 1 + 1) (o:=1) (v:=.string r) ae hN2
  simpa [bX,lA,List.append_assoc] using this
 ·exact (S7.out.set ae).set ae
theorem rA (R g cap : Nat) (bs : List Int) (p r : ByteArray) (aa : Option Addr) (an ac : Nat) (w : World) (h : Wr w R g cap bs) (x : Int)
  (ht : ∀ W,Wr W R g cap bs → Calls Tryz.prog 198 #[.pointer (some ⟨R,0,none⟩),.string p,.int .i64 8,.func (.func 120) #[] #[]] W (aU R g x W)) :
  Calls Tryz.prog 90 #[cW R,.agg #[.string p,.string r],.slice aa an ac] w (aU R g x w):=by
 obtain ⟨B0,z0,x0,x1,x2,x3,x4⟩:=li w p r aa an ac bs.length;have H4:=hid (h.later B0);have hRl:=h.lt;have hgl:=h.g_lt;have hmp:=kV;have hcp:=qB;have hmt:=cX;have hct:=dP
 have c0 : (((w.alloc (bD p r)).alloc (jp aa an ac)).alloc (bD ⟨#[]⟩ ⟨#[]⟩)).cell? ⟨R,0,none⟩ = some (.slice (some ⟨g,0,none⟩) bs.length cap):=by
  exact zn
 have HW4 : (((w.alloc (bD p r)).alloc (jp aa an ac)).alloc (bD ⟨#[]⟩ ⟨#[]⟩)).alloc (bJ bs.length) = mG w p r aa an ac bs.length:=rfl;generalize mG w p r aa an ac bs.length = W4 at *;have B4:=hid B0;clear h B0;have HT1:=hid (ht W4 H4.out);clear ht
 go_enter Tryz.func90,Tryz.ntmps90
 go_wp2_with fail;refine (cJ R _ _ _ _ c0).mono ?_;rintro e w1 ⟨rfl,rfl⟩;clear c0;go_wp2_with fail;refine HT1.out.mono ?_;rintro e w5 ⟨⟨q,rfl⟩,hk⟩;exact ⟨rfl,⟨q,rfl⟩,(aX B4.out).trans hk⟩
theorem mI (R g cap : Nat) (bs : List Int) (p r : ByteArray) (aa : Option Addr) (an ac : Nat) (ah : List Sg) (w : World) (h : Wr w R g cap bs) (hb : bs.length + 100 ≤ 1099511627776)
  (hah : cr w aa an ah) (hne : ∀ b off c,aa = some ⟨b,off,c⟩ → b ≠ R ∧ b ≠ g) (s1 : p.size ≤ 8) (l1 : cA p 8 = true) (x : Int)
  (ht : ∀ W g1 cap1 bs1 A B C beg,Wr W R g1 cap1 bs1 → cr W aa an ah → W.cell? ⟨A,0,none⟩ = some (.slice aa an ac) → W.cell? ⟨B,0,none⟩ = some (.string p) → W.cell? ⟨C,0,none⟩ = some (.int .i64 beg) →
   Calls Tryz.prog 198 #[.pointer (some ⟨R,0,none⟩),.string r,.int .i64 8,.func (.func 121) #[] #[.pointer (some ⟨A,0,none⟩),.pointer (some ⟨B,0,none⟩),.pointer (some ⟨C,0,none⟩)]] W (aU R g1 x W)) :
  Calls Tryz.prog 90 #[cW R,.agg #[.string p,.string r],.slice aa an ac] w (aU R g x w):=by
 obtain ⟨B0,z0,x0,x1,x2,x3,x4⟩:=li w p r aa an ac bs.length;have H4:=hid (h.later B0);have HAH:=hid (hah.later B0);have hRl:=h.lt;have hgl:=h.g_lt;have u1:=eB p 8 s1;have hmp:=kV;have hcp:=qB;have hmt:=cX;have hct:=dP
 have c0 : (((w.alloc (bD p r)).alloc (jp aa an ac)).alloc (bD ⟨#[]⟩ ⟨#[]⟩)).cell? ⟨R,0,none⟩ = some (.slice (some ⟨g,0,none⟩) bs.length cap):=by
  exact zn
 have HW4 : (((w.alloc (bD p r)).alloc (jp aa an ac)).alloc (bD ⟨#[]⟩ ⟨#[]⟩)).alloc (bJ bs.length) = mG w p r aa an ac bs.length:=rfl;generalize mG w p r aa an ac bs.length = W4 at *;have B4:=hid B0;clear h hah B0
 have HT1:=hid (di R g cap bs p 8 120 #[] W4 H4.out ae ae ae (fun _ _ => rfl) (cV p bs.length W4 ae Aq))
 have HT:=hid ht;clear ht
 go_enter Tryz.func90,Tryz.ntmps90
 go_wp2_with fail;refine (cJ R _ _ _ _ c0).mono ?_;rintro e w1 ⟨rfl,rfl⟩;clear c0;go_wp2_with fail;refine HT1.out.mono ?_;rintro e w5 ⟨rfl,g1,cap1,hw5,hs5⟩;have y0:=hs5.cell x0 ae ae;have y1:=hs5.cell x1 ae ae;have y2:=hs5.cell x2 ae ae;have y3:=hs5.cell x3 ae ae;have hN1 : w.heap.size + 1 + 1 ≠ g1:=hs5.ne ae ae;have y4:=(hs5.block (b:=w.heap.size + 1 + 1) ae ae ae).trans x4;have hl5:=block_lt_of_cell y3;have hl5':=block_lt_of_cell y1;have B6:=hid (aj w5 (jK p));have N6:=hid (fD w5 (.string p) 9);have W5:=hid hw5;have S5:=hid ((Stp.of_below B4.out).trans hs5)
 have A5:=hid (HAH.out.kept hs5.k (fun b off c ha => by have:=hne b off c ha; simp; omega))
 clear HT1 hw5 hs5 x0 x1 x2 x3 H4 HW4
 have HT2:=hid (HT.out _ g1 cap1 _ (w.heap.size + 1) w5.heap.size (w.heap.size + 1 + 1 + 1) bs.length (W5.out.later B6.out) (A5.out.later B6.out) ((B6.out.cell (by exact block_lt_of_cell y2)).trans y2) N6.out ((B6.out.cell (by exact hl5)).trans y3))
 clear HT;go_wp2_with fail;refine HT2.out.mono ?_;rintro e w7 ⟨⟨q,rfl⟩,hk⟩;refine ⟨rfl,⟨q,rfl⟩,?_⟩
 refine (S5.out.k.trans (aX B6.out)).then hk (fun k hkl hh => ?_)
 rcases hh with rfl | rfl
 ·exact .inl rfl
 ·rcases S5.out.m with h | h
  ·exact .inr h
  ·omega
theorem CV (R g cap : Nat) (bs : List Int) (p r : ByteArray) (aa : Option Addr) (an ac : Nat) (ah : List Sg) (w : World) (h : Wr w R g cap bs) (hb : bs.length + 100 ≤ 1099511627776)
  (hah : cr w aa an ah) (hne : ∀ b off c,aa = some ⟨b,off,c⟩ → b ≠ R ∧ b ≠ g) (hx : cZ ah (p,r) ≠ 0) :
  Calls Tryz.prog 90 #[cW R,.agg #[.string p,.string r],.slice aa an ac] w (aU R g (cZ ah (p,r)) w):=by
 unfold cZ at hx ⊢
 simp only at hx ⊢
 by_cases s1 : 8 < p.size
 ·rw [if_pos s1]
  exact rA R g cap bs p r aa an ac w h 13 (fun W hW => fh R g cap bs p 8 _ W hW ae)
 rw [if_neg s1] at hx ⊢
 by_cases l1 : cA p 8 = false
 ·rw [if_pos l1]
  exact rA R g cap bs p r aa an ac w h 15 (fun W hW => eQ R g cap bs p 8 120 #[] 15 W hW ae (fun _ _ => rfl) (iA p bs.length W ae (by rw [eG p 256 8 ae ae]; exact l1)))
 rw [if_neg l1] at hx ⊢
 have l1' : cA p 8 = true:=by simpa using l1
 by_cases s2 : 8 < r.size
 ·rw [if_pos s2]
  exact mI R g cap bs p r aa an ac ah w h hb hah hne ae l1' 13 (fun W g1 cap1 bs1 A B C beg hW _ _ _ _ => fh R g1 cap1 bs1 r 8 _ W hW ae)
 rw [if_neg s2] at hx ⊢
 by_cases l2 : cA r 8 = false
 ·rw [if_pos l2]
  exact mI R g cap bs p r aa an ac ah w h hb hah hne ae l1' 15 (fun W g1 cap1 bs1 A B C beg hW _ _ _ _ => eQ R g1 cap1 bs1 r 8 121 _ 15 W hW ae (fun _ _ => rfl) (CG r _ A B C W ae (by rw [eG r 256 8 ae ae]; exact l2)))
 rw [if_neg l2] at hx ⊢
 have l2' : cA r 8 = true:=by simpa using l2
 by_cases t2 : im ah (p,r) = true
 ·rw [if_pos t2];obtain ⟨k,y,h1,h2,h3,h4⟩:=Ge t2
  exact mI R g cap bs p r aa an ac ah w h hb hah hne ae l1' 16 (fun W g1 cap1 bs1 A B C beg hW hA hc1 hc2 hc3 => eQ R g1 cap1 bs1 r 8 121 _ 16 W hW ae (fun _ _ => rfl)
   (sO r p _ beg A B C aa an ac ah W ae (by rw [eG r 256 8 ae ae]; exact l2') hA k ⟨y,h1,h2,h3⟩ h4 hc1 hc2 hc3))
 ·rw [if_neg t2] at hx; exact absurd rfl hx
theorem aS {w : World} {b i : Nat} {a : Array Value} {t : TypeId} {u : Value} (h : w.heap[b]? = some (.cells a t)) : (w.setCell ⟨b,i,none⟩ u).heap[b]? = some (.cells (a.setIfInBounds i u) t):=by
 have hl : b < w.heap.size:=by
  exact Ct
 rw [Array.getElem?_eq_getElem hl] at h
 simp only [Option.some.injEq] at h
 simp [World.setCell,hl,Array.getElem_modify,h]
theorem jy {S : Nat → Prop} {w w' : World} {base sz OB n oc : Nat} {e : TypeId} {xs : List Value} (h : w.ownsRow base e sz (.slice (some ⟨OB,0,none⟩) n oc) n xs) (hk : Kept S w w') (hS : ¬ S OB) : w'.ownsRow base e sz (.slice (some ⟨OB,0,none⟩) n oc) n xs:=by
 rcases h.2 with ⟨e,_⟩ | ⟨g,cap,cur,e,h4,h5,h6⟩
 ·cases e
 ·cases e
  have hl : OB < w.heap.size:=by
   exact zR
  exact ⟨h.1,.inr ⟨_,_,cur,rfl,h4,(hk.block _ hl hS).trans h5,h6⟩⟩
theorem below_drewN (w : World) (m : Nat) : Below w.heap.size w (w.drewN m):=(Kept.drewN (fun _ => False) w m).to_below (Nat.le_refl _) (fun _ _ h => h)
theorem ag {W W' : World} {b o : Nat} {u : Value} (hb : Below W.heap.size W W') (h : W.cell? ⟨b,o,none⟩ = some u) : W'.cell? ⟨b,o,none⟩ = some u:=(hb.cell (by exact block_lt_of_cell h)).trans h
section
variable {v : Ev} {w1 w : World} {s : Cs}
theorem CI.OB_ne (hA : EvA v w1) {OB : Nat} (h : OB = v.O0 ∨ w1.heap.size ≤ OB) : OB ≠ v.C ∧ OB ≠ v.SH ∧ OB ≠ v.FL:=by
 have h1:=hA.c;have h2:=hA.s;have h3:=hA.f;have h4:=hA.co;have h5:=hA.so;have h6:=hA.fo;omega
theorem CI.put (hA : EvA v w1) (h : CI v w1 w s) (i : Nat) (u : Value) (s' : Cs) (hop : s'.op = s.op) (hsh : s'.sh = s.sh) (hfl : s'.fl = s.fl)
  (hv : ∀ ov,(ckV v s ov).setIfInBounds i u = ckV v s' ov) : CI v w1 (w.setCell ⟨v.C,i,none⟩ u) s':=by
 obtain ⟨OB,oc,h1,h2,h3⟩:=h.ck;have hk:=ay w v.C i u;have hne:=CI.OB_ne hA h3
 refine ⟨h.kept.then hk (fun k _ e => .inl e),⟨OB,oc,?_,?_,h3⟩,?_,?_⟩
 ·rw [aS h1,hv,hop]
 ·rw [hop]; exact jy h2 hk (fun e => hne.1 e)
 ·rw [hsh]; exact h.sh.kept hk (fun e => hA.cs e.symm)
 ·rw [hfl]; exact h.fl.kept hk (fun e => hA.cf e.symm)
theorem CI.putSt (hA : EvA v w1) (h : CI v w1 w s) (t : ByteArray) : CI v w1 (w.setCell ⟨v.C,15,none⟩ (.string t)) { s with st:=t }:=h.put hA 15 _ _ rfl rfl rfl (fun _ => rfl)
theorem CI.putDead (hA : EvA v w1) (h : CI v w1 w s) (b : Bool) : CI v w1 (w.setCell ⟨v.C,17,none⟩ (.bool b)) { s with dead:=b }:=h.put hA 17 _ _ rfl rfl rfl (fun _ => rfl)
theorem CI.putPc (hA : EvA v w1) (h : CI v w1 w s) (p : Nat) : CI v w1 (w.setCell ⟨v.C,16,none⟩ (.int .i64 p)) { s with pc:=p }:=h.put hA 16 _ _ rfl rfl rfl (fun _ => rfl)
theorem CI.putHi (hA : EvA v w1) (h : CI v w1 w s) (p : Nat) : CI v w1 (w.setCell ⟨v.C,13,none⟩ (.int .i64 p)) { s with hi:=p }:=h.put hA 13 _ _ rfl rfl rfl (fun _ => rfl)
def thv (x : Int) : Ending:=.panicked [{ v:=.iface 39 (.int .i64 x),recovered:=false }]
structure Bad (v : Ev) (w1 : World) (pc : Nat) (w : World) : Prop where
 kept : Kept v.S w1 w
 pc : w.cell? ⟨v.C,16,none⟩ = some (.int .i64 pc)
theorem CI.bad (h : CI v w1 w s) : Bad v w1 s.pc w:=⟨h.kept,h.pc⟩
abbrev Doz (v : Ev) (w1 w : World) (pc : Nat) (E : Int) (val : Value) (s' : Cs) : Ending → World → Prop:=fun e w' => (E = 0 ∧ e = .returned val ∧ CI v w1 w' s' ∧ Kept (fun k => k = v.C) w w') ∨ (E ≠ 0 ∧ e = thv E ∧ Bad v w1 pc w')
abbrev Rdz (w : World) (E : Int) (val : Value) : Ending → World → Prop:=fun e w' => (E = 0 ∧ e = .returned val ∧ Below w.heap.size w w') ∨ (E ≠ 0 ∧ e = thv E ∧ Below w.heap.size w w')
abbrev kD : Value:=.tuple #[]
theorem fk (x : Int) (w : World) : Calls Tryz.prog 82 #[.bool true,.int .i64 x] w fun e w' => e = .returned kD ∧ w' = w:=by
 go_enter Tryz.func82,Tryz.ntmps82
 go_wp2_with fail;go_end0;exact ⟨rfl,rfl⟩
theorem BX (x : Int) (w : World) : Calls Tryz.prog 82 #[.bool false,.int .i64 x] w fun e w' => e = thv x ∧ w' = w:=by
 go_enter Tryz.func82,Tryz.ntmps82
 go_wp2_with fail
 first | exact ⟨rfl,rfl,rfl⟩ | (refine ⟨rfl,?_,rfl⟩; rfl)
theorem gu (b : Bool) (x : Int) (w : World) : Calls Tryz.prog 82 #[.bool b,.int .i64 x] w fun e w' => (b = true ∧ e = .returned kD ∧ w' = w) ∨ (b = false ∧ e = thv x ∧ w' = w):=by
 cases b
 ·exact (BX x w).mono fun e w' h => .inr ⟨rfl,h⟩
 ·exact (fk x w).mono fun e w' h => .inl ⟨rfl,h⟩
theorem jI {C OB k oc : Nat} (h1 : w.cell? ⟨C,14,none⟩ = some (.slice (some ⟨OB,0,none⟩) (k + 1) oc)) (hm : k < 64) : Calls Tryz.prog 138 #[.pointer (some ⟨C,0,none⟩)] w fun e w' => e = .returned (.pointer (some ⟨OB,k * 5,none⟩)) ∧ Below w.heap.size w w':=by
 go_enter Tryz.func138,Tryz.ntmps138
 go_wp2_with fail
 go_quiet (fail)
 go_wp2_with fail;go_ret;exact ⟨au,below_drewN _ _⟩
end
def SI (k : IntKind) (w : World) (a : Option Addr) (n : Nat) (l : List Int) : Prop :=
 l.length = n ∧ (n = 0 ∨ ∃ b off,a = some ⟨b,off,none⟩ ∧ ∀ (j : Nat) x,l[j]? = some x → w.cell? ⟨b,off + j,none⟩ = some (.int k x))
theorem SI.later {k : IntKind} {w w' : World} {a : Option Addr} {n : Nat} {l : List Int} (h : SI k w a n l) (hb : Below w.heap.size w w') : SI k w' a n l :=
 ⟨h.1,h.2.imp id fun ⟨b,off,e,hc⟩ => ⟨b,off,e,fun j x hj => ag hb (hc j x hj)⟩⟩
abbrev PgM:=(Option Addr × Nat × Nat) × List Int
abbrev FrM:=Int × Int × ((Option Addr × Nat × Nat) × List Int) × ((Option Addr × Nat × Nat) × List Int)
structure SPg (w : World) (a : Option Addr) (n : Nat) (l : List PgM) : Prop where
 len : l.length = n
 at_ : n = 0 ∨ ∃ b off,a = some ⟨b,off,none⟩ ∧ ∀ (j : Nat) x,l[j]? = some x → w.cell? ⟨b,off + j,none⟩ = some (.slice x.1.1 x.1.2.1 x.1.2.2)
 in_ : ∀ x ∈ l,SI .u8 w x.1.1 x.1.2.1 x.2
theorem SPg.later {w w' : World} {a : Option Addr} {n : Nat} {l : List PgM} (h : SPg w a n l) (hb : Below w.heap.size w w') : SPg w' a n l :=
 ⟨h.len,h.at_.imp id fun ⟨b,off,e,hc⟩ => ⟨b,off,e,fun j x hj => ag hb (hc j x hj)⟩,fun x hx => (h.in_ x hx).later hb⟩
structure SFr (w : World) (a : Option Addr) (n : Nat) (l : List FrM) : Prop where
 len : l.length = n
 at_ : n = 0 ∨ ∃ b off,a = some ⟨b,off,none⟩ ∧ ∀ (j : Nat) x,l[j]? = some x → w.cell? ⟨b,off + j * 4,none⟩ = some (.int .i64 x.1) ∧ w.cell? ⟨b,off + j * 4 + 1,none⟩ = some (.int .i64 x.2.1) ∧ w.cell? ⟨b,off + j * 4 + 2,none⟩ = some (.slice x.2.2.1.1.1 x.2.2.1.1.2.1 x.2.2.1.1.2.2) ∧ w.cell? ⟨b,off + j * 4 + 3,none⟩ = some (.slice x.2.2.2.1.1 x.2.2.2.1.2.1 x.2.2.2.1.2.2)
 in_ : ∀ x ∈ l,SI .u64 w x.2.2.1.1.1 x.2.2.1.1.2.1 x.2.2.1.2 ∧ SI .u64 w x.2.2.2.1.1 x.2.2.2.1.2.1 x.2.2.2.2
theorem SFr.later {w w' : World} {a : Option Addr} {n : Nat} {l : List FrM} (h : SFr w a n l) (hb : Below w.heap.size w w') : SFr w' a n l :=
 ⟨h.len,h.at_.imp id fun ⟨b,off,e,hc⟩ => ⟨b,off,e,fun j x hj => ⟨ag hb (hc j x hj).1,ag hb (hc j x hj).2.1,ag hb (hc j x hj).2.2.1,ag hb (hc j x hj).2.2.2⟩⟩,fun x hx => ⟨(h.in_ x hx).1.later hb,(h.in_ x hx).2.later hb⟩⟩
def lE {α : Type} (f : α → α → Bool) (l1 l2 : List α) : Bool:=decide (l1.length = l2.length) && (List.range l1.length).all fun i => (l1[i]?).elim true fun x => (l2[i]?).elim true (f x)
theorem pR {α : Type} {f : α → α → Bool} {l1 l2 : List α} (h : l1.length ≠ l2.length) : lE f l1 l2 = false:=by simp [lE,h]
theorem IP {α : Type} {f : α → α → Bool} {l1 l2 : List α} {i : Nat} {x y : α} (hx : l1[i]? = some x) (hy : l2[i]? = some y) (h : f x y = false) : lE f l1 l2 = false:=by
 have hi:=az hx;unfold lE;exact Cy
theorem xG {α : Type} {f : α → α → Bool} {l1 l2 : List α} (hl : l1.length = l2.length) (h : ∀ (i : Nat) x y,l1[i]? = some x → l2[i]? = some y → f x y = true) : lE f l1 l2 = true:=by
 unfold lE;exact GJ
def iE (x y : Int) : Bool:=decide (x = y)
theorem Fx (b1 o1 b2 o2 n c1 c2 : Nat) (l1 l2 : List Int) (w : World) (h1 : l1.length = n) (h2 : l2.length = n) (hn : n ≤ 1099511627776)
  (hc1 : ∀ (j : Nat) x,l1[j]? = some x → w.cell? ⟨b1,o1 + j,none⟩ = some (.int .u64 x))
  (hc2 : ∀ (j : Nat) x,l2[j]? = some x → w.cell? ⟨b2,o2 + j,none⟩ = some (.int .u64 x)) :
  Calls Tryz.prog 22 #[.slice (some ⟨b1,o1,none⟩) n c1,.slice (some ⟨b2,o2,none⟩) n c2] w fun e w' => e = .returned (.bool (lE iE l1 l2)) ∧ Below w.heap.size w w':=by
 have hne : ((n : Int) != n) = false:=au;have C1:=hid hc1;have C2:=hid hc2;clear hc1 hc2
 go_enter Tryz.func22,Tryz.ntmps22
 go_wp2
 go_loopw [5] (fun i wr => ∃ k m : Nat,k ≤ n ∧ i = .int .i64 k ∧ wr = w.drewN m ∧ Hid (∀ (i : Nat) x y,i < k → l1[i]? = some x → l2[i]? = some y → iE x y = true)) (fun i _ => n - (intOf i).toNat)
 case atStart => exact ⟨0,0,ae,rfl,rfl,hid (fun i x y hi => ae)⟩
 case round =>
  obtain ⟨k,m,hk,rfl,rfl,HE⟩:=hrel
  by_cases hlt : k < n
  ·obtain ⟨x,hx⟩ : ∃ x,l1[k]? = some x:=⟨_,ba ae⟩;obtain ⟨y,hy⟩ : ∃ y,l2[k]? = some y:=⟨_,ba ae⟩;have g1 : w.cell? ⟨b1,o1 + k,none⟩ = some (.int .u64 x):=C1.out k x hx;have g2 : w.cell? ⟨b2,o2 + k,none⟩ = some (.int .u64 y):=C2.out k y hy;exact EG
  ·exact Ef
theorem DJ (a1 a2 : Option Addr) (n1 n2 c1 c2 : Nat) (l1 l2 : List Int) (w : World) (h1 : l1.length = n1) (h2 : l2.length = n2) (hne : n1 ≠ n2) :
  Calls Tryz.prog 22 #[.slice a1 n1 c1,.slice a2 n2 c2] w fun e w' => e = .returned (.bool (lE iE l1 l2)) ∧ Below w.heap.size w w':=by
 have hb : ((n1 : Int) != n2) = true:=aI;have HV:=hid (pR (f:=iE) (l1:=l1) (l2:=l2) ae)
 go_enter Tryz.func22,Tryz.ntmps22
 exact oQ
theorem zP (a1 a2 : Option Addr) (c1 c2 : Nat) (w : World) :
  Calls Tryz.prog 22 #[.slice a1 0 c1,.slice a2 0 c2] w fun e w' => e = .returned (.bool (lE iE [] [])) ∧ Below w.heap.size w w':=by
 go_enter Tryz.func22,Tryz.ntmps22
 exact oN
theorem Ax (a1 a2 : Option Addr) (n1 n2 c1 c2 : Nat) (l1 l2 : List Int) (w : World) (h1 : SI .u64 w a1 n1 l1) (h2 : SI .u64 w a2 n2 l2) (hn : n1 ≤ 1099511627776) :
  Calls Tryz.prog 22 #[.slice a1 n1 c1,.slice a2 n2 c2] w fun e w' => e = .returned (.bool (lE iE l1 l2)) ∧ Below w.heap.size w w':=by
 by_cases hne : n1 = n2
 ·subst hne;obtain ⟨hz1,g1⟩:=h1;obtain ⟨hz2,g2⟩:=h2
  by_cases h0 : n1 = 0
  ·subst h0;obtain rfl:=List.eq_nil_of_length_eq_zero hz1;obtain rfl:=List.eq_nil_of_length_eq_zero hz2;exact zP a1 a2 c1 c2 w
  obtain ⟨b1,o1,rfl,e1⟩:=g1.resolve_left h0;obtain ⟨b2,o2,rfl,e2⟩:=g2.resolve_left h0;exact Fx b1 o1 b2 o2 n1 c1 c2 l1 l2 w hz1 hz2 hn e1 e2
 ·exact DJ a1 a2 n1 n2 c1 c2 l1 l2 w h1.1 h2.1 hne
section
variable {k : IntKind} {e : TypeId} {w w' : World} {B n : Nat} {f g : Nat → Int}
end
def nY (zs : List Int) (s : ByteArray) : Bool:=decide (zs.length = s.size) && (List.range s.size).all (fun i => eu (zs.getD i 0) (ic s i))
theorem lS (zs : List Int) (s : ByteArray) : nY zs s = true ↔ zs.length = s.size ∧ ∀ i,i < s.size → eu (zs.getD i 0) (ic s i) = true:=by
 simp [nY]
theorem GI {v c : Int} (h : eu v c = true) : isL c = true:=by
 simp only [eu,isL,Bool.or_eq_true,Bool.and_eq_true,decide_eq_true_eq] at *
 rcases h with h | h
 ·exact .inr h
 ·exact .inl h.1
theorem aF {w : World} {base : Nat} {e : TypeId} {size : Nat} {v : Value} {n : Nat} {xs : List Value} {B : Nat} (h : w.ownsRow base e size v n xs) (hB : v.ownBlock = some B) : B < w.heap.size:=by
 rcases h.2 with ⟨rfl,_⟩ | ⟨g,cp,cur,rfl,h2,h3,h4⟩
 ·simp [Value.ownBlock] at hB
 ·obtain rfl : g = B:=by simpa [Value.ownBlock] using hB
  rcases Nat.lt_or_ge g w.heap.size with hl | hl
  ·exact hl
  ·rw [Array.getElem?_eq_none hl] at h3; cases h3
theorem gU {aa : Option Addr} {j ac B : Nat} (h : (Value.slice aa j ac).ownBlock = some B) : ∃ a,aa = some a ∧ a.block = B:=by
 cases aa with
 | none => simp [Value.ownBlock] at h
 | some a => exact ⟨a,rfl,by simpa [Value.ownBlock] using h⟩
theorem rE {w : World} {base : Nat} {e : TypeId} {size : Nat} {aa : Option Addr} {j ac n : Nat} {xs : List Value} {a : Addr} (h : w.ownsRow base e size (.slice aa j ac) n xs) (ha : aa = some a) : (Value.slice aa j ac).ownBlock = some a.block:=by
 subst ha; simp [Value.ownBlock]
theorem C7 {α : Type} (enc : α → List Int) {xs : List α} {j : Nat} {x : α} (hx : xs[j]? = some x) : (xs.take (j + 1)).flatMap enc = (xs.take j).flatMap enc ++ enc x:=by
 have hj:=az hx;rw [List.take_succ_eq_append_getElem hj];rw [ba hj] at hx
 simp at hx
 simp [hx]
theorem cT {α : Type} (enc : α → List Int) (M : Nat) : ∀ (xs : List α),(∀ (j : Nat) x,xs[j]? = some x → (enc x).length ≤ M) → (xs.flatMap enc).length ≤ xs.length * M
 | [],_ => by simp
 | x :: r,h => by
  have h0:=h 0 x rfl
  have h1:=cT enc M r (fun j y hj => h (j + 1) y tU)
  simp only [List.flatMap_cons,List.length_append,List.length_cons]
  rw [Nat.add_mul,Nat.one_mul];omega
theorem flat_get {α : Type} {oc : α → List Value} {CS : Nat} (hoc : ∀ y,(oc y).length = CS) : ∀ (ys : List α) (i t : Nat) (y : α) (u : Value),ys[i]? = some y → (oc y)[t]? = some u → (ys.flatMap oc)[i * CS + t]? = some u
 | [],i,t,y,u,h,_ => by simp at h
 | z :: r,0,t,y,u,h,hu => by
  simp at h
  subst h;have ht:=az hu
  simp only [List.flatMap_cons,Nat.zero_mul,Nat.zero_add]
  rw [List.getElem?_append_left ht];exact hu
 | z :: r,i + 1,t,y,u,h,hu => by
  have h' : r[i]? = some y:=qa
  have:=flat_get hoc r i t y u h' hu
  simp only [List.flatMap_cons]
  rw [List.getElem?_append_right (by rw [hoc,Nat.add_mul]; omega),hoc]
  have e : (i + 1) * CS + t - CS = i * CS + t:=by rw [Nat.add_mul]; omega
  rw [e];exact this
theorem iM {w : World} {TE : TypeId} {CS : Nat} {aa : Option Addr} {j ac : Nat} {α : Type} {oc : α → List Value} {ys : List α} (hoc : ∀ y,(oc y).length = CS) (h : w.ownsRow 0 TE CS (.slice aa j ac) j (ys.flatMap oc)) {i t : Nat} {y : α} {u : Value} (hy : ys[i]? = some y) (hu : (oc y)[t]? = some u) :
  ∃ B,aa = some ⟨B,0,none⟩ ∧ w.cell? ⟨B,i * CS + t,none⟩ = some u:=by
 have hg:=flat_get hoc ys i t y u hy hu;have hl:=az hg
 rcases h.2 with ⟨h1,h2⟩ | ⟨g,cp,cur,h1,_⟩
 ·have:=h.1
  rw [h2] at this;omega
 ·obtain ⟨e1,e2⟩:=Value.slice.inj h1;subst e1;refine ⟨g,rfl,?_⟩;have h' : fO w TE CS g j ac (ys.flatMap oc):=h
  rw [h'.cell _ (by rw [← h.1]; exact hl)]
  exact hg
theorem Stp.throw {R g g1 : Nat} {w W w5 : World} (h : Stp R g g1 w W) (hk : Kept (fun k => k = R ∨ k = g1) W w5) : Kept (fun k => k = R ∨ k = g) w w5:=by
 refine h.k.then hk (fun k hkl hh => ?_)
 rcases hh with rfl | rfl
 ·exact .inl rfl
 ·exact oM
end Go.Proofs.YtkdldbfbldkkcaaGreatDoor

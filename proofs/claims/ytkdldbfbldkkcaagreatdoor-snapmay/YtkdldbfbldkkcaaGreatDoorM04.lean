/-
  Texts Lgl Ca Feed Pieces Shelf Lib.
-/
import Derived.Lib.Bytealg
import Derived.RangeFuncCalls
import Derived.RangeFuncLeaves
import Derived.RangeFuncWrites
import Derived.Shelf.LaysM
import Derived.Shelf.Strings.Search1
import Derived.Shelf.Strings.Search2
import Derived.Shelf.Strings.Search3
import Derived.Shelf.Strings.Shaped
import Derived.Shelf.Unicode.Decode
import Derived.Shelf.Unicode.DecodeAny
import Derived.Shelf.Unicode.DecodeSlow
import Derived.Test.YtkdldbfbldkkcaaGreatDoorM00
import Derived.Test.YtkdldbfbldkkcaaGreatDoorProg
import Derived.Test.YtkdldbfbldkkcaaGreatDoorM01
import Derived.Test.YtkdldbfbldkkcaaGreatDoorM03
set_option linter.unusedVariables false
set_option maxRecDepth 100000
set_option maxHeartbeats 16000000
namespace Go.Proofs.YtkdldbfbldkkcaaGreatDoor
open Go.RowKit
theorem EQ : ∃ i,Tryz.prog.info? 123 = some i ∧ i.zero = some (.agg #[.int .u8 0,.bool false,.int .u64 0]) ∧ i.size = 3 ∧ i.bytes = 16:=by
 have h : (Tryz.prog.info? 123).map (fun i => (i.zero,i.size,i.bytes)) = some (some (.agg #[.int .u8 0,.bool false,.int .u64 0]),3,16):=ak
 cases hi : Tryz.prog.info? 123 with
 | none => rw [hi] at h; cases h
 | some i => rw [hi] at h; simp at h; exact ⟨i,rfl,h.1,h.2.1,h.2.2⟩
def oq (y : Gl) : List Value:=[.int .u8 y.1,.bool y.2.1,.int .u64 y.2.2]
abbrev Nw (x : Gl) : Value:=.agg #[.int .u8 x.1,.bool x.2.1,.int .u64 x.2.2]
abbrev Ou (y : Gl) : Value:=.agg #[.int .u8 y.1,.bool y.2.1,.int .u64 y.2.2]
def na (w : World) (a : Option Addr) (n : Nat) (xs : List Gl) : Prop :=
 xs.length = n ∧ (n = 0 ∨ ∃ b off,a = some ⟨b,off,none⟩ ∧ ∀ (j : Nat) x,xs[j]? = some x → w.cell? ⟨b,off + j * 3,none⟩ = some (.int .u8 x.1) ∧ w.cell? ⟨b,off + j * 3 + 1,none⟩ = some (.bool x.2.1) ∧ w.cell? ⟨b,off + j * 3 + 2,none⟩ = some (.int .u64 x.2.2))
theorem na.kept {S : Nat → Prop} {w w' : World} {a : Option Addr} {n : Nat} {xs : List Gl} (h : na w a n xs) (hk : Kept S w w') (hS : ∀ b off c,a = some ⟨b,off,c⟩ → ¬ S b) : na w' a n xs:=by
 exact FI
theorem vN (w : World) (y : Gl) : ∀ j u,(oq y)[j]? = some u → (w.alloc (bh y.1 y.2.1 y.2.2)).cell? ((⟨w.heap.size,0,none⟩ : Addr).add j) = some u:=by
 intro j u hj;have hlt:=az hj;have hl : (oq y).length = 3:=rfl;rw [hl] at hlt;have hadd : (⟨w.heap.size,0,none⟩ : Addr).add j = ⟨w.heap.size,j,none⟩:=dJ;rw [hadd];have hb:=(MapKept.heap_alloc w (bh y.1 y.2.1 y.2.2)).1
 simp only [World.cell?,hb]
 simpa [oq] using hj
theorem wj (y : Gl) : ∀ u ∈ oq y,u.oneCell' = true:=by
 intro u hu
 simp [oq] at hu
 rcases hu with rfl | rfl | rfl <;> rfl
def yN (R g : Nat) (w : World) (K : Nat) (cs : Array Value) (bs : List Int) (n : Nat) (xs : List Gl) (enc : Gl → List Int) (Ok : Gl → Gl → Prop) (j : Nat) (x : Gl) : Prop :=
 ∀ (ys : List Gl) (W : World) (g1 cap1 : Nat) (aa : Option Addr) (ac : Nat),ys.length = j → (∀ (i : Nat) y,ys[i]? = some y → ∃ x',xs[i]? = some x' ∧ Ok x' y) → Stp R g g1 w W → Wr W R g1 cap1 (bs ++ aw n ++ (xs.take j).flatMap enc) →
  W.ownsRow 0 123 3 (.slice aa j ac) j (ys.flatMap oq) → (∀ b,aa = some b → w.heap.size ≤ b.block ∧ b.block ≠ g1) →
  Calls Tryz.prog K (#[Nw x,.slice aa j ac] ++ cs) W (fun e w' => ∃ y,e = .returned (Ou y) ∧ Ok x y ∧ ∃ g' cap',Wr w' R g' cap' (bs ++ aw n ++ (xs.take j).flatMap enc ++ enc x) ∧ Stp R g1 g' W w')
def Er (R g : Nat) (w : World) (K : Nat) (cs : Array Value) (bs : List Int) (n : Nat) (xs : List Gl) (enc : Gl → List Int) (Ok : Gl → Gl → Prop) (j : Nat) (x : Gl) (er : Int) : Prop :=
 ∀ (ys : List Gl) (W : World) (g1 cap1 : Nat) (aa : Option Addr) (ac : Nat),ys.length = j → (∀ (i : Nat) y,ys[i]? = some y → ∃ x',xs[i]? = some x' ∧ Ok x' y) → Stp R g g1 w W → Wr W R g1 cap1 (bs ++ aw n ++ (xs.take j).flatMap enc) →
  W.ownsRow 0 123 3 (.slice aa j ac) j (ys.flatMap oq) → (∀ b,aa = some b → w.heap.size ≤ b.block ∧ b.block ≠ g1) →
  Calls Tryz.prog K (#[Nw x,.slice aa j ac] ++ cs) W (aU R g1 er W)
theorem vz (R g cap : Nat) (bs : List Int) (ha : Option Addr) (n hc : Nat) (most : Int) (K : Nat) (cs : Array Value) (w : World) (xs : List Gl) (enc : Gl → List Int) (Ok : Gl → Gl → Prop) (M : Nat)
  (h : Wr w R g cap bs) (hn : n ≤ 100000) (hm : (n : Int) ≤ most) (hmem : na w ha n xs) (hne : ∀ b off c,ha = some ⟨b,off,c⟩ → b ≠ R ∧ b ≠ g)
  (hK : ∀ args w,(callFunc K args).run Tryz.prog w = .ok (.enter K args) w) (hlen : ∀ (j : Nat) x,xs[j]? = some x → (enc x).length ≤ M) (hM : M ≤ 1000000) (hb : bs.length + 200000000000 ≤ 1099511627776)
  (heach : ∀ (j : Nat) x,xs[j]? = some x → yN R g w K cs bs n xs enc Ok j x) :
  Calls Tryz.prog 94 #[cW R,.slice ha n hc,.int .i64 most,.func (.func K) #[] cs] w fun e w' => ∃ (aa : Option Addr) (ac : Nat) (ys : List Gl),e = .returned (.slice aa n ac) ∧ ys.length = n ∧ (∀ (i : Nat) y,ys[i]? = some y → ∃ x,xs[i]? = some x ∧ Ok x y) ∧
   w'.ownsRow 0 123 3 (.slice aa n ac) n (ys.flatMap oq) ∧ ∃ g' cap',(∀ b,aa = some b → w.heap.size ≤ b.block ∧ b.block ≠ g') ∧ Wr w' R g' cap' (bs ++ aw n ++ xs.flatMap enc) ∧ Stp R g g' w w':=by
 have hmc:=br;have hcc:=bR;have HC:=hid (bH R g cap bs n most w h hm ae ae);have hRl:=h.lt;have hgl:=h.g_lt;have hxl:=hmem.1;have HM:=hid hmem;have HNE:=hid hne;have HE:=hid heach;obtain ⟨i0,hi,hz0,hz1,hz2⟩:=EQ;clear h hmem heach hne
 go_enter Tryz.func94,Tryz.ntmps94
 go_wp2_with fail;refine HC.out.mono ?_;rintro e w2 ⟨rfl,g1,cap1,hw2,hs2⟩;have W2:=hid hw2;have S2:=hid hs2;clear hw2 hs2 HC hmc hcc;go_wp2_with fail
 go_loopw [9,17] (fun o i wr => ∃ (j : Nat) (ys : List Gl) (aa : Option Addr) (ac g1 cap1 : Nat),j ≤ n ∧ i = .int .i64 j ∧ o = .slice aa j ac ∧ ys.length = j ∧ (∀ (i : Nat) y,ys[i]? = some y → ∃ x,xs[i]? = some x ∧ Ok x y) ∧
   wr.ownsRow 0 123 3 (.slice aa j ac) j (ys.flatMap oq) ∧ (∀ b,aa = some b → w.heap.size ≤ b.block ∧ b.block ≠ g1) ∧ Wr wr R g1 cap1 (bs ++ aw n ++ (xs.take j).flatMap enc) ∧ Stp R g g1 w wr) (fun _ i _ => n - (intOf i).toNat)
 case atStart => exact ⟨0,[],none,0,g1,cap1,ae,rfl,rfl,rfl,(fun i y h => ei),World.ownsRow_nil _ _ _ _,(fun b h => cj),fy,S2.out⟩
 case round =>
  obtain ⟨j,ys,aa,ac,g3,cap3,hj,rfl,rfl,hyl,hys,hrow,hab,hwr,hst⟩:=hrel;have HY:=hid hys;have HRW:=hid hrow;have HAB:=hid hab;have HWR:=hid hwr;have HST:=hid hst;clear hys hrow hab hwr hst W2 S2
  by_cases hlt : j < n
  ·obtain ⟨x,hx⟩ : ∃ x,xs[j]? = some x:=⟨_,ba ae⟩
   obtain ⟨b,off,rfl,hcell⟩ : ∃ b off,ha = some ⟨b,off,none⟩ ∧ ∀ (j : Nat) x,xs[j]? = some x → wr.cell? ⟨b,off + j * 3,none⟩ = some (.int .u8 x.1) ∧ wr.cell? ⟨b,off + j * 3 + 1,none⟩ = some (.bool x.2.1) ∧ wr.cell? ⟨b,off + j * 3 + 2,none⟩ = some (.int .u64 x.2.2):=by
    exact dL
   have hcj:=hcell j x hx;have hbl:=block_lt_of_cell hcj.1;clear hcell;obtain ⟨v0,v1,v2⟩:=hcj;have BN:=hid (aj wr (bh x.1 x.2.1 x.2.2))
   have HC1:=hid (HE.out j x hx ys (wr.alloc (bh x.1 x.2.1 x.2.2)) g3 cap3 aa ac hyl HY.out (HST.out.trans (Stp.of_below BN.out)) (HWR.out.later BN.out) (aJ HRW.out (fun B hB => BN.out.block B (aF HRW.out hB))) HAB.out)
   exact Kz
  ·exact nj
theorem yl (R g cap : Nat) (bs : List Int) (ha : Option Addr) (n hc : Nat) (most : Int) (K : Nat) (cs : Array Value) (w : World) (xs : List Gl) (enc : Gl → List Int) (Ok : Gl → Gl → Prop) (M : Nat)
  (h : Wr w R g cap bs) (hn : n ≤ 100000) (hm : (n : Int) ≤ most) (hmem : na w ha n xs) (hne : ∀ b off c,ha = some ⟨b,off,c⟩ → b ≠ R ∧ b ≠ g)
  (hK : ∀ args w,(callFunc K args).run Tryz.prog w = .ok (.enter K args) w) (hlen : ∀ (j : Nat) x,xs[j]? = some x → (enc x).length ≤ M) (hM : M ≤ 1000000) (hb : bs.length + 200000000000 ≤ 1099511627776)
  (k : Nat) (xk : Gl) (er : Int) (hk : xs[k]? = some xk) (heach : ∀ (j : Nat) x,xs[j]? = some x → j < k → yN R g w K cs bs n xs enc Ok j x) (hno : Er R g w K cs bs n xs enc Ok k xk er) :
  Calls Tryz.prog 94 #[cW R,.slice ha n hc,.int .i64 most,.func (.func K) #[] cs] w (aU R g er w):=by
 have hkn:=az hk;have hmc:=br;have hcc:=bR;have HC:=hid (bH R g cap bs n most w h hm ae ae);have hRl:=h.lt;have hgl:=h.g_lt;have hxl:=hmem.1;have HM:=hid hmem;have HNE:=hid hne;have HE:=hid heach;have HN:=hid hno;obtain ⟨i0,hi,hz0,hz1,hz2⟩:=EQ;clear h hmem heach hne hno
 go_enter Tryz.func94,Tryz.ntmps94
 go_wp2_with fail;refine HC.out.mono ?_;rintro e w2 ⟨rfl,g1,cap1,hw2,hs2⟩;have W2:=hid hw2;have S2:=hid hs2;clear hw2 hs2 HC hmc hcc;go_wp2_with fail
 go_loopw [9,17] (fun o i wr => ∃ (j : Nat) (ys : List Gl) (aa : Option Addr) (ac g1 cap1 : Nat),j ≤ k ∧ i = .int .i64 j ∧ o = .slice aa j ac ∧ ys.length = j ∧ (∀ (i : Nat) y,ys[i]? = some y → ∃ x,xs[i]? = some x ∧ Ok x y) ∧
   wr.ownsRow 0 123 3 (.slice aa j ac) j (ys.flatMap oq) ∧ (∀ b,aa = some b → w.heap.size ≤ b.block ∧ b.block ≠ g1) ∧ Wr wr R g1 cap1 (bs ++ aw n ++ (xs.take j).flatMap enc) ∧ Stp R g g1 w wr) (fun _ i _ => n - (intOf i).toNat)
 case atStart => exact ⟨0,[],none,0,g1,cap1,ae,rfl,rfl,rfl,(fun i y h => ei),World.ownsRow_nil _ _ _ _,(fun b h => cj),fy,S2.out⟩
 case round =>
  obtain ⟨j,ys,aa,ac,g3,cap3,hj,rfl,rfl,hyl,hys,hrow,hab,hwr,hst⟩:=hrel;have HY:=hid hys;have HRW:=hid hrow;have HAB:=hid hab;have HWR:=hid hwr;have HST:=hid hst;clear hys hrow hab hwr hst W2 S2;have hlt : j < n:=ae
  ·obtain ⟨x,hx⟩ : ∃ x,xs[j]? = some x:=⟨_,ba ae⟩
   obtain ⟨b,off,rfl,hcell⟩ : ∃ b off,ha = some ⟨b,off,none⟩ ∧ ∀ (j : Nat) x,xs[j]? = some x → wr.cell? ⟨b,off + j * 3,none⟩ = some (.int .u8 x.1) ∧ wr.cell? ⟨b,off + j * 3 + 1,none⟩ = some (.bool x.2.1) ∧ wr.cell? ⟨b,off + j * 3 + 2,none⟩ = some (.int .u64 x.2.2):=by
    exact dL
   have hcj:=hcell j x hx;have hbl:=block_lt_of_cell hcj.1;clear hcell;obtain ⟨v0,v1,v2⟩:=hcj;have BN:=hid (aj wr (bh x.1 x.2.1 x.2.2))
   by_cases hjk : j < k
   ·skip
    have HC1:=hid (HE.out j x hx hjk ys (wr.alloc (bh x.1 x.2.1 x.2.2)) g3 cap3 aa ac hyl HY.out (HST.out.trans (Stp.of_below BN.out)) (HWR.out.later BN.out) (aJ HRW.out (fun B hB => BN.out.block B (aF HRW.out hB))) HAB.out)
    exact Kz
   ·obtain rfl : j = k:=ae;obtain rfl : x = xk:=lj
    have HC1:=hid (HN.out ys (wr.alloc (bh x.1 x.2.1 x.2.2)) g3 cap3 aa ac hyl HY.out (HST.out.trans (Stp.of_below BN.out)) (HWR.out.later BN.out) (aJ HRW.out (fun B hB => BN.out.block B (aF HRW.out hB))) HAB.out)
    exact mS
theorem uM (R g cap : Nat) (bs : List Int) (ha : Option Addr) (n hc : Nat) (most : Int) (f : Value) (w : World) (h : Wr w R g cap bs) (hm : most < (n : Int)) :
  Calls Tryz.prog 94 #[cW R,.slice ha n hc,.int .i64 most,f] w (aU R g 20 w):=by
 have hmc:=br;have hcc:=bR;have HC:=hid (dS R g cap bs n most w h hm);clear h
 go_enter Tryz.func94,Tryz.ntmps94
 exact jk
abbrev pt (P : Nat) : Value:=.pointer (some ⟨P,0,none⟩)
structure StM where
 fa : Option Addr
 fn : Nat
 fc : Nat
 fs : List FrM
 ga : Option Addr
 gn : Nat
 gc : Nat
 gs : List Int
 pa : Option Addr
 pn : Nat
 pc : Nat
 ps : List PgM
 rep : Int
 en : Int
 ra : Option Addr
 rn : Nat
 rc : Nat
 rs : List Int
 tr : Int
 us : Int
abbrev bW (s : StM) : Array Value:=#[.slice s.fa s.fn s.fc,.slice s.ga s.gn s.gc,.slice s.pa s.pn s.pc,.int .i64 s.rep,.int .i8 s.en,.slice s.ra s.rn s.rc,.int .i8 s.tr,.int .i64 s.us]
structure SSt (w : World) (s : StM) : Prop where
 fr : SFr w s.fa s.fn s.fs
 gl : SI .u64 w s.ga s.gn s.gs
 pg : SPg w s.pa s.pn s.ps
 rs : SI .u64 w s.ra s.rn s.rs
theorem SSt.later {w w' : World} {s : StM} (h : SSt w s) (hb : Below w.heap.size w w') : SSt w' s:=⟨h.fr.later hb,h.gl.later hb,h.pg.later hb,h.rs.later hb⟩
theorem c36 (P7 P8 P9 : Nat) (b7 b8 b9 : Bool) (w : World) (h7 : w.cell? ⟨P7,0,none⟩ = some (.bool b7)) (h8 : w.cell? ⟨P8,0,none⟩ = some (.bool b8)) (h9 : w.cell? ⟨P9,0,none⟩ = some (.bool b9)) :
  Calls Tryz.prog 26 #[pt P7,pt P8,pt P9] w fun e w' => e = .returned (.bool (b7 || (b8 || b9))) ∧ w' = w:=by
 cases b7 <;> cases b8
 all_goals (go_enter Tryz.func26,Tryz.ntmps26; go_wp2_with fail; go_ret; exact ⟨rfl,rfl⟩)
def a2 (b7 : Bool) (n : Nat) : Bool:=(b7 == decide (0 < n)) && decide (n ≤ 64)
theorem c37 (P7 S : Nat) (b7 : Bool) (fa : Option Addr) (n c : Nat) (w : World) (hn : n ≤ 281474976710656) (h7 : w.cell? ⟨P7,0,none⟩ = some (.bool b7)) (h0 : w.cell? ⟨S,0,none⟩ = some (.slice fa n c)) :
  Calls Tryz.prog 27 #[pt P7,pt S] w fun e w' => e = .returned (.bool (a2 b7 n)) ∧ w' = w:=by
 unfold a2
 by_cases h1 : 0 < n
 ·have h1' : (0 : Int) < (n : Int):=ae;have d1 : decide ((0 : Int) < (n : Int)) = true:=aI;have d2 : decide (0 < n) = true:=aI;rw [d2]
  by_cases h2 : n ≤ 64
  ·have h2' : (n : Int) ≤ 64:=ae;have d3 : decide (n ≤ 64) = true:=aI;exact Bt
  ·have h2' : ¬ (n : Int) ≤ 64:=ae;have d3 : decide (n ≤ 64) = false:=aI;exact Bt
 ·obtain rfl : n = 0:=ae
  cases b7
  all_goals (go_enter Tryz.func27,Tryz.ntmps27; go_wp2_with fail; go_ret; exact ⟨rfl,rfl⟩)
def a3 (b8 : Bool) (n : Nat) : Bool:=decide (n = 0) || (b8 && decide (n ≤ 8))
theorem c38 (P8 S : Nat) (b8 : Bool) (ra : Option Addr) (n c : Nat) (w : World) (hn : n ≤ 281474976710656) (h8 : w.cell? ⟨P8,0,none⟩ = some (.bool b8)) (h0 : w.cell? ⟨S,5,none⟩ = some (.slice ra n c)) :
  Calls Tryz.prog 28 #[pt S,pt P8] w fun e w' => e = .returned (.bool (a3 b8 n)) ∧ w' = w:=by
 unfold a3
 by_cases h1 : n = 0
 ·subst h1
  cases b8
  all_goals (go_enter Tryz.func28,Tryz.ntmps28; go_wp2_with fail; go_ret; exact ⟨rfl,rfl⟩)
 ·have h1' : ((n : Int) == 0) = false:=aI;have h1'' : (n == 0) = false:=aI;have d2 : decide (n = 0) = false:=aI;rw [d2]
  by_cases h2 : n ≤ 8
  ·have h2' : (n : Int) ≤ 8:=ae;have d3 : decide (n ≤ 8) = true:=aI;exact Co
  ·have h2' : ¬ (n : Int) ≤ 8:=ae;have d3 : decide (n ≤ 8) = false:=aI;exact Co
def a4 (b9 : Bool) (t : Int) : Bool:=(b9 == !decide (t = 0)) && (decide (0 ≤ t) && decide (t ≤ 6))
theorem Oe (t : Int) (w : World) : Calls Tryz.prog 30 #[.int .i8 t] w fun e w' => e = .returned (.bool (decide (0 ≤ t) && decide (t ≤ 6))) ∧ w' = w:=by
 by_cases h1 : 0 ≤ t
 ·have d1 : decide (0 ≤ t) = true:=aI;rw [d1]
  by_cases h2 : t ≤ 6
  ·have d2 : decide (t ≤ 6) = true:=aI;exact BU
  ·have d2 : decide (t ≤ 6) = false:=aI;exact BU
 ·have d1 : decide (0 ≤ t) = false:=aI;rw [d1]
  go_enter Tryz.func30,Tryz.ntmps30
  exact jd
theorem c39 (P9 S : Nat) (b9 : Bool) (t : Int) (w : World) (h9 : w.cell? ⟨P9,0,none⟩ = some (.bool b9)) (h6 : w.cell? ⟨S,6,none⟩ = some (.int .i8 t)) :
  Calls Tryz.prog 29 #[pt P9,pt S] w fun e w' => e = .returned (.bool (a4 b9 t)) ∧ w' = w:=by
 unfold a4;have HT:=hid (Oe t w);generalize (decide (0 ≤ t) && decide (t ≤ 6)) = B at *
 by_cases h1 : t = 0
 ·subst h1
  cases b9
  ·exact FN
  ·exact Ap
 ·have h2 : (t != 0) = true:=gj;have d1 : decide (t = 0) = false:=gj;rw [d1];have HD:=hid h1;clear h1 d1
  cases b9
  ·exact Ap
  ·exact FN
theorem c41 (S : Nat) (u : Int) (w : World) (h7 : w.cell? ⟨S,7,none⟩ = some (.int .i64 u)) : Calls Tryz.prog 31 #[pt S] w fun e w' => e = .returned (.bool (decide (0 ≤ u) && decide (u ≤ 4611686018427387904))) ∧ w' = w:=by
 by_cases h1 : 0 ≤ u
 ·have d1 : decide (0 ≤ u) = true:=aI;rw [d1]
  by_cases h2 : u ≤ 4611686018427387904
  ·have d2 : decide (u ≤ 4611686018427387904) = true:=aI;exact Cr
  ·have d2 : decide (u ≤ 4611686018427387904) = false:=aI;exact Cr
 ·have d1 : decide (0 ≤ u) = false:=aI;rw [d1]
  go_enter Tryz.func31,Tryz.ntmps31
  exact jd
theorem c42 (S : Nat) (r : Int) (w : World) (h3 : w.cell? ⟨S,3,none⟩ = some (.int .i64 r)) : Calls Tryz.prog 32 #[pt S] w fun e w' => e = .returned (.bool (decide (0 ≤ r))) ∧ w' = w:=by
 go_enter Tryz.func32,Tryz.ntmps32
 exact jd
theorem c64 (n c : Int) (w : World) : Calls Tryz.prog 63 #[.int .i64 n,.int .i64 c] w fun e w' => e = .returned (.bool (decide (0 ≤ n) && decide (n < c))) ∧ w' = w:=by
 by_cases h1 : 0 ≤ n
 ·have d1 : decide (0 ≤ n) = true:=aI;exact Av
 ·have d1 : decide (0 ≤ n) = false:=aI;exact Av
def fH (ps : List Addr) (W W' : World) : Prop:=∀ p ∈ ps,∀ v,W.cell? p = some v → W'.cell? p = some v ∧ W'.frozen? p = W.frozen? p
theorem fH.refl (ps : List Addr) (W : World) : fH ps W W:=fun _ _ _ h => ⟨h,rfl⟩
theorem fH.trans {ps : List Addr} {A B C : World} (h : fH ps A B) (k : fH ps B C) : fH ps A C:=fun p hp v hv => by
 obtain ⟨h1,h2⟩:=h p hp v hv;obtain ⟨k1,k2⟩:=k p hp v h1;exact ⟨k1,k2.trans h2⟩
theorem fH.turned {ps : List Addr} (W : World) (l : Nat) (o o' : Obj) (h : W.heap[l]? = some o) (ho : o.isCells = false) : fH ps W (W.putObj l o'):=fun p _ v hv =>
 have hr : ∀ r,some l = some r → ∃ q : Obj,W.heap[r]? = some q ∧ q.isCells = false:=fun r e => by cases e; exact ⟨o,h,ho⟩
 ⟨cell_kept hv (grownBy_putObj' W l o') hr,frozen_kept hv (grownBy_putObj' W l o') hr⟩
def Kr {α : Type} (F : Fence) (n : Nat) (P : Program) (gf : Nat) (lb : Array Value) (encs : α → Array Value) (c : Addr) (ps : List Addr) (xs : List α) (W : World) : Prop :=
 ∀ (l : Nat) (J : List α → World → Prop) (Jx : World → Prop) (W1 : World),fH ps W W1 →
  (∀ r A v,J r A → J r (A.setCell c v)) →
  (∀ x r A,J (x :: r) A → YieldAt F (n - 1) P l (encs x) A fun e B => (e = .returned (.bool true) ∧ J r B ∧ fH ps A B) ∨ (e = .returned (.bool false) ∧ Jx B)) →
  J xs W1 →
  CallsIn F n P gf (#[.func (.yield l) #[] #[]] ++ lb) W1 fun e B => (∃ v,e = .returned v) ∧ (J [] B ∨ Jx B)
def Leaves (B : Nat) (ps : List Addr) (I : World → Prop) (Ix : Code → World → Prop) (W : World) : Exit → Act → World → Prop
 | .normal,_,W' => KeepsFrom B W W' ∧ fH ps W W' ∧ I W'
 | .ret,_,W' => KeepsFrom B W W' ∧ Ix .ret W'
 | .exit _,_,_ => False
 | .goto _,_,_ => False
 | .panic _,_,_ => False
 | .outgrown,_,_ => False
theorem vO {α : Type} {F : Fence} {n : Nat} {P : Program} {g : Operand} {prm : Array Tmp} {assign body : Code} {Q : Exit → Act → World → Prop} {a : Act} {w : World}
  (hro : F.round = none) (h1 : 1 ≤ n) {gf : Nat} {lb : Array Value} (hg : a.eval g = .func (.func gf) #[] lb) (hFg : F.fn gf) (eg : ∀ args w,(callFunc gf args).run P w = .ok (.enter gf args) w)
  {encs : α → Array Value} {c : Addr} {ps : List Addr} {xs : List α} (hps : ∀ x,(encs x).size = prm.size)
  (hseq : Kr F (n - 1) P gf lb encs c ps xs w)
  (I : List α → World → Prop) (Ix : Code → World → Prop) (hI : OwnFrom w.heap.size I) (hIx : OwnFrom w.heap.size Ix)
  (hIc : ∀ r A v,I r A → I r (A.setCell c v)) (h0 : I xs w) (a₁ : α → Act)
  (hassign : ∀ (l : Nat) (x : α) (W : World) (K : Act → World → Prop),K (a₁ x) W →
   assign.wpIn (F.inRound l) (n - 1 - 1) P (Exit.then K (fun _ _ _ => False)) { tmps:=(prm.zip (encs x)).foldl (fun t (p,v) => t.setIfInBounds p v) a.tmps,defers:=[] } W)
  (hbody : ∀ (l : Nat) (x : α) (r : List α) (W : World),I (x :: r) W → body.wpIn (F.inRound l) (n - 1 - 1) P (Leaves w.heap.size ps (I r) Ix W) (a₁ x) W)
  (hdone : ∀ (D : Nat) (W : World),w.heap.size ≤ D → I [] W → W.heap[D]? = some (.deferred (some [])) → Q .normal { a with defers:={ target:=.collected D,args:=#[] } :: a.defers } W)
  (hstop : ∀ (D : Nat) (j : Code) (W : World),w.heap.size ≤ D → Ix j W → W.heap[D]? = some (.deferred (some [])) → j.wpIn F n P Q { a with defers:={ target:=.collected D,args:=#[] } :: a.defers } W) :
  (Code.rangeFunc g prm assign body).wpIn F n P Q a w:=by
 refine wpIn_rangeFunc fun fn hfn => ?_
 rw [hro]
 let record : LoopState → Option Code → Loop:=fun st pe => { state:=st,pending:=pe,fn,tmps:=a.tmps,params:=prm,assign,body,defers:=w.heap.size }
 let D:=w.heap.size
 let L:=w.heap.size + 1
 let W0:=(w.alloc (.deferred (some []))).alloc (.loop (record .ready none))
 let Book : Loop → World → Prop:=fun rc W => W.heap[L]? = some (.loop rc) ∧ W.heap[D]? = some (.deferred (some []))
 have hbook : Book (record .ready none) W0:=by
  constructor
  ·have:=World.alloc_heap_new (w.alloc (.deferred (some []))) (.loop (record .ready none))
   rwa [World.size_alloc] at this
  ·exact (Below.heap_alloc _ _ _ (by simp [D])).trans (World.alloc_heap_new w _)
 have turn : ∀ {rc rc' : Loop} {W : World},Book rc W → Book rc' (W.putObj L (.loop rc')):=fun h =>
  ⟨World.putObj_heap_same (Array.getElem?_eq_some_iff.1 h.1).1,(World.putObj_heap_other (by simp [L,D])).trans h.2⟩
 have over : ∀ {rc : Loop} {W W' : World},Book rc W → KeepsFrom D W W' → Book rc W':=fun h k =>
  ⟨k.same _ _ (by simp [L,D]) h.1 rfl,k.same _ _ (Nat.le_refl _) h.2 rfl⟩
 have cells : ∀ {rc : Loop} {W : World} (v : Value),Book rc W → Book rc (W.setCell c v):=fun v h =>
  ⟨(KeepsOthers.setCell _ _ _).same _ _ h.1 rfl,(KeepsOthers.setCell _ _ _).same _ _ h.2 rfl⟩
 have hk0 : fH ps w W0:=fun p _ v hv => by
  have g1:=World.grownBy_alloc w (.deferred (some [])) none;have g2:=World.grownBy_alloc (w.alloc (.deferred (some []))) (.loop (record .ready none)) none
  have e1:=cell_kept hv g1 (fun r e => kX)
  exact ⟨cell_kept e1 g2 (fun r e => kX),(frozen_kept e1 g2 (fun r e => kX)).trans (frozen_kept hv g1 (fun r e => kX))⟩
 refine ⟨L,[{ target:=.collected D,args:=#[] }],W0,{ target:=.fn (.func gf) lb,args:=#[.func (.yield L) #[] #[]] },W0,gf,#[.func (.yield L) #[] #[]] ++ lb,W0,
  run_enterLoop_outer _ _ _ _ _,?_,?_,?_,fun _ => h1,?_⟩
 ·simp only [resolve,hg]; simp [go_sem]
 ·intro f' hf'; simp [Target.leads] at hf'; subst hf'; exact hFg
 ·simp [invoke,go_sem,eg]
 refine (hseq L (fun r W => I r W ∧ Book (record .ready none) W) (fun W => ∃ j,Ix j W ∧ Book (record .done (some j)) W) W0 hk0
  (fun r A v h => ⟨hIc r A v h.1,cells v h.2⟩) ?_ ⟨hI.alloc _ (hI.alloc _ h0),hbook⟩).mono ?_
 ·
  rintro x r W ⟨hi,hb⟩;have hy:=run_yield (P:=P) (args:=encs x) hb.1 (hps x);refine ⟨fn,_,assign,body,hy,roundIn_of_wpIn hfn (hassign _ x W _ ⟨_,run_beginRound hb.1 rfl,?_⟩)⟩
  have hb2 : Book { record .ready none with state:=.busy } (W.putObj L (.loop { record .ready none with state:=.busy })):=turn hb
  refine wpIn_mono (hbody _ x r _ (hI.putObj _ hi (by simp [L]) hb.1 rfl)) ?_
  rintro e a3 W3 hp
  cases e with
  | normal =>
   obtain ⟨hk3,hkp3,hi3⟩:=hp;have hb3:=over hb2 hk3
   exact ⟨_,_,run_endRound none hb3.1,.inl ⟨rfl,⟨hI.putObj _ hi3 (by simp [L]) hb3.1 rfl,turn hb3⟩,((fH.turned _ _ _ _ hb.1 rfl).trans hkp3).trans (fH.turned _ _ _ _ hb3.1 rfl)⟩⟩
  | ret =>
   obtain ⟨hk3,hi3⟩:=hp;have hb3:=over hb2 hk3
   exact ⟨_,_,run_endRound (some .ret) hb3.1,.inr ⟨rfl,.ret,hIx.putObj _ hi3 (by simp [L]) hb3.1 rfl,turn hb3⟩⟩
  | exit id => exact hp.elim
  | goto t => exact hp.elim
  | panic ch => exact hp.elim
  | outgrown => exact hp.elim
 ·
  rintro e W2 ⟨⟨v,rfl⟩,(⟨hi,hb⟩ | ⟨j,hi,hb⟩)⟩
  ·exact ⟨none,_,run_endLoop hb.1 (by simp [record]),hdone D _ (Nat.le_refl _) (hI.putObj _ hi (by simp [L]) hb.1 rfl) (turn (rc':=_) hb).2⟩
  ·exact ⟨some j,_,run_endLoop hb.1 (by simp [record]),hstop D j _ (Nat.le_refl _) (hIx.putObj _ hi (by simp [L]) hb.1 rfl) (turn (rc':=_) hb).2⟩
def pieces : List UInt8 → List (List UInt8)
 | [] => [[]]
 | b :: l => if b == 32 then [] :: pieces l else match pieces l with
  | [] => [[b]]
  | p :: r => (b :: p) :: r
theorem jY : ∀ (l : List UInt8),Lib.indexByte l 32 = -1 ∨ (0 ≤ Lib.indexByte l 32 ∧ Lib.indexByte l 32 < l.length)
 | [] => .inl rfl
 | b :: l => by
  have:=jY l
  unfold Lib.indexByte
  split
  ·right; simp
  ·split
   ·exact .inl rfl
   ·rename_i h
    simp at h
    right; simp; omega
theorem nJ : ∀ (l : List UInt8),Lib.indexByte l 32 = -1 → pieces l = [l]
 | [],_ => rfl
 | b :: l,h => by
  have hr:=jY l;unfold Lib.indexByte at h
  split at h
  ·simp at h
  ·rename_i hb
   split at h
   ·rename_i hi
    have:=nJ l uz
    unfold pieces;rw [if_neg hb,this]
   ·rename_i hi
    simp at hi
    omega
theorem nG : ∀ (l : List UInt8) (k : Nat),Lib.indexByte l 32 = k → pieces l = l.take k :: pieces (l.drop (k + 1))
 | [],k,h => by simp [Lib.indexByte] at h
 | b :: l,k,h => by
  have hr:=jY l;unfold Lib.indexByte at h
  split at h
  ·rename_i hb
   obtain rfl : k = 0:=ae;rw [pieces,if_pos hb]
   simp
  ·rename_i hb
   split at h
   ·omega
   ·rename_i hi
    simp at hi
    obtain ⟨m,rfl⟩ : ∃ m,k = m + 1:=⟨k - 1,ae⟩
    have:=nG l m ae
    rw [pieces,if_neg hb,this]
    simp
def cK (s : ByteArray) : List ByteArray:=(pieces s.data.toList).map fun l => ⟨l.toArray⟩
theorem JS (s : ByteArray) (k : Nat) : s.extract 0 k = ⟨(s.data.toList.take k).toArray⟩:=by
 apply D8; simp [ByteArray.data_extract,Array.toList_extract]
theorem I8 (s : ByteArray) (k : Nat) : s.extract k s.size = ⟨(s.data.toList.drop k).toArray⟩:=by
 apply D8
 simp [ByteArray.data_extract,Array.toList_extract]
 rw [List.take_of_length_le]
 have:=ij s
 simp only [List.length_drop]
 omega
theorem sQ (s : ByteArray) (h : Lib.indexByte s.data.toList 32 = -1) : cK s = [s]:=by
 simp [cK,nJ _ h]
theorem tR (s : ByteArray) (k : Nat) (h : Lib.indexByte s.data.toList 32 = k) : cK s = s.extract 0 k :: cK (s.extract (k + 1) s.size):=by
 rw [JS,I8]
 simp [cK,nG _ k h]
theorem nI : ∀ (l : List UInt8) (p : List UInt8),p ∈ pieces l → p.length ≤ l.length
 | [],p,h => by simp [pieces] at h; simp [h]
 | b :: l,p,h => by
  have ih:=nI l;unfold pieces at h
  split at h
  ·simp only [List.mem_cons] at h
   rcases h with rfl | h
   ·simp
   ·have:=ih p h; simp; omega
  ·split at h
   ·simp at h; simp [h]
   ·rename_i q r hq
    simp only [List.mem_cons] at h
    rcases h with rfl | h
    ·have:=ih q (by rw [hq]; simp); simp; omega
    ·have:=ih p (by rw [hq]; simp [h]); simp; omega
theorem tI (s p : ByteArray) (h : p ∈ cK s) : p.size ≤ s.size:=by
 unfold cK at h;obtain ⟨l,hl,rfl⟩:=List.mem_map.1 h
 have:=nI _ _ hl
 rw [ij,ij];exact cm
end Go.Proofs.YtkdldbfbldkkcaaGreatDoor
namespace Go.Proofs
open Go.Shelf YtkdldbfbldkkcaaGreatDoor
def Tryz.lays143_ren : Go.Shelf.Ren:=⟨fun | 143 => 167 | 219 => 169 | 217 => 170 | 225 => 171 | 224 => 172 | 267 => 173 | 266 => 174 | 314 => 175 | n => n,fun | 9 => 9 | 3 => 3 | 4 => 4 | 5 => 5 | 46 => 159 | 146 => 247 | 51 => 224 | n => n,fun | 1 => 3 | n => n⟩
theorem Tryz.lays143 : Go.Proofs.Lays.n143 Tryz.prog Tryz.lays143_ren:={
 mixed:=ak
 f143:=Tryz.func167.trans (congrArg some ak)
 f217:=Tryz.func170.trans (congrArg some ak)
 f219:=Tryz.func169.trans (congrArg some ak)
 f224:=Tryz.func172.trans (congrArg some ak)
 f225:=Tryz.func171.trans (congrArg some ak)
 f266:=Tryz.func174.trans (congrArg some ak)
 f267:=Tryz.func173.trans (congrArg some ak)
 f314:=Tryz.func175.trans (congrArg some ak)
 t3:=Tryz.underlying3
 a3:=Tryz.isAgg3
 z3:=Tryz.sizeOf3
 v3:=Tryz.zeroValue3
 t4:=Tryz.underlying4
 a4:=Tryz.isAgg4
 z4:=Tryz.sizeOf4
 v4:=Tryz.zeroValue4
 t5:=Tryz.underlying5
 a5:=Tryz.isAgg5
 z5:=Tryz.sizeOf5
 v5:=Tryz.zeroValue5
 t9:=Tryz.underlying9
 a9:=Tryz.isAgg9
 z9:=Tryz.sizeOf9
 v9:=Tryz.zeroValue9
 t46:=Tryz.underlying159
 a46:=Tryz.isAgg159
 z46:=Tryz.sizeOf159
 v46:=Tryz.zeroValue159
 t51:=Tryz.underlying224
 a51:=Tryz.isAgg224
 z51:=Tryz.sizeOf224
 v51:=Tryz.zeroValue224
 t146:=Tryz.underlying247
 a146:=Tryz.isAgg247
 z146:=Tryz.sizeOf247
 v146:=Tryz.zeroValue247
 g1:=ak }
open Go.RowKit Go.Lib in
theorem Tryz.strings_Index_one (s : ByteArray) (c : UInt8) (w : World) :
  Calls Tryz.prog 167 #[.string s,.string ⟨#[c]⟩] w fun e w' => e = .returned (.int .i64 (Lib.indexByte s.data.toList c)) ∧ w' = w:=Any.strings_Index_one Tryz.lays143 s c w
end Go.Proofs
namespace Go.Proofs.YtkdldbfbldkkcaaGreatDoor
open Go.Shelf Go.RowKit Go.Lib
theorem I7 (s : ByteArray) (w : World) :
  Calls Tryz.prog 167 #[.string s,.string ⟨#[32]⟩] w fun e w' => e = .returned (.int .i64 (Lib.indexByte s.data.toList 32)) ∧ w' = w:=Tryz.strings_Index_one s 32 w
end Go.Proofs.YtkdldbfbldkkcaaGreatDoor

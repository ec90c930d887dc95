/-
  Texts Jf Jg Jh Ji Jj Jk Jl Jm Lb.
-/
import Derived.Test.YtepnnenohjfkbaaGreatDoorP00
import Derived.Test.YtepnnenohjfkbaaGreatDoorP17
set_option linter.unusedVariables false
set_option maxRecDepth 100000
set_option maxHeartbeats 16000000
namespace Go.Proofs.YtepnnenohjfkbaaGreatDoor
open Go.RowKit
section
variable {g : Jg} {w : World}
theorem RO : wdV 2 = ⟨#[98,108,111,99,107]⟩:=aw
theorem RQ : wdV 3 = ⟨#[108,111,111,112]⟩:=aw
theorem QC : wdV 4 = ⟨#[105,102]⟩:=aw
theorem Jw.at_ (h : Jw g w) {i : Nat} (hi : i < g.N) : w.cell? ⟨g.cb,g.coff + i * 3,none⟩ = some (.int .u8 (opF g.xs i)) ∧ w.cell? ⟨g.cb,g.coff + i * 3 + 1,none⟩ = some (.int .i64 (g.xs.getD i dx).a) ∧ w.cell? ⟨g.cb,g.coff + i * 3 + 2,none⟩ = some (.slice (g.xs.getD i dx).la (g.xs.getD i dx).ln (g.xs.getD i dx).lc) ∧ w.cell? ⟨g.RB,i * 6 + 1,none⟩ = some (.string (wdV (opF g.xs i))) :=
 ⟨h.cod.op hi,h.cod.num hi,h.cod.lab hi,h.rows i hi 1 ae⟩
theorem yh {w W : World} (h : Below w.heap.size w W) {u v : Value} {o : Obj} : Below w.heap.size w (((W.setCell ⟨w.heap.size,0,none⟩ u).setCell ⟨w.heap.size,1,none⟩ v).alloc o):=by
 have h1:=bN (i:=0) (u:=u) h (Nat.le_refl _) h.size;have h2:=bN (i:=1) (u:=v) h1 (Nat.le_refl _) h1.size;exact h2.trans ((aj _ _).mono h2.size)
theorem kQ {m : MM} (hTS : ∀ a,(bE m a).1.size ≤ 8) (R : ByteArray) (xs : List Inx) (o : Int) : (bu m R xs o).1.1.size ≤ 8:=by
 unfold bu
 split
 ·exact Nat.zero_le _
 ·split
  ·exact hTS _
  ·exact Nat.zero_le _
theorem pE (h : Jw g w) (hN : g.N ≤ 2048) (hT : g.m.tn ≤ 1000000) (hTS : ∀ a,(bE g.m a).1.size ≤ 8) {i : Nat} (hi : i < g.N) (hc : opF g.xs i = 2 ∨ opF g.xs i = 3) :
  Calls Tryz.prog 213 #[.pointer (some ⟨g.J,0,none⟩),.int .i64 i] w fun e w' => e = .returned (.tuple #[.agg #[.string (bu g.m g.R g.xs i).1.1,.string (bu g.m g.R g.xs i).1.1],.bool (bu g.m g.R g.xs i).2]) ∧ Below w.heap.size w w':=by
 have B0:=aj w (bj ⟨#[]⟩ ⟨#[]⟩);have h0:=h.later B0;obtain ⟨a0,a1,a2,_⟩:=h0.at_ hi;have jc:=h0.c;have hi2 : (i : Int) < (g.N : Int):=ae;have B1:=aj (w.alloc (bj ⟨#[]⟩ ⟨#[]⟩)) (aC (opF g.xs i) (g.xs.getD i dx).a (g.xs.getD i dx).la (g.xs.getD i dx).ln (g.xs.getD i dx).lc);have h1:=h0.later B1;have jr:=h1.rw;have a3:=(h1.at_ hi).2.2.2;have BB:=B0.trans (B1.mono B0.size);have r0:=ar B1 (heap_alloc_new w (bj ⟨#[]⟩ ⟨#[]⟩))
 have H14:=hid (fun (W : World) (hb : Below ((w.alloc (bj ⟨#[]⟩ ⟨#[]⟩)).alloc (aC (opF g.xs i) (g.xs.getD i dx).a (g.xs.getD i dx).la (g.xs.getD i dx).ln (g.xs.getD i dx).lc)).heap.size ((w.alloc (bj ⟨#[]⟩ ⟨#[]⟩)).alloc (aC (opF g.xs i) (g.xs.getD i dx).a (g.xs.getD i dx).la (g.xs.getD i dx).ln (g.xs.getD i dx).lc)) W) => qG (h1.later hb) hN hT (o:=(i : Int)) (.inr ⟨i,rfl,hi⟩))
 have HBW:=hid (Below.refl ((w.alloc (bj ⟨#[]⟩ ⟨#[]⟩)).alloc (aC (opF g.xs i) (g.xs.getD i dx).a (g.xs.getD i dx).la (g.xs.getD i dx).ln (g.xs.getD i dx).lc)).heap.size ((w.alloc (bj ⟨#[]⟩ ⟨#[]⟩)).alloc (aC (opF g.xs i) (g.xs.getD i dx).a (g.xs.getD i dx).la (g.xs.getD i dx).ln (g.xs.getD i dx).lc)));have HBB:=hid BB;have HR0:=hid r0;clear h h0 h1 B0 B1 BB r0;have hPa:=kQ hTS g.R g.xs i;generalize bu g.m g.R g.xs i = sg at *;obtain ⟨⟨Pa,Re⟩,ok⟩:=sg;dsimp only at H14 hPa ⊢;generalize opF g.xs i = c at *;generalize (g.xs.getD i dx).a = a at *;generalize (g.xs.getD i dx).la = la at *;generalize (g.xs.getD i dx).ln = ln at *;generalize (g.xs.getD i dx).lc = lc at *
 go_enter Tryz.func213,Tryz.ntmps213
 rcases hc with hc | hc
 ·rw [(congrArg wdV hc).trans RO] at a3;exact Ha
 ·rw [(congrArg wdV hc).trans RQ] at a3;exact Ha
theorem sj (h : Jw g w) (hN : g.N ≤ 2048) (hT : g.m.tn ≤ 1000000) (hTS : ∀ a,(bE g.m a).1.size ≤ 8) {i : Nat} (hi : i < g.N) (hc : opF g.xs i = 4) :
  Calls Tryz.prog 213 #[.pointer (some ⟨g.J,0,none⟩),.int .i64 i] w fun e w' => e = .returned (.tuple #[.agg #[.string ((bu g.m g.R g.xs i).1.1 ++ ⟨#[119]⟩),.string (bu g.m g.R g.xs i).1.1],.bool (bu g.m g.R g.xs i).2]) ∧ Below w.heap.size w w':=by
 have B0:=aj w (bj ⟨#[]⟩ ⟨#[]⟩);have h0:=h.later B0;obtain ⟨a0,a1,a2,_⟩:=h0.at_ hi;have jc:=h0.c;have hi2 : (i : Int) < (g.N : Int):=ae;have B1:=aj (w.alloc (bj ⟨#[]⟩ ⟨#[]⟩)) (aC (opF g.xs i) (g.xs.getD i dx).a (g.xs.getD i dx).la (g.xs.getD i dx).ln (g.xs.getD i dx).lc);have h1:=h0.later B1;have jr:=h1.rw;have a3:=(h1.at_ hi).2.2.2;have BB:=B0.trans (B1.mono B0.size);have r0:=ar B1 (heap_alloc_new w (bj ⟨#[]⟩ ⟨#[]⟩))
 have H14:=hid (fun (W : World) (hb : Below ((w.alloc (bj ⟨#[]⟩ ⟨#[]⟩)).alloc (aC (opF g.xs i) (g.xs.getD i dx).a (g.xs.getD i dx).la (g.xs.getD i dx).ln (g.xs.getD i dx).lc)).heap.size ((w.alloc (bj ⟨#[]⟩ ⟨#[]⟩)).alloc (aC (opF g.xs i) (g.xs.getD i dx).a (g.xs.getD i dx).la (g.xs.getD i dx).ln (g.xs.getD i dx).lc)) W) => qG (h1.later hb) hN hT (o:=(i : Int)) (.inr ⟨i,rfl,hi⟩))
 have HBW:=hid (Below.refl ((w.alloc (bj ⟨#[]⟩ ⟨#[]⟩)).alloc (aC (opF g.xs i) (g.xs.getD i dx).a (g.xs.getD i dx).la (g.xs.getD i dx).ln (g.xs.getD i dx).lc)).heap.size ((w.alloc (bj ⟨#[]⟩ ⟨#[]⟩)).alloc (aC (opF g.xs i) (g.xs.getD i dx).a (g.xs.getD i dx).la (g.xs.getD i dx).ln (g.xs.getD i dx).lc)));have HBB:=hid BB;have HR0:=hid r0;clear h h0 h1 B0 B1 BB r0;have hPa:=kQ hTS g.R g.xs i;generalize bu g.m g.R g.xs i = sg at *;obtain ⟨⟨Pa,Re⟩,ok⟩:=sg;dsimp only at H14 hPa ⊢;generalize opF g.xs i = c at *;generalize (g.xs.getD i dx).a = a at *;generalize (g.xs.getD i dx).la = la at *;generalize (g.xs.getD i dx).ln = ln at *;generalize (g.xs.getD i dx).lc = lc at *
 go_enter Tryz.func213,Tryz.ntmps213
 rw [(congrArg wdV hc).trans QC] at a3;clear hc;go_wp2_with fail;refine (H14.out _ HBW.out).mono ?_;rintro e w2 ⟨rfl,hb2⟩;have r2:=ar hb2 HR0.out;have x0 : w2.cell? ⟨w.heap.size,0,none⟩ = some (.string ⟨#[]⟩):=ai r2;have x1 : w2.cell? ⟨w.heap.size,1,none⟩ = some (.string ⟨#[]⟩):=ai r2;have f0 : w2.frozen? ⟨w.heap.size,0,none⟩ = false:=free_at r2;have f1 : w2.frozen? ⟨w.heap.size,1,none⟩ = false:=free_at r2;have hwl : w.heap.size < w2.heap.size:=dY r2;have HB2:=hid (HBB.out.trans (hb2.mono HBB.out.size));clear hb2 r2;go_wp2_with fail;refine bodyPost_ret (v:=.tuple #[.agg #[.string (Pa ++ ⟨#[119]⟩),.string Pa],.bool ok]) ?_ rfl ⟨rfl,?_⟩
 ·exact cZ
 ·exact yh HB2.out
end
def Fe (c : Int) : Bool:=decide (c = 2) || decide (c = 3) || decide (c = 4) || decide (c = 8) || decide (c = 11) || decide (c = 12) || decide (c = 18) || decide (c = 19) || decide (c = 20) || decide (c = 21) || decide (c = 22)
theorem Gv : ((List.range 256).all fun k => Fe (k : Int) || ([[98,108,111,99,107],[108,111,111,112],[105,102],[98,114,105,102],[99,97,108,108],[104,111,115,116],[103,101,116],[115,101,116],[116,101,101],[103,103,101,116],[103,115,101,116]].all fun u => ((wdV (k : Int)).toList == u) == false)) = true:=aw
theorem zy {c : Int} (h0 : 0 ≤ c) (h1 : c ≤ 255) (hs : Fe c = false) : ∀ u ∈ ([[98,108,111,99,107],[108,111,111,112],[105,102],[98,114,105,102],[99,97,108,108],[104,111,115,116],[103,101,116],[115,101,116],[116,101,101],[103,103,101,116],[103,115,101,116]] : List (List UInt8)),((wdV c).toList == u) = false:=by
 have h:=List.all_eq_true.1 Gv c.toNat oK;exact Eo
theorem EI {w W : World} (h : Below w.heap.size w W) {u v : Value} : Below w.heap.size w ((W.setCell ⟨w.heap.size,0,none⟩ u).setCell ⟨w.heap.size,1,none⟩ v).drew:=by
 have h1:=bN (i:=0) (u:=u) h (Nat.le_refl _) h.size;have h2:=bN (i:=1) (u:=v) h1 (Nat.le_refl _) h1.size;exact h2.drew
section
variable {g : Jg} {w : World}
theorem oG (h : Jw g w) (hN : g.N ≤ 2048) (hT : g.m.tn ≤ 1000000) (hTS : ∀ a,(bE g.m a).1.size ≤ 8) {i : Nat} (hi : i < g.N) (hc : Fe (opF g.xs i) = false) :
  Calls Tryz.prog 213 #[.pointer (some ⟨g.J,0,none⟩),.int .i64 i] w fun e w' => e = .returned (.tuple #[.agg #[.string (ofV (opF g.xs i)).1.2.2.2.1,.string (ofV (opF g.xs i)).1.2.2.2.2.1],.bool true]) ∧ Below w.heap.size w w':=by
 have B0:=aj w (bj ⟨#[]⟩ ⟨#[]⟩);have h0:=h.later B0;obtain ⟨a0,a1,a2,_⟩:=h0.at_ hi;have jc:=h0.c;have hi2 : (i : Int) < (g.N : Int):=ae;have B1:=aj (w.alloc (bj ⟨#[]⟩ ⟨#[]⟩)) (aC (opF g.xs i) (g.xs.getD i dx).a (g.xs.getD i dx).la (g.xs.getD i dx).ln (g.xs.getD i dx).lc);have h1:=h0.later B1;have jr:=h1.rw;have a3:=(h1.at_ hi).2.2.2;have BB:=B0.trans (B1.mono B0.size);have r0:=ar B1 (heap_alloc_new w (bj ⟨#[]⟩ ⟨#[]⟩));have a4 : _ = some (Value.string (ofV (opF g.xs i)).1.2.2.2.1):=h1.rows i hi 3 ae;have a5 : _ = some (Value.string (ofV (opF g.xs i)).1.2.2.2.2.1):=h1.rows i hi 4 ae;have hcr:=h1.cod.range hi;have hw:=zy hcr.1 hcr.2 hc;have x0 : ((w.alloc (bj ⟨#[]⟩ ⟨#[]⟩)).alloc (aC (opF g.xs i) (g.xs.getD i dx).a (g.xs.getD i dx).la (g.xs.getD i dx).ln (g.xs.getD i dx).lc)).cell? ⟨w.heap.size,0,none⟩ = some (.string ⟨#[]⟩):=ai r0;have x1 : ((w.alloc (bj ⟨#[]⟩ ⟨#[]⟩)).alloc (aC (opF g.xs i) (g.xs.getD i dx).a (g.xs.getD i dx).la (g.xs.getD i dx).ln (g.xs.getD i dx).lc)).cell? ⟨w.heap.size,1,none⟩ = some (.string ⟨#[]⟩):=ai r0;have f0 : ((w.alloc (bj ⟨#[]⟩ ⟨#[]⟩)).alloc (aC (opF g.xs i) (g.xs.getD i dx).a (g.xs.getD i dx).la (g.xs.getD i dx).ln (g.xs.getD i dx).lc)).frozen? ⟨w.heap.size,0,none⟩ = false:=free_at r0;have f1 : ((w.alloc (bj ⟨#[]⟩ ⟨#[]⟩)).alloc (aC (opF g.xs i) (g.xs.getD i dx).a (g.xs.getD i dx).la (g.xs.getD i dx).ln (g.xs.getD i dx).lc)).frozen? ⟨w.heap.size,1,none⟩ = false:=free_at r0;have HBB:=hid BB;have HR0:=hid r0;clear h h0 h1 B0 B1 BB r0 hcr hc;generalize (ofV (opF g.xs i)).1.2.2.2.1 = pp at *;generalize (ofV (opF g.xs i)).1.2.2.2.2.1 = ps at *;generalize wdV (opF g.xs i) = wd at *;generalize opF g.xs i = c at *;generalize (g.xs.getD i dx).a = a at *;generalize (g.xs.getD i dx).la = la at *;generalize (g.xs.getD i dx).ln = ln at *;generalize (g.xs.getD i dx).lc = lc at *
 go_enter Tryz.func213,Tryz.ntmps213
 have q0:=hw [98,108,111,99,107] ak;have q1:=hw [108,111,111,112] ak;have q2:=hw [105,102] ak;have q3:=hw [98,114,105,102] ak;have q4:=hw [99,97,108,108] ak;have q5:=hw [104,111,115,116] ak;have q6:=hw [103,101,116] ak;have q7:=hw [115,101,116] ak;have q8:=hw [116,101,101] ak;have q9:=hw [103,103,101,116] ak;have q10:=hw [103,115,101,116] ak;clear hw;go_wp2_with fail;generalize ((w.alloc (bj ⟨#[]⟩ ⟨#[]⟩)).alloc (aC c a la ln lc)) = W1 at *
 go_region
 go_wp2_with fail;refine bodyPost_ret (v:=.tuple #[.agg #[.string pp,.string ps],.bool true]) ?_ rfl ⟨rfl,?_⟩
 ·exact cZ
 ·exact EI HBB.out
end
theorem MX {w W : World} (h : Below w.heap.size w W) {u v : Value} : Below w.heap.size w ((W.setCell ⟨w.heap.size,0,none⟩ u).setCell ⟨w.heap.size,1,none⟩ v):=by
 have h1:=bN (i:=0) (u:=u) h (Nat.le_refl _) h.size;exact bN (i:=1) (u:=v) h1 (Nat.le_refl _) h1.size
theorem RU : wdV 8 = ⟨#[98,114,105,102]⟩:=aw
theorem nk {m : MM} (hTS : ∀ a,(bE m a).1.size ≤ 8 ∧ (bE m a).2.size ≤ 8) {R : ByteArray} (hR : R.size ≤ 8) (xs : List Inx) (i : Nat) (a : Int) : (ltV m R xs i a).1.size ≤ 8:=by
 have key : ∀ o,(bu m R xs o).1.1.size ≤ 8 ∧ (bu m R xs o).1.2.size ≤ 8:=fun o => by
  unfold bu
  split
  ·exact ⟨Nat.zero_le _,hR⟩
  ·split
   ·exact hTS _
   ·exact ⟨Nat.zero_le _,Nat.zero_le _⟩
 unfold ltV;dsimp only
 split
 ·exact (key _).1
 ·exact (key _).2
theorem ie {f : Int → ByteArray × Bool} (hf : ∀ a,(f a).1.size ≤ 8) : ∀ (l : List Int) (b : Bool) (c : ByteArray),c.size ≤ 8 → (bI f b c l).1.size ≤ 8
 | [],_,c,h => h
 | z :: l,b,c,h => by
  unfold bI
  split
  ·exact Nat.zero_le _
  ·split
   ·exact Nat.zero_le _
   ·exact ie hf l _ _ (hf z)
section
variable {g : Jg} {w : World}
theorem pB (h : Jw g w) (hN : g.N ≤ 2048) (hT : g.m.tn ≤ 1000000) (hTS : ∀ a,(bE g.m a).1.size ≤ 8 ∧ (bE g.m a).2.size ≤ 8) (hR : g.R.size ≤ 8) {i : Nat} (hi : i < g.N) (hc : opF g.xs i = 8) :
  Calls Tryz.prog 213 #[.pointer (some ⟨g.J,0,none⟩),.int .i64 i] w fun e w' => e = .returned (.tuple #[.agg #[.string ((bI (ltV g.m g.R g.xs i) false ⟨#[]⟩ [(g.xs.getD i dx).a]).1 ++ ⟨#[119]⟩),.string (bI (ltV g.m g.R g.xs i) false ⟨#[]⟩ [(g.xs.getD i dx).a]).1],.bool (bI (ltV g.m g.R g.xs i) false ⟨#[]⟩ [(g.xs.getD i dx).a]).2]) ∧ Below w.heap.size w w':=by
 have B0:=aj w (bj ⟨#[]⟩ ⟨#[]⟩);have h0:=h.later B0;obtain ⟨a0,a1,a2,_⟩:=h0.at_ hi;have jc:=h0.c;have hi2 : (i : Int) < (g.N : Int):=ae;have B1:=aj (w.alloc (bj ⟨#[]⟩ ⟨#[]⟩)) (aC (opF g.xs i) (g.xs.getD i dx).a (g.xs.getD i dx).la (g.xs.getD i dx).ln (g.xs.getD i dx).lc);have h1:=h0.later B1;have jr:=h1.rw;have a3:=(h1.at_ hi).2.2.2;have BB:=B0.trans (B1.mono B0.size);have r0:=ar B1 (heap_alloc_new w (bj ⟨#[]⟩ ⟨#[]⟩));have har:=(h1.cod.2 i hi).2.2.2.2.2
 have H16:=hid (fun (W : World) (hb : Below ((w.alloc (bj ⟨#[]⟩ ⟨#[]⟩)).alloc (aC (opF g.xs i) (g.xs.getD i dx).a (g.xs.getD i dx).la (g.xs.getD i dx).ln (g.xs.getD i dx).lc)).heap.size ((w.alloc (bj ⟨#[]⟩ ⟨#[]⟩)).alloc (aC (opF g.xs i) (g.xs.getD i dx).a (g.xs.getD i dx).la (g.xs.getD i dx).ln (g.xs.getD i dx).lc)) W) (b : Nat) (hs : W.cell? ⟨b,0,none⟩ = some (.int .i64 (g.xs.getD i dx).a)) => ol (h1.later hb) hN hT hi (la:=some ⟨b,0,none⟩) (ln:=1) (lc:=1) (l:=[(g.xs.getD i dx).a]) ⟨rfl,ae,ae,fun z hz => Er,.inr ⟨b,0,rfl,fun j hj => by obtain rfl : j = 0:=ae; exact hs⟩⟩ ae)
 have HR1:=hid (Below.refl ((w.alloc (bj ⟨#[]⟩ ⟨#[]⟩)).alloc (aC (opF g.xs i) (g.xs.getD i dx).a (g.xs.getD i dx).la (g.xs.getD i dx).ln (g.xs.getD i dx).lc)).heap.size ((w.alloc (bj ⟨#[]⟩ ⟨#[]⟩)).alloc (aC (opF g.xs i) (g.xs.getD i dx).a (g.xs.getD i dx).la (g.xs.getD i dx).ln (g.xs.getD i dx).lc)));have HBB:=hid BB;have HR0:=hid r0;clear h h0 h1 B0 B1 BB r0 har;have hPa:=ie (nk hTS hR g.xs i) [(g.xs.getD i dx).a] false ⟨#[]⟩ (Nat.zero_le _);generalize (bI (ltV g.m g.R g.xs i) false ⟨#[]⟩ [(g.xs.getD i dx).a]) = br at *;obtain ⟨Pa,ok⟩:=br;dsimp only at H16 hPa ⊢;generalize opF g.xs i = c at *;generalize (g.xs.getD i dx).a = a at *;generalize (g.xs.getD i dx).la = la at *;generalize (g.xs.getD i dx).ln = ln at *;generalize (g.xs.getD i dx).lc = lc at *
 go_enter Tryz.func213,Tryz.ntmps213
 rw [(congrArg wdV hc).trans RU] at a3;clear hc;go_wp2_with fail;have B3:=aj ((w.alloc (bj ⟨#[]⟩ ⟨#[]⟩)).alloc (aC c a la ln lc)) (aM a);have b3:=heap_alloc_new ((w.alloc (bj ⟨#[]⟩ ⟨#[]⟩)).alloc (aC c a la ln lc)) (aM a);have hz3 : ((w.alloc (bj ⟨#[]⟩ ⟨#[]⟩)).alloc (aC c a la ln lc)).heap.size = w.heap.size + 1 + 1:=ak
 refine (H16.out _ B3 (w.heap.size + 1 + 1) (by rw [← hz3]; exact ai b3)).mono ?_
 rintro e w2 ⟨rfl,hb2⟩;have r2:=ar hb2 (ar B3 HR0.out);have x0 : w2.cell? ⟨w.heap.size,0,none⟩ = some (.string ⟨#[]⟩):=ai r2;have x1 : w2.cell? ⟨w.heap.size,1,none⟩ = some (.string ⟨#[]⟩):=ai r2;have f0 : w2.frozen? ⟨w.heap.size,0,none⟩ = false:=free_at r2;have f1 : w2.frozen? ⟨w.heap.size,1,none⟩ = false:=free_at r2;have HB3:=HBB.out.trans (B3.mono HBB.out.size);have HB2:=hid (HB3.trans (hb2.mono HB3.size));clear hb2 r2 B3 b3 hz3 HB3;go_wp2_with fail;refine bodyPost_ret (v:=.tuple #[.agg #[.string (Pa ++ ⟨#[119]⟩),.string Pa],.bool ok]) ?_ rfl ⟨rfl,?_⟩
 ·exact cZ
 ·exact MX HB2.out
end
theorem QS : wdV 12 = ⟨#[104,111,115,116]⟩:=aw
section
variable {g : Jg} {w : World}
theorem jD (h : Jw g w) (hN : g.N ≤ 2048) (hT : g.m.tn ≤ 1000000) (hTS : ∀ a,(bE g.m a).1.size ≤ 8) {i : Nat} (hi : i < g.N) (hc : opF g.xs i = 12) {num : Int} {fd : Bool} {Pa Re : ByteArray}
  (HF : Hid (∀ W,Below w.heap.size w W → Calls Tryz.prog 257 #[.slice g.m.ha g.m.hn g.m.hc,.int .i64 (g.xs.getD i dx).a] W fun e w' => e = .returned (.tuple #[.int .i64 num,.bool fd]) ∧ w' = W))
  (HG : Hid (∀ W,Below w.heap.size w W → Calls Tryz.prog 256 #[.pointer (some ⟨g.J,0,none⟩),.int .i64 num,.bool fd] W fun e w' => e = .returned (.tuple #[.agg #[.string Pa,.string Re],.bool fd]) ∧ Below W.heap.size W w')) :
  Calls Tryz.prog 213 #[.pointer (some ⟨g.J,0,none⟩),.int .i64 i] w fun e w' => e = .returned (.tuple #[.agg #[.string Pa,.string Re],.bool fd]) ∧ Below w.heap.size w w':=by
 have B0:=aj w (bj ⟨#[]⟩ ⟨#[]⟩);have h0:=h.later B0;obtain ⟨a0,a1,a2,_⟩:=h0.at_ hi;have jc:=h0.c;have hi2 : (i : Int) < (g.N : Int):=ae;have B1:=aj (w.alloc (bj ⟨#[]⟩ ⟨#[]⟩)) (aC (opF g.xs i) (g.xs.getD i dx).a (g.xs.getD i dx).la (g.xs.getD i dx).ln (g.xs.getD i dx).lc);have h1:=h0.later B1;have jr:=h1.rw;have a3:=(h1.at_ hi).2.2.2;have BB:=B0.trans (B1.mono B0.size);have r0:=ar B1 (heap_alloc_new w (bj ⟨#[]⟩ ⟨#[]⟩));have j1:=h1.m1
 have x1 : ((w.alloc (bj ⟨#[]⟩ ⟨#[]⟩)).alloc (aC (opF g.xs i) (g.xs.getD i dx).a (g.xs.getD i dx).la (g.xs.getD i dx).ln (g.xs.getD i dx).lc)).cell? ⟨w.heap.size + 1,1,none⟩ = some (.int .i64 (g.xs.getD i dx).a):=by
  exact tM
 have HBB:=hid BB;have HR0:=hid r0;clear h h0 h1 B0 B1 BB r0;generalize opF g.xs i = c at *;generalize (g.xs.getD i dx).a = a at *;generalize (g.xs.getD i dx).la = la at *;generalize (g.xs.getD i dx).ln = ln at *;generalize (g.xs.getD i dx).lc = lc at *
 go_enter Tryz.func213,Tryz.ntmps213
 have BQ:=hid (fun (q : Nat) => HBB.out.trans ((below_drewN ((w.alloc (bj ⟨#[]⟩ ⟨#[]⟩)).alloc (aC c a la ln lc)) q).mono HBB.out.size))
 rw [(congrArg wdV hc).trans QS] at a3;clear hc;go_wp2_with fail
 go_quiet ((go_at_call 257; exact Calls.quiet_of_same (HF.out _ (BQ.out _))))
 go_wp2_with fail;refine (HG.out _ (BQ.out _)).mono ?_;rintro e w2 ⟨rfl,hb2⟩;have r2:=ar hb2 (ar (below_drewN ((w.alloc (bj ⟨#[]⟩ ⟨#[]⟩)).alloc (aC c a la ln lc)) nq) HR0.out);have x0 : w2.cell? ⟨w.heap.size,0,none⟩ = some (.string ⟨#[]⟩):=ai r2;have x2 : w2.cell? ⟨w.heap.size,1,none⟩ = some (.string ⟨#[]⟩):=ai r2;have f0 : w2.frozen? ⟨w.heap.size,0,none⟩ = false:=free_at r2;have f1 : w2.frozen? ⟨w.heap.size,1,none⟩ = false:=free_at r2;have HB2:=hid ((BQ.out nq).trans (hb2.mono (BQ.out nq).size));clear hb2 r2;go_wp2_with fail;refine bodyPost_ret (v:=.tuple #[.agg #[.string Pa,.string Re],.bool fd]) ?_ rfl ⟨rfl,?_⟩
 ·exact cZ
 ·exact MX HB2.out
end
theorem Iy : wdV 18 = ⟨#[103,101,116]⟩:=aw
theorem NQ : wdV 19 = ⟨#[115,101,116]⟩:=aw
theorem NL : wdV 20 = ⟨#[116,101,101]⟩:=aw
section
variable {g : Jg} {w : World}
theorem kr (h : Jw g w) (hN : g.N ≤ 2048) (hT : g.m.tn ≤ 1000000) (hTS : ∀ a,(bE g.m a).1.size ≤ 8) {i : Nat} (hi : i < g.N) (hc : opF g.xs i = 18 ∨ opF g.xs i = 19 ∨ opF g.xs i = 20) {num : Int} {fd : Bool} {Pa Re : ByteArray}
  (HF : Hid (∀ W,Below w.heap.size w W → Calls Tryz.prog 258 #[.slice (some ⟨g.L,0,none⟩) g.lo.length g.lc,.int .i64 (g.xs.getD i dx).a] W fun e w' => e = .returned (.tuple #[.int .u8 num,.bool fd]) ∧ w' = W))
  (HG : Hid (∀ W,Below w.heap.size w W → Calls Tryz.prog 259 #[.string (wdV (opF g.xs i)),.int .u8 num] W fun e w' => e = .returned (.agg #[.string Pa,.string Re]) ∧ Below W.heap.size W w')) :
  Calls Tryz.prog 213 #[.pointer (some ⟨g.J,0,none⟩),.int .i64 i] w fun e w' => e = .returned (.tuple #[.agg #[.string Pa,.string Re],.bool fd]) ∧ Below w.heap.size w w':=by
 have B0:=aj w (bj ⟨#[]⟩ ⟨#[]⟩);have h0:=h.later B0;obtain ⟨a0,a1,a2,_⟩:=h0.at_ hi;have jc:=h0.c;have hi2 : (i : Int) < (g.N : Int):=ae;have B1:=aj (w.alloc (bj ⟨#[]⟩ ⟨#[]⟩)) (aC (opF g.xs i) (g.xs.getD i dx).a (g.xs.getD i dx).la (g.xs.getD i dx).ln (g.xs.getD i dx).lc);have h1:=h0.later B1;have jr:=h1.rw;have a3:=(h1.at_ hi).2.2.2;have BB:=B0.trans (B1.mono B0.size);have r0:=ar B1 (heap_alloc_new w (bj ⟨#[]⟩ ⟨#[]⟩));have j1:=h1.l
 have x1 : ((w.alloc (bj ⟨#[]⟩ ⟨#[]⟩)).alloc (aC (opF g.xs i) (g.xs.getD i dx).a (g.xs.getD i dx).la (g.xs.getD i dx).ln (g.xs.getD i dx).lc)).cell? ⟨w.heap.size + 1,1,none⟩ = some (.int .i64 (g.xs.getD i dx).a):=by
  exact tM
 have HBB:=hid BB;have HR0:=hid r0;clear h h0 h1 B0 B1 BB r0;generalize opF g.xs i = c at *;generalize (g.xs.getD i dx).a = a at *;generalize (g.xs.getD i dx).la = la at *;generalize (g.xs.getD i dx).ln = ln at *;generalize (g.xs.getD i dx).lc = lc at *
 go_enter Tryz.func213,Tryz.ntmps213
 have BQ:=hid (fun (q : Nat) => HBB.out.trans ((below_drewN ((w.alloc (bj ⟨#[]⟩ ⟨#[]⟩)).alloc (aC c a la ln lc)) q).mono HBB.out.size))
 rcases hc with hc | hc | hc
 ·rw [(congrArg wdV hc).trans Iy] at a3 HG;exact AK
 ·rw [(congrArg wdV hc).trans NQ] at a3 HG;exact AK
 ·rw [(congrArg wdV hc).trans NL] at a3 HG;exact AK
end
def fy (m : MM) (R : ByteArray) (xs : List Inx) (t : Nat) : ByteArray:=if opF xs t = 4 then (bu m R xs t).1.1 ++ ⟨#[119]⟩ else (bu m R xs t).1.1
def bT (m : MM) (R : ByteArray) (xs : List Inx) (sh : Nat → ByteArray) (o : Int) : ByteArray × Bool :=
 if o = -1 then (⟨#[]⟩,true) else (if ends (sh o.toNat) (fy m R xs o.toNat) = true then below (sh o.toNat) (fy m R xs o.toNat) else sh o.toNat,(bu m R xs o).2 && ends (sh o.toNat) (fy m R xs o.toNat))
section
variable {g : Jg} {w : World}
theorem iC (h : Jw g w) (hN : g.N ≤ 2048) (hT : g.m.tn ≤ 1000000) (hTS : ∀ a,(bE g.m a).1.size ≤ 8) {i : Nat} (hi : i < g.N) (hc : isO (opF g.xs i) = true) :
  Calls Tryz.prog 213 #[.pointer (some ⟨g.J,0,none⟩),.int .i64 i] w fun e w' => e = .returned (.tuple #[.agg #[.string (fy g.m g.R g.xs i),.string (bu g.m g.R g.xs i).1.1],.bool (bu g.m g.R g.xs i).2]) ∧ Below w.heap.size w w':=by
 have h3:=cD.1 hc;unfold fy
 by_cases h4 : opF g.xs i = 4
 ·rw [if_pos h4];exact sj h hN hT hTS hi h4
 ·rw [if_neg h4];exact pE h hN hT hTS hi ae
theorem wE (h : Jw g w) : Calls Tryz.prog 215 #[.pointer (some ⟨g.J,0,none⟩),.int .i64 (-1)] w fun e w' => e = .returned (.tuple #[.string ⟨#[]⟩,.bool true]) ∧ Below w.heap.size w w':=by
 clear h;generalize g.J = J
 go_enter Tryz.func215,Tryz.ntmps215
 go_wp2_with fail;go_ret2;exact kX
theorem vO (h : Jw g w) (hN : g.N ≤ 2048) (hT : g.m.tn ≤ 1000000) (hTS : ∀ a,(bE g.m a).1.size ≤ 8) (hsh : ∀ j,(g.sh j).size ≤ 256) {o : Int} (ho : o = -1 ∨ ∃ t : Nat,o = t ∧ t < g.N ∧ isO (opF g.xs t) = true) :
  Calls Tryz.prog 215 #[.pointer (some ⟨g.J,0,none⟩),.int .i64 o] w fun e w' => e = .returned (.tuple #[.string (bT g.m g.R g.xs g.sh o).1,.bool (bT g.m g.R g.xs g.sh o).2]) ∧ Below w.heap.size w w':=by
 rcases ho with rfl | ⟨t,rfl,ht,hc⟩
 ·exact wE h
 have e1 : (bT g.m g.R g.xs g.sh (t : Int)) = (if ends (g.sh t) (fy g.m g.R g.xs t) = true then below (g.sh t) (fy g.m g.R g.xs t) else g.sh t,(bu g.m g.R g.xs t).2 && ends (g.sh t) (fy g.m g.R g.xs t)):=by
  unfold bT;rw [if_neg ae];rfl
 rw [e1];have H13:=hid (iC h hN hT hTS ht hc);have HJ:=hid h;have hs:=hsh t;have g0 : ((t : Int) == (-1 : Int)) = false:=ak;have g1 : (t : Int) < (g.N : Int):=ae
 have HS:=hid (fun (W : World) (hb : Below w.heap.size w W) => And.intro (h.later hb).s ((h.later hb).shs t ht))
 have HCU:=hid (fun W => K6 (g.sh t) (fy g.m g.R g.xs t) W ae)
 clear h e1 hc hsh;generalize (if ends (g.sh t) (fy g.m g.R g.xs t) = true then below (g.sh t) (fy g.m g.R g.xs t) else g.sh t) = bs at *;generalize ends (g.sh t) (fy g.m g.R g.xs t) = eb at *;generalize g.sh t = st at *;generalize fy g.m g.R g.xs t = off at *;generalize bu g.m g.R g.xs t = sg at *;obtain ⟨⟨Pa,Re⟩,ok⟩:=sg;dsimp only at *
 go_enter Tryz.func215,Tryz.ntmps215
 go_wp2_with fail;refine H13.out.mono ?_;rintro e w2 ⟨rfl,hb2⟩;have B3:=hb2.trans ((aj w2 (bj off Pa)).mono hb2.size);have HB3:=hid B3;obtain ⟨s0,s1⟩:=HS.out _ B3
 have BQ:=hid (fun (q : Nat) => B3.trans ((below_drewN (w2.alloc (bj off Pa)) q).mono B3.size))
 clear hb2 B3 H13
 cases ok with
 | true =>
  exact CL
 | false =>
  exact CL
end
def E0 (s t : ByteArray) : Bool:=decide (t.size ≤ s.size) && ((s.extract 0 t.size).toList == t.toList)
theorem OJ (s p : ByteArray) (w : World) (hs : s.size ≤ 9223372036854775807) : Calls Tryz.prog 282 #[.string s,.string p] w fun e w' => e = .returned (.bool (E0 s p)) ∧ w' = w:=by
 go_enter Tryz.func282,Tryz.ntmps282
 go_wp2
 ·have h : p.size ≤ s.size:=cU;go_ret;refine ⟨?_,rfl⟩
  show Ending.returned (Value.bool ((s.extract 0 p.size).toList == p.toList)) = _
  simp [h,E0]
 ·have h : ¬ p.size ≤ s.size:=cU;go_ret;refine ⟨?_,rfl⟩
  show Ending.returned (Value.bool false) = _
  simp [h,E0]
theorem PM (s p : ByteArray) (w : World) (hs : s.size ≤ 9223372036854775807) : Calls Tryz.prog 264 #[.string s,.string p] w fun e w' => e = .returned (.bool (E0 s p)) ∧ w' = w:=by
 have HE:=hid (OJ s p w hs)
 go_enter Tryz.func264,Tryz.ntmps264
 go_wp2_with fail;refine HE.out.mono ?_;rintro e w1 ⟨rfl,rfl⟩;exact nj
def isV (m : MM) (R : ByteArray) (xs : List Inx) (sh : Nat → ByteArray) (i : Nat) (t : ByteArray) : ByteArray × Bool :=
 (if ends (sh i) t = true then below (sh i) t else sh i,(bT m R xs sh (top (stk (opF xs) i))).2 && ends (sh i) t && E0 (if ends (sh i) t = true then below (sh i) t else sh i) (bT m R xs sh (top (stk (opF xs) i))).1)
section
variable {g : Jg} {w : World}
theorem zJ (O : Nat → Int) (i : Nat) : top (stk O i) = -1 ∨ ∃ t : Nat,top (stk O i) = t ∧ t < i ∧ isO (O t) = true:=by
 rcases cQ O i with h | ⟨t,h1,h2,h3⟩
 ·rw [h]; exact .inl rfl
 ·rw [h3]; exact .inr ⟨t,rfl,h1,h2⟩
theorem Ee (h : Jw g w) (hN : g.N ≤ 2048) (hT : g.m.tn ≤ 1000000) (hTS : ∀ a,(bE g.m a).1.size ≤ 8) (hsh : ∀ j,(g.sh j).size ≤ 256) {i : Nat} (hi : i < g.N) (t : ByteArray) :
  Calls Tryz.prog 217 #[.pointer (some ⟨g.J,0,none⟩),.int .i64 i,.string t] w fun e w' => e = .returned (.tuple #[.string (isV g.m g.R g.xs g.sh i t).1,.bool (isV g.m g.R g.xs g.sh i t).2]) ∧ Below w.heap.size w w':=by
 unfold isV;have o0:=h.ow
 have o1 : w.cell? ⟨g.OW,i,none⟩ = some (.int .i64 (top (stk (opF g.xs) i))):=by
  rw [h.owc.cell i hi];unfold owF;rw [if_pos hi]
 have H15:=hid (vO h hN hT hTS hsh (o:=top (stk (opF g.xs) i)) ((zJ (opF g.xs) i).imp id fun ⟨t,h1,h2,h3⟩ => ⟨t,h1,ae,h3⟩))
 have HS:=hid (fun (W : World) (hb : Below w.heap.size w W) => And.intro (h.later hb).s ((h.later hb).shs i hi))
 have hs:=hsh i
 have HCU:=hid (fun W => K6 (g.sh i) t W ae)
 have hbs : (if ends (g.sh i) t = true then below (g.sh i) t else g.sh i).size ≤ 256:=by
  split
  ·exact vr
  ·exact hs
 have hi2 : (i : Int) < (g.N : Int):=ae
 have HPR:=hid (fun b W => PM (if ends (g.sh i) t = true then below (g.sh i) t else g.sh i) b W ae)
 clear h hsh;generalize top (stk (opF g.xs) i) = o at *;generalize bT g.m g.R g.xs g.sh o = bv at *;obtain ⟨ba,bf⟩:=bv;dsimp only at *;generalize (if ends (g.sh i) t = true then below (g.sh i) t else g.sh i) = bs at *;generalize ends (g.sh i) t = eb at *;generalize g.sh i = si at *
 go_enter Tryz.func217,Tryz.ntmps217
 go_wp2_with fail;refine H15.out.mono ?_;rintro e w2 ⟨rfl,hb2⟩;obtain ⟨s0,s1⟩:=HS.out _ hb2;have HB2:=hid hb2;clear hb2 H15 o0 o1;go_wp2_with fail;refine (HCU.out _).mono ?_;rintro e w3 ⟨rfl,hw3⟩;have hw3:=hw3.symm;subst hw3;clear s0 s1
 cases bf with
 | false =>
  exact wo
 | true =>
  cases eb with
  | false =>
   exact wo
  | true =>
   go_wp2_with fail;refine (HPR.out _ _).mono ?_;rintro e w3 ⟨rfl,hw3⟩;have hw3:=hw3.symm;subst hw3;exact wo
end
def gS (m : MM) (R : ByteArray) (xs : List Inx) (sh : Nat → ByteArray) (i : Nat) (x : Sg) : Bool :=
 (isV m R xs sh i x.1).2 && ((sh (i + 1)).toList == ((isV m R xs sh i x.1).1 ++ x.2).toList)
section
variable {g : Jg} {w : World}
theorem Ib (m : MM) (R : ByteArray) (xs : List Inx) {sh : Nat → ByteArray} (hsh : ∀ j,(sh j).size ≤ 256) (i : Nat) (t : ByteArray) : (isV m R xs sh i t).1.size ≤ 256:=by
 have:=hsh i
 unfold isV;exact C7
theorem rU (h : Jw g w) (hN : g.N ≤ 2048) (hT : g.m.tn ≤ 1000000) (hTS : ∀ a,(bE g.m a).1.size ≤ 8) (hsh : ∀ j,(g.sh j).size ≤ 256) {i : Nat} (hi : i + 1 < g.N) {off on : ByteArray} (hon : on.size ≤ 1000) :
  Calls Tryz.prog 152 #[.pointer (some ⟨g.J,0,none⟩),.int .i64 i,.agg #[.string off,.string on]] w fun e w' => e = .returned (.bool (gS g.m g.R g.xs g.sh i (off,on))) ∧ Below w.heap.size w w':=by
 unfold gS;dsimp only;have B0:=aj w (bj off on);have b0:=heap_alloc_new w (bj off on);have h0:=h.later B0
 have H17:=hid (Ee h0 hN hT hTS hsh (show i < g.N by omega) off)
 have hbs:=Ib g.m g.R g.xs hsh i off
 have H93:=hid (fun (W : World) (hb : Below w.heap.size w W) (pb : Nat) (s : ByteArray) (q0 : W.cell? ⟨pb,0,none⟩ = some (.int .i64 ((i + 1 : Nat) : Int))) (q1 : W.cell? ⟨pb,1,none⟩ = some (.string s)) => vJ (h.later hb) hN (pb:=pb) (poff:=0) (n:=1) (cap:=1) (l:=[(i + 1,s)]) rfl ae (fun j p hj => by
  have hj0 : j = 0:=rR;subst hj0
  simp at hj
  subst hj;exact ⟨q0,q1,hi⟩))
 have HB0:=hid B0;have Hb0:=hid b0;clear h h0 B0 b0 hsh
 have he : ∀ s : ByteArray,fG g.sh [(i + 1,s)] = ((g.sh (i + 1)).toList == s.toList):=fun s => by simp [fG]
 generalize isV g.m g.R g.xs g.sh i off = iv at *;obtain ⟨bs,fd⟩:=iv;dsimp only at *;have HE:=hid (he (bs ++ on));clear he
 go_enter Tryz.func152,Tryz.ntmps152
 go_wp2_with fail;refine H17.out.mono ?_;rintro e w2 ⟨rfl,hb2⟩;have HB2:=hid (HB0.out.trans (hb2.mono HB0.out.size));have y1 : w2.cell? ⟨w.heap.size,1,none⟩ = some (.string on):=ai (ar hb2 Hb0.out);clear hb2 H17
 cases fd with
 | false =>
  exact kK
 | true =>
  go_wp2_with fail;have B3:=HB2.out.trans ((aj w2 (gG ((i : Int) + 1) (bs ++ on))).mono HB2.out.size);have b3:=heap_alloc_new w2 (gG ((i : Int) + 1) (bs ++ on));refine (H93.out _ B3 w2.heap.size (bs ++ on) (ai b3) (ai b3)).mono ?_;rintro e w3 ⟨rfl,hb3⟩;have HB3:=hid (B3.trans (hb3.mono B3.size));rw [HE.out];clear B3 b3 hb3;exact ng
theorem zo : ((List.range 256).all fun k => (((wdV (k : Int)).toList == [101,108,115,101]) == decide (k = 5)) && (((wdV (k : Int)).toList == [101,110,100]) == decide (k = 6))) = true:=aw
theorem xO {c : Int} (h0 : 0 ≤ c) (h1 : c ≤ 255) : ((wdV c).toList == [101,108,115,101]) = decide (c = 5) ∧ ((wdV c).toList == [101,110,100]) = decide (c = 6):=by
 have h:=List.all_eq_true.1 zo c.toNat oK
 rw [show ((c.toNat : Nat) : Int) = c by omega,Bool.and_eq_true,beq_iff_eq,beq_iff_eq] at h
 refine ⟨h.1.trans ?_,h.2.trans ?_⟩
 ·exact decide_eq_decide.2 ae
 ·exact decide_eq_decide.2 ae
theorem ET (h : Jw g w) (hN : g.N ≤ 2048) {i : Nat} (hi : i < g.N) :
  Calls Tryz.prog 148 #[.pointer (some ⟨g.J,0,none⟩),.int .i64 i] w fun e w' => e = .returned (.bool (decide (opF g.xs i = 5) || decide (opF g.xs i = 6))) ∧ w' = w:=by
 have j0:=h.rw;have j1:=(h.at_ hi).2.2.2;have hcr:=h.cod.range hi;obtain ⟨q1,q2⟩:=xO hcr.1 hcr.2;have hi2 : (i : Int) < (g.N : Int):=ae;rw [← q1,← q2];clear h hcr q1 q2;generalize wdV (opF g.xs i) = wd at *
 cases h5 : (wd.toList == [101,108,115,101]) with
 | true =>
  exact Dd
 | false =>
  exact Dd
end
def cutV (s t : ByteArray) : ByteArray:=if ends s t = true then below s t else ⟨#[]⟩
theorem GN (s p : ByteArray) (w : World) (hs : s.size ≤ 1000000) :
  Calls Tryz.prog 160 #[.string s,.string p] w fun e w' => e = .returned (.tuple #[.string (cutV s p),.bool (ends s p)]) ∧ w' = w:=by
 have HE:=hid (PP s p w ae)
 by_cases hc : ends s p = true
 ·have hle : p.size ≤ s.size:=by unfold ends at hc; simp at hc; exact hc.1
  have hlo : ((s.size : Int) - (p.size : Int) + 9223372036854775808) % 18446744073709551616 - 9223372036854775808 = ((s.size - p.size : Nat) : Int):=ae;have h0 : (0 : Int) ≤ ((s.size - p.size : Nat) : Int):=ae;have h1 : ((s.size - p.size : Nat) : Int) ≤ (s.size : Int):=ae
  have HV:=hid (show cutV s p = s.extract 0 (s.size - p.size) from by unfold cutV; rw [if_pos hc]; rfl)
  have HC:=hid hc;rw [hc];clear hc;exact IZ
 ·have hf : ends s p = false:=by simpa using hc
  have HV:=hid (show cutV s p = ⟨#[]⟩ from by unfold cutV; rw [if_neg hc])
  have HC:=hid hf;rw [hf];clear hc hf;exact IZ
end Go.Proofs.YtepnnenohjfkbaaGreatDoor

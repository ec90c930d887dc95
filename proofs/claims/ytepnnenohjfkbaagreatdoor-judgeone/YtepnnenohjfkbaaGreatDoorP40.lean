/-
  Texts Jp.
-/
import Derived.Test.YtepnnenohjfkbaaGreatDoorP39
set_option linter.unusedVariables false
set_option maxRecDepth 100000
set_option maxHeartbeats 16000000
namespace Go.Proofs.YtepnnenohjfkbaaGreatDoor
open Go.RowKit
theorem A6 : wdV 0 = ⟨#[116,114,97,112]⟩:=by kernel_rfl
theorem AX : wdV 7 = ⟨#[98,114]⟩:=by kernel_rfl
theorem AG : wdV 9 = ⟨#[98,114,116,97,98,108,101]⟩:=by kernel_rfl
theorem zj : wdV 10 = ⟨#[114,101,116,117,114,110]⟩:=by kernel_rfl
section
variable {g : Jg} {w : World}
theorem lw (h : Jw g w) (hN : g.N ≤ 2048) {i : Nat} (hi : i < g.N) (hc : opF g.xs i = 0) :
  Calls Tryz.prog 149 #[.pointer (some ⟨g.J,0,none⟩),.int .i64 i] w fun e w' => e = .returned (.bool true) ∧ Below w.heap.size w w':=by
 have j8:=h.r;obtain ⟨a0,a1,a2,_⟩:=h.at_ hi;have jc:=h.c
 have hi2 : (i : Int) < (g.N : Int):=by omega
 have B1:=ag w (.cells #[.int .u8 (opF g.xs i),.int .i64 (g.xs.getD i dx).a,.slice (g.xs.getD i dx).la (g.xs.getD i dx).ln (g.xs.getD i dx).lc] 51);have h1:=h.later B1;have jr:=h1.rw;have a3:=(h1.at_ hi).2.2.2;have b1:=heap_alloc_new w (.cells #[.int .u8 (opF g.xs i),.int .i64 (g.xs.getD i dx).a,.slice (g.xs.getD i dx).la (g.xs.getD i dx).ln (g.xs.getD i dx).lc] 51);have x1 : (w.alloc (.cells #[.int .u8 (opF g.xs i),.int .i64 (g.xs.getD i dx).a,.slice (g.xs.getD i dx).la (g.xs.getD i dx).ln (g.xs.getD i dx).lc] 51)).cell? ⟨w.heap.size,1,none⟩ = some (.int .i64 (g.xs.getD i dx).a):=ai b1;have x2 : (w.alloc (.cells #[.int .u8 (opF g.xs i),.int .i64 (g.xs.getD i dx).a,.slice (g.xs.getD i dx).la (g.xs.getD i dx).ln (g.xs.getD i dx).lc] 51)).cell? ⟨w.heap.size,2,none⟩ = some (.slice (g.xs.getD i dx).la (g.xs.getD i dx).ln (g.xs.getD i dx).lc):=ai b1;have HB1:=hid B1;clear h h1 B1 b1;generalize opF g.xs i = c at *;generalize (g.xs.getD i dx).a = a at *;generalize (g.xs.getD i dx).la = la at *;generalize (g.xs.getD i dx).ln = ln at *;generalize (g.xs.getD i dx).lc = lc at *
 go_enter Tryz.func149,Tryz.ntmps149
 rw [(congrArg wdV hc).trans A6] at a3;clear hc;go_wp2_with fail;go_ret;exact ⟨rfl,HB1.out⟩
theorem lU (h : Jw g w) (hN : g.N ≤ 2048) (hT : g.m.tn ≤ 1000000) (hTS : ∀ a,(aH g.m a).1.size ≤ 8 ∧ (aH g.m a).2.size ≤ 8) (hR : g.R.size ≤ 8) (hsh : ∀ j,(g.sh j).size ≤ 256) {i : Nat} (hi : i < g.N) (hc : opF g.xs i = 10) :
  Calls Tryz.prog 149 #[.pointer (some ⟨g.J,0,none⟩),.int .i64 i] w fun e w' => e = .returned (.bool (isV g.m g.R g.xs g.sh i g.R).2) ∧ Below w.heap.size w w':=by
 have j8:=h.r;obtain ⟨a0,a1,a2,_⟩:=h.at_ hi;have jc:=h.c
 have hi2 : (i : Int) < (g.N : Int):=by omega
 have B1:=ag w (.cells #[.int .u8 (opF g.xs i),.int .i64 (g.xs.getD i dx).a,.slice (g.xs.getD i dx).la (g.xs.getD i dx).ln (g.xs.getD i dx).lc] 51);have h1:=h.later B1;have jr:=h1.rw;have a3:=(h1.at_ hi).2.2.2;have b1:=heap_alloc_new w (.cells #[.int .u8 (opF g.xs i),.int .i64 (g.xs.getD i dx).a,.slice (g.xs.getD i dx).la (g.xs.getD i dx).ln (g.xs.getD i dx).lc] 51);have x1 : (w.alloc (.cells #[.int .u8 (opF g.xs i),.int .i64 (g.xs.getD i dx).a,.slice (g.xs.getD i dx).la (g.xs.getD i dx).ln (g.xs.getD i dx).lc] 51)).cell? ⟨w.heap.size,1,none⟩ = some (.int .i64 (g.xs.getD i dx).a):=ai b1;have x2 : (w.alloc (.cells #[.int .u8 (opF g.xs i),.int .i64 (g.xs.getD i dx).a,.slice (g.xs.getD i dx).la (g.xs.getD i dx).ln (g.xs.getD i dx).lc] 51)).cell? ⟨w.heap.size,2,none⟩ = some (.slice (g.xs.getD i dx).la (g.xs.getD i dx).ln (g.xs.getD i dx).lc):=ai b1;have HB1:=hid B1
 have H17:=hid (fun (W : World) (hb : Below w.heap.size w W) => s9 (h.later hb) hN hT (fun a => (hTS a).1) hsh hi g.R)
 clear h h1 B1 b1;generalize isV g.m g.R g.xs g.sh i g.R = iv at *;obtain ⟨bs,fd⟩:=iv;dsimp only at *;generalize opF g.xs i = c at *;generalize (g.xs.getD i dx).a = a at *;generalize (g.xs.getD i dx).la = la at *;generalize (g.xs.getD i dx).ln = ln at *;generalize (g.xs.getD i dx).lc = lc at *;generalize g.R = R at *
 go_enter Tryz.func149,Tryz.ntmps149
 rw [(congrArg wdV hc).trans zj] at a3;clear hc;go_wp2_with fail;refine (H17.out _ HB1.out).mono ?_;rintro e w3 ⟨rfl,hb3⟩;have HB3:=hid (HB1.out.trans (hb3.mono HB1.out.size));clear hb3;go_wp2_with fail;go_ret;exact ⟨rfl,HB3.out⟩
theorem nA (h : Jw g w) (hN : g.N ≤ 2048) (hT : g.m.tn ≤ 1000000) (hTS : ∀ a,(aH g.m a).1.size ≤ 8 ∧ (aH g.m a).2.size ≤ 8) (hR : g.R.size ≤ 8) (hsh : ∀ j,(g.sh j).size ≤ 256) {i : Nat} (hi : i < g.N) (hc : opF g.xs i = 7) :
  Calls Tryz.prog 149 #[.pointer (some ⟨g.J,0,none⟩),.int .i64 i] w fun e w' => e = .returned (.bool ((aY (ltV g.m g.R g.xs i) false ⟨#[]⟩ [(g.xs.getD i dx).a]).2 && (isV g.m g.R g.xs g.sh i (aY (ltV g.m g.R g.xs i) false ⟨#[]⟩ [(g.xs.getD i dx).a]).1).2)) ∧ Below w.heap.size w w':=by
 have j8:=h.r;obtain ⟨a0,a1,a2,_⟩:=h.at_ hi;have jc:=h.c
 have hi2 : (i : Int) < (g.N : Int):=by omega
 have B1:=ag w (.cells #[.int .u8 (opF g.xs i),.int .i64 (g.xs.getD i dx).a,.slice (g.xs.getD i dx).la (g.xs.getD i dx).ln (g.xs.getD i dx).lc] 51);have h1:=h.later B1;have jr:=h1.rw;have a3:=(h1.at_ hi).2.2.2;have b1:=heap_alloc_new w (.cells #[.int .u8 (opF g.xs i),.int .i64 (g.xs.getD i dx).a,.slice (g.xs.getD i dx).la (g.xs.getD i dx).ln (g.xs.getD i dx).lc] 51);have x1 : (w.alloc (.cells #[.int .u8 (opF g.xs i),.int .i64 (g.xs.getD i dx).a,.slice (g.xs.getD i dx).la (g.xs.getD i dx).ln (g.xs.getD i dx).lc] 51)).cell? ⟨w.heap.size,1,none⟩ = some (.int .i64 (g.xs.getD i dx).a):=ai b1;have x2 : (w.alloc (.cells #[.int .u8 (opF g.xs i),.int .i64 (g.xs.getD i dx).a,.slice (g.xs.getD i dx).la (g.xs.getD i dx).ln (g.xs.getD i dx).lc] 51)).cell? ⟨w.heap.size,2,none⟩ = some (.slice (g.xs.getD i dx).la (g.xs.getD i dx).ln (g.xs.getD i dx).lc):=ai b1;have HB1:=hid B1;have har:=(h1.cod.2 i hi).2.2.2.2.2
 have H16:=hid (fun (W : World) (hb : Below w.heap.size w W) (b : Nat) (hs : W.cell? ⟨b,0,none⟩ = some (.int .i64 (g.xs.getD i dx).a)) => CF (h.later hb) hN hT hi (la:=some ⟨b,0,none⟩) (ln:=1) (lc:=1) (l:=[(g.xs.getD i dx).a]) ⟨rfl,by omega,by omega,fun z hz => by rw [List.mem_singleton] at hz; subst hz; exact ⟨har.1,har.2.1⟩,.inr ⟨b,0,rfl,fun j hj => by obtain rfl : j = 0:=(by omega); exact hs⟩⟩ (by omega))
 generalize (aY (ltV g.m g.R g.xs i) false ⟨#[]⟩ [(g.xs.getD i dx).a]) = br at *;obtain ⟨Pa,ok⟩:=br;dsimp only at *
 have H17:=hid (fun (W : World) (hb : Below w.heap.size w W) => s9 (h.later hb) hN hT (fun a => (hTS a).1) hsh hi Pa)
 clear h h1 B1 b1 har;generalize isV g.m g.R g.xs g.sh i Pa = iv at *;obtain ⟨bs,fd⟩:=iv;dsimp only at *;generalize opF g.xs i = c at *;generalize (g.xs.getD i dx).a = a at *;generalize (g.xs.getD i dx).la = la at *;generalize (g.xs.getD i dx).ln = ln at *;generalize (g.xs.getD i dx).lc = lc at *;generalize g.R = R at *
 go_enter Tryz.func149,Tryz.ntmps149
 rw [(congrArg wdV hc).trans AX] at a3;clear hc;go_wp2_with fail;have B3:=ag (w.alloc (.cells #[.int .u8 c,.int .i64 a,.slice la ln lc] 51)) (.cells #[.int .i64 a] 3);have b3:=heap_alloc_new (w.alloc (.cells #[.int .u8 c,.int .i64 a,.slice la ln lc] 51)) (.cells #[.int .i64 a] 3)
 have hz3 : (w.alloc (.cells #[.int .u8 c,.int .i64 a,.slice la ln lc] 51)).heap.size = w.heap.size + 1:=by simp
 have BB:=HB1.out.trans (B3.mono HB1.out.size)
 refine (H16.out _ BB (w.heap.size + 1) (by rw [← hz3]; exact ai b3)).mono ?_
 rintro e w2 ⟨rfl,hb2⟩;have HB2:=hid (BB.trans (hb2.mono BB.size));clear hb2 B3 b3 hz3 BB;go_wp2_with fail;refine (H17.out _ HB2.out).mono ?_;rintro e w3 ⟨rfl,hb3⟩;have HB3:=hid (HB2.out.trans (hb3.mono HB2.out.size));clear hb3
 cases ok with
 | true =>
  go_wp2_with fail;go_ret;exact ⟨rfl,HB3.out⟩
 | false =>
  go_wp2_with fail;go_ret;exact ⟨rfl,HB3.out⟩
theorem lS (h : Jw g w) (hN : g.N ≤ 2048) (hT : g.m.tn ≤ 1000000) (hTS : ∀ a,(aH g.m a).1.size ≤ 8 ∧ (aH g.m a).2.size ≤ 8) (hR : g.R.size ≤ 8) (hsh : ∀ j,(g.sh j).size ≤ 256) {i : Nat} (hi : i < g.N) (hc : opF g.xs i = 9) (hl : iq w (g.xs.getD i dx).la (g.xs.getD i dx).ln (g.xs.getD i dx).lc (g.xs.getD i dx).l) (hln : (g.xs.getD i dx).ln ≤ 100000) :
  Calls Tryz.prog 149 #[.pointer (some ⟨g.J,0,none⟩),.int .i64 i] w fun e w' => e = .returned (.bool ((aY (ltV g.m g.R g.xs i) false ⟨#[]⟩ (g.xs.getD i dx).l).2 && (isV g.m g.R g.xs g.sh i ((aY (ltV g.m g.R g.xs i) false ⟨#[]⟩ (g.xs.getD i dx).l).1 ++ ⟨#[119]⟩)).2)) ∧ Below w.heap.size w w':=by
 have j8:=h.r;obtain ⟨a0,a1,a2,_⟩:=h.at_ hi;have jc:=h.c
 have hi2 : (i : Int) < (g.N : Int):=by omega
 have B1:=ag w (.cells #[.int .u8 (opF g.xs i),.int .i64 (g.xs.getD i dx).a,.slice (g.xs.getD i dx).la (g.xs.getD i dx).ln (g.xs.getD i dx).lc] 51);have h1:=h.later B1;have jr:=h1.rw;have a3:=(h1.at_ hi).2.2.2;have b1:=heap_alloc_new w (.cells #[.int .u8 (opF g.xs i),.int .i64 (g.xs.getD i dx).a,.slice (g.xs.getD i dx).la (g.xs.getD i dx).ln (g.xs.getD i dx).lc] 51);have x1 : (w.alloc (.cells #[.int .u8 (opF g.xs i),.int .i64 (g.xs.getD i dx).a,.slice (g.xs.getD i dx).la (g.xs.getD i dx).ln (g.xs.getD i dx).lc] 51)).cell? ⟨w.heap.size,1,none⟩ = some (.int .i64 (g.xs.getD i dx).a):=ai b1;have x2 : (w.alloc (.cells #[.int .u8 (opF g.xs i),.int .i64 (g.xs.getD i dx).a,.slice (g.xs.getD i dx).la (g.xs.getD i dx).ln (g.xs.getD i dx).lc] 51)).cell? ⟨w.heap.size,2,none⟩ = some (.slice (g.xs.getD i dx).la (g.xs.getD i dx).ln (g.xs.getD i dx).lc):=ai b1;have HB1:=hid B1;have H16:=hid (CF h1 hN hT hi (hl.later B1 (Nat.le_refl _)) hln);have hPa:=gq (CR hTS hR g.xs i) (g.xs.getD i dx).l false ⟨#[]⟩ (Nat.zero_le _);generalize (aY (ltV g.m g.R g.xs i) false ⟨#[]⟩ (g.xs.getD i dx).l) = br at *;obtain ⟨Pa,ok⟩:=br;dsimp only at *
 have H17:=hid (fun (W : World) (hb : Below w.heap.size w W) => s9 (h.later hb) hN hT (fun a => (hTS a).1) hsh hi (Pa ++ ⟨#[119]⟩))
 clear h h1 B1 b1 hl hln;generalize isV g.m g.R g.xs g.sh i (Pa ++ ⟨#[119]⟩) = iv at *;obtain ⟨bs,fd⟩:=iv;dsimp only at *;generalize opF g.xs i = c at *;generalize (g.xs.getD i dx).a = a at *;generalize (g.xs.getD i dx).la = la at *;generalize (g.xs.getD i dx).ln = ln at *;generalize (g.xs.getD i dx).lc = lc at *;generalize g.R = R at *
 go_enter Tryz.func149,Tryz.ntmps149
 rw [(congrArg wdV hc).trans AG] at a3;clear hc;go_wp2_with fail;refine H16.out.mono ?_;rintro e w2 ⟨rfl,hb2⟩;have HB2:=hid (HB1.out.trans (hb2.mono HB1.out.size));clear hb2 H16
 have s1 : ¬ 9223372036854775807 < Pa.size + 1:=by omega
 go_wp2_with fail;refine (H17.out _ HB2.out).mono ?_;rintro e w3 ⟨rfl,hb3⟩;have HB3:=hid (HB2.out.trans (hb3.mono HB2.out.size));clear hb3
 cases ok with
 | true =>
  go_wp2_with fail;go_ret;exact ⟨rfl,HB3.out⟩
 | false =>
  go_wp2_with fail;go_ret;exact ⟨rfl,HB3.out⟩
theorem tX (h : Jw g w) (hN : g.N ≤ 2048) (hT : g.m.tn ≤ 1000000) (hTS : ∀ a,(aH g.m a).1.size ≤ 8 ∧ (aH g.m a).2.size ≤ 8) (hR : g.R.size ≤ 8) (hsh : ∀ j,(g.sh j).size ≤ 256) {i : Nat} (hi : i < g.N) (hc : opF g.xs i = 0 ∨ opF g.xs i = 7 ∨ opF g.xs i = 9 ∨ opF g.xs i = 10) (hl : opF g.xs i = 9 → iq w (g.xs.getD i dx).la (g.xs.getD i dx).ln (g.xs.getD i dx).lc (g.xs.getD i dx).l ∧ (g.xs.getD i dx).ln ≤ 100000) :
  Calls Tryz.prog 149 #[.pointer (some ⟨g.J,0,none⟩),.int .i64 i] w fun e w' => e = .returned (.bool (pV g.m g.R g.xs g.sh i)) ∧ Below w.heap.size w w':=by
 unfold pV vv
 rcases hc with hc | hc | hc | hc
 ·rw [if_pos hc];exact lw h hN hi hc
 ·rw [if_neg (by omega),if_pos hc]
  exact nA h hN hT hTS hR hsh hi hc
 ·rw [if_neg (by omega),if_neg (by omega),if_pos hc]
  exact lS h hN hT hTS hR hsh hi hc (hl hc).1 (hl hc).2
 ·rw [if_neg (by omega),if_neg (by omega),if_neg (by omega),Bool.true_and]
  exact lU h hN hT hTS hR hsh hi hc
end
end Go.Proofs.YtepnnenohjfkbaaGreatDoor

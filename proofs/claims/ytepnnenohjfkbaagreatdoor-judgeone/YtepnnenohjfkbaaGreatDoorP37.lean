/-
  Texts Ju Jc Jd.
-/
import Derived.Deep.RegionHeld3
import Derived.Test.YtepnnenohjfkbaaGreatDoorP33
import Derived.Test.YtepnnenohjfkbaaGreatDoorP36
set_option linter.unusedVariables false
set_option maxRecDepth 100000
set_option maxHeartbeats 16000000
namespace Go.Proofs.YtepnnenohjfkbaaGreatDoor
open Go.RowKit
theorem yI (s : ByteArray) (K B : Nat) (p : Nat → Bool) (w : World) (hs : s.size ≤ 281474976710656)
  (he : ∀ args w,(callFunc K args).run Tryz.prog w = .ok (.enter K args) w)
  (hp : ∀ (pos i : Nat) (h : i < s.size),isL (dD s i) = true → Calls Tryz.prog K #[.int .i64 i,.int .u8 (s[i]'h).toNat,.pointer (some ⟨B,0,none⟩)] (w.iter s pos) fun e w' => e = .returned (.bool (p i)) ∧ w' = w.iter s pos) :
  Calls Tryz.prog 209 #[.string s,.func (.func K) #[] #[.pointer (some ⟨B,0,none⟩)]] w fun e w' =>
   ∃ b pos,e = .returned (.bool b) ∧ (b = true ↔ ∀ i,i < s.size → isL (dD s i) = true ∧ p i = true) ∧ w' = w.iter s pos:=by
 have HP:=hid hp;clear hp
 go_enter Tryz.func209,Tryz.ntmps209
 go_wp2
 go_loopw [5] (fun _ wr => ∃ k : Nat,k ≤ s.size ∧ wr = w.iter s k ∧ ∀ i,i < k → isL (dD s i) = true ∧ p i = true) (fun _ wr => s.size - wr.iterPos w.heap.size)
 case atStart => exact ⟨0,Nat.zero_le _,rfl,fun i h => by omega⟩
 case round =>
  obtain ⟨k,hk,rfl,hall⟩:=hrel;have HA:=hid hall;clear hall
  by_cases hlt : k < s.size
  ·by_cases hL : isL (dD s k) = true
   ·have hlow : (s[k]'hlt).toNat < 128:=by have:=sT hL; rw [← eL s k hlt] at this; omega
    have hnx : ∀ ty,(Instr.next (.pointer (some ⟨w.heap.size,0,none⟩)) true ty).run Tryz.prog (w.iter s k) = _:=fun ty => run_next_ascii w s k ty hlt hlow
    go_wp2_with fail;refine (eM _ _).mono ?_;rintro e w1 ⟨rfl,rfl⟩;rw [eL s k hlt,hL];go_wp2_with fail;refine (HP.out (k + 1) k hlt hL).mono ?_;rintro e w2 ⟨rfl,rfl⟩
    cases hpk : p k
    ·go_wp2;go_ret
     exact ⟨false,k + 1,rfl,⟨fun h => (nomatch h),fun h => (by rw [(h k hlt).2] at hpk; cases hpk)⟩,rfl⟩
    ·go_wp2
     go_roundw
     case rel =>
      refine ⟨k + 1,by omega,rfl,fun i hi => ?_⟩
      rcases Nat.lt_or_ge i k with h | h
      ·exact HA.out i h
      ·obtain rfl : i = k:=by omega
       exact ⟨hL,hpk⟩
     case measure => simp; omega
   ·have hL' : isL (dD s k) = false:=by simpa using hL
    have hnx : ∀ ty,(Instr.next (.pointer (some ⟨w.heap.size,0,none⟩)) true ty).run Tryz.prog (w.iter s k) = _:=fun ty => run_next_any w s k ty hlt
    generalize (Utf8.decode s k).2 = wd at hnx;generalize (Utf8.decode s k).1 = rv at hnx;go_wp2_with fail;refine (eM _ _).mono ?_;rintro e w1 ⟨rfl,rfl⟩;rw [eL s k hlt,hL'];go_wp2;go_ret
    exact ⟨false,_,rfl,⟨fun h => (nomatch h),fun h => absurd (h k hlt).1 hL⟩,rfl⟩
  ·have hnx : ∀ ty,(Instr.next (.pointer (some ⟨w.heap.size,0,none⟩)) true ty).run Tryz.prog (w.iter s k) = _:=fun ty => run_next_end w s k ty hlt
   go_wp2;go_ret
   exact ⟨true,_,rfl,⟨fun _ i hi => HA.out i (by omega),fun _ => rfl⟩,rfl⟩
theorem qK (s : ByteArray) (most : Nat) (w : World) (hs : s.size ≤ 281474976710656) (hm : most ≤ 1073741824) :
  Calls Tryz.prog 140 #[.string s,.int .i64 most] w fun e w' => e = .returned (.bool (lett s most)) ∧ Below w.heap.size w w':=by
 have hmf : ∀ (fn : Fn) (first cap : Array Value) (w : World),(Instr.makeFunc fn first cap).run Tryz.prog w = .ok (.func fn first cap) w:=fun _ _ _ _ => rfl
 have HE:=hid (yI s 210 w.heap.size (fun i => decide ((i : Int) < most)) (w.alloc (.cells #[.int .i64 most] 3)) hs (fun _ _ => by rfl) (fun pos i h _ => yU i most _ w.heap.size _ (by
  rw [World.iter,World.cell?_alloc_past _ _ _ (by simp),World.cell?_alloc_at _ _ _ _ rfl]; rfl)))
 go_enter Tryz.func140,Tryz.ntmps140
 go_wp2_with fail;refine HE.out.mono ?_;rintro e w1 ⟨b,pos,rfl,hb,rfl⟩;go_wp2;go_ret
 have hbl : b = lett s most:=by
  refine sR (hb.trans ⟨fun h => ⟨fun i hi => (h i hi).1,?_⟩,fun h i hi => ⟨h.1 i hi,by simp; omega⟩⟩)
  rcases Nat.eq_zero_or_pos s.size with h0 | h0
  ·omega
  ·have:=(h (s.size - 1) (by omega)).2
   simp at this
   omega
 subst hbl
 exact ⟨rfl,((Below.refl _ _).alloc (Nat.le_refl _) _).alloc (by simp) _⟩
theorem wj (s : ByteArray) (w : World) (hs : s.size ≤ 281474976710656) :
  Calls Tryz.prog 91 #[.string s] w fun e w' => e = .returned (.bool (lett s 256)) ∧ Below w.heap.size w w':=by
 have HE:=hid (qK s 256 w hs (by omega))
 go_enter Tryz.func91,Tryz.ntmps91
 go_wp2_with fail;refine HE.out.mono ?_;rintro e w1 ⟨rfl,hb⟩;go_wp2;go_ret;exact ⟨rfl,hb⟩
def pF (T : Nat → ByteArray) (n : Nat) : Bool:=(List.range n).all fun j => lett (T j) 256
theorem eH {T : Nat → ByteArray} {n : Nat} : pF T n = true ↔ ∀ j,j < n → lett (T j) 256 = true:=by
 unfold pF;rw [List.all_eq_true]
 exact ⟨fun h j hj => h j (List.mem_range.2 hj),fun h j hj => h j (List.mem_range.1 hj)⟩
def AtT (w : World) (a : Option Addr) (n : Nat) (T : Nat → ByteArray) : Prop:=n = 0 ∨ ∃ b off,a = some ⟨b,off,none⟩ ∧ ∀ j,j < n → w.cell? ⟨b,off + j,none⟩ = some (.string (T j))
theorem AtT.later {w w' : World} {a : Option Addr} {n : Nat} {T : Nat → ByteArray} (h : AtT w a n T) (hb : Below w.heap.size w w') : AtT w' a n T :=
 h.imp id fun ⟨b,off,e,hc⟩ => ⟨b,off,e,fun j hj => ae hb (hc j hj)⟩
theorem AL {w : World} {a : Option Addr} {n cap : Nat} {T : Nat → ByteArray} (h : AtT w a n T) (hn : n ≤ 1099511627776) (hs : ∀ j,j < n → (T j).size ≤ 281474976710656) :
  Calls Tryz.prog 52 #[.slice a n cap] w fun e w' => e = .returned (.bool (pF T n)) ∧ Below w.heap.size w w':=by
 have HA:=hid h;have HS:=hid hs;clear h hs
 go_enter Tryz.func52,Tryz.ntmps52
 go_wp2_with fail
 go_loopw [7] (fun ix wr => ∃ k : Nat,k ≤ n ∧ ix = .int .i64 k ∧ (∀ j,j < k → lett (T j) 256 = true) ∧ Below w.heap.size w wr) (fun ix _ => n - (intOf ix).toNat)
 case atStart => exact ⟨0,Nat.zero_le _,rfl,fun j hj => absurd hj (Nat.not_lt_zero _),Below.refl _ _⟩
 case round =>
  obtain ⟨k,hk,rfl,hall,hbr⟩:=hrel;have HL:=hid hall;have HB:=hid hbr;clear hall hbr
  by_cases hlt : k < n
  ·obtain ⟨b,off,ha,hc⟩:=HA.out.resolve_left (by omega)
   have c0:=ae HB.out (hc k hlt)
   have hk1 : (k : Int) < (n : Int):=by omega
   have H91:=hid (wj (T k) wr (HS.out k hlt));rw [ha];clear hc ha
   cases hl : lett (T k) 256 with
   | true =>
    rw [hl] at H91
    have HK1 : Hid (∀ j,j < k + 1 → lett (T j) 256 = true):=hid fun j hj => by
     rcases Nat.lt_or_ge j k with hx | hx
     ·exact HL.out j hx
     ·obtain rfl : j = k:=by omega
      exact hl
    clear hl;generalize T k = tk at *;go_wp2_with fail;refine H91.out.mono ?_;rintro e w2 ⟨rfl,hb2⟩;have HB2:=hid (HB.out.trans (hb2.mono HB.out.size));clear hb2 c0;go_wp2_with fail
    refine ⟨⟨k + 1,by omega,by go_num,HK1.out,HB2.out⟩,by simp [intOf]; omega⟩
   | false =>
    rw [hl] at H91
    have hv : pF T n = false:=by
     cases hb : pF T n with
     | false => rfl
     | true => have:=eH.1 hb k hlt; rw [hl] at this; cases this
    have HV:=hid hv;clear hv;generalize T k = tk at *;go_wp2_with fail;refine H91.out.mono ?_;rintro e w2 ⟨rfl,hb2⟩;have HB2:=hid (HB.out.trans (hb2.mono HB.out.size));clear hb2 c0;go_wp2_with fail;go_ret
    exact ⟨by rw [HV.out]; rfl,HB2.out⟩
  ·have hk1 : ¬ (k : Int) < (n : Int):=by omega
   have hv : pF T n = true:=eH.2 fun j hj => HL.out j (by omega)
   have HV:=hid hv;clear hv;go_wp2_with fail;go_ret
   exact ⟨by rw [HV.out]; rfl,HB.out⟩
abbrev zR : Array Value:=#[.int .u8 0,.string ⟨#[]⟩,.int .i8 0,.string ⟨#[]⟩,.string ⟨#[]⟩,.bool false]
theorem Tryz.infRowJ : (Tryz.prog.info? 145).map (fun i => (i.zero,i.size,i.bytes)) = some (some (.agg zR),6,72):=by kernel_rfl
theorem Bo {w : World} {T k : Nat} {arr : Array Value} (h : w.heap[T]? = some (.cells arr 145)) (hl : k * 6 + 6 ≤ arr.size) (t0 t1 t2 t3 t4 t5 : Value) :
  ∃ arr',((((((w.setCell ⟨T,k * 6,none⟩ t0).setCell ⟨T,k * 6 + 1,none⟩ t1).setCell ⟨T,k * 6 + 2,none⟩ t2).setCell ⟨T,k * 6 + 3,none⟩ t3).setCell ⟨T,k * 6 + 4,none⟩ t4).setCell ⟨T,k * 6 + 5,none⟩ t5).heap[T]? = some (.cells arr' 145) ∧ arr'.size = arr.size ∧
   (∀ q,q < 6 → arr'[k * 6 + q]? = #[t0,t1,t2,t3,t4,t5][q]?) ∧ (∀ p,p < k * 6 ∨ k * 6 + 6 ≤ p → arr'[p]? = arr[p]?) ∧ Kept (fun b => b = T) w ((((((w.setCell ⟨T,k * 6,none⟩ t0).setCell ⟨T,k * 6 + 1,none⟩ t1).setCell ⟨T,k * 6 + 2,none⟩ t2).setCell ⟨T,k * 6 + 3,none⟩ t3).setCell ⟨T,k * 6 + 4,none⟩ t4).setCell ⟨T,k * 6 + 5,none⟩ t5):=by
 refine ⟨_,aF (aF (aF (aF (aF (aF h))))),by simp,fun q hq => ?_,fun p hp => ?_,((((al w T _ t0).trans (al _ T _ t1)).trans (al _ T _ t2)).trans (al _ T _ t3)).trans ((al _ T _ t4).trans (al _ T _ t5))⟩
 ·have : q = 0 ∨ q = 1 ∨ q = 2 ∨ q = 3 ∨ q = 4 ∨ q = 5:=by omega
  rcases this with rfl | rfl | rfl | rfl | rfl | rfl
  all_goals (simp [Array.getElem?_setIfInBounds]; omega)
 ·simp only [Array.getElem?_setIfInBounds,Array.size_setIfInBounds]
  rw [if_neg (by omega),if_neg (by omega),if_neg (by omega),if_neg (by omega),if_neg (by omega),if_neg (by omega)]
theorem DN {w : World} {cb coff N cc : Nat} {xs : List Inx} (hcd : Cod w cb coff N xs) (hN : N ≤ 2048) (hk : aL w) (hp : 0 < w.heap.size) :
  Calls Tryz.prog 53 #[.slice (some ⟨cb,coff,none⟩) N cc] w fun e w' => ∃ RB,e = .returned (.slice (some ⟨RB,0,none⟩) N N) ∧ w.heap.size ≤ RB ∧ (∀ j,j < N → ∀ q,q < 6 → w'.cell? ⟨RB,j * 6 + q,none⟩ = (rv (ofV (opF xs j)).1)[q]?) ∧ Below w.heap.size w w':=by
 obtain ⟨i0,hi,hz0,hz1,hz2⟩:=info_parts Tryz.infRowJ
 have hb3 : i0.bytes * N ≤ 281474976710656:=by rw [hz2]; omega
 have hml : N ≤ maxLen:=by unfold maxLen; omega
 have HC:=hid hcd
 have HK:=hid (fun (W : World) (hb : Below w.heap.size w W) => hk.later hb hp)
 clear hcd hk
 go_enter Tryz.func53,Tryz.ntmps53
 go_wp2_with (first | (at_make; refine wpList_make_full _ rfl _ _ 93 rfl w.heap.size 145 i0 (.agg zR) 6 Tryz.underlying93 hi hz0 hz1 .i64 .i64 _ _ N rfl rfl (by omega) (by omega) hb3 hml (Nat.le_refl _) ?_; intro w1 hown hgrow; have hbel : Below w.heap.size w w1:=(Below.refl _ _).grown hgrow (Nat.le_refl _) (by simp)))
 obtain ⟨arr0,hTT,hsz0⟩ : ∃ arr,w1.heap[w.heap.size]? = some (.cells arr 145) ∧ arr.size = N * 6:=by
  rcases hown.2 with ⟨e,_⟩ | ⟨g,cap,cur,e,h4,h5,h6,h7,h8,h9⟩
  ·cases e
  ·cases e; exact ⟨cur,h5,h8⟩
 have HT:=hid (And.intro hTT hsz0);have HB1:=hid hbel;clear hown hgrow hi hz0 hz1 hz2 hb3 hml hTT hsz0 hbel
 go_loopw [11] (fun i wr => ∃ k : Nat,k ≤ N ∧ i = .int .i64 k ∧ Kept (fun b => b = w.heap.size) w1 wr ∧ ∃ arr,wr.heap[w.heap.size]? = some (.cells arr 145) ∧ arr.size = N * 6 ∧ ∀ j,j < k → ∀ q,q < 6 → arr[j * 6 + q]? = (rv (ofV (opF xs j)).1)[q]?) (fun i _ => N - (intOf i).toNat)
 case atStart => exact ⟨0,Nat.zero_le _,rfl,Kept.refl _ _,arr0,HT.out.1,HT.out.2,fun j h => absurd h (Nat.not_lt_zero _)⟩
 case round =>
  obtain ⟨k,hkN,rfl,hkept,arr,hTT,hsz,hrow⟩:=hrel
  have hBr : Below w.heap.size w wr:=HB1.out.trans (hkept.to_below (B:=w.heap.size) HB1.out.size (fun k hk h => by have : k = w.heap.size:=h; omega))
  by_cases hlt : k < N
  ·have hcr:=HC.out.later hBr (Nat.le_refl _);have n0:=hcr.op hlt;have n1:=hcr.num hlt;have n2:=hcr.lab hlt;have hrg:=hcr.range hlt
   have hk1 : (k : Int) < (N : Int):=by omega
   have H92:=hid (fun (W : World) (hb : Below w.heap.size w W) => of6 (opF xs k) W (HK.out W hb) hrg.1 hrg.2)
   have HROW:=hid hrow;have HTT:=hid (And.intro hTT hsz);have HKP:=hid hkept;have HBR:=hid hBr;have hwl : w.heap.size < wr.heap.size:=az hTT;have hcl : cb < wr.heap.size:=block_lt_of_cell n0;obtain ⟨r,hr⟩ : ∃ r,r = (ofV (opF xs k)).1:=⟨_,rfl⟩;have HR:=hid hr;rw [← hr] at H92;clear hkept hTT hBr hcr hrow hsz hr;obtain ⟨r0,r1,r2,r3,r4,r5⟩:=r;unfold rv wt at H92;dsimp only at H92;obtain ⟨c,hcc⟩ : ∃ c,c = opF xs k:=⟨_,rfl⟩;have HCC:=hid hcc.symm;rw [← hcc] at H92 HR n0 hrg;clear hcc;generalize (ofV c).2 = ob at *;generalize (xs.getD k dx).a = ia at *;generalize (xs.getD k dx).la = la at *;generalize (xs.getD k dx).ln = ln at *;generalize (xs.getD k dx).lc = lc at *;go_wp2_with fail;have BA:=ag wr (.cells #[.int .u8 c,.int .i64 ia,.slice la ln lc] 51);have hBA:=HBR.out.trans (BA.mono HBR.out.size);have hTA:=aj BA HTT.out.1;have HKA:=hid (HKP.out.trans (aB BA));refine (H92.out _ hBA).mono ?_;generalize wr.alloc (.cells #[.int .u8 c,.int .i64 ia,.slice la ln lc] 51) = WA at *;rintro e w2 ⟨rfl,hb2⟩;have hT2:=aj hb2 hTA;have hsz:=HTT.out.2
   obtain ⟨arr',p1,p2,p3,p4,p5⟩:=Bo (k:=k) hT2 (by omega) (.int .u8 r0) (.string r1) (.int .i8 r2) (.string r3) (.string r4) (.bool r5)
   obtain ⟨v0,k0⟩ : ∃ v,w2.cell? ⟨w.heap.size,k * 6,none⟩ = some v:=⟨_,(ai hT2).trans (Array.getElem?_eq_getElem (by omega))⟩
   obtain ⟨v1,k1⟩ : ∃ v,w2.cell? ⟨w.heap.size,k * 6 + 1,none⟩ = some v:=⟨_,(ai hT2).trans (Array.getElem?_eq_getElem (by omega))⟩
   obtain ⟨v2,k2⟩ : ∃ v,w2.cell? ⟨w.heap.size,k * 6 + 2,none⟩ = some v:=⟨_,(ai hT2).trans (Array.getElem?_eq_getElem (by omega))⟩
   obtain ⟨v3,k3⟩ : ∃ v,w2.cell? ⟨w.heap.size,k * 6 + 3,none⟩ = some v:=⟨_,(ai hT2).trans (Array.getElem?_eq_getElem (by omega))⟩
   obtain ⟨v4,k4⟩ : ∃ v,w2.cell? ⟨w.heap.size,k * 6 + 4,none⟩ = some v:=⟨_,(ai hT2).trans (Array.getElem?_eq_getElem (by omega))⟩
   obtain ⟨v5,k5⟩ : ∃ v,w2.cell? ⟨w.heap.size,k * 6 + 5,none⟩ = some v:=⟨_,(ai hT2).trans (Array.getElem?_eq_getElem (by omega))⟩
   have l0:=free_at (i:=k * 6) hT2;have l1:=free_at (i:=k * 6 + 1) hT2;have l2:=free_at (i:=k * 6 + 2) hT2;have l3:=free_at (i:=k * 6 + 3) hT2;have l4:=free_at (i:=k * 6 + 4) hT2;have l5:=free_at (i:=k * 6 + 5) hT2;have HP:=hid (And.intro p1 (And.intro p2 (And.intro p3 (And.intro p4 ((HKA.out.trans (aB hb2)).trans p5)))));clear p1 p2 p3 p4 p5 hb2 hTA hT2 BA hBA hsz;go_wp2_with fail;obtain ⟨p1,p2,p3,p4,p5⟩:=HP.out
   refine ⟨⟨k + 1,by omega,by go_num,p5,arr',p1,p2.trans HTT.out.2,fun j hj q hq => ?_⟩,by simp [intOf]; omega⟩
   rcases Nat.lt_or_ge j k with hx | hx
   ·rw [p4 _ (.inl (by omega))]
    exact HROW.out j hx q hq
   ·obtain rfl : j = k:=by omega
    rw [p3 q hq,HCC.out,← HR.out];rfl
  ·obtain rfl : k = N:=by omega
   have hk1 : ¬ ((k : Int) < (k : Int)):=by omega
   have HROW:=hid hrow;have HBR:=hid hBr;have HTT:=hid hTT;clear hkept hBr hrow;go_wp2_with fail;go_ret
   exact ⟨w.heap.size,rfl,Nat.le_refl _,fun j hj q hq => by rw [ai HTT.out]; exact HROW.out j hj q hq,HBR.out⟩
def bn (m : MM) (R : ByteArray) (xs : List Inx) (o : Int) : Sg × Bool :=
 if o = -1 then ((⟨#[]⟩,R),true) else if aT m.tn (xs.getD o.toNat dx).a = 0 then (aH m (xs.getD o.toNat dx).a,true) else ((⟨#[]⟩,⟨#[]⟩),false)
abbrev jsS (J cb co : Nat) (tv cv : Value) (a : Int) (w : World) (W : World) : Prop :=
 W.cell? ⟨J,0,none⟩ = some tv ∧ W.cell? ⟨J,10,none⟩ = some cv ∧ W.cell? ⟨cb,co,none⟩ = some (.int .i64 a) ∧ Below w.heap.size w W
theorem jsS.later {J cb co : Nat} {tv cv : Value} {a : Int} {w W W' : World} (h : jsS J cb co tv cv a w W) (hb : Below W.heap.size W W') : jsS J cb co tv cv a w W' :=
 ⟨ae hb h.1,ae hb h.2.1,ae hb h.2.2.1,h.2.2.2.trans (hb.mono h.2.2.2.size)⟩
theorem jsS.put {J cb co : Nat} {tv cv : Value} {a : Int} {w W : World} {j : Nat} {u : Value} (h : jsS J cb co tv cv a w W) (hJ : J < w.heap.size) (hc : cb < w.heap.size) : jsS J cb co tv cv a w (W.setCell ⟨w.heap.size,j,none⟩ u) :=
 ⟨(World.cell?_setCell_other _ _ _ _ (fun e => by have:=congrArg Addr.block e; simp at this; omega)).trans h.1,(World.cell?_setCell_other _ _ _ _ (fun e => by have:=congrArg Addr.block e; simp at this; omega)).trans h.2.1,
  (World.cell?_setCell_other _ _ _ _ (fun e => by have:=congrArg Addr.block e; simp at this; omega)).trans h.2.2.1,aN h.2.2.2 (Nat.le_refl _) h.2.2.2.size⟩
section
variable {g : Jg} {w : World}
theorem pO (h : Jw g w) : Calls Tryz.prog 214 #[.pointer (some ⟨g.J,0,none⟩),.int .i64 (-1)] w fun e w' => e = .returned (.tuple #[.agg #[.string ⟨#[]⟩,.string g.R],.bool true]) ∧ Below w.heap.size w w':=by
 have BN:=ag w (.cells #[.string ⟨#[]⟩,.string ⟨#[]⟩] 62);have r0:=ae BN h.r;clear h BN;generalize g.J = J at *;generalize g.R = R at *
 go_enter Tryz.func214,Tryz.ntmps214
 go_wp2_with fail;refine bodyPost_ret (v:=.tuple #[.agg #[.string ⟨#[]⟩,.string R],.bool true]) ?_ rfl ⟨rfl,ag _ _⟩;rw [results_cell_tmp rfl];go_simp
theorem kP (h : Jw g w) (hN : g.N ≤ 2048) {t : Nat} (ht : t < g.N) {P R' : ByteArray} {ok : Bool}
  (HF : Hid (∀ W,Below w.heap.size w W → Calls Tryz.prog 261 #[.slice g.m.ta g.m.tn g.m.tc,.int .i64 (g.xs.getD t dx).a] W fun e w' => e = .returned (.tuple #[.agg #[.string P,.string R'],.bool ok]) ∧ Below W.heap.size W w')) :
  Calls Tryz.prog 214 #[.pointer (some ⟨g.J,0,none⟩),.int .i64 t] w fun e w' => e = .returned (.tuple #[.agg #[.string P,.string R'],.bool ok]) ∧ Below w.heap.size w w':=by
 have BW:=ag w (.cells #[.string ⟨#[]⟩,.string ⟨#[]⟩] 62);have b0:=heap_alloc_new w (.cells #[.string ⟨#[]⟩,.string ⟨#[]⟩] 62);have hJl : g.J < w.heap.size:=block_lt_of_cell h.m0;have hcl : g.cb < w.heap.size:=block_lt_of_cell (h.cod.op ht);have d0:=ae BW h.m0;have d1:=ae BW h.c;have d2:=ae BW (h.cod.num ht);have y0 : (w.alloc (.cells #[.string ⟨#[]⟩,.string ⟨#[]⟩] 62)).cell? ⟨w.heap.size,0,none⟩ = some (.string ⟨#[]⟩):=ai b0;have y1 : (w.alloc (.cells #[.string ⟨#[]⟩,.string ⟨#[]⟩] 62)).cell? ⟨w.heap.size,1,none⟩ = some (.string ⟨#[]⟩):=ai b0;have z0 : (w.alloc (.cells #[.string ⟨#[]⟩,.string ⟨#[]⟩] 62)).frozen? ⟨w.heap.size,0,none⟩ = false:=free_at b0;have z1 : (w.alloc (.cells #[.string ⟨#[]⟩,.string ⟨#[]⟩] 62)).frozen? ⟨w.heap.size,1,none⟩ = false:=free_at b0;have HB:=hid BW
 have g0 : ((t : Int) == (-1 : Int)) = false:=by simp
 have g1 : (t : Int) < (g.N : Int):=by omega
 clear h b0 BW;generalize g.m.ta = ta at *;generalize g.m.tn = tn at *;generalize g.m.tc = tc at *;generalize (g.xs.getD t dx).a = a at *;generalize g.J = J at *;generalize g.cb = cb at *;generalize g.coff = coff at *;generalize g.cc = cc at *;generalize g.N = N at *
 go_enter Tryz.func214,Tryz.ntmps214
 go_wp2_with fail;generalize w.alloc (.cells #[.string ⟨#[]⟩,.string ⟨#[]⟩] 62) = W0 at *
 go_region_held3 (jsS J cb (coff + t * 3 + 1) (.slice ta tn tc) (.slice (some ⟨cb,coff,none⟩) N cc) a w)
  (first | assumption | exact jsS.put (jsS.put (by assumption) hJl hcl) hJl hcl | exact (jsS.put (jsS.put (by assumption) hJl hcl) hJl hcl).later (below_drewN _ 1) | exact ⟨d0,d1,d2,HB.out.drew⟩)
  (first
   | (go_at_call 261; refine (HF.out _ (And.right (And.right (And.right (by assumption))))).mono ?_; rintro e w' ⟨rfl,hbx⟩; have hS':=jsS.later (by assumption) hbx; have k0:=ae hbx (show World.cell? _ _ = _ from y0); have k1:=ae hbx (show World.cell? _ _ = _ from y1); have j0:=Cb hbx (show World.cell? _ _ = _ from y0) (show World.frozen? _ _ = _ from z0); have j1:=Cb hbx (show World.cell? _ _ = _ from y1) (show World.frozen? _ _ = _ from z1); clear hbx))
 go_wp2_with fail;refine bodyPost_ret (v:=.tuple #[.agg #[.string P,.string R'],.bool ok]) ?_ rfl ⟨rfl,(jsS.put (jsS.put hS' hJl hcl) hJl hcl).2.2.2⟩;rw [results_cell_tmp rfl];go_simp
theorem lg (h : Jw g w) (hN : g.N ≤ 2048) (hT : g.m.tn ≤ 1000000) {o : Int} (ho : o = -1 ∨ ∃ t : Nat,o = t ∧ t < g.N) :
  Calls Tryz.prog 214 #[.pointer (some ⟨g.J,0,none⟩),.int .i64 o] w fun e w' => e = .returned (.tuple #[.agg #[.string (bn g.m g.R g.xs o).1.1,.string (bn g.m g.R g.xs o).1.2],.bool (bn g.m g.R g.xs o).2]) ∧ Below w.heap.size w w':=by
 rcases ho with rfl | ⟨t,rfl,ht⟩
 ·exact pO h
 ·unfold bn
  rw [if_neg (by omega),Int.toNat_natCast]
  rcases cr g.m.tn (g.xs.getD t dx).a with ⟨h1,h2⟩ | ⟨h1,q,hq,hqn⟩
  ·rw [h1,if_neg (by decide)]
   exact kP h hN ht (hid fun W hb => qm h2 (by omega))
  ·rw [h1,if_pos rfl];have hl:=h.pt.1
   obtain ⟨p,hp⟩ : ∃ p,g.m.types[q]? = some p:=⟨_,List.getElem?_eq_getElem (by omega)⟩
   obtain ⟨tb,toff,hta,hat⟩:=h.pt.2.resolve_left (by omega)
   obtain ⟨c0,c1⟩:=hat q p hp
   have e : aH g.m (g.xs.getD t dx).a = p:=by
    unfold aH;rw [hq,Int.toNat_natCast,Cc hp]
   rw [e]
   refine kP h hN ht (hid fun W hb => ?_)
   rw [hta,hq]
   exact nD hqn (by omega) (ae hb c0) (ae hb c1)
theorem ij (h : Jw g w) (x : Int) : Calls Tryz.prog 256 #[.pointer (some ⟨g.J,0,none⟩),.int .i64 x,.bool false] w fun e w' => e = .returned (.tuple #[.agg #[.string ⟨#[]⟩,.string ⟨#[]⟩],.bool false]) ∧ Below w.heap.size w w':=by
 clear h;generalize g.J = J at *
 go_enter Tryz.func256,Tryz.ntmps256
 go_wp2_with fail;refine bodyPost_ret (v:=.tuple #[.agg #[.string ⟨#[]⟩,.string ⟨#[]⟩],.bool false]) ?_ rfl ⟨rfl,ag _ _⟩;rw [results_cell_tmp rfl];go_simp
theorem gK (h : Jw g w) (hT : g.m.tn ≤ 1000000) {q : Nat} {p : Sg} (hp : g.m.types[q]? = some p) : Calls Tryz.prog 256 #[.pointer (some ⟨g.J,0,none⟩),.int .i64 q,.bool true] w fun e w' => e = .returned (.tuple #[.agg #[.string p.1,.string p.2],.bool true]) ∧ Below w.heap.size w w':=by
 have BW:=ag w (.cells #[.string ⟨#[]⟩,.string ⟨#[]⟩] 206);have hl:=h.pt.1;have hql:=au hp
 obtain ⟨tb,toff,hta,hat⟩:=h.pt.2.resolve_left (by omega)
 obtain ⟨c0,c1⟩:=hat q p hp;have d0:=ae BW h.m0;have e0:=ae BW c0;have e1:=ae BW c1;rw [hta] at d0
 have g1 : (q : Int) < (g.m.tn : Int):=by omega
 have HB:=hid (show Below w.heap.size w ((w.alloc (.cells #[.string p.1,.string p.2] 206)).alloc (.cells #[.string p.1,.string p.2] 62)) from (ag _ _).trans ((ag _ _).mono (ag _ _).size));clear h BW hat hta c0 c1 hp hl;generalize g.m.tn = tn at *;generalize g.m.tc = tc at *;generalize g.J = J at *;obtain ⟨P,R⟩:=p;dsimp only at *
 go_enter Tryz.func256,Tryz.ntmps256
 go_wp2_with fail;refine bodyPost_ret (v:=.tuple #[.agg #[.string P,.string R],.bool true]) ?_ rfl ⟨rfl,?_⟩
 ·rw [results_cell_tmp rfl];go_simp
 ·exact HB.out
end
abbrev wdV (c : Int) : ByteArray:=(ofV c).1.2.1
theorem wD : ((List.range 256).all fun k => ((wdV (k : Int)).toList == [108,111,111,112]) == decide (k = 3)) = true:=by kernel_rfl
theorem uS {c : Int} (h0 : 0 ≤ c) (h1 : c ≤ 255) : ((wdV c).toList == [108,111,111,112]) = decide (c = 3):=by
 have h:=List.all_eq_true.1 wD c.toNat (by rw [List.mem_range]; omega)
 rw [show ((c.toNat : Nat) : Int) = c by omega,beq_iff_eq] at h
 rw [h]
 by_cases hc : c = 3
 ·subst hc; rfl
 ·rw [decide_eq_false hc,decide_eq_false (by omega)]
def ltV (m : MM) (R : ByteArray) (xs : List Inx) (i : Nat) (a : Int) : ByteArray × Bool :=
 (if (dP (opF xs) i a).1 ≠ -1 ∧ opF xs (dP (opF xs) i a).1.toNat = 3 then (bn m R xs (dP (opF xs) i a).1).1.1 else (bn m R xs (dP (opF xs) i a).1).1.2,(dP (opF xs) i a).2)
def aY (f : Int → ByteArray × Bool) : Bool → ByteArray → List Int → ByteArray × Bool
 | _,c,[] => (c,true)
 | later,c,z :: l => if (f z).2 = false then (⟨#[]⟩,false) else if later = true ∧ ((f z).1.toList == c.toList) = false then (⟨#[]⟩,false) else aY f true (f z).1 l
theorem Ai {O : Nat → Int} {i : Nat} (a : Int) : (dP O i a).1 = -1 ∨ ∃ t : Nat,(dP O i a).1 = t ∧ t < i:=by
 have key : ∀ k,k ≤ (stk O i).length → (eA O i).getD k 0 = -1 ∨ ∃ t : Nat,(eA O i).getD k 0 = t ∧ t < i:=fun k hk => by
  rcases Nat.lt_or_ge k (stk O i).length with h | h
  ·obtain ⟨t,h1,h2,_⟩:=Dd (O:=O) h;exact .inr ⟨t,h1,h2⟩
  ·have : k = (stk O i).length:=by omega
   subst this;exact .inl (gj O i)
 unfold dP
 split
 ·have h0:=key 0 (Nat.zero_le _);rw [← iI O i 0 (Nat.zero_le _)] at h0;exact h0
 ·split
  ·exact key _ (by omega)
  ·exact .inl rfl
section
variable {g : Jg} {w : World}
theorem CF (h : Jw g w) (hN : g.N ≤ 2048) (hT : g.m.tn ≤ 1000000) {i : Nat} (hi : i < g.N) {la : Option Addr} {ln lc : Nat} {l : List Int} (hl : iq w la ln lc l) (hln : ln ≤ 100000) :
  Calls Tryz.prog 216 #[.pointer (some ⟨g.J,0,none⟩),.int .i64 i,.slice la ln lc] w fun e w' => e = .returned (.tuple #[.string (aY (ltV g.m g.R g.xs i) false ⟨#[]⟩ l).1,.bool (aY (ltV g.m g.R g.xs i) false ⟨#[]⟩ l).2]) ∧ Below w.heap.size w w':=by
 have HJ:=hid h;have HL:=hid hl;have hc:=hl.2.2.2.2;clear h hl
 go_enter Tryz.func216,Tryz.ntmps216
 go_wp2_with fail
 go_loopw [8,18] (fun co ix wr => ∃ (k : Nat) (c : ByteArray),k ≤ ln ∧ ix = .int .i64 k ∧ co = .string c ∧ aY (ltV g.m g.R g.xs i) false ⟨#[]⟩ l = aY (ltV g.m g.R g.xs i) (decide (0 < k)) c (l.drop k) ∧ Below w.heap.size w wr) (fun _ ix _ => ln - (intOf ix).toNat)
 case atStart => exact ⟨0,⟨#[]⟩,Nat.zero_le _,rfl,rfl,rfl,Below.refl _ _⟩
 case round =>
  obtain ⟨k,c,hk,rfl,rfl,hin,hbr⟩:=hrel;have HIN:=hid hin;have HBR:=hid hbr
  by_cases hkl : k < ln
  ·obtain ⟨lb,loff,rfl,hcell⟩:=hc.resolve_left (by omega)
   have v0:=ae hbr (hcell k hkl)
   have hkl2 : (k : Int) < (ln : Int):=by omega
   have hll:=HL.out.1
   have hdr : l.drop k = l.getD k 0 :: l.drop (k + 1):=by
    rw [List.getD_eq_getElem?_getD,List.getElem?_eq_getElem (by omega),List.drop_eq_getElem_cons (by omega)]
    rfl
   have hzr:=HL.out.2.2.2.1 (l.getD k 0) (by rw [List.getD_eq_getElem?_getD,List.getElem?_eq_getElem (by omega)]; exact List.getElem_mem _)
   generalize l.getD k 0 = z at *;have HDR:=hid hdr;have H63:=hid (xc (HJ.out.later hbr) hN hi hzr.1 hzr.2);clear hin hcell hdr hll;go_wp2_with fail;refine H63.out.mono ?_;rintro e w1 ⟨rfl,hw1⟩;have hw1:=hw1.symm;subst hw1;clear H63 v0;have hop:=Ai (O:=opF g.xs) (i:=i) z;have HLT:=hid (show ltV g.m g.R g.xs i z = (if (dP (opF g.xs) i z).1 ≠ -1 ∧ opF g.xs (dP (opF g.xs) i z).1.toNat = 3 then (bn g.m g.R g.xs (dP (opF g.xs) i z).1).1.1 else (bn g.m g.R g.xs (dP (opF g.xs) i z).1).1.2,(dP (opF g.xs) i z).2) from rfl);generalize dP (opF g.xs) i z = lb2 at *;obtain ⟨op,fd⟩:=lb2;dsimp only at hop HLT ⊢
   cases fd with
   | false =>
    have HEND:=hid (show aY (ltV g.m g.R g.xs i) (decide (0 < k)) c (z :: l.drop (k + 1)) = (⟨#[]⟩,false) by rw [aY,HLT.out]; simp)
    clear HLT hop;go_wp2_with fail;go_ret2
    exact ⟨by rw [HIN.out,HDR.out,HEND.out]; rfl,HBR.out⟩
   | true =>
    have H14:=hid (lg (HJ.out.later hbr) hN hT (show op = -1 ∨ ∃ t : Nat,op = t ∧ t < g.N from hop.imp id fun ⟨t,h1,h2⟩ => ⟨t,h1,by omega⟩))
    go_wp2_with fail;refine H14.out.mono ?_;rintro e w2 ⟨rfl,hb2⟩;generalize bn g.m g.R g.xs op = sg at *;obtain ⟨⟨Pa,Re⟩,ok⟩:=sg;dsimp only at HLT ⊢;have B2:=HBR.out.trans (hb2.mono HBR.out.size);have HB3:=hid (B2.trans ((ag w2 (.cells #[.string Pa,.string Re] 62)).mono B2.size));have hJ3:=HJ.out.later HB3.out;have r0:=hJ3.rw;clear H14 hb2 B2 hbr
    rcases hop with rfl | ⟨t,rfl,hti⟩
    ·rw [if_neg (by simp)] at HLT
     clear hJ3 r0;have hfz : ltV g.m g.R g.xs i z = (Re,true):=HLT.out
     by_cases hk0 : 0 < k
     ·have d1 : decide ((0 : Int) < (k : Int)) = true:=by simp; omega
      cases hq : (Re.toList == c.toList) with
      | true =>
       have hq2 : (Re.toList != c.toList) = false:=by rw [bne,hq]; rfl
       have HEND:=hid (show aY (ltV g.m g.R g.xs i) (decide (0 < k)) c (z :: l.drop (k + 1)) = aY (ltV g.m g.R g.xs i) (decide (0 < k + 1)) Re (l.drop (k + 1)) by rw [aY,hfz]; simp [hq])
       clear hfz HLT;go_wp2_with fail
       exact ⟨⟨k + 1,Re,by omega,by go_num,rfl,HIN.out.trans (HDR.out ▸ HEND.out),HB3.out⟩,by simp [intOf]; omega⟩
      | false =>
       have hq2 : (Re.toList != c.toList) = true:=by rw [bne,hq]; rfl
       have HEND:=hid (show aY (ltV g.m g.R g.xs i) (decide (0 < k)) c (z :: l.drop (k + 1)) = (⟨#[]⟩,false) by rw [aY,hfz]; simp [hq,hk0])
       clear hfz HLT;go_wp2_with fail;go_ret2
       exact ⟨by rw [HIN.out,HDR.out,HEND.out]; rfl,HB3.out⟩
     ·have d1 : decide ((0 : Int) < (k : Int)) = false:=by simp; omega
      have HEND:=hid (show aY (ltV g.m g.R g.xs i) (decide (0 < k)) c (z :: l.drop (k + 1)) = aY (ltV g.m g.R g.xs i) (decide (0 < k + 1)) Re (l.drop (k + 1)) by rw [aY,hfz]; simp [hk0])
      clear hfz HLT;go_wp2_with fail
      exact ⟨⟨k + 1,Re,by omega,by go_num,rfl,HIN.out.trans (HDR.out ▸ HEND.out),HB3.out⟩,by simp [intOf]; omega⟩
    ·have g1 : ((t : Int) != (-1 : Int)) = true:=by simp
     have htN : (t : Int) < (g.N : Int):=by omega
     have r1 : (w2.alloc (.cells #[.string Pa,.string Re] 62)).cell? ⟨g.RB,t * 6 + 1,none⟩ = some (.string (wdV (opF g.xs t))):=hJ3.rows t (by omega) 1 (by omega)
     have hcr:=hJ3.cod.range (show t < g.N by omega)
     have hw:=uS hcr.1 hcr.2;rw [Int.toNat_natCast] at HLT;clear hJ3 hcr;generalize wdV (opF g.xs t) = wd at *
     by_cases h3 : opF g.xs t = 3
     ·rw [decide_eq_true h3] at hw
      rw [if_pos ⟨by omega,h3⟩] at HLT
      clear h3;have hfz : ltV g.m g.R g.xs i z = (Pa,true):=HLT.out
      by_cases hk0 : 0 < k
      ·have d1 : decide ((0 : Int) < (k : Int)) = true:=by simp; omega
       cases hq : (Pa.toList == c.toList) with
       | true =>
        have hq2 : (Pa.toList != c.toList) = false:=by rw [bne,hq]; rfl
        have HEND:=hid (show aY (ltV g.m g.R g.xs i) (decide (0 < k)) c (z :: l.drop (k + 1)) = aY (ltV g.m g.R g.xs i) (decide (0 < k + 1)) Pa (l.drop (k + 1)) by rw [aY,hfz]; simp [hq])
        clear hfz HLT;go_wp2_with fail
        exact ⟨⟨k + 1,Pa,by omega,by go_num,rfl,HIN.out.trans (HDR.out ▸ HEND.out),HB3.out⟩,by simp [intOf]; omega⟩
       | false =>
        have hq2 : (Pa.toList != c.toList) = true:=by rw [bne,hq]; rfl
        have HEND:=hid (show aY (ltV g.m g.R g.xs i) (decide (0 < k)) c (z :: l.drop (k + 1)) = (⟨#[]⟩,false) by rw [aY,hfz]; simp [hq,hk0])
        clear hfz HLT;go_wp2_with fail;go_ret2
        exact ⟨by rw [HIN.out,HDR.out,HEND.out]; rfl,HB3.out⟩
      ·have d1 : decide ((0 : Int) < (k : Int)) = false:=by simp; omega
       have HEND:=hid (show aY (ltV g.m g.R g.xs i) (decide (0 < k)) c (z :: l.drop (k + 1)) = aY (ltV g.m g.R g.xs i) (decide (0 < k + 1)) Pa (l.drop (k + 1)) by rw [aY,hfz]; simp [hk0])
       clear hfz HLT;go_wp2_with fail
       exact ⟨⟨k + 1,Pa,by omega,by go_num,rfl,HIN.out.trans (HDR.out ▸ HEND.out),HB3.out⟩,by simp [intOf]; omega⟩
     ·rw [decide_eq_false h3] at hw
      rw [if_neg (by omega)] at HLT
      clear h3;have hfz : ltV g.m g.R g.xs i z = (Re,true):=HLT.out
      by_cases hk0 : 0 < k
      ·have d1 : decide ((0 : Int) < (k : Int)) = true:=by simp; omega
       cases hq : (Re.toList == c.toList) with
       | true =>
        have hq2 : (Re.toList != c.toList) = false:=by rw [bne,hq]; rfl
        have HEND:=hid (show aY (ltV g.m g.R g.xs i) (decide (0 < k)) c (z :: l.drop (k + 1)) = aY (ltV g.m g.R g.xs i) (decide (0 < k + 1)) Re (l.drop (k + 1)) by rw [aY,hfz]; simp [hq])
        clear hfz HLT;go_wp2_with fail
        exact ⟨⟨k + 1,Re,by omega,by go_num,rfl,HIN.out.trans (HDR.out ▸ HEND.out),HB3.out⟩,by simp [intOf]; omega⟩
       | false =>
        have hq2 : (Re.toList != c.toList) = true:=by rw [bne,hq]; rfl
        have HEND:=hid (show aY (ltV g.m g.R g.xs i) (decide (0 < k)) c (z :: l.drop (k + 1)) = (⟨#[]⟩,false) by rw [aY,hfz]; simp [hq,hk0])
        clear hfz HLT;go_wp2_with fail;go_ret2
        exact ⟨by rw [HIN.out,HDR.out,HEND.out]; rfl,HB3.out⟩
      ·have d1 : decide ((0 : Int) < (k : Int)) = false:=by simp; omega
       have HEND:=hid (show aY (ltV g.m g.R g.xs i) (decide (0 < k)) c (z :: l.drop (k + 1)) = aY (ltV g.m g.R g.xs i) (decide (0 < k + 1)) Re (l.drop (k + 1)) by rw [aY,hfz]; simp [hk0])
       clear hfz HLT;go_wp2_with fail
       exact ⟨⟨k + 1,Re,by omega,by go_num,rfl,HIN.out.trans (HDR.out ▸ HEND.out),HB3.out⟩,by simp [intOf]; omega⟩
  ·have hkl2 : ¬ (k : Int) < (ln : Int):=by omega
   have HEND:=hid (show aY (ltV g.m g.R g.xs i) (decide (0 < k)) c (l.drop k) = (c,true) by rw [List.drop_eq_nil_of_le (by have:=HL.out.1; omega)]; rfl)
   clear hin hbr;go_wp2_with fail;go_ret2
   exact ⟨by rw [HIN.out,HEND.out]; rfl,HBR.out⟩
end
end Go.Proofs.YtepnnenohjfkbaaGreatDoor

/-
  Texts TEach Sh Plain ReadA ReadB ReadC Eq Join Uvar.
-/
import Derived.BigQuiet
import Derived.Deep.QuietTactic
import Derived.KernelRfl
import Derived.Laws.BitsAllLaws
import Derived.RowKit
import Derived.Test.YtepnnenohjfkbaaGreatDoorProg
import Derived.WalkKit
import Derived.WalkLawsBesides
import Derived.WalkSpells
import Derived.Test.YtepnnenohjfkbaaGreatDoorR00
set_option linter.unusedVariables false
set_option maxRecDepth 100000
set_option maxHeartbeats 16000000
namespace Go.Proofs.YtepnnenohjfkbaaGreatDoor
open Go.RowKit
def byteI (s : ByteArray) (i : Nat) : Int:=((s.data.toList[i]?.getD 0).toNat : Int)
theorem byteI_at (s : ByteArray) (i : Nat) (h : i < s.size) : ((s[i]'h).toNat : Int) = byteI s i:=by
 have h' : i < s.data.toList.length:=by simpa using h
 rw [byteI,List.getElem?_eq_getElem h',Option.getD_some,Array.getElem_toList]; rfl
theorem each20 (s : ByteArray) (K B : Nat) (p : Nat → Bool) (w : World) (hs : s.size ≤ 1073741824)
  (he : ∀ args w,(callFunc K args).run Tryz.prog w = .ok (.enter K args) w)
  (hp : ∀ (pos i : Nat) (h : i < s.size),isL (byteI s i) = true → Calls Tryz.prog K #[.int .i64 i,.int .u8 (s[i]'h).toNat,.pointer (some ⟨B,0,none⟩)] (w.iter s pos) fun e w' => e = .returned (.bool (p i)) ∧ w' = w.iter s pos) :
  Calls Tryz.prog 209 #[.string s,.func (.func K) #[] #[.pointer (some ⟨B,0,none⟩)]] w fun e w' =>
   ∃ b pos,e = .returned (.bool b) ∧ (b = true ↔ ∀ i,i < s.size → isL (byteI s i) = true ∧ p i = true) ∧ w' = w.iter s pos:=by
 have HP:=hid hp
 clear hp
 go_enter Tryz.func209,Tryz.ntmps209
 go_wp2
 go_loopw [5] (fun _ wr => ∃ k : Nat,k ≤ s.size ∧ wr = w.iter s k ∧ ∀ i,i < k → isL (byteI s i) = true ∧ p i = true) (fun _ wr => s.size - wr.iterPos w.heap.size)
 case atStart => exact ⟨0,Nat.zero_le _,rfl,fun i h => by omega⟩
 case round =>
  obtain ⟨k,hk,rfl,hall⟩:=hrel
  have HA:=hid hall
  clear hall
  by_cases hlt : k < s.size
  ·by_cases hL : isL (byteI s k) = true
   ·have hlow : (s[k]'hlt).toNat < 128:=by have:=isL_low hL; rw [← byteI_at s k hlt] at this; omega
    have hnx : ∀ ty,(Instr.next (.pointer (some ⟨w.heap.size,0,none⟩)) true ty).run Tryz.prog (w.iter s k) = _:=fun ty => run_next_ascii w s k ty hlt hlow
    go_wp2_with fail
    refine (letter25 _ _).mono ?_
    rintro e w1 ⟨rfl,rfl⟩
    rw [byteI_at s k hlt,hL]
    go_wp2_with fail
    refine (HP.out (k + 1) k hlt hL).mono ?_
    rintro e w2 ⟨rfl,rfl⟩
    cases hpk : p k
    ·go_wp2
     go_ret
     exact ⟨false,k + 1,rfl,⟨fun h => (nomatch h),fun h => (by rw [(h k hlt).2] at hpk; cases hpk)⟩,rfl⟩
    ·go_wp2
     go_roundw
     case rel =>
      refine ⟨k + 1,by omega,rfl,fun i hi => ?_⟩
      rcases Nat.lt_or_ge i k with h | h
      ·exact HA.out i h
      ·obtain rfl : i = k:=by omega
       exact ⟨hL,hpk⟩
     case measure => simp; omega
   ·have hL' : isL (byteI s k) = false:=by simpa using hL
    have hnx : ∀ ty,(Instr.next (.pointer (some ⟨w.heap.size,0,none⟩)) true ty).run Tryz.prog (w.iter s k) = _:=fun ty => run_next_any w s k ty hlt
    generalize (Utf8.decode s k).2 = wd at hnx
    generalize (Utf8.decode s k).1 = rv at hnx
    go_wp2_with fail
    refine (letter25 _ _).mono ?_
    rintro e w1 ⟨rfl,rfl⟩
    rw [byteI_at s k hlt,hL']
    go_wp2
    go_ret
    exact ⟨false,_,rfl,⟨fun h => (nomatch h),fun h => absurd (h k hlt).1 hL⟩,rfl⟩
  ·have hnx : ∀ ty,(Instr.next (.pointer (some ⟨w.heap.size,0,none⟩)) true ty).run Tryz.prog (w.iter s k) = _:=fun ty => run_next_end w s k ty hlt
   go_wp2
   go_ret
   exact ⟨true,_,rfl,⟨fun _ i hi => HA.out i (by omega),fun _ => rfl⟩,rfl⟩
def lett (s : ByteArray) (most : Nat) : Bool:=(List.range s.size).all (fun i => isL (byteI s i)) && decide (s.size ≤ most)
theorem lett_iff (s : ByteArray) (most : Nat) : lett s most = true ↔ (∀ i,i < s.size → isL (byteI s i) = true) ∧ s.size ≤ most:=by
 simp [lett]
theorem lett_of {s : ByteArray} {most : Nat} {b : Bool} (h : b = true ↔ (∀ i,i < s.size → isL (byteI s i) = true) ∧ s.size ≤ most) : b = lett s most :=
 Bool.eq_iff_iff.2 (h.trans (lett_iff s most).symm)
theorem letters22 (s : ByteArray) (most : Nat) (w : World) (hs : s.size ≤ 1073741824) (hm : most ≤ 1073741824) :
  Calls Tryz.prog 140 #[.string s,.int .i64 most] w fun e w' => e = .returned (.bool (lett s most)) ∧ Below w.heap.size w w':=by
 have hmf : ∀ (fn : Fn) (first cap : Array Value) (w : World),(Instr.makeFunc fn first cap).run Tryz.prog w = .ok (.func fn first cap) w:=fun _ _ _ _ => rfl
 have HE:=hid (each20 s 210 w.heap.size (fun i => decide ((i : Int) < most)) (w.alloc (.cells #[.int .i64 most] 3)) hs (fun _ _ => by rfl) (fun pos i h _ => ask26 i most _ w.heap.size _ (by
  rw [World.iter,World.cell?_alloc_past _ _ _ (by simp),World.cell?_alloc_at _ _ _ _ rfl]; rfl)))
 go_enter Tryz.func140,Tryz.ntmps140
 go_wp2_with fail
 refine HE.out.mono ?_
 rintro e w1 ⟨b,pos,rfl,hb,rfl⟩
 go_wp2
 go_ret
 have hbl : b = lett s most:=by
  refine lett_of (hb.trans ⟨fun h => ⟨fun i hi => (h i hi).1,?_⟩,fun h i hi => ⟨h.1 i hi,by simp; omega⟩⟩)
  rcases Nat.eq_zero_or_pos s.size with h0 | h0
  ·omega
  ·have:=(h (s.size - 1) (by omega)).2
   simp at this
   omega
 subst hbl
 exact ⟨rfl,((Below.refl _ _).alloc (Nat.le_refl _) _).alloc (by simp) _⟩
theorem shape11 (s : ByteArray) (w : World) (hs : s.size ≤ 1073741824) :
  Calls Tryz.prog 91 #[.string s] w fun e w' => e = .returned (.bool (lett s 256)) ∧ Below w.heap.size w w':=by
 have HE:=hid (letters22 s 256 w hs (by omega))
 go_enter Tryz.func91,Tryz.ntmps91
 go_wp2_with fail
 refine HE.out.mono ?_
 rintro e w1 ⟨rfl,hb⟩
 go_wp2
 go_ret
 exact ⟨rfl,hb⟩
def ends (s t : ByteArray) : Bool:=decide (t.size ≤ s.size) && ((s.extract (s.size - t.size) s.size).toList == t.toList)
def below (s t : ByteArray) : ByteArray:=s.extract 0 (s.size - t.size)
theorem sub_wrap {a b : Nat} (h : b ≤ a) (ha : a ≤ 9223372036854775807) : ((a : Int) - (b : Int) + 9223372036854775808) % 18446744073709551616 - 9223372036854775808 = ((a - b : Nat) : Int):=by omega
theorem has283 (s p : ByteArray) (w : World) (hs : s.size ≤ 9223372036854775807) :
  Calls Tryz.prog 283 #[.string s,.string p] w fun e w' => e = .returned (.bool (ends s p)) ∧ w' = w:=by
 have hlo : p.size ≤ s.size → ((s.size : Int) - (p.size : Int) + 9223372036854775808) % 18446744073709551616 - 9223372036854775808 = ((s.size - p.size : Nat) : Int):=fun _ => by omega
 go_enter Tryz.func283,Tryz.ntmps283
 go_wp2
 ·have h : p.size ≤ s.size:=by assumption
  go_ret
  refine ⟨?_,rfl⟩
  show Ending.returned (Value.bool ((s.extract (s.size - p.size) s.size).toList == p.toList)) = _
  simp [h,ends]
 ·have h : ¬ p.size ≤ s.size:=by assumption
  go_ret
  refine ⟨?_,rfl⟩
  show Ending.returned (Value.bool false) = _
  simp [h,ends]
theorem has272 (s p : ByteArray) (w : World) (hs : s.size ≤ 9223372036854775807) :
  Calls Tryz.prog 272 #[.string s,.string p] w fun e w' => e = .returned (.bool (ends s p)) ∧ w' = w:=by
 have HE:=hid (has283 s p w hs)
 go_enter Tryz.func272,Tryz.ntmps272
 go_wp2_with fail
 refine HE.out.mono ?_
 rintro e w1 ⟨rfl,rfl⟩
 go_wp2
 go_ret
 exact ⟨rfl,rfl⟩
theorem shapes271 (s t : ByteArray) (B : Nat) (w : World) (hs : s.size ≤ 1073741824) (ht : t.size ≤ 1073741824)
  (h0 : w.cell? ⟨B,0,none⟩ = some (.string s)) (h1 : w.cell? ⟨B,1,none⟩ = some (.string t)) :
  Calls Tryz.prog 271 #[.slice (some ⟨B,0,none⟩) 2 2] w fun e w' => e = .returned (.bool (lett s 256 && lett t 256)) ∧ Below w.heap.size w w':=by
 have hB : B < w.heap.size:=World.block_lt_of_cell? _ _ h0
 have H0:=hid h0
 have H1:=hid h1
 clear h0 h1
 go_enter Tryz.func271,Tryz.ntmps271
 go_wp2
 go_loopw [7] (fun i wr => ∃ k : Nat,k ≤ 2 ∧ i = .int .i64 k ∧ (0 < k → lett s 256 = true) ∧ (1 < k → lett t 256 = true) ∧ Below w.heap.size w wr) (fun i _ => 2 - (intOf i).toNat)
 case atStart => exact ⟨0,by omega,rfl,fun h => by omega,fun h => by omega,Below.refl _ _⟩
 case round =>
  obtain ⟨k,hk,rfl,ha,hb,hw⟩:=hrel
  have HA:=hid ha
  have HB:=hid hb
  clear ha hb
  obtain rfl | rfl | rfl : k = 0 ∨ k = 1 ∨ k = 2:=by omega
  ·have hc : wr.cell? ⟨B,0,none⟩ = some (.string s):=by rw [hw.cell hB]; exact H0.out
   have HE:=hid (shape11 s wr hs)
   go_wp2_with fail
   refine HE.out.mono ?_
   rintro e w1 ⟨rfl,h1⟩
   cases hl : lett s 256
   ·go_wp2
    go_ret
    exact ⟨by simp [hl],hw.trans (h1.mono hw.size)⟩
   ·go_wp2
    go_roundw
    case rel => exact ⟨1,by omega,by simp,fun _ => hl,fun h => by omega,hw.trans (h1.mono hw.size)⟩
    case measure => simp [intOf]
  ·have hc : wr.cell? ⟨B,1,none⟩ = some (.string t):=by rw [hw.cell hB]; exact H1.out
   have HE:=hid (shape11 t wr ht)
   go_wp2_with fail
   refine HE.out.mono ?_
   rintro e w1 ⟨rfl,h1⟩
   cases hl : lett t 256
   ·go_wp2
    go_ret
    exact ⟨by simp [hl],hw.trans (h1.mono hw.size)⟩
   ·go_wp2
    go_roundw
    case rel => exact ⟨2,by omega,by simp,fun _ => HA.out (by omega),fun h => hl,hw.trans (h1.mono hw.size)⟩
    case measure => simp [intOf]
  ·go_wp2
   go_ret
   exact ⟨by rw [HA.out (by omega),HB.out (by omega)]; rfl,hw⟩
theorem shapes (s t : ByteArray) (w : World) (hs : s.size ≤ 1073741824) (ht : t.size ≤ 1073741824) :
  Calls Tryz.prog 271 #[.slice (some ⟨w.heap.size,0,none⟩) 2 2] (w.alloc (.cells #[.string s,.string t] 9)) fun e w' => e = .returned (.bool (lett s 256 && lett t 256)) ∧ Below w.heap.size w w':=by
 have hc:=cell_two_new w (.string s) (.string t) 9
 have hadd : ∀ j : Nat,(⟨w.heap.size,0,none⟩ : Addr).add j = ⟨w.heap.size,j,none⟩:=fun j => by unfold Addr.add; split <;> simp_all
 have h0:=hc 0 _ rfl
 have h1:=hc 1 _ rfl
 rw [hadd] at h0 h1
 refine (shapes271 s t w.heap.size _ hs ht h0 h1).mono ?_
 rintro e w' ⟨rfl,h⟩
 exact ⟨rfl,((Below.refl _ _).alloc (Nat.le_refl _) _).trans (h.mono (by simp))⟩
def shp (s t : ByteArray) : Bool:=lett s 256 && lett t 256
def topB (s t : ByteArray) : Bool:=shp s t && ends s t
def pushE (s t : ByteArray) : Int:=if shp s t = true then if 256 < s.size + t.size then 34 else 0 else 15
def pushV (s t : ByteArray) : ByteArray:=if pushE s t = 0 then s ++ t else ⟨#[]⟩
theorem ends_le {s t : ByteArray} (h : ends s t = true) : t.size ≤ s.size:=by
 simp only [ends,Bool.and_eq_true,decide_eq_true_eq] at h; exact h.1
theorem top234 (s t : ByteArray) (w : World) (hs : s.size ≤ 1073741824) (ht : t.size ≤ 1073741824) :
  Calls Tryz.prog 234 #[.string s,.string t] w fun e w' => e = .returned (.bool (topB s t)) ∧ Below w.heap.size w w':=by
 have H1:=hid (shapes s t w hs ht)
 cases hh : shp s t
 ·unfold shp at hh
  rw [hh] at H1
  go_enter Tryz.func234,Tryz.ntmps234
  go_wp2_with fail
  refine H1.out.mono ?_
  rintro e w1 ⟨rfl,hb⟩
  go_wp2
  go_ret
  exact ⟨by simp [topB,shp,hh],hb⟩
 ·unfold shp at hh
  rw [hh] at H1
  go_enter Tryz.func234,Tryz.ntmps234
  go_wp2_with fail
  refine H1.out.mono ?_
  rintro e w1 ⟨rfl,hb⟩
  have H2:=hid (has272 s t w1 (by omega))
  go_wp2_with fail
  refine H2.out.mono ?_
  rintro e w2 ⟨rfl,rfl⟩
  go_wp2
  go_ret
  exact ⟨by simp [topB,shp,hh],hb⟩
theorem push242 (s t : ByteArray) (w : World) (hs : s.size ≤ 1073741824) (ht : t.size ≤ 1073741824) :
  Calls Tryz.prog 242 #[.string s,.string t] w fun e w' => e = .returned (.tuple #[.string (pushV s t),.int .i64 (pushE s t)]) ∧ Below w.heap.size w w':=by
 have H1:=hid (shapes s t w hs ht)
 cases hh : shp s t
 ·have hE : pushE s t = 15:=by simp [pushE,hh]
  have hV : pushV s t = ⟨#[]⟩:=by simp [pushV,hE]
  rw [hE,hV]
  unfold shp at hh
  rw [hh] at H1
  go_enter Tryz.func242,Tryz.ntmps242
  go_wp2_with fail
  refine H1.out.mono ?_
  rintro e w1 ⟨rfl,hb⟩
  go_wp2
  go_ret2
  exact ⟨rfl,hb⟩
 ·by_cases hbig : 256 < s.size + t.size
  ·have hE : pushE s t = 34:=by simp [pushE,hh,hbig]
   have hV : pushV s t = ⟨#[]⟩:=by simp [pushV,hE]
   have hbig' : (256 : Int) < (s.size : Int) + (t.size : Int):=by omega
   rw [hE,hV]
   unfold shp at hh
   rw [hh] at H1
   go_enter Tryz.func242,Tryz.ntmps242
   go_wp2_with fail
   refine H1.out.mono ?_
   rintro e w1 ⟨rfl,hb⟩
   go_wp2
   go_ret2
   exact ⟨rfl,hb⟩
  ·have hE : pushE s t = 0:=by simp [pushE,hh,hbig]
   have hV : pushV s t = s ++ t:=by simp [pushV,hE]
   have hbig' : ¬ (256 : Int) < (s.size : Int) + (t.size : Int):=by omega
   rw [hE,hV]
   unfold shp at hh
   rw [hh] at H1
   go_enter Tryz.func242,Tryz.ntmps242
   go_wp2_with fail
   refine H1.out.mono ?_
   rintro e w1 ⟨rfl,hb⟩
   go_wp2
   go_ret2
   exact ⟨rfl,hb⟩
theorem pow_pos (k : Nat) : (0 : Int) < 128 ^ k:=Int.pow_pos (by decide)
def uf (u : Int) : Int:=if u % 2 = 1 then -(u / 2) - 1 else u / 2
def uv : Nat → Int → List Int
 | 0,v => [v]
 | f + 1,v => if v < 128 then [v] else (v % 128 + 128) :: uv f (v / 128)
def uvar (v : Int) : List Int:=uv 9 v
theorem uv_len (f : Nat) : ∀ v,1 ≤ (uv f v).length ∧ (uv f v).length ≤ f + 1:=by
 induction f with
 | zero => intro v; simp [uv]
 | succ f ih =>
  intro v
  by_cases h : v < 128
  ·simp [uv,h]
  ·have:=ih (v / 128)
   simp only [uv,h,if_false,List.length_cons]; omega
theorem room_up (V : Int) (k : Nat) (h : V * 128 ^ k < 18446744073709551616) (h0 : 0 ≤ V) : V / 128 * 128 ^ (k + 1) < 18446744073709551616:=by
 have hs : (128 : Int) ^ (k + 1) = 128 * 128 ^ k:=by rw [Int.pow_succ,Int.mul_comm]
 rw [hs,← Int.mul_assoc]
 have h2 : V / 128 * 128 ≤ V:=by omega
 have:=Int.mul_le_mul_of_nonneg_right h2 (Int.le_of_lt (pow_pos k))
 omega
theorem room_end (V : Int) (k : Nat) (h : V * 128 ^ k < 18446744073709551616) (hk : k ≤ 9) (h128 : 128 ≤ V) : k ≤ 8:=by
 by_cases e : k = 9
 ·subst e
  have e9 : (128 : Int) ^ 9 = 9223372036854775808:=by decide
  rw [e9] at h
  omega
 ·omega
def fo (n : Int) : Int:=if n < 0 then -2 * n - 1 else 2 * n
theorem fo_range (n : Int) (h0 : -9223372036854775808 ≤ n) (h1 : n < 9223372036854775808) : 0 ≤ fo n ∧ fo n < 18446744073709551616:=by
 unfold fo; split <;> omega
theorem uvar_len (v : Int) : 1 ≤ (uvar v).length ∧ (uvar v).length ≤ 10:=uv_len 9 v
def Seg (w : World) (a : Option Addr) (n cap : Nat) (zs : List Int) : Prop :=
 zs.length = n ∧ n ≤ cap ∧ n ≤ 1099511627776 ∧ (∀ z ∈ zs,0 ≤ z ∧ z ≤ 255) ∧
 (n = 0 ∨ ∃ b off,a = some ⟨b,off,none⟩ ∧ ∀ j,j < n → w.cell? ⟨b,off + j,none⟩ = some (.int .u8 (zs.getD j 0)))
theorem wrap_in (x : Int) (h0 : 0 ≤ x) (h1 : x < 18446744073709551616) : IntKind.u64.wrap x = x:=by
 rw [IntKind.wrap_u64]; exact Int.emod_eq_of_lt h0 h1
theorem i64_in (x : Int) (h0 : -9223372036854775808 ≤ x) (h1 : x < 9223372036854775808) : IntKind.i64.wrap x = x:=by
 simp [IntKind.wrap,IntKind.bits,IntKind.signed]; omega
theorem Tryz.info5 : (Tryz.prog.info? 5).map (fun i => (i.zero,i.size,i.bytes)) = some (some (.int .u8 0),1,1):=by kernel_rfl
def cat (Z : Nat → List Int) : Nat → List Int
 | 0 => []
 | k + 1 => cat Z k ++ Z k
theorem cat_mono (Z : Nat → List Int) (k m : Nat) (h : k ≤ m) : (cat Z k).length ≤ (cat Z m).length:=by
 induction m with
 | zero =>
  obtain rfl : k = 0:=by omega
  omega
 | succ m ih =>
  by_cases e : k = m + 1
  ·subst e; omega
  ·have:=ih (by omega); simp only [cat,List.length_append]; omega
theorem ints_one (l : List Int) : ∀ u ∈ l.map (Value.int .u8),u.oneCell' = true:=by
 intro u hu
 obtain ⟨z,_,rfl⟩:=List.mem_map.1 hu
 rfl
theorem seg_cells {w : World} {a : Option Addr} {n cap : Nat} {zs : List Int} (h : Seg w a n cap zs) :
  ∀ ad,a = some ad → ∀ (j : Nat) (u : Value),(zs.map (Value.int .u8))[j]? = some u → w.cell? (ad.add j) = some u:=by
 intro ad had j u hu
 obtain ⟨hz,_,_,_,ha⟩:=h
 have hj : j < zs.length:=by
  rcases Nat.lt_or_ge j zs.length with h | h
  ·exact h
  ·simp [List.getElem?_eq_none (show (zs.map (Value.int .u8)).length ≤ j by simpa using h)] at hu
 rcases ha with ha | ⟨b,off,e,hc⟩
 ·omega
 ·rw [had] at e
  simp at e
  subst e
  have:=hc j (by omega)
  have hplain : (⟨b,off,none⟩ : Addr).add j = ⟨b,off + j,none⟩:=by unfold Addr.add; split <;> simp_all
  rw [hplain,this]
  simp [List.getElem?_eq_getElem hj] at hu
  subst hu
  simp [List.getD,List.getElem?_eq_getElem hj]
theorem Seg.later {w w' : World} {a : Option Addr} {n cap : Nat} {zs : List Int} {B : Nat} (h : Seg w a n cap zs) (hb : Below B w w') (hB : w.heap.size ≤ B) : Seg w' a n cap zs:=by
 obtain ⟨hz,h1,h2,h3,ha⟩:=h
 refine ⟨hz,h1,h2,h3,?_⟩
 rcases ha with ha | ⟨b,off,e,hc⟩
 ·exact .inl ha
 ·refine .inr ⟨b,off,e,fun j hj => ?_⟩
  have:=hc j hj
  have hlt : b < w.heap.size:=block_lt_of_cell this
  exact (hb.cell (p:=⟨b,off + j,none⟩) (by exact Nat.lt_of_lt_of_le hlt hB)).trans this
theorem join24_in (P m cp : Nat) (A : Nat → Option Addr) (L C : Nat → Nat) (Z : Nat → List Int) (w : World) (hm : m ≤ 1000)
  (hp : ∀ j,j < m → w.cell? ⟨P,j,none⟩ = some (.slice (A j) (L j) (C j)))
  (hs : ∀ j,j < m → Seg w (A j) (L j) (C j) (Z j) ∧ (A j = none → C j = 0)) (hN : (cat Z m).length ≤ 1099511627776) (hPw : P < w.heap.size) :
  Calls Tryz.prog 322 #[.slice (some ⟨P,0,none⟩) m cp] w fun e w' => e = .returned (.slice (some ⟨w.heap.size,0,none⟩) (cat Z m).length (cat Z m).length) ∧
   w'.ownsRow w.heap.size 5 1 (.slice (some ⟨w.heap.size,0,none⟩) (cat Z m).length (cat Z m).length) (cat Z m).length ((cat Z m).map (Value.int .u8)) ∧ Below w.heap.size w w':=by
 obtain ⟨i0,hi,hz0,hz1,hz2⟩:=info_parts Tryz.info5
 have hb2 : i0.bytes * (cat Z m).length ≤ 281474976710656:=by rw [hz2]; omega
 have hml : (cat Z m).length ≤ maxLen:=by unfold maxLen; omega
 go_enter Tryz.func322,Tryz.ntmps322
 go_wp2
 go_loop [3,11] (fun s i => ∃ k : Nat,k ≤ m ∧ i = .int .i64 k ∧ s = .int .i64 (cat Z k).length) (fun _ i => m - (intOf i).toNat)
 case atStart => exact ⟨0,by omega,rfl,rfl⟩
 case round =>
  obtain ⟨k,hk,rfl,rfl⟩:=hrel
  by_cases hlt : k < m
  ·have hcell:=hp k hlt
   have hlen:=(hs k hlt).1.1
   have hmo:=cat_mono Z (k + 1) m (by omega)
   have HC:=hid (show (cat Z (k + 1)).length = (cat Z k).length + L k by simp [cat,hlen])
   have hle : (cat Z k).length + L k ≤ 1099511627776:=by have:=HC.out; omega
   clear hp hs hlen hmo hb2 hml hi hz0 hz1 hz2 hN
   go_wp2
   go_round
   case rel => exact ⟨k + 1,by omega,by go_num,by rw [HC.out]; go_num⟩
   case measure => simp [intOf]; omega
  ·obtain rfl : k = m:=by omega
   go_wp2_with (first | (at_make; refine wpList_make_own _ rfl _ _ 64 rfl w.heap.size 5 i0 (.int .u8 0) 1 Tryz.underlying64 hi hz0 hz1 .i64 .i64 _ (cat Z k).length rfl rfl rfl hb2 hml (Nat.le_refl _) ?_; intro w1 hown hgrow))
   have hbel : Below w.heap.size w w1:=(Below.refl _ _).grown hgrow (Nat.le_refl _) (by simp)
   clear hgrow
   go_loopw [6,24] (fun v i wr => ∃ j : Nat,j ≤ k ∧ i = .int .i64 j ∧ v = .slice (some ⟨w.heap.size,0,none⟩) (cat Z j).length (cat Z k).length ∧
    wr.ownsRow w.heap.size 5 1 (.slice (some ⟨w.heap.size,0,none⟩) (cat Z j).length (cat Z k).length) (cat Z j).length ((cat Z j).map (Value.int .u8)) ∧ Below w.heap.size w wr) (fun _ i _ => k - (intOf i).toNat)
   case atStart => exact ⟨0,by omega,rfl,rfl,hown,hbel⟩
   case round =>
    obtain ⟨j,hj,rfl,rfl,hownr,hb⟩:=hrel
    clear hown hbel
    by_cases hjk : j < k
    ·have hcell : wr.cell? ⟨P,j,none⟩ = some (.slice (A j) (L j) (C j)):=(hb.cell (p:=⟨P,j,none⟩) hPw).trans (hp j hjk)
     obtain ⟨hseg,hnone⟩:=hs j hjk
     have hsl:=hseg.later hb (Nat.le_refl _)
     have hnn : A j = none → L j = 0 ∧ C j = 0:=fun h => ⟨by have:=hnone h; have:=hseg.2.1; omega,hnone h⟩
     have hcl:=seg_cells hsl
     have hlen : ((Z j).map (Value.int .u8)).length = L j * 1:=by simp [hseg.1]
     have hmo:=cat_mono Z (j + 1) k (by omega)
     have HC:=hid (show (cat Z (j + 1)).length = (cat Z j).length + L j by simp [cat,hseg.1])
     have hroom : (cat Z j).length + L j ≤ (cat Z k).length:=by have:=HC.out; omega
     have HB:=hid hb
     have HO:=hid hownr
     have HL:=hid hcl
     have HN:=hid hnn
     clear hp hs hb hownr hseg hnone hsl hcl hnn hmo
     go_wp2_with (first | (at_builtin; refine wpList_append_fits_any _ rfl _ _ 64 rfl w.heap.size 5 i0 1 Tryz.underlying64 hi hz1 w.heap.size (cat Z j).length (cat Z k).length _ rfl HO.out (A j) (L j) (C j) ((Z j).map (Value.int .u8)) rfl hlen HN.out HL.out (ints_one _) hroom ?_; intro w2 hown2 hgrow2))
     have hb2' : Below w.heap.size w w2:=HB.out.grown hgrow2 (HB.out.size) (by simp)
     have ho2 : w2.ownsRow w.heap.size 5 1 (.slice (some ⟨w.heap.size,0,none⟩) (cat Z (j + 1)).length (cat Z k).length) (cat Z (j + 1)).length ((cat Z (j + 1)).map (Value.int .u8)):=by
      rw [HC.out]; simp only [cat,List.map_append]; exact hown2
     exact ⟨⟨j + 1,by omega,by go_num,by rw [HC.out],ho2,hb2'⟩,by simp [intOf]; omega⟩
    ·obtain rfl : j = k:=by omega
     clear hp hs
     go_wp2
     go_ret
     exact ⟨rfl,hownr,hb⟩
theorem seg_own {w : World} {B n cap : Nat} {zs : List Int} {base : Nat} (h : w.ownsRow base 5 1 (.slice (some ⟨B,0,none⟩) n cap) n (zs.map (Value.int .u8))) (hl : zs.length = n) (hn : n ≤ 1099511627776) (hr : ∀ z ∈ zs,0 ≤ z ∧ z ≤ 255) (hcap : n ≤ cap) :
  Seg w (some ⟨B,0,none⟩) n cap zs:=by
 refine ⟨hl,hcap,hn,hr,.inr ⟨B,0,rfl,fun j hj => ?_⟩⟩
 rw [Nat.zero_add,h.cellAt j (by omega)]
 have hj' : j < zs.length:=by omega
 simp [hj']
theorem cat_range (Z : Nat → List Int) (m : Nat) (h : ∀ j,j < m → ∀ z ∈ Z j,0 ≤ z ∧ z ≤ 255) : ∀ z ∈ cat Z m,0 ≤ z ∧ z ≤ 255:=by
 induction m with
 | zero => intro z hz; simp [cat] at hz
 | succ m ih =>
  intro z hz
  simp only [cat,List.mem_append] at hz
  rcases hz with hz | hz
  ·exact ih (fun j hj => h j (by omega)) z hz
  ·exact h m (by omega) z hz
theorem join24 (P m cp : Nat) (A : Nat → Option Addr) (L C : Nat → Nat) (Z : Nat → List Int) (w : World) (hm : m ≤ 1000)
  (hp : ∀ j,j < m → w.cell? ⟨P,j,none⟩ = some (.slice (A j) (L j) (C j)))
  (hs : ∀ j,j < m → Seg w (A j) (L j) (C j) (Z j) ∧ (A j = none → C j = 0)) (hN : (cat Z m).length ≤ 1099511627776) (hPw : P < w.heap.size) (h0 : 0 < (cat Z m).length) :
  Calls Tryz.prog 322 #[.slice (some ⟨P,0,none⟩) m cp] w fun e w' => e = .returned (.slice (some ⟨w.heap.size,0,none⟩) (cat Z m).length (cat Z m).length) ∧
   Seg w' (some ⟨w.heap.size,0,none⟩) (cat Z m).length (cat Z m).length (cat Z m) ∧ Below w.heap.size w w' ∧ w.heap.size < w'.heap.size:=by
 refine (join24_in P m cp A L C Z w hm hp hs hN hPw).mono fun e w' ⟨he,ho,hb⟩ => ?_
 have hseg:=seg_own ho rfl hN (cat_range Z m fun j hj => (hs j hj).1.2.2.2.1) (Nat.le_refl _)
 refine ⟨he,hseg,hb,?_⟩
 rcases hseg.2.2.2.2 with h | ⟨b,off,e1,hc⟩
 ·omega
 ·have:=hc 0 h0
  simp at e1
  have:=block_lt_of_cell this
  simp only at this
  omega
theorem and127 {V : Int} (h0 : 0 ≤ V) (h1 : V < 18446744073709551616) : bits .and .u64 V 127 = V % 128:=by
 rw [u64_and V 127 h0 h1 (by decide) (by decide)]
 simp only [Int.reduceToNat]
 rw [nat_mask7]; omega
theorem or128 {c : Int} (h0 : 0 ≤ c) (h1 : c < 128) : bits .or .u8 c 128 = c + 128:=by
 rw [u8_or c 128 h0 (by omega) (by decide) (by decide)]
 simp only [Int.reduceToNat]
 rw [Nat.or_comm,nat_join 7 128 c.toNat (by decide) (by simp only [Nat.reducePow]; omega)]
 omega
theorem put_at (pre : List Int) (k m : Nat) (c : Int) (h : pre.length = k) : ((pre ++ List.replicate (m + 1) 0).map (Value.int .u8)).set k (.int .u8 c) = ((pre ++ [c]) ++ List.replicate m 0).map (Value.int .u8):=by
 subst h
 rw [← List.map_set]
 congr 1
 rw [List.set_append_right _ _ (by omega)]
 simp [List.replicate_succ]
theorem put_step {w wr : World} {pre : List Int} {k : Nat} (c : Int) (hk : k ≤ 9) (hp : pre.length = k)
  (hown : wr.ownsRow w.heap.size 336 1 (.slice (some ⟨w.heap.size,0,none⟩) 10 10) 10 ((pre ++ List.replicate (10 - k) 0).map (Value.int .u8))) (hb : Below w.heap.size w wr) :
  (wr.setCell ⟨w.heap.size,k,none⟩ (.int .u8 c)).ownsRow w.heap.size 336 1 (.slice (some ⟨w.heap.size,0,none⟩) 10 10) 10 (((pre ++ [c]) ++ List.replicate (10 - (k + 1)) 0).map (Value.int .u8)) ∧
   Below w.heap.size w (wr.setCell ⟨w.heap.size,k,none⟩ (.int .u8 c)):=by
 have h:=hown.stored k (.int .u8 c)
 have e : 10 - k = 10 - (k + 1) + 1:=by omega
 rw [e,put_at pre k _ c hp] at h
 exact ⟨h.1,hb.setCell (by simp) _⟩
theorem Tryz.len336 : Tryz.prog.arrayLen 336 = 10:=by kernel_rfl
theorem Tryz.und336 : Tryz.prog.underlying 336 = some (.array (Tryz.prog.arrayLen 336) (Tryz.prog.elem 336)):=by kernel_rfl
theorem Tryz.size336 (w : World) : (sizeOf (Tryz.prog.elem 336)).run Tryz.prog w = .ok 1 w:=by kernel_rfl
theorem slice_groups (B k : Nat) (hk : k ≤ 9) (w : World) :
  (Instr.sliceAt 336 (.pointer (some ⟨B,0,none⟩)) none (some (.int .i64 ((k : Int) + 1))) none).run Tryz.prog w = .ok (.slice (some ⟨B,0,none⟩) (k + 1) 10) w:=by
 rw [run_sliceAt_array_h w 336 ⟨B,0,none⟩ Tryz.und336 .i64 ((k : Int) + 1) (by omega) (by rw [Tryz.len336]; omega),Tryz.size336]
 have e : ((k : Int) + 1).toNat = k + 1:=by omega
 simp only [Result.andThen,slicedAt,Tryz.len336,e]
 simp [Addr.add]
theorem uvar_close {w W : World} {k : Nat} {V v : Int} {pre : List Int} (hk : k ≤ 9) (hp : pre.length = k) (hV : 0 ≤ V) (hV1 : V < 128) (huv : uvar v = pre ++ [V]) (hpr : ∀ z ∈ pre,0 ≤ z ∧ z ≤ 255)
  (ho : W.ownsRow w.heap.size 336 1 (.slice (some ⟨w.heap.size,0,none⟩) 10 10) 10 (((pre ++ [V]) ++ List.replicate (10 - (k + 1)) 0).map (Value.int .u8))) (hb : Below w.heap.size w W) (hsz : W.heap.size = w.heap.size + 1) :
  Calls Tryz.prog 322 #[.slice (some ⟨w.heap.size + 1,0,none⟩) 1 1] (W.alloc (.cells #[.slice (some ⟨w.heap.size,0,none⟩) (k + 1) 10] 64)) fun e w' =>
   e = .returned (.slice (some ⟨w.heap.size + 2,0,none⟩) (uvar v).length (uvar v).length) ∧
   Seg w' (some ⟨w.heap.size + 2,0,none⟩) (uvar v).length (uvar v).length (uvar v) ∧ Below w.heap.size w w' ∧ w.heap.size + 2 < w'.heap.size:=by
 have hlen : (uvar v).length = k + 1:=by rw [huv]; simp [hp]
 have hr : ∀ z ∈ uvar v,0 ≤ z ∧ z ≤ 255:=by
  intro z hz
  rw [huv] at hz
  rcases List.mem_append.1 hz with hz | hz
  ·exact hpr z hz
  ·simp at hz; omega
 have hseg : Seg W (some ⟨w.heap.size,0,none⟩) (k + 1) 10 (uvar v):=by
  refine ⟨hlen,by omega,by omega,hr,.inr ⟨_,0,rfl,fun j hj => ?_⟩⟩
  rw [Nat.zero_add,ho.cellAt j (by omega),huv]
  have hj' : j < (pre ++ [V]).length:=by simp [hp]; omega
  rw [List.getElem?_map,List.getElem?_append_left hj']
  simp [List.getElem?_eq_getElem hj']
 have hba : Below W.heap.size W (W.alloc (.cells #[.slice (some ⟨w.heap.size,0,none⟩) (k + 1) 10] 64)):=(Below.refl _ _).alloc (Nat.le_refl _) _
 have hs2 : (W.alloc (.cells #[.slice (some ⟨w.heap.size,0,none⟩) (k + 1) 10] 64)).heap.size = w.heap.size + 2:=by simp [hsz]
 have hc1 : cat (fun _ => uvar v) 1 = uvar v:=by simp [cat]
 have J:=join24 (w.heap.size + 1) 1 1 (fun _ => some ⟨w.heap.size,0,none⟩) (fun _ => k + 1) (fun _ => 10) (fun _ => uvar v) (W.alloc (.cells #[.slice (some ⟨w.heap.size,0,none⟩) (k + 1) 10] 64)) (by omega)
  (fun j hj => by
   obtain rfl : j = 0:=by omega
   rw [← hsz]; simp)
  (fun j _ => ⟨hseg.later hba (Nat.le_refl _),fun h => by cases h⟩) (by rw [hc1]; omega) (by rw [hs2]; omega) (by rw [hc1]; omega)
 rw [hc1,hs2] at J
 refine J.mono fun e w' ⟨he,hsg,hbl,hz⟩ => ⟨he,hsg,?_,hz⟩
 exact (hb.trans (hba.mono (by omega))).trans (hbl.mono (by omega))
theorem uvar17 (v : Int) (w : World) (h0 : 0 ≤ v) (h1 : v < 18446744073709551616) :
  Calls Tryz.prog 318 #[.int .u64 v] w fun e w' => e = .returned (.slice (some ⟨w.heap.size + 2,0,none⟩) (uvar v).length (uvar v).length) ∧
   Seg w' (some ⟨w.heap.size + 2,0,none⟩) (uvar v).length (uvar v).length (uvar v) ∧ Below w.heap.size w w' ∧ w.heap.size + 2 < w'.heap.size:=by
 go_enter Tryz.func318,Tryz.ntmps318
 go_wp2
 go_loopw [0,4] (fun x i wr => ∃ (k : Nat) (V : Int) (pre : List Int),k ≤ 9 ∧ i = .int .i64 k ∧ x = .int .u64 V ∧ pre.length = k ∧ 0 ≤ V ∧ V < 18446744073709551616 ∧ V * 128 ^ k < 18446744073709551616 ∧ uvar v = pre ++ uv (9 - k) V ∧ (∀ z ∈ pre,0 ≤ z ∧ z ≤ 255) ∧
   wr.ownsRow w.heap.size 336 1 (.slice (some ⟨w.heap.size,0,none⟩) 10 10) 10 ((pre ++ List.replicate (10 - k) 0).map (Value.int .u8)) ∧ Below w.heap.size w wr ∧ wr.heap.size = w.heap.size + 1) (fun x _ _ => (intOf x).toNat)
 case atStart =>
  exact ⟨0,v,[],by omega,rfl,rfl,rfl,h0,h1,by simpa using h1,rfl,by simp,World.ownsRow_lit w _ 10 (Nat.le_refl _) (by decide) rfl,(Below.refl _ _).alloc (Nat.le_refl _) _,by simp⟩
 case round =>
  obtain ⟨k,V,pre,hk,rfl,rfl,hpl,hV0,hV1,hroom,huv,hpr,hown,hb,hsz⟩:=hrel
  have hcl : ∃ u,wr.cell? ⟨w.heap.size,k,none⟩ = some u:=by
   have:=hown.cellAt k (by omega)
   exact ⟨_,this.trans (List.getElem?_eq_getElem (by simp [hpl]; omega))⟩
  obtain ⟨u0,hcl⟩:=hcl
  have hfz:=hown.frozenAt k
  have HS:=hid (fun c => put_step c hk hpl hown hb)
  have HU:=hid huv
  have HP:=hid hpl
  have HR:=hid hroom
  clear huv hown hb hpl hroom
  by_cases h128 : 128 ≤ V
  ·have hk8:=room_end V k HR.out hk h128
   have hand:=and127 hV0 hV1
   have hor:=or128 (c:=V % 128) (by omega) (by omega)
   have HN:=hid (show uvar v = (pre ++ [V % 128 + 128]) ++ uv (9 - (k + 1)) (V / 128) by
    rw [HU.out,show 9 - k = 9 - (k + 1) + 1 by omega]
    have hn : ¬ V < 128:=by omega
    simp [uv,hn])
   go_wp2
   have R:=HS.out (V % 128 + 128)
   refine ⟨⟨k + 1,V / 128,pre ++ [V % 128 + 128],by omega,by go_num,rfl,by simp [HP.out],by omega,by omega,room_up V k HR.out hV0,HN.out,?_,R.1,R.2,by simp [hsz]⟩,by simp [intOf]; omega⟩
   intro z hz
   rcases List.mem_append.1 hz with hz | hz
   ·exact hpr z hz
   ·simp at hz; omega
  ·have hsl:=slice_groups w.heap.size k hk
   have HF:=hid (show uvar v = pre ++ [V] by
    rw [HU.out]
    cases h9 : 9 - k with
    | zero => rfl
    | succ f =>
     have hn : V < 128:=by omega
     simp [uv,hn])
   have HJ:=hid (uvar_close hk HP.out hV0 (by omega) HF.out hpr (HS.out V).1 (HS.out V).2 (by simp [hsz]))
   go_wp2_with (first | (go_at_call 322; refine HJ.out.mono ?_; rintro e w' ⟨rfl,hseg,hbl,hz⟩))
   go_ret
   exact ⟨rfl,hseg,hbl,hz⟩
end Go.Proofs.YtepnnenohjfkbaaGreatDoor

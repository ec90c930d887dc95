/-
  Texts Ia Ls Nz Ic.
-/
import Derived.BigQuiet
import Derived.Deep.QuietTactic
import Derived.Laws.CopyRow
import Derived.Laws.IdiomCopy
import Derived.Test.YtepcmfegggdjfaaGreatDoorQ00
import Derived.Test.YtepcmfegggdjfaaGreatDoorQ01
import Derived.Test.YtepcmfegggdjfaaGreatDoorQ04
set_option linter.unusedVariables false
set_option maxRecDepth 100000
set_option maxHeartbeats 16000000
namespace Go.Proofs.YtepcmfegggdjfaaGreatDoor
open Go.RowKit
def rkL (k : IntKind) (n : Nat) (f : Nat → Int) : List Value:=(List.range n).map fun i => Value.int k (f i)
theorem rkL_len (k : IntKind) (n : Nat) (f : Nat → Int) : (rkL k n f).length = n:=by simp [rkL]
theorem rkL_get (k : IntKind) (n : Nat) (f : Nat → Int) (i : Nat) (h : i < n) : (rkL k n f)[i]? = some (.int k (f i)):=by simp [rkL,h]
theorem rkL_congr {k : IntKind} {n : Nat} {f g : Nat → Int} (h : ∀ i,i < n → f i = g i) : rkL k n f = rkL k n g:=by
 unfold rkL; apply List.map_congr_left; intro i hi; rw [h i (by simpa using hi)]
theorem rkL_set {k : IntKind} {n : Nat} {f : Nat → Int} {t : Nat} {v : Int} {g : Nat → Int} (h : ∀ i,i < n → g i = if i = t then v else f i) : (rkL k n f).set t (.int k v) = rkL k n g:=by
 apply List.ext_getElem?
 intro j
 by_cases hj : j < n
 ·rw [rkL_get k n g j hj,h j hj]
  by_cases e : j = t
  ·subst e
   rw [if_pos rfl,List.getElem?_set_self (by rw [rkL_len]; exact hj)]
  ·rw [if_neg e,List.getElem?_set_ne (fun x => e x.symm),rkL_get k n f j hj]
 ·rw [List.getElem?_eq_none (by rw [List.length_set,rkL_len]; omega),List.getElem?_eq_none (by rw [rkL_len]; omega)]
theorem rkL_lay {k : IntKind} {n : Nat} {f g : Nat → Int} {o : Nat} {cs : List Int} (ho : o + cs.length ≤ n) (h : ∀ i,i < n → g i = if o ≤ i ∧ i < o + cs.length then cs.getD (i - o) 0 else f i) :
  (rkL k n f).take o ++ cs.map (Value.int k) ++ (rkL k n f).drop (o + cs.length) = rkL k n g:=by
 apply List.ext_getElem?
 intro j
 by_cases hj : j < n
 ·rw [rkL_get k n g j hj,h j hj]
  by_cases h1 : j < o
  ·rw [List.append_assoc,List.getElem?_append_left (by rw [List.length_take,rkL_len]; omega),List.getElem?_take_of_lt h1,rkL_get k n f j hj,if_neg (by omega)]
  ·by_cases h2 : j < o + cs.length
   ·rw [List.append_assoc,List.getElem?_append_right (by rw [List.length_take,rkL_len]; omega),List.length_take,rkL_len,Nat.min_eq_left (by omega),List.getElem?_append_left (by rw [List.length_map]; omega),if_pos ⟨by omega,h2⟩,List.getElem?_map,List.getD_eq_getElem?_getD,List.getElem?_eq_getElem (by omega : j - o < cs.length)]
    rfl
   ·rw [List.getElem?_append_right (by rw [List.length_append,List.length_take,rkL_len,List.length_map]; omega),List.length_append,List.length_take,rkL_len,List.length_map,Nat.min_eq_left (by omega),List.getElem?_drop,if_neg (by omega)]
    rw [show o + cs.length + (j - (o + cs.length)) = j by omega,rkL_get k n f j hj]
 ·rw [List.getElem?_eq_none (by simp [rkL_len]; omega),List.getElem?_eq_none (by rw [rkL_len]; omega)]
def RB (k : IntKind) (e : TypeId) (w : World) (B n : Nat) (f : Nat → Int) : Prop:=w.heap[B]? = some (.cells (rkL k n f).toArray e)
section
variable {k : IntKind} {e : TypeId} {w w' : World} {B n : Nat} {f g : Nat → Int}
theorem RB.cell (h : RB k e w B n f) (i : Nat) (hi : i < n) : w.cell? ⟨B,i,none⟩ = some (.int k (f i)):=by
 rw [cell_at h,List.getElem?_toArray,rkL_get k n f i hi]
theorem RB.free (h : RB k e w B n f) (i : Nat) : w.frozen? ⟨B,i,none⟩ = false:=free_at h
theorem RB.lt (h : RB k e w B n f) : B < w.heap.size:=by
 rcases Nat.lt_or_ge B w.heap.size with hl | hl
 ·exact hl
 ·unfold RB at h; rw [Array.getElem?_eq_none hl] at h; cases h
theorem RB.congr (h : RB k e w B n f) (hg : ∀ i,i < n → f i = g i) : RB k e w B n g:=by unfold RB; rw [← rkL_congr hg]; exact h
theorem RB.kept {S : Nat → Prop} (h : RB k e w B n f) (hk : Kept S w w') (hs : ¬ S B) : RB k e w' B n f:=(hk.block B h.lt hs).trans h
theorem RB.later (h : RB k e w B n f) (hb : Below w.heap.size w w') : RB k e w' B n f:=(hb.block B h.lt).trans h
theorem RB.put (h : RB k e w B n f) (t : Nat) (v : Int) (hg : ∀ i,i < n → g i = if i = t then v else f i) : RB k e (w.setCell ⟨B,t,none⟩ (.int k v)) B n g:=by
 have:=setBlk (i:=t) (u:=.int k v) h
 rw [sIB,rkL_set hg] at this
 exact this
theorem RB.made {base : Nat} (h : w.ownsRow base e 1 (.slice (some ⟨B,0,none⟩) n n) n (madeCells (Value.int k 0).cells (n * 1)).toList) : RB k e w B n (fun _ => 0):=by
 rcases h.2 with ⟨h0,_⟩ | ⟨b,cap,cur,h1,h2,h3,h4,h5,h6,h7⟩
 ·cases h0
 ·injection h1 with e1 e2 e3
  injection e1 with e1
  injection e1 with e1
  subst e1; subst e3
  unfold RB
  rw [h3]
  have hl : cur.toList = rkL k n (fun _ => 0):=by
   have a : cur.toList.take (n * 1) = cur.toList:=List.take_of_length_le (by simp; omega)
   rw [← a,h7,Nat.mul_one]
   refine (toList_madeCells_one _ _).trans ?_
   apply List.ext_getElem?
   intro j
   by_cases hj : j < n
   ·rw [rkL_get k n _ j hj]; simp [hj]
   ·rw [List.getElem?_eq_none (by simp; omega),List.getElem?_eq_none (by rw [rkL_len]; omega)]
  rw [← hl]
end
def SegW (w : World) (a : Option Addr) (n cap : Nat) (zs : List Int) : Prop :=
 zs.length = n ∧ n ≤ cap ∧ n ≤ 1099511627776 ∧ (∀ z ∈ zs,0 ≤ z ∧ z < 18446744073709551616) ∧
 (n = 0 ∨ ∃ b off,a = some ⟨b,off,none⟩ ∧ ∀ j,j < n → w.cell? ⟨b,off + j,none⟩ = some (.int .u64 (zs.getD j 0)))
theorem SegW.later {w w' : World} {a : Option Addr} {n cap B : Nat} {zs : List Int} (h : SegW w a n cap zs) (hb : Below B w w') (hB : w.heap.size ≤ B) : SegW w' a n cap zs:=by
 obtain ⟨h1,h2,h3,h4,h5⟩:=h
 refine ⟨h1,h2,h3,h4,?_⟩
 rcases h5 with h5 | ⟨b,off,rfl,hc⟩
 ·exact .inl h5
 ·refine .inr ⟨b,off,rfl,fun j hj => ?_⟩
  have:=block_lt_of_cell (hc j hj)
  rw [hb.cell (p:=⟨b,off + j,none⟩) (by simp at this ⊢; omega)]
  exact hc j hj
def allB (zs : List Int) (s : ByteArray) : Bool:=decide (zs.length = s.size) && (List.range s.size).all (fun i => fitsB (zs.getD i 0) (byteI s i))
theorem allB_iff (zs : List Int) (s : ByteArray) : allB zs s = true ↔ zs.length = s.size ∧ ∀ i,i < s.size → fitsB (zs.getD i 0) (byteI s i) = true:=by
 simp [allB]
theorem fits_isL {v c : Int} (h : fitsB v c = true) : isL c = true:=by
 simp only [fitsB,isL,Bool.or_eq_true,Bool.and_eq_true,decide_eq_true_eq] at *
 rcases h with h | h
 ·exact .inr h
 ·exact .inl h.1
theorem ask21 (k : Nat) (c : Int) (B : Nat) (a : Option Addr) (n cap : Nat) (zs : List Int) (w : World) (hm : w.cell? ⟨B,0,none⟩ = some (.slice a n cap)) (hs : SegW w a n cap zs) (hk : k < n) :
  Calls Tryz.prog 24 #[.int .i64 k,.int .u8 c,.pointer (some ⟨B,0,none⟩)] w fun e w' => e = .returned (.bool (fitsB (zs.getD k 0) c)) ∧ w' = w:=by
 obtain ⟨h1,h2,h3,h4,h5⟩:=hs
 rcases h5 with h5 | ⟨b,off,rfl,hc⟩
 ·omega
 have hcell:=hc k hk
 have hk' : (k : Int) < n:=by omega
 clear hc h4
 go_enter Tryz.func24,Tryz.ntmps24
 go_wp2_with fail
 refine (fits13 _ _ _).mono ?_
 rintro e w1 ⟨rfl,rfl⟩
 go_wp2
 go_ret
 have hkl : k < zs.length:=by omega
 exact ⟨by simp [hkl],rfl⟩
theorem all15 (a : Option Addr) (n cap : Nat) (zs : List Int) (s : ByteArray) (w : World) (h : SegW w a n cap zs) (hs : s.size ≤ 1073741824) :
  Calls Tryz.prog 15 #[.slice a n cap,.string s] w fun e w' => e = .returned (.bool (allB zs s)) ∧ Below w.heap.size w w':=by
 have hmf : ∀ (fn : Fn) (first cap : Array Value) (w : World),(Instr.makeFunc fn first cap).run Tryz.prog w = .ok (.func fn first cap) w:=fun _ _ _ _ => rfl
 have hb0 : Below w.heap.size w (w.alloc (.cells #[.slice a n cap] 30)):=(Below.refl _ _).alloc (Nat.le_refl _) _
 have hn : n ≤ 1099511627776:=h.2.2.1
 by_cases hne : n = s.size
 ·have hne' : (n : Int) = s.size:=by omega
  have HE:=hid (each20 s 24 w.heap.size (fun i => fitsB (zs.getD i 0) (byteI s i)) (w.alloc (.cells #[.slice a n cap] 30)) hs (fun _ _ => by rfl) (fun pos i hi _ => by
   rw [byteI_at s i hi]
   have hbi : Below (w.heap.size + 1) (w.alloc (.cells #[.slice a n cap] 30)) ((w.alloc (.cells #[.slice a n cap] 30)).iter s pos):=(Below.refl _ _).alloc (by simp) _
   refine ask21 i _ w.heap.size a n cap zs _ ?_ ((h.later hb0 (Nat.le_refl _)).later hbi (by simp)) (by omega)
   rw [hbi.cell (by simp),World.cell?_alloc_at _ _ _ _ rfl]; rfl))
  have HL:=hid h.1
  clear h
  subst hne
  go_enter Tryz.func15,Tryz.ntmps15
  go_wp2_with fail
  refine HE.out.mono ?_
  rintro e w1 ⟨b,pos,rfl,hb,rfl⟩
  have hbl : b = allB zs s:=by
   rw [Bool.eq_iff_iff,hb,allB_iff]
   exact ⟨fun h => ⟨HL.out,fun i hi => (h i hi).2⟩,fun h i hi => ⟨fits_isL (h.2 i hi),h.2 i hi⟩⟩
  subst hbl
  go_wp2
  go_ret
  exact ⟨rfl,hb0.alloc (by simp) _⟩
 ·have hne' : ((n : Int) == (s.size : Int)) = false:=by simpa using fun h : (n : Int) = s.size => hne (by omega)
  have hf : allB zs s = false:=by
   rw [← Bool.not_eq_true,allB_iff,h.1]; exact fun h' => hne h'.1
  clear h
  go_enter Tryz.func15,Tryz.ntmps15
  go_wp2
  all_goals go_ret
  all_goals exact ⟨by rw [hf]; rfl,hb0⟩
theorem Tryz.infW : (Tryz.prog.info? 53).map (fun i => (i.zero,i.size,i.bytes)) = some (some (.int .u64 0),1,8):=by kernel_rfl
theorem zero26 (s : ByteArray) (w : World) (hs : s.size ≤ 1073741824) (hl : lett s s.size = true) :
  Calls Tryz.prog 26 #[.string s] w fun e w' => ∃ B,e = .returned (.slice (some ⟨B,0,none⟩) s.size s.size) ∧ w.heap.size ≤ B ∧ RB .u64 53 w' B s.size (fun _ => 0) ∧ Below w.heap.size w w':=by
 obtain ⟨i0,hi,hz0,hz1,hz2⟩:=info_parts Tryz.infW
 have hb2 : i0.bytes * s.size ≤ 281474976710656:=by rw [hz2]; omega
 have hml : s.size ≤ maxLen:=by unfold maxLen; omega
 have HE:=hid (letters22 s s.size w hs hs)
 go_enter Tryz.func26,Tryz.ntmps26
 go_wp2_with fail
 refine HE.out.mono ?_
 rintro e w1 ⟨rfl,hb1⟩
 rw [hl]
 have hsz:=hb1.size
 go_wp2_with (first | (at_make; refine wpList_make_full _ rfl _ _ 30 rfl w.heap.size 53 i0 (.int .u64 0) 1 Tryz.underlying30 hi hz0 hz1 .i64 .i64 _ _ s.size rfl rfl rfl rfl hb2 hml hsz ?_; intro w2 hown hgrow))
 have hown0:=RB.made hown
 have hbel : Below w.heap.size w w2:=hb1.grown hgrow hsz (by simp)
 clear hown hgrow hi hz0 hz1 hz2 hb2 hml
 go_wp2
 go_ret
 exact ⟨_,rfl,hsz,hown0,hbel⟩
def locF (zs : List Int) (i : Nat) : Int:=zs.getD i 0
theorem seg_src {w : World} {b off n : Nat} {zs : List Int} (hl : zs.length = n) (hc : ∀ j,j < n → w.cell? ⟨b,off + j,none⟩ = some (.int .u64 (zs.getD j 0))) (m : Nat) (hm : m ≤ n) :
  ∀ (j : Nat) v,((zs.take m).map (Value.int .u64))[j]? = some v → w.cell? ((⟨b,off,none⟩ : Addr).add j) = some v:=by
 intro j v hj
 rw [List.getElem?_map] at hj
 have hplain : (⟨b,off,none⟩ : Addr).add j = ⟨b,off + j,none⟩:=by unfold Addr.add; split <;> simp_all
 rw [hplain]
 by_cases hjm : j < m
 ·rw [List.getElem?_take_of_lt hjm,List.getElem?_eq_getElem (by omega : j < zs.length)] at hj
  rw [hc j (by omega),List.getD_eq_getElem?_getD,List.getElem?_eq_getElem (by omega : j < zs.length)]
  exact hj
 ·rw [List.getElem?_eq_none (by rw [List.length_take]; omega)] at hj; cases hj
theorem Tryz.infWs : (Tryz.prog.info? 53).map (·.size) = some 1:=by kernel_rfl
theorem setRow_kept (w : World) (g : Nat) (cur : Array Value) : Kept (fun k => k = g) w (w.setRow g cur):=by
 refine ⟨rfl,rfl,rfl,by simp [World.setRow],fun k hk hs => ?_⟩
 unfold World.setRow
 simp only [Array.getElem?_modify]
 rw [if_neg (fun e => hs e.symm)]
theorem loc16 (s : ByteArray) (a : Option Addr) (n cap : Nat) (zs : List Int) (w : World) (h : SegW w a n cap zs) (hs : s.size ≤ 1073741824) (hl : lett s s.size = true) (hn : n ≤ s.size) :
  Calls Tryz.prog 16 #[.string s,.slice a n cap] w fun e w' => ∃ B,e = .returned (.slice (some ⟨B,0,none⟩) s.size s.size) ∧ w.heap.size ≤ B ∧ RB .u64 53 w' B s.size (locF zs) ∧ Below w.heap.size w w':=by
 have HZ:=hid (zero26 s w hs hl)
 have HS:=hid h
 have hlz:=h.1
 clear h hl
 go_enter Tryz.func16,Tryz.ntmps16
 go_wp2_with fail
 refine HZ.out.mono ?_
 rintro e w1 ⟨B,rfl,hB,hrb,hb1⟩
 have H1:=hid (And.intro hB (And.intro hrb hb1))
 have HS1:=hid (HS.out.later hb1 (Nat.le_refl _))
 clear hB hrb hb1 HS
 by_cases h0 : n = 0
 ·subst h0
  have hmin : Nat.min 0 s.size = 0:=Nat.zero_min _
  have HZ0:=hid (List.eq_nil_of_length_eq_zero hlz)
  go_wp2_with fail
  rw [run_copy_none w1 30 30 3 53 (some ⟨B,0,none⟩) a s.size s.size 0 cap Tryz.underlying30 Tryz.infWs hmin]
  simp only [Result.andThen]
  go_wp2
  go_ret
  exact ⟨B,rfl,H1.out.1,by rw [HZ0.out]; exact H1.out.2.1.congr (fun i _ => by simp [locF]),H1.out.2.2⟩
 ·obtain ⟨b,off,ha,hc⟩:=HS1.out.2.2.2.2.resolve_left h0
  subst ha
  have hsrc:=seg_src hlz hc n (Nat.le_refl _)
  have HC:=hid hsrc
  have hmin : ((zs.take n).map (Value.int .u64)).length = Nat.min n s.size:=by
   rw [List.length_map,List.length_take,hlz,Nat.min_self]; exact (Nat.min_eq_left hn).symm
  have HM:=hid hmin
  have HF:=hid (show 0 + ((zs.take n).map (Value.int .u64)).length ≤ (rkL .u64 s.size (fun _ => 0)).toArray.size by
   rw [hmin]; simp [rkL_len]; exact Nat.min_le_right _ _)
  have HO:=hid (show ∀ v ∈ (zs.take n).map (Value.int .u64),v.oneCell' = true from fun v hv => by obtain ⟨z,_,rfl⟩:=List.mem_map.1 hv; rfl)
  have HL:=hid hlz
  clear hsrc hmin hc hlz
  go_wp2_with fail
  rw [run_copy_row Tryz.prog w1 30 30 3 53 B 0 s.size s.size ⟨b,off,none⟩ n cap (rkL .u64 s.size (fun _ => 0)).toArray 53 ((zs.take n).map (Value.int .u64)) Tryz.underlying30 Tryz.infWs H1.out.2.1 HM.out HC.out HF.out HO.out]
  have e1 : ((rkL .u64 s.size (fun _ => 0)).toArray.toList.take 0 ++ (zs.take n).map (Value.int .u64) ++ (rkL .u64 s.size (fun _ => 0)).toArray.toList.drop (0 + ((zs.take n).map (Value.int .u64)).length)) = rkL .u64 s.size (locF zs):=by
   rw [List.take_of_length_le (Nat.le_of_eq HL.out)]
   have:=rkL_lay (k:=.u64) (n:=s.size) (f:=fun _ => 0) (g:=locF zs) (o:=0) (cs:=zs) (by rw [HL.out]; omega) (fun i hi => by
    unfold locF
    by_cases hz : i < zs.length
    ·rw [if_pos (by omega),Nat.sub_zero]
    ·rw [if_neg (by omega),List.getD_eq_getElem?_getD,List.getElem?_eq_none (by omega)]; rfl)
   simpa using this
  rw [e1]
  have hrow : RB .u64 53 (w1.setRow B (rkL .u64 s.size (locF zs)).toArray) B s.size (locF zs):=setRow_heap w1 _ _ _ 53 _ H1.out.2.1
  have hkp:=setRow_kept w1 B (rkL .u64 s.size (locF zs)).toArray
  have HR:=hid (And.intro hrow hkp)
  generalize w1.setRow B (rkL .u64 s.size (locF zs)).toArray = w2 at *
  clear hrow hkp e1
  simp only [Result.andThen]
  go_wp2
  go_ret
  exact ⟨B,rfl,H1.out.1,HR.out.1,H1.out.2.2.trans (HR.out.2.to_below H1.out.2.2.size (fun k hk e => by have e : k = B:=e; have:=H1.out.1; omega))⟩
theorem lt_of_ownS {w : World} {base : Nat} {e : TypeId} {size : Nat} {v : Value} {n : Nat} {xs : List Value} {B : Nat} (h : w.ownsRow base e size v n xs) (hB : v.ownBlock = some B) : B < w.heap.size:=by
 rcases h.2 with ⟨rfl,_⟩ | ⟨g,cp,cur,rfl,h2,h3,h4⟩
 ·simp [Value.ownBlock] at hB
 ·obtain rfl : g = B:=by simpa [Value.ownBlock] using hB
  rcases Nat.lt_or_ge g w.heap.size with hl | hl
  ·exact hl
  ·rw [Array.getElem?_eq_none hl] at h3; cases h3
theorem own_addr {aa : Option Addr} {j ac B : Nat} (h : (Value.slice aa j ac).ownBlock = some B) : ∃ a,aa = some a ∧ a.block = B:=by
 cases aa with
 | none => simp [Value.ownBlock] at h
 | some a => exact ⟨a,rfl,by simpa [Value.ownBlock] using h⟩
theorem own_addr' {w : World} {base : Nat} {e : TypeId} {size : Nat} {aa : Option Addr} {j ac n : Nat} {xs : List Value} {a : Addr} (h : w.ownsRow base e size (.slice aa j ac) n xs) (ha : aa = some a) : (Value.slice aa j ac).ownBlock = some a.block:=by
 subst ha; simp [Value.ownBlock]
theorem take_flat {α : Type} (enc : α → List Int) {xs : List α} {j : Nat} {x : α} (hx : xs[j]? = some x) : (xs.take (j + 1)).flatMap enc = (xs.take j).flatMap enc ++ enc x:=by
 have hj:=lt_of_get hx
 rw [List.take_succ_eq_append_getElem hj]
 rw [List.getElem?_eq_getElem hj] at hx
 simp at hx
 simp [hx]
theorem flat_le {α : Type} (enc : α → List Int) (M : Nat) : ∀ (xs : List α),(∀ (j : Nat) x,xs[j]? = some x → (enc x).length ≤ M) → (xs.flatMap enc).length ≤ xs.length * M
 | [],_ => by simp
 | x :: r,h => by
  have h0:=h 0 x rfl
  have h1:=flat_le enc M r (fun j y hj => h (j + 1) y (by simpa using hj))
  simp only [List.flatMap_cons,List.length_append,List.length_cons]
  rw [Nat.add_mul,Nat.one_mul]
  omega
theorem flat_get {α : Type} {oc : α → List Value} {CS : Nat} (hoc : ∀ y,(oc y).length = CS) : ∀ (ys : List α) (i t : Nat) (y : α) (u : Value),ys[i]? = some y → (oc y)[t]? = some u → (ys.flatMap oc)[i * CS + t]? = some u
 | [],i,t,y,u,h,_ => by simp at h
 | z :: r,0,t,y,u,h,hu => by
  simp at h
  subst h
  have ht:=lt_of_get hu
  simp only [List.flatMap_cons,Nat.zero_mul,Nat.zero_add]
  rw [List.getElem?_append_left ht]
  exact hu
 | z :: r,i + 1,t,y,u,h,hu => by
  have h' : r[i]? = some y:=by simpa using h
  have:=flat_get hoc r i t y u h' hu
  simp only [List.flatMap_cons]
  rw [List.getElem?_append_right (by rw [hoc,Nat.add_mul]; omega),hoc]
  have e : (i + 1) * CS + t - CS = i * CS + t:=by rw [Nat.add_mul]; omega
  rw [e]
  exact this
theorem row_cell {w : World} {TE : TypeId} {CS : Nat} {aa : Option Addr} {j ac : Nat} {α : Type} {oc : α → List Value} {ys : List α} (hoc : ∀ y,(oc y).length = CS) (h : w.ownsRow 0 TE CS (.slice aa j ac) j (ys.flatMap oc)) {i t : Nat} {y : α} {u : Value} (hy : ys[i]? = some y) (hu : (oc y)[t]? = some u) :
  ∃ B,aa = some ⟨B,0,none⟩ ∧ w.cell? ⟨B,i * CS + t,none⟩ = some u:=by
 have hg:=flat_get hoc ys i t y u hy hu
 have hl:=lt_of_get hg
 rcases h.2 with ⟨h1,h2⟩ | ⟨g,cp,cur,h1,_⟩
 ·have:=h.1
  rw [h2] at this
  omega
 ·obtain ⟨e1,e2⟩:=Value.slice.inj h1
  subst e1
  refine ⟨g,rfl,?_⟩
  have h' : RowS w TE CS g j ac (ys.flatMap oc):=h
  rw [h'.cell _ (by rw [← h.1]; exact hl)]
  exact hg
theorem Stp.throw {R g g1 : Nat} {w W w5 : World} (h : Stp R g g1 w W) (hk : Kept (fun k => k = R ∨ k = g1) W w5) : Kept (fun k => k = R ∨ k = g) w w5:=by
 refine h.k.then hk (fun k hkl hh => ?_)
 rcases hh with rfl | rfl
 ·exact .inl rfl
 ·rcases h.m with h | h
  ·exact .inr h
  ·omega
def nz (n : Nat) (a : Option Addr) : Option Addr:=if n = 0 then none else a
theorem nz_some {n : Nat} {a : Option Addr} {p : Addr} (h : nz n a = some p) : a = some p:=by
 unfold nz at h
 split at h
 ·cases h
 ·exact h
theorem nz_of {n : Nat} {a : Option Addr} {p : Addr} (hn : n ≠ 0) (h : a = some p) : nz n a = some p:=by
 unfold nz
 rw [if_neg hn]; exact h
def layF (f : Nat → Int) (At : Nat) (zs : List Int) (i : Nat) : Int:=if At ≤ i ∧ i < At + zs.length then zs.getD (i - At) 0 else f i
def pgL (R n : Nat) : List Value:=(List.range n).map fun k => Value.slice (some ⟨R,k * 4096,none⟩) 4096 4096
theorem pgL_get (R n k : Nat) (h : k < n) : (pgL R n)[k]? = some (.slice (some ⟨R,k * 4096,none⟩) 4096 4096):=by simp [pgL,h]
theorem Tryz.infU8s : (Tryz.prog.info? 5).map (·.size) = some 1:=by kernel_rfl
theorem layF_more {f : Nat → Int} {At d m N : Nat} {zs : List Int} (hd : d + m ≤ zs.length) (hN : At + zs.length ≤ N) :
  ∀ i,i < N → layF f At (zs.take (d + m)) i = if At + d ≤ i ∧ i < At + d + ((zs.drop d).take m).length then ((zs.drop d).take m).getD (i - (At + d)) 0 else layF f At (zs.take d) i:=by
 intro i hi
 have l1 : ((zs.drop d).take m).length = m:=by rw [List.length_take,List.length_drop]; omega
 have l2 : (zs.take (d + m)).length = d + m:=by rw [List.length_take]; omega
 have l3 : (zs.take d).length = d:=by rw [List.length_take]; omega
 unfold layF
 rw [l1,l2,l3]
 by_cases h1 : At + d ≤ i ∧ i < At + d + m
 ·rw [if_pos h1,if_pos (by omega)]
  rw [List.getD_eq_getElem?_getD,List.getD_eq_getElem?_getD,List.getElem?_take_of_lt (by omega),List.getElem?_take_of_lt (by omega),List.getElem?_drop]
  congr 2
  omega
 ·rw [if_neg h1]
  by_cases h2 : At ≤ i ∧ i < At + d
  ·rw [if_pos (by omega),if_pos h2,List.getD_eq_getElem?_getD,List.getD_eq_getElem?_getD,List.getElem?_take_of_lt (by omega),List.getElem?_take_of_lt (by omega)]
  ·rw [if_neg (by omega),if_neg h2]
theorem byte_src {w : World} {b off n : Nat} {zs : List Int} (hl : zs.length = n) (hc : ∀ j,j < n → w.cell? ⟨b,off + j,none⟩ = some (.int .u8 (zs.getD j 0))) (d m : Nat) (hm : d + m ≤ n) :
  ∀ (j : Nat) v,(((zs.drop d).take m).map (Value.int .u8))[j]? = some v → w.cell? ((⟨b,off + d,none⟩ : Addr).add j) = some v:=by
 intro j v hj
 rw [List.getElem?_map] at hj
 have hplain : (⟨b,off + d,none⟩ : Addr).add j = ⟨b,off + d + j,none⟩:=by unfold Addr.add; split <;> simp_all
 rw [hplain]
 by_cases hjm : j < m
 ·rw [List.getElem?_take_of_lt hjm,List.getElem?_drop,List.getElem?_eq_getElem (by omega : d + j < zs.length)] at hj
  rw [Nat.add_assoc,hc (d + j) (by omega),List.getD_eq_getElem?_getD,List.getElem?_eq_getElem (by omega : d + j < zs.length)]
  exact hj
 ·rw [List.getElem?_eq_none (by rw [List.length_take]; omega)] at hj; cases hj
theorem blk_ltI {w : World} {b : Nat} {o : Obj} (h : w.heap[b]? = some o) : b < w.heap.size:=by
 rcases Nat.lt_or_ge b w.heap.size with hl | hl
 ·exact hl
 ·rw [Array.getElem?_eq_none hl] at h; cases h
theorem lay27 (LB R n : Nat) (f : Nat → Int) (At b off L c : Nat) (zs : List Int) (w : World)
  (hl : w.heap[LB]? = some (.cells (pgL R n).toArray 49)) (hr : RB .u8 5 w R (n * 4096) f) (hz : zs.length = L) (hLc : L ≤ c)
  (hc : ∀ j,j < L → w.cell? ⟨b,off + j,none⟩ = some (.int .u8 (zs.getD j 0))) (hbR : b ≠ R) (hA : At + L ≤ n * 4096) (hn : n ≤ 64) :
  Calls Tryz.prog 27 #[.slice (some ⟨LB,0,none⟩) n n,.agg #[.int .i64 At,.slice (some ⟨b,off,none⟩) L c]] w fun e w' => e = .returned (.tuple #[]) ∧ RB .u8 5 w' R (n * 4096) (layF f At zs) ∧ Kept (fun k => k = R) w w':=by
 obtain ⟨W0,hW0⟩ : ∃ W,W = w.alloc (.cells #[.int .i64 At,.slice (some ⟨b,off,none⟩) L c] 51):=⟨_,rfl⟩
 have B0 : Below w.heap.size w W0:=by rw [hW0]; exact (Below.refl _ _).alloc (Nat.le_refl _) _
 have c0 : W0.cell? ⟨w.heap.size,0,none⟩ = some (.int .i64 At):=by rw [hW0,World.cell?_alloc_new]; rfl
 have c1 : W0.cell? ⟨w.heap.size,1,none⟩ = some (.slice (some ⟨b,off,none⟩) L c):=by rw [hW0,World.cell?_alloc_new]; rfl
 go_enter Tryz.func27,Tryz.ntmps27
 go_wp2_with fail
 rw [← hW0]
 clear hW0
 go_quiet (fail)
 have hk0 : Kept (fun k => k = R) w (W0.drewN nq):=(kept_of B0).trans (Kept.drewN _ _ _)
 have H0:=hid (And.intro (hr.kept (kept_of (S:=fun _ => False) B0 |>.trans (Kept.drewN _ _ nq)) (fun x => x)) hk0)
 have HC:=hid hc
 have HLR:=hid (show LB ≠ R from fun e => by subst e; unfold RB at hr; rw [hl] at hr; simp at hr)
 have HL:=hid hl
 have hR:=hr.lt
 clear hc hl hr hk0 c0 c1 B0
 generalize W0.drewN nq = W1 at *
 go_wp2_with fail
 go_loopw [4,5] (fun a r wr => ∃ (d : Nat) (ra : Option Addr) (cd : Nat),d ≤ L ∧ a = .int .i64 ((At : Int) + (d : Int)) ∧ r = .slice ra (L - d) cd ∧ Hid ((d < L → ra = some ⟨b,off + d,none⟩ ∧ cd = c - d) ∧ RB .u8 5 wr R (n * 4096) (layF f At (zs.take d)) ∧ Kept (fun k => k = R) w wr)) (fun a _ _ => At + L - (intOf a).toNat)
 case atStart => exact ⟨0,some ⟨b,off,none⟩,c,Nat.zero_le _,by simp,rfl,hid ⟨fun _ => ⟨rfl,rfl⟩,H0.out.1.congr (fun i _ => by simp [layF]; omega),H0.out.2⟩⟩
 case round =>
  obtain ⟨d,ra,cd,hd,rfl,rfl,HR⟩:=hrel
  by_cases hlt : d < L
  ·obtain ⟨he1,he2⟩:=HR.out.1 hlt
   obtain ⟨q,hq⟩ : ∃ q,q = (At + d) / 4096:=⟨_,rfl⟩
   obtain ⟨r,hr⟩ : ∃ r,r = (At + d) % 4096:=⟨_,rfl⟩
   have hqr : At + d = q * 4096 + r:=by omega
   have hr4 : r < 4096:=by omega
   have hqn : q < n:=by omega
   have hqn' : (q : Int) < (n : Int):=by omega
   have t1 : Int.tdiv ((At : Int) + (d : Int)) 4096 = (q : Int):=by rw [Int.tdiv_eq_ediv_of_nonneg (by omega)]; omega
   have t2 : Int.tmod ((At : Int) + (d : Int)) 4096 = (r : Int):=by rw [Int.tmod_eq_emod_of_nonneg (by omega)]; omega
   have hgt : (0 : Int) < ((L - d : Nat) : Int):=by omega
   have gP : wr.cell? ⟨LB,q,none⟩ = some (.slice (some ⟨R,q * 4096,none⟩) 4096 4096):=by
    have h1:=HR.out.2.2.block LB (blk_ltI HL.out) (fun e => HLR.out e)
    rw [cell_at (h1.trans HL.out),List.getElem?_toArray,pgL_get R n q hqn]
   obtain ⟨m,hm⟩ : ∃ m,m = Nat.min (L - d) (4096 - r):=⟨_,rfl⟩
   have hm1 : m ≤ L - d:=by rw [hm]; exact Nat.min_le_left _ _
   have hm2 : m ≤ 4096 - r:=by rw [hm]; exact Nat.min_le_right _ _
   have hm0 : 0 < m:=by rw [hm]; exact Nat.lt_min.2 ⟨by omega,by omega⟩
   have hdz : d + m ≤ zs.length:=by omega
   have lm : (((zs.drop d).take m).map (Value.int .u8)).length = m:=by rw [List.length_map,List.length_take,List.length_drop]; omega
   have HSR:=hid (byte_src (w:=wr) hz (fun j hj => HR.out.2.2.cell (HC.out j hj) (fun e => hbR e)) d m (by omega))
   have HMN:=hid (lm.trans hm)
   have HFI:=hid (show q * 4096 + r + (((zs.drop d).take m).map (Value.int .u8)).length ≤ (rkL .u8 (n * 4096) (layF f At (zs.take d))).toArray.size by
    rw [lm]; simp [rkL_len]; omega)
   have HON:=hid (show ∀ v ∈ ((zs.drop d).take m).map (Value.int .u8),v.oneCell' = true from fun v hv => by obtain ⟨z,_,rfl⟩:=List.mem_map.1 hv; rfl)
   have HLM:=hid lm
   have HQ:=hid (And.intro hq (And.intro hr hqr))
   have HMM:=hid hm
   have HDZ:=hid hdz
   clear hq hr hqr hm hdz lm
   subst he1
   subst he2
   go_wp2_with fail
   rw [run_copy_row Tryz.prog wr 49 49 3 5 R (q * 4096 + r) (4096 - r) (4096 - r) ⟨b,off + d,none⟩ (L - d) (c - d) (rkL .u8 (n * 4096) (layF f At (zs.take d))).toArray 5 (((zs.drop d).take m).map (Value.int .u8)) Tryz.underlying49 Tryz.infU8s HR.out.2.1 HMN.out HSR.out HFI.out HON.out]
   have e1 : ((rkL .u8 (n * 4096) (layF f At (zs.take d))).toArray.toList.take (q * 4096 + r) ++ ((zs.drop d).take m).map (Value.int .u8) ++ (rkL .u8 (n * 4096) (layF f At (zs.take d))).toArray.toList.drop (q * 4096 + r + (((zs.drop d).take m).map (Value.int .u8)).length)) = rkL .u8 (n * 4096) (layF f At (zs.take (d + m))):=by
    have h1:=HQ.out.2.2
    have h2:=HLM.out
    rw [List.length_map] at h2
    rw [List.length_map]
    exact rkL_lay (k:=.u8) (n:=n * 4096) (f:=layF f At (zs.take d)) (g:=layF f At (zs.take (d + m))) (o:=q * 4096 + r) (cs:=(zs.drop d).take m) (by rw [h2]; omega) (fun i hi => by rw [← h1]; exact layF_more HDZ.out (by omega) i hi)
   rw [e1]
   have hrow : RB .u8 5 (wr.setRow R (rkL .u8 (n * 4096) (layF f At (zs.take (d + m)))).toArray) R (n * 4096) (layF f At (zs.take (d + m))):=setRow_heap wr _ _ _ 5 _ HR.out.2.1
   have hkp:=HR.out.2.2.trans (setRow_kept wr R (rkL .u8 (n * 4096) (layF f At (zs.take (d + m)))).toArray)
   have HRW:=hid (And.intro hrow hkp)
   generalize wr.setRow R (rkL .u8 (n * 4096) (layF f At (zs.take (d + m)))).toArray = w4 at *
   clear hrow hkp e1
   rw [HLM.out]
   simp only [Result.andThen]
   have hmL : (m : Int) ≤ ((L - d : Nat) : Int):=by omega
   go_wp2_with fail
   by_cases hcm : m < c - d
   ·go_quiet (fail)
    go_wp2_with fail
    exact ⟨⟨d + m,_,_,by omega,by congr 1; omega,by congr 1; omega,hid ⟨fun _ => ⟨by rw [Nat.add_assoc],by omega⟩,HRW.out.1.kept (Kept.drewN (fun _ => False) _ _) (fun x => x),HRW.out.2.trans (Kept.drewN _ _ _)⟩⟩,by simp [intOf]; omega⟩
   ·have hcm' : m = c - d:=by omega
    subst hcm'
    go_quiet (fail)
    go_wp2_with fail
    exact ⟨⟨d + (c - d),_,_,by omega,by congr 1; omega,by congr 1; omega,hid ⟨fun h => absurd h (by omega),HRW.out.1.kept (Kept.drewN (fun _ => False) _ _) (fun x => x),HRW.out.2.trans (Kept.drewN _ _ _)⟩⟩,by simp [intOf]; omega⟩
  ·go_wp2_with fail
   go_end0
   obtain rfl : d = L:=by omega
   exact ⟨rfl,HR.out.2.1.congr (fun i _ => by rw [List.take_of_length_le (Nat.le_of_eq hz)]),HR.out.2.2⟩
end Go.Proofs.YtepcmfegggdjfaaGreatDoor

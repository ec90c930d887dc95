/-
  Texts Wq Sa Sb.
-/
import Derived.Test.YtepcmfegggdjfaaGreatDoorQ09
import Derived.Test.YtepcmfegggdjfaaGreatDoorQ10
import Derived.Test.YtepcmfegggdjfaaGreatDoorQ11
import Derived.Test.YtepcmfegggdjfaaGreatDoorQ12
import Derived.Test.YtepcmfegggdjfaaGreatDoorQ13
import Derived.Test.YtepcmfegggdjfaaGreatDoorQ18
set_option linter.unusedVariables false
set_option maxRecDepth 100000
set_option maxHeartbeats 16000000
namespace Go.Proofs.YtepcmfegggdjfaaGreatDoor
open Go.RowKit
theorem firstE_some {α : Type} (f : List α → α → Int) : ∀ (xs ah : List α),firstE f ah xs ≠ 0 → ∃ k x,xs[k]? = some x ∧ firstE f ah (xs.take k) = 0 ∧ f (ah ++ xs.take k) x ≠ 0 ∧ firstE f ah xs = f (ah ++ xs.take k) x
 | [],ah,h => absurd rfl h
 | x :: r,ah,h => by
  by_cases hx : f ah x = 0
  ·have h' : firstE f ah (x :: r) = firstE f (ah ++ [x]) r:=by simp [firstE,hx]
   rw [h'] at h
   obtain ⟨k,y,h1,h2,h3,h4⟩:=firstE_some f r (ah ++ [x]) h
   refine ⟨k + 1,y,by simpa using h1,?_,?_,?_⟩
   ·simp [firstE,hx,h2]
   ·simpa using h3
   ·rw [h',h4]; simp
  ·exact ⟨0,x,rfl,rfl,by simpa using hx,by simp [firstE,hx]⟩
theorem firstE_all {α : Type} (f : List α → α → Int) : ∀ (xs ah : List α),firstE f ah xs = 0 → ∀ (j : Nat) x,xs[j]? = some x → f (ah ++ xs.take j) x = 0
 | [],ah,_,j,x,hj => by simp at hj
 | y :: r,ah,h,j,x,hj => by
  by_cases hy : f ah y = 0
  ·have h' : firstE f (ah ++ [y]) r = 0:=by simpa [firstE,hy] using h
   cases j with
   | zero => simp at hj; subst hj; simpa using hy
   | succ j =>
    have:=firstE_all f r (ah ++ [y]) h' j x (by simpa using hj)
    simpa using this
  ·exfalso
   have : firstE f ah (y :: r) = f ah y:=by simp [firstE,hy]
   rw [this] at h; exact hy h
theorem flat_congr {α : Type} {f h : α → List Int} : ∀ {xs : List α},(∀ z ∈ xs,f z = h z) → xs.flatMap f = xs.flatMap h
 | [],_ => rfl
 | x :: r,hh => by
  simp only [List.flatMap_cons]
  rw [hh x (List.mem_cons_self ..),flat_congr (fun z hz => hh z (List.mem_cons_of_mem _ hz))]
def chkIn (x : InM) : Int:=chk (tkV x.1) (lgV x.1) x.2.1 x.2.2.2
def encIn (x : InM) : List Int:=encV x.1 x.2.1 x.2.2.2
structure InOk (w : World) (R g : Nat) (x : InM) : Prop where
 r0 : 0 ≤ x.1
 r1 : x.1 ≤ 255
 seg : SegI w x.2.2.1.1 x.2.2.1.2.1 x.2.2.1.2.2 x.2.2.2
 ne : ∀ b off c,nz x.2.2.1.2.1 x.2.2.1.1 = some ⟨b,off,c⟩ → b ≠ R ∧ b ≠ g
theorem SegI.kept' {S : Nat → Prop} {w w' : World} {a : Option Addr} {n cap : Nat} {zs : List Int} (h : SegI w a n cap zs) (hk : Kept S w w') (hS : ∀ b off c,nz n a = some ⟨b,off,c⟩ → ¬ S b) : SegI w' a n cap zs:=by
 refine ⟨h.1,h.2.1,h.2.2.1,h.2.2.2.1,h.2.2.2.2.imp id ?_⟩
 rintro ⟨b,off,ha,hc⟩
 exact ⟨b,off,ha,fun j hj => hk.cell (hc j hj) (hS _ _ _ (nz_of (by omega) ha))⟩
theorem InOk.seg' {w W : World} {R g g1 : Nat} {x : InM} (h : InOk w R g x) (hs : Stp R g g1 w W) : SegI W x.2.2.1.1 x.2.2.1.2.1 x.2.2.1.2.2 x.2.2.2 :=
 h.seg.kept' hs.k (fun b off c hb => by have:=h.ne b off c hb; simp; omega)
theorem KindsOk.kept {S : Nat → Prop} {w w' : World} (h : KindsOk w) (hk : Kept S w w') (h0 : ¬ S 0) : KindsOk w':=fun j v hj => hk.cell (h j v hj) h0
theorem encIn_le {x : InM} (h : chkIn x = 0) : (encIn x).length ≤ 171:=by
 have:=chk_ok h
 have h16 : x.2.2.2.length ≤ 16:=by
  by_cases ht : tkV x.1 = 3
  ·exact (this.2.2.2.1 ht).2.1
  ·rw [this.2.2.2.2 ht]; simp
 have:=encB_len (tkV x.1) x.2.1 x.2.2.2 h16
 simp [encIn,encV]; omega
section
variable (R g cap : Nat) (bs : List Int) (ca : Option Addr) (cn cc : Nat) (most : Int) (A : Nat) (xs : List InM) (w : World)
theorem each_in (h : Wr w R g cap bs) (hb : bs.length + 300000000000 ≤ 1099511627776) (hn : cn ≤ 100000) (hR0 : R ≠ 0) (hg0 : g ≠ 0) (hk : KindsOk w) (hA : w.cell? ⟨A,0,none⟩ = some (cW R)) (hAR : A ≠ R) (hAg : A ≠ g) (hok : ∀ (j : Nat) x,xs[j]? = some x → InOk w R g x) (hl : xs.length = cn)
  (k : Nat) (hall : ∀ (j : Nat) x,xs[j]? = some x → j < k → chkIn x = 0) (j : Nat) (x : InM) (hx : xs[j]? = some x) (hjk : j < k) : EachIn R g w 142 #[.pointer (some ⟨A,0,none⟩)] bs cn xs encIn (fun _ _ => True) j x:=by
 intro ys W g1 cap1 aa ac _ _ hst hwr _ _
 have ho:=hok j x hx
 have hlt:=lt_of_get hx
 have hlen : ((xs.take j).flatMap encIn).length ≤ j * 171:=by
  have:=flat_le encIn 171 (xs.take j) (fun i y hi => by
   have hij : i < j:=by have:=lt_of_get hi; simp at this; omega
   rw [List.getElem?_take_of_lt hij] at hi
   exact encIn_le (hall i y hi (by omega)))
  rw [List.length_take] at this
  have e : min j xs.length = j:=by omega
  rwa [e] at this
 have hu:=uvar_len (cn : Int)
 refine (ask195_yes R g1 cap1 _ x.1 x.2.1 x.2.2.1.1 x.2.2.1.2.1 x.2.2.1.2.2 x.2.2.2 W A aa j ac hwr (by rw [List.length_append,List.length_append]; omega) (hk.kept hst.k (by simp; omega)) ho.r0 ho.r1 (ho.seg' hst) (hst.cell hA hAR hAg) (hall j x hx hjk)).mono ?_
 rintro e w' ⟨he,g',cap',hw',hs'⟩
 exact ⟨(x.1,x.2.1,x.2.2.1),he,trivial,g',cap',hw',hs'⟩
theorem code194_yes (h : Wr w R g cap bs) (hb : bs.length + 300000000000 ≤ 1099511627776) (hn : cn ≤ 100000) (hm : (cn : Int) ≤ most) (hR0 : R ≠ 0) (hg0 : g ≠ 0) (hk : KindsOk w) (hA : w.cell? ⟨A,0,none⟩ = some (cW R)) (hAR : A ≠ R) (hAg : A ≠ g) (hmem : AtIn w ca cn xs) (hne : ∀ b off c,nz cn ca = some ⟨b,off,c⟩ → b ≠ R ∧ b ≠ g) (hok : ∀ (j : Nat) x,xs[j]? = some x → InOk w R g x)
  (hx : firstE (fun _ x => chkIn x) [] xs = 0) :
  Calls Tryz.prog 141 #[cW R,.slice ca cn cc,.int .i64 most,.func (.func 142) #[] #[.pointer (some ⟨A,0,none⟩)]] w (fun e w' => ∃ (aa : Option Addr) (ac : Nat),e = .returned (.slice aa cn ac) ∧ ∃ g' cap',Wr w' R g' cap' (bs ++ (uvar cn ++ xs.flatMap encIn)) ∧ Stp R g g' w w'):=by
 have hall:=firstE_all (fun _ x => chkIn x) xs [] hx
 refine (list194_yes R g cap bs ca cn cc most 142 _ w xs encIn (fun _ _ => True) 171 h hn hm hmem hne (fun _ _ => rfl) (fun j x hj => encIn_le (hall j x hj)) (by omega) (by omega)
  (fun j x hj => each_in R g cap bs cn A xs w h hb hn hR0 hg0 hk hA hAR hAg hok hmem.1 (j + 1) (fun i y hi _ => hall i y hi) j x hj (by omega))).mono ?_
 rintro e w' ⟨aa,ac,ys,he,_,_,_,g',cap',_,hw',hs'⟩
 exact ⟨aa,ac,he,g',cap',by simpa [List.append_assoc] using hw',hs'⟩
theorem code194_no (h : Wr w R g cap bs) (hb : bs.length + 300000000000 ≤ 1099511627776) (hn : cn ≤ 100000) (hm : (cn : Int) ≤ most) (hR0 : R ≠ 0) (hg0 : g ≠ 0) (hk : KindsOk w) (hA : w.cell? ⟨A,0,none⟩ = some (cW R)) (hAR : A ≠ R) (hAg : A ≠ g) (hmem : AtIn w ca cn xs) (hne : ∀ b off c,nz cn ca = some ⟨b,off,c⟩ → b ≠ R ∧ b ≠ g) (hok : ∀ (j : Nat) x,xs[j]? = some x → InOk w R g x)
  (hx : firstE (fun _ x => chkIn x) [] xs ≠ 0) :
  Calls Tryz.prog 141 #[cW R,.slice ca cn cc,.int .i64 most,.func (.func 142) #[] #[.pointer (some ⟨A,0,none⟩)]] w (Throws R g (firstE (fun _ x => chkIn x) [] xs) w):=by
 obtain ⟨k,x,h1,h2,h3,h4⟩:=firstE_some (fun _ x => chkIn x) xs [] hx
 have hall:=firstE_all (fun _ x => chkIn x) (xs.take k) [] h2
 have hall' : ∀ (j : Nat) y,xs[j]? = some y → j < k → chkIn y = 0:=fun j y hj hjk => hall j y (by rw [List.getElem?_take_of_lt hjk]; exact hj)
 rw [h4]
 have hM : ∀ (j : Nat) y,xs[j]? = some y → (encIn y).length ≤ 100000000 ∨ True:=fun _ _ _ => .inr trivial
 refine list194_no R g cap bs ca cn cc most 142 _ w xs (fun y => if chkIn y = 0 then encIn y else []) (fun _ _ => True) 171 h hn hm hmem hne (fun _ _ => rfl) (fun j y hj => ?_) (by omega) (by omega) k x (chkIn x) h1 (fun j y hj hjk => ?_) ?_
 ·split
  ·exact encIn_le (by assumption)
  ·simp
 ·have he:=each_in R g cap bs cn A xs w h hb hn hR0 hg0 hk hA hAR hAg hok hmem.1 k hall' j y hj hjk
  intro ys W g1 cap1 aa ac q1 q2 hst hwr q3 q4
  have hfl : (xs.take j).flatMap (fun y => if chkIn y = 0 then encIn y else []) = (xs.take j).flatMap encIn:=by
   apply flat_congr
   intro z hz
   obtain ⟨i,hi,rfl⟩:=List.getElem_of_mem hz
   have hi' : i < j:=by simp at hi; omega
   have : chkIn ((xs.take j)[i]) = 0:=by
    apply hall' i _ _ (by omega)
    rw [List.getElem_take]
    exact List.getElem?_eq_getElem (by simp at hi; omega)
   rw [if_pos this]
  rw [hfl] at hwr
  refine (he ys W g1 cap1 aa ac q1 q2 hst hwr q3 q4).mono ?_
  rintro e w' ⟨y',e1,e2,g',cap',e3,e4⟩
  refine ⟨y',e1,e2,g',cap',?_,e4⟩
  have hy : (fun y => if chkIn y = 0 then encIn y else []) y = encIn y:=if_pos (hall' j y hj hjk)
  rw [hfl,hy]
  exact e3
 ·intro ys W g1 cap1 aa ac _ _ hst hwr _ _
  have ho:=hok k x h1
  exact ask195_no R g1 cap1 _ x.1 x.2.1 x.2.2.1.1 x.2.2.1.2.1 x.2.2.1.2.2 x.2.2.2 W A aa k ac hwr (hk.kept hst.k (by simp; omega)) ho.r0 ho.r1 (ho.seg' hst) (hst.cell hA hAR hAg) (show chkIn x ≠ 0 from h3)
end
theorem set_block {w : World} {b i : Nat} {cs : Array Value} {t : TypeId} {v : Value} (h : w.heap[b]? = some (.cells cs t)) (hi : i < cs.size) : (w.setCell ⟨b,i,none⟩ v).heap[b]? = some (.cells (cs.setIfInBounds i v) t):=by
 have hb : b < w.heap.size:=by
  rcases Nat.lt_or_ge b w.heap.size with hl | hl
  ·exact hl
  ·rw [Array.getElem?_eq_none hl] at h; cases h
 have hg : w.heap[b] = .cells cs t:=by rw [Array.getElem?_eq_getElem hb] at h; simpa using h
 simp [World.setCell,hb,Array.getElem_modify,hg]
theorem eight_cells {w : World} {b : Nat} {v0 v1 v2 v3 v4 v5 v6 v7 : Value} {t : TypeId} (h : w.heap[b]? = some (.cells #[v0,v1,v2,v3,v4,v5,v6,v7] t)) :
  (w.cell? ⟨b,0,none⟩ = some v0 ∧ w.cell? ⟨b,1,none⟩ = some v1 ∧ w.cell? ⟨b,2,none⟩ = some v2 ∧ w.cell? ⟨b,3,none⟩ = some v3 ∧ w.cell? ⟨b,4,none⟩ = some v4 ∧ w.cell? ⟨b,5,none⟩ = some v5 ∧ w.cell? ⟨b,6,none⟩ = some v6 ∧ w.cell? ⟨b,7,none⟩ = some v7) ∧
  (w.frozen? ⟨b,0,none⟩ = false ∧ w.frozen? ⟨b,1,none⟩ = false ∧ w.frozen? ⟨b,2,none⟩ = false ∧ w.frozen? ⟨b,3,none⟩ = false ∧ w.frozen? ⟨b,4,none⟩ = false ∧ w.frozen? ⟨b,5,none⟩ = false ∧ w.frozen? ⟨b,6,none⟩ = false ∧ w.frozen? ⟨b,7,none⟩ = false):=by
 simp [World.cell?,World.frozen?,h]
theorem ok_eq {α : Type} {xs ys : List α} (hl : ys.length ≤ xs.length) (h : ∀ (i : Nat) y,ys[i]? = some y → ∃ x,xs[i]? = some x ∧ y = x) : ys = xs.take ys.length:=by
 apply List.ext_getElem?
 intro i
 by_cases hi : i < ys.length
 ·rw [List.getElem?_take_of_lt hi]
  obtain ⟨x,h1,h2⟩:=h i ys[i] (List.getElem?_eq_getElem hi)
  rw [List.getElem?_eq_getElem hi,h1,h2]
 ·rw [List.getElem?_eq_none (by omega),List.getElem?_eq_none (by simp; omega)]
theorem row_sigs {w : World} {aa : Option Addr} {j ac : Nat} {ys : List Sg} (hl : ys.length = j) (hj : j ≤ 1099511627776) (h : w.ownsRow 0 55 2 (.slice aa j ac) j (ys.flatMap ocSig)) : SigsAt w aa j ys:=by
 refine ⟨hl,hj,?_⟩
 rcases Nat.eq_zero_or_pos j with h0 | h0
 ·exact .inl h0
 ·right
  obtain ⟨y,hy⟩ : ∃ y,ys[0]? = some y:=⟨_,List.getElem?_eq_getElem (by omega)⟩
  obtain ⟨B,hB,_⟩:=row_cell (oc:=ocSig) (t:=0) (u:=.string y.1) (fun _ => rfl) h hy rfl
  refine ⟨B,0,hB,fun i x hi => ?_⟩
  obtain ⟨B1,hB1,c1⟩:=row_cell (oc:=ocSig) (t:=0) (u:=.string x.1) (fun _ => rfl) h hi rfl
  obtain ⟨B2,hB2,c2⟩:=row_cell (oc:=ocSig) (t:=1) (u:=.string x.2) (fun _ => rfl) h hi rfl
  rw [hB] at hB1 hB2
  simp at hB1 hB2
  subst hB1 hB2
  exact ⟨by simpa using c1,by simpa using c2⟩
section
variable (R g cap : Nat) (bs : List Int) (ha : Option Addr) (n hc : Nat) (A : Nat) (w : World)
theorem each_sig (xs : List Sg) (h : Wr w R g cap bs) (hb : bs.length + 300000000000 ≤ 1099511627776) (hn : n ≤ 100000) (hA : w.cell? ⟨A,0,none⟩ = some (cW R)) (hAR : A ≠ R) (hAg : A ≠ g) (hl : xs.length = n) (enc : Sg → List Int) (k : Nat) (henc : ∀ (i : Nat) y,xs[i]? = some y → i < k → enc y = encSig y) (hall : ∀ (i : Nat) y,xs[i]? = some y → i < k → chkSig (xs.take i) y = 0)
  (j : Nat) (x : Sg) (hx : xs[j]? = some x) (hjk : j < k) : EachSig R g w 100 #[.pointer (some ⟨A,0,none⟩)] bs n xs enc (fun x y => y = x) j x:=by
 intro ys W g1 cap1 aa ac hyl hys hst hwr hrow hab
 have hlt:=lt_of_get hx
 have hye:=ok_eq (by omega) hys
 rw [hyl] at hye
 have hchk:=hall j x hx hjk
 have hok:=chkSig_ok hchk
 have hlen : ((xs.take j).flatMap enc).length ≤ j * 36:=by
  have:=flat_le enc 36 (xs.take j) (fun i y hi => by
   have hij : i < j:=by have:=lt_of_get hi; simp at this; omega
   rw [List.getElem?_take_of_lt hij] at hi
   rw [henc i y hi (by omega)]
   have:=chkSig_ok (hall i y hi (by omega))
   exact encSig_le y this.1 this.2.2.1)
  rw [List.length_take] at this
  have e : min j xs.length = j:=by omega
  rwa [e] at this
 have hu:=uvar_len (n : Int)
 have hRs:=hst.size
 refine (clo132_yes R g1 cap1 _ x aa j ac A W hwr (hst.cell hA hAR hAg) (fun y => y = x) (bs ++ uvar n ++ (xs.take j).flatMap enc ++ enc x) (fun W2 hb2 => ?_)).mono ?_
 ·have hsig:=(row_sigs hyl (by omega) hrow).later hb2
  rw [hye] at hsig
  refine (sig133_yes R g1 cap1 _ x.1 x.2 aa j ac (xs.take j) W2 (hwr.later hb2) (by rw [List.length_append,List.length_append]; omega) hsig (fun b off c hbb => ⟨?_,(hab _ hbb).2⟩) hchk).mono ?_
  ·have h1:=(hab _ hbb).1
   have h2:=h.lt
   simp only at h1
   omega
  ·rintro e w' ⟨he,g',cap',hw',hs'⟩
   refine ⟨x,he,rfl,g',cap',?_,hs'⟩
   rw [henc j x hx hjk]
   exact hw'
 ·rintro e w' ⟨y,he,hy,g',cap',hw',hs'⟩
  exact ⟨y,he,hy,g',cap',hw',hs'⟩
theorem types_yes (xs : List Sg) (h : Wr w R g cap bs) (hb : bs.length + 300000000000 ≤ 1099511627776) (hA : w.cell? ⟨A,0,none⟩ = some (cW R)) (hAR : A ≠ R) (hAg : A ≠ g) (hmem : AtSig w ha n xs) (hne : ∀ b off c,ha = some ⟨b,off,c⟩ → b ≠ R ∧ b ≠ g) (hx : listE chkSig 64 xs = 0) :
  Calls Tryz.prog 99 #[cW R,.slice ha n hc,.int .i64 64,.func (.func 100) #[] #[.pointer (some ⟨A,0,none⟩)]] w fun e w' => ∃ (aa : Option Addr) (ac : Nat),e = .returned (.slice aa n ac) ∧ SigsAt w' aa n xs ∧ ∃ g' cap',(∀ b,aa = some b → w.heap.size ≤ b.block ∧ b.block ≠ g' ∧ b.block < w'.heap.size) ∧ Wr w' R g' cap' (bs ++ (uvar n ++ xs.flatMap encSig)) ∧ Stp R g g' w w':=by
 have hl:=hmem.1
 unfold listE at hx
 split at hx
 ·cases hx
 rename_i hm
 have hall:=firstE_all chkSig xs [] hx
 have hall' : ∀ (i : Nat) y,xs[i]? = some y → chkSig (xs.take i) y = 0:=fun i y hi => by simpa using hall i y hi
 refine (list131_yes R g cap bs ha n hc 64 100 _ w xs encSig (fun x y => y = x) 36 h (by omega) (by omega) hmem hne (fun _ _ => rfl) (fun j x hj => by have:=chkSig_ok (hall' j x hj); exact encSig_le x this.1 this.2.2.1) (by omega) (by omega)
  (fun j x hj => each_sig R g cap bs n A w xs h hb (by omega) hA hAR hAg hl encSig (j + 1) (fun _ _ _ _ => rfl) (fun i y hi _ => hall' i y hi) j x hj (by omega))).mono ?_
 rintro e w' ⟨aa,ac,ys,he,hyl,hys,hrow,g',cap',hab,hw',hs'⟩
 have hye:=ok_eq (by omega) hys
 rw [hyl,List.take_of_length_le (by omega)] at hye
 subst hye
 exact ⟨aa,ac,he,row_sigs hyl (by omega) hrow,g',cap',fun b hb' => ⟨(hab b hb').1,(hab b hb').2,lt_of_ownS hrow (own_addr' hrow hb')⟩,by simpa [List.append_assoc] using hw',hs'⟩
theorem types_no (xs : List Sg) (h : Wr w R g cap bs) (hb : bs.length + 300000000000 ≤ 1099511627776) (hA : w.cell? ⟨A,0,none⟩ = some (cW R)) (hAR : A ≠ R) (hAg : A ≠ g) (hmem : AtSig w ha n xs) (hne : ∀ b off c,ha = some ⟨b,off,c⟩ → b ≠ R ∧ b ≠ g) (hx : listE chkSig 64 xs ≠ 0) :
  Calls Tryz.prog 99 #[cW R,.slice ha n hc,.int .i64 64,.func (.func 100) #[] #[.pointer (some ⟨A,0,none⟩)]] w (Throws R g (listE chkSig 64 xs) w):=by
 have hl:=hmem.1
 unfold listE at hx ⊢
 by_cases hm : (64 : Int) < xs.length
 ·rw [if_pos hm]
  exact list131_many R g cap bs ha n hc 64 _ w h (by omega)
 rw [if_neg hm] at hx ⊢
 obtain ⟨k,x,h1,h2,h3,h4⟩:=firstE_some chkSig xs [] hx
 have hall:=firstE_all chkSig (xs.take k) [] h2
 have hall' : ∀ (i : Nat) y,xs[i]? = some y → i < k → chkSig (xs.take i) y = 0:=fun i y hi hik => by
  have:=hall i y (by rw [List.getElem?_take_of_lt hik]; exact hi)
  rw [List.take_take] at this
  have e : min i k = i:=by omega
  rw [e] at this
  simpa using this
 rw [h4]
 simp only [List.nil_append] at h3 h4 ⊢
 refine list131_no R g cap bs ha n hc 64 100 _ w xs (fun y => if y.1.size ≤ 8 ∧ y.2.size ≤ 8 then encSig y else []) (fun x y => y = x) 36 h (by omega) (by omega) hmem hne (fun _ _ => rfl) (fun j y hj => ?_) (by omega) (by omega) k x _ h1
  (fun j y hj hjk => each_sig R g cap bs n A w xs h hb (by omega) hA hAR hAg hl _ k (fun i z hi hik => ?_) hall' j y hj hjk) ?_
 ·show (if y.1.size ≤ 8 ∧ y.2.size ≤ 8 then encSig y else []).length ≤ 36
  split
  ·rename_i hh; exact encSig_le y hh.1 hh.2
  ·simp
 ·have:=chkSig_ok (hall' i z hi hik)
  exact if_pos ⟨this.1,this.2.2.1⟩
 ·intro ys W g1 cap1 aa ac hyl hys hst hwr hrow hab
  have hlt:=lt_of_get h1
  have hye:=ok_eq (by omega) hys
  rw [hyl] at hye
  refine clo132_no R g1 cap1 _ x aa k ac A W hwr (hst.cell hA hAR hAg) _ (fun W2 hb2 => ?_)
  have hsig:=(row_sigs hyl (by omega) hrow).later hb2
  rw [hye] at hsig
  have hbb2 : ((xs.take k).flatMap (fun y => if y.1.size ≤ 8 ∧ y.2.size ≤ 8 then encSig y else [])).length ≤ k * 36:=by
   have:=flat_le (fun y : Sg => if y.1.size ≤ 8 ∧ y.2.size ≤ 8 then encSig y else []) 36 (xs.take k) (fun i y hi => by
    show (if y.1.size ≤ 8 ∧ y.2.size ≤ 8 then encSig y else []).length ≤ 36
    split
    ·rename_i hh; exact encSig_le y hh.1 hh.2
    ·simp)
   rw [List.length_take] at this
   have e : min k xs.length = k:=by omega
   rwa [e] at this
  have hu:=uvar_len (n : Int)
  exact sig133_no R g1 cap1 _ x.1 x.2 aa k ac (xs.take k) W2 (hwr.later hb2) (by rw [List.length_append,List.length_append]; omega) hsig (fun b off c hbb => ⟨by have q1:=(hab _ hbb).1; have q2:=h.lt; simp only at q1; omega,(hab _ hbb).2⟩) h3
end
theorem each_hosts (R g cap : Nat) (bs : List Int) (n : Nat) (A : Nat) (w : World) (O : Nat) (ta : Option Addr) (tn tc : Nat) (xs : List Int) (h : Wr w R g cap bs) (hb : bs.length + 300000000000 ≤ 1099511627776) (hn : n ≤ 1000) (hA : w.cell? ⟨A,0,none⟩ = some (cW R)) (hAR : A ≠ R) (hAg : A ≠ g) (hO : w.cell? ⟨O,0,none⟩ = some (.slice ta tn tc)) (hOR : O ≠ R) (hOg : O ≠ g) (htn : tn ≤ 100000) (hr : ∀ (j : Nat) x,xs[j]? = some x → -9223372036854775808 ≤ x ∧ x < 9223372036854775808) (hl : xs.length = n) (e : Int → List Int) (k : Nat) (he : ∀ (i : Nat) y,xs[i]? = some y → i < k → e y = (fun x => uvar x) y) (hall : ∀ (i : Nat) y,xs[i]? = some y → i < k → (fun (_ : List Int) x => chkIdx tn x) (xs.take i) y = 0)
  (j : Nat) (x : Int) (hx : xs[j]? = some x) (hjk : j < k) : EachNu R g w 103 #[.pointer (some ⟨A,0,none⟩),.pointer (some ⟨O,0,none⟩)] bs n xs e (fun x y => y = x) j x:=by
 intro ys W g1 cap1 aa ac hyl hys hst hwr hrow hab
 have hlt:=lt_of_get hx
 have hchk:=hall j x hx hjk
 try simp only at hchk
 have henc:=he j x hx hjk
 have hlen : ((xs.take j).flatMap e).length ≤ j * 10:=by
  have:=flat_le e 10 (xs.take j) (fun i y hi => by
   have hij : i < j:=by have:=lt_of_get hi; simp at this; omega
   rw [List.getElem?_take_of_lt hij] at hi
   rw [he i y hi (by omega)]
   have hc:=hall i y hi (by omega)
   exact (uvar_len y).2)
  rw [List.length_take] at this
  have e1 : min j xs.length = j:=by omega
  rwa [e1] at this
 have hu:=uvar_len (n : Int)
 have hbb : (bs ++ uvar n ++ (xs.take j).flatMap e).length ≤ bs.length + 10 + 1000 * 10:=by
  rw [List.length_append,List.length_append]
  have : j * 10 ≤ 1000 * 10:=Nat.mul_le_mul_right _ (by omega)
  omega
 have hc' : 0 ≤ x ∧ x < tn:=by
  unfold chkIdx at hchk
  split at hchk
  ·cases hchk
  ·omega
 refine (clo135_yes R g1 cap1 _ x aa j ac A O ta tn tc W hwr (by omega) (hst.cell hA hAR hAg) (hst.cell hO hOR hOg) hc'.1 hc'.2 htn).mono ?_
 rintro e' w' ⟨he',g',cap',hw',hs'⟩
 refine ⟨x,he',rfl,g',cap',?_,hs'⟩
 rw [henc]
 exact hw'
theorem hosts_yes (R g cap : Nat) (bs : List Int) (ha : Option Addr) (n hc : Nat) (A : Nat) (w : World) (O : Nat) (ta : Option Addr) (tn tc : Nat) (xs : List Int) (h : Wr w R g cap bs) (hb : bs.length + 300000000000 ≤ 1099511627776) (hA : w.cell? ⟨A,0,none⟩ = some (cW R)) (hAR : A ≠ R) (hAg : A ≠ g) (hO : w.cell? ⟨O,0,none⟩ = some (.slice ta tn tc)) (hOR : O ≠ R) (hOg : O ≠ g) (htn : tn ≤ 100000) (hr : ∀ (j : Nat) x,xs[j]? = some x → -9223372036854775808 ≤ x ∧ x < 9223372036854775808) (hmem : AtNu w ha n xs) (hne : ∀ b off c,ha = some ⟨b,off,c⟩ → b ≠ R ∧ b ≠ g) (hx : listE (fun (_ : List Int) x => chkIdx tn x) 32 xs = 0) :
  Calls Tryz.prog 102 #[cW R,.slice ha n hc,.int .i64 32,.func (.func 103) #[] #[.pointer (some ⟨A,0,none⟩),.pointer (some ⟨O,0,none⟩)]] w fun e w' => ∃ (aa : Option Addr) (ac : Nat) (ys : List Int),e = .returned (.slice aa n ac) ∧ ys.length = n ∧ (∀ (i : Nat) y,ys[i]? = some y → ∃ x,xs[i]? = some x ∧ (fun x y => y = x) x y) ∧ ∃ g' cap',Wr w' R g' cap' (bs ++ (uvar n ++ xs.flatMap (fun x => uvar x))) ∧ Stp R g g' w w':=by
 have hl:=hmem.1
 unfold listE at hx
 split at hx
 ·cases hx
 rename_i hm
 have hall:=firstE_all (fun (_ : List Int) x => chkIdx tn x) xs [] hx
 have hall' : ∀ (i : Nat) y,xs[i]? = some y → (fun (_ : List Int) x => chkIdx tn x) (xs.take i) y = 0:=fun i y hi => hall i y hi
 refine (list134_yes R g cap bs ha n hc 32 103 _ w xs (fun x => uvar x) (fun x y => y = x) 10 h (by omega) (by omega) hmem hne (fun _ _ => rfl) (fun j x hj => by
   have hc:=hall' j x hj
   exact (uvar_len x).2) (by omega) (by omega)
  (fun j x hj => each_hosts R g cap bs n A w O ta tn tc xs h hb (by omega) hA hAR hAg hO hOR hOg htn hr hl (fun x => uvar x) (j + 1) (fun _ _ _ _ => rfl) (fun i y hi _ => hall' i y hi) j x hj (by omega))).mono ?_
 rintro e w' ⟨aa,ac,ys,he,hyl,hys,hrow,g',cap',hab,hw',hs'⟩
 exact ⟨aa,ac,ys,he,hyl,hys,g',cap',by simpa [List.append_assoc] using hw',hs'⟩
theorem hosts_no (R g cap : Nat) (bs : List Int) (ha : Option Addr) (n hc : Nat) (A : Nat) (w : World) (O : Nat) (ta : Option Addr) (tn tc : Nat) (xs : List Int) (h : Wr w R g cap bs) (hb : bs.length + 300000000000 ≤ 1099511627776) (hA : w.cell? ⟨A,0,none⟩ = some (cW R)) (hAR : A ≠ R) (hAg : A ≠ g) (hO : w.cell? ⟨O,0,none⟩ = some (.slice ta tn tc)) (hOR : O ≠ R) (hOg : O ≠ g) (htn : tn ≤ 100000) (hr : ∀ (j : Nat) x,xs[j]? = some x → -9223372036854775808 ≤ x ∧ x < 9223372036854775808) (hmem : AtNu w ha n xs) (hne : ∀ b off c,ha = some ⟨b,off,c⟩ → b ≠ R ∧ b ≠ g) (hx : listE (fun (_ : List Int) x => chkIdx tn x) 32 xs ≠ 0) :
  Calls Tryz.prog 102 #[cW R,.slice ha n hc,.int .i64 32,.func (.func 103) #[] #[.pointer (some ⟨A,0,none⟩),.pointer (some ⟨O,0,none⟩)]] w (Throws R g (listE (fun (_ : List Int) x => chkIdx tn x) 32 xs) w):=by
 have hl:=hmem.1
 unfold listE at hx ⊢
 by_cases hm : (32 : Int) < xs.length
 ·rw [if_pos hm]
  exact list134_many R g cap bs ha n hc 32 _ w h (by omega)
 rw [if_neg hm] at hx ⊢
 obtain ⟨k,x,h1,h2,h3,h4⟩:=firstE_some (fun (_ : List Int) x => chkIdx tn x) xs [] hx
 have hall:=firstE_all (fun (_ : List Int) x => chkIdx tn x) (xs.take k) [] h2
 have hall' : ∀ (i : Nat) y,xs[i]? = some y → i < k → (fun (_ : List Int) x => chkIdx tn x) (xs.take i) y = 0:=fun i y hi hik => by
  have hh:=hall i y (by rw [List.getElem?_take_of_lt hik]; exact hi)
  have e : (xs.take k).take i = xs.take i:=by rw [List.take_take]; congr 1; omega
  try simp only [List.nil_append,e] at hh
  exact hh
 rw [h4]
 try simp only [List.nil_append] at h3 ⊢
 obtain ⟨E,hE⟩ : ∃ E : Int → List Int,E = fun y => if ((fun x => uvar x) y).length ≤ 10 then (fun x => uvar x) y else []:=⟨_,rfl⟩
 have hEl : ∀ y,(E y).length ≤ 10:=fun y => by
  rw [hE]
  show (if ((fun x => uvar x) y).length ≤ 10 then (fun x => uvar x) y else []).length ≤ 10
  split
  ·assumption
  ·simp
 have hEe : ∀ (i : Nat) z,xs[i]? = some z → i < k → E z = (fun x => uvar x) z:=fun i z hi hik => by
  have hc:=hall' i z hi hik
  have hq : ((fun x => uvar x) z).length ≤ 10:=by
   exact (uvar_len z).2
  rw [hE]
  exact if_pos hq
 refine list134_no R g cap bs ha n hc 32 103 _ w xs E (fun x y => y = x) 10 h (by omega) (by omega) hmem hne (fun _ _ => rfl) (fun j y hj => hEl y) (by omega) (by omega) k x _ h1
  (fun j y hj hjk => each_hosts R g cap bs n A w O ta tn tc xs h hb (by omega) hA hAR hAg hO hOR hOg htn hr hl E k hEe hall' j y hj hjk) ?_
 intro ys W g1 cap1 aa ac hyl hys hst hwr hrow hab
 have hlt:=lt_of_get h1
 have hu:=uvar_len (n : Int)
 have hbb : (bs ++ uvar n ++ (xs.take k).flatMap E).length ≤ bs.length + 10 + 1000 * 10:=by
  have hf:=flat_le E 10 (xs.take k) (fun i y _ => hEl y)
  rw [List.length_take] at hf
  have e1 : min k xs.length = k:=by omega
  rw [e1] at hf
  rw [List.length_append,List.length_append]
  have : k * 10 ≤ 1000 * 10:=Nat.mul_le_mul_right _ (by omega)
  omega
 have hbad : x < 0 ∨ (tn : Int) ≤ x:=by
  unfold chkIdx at h3
  by_cases hq : x < 0 ∨ (tn : Int) ≤ x
  ·exact hq
  ·rw [if_neg hq] at h3; exact absurd rfl h3
 have hq30 : chkIdx tn x = 30:=by unfold chkIdx; rw [if_pos hbad]
 rw [hq30]
 exact clo135_no R g1 cap1 _ x aa k ac A O ta tn tc W hwr (hst.cell hA hAR hAg) (hst.cell hO hOR hOg) (hr k x h1).1 (hr k x h1).2 hbad htn
theorem each_globals (R g cap : Nat) (bs : List Int) (n : Nat) (A : Nat) (w : World) (xs : List Gl) (h : Wr w R g cap bs) (hb : bs.length + 300000000000 ≤ 1099511627776) (hn : n ≤ 1000) (hA : w.cell? ⟨A,0,none⟩ = some (cW R)) (hAR : A ≠ R) (hAg : A ≠ g) (hr : ∀ (j : Nat) x,xs[j]? = some x → 0 ≤ x.1 ∧ x.1 ≤ 255 ∧ 0 ≤ x.2.2 ∧ x.2.2 < 18446744073709551616) (hl : xs.length = n) (e : Gl → List Int) (k : Nat) (he : ∀ (i : Nat) y,xs[i]? = some y → i < k → e y = (encGl) y) (hall : ∀ (i : Nat) y,xs[i]? = some y → i < k → (fun (_ : List Gl) x => chkGl x) (xs.take i) y = 0)
  (j : Nat) (x : Gl) (hx : xs[j]? = some x) (hjk : j < k) : EachGl R g w 106 #[.pointer (some ⟨A,0,none⟩)] bs n xs e (fun x y => y = x) j x:=by
 intro ys W g1 cap1 aa ac hyl hys hst hwr hrow hab
 have hlt:=lt_of_get hx
 have hchk:=hall j x hx hjk
 try simp only at hchk
 have henc:=he j x hx hjk
 have hlen : ((xs.take j).flatMap e).length ≤ j * 12:=by
  have:=flat_le e 12 (xs.take j) (fun i y hi => by
   have hij : i < j:=by have:=lt_of_get hi; simp at this; omega
   rw [List.getElem?_take_of_lt hij] at hi
   rw [he i y hi (by omega)]
   have hc:=hall i y hi (by omega)
   exact encGl_le y)
  rw [List.length_take] at this
  have e1 : min j xs.length = j:=by omega
  rwa [e1] at this
 have hu:=uvar_len (n : Int)
 have hbb : (bs ++ uvar n ++ (xs.take j).flatMap e).length ≤ bs.length + 10 + 1000 * 12:=by
  rw [List.length_append,List.length_append]
  have : j * 12 ≤ 1000 * 12:=Nat.mul_le_mul_right _ (by omega)
  omega
 have hrx:=hr j x hx
 have hc' : isL x.1 = true ∧ fitsB x.2.2 x.1 = true:=by
  unfold chkGl at hchk
  split at hchk
  ·cases hchk
  ·split at hchk
   ·cases hchk
   ·simp_all
 have hv : x.1 = 119 → x.2.2 < 4294967296:=fun h119 => by
  have:=hc'.2
  rw [h119] at this
  simpa [fitsB] using this
 refine (clo138_yes R g1 cap1 _ x aa j ac A W hwr (hst.cell hA hAR hAg) (fun y => y = x) (bs ++ uvar n ++ (xs.take j).flatMap e ++ e x) (fun W2 hb2 => ?_)).mono ?_
 ·refine (glob139_yes R g1 cap1 _ x.1 x.2.2 x.2.1 W2 (hwr.later hb2) (by omega) hrx.1 hrx.2.1 hrx.2.2.1 hrx.2.2.2 hc'.1 hv).mono ?_
  rintro e' w' ⟨he',g',cap',hw',hs'⟩
  refine ⟨x,he',rfl,g',cap',?_,hs'⟩
  rw [henc]
  exact hw'
 ·rintro e' w' ⟨y,he',hy,g',cap',hw',hs'⟩
  exact ⟨y,he',hy,g',cap',hw',hs'⟩
theorem globals_yes (R g cap : Nat) (bs : List Int) (ha : Option Addr) (n hc : Nat) (A : Nat) (w : World) (xs : List Gl) (h : Wr w R g cap bs) (hb : bs.length + 300000000000 ≤ 1099511627776) (hA : w.cell? ⟨A,0,none⟩ = some (cW R)) (hAR : A ≠ R) (hAg : A ≠ g) (hr : ∀ (j : Nat) x,xs[j]? = some x → 0 ≤ x.1 ∧ x.1 ≤ 255 ∧ 0 ≤ x.2.2 ∧ x.2.2 < 18446744073709551616) (hmem : AtGl w ha n xs) (hne : ∀ b off c,ha = some ⟨b,off,c⟩ → b ≠ R ∧ b ≠ g) (hx : listE (fun (_ : List Gl) x => chkGl x) 64 xs = 0) :
  Calls Tryz.prog 105 #[cW R,.slice ha n hc,.int .i64 64,.func (.func 106) #[] #[.pointer (some ⟨A,0,none⟩)]] w fun e w' => ∃ (aa : Option Addr) (ac : Nat) (ys : List Gl),e = .returned (.slice aa n ac) ∧ ys.length = n ∧ (∀ (i : Nat) y,ys[i]? = some y → ∃ x,xs[i]? = some x ∧ (fun x y => y = x) x y) ∧ ∃ g' cap',Wr w' R g' cap' (bs ++ (uvar n ++ xs.flatMap (encGl))) ∧ Stp R g g' w w':=by
 have hl:=hmem.1
 unfold listE at hx
 split at hx
 ·cases hx
 rename_i hm
 have hall:=firstE_all (fun (_ : List Gl) x => chkGl x) xs [] hx
 have hall' : ∀ (i : Nat) y,xs[i]? = some y → (fun (_ : List Gl) x => chkGl x) (xs.take i) y = 0:=fun i y hi => hall i y hi
 refine (list137_yes R g cap bs ha n hc 64 106 _ w xs (encGl) (fun x y => y = x) 12 h (by omega) (by omega) hmem hne (fun _ _ => rfl) (fun j x hj => by
   have hc:=hall' j x hj
   exact encGl_le x) (by omega) (by omega)
  (fun j x hj => each_globals R g cap bs n A w xs h hb (by omega) hA hAR hAg hr hl (encGl) (j + 1) (fun _ _ _ _ => rfl) (fun i y hi _ => hall' i y hi) j x hj (by omega))).mono ?_
 rintro e w' ⟨aa,ac,ys,he,hyl,hys,hrow,g',cap',hab,hw',hs'⟩
 exact ⟨aa,ac,ys,he,hyl,hys,g',cap',by simpa [List.append_assoc] using hw',hs'⟩
theorem globals_no (R g cap : Nat) (bs : List Int) (ha : Option Addr) (n hc : Nat) (A : Nat) (w : World) (xs : List Gl) (h : Wr w R g cap bs) (hb : bs.length + 300000000000 ≤ 1099511627776) (hA : w.cell? ⟨A,0,none⟩ = some (cW R)) (hAR : A ≠ R) (hAg : A ≠ g) (hr : ∀ (j : Nat) x,xs[j]? = some x → 0 ≤ x.1 ∧ x.1 ≤ 255 ∧ 0 ≤ x.2.2 ∧ x.2.2 < 18446744073709551616) (hmem : AtGl w ha n xs) (hne : ∀ b off c,ha = some ⟨b,off,c⟩ → b ≠ R ∧ b ≠ g) (hx : listE (fun (_ : List Gl) x => chkGl x) 64 xs ≠ 0) :
  Calls Tryz.prog 105 #[cW R,.slice ha n hc,.int .i64 64,.func (.func 106) #[] #[.pointer (some ⟨A,0,none⟩)]] w (Throws R g (listE (fun (_ : List Gl) x => chkGl x) 64 xs) w):=by
 have hl:=hmem.1
 unfold listE at hx ⊢
 by_cases hm : (64 : Int) < xs.length
 ·rw [if_pos hm]
  exact list137_many R g cap bs ha n hc 64 _ w h (by omega)
 rw [if_neg hm] at hx ⊢
 obtain ⟨k,x,h1,h2,h3,h4⟩:=firstE_some (fun (_ : List Gl) x => chkGl x) xs [] hx
 have hall:=firstE_all (fun (_ : List Gl) x => chkGl x) (xs.take k) [] h2
 have hall' : ∀ (i : Nat) y,xs[i]? = some y → i < k → (fun (_ : List Gl) x => chkGl x) (xs.take i) y = 0:=fun i y hi hik => by
  have hh:=hall i y (by rw [List.getElem?_take_of_lt hik]; exact hi)
  have e : (xs.take k).take i = xs.take i:=by rw [List.take_take]; congr 1; omega
  try simp only [List.nil_append,e] at hh
  exact hh
 rw [h4]
 try simp only [List.nil_append] at h3 ⊢
 obtain ⟨E,hE⟩ : ∃ E : Gl → List Int,E = fun y => if ((encGl) y).length ≤ 12 then (encGl) y else []:=⟨_,rfl⟩
 have hEl : ∀ y,(E y).length ≤ 12:=fun y => by
  rw [hE]
  show (if ((encGl) y).length ≤ 12 then (encGl) y else []).length ≤ 12
  split
  ·assumption
  ·simp
 have hEe : ∀ (i : Nat) z,xs[i]? = some z → i < k → E z = (encGl) z:=fun i z hi hik => by
  have hc:=hall' i z hi hik
  have hq : ((encGl) z).length ≤ 12:=by
   exact encGl_le z
  rw [hE]
  exact if_pos hq
 refine list137_no R g cap bs ha n hc 64 106 _ w xs E (fun x y => y = x) 12 h (by omega) (by omega) hmem hne (fun _ _ => rfl) (fun j y hj => hEl y) (by omega) (by omega) k x _ h1
  (fun j y hj hjk => each_globals R g cap bs n A w xs h hb (by omega) hA hAR hAg hr hl E k hEe hall' j y hj hjk) ?_
 intro ys W g1 cap1 aa ac hyl hys hst hwr hrow hab
 have hlt:=lt_of_get h1
 have hu:=uvar_len (n : Int)
 have hbb : (bs ++ uvar n ++ (xs.take k).flatMap E).length ≤ bs.length + 10 + 1000 * 12:=by
  have hf:=flat_le E 12 (xs.take k) (fun i y _ => hEl y)
  rw [List.length_take] at hf
  have e1 : min k xs.length = k:=by omega
  rw [e1] at hf
  rw [List.length_append,List.length_append]
  have : k * 12 ≤ 1000 * 12:=Nat.mul_le_mul_right _ (by omega)
  omega
 have hrx:=hr k x h1
 refine clo138_no R g1 cap1 _ x aa k ac A W hwr (hst.cell hA hAR hAg) _ (fun W2 hb2 => ?_)
 unfold chkGl at h3 ⊢
 by_cases c1 : isL x.1 = false
 ·rw [if_pos c1]
  exact glob139_15 R g1 cap1 _ x.1 x.2.2 x.2.1 W2 (hwr.later hb2) c1
 rw [if_neg c1] at h3 ⊢
 by_cases c2 : fitsB x.2.2 x.1 = false
 ·rw [if_pos c2]
  have h119 : x.1 = 119:=by
   have c1' : isL x.1 = true:=by simpa using c1
   simp [isL] at c1'
   rcases c1' with h | h
   ·exact h
   ·rw [h] at c2; simp [fitsB] at c2
  rw [h119] at c2 ⊢
  exact glob139_17 R g1 cap1 _ x.2.2 x.2.1 W2 (hwr.later hb2) (by omega) hrx.2.2.1 hrx.2.2.2 (by simp [fitsB] at c2; omega)
 ·rw [if_neg c2] at h3; exact absurd rfl h3
end Go.Proofs.YtepcmfegggdjfaaGreatDoor

/-
  Texts Fc Fd.
-/
import Derived.Laws.BytesArg
import Derived.Test.YtmgjhfookhaajaaGreatDoorQ04
set_option linter.unusedVariables false
set_option maxRecDepth 100000
set_option maxHeartbeats 16000000
namespace Go.Proofs.YtmgjhfookhaajaaGreatDoor
open Go.RowKit
def PB (x : PgM) : Prop:=x.1.2.1 ≤ 1099511627776 ∧ ∀ z ∈ x.2,0 ≤ z ∧ z ≤ 255
def FB (x : FrM) : Prop:=x.2.2.1.1.2.1 ≤ 1099511627776 ∧ x.2.2.2.1.2.1 ≤ 1099511627776
def PE (w : World) (x : PgM) : Prop:=SI .u8 w x.1.1 x.1.2.1 x.2
theorem PE.later {w w' : World} {x : PgM} (h : PE w x) (hb : Below w.heap.size w w') : PE w' x:=SI.later h hb
theorem convS (a : Option Addr) (n c : Nat) (l : List Int) (w : World) (h : SI .u8 w a n l) : (convert 44 9 (.slice a n c)).run Tryz.prog w = .ok (.string (strOfNums l)) w:=by
 obtain ⟨hl,h⟩:=h
 by_cases h0 : n = 0
 ·subst h0
  obtain rfl:=List.eq_nil_of_length_eq_zero hl
  cases a with
  | none => exact run_convert_bytes_nil w 44 5 Tryz.underlying44 Tryz.underlying5 0 c 9 Tryz.underlying9
  | some ad =>
   have hl : (loadCells ad 0).run Tryz.prog w = .ok ([] : List Value).toArray w:=run_loadCells_list (P:=Tryz.prog) w ad [] (fun j v hj => by simp at hj)
   rw [run_convert_bytes_string w 44 9 5 _ 0 c Tryz.underlying44 Tryz.underlying5 Tryz.underlying9,run_bytesToString w _ 0 c [] hl]
   rfl
 ·obtain ⟨b,off,rfl,hc⟩:=h.resolve_left h0
  refine run_convert_bytes_arg w 44 5 Tryz.underlying44 Tryz.underlying5 b off n c l hl (fun i hi => ?_) 9 Tryz.underlying9
  have hx : l[i]? = some (l.getD i 0):=by rw [List.getD_eq_getElem?_getD,List.getElem?_eq_getElem (by omega)]; rfl
  exact hc i _ hx
theorem str_inj : ∀ {l1 l2 : List Int},(∀ z ∈ l1,0 ≤ z ∧ z ≤ 255) → (∀ z ∈ l2,0 ≤ z ∧ z ≤ 255) → (l1.map fun n => UInt8.ofNat n.toNat) = (l2.map fun n => UInt8.ofNat n.toNat) → l1 = l2
 | [],[],_,_,_ => rfl
 | [],y :: l2,_,_,h => by simp at h
 | x :: l1,[],_,_,h => by simp at h
 | x :: l1,y :: l2,h1,h2,h => by
  simp only [List.map_cons,List.cons.injEq] at h
  have hx:=h1 x (by simp)
  have hy:=h2 y (by simp)
  have e:=congrArg UInt8.toNat h.1
  rw [UInt8.toNat_ofNat',UInt8.toNat_ofNat',Nat.mod_eq_of_lt (by omega),Nat.mod_eq_of_lt (by omega)] at e
  rw [str_inj (fun z hz => h1 z (by simp [hz])) (fun z hz => h2 z (by simp [hz])) h.2]
  congr 1
  omega
theorem lE_int {l1 l2 : List Int} : lE iE l1 l2 = decide (l1 = l2):=by
 by_cases h : l1 = l2
 ·subst h
  rw [lE_yes rfl (fun i x y hx hy => by rw [hx] at hy; injection hy with e; simp [iE,e])]
  simp
 ·rw [decide_eq_false h]
  cases hv : lE iE l1 l2 with
  | false => rfl
  | true =>
   exfalso
   apply h
   unfold lE at hv
   rw [Bool.and_eq_true] at hv
   have hl : l1.length = l2.length:=by simpa using hv.1
   apply List.ext_getElem hl
   intro i hi hi2
   have:=List.all_eq_true.1 hv.2 i (List.mem_range.2 hi)
   rw [List.getElem?_eq_getElem hi,List.getElem?_eq_getElem hi2] at this
   simpa [iE] using this
theorem str_eq (l1 l2 : List Int) (r1 : ∀ z ∈ l1,0 ≤ z ∧ z ≤ 255) (r2 : ∀ z ∈ l2,0 ≤ z ∧ z ≤ 255) : ((strOfNums l1).toList == (strOfNums l2).toList) = lE iE l1 l2:=by
 rw [lE_int]
 by_cases h : l1 = l2
 ·subst h; simp
 ·rw [decide_eq_false h,beq_eq_false_iff_ne]
  intro e
  apply h
  apply str_inj r1 r2
  rw [← strOfNums_data,← strOfNums_data]
  rw [ByteArray.toList_eq,ByteArray.toList_eq] at e
  exact e
theorem beq28 (a1 a2 : Option Addr) (n1 n2 c1 c2 : Nat) (l1 l2 : List Int) (w : World) (h1 : SI .u8 w a1 n1 l1) (h2 : SI .u8 w a2 n2 l2) (r1 : ∀ z ∈ l1,0 ≤ z ∧ z ≤ 255) (r2 : ∀ z ∈ l2,0 ≤ z ∧ z ≤ 255) :
  Calls Tryz.prog 28 #[.slice a1 n1 c1,.slice a2 n2 c2] w fun e w' => e = .returned (.bool (lE iE l1 l2)) ∧ Below w.heap.size w w':=by
 have g1:=convS a1 n1 c1 l1 w h1
 have g2:=convS a2 n2 c2 l2 w h2
 have HV:=hid (str_eq l1 l2 r1 r2)
 clear h1 h2 r1 r2
 generalize strOfNums l1 = s1 at *
 generalize strOfNums l2 = s2 at *
 go_enter Tryz.func28,Tryz.ntmps28
 go_wp2
 go_ret
 exact ⟨congrArg (fun b => Ending.returned (.bool b)) HV.out,Below.refl _ _⟩
theorem lst24_in (b1 o1 b2 o2 n c1 c2 : Nat) (l1 l2 : List PgM) (w : World) (h1 : l1.length = n) (h2 : l2.length = n) (hn : n ≤ 1099511627776)
  (hc1 : ∀ (j : Nat) x,l1[j]? = some x → w.cell? ⟨b1,o1 + j,none⟩ = some (.slice x.1.1 x.1.2.1 x.1.2.2)) (hc2 : ∀ (j : Nat) x,l2[j]? = some x → w.cell? ⟨b2,o2 + j,none⟩ = some (.slice x.1.1 x.1.2.1 x.1.2.2))
  (hi1 : ∀ x ∈ l1,PE w x) (hi2 : ∀ x ∈ l2,PE w x) (hb1 : ∀ x ∈ l1,PB x) (hb2 : ∀ x ∈ l2,PB x) :
  Calls Tryz.prog 24 #[.slice (some ⟨b1,o1,none⟩) n c1,.slice (some ⟨b2,o2,none⟩) n c2] w fun e w' => e = .returned (.bool (lE pgE l1 l2)) ∧ Below w.heap.size w w':=by
 have hne : ((n : Int) != n) = false:=by simp
 have hK : ∀ args w,(callFunc 39 args).run Tryz.prog w = .ok (.enter 39 args) w:=fun _ _ => rfl
 have C1:=hid hc1
 have C2:=hid hc2
 have I1:=hid hi1
 have I2:=hid hi2
 have D1:=hid hb1
 have D2:=hid hb2
 clear hc1 hc2 hi1 hi2 hb1 hb2
 go_enter Tryz.func24,Tryz.ntmps24
 go_wp2_with fail
 go_loopw [5] (fun i wr => ∃ k : Nat,k ≤ n ∧ i = .int .i64 k ∧ Hid (Below w.heap.size w wr) ∧ Hid (∀ (i : Nat) x y,i < k → l1[i]? = some x → l2[i]? = some y → pgE x y = true)) (fun i _ => n - (intOf i).toNat)
 case atStart => exact ⟨0,by omega,rfl,hid (Below.refl _ _),hid (fun i x y hi => by omega)⟩
 case round =>
  obtain ⟨k,hk,rfl,HB,HE⟩:=hrel
  by_cases hlt : k < n
  ·obtain ⟨x,hx⟩ : ∃ x,l1[k]? = some x:=⟨_,List.getElem?_eq_getElem (by omega)⟩
   obtain ⟨y,hy⟩ : ∃ y,l2[k]? = some y:=⟨_,List.getElem?_eq_getElem (by omega)⟩
   have mx:=List.mem_of_getElem? hx
   have my:=List.mem_of_getElem? hy
   have HFA:=hid (fun (W : World) (hW : Below wr.heap.size wr W) => (⟨later_cell (HB.out.trans (hW.mono HB.out.size)) (C1.out k x hx),later_cell (HB.out.trans (hW.mono HB.out.size)) (C2.out k y hy)⟩ : W.cell? ⟨b1,o1 + k,none⟩ = some (.slice x.1.1 x.1.2.1 x.1.2.2) ∧ W.cell? ⟨b2,o2 + k,none⟩ = some (.slice y.1.1 y.1.2.1 y.1.2.2)))
   obtain ⟨v0,v1⟩:=HFA.out wr (Below.refl _ _)
   have hlt' : (k : Int) < (n : Int):=by omega
   have kd : Below wr.heap.size wr wr.drew:=(Kept.drewN (fun _ => False) wr 1).to_below (Nat.le_refl _) (fun _ _ x => x)
   have hbd:=HB.out.trans (kd.mono HB.out.size)
   have HC:=hid (eqI39 x.1.1 y.1.1 x.1.2.1 y.1.2.1 x.1.2.2 y.1.2.2 x.2 y.2 wr.drew ((I1.out x mx).later hbd) ((I2.out y my).later hbd) (D1.out x mx).1)
   have HX:=hid hx
   have HY:=hid hy
   generalize hv : pgE x y = v
   have HV2:=hid hv
   have HQ2:=hid (HC.out.mono (fun e w' h => (⟨by rw [h.1]; exact congrArg (fun b => Ending.returned (.bool b)) HV2.out,kd.trans (h.2.mono kd.size)⟩ : e = .returned (.bool v) ∧ Below wr.heap.size wr w')))
   clear hx hy mx my C1 C2 I1 I2 D1 D2 hv kd hbd HC
   cases v with
   | true =>
    go_wp2_with fail
    go_region_held3 (fun W => W.cell? ⟨b1,o1 + k,none⟩ = some (.slice x.1.1 x.1.2.1 x.1.2.2) ∧ W.cell? ⟨b2,o2 + k,none⟩ = some (.slice y.1.1 y.1.2.1 y.1.2.2)) (go_keep)
     (first | (go_at_call 39; refine HQ2.out.mono ?_; rintro e w5 ⟨rfl,hb5⟩; obtain ⟨t0,t1⟩:=HFA.out _ hb5; have HB5:=hid (HB.out.trans (hb5.mono HB.out.size)); clear hb5))
    go_wp2_with fail
    exact ⟨⟨k + 1,by omega,by go_num,HB5,hid (fun i x' y' hi hx' hy' => by
     by_cases hik : i < k
     ·exact HE.out i x' y' hik hx' hy'
     ·obtain rfl : i = k:=by omega
      rw [HX.out] at hx'; rw [HY.out] at hy'
      injection hx' with e1; injection hy' with e2
      subst e1; subst e2
      exact HV2.out)⟩,by simp [intOf]; omega⟩
   | false =>
    go_wp2_with fail
    go_region_held3 (fun W => W.cell? ⟨b1,o1 + k,none⟩ = some (.slice x.1.1 x.1.2.1 x.1.2.2) ∧ W.cell? ⟨b2,o2 + k,none⟩ = some (.slice y.1.1 y.1.2.1 y.1.2.2)) (go_keep)
     (first | (go_at_call 39; refine HQ2.out.mono ?_; rintro e w5 ⟨rfl,hb5⟩; obtain ⟨t0,t1⟩:=HFA.out _ hb5; have HB5:=hid (HB.out.trans (hb5.mono HB.out.size)); clear hb5))
    go_wp2_with fail
    go_ret
    exact ⟨by rw [lE_no HX.out HY.out HV2.out]; rfl,HB5.out⟩
  ·clear C1 C2 I1 I2 D1 D2
   obtain rfl : k = n:=by omega
   go_wp2_with fail
   go_ret
   exact ⟨by rw [lE_yes (by omega) (fun i x y hx hy => HE.out i x y (by have:=lt_of_get hx; omega) hx hy)]; rfl,HB.out⟩
theorem lst24_len (a1 a2 : Option Addr) (n1 n2 c1 c2 : Nat) (l1 l2 : List PgM) (w : World) (h1 : l1.length = n1) (h2 : l2.length = n2) (hne : n1 ≠ n2) :
  Calls Tryz.prog 24 #[.slice a1 n1 c1,.slice a2 n2 c2] w fun e w' => e = .returned (.bool (lE pgE l1 l2)) ∧ Below w.heap.size w w':=by
 have hb : ((n1 : Int) != n2) = true:=by simp; omega
 have HV:=hid (lE_len (f:=pgE) (l1:=l1) (l2:=l2) (by omega))
 go_enter Tryz.func24,Tryz.ntmps24
 go_wp2
 go_ret
 exact ⟨by rw [HV.out]; rfl,Below.refl _ _⟩
theorem lst24_none (a1 a2 : Option Addr) (c1 c2 : Nat) (w : World) :
  Calls Tryz.prog 24 #[.slice a1 0 c1,.slice a2 0 c2] w fun e w' => e = .returned (.bool (lE pgE [] [])) ∧ Below w.heap.size w w':=by
 go_enter Tryz.func24,Tryz.ntmps24
 go_wp2
 refine wp_loop_rounds 1 ?_
 rw [rounds_succ]
 go_wp2
 go_ret
 exact ⟨rfl,Below.refl _ _⟩
theorem lst24 (a1 a2 : Option Addr) (n1 n2 c1 c2 : Nat) (l1 l2 : List PgM) (w : World) (h1 : SPg w a1 n1 l1) (h2 : SPg w a2 n2 l2) (hn : n1 ≤ 1099511627776) (hb1 : ∀ x ∈ l1,PB x) (hb2 : ∀ x ∈ l2,PB x) :
  Calls Tryz.prog 24 #[.slice a1 n1 c1,.slice a2 n2 c2] w fun e w' => e = .returned (.bool (lE pgE l1 l2)) ∧ Below w.heap.size w w':=by
 by_cases hne : n1 = n2
 ·subst hne
  by_cases h0 : n1 = 0
  ·subst h0
   obtain rfl:=List.eq_nil_of_length_eq_zero h1.len
   obtain rfl:=List.eq_nil_of_length_eq_zero h2.len
   exact lst24_none a1 a2 c1 c2 w
  obtain ⟨b1,o1,rfl,e1⟩:=h1.at_.resolve_left h0
  obtain ⟨b2,o2,rfl,e2⟩:=h2.at_.resolve_left h0
  exact lst24_in b1 o1 b2 o2 n1 c1 c2 l1 l2 w h1.len h2.len hn e1 e2 h1.in_ h2.in_ hb1 hb2
 ·exact lst24_len a1 a2 n1 n2 c1 c2 l1 l2 w h1.len h2.len hne
theorem lst27_in (b1 o1 b2 o2 n c1 c2 : Nat) (l1 l2 : List PgM) (w : World) (h1 : l1.length = n) (h2 : l2.length = n) (hn : n ≤ 1099511627776)
  (hc1 : ∀ (j : Nat) x,l1[j]? = some x → w.cell? ⟨b1,o1 + j,none⟩ = some (.slice x.1.1 x.1.2.1 x.1.2.2)) (hc2 : ∀ (j : Nat) x,l2[j]? = some x → w.cell? ⟨b2,o2 + j,none⟩ = some (.slice x.1.1 x.1.2.1 x.1.2.2))
  (hi1 : ∀ x ∈ l1,PE w x) (hi2 : ∀ x ∈ l2,PE w x) (hb1 : ∀ x ∈ l1,PB x) (hb2 : ∀ x ∈ l2,PB x) :
  Calls Tryz.prog 27 #[.slice (some ⟨b1,o1,none⟩) n c1,.slice (some ⟨b2,o2,none⟩) n c2,.func (.func 28) #[] #[]] w fun e w' => e = .returned (.bool (lE pgE l1 l2)) ∧ Below w.heap.size w w':=by
 have hne : ((n : Int) != n) = false:=by simp
 have hK : ∀ args w,(callFunc 28 args).run Tryz.prog w = .ok (.enter 28 args) w:=fun _ _ => rfl
 have C1:=hid hc1
 have C2:=hid hc2
 have I1:=hid hi1
 have I2:=hid hi2
 have D1:=hid hb1
 have D2:=hid hb2
 clear hc1 hc2 hi1 hi2 hb1 hb2
 go_enter Tryz.func27,Tryz.ntmps27
 go_wp2_with fail
 go_loopw [15] (fun i wr => ∃ k : Nat,k ≤ n ∧ i = .int .i64 k ∧ Hid (Below w.heap.size w wr) ∧ Hid (∀ (i : Nat) x y,i < k → l1[i]? = some x → l2[i]? = some y → pgE x y = true)) (fun i _ => n - (intOf i).toNat)
 case atStart => exact ⟨0,by omega,rfl,hid (Below.refl _ _),hid (fun i x y hi => by omega)⟩
 case round =>
  obtain ⟨k,hk,rfl,HB,HE⟩:=hrel
  by_cases hlt : k < n
  ·obtain ⟨x,hx⟩ : ∃ x,l1[k]? = some x:=⟨_,List.getElem?_eq_getElem (by omega)⟩
   obtain ⟨y,hy⟩ : ∃ y,l2[k]? = some y:=⟨_,List.getElem?_eq_getElem (by omega)⟩
   have mx:=List.mem_of_getElem? hx
   have my:=List.mem_of_getElem? hy
   have HFA:=hid (fun (W : World) (hW : Below wr.heap.size wr W) => (⟨later_cell (HB.out.trans (hW.mono HB.out.size)) (C1.out k x hx),later_cell (HB.out.trans (hW.mono HB.out.size)) (C2.out k y hy)⟩ : W.cell? ⟨b1,o1 + k,none⟩ = some (.slice x.1.1 x.1.2.1 x.1.2.2) ∧ W.cell? ⟨b2,o2 + k,none⟩ = some (.slice y.1.1 y.1.2.1 y.1.2.2)))
   obtain ⟨v0,v1⟩:=HFA.out wr (Below.refl _ _)
   have hlt' : (k : Int) < (n : Int):=by omega
   have kd : Below wr.heap.size wr wr.drew:=(Kept.drewN (fun _ => False) wr 1).to_below (Nat.le_refl _) (fun _ _ x => x)
   have hbd:=HB.out.trans (kd.mono HB.out.size)
   have HC:=hid (beq28 x.1.1 y.1.1 x.1.2.1 y.1.2.1 x.1.2.2 y.1.2.2 x.2 y.2 wr.drew ((I1.out x mx).later hbd) ((I2.out y my).later hbd) (D1.out x mx).2 (D2.out y my).2)
   have HX:=hid hx
   have HY:=hid hy
   generalize hv : pgE x y = v
   have HV2:=hid hv
   have HQ2:=hid (HC.out.mono (fun e w' h => (⟨by rw [h.1]; exact congrArg (fun b => Ending.returned (.bool b)) HV2.out,kd.trans (h.2.mono kd.size)⟩ : e = .returned (.bool v) ∧ Below wr.heap.size wr w')))
   clear hx hy mx my C1 C2 I1 I2 D1 D2 hv kd hbd HC
   cases v with
   | true =>
    go_wp2_with fail
    go_region_held3 (fun W => W.cell? ⟨b1,o1 + k,none⟩ = some (.slice x.1.1 x.1.2.1 x.1.2.2) ∧ W.cell? ⟨b2,o2 + k,none⟩ = some (.slice y.1.1 y.1.2.1 y.1.2.2)) (go_keep)
     (first | (go_at_call 28; refine HQ2.out.mono ?_; rintro e w5 ⟨rfl,hb5⟩; obtain ⟨t0,t1⟩:=HFA.out _ hb5; have HB5:=hid (HB.out.trans (hb5.mono HB.out.size)); clear hb5))
    go_wp2_with fail
    exact ⟨⟨k + 1,by omega,by go_num,HB5,hid (fun i x' y' hi hx' hy' => by
     by_cases hik : i < k
     ·exact HE.out i x' y' hik hx' hy'
     ·obtain rfl : i = k:=by omega
      rw [HX.out] at hx'; rw [HY.out] at hy'
      injection hx' with e1; injection hy' with e2
      subst e1; subst e2
      exact HV2.out)⟩,by simp [intOf]; omega⟩
   | false =>
    go_wp2_with fail
    go_region_held3 (fun W => W.cell? ⟨b1,o1 + k,none⟩ = some (.slice x.1.1 x.1.2.1 x.1.2.2) ∧ W.cell? ⟨b2,o2 + k,none⟩ = some (.slice y.1.1 y.1.2.1 y.1.2.2)) (go_keep)
     (first | (go_at_call 28; refine HQ2.out.mono ?_; rintro e w5 ⟨rfl,hb5⟩; obtain ⟨t0,t1⟩:=HFA.out _ hb5; have HB5:=hid (HB.out.trans (hb5.mono HB.out.size)); clear hb5))
    go_wp2_with fail
    go_ret
    exact ⟨by rw [lE_no HX.out HY.out HV2.out]; rfl,HB5.out⟩
  ·clear C1 C2 I1 I2 D1 D2
   obtain rfl : k = n:=by omega
   go_wp2_with fail
   go_ret
   exact ⟨by rw [lE_yes (by omega) (fun i x y hx hy => HE.out i x y (by have:=lt_of_get hx; omega) hx hy)]; rfl,HB.out⟩
theorem lst27_len (a1 a2 : Option Addr) (n1 n2 c1 c2 : Nat) (l1 l2 : List PgM) (w : World) (h1 : l1.length = n1) (h2 : l2.length = n2) (hne : n1 ≠ n2) :
  Calls Tryz.prog 27 #[.slice a1 n1 c1,.slice a2 n2 c2,.func (.func 28) #[] #[]] w fun e w' => e = .returned (.bool (lE pgE l1 l2)) ∧ Below w.heap.size w w':=by
 have hb : ((n1 : Int) != n2) = true:=by simp; omega
 have HV:=hid (lE_len (f:=pgE) (l1:=l1) (l2:=l2) (by omega))
 go_enter Tryz.func27,Tryz.ntmps27
 go_wp2
 go_ret
 exact ⟨by rw [HV.out]; rfl,Below.refl _ _⟩
theorem lst27_none (a1 a2 : Option Addr) (c1 c2 : Nat) (w : World) :
  Calls Tryz.prog 27 #[.slice a1 0 c1,.slice a2 0 c2,.func (.func 28) #[] #[]] w fun e w' => e = .returned (.bool (lE pgE [] [])) ∧ Below w.heap.size w w':=by
 go_enter Tryz.func27,Tryz.ntmps27
 go_wp2
 refine wp_loop_rounds 1 ?_
 rw [rounds_succ]
 go_wp2
 go_ret
 exact ⟨rfl,Below.refl _ _⟩
theorem lst27 (a1 a2 : Option Addr) (n1 n2 c1 c2 : Nat) (l1 l2 : List PgM) (w : World) (h1 : SPg w a1 n1 l1) (h2 : SPg w a2 n2 l2) (hn : n1 ≤ 1099511627776) (hb1 : ∀ x ∈ l1,PB x) (hb2 : ∀ x ∈ l2,PB x) :
  Calls Tryz.prog 27 #[.slice a1 n1 c1,.slice a2 n2 c2,.func (.func 28) #[] #[]] w fun e w' => e = .returned (.bool (lE pgE l1 l2)) ∧ Below w.heap.size w w':=by
 by_cases hne : n1 = n2
 ·subst hne
  by_cases h0 : n1 = 0
  ·subst h0
   obtain rfl:=List.eq_nil_of_length_eq_zero h1.len
   obtain rfl:=List.eq_nil_of_length_eq_zero h2.len
   exact lst27_none a1 a2 c1 c2 w
  obtain ⟨b1,o1,rfl,e1⟩:=h1.at_.resolve_left h0
  obtain ⟨b2,o2,rfl,e2⟩:=h2.at_.resolve_left h0
  exact lst27_in b1 o1 b2 o2 n1 c1 c2 l1 l2 w h1.len h2.len hn e1 e2 h1.in_ h2.in_ hb1 hb2
 ·exact lst27_len a1 a2 n1 n2 c1 c2 l1 l2 w h1.len h2.len hne
theorem lst22_in (b1 o1 b2 o2 n c1 c2 : Nat) (l1 l2 : List FrM) (w : World) (h1 : l1.length = n) (h2 : l2.length = n) (hn : n ≤ 1099511627776)
  (hc1 : ∀ (j : Nat) x,l1[j]? = some x → w.cell? ⟨b1,o1 + j * 4,none⟩ = some (.int .i64 x.1) ∧ w.cell? ⟨b1,o1 + j * 4 + 1,none⟩ = some (.int .i64 x.2.1) ∧ w.cell? ⟨b1,o1 + j * 4 + 2,none⟩ = some (.slice x.2.2.1.1.1 x.2.2.1.1.2.1 x.2.2.1.1.2.2) ∧ w.cell? ⟨b1,o1 + j * 4 + 3,none⟩ = some (.slice x.2.2.2.1.1 x.2.2.2.1.2.1 x.2.2.2.1.2.2)) (hc2 : ∀ (j : Nat) x,l2[j]? = some x → w.cell? ⟨b2,o2 + j * 4,none⟩ = some (.int .i64 x.1) ∧ w.cell? ⟨b2,o2 + j * 4 + 1,none⟩ = some (.int .i64 x.2.1) ∧ w.cell? ⟨b2,o2 + j * 4 + 2,none⟩ = some (.slice x.2.2.1.1.1 x.2.2.1.1.2.1 x.2.2.1.1.2.2) ∧ w.cell? ⟨b2,o2 + j * 4 + 3,none⟩ = some (.slice x.2.2.2.1.1 x.2.2.2.1.2.1 x.2.2.2.1.2.2))
  (hi1 : ∀ x ∈ l1,SF1 w x) (hi2 : ∀ x ∈ l2,SF1 w x) (hb1 : ∀ x ∈ l1,FB x) (hb2 : ∀ x ∈ l2,FB x) :
  Calls Tryz.prog 22 #[.slice (some ⟨b1,o1,none⟩) n c1,.slice (some ⟨b2,o2,none⟩) n c2] w fun e w' => e = .returned (.bool (lE frE l1 l2)) ∧ Below w.heap.size w w':=by
 have hne : ((n : Int) != n) = false:=by simp
 have hK : ∀ args w,(callFunc 38 args).run Tryz.prog w = .ok (.enter 38 args) w:=fun _ _ => rfl
 have C1:=hid hc1
 have C2:=hid hc2
 have I1:=hid hi1
 have I2:=hid hi2
 have D1:=hid hb1
 have D2:=hid hb2
 clear hc1 hc2 hi1 hi2 hb1 hb2
 go_enter Tryz.func22,Tryz.ntmps22
 go_wp2_with fail
 go_loopw [5] (fun i wr => ∃ k : Nat,k ≤ n ∧ i = .int .i64 k ∧ Hid (Below w.heap.size w wr) ∧ Hid (∀ (i : Nat) x y,i < k → l1[i]? = some x → l2[i]? = some y → frE x y = true)) (fun i _ => n - (intOf i).toNat)
 case atStart => exact ⟨0,by omega,rfl,hid (Below.refl _ _),hid (fun i x y hi => by omega)⟩
 case round =>
  obtain ⟨k,hk,rfl,HB,HE⟩:=hrel
  by_cases hlt : k < n
  ·obtain ⟨x,hx⟩ : ∃ x,l1[k]? = some x:=⟨_,List.getElem?_eq_getElem (by omega)⟩
   obtain ⟨y,hy⟩ : ∃ y,l2[k]? = some y:=⟨_,List.getElem?_eq_getElem (by omega)⟩
   have mx:=List.mem_of_getElem? hx
   have my:=List.mem_of_getElem? hy
   have HFA:=hid (fun (W : World) (hW : Below wr.heap.size wr W) => (⟨later_cell (HB.out.trans (hW.mono HB.out.size)) (C1.out k x hx).1,later_cell (HB.out.trans (hW.mono HB.out.size)) (C1.out k x hx).2.1,later_cell (HB.out.trans (hW.mono HB.out.size)) (C1.out k x hx).2.2.1,later_cell (HB.out.trans (hW.mono HB.out.size)) (C1.out k x hx).2.2.2,later_cell (HB.out.trans (hW.mono HB.out.size)) (C2.out k y hy).1,later_cell (HB.out.trans (hW.mono HB.out.size)) (C2.out k y hy).2.1,later_cell (HB.out.trans (hW.mono HB.out.size)) (C2.out k y hy).2.2.1,later_cell (HB.out.trans (hW.mono HB.out.size)) (C2.out k y hy).2.2.2⟩ : W.cell? ⟨b1,o1 + k * 4,none⟩ = some (.int .i64 x.1) ∧ W.cell? ⟨b1,o1 + k * 4 + 1,none⟩ = some (.int .i64 x.2.1) ∧ W.cell? ⟨b1,o1 + k * 4 + 2,none⟩ = some (.slice x.2.2.1.1.1 x.2.2.1.1.2.1 x.2.2.1.1.2.2) ∧ W.cell? ⟨b1,o1 + k * 4 + 3,none⟩ = some (.slice x.2.2.2.1.1 x.2.2.2.1.2.1 x.2.2.2.1.2.2) ∧ W.cell? ⟨b2,o2 + k * 4,none⟩ = some (.int .i64 y.1) ∧ W.cell? ⟨b2,o2 + k * 4 + 1,none⟩ = some (.int .i64 y.2.1) ∧ W.cell? ⟨b2,o2 + k * 4 + 2,none⟩ = some (.slice y.2.2.1.1.1 y.2.2.1.1.2.1 y.2.2.1.1.2.2) ∧ W.cell? ⟨b2,o2 + k * 4 + 3,none⟩ = some (.slice y.2.2.2.1.1 y.2.2.2.1.2.1 y.2.2.2.1.2.2)))
   obtain ⟨v0,v1,v2,v3,v4,v5,v6,v7⟩:=HFA.out wr (Below.refl _ _)
   have hlt' : (k : Int) < (n : Int):=by omega
   have kd : Below wr.heap.size wr wr.drew:=(Kept.drewN (fun _ => False) wr 1).to_below (Nat.le_refl _) (fun _ _ x => x)
   have hbd:=HB.out.trans (kd.mono HB.out.size)
   have HC:=hid (eqF38 x y wr.drew ((I1.out x mx).later hbd) ((I2.out y my).later hbd) (D1.out x mx).1 (D1.out x mx).2)
   have HX:=hid hx
   have HY:=hid hy
   generalize hv : frE x y = v
   have HV2:=hid hv
   have HQ2:=hid (HC.out.mono (fun e w' h => (⟨by rw [h.1]; exact congrArg (fun b => Ending.returned (.bool b)) HV2.out,kd.trans (h.2.mono kd.size)⟩ : e = .returned (.bool v) ∧ Below wr.heap.size wr w')))
   clear hx hy mx my C1 C2 I1 I2 D1 D2 hv kd hbd HC
   cases v with
   | true =>
    go_wp2_with fail
    go_region_held3 (fun W => W.cell? ⟨b1,o1 + k * 4,none⟩ = some (.int .i64 x.1) ∧ W.cell? ⟨b1,o1 + k * 4 + 1,none⟩ = some (.int .i64 x.2.1) ∧ W.cell? ⟨b1,o1 + k * 4 + 2,none⟩ = some (.slice x.2.2.1.1.1 x.2.2.1.1.2.1 x.2.2.1.1.2.2) ∧ W.cell? ⟨b1,o1 + k * 4 + 3,none⟩ = some (.slice x.2.2.2.1.1 x.2.2.2.1.2.1 x.2.2.2.1.2.2) ∧ W.cell? ⟨b2,o2 + k * 4,none⟩ = some (.int .i64 y.1) ∧ W.cell? ⟨b2,o2 + k * 4 + 1,none⟩ = some (.int .i64 y.2.1) ∧ W.cell? ⟨b2,o2 + k * 4 + 2,none⟩ = some (.slice y.2.2.1.1.1 y.2.2.1.1.2.1 y.2.2.1.1.2.2) ∧ W.cell? ⟨b2,o2 + k * 4 + 3,none⟩ = some (.slice y.2.2.2.1.1 y.2.2.2.1.2.1 y.2.2.2.1.2.2)) (go_keep)
     (first | (go_at_call 38; refine HQ2.out.mono ?_; rintro e w5 ⟨rfl,hb5⟩; obtain ⟨t0,t1,t2,t3,t4,t5,t6,t7⟩:=HFA.out _ hb5; have HB5:=hid (HB.out.trans (hb5.mono HB.out.size)); clear hb5))
    go_wp2_with fail
    exact ⟨⟨k + 1,by omega,by go_num,HB5,hid (fun i x' y' hi hx' hy' => by
     by_cases hik : i < k
     ·exact HE.out i x' y' hik hx' hy'
     ·obtain rfl : i = k:=by omega
      rw [HX.out] at hx'; rw [HY.out] at hy'
      injection hx' with e1; injection hy' with e2
      subst e1; subst e2
      exact HV2.out)⟩,by simp [intOf]; omega⟩
   | false =>
    go_wp2_with fail
    go_region_held3 (fun W => W.cell? ⟨b1,o1 + k * 4,none⟩ = some (.int .i64 x.1) ∧ W.cell? ⟨b1,o1 + k * 4 + 1,none⟩ = some (.int .i64 x.2.1) ∧ W.cell? ⟨b1,o1 + k * 4 + 2,none⟩ = some (.slice x.2.2.1.1.1 x.2.2.1.1.2.1 x.2.2.1.1.2.2) ∧ W.cell? ⟨b1,o1 + k * 4 + 3,none⟩ = some (.slice x.2.2.2.1.1 x.2.2.2.1.2.1 x.2.2.2.1.2.2) ∧ W.cell? ⟨b2,o2 + k * 4,none⟩ = some (.int .i64 y.1) ∧ W.cell? ⟨b2,o2 + k * 4 + 1,none⟩ = some (.int .i64 y.2.1) ∧ W.cell? ⟨b2,o2 + k * 4 + 2,none⟩ = some (.slice y.2.2.1.1.1 y.2.2.1.1.2.1 y.2.2.1.1.2.2) ∧ W.cell? ⟨b2,o2 + k * 4 + 3,none⟩ = some (.slice y.2.2.2.1.1 y.2.2.2.1.2.1 y.2.2.2.1.2.2)) (go_keep)
     (first | (go_at_call 38; refine HQ2.out.mono ?_; rintro e w5 ⟨rfl,hb5⟩; obtain ⟨t0,t1,t2,t3,t4,t5,t6,t7⟩:=HFA.out _ hb5; have HB5:=hid (HB.out.trans (hb5.mono HB.out.size)); clear hb5))
    go_wp2_with fail
    go_ret
    exact ⟨by rw [lE_no HX.out HY.out HV2.out]; rfl,HB5.out⟩
  ·clear C1 C2 I1 I2 D1 D2
   obtain rfl : k = n:=by omega
   go_wp2_with fail
   go_ret
   exact ⟨by rw [lE_yes (by omega) (fun i x y hx hy => HE.out i x y (by have:=lt_of_get hx; omega) hx hy)]; rfl,HB.out⟩
theorem lst22_len (a1 a2 : Option Addr) (n1 n2 c1 c2 : Nat) (l1 l2 : List FrM) (w : World) (h1 : l1.length = n1) (h2 : l2.length = n2) (hne : n1 ≠ n2) :
  Calls Tryz.prog 22 #[.slice a1 n1 c1,.slice a2 n2 c2] w fun e w' => e = .returned (.bool (lE frE l1 l2)) ∧ Below w.heap.size w w':=by
 have hb : ((n1 : Int) != n2) = true:=by simp; omega
 have HV:=hid (lE_len (f:=frE) (l1:=l1) (l2:=l2) (by omega))
 go_enter Tryz.func22,Tryz.ntmps22
 go_wp2
 go_ret
 exact ⟨by rw [HV.out]; rfl,Below.refl _ _⟩
theorem lst22_none (a1 a2 : Option Addr) (c1 c2 : Nat) (w : World) :
  Calls Tryz.prog 22 #[.slice a1 0 c1,.slice a2 0 c2] w fun e w' => e = .returned (.bool (lE frE [] [])) ∧ Below w.heap.size w w':=by
 go_enter Tryz.func22,Tryz.ntmps22
 go_wp2
 refine wp_loop_rounds 1 ?_
 rw [rounds_succ]
 go_wp2
 go_ret
 exact ⟨rfl,Below.refl _ _⟩
theorem lst22 (a1 a2 : Option Addr) (n1 n2 c1 c2 : Nat) (l1 l2 : List FrM) (w : World) (h1 : SFr w a1 n1 l1) (h2 : SFr w a2 n2 l2) (hn : n1 ≤ 1099511627776) (hb1 : ∀ x ∈ l1,FB x) (hb2 : ∀ x ∈ l2,FB x) :
  Calls Tryz.prog 22 #[.slice a1 n1 c1,.slice a2 n2 c2] w fun e w' => e = .returned (.bool (lE frE l1 l2)) ∧ Below w.heap.size w w':=by
 by_cases hne : n1 = n2
 ·subst hne
  by_cases h0 : n1 = 0
  ·subst h0
   obtain rfl:=List.eq_nil_of_length_eq_zero h1.len
   obtain rfl:=List.eq_nil_of_length_eq_zero h2.len
   exact lst22_none a1 a2 c1 c2 w
  obtain ⟨b1,o1,rfl,e1⟩:=h1.at_.resolve_left h0
  obtain ⟨b2,o2,rfl,e2⟩:=h2.at_.resolve_left h0
  exact lst22_in b1 o1 b2 o2 n1 c1 c2 l1 l2 w h1.len h2.len hn e1 e2 h1.in_ h2.in_ hb1 hb2
 ·exact lst22_len a1 a2 n1 n2 c1 c2 l1 l2 w h1.len h2.len hne
theorem lst29_in (b1 o1 b2 o2 n c1 c2 : Nat) (l1 l2 : List FrM) (w : World) (h1 : l1.length = n) (h2 : l2.length = n) (hn : n ≤ 1099511627776)
  (hc1 : ∀ (j : Nat) x,l1[j]? = some x → w.cell? ⟨b1,o1 + j * 4,none⟩ = some (.int .i64 x.1) ∧ w.cell? ⟨b1,o1 + j * 4 + 1,none⟩ = some (.int .i64 x.2.1) ∧ w.cell? ⟨b1,o1 + j * 4 + 2,none⟩ = some (.slice x.2.2.1.1.1 x.2.2.1.1.2.1 x.2.2.1.1.2.2) ∧ w.cell? ⟨b1,o1 + j * 4 + 3,none⟩ = some (.slice x.2.2.2.1.1 x.2.2.2.1.2.1 x.2.2.2.1.2.2)) (hc2 : ∀ (j : Nat) x,l2[j]? = some x → w.cell? ⟨b2,o2 + j * 4,none⟩ = some (.int .i64 x.1) ∧ w.cell? ⟨b2,o2 + j * 4 + 1,none⟩ = some (.int .i64 x.2.1) ∧ w.cell? ⟨b2,o2 + j * 4 + 2,none⟩ = some (.slice x.2.2.1.1.1 x.2.2.1.1.2.1 x.2.2.1.1.2.2) ∧ w.cell? ⟨b2,o2 + j * 4 + 3,none⟩ = some (.slice x.2.2.2.1.1 x.2.2.2.1.2.1 x.2.2.2.1.2.2))
  (hi1 : ∀ x ∈ l1,SF1 w x) (hi2 : ∀ x ∈ l2,SF1 w x) (hb1 : ∀ x ∈ l1,FB x) (hb2 : ∀ x ∈ l2,FB x) :
  Calls Tryz.prog 29 #[.slice (some ⟨b1,o1,none⟩) n c1,.slice (some ⟨b2,o2,none⟩) n c2,.func (.func 30) #[] #[]] w fun e w' => e = .returned (.bool (lE frE l1 l2)) ∧ Below w.heap.size w w':=by
 have hne : ((n : Int) != n) = false:=by simp
 have hK : ∀ args w,(callFunc 30 args).run Tryz.prog w = .ok (.enter 30 args) w:=fun _ _ => rfl
 have C1:=hid hc1
 have C2:=hid hc2
 have I1:=hid hi1
 have I2:=hid hi2
 have D1:=hid hb1
 have D2:=hid hb2
 clear hc1 hc2 hi1 hi2 hb1 hb2
 go_enter Tryz.func29,Tryz.ntmps29
 go_wp2_with fail
 go_loopw [15] (fun i wr => ∃ k : Nat,k ≤ n ∧ i = .int .i64 k ∧ Hid (Below w.heap.size w wr) ∧ Hid (∀ (i : Nat) x y,i < k → l1[i]? = some x → l2[i]? = some y → frE x y = true)) (fun i _ => n - (intOf i).toNat)
 case atStart => exact ⟨0,by omega,rfl,hid (Below.refl _ _),hid (fun i x y hi => by omega)⟩
 case round =>
  obtain ⟨k,hk,rfl,HB,HE⟩:=hrel
  by_cases hlt : k < n
  ·obtain ⟨x,hx⟩ : ∃ x,l1[k]? = some x:=⟨_,List.getElem?_eq_getElem (by omega)⟩
   obtain ⟨y,hy⟩ : ∃ y,l2[k]? = some y:=⟨_,List.getElem?_eq_getElem (by omega)⟩
   have mx:=List.mem_of_getElem? hx
   have my:=List.mem_of_getElem? hy
   have HFA:=hid (fun (W : World) (hW : Below wr.heap.size wr W) => (⟨later_cell (HB.out.trans (hW.mono HB.out.size)) (C1.out k x hx).1,later_cell (HB.out.trans (hW.mono HB.out.size)) (C1.out k x hx).2.1,later_cell (HB.out.trans (hW.mono HB.out.size)) (C1.out k x hx).2.2.1,later_cell (HB.out.trans (hW.mono HB.out.size)) (C1.out k x hx).2.2.2,later_cell (HB.out.trans (hW.mono HB.out.size)) (C2.out k y hy).1,later_cell (HB.out.trans (hW.mono HB.out.size)) (C2.out k y hy).2.1,later_cell (HB.out.trans (hW.mono HB.out.size)) (C2.out k y hy).2.2.1,later_cell (HB.out.trans (hW.mono HB.out.size)) (C2.out k y hy).2.2.2⟩ : W.cell? ⟨b1,o1 + k * 4,none⟩ = some (.int .i64 x.1) ∧ W.cell? ⟨b1,o1 + k * 4 + 1,none⟩ = some (.int .i64 x.2.1) ∧ W.cell? ⟨b1,o1 + k * 4 + 2,none⟩ = some (.slice x.2.2.1.1.1 x.2.2.1.1.2.1 x.2.2.1.1.2.2) ∧ W.cell? ⟨b1,o1 + k * 4 + 3,none⟩ = some (.slice x.2.2.2.1.1 x.2.2.2.1.2.1 x.2.2.2.1.2.2) ∧ W.cell? ⟨b2,o2 + k * 4,none⟩ = some (.int .i64 y.1) ∧ W.cell? ⟨b2,o2 + k * 4 + 1,none⟩ = some (.int .i64 y.2.1) ∧ W.cell? ⟨b2,o2 + k * 4 + 2,none⟩ = some (.slice y.2.2.1.1.1 y.2.2.1.1.2.1 y.2.2.1.1.2.2) ∧ W.cell? ⟨b2,o2 + k * 4 + 3,none⟩ = some (.slice y.2.2.2.1.1 y.2.2.2.1.2.1 y.2.2.2.1.2.2)))
   obtain ⟨v0,v1,v2,v3,v4,v5,v6,v7⟩:=HFA.out wr (Below.refl _ _)
   have hlt' : (k : Int) < (n : Int):=by omega
   have kd : Below wr.heap.size wr wr.drew:=(Kept.drewN (fun _ => False) wr 1).to_below (Nat.le_refl _) (fun _ _ x => x)
   have hbd:=HB.out.trans (kd.mono HB.out.size)
   have HC:=hid (eqF30 x y wr.drew ((I1.out x mx).later hbd) ((I2.out y my).later hbd) (D1.out x mx).1 (D1.out x mx).2)
   have HX:=hid hx
   have HY:=hid hy
   generalize hv : frE x y = v
   have HV2:=hid hv
   have HQ2:=hid (HC.out.mono (fun e w' h => (⟨by rw [h.1]; exact congrArg (fun b => Ending.returned (.bool b)) HV2.out,kd.trans (h.2.mono kd.size)⟩ : e = .returned (.bool v) ∧ Below wr.heap.size wr w')))
   clear hx hy mx my C1 C2 I1 I2 D1 D2 hv kd hbd HC
   cases v with
   | true =>
    go_wp2_with fail
    go_region_held3 (fun W => W.cell? ⟨b1,o1 + k * 4,none⟩ = some (.int .i64 x.1) ∧ W.cell? ⟨b1,o1 + k * 4 + 1,none⟩ = some (.int .i64 x.2.1) ∧ W.cell? ⟨b1,o1 + k * 4 + 2,none⟩ = some (.slice x.2.2.1.1.1 x.2.2.1.1.2.1 x.2.2.1.1.2.2) ∧ W.cell? ⟨b1,o1 + k * 4 + 3,none⟩ = some (.slice x.2.2.2.1.1 x.2.2.2.1.2.1 x.2.2.2.1.2.2) ∧ W.cell? ⟨b2,o2 + k * 4,none⟩ = some (.int .i64 y.1) ∧ W.cell? ⟨b2,o2 + k * 4 + 1,none⟩ = some (.int .i64 y.2.1) ∧ W.cell? ⟨b2,o2 + k * 4 + 2,none⟩ = some (.slice y.2.2.1.1.1 y.2.2.1.1.2.1 y.2.2.1.1.2.2) ∧ W.cell? ⟨b2,o2 + k * 4 + 3,none⟩ = some (.slice y.2.2.2.1.1 y.2.2.2.1.2.1 y.2.2.2.1.2.2)) (go_keep)
     (first | (go_at_call 30; refine HQ2.out.mono ?_; rintro e w5 ⟨rfl,hb5⟩; obtain ⟨t0,t1,t2,t3,t4,t5,t6,t7⟩:=HFA.out _ hb5; have HB5:=hid (HB.out.trans (hb5.mono HB.out.size)); clear hb5))
    go_wp2_with fail
    exact ⟨⟨k + 1,by omega,by go_num,HB5,hid (fun i x' y' hi hx' hy' => by
     by_cases hik : i < k
     ·exact HE.out i x' y' hik hx' hy'
     ·obtain rfl : i = k:=by omega
      rw [HX.out] at hx'; rw [HY.out] at hy'
      injection hx' with e1; injection hy' with e2
      subst e1; subst e2
      exact HV2.out)⟩,by simp [intOf]; omega⟩
   | false =>
    go_wp2_with fail
    go_region_held3 (fun W => W.cell? ⟨b1,o1 + k * 4,none⟩ = some (.int .i64 x.1) ∧ W.cell? ⟨b1,o1 + k * 4 + 1,none⟩ = some (.int .i64 x.2.1) ∧ W.cell? ⟨b1,o1 + k * 4 + 2,none⟩ = some (.slice x.2.2.1.1.1 x.2.2.1.1.2.1 x.2.2.1.1.2.2) ∧ W.cell? ⟨b1,o1 + k * 4 + 3,none⟩ = some (.slice x.2.2.2.1.1 x.2.2.2.1.2.1 x.2.2.2.1.2.2) ∧ W.cell? ⟨b2,o2 + k * 4,none⟩ = some (.int .i64 y.1) ∧ W.cell? ⟨b2,o2 + k * 4 + 1,none⟩ = some (.int .i64 y.2.1) ∧ W.cell? ⟨b2,o2 + k * 4 + 2,none⟩ = some (.slice y.2.2.1.1.1 y.2.2.1.1.2.1 y.2.2.1.1.2.2) ∧ W.cell? ⟨b2,o2 + k * 4 + 3,none⟩ = some (.slice y.2.2.2.1.1 y.2.2.2.1.2.1 y.2.2.2.1.2.2)) (go_keep)
     (first | (go_at_call 30; refine HQ2.out.mono ?_; rintro e w5 ⟨rfl,hb5⟩; obtain ⟨t0,t1,t2,t3,t4,t5,t6,t7⟩:=HFA.out _ hb5; have HB5:=hid (HB.out.trans (hb5.mono HB.out.size)); clear hb5))
    go_wp2_with fail
    go_ret
    exact ⟨by rw [lE_no HX.out HY.out HV2.out]; rfl,HB5.out⟩
  ·clear C1 C2 I1 I2 D1 D2
   obtain rfl : k = n:=by omega
   go_wp2_with fail
   go_ret
   exact ⟨by rw [lE_yes (by omega) (fun i x y hx hy => HE.out i x y (by have:=lt_of_get hx; omega) hx hy)]; rfl,HB.out⟩
theorem lst29_len (a1 a2 : Option Addr) (n1 n2 c1 c2 : Nat) (l1 l2 : List FrM) (w : World) (h1 : l1.length = n1) (h2 : l2.length = n2) (hne : n1 ≠ n2) :
  Calls Tryz.prog 29 #[.slice a1 n1 c1,.slice a2 n2 c2,.func (.func 30) #[] #[]] w fun e w' => e = .returned (.bool (lE frE l1 l2)) ∧ Below w.heap.size w w':=by
 have hb : ((n1 : Int) != n2) = true:=by simp; omega
 have HV:=hid (lE_len (f:=frE) (l1:=l1) (l2:=l2) (by omega))
 go_enter Tryz.func29,Tryz.ntmps29
 go_wp2
 go_ret
 exact ⟨by rw [HV.out]; rfl,Below.refl _ _⟩
theorem lst29_none (a1 a2 : Option Addr) (c1 c2 : Nat) (w : World) :
  Calls Tryz.prog 29 #[.slice a1 0 c1,.slice a2 0 c2,.func (.func 30) #[] #[]] w fun e w' => e = .returned (.bool (lE frE [] [])) ∧ Below w.heap.size w w':=by
 go_enter Tryz.func29,Tryz.ntmps29
 go_wp2
 refine wp_loop_rounds 1 ?_
 rw [rounds_succ]
 go_wp2
 go_ret
 exact ⟨rfl,Below.refl _ _⟩
theorem lst29 (a1 a2 : Option Addr) (n1 n2 c1 c2 : Nat) (l1 l2 : List FrM) (w : World) (h1 : SFr w a1 n1 l1) (h2 : SFr w a2 n2 l2) (hn : n1 ≤ 1099511627776) (hb1 : ∀ x ∈ l1,FB x) (hb2 : ∀ x ∈ l2,FB x) :
  Calls Tryz.prog 29 #[.slice a1 n1 c1,.slice a2 n2 c2,.func (.func 30) #[] #[]] w fun e w' => e = .returned (.bool (lE frE l1 l2)) ∧ Below w.heap.size w w':=by
 by_cases hne : n1 = n2
 ·subst hne
  by_cases h0 : n1 = 0
  ·subst h0
   obtain rfl:=List.eq_nil_of_length_eq_zero h1.len
   obtain rfl:=List.eq_nil_of_length_eq_zero h2.len
   exact lst29_none a1 a2 c1 c2 w
  obtain ⟨b1,o1,rfl,e1⟩:=h1.at_.resolve_left h0
  obtain ⟨b2,o2,rfl,e2⟩:=h2.at_.resolve_left h0
  exact lst29_in b1 o1 b2 o2 n1 c1 c2 l1 l2 w h1.len h2.len hn e1 e2 h1.in_ h2.in_ hb1 hb2
 ·exact lst29_len a1 a2 n1 n2 c1 c2 l1 l2 w h1.len h2.len hne
end Go.Proofs.YtmgjhfookhaajaaGreatDoor

/-
  Texts Xb Xd Xe.
-/
import Derived.Test.YtepnnenohjfkbaaGreatDoorR00
import Derived.Test.YtepnnenohjfkbaaGreatDoorR35
set_option linter.unusedVariables false
set_option maxRecDepth 100000
set_option maxHeartbeats 16000000
namespace Go.Proofs.YtepnnenohjfkbaaGreatDoor
open Go.RowKit
theorem at1 {W : World} {B : Nat} (h : W.heap[B]? = some (.cells #[.int .u8 2,.int .i64 0,.slice none 0 0,.int .u8 24,.int .i64 1,.slice none 0 0,.int .u8 7,.int .i64 0,.slice none 0 0,.int .u8 6,.int .i64 0,.slice none 0 0,.int .u8 6,.int .i64 0,.slice none 0 0] 51)) : AtIn W (some ⟨B,0,none⟩) 5 co1:=by
 refine ⟨rfl,.inr ⟨B,0,rfl,fun j x hj => ?_⟩⟩
 match j,hj with
 | 0,hj | 1,hj | 2,hj | 3,hj | 4,hj =>
  obtain rfl:=Option.some.inj hj
  exact ⟨cell_at h,cell_at h,cell_at h⟩
 | j + 5,hj => simp [co1] at hj
theorem at2 {W : World} {B : Nat} (h : W.heap[B]? = some (.cells #[.int .u8 24,.int .i64 0,.slice none 0 0,.int .u8 24,.int .i64 0,.slice none 0 0,.int .u8 6,.int .i64 0,.slice none 0 0] 51)) : AtIn W (some ⟨B,0,none⟩) 3 co2:=by
 refine ⟨rfl,.inr ⟨B,0,rfl,fun j x hj => ?_⟩⟩
 match j,hj with
 | 0,hj | 1,hj | 2,hj =>
  obtain rfl:=Option.some.inj hj
  exact ⟨cell_at h,cell_at h,cell_at h⟩
 | j + 3,hj => simp [co2] at hj
theorem co1_ok : ∀ y ∈ co1,0 ≤ y.1 ∧ y.1 ≤ 255 ∧ y.2.2.1 = (none,0,0) ∧ y.2.2.2 = []:=by simp [co1,inn]
theorem co2_ok : ∀ y ∈ co2,0 ≤ y.1 ∧ y.1 ≤ 255 ∧ y.2.2.1 = (none,0,0) ∧ y.2.2.2 = []:=by simp [co2,inn]
theorem cap1 {TB FB : Nat} {ca : Option Addr} {n : Nat} {co : List InM} : ∀ x ∈ (oneM TB FB ca n n co).fns,x.2.2.1.2.1 ≤ x.2.2.1.2.2:=by simp [oneM]
theorem works8 (w : World) (hk : KindsOk w) (hp : 0 < w.heap.size) : Calls Tryz.prog 8 #[] w fun e w' => e = .returned (.bool true) ∧ Below w.heap.size w w':=by
 have HK:=hid hk
 clear hk
 have B1:=below_new w (.cells #[.int .u8 2,.int .i64 0,.slice none 0 0,.int .u8 24,.int .i64 1,.slice none 0 0,.int .u8 7,.int .i64 0,.slice none 0 0,.int .u8 6,.int .i64 0,.slice none 0 0,.int .u8 6,.int .i64 0,.slice none 0 0] 51)
 have h1:=heap_alloc_new w (.cells #[.int .u8 2,.int .i64 0,.slice none 0 0,.int .u8 24,.int .i64 1,.slice none 0 0,.int .u8 7,.int .i64 0,.slice none 0 0,.int .u8 6,.int .i64 0,.slice none 0 0,.int .u8 6,.int .i64 0,.slice none 0 0] 51)
 have HB1:=hid (And.intro B1 h1)
 clear B1 h1
 go_enter Tryz.func8,Tryz.ntmps8
 go_wp2_with fail
 generalize w.alloc (.cells #[.int .u8 2,.int .i64 0,.slice none 0 0,.int .u8 24,.int .i64 1,.slice none 0 0,.int .u8 7,.int .i64 0,.slice none 0 0,.int .u8 6,.int .i64 0,.slice none 0 0,.int .u8 6,.int .i64 0,.slice none 0 0] 51) = W1 at *
 refine (one28 (some ⟨w.heap.size,0,none⟩) 5 5 co1 W1).mono ?_
 rintro e w2 ⟨TB,FB,rfl,l1,l2,hT,hF,hb⟩
 have hB2 : Below w.heap.size w w2:=HB1.out.1.trans (hb.mono HB1.out.1.size)
 have hcd:=blk_later hb HB1.out.2
 have HM:=hid (module10 (oneM TB FB (some ⟨w.heap.size,0,none⟩) 5 5 co1) w2 (HK.out.later hB2 hp) (Nat.lt_of_lt_of_le hp hB2.size) (oneM_ok hT hF (at1 hcd) (fun b off cc hh => by cases hh; exact blk_lt hcd) co1_ok) cap1)
 have HB2:=hid hB2
 clear hB2 hT hF hb hcd l1 l2
 generalize mV (oneM TB FB (some ⟨w.heap.size,0,none⟩) 5 5 co1) = mv at *
 go_wp2_with fail
 refine HM.out.mono ?_
 intro e w3 hO
 obtain ⟨hb3,TT,SH,t1,t2,rfl,c0,c4,hsh⟩:=out1 hO
 have hB3 : Below w.heap.size w w3:=HB2.out.trans (hb3.mono HB2.out.size)
 have lTT : TT < w3.heap.size:=block_lt_of_cell c0
 have HS:=hid (And.intro c0 (And.intro c4 hsh))
 have HB3:=hid hB3
 clear hb3 hO c0 c4 hsh hB3 t1 t2 HM HB2 HB1
 have B4:=below_new w3 (.cells #[.int .u8 24,.int .i64 0,.slice none 0 0,.int .u8 24,.int .i64 0,.slice none 0 0,.int .u8 6,.int .i64 0,.slice none 0 0] 51)
 have h4:=heap_alloc_new w3 (.cells #[.int .u8 24,.int .i64 0,.slice none 0 0,.int .u8 24,.int .i64 0,.slice none 0 0,.int .u8 6,.int .i64 0,.slice none 0 0] 51)
 have HB4:=hid (And.intro B4 h4)
 clear B4 h4
 go_wp2_with fail
 generalize w3.alloc (.cells #[.int .u8 24,.int .i64 0,.slice none 0 0,.int .u8 24,.int .i64 0,.slice none 0 0,.int .u8 6,.int .i64 0,.slice none 0 0] 51) = W4 at *
 refine (one28 (some ⟨w3.heap.size,0,none⟩) 3 3 co2 W4).mono ?_
 rintro e w5 ⟨TB2,FB2,rfl,l1,l2,hT,hF,hb⟩
 have hB35 : Below w3.heap.size w3 w5:=HB4.out.1.trans (hb.mono HB4.out.1.size)
 have hB5 : Below w.heap.size w w5:=HB3.out.trans (hB35.mono HB3.out.size)
 have hcd:=blk_later hb HB4.out.2
 have HM:=hid (module10 (oneM TB2 FB2 (some ⟨w3.heap.size,0,none⟩) 3 3 co2) w5 (HK.out.later hB5 hp) (Nat.lt_of_lt_of_le hp hB5.size) (oneM_ok hT hF (at2 hcd) (fun b off cc hh => by cases hh; exact blk_lt hcd) co2_ok) cap1)
 have HB5:=hid (And.intro hB5 hB35)
 clear hB5 hT hF hb hcd l1 l2 hB35
 generalize mV (oneM TB2 FB2 (some ⟨w3.heap.size,0,none⟩) 3 3 co2) = mv2 at *
 go_wp2_with fail
 refine HM.out.mono ?_
 intro e w6 hO
 obtain ⟨hb6,rfl⟩:=out2 hO
 have hB36 : Below w3.heap.size w3 w6:=HB5.out.2.trans (hb6.mono HB5.out.2.size)
 have HB6:=hid (HB5.out.1.trans (hb6.mono HB5.out.1.size))
 have c0:=later_cell hB36 HS.out.1
 have c4:=later_cell hB36 HS.out.2.1
 have hsh : ∀ (j : Nat) x,[(⟨#[]⟩ : ByteArray),⟨#[]⟩,⟨#[119]⟩,⟨#[119]⟩,⟨#[119]⟩][j]? = some x → w6.cell? ⟨SH,j,none⟩ = some (.string x):=fun j x hj => later_cell hB36 (HS.out.2.2 j x hj)
 have B7:=below_new w6 (.cells #[.string ⟨#[]⟩,.string ⟨#[]⟩,.string ⟨#[119]⟩,.string ⟨#[119]⟩,.string ⟨#[119]⟩] 9)
 have h7:=heap_alloc_new w6 (.cells #[.string ⟨#[]⟩,.string ⟨#[]⟩,.string ⟨#[119]⟩,.string ⟨#[119]⟩,.string ⟨#[119]⟩] 9)
 have HEQ:=hid (eqt19 SH w6.heap.size 5 5 5 [(⟨#[]⟩ : ByteArray),⟨#[]⟩,⟨#[119]⟩,⟨#[119]⟩,⟨#[119]⟩] _ rfl (by omega) (fun j x hj => later_cell B7 (hsh j x hj)) (fun j x hj => by
  match j,hj with
  | 0,hj | 1,hj | 2,hj | 3,hj | 4,hj =>
   obtain rfl:=Option.some.inj hj
   exact cell_at h7
  | j + 5,hj => simp at hj))
 have C4:=hid (later_cell B7 c4)
 have HB7:=hid (HB6.out.trans (B7.mono HB6.out.size))
 clear hB36 hsh hb6 hO HM h7 B7 HB5 HB4
 go_wp2_with fail
 generalize w6.alloc (.cells #[.string ⟨#[]⟩,.string ⟨#[]⟩,.string ⟨#[119]⟩,.string ⟨#[119]⟩,.string ⟨#[119]⟩] 9) = W7 at *
 refine HEQ.out.mono ?_
 rintro e w8 ⟨rfl,q,rfl⟩
 have c4 : (W7.drewN q).cell? ⟨TT,4,none⟩ = some (.int .i64 1):=later_cell (below_drewN _ q) C4.out
 have HB8:=hid (HB7.out.trans ((below_drewN W7 q).mono HB7.out.size))
 clear HEQ
 generalize W7.drewN q = W8 at *
 go_wp2_with fail
 go_ret
 exact ⟨rfl,HB8.out⟩
def Fl (w : World) (a : Option Addr) (n : Nat) (fl : List Value) : Prop:=n = 0 ∨ ∃ b off,a = some ⟨b,off,none⟩ ∧ ∀ (j : Nat) y,fl[j]? = some y → w.cell? ⟨b,off + j,none⟩ = some y
theorem Fl.later {w w' : World} {a : Option Addr} {n : Nat} {fl : List Value} (h : Fl w a n fl) (hb : Below w.heap.size w w') : Fl w' a n fl:=by
 rcases h with h | ⟨b,off,e,h⟩
 ·exact .inl h
 ·exact .inr ⟨b,off,e,fun j y hj => later_cell hb (h j y hj)⟩
theorem fm_get {α β : Type} (g : α → List β) (k : Nat) (hk : ∀ x,(g x).length = k) : ∀ (l : List α) (i q : Nat),q < k → (l.flatMap g)[i * k + q]? = (l[i]?).bind fun x => (g x)[q]?
 | [],i,q,_ => by simp
 | x :: l,0,q,hq => by
  rw [List.flatMap_cons,List.getElem?_append_left (by rw [hk]; omega)]
  simp
 | x :: l,i + 1,q,hq => by
  have ih:=fm_get g k hk l i q hq
  rw [List.flatMap_cons,List.getElem?_append_right (by rw [hk,Nat.succ_mul]; omega),hk]
  rw [show (i + 1) * k + q - k = i * k + q by rw [Nat.succ_mul]; omega,ih]
  simp
theorem fm_len {α β : Type} (g : α → List β) (k : Nat) (hk : ∀ x,(g x).length = k) : ∀ (l : List α),(l.flatMap g).length = l.length * k
 | [] => by simp
 | x :: l => by rw [List.flatMap_cons,List.length_append,hk,fm_len g k hk l,List.length_cons,Nat.succ_mul]; omega
theorem fm_fl {α : Type} {w : World} {a : Option Addr} {n k : Nat} (g : α → List Value) (hk : ∀ x,(g x).length = k) (h0 : 0 < k) {l : List α} (h : n = 0 ∨ ∃ b off,a = some ⟨b,off,none⟩ ∧ ∀ (j : Nat) x,l[j]? = some x → ∀ q y,(g x)[q]? = some y → w.cell? ⟨b,off + j * k + q,none⟩ = some y) : Fl w a n (l.flatMap g):=by
 rcases h with h | ⟨b,off,e,h⟩
 ·exact .inl h
 ·refine .inr ⟨b,off,e,fun j y hj => ?_⟩
  have hq : j % k < k:=Nat.mod_lt _ h0
  have hjj : j / k * k + j % k = j:=by rw [Nat.mul_comm]; exact Nat.div_add_mod j k
  rw [← hjj,fm_get g k hk l _ _ hq] at hj
  obtain ⟨x,hx,hy⟩:=Option.bind_eq_some_iff.1 hj
  have:=h (j / k) x hx (j % k) y hy
  rwa [Nat.add_assoc,hjj] at this
theorem own_fm {α : Type} {w : World} {base e n k : Nat} {v : Value} (g : α → List Value) (hk : ∀ x,(g x).length = k) {l : List α} (h : w.ownsRow base e k v n (l.flatMap g)) (hn : l.length = n) :
  ∃ a c,v = .slice a n c ∧ n ≤ c ∧ (∀ b off cc,a = some ⟨b,off,cc⟩ → base ≤ b ∧ b < w.heap.size ∧ ∃ cur,w.heap[b]? = some (.cells cur e)) ∧ (n = 0 ∨ ∃ b off,a = some ⟨b,off,none⟩ ∧ off = 0 ∧ ∀ (j : Nat) x,l[j]? = some x → ∀ q,q < k → w.cell? ⟨b,off + j * k + q,none⟩ = (g x)[q]?):=by
 rcases h.2 with ⟨rfl,h0⟩ | ⟨b,cap,cur,rfl,h2,h3,h4,h5,h6,h7⟩
 ·exact ⟨none,0,by rw [h0],by omega,fun b off cc e => (by cases e),.inl h0⟩
 ·refine ⟨some ⟨b,0,none⟩,cap,rfl,h4,fun b' off cc e => ?_,.inr ⟨b,0,rfl,rfl,fun j x hx q hq => ?_⟩⟩
  ·cases e
   exact ⟨h2,blk_lt h3,cur,h3⟩
  ·have hjn : j < n:=by have:=lt_of_get hx; omega
   have hlt : j * k + q < n * k:=by
    have : (j + 1) * k ≤ n * k:=Nat.mul_le_mul_right k hjn
    rw [Nat.succ_mul] at this; omega
   have hc:=World.ownsRow.cellAt h (j * k + q) hlt
   rw [Nat.zero_add,hc,fm_get g k hk l j q hq,hx]; rfl
theorem Tryz.infSigs : (Tryz.prog.info? 62).map (fun i => (i.zero,i.size,i.bytes)) = some (some (.agg #[.string ⟨#[]⟩,.string ⟨#[]⟩]),2,32):=by kernel_rfl
theorem app_nilSigs (w : World) {ops : Array Oper} {rest : List Oper} {o : Oper} {a : Act} {Q : Exit → Act → World → Prop} (hgd : o.guard = none)
  (s x : Operand) (ho : o.op = Op.call { callee:=Callee.builtin Builtin.append,args:=#[s,x],argTypes:=#[22,22] })
  (c : Nat) (hs : a.eval s = .slice none 0 0) (hx : a.eval x = .slice none 0 c) (h : wpList Tryz.prog ops Q rest (a.put o.dst (.slice none 0 0)) w) : wpList Tryz.prog ops Q (o :: rest) a w:=by
 obtain ⟨i0,hi,_⟩:=info_parts Tryz.infSigs
 refine wpList_plain hgd fun K hK => ?_
 unfold Oper.wp
 simp [execOp,ho,resolve,invoke,builtin,hs,hx,Builtin.append_,run_underlying Tryz.underlying22,sizeOf,typeInfo,hi,Builtin.lenOf,Builtin.firstCells,Result.andThen]
 exact hK _ _ h
theorem copySigs (a : Option Addr) (n c : Nat) (fl : List Value) (w : World) (h : Fl w a n fl) (hl : fl.length = n * 2) (h1 : ∀ u ∈ fl,u.oneCell' = true) (hn : n ≤ 1000000) :
  Calls Tryz.prog 37 #[.slice a n c] w fun e w' => ∃ v,e = .returned v ∧ w'.ownsRow w.heap.size 62 2 v n fl ∧ Below w.heap.size w w':=by
 by_cases ha : a = none
 ·subst ha
  have hn0 : n = 0:=by
   rcases h with h | ⟨b,off,e,_⟩
   ·exact h
   ·cases e
  subst hn0
  have hl0 : fl = []:=List.eq_nil_of_length_eq_zero (by omega)
  subst hl0
  clear h hl
  go_enter Tryz.func37,Tryz.ntmps37
  go_wp2_with (first | (at_builtin; refine app_nilSigs _ rfl (.tmp 4) (.tmp 5) rfl c rfl rfl ?_))
  go_ret
  exact ⟨_,rfl,World.ownsRow_nil _ _ _ _,Below.refl _ _⟩
 ·obtain ⟨ad,rfl⟩:=Option.ne_none_iff_exists'.1 ha
  have hu : ∀ (j : Nat) (y : Value),fl[j]? = some y → w.cell? (ad.add j) = some y:=fun j y hj => by
   have hj':=lt_of_get hj
   rcases h with h | ⟨b,off,e,hcell⟩
   ·omega
   ·have e:=Option.some.inj e
    subst e
    have hplain : (⟨b,off,none⟩ : Addr).add j = ⟨b,off + j,none⟩:=by unfold Addr.add; split <;> simp_all
    rw [hplain]
    exact hcell j y hj
  have HU:=hid hu
  have H1:=hid h1
  obtain ⟨i0,hi,hz0,hz1,hz2⟩:=info_parts Tryz.infSigs
  clear hu h ha h1
  go_enter Tryz.func37,Tryz.ntmps37
  go_wp2_with (first | (at_builtin; refine wpList_append_own _ rfl (.tmp 4) (.tmp 5) 22 rfl w.heap.size 62 i0 _ 2 32 Tryz.underlying22 hi hz0 hz1 hz2 rfl (by decide) _ 0 [] rfl (World.ownsRow_nil _ _ _ _) ad n c fl rfl hl HU.out H1.out (by unfold maxLen; omega) (by omega) (Nat.le_refl _) ?_; intro v' w' hown hg _; have HO:=hid hown; have HB:=hid ((Kept.of_grown hg).to_below (Nat.le_refl w.heap.size) (fun k hk e => by cases e)); clear hown hg))
  obtain ⟨va,vc,hv,_⟩ : ∃ va vc,v' = .slice va n vc ∧ True:=by
   rcases HO.out.2 with ⟨h0,h1⟩ | ⟨g,cp,cur,h1,_⟩
   ·exact ⟨none,0,by rw [h0]; congr 1; omega,trivial⟩
   ·exact ⟨_,_,by rw [h1]; congr 1; omega,trivial⟩
  subst hv
  go_ret
  exact ⟨_,rfl,by simpa using HO.out,HB.out⟩
theorem Tryz.infNums : (Tryz.prog.info? 3).map (fun i => (i.zero,i.size,i.bytes)) = some (some (.int .i64 0),1,8):=by kernel_rfl
theorem app_nilNums (w : World) {ops : Array Oper} {rest : List Oper} {o : Oper} {a : Act} {Q : Exit → Act → World → Prop} (hgd : o.guard = none)
  (s x : Operand) (ho : o.op = Op.call { callee:=Callee.builtin Builtin.append,args:=#[s,x],argTypes:=#[23,23] })
  (c : Nat) (hs : a.eval s = .slice none 0 0) (hx : a.eval x = .slice none 0 c) (h : wpList Tryz.prog ops Q rest (a.put o.dst (.slice none 0 0)) w) : wpList Tryz.prog ops Q (o :: rest) a w:=by
 obtain ⟨i0,hi,_⟩:=info_parts Tryz.infNums
 refine wpList_plain hgd fun K hK => ?_
 unfold Oper.wp
 simp [execOp,ho,resolve,invoke,builtin,hs,hx,Builtin.append_,run_underlying Tryz.underlying23,sizeOf,typeInfo,hi,Builtin.lenOf,Builtin.firstCells,Result.andThen]
 exact hK _ _ h
theorem copyNums (a : Option Addr) (n c : Nat) (fl : List Value) (w : World) (h : Fl w a n fl) (hl : fl.length = n * 1) (h1 : ∀ u ∈ fl,u.oneCell' = true) (hn : n ≤ 1000000) :
  Calls Tryz.prog 38 #[.slice a n c] w fun e w' => ∃ v,e = .returned v ∧ w'.ownsRow w.heap.size 3 1 v n fl ∧ Below w.heap.size w w':=by
 by_cases ha : a = none
 ·subst ha
  have hn0 : n = 0:=by
   rcases h with h | ⟨b,off,e,_⟩
   ·exact h
   ·cases e
  subst hn0
  have hl0 : fl = []:=List.eq_nil_of_length_eq_zero (by omega)
  subst hl0
  clear h hl
  go_enter Tryz.func38,Tryz.ntmps38
  go_wp2_with (first | (at_builtin; refine app_nilNums _ rfl (.tmp 4) (.tmp 5) rfl c rfl rfl ?_))
  go_ret
  exact ⟨_,rfl,World.ownsRow_nil _ _ _ _,Below.refl _ _⟩
 ·obtain ⟨ad,rfl⟩:=Option.ne_none_iff_exists'.1 ha
  have hu : ∀ (j : Nat) (y : Value),fl[j]? = some y → w.cell? (ad.add j) = some y:=fun j y hj => by
   have hj':=lt_of_get hj
   rcases h with h | ⟨b,off,e,hcell⟩
   ·omega
   ·have e:=Option.some.inj e
    subst e
    have hplain : (⟨b,off,none⟩ : Addr).add j = ⟨b,off + j,none⟩:=by unfold Addr.add; split <;> simp_all
    rw [hplain]
    exact hcell j y hj
  have HU:=hid hu
  have H1:=hid h1
  obtain ⟨i0,hi,hz0,hz1,hz2⟩:=info_parts Tryz.infNums
  clear hu h ha h1
  go_enter Tryz.func38,Tryz.ntmps38
  go_wp2_with (first | (at_builtin; refine wpList_append_own _ rfl (.tmp 4) (.tmp 5) 23 rfl w.heap.size 3 i0 _ 1 8 Tryz.underlying23 hi hz0 hz1 hz2 rfl (by decide) _ 0 [] rfl (World.ownsRow_nil _ _ _ _) ad n c fl rfl hl HU.out H1.out (by unfold maxLen; omega) (by omega) (Nat.le_refl _) ?_; intro v' w' hown hg _; have HO:=hid hown; have HB:=hid ((Kept.of_grown hg).to_below (Nat.le_refl w.heap.size) (fun k hk e => by cases e)); clear hown hg))
  obtain ⟨va,vc,hv,_⟩ : ∃ va vc,v' = .slice va n vc ∧ True:=by
   rcases HO.out.2 with ⟨h0,h1⟩ | ⟨g,cp,cur,h1,_⟩
   ·exact ⟨none,0,by rw [h0]; congr 1; omega,trivial⟩
   ·exact ⟨_,_,by rw [h1]; congr 1; omega,trivial⟩
  subst hv
  go_ret
  exact ⟨_,rfl,by simpa using HO.out,HB.out⟩
theorem Tryz.infGls : (Tryz.prog.info? 141).map (fun i => (i.zero,i.size,i.bytes)) = some (some (.agg #[.int .u8 0,.bool false,.int .u64 0]),3,16):=by kernel_rfl
theorem app_nilGls (w : World) {ops : Array Oper} {rest : List Oper} {o : Oper} {a : Act} {Q : Exit → Act → World → Prop} (hgd : o.guard = none)
  (s x : Operand) (ho : o.op = Op.call { callee:=Callee.builtin Builtin.append,args:=#[s,x],argTypes:=#[24,24] })
  (c : Nat) (hs : a.eval s = .slice none 0 0) (hx : a.eval x = .slice none 0 c) (h : wpList Tryz.prog ops Q rest (a.put o.dst (.slice none 0 0)) w) : wpList Tryz.prog ops Q (o :: rest) a w:=by
 obtain ⟨i0,hi,_⟩:=info_parts Tryz.infGls
 refine wpList_plain hgd fun K hK => ?_
 unfold Oper.wp
 simp [execOp,ho,resolve,invoke,builtin,hs,hx,Builtin.append_,run_underlying Tryz.underlying24,sizeOf,typeInfo,hi,Builtin.lenOf,Builtin.firstCells,Result.andThen]
 exact hK _ _ h
theorem copyGls (a : Option Addr) (n c : Nat) (fl : List Value) (w : World) (h : Fl w a n fl) (hl : fl.length = n * 3) (h1 : ∀ u ∈ fl,u.oneCell' = true) (hn : n ≤ 1000000) :
  Calls Tryz.prog 39 #[.slice a n c] w fun e w' => ∃ v,e = .returned v ∧ w'.ownsRow w.heap.size 141 3 v n fl ∧ Below w.heap.size w w':=by
 by_cases ha : a = none
 ·subst ha
  have hn0 : n = 0:=by
   rcases h with h | ⟨b,off,e,_⟩
   ·exact h
   ·cases e
  subst hn0
  have hl0 : fl = []:=List.eq_nil_of_length_eq_zero (by omega)
  subst hl0
  clear h hl
  go_enter Tryz.func39,Tryz.ntmps39
  go_wp2_with (first | (at_builtin; refine app_nilGls _ rfl (.tmp 4) (.tmp 5) rfl c rfl rfl ?_))
  go_ret
  exact ⟨_,rfl,World.ownsRow_nil _ _ _ _,Below.refl _ _⟩
 ·obtain ⟨ad,rfl⟩:=Option.ne_none_iff_exists'.1 ha
  have hu : ∀ (j : Nat) (y : Value),fl[j]? = some y → w.cell? (ad.add j) = some y:=fun j y hj => by
   have hj':=lt_of_get hj
   rcases h with h | ⟨b,off,e,hcell⟩
   ·omega
   ·have e:=Option.some.inj e
    subst e
    have hplain : (⟨b,off,none⟩ : Addr).add j = ⟨b,off + j,none⟩:=by unfold Addr.add; split <;> simp_all
    rw [hplain]
    exact hcell j y hj
  have HU:=hid hu
  have H1:=hid h1
  obtain ⟨i0,hi,hz0,hz1,hz2⟩:=info_parts Tryz.infGls
  clear hu h ha h1
  go_enter Tryz.func39,Tryz.ntmps39
  go_wp2_with (first | (at_builtin; refine wpList_append_own _ rfl (.tmp 4) (.tmp 5) 24 rfl w.heap.size 141 i0 _ 3 16 Tryz.underlying24 hi hz0 hz1 hz2 rfl (by decide) _ 0 [] rfl (World.ownsRow_nil _ _ _ _) ad n c fl rfl hl HU.out H1.out (by unfold maxLen; omega) (by omega) (Nat.le_refl _) ?_; intro v' w' hown hg _; have HO:=hid hown; have HB:=hid ((Kept.of_grown hg).to_below (Nat.le_refl w.heap.size) (fun k hk e => by cases e)); clear hown hg))
  obtain ⟨va,vc,hv,_⟩ : ∃ va vc,v' = .slice va n vc ∧ True:=by
   rcases HO.out.2 with ⟨h0,h1⟩ | ⟨g,cp,cur,h1,_⟩
   ·exact ⟨none,0,by rw [h0]; congr 1; omega,trivial⟩
   ·exact ⟨_,_,by rw [h1]; congr 1; omega,trivial⟩
  subst hv
  go_ret
  exact ⟨_,rfl,by simpa using HO.out,HB.out⟩
theorem Tryz.infExps : (Tryz.prog.info? 68).map (fun i => (i.zero,i.size,i.bytes)) = some (some (.agg #[.string ⟨#[]⟩,.int .i64 0]),2,24):=by kernel_rfl
theorem app_nilExps (w : World) {ops : Array Oper} {rest : List Oper} {o : Oper} {a : Act} {Q : Exit → Act → World → Prop} (hgd : o.guard = none)
  (s x : Operand) (ho : o.op = Op.call { callee:=Callee.builtin Builtin.append,args:=#[s,x],argTypes:=#[27,27] })
  (c : Nat) (hs : a.eval s = .slice none 0 0) (hx : a.eval x = .slice none 0 c) (h : wpList Tryz.prog ops Q rest (a.put o.dst (.slice none 0 0)) w) : wpList Tryz.prog ops Q (o :: rest) a w:=by
 obtain ⟨i0,hi,_⟩:=info_parts Tryz.infExps
 refine wpList_plain hgd fun K hK => ?_
 unfold Oper.wp
 simp [execOp,ho,resolve,invoke,builtin,hs,hx,Builtin.append_,run_underlying Tryz.underlying27,sizeOf,typeInfo,hi,Builtin.lenOf,Builtin.firstCells,Result.andThen]
 exact hK _ _ h
theorem copyExps (a : Option Addr) (n c : Nat) (fl : List Value) (w : World) (h : Fl w a n fl) (hl : fl.length = n * 2) (h1 : ∀ u ∈ fl,u.oneCell' = true) (hn : n ≤ 1000000) :
  Calls Tryz.prog 42 #[.slice a n c] w fun e w' => ∃ v,e = .returned v ∧ w'.ownsRow w.heap.size 68 2 v n fl ∧ Below w.heap.size w w':=by
 by_cases ha : a = none
 ·subst ha
  have hn0 : n = 0:=by
   rcases h with h | ⟨b,off,e,_⟩
   ·exact h
   ·cases e
  subst hn0
  have hl0 : fl = []:=List.eq_nil_of_length_eq_zero (by omega)
  subst hl0
  clear h hl
  go_enter Tryz.func42,Tryz.ntmps42
  go_wp2_with (first | (at_builtin; refine app_nilExps _ rfl (.tmp 4) (.tmp 5) rfl c rfl rfl ?_))
  go_ret
  exact ⟨_,rfl,World.ownsRow_nil _ _ _ _,Below.refl _ _⟩
 ·obtain ⟨ad,rfl⟩:=Option.ne_none_iff_exists'.1 ha
  have hu : ∀ (j : Nat) (y : Value),fl[j]? = some y → w.cell? (ad.add j) = some y:=fun j y hj => by
   have hj':=lt_of_get hj
   rcases h with h | ⟨b,off,e,hcell⟩
   ·omega
   ·have e:=Option.some.inj e
    subst e
    have hplain : (⟨b,off,none⟩ : Addr).add j = ⟨b,off + j,none⟩:=by unfold Addr.add; split <;> simp_all
    rw [hplain]
    exact hcell j y hj
  have HU:=hid hu
  have H1:=hid h1
  obtain ⟨i0,hi,hz0,hz1,hz2⟩:=info_parts Tryz.infExps
  clear hu h ha h1
  go_enter Tryz.func42,Tryz.ntmps42
  go_wp2_with (first | (at_builtin; refine wpList_append_own _ rfl (.tmp 4) (.tmp 5) 27 rfl w.heap.size 68 i0 _ 2 24 Tryz.underlying27 hi hz0 hz1 hz2 rfl (by decide) _ 0 [] rfl (World.ownsRow_nil _ _ _ _) ad n c fl rfl hl HU.out H1.out (by unfold maxLen; omega) (by omega) (Nat.le_refl _) ?_; intro v' w' hown hg _; have HO:=hid hown; have HB:=hid ((Kept.of_grown hg).to_below (Nat.le_refl w.heap.size) (fun k hk e => by cases e)); clear hown hg))
  obtain ⟨va,vc,hv,_⟩ : ∃ va vc,v' = .slice va n vc ∧ True:=by
   rcases HO.out.2 with ⟨h0,h1⟩ | ⟨g,cp,cur,h1,_⟩
   ·exact ⟨none,0,by rw [h0]; congr 1; omega,trivial⟩
   ·exact ⟨_,_,by rw [h1]; congr 1; omega,trivial⟩
  subst hv
  go_ret
  exact ⟨_,rfl,by simpa using HO.out,HB.out⟩
theorem Tryz.infByts : (Tryz.prog.info? 5).map (fun i => (i.zero,i.size,i.bytes)) = some (some (.int .u8 0),1,1):=by kernel_rfl
theorem app_nilByts (w : World) {ops : Array Oper} {rest : List Oper} {o : Oper} {a : Act} {Q : Exit → Act → World → Prop} (hgd : o.guard = none)
  (s x : Operand) (ho : o.op = Op.call { callee:=Callee.builtin Builtin.append,args:=#[s,x],argTypes:=#[64,64] })
  (c : Nat) (hs : a.eval s = .slice none 0 0) (hx : a.eval x = .slice none 0 c) (h : wpList Tryz.prog ops Q rest (a.put o.dst (.slice none 0 0)) w) : wpList Tryz.prog ops Q (o :: rest) a w:=by
 obtain ⟨i0,hi,_⟩:=info_parts Tryz.infByts
 refine wpList_plain hgd fun K hK => ?_
 unfold Oper.wp
 simp [execOp,ho,resolve,invoke,builtin,hs,hx,Builtin.append_,run_underlying Tryz.underlying64,sizeOf,typeInfo,hi,Builtin.lenOf,Builtin.firstCells,Result.andThen]
 exact hK _ _ h
theorem copyByts (a : Option Addr) (n c : Nat) (fl : List Value) (w : World) (h : Fl w a n fl) (hl : fl.length = n * 1) (h1 : ∀ u ∈ fl,u.oneCell' = true) (hn : n ≤ 1000000) :
  Calls Tryz.prog 135 #[.slice a n c] w fun e w' => ∃ v,e = .returned v ∧ w'.ownsRow w.heap.size 5 1 v n fl ∧ Below w.heap.size w w':=by
 by_cases ha : a = none
 ·subst ha
  have hn0 : n = 0:=by
   rcases h with h | ⟨b,off,e,_⟩
   ·exact h
   ·cases e
  subst hn0
  have hl0 : fl = []:=List.eq_nil_of_length_eq_zero (by omega)
  subst hl0
  clear h hl
  go_enter Tryz.func135,Tryz.ntmps135
  go_wp2_with (first | (at_builtin; refine app_nilByts _ rfl (.tmp 4) (.tmp 5) rfl c rfl rfl ?_))
  go_ret
  exact ⟨_,rfl,World.ownsRow_nil _ _ _ _,Below.refl _ _⟩
 ·obtain ⟨ad,rfl⟩:=Option.ne_none_iff_exists'.1 ha
  have hu : ∀ (j : Nat) (y : Value),fl[j]? = some y → w.cell? (ad.add j) = some y:=fun j y hj => by
   have hj':=lt_of_get hj
   rcases h with h | ⟨b,off,e,hcell⟩
   ·omega
   ·have e:=Option.some.inj e
    subst e
    have hplain : (⟨b,off,none⟩ : Addr).add j = ⟨b,off + j,none⟩:=by unfold Addr.add; split <;> simp_all
    rw [hplain]
    exact hcell j y hj
  have HU:=hid hu
  have H1:=hid h1
  obtain ⟨i0,hi,hz0,hz1,hz2⟩:=info_parts Tryz.infByts
  clear hu h ha h1
  go_enter Tryz.func135,Tryz.ntmps135
  go_wp2_with (first | (at_builtin; refine wpList_append_own _ rfl (.tmp 4) (.tmp 5) 64 rfl w.heap.size 5 i0 _ 1 1 Tryz.underlying64 hi hz0 hz1 hz2 rfl (by decide) _ 0 [] rfl (World.ownsRow_nil _ _ _ _) ad n c fl rfl hl HU.out H1.out (by unfold maxLen; omega) (by omega) (Nat.le_refl _) ?_; intro v' w' hown hg _; have HO:=hid hown; have HB:=hid ((Kept.of_grown hg).to_below (Nat.le_refl w.heap.size) (fun k hk e => by cases e)); clear hown hg))
  obtain ⟨va,vc,hv,_⟩ : ∃ va vc,v' = .slice va n vc ∧ True:=by
   rcases HO.out.2 with ⟨h0,h1⟩ | ⟨g,cp,cur,h1,_⟩
   ·exact ⟨none,0,by rw [h0]; congr 1; omega,trivial⟩
   ·exact ⟨_,_,by rw [h1]; congr 1; omega,trivial⟩
  subst hv
  go_ret
  exact ⟨_,rfl,by simpa using HO.out,HB.out⟩
theorem own_keepB {S : Nat → Prop} {w w' : World} {base e k n : Nat} {v : Value} {xs : List Value} (h : w.ownsRow base e k v n xs) (hk : Kept S w w') (hs : ∀ b,v.ownBlock = some b → ¬ S b) : w'.ownsRow base e k v n xs:=by
 refine ⟨h.1,?_⟩
 rcases h.2 with h0 | ⟨g,cp,cur,rfl,h2,h3,h4⟩
 ·exact .inl h0
 ·exact .inr ⟨g,cp,cur,rfl,h2,(hk.block g (blk_lt h3) (hs g rfl)).trans h3,h4⟩
theorem own_low {w : World} {base base' e k n : Nat} {v : Value} {xs : List Value} (h : w.ownsRow base e k v n xs) (hb : base' ≤ base) : w.ownsRow base' e k v n xs:=by
 refine ⟨h.1,?_⟩
 rcases h.2 with h0 | ⟨g,cp,cur,h1,h2,h3⟩
 ·exact .inl h0
 ·exact .inr ⟨g,cp,cur,h1,Nat.le_trans hb h2,h3⟩
theorem own_ty {w : World} {base e k n b : Nat} {v : Value} {xs : List Value} (h : w.ownsRow base e k v n xs) (hb : v.ownBlock = some b) : base ≤ b ∧ b < w.heap.size ∧ ∃ cur,w.heap[b]? = some (.cells cur e):=by
 rcases h.2 with ⟨h0,_⟩ | ⟨g,cp,cur,rfl,h2,h3,h4⟩
 ·rw [h0] at hb; cases hb
 ·obtain rfl : g = b:=by simpa [Value.ownBlock] using hb
  exact ⟨h2,blk_lt h3,cur,h3⟩
theorem own_sl {w : World} {base e k n : Nat} {v : Value} {xs : List Value} (h : w.ownsRow base e k v n xs) : ∃ a c,v = .slice a n c:=by
 rcases h.2 with ⟨h0,h1⟩ | ⟨g,cp,cur,h1,_⟩
 ·exact ⟨none,0,by rw [h0,h1]⟩
 ·exact ⟨_,_,h1⟩
theorem copyCode0 (a : Option Addr) (c : Nat) (w : World) : Calls Tryz.prog 134 #[.slice a 0 c] w fun e w' => e = .returned (.slice none 0 0) ∧ w' = w:=by
 go_enter Tryz.func134,Tryz.ntmps134
 go_wp2_with fail
 refine wp_loop_rounds 1 ?_
 rw [rounds_succ]
 go_wp2_with fail
 go_ret
 exact ⟨rfl,rfl⟩
theorem copyCode (a : Option Addr) (n cap : Nat) (xs : List Inx) (w : World) (hn : n ≤ 100000) (hcap : n ≤ cap) (h : CodS w a n xs) (hln : ∀ j,j < n → (xs.getD j dx).ln ≤ 100000) :
  Calls Tryz.prog 134 #[.slice a n cap] w fun e w' => ∃ v ys,e = .returned v ∧ CP w xs n v ys w':=by
 by_cases h0 : n = 0
 ·subst h0
  refine (copyCode0 a cap w).mono ?_
  rintro e w' ⟨rfl,rfl⟩
  exact ⟨_,[],rfl,rfl,LC.nil _ _,(fun y hy => by cases hy),(fun j hj => by omega),Below.refl _ _⟩
 ·obtain ⟨b,off,rfl,hc⟩:=h.2.resolve_left h0
  exact copyCode_in b off n cap xs w hn hcap hc hln
theorem CP.move {w W1 w1 w2 : World} {xs ys : List Inx} {n : Nat} {v : Value} (h : CP W1 xs n v ys w1) (hB : Below w.heap.size w W1) (hk : Kept (fun k => w.heap.size ≤ k ∧ k < W1.heap.size) w1 w2) : CP w xs n v ys w2:=by
 refine ⟨h.len,own_low (own_keepB h.row hk (fun b hb hx => by have:=(own_ty h.row hb).1; omega)) hB.size,fun y hy => own_low (own_keepB (h.lab y hy) hk (fun b hb hx => by have:=(own_ty (h.lab y hy) hb).1; omega)) hB.size,h.same,?_⟩
 have h1 : Below w.heap.size w w1:=hB.trans (h.bel.mono hB.size)
 exact h1.trans (hk.to_below (B:=w.heap.size) h1.size (fun k hk hx => by omega))
theorem copyFn (ty : Int) (lo : ByteArray) (ca : Option Addr) (n cc : Nat) (xs : List Inx) (w : World) (hn : n ≤ 100000) (hcap : n ≤ cc) (h : CodS w ca n xs) (hln : ∀ j,j < n → (xs.getD j dx).ln ≤ 100000) :
  Calls Tryz.prog 83 #[.agg #[.int .i64 ty,.string lo,.slice ca n cc]] w fun e w' => ∃ va vc ys,e = .returned (.agg #[.int .i64 ty,.string lo,.slice va n vc]) ∧ CP w xs n (.slice va n vc) ys w':=by
 have B1:=below_new w (.cells #[.int .i64 ty,.string lo,.slice ca n cc] 42)
 have B2:=below_new (w.alloc (.cells #[.int .i64 ty,.string lo,.slice ca n cc] 42)) (.cells #[.int .i64 0,.string ⟨#[]⟩,.slice none 0 0] 42)
 have b1:=blk_later B2 (heap_alloc_new w (.cells #[.int .i64 ty,.string lo,.slice ca n cc] 42))
 have b2 : ((w.alloc (.cells #[.int .i64 ty,.string lo,.slice ca n cc] 42)).alloc (.cells #[.int .i64 0,.string ⟨#[]⟩,.slice none 0 0] 42)).heap[w.heap.size + 1]? = some (.cells #[.int .i64 0,.string ⟨#[]⟩,.slice none 0 0] 42):=alloc_at (by simp)
 have B0 : Below w.heap.size w ((w.alloc (.cells #[.int .i64 ty,.string lo,.slice ca n cc] 42)).alloc (.cells #[.int .i64 0,.string ⟨#[]⟩,.slice none 0 0] 42)):=B1.trans (B2.mono (by simp))
 have z : ((w.alloc (.cells #[.int .i64 ty,.string lo,.slice ca n cc] 42)).alloc (.cells #[.int .i64 0,.string ⟨#[]⟩,.slice none 0 0] 42)).heap.size = w.heap.size + 2:=by simp
 have HW:=hid (copyCode ca n cc xs _ hn hcap (h.later B0 (Nat.le_refl _)) hln)
 have HB:=hid (And.intro B0 z)
 have c2 : ((w.alloc (.cells #[.int .i64 ty,.string lo,.slice ca n cc] 42)).alloc (.cells #[.int .i64 0,.string ⟨#[]⟩,.slice none 0 0] 42)).cell? ⟨w.heap.size,2,none⟩ = some (.slice ca n cc):=cell_at b1
 clear h hln B1 B2 B0 z
 go_enter Tryz.func83,Tryz.ntmps83
 go_wp2_with fail
 generalize (w.alloc (.cells #[.int .i64 ty,.string lo,.slice ca n cc] 42)).alloc (.cells #[.int .i64 0,.string ⟨#[]⟩,.slice none 0 0] 42) = W1 at *
 refine HW.out.mono ?_
 rintro e w1 ⟨v,ys,rfl,hcp⟩
 obtain ⟨va,vc,hv⟩:=hcp.row.slice
 rw [hcp.len] at hv
 subst hv
 have d1:=blk_later hcp.bel b1
 have d2:=blk_later hcp.bel b2
 have x0 : w1.cell? ⟨w.heap.size,0,none⟩ = some (.int .i64 ty):=cell_at d1
 have x1 : w1.cell? ⟨w.heap.size,1,none⟩ = some (.string lo):=cell_at d1
 have x2 : w1.cell? ⟨w.heap.size,2,none⟩ = some (.slice ca n cc):=cell_at d1
 have f2 : w1.frozen? ⟨w.heap.size,2,none⟩ = false:=free_at d1
 have y0 : w1.cell? ⟨w.heap.size + 1,0,none⟩ = some (.int .i64 0):=cell_at d2
 have y1 : w1.cell? ⟨w.heap.size + 1,1,none⟩ = some (.string ⟨#[]⟩):=cell_at d2
 have y2 : w1.cell? ⟨w.heap.size + 1,2,none⟩ = some (.slice none 0 0):=cell_at d2
 have g0 : w1.frozen? ⟨w.heap.size + 1,0,none⟩ = false:=free_at d2
 have g1 : w1.frozen? ⟨w.heap.size + 1,1,none⟩ = false:=free_at d2
 have g2 : w1.frozen? ⟨w.heap.size + 1,2,none⟩ = false:=free_at d2
 have HCP:=hid hcp
 clear hcp HW c2 b1 b2 d1 d2
 go_wp2_with fail
 refine bodyPost_ret (v:=.agg #[.int .i64 ty,.string lo,.slice va n vc]) (by simp [results,Tryz.results83,go_sem,y0,y1,y2]) rfl ⟨va,vc,ys,rfl,HCP.out.move HB.out.1 ?_⟩
 have hz:=HB.out.2
 exact ((((kept_set w1 w.heap.size 2 _).mono (fun k hk => by omega)).trans ((kept_set _ (w.heap.size + 1) 0 _).mono (fun k hk => by omega))).trans ((kept_set _ (w.heap.size + 1) 1 _).mono (fun k hk => by omega))).trans ((kept_set _ (w.heap.size + 1) 2 _).mono (fun k hk => by omega))
end Go.Proofs.YtepnnenohjfkbaaGreatDoor

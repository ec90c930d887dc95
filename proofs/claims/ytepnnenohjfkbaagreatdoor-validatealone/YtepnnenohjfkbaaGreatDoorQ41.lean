/-
  Texts Xd Xe Xf.
-/
import Derived.Test.YtepnnenohjfkbaaGreatDoorQ00
import Derived.Test.YtepnnenohjfkbaaGreatDoorQ40
set_option linter.unusedVariables false
set_option maxRecDepth 100000
set_option maxHeartbeats 16000000
namespace Go.Proofs.YtepnnenohjfkbaaGreatDoor
open Go.RowKit
def Fl (w : World) (a : Option Addr) (n : Nat) (fl : List Value) : Prop:=n = 0 ∨ ∃ b off,a = some ⟨b,off,none⟩ ∧ ∀ (j : Nat) y,fl[j]? = some y → w.cell? ⟨b,off + j,none⟩ = some y
theorem Fl.later {w w' : World} {a : Option Addr} {n : Nat} {fl : List Value} (h : Fl w a n fl) (hb : Below w.heap.size w w') : Fl w' a n fl:=by
 rcases h with h | ⟨b,off,e,h⟩
 ·exact .inl h
 ·exact .inr ⟨b,off,e,fun j y hj => later_cell hb (h j y hj)⟩
theorem fm_get {α β : Type} (g : α → List β) (k : Nat) (hk : ∀ x,(g x).length = k) : ∀ (l : List α) (i q : Nat),q < k → (l.flatMap g)[i * k + q]? = (l[i]?).bind fun x => (g x)[q]?
 | [],i,q,_ => by simp
 | x :: l,0,q,hq => by
  rw [List.flatMap_cons,List.getElem?_append_left (by rw [hk]; omega)]
  simp
 | x :: l,i + 1,q,hq => by
  have ih:=fm_get g k hk l i q hq
  rw [List.flatMap_cons,List.getElem?_append_right (by rw [hk,Nat.succ_mul]; omega),hk]
  rw [show (i + 1) * k + q - k = i * k + q by rw [Nat.succ_mul]; omega,ih]
  simp
theorem fm_len {α β : Type} (g : α → List β) (k : Nat) (hk : ∀ x,(g x).length = k) : ∀ (l : List α),(l.flatMap g).length = l.length * k
 | [] => by simp
 | x :: l => by rw [List.flatMap_cons,List.length_append,hk,fm_len g k hk l,List.length_cons,Nat.succ_mul]; omega
theorem fm_fl {α : Type} {w : World} {a : Option Addr} {n k : Nat} (g : α → List Value) (hk : ∀ x,(g x).length = k) (h0 : 0 < k) {l : List α} (h : n = 0 ∨ ∃ b off,a = some ⟨b,off,none⟩ ∧ ∀ (j : Nat) x,l[j]? = some x → ∀ q y,(g x)[q]? = some y → w.cell? ⟨b,off + j * k + q,none⟩ = some y) : Fl w a n (l.flatMap g):=by
 rcases h with h | ⟨b,off,e,h⟩
 ·exact .inl h
 ·refine .inr ⟨b,off,e,fun j y hj => ?_⟩
  have hq : j % k < k:=Nat.mod_lt _ h0
  have hjj : j / k * k + j % k = j:=by rw [Nat.mul_comm]; exact Nat.div_add_mod j k
  rw [← hjj,fm_get g k hk l _ _ hq] at hj
  obtain ⟨x,hx,hy⟩:=Option.bind_eq_some_iff.1 hj
  have:=h (j / k) x hx (j % k) y hy
  rwa [Nat.add_assoc,hjj] at this
theorem own_fm {α : Type} {w : World} {base e n k : Nat} {v : Value} (g : α → List Value) (hk : ∀ x,(g x).length = k) {l : List α} (h : w.ownsRow base e k v n (l.flatMap g)) (hn : l.length = n) :
  ∃ a c,v = .slice a n c ∧ n ≤ c ∧ (∀ b off cc,a = some ⟨b,off,cc⟩ → base ≤ b ∧ b < w.heap.size ∧ ∃ cur,w.heap[b]? = some (.cells cur e)) ∧ (n = 0 ∨ ∃ b off,a = some ⟨b,off,none⟩ ∧ off = 0 ∧ ∀ (j : Nat) x,l[j]? = some x → ∀ q,q < k → w.cell? ⟨b,off + j * k + q,none⟩ = (g x)[q]?):=by
 rcases h.2 with ⟨rfl,h0⟩ | ⟨b,cap,cur,rfl,h2,h3,h4,h5,h6,h7⟩
 ·exact ⟨none,0,by rw [h0],by omega,fun b off cc e => (by cases e),.inl h0⟩
 ·refine ⟨some ⟨b,0,none⟩,cap,rfl,h4,fun b' off cc e => ?_,.inr ⟨b,0,rfl,rfl,fun j x hx q hq => ?_⟩⟩
  ·cases e
   exact ⟨h2,blk_lt h3,cur,h3⟩
  ·have hjn : j < n:=by have:=lt_of_get hx; omega
   have hlt : j * k + q < n * k:=by
    have : (j + 1) * k ≤ n * k:=Nat.mul_le_mul_right k hjn
    rw [Nat.succ_mul] at this; omega
   have hc:=World.ownsRow.cellAt h (j * k + q) hlt
   rw [Nat.zero_add,hc,fm_get g k hk l j q hq,hx]; rfl
theorem Tryz.infSigs : (Tryz.prog.info? 62).map (fun i => (i.zero,i.size,i.bytes)) = some (some (.agg #[.string ⟨#[]⟩,.string ⟨#[]⟩]),2,32):=by kernel_rfl
theorem app_nilSigs (w : World) {ops : Array Oper} {rest : List Oper} {o : Oper} {a : Act} {Q : Exit → Act → World → Prop} (hgd : o.guard = none)
  (s x : Operand) (ho : o.op = Op.call { callee:=Callee.builtin Builtin.append,args:=#[s,x],argTypes:=#[22,22] })
  (c : Nat) (hs : a.eval s = .slice none 0 0) (hx : a.eval x = .slice none 0 c) (h : wpList Tryz.prog ops Q rest (a.put o.dst (.slice none 0 0)) w) : wpList Tryz.prog ops Q (o :: rest) a w:=by
 obtain ⟨i0,hi,_⟩:=info_parts Tryz.infSigs
 refine wpList_plain hgd fun K hK => ?_
 unfold Oper.wp
 simp [execOp,ho,resolve,invoke,builtin,hs,hx,Builtin.append_,run_underlying Tryz.underlying22,sizeOf,typeInfo,hi,Builtin.lenOf,Builtin.firstCells,Result.andThen]
 exact hK _ _ h
theorem copySigs (a : Option Addr) (n c : Nat) (fl : List Value) (w : World) (h : Fl w a n fl) (hl : fl.length = n * 2) (h1 : ∀ u ∈ fl,u.oneCell' = true) (hn : n ≤ 1000000) :
  Calls Tryz.prog 37 #[.slice a n c] w fun e w' => ∃ v,e = .returned v ∧ w'.ownsRow w.heap.size 62 2 v n fl ∧ Below w.heap.size w w':=by
 by_cases ha : a = none
 ·subst ha
  have hn0 : n = 0:=by
   rcases h with h | ⟨b,off,e,_⟩
   ·exact h
   ·cases e
  subst hn0
  have hl0 : fl = []:=List.eq_nil_of_length_eq_zero (by omega)
  subst hl0
  clear h hl
  go_enter Tryz.func37,Tryz.ntmps37
  go_wp2_with (first | (at_builtin; refine app_nilSigs _ rfl (.tmp 4) (.tmp 5) rfl c rfl rfl ?_))
  go_ret
  exact ⟨_,rfl,World.ownsRow_nil _ _ _ _,Below.refl _ _⟩
 ·obtain ⟨ad,rfl⟩:=Option.ne_none_iff_exists'.1 ha
  have hu : ∀ (j : Nat) (y : Value),fl[j]? = some y → w.cell? (ad.add j) = some y:=fun j y hj => by
   have hj':=lt_of_get hj
   rcases h with h | ⟨b,off,e,hcell⟩
   ·omega
   ·have e:=Option.some.inj e
    subst e
    have hplain : (⟨b,off,none⟩ : Addr).add j = ⟨b,off + j,none⟩:=by unfold Addr.add; split <;> simp_all
    rw [hplain]
    exact hcell j y hj
  have HU:=hid hu
  have H1:=hid h1
  obtain ⟨i0,hi,hz0,hz1,hz2⟩:=info_parts Tryz.infSigs
  clear hu h ha h1
  go_enter Tryz.func37,Tryz.ntmps37
  go_wp2_with (first | (at_builtin; refine wpList_append_own _ rfl (.tmp 4) (.tmp 5) 22 rfl w.heap.size 62 i0 _ 2 32 Tryz.underlying22 hi hz0 hz1 hz2 rfl (by decide) _ 0 [] rfl (World.ownsRow_nil _ _ _ _) ad n c fl rfl hl HU.out H1.out (by unfold maxLen; omega) (by omega) (Nat.le_refl _) ?_; intro v' w' hown hg _; have HO:=hid hown; have HB:=hid ((Kept.of_grown hg).to_below (Nat.le_refl w.heap.size) (fun k hk e => by cases e)); clear hown hg))
  obtain ⟨va,vc,hv,_⟩ : ∃ va vc,v' = .slice va n vc ∧ True:=by
   rcases HO.out.2 with ⟨h0,h1⟩ | ⟨g,cp,cur,h1,_⟩
   ·exact ⟨none,0,by rw [h0]; congr 1; omega,trivial⟩
   ·exact ⟨_,_,by rw [h1]; congr 1; omega,trivial⟩
  subst hv
  go_ret
  exact ⟨_,rfl,by simpa using HO.out,HB.out⟩
theorem Tryz.infNums : (Tryz.prog.info? 3).map (fun i => (i.zero,i.size,i.bytes)) = some (some (.int .i64 0),1,8):=by kernel_rfl
theorem app_nilNums (w : World) {ops : Array Oper} {rest : List Oper} {o : Oper} {a : Act} {Q : Exit → Act → World → Prop} (hgd : o.guard = none)
  (s x : Operand) (ho : o.op = Op.call { callee:=Callee.builtin Builtin.append,args:=#[s,x],argTypes:=#[23,23] })
  (c : Nat) (hs : a.eval s = .slice none 0 0) (hx : a.eval x = .slice none 0 c) (h : wpList Tryz.prog ops Q rest (a.put o.dst (.slice none 0 0)) w) : wpList Tryz.prog ops Q (o :: rest) a w:=by
 obtain ⟨i0,hi,_⟩:=info_parts Tryz.infNums
 refine wpList_plain hgd fun K hK => ?_
 unfold Oper.wp
 simp [execOp,ho,resolve,invoke,builtin,hs,hx,Builtin.append_,run_underlying Tryz.underlying23,sizeOf,typeInfo,hi,Builtin.lenOf,Builtin.firstCells,Result.andThen]
 exact hK _ _ h
theorem copyNums (a : Option Addr) (n c : Nat) (fl : List Value) (w : World) (h : Fl w a n fl) (hl : fl.length = n * 1) (h1 : ∀ u ∈ fl,u.oneCell' = true) (hn : n ≤ 1000000) :
  Calls Tryz.prog 38 #[.slice a n c] w fun e w' => ∃ v,e = .returned v ∧ w'.ownsRow w.heap.size 3 1 v n fl ∧ Below w.heap.size w w':=by
 by_cases ha : a = none
 ·subst ha
  have hn0 : n = 0:=by
   rcases h with h | ⟨b,off,e,_⟩
   ·exact h
   ·cases e
  subst hn0
  have hl0 : fl = []:=List.eq_nil_of_length_eq_zero (by omega)
  subst hl0
  clear h hl
  go_enter Tryz.func38,Tryz.ntmps38
  go_wp2_with (first | (at_builtin; refine app_nilNums _ rfl (.tmp 4) (.tmp 5) rfl c rfl rfl ?_))
  go_ret
  exact ⟨_,rfl,World.ownsRow_nil _ _ _ _,Below.refl _ _⟩
 ·obtain ⟨ad,rfl⟩:=Option.ne_none_iff_exists'.1 ha
  have hu : ∀ (j : Nat) (y : Value),fl[j]? = some y → w.cell? (ad.add j) = some y:=fun j y hj => by
   have hj':=lt_of_get hj
   rcases h with h | ⟨b,off,e,hcell⟩
   ·omega
   ·have e:=Option.some.inj e
    subst e
    have hplain : (⟨b,off,none⟩ : Addr).add j = ⟨b,off + j,none⟩:=by unfold Addr.add; split <;> simp_all
    rw [hplain]
    exact hcell j y hj
  have HU:=hid hu
  have H1:=hid h1
  obtain ⟨i0,hi,hz0,hz1,hz2⟩:=info_parts Tryz.infNums
  clear hu h ha h1
  go_enter Tryz.func38,Tryz.ntmps38
  go_wp2_with (first | (at_builtin; refine wpList_append_own _ rfl (.tmp 4) (.tmp 5) 23 rfl w.heap.size 3 i0 _ 1 8 Tryz.underlying23 hi hz0 hz1 hz2 rfl (by decide) _ 0 [] rfl (World.ownsRow_nil _ _ _ _) ad n c fl rfl hl HU.out H1.out (by unfold maxLen; omega) (by omega) (Nat.le_refl _) ?_; intro v' w' hown hg _; have HO:=hid hown; have HB:=hid ((Kept.of_grown hg).to_below (Nat.le_refl w.heap.size) (fun k hk e => by cases e)); clear hown hg))
  obtain ⟨va,vc,hv,_⟩ : ∃ va vc,v' = .slice va n vc ∧ True:=by
   rcases HO.out.2 with ⟨h0,h1⟩ | ⟨g,cp,cur,h1,_⟩
   ·exact ⟨none,0,by rw [h0]; congr 1; omega,trivial⟩
   ·exact ⟨_,_,by rw [h1]; congr 1; omega,trivial⟩
  subst hv
  go_ret
  exact ⟨_,rfl,by simpa using HO.out,HB.out⟩
theorem Tryz.infGls : (Tryz.prog.info? 141).map (fun i => (i.zero,i.size,i.bytes)) = some (some (.agg #[.int .u8 0,.bool false,.int .u64 0]),3,16):=by kernel_rfl
theorem app_nilGls (w : World) {ops : Array Oper} {rest : List Oper} {o : Oper} {a : Act} {Q : Exit → Act → World → Prop} (hgd : o.guard = none)
  (s x : Operand) (ho : o.op = Op.call { callee:=Callee.builtin Builtin.append,args:=#[s,x],argTypes:=#[24,24] })
  (c : Nat) (hs : a.eval s = .slice none 0 0) (hx : a.eval x = .slice none 0 c) (h : wpList Tryz.prog ops Q rest (a.put o.dst (.slice none 0 0)) w) : wpList Tryz.prog ops Q (o :: rest) a w:=by
 obtain ⟨i0,hi,_⟩:=info_parts Tryz.infGls
 refine wpList_plain hgd fun K hK => ?_
 unfold Oper.wp
 simp [execOp,ho,resolve,invoke,builtin,hs,hx,Builtin.append_,run_underlying Tryz.underlying24,sizeOf,typeInfo,hi,Builtin.lenOf,Builtin.firstCells,Result.andThen]
 exact hK _ _ h
theorem copyGls (a : Option Addr) (n c : Nat) (fl : List Value) (w : World) (h : Fl w a n fl) (hl : fl.length = n * 3) (h1 : ∀ u ∈ fl,u.oneCell' = true) (hn : n ≤ 1000000) :
  Calls Tryz.prog 39 #[.slice a n c] w fun e w' => ∃ v,e = .returned v ∧ w'.ownsRow w.heap.size 141 3 v n fl ∧ Below w.heap.size w w':=by
 by_cases ha : a = none
 ·subst ha
  have hn0 : n = 0:=by
   rcases h with h | ⟨b,off,e,_⟩
   ·exact h
   ·cases e
  subst hn0
  have hl0 : fl = []:=List.eq_nil_of_length_eq_zero (by omega)
  subst hl0
  clear h hl
  go_enter Tryz.func39,Tryz.ntmps39
  go_wp2_with (first | (at_builtin; refine app_nilGls _ rfl (.tmp 4) (.tmp 5) rfl c rfl rfl ?_))
  go_ret
  exact ⟨_,rfl,World.ownsRow_nil _ _ _ _,Below.refl _ _⟩
 ·obtain ⟨ad,rfl⟩:=Option.ne_none_iff_exists'.1 ha
  have hu : ∀ (j : Nat) (y : Value),fl[j]? = some y → w.cell? (ad.add j) = some y:=fun j y hj => by
   have hj':=lt_of_get hj
   rcases h with h | ⟨b,off,e,hcell⟩
   ·omega
   ·have e:=Option.some.inj e
    subst e
    have hplain : (⟨b,off,none⟩ : Addr).add j = ⟨b,off + j,none⟩:=by unfold Addr.add; split <;> simp_all
    rw [hplain]
    exact hcell j y hj
  have HU:=hid hu
  have H1:=hid h1
  obtain ⟨i0,hi,hz0,hz1,hz2⟩:=info_parts Tryz.infGls
  clear hu h ha h1
  go_enter Tryz.func39,Tryz.ntmps39
  go_wp2_with (first | (at_builtin; refine wpList_append_own _ rfl (.tmp 4) (.tmp 5) 24 rfl w.heap.size 141 i0 _ 3 16 Tryz.underlying24 hi hz0 hz1 hz2 rfl (by decide) _ 0 [] rfl (World.ownsRow_nil _ _ _ _) ad n c fl rfl hl HU.out H1.out (by unfold maxLen; omega) (by omega) (Nat.le_refl _) ?_; intro v' w' hown hg _; have HO:=hid hown; have HB:=hid ((Kept.of_grown hg).to_below (Nat.le_refl w.heap.size) (fun k hk e => by cases e)); clear hown hg))
  obtain ⟨va,vc,hv,_⟩ : ∃ va vc,v' = .slice va n vc ∧ True:=by
   rcases HO.out.2 with ⟨h0,h1⟩ | ⟨g,cp,cur,h1,_⟩
   ·exact ⟨none,0,by rw [h0]; congr 1; omega,trivial⟩
   ·exact ⟨_,_,by rw [h1]; congr 1; omega,trivial⟩
  subst hv
  go_ret
  exact ⟨_,rfl,by simpa using HO.out,HB.out⟩
theorem Tryz.infExps : (Tryz.prog.info? 68).map (fun i => (i.zero,i.size,i.bytes)) = some (some (.agg #[.string ⟨#[]⟩,.int .i64 0]),2,24):=by kernel_rfl
theorem app_nilExps (w : World) {ops : Array Oper} {rest : List Oper} {o : Oper} {a : Act} {Q : Exit → Act → World → Prop} (hgd : o.guard = none)
  (s x : Operand) (ho : o.op = Op.call { callee:=Callee.builtin Builtin.append,args:=#[s,x],argTypes:=#[27,27] })
  (c : Nat) (hs : a.eval s = .slice none 0 0) (hx : a.eval x = .slice none 0 c) (h : wpList Tryz.prog ops Q rest (a.put o.dst (.slice none 0 0)) w) : wpList Tryz.prog ops Q (o :: rest) a w:=by
 obtain ⟨i0,hi,_⟩:=info_parts Tryz.infExps
 refine wpList_plain hgd fun K hK => ?_
 unfold Oper.wp
 simp [execOp,ho,resolve,invoke,builtin,hs,hx,Builtin.append_,run_underlying Tryz.underlying27,sizeOf,typeInfo,hi,Builtin.lenOf,Builtin.firstCells,Result.andThen]
 exact hK _ _ h
theorem copyExps (a : Option Addr) (n c : Nat) (fl : List Value) (w : World) (h : Fl w a n fl) (hl : fl.length = n * 2) (h1 : ∀ u ∈ fl,u.oneCell' = true) (hn : n ≤ 1000000) :
  Calls Tryz.prog 42 #[.slice a n c] w fun e w' => ∃ v,e = .returned v ∧ w'.ownsRow w.heap.size 68 2 v n fl ∧ Below w.heap.size w w':=by
 by_cases ha : a = none
 ·subst ha
  have hn0 : n = 0:=by
   rcases h with h | ⟨b,off,e,_⟩
   ·exact h
   ·cases e
  subst hn0
  have hl0 : fl = []:=List.eq_nil_of_length_eq_zero (by omega)
  subst hl0
  clear h hl
  go_enter Tryz.func42,Tryz.ntmps42
  go_wp2_with (first | (at_builtin; refine app_nilExps _ rfl (.tmp 4) (.tmp 5) rfl c rfl rfl ?_))
  go_ret
  exact ⟨_,rfl,World.ownsRow_nil _ _ _ _,Below.refl _ _⟩
 ·obtain ⟨ad,rfl⟩:=Option.ne_none_iff_exists'.1 ha
  have hu : ∀ (j : Nat) (y : Value),fl[j]? = some y → w.cell? (ad.add j) = some y:=fun j y hj => by
   have hj':=lt_of_get hj
   rcases h with h | ⟨b,off,e,hcell⟩
   ·omega
   ·have e:=Option.some.inj e
    subst e
    have hplain : (⟨b,off,none⟩ : Addr).add j = ⟨b,off + j,none⟩:=by unfold Addr.add; split <;> simp_all
    rw [hplain]
    exact hcell j y hj
  have HU:=hid hu
  have H1:=hid h1
  obtain ⟨i0,hi,hz0,hz1,hz2⟩:=info_parts Tryz.infExps
  clear hu h ha h1
  go_enter Tryz.func42,Tryz.ntmps42
  go_wp2_with (first | (at_builtin; refine wpList_append_own _ rfl (.tmp 4) (.tmp 5) 27 rfl w.heap.size 68 i0 _ 2 24 Tryz.underlying27 hi hz0 hz1 hz2 rfl (by decide) _ 0 [] rfl (World.ownsRow_nil _ _ _ _) ad n c fl rfl hl HU.out H1.out (by unfold maxLen; omega) (by omega) (Nat.le_refl _) ?_; intro v' w' hown hg _; have HO:=hid hown; have HB:=hid ((Kept.of_grown hg).to_below (Nat.le_refl w.heap.size) (fun k hk e => by cases e)); clear hown hg))
  obtain ⟨va,vc,hv,_⟩ : ∃ va vc,v' = .slice va n vc ∧ True:=by
   rcases HO.out.2 with ⟨h0,h1⟩ | ⟨g,cp,cur,h1,_⟩
   ·exact ⟨none,0,by rw [h0]; congr 1; omega,trivial⟩
   ·exact ⟨_,_,by rw [h1]; congr 1; omega,trivial⟩
  subst hv
  go_ret
  exact ⟨_,rfl,by simpa using HO.out,HB.out⟩
theorem Tryz.infByts : (Tryz.prog.info? 5).map (fun i => (i.zero,i.size,i.bytes)) = some (some (.int .u8 0),1,1):=by kernel_rfl
theorem app_nilByts (w : World) {ops : Array Oper} {rest : List Oper} {o : Oper} {a : Act} {Q : Exit → Act → World → Prop} (hgd : o.guard = none)
  (s x : Operand) (ho : o.op = Op.call { callee:=Callee.builtin Builtin.append,args:=#[s,x],argTypes:=#[64,64] })
  (c : Nat) (hs : a.eval s = .slice none 0 0) (hx : a.eval x = .slice none 0 c) (h : wpList Tryz.prog ops Q rest (a.put o.dst (.slice none 0 0)) w) : wpList Tryz.prog ops Q (o :: rest) a w:=by
 obtain ⟨i0,hi,_⟩:=info_parts Tryz.infByts
 refine wpList_plain hgd fun K hK => ?_
 unfold Oper.wp
 simp [execOp,ho,resolve,invoke,builtin,hs,hx,Builtin.append_,run_underlying Tryz.underlying64,sizeOf,typeInfo,hi,Builtin.lenOf,Builtin.firstCells,Result.andThen]
 exact hK _ _ h
theorem copyByts (a : Option Addr) (n c : Nat) (fl : List Value) (w : World) (h : Fl w a n fl) (hl : fl.length = n * 1) (h1 : ∀ u ∈ fl,u.oneCell' = true) (hn : n ≤ 1000000) :
  Calls Tryz.prog 135 #[.slice a n c] w fun e w' => ∃ v,e = .returned v ∧ w'.ownsRow w.heap.size 5 1 v n fl ∧ Below w.heap.size w w':=by
 by_cases ha : a = none
 ·subst ha
  have hn0 : n = 0:=by
   rcases h with h | ⟨b,off,e,_⟩
   ·exact h
   ·cases e
  subst hn0
  have hl0 : fl = []:=List.eq_nil_of_length_eq_zero (by omega)
  subst hl0
  clear h hl
  go_enter Tryz.func135,Tryz.ntmps135
  go_wp2_with (first | (at_builtin; refine app_nilByts _ rfl (.tmp 4) (.tmp 5) rfl c rfl rfl ?_))
  go_ret
  exact ⟨_,rfl,World.ownsRow_nil _ _ _ _,Below.refl _ _⟩
 ·obtain ⟨ad,rfl⟩:=Option.ne_none_iff_exists'.1 ha
  have hu : ∀ (j : Nat) (y : Value),fl[j]? = some y → w.cell? (ad.add j) = some y:=fun j y hj => by
   have hj':=lt_of_get hj
   rcases h with h | ⟨b,off,e,hcell⟩
   ·omega
   ·have e:=Option.some.inj e
    subst e
    have hplain : (⟨b,off,none⟩ : Addr).add j = ⟨b,off + j,none⟩:=by unfold Addr.add; split <;> simp_all
    rw [hplain]
    exact hcell j y hj
  have HU:=hid hu
  have H1:=hid h1
  obtain ⟨i0,hi,hz0,hz1,hz2⟩:=info_parts Tryz.infByts
  clear hu h ha h1
  go_enter Tryz.func135,Tryz.ntmps135
  go_wp2_with (first | (at_builtin; refine wpList_append_own _ rfl (.tmp 4) (.tmp 5) 64 rfl w.heap.size 5 i0 _ 1 1 Tryz.underlying64 hi hz0 hz1 hz2 rfl (by decide) _ 0 [] rfl (World.ownsRow_nil _ _ _ _) ad n c fl rfl hl HU.out H1.out (by unfold maxLen; omega) (by omega) (Nat.le_refl _) ?_; intro v' w' hown hg _; have HO:=hid hown; have HB:=hid ((Kept.of_grown hg).to_below (Nat.le_refl w.heap.size) (fun k hk e => by cases e)); clear hown hg))
  obtain ⟨va,vc,hv,_⟩ : ∃ va vc,v' = .slice va n vc ∧ True:=by
   rcases HO.out.2 with ⟨h0,h1⟩ | ⟨g,cp,cur,h1,_⟩
   ·exact ⟨none,0,by rw [h0]; congr 1; omega,trivial⟩
   ·exact ⟨_,_,by rw [h1]; congr 1; omega,trivial⟩
  subst hv
  go_ret
  exact ⟨_,rfl,by simpa using HO.out,HB.out⟩
theorem own_keepB {S : Nat → Prop} {w w' : World} {base e k n : Nat} {v : Value} {xs : List Value} (h : w.ownsRow base e k v n xs) (hk : Kept S w w') (hs : ∀ b,v.ownBlock = some b → ¬ S b) : w'.ownsRow base e k v n xs:=by
 refine ⟨h.1,?_⟩
 rcases h.2 with h0 | ⟨g,cp,cur,rfl,h2,h3,h4⟩
 ·exact .inl h0
 ·exact .inr ⟨g,cp,cur,rfl,h2,(hk.block g (blk_lt h3) (hs g rfl)).trans h3,h4⟩
theorem own_low {w : World} {base base' e k n : Nat} {v : Value} {xs : List Value} (h : w.ownsRow base e k v n xs) (hb : base' ≤ base) : w.ownsRow base' e k v n xs:=by
 refine ⟨h.1,?_⟩
 rcases h.2 with h0 | ⟨g,cp,cur,h1,h2,h3⟩
 ·exact .inl h0
 ·exact .inr ⟨g,cp,cur,h1,Nat.le_trans hb h2,h3⟩
theorem own_ty {w : World} {base e k n b : Nat} {v : Value} {xs : List Value} (h : w.ownsRow base e k v n xs) (hb : v.ownBlock = some b) : base ≤ b ∧ b < w.heap.size ∧ ∃ cur,w.heap[b]? = some (.cells cur e):=by
 rcases h.2 with ⟨h0,_⟩ | ⟨g,cp,cur,rfl,h2,h3,h4⟩
 ·rw [h0] at hb; cases hb
 ·obtain rfl : g = b:=by simpa [Value.ownBlock] using hb
  exact ⟨h2,blk_lt h3,cur,h3⟩
theorem own_sl {w : World} {base e k n : Nat} {v : Value} {xs : List Value} (h : w.ownsRow base e k v n xs) : ∃ a c,v = .slice a n c:=by
 rcases h.2 with ⟨h0,h1⟩ | ⟨g,cp,cur,h1,_⟩
 ·exact ⟨none,0,by rw [h0,h1]⟩
 ·exact ⟨_,_,h1⟩
theorem copyCode0 (a : Option Addr) (c : Nat) (w : World) : Calls Tryz.prog 134 #[.slice a 0 c] w fun e w' => e = .returned (.slice none 0 0) ∧ w' = w:=by
 go_enter Tryz.func134,Tryz.ntmps134
 go_wp2_with fail
 refine wp_loop_rounds 1 ?_
 rw [rounds_succ]
 go_wp2_with fail
 go_ret
 exact ⟨rfl,rfl⟩
theorem copyCode (a : Option Addr) (n cap : Nat) (xs : List Inx) (w : World) (hn : n ≤ 100000) (hcap : n ≤ cap) (h : CodS w a n xs) (hln : ∀ j,j < n → (xs.getD j dx).ln ≤ 100000) :
  Calls Tryz.prog 134 #[.slice a n cap] w fun e w' => ∃ v ys,e = .returned v ∧ CP w xs n v ys w':=by
 by_cases h0 : n = 0
 ·subst h0
  refine (copyCode0 a cap w).mono ?_
  rintro e w' ⟨rfl,rfl⟩
  exact ⟨_,[],rfl,rfl,LC.nil _ _,(fun y hy => by cases hy),(fun j hj => by omega),Below.refl _ _⟩
 ·obtain ⟨b,off,rfl,hc⟩:=h.2.resolve_left h0
  exact copyCode_in b off n cap xs w hn hcap hc hln
theorem CP.move {w W1 w1 w2 : World} {xs ys : List Inx} {n : Nat} {v : Value} (h : CP W1 xs n v ys w1) (hB : Below w.heap.size w W1) (hk : Kept (fun k => w.heap.size ≤ k ∧ k < W1.heap.size) w1 w2) : CP w xs n v ys w2:=by
 refine ⟨h.len,own_low (own_keepB h.row hk (fun b hb hx => by have:=(own_ty h.row hb).1; omega)) hB.size,fun y hy => own_low (own_keepB (h.lab y hy) hk (fun b hb hx => by have:=(own_ty (h.lab y hy) hb).1; omega)) hB.size,h.same,?_⟩
 have h1 : Below w.heap.size w w1:=hB.trans (h.bel.mono hB.size)
 exact h1.trans (hk.to_below (B:=w.heap.size) h1.size (fun k hk hx => by omega))
theorem copyFn (ty : Int) (lo : ByteArray) (ca : Option Addr) (n cc : Nat) (xs : List Inx) (w : World) (hn : n ≤ 100000) (hcap : n ≤ cc) (h : CodS w ca n xs) (hln : ∀ j,j < n → (xs.getD j dx).ln ≤ 100000) :
  Calls Tryz.prog 83 #[.agg #[.int .i64 ty,.string lo,.slice ca n cc]] w fun e w' => ∃ va vc ys,e = .returned (.agg #[.int .i64 ty,.string lo,.slice va n vc]) ∧ CP w xs n (.slice va n vc) ys w':=by
 have B1:=below_new w (.cells #[.int .i64 ty,.string lo,.slice ca n cc] 42)
 have B2:=below_new (w.alloc (.cells #[.int .i64 ty,.string lo,.slice ca n cc] 42)) (.cells #[.int .i64 0,.string ⟨#[]⟩,.slice none 0 0] 42)
 have b1:=blk_later B2 (heap_alloc_new w (.cells #[.int .i64 ty,.string lo,.slice ca n cc] 42))
 have b2 : ((w.alloc (.cells #[.int .i64 ty,.string lo,.slice ca n cc] 42)).alloc (.cells #[.int .i64 0,.string ⟨#[]⟩,.slice none 0 0] 42)).heap[w.heap.size + 1]? = some (.cells #[.int .i64 0,.string ⟨#[]⟩,.slice none 0 0] 42):=alloc_at (by simp)
 have B0 : Below w.heap.size w ((w.alloc (.cells #[.int .i64 ty,.string lo,.slice ca n cc] 42)).alloc (.cells #[.int .i64 0,.string ⟨#[]⟩,.slice none 0 0] 42)):=B1.trans (B2.mono (by simp))
 have z : ((w.alloc (.cells #[.int .i64 ty,.string lo,.slice ca n cc] 42)).alloc (.cells #[.int .i64 0,.string ⟨#[]⟩,.slice none 0 0] 42)).heap.size = w.heap.size + 2:=by simp
 have HW:=hid (copyCode ca n cc xs _ hn hcap (h.later B0 (Nat.le_refl _)) hln)
 have HB:=hid (And.intro B0 z)
 have c2 : ((w.alloc (.cells #[.int .i64 ty,.string lo,.slice ca n cc] 42)).alloc (.cells #[.int .i64 0,.string ⟨#[]⟩,.slice none 0 0] 42)).cell? ⟨w.heap.size,2,none⟩ = some (.slice ca n cc):=cell_at b1
 clear h hln B1 B2 B0 z
 go_enter Tryz.func83,Tryz.ntmps83
 go_wp2_with fail
 generalize (w.alloc (.cells #[.int .i64 ty,.string lo,.slice ca n cc] 42)).alloc (.cells #[.int .i64 0,.string ⟨#[]⟩,.slice none 0 0] 42) = W1 at *
 refine HW.out.mono ?_
 rintro e w1 ⟨v,ys,rfl,hcp⟩
 obtain ⟨va,vc,hv⟩:=hcp.row.slice
 rw [hcp.len] at hv
 subst hv
 have d1:=blk_later hcp.bel b1
 have d2:=blk_later hcp.bel b2
 have x0 : w1.cell? ⟨w.heap.size,0,none⟩ = some (.int .i64 ty):=cell_at d1
 have x1 : w1.cell? ⟨w.heap.size,1,none⟩ = some (.string lo):=cell_at d1
 have x2 : w1.cell? ⟨w.heap.size,2,none⟩ = some (.slice ca n cc):=cell_at d1
 have f2 : w1.frozen? ⟨w.heap.size,2,none⟩ = false:=free_at d1
 have y0 : w1.cell? ⟨w.heap.size + 1,0,none⟩ = some (.int .i64 0):=cell_at d2
 have y1 : w1.cell? ⟨w.heap.size + 1,1,none⟩ = some (.string ⟨#[]⟩):=cell_at d2
 have y2 : w1.cell? ⟨w.heap.size + 1,2,none⟩ = some (.slice none 0 0):=cell_at d2
 have g0 : w1.frozen? ⟨w.heap.size + 1,0,none⟩ = false:=free_at d2
 have g1 : w1.frozen? ⟨w.heap.size + 1,1,none⟩ = false:=free_at d2
 have g2 : w1.frozen? ⟨w.heap.size + 1,2,none⟩ = false:=free_at d2
 have HCP:=hid hcp
 clear hcp HW c2 b1 b2 d1 d2
 go_wp2_with fail
 refine bodyPost_ret (v:=.agg #[.int .i64 ty,.string lo,.slice va n vc]) (by simp [results,Tryz.results83,go_sem,y0,y1,y2]) rfl ⟨va,vc,ys,rfl,HCP.out.move HB.out.1 ?_⟩
 have hz:=HB.out.2
 exact ((((kept_set w1 w.heap.size 2 _).mono (fun k hk => by omega)).trans ((kept_set _ (w.heap.size + 1) 0 _).mono (fun k hk => by omega))).trans ((kept_set _ (w.heap.size + 1) 1 _).mono (fun k hk => by omega))).trans ((kept_set _ (w.heap.size + 1) 2 _).mono (fun k hk => by omega))
def xin (y : Inx) : InM:=(y.c,y.a,(y.la,y.ln,y.lc),y.l)
theorem xin_inx (ys : List Inx) : (ys.map xin).map inx = ys:=by
 rw [List.map_map]
 have : inx ∘ xin = id:=by funext y; rfl
 rw [this,List.map_id]
def fcel (y : FuM) : List Value:=[.int .i64 y.1,.string y.2.1,.slice y.2.2.1.1 y.2.2.1.2.1 y.2.2.1.2.2]
theorem fcel_one (ys : List FuM) : ∀ u ∈ ys.flatMap fcel,u.oneCell' = true:=by
 intro u hu
 obtain ⟨y,_,h⟩:=List.mem_flatMap.1 hu
 simp only [fcel,List.mem_cons,List.not_mem_nil,or_false] at h
 rcases h with rfl | rfl | rfl <;> rfl
def FnL (w : World) (base : Nat) (y : FuM) : Prop:=LC w base (.slice y.2.2.1.1 y.2.2.1.2.1 y.2.2.1.2.2) (y.2.2.2.map inx) ∧ LL w base (y.2.2.2.map inx)
theorem FnL.kept {S : Nat → Prop} {w w' : World} {base : Nat} {y : FuM} (h : FnL w base y) (hk : Kept S w w') (hS : ∀ k,S k → k < w.heap.size → ∃ cur t,w.heap[k]? = some (.cells cur t) ∧ t ≠ 51 ∧ t ≠ 3) : FnL w' base y:=by
 refine ⟨own_keepB h.1 hk (fun b hb hx => ?_),fun z hz => own_keepB (h.2 z hz) hk (fun b hb hx => ?_)⟩
 ·obtain ⟨_,hl,cur,hc⟩:=own_ty h.1 hb
  obtain ⟨c2,t,hc2,h1,h2⟩:=hS b hx hl
  rw [hc] at hc2; simp at hc2
  exact h1 hc2.2.symm
 ·obtain ⟨_,hl,cur,hc⟩:=own_ty (h.2 z hz) hb
  obtain ⟨c2,t,hc2,h1,h2⟩:=hS b hx hl
  rw [hc] at hc2; simp at hc2
  exact h2 hc2.2.symm
theorem FnL.mono {w : World} {base base' : Nat} {y : FuM} (h : FnL w base y) (hb : base' ≤ base) : FnL w base' y:=⟨own_low h.1 hb,fun z hz => own_low (h.2 z hz) hb⟩
structure FnS (x y : FuM) : Prop where
 ty : y.1 = x.1
 lo : y.2.1 = x.2.1
 n : y.2.2.1.2.1 = x.2.2.1.2.1
 len : y.2.2.2.length = x.2.2.2.length
 code : ∀ j,j < x.2.2.2.length → ((y.2.2.2.map inx).getD j dx).c = ((x.2.2.2.map inx).getD j dx).c ∧ ((y.2.2.2.map inx).getD j dx).a = ((x.2.2.2.map inx).getD j dx).a ∧ ((y.2.2.2.map inx).getD j dx).l = ((x.2.2.2.map inx).getD j dx).l ∧ ((y.2.2.2.map inx).getD j dx).ln = ((x.2.2.2.map inx).getD j dx).ln
structure CF (w : World) (fs : List FuM) (k : Nat) (v : Value) (ys : List FuM) (wr : World) : Prop where
 len : ys.length = k
 row : wr.ownsRow w.heap.size 42 3 v k (ys.flatMap fcel)
 fn : ∀ y ∈ ys,FnL wr w.heap.size y
 same : ∀ (j : Nat) x y,fs[j]? = some x → ys[j]? = some y → FnS x y
 bel : Below w.heap.size w wr
theorem Tryz.infFns : (Tryz.prog.info? 42).map (fun i => (i.zero,i.size,i.bytes)) = some (some (.agg #[.int .i64 0,.string ⟨#[]⟩,.slice none 0 0]),3,48):=by kernel_rfl
structure FnC (w : World) (x : FuM) : Prop where
 n : x.2.2.1.2.1 ≤ 100000
 cap : x.2.2.1.2.1 ≤ x.2.2.1.2.2
 cod : CodS w x.2.2.1.1 x.2.2.1.2.1 (x.2.2.2.map inx)
 ln : ∀ j,j < x.2.2.1.2.1 → ((x.2.2.2.map inx).getD j dx).ln ≤ 100000
theorem copyFns (fa : Option Addr) (fn fc : Nat) (fs : List FuM) (w : World) (hf : AtFu w fa fn fs) (hn : fn ≤ 100000) (hx : ∀ x ∈ fs,FnC w x) :
  Calls Tryz.prog 40 #[.slice fa fn fc] w fun e w' => ∃ v ys,e = .returned v ∧ CF w fs fn v ys w':=by
 have hfl:=hf.1
 have HF:=hid hf
 have HX:=hid hx
 obtain ⟨i0,hi,hz0,hz1,hz2⟩:=info_parts Tryz.infFns
 have HI:=hid hi
 clear hf hx hi
 go_enter Tryz.func40,Tryz.ntmps40
 go_wp2_with fail
 go_loopw [3,4] (fun v i wr => ∃ (k : Nat) (ys : List FuM),k ≤ fn ∧ i = .int .i64 k ∧ Hid (CF w fs k v ys wr)) (fun _ i _ => fn - (intOf i).toNat)
 case atStart => exact ⟨0,[],by omega,rfl,hid ⟨rfl,World.ownsRow_nil _ _ _ _,(fun y hy => by cases hy),(fun j x y hj hy => by simp at hy),Below.refl _ _⟩⟩
 case round =>
  obtain ⟨k,ys,hk,rfl,HC⟩:=hrel
  obtain ⟨va,vc,rfl⟩:=own_sl HC.out.row
  by_cases hlt : k < fn
  ·obtain ⟨x,hxk⟩ : ∃ x,fs[k]? = some x:=⟨_,List.getElem?_eq_getElem (by omega)⟩
   obtain ⟨b,off,rfl,hat⟩:=HF.out.2.resolve_left (by omega)
   obtain ⟨e0,e1,e2⟩:=hat k x hxk
   have e0:=later_cell HC.out.bel e0
   have e1:=later_cell HC.out.bel e1
   have e2:=later_cell HC.out.bel e2
   have hfc:=HX.out x (List.mem_of_getElem? hxk)
   have H1:=hid (copyFn x.1 x.2.1 x.2.2.1.1 x.2.2.1.2.1 x.2.2.1.2.2 (x.2.2.2.map inx) wr hfc.n hfc.cap (hfc.cod.later HC.out.bel (Nat.le_refl _)) hfc.ln)
   have hcn:=hfc.cod.1
   have hlt' : (k : Int) < (fn : Int):=by omega
   have HXK:=hid hxk
   have HCN:=hid hcn
   clear hat hfc hcn hxk
   go_wp2_with fail
   refine H1.out.mono ?_
   rintro e w1 ⟨ua,uc,zs,rfl,hcp⟩
   have B1:=below_new w1 (.cells #[.int .i64 x.1,.string x.2.1,.slice ua x.2.2.1.2.1 uc] 42)
   have b1:=heap_alloc_new w1 (.cells #[.int .i64 x.1,.string x.2.1,.slice ua x.2.2.1.2.1 uc] 42)
   have hB2 : Below wr.heap.size wr (w1.alloc (.cells #[.int .i64 x.1,.string x.2.1,.slice ua x.2.2.1.2.1 uc] 42)):=hcp.bel.trans (B1.mono hcp.bel.size)
   have hrow:=own_keepB HC.out.row (kept_of hB2) (fun _ _ x => x)
   have hsz2 : w.heap.size ≤ (w1.alloc (.cells #[.int .i64 x.1,.string x.2.1,.slice ua x.2.2.1.2.1 uc] 42)).heap.size:=Nat.le_trans HC.out.bel.size hB2.size
   have hnews : ∀ (j : Nat) (y : Value),(fcel (x.1,x.2.1,(ua,x.2.2.1.2.1,uc),zs.map xin))[j]? = some y → (w1.alloc (.cells #[.int .i64 x.1,.string x.2.1,.slice ua x.2.2.1.2.1 uc] 42)).cell? ((⟨w1.heap.size,0,none⟩ : Addr).add j) = some y:=by
    intro j y hj
    have hplain : (⟨w1.heap.size,0,none⟩ : Addr).add j = ⟨w1.heap.size,j,none⟩:=by unfold Addr.add; split <;> simp_all
    rw [hplain,cell_at b1]
    match j,hj with
    | 0,hj | 1,hj | 2,hj => exact hj
    | j + 3,hj => simp [fcel] at hj
   have hone : ∀ u ∈ fcel (x.1,x.2.1,(ua,x.2.2.1.2.1,uc),zs.map xin),u.oneCell' = true:=fun u hu => fcel_one [(x.1,x.2.1,(ua,x.2.2.1.2.1,uc),zs.map xin)] u (by simpa using hu)
   have HROW:=hid hrow
   have HN:=hid (And.intro hnews hone)
   have HCP:=hid hcp
   have HB2:=hid hB2
   have HB1:=hid B1
   have hlen:=HC.out.len
   clear hrow hnews hone hcp hB2 B1 b1 e0 e1 e2
   go_wp2_with (first
    | (at_builtin; refine wpList_append_own _ rfl (.tmp 11) (.tmp 17) 25 rfl w.heap.size 42 i0 _ 3 48 Tryz.underlying25 HI.out hz0 hz1 hz2 rfl (by decide) _ k _ rfl HROW.out ⟨w1.heap.size,0,none⟩ 1 1 (fcel (x.1,x.2.1,(ua,x.2.2.1.2.1,uc),zs.map xin)) rfl rfl HN.out.1 HN.out.2 (by unfold maxLen; omega) (by omega) hsz2 ?_; intro v' w2 hown hg _; have HO:=hid hown; have HK:=hid (Kept.of_grown hg); clear hown hg))
   have hkb:=HK.out
   have hrw:=HROW.out
   have hnewk : ∀ b,some b = (Value.slice va k vc).ownBlock → b < (w1.alloc (.cells #[.int .i64 x.1,.string x.2.1,.slice ua x.2.2.1.2.1 uc] 42)).heap.size → ∃ cur t,(w1.alloc (.cells #[.int .i64 x.1,.string x.2.1,.slice ua x.2.2.1.2.1 uc] 42)).heap[b]? = some (.cells cur t) ∧ t ≠ 51 ∧ t ≠ 3:=fun b hb _ => by
    obtain ⟨_,_,cur,hc⟩:=own_ty hrw hb.symm
    exact ⟨cur,42,hc,by decide,by decide⟩
   have hcf : CF w fs (k + 1) v' (ys ++ [(x.1,x.2.1,(ua,x.2.2.1.2.1,uc),zs.map xin)]) w2:=by
    refine ⟨by simp [hlen],?_,fun y hy => ?_,fun j x' y' hj hy => ?_,?_⟩
    ·rw [List.flatMap_append,List.flatMap_singleton]
     exact HO.out
    ·rcases List.mem_append.1 hy with hy | hy
     ·exact ((HC.out.fn y hy).kept (kept_of HB2.out) (fun k (hx : False) _ => hx.elim)).kept hkb hnewk
     ·obtain rfl:=List.mem_singleton.1 hy
      have hcp:=HCP.out
      have h0 : FnL w1 w.heap.size (x.1,x.2.1,(ua,x.2.2.1.2.1,uc),zs.map xin):=⟨by
       show LC w1 w.heap.size (.slice ua x.2.2.1.2.1 uc) ((zs.map xin).map inx)
       rw [xin_inx]; exact own_low hcp.row HC.out.bel.size,by
       show LL w1 w.heap.size ((zs.map xin).map inx)
       rw [xin_inx]; exact fun z hz => own_low (hcp.lab z hz) HC.out.bel.size⟩
      exact (h0.kept (kept_of HB1.out) (fun k (hx : False) _ => hx.elim)).kept hkb hnewk
    ·by_cases hjk : j < k
     ·rw [List.getElem?_append_left (by omega)] at hy
      exact HC.out.same j x' y' hj hy
     ·have hjk' : j = k:=by
       have:=lt_of_get hy
       simp [hlen] at this; omega
      subst hjk'
      rw [List.getElem?_append_right (by omega)] at hy
      simp [hlen] at hy
      subst hy
      have e:=HXK.out
      rw [hj] at e
      obtain rfl:=Option.some.inj e
      have hcp:=HCP.out
      have hcn:=HCN.out
      have hl2 : x'.2.2.2.length = x'.2.2.1.2.1:=by simpa using hcn
      refine ⟨rfl,rfl,rfl,by simp [hcp.len,hl2],fun j hj => ?_⟩
      show (((zs.map xin).map inx).getD j dx).c = _ ∧ (((zs.map xin).map inx).getD j dx).a = _ ∧ (((zs.map xin).map inx).getD j dx).l = _ ∧ (((zs.map xin).map inx).getD j dx).ln = _
      rw [xin_inx]
      exact hcp.same j (by omega)
    ·have h1 : Below w.heap.size w (w1.alloc (.cells #[.int .i64 x.1,.string x.2.1,.slice ua x.2.2.1.2.1 uc] 42)):=HC.out.bel.trans (HB2.out.mono HC.out.bel.size)
     exact h1.trans (hkb.to_below (B:=w.heap.size) h1.size (fun b hb hx => by have:=(own_ty hrw hx.symm).1; omega))
   exact ⟨⟨k + 1,_,by omega,by go_num,hid hcf⟩,by simp [intOf]; omega⟩
  ·obtain rfl : k = fn:=by omega
   have hlt' : ¬ (k : Int) < (k : Int):=by omega
   go_wp2_with fail
   go_ret
   exact ⟨_,rfl,ys,HC.out⟩
end Go.Proofs.YtepnnenohjfkbaaGreatDoor

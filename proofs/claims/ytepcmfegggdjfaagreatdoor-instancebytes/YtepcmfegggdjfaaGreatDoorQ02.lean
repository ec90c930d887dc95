/-
  Texts Grow Wr Wm.
-/
import Derived.Test.YtepcmfegggdjfaaGreatDoorQ00
import Derived.Test.YtepcmfegggdjfaaGreatDoorQ01
set_option linter.unusedVariables false
set_option maxRecDepth 100000
set_option maxHeartbeats 16000000
namespace Go.Proofs.YtepcmfegggdjfaaGreatDoor
open Go.RowKit
def RowS (w : World) (e : TypeId) (size B n cap : Nat) (xs : List Value) : Prop:=w.ownsRow 0 e size (.slice (some ⟨B,0,none⟩) n cap) n xs
theorem RowS.of {w : World} {base : Nat} {e : TypeId} {size B n cap : Nat} {xs : List Value} (h : w.ownsRow base e size (.slice (some ⟨B,0,none⟩) n cap) n xs) : RowS w e size B n cap xs:=by
 refine ⟨h.1,?_⟩
 rcases h.2 with ⟨h,_⟩ | ⟨g,cp,cur,h1,_,h3⟩
 ·cases h
 ·exact .inr ⟨g,cp,cur,h1,Nat.zero_le _,h3⟩
theorem RowS.block {w : World} {e : TypeId} {size B n cap : Nat} {xs : List Value} (h : RowS w e size B n cap xs) : ∃ cur,w.heap[B]? = some (.cells cur e) ∧ n ≤ cap ∧ cap ≤ maxLen ∧ cur.size = cap * size ∧ cur.toList.take (n * size) = xs:=by
 rcases h.2 with ⟨h,_⟩ | ⟨g,cp,cur,h1,_,h3,h4,h5,h6,h7⟩
 ·cases h
 ·simp at h1
  obtain ⟨rfl,rfl⟩:=h1
  exact ⟨cur,h3,h4,h5,h6,h7⟩
theorem RowS.lt {w : World} {e : TypeId} {size B n cap : Nat} {xs : List Value} (h : RowS w e size B n cap xs) : B < w.heap.size:=by
 obtain ⟨cur,h,_⟩:=h.block
 rcases Nat.lt_or_ge B w.heap.size with hl | hl
 ·exact hl
 ·rw [Array.getElem?_eq_none hl] at h; cases h
theorem ownS_keep {w w' : World} {base : Nat} {e : TypeId} {size : Nat} {v : Value} {n : Nat} {xs : List Value} (h : w.ownsRow base e size v n xs) (hk : ∀ B,v.ownBlock = some B → w'.heap[B]? = w.heap[B]?) : w'.ownsRow base e size v n xs:=by
 refine ⟨h.1,?_⟩
 rcases h.2 with h0 | ⟨g,cp,cur,rfl,h2,h3,h4⟩
 ·exact .inl h0
 ·exact .inr ⟨g,cp,cur,rfl,h2,by rw [hk g rfl]; exact h3,h4⟩
theorem RowS.keep {w w' : World} {e : TypeId} {size B n cap : Nat} {xs : List Value} (h : RowS w e size B n cap xs) (hk : w'.heap[B]? = w.heap[B]?) : RowS w' e size B n cap xs :=
 ownS_keep h (fun b hb => by
  obtain rfl : B = b:=by simpa [Value.ownBlock] using hb
  exact hk)
theorem RowS.kept {S : Nat → Prop} {w w' : World} {e : TypeId} {size B n cap : Nat} {xs : List Value} (h : RowS w e size B n cap xs) (hk : Kept S w w') (hs : ¬ S B) : RowS w' e size B n cap xs:=h.keep (hk.block B h.lt hs)
theorem RowS.cell {w : World} {e : TypeId} {size B n cap : Nat} {xs : List Value} (h : RowS w e size B n cap xs) (j : Nat) (hj : j < n * size) : w.cell? ⟨B,j,none⟩ = xs[j]?:=by
 obtain ⟨cur,h1,h2,h3,h4,h5⟩:=h.block
 have hl : j < cur.size:=by rw [h4]; exact Nat.lt_of_lt_of_le hj (Nat.mul_le_mul_right _ h2)
 rw [← h5,List.getElem?_take_of_lt hj]
 simp only [World.cell?,h1]
 simp
theorem app_rows {P : Program} (w : World) {ops : Array Oper} {rest : List Oper} {o : Oper} {a : Act} {Q : Exit → Act → World → Prop} (hgd : o.guard = none)
  (s x : Operand) (t : TypeId) (ho : o.op = Op.call { callee:=Callee.builtin Builtin.append,args:=#[s,x],argTypes:=#[t,t] }) (e : TypeId) (i : TypeInfo) (z : Value) (size bytes : Nat)
  (h1 : P.underlying t = some (.slice e)) (h2 : P.info? e = some i) (h3 : i.zero = some z) (h4 : i.size = size) (h5 : i.bytes = bytes) (h6 : z.cells.size = size) (h7 : 0 < size)
  (v : Value) (n : Nat) (xs : List Value) (hs : a.eval s = v) (hown : w.ownsRow 0 e size v n xs) (ad : Addr) (m c : Nat) (news : List Value) (hx : a.eval x = .slice (some ad) m c) (hn : news.length = m * size)
  (hc : ∀ j u,news[j]? = some u → w.cell? (ad.add j) = some u) (hone : ∀ u ∈ news,u.oneCell' = true) (hm : 0 < m)
  (b1 : n + m ≤ maxLen) (b2 : (n + m) * bytes ≤ 140737488355328)
  (h : ∀ (B cap : Nat) (w' : World),RowS w' e size B (n + m) cap (xs ++ news) → ((v = .slice (some ⟨B,0,none⟩) n cap ∧ Kept (fun k => k = B) w w') ∨ (w.heap.size ≤ B ∧ Kept (fun _ => False) w w')) → wpList P ops Q rest (a.put o.dst (.slice (some ⟨B,0,none⟩) (n + m) cap)) w') :
  wpList P ops Q (o :: rest) a w:=by
 have grow : ∀ (ao : Option Addr) (cap : Nat),v = .slice ao n cap → (ao = none → n = 0 ∧ cap = 0) → (∀ b,ao = some b → ∀ (j : Nat) (y : Value),xs[j]? = some y → w.cell? (b.add j) = some y) → cap < n + m → wpList P ops Q (o :: rest) a w:=by
  intro ao cap hv hnone holds hfull
  refine wpList_append_grows w hgd s x t ho e i z size bytes h1 h2 h3 h4 h5 h6 h7 ao n cap xs (hs.trans hv) hnone hown.1 holds ad m c news hx hn hc hone hfull b1 b2 ?_
  intro v' w' ho' hg'
  rcases ho'.2 with ⟨_,hz⟩ | ⟨g,cp,cur,rfl,hbase,h8⟩
  ·omega
  ·exact h g cp w' (RowS.of ho') (.inr ⟨hbase,(Kept.of_grown hg').mono (fun k hk => by cases hk)⟩)
 rcases hown.2 with ⟨rfl,rfl⟩ | ⟨g,cap,cur,rfl,_,hh,hnc,hcm,hsz,htk⟩
 ·exact grow none 0 rfl (fun _ => ⟨rfl,rfl⟩) (fun b hb => by cases hb) (by omega)
 ·by_cases hroom : n + m ≤ cap
  ·refine wpList_append_fits w hgd s x t ho 0 e i size h1 h2 h4 g n cap xs hs hown ad m c news hx hn hc hone hroom ?_
   intro w' ho' hg'
   exact h g cap w' ho' (.inl ⟨rfl,(Kept.of_grown hg').mono (fun k hk => by simpa using hk)⟩)
  ·refine grow (some ⟨g,0,none⟩) cap rfl (fun hb => by cases hb) (fun b hb j y hy => ?_) (by omega)
   simp at hb
   subst hb
   have hj : j < xs.length:=by
    rcases Nat.lt_or_ge j xs.length with h | h
    ·exact h
    ·simp [List.getElem?_eq_none h] at hy
   have hl:=hown.1
   have hplain : (⟨g,0,none⟩ : Addr).add j = ⟨g,j,none⟩:=by unfold Addr.add; split <;> simp_all
   rw [hplain,RowS.cell hown j (by omega)]
   exact hy
theorem app_rowg {P : Program} (w : World) {ops : Array Oper} {rest : List Oper} {o : Oper} {a : Act} {Q : Exit → Act → World → Prop} (hgd : o.guard = none)
  (s x : Operand) (t : TypeId) (ho : o.op = Op.call { callee:=Callee.builtin Builtin.append,args:=#[s,x],argTypes:=#[t,t] }) (e : TypeId) (i : TypeInfo) (z : Value) (size bytes : Nat)
  (h1 : P.underlying t = some (.slice e)) (h2 : P.info? e = some i) (h3 : i.zero = some z) (h4 : i.size = size) (h5 : i.bytes = bytes) (h6 : z.cells.size = size) (h7 : 0 < size)
  (g n cap : Nat) (xs : List Value) (hs : a.eval s = .slice (some ⟨g,0,none⟩) n cap) (hown : RowS w e size g n cap xs) (ad : Addr) (m c : Nat) (news : List Value) (hx : a.eval x = .slice (some ad) m c) (hn : news.length = m * size)
  (hc : ∀ j u,news[j]? = some u → w.cell? (ad.add j) = some u) (hone : ∀ u ∈ news,u.oneCell' = true) (hm : 0 < m)
  (b1 : n + m ≤ maxLen) (b2 : (n + m) * bytes ≤ 140737488355328)
  (h : ∀ (B cap : Nat) (w' : World),RowS w' e size B (n + m) cap (xs ++ news) → Kept (fun k => k = g) w w' → (B = g ∨ w.heap.size ≤ B) → wpList P ops Q rest (a.put o.dst (.slice (some ⟨B,0,none⟩) (n + m) cap)) w') :
  wpList P ops Q (o :: rest) a w:=by
 refine app_rows w hgd s x t ho e i z size bytes h1 h2 h3 h4 h5 h6 h7 _ n xs hs hown ad m c news hx hn hc hone hm b1 b2 ?_
 rintro B cp w' hr (⟨hv,hk⟩ | ⟨hB,hk⟩)
 ·simp at hv
  obtain ⟨rfl,rfl⟩:=hv
  exact h g cap w' hr hk (.inl rfl)
 ·exact h B cp w' hr (hk.mono (fun k hk => hk.elim)) (.inr hB)
def thr (e p : Int) : Ending:=.panicked [{ v:=.iface 139 (.agg #[.int .i64 e,.int .i64 p]),recovered:=false }]
theorem must84_yes (e at_ : Int) (w : World) : Calls Tryz.prog 83 #[.bool true,.int .i64 e,.int .i64 at_] w fun e w' => e = .returned (.tuple #[]) ∧ w' = w:=by
 go_enter Tryz.func83,Tryz.ntmps83
 go_wp2_with fail
 go_end0
 exact ⟨rfl,rfl⟩
theorem must84_no (x p : Int) (w : World) : Calls Tryz.prog 83 #[.bool false,.int .i64 x,.int .i64 p] w fun e w' => e = thr x p ∧ w' = w:=by
 go_enter Tryz.func83,Tryz.ntmps83
 go_wp2_with fail
 simp [bodyPost,thr]
def Buf (w : World) (g n cap : Nat) (xs : List Value) : Prop:=RowS w 5 1 g n cap xs ∨ (cap = n ∧ n ≤ maxLen ∧ g < w.heap.size ∧ xs.length = n ∧ ∀ j u,xs[j]? = some u → w.cell? ⟨g,j,none⟩ = some u)
theorem Buf.lt {w : World} {g n cap : Nat} {xs : List Value} (h : Buf w g n cap xs) : g < w.heap.size:=by
 rcases h with h | h
 ·exact h.lt
 ·exact h.2.2.1
theorem Buf.kept {S : Nat → Prop} {w w' : World} {g n cap : Nat} {xs : List Value} (h : Buf w g n cap xs) (hk : Kept S w w') (hs : ¬ S g) : Buf w' g n cap xs:=by
 rcases h with h | ⟨h1,h2,h3,h4,h5⟩
 ·exact .inl (h.kept hk hs)
 ·exact .inr ⟨h1,h2,Nat.lt_of_lt_of_le h3 hk.size,h4,fun j u hj => hk.cell (h5 j u hj) hs⟩
theorem app_buf {P : Program} (w : World) {ops : Array Oper} {rest : List Oper} {o : Oper} {a : Act} {Q : Exit → Act → World → Prop} (hgd : o.guard = none)
  (s x : Operand) (t : TypeId) (ho : o.op = Op.call { callee:=Callee.builtin Builtin.append,args:=#[s,x],argTypes:=#[t,t] }) (i : TypeInfo) (z : Value)
  (h1 : P.underlying t = some (.slice 5)) (h2 : P.info? 5 = some i) (h3 : i.zero = some z) (h4 : i.size = 1) (h5 : i.bytes = 1) (h6 : z.cells.size = 1)
  (g n cap : Nat) (xs : List Value) (hs : a.eval s = .slice (some ⟨g,0,none⟩) n cap) (hown : Buf w g n cap xs) (ad : Addr) (m c : Nat) (news : List Value) (hx : a.eval x = .slice (some ad) m c) (hn : news.length = m * 1)
  (hc : ∀ j u,news[j]? = some u → w.cell? (ad.add j) = some u) (hone : ∀ u ∈ news,u.oneCell' = true) (hm : 0 < m)
  (b1 : n + m ≤ maxLen) (b2 : (n + m) * 1 ≤ 140737488355328)
  (h : ∀ (B cap : Nat) (w' : World),RowS w' 5 1 B (n + m) cap (xs ++ news) → Kept (fun k => k = g) w w' → (B = g ∨ w.heap.size ≤ B) → wpList P ops Q rest (a.put o.dst (.slice (some ⟨B,0,none⟩) (n + m) cap)) w') :
  wpList P ops Q (o :: rest) a w:=by
 rcases hown with hr | ⟨rfl,_,_,hl,hcells⟩
 ·exact app_rowg w hgd s x t ho 5 i z 1 1 h1 h2 h3 h4 h5 h6 (by decide) g n cap xs hs hr ad m c news hx hn hc hone hm b1 b2 h
 ·refine wpList_append_grows w hgd s x t ho 5 i z 1 1 h1 h2 h3 h4 h5 h6 (by decide) (some ⟨g,0,none⟩) cap cap xs hs (fun hh => by cases hh) (by omega) (fun b hb j u hj => ?_) ad m c news hx hn hc hone (by omega) b1 b2 ?_
  ·simp at hb
   subst hb
   have hplain : (⟨g,0,none⟩ : Addr).add j = ⟨g,j,none⟩:=by unfold Addr.add; split <;> simp_all
   rw [hplain]
   exact hcells j u hj
  ·intro v' w' ho' hg'
   rcases ho'.2 with ⟨_,hz⟩ | ⟨B,cp,cur,rfl,hbase,h8⟩
   ·omega
   ·exact h B cp w' (RowS.of ho') ((Kept.of_grown hg').mono (fun k hk => by cases hk)) (.inr hbase)
structure Wr (w : World) (R g cap : Nat) (bs : List Int) : Prop where
 c0 : w.cell? ⟨R,0,none⟩ = some (.slice (some ⟨g,0,none⟩) bs.length cap)
 f0 : w.frozen? ⟨R,0,none⟩ = false
 row : Buf w g bs.length cap (bs.map (Value.int .u8))
 ne : g ≠ R
theorem Wr.lt {w : World} {R g cap : Nat} {bs : List Int} (h : Wr w R g cap bs) : R < w.heap.size:=block_lt_of_cell h.c0
theorem Wr.kept {S : Nat → Prop} {w w' : World} {R g cap : Nat} {bs : List Int} (h : Wr w R g cap bs) (hk : Kept S w w') (hR : ¬ S R) (hg : ¬ S g) : Wr w' R g cap bs :=
 ⟨hk.cell h.c0 hR,(frozen_of_block (hk.block R h.lt hR) 0).trans h.f0,h.row.kept hk hg,h.ne⟩
theorem Wr.later {w w' : World} {R g cap : Nat} {bs : List Int} (h : Wr w R g cap bs) (hb : Below w.heap.size w w') : Wr w' R g cap bs :=
 h.kept (S:=fun _ => False) ⟨hb.os,hb.tape,hb.output,hb.size,fun k hk _ => hb.block k hk⟩ id id
structure Stp (R g g' : Nat) (w w' : World) : Prop where
 k : Kept (fun k => k = R ∨ k = g) w w'
 m : g' = g ∨ w.heap.size ≤ g'
theorem Stp.refl (R g : Nat) (w : World) : Stp R g g w w:=⟨Kept.refl _ _,.inl rfl⟩
theorem Stp.trans {R g g' g'' : Nat} {w w1 w2 : World} (h : Stp R g g' w w1) (h' : Stp R g' g'' w1 w2) : Stp R g g'' w w2:=by
 refine ⟨h.k.then h'.k (fun k hk ht => ?_),?_⟩
 ·rcases ht with rfl | rfl
  ·exact .inl rfl
  ·rcases h.m with h | h
   ·exact .inr h
   ·omega
 ·rcases h'.m with rfl | h2
  ·exact h.m
  ·exact .inr (Nat.le_trans h.k.size h2)
theorem Stp.of_below {R g : Nat} {w w' : World} (h : Below w.heap.size w w') : Stp R g g w w' :=
 ⟨⟨h.os,h.tape,h.output,h.size,fun k hk _ => h.block k hk⟩,.inl rfl⟩
theorem Stp.size {R g g' : Nat} {w w' : World} (h : Stp R g g' w w') : w.heap.size ≤ w'.heap.size:=h.k.size
theorem Stp.cell {R g g' : Nat} {w w' : World} (h : Stp R g g' w w') {b o : Nat} {v : Value} (hc : w.cell? ⟨b,o,none⟩ = some v) (h1 : b ≠ R) (h2 : b ≠ g) : w'.cell? ⟨b,o,none⟩ = some v:=h.k.cell hc (by simp [h1,h2])
theorem Wr.range {w : World} {R g cap : Nat} {bs : List Int} (h : Wr w R g cap bs) : bs.length ≤ maxLen:=by
 rcases h.row with hr | hr
 ·obtain ⟨cur,h1,h2,h3,_⟩:=hr.block
  omega
 ·exact hr.2.1
theorem put324 (R g cap : Nat) (bs : List Int) (a : Option Addr) (n c : Nat) (zs : List Int) (w : World) (h : Wr w R g cap bs) (hs : Seg w a n c zs) (hn : 0 < n) (hb : bs.length + n ≤ 1099511627776) :
  Calls Tryz.prog 208 #[.pointer (some ⟨R,0,none⟩),.slice a n c] w fun e w' => e = .returned (.tuple #[]) ∧ ∃ g' cap',Wr w' R g' cap' (bs ++ zs) ∧ Stp R g g' w w':=by
 have c0:=h.c0
 have f0:=h.f0
 have hlt:=h.lt
 obtain ⟨i0,hi,hz0,hz1,hz2⟩:=info_parts Tryz.info5
 obtain ⟨ad,rfl⟩ : ∃ ad,a = some ad:=by
  rcases hs.2.2.2.2 with h0 | ⟨b,off,h,_⟩
  ·omega
  ·exact ⟨_,h⟩
 have HR:=hid h.row
 have HNE:=hid h.ne
 have HS:=hid hs
 have hl:=hs.1
 clear h hs
 go_enter Tryz.func208,Tryz.ntmps208
 go_wp2_with (at_builtin; (refine app_buf _ rfl (.tmp 8) (.tmp 9) 49 rfl i0 (.int .u8 0) Tryz.underlying49 hi hz0 hz1 hz2 rfl g bs.length cap _ rfl HR.out ad n c (zs.map (Value.int .u8)) rfl (by simp [hl]) (seg_cells HS.out ad rfl) (ints_one _) hn (by unfold maxLen; omega) (by omega) ?_; intro B cap' w1 hrow hk hor; have HO:=hid hrow; have HK:=hid hk; have HOR:=hid hor; have d0:=hk.cell c0 (Ne.symm HNE.out); have e0:=(frozen_of_block (hk.block R hlt (Ne.symm HNE.out)) 0).trans f0; clear hrow hk hor c0 f0))
 go_end0
 have hne : B ≠ R:=by
  rcases HOR.out with h1 | h1
  ·have:=HNE.out; omega
  ·omega
 refine ⟨rfl,B,cap',⟨?_,?_,?_,hne⟩,⟨?_,HOR.out⟩⟩
 ·have:=World.cell?_setCell_same w1 ⟨R,0,none⟩ (.slice (some ⟨B,0,none⟩) (bs.length + n) cap') d0
  simpa [hl] using this
 ·rw [World.frozen?_setCell]; exact e0
 ·have hk : (w1.setCell ⟨R,0,none⟩ (.slice (some ⟨B,0,none⟩) (bs.length + n) cap')).heap[B]? = w1.heap[B]?:=Below.heap_setCell _ _ _ _ (by simpa using hne)
  have:=HO.out.keep hk
  refine .inl ?_
  simpa [hl] using this
 ·exact (HK.out.mono (T:=fun k => k = R ∨ k = g) (fun k hk => .inr hk)).trans ⟨rfl,rfl,rfl,by simp [World.setCell],fun k hk hs => Below.heap_setCell _ _ _ _ (by simp at hs ⊢; omega)⟩
abbrev Puts (R g : Nat) (bs new : List Int) (v : Value) (w : World) : Ending → World → Prop:=fun e w' => e = .returned v ∧ ∃ g' cap',Wr w' R g' cap' (bs ++ new) ∧ Stp R g g' w w'
abbrev Throws (R g : Nat) (x : Int) (w : World) : Ending → World → Prop:=fun e w' => (∃ p,e = thr x p) ∧ Kept (fun k => k = R ∨ k = g) w w'
abbrev Asks (w : World) : Ending → World → Prop:=fun e w' => e = .returned (.tuple #[]) ∧ Below w.heap.size w w'
abbrev Bars (x : Int) (w : World) : Ending → World → Prop:=fun e w' => (∃ p,e = thr x p) ∧ Below w.heap.size w w'
theorem kept_of {S : Nat → Prop} {w w' : World} (h : Below w.heap.size w w') : Kept S w w':=⟨h.os,h.tape,h.output,h.size,fun k hk _ => h.block k hk⟩
theorem place321 (R : Nat) (a : Option Addr) (n cap : Nat) (w : World) (h : w.cell? ⟨R,0,none⟩ = some (.slice a n cap)) : Calls Tryz.prog 205 #[.pointer (some ⟨R,0,none⟩)] w fun e w' => e = .returned (.int .i64 n) ∧ w' = w:=by
 go_enter Tryz.func205,Tryz.ntmps205
 go_wp2_with fail
 go_ret
 exact ⟨rfl,rfl⟩
theorem uvarW (v : Int) (w : World) (h0 : 0 ≤ v) (h1 : v < 18446744073709551616) :
  Calls Tryz.prog 209 #[.int .u64 v] w fun e w' => ∃ B,e = .returned (.slice (some ⟨B,0,none⟩) (uvar v).length (uvar v).length) ∧ Seg w' (some ⟨B,0,none⟩) (uvar v).length (uvar v).length (uvar v) ∧ Below w.heap.size w w' :=
 (uvar17 v w h0 h1).mono fun e w' ⟨he,hs,hb,_⟩ => ⟨_,he,hs,hb⟩
theorem svarW (v : Int) (w : World) (h0 : -9223372036854775808 ≤ v) (h1 : v < 9223372036854775808) :
  Calls Tryz.prog 211 #[.int .i64 v] w fun e w' => ∃ B,e = .returned (.slice (some ⟨B,0,none⟩) (uvar (fo v)).length (uvar (fo v)).length) ∧ Seg w' (some ⟨B,0,none⟩) (uvar (fo v)).length (uvar (fo v)).length (uvar (fo v)) ∧ Below w.heap.size w w' :=
 (svar19 v w h0 h1).mono fun e w' ⟨he,hs,hb,_⟩ => ⟨_,he,hs,hb⟩
theorem textW (s : ByteArray) (w : World) (hs : s.size ≤ 1000000) :
  Calls Tryz.prog 212 #[.string s] w fun e w' => ∃ B,e = .returned (.slice (some ⟨B,0,none⟩) ((uvar s.size).length + s.size) ((uvar s.size).length + s.size)) ∧
   Seg w' (some ⟨B,0,none⟩) ((uvar s.size).length + s.size) ((uvar s.size).length + s.size) (uvar s.size ++ strBytes s) ∧ Below w.heap.size w w' :=
 (text20 s w hs).mono fun e w' ⟨B,he,hs,hb,_⟩ => ⟨_,he,hs,hb⟩
theorem number319_yes (R g cap : Nat) (bs : List Int) (v : Int) (K : Nat) (cs : Array Value) (w : World) (h : Wr w R g cap bs) (h0 : 0 ≤ v) (h1 : v < 18446744073709551616) (hb : bs.length + 10 ≤ 1099511627776)
  (hK : ∀ args w,(callFunc K args).run Tryz.prog w = .ok (.enter K args) w)
  (hask : Calls Tryz.prog K (#[.int .u64 v,.int .i64 bs.length] ++ cs) w (Asks w)) :
  Calls Tryz.prog 203 #[.pointer (some ⟨R,0,none⟩),.int .u64 v,.func (.func K) #[] cs] w (Puts R g bs (uvar v) (.int .u64 v) w):=by
 have c0:=h.c0
 have HW:=hid h
 have HU:=hid (fun W => uvarW v W h0 h1)
 have hul:=uvar_len v
 generalize uvar v = U at *
 clear h
 go_enter Tryz.func203,Tryz.ntmps203
 go_wp2_with fail
 refine (place321 R _ _ _ w c0).mono ?_
 rintro e w1 ⟨rfl,rfl⟩
 go_wp2_with fail
 refine hask.mono ?_
 rintro e w2 ⟨rfl,b2⟩
 have B2:=hid b2
 clear b2 hask hK c0
 go_wp2_with fail
 refine (HU.out _).mono ?_
 rintro e w3 ⟨B,rfl,s3,b3⟩
 have B3:=hid (B2.out.trans (b3.mono B2.out.size))
 have S3:=hid s3
 clear s3 b3 HU
 go_wp2_with fail
 refine (put324 R g cap bs _ _ _ _ w3 (HW.out.later B3.out) S3.out (by omega) (by omega)).mono ?_
 rintro e w4 ⟨rfl,g',cap',hw4,hs4⟩
 have W4:=hid hw4
 have S4:=hid ((Stp.of_below B3.out).trans hs4)
 clear hw4 hs4
 go_wp2_with fail
 go_ret
 exact ⟨rfl,g',cap',W4.out,S4.out⟩
theorem number319_no (R g cap : Nat) (bs : List Int) (v : Int) (K : Nat) (cs : Array Value) (x : Int) (w : World) (h : Wr w R g cap bs)
  (hK : ∀ args w,(callFunc K args).run Tryz.prog w = .ok (.enter K args) w)
  (hask : Calls Tryz.prog K (#[.int .u64 v,.int .i64 bs.length] ++ cs) w (Bars x w)) :
  Calls Tryz.prog 203 #[.pointer (some ⟨R,0,none⟩),.int .u64 v,.func (.func K) #[] cs] w (Throws R g x w):=by
 have c0:=h.c0
 clear h
 go_enter Tryz.func203,Tryz.ntmps203
 go_wp2_with fail
 refine (place321 R _ _ _ w c0).mono ?_
 rintro e w1 ⟨rfl,rfl⟩
 go_wp2_with fail
 refine hask.mono ?_
 rintro e w2 ⟨⟨p,rfl⟩,b2⟩
 exact ⟨rfl,⟨p,rfl⟩,kept_of b2⟩
theorem signed322_yes (R g cap : Nat) (bs : List Int) (v : Int) (K : Nat) (cs : Array Value) (w : World) (h : Wr w R g cap bs) (h0 : -9223372036854775808 ≤ v) (h1 : v < 9223372036854775808) (hb : bs.length + 10 ≤ 1099511627776)
  (hK : ∀ args w,(callFunc K args).run Tryz.prog w = .ok (.enter K args) w)
  (hask : Calls Tryz.prog K (#[.int .i64 v,.int .i64 bs.length] ++ cs) w (Asks w)) :
  Calls Tryz.prog 206 #[.pointer (some ⟨R,0,none⟩),.int .i64 v,.func (.func K) #[] cs] w (Puts R g bs (uvar (fo v)) (.int .i64 v) w):=by
 have c0:=h.c0
 have HW:=hid h
 have HU:=hid (fun W => svarW v W h0 h1)
 have hul:=uvar_len (fo v)
 generalize uvar (fo v) = U at *
 clear h
 go_enter Tryz.func206,Tryz.ntmps206
 go_wp2_with fail
 refine (place321 R _ _ _ w c0).mono ?_
 rintro e w1 ⟨rfl,rfl⟩
 go_wp2_with fail
 refine hask.mono ?_
 rintro e w2 ⟨rfl,b2⟩
 have B2:=hid b2
 clear b2 hask hK c0
 go_wp2_with fail
 refine (HU.out _).mono ?_
 rintro e w3 ⟨B,rfl,s3,b3⟩
 have B3:=hid (B2.out.trans (b3.mono B2.out.size))
 have S3:=hid s3
 clear s3 b3 HU
 go_wp2_with fail
 refine (put324 R g cap bs _ _ _ _ w3 (HW.out.later B3.out) S3.out (by omega) (by omega)).mono ?_
 rintro e w4 ⟨rfl,g',cap',hw4,hs4⟩
 have W4:=hid hw4
 have S4:=hid ((Stp.of_below B3.out).trans hs4)
 clear hw4 hs4
 go_wp2_with fail
 go_ret
 exact ⟨rfl,g',cap',W4.out,S4.out⟩
theorem signed322_no (R g cap : Nat) (bs : List Int) (v : Int) (K : Nat) (cs : Array Value) (x : Int) (w : World) (h : Wr w R g cap bs)
  (hK : ∀ args w,(callFunc K args).run Tryz.prog w = .ok (.enter K args) w)
  (hask : Calls Tryz.prog K (#[.int .i64 v,.int .i64 bs.length] ++ cs) w (Bars x w)) :
  Calls Tryz.prog 206 #[.pointer (some ⟨R,0,none⟩),.int .i64 v,.func (.func K) #[] cs] w (Throws R g x w):=by
 have c0:=h.c0
 clear h
 go_enter Tryz.func206,Tryz.ntmps206
 go_wp2_with fail
 refine (place321 R _ _ _ w c0).mono ?_
 rintro e w1 ⟨rfl,rfl⟩
 go_wp2_with fail
 refine hask.mono ?_
 rintro e w2 ⟨⟨p,rfl⟩,b2⟩
 exact ⟨rfl,⟨p,rfl⟩,kept_of b2⟩
theorem count317_yes (R g cap : Nat) (bs : List Int) (k : Nat) (m : Int) (w : World) (h : Wr w R g cap bs) (hk : (k : Int) ≤ m) (hk1 : k ≤ 1099511627776) (hb : bs.length + 10 ≤ 1099511627776) :
  Calls Tryz.prog 201 #[.pointer (some ⟨R,0,none⟩),.int .i64 k,.int .i64 m] w (Puts R g bs (uvar k) (.int .i64 k) w):=by
 have c0:=h.c0
 have HW:=hid h
 have HU:=hid (fun W => uvarW k W (by omega) (by omega))
 have hul:=uvar_len k
 generalize uvar k = U at *
 have hd : decide ((k : Int) ≤ m) = true:=by simp [hk]
 have hw64 : IntKind.u64.wrap (k : Int) = k:=wrap_in _ (by omega) (by omega)
 clear h
 go_enter Tryz.func201,Tryz.ntmps201
 go_wp2_with fail
 refine (place321 R _ _ _ w c0).mono ?_
 rintro e w1 ⟨rfl,rfl⟩
 go_wp2_with fail
 refine (must84_yes _ _ _).mono ?_
 rintro e w1 ⟨rfl,rfl⟩
 clear c0 hd
 go_wp2_with fail
 refine (HU.out _).mono ?_
 rintro e w3 ⟨B,rfl,s3,b3⟩
 have B3:=hid b3
 have S3:=hid s3
 clear s3 b3 HU
 go_wp2_with fail
 refine (put324 R g cap bs _ _ _ _ w3 (HW.out.later B3.out) S3.out (by omega) (by omega)).mono ?_
 rintro e w4 ⟨rfl,g',cap',hw4,hs4⟩
 have W4:=hid hw4
 have S4:=hid ((Stp.of_below B3.out).trans hs4)
 clear hw4 hs4
 go_wp2_with fail
 go_ret
 exact ⟨rfl,g',cap',W4.out,S4.out⟩
theorem count317_no (R g cap : Nat) (bs : List Int) (k : Nat) (m : Int) (w : World) (h : Wr w R g cap bs) (hk : m < (k : Int)) :
  Calls Tryz.prog 201 #[.pointer (some ⟨R,0,none⟩),.int .i64 k,.int .i64 m] w (Throws R g 20 w):=by
 have c0:=h.c0
 have hd : decide ((k : Int) ≤ m) = false:=by simp; omega
 clear h
 go_enter Tryz.func201,Tryz.ntmps201
 go_wp2_with fail
 refine (place321 R _ _ _ w c0).mono ?_
 rintro e w1 ⟨rfl,rfl⟩
 go_wp2_with fail
 refine (must84_no _ _ _).mono ?_
 rintro e w1 ⟨rfl,rfl⟩
 exact ⟨rfl,⟨_,rfl⟩,Kept.refl _ _⟩
theorem seg_one (w : World) (v : Int) (h0 : 0 ≤ v) (h1 : v ≤ 255) (t : TypeId) : Seg (w.alloc (.cells #[.int .u8 v] t)) (some ⟨w.heap.size,0,none⟩) 1 1 [v]:=by
 refine ⟨rfl,Nat.le_refl _,by omega,by simp [h0,h1],.inr ⟨_,0,rfl,fun j hj => ?_⟩⟩
 obtain rfl : j = 0:=by omega
 simp [go_sem]
theorem octet320_yes (R g cap : Nat) (bs : List Int) (v : Int) (K : Nat) (cs : Array Value) (w : World) (h : Wr w R g cap bs) (h0 : 0 ≤ v) (h1 : v ≤ 255) (hb : bs.length + 1 ≤ 1099511627776)
  (hK : ∀ args w,(callFunc K args).run Tryz.prog w = .ok (.enter K args) w)
  (hask : Calls Tryz.prog K (#[.int .u8 v,.int .i64 bs.length] ++ cs) w (Asks w)) :
  Calls Tryz.prog 204 #[.pointer (some ⟨R,0,none⟩),.int .u8 v,.func (.func K) #[] cs] w (Puts R g bs [v] (.int .u8 v) w):=by
 have c0:=h.c0
 have HW:=hid h
 clear h
 go_enter Tryz.func204,Tryz.ntmps204
 go_wp2_with fail
 refine (place321 R _ _ _ w c0).mono ?_
 rintro e w1 ⟨rfl,rfl⟩
 go_wp2_with fail
 refine hask.mono ?_
 rintro e w2 ⟨rfl,b2⟩
 have hb2:=b2.trans (((Below.refl _ w2).alloc (Nat.le_refl _) (.cells #[.int .u8 v] 5)).mono b2.size)
 have HS:=hid (seg_one w2 v h0 h1 5)
 have B3:=hid hb2
 clear b2 hb2 hask hK c0
 go_wp2_with fail
 refine (put324 R g cap bs _ _ _ _ _ (HW.out.later B3.out) HS.out (by omega) (by omega)).mono ?_
 rintro e w4 ⟨rfl,g',cap',hw4,hs4⟩
 have W4:=hid hw4
 have S4:=hid ((Stp.of_below B3.out).trans hs4)
 clear hw4 hs4
 go_wp2_with fail
 go_ret
 exact ⟨rfl,g',cap',W4.out,S4.out⟩
theorem octet320_no (R g cap : Nat) (bs : List Int) (v : Int) (K : Nat) (cs : Array Value) (x : Int) (w : World) (h : Wr w R g cap bs)
  (hK : ∀ args w,(callFunc K args).run Tryz.prog w = .ok (.enter K args) w)
  (hask : Calls Tryz.prog K (#[.int .u8 v,.int .i64 bs.length] ++ cs) w (Bars x w)) :
  Calls Tryz.prog 204 #[.pointer (some ⟨R,0,none⟩),.int .u8 v,.func (.func K) #[] cs] w (Throws R g x w):=by
 have c0:=h.c0
 clear h
 go_enter Tryz.func204,Tryz.ntmps204
 go_wp2_with fail
 refine (place321 R _ _ _ w c0).mono ?_
 rintro e w1 ⟨rfl,rfl⟩
 go_wp2_with fail
 refine hask.mono ?_
 rintro e w2 ⟨⟨p,rfl⟩,b2⟩
 exact ⟨rfl,⟨p,rfl⟩,kept_of b2⟩
theorem text323_yes (R g cap : Nat) (bs : List Int) (s : ByteArray) (m : Int) (K : Nat) (cs : Array Value) (w : World) (h : Wr w R g cap bs) (hm : (s.size : Int) ≤ m) (hs : s.size ≤ 1000000) (hb : bs.length + 10 + s.size ≤ 1099511627776)
  (hK : ∀ args w,(callFunc K args).run Tryz.prog w = .ok (.enter K args) w)
  (hask : Calls Tryz.prog K (#[.string s,.int .i64 bs.length] ++ cs) w (Asks w)) :
  Calls Tryz.prog 207 #[.pointer (some ⟨R,0,none⟩),.string s,.int .i64 m,.func (.func K) #[] cs] w (Puts R g bs (uvar s.size ++ strBytes s) (.string s) w):=by
 have c0:=h.c0
 have HW:=hid h
 have HU:=hid (fun W => textW s W hs)
 have hul:=uvar_len s.size
 have hd : decide ((s.size : Int) ≤ m) = true:=by simp [hm]
 generalize uvar s.size = U at *
 clear h
 go_enter Tryz.func207,Tryz.ntmps207
 go_wp2_with fail
 refine (place321 R _ _ _ w c0).mono ?_
 rintro e w1 ⟨rfl,rfl⟩
 go_wp2_with fail
 refine (must84_yes _ _ _).mono ?_
 rintro e w1 ⟨rfl,rfl⟩
 clear hd
 go_wp2_with fail
 refine (place321 R _ _ _ _ c0).mono ?_
 rintro e w1 ⟨rfl,rfl⟩
 go_wp2_with fail
 refine hask.mono ?_
 rintro e w2 ⟨rfl,b2⟩
 have B2:=hid b2
 clear b2 hask hK c0
 go_wp2_with fail
 refine (HU.out _).mono ?_
 rintro e w3 ⟨B,rfl,s3,b3⟩
 have B3:=hid (B2.out.trans (b3.mono B2.out.size))
 have S3:=hid s3
 clear s3 b3 HU
 go_wp2_with fail
 refine (put324 R g cap bs _ _ _ _ w3 (HW.out.later B3.out) S3.out (by omega) (by omega)).mono ?_
 rintro e w4 ⟨rfl,g',cap',hw4,hs4⟩
 have W4:=hid hw4
 have S4:=hid ((Stp.of_below B3.out).trans hs4)
 clear hw4 hs4
 go_wp2_with fail
 go_ret
 exact ⟨rfl,g',cap',W4.out,S4.out⟩
theorem text323_long (R g cap : Nat) (bs : List Int) (s : ByteArray) (m : Int) (f : Value) (w : World) (h : Wr w R g cap bs) (hm : m < (s.size : Int)) :
  Calls Tryz.prog 207 #[.pointer (some ⟨R,0,none⟩),.string s,.int .i64 m,f] w (Throws R g 13 w):=by
 have c0:=h.c0
 have hd : decide ((s.size : Int) ≤ m) = false:=by simp; omega
 clear h
 go_enter Tryz.func207,Tryz.ntmps207
 go_wp2_with fail
 refine (place321 R _ _ _ w c0).mono ?_
 rintro e w1 ⟨rfl,rfl⟩
 go_wp2_with fail
 refine (must84_no _ _ _).mono ?_
 rintro e w1 ⟨rfl,rfl⟩
 exact ⟨rfl,⟨_,rfl⟩,Kept.refl _ _⟩
theorem text323_no (R g cap : Nat) (bs : List Int) (s : ByteArray) (m : Int) (K : Nat) (cs : Array Value) (x : Int) (w : World) (h : Wr w R g cap bs) (hm : (s.size : Int) ≤ m)
  (hK : ∀ args w,(callFunc K args).run Tryz.prog w = .ok (.enter K args) w)
  (hask : Calls Tryz.prog K (#[.string s,.int .i64 bs.length] ++ cs) w (Bars x w)) :
  Calls Tryz.prog 207 #[.pointer (some ⟨R,0,none⟩),.string s,.int .i64 m,.func (.func K) #[] cs] w (Throws R g x w):=by
 have c0:=h.c0
 have hd : decide ((s.size : Int) ≤ m) = true:=by simp [hm]
 clear h
 go_enter Tryz.func207,Tryz.ntmps207
 go_wp2_with fail
 refine (place321 R _ _ _ w c0).mono ?_
 rintro e w1 ⟨rfl,rfl⟩
 go_wp2_with fail
 refine (must84_yes _ _ _).mono ?_
 rintro e w1 ⟨rfl,rfl⟩
 clear hd
 go_wp2_with fail
 refine (place321 R _ _ _ _ c0).mono ?_
 rintro e w1 ⟨rfl,rfl⟩
 go_wp2_with fail
 refine hask.mono ?_
 rintro e w2 ⟨⟨p,rfl⟩,b2⟩
 exact ⟨rfl,⟨p,rfl⟩,kept_of b2⟩
end Go.Proofs.YtepcmfegggdjfaaGreatDoor

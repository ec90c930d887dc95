/-
  Texts Fh.
-/
import Derived.Deep.CutRange
import Derived.Test.YtmgjhfookhaajaaGreatDoorQ00
import Derived.Test.YtmgjhfookhaajaaGreatDoorQ07
set_option linter.unusedVariables false
set_option maxRecDepth 100000
set_option maxHeartbeats 16000000
namespace Go.Proofs.YtmgjhfookhaajaaGreatDoor
open Go.RowKit
structure SC (s : StM) : Prop where
 f : s.fn ≤ 2147483647
 g : s.gn ≤ 2147483647
 p : s.pn ≤ 2147483647
 r : s.rn ≤ 2147483647
 fb : ∀ x ∈ s.fs,x.2.2.1.1.2.1 ≤ 2147483647 ∧ x.2.2.2.1.2.1 ≤ 2147483647
 pb : ∀ x ∈ s.ps,x.1.2.1 ≤ 2147483647
abbrev zSt : Obj:=.cells #[.slice none 0 0,.slice none 0 0,.slice none 0 0,.int .i64 0,.int .i8 0,.slice none 0 0,.int .i8 0,.int .i64 0] 27
theorem below_pt {w W : World} {G j : Nat} {u : Value} (h : Below w.heap.size w W) (hB : w.heap.size ≤ G) (hG : G < W.heap.size) : Below w.heap.size w (W.setCell ⟨G,j,none⟩ u) :=
 h.trans ((kept_set W G j u).to_below h.size (fun k hk e => by have e : k = G:=e; omega))
structure CSt (w : World) (base : Nat) (t : StM) : Prop where
 flen : t.fs.length = t.fn
 plen : t.ps.length = t.pn
 frow : w.ownsRow base 40 4 (.slice t.fa t.fn t.fc) t.fn (t.fs.flatMap frC)
 fin : ∀ x ∈ t.fs,LW w base x.2.2.1.1 x.2.2.1.2 ∧ LW w base x.2.2.2.1 x.2.2.2.2
 prow : w.ownsRow base 44 1 (.slice t.pa t.pn t.pc) t.pn (t.ps.flatMap pgC)
 pin : ∀ x ∈ t.ps,LB w base x.1 x.2
 glo : LW w base (t.ga,t.gn,t.gc) t.gs
 res : LW w base (t.ra,t.rn,t.rc) t.rs
def SmF (x y : FrM) : Prop:=y.1 = x.1 ∧ y.2.1 = x.2.1 ∧ y.2.2.1.2 = x.2.2.1.2 ∧ y.2.2.2.2 = x.2.2.2.2 ∧ y.2.2.1.1.2.1 = x.2.2.1.1.2.1 ∧ y.2.2.2.1.2.1 = x.2.2.2.1.2.1
def SmP (x y : PgM) : Prop:=y.2 = x.2 ∧ y.1.2.1 = x.1.2.1
structure Same (s t : StM) : Prop where
 fn : t.fn = s.fn
 gn : t.gn = s.gn
 pn : t.pn = s.pn
 rn : t.rn = s.rn
 rep : t.rep = s.rep
 en : t.en = s.en
 tr : t.tr = s.tr
 us : t.us = s.us
 gs : t.gs = s.gs
 rs : t.rs = s.rs
 fs : ∀ (j : Nat) x y,s.fs[j]? = some x → t.fs[j]? = some y → SmF x y
 ps : ∀ (j : Nat) x y,s.ps[j]? = some x → t.ps[j]? = some y → SmP x y
structure LP (w : World) (s : StM) (pa : Option Addr) (pc : Nat) (fa : Option Addr) (fc : Nat) (ra : Option Addr) (rc : Nat) (ga : Option Addr) (gc : Nat) (k : Nat) (ys : List PgM) (wr : World) : Prop where
 len : ys.length = k
 box : wr.heap[w.heap.size]? = some (.cells #[.slice fa s.fn fc,.slice ga s.gn gc,.slice pa s.pn pc,.int .i64 s.rep,.int .i8 s.en,.slice ra s.rn rc,.int .i8 s.tr,.int .i64 s.us] 27)
 out : wr.heap[w.heap.size + 1]? = some zSt
 row : wr.ownsRow w.heap.size 44 1 (.slice pa s.pn pc) s.pn ((ys ++ s.ps.drop k).flatMap pgC)
 own : ∀ y ∈ ys,LB wr w.heap.size y.1 y.2
 same : ∀ (j : Nat) x y,s.ps[j]? = some x → ys[j]? = some y → SmP x y
 frw : wr.ownsRow w.heap.size 40 4 (.slice fa s.fn fc) s.fn (s.fs.flatMap frC)
 lr : wr.ownsRow w.heap.size 43 1 (.slice ra s.rn rc) s.rn (s.rs.map (.int .u64))
 lg : wr.ownsRow w.heap.size 43 1 (.slice ga s.gn gc) s.gn (s.gs.map (.int .u64))
 bel : Below w.heap.size w wr
section
variable {w wr : World} {s : StM} {pa fa ra ga : Option Addr} {pc fc rc gc k : Nat} {ys : List PgM}
theorem LP.later {w' : World} (h : LP w s pa pc fa fc ra rc ga gc k ys wr) (hb : Below wr.heap.size wr w') : LP w s pa pc fa fc ra rc ga gc k ys w' :=
 ⟨h.len,nb_later hb h.box,nb_later hb h.out,own_lat h.row hb,fun y hy => own_lat (h.own y hy) hb,h.same,own_lat h.frw hb,own_lat h.lr hb,own_lat h.lg hb,h.bel.trans (hb.mono h.bel.size)⟩
theorem pg_flat (l : List PgM) : l.flatMap pgC = l.map (fun x => Value.slice x.1.1 x.1.2.1 x.1.2.2):=by
 induction l with
 | nil => rfl
 | cons x l ih => rw [List.flatMap_cons,ih]; rfl
theorem LP.blk (h : LP w s pa pc fa fc ra rc ga gc k ys wr) (hlt : k < s.pn) : ∃ PB cur,pa = some ⟨PB,0,none⟩ ∧ w.heap.size ≤ PB ∧ wr.heap[PB]? = some (.cells cur 44):=by
 rcases h.row.2 with ⟨h1,h2⟩ | ⟨g,cap,cur,h1,h2,h3,_⟩
 ·omega
 ·injection h1 with h1
  exact ⟨g,cur,h1,h2,h3⟩
theorem LP.free {PB : Nat} {j : Nat} (h : LP w s (some ⟨PB,0,none⟩) pc fa fc ra rc ga gc k ys wr) : wr.frozen? ⟨PB,j,none⟩ = false:=World.ownsRow.frozenAt h.row j
theorem LP.at_ {x : PgM} (h : LP w s pa pc fa fc ra rc ga gc k ys wr) (hx : s.ps[k]? = some x) (hlt : k < s.pn) : ∃ PB,pa = some ⟨PB,0,none⟩ ∧ wr.cell? ⟨PB,k,none⟩ = some (.slice x.1.1 x.1.2.1 x.1.2.2) ∧ wr.frozen? ⟨PB,k,none⟩ = false ∧ w.heap.size ≤ PB ∧ ∃ cur,wr.heap[PB]? = some (.cells cur 44):=by
 obtain ⟨PB,cur,rfl,h2,h3⟩:=h.blk hlt
 refine ⟨PB,rfl,?_,World.ownsRow.frozenAt h.row k,h2,cur,h3⟩
 rw [World.ownsRow.cellAt h.row k (by omega),pg_flat,List.getElem?_map,List.getElem?_append_right (by rw [h.len]; omega),h.len,Nat.sub_self,List.getElem?_drop,Nat.add_zero,hx]
 rfl
theorem LP.put {PB : Nat} {x : PgM} {ua : Option Addr} {uc : Nat} (h : LP w s (some ⟨PB,0,none⟩) pc fa fc ra rc ga gc k ys wr) (hx : s.ps[k]? = some x) (hlt : k < s.pn) (hu : LB wr w.heap.size (ua,x.1.2.1,uc) x.2) :
  LP w s (some ⟨PB,0,none⟩) pc fa fc ra rc ga gc (k + 1) (ys ++ [((ua,x.1.2.1,uc),x.2)]) (wr.setCell ⟨PB,k,none⟩ (.slice ua x.1.2.1 uc)):=by
 obtain ⟨PB',cur,e,h2,h3⟩:=h.blk hlt
 injection e with e
 injection e with e
 subst e
 have hlen:=h.len
 have hr:=(World.ownsRow.stored h.row k (.slice ua x.1.2.1 uc)).1
 have hbx : w.heap.size ≠ PB:=fun e => by
  have hb:=h.box
  rw [← e,hb] at h3
  simp at h3
 have hbo : w.heap.size + 1 ≠ PB:=fun e => by
  have hb:=h.out
  rw [← e,hb] at h3
  simp at h3
 refine ⟨by simp [hlen],nb_far h.box hbx,nb_far h.out hbo,?_,fun y hy => ?_,fun j x' y' hj hy => ?_,own_far h.frw h3 (by decide),own_far h.lr h3 (by decide),own_far h.lg h3 (by decide),below_pt h.bel h2 (nb_lt h3)⟩
 ·have e1 : ((ys ++ s.ps.drop k).flatMap pgC).set k (.slice ua x.1.2.1 uc) = ((ys ++ [((ua,x.1.2.1,uc),x.2)]) ++ s.ps.drop (k + 1)).flatMap pgC:=by
   have hkl:=lt_of_get hx
   have hd : s.ps.drop k = x :: s.ps.drop (k + 1):=by
    rw [List.drop_eq_getElem_cons hkl]
    congr 1
    rw [List.getElem?_eq_getElem hkl] at hx
    simpa using hx
   rw [hd,pg_flat,pg_flat,List.map_append,List.set_append_right _ _ (by simp [hlen]),List.length_map,hlen,Nat.sub_self,List.map_cons,sC0,List.append_assoc,List.map_append]
   rfl
  rw [← e1]
  exact hr
 ·rcases List.mem_append.1 hy with hy | hy
  ·exact own_far (h.own y hy) h3 (by decide)
  ·obtain rfl:=List.mem_singleton.1 hy
   exact own_far hu h3 (by decide)
 ·by_cases hjk : j < k
  ·rw [List.getElem?_append_left (by omega)] at hy
   exact h.same j x' y' hj hy
  ·have hjk' : j = k:=by
    have:=lt_of_get hy
    simp [hlen] at this; omega
   subst hjk'
   rw [List.getElem?_append_right (by omega),hlen,Nat.sub_self] at hy
   simp at hy
   subst hy
   rw [hx] at hj
   injection hj with hj
   subst hj
   exact ⟨rfl,rfl⟩
end
structure LF (w : World) (s : StM) (pa : Option Addr) (pc : Nat) (fa : Option Addr) (fc : Nat) (ra : Option Addr) (rc : Nat) (ga : Option Addr) (gc : Nat) (yp : List PgM) (k : Nat) (ys : List FrM) (wr : World) : Prop where
 len : ys.length = k
 box : wr.heap[w.heap.size]? = some (.cells #[.slice fa s.fn fc,.slice ga s.gn gc,.slice pa s.pn pc,.int .i64 s.rep,.int .i8 s.en,.slice ra s.rn rc,.int .i8 s.tr,.int .i64 s.us] 27)
 out : wr.heap[w.heap.size + 1]? = some zSt
 prow : wr.ownsRow w.heap.size 44 1 (.slice pa s.pn pc) s.pn (yp.flatMap pgC)
 pown : ∀ y ∈ yp,LB wr w.heap.size y.1 y.2
 psame : ∀ (j : Nat) x y,s.ps[j]? = some x → yp[j]? = some y → SmP x y
 plen : yp.length = s.pn
 row : wr.ownsRow w.heap.size 40 4 (.slice fa s.fn fc) s.fn ((ys ++ s.fs.drop k).flatMap frC)
 own : ∀ y ∈ ys,LW wr w.heap.size y.2.2.1.1 y.2.2.1.2 ∧ LW wr w.heap.size y.2.2.2.1 y.2.2.2.2
 same : ∀ (j : Nat) x y,s.fs[j]? = some x → ys[j]? = some y → SmF x y
 lr : wr.ownsRow w.heap.size 43 1 (.slice ra s.rn rc) s.rn (s.rs.map (.int .u64))
 lg : wr.ownsRow w.heap.size 43 1 (.slice ga s.gn gc) s.gn (s.gs.map (.int .u64))
 bel : Below w.heap.size w wr
section
variable {w wr : World} {s : StM} {pa fa ra ga : Option Addr} {pc fc rc gc k : Nat} {yp : List PgM} {ys : List FrM}
theorem LF.later {w' : World} (h : LF w s pa pc fa fc ra rc ga gc yp k ys wr) (hb : Below wr.heap.size wr w') : LF w s pa pc fa fc ra rc ga gc yp k ys w' :=
 ⟨h.len,nb_later hb h.box,nb_later hb h.out,own_lat h.prow hb,fun y hy => own_lat (h.pown y hy) hb,h.psame,h.plen,own_lat h.row hb,fun y hy => ⟨own_lat (h.own y hy).1 hb,own_lat (h.own y hy).2 hb⟩,h.same,own_lat h.lr hb,own_lat h.lg hb,h.bel.trans (hb.mono h.bel.size)⟩
theorem LF.blk (h : LF w s pa pc fa fc ra rc ga gc yp k ys wr) (hlt : k < s.fn) : ∃ FB cur,fa = some ⟨FB,0,none⟩ ∧ w.heap.size ≤ FB ∧ wr.heap[FB]? = some (.cells cur 40):=by
 rcases h.row.2 with ⟨h1,h2⟩ | ⟨g,cap,cur,h1,h2,h3,_⟩
 ·omega
 ·injection h1 with h1
  exact ⟨g,cur,h1,h2,h3⟩
theorem LF.free {FB : Nat} {j : Nat} (h : LF w s pa pc (some ⟨FB,0,none⟩) fc ra rc ga gc yp k ys wr) : wr.frozen? ⟨FB,j,none⟩ = false:=World.ownsRow.frozenAt h.row j
theorem LF.at_ {x : FrM} (h : LF w s pa pc fa fc ra rc ga gc yp k ys wr) (hx : s.fs[k]? = some x) (hlt : k < s.fn) : ∃ FB,fa = some ⟨FB,0,none⟩ ∧ (wr.cell? ⟨FB,k * 4,none⟩ = some (.int .i64 x.1) ∧ wr.cell? ⟨FB,k * 4 + 1,none⟩ = some (.int .i64 x.2.1) ∧ wr.cell? ⟨FB,k * 4 + 2,none⟩ = some (.slice x.2.2.1.1.1 x.2.2.1.1.2.1 x.2.2.1.1.2.2) ∧ wr.cell? ⟨FB,k * 4 + 3,none⟩ = some (.slice x.2.2.2.1.1 x.2.2.2.1.2.1 x.2.2.2.1.2.2)) ∧ w.heap.size ≤ FB ∧ ∃ cur,wr.heap[FB]? = some (.cells cur 40):=by
 obtain ⟨FB,cur,rfl,h2,h3⟩:=h.blk hlt
 have hq : ∀ q,q < 4 → wr.cell? ⟨FB,k * 4 + q,none⟩ = (frC x)[q]?:=fun q hq => by
  rw [World.ownsRow.cellAt h.row (k * 4 + q) (by omega),fm_get frC 4 (fun _ => rfl) _ _ _ hq,List.getElem?_append_right (by rw [h.len]; omega),h.len,Nat.sub_self,List.getElem?_drop,Nat.add_zero,hx]
  rfl
 exact ⟨FB,rfl,⟨hq 0 (by omega),hq 1 (by omega),hq 2 (by omega),hq 3 (by omega)⟩,h2,cur,h3⟩
theorem set_two {ys r : List FrM} {x y : FrM} {k : Nat} (hl : ys.length = k) (h0 : y.1 = x.1) (h1 : y.2.1 = x.2.1) :
  (((ys ++ x :: r).flatMap frC).set (k * 4 + 2) (.slice y.2.2.1.1.1 y.2.2.1.1.2.1 y.2.2.1.1.2.2)).set (k * 4 + 3) (.slice y.2.2.2.1.1 y.2.2.2.1.2.1 y.2.2.2.1.2.2) = ((ys ++ [y]) ++ r).flatMap frC:=by
 have e : (ys.flatMap frC).length = k * 4:=by rw [fm_len frC 4 (fun _ => rfl),hl]
 rw [List.flatMap_append,List.set_append_right _ _ (by omega),List.set_append_right _ _ (by omega),e,Nat.add_sub_cancel_left,Nat.add_sub_cancel_left,List.flatMap_append,List.flatMap_append,List.append_assoc]
 congr 1
 rw [List.flatMap_cons,List.flatMap_cons]
 simp [frC,h0,h1]
theorem LF.put {FB G : Nat} {x : FrM} {ua va : Option Addr} {uc vc : Nat} {o : Obj} (h : LF w s pa pc (some ⟨FB,0,none⟩) fc ra rc ga gc yp k ys wr) (hx : s.fs[k]? = some x) (hlt : k < s.fn) (hu : LW wr w.heap.size (ua,x.2.2.1.1.2.1,uc) x.2.2.1.2) (hv : LW wr w.heap.size (va,x.2.2.2.1.2.1,vc) x.2.2.2.2) :
  LF w s pa pc (some ⟨FB,0,none⟩) fc ra rc ga gc yp (k + 1) (ys ++ [(x.1,x.2.1,((ua,x.2.2.1.1.2.1,uc),x.2.2.1.2),((va,x.2.2.2.1.2.1,vc),x.2.2.2.2))]) ((wr.setCell ⟨FB,k * 4 + 2,none⟩ (.slice ua x.2.2.1.1.2.1 uc)).setCell ⟨FB,k * 4 + 3,none⟩ (.slice va x.2.2.2.1.2.1 vc)):=by
 obtain ⟨FB',cur,e,h2,h3⟩:=h.blk hlt
 injection e with e
 injection e with e
 subst e
 have hlen:=h.len
 have hr1:=(World.ownsRow.stored h.row (k * 4 + 2) (.slice ua x.2.2.1.1.2.1 uc)).1
 have hr2:=(World.ownsRow.stored hr1 (k * 4 + 3) (.slice va x.2.2.2.1.2.1 vc)).1
 have h4:=setBlk (i:=k * 4 + 2) (u:=.slice ua x.2.2.1.1.2.1 uc) h3
 have hbx : w.heap.size ≠ FB:=fun e => by
  have hb:=h.box
  rw [← e,hb] at h3
  simp at h3
 have hbo : w.heap.size + 1 ≠ FB:=fun e => by
  have hb:=h.out
  rw [← e,hb] at h3
  simp at h3
 refine ⟨by simp [hlen],nb_far (nb_far h.box hbx) hbx,nb_far (nb_far h.out hbo) hbo,own_far (own_far h.prow h3 (by decide)) h4 (by decide),fun y hy => own_far (own_far (h.pown y hy) h3 (by decide)) h4 (by decide),h.psame,h.plen,?_,fun y hy => ?_,fun j x' y' hj hy => ?_,own_far (own_far h.lr h3 (by decide)) h4 (by decide),own_far (own_far h.lg h3 (by decide)) h4 (by decide),below_pt (below_pt h.bel h2 (nb_lt h3)) h2 (nb_lt h4)⟩
 ·have hkl:=lt_of_get hx
  have hd : s.fs.drop k = x :: s.fs.drop (k + 1):=by
   rw [List.drop_eq_getElem_cons hkl]
   congr 1
   rw [List.getElem?_eq_getElem hkl] at hx
   simpa using hx
  rw [hd] at hr2
  have e1:=set_two (r:=s.fs.drop (k + 1)) (x:=x) (y:=(x.1,x.2.1,((ua,x.2.2.1.1.2.1,uc),x.2.2.1.2),((va,x.2.2.2.1.2.1,vc),x.2.2.2.2))) hlen rfl rfl
  rw [← e1]
  exact hr2
 ·rcases List.mem_append.1 hy with hy | hy
  ·exact ⟨own_far (own_far (h.own y hy).1 h3 (by decide)) h4 (by decide),own_far (own_far (h.own y hy).2 h3 (by decide)) h4 (by decide)⟩
  ·obtain rfl:=List.mem_singleton.1 hy
   exact ⟨own_far (own_far hu h3 (by decide)) h4 (by decide),own_far (own_far hv h3 (by decide)) h4 (by decide)⟩
 ·by_cases hjk : j < k
  ·rw [List.getElem?_append_left (by omega)] at hy
   exact h.same j x' y' hj hy
  ·have hjk' : j = k:=by
    have:=lt_of_get hy
    simp [hlen] at this; omega
   subst hjk'
   rw [List.getElem?_append_right (by omega),hlen,Nat.sub_self] at hy
   simp at hy
   subst hy
   rw [hx] at hj
   injection hj with hj
   subst hj
   exact ⟨rfl,rfl,rfl,rfl,rfl,rfl⟩
theorem LF.fin {W : World} (h : LF w s pa pc fa fc ra rc ga gc yp s.fn ys wr) (hk : Kept (fun k => k = w.heap.size + 1) wr W) (hl : s.fs.length = s.fn) :
  CSt W w.heap.size ⟨fa,s.fn,fc,ys,ga,s.gn,gc,s.gs,pa,s.pn,pc,yp,s.rep,s.en,ra,s.rn,rc,s.rs,s.tr,s.us⟩ ∧ Below w.heap.size w W:=by
 have ho:=h.out
 have key : ∀ {e k n : Nat} {v : Value} {xs : List Value},wr.ownsRow w.heap.size e k v n xs → (27 : Nat) ≠ e → W.ownsRow w.heap.size e k v n xs:=fun hr ht =>
  own_keepB hr hk (fun c hc e => by
   obtain ⟨_,_,cur2,h2⟩:=own_ty hr hc
   have e : c = w.heap.size + 1:=e
   subst e
   rw [ho] at h2
   simp at h2
   exact ht h2.2)
 have hrow:=h.row
 rw [List.drop_of_length_le (by omega),List.append_nil] at hrow
 exact ⟨⟨h.len,h.plen,key hrow (by decide),fun x hx => ⟨key (h.own x hx).1 (by decide),key (h.own x hx).2 (by decide)⟩,key h.prow (by decide),fun x hx => key (h.pown x hx) (by decide),key h.lg (by decide),key h.lr (by decide)⟩,
  h.bel.trans (hk.to_below h.bel.size (fun k _ e => by have e : k = w.heap.size + 1:=e; omega))⟩
end
theorem kept_out8 (W : World) (G : Nat) (t0 t1 t2 t3 t4 t5 t6 t7 : Value) : Kept (fun k => k = G) W ((((((((W.setCell ⟨G,0,none⟩ t0).setCell ⟨G,1,none⟩ t1).setCell ⟨G,2,none⟩ t2).setCell ⟨G,3,none⟩ t3).setCell ⟨G,4,none⟩ t4).setCell ⟨G,5,none⟩ t5).setCell ⟨G,6,none⟩ t6).setCell ⟨G,7,none⟩ t7) :=
 (((((((kept_set W G 0 t0).trans (kept_set _ G 1 t1)).trans (kept_set _ G 2 t2)).trans (kept_set _ G 3 t3)).trans (kept_set _ G 4 t4)).trans (kept_set _ G 5 t5)).trans (kept_set _ G 6 t6)).trans (kept_set _ G 7 t7)
theorem fcopy6 (s : StM) (w : World) (h : SSt w s) (hs : SC s) :
  Calls Tryz.prog 6 #[.agg (stAr s)] w fun e w' => ∃ t,e = .returned (.agg (stAr t)) ∧ CSt w' w.heap.size t ∧ Same s t ∧ Below w.heap.size w w':=by
 have FR:=hid (fun (W : World) (hb : Below w.heap.size w W) => copy18 s.ra s.rn s.rc (s.rs.map (.int .u64)) W (h.rs.later hb).fl (by rw [List.length_map,h.rs.1]; omega) (one_int _ _) hs.r)
 have FG:=hid (fun (W : World) (hb : Below w.heap.size w W) => copy18 s.ga s.gn s.gc (s.gs.map (.int .u64)) W (h.gl.later hb).fl (by rw [List.length_map,h.gl.1]; omega) (one_int _ _) hs.g)
 have FP:=hid (fun (W : World) (hb : Below w.heap.size w W) => copy19 s.pa s.pn s.pc (s.ps.flatMap pgC) W (h.pg.later hb).fl (by rw [fm_len pgC 1 (fun _ => rfl),h.pg.len]) (one_pg _) hs.p)
 have FF:=hid (fun (W : World) (hb : Below w.heap.size w W) => copy20 s.fa s.fn s.fc (s.fs.flatMap frC) W (h.fr.later hb).fl (by rw [fm_len frC 4 (fun _ => rfl),h.fr.len]) (one_fr _) hs.f)
 have HS:=hid h
 have HC:=hid hs
 have B1:=below_new w (.cells (stAr s) 27)
 have B2:=below_new (w.alloc (.cells (stAr s) 27)) zSt
 have HB:=hid (B1.trans (B2.mono B1.size))
 have kb0:=nb_later B2 (nb_new w (.cells (stAr s) 27))
 have kr0 : ((w.alloc (.cells (stAr s) 27)).alloc zSt).heap[w.heap.size + 1]? = some zSt:=nb_at (by simp)
 have hz0 : ((w.alloc (.cells (stAr s) 27)).alloc zSt).heap.size = w.heap.size + 2:=by simp
 have HZ:=hid hz0
 clear h hs B1 B2 hz0
 go_enter Tryz.func6,Tryz.ntmps6
 go_wp2_with fail
 generalize (w.alloc (.cells (stAr s) 27)).alloc zSt = W0 at *
 go_cut [] from 7 to 14 (fun W => ∃ ra rc ga gc,W.heap[w.heap.size]? = some (.cells #[.slice s.fa s.fn s.fc,.slice ga s.gn gc,.slice s.pa s.pn s.pc,.int .i64 s.rep,.int .i8 s.en,.slice ra s.rn rc,.int .i8 s.tr,.int .i64 s.us] 27) ∧ W.heap[w.heap.size + 1]? = some zSt ∧ Hid (W.ownsRow w.heap.size 43 1 (.slice ra s.rn rc) s.rn (s.rs.map (.int .u64))) ∧ Hid (W.ownsRow w.heap.size 43 1 (.slice ga s.gn gc) s.gn (s.gs.map (.int .u64))) ∧ Hid (Below w.heap.size w W))
 case first =>
  refine wp_region_held_drew (S:=fun _ => True) (by kernel_rfl) trivial (fun _ => ?_)
  refine tkFh (i:=0) rfl ?_
  try simp only [Act.put,sIB]
  refine tkFh (i:=3) rfl ?_
  try simp only [Act.put]
  have HBd:=hid (HB.out.trans ((below_drewN W0 1).mono HB.out.size))
  have kb : W0.drew.heap[w.heap.size]? = some (.cells #[.slice s.fa s.fn s.fc,.slice s.ga s.gn s.gc,.slice s.pa s.pn s.pc,.int .i64 s.rep,.int .i8 s.en,.slice s.ra s.rn s.rc,.int .i8 s.tr,.int .i64 s.us] 27):=kb0
  have kr : W0.drew.heap[w.heap.size + 1]? = some zSt:=kr0
  have g1 : W0.drew.cell? ⟨w.heap.size,5,none⟩ = some (.slice s.ra s.rn s.rc):=cell_at kb
  have g2 : W0.drew.cell? ⟨w.heap.size,1,none⟩ = some (.slice s.ga s.gn s.gc):=cell_at kb
  refine rdFy (rs:=[1,4]) ?_
  refine rdFc (i:=1) rfl (fun K hK => ?_) (rdFc (i:=4) rfl (fun K hK => ?_) AllReadyH.nil)
  ·go_simp
   refine hK.out _ _ trivial (fun _ => ?_)
   clear hK K
   refine rdFy (rs:=[2,4]) ?_
   refine rdFc (i:=2) rfl (fun K hK => ?_) (rdFc (i:=4) rfl (fun K hK => ?_) AllReadyH.nil)
   ·go_simp
    refine (FR.out _ HBd.out).mono ?_
    rintro e w5 ⟨ua,uc,rfl,ho5,hb5⟩
    have kb5:=nb_later hb5 kb
    have kr5:=nb_later hb5 kr
    have B5:=hid (HBd.out.trans (hb5.mono HBd.out.size))
    have O5:=hid (own_low ho5 HBd.out.size)
    have g5 : w5.cell? ⟨w.heap.size,1,none⟩ = some (.slice s.ga s.gn s.gc):=cell_at kb5
    refine hK.out _ _ trivial (fun _ => ?_)
    clear hK K hb5 ho5
    refine rdFy (rs:=[4]) ?_
    refine rdFc (i:=4) rfl (fun K hK => ?_) AllReadyH.nil
    go_simp
    refine hK.out _ _ trivial (fun _ => ?_)
    clear hK K
    refine tkFh (i:=6) rfl ?_
    try simp only [Act.put,sIB]
    refine rdFy (rs:=[5]) ?_
    refine rdFc (i:=5) rfl (fun K hK => ?_) AllReadyH.nil
    go_simp
    refine (FG.out _ B5.out).mono ?_
    rintro e w6 ⟨va,vc,rfl,ho6,hb6⟩
    have kb6:=nb_later hb6 kb5
    have kr6:=nb_later hb6 kr5
    have B6:=hid (B5.out.trans (hb6.mono B5.out.size))
    have O6:=hid (own_lat O5.out hb6)
    have N6:=hid (own_low ho6 B5.out.size)
    refine hK.out _ _ trivial (fun _ => ?_)
    clear hK K hb6 ho6
    have s1 : w6.cell? ⟨w.heap.size,5,none⟩ = some (.slice s.ra s.rn s.rc):=cell_at kb6
    have z1 : w6.frozen? ⟨w.heap.size,5,none⟩ = false:=free_at kb6
    refine rdFy (rs:=[7]) ?_
    refine rdFc (i:=7) rfl (fun K hK => ?_) AllReadyH.nil
    go_simp
    have kb7 : (w6.setCell ⟨w.heap.size,5,none⟩ (.slice ua s.rn uc)).heap[w.heap.size]? = some (.cells #[.slice s.fa s.fn s.fc,.slice s.ga s.gn s.gc,.slice s.pa s.pn s.pc,.int .i64 s.rep,.int .i8 s.en,.slice ua s.rn uc,.int .i8 s.tr,.int .i64 s.us] 27):=setBlk (i:=5) (u:=.slice ua s.rn uc) kb6
    have kr7 : (w6.setCell ⟨w.heap.size,5,none⟩ (.slice ua s.rn uc)).heap[w.heap.size + 1]? = some zSt:=nb_far kr6 (by omega)
    have B7:=hid (below_pt (j:=5) (u:=.slice ua s.rn uc) B6.out (Nat.le_refl w.heap.size) (nb_lt kb6))
    have O7:=hid (own_far (o:=5) (u:=.slice ua s.rn uc) O6.out kb6 (by decide))
    have N7:=hid (own_far (o:=5) (u:=.slice ua s.rn uc) N6.out kb6 (by decide))
    refine hK.out _ _ trivial (fun _ => ?_)
    clear hK K s1 z1 kb6 kr6 B6 O6 N6
    generalize w6.setCell ⟨w.heap.size,5,none⟩ (.slice ua s.rn uc) = w7 at *
    refine tkFh (i:=8) rfl ?_
    try simp only [Act.put,sIB]
    have s1 : w7.cell? ⟨w.heap.size,1,none⟩ = some (.slice s.ga s.gn s.gc):=cell_at kb7
    have z1 : w7.frozen? ⟨w.heap.size,1,none⟩ = false:=free_at kb7
    refine rdFy (rs:=[9]) ?_
    refine rdFc (i:=9) rfl (fun K hK => ?_) AllReadyH.nil
    go_simp
    have kb8 : (w7.setCell ⟨w.heap.size,1,none⟩ (.slice va s.gn vc)).heap[w.heap.size]? = some (.cells #[.slice s.fa s.fn s.fc,.slice va s.gn vc,.slice s.pa s.pn s.pc,.int .i64 s.rep,.int .i8 s.en,.slice ua s.rn uc,.int .i8 s.tr,.int .i64 s.us] 27):=setBlk (i:=1) (u:=.slice va s.gn vc) kb7
    have kr8 : (w7.setCell ⟨w.heap.size,1,none⟩ (.slice va s.gn vc)).heap[w.heap.size + 1]? = some zSt:=nb_far kr7 (by omega)
    have B8:=hid (below_pt (j:=1) (u:=.slice va s.gn vc) B7.out (Nat.le_refl w.heap.size) (nb_lt kb7))
    have O8:=hid (own_far (o:=1) (u:=.slice va s.gn vc) O7.out kb7 (by decide))
    have N8:=hid (own_far (o:=1) (u:=.slice va s.gn vc) N7.out kb7 (by decide))
    refine hK.out _ _ trivial (fun _ => ?_)
    clear hK K s1 z1 kb7 kr7 B7 O7 N7
    refine wpAnyH_done (by kernel_rfl) ?_ _
    go_wp2_with fail
    go_meet
    exact ⟨_,_,_,_,kb8,kr8,O8,N8,B8⟩
   ·go_simp
    refine hK.out _ _ trivial (fun _ => ?_)
    clear hK K
    refine rdFy (rs:=[2]) ?_
    refine rdFc (i:=2) rfl (fun K hK => ?_) AllReadyH.nil
    go_simp
    refine (FR.out _ HBd.out).mono ?_
    rintro e w5 ⟨ua,uc,rfl,ho5,hb5⟩
    have kb5:=nb_later hb5 kb
    have kr5:=nb_later hb5 kr
    have B5:=hid (HBd.out.trans (hb5.mono HBd.out.size))
    have O5:=hid (own_low ho5 HBd.out.size)
    have g5 : w5.cell? ⟨w.heap.size,1,none⟩ = some (.slice s.ga s.gn s.gc):=cell_at kb5
    refine hK.out _ _ trivial (fun _ => ?_)
    clear hK K hb5 ho5
    refine tkFh (i:=6) rfl ?_
    try simp only [Act.put,sIB]
    refine rdFy (rs:=[5]) ?_
    refine rdFc (i:=5) rfl (fun K hK => ?_) AllReadyH.nil
    go_simp
    refine (FG.out _ B5.out).mono ?_
    rintro e w6 ⟨va,vc,rfl,ho6,hb6⟩
    have kb6:=nb_later hb6 kb5
    have kr6:=nb_later hb6 kr5
    have B6:=hid (B5.out.trans (hb6.mono B5.out.size))
    have O6:=hid (own_lat O5.out hb6)
    have N6:=hid (own_low ho6 B5.out.size)
    refine hK.out _ _ trivial (fun _ => ?_)
    clear hK K hb6 ho6
    have s1 : w6.cell? ⟨w.heap.size,5,none⟩ = some (.slice s.ra s.rn s.rc):=cell_at kb6
    have z1 : w6.frozen? ⟨w.heap.size,5,none⟩ = false:=free_at kb6
    refine rdFy (rs:=[7]) ?_
    refine rdFc (i:=7) rfl (fun K hK => ?_) AllReadyH.nil
    go_simp
    have kb7 : (w6.setCell ⟨w.heap.size,5,none⟩ (.slice ua s.rn uc)).heap[w.heap.size]? = some (.cells #[.slice s.fa s.fn s.fc,.slice s.ga s.gn s.gc,.slice s.pa s.pn s.pc,.int .i64 s.rep,.int .i8 s.en,.slice ua s.rn uc,.int .i8 s.tr,.int .i64 s.us] 27):=setBlk (i:=5) (u:=.slice ua s.rn uc) kb6
    have kr7 : (w6.setCell ⟨w.heap.size,5,none⟩ (.slice ua s.rn uc)).heap[w.heap.size + 1]? = some zSt:=nb_far kr6 (by omega)
    have B7:=hid (below_pt (j:=5) (u:=.slice ua s.rn uc) B6.out (Nat.le_refl w.heap.size) (nb_lt kb6))
    have O7:=hid (own_far (o:=5) (u:=.slice ua s.rn uc) O6.out kb6 (by decide))
    have N7:=hid (own_far (o:=5) (u:=.slice ua s.rn uc) N6.out kb6 (by decide))
    refine hK.out _ _ trivial (fun _ => ?_)
    clear hK K s1 z1 kb6 kr6 B6 O6 N6
    generalize w6.setCell ⟨w.heap.size,5,none⟩ (.slice ua s.rn uc) = w7 at *
    refine tkFh (i:=8) rfl ?_
    try simp only [Act.put,sIB]
    have s1 : w7.cell? ⟨w.heap.size,1,none⟩ = some (.slice s.ga s.gn s.gc):=cell_at kb7
    have z1 : w7.frozen? ⟨w.heap.size,1,none⟩ = false:=free_at kb7
    refine rdFy (rs:=[9]) ?_
    refine rdFc (i:=9) rfl (fun K hK => ?_) AllReadyH.nil
    go_simp
    have kb8 : (w7.setCell ⟨w.heap.size,1,none⟩ (.slice va s.gn vc)).heap[w.heap.size]? = some (.cells #[.slice s.fa s.fn s.fc,.slice va s.gn vc,.slice s.pa s.pn s.pc,.int .i64 s.rep,.int .i8 s.en,.slice ua s.rn uc,.int .i8 s.tr,.int .i64 s.us] 27):=setBlk (i:=1) (u:=.slice va s.gn vc) kb7
    have kr8 : (w7.setCell ⟨w.heap.size,1,none⟩ (.slice va s.gn vc)).heap[w.heap.size + 1]? = some zSt:=nb_far kr7 (by omega)
    have B8:=hid (below_pt (j:=1) (u:=.slice va s.gn vc) B7.out (Nat.le_refl w.heap.size) (nb_lt kb7))
    have O8:=hid (own_far (o:=1) (u:=.slice va s.gn vc) O7.out kb7 (by decide))
    have N8:=hid (own_far (o:=1) (u:=.slice va s.gn vc) N7.out kb7 (by decide))
    refine hK.out _ _ trivial (fun _ => ?_)
    clear hK K s1 z1 kb7 kr7 B7 O7 N7
    refine wpAnyH_done (by kernel_rfl) ?_ _
    go_wp2_with fail
    go_meet
    exact ⟨_,_,_,_,kb8,kr8,O8,N8,B8⟩
  ·go_simp
   refine hK.out _ _ trivial (fun _ => ?_)
   clear hK K
   refine rdFy (rs:=[1]) ?_
   refine rdFc (i:=1) rfl (fun K hK => ?_) AllReadyH.nil
   go_simp
   refine hK.out _ _ trivial (fun _ => ?_)
   clear hK K
   refine rdFy (rs:=[2]) ?_
   refine rdFc (i:=2) rfl (fun K hK => ?_) AllReadyH.nil
   go_simp
   refine (FR.out _ HBd.out).mono ?_
   rintro e w5 ⟨ua,uc,rfl,ho5,hb5⟩
   have kb5:=nb_later hb5 kb
   have kr5:=nb_later hb5 kr
   have B5:=hid (HBd.out.trans (hb5.mono HBd.out.size))
   have O5:=hid (own_low ho5 HBd.out.size)
   have g5 : w5.cell? ⟨w.heap.size,1,none⟩ = some (.slice s.ga s.gn s.gc):=cell_at kb5
   refine hK.out _ _ trivial (fun _ => ?_)
   clear hK K hb5 ho5
   refine tkFh (i:=6) rfl ?_
   try simp only [Act.put,sIB]
   refine rdFy (rs:=[5]) ?_
   refine rdFc (i:=5) rfl (fun K hK => ?_) AllReadyH.nil
   go_simp
   refine (FG.out _ B5.out).mono ?_
   rintro e w6 ⟨va,vc,rfl,ho6,hb6⟩
   have kb6:=nb_later hb6 kb5
   have kr6:=nb_later hb6 kr5
   have B6:=hid (B5.out.trans (hb6.mono B5.out.size))
   have O6:=hid (own_lat O5.out hb6)
   have N6:=hid (own_low ho6 B5.out.size)
   refine hK.out _ _ trivial (fun _ => ?_)
   clear hK K hb6 ho6
   have s1 : w6.cell? ⟨w.heap.size,5,none⟩ = some (.slice s.ra s.rn s.rc):=cell_at kb6
   have z1 : w6.frozen? ⟨w.heap.size,5,none⟩ = false:=free_at kb6
   refine rdFy (rs:=[7]) ?_
   refine rdFc (i:=7) rfl (fun K hK => ?_) AllReadyH.nil
   go_simp
   have kb7 : (w6.setCell ⟨w.heap.size,5,none⟩ (.slice ua s.rn uc)).heap[w.heap.size]? = some (.cells #[.slice s.fa s.fn s.fc,.slice s.ga s.gn s.gc,.slice s.pa s.pn s.pc,.int .i64 s.rep,.int .i8 s.en,.slice ua s.rn uc,.int .i8 s.tr,.int .i64 s.us] 27):=setBlk (i:=5) (u:=.slice ua s.rn uc) kb6
   have kr7 : (w6.setCell ⟨w.heap.size,5,none⟩ (.slice ua s.rn uc)).heap[w.heap.size + 1]? = some zSt:=nb_far kr6 (by omega)
   have B7:=hid (below_pt (j:=5) (u:=.slice ua s.rn uc) B6.out (Nat.le_refl w.heap.size) (nb_lt kb6))
   have O7:=hid (own_far (o:=5) (u:=.slice ua s.rn uc) O6.out kb6 (by decide))
   have N7:=hid (own_far (o:=5) (u:=.slice ua s.rn uc) N6.out kb6 (by decide))
   refine hK.out _ _ trivial (fun _ => ?_)
   clear hK K s1 z1 kb6 kr6 B6 O6 N6
   generalize w6.setCell ⟨w.heap.size,5,none⟩ (.slice ua s.rn uc) = w7 at *
   refine tkFh (i:=8) rfl ?_
   try simp only [Act.put,sIB]
   have s1 : w7.cell? ⟨w.heap.size,1,none⟩ = some (.slice s.ga s.gn s.gc):=cell_at kb7
   have z1 : w7.frozen? ⟨w.heap.size,1,none⟩ = false:=free_at kb7
   refine rdFy (rs:=[9]) ?_
   refine rdFc (i:=9) rfl (fun K hK => ?_) AllReadyH.nil
   go_simp
   have kb8 : (w7.setCell ⟨w.heap.size,1,none⟩ (.slice va s.gn vc)).heap[w.heap.size]? = some (.cells #[.slice s.fa s.fn s.fc,.slice va s.gn vc,.slice s.pa s.pn s.pc,.int .i64 s.rep,.int .i8 s.en,.slice ua s.rn uc,.int .i8 s.tr,.int .i64 s.us] 27):=setBlk (i:=1) (u:=.slice va s.gn vc) kb7
   have kr8 : (w7.setCell ⟨w.heap.size,1,none⟩ (.slice va s.gn vc)).heap[w.heap.size + 1]? = some zSt:=nb_far kr7 (by omega)
   have B8:=hid (below_pt (j:=1) (u:=.slice va s.gn vc) B7.out (Nat.le_refl w.heap.size) (nb_lt kb7))
   have O8:=hid (own_far (o:=1) (u:=.slice va s.gn vc) O7.out kb7 (by decide))
   have N8:=hid (own_far (o:=1) (u:=.slice va s.gn vc) N7.out kb7 (by decide))
   refine hK.out _ _ trivial (fun _ => ?_)
   clear hK K s1 z1 kb7 kr7 B7 O7 N7
   refine wpAnyH_done (by kernel_rfl) ?_ _
   go_wp2_with fail
   go_meet
   exact ⟨_,_,_,_,kb8,kr8,O8,N8,B8⟩
 case rest =>
  obtain ⟨ra,rc,ga,gc,kb1,kr1,LR,LG,HB1⟩:=hcut
  clear kb0 kr0 HB HZ FR FG
  generalize wc = W1 at *
  clear W0
  have kb0:=kb1
  have kr0:=kr1
  have HB:=HB1
  clear kb1 kr1 HB1
  go_wp2_with fail
  go_cut [] from 15 to 22 (fun W => ∃ pa pc fa fc,W.heap[w.heap.size]? = some (.cells #[.slice fa s.fn fc,.slice ga s.gn gc,.slice pa s.pn pc,.int .i64 s.rep,.int .i8 s.en,.slice ra s.rn rc,.int .i8 s.tr,.int .i64 s.us] 27) ∧ W.heap[w.heap.size + 1]? = some zSt ∧ Hid (W.ownsRow w.heap.size 44 1 (.slice pa s.pn pc) s.pn (s.ps.flatMap pgC)) ∧ Hid (W.ownsRow w.heap.size 40 4 (.slice fa s.fn fc) s.fn (s.fs.flatMap frC)) ∧ Hid (W.ownsRow w.heap.size 43 1 (.slice ra s.rn rc) s.rn (s.rs.map (.int .u64))) ∧ Hid (W.ownsRow w.heap.size 43 1 (.slice ga s.gn gc) s.gn (s.gs.map (.int .u64))) ∧ Hid (Below w.heap.size w W))
  case first =>
   refine wp_region_held_drew (S:=fun _ => True) (by kernel_rfl) trivial (fun _ => ?_)
   refine tkFh (i:=0) rfl ?_
   try simp only [Act.put,sIB]
   refine tkFh (i:=3) rfl ?_
   try simp only [Act.put]
   have HBd:=hid (HB.out.trans ((below_drewN W1 1).mono HB.out.size))
   have D04:=hid (World.ownsRow.drew LR.out)
   have D14:=hid (World.ownsRow.drew LG.out)
   have kb : W1.drew.heap[w.heap.size]? = some (.cells #[.slice s.fa s.fn s.fc,.slice ga s.gn gc,.slice s.pa s.pn s.pc,.int .i64 s.rep,.int .i8 s.en,.slice ra s.rn rc,.int .i8 s.tr,.int .i64 s.us] 27):=kb0
   have kr : W1.drew.heap[w.heap.size + 1]? = some zSt:=kr0
   have g1 : W1.drew.cell? ⟨w.heap.size,2,none⟩ = some (.slice s.pa s.pn s.pc):=cell_at kb
   have g2 : W1.drew.cell? ⟨w.heap.size,0,none⟩ = some (.slice s.fa s.fn s.fc):=cell_at kb
   refine rdFy (rs:=[1,4]) ?_
   refine rdFc (i:=1) rfl (fun K hK => ?_) (rdFc (i:=4) rfl (fun K hK => ?_) AllReadyH.nil)
   ·go_simp
    refine hK.out _ _ trivial (fun _ => ?_)
    clear hK K
    refine rdFy (rs:=[2,4]) ?_
    refine rdFc (i:=2) rfl (fun K hK => ?_) (rdFc (i:=4) rfl (fun K hK => ?_) AllReadyH.nil)
    ·go_simp
     refine (FP.out _ HBd.out).mono ?_
     rintro e w5 ⟨ua,uc,rfl,ho5,hb5⟩
     have kb5:=nb_later hb5 kb
     have kr5:=nb_later hb5 kr
     have B5:=hid (HBd.out.trans (hb5.mono HBd.out.size))
     have O5:=hid (own_low ho5 HBd.out.size)
     have D05:=hid (own_lat D04.out hb5)
     have D15:=hid (own_lat D14.out hb5)
     have g5 : w5.cell? ⟨w.heap.size,0,none⟩ = some (.slice s.fa s.fn s.fc):=cell_at kb5
     refine hK.out _ _ trivial (fun _ => ?_)
     clear hK K hb5 ho5
     refine rdFy (rs:=[4]) ?_
     refine rdFc (i:=4) rfl (fun K hK => ?_) AllReadyH.nil
     go_simp
     refine hK.out _ _ trivial (fun _ => ?_)
     clear hK K
     refine tkFh (i:=6) rfl ?_
     try simp only [Act.put,sIB]
     refine rdFy (rs:=[5]) ?_
     refine rdFc (i:=5) rfl (fun K hK => ?_) AllReadyH.nil
     go_simp
     refine (FF.out _ B5.out).mono ?_
     rintro e w6 ⟨va,vc,rfl,ho6,hb6⟩
     have kb6:=nb_later hb6 kb5
     have kr6:=nb_later hb6 kr5
     have B6:=hid (B5.out.trans (hb6.mono B5.out.size))
     have O6:=hid (own_lat O5.out hb6)
     have N6:=hid (own_low ho6 B5.out.size)
     have D06:=hid (own_lat D05.out hb6)
     have D16:=hid (own_lat D15.out hb6)
     refine hK.out _ _ trivial (fun _ => ?_)
     clear hK K hb6 ho6
     have s1 : w6.cell? ⟨w.heap.size,2,none⟩ = some (.slice s.pa s.pn s.pc):=cell_at kb6
     have z1 : w6.frozen? ⟨w.heap.size,2,none⟩ = false:=free_at kb6
     refine rdFy (rs:=[7]) ?_
     refine rdFc (i:=7) rfl (fun K hK => ?_) AllReadyH.nil
     go_simp
     have kb7 : (w6.setCell ⟨w.heap.size,2,none⟩ (.slice ua s.pn uc)).heap[w.heap.size]? = some (.cells #[.slice s.fa s.fn s.fc,.slice ga s.gn gc,.slice ua s.pn uc,.int .i64 s.rep,.int .i8 s.en,.slice ra s.rn rc,.int .i8 s.tr,.int .i64 s.us] 27):=setBlk (i:=2) (u:=.slice ua s.pn uc) kb6
     have kr7 : (w6.setCell ⟨w.heap.size,2,none⟩ (.slice ua s.pn uc)).heap[w.heap.size + 1]? = some zSt:=nb_far kr6 (by omega)
     have B7:=hid (below_pt (j:=2) (u:=.slice ua s.pn uc) B6.out (Nat.le_refl w.heap.size) (nb_lt kb6))
     have O7:=hid (own_far (o:=2) (u:=.slice ua s.pn uc) O6.out kb6 (by decide))
     have N7:=hid (own_far (o:=2) (u:=.slice ua s.pn uc) N6.out kb6 (by decide))
     have D07:=hid (own_far (o:=2) (u:=.slice ua s.pn uc) D06.out kb6 (by decide))
     have D17:=hid (own_far (o:=2) (u:=.slice ua s.pn uc) D16.out kb6 (by decide))
     refine hK.out _ _ trivial (fun _ => ?_)
     clear hK K s1 z1 kb6 kr6 B6 O6 N6
     generalize w6.setCell ⟨w.heap.size,2,none⟩ (.slice ua s.pn uc) = w7 at *
     refine tkFh (i:=8) rfl ?_
     try simp only [Act.put,sIB]
     have s1 : w7.cell? ⟨w.heap.size,0,none⟩ = some (.slice s.fa s.fn s.fc):=cell_at kb7
     have z1 : w7.frozen? ⟨w.heap.size,0,none⟩ = false:=free_at kb7
     refine rdFy (rs:=[9]) ?_
     refine rdFc (i:=9) rfl (fun K hK => ?_) AllReadyH.nil
     go_simp
     have kb8 : (w7.setCell ⟨w.heap.size,0,none⟩ (.slice va s.fn vc)).heap[w.heap.size]? = some (.cells #[.slice va s.fn vc,.slice ga s.gn gc,.slice ua s.pn uc,.int .i64 s.rep,.int .i8 s.en,.slice ra s.rn rc,.int .i8 s.tr,.int .i64 s.us] 27):=setBlk (i:=0) (u:=.slice va s.fn vc) kb7
     have kr8 : (w7.setCell ⟨w.heap.size,0,none⟩ (.slice va s.fn vc)).heap[w.heap.size + 1]? = some zSt:=nb_far kr7 (by omega)
     have B8:=hid (below_pt (j:=0) (u:=.slice va s.fn vc) B7.out (Nat.le_refl w.heap.size) (nb_lt kb7))
     have O8:=hid (own_far (o:=0) (u:=.slice va s.fn vc) O7.out kb7 (by decide))
     have N8:=hid (own_far (o:=0) (u:=.slice va s.fn vc) N7.out kb7 (by decide))
     have D08:=hid (own_far (o:=0) (u:=.slice va s.fn vc) D07.out kb7 (by decide))
     have D18:=hid (own_far (o:=0) (u:=.slice va s.fn vc) D17.out kb7 (by decide))
     refine hK.out _ _ trivial (fun _ => ?_)
     clear hK K s1 z1 kb7 kr7 B7 O7 N7
     refine wpAnyH_done (by kernel_rfl) ?_ _
     go_wp2_with fail
     go_meet
     exact ⟨_,_,_,_,kb8,kr8,O8,N8,D08,D18,B8⟩
    ·go_simp
     refine hK.out _ _ trivial (fun _ => ?_)
     clear hK K
     refine rdFy (rs:=[2]) ?_
     refine rdFc (i:=2) rfl (fun K hK => ?_) AllReadyH.nil
     go_simp
     refine (FP.out _ HBd.out).mono ?_
     rintro e w5 ⟨ua,uc,rfl,ho5,hb5⟩
     have kb5:=nb_later hb5 kb
     have kr5:=nb_later hb5 kr
     have B5:=hid (HBd.out.trans (hb5.mono HBd.out.size))
     have O5:=hid (own_low ho5 HBd.out.size)
     have D05:=hid (own_lat D04.out hb5)
     have D15:=hid (own_lat D14.out hb5)
     have g5 : w5.cell? ⟨w.heap.size,0,none⟩ = some (.slice s.fa s.fn s.fc):=cell_at kb5
     refine hK.out _ _ trivial (fun _ => ?_)
     clear hK K hb5 ho5
     refine tkFh (i:=6) rfl ?_
     try simp only [Act.put,sIB]
     refine rdFy (rs:=[5]) ?_
     refine rdFc (i:=5) rfl (fun K hK => ?_) AllReadyH.nil
     go_simp
     refine (FF.out _ B5.out).mono ?_
     rintro e w6 ⟨va,vc,rfl,ho6,hb6⟩
     have kb6:=nb_later hb6 kb5
     have kr6:=nb_later hb6 kr5
     have B6:=hid (B5.out.trans (hb6.mono B5.out.size))
     have O6:=hid (own_lat O5.out hb6)
     have N6:=hid (own_low ho6 B5.out.size)
     have D06:=hid (own_lat D05.out hb6)
     have D16:=hid (own_lat D15.out hb6)
     refine hK.out _ _ trivial (fun _ => ?_)
     clear hK K hb6 ho6
     have s1 : w6.cell? ⟨w.heap.size,2,none⟩ = some (.slice s.pa s.pn s.pc):=cell_at kb6
     have z1 : w6.frozen? ⟨w.heap.size,2,none⟩ = false:=free_at kb6
     refine rdFy (rs:=[7]) ?_
     refine rdFc (i:=7) rfl (fun K hK => ?_) AllReadyH.nil
     go_simp
     have kb7 : (w6.setCell ⟨w.heap.size,2,none⟩ (.slice ua s.pn uc)).heap[w.heap.size]? = some (.cells #[.slice s.fa s.fn s.fc,.slice ga s.gn gc,.slice ua s.pn uc,.int .i64 s.rep,.int .i8 s.en,.slice ra s.rn rc,.int .i8 s.tr,.int .i64 s.us] 27):=setBlk (i:=2) (u:=.slice ua s.pn uc) kb6
     have kr7 : (w6.setCell ⟨w.heap.size,2,none⟩ (.slice ua s.pn uc)).heap[w.heap.size + 1]? = some zSt:=nb_far kr6 (by omega)
     have B7:=hid (below_pt (j:=2) (u:=.slice ua s.pn uc) B6.out (Nat.le_refl w.heap.size) (nb_lt kb6))
     have O7:=hid (own_far (o:=2) (u:=.slice ua s.pn uc) O6.out kb6 (by decide))
     have N7:=hid (own_far (o:=2) (u:=.slice ua s.pn uc) N6.out kb6 (by decide))
     have D07:=hid (own_far (o:=2) (u:=.slice ua s.pn uc) D06.out kb6 (by decide))
     have D17:=hid (own_far (o:=2) (u:=.slice ua s.pn uc) D16.out kb6 (by decide))
     refine hK.out _ _ trivial (fun _ => ?_)
     clear hK K s1 z1 kb6 kr6 B6 O6 N6
     generalize w6.setCell ⟨w.heap.size,2,none⟩ (.slice ua s.pn uc) = w7 at *
     refine tkFh (i:=8) rfl ?_
     try simp only [Act.put,sIB]
     have s1 : w7.cell? ⟨w.heap.size,0,none⟩ = some (.slice s.fa s.fn s.fc):=cell_at kb7
     have z1 : w7.frozen? ⟨w.heap.size,0,none⟩ = false:=free_at kb7
     refine rdFy (rs:=[9]) ?_
     refine rdFc (i:=9) rfl (fun K hK => ?_) AllReadyH.nil
     go_simp
     have kb8 : (w7.setCell ⟨w.heap.size,0,none⟩ (.slice va s.fn vc)).heap[w.heap.size]? = some (.cells #[.slice va s.fn vc,.slice ga s.gn gc,.slice ua s.pn uc,.int .i64 s.rep,.int .i8 s.en,.slice ra s.rn rc,.int .i8 s.tr,.int .i64 s.us] 27):=setBlk (i:=0) (u:=.slice va s.fn vc) kb7
     have kr8 : (w7.setCell ⟨w.heap.size,0,none⟩ (.slice va s.fn vc)).heap[w.heap.size + 1]? = some zSt:=nb_far kr7 (by omega)
     have B8:=hid (below_pt (j:=0) (u:=.slice va s.fn vc) B7.out (Nat.le_refl w.heap.size) (nb_lt kb7))
     have O8:=hid (own_far (o:=0) (u:=.slice va s.fn vc) O7.out kb7 (by decide))
     have N8:=hid (own_far (o:=0) (u:=.slice va s.fn vc) N7.out kb7 (by decide))
     have D08:=hid (own_far (o:=0) (u:=.slice va s.fn vc) D07.out kb7 (by decide))
     have D18:=hid (own_far (o:=0) (u:=.slice va s.fn vc) D17.out kb7 (by decide))
     refine hK.out _ _ trivial (fun _ => ?_)
     clear hK K s1 z1 kb7 kr7 B7 O7 N7
     refine wpAnyH_done (by kernel_rfl) ?_ _
     go_wp2_with fail
     go_meet
     exact ⟨_,_,_,_,kb8,kr8,O8,N8,D08,D18,B8⟩
   ·go_simp
    refine hK.out _ _ trivial (fun _ => ?_)
    clear hK K
    refine rdFy (rs:=[1]) ?_
    refine rdFc (i:=1) rfl (fun K hK => ?_) AllReadyH.nil
    go_simp
    refine hK.out _ _ trivial (fun _ => ?_)
    clear hK K
    refine rdFy (rs:=[2]) ?_
    refine rdFc (i:=2) rfl (fun K hK => ?_) AllReadyH.nil
    go_simp
    refine (FP.out _ HBd.out).mono ?_
    rintro e w5 ⟨ua,uc,rfl,ho5,hb5⟩
    have kb5:=nb_later hb5 kb
    have kr5:=nb_later hb5 kr
    have B5:=hid (HBd.out.trans (hb5.mono HBd.out.size))
    have O5:=hid (own_low ho5 HBd.out.size)
    have D05:=hid (own_lat D04.out hb5)
    have D15:=hid (own_lat D14.out hb5)
    have g5 : w5.cell? ⟨w.heap.size,0,none⟩ = some (.slice s.fa s.fn s.fc):=cell_at kb5
    refine hK.out _ _ trivial (fun _ => ?_)
    clear hK K hb5 ho5
    refine tkFh (i:=6) rfl ?_
    try simp only [Act.put,sIB]
    refine rdFy (rs:=[5]) ?_
    refine rdFc (i:=5) rfl (fun K hK => ?_) AllReadyH.nil
    go_simp
    refine (FF.out _ B5.out).mono ?_
    rintro e w6 ⟨va,vc,rfl,ho6,hb6⟩
    have kb6:=nb_later hb6 kb5
    have kr6:=nb_later hb6 kr5
    have B6:=hid (B5.out.trans (hb6.mono B5.out.size))
    have O6:=hid (own_lat O5.out hb6)
    have N6:=hid (own_low ho6 B5.out.size)
    have D06:=hid (own_lat D05.out hb6)
    have D16:=hid (own_lat D15.out hb6)
    refine hK.out _ _ trivial (fun _ => ?_)
    clear hK K hb6 ho6
    have s1 : w6.cell? ⟨w.heap.size,2,none⟩ = some (.slice s.pa s.pn s.pc):=cell_at kb6
    have z1 : w6.frozen? ⟨w.heap.size,2,none⟩ = false:=free_at kb6
    refine rdFy (rs:=[7]) ?_
    refine rdFc (i:=7) rfl (fun K hK => ?_) AllReadyH.nil
    go_simp
    have kb7 : (w6.setCell ⟨w.heap.size,2,none⟩ (.slice ua s.pn uc)).heap[w.heap.size]? = some (.cells #[.slice s.fa s.fn s.fc,.slice ga s.gn gc,.slice ua s.pn uc,.int .i64 s.rep,.int .i8 s.en,.slice ra s.rn rc,.int .i8 s.tr,.int .i64 s.us] 27):=setBlk (i:=2) (u:=.slice ua s.pn uc) kb6
    have kr7 : (w6.setCell ⟨w.heap.size,2,none⟩ (.slice ua s.pn uc)).heap[w.heap.size + 1]? = some zSt:=nb_far kr6 (by omega)
    have B7:=hid (below_pt (j:=2) (u:=.slice ua s.pn uc) B6.out (Nat.le_refl w.heap.size) (nb_lt kb6))
    have O7:=hid (own_far (o:=2) (u:=.slice ua s.pn uc) O6.out kb6 (by decide))
    have N7:=hid (own_far (o:=2) (u:=.slice ua s.pn uc) N6.out kb6 (by decide))
    have D07:=hid (own_far (o:=2) (u:=.slice ua s.pn uc) D06.out kb6 (by decide))
    have D17:=hid (own_far (o:=2) (u:=.slice ua s.pn uc) D16.out kb6 (by decide))
    refine hK.out _ _ trivial (fun _ => ?_)
    clear hK K s1 z1 kb6 kr6 B6 O6 N6
    generalize w6.setCell ⟨w.heap.size,2,none⟩ (.slice ua s.pn uc) = w7 at *
    refine tkFh (i:=8) rfl ?_
    try simp only [Act.put,sIB]
    have s1 : w7.cell? ⟨w.heap.size,0,none⟩ = some (.slice s.fa s.fn s.fc):=cell_at kb7
    have z1 : w7.frozen? ⟨w.heap.size,0,none⟩ = false:=free_at kb7
    refine rdFy (rs:=[9]) ?_
    refine rdFc (i:=9) rfl (fun K hK => ?_) AllReadyH.nil
    go_simp
    have kb8 : (w7.setCell ⟨w.heap.size,0,none⟩ (.slice va s.fn vc)).heap[w.heap.size]? = some (.cells #[.slice va s.fn vc,.slice ga s.gn gc,.slice ua s.pn uc,.int .i64 s.rep,.int .i8 s.en,.slice ra s.rn rc,.int .i8 s.tr,.int .i64 s.us] 27):=setBlk (i:=0) (u:=.slice va s.fn vc) kb7
    have kr8 : (w7.setCell ⟨w.heap.size,0,none⟩ (.slice va s.fn vc)).heap[w.heap.size + 1]? = some zSt:=nb_far kr7 (by omega)
    have B8:=hid (below_pt (j:=0) (u:=.slice va s.fn vc) B7.out (Nat.le_refl w.heap.size) (nb_lt kb7))
    have O8:=hid (own_far (o:=0) (u:=.slice va s.fn vc) O7.out kb7 (by decide))
    have N8:=hid (own_far (o:=0) (u:=.slice va s.fn vc) N7.out kb7 (by decide))
    have D08:=hid (own_far (o:=0) (u:=.slice va s.fn vc) D07.out kb7 (by decide))
    have D18:=hid (own_far (o:=0) (u:=.slice va s.fn vc) D17.out kb7 (by decide))
    refine hK.out _ _ trivial (fun _ => ?_)
    clear hK K s1 z1 kb7 kr7 B7 O7 N7
    refine wpAnyH_done (by kernel_rfl) ?_ _
    go_wp2_with fail
    go_meet
    exact ⟨_,_,_,_,kb8,kr8,O8,N8,D08,D18,B8⟩
  case rest =>
   obtain ⟨pa,pc,fa,fc,kb1,kr1,PR,FW,LR2,LG2,HB1⟩:=hcut
   clear kb0 kr0 HB FP FF LR LG
   generalize wc = W2 at *
   clear W1
   have g0 : W2.cell? ⟨w.heap.size,2,none⟩ = some (.slice pa s.pn pc):=cell_at kb1
   have HL:=hid (show LP w s pa pc fa fc ra rc ga gc 0 [] W2 from ⟨rfl,kb1,kr1,by simpa using PR.out,(fun y hy => by cases hy),(fun j x y _ hy => by simp at hy),FW.out,LR2.out,LG2.out,HB1.out⟩)
   clear kb1 kr1 PR FW LR2 LG2 HB1
   go_wp2_with fail
   have hpl:=HS.out.pg.len
   have hpn:=HC.out.p
   go_loopw [26] (fun i wr => ∃ (k : Nat) (ys : List PgM),k ≤ s.pn ∧ i = .int .i64 k ∧ Hid (LP w s pa pc fa fc ra rc ga gc k ys wr)) (fun i _ => s.pn - (intOf i).toNat)
   case atStart => exact ⟨0,[],by omega,rfl,HL⟩
   case round =>
    obtain ⟨k,ys,hk,rfl,HP⟩:=hrel
    clear HL g0
    by_cases hlt : k < s.pn
    ·obtain ⟨x,hx⟩ : ∃ x,s.ps[k]? = some x:=⟨_,List.getElem?_eq_getElem (by omega)⟩
     obtain ⟨PB,hpa,hcell,hfree,hlt2,hty⟩:=LP.at_ HP.out hx hlt
     subst hpa
     have hlt' : (k : Int) < (s.pn : Int):=by omega
     have mx:=List.mem_of_getElem? hx
     have g2 : wr.cell? ⟨w.heap.size,2,none⟩ = some (.slice (some ⟨PB,0,none⟩) s.pn pc):=cell_at HP.out.box
     have HCP:=hid (copy21 x.1.1 x.1.2.1 x.1.2.2 (x.2.map (.int .u8)) wr.drew ((HS.out.pg.in_ x mx).later (HP.out.bel.trans ((below_drewN wr 1).mono HP.out.bel.size))).fl (by rw [List.length_map,(HS.out.pg.in_ x mx).1]; omega) (one_int _ _) (HC.out.pb x mx))
     have HX:=hid hx
     have HTY:=hid (And.intro hfree (And.intro hlt2 hty))
     clear mx hx hfree hlt2 hty
     go_wp2_with fail
     refine wp_region_held_drew (S:=fun W => W.cell? ⟨w.heap.size,2,none⟩ = some (.slice (some ⟨PB,0,none⟩) s.pn pc)) (by kernel_rfl) g2 (fun hHeld => ?_)
     refine tkFh (i:=0) rfl ?_
     try simp only [Act.put,sIB]
     refine tkFh (i:=1) rfl ?_
     try simp only [Act.put]
     refine tkFh (i:=2) rfl ?_
     try simp only [Act.put]
     refine tkFh (i:=3) rfl ?_
     try simp only [Act.put]
     refine rdFy (rs:=[4]) ?_
     refine rdFc (i:=4) rfl (fun K hK => ?_) AllReadyH.nil
     go_simp
     refine HCP.out.mono ?_
     rintro e w5 ⟨ua,uc,rfl,ho5,hb5⟩
     have hb5' : Below wr.heap.size wr w5:=(below_drewN wr 1).trans (hb5.mono (Nat.le_of_eq (by simp)))
     have HP5:=hid (HP.out.later hb5')
     have O5:=hid (show LB w5 w.heap.size (ua,x.1.2.1,uc) x.2 from own_low ho5 (Nat.le_trans HP.out.bel.size (Nat.le_of_eq (by simp))))
     have q5:=later_cell hb5' g2
     have r5:=later_cell hb5' hcell
     have f5 : w5.frozen? ⟨PB,k,none⟩ = false:=LP.free HP5.out
     refine hK.out _ _ q5 (fun _ => ?_)
     clear hK K hb5 hb5' ho5 hHeld
     refine tkFh (i:=5) rfl ?_
     try simp only [Act.put,sIB]
     refine rdFy (rs:=[6]) ?_
     refine rdFc (i:=6) rfl (fun K hK => ?_) AllReadyH.nil
     go_simp
     have HP6:=hid (LP.put HP5.out HX.out hlt O5.out)
     have q6 : (w5.setCell ⟨PB,k,none⟩ (.slice ua x.1.2.1 uc)).cell? ⟨w.heap.size,2,none⟩ = some (.slice (some ⟨PB,0,none⟩) s.pn pc):=cell_at HP6.out.box
     refine hK.out _ _ q6 (fun _ => ?_)
     clear hK K q6 q5 r5 f5 g2 hcell
     refine wpAnyH_done (by kernel_rfl) ?_ _
     go_wp2_with fail
     exact ⟨⟨k + 1,_,by omega,by go_num,HP6⟩,by simp [intOf]; omega⟩
    ·obtain rfl : k = s.pn:=by omega
     have HL:=hid (show LF w s pa pc fa fc ra rc ga gc ys 0 [] wr from ⟨rfl,HP.out.box,HP.out.out,by have h:=HP.out.row; rwa [List.drop_of_length_le (by omega),List.append_nil] at h,HP.out.own,HP.out.same,HP.out.len,by simpa using HP.out.frw,(fun y hy => by cases hy),(fun j x y _ hy => by simp at hy),HP.out.lr,HP.out.lg,HP.out.bel⟩)
     have g0 : wr.cell? ⟨w.heap.size,0,none⟩ = some (.slice fa s.fn fc):=cell_at HP.out.box
     generalize ys = yp at *
     generalize wr = W3 at *
     clear HP hpl hpn hk hlt
     go_wp2_with fail
     have hfl:=HS.out.fr.len
     have hfn:=HC.out.f
     go_loopw [41] (fun i wr => ∃ (k : Nat) (ys : List FrM),k ≤ s.fn ∧ i = .int .i64 k ∧ Hid (LF w s pa pc fa fc ra rc ga gc yp k ys wr)) (fun i _ => s.fn - (intOf i).toNat)
     case atStart => exact ⟨0,[],by omega,rfl,HL⟩
     case round =>
      obtain ⟨k,ys,hk,rfl,HF⟩:=hrel
      clear HL g0
      by_cases hlt : k < s.fn
      ·obtain ⟨x,hx⟩ : ∃ x,s.fs[k]? = some x:=⟨_,List.getElem?_eq_getElem (by omega)⟩
       obtain ⟨FB,hfa,⟨e0,e1,e2,e3⟩,hFB,cur,hcur⟩:=LF.at_ HF.out hx hlt
       subst hfa
       have hlt' : (k : Int) < (s.fn : Int):=by omega
       have mx:=List.mem_of_getElem? hx
       have BN:=below_new wr (frO x.1 x.2.1 x.2.2.1.1.1 x.2.2.1.1.2.1 x.2.2.1.1.2.2 x.2.2.2.1.1 x.2.2.2.1.2.1 x.2.2.2.1.2.2)
       have kg:=nb_new wr (frO x.1 x.2.1 x.2.2.1.1.1 x.2.2.1.1.2.1 x.2.2.1.1.2.2 x.2.2.2.1.1 x.2.2.2.1.2.1 x.2.2.2.1.2.2)
       have HFN:=hid (HF.out.later BN)
       have hin:=HS.out.fr.in_ x mx
       have hbn:=HC.out.fb x mx
       have HC1:=hid (fun (W : World) (hb : Below w.heap.size w W) => copy18 x.2.2.1.1.1 x.2.2.1.1.2.1 x.2.2.1.1.2.2 (x.2.2.1.2.map (.int .u64)) W (hin.1.later hb).fl (by rw [List.length_map,hin.1.1]; omega) (one_int _ _) hbn.1)
       have HC2:=hid (fun (W : World) (hb : Below w.heap.size w W) => copy18 x.2.2.2.1.1 x.2.2.2.1.2.1 x.2.2.2.1.2.2 (x.2.2.2.2.map (.int .u64)) W (hin.2.later hb).fl (by rw [List.length_map,hin.2.1]; omega) (one_int _ _) hbn.2)
       have HX:=hid hx
       have hGF : wr.heap.size ≠ FB:=by have:=nb_lt hcur; omega
       clear mx hx hcur hFB BN hin hbn
       go_wp2_with fail
       generalize hG : wr.heap.size = G at *
       generalize wr.alloc (frO x.1 x.2.1 x.2.2.1.1.1 x.2.2.1.1.2.1 x.2.2.1.1.2.2 x.2.2.2.1.1 x.2.2.2.1.2.1 x.2.2.2.1.2.2) = W4 at *
       clear e0 e1 e2 e3 hG HF
       have hbx:=HFN.out.box
       have c0 : W4.drew.cell? ⟨w.heap.size,0,none⟩ = some (.slice (some ⟨FB,0,none⟩) s.fn fc):=cell_at hbx
       have c2 : W4.drew.cell? ⟨G,2,none⟩ = some (.slice x.2.2.1.1.1 x.2.2.1.1.2.1 x.2.2.1.1.2.2):=cell_at kg
       have c3 : W4.drew.cell? ⟨G,3,none⟩ = some (.slice x.2.2.2.1.1 x.2.2.2.1.2.1 x.2.2.2.1.2.2):=cell_at kg
       refine wp_region_held_drew (S:=fun W => W.cell? ⟨w.heap.size,0,none⟩ = some (.slice (some ⟨FB,0,none⟩) s.fn fc) ∧ W.cell? ⟨G,2,none⟩ = some (.slice x.2.2.1.1.1 x.2.2.1.1.2.1 x.2.2.1.1.2.2) ∧ W.cell? ⟨G,3,none⟩ = some (.slice x.2.2.2.1.1 x.2.2.2.1.2.1 x.2.2.2.1.2.2)) (by kernel_rfl) ⟨c0,c2,c3⟩ (fun hHeld => ?_)
       refine tkFh (i:=0) rfl ?_
       try simp only [Act.put,sIB]
       refine tkFh (i:=1) rfl ?_
       try simp only [Act.put]
       refine tkFh (i:=2) rfl ?_
       try simp only [Act.put]
       refine tkFh (i:=3) rfl ?_
       try simp only [Act.put]
       refine tkFh (i:=4) rfl ?_
       try simp only [Act.put]
       refine tkFh (i:=5) rfl ?_
       try simp only [Act.put]
       refine tkFh (i:=6) rfl ?_
       try simp only [Act.put]
       refine tkFh (i:=7) rfl ?_
       try simp only [Act.put]
       refine tkFh (i:=9) rfl ?_
       try simp only [Act.put]
       refine tkFh (i:=10) rfl ?_
       try simp only [Act.put]
       refine rdFy (rs:=[8]) ?_
       refine rdFc (i:=8) rfl (fun K hK => ?_) AllReadyH.nil
       go_simp
       have BD:=below_drewN W4 1
       refine (HC1.out _ (HFN.out.bel.trans (BD.mono HFN.out.bel.size))).mono ?_
       rintro e w5 ⟨ua,uc,rfl,ho5,hb5⟩
       have hb5' : Below W4.heap.size W4 w5:=BD.trans (hb5.mono (Nat.le_of_eq (by simp)))
       have HF5:=hid (HFN.out.later hb5')
       have O5:=hid (show LW w5 w.heap.size (ua,x.2.2.1.1.2.1,uc) x.2.2.1.2 from own_low ho5 (Nat.le_trans HFN.out.bel.size (Nat.le_of_eq (by simp))))
       have kg5:=nb_later hb5' kg
       refine hK.out _ _ ⟨cell_at HF5.out.box,cell_at kg5,cell_at kg5⟩ (fun hHeld2 => ?_)
       clear hK K hb5 hb5' ho5 hHeld c0 c2 c3 kg hbx BD HFN
       refine rdFy (rs:=[11]) ?_
       refine rdFc (i:=11) rfl (fun K hK => ?_) AllReadyH.nil
       go_simp
       refine (HC2.out _ HF5.out.bel).mono ?_
       rintro e w6 ⟨va,vc,rfl,ho6,hb6⟩
       have HF6:=hid (HF5.out.later hb6)
       have O6:=hid (show LW w6 w.heap.size (ua,x.2.2.1.1.2.1,uc) x.2.2.1.2 from own_lat O5.out hb6)
       have N6:=hid (show LW w6 w.heap.size (va,x.2.2.2.1.2.1,vc) x.2.2.2.2 from own_low ho6 HF5.out.bel.size)
       have kg6:=nb_later hb6 kg5
       refine hK.out _ _ ⟨cell_at HF6.out.box,cell_at kg6,cell_at kg6⟩ (fun hHeld3 => ?_)
       clear hK K hb6 ho6 hHeld2 kg5 O5 HF5
       refine tkFh (i:=12) rfl ?_
       try simp only [Act.put,sIB]
       refine tkFh (i:=13) rfl ?_
       try simp only [Act.put]
       obtain ⟨FB',hfa,⟨e0,e1,e2,e3⟩,hFB,cur,hcur⟩:=LF.at_ HF6.out HX.out hlt
       injection hfa with hfa
       injection hfa with hfa
       subst hfa
       have z2 : w6.frozen? ⟨FB,k * 4 + 2,none⟩ = false:=LF.free HF6.out
       have hbF : w.heap.size ≠ FB:=fun e => by
        have hb:=HF6.out.box
        rw [e,hcur] at hb
        simp at hb
       refine rdFy (rs:=[14]) ?_
       refine rdFc (i:=14) rfl (fun K hK => ?_) AllReadyH.nil
       go_simp
       have kb7:=nb_far (G:=FB) (j:=k * 4 + 2) (u:=.slice ua x.2.2.1.1.2.1 uc) HF6.out.box hbF
       have kg7:=nb_far (G:=FB) (j:=k * 4 + 2) (u:=.slice ua x.2.2.1.1.2.1 uc) kg6 hGF
       have kf7:=setBlk (i:=k * 4 + 2) (u:=.slice ua x.2.2.1.1.2.1 uc) hcur
       have e3' : (w6.setCell ⟨FB,k * 4 + 2,none⟩ (.slice ua x.2.2.1.1.2.1 uc)).cell? ⟨FB,k * 4 + 3,none⟩ = some (.slice x.2.2.2.1.1 x.2.2.2.1.2.1 x.2.2.2.1.2.2):=by
        rw [World.cell?_setCell_other _ _ _ _ (by simp)]; exact e3
       have z3 : (w6.setCell ⟨FB,k * 4 + 2,none⟩ (.slice ua x.2.2.1.1.2.1 uc)).frozen? ⟨FB,k * 4 + 3,none⟩ = false:=free_at kf7
       have HF8:=hid (LF.put (G:=G) (o:=zSt) HF6.out HX.out hlt O6.out N6.out)
       have kg8:=nb_far (G:=FB) (j:=k * 4 + 3) (u:=.slice va x.2.2.2.1.2.1 vc) kg7 hGF
       refine hK.out _ _ ⟨cell_at kb7,cell_at kg7,cell_at kg7⟩ (fun hHeld4 => ?_)
       clear hK K z2 e0 e1 e2 e3 hHeld3 hcur hFB O6 N6 HF6 kg6 kf7
       generalize w6.setCell ⟨FB,k * 4 + 2,none⟩ (.slice ua x.2.2.1.1.2.1 uc) = w7 at *
       refine tkFh (i:=15) rfl ?_
       try simp only [Act.put,sIB]
       refine tkFh (i:=16) rfl ?_
       try simp only [Act.put]
       refine rdFy (rs:=[17]) ?_
       refine rdFc (i:=17) rfl (fun K hK => ?_) AllReadyH.nil
       go_simp
       refine hK.out _ _ ⟨cell_at HF8.out.box,cell_at kg8,cell_at kg8⟩ (fun hHeld5 => ?_)
       clear hK K e3' z3 kb7 kg7 kg8 hHeld4
       refine wpAnyH_done (by kernel_rfl) ?_ _
       go_wp2_with fail
       exact ⟨⟨k + 1,_,by omega,by go_num,HF8⟩,by simp [intOf]; omega⟩
      ·obtain rfl : k = s.fn:=by omega
       have hbx:=HF.out.box
       have hout:=HF.out.out
       have c0 : wr.cell? ⟨w.heap.size,0,none⟩ = some (.slice fa s.fn fc):=cell_at hbx
       have c1 : wr.cell? ⟨w.heap.size,1,none⟩ = some (.slice ga s.gn gc):=cell_at hbx
       have c2 : wr.cell? ⟨w.heap.size,2,none⟩ = some (.slice pa s.pn pc):=cell_at hbx
       have c3 : wr.cell? ⟨w.heap.size,3,none⟩ = some (.int .i64 s.rep):=cell_at hbx
       have c4 : wr.cell? ⟨w.heap.size,4,none⟩ = some (.int .i8 s.en):=cell_at hbx
       have c5 : wr.cell? ⟨w.heap.size,5,none⟩ = some (.slice ra s.rn rc):=cell_at hbx
       have c6 : wr.cell? ⟨w.heap.size,6,none⟩ = some (.int .i8 s.tr):=cell_at hbx
       have c7 : wr.cell? ⟨w.heap.size,7,none⟩ = some (.int .i64 s.us):=cell_at hbx
       have d0 : wr.cell? ⟨w.heap.size + 1,0,none⟩ = some (.slice none 0 0):=cell_at hout
       have d1 : wr.cell? ⟨w.heap.size + 1,1,none⟩ = some (.slice none 0 0):=cell_at hout
       have d2 : wr.cell? ⟨w.heap.size + 1,2,none⟩ = some (.slice none 0 0):=cell_at hout
       have d3 : wr.cell? ⟨w.heap.size + 1,3,none⟩ = some (.int .i64 0):=cell_at hout
       have d4 : wr.cell? ⟨w.heap.size + 1,4,none⟩ = some (.int .i8 0):=cell_at hout
       have d5 : wr.cell? ⟨w.heap.size + 1,5,none⟩ = some (.slice none 0 0):=cell_at hout
       have d6 : wr.cell? ⟨w.heap.size + 1,6,none⟩ = some (.int .i8 0):=cell_at hout
       have d7 : wr.cell? ⟨w.heap.size + 1,7,none⟩ = some (.int .i64 0):=cell_at hout
       have z0 : wr.frozen? ⟨w.heap.size + 1,0,none⟩ = false:=free_at hout
       have z1 : wr.frozen? ⟨w.heap.size + 1,1,none⟩ = false:=free_at hout
       have z2 : wr.frozen? ⟨w.heap.size + 1,2,none⟩ = false:=free_at hout
       have z3 : wr.frozen? ⟨w.heap.size + 1,3,none⟩ = false:=free_at hout
       have z4 : wr.frozen? ⟨w.heap.size + 1,4,none⟩ = false:=free_at hout
       have z5 : wr.frozen? ⟨w.heap.size + 1,5,none⟩ = false:=free_at hout
       have z6 : wr.frozen? ⟨w.heap.size + 1,6,none⟩ = false:=free_at hout
       have z7 : wr.frozen? ⟨w.heap.size + 1,7,none⟩ = false:=free_at hout
       have HE:=hid (HF.out.fin (kept_out8 wr (w.heap.size + 1) (.slice fa s.fn fc) (.slice ga s.gn gc) (.slice pa s.pn pc) (.int .i64 s.rep) (.int .i8 s.en) (.slice ra s.rn rc) (.int .i8 s.tr) (.int .i64 s.us)) hfl)
       have HSM:=hid (show Same s ⟨fa,s.fn,fc,ys,ga,s.gn,gc,s.gs,pa,s.pn,pc,yp,s.rep,s.en,ra,s.rn,rc,s.rs,s.tr,s.us⟩ from ⟨rfl,rfl,rfl,rfl,rfl,rfl,rfl,rfl,rfl,rfl,HF.out.same,HF.out.psame⟩)
       have hfin:=setBlk (i:=7) (u:=.int .i64 s.us) (setBlk (i:=6) (u:=.int .i8 s.tr) (setBlk (i:=5) (u:=.slice ra s.rn rc) (setBlk (i:=4) (u:=.int .i8 s.en) (setBlk (i:=3) (u:=.int .i64 s.rep) (setBlk (i:=2) (u:=.slice pa s.pn pc) (setBlk (i:=1) (u:=.slice ga s.gn gc) (setBlk (i:=0) (u:=.slice fa s.fn fc) hout)))))))
       clear hbx hout HF
       go_wp2_with fail
       exact bodyPost_ret (v:=.agg #[.slice fa s.fn fc,.slice ga s.gn gc,.slice pa s.pn pc,.int .i64 s.rep,.int .i8 s.en,.slice ra s.rn rc,.int .i8 s.tr,.int .i64 s.us]) (results_cell_row rfl _ _ (w.heap.size + 1) 27 _ (0,0) _ rfl hfin Tryz.underlying27 rfl (by kernel_rfl)) rfl ⟨⟨fa,s.fn,fc,ys,ga,s.gn,gc,s.gs,pa,s.pn,pc,yp,s.rep,s.en,ra,s.rn,rc,s.rs,s.tr,s.us⟩,rfl,HE.out.1,HSM.out,HE.out.2⟩
end Go.Proofs.YtmgjhfookhaajaaGreatDoor

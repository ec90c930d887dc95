/-
  Texts Va Wi Ws.
-/
import Derived.Deep.RegionHeld3
import Derived.RegionDies
import Derived.Test.YtepcmfegggdjfaaGreatDoorQ00
import Derived.Test.YtepcmfegggdjfaaGreatDoorQ01
import Derived.Test.YtepcmfegggdjfaaGreatDoorQ02
set_option linter.unusedVariables false
set_option maxRecDepth 100000
set_option maxHeartbeats 16000000
namespace Go.Proofs.YtepcmfegggdjfaaGreatDoor
open Go.RowKit
structure Opn where
 P : ByteArray
 R : ByteArray
 B : ByteArray
 op : Int
 pc : Int
def Opn.vals (o : Opn) : List Value:=[.string o.P,.string o.R,.string o.B,.int .u8 o.op,.int .i64 o.pc]
def opV (l : List Opn) : List Value:=l.flatMap Opn.vals
theorem opV_len (l : List Opn) : (opV l).length = l.length * 5:=by
 induction l with
 | nil => rfl
 | cons a r ih => simp [opV,Opn.vals] at ih ⊢; omega
theorem opV_get (l : List Opn) : ∀ (j : Nat) (o : Opn),l[j]? = some o → (opV l)[j * 5]? = some (.string o.P) ∧ (opV l)[j * 5 + 1]? = some (.string o.R) ∧ (opV l)[j * 5 + 2]? = some (.string o.B) ∧ (opV l)[j * 5 + 3]? = some (.int .u8 o.op) ∧ (opV l)[j * 5 + 4]? = some (.int .i64 o.pc):=by
 induction l with
 | nil => intro j o h; simp at h
 | cons a r ih =>
  intro j o h
  match j,h with
  | 0,h => simp at h; subst h; simp [opV,Opn.vals]
  | j + 1,h =>
   have:=ih j o (by simpa using h)
   have e : ∀ i,(opV (a :: r))[(j + 1) * 5 + i]? = (opV r)[j * 5 + i]?:=by
    intro i
    have : (j + 1) * 5 + i = 5 + (j * 5 + i):=by omega
    rw [this,show opV (a :: r) = a.vals ++ opV r from rfl,List.getElem?_append_right (by simp [Opn.vals])]
    simp [Opn.vals]
   have e0:=e 0
   simp only [Nat.add_zero] at e0
   rw [e0,e 1,e 2,e 3,e 4]
   exact this
structure Ev where
 C : Nat
 SH : Nat
 FL : Nat
 O0 : Nat
 EN : Nat
 EL : Nat
 n : Nat
 mv : Array Value
 lv : Value
def Ev.S (v : Ev) (k : Nat) : Prop:=k = v.C ∨ k = v.SH ∨ k = v.FL ∨ k = v.O0
structure Cs where
 op : List Opn
 st : ByteArray
 pc : Nat
 dead : Bool
 sh : List ByteArray
 fl : Nat → Int
 hi : Nat
def ckV (v : Ev) (s : Cs) (ov : Value) : Array Value :=
 #[v.mv.getD 0 default,v.mv.getD 1 default,v.mv.getD 2 default,v.mv.getD 3 default,v.mv.getD 4 default,v.mv.getD 5 default,v.mv.getD 6 default,v.mv.getD 7 default,v.lv,
  .slice (some ⟨v.SH,0,none⟩) v.n v.n,.slice (some ⟨v.EN,0,none⟩) v.n v.n,.slice (some ⟨v.EL,0,none⟩) v.n v.n,.slice (some ⟨v.FL,0,none⟩) v.n v.n,.int .i64 s.hi,ov,.string s.st,.int .i64 s.pc,.bool s.dead]
structure CI (v : Ev) (w1 w : World) (s : Cs) : Prop where
 kept : Kept v.S w1 w
 ck : ∃ OB oc,w.heap[v.C]? = some (.cells (ckV v s (.slice (some ⟨OB,0,none⟩) s.op.length oc)) 120) ∧ w.ownsRow 0 116 5 (.slice (some ⟨OB,0,none⟩) s.op.length oc) s.op.length (opV s.op) ∧ (OB = v.O0 ∨ w1.heap.size ≤ OB)
 sh : Row w 9 v.SH v.n v.n (s.sh.map Value.string)
 fl : RI w v.FL v.n s.fl
structure EvA (v : Ev) (w1 : World) : Prop where
 c : v.C < w1.heap.size
 o : v.O0 < w1.heap.size
 s : v.SH < w1.heap.size
 f : v.FL < w1.heap.size
 cs : v.C ≠ v.SH
 cf : v.C ≠ v.FL
 co : v.C ≠ v.O0
 sf : v.SH ≠ v.FL
 so : v.SH ≠ v.O0
 fo : v.FL ≠ v.O0
section
variable {v : Ev} {w1 w : World} {s : Cs}
theorem cell_at {w : World} {b i : Nat} {a : Array Value} {t : TypeId} (h : w.heap[b]? = some (.cells a t)) : w.cell? ⟨b,i,none⟩ = a[i]?:=by
 simp [World.cell?,h]
theorem free_at {w : World} {b i : Nat} {a : Array Value} {t : TypeId} (h : w.heap[b]? = some (.cells a t)) : w.frozen? ⟨b,i,none⟩ = false:=by
 simp [World.frozen?,h]
theorem CI.later {w' : World} (hA : EvA v w1) (h : CI v w1 w s) (hb : Below w.heap.size w w') : CI v w1 w' s:=by
 obtain ⟨OB,oc,h1,h2,h3⟩:=h.ck
 have hz:=h.kept.size
 have lt : v.C < w.heap.size:=Nat.lt_of_lt_of_le hA.c hz
 refine ⟨h.kept.trans (kept_of hb),⟨OB,oc,(hb.block _ lt).trans h1,?_,h3⟩,h.sh.keep (hb.block _ h.sh.lt),h.fl.keep (hb.block _ h.fl.lt)⟩
 rcases h2.2 with ⟨e,_⟩ | ⟨g,cap,cur,e,h4,h5,h6⟩
 ·cases e
 ·cases e
  have hl : OB < w.heap.size:=by
   rcases Nat.lt_or_ge OB w.heap.size with hx | hx
   ·exact hx
   ·rw [Array.getElem?_eq_none hx] at h5; cases h5
  exact ⟨h2.1,.inr ⟨_,_,cur,rfl,h4,(hb.block _ hl).trans h5,h6⟩⟩
theorem CI.st (h : CI v w1 w s) : w.cell? ⟨v.C,15,none⟩ = some (.string s.st):=by
 obtain ⟨_,_,h1,_⟩:=h.ck; rw [cell_at h1]; rfl
theorem CI.pc (h : CI v w1 w s) : w.cell? ⟨v.C,16,none⟩ = some (.int .i64 s.pc):=by
 obtain ⟨_,_,h1,_⟩:=h.ck; rw [cell_at h1]; rfl
theorem CI.dead (h : CI v w1 w s) : w.cell? ⟨v.C,17,none⟩ = some (.bool s.dead):=by
 obtain ⟨_,_,h1,_⟩:=h.ck; rw [cell_at h1]; rfl
theorem CI.hi (h : CI v w1 w s) : w.cell? ⟨v.C,13,none⟩ = some (.int .i64 s.hi):=by
 obtain ⟨_,_,h1,_⟩:=h.ck; rw [cell_at h1]; rfl
theorem CI.shc (h : CI v w1 w s) : w.cell? ⟨v.C,9,none⟩ = some (.slice (some ⟨v.SH,0,none⟩) v.n v.n):=by
 obtain ⟨_,_,h1,_⟩:=h.ck; rw [cell_at h1]; rfl
theorem CI.elc (h : CI v w1 w s) : w.cell? ⟨v.C,11,none⟩ = some (.slice (some ⟨v.EL,0,none⟩) v.n v.n):=by
 obtain ⟨_,_,h1,_⟩:=h.ck; rw [cell_at h1]; rfl
theorem CI.enc (h : CI v w1 w s) : w.cell? ⟨v.C,10,none⟩ = some (.slice (some ⟨v.EN,0,none⟩) v.n v.n):=by
 obtain ⟨_,_,h1,_⟩:=h.ck; rw [cell_at h1]; rfl
theorem CI.flc (h : CI v w1 w s) : w.cell? ⟨v.C,12,none⟩ = some (.slice (some ⟨v.FL,0,none⟩) v.n v.n):=by
 obtain ⟨_,_,h1,_⟩:=h.ck; rw [cell_at h1]; rfl
theorem CI.lc (h : CI v w1 w s) : w.cell? ⟨v.C,8,none⟩ = some v.lv:=by
 obtain ⟨_,_,h1,_⟩:=h.ck; rw [cell_at h1]; rfl
theorem CI.mc (h : CI v w1 w s) : w.cell? ⟨v.C,0,none⟩ = some (v.mv.getD 0 default) ∧ w.cell? ⟨v.C,1,none⟩ = some (v.mv.getD 1 default) ∧ w.cell? ⟨v.C,2,none⟩ = some (v.mv.getD 2 default) ∧ w.cell? ⟨v.C,5,none⟩ = some (v.mv.getD 5 default):=by
 obtain ⟨_,_,h1,_⟩:=h.ck
 exact ⟨by rw [cell_at h1]; rfl,by rw [cell_at h1]; rfl,by rw [cell_at h1]; rfl,by rw [cell_at h1]; rfl⟩
theorem CI.free (h : CI v w1 w s) (i : Nat) : w.frozen? ⟨v.C,i,none⟩ = false:=by
 obtain ⟨_,_,h1,_⟩:=h.ck; exact free_at h1
theorem CI.opn (h : CI v w1 w s) : ∃ OB oc,w.cell? ⟨v.C,14,none⟩ = some (.slice (some ⟨OB,0,none⟩) s.op.length oc) ∧ s.op.length ≤ oc ∧ ∀ j o,s.op[j]? = some o →
  w.cell? ⟨OB,j * 5,none⟩ = some (.string o.P) ∧ w.cell? ⟨OB,j * 5 + 1,none⟩ = some (.string o.R) ∧ w.cell? ⟨OB,j * 5 + 2,none⟩ = some (.string o.B) ∧ w.cell? ⟨OB,j * 5 + 3,none⟩ = some (.int .u8 o.op) ∧ w.cell? ⟨OB,j * 5 + 4,none⟩ = some (.int .i64 o.pc):=by
 obtain ⟨OB,oc,h1,h2,h3⟩:=h.ck
 have h0 : w.cell? ⟨v.C,14,none⟩ = some (.slice (some ⟨OB,0,none⟩) s.op.length oc):=by rw [cell_at h1]; rfl
 rcases h2.2 with ⟨e,_⟩ | ⟨g,cap,cur,e,h4,h5,h6,h7,h8,h9⟩
 ·cases e
 ·cases e
  refine ⟨OB,oc,h0,h6,fun j o hj => ?_⟩
  have hl : j < s.op.length:=by
   rcases Nat.lt_or_ge j s.op.length with hx | hx
   ·exact hx
   ·rw [List.getElem?_eq_none hx] at hj; cases hj
  have c : ∀ i,i < 5 → w.cell? ⟨OB,j * 5 + i,none⟩ = (opV s.op)[j * 5 + i]?:=by
   intro i hi
   rw [cell_at h5,← h9,List.getElem?_take_of_lt (by omega),Array.getElem?_toList]
  have:=opV_get s.op j o hj
  have c0:=c 0 (by omega)
  simp only [Nat.add_zero] at c0
  rw [c0,c 1 (by omega),c 2 (by omega),c 3 (by omega),c 4 (by omega)]
  exact this
end
abbrev cW (R : Nat) : Value:=.iface 142 (.pointer (some ⟨R,0,none⟩))
theorem meth_number (v : Value) (w : World) : (method 365 142 v "flagon/module.number").run Tryz.prog w = .ok (203,v) w:=rfl
theorem meth_signed (v : Value) (w : World) : (method 365 142 v "flagon/module.signed").run Tryz.prog w = .ok (206,v) w:=rfl
theorem meth_octet (v : Value) (w : World) : (method 365 142 v "flagon/module.octet").run Tryz.prog w = .ok (204,v) w:=rfl
theorem meth_text (v : Value) (w : World) : (method 365 142 v "flagon/module.text").run Tryz.prog w = .ok (207,v) w:=rfl
theorem meth_count (v : Value) (w : World) : (method 365 142 v "flagon/module.count").run Tryz.prog w = .ok (201,v) w:=rfl
theorem meth_place (v : Value) (w : World) : (method 365 142 v "flagon/module.place").run Tryz.prog w = .ok (205,v) w:=rfl
theorem meth_instruction (v : Value) (w : World) : (method 365 142 v "flagon/module.instruction").run Tryz.prog w = .ok (202,v) w:=rfl
theorem enter319 (args : Array Value) (w : World) : (callFunc 203 args).run Tryz.prog w = .ok (.enter 203 args) w:=rfl
theorem enter322 (args : Array Value) (w : World) : (callFunc 206 args).run Tryz.prog w = .ok (.enter 206 args) w:=rfl
theorem enter320 (args : Array Value) (w : World) : (callFunc 204 args).run Tryz.prog w = .ok (.enter 204 args) w:=rfl
theorem enter323 (args : Array Value) (w : World) : (callFunc 207 args).run Tryz.prog w = .ok (.enter 207 args) w:=rfl
theorem enter317 (args : Array Value) (w : World) : (callFunc 201 args).run Tryz.prog w = .ok (.enter 201 args) w:=rfl
theorem enter321 (args : Array Value) (w : World) : (callFunc 205 args).run Tryz.prog w = .ok (.enter 205 args) w:=rfl
theorem enter318 (args : Array Value) (w : World) : (callFunc 202 args).run Tryz.prog w = .ok (.enter 202 args) w:=rfl
theorem asks_of {b : Bool} {x p : Int} {w : World} (h : b = true) : Calls Tryz.prog 83 #[.bool b,.int .i64 x,.int .i64 p] w fun e w' => e = .returned (.tuple #[]) ∧ w' = w:=by subst h; exact must84_yes _ _ _
theorem bars_of {b : Bool} {x p : Int} {w : World} (h : b = false) : Calls Tryz.prog 83 #[.bool b,.int .i64 x,.int .i64 p] w fun e w' => e = thr x p ∧ w' = w:=by subst h; exact must84_no _ _ _
theorem wrap_neg (x : Int) (h0 : -9223372036854775808 ≤ x) (h1 : x < 0) : IntKind.u64.wrap x = x + 18446744073709551616:=by
 simp [IntKind.wrap,IntKind.bits,IntKind.signed]; omega
theorem ask185_yes (B : Nat) (v p n : Int) (w : World) (h : w.cell? ⟨B,0,none⟩ = some (.int .i64 n)) (hn : 0 ≤ n) (hn1 : n < 9223372036854775808) (hv : v < n) : Calls Tryz.prog 133 #[.int .u64 v,.int .i64 p,.pointer (some ⟨B,0,none⟩)] w (Asks w):=by
 have hw:=wrap_in n hn (by omega)
 go_enter Tryz.func133,Tryz.ntmps133
 go_wp2_with fail
 refine (asks_of (by simp)).mono ?_
 rintro e w1 ⟨rfl,rfl⟩
 go_wp2_with fail
 go_end0
 exact ⟨rfl,Below.refl _ _⟩
theorem ask185_no (B : Nat) (v p n : Int) (w : World) (h : w.cell? ⟨B,0,none⟩ = some (.int .i64 n)) (hn : 0 ≤ n) (hn1 : n < 9223372036854775808) (hv : n ≤ v) : Calls Tryz.prog 133 #[.int .u64 v,.int .i64 p,.pointer (some ⟨B,0,none⟩)] w (Bars 30 w):=by
 have hw:=wrap_in n hn (by omega)
 go_enter Tryz.func133,Tryz.ntmps133
 go_wp2_with fail
 refine (bars_of (by simp; omega)).mono ?_
 rintro e w1 ⟨rfl,rfl⟩
 exact ⟨rfl,⟨_,rfl⟩,Below.refl _ _⟩
theorem new_cell (w : World) (v : Value) (t : TypeId) : (w.alloc (.cells #[v] t)).cell? ⟨w.heap.size,0,none⟩ = some v:=by simp [go_sem]
theorem below_new (w : World) (o : Obj) : Below w.heap.size w (w.alloc o):=(Below.refl _ _).alloc (Nat.le_refl _) _
theorem index136_yes (R g cap : Nat) (bs : List Int) (x n : Int) (w : World) (h : Wr w R g cap bs) (hb : bs.length + 10 ≤ 1099511627776) (hx0 : 0 ≤ x) (hx : x < n) (hn1 : n < 9223372036854775808) :
  Calls Tryz.prog 104 #[cW R,.int .i64 x,.int .i64 n] w (Puts R g bs (uvar x) (.int .i64 x) w):=by
 have hm:=meth_number
 have hc:=enter319
 have hw:=wrap_in x hx0 (by omega)
 have hi:=i64_in x (by omega) (by omega)
 have B1:=hid (below_new w (.cells #[.int .i64 n] 3))
 have HN:=hid (number319_yes R g cap bs x 133 #[.pointer (some ⟨w.heap.size,0,none⟩)] _ (h.later B1.out) hx0 (by omega) hb (fun _ _ => rfl) (ask185_yes w.heap.size x _ n _ (new_cell _ _ _) (by omega) hn1 hx))
 clear h
 go_enter Tryz.func104,Tryz.ntmps104
 go_wp2_with fail
 refine HN.out.mono ?_
 rintro e w1 ⟨rfl,g',cap',hw1,hs1⟩
 have W1:=hid hw1
 have S1:=hid ((Stp.of_below B1.out).trans hs1)
 clear hw1 hs1 hm hc
 go_wp2_with fail
 go_ret
 exact ⟨rfl,g',cap',W1.out,S1.out⟩
theorem index136_no (R g cap : Nat) (bs : List Int) (x n : Int) (w : World) (h : Wr w R g cap bs) (hx0 : -9223372036854775808 ≤ x) (hx1 : x < 9223372036854775808) (hx : x < 0 ∨ n ≤ x) (hn : 0 ≤ n) (hn1 : n < 9223372036854775808) :
  Calls Tryz.prog 104 #[cW R,.int .i64 x,.int .i64 n] w (Throws R g 30 w):=by
 have hm:=meth_number
 have hc:=enter319
 have hw : n ≤ IntKind.u64.wrap x:=by
  by_cases h0 : 0 ≤ x
  ·rw [wrap_in x h0 (by omega)]; omega
  ·rw [wrap_neg x hx0 (by omega)]; omega
 have B1:=hid (below_new w (.cells #[.int .i64 n] 3))
 have HN:=hid (number319_no R g cap bs (IntKind.u64.wrap x) 133 #[.pointer (some ⟨w.heap.size,0,none⟩)] 30 _ (h.later B1.out) (fun _ _ => rfl) (ask185_no w.heap.size (IntKind.u64.wrap x) _ n _ (new_cell _ _ _) hn hn1 hw))
 clear h hw hx
 go_enter Tryz.func104,Tryz.ntmps104
 go_wp2_with fail
 refine HN.out.mono ?_
 rintro e w1 ⟨⟨p,rfl⟩,hk⟩
 exact ⟨rfl,⟨p,rfl⟩,(kept_of B1.out).trans hk⟩
theorem ask193_yes (B : Nat) (v p n : Int) (w : World) (h : w.cell? ⟨B,0,none⟩ = some (.int .i64 n)) (hn : 0 ≤ n) (hn1 : n < 9223372036854775808) (hv : n ≤ v) (hv1 : v ≤ 64) : Calls Tryz.prog 140 #[.int .u64 v,.int .i64 p,.pointer (some ⟨B,0,none⟩)] w (Asks w):=by
 have hw:=wrap_in n hn (by omega)
 have d1 : decide (n ≤ v) = true:=by simp [hv]
 have d2 : decide (v ≤ 64) = true:=by simp [hv1]
 go_enter Tryz.func140,Tryz.ntmps140
 go_wp2_with fail
 refine (asks_of (by simp)).mono ?_
 rintro e w1 ⟨rfl,rfl⟩
 go_wp2_with fail
 go_end0
 exact ⟨rfl,Below.refl _ _⟩
theorem ask193_no (B : Nat) (v p n : Int) (w : World) (h : w.cell? ⟨B,0,none⟩ = some (.int .i64 n)) (hn : 0 ≤ n) (hn1 : n < 9223372036854775808) (hv : v < n ∨ 64 < v) : Calls Tryz.prog 140 #[.int .u64 v,.int .i64 p,.pointer (some ⟨B,0,none⟩)] w (Bars 17 w):=by
 have hw:=wrap_in n hn (by omega)
 by_cases h1 : n ≤ v
 ·have d1 : decide (n ≤ v) = true:=by simp [h1]
  have d2 : decide (v ≤ 64) = false:=by simp; omega
  go_enter Tryz.func140,Tryz.ntmps140
  go_wp2_with fail
  refine (bars_of (by first | rfl | simp_all)).mono ?_
  rintro e w1 ⟨rfl,rfl⟩
  exact ⟨rfl,⟨_,rfl⟩,Below.refl _ _⟩
 ·have d1 : decide (n ≤ v) = false:=by simp; omega
  go_enter Tryz.func140,Tryz.ntmps140
  go_wp2_with fail
  refine (bars_of (by first | rfl | simp_all)).mono ?_
  rintro e w1 ⟨rfl,rfl⟩
  exact ⟨rfl,⟨_,rfl⟩,Below.refl _ _⟩
theorem pages140_yes (R g cap : Nat) (bs : List Int) (x n : Int) (w : World) (h : Wr w R g cap bs) (hb : bs.length + 10 ≤ 1099511627776) (hn : 0 ≤ n) (hx0 : n ≤ x) (hx : x ≤ 64) :
  Calls Tryz.prog 108 #[cW R,.int .i64 x,.int .i64 n] w (Puts R g bs (uvar x) (.int .i64 x) w):=by
 have hm:=meth_number
 have hc:=enter319
 have hw:=wrap_in x (by omega) (by omega)
 have hi:=i64_in x (by omega) (by omega)
 have B1:=hid (below_new w (.cells #[.int .i64 n] 3))
 have HN:=hid (number319_yes R g cap bs x 140 #[.pointer (some ⟨w.heap.size,0,none⟩)] _ (h.later B1.out) (by omega) (by omega) hb (fun _ _ => rfl) (ask193_yes w.heap.size x _ n _ (new_cell _ _ _) (by omega) (by omega) hx0 hx))
 clear h
 go_enter Tryz.func108,Tryz.ntmps108
 go_wp2_with fail
 refine HN.out.mono ?_
 rintro e w1 ⟨rfl,g',cap',hw1,hs1⟩
 have W1:=hid hw1
 have S1:=hid ((Stp.of_below B1.out).trans hs1)
 clear hw1 hs1 hm hc
 go_wp2_with fail
 go_ret
 exact ⟨rfl,g',cap',W1.out,S1.out⟩
theorem pages140_no (R g cap : Nat) (bs : List Int) (x n : Int) (w : World) (h : Wr w R g cap bs) (hx0 : -9223372036854775808 ≤ x) (hx1 : x < 9223372036854775808) (hx : x < n ∨ 64 < x) (hn : 0 ≤ n) (hn1 : n < 9223372036854775808) :
  Calls Tryz.prog 108 #[cW R,.int .i64 x,.int .i64 n] w (Throws R g 17 w):=by
 have hm:=meth_number
 have hc:=enter319
 have hw : IntKind.u64.wrap x < n ∨ 64 < IntKind.u64.wrap x:=by
  by_cases h0 : 0 ≤ x
  ·rw [wrap_in x h0 (by omega)]; omega
  ·rw [wrap_neg x hx0 (by omega)]; omega
 have B1:=hid (below_new w (.cells #[.int .i64 n] 3))
 have HN:=hid (number319_no R g cap bs (IntKind.u64.wrap x) 140 #[.pointer (some ⟨w.heap.size,0,none⟩)] 17 _ (h.later B1.out) (fun _ _ => rfl) (ask193_no w.heap.size (IntKind.u64.wrap x) _ n _ (new_cell _ _ _) hn hn1 hw))
 clear h hw hx
 go_enter Tryz.func108,Tryz.ntmps108
 go_wp2_with fail
 refine HN.out.mono ?_
 rintro e w1 ⟨⟨p,rfl⟩,hk⟩
 exact ⟨rfl,⟨p,rfl⟩,(kept_of B1.out).trans hk⟩
theorem letters183_yes (s : ByteArray) (p : Int) (w : World) (hs : s.size ≤ 1073741824) (h : lett s 256 = true) : Calls Tryz.prog 131 #[.string s,.int .i64 p] w (Asks w):=by
 have HS:=hid (shape11 s w hs)
 rw [h] at HS
 clear h
 go_enter Tryz.func131,Tryz.ntmps131
 go_wp2_with fail
 refine HS.out.mono ?_
 rintro e w1 ⟨rfl,hb⟩
 have B1:=hid hb
 clear hb HS
 go_wp2_with fail
 refine (asks_of rfl).mono ?_
 rintro e w1 ⟨rfl,rfl⟩
 go_wp2_with fail
 go_end0
 exact ⟨rfl,B1.out⟩
theorem letters183_no (s : ByteArray) (p : Int) (w : World) (hs : s.size ≤ 1073741824) (h : lett s 256 = false) : Calls Tryz.prog 131 #[.string s,.int .i64 p] w (Bars 15 w):=by
 have HS:=hid (shape11 s w hs)
 rw [h] at HS
 clear h
 go_enter Tryz.func131,Tryz.ntmps131
 go_wp2_with fail
 refine HS.out.mono ?_
 rintro e w1 ⟨rfl,hb⟩
 have B1:=hid hb
 clear hb HS
 go_wp2_with fail
 refine (bars_of rfl).mono ?_
 rintro e w1 ⟨rfl,rfl⟩
 exact ⟨rfl,⟨_,rfl⟩,B1.out⟩
def SigsAt (w : World) (a : Option Addr) (n : Nat) (xs : List Sg) : Prop :=
 xs.length = n ∧ n ≤ 1099511627776 ∧ (n = 0 ∨ ∃ b off,a = some ⟨b,off,none⟩ ∧ ∀ j x,xs[j]? = some x → w.cell? ⟨b,off + j * 2,none⟩ = some (.string x.1) ∧ w.cell? ⟨b,off + j * 2 + 1,none⟩ = some (.string x.2))
theorem SigsAt.later {w w' : World} {a : Option Addr} {n : Nat} {xs : List Sg} (h : SigsAt w a n xs) (hb : Below w.heap.size w w') : SigsAt w' a n xs:=by
 refine ⟨h.1,h.2.1,h.2.2.imp id ?_⟩
 rintro ⟨b,off,ha,hc⟩
 refine ⟨b,off,ha,fun j x hj => ?_⟩
 obtain ⟨h1,h2⟩:=hc j x hj
 exact ⟨(hb.cell (by exact block_lt_of_cell h1)).trans h1,(hb.cell (by exact block_lt_of_cell h2)).trans h2⟩
theorem SigsAt.kept {S : Nat → Prop} {w w' : World} {a : Option Addr} {n : Nat} {xs : List Sg} (h : SigsAt w a n xs) (hk : Kept S w w') (hS : ∀ b off c,a = some ⟨b,off,c⟩ → ¬ S b) : SigsAt w' a n xs:=by
 refine ⟨h.1,h.2.1,h.2.2.imp id ?_⟩
 rintro ⟨b,off,ha,hc⟩
 exact ⟨b,off,ha,fun j x hj => ⟨hk.cell (hc j x hj).1 (hS _ _ _ ha),hk.cell (hc j x hj).2 (hS _ _ _ ha)⟩⟩
theorem lt_of_get {α : Type} {xs : List α} {j : Nat} {x : α} (h : xs[j]? = some x) : j < xs.length:=by
 rcases Nat.lt_or_ge j xs.length with hl | hl
 ·exact hl
 ·rw [List.getElem?_eq_none hl] at h; cases h
section
variable (s p : ByteArray) (at_ beg : Int) (A B C : Nat) (aa : Option Addr) (an ac : Nat) (ah : List Sg) (w : World)
theorem look184 {wr : World} {p' r' : ByteArray} (hBl : B < wr.heap.size) (hCl : C < wr.heap.size) (yB : wr.cell? ⟨B,0,none⟩ = some (.string p)) (yC : wr.cell? ⟨C,0,none⟩ = some (.int .i64 beg)) :
  let W1:=wr.alloc (.cells #[.string p',.string r'] 55)
  W1.cell? ⟨wr.heap.size,0,none⟩ = some (.string p') ∧ W1.cell? ⟨wr.heap.size,1,none⟩ = some (.string r') ∧ W1.cell? ⟨B,0,none⟩ = some (.string p) ∧ W1.cell? ⟨C,0,none⟩ = some (.int .i64 beg):=by
 refine ⟨by simp [go_sem],by simp [go_sem],?_,?_⟩
 ·rw [(below_new wr _).cell (by exact hBl)]; exact yB
 ·rw [(below_new wr _).cell (by exact hCl)]; exact yC
theorem twice_no {ah : List Sg} {x y : Sg} {j : Nat} (hy : ah[j]? = some y) (h : twice ah x = false) : ((y.1.toList == x.1.toList) && (y.2.toList == x.2.toList)) = false:=by
 have hm:=List.mem_of_getElem? hy
 simp only [twice,List.any_eq_false] at h
 have:=h y hm
 simpa using this
theorem ask184_yes (hs : s.size ≤ 1073741824) (hl : lett s 256 = true) (hah : SigsAt w aa an ah) (h2 : twice ah (p,s) = false)
  (hA : w.cell? ⟨A,0,none⟩ = some (.slice aa an ac)) (hB : w.cell? ⟨B,0,none⟩ = some (.string p)) (hC : w.cell? ⟨C,0,none⟩ = some (.int .i64 beg)) :
  Calls Tryz.prog 132 #[.string s,.int .i64 at_,.pointer (some ⟨A,0,none⟩),.pointer (some ⟨B,0,none⟩),.pointer (some ⟨C,0,none⟩)] w (Asks w):=by
 have HL:=hid (letters183_yes s at_ w hs hl)
 have hAl:=block_lt_of_cell hA
 have hBl:=block_lt_of_cell hB
 have hCl:=block_lt_of_cell hC
 have HAH:=hid hah
 have hlen:=hah.1
 have hbig:=hah.2.1
 clear hah
 go_enter Tryz.func132,Tryz.ntmps132
 go_wp2_with fail
 refine HL.out.mono ?_
 rintro e w1 ⟨rfl,hb⟩
 have hA1 : w1.cell? ⟨A,0,none⟩ = some (.slice aa an ac):=(hb.cell (by exact hAl)).trans hA
 have B1:=hid hb
 have HB:=hid hB
 have HC:=hid hC
 clear hb hA hB hC HL
 go_wp2_with fail
 go_loopw [14] (fun i wr => ∃ j : Nat,j ≤ an ∧ i = .int .i64 j ∧ Below w.heap.size w wr) (fun i _ => an - (intOf i).toNat)
 case atStart => exact ⟨0,by omega,rfl,B1.out⟩
 case round =>
  obtain ⟨j,hj,rfl,hB2⟩:=hrel
  have BW:=hid hB2
  clear hB2
  by_cases hlt : j < an
  ·obtain ⟨x,hx⟩ : ∃ x,ah[j]? = some x:=⟨_,List.getElem?_eq_getElem (by omega)⟩
   obtain ⟨ab,off,rfl,hc⟩ : ∃ b off,aa = some ⟨b,off,none⟩ ∧ ∀ j x,ah[j]? = some x → wr.cell? ⟨b,off + j * 2,none⟩ = some (.string x.1) ∧ wr.cell? ⟨b,off + j * 2 + 1,none⟩ = some (.string x.2):=by
    rcases (HAH.out.later BW.out).2.2 with h0 | h
    ·omega
    ·exact h
   obtain ⟨y0,y1⟩:=hc j x hx
   obtain ⟨p',r'⟩:=x
   have hne:=twice_no hx h2
   clear hc
   have yB : wr.cell? ⟨B,0,none⟩ = some (.string p):=(BW.out.cell (by exact hBl)).trans HB.out
   have yC : wr.cell? ⟨C,0,none⟩ = some (.int .i64 beg):=(BW.out.cell (by exact hCl)).trans HC.out
   have hBl':=block_lt_of_cell yB
   have hCl':=block_lt_of_cell yC
   simp only at y0 y1 hne
   obtain ⟨z0,z1,z2,z3⟩:=look184 (p':=p') (r':=r') p beg B C hBl' hCl' yB yC
   go_wp2_with fail
   have BN:=hid (below_new wr (.cells #[.string p',.string r'] 55))
   generalize wr.alloc (.cells #[.string p',.string r'] 55) = W1 at *
   clear y0 y1 yB yC
   by_cases k1 : (p'.toList == p.toList) = true
   ·have k2 : (r'.toList == s.toList) = false:=by rw [k1] at hne; simpa using hne
    clear hne
    go_region_held3 (fun W => W.cell? ⟨wr.heap.size,0,none⟩ = some (.string p') ∧ W.cell? ⟨wr.heap.size,1,none⟩ = some (.string r') ∧ W.cell? ⟨B,0,none⟩ = some (.string p) ∧ W.cell? ⟨C,0,none⟩ = some (.int .i64 beg))
     (first | assumption | exact ⟨z0,z1,z2,z3⟩)
     (first
      | (go_at_call 83; refine (asks_of rfl).mono ?_; rintro e w' ⟨rfl,rfl⟩))
    go_wp2_with fail
    go_roundw
    ·exact ⟨j + 1,by omega,rfl,(BW.out.trans (BN.out.mono BW.out.size)).drew⟩
    ·simp [intOf]; omega
   ·have k1' : (p'.toList == p.toList) = false:=by simpa using k1
    clear hne k1
    go_region_held3 (fun W => W.cell? ⟨wr.heap.size,0,none⟩ = some (.string p') ∧ W.cell? ⟨wr.heap.size,1,none⟩ = some (.string r') ∧ W.cell? ⟨B,0,none⟩ = some (.string p) ∧ W.cell? ⟨C,0,none⟩ = some (.int .i64 beg))
     (first | assumption | exact ⟨z0,z1,z2,z3⟩)
     (first
      | (go_at_call 83; refine (asks_of rfl).mono ?_; rintro e w' ⟨rfl,rfl⟩))
    go_wp2_with fail
    go_roundw
    ·exact ⟨j + 1,by omega,rfl,(BW.out.trans (BN.out.mono BW.out.size)).drew⟩
    ·simp [intOf]; omega
  ·go_wp2_with fail
   go_end0
   exact ⟨rfl,BW.out⟩
theorem ask184_no (hs : s.size ≤ 1073741824) (hl : lett s 256 = false) :
  Calls Tryz.prog 132 #[.string s,.int .i64 at_,.pointer (some ⟨A,0,none⟩),.pointer (some ⟨B,0,none⟩),.pointer (some ⟨C,0,none⟩)] w (Bars 15 w):=by
 have HL:=hid (letters183_no s at_ w hs hl)
 go_enter Tryz.func132,Tryz.ntmps132
 go_wp2_with fail
 refine HL.out.mono ?_
 rintro e w1 ⟨⟨q,rfl⟩,hb⟩
 exact ⟨rfl,⟨q,rfl⟩,hb⟩
theorem ask184_twice (hs : s.size ≤ 1073741824) (hl : lett s 256 = true) (hah : SigsAt w aa an ah) (k : Nat) (hk : ∃ y,ah[k]? = some y ∧ y.1.toList = p.toList ∧ y.2.toList = s.toList) (h2 : twice (ah.take k) (p,s) = false)
  (hA : w.cell? ⟨A,0,none⟩ = some (.slice aa an ac)) (hB : w.cell? ⟨B,0,none⟩ = some (.string p)) (hC : w.cell? ⟨C,0,none⟩ = some (.int .i64 beg)) :
  Calls Tryz.prog 132 #[.string s,.int .i64 at_,.pointer (some ⟨A,0,none⟩),.pointer (some ⟨B,0,none⟩),.pointer (some ⟨C,0,none⟩)] w (Bars 16 w):=by
 have HL:=hid (letters183_yes s at_ w hs hl)
 have hAl:=block_lt_of_cell hA
 have hBl:=block_lt_of_cell hB
 have hCl:=block_lt_of_cell hC
 have HAH:=hid hah
 have hlen:=hah.1
 have hbig:=hah.2.1
 clear hah
 obtain ⟨y,hy,hy1,hy2⟩:=hk
 have hkl:=lt_of_get hy
 rw [hlen] at hkl
 go_enter Tryz.func132,Tryz.ntmps132
 go_wp2_with fail
 refine HL.out.mono ?_
 rintro e w1 ⟨rfl,hb⟩
 have hA1 : w1.cell? ⟨A,0,none⟩ = some (.slice aa an ac):=(hb.cell (by exact hAl)).trans hA
 have B1:=hid hb
 have HB:=hid hB
 have HC:=hid hC
 clear hb hA hB hC HL
 go_wp2_with fail
 go_loopw [14] (fun i wr => ∃ j : Nat,j ≤ k ∧ i = .int .i64 j ∧ Below w.heap.size w wr) (fun i _ => an - (intOf i).toNat)
 case atStart => exact ⟨0,by omega,rfl,B1.out⟩
 case round =>
  obtain ⟨j,hj,rfl,hB2⟩:=hrel
  have BW:=hid hB2
  clear hB2
  obtain ⟨x,hx⟩ : ∃ x,ah[j]? = some x:=⟨_,List.getElem?_eq_getElem (by omega)⟩
  have hlt : j < an:=by omega
  obtain ⟨ab,off,rfl,hc⟩ : ∃ b off,aa = some ⟨b,off,none⟩ ∧ ∀ j x,ah[j]? = some x → wr.cell? ⟨b,off + j * 2,none⟩ = some (.string x.1) ∧ wr.cell? ⟨b,off + j * 2 + 1,none⟩ = some (.string x.2):=by
   rcases (HAH.out.later BW.out).2.2 with h0 | h
   ·omega
   ·exact h
  obtain ⟨y0,y1⟩:=hc j x hx
  obtain ⟨p',r'⟩:=x
  have hne : j < k → ((p'.toList == p.toList) && (r'.toList == s.toList)) = false:=fun hlk => twice_no (ah:=ah.take k) (x:=(p,s)) (y:=(p',r')) (j:=j) (by rw [List.getElem?_take_of_lt hlk]; exact hx) h2
  have heq : j = k → p' = y.1 ∧ r' = y.2:=fun h => by subst h; rw [hx] at hy; simp at hy; subst hy; exact ⟨rfl,rfl⟩
  clear hc
  have yB : wr.cell? ⟨B,0,none⟩ = some (.string p):=(BW.out.cell (by exact hBl)).trans HB.out
  have yC : wr.cell? ⟨C,0,none⟩ = some (.int .i64 beg):=(BW.out.cell (by exact hCl)).trans HC.out
  have hBl':=block_lt_of_cell yB
  have hCl':=block_lt_of_cell yC
  simp only at y0 y1
  obtain ⟨z0,z1,z2,z3⟩:=look184 (p':=p') (r':=r') p beg B C hBl' hCl' yB yC
  go_wp2_with fail
  have BN:=hid (below_new wr (.cells #[.string p',.string r'] 55))
  generalize wr.alloc (.cells #[.string p',.string r'] 55) = W1 at *
  clear y0 y1 yB yC
  by_cases hjk : j < k
  ·have hne:=hne hjk
   clear heq
   by_cases k1 : (p'.toList == p.toList) = true
   ·have k2 : (r'.toList == s.toList) = false:=by rw [k1] at hne; simpa using hne
    clear hne
    go_region_held3 (fun W => W.cell? ⟨wr.heap.size,0,none⟩ = some (.string p') ∧ W.cell? ⟨wr.heap.size,1,none⟩ = some (.string r') ∧ W.cell? ⟨B,0,none⟩ = some (.string p) ∧ W.cell? ⟨C,0,none⟩ = some (.int .i64 beg))
     (first | assumption | exact ⟨z0,z1,z2,z3⟩)
     (first
      | (go_at_call 83; refine (asks_of rfl).mono ?_; rintro e w' ⟨rfl,rfl⟩))
    go_wp2_with fail
    go_roundw
    ·exact ⟨j + 1,by omega,rfl,(BW.out.trans (BN.out.mono BW.out.size)).drew⟩
    ·simp [intOf]; omega
   ·have k1' : (p'.toList == p.toList) = false:=by simpa using k1
    clear hne k1
    go_region_held3 (fun W => W.cell? ⟨wr.heap.size,0,none⟩ = some (.string p') ∧ W.cell? ⟨wr.heap.size,1,none⟩ = some (.string r') ∧ W.cell? ⟨B,0,none⟩ = some (.string p) ∧ W.cell? ⟨C,0,none⟩ = some (.int .i64 beg))
     (first | assumption | exact ⟨z0,z1,z2,z3⟩)
     (first
      | (go_at_call 83; refine (asks_of rfl).mono ?_; rintro e w' ⟨rfl,rfl⟩))
    go_wp2_with fail
    go_roundw
    ·exact ⟨j + 1,by omega,rfl,(BW.out.trans (BN.out.mono BW.out.size)).drew⟩
    ·simp [intOf]; omega
  ·obtain ⟨rfl,rfl⟩:=heq (by omega)
   have k1 : (y.1.toList == p.toList) = true:=by simp [hy1]
   have k2 : (y.2.toList == s.toList) = true:=by simp [hy2]
   clear hne hy1 hy2
   go_region_dies
   all_goals (refine (bars_of rfl).mono ?_; rintro e w' ⟨rfl,rfl⟩; exact ⟨rfl,⟨_,rfl⟩,(BW.out.trans (BN.out.mono BW.out.size)).drew⟩)
end
end Go.Proofs.YtepcmfegggdjfaaGreatDoor

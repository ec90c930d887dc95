/-
  Texts NAa.
-/
import Derived.ArgAppend
import Derived.Below
import Derived.BigQuiet
import Derived.Deep.CutRange
import Derived.Deep.QuietTactic
import Derived.Deep.RegionHeld3
import Derived.KernelRfl
import Derived.Laws.AppendOwnNone
import Derived.Laws.BitsAllLaws
import Derived.Laws.BytesArg
import Derived.RegionDies
import Derived.RowKit
import Derived.Test.YtkdldbfbldkkcaaGreatDoorProg
import Derived.WalkKit
import Derived.WalkLawsBesides
import Derived.WalkSpells
import Derived.Test.YtkdldbfbldkkcaaGreatDoorM00
import Derived.Test.YtkdldbfbldkkcaaGreatDoorM01
import Derived.Test.YtkdldbfbldkkcaaGreatDoorM02
import Derived.Test.YtkdldbfbldkkcaaGreatDoorM03
import Derived.Test.YtkdldbfbldkkcaaGreatDoorM04
import Derived.Test.YtkdldbfbldkkcaaGreatDoorM06
import Derived.Test.YtkdldbfbldkkcaaGreatDoorM07
set_option linter.unusedVariables false
set_option maxRecDepth 100000
set_option maxHeartbeats 16000000
namespace Go.Proofs.YtkdldbfbldkkcaaGreatDoor
open Go.RowKit
def ny (w : World) (g n cap : Nat) (xs : List Value) : Prop:=fO w 5 1 g n cap xs ∨ (cap = n ∧ n ≤ 5 ∧ g < w.heap.size ∧ xs.length = n ∧ ∀ j u,xs[j]? = some u → w.cell? ⟨g,j,none⟩ = some u)
theorem ny.lt {w : World} {g n cap : Nat} {xs : List Value} (h : ny w g n cap xs) : g < w.heap.size:=by
 rcases h with h | h
 ·exact h.lt
 ·exact h.2.2.1
theorem ny.kept {S : Nat → Prop} {w w' : World} {g n cap : Nat} {xs : List Value} (h : ny w g n cap xs) (hk : Kept S w w') (hs : ¬ S g) : ny w' g n cap xs:=by
 exact IH
theorem Ff {P : Program} (w : World) {ops : Array Oper} {rest : List Oper} {o : Oper} {a : Act} {Q : Exit → Act → World → Prop} (hgd : o.guard = none)
  (s x : Operand) (t : TypeId) (ho : o.op = Op.call { callee:=Callee.builtin Builtin.append,args:=#[s,x],argTypes:=#[t,t] }) (i : TypeInfo) (z : Value)
  (h1 : P.underlying t = some (.slice 5)) (h2 : P.info? 5 = some i) (h3 : i.zero = some z) (h4 : i.size = 1) (h5 : i.bytes = 1) (h6 : z.cells.size = 1)
  (g n cap : Nat) (xs : List Value) (hs : a.eval s = .slice (some ⟨g,0,none⟩) n cap) (hown : ny w g n cap xs) (ad : Addr) (m c : Nat) (news : List Value) (hx : a.eval x = .slice (some ad) m c) (hn : news.length = m * 1)
  (hc : ∀ j u,news[j]? = some u → w.cell? (ad.add j) = some u) (hone : ∀ u ∈ news,u.oneCell' = true) (hm : 0 < m)
  (b1 : n + m ≤ maxLen) (b2 : (n + m) * 1 ≤ 140737488355328)
  (h : ∀ (B cap : Nat) (w' : World),fO w' 5 1 B (n + m) cap (xs ++ news) → Kept (fun k => k = g) w w' → (B = g ∨ w.heap.size ≤ B) → wpList P ops Q rest (a.put o.dst (.slice (some ⟨B,0,none⟩) (n + m) cap)) w') :
  wpList P ops Q (o :: rest) a w:=by
 rcases hown with hr | ⟨rfl,_,_,hl,hcells⟩
 ·exact Gh
 ·exact GG
theorem GN (b1 o1 b2 o2 n c1 c2 : Nat) (l1 l2 : List Int) (w : World) (h1 : l1.length = n) (h2 : l2.length = n) (hn : n ≤ 1099511627776)
  (hc1 : ∀ (j : Nat) x,l1[j]? = some x → w.cell? ⟨b1,o1 + j,none⟩ = some (.int .u8 x))
  (hc2 : ∀ (j : Nat) x,l2[j]? = some x → w.cell? ⟨b2,o2 + j,none⟩ = some (.int .u8 x)) :
  Calls Tryz.prog 12 #[.slice (some ⟨b1,o1,none⟩) n c1,.slice (some ⟨b2,o2,none⟩) n c2] w fun e w' => e = .returned (.bool (lE iE l1 l2)) ∧ Below w.heap.size w w':=by
 have hne : ((n : Int) != n) = false:=au;have C1:=hid hc1;have C2:=hid hc2;clear hc1 hc2
 go_enter Tryz.func12,Tryz.ntmps12
 go_wp2
 go_loopw [5] (fun i wr => ∃ k m : Nat,k ≤ n ∧ i = .int .i64 k ∧ wr = w.drewN m ∧ Hid (∀ (i : Nat) x y,i < k → l1[i]? = some x → l2[i]? = some y → iE x y = true)) (fun i _ => n - (intOf i).toNat)
 case atStart => exact ⟨0,0,ae,rfl,rfl,hid (fun i x y hi => ae)⟩
 case round =>
  obtain ⟨k,m,hk,rfl,rfl,HE⟩:=hrel
  by_cases hlt : k < n
  ·obtain ⟨x,hx⟩ : ∃ x,l1[k]? = some x:=⟨_,ba ae⟩;obtain ⟨y,hy⟩ : ∃ y,l2[k]? = some y:=⟨_,ba ae⟩;have g1 : w.cell? ⟨b1,o1 + k,none⟩ = some (.int .u8 x):=C1.out k x hx;have g2 : w.cell? ⟨b2,o2 + k,none⟩ = some (.int .u8 y):=C2.out k y hy;exact EG
  ·exact Ef
theorem Dp (a1 a2 : Option Addr) (n1 n2 c1 c2 : Nat) (l1 l2 : List Int) (w : World) (h1 : l1.length = n1) (h2 : l2.length = n2) (hne : n1 ≠ n2) :
  Calls Tryz.prog 12 #[.slice a1 n1 c1,.slice a2 n2 c2] w fun e w' => e = .returned (.bool (lE iE l1 l2)) ∧ Below w.heap.size w w':=by
 have hb : ((n1 : Int) != n2) = true:=aI;have HV:=hid (pR (f:=iE) (l1:=l1) (l2:=l2) ae)
 go_enter Tryz.func12,Tryz.ntmps12
 exact oQ
theorem yZ (a1 a2 : Option Addr) (c1 c2 : Nat) (w : World) :
  Calls Tryz.prog 12 #[.slice a1 0 c1,.slice a2 0 c2] w fun e w' => e = .returned (.bool (lE iE [] [])) ∧ Below w.heap.size w w':=by
 go_enter Tryz.func12,Tryz.ntmps12
 exact oN
theorem KG (a1 a2 : Option Addr) (n1 n2 c1 c2 : Nat) (l1 l2 : List Int) (w : World) (h1 : SI .u8 w a1 n1 l1) (h2 : SI .u8 w a2 n2 l2) (hn : n1 ≤ 1099511627776) :
  Calls Tryz.prog 12 #[.slice a1 n1 c1,.slice a2 n2 c2] w fun e w' => e = .returned (.bool (lE iE l1 l2)) ∧ Below w.heap.size w w':=by
 by_cases hne : n1 = n2
 ·subst hne;obtain ⟨hz1,g1⟩:=h1;obtain ⟨hz2,g2⟩:=h2
  by_cases h0 : n1 = 0
  ·subst h0;obtain rfl:=List.eq_nil_of_length_eq_zero hz1;obtain rfl:=List.eq_nil_of_length_eq_zero hz2;exact yZ a1 a2 c1 c2 w
  obtain ⟨b1,o1,rfl,e1⟩:=g1.resolve_left h0;obtain ⟨b2,o2,rfl,e2⟩:=g2.resolve_left h0;exact GN b1 o1 b2 o2 n1 c1 c2 l1 l2 w hz1 hz2 hn e1 e2
 ·exact Dp a1 a2 n1 n2 c1 c2 l1 l2 w h1.1 h2.1 hne
theorem fq {w : World} {b : Nat} {o : Obj} (h : w.heap[b]? = some o) : b < w.heap.size:=by
 rcases Nat.lt_or_ge b w.heap.size with h1 | h1
 ·exact h1
 ·rw [Array.getElem?_eq_none h1] at h; cases h
theorem bc {w w' : World} {b : Nat} {o : Obj} (hb : Below w.heap.size w w') (h : w.heap[b]? = some o) : w'.heap[b]? = some o:=(hb.block b (fq h)).trans h
theorem bZ (w : World) (o : Obj) : (w.alloc o).heap[w.heap.size]? = some o:=(MapKept.heap_alloc w o).1
theorem gZ {w : World} {o : Obj} {b : Nat} (h : w.heap.size = b) : (w.alloc o).heap[b]? = some o:=by subst h; exact bZ w o
def frE (x y : FrM) : Bool:=iE x.1 y.1 && (iE x.2.1 y.2.1 && (lE iE x.2.2.1.2 y.2.2.1.2 && lE iE x.2.2.2.2 y.2.2.2.2))
def pgE (x y : PgM) : Bool:=lE iE x.2 y.2
abbrev frO (f p : Int) (la : Option Addr) (ln lc : Nat) (sa : Option Addr) (sn sc : Nat) : Obj:=.cells #[.int .i64 f,.int .i64 p,.slice la ln lc,.slice sa sn sc] 54
abbrev frV (x : FrM) : Value:=.agg #[.int .i64 x.1,.int .i64 x.2.1,.slice x.2.2.1.1.1 x.2.2.1.1.2.1 x.2.2.1.1.2.2,.slice x.2.2.2.1.1 x.2.2.2.1.2.1 x.2.2.2.1.2.2]
def SF1 (w : World) (x : FrM) : Prop:=SI .u64 w x.2.2.1.1.1 x.2.2.1.1.2.1 x.2.2.1.2 ∧ SI .u64 w x.2.2.2.1.1 x.2.2.2.1.2.1 x.2.2.2.2
theorem SF1.later {w w' : World} {x : FrM} (h : SF1 w x) (hb : Below w.heap.size w w') : SF1 w' x:=⟨h.1.later hb,h.2.later hb⟩
theorem NG (x y : FrM) (w : World) (h1 : SF1 w x) (h2 : SF1 w y) (hl : x.2.2.1.1.2.1 ≤ 1099511627776) (hs : x.2.2.2.1.2.1 ≤ 1099511627776) :
  Calls Tryz.prog 55 #[frV x,frV y] w fun e w' => e = .returned (.bool (frE x y)) ∧ Below w.heap.size w w':=by
 obtain ⟨f,p,⟨⟨la,ln,lc⟩,ll⟩,⟨⟨sa,sn,sc⟩,sl⟩⟩:=x;obtain ⟨f',p',⟨⟨la',ln',lc'⟩,ll'⟩,⟨⟨sa',sn',sc'⟩,sl'⟩⟩:=y
 have HA:=hid (fun (W : World) (hb : Below w.heap.size w W) => Ax la la' ln ln' lc lc' ll ll' W (h1.1.later hb) (h2.1.later hb) hl)
 have HB:=hid (fun (W : World) (hb : Below w.heap.size w W) => Ax sa sa' sn sn' sc sc' sl sl' W (h1.2.later hb) (h2.2.later hb) hs)
 have hv : frE (f,p,((la,ln,lc),ll),((sa,sn,sc),sl)) (f',p',((la',ln',lc'),ll'),((sa',sn',sc'),sl')) = (iE f f' && (iE p p' && (lE iE ll ll' && lE iE sl sl'))):=rfl;clear h1 h2 hl hs;generalize frE (f,p,((la,ln,lc),ll),((sa,sn,sc),sl)) (f',p',((la',ln',lc'),ll'),((sa',sn',sc'),sl')) = V at *;generalize lE iE ll ll' = A at *;generalize lE iE sl sl' = B at *;have HV:=hid hv;clear hv;have B1:=aj w (frO f p la ln lc sa sn sc);have B2:=aj (w.alloc (frO f p la ln lc sa sn sc)) (frO f' p' la' ln' lc' sa' sn' sc');have B0:=hid (B1.trans (B2.mono B1.size));have k1:=bc B2 (bZ w (frO f p la ln lc sa sn sc));have k2 : ((w.alloc (frO f p la ln lc sa sn sc)).alloc (frO f' p' la' ln' lc' sa' sn' sc')).heap[w.heap.size + 1]? = some (frO f' p' la' ln' lc' sa' sn' sc'):=gZ au
 have HC:=hid (fun (W : World) (hb : Below ((w.alloc (frO f p la ln lc sa sn sc)).alloc (frO f' p' la' ln' lc' sa' sn' sc')).heap.size ((w.alloc (frO f p la ln lc sa sn sc)).alloc (frO f' p' la' ln' lc' sa' sn' sc')) W) =>
  (⟨ag hb (ai k1),ag hb (ai k1),ag hb (ai k1),ag hb (ai k1),ag hb (ai k2),ag hb (ai k2),ag hb (ai k2),ag hb (ai k2)⟩ :
   W.cell? ⟨w.heap.size,0,none⟩ = some (.int .i64 f) ∧ W.cell? ⟨w.heap.size,1,none⟩ = some (.int .i64 p) ∧ W.cell? ⟨w.heap.size,2,none⟩ = some (.slice la ln lc) ∧ W.cell? ⟨w.heap.size,3,none⟩ = some (.slice sa sn sc) ∧
   W.cell? ⟨w.heap.size + 1,0,none⟩ = some (.int .i64 f') ∧ W.cell? ⟨w.heap.size + 1,1,none⟩ = some (.int .i64 p') ∧ W.cell? ⟨w.heap.size + 1,2,none⟩ = some (.slice la' ln' lc') ∧ W.cell? ⟨w.heap.size + 1,3,none⟩ = some (.slice sa' sn' sc')))
 obtain ⟨c0,c1,c2,c3,d0,d1,d2,d3⟩:=HC.out _ (Below.refl _ _);clear B1 B2 k1 k2
 by_cases ef : f = f'
 ·subst ef;have hf : (f == f) = true:=au
  by_cases ep : p = p'
  ·subst ep;have hp : (p == p) = true:=au
   go_enter Tryz.func55,Tryz.ntmps55
   go_wp2_with fail;refine (HA.out _ B0.out).mono ?_;rintro e w5 ⟨rfl,hb5⟩;obtain ⟨x0,x1,x2,x3,y0,y1,y2,y3⟩:=HC.out w5 hb5;have B5:=hid (B0.out.trans (hb5.mono B0.out.size));clear hb5
   cases A with
   | true =>
    go_wp2_with fail;refine (HB.out _ B5.out).mono ?_;rintro e w6 ⟨rfl,hb6⟩;have B6:=hid (B5.out.trans (hb6.mono B5.out.size));clear hb6
    cases B with
    | true =>
     exact rU
    | false =>
     exact rU
   | false =>
    go_wp2_with fail;go_ret;exact ⟨mJ,B5.out⟩
  ·have hp : (p == p') = false:=by simp [ep]
   go_enter Tryz.func55,Tryz.ntmps55
   go_wp2_with fail;go_ret
   exact ⟨by rw [HV.out]; simp [iE,ep],B0.out⟩
 ·have hf : (f == f') = false:=by simp [ef]
  go_enter Tryz.func55,Tryz.ntmps55
  go_wp2_with fail;go_ret
  exact ⟨by rw [HV.out]; simp [iE,ef],B0.out⟩
def PB (x : PgM) : Prop:=x.1.2.1 ≤ 1099511627776 ∧ ∀ z ∈ x.2,0 ≤ z ∧ z ≤ 255
def FB (x : FrM) : Prop:=x.2.2.1.1.2.1 ≤ 1099511627776 ∧ x.2.2.2.1.2.1 ≤ 1099511627776
def PE (w : World) (x : PgM) : Prop:=SI .u8 w x.1.1 x.1.2.1 x.2
theorem PE.later {w w' : World} {x : PgM} (h : PE w x) (hb : Below w.heap.size w w') : PE w' x:=SI.later h hb
theorem Lc (a : Option Addr) (n c : Nat) (l : List Int) (w : World) (h : SI .u8 w a n l) : (convert 42 9 (.slice a n c)).run Tryz.prog w = .ok (.string (strOfNums l)) w:=by
 obtain ⟨hl,h⟩:=h
 by_cases h0 : n = 0
 ·subst h0;obtain rfl:=List.eq_nil_of_length_eq_zero hl
  cases a with
  | none => exact run_convert_bytes_nil w 42 5 Tryz.underlying42 Tryz.underlying5 0 c 9 Tryz.underlying9
  | some ad =>
   have hl : (loadCells ad 0).run Tryz.prog w = .ok ([] : List Value).toArray w:=run_loadCells_list (P:=Tryz.prog) w ad [] (fun j v hj => by simp at hj)
   rw [run_convert_bytes_string w 42 9 5 _ 0 c Tryz.underlying42 Tryz.underlying5 Tryz.underlying9,run_bytesToString w _ 0 c [] hl];rfl
 ·obtain ⟨b,off,rfl,hc⟩:=h.resolve_left h0
  refine run_convert_bytes_arg w 42 5 Tryz.underlying42 Tryz.underlying5 b off n c l hl (fun i hi => ?_) 9 Tryz.underlying9
  have hx : l[i]? = some (l.getD i 0):=by rw [List.getD_eq_getElem?_getD,ba ae]; rfl
  exact hc i _ hx
theorem Bq : ∀ {l1 l2 : List Int},(∀ z ∈ l1,0 ≤ z ∧ z ≤ 255) → (∀ z ∈ l2,0 ≤ z ∧ z ≤ 255) → (l1.map fun n => UInt8.ofNat n.toNat) = (l2.map fun n => UInt8.ofNat n.toNat) → l1 = l2
 | [],[],_,_,_ => rfl
 | [],y :: l2,_,_,h => by simp at h
 | x :: l1,[],_,_,h => by simp at h
 | x :: l1,y :: l2,h1,h2,h => by
  simp only [List.map_cons,List.cons.injEq] at h
  have hx:=h1 x au;have hy:=h2 y au;have e:=congrArg UInt8.toNat h.1;rw [UInt8.toNat_ofNat',UInt8.toNat_ofNat',Nat.mod_eq_of_lt ae,Nat.mod_eq_of_lt ae] at e
  rw [Bq (fun z hz => h1 z mU) (fun z hz => h2 z mU) h.2]
  congr 1
  omega
theorem jN {l1 l2 : List Int} : lE iE l1 l2 = decide (l1 = l2):=by
 by_cases h : l1 = l2
 ·subst h
  rw [xG rfl (fun i x y hx hy => by rw [hx] at hy; injection hy with e; simp [iE,e])]
  simp
 ·rw [decide_eq_false h]
  cases hv : lE iE l1 l2 with
  | false => rfl
  | true =>
   exfalso
   apply h
   unfold lE at hv;rw [Bool.and_eq_true] at hv
   have hl : l1.length = l2.length:=by simpa using hv.1
   apply List.ext_getElem hl
   intro i hi hi2
   have:=List.all_eq_true.1 hv.2 i (List.mem_range.2 hi)
   rw [ba hi,ba hi2] at this
   simpa [iE] using this
theorem str_eq (l1 l2 : List Int) (r1 : ∀ z ∈ l1,0 ≤ z ∧ z ≤ 255) (r2 : ∀ z ∈ l2,0 ≤ z ∧ z ≤ 255) : ((strOfNums l1).toList == (strOfNums l2).toList) = lE iE l1 l2:=by
 rw [jN]
 by_cases h : l1 = l2
 ·subst h; simp
 ·rw [decide_eq_false h,beq_eq_false_iff_ne];intro e
  apply h
  apply Bq r1 r2
  rw [← strOfNums_data,← strOfNums_data];rw [ByteArray.toList_eq,ByteArray.toList_eq] at e;exact e
theorem NH (a1 a2 : Option Addr) (n1 n2 c1 c2 : Nat) (l1 l2 : List Int) (w : World) (h1 : SI .u8 w a1 n1 l1) (h2 : SI .u8 w a2 n2 l2) (r1 : ∀ z ∈ l1,0 ≤ z ∧ z ≤ 255) (r2 : ∀ z ∈ l2,0 ≤ z ∧ z ≤ 255) :
  Calls Tryz.prog 46 #[.slice a1 n1 c1,.slice a2 n2 c2] w fun e w' => e = .returned (.bool (lE iE l1 l2)) ∧ Below w.heap.size w w':=by
 have g1:=Lc a1 n1 c1 l1 w h1;have g2:=Lc a2 n2 c2 l2 w h2;have HV:=hid (str_eq l1 l2 r1 r2);clear h1 h2 r1 r2;generalize strOfNums l1 = s1 at *;generalize strOfNums l2 = s2 at *
 go_enter Tryz.func46,Tryz.ntmps46
 go_wp2;go_ret
 exact ⟨congrArg (fun b => Ending.returned (.bool b)) HV.out,Below.refl _ _⟩
theorem IB (b1 o1 b2 o2 n c1 c2 : Nat) (l1 l2 : List PgM) (w : World) (h1 : l1.length = n) (h2 : l2.length = n) (hn : n ≤ 1099511627776)
  (hc1 : ∀ (j : Nat) x,l1[j]? = some x → w.cell? ⟨b1,o1 + j,none⟩ = some (.slice x.1.1 x.1.2.1 x.1.2.2)) (hc2 : ∀ (j : Nat) x,l2[j]? = some x → w.cell? ⟨b2,o2 + j,none⟩ = some (.slice x.1.1 x.1.2.1 x.1.2.2))
  (hi1 : ∀ x ∈ l1,PE w x) (hi2 : ∀ x ∈ l2,PE w x) (hb1 : ∀ x ∈ l1,PB x) (hb2 : ∀ x ∈ l2,PB x) :
  Calls Tryz.prog 23 #[.slice (some ⟨b1,o1,none⟩) n c1,.slice (some ⟨b2,o2,none⟩) n c2] w fun e w' => e = .returned (.bool (lE pgE l1 l2)) ∧ Below w.heap.size w w':=by
 have hne : ((n : Int) != n) = false:=au
 have hK : ∀ args w,(callFunc 12 args).run Tryz.prog w = .ok (.enter 12 args) w:=fun _ _ => rfl
 have C1:=hid hc1;have C2:=hid hc2;have I1:=hid hi1;have I2:=hid hi2;have D1:=hid hb1;have D2:=hid hb2;clear hc1 hc2 hi1 hi2 hb1 hb2
 go_enter Tryz.func23,Tryz.ntmps23
 go_wp2_with fail
 go_loopw [5] (fun i wr => ∃ k : Nat,k ≤ n ∧ i = .int .i64 k ∧ Hid (Below w.heap.size w wr) ∧ Hid (∀ (i : Nat) x y,i < k → l1[i]? = some x → l2[i]? = some y → pgE x y = true)) (fun i _ => n - (intOf i).toNat)
 case atStart => exact ⟨0,ae,rfl,hid (Below.refl _ _),hid (fun i x y hi => ae)⟩
 case round =>
  obtain ⟨k,hk,rfl,HB,HE⟩:=hrel
  by_cases hlt : k < n
  ·obtain ⟨x,hx⟩ : ∃ x,l1[k]? = some x:=⟨_,ba ae⟩;obtain ⟨y,hy⟩ : ∃ y,l2[k]? = some y:=⟨_,ba ae⟩;have mx:=List.mem_of_getElem? hx;have my:=List.mem_of_getElem? hy
   have HFA:=hid (fun (W : World) (hW : Below wr.heap.size wr W) => (⟨ag (HB.out.trans (hW.mono HB.out.size)) (C1.out k x hx),ag (HB.out.trans (hW.mono HB.out.size)) (C2.out k y hy)⟩ : W.cell? ⟨b1,o1 + k,none⟩ = some (.slice x.1.1 x.1.2.1 x.1.2.2) ∧ W.cell? ⟨b2,o2 + k,none⟩ = some (.slice y.1.1 y.1.2.1 y.1.2.2)))
   obtain ⟨v0,v1⟩:=HFA.out wr (Below.refl _ _);have hlt' : (k : Int) < (n : Int):=ae
   have kd : Below wr.heap.size wr wr.drew:=(Kept.drewN (fun _ => False) wr 1).to_below (Nat.le_refl _) (fun _ _ x => x)
   have hbd:=HB.out.trans (kd.mono HB.out.size);have HC:=hid (KG x.1.1 y.1.1 x.1.2.1 y.1.2.1 x.1.2.2 y.1.2.2 x.2 y.2 wr.drew ((I1.out x mx).later hbd) ((I2.out y my).later hbd) (D1.out x mx).1);have HX:=hid hx;have HY:=hid hy;generalize hv : pgE x y = v;have HV2:=hid hv
   have HQ2:=hid (HC.out.mono (fun e w' h => (⟨Fj,kd.trans (h.2.mono kd.size)⟩ : e = .returned (.bool v) ∧ Below wr.heap.size wr w')))
   clear hx hy mx my C1 C2 I1 I2 D1 D2 hv kd hbd HC
   cases v with
   | true =>
    go_wp2_with fail
    go_region_held3 (fun W => W.cell? ⟨b1,o1 + k,none⟩ = some (.slice x.1.1 x.1.2.1 x.1.2.2) ∧ W.cell? ⟨b2,o2 + k,none⟩ = some (.slice y.1.1 y.1.2.1 y.1.2.2)) (go_keep)
     (first | (go_at_call 12; refine HQ2.out.mono ?_; rintro e w5 ⟨rfl,hb5⟩; obtain ⟨t0,t1⟩:=HFA.out _ hb5; have HB5:=hid (HB.out.trans (hb5.mono HB.out.size)); clear hb5))
    exact FE
   | false =>
    go_wp2_with fail
    go_region_held3 (fun W => W.cell? ⟨b1,o1 + k,none⟩ = some (.slice x.1.1 x.1.2.1 x.1.2.2) ∧ W.cell? ⟨b2,o2 + k,none⟩ = some (.slice y.1.1 y.1.2.1 y.1.2.2)) (go_keep)
     (first | (go_at_call 12; refine HQ2.out.mono ?_; rintro e w5 ⟨rfl,hb5⟩; obtain ⟨t0,t1⟩:=HFA.out _ hb5; have HB5:=hid (HB.out.trans (hb5.mono HB.out.size)); clear hb5))
    exact BP
  ·exact Hj
theorem CN (a1 a2 : Option Addr) (n1 n2 c1 c2 : Nat) (l1 l2 : List PgM) (w : World) (h1 : l1.length = n1) (h2 : l2.length = n2) (hne : n1 ≠ n2) :
  Calls Tryz.prog 23 #[.slice a1 n1 c1,.slice a2 n2 c2] w fun e w' => e = .returned (.bool (lE pgE l1 l2)) ∧ Below w.heap.size w w':=by
 have hb : ((n1 : Int) != n2) = true:=aI;have HV:=hid (pR (f:=pgE) (l1:=l1) (l2:=l2) ae)
 go_enter Tryz.func23,Tryz.ntmps23
 exact oQ
theorem zw (a1 a2 : Option Addr) (c1 c2 : Nat) (w : World) :
  Calls Tryz.prog 23 #[.slice a1 0 c1,.slice a2 0 c2] w fun e w' => e = .returned (.bool (lE pgE [] [])) ∧ Below w.heap.size w w':=by
 go_enter Tryz.func23,Tryz.ntmps23
 exact oN
theorem NF (a1 a2 : Option Addr) (n1 n2 c1 c2 : Nat) (l1 l2 : List PgM) (w : World) (h1 : SPg w a1 n1 l1) (h2 : SPg w a2 n2 l2) (hn : n1 ≤ 1099511627776) (hb1 : ∀ x ∈ l1,PB x) (hb2 : ∀ x ∈ l2,PB x) :
  Calls Tryz.prog 23 #[.slice a1 n1 c1,.slice a2 n2 c2] w fun e w' => e = .returned (.bool (lE pgE l1 l2)) ∧ Below w.heap.size w w':=by
 by_cases hne : n1 = n2
 ·subst hne
  by_cases h0 : n1 = 0
  ·subst h0;obtain rfl:=List.eq_nil_of_length_eq_zero h1.len;obtain rfl:=List.eq_nil_of_length_eq_zero h2.len;exact zw a1 a2 c1 c2 w
  obtain ⟨b1,o1,rfl,e1⟩:=h1.at_.resolve_left h0;obtain ⟨b2,o2,rfl,e2⟩:=h2.at_.resolve_left h0;exact IB b1 o1 b2 o2 n1 c1 c2 l1 l2 w h1.len h2.len hn e1 e2 h1.in_ h2.in_ hb1 hb2
 ·exact CN a1 a2 n1 n2 c1 c2 l1 l2 w h1.len h2.len hne
theorem Ig (b1 o1 b2 o2 n c1 c2 : Nat) (l1 l2 : List FrM) (w : World) (h1 : l1.length = n) (h2 : l2.length = n) (hn : n ≤ 1099511627776)
  (hc1 : ∀ (j : Nat) x,l1[j]? = some x → w.cell? ⟨b1,o1 + j * 4,none⟩ = some (.int .i64 x.1) ∧ w.cell? ⟨b1,o1 + j * 4 + 1,none⟩ = some (.int .i64 x.2.1) ∧ w.cell? ⟨b1,o1 + j * 4 + 2,none⟩ = some (.slice x.2.2.1.1.1 x.2.2.1.1.2.1 x.2.2.1.1.2.2) ∧ w.cell? ⟨b1,o1 + j * 4 + 3,none⟩ = some (.slice x.2.2.2.1.1 x.2.2.2.1.2.1 x.2.2.2.1.2.2)) (hc2 : ∀ (j : Nat) x,l2[j]? = some x → w.cell? ⟨b2,o2 + j * 4,none⟩ = some (.int .i64 x.1) ∧ w.cell? ⟨b2,o2 + j * 4 + 1,none⟩ = some (.int .i64 x.2.1) ∧ w.cell? ⟨b2,o2 + j * 4 + 2,none⟩ = some (.slice x.2.2.1.1.1 x.2.2.1.1.2.1 x.2.2.1.1.2.2) ∧ w.cell? ⟨b2,o2 + j * 4 + 3,none⟩ = some (.slice x.2.2.2.1.1 x.2.2.2.1.2.1 x.2.2.2.1.2.2))
  (hi1 : ∀ x ∈ l1,SF1 w x) (hi2 : ∀ x ∈ l2,SF1 w x) (hb1 : ∀ x ∈ l1,FB x) (hb2 : ∀ x ∈ l2,FB x) :
  Calls Tryz.prog 21 #[.slice (some ⟨b1,o1,none⟩) n c1,.slice (some ⟨b2,o2,none⟩) n c2] w fun e w' => e = .returned (.bool (lE frE l1 l2)) ∧ Below w.heap.size w w':=by
 have hne : ((n : Int) != n) = false:=au
 have hK : ∀ args w,(callFunc 55 args).run Tryz.prog w = .ok (.enter 55 args) w:=fun _ _ => rfl
 have C1:=hid hc1;have C2:=hid hc2;have I1:=hid hi1;have I2:=hid hi2;have D1:=hid hb1;have D2:=hid hb2;clear hc1 hc2 hi1 hi2 hb1 hb2
 go_enter Tryz.func21,Tryz.ntmps21
 go_wp2_with fail
 go_loopw [5] (fun i wr => ∃ k : Nat,k ≤ n ∧ i = .int .i64 k ∧ Hid (Below w.heap.size w wr) ∧ Hid (∀ (i : Nat) x y,i < k → l1[i]? = some x → l2[i]? = some y → frE x y = true)) (fun i _ => n - (intOf i).toNat)
 case atStart => exact ⟨0,ae,rfl,hid (Below.refl _ _),hid (fun i x y hi => ae)⟩
 case round =>
  obtain ⟨k,hk,rfl,HB,HE⟩:=hrel
  by_cases hlt : k < n
  ·obtain ⟨x,hx⟩ : ∃ x,l1[k]? = some x:=⟨_,ba ae⟩;obtain ⟨y,hy⟩ : ∃ y,l2[k]? = some y:=⟨_,ba ae⟩;have mx:=List.mem_of_getElem? hx;have my:=List.mem_of_getElem? hy
   have HFA:=hid (fun (W : World) (hW : Below wr.heap.size wr W) => (⟨ag (HB.out.trans (hW.mono HB.out.size)) (C1.out k x hx).1,ag (HB.out.trans (hW.mono HB.out.size)) (C1.out k x hx).2.1,ag (HB.out.trans (hW.mono HB.out.size)) (C1.out k x hx).2.2.1,ag (HB.out.trans (hW.mono HB.out.size)) (C1.out k x hx).2.2.2,ag (HB.out.trans (hW.mono HB.out.size)) (C2.out k y hy).1,ag (HB.out.trans (hW.mono HB.out.size)) (C2.out k y hy).2.1,ag (HB.out.trans (hW.mono HB.out.size)) (C2.out k y hy).2.2.1,ag (HB.out.trans (hW.mono HB.out.size)) (C2.out k y hy).2.2.2⟩ : W.cell? ⟨b1,o1 + k * 4,none⟩ = some (.int .i64 x.1) ∧ W.cell? ⟨b1,o1 + k * 4 + 1,none⟩ = some (.int .i64 x.2.1) ∧ W.cell? ⟨b1,o1 + k * 4 + 2,none⟩ = some (.slice x.2.2.1.1.1 x.2.2.1.1.2.1 x.2.2.1.1.2.2) ∧ W.cell? ⟨b1,o1 + k * 4 + 3,none⟩ = some (.slice x.2.2.2.1.1 x.2.2.2.1.2.1 x.2.2.2.1.2.2) ∧ W.cell? ⟨b2,o2 + k * 4,none⟩ = some (.int .i64 y.1) ∧ W.cell? ⟨b2,o2 + k * 4 + 1,none⟩ = some (.int .i64 y.2.1) ∧ W.cell? ⟨b2,o2 + k * 4 + 2,none⟩ = some (.slice y.2.2.1.1.1 y.2.2.1.1.2.1 y.2.2.1.1.2.2) ∧ W.cell? ⟨b2,o2 + k * 4 + 3,none⟩ = some (.slice y.2.2.2.1.1 y.2.2.2.1.2.1 y.2.2.2.1.2.2)))
   obtain ⟨v0,v1,v2,v3,v4,v5,v6,v7⟩:=HFA.out wr (Below.refl _ _);have hlt' : (k : Int) < (n : Int):=ae
   have kd : Below wr.heap.size wr wr.drew:=(Kept.drewN (fun _ => False) wr 1).to_below (Nat.le_refl _) (fun _ _ x => x)
   have hbd:=HB.out.trans (kd.mono HB.out.size);have HC:=hid (NG x y wr.drew ((I1.out x mx).later hbd) ((I2.out y my).later hbd) (D1.out x mx).1 (D1.out x mx).2);have HX:=hid hx;have HY:=hid hy;generalize hv : frE x y = v;have HV2:=hid hv
   have HQ2:=hid (HC.out.mono (fun e w' h => (⟨Fj,kd.trans (h.2.mono kd.size)⟩ : e = .returned (.bool v) ∧ Below wr.heap.size wr w')))
   clear hx hy mx my C1 C2 I1 I2 D1 D2 hv kd hbd HC
   cases v with
   | true =>
    go_wp2_with fail
    go_region_held3 (fun W => W.cell? ⟨b1,o1 + k * 4,none⟩ = some (.int .i64 x.1) ∧ W.cell? ⟨b1,o1 + k * 4 + 1,none⟩ = some (.int .i64 x.2.1) ∧ W.cell? ⟨b1,o1 + k * 4 + 2,none⟩ = some (.slice x.2.2.1.1.1 x.2.2.1.1.2.1 x.2.2.1.1.2.2) ∧ W.cell? ⟨b1,o1 + k * 4 + 3,none⟩ = some (.slice x.2.2.2.1.1 x.2.2.2.1.2.1 x.2.2.2.1.2.2) ∧ W.cell? ⟨b2,o2 + k * 4,none⟩ = some (.int .i64 y.1) ∧ W.cell? ⟨b2,o2 + k * 4 + 1,none⟩ = some (.int .i64 y.2.1) ∧ W.cell? ⟨b2,o2 + k * 4 + 2,none⟩ = some (.slice y.2.2.1.1.1 y.2.2.1.1.2.1 y.2.2.1.1.2.2) ∧ W.cell? ⟨b2,o2 + k * 4 + 3,none⟩ = some (.slice y.2.2.2.1.1 y.2.2.2.1.2.1 y.2.2.2.1.2.2)) (go_keep)
     (first | (go_at_call 55; refine HQ2.out.mono ?_; rintro e w5 ⟨rfl,hb5⟩; obtain ⟨t0,t1,t2,t3,t4,t5,t6,t7⟩:=HFA.out _ hb5; have HB5:=hid (HB.out.trans (hb5.mono HB.out.size)); clear hb5))
    exact FE
   | false =>
    go_wp2_with fail
    go_region_held3 (fun W => W.cell? ⟨b1,o1 + k * 4,none⟩ = some (.int .i64 x.1) ∧ W.cell? ⟨b1,o1 + k * 4 + 1,none⟩ = some (.int .i64 x.2.1) ∧ W.cell? ⟨b1,o1 + k * 4 + 2,none⟩ = some (.slice x.2.2.1.1.1 x.2.2.1.1.2.1 x.2.2.1.1.2.2) ∧ W.cell? ⟨b1,o1 + k * 4 + 3,none⟩ = some (.slice x.2.2.2.1.1 x.2.2.2.1.2.1 x.2.2.2.1.2.2) ∧ W.cell? ⟨b2,o2 + k * 4,none⟩ = some (.int .i64 y.1) ∧ W.cell? ⟨b2,o2 + k * 4 + 1,none⟩ = some (.int .i64 y.2.1) ∧ W.cell? ⟨b2,o2 + k * 4 + 2,none⟩ = some (.slice y.2.2.1.1.1 y.2.2.1.1.2.1 y.2.2.1.1.2.2) ∧ W.cell? ⟨b2,o2 + k * 4 + 3,none⟩ = some (.slice y.2.2.2.1.1 y.2.2.2.1.2.1 y.2.2.2.1.2.2)) (go_keep)
     (first | (go_at_call 55; refine HQ2.out.mono ?_; rintro e w5 ⟨rfl,hb5⟩; obtain ⟨t0,t1,t2,t3,t4,t5,t6,t7⟩:=HFA.out _ hb5; have HB5:=hid (HB.out.trans (hb5.mono HB.out.size)); clear hb5))
    exact BP
  ·exact Hj
theorem Dk (a1 a2 : Option Addr) (n1 n2 c1 c2 : Nat) (l1 l2 : List FrM) (w : World) (h1 : l1.length = n1) (h2 : l2.length = n2) (hne : n1 ≠ n2) :
  Calls Tryz.prog 21 #[.slice a1 n1 c1,.slice a2 n2 c2] w fun e w' => e = .returned (.bool (lE frE l1 l2)) ∧ Below w.heap.size w w':=by
 have hb : ((n1 : Int) != n2) = true:=aI;have HV:=hid (pR (f:=frE) (l1:=l1) (l2:=l2) ae)
 go_enter Tryz.func21,Tryz.ntmps21
 exact oQ
theorem xh (a1 a2 : Option Addr) (c1 c2 : Nat) (w : World) :
  Calls Tryz.prog 21 #[.slice a1 0 c1,.slice a2 0 c2] w fun e w' => e = .returned (.bool (lE frE [] [])) ∧ Below w.heap.size w w':=by
 go_enter Tryz.func21,Tryz.ntmps21
 exact oN
theorem MW (a1 a2 : Option Addr) (n1 n2 c1 c2 : Nat) (l1 l2 : List FrM) (w : World) (h1 : SFr w a1 n1 l1) (h2 : SFr w a2 n2 l2) (hn : n1 ≤ 1099511627776) (hb1 : ∀ x ∈ l1,FB x) (hb2 : ∀ x ∈ l2,FB x) :
  Calls Tryz.prog 21 #[.slice a1 n1 c1,.slice a2 n2 c2] w fun e w' => e = .returned (.bool (lE frE l1 l2)) ∧ Below w.heap.size w w':=by
 by_cases hne : n1 = n2
 ·subst hne
  by_cases h0 : n1 = 0
  ·subst h0;obtain rfl:=List.eq_nil_of_length_eq_zero h1.len;obtain rfl:=List.eq_nil_of_length_eq_zero h2.len;exact xh a1 a2 c1 c2 w
  obtain ⟨b1,o1,rfl,e1⟩:=h1.at_.resolve_left h0;obtain ⟨b2,o2,rfl,e2⟩:=h2.at_.resolve_left h0;exact Ig b1 o1 b2 o2 n1 c1 c2 l1 l2 w h1.len h2.len hn e1 e2 h1.in_ h2.in_ hb1 hb2
 ·exact Dk a1 a2 n1 n2 c1 c2 l1 l2 w h1.len h2.len hne
structure SB (s : StM) : Prop where
 fb : ∀ x ∈ s.fs,FB x
 pb : ∀ x ∈ s.ps,PB x
 f : s.fn ≤ 1099511627776
 g : s.gn ≤ 1099511627776
 p : s.pn ≤ 1099511627776
 r : s.rn ≤ 1099511627776
def stE (s t : StM) : Bool:=iE s.rep t.rep && (iE s.en t.en && (iE s.tr t.tr && (iE s.us t.us && (lE frE s.fs t.fs && (lE iE s.gs t.gs && (lE pgE s.ps t.ps && lE iE s.rs t.rs))))))
theorem BM (s t : StM) : stE s t = (iE s.rep t.rep && (iE s.en t.en && (iE s.tr t.tr && (iE s.us t.us && (lE frE s.fs t.fs && (lE iE s.gs t.gs && (lE pgE s.ps t.ps && lE iE s.rs t.rs))))))):=rfl
theorem ND (s t : StM) (w : World) (h1 : SSt w s) (h2 : SSt w t) (b1 : SB s) (b2 : SB t) :
  Calls Tryz.prog 10 #[.agg (bW s),.agg (bW t)] w fun e w' => e = .returned (.bool (stE s t)) ∧ Below w.heap.size w w':=by
 have H0:=hid (fun (W : World) (hb : Below w.heap.size w W) => MW s.fa t.fa s.fn t.fn s.fc t.fc s.fs t.fs W (h1.fr.later hb) (h2.fr.later hb) b1.f b1.fb b2.fb)
 have H1:=hid (fun (W : World) (hb : Below w.heap.size w W) => Ax s.ga t.ga s.gn t.gn s.gc t.gc s.gs t.gs W (h1.gl.later hb) (h2.gl.later hb) b1.g)
 have H2:=hid (fun (W : World) (hb : Below w.heap.size w W) => NF s.pa t.pa s.pn t.pn s.pc t.pc s.ps t.ps W (h1.pg.later hb) (h2.pg.later hb) b1.p b1.pb b2.pb)
 have H3:=hid (fun (W : World) (hb : Below w.heap.size w W) => Ax s.ra t.ra s.rn t.rn s.rc t.rc s.rs t.rs W (h1.rs.later hb) (h2.rs.later hb) b1.r)
 have hv:=BM s t;clear h1 h2 b1 b2;generalize stE s t = V at *;generalize lE frE s.fs t.fs = A0 at *;generalize lE iE s.gs t.gs = A1 at *;generalize lE pgE s.ps t.ps = A2 at *;generalize lE iE s.rs t.rs = A3 at *;have HV:=hid hv;clear hv;have B1:=aj w (.cells (bW s) 35);have B2:=aj (w.alloc (.cells (bW s) 35)) (.cells (bW t) 35);have B0:=hid (B1.trans (B2.mono B1.size));have k1:=bc B2 (bZ w (.cells (bW s) 35));have k2 : ((w.alloc (.cells (bW s) 35)).alloc (.cells (bW t) 35)).heap[w.heap.size + 1]? = some (.cells (bW t) 35):=gZ au
 have HC:=hid (fun (W : World) (hb : Below ((w.alloc (.cells (bW s) 35)).alloc (.cells (bW t) 35)).heap.size ((w.alloc (.cells (bW s) 35)).alloc (.cells (bW t) 35)) W) =>
  (⟨ag hb (ai k1),ag hb (ai k1),ag hb (ai k1),ag hb (ai k1),ag hb (ai k1),ag hb (ai k1),ag hb (ai k1),ag hb (ai k1),ag hb (ai k2),ag hb (ai k2),ag hb (ai k2),ag hb (ai k2),ag hb (ai k2),ag hb (ai k2),ag hb (ai k2),ag hb (ai k2)⟩ :
   W.cell? ⟨w.heap.size,0,none⟩ = some (.slice s.fa s.fn s.fc) ∧ W.cell? ⟨w.heap.size,1,none⟩ = some (.slice s.ga s.gn s.gc) ∧ W.cell? ⟨w.heap.size,2,none⟩ = some (.slice s.pa s.pn s.pc) ∧ W.cell? ⟨w.heap.size,3,none⟩ = some (.int .i64 s.rep) ∧ W.cell? ⟨w.heap.size,4,none⟩ = some (.int .i8 s.en) ∧ W.cell? ⟨w.heap.size,5,none⟩ = some (.slice s.ra s.rn s.rc) ∧ W.cell? ⟨w.heap.size,6,none⟩ = some (.int .i8 s.tr) ∧ W.cell? ⟨w.heap.size,7,none⟩ = some (.int .i64 s.us) ∧ W.cell? ⟨w.heap.size + 1,0,none⟩ = some (.slice t.fa t.fn t.fc) ∧ W.cell? ⟨w.heap.size + 1,1,none⟩ = some (.slice t.ga t.gn t.gc) ∧ W.cell? ⟨w.heap.size + 1,2,none⟩ = some (.slice t.pa t.pn t.pc) ∧ W.cell? ⟨w.heap.size + 1,3,none⟩ = some (.int .i64 t.rep) ∧ W.cell? ⟨w.heap.size + 1,4,none⟩ = some (.int .i8 t.en) ∧ W.cell? ⟨w.heap.size + 1,5,none⟩ = some (.slice t.ra t.rn t.rc) ∧ W.cell? ⟨w.heap.size + 1,6,none⟩ = some (.int .i8 t.tr) ∧ W.cell? ⟨w.heap.size + 1,7,none⟩ = some (.int .i64 t.us)))
 obtain ⟨c0,c1,c2,c3,c4,c5,c6,c7,c8,c9,c10,c11,c12,c13,c14,c15⟩:=HC.out _ (Below.refl _ _);clear B1 B2 k1 k2;obtain ⟨fa,fn,fc,fs,ga,gn,gc,gs,pa,pn,pc,ps,rep,en,ra,rn,rc,rs,tr,us⟩:=s;obtain ⟨fa',fn',fc',fs',ga',gn',gc',gs',pa',pn',pc',ps',rep',en',ra',rn',rc',rs',tr',us'⟩:=t;dsimp only at *
 by_cases e0 : rep = rep'
 ·subst e0;have f0 : (rep == rep) = true:=au
  by_cases e1 : en = en'
  ·subst e1;have f1 : (en == en) = true:=au
   by_cases e2 : tr = tr'
   ·subst e2;have f2 : (tr == tr) = true:=au
    by_cases e3 : us = us'
    ·subst e3;have f3 : (us == us) = true:=au
     go_enter Tryz.func10,Tryz.ntmps10
     go_wp2_with fail;refine (H0.out _ B0.out).mono ?_;rintro e w5 ⟨rfl,hb⟩;have B5:=hid (B0.out.trans (hb.mono B0.out.size));have hbb:=hid hb;obtain ⟨x0_0,x0_1,x0_2,x0_3,x0_4,x0_5,x0_6,x0_7,x0_8,x0_9,x0_10,x0_11,x0_12,x0_13,x0_14,x0_15⟩:=HC.out w5 hbb.out;clear hb
     cases A0 with
     | false =>
      go_wp2_with fail;go_ret;exact ⟨mJ,B5.out⟩
     | true =>
      go_wp2_with fail;refine (H1.out _ B5.out).mono ?_;rintro e w6 ⟨rfl,hb⟩;have B6:=hid (B5.out.trans (hb.mono B5.out.size));have hbb:=hid (hbb.out.trans (hb.mono hbb.out.size));obtain ⟨x1_0,x1_1,x1_2,x1_3,x1_4,x1_5,x1_6,x1_7,x1_8,x1_9,x1_10,x1_11,x1_12,x1_13,x1_14,x1_15⟩:=HC.out w6 hbb.out;clear hb
      cases A1 with
      | false =>
       exact rU
      | true =>
       go_wp2_with fail;refine (H2.out _ B6.out).mono ?_;rintro e w7 ⟨rfl,hb⟩;have B7:=hid (B6.out.trans (hb.mono B6.out.size));have hbb:=hid (hbb.out.trans (hb.mono hbb.out.size));obtain ⟨x2_0,x2_1,x2_2,x2_3,x2_4,x2_5,x2_6,x2_7,x2_8,x2_9,x2_10,x2_11,x2_12,x2_13,x2_14,x2_15⟩:=HC.out w7 hbb.out;clear hb
       cases A2 with
       | false =>
        go_wp2_with fail;go_ret;exact ⟨mJ,B7.out⟩
       | true =>
        go_wp2_with fail;refine (H3.out _ B7.out).mono ?_;rintro e w8 ⟨rfl,hb⟩;have B8:=hid (B7.out.trans (hb.mono B7.out.size));clear hb
        cases A3 with
        | false =>
         go_wp2_with fail;go_ret;exact ⟨mJ,B8.out⟩
        | true =>
         go_wp2_with fail;go_ret;exact ⟨mJ,B8.out⟩
    ·have f3 : (us == us') = false:=by simp [e3]
     go_enter Tryz.func10,Tryz.ntmps10
     go_wp2_with fail;go_ret
     exact ⟨by rw [HV.out]; simp [iE,e3],B0.out⟩
   ·have f2 : (tr == tr') = false:=by simp [e2]
    go_enter Tryz.func10,Tryz.ntmps10
    go_wp2_with fail;go_ret
    exact ⟨by rw [HV.out]; simp [iE,e2],B0.out⟩
  ·have f1 : (en == en') = false:=by simp [e1]
   go_enter Tryz.func10,Tryz.ntmps10
   go_wp2_with fail;go_ret
   exact ⟨by rw [HV.out]; simp [iE,e1],B0.out⟩
 ·have f0 : (rep == rep') = false:=by simp [e0]
  go_enter Tryz.func10,Tryz.ntmps10
  go_wp2_with fail;go_ret
  exact ⟨by rw [HV.out]; simp [iE,e0],B0.out⟩
def Fl (w : World) (a : Option Addr) (n : Nat) (fl : List Value) : Prop:=n = 0 ∨ ∃ b off,a = some ⟨b,off,none⟩ ∧ ∀ (j : Nat) y,fl[j]? = some y → w.cell? ⟨b,off + j,none⟩ = some y
theorem Fl.later {w w' : World} {a : Option Addr} {n : Nat} {fl : List Value} (h : Fl w a n fl) (hb : Below w.heap.size w w') : Fl w' a n fl:=by
 rcases h with h | ⟨b,off,e,h⟩
 ·exact .inl h
 ·exact .inr ⟨b,off,e,fun j y hj => ag hb (h j y hj)⟩
theorem yc {α β : Type} (g : α → List β) (k : Nat) (hk : ∀ x,(g x).length = k) : ∀ (l : List α) (i q : Nat),q < k → (l.flatMap g)[i * k + q]? = (l[i]?).bind fun x => (g x)[q]?
 | [],i,q,_ => by simp
 | x :: l,0,q,hq => by
  rw [List.flatMap_cons,List.getElem?_append_left (by rw [hk]; omega)]
  simp
 | x :: l,i + 1,q,hq => by
  have ih:=yc g k hk l i q hq
  rw [List.flatMap_cons,List.getElem?_append_right (by rw [hk,Nat.succ_mul]; omega),hk]
  rw [show (i + 1) * k + q - k = i * k + q by rw [Nat.succ_mul]; omega,ih]
  simp
theorem gM {S : Nat → Prop} {w w' : World} {base e k n : Nat} {v : Value} {xs : List Value} (h : w.ownsRow base e k v n xs) (hk : Kept S w w') (hs : ∀ b,v.ownBlock = some b → ¬ S b) : w'.ownsRow base e k v n xs:=by
 refine ⟨h.1,?_⟩
 rcases h.2 with h0 | ⟨g,cp,cur,rfl,h2,h3,h4⟩
 ·exact .inl h0
 ·exact .inr ⟨g,cp,cur,rfl,h2,(hk.block g (fq h3) (hs g rfl)).trans h3,h4⟩
theorem Jg {w : World} {base base' e k n : Nat} {v : Value} {xs : List Value} (h : w.ownsRow base e k v n xs) (hb : base' ≤ base) : w.ownsRow base' e k v n xs:=by
 exact GZ
theorem Cu {w : World} {base e k n b : Nat} {v : Value} {xs : List Value} (h : w.ownsRow base e k v n xs) (hb : v.ownBlock = some b) : base ≤ b ∧ b < w.heap.size ∧ ∃ cur,w.heap[b]? = some (.cells cur e):=by
 rcases h.2 with ⟨h0,_⟩ | ⟨g,cp,cur,rfl,h2,h3,h4⟩
 ·rw [h0] at hb; cases hb
 ·obtain rfl : g = b:=ql;exact ⟨h2,fq h3,cur,h3⟩
theorem Ms {w : World} {base e k n : Nat} {v : Value} {xs : List Value} (h : w.ownsRow base e k v n xs) : ∃ a c,v = .slice a n c:=by
 rcases h.2 with ⟨h0,h1⟩ | ⟨g,cp,cur,h1,_⟩
 ·exact ⟨none,0,by rw [h0,h1]⟩
 ·exact ⟨_,_,h1⟩
theorem Tryz.inf41 : (Tryz.prog.info? 5).map (fun i => (i.zero,i.size,i.bytes)) = some (some (.int .u8 0),1,1):=ak
theorem CH (w : World) {ops : Array Oper} {rest : List Oper} {o : Oper} {a : Act} {Q : Exit → Act → World → Prop} (hgd : o.guard = none)
  (s x : Operand) (ho : o.op = Op.call { callee:=Callee.builtin Builtin.append,args:=#[s,x],argTypes:=#[42,42] })
  (c : Nat) (hs : a.eval s = .slice none 0 0) (hx : a.eval x = .slice none 0 c) (h : wpList Tryz.prog ops Q rest (a.put o.dst (.slice none 0 0)) w) : wpList Tryz.prog ops Q (o :: rest) a w:=by
 obtain ⟨i0,hi,_⟩:=info_parts Tryz.inf41
 refine wpList_plain hgd fun K hK => ?_
 unfold Oper.wp
 simp [execOp,ho,resolve,invoke,builtin,hs,hx,Builtin.append_,run_underlying Tryz.underlying42,sizeOf,typeInfo,hi,Builtin.lenOf,Builtin.firstCells,Result.andThen]
 exact hK _ _ h
theorem LA (a : Option Addr) (n c : Nat) (fl : List Value) (w : World) (h : Fl w a n fl) (hl : fl.length = n * 1) (h1 : ∀ u ∈ fl,u.oneCell' = true) (hn : n ≤ 2147483647) :
  Calls Tryz.prog 11 #[.slice a n c] w fun e w' => ∃ va vc,e = .returned (.slice va n vc) ∧ w'.ownsRow w.heap.size 5 1 (.slice va n vc) n fl ∧ Below w.heap.size w w':=by
 by_cases ha : a = none
 ·subst ha
  have hn0 : n = 0:=by
   rcases h with h | ⟨b,off,e,_⟩
   ·exact h
   ·cases e
  subst hn0;have hl0 : fl = []:=List.eq_nil_of_length_eq_zero ae;subst hl0;clear h hl
  go_enter Tryz.func11,Tryz.ntmps11
  go_wp2_with (first | (at_builtin; refine CH _ rfl (.tmp 4) (.tmp 5) rfl c rfl rfl ?_))
  go_ret;exact ⟨none,0,rfl,World.ownsRow_nil _ _ _ _,Below.refl _ _⟩
 ·obtain ⟨ad,rfl⟩:=Option.ne_none_iff_exists'.1 ha
  have hu : ∀ (j : Nat) (y : Value),fl[j]? = some y → w.cell? (ad.add j) = some y:=fun j y hj => by
   have hj':=az hj
   rcases h with h | ⟨b,off,e,hcell⟩
   ·omega
   ·have e:=Option.some.inj e;subst e;have hplain : (⟨b,off,none⟩ : Addr).add j = ⟨b,off + j,none⟩:=dJ;rw [hplain];exact hcell j y hj
  have HU:=hid hu;have H1:=hid h1;obtain ⟨i0,hi,hz0,hz1,hz2⟩:=info_parts Tryz.inf41;clear hu h ha h1
  go_enter Tryz.func11,Tryz.ntmps11
  go_wp2_with (first | (at_builtin; refine wpList_append_own _ rfl (.tmp 4) (.tmp 5) 42 rfl w.heap.size 5 i0 _ 1 1 Tryz.underlying42 hi hz0 hz1 hz2 rfl ax _ 0 [] rfl (World.ownsRow_nil _ _ _ _) ad n c fl rfl hl HU.out H1.out cH ae (Nat.le_refl _) ?_; intro v' w' hown hg _; have HO:=hid hown; have HB:=hid ((Kept.of_grown hg).to_below (Nat.le_refl w.heap.size) (fun k hk e => kX)); clear hown hg))
  obtain ⟨va,vc,hv,_⟩ : ∃ va vc,v' = .slice va n vc ∧ True:=by
   rcases HO.out.2 with ⟨h0,h1⟩ | ⟨g,cp,cur,h1,_⟩
   ·exact ⟨none,0,by rw [h0]; congr 1; omega,trivial⟩
   ·exact ⟨_,_,by rw [h1]; congr 1; omega,trivial⟩
  subst hv;go_ret
  exact ⟨va,vc,rfl,by simpa using HO.out,HB.out⟩
structure SC (s : StM) : Prop where
 f : s.fn ≤ 2147483647
 g : s.gn ≤ 2147483647
 p : s.pn ≤ 2147483647
 r : s.rn ≤ 2147483647
 fb : ∀ x ∈ s.fs,x.2.2.1.1.2.1 ≤ 2147483647 ∧ x.2.2.2.1.2.1 ≤ 2147483647
 pb : ∀ x ∈ s.ps,x.1.2.1 ≤ 2147483647
structure SM (s : StM) : Prop where
 f : s.fn ≤ 140737488355328
 g : s.gn ≤ 140737488355328
 p : s.pn ≤ 140737488355328
 r : s.rn ≤ 140737488355328
 fb : ∀ x ∈ s.fs,x.2.2.1.1.2.1 ≤ 140737488355328 ∧ x.2.2.2.1.2.1 ≤ 140737488355328
 pb : ∀ x ∈ s.ps,x.1.2.1 ≤ 140737488355328
def PgS (l : List PgM) : Prop:=∀ x ∈ l,x.1.2.1 ≤ 2147483647
theorem NZ (a : Option Addr) (n c : Nat) (l : List PgM) (w : World) (h : SPg w a n l) (hn : n ≤ 140737488355328) (hb : ∀ x ∈ l,x.1.2.1 ≤ 140737488355328) :
  Calls Tryz.prog 13 #[.slice a n c] w fun e w' => ∃ z : Nat,e = .returned (.int .i64 z) ∧ n ≤ z ∧ z ≤ 562949953421312 ∧ (z ≤ 2147483647 → PgS l) ∧ w' = w:=by
 have hl:=h.len;have HA:=hid h.at_;have HB:=hid hb;clear h hb
 go_enter Tryz.func13,Tryz.ntmps13
 go_wp2_with fail
 go_loopw [3,4] (fun m i wr => ∃ k z : Nat,k ≤ n ∧ i = .int .i64 k ∧ m = .int .i64 z ∧ wr = w ∧ n ≤ z ∧ z ≤ 562949953421312 ∧ Hid (∀ (j : Nat) x,j < k → l[j]? = some x → x.1.2.1 ≤ z)) (fun _ i _ => n - (intOf i).toNat)
 case atStart => exact ⟨0,n,ae,rfl,rfl,rfl,ae,ae,hid (fun j x hj => ae)⟩
 case round =>
  obtain ⟨k,z,hk,rfl,rfl,rfl,hz1,hz2,HZ⟩:=hrel
  by_cases hlt : k < n
  ·have hlt' : (k : Int) < (n : Int):=ae
   by_cases hbd : z ≤ 2147483647
   ·obtain ⟨x,hx⟩ : ∃ x,l[k]? = some x:=⟨_,ba ae⟩;obtain ⟨b,off,rfl,hat⟩:=HA.out.resolve_left ae;have e0:=hat k x hx;have hxb:=HB.out x (List.mem_of_getElem? hx);have hbd' : (z : Int) ≤ 2147483647:=ae;have hw : wrap64 ((z : Int) + (x.1.2.1 : Int)) = ((z + x.1.2.1 : Nat) : Int):=gp;have HX:=hid hx;clear hat hx HA HB;go_wp2_with fail
    exact ⟨⟨k + 1,z + x.1.2.1,ae,bU,bU,by first | rfl | trivial,ae,ae,hid (fun j y hj hy => by
     by_cases hjk : j < k
     ·have:=HZ.out j y hjk hy; omega
     ·obtain rfl : j = k:=ae;rw [HX.out] at hy
      injection hy with hy
      subst hy
      omega)⟩,cC⟩
   ·have hbd' : ¬ (z : Int) ≤ 2147483647:=ae;clear HA HB;go_wp2_with fail;go_ret
    exact ⟨z,rfl,hz1,hz2,(fun h => absurd h hbd),rfl⟩
  ·have hlt' : ¬ (k : Int) < (n : Int):=ae;clear HA HB;go_wp2_with fail;go_ret
   exact ⟨z,rfl,hz1,hz2,(fun h x hx => by
    obtain ⟨j,hj⟩:=List.getElem?_of_mem hx;have h1:=HZ.out j x sK hj
    omega),rfl⟩
theorem Nl (s : StM) (w : World) (h : SSt w s) (hs : SM s) :
  Calls Tryz.prog 5 #[.agg (bW s)] w fun e w' => ∃ z : Nat,e = .returned (.int .i64 z) ∧ (z ≤ 2147483647 → SC s) ∧ Below w.heap.size w w':=by
 have HF:=hid h.fr.at_;have HM:=hid hs;have hfl:=h.fr.len;have hf:=hs.f;have hg:=hs.g;have hr:=hs.r;have B0:=aj w (.cells (bW s) 35);have kb:=bZ w (.cells (bW s) 35);have HP:=hid (NZ s.pa s.pn s.pc s.ps (w.alloc (.cells (bW s) 35)).drew (h.pg.later (B0.trans ((below_drewN _ 1).mono B0.size))) hs.p hs.pb);have KB:=hid kb;have HB0:=hid B0;have g0 : (w.alloc (.cells (bW s) 35)).cell? ⟨w.heap.size,0,none⟩ = some (.slice s.fa s.fn s.fc):=ai kb;have g1 : (w.alloc (.cells (bW s) 35)).cell? ⟨w.heap.size,1,none⟩ = some (.slice s.ga s.gn s.gc):=ai kb;have g2 : (w.alloc (.cells (bW s) 35)).cell? ⟨w.heap.size,2,none⟩ = some (.slice s.pa s.pn s.pc):=ai kb;have g5 : (w.alloc (.cells (bW s) 35)).cell? ⟨w.heap.size,5,none⟩ = some (.slice s.ra s.rn s.rc):=ai kb;clear h hs B0 kb
 go_enter Tryz.func5,Tryz.ntmps5
 go_wp2_with fail;generalize w.alloc (.cells (bW s) 35) = W0 at *
 go_region_held3 (fun W => W.cell? ⟨w.heap.size,0,none⟩ = some (.slice s.fa s.fn s.fc) ∧ W.cell? ⟨w.heap.size,1,none⟩ = some (.slice s.ga s.gn s.gc) ∧ W.cell? ⟨w.heap.size,2,none⟩ = some (.slice s.pa s.pn s.pc) ∧ W.cell? ⟨w.heap.size,5,none⟩ = some (.slice s.ra s.rn s.rc)) (go_keep)
  (first | (go_at_call 13; refine HP.out.mono ?_; rintro e w5 ⟨zp,rfl,hz1,hz2,hz3,hw5⟩; have HZP:=hid (And.intro hz1 hz3); subst hw5; clear hz3))
 have hz1:=HZP.out.1;have HBD:=hid (show Below w.heap.size w W0.drew from HB0.out.trans ((below_drewN W0 1).mono HB0.out.size))
 have hv : IntKind.i64.wrap (IntKind.i64.wrap (IntKind.i64.wrap ((s.fn : Int) + (s.gn : Int)) + (s.rn : Int)) + (zp : Int)) = ((s.fn + s.gn + s.rn + zp : Nat) : Int):=by
  rw [i64_in ((s.fn : Int) + (s.gn : Int)) ae,i64_in ((s.fn : Int) + (s.gn : Int) + (s.rn : Int)) ae,i64_in _ ae]
  all_goals omega
 have HV:=hid hv;clear hv;have KBD:=hid (show W0.drew.heap[w.heap.size]? = some (.cells (bW s) 35) from KB.out);clear g0 g1 g2 g5;generalize W0.drew = W1 at *;have g0 : W1.cell? ⟨w.heap.size,0,none⟩ = some (.slice s.fa s.fn s.fc):=ai KBD.out;go_wp2_with fail
 go_loopw [3,4] (fun m i wr => ∃ k z q : Nat,k ≤ s.fn ∧ i = .int .i64 k ∧ m = .int .i64 z ∧ wr = W1.drewN q ∧ s.fn + s.gn + s.rn + zp ≤ z ∧ z ≤ 2251799813685248 ∧ Hid (∀ (j : Nat) x,j < k → s.fs[j]? = some x → x.2.2.1.1.2.1 ≤ z ∧ x.2.2.2.1.2.1 ≤ z)) (fun _ i _ => s.fn - (intOf i).toNat)
 case atStart => exact ⟨0,s.fn + s.gn + s.rn + zp,0,ae,rfl,congrArg (Value.int .i64) HV.out,rfl,ae,ae,hid (fun j x hj => ae)⟩
 case round =>
  obtain ⟨k,z,q,hk,rfl,rfl,rfl,hz1,hz4,HZ⟩:=hrel
  have HE:=hid (fun (hb : z ≤ 2147483647) (he : ∀ (j : Nat) x,s.fs[j]? = some x → x.2.2.1.1.2.1 ≤ z ∧ x.2.2.2.1.2.1 ≤ z) => (show SC s from ⟨ae,ae,by have:=HZP.out.1; omega,ae,fun x hx => by
   obtain ⟨j,hj⟩:=List.getElem?_of_mem hx
   have:=he j x hj
   omega,HZP.out.2 ae⟩))
  have HBQ:=hid (HBD.out.trans ((below_drewN W1 q).mono HBD.out.size))
  by_cases hlt : k < s.fn
  ·have hlt' : (k : Int) < (s.fn : Int):=ae
   by_cases hbd : z ≤ 2147483647
   ·obtain ⟨x,hx⟩ : ∃ x,s.fs[k]? = some x:=⟨_,ba ae⟩;obtain ⟨b,off,hfa,hat⟩:=HF.out.resolve_left ae;obtain ⟨_,_,e2,e3⟩:=hat k x hx;have e2:=ag HBD.out e2;have e3:=ag HBD.out e3;have hxb:=HM.out.fb x (List.mem_of_getElem? hx);have hbd' : (z : Int) ≤ 2147483647:=ae;obtain ⟨x1,x2⟩:=hxb;have HX:=hid hx;have hx1 : x.2.2.1.1.2.1 = x.2.2.1.1.2.1 ∧ x.2.2.2.1.2.1 = x.2.2.2.1.2.1:=⟨rfl,rfl⟩;obtain ⟨n1,hn1⟩ : ∃ n,x.2.2.1.1.2.1 = n:=⟨_,rfl⟩;obtain ⟨n2,hn2⟩ : ∃ n,x.2.2.2.1.2.1 = n:=⟨_,rfl⟩;rw [hn1] at e2 x1;rw [hn2] at e3 x2;have HN:=hid (And.intro hn1 hn2);clear hx1 hn1 hn2;rw [hfa] at g0;clear hat hx HF HM HP HZP HB0 KB HE HBD KBD HBQ HV;go_wp2_with fail
    go_quiet (fail)
    go_wp2_with fail
    exact ⟨⟨k + 1,z + n1 + n2,_,ae,bU,bU,rfl,ae,ae,hid (fun j y hj hy => by
     by_cases hjk : j < k
     ·have:=HZ.out j y hjk hy; omega
     ·obtain rfl : j = k:=ae;rw [HX.out] at hy
      injection hy with hy
      subst hy;rw [HN.out.1,HN.out.2]
      omega)⟩,cC⟩
   ·have hbd' : ¬ (z : Int) ≤ 2147483647:=ae;clear HF HM HP HZP HB0 KB HE HBD KBD HV;go_wp2_with fail;go_ret
    exact ⟨z,rfl,(fun h => absurd h hbd),HBQ.out⟩
  ·have hlt' : ¬ (k : Int) < (s.fn : Int):=ae;clear HF HM HP HZP HB0 KB HBD KBD HV;go_wp2_with fail;go_ret
   exact ⟨z,rfl,(fun h => HE.out h (fun j x hj => HZ.out j x sK hj)),HBQ.out⟩
end Go.Proofs.YtkdldbfbldkkcaaGreatDoor

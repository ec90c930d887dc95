/-
  Texts Vee Ya Yd Zb Ra.
-/
import Derived.Deep.AppendSrc
import Derived.Test.YtepnnenohjfkbaaGreatDoorP00
import Derived.Test.YtepnnenohjfkbaaGreatDoorP01
import Derived.Test.YtepnnenohjfkbaaGreatDoorP15
import Derived.Test.YtepnnenohjfkbaaGreatDoorP16
import Derived.Test.YtepnnenohjfkbaaGreatDoorP20
set_option linter.unusedVariables false
set_option maxRecDepth 100000
set_option maxHeartbeats 16000000
namespace Go.Proofs.YtepnnenohjfkbaaGreatDoor
open Go.RowKit
theorem dW {α : Type} {f : List α → α → Int} {most : Int} {xs : List α} (h : bq f most xs = 0) : (xs.length : Int) ≤ most ∧ ∀ (j : Nat) x,xs[j]? = some x → f (xs.take j) x = 0:=by
 unfold bq at h
 split at h
 ·cases h
 ·rename_i hl
  refine ⟨ae,fun j x hj => ?_⟩
  have:=bp f xs [] h j x hj
  exact bY
theorem pQ {m : MM} (h : cB m = 0) : e1 m = 0 ∧ e2 m = 0 ∧ e3 m = 0 ∧ e6 m = 0:=by
 obtain ⟨h,_⟩:=cf h;obtain ⟨h1,h⟩:=cf h;obtain ⟨h2,h⟩:=cf h;obtain ⟨h3,h⟩:=cf h;obtain ⟨_,h⟩:=cf h;obtain ⟨_,h⟩:=cf h;exact ⟨h1,h2,h3,(cf h).1⟩
theorem j6 {ah : List Sg} {x : Sg} (h : bW ah x = 0) : x.1.size ≤ 8 ∧ lett x.1 8 = true ∧ x.2.size ≤ 8 ∧ lett x.2 8 = true:=by
 unfold bW at h
 by_cases a1 : 8 < x.1.size
 ·rw [if_pos a1] at h; cases h
 rw [if_neg a1] at h
 by_cases a2 : lett x.1 8 = false
 ·rw [if_pos a2] at h; cases h
 rw [if_neg a2] at h
 by_cases a3 : 8 < x.2.size
 ·rw [if_pos a3] at h; cases h
 rw [if_neg a3] at h
 by_cases a4 : lett x.2 8 = false
 ·rw [if_pos a4] at h; cases h
 exact ⟨ae,by simpa using a2,ae,by simpa using a4⟩
theorem kC {sg : List Sg} {left ty : Int} {lo : ByteArray} {xs : List InM} (h : eW sg left ty lo xs = 0) : 0 ≤ ty ∧ ty < sg.length ∧ lo.size + (jY sg ty).size ≤ 64 ∧ lett lo 64 = true ∧ xs.length ≤ 2048 ∧ ∀ (j : Nat) x,xs[j]? = some x → cA x = 0:=by
 unfold eW at h
 by_cases a1 : ty < 0 ∨ (sg.length : Int) ≤ ty
 ·rw [if_pos a1] at h; cases h
 rw [if_neg a1] at h
 by_cases a2 : 64 < lo.size + (jY sg ty).size
 ·rw [if_pos a2] at h; cases h
 rw [if_neg a2] at h
 by_cases a3 : lett lo 64 = false
 ·rw [if_pos a3] at h; cases h
 rw [if_neg a3] at h
 by_cases a4 : min 2048 left < (xs.length : Int)
 ·rw [if_pos a4] at h; cases h
 rw [if_neg a4] at h
 exact ⟨ae,ae,ae,by simpa using a3,ae,fun j x hj => by simpa using bp _ xs [] h j x hj⟩
theorem I4 {t : Int} {g : Bool} {a : Int} {l : List Int} (h : chk t g a l = 0) : lo t g ≤ a ∧ a ≤ hi t g ∧ l.length ≤ 16 ∧ (t = 3 → 0 < l.length):=by
 unfold chk at h
 by_cases a1 : t = -1
 ·rw [if_pos a1] at h; cases h
 rw [if_neg a1] at h
 by_cases a2 : a < lo t g ∨ hi t g < a
 ·rw [if_pos a2] at h; cases h
 rw [if_neg a2] at h
 by_cases a3 : t = 3
 ·rw [if_pos a3] at h
  by_cases a4 : l.length < 1 ∨ 16 < l.length
  ·rw [if_pos a4] at h; cases h
  ·exact ⟨ae,ae,ae,fun _ => ae⟩
 ·rw [if_neg a3] at h
  by_cases a4 : l.length = 0
  ·exact ⟨ae,ae,ae,fun e => absurd e a3⟩
  ·rw [if_neg a4] at h; cases h
theorem tk9 : tkV 9 = 3:=aw
theorem Hs {w : World} {R g : Nat} {m : MM} (h0 : cB m = 0) (hm : MOk w R g m) (hk : aW w) (hp : 0 < w.heap.size) : EvW w m:=by
 obtain ⟨h1,h2,h3,h6⟩:=pQ h0;obtain ⟨l1,a1⟩:=dW h1;obtain ⟨l2,a2⟩:=dW h2;obtain ⟨l3,a3⟩:=dW h3;obtain ⟨l6,a6⟩:=dW h6;have n1:=hm.pt.1;have n2:=hm.ph.1;have n3:=hm.pg.1;have n6:=hm.pf.1
 refine ⟨hm.pt,fun b off c e => (hm.tf b off c e).2.2,ae,hm.ph,fun b off c e => (hm.hf b off c e).2.2,ae,hm.pg,fun b off c e => (hm.gf b off c e).2.2,ae,hm.pf,fun b off c e => (hm.ff b off c e).2.2,ae,?_,?_,?_,?_,hk,hp⟩
 ·intro x hx;obtain ⟨j,hj⟩:=List.mem_iff_getElem?.1 hx;have h:=a3 j x hj;unfold dJ at h
  by_cases b1 : isL x.1 = false
  ·rw [if_pos b1] at h; cases h
  ·have b2 : isL x.1 = true:=by simpa using b1
   simp only [isL,Bool.or_eq_true,decide_eq_true_eq] at b2
   exact b2
 ·intro x hx;obtain ⟨j,hj⟩:=List.mem_iff_getElem?.1 hx;have h:=j6 (a1 j x hj);exact ⟨h.1,h.2.2.1⟩
 ·intro x hx;obtain ⟨j,hj⟩:=List.mem_iff_getElem?.1 hx;have h : bo m.tn x = 0:=a2 j x hj;unfold bo at h
  by_cases b1 : x < 0 ∨ (m.tn : Int) ≤ x
  ·rw [if_pos b1] at h; cases h
  ·omega
 ·intro x hx;obtain ⟨j,hj⟩:=List.mem_iff_getElem?.1 hx;have h:=kC (a6 j x hj)
  exact ⟨h.1,by rw [← n1]; exact h.2.1⟩
def inx (y : InM) : Inx:=⟨y.1,y.2.1,y.2.2.1.1,y.2.2.1.2.1,y.2.2.1.2.2,y.2.2.2⟩
theorem fq {xs : List InM} {j : Nat} {y : InM} (h : xs[j]? = some y) : (xs.map inx).getD j dx = inx y:=by
 simp [List.getD,h]
theorem xx {a b : ByteArray} {m n : Nat} (ha : lett a m = true) (hb : lett b n = true) : ∀ z ∈ aD (a ++ b),z = 119 ∨ z = 108:=by
 intro z hz;unfold aD at hz;rw [List.mem_map] at hz;obtain ⟨c,hc,rfl⟩:=hz;rw [ByteArray.data_append,Array.toList_append,List.mem_append] at hc
 have h : c = 119 ∨ c = 108:=by
  rcases hc with hc | hc
  ·exact ((gy a m).1 ha).1 c hc
  ·exact ((gy b n).1 hb).1 c hc
 rcases h with rfl | rfl
 ·exact .inl rfl
 ·exact .inr rfl
theorem N3 {w : World} {R g : Nat} {m : MM} (h0 : cB m = 0) (hm : MOk w R g m) {k : Nat} {x : FuM} (hx : m.fns[k]? = some x) :
  ∃ (t : Nat) (P Q : ByteArray),x.1 = (t : Int) ∧ m.types[t]? = some (P,Q) ∧ P.size + x.2.1.size ≤ 64 ∧ (∀ z ∈ aD (P ++ x.2.1),z = 119 ∨ z = 108) ∧ x.2.2.1.2.1 ≤ 2048 ∧ zn w x.2.2.1.1 x.2.2.1.2.1 (x.2.2.2.map inx) ∧
   ∀ j,j < x.2.2.1.2.1 → ((x.2.2.2.map inx).getD j dx).ln ≤ 100000 ∧ (((x.2.2.2.map inx).getD j dx).c = 9 → 0 < ((x.2.2.2.map inx).getD j dx).ln):=by
 obtain ⟨h1,h2,h3,h6⟩:=pQ h0;have hs:=(dW h1).2;have hf:=kC ((dW h6).2 k x hx);obtain ⟨b1,b2,b3,b4,b5,b6⟩:=hf;obtain ⟨_,hin,_,hy⟩:=hm.fr k x hx;obtain ⟨t,ht⟩ : ∃ t : Nat,x.1 = (t : Int):=⟨x.1.toNat,ae⟩;have htl : t < m.types.length:=ae;obtain ⟨p,hp⟩ : ∃ p,m.types[t]? = some p:=⟨_,aN htl⟩;have hsz : x.2.2.2.length = x.2.2.1.2.1:=hin.1
 have hpar : jY m.types x.1 = p.1:=by rw [ht]; exact oM (p:=p.1) (r:=p.2) hp
 rw [hpar] at b3
 have hI : ∀ (i : Nat) y,x.2.2.2[i]? = some y → y.2.2.1.2.1 ≤ 16 ∧ (y.1 = 9 → 0 < y.2.2.1.2.1) ∧ -9223372036854775808 ≤ y.2.1 ∧ y.2.1 ≤ 9223372036854775807:=by
  intro i y hi';have hc:=I4 (b6 i y hi');have hg:=(hy i y hi').2.2.1;have hl : y.2.2.2.length = y.2.2.1.2.1:=hg.1;have q1:=(jR (tkV y.1) (lgV y.1)).1;have q2:=kx (tkV y.1) (lgV y.1)
  refine ⟨ae,fun e => ?_,ae,ae⟩
  rw [← hl]
  exact hc.2.2.2 (by rw [e]; exact tk9)
 refine ⟨t,p.1,p.2,ht,hp,ae,xx (j6 (hs t p hp)).2.1 b4,ae,⟨by rw [List.length_map]; exact hsz,hin.2.imp id ?_⟩,?_⟩
 ·rintro ⟨b,off,ha,hc⟩
  refine ⟨b,off,ha,by rw [List.length_map]; exact hsz,fun j hj => ?_⟩
  obtain ⟨y,hyj⟩ : ∃ y,x.2.2.2[j]? = some y:=⟨_,aN ae⟩;rw [fq hyj];have c:=hc j y hyj;have r:=hy j y hyj;have i:=hI j y hyj
  exact ⟨c.1,c.2.1,c.2.2,r.1,r.2.1,i.2.2.1,i.2.2.2,by show y.2.2.1.2.1 ≤ _; omega,fun _ => r.2.2.1⟩
 ·intro j hj;obtain ⟨y,hyj⟩ : ∃ y,x.2.2.2[j]? = some y:=⟨_,aN ae⟩;rw [fq hyj];have i:=hI j y hyj
  exact ⟨by show y.2.2.1.2.1 ≤ _; omega,i.2.1⟩
def mv (p i : Nat) : Nat:=if i < p then i else i + 1
def Ltr (s : ByteArray) : Prop:=∀ c ∈ s.data.toList,c = 119 ∨ c = 108
theorem Ltr.nil : Ltr ⟨#[]⟩:=fun c h => eF
theorem Ltr.ext {a : ByteArray} (h : Ltr a) (i j : Nat) : Ltr (a.extract i j):=fun c hc => by
 rw [ByteArray.data_extract,Array.toList_extract] at hc
 exact h c (List.mem_of_mem_drop (List.mem_of_mem_take (by simpa [List.extract_eq_take_drop] using hc)))
theorem Ltr.lett {a : ByteArray} (h : Ltr a) {n : Nat} (hs : a.size ≤ n) : lett a n = true:=(gy a n).2 ⟨h,hs⟩
theorem Ltr.of {a : ByteArray} {n : Nat} (h : Go.Proofs.YtepnnenohjfkbaaGreatDoor.lett a n = true) : Ltr a:=((gy a n).1 h).1
abbrev bl (a : ByteArray) : List UInt8:=a.data.toList
section
variable {m : MM} {lo : List Int} {xs : List Inx} {R : ByteArray} {n : Nat}
end
theorem yK (w : World) {ops : Array Oper} {rest : List Oper} {o : Oper} {a : Act} {Q : Exit → Act → World → Prop} (hgd : o.guard = none)
  (s x : Operand) (ho : o.op = Op.call { callee:=Callee.builtin Builtin.append,args:=#[s,x],argTypes:=#[64,64] }) (base : Nat) (v : Value) (n : Nat) (xs : List Int)
  (hs : a.eval s = v) (hown : w.ownsRow base 5 1 v n (xs.map (Value.int .u8))) (ad : Addr) (z : Int) (hx : a.eval x = .slice (some ad) 1 1) (hu : w.cell? (ad.add 0) = some (.int .u8 z)) (hb : n + 1 ≤ 1099511627776) (hbase : base ≤ w.heap.size)
  (h : ∀ (v' : Value) (w' : World),w'.ownsRow base 5 1 v' (n + 1) ((xs ++ [z]).map (Value.int .u8)) → Below base w w' → wpList Tryz.prog ops Q rest (a.put o.dst v') w') :
  wpList Tryz.prog ops Q (o :: rest) a w:=by
 obtain ⟨i0,hi,hz0,hz1,hz2⟩:=info_parts Tryz.info5;refine wpList_append_own w hgd s x 64 ho base 5 i0 (.int .u8 0) 1 1 Tryz.underlying64 hi hz0 hz1 hz2 rfl aH v n _ hs hown ad 1 1 [.int .u8 z] hx rfl ?_ ?_ cG ae hbase ?_
 ·intro j u hj
  match j,hj with
  | 0,hj => simp at hj; subst hj; exact hu
  | j + 1,hj => simp at hj
 ·intro u hu; simp at hu; subst hu; rfl
 ·exact DY
theorem t7 (v : Int) (w : World) (h0 : 0 ≤ v) (h1 : v < 18446744073709551616) :
  Calls Tryz.prog 269 #[.int .u64 v] w fun e w' => ∃ y,e = .returned y ∧ w'.ownsRow w.heap.size 5 1 y (au v).length ((au v).map (Value.int .u8)) ∧ Below w.heap.size w w':=by
 go_enter Tryz.func269,Tryz.ntmps269
 go_wp2_with fail
 go_loopw [0,3] (fun x l wr => ∃ (k : Nat) (V : Int) (pre : List Int),k ≤ 9 ∧ x = .int .u64 V ∧ pre.length = k ∧ 0 ≤ V ∧ V < 18446744073709551616 ∧ V * 128 ^ k < 18446744073709551616 ∧ au v = pre ++ uv (9 - k) V ∧ wr.ownsRow w.heap.size 5 1 l k (pre.map (Value.int .u8)) ∧ Below w.heap.size w wr) (fun x _ _ => (intOf x).toNat)
 case atStart => exact ⟨0,v,[],ae,rfl,rfl,h0,h1,lW,rfl,World.ownsRow_nil _ _ _ _,Below.refl _ _⟩
 case round =>
  obtain ⟨k,V,pre,hk,rfl,hpl,hV0,hV1,hroom,huv,hown,hb⟩:=hrel;have HU:=hid huv;have HP:=hid hpl;have HR:=hid hroom;have HO:=hid hown;have HB:=hid hb;clear huv hpl hroom hown hb
  by_cases h128 : 128 ≤ V
  ·have hk8:=room_end V k HR.out hk h128
   have HN:=hid (show au v = (pre ++ [V % 128 + 128]) ++ uv (9 - (k + 1)) (V / 128) by
    rw [HU.out,show 9 - k = 9 - (k + 1) + 1 by omega]
    have hn : ¬ V < 128:=ae
    simp [uv,hn])
   go_wp2_with (first
    | (at_builtin; refine yK _ rfl (.tmp 6) (.tmp 11) rfl w.heap.size _ k pre rfl (HO.out.alloc _) ⟨wr.heap.size,0,none⟩ (V % 128 + 128) rfl kG ae (by have:=HB.out.size; simp; omega) ?_; intro v' w2 hown2 hb2; have O2:=hid hown2; have B2:=hid ((HB.out.alloc HB.out.size _).trans hb2); clear hown2 hb2))
   exact ⟨⟨k + 1,V / 128,pre ++ [V % 128 + 128],ae,rfl,by simp [HP.out],ae,ae,Dv V k HR.out hV0,HN.out,O2.out,B2.out⟩,aZ⟩
  ·have HF:=hid (show au v = pre ++ [V] by
    rw [HU.out]
    cases h9 : 9 - k with
    | zero => rfl
    | succ f =>
     have hn : V < 128:=ae
     simp [uv,hn])
   have HLn:=hid (show (au v).length = k + 1 by rw [HF.out]; simp [HP.out])
   go_wp2_with (first
    | (at_builtin; refine yK _ rfl (.tmp 15) (.tmp 18) rfl w.heap.size _ k pre rfl (HO.out.alloc _) ⟨wr.heap.size,0,none⟩ V rfl kG ae (by have:=HB.out.size; simp; omega) ?_; intro v' w2 hown2 hb2; have O2:=hid hown2; have B2:=hid ((HB.out.alloc HB.out.size _).trans hb2); clear hown2 hb2))
   go_ret;refine ⟨v',rfl,?_,B2.out⟩;rw [HLn.out,HF.out];exact O2.out
theorem ID (f : Nat) : ∀ v,0 ≤ v → v < 128 ^ (f + 1) → ∀ z ∈ uv f v,0 ≤ z ∧ z ≤ 255:=by
 induction f with
 | zero => intro v h0 h1 z hz; simp [uv] at hz; simp at h1; omega
 | succ f ih =>
  intro v h0 h1 z hz
  by_cases h : v < 128
  ·simp [uv,h] at hz; omega
  ·simp only [uv,h,if_false,List.mem_cons] at hz
   rcases hz with rfl | hz
   ·omega
   ·refine ih (v / 128) ae ?_ z hz;have hs : (128 : Int) ^ (f + 1 + 1) = 128 ^ (f + 1) * 128:=Int.pow_succ _ _;rw [hs] at h1;omega
theorem eV (v : Int) (h0 : 0 ≤ v) (h1 : v < 18446744073709551616) : ∀ z ∈ au v,0 ≤ z ∧ z ≤ 255:=by
 refine ID 9 v h0 (Int.lt_trans h1 aH)
theorem Hi (v : Int) (w : World) (h0 : -9223372036854775808 ≤ v) (h1 : v < 9223372036854775808) :
  Calls Tryz.prog 270 #[.int .i64 v] w fun e w' => e = .returned (.int .u64 (fo v)) ∧ w' = w:=by
 by_cases h : v < 0
 ·have HF:=hid (show 2 * -(v + 1) + 1 = fo v by unfold fo; rw [if_pos h]; omega)
  exact Bl
 ·have HF:=hid (show 2 * v = fo v by unfold fo; rw [if_neg h])
  exact Bl
theorem MW (v : Int) (w : World) (h0 : -9223372036854775808 ≤ v) (h1 : v < 9223372036854775808) :
  Calls Tryz.prog 224 #[.int .i64 v] w fun e w' => ∃ y,e = .returned y ∧ w'.ownsRow w.heap.size 5 1 y (au (fo v)).length ((au (fo v)).map (Value.int .u8)) ∧ Below w.heap.size w w':=by
 have hr:=kz v h0 h1;have HA:=hid (Hi v w h0 h1);have HB:=hid (t7 (fo v) w hr.1 hr.2);clear hr;generalize fo v = u at *;generalize au u = l at *
 go_enter Tryz.func224,Tryz.ntmps224
 go_wp2_with fail;refine HA.out.mono ?_;rintro e w1 ⟨rfl,rfl⟩;go_wp2_with fail;refine HB.out.mono ?_;rintro e w2 ⟨y,rfl,hs,hb⟩;go_wp2;go_ret;exact ⟨y,rfl,hs,hb⟩
end Go.Proofs.YtepnnenohjfkbaaGreatDoor

/-
  Texts Rh Rd Re Ri.
-/
import Derived.Test.YtepnnenohjfkbaaGreatDoorP00
import Derived.Test.YtepnnenohjfkbaaGreatDoorP01
import Derived.Test.YtepnnenohjfkbaaGreatDoorP03
import Derived.Test.YtepnnenohjfkbaaGreatDoorP14
import Derived.Test.YtepnnenohjfkbaaGreatDoorP16
import Derived.Test.YtepnnenohjfkbaaGreatDoorP19
import Derived.Test.YtepnnenohjfkbaaGreatDoorP24
set_option linter.unusedVariables false
set_option maxRecDepth 100000
set_option maxHeartbeats 16000000
namespace Go.Proofs.YtepnnenohjfkbaaGreatDoor
open Go.RowKit
theorem below_setCells {B b : Nat} {w : World} (hB : B ≤ b) : ∀ (vs : List Value) (o : Nat) (w1 : World),Below B w w1 → Below B w (w1.setCells b o vs)
 | [],_,_,h => h
 | v :: r,o,w1,h => below_setCells hB r (o + 1) _ (h.setCell (by simpa using hB) v)
theorem mn (s : ByteArray) : byteCells s = (aD s).map (Value.int .u8):=by
 unfold byteCells aD;rw [List.map_map];rfl
theorem Mk (w : World) (base g n cap : Nat) (l : List Int) (s : ByteArray) (hown : w.ownsRow base 5 1 (.slice (some ⟨g,0,none⟩) n cap) n (l.map (Value.int .u8))) (hbase : base ≤ w.heap.size)
  (hr : ∀ z ∈ l,0 ≤ z ∧ z ≤ 255) (hn : n ≤ 1000) (hs : s.size ≤ 2000000) :
  ∃ a c W,(∀ ty,(Builtin.append_ #[64,9] ty #[.slice (some ⟨g,0,none⟩) n cap,.string s]).run Tryz.prog w = .ok (.slice a (n + s.size) c) W) ∧ Seg W a (n + s.size) c (l ++ aD s) ∧ Below base w W:=by
 obtain ⟨i0,hi,hz0,hz1,hz2⟩:=info_parts Tryz.info5
 have hll : l.length = n:=by have:=hown.1; simpa using this
 have hsrc:=Src.ofString (P:=Tryz.prog) w (tx:=9) Tryz.underlying9 s
 have hsrc' : Src Tryz.prog i0.size 9 (.string s) s.size (byteCells s) w:=by rw [hz1]; exact hsrc
 have hbl:=byteCells_length s
 have hlen : (l ++ aD s).length = n + s.size:=by rw [List.length_append,cR,hll]
 have hrr : ∀ z ∈ l ++ aD s,0 ≤ z ∧ z ≤ 255:=by
  intro z hz
  rcases List.mem_append.1 hz with hz | hz
  ·exact hr z hz
  ·exact jP s z hz
 obtain ⟨hbg,cur,hh,hnc,hcm,hcs⟩ : base ≤ g ∧ ∃ cur,w.heap[g]? = some (.cells cur 5) ∧ n ≤ cap ∧ cap ≤ maxLen ∧ cur.size = cap:=by
  rcases hown.2 with ⟨h,_⟩ | ⟨g',cp,cur,h1,h2,h3,h4,h5,h6,_⟩
  ·cases h
  ·simp at h1
   obtain ⟨rfl,rfl⟩:=h1;exact ⟨h2,cur,h3,h4,h5,lD⟩
 by_cases hroom : n + s.size ≤ cap
 ·have hsome : ∀ j,j < (byteCells s).length → (w.cell? ⟨g,n + j,none⟩).isSome = true:=by
   intro j hj
   rw [cell_of_row w g (n + j) cur 5 (0,0) hh,Array.getElem?_eq_getElem ae]; rfl
  have hrun:=fun ty => run_append_room_src w 64 9 ty 5 i0 Tryz.underlying64 hi g 0 n cap (.string s) s.size (byteCells s) hsrc' hroom
   (by intro j hj; rw [hz1,Nat.zero_add,Nat.mul_one]; exact hsome j hj)
   (by intro j hj; rw [hz1,Nat.zero_add,Nat.mul_one]; exact World.ownsRow.frozenAt hown (n + j))
  simp only [hz1,Nat.zero_add,Nat.mul_one] at hrun
  refine ⟨_,_,_,hrun,⟨hlen,hroom,ae,hrr,.inr ⟨g,0,rfl,fun j hj => ?_⟩⟩,below_setCells hbg _ _ _ (Below.refl _ _)⟩
  rw [Nat.zero_add]
  by_cases hjn : j < n
  ·rw [World.cell?_setCells_out g (byteCells s) n w ⟨g,j,none⟩ (fun _ _ => .inl hjn),World.ownsRow.cellAt hown j ae]
   have h1 : j < l.length:=ae
   simp [List.getElem?_append_left h1,h1]
  ·have h1:=World.cell?_setCells_in g (byteCells s) n w hsome (j - n) ae
   rw [show n + (j - n) = j by omega] at h1
   rw [h1]
   have h2 : j - n < (aD s).length:=by rw [cR]; omega
   have h3 : (byteCells s)[j - n]'(ae) = .int .u8 ((aD s)[j - n]'h2):=by
    simp only [mn,List.getElem_map]
   have h4 : (l ++ aD s).getD j 0 = (aD s)[j - n]'h2:=by
    rw [List.getD_eq_getElem?_getD,List.getElem?_append_right ae,hll,aN h2,Option.getD_some]
   rw [h3,h4]
 ·have hold : (Builtin.firstCells i0.size n (.slice (some ⟨g,0,none⟩) n cap)).run Tryz.prog w.drew = .ok (l.map (Value.int .u8)).toArray w.drew:=by
   refine run_firstCells_some w.drew i0.size n ⟨g,0,none⟩ n cap _ (by rw [hz1]; simpa using hll) ?_
   intro j v hj;have hplain : (⟨g,0,none⟩ : Addr).add j = ⟨g,j,none⟩:=fZ
   have hj' : j < (l.map (Value.int .u8)).length:=by
    rcases Nat.lt_or_ge j (l.map (Value.int .u8)).length with h | h
    ·exact h
    ·rw [List.getElem?_eq_none h] at hj; cases hj
   have : w.cell? ⟨g,j,none⟩ = some v:=(World.ownsRow.cellAt hown j (by simp at hj'; omega)).trans hj
   rw [hplain];exact this
  have hfit : Builtin.nextslicecap (n + s.size) cap * i0.bytes ≤ 281474976710656:=by
   have:=nextslicecap_le (need:=n + s.size) (old:=cap) ae
   rw [hz2]; omega
  have hrun:=fun ty => run_append_grow_src w 64 9 ty 5 i0 (.int .u8 0) Tryz.underlying64 hi hz0 (some ⟨g,0,none⟩) n cap _ hold (.string s) s.size (byteCells s) hsrc' ae ae hfit
  refine ⟨_,_,_,hrun,⟨hlen,grownCap_ge _ _ _ _,ae,hrr,.inr ⟨w.heap.size,0,rfl,fun j hj => ?_⟩⟩,((Below.refl _ _).drew).alloc (by simpa using hbase) _⟩
  rw [Nat.zero_add];refine (World.cell?_alloc_mark w.drew _ _ _ j).trans ?_;have h1 : j < (l ++ aD s).length:=ae
  have h2 : (l.map (Value.int .u8) ++ byteCells s) = (l ++ aD s).map (Value.int .u8):=by rw [mn,List.map_append]
  rw [h2,Array.getElem?_append_left lW]
  simp only [List.getElem?_toArray,List.getElem?_map,aN h1,Option.map_some,List.getD_eq_getElem?_getD,Option.getD_some]
theorem wpList_append_run {P : Program} (w : World) {ops : Array Oper} {rest : List Oper} {o : Oper} {a : Act} {Q : Exit → Act → World → Prop} (hg : o.guard = none)
  (s x : Operand) (t tx : TypeId) (hop : o.op = Op.call { callee:=Callee.builtin Builtin.append,args:=#[s,x],argTypes:=#[t,tx] }) (vs vx v' : Value) (w' : World) (hs : a.eval s = vs) (hx : a.eval x = vx)
  (hrun : ∀ ty,(Builtin.append_ #[t,tx] ty #[vs,vx]).run P w = .ok v' w') (hK : wpList P ops Q rest (a.put o.dst v') w') : wpList P ops Q (o :: rest) a w:=by
 refine wpList_plain hg fun K hK' => ?_
 unfold Oper.wp
 simp [execOp,hop,resolve,invoke,builtin,hs,hx,hrun,Result.andThen]
 exact hK' _ _ hK
theorem LN (s : ByteArray) (w : World) (hs : s.size ≤ 2000000) :
  Calls Tryz.prog 223 #[.string s] w fun e w' => ∃ a c,e = .returned (.slice a ((au s.size).length + s.size) c) ∧ Seg w' a ((au s.size).length + s.size) c (au s.size ++ aD s) ∧ Below w.heap.size w w':=by
 have HB:=hid (t7 s.size w ae ae);have hl:=aA s.size;have hr:=eV s.size ae ae;generalize au s.size = l at *
 go_enter Tryz.func223,Tryz.ntmps223
 go_wp2_with fail;refine HB.out.mono ?_;rintro e w1 ⟨y,rfl,hs1,hb1⟩
 obtain ⟨g,cap,rfl⟩ : ∃ g cap,y = .slice (some ⟨g,0,none⟩) l.length cap:=by
  rcases hs1.2 with ⟨_,h⟩ | ⟨g,cap,cur,h,_⟩
  ·omega
  ·exact ⟨g,cap,h⟩
 obtain ⟨a,c,W,hrun,hsg,hbl⟩:=Mk w1 w.heap.size g l.length cap l s hs1 hb1.size hr ae hs;have HB1:=hid hb1;have HSG:=hid hsg;have HBL:=hid hbl;have HR:=hid hrun;clear hs1 hb1 hr HB hsg hbl hrun
 go_wp2_with (at_builtin; refine wpList_append_run _ rfl (.tmp 8) (.tmp 9) 64 9 rfl _ _ _ _ rfl rfl HR.out ?_)
 go_ret;exact ⟨a,c,rfl,HSG.out,HB1.out.trans HBL.out⟩
abbrev Byt (w : World) (base : Nat) (v : Value) (bs : List Int) : Prop:=w.ownsRow base 5 1 v bs.length (bs.map (Value.int .u8))
theorem LB {w : World} {base : Nat} {v : Value} {bs : List Int} (h : Byt w base v bs) : ∃ a c,v = .slice a bs.length c:=by
 exact Bt
theorem dA (w : World) {ops : Array Oper} {rest : List Oper} {o : Oper} {a : Act} {Q : Exit → Act → World → Prop} (hgd : o.guard = none)
  (s x : Operand) (ho : o.op = Op.call { callee:=Callee.builtin Builtin.append,args:=#[s,x],argTypes:=#[64,64] }) (base : Nat) (v : Value) (P : List Int)
  (hs : a.eval s = v) (hown : Byt w base v P) (ao : Option Addr) (c : Nat) (zs : List Int) (hx : a.eval x = .slice ao zs.length c)
  (hseg : Seg w ao zs.length c zs) (hnone : ao = none → c = 0) (hb : P.length + zs.length ≤ 1099511627776) (hbase : base ≤ w.heap.size)
  (h : ∀ (v' : Value) (w' : World),Byt w' base v' (P ++ zs) → Below base w w' → Kept (fun k => some k = v.ownBlock) w w' → wpList Tryz.prog ops Q rest (a.put o.dst v') w') :
  wpList Tryz.prog ops Q (o :: rest) a w:=by
 obtain ⟨i0,hi,hz0,hz1,hz2⟩:=info_parts Tryz.info5
 cases ao with
 | none =>
  have hc:=hnone rfl;subst hc
  have hm : zs.length = 0:=by have:=hseg.2.1; omega
  have hzs : zs = []:=List.eq_nil_of_length_eq_zero hm;subst hzs;refine wpList_append_own_none hgd s x 64 ho base 5 i0 1 Tryz.underlying64 hi v P.length _ hs hown hx ?_
  refine h v w ?_ (Below.refl _ _) ⟨rfl,rfl,rfl,Nat.le_refl _,fun k _ _ => rfl⟩
  simpa using hown
 | some ad =>
  refine wpList_append_own w hgd s x 64 ho base 5 i0 (.int .u8 0) 1 1 Tryz.underlying64 hi hz0 hz1 hz2 rfl aH v P.length _ hs hown ad zs.length c (zs.map (Value.int .u8)) hx ak
   (iY hseg ad rfl) (j3 _) cG ae hbase ?_
  intro v' w' ho' hg _;refine h v' w' ?_ (own_below hown hg hbase) (Kept.of_grown hg);unfold Byt
  rw [List.length_append,List.map_append]; exact ho'
theorem iz {w w' : World} {base F t : Nat} {v : Value} {P : List Int} {cs : Array Value} (hF : w.heap[F]? = some (.cells cs t)) (ht : t ≠ 5) (hb : Byt w base v P) (hk : Kept (fun k => some k = v.ownBlock) w w') : w'.heap[F]? = some (.cells cs t):=by
 have hlt : F < w.heap.size:=by
  rcases Nat.lt_or_ge F w.heap.size with h | h
  ·exact h
  ·rw [Array.getElem?_eq_none h] at hF; cases hF
 refine (hk.block F hlt (fun e => ?_)).trans hF
 rcases hb.2 with ⟨h0,_⟩ | ⟨g,cp,cur,h1,_,h3,_⟩
 ·rw [h0] at e; cases e
 ·rw [h1] at e
  have : F = g:=by simpa [Value.ownBlock] using e
  subst this;rw [hF] at h3
  simp at h3
  exact ht h3.2
theorem eQ (base : Nat) (v : Value) (bs : List Int) (n : Int) (w : World) (h : Byt w base v bs) (hb : base ≤ w.heap.size) (hl : bs.length ≤ 1000000000) (n0 : 0 ≤ n) (n1 : n < 9223372036854775808) :
  Calls Tryz.prog 222 #[v,.int .i64 n] w fun e w' => ∃ y,e = .returned y ∧ Byt w' base y (bs ++ au n) ∧ Below base w w' ∧ Kept (fun k => some k = v.ownBlock) w w':=by
 obtain ⟨a,c,rfl⟩:=LB h
 have SV:=hid (fun W => qI n W n0 ae)
 have hul:=aA n;have hw:=bZ n n0 ae;have HO:=hid h;generalize au n = U at *;clear h
 go_enter Tryz.func222,Tryz.ntmps222
 go_wp2_with fail;refine (SV.out _).mono ?_;rintro e w4 ⟨ua,uc,rfl,hs4,hn4,hb4⟩;have S4:=hid hs4;have N4:=hid hn4;have B4:=hid hb4;have O4:=hid (bB HO.out hb4);have hbs : base ≤ w4.heap.size:=Nat.le_trans hb hb4.size;clear hs4 hb4 SV hn4
 go_wp2_with (at_builtin; (refine dA _ rfl (.tmp 5) (.tmp 8) rfl base _ bs rfl O4.out _ _ U rfl S4.out N4.out ae hbs ?_; intro v5 w5 hown5 hb5 hk5; have O5:=hid hown5; have B5:=hid ((B4.out.mono hb).trans hb5); have K5:=hid (((az B4.out).mono (fun _ h => False.elim h)).trans hk5); clear hown5 hb5 hk5))
 go_ret;exact ⟨_,rfl,O5.out,B5.out,K5.out⟩
theorem F7 (x : Gl) (w : World) (h0 : 0 ≤ x.2.2) (h1 : x.2.2 < 18446744073709551616) (hf : x.1 = 119 → x.2.2 < 4294967296) :
  Calls Tryz.prog 225 #[.agg #[.int .u8 x.1,.bool x.2.1,.int .u64 x.2.2]] w fun e w' => e = .returned (.int .i64 (sgn x.1 x.2.2)) ∧ Below w.heap.size w w':=by
 obtain ⟨c,mu,v⟩:=x;dsimp only at *;have HB:=hid (aj w (bC c mu v))
 by_cases hc : c = 119
 ·subst hc;have hv:=hf rfl
  by_cases h2 : 2147483648 ≤ v
  ·have HV:=hid (show v - 4294967296 = sgn 119 v by unfold sgn; rw [if_pos rfl,if_pos hv,if_neg ae])
   have hw : wrap64 v = v:=dS;have hw2 : wrap64 (v - 4294967296) = v - 4294967296:=dS;exact Ci
  ·have HV:=hid (show v = sgn 119 v by unfold sgn; rw [if_pos rfl,if_pos hv,if_pos ae])
   have hw : wrap64 v = v:=dS;exact Ci
 ·have hcb : (c == 119) = false:=by simpa using hc
  have HV:=hid (show wrap64 v = sgn c v by
   unfold sgn wrap64;rw [if_neg hc]
   split <;> omega)
  go_enter Tryz.func225,Tryz.ntmps225
  go_wp2_with fail;go_ret
  exact ⟨by rw [← HV.out]; rfl,HB.out⟩
theorem tj (s : ByteArray) (most : Nat) (w : World) (hs : s.size ≤ 281474976710656) (hm : most ≤ 1073741824) :
  Calls Tryz.prog 98 #[.string s,.int .i64 most] w fun e w' => e = .returned (.bool (lett s most)) ∧ w' = w:=by
 by_cases hbig : most < s.size
 ·exact I5
 ·exact FD s most w ae hm
theorem Mm (s : ByteArray) (w : World) (hs : s.size ≤ 281474976710656) : Calls Tryz.prog 57 #[.string s] w fun e w' => e = .returned (.bool (lett s 256)) ∧ w' = w:=by
 have HE:=hid (tj s 256 w hs ae)
 go_enter Tryz.func57,Tryz.ntmps57
 go_wp2_with fail;refine HE.out.mono ?_;rintro e w1 ⟨rfl,hw⟩;have hw2:=hw.symm;subst hw2;exact nj
def ltE (s : ByteArray) (most : Nat) : Int:=if most < s.size then 13 else if lett s most = false then 15 else 0
theorem lG (s : ByteArray) (most : Nat) (w : World) (hs : s.size ≤ 281474976710656) (hm : most ≤ 1073741824) :
  Calls Tryz.prog 265 #[.string s,.int .i64 most] w fun e w' => e = .returned (.int .i64 (ltE s most)) ∧ w' = w:=by
 by_cases hbig : most < s.size
 ·have h' : (most : Int) < s.size:=ae
  have HV:=hid (show ltE s most = 13 by unfold ltE; rw [if_pos hbig])
  go_enter Tryz.func265,Tryz.ntmps265
  go_wp2;go_ret;exact ⟨cd,rfl⟩
 ·have h' : ¬ (most : Int) < s.size:=ae;have he:=tj s most w hs hm
  cases hb : lett s most with
  | false =>
   rw [hb] at he;have HE:=hid he
   have HV:=hid (show ltE s most = 15 by unfold ltE; rw [if_neg hbig,if_pos hb])
   exact KB
  | true =>
   rw [hb] at he;have HE:=hid he
   have HV:=hid (show ltE s most = 0 by unfold ltE; rw [if_neg hbig,if_neg (by rw [hb]; simp)])
   exact KB
theorem Mu (v c : Int) (w : World) : Calls Tryz.prog 266 #[.int .u64 v,.int .u8 c] w fun e w' => e = .returned (.bool (gq v c)) ∧ w' = w:=by
 rcases kU c with ⟨rfl,h⟩ | ⟨rfl,h⟩ | ⟨h1,h2,h⟩
 all_goals
  go_enter Tryz.func266,Tryz.ntmps266
  go_wp2;go_ret
  first | exact ⟨rfl,rfl⟩ | (simp_all [gq])
theorem qJ (s : ByteArray) : jM s = true ↔ 0 < s.size ∧ ∀ i,i < s.size → 33 ≤ dK s i ∧ dK s i ≤ 126:=by
 unfold jM aD;rw [Bool.and_eq_true,List.all_eq_true,ck]
 constructor
 ·intro ⟨h1,h2⟩
  have h3 : s.data.toList ≠ []:=by intro e; rw [e] at h2; simp at h2
  refine ⟨by rw [dP]; exact List.length_pos_iff.2 h3,fun i hi => ?_⟩
  have hi' : i < s.data.toList.length:=by rw [dP] at hi; exact hi
  have:=h1 ((s.data.toList[i]'hi').toNat : Int) (List.mem_map.2 ⟨_,List.getElem_mem hi',rfl⟩)
  rw [dK,aN hi',Option.getD_some];exact bY
 ·intro ⟨h1,h2⟩
  refine ⟨fun b hb => ?_,?_⟩
  ·obtain ⟨c,hc,rfl⟩:=List.mem_map.1 hb;obtain ⟨i,hi,rfl⟩:=List.getElem_of_mem hc
   have:=h2 i (by rw [dP]; exact hi)
   rw [dK,aN hi,Option.getD_some] at this;exact bY
  ·rw [dP] at h1
   cases h : s.data.toList with
   | nil => rw [h] at h1; simp at h1
   | cons a r => rfl
def nmE (s ahead : ByteArray) (first : Bool) : Int:=if 32 < s.size then 13 else if jM s = false then 23 else if first = false ∧ sGt s ahead = false then 18 else 0
theorem Ew (s ahead : ByteArray) (first : Bool) (w : World) (hs : s.size ≤ 281474976710656) :
  Calls Tryz.prog 268 #[.string s,.string ahead,.bool first] w fun e w' => e = .returned (.int .i64 (nmE s ahead first)) ∧ w' = w:=by
 by_cases hbig : 32 < s.size
 ·have h' : (32 : Int) < s.size:=ae
  have HV:=hid (show nmE s ahead first = 13 by unfold nmE; rw [if_pos hbig])
  exact En
 have h' : ¬ (32 : Int) < s.size:=ae
 by_cases h0 : s.size = 0
 ·have HV:=hid (show nmE s ahead first = 23 by
   unfold nmE;rw [if_neg hbig,if_pos]
   cases hb : jM s with
   | false => rfl
   | true => have:=((qJ s).1 hb).1; omega)
  have hl : (s.toList == []) = true:=by
   rw [ck]
   have : s.data.toList = []:=List.eq_nil_of_length_eq_zero (by rw [← dP]; exact h0)
   rw [this]; rfl
  exact En
 have hl : (s.toList == []) = false:=by
  rw [ck]
  cases h : s.data.toList with
  | nil => rw [dP,h] at h0; exact absurd rfl h0
  | cons a r => rfl
 have HL:=hid hl
 go_enter Tryz.func268,Tryz.ntmps268
 go_wp2_with fail
 go_loop [7] (fun i => ∃ k : Nat,k ≤ s.size ∧ i = .int .i64 k ∧ ∀ i,i < k → 33 ≤ dK s i ∧ dK s i ≤ 126) (fun i => s.size - (intOf i).toNat)
 case atStart => exact ⟨0,Nat.zero_le _,rfl,fun i h => ae⟩
 case round =>
  obtain ⟨k,hk,rfl,hall⟩:=hrel;have HA:=hid hall;clear hall
  by_cases hlt : k < s.size
  ·have hlt' : (k : Int) < s.size:=ae;have hbk:=iQ s k hlt
   by_cases hc : 33 ≤ dK s k ∧ dK s k ≤ 126
   ·have c1 : decide (((s[k]'hlt).toNat : Int) < 33) = false:=zY;have c2 : decide ((126 : Int) < ((s[k]'hlt).toNat : Int)) = false:=zY;go_wp2_with fail
    refine ⟨⟨k + 1,ae,ak,fun i hi => ?_⟩,aZ⟩
    rcases Nat.lt_or_ge i k with h | h
    ·exact HA.out i h
    ·obtain rfl : i = k:=ae;exact hc
   ·have HV:=hid (show nmE s ahead first = 23 by
     unfold nmE;rw [if_neg hbig,if_pos]
     cases hb : jM s with
     | false => rfl
     | true => exact absurd (((qJ s).1 hb).2 k hlt) hc)
    by_cases hc1 : dK s k < 33
    ·have c1 : decide (((s[k]'hlt).toNat : Int) < 33) = true:=by rw [hbk]; simpa using hc1
     exact m9
    ·have c1 : decide (((s[k]'hlt).toNat : Int) < 33) = false:=by rw [hbk]; simpa using hc1
     have c2 : decide ((126 : Int) < ((s[k]'hlt).toNat : Int)) = true:=zY;exact m9
  ·have hlt' : ¬ (k : Int) < s.size:=ae
   have hnm : jM s = true:=(qJ s).2 ⟨ae,fun i hi => HA.out i ae⟩
   cases first with
   | true =>
    have HV:=hid (show nmE s ahead true = 0 by unfold nmE; rw [if_neg hbig,if_neg (by rw [hnm]; simp),if_neg ak])
    exact m9
   | false =>
    cases hg : (Op.bytesLess s.toList ahead.toList || s.toList == ahead.toList) with
    | true =>
     have HV:=hid (show nmE s ahead false = 18 by
      unfold nmE
      rw [if_neg hbig,if_neg (by rw [hnm]; simp),if_pos]
      refine ⟨rfl,?_⟩;unfold sGt
      cases h1 : Op.bytesLess s.toList ahead.toList with
      | true => rfl
      | false =>
       rw [h1,Bool.false_or] at hg
       rw [hg]; rfl)
     exact m9
    | false =>
     have HV:=hid (show nmE s ahead false = 0 by
      unfold nmE
      rw [if_neg hbig,if_neg (by rw [hnm]; simp),if_neg]
      intro hx;obtain ⟨h1,h2⟩:=Bool.or_eq_false_iff.1 hg;have h3:=hx.2;unfold sGt at h3;rw [h1,h2] at h3
      cases h3)
     exact m9
theorem ir {α : Type} {l : List α} {n : Nat} (h : l.length = n) : l.take n = l:=List.take_of_length_le ae
theorem Ge (ah : List Sg) (x : Sg) : bW ah x = orE (ltE x.1 8) (orE (ltE x.2 8) (if eZ ah x = true then 16 else 0)):=by
 unfold bW ltE orE
 by_cases h1 : 8 < x.1.size
 ·simp [h1]
 ·by_cases h2 : lett x.1 8 = false
  ·simp [h1,h2]
  ·by_cases h3 : 8 < x.2.size
   ·simp [h1,h2,h3]
   ·by_cases h4 : lett x.2 8 = false <;> simp [h1,h2,h3,h4]
theorem Gu {ah : List Sg} {x y : Sg} {k : Nat} (hk : ah[k]? = some y) (h : ((y.1.toList == x.1.toList) && (y.2.toList == x.2.toList)) = true) : eZ ah x = true:=by
 unfold eZ;rw [List.any_eq_true];exact ⟨y,List.mem_of_getElem? hk,h⟩
theorem sw (m : MM) (w : World) (pt : eA w m.ta m.tn m.types) (ph : iN w m.ha m.hn m.hosts) (hr : ∀ (j : Nat) x,m.hosts[j]? = some x → -9223372036854775808 ≤ x ∧ x < 9223372036854775808) (hs : ∀ (j : Nat) x,m.types[j]? = some x → x.1.size ≤ 281474976710656 ∧ x.2.size ≤ 281474976710656) (htn : m.tn ≤ 281474976710656) (hhn : m.hn ≤ 281474976710656) :
  Calls Tryz.prog 218 #[.agg (mV m)] w fun e w' => e = .returned (.int .i64 (orE (e1 m) (e2 m))) ∧ Below w.heap.size w w':=by
 have HPT:=hid (fun (W : World) (hb : Below w.heap.size w W) => pt.kept (az hb) (fun _ _ _ _ => id))
 have HPH:=hid (fun (W : World) (hb : Below w.heap.size w W) => ph.kept (az hb) (fun _ _ _ _ => id))
 have HR:=hid hr;have HS:=hid hs;have tl:=pt.1;have hl:=ph.1;clear pt ph hr hs;have B0:=aj w (.cells (mV m) 29);have b0:=heap_alloc_new w (.cells (mV m) 29);have HW : w.alloc (bD m.ta m.tn m.tc m.ha m.hn m.hc m.ga m.gn m.gc m.fi m.mo m.fa m.fn m.fc m.da m.dn m.dc m.ea m.en m.ec) = w.alloc (.cells (mV m) 29):=rfl;generalize w.alloc (.cells (mV m) 29) = W0 at *;have HB0:=hid B0
 have HX:=hid (fun (W : World) (hb : Below W0.heap.size W0 W) => (⟨ag hb (ai b0),ag hb (ai b0)⟩ : W.cell? ⟨w.heap.size,0,none⟩ = some (.slice m.ta m.tn m.tc) ∧ W.cell? ⟨w.heap.size,1,none⟩ = some (.slice m.ha m.hn m.hc)))
 obtain ⟨m0,m1⟩:=HX.out W0 (Below.refl _ _);clear B0 b0
 show Calls Tryz.prog 218 #[.agg #[.slice m.ta m.tn m.tc,.slice m.ha m.hn m.hc,.slice m.ga m.gn m.gc,.int .i64 m.fi,.int .i64 m.mo,.slice m.fa m.fn m.fc,.slice m.da m.dn m.dc,.slice m.ea m.en m.ec]] w _
 by_cases ht : 64 < m.tn
 ·have HV:=hid (show orE (e1 m) (e2 m) = 20 by
   have : e1 m = 20:=by unfold e1 bq; rw [if_pos ae]
   rw [this]; rfl)
  have ht' : (64 : Int) < (m.tn : Int):=ae
  go_enter Tryz.func218,Tryz.ntmps218
  exact pL
 have ht' : ¬ (64 : Int) < (m.tn : Int):=ae
 have HE1:=hid (show e1 m = aV bW [] m.types by unfold e1 bq; rw [if_neg ae])
 go_enter Tryz.func218,Tryz.ntmps218
 go_wp2_with fail;clear m0 m1 HW
 go_loopw [3,4,5] (fun i _ _ wr => ∃ t : Nat,t ≤ m.tn ∧ i = .int .i64 t ∧ Hid (aV bW [] (m.types.take t) = 0) ∧ Hid (Below W0.heap.size W0 wr)) (fun i _ _ _ => m.tn - (intOf i).toNat)
 case atStart => exact ⟨0,Nat.zero_le _,rfl,hid rfl,hid (Below.refl _ _)⟩
 case round =>
  obtain ⟨t,htn,rfl,HF,HB⟩:=hrel;obtain ⟨m0,m1⟩:=HX.out wr HB.out
  by_cases hlt : t < m.tn
  ·have hlt' : (t : Int) < (m.tn : Int):=ae;obtain ⟨x,hx⟩ : ∃ x,m.types[t]? = some x:=⟨_,aN ae⟩;obtain ⟨tb,tof,hta,hat⟩:=(HPT.out wr (HB0.out.trans (HB.out.mono HB0.out.size))).2.resolve_left ae;obtain ⟨g0,g1⟩:=hat t x hx;obtain ⟨s0,s1⟩:=HS.out t x hx;have HL0:=hid (lG x.1 8 wr s0 ae);have HL1:=hid (lG x.2 8 wr s1 ae);have HC:=hid (Ge (m.types.take t) x)
   have HH:=hid (fun hne => dV bW m.types t x hx HF.out hne)
   have HT:=hid (fun hz => dX bW m.types t x hx HF.out hz)
   have HAT:=hid hat;have hk0 : (0 : Int) ≤ (t : Int):=ae;clear hat;rw [hta] at m0
   try rw [hta]
   by_cases z0 : ltE x.1 8 = 0
   ·rw [z0] at HL0
    by_cases z1 : ltE x.2 8 = 0
    ·rw [z1] at HL1;go_wp2_with fail;refine HL0.out.mono ?_;rintro e w1 ⟨rfl,hw⟩;have hw2:=hw.symm;subst hw2;go_wp2_with fail;refine HL1.out.mono ?_;rintro e w1 ⟨rfl,hw⟩;have hw2:=hw.symm;subst hw2;go_wp2_with fail;have HXT:=hid hx;clear HL0 HL1 m0 m1 g0 g1 hw hx
     go_loopw [5] (fun k wq => ∃ q : Nat,q ≤ t ∧ k = .int .i64 q ∧ Hid (eZ (m.types.take q) x = false) ∧ Hid (Below W0.heap.size W0 wq)) (fun k _ => t - (intOf k).toNat)
     case atStart => exact ⟨0,Nat.zero_le _,rfl,hid rfl,HB⟩
     case round =>
      obtain ⟨q,hq,rfl,HTW,HB⟩:=hrel;obtain ⟨m0,m1⟩:=HX.out _ HB.out;rw [hta] at m0
      by_cases hqt : q < t
      ·have hqt' : (q : Int) < (t : Int):=ae;obtain ⟨y,hy⟩ : ∃ y,m.types[q]? = some y:=⟨_,aN ae⟩;obtain ⟨tb2,tof2,hta2,hat2⟩:=(HPT.out _ (HB0.out.trans (HB.out.mono HB0.out.size))).2.resolve_left ae;rw [hta] at hta2
       injection hta2 with hta2
       injection hta2 with h1 h2
       subst h1 h2;obtain ⟨g0,g1⟩:=hat2 t x HXT.out;obtain ⟨g2,g3⟩:=hat2 q y hy
       have HBD:=hid (fun (n : Nat) => (show Below W0.heap.size W0 (wr.drewN n) from bA HB.out (Kept.drewN (fun _ => False) _ n) HB.out.size (fun _ x => x.elim)))
       have hqn : (q : Int) < (m.tn : Int):=ae
       have hyt : (m.types.take t)[q]? = some y:=by rw [List.getElem?_take,if_pos hqt]; exact hy
       have HYT:=hid hyt;clear hat2 hy hyt
       by_cases hcc : y.1.toList = x.1.toList ∧ y.2.toList = x.2.toList
       ·obtain ⟨c1,c2⟩:=hcc
        have HV:=hid (show orE (e1 m) (e2 m) = 16 by
         have hc : bW (m.types.take t) x = 16:=by rw [HC.out,aP z0,aP z1,if_pos (Gu HYT.out (by simp [c1,c2]))]
         rw [HE1.out,HH.out gF,hc]; rfl)
        exact pR
       ·have HN:=hid (show eZ (m.types.take (q + 1)) x = false by
         have hqx : m.types[q]? = some y:=by have:=HYT.out; rwa [List.getElem?_take,if_pos hqt] at this
         rw [List.take_add_one,hqx];have h1:=HTW.out;unfold eZ at h1 ⊢;rw [List.any_append,h1]
         simp only [Option.toList_some,List.any_cons,List.any_nil,Bool.or_false,Bool.false_or]
         cases hcm : ((y.1.toList == x.1.toList) && (y.2.toList == x.2.toList)) with
         | false => rfl
         | true => exact absurd (by simpa using hcm) hcc)
        by_cases c1 : y.1.toList = x.1.toList
        ·have c2 : ¬ y.2.toList = x.2.toList:=fun c => hcc ⟨c1,c⟩
         exact DK
        ·exact DK
      ·obtain rfl : q = t:=ae
       have HN:=hid (HT.out (by rw [HC.out,aP z0,aP z1,HTW.out]; rfl))
       go_wp2_with fail;exact ⟨⟨q + 1,ae,aX,HN,HB⟩,aZ⟩
    ·have HV:=hid (show orE (e1 m) (e2 m) = ltE x.2 8 by
      have hc : bW (m.types.take t) x = ltE x.2 8:=by rw [HC.out,aP z0,cJ z1]
      rw [HE1.out,HH.out (by rw [hc]; exact z1),hc,cJ z1])
     generalize ltE x.2 8 = E at *
     have hE : (E != 0) = true:=by simpa using z1
     go_wp2_with fail;refine HL0.out.mono ?_;rintro e w1 ⟨rfl,hw⟩;have hw2:=hw.symm;subst hw2;go_wp2_with fail;refine HL1.out.mono ?_;exact wh
   ·have HV:=hid (show orE (e1 m) (e2 m) = ltE x.1 8 by
     have hc : bW (m.types.take t) x = ltE x.1 8:=by rw [HC.out,cJ z0]
     rw [HE1.out,HH.out (by rw [hc]; exact z0),hc,cJ z0])
    generalize ltE x.1 8 = E at *;have hE : (E != 0) = true:=wC;go_wp2_with fail;refine HL0.out.mono ?_;exact wh
  ·obtain rfl : t = m.tn:=ae
   have hE0 : e1 m = 0:=by rw [HE1.out]; have:=HF.out; rwa [ir tl] at this
   by_cases hh : 32 < m.hn
   ·have HV:=hid (show orE (e1 m) (e2 m) = 20 by
     have : e2 m = 20:=by unfold e2 bq; rw [if_pos ae]
     rw [aP hE0,this])
    have hh' : (32 : Int) < (m.hn : Int):=ae;exact BS
   have hh' : ¬ (32 : Int) < (m.hn : Int):=ae
   have HE2:=hid (show orE (e1 m) (e2 m) = aV (fun (_ : List Int) x => bo m.tn x) [] m.hosts by rw [aP hE0]; unfold e2 bq; rw [if_neg ae])
   clear hE0 HE1 HF;go_wp2_with fail;clear m0 m1
   go_loopw [6] (fun i wr => ∃ t : Nat,t ≤ m.hn ∧ i = .int .i64 t ∧ Hid (aV (fun (_ : List Int) x => bo m.tn x) [] (m.hosts.take t) = 0) ∧ Hid (Below W0.heap.size W0 wr)) (fun i _ => m.hn - (intOf i).toNat)
   case atStart => exact ⟨0,Nat.zero_le _,rfl,hid rfl,HB⟩
   case round =>
    obtain ⟨t,hth,rfl,HF,HB⟩:=hrel;obtain ⟨m0,m1⟩:=HX.out _ HB.out
    by_cases hlt : t < m.hn
    ·have hlt' : (t : Int) < (m.hn : Int):=ae;obtain ⟨x,hx⟩ : ∃ x,m.hosts[t]? = some x:=⟨_,aN ae⟩;obtain ⟨tb,tof,hha,hat⟩:=(HPH.out _ (HB0.out.trans (HB.out.mono HB0.out.size))).2.resolve_left ae;have g0:=hat t x hx;have hr:=HR.out t x hx
     have HH:=hid (fun hne => dV (fun (_ : List Int) x => bo m.tn x) m.hosts t x hx HF.out hne)
     have HT:=hid (fun hz => dX (fun (_ : List Int) x => bo m.tn x) m.hosts t x hx HF.out hz)
     have HBD:=hid (fun (n : Nat) => (show Below W0.heap.size W0 (wr.drewN n) from bA HB.out (Kept.drewN (fun _ => False) _ n) HB.out.size (fun _ x => x.elim)))
     rw [hha] at m1
     try rw [hha]
     clear hat hx
     by_cases hb : x < 0 ∨ (m.tn : Int) ≤ x
     ·have HV:=hid (show orE (e1 m) (e2 m) = 30 by
       have hc : bo m.tn x = 30:=by unfold bo; rw [if_pos hb]
       rw [HE2.out,HH.out gF]; exact hc)
      by_cases h0 : x < 0
      ·have d0 : decide (x < 0) = true:=fV;exact pR
      ·have d0 : decide (x < 0) = false:=fV;have d1 : decide ((m.tn : Int) ≤ x) = true:=aG;exact pR
     ·have HN:=hid (HT.out (show bo m.tn x = 0 by unfold bo; rw [if_neg hb]))
      have d0 : decide (x < 0) = false:=aG;have d1 : decide ((m.tn : Int) ≤ x) = false:=aG;go_wp2_with fail
      go_quiet (fail)
      exact C8
    ·obtain rfl : t = m.hn:=ae
     have HV:=hid (show orE (e1 m) (e2 m) = 0 by rw [HE2.out]; have:=HF.out; rwa [ir hl] at this)
     exact gX
theorem pC (m : MM) (w : World) (pg : jf w m.ga m.gn m.globals) (hr : ∀ (j : Nat) x,m.globals[j]? = some x → 0 ≤ x.1 ∧ x.1 ≤ 255 ∧ 0 ≤ x.2.2 ∧ x.2.2 < 18446744073709551616) (i0 : -9223372036854775808 ≤ m.fi) (i1 : m.fi < 9223372036854775808) (o0 : -9223372036854775808 ≤ m.mo) (o1 : m.mo < 9223372036854775808) (hgn : m.gn ≤ 281474976710656) :
  Calls Tryz.prog 219 #[.agg (mV m)] w fun e w' => e = .returned (.int .i64 (orE (e3 m) (orE (e4 m) (e5 m)))) ∧ Below w.heap.size w w':=by
 have HPG:=hid (fun (W : World) (hb : Below w.heap.size w W) => pg.kept (az hb) (fun _ _ _ _ => id))
 have HR:=hid hr;have gl:=pg.1;clear pg hr;have B0:=aj w (.cells (mV m) 29);have b0:=heap_alloc_new w (.cells (mV m) 29);have HW : w.alloc (bD m.ta m.tn m.tc m.ha m.hn m.hc m.ga m.gn m.gc m.fi m.mo m.fa m.fn m.fc m.da m.dn m.dc m.ea m.en m.ec) = w.alloc (.cells (mV m) 29):=rfl;generalize w.alloc (.cells (mV m) 29) = W0 at *;have HB0:=hid B0
 have HX:=hid (fun (W : World) (hb : Below W0.heap.size W0 W) => (⟨ag hb (ai b0),ag hb (ai b0),ag hb (ai b0)⟩ : W.cell? ⟨w.heap.size,2,none⟩ = some (.slice m.ga m.gn m.gc) ∧ W.cell? ⟨w.heap.size,3,none⟩ = some (.int .i64 m.fi) ∧ W.cell? ⟨w.heap.size,4,none⟩ = some (.int .i64 m.mo)))
 obtain ⟨m2,m3,m4⟩:=HX.out W0 (Below.refl _ _);clear B0 b0
 show Calls Tryz.prog 219 #[.agg #[.slice m.ta m.tn m.tc,.slice m.ha m.hn m.hc,.slice m.ga m.gn m.gc,.int .i64 m.fi,.int .i64 m.mo,.slice m.fa m.fn m.fc,.slice m.da m.dn m.dc,.slice m.ea m.en m.ec]] w _
 by_cases ht : 64 < m.gn
 ·have HV:=hid (show orE (e3 m) (orE (e4 m) (e5 m)) = 20 by
   have : e3 m = 20:=by unfold e3 bq; rw [if_pos ae]
   rw [this]; rfl)
  have ht' : (64 : Int) < (m.gn : Int):=ae
  go_enter Tryz.func219,Tryz.ntmps219
  exact pL
 have ht' : ¬ (64 : Int) < (m.gn : Int):=ae
 have HE3:=hid (show e3 m = aV (fun (_ : List Gl) x => dJ x) [] m.globals by unfold e3 bq; rw [if_neg ae])
 go_enter Tryz.func219,Tryz.ntmps219
 go_wp2_with fail;clear m2 m3 m4 HW
 go_loopw [3] (fun i wr => ∃ t : Nat,t ≤ m.gn ∧ i = .int .i64 t ∧ Hid (aV (fun (_ : List Gl) x => dJ x) [] (m.globals.take t) = 0) ∧ Hid (Below W0.heap.size W0 wr)) (fun i _ => m.gn - (intOf i).toNat)
 case atStart => exact ⟨0,Nat.zero_le _,rfl,hid rfl,hid (Below.refl _ _)⟩
 case round =>
  obtain ⟨t,htn,rfl,HF,HB⟩:=hrel;obtain ⟨m2,m3,m4⟩:=HX.out wr HB.out
  by_cases hlt : t < m.gn
  ·have hlt' : (t : Int) < (m.gn : Int):=ae;obtain ⟨x,hx⟩ : ∃ x,m.globals[t]? = some x:=⟨_,aN ae⟩;obtain ⟨gb,gof,hga,hat⟩:=(HPG.out wr (HB0.out.trans (HB.out.mono HB0.out.size))).2.resolve_left ae;obtain ⟨g0,g1,g2⟩:=hat t x hx;obtain ⟨r0,r1,r2,r3⟩:=HR.out t x hx
   have HH:=hid (fun hne => dV (fun (_ : List Gl) x => dJ x) m.globals t x hx HF.out hne)
   have HT:=hid (fun hz => dX (fun (_ : List Gl) x => dJ x) m.globals t x hx HF.out hz)
   have HBD:=hid (fun (n : Nat) => (show Below W0.heap.size W0 (wr.drewN n) from bA HB.out (Kept.drewN (fun _ => False) _ n) HB.out.size (fun _ x => x.elim)))
   clear hat hx;rw [hga] at m2
   try rw [hga]
   obtain ⟨xl,xm,xv⟩:=x;dsimp only at *;have hk0 : (0 : Int) ≤ (t : Int):=ae
   cases hl : isL xl with
   | false =>
    have HV:=hid (show orE (e3 m) (orE (e4 m) (e5 m)) = 15 by
     have hc : dJ (xl,xm,xv) = 15:=by unfold dJ; rw [if_pos hl]
     rw [HE3.out,HH.out gF,hc]; rfl)
    have HL:=mH xl wr;rw [hl] at HL;have HL:=hid HL;go_wp2_with fail;refine HL.out.mono ?_;exact wh
   | true =>
    have HL:=mH xl wr;rw [hl] at HL;have HL:=hid HL
    have HFI:=hid (fun (W : World) => Mu xv xl W)
    cases hf : gq xv xl with
    | false =>
     have HV:=hid (show orE (e3 m) (orE (e4 m) (e5 m)) = 17 by
      have hc : dJ (xl,xm,xv) = 17:=by unfold dJ; rw [if_neg (by rw [hl]; simp),if_pos hf]
      rw [HE3.out,HH.out gF,hc]; rfl)
     rw [hf] at HFI;go_wp2_with fail;refine HL.out.mono ?_;rintro e w1 ⟨rfl,hw⟩;have hw2:=hw.symm;subst hw2;go_wp2_with fail
     go_quiet ((go_at_call 266; exact Calls.quiet_of_same (HFI.out _)))
     go_wp2_with fail;go_ret;exact ⟨cd,HB0.out.trans ((HBD.out _).mono HB0.out.size)⟩
    | true =>
     have HN:=hid (HT.out (show dJ (xl,xm,xv) = 0 by unfold dJ; rw [if_neg (by rw [hl]; simp),if_neg (by rw [hf]; simp)]))
     rw [hf] at HFI;go_wp2_with fail;refine HL.out.mono ?_;rintro e w1 ⟨rfl,hw⟩;have hw2:=hw.symm;subst hw2;go_wp2_with fail
     go_quiet ((go_at_call 266; exact Calls.quiet_of_same (HFI.out _)))
     exact C8
  ·obtain rfl : t = m.gn:=ae
   have hE0 : e3 m = 0:=by rw [HE3.out]; have:=HF.out; rwa [ir gl] at this
   by_cases hb : (m.fi < 0 ∨ 64 < m.fi) ∨ (m.mo < m.fi ∨ 64 < m.mo)
   ·have HV:=hid (show orE (e3 m) (orE (e4 m) (e5 m)) = 17 by
     rw [aP hE0];unfold e4 e5 iP
     by_cases h1 : m.fi < 0 ∨ 64 < m.fi
     ·rw [if_pos h1]; rfl
     ·rw [if_neg h1,if_pos (hb.resolve_left h1)]; rfl)
    clear hE0
    by_cases q1 : m.fi < 0
    ·have d1 : decide (m.fi < 0) = true:=by simpa using q1
     exact gX
    have d1 : decide (m.fi < 0) = false:=by simpa using q1
    by_cases q2 : 64 < m.fi
    ·have d2 : decide ((64 : Int) < m.fi) = true:=by simpa using q2
     exact gX
    have d2 : decide ((64 : Int) < m.fi) = false:=by simpa using q2
    by_cases q3 : m.mo < m.fi
    ·have d3 : decide (m.mo < m.fi) = true:=by simpa using q3
     exact gX
    have d3 : decide (m.mo < m.fi) = false:=by simpa using q3
    have d4 : decide ((64 : Int) < m.mo) = true:=aG;exact gX
   ·have HV:=hid (show orE (e3 m) (orE (e4 m) (e5 m)) = 0 by
     rw [aP hE0];unfold e4 e5 iP
     rw [if_neg ae,if_neg ae]; rfl)
    clear hE0;have d1 : decide (m.fi < 0) = false:=aG;have d2 : decide ((64 : Int) < m.fi) = false:=aG;have d3 : decide (m.mo < m.fi) = false:=aG;have d4 : decide ((64 : Int) < m.mo) = false:=aG;exact gX
theorem wY (s : ByteArray) (w : World) (hs : s.size ≤ 2000000) :
  Calls Tryz.prog 223 #[.string s] w fun e w' => ∃ a c,e = .returned (.slice a (eI s).length c) ∧ Seg w' a (eI s).length c (eI s) ∧ (a = none → c = 0) ∧ Below w.heap.size w w':=by
 refine (LN s w hs).mono ?_;rintro e w' ⟨a,c,he,hsg,hb⟩;have hl : (eI s).length = (au s.size).length + s.size:=yO s;have hu:=aA s.size;rw [← hl] at he hsg
 refine ⟨a,c,he,hsg,fun h => ?_,hb⟩
 rcases hsg.2.2.2.2 with h0 | ⟨b,off,e2,_⟩
 ·omega
 ·rw [h] at e2; cases e2
theorem qF : ∀ (l : List Int),okL l → ∀ z ∈ dh l,0 ≤ z ∧ z ≤ 255
 | [],_,z,hz => by simp [dh] at hz
 | x :: l,h,z,hz => by
  simp only [dh,List.mem_append] at hz
  rcases hz with hz | hz
  ·exact eV x h.1.1 (by have:=h.1.2; omega) z hz
  ·exact qF l h.2 z hz
theorem Gc {x : InM} (h0 : 0 ≤ x.1) (h1 : x.1 ≤ 255) (h : cA x = 0) : ∀ z ∈ cK x,0 ≤ z ∧ z ≤ 255:=by
 intro z hz;obtain ⟨k1,k2,k3,k4,k5⟩:=oq h;have lr:=jR (tkV x.1) (lgV x.1);have hr:=kx (tkV x.1) (lgV x.1);unfold cK jh xt at hz
 rcases List.mem_cons.1 hz with rfl | hz
 ·exact ⟨h0,h1⟩
 ·by_cases t0 : tkV x.1 = 0
  ·rw [if_pos t0] at hz; cases hz
  ·rw [if_neg t0] at hz
   by_cases t8 : tkV x.1 = 8
   ·rw [if_pos t8] at hz;have hf:=kz x.2.1 ae ae;exact eV _ hf.1 hf.2 z hz
   ·rw [if_neg t8] at hz;have hh:=hr.2.2 t8
    by_cases t3 : tkV x.1 = 3
    ·rw [if_pos t3] at hz;obtain ⟨q1,q2,q3⟩:=k4 t3
     rcases List.mem_append.1 hz with hz | hz
     ·exact eV _ ae ae z hz
     ·exact qF _ q3 z hz
    ·rw [if_neg t3] at hz;exact eV _ ae ae z hz
theorem MQ (x : InM) (w : World) (h0 : 0 ≤ x.1) (h1 : x.1 ≤ 255) (hl : fN w x.2.2.1.1 x.2.2.1.2.1 x.2.2.1.2.2 x.2.2.2) (hx : cA x = 0) :
  Calls Tryz.prog 226 #[.agg #[.int .u8 x.1,.int .i64 x.2.1,.slice x.2.2.1.1 x.2.2.1.2.1 x.2.2.1.2.2]] w fun e w' => ∃ a c,e = .returned (.tuple #[.slice a (cK x).length c,.int .i64 0]) ∧ Seg w' a (cK x).length c (cK x) ∧ (a = none → c = 0) ∧ Below w.heap.size w w':=by
 have h:=EH x.1 x.2.1 _ _ _ x.2.2.2 w h0 h1 hl hx;unfold iy at h;refine h.mono ?_;rintro e w' ⟨v,he,ho,hb⟩;have hle:=iq hx
 obtain ⟨a,c,rfl,hs,hn⟩:=jv (zs:=cK x) ho (by show (cK x).length ≤ _; omega) (Gc h0 h1 hx)
 exact ⟨a,c,he,hs,hn,hb⟩
theorem tR {w : World} {b : Nat} {z : Int} (h : w.cell? ⟨b,0,none⟩ = some (.int .u8 z)) (h0 : 0 ≤ z) (h1 : z ≤ 255) : Seg w (some ⟨b,0,none⟩) [z].length 1 [z] :=
 ⟨rfl,ak,ak,fun y hy => (by have e : y = z:=(by simpa using hy);subst e;exact ⟨h0,h1⟩),.inr ⟨b,0,rfl,fun j hj => by
  have : j = 0:=by simp at hj; omega
  subst this; simpa using h⟩⟩
theorem yP {nf : Int} {ah : List Ex} {x : Ex} (h : dB nf ah x = 0) : (cX x).length ≤ 60:=by
 unfold dB at h
 split at h
 ·cases h
 ·have a:=cI x.1 32 ae;have b:=aA x.2
  simp only [cX,List.length_append]; omega
theorem GI {α β : Type} (g : α → List β) (L : List α) {t : Nat} {x : α} (h : L[t]? = some x) : (L.take (t + 1)).flatMap g = (L.take t).flatMap g ++ g x:=by
 rw [List.take_add_one,h]
 simp
theorem jo {α : Type} (enc : α → List Int) {xs : List α} {t : Nat} {x : α} (h : xs[t]? = some x) : (xs.take (t + 1)).flatMap enc = (xs.take t).flatMap enc ++ enc x:=GI enc xs h
theorem AE {m : MM} (h : dQ m = 0) : e1 m = 0 ∧ e2 m = 0 ∧ e3 m = 0 ∧ e4 m = 0 ∧ e5 m = 0 ∧ e6 m = 0 ∧ e7 m = 0 ∧ e8 m = 0:=by
 unfold dQ at h;obtain ⟨h1,h⟩:=cf h;obtain ⟨h2,h⟩:=cf h;obtain ⟨h3,h⟩:=cf h;obtain ⟨h4,h⟩:=cf h;obtain ⟨h5,h⟩:=cf h;obtain ⟨h6,h⟩:=cf h;obtain ⟨h7,h⟩:=cf h;exact ⟨h1,h2,h3,h4,h5,h6,h7,h⟩
theorem fe {α : Type} {f : List α → α → Int} {most : Int} {xs : List α} (h : bq f most xs = 0) : ∀ (j : Nat) x,xs[j]? = some x → f (xs.take j) x = 0:=by
 unfold bq at h
 split at h
 ·cases h
 ·intro j x hj
  have:=bp f xs [] h j x hj
  exact bY
end Go.Proofs.YtepnnenohjfkbaaGreatDoor

/-
  Texts Rh Rd Re.
-/
import Derived.Test.YtheefojaplnnoaaGreatDoorP00
import Derived.Test.YtheefojaplnnoaaGreatDoorP01
import Derived.Test.YtheefojaplnnoaaGreatDoorP03
import Derived.Test.YtheefojaplnnoaaGreatDoorP18
import Derived.Test.YtheefojaplnnoaaGreatDoorP35
set_option linter.unusedVariables false
set_option maxRecDepth 100000
set_option maxHeartbeats 16000000
namespace Go.Proofs.YtheefojaplnnoaaGreatDoor
open Go.RowKit
theorem ky {B b : Nat} {w : World} (hB : B ≤ b) : ∀ (vs : List Value) (o : Nat) (w1 : World),Below B w w1 → Below B w (w1.setCells b o vs)
 | [],_,_,h => h
 | v :: r,o,w1,h => ky hB r (o + 1) _ (h.setCell (by simpa using hB) v)
theorem na (s : ByteArray) : byteCells s = (aZ s).map (Value.int .u8):=by
 unfold byteCells aZ;rw [List.map_map];rfl
theorem IW (w : World) (base g n cap : Nat) (l : List Int) (s : ByteArray) (hown : w.ownsRow base 5 1 (.slice (some ⟨g,0,none⟩) n cap) n (l.map (Value.int .u8))) (hbase : base ≤ w.heap.size)
  (hr : ∀ z ∈ l,0 ≤ z ∧ z ≤ 255) (hn : n ≤ 1000) (hs : s.size ≤ 2000000) :
  ∃ a c W,(∀ ty,(Builtin.append_ #[63,9] ty #[.slice (some ⟨g,0,none⟩) n cap,.string s]).run Tryz.prog w = .ok (.slice a (n + s.size) c) W) ∧ Seg W a (n + s.size) c (l ++ aZ s) ∧ Below base w W:=by
 obtain ⟨i0,hi,hz0,hz1,hz2⟩:=info_parts Tryz.info5
 have hll : l.length = n:=by have:=hown.1; simpa using this
 have hsrc:=Src.ofString (P:=Tryz.prog) w (tx:=9) Tryz.underlying9 s
 have hsrc' : Src Tryz.prog i0.size 9 (.string s) s.size (byteCells s) w:=by rw [hz1]; exact hsrc
 have hbl:=byteCells_length s
 have hlen : (l ++ aZ s).length = n + s.size:=by rw [List.length_append,eO,hll]
 have hrr : ∀ z ∈ l ++ aZ s,0 ≤ z ∧ z ≤ 255:=by
  intro z hz
  rcases List.mem_append.1 hz with hz | hz
  ·exact hr z hz
  ·exact kq s z hz
 obtain ⟨hbg,cur,hh,hnc,hcm,hcs⟩ : base ≤ g ∧ ∃ cur,w.heap[g]? = some (.cells cur 5) ∧ n ≤ cap ∧ cap ≤ maxLen ∧ cur.size = cap:=by
  rcases hown.2 with ⟨h,_⟩ | ⟨g',cp,cur,h1,h2,h3,h4,h5,h6,_⟩
  ·cases h
  ·simp at h1
   obtain ⟨rfl,rfl⟩:=h1
   exact ⟨h2,cur,h3,h4,h5,by simpa using h6⟩
 by_cases hroom : n + s.size ≤ cap
 ·have hsome : ∀ j,j < (byteCells s).length → (w.cell? ⟨g,n + j,none⟩).isSome = true:=by
   intro j hj
   rw [cell_of_row w g (n + j) cur 5 (0,0) hh,Array.getElem?_eq_getElem ae]; rfl
  have hrun:=fun ty => run_append_room_src w 63 9 ty 5 i0 Tryz.underlying63 hi g 0 n cap (.string s) s.size (byteCells s) hsrc' hroom
   (by intro j hj; rw [hz1,Nat.zero_add,Nat.mul_one]; exact hsome j hj)
   (by intro j hj; rw [hz1,Nat.zero_add,Nat.mul_one]; exact World.ownsRow.frozenAt hown (n + j))
  simp only [hz1,Nat.zero_add,Nat.mul_one] at hrun
  refine ⟨_,_,_,hrun,⟨hlen,hroom,ae,hrr,.inr ⟨g,0,rfl,fun j hj => ?_⟩⟩,ky hbg _ _ _ (Below.refl _ _)⟩
  rw [Nat.zero_add]
  by_cases hjn : j < n
  ·rw [World.cell?_setCells_out g (byteCells s) n w ⟨g,j,none⟩ (fun _ _ => .inl hjn),World.ownsRow.cellAt hown j ae]
   have h1 : j < l.length:=ae
   simp [List.getElem?_append_left h1,h1]
  ·have h1:=World.cell?_setCells_in g (byteCells s) n w hsome (j - n) ae
   rw [show n + (j - n) = j by omega] at h1
   rw [h1]
   have h2 : j - n < (aZ s).length:=by rw [eO]; omega
   have h3 : (byteCells s)[j - n]'(ae) = .int .u8 ((aZ s)[j - n]'h2):=by
    simp only [na,List.getElem_map]
   have h4 : (l ++ aZ s).getD j 0 = (aZ s)[j - n]'h2:=by
    rw [List.getD_eq_getElem?_getD,List.getElem?_append_right ae,hll,aN h2,Option.getD_some]
   rw [h3,h4]
 ·have hold : (Builtin.firstCells i0.size n (.slice (some ⟨g,0,none⟩) n cap)).run Tryz.prog w.drew = .ok (l.map (Value.int .u8)).toArray w.drew:=by
   refine run_firstCells_some w.drew i0.size n ⟨g,0,none⟩ n cap _ (by rw [hz1]; simpa using hll) ?_
   intro j v hj;have hplain : (⟨g,0,none⟩ : Addr).add j = ⟨g,j,none⟩:=gS
   have hj' : j < (l.map (Value.int .u8)).length:=by
    rcases Nat.lt_or_ge j (l.map (Value.int .u8)).length with h | h
    ·exact h
    ·rw [List.getElem?_eq_none h] at hj; cases hj
   have : w.cell? ⟨g,j,none⟩ = some v:=(World.ownsRow.cellAt hown j (by simp at hj'; omega)).trans hj
   rw [hplain];exact this
  have hfit : Builtin.nextslicecap (n + s.size) cap * i0.bytes ≤ 281474976710656:=by
   have:=nextslicecap_le (need:=n + s.size) (old:=cap) ae
   rw [hz2]; omega
  have hrun:=fun ty => run_append_grow_src w 63 9 ty 5 i0 (.int .u8 0) Tryz.underlying63 hi hz0 (some ⟨g,0,none⟩) n cap _ hold (.string s) s.size (byteCells s) hsrc' ae ae hfit
  refine ⟨_,_,_,hrun,⟨hlen,grownCap_ge _ _ _ _,ae,hrr,.inr ⟨w.heap.size,0,rfl,fun j hj => ?_⟩⟩,((Below.refl _ _).drew).alloc (by simpa using hbase) _⟩
  rw [Nat.zero_add];refine (World.cell?_alloc_mark w.drew _ _ _ j).trans ?_;have h1 : j < (l ++ aZ s).length:=ae
  have h2 : (l.map (Value.int .u8) ++ byteCells s) = (l ++ aZ s).map (Value.int .u8):=by rw [na,List.map_append]
  rw [h2,Array.getElem?_append_left nP]
  simp only [List.getElem?_toArray,List.getElem?_map,aN h1,Option.map_some,List.getD_eq_getElem?_getD,Option.getD_some]
theorem mD {P : Program} (w : World) {ops : Array Oper} {rest : List Oper} {o : Oper} {a : Act} {Q : Exit → Act → World → Prop} (hg : o.guard = none)
  (s x : Operand) (t tx : TypeId) (hop : o.op = Op.call { callee:=Callee.builtin Builtin.append,args:=#[s,x],argTypes:=#[t,tx] }) (vs vx v' : Value) (w' : World) (hs : a.eval s = vs) (hx : a.eval x = vx)
  (hrun : ∀ ty,(Builtin.append_ #[t,tx] ty #[vs,vx]).run P w = .ok v' w') (hK : wpList P ops Q rest (a.put o.dst v') w') : wpList P ops Q (o :: rest) a w:=by
 refine wpList_plain hg fun K hK' => ?_
 unfold Oper.wp
 simp [execOp,hop,resolve,invoke,builtin,hs,hx,hrun,Result.andThen]
 exact hK' _ _ hK
theorem IH (s : ByteArray) (w : World) (hs : s.size ≤ 2000000) :
  Calls Tryz.prog 211 #[.string s] w fun e w' => ∃ a c,e = .returned (.slice a ((au s.size).length + s.size) c) ∧ Seg w' a ((au s.size).length + s.size) c (au s.size ++ aZ s) ∧ Below w.heap.size w w':=by
 have HB:=hid (t7 s.size w ae ae);have hl:=ay s.size;have hr:=fE s.size ae ae;generalize au s.size = l at *
 go_enter Tryz.func211,Tryz.ntmps211
 go_wp2_with fail;refine HB.out.mono ?_;rintro e w1 ⟨y,rfl,hs1,hb1⟩
 obtain ⟨g,cap,rfl⟩ : ∃ g cap,y = .slice (some ⟨g,0,none⟩) l.length cap:=by
  rcases hs1.2 with ⟨_,h⟩ | ⟨g,cap,cur,h,_⟩
  ·omega
  ·exact ⟨g,cap,h⟩
 obtain ⟨a,c,W,hrun,hsg,hbl⟩:=IW w1 w.heap.size g l.length cap l s hs1 hb1.size hr ae hs;have HB1:=hid hb1;have HSG:=hid hsg;have HBL:=hid hbl;have HR:=hid hrun;clear hs1 hb1 hr HB hsg hbl hrun
 go_wp2_with (at_builtin; refine mD _ rfl (.tmp 8) (.tmp 9) 63 9 rfl _ _ _ _ rfl rfl HR.out ?_)
 go_ret;exact ⟨a,c,rfl,HSG.out,HB1.out.trans HBL.out⟩
abbrev Byt (w : World) (base : Nat) (v : Value) (bs : List Int) : Prop:=w.ownsRow base 5 1 v bs.length (bs.map (Value.int .u8))
theorem Gm {w : World} {base : Nat} {v : Value} {bs : List Int} (h : Byt w base v bs) : ∃ a c,v = .slice a bs.length c:=by
 exact A0
theorem di (w : World) {ops : Array Oper} {rest : List Oper} {o : Oper} {a : Act} {Q : Exit → Act → World → Prop} (hgd : o.guard = none)
  (s x : Operand) (ho : o.op = Op.call { callee:=Callee.builtin Builtin.append,args:=#[s,x],argTypes:=#[63,63] }) (base : Nat) (v : Value) (P : List Int)
  (hs : a.eval s = v) (hown : Byt w base v P) (ao : Option Addr) (c : Nat) (zs : List Int) (hx : a.eval x = .slice ao zs.length c)
  (hseg : Seg w ao zs.length c zs) (hnone : ao = none → c = 0) (hb : P.length + zs.length ≤ 1099511627776) (hbase : base ≤ w.heap.size)
  (h : ∀ (v' : Value) (w' : World),Byt w' base v' (P ++ zs) → Below base w w' → aJ (fun k => some k = v.ownBlock) w w' → wpList Tryz.prog ops Q rest (a.put o.dst v') w') :
  wpList Tryz.prog ops Q (o :: rest) a w:=by
 obtain ⟨i0,hi,hz0,hz1,hz2⟩:=info_parts Tryz.info5
 cases ao with
 | none =>
  have hc:=hnone rfl;subst hc
  have hm : zs.length = 0:=by have:=hseg.2.1; omega
  have hzs : zs = []:=List.eq_nil_of_length_eq_zero hm;subst hzs;refine wpList_append_own_none hgd s x 63 ho base 5 i0 1 Tryz.underlying63 hi v P.length _ hs hown hx ?_
  refine h v w ?_ (Below.refl _ _) ⟨rfl,rfl,rfl,Nat.le_refl _,fun k _ _ => rfl⟩
  simpa using hown
 | some ad =>
  refine wpList_append_own w hgd s x 63 ho base 5 i0 (.int .u8 0) 1 1 Tryz.underlying63 hi hz0 hz1 hz2 rfl av v P.length _ hs hown ad zs.length c (zs.map (Value.int .u8)) hx aq
   (jo hseg ad rfl) (j5 _) bU ae hbase ?_
  intro v' w' ho' hg _;refine h v' w' ?_ (nA hown hg hbase) (aJ.of_grown hg);unfold Byt
  rw [List.length_append,List.map_append]; exact ho'
theorem gZ {w w' : World} {base F t : Nat} {v : Value} {P : List Int} {cs : Array Value} (hF : w.heap[F]? = some (.cells cs t)) (ht : t ≠ 5) (hb : Byt w base v P) (hk : aJ (fun k => some k = v.ownBlock) w w') : w'.heap[F]? = some (.cells cs t):=by
 have hlt : F < w.heap.size:=by
  rcases Nat.lt_or_ge F w.heap.size with h | h
  ·exact h
  ·rw [Array.getElem?_eq_none h] at hF; cases hF
 refine (hk.block F hlt (fun e => ?_)).trans hF
 rcases hb.2 with ⟨h0,_⟩ | ⟨g,cp,cur,h1,_,h3,_⟩
 ·rw [h0] at e; cases e
 ·rw [h1] at e
  have : F = g:=by simpa [Value.ownBlock] using e
  subst this;rw [hF] at h3
  simp at h3
  exact ht h3.2
theorem fq (base : Nat) (v : Value) (bs : List Int) (n : Int) (w : World) (h : Byt w base v bs) (hb : base ≤ w.heap.size) (hl : bs.length ≤ 1000000000) (n0 : 0 ≤ n) (n1 : n < 9223372036854775808) :
  Calls Tryz.prog 210 #[v,.int .i64 n] w fun e w' => ∃ y,e = .returned y ∧ Byt w' base y (bs ++ au n) ∧ Below base w w' ∧ aJ (fun k => some k = v.ownBlock) w w':=by
 obtain ⟨a,c,rfl⟩:=Gm h
 have SV:=hid (fun W => qQ n W n0 ae)
 have hul:=ay n;have hw:=cg n n0 ae;have HO:=hid h;generalize au n = U at *;clear h
 go_enter Tryz.func210,Tryz.ntmps210
 go_wp2_with fail;refine (SV.out _).mono ?_;rintro e w4 ⟨ua,uc,rfl,hs4,hn4,hb4⟩;have S4:=hid hs4;have N4:=hid hn4;have B4:=hid hb4;have O4:=hid (aI HO.out hb4);have hbs : base ≤ w4.heap.size:=Nat.le_trans hb hb4.size;clear hs4 hb4 SV hn4
 go_wp2_with (at_builtin; (refine di _ rfl (.tmp 5) (.tmp 8) rfl base _ bs rfl O4.out _ _ U rfl S4.out N4.out ae hbs ?_; intro v5 w5 hown5 hb5 hk5; have O5:=hid hown5; have B5:=hid ((B4.out.mono hb).trans hb5); have K5:=hid (((az B4.out).mono (fun _ h => False.elim h)).trans hk5); clear hown5 hb5 hk5))
 go_ret;exact ⟨_,rfl,O5.out,B5.out,K5.out⟩
theorem rK (x : Gl) (w : World) (h0 : 0 ≤ x.2.2) (h1 : x.2.2 < 18446744073709551616) (hf : x.1 = 119 → x.2.2 < 4294967296) :
  Calls Tryz.prog 37 #[.agg #[.int .u8 x.1,.bool x.2.1,.int .u64 x.2.2]] w fun e w' => e = .returned (.int .i64 (sgn x.1 x.2.2)) ∧ Below w.heap.size w w':=by
 obtain ⟨c,mu,v⟩:=x;dsimp only at *;have HB:=hid (ak w (bo c mu v))
 by_cases hc : c = 119
 ·subst hc;have hv:=hf rfl
  by_cases h2 : 2147483648 ≤ v
  ·have HV:=hid (show v - 4294967296 = sgn 119 v by unfold sgn; rw [if_pos rfl,if_pos hv,if_neg ae])
   have hw : wrap64 v = v:=cQ;have hw2 : wrap64 (v - 4294967296) = v - 4294967296:=cQ;exact A9
  ·have HV:=hid (show v = sgn 119 v by unfold sgn; rw [if_pos rfl,if_pos hv,if_pos ae])
   have hw : wrap64 v = v:=cQ;exact A9
 ·have hcb : (c == 119) = false:=by simpa using hc
  have HV:=hid (show wrap64 v = sgn c v by
   unfold sgn wrap64;rw [if_neg hc]
   split <;> omega)
  go_enter Tryz.func37,Tryz.ntmps37
  go_wp2_with fail;go_ret
  exact ⟨by rw [← HV.out]; rfl,HB.out⟩
theorem DL (s : ByteArray) (most : Nat) (w : World) (hs : s.size ≤ 281474976710656) (hm : most ≤ 1073741824) :
  Calls Tryz.prog 162 #[.string s,.int .i64 most] w fun e w' => e = .returned (.bool (bP s most)) ∧ w' = w:=by
 by_cases hbig : most < s.size
 ·exact GK
 ·exact ol s most w ae hm
def ltE (s : ByteArray) (most : Nat) : Int:=if most < s.size then 13 else if bP s most = false then 15 else 0
theorem mf (s : ByteArray) (most : Nat) (w : World) (hs : s.size ≤ 281474976710656) (hm : most ≤ 1073741824) :
  Calls Tryz.prog 240 #[.string s,.int .i64 most] w fun e w' => e = .returned (.int .i64 (ltE s most)) ∧ w' = w:=by
 by_cases hbig : most < s.size
 ·have h' : (most : Int) < s.size:=ae
  have HV:=hid (show ltE s most = 13 by unfold ltE; rw [if_pos hbig])
  go_enter Tryz.func240,Tryz.ntmps240
  go_wp2;go_ret;exact ⟨cO,rfl⟩
 ·have h' : ¬ (most : Int) < s.size:=ae;have he:=DL s most w hs hm
  cases hb : bP s most with
  | false =>
   rw [hb] at he;have HE:=hid he
   have HV:=hid (show ltE s most = 15 by unfold ltE; rw [if_neg hbig,if_pos hb])
   exact EQ
  | true =>
   rw [hb] at he;have HE:=hid he
   have HV:=hid (show ltE s most = 0 by unfold ltE; rw [if_neg hbig,if_neg (by rw [hb]; simp)])
   exact EQ
theorem Km (v c : Int) (w : World) : Calls Tryz.prog 241 #[.int .u64 v,.int .u8 c] w fun e w' => e = .returned (.bool (eJ v c)) ∧ w' = w:=by
 rcases kT c with ⟨rfl,h⟩ | ⟨rfl,h⟩ | ⟨h1,h2,h⟩
 all_goals
  go_enter Tryz.func241,Tryz.ntmps241
  go_wp2;go_ret
  first | exact ⟨rfl,rfl⟩ | (simp_all [eJ])
theorem pJ (s : ByteArray) : iR s = true ↔ 0 < s.size ∧ ∀ i,i < s.size → 33 ≤ eH s i ∧ eH s i ≤ 126:=by
 unfold iR aZ;rw [Bool.and_eq_true,List.all_eq_true,jl]
 constructor
 ·intro ⟨h1,h2⟩
  have h3 : s.data.toList ≠ []:=by intro e; rw [e] at h2; simp at h2
  refine ⟨by rw [cV]; exact List.length_pos_iff.2 h3,fun i hi => ?_⟩
  have hi' : i < s.data.toList.length:=by rw [cV] at hi; exact hi
  have:=h1 ((s.data.toList[i]'hi').toNat : Int) (List.mem_map.2 ⟨_,List.getElem_mem hi',rfl⟩)
  rw [eH,aN hi',Option.getD_some];exact b9
 ·intro ⟨h1,h2⟩
  refine ⟨fun b hb => ?_,?_⟩
  ·obtain ⟨c,hc,rfl⟩:=List.mem_map.1 hb;obtain ⟨i,hi,rfl⟩:=List.getElem_of_mem hc
   have:=h2 i (by rw [cV]; exact hi)
   rw [eH,aN hi,Option.getD_some] at this;exact b9
  ·rw [cV] at h1
   cases h : s.data.toList with
   | nil => rw [h] at h1; simp at h1
   | cons a r => rfl
def nmE (s ahead : ByteArray) (first : Bool) : Int:=if 32 < s.size then 13 else if iR s = false then 23 else if first = false ∧ sGt s ahead = false then 18 else 0
theorem DN (s ahead : ByteArray) (first : Bool) (w : World) (hs : s.size ≤ 281474976710656) :
  Calls Tryz.prog 243 #[.string s,.string ahead,.bool first] w fun e w' => e = .returned (.int .i64 (nmE s ahead first)) ∧ w' = w:=by
 by_cases hbig : 32 < s.size
 ·have h' : (32 : Int) < s.size:=ae
  have HV:=hid (show nmE s ahead first = 13 by unfold nmE; rw [if_pos hbig])
  exact AW
 have h' : ¬ (32 : Int) < s.size:=ae
 by_cases h0 : s.size = 0
 ·have HV:=hid (show nmE s ahead first = 23 by
   unfold nmE;rw [if_neg hbig,if_pos]
   cases hb : iR s with
   | false => rfl
   | true => have:=((pJ s).1 hb).1; omega)
  have hl : (s.toList == []) = true:=by
   rw [jl]
   have : s.data.toList = []:=List.eq_nil_of_length_eq_zero (by rw [← cV]; exact h0)
   rw [this]; rfl
  exact AW
 have hl : (s.toList == []) = false:=by
  rw [jl]
  cases h : s.data.toList with
  | nil => rw [cV,h] at h0; exact absurd rfl h0
  | cons a r => rfl
 have HL:=hid hl
 go_enter Tryz.func243,Tryz.ntmps243
 go_wp2_with fail
 go_loop [7] (fun i => ∃ k : Nat,k ≤ s.size ∧ i = .int .i64 k ∧ ∀ i,i < k → 33 ≤ eH s i ∧ eH s i ≤ 126) (fun i => s.size - (intOf i).toNat)
 case atStart => exact ⟨0,Nat.zero_le _,rfl,fun i h => ae⟩
 case round =>
  obtain ⟨k,hk,rfl,hall⟩:=hrel;have HA:=hid hall;clear hall
  by_cases hlt : k < s.size
  ·have hlt' : (k : Int) < s.size:=ae;have hbk:=jr s k hlt
   by_cases hc : 33 ≤ eH s k ∧ eH s k ≤ 126
   ·have c1 : decide (((s[k]'hlt).toNat : Int) < 33) = false:=x8;have c2 : decide ((126 : Int) < ((s[k]'hlt).toNat : Int)) = false:=x8;go_wp2_with fail
    refine ⟨⟨k + 1,ae,aq,fun i hi => ?_⟩,bD⟩
    rcases Nat.lt_or_ge i k with h | h
    ·exact HA.out i h
    ·obtain rfl : i = k:=ae;exact hc
   ·have HV:=hid (show nmE s ahead first = 23 by
     unfold nmE;rw [if_neg hbig,if_pos]
     cases hb : iR s with
     | false => rfl
     | true => exact absurd (((pJ s).1 hb).2 k hlt) hc)
    by_cases hc1 : eH s k < 33
    ·have c1 : decide (((s[k]'hlt).toNat : Int) < 33) = true:=by rw [hbk]; simpa using hc1
     exact mE
    ·have c1 : decide (((s[k]'hlt).toNat : Int) < 33) = false:=by rw [hbk]; simpa using hc1
     have c2 : decide ((126 : Int) < ((s[k]'hlt).toNat : Int)) = true:=x8;exact mE
  ·have hlt' : ¬ (k : Int) < s.size:=ae
   have hnm : iR s = true:=(pJ s).2 ⟨ae,fun i hi => HA.out i ae⟩
   cases first with
   | true =>
    have HV:=hid (show nmE s ahead true = 0 by unfold nmE; rw [if_neg hbig,if_neg (by rw [hnm]; simp),if_neg aq])
    exact mE
   | false =>
    cases hg : (Op.bytesLess s.toList ahead.toList || s.toList == ahead.toList) with
    | true =>
     have HV:=hid (show nmE s ahead false = 18 by
      unfold nmE
      rw [if_neg hbig,if_neg (by rw [hnm]; simp),if_pos]
      refine ⟨rfl,?_⟩;unfold sGt
      cases h1 : Op.bytesLess s.toList ahead.toList with
      | true => rfl
      | false =>
       rw [h1,Bool.false_or] at hg
       rw [hg]; rfl)
     exact mE
    | false =>
     have HV:=hid (show nmE s ahead false = 0 by
      unfold nmE
      rw [if_neg hbig,if_neg (by rw [hnm]; simp),if_neg]
      intro hx;obtain ⟨h1,h2⟩:=Bool.or_eq_false_iff.1 hg;have h3:=hx.2;unfold sGt at h3;rw [h1,h2] at h3
      cases h3)
     exact mE
theorem iq {α : Type} {l : List α} {n : Nat} (h : l.length = n) : l.take n = l:=List.take_of_length_le ae
theorem CF (ah : List Sg) (x : Sg) : cd ah x = orE (ltE x.1 8) (orE (ltE x.2 8) (if fI ah x = true then 16 else 0)):=by
 unfold cd ltE orE
 by_cases h1 : 8 < x.1.size
 ·simp [h1]
 ·by_cases h2 : bP x.1 8 = false
  ·simp [h1,h2]
  ·by_cases h3 : 8 < x.2.size
   ·simp [h1,h2,h3]
   ·by_cases h4 : bP x.2 8 = false <;> simp [h1,h2,h3,h4]
theorem Dm {ah : List Sg} {x y : Sg} {k : Nat} (hk : ah[k]? = some y) (h : ((y.1.toList == x.1.toList) && (y.2.toList == x.2.toList)) = true) : fI ah x = true:=by
 unfold fI;rw [List.any_eq_true];exact ⟨y,List.mem_of_getElem? hk,h⟩
theorem qY (m : MM) (w : World) (pt : fk w m.ta m.tn m.types) (ph : i6 w m.ha m.hn m.hosts) (hr : ∀ (j : Nat) x,m.hosts[j]? = some x → -9223372036854775808 ≤ x ∧ x < 9223372036854775808) (hs : ∀ (j : Nat) x,m.types[j]? = some x → x.1.size ≤ 281474976710656 ∧ x.2.size ≤ 281474976710656) (htn : m.tn ≤ 281474976710656) (hhn : m.hn ≤ 281474976710656) :
  Calls Tryz.prog 206 #[.agg (mV m)] w fun e w' => e = .returned (.int .i64 (orE (e1 m) (e2 m))) ∧ Below w.heap.size w w':=by
 have HPT:=hid (fun (W : World) (hb : Below w.heap.size w W) => pt.kept (az hb) (fun _ _ _ _ => id))
 have HPH:=hid (fun (W : World) (hb : Below w.heap.size w W) => ph.kept (az hb) (fun _ _ _ _ => id))
 have HR:=hid hr;have HS:=hid hs;have tl:=pt.1;have hl:=ph.1;clear pt ph hr hs;have B0:=ak w (.cells (mV m) 29);have b0:=heap_alloc_new w (.cells (mV m) 29);have HW : w.alloc (bg m.ta m.tn m.tc m.ha m.hn m.hc m.ga m.gn m.gc m.fi m.mo m.fa m.fn m.fc m.da m.dn m.dc m.ea m.en m.ec) = w.alloc (.cells (mV m) 29):=rfl;generalize w.alloc (.cells (mV m) 29) = W0 at *;have HB0:=hid B0
 have HX:=hid (fun (W : World) (hb : Below W0.heap.size W0 W) => (⟨ai hb (ag b0),ai hb (ag b0)⟩ : W.cell? ⟨w.heap.size,0,none⟩ = some (.slice m.ta m.tn m.tc) ∧ W.cell? ⟨w.heap.size,1,none⟩ = some (.slice m.ha m.hn m.hc)))
 obtain ⟨m0,m1⟩:=HX.out W0 (Below.refl _ _);clear B0 b0
 show Calls Tryz.prog 206 #[.agg #[.slice m.ta m.tn m.tc,.slice m.ha m.hn m.hc,.slice m.ga m.gn m.gc,.int .i64 m.fi,.int .i64 m.mo,.slice m.fa m.fn m.fc,.slice m.da m.dn m.dc,.slice m.ea m.en m.ec]] w _
 by_cases ht : 64 < m.tn
 ·have HV:=hid (show orE (e1 m) (e2 m) = 20 by
   have : e1 m = 20:=by unfold e1 bu; rw [if_pos ae]
   rw [this]; rfl)
  have ht' : (64 : Int) < (m.tn : Int):=ae
  go_enter Tryz.func206,Tryz.ntmps206
  exact o9
 have ht' : ¬ (64 : Int) < (m.tn : Int):=ae
 have HE1:=hid (show e1 m = bi cd [] m.types by unfold e1 bu; rw [if_neg ae])
 go_enter Tryz.func206,Tryz.ntmps206
 go_wp2_with fail;clear m0 m1 HW
 go_loopw [3,4,5] (fun i _ _ wr => ∃ t : Nat,t ≤ m.tn ∧ i = .int .i64 t ∧ Hid (bi cd [] (m.types.take t) = 0) ∧ Hid (Below W0.heap.size W0 wr)) (fun i _ _ _ => m.tn - (intOf i).toNat)
 case atStart => exact ⟨0,Nat.zero_le _,rfl,hid rfl,hid (Below.refl _ _)⟩
 case round =>
  obtain ⟨t,htn,rfl,HF,HB⟩:=hrel;obtain ⟨m0,m1⟩:=HX.out wr HB.out
  by_cases hlt : t < m.tn
  ·have hlt' : (t : Int) < (m.tn : Int):=ae;obtain ⟨x,hx⟩ : ∃ x,m.types[t]? = some x:=⟨_,aN ae⟩;obtain ⟨tb,tof,hta,hat⟩:=(HPT.out wr (HB0.out.trans (HB.out.mono HB0.out.size))).2.resolve_left ae;obtain ⟨g0,g1⟩:=hat t x hx;obtain ⟨s0,s1⟩:=HS.out t x hx;have HL0:=hid (mf x.1 8 wr s0 ae);have HL1:=hid (mf x.2 8 wr s1 ae);have HC:=hid (CF (m.types.take t) x)
   have HH:=hid (fun hne => eF cd m.types t x hx HF.out hne)
   have HT:=hid (fun hz => eD cd m.types t x hx HF.out hz)
   have HAT:=hid hat;have hk0 : (0 : Int) ≤ (t : Int):=ae;clear hat;rw [hta] at m0
   try rw [hta]
   by_cases z0 : ltE x.1 8 = 0
   ·rw [z0] at HL0
    by_cases z1 : ltE x.2 8 = 0
    ·rw [z1] at HL1;go_wp2_with fail;refine HL0.out.mono ?_;rintro e w1 ⟨rfl,hw⟩;have hw2:=hw.symm;subst hw2;go_wp2_with fail;refine HL1.out.mono ?_;rintro e w1 ⟨rfl,hw⟩;have hw2:=hw.symm;subst hw2;go_wp2_with fail;have HXT:=hid hx;clear HL0 HL1 m0 m1 g0 g1 hw hx
     go_loopw [5] (fun k wq => ∃ q : Nat,q ≤ t ∧ k = .int .i64 q ∧ Hid (fI (m.types.take q) x = false) ∧ Hid (Below W0.heap.size W0 wq)) (fun k _ => t - (intOf k).toNat)
     case atStart => exact ⟨0,Nat.zero_le _,rfl,hid rfl,HB⟩
     case round =>
      obtain ⟨q,hq,rfl,HTW,HB⟩:=hrel;obtain ⟨m0,m1⟩:=HX.out _ HB.out;rw [hta] at m0
      by_cases hqt : q < t
      ·have hqt' : (q : Int) < (t : Int):=ae;obtain ⟨y,hy⟩ : ∃ y,m.types[q]? = some y:=⟨_,aN ae⟩;obtain ⟨tb2,tof2,hta2,hat2⟩:=(HPT.out _ (HB0.out.trans (HB.out.mono HB0.out.size))).2.resolve_left ae;rw [hta] at hta2
       injection hta2 with hta2
       injection hta2 with h1 h2
       subst h1 h2;obtain ⟨g0,g1⟩:=hat2 t x HXT.out;obtain ⟨g2,g3⟩:=hat2 q y hy
       have HBD:=hid (fun (n : Nat) => (show Below W0.heap.size W0 (wr.drewN n) from bT HB.out (aJ.drewN (fun _ => False) _ n) HB.out.size (fun _ x => x.elim)))
       have hqn : (q : Int) < (m.tn : Int):=ae
       have hyt : (m.types.take t)[q]? = some y:=by rw [List.getElem?_take,if_pos hqt]; exact hy
       have HYT:=hid hyt;clear hat2 hy hyt
       by_cases hcc : y.1.toList = x.1.toList ∧ y.2.toList = x.2.toList
       ·obtain ⟨c1,c2⟩:=hcc
        have HV:=hid (show orE (e1 m) (e2 m) = 16 by
         have hc : cd (m.types.take t) x = 16:=by rw [HC.out,aP z0,aP z1,if_pos (Dm HYT.out (by simp [c1,c2]))]
         rw [HE1.out,HH.out gQ,hc]; rfl)
        exact tY
       ·have HN:=hid (show fI (m.types.take (q + 1)) x = false by
         have hqx : m.types[q]? = some y:=by have:=HYT.out; rwa [List.getElem?_take,if_pos hqt] at this
         rw [List.take_add_one,hqx];have h1:=HTW.out;unfold fI at h1 ⊢;rw [List.any_append,h1]
         simp only [Option.toList_some,List.any_cons,List.any_nil,Bool.or_false,Bool.false_or]
         cases hcm : ((y.1.toList == x.1.toList) && (y.2.toList == x.2.toList)) with
         | false => rfl
         | true => exact absurd (by simpa using hcm) hcc)
        by_cases c1 : y.1.toList = x.1.toList
        ·have c2 : ¬ y.2.toList = x.2.toList:=fun c => hcc ⟨c1,c⟩
         exact FW
        ·exact FW
      ·obtain rfl : q = t:=ae
       have HN:=hid (HT.out (by rw [HC.out,aP z0,aP z1,HTW.out]; rfl))
       go_wp2_with fail;exact ⟨⟨q + 1,ae,bB,HN,HB⟩,bD⟩
    ·have HV:=hid (show orE (e1 m) (e2 m) = ltE x.2 8 by
      have hc : cd (m.types.take t) x = ltE x.2 8:=by rw [HC.out,aP z0,cU z1]
      rw [HE1.out,HH.out (by rw [hc]; exact z1),hc,cU z1])
     generalize ltE x.2 8 = E at *
     have hE : (E != 0) = true:=by simpa using z1
     go_wp2_with fail;refine HL0.out.mono ?_;rintro e w1 ⟨rfl,hw⟩;have hw2:=hw.symm;subst hw2;go_wp2_with fail;refine HL1.out.mono ?_;exact sI
   ·have HV:=hid (show orE (e1 m) (e2 m) = ltE x.1 8 by
     have hc : cd (m.types.take t) x = ltE x.1 8:=by rw [HC.out,cU z0]
     rw [HE1.out,HH.out (by rw [hc]; exact z0),hc,cU z0])
    generalize ltE x.1 8 = E at *;have hE : (E != 0) = true:=tD;go_wp2_with fail;refine HL0.out.mono ?_;exact sI
  ·obtain rfl : t = m.tn:=ae
   have hE0 : e1 m = 0:=by rw [HE1.out]; have:=HF.out; rwa [iq tl] at this
   by_cases hh : 32 < m.hn
   ·have HV:=hid (show orE (e1 m) (e2 m) = 20 by
     have : e2 m = 20:=by unfold e2 bu; rw [if_pos ae]
     rw [aP hE0,this])
    have hh' : (32 : Int) < (m.hn : Int):=ae;exact AA
   have hh' : ¬ (32 : Int) < (m.hn : Int):=ae
   have HE2:=hid (show orE (e1 m) (e2 m) = bi (fun (_ : List Int) x => bQ m.tn x) [] m.hosts by rw [aP hE0]; unfold e2 bu; rw [if_neg ae])
   clear hE0 HE1 HF;go_wp2_with fail;clear m0 m1
   go_loopw [6] (fun i wr => ∃ t : Nat,t ≤ m.hn ∧ i = .int .i64 t ∧ Hid (bi (fun (_ : List Int) x => bQ m.tn x) [] (m.hosts.take t) = 0) ∧ Hid (Below W0.heap.size W0 wr)) (fun i _ => m.hn - (intOf i).toNat)
   case atStart => exact ⟨0,Nat.zero_le _,rfl,hid rfl,HB⟩
   case round =>
    obtain ⟨t,hth,rfl,HF,HB⟩:=hrel;obtain ⟨m0,m1⟩:=HX.out _ HB.out
    by_cases hlt : t < m.hn
    ·have hlt' : (t : Int) < (m.hn : Int):=ae;obtain ⟨x,hx⟩ : ∃ x,m.hosts[t]? = some x:=⟨_,aN ae⟩;obtain ⟨tb,tof,hha,hat⟩:=(HPH.out _ (HB0.out.trans (HB.out.mono HB0.out.size))).2.resolve_left ae;have g0:=hat t x hx;have hr:=HR.out t x hx
     have HH:=hid (fun hne => eF (fun (_ : List Int) x => bQ m.tn x) m.hosts t x hx HF.out hne)
     have HT:=hid (fun hz => eD (fun (_ : List Int) x => bQ m.tn x) m.hosts t x hx HF.out hz)
     have HBD:=hid (fun (n : Nat) => (show Below W0.heap.size W0 (wr.drewN n) from bT HB.out (aJ.drewN (fun _ => False) _ n) HB.out.size (fun _ x => x.elim)))
     rw [hha] at m1
     try rw [hha]
     clear hat hx
     by_cases hb : x < 0 ∨ (m.tn : Int) ≤ x
     ·have HV:=hid (show orE (e1 m) (e2 m) = 30 by
       have hc : bQ m.tn x = 30:=by unfold bQ; rw [if_pos hb]
       rw [HE2.out,HH.out gQ]; exact hc)
      by_cases h0 : x < 0
      ·have d0 : decide (x < 0) = true:=jG;exact tY
      ·have d0 : decide (x < 0) = false:=jG;have d1 : decide ((m.tn : Int) ≤ x) = true:=aG;exact tY
     ·have HN:=hid (HT.out (show bQ m.tn x = 0 by unfold bQ; rw [if_neg hb]))
      have d0 : decide (x < 0) = false:=aG;have d1 : decide ((m.tn : Int) ≤ x) = false:=aG;go_wp2_with fail
      go_quiet (fail)
      exact Cl
    ·obtain rfl : t = m.hn:=ae
     have HV:=hid (show orE (e1 m) (e2 m) = 0 by rw [HE2.out]; have:=HF.out; rwa [iq hl] at this)
     exact ib
theorem oX (m : MM) (w : World) (pg : kg w m.ga m.gn m.globals) (hr : ∀ (j : Nat) x,m.globals[j]? = some x → 0 ≤ x.1 ∧ x.1 ≤ 255 ∧ 0 ≤ x.2.2 ∧ x.2.2 < 18446744073709551616) (i0 : -9223372036854775808 ≤ m.fi) (i1 : m.fi < 9223372036854775808) (o0 : -9223372036854775808 ≤ m.mo) (o1 : m.mo < 9223372036854775808) (hgn : m.gn ≤ 281474976710656) :
  Calls Tryz.prog 207 #[.agg (mV m)] w fun e w' => e = .returned (.int .i64 (orE (e3 m) (orE (e4 m) (e5 m)))) ∧ Below w.heap.size w w':=by
 have HPG:=hid (fun (W : World) (hb : Below w.heap.size w W) => pg.kept (az hb) (fun _ _ _ _ => id))
 have HR:=hid hr;have gl:=pg.1;clear pg hr;have B0:=ak w (.cells (mV m) 29);have b0:=heap_alloc_new w (.cells (mV m) 29);have HW : w.alloc (bg m.ta m.tn m.tc m.ha m.hn m.hc m.ga m.gn m.gc m.fi m.mo m.fa m.fn m.fc m.da m.dn m.dc m.ea m.en m.ec) = w.alloc (.cells (mV m) 29):=rfl;generalize w.alloc (.cells (mV m) 29) = W0 at *;have HB0:=hid B0
 have HX:=hid (fun (W : World) (hb : Below W0.heap.size W0 W) => (⟨ai hb (ag b0),ai hb (ag b0),ai hb (ag b0)⟩ : W.cell? ⟨w.heap.size,2,none⟩ = some (.slice m.ga m.gn m.gc) ∧ W.cell? ⟨w.heap.size,3,none⟩ = some (.int .i64 m.fi) ∧ W.cell? ⟨w.heap.size,4,none⟩ = some (.int .i64 m.mo)))
 obtain ⟨m2,m3,m4⟩:=HX.out W0 (Below.refl _ _);clear B0 b0
 show Calls Tryz.prog 207 #[.agg #[.slice m.ta m.tn m.tc,.slice m.ha m.hn m.hc,.slice m.ga m.gn m.gc,.int .i64 m.fi,.int .i64 m.mo,.slice m.fa m.fn m.fc,.slice m.da m.dn m.dc,.slice m.ea m.en m.ec]] w _
 by_cases ht : 64 < m.gn
 ·have HV:=hid (show orE (e3 m) (orE (e4 m) (e5 m)) = 20 by
   have : e3 m = 20:=by unfold e3 bu; rw [if_pos ae]
   rw [this]; rfl)
  have ht' : (64 : Int) < (m.gn : Int):=ae
  go_enter Tryz.func207,Tryz.ntmps207
  exact o9
 have ht' : ¬ (64 : Int) < (m.gn : Int):=ae
 have HE3:=hid (show e3 m = bi (fun (_ : List Gl) x => dM x) [] m.globals by unfold e3 bu; rw [if_neg ae])
 go_enter Tryz.func207,Tryz.ntmps207
 go_wp2_with fail;clear m2 m3 m4 HW
 go_loopw [3] (fun i wr => ∃ t : Nat,t ≤ m.gn ∧ i = .int .i64 t ∧ Hid (bi (fun (_ : List Gl) x => dM x) [] (m.globals.take t) = 0) ∧ Hid (Below W0.heap.size W0 wr)) (fun i _ => m.gn - (intOf i).toNat)
 case atStart => exact ⟨0,Nat.zero_le _,rfl,hid rfl,hid (Below.refl _ _)⟩
 case round =>
  obtain ⟨t,htn,rfl,HF,HB⟩:=hrel;obtain ⟨m2,m3,m4⟩:=HX.out wr HB.out
  by_cases hlt : t < m.gn
  ·have hlt' : (t : Int) < (m.gn : Int):=ae;obtain ⟨x,hx⟩ : ∃ x,m.globals[t]? = some x:=⟨_,aN ae⟩;obtain ⟨gb,gof,hga,hat⟩:=(HPG.out wr (HB0.out.trans (HB.out.mono HB0.out.size))).2.resolve_left ae;obtain ⟨g0,g1,g2⟩:=hat t x hx;obtain ⟨r0,r1,r2,r3⟩:=HR.out t x hx
   have HH:=hid (fun hne => eF (fun (_ : List Gl) x => dM x) m.globals t x hx HF.out hne)
   have HT:=hid (fun hz => eD (fun (_ : List Gl) x => dM x) m.globals t x hx HF.out hz)
   have HBD:=hid (fun (n : Nat) => (show Below W0.heap.size W0 (wr.drewN n) from bT HB.out (aJ.drewN (fun _ => False) _ n) HB.out.size (fun _ x => x.elim)))
   clear hat hx;rw [hga] at m2
   try rw [hga]
   obtain ⟨xl,xm,xv⟩:=x;dsimp only at *;have hk0 : (0 : Int) ≤ (t : Int):=ae
   cases hl : isL xl with
   | false =>
    have HV:=hid (show orE (e3 m) (orE (e4 m) (e5 m)) = 15 by
     have hc : dM (xl,xm,xv) = 15:=by unfold dM; rw [if_pos hl]
     rw [HE3.out,HH.out gQ,hc]; rfl)
    have HL:=mz xl wr;rw [hl] at HL;have HL:=hid HL;go_wp2_with fail;refine HL.out.mono ?_;exact sI
   | true =>
    have HL:=mz xl wr;rw [hl] at HL;have HL:=hid HL
    have HFI:=hid (fun (W : World) => Km xv xl W)
    cases hf : eJ xv xl with
    | false =>
     have HV:=hid (show orE (e3 m) (orE (e4 m) (e5 m)) = 17 by
      have hc : dM (xl,xm,xv) = 17:=by unfold dM; rw [if_neg (by rw [hl]; simp),if_pos hf]
      rw [HE3.out,HH.out gQ,hc]; rfl)
     rw [hf] at HFI;go_wp2_with fail;refine HL.out.mono ?_;rintro e w1 ⟨rfl,hw⟩;have hw2:=hw.symm;subst hw2;go_wp2_with fail
     go_quiet ((go_at_call 241; exact Calls.quiet_of_same (HFI.out _)))
     go_wp2_with fail;go_ret;exact ⟨cO,HB0.out.trans ((HBD.out _).mono HB0.out.size)⟩
    | true =>
     have HN:=hid (HT.out (show dM (xl,xm,xv) = 0 by unfold dM; rw [if_neg (by rw [hl]; simp),if_neg (by rw [hf]; simp)]))
     rw [hf] at HFI;go_wp2_with fail;refine HL.out.mono ?_;rintro e w1 ⟨rfl,hw⟩;have hw2:=hw.symm;subst hw2;go_wp2_with fail
     go_quiet ((go_at_call 241; exact Calls.quiet_of_same (HFI.out _)))
     exact Cl
  ·obtain rfl : t = m.gn:=ae
   have hE0 : e3 m = 0:=by rw [HE3.out]; have:=HF.out; rwa [iq gl] at this
   by_cases hb : (m.fi < 0 ∨ 64 < m.fi) ∨ (m.mo < m.fi ∨ 64 < m.mo)
   ·have HV:=hid (show orE (e3 m) (orE (e4 m) (e5 m)) = 17 by
     rw [aP hE0];unfold e4 e5 il
     by_cases h1 : m.fi < 0 ∨ 64 < m.fi
     ·rw [if_pos h1]; rfl
     ·rw [if_neg h1,if_pos (hb.resolve_left h1)]; rfl)
    clear hE0
    by_cases q1 : m.fi < 0
    ·have d1 : decide (m.fi < 0) = true:=by simpa using q1
     exact ib
    have d1 : decide (m.fi < 0) = false:=by simpa using q1
    by_cases q2 : 64 < m.fi
    ·have d2 : decide ((64 : Int) < m.fi) = true:=by simpa using q2
     exact ib
    have d2 : decide ((64 : Int) < m.fi) = false:=by simpa using q2
    by_cases q3 : m.mo < m.fi
    ·have d3 : decide (m.mo < m.fi) = true:=by simpa using q3
     exact ib
    have d3 : decide (m.mo < m.fi) = false:=by simpa using q3
    have d4 : decide ((64 : Int) < m.mo) = true:=aG;exact ib
   ·have HV:=hid (show orE (e3 m) (orE (e4 m) (e5 m)) = 0 by
     rw [aP hE0];unfold e4 e5 il
     rw [if_neg ae,if_neg ae]; rfl)
    clear hE0;have d1 : decide (m.fi < 0) = false:=aG;have d2 : decide ((64 : Int) < m.fi) = false:=aG;have d3 : decide (m.mo < m.fi) = false:=aG;have d4 : decide ((64 : Int) < m.mo) = false:=aG;exact ib
end Go.Proofs.YtheefojaplnnoaaGreatDoor

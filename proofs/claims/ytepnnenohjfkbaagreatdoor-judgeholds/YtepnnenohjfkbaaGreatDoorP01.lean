/-
  Texts Uvar Write WText TPure Mo Grow Wr.
-/
import Derived.Laws.AppendOwnNone
import Derived.Lib.CutLaws
import Derived.Test.YtepnnenohjfkbaaGreatDoorP00
set_option linter.unusedVariables false
set_option maxRecDepth 100000
set_option maxHeartbeats 16000000
namespace Go.Proofs.YtepnnenohjfkbaaGreatDoor
open Go.RowKit
theorem OI {V : Int} (h0 : 0 ≤ V) (h1 : V < 18446744073709551616) : bits .and .u64 V 127 = V % 128:=by
 rw [u64_and V 127 h0 h1 aH aH]
 simp only [Int.reduceToNat]
 rw [nat_mask7]; omega
theorem QQ {c : Int} (h0 : 0 ≤ c) (h1 : c < 128) : bits .or .u8 c 128 = c + 128:=by
 rw [u8_or c 128 h0 ae aH aH]
 simp only [Int.reduceToNat]
 rw [Nat.or_comm,nat_join 7 128 c.toNat aH (by simp only [Nat.reducePow]; omega)]
 omega
theorem Ot (pre : List Int) (k m : Nat) (c : Int) (h : pre.length = k) : ((pre ++ List.replicate (m + 1) 0).map (Value.int .u8)).set k (.int .u8 c) = ((pre ++ [c]) ++ List.replicate m 0).map (Value.int .u8):=by
 subst h;rw [← List.map_set]
 congr 1
 rw [List.set_append_right _ _ ae]
 simp [List.replicate_succ]
theorem GW {w wr : World} {pre : List Int} {k : Nat} (c : Int) (hk : k ≤ 9) (hp : pre.length = k)
  (hown : wr.ownsRow w.heap.size 336 1 (.slice (some ⟨w.heap.size,0,none⟩) 10 10) 10 ((pre ++ List.replicate (10 - k) 0).map (Value.int .u8))) (hb : Below w.heap.size w wr) :
  (wr.setCell ⟨w.heap.size,k,none⟩ (.int .u8 c)).ownsRow w.heap.size 336 1 (.slice (some ⟨w.heap.size,0,none⟩) 10 10) 10 (((pre ++ [c]) ++ List.replicate (10 - (k + 1)) 0).map (Value.int .u8)) ∧
   Below w.heap.size w (wr.setCell ⟨w.heap.size,k,none⟩ (.int .u8 c)):=by
 have h:=hown.stored k (.int .u8 c);have e : 10 - k = 10 - (k + 1) + 1:=ae;rw [e,Ot pre k _ c hp] at h;exact ⟨h.1,hb.setCell ak _⟩
theorem Tryz.len336 : Tryz.prog.arrayLen 336 = 10:=aw
theorem Tryz.und336 : Tryz.prog.underlying 336 = some (.array (Tryz.prog.arrayLen 336) (Tryz.prog.elem 336)):=aw
theorem Tryz.size336 (w : World) : (sizeOf (Tryz.prog.elem 336)).run Tryz.prog w = .ok 1 w:=aw
theorem uM (B k : Nat) (hk : k ≤ 9) (w : World) :
  (Instr.sliceAt 336 (.pointer (some ⟨B,0,none⟩)) none (some (.int .i64 ((k : Int) + 1))) none).run Tryz.prog w = .ok (.slice (some ⟨B,0,none⟩) (k + 1) 10) w:=by
 rw [run_sliceAt_array_h w 336 ⟨B,0,none⟩ Tryz.und336 .i64 ((k : Int) + 1) ae (by rw [Tryz.len336]; omega),Tryz.size336]
 have e : ((k : Int) + 1).toNat = k + 1:=ae
 simp only [Result.andThen,slicedAt,Tryz.len336,e]
 simp [Addr.add]
theorem zq {w W : World} {k : Nat} {V v : Int} {pre : List Int} (hk : k ≤ 9) (hp : pre.length = k) (hV : 0 ≤ V) (hV1 : V < 128) (huv : au v = pre ++ [V]) (hpr : ∀ z ∈ pre,0 ≤ z ∧ z ≤ 255)
  (ho : W.ownsRow w.heap.size 336 1 (.slice (some ⟨w.heap.size,0,none⟩) 10 10) 10 (((pre ++ [V]) ++ List.replicate (10 - (k + 1)) 0).map (Value.int .u8))) (hb : Below w.heap.size w W) (hsz : W.heap.size = w.heap.size + 1) :
  Calls Tryz.prog 322 #[.slice (some ⟨w.heap.size + 1,0,none⟩) 1 1] (W.alloc (ik (some ⟨w.heap.size,0,none⟩) (k + 1) 10)) fun e w' =>
   e = .returned (.slice (some ⟨w.heap.size + 2,0,none⟩) (au v).length (au v).length) ∧
   Seg w' (some ⟨w.heap.size + 2,0,none⟩) (au v).length (au v).length (au v) ∧ Below w.heap.size w w' ∧ w.heap.size + 2 < w'.heap.size:=by
 have hlen : (au v).length = k + 1:=by rw [huv]; simp [hp]
 have hr : ∀ z ∈ au v,0 ≤ z ∧ z ≤ 255:=by
  intro z hz;rw [huv] at hz;exact DF
 have hseg : Seg W (some ⟨w.heap.size,0,none⟩) (k + 1) 10 (au v):=by
  refine ⟨hlen,ae,ae,hr,.inr ⟨_,0,rfl,fun j hj => ?_⟩⟩
  rw [Nat.zero_add,ho.cellAt j ae,huv]
  have hj' : j < (pre ++ [V]).length:=by simp [hp]; omega
  rw [List.getElem?_map,List.getElem?_append_left hj']
  simp [aN hj']
 have hba : Below W.heap.size W (W.alloc (ik (some ⟨w.heap.size,0,none⟩) (k + 1) 10)):=(Below.refl _ _).alloc (Nat.le_refl _) _
 have hs2 : (W.alloc (ik (some ⟨w.heap.size,0,none⟩) (k + 1) 10)).heap.size = w.heap.size + 2:=by simp [hsz]
 have hc1 : cat (fun _ => au v) 1 = au v:=by simp [cat]
 have J:=JY (w.heap.size + 1) 1 1 (fun _ => some ⟨w.heap.size,0,none⟩) (fun _ => k + 1) (fun _ => 10) (fun _ => au v) (W.alloc (ik (some ⟨w.heap.size,0,none⟩) (k + 1) 10)) ae
  (fun j hj => by
   obtain rfl : j = 0:=ae
   rw [← hsz]; simp)
  (fun j _ => ⟨hseg.later hba (Nat.le_refl _),fun h => cE⟩) (by rw [hc1]; omega) (by rw [hs2]; omega) (by rw [hc1]; omega)
 rw [hc1,hs2] at J
 refine J.mono fun e w' ⟨he,hsg,hbl,hz⟩ => ⟨he,hsg,?_,hz⟩
 exact (hb.trans (hba.mono ae)).trans (hbl.mono ae)
theorem tG (v : Int) (w : World) (h0 : 0 ≤ v) (h1 : v < 18446744073709551616) :
  Calls Tryz.prog 318 #[.int .u64 v] w fun e w' => e = .returned (.slice (some ⟨w.heap.size + 2,0,none⟩) (au v).length (au v).length) ∧
   Seg w' (some ⟨w.heap.size + 2,0,none⟩) (au v).length (au v).length (au v) ∧ Below w.heap.size w w' ∧ w.heap.size + 2 < w'.heap.size:=by
 go_enter Tryz.func318,Tryz.ntmps318
 go_wp2
 go_loopw [0,4] (fun x i wr => ∃ (k : Nat) (V : Int) (pre : List Int),k ≤ 9 ∧ i = .int .i64 k ∧ x = .int .u64 V ∧ pre.length = k ∧ 0 ≤ V ∧ V < 18446744073709551616 ∧ V * 128 ^ k < 18446744073709551616 ∧ au v = pre ++ uv (9 - k) V ∧ (∀ z ∈ pre,0 ≤ z ∧ z ≤ 255) ∧
   wr.ownsRow w.heap.size 336 1 (.slice (some ⟨w.heap.size,0,none⟩) 10 10) 10 ((pre ++ List.replicate (10 - k) 0).map (Value.int .u8)) ∧ Below w.heap.size w wr ∧ wr.heap.size = w.heap.size + 1) (fun x _ _ => (intOf x).toNat)
 case atStart =>
  exact ⟨0,v,[],ae,rfl,rfl,rfl,h0,h1,lW,rfl,ak,World.ownsRow_lit w _ 10 (Nat.le_refl _) aH rfl,(Below.refl _ _).alloc (Nat.le_refl _) _,ak⟩
 case round =>
  obtain ⟨k,V,pre,hk,rfl,rfl,hpl,hV0,hV1,hroom,huv,hpr,hown,hb,hsz⟩:=hrel
  have hcl : ∃ u,wr.cell? ⟨w.heap.size,k,none⟩ = some u:=by
   have:=hown.cellAt k ae
   exact ⟨_,this.trans (aN (by simp [hpl]; omega))⟩
  obtain ⟨u0,hcl⟩:=hcl;have hfz:=hown.frozenAt k
  have HS:=hid (fun c => GW c hk hpl hown hb)
  have HU:=hid huv;have HP:=hid hpl;have HR:=hid hroom;clear huv hown hb hpl hroom
  by_cases h128 : 128 ≤ V
  ·have hk8:=room_end V k HR.out hk h128;have hand:=OI hV0 hV1;have hor:=QQ (c:=V % 128) ae ae
   have HN:=hid (show au v = (pre ++ [V % 128 + 128]) ++ uv (9 - (k + 1)) (V / 128) by
    rw [HU.out,show 9 - k = 9 - (k + 1) + 1 by omega]
    have hn : ¬ V < 128:=ae
    simp [uv,hn])
   go_wp2;have R:=HS.out (V % 128 + 128)
   refine ⟨⟨k + 1,V / 128,pre ++ [V % 128 + 128],ae,aX,rfl,by simp [HP.out],ae,ae,Dv V k HR.out hV0,HN.out,?_,R.1,R.2,by simp [hsz]⟩,aZ⟩
   intro z hz;exact DF
  ·have hsl:=uM w.heap.size k hk
   have HF:=hid (show au v = pre ++ [V] by
    rw [HU.out]
    cases h9 : 9 - k with
    | zero => rfl
    | succ f =>
     have hn : V < 128:=ae
     simp [uv,hn])
   have HJ:=hid (zq hk HP.out hV0 ae HF.out hpr (HS.out V).1 (HS.out V).2 (by simp [hsz]))
   go_wp2_with (first | (go_at_call 322; refine HJ.out.mono ?_; rintro e w' ⟨rfl,hseg,hbl,hz⟩))
   go_ret;exact ⟨rfl,hseg,hbl,hz⟩
theorem own_below {w w' : World} {base : Nat} {v : Value} {n : Nat} {xs : List Value} (hown : w.ownsRow base 5 1 v n xs) (hg : w.grownBy w' v.ownBlock) (hbase : base ≤ w.heap.size) : Below base w w':=by
 refine ⟨hg.os,hg.tape,hg.output,hg.size,fun k hk => hg.block k ae ?_⟩
 rcases hown.2 with ⟨rfl,_⟩ | ⟨g,cap,cur,rfl,hbg,_⟩
 ·simp [Value.ownBlock]
 ·simp [Value.ownBlock]; omega
theorem iA (w : World) {ops : Array Oper} {rest : List Oper} {o : Oper} {a : Act} {Q : Exit → Act → World → Prop} (hgd : o.guard = none)
  (s x : Operand) (ho : o.op = Op.call { callee:=Callee.builtin Builtin.append,args:=#[s,x],argTypes:=#[64,64] }) (base : Nat) (v : Value) (n : Nat) (xs : List Int)
  (hs : a.eval s = v) (hown : w.ownsRow base 5 1 v n (xs.map (Value.int .u8))) (ao : Option Addr) (m c : Nat) (zs : List Int) (hx : a.eval x = .slice ao m c)
  (hseg : Seg w ao m c zs) (hnone : ao = none → c = 0) (hb : n + m ≤ 1099511627776) (hbase : base ≤ w.heap.size)
  (h : ∀ (v' : Value) (w' : World),w'.ownsRow base 5 1 v' (n + m) ((xs ++ zs).map (Value.int .u8)) → Below base w w' → wpList Tryz.prog ops Q rest (a.put o.dst v') w') :
  wpList Tryz.prog ops Q (o :: rest) a w:=by
 obtain ⟨i0,hi,hz0,hz1,hz2⟩:=info_parts Tryz.info5
 cases ao with
 | none =>
  have hc:=hnone rfl;subst hc
  have hm : m = 0:=by have:=hseg.2.1; omega
  subst hm;have hzs : zs = []:=List.eq_nil_of_length_eq_zero hseg.1;subst hzs;refine wpList_append_own_none hgd s x 64 ho base 5 i0 1 Tryz.underlying64 hi v n _ hs hown hx ?_;refine h v w ?_ (Below.refl _ _)
  simpa using hown
 | some ad =>
  refine wpList_append_own w hgd s x 64 ho base 5 i0 (.int .u8 0) 1 1 Tryz.underlying64 hi hz0 hz1 hz2 rfl aH v n _ hs hown ad m c (zs.map (Value.int .u8)) hx (by simp [hseg.1])
   (iY hseg ad rfl) (j3 _) cG ae hbase ?_
  exact DY
theorem jv {w : World} {base : Nat} {v : Value} {n : Nat} {zs : List Int} (h : w.ownsRow base 5 1 v n (zs.map (Value.int .u8))) (hn : n ≤ 1099511627776) (hr : ∀ z ∈ zs,0 ≤ z ∧ z ≤ 255) :
  ∃ a c,v = .slice a n c ∧ Seg w a n c zs ∧ (a = none → c = 0):=by
 have hl : zs.length = n:=by have:=h.1; simpa using this
 rcases h.2 with ⟨rfl,rfl⟩ | ⟨g,cap,cur,rfl,hbg,hh,hnc,_⟩
 ·exact ⟨none,0,rfl,⟨hl,Nat.le_refl _,hn,hr,.inl rfl⟩,fun _ => rfl⟩
 ·exact ⟨_,cap,rfl,Cl h hl hn hr hnc,fun h => cE⟩
theorem Hq (x : Int) (h0 : 0 ≤ x) (h1 : x < 18446744073709551616) : bits .xor .u64 x 18446744073709551615 = 18446744073709551615 - x:=by
 obtain ⟨a,rfl⟩:=Int.eq_ofNat_of_zero_le h0
 show IntKind.u64.wrap ((BitVec.ofInt 64 (a : Int) ^^^ BitVec.ofInt 64 18446744073709551615).toNat : Int) = _
 have e1 : BitVec.ofInt 64 18446744073709551615 = BitVec.allOnes 64:=aH;rw [e1,BitVec.xor_allOnes,BitVec.toNat_not,ofInt_u64 a ae,IntKind.wrap_u64];omega
theorem JV (x : Int) (h0 : 0 ≤ x) (h1 : x < 18446744073709551616) : bits .xor .u64 x 0 = x:=by
 obtain ⟨a,rfl⟩:=Int.eq_ofNat_of_zero_le h0
 show IntKind.u64.wrap ((BitVec.ofInt 64 (a : Int) ^^^ BitVec.ofInt 64 0).toNat : Int) = _
 have e1 : BitVec.ofInt 64 0 = 0#64:=aH;rw [e1,BitVec.xor_zero,ofInt_u64 a ae,IntKind.wrap_u64];omega
theorem PR (v : Int) (h : 0 ≤ v) (h1 : v < 9223372036854775808) : bits .xor .u64 (v * 2) (v / 9223372036854775808) = fo v:=by
 have e : v / 9223372036854775808 = 0:=ae;rw [e,JV _ ae ae];unfold fo
 rw [if_neg ae]; omega
theorem OQ (v : Int) (h : v < 0) (h0 : -9223372036854775808 ≤ v) : bits .xor .u64 (IntKind.u64.wrap (IntKind.u64.wrap v * 2)) (IntKind.u64.wrap (v / 9223372036854775808)) = fo v:=by
 have e : v / 9223372036854775808 = -1:=ae;rw [e];have e1 : IntKind.u64.wrap (-1) = 18446744073709551615:=aH
 have e2 : IntKind.u64.wrap (IntKind.u64.wrap v * 2) = 18446744073709551616 + 2 * v:=by
  rw [IntKind.wrap_u64,IntKind.wrap_u64]; omega
 rw [e1,e2,Hq _ ae ae];unfold fo
 rw [if_pos h]; omega
theorem PV (v : Int) (w : World) (h0 : -9223372036854775808 ≤ v) (h1 : v < 9223372036854775808) :
  Calls Tryz.prog 324 #[.int .i64 v] w fun e w' => e = .returned (.int .u64 (fo v)) ∧ w' = w:=by
 by_cases h : 0 ≤ v
 ·have HF:=hid (PR v h h1);exact Cj
 ·have HF:=hid (OQ v ae h0);exact Cj
theorem LA (v : Int) (w : World) (h0 : -9223372036854775808 ≤ v) (h1 : v < 9223372036854775808) :
  Calls Tryz.prog 320 #[.int .i64 v] w fun e w' => e = .returned (.slice (some ⟨w.heap.size + 2,0,none⟩) (au (fo v)).length (au (fo v)).length) ∧
   Seg w' (some ⟨w.heap.size + 2,0,none⟩) (au (fo v)).length (au (fo v)).length (au (fo v)) ∧ Below w.heap.size w w' ∧ w.heap.size + 2 < w'.heap.size:=by
 have hr:=kz v h0 h1;have HA:=hid (PV v w h0 h1);have HB:=hid (tG (fo v) w hr.1 hr.2);clear hr;generalize fo v = u at *;generalize au u = l at *
 go_enter Tryz.func320,Tryz.ntmps320
 go_wp2_with fail;refine HA.out.mono ?_;rintro e w1 ⟨rfl,rfl⟩;go_wp2_with fail;refine HB.out.mono ?_;rintro e w2 ⟨rfl,hs,hb,hz⟩;go_wp2;go_ret;exact ⟨rfl,hs,hb,hz⟩
def aD (s : ByteArray) : List Int:=s.data.toList.map fun c => (c.toNat : Int)
theorem cR (s : ByteArray) : (aD s).length = s.size:=by
 rw [aD,List.length_map]; exact Array.length_toList
theorem jP (s : ByteArray) : ∀ z ∈ aD s,0 ≤ z ∧ z ≤ 255:=by
 intro z hz;obtain ⟨c,_,rfl⟩:=List.mem_map.1 hz
 have:=c.toNat_lt
 omega
theorem mU (w : World) (s : ByteArray) (hs : s.size ≤ 1000000) : ∃ c W,(convert 9 64 (.string s)).run Tryz.prog w = .ok (.slice (some ⟨w.heap.size,0,none⟩) s.size c) W ∧
  Seg W (some ⟨w.heap.size,0,none⟩) s.size c (aD s) ∧ Below w.heap.size w W ∧ W.heap.size = w.heap.size + 1:=by
 refine ⟨_,_,run_bytes_of_string w 9 64 5 s Tryz.underlying9 Tryz.underlying64 Tryz.underlying5,?_,?_,?_⟩
 ·refine ⟨cR s,grownCap_ge _ _ _ _,ae,jP s,.inr ⟨_,0,rfl,fun j hj => ?_⟩⟩
  have hj' : j < s.data.size:=hj;have hb:=bytesRow_at s (grownCap w s.size 0 5) j hj'
  have hlt : j < (bytesRow s (grownCap w s.size 0 5)).size:=by
   rcases Nat.lt_or_ge j (bytesRow s (grownCap w s.size 0 5)).size with h | h
   ·exact h
   ·rw [Array.getElem?_eq_none h] at hb; cases hb
  rw [Nat.zero_add];have : (w.drew.alloc (.cells (bytesRow s (grownCap w s.size 0 5)) 5 ((bytesRow s (grownCap w s.size 0 5)).size,(bytesRow s (grownCap w s.size 0 5)).size + 1))).cell? ⟨w.heap.size,j,none⟩ = (bytesRow s (grownCap w s.size 0 5))[j]? :=
   World.cell?_alloc_mark w.drew _ _ _ j
  rw [this,hb]
  have hjl : j < s.data.toList.length:=by rw [Array.length_toList]; exact hj'
  have e : (aD s).getD j 0 = ((s.data.toList[j]'hjl).toNat : Int):=by
   simp only [aD,List.getD_eq_getElem?_getD,List.getElem?_map,aN hjl,Option.map_some,Option.getD_some]
  rw [e,Array.getElem_toList]
 ·exact ((Below.refl _ _).drew).alloc ak _
 ·simp
theorem AU {w w1 W : World} {l : List Int} {s : ByteArray} {c : Nat} (h1 : Seg w1 (some ⟨w.heap.size + 2,0,none⟩) l.length l.length l) (b1 : Below w.heap.size w w1) (z1 : w.heap.size + 2 < w1.heap.size)
  (h2 : Seg W (some ⟨w1.heap.size,0,none⟩) s.size c (aD s)) (b2 : Below w1.heap.size w1 W) (z2 : W.heap.size = w1.heap.size + 1) (hl : 1 ≤ l.length) (hl10 : l.length ≤ 10) (hs : s.size ≤ 1000000) :
  Calls Tryz.prog 322 #[.slice (some ⟨W.heap.size,0,none⟩) 2 2]
   (W.alloc (.cells #[.slice (some ⟨w.heap.size + 2,0,none⟩) l.length l.length,.slice (some ⟨w1.heap.size,0,none⟩) s.size c] 64)) fun e w' =>
   e = .returned (.slice (some ⟨W.heap.size + 1,0,none⟩) (l.length + s.size) (l.length + s.size)) ∧
   Seg w' (some ⟨W.heap.size + 1,0,none⟩) (l.length + s.size) (l.length + s.size) (l ++ aD s) ∧ Below w.heap.size w w' ∧ w.heap.size ≤ W.heap.size + 1 ∧ W.heap.size + 1 < w'.heap.size:=by
 have hba : Below W.heap.size W (W.alloc (.cells #[.slice (some ⟨w.heap.size + 2,0,none⟩) l.length l.length,.slice (some ⟨w1.heap.size,0,none⟩) s.size c] 64)):=(Below.refl _ _).alloc (Nat.le_refl _) _;have hsz : (W.alloc (.cells #[.slice (some ⟨w.heap.size + 2,0,none⟩) l.length l.length,.slice (some ⟨w1.heap.size,0,none⟩) s.size c] 64)).heap.size = W.heap.size + 1:=ak
 have hc : cat (fun j => if j = 0 then l else aD s) 2 = l ++ aD s:=by simp [cat]
 have hlen : (l ++ aD s).length = l.length + s.size:=by rw [List.length_append,cR]
 have b1s:=b1.size
 have J:=JY W.heap.size 2 2 (fun j => if j = 0 then some ⟨w.heap.size + 2,0,none⟩ else some ⟨w1.heap.size,0,none⟩) (fun j => if j = 0 then l.length else s.size) (fun j => if j = 0 then l.length else c) (fun j => if j = 0 then l else aD s)
  (W.alloc (.cells #[.slice (some ⟨w.heap.size + 2,0,none⟩) l.length l.length,.slice (some ⟨w1.heap.size,0,none⟩) s.size c] 64)) ae
  (fun j hj => by
   rcases (show j = 0 ∨ j = 1 by omega) with rfl | rfl <;> simp)
  (fun j hj => by
   rcases (show j = 0 ∨ j = 1 by omega) with rfl | rfl
   ·exact ⟨(h1.later b2 (Nat.le_refl _)).later hba (Nat.le_refl _),fun h => cE⟩
   ·exact ⟨h2.later hba (Nat.le_refl _),fun h => cE⟩)
  (by rw [hc,hlen]; omega) (by rw [hsz]; omega) (by rw [hc,hlen]; omega)
 rw [hc,hlen,hsz] at J
 refine J.mono fun e w' ⟨he,hsg,hbl,hz⟩ => ⟨he,hsg,?_,ae,hz⟩
 exact ((b1.trans (b2.mono ae)).trans (hba.mono ae)).trans (hbl.mono ae)
theorem Qp (s : ByteArray) (w : World) (hs : s.size ≤ 1000000) :
  Calls Tryz.prog 321 #[.string s] w fun e w' => ∃ B,e = .returned (.slice (some ⟨B,0,none⟩) ((au s.size).length + s.size) ((au s.size).length + s.size)) ∧
   Seg w' (some ⟨B,0,none⟩) ((au s.size).length + s.size) ((au s.size).length + s.size) (au s.size ++ aD s) ∧ Below w.heap.size w w' ∧ w.heap.size ≤ B ∧ B < w'.heap.size:=by
 have HB:=hid (tG s.size w ae ae);have hl:=aA s.size;generalize au s.size = l at *
 go_enter Tryz.func321,Tryz.ntmps321
 go_wp2_with fail;refine HB.out.mono ?_;rintro e w1 ⟨rfl,hs1,hb1,hz1⟩;obtain ⟨c,W,hrun,hsg,hbw,hsz⟩:=mU w1 s hs;have HS1:=hid hs1;have HB1:=hid hb1;have HS2:=hid hsg;have HB2:=hid hbw;have HZ:=hid hsz;clear hs1 hb1 hsg hbw hsz;have HJ:=hid (AU (w:=w) HS1.out HB1.out hz1 HS2.out HB2.out HZ.out hl.1 ae hs);go_wp2_with fail;refine HJ.out.mono ?_;rintro e w2 ⟨rfl,hs2,hb2,hw,hz2⟩;go_wp2;go_ret;exact ⟨_,rfl,hs2,hb2,hw,hz2⟩
theorem zQ {a b : ByteArray} (h : a.data.toList = b.data.toList) : a = b:=by
 cases a; cases b; congr; exact Array.toList_inj.1 h
theorem dP (a : ByteArray) : a.size = a.data.toList.length:=Array.length_toList.symm
theorem ck (a : ByteArray) : a.toList = a.data.toList:=ByteArray.toList_eq a
theorem gy (s : ByteArray) (most : Nat) : lett s most = true ↔ (∀ c ∈ s.data.toList,c = 119 ∨ c = 108) ∧ s.size ≤ most:=by
 rw [qR]
 constructor
 ·intro ⟨h,hm⟩
  refine ⟨fun c hc => ?_,hm⟩
  obtain ⟨i,hi,rfl⟩:=List.getElem_of_mem hc
  have:=h i (by rw [dP]; exact hi)
  rw [dK,aN hi,Option.getD_some] at this
  simp only [isL,Bool.or_eq_true,decide_eq_true_eq] at this
  rcases this with h | h
  ·left; apply UInt8.toNat_inj.1; exact Int.ofNat_inj.1 h
  ·right; apply UInt8.toNat_inj.1; exact Int.ofNat_inj.1 h
 ·intro ⟨h,hm⟩
  refine ⟨fun i hi => ?_,hm⟩
  rw [dP] at hi;rw [dK,aN hi,Option.getD_some]
  rcases h _ (List.getElem_mem hi) with h | h <;> rw [h] <;> rfl
def aV {α : Type} (f : List α → α → Int) : List α → List α → Int
 | _,[] => 0
 | ah,x :: r => if f ah x ≠ 0 then f ah x else aV f (ah ++ [x]) r
def orE (a b : Int) : Int:=if a ≠ 0 then a else b
def bq {α : Type} (f : List α → α → Int) (most : Int) (xs : List α) : Int:=if most < xs.length then 20 else aV f [] xs
abbrev Sg:=ByteArray × ByteArray
abbrev Gl:=Int × Bool × Int
abbrev Ex:=ByteArray × Int
def eZ (ah : List Sg) (x : Sg) : Bool:=ah.any fun y => (y.1.toList == x.1.toList) && (y.2.toList == x.2.toList)
def bW (ah : List Sg) (x : Sg) : Int :=
 if 8 < x.1.size then 13 else if lett x.1 8 = false then 15 else if 8 < x.2.size then 13 else if lett x.2 8 = false then 15 else if eZ ah x = true then 16 else 0
def bo (n x : Int) : Int:=if x < 0 ∨ n ≤ x then 30 else 0
def dJ (x : Gl) : Int:=if isL x.1 = false then 15 else if gq x.2.2 x.1 = false then 17 else 0
def iP (least x : Int) : Int:=if x < least ∨ 64 < x then 17 else 0
def eI (s : ByteArray) : List Int:=au s.size ++ aD s
def bG (x : Sg) : List Int:=eI x.1 ++ eI x.2
def sgn (c v : Int) : Int:=if c = 119 then (if v < 4294967296 then (if v < 2147483648 then v else v - 4294967296) else 9223372036854775807) else if v < 9223372036854775808 then v else v - 18446744073709551616
def cm (x : Gl) : List Int:=[x.1,if x.2.1 then 1 else 0] ++ au (fo (sgn x.1 x.2.2))
theorem yO (s : ByteArray) : (eI s).length = (au s.size).length + s.size:=by simp [eI,cR]
theorem cI (s : ByteArray) (n : Nat) (h : s.size ≤ n) : 1 ≤ (eI s).length ∧ (eI s).length ≤ 10 + n:=by
 have:=aA s.size
 rw [yO]; omega
theorem fQ (x : Sg) (h1 : x.1.size ≤ 8) (h2 : x.2.size ≤ 8) : (bG x).length ≤ 36:=by
 have a:=cI x.1 8 h1;have b:=cI x.2 8 h2
 simp only [bG,List.length_append]; omega
theorem iZ (x : Gl) : (cm x).length ≤ 12:=by
 have:=aA (fo (sgn x.1 x.2.2))
 simp only [cm,List.length_append,List.length_cons,List.length_nil]; omega
theorem d9 (s : ByteArray) (m n : Nat) (h : s.size ≤ m) (h' : s.size ≤ n) : lett s m = lett s n:=by
 cases hb : lett s n
 ·cases ha : lett s m
  ·rfl
  ·have:=((gy s m).1 ha).1
   rw [(gy s n).2 ⟨this,h'⟩] at hb; cases hb
 ·exact (gy s m).2 ⟨((gy s n).1 hb).1,h⟩
theorem iF {α : Type} (f : List α → α → Int) : ∀ (xs ah ys : List α),aV f ah (xs ++ ys) = orE (aV f ah xs) (aV f (ah ++ xs) ys)
 | [],ah,ys => by simp [aV,orE]
 | x :: xs,ah,ys => by
  simp only [List.cons_append,aV]
  by_cases h : f ah x ≠ 0
  ·simp [h,orE]
  ·simp only [h,if_false]
   rw [iF f xs (ah ++ [x]) ys]
   simp
theorem dX {α : Type} (f : List α → α → Int) (xs : List α) (j : Nat) (x : α) (hx : xs[j]? = some x) (h : aV f [] (xs.take j) = 0) (hf : f (xs.take j) x = 0) : aV f [] (xs.take (j + 1)) = 0:=by
 have hj : j < xs.length:=by
  exact BZ
 have : xs.take (j + 1) = xs.take j ++ [x]:=by
  rw [List.take_succ_eq_append_getElem hj];rw [aN hj] at hx
  simp at hx; rw [hx]
 rw [this,iF,h]
 simp [orE,aV,hf]
theorem dV {α : Type} (f : List α → α → Int) (xs : List α) (j : Nat) (x : α) (hx : xs[j]? = some x) (h : aV f [] (xs.take j) = 0) (hf : f (xs.take j) x ≠ 0) : aV f [] xs = f (xs.take j) x:=by
 have hj : j < xs.length:=by
  exact BZ
 have : xs = xs.take j ++ x :: xs.drop (j + 1):=by
  conv => lhs; rw [← List.take_append_drop j xs,List.drop_eq_getElem_cons hj]
  rw [aN hj] at hx
  simp at hx; rw [hx]
 rw [this,iF]
 have h0 : (xs.take j ++ x :: xs.drop (j + 1)).take j = xs.take j:=by
  rw [List.take_append_of_le_length aG,List.take_take,Nat.min_self]
 rw [h,h0]
 simp [orE,aV,hf]
theorem di {ah : List Sg} {x : Sg} (h : bW ah x = 0) : x.1.size ≤ 8 ∧ lett x.1 8 = true ∧ x.2.size ≤ 8 ∧ lett x.2 8 = true ∧ eZ ah x = false:=by
 unfold bW at h
 split at h
 ·cases h
 ·split at h
  ·cases h
  ·split at h
   ·cases h
   ·split at h
    ·cases h
    ·split at h
     ·cases h
     ·refine ⟨ae,by simp_all,ae,by simp_all,by simp_all⟩
theorem GA {ah : List Sg} {x : Sg} (h : eZ ah x = true) : ∃ k y,ah[k]? = some y ∧ y.1.toList = x.1.toList ∧ y.2.toList = x.2.toList ∧ eZ (ah.take k) x = false:=by
 induction ah with
 | nil => simp [eZ] at h
 | cons a r ih =>
  by_cases ha : a.1.toList = x.1.toList ∧ a.2.toList = x.2.toList
  ·exact ⟨0,a,rfl,ha.1,ha.2,by simp [eZ]⟩
  ·have hf : ((a.1.toList == x.1.toList) && (a.2.toList == x.2.toList)) = false:=by
    cases hb : ((a.1.toList == x.1.toList) && (a.2.toList == x.2.toList))
    ·rfl
    ·simp at hb; exact absurd hb ha
   have hr : eZ r x = true:=by simpa [eZ,hf] using h
   obtain ⟨k,y,h1,h2,h3,h4⟩:=ih hr;refine ⟨k + 1,y,lW,h2,h3,?_⟩
   simp only [eZ,List.take_succ_cons,List.any_cons,hf,Bool.false_or]
   exact h4
def jM (s : ByteArray) : Bool:=(aD s).all (fun b => decide (33 ≤ b) && decide (b ≤ 126)) && !s.toList.isEmpty
def sGt (s nm : ByteArray) : Bool:=!Op.bytesLess s.toList nm.toList && !s.toList == nm.toList
def fY (ah : List Ex) (s : ByteArray) : Bool:=match ah.getLast? with | none => false | some y => !(sGt s y.1)
def dB (nf : Int) (ah : List Ex) (x : Ex) : Int :=
 if 32 < x.1.size then 13 else if jM x.1 = false then 23 else if fY ah x.1 = true then 18 else bo nf x.2
def cX (x : Ex) : List Int:=eI x.1 ++ au x.2
def gw (w : World) (e : TypeId) (size B n cap : Nat) (xs : List Value) : Prop:=w.ownsRow 0 e size (.slice (some ⟨B,0,none⟩) n cap) n xs
theorem gw.of {w : World} {base : Nat} {e : TypeId} {size B n cap : Nat} {xs : List Value} (h : w.ownsRow base e size (.slice (some ⟨B,0,none⟩) n cap) n xs) : gw w e size B n cap xs:=by
 exact Co
theorem gw.block {w : World} {e : TypeId} {size B n cap : Nat} {xs : List Value} (h : gw w e size B n cap xs) : ∃ cur,w.heap[B]? = some (.cells cur e) ∧ n ≤ cap ∧ cap ≤ maxLen ∧ cur.size = cap * size ∧ cur.toList.take (n * size) = xs:=by
 rcases h.2 with ⟨h,_⟩ | ⟨g,cp,cur,h1,_,h3,h4,h5,h6,h7⟩
 ·cases h
 ·simp at h1
  obtain ⟨rfl,rfl⟩:=h1;exact ⟨cur,h3,h4,h5,h6,h7⟩
theorem gw.lt {w : World} {e : TypeId} {size B n cap : Nat} {xs : List Value} (h : gw w e size B n cap xs) : B < w.heap.size:=by
 exact CV
theorem aU {w w' : World} {base : Nat} {e : TypeId} {size : Nat} {v : Value} {n : Nat} {xs : List Value} (h : w.ownsRow base e size v n xs) (hk : ∀ B,v.ownBlock = some B → w'.heap[B]? = w.heap[B]?) : w'.ownsRow base e size v n xs:=by
 exact Gw
theorem gw.keep {w w' : World} {e : TypeId} {size B n cap : Nat} {xs : List Value} (h : gw w e size B n cap xs) (hk : w'.heap[B]? = w.heap[B]?) : gw w' e size B n cap xs :=
 aU h (fun b hb => by
  obtain rfl : B = b:=ry;exact hk)
theorem gw.kept {S : Nat → Prop} {w w' : World} {e : TypeId} {size B n cap : Nat} {xs : List Value} (h : gw w e size B n cap xs) (hk : Kept S w w') (hs : ¬ S B) : gw w' e size B n cap xs:=h.keep (hk.block B h.lt hs)
theorem gw.cell {w : World} {e : TypeId} {size B n cap : Nat} {xs : List Value} (h : gw w e size B n cap xs) (j : Nat) (hj : j < n * size) : w.cell? ⟨B,j,none⟩ = xs[j]?:=by
 obtain ⟨cur,h1,h2,h3,h4,h5⟩:=h.block
 have hl : j < cur.size:=by rw [h4]; exact Nat.lt_of_lt_of_le hj (Nat.mul_le_mul_right _ h2)
 rw [← h5,List.getElem?_take_of_lt hj]
 simp only [World.cell?,h1]
 simp
theorem jO {P : Program} (w : World) {ops : Array Oper} {rest : List Oper} {o : Oper} {a : Act} {Q : Exit → Act → World → Prop} (hgd : o.guard = none)
  (s x : Operand) (t : TypeId) (ho : o.op = Op.call { callee:=Callee.builtin Builtin.append,args:=#[s,x],argTypes:=#[t,t] }) (e : TypeId) (i : TypeInfo) (z : Value) (size bytes : Nat)
  (h1 : P.underlying t = some (.slice e)) (h2 : P.info? e = some i) (h3 : i.zero = some z) (h4 : i.size = size) (h5 : i.bytes = bytes) (h6 : z.cells.size = size) (h7 : 0 < size)
  (v : Value) (n : Nat) (xs : List Value) (hs : a.eval s = v) (hown : w.ownsRow 0 e size v n xs) (ad : Addr) (m c : Nat) (news : List Value) (hx : a.eval x = .slice (some ad) m c) (hn : news.length = m * size)
  (hc : ∀ j u,news[j]? = some u → w.cell? (ad.add j) = some u) (hone : ∀ u ∈ news,u.oneCell' = true) (hm : 0 < m)
  (b1 : n + m ≤ maxLen) (b2 : (n + m) * bytes ≤ 140737488355328)
  (h : ∀ (B cap : Nat) (w' : World),gw w' e size B (n + m) cap (xs ++ news) → ((v = .slice (some ⟨B,0,none⟩) n cap ∧ Kept (fun k => k = B) w w') ∨ (w.heap.size ≤ B ∧ Kept (fun _ => False) w w')) → wpList P ops Q rest (a.put o.dst (.slice (some ⟨B,0,none⟩) (n + m) cap)) w') :
  wpList P ops Q (o :: rest) a w:=by
 have grow : ∀ (ao : Option Addr) (cap : Nat),v = .slice ao n cap → (ao = none → n = 0 ∧ cap = 0) → (∀ b,ao = some b → ∀ (j : Nat) (y : Value),xs[j]? = some y → w.cell? (b.add j) = some y) → cap < n + m → wpList P ops Q (o :: rest) a w:=by
  intro ao cap hv hnone holds hfull;refine wpList_append_grows w hgd s x t ho e i z size bytes h1 h2 h3 h4 h5 h6 h7 ao n cap xs (hs.trans hv) hnone hown.1 holds ad m c news hx hn hc hone hfull b1 b2 ?_;intro v' w' ho' hg'
  rcases ho'.2 with ⟨_,hz⟩ | ⟨g,cp,cur,rfl,hbase,h8⟩
  ·omega
  ·exact h g cp w' (gw.of ho') (.inr ⟨hbase,(Kept.of_grown hg').mono (fun k hk => by cases hk)⟩)
 rcases hown.2 with ⟨rfl,rfl⟩ | ⟨g,cap,cur,rfl,_,hh,hnc,hcm,hsz,htk⟩
 ·exact Bf
 ·by_cases hroom : n + m ≤ cap
  ·refine wpList_append_fits w hgd s x t ho 0 e i size h1 h2 h4 g n cap xs hs hown ad m c news hx hn hc hone hroom ?_;exact Ei
  ·refine grow (some ⟨g,0,none⟩) cap rfl (fun hb => by cases hb) (fun b hb j y hy => ?_) ae
   simp at hb
   subst hb
   have hj : j < xs.length:=by
    exact Ce
   have hl:=hown.1;have hplain : (⟨g,0,none⟩ : Addr).add j = ⟨g,j,none⟩:=fZ;rw [hplain,gw.cell hown j ae];exact hy
theorem JE {P : Program} (w : World) {ops : Array Oper} {rest : List Oper} {o : Oper} {a : Act} {Q : Exit → Act → World → Prop} (hgd : o.guard = none)
  (s x : Operand) (t : TypeId) (ho : o.op = Op.call { callee:=Callee.builtin Builtin.append,args:=#[s,x],argTypes:=#[t,t] }) (e : TypeId) (i : TypeInfo) (z : Value) (size bytes : Nat)
  (h1 : P.underlying t = some (.slice e)) (h2 : P.info? e = some i) (h3 : i.zero = some z) (h4 : i.size = size) (h5 : i.bytes = bytes) (h6 : z.cells.size = size) (h7 : 0 < size)
  (g n cap : Nat) (xs : List Value) (hs : a.eval s = .slice (some ⟨g,0,none⟩) n cap) (hown : gw w e size g n cap xs) (ad : Addr) (m c : Nat) (news : List Value) (hx : a.eval x = .slice (some ad) m c) (hn : news.length = m * size)
  (hc : ∀ j u,news[j]? = some u → w.cell? (ad.add j) = some u) (hone : ∀ u ∈ news,u.oneCell' = true) (hm : 0 < m)
  (b1 : n + m ≤ maxLen) (b2 : (n + m) * bytes ≤ 140737488355328)
  (h : ∀ (B cap : Nat) (w' : World),gw w' e size B (n + m) cap (xs ++ news) → Kept (fun k => k = g) w w' → (B = g ∨ w.heap.size ≤ B) → wpList P ops Q rest (a.put o.dst (.slice (some ⟨B,0,none⟩) (n + m) cap)) w') :
  wpList P ops Q (o :: rest) a w:=by
 refine jO w hgd s x t ho e i z size bytes h1 h2 h3 h4 h5 h6 h7 _ n xs hs hown ad m c news hx hn hc hone hm b1 b2 ?_
 rintro B cp w' hr (⟨hv,hk⟩ | ⟨hB,hk⟩)
 ·simp at hv
  obtain ⟨rfl,rfl⟩:=hv;exact h g cap w' hr hk (.inl rfl)
 ·exact h B cp w' hr (hk.mono (fun k hk => hk.elim)) (.inr hB)
def thr (e p : Int) : Ending:=.panicked [{ v:=.iface 124 (.agg #[.int .i64 e,.int .i64 p]),recovered:=false }]
theorem jd (e at_ : Int) (w : World) : Calls Tryz.prog 77 #[.bool true,.int .i64 e,.int .i64 at_] w fun e w' => e = .returned (.tuple #[]) ∧ w' = w:=by
 go_enter Tryz.func77,Tryz.ntmps77
 go_wp2_with fail;go_end0;exact ⟨rfl,rfl⟩
theorem sG (x p : Int) (w : World) : Calls Tryz.prog 77 #[.bool false,.int .i64 x,.int .i64 p] w fun e w' => e = thr x p ∧ w' = w:=by
 go_enter Tryz.func77,Tryz.ntmps77
 go_wp2_with fail
 simp [bodyPost,thr]
def Buf (w : World) (g n cap : Nat) (xs : List Value) : Prop:=gw w 5 1 g n cap xs ∨ (cap = n ∧ n ≤ maxLen ∧ g < w.heap.size ∧ xs.length = n ∧ ∀ j u,xs[j]? = some u → w.cell? ⟨g,j,none⟩ = some u)
theorem Buf.lt {w : World} {g n cap : Nat} {xs : List Value} (h : Buf w g n cap xs) : g < w.heap.size:=by
 rcases h with h | h
 ·exact h.lt
 ·exact h.2.2.1
theorem Buf.kept {S : Nat → Prop} {w w' : World} {g n cap : Nat} {xs : List Value} (h : Buf w g n cap xs) (hk : Kept S w w') (hs : ¬ S g) : Buf w' g n cap xs:=by
 rcases h with h | ⟨h1,h2,h3,h4,h5⟩
 ·exact .inl (h.kept hk hs)
 ·exact .inr ⟨h1,h2,Nat.lt_of_lt_of_le h3 hk.size,h4,fun j u hj => hk.cell (h5 j u hj) hs⟩
theorem Da {P : Program} (w : World) {ops : Array Oper} {rest : List Oper} {o : Oper} {a : Act} {Q : Exit → Act → World → Prop} (hgd : o.guard = none)
  (s x : Operand) (t : TypeId) (ho : o.op = Op.call { callee:=Callee.builtin Builtin.append,args:=#[s,x],argTypes:=#[t,t] }) (i : TypeInfo) (z : Value)
  (h1 : P.underlying t = some (.slice 5)) (h2 : P.info? 5 = some i) (h3 : i.zero = some z) (h4 : i.size = 1) (h5 : i.bytes = 1) (h6 : z.cells.size = 1)
  (g n cap : Nat) (xs : List Value) (hs : a.eval s = .slice (some ⟨g,0,none⟩) n cap) (hown : Buf w g n cap xs) (ad : Addr) (m c : Nat) (news : List Value) (hx : a.eval x = .slice (some ad) m c) (hn : news.length = m * 1)
  (hc : ∀ j u,news[j]? = some u → w.cell? (ad.add j) = some u) (hone : ∀ u ∈ news,u.oneCell' = true) (hm : 0 < m)
  (b1 : n + m ≤ maxLen) (b2 : (n + m) * 1 ≤ 140737488355328)
  (h : ∀ (B cap : Nat) (w' : World),gw w' 5 1 B (n + m) cap (xs ++ news) → Kept (fun k => k = g) w w' → (B = g ∨ w.heap.size ≤ B) → wpList P ops Q rest (a.put o.dst (.slice (some ⟨B,0,none⟩) (n + m) cap)) w') :
  wpList P ops Q (o :: rest) a w:=by
 rcases hown with hr | ⟨rfl,_,_,hl,hcells⟩
 ·exact JE w hgd s x t ho 5 i z 1 1 h1 h2 h3 h4 h5 h6 aH g n cap xs hs hr ad m c news hx hn hc hone hm b1 b2 h
 ·refine wpList_append_grows w hgd s x t ho 5 i z 1 1 h1 h2 h3 h4 h5 h6 aH (some ⟨g,0,none⟩) cap cap xs hs (fun hh => by cases hh) ae (fun b hb j u hj => ?_) ad m c news hx hn hc hone ae b1 b2 ?_
  ·simp at hb
   subst hb;have hplain : (⟨g,0,none⟩ : Addr).add j = ⟨g,j,none⟩:=fZ;rw [hplain];exact hcells j u hj
  ·intro v' w' ho' hg'
   rcases ho'.2 with ⟨_,hz⟩ | ⟨B,cp,cur,rfl,hbase,h8⟩
   ·omega
   ·exact h B cp w' (gw.of ho') ((Kept.of_grown hg').mono (fun k hk => by cases hk)) (.inr hbase)
structure Wr (w : World) (R g cap : Nat) (bs : List Int) : Prop where
 c0 : w.cell? ⟨R,0,none⟩ = some (.slice (some ⟨g,0,none⟩) bs.length cap)
 f0 : w.frozen? ⟨R,0,none⟩ = false
 row : Buf w g bs.length cap (bs.map (Value.int .u8))
 ne : g ≠ R
theorem Wr.lt {w : World} {R g cap : Nat} {bs : List Int} (h : Wr w R g cap bs) : R < w.heap.size:=block_lt_of_cell h.c0
theorem Wr.kept {S : Nat → Prop} {w w' : World} {R g cap : Nat} {bs : List Int} (h : Wr w R g cap bs) (hk : Kept S w w') (hR : ¬ S R) (hg : ¬ S g) : Wr w' R g cap bs :=
 ⟨hk.cell h.c0 hR,(bX (hk.block R h.lt hR) 0).trans h.f0,h.row.kept hk hg,h.ne⟩
theorem Wr.later {w w' : World} {R g cap : Nat} {bs : List Int} (h : Wr w R g cap bs) (hb : Below w.heap.size w w') : Wr w' R g cap bs :=
 h.kept (S:=fun _ => False) ⟨hb.os,hb.tape,hb.output,hb.size,fun k hk _ => hb.block k hk⟩ id id
structure Stp (R g g' : Nat) (w w' : World) : Prop where
 k : Kept (fun k => k = R ∨ k = g) w w'
 m : g' = g ∨ w.heap.size ≤ g'
theorem Stp.refl (R g : Nat) (w : World) : Stp R g g w w:=⟨Kept.refl _ _,.inl rfl⟩
theorem Stp.trans {R g g' g'' : Nat} {w w1 w2 : World} (h : Stp R g g' w w1) (h' : Stp R g' g'' w1 w2) : Stp R g g'' w w2:=by
 refine ⟨h.k.then h'.k (fun k hk ht => ?_),?_⟩
 ·rcases ht with rfl | rfl
  ·exact .inl rfl
  ·exact pS
 ·exact ux
theorem Stp.of_below {R g : Nat} {w w' : World} (h : Below w.heap.size w w') : Stp R g g w w' :=
 ⟨⟨h.os,h.tape,h.output,h.size,fun k hk _ => h.block k hk⟩,.inl rfl⟩
theorem Stp.size {R g g' : Nat} {w w' : World} (h : Stp R g g' w w') : w.heap.size ≤ w'.heap.size:=h.k.size
theorem Stp.cell {R g g' : Nat} {w w' : World} (h : Stp R g g' w w') {b o : Nat} {v : Value} (hc : w.cell? ⟨b,o,none⟩ = some v) (h1 : b ≠ R) (h2 : b ≠ g) : w'.cell? ⟨b,o,none⟩ = some v:=h.k.cell hc (by simp [h1,h2])
theorem Wr.range {w : World} {R g cap : Nat} {bs : List Int} (h : Wr w R g cap bs) : bs.length ≤ maxLen:=by
 rcases h.row with hr | hr
 ·obtain ⟨cur,h1,h2,h3,_⟩:=hr.block;omega
 ·exact hr.2.1
theorem vT (R g cap : Nat) (bs : List Int) (a : Option Addr) (n c : Nat) (zs : List Int) (w : World) (h : Wr w R g cap bs) (hs : Seg w a n c zs) (hn : 0 < n) (hb : bs.length + n ≤ 1099511627776) :
  Calls Tryz.prog 317 #[.pointer (some ⟨R,0,none⟩),.slice a n c] w fun e w' => e = .returned (.tuple #[]) ∧ ∃ g' cap',Wr w' R g' cap' (bs ++ zs) ∧ Stp R g g' w w':=by
 have c0:=h.c0;have f0:=h.f0;have hlt:=h.lt;obtain ⟨i0,hi,hz0,hz1,hz2⟩:=info_parts Tryz.info5
 obtain ⟨ad,rfl⟩ : ∃ ad,a = some ad:=by
  rcases hs.2.2.2.2 with h0 | ⟨b,off,h,_⟩
  ·omega
  ·exact ⟨_,h⟩
 have HR:=hid h.row;have HNE:=hid h.ne;have HS:=hid hs;have hl:=hs.1;clear h hs
 go_enter Tryz.func317,Tryz.ntmps317
 go_wp2_with (at_builtin; (refine Da _ rfl (.tmp 8) (.tmp 9) 64 rfl i0 (.int .u8 0) Tryz.underlying64 hi hz0 hz1 hz2 rfl g bs.length cap _ rfl HR.out ad n c (zs.map (Value.int .u8)) rfl (by simp [hl]) (iY HS.out ad rfl) (j3 _) hn cG ae ?_; intro B cap' w1 hrow hk hor; have HO:=hid hrow; have HK:=hid hk; have HOR:=hid hor; have d0:=hk.cell c0 (Ne.symm HNE.out); have e0:=(bX (hk.block R hlt (Ne.symm HNE.out)) 0).trans f0; clear hrow hk hor c0 f0))
 go_end0
 have hne : B ≠ R:=by
  rcases HOR.out with h1 | h1
  ·have:=HNE.out; omega
  ·omega
 refine ⟨rfl,B,cap',⟨?_,?_,?_,hne⟩,⟨?_,HOR.out⟩⟩
 ·have:=World.cell?_setCell_same w1 ⟨R,0,none⟩ (.slice (some ⟨B,0,none⟩) (bs.length + n) cap') d0
  simpa [hl] using this
 ·rw [World.frozen?_setCell]; exact e0
 ·have hk : (w1.setCell ⟨R,0,none⟩ (.slice (some ⟨B,0,none⟩) (bs.length + n) cap')).heap[B]? = w1.heap[B]?:=Below.heap_setCell _ _ _ _ (by simpa using hne)
  have:=HO.out.keep hk
  refine .inl ?_
  simpa [hl] using this
 ·exact (HK.out.mono (T:=fun k => k = R ∨ k = g) (fun k hk => .inr hk)).trans ⟨rfl,rfl,rfl,by simp [World.setCell],fun k hk hs => Below.heap_setCell _ _ _ _ (by simp at hs ⊢; omega)⟩
end Go.Proofs.YtepnnenohjfkbaaGreatDoor

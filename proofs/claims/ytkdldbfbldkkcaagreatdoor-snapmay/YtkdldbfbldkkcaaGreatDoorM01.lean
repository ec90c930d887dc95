/-
  Texts Join Uvar Write WText TPure Mo Grow.
-/
import Derived.Laws.AppendOwnNone
import Derived.Lib.CutLaws
import Derived.Test.YtkdldbfbldkkcaaGreatDoorM00
set_option linter.unusedVariables false
set_option maxRecDepth 100000
set_option maxHeartbeats 16000000
namespace Go.Proofs.YtkdldbfbldkkcaaGreatDoor
open Go.RowKit
def cat (Z : Nat → List Int) : Nat → List Int
 | 0 => []
 | k + 1 => cat Z k ++ Z k
theorem wJ (Z : Nat → List Int) (k m : Nat) (h : k ≤ m) : (cat Z k).length ≤ (cat Z m).length:=by
 induction m with
 | zero =>
  obtain rfl : k = 0:=ae;omega
 | succ m ih =>
  by_cases e : k = m + 1
  ·subst e; omega
  ·have:=ih ae; simp only [cat,List.length_append]; omega
theorem fX (l : List Int) : ∀ u ∈ l.map (Value.int .u8),u.oneCell' = true:=by
 intro u hu;obtain ⟨z,_,rfl⟩:=List.mem_map.1 hu;rfl
theorem kg {w : World} {a : Option Addr} {n cap : Nat} {zs : List Int} (h : Seg w a n cap zs) :
  ∀ ad,a = some ad → ∀ (j : Nat) (u : Value),(zs.map (Value.int .u8))[j]? = some u → w.cell? (ad.add j) = some u:=by
 intro ad had j u hu;obtain ⟨hz,_,_,_,ha⟩:=h
 have hj : j < zs.length:=by
  rcases Nat.lt_or_ge j zs.length with h | h
  ·exact h
  ·simp [List.getElem?_eq_none (show (zs.map (Value.int .u8)).length ≤ j by simpa using h)] at hu
 rcases ha with ha | ⟨b,off,e,hc⟩
 ·omega
 ·rw [had] at e
  simp at e
  subst e
  have:=hc j ae
  have hplain : (⟨b,off,none⟩ : Addr).add j = ⟨b,off + j,none⟩:=dJ;rw [hplain,this]
  simp [ba hj] at hu
  subst hu
  simp [List.getD,ba hj]
theorem Seg.later {w w' : World} {a : Option Addr} {n cap : Nat} {zs : List Int} {B : Nat} (h : Seg w a n cap zs) (hb : Below B w w') (hB : w.heap.size ≤ B) : Seg w' a n cap zs:=by
 exact yf
theorem Seg.drewN {w : World} {a : Option Addr} {n cap : Nat} {zs : List Int} (h : Seg w a n cap zs) (m : Nat) : Seg (w.drewN m) a n cap zs:=by
 obtain ⟨hz,h1,h2,h3,ha⟩:=h;refine ⟨hz,h1,h2,h3,?_⟩
 rcases ha with ha | ⟨b,off,e,hc⟩
 ·exact .inl ha
 ·exact .inr ⟨b,off,e,fun j hj => by rw [World.cell?_drewN]; exact hc j hj⟩
theorem DI (P m cp : Nat) (A : Nat → Option Addr) (L C : Nat → Nat) (Z : Nat → List Int) (w : World) (hm : m ≤ 1000)
  (hp : ∀ j,j < m → w.cell? ⟨P,j,none⟩ = some (.slice (A j) (L j) (C j)))
  (hs : ∀ j,j < m → Seg w (A j) (L j) (C j) (Z j) ∧ (A j = none → C j = 0)) (hN : (cat Z m).length ≤ 1099511627776) (hPw : P < w.heap.size) :
  Calls Tryz.prog 86 #[.slice (some ⟨P,0,none⟩) m cp] w fun e w' => e = .returned (.slice (some ⟨w.heap.size,0,none⟩) (cat Z m).length (cat Z m).length) ∧
   w'.ownsRow w.heap.size 5 1 (.slice (some ⟨w.heap.size,0,none⟩) (cat Z m).length (cat Z m).length) (cat Z m).length ((cat Z m).map (Value.int .u8)) ∧ Below w.heap.size w w':=by
 obtain ⟨i0,hi,hz0,hz1,hz2⟩:=info_parts Tryz.info5;have hb2 : i0.bytes * (cat Z m).length ≤ 281474976710656:=uy;have hml : (cat Z m).length ≤ maxLen:=cH
 go_enter Tryz.func86,Tryz.ntmps86
 go_wp2
 go_loop [3,11] (fun s i => ∃ k : Nat,k ≤ m ∧ i = .int .i64 k ∧ s = .int .i64 (cat Z k).length) (fun _ i => m - (intOf i).toNat)
 case atStart => exact ⟨0,ae,rfl,rfl⟩
 case round =>
  obtain ⟨k,hk,rfl,rfl⟩:=hrel
  by_cases hlt : k < m
  ·have hcell:=hp k hlt;have hlen:=(hs k hlt).1.1;have hmo:=wJ Z (k + 1) m ae
   have HC:=hid (show (cat Z (k + 1)).length = (cat Z k).length + L k by simp [cat,hlen])
   have hle : (cat Z k).length + L k ≤ 1099511627776:=by have:=HC.out; omega
   clear hp hs hlen hmo hb2 hml hi hz0 hz1 hz2 hN;go_wp2
   go_round
   case rel => exact ⟨k + 1,ae,bU,by rw [HC.out]; go_num⟩
   case measure => simp [intOf]; omega
  ·obtain rfl : k = m:=ae
   go_wp2_with (first | (at_make; refine wpList_make_own _ rfl _ _ 42 rfl w.heap.size 5 i0 (.int .u8 0) 1 Tryz.underlying42 hi hz0 hz1 .i64 .i64 _ (cat Z k).length rfl rfl rfl hb2 hml (Nat.le_refl _) ?_; intro w1 hown hgrow))
   have hbel : Below w.heap.size w w1:=(Below.refl _ _).grown hgrow (Nat.le_refl _) au;clear hgrow
   go_loopw [6,24] (fun v i wr => ∃ j : Nat,j ≤ k ∧ i = .int .i64 j ∧ v = .slice (some ⟨w.heap.size,0,none⟩) (cat Z j).length (cat Z k).length ∧
    wr.ownsRow w.heap.size 5 1 (.slice (some ⟨w.heap.size,0,none⟩) (cat Z j).length (cat Z k).length) (cat Z j).length ((cat Z j).map (Value.int .u8)) ∧ Below w.heap.size w wr) (fun _ i _ => k - (intOf i).toNat)
   case atStart => exact ⟨0,ae,rfl,rfl,hown,hbel⟩
   case round =>
    obtain ⟨j,hj,rfl,rfl,hownr,hb⟩:=hrel;clear hown hbel
    by_cases hjk : j < k
    ·have hcell : wr.cell? ⟨P,j,none⟩ = some (.slice (A j) (L j) (C j)):=(hb.cell (p:=⟨P,j,none⟩) hPw).trans (hp j hjk);obtain ⟨hseg,hnone⟩:=hs j hjk;have hsl:=hseg.later hb (Nat.le_refl _)
     have hnn : A j = none → L j = 0 ∧ C j = 0:=fun h => ⟨by have:=hnone h; have:=hseg.2.1; omega,hnone h⟩
     have hcl:=kg hsl
     have hlen : ((Z j).map (Value.int .u8)).length = L j * 1:=by simp [hseg.1]
     have hmo:=wJ Z (j + 1) k ae
     have HC:=hid (show (cat Z (j + 1)).length = (cat Z j).length + L j by simp [cat,hseg.1])
     have hroom : (cat Z j).length + L j ≤ (cat Z k).length:=by have:=HC.out; omega
     have HB:=hid hb;have HO:=hid hownr;have HL:=hid hcl;have HN:=hid hnn;clear hp hs hb hownr hseg hnone hsl hcl hnn hmo
     go_wp2_with (first | (at_builtin; refine wpList_append_fits_any _ rfl _ _ 42 rfl w.heap.size 5 i0 1 Tryz.underlying42 hi hz1 w.heap.size (cat Z j).length (cat Z k).length _ rfl HO.out (A j) (L j) (C j) ((Z j).map (Value.int .u8)) rfl hlen HN.out HL.out (fX _) hroom ?_; intro w2 hown2 hgrow2))
     have hb2' : Below w.heap.size w w2:=HB.out.grown hgrow2 (HB.out.size) au
     have ho2 : w2.ownsRow w.heap.size 5 1 (.slice (some ⟨w.heap.size,0,none⟩) (cat Z (j + 1)).length (cat Z k).length) (cat Z (j + 1)).length ((cat Z (j + 1)).map (Value.int .u8)):=by
      rw [HC.out]; simp only [cat,List.map_append]; exact hown2
     exact ⟨⟨j + 1,ae,bU,by rw [HC.out],ho2,hb2'⟩,cC⟩
    ·obtain rfl : j = k:=ae;clear hp hs;go_wp2;go_ret;exact ⟨rfl,hownr,hb⟩
theorem Ah {w : World} {B n cap : Nat} {zs : List Int} {base : Nat} (h : w.ownsRow base 5 1 (.slice (some ⟨B,0,none⟩) n cap) n (zs.map (Value.int .u8))) (hl : zs.length = n) (hn : n ≤ 1099511627776) (hr : ∀ z ∈ zs,0 ≤ z ∧ z ≤ 255) (hcap : n ≤ cap) :
  Seg w (some ⟨B,0,none⟩) n cap zs:=by
 refine ⟨hl,hcap,hn,hr,.inr ⟨B,0,rfl,fun j hj => ?_⟩⟩
 rw [Nat.zero_add,h.cellAt j ae];have hj' : j < zs.length:=ae
 simp [hj']
theorem Ds (Z : Nat → List Int) (m : Nat) (h : ∀ j,j < m → ∀ z ∈ Z j,0 ≤ z ∧ z ≤ 255) : ∀ z ∈ cat Z m,0 ≤ z ∧ z ≤ 255:=by
 induction m with
 | zero => intro z hz; simp [cat] at hz
 | succ m ih =>
  intro z hz
  simp only [cat,List.mem_append] at hz
  rcases hz with hz | hz
  ·exact ih (fun j hj => h j ae) z hz
  ·exact h m ae z hz
theorem G0 (P m cp : Nat) (A : Nat → Option Addr) (L C : Nat → Nat) (Z : Nat → List Int) (w : World) (hm : m ≤ 1000)
  (hp : ∀ j,j < m → w.cell? ⟨P,j,none⟩ = some (.slice (A j) (L j) (C j)))
  (hs : ∀ j,j < m → Seg w (A j) (L j) (C j) (Z j) ∧ (A j = none → C j = 0)) (hN : (cat Z m).length ≤ 1099511627776) (hPw : P < w.heap.size) (h0 : 0 < (cat Z m).length) :
  Calls Tryz.prog 86 #[.slice (some ⟨P,0,none⟩) m cp] w fun e w' => e = .returned (.slice (some ⟨w.heap.size,0,none⟩) (cat Z m).length (cat Z m).length) ∧
   Seg w' (some ⟨w.heap.size,0,none⟩) (cat Z m).length (cat Z m).length (cat Z m) ∧ Below w.heap.size w w' ∧ w.heap.size < w'.heap.size:=by
 refine (DI P m cp A L C Z w hm hp hs hN hPw).mono fun e w' ⟨he,ho,hb⟩ => ?_
 have hseg:=Ah ho rfl hN (Ds Z m fun j hj => (hs j hj).1.2.2.2.1) (Nat.le_refl _)
 refine ⟨he,hseg,hb,?_⟩
 rcases hseg.2.2.2.2 with h | ⟨b,off,e1,hc⟩
 ·omega
 ·have:=hc 0 h0
  simp at e1
  have:=block_lt_of_cell this
  simp only at this
  omega
theorem Lj {V : Int} (h0 : 0 ≤ V) (h1 : V < 18446744073709551616) : bits .and .u64 V 127 = V % 128:=by
 rw [u64_and V 127 h0 h1 ax ax]
 simp only [Int.reduceToNat]
 rw [nat_mask7]; omega
theorem Nb {c : Int} (h0 : 0 ≤ c) (h1 : c < 128) : bits .or .u8 c 128 = c + 128:=by
 rw [u8_or c 128 h0 ae ax ax]
 simp only [Int.reduceToNat]
 rw [Nat.or_comm,nat_join 7 128 c.toNat ax (by simp only [Nat.reducePow]; omega)]
 omega
theorem LX (pre : List Int) (k m : Nat) (c : Int) (h : pre.length = k) : ((pre ++ List.replicate (m + 1) 0).map (Value.int .u8)).set k (.int .u8 c) = ((pre ++ [c]) ++ List.replicate m 0).map (Value.int .u8):=by
 subst h;rw [← List.map_set]
 congr 1
 rw [List.set_append_right _ _ ae]
 simp [List.replicate_succ]
theorem Iw {w wr : World} {pre : List Int} {k : Nat} (c : Int) (hk : k ≤ 9) (hp : pre.length = k)
  (hown : wr.ownsRow w.heap.size 158 1 (.slice (some ⟨w.heap.size,0,none⟩) 10 10) 10 ((pre ++ List.replicate (10 - k) 0).map (Value.int .u8))) (hb : Below w.heap.size w wr) :
  (wr.setCell ⟨w.heap.size,k,none⟩ (.int .u8 c)).ownsRow w.heap.size 158 1 (.slice (some ⟨w.heap.size,0,none⟩) 10 10) 10 (((pre ++ [c]) ++ List.replicate (10 - (k + 1)) 0).map (Value.int .u8)) ∧
   Below w.heap.size w (wr.setCell ⟨w.heap.size,k,none⟩ (.int .u8 c)):=by
 have h:=hown.stored k (.int .u8 c);have e : 10 - k = 10 - (k + 1) + 1:=ae;rw [e,LX pre k _ c hp] at h;exact ⟨h.1,hb.setCell au _⟩
theorem Tryz.len158 : Tryz.prog.arrayLen 158 = 10:=ak
theorem Tryz.und158 : Tryz.prog.underlying 158 = some (.array (Tryz.prog.arrayLen 158) (Tryz.prog.elem 158)):=ak
theorem Tryz.size158 (w : World) : (sizeOf (Tryz.prog.elem 158)).run Tryz.prog w = .ok 1 w:=ak
theorem tN (B k : Nat) (hk : k ≤ 9) (w : World) :
  (Instr.sliceAt 158 (.pointer (some ⟨B,0,none⟩)) none (some (.int .i64 ((k : Int) + 1))) none).run Tryz.prog w = .ok (.slice (some ⟨B,0,none⟩) (k + 1) 10) w:=by
 rw [run_sliceAt_array_h w 158 ⟨B,0,none⟩ Tryz.und158 .i64 ((k : Int) + 1) ae (by rw [Tryz.len158]; omega),Tryz.size158]
 have e : ((k : Int) + 1).toNat = k + 1:=ae
 simp only [Result.andThen,slicedAt,Tryz.len158,e]
 simp [Addr.add]
theorem xE {w W : World} {k : Nat} {V v : Int} {pre : List Int} (hk : k ≤ 9) (hp : pre.length = k) (hV : 0 ≤ V) (hV1 : V < 128) (huv : aw v = pre ++ [V]) (hpr : ∀ z ∈ pre,0 ≤ z ∧ z ≤ 255)
  (ho : W.ownsRow w.heap.size 158 1 (.slice (some ⟨w.heap.size,0,none⟩) 10 10) 10 (((pre ++ [V]) ++ List.replicate (10 - (k + 1)) 0).map (Value.int .u8))) (hb : Below w.heap.size w W) (hsz : W.heap.size = w.heap.size + 1) :
  Calls Tryz.prog 86 #[.slice (some ⟨w.heap.size + 1,0,none⟩) 1 1] (W.alloc (gV (some ⟨w.heap.size,0,none⟩) (k + 1) 10)) fun e w' =>
   e = .returned (.slice (some ⟨w.heap.size + 2,0,none⟩) (aw v).length (aw v).length) ∧
   Seg w' (some ⟨w.heap.size + 2,0,none⟩) (aw v).length (aw v).length (aw v) ∧ Below w.heap.size w w' ∧ w.heap.size + 2 < w'.heap.size:=by
 have hlen : (aw v).length = k + 1:=by rw [huv]; simp [hp]
 have hr : ∀ z ∈ aw v,0 ≤ z ∧ z ≤ 255:=by
  intro z hz;rw [huv] at hz;exact Cx
 have hseg : Seg W (some ⟨w.heap.size,0,none⟩) (k + 1) 10 (aw v):=by
  refine ⟨hlen,ae,ae,hr,.inr ⟨_,0,rfl,fun j hj => ?_⟩⟩
  rw [Nat.zero_add,ho.cellAt j ae,huv]
  have hj' : j < (pre ++ [V]).length:=by simp [hp]; omega
  rw [List.getElem?_map,List.getElem?_append_left hj']
  simp [ba hj']
 have hba : Below W.heap.size W (W.alloc (gV (some ⟨w.heap.size,0,none⟩) (k + 1) 10)):=(Below.refl _ _).alloc (Nat.le_refl _) _
 have hs2 : (W.alloc (gV (some ⟨w.heap.size,0,none⟩) (k + 1) 10)).heap.size = w.heap.size + 2:=by simp [hsz]
 have hc1 : cat (fun _ => aw v) 1 = aw v:=by simp [cat]
 have J:=G0 (w.heap.size + 1) 1 1 (fun _ => some ⟨w.heap.size,0,none⟩) (fun _ => k + 1) (fun _ => 10) (fun _ => aw v) (W.alloc (gV (some ⟨w.heap.size,0,none⟩) (k + 1) 10)) ae
  (fun j hj => by
   obtain rfl : j = 0:=ae
   rw [← hsz]; simp)
  (fun j _ => ⟨hseg.later hba (Nat.le_refl _),fun h => cj⟩) (by rw [hc1]; omega) (by rw [hs2]; omega) (by rw [hc1]; omega)
 rw [hc1,hs2] at J
 refine J.mono fun e w' ⟨he,hsg,hbl,hz⟩ => ⟨he,hsg,?_,hz⟩
 exact (hb.trans (hba.mono ae)).trans (hbl.mono ae)
theorem uq (v : Int) (w : World) (h0 : 0 ≤ v) (h1 : v < 18446744073709551616) :
  Calls Tryz.prog 68 #[.int .u64 v] w fun e w' => e = .returned (.slice (some ⟨w.heap.size + 2,0,none⟩) (aw v).length (aw v).length) ∧
   Seg w' (some ⟨w.heap.size + 2,0,none⟩) (aw v).length (aw v).length (aw v) ∧ Below w.heap.size w w' ∧ w.heap.size + 2 < w'.heap.size:=by
 go_enter Tryz.func68,Tryz.ntmps68
 go_wp2
 go_loopw [0,4] (fun x i wr => ∃ (k : Nat) (V : Int) (pre : List Int),k ≤ 9 ∧ i = .int .i64 k ∧ x = .int .u64 V ∧ pre.length = k ∧ 0 ≤ V ∧ V < 18446744073709551616 ∧ V * 128 ^ k < 18446744073709551616 ∧ aw v = pre ++ uv (9 - k) V ∧ (∀ z ∈ pre,0 ≤ z ∧ z ≤ 255) ∧
   wr.ownsRow w.heap.size 158 1 (.slice (some ⟨w.heap.size,0,none⟩) 10 10) 10 ((pre ++ List.replicate (10 - k) 0).map (Value.int .u8)) ∧ Below w.heap.size w wr ∧ wr.heap.size = w.heap.size + 1) (fun x _ _ => (intOf x).toNat)
 case atStart =>
  exact ⟨0,v,[],ae,rfl,rfl,rfl,h0,h1,gj,rfl,au,World.ownsRow_lit w _ 10 (Nat.le_refl _) ax rfl,(Below.refl _ _).alloc (Nat.le_refl _) _,au⟩
 case round =>
  obtain ⟨k,V,pre,hk,rfl,rfl,hpl,hV0,hV1,hroom,huv,hpr,hown,hb,hsz⟩:=hrel
  have hcl : ∃ u,wr.cell? ⟨w.heap.size,k,none⟩ = some u:=by
   have:=hown.cellAt k ae
   exact ⟨_,this.trans (ba (by simp [hpl]; omega))⟩
  obtain ⟨u0,hcl⟩:=hcl;have hfz:=hown.frozenAt k
  have HS:=hid (fun c => Iw c hk hpl hown hb)
  have HU:=hid huv;have HP:=hid hpl;have HR:=hid hroom;clear huv hown hb hpl hroom
  by_cases h128 : 128 ≤ V
  ·have hk8:=room_end V k HR.out hk h128;have hand:=Lj hV0 hV1;have hor:=Nb (c:=V % 128) ae ae
   have HN:=hid (show aw v = (pre ++ [V % 128 + 128]) ++ uv (9 - (k + 1)) (V / 128) by
    rw [HU.out,show 9 - k = 9 - (k + 1) + 1 by omega]
    have hn : ¬ V < 128:=ae
    simp [uv,hn])
   go_wp2;have R:=HS.out (V % 128 + 128)
   refine ⟨⟨k + 1,V / 128,pre ++ [V % 128 + 128],ae,bU,rfl,by simp [HP.out],ae,ae,AO V k HR.out hV0,HN.out,?_,R.1,R.2,by simp [hsz]⟩,cC⟩
   intro z hz;exact Cx
  ·have hsl:=tN w.heap.size k hk
   have HF:=hid (show aw v = pre ++ [V] by
    rw [HU.out]
    cases h9 : 9 - k with
    | zero => rfl
    | succ f =>
     have hn : V < 128:=ae
     simp [uv,hn])
   have HJ:=hid (xE hk HP.out hV0 ae HF.out hpr (HS.out V).1 (HS.out V).2 (by simp [hsz]))
   go_wp2_with (first | (go_at_call 86; refine HJ.out.mono ?_; rintro e w' ⟨rfl,hseg,hbl,hz⟩))
   go_ret;exact ⟨rfl,hseg,hbl,hz⟩
theorem own_below {w w' : World} {base : Nat} {v : Value} {n : Nat} {xs : List Value} (hown : w.ownsRow base 5 1 v n xs) (hg : w.grownBy w' v.ownBlock) (hbase : base ≤ w.heap.size) : Below base w w':=by
 refine ⟨hg.os,hg.tape,hg.output,hg.size,fun k hk => hg.block k ae ?_⟩
 rcases hown.2 with ⟨rfl,_⟩ | ⟨g,cap,cur,rfl,hbg,_⟩
 ·simp [Value.ownBlock]
 ·simp [Value.ownBlock]; omega
theorem oU (w : World) {ops : Array Oper} {rest : List Oper} {o : Oper} {a : Act} {Q : Exit → Act → World → Prop} (hgd : o.guard = none)
  (s x : Operand) (ho : o.op = Op.call { callee:=Callee.builtin Builtin.append,args:=#[s,x],argTypes:=#[42,42] }) (base : Nat) (v : Value) (n : Nat) (xs : List Int)
  (hs : a.eval s = v) (hown : w.ownsRow base 5 1 v n (xs.map (Value.int .u8))) (ao : Option Addr) (m c : Nat) (zs : List Int) (hx : a.eval x = .slice ao m c)
  (hseg : Seg w ao m c zs) (hnone : ao = none → c = 0) (hb : n + m ≤ 1099511627776) (hbase : base ≤ w.heap.size)
  (h : ∀ (v' : Value) (w' : World),w'.ownsRow base 5 1 v' (n + m) ((xs ++ zs).map (Value.int .u8)) → Below base w w' → wpList Tryz.prog ops Q rest (a.put o.dst v') w') :
  wpList Tryz.prog ops Q (o :: rest) a w:=by
 obtain ⟨i0,hi,hz0,hz1,hz2⟩:=info_parts Tryz.info5
 cases ao with
 | none =>
  have hc:=hnone rfl;subst hc
  have hm : m = 0:=by have:=hseg.2.1; omega
  subst hm;have hzs : zs = []:=List.eq_nil_of_length_eq_zero hseg.1;subst hzs;refine wpList_append_own_none hgd s x 42 ho base 5 i0 1 Tryz.underlying42 hi v n _ hs hown hx ?_;refine h v w ?_ (Below.refl _ _)
  simpa using hown
 | some ad =>
  refine wpList_append_own w hgd s x 42 ho base 5 i0 (.int .u8 0) 1 1 Tryz.underlying42 hi hz0 hz1 hz2 rfl ax v n _ hs hown ad m c (zs.map (Value.int .u8)) hx (by simp [hseg.1])
   (kg hseg ad rfl) (fX _) cH ae hbase ?_
  intro v' w' ho' hg _;refine h v' w' ?_ (own_below hown hg hbase)
  rw [List.map_append]; exact ho'
theorem pk {w : World} {base : Nat} {v : Value} {n : Nat} {zs : List Int} (h : w.ownsRow base 5 1 v n (zs.map (Value.int .u8))) (hn : n ≤ 1099511627776) (hr : ∀ z ∈ zs,0 ≤ z ∧ z ≤ 255) :
  ∃ a c,v = .slice a n c ∧ Seg w a n c zs ∧ (a = none → c = 0):=by
 have hl : zs.length = n:=by have:=h.1; simpa using this
 rcases h.2 with ⟨rfl,rfl⟩ | ⟨g,cap,cur,rfl,hbg,hh,hnc,_⟩
 ·exact ⟨none,0,rfl,⟨hl,Nat.le_refl _,hn,hr,.inl rfl⟩,fun _ => rfl⟩
 ·exact ⟨_,cap,rfl,Ah h hl hn hr hnc,fun h => cj⟩
theorem I3 (x : Int) (h0 : 0 ≤ x) (h1 : x < 18446744073709551616) : bits .xor .u64 x 18446744073709551615 = 18446744073709551615 - x:=by
 obtain ⟨a,rfl⟩:=Int.eq_ofNat_of_zero_le h0
 show IntKind.u64.wrap ((BitVec.ofInt 64 (a : Int) ^^^ BitVec.ofInt 64 18446744073709551615).toNat : Int) = _
 have e1 : BitVec.ofInt 64 18446744073709551615 = BitVec.allOnes 64:=ax;rw [e1,BitVec.xor_allOnes,BitVec.toNat_not,ofInt_u64 a ae,IntKind.wrap_u64];omega
theorem EC (x : Int) (h0 : 0 ≤ x) (h1 : x < 18446744073709551616) : bits .xor .u64 x 0 = x:=by
 obtain ⟨a,rfl⟩:=Int.eq_ofNat_of_zero_le h0
 show IntKind.u64.wrap ((BitVec.ofInt 64 (a : Int) ^^^ BitVec.ofInt 64 0).toNat : Int) = _
 have e1 : BitVec.ofInt 64 0 = 0#64:=ax;rw [e1,BitVec.xor_zero,ofInt_u64 a ae,IntKind.wrap_u64];omega
theorem Lv (v : Int) (h : 0 ≤ v) (h1 : v < 9223372036854775808) : bits .xor .u64 (v * 2) (v / 9223372036854775808) = fo v:=by
 have e : v / 9223372036854775808 = 0:=ae;rw [e,EC _ ae ae];unfold fo
 rw [if_neg ae]; omega
theorem Li (v : Int) (h : v < 0) (h0 : -9223372036854775808 ≤ v) : bits .xor .u64 (IntKind.u64.wrap (IntKind.u64.wrap v * 2)) (IntKind.u64.wrap (v / 9223372036854775808)) = fo v:=by
 have e : v / 9223372036854775808 = -1:=ae;rw [e];have e1 : IntKind.u64.wrap (-1) = 18446744073709551615:=ax
 have e2 : IntKind.u64.wrap (IntKind.u64.wrap v * 2) = 18446744073709551616 + 2 * v:=by
  rw [IntKind.wrap_u64,IntKind.wrap_u64]; omega
 rw [e1,e2,I3 _ ae ae];unfold fo
 rw [if_pos h]; omega
theorem Mr (v : Int) (w : World) (h0 : -9223372036854775808 ≤ v) (h1 : v < 9223372036854775808) :
  Calls Tryz.prog 204 #[.int .i64 v] w fun e w' => e = .returned (.int .u64 (fo v)) ∧ w' = w:=by
 by_cases h : 0 ≤ v
 ·have HF:=hid (Lv v h h1);exact Bl
 ·have HF:=hid (Li v ae h0);exact Bl
theorem Iy (v : Int) (w : World) (h0 : -9223372036854775808 ≤ v) (h1 : v < 9223372036854775808) :
  Calls Tryz.prog 201 #[.int .i64 v] w fun e w' => e = .returned (.slice (some ⟨w.heap.size + 2,0,none⟩) (aw (fo v)).length (aw (fo v)).length) ∧
   Seg w' (some ⟨w.heap.size + 2,0,none⟩) (aw (fo v)).length (aw (fo v)).length (aw (fo v)) ∧ Below w.heap.size w w' ∧ w.heap.size + 2 < w'.heap.size:=by
 have hr:=wR v h0 h1;have HA:=hid (Mr v w h0 h1);have HB:=hid (uq (fo v) w hr.1 hr.2);clear hr;generalize fo v = u at *;generalize aw u = l at *
 go_enter Tryz.func201,Tryz.ntmps201
 go_wp2_with fail;refine HA.out.mono ?_;rintro e w1 ⟨rfl,rfl⟩;go_wp2_with fail;refine HB.out.mono ?_;rintro e w2 ⟨rfl,hs,hb,hz⟩;go_wp2;go_ret;exact ⟨rfl,hs,hb,hz⟩
def aL (s : ByteArray) : List Int:=s.data.toList.map fun c => (c.toNat : Int)
theorem dV (s : ByteArray) : (aL s).length = s.size:=by
 rw [aL,List.length_map]; exact Array.length_toList
theorem pS (s : ByteArray) : ∀ z ∈ aL s,0 ≤ z ∧ z ≤ 255:=by
 intro z hz;obtain ⟨c,_,rfl⟩:=List.mem_map.1 hz
 have:=c.toNat_lt
 omega
theorem dD (w : World) (s : ByteArray) (hs : s.size ≤ 1000000) : ∃ c W,(convert 9 42 (.string s)).run Tryz.prog w = .ok (.slice (some ⟨w.heap.size,0,none⟩) s.size c) W ∧
  Seg W (some ⟨w.heap.size,0,none⟩) s.size c (aL s) ∧ Below w.heap.size w W ∧ W.heap.size = w.heap.size + 1:=by
 refine ⟨_,_,run_bytes_of_string w 9 42 5 s Tryz.underlying9 Tryz.underlying42 Tryz.underlying5,?_,?_,?_⟩
 ·refine ⟨dV s,grownCap_ge _ _ _ _,ae,pS s,.inr ⟨_,0,rfl,fun j hj => ?_⟩⟩
  have hj' : j < s.data.size:=hj;have hb:=bytesRow_at s (grownCap w s.size 0 5) j hj'
  have hlt : j < (bytesRow s (grownCap w s.size 0 5)).size:=by
   rcases Nat.lt_or_ge j (bytesRow s (grownCap w s.size 0 5)).size with h | h
   ·exact h
   ·rw [Array.getElem?_eq_none h] at hb; cases hb
  rw [Nat.zero_add];have : (w.drew.alloc (.cells (bytesRow s (grownCap w s.size 0 5)) 5 ((bytesRow s (grownCap w s.size 0 5)).size,(bytesRow s (grownCap w s.size 0 5)).size + 1))).cell? ⟨w.heap.size,j,none⟩ = (bytesRow s (grownCap w s.size 0 5))[j]? :=
   World.cell?_alloc_mark w.drew _ _ _ j
  rw [this,hb]
  have hjl : j < s.data.toList.length:=by rw [Array.length_toList]; exact hj'
  have e : (aL s).getD j 0 = ((s.data.toList[j]'hjl).toNat : Int):=by
   simp only [aL,List.getD_eq_getElem?_getD,List.getElem?_map,ba hjl,Option.map_some,Option.getD_some]
  rw [e,Array.getElem_toList]
 ·exact ((Below.refl _ _).drew).alloc au _
 ·simp
theorem xY {w w1 W : World} {l : List Int} {s : ByteArray} {c : Nat} (h1 : Seg w1 (some ⟨w.heap.size + 2,0,none⟩) l.length l.length l) (b1 : Below w.heap.size w w1) (z1 : w.heap.size + 2 < w1.heap.size)
  (h2 : Seg W (some ⟨w1.heap.size,0,none⟩) s.size c (aL s)) (b2 : Below w1.heap.size w1 W) (z2 : W.heap.size = w1.heap.size + 1) (hl : 1 ≤ l.length) (hl10 : l.length ≤ 10) (hs : s.size ≤ 1000000) :
  Calls Tryz.prog 86 #[.slice (some ⟨W.heap.size,0,none⟩) 2 2]
   (W.alloc (.cells #[.slice (some ⟨w.heap.size + 2,0,none⟩) l.length l.length,.slice (some ⟨w1.heap.size,0,none⟩) s.size c] 42)) fun e w' =>
   e = .returned (.slice (some ⟨W.heap.size + 1,0,none⟩) (l.length + s.size) (l.length + s.size)) ∧
   Seg w' (some ⟨W.heap.size + 1,0,none⟩) (l.length + s.size) (l.length + s.size) (l ++ aL s) ∧ Below w.heap.size w w' ∧ w.heap.size ≤ W.heap.size + 1 ∧ W.heap.size + 1 < w'.heap.size:=by
 have hba : Below W.heap.size W (W.alloc (.cells #[.slice (some ⟨w.heap.size + 2,0,none⟩) l.length l.length,.slice (some ⟨w1.heap.size,0,none⟩) s.size c] 42)):=(Below.refl _ _).alloc (Nat.le_refl _) _;have hsz : (W.alloc (.cells #[.slice (some ⟨w.heap.size + 2,0,none⟩) l.length l.length,.slice (some ⟨w1.heap.size,0,none⟩) s.size c] 42)).heap.size = W.heap.size + 1:=au
 have hc : cat (fun j => if j = 0 then l else aL s) 2 = l ++ aL s:=by simp [cat]
 have hlen : (l ++ aL s).length = l.length + s.size:=by rw [List.length_append,dV]
 have b1s:=b1.size
 have J:=G0 W.heap.size 2 2 (fun j => if j = 0 then some ⟨w.heap.size + 2,0,none⟩ else some ⟨w1.heap.size,0,none⟩) (fun j => if j = 0 then l.length else s.size) (fun j => if j = 0 then l.length else c) (fun j => if j = 0 then l else aL s)
  (W.alloc (.cells #[.slice (some ⟨w.heap.size + 2,0,none⟩) l.length l.length,.slice (some ⟨w1.heap.size,0,none⟩) s.size c] 42)) ae
  (fun j hj => by
   rcases (show j = 0 ∨ j = 1 by omega) with rfl | rfl <;> simp)
  (fun j hj => by
   rcases (show j = 0 ∨ j = 1 by omega) with rfl | rfl
   ·exact ⟨(h1.later b2 (Nat.le_refl _)).later hba (Nat.le_refl _),fun h => cj⟩
   ·exact ⟨h2.later hba (Nat.le_refl _),fun h => cj⟩)
  (by rw [hc,hlen]; omega) (by rw [hsz]; omega) (by rw [hc,hlen]; omega)
 rw [hc,hlen,hsz] at J
 refine J.mono fun e w' ⟨he,hsg,hbl,hz⟩ => ⟨he,hsg,?_,ae,hz⟩
 exact ((b1.trans (b2.mono ae)).trans (hba.mono ae)).trans (hbl.mono ae)
theorem Lp (s : ByteArray) (w : World) (hs : s.size ≤ 1000000) :
  Calls Tryz.prog 202 #[.string s] w fun e w' => ∃ B,e = .returned (.slice (some ⟨B,0,none⟩) ((aw s.size).length + s.size) ((aw s.size).length + s.size)) ∧
   Seg w' (some ⟨B,0,none⟩) ((aw s.size).length + s.size) ((aw s.size).length + s.size) (aw s.size ++ aL s) ∧ Below w.heap.size w w' ∧ w.heap.size ≤ B ∧ B < w'.heap.size:=by
 have HB:=hid (uq s.size w ae ae);have hl:=aK s.size;generalize aw s.size = l at *
 go_enter Tryz.func202,Tryz.ntmps202
 go_wp2_with fail;refine HB.out.mono ?_;rintro e w1 ⟨rfl,hs1,hb1,hz1⟩;obtain ⟨c,W,hrun,hsg,hbw,hsz⟩:=dD w1 s hs;have HS1:=hid hs1;have HB1:=hid hb1;have HS2:=hid hsg;have HB2:=hid hbw;have HZ:=hid hsz;clear hs1 hb1 hsg hbw hsz;have HJ:=hid (xY (w:=w) HS1.out HB1.out hz1 HS2.out HB2.out HZ.out hl.1 ae hs);go_wp2_with fail;refine HJ.out.mono ?_;rintro e w2 ⟨rfl,hs2,hb2,hw,hz2⟩;go_wp2;go_ret;exact ⟨_,rfl,hs2,hb2,hw,hz2⟩
theorem D8 {a b : ByteArray} (h : a.data.toList = b.data.toList) : a = b:=by
 cases a; cases b; congr; exact Array.toList_inj.1 h
theorem ij (a : ByteArray) : a.size = a.data.toList.length:=Array.length_toList.symm
theorem rH (a : ByteArray) : a.toList = a.data.toList:=ByteArray.toList_eq a
theorem iV (s : ByteArray) (most : Nat) : cA s most = true ↔ (∀ c ∈ s.data.toList,c = 119 ∨ c = 108) ∧ s.size ≤ most:=by
 rw [vr]
 constructor
 ·intro ⟨h,hm⟩
  refine ⟨fun c hc => ?_,hm⟩
  obtain ⟨i,hi,rfl⟩:=List.getElem_of_mem hc
  have:=h i (by rw [ij]; exact hi)
  rw [ic,ba hi,Option.getD_some] at this
  simp only [isL,Bool.or_eq_true,decide_eq_true_eq] at this
  rcases this with h | h
  ·left; apply UInt8.toNat_inj.1; exact Int.ofNat_inj.1 h
  ·right; apply UInt8.toNat_inj.1; exact Int.ofNat_inj.1 h
 ·intro ⟨h,hm⟩
  refine ⟨fun i hi => ?_,hm⟩
  rw [ij] at hi;rw [ic,ba hi,Option.getD_some]
  rcases h _ (List.getElem_mem hi) with h | h <;> rw [h] <;> rfl
def cO {α : Type} (f : List α → α → Int) : List α → List α → Int
 | _,[] => 0
 | ah,x :: r => if f ah x ≠ 0 then f ah x else cO f (ah ++ [x]) r
def orE (a b : Int) : Int:=if a ≠ 0 then a else b
def bS {α : Type} (f : List α → α → Int) (most : Int) (xs : List α) : Int:=if most < xs.length then 20 else cO f [] xs
abbrev Sg:=ByteArray × ByteArray
abbrev Gl:=Int × Bool × Int
abbrev Ex:=ByteArray × Int
def im (ah : List Sg) (x : Sg) : Bool:=ah.any fun y => (y.1.toList == x.1.toList) && (y.2.toList == x.2.toList)
def cZ (ah : List Sg) (x : Sg) : Int :=
 if 8 < x.1.size then 13 else if cA x.1 8 = false then 15 else if 8 < x.2.size then 13 else if cA x.2 8 = false then 15 else if im ah x = true then 16 else 0
def cd (n x : Int) : Int:=if x < 0 ∨ n ≤ x then 30 else 0
def iR (x : Gl) : Int:=if isL x.1 = false then 15 else if eu x.2.2 x.1 = false then 17 else 0
def lG (least x : Int) : Int:=if x < least ∨ 64 < x then 17 else 0
def lA (s : ByteArray) : List Int:=aw s.size ++ aL s
def bX (x : Sg) : List Int:=lA x.1 ++ lA x.2
def sgn (c v : Int) : Int:=if c = 119 then (if v < 4294967296 then (if v < 2147483648 then v else v - 4294967296) else 9223372036854775807) else if v < 9223372036854775808 then v else v - 18446744073709551616
def cQ (x : Gl) : List Int:=[x.1,if x.2.1 then 1 else 0] ++ aw (fo (sgn x.1 x.2.2))
theorem F9 (s : ByteArray) : (lA s).length = (aw s.size).length + s.size:=by simp [lA,dV]
theorem eB (s : ByteArray) (n : Nat) (h : s.size ≤ n) : 1 ≤ (lA s).length ∧ (lA s).length ≤ 10 + n:=by
 have:=aK s.size
 rw [F9]; omega
theorem i4 (x : Sg) (h1 : x.1.size ≤ 8) (h2 : x.2.size ≤ 8) : (bX x).length ≤ 36:=by
 have a:=eB x.1 8 h1;have b:=eB x.2 8 h2
 simp only [bX,List.length_append]; omega
theorem lK (x : Gl) : (cQ x).length ≤ 12:=by
 have:=aK (fo (sgn x.1 x.2.2))
 simp only [cQ,List.length_append,List.length_cons,List.length_nil]; omega
theorem eG (s : ByteArray) (m n : Nat) (h : s.size ≤ m) (h' : s.size ≤ n) : cA s m = cA s n:=by
 cases hb : cA s n
 ·cases ha : cA s m
  ·rfl
  ·have:=((iV s m).1 ha).1
   rw [(iV s n).2 ⟨this,h'⟩] at hb; cases hb
 ·exact (iV s m).2 ⟨((iV s n).1 hb).1,h⟩
theorem fJ {ah : List Sg} {x : Sg} (h : cZ ah x = 0) : x.1.size ≤ 8 ∧ cA x.1 8 = true ∧ x.2.size ≤ 8 ∧ cA x.2 8 = true ∧ im ah x = false:=by
 unfold cZ at h
 split at h
 ·cases h
 ·split at h
  ·cases h
  ·split at h
   ·cases h
   ·split at h
    ·cases h
    ·split at h
     ·cases h
     ·refine ⟨ae,by simp_all,ae,by simp_all,by simp_all⟩
theorem Ge {ah : List Sg} {x : Sg} (h : im ah x = true) : ∃ k y,ah[k]? = some y ∧ y.1.toList = x.1.toList ∧ y.2.toList = x.2.toList ∧ im (ah.take k) x = false:=by
 induction ah with
 | nil => simp [im] at h
 | cons a r ih =>
  by_cases ha : a.1.toList = x.1.toList ∧ a.2.toList = x.2.toList
  ·exact ⟨0,a,rfl,ha.1,ha.2,by simp [im]⟩
  ·have hf : ((a.1.toList == x.1.toList) && (a.2.toList == x.2.toList)) = false:=by
    cases hb : ((a.1.toList == x.1.toList) && (a.2.toList == x.2.toList))
    ·rfl
    ·simp at hb; exact absurd hb ha
   have hr : im r x = true:=by simpa [im,hf] using h
   obtain ⟨k,y,h1,h2,h3,h4⟩:=ih hr;refine ⟨k + 1,y,gj,h2,h3,?_⟩
   simp only [im,List.take_succ_cons,List.any_cons,hf,Bool.false_or]
   exact h4
def qy (s : ByteArray) : Bool:=(aL s).all (fun b => decide (33 ≤ b) && decide (b ≤ 126)) && !s.toList.isEmpty
def sGt (s nm : ByteArray) : Bool:=!Op.bytesLess s.toList nm.toList && !s.toList == nm.toList
def iD (ah : List Ex) (s : ByteArray) : Bool:=match ah.getLast? with | none => false | some y => !(sGt s y.1)
def gy (nf : Int) (ah : List Ex) (x : Ex) : Int :=
 if 32 < x.1.size then 13 else if qy x.1 = false then 23 else if iD ah x.1 = true then 18 else cd nf x.2
def fG (x : Ex) : List Int:=lA x.1 ++ aw x.2
def fO (w : World) (e : TypeId) (size B n cap : Nat) (xs : List Value) : Prop:=w.ownsRow 0 e size (.slice (some ⟨B,0,none⟩) n cap) n xs
theorem fO.of {w : World} {base : Nat} {e : TypeId} {size B n cap : Nat} {xs : List Value} (h : w.ownsRow base e size (.slice (some ⟨B,0,none⟩) n cap) n xs) : fO w e size B n cap xs:=by
 exact Ga
theorem fO.block {w : World} {e : TypeId} {size B n cap : Nat} {xs : List Value} (h : fO w e size B n cap xs) : ∃ cur,w.heap[B]? = some (.cells cur e) ∧ n ≤ cap ∧ cap ≤ maxLen ∧ cur.size = cap * size ∧ cur.toList.take (n * size) = xs:=by
 rcases h.2 with ⟨h,_⟩ | ⟨g,cp,cur,h1,_,h3,h4,h5,h6,h7⟩
 ·cases h
 ·simp at h1
  obtain ⟨rfl,rfl⟩:=h1;exact ⟨cur,h3,h4,h5,h6,h7⟩
theorem fO.lt {w : World} {e : TypeId} {size B n cap : Nat} {xs : List Value} (h : fO w e size B n cap xs) : B < w.heap.size:=by
 exact Fg
theorem aJ {w w' : World} {base : Nat} {e : TypeId} {size : Nat} {v : Value} {n : Nat} {xs : List Value} (h : w.ownsRow base e size v n xs) (hk : ∀ B,v.ownBlock = some B → w'.heap[B]? = w.heap[B]?) : w'.ownsRow base e size v n xs:=by
 exact EJ
theorem fO.keep {w w' : World} {e : TypeId} {size B n cap : Nat} {xs : List Value} (h : fO w e size B n cap xs) (hk : w'.heap[B]? = w.heap[B]?) : fO w' e size B n cap xs :=
 aJ h (fun b hb => by
  obtain rfl : B = b:=ql;exact hk)
theorem fO.kept {S : Nat → Prop} {w w' : World} {e : TypeId} {size B n cap : Nat} {xs : List Value} (h : fO w e size B n cap xs) (hk : Kept S w w') (hs : ¬ S B) : fO w' e size B n cap xs:=h.keep (hk.block B h.lt hs)
theorem fO.cell {w : World} {e : TypeId} {size B n cap : Nat} {xs : List Value} (h : fO w e size B n cap xs) (j : Nat) (hj : j < n * size) : w.cell? ⟨B,j,none⟩ = xs[j]?:=by
 obtain ⟨cur,h1,h2,h3,h4,h5⟩:=h.block
 have hl : j < cur.size:=by rw [h4]; exact Nat.lt_of_lt_of_le hj (Nat.mul_le_mul_right _ h2)
 rw [← h5,List.getElem?_take_of_lt hj]
 simp only [World.cell?,h1]
 simp
theorem fU {P : Program} (w : World) {ops : Array Oper} {rest : List Oper} {o : Oper} {a : Act} {Q : Exit → Act → World → Prop} (hgd : o.guard = none)
  (s x : Operand) (t : TypeId) (ho : o.op = Op.call { callee:=Callee.builtin Builtin.append,args:=#[s,x],argTypes:=#[t,t] }) (e : TypeId) (i : TypeInfo) (z : Value) (size bytes : Nat)
  (h1 : P.underlying t = some (.slice e)) (h2 : P.info? e = some i) (h3 : i.zero = some z) (h4 : i.size = size) (h5 : i.bytes = bytes) (h6 : z.cells.size = size) (h7 : 0 < size)
  (v : Value) (n : Nat) (xs : List Value) (hs : a.eval s = v) (hown : w.ownsRow 0 e size v n xs) (ad : Addr) (m c : Nat) (news : List Value) (hx : a.eval x = .slice (some ad) m c) (hn : news.length = m * size)
  (hc : ∀ j u,news[j]? = some u → w.cell? (ad.add j) = some u) (hone : ∀ u ∈ news,u.oneCell' = true) (hm : 0 < m)
  (b1 : n + m ≤ maxLen) (b2 : (n + m) * bytes ≤ 140737488355328)
  (h : ∀ (B cap : Nat) (w' : World),fO w' e size B (n + m) cap (xs ++ news) → ((v = .slice (some ⟨B,0,none⟩) n cap ∧ Kept (fun k => k = B) w w') ∨ (w.heap.size ≤ B ∧ Kept (fun _ => False) w w')) → wpList P ops Q rest (a.put o.dst (.slice (some ⟨B,0,none⟩) (n + m) cap)) w') :
  wpList P ops Q (o :: rest) a w:=by
 have grow : ∀ (ao : Option Addr) (cap : Nat),v = .slice ao n cap → (ao = none → n = 0 ∧ cap = 0) → (∀ b,ao = some b → ∀ (j : Nat) (y : Value),xs[j]? = some y → w.cell? (b.add j) = some y) → cap < n + m → wpList P ops Q (o :: rest) a w:=by
  intro ao cap hv hnone holds hfull;refine wpList_append_grows w hgd s x t ho e i z size bytes h1 h2 h3 h4 h5 h6 h7 ao n cap xs (hs.trans hv) hnone hown.1 holds ad m c news hx hn hc hone hfull b1 b2 ?_;intro v' w' ho' hg'
  rcases ho'.2 with ⟨_,hz⟩ | ⟨g,cp,cur,rfl,hbase,h8⟩
  ·omega
  ·exact h g cp w' (fO.of ho') (.inr ⟨hbase,(Kept.of_grown hg').mono (fun k hk => by cases hk)⟩)
 rcases hown.2 with ⟨rfl,rfl⟩ | ⟨g,cap,cur,rfl,_,hh,hnc,hcm,hsz,htk⟩
 ·exact grow none 0 rfl (fun _ => ⟨rfl,rfl⟩) (fun b hb => by cases hb) ae
 ·by_cases hroom : n + m ≤ cap
  ·refine wpList_append_fits w hgd s x t ho 0 e i size h1 h2 h4 g n cap xs hs hown ad m c news hx hn hc hone hroom ?_;intro w' ho' hg'
   exact h g cap w' ho' (.inl ⟨rfl,(Kept.of_grown hg').mono (fun k hk => by simpa using hk)⟩)
  ·refine grow (some ⟨g,0,none⟩) cap rfl (fun hb => by cases hb) (fun b hb j y hy => ?_) ae
   simp at hb
   subst hb
   have hj : j < xs.length:=by
    rcases Nat.lt_or_ge j xs.length with h | h
    ·exact h
    ·simp [List.getElem?_eq_none h] at hy
   have hl:=hown.1;have hplain : (⟨g,0,none⟩ : Addr).add j = ⟨g,j,none⟩:=dJ;rw [hplain,fO.cell hown j ae];exact hy
theorem Gw {P : Program} (w : World) {ops : Array Oper} {rest : List Oper} {o : Oper} {a : Act} {Q : Exit → Act → World → Prop} (hgd : o.guard = none)
  (s x : Operand) (t : TypeId) (ho : o.op = Op.call { callee:=Callee.builtin Builtin.append,args:=#[s,x],argTypes:=#[t,t] }) (e : TypeId) (i : TypeInfo) (z : Value) (size bytes : Nat)
  (h1 : P.underlying t = some (.slice e)) (h2 : P.info? e = some i) (h3 : i.zero = some z) (h4 : i.size = size) (h5 : i.bytes = bytes) (h6 : z.cells.size = size) (h7 : 0 < size)
  (g n cap : Nat) (xs : List Value) (hs : a.eval s = .slice (some ⟨g,0,none⟩) n cap) (hown : fO w e size g n cap xs) (ad : Addr) (m c : Nat) (news : List Value) (hx : a.eval x = .slice (some ad) m c) (hn : news.length = m * size)
  (hc : ∀ j u,news[j]? = some u → w.cell? (ad.add j) = some u) (hone : ∀ u ∈ news,u.oneCell' = true) (hm : 0 < m)
  (b1 : n + m ≤ maxLen) (b2 : (n + m) * bytes ≤ 140737488355328)
  (h : ∀ (B cap : Nat) (w' : World),fO w' e size B (n + m) cap (xs ++ news) → Kept (fun k => k = g) w w' → (B = g ∨ w.heap.size ≤ B) → wpList P ops Q rest (a.put o.dst (.slice (some ⟨B,0,none⟩) (n + m) cap)) w') :
  wpList P ops Q (o :: rest) a w:=by
 refine fU w hgd s x t ho e i z size bytes h1 h2 h3 h4 h5 h6 h7 _ n xs hs hown ad m c news hx hn hc hone hm b1 b2 ?_
 rintro B cp w' hr (⟨hv,hk⟩ | ⟨hB,hk⟩)
 ·simp at hv
  obtain ⟨rfl,rfl⟩:=hv;exact h g cap w' hr hk (.inl rfl)
 ·exact h B cp w' hr (hk.mono (fun k hk => hk.elim)) (.inr hB)
end Go.Proofs.YtkdldbfbldkkcaaGreatDoor

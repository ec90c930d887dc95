/-
  Texts NRh NWc.
-/
import Derived.Test.YtkdldbfbldkkcaaGreatDoorM00
import Derived.Test.YtkdldbfbldkkcaaGreatDoorM11
import Derived.Test.YtkdldbfbldkkcaaGreatDoorM12
set_option linter.unusedVariables false
set_option maxRecDepth 100000
set_option maxHeartbeats 16000000
namespace Go.Proofs.YtkdldbfbldkkcaaGreatDoor
open Go.RowKit
def pgS (zs : List Int) (n : Int) (x : List (List Int) × Int × RS) : List (List Int) × Int × RS :=
 (x.1.set (pnR zs x.2.1 n x.2.2).1.toNat (pgL zs (pnR zs x.2.1 n x.2.2).2.1.toNat),(pnR zs x.2.1 n x.2.2).1 + 1,pgR zs (pnR zs x.2.1 n x.2.2).2)
def pgI (zs : List Int) (n : Int) : Nat → List (List Int) × Int × RS → List (List Int) × Int × RS
 | 0,x => x
 | k + 1,x => pgS zs n (pgI zs n k x)
def qV (zs : List Int) (st : RS) : List (List Int) × RS :=
 ((pgI zs (nmR zs 64 20 st).1 (nmR zs (nmR zs 64 20 st).1 20 (nmR zs 64 20 st).2).1.toNat (List.replicate (nmR zs 64 20 st).1.toNat Zp,0,(nmR zs (nmR zs 64 20 st).1 20 (nmR zs 64 20 st).2).2)).1,
  (pgI zs (nmR zs 64 20 st).1 (nmR zs (nmR zs 64 20 st).1 20 (nmR zs 64 20 st).2).1.toNat (List.replicate (nmR zs 64 20 st).1.toNat Zp,0,(nmR zs (nmR zs 64 20 st).1 20 (nmR zs 64 20 st).2).2)).2.2)
theorem Ag (zs : List Int) (n : Int) (x : List (List Int) × Int × RS) : ∀ k,(pgI zs n k x).1.length = x.1.length
 | 0 => rfl
 | k + 1 => by
  show ((pgI zs n k x).1.set _ _).length = _
  rw [List.length_set];exact Ag zs n x k
theorem Ak (zs : List Int) (n : Int) (x : List (List Int) × Int × RS) (h : ∀ l ∈ x.1,l.length = 4096) : ∀ k,∀ l ∈ (pgI zs n k x).1,l.length = 4096
 | 0 => h
 | k + 1 => fun l hl => by
  have hl' : l ∈ (pgI zs n k x).1.set (pnR zs (pgI zs n k x).2.1 n (pgI zs n k x).2.2).1.toNat (pgL zs (pnR zs (pgI zs n k x).2.1 n (pgI zs n k x).2.2).2.1.toNat):=hl
  rcases List.mem_or_eq_of_mem_set hl' with h1 | h1
  ·exact Ak zs n x h k l h1
  ·rw [h1]; exact uF zs _
abbrev slP (b : Nat) : Value:=.slice (some ⟨b,0,none⟩) 4096 4096
structure PgA (lo : Nat) (w : World) (B : Nat) (bl : List Nat) (ps : List (List Int)) : Prop where
 row : w.heap[B]? = some (.cells (bl.map slP).toArray 42)
 len : bl.length = ps.length
 el : ∀ (j : Nat) b l,bl[j]? = some b → ps[j]? = some l → w.heap[b]? = some (.cells (byV l) 5)
 lo : ∀ (j : Nat) b,bl[j]? = some b → lo ≤ b ∧ b < w.heap.size
 asc : ∀ (i j : Nat) b b',i < j → bl[i]? = some b → bl[j]? = some b' → b < b'
theorem PgA.keep {S : Nat → Prop} {lo : Nat} {w w' : World} {B : Nat} {bl : List Nat} {ps : List (List Int)} (h : PgA lo w B bl ps) (hk : Kept S w w') (hB : ¬ S B) (hs : ∀ b,lo ≤ b → b < w.heap.size → ¬ S b) : PgA lo w' B bl ps:=by
 refine ⟨(hk.block B (fq h.row) hB).trans h.row,h.len,fun j b l hb hl => ?_,fun j b hb => ⟨(h.lo j b hb).1,Nat.lt_of_lt_of_le (h.lo j b hb).2 hk.size⟩,h.asc⟩
 have hh:=h.el j b l hb hl;exact (hk.block b (fq hh) (hs b (h.lo j b hb).1 (h.lo j b hb).2)).trans hh
theorem PgA.put {lo : Nat} {w : World} {B k b : Nat} {bl : List Nat} {ps : List (List Int)} {l : List Int} (h : PgA lo w B bl ps) (hB : B < lo) (hb : bl[k]? = some b) : PgA lo (w.setRow b (byV l)) B bl (ps.set k l):=by
 have hlt:=az hb;have hl:=h.len;obtain ⟨l0,hl0⟩ : ∃ l0,ps[k]? = some l0:=⟨_,ba ae⟩;have hh:=h.el k b l0 hb hl0;have hk:=fC (c':=byV l) hh;have hlo:=(h.lo k b hb).1
 have hsz : (w.setRow b (byV l)).heap.size = w.heap.size:=by simp [World.setRow]
 refine ⟨(hk.block B (fq h.row) ae).trans h.row,by rw [List.length_set]; exact h.len,fun j b' l' hb' hl' => ?_,fun j b' hb' => by rw [hsz]; exact h.lo j b' hb',h.asc⟩
 rw [List.getElem?_set] at hl'
 by_cases hjk : k = j
 ·subst hjk;rw [if_pos rfl,if_pos ae] at hl'
  obtain rfl : l = l':=by simpa using hl'
  rw [hb] at hb'
  obtain rfl : b = b':=by simpa using hb'
  exact jE hh
 ·rw [if_neg hjk] at hl';have h2:=h.el j b' l' hb' hl'
  have hne : b' ≠ b:=by
   rcases Nat.lt_or_gt_of_ne hjk with h3 | h3
   ·have:=h.asc k j b b' h3 hb hb'; omega
   ·have:=h.asc j k b' b h3 hb' hb; omega
  exact (hk.block b' (fq h2) hne).trans h2
theorem Lu {ρ : Operand → Value} {o : Oper} (d s : Operand) (ho : o.op = Op.call { callee:=Callee.builtin Builtin.copy,args:=#[d,s],argTypes:=#[42,42] }) (W : World) (B P : Nat) (old l : List Int) (h1 : old.length = 4096) (h2 : l.length = 4096) (hB : W.heap[B]? = some (.cells (byV old) 5)) (hP : W.heap[P]? = some (.cells (byV l) 139))
  (hd : ρ d = .slice (some ⟨B,0,none⟩) 4096 4096) (hs : ρ s = .slice (some ⟨P,0,none⟩) 4096 4096) :
  (execOp ρ o).run Tryz.prog W = .ok (.value (.int .i64 4096)) (W.setRow B (byV l)):=by
 have hz : (byV old).size = 4096:=by simp [byV,h1]
 have h:=El (ρ:=ρ) d s ho B 0 4096 4096 hd ⟨P,0,none⟩ 4096 4096 hs (byV old) 5 (l.map (Value.int .u8)) W hB (by simp [h2]) (fun j v hv => by
  have hplain : (⟨P,0,none⟩ : Addr).add j = ⟨P,j,none⟩:=dJ;rw [hplain,ai hP]
  simpa [byV] using hv) (by rw [hz]; simp [h2]) (fX l)
 rw [h]
 have e1 : ((byV old).toList.take 0 ++ l.map (Value.int .u8) ++ (byV old).toList.drop (0 + (l.map (Value.int .u8)).length)).toArray = byV l:=by
  have : (byV old).toList.drop (0 + (l.map (Value.int .u8)).length) = []:=List.drop_eq_nil_of_le (by simp [h1,h2])
  rw [this]
  simp
 rw [e1]
 simp [goInt,h2]
theorem Tryz.inf28 : (Tryz.prog.info? 42).map (fun i => (i.zero,i.size,i.bytes)) = some (some (.slice none 0 0),1,24):=ak
theorem JB (R : Nat) (b off n c : Nat) (zs : List Int) (st : RS) (w : World) (h : Rd w R (some ⟨b,off,none⟩) n c zs st) (h0 : 0 < n) :
  Calls Tryz.prog 51 #[.pointer (some ⟨R,0,none⟩)] w fun e w' => ∃ B bl,e = .returned (.slice (some ⟨B,0,none⟩) (qV zs st).1.length (qV zs st).1.length) ∧ PgA (B + 1) w' B bl (qV zs st).1 ∧ w.heap.size ≤ B ∧ Rd w' R (some ⟨b,off,none⟩) n c zs (qV zs st).2 ∧ Kept (fun k => k = R) w w':=by
 have hz:=h.seg.2.2.2.1
 have hl:=jr (st:=st) hz (by decide : (20 : Int) ≠ 0) (by decide : (0 : Int) ≤ 64)
 have HN:=hid (ou R (some ⟨b,off,none⟩) n c zs st 64 w h ax)
 simp only [Int.cast_ofNat_Int] at HN
 have hRl:=h.lt;have HLO:=hid h.low;have e : qV zs st = ((pgI zs (nmR zs 64 20 st).1 (nmR zs (nmR zs 64 20 st).1 20 (nmR zs 64 20 st).2).1.toNat (List.replicate (nmR zs 64 20 st).1.toNat Zp,0,(nmR zs (nmR zs 64 20 st).1 20 (nmR zs 64 20 st).2).2)).1,
  (pgI zs (nmR zs 64 20 st).1 (nmR zs (nmR zs 64 20 st).1 20 (nmR zs 64 20 st).2).1.toNat (List.replicate (nmR zs 64 20 st).1.toNat Zp,0,(nmR zs (nmR zs 64 20 st).1 20 (nmR zs 64 20 st).2).2)).2.2):=rfl
 rw [e];clear e h;generalize nmR zs 64 20 st = p at *;obtain ⟨V,st1⟩:=p;dsimp only at *;obtain ⟨m,rfl⟩:=Int.eq_ofNat_of_zero_le hl.1;rw [Int.toNat_natCast];have hm1 : m ≤ 64:=ae
 have hl2:=jr (st:=st1) hz (by decide : (20 : Int) ≠ 0) (by omega : (0 : Int) ≤ m)
 have HN2:=hid (fun (W : World) (hW : Rd W R (some ⟨b,off,none⟩) n c zs st1) => ou R (some ⟨b,off,none⟩) n c zs st1 m W hW ae)
 generalize nmR zs m 20 st1 = p2 at *;obtain ⟨V2,st2⟩:=p2;dsimp only at *;obtain ⟨cn,rfl⟩:=Int.eq_ofNat_of_zero_le hl2.1;rw [Int.toNat_natCast];have hcn : cn ≤ m:=ae;obtain ⟨Z,hZ⟩ : ∃ Z,Z = Zp:=⟨_,rfl⟩;have HZ:=hid hZ;rw [← hZ];clear hl hl2 hZ hz
 go_enter Tryz.func51,Tryz.ntmps51
 go_wp2_with fail;refine HN.out.mono ?_;rintro e w1 ⟨rfl,h1,k1⟩;have R1:=hid h1;have K1:=hid k1;clear h1 k1 HN;have hmk:=run_make_row' (P:=Tryz.prog) 32 42 (.slice none 0 0) 24 Tryz.underlying32 Tryz.inf28 rfl .i64 .i64 m ae ae w1
 have hmp : ∀ W : World,(Instr.makeSlice 42 (.int .i64 4096) (.int .i64 4096)).run Tryz.prog W = .ok (.slice (some ⟨W.heap.size,0,none⟩) 4096 4096) (W.alloc (.cells (byV Z) 5)):=fun W => by
  have:=run_make_row' (P:=Tryz.prog) 42 5 (.int .u8 0) 1 Tryz.underlying42 Tryz.info5 rfl .i64 .i64 4096 ax ax W
  have e : madeCells #[.int .u8 0] 4096 = byV Z:=by
   apply Array.toList_inj.1
   rw [toList_madeCells_one,HZ.out]
   simp [Zp]
  rw [e] at this;exact this
 have hb1:=aj w1 (.cells (madeCells #[.slice none 0 0] m) 42)
 have hkb : (w1.alloc (.cells (madeCells #[.slice none 0 0] m) 42)).heap[w1.heap.size]? = some (.cells ((([] : List Nat).map slP ++ List.replicate (m - 0) (Value.slice none 0 0))).toArray 42):=by
  rw [bZ]
  congr 2
  apply Array.toList_inj.1
  rw [toList_madeCells_one]
  simp
 have HKB:=hid hkb;have RR:=hid (R1.out.later hb1);have KK:=hid (K1.out.trans (ej (R:=R) hb1));have hsz : w1.heap.size < (w1.alloc (.cells (madeCells #[.slice none 0 0] m) 42)).heap.size:=au;have HWS:=hid K1.out.size;have hR1:=R1.out.lt;clear hb1 hkb R1 K1;go_wp2_with fail;generalize w1.alloc (.cells (madeCells #[.slice none 0 0] m) 42) = W1 at *
 go_loopw [13] (fun i wr => ∃ (k : Nat) (bl : List Nat),k ≤ m ∧ i = .int .i64 k ∧ Hid (bl.length = k) ∧ Hid (Rd wr R (some ⟨b,off,none⟩) n c zs st1) ∧ Hid (Kept (fun k => k = R) w wr) ∧ Hid (w1.heap.size < wr.heap.size) ∧ Hid (wr.heap[w1.heap.size]? = some (.cells ((bl.map slP ++ List.replicate (m - k) (Value.slice none 0 0))).toArray 42)) ∧ Hid (∀ (j : Nat) q,bl[j]? = some q → wr.heap[q]? = some (.cells (byV Z) 5) ∧ w1.heap.size + 1 ≤ q ∧ q < wr.heap.size) ∧ Hid (∀ (i j : Nat) q q',i < j → bl[i]? = some q → bl[j]? = some q' → q < q')) (fun i _ => m - (intOf i).toNat)
 case atStart => exact ⟨0,[],ae,rfl,hid rfl,RR,KK,hid hsz,HKB,hid (fun j q hq => by simp at hq),hid (fun i j q q' _ hq => by simp at hq)⟩
 case round =>
  obtain ⟨k,bl,hk,rfl,HBL,RW,KW,SW,OW,EW,AW⟩:=hrel
  by_cases hlt : k < m
  ·have hlt' : (k : Int) < (m : Int):=ae;have hne : w1.heap.size ≠ R:=mL;have b2:=aj wr (.cells (byV Z) 5);have kb2:=bc b2 OW.out;have kz:=bZ wr (.cells (byV Z) 5)
   have hc0 : ∃ u,(wr.alloc (.cells (byV Z) 5)).cell? ⟨w1.heap.size,k,none⟩ = some u:=by
    rw [ai kb2]
    exact ⟨_,by rw [List.getElem?_toArray]; exact ba (by simp [HBL.out]; omega)⟩
   obtain ⟨u0,hc0⟩:=hc0;have hf0 : (wr.alloc (.cells (byV Z) 5)).frozen? ⟨w1.heap.size,k,none⟩ = false:=dh kb2;have R2:=hid (RW.out.later b2);have hsa : (wr.alloc (.cells (byV Z) 5)).heap.size = wr.heap.size + 1:=au;have HKB2:=hid kb2;have HKZ:=hid kz;have HB2:=hid b2;clear b2 kb2 kz HN2;go_wp2_with fail;generalize hWA : wr.alloc (.cells (byV Z) 5) = WA at *;have hsw:=SW.out;have hxs : (WA.setCell ⟨w1.heap.size,k,none⟩ (slP wr.heap.size)).heap.size = WA.heap.size:=dH
   have hnew:=dC (i:=k) (v:=slP wr.heap.size) (by omega : wr.heap.size ≠ w1.heap.size) HKZ.out
   refine ⟨⟨k + 1,bl ++ [wr.heap.size],ae,bU,?_,?_,?_,?_,?_,?_,?_⟩,cC⟩
   ·exact hid (by simp [HBL.out])
   ·exact hid (R2.out.put hne (fun b1 o1 e hn => Ep))
   ·exact hid ((KW.out.trans (ej (R:=R) HB2.out)).then aO (fun q h1 h2 => mL))
   ·exact hid (by rw [hxs]; omega)
   ·have h1:=bi (i:=k) (v:=slP wr.heap.size) HKB2.out;rw [sIB] at h1
    have e : (bl.map slP ++ List.replicate (m - k) (Value.slice none 0 0)).set k (slP wr.heap.size) = (bl ++ [wr.heap.size]).map slP ++ List.replicate (m - (k + 1)) (Value.slice none 0 0):=by
     rw [show m - k = m - (k + 1) + 1 by omega,List.set_append_right _ _ (by rw [List.length_map,HBL.out]; omega),List.length_map,HBL.out]
     simp [List.replicate_succ]
    rw [e] at h1;exact hid h1
   ·refine hid (fun j q hq => ?_)
    rw [hxs]
    by_cases hj : j < bl.length
    ·rw [List.getElem?_append_left hj] at hq;obtain ⟨g1,g2,g3⟩:=EW.out j q hq;exact ⟨dC ae (bc HB2.out g1),g2,ae⟩
    ·rw [List.getElem?_append_right ae] at hq
     have hj0 : j - bl.length = 0:=by
      have:=az hq
      simp at this
      omega
     rw [hj0] at hq
     obtain rfl : wr.heap.size = q:=by simpa using hq
     exact ⟨hnew,ae,ae⟩
   ·refine hid (fun i j q q' hij hq hq' => ?_)
    have hj:=az hq';rw [List.length_append,List.length_singleton] at hj;rw [List.getElem?_append_left ae] at hq
    by_cases hjl : j < bl.length
    ·rw [List.getElem?_append_left hjl] at hq';exact AW.out i j q q' hij hq hq'
    ·rw [List.getElem?_append_right ae] at hq';obtain rfl : j = bl.length:=ae;rw [Nat.sub_self] at hq'
     obtain rfl : wr.heap.size = q':=by simpa using hq'
     exact (EW.out i q hq).2.2
  ·have hlt' : ¬ (k : Int) < (m : Int):=ae;obtain rfl : k = m:=ae
   have PA:=hid (show PgA (w1.heap.size + 1) wr w1.heap.size bl (List.replicate k Z) from ⟨by have:=OW.out; rw [Nat.sub_self] at this; simpa using this,by rw [HBL.out,List.length_replicate],fun j q l hq hl => (by
    rw [List.getElem?_replicate] at hl
    split at hl
    ·obtain rfl : Z = l:=by simpa using hl
     exact (EW.out j q hq).1
    ·cases hl),fun j q hq => (EW.out j q hq).2,AW.out⟩)
   clear OW EW AW hmp hmk;go_wp2_with fail;refine (HN2.out wr RW.out).mono ?_;rintro e w3 ⟨rfl,h3,k3⟩;have hR3:=h3.lt;have hne : w1.heap.size ≠ R:=mL;have R3:=hid h3;have K3:=hid (KW.out.trans k3)
   have P3:=hid (PA.out.keep k3 ae (fun q h1 h2 => ae))
   clear h3 k3 HN2 RW KW SW PA;go_wp2_with fail;generalize wr = wa at *;have hZl:=pV HZ;have HZL:=hid hZl;clear hZl
   go_loopw [5,25] (fun le i wr => ∃ (j ln : Nat),j ≤ cn ∧ i = .int .i64 j ∧ le = .int .i64 ln ∧ ln ≤ k ∧ Hid ((pgI zs k j (List.replicate k Z,0,st2)).2.1 = ln) ∧ Hid (Rd wr R (some ⟨b,off,none⟩) n c zs (pgI zs k j (List.replicate k Z,0,st2)).2.2) ∧ Hid (Kept (fun k => k = R) w wr) ∧ Hid (PgA (w1.heap.size + 1) wr w1.heap.size bl (pgI zs k j (List.replicate k Z,0,st2)).1)) (fun _ i _ => cn - (intOf i).toNat)
   case atStart => exact ⟨0,0,ae,rfl,rfl,ae,hid rfl,R3,K3,P3⟩
   case round =>
    obtain ⟨j,ln,hj,rfl,rfl,hln,HLN,RW,KW,PW⟩:=hrel
    by_cases hjc : j < cn
    ·have hjc' : (j : Int) < (cn : Int):=ae;have hz:=RW.out.seg.2.2.2.1;have hple:=Ic (zs:=zs) (least:=(ln : Int)) (count:=(k : Int)) (st:=(pgI zs k j (List.replicate k Z,0,st2)).2.2) hz ae;have HP1:=hid (LG R (some ⟨b,off,none⟩) n c zs _ ln k wr RW.out ae ae ae);have e1 : (pgI zs k (j + 1) (List.replicate k Z,0,st2)).1 = (pgI zs k j (List.replicate k Z,0,st2)).1.set (pnR zs ln k (pgI zs k j (List.replicate k Z,0,st2)).2.2).1.toNat (pgL zs (pnR zs ln k (pgI zs k j (List.replicate k Z,0,st2)).2.2).2.1.toNat):=zM;have e2 : (pgI zs k (j + 1) (List.replicate k Z,0,st2)).2.1 = (pnR zs ln k (pgI zs k j (List.replicate k Z,0,st2)).2.2).1 + 1:=zM;have e3 : (pgI zs k (j + 1) (List.replicate k Z,0,st2)).2.2 = pgR zs (pnR zs ln k (pgI zs k j (List.replicate k Z,0,st2)).2.2).2:=zM
     have hall:=Ak zs k (List.replicate k Z,0,st2) (fun l hl => by have:=List.eq_of_mem_replicate hl; subst this; exact HZL.out) j
     generalize pnR zs ln k (pgI zs k j (List.replicate k Z,0,st2)).2.2 = q4 at *;obtain ⟨V4,s4⟩:=q4;dsimp only at *;obtain ⟨kk,rfl⟩:=Int.eq_ofNat_of_zero_le hple.1;rw [Int.toNat_natCast] at e1;have hkk : kk < k:=ae
     have HP2:=hid (fun (W : World) (hW : Rd W R (some ⟨b,off,none⟩) n c zs s4) => Mx R b off n c zs s4 W hW h0)
     have hll:=uF zs s4.1.toNat;rw [← e3] at HP2;generalize pgL zs s4.1.toNat = l at *;have E1:=hid e1;have E2:=hid e2
     obtain ⟨bk,hbk⟩ : ∃ q,bl[kk]? = some q:=⟨_,ba (by have:=HBL.out; omega)⟩
     obtain ⟨old,hold⟩ : ∃ q,(pgI zs k j (List.replicate k Z,0,st2)).1[kk]? = some q:=⟨_,ba (by have h1:=PW.out.len; have:=HBL.out; omega)⟩
     have holdl:=hall old (List.mem_of_getElem? hold);have HX:=hid (And.intro hbk (And.intro hold (And.intro holdl hll)));clear e1 e2 e3 hall hple hz hbk hold holdl hll R3 K3 P3 HBL;go_wp2_with fail;refine HP1.out.mono ?_;rintro e w4 ⟨rfl,h4,k4⟩
     have P4:=hid (PW.out.keep k4 ae (fun q h1 h2 => ae))
     have K4:=hid (KW.out.trans k4);have R4:=hid h4;clear h4 k4 HP1 RW PW KW;go_wp2_with fail;refine (HP2.out w4 R4.out).mono ?_;rintro e w5 ⟨rfl,h5,k5⟩
     have P5:=hid (P4.out.keep k5 ae (fun q h1 h2 => ae))
     have K5:=hid (K4.out.trans k5);have b6:=aj w5 (gG l);have R6:=hid (h5.later b6)
     have P6:=hid (P5.out.keep (aX (S:=fun _ => False) b6) id (fun _ _ _ h => h))
     have K6:=hid (K5.out.trans (ej (R:=R) b6));have HPB:=hid (bZ w5 (gG l));clear h5 k5 HP2 R4 P4 K4 P5 K5 b6
     go_upto_region 12 with (first
      | (refine cR rfl _ (rT HZ rfl _) ?_)
      | (refine uX rfl ((Ku (.tmp 7) (.tmp 33) rfl w5.heap.size Z l rfl rfl HZL.out HX.out.2.2.2 _ (bZ w5 (gG Z))).trans (by rw [World.setRow_alloc_new])) ?_))
     generalize hW6 : w5.alloc (gG l) = W6 at *;have kd:=below_drewN W6 1
     have P7 : Hid (PgA (w1.heap.size + 1) W6.drew w1.heap.size bl (pgI zs k j (List.replicate k Z,0,st2)).1):=hid (P6.out.keep (aX (S:=fun _ => False) kd) id (fun _ _ _ h => h))
     have R7 : Hid (Rd W6.drew R (some ⟨b,off,none⟩) n c zs (pgI zs k (j + 1) (List.replicate k Z,0,st2)).2.2):=hid (R6.out.later kd)
     have K7 : Hid (Kept (fun k => k = R) w W6.drew):=hid (K6.out.trans (ej (R:=R) kd))
     have PB7 : Hid (W6.drew.heap[w5.heap.size]? = some (gG l)):=hid (bc kd HPB.out)
     have hS : W6.drew.cell? ⟨w1.heap.size,kk,none⟩ = some (slP bk):=by
      rw [ai P7.out.row,List.getElem?_toArray,List.getElem?_map,HX.out.1];rfl
     have hkk' : (kk : Int) < (k : Int):=ae;clear kd P6 R6 K6 HPB hW6
     refine wp_region_held_drew (S:=fun W => W.cell? ⟨w1.heap.size,kk,none⟩ = some (slP bk)) ak hS (fun _ => ?_)
     refine kj (i:=0) (oi:={ dst:=some 34,op:=Op.move (Operand.tmp 3),type:=32,pos:= "reader.go:50",after:=#[],guard:=none }) (v:=.slice (some ⟨w1.heap.size,0,none⟩) k k) rfl ?_;(try simp only [Act.put,sIB,sC0,sCs]);refine kj (i:=1) (oi:={ dst:=some 35,op:=Op.move (Operand.tmp 6),type:=3,pos:= "reader.go:50",after:=#[],guard:=none }) (v:=.int .i64 (kk : Int)) rfl ?_;(try simp only [Act.put,sIB,sC0,sCs]);refine kj (i:=2) (oi:={ dst:=some 36,op:=Op.indexAddr 32 (Operand.tmp 34) (Operand.tmp 35),type:=0,pos:= "reader.go:50",after:=#[{ on:=0,ground:=Ground.data },{ on:=1,ground:=Ground.data }],guard:=none }) (v:=.pointer (some ⟨w1.heap.size,kk,none⟩)) rfl ?_;(try simp only [Act.put,sIB,sC0,sCs]);refine kj (i:=3) (oi:={ dst:=some 37,op:=Op.load 42 (Operand.tmp 36),type:=42,pos:= "reader.go:50",after:=#[{ on:=2,ground:=Ground.data }],guard:=none }) (v:=slP bk) rfl ?_;try simp only [Act.put,sIB,sC0,sCs]
     refine kj (i:=4) (oi:={ dst:=some 38,op:=Op.slice 139 (Operand.tmp 7) none none none,type:=42,pos:= "reader.go:50",after:=#[],guard:=none }) (v:=.slice (some ⟨w5.heap.size,0,none⟩) 4096 4096) rfl ?_ (hv:=fun W _ => Bb (.tmp 7) rfl w5.heap.size rfl W)
     (try simp only [Act.put,sIB,sC0,sCs]);refine Oa (rs:=[5]) ?_
     refine NK (i:=5) (o:={ dst:=some 39,op:=Op.call { callee:=Callee.builtin Builtin.copy,args:=#[Operand.tmp 37,Operand.tmp 38],argTypes:=#[42,42] },type:=3,pos:= "reader.go:50",after:=#[{ on:=3,ground:=Ground.data },{ on:=4,ground:=Ground.data }],guard:=none }) rfl (fun K hK => ?_) rN
     unfold Oper.wp;rw [Lu (.tmp 37) (.tmp 38) rfl W6.drew bk w5.heap.size old l HX.out.2.2.1 HX.out.2.2.2 (P7.out.el kk bk old HX.out.1 HX.out.2.1) PB7.out rfl rfl,Oper.upon_value];have hblk:=P7.out.el kk bk old HX.out.1 HX.out.2.1;have hlo:=P7.out.lo kk bk HX.out.1;have kk8:=fC (c':=byV l) hblk;have hne8 : bk ≠ R:=ae;have P8:=hid (P7.out.put (l:=l) ae HX.out.1)
     have R8:=hid (R7.out.row (cs:=byV l) hne8 (fun b1 o1 e hn => Ep) hblk)
     have K8:=hid (K7.out.then kk8 (fun q h1 h2 => mL))
     have hS8 : (W6.drew.setRow bk (byV l)).cell? ⟨w1.heap.size,kk,none⟩ = some (slP bk):=kk8.cell hS ae
     refine hK.out _ _ hS8 (fun _ => ?_)
     clear hK K hblk hlo kk8 P7 R7 K7 PB7 hS;generalize W6.drew.setRow bk (byV l) = W8 at *;refine wpAnyH_done ak ?_ _;go_wp2_with fail;refine ⟨⟨j + 1,kk + 1,ae,bU,bU,ae,?_,R8,K8,?_⟩,cC⟩
     ·exact hid (by rw [E2.out]; rfl)
     ·rw [E1.out]; exact P8
    ·have hjc' : ¬ (j : Int) < (cn : Int):=ae;obtain rfl : j = cn:=ae;clear R3 K3 P3;go_wp2_with fail;go_ret;have hlen:=Ag zs k (List.replicate k Z,0,st2) j
     have hl3 : (pgI zs k j (List.replicate k Z,0,st2)).1.length = k:=by rw [hlen]; simp
     exact ⟨w1.heap.size,by rw [hl3]; rfl,⟨bl,PW.out⟩,HWS.out,RW.out,KW.out⟩
theorem Stp.low {R g1 g2 : Nat} {w0 W W' : World} (h : Stp R g1 g2 W W') (hB : Below w0.heap.size w0 W) (hR : w0.heap.size ≤ R) (hg : w0.heap.size ≤ g1) : Below w0.heap.size w0 W' ∧ w0.heap.size ≤ g2:=by
 refine ⟨hB.trans (h.k.to_below hB.size (fun k hk hs => ae)),?_⟩
 have:=hB.size
 rcases h.m with h1 | h1 <;> omega
theorem eY (l : List Int) : uE dM 10 l:=fun x _ s => cx x _ s
theorem wlU (R g cap : Nat) (s : WS) (a : Option Addr) (n c most : Nat) (l : List Int) (w0 w : World) (h : WrN w R g cap s.1 s.2) (hS : SI .u64 w0 a n l) (hr : ∀ v ∈ l,0 ≤ v ∧ v < 18446744073709551616) (hB : Below w0.heap.size w0 w) (hR : w0.heap.size ≤ R) (hg : w0.heap.size ≤ g)
  (hn : n ≤ 1099511627776) (hm : most ≤ 1000) (hb : s.1.length + 20 + 10 * most + 10 ≤ 1099511627776) :
  Calls Tryz.prog 41 #[.pointer (some ⟨R,0,none⟩),.slice a n c,.int .i64 most,.func (.func 42) #[.pointer (some ⟨R,0,none⟩)] #[]] w (fZ R g (bw dM l most s) w):=by
 by_cases h0 : n = 0
 ·subst h0;obtain rfl:=List.eq_nil_of_length_eq_zero hS.1;exact Eu R g cap s a c most dM _ _ _ w h ae ae
 ·obtain ⟨b,off,rfl,hc⟩:=hS.2.resolve_left h0
  exact MG R g cap s b off n c most 10 l dM 42 #[.pointer (some ⟨R,0,none⟩)] #[] (fun W g1 => Below w0.heap.size w0 W ∧ w0.heap.size ≤ g1) w h hS.1 ae hn ae ae hb ⟨hB,hg⟩
   (fun W W' g1 g2 hJ hS => hS.low hJ.1 hR hJ.2) (fun W g1 hJ j x hx => ag hJ.1 (hc j x hx)) cD (eY l) (fun _ _ => rfl)
   (fun W g1 cap1 s1 x hx hW hJ hb1 _ => Jn R g1 cap1 s1 x W hW (hr x hx).1 (hr x hx).2 hb1)
abbrev u64 (v : Int) : Int:=IntKind.u64.wrap v
theorem dv (v : Int) : 0 ≤ u64 v ∧ u64 v < 18446744073709551616:=by simp only [u64,IntKind.wrap_u64]; omega
def frW (x : FrM) (s : WS) : WS:=bw dM x.2.2.2.2 256 (bw dM x.2.2.1.2 64 (bz (u64 x.2.1) 2047 (bz (u64 x.1) 127 s)))
theorem lF : jH frW:=fun x s h => by
 unfold frW;rw [iX _ _ s h,iX _ _ s h,dG cD _ _ s h,dG cD _ _ s h]
theorem vv (l : List FrM) : uE frW 3300 l:=fun x _ s => by
 unfold frW;have h1:=cx (u64 x.1) 127 s;have h2:=cx (u64 x.2.1) 2047 (bz (u64 x.1) 127 s);have h3:=dY cD (eY x.2.2.1.2) 64 (bz (u64 x.2.1) 2047 (bz (u64 x.1) 127 s));have h4:=dY cD (eY x.2.2.2.2) 256 (bw dM x.2.2.1.2 64 (bz (u64 x.2.1) 2047 (bz (u64 x.1) 127 s)))
 simp only [Int.cast_ofNat_Int] at h3 h4
 omega
def FrR (x : FrM) : Prop:=(∀ v ∈ x.2.2.1.2,0 ≤ v ∧ v < 18446744073709551616) ∧ ∀ v ∈ x.2.2.2.2,0 ≤ v ∧ v < 18446744073709551616
theorem Js (R g cap : Nat) (s : WS) (x : FrM) (w0 w : World) (h : WrN w R g cap s.1 s.2) (hS : SF1 w0 x) (hF : FB x) (hr : FrR x) (hB : Below w0.heap.size w0 w) (hR : w0.heap.size ≤ R) (hg : w0.heap.size ≤ g) (hb : s.1.length + 3300 ≤ 1099511627776) :
  Calls Tryz.prog 45 #[.pointer (some ⟨R,0,none⟩),frV x] w (fZ R g (frW x s) w):=by
 have hn1:=dv x.1;have hn2:=dv x.2.1;have l1:=cx (u64 x.1) 127 s;have l2:=cx (u64 x.2.1) 2047 (bz (u64 x.1) 127 s);have l3:=dY cD (eY x.2.2.1.2) 64 (bz (u64 x.2.1) 2047 (bz (u64 x.1) 127 s))
 have N1:=hid (fun (W : World) (g cap : Nat) (hW : WrN W R g cap s.1 s.2) => cY R g cap s (u64 x.1) 127 W hW hn1.1 hn1.2 ae)
 have N2:=hid (fun (W : World) (g cap : Nat) (hW : WrN W R g cap (bz (u64 x.1) 127 s).1 (bz (u64 x.1) 127 s).2) => cY R g cap _ (u64 x.2.1) 2047 W hW hn2.1 hn2.2 ae)
 have e : frW x s = bw dM x.2.2.2.2 256 (bw dM x.2.2.1.2 64 (bz (u64 x.2.1) 2047 (bz (u64 x.1) 127 s))):=rfl;rw [e];clear e;generalize bz (u64 x.1) 127 s = s1 at *;generalize bz (u64 x.2.1) 2047 s1 = s2 at *
 have L1:=hid (fun (W : World) (g cap : Nat) (hW : WrN W R g cap s2.1 s2.2) (hB : Below w0.heap.size w0 W) (hg : w0.heap.size ≤ g) => wlU R g cap s2 x.2.2.1.1.1 x.2.2.1.1.2.1 x.2.2.1.1.2.2 64 x.2.2.1.2 w0 W hW hS.1 hr.1 hB hR hg hF.1 ae ae)
 simp only [Int.cast_ofNat_Int] at l3 L1
 generalize bw dM x.2.2.1.2 64 s2 = s3 at *
 have L2:=hid (fun (W : World) (g cap : Nat) (hW : WrN W R g cap s3.1 s3.2) (hB : Below w0.heap.size w0 W) (hg : w0.heap.size ≤ g) => wlU R g cap s3 x.2.2.2.1.1 x.2.2.2.1.2.1 x.2.2.2.1.2.2 256 x.2.2.2.2 w0 W hW hS.2 hr.2 hB hR hg hF.2 ae ae)
 simp only [Int.cast_ofNat_Int] at L2
 generalize bw dM x.2.2.2.2 256 s3 = s4 at *;have HW:=hid h;have HB:=hid hB;obtain ⟨x1,x2,⟨⟨la,ln,lc⟩,ll⟩,⟨⟨ka,kn,kc⟩,kl⟩⟩:=x;dsimp only at *;have b1:=aj w (frO x1 x2 la ln lc ka kn kc);have kb:=bZ w (frO x1 x2 la ln lc ka kn kc);have hlt:=h.lt;have hgl:=h.row.lt
 have HC:=hid (fun (W : World) (g2 : Nat) (hK : Stp R g g2 w W) (hW : W.heap[w.heap.size]? = some (frO x1 x2 la ln lc ka kn kc)) => (⟨ai hW,ai hW,ai hW,ai hW⟩ : W.cell? ⟨w.heap.size,0,none⟩ = some (.int .i64 x1) ∧ W.cell? ⟨w.heap.size,1,none⟩ = some (.int .i64 x2) ∧ W.cell? ⟨w.heap.size,2,none⟩ = some (.slice la ln lc) ∧ W.cell? ⟨w.heap.size,3,none⟩ = some (.slice ka kn kc)))
 have KB:=hid kb;have S0:=hid (Stp.of_below (R:=R) (g:=g) b1);have W0:=hid (h.later b1);clear h hB b1 kb l1 l2 l3 hF hr hS HW;have hsz : (w.alloc (frO x1 x2 la ln lc ka kn kc)).heap.size = w.heap.size + 1:=au;obtain ⟨U1,hU1⟩ : ∃ U,u64 x1 = U:=⟨_,rfl⟩;obtain ⟨U2,hU2⟩ : ∃ U,u64 x2 = U:=⟨_,rfl⟩;rw [hU1] at N1;rw [hU2] at N2;have hv1 : IntKind.u64.wrap x1 = U1:=hU1;have hv2 : IntKind.u64.wrap x2 = U2:=hU2;clear hU1 hU2 hn1 hn2
 have NX:=hid (fun (W W' : World) (g1 g2 : Nat) (hk : Stp R g1 g2 W W') (h1 : g1 ≠ w.heap.size) (h2 : w.heap.size < W.heap.size) (h3 : W.heap[w.heap.size]? = some (frO x1 x2 la ln lc ka kn kc)) => (show W'.heap[w.heap.size]? = some (frO x1 x2 la ln lc ka kn kc) ∧ g2 ≠ w.heap.size ∧ w.heap.size < W'.heap.size from ⟨(hk.k.block _ h2 ae).trans h3,by rcases hk.m with h | h <;> omega,by have:=hk.size; omega⟩))
 go_enter Tryz.func45,Tryz.ntmps45
 go_wp2_with fail;refine (N1.out _ g cap W0.out).mono ?_;rintro e w1 ⟨rfl,g1,cap1,hw1,hs1⟩;have n1:=NX.out _ _ _ _ hs1 ae ae KB.out;have S1:=hid (S0.out.trans hs1);have W1:=hid hw1;obtain ⟨a0,a1,a2,a3⟩:=HC.out w1 g1 S1.out n1.1;have M1:=hid n1;clear hw1 hs1 N1 n1;go_wp2_with fail;refine (N2.out _ g1 cap1 W1.out).mono ?_;rintro e w2 ⟨rfl,g2,cap2,hw2,hs2⟩;have n2:=NX.out _ _ _ _ hs2 M1.out.2.1 M1.out.2.2 M1.out.1;have S2:=hid (S1.out.trans hs2);have W2:=hid hw2;obtain ⟨a0,a1,a2,a3⟩:=HC.out w2 g2 S2.out n2.1;have M2:=hid n2;have LO2:=hid (S2.out.low HB.out hR hg);clear hw2 hs2 N2 n2;go_wp2_with fail;refine (L1.out _ g2 cap2 W2.out LO2.out.1 LO2.out.2).mono ?_;rintro e w3 ⟨rfl,g3,cap3,hw3,hs3⟩;have n3:=NX.out _ _ _ _ hs3 M2.out.2.1 M2.out.2.2 M2.out.1;have S3:=hid (S2.out.trans hs3);have W3:=hid hw3;obtain ⟨a0,a1,a2,a3⟩:=HC.out w3 g3 S3.out n3.1;have LO3:=hid (S3.out.low HB.out hR hg);clear hw3 hs3 L1 n3;go_wp2_with fail;refine (L2.out _ g3 cap3 W3.out LO3.out.1 LO3.out.2).mono ?_;rintro e w4 ⟨rfl,g4,cap4,hw4,hs4⟩;have S4:=hid (S3.out.trans hs4);have W4:=hid hw4;clear hw4 hs4 L2;go_wp2_with fail;go_end0;exact ⟨rfl,g4,cap4,W4.out,S4.out⟩
theorem wlF (R g cap : Nat) (s : WS) (a : Option Addr) (n c most : Nat) (l : List FrM) (w0 w : World) (h : WrN w R g cap s.1 s.2) (hS : SFr w0 a n l) (hF : ∀ x ∈ l,FB x) (hr : ∀ x ∈ l,FrR x) (hB : Below w0.heap.size w0 w) (hR : w0.heap.size ≤ R) (hg : w0.heap.size ≤ g)
  (hn : n ≤ 1099511627776) (hm : most ≤ 1000) (hb : s.1.length + 20 + 3300 * most + 3300 ≤ 1099511627776) :
  Calls Tryz.prog 44 #[.pointer (some ⟨R,0,none⟩),.slice a n c,.int .i64 most,.func (.func 45) #[.pointer (some ⟨R,0,none⟩)] #[]] w (fZ R g (bw frW l most s) w):=by
 by_cases h0 : n = 0
 ·subst h0;obtain rfl:=List.eq_nil_of_length_eq_zero hS.len;exact Gi R g cap s a c most frW _ _ _ w h ae ae
 ·obtain ⟨b,off,rfl,hc⟩:=hS.at_.resolve_left h0
  exact L8 R g cap s b off n c most 3300 l frW 45 #[.pointer (some ⟨R,0,none⟩)] #[] (fun W g1 => Below w0.heap.size w0 W ∧ w0.heap.size ≤ g1) w h hS.len ae hn ae ae hb ⟨hB,hg⟩
   (fun W W' g1 g2 hJ hS => hS.low hJ.1 hR hJ.2) (fun W g1 hJ j x hx => ⟨ag hJ.1 (hc j x hx).1,ag hJ.1 (hc j x hx).2.1,ag hJ.1 (hc j x hx).2.2.1,ag hJ.1 (hc j x hx).2.2.2⟩) lF (vv l) (fun _ _ => rfl)
   (fun W g1 cap1 s1 x hx hW hJ hb1 _ => Js R g1 cap1 s1 x w0 W hW (hS.in_ x hx) (hF x hx) (hr x hx) hJ.1 hR hJ.2 hb1)
end Go.Proofs.YtkdldbfbldkkcaaGreatDoor

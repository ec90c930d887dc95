/-
  Texts NRc NRd NRe NRf.
-/
import Derived.Deep.OwnRows
import Derived.Test.YtkdldbfbldkkcaaGreatDoorM00
import Derived.Test.YtkdldbfbldkkcaaGreatDoorM09
set_option linter.unusedVariables false
set_option maxRecDepth 100000
set_option maxHeartbeats 16000000
namespace Go.Proofs.YtkdldbfbldkkcaaGreatDoor
open Go.RowKit
def ocR (zs : List Int) (least most : Int) (st : RS) : Int × RS :=
 if st.1 = zs.length then tkR 0 0 10 st else if zs.getD st.1.toNat 0 < least ∨ most < zs.getD st.1.toNat 0 then tkR 0 0 17 st else tkR (zs.getD st.1.toNat 0) (st.1 + 1) 0 st
theorem Az (R : Nat) (a : Option Addr) (n c : Nat) (zs : List Int) (st : RS) (least most : Int) (w : World) (h : Rd w R a n c zs st) (hl : 0 ≤ least ∧ least ≤ 127) (hm : 0 ≤ most ∧ most ≤ 127) :
  Calls Tryz.prog 47 #[.pointer (some ⟨R,0,none⟩),.int .i8 least,.int .i8 most] w (tB R a n c zs (.int .i8 (ocR zs least most st).1) (ocR zs least most st).2 w):=by
 have HT:=hid (fun (v nx e : Int) (W : World) (hW : Below w.heap.size w W) (hn : e = 0 → 0 ≤ nx ∧ nx ≤ zs.length) => pI R a n c zs st v nx e W (h.later hW) hn)
 have c0:=h.c0;have c1:=h.c1
 have BW:=hid (fun m => below_drewN w m)
 have hzl:=h.seg.1;have hrg:=h.rg;have hsg:=h.seg;have hu1 : IntKind.u8.wrap least = least:=xI;have hu2 : IntKind.u8.wrap most = most:=xI;clear h;obtain ⟨at_,er⟩:=st;dsimp only at *;obtain ⟨p,rfl⟩:=Int.eq_ofNat_of_zero_le hrg.1
 by_cases he : p = n
 ·subst he
  have e : ocR zs least most ((p : Int),er) = tkR 0 0 10 ((p : Int),er):=by unfold ocR; rw [if_pos aI]
  rw [e]
  have hle:=qu (v:=0) (next:=0) (e:=10) (m:=127) (st:=((p : Int),er)) (fun h => cj) ax
  have HT:=hid (fun W hW => HT.out 0 0 10 W hW (fun h => cj))
  generalize tkR 0 0 10 ((p : Int),er) = q at *;obtain ⟨V,st1⟩:=q;dsimp only at *;have hv : IntKind.i8.wrap V = V:=i8_in V ae ae;clear e hle hsg hrg hzl
  go_enter Tryz.func47,Tryz.ntmps47
  go_wp2_with fail
  go_quiet (fail)
  go_wp2_with fail;refine (HT.out _ (BW.out _)).mono ?_;rintro e w3 ⟨rfl,h3,k3⟩;have R3:=hid h3;have K3:=hid ((ej (R:=R) (BW.out nq)).trans k3);clear h3 k3 HT;go_wp2_with fail;go_ret;exact ⟨rfl,R3.out,K3.out⟩
 ·have hpn : p < n:=ae;have hnb : n ≤ 1099511627776:=hsg.2.2.1;obtain ⟨b,off,rfl,hcell⟩:=hsg.2.2.2.2.resolve_left ae;have hz:=hcell p hpn
  have hzr : 0 ≤ zs.getD p 0 ∧ zs.getD p 0 ≤ 255:=by
   rw [List.getD_eq_getElem?_getD];exact py zs hsg.2.2.2.1 p
  have e : ocR zs least most ((p : Int),er) = if zs.getD p 0 < least ∨ most < zs.getD p 0 then tkR 0 0 17 ((p : Int),er) else tkR (zs.getD p 0) ((p : Int) + 1) 0 ((p : Int),er):=by
   unfold ocR;rw [if_neg aI];rfl
  rw [e];generalize zs.getD p 0 = z at *;have hne : ((p : Int) == (n : Int)) = false:=aI;have hlt' : (p : Int) < (n : Int):=ae
  by_cases hb : z < least ∨ most < z
  ·rw [if_pos hb]
   have hle:=qu (v:=0) (next:=0) (e:=17) (m:=127) (st:=((p : Int),er)) (fun h => cj) ax
   have HT:=hid (fun W hW => HT.out 0 0 17 W hW (fun h => cj))
   generalize tkR 0 0 17 ((p : Int),er) = q at *;obtain ⟨V,st1⟩:=q;dsimp only at *;have hv : IntKind.i8.wrap V = V:=i8_in V ae ae;clear e hle hsg hrg hzl hcell
   by_cases hb1 : z < least
   ·exact Eo
   ·have hb2 : most < z:=ae;exact Eo
  ·rw [if_neg hb];have hb1 : ¬ z < least:=ae;have hb2 : ¬ most < z:=ae
   have hle:=qu (v:=z) (next:=(p : Int) + 1) (e:=0) (m:=127) (st:=((p : Int),er)) (fun h => ae) ax
   have HT:=hid (fun W hW => HT.out z ((p : Int) + 1) 0 W hW (fun h => ae))
   generalize tkR z ((p : Int) + 1) 0 ((p : Int),er) = q at *;obtain ⟨V,st1⟩:=q;dsimp only at *;have hv : IntKind.i8.wrap V = V:=i8_in V ae ae;have hz64 : IntKind.u64.wrap z = z:=lw;clear e hle hsg hrg hzl hcell hb
   go_enter Tryz.func47,Tryz.ntmps47
   go_wp2_with fail
   go_quiet (fail)
   go_wp2_with fail
   go_quiet (fail)
   go_wp2_with fail;refine (HT.out _ (BW.out _)).mono ?_;rintro e w3 ⟨rfl,h3,k3⟩;have R3:=hid h3;have K3:=hid ((ej (R:=R) (BW.out _)).trans k3);clear h3 k3 HT;go_wp2_with fail;go_ret;exact ⟨rfl,R3.out,K3.out⟩
def rlR {α : Type} (f : RS → α × RS) : Nat → RS → List α × RS
 | 0,st => ([],st)
 | k + 1,st => ((rlR f k st).1 ++ [(f (rlR f k st).2).1],(f (rlR f k st).2).2)
theorem lJ {α : Type} (f : RS → α × RS) : ∀ (k : Nat) (st : RS),(rlR f k st).1.length = k
 | 0,st => rfl
 | k + 1,st => by simp [rlR,lJ f k st]
def vlR (zs : List Int) (st : RS) : Int × RS:=nmR zs 18446744073709551615 0 st
def lsR (zs : List Int) (most : Int) (st : RS) : List Int × RS:=rlR (vlR zs) (nmR zs most 20 st).1.toNat (nmR zs most 20 st).2
theorem Tryz.inf40 : (Tryz.prog.info? 49).map (fun i => (i.zero,i.size,i.bytes)) = some (some (.int .u64 0),1,8):=ak
structure RwU (base : Nat) (w : World) (B : Nat) (l : List Int) : Prop where
 own : w.ownsRow base 49 1 (.slice (some ⟨B,0,none⟩) l.length l.length) l.length (l.map (Value.int .u64))
 lo : base ≤ B
 hi : B < w.heap.size
theorem Rd.low {w : World} {R : Nat} {a : Option Addr} {n c : Nat} {zs : List Int} {st : RS} (h : Rd w R a n c zs st) : ∀ b off,a = some ⟨b,off,none⟩ → 0 < n → b < w.heap.size:=fun b off e hn => by
 obtain ⟨b',off',e',hc⟩:=h.seg.2.2.2.2.resolve_left ae;rw [e] at e'
 cases e'
 exact block_lt_of_cell (hc 0 hn)
theorem Rd.put {w : World} {R B i : Nat} {v : Value} {a : Option Addr} {n c : Nat} {zs : List Int} {st : RS} (h : Rd w R a n c zs st) (hB : B ≠ R) (hb : ∀ b off,a = some ⟨b,off,none⟩ → 0 < n → b ≠ B) : Rd (w.setCell ⟨B,i,none⟩ v) R a n c zs st:=by
 have hk : Kept (fun k => k = B) w (w.setCell ⟨B,i,none⟩ v):=⟨rfl,rfl,rfl,dH,fun k hk hs => Below.heap_setCell _ _ _ _ nt⟩
 refine ⟨hk.cell h.c0 ae,hk.cell h.c1 ae,hk.cell h.c2 ae,?_,?_,⟨h.seg.1,h.seg.2.1,h.seg.2.2.1,h.seg.2.2.2.1,?_⟩,h.ap,h.rg⟩
 ·rw [World.frozen?_setCell]; exact h.f1
 ·rw [World.frozen?_setCell]; exact h.f2
 ·exact ID
theorem aO {w : World} {B i : Nat} {v : Value} : Kept (fun k => k = B) w (w.setCell ⟨B,i,none⟩ v):=⟨rfl,rfl,rfl,dH,fun k hk hs => Below.heap_setCell _ _ _ _ nt⟩
theorem Ad (R : Nat) (a : Option Addr) (n c : Nat) (zs : List Int) (st : RS) (most : Nat) (w : World) (h : Rd w R a n c zs st) (hm : most ≤ 100000) :
  Calls Tryz.prog 49 #[.pointer (some ⟨R,0,none⟩),.int .i64 most,.func (.func 50) #[.pointer (some ⟨R,0,none⟩)] #[]] w fun e w' => ∃ B,e = .returned (.slice (some ⟨B,0,none⟩) (lsR zs most st).1.length (lsR zs most st).1.length) ∧ RwU w.heap.size w' B (lsR zs most st).1 ∧ Rd w' R a n c zs (lsR zs most st).2 ∧ Kept (fun k => k = R) w w':=by
 have hl:=jr (st:=st) h.seg.2.2.2.1 (by decide : (20 : Int) ≠ 0) (by omega : (0 : Int) ≤ most)
 have HN:=hid (ou R a n c zs st most w h hm);have hRl:=h.lt;have HLO:=hid h.low;have e : lsR zs most st = rlR (vlR zs) (nmR zs most 20 st).1.toNat (nmR zs most 20 st).2:=rfl;rw [e];clear e h;generalize nmR zs most 20 st = p at *;obtain ⟨V,st1⟩:=p;dsimp only at *;obtain ⟨m,rfl⟩:=Int.eq_ofNat_of_zero_le hl.1;rw [Int.toNat_natCast];have hm1 : m ≤ 100000:=ae
 have HV:=hid (fun (W : World) (s2 : RS) (hW : Rd W R a n c zs s2) => J1 R a n c zs s2 W hW)
 have hK : ∀ args w,(callFunc 50 args).run Tryz.prog w = .ok (.enter 50 args) w:=fun _ _ => rfl
 clear hl
 go_enter Tryz.func49,Tryz.ntmps49
 go_wp2_with fail;refine HN.out.mono ?_;rintro e w1 ⟨rfl,h1,k1⟩;have R1:=hid h1;have K1:=hid k1;clear h1 k1 HN;have hmk:=run_make_row' (P:=Tryz.prog) 31 49 (.int .u64 0) 8 Tryz.underlying31 Tryz.inf40 rfl .i64 .i64 m ae ae w1;have hb1:=aj w1 (.cells (madeCells #[.int .u64 0] m) 49);have hkb : (w1.alloc (.cells (madeCells #[.int .u64 0] m) 49)).heap[w1.heap.size]? = some (.cells (madeCells #[.int .u64 0] m) 49):=bZ _ _;have hmc : (madeCells #[.int .u64 0] m).toList = List.replicate m (.int .u64 0):=toList_madeCells_one _ _;have hR1:=R1.out.lt;have O0:=hid (show (w1.alloc (.cells (madeCells #[.int .u64 0] m) 49)).ownsRow w.heap.size 49 1 (.slice (some ⟨w1.heap.size,0,none⟩) m m) m (((rlR (vlR zs) 0 st1).1 ++ List.replicate (m - 0) 0).map (Value.int .u64)) from
  ⟨by simp [rlR],.inr ⟨w1.heap.size,m,_,rfl,K1.out.size,hkb,Nat.le_refl _,cH,by rw [← Array.length_toList,hmc]; simp,by rw [hmc]; simp [rlR]⟩⟩)
 have RR:=hid (R1.out.later hb1);have KK:=hid (K1.out.trans (ej (R:=R) hb1));have hsz : w1.heap.size < (w1.alloc (.cells (madeCells #[.int .u64 0] m) 49)).heap.size:=au;have HWS:=hid K1.out.size;clear hb1 hkb hmc R1 K1;go_wp2_with fail;generalize w1.alloc (.cells (madeCells #[.int .u64 0] m) 49) = W1 at *
 go_loopw [15] (fun i wr => ∃ (k : Nat),k ≤ m ∧ i = .int .i64 k ∧ Hid (Rd wr R a n c zs (rlR (vlR zs) k st1).2) ∧ Hid (Kept (fun k => k = R) w wr) ∧ Hid (w1.heap.size < wr.heap.size) ∧ Hid (wr.ownsRow w.heap.size 49 1 (.slice (some ⟨w1.heap.size,0,none⟩) m m) m (((rlR (vlR zs) k st1).1 ++ List.replicate (m - k) 0).map (Value.int .u64)))) (fun i _ => m - (intOf i).toNat)
 case atStart => exact ⟨0,ae,rfl,RR,KK,hid hsz,O0⟩
 case round =>
  obtain ⟨k,hk,rfl,RW,KW,SW,OW⟩:=hrel
  by_cases hlt : k < m
  ·have hlt' : (k : Int) < (m : Int):=ae;have HQ:=hid (HV.out wr _ RW.out);have e1 : (nmR zs 18446744073709551615 0 (rlR (vlR zs) k st1).2).2 = (rlR (vlR zs) (k + 1) st1).2:=rfl;have e2 : (rlR (vlR zs) (k + 1) st1).1 = (rlR (vlR zs) k st1).1 ++ [(nmR zs 18446744073709551615 0 (rlR (vlR zs) k st1).2).1]:=rfl;rw [e1] at HQ;have HE2:=hid e2;have HLN:=hid (lJ (vlR zs) k st1);clear e1 e2;generalize (nmR zs 18446744073709551615 0 (rlR (vlR zs) k st1).2).1 = V at *;obtain ⟨st2,hst2⟩ : ∃ q,(rlR (vlR zs) (k + 1) st1).2 = q:=⟨_,rfl⟩;rw [hst2] at HQ;have HST2:=hid hst2;clear hst2;clear HV;go_wp2_with fail;refine HQ.out.mono ?_;rintro e w2 ⟨rfl,h2,k2⟩;have hne : w1.heap.size ≠ R:=ae
   have O2:=gM OW.out k2 (fun q hq hh => by
    have : w1.heap.size = q:=by simpa [Value.ownBlock] using hq
    omega)
   have hcell : ∃ u,w2.cell? ⟨w1.heap.size,k,none⟩ = some u:=by
    have h1:=O2.cellAt k ae
    exact ⟨_,h1.trans (ba (by simp [HLN.out]; omega))⟩
   obtain ⟨u0,hcell⟩:=hcell;have hfz:=O2.frozenAt k;have HST:=hid (O2.stored k (.int .u64 V));have R2:=hid h2;have K2:=hid k2
   have SZ:=hid (show w1.heap.size < w2.heap.size by have:=k2.size; have:=SW.out; omega)
   clear h2 k2 HQ O2;go_wp2_with fail
   have hput : ((((rlR (vlR zs) k st1).1 ++ List.replicate (m - k) 0).map (Value.int .u64)).set k (.int .u64 V)) = ((rlR (vlR zs) (k + 1) st1).1 ++ List.replicate (m - (k + 1)) 0).map (Value.int .u64):=by
    rw [HE2.out,show m - k = m - (k + 1) + 1 by omega]
    rw [← List.map_set]
    congr 1
    rw [List.set_append_right _ _ (by rw [HLN.out]; omega),HLN.out]
    simp [List.replicate_succ]
   have hs:=HST.out.1;rw [hput] at hs;refine ⟨⟨k + 1,ae,bU,?_,?_,?_,hid hs⟩,cC⟩
   ·rw [HST2.out]
    exact hid (R2.out.put hne (fun b off e hn => Gq))
   ·exact hid ((KW.out.trans K2.out).then aO (fun q h1 h2 => mL))
   ·exact hid (by have:=SZ.out; simpa [World.setCell] using this)
  ·have hlt' : ¬ (k : Int) < (m : Int):=ae;obtain rfl : k = m:=ae;clear HV;go_wp2_with fail;go_ret;have hl2:=lJ (vlR zs) k st1
   refine ⟨w1.heap.size,by rw [hl2]; rfl,⟨?_,HWS.out,SW.out⟩,RW.out,KW.out⟩
   have:=OW.out
   rw [Nat.sub_self] at this;rw [hl2];exact cm
theorem bi {w : World} {b i : Nat} {cur : Array Value} {t : TypeId} {v : Value} (h : w.heap[b]? = some (.cells cur t)) : (w.setCell ⟨b,i,none⟩ v).heap[b]? = some (.cells (cur.setIfInBounds i v) t):=by
 rw [setCell_eq_setRow w b i cur t (0,0) v h];exact setRow_heap w b cur _ t _ h
theorem RwU.keep {S : Nat → Prop} {base B : Nat} {w w' : World} {l : List Int} (h : RwU base w B l) (hk : Kept S w w') (hs : ¬ S B) : RwU base w' B l :=
 ⟨gM h.own hk (fun b hb => by obtain rfl : B = b:=(by simpa [Value.ownBlock] using hb); exact hs),h.lo,Nat.lt_of_lt_of_le h.hi hk.size⟩
theorem RwU.low {base base' B : Nat} {w : World} {l : List Int} (h : RwU base w B l) (hb : base' ≤ base) : RwU base' w B l:=⟨Jg h.own hb,Nat.le_trans hb h.lo,h.hi⟩
theorem RwU.si {base B : Nat} {w : World} {l : List Int} (h : RwU base w B l) : SI .u64 w (some ⟨B,0,none⟩) l.length l :=
 ⟨rfl,.inr ⟨B,0,rfl,fun j x hj => by
  have:=h.own.cellAt j sK
  rw [Nat.zero_add,this]
  simp [hj]⟩⟩
theorem dh {w : World} {b i : Nat} {a : Array Value} {t : TypeId} (h : w.heap[b]? = some (.cells a t)) : w.frozen? ⟨b,i,none⟩ = false:=by
 unfold World.frozen?;rw [h]
 simp
theorem bj {R b : Nat} {o : Obj} {w w' : World} (hk : Kept (fun k => k = R) w w') (hb : b ≠ R) (h : w.heap[b]? = some o) : w'.heap[b]? = some o:=(hk.block b (fq h) ae).trans h
theorem dC {B b i : Nat} {v : Value} {o : Obj} {w : World} (hb : b ≠ B) (h : w.heap[b]? = some o) : (w.setCell ⟨B,i,none⟩ v).heap[b]? = some o:=(Below.heap_setCell _ _ _ _ (by simpa using hb)).trans h
abbrev FrP:=Int × Int × List Int × List Int
def frR (zs : List Int) (st : RS) : FrP × RS :=
 (((nmR zs 127 17 st).1,(nmR zs 2047 17 (nmR zs 127 17 st).2).1,(lsR zs 64 (nmR zs 2047 17 (nmR zs 127 17 st).2).2).1,(lsR zs 256 (lsR zs 64 (nmR zs 2047 17 (nmR zs 127 17 st).2).2).2).1),
  (lsR zs 256 (lsR zs 64 (nmR zs 2047 17 (nmR zs 127 17 st).2).2).2).2)
abbrev frN (x : FrP) (B1 B2 : Nat) : FrM:=(x.1,x.2.1,((some ⟨B1,0,none⟩,x.2.2.1.length,x.2.2.1.length),x.2.2.1),((some ⟨B2,0,none⟩,x.2.2.2.length,x.2.2.2.length),x.2.2.2))
structure FrA (base : Nat) (w : World) (x : FrP) (B1 B2 : Nat) : Prop where
 l : RwU base w B1 x.2.2.1
 s : RwU base w B2 x.2.2.2
 lt : B1 < B2
theorem FrA.keep {S : Nat → Prop} {base : Nat} {w w' : World} {x : FrP} {B1 B2 : Nat} (h : FrA base w x B1 B2) (hk : Kept S w w') (h1 : ¬ S B1) (h2 : ¬ S B2) : FrA base w' x B1 B2:=⟨h.l.keep hk h1,h.s.keep hk h2,h.lt⟩
theorem J0 (R : Nat) (a : Option Addr) (n c : Nat) (zs : List Int) (st : RS) (w : World) (h : Rd w R a n c zs st) :
  Calls Tryz.prog 53 #[.pointer (some ⟨R,0,none⟩)] w fun e w' => ∃ B1 B2,e = .returned (frV (frN (frR zs st).1 B1 B2)) ∧ FrA w.heap.size w' (frR zs st).1 B1 B2 ∧ Rd w' R a n c zs (frR zs st).2 ∧ Kept (fun k => k = R) w w':=by
 have hz:=h.seg.2.2.2.1
 have l1:=jr (st:=st) hz (by decide : (17 : Int) ≠ 0) (by decide : (0 : Int) ≤ 127)
 have N1:=hid (fun (W : World) (hW : Rd W R a n c zs st) => iZ R a n c zs st 127 17 W hW (.inl ax))
 have e : frR zs st = (((nmR zs 127 17 st).1,(nmR zs 2047 17 (nmR zs 127 17 st).2).1,(lsR zs 64 (nmR zs 2047 17 (nmR zs 127 17 st).2).2).1,(lsR zs 256 (lsR zs 64 (nmR zs 2047 17 (nmR zs 127 17 st).2).2).2).1),
  (lsR zs 256 (lsR zs 64 (nmR zs 2047 17 (nmR zs 127 17 st).2).2).2).2):=rfl
 rw [e];clear e;generalize nmR zs 127 17 st = p1 at *;obtain ⟨V1,s1⟩:=p1;dsimp only at *
 have l2:=jr (st:=s1) hz (by decide : (17 : Int) ≠ 0) (by decide : (0 : Int) ≤ 2047)
 have N2:=hid (fun (W : World) (hW : Rd W R a n c zs s1) => iZ R a n c zs s1 2047 17 W hW (.inl ax))
 generalize nmR zs 2047 17 s1 = p2 at *;obtain ⟨V2,s2⟩:=p2;dsimp only at *
 have N3:=hid (fun (W : World) (hW : Rd W R a n c zs s2) => Ad R a n c zs s2 64 W hW ax)
 simp only [Int.cast_ofNat_Int] at N3
 generalize lsR zs 64 s2 = p3 at *;obtain ⟨L1,s3⟩:=p3;dsimp only at *
 have N4:=hid (fun (W : World) (hW : Rd W R a n c zs s3) => Ad R a n c zs s3 256 W hW ax)
 simp only [Int.cast_ofNat_Int] at N4
 generalize lsR zs 256 s3 = p4 at *;obtain ⟨L2,s4⟩:=p4;dsimp only at *;have hv1 : IntKind.i64.wrap V1 = V1:=i64_in V1 ae ae;have hv2 : IntKind.i64.wrap V2 = V2:=i64_in V2 ae ae;have hRl:=h.lt;have HLO:=hid h.low;have b0:=aj w (frO 0 0 none 0 0 none 0 0);have b1:=b0.trans ((aj (w.alloc (frO 0 0 none 0 0 none 0 0)) (frO 0 0 none 0 0 none 0 0)).mono b0.size);have K0:=hid (ej (R:=R) b1);have R0:=hid (h.later b1);have kb0 : ((w.alloc (frO 0 0 none 0 0 none 0 0)).alloc (frO 0 0 none 0 0 none 0 0)).heap[w.heap.size + 1]? = some (frO 0 0 none 0 0 none 0 0):=gZ au;have ka0 : ((w.alloc (frO 0 0 none 0 0 none 0 0)).alloc (frO 0 0 none 0 0 none 0 0)).heap[w.heap.size]? = some (frO 0 0 none 0 0 none 0 0):=bc (aj _ _) (bZ _ _);have hsz : ((w.alloc (frO 0 0 none 0 0 none 0 0)).alloc (frO 0 0 none 0 0 none 0 0)).heap.size = w.heap.size + 2:=au;have KA:=hid ka0;have KB:=hid kb0;clear h hz l1 l2 b0 b1 ka0 kb0
 go_enter Tryz.func53,Tryz.ntmps53
 go_wp2_with fail;generalize (w.alloc (frO 0 0 none 0 0 none 0 0)).alloc (frO 0 0 none 0 0 none 0 0) = W0 at *
 have HS0:=hid (show w.heap.size + 2 ≤ W0.heap.size by omega)
 refine (N1.out W0 R0.out).mono ?_;rintro e w1 ⟨rfl,h1,k1⟩
 have kb:=bj k1 (by omega : w.heap.size + 1 ≠ R) KB.out
 have ka:=bj k1 (by omega : w.heap.size ≠ R) KA.out
 have g0 : w1.cell? ⟨w.heap.size + 1,0,none⟩ = some (.int .i64 0):=ai kb;have g1 : w1.frozen? ⟨w.heap.size + 1,0,none⟩ = false:=dh kb;have KB:=hid (show (w1.setCell ⟨w.heap.size + 1,0,none⟩ (.int .i64 V1)).heap[w.heap.size + 1]? = some (frO V1 0 none 0 0 none 0 0) from bi kb);have KA:=hid (show (w1.setCell ⟨w.heap.size + 1,0,none⟩ (.int .i64 V1)).heap[w.heap.size]? = some (frO 0 0 none 0 0 none 0 0) from dC ae ka)
 have R1:=hid (h1.put (B:=w.heap.size + 1) (i:=0) (v:=(.int .i64 V1)) ae (fun b off e hn => fK))
 have HS1:=hid (show w.heap.size + 2 ≤ (w1.setCell ⟨w.heap.size + 1,0,none⟩ (.int .i64 V1)).heap.size by have:=k1.size; have:=HS0.out; simp [World.setCell]; omega)
 have K1:=hid ((K0.out.trans k1).then (aO (B:=w.heap.size + 1) (i:=0) (v:=(.int .i64 V1))) (fun q h1 h2 => ae))
 clear h1 k1 kb ka N1;go_wp2_with fail;generalize hW1 : w1.setCell ⟨w.heap.size + 1,0,none⟩ (.int .i64 V1) = W1 at *;clear g0 g1;refine (N2.out W1 R1.out).mono ?_;rintro e w2 ⟨rfl,h2,k2⟩
 have kb:=bj k2 (by omega : w.heap.size + 1 ≠ R) KB.out
 have ka:=bj k2 (by omega : w.heap.size ≠ R) KA.out
 have g0 : w2.cell? ⟨w.heap.size + 1,1,none⟩ = some (.int .i64 0):=ai kb;have g1 : w2.frozen? ⟨w.heap.size + 1,1,none⟩ = false:=dh kb;have KB:=hid (show (w2.setCell ⟨w.heap.size + 1,1,none⟩ (.int .i64 V2)).heap[w.heap.size + 1]? = some (frO V1 V2 none 0 0 none 0 0) from bi kb);have KA:=hid (show (w2.setCell ⟨w.heap.size + 1,1,none⟩ (.int .i64 V2)).heap[w.heap.size]? = some (frO 0 0 none 0 0 none 0 0) from dC ae ka)
 have R2:=hid (h2.put (B:=w.heap.size + 1) (i:=1) (v:=(.int .i64 V2)) ae (fun b off e hn => fK))
 have HS2:=hid (show w.heap.size + 2 ≤ (w2.setCell ⟨w.heap.size + 1,1,none⟩ (.int .i64 V2)).heap.size by have:=k2.size; have:=HS1.out; simp [World.setCell]; omega)
 have K2:=hid ((K1.out.trans k2).then (aO (B:=w.heap.size + 1) (i:=1) (v:=(.int .i64 V2))) (fun q h1 h2 => ae))
 clear h2 k2 kb ka N2;go_wp2_with fail;generalize hW2 : w2.setCell ⟨w.heap.size + 1,1,none⟩ (.int .i64 V2) = W2 at *;clear g0 g1;refine (N3.out W2 R2.out).mono ?_;rintro e w3 ⟨B3,rfl,o3,h3,k3⟩
 have kb:=bj k3 (by omega : w.heap.size + 1 ≠ R) KB.out
 have ka:=bj k3 (by omega : w.heap.size ≠ R) KA.out
 have g0 : w3.cell? ⟨w.heap.size + 1,2,none⟩ = some (.slice none 0 0):=ai kb;have g1 : w3.frozen? ⟨w.heap.size + 1,2,none⟩ = false:=dh kb;have KB:=hid (show (w3.setCell ⟨w.heap.size + 1,2,none⟩ (.slice (some ⟨B3,0,none⟩) L1.length L1.length)).heap[w.heap.size + 1]? = some (frO V1 V2 (some ⟨B3,0,none⟩) L1.length L1.length none 0 0) from bi kb);have KA:=hid (show (w3.setCell ⟨w.heap.size + 1,2,none⟩ (.slice (some ⟨B3,0,none⟩) L1.length L1.length)).heap[w.heap.size]? = some (frO 0 0 none 0 0 none 0 0) from dC ae ka)
 have R3:=hid (h3.put (B:=w.heap.size + 1) (i:=2) (v:=(.slice (some ⟨B3,0,none⟩) L1.length L1.length)) ae (fun b off e hn => fK))
 have HS3:=hid (show w.heap.size + 2 ≤ (w3.setCell ⟨w.heap.size + 1,2,none⟩ (.slice (some ⟨B3,0,none⟩) L1.length L1.length)).heap.size by have:=k3.size; have:=HS2.out; simp [World.setCell]; omega)
 have K3:=hid ((K2.out.trans k3).then (aO (B:=w.heap.size + 1) (i:=2) (v:=(.slice (some ⟨B3,0,none⟩) L1.length L1.length))) (fun q h1 h2 => ae))
 have O3:=hid ((o3.low (base':=w.heap.size) (by have:=HS2.out; omega)).keep (aO (B:=w.heap.size + 1) (i:=2) (v:=(.slice (some ⟨B3,0,none⟩) L1.length L1.length))) (by have:=o3.lo; have:=HS2.out; omega))
 have L3:=hid (And.intro o3.lo o3.hi);clear h3 k3 kb ka N3 o3;go_wp2_with fail;generalize hW3 : w3.setCell ⟨w.heap.size + 1,2,none⟩ (.slice (some ⟨B3,0,none⟩) L1.length L1.length) = W3 at *;clear g0 g1;refine (N4.out W3 R3.out).mono ?_;rintro e w4 ⟨B4,rfl,o4,h4,k4⟩
 have kb:=bj k4 (by omega : w.heap.size + 1 ≠ R) KB.out
 have ka:=bj k4 (by omega : w.heap.size ≠ R) KA.out
 have g0 : w4.cell? ⟨w.heap.size + 1,3,none⟩ = some (.slice none 0 0):=ai kb;have g1 : w4.frozen? ⟨w.heap.size + 1,3,none⟩ = false:=dh kb;have KB:=hid (show (w4.setCell ⟨w.heap.size + 1,3,none⟩ (.slice (some ⟨B4,0,none⟩) L2.length L2.length)).heap[w.heap.size + 1]? = some (frO V1 V2 (some ⟨B3,0,none⟩) L1.length L1.length (some ⟨B4,0,none⟩) L2.length L2.length) from bi kb);have KA:=hid (show (w4.setCell ⟨w.heap.size + 1,3,none⟩ (.slice (some ⟨B4,0,none⟩) L2.length L2.length)).heap[w.heap.size]? = some (frO 0 0 none 0 0 none 0 0) from dC ae ka)
 have R4:=hid (h4.put (B:=w.heap.size + 1) (i:=3) (v:=(.slice (some ⟨B4,0,none⟩) L2.length L2.length)) ae (fun b off e hn => fK))
 have HS4:=hid (show w.heap.size + 2 ≤ (w4.setCell ⟨w.heap.size + 1,3,none⟩ (.slice (some ⟨B4,0,none⟩) L2.length L2.length)).heap.size by have:=k4.size; have:=HS3.out; simp [World.setCell]; omega)
 have K4:=hid ((K3.out.trans k4).then (aO (B:=w.heap.size + 1) (i:=3) (v:=(.slice (some ⟨B4,0,none⟩) L2.length L2.length))) (fun q h1 h2 => ae))
 have O4:=hid ((o4.low (base':=w.heap.size) (by have:=HS3.out; omega)).keep (aO (B:=w.heap.size + 1) (i:=3) (v:=(.slice (some ⟨B4,0,none⟩) L2.length L2.length))) (by have:=o4.lo; have:=HS3.out; omega))
 have O3:=hid ((O3.out.keep k4 xR).keep (aO (B:=w.heap.size + 1) (i:=3) (v:=(.slice (some ⟨B4,0,none⟩) L2.length L2.length))) xR)
 have LT:=hid (show B3 < B4 by
  have e1 : W3.heap.size = w3.heap.size:=by rw [← hW3]; simp [World.setCell]
  have h1:=o4.lo;have h2:=L3.out
  omega)
 have q0 : (w4.setCell ⟨w.heap.size + 1,3,none⟩ (.slice (some ⟨B4,0,none⟩) L2.length L2.length)).cell? ⟨w.heap.size + 1,0,none⟩ = some (.int .i64 V1):=ai KB.out;have p0 : (w4.setCell ⟨w.heap.size + 1,3,none⟩ (.slice (some ⟨B4,0,none⟩) L2.length L2.length)).cell? ⟨w.heap.size,0,none⟩ = some (.int .i64 0):=ai KA.out;have f0 : (w4.setCell ⟨w.heap.size + 1,3,none⟩ (.slice (some ⟨B4,0,none⟩) L2.length L2.length)).frozen? ⟨w.heap.size,0,none⟩ = false:=dh KA.out;have q1 : (w4.setCell ⟨w.heap.size + 1,3,none⟩ (.slice (some ⟨B4,0,none⟩) L2.length L2.length)).cell? ⟨w.heap.size + 1,1,none⟩ = some (.int .i64 V2):=ai KB.out;have p1 : (w4.setCell ⟨w.heap.size + 1,3,none⟩ (.slice (some ⟨B4,0,none⟩) L2.length L2.length)).cell? ⟨w.heap.size,1,none⟩ = some (.int .i64 0):=ai KA.out;have f1 : (w4.setCell ⟨w.heap.size + 1,3,none⟩ (.slice (some ⟨B4,0,none⟩) L2.length L2.length)).frozen? ⟨w.heap.size,1,none⟩ = false:=dh KA.out;have q2 : (w4.setCell ⟨w.heap.size + 1,3,none⟩ (.slice (some ⟨B4,0,none⟩) L2.length L2.length)).cell? ⟨w.heap.size + 1,2,none⟩ = some (.slice (some ⟨B3,0,none⟩) L1.length L1.length):=ai KB.out;have p2 : (w4.setCell ⟨w.heap.size + 1,3,none⟩ (.slice (some ⟨B4,0,none⟩) L2.length L2.length)).cell? ⟨w.heap.size,2,none⟩ = some (.slice none 0 0):=ai KA.out;have f2 : (w4.setCell ⟨w.heap.size + 1,3,none⟩ (.slice (some ⟨B4,0,none⟩) L2.length L2.length)).frozen? ⟨w.heap.size,2,none⟩ = false:=dh KA.out;have q3 : (w4.setCell ⟨w.heap.size + 1,3,none⟩ (.slice (some ⟨B4,0,none⟩) L2.length L2.length)).cell? ⟨w.heap.size + 1,3,none⟩ = some (.slice (some ⟨B4,0,none⟩) L2.length L2.length):=ai KB.out;have p3 : (w4.setCell ⟨w.heap.size + 1,3,none⟩ (.slice (some ⟨B4,0,none⟩) L2.length L2.length)).cell? ⟨w.heap.size,3,none⟩ = some (.slice none 0 0):=ai KA.out;have f3 : (w4.setCell ⟨w.heap.size + 1,3,none⟩ (.slice (some ⟨B4,0,none⟩) L2.length L2.length)).frozen? ⟨w.heap.size,3,none⟩ = false:=dh KA.out;clear h4 k4 kb ka N4 o4;go_wp2_with fail;clear q0 q1 q2 q3 p0 p1 p2 p3 f0 f1 f2 f3
 generalize hW4 : w4.setCell ⟨w.heap.size + 1,3,none⟩ (.slice (some ⟨B4,0,none⟩) L2.length L2.length) = W4 at *;have z0:=KA.out;have z1 : (W4.setCell ⟨w.heap.size,0,none⟩ (.int .i64 V1)).heap[w.heap.size]? = some (frO V1 0 none 0 0 none 0 0):=bi z0;have z2 : ((W4.setCell ⟨w.heap.size,0,none⟩ (.int .i64 V1)).setCell ⟨w.heap.size,1,none⟩ (.int .i64 V2)).heap[w.heap.size]? = some (frO V1 V2 none 0 0 none 0 0):=bi z1;have z3 : (((W4.setCell ⟨w.heap.size,0,none⟩ (.int .i64 V1)).setCell ⟨w.heap.size,1,none⟩ (.int .i64 V2)).setCell ⟨w.heap.size,2,none⟩ (.slice (some ⟨B3,0,none⟩) L1.length L1.length)).heap[w.heap.size]? = some (frO V1 V2 (some ⟨B3,0,none⟩) L1.length L1.length none 0 0):=bi z2;have z4 : ((((W4.setCell ⟨w.heap.size,0,none⟩ (.int .i64 V1)).setCell ⟨w.heap.size,1,none⟩ (.int .i64 V2)).setCell ⟨w.heap.size,2,none⟩ (.slice (some ⟨B3,0,none⟩) L1.length L1.length)).setCell ⟨w.heap.size,3,none⟩ (.slice (some ⟨B4,0,none⟩) L2.length L2.length)).heap[w.heap.size]? = some (frO V1 V2 (some ⟨B3,0,none⟩) L1.length L1.length (some ⟨B4,0,none⟩) L2.length L2.length):=bi z3
 have kk : Kept (fun k => k = w.heap.size) W4 ((((W4.setCell ⟨w.heap.size,0,none⟩ (.int .i64 V1)).setCell ⟨w.heap.size,1,none⟩ (.int .i64 V2)).setCell ⟨w.heap.size,2,none⟩ (.slice (some ⟨B3,0,none⟩) L1.length L1.length)).setCell ⟨w.heap.size,3,none⟩ (.slice (some ⟨B4,0,none⟩) L2.length L2.length)):=((aO.trans aO).trans aO).trans aO
 have rr : Rd ((((W4.setCell ⟨w.heap.size,0,none⟩ (.int .i64 V1)).setCell ⟨w.heap.size,1,none⟩ (.int .i64 V2)).setCell ⟨w.heap.size,2,none⟩ (.slice (some ⟨B3,0,none⟩) L1.length L1.length)).setCell ⟨w.heap.size,3,none⟩ (.slice (some ⟨B4,0,none⟩) L2.length L2.length)) R a n c zs s4:=by
  have hR0 : w.heap.size ≠ R:=ae
  have hl : ∀ b off,a = some ⟨b,off,none⟩ → 0 < n → b ≠ w.heap.size:=fun b off e hn => fK
  exact (((R4.out.put hR0 hl).put hR0 hl).put hR0 hl).put hR0 hl
 generalize ((((W4.setCell ⟨w.heap.size,0,none⟩ (.int .i64 V1)).setCell ⟨w.heap.size,1,none⟩ (.int .i64 V2)).setCell ⟨w.heap.size,2,none⟩ (.slice (some ⟨B3,0,none⟩) L1.length L1.length)).setCell ⟨w.heap.size,3,none⟩ (.slice (some ⟨B4,0,none⟩) L2.length L2.length)) = X at *;refine bodyPost_ret (v:=frV (frN (V1,V2,L1,L2) B3 B4)) ?_ rfl ?_
 ·exact results_cell_row (p:=2) (ty:=54) rfl _ _ w.heap.size 54 _ (0,0) _ rfl z4 Tryz.underlying54 rfl ak
 ·exact ⟨B3,B4,rfl,⟨O3.out.keep kk xR,O4.out.keep kk (by have:=LT.out; have:=L3.out; have:=HS2.out; omega),LT.out⟩,rr,K4.out.then kk (fun q h1 h2 => ae)⟩
abbrev gP (x : FrM) : List Value:=[.int .i64 x.1,.int .i64 x.2.1,.slice x.2.2.1.1.1 x.2.2.1.1.2.1 x.2.2.1.1.2.2,.slice x.2.2.2.1.1 x.2.2.2.1.2.1 x.2.2.2.1.2.2]
abbrev zF : FrM:=(0,0,((none,0,0),[]),((none,0,0),[]))
theorem qx (x : FrM) : (gP x).length = 4:=rfl
theorem tX (l : List FrM) : (l.flatMap gP).length = l.length * 4:=by
 induction l with
 | nil => rfl
 | cons x l ih =>
  have h:=qx x
  rw [List.flatMap_cons,List.length_append,ih,h,List.length_cons]; omega
theorem Nn (m : Nat) : (madeCells #[.int .i64 0,.int .i64 0,.slice none 0 0,.slice none 0 0] (m * 4)).toList = (List.replicate m zF).flatMap gP:=by
 apply List.ext_getElem?
 intro j
 by_cases hj : j < m * 4
 ·have hq : j % 4 < 4:=Nat.mod_lt _ ax;have e : j = j / 4 * 4 + j % 4:=ae
  conv => rhs; rw [e]
  rw [yc gP 4 qx _ _ _ hq,List.getElem?_replicate,if_pos ae]
  simp only [Option.bind_some]
  rw [Array.getElem?_toList]
  have h1 : (madeCells #[.int .i64 0,.int .i64 0,.slice none 0 0,.slice none 0 0] (m * 4))[j]? = some (#[Value.int .i64 0,.int .i64 0,.slice none 0 0,.slice none 0 0][j % 4]!):=by
   simp [madeCells,hj]
  rw [h1];have h4 : j % 4 = 0 ∨ j % 4 = 1 ∨ j % 4 = 2 ∨ j % 4 = 3:=ae
  rcases h4 with h | h | h | h <;> rw [h] <;> rfl
 ·have h1 : ((List.replicate m zF).flatMap gP).length ≤ j:=by rw [tX,List.length_replicate]; omega
  have h2 : (madeCells #[.int .i64 0,.int .i64 0,.slice none 0 0,.slice none 0 0] (m * 4)).toList.length ≤ j:=by rw [Array.length_toList,size_madeCells]; omega
  rw [List.getElem?_eq_none h1,List.getElem?_eq_none h2]
theorem Oh (pre : List FrM) (y : FrM) (rest : List FrM) (k : Nat) (hk : pre.length = k) :
  ((((((pre ++ zF :: rest).flatMap gP).toArray.setIfInBounds (k * 4) (.int .i64 y.1)).setIfInBounds (k * 4 + 1) (.int .i64 y.2.1)).setIfInBounds (k * 4 + 2) (.slice y.2.2.1.1.1 y.2.2.1.1.2.1 y.2.2.1.1.2.2)).setIfInBounds (k * 4 + 3) (.slice y.2.2.2.1.1 y.2.2.2.1.2.1 y.2.2.2.1.2.2)) = (((pre ++ [y]) ++ rest).flatMap gP).toArray:=by
 have hl : (pre.flatMap gP).length = k * 4:=by rw [tX,hk]
 simp only [sIB]
 congr 1
 rw [List.flatMap_append,List.flatMap_cons,List.append_assoc pre [y] rest,List.flatMap_append,List.singleton_append,List.flatMap_cons];generalize pre.flatMap gP = P at *;generalize rest.flatMap gP = Q at *;rw [List.set_append_right _ _ ae,List.set_append_right _ _ ae,List.set_append_right _ _ ae,List.set_append_right _ _ ae];rw [hl,Nat.sub_self,Nat.add_sub_cancel_left,Nat.add_sub_cancel_left,Nat.add_sub_cancel_left];rfl
def plF (x : FrM) : FrP:=(x.1,x.2.1,x.2.2.1.2,x.2.2.2.2)
abbrev bkL (x : FrM) : Nat:=x.2.2.1.1.1.elim 0 fun a => a.block
abbrev bkS (x : FrM) : Nat:=x.2.2.2.1.1.elim 0 fun a => a.block
structure FsA (base hi : Nat) (w : World) (ys : List FrM) : Prop where
 el : ∀ y ∈ ys,∃ x B1 B2,y = frN x B1 B2 ∧ FrA base w x B1 B2 ∧ B2 < hi
 asc : ∀ (i j : Nat) y y',i < j → ys[i]? = some y → ys[j]? = some y' → bkS y < bkL y'
theorem FsA.keep {S : Nat → Prop} {base hi : Nat} {w w' : World} {ys : List FrM} (h : FsA base hi w ys) (hk : Kept S w w') (hs : ∀ b,base ≤ b → b < hi → ¬ S b) : FsA base hi w' ys :=
 ⟨fun y hy => by
  obtain ⟨x,B1,B2,e,hf,hl⟩:=h.el y hy
  exact ⟨x,B1,B2,e,hf.keep hk (hs B1 hf.l.lo (by have:=hf.lt; omega)) (hs B2 hf.s.lo hl),hl⟩,h.asc⟩
theorem FsA.snoc {base hi hi' : Nat} {w : World} {ys : List FrM} {x : FrP} {B1 B2 : Nat} (h : FsA base hi w ys) (hf : FrA base w x B1 B2) (h1 : hi ≤ B1) (h2 : B2 < hi') : FsA base hi' w (ys ++ [frN x B1 B2]):=by
 refine ⟨fun y hy => ?_,fun i j y y' hij hy hy' => ?_⟩
 ·rcases List.mem_append.1 hy with hy | hy
  ·obtain ⟨x',C1,C2,e,hf',hl⟩:=h.el y hy
   exact ⟨x',C1,C2,e,hf',by have:=hf.lt; omega⟩
  ·obtain rfl : y = frN x B1 B2:=by simpa using hy
   exact ⟨x,B1,B2,rfl,hf,h2⟩
 ·have hj:=az hy';rw [List.length_append,List.length_singleton] at hj;rw [List.getElem?_append_left ae] at hy
  by_cases hjl : j < ys.length
  ·rw [List.getElem?_append_left hjl] at hy';exact h.asc i j y y' hij hy hy'
  ·rw [List.getElem?_append_right ae] at hy';obtain rfl : j = ys.length:=ae;rw [Nat.sub_self] at hy'
   obtain rfl : frN x B1 B2 = y':=by simpa using hy'
   obtain ⟨x',C1,C2,rfl,hf',hl⟩:=h.el y (List.mem_of_getElem? hy)
   show C2 < B1
   omega
def fsR (zs : List Int) (most : Int) (st : RS) : List FrP × RS:=rlR (frR zs) (nmR zs most 20 st).1.toNat (nmR zs most 20 st).2
theorem Tryz.inf43 : (Tryz.prog.info? 54).map (fun i => (i.zero,i.size,i.bytes)) = some (some (.agg #[.int .i64 0,.int .i64 0,.slice none 0 0,.slice none 0 0]),4,64):=ak
theorem Od (R : Nat) (a : Option Addr) (n c : Nat) (zs : List Int) (st : RS) (most : Nat) (w : World) (h : Rd w R a n c zs st) (hm : most ≤ 100000) :
  Calls Tryz.prog 52 #[.pointer (some ⟨R,0,none⟩),.int .i64 most,.func (.func 53) #[.pointer (some ⟨R,0,none⟩)] #[]] w fun e w' => ∃ B ys,e = .returned (.slice (some ⟨B,0,none⟩) ys.length ys.length) ∧ ys.map plF = (fsR zs most st).1 ∧ w'.heap[B]? = some (.cells (ys.flatMap gP).toArray 54) ∧ w.heap.size ≤ B ∧ FsA (B + 1) w'.heap.size w' ys ∧ Rd w' R a n c zs (fsR zs most st).2 ∧ Kept (fun k => k = R) w w':=by
 have hl:=jr (st:=st) h.seg.2.2.2.1 (by decide : (20 : Int) ≠ 0) (by omega : (0 : Int) ≤ most)
 have HN:=hid (ou R a n c zs st most w h hm);have hRl:=h.lt;have HLO:=hid h.low;have e : fsR zs most st = rlR (frR zs) (nmR zs most 20 st).1.toNat (nmR zs most 20 st).2:=rfl;rw [e];clear e h;generalize nmR zs most 20 st = p at *;obtain ⟨V,st1⟩:=p;dsimp only at *;obtain ⟨m,rfl⟩:=Int.eq_ofNat_of_zero_le hl.1;rw [Int.toNat_natCast];have hm1 : m ≤ 100000:=ae
 have HV:=hid (fun (W : World) (s2 : RS) (hW : Rd W R a n c zs s2) => J0 R a n c zs s2 W hW)
 have hK : ∀ args w,(callFunc 53 args).run Tryz.prog w = .ok (.enter 53 args) w:=fun _ _ => rfl
 obtain ⟨i0,hi0,hz0,hz1,hz2⟩:=info_parts Tryz.inf43;clear hl
 go_enter Tryz.func52,Tryz.ntmps52
 go_wp2_with fail;refine HN.out.mono ?_;rintro e w1 ⟨rfl,h1,k1⟩;have R1:=hid h1;have K1:=hid k1;clear h1 k1 HN
 have hmk : (Instr.makeSlice 30 (.int .i64 (m : Int)) (.int .i64 (m : Int))).run Tryz.prog w1 = .ok (.slice (some ⟨w1.heap.size,0,none⟩) m m) (w1.alloc (.cells ((List.replicate m zF).flatMap gP).toArray 54)):=by
  have:=run_make (P:=Tryz.prog) w1 30 54 i0 _ Tryz.underlying30 hi0 hz0 .i64 .i64 m m ae (Int.le_refl _) uy ae
  rw [this,Int.toNat_natCast,hz1]
  have e : madeCells (Value.agg #[.int .i64 0,.int .i64 0,.slice none 0 0,.slice none 0 0]).cells (m * 4) = ((List.replicate m zF).flatMap gP).toArray:=by
   apply Array.toList_inj.1
   exact Nn m
  rw [e]
 have hb1:=aj w1 (.cells ((List.replicate m zF).flatMap gP).toArray 54);have HKB:=hid (bZ w1 (.cells ((List.replicate m zF).flatMap gP).toArray 54));have RR:=hid (R1.out.later hb1);have KK:=hid (K1.out.trans (ej (R:=R) hb1));have hsz : w1.heap.size < (w1.alloc (.cells ((List.replicate m zF).flatMap gP).toArray 54)).heap.size:=au;have HWS:=hid K1.out.size;clear hb1 R1 K1 hz0 hz1 hz2 hi0;go_wp2_with fail;generalize w1.alloc (.cells ((List.replicate m zF).flatMap gP).toArray 54) = W1 at *
 go_loopw [15] (fun i wr => ∃ (k : Nat) (ys : List FrM),k ≤ m ∧ i = .int .i64 k ∧ Hid (Rd wr R a n c zs (rlR (frR zs) k st1).2) ∧ Hid (Kept (fun k => k = R) w wr) ∧ Hid (w1.heap.size < wr.heap.size) ∧ Hid (ys.map plF = (rlR (frR zs) k st1).1) ∧ Hid (FsA (w1.heap.size + 1) wr.heap.size wr ys) ∧ Hid (wr.heap[w1.heap.size]? = some (.cells ((ys ++ List.replicate (m - k) zF).flatMap gP).toArray 54))) (fun i _ => m - (intOf i).toNat)
 case atStart => exact ⟨0,[],ae,rfl,RR,KK,hid hsz,hid rfl,hid ⟨fun y hy => (by cases hy),fun i j y y' _ hy => (by simp at hy)⟩,HKB⟩
 case round =>
  obtain ⟨k,ys,hk,rfl,RW,KW,SW,PW,AW,OW⟩:=hrel
  by_cases hlt : k < m
  ·have hlt' : (k : Int) < (m : Int):=ae;have HQ:=hid (HV.out wr _ RW.out)
   have hyl : ys.length = k:=by
    have:=congrArg List.length PW.out
    rwa [List.length_map,lJ] at this
   have e2 : (rlR (frR zs) (k + 1) st1).1 = (rlR (frR zs) k st1).1 ++ [(frR zs (rlR (frR zs) k st1).2).1]:=rfl;have e1 : (frR zs (rlR (frR zs) k st1).2).2 = (rlR (frR zs) (k + 1) st1).2:=rfl;rw [e1] at HQ;have HE2:=hid e2;have HYL:=hid hyl;clear e1 e2 hyl;generalize (frR zs (rlR (frR zs) k st1).2).1 = V at *;obtain ⟨st2,hst2⟩ : ∃ q,(rlR (frR zs) (k + 1) st1).2 = q:=⟨_,rfl⟩;rw [hst2] at HQ;have HST2:=hid hst2;clear hst2 HV;go_wp2_with fail;refine HQ.out.mono ?_;rintro e w2 ⟨B1,B2,rfl,hf,h2,k2⟩;have hne : w1.heap.size ≠ R:=mL;have hbk:=bj k2 hne OW.out;have HF:=hid hf;have R2:=hid h2;have K2:=hid k2
   have hcl : ∀ q,q < 4 → ∃ u,w2.cell? ⟨w1.heap.size,k * 4 + q,none⟩ = some u:=fun q hq => by
    rw [ai hbk]
    have hsz : k * 4 + q < (((ys ++ List.replicate (m - k) zF).flatMap gP)).length:=by rw [tX,List.length_append,List.length_replicate,HYL.out]; omega
    exact ⟨_,by rw [List.getElem?_toArray]; exact ba hsz⟩
   obtain ⟨u0,d0⟩:=hcl 0 ae;obtain ⟨u1,d1⟩:=hcl 1 ae;obtain ⟨u2,d2⟩:=hcl 2 ae;obtain ⟨u3,d3⟩:=hcl 3 ae;rw [Nat.add_zero] at d0;have z0 : w2.frozen? ⟨w1.heap.size,k * 4,none⟩ = false:=dh hbk;have z1 : w2.frozen? ⟨w1.heap.size,k * 4 + 1,none⟩ = false:=dh hbk;have z2 : w2.frozen? ⟨w1.heap.size,k * 4 + 2,none⟩ = false:=dh hbk;have z3 : w2.frozen? ⟨w1.heap.size,k * 4 + 3,none⟩ = false:=dh hbk;have HBK:=hid hbk;clear hf h2 k2 hbk hcl HQ OW;obtain ⟨v1,v2,v3,v4⟩:=V;dsimp only at *;go_wp2_with fail
   have hx4 : ((((w2.setCell ⟨w1.heap.size,k * 4,none⟩ (.int .i64 v1)).setCell ⟨w1.heap.size,k * 4 + 1,none⟩ (.int .i64 v2)).setCell ⟨w1.heap.size,k * 4 + 2,none⟩ (.slice (some ⟨B1,0,none⟩) v3.length v3.length)).setCell ⟨w1.heap.size,k * 4 + 3,none⟩ (.slice (some ⟨B2,0,none⟩) v4.length v4.length)).heap[w1.heap.size]? = some (.cells (((ys ++ [frN (v1,v2,v3,v4) B1 B2]) ++ List.replicate (m - (k + 1)) zF).flatMap gP).toArray 54):=by
    rw [← Oh ys (frN (v1,v2,v3,v4) B1 B2) (List.replicate (m - (k + 1)) zF) k HYL.out];have h0:=HBK.out
    rw [show m - k = m - (k + 1) + 1 by omega,List.replicate_succ] at h0
    exact bi (bi (bi (bi h0)))
   have kk : Kept (fun q => q = w1.heap.size) w2 ((((w2.setCell ⟨w1.heap.size,k * 4,none⟩ (.int .i64 v1)).setCell ⟨w1.heap.size,k * 4 + 1,none⟩ (.int .i64 v2)).setCell ⟨w1.heap.size,k * 4 + 2,none⟩ (.slice (some ⟨B1,0,none⟩) v3.length v3.length)).setCell ⟨w1.heap.size,k * 4 + 3,none⟩ (.slice (some ⟨B2,0,none⟩) v4.length v4.length)):=((aO.trans aO).trans aO).trans aO
   have hxs : ((((w2.setCell ⟨w1.heap.size,k * 4,none⟩ (.int .i64 v1)).setCell ⟨w1.heap.size,k * 4 + 1,none⟩ (.int .i64 v2)).setCell ⟨w1.heap.size,k * 4 + 2,none⟩ (.slice (some ⟨B1,0,none⟩) v3.length v3.length)).setCell ⟨w1.heap.size,k * 4 + 3,none⟩ (.slice (some ⟨B2,0,none⟩) v4.length v4.length)).heap.size = w2.heap.size:=dH
   have hlb : ∀ b off,a = some ⟨b,off,none⟩ → 0 < n → b ≠ w1.heap.size:=fun b off e hn => Gq
   have rr : Rd ((((w2.setCell ⟨w1.heap.size,k * 4,none⟩ (.int .i64 v1)).setCell ⟨w1.heap.size,k * 4 + 1,none⟩ (.int .i64 v2)).setCell ⟨w1.heap.size,k * 4 + 2,none⟩ (.slice (some ⟨B1,0,none⟩) v3.length v3.length)).setCell ⟨w1.heap.size,k * 4 + 3,none⟩ (.slice (some ⟨B2,0,none⟩) v4.length v4.length)) R a n c zs st2:=(((R2.out.put hne hlb).put hne hlb).put hne hlb).put hne hlb;have hsw:=SW.out;have hk2s:=K2.out.size;have hws:=HWS.out;have hf:=HF.out
   have fa : FsA (w1.heap.size + 1) wr.heap.size w2 ys:=AW.out.keep K2.out (fun b h1 h2 => ae)
   have ff : FrA (w1.heap.size + 1) w2 (v1,v2,v3,v4) B1 B2:=⟨hf.l.low ae,hf.s.low ae,hf.lt⟩
   have fx:=(fa.snoc ff hf.l.lo hf.s.hi).keep kk (fun b h1 h2 => ae)
   generalize ((((w2.setCell ⟨w1.heap.size,k * 4,none⟩ (.int .i64 v1)).setCell ⟨w1.heap.size,k * 4 + 1,none⟩ (.int .i64 v2)).setCell ⟨w1.heap.size,k * 4 + 2,none⟩ (.slice (some ⟨B1,0,none⟩) v3.length v3.length)).setCell ⟨w1.heap.size,k * 4 + 3,none⟩ (.slice (some ⟨B2,0,none⟩) v4.length v4.length)) = X at *;refine ⟨⟨k + 1,ys ++ [frN (v1,v2,v3,v4) B1 B2],ae,bU,?_,?_,?_,?_,?_,hid hx4⟩,cC⟩
   ·rw [HST2.out]; exact hid rr
   ·exact hid ((KW.out.trans K2.out).then kk (fun q h1 h2 => ae))
   ·exact hid ae
   ·exact hid (by rw [HE2.out,List.map_append,PW.out]; rfl)
   ·rw [hxs]; exact hid fx
  ·have hlt' : ¬ (k : Int) < (m : Int):=ae;obtain rfl : k = m:=ae;clear HV;go_wp2_with fail;go_ret
   have hyl : ys.length = k:=by
    have:=congrArg List.length PW.out
    rwa [List.length_map,lJ] at this
   refine ⟨w1.heap.size,ys,by rw [hyl]; rfl,PW.out,?_,HWS.out,AW.out,RW.out,KW.out⟩
   have:=OW.out
   rw [Nat.sub_self] at this;exact cm
end Go.Proofs.YtkdldbfbldkkcaaGreatDoor

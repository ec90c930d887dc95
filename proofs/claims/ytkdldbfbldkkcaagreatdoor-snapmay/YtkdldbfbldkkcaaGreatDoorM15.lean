/-
  Texts NRi NWg.
-/
import Derived.Test.YtkdldbfbldkkcaaGreatDoorM00
import Derived.Test.YtkdldbfbldkkcaaGreatDoorM10
import Derived.Test.YtkdldbfbldkkcaaGreatDoorM13
import Derived.Test.YtkdldbfbldkkcaaGreatDoorM14
set_option linter.unusedVariables false
set_option maxRecDepth 100000
set_option maxHeartbeats 16000000
namespace Go.Proofs.YtkdldbfbldkkcaaGreatDoor
open Go.RowKit
structure StP where
 en : Int
 tr : Int
 us : Int
 rep : Int
 rs : List Int
 gs : List Int
 ps : List (List Int)
 fs : List FrP
def r1 (zs : List Int) (st : RS):=ocR zs 1 3 st
def r2 (zs : List Int) (st : RS):=ocR zs 0 6 (r1 zs st).2
def r3 (zs : List Int) (st : RS):=nmR zs 4611686018427387904 17 (r2 zs st).2
def r4 (zs : List Int) (st : RS):=nmR zs 9223372036854775807 17 (r3 zs st).2
def r5 (zs : List Int) (st : RS):=lsR zs 8 (r4 zs st).2
def r6 (zs : List Int) (st : RS):=lsR zs 64 (r5 zs st).2
def r7 (zs : List Int) (st : RS):=qV zs (r6 zs st).2
def r8 (zs : List Int) (st : RS):=fsR zs 64 (r7 zs st).2
def stP (zs : List Int) (st : RS) : StP:=⟨(r1 zs st).1,(r2 zs st).1,(r3 zs st).1,(r4 zs st).1,(r5 zs st).1,(r6 zs st).1,(r7 zs st).1,(r8 zs st).1⟩
abbrev mkS (p : StP) (B5 B6 B7 : Nat) (bl : List Nat) (B8 : Nat) (ys : List FrM) : StM :=
 ⟨some ⟨B8,0,none⟩,ys.length,ys.length,ys,some ⟨B6,0,none⟩,p.gs.length,p.gs.length,p.gs,some ⟨B7,0,none⟩,p.ps.length,p.ps.length,List.zipWith (fun b l => ((some ⟨b,0,none⟩,4096,4096),l)) bl p.ps,p.rep,p.en,some ⟨B5,0,none⟩,p.rs.length,p.rs.length,p.rs,p.tr,p.us⟩
structure StA (base : Nat) (w : World) (p : StP) (B5 B6 B7 : Nat) (bl : List Nat) (B8 : Nat) (ys : List FrM) : Prop where
 rs : RwU base w B5 p.rs
 gs : RwU base w B6 p.gs
 ps : PgA (B7 + 1) w B7 bl p.ps
 fr : w.heap[B8]? = some (.cells (ys.flatMap gP).toArray 54)
 fa : FsA (B8 + 1) w.heap.size w ys
 fp : ys.map plF = p.fs
 o1 : B5 < B6
 o2 : B6 < B7
 o3 : ∀ q ∈ bl,q < B8
 o4 : B7 < B8
theorem StA.keep {S : Nat → Prop} {base : Nat} {w w' : World} {p : StP} {B5 B6 B7 : Nat} {bl : List Nat} {B8 : Nat} {ys : List FrM} (h : StA base w p B5 B6 B7 bl B8 ys) (hk : Kept S w w') (hs : ∀ q,B5 ≤ q → q < w.heap.size → ¬ S q) : StA base w' p B5 B6 B7 bl B8 ys:=by
 have h5:=h.rs.hi;have h6:=h.gs.hi;have h7:=fq h.ps.row;have h8:=fq h.fr
 have:=h.o1
 have:=h.o2
 have:=h.o4
 refine ⟨h.rs.keep hk (hs _ ae h5),h.gs.keep hk (hs _ ae h6),h.ps.keep hk (hs _ ae h7) (fun q h1 h2 => hs q ae h2),(hk.block _ h8 (hs _ ae h8)).trans h.fr,?_,h.fp,h.o1,h.o2,h.o3,h.o4⟩
 have:=h.fa.keep hk (fun q h1 h2 => hs q ae h2)
 exact ⟨fun y hy => by obtain ⟨x,C1,C2,e,hf,hl⟩:=this.el y hy; exact ⟨x,C1,C2,e,hf,Nat.lt_of_lt_of_le hl hk.size⟩,this.asc⟩
abbrev stC (c0 c1 c2 : Value) (c3 c4 : Int) (c5 : Value) (c6 c7 : Int) : Obj:=.cells #[c0,c1,c2,.int .i64 c3,.int .i8 c4,c5,.int .i8 c6,.int .i64 c7] 35
abbrev nS : Value:=.slice none 0 0
theorem En (R : Nat) (b off n c : Nat) (zs : List Int) (st : RS) (w : World) (h : Rd w R (some ⟨b,off,none⟩) n c zs st) (h0 : 0 < n) :
  Calls Tryz.prog 19 #[.pointer (some ⟨R,0,none⟩)] w fun e w' => ∃ B5 B6 B7 bl B8 ys,e = .returned (.agg (bW (mkS (stP zs st) B5 B6 B7 bl B8 ys))) ∧ StA w.heap.size w' (stP zs st) B5 B6 B7 bl B8 ys ∧ Rd w' R (some ⟨b,off,none⟩) n c zs (r8 zs st).2 ∧ Kept (fun k => k = R) w w':=by
 have hz:=h.seg.2.2.2.1
 have N1:=hid (fun (W : World) (hW : Rd W R (some ⟨b,off,none⟩) n c zs st) => Az R (some ⟨b,off,none⟩) n c zs st 1 3 W hW ax ax)
 have N2:=hid (fun (W : World) (hW : Rd W R (some ⟨b,off,none⟩) n c zs (r1 zs st).2) => Az R (some ⟨b,off,none⟩) n c zs _ 0 6 W hW ax ax)
 have N3:=hid (fun (W : World) (hW : Rd W R (some ⟨b,off,none⟩) n c zs (r2 zs st).2) => iZ R (some ⟨b,off,none⟩) n c zs _ 4611686018427387904 17 W hW (.inl ax))
 have N4:=hid (fun (W : World) (hW : Rd W R (some ⟨b,off,none⟩) n c zs (r3 zs st).2) => iZ R (some ⟨b,off,none⟩) n c zs _ 9223372036854775807 17 W hW (.inl ax))
 have N5:=hid (fun (W : World) (hW : Rd W R (some ⟨b,off,none⟩) n c zs (r4 zs st).2) => Ad R (some ⟨b,off,none⟩) n c zs _ 8 W hW ax)
 have N6:=hid (fun (W : World) (hW : Rd W R (some ⟨b,off,none⟩) n c zs (r5 zs st).2) => Ad R (some ⟨b,off,none⟩) n c zs _ 64 W hW ax)
 have N7:=hid (fun (W : World) (hW : Rd W R (some ⟨b,off,none⟩) n c zs (r6 zs st).2) => JB R b off n c zs _ W hW h0)
 have N8:=hid (fun (W : World) (hW : Rd W R (some ⟨b,off,none⟩) n c zs (r7 zs st).2) => Od R (some ⟨b,off,none⟩) n c zs _ 64 W hW ax)
 simp only [Int.cast_ofNat_Int] at N5 N6 N8
 have l3:=jr (st:=(r2 zs st).2) hz (by decide : (17 : Int) ≠ 0) (by decide : (0 : Int) ≤ 4611686018427387904)
 have l4:=jr (st:=(r3 zs st).2) hz (by decide : (17 : Int) ≠ 0) (by decide : (0 : Int) ≤ 9223372036854775807)
 have e1 : ocR zs 1 3 st = r1 zs st:=rfl;have e2 : ocR zs 0 6 (r1 zs st).2 = r2 zs st:=rfl;have e3 : nmR zs 4611686018427387904 17 (r2 zs st).2 = r3 zs st:=rfl;have e4 : nmR zs 9223372036854775807 17 (r3 zs st).2 = r4 zs st:=rfl;have e5 : lsR zs 8 (r4 zs st).2 = r5 zs st:=rfl;have e6 : lsR zs 64 (r5 zs st).2 = r6 zs st:=rfl;have e7 : qV zs (r6 zs st).2 = r7 zs st:=rfl;have e8 : fsR zs 64 (r7 zs st).2 = r8 zs st:=rfl;have eP : stP zs st = ⟨(r1 zs st).1,(r2 zs st).1,(r3 zs st).1,(r4 zs st).1,(r5 zs st).1,(r6 zs st).1,(r7 zs st).1,(r8 zs st).1⟩:=rfl;rw [e1] at N1;rw [e2] at N2;rw [e3] at N3 l3;rw [e4] at N4 l4;rw [e5] at N5;rw [e6] at N6;rw [e7] at N7;rw [e8] at N8;rw [eP];clear e1 e2 e3 e4 e5 e6 e7 e8 eP;generalize r1 zs st = p1 at *;generalize r2 zs st = p2 at *;generalize r3 zs st = p3 at *;generalize r4 zs st = p4 at *;generalize r5 zs st = p5 at *;generalize r6 zs st = p6 at *;generalize r7 zs st = p7 at *;generalize r8 zs st = p8 at *;obtain ⟨V1,s1⟩:=p1;obtain ⟨V2,s2⟩:=p2;obtain ⟨V3,s3⟩:=p3;obtain ⟨V4,s4⟩:=p4;obtain ⟨V5,s5⟩:=p5;obtain ⟨V6,s6⟩:=p6;obtain ⟨V7,s7⟩:=p7;obtain ⟨V8,s8⟩:=p8;dsimp only at *;have hv3 : IntKind.i64.wrap V3 = V3:=i64_in V3 ae ae;have hv4 : IntKind.i64.wrap V4 = V4:=i64_in V4 ae ae;have hRl:=h.lt;have HLO:=hid h.low;have b0:=aj w (stC nS nS nS 0 0 nS 0 0);have b1:=b0.trans ((aj (w.alloc (stC nS nS nS 0 0 nS 0 0)) (stC nS nS nS 0 0 nS 0 0)).mono b0.size);have K0:=hid (ej (R:=R) b1);have R0:=hid (h.later b1);have kb0 : ((w.alloc (stC nS nS nS 0 0 nS 0 0)).alloc (stC nS nS nS 0 0 nS 0 0)).heap[w.heap.size + 1]? = some (stC nS nS nS 0 0 nS 0 0):=gZ au;have ka0 : ((w.alloc (stC nS nS nS 0 0 nS 0 0)).alloc (stC nS nS nS 0 0 nS 0 0)).heap[w.heap.size]? = some (stC nS nS nS 0 0 nS 0 0):=bc (aj _ _) (bZ _ _);have hsz : ((w.alloc (stC nS nS nS 0 0 nS 0 0)).alloc (stC nS nS nS 0 0 nS 0 0)).heap.size = w.heap.size + 2:=au;have KA:=hid ka0;have KB:=hid kb0;clear h hz l3 l4 b0 b1 ka0 kb0
 go_enter Tryz.func19,Tryz.ntmps19
 go_wp2_with fail;generalize (w.alloc (stC nS nS nS 0 0 nS 0 0)).alloc (stC nS nS nS 0 0 nS 0 0) = W0 at *
 have HS0:=hid (show w.heap.size + 2 ≤ W0.heap.size by omega)
 refine (N1.out W0 R0.out).mono ?_;rintro e w1 ⟨rfl,h1,k1⟩
 have kb:=bj k1 (by omega : w.heap.size + 1 ≠ R) KB.out
 have ka:=bj k1 (by omega : w.heap.size ≠ R) KA.out
 have g0 : w1.cell? ⟨w.heap.size + 1,4,none⟩ = some (.int .i8 0):=ai kb;have g1 : w1.frozen? ⟨w.heap.size + 1,4,none⟩ = false:=dh kb;have KB:=hid (show (w1.setCell ⟨w.heap.size + 1,4,none⟩ (.int .i8 V1)).heap[w.heap.size + 1]? = some (stC nS nS nS 0 V1 nS 0 0) from bi kb);have KA:=hid (show (w1.setCell ⟨w.heap.size + 1,4,none⟩ (.int .i8 V1)).heap[w.heap.size]? = some (stC nS nS nS 0 0 nS 0 0) from dC ae ka)
 have R1:=hid (h1.put (B:=w.heap.size + 1) (i:=4) (v:=(.int .i8 V1)) ae (fun b off e hn => fK))
 have hx1 : (w1.setCell ⟨w.heap.size + 1,4,none⟩ (.int .i8 V1)).heap.size = w1.heap.size:=dH
 have HS1:=hid (show w.heap.size + 2 ≤ (w1.setCell ⟨w.heap.size + 1,4,none⟩ (.int .i8 V1)).heap.size by have:=k1.size; have:=HS0.out; omega)
 have K1:=hid ((K0.out.trans k1).then (aO (B:=w.heap.size + 1) (i:=4) (v:=(.int .i8 V1))) (fun q h1 h2 => ae))
 have hs0:=HS0.out;clear h1 k1 N1;clear kb ka;go_wp2_with fail;generalize hW1 : w1.setCell ⟨w.heap.size + 1,4,none⟩ (.int .i8 V1) = W1 at *;clear g0 g1;refine (N2.out W1 R1.out).mono ?_;rintro e w2 ⟨rfl,h2,k2⟩
 have kb:=bj k2 (by omega : w.heap.size + 1 ≠ R) KB.out
 have ka:=bj k2 (by omega : w.heap.size ≠ R) KA.out
 have g0 : w2.cell? ⟨w.heap.size + 1,6,none⟩ = some (.int .i8 0):=ai kb;have g1 : w2.frozen? ⟨w.heap.size + 1,6,none⟩ = false:=dh kb;have KB:=hid (show (w2.setCell ⟨w.heap.size + 1,6,none⟩ (.int .i8 V2)).heap[w.heap.size + 1]? = some (stC nS nS nS 0 V1 nS V2 0) from bi kb);have KA:=hid (show (w2.setCell ⟨w.heap.size + 1,6,none⟩ (.int .i8 V2)).heap[w.heap.size]? = some (stC nS nS nS 0 0 nS 0 0) from dC ae ka)
 have R2:=hid (h2.put (B:=w.heap.size + 1) (i:=6) (v:=(.int .i8 V2)) ae (fun b off e hn => fK))
 have hx2 : (w2.setCell ⟨w.heap.size + 1,6,none⟩ (.int .i8 V2)).heap.size = w2.heap.size:=dH
 have HS2:=hid (show w.heap.size + 2 ≤ (w2.setCell ⟨w.heap.size + 1,6,none⟩ (.int .i8 V2)).heap.size by have:=k2.size; have:=HS1.out; omega)
 have K2:=hid ((K1.out.trans k2).then (aO (B:=w.heap.size + 1) (i:=6) (v:=(.int .i8 V2))) (fun q h1 h2 => ae))
 have hs1:=HS1.out;clear h2 k2 N2;clear kb ka;go_wp2_with fail;generalize hW2 : w2.setCell ⟨w.heap.size + 1,6,none⟩ (.int .i8 V2) = W2 at *;clear g0 g1;refine (N3.out W2 R2.out).mono ?_;rintro e w3 ⟨rfl,h3,k3⟩
 have kb:=bj k3 (by omega : w.heap.size + 1 ≠ R) KB.out
 have ka:=bj k3 (by omega : w.heap.size ≠ R) KA.out
 have g0 : w3.cell? ⟨w.heap.size + 1,7,none⟩ = some (.int .i64 0):=ai kb;have g1 : w3.frozen? ⟨w.heap.size + 1,7,none⟩ = false:=dh kb;have KB:=hid (show (w3.setCell ⟨w.heap.size + 1,7,none⟩ (.int .i64 V3)).heap[w.heap.size + 1]? = some (stC nS nS nS 0 V1 nS V2 V3) from bi kb);have KA:=hid (show (w3.setCell ⟨w.heap.size + 1,7,none⟩ (.int .i64 V3)).heap[w.heap.size]? = some (stC nS nS nS 0 0 nS 0 0) from dC ae ka)
 have R3:=hid (h3.put (B:=w.heap.size + 1) (i:=7) (v:=(.int .i64 V3)) ae (fun b off e hn => fK))
 have hx3 : (w3.setCell ⟨w.heap.size + 1,7,none⟩ (.int .i64 V3)).heap.size = w3.heap.size:=dH
 have HS3:=hid (show w.heap.size + 2 ≤ (w3.setCell ⟨w.heap.size + 1,7,none⟩ (.int .i64 V3)).heap.size by have:=k3.size; have:=HS2.out; omega)
 have K3:=hid ((K2.out.trans k3).then (aO (B:=w.heap.size + 1) (i:=7) (v:=(.int .i64 V3))) (fun q h1 h2 => ae))
 have hs2:=HS2.out;clear h3 k3 N3;clear kb ka;go_wp2_with fail;generalize hW3 : w3.setCell ⟨w.heap.size + 1,7,none⟩ (.int .i64 V3) = W3 at *;clear g0 g1;refine (N4.out W3 R3.out).mono ?_;rintro e w4 ⟨rfl,h4,k4⟩
 have kb:=bj k4 (by omega : w.heap.size + 1 ≠ R) KB.out
 have ka:=bj k4 (by omega : w.heap.size ≠ R) KA.out
 have g0 : w4.cell? ⟨w.heap.size + 1,3,none⟩ = some (.int .i64 0):=ai kb;have g1 : w4.frozen? ⟨w.heap.size + 1,3,none⟩ = false:=dh kb;have KB:=hid (show (w4.setCell ⟨w.heap.size + 1,3,none⟩ (.int .i64 V4)).heap[w.heap.size + 1]? = some (stC nS nS nS V4 V1 nS V2 V3) from bi kb);have KA:=hid (show (w4.setCell ⟨w.heap.size + 1,3,none⟩ (.int .i64 V4)).heap[w.heap.size]? = some (stC nS nS nS 0 0 nS 0 0) from dC ae ka)
 have R4:=hid (h4.put (B:=w.heap.size + 1) (i:=3) (v:=(.int .i64 V4)) ae (fun b off e hn => fK))
 have hx4 : (w4.setCell ⟨w.heap.size + 1,3,none⟩ (.int .i64 V4)).heap.size = w4.heap.size:=dH
 have HS4:=hid (show w.heap.size + 2 ≤ (w4.setCell ⟨w.heap.size + 1,3,none⟩ (.int .i64 V4)).heap.size by have:=k4.size; have:=HS3.out; omega)
 have K4:=hid ((K3.out.trans k4).then (aO (B:=w.heap.size + 1) (i:=3) (v:=(.int .i64 V4))) (fun q h1 h2 => ae))
 have hs3:=HS3.out;clear h4 k4 N4;clear kb ka;go_wp2_with fail;generalize hW4 : w4.setCell ⟨w.heap.size + 1,3,none⟩ (.int .i64 V4) = W4 at *;clear g0 g1;refine (N5.out W4 R4.out).mono ?_;rintro e w5 ⟨B5,rfl,o5,h5,k5⟩
 have kb:=bj k5 (by omega : w.heap.size + 1 ≠ R) KB.out
 have ka:=bj k5 (by omega : w.heap.size ≠ R) KA.out
 have g0 : w5.cell? ⟨w.heap.size + 1,5,none⟩ = some nS:=ai kb;have g1 : w5.frozen? ⟨w.heap.size + 1,5,none⟩ = false:=dh kb;have KB:=hid (show (w5.setCell ⟨w.heap.size + 1,5,none⟩ (.slice (some ⟨B5,0,none⟩) V5.length V5.length)).heap[w.heap.size + 1]? = some (stC nS nS nS V4 V1 (.slice (some ⟨B5,0,none⟩) V5.length V5.length) V2 V3) from bi kb);have KA:=hid (show (w5.setCell ⟨w.heap.size + 1,5,none⟩ (.slice (some ⟨B5,0,none⟩) V5.length V5.length)).heap[w.heap.size]? = some (stC nS nS nS 0 0 nS 0 0) from dC ae ka)
 have R5:=hid (h5.put (B:=w.heap.size + 1) (i:=5) (v:=(.slice (some ⟨B5,0,none⟩) V5.length V5.length)) ae (fun b off e hn => fK))
 have hx5 : (w5.setCell ⟨w.heap.size + 1,5,none⟩ (.slice (some ⟨B5,0,none⟩) V5.length V5.length)).heap.size = w5.heap.size:=dH
 have HS5:=hid (show w.heap.size + 2 ≤ (w5.setCell ⟨w.heap.size + 1,5,none⟩ (.slice (some ⟨B5,0,none⟩) V5.length V5.length)).heap.size by have:=k5.size; have:=HS4.out; omega)
 have K5:=hid ((K4.out.trans k5).then (aO (B:=w.heap.size + 1) (i:=5) (v:=(.slice (some ⟨B5,0,none⟩) V5.length V5.length))) (fun q h1 h2 => ae))
 have hs4:=HS4.out;have hlo5:=o5.lo;have hhi5:=o5.hi;have O5:=hid ((o5.low (base':=w.heap.size) ae).keep (aO (B:=w.heap.size + 1) (i:=5) (v:=(.slice (some ⟨B5,0,none⟩) V5.length V5.length))) ae);clear h5 k5 N5 o5;clear kb ka;go_wp2_with fail;generalize hW5 : w5.setCell ⟨w.heap.size + 1,5,none⟩ (.slice (some ⟨B5,0,none⟩) V5.length V5.length) = W5 at *;clear g0 g1;refine (N6.out W5 R5.out).mono ?_;rintro e w6 ⟨B6,rfl,o6,h6,k6⟩
 have kb:=bj k6 (by omega : w.heap.size + 1 ≠ R) KB.out
 have ka:=bj k6 (by omega : w.heap.size ≠ R) KA.out
 have g0 : w6.cell? ⟨w.heap.size + 1,1,none⟩ = some nS:=ai kb;have g1 : w6.frozen? ⟨w.heap.size + 1,1,none⟩ = false:=dh kb;have KB:=hid (show (w6.setCell ⟨w.heap.size + 1,1,none⟩ (.slice (some ⟨B6,0,none⟩) V6.length V6.length)).heap[w.heap.size + 1]? = some (stC nS (.slice (some ⟨B6,0,none⟩) V6.length V6.length) nS V4 V1 (.slice (some ⟨B5,0,none⟩) V5.length V5.length) V2 V3) from bi kb);have KA:=hid (show (w6.setCell ⟨w.heap.size + 1,1,none⟩ (.slice (some ⟨B6,0,none⟩) V6.length V6.length)).heap[w.heap.size]? = some (stC nS nS nS 0 0 nS 0 0) from dC ae ka)
 have R6:=hid (h6.put (B:=w.heap.size + 1) (i:=1) (v:=(.slice (some ⟨B6,0,none⟩) V6.length V6.length)) ae (fun b off e hn => fK))
 have hx6 : (w6.setCell ⟨w.heap.size + 1,1,none⟩ (.slice (some ⟨B6,0,none⟩) V6.length V6.length)).heap.size = w6.heap.size:=dH
 have HS6:=hid (show w.heap.size + 2 ≤ (w6.setCell ⟨w.heap.size + 1,1,none⟩ (.slice (some ⟨B6,0,none⟩) V6.length V6.length)).heap.size by have:=k6.size; have:=HS5.out; omega)
 have K6:=hid ((K5.out.trans k6).then (aO (B:=w.heap.size + 1) (i:=1) (v:=(.slice (some ⟨B6,0,none⟩) V6.length V6.length))) (fun q h1 h2 => ae))
 have hs5:=HS5.out;have hlo6:=o6.lo;have hhi6:=o6.hi;have O6:=hid ((o6.low (base':=w.heap.size) ae).keep (aO (B:=w.heap.size + 1) (i:=1) (v:=(.slice (some ⟨B6,0,none⟩) V6.length V6.length))) ae);have O5:=hid ((O5.out.keep k6 ae).keep (aO (B:=w.heap.size + 1) (i:=1) (v:=(.slice (some ⟨B6,0,none⟩) V6.length V6.length))) ae);clear h6 k6 N6 o6;clear kb ka;go_wp2_with fail;generalize hW6 : w6.setCell ⟨w.heap.size + 1,1,none⟩ (.slice (some ⟨B6,0,none⟩) V6.length V6.length) = W6 at *;clear g0 g1;refine (N7.out W6 R6.out).mono ?_;rintro e w7 ⟨B7,bl,rfl,o7,lo7,h7,k7⟩
 have kb:=bj k7 (by omega : w.heap.size + 1 ≠ R) KB.out
 have ka:=bj k7 (by omega : w.heap.size ≠ R) KA.out
 have g0 : w7.cell? ⟨w.heap.size + 1,2,none⟩ = some nS:=ai kb;have g1 : w7.frozen? ⟨w.heap.size + 1,2,none⟩ = false:=dh kb;have KB:=hid (show (w7.setCell ⟨w.heap.size + 1,2,none⟩ (.slice (some ⟨B7,0,none⟩) V7.length V7.length)).heap[w.heap.size + 1]? = some (stC nS (.slice (some ⟨B6,0,none⟩) V6.length V6.length) (.slice (some ⟨B7,0,none⟩) V7.length V7.length) V4 V1 (.slice (some ⟨B5,0,none⟩) V5.length V5.length) V2 V3) from bi kb);have KA:=hid (show (w7.setCell ⟨w.heap.size + 1,2,none⟩ (.slice (some ⟨B7,0,none⟩) V7.length V7.length)).heap[w.heap.size]? = some (stC nS nS nS 0 0 nS 0 0) from dC ae ka)
 have R7:=hid (h7.put (B:=w.heap.size + 1) (i:=2) (v:=(.slice (some ⟨B7,0,none⟩) V7.length V7.length)) ae (fun b off e hn => fK))
 have hx7 : (w7.setCell ⟨w.heap.size + 1,2,none⟩ (.slice (some ⟨B7,0,none⟩) V7.length V7.length)).heap.size = w7.heap.size:=dH
 have HS7:=hid (show w.heap.size + 2 ≤ (w7.setCell ⟨w.heap.size + 1,2,none⟩ (.slice (some ⟨B7,0,none⟩) V7.length V7.length)).heap.size by have:=k7.size; have:=HS6.out; omega)
 have K7:=hid ((K6.out.trans k7).then (aO (B:=w.heap.size + 1) (i:=2) (v:=(.slice (some ⟨B7,0,none⟩) V7.length V7.length))) (fun q h1 h2 => ae))
 have hs6:=HS6.out;have hr7:=fq o7.row
 have O7:=hid (o7.keep (aO (B:=w.heap.size + 1) (i:=2) (v:=(.slice (some ⟨B7,0,none⟩) V7.length V7.length))) ae (fun q h1 h2 => ae))
 have hel7 : ∀ q ∈ bl,B7 < q ∧ q < w7.heap.size:=fun q hq => by
  obtain ⟨j,hj⟩:=List.getElem?_of_mem hq
  have:=o7.lo j q hj
  omega
 have O5:=hid ((O5.out.keep k7 ae).keep (aO (B:=w.heap.size + 1) (i:=2) (v:=(.slice (some ⟨B7,0,none⟩) V7.length V7.length))) ae);have O6:=hid ((O6.out.keep k7 ae).keep (aO (B:=w.heap.size + 1) (i:=2) (v:=(.slice (some ⟨B7,0,none⟩) V7.length V7.length))) ae);clear h7 k7 N7 o7;clear kb ka;go_wp2_with fail;generalize hW7 : w7.setCell ⟨w.heap.size + 1,2,none⟩ (.slice (some ⟨B7,0,none⟩) V7.length V7.length) = W7 at *;clear g0 g1;refine (N8.out W7 R7.out).mono ?_;rintro e w8 ⟨B8,ys,rfl,fp8,fr8,lo8,o8,h8,k8⟩
 have kb:=bj k8 (by omega : w.heap.size + 1 ≠ R) KB.out
 have ka:=bj k8 (by omega : w.heap.size ≠ R) KA.out
 have g0 : w8.cell? ⟨w.heap.size + 1,0,none⟩ = some nS:=ai kb;have g1 : w8.frozen? ⟨w.heap.size + 1,0,none⟩ = false:=dh kb;have KB:=hid (show (w8.setCell ⟨w.heap.size + 1,0,none⟩ (.slice (some ⟨B8,0,none⟩) ys.length ys.length)).heap[w.heap.size + 1]? = some (stC (.slice (some ⟨B8,0,none⟩) ys.length ys.length) (.slice (some ⟨B6,0,none⟩) V6.length V6.length) (.slice (some ⟨B7,0,none⟩) V7.length V7.length) V4 V1 (.slice (some ⟨B5,0,none⟩) V5.length V5.length) V2 V3) from bi kb);have KA:=hid (show (w8.setCell ⟨w.heap.size + 1,0,none⟩ (.slice (some ⟨B8,0,none⟩) ys.length ys.length)).heap[w.heap.size]? = some (stC nS nS nS 0 0 nS 0 0) from dC ae ka)
 have R8:=hid (h8.put (B:=w.heap.size + 1) (i:=0) (v:=(.slice (some ⟨B8,0,none⟩) ys.length ys.length)) ae (fun b off e hn => fK))
 have hx8 : (w8.setCell ⟨w.heap.size + 1,0,none⟩ (.slice (some ⟨B8,0,none⟩) ys.length ys.length)).heap.size = w8.heap.size:=dH
 have HS8:=hid (show w.heap.size + 2 ≤ (w8.setCell ⟨w.heap.size + 1,0,none⟩ (.slice (some ⟨B8,0,none⟩) ys.length ys.length)).heap.size by have:=k8.size; have:=HS7.out; omega)
 have K8:=hid ((K7.out.trans k8).then (aO (B:=w.heap.size + 1) (i:=0) (v:=(.slice (some ⟨B8,0,none⟩) ys.length ys.length))) (fun q h1 h2 => ae))
 have hs7:=HS7.out;have hr8:=fq fr8
 have F8:=hid (dC (i:=0) (v:=(.slice (some ⟨B8,0,none⟩) ys.length ys.length)) (by omega : B8 ≠ w.heap.size + 1) fr8)
 have O8:=hid (o8.keep (aO (B:=w.heap.size + 1) (i:=0) (v:=(.slice (some ⟨B8,0,none⟩) ys.length ys.length))) (fun q h1 h2 => ae))
 have O5:=hid ((O5.out.keep k8 ae).keep (aO (B:=w.heap.size + 1) (i:=0) (v:=(.slice (some ⟨B8,0,none⟩) ys.length ys.length))) ae);have O6:=hid ((O6.out.keep k8 ae).keep (aO (B:=w.heap.size + 1) (i:=0) (v:=(.slice (some ⟨B8,0,none⟩) ys.length ys.length))) ae)
 have O7:=hid ((O7.out.keep k8 ae (fun q h1 h2 => ae)).keep (aO (B:=w.heap.size + 1) (i:=0) (v:=(.slice (some ⟨B8,0,none⟩) ys.length ys.length))) ae (fun q h1 h2 => ae))
 clear h8 k8 N8 o8 fr8;have q0 : (w8.setCell ⟨w.heap.size + 1,0,none⟩ (.slice (some ⟨B8,0,none⟩) ys.length ys.length)).cell? ⟨w.heap.size + 1,0,none⟩ = some (.slice (some ⟨B8,0,none⟩) ys.length ys.length):=ai KB.out;have p0 : (w8.setCell ⟨w.heap.size + 1,0,none⟩ (.slice (some ⟨B8,0,none⟩) ys.length ys.length)).cell? ⟨w.heap.size,0,none⟩ = some nS:=ai KA.out;have f0 : (w8.setCell ⟨w.heap.size + 1,0,none⟩ (.slice (some ⟨B8,0,none⟩) ys.length ys.length)).frozen? ⟨w.heap.size,0,none⟩ = false:=dh KA.out;have q1 : (w8.setCell ⟨w.heap.size + 1,0,none⟩ (.slice (some ⟨B8,0,none⟩) ys.length ys.length)).cell? ⟨w.heap.size + 1,1,none⟩ = some (.slice (some ⟨B6,0,none⟩) V6.length V6.length):=ai KB.out;have p1 : (w8.setCell ⟨w.heap.size + 1,0,none⟩ (.slice (some ⟨B8,0,none⟩) ys.length ys.length)).cell? ⟨w.heap.size,1,none⟩ = some nS:=ai KA.out;have f1 : (w8.setCell ⟨w.heap.size + 1,0,none⟩ (.slice (some ⟨B8,0,none⟩) ys.length ys.length)).frozen? ⟨w.heap.size,1,none⟩ = false:=dh KA.out;have q2 : (w8.setCell ⟨w.heap.size + 1,0,none⟩ (.slice (some ⟨B8,0,none⟩) ys.length ys.length)).cell? ⟨w.heap.size + 1,2,none⟩ = some (.slice (some ⟨B7,0,none⟩) V7.length V7.length):=ai KB.out;have p2 : (w8.setCell ⟨w.heap.size + 1,0,none⟩ (.slice (some ⟨B8,0,none⟩) ys.length ys.length)).cell? ⟨w.heap.size,2,none⟩ = some nS:=ai KA.out;have f2 : (w8.setCell ⟨w.heap.size + 1,0,none⟩ (.slice (some ⟨B8,0,none⟩) ys.length ys.length)).frozen? ⟨w.heap.size,2,none⟩ = false:=dh KA.out;have q3 : (w8.setCell ⟨w.heap.size + 1,0,none⟩ (.slice (some ⟨B8,0,none⟩) ys.length ys.length)).cell? ⟨w.heap.size + 1,3,none⟩ = some (.int .i64 V4):=ai KB.out;have p3 : (w8.setCell ⟨w.heap.size + 1,0,none⟩ (.slice (some ⟨B8,0,none⟩) ys.length ys.length)).cell? ⟨w.heap.size,3,none⟩ = some (.int .i64 0):=ai KA.out;have f3 : (w8.setCell ⟨w.heap.size + 1,0,none⟩ (.slice (some ⟨B8,0,none⟩) ys.length ys.length)).frozen? ⟨w.heap.size,3,none⟩ = false:=dh KA.out
 have q4 : (w8.setCell ⟨w.heap.size + 1,0,none⟩ (.slice (some ⟨B8,0,none⟩) ys.length ys.length)).cell? ⟨w.heap.size + 1,4,none⟩ = some (.int .i8 V1):=ai KB.out;have p4 : (w8.setCell ⟨w.heap.size + 1,0,none⟩ (.slice (some ⟨B8,0,none⟩) ys.length ys.length)).cell? ⟨w.heap.size,4,none⟩ = some (.int .i8 0):=ai KA.out;have f4 : (w8.setCell ⟨w.heap.size + 1,0,none⟩ (.slice (some ⟨B8,0,none⟩) ys.length ys.length)).frozen? ⟨w.heap.size,4,none⟩ = false:=dh KA.out;have q5 : (w8.setCell ⟨w.heap.size + 1,0,none⟩ (.slice (some ⟨B8,0,none⟩) ys.length ys.length)).cell? ⟨w.heap.size + 1,5,none⟩ = some (.slice (some ⟨B5,0,none⟩) V5.length V5.length):=ai KB.out;have p5 : (w8.setCell ⟨w.heap.size + 1,0,none⟩ (.slice (some ⟨B8,0,none⟩) ys.length ys.length)).cell? ⟨w.heap.size,5,none⟩ = some nS:=ai KA.out;have f5 : (w8.setCell ⟨w.heap.size + 1,0,none⟩ (.slice (some ⟨B8,0,none⟩) ys.length ys.length)).frozen? ⟨w.heap.size,5,none⟩ = false:=dh KA.out;have q6 : (w8.setCell ⟨w.heap.size + 1,0,none⟩ (.slice (some ⟨B8,0,none⟩) ys.length ys.length)).cell? ⟨w.heap.size + 1,6,none⟩ = some (.int .i8 V2):=ai KB.out;have p6 : (w8.setCell ⟨w.heap.size + 1,0,none⟩ (.slice (some ⟨B8,0,none⟩) ys.length ys.length)).cell? ⟨w.heap.size,6,none⟩ = some (.int .i8 0):=ai KA.out;have f6 : (w8.setCell ⟨w.heap.size + 1,0,none⟩ (.slice (some ⟨B8,0,none⟩) ys.length ys.length)).frozen? ⟨w.heap.size,6,none⟩ = false:=dh KA.out;have q7 : (w8.setCell ⟨w.heap.size + 1,0,none⟩ (.slice (some ⟨B8,0,none⟩) ys.length ys.length)).cell? ⟨w.heap.size + 1,7,none⟩ = some (.int .i64 V3):=ai KB.out;have p7 : (w8.setCell ⟨w.heap.size + 1,0,none⟩ (.slice (some ⟨B8,0,none⟩) ys.length ys.length)).cell? ⟨w.heap.size,7,none⟩ = some (.int .i64 0):=ai KA.out;have f7 : (w8.setCell ⟨w.heap.size + 1,0,none⟩ (.slice (some ⟨B8,0,none⟩) ys.length ys.length)).frozen? ⟨w.heap.size,7,none⟩ = false:=dh KA.out;clear kb ka;go_wp2_with fail;clear q0 p0 f0 q1 p1 f1 q2 p2 f2 q3 p3 f3 q4 p4 f4 q5 p5 f5 q6 p6 f6 q7 p7 f7
 generalize hW8 : w8.setCell ⟨w.heap.size + 1,0,none⟩ (.slice (some ⟨B8,0,none⟩) ys.length ys.length) = W8 at *;have z0:=KA.out;have z1 : (W8.setCell ⟨w.heap.size,0,none⟩ (.slice (some ⟨B8,0,none⟩) ys.length ys.length)).heap[w.heap.size]? = some (stC (.slice (some ⟨B8,0,none⟩) ys.length ys.length) nS nS 0 0 nS 0 0):=bi z0;have z2 : ((W8.setCell ⟨w.heap.size,0,none⟩ (.slice (some ⟨B8,0,none⟩) ys.length ys.length)).setCell ⟨w.heap.size,1,none⟩ (.slice (some ⟨B6,0,none⟩) V6.length V6.length)).heap[w.heap.size]? = some (stC (.slice (some ⟨B8,0,none⟩) ys.length ys.length) (.slice (some ⟨B6,0,none⟩) V6.length V6.length) nS 0 0 nS 0 0):=bi z1;have z3 : (((W8.setCell ⟨w.heap.size,0,none⟩ (.slice (some ⟨B8,0,none⟩) ys.length ys.length)).setCell ⟨w.heap.size,1,none⟩ (.slice (some ⟨B6,0,none⟩) V6.length V6.length)).setCell ⟨w.heap.size,2,none⟩ (.slice (some ⟨B7,0,none⟩) V7.length V7.length)).heap[w.heap.size]? = some (stC (.slice (some ⟨B8,0,none⟩) ys.length ys.length) (.slice (some ⟨B6,0,none⟩) V6.length V6.length) (.slice (some ⟨B7,0,none⟩) V7.length V7.length) 0 0 nS 0 0):=bi z2;have z4 : ((((W8.setCell ⟨w.heap.size,0,none⟩ (.slice (some ⟨B8,0,none⟩) ys.length ys.length)).setCell ⟨w.heap.size,1,none⟩ (.slice (some ⟨B6,0,none⟩) V6.length V6.length)).setCell ⟨w.heap.size,2,none⟩ (.slice (some ⟨B7,0,none⟩) V7.length V7.length)).setCell ⟨w.heap.size,3,none⟩ (.int .i64 V4)).heap[w.heap.size]? = some (stC (.slice (some ⟨B8,0,none⟩) ys.length ys.length) (.slice (some ⟨B6,0,none⟩) V6.length V6.length) (.slice (some ⟨B7,0,none⟩) V7.length V7.length) V4 0 nS 0 0):=bi z3
 have z5 : (((((W8.setCell ⟨w.heap.size,0,none⟩ (.slice (some ⟨B8,0,none⟩) ys.length ys.length)).setCell ⟨w.heap.size,1,none⟩ (.slice (some ⟨B6,0,none⟩) V6.length V6.length)).setCell ⟨w.heap.size,2,none⟩ (.slice (some ⟨B7,0,none⟩) V7.length V7.length)).setCell ⟨w.heap.size,3,none⟩ (.int .i64 V4)).setCell ⟨w.heap.size,4,none⟩ (.int .i8 V1)).heap[w.heap.size]? = some (stC (.slice (some ⟨B8,0,none⟩) ys.length ys.length) (.slice (some ⟨B6,0,none⟩) V6.length V6.length) (.slice (some ⟨B7,0,none⟩) V7.length V7.length) V4 V1 nS 0 0):=bi z4;have z6 : ((((((W8.setCell ⟨w.heap.size,0,none⟩ (.slice (some ⟨B8,0,none⟩) ys.length ys.length)).setCell ⟨w.heap.size,1,none⟩ (.slice (some ⟨B6,0,none⟩) V6.length V6.length)).setCell ⟨w.heap.size,2,none⟩ (.slice (some ⟨B7,0,none⟩) V7.length V7.length)).setCell ⟨w.heap.size,3,none⟩ (.int .i64 V4)).setCell ⟨w.heap.size,4,none⟩ (.int .i8 V1)).setCell ⟨w.heap.size,5,none⟩ (.slice (some ⟨B5,0,none⟩) V5.length V5.length)).heap[w.heap.size]? = some (stC (.slice (some ⟨B8,0,none⟩) ys.length ys.length) (.slice (some ⟨B6,0,none⟩) V6.length V6.length) (.slice (some ⟨B7,0,none⟩) V7.length V7.length) V4 V1 (.slice (some ⟨B5,0,none⟩) V5.length V5.length) 0 0):=bi z5;have z7 : (((((((W8.setCell ⟨w.heap.size,0,none⟩ (.slice (some ⟨B8,0,none⟩) ys.length ys.length)).setCell ⟨w.heap.size,1,none⟩ (.slice (some ⟨B6,0,none⟩) V6.length V6.length)).setCell ⟨w.heap.size,2,none⟩ (.slice (some ⟨B7,0,none⟩) V7.length V7.length)).setCell ⟨w.heap.size,3,none⟩ (.int .i64 V4)).setCell ⟨w.heap.size,4,none⟩ (.int .i8 V1)).setCell ⟨w.heap.size,5,none⟩ (.slice (some ⟨B5,0,none⟩) V5.length V5.length)).setCell ⟨w.heap.size,6,none⟩ (.int .i8 V2)).heap[w.heap.size]? = some (stC (.slice (some ⟨B8,0,none⟩) ys.length ys.length) (.slice (some ⟨B6,0,none⟩) V6.length V6.length) (.slice (some ⟨B7,0,none⟩) V7.length V7.length) V4 V1 (.slice (some ⟨B5,0,none⟩) V5.length V5.length) V2 0):=bi z6
 have z8 : ((((((((W8.setCell ⟨w.heap.size,0,none⟩ (.slice (some ⟨B8,0,none⟩) ys.length ys.length)).setCell ⟨w.heap.size,1,none⟩ (.slice (some ⟨B6,0,none⟩) V6.length V6.length)).setCell ⟨w.heap.size,2,none⟩ (.slice (some ⟨B7,0,none⟩) V7.length V7.length)).setCell ⟨w.heap.size,3,none⟩ (.int .i64 V4)).setCell ⟨w.heap.size,4,none⟩ (.int .i8 V1)).setCell ⟨w.heap.size,5,none⟩ (.slice (some ⟨B5,0,none⟩) V5.length V5.length)).setCell ⟨w.heap.size,6,none⟩ (.int .i8 V2)).setCell ⟨w.heap.size,7,none⟩ (.int .i64 V3)).heap[w.heap.size]? = some (stC (.slice (some ⟨B8,0,none⟩) ys.length ys.length) (.slice (some ⟨B6,0,none⟩) V6.length V6.length) (.slice (some ⟨B7,0,none⟩) V7.length V7.length) V4 V1 (.slice (some ⟨B5,0,none⟩) V5.length V5.length) V2 V3):=bi z7
 have kk : Kept (fun k => k = w.heap.size) W8 ((((((((W8.setCell ⟨w.heap.size,0,none⟩ (.slice (some ⟨B8,0,none⟩) ys.length ys.length)).setCell ⟨w.heap.size,1,none⟩ (.slice (some ⟨B6,0,none⟩) V6.length V6.length)).setCell ⟨w.heap.size,2,none⟩ (.slice (some ⟨B7,0,none⟩) V7.length V7.length)).setCell ⟨w.heap.size,3,none⟩ (.int .i64 V4)).setCell ⟨w.heap.size,4,none⟩ (.int .i8 V1)).setCell ⟨w.heap.size,5,none⟩ (.slice (some ⟨B5,0,none⟩) V5.length V5.length)).setCell ⟨w.heap.size,6,none⟩ (.int .i8 V2)).setCell ⟨w.heap.size,7,none⟩ (.int .i64 V3)):=((((((aO.trans aO).trans aO).trans aO).trans aO).trans aO).trans aO).trans aO
 have rr : Rd ((((((((W8.setCell ⟨w.heap.size,0,none⟩ (.slice (some ⟨B8,0,none⟩) ys.length ys.length)).setCell ⟨w.heap.size,1,none⟩ (.slice (some ⟨B6,0,none⟩) V6.length V6.length)).setCell ⟨w.heap.size,2,none⟩ (.slice (some ⟨B7,0,none⟩) V7.length V7.length)).setCell ⟨w.heap.size,3,none⟩ (.int .i64 V4)).setCell ⟨w.heap.size,4,none⟩ (.int .i8 V1)).setCell ⟨w.heap.size,5,none⟩ (.slice (some ⟨B5,0,none⟩) V5.length V5.length)).setCell ⟨w.heap.size,6,none⟩ (.int .i8 V2)).setCell ⟨w.heap.size,7,none⟩ (.int .i64 V3)) R (some ⟨b,off,none⟩) n c zs s8:=by
  have hR0 : w.heap.size ≠ R:=ae
  have hl : ∀ b1 o1,(some ⟨b,off,none⟩ : Option Addr) = some ⟨b1,o1,none⟩ → 0 < n → b1 ≠ w.heap.size:=fun b1 o1 e hn => ya
  exact (((((((R8.out.put hR0 hl).put hR0 hl).put hR0 hl).put hR0 hl).put hR0 hl).put hR0 hl).put hR0 hl).put hR0 hl
 have sta : StA w.heap.size W8 ⟨V1,V2,V3,V4,V5,V6,V7,V8⟩ B5 B6 B7 bl B8 ys:=⟨O5.out,O6.out,O7.out,F8.out,by rw [hx8]; exact O8.out,fp8,ae,ae,fun q hq => by have:=hel7 q hq; omega,ae⟩
 have stb:=sta.keep kk (fun q h1 h2 => ae)
 generalize ((((((((W8.setCell ⟨w.heap.size,0,none⟩ (.slice (some ⟨B8,0,none⟩) ys.length ys.length)).setCell ⟨w.heap.size,1,none⟩ (.slice (some ⟨B6,0,none⟩) V6.length V6.length)).setCell ⟨w.heap.size,2,none⟩ (.slice (some ⟨B7,0,none⟩) V7.length V7.length)).setCell ⟨w.heap.size,3,none⟩ (.int .i64 V4)).setCell ⟨w.heap.size,4,none⟩ (.int .i8 V1)).setCell ⟨w.heap.size,5,none⟩ (.slice (some ⟨B5,0,none⟩) V5.length V5.length)).setCell ⟨w.heap.size,6,none⟩ (.int .i8 V2)).setCell ⟨w.heap.size,7,none⟩ (.int .i64 V3)) = X at *;refine bodyPost_ret (v:=.agg (bW (mkS ⟨V1,V2,V3,V4,V5,V6,V7,V8⟩ B5 B6 B7 bl B8 ys))) ?_ rfl ?_
 ·exact results_cell_row (p:=2) (ty:=35) rfl _ _ w.heap.size 35 _ (0,0) _ rfl z8 Tryz.underlying35 rfl ak
 ·exact ⟨B5,B6,B7,bl,B8,ys,rfl,stb,rr,K8.out.then kk (fun q h1 h2 => ae)⟩
theorem kY {ps : List PgM} {s : WS} : (aV pgA ps s).1 = s.1:=by
 induction ps generalizing s with
 | nil => rfl
 | cons x ps ih => exact (ih (s:=pgA x s)).trans rfl
theorem yg (ps : List PgM) (s : WS) (h : s.2 = true) : dN ps s = s:=by
 unfold dN;rw [iX _ _ s h,eW ji _ _ h,dG (iq ps) _ _ s h]
theorem pG (ps : List PgM) (hp : ∀ x ∈ ps,x.2.length = x.1.2.1) (s : WS) : (dN ps s).1.length ≤ s.1.length + 300000:=by
 unfold dN;have h1:=cx ps.length 64 s
 cases hb : (aV pgA ps (bz ps.length 64 s)).2 with
 | true =>
  rw [dG (iq ps) _ _ _ hb,kY];omega
 | false =>
  have hn:=(gA (cM ji hb)).1
  have h2:=dY (iq ps) (wC ps (fun x hx => by rw [hp x hx]; exact rY hb x hx) (idx ps)) ps.length (aV pgA ps (bz ps.length 64 s))
  rw [kY] at h2;have : 4106 * ps.length ≤ 4106 * 64:=Nat.mul_le_mul_left _ ae;omega
structure SR (x : StM) : Prop where
 en : -128 ≤ x.en ∧ x.en ≤ 127
 tr : -128 ≤ x.tr ∧ x.tr ≤ 127
 rs : ∀ v ∈ x.rs,0 ≤ v ∧ v < 18446744073709551616
 gs : ∀ v ∈ x.gs,0 ≤ v ∧ v < 18446744073709551616
 fs : ∀ f ∈ x.fs,FrR f
 pc : ∀ p ∈ x.ps,p.1.2.1 ≤ p.1.2.2
theorem JF (R g cap : Nat) (s : WS) (x : StM) (w0 w : World) (h : WrN w R g cap s.1 s.2) (hS : SSt w0 x) (hb : SB x) (hr : SR x) (hB : Below w0.heap.size w0 w) (hR : w0.heap.size ≤ R) (hg : w0.heap.size ≤ g) (hl : s.1.length ≤ 1000) :
  Calls Tryz.prog 17 #[.pointer (some ⟨R,0,none⟩),.agg (bW x)] w (fZ R g (stW x s) w):=by
 have e : stW x s = bw frW x.fs 64 (dN x.ps (bw dM x.gs 64 (bw dM x.rs 8 (bz (u64 x.rep) 9223372036854775807 (bz (u64 x.us) 4611686018427387904 (fY x.tr 0 6 (fY x.en 1 3 s))))))):=rfl;rw [e];clear e
 have T1:=hid (fun (W : World) (g cap : Nat) (hW : WrN W R g cap s.1 s.2) => AE R g cap s x.en 1 3 W hW hr.en.1 hr.en.2 ae ae)
 have l1:=lR x.en 1 3 s;generalize fY x.en 1 3 s = s1 at *
 have T2:=hid (fun (W : World) (g cap : Nat) (hW : WrN W R g cap s1.1 s1.2) => AE R g cap s1 x.tr 0 6 W hW hr.tr.1 hr.tr.2 ae ae)
 have l2:=lR x.tr 0 6 s1;generalize fY x.tr 0 6 s1 = s2 at *
 have T3:=hid (fun (W : World) (g cap : Nat) (hW : WrN W R g cap s2.1 s2.2) => cY R g cap s2 (u64 x.us) 4611686018427387904 W hW (dv _).1 (dv _).2 ae)
 have l3:=cx (u64 x.us) 4611686018427387904 s2;generalize bz (u64 x.us) 4611686018427387904 s2 = s3 at *
 have T4:=hid (fun (W : World) (g cap : Nat) (hW : WrN W R g cap s3.1 s3.2) => cY R g cap s3 (u64 x.rep) 9223372036854775807 W hW (dv _).1 (dv _).2 ae)
 have l4:=cx (u64 x.rep) 9223372036854775807 s3;generalize bz (u64 x.rep) 9223372036854775807 s3 = s4 at *
 have T5:=hid (fun (W : World) (g cap : Nat) (hW : WrN W R g cap s4.1 s4.2) (hB : Below w0.heap.size w0 W) (hg : w0.heap.size ≤ g) => wlU R g cap s4 x.ra x.rn x.rc 8 x.rs w0 W hW hS.rs hr.rs hB hR hg hb.r ae ae)
 have l5:=dY cD (eY x.rs) 8 s4
 simp only [Int.cast_ofNat_Int] at l5 T5
 generalize bw dM x.rs 8 s4 = s5 at *
 have T6:=hid (fun (W : World) (g cap : Nat) (hW : WrN W R g cap s5.1 s5.2) (hB : Below w0.heap.size w0 W) (hg : w0.heap.size ≤ g) => wlU R g cap s5 x.ga x.gn x.gc 64 x.gs w0 W hW hS.gl hr.gs hB hR hg hb.g ae ae)
 have l6:=dY cD (eY x.gs) 64 s5
 simp only [Int.cast_ofNat_Int] at l6 T6
 generalize bw dM x.gs 64 s5 = s6 at *
 have T7:=hid (fun (W : World) (g cap : Nat) (hW : WrN W R g cap s6.1 s6.2) (hB : Below w0.heap.size w0 W) (hg : w0.heap.size ≤ g) => Jq R g cap s6 x.pa x.pn x.pc x.ps w0 W hW hS.pg (fun y hy => ⟨hb.pb y hy,hr.pc y hy⟩) hb.p hB hR hg ae)
 have l7:=pG x.ps (fun y hy => (hS.pg.in_ y hy).1) s6
 generalize dN x.ps s6 = s7 at *
 have T8:=hid (fun (W : World) (g cap : Nat) (hW : WrN W R g cap s7.1 s7.2) (hB : Below w0.heap.size w0 W) (hg : w0.heap.size ≤ g) => wlF R g cap s7 x.fa x.fn x.fc 64 x.fs w0 W hW hS.fr hb.fb hr.fs hB hR hg hb.f ae ae)
 simp only [Int.cast_ofNat_Int] at T8
 generalize bw frW x.fs 64 s7 = s8 at *;have HB:=hid hB;have b1:=aj w (stO x);have KB:=hid (bZ w (stO x));have S0:=hid (Stp.of_below (R:=R) (g:=g) b1);have W0:=hid (h.later b1);have hlt:=h.lt;have hgl:=h.row.lt;have hsz : (w.alloc (stO x)).heap.size = w.heap.size + 1:=au
 have NX:=hid (fun (W W' : World) (g1 g2 : Nat) (hk : Stp R g1 g2 W W') (h1 : W.heap[w.heap.size]? = some (stO x) ∧ g1 ≠ w.heap.size ∧ w.heap.size < W.heap.size) => (show W'.heap[w.heap.size]? = some (stO x) ∧ g2 ≠ w.heap.size ∧ w.heap.size < W'.heap.size from ⟨(hk.k.block _ h1.2.2 ae).trans h1.1,by rcases hk.m with h | h <;> omega,by have:=hk.size; omega⟩))
 have HC:=hid (fun (W : World) (hW : W.heap[w.heap.size]? = some (stO x)) => (⟨ai hW,ai hW,ai hW,ai hW,ai hW,ai hW,ai hW,ai hW⟩ :
   W.cell? ⟨w.heap.size,0,none⟩ = some (.slice x.fa x.fn x.fc) ∧ W.cell? ⟨w.heap.size,1,none⟩ = some (.slice x.ga x.gn x.gc) ∧ W.cell? ⟨w.heap.size,2,none⟩ = some (.slice x.pa x.pn x.pc) ∧ W.cell? ⟨w.heap.size,3,none⟩ = some (.int .i64 x.rep) ∧ W.cell? ⟨w.heap.size,4,none⟩ = some (.int .i8 x.en) ∧ W.cell? ⟨w.heap.size,5,none⟩ = some (.slice x.ra x.rn x.rc) ∧ W.cell? ⟨w.heap.size,6,none⟩ = some (.int .i8 x.tr) ∧ W.cell? ⟨w.heap.size,7,none⟩ = some (.int .i64 x.us)))
 have M0:=hid (show (w.alloc (stO x)).heap[w.heap.size]? = some (stO x) ∧ g ≠ w.heap.size ∧ w.heap.size < (w.alloc (stO x)).heap.size from ⟨KB.out,ae,ae⟩);obtain ⟨a0,a1,a2,a3,a4,a5,a6,a7⟩:=HC.out _ KB.out;clear h hS hb hr hB b1 l1 l2 l3 l4 l5 l6 l7 KB;obtain ⟨U1,hv1⟩ : ∃ U,IntKind.u64.wrap x.us = U:=⟨_,rfl⟩;obtain ⟨U2,hv2⟩ : ∃ U,IntKind.u64.wrap x.rep = U:=⟨_,rfl⟩
 simp only [u64,hv1] at T3
 simp only [u64,hv2] at T4
 obtain ⟨fa,fn,fc,fs,ga,gn,gc,gs,pa,pn,pc,ps,rep,en,ra,rn,rc,rs,tr,us⟩:=x;dsimp only at *
 go_enter Tryz.func17,Tryz.ntmps17
 go_wp2_with fail;refine (T1.out _ g cap W0.out).mono ?_;rintro e w1 ⟨rfl,g1,cap1,hw1,hs1⟩;have M1:=hid (NX.out _ _ _ _ hs1 M0.out);have S1:=hid (S0.out.trans hs1);have W1:=hid hw1;have LO1:=hid (S1.out.low HB.out hR hg);clear a0 a1 a2 a3 a4 a5 a6 a7;obtain ⟨a0,a1,a2,a3,a4,a5,a6,a7⟩:=HC.out _ M1.out.1;clear hw1 hs1 T1;go_wp2_with fail;refine (T2.out _ g1 cap1 W1.out).mono ?_;rintro e w2 ⟨rfl,g2,cap2,hw2,hs2⟩;have M2:=hid (NX.out _ _ _ _ hs2 M1.out);have S2:=hid (S1.out.trans hs2);have W2:=hid hw2;have LO2:=hid (S2.out.low HB.out hR hg);clear a0 a1 a2 a3 a4 a5 a6 a7;obtain ⟨a0,a1,a2,a3,a4,a5,a6,a7⟩:=HC.out _ M2.out.1;clear hw2 hs2 T2;go_wp2_with fail;refine (T3.out _ g2 cap2 W2.out).mono ?_;rintro e w3 ⟨rfl,g3,cap3,hw3,hs3⟩;have M3:=hid (NX.out _ _ _ _ hs3 M2.out);have S3:=hid (S2.out.trans hs3);have W3:=hid hw3;have LO3:=hid (S3.out.low HB.out hR hg);clear a0 a1 a2 a3 a4 a5 a6 a7;obtain ⟨a0,a1,a2,a3,a4,a5,a6,a7⟩:=HC.out _ M3.out.1;clear hw3 hs3 T3;go_wp2_with fail;refine (T4.out _ g3 cap3 W3.out).mono ?_;rintro e w4 ⟨rfl,g4,cap4,hw4,hs4⟩;have M4:=hid (NX.out _ _ _ _ hs4 M3.out);have S4:=hid (S3.out.trans hs4);have W4:=hid hw4;have LO4:=hid (S4.out.low HB.out hR hg);clear a0 a1 a2 a3 a4 a5 a6 a7;obtain ⟨a0,a1,a2,a3,a4,a5,a6,a7⟩:=HC.out _ M4.out.1;clear hw4 hs4 T4;go_wp2_with fail;refine (T5.out _ g4 cap4 W4.out LO4.out.1 LO4.out.2).mono ?_;rintro e w5 ⟨rfl,g5,cap5,hw5,hs5⟩;have M5:=hid (NX.out _ _ _ _ hs5 M4.out);have S5:=hid (S4.out.trans hs5);have W5:=hid hw5;have LO5:=hid (S5.out.low HB.out hR hg);clear a0 a1 a2 a3 a4 a5 a6 a7;obtain ⟨a0,a1,a2,a3,a4,a5,a6,a7⟩:=HC.out _ M5.out.1;clear hw5 hs5 T5;go_wp2_with fail;refine (T6.out _ g5 cap5 W5.out LO5.out.1 LO5.out.2).mono ?_;rintro e w6 ⟨rfl,g6,cap6,hw6,hs6⟩;have M6:=hid (NX.out _ _ _ _ hs6 M5.out);have S6:=hid (S5.out.trans hs6);have W6:=hid hw6;have LO6:=hid (S6.out.low HB.out hR hg);clear a0 a1 a2 a3 a4 a5 a6 a7;obtain ⟨a0,a1,a2,a3,a4,a5,a6,a7⟩:=HC.out _ M6.out.1;clear hw6 hs6 T6;go_wp2_with fail
 refine (T7.out _ g6 cap6 W6.out LO6.out.1 LO6.out.2).mono ?_;rintro e w7 ⟨rfl,g7,cap7,hw7,hs7⟩;have M7:=hid (NX.out _ _ _ _ hs7 M6.out);have S7:=hid (S6.out.trans hs7);have W7:=hid hw7;have LO7:=hid (S7.out.low HB.out hR hg);clear a0 a1 a2 a3 a4 a5 a6 a7;obtain ⟨a0,a1,a2,a3,a4,a5,a6,a7⟩:=HC.out _ M7.out.1;clear hw7 hs7 T7;go_wp2_with fail;refine (T8.out _ g7 cap7 W7.out LO7.out.1 LO7.out.2).mono ?_;rintro e w8 ⟨rfl,g8,cap8,hw8,hs8⟩;have M8:=hid (NX.out _ _ _ _ hs8 M7.out);have S8:=hid (S7.out.trans hs8);have W8:=hid hw8;have LO8:=hid (S8.out.low HB.out hR hg);clear a0 a1 a2 a3 a4 a5 a6 a7;obtain ⟨a0,a1,a2,a3,a4,a5,a6,a7⟩:=HC.out _ M8.out.1;clear hw8 hs8 T8;go_wp2_with fail;go_end0;exact ⟨rfl,g8,cap8,W8.out,S8.out⟩
end Go.Proofs.YtkdldbfbldkkcaaGreatDoor

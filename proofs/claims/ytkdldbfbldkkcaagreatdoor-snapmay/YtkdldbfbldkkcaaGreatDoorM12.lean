/-
  Texts NRg.
-/
import Derived.Deep.RegionHeld
import Derived.OrdersHeld
import Derived.Test.YtkdldbfbldkkcaaGreatDoorM00
import Derived.Test.YtkdldbfbldkkcaaGreatDoorM10
import Derived.Test.YtkdldbfbldkkcaaGreatDoorM11
set_option linter.unusedVariables false
set_option maxRecDepth 100000
set_option maxHeartbeats 16000000
namespace Go.Proofs.YtkdldbfbldkkcaaGreatDoor
open Go.RowKit
theorem kj {P : Program} {ops : Array Oper} {Q : Exit → Act → World → Prop} {md : Region.Mode} {S : World → Prop} {i : Nat} {oi : Oper} {v : Value} {fuel : Nat} {listed : Array Bool} {a : Act} {w : World} (hi : ops[i]? = some oi) (h : wpAnyH P md ops Q S fuel (listed.setIfInBounds i true) (a.put oi.dst v) w) (hv : ∀ w,S w → (execOp a.eval oi).run P w = .ok (.value v) w:=by (intro w h; (try dsimp only at h); go_simp; try with_reducible rfl))
  (hc : (Region.noSelect ops && Region.free md ops listed i && (Region.ready md ops listed).contains i) = true:=by kernel_rfl) (hw : Region.wanted oi (yielded ops a.tmps) = true:=by rfl) (hQ : ∀ c a w,Q (.panic c) (a.put oi.dst v) w → Q (.panic c) a w:=by exact fun _ _ _ h => h) (hS : S w:=by assumption) : wpAnyH P md ops Q S (fuel + 1) listed a w:=by
 simp only [Bool.and_eq_true] at hc
 exact rX
theorem NK {P : Program} {ops : Array Oper} {Q : Exit → Act → World → Prop} {md : Region.Mode} {S : World → Prop} {i : Nat} {o : Oper} {fuel : Nat} {listed : Array Bool} {a : Act} {w : World} {rs : List Nat} (ho : ops[i]? = some o) (h : ∀ K : Act → World → Prop,Shut (∀ a w,S w → (S w → wpAnyH P md ops Q S fuel (listed.setIfInBounds i true) a w) → K a w) → Oper.wp P o a w K Q) (hs : AllReadyH P md ops Q S fuel listed a w rs) (hw : Region.wanted o (yielded ops a.tmps) = true:=by rfl) : AllReadyH P md ops Q S fuel listed a w (i :: rs):=AllReadyH.cons ho (fun K hK => uu) hs
theorem Oa {P : Program} {ops : Array Oper} {Q : Exit → Act → World → Prop} {md : Region.Mode} {S : World → Prop} {rs : List Nat} {fuel : Nat} {listed : Array Bool} {a : Act} {w : World} (h : AllReadyH P md ops Q S fuel listed a w rs) (hr : Region.ready md ops listed = rs:=by kernel_rfl) (hne : rs ≠ []:=by simp) : wpAnyH P md ops Q S (fuel + 1) listed a w:=wpAnyH_ready hr hne h
theorem NQ {ρ : Operand → Value} {o : Oper} (x lo : Operand) (ho : o.op = .slice 42 x (some lo) none none) (a : Option Addr) (n c p : Nat) (hx : ρ x = .slice a n c) (hl : ρ lo = .int .i64 (p : Int)) (hp : p ≤ n) (w : World) :
  (execOp ρ o).run Tryz.prog w = .ok (.value (.slice (if c = p then a else a.map (·.add (p * 1))) (n - p) (c - p))) w:=by
 have hu : Tryz.prog.underlying 42 = some (.slice (Tryz.prog.elem 42)):=ak;have hz : (sizeOf (Tryz.prog.elem 42)).run Tryz.prog w = .ok 1 w:=ak;have h:=run_slice_l w 42 a n c hu .i64 (p : Int) ae ae
 simp only [execOp,ho,hx,hl,Option.map_some,Option.map_none,Sem.run_bind]
 rw [run_sliceAt_slice w 42 _ _ _ _ hu,h,hz]
 simp only [Result.andThen,sliced,Int.toNat_natCast]
 rfl
theorem LR {ρ : Operand → Value} {o : Oper} (x lo : Operand) (ho : o.op = .slice 42 x (some lo) none none) (a : Option Addr) (n c p : Nat) (hx : ρ x = .slice a n c) (hl : ρ lo = .int .i64 (p : Int)) (hp : p ≤ n) (A : Option Addr) (m k : Nat) (hA : Hid ((if c = p then a else a.map (·.add (p * 1))) = A ∧ n - p = m ∧ c - p = k)) (w : World) :
  (execOp ρ o).run Tryz.prog w = .ok (.value (.slice A m k)) w:=by
 rw [NQ x lo ho a n c p hx hl hp w,hA.out.1,hA.out.2.1,hA.out.2.2]
def pgT (zs : List Int) (p : Nat) : List Int:=(zs.drop p).take 4096
def pgL (zs : List Int) (p : Nat) : List Int:=pgT zs p ++ Zp.drop (pgT zs p).length
theorem sN (zs : List Int) (p : Nat) : (pgT zs p).length = Nat.min (zs.length - p) 4096:=by
 unfold pgT;rw [List.length_take,List.length_drop,Nat.min_comm]
theorem uF (zs : List Int) (p : Nat) : (pgL zs p).length = 4096:=by
 unfold pgL;have h:=sN zs p;have h2 : Nat.min (zs.length - p) 4096 ≤ 4096:=Nat.min_le_right _ _;rw [List.length_append,List.length_drop,qp];omega
def pgX (zs : List Int) (p : Nat) : Int:=if (pgT zs p).length < 4096 then 10 else if pgL zs p = Zp then 12 else 0
def pgR (zs : List Int) (st : RS) : RS:=(tkR 0 (st.1 + (pgT zs st.1.toNat).length) (pgX zs st.1.toNat) st).2
theorem Mw {ρ : Operand → Value} {o : Oper} {Z : List Int} (hZ : Hid (Z = Zp)) (d s : Operand) (ho : o.op = Op.call { callee:=Callee.builtin Builtin.copy,args:=#[d,s],argTypes:=#[42,42] }) (w W : World) (B : Nat) (hB : W.heap[B]? = some (.cells (byV Z) 139))
  (hd : ρ d = .slice (some ⟨B,0,none⟩) 4096 4096) (b off n c p : Nat) (zs : List Int) (hp : p ≤ n) (hs : ρ s = .slice (if c = p then some ⟨b,off,none⟩ else (some ⟨b,off,none⟩ : Option Addr).map (·.add (p * 1))) (n - p) (c - p)) (hl : zs.length = n) (hnc : n ≤ c)
  (hsrc : ∀ (j : Nat),j < n → W.cell? ⟨b,off + j,none⟩ = some (.int .u8 (zs.getD j 0))) :
  (execOp ρ o).run Tryz.prog W = .ok (.value (.int .i64 (pgT zs p).length)) (W.setRow B (byV (pgL zs p))):=by
 obtain ⟨ad,hs',had⟩ : ∃ ad : Addr,ρ s = .slice (some ad) (n - p) (c - p) ∧ ∀ j,j < n - p → W.cell? (ad.add j) = some (.int .u8 (zs.getD (p + j) 0)):=by
  by_cases hcp : c = p
  ·rw [if_pos hcp] at hs
   exact ⟨_,hs,fun j hj => ae⟩
  ·rw [if_neg hcp] at hs
   refine ⟨_,hs,fun j hj => ?_⟩
   have e : ((⟨b,off,none⟩ : Addr).add (p * 1)).add j = ⟨b,off + (p + j),none⟩:=by
    have e1 : (⟨b,off,none⟩ : Addr).add (p * 1) = ⟨b,off + p,none⟩:=dJ;rw [e1];unfold Addr.add
    split <;> simp_all
    omega
   rw [e];exact hsrc (p + j) ae
 have htl:=sN zs p;rw [hl] at htl
 have hle : (pgT zs p).length ≤ n - p:=by rw [htl]; exact Nat.min_le_left _ _
 have hle2 : (pgT zs p).length ≤ 4096:=by rw [htl]; exact Nat.min_le_right _ _
 have hzs : (byV Z).size = 4096:=by simp [byV,pV hZ]
 have h:=El (ρ:=ρ) d s ho B 0 4096 4096 hd ad (n - p) (c - p) hs' (byV Z) 139 ((pgT zs p).map (Value.int .u8)) W hB (by rw [List.length_map]; exact htl)
  (fun j v hv => by
   rw [List.getElem?_map,Option.map_eq_some_iff] at hv;obtain ⟨x,hx,rfl⟩:=hv;have hj:=az hx;rw [had j ae]
   have e : zs[p + j]? = some x:=by
    unfold pgT at hx;rw [List.getElem?_take,if_pos ae,List.getElem?_drop] at hx;exact hx
   rw [List.getD_eq_getElem?_getD,e]
   rfl) (by rw [hzs,List.length_map]; omega) (fX _)
 rw [h,List.length_map]
 have e1 : ((byV Z).toList.take 0 ++ (pgT zs p).map (Value.int .u8) ++ (byV Z).toList.drop (0 + (pgT zs p).length)).toArray = byV (pgL zs p):=by
  rw [hZ.out];unfold pgL byV
  simp
 rw [e1];rfl
theorem jE {w : World} {B : Nat} {c c' : Array Value} {t : TypeId} (h : w.heap[B]? = some (.cells c t)) : (w.setRow B c').heap[B]? = some (.cells c' t):=setRow_heap w B c c' t (0,0) h
theorem fC {w : World} {B : Nat} {c c' : Array Value} {t : TypeId} (h : w.heap[B]? = some (.cells c t)) : Kept (fun k => k = B) w (w.setRow B c'):=by
 refine ⟨rfl,rfl,rfl,by simp [World.setRow],fun k hk hs => ?_⟩
 simp only [World.setRow,Array.getElem?_modify]
 rw [if_neg (fun e => hs e.symm)]
theorem Rd.row {w : World} {R B : Nat} {cs : Array Value} {c0 : Array Value} {t : TypeId} {a : Option Addr} {n c : Nat} {zs : List Int} {st : RS} (h : Rd w R a n c zs st) (hB : B ≠ R) (hb : ∀ b off,a = some ⟨b,off,none⟩ → 0 < n → b ≠ B) (hh : w.heap[B]? = some (.cells c0 t)) : Rd (w.setRow B cs) R a n c zs st:=by
 have hk:=fC (c':=cs) hh
 have hbR:=hk.block R h.lt (fun e => hB e.symm)
 refine ⟨hk.cell h.c0 (fun e => hB e.symm),hk.cell h.c1 (fun e => hB e.symm),hk.cell h.c2 (fun e => hB e.symm),(bb hbR 1).trans h.f1,(bb hbR 2).trans h.f2,⟨h.seg.1,h.seg.2.1,h.seg.2.2.1,h.seg.2.2.2.1,?_⟩,h.ap,h.rg⟩
 exact ID
theorem IZ {ρ : Operand → Value} {o : Oper} {Z : List Int} (hZ : Hid (Z = Zp)) (x y : Operand) (ty : TypeId) (ho : o.op = .binOp .eql 139 x y ty) (xs : List Int) (r : Bool) (hx : ρ x = .agg (byV xs)) (hy : ρ y = .agg (byV Z)) (h1 : xs.length = 4096) (hr : Hid (decide (xs = Zp) = r)) (w : World) :
  (execOp ρ o).run Tryz.prog w = .ok (.value (.bool r)) w:=by
 rw [LC x y ty ho xs Z hx hy h1 (pV hZ),hZ.out,hr.out]
theorem uX {ops : Array Oper} {rest : List Oper} {o : Oper} {a : Act} {w w' : World} {Q : Exit → Act → World → Prop} (hgd : o.guard = none)
  (h1 : (execOp a.eval o).run Tryz.prog w = .ok .skip w') (h : wpList Tryz.prog ops Q rest (a.put o.dst undef) w') : wpList Tryz.prog ops Q (o :: rest) a w :=
 wpList_plain hgd fun K hK => by
  unfold Oper.wp;rw [h1,Oper.upon_skip];exact hK _ _ h
theorem Ku {ρ : Operand → Value} {o : Oper} (x y : Operand) (ho : o.op = .store 139 x y) (B : Nat) (xs ys : List Int) (hx : ρ x = .pointer (some ⟨B,0,none⟩)) (hy : ρ y = .agg (byV ys)) (h1 : xs.length = 4096) (h2 : ys.length = 4096) (w : World) (hB : w.heap[B]? = some (.cells (byV xs) 139)) :
  (execOp ρ o).run Tryz.prog w = .ok .skip (w.setRow B (byV ys)):=by
 have hs1 : (byV xs).size = 4096:=by simp [byV,h1]
 have hs2 : (byV ys).size = 4096:=by simp [byV,h2]
 have h:=run_storeVar_row (P:=Tryz.prog) w B 139 139 (byV xs) (byV ys) hB (by rw [hs2]; exact Tryz.siz83) (by rw [hs1,hs2]) (by
  rw [Array.all_eq_true'];intro v hv
  simp [byV] at hv
  obtain ⟨z,_,rfl⟩:=hv
  rfl)
 simp only [execOp,ho,hx,hy,Instr.storeAt,Instr.sureAddr,Sem.run_bind,Sem.run_pure,Result.andThen_ok]
 rw [h];rfl
abbrev gG (l : List Int) : Obj:=.cells (byV l) 139
theorem Mx (R : Nat) (b off : Nat) (n c : Nat) (zs : List Int) (st : RS) (w : World) (h : Rd w R (some ⟨b,off,none⟩) n c zs st) (h0 : 0 < n) :
  Calls Tryz.prog 75 #[.pointer (some ⟨R,0,none⟩)] w fun e w' => e = .returned (.agg (byV (pgL zs st.1.toNat))) ∧ Rd w' R (some ⟨b,off,none⟩) n c zs (pgR zs st) ∧ Kept (fun k => k = R) w w':=by
 have hrg:=h.rg;have hzl:=h.seg.1;have hRl:=h.lt;have HLO:=hid h.low;have hnc:=h.seg.2.1;have hnb:=h.seg.2.2.1;obtain ⟨at_,er⟩:=st;dsimp only at *;obtain ⟨p,rfl⟩:=Int.eq_ofNat_of_zero_le hrg.1;rw [Int.toNat_natCast];have hp : p ≤ n:=ae;have htl:=sN zs p
 have hle : (pgT zs p).length ≤ n - p:=by rw [htl,hzl]; exact Nat.min_le_left _ _
 have hle2 : (pgT zs p).length ≤ 4096:=by rw [htl]; exact Nat.min_le_right _ _
 have HT:=hid (fun (W : World) (hW : Rd W R (some ⟨b,off,none⟩) n c zs ((p : Int),er)) => pI R (some ⟨b,off,none⟩) n c zs ((p : Int),er) 0 ((p : Int) + (pgT zs p).length) (pgX zs p) W hW (fun _ => by constructor <;> omega))
 have e : pgR zs ((p : Int),er) = (tkR 0 ((p : Int) + (pgT zs p).length) (pgX zs p) ((p : Int),er)).2:=rfl;rw [e];have eX : pgX zs p = if (pgT zs p).length < 4096 then 10 else if pgL zs p = Zp then 12 else 0:=rfl;clear e htl;generalize tkR 0 ((p : Int) + (pgT zs p).length) (pgX zs p) ((p : Int),er) = q at *;generalize pgX zs p = X at *;obtain ⟨Z,hZ⟩ : ∃ Z,Z = Zp:=⟨_,rfl⟩;have HZ:=hid hZ;have b0:=aj w (gG Z);have b1:=b0.trans ((aj (w.alloc (gG Z)) (gG Z)).mono b0.size);have kb0 : ((w.alloc (gG Z)).alloc (gG Z)).heap[w.heap.size + 1]? = some (gG Z):=gZ au;have ka0 : ((w.alloc (gG Z)).alloc (gG Z)).heap[w.heap.size]? = some (gG Z):=bc (aj _ _) (bZ _ _);have hsz : ((w.alloc (gG Z)).alloc (gG Z)).heap.size = w.heap.size + 2:=au;have K0:=hid (ej (R:=R) b1);have R0:=hid (h.later b1);have KA:=hid ka0;have KB:=hid kb0;obtain ⟨l,hL⟩ : ∃ l,pgL zs p = l:=⟨_,rfl⟩;have HL:=hid hL
 have hll : l.length = 4096:=by rw [← hL]; exact uF zs p
 rw [hL] at eX ⊢;obtain ⟨tl,hTL⟩ : ∃ q,(pgT zs p).length = q:=⟨_,rfl⟩;rw [hTL] at eX hle hle2 HT;have HTL:=hid hTL;clear h b0 b1 ka0 kb0 hZ hL hTL
 go_enter Tryz.func75,Tryz.ntmps75
 go_upto_region 3 with (first | (refine cR rfl _ (rT HZ rfl _) ?_))
 generalize (w.alloc (gG Z)).alloc (gG Z) = W0 at *;have kd:=below_drewN W0 1;have hrd:=R0.out.later kd;have hS : W0.drew.cell? ⟨R,0,none⟩ = some (.slice (some ⟨b,off,none⟩) n c) ∧ W0.drew.cell? ⟨R,1,none⟩ = some (.int .i64 (p : Int)):=⟨hrd.c0,hrd.c1⟩;have KBd : W0.drew.heap[w.heap.size + 1]? = some (gG Z):=bc kd KB.out;have KAd : W0.drew.heap[w.heap.size]? = some (gG Z):=bc kd KA.out;have RD : Hid (Rd W0.drew R (some ⟨b,off,none⟩) n c zs ((p : Int),er)):=hid hrd
 have KD : Hid (Kept (fun k => k = R) w W0.drew):=hid (K0.out.trans (ej (R:=R) kd))
 have hszd : W0.drew.heap.size = w.heap.size + 2:=hsz;clear hrd kd;have HKBd:=hid KBd;have HKAd:=hid KAd;have HEX:=hid eX;clear KBd KAd hszd eX
 obtain ⟨A',hA'⟩ : ∃ A',(if c = p then (some ⟨b,off,none⟩ : Option Addr) else (some ⟨b,off,none⟩ : Option Addr).map (·.add (p * 1))) = A':=⟨_,rfl⟩
 obtain ⟨m',hm'⟩ : ∃ m',n - p = m':=⟨_,rfl⟩;obtain ⟨k',hk'⟩ : ∃ k',c - p = k':=⟨_,rfl⟩;have HA:=hid (And.intro hA' (And.intro hm' hk'));clear hA' hm' hk'
 refine wp_region_held_drew (S:=fun W => W.cell? ⟨R,0,none⟩ = some (.slice (some ⟨b,off,none⟩) n c) ∧ W.cell? ⟨R,1,none⟩ = some (.int .i64 (p : Int))) ak hS (fun _ => ?_)
 refine kj (i:=0) (oi:={ dst:=some 6,op:=Op.slice 139 (Operand.tmp 3) none none none,type:=42,pos:= "reader.go:73",after:=#[],guard:=none }) (v:=.slice (some ⟨w.heap.size + 1,0,none⟩) 4096 4096) rfl ?_ (hv:=fun W _ => Bb (.tmp 3) rfl (w.heap.size + 1) rfl W)
 (try simp only [Act.put,sIB,sC0,sCs]);refine kj (i:=1) (oi:={ dst:=some 7,op:=Op.move (Operand.tmp 0),type:=74,pos:= "reader.go:73",after:=#[],guard:=none }) (v:=.pointer (some ⟨R,0,none⟩)) rfl ?_;(try simp only [Act.put,sIB,sC0,sCs]);refine kj (i:=2) (oi:={ dst:=some 8,op:=Op.nilCheck (Operand.tmp 7),type:=0,pos:= "reader.go:73",after:=#[{ on:=1,ground:=Ground.data }],guard:=none }) (v:=.pointer (some ⟨R,0,none⟩)) rfl ?_;(try simp only [Act.put,sIB,sC0,sCs]);refine kj (i:=3) (oi:={ dst:=some 9,op:=Op.fieldAddr 76 (Operand.tmp 8) 0,type:=0,pos:= "reader.go:73",after:=#[{ on:=2,ground:=Ground.data }],guard:=none }) (v:=.pointer (some ⟨R,0,none⟩)) rfl ?_;(try simp only [Act.put,sIB,sC0,sCs]);refine kj (i:=4) (oi:={ dst:=some 10,op:=Op.load 42 (Operand.tmp 9),type:=42,pos:= "reader.go:73",after:=#[{ on:=3,ground:=Ground.data }],guard:=none }) (v:=.slice (some ⟨b,off,none⟩) n c) rfl ?_;(try simp only [Act.put,sIB,sC0,sCs]);refine kj (i:=5) (oi:={ dst:=some 11,op:=Op.move (Operand.tmp 0),type:=74,pos:= "reader.go:73",after:=#[],guard:=none }) (v:=.pointer (some ⟨R,0,none⟩)) rfl ?_;(try simp only [Act.put,sIB,sC0,sCs]);refine kj (i:=6) (oi:={ dst:=some 12,op:=Op.nilCheck (Operand.tmp 11),type:=0,pos:= "reader.go:73",after:=#[{ on:=5,ground:=Ground.data }],guard:=none }) (v:=.pointer (some ⟨R,0,none⟩)) rfl ?_;(try simp only [Act.put,sIB,sC0,sCs]);refine kj (i:=7) (oi:={ dst:=some 13,op:=Op.fieldAddr 76 (Operand.tmp 12) 1,type:=0,pos:= "reader.go:73",after:=#[{ on:=6,ground:=Ground.data }],guard:=none }) (v:=.pointer (some ⟨R,1,none⟩)) rfl ?_;(try simp only [Act.put,sIB,sC0,sCs]);refine kj (i:=8) (oi:={ dst:=some 14,op:=Op.load 3 (Operand.tmp 13),type:=3,pos:= "reader.go:73",after:=#[{ on:=7,ground:=Ground.data }],guard:=none }) (v:=.int .i64 (p : Int)) rfl ?_;try simp only [Act.put,sIB,sC0,sCs]
 refine kj (i:=9) (oi:={ dst:=some 15,op:=Op.slice 42 (Operand.tmp 10) (some (Operand.tmp 14)) none none,type:=42,pos:= "reader.go:73",after:=#[{ on:=4,ground:=Ground.data },{ on:=8,ground:=Ground.data }],guard:=none }) (v:=.slice A' m' k') rfl ?_ (hv:=fun W _ => LR (.tmp 10) (.tmp 14) rfl (some ⟨b,off,none⟩) n c p rfl rfl hp A' m' k' HA W)
 (try simp only [Act.put,sIB,sC0,sCs]);have KBd:=HKBd.out;have KAd:=HKAd.out;have eX:=HEX.out
 have hsg : ∀ (j : Nat),j < n → W0.drew.cell? ⟨b,off + j,none⟩ = some (.int .u8 (zs.getD j 0)):=by
  obtain ⟨b',off',e',hc'⟩:=RD.out.seg.2.2.2.2.resolve_left ae
  cases e'
  exact hc'
 have HSG:=hid hsg;clear hsg;refine Oa (rs:=[10]) ?_
 refine NK (i:=10) (o:={ dst:=some 16,op:=Op.call { callee:=Callee.builtin Builtin.copy,args:=#[Operand.tmp 6,Operand.tmp 15],argTypes:=#[42,42] },type:=3,pos:= "reader.go:73",after:=#[{ on:=0,ground:=Ground.data },{ on:=9,ground:=Ground.data }],guard:=none }) rfl (fun K hK => ?_) rN
 unfold Oper.wp
 rw [Mw HZ (.tmp 6) (.tmp 15) rfl w W0.drew (w.heap.size + 1) KBd rfl b off n c p zs hp (by rw [HA.out.1,HA.out.2.1,HA.out.2.2]; rfl) hzl hnc HSG.out,HL.out,HTL.out,Oper.upon_value]
 have hne : w.heap.size + 1 ≠ R:=ae
 have hlb : ∀ b_1 off_1,(some ⟨b,off,none⟩ : Option Addr) = some ⟨b_1,off_1,none⟩ → 0 < n → b_1 ≠ w.heap.size + 1:=fun b1 o1 e hn => ya
 have R1:=hid (RD.out.row (cs:=byV l) hne hlb KBd);have kk:=fC (c':=byV l) KBd
 have K1:=hid (KD.out.then kk (fun q h1 h2 => ae))
 have kb1:=jE (c':=byV l) KBd;have ka1 : (W0.drew.setRow (w.heap.size + 1) (byV l)).heap[w.heap.size]? = some (gG Z):=(kk.block _ (fq KAd) ae).trans KAd;have hS1 : (W0.drew.setRow (w.heap.size + 1) (byV l)).cell? ⟨R,0,none⟩ = some (.slice (some ⟨b,off,none⟩) n c) ∧ (W0.drew.setRow (w.heap.size + 1) (byV l)).cell? ⟨R,1,none⟩ = some (.int .i64 (p : Int)):=⟨R1.out.c0,R1.out.c1⟩
 refine hK.out _ _ hS1 (fun _ => ?_)
 clear hK K;have KB1:=hid kb1;have KA1:=hid ka1;clear KBd KAd kk kb1 ka1 hS KB KA RD HSG hlb;generalize W0.drew.setRow (w.heap.size + 1) (byV l) = W1 at *;refine kj (i:=11) (oi:={ dst:=some 5,op:=Op.assign (Operand.tmp 16),type:=3,pos:= "reader.go:73",after:=#[{ on:=10,ground:=Ground.data },{ on:=10,ground:=Ground.chain },{ on:=0,ground:=Ground.phase },{ on:=1,ground:=Ground.phase },{ on:=2,ground:=Ground.phase },{ on:=3,ground:=Ground.phase },{ on:=4,ground:=Ground.phase },{ on:=5,ground:=Ground.phase },{ on:=6,ground:=Ground.phase },{ on:=7,ground:=Ground.phase },{ on:=8,ground:=Ground.phase },{ on:=9,ground:=Ground.phase },{ on:=10,ground:=Ground.phase }],guard:=none }) (v:=.int .i64 (tl : Int)) rfl ?_;(try simp only [Act.put,sIB,sC0,sCs]);refine wpAnyH_done ak ?_ _
 have hl2 : (byV l).size = 4096:=by simp [byV,hll]
 have tail : ∀ (W2 : World),Rd W2 R (some ⟨b,off,none⟩) n c zs q.2 → Kept (fun k => k = R) W1 W2 → Hid (W2.heap[w.heap.size + 1]? = some (gG l) ∧ Rd (W2.setRow w.heap.size (byV l)) R (some ⟨b,off,none⟩) n c zs q.2 ∧ Kept (fun k => k = R) w (W2.setRow w.heap.size (byV l)) ∧ W2.heap[w.heap.size]? = some (gG Z) ∧ (W2.setRow w.heap.size (byV l)).heap[w.heap.size]? = some (gG l)):=fun W2 r2 k2 => by
  have g1:=bj k2 hne KB1.out;have g0:=bj k2 ae KA1.out;have k3:=fC (c':=byV l) g0
  exact hid ⟨g1,r2.row ae (fun b1 o1 e hn => ya) g0,(K1.out.trans k2).then k3 (fun q h1 h2 => ae),g0,jE g0⟩
 have TAIL:=hid tail;have HT1:=hid (HT.out W1 R1.out);have HLL:=hid hll;clear tail HT hll;have hS2:=hS1;obtain ⟨c0,c1⟩:=hS2;clear hS1;have LD : (byV l).size = 4096:=hl2
 by_cases ht : tl < 4096
 ·have hX : X = 10:=by rw [eX,if_pos ht]
  subst hX;clear eX HEX;have ht' : (tl : Int) < 4096:=ae;go_wp2_with fail;exact xD
 ·by_cases hz : l = Zp
  ·have hX : X = 12:=by rw [eX,if_neg ht,if_pos hz]
   subst hX;have hq : decide (l = Zp) = true:=mU;have HQ:=hid hq;clear eX HEX hz hq;have ht' : ¬ (tl : Int) < 4096:=ae
   go_wp2_with (first | (refine wpList_load_row rfl 139 (.tmp 3) rfl (w.heap.size + 1) rfl 139 (byV l) (0,0) _ KB1.out Tryz.underlying139 rfl rP ?_) | (refine cR rfl _ (sJ HZ rfl _) ?_) | (refine cR rfl _ (IZ HZ (.tmp 21) (.tmp 22) _ rfl l true rfl rfl HLL.out HQ _) ?_))
   exact xD
  ·have hX : X = 0:=by rw [eX,if_neg ht,if_neg hz]
   subst hX;have hq : decide (l = Zp) = false:=mU;have HQ:=hid hq;clear eX HEX hz hq;have ht' : ¬ (tl : Int) < 4096:=ae
   go_wp2_with (first | (refine wpList_load_row rfl 139 (.tmp 3) rfl (w.heap.size + 1) rfl 139 (byV l) (0,0) _ KB1.out Tryz.underlying139 rfl rP ?_) | (refine cR rfl _ (sJ HZ rfl _) ?_) | (refine cR rfl _ (IZ HZ (.tmp 21) (.tmp 22) _ rfl l false rfl rfl HLL.out HQ _) ?_))
   exact xD
end Go.Proofs.YtkdldbfbldkkcaaGreatDoor

/-
  Texts Xf Xg.
-/
import Derived.Test.YtepnnenohjfkbaaGreatDoorR36
set_option linter.unusedVariables false
set_option maxRecDepth 100000
set_option maxHeartbeats 16000000
namespace Go.Proofs.YtepnnenohjfkbaaGreatDoor
open Go.RowKit
def xin (y : Inx) : InM:=(y.c,y.a,(y.la,y.ln,y.lc),y.l)
theorem xin_inx (ys : List Inx) : (ys.map xin).map inx = ys:=by
 rw [List.map_map]
 have : inx ∘ xin = id:=by funext y; rfl
 rw [this,List.map_id]
def fcel (y : FuM) : List Value:=[.int .i64 y.1,.string y.2.1,.slice y.2.2.1.1 y.2.2.1.2.1 y.2.2.1.2.2]
theorem fcel_one (ys : List FuM) : ∀ u ∈ ys.flatMap fcel,u.oneCell' = true:=by
 intro u hu
 obtain ⟨y,_,h⟩:=List.mem_flatMap.1 hu
 simp only [fcel,List.mem_cons,List.not_mem_nil,or_false] at h
 rcases h with rfl | rfl | rfl <;> rfl
def FnL (w : World) (base : Nat) (y : FuM) : Prop:=LC w base (.slice y.2.2.1.1 y.2.2.1.2.1 y.2.2.1.2.2) (y.2.2.2.map inx) ∧ LL w base (y.2.2.2.map inx)
theorem FnL.kept {S : Nat → Prop} {w w' : World} {base : Nat} {y : FuM} (h : FnL w base y) (hk : Kept S w w') (hS : ∀ k,S k → k < w.heap.size → ∃ cur t,w.heap[k]? = some (.cells cur t) ∧ t ≠ 51 ∧ t ≠ 3) : FnL w' base y:=by
 refine ⟨own_keepB h.1 hk (fun b hb hx => ?_),fun z hz => own_keepB (h.2 z hz) hk (fun b hb hx => ?_)⟩
 ·obtain ⟨_,hl,cur,hc⟩:=own_ty h.1 hb
  obtain ⟨c2,t,hc2,h1,h2⟩:=hS b hx hl
  rw [hc] at hc2; simp at hc2
  exact h1 hc2.2.symm
 ·obtain ⟨_,hl,cur,hc⟩:=own_ty (h.2 z hz) hb
  obtain ⟨c2,t,hc2,h1,h2⟩:=hS b hx hl
  rw [hc] at hc2; simp at hc2
  exact h2 hc2.2.symm
theorem FnL.mono {w : World} {base base' : Nat} {y : FuM} (h : FnL w base y) (hb : base' ≤ base) : FnL w base' y:=⟨own_low h.1 hb,fun z hz => own_low (h.2 z hz) hb⟩
structure FnS (x y : FuM) : Prop where
 ty : y.1 = x.1
 lo : y.2.1 = x.2.1
 n : y.2.2.1.2.1 = x.2.2.1.2.1
 len : y.2.2.2.length = x.2.2.2.length
 code : ∀ j,j < x.2.2.2.length → ((y.2.2.2.map inx).getD j dx).c = ((x.2.2.2.map inx).getD j dx).c ∧ ((y.2.2.2.map inx).getD j dx).a = ((x.2.2.2.map inx).getD j dx).a ∧ ((y.2.2.2.map inx).getD j dx).l = ((x.2.2.2.map inx).getD j dx).l ∧ ((y.2.2.2.map inx).getD j dx).ln = ((x.2.2.2.map inx).getD j dx).ln
structure CF (w : World) (fs : List FuM) (k : Nat) (v : Value) (ys : List FuM) (wr : World) : Prop where
 len : ys.length = k
 row : wr.ownsRow w.heap.size 42 3 v k (ys.flatMap fcel)
 fn : ∀ y ∈ ys,FnL wr w.heap.size y
 same : ∀ (j : Nat) x y,fs[j]? = some x → ys[j]? = some y → FnS x y
 bel : Below w.heap.size w wr
theorem Tryz.infFns : (Tryz.prog.info? 42).map (fun i => (i.zero,i.size,i.bytes)) = some (some (.agg #[.int .i64 0,.string ⟨#[]⟩,.slice none 0 0]),3,48):=by kernel_rfl
structure FnC (w : World) (x : FuM) : Prop where
 n : x.2.2.1.2.1 ≤ 100000
 cap : x.2.2.1.2.1 ≤ x.2.2.1.2.2
 cod : CodS w x.2.2.1.1 x.2.2.1.2.1 (x.2.2.2.map inx)
 ln : ∀ j,j < x.2.2.1.2.1 → ((x.2.2.2.map inx).getD j dx).ln ≤ 100000
theorem copyFns (fa : Option Addr) (fn fc : Nat) (fs : List FuM) (w : World) (hf : AtFu w fa fn fs) (hn : fn ≤ 100000) (hx : ∀ x ∈ fs,FnC w x) :
  Calls Tryz.prog 40 #[.slice fa fn fc] w fun e w' => ∃ v ys,e = .returned v ∧ CF w fs fn v ys w':=by
 have hfl:=hf.1
 have HF:=hid hf
 have HX:=hid hx
 obtain ⟨i0,hi,hz0,hz1,hz2⟩:=info_parts Tryz.infFns
 have HI:=hid hi
 clear hf hx hi
 go_enter Tryz.func40,Tryz.ntmps40
 go_wp2_with fail
 go_loopw [3,4] (fun v i wr => ∃ (k : Nat) (ys : List FuM),k ≤ fn ∧ i = .int .i64 k ∧ Hid (CF w fs k v ys wr)) (fun _ i _ => fn - (intOf i).toNat)
 case atStart => exact ⟨0,[],by omega,rfl,hid ⟨rfl,World.ownsRow_nil _ _ _ _,(fun y hy => by cases hy),(fun j x y hj hy => by simp at hy),Below.refl _ _⟩⟩
 case round =>
  obtain ⟨k,ys,hk,rfl,HC⟩:=hrel
  obtain ⟨va,vc,rfl⟩:=own_sl HC.out.row
  by_cases hlt : k < fn
  ·obtain ⟨x,hxk⟩ : ∃ x,fs[k]? = some x:=⟨_,List.getElem?_eq_getElem (by omega)⟩
   obtain ⟨b,off,rfl,hat⟩:=HF.out.2.resolve_left (by omega)
   obtain ⟨e0,e1,e2⟩:=hat k x hxk
   have e0:=later_cell HC.out.bel e0
   have e1:=later_cell HC.out.bel e1
   have e2:=later_cell HC.out.bel e2
   have hfc:=HX.out x (List.mem_of_getElem? hxk)
   have H1:=hid (copyFn x.1 x.2.1 x.2.2.1.1 x.2.2.1.2.1 x.2.2.1.2.2 (x.2.2.2.map inx) wr hfc.n hfc.cap (hfc.cod.later HC.out.bel (Nat.le_refl _)) hfc.ln)
   have hcn:=hfc.cod.1
   have hlt' : (k : Int) < (fn : Int):=by omega
   have HXK:=hid hxk
   have HCN:=hid hcn
   clear hat hfc hcn hxk
   go_wp2_with fail
   refine H1.out.mono ?_
   rintro e w1 ⟨ua,uc,zs,rfl,hcp⟩
   have B1:=below_new w1 (.cells #[.int .i64 x.1,.string x.2.1,.slice ua x.2.2.1.2.1 uc] 42)
   have b1:=heap_alloc_new w1 (.cells #[.int .i64 x.1,.string x.2.1,.slice ua x.2.2.1.2.1 uc] 42)
   have hB2 : Below wr.heap.size wr (w1.alloc (.cells #[.int .i64 x.1,.string x.2.1,.slice ua x.2.2.1.2.1 uc] 42)):=hcp.bel.trans (B1.mono hcp.bel.size)
   have hrow:=own_keepB HC.out.row (kept_of hB2) (fun _ _ x => x)
   have hsz2 : w.heap.size ≤ (w1.alloc (.cells #[.int .i64 x.1,.string x.2.1,.slice ua x.2.2.1.2.1 uc] 42)).heap.size:=Nat.le_trans HC.out.bel.size hB2.size
   have hnews : ∀ (j : Nat) (y : Value),(fcel (x.1,x.2.1,(ua,x.2.2.1.2.1,uc),zs.map xin))[j]? = some y → (w1.alloc (.cells #[.int .i64 x.1,.string x.2.1,.slice ua x.2.2.1.2.1 uc] 42)).cell? ((⟨w1.heap.size,0,none⟩ : Addr).add j) = some y:=by
    intro j y hj
    have hplain : (⟨w1.heap.size,0,none⟩ : Addr).add j = ⟨w1.heap.size,j,none⟩:=by unfold Addr.add; split <;> simp_all
    rw [hplain,cell_at b1]
    match j,hj with
    | 0,hj | 1,hj | 2,hj => exact hj
    | j + 3,hj => simp [fcel] at hj
   have hone : ∀ u ∈ fcel (x.1,x.2.1,(ua,x.2.2.1.2.1,uc),zs.map xin),u.oneCell' = true:=fun u hu => fcel_one [(x.1,x.2.1,(ua,x.2.2.1.2.1,uc),zs.map xin)] u (by simpa using hu)
   have HROW:=hid hrow
   have HN:=hid (And.intro hnews hone)
   have HCP:=hid hcp
   have HB2:=hid hB2
   have HB1:=hid B1
   have hlen:=HC.out.len
   clear hrow hnews hone hcp hB2 B1 b1 e0 e1 e2
   go_wp2_with (first
    | (at_builtin; refine wpList_append_own _ rfl (.tmp 11) (.tmp 17) 25 rfl w.heap.size 42 i0 _ 3 48 Tryz.underlying25 HI.out hz0 hz1 hz2 rfl (by decide) _ k _ rfl HROW.out ⟨w1.heap.size,0,none⟩ 1 1 (fcel (x.1,x.2.1,(ua,x.2.2.1.2.1,uc),zs.map xin)) rfl rfl HN.out.1 HN.out.2 (by unfold maxLen; omega) (by omega) hsz2 ?_; intro v' w2 hown hg _; have HO:=hid hown; have HK:=hid (Kept.of_grown hg); clear hown hg))
   have hkb:=HK.out
   have hrw:=HROW.out
   have hnewk : ∀ b,some b = (Value.slice va k vc).ownBlock → b < (w1.alloc (.cells #[.int .i64 x.1,.string x.2.1,.slice ua x.2.2.1.2.1 uc] 42)).heap.size → ∃ cur t,(w1.alloc (.cells #[.int .i64 x.1,.string x.2.1,.slice ua x.2.2.1.2.1 uc] 42)).heap[b]? = some (.cells cur t) ∧ t ≠ 51 ∧ t ≠ 3:=fun b hb _ => by
    obtain ⟨_,_,cur,hc⟩:=own_ty hrw hb.symm
    exact ⟨cur,42,hc,by decide,by decide⟩
   have hcf : CF w fs (k + 1) v' (ys ++ [(x.1,x.2.1,(ua,x.2.2.1.2.1,uc),zs.map xin)]) w2:=by
    refine ⟨by simp [hlen],?_,fun y hy => ?_,fun j x' y' hj hy => ?_,?_⟩
    ·rw [List.flatMap_append,List.flatMap_singleton]
     exact HO.out
    ·rcases List.mem_append.1 hy with hy | hy
     ·exact ((HC.out.fn y hy).kept (kept_of HB2.out) (fun k (hx : False) _ => hx.elim)).kept hkb hnewk
     ·obtain rfl:=List.mem_singleton.1 hy
      have hcp:=HCP.out
      have h0 : FnL w1 w.heap.size (x.1,x.2.1,(ua,x.2.2.1.2.1,uc),zs.map xin):=⟨by
       show LC w1 w.heap.size (.slice ua x.2.2.1.2.1 uc) ((zs.map xin).map inx)
       rw [xin_inx]; exact own_low hcp.row HC.out.bel.size,by
       show LL w1 w.heap.size ((zs.map xin).map inx)
       rw [xin_inx]; exact fun z hz => own_low (hcp.lab z hz) HC.out.bel.size⟩
      exact (h0.kept (kept_of HB1.out) (fun k (hx : False) _ => hx.elim)).kept hkb hnewk
    ·by_cases hjk : j < k
     ·rw [List.getElem?_append_left (by omega)] at hy
      exact HC.out.same j x' y' hj hy
     ·have hjk' : j = k:=by
       have:=lt_of_get hy
       simp [hlen] at this; omega
      subst hjk'
      rw [List.getElem?_append_right (by omega)] at hy
      simp [hlen] at hy
      subst hy
      have e:=HXK.out
      rw [hj] at e
      obtain rfl:=Option.some.inj e
      have hcp:=HCP.out
      have hcn:=HCN.out
      have hl2 : x'.2.2.2.length = x'.2.2.1.2.1:=by simpa using hcn
      refine ⟨rfl,rfl,rfl,by simp [hcp.len,hl2],fun j hj => ?_⟩
      show (((zs.map xin).map inx).getD j dx).c = _ ∧ (((zs.map xin).map inx).getD j dx).a = _ ∧ (((zs.map xin).map inx).getD j dx).l = _ ∧ (((zs.map xin).map inx).getD j dx).ln = _
      rw [xin_inx]
      exact hcp.same j (by omega)
    ·have h1 : Below w.heap.size w (w1.alloc (.cells #[.int .i64 x.1,.string x.2.1,.slice ua x.2.2.1.2.1 uc] 42)):=HC.out.bel.trans (HB2.out.mono HC.out.bel.size)
     exact h1.trans (hkb.to_below (B:=w.heap.size) h1.size (fun b hb hx => by have:=(own_ty hrw hx.symm).1; omega))
   exact ⟨⟨k + 1,_,by omega,by go_num,hid hcf⟩,by simp [intOf]; omega⟩
  ·obtain rfl : k = fn:=by omega
   have hlt' : ¬ (k : Int) < (k : Int):=by omega
   go_wp2_with fail
   go_ret
   exact ⟨_,rfl,ys,HC.out⟩
theorem seg_fl {w : World} {a : Option Addr} {n c : Nat} {zs : List Int} (h : Seg w a n c zs) : Fl w a n (zs.map (Value.int .u8)):=by
 obtain ⟨hl,_,_,_,hc⟩:=h
 rcases hc with h0 | ⟨b,off,e,hc⟩
 ·exact .inl h0
 ·refine .inr ⟨b,off,e,fun j y hj => ?_⟩
  rw [List.getElem?_map] at hj
  obtain ⟨z,hz,rfl⟩:=Option.map_eq_some_iff.1 hj
  have hjl:=lt_of_get hz
  rw [hc j (by omega),List.getD_eq_getElem?_getD,hz]; rfl
theorem copyDa (ty : Int) (ca : Option Addr) (n cc : Nat) (zs : List Int) (w : World) (hn : n ≤ 1000000) (h : Seg w ca n cc zs) :
  Calls Tryz.prog 84 #[.agg #[.int .i64 ty,.slice ca n cc]] w fun e w' => ∃ va vc,e = .returned (.agg #[.int .i64 ty,.slice va n vc]) ∧ w'.ownsRow w.heap.size 5 1 (.slice va n vc) n (zs.map (Value.int .u8)) ∧ Below w.heap.size w w':=by
 have B1:=below_new w (.cells #[.int .i64 ty,.slice ca n cc] 66)
 have B2:=below_new (w.alloc (.cells #[.int .i64 ty,.slice ca n cc] 66)) (.cells #[.int .i64 0,.slice none 0 0] 66)
 have b1:=blk_later B2 (heap_alloc_new w (.cells #[.int .i64 ty,.slice ca n cc] 66))
 have b2 : ((w.alloc (.cells #[.int .i64 ty,.slice ca n cc] 66)).alloc (.cells #[.int .i64 0,.slice none 0 0] 66)).heap[w.heap.size + 1]? = some (.cells #[.int .i64 0,.slice none 0 0] 66):=alloc_at (by simp)
 have B0 : Below w.heap.size w ((w.alloc (.cells #[.int .i64 ty,.slice ca n cc] 66)).alloc (.cells #[.int .i64 0,.slice none 0 0] 66)):=B1.trans (B2.mono (by simp))
 have z : ((w.alloc (.cells #[.int .i64 ty,.slice ca n cc] 66)).alloc (.cells #[.int .i64 0,.slice none 0 0] 66)).heap.size = w.heap.size + 2:=by simp
 have HW:=hid (copyByts ca n cc (zs.map (Value.int .u8)) _ ((seg_fl h).later B0) (by simp [h.1]) (fun u hu => by obtain ⟨z,_,rfl⟩:=List.mem_map.1 hu; rfl) hn)
 have HB:=hid (And.intro B0 z)
 have c2 : ((w.alloc (.cells #[.int .i64 ty,.slice ca n cc] 66)).alloc (.cells #[.int .i64 0,.slice none 0 0] 66)).cell? ⟨w.heap.size,1,none⟩ = some (.slice ca n cc):=cell_at b1
 clear h B1 B2 B0 z
 go_enter Tryz.func84,Tryz.ntmps84
 go_wp2_with fail
 generalize (w.alloc (.cells #[.int .i64 ty,.slice ca n cc] 66)).alloc (.cells #[.int .i64 0,.slice none 0 0] 66) = W1 at *
 refine HW.out.mono ?_
 rintro e w1 ⟨v,rfl,hcp,hbel⟩
 obtain ⟨va,vc,rfl⟩:=own_sl hcp
 have d1:=blk_later hbel b1
 have d2:=blk_later hbel b2
 have x0 : w1.cell? ⟨w.heap.size,0,none⟩ = some (.int .i64 ty):=cell_at d1
 have x1 : w1.cell? ⟨w.heap.size,1,none⟩ = some (.slice ca n cc):=cell_at d1
 have f1 : w1.frozen? ⟨w.heap.size,1,none⟩ = false:=free_at d1
 have y0 : w1.cell? ⟨w.heap.size + 1,0,none⟩ = some (.int .i64 0):=cell_at d2
 have y1 : w1.cell? ⟨w.heap.size + 1,1,none⟩ = some (.slice none 0 0):=cell_at d2
 have g0 : w1.frozen? ⟨w.heap.size + 1,0,none⟩ = false:=free_at d2
 have g1 : w1.frozen? ⟨w.heap.size + 1,1,none⟩ = false:=free_at d2
 have HCP:=hid (And.intro hcp hbel)
 clear hcp hbel HW c2 b1 b2 d1 d2
 go_wp2_with fail
 have hz:=HB.out.2
 have hkk : Kept (fun k => w.heap.size ≤ k ∧ k < W1.heap.size) w1 (((w1.setCell ⟨w.heap.size,1,none⟩ (.slice va n vc)).setCell ⟨w.heap.size + 1,0,none⟩ (.int .i64 ty)).setCell ⟨w.heap.size + 1,1,none⟩ (.slice va n vc)):=(((kept_set w1 w.heap.size 1 _).mono (fun k hk => by omega)).trans ((kept_set _ (w.heap.size + 1) 0 _).mono (fun k hk => by omega))).trans ((kept_set _ (w.heap.size + 1) 1 _).mono (fun k hk => by omega))
 have h1 : Below w.heap.size w w1:=HB.out.1.trans (HCP.out.2.mono HB.out.1.size)
 refine bodyPost_ret (v:=.agg #[.int .i64 ty,.slice va n vc]) (by simp [results,Tryz.results84,go_sem,y0,y1]) rfl ⟨va,vc,rfl,own_low (own_keepB HCP.out.1 hkk (fun b hb hx => by have:=(own_ty HCP.out.1 hb).1; omega)) HB.out.1.size,h1.trans (hkk.to_below (B:=w.heap.size) h1.size (fun k hk hx => by omega))⟩
def dcel (y : DaM) : List Value:=[.int .i64 y.1,.slice y.2.1.1 y.2.1.2.1 y.2.1.2.2]
theorem dcel_one (ys : List DaM) : ∀ u ∈ ys.flatMap dcel,u.oneCell' = true:=by
 intro u hu
 obtain ⟨y,_,h⟩:=List.mem_flatMap.1 hu
 simp only [dcel,List.mem_cons,List.not_mem_nil,or_false] at h
 rcases h with rfl | rfl <;> rfl
def DaL (w : World) (base : Nat) (y : DaM) : Prop:=w.ownsRow base 5 1 (.slice y.2.1.1 y.2.1.2.1 y.2.1.2.2) y.2.1.2.1 (y.2.2.map (Value.int .u8))
theorem DaL.kept {S : Nat → Prop} {w w' : World} {base : Nat} {y : DaM} (h : DaL w base y) (hk : Kept S w w') (hS : ∀ k,S k → k < w.heap.size → ∃ cur t,w.heap[k]? = some (.cells cur t) ∧ t ≠ 5) : DaL w' base y:=by
 refine own_keepB h hk (fun b hb hx => ?_)
 obtain ⟨_,hl,cur,hc⟩:=own_ty h hb
 obtain ⟨c2,t,hc2,h1⟩:=hS b hx hl
 rw [hc] at hc2; simp at hc2
 exact h1 hc2.2.symm
structure DaS (x y : DaM) : Prop where
 at_ : y.1 = x.1
 n : y.2.1.2.1 = x.2.1.2.1
 b : y.2.2 = x.2.2
structure CD (w : World) (fs : List DaM) (k : Nat) (v : Value) (ys : List DaM) (wr : World) : Prop where
 len : ys.length = k
 row : wr.ownsRow w.heap.size 66 2 v k (ys.flatMap dcel)
 fn : ∀ y ∈ ys,DaL wr w.heap.size y
 same : ∀ (j : Nat) x y,fs[j]? = some x → ys[j]? = some y → DaS x y
 bel : Below w.heap.size w wr
theorem Tryz.infDas : (Tryz.prog.info? 66).map (fun i => (i.zero,i.size,i.bytes)) = some (some (.agg #[.int .i64 0,.slice none 0 0]),2,32):=by kernel_rfl
theorem copyDas (fa : Option Addr) (fn fc : Nat) (fs : List DaM) (w : World) (hf : AtDa w fa fn fs) (hn : fn ≤ 100000) (hx : ∀ x ∈ fs,x.2.1.2.1 ≤ 1000000 ∧ Seg w x.2.1.1 x.2.1.2.1 x.2.1.2.2 x.2.2) :
  Calls Tryz.prog 41 #[.slice fa fn fc] w fun e w' => ∃ v ys,e = .returned v ∧ CD w fs fn v ys w':=by
 have hfl:=hf.1
 have HF:=hid hf
 have HX:=hid hx
 obtain ⟨i0,hi,hz0,hz1,hz2⟩:=info_parts Tryz.infDas
 have HI:=hid hi
 clear hf hx hi
 go_enter Tryz.func41,Tryz.ntmps41
 go_wp2_with fail
 go_loopw [3,4] (fun v i wr => ∃ (k : Nat) (ys : List DaM),k ≤ fn ∧ i = .int .i64 k ∧ Hid (CD w fs k v ys wr)) (fun _ i _ => fn - (intOf i).toNat)
 case atStart => exact ⟨0,[],by omega,rfl,hid ⟨rfl,World.ownsRow_nil _ _ _ _,(fun y hy => by cases hy),(fun j x y hj hy => by simp at hy),Below.refl _ _⟩⟩
 case round =>
  obtain ⟨k,ys,hk,rfl,HC⟩:=hrel
  obtain ⟨va,vc,rfl⟩:=own_sl HC.out.row
  by_cases hlt : k < fn
  ·obtain ⟨x,hxk⟩ : ∃ x,fs[k]? = some x:=⟨_,List.getElem?_eq_getElem (by omega)⟩
   obtain ⟨b,off,rfl,hat⟩:=HF.out.2.resolve_left (by omega)
   obtain ⟨e0,e1⟩:=hat k x hxk
   have e0:=later_cell HC.out.bel e0
   have e1:=later_cell HC.out.bel e1
   have hfc:=HX.out x (List.mem_of_getElem? hxk)
   have H1:=hid (copyDa x.1 x.2.1.1 x.2.1.2.1 x.2.1.2.2 x.2.2 wr hfc.1 (hfc.2.kept' (kept_of HC.out.bel) (fun _ _ _ _ => id)))
   have hlt' : (k : Int) < (fn : Int):=by omega
   have HXK:=hid hxk
   clear hat hfc hxk
   go_wp2_with fail
   refine H1.out.mono ?_
   rintro e w1 ⟨ua,uc,rfl,hcp,hcb⟩
   have B1:=below_new w1 (.cells #[.int .i64 x.1,.slice ua x.2.1.2.1 uc] 66)
   have b1:=heap_alloc_new w1 (.cells #[.int .i64 x.1,.slice ua x.2.1.2.1 uc] 66)
   have hB2 : Below wr.heap.size wr (w1.alloc (.cells #[.int .i64 x.1,.slice ua x.2.1.2.1 uc] 66)):=hcb.trans (B1.mono hcb.size)
   have hrow:=own_keepB HC.out.row (kept_of hB2) (fun _ _ x => x)
   have hsz2 : w.heap.size ≤ (w1.alloc (.cells #[.int .i64 x.1,.slice ua x.2.1.2.1 uc] 66)).heap.size:=Nat.le_trans HC.out.bel.size hB2.size
   have hnews : ∀ (j : Nat) (y : Value),(dcel (x.1,(ua,x.2.1.2.1,uc),x.2.2))[j]? = some y → (w1.alloc (.cells #[.int .i64 x.1,.slice ua x.2.1.2.1 uc] 66)).cell? ((⟨w1.heap.size,0,none⟩ : Addr).add j) = some y:=by
    intro j y hj
    have hplain : (⟨w1.heap.size,0,none⟩ : Addr).add j = ⟨w1.heap.size,j,none⟩:=by unfold Addr.add; split <;> simp_all
    rw [hplain,cell_at b1]
    match j,hj with
    | 0,hj | 1,hj => exact hj
    | j + 2,hj => simp [dcel] at hj
   have hone : ∀ u ∈ dcel (x.1,(ua,x.2.1.2.1,uc),x.2.2),u.oneCell' = true:=fun u hu => dcel_one [(x.1,(ua,x.2.1.2.1,uc),x.2.2)] u (by simpa using hu)
   have HROW:=hid hrow
   have HN:=hid (And.intro hnews hone)
   have HCP:=hid hcp
   have HB2:=hid hB2
   have HB1:=hid B1
   have hlen:=HC.out.len
   clear hrow hnews hone hcp hcb hB2 B1 b1 e0 e1
   go_wp2_with (first
    | (at_builtin; refine wpList_append_own _ rfl (.tmp 11) (.tmp 17) 26 rfl w.heap.size 66 i0 _ 2 32 Tryz.underlying26 HI.out hz0 hz1 hz2 rfl (by decide) _ k _ rfl HROW.out ⟨w1.heap.size,0,none⟩ 1 1 (dcel (x.1,(ua,x.2.1.2.1,uc),x.2.2)) rfl rfl HN.out.1 HN.out.2 (by unfold maxLen; omega) (by omega) hsz2 ?_; intro v' w2 hown hg _; have HO:=hid hown; have HK:=hid (Kept.of_grown hg); clear hown hg))
   have hkb:=HK.out
   have hrw:=HROW.out
   have hnewk : ∀ b,some b = (Value.slice va k vc).ownBlock → b < (w1.alloc (.cells #[.int .i64 x.1,.slice ua x.2.1.2.1 uc] 66)).heap.size → ∃ cur t,(w1.alloc (.cells #[.int .i64 x.1,.slice ua x.2.1.2.1 uc] 66)).heap[b]? = some (.cells cur t) ∧ t ≠ 5:=fun b hb _ => by
    obtain ⟨_,_,cur,hc⟩:=own_ty hrw hb.symm
    exact ⟨cur,66,hc,by decide⟩
   have hcf : CD w fs (k + 1) v' (ys ++ [(x.1,(ua,x.2.1.2.1,uc),x.2.2)]) w2:=by
    refine ⟨by simp [hlen],?_,fun y hy => ?_,fun j x' y' hj hy => ?_,?_⟩
    ·rw [List.flatMap_append,List.flatMap_singleton]
     exact HO.out
    ·rcases List.mem_append.1 hy with hy | hy
     ·exact ((HC.out.fn y hy).kept (kept_of HB2.out) (fun k (hx : False) _ => hx.elim)).kept hkb hnewk
     ·obtain rfl:=List.mem_singleton.1 hy
      have h0 : DaL w1 w.heap.size (x.1,(ua,x.2.1.2.1,uc),x.2.2):=own_low HCP.out HC.out.bel.size
      exact (h0.kept (kept_of HB1.out) (fun k (hx : False) _ => hx.elim)).kept hkb hnewk
    ·by_cases hjk : j < k
     ·rw [List.getElem?_append_left (by omega)] at hy
      exact HC.out.same j x' y' hj hy
     ·have hjk' : j = k:=by
       have:=lt_of_get hy
       simp [hlen] at this; omega
      subst hjk'
      rw [List.getElem?_append_right (by omega)] at hy
      simp [hlen] at hy
      subst hy
      have e:=HXK.out
      rw [hj] at e
      obtain rfl:=Option.some.inj e
      exact ⟨rfl,rfl,rfl⟩
    ·have h1 : Below w.heap.size w (w1.alloc (.cells #[.int .i64 x.1,.slice ua x.2.1.2.1 uc] 66)):=HC.out.bel.trans (HB2.out.mono HC.out.bel.size)
     exact h1.trans (hkb.to_below (B:=w.heap.size) h1.size (fun b hb hx => by have:=(own_ty hrw hx.symm).1; omega))
   exact ⟨⟨k + 1,_,by omega,by go_num,hid hcf⟩,by simp [intOf]; omega⟩
  ·obtain rfl : k = fn:=by omega
   have hlt' : ¬ (k : Int) < (k : Int):=by omega
   go_wp2_with fail
   go_ret
   exact ⟨_,rfl,ys,HC.out⟩
end Go.Proofs.YtepnnenohjfkbaaGreatDoor

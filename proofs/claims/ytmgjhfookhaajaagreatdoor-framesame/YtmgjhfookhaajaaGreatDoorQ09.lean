/-
  Texts Fi Fj Fk.
-/
import Derived.Test.YtmgjhfookhaajaaGreatDoorQ08
set_option linter.unusedVariables false
set_option maxRecDepth 100000
set_option maxHeartbeats 16000000
namespace Go.Proofs.YtmgjhfookhaajaaGreatDoor
open Go.RowKit
abbrev zFr : Obj:=.cells #[.int .i64 0,.int .i64 0,.slice none 0 0,.slice none 0 0] 40
theorem cpf40 (x : FrM) (w : World) (h : SF1 w x) (h1 : x.2.2.1.1.2.1 ≤ 2147483647) (h2 : x.2.2.2.1.2.1 ≤ 2147483647) :
  Calls Tryz.prog 40 #[frV x] w fun e w' => ∃ ua uc va vc,e = .returned (.agg #[.int .i64 x.1,.int .i64 x.2.1,.slice ua x.2.2.1.1.2.1 uc,.slice va x.2.2.2.1.2.1 vc]) ∧ LW w' w.heap.size (ua,x.2.2.1.1.2.1,uc) x.2.2.1.2 ∧ LW w' w.heap.size (va,x.2.2.2.1.2.1,vc) x.2.2.2.2 ∧ Below w.heap.size w w':=by
 have H1:=hid (fun (W : World) (hb : Below w.heap.size w W) => copy32 x.2.2.1.1.1 x.2.2.1.1.2.1 x.2.2.1.1.2.2 (x.2.2.1.2.map (.int .u64)) W (h.1.later hb).fl (by rw [List.length_map,h.1.1]; omega) (one_int _ _) h1)
 have H2:=hid (fun (W : World) (hb : Below w.heap.size w W) => copy32 x.2.2.2.1.1 x.2.2.2.1.2.1 x.2.2.2.1.2.2 (x.2.2.2.2.map (.int .u64)) W (h.2.later hb).fl (by rw [List.length_map,h.2.1]; omega) (one_int _ _) h2)
 obtain ⟨f,p,⟨⟨la,ln,lc⟩,ll⟩,⟨⟨sa,sn,sc⟩,sl⟩⟩:=x
 clear h h1 h2
 dsimp only at *
 have B1:=below_new w (frO f p la ln lc sa sn sc)
 have B2:=below_new (w.alloc (frO f p la ln lc sa sn sc)) zFr
 have B0:=hid (B1.trans (B2.mono B1.size))
 have kb:=nb_later B2 (nb_new w (frO f p la ln lc sa sn sc))
 have kr : ((w.alloc (frO f p la ln lc sa sn sc)).alloc zFr).heap[w.heap.size + 1]? = some zFr:=nb_at (by simp)
 have g2 : ((w.alloc (frO f p la ln lc sa sn sc)).alloc zFr).cell? ⟨w.heap.size,2,none⟩ = some (.slice la ln lc):=cell_at kb
 have KB:=hid kb
 have KR:=hid kr
 clear B1 B2 kb kr
 go_enter Tryz.func40,Tryz.ntmps40
 go_wp2_with fail
 refine (H1.out _ B0.out).mono ?_
 rintro e w5 ⟨ua,uc,rfl,ho5,hb5⟩
 have kb5:=nb_later hb5 KB.out
 have kr5:=nb_later hb5 KR.out
 have B5:=hid (B0.out.trans (hb5.mono B0.out.size))
 have O5:=hid (own_far (o:=2) (u:=.slice ua ln uc) (own_low ho5 B0.out.size) kb5 (by decide))
 have s2 : w5.cell? ⟨w.heap.size,2,none⟩ = some (.slice la ln lc):=cell_at kb5
 have z2 : w5.frozen? ⟨w.heap.size,2,none⟩ = false:=free_at kb5
 have kb6 : (w5.setCell ⟨w.heap.size,2,none⟩ (.slice ua ln uc)).heap[w.heap.size]? = some (frO f p ua ln uc sa sn sc):=setBlk (i:=2) (u:=.slice ua ln uc) kb5
 have kr6 : (w5.setCell ⟨w.heap.size,2,none⟩ (.slice ua ln uc)).heap[w.heap.size + 1]? = some zFr:=nb_far kr5 (by omega)
 have B6:=hid (below_pt (j:=2) (u:=.slice ua ln uc) B5.out (Nat.le_refl w.heap.size) (nb_lt kb5))
 have g3 : (w5.setCell ⟨w.heap.size,2,none⟩ (.slice ua ln uc)).cell? ⟨w.heap.size,3,none⟩ = some (.slice sa sn sc):=cell_at kb6
 have KB6:=hid kb6
 have KR6:=hid kr6
 clear hb5 ho5 kb5 kr5 kb6 kr6 KB KR g2
 go_wp2_with fail
 refine (H2.out _ B6.out).mono ?_
 rintro e w7 ⟨va,vc,rfl,ho7,hb7⟩
 have kb7:=nb_later hb7 KB6.out
 have kr7:=nb_later hb7 KR6.out
 have B7:=hid (B6.out.trans (hb7.mono B6.out.size))
 have O7:=hid (own_far (o:=3) (u:=.slice va sn vc) (own_lat O5.out hb7) kb7 (by decide))
 have N7:=hid (own_far (o:=3) (u:=.slice va sn vc) (own_low ho7 B6.out.size) kb7 (by decide))
 have s3 : w7.cell? ⟨w.heap.size,3,none⟩ = some (.slice sa sn sc):=cell_at kb7
 have z3 : w7.frozen? ⟨w.heap.size,3,none⟩ = false:=free_at kb7
 have kb8 : (w7.setCell ⟨w.heap.size,3,none⟩ (.slice va sn vc)).heap[w.heap.size]? = some (frO f p ua ln uc va sn vc):=setBlk (i:=3) (u:=.slice va sn vc) kb7
 have kr8 : (w7.setCell ⟨w.heap.size,3,none⟩ (.slice va sn vc)).heap[w.heap.size + 1]? = some zFr:=nb_far kr7 (by omega)
 have B8:=hid (below_pt (j:=3) (u:=.slice va sn vc) B7.out (Nat.le_refl w.heap.size) (nb_lt kb7))
 clear hb7 ho7 kb7 kr7 KB6 KR6 g3 s2 z2
 have c0 : (w7.setCell ⟨w.heap.size,3,none⟩ (.slice va sn vc)).cell? ⟨w.heap.size,0,none⟩ = some (.int .i64 f):=cell_at kb8
 have c1 : (w7.setCell ⟨w.heap.size,3,none⟩ (.slice va sn vc)).cell? ⟨w.heap.size,1,none⟩ = some (.int .i64 p):=cell_at kb8
 have c2 : (w7.setCell ⟨w.heap.size,3,none⟩ (.slice va sn vc)).cell? ⟨w.heap.size,2,none⟩ = some (.slice ua ln uc):=cell_at kb8
 have c3 : (w7.setCell ⟨w.heap.size,3,none⟩ (.slice va sn vc)).cell? ⟨w.heap.size,3,none⟩ = some (.slice va sn vc):=cell_at kb8
 have d0 : (w7.setCell ⟨w.heap.size,3,none⟩ (.slice va sn vc)).cell? ⟨w.heap.size + 1,0,none⟩ = some (.int .i64 0):=cell_at kr8
 have f0 : (w7.setCell ⟨w.heap.size,3,none⟩ (.slice va sn vc)).frozen? ⟨w.heap.size + 1,0,none⟩ = false:=free_at kr8
 have d1 : (w7.setCell ⟨w.heap.size,3,none⟩ (.slice va sn vc)).cell? ⟨w.heap.size + 1,1,none⟩ = some (.int .i64 0):=cell_at kr8
 have f1 : (w7.setCell ⟨w.heap.size,3,none⟩ (.slice va sn vc)).frozen? ⟨w.heap.size + 1,1,none⟩ = false:=free_at kr8
 have d2 : (w7.setCell ⟨w.heap.size,3,none⟩ (.slice va sn vc)).cell? ⟨w.heap.size + 1,2,none⟩ = some (.slice none 0 0):=cell_at kr8
 have f2 : (w7.setCell ⟨w.heap.size,3,none⟩ (.slice va sn vc)).frozen? ⟨w.heap.size + 1,2,none⟩ = false:=free_at kr8
 have d3 : (w7.setCell ⟨w.heap.size,3,none⟩ (.slice va sn vc)).cell? ⟨w.heap.size + 1,3,none⟩ = some (.slice none 0 0):=cell_at kr8
 have f3 : (w7.setCell ⟨w.heap.size,3,none⟩ (.slice va sn vc)).frozen? ⟨w.heap.size + 1,3,none⟩ = false:=free_at kr8
 have hfin:=setBlk (i:=3) (u:=.slice va sn vc) (setBlk (i:=2) (u:=.slice ua ln uc) (setBlk (i:=1) (u:=.int .i64 p) (setBlk (i:=0) (u:=.int .i64 f) kr8)))
 have HK:=hid ((((kept_set (w7.setCell ⟨w.heap.size,3,none⟩ (.slice va sn vc)) (w.heap.size + 1) 0 (.int .i64 f)).trans (kept_set _ (w.heap.size + 1) 1 (.int .i64 p))).trans (kept_set _ (w.heap.size + 1) 2 (.slice ua ln uc))).trans (kept_set _ (w.heap.size + 1) 3 (.slice va sn vc)))
 have KR8:=hid kr8
 clear kb8 kr8
 go_wp2_with fail
 have key : ∀ {n : Nat} {v : Value} {xs : List Value},(w7.setCell ⟨w.heap.size,3,none⟩ (.slice va sn vc)).ownsRow w.heap.size 43 1 v n xs → ∀ c,v.ownBlock = some c → ¬ c = w.heap.size + 1:=fun hr c hc e => by
  obtain ⟨_,_,cur2,h2⟩:=own_ty hr hc
  subst e
  rw [KR8.out] at h2
  simp at h2
 exact bodyPost_ret (v:=.agg #[.int .i64 f,.int .i64 p,.slice ua ln uc,.slice va sn vc]) (results_cell_row rfl _ _ (w.heap.size + 1) 40 _ (0,0) _ rfl hfin Tryz.underlying40 rfl (by kernel_rfl)) rfl
  ⟨ua,uc,va,vc,rfl,own_keepB O7.out HK.out (key O7.out),own_keepB N7.out HK.out (key N7.out),B8.out.trans (HK.out.to_below B8.out.size (fun k _ e => by have e : k = w.heap.size + 1:=e; omega))⟩
structure CFr (w : World) (fs : List FrM) (k : Nat) (v : Value) (ys : List FrM) (wr : World) : Prop where
 len : ys.length = k
 row : wr.ownsRow w.heap.size 40 4 v k (ys.flatMap frC)
 own : ∀ y ∈ ys,LW wr w.heap.size y.2.2.1.1 y.2.2.1.2 ∧ LW wr w.heap.size y.2.2.2.1 y.2.2.2.2
 same : ∀ (j : Nat) x y,fs[j]? = some x → ys[j]? = some y → SmF x y
 bel : Below w.heap.size w wr
structure CPg (w : World) (fs : List PgM) (k : Nat) (v : Value) (ys : List PgM) (wr : World) : Prop where
 len : ys.length = k
 row : wr.ownsRow w.heap.size 44 1 v k (ys.flatMap pgC)
 own : ∀ y ∈ ys,LB wr w.heap.size y.1 y.2
 same : ∀ (j : Nat) x y,fs[j]? = some x → ys[j]? = some y → SmP x y
 bel : Below w.heap.size w wr
theorem own_grow {W w2 : World} {base e k n e2 k2 n2 : Nat} {v v2 : Value} {xs xs2 : List Value} (h : W.ownsRow base e k v n xs) (hr : W.ownsRow base e2 k2 v2 n2 xs2) (hk : Kept (fun b => some b = v2.ownBlock) W w2) (ht : e ≠ e2) : w2.ownsRow base e k v n xs :=
 own_keepB h hk (fun b hb hx => by
  obtain ⟨_,_,c1,q1⟩:=own_ty h hb
  obtain ⟨_,_,c2,q2⟩:=own_ty hr hx.symm
  rw [q1] at q2
  simp at q2
  exact ht q2.2)
theorem cps31 (fa : Option Addr) (fn fc : Nat) (fs : List FrM) (w : World) (hf : SFr w fa fn fs) (hn : fn ≤ 2147483647) (hx : ∀ x ∈ fs,x.2.2.1.1.2.1 ≤ 2147483647 ∧ x.2.2.2.1.2.1 ≤ 2147483647) :
  Calls Tryz.prog 31 #[.slice fa fn fc] w fun e w' => ∃ va vc ys,e = .returned (.slice va fn vc) ∧ CFr w fs fn (.slice va fn vc) ys w':=by
 have hfl:=hf.len
 have HF:=hid hf
 have HX:=hid hx
 obtain ⟨i0,hi,hz0,hz1,hz2⟩:=info_parts Tryz.inf20
 have HI:=hid hi
 clear hf hx hi
 go_enter Tryz.func31,Tryz.ntmps31
 go_wp2_with fail
 go_loopw [3,4] (fun v i wr => ∃ (k : Nat) (ys : List FrM),k ≤ fn ∧ i = .int .i64 k ∧ Hid (CFr w fs k v ys wr)) (fun _ i _ => fn - (intOf i).toNat)
 case atStart => exact ⟨0,[],by omega,rfl,hid ⟨rfl,World.ownsRow_nil _ _ _ _,(fun y hy => by cases hy),(fun j x y hj hy => by simp at hy),Below.refl _ _⟩⟩
 case round =>
  obtain ⟨k,ys,hk,rfl,HC⟩:=hrel
  obtain ⟨va,vc,rfl⟩:=own_sl HC.out.row
  by_cases hlt : k < fn
  ·obtain ⟨x,hxk⟩ : ∃ x,fs[k]? = some x:=⟨_,List.getElem?_eq_getElem (by omega)⟩
   obtain ⟨b,off,rfl,hat⟩:=HF.out.at_.resolve_left (by omega)
   obtain ⟨e0,e1,e2,e3⟩:=hat k x hxk
   have e0:=later_cell HC.out.bel e0
   have e1:=later_cell HC.out.bel e1
   have e2:=later_cell HC.out.bel e2
   have e3:=later_cell HC.out.bel e3
   have mx:=List.mem_of_getElem? hxk
   have H1:=hid (cpf40 x wr (show SF1 wr x from ⟨(HF.out.in_ x mx).1.later HC.out.bel,(HF.out.in_ x mx).2.later HC.out.bel⟩) (HX.out x mx).1 (HX.out x mx).2)
   have hlt' : (k : Int) < (fn : Int):=by omega
   have HXK:=hid hxk
   clear hat hxk mx
   go_wp2_with fail
   refine H1.out.mono ?_
   rintro e w1 ⟨ua,uc,va2,vc2,rfl,ho1,ho2,hbel⟩
   have B1:=below_new w1 (frO x.1 x.2.1 ua x.2.2.1.1.2.1 uc va2 x.2.2.2.1.2.1 vc2)
   have b1:=nb_new w1 (frO x.1 x.2.1 ua x.2.2.1.1.2.1 uc va2 x.2.2.2.1.2.1 vc2)
   have hB2 : Below wr.heap.size wr (w1.alloc (frO x.1 x.2.1 ua x.2.2.1.1.2.1 uc va2 x.2.2.2.1.2.1 vc2)):=hbel.trans (B1.mono hbel.size)
   have hrow:=own_keepB HC.out.row (kept_of (S:=fun _ => False) hB2) (fun _ _ x => x)
   have hsz2 : w.heap.size ≤ (w1.alloc (frO x.1 x.2.1 ua x.2.2.1.1.2.1 uc va2 x.2.2.2.1.2.1 vc2)).heap.size:=Nat.le_trans HC.out.bel.size hB2.size
   have hnews : ∀ (j : Nat) (y : Value),(frC (x.1,x.2.1,((ua,x.2.2.1.1.2.1,uc),x.2.2.1.2),((va2,x.2.2.2.1.2.1,vc2),x.2.2.2.2)))[j]? = some y → (w1.alloc (frO x.1 x.2.1 ua x.2.2.1.1.2.1 uc va2 x.2.2.2.1.2.1 vc2)).cell? ((⟨w1.heap.size,0,none⟩ : Addr).add j) = some y:=by
    intro j y hj
    have hplain : (⟨w1.heap.size,0,none⟩ : Addr).add j = ⟨w1.heap.size,j,none⟩:=by unfold Addr.add; split <;> simp_all
    rw [hplain,cell_at b1]
    match j,hj with
    | 0,hj | 1,hj | 2,hj | 3,hj => exact hj
    | j + 4,hj => simp [frC] at hj
   have hone : ∀ u ∈ frC (x.1,x.2.1,((ua,x.2.2.1.1.2.1,uc),x.2.2.1.2),((va2,x.2.2.2.1.2.1,vc2),x.2.2.2.2)),u.oneCell' = true:=fun u hu => one_fr [(x.1,x.2.1,((ua,x.2.2.1.1.2.1,uc),x.2.2.1.2),((va2,x.2.2.2.1.2.1,vc2),x.2.2.2.2))] u (by simpa using hu)
   have HROW:=hid hrow
   have HN:=hid (And.intro hnews hone)
   have HOW:=hid (And.intro (own_lat (own_low ho1 HC.out.bel.size) B1) (own_lat (own_low ho2 HC.out.bel.size) B1))
   have HB2:=hid hB2
   have hlen:=HC.out.len
   clear hrow hnews hone hB2 B1 b1 hbel ho1 ho2 e0 e1 e2 e3
   go_wp2_with (first
    | (at_builtin; refine wpList_append_own _ rfl (.tmp 11) (.tmp 17) 22 rfl w.heap.size 40 i0 _ 4 64 Tryz.underlying22 HI.out hz0 hz1 hz2 rfl (by decide) _ k _ rfl HROW.out ⟨w1.heap.size,0,none⟩ 1 1 (frC (x.1,x.2.1,((ua,x.2.2.1.1.2.1,uc),x.2.2.1.2),((va2,x.2.2.2.1.2.1,vc2),x.2.2.2.2))) rfl rfl HN.out.1 HN.out.2 (by unfold maxLen; omega) (by omega) hsz2 ?_; intro v' w2 hown hg _; have HO:=hid hown; have HK:=hid (Kept.of_grown hg); clear hown hg))
   have hkb:=HK.out
   have hrw:=HROW.out
   have hcf : CFr w fs (k + 1) v' (ys ++ [(x.1,x.2.1,((ua,x.2.2.1.1.2.1,uc),x.2.2.1.2),((va2,x.2.2.2.1.2.1,vc2),x.2.2.2.2))]) w2:=by
    refine ⟨by simp [hlen],?_,fun y hy => ?_,fun j x' y' hj hy => ?_,?_⟩
    ·rw [List.flatMap_append,List.flatMap_singleton]
     exact HO.out
    ·rcases List.mem_append.1 hy with hy | hy
     ·exact ⟨own_grow (own_lat (HC.out.own y hy).1 HB2.out) hrw hkb (by decide),own_grow (own_lat (HC.out.own y hy).2 HB2.out) hrw hkb (by decide)⟩
     ·obtain rfl:=List.mem_singleton.1 hy
      exact ⟨own_grow HOW.out.1 hrw hkb (by decide),own_grow HOW.out.2 hrw hkb (by decide)⟩
    ·by_cases hjk : j < k
     ·rw [List.getElem?_append_left (by omega)] at hy
      exact HC.out.same j x' y' hj hy
     ·have hjk' : j = k:=by
       have:=lt_of_get hy
       simp [hlen] at this; omega
      subst hjk'
      rw [List.getElem?_append_right (by omega),hlen,Nat.sub_self] at hy
      simp at hy
      subst hy
      rw [HXK.out] at hj
      injection hj with hj
      subst hj
      exact ⟨rfl,rfl,rfl,rfl,rfl,rfl⟩
    ·refine HC.out.bel.trans ?_
     refine (HB2.out.mono HC.out.bel.size).trans (hkb.to_below hsz2 (fun b hb e => ?_))
     have:=(own_ty hrw e.symm).1; omega
   exact ⟨⟨k + 1,_,by omega,by go_num,hid hcf⟩,by simp [intOf]; omega⟩
  ·obtain rfl : k = fn:=by omega
   go_wp2_with fail
   go_ret
   exact ⟨va,vc,ys,rfl,HC.out⟩
theorem cps33 (fa : Option Addr) (fn fc : Nat) (fs : List PgM) (w : World) (hf : SPg w fa fn fs) (hn : fn ≤ 2147483647) (hx : ∀ x ∈ fs,x.1.2.1 ≤ 2147483647) :
  Calls Tryz.prog 33 #[.slice fa fn fc] w fun e w' => ∃ va vc ys,e = .returned (.slice va fn vc) ∧ CPg w fs fn (.slice va fn vc) ys w':=by
 have hfl:=hf.len
 have HF:=hid hf
 have HX:=hid hx
 obtain ⟨i0,hi,hz0,hz1,hz2⟩:=info_parts Tryz.inf19
 have HI:=hid hi
 clear hf hx hi
 go_enter Tryz.func33,Tryz.ntmps33
 go_wp2_with fail
 go_loopw [3,4] (fun v i wr => ∃ (k : Nat) (ys : List PgM),k ≤ fn ∧ i = .int .i64 k ∧ Hid (CPg w fs k v ys wr)) (fun _ i _ => fn - (intOf i).toNat)
 case atStart => exact ⟨0,[],by omega,rfl,hid ⟨rfl,World.ownsRow_nil _ _ _ _,(fun y hy => by cases hy),(fun j x y hj hy => by simp at hy),Below.refl _ _⟩⟩
 case round =>
  obtain ⟨k,ys,hk,rfl,HC⟩:=hrel
  obtain ⟨va,vc,rfl⟩:=own_sl HC.out.row
  by_cases hlt : k < fn
  ·obtain ⟨x,hxk⟩ : ∃ x,fs[k]? = some x:=⟨_,List.getElem?_eq_getElem (by omega)⟩
   obtain ⟨b,off,rfl,hat⟩:=HF.out.at_.resolve_left (by omega)
   have e0:=later_cell HC.out.bel (hat k x hxk)
   have mx:=List.mem_of_getElem? hxk
   have H1:=hid (copy41 x.1.1 x.1.2.1 x.1.2.2 (x.2.map (.int .u8)) wr ((HF.out.in_ x mx).later HC.out.bel).fl (by rw [List.length_map,(HF.out.in_ x mx).1]; omega) (one_int _ _) (HX.out x mx))
   have hlt' : (k : Int) < (fn : Int):=by omega
   have HXK:=hid hxk
   clear hat hxk mx
   go_wp2_with fail
   refine H1.out.mono ?_
   rintro e w1 ⟨ua,uc,rfl,ho1,hbel⟩
   have B1:=below_new w1 (.cells #[.slice ua x.1.2.1 uc] 44)
   have b1:=nb_new w1 (.cells #[.slice ua x.1.2.1 uc] 44)
   have hB2 : Below wr.heap.size wr (w1.alloc (.cells #[.slice ua x.1.2.1 uc] 44)):=hbel.trans (B1.mono hbel.size)
   have hrow:=own_keepB HC.out.row (kept_of (S:=fun _ => False) hB2) (fun _ _ x => x)
   have hsz2 : w.heap.size ≤ (w1.alloc (.cells #[.slice ua x.1.2.1 uc] 44)).heap.size:=Nat.le_trans HC.out.bel.size hB2.size
   have hnews : ∀ (j : Nat) (y : Value),(pgC ((ua,x.1.2.1,uc),x.2))[j]? = some y → (w1.alloc (.cells #[.slice ua x.1.2.1 uc] 44)).cell? ((⟨w1.heap.size,0,none⟩ : Addr).add j) = some y:=by
    intro j y hj
    have hplain : (⟨w1.heap.size,0,none⟩ : Addr).add j = ⟨w1.heap.size,j,none⟩:=by unfold Addr.add; split <;> simp_all
    rw [hplain,cell_at b1]
    match j,hj with
    | 0,hj => exact hj
    | j + 1,hj => simp [pgC] at hj
   have hone : ∀ u ∈ pgC ((ua,x.1.2.1,uc),x.2),u.oneCell' = true:=fun u hu => one_pg [((ua,x.1.2.1,uc),x.2)] u (by simpa using hu)
   have HROW:=hid hrow
   have HN:=hid (And.intro hnews hone)
   have HOW:=hid ((show LB (w1.alloc (.cells #[.slice ua x.1.2.1 uc] 44)) w.heap.size (ua,x.1.2.1,uc) x.2 from own_lat (own_low ho1 HC.out.bel.size) B1))
   have HB2:=hid hB2
   have hlen:=HC.out.len
   clear hrow hnews hone hB2 B1 b1 hbel ho1 e0
   go_wp2_with (first
    | (at_builtin; refine wpList_append_own _ rfl (.tmp 11) (.tmp 17) 24 rfl w.heap.size 44 i0 _ 1 24 Tryz.underlying24 HI.out hz0 hz1 hz2 rfl (by decide) _ k _ rfl HROW.out ⟨w1.heap.size,0,none⟩ 1 1 (pgC ((ua,x.1.2.1,uc),x.2)) rfl rfl HN.out.1 HN.out.2 (by unfold maxLen; omega) (by omega) hsz2 ?_; intro v' w2 hown hg _; have HO:=hid hown; have HK:=hid (Kept.of_grown hg); clear hown hg))
   have hkb:=HK.out
   have hrw:=HROW.out
   have hcf : CPg w fs (k + 1) v' (ys ++ [((ua,x.1.2.1,uc),x.2)]) w2:=by
    refine ⟨by simp [hlen],?_,fun y hy => ?_,fun j x' y' hj hy => ?_,?_⟩
    ·rw [List.flatMap_append,List.flatMap_singleton]
     exact HO.out
    ·rcases List.mem_append.1 hy with hy | hy
     ·exact own_grow (own_lat (HC.out.own y hy) HB2.out) hrw hkb (by decide)
     ·obtain rfl:=List.mem_singleton.1 hy
      exact own_grow HOW.out hrw hkb (by decide)
    ·by_cases hjk : j < k
     ·rw [List.getElem?_append_left (by omega)] at hy
      exact HC.out.same j x' y' hj hy
     ·have hjk' : j = k:=by
       have:=lt_of_get hy
       simp [hlen] at this; omega
      subst hjk'
      rw [List.getElem?_append_right (by omega),hlen,Nat.sub_self] at hy
      simp at hy
      subst hy
      rw [HXK.out] at hj
      injection hj with hj
      subst hj
      exact ⟨rfl,rfl⟩
    ·refine HC.out.bel.trans ?_
     refine (HB2.out.mono HC.out.bel.size).trans (hkb.to_below hsz2 (fun b hb e => ?_))
     have:=(own_ty hrw e.symm).1; omega
   exact ⟨⟨k + 1,_,by omega,by go_num,hid hcf⟩,by simp [intOf]; omega⟩
  ·obtain rfl : k = fn:=by omega
   go_wp2_with fail
   go_ret
   exact ⟨va,vc,ys,rfl,HC.out⟩
def Pres (W W' : World) : Prop:=∀ (base e k n : Nat) (v : Value) (xs : List Value),e ≠ 27 → W.ownsRow base e k v n xs → W'.ownsRow base e k v n xs
theorem Pres.of_below {W W' : World} (hb : Below W.heap.size W W') : Pres W W':=fun _ _ _ _ _ _ _ h => own_lat h hb
theorem Pres.of_put {W : World} {b o : Nat} {u : Value} {cur : Array Value} (hb : W.heap[b]? = some (.cells cur 27)) : Pres W (W.setCell ⟨b,o,none⟩ u):=fun _ _ _ _ _ _ he h => own_far h hb (fun e => he e.symm)
theorem Pres.of_kept {W W' : World} {b : Nat} {cur : Array Value} (hk : Kept (fun k => k = b) W W') (hb : W.heap[b]? = some (.cells cur 27)) : Pres W W':=fun _ _ _ _ _ _ he h =>
 own_keepB h hk (fun c hc e => by
  obtain ⟨_,_,cur2,h2⟩:=own_ty h hc
  have e : c = b:=e
  subst e
  rw [hb] at h2
  simp at h2
  exact he h2.2.symm)
theorem Pres.trans {W W1 W2 : World} (h : Pres W W1) (h2 : Pres W1 W2) : Pres W W2:=fun _ _ _ _ _ _ he hr => h2 _ _ _ _ _ _ he (h _ _ _ _ _ _ he hr)
structure FrP (w : World) (base : Nat) (va : Option Addr) (n vc : Nat) (ys : List FrM) : Prop where
 row : w.ownsRow base 40 4 (.slice va n vc) n (ys.flatMap frC)
 own : ∀ y ∈ ys,LW w base y.2.2.1.1 y.2.2.1.2 ∧ LW w base y.2.2.2.1 y.2.2.2.2
structure PgP (w : World) (base : Nat) (va : Option Addr) (n vc : Nat) (ys : List PgM) : Prop where
 row : w.ownsRow base 44 1 (.slice va n vc) n (ys.flatMap pgC)
 own : ∀ y ∈ ys,LB w base y.1 y.2
theorem FrP.pres {w w' : World} {base : Nat} {va : Option Addr} {n vc : Nat} {ys : List FrM} (h : FrP w base va n vc ys) (p : Pres w w') : FrP w' base va n vc ys:=⟨p _ _ _ _ _ _ (by decide) h.row,fun y hy => ⟨p _ _ _ _ _ _ (by decide) (h.own y hy).1,p _ _ _ _ _ _ (by decide) (h.own y hy).2⟩⟩
theorem PgP.pres {w w' : World} {base : Nat} {va : Option Addr} {n vc : Nat} {ys : List PgM} (h : PgP w base va n vc ys) (p : Pres w w') : PgP w' base va n vc ys:=⟨p _ _ _ _ _ _ (by decide) h.row,fun y hy => p _ _ _ _ _ _ (by decide) (h.own y hy)⟩
theorem LW.pres {w w' : World} {base : Nat} {h : Option Addr × Nat × Nat} {l : List Int} (hr : LW w base h l) (p : Pres w w') : LW w' base h l:=p _ _ _ _ _ _ (by decide) hr
theorem FrP.low {w : World} {base base' : Nat} {va : Option Addr} {n vc : Nat} {ys : List FrM} (h : FrP w base va n vc ys) (hb : base' ≤ base) : FrP w base' va n vc ys:=⟨own_low h.row hb,fun y hy => ⟨own_low (h.own y hy).1 hb,own_low (h.own y hy).2 hb⟩⟩
theorem PgP.low {w : World} {base base' : Nat} {va : Option Addr} {n vc : Nat} {ys : List PgM} (h : PgP w base va n vc ys) (hb : base' ≤ base) : PgP w base' va n vc ys:=⟨own_low h.row hb,fun y hy => own_low (h.own y hy) hb⟩
theorem cst10 (s : StM) (w : World) (h : SSt w s) (hs : SC s) :
  Calls Tryz.prog 10 #[.agg (stAr s)] w fun e w' => ∃ t,e = .returned (.agg (stAr t)) ∧ CSt w' w.heap.size t ∧ Same s t ∧ Below w.heap.size w w':=by
 have H0:=hid (fun (W : World) (hb : Below w.heap.size w W) => cps31 s.fa s.fn s.fc s.fs W (h.fr.later hb) hs.f hs.fb)
 have H1:=hid (fun (W : World) (hb : Below w.heap.size w W) => copy32 s.ga s.gn s.gc (s.gs.map (.int .u64)) W (h.gl.later hb).fl (by rw [List.length_map,h.gl.1]; omega) (one_int _ _) hs.g)
 have H2:=hid (fun (W : World) (hb : Below w.heap.size w W) => cps33 s.pa s.pn s.pc s.ps W (h.pg.later hb) hs.p hs.pb)
 have H3:=hid (fun (W : World) (hb : Below w.heap.size w W) => copy32 s.ra s.rn s.rc (s.rs.map (.int .u64)) W (h.rs.later hb).fl (by rw [List.length_map,h.rs.1]; omega) (one_int _ _) hs.r)
 clear h hs
 have B1:=below_new w (.cells (stAr s) 27)
 have B2:=below_new (w.alloc (.cells (stAr s) 27)) zSt
 have Bc:=hid (B1.trans (B2.mono B1.size))
 have KB:=hid (nb_later B2 (nb_new w (.cells (stAr s) 27)))
 have KR:=hid (show ((w.alloc (.cells (stAr s) 27)).alloc zSt).heap[w.heap.size + 1]? = some zSt from nb_at (by simp))
 have g0 : ((w.alloc (.cells (stAr s) 27)).alloc zSt).cell? ⟨w.heap.size,0,none⟩ = some (.slice s.fa s.fn s.fc):=cell_at KB.out
 clear B1 B2
 go_enter Tryz.func10,Tryz.ntmps10
 go_wp2_with fail
 refine (H0.out _ Bc.out).mono ?_
 rintro e w5 ⟨fa2,fc2,fy,rfl,hC⟩
 have hb:=hC.bel
 have RF:=hid (FrP.low (⟨hC.row,hC.own⟩ : FrP w5 _ fa2 s.fn fc2 fy) Bc.out.size)
 have SF:=hid (And.intro hC.len hC.same)
 clear hC
 have kb:=nb_later hb KB.out
 have kr:=nb_later hb KR.out
 have s0 : w5.cell? ⟨w.heap.size,0,none⟩ = some (.slice s.fa s.fn s.fc):=cell_at kb
 have z0 : w5.frozen? ⟨w.heap.size,0,none⟩ = false:=free_at kb
 have Bd:=hid (Bc.out.trans (hb.mono Bc.out.size))
 have Be:=hid (below_pt (j:=0) (u:=.slice fa2 s.fn fc2) Bd.out (Nat.le_refl w.heap.size) (nb_lt kb))
 replace RF:=hid (RF.out.pres (Pres.of_put (o:=0) (u:=.slice fa2 s.fn fc2) kb))
 replace KB:=hid (show (w5.setCell ⟨w.heap.size,0,none⟩ (.slice fa2 s.fn fc2)).heap[w.heap.size]? = some (.cells #[.slice fa2 s.fn fc2,.slice s.ga s.gn s.gc,.slice s.pa s.pn s.pc,.int .i64 s.rep,.int .i8 s.en,.slice s.ra s.rn s.rc,.int .i8 s.tr,.int .i64 s.us] 27) from setBlk (i:=0) (u:=.slice fa2 s.fn fc2) kb)
 replace KR:=hid (show (w5.setCell ⟨w.heap.size,0,none⟩ (.slice fa2 s.fn fc2)).heap[w.heap.size + 1]? = some zSt from nb_far kr (by omega))
 replace Bc:=Be
 clear hb kb kr Bd Be
 have g1 : (w5.setCell ⟨w.heap.size,0,none⟩ (.slice fa2 s.fn fc2)).cell? ⟨w.heap.size,1,none⟩ = some (.slice s.ga s.gn s.gc):=cell_at KB.out
 go_wp2_with fail
 refine (H1.out _ Bc.out).mono ?_
 rintro e w6 ⟨ga2,gc2,rfl,ho,hb⟩
 have RG:=hid (show LW w6 w.heap.size (ga2,s.gn,gc2) s.gs from own_low ho Bc.out.size)
 clear ho
 replace RF:=hid (RF.out.pres (Pres.of_below hb))
 have kb:=nb_later hb KB.out
 have kr:=nb_later hb KR.out
 have s1 : w6.cell? ⟨w.heap.size,1,none⟩ = some (.slice s.ga s.gn s.gc):=cell_at kb
 have z1 : w6.frozen? ⟨w.heap.size,1,none⟩ = false:=free_at kb
 have Bd:=hid (Bc.out.trans (hb.mono Bc.out.size))
 have Be:=hid (below_pt (j:=1) (u:=.slice ga2 s.gn gc2) Bd.out (Nat.le_refl w.heap.size) (nb_lt kb))
 replace RF:=hid (RF.out.pres (Pres.of_put (o:=1) (u:=.slice ga2 s.gn gc2) kb))
 replace RG:=hid (RG.out.pres (Pres.of_put (o:=1) (u:=.slice ga2 s.gn gc2) kb))
 replace KB:=hid (show (w6.setCell ⟨w.heap.size,1,none⟩ (.slice ga2 s.gn gc2)).heap[w.heap.size]? = some (.cells #[.slice fa2 s.fn fc2,.slice ga2 s.gn gc2,.slice s.pa s.pn s.pc,.int .i64 s.rep,.int .i8 s.en,.slice s.ra s.rn s.rc,.int .i8 s.tr,.int .i64 s.us] 27) from setBlk (i:=1) (u:=.slice ga2 s.gn gc2) kb)
 replace KR:=hid (show (w6.setCell ⟨w.heap.size,1,none⟩ (.slice ga2 s.gn gc2)).heap[w.heap.size + 1]? = some zSt from nb_far kr (by omega))
 replace Bc:=Be
 clear hb kb kr Bd Be
 have g2 : (w6.setCell ⟨w.heap.size,1,none⟩ (.slice ga2 s.gn gc2)).cell? ⟨w.heap.size,2,none⟩ = some (.slice s.pa s.pn s.pc):=cell_at KB.out
 go_wp2_with fail
 refine (H2.out _ Bc.out).mono ?_
 rintro e w7 ⟨pa2,pc2,py,rfl,hC⟩
 have hb:=hC.bel
 have RP:=hid (PgP.low (⟨hC.row,hC.own⟩ : PgP w7 _ pa2 s.pn pc2 py) Bc.out.size)
 have SP:=hid (And.intro hC.len hC.same)
 clear hC
 replace RF:=hid (RF.out.pres (Pres.of_below hb))
 replace RG:=hid (RG.out.pres (Pres.of_below hb))
 have kb:=nb_later hb KB.out
 have kr:=nb_later hb KR.out
 have s2 : w7.cell? ⟨w.heap.size,2,none⟩ = some (.slice s.pa s.pn s.pc):=cell_at kb
 have z2 : w7.frozen? ⟨w.heap.size,2,none⟩ = false:=free_at kb
 have Bd:=hid (Bc.out.trans (hb.mono Bc.out.size))
 have Be:=hid (below_pt (j:=2) (u:=.slice pa2 s.pn pc2) Bd.out (Nat.le_refl w.heap.size) (nb_lt kb))
 replace RF:=hid (RF.out.pres (Pres.of_put (o:=2) (u:=.slice pa2 s.pn pc2) kb))
 replace RG:=hid (RG.out.pres (Pres.of_put (o:=2) (u:=.slice pa2 s.pn pc2) kb))
 replace RP:=hid (RP.out.pres (Pres.of_put (o:=2) (u:=.slice pa2 s.pn pc2) kb))
 replace KB:=hid (show (w7.setCell ⟨w.heap.size,2,none⟩ (.slice pa2 s.pn pc2)).heap[w.heap.size]? = some (.cells #[.slice fa2 s.fn fc2,.slice ga2 s.gn gc2,.slice pa2 s.pn pc2,.int .i64 s.rep,.int .i8 s.en,.slice s.ra s.rn s.rc,.int .i8 s.tr,.int .i64 s.us] 27) from setBlk (i:=2) (u:=.slice pa2 s.pn pc2) kb)
 replace KR:=hid (show (w7.setCell ⟨w.heap.size,2,none⟩ (.slice pa2 s.pn pc2)).heap[w.heap.size + 1]? = some zSt from nb_far kr (by omega))
 replace Bc:=Be
 clear hb kb kr Bd Be
 have g3 : (w7.setCell ⟨w.heap.size,2,none⟩ (.slice pa2 s.pn pc2)).cell? ⟨w.heap.size,5,none⟩ = some (.slice s.ra s.rn s.rc):=cell_at KB.out
 go_wp2_with fail
 refine (H3.out _ Bc.out).mono ?_
 rintro e w8 ⟨ra2,rc2,rfl,ho,hb⟩
 have RR:=hid (show LW w8 w.heap.size (ra2,s.rn,rc2) s.rs from own_low ho Bc.out.size)
 clear ho
 replace RF:=hid (RF.out.pres (Pres.of_below hb))
 replace RG:=hid (RG.out.pres (Pres.of_below hb))
 replace RP:=hid (RP.out.pres (Pres.of_below hb))
 have kb:=nb_later hb KB.out
 have kr:=nb_later hb KR.out
 have s3 : w8.cell? ⟨w.heap.size,5,none⟩ = some (.slice s.ra s.rn s.rc):=cell_at kb
 have z3 : w8.frozen? ⟨w.heap.size,5,none⟩ = false:=free_at kb
 have Bd:=hid (Bc.out.trans (hb.mono Bc.out.size))
 have Be:=hid (below_pt (j:=5) (u:=.slice ra2 s.rn rc2) Bd.out (Nat.le_refl w.heap.size) (nb_lt kb))
 replace RF:=hid (RF.out.pres (Pres.of_put (o:=5) (u:=.slice ra2 s.rn rc2) kb))
 replace RG:=hid (RG.out.pres (Pres.of_put (o:=5) (u:=.slice ra2 s.rn rc2) kb))
 replace RP:=hid (RP.out.pres (Pres.of_put (o:=5) (u:=.slice ra2 s.rn rc2) kb))
 replace RR:=hid (RR.out.pres (Pres.of_put (o:=5) (u:=.slice ra2 s.rn rc2) kb))
 replace KB:=hid (show (w8.setCell ⟨w.heap.size,5,none⟩ (.slice ra2 s.rn rc2)).heap[w.heap.size]? = some (.cells #[.slice fa2 s.fn fc2,.slice ga2 s.gn gc2,.slice pa2 s.pn pc2,.int .i64 s.rep,.int .i8 s.en,.slice ra2 s.rn rc2,.int .i8 s.tr,.int .i64 s.us] 27) from setBlk (i:=5) (u:=.slice ra2 s.rn rc2) kb)
 replace KR:=hid (show (w8.setCell ⟨w.heap.size,5,none⟩ (.slice ra2 s.rn rc2)).heap[w.heap.size + 1]? = some zSt from nb_far kr (by omega))
 replace Bc:=Be
 clear hb kb kr Bd Be
 have c0 : (w8.setCell ⟨w.heap.size,5,none⟩ (.slice ra2 s.rn rc2)).cell? ⟨w.heap.size,0,none⟩ = some (.slice fa2 s.fn fc2):=cell_at KB.out
 have c1 : (w8.setCell ⟨w.heap.size,5,none⟩ (.slice ra2 s.rn rc2)).cell? ⟨w.heap.size,1,none⟩ = some (.slice ga2 s.gn gc2):=cell_at KB.out
 have c2 : (w8.setCell ⟨w.heap.size,5,none⟩ (.slice ra2 s.rn rc2)).cell? ⟨w.heap.size,2,none⟩ = some (.slice pa2 s.pn pc2):=cell_at KB.out
 have c3 : (w8.setCell ⟨w.heap.size,5,none⟩ (.slice ra2 s.rn rc2)).cell? ⟨w.heap.size,3,none⟩ = some (.int .i64 s.rep):=cell_at KB.out
 have c4 : (w8.setCell ⟨w.heap.size,5,none⟩ (.slice ra2 s.rn rc2)).cell? ⟨w.heap.size,4,none⟩ = some (.int .i8 s.en):=cell_at KB.out
 have c5 : (w8.setCell ⟨w.heap.size,5,none⟩ (.slice ra2 s.rn rc2)).cell? ⟨w.heap.size,5,none⟩ = some (.slice ra2 s.rn rc2):=cell_at KB.out
 have c6 : (w8.setCell ⟨w.heap.size,5,none⟩ (.slice ra2 s.rn rc2)).cell? ⟨w.heap.size,6,none⟩ = some (.int .i8 s.tr):=cell_at KB.out
 have c7 : (w8.setCell ⟨w.heap.size,5,none⟩ (.slice ra2 s.rn rc2)).cell? ⟨w.heap.size,7,none⟩ = some (.int .i64 s.us):=cell_at KB.out
 have d0 : (w8.setCell ⟨w.heap.size,5,none⟩ (.slice ra2 s.rn rc2)).cell? ⟨w.heap.size + 1,0,none⟩ = some (.slice none 0 0):=cell_at KR.out
 have f0 : (w8.setCell ⟨w.heap.size,5,none⟩ (.slice ra2 s.rn rc2)).frozen? ⟨w.heap.size + 1,0,none⟩ = false:=free_at KR.out
 have d1 : (w8.setCell ⟨w.heap.size,5,none⟩ (.slice ra2 s.rn rc2)).cell? ⟨w.heap.size + 1,1,none⟩ = some (.slice none 0 0):=cell_at KR.out
 have f1 : (w8.setCell ⟨w.heap.size,5,none⟩ (.slice ra2 s.rn rc2)).frozen? ⟨w.heap.size + 1,1,none⟩ = false:=free_at KR.out
 have d2 : (w8.setCell ⟨w.heap.size,5,none⟩ (.slice ra2 s.rn rc2)).cell? ⟨w.heap.size + 1,2,none⟩ = some (.slice none 0 0):=cell_at KR.out
 have f2 : (w8.setCell ⟨w.heap.size,5,none⟩ (.slice ra2 s.rn rc2)).frozen? ⟨w.heap.size + 1,2,none⟩ = false:=free_at KR.out
 have d3 : (w8.setCell ⟨w.heap.size,5,none⟩ (.slice ra2 s.rn rc2)).cell? ⟨w.heap.size + 1,3,none⟩ = some (.int .i64 0):=cell_at KR.out
 have f3 : (w8.setCell ⟨w.heap.size,5,none⟩ (.slice ra2 s.rn rc2)).frozen? ⟨w.heap.size + 1,3,none⟩ = false:=free_at KR.out
 have d4 : (w8.setCell ⟨w.heap.size,5,none⟩ (.slice ra2 s.rn rc2)).cell? ⟨w.heap.size + 1,4,none⟩ = some (.int .i8 0):=cell_at KR.out
 have f4 : (w8.setCell ⟨w.heap.size,5,none⟩ (.slice ra2 s.rn rc2)).frozen? ⟨w.heap.size + 1,4,none⟩ = false:=free_at KR.out
 have d5 : (w8.setCell ⟨w.heap.size,5,none⟩ (.slice ra2 s.rn rc2)).cell? ⟨w.heap.size + 1,5,none⟩ = some (.slice none 0 0):=cell_at KR.out
 have f5 : (w8.setCell ⟨w.heap.size,5,none⟩ (.slice ra2 s.rn rc2)).frozen? ⟨w.heap.size + 1,5,none⟩ = false:=free_at KR.out
 have d6 : (w8.setCell ⟨w.heap.size,5,none⟩ (.slice ra2 s.rn rc2)).cell? ⟨w.heap.size + 1,6,none⟩ = some (.int .i8 0):=cell_at KR.out
 have f6 : (w8.setCell ⟨w.heap.size,5,none⟩ (.slice ra2 s.rn rc2)).frozen? ⟨w.heap.size + 1,6,none⟩ = false:=free_at KR.out
 have d7 : (w8.setCell ⟨w.heap.size,5,none⟩ (.slice ra2 s.rn rc2)).cell? ⟨w.heap.size + 1,7,none⟩ = some (.int .i64 0):=cell_at KR.out
 have f7 : (w8.setCell ⟨w.heap.size,5,none⟩ (.slice ra2 s.rn rc2)).frozen? ⟨w.heap.size + 1,7,none⟩ = false:=free_at KR.out
 have hfin:=setBlk (i:=7) (u:=.int .i64 s.us) (setBlk (i:=6) (u:=.int .i8 s.tr) (setBlk (i:=5) (u:=.slice ra2 s.rn rc2) (setBlk (i:=4) (u:=.int .i8 s.en) (setBlk (i:=3) (u:=.int .i64 s.rep) (setBlk (i:=2) (u:=.slice pa2 s.pn pc2) (setBlk (i:=1) (u:=.slice ga2 s.gn gc2) (setBlk (i:=0) (u:=.slice fa2 s.fn fc2) KR.out)))))))
 have HK:=hid (kept_out8 (w8.setCell ⟨w.heap.size,5,none⟩ (.slice ra2 s.rn rc2)) (w.heap.size + 1) (.slice fa2 s.fn fc2) (.slice ga2 s.gn gc2) (.slice pa2 s.pn pc2) (.int .i64 s.rep) (.int .i8 s.en) (.slice ra2 s.rn rc2) (.int .i8 s.tr) (.int .i64 s.us))
 have HP:=hid (Pres.of_kept HK.out KR.out)
 go_wp2_with fail
 exact bodyPost_ret (v:=.agg #[.slice fa2 s.fn fc2,.slice ga2 s.gn gc2,.slice pa2 s.pn pc2,.int .i64 s.rep,.int .i8 s.en,.slice ra2 s.rn rc2,.int .i8 s.tr,.int .i64 s.us]) (results_cell_row rfl _ _ (w.heap.size + 1) 27 _ (0,0) _ rfl hfin Tryz.underlying27 rfl (by kernel_rfl)) rfl
  ⟨⟨fa2,s.fn,fc2,fy,ga2,s.gn,gc2,s.gs,pa2,s.pn,pc2,py,s.rep,s.en,ra2,s.rn,rc2,s.rs,s.tr,s.us⟩,rfl,⟨SF.out.1,SP.out.1,(RF.out.pres HP.out).row,(RF.out.pres HP.out).own,(RP.out.pres HP.out).row,(RP.out.pres HP.out).own,RG.out.pres HP.out,RR.out.pres HP.out⟩,⟨rfl,rfl,rfl,rfl,rfl,rfl,rfl,rfl,rfl,rfl,SF.out.2,SP.out.2⟩,Bc.out.trans (HK.out.to_below Bc.out.size (fun k _ e => by have e : k = w.heap.size + 1:=e; omega))⟩
theorem CSt.read {w : World} {base : Nat} {t : StM} (h : CSt w base t) : SSt w t:=by
 have hw : ∀ {hd : Option Addr × Nat × Nat} {l : List Int},LW w base hd l → SI .u64 w hd.1 hd.2.1 l:=fun {hd l} hr => by
  have hlen:=hr.1
  rw [List.length_map,Nat.mul_one] at hlen
  refine ⟨hlen,?_⟩
  rcases hr.2 with ⟨_,h0⟩ | ⟨g,cap,cur,e,_⟩
  ·exact .inl h0
  ·injection e with e1 _ _
   refine .inr ⟨g,0,e1,fun j x hj => ?_⟩
   have hr' : w.ownsRow base 43 1 (.slice (some ⟨g,0,none⟩) hd.2.1 hd.2.2) hd.2.1 (l.map (Value.int .u64)):=by rw [← e1]; exact hr
   have:=World.ownsRow.cellAt hr' j (by have:=lt_of_get hj; omega)
   rw [Nat.zero_add,this,List.getElem?_map,hj]
   rfl
 have hb : ∀ {hd : Option Addr × Nat × Nat} {l : List Int},LB w base hd l → SI .u8 w hd.1 hd.2.1 l:=fun {hd l} hr => by
  have hlen:=hr.1
  rw [List.length_map,Nat.mul_one] at hlen
  refine ⟨hlen,?_⟩
  rcases hr.2 with ⟨_,h0⟩ | ⟨g,cap,cur,e,_⟩
  ·exact .inl h0
  ·injection e with e1 _ _
   refine .inr ⟨g,0,e1,fun j x hj => ?_⟩
   have hr' : w.ownsRow base 5 1 (.slice (some ⟨g,0,none⟩) hd.2.1 hd.2.2) hd.2.1 (l.map (Value.int .u8)):=by rw [← e1]; exact hr
   have:=World.ownsRow.cellAt hr' j (by have:=lt_of_get hj; omega)
   rw [Nat.zero_add,this,List.getElem?_map,hj]
   rfl
 refine ⟨⟨h.flen,?_,fun x hx => ⟨hw (h.fin x hx).1,hw (h.fin x hx).2⟩⟩,hw h.glo,⟨h.plen,?_,fun x hx => hb (h.pin x hx)⟩,hw h.res⟩
 ·obtain ⟨a,c,e,_,_,hc⟩:=own_fm (k:=4) frC (fun _ => rfl) h.frow h.flen
  injection e with e1 _ _
  rcases hc with h0 | ⟨b,off,e2,_,hc⟩
  ·exact .inl h0
  ·refine .inr ⟨b,off,e1.trans e2,fun j x hj => ⟨hc j x hj 0 (by omega),hc j x hj 1 (by omega),hc j x hj 2 (by omega),hc j x hj 3 (by omega)⟩⟩
 ·obtain ⟨a,c,e,_,_,hc⟩:=own_fm (k:=1) pgC (fun _ => rfl) h.prow h.plen
  injection e with e1 _ _
  rcases hc with h0 | ⟨b,off,e2,_,hc⟩
  ·exact .inl h0
  ·refine .inr ⟨b,off,e1.trans e2,fun j x hj => ?_⟩
   have:=hc j x hj 0 (by omega)
   rw [Nat.mul_one,Nat.add_zero] at this
   exact this
theorem iE_rfl (x : Int) : iE x x = true:=by simp [iE]
theorem lI_rfl (l : List Int) : lE iE l l = true:=by rw [lE_int]; simp
theorem Same.alike {s t : StM} (h : Same s t) (hf : t.fs.length = s.fs.length) (hp : t.ps.length = s.ps.length) : stE t s = true:=by
 rw [stE_one,h.rep,h.en,h.tr,h.us,h.gs,h.rs]
 have e1 : lE frE t.fs s.fs = true:=lE_yes hf (fun i y x hy hx => by
  obtain ⟨h0,h1,h2,h3,_⟩:=h.fs i x y hx hy
  unfold frE
  rw [h0,h1,h2,h3,iE_rfl,iE_rfl,lI_rfl,lI_rfl]
  rfl)
 have e2 : lE pgE t.ps s.ps = true:=lE_yes hp (fun i y x hy hx => by
  obtain ⟨h0,_⟩:=h.ps i x y hx hy
  unfold pgE
  rw [h0,lI_rfl])
 rw [e1,e2,iE_rfl,iE_rfl,iE_rfl,iE_rfl,lI_rfl,lI_rfl]
 rfl
def hgt (l : List FrM) : Nat:=(l.map fun x => x.2.2.2.1.2.1).sum
theorem hgt_take {l : List FrM} {k : Nat} {x : FrM} (h : l[k]? = some x) : hgt (l.take (k + 1)) = hgt (l.take k) + x.2.2.2.1.2.1:=by
 unfold hgt
 rw [List.take_add_one,h]
 simp
theorem hgt_le {l : List FrM} (h : ∀ x ∈ l,x.2.2.2.1.2.1 ≤ 2147483647) : hgt l ≤ l.length * 2147483647:=by
 unfold hgt
 induction l with
 | nil => simp
 | cons x l ih =>
  have h1:=h x (by simp)
  have h2:=ih (fun y hy => h y (by simp [hy]))
  simp only [List.map_cons,List.sum_cons,List.length_cons]
  omega
theorem hei9 (s : StM) (w : World) (h : SSt w s) (hs : SC s) :
  Calls Tryz.prog 9 #[.agg (stAr s)] w fun e w' => e = .returned (.int .i64 (hgt s.fs : Nat)) ∧ Below w.heap.size w w':=by
 have HS:=hid h
 have HC:=hid hs
 have hfl:=h.fr.len
 have hfn:=hs.f
 have B0:=below_new w (.cells (stAr s) 27)
 have kb:=nb_new w (.cells (stAr s) 27)
 have g0 : (w.alloc (.cells (stAr s) 27)).cell? ⟨w.heap.size,0,none⟩ = some (.slice s.fa s.fn s.fc):=cell_at kb
 have HB0:=hid B0
 clear h hs B0 kb
 go_enter Tryz.func9,Tryz.ntmps9
 go_wp2_with fail
 go_loopw [3,9] (fun n i wr => ∃ k : Nat,k ≤ s.fn ∧ i = .int .i64 k ∧ n = .int .i64 (hgt (s.fs.take k) : Nat) ∧ Hid (Below w.heap.size w wr)) (fun _ i _ => s.fn - (intOf i).toNat)
 case atStart => exact ⟨0,by omega,rfl,rfl,HB0⟩
 case round =>
  obtain ⟨k,hk,rfl,rfl,HB⟩:=hrel
  clear g0 HB0
  by_cases hlt : k < s.fn
  ·obtain ⟨x,hx⟩ : ∃ x,s.fs[k]? = some x:=⟨_,List.getElem?_eq_getElem (by omega)⟩
   obtain ⟨b,off,hfa,hat⟩:=HS.out.fr.at_.resolve_left (by omega)
   obtain ⟨e0,e1,e2,e3⟩:=hat k x hx
   have e0:=later_cell HB.out e0
   have e1:=later_cell HB.out e1
   have e2:=later_cell HB.out e2
   have e3:=later_cell HB.out e3
   have hlt' : (k : Int) < (s.fn : Int):=by omega
   have hxb:=(HC.out.fb x (List.mem_of_getElem? hx)).2
   have hq : hgt (s.fs.take k) ≤ 4611686018427387904:=by
    have h1:=hgt_le (l:=s.fs.take k) (fun y hy => (HC.out.fb y (List.mem_of_mem_take hy)).2)
    rw [List.length_take] at h1
    have h2 : min k s.fs.length * 2147483647 ≤ 2147483647 * 2147483647:=Nat.mul_le_mul_right _ (by omega)
    omega
   have ht:=hgt_take hx
   have HT:=hid ht
   obtain ⟨fa,hfa'⟩ : ∃ fa,s.fa = fa:=⟨_,rfl⟩
   rw [hfa] at *
   have BN:=hid (HB.out.trans ((below_new wr (frO x.1 x.2.1 x.2.2.1.1.1 x.2.2.1.1.2.1 x.2.2.1.1.2.2 x.2.2.2.1.1 x.2.2.2.1.2.1 x.2.2.2.1.2.2)).mono HB.out.size))
   have kg:=nb_new wr (frO x.1 x.2.1 x.2.2.1.1.1 x.2.2.1.1.2.1 x.2.2.1.1.2.2 x.2.2.2.1.1 x.2.2.2.1.2.1 x.2.2.2.1.2.2)
   have k3 : (wr.alloc (frO x.1 x.2.1 x.2.2.1.1.1 x.2.2.1.1.2.1 x.2.2.1.1.2.2 x.2.2.2.1.1 x.2.2.2.1.2.1 x.2.2.2.1.2.2)).cell? ⟨wr.heap.size,3,none⟩ = some (.slice x.2.2.2.1.1 x.2.2.2.1.2.1 x.2.2.2.1.2.2):=cell_at kg
   clear hat hx kg ht hfa'
   generalize hgt (s.fs.take k) = q at *
   have hw : wrap64 ((q : Int) + (x.2.2.2.1.2.1 : Int)) = ((q + x.2.2.2.1.2.1 : Nat) : Int):=by unfold wrap64; omega
   go_wp2_with fail
   exact ⟨⟨k + 1,by omega,by go_num,by rw [HT.out]; go_num,BN⟩,by simp [intOf]; omega⟩
  ·obtain rfl : k = s.fn:=by omega
   have he : s.fs.take s.fn = s.fs:=List.take_of_length_le (by omega)
   rw [he] at *
   go_wp2_with fail
   go_ret
   exact ⟨rfl,HB.out⟩
end Go.Proofs.YtmgjhfookhaajaaGreatDoor

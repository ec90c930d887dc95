/-
  Texts Fo Fp Fq.
-/
import Derived.Test.YtmgjhfookhaajaaGreatDoorQ00
import Derived.Test.YtmgjhfookhaajaaGreatDoorQ10
import Derived.Test.YtmgjhfookhaajaaGreatDoorQ38
set_option linter.unusedVariables false
set_option maxRecDepth 100000
set_option maxHeartbeats 16000000
namespace Go.Proofs.YtmgjhfookhaajaaGreatDoor
open Go.RowKit
def kM (TB FB : Nat) (ca : Option Addr) (n c : Nat) (co : List InM) : MM :=
 { ta:=some ⟨TB,0,none⟩,tn:=1,tc:=1,types:=[(⟨#[]⟩,⟨#[119]⟩)],ha:=none,hn:=0,hc:=0,hosts:=[],ga:=none,gn:=0,gc:=0,globals:=[],fi:=1,mo:=2,fa:=some ⟨FB,0,none⟩,fn:=1,fc:=1,fns:=[(0,⟨#[]⟩,(ca,n,c),co)],da:=none,dn:=0,dc:=0,data:=[],ea:=none,en:=0,ec:=0,exps:=[] }
def inn (c a : Int) : InM:=(c,a,(none,0,0),[])
def coK : List InM:=[inn 24 5,inn 6 0]
abbrev kTy : Obj:=.cells #[.string ⟨#[]⟩,.string ⟨#[119]⟩] 68
abbrev kFn (CB : Nat) : Obj:=.cells #[.int .i64 0,.string ⟨#[]⟩,.slice (some ⟨CB,0,none⟩) 2 2] 71
abbrev kCd : Obj:=.cells #[.int .u8 24,.int .i64 5,.slice none 0 0,.int .u8 6,.int .i64 0,.slice none 0 0] 86
structure KM (w : World) (TB FB CB : Nat) : Prop where
 t : w.heap[TB]? = some kTy
 f : w.heap[FB]? = some (kFn CB)
 c : w.heap[CB]? = some kCd
theorem KM.later {w w' : World} {TB FB CB : Nat} (h : KM w TB FB CB) (hb : Below w.heap.size w w') : KM w' TB FB CB:=⟨nb_later hb h.t,nb_later hb h.f,nb_later hb h.c⟩
abbrev kV (TB FB : Nat) : Array Value:=#[.slice (some ⟨TB,0,none⟩) 1 1,.slice none 0 0,.slice none 0 0,.int .i64 1,.int .i64 2,.slice (some ⟨FB,0,none⟩) 1 1,.slice none 0 0,.slice none 0 0]
theorem kM_v (TB FB CB : Nat) : mV (kM TB FB (some ⟨CB,0,none⟩) 2 2 coK) = kV TB FB:=rfl
theorem kno17 (w : World) : Calls Tryz.prog 17 #[] w fun e w' => ∃ TB FB CB,e = .returned (.agg (kV TB FB)) ∧ KM w' TB FB CB ∧ Below w.heap.size w w':=by
 obtain ⟨W0,hW0⟩ : ∃ W,W = w.alloc (.cells (kV (w.heap.size + 1) (w.heap.size + 1 + 1 + 1)) 36):=⟨_,rfl⟩
 have z0 : W0.heap.size = w.heap.size + 1:=by rw [hW0]; simp
 have h0 : W0.heap[w.heap.size]? = some (.cells (kV (w.heap.size + 1) (w.heap.size + 1 + 1 + 1)) 36):=by rw [hW0]; exact nb_new _ _
 have B0 : Below w.heap.size w W0:=by rw [hW0]; exact below_new _ _
 have B1:=below_new W0 kTy
 have h1 : (W0.alloc kTy).heap[w.heap.size + 1]? = some kTy:=nb_at z0
 have z1 : (W0.alloc kTy).heap.size = w.heap.size + 1 + 1:=by simp [z0]
 have B2:=below_new (W0.alloc kTy) kCd
 have h2 : ((W0.alloc kTy).alloc kCd).heap[w.heap.size + 1 + 1]? = some kCd:=nb_at z1
 have z2 : ((W0.alloc kTy).alloc kCd).heap.size = w.heap.size + 1 + 1 + 1:=by simp [z0]
 have B3:=below_new ((W0.alloc kTy).alloc kCd) (kFn (w.heap.size + 1 + 1))
 have h3 : (((W0.alloc kTy).alloc kCd).alloc (kFn (w.heap.size + 1 + 1))).heap[w.heap.size + 1 + 1 + 1]? = some (kFn (w.heap.size + 1 + 1)):=nb_at z2
 have hfin:=nb_later B3 (nb_later B2 (nb_later B1 h0))
 have HK:=hid (show KM (((W0.alloc kTy).alloc kCd).alloc (kFn (w.heap.size + 1 + 1))) (w.heap.size + 1) (w.heap.size + 1 + 1 + 1) (w.heap.size + 1 + 1) from ⟨nb_later B3 (nb_later B2 h1),h3,nb_later B3 h2⟩)
 have HB:=hid (show Below w.heap.size w (((W0.alloc kTy).alloc kCd).alloc (kFn (w.heap.size + 1 + 1))) from B0.trans ((B1.trans ((B2.trans (B3.mono B2.size)).mono B1.size)).mono B0.size))
 subst hW0
 clear h0 h1 h2 h3 z0 z1 z2 B0 B1 B2 B3
 go_enter Tryz.func17,Tryz.ntmps17
 go_wp2_with fail
 exact bodyPost_ret (v:=.agg (kV (w.heap.size + 1) (w.heap.size + 1 + 1 + 1))) (results_cell_row rfl _ _ w.heap.size 36 _ (0,0) _ rfl hfin Tryz.underlying36 rfl (by kernel_rfl)) rfl ⟨_,_,_,rfl,HK.out,HB.out⟩
abbrev bFr (p : Int) : Obj:=.cells #[.int .i64 0,.int .i64 p,.slice none 0 0,.slice none 0 0] 40
abbrev bV (FA PA : Nat) : Array Value:=#[.slice (some ⟨FA,0,none⟩) 1 1,.slice none 0 0,.slice (some ⟨PA,0,none⟩) 1 1,.int .i64 0,.int .i8 1,.slice none 0 0,.int .i8 0,.int .i64 0]
structure KS (w : World) (FA PA PB : Nat) (p : Int) : Prop where
 f : w.heap[FA]? = some (bFr p)
 p : w.heap[PA]? = some (.cells #[.slice (some ⟨PB,0,none⟩) 4096 4096] 44)
 b : w.ownsRow 0 5 1 (.slice (some ⟨PB,0,none⟩) 4096 4096) 4096 ((List.replicate 4096 (0 : Int)).map (Value.int .u8))
theorem KS.later {w w' : World} {FA PA PB : Nat} {p : Int} (h : KS w FA PA PB p) (hb : Below w.heap.size w w') : KS w' FA PA PB p:=⟨nb_later hb h.f,nb_later hb h.p,own_lat h.b hb⟩
theorem Tryz.infB : (Tryz.prog.info? 5).map (fun i => (i.zero,i.size,i.bytes)) = some (some (.int .u8 0),1,1):=by kernel_rfl
theorem made_row {w : World} {base : Nat} {v : Value} {n : Nat} (h : w.ownsRow base 5 1 v n (madeCells (Value.int .u8 0).cells (n * 1)).toList) : w.ownsRow 0 5 1 v n ((List.replicate n (0 : Int)).map (Value.int .u8)):=by
 have e : (madeCells (Value.int .u8 0).cells (n * 1)).toList = (List.replicate n (0 : Int)).map (Value.int .u8):=by
  rw [Nat.mul_one]; exact (toList_madeCells_one _ _).trans (by simp)
 rw [← e]; exact own_low h (Nat.zero_le _)
theorem beg15 (w : World) : Calls Tryz.prog 15 #[] w fun e w' => ∃ FA PA PB,e = .returned (.agg (bV FA PA)) ∧ KS w' FA PA PB 0 ∧ w.heap.size ≤ FA ∧ Below w.heap.size w w':=by
 obtain ⟨i0,hi,hz0,hz1,hz2⟩:=info_parts Tryz.infB
 have hb2 : i0.bytes * 4096 ≤ 281474976710656:=by rw [hz2]; omega
 have hml : 4096 ≤ maxLen:=by unfold maxLen; omega
 have B1:=below_new w zSt
 have B2:=below_new (w.alloc zSt) (bFr 0)
 have h0:=nb_later B2 (nb_new w zSt)
 have h1 : ((w.alloc zSt).alloc (bFr 0)).heap[w.heap.size + 1]? = some (bFr 0):=nb_at (by simp)
 have B0:=B1.trans (B2.mono B1.size)
 have hz : ((w.alloc zSt).alloc (bFr 0)).heap.size = w.heap.size + 1 + 1:=by simp
 have HH:=hid (And.intro h0 (And.intro h1 (And.intro B0 hz)))
 clear B1 B2 h0 h1 B0 hz
 go_enter Tryz.func15,Tryz.ntmps15
 go_wp2_with (first | (at_make; refine wpList_make_full _ rfl _ _ 44 rfl (w.heap.size + 1 + 1) 5 i0 (.int .u8 0) 1 Tryz.underlying44 hi hz0 hz1 .i64 .i64 _ _ 4096 rfl rfl (by omega) (by omega) hb2 hml (by simp) ?_; intro w1 hown hgrow; have K1:=(Kept.of_grown hgrow).to_below (Nat.le_refl _) (fun k hk e => by cases e); have hz1:=HH.out.2.2.2; have R1:=hid (made_row (n:=4096) (base:=w.heap.size + 1 + 1) hown); have B3:=below_new w1 (.cells #[.slice (some ⟨w.heap.size + 1 + 1,0,none⟩) 4096 4096] 44); have kz:=nb_later B3 (nb_later K1 HH.out.1); have d0 : (w1.alloc (.cells #[.slice (some ⟨w.heap.size + 1 + 1,0,none⟩) 4096 4096] 44)).cell? ⟨w.heap.size,0,none⟩ = some (.slice none 0 0):=cell_at kz; have f0 : (w1.alloc (.cells #[.slice (some ⟨w.heap.size + 1 + 1,0,none⟩) 4096 4096] 44)).frozen? ⟨w.heap.size,0,none⟩ = false:=free_at kz; have d1 : (w1.alloc (.cells #[.slice (some ⟨w.heap.size + 1 + 1,0,none⟩) 4096 4096] 44)).cell? ⟨w.heap.size,1,none⟩ = some (.slice none 0 0):=cell_at kz; have f1 : (w1.alloc (.cells #[.slice (some ⟨w.heap.size + 1 + 1,0,none⟩) 4096 4096] 44)).frozen? ⟨w.heap.size,1,none⟩ = false:=free_at kz; have d2 : (w1.alloc (.cells #[.slice (some ⟨w.heap.size + 1 + 1,0,none⟩) 4096 4096] 44)).cell? ⟨w.heap.size,2,none⟩ = some (.slice none 0 0):=cell_at kz; have f2 : (w1.alloc (.cells #[.slice (some ⟨w.heap.size + 1 + 1,0,none⟩) 4096 4096] 44)).frozen? ⟨w.heap.size,2,none⟩ = false:=free_at kz; have d3 : (w1.alloc (.cells #[.slice (some ⟨w.heap.size + 1 + 1,0,none⟩) 4096 4096] 44)).cell? ⟨w.heap.size,3,none⟩ = some (.int .i64 0):=cell_at kz; have f3 : (w1.alloc (.cells #[.slice (some ⟨w.heap.size + 1 + 1,0,none⟩) 4096 4096] 44)).frozen? ⟨w.heap.size,3,none⟩ = false:=free_at kz; have d4 : (w1.alloc (.cells #[.slice (some ⟨w.heap.size + 1 + 1,0,none⟩) 4096 4096] 44)).cell? ⟨w.heap.size,4,none⟩ = some (.int .i8 0):=cell_at kz; have f4 : (w1.alloc (.cells #[.slice (some ⟨w.heap.size + 1 + 1,0,none⟩) 4096 4096] 44)).frozen? ⟨w.heap.size,4,none⟩ = false:=free_at kz; have d5 : (w1.alloc (.cells #[.slice (some ⟨w.heap.size + 1 + 1,0,none⟩) 4096 4096] 44)).cell? ⟨w.heap.size,5,none⟩ = some (.slice none 0 0):=cell_at kz; have f5 : (w1.alloc (.cells #[.slice (some ⟨w.heap.size + 1 + 1,0,none⟩) 4096 4096] 44)).frozen? ⟨w.heap.size,5,none⟩ = false:=free_at kz; have d6 : (w1.alloc (.cells #[.slice (some ⟨w.heap.size + 1 + 1,0,none⟩) 4096 4096] 44)).cell? ⟨w.heap.size,6,none⟩ = some (.int .i8 0):=cell_at kz; have f6 : (w1.alloc (.cells #[.slice (some ⟨w.heap.size + 1 + 1,0,none⟩) 4096 4096] 44)).frozen? ⟨w.heap.size,6,none⟩ = false:=free_at kz; have d7 : (w1.alloc (.cells #[.slice (some ⟨w.heap.size + 1 + 1,0,none⟩) 4096 4096] 44)).cell? ⟨w.heap.size,7,none⟩ = some (.int .i64 0):=cell_at kz; have f7 : (w1.alloc (.cells #[.slice (some ⟨w.heap.size + 1 + 1,0,none⟩) 4096 4096] 44)).frozen? ⟨w.heap.size,7,none⟩ = false:=free_at kz; have K1H:=hid K1; have B3H:=hid B3; have KZ:=hid kz; clear hown hgrow K1 B3 kz))
 have hfin:=setBlk (i:=7) (u:=.int .i64 0) (setBlk (i:=6) (u:=.int .i8 0) (setBlk (i:=5) (u:=.slice none 0 0) (setBlk (i:=4) (u:=.int .i8 1) (setBlk (i:=3) (u:=.int .i64 0) (setBlk (i:=2) (u:=.slice (some ⟨w1.heap.size,0,none⟩) 1 1) (setBlk (i:=1) (u:=.slice none 0 0) (setBlk (i:=0) (u:=.slice (some ⟨w.heap.size + 1,0,none⟩) 1 1) KZ.out)))))))
 have HKp:=hid (kept_out8 (w1.alloc (.cells #[.slice (some ⟨w.heap.size + 1 + 1,0,none⟩) 4096 4096] 44)) w.heap.size (.slice (some ⟨w.heap.size + 1,0,none⟩) 1 1) (.slice none 0 0) (.slice (some ⟨w1.heap.size,0,none⟩) 1 1) (.int .i64 0) (.int .i8 1) (.slice none 0 0) (.int .i8 0) (.int .i64 0))
 have hb1 : Below w.heap.size w (w1.alloc (.cells #[.slice (some ⟨w.heap.size + 1 + 1,0,none⟩) 4096 4096] 44)):=HH.out.2.2.1.trans ((K1H.out.trans (B3H.out.mono K1H.out.size)).mono HH.out.2.2.1.size)
 have h1:=nb_later B3H.out (nb_later K1H.out HH.out.2.1)
 have hpg : (w1.alloc (.cells #[.slice (some ⟨w.heap.size + 1 + 1,0,none⟩) 4096 4096] 44)).heap[w1.heap.size]? = some (.cells #[.slice (some ⟨w.heap.size + 1 + 1,0,none⟩) 4096 4096] 44):=nb_new w1 _
 have hsz : w.heap.size + 1 + 1 ≤ w1.heap.size:=Nat.le_trans (Nat.le_of_eq HH.out.2.2.2.symm) K1H.out.size
 have r1:=own_lat R1.out B3H.out
 rw [HH.out.2.2.2] at r1
 have hS : KS _ (w.heap.size + 1) w1.heap.size (w.heap.size + 1 + 1) 0:=⟨(HKp.out.block _ (nb_lt h1) (by show ¬ w.heap.size + 1 = w.heap.size; omega)).trans h1,(HKp.out.block _ (nb_lt hpg) (by show ¬ w1.heap.size = w.heap.size; omega)).trans hpg,own_keepB r1 HKp.out (fun c hc e => by
  have e : c = w.heap.size:=e
  simp [Value.ownBlock] at hc
  omega)⟩
 have hB : Below w.heap.size w _:=hb1.trans (HKp.out.to_below hb1.size (fun k _ e => by have e : k = w.heap.size:=e; omega))
 exact bodyPost_ret (v:=.agg (bV (w.heap.size + 1) w1.heap.size)) (results_cell_row rfl _ _ w.heap.size 27 _ (0,0) _ rfl hfin Tryz.underlying27 rfl (by kernel_rfl)) rfl ⟨_,_,_,rfl,hS,by omega,hB⟩
theorem kM_ok {W : World} {TB FB : Nat} {ca : Option Addr} {n c : Nat} {co : List InM} (hT : W.heap[TB]? = some (.cells #[.string ⟨#[]⟩,.string ⟨#[119]⟩] 68)) (hF : W.heap[FB]? = some (.cells #[.int .i64 0,.string ⟨#[]⟩,.slice ca n c] 71)) (hc : AtIn W ca n co)
  (ha : ∀ b off cc,ca = some ⟨b,off,cc⟩ → b < W.heap.size) (hi : ∀ y ∈ co,0 ≤ y.1 ∧ y.1 ≤ 255 ∧ y.2.2.1 = (none,0,0) ∧ y.2.2.2 = []) :
  ∀ R g,W.heap.size ≤ R → W.heap.size ≤ g → MOk W R g (kM TB FB ca n c co):=by
 intro R g hR hg
 have far : ∀ (a : Option Addr),(∀ b off cc,a = some ⟨b,off,cc⟩ → b < W.heap.size) → Far W R g a:=fun a h b off cc hb => by have:=h b off cc hb; omega
 have lT : TB < W.heap.size:=nb_lt hT
 have lF : FB < W.heap.size:=nb_lt hF
 have fn : Far W R g none:=far none (fun b off cc h => by cases h)
 refine ⟨⟨rfl,.inr ⟨TB,0,rfl,fun j x hj => ?_⟩⟩,far _ (fun b off cc h => by cases h; exact lT),⟨rfl,.inl rfl⟩,fn,fun j x hj => by simp [kM] at hj,⟨rfl,.inl rfl⟩,fn,fun j x hj => by simp [kM] at hj,by simp [kM],by simp [kM],by simp [kM],by simp [kM],⟨rfl,.inr ⟨FB,0,rfl,fun j x hj => ?_⟩⟩,far _ (fun b off cc h => by cases h; exact lF),fun j x hj => ?_,⟨rfl,.inl rfl⟩,fn,fun j x hj => by simp [kM] at hj,⟨rfl,.inl rfl⟩,fn,fun j x hj => by simp [kM] at hj⟩
 ·match j,hj with
  | 0,hj =>
   obtain rfl:=Option.some.inj hj
   exact ⟨cell_at hT,cell_at hT⟩
  | j + 1,hj => simp [kM] at hj
 ·match j,hj with
  | 0,hj =>
   obtain rfl:=Option.some.inj hj
   exact ⟨cell_at hF,cell_at hF,cell_at hF⟩
  | j + 1,hj => simp [kM] at hj
 ·match j,hj with
  | 0,hj =>
   obtain rfl:=Option.some.inj hj
   refine ⟨by simp,hc,(far _ ha).nz _,fun i y hi' => ?_⟩
   obtain ⟨h1,h2,h3,h4⟩:=hi y (List.mem_of_getElem? hi')
   refine ⟨h1,h2,?_,?_⟩
   ·rw [h3,h4]; exact ⟨rfl,Nat.zero_le _,Nat.zero_le _,fun z hz => by simp at hz,.inl rfl⟩
   ·rw [h3]; exact fn.nz _
  | j + 1,hj => simp [kM] at hj
theorem coK_ok : ∀ y ∈ coK,0 ≤ y.1 ∧ y.1 ≤ 255 ∧ y.2.2.1 = (none,0,0) ∧ y.2.2.2 = []:=by simp [coK,inn]
theorem atK {W : World} {B : Nat} (h : W.heap[B]? = some kCd) : AtIn W (some ⟨B,0,none⟩) 2 coK:=by
 refine ⟨rfl,.inr ⟨B,0,rfl,fun j x hj => ?_⟩⟩
 match j,hj with
 | 0,hj | 1,hj =>
  obtain rfl:=Option.some.inj hj
  exact ⟨cell_at h,cell_at h,cell_at h⟩
 | j + 2,hj => simp [coK] at hj
theorem capK {TB FB : Nat} {ca : Option Addr} {n : Nat} {co : List InM} : ∀ x ∈ (kM TB FB ca n n co).fns,x.2.2.1.2.1 ≤ x.2.2.1.2.2:=by simp [kM]
theorem chkK (TB FB : Nat) (ca : Option Addr) (n c : Nat) : chkMM (kM TB FB ca n c coK) = 0:=by kernel_rfl
theorem erK (TB FB : Nat) (ca : Option Addr) : ∀ i,i < 2 → erA (kM TB FB ca 2 2 coK) (strBytes ((⟨#[]⟩ : ByteArray) ++ ⟨#[]⟩)) (coK.map inx) ⟨#[119]⟩ 2 i = 0
 | 0,_ => by kernel_rfl
 | 1,_ => by kernel_rfl
 | i + 2,h => absurd h (by omega)
theorem reK : (res (opF (coK.map inx)) 2 0).1 = 0:=by kernel_rfl
theorem shK (TB FB : Nat) (ca : Option Addr) : (stA (kM TB FB ca 2 2 coK) (strBytes ((⟨#[]⟩ : ByteArray) ++ ⟨#[]⟩)) (coK.map inx) ⟨#[119]⟩ 2 2).sh = [⟨#[]⟩,⟨#[119]⟩]:=by kernel_rfl
theorem outK {TB FB : Nat} {ca : Option Addr} {w w' : World} {e : Ending} (h : OutM (kM TB FB ca 2 2 coK) w e w') : Below w.heap.size w w' ∧ ∃ TT SH,e = .returned (.tuple #[.slice (some ⟨TT,0,none⟩) 1 1,.int .i64 0,.int .i64 0,.int .i64 0]) ∧
  w'.cell? ⟨TT,0,none⟩ = some (.slice (some ⟨SH,0,none⟩) 2 2) ∧ w'.cell? ⟨SH,0,none⟩ = some (.string ⟨#[]⟩):=by
 refine ⟨h.1,?_⟩
 rcases h.2 with ⟨h1,_⟩ | ⟨_,k,x,E,pc,hx,hE,hE0,_,_⟩ | ⟨_,TT,arr,hTT,he,hA,hs,ht⟩
 ·exact absurd (chkK _ _ _ _ _) h1
 ·exfalso
  match k,hx with
  | 0,hx =>
   obtain rfl:=Option.some.inj hx
   rcases hE with ⟨hr,_⟩ | ⟨_,P,Q,hP,j,hj,_,hj2,_⟩
   ·exact hr reK
   ·obtain ⟨rfl,rfl⟩:=Prod.mk.inj (Option.some.inj hP)
    exact hj2 (erK TB FB ca j hj)
  | k + 1,hx => simp [kM] at hx
 ·obtain ⟨t,hT,hq⟩:=ht 0 (0,⟨#[]⟩,(ca,2,2),coK) rfl
  obtain ⟨_,P,Q,hP,_,SH,EN,EL,FL,l1,_,_,_,rfl,r1,_⟩:=hT
  obtain ⟨rfl,rfl⟩:=Prod.mk.inj (Option.some.inj hP)
  have h0:=hq 0 (by omega)
  refine ⟨TT,SH,he,?_,?_⟩
  ·rw [cell_at hA]; exact h0
  ·rw [shK] at r1
   rw [r1.cell 0 (by show 0 < 2; omega)]; rfl
theorem modK (TB FB CB : Nat) (w : World) (hk : KindsOk w) (h : KM w TB FB CB) : Calls Tryz.prog 36 #[.agg (kV TB FB)] w fun e w' => Below w.heap.size w w' ∧ ∃ TT SH,e = .returned (.tuple #[.slice (some ⟨TT,0,none⟩) 1 1,.int .i64 0,.int .i64 0,.int .i64 0]) ∧ w'.cell? ⟨TT,0,none⟩ = some (.slice (some ⟨SH,0,none⟩) 2 2) ∧ w'.cell? ⟨SH,0,none⟩ = some (.string ⟨#[]⟩):=by
 have hm:=module10 (kM TB FB (some ⟨CB,0,none⟩) 2 2 coK) w hk hk.pos (kM_ok h.t h.f (atK h.c) (fun b off cc hh => by cases hh; exact nb_lt h.c) coK_ok) capK
 rw [kM_v] at hm
 exact hm.mono (fun e w' hO => outK hO)
abbrev pt (b : Nat) : Value:=.pointer (some ⟨b,0,none⟩)
theorem c44 (P7 P8 P9 : Nat) (w : World) (h7 : w.cell? ⟨P7,0,none⟩ = some (.bool true)) : Calls Tryz.prog 44 #[pt P7,pt P8,pt P9] w fun e w' => e = .returned (.bool true) ∧ w' = w:=by
 go_enter Tryz.func44,Tryz.ntmps44
 go_wp2
 go_ret
 exact ⟨rfl,rfl⟩
theorem c45 (P7 S : Nat) (fa : Option Addr) (w : World) (h7 : w.cell? ⟨P7,0,none⟩ = some (.bool true)) (h0 : w.cell? ⟨S,0,none⟩ = some (.slice fa 1 1)) : Calls Tryz.prog 45 #[pt P7,pt S] w fun e w' => e = .returned (.bool true) ∧ w' = w:=by
 go_enter Tryz.func45,Tryz.ntmps45
 go_wp2
 go_ret
 exact ⟨rfl,rfl⟩
theorem c46 (P8 S : Nat) (w : World) (h5 : w.cell? ⟨S,5,none⟩ = some (.slice none 0 0)) : Calls Tryz.prog 46 #[pt S,pt P8] w fun e w' => e = .returned (.bool true) ∧ w' = w:=by
 go_enter Tryz.func46,Tryz.ntmps46
 go_wp2
 go_ret
 exact ⟨rfl,rfl⟩
theorem c48 (w : World) : Calls Tryz.prog 48 #[.int .i8 0] w fun e w' => e = .returned (.bool true) ∧ w' = w:=by
 go_enter Tryz.func48,Tryz.ntmps48
 go_wp2
 go_ret
 exact ⟨rfl,rfl⟩
theorem c47 (P9 S : Nat) (w : World) (h9 : w.cell? ⟨P9,0,none⟩ = some (.bool false)) (h6 : w.cell? ⟨S,6,none⟩ = some (.int .i8 0)) : Calls Tryz.prog 47 #[pt P9,pt S] w fun e w' => e = .returned (.bool true) ∧ w' = w:=by
 have HI:=hid c48
 go_enter Tryz.func47,Tryz.ntmps47
 go_wp2_with fail
 refine (HI.out w).mono ?_
 rintro e w5 ⟨rfl,hw⟩
 subst hw
 go_wp2_with fail
 go_ret
 exact ⟨rfl,rfl⟩
theorem c49 (S : Nat) (w : World) (h7 : w.cell? ⟨S,7,none⟩ = some (.int .i64 0)) : Calls Tryz.prog 49 #[pt S] w fun e w' => e = .returned (.bool true) ∧ w' = w:=by
 go_enter Tryz.func49,Tryz.ntmps49
 go_wp2
 go_ret
 exact ⟨rfl,rfl⟩
theorem c50 (S : Nat) (w : World) (h3 : w.cell? ⟨S,3,none⟩ = some (.int .i64 0)) : Calls Tryz.prog 50 #[pt S] w fun e w' => e = .returned (.bool true) ∧ w' = w:=by
 go_enter Tryz.func50,Tryz.ntmps50
 go_wp2
 go_ret
 exact ⟨rfl,rfl⟩
theorem c52 (w : World) : Calls Tryz.prog 52 #[.slice none 0 0,.slice none 0 0] w fun e w' => e = .returned (.bool true) ∧ w' = w:=by
 go_enter Tryz.func52,Tryz.ntmps52
 go_wp2
 refine wp_loop_rounds 1 ?_
 rw [rounds_succ]
 go_wp2
 go_ret
 exact ⟨rfl,rfl⟩
theorem c51 (M S : Nat) (w : World) (h2 : w.cell? ⟨M,2,none⟩ = some (.slice none 0 0)) (h1 : w.cell? ⟨S,1,none⟩ = some (.slice none 0 0)) : Calls Tryz.prog 51 #[pt M,pt S] w fun e w' => e = .returned (.bool true) ∧ w' = w:=by
 have HI:=hid c52
 go_enter Tryz.func51,Tryz.ntmps51
 go_wp2_with fail
 refine (HI.out w).mono ?_
 rintro e w5 ⟨rfl,hw⟩
 subst hw
 go_wp2_with fail
 go_ret
 exact ⟨rfl,rfl⟩
theorem c54 (PA : Nat) (pb : Option Addr) (w : World) (h : w.cell? ⟨PA,0,none⟩ = some (.slice pb 4096 4096)) : Calls Tryz.prog 54 #[.slice (some ⟨PA,0,none⟩) 1 1,.int .i64 1,.int .i64 2] w fun e w' => e = .returned (.bool true) ∧ w' = w:=by
 go_enter Tryz.func54,Tryz.ntmps54
 go_wp2
 refine wp_loop_rounds 2 ?_
 rw [rounds_succ]
 go_wp2
 rw [rounds_succ]
 go_wp2
 go_ret
 exact ⟨rfl,rfl⟩
theorem c53 (M S PA : Nat) (pb : Option Addr) (w : World) (h2 : w.cell? ⟨S,2,none⟩ = some (.slice (some ⟨PA,0,none⟩) 1 1)) (h : w.cell? ⟨PA,0,none⟩ = some (.slice pb 4096 4096)) (h3 : w.cell? ⟨M,3,none⟩ = some (.int .i64 1)) (h4 : w.cell? ⟨M,4,none⟩ = some (.int .i64 2)) : Calls Tryz.prog 53 #[pt S,pt M] w fun e w' => e = .returned (.bool true) ∧ w' = w:=by
 have HI:=hid (c54 PA pb w h)
 clear h
 go_enter Tryz.func53,Tryz.ntmps53
 go_wp2_with fail
 refine HI.out.mono ?_
 rintro e w5 ⟨rfl,hw⟩
 subst hw
 go_wp2_with fail
 go_ret
 exact ⟨rfl,rfl⟩
theorem c64 (n c : Int) (w : World) (h0 : 0 ≤ n) : Calls Tryz.prog 64 #[.int .i64 n,.int .i64 c] w fun e w' => e = .returned (.bool (decide (n < c))) ∧ w' = w:=by
 have h1 : decide (0 ≤ n) = true:=decide_eq_true h0
 go_enter Tryz.func64,Tryz.ntmps64
 go_wp2
 go_ret
 exact ⟨rfl,rfl⟩
theorem c66 (w : World) : Calls Tryz.prog 66 #[.slice none 0 0,.string ⟨#[]⟩] w fun e w' => e = .returned (.bool true) ∧ Below w.heap.size w w':=by
 have HB:=hid (below_new w (.cells #[.slice none 0 0] 23))
 have kb:=nb_new w (.cells #[.slice none 0 0] 23)
 have g0 : (w.alloc (.cells #[.slice none 0 0] 23)).cell? ⟨w.heap.size,0,none⟩ = some (.slice none 0 0):=cell_at kb
 have HE:=hid (each20 ⟨#[]⟩ 76 w.heap.size (fun _ => true) (w.alloc (.cells #[.slice none 0 0] 23)) (by decide) (fun _ _ => rfl) (fun pos i hi _ => absurd hi (Nat.not_lt_zero i)))
 clear kb
 go_enter Tryz.func66,Tryz.ntmps66
 go_wp2_with fail
 generalize w.alloc (.cells #[.slice none 0 0] 23) = W at *
 refine HE.out.mono ?_
 rintro e w5 ⟨b,pos,rfl,hb,hw⟩
 have hb' : b = true:=hb.2 (fun i hi => absurd hi (Nat.not_lt_zero i))
 subst hb'
 subst hw
 have B5:=hid (HB.out.trans ((below_new W (.stringIter ⟨#[]⟩ pos)).mono HB.out.size))
 clear hb
 go_wp2_with fail
 go_ret
 exact ⟨rfl,B5.out⟩
structure KT2 (w : World) (TT SH : Nat) : Prop where
 t : w.cell? ⟨TT,0,none⟩ = some (.slice (some ⟨SH,0,none⟩) 2 2)
 s : w.cell? ⟨SH,0,none⟩ = some (.string ⟨#[]⟩)
theorem KT2.later {w w' : World} {TT SH : Nat} (h : KT2 w TT SH) (hb : Below w.heap.size w w') : KT2 w' TT SH:=⟨later_cell hb h.t,later_cell hb h.s⟩
theorem sta56_2 (TB FB CB TT SH FA : Nat) (w : World) (hm : KM w TB FB CB) (hf : w.heap[FA]? = some (bFr 2)) (ht : KT2 w TT SH) :
  Calls Tryz.prog 56 #[.agg (kV TB FB),.slice (some ⟨TT,0,none⟩) 1 1,.slice (some ⟨FA,0,none⟩) 1 1] w fun e w' => e = .returned (.bool false) ∧ Below w.heap.size w w':=by
 have H64:=hid c64
 have H66:=hid c66
 have B0:=below_new w (.cells (kV TB FB) 36)
 have B1:=below_new (w.alloc (.cells (kV TB FB) 36)) (bFr 2)
 have B2:=below_new ((w.alloc (.cells (kV TB FB) 36)).alloc (bFr 2)) (kFn CB)
 have kb0:=nb_new w (.cells (kV TB FB) 36)
 have kb1:=nb_later B1 kb0
 have kb2:=nb_later B2 kb1
 have kg1 : ((w.alloc (.cells (kV TB FB) 36)).alloc (bFr 2)).heap[w.heap.size + 1]? = some (bFr 2):=nb_at (by simp)
 have kg2:=nb_later B2 kg1
 have kh2 : (((w.alloc (.cells (kV TB FB) 36)).alloc (bFr 2)).alloc (kFn CB)).heap[w.heap.size + 1 + 1]? = some (kFn CB):=nb_at (by simp)
 have hf0:=nb_later B0 hf
 have hF1:=nb_later B1 (nb_later B0 hm.f)
 have hT2:=nb_later B2 (nb_later B1 (nb_later B0 hm.t))
 have ht2:=((ht.later B0).later B1).later B2
 have HB:=hid (B0.trans ((B1.trans (B2.mono B1.size)).mono B0.size))
 have q0 : (w.alloc (.cells (kV TB FB) 36)).cell? ⟨FA,0,none⟩ = some (.int .i64 0):=cell_at hf0
 have q1 : (w.alloc (.cells (kV TB FB) 36)).cell? ⟨FA,1,none⟩ = some (.int .i64 2):=cell_at hf0
 have q2 : (w.alloc (.cells (kV TB FB) 36)).cell? ⟨FA,2,none⟩ = some (.slice none 0 0):=cell_at hf0
 have q3 : (w.alloc (.cells (kV TB FB) 36)).cell? ⟨FA,3,none⟩ = some (.slice none 0 0):=cell_at hf0
 have q4 : ((w.alloc (.cells (kV TB FB) 36)).alloc (bFr 2)).cell? ⟨w.heap.size + 1,0,none⟩ = some (.int .i64 0):=cell_at kg1
 have q5 : ((w.alloc (.cells (kV TB FB) 36)).alloc (bFr 2)).cell? ⟨w.heap.size,5,none⟩ = some (.slice (some ⟨FB,0,none⟩) 1 1):=cell_at kb1
 have q6 : ((w.alloc (.cells (kV TB FB) 36)).alloc (bFr 2)).cell? ⟨FB,0,none⟩ = some (.int .i64 0):=cell_at hF1
 have q7 : ((w.alloc (.cells (kV TB FB) 36)).alloc (bFr 2)).cell? ⟨FB,1,none⟩ = some (.string ⟨#[]⟩):=cell_at hF1
 have q8 : ((w.alloc (.cells (kV TB FB) 36)).alloc (bFr 2)).cell? ⟨FB,2,none⟩ = some (.slice (some ⟨CB,0,none⟩) 2 2):=cell_at hF1
 have q9 : (((w.alloc (.cells (kV TB FB) 36)).alloc (bFr 2)).alloc (kFn CB)).cell? ⟨w.heap.size + 1,0,none⟩ = some (.int .i64 0):=cell_at kg2
 have q10 : (((w.alloc (.cells (kV TB FB) 36)).alloc (bFr 2)).alloc (kFn CB)).cell? ⟨w.heap.size + 1,1,none⟩ = some (.int .i64 2):=cell_at kg2
 have q11 : (((w.alloc (.cells (kV TB FB) 36)).alloc (bFr 2)).alloc (kFn CB)).cell? ⟨w.heap.size + 1,2,none⟩ = some (.slice none 0 0):=cell_at kg2
 have q12 : (((w.alloc (.cells (kV TB FB) 36)).alloc (bFr 2)).alloc (kFn CB)).cell? ⟨w.heap.size + 1,3,none⟩ = some (.slice none 0 0):=cell_at kg2
 have q13 : (((w.alloc (.cells (kV TB FB) 36)).alloc (bFr 2)).alloc (kFn CB)).cell? ⟨w.heap.size + 1 + 1,0,none⟩ = some (.int .i64 0):=cell_at kh2
 have q14 : (((w.alloc (.cells (kV TB FB) 36)).alloc (bFr 2)).alloc (kFn CB)).cell? ⟨w.heap.size + 1 + 1,1,none⟩ = some (.string ⟨#[]⟩):=cell_at kh2
 have q15 : (((w.alloc (.cells (kV TB FB) 36)).alloc (bFr 2)).alloc (kFn CB)).cell? ⟨w.heap.size + 1 + 1,2,none⟩ = some (.slice (some ⟨CB,0,none⟩) 2 2):=cell_at kh2
 have q16 : (((w.alloc (.cells (kV TB FB) 36)).alloc (bFr 2)).alloc (kFn CB)).cell? ⟨w.heap.size,0,none⟩ = some (.slice (some ⟨TB,0,none⟩) 1 1):=cell_at kb2
 have q17 : (((w.alloc (.cells (kV TB FB) 36)).alloc (bFr 2)).alloc (kFn CB)).cell? ⟨TB,0,none⟩ = some (.string ⟨#[]⟩):=cell_at hT2
 have q18 : (((w.alloc (.cells (kV TB FB) 36)).alloc (bFr 2)).alloc (kFn CB)).cell? ⟨TT,0,none⟩ = some (.slice (some ⟨SH,0,none⟩) 2 2):=ht2.t
 have q19 : (((w.alloc (.cells (kV TB FB) 36)).alloc (bFr 2)).alloc (kFn CB)).cell? ⟨SH,0,none⟩ = some (.string ⟨#[]⟩):=ht2.s
 clear B0 B1 B2 kb0 kb1 kb2 kg1 kg2 kh2 hf0 hF1 hT2 ht2 hm hf ht
 go_enter Tryz.func56,Tryz.ntmps56
 go_wp2_with fail
 refine (H64.out 0 1 _ (by omega)).mono ?_
 rintro e w5 ⟨rfl,hw5⟩
 subst hw5
 have d1 : decide ((0 : Int) < 1) = true:=by decide
 rw [d1]
 clear d1
 go_wp2_with fail
 refine (H64.out 2 2 _ (by omega)).mono ?_
 rintro e w6 ⟨rfl,hw6⟩
 subst hw6
 have d2 : decide ((2 : Int) < 2) = false:=by decide
 rw [d2]
 clear d2
 go_wp2_with fail
 go_ret
 exact ⟨rfl,HB.out⟩
theorem sta56_0 (TB FB CB TT SH FA : Nat) (w : World) (hm : KM w TB FB CB) (hf : w.heap[FA]? = some (bFr 0)) (ht : KT2 w TT SH) :
  Calls Tryz.prog 56 #[.agg (kV TB FB),.slice (some ⟨TT,0,none⟩) 1 1,.slice (some ⟨FA,0,none⟩) 1 1] w fun e w' => e = .returned (.bool true) ∧ Below w.heap.size w w':=by
 have H64:=hid c64
 have H66:=hid c66
 have B0:=below_new w (.cells (kV TB FB) 36)
 have B1:=below_new (w.alloc (.cells (kV TB FB) 36)) (bFr 0)
 have B2:=below_new ((w.alloc (.cells (kV TB FB) 36)).alloc (bFr 0)) (kFn CB)
 have kb0:=nb_new w (.cells (kV TB FB) 36)
 have kb1:=nb_later B1 kb0
 have kb2:=nb_later B2 kb1
 have kg1 : ((w.alloc (.cells (kV TB FB) 36)).alloc (bFr 0)).heap[w.heap.size + 1]? = some (bFr 0):=nb_at (by simp)
 have kg2:=nb_later B2 kg1
 have kh2 : (((w.alloc (.cells (kV TB FB) 36)).alloc (bFr 0)).alloc (kFn CB)).heap[w.heap.size + 1 + 1]? = some (kFn CB):=nb_at (by simp)
 have hf0:=nb_later B0 hf
 have hF1:=nb_later B1 (nb_later B0 hm.f)
 have hT2:=nb_later B2 (nb_later B1 (nb_later B0 hm.t))
 have ht2:=((ht.later B0).later B1).later B2
 have HB:=hid (B0.trans ((B1.trans (B2.mono B1.size)).mono B0.size))
 have q0 : (w.alloc (.cells (kV TB FB) 36)).cell? ⟨FA,0,none⟩ = some (.int .i64 0):=cell_at hf0
 have q1 : (w.alloc (.cells (kV TB FB) 36)).cell? ⟨FA,1,none⟩ = some (.int .i64 0):=cell_at hf0
 have q2 : (w.alloc (.cells (kV TB FB) 36)).cell? ⟨FA,2,none⟩ = some (.slice none 0 0):=cell_at hf0
 have q3 : (w.alloc (.cells (kV TB FB) 36)).cell? ⟨FA,3,none⟩ = some (.slice none 0 0):=cell_at hf0
 have q4 : ((w.alloc (.cells (kV TB FB) 36)).alloc (bFr 0)).cell? ⟨w.heap.size + 1,0,none⟩ = some (.int .i64 0):=cell_at kg1
 have q5 : ((w.alloc (.cells (kV TB FB) 36)).alloc (bFr 0)).cell? ⟨w.heap.size,5,none⟩ = some (.slice (some ⟨FB,0,none⟩) 1 1):=cell_at kb1
 have q6 : ((w.alloc (.cells (kV TB FB) 36)).alloc (bFr 0)).cell? ⟨FB,0,none⟩ = some (.int .i64 0):=cell_at hF1
 have q7 : ((w.alloc (.cells (kV TB FB) 36)).alloc (bFr 0)).cell? ⟨FB,1,none⟩ = some (.string ⟨#[]⟩):=cell_at hF1
 have q8 : ((w.alloc (.cells (kV TB FB) 36)).alloc (bFr 0)).cell? ⟨FB,2,none⟩ = some (.slice (some ⟨CB,0,none⟩) 2 2):=cell_at hF1
 have q9 : (((w.alloc (.cells (kV TB FB) 36)).alloc (bFr 0)).alloc (kFn CB)).cell? ⟨w.heap.size + 1,0,none⟩ = some (.int .i64 0):=cell_at kg2
 have q10 : (((w.alloc (.cells (kV TB FB) 36)).alloc (bFr 0)).alloc (kFn CB)).cell? ⟨w.heap.size + 1,1,none⟩ = some (.int .i64 0):=cell_at kg2
 have q11 : (((w.alloc (.cells (kV TB FB) 36)).alloc (bFr 0)).alloc (kFn CB)).cell? ⟨w.heap.size + 1,2,none⟩ = some (.slice none 0 0):=cell_at kg2
 have q12 : (((w.alloc (.cells (kV TB FB) 36)).alloc (bFr 0)).alloc (kFn CB)).cell? ⟨w.heap.size + 1,3,none⟩ = some (.slice none 0 0):=cell_at kg2
 have q13 : (((w.alloc (.cells (kV TB FB) 36)).alloc (bFr 0)).alloc (kFn CB)).cell? ⟨w.heap.size + 1 + 1,0,none⟩ = some (.int .i64 0):=cell_at kh2
 have q14 : (((w.alloc (.cells (kV TB FB) 36)).alloc (bFr 0)).alloc (kFn CB)).cell? ⟨w.heap.size + 1 + 1,1,none⟩ = some (.string ⟨#[]⟩):=cell_at kh2
 have q15 : (((w.alloc (.cells (kV TB FB) 36)).alloc (bFr 0)).alloc (kFn CB)).cell? ⟨w.heap.size + 1 + 1,2,none⟩ = some (.slice (some ⟨CB,0,none⟩) 2 2):=cell_at kh2
 have q16 : (((w.alloc (.cells (kV TB FB) 36)).alloc (bFr 0)).alloc (kFn CB)).cell? ⟨w.heap.size,0,none⟩ = some (.slice (some ⟨TB,0,none⟩) 1 1):=cell_at kb2
 have q17 : (((w.alloc (.cells (kV TB FB) 36)).alloc (bFr 0)).alloc (kFn CB)).cell? ⟨TB,0,none⟩ = some (.string ⟨#[]⟩):=cell_at hT2
 have q18 : (((w.alloc (.cells (kV TB FB) 36)).alloc (bFr 0)).alloc (kFn CB)).cell? ⟨TT,0,none⟩ = some (.slice (some ⟨SH,0,none⟩) 2 2):=ht2.t
 have q19 : (((w.alloc (.cells (kV TB FB) 36)).alloc (bFr 0)).alloc (kFn CB)).cell? ⟨SH,0,none⟩ = some (.string ⟨#[]⟩):=ht2.s
 clear B0 B1 B2 kb0 kb1 kb2 kg1 kg2 kh2 hf0 hF1 hT2 ht2 hm hf ht
 go_enter Tryz.func56,Tryz.ntmps56
 go_wp2_with fail
 refine (H64.out 0 1 _ (by omega)).mono ?_
 rintro e w5 ⟨rfl,hw5⟩
 subst hw5
 have d1 : decide ((0 : Int) < 1) = true:=by decide
 rw [d1]
 clear d1
 go_wp2_with fail
 refine (H64.out 0 2 _ (by omega)).mono ?_
 rintro e w6 ⟨rfl,hw6⟩
 subst hw6
 have d2 : decide ((0 : Int) < 2) = true:=by decide
 rw [d2]
 clear d2
 generalize (((w.alloc (.cells (kV TB FB) 36)).alloc (bFr 0)).alloc (kFn CB)) = W at *
 go_wp2_with fail
 go_quiet (fail)
 obtain ⟨Wq,hWq⟩ : ∃ Wq,Wq = W.drewN nq:=⟨_,rfl⟩
 have HBq:=hid (show Below w.heap.size w Wq by rw [hWq]; exact HB.out.trans ((below_drewN W nq).mono HB.out.size))
 have HS:=hid (show Wq.cell? ⟨w.heap.size + 1,2,none⟩ = some (.slice none 0 0) ∧ Wq.cell? ⟨w.heap.size + 1,3,none⟩ = some (.slice none 0 0) ∧ Wq.cell? ⟨w.heap.size + 1 + 1,0,none⟩ = some (.int .i64 0) ∧ Wq.cell? ⟨w.heap.size + 1 + 1,1,none⟩ = some (.string ⟨#[]⟩) ∧ Wq.cell? ⟨w.heap.size,0,none⟩ = some (.slice (some ⟨TB,0,none⟩) 1 1) ∧ Wq.cell? ⟨TB,0,none⟩ = some (.string ⟨#[]⟩) by subst hWq; exact ⟨q11,q12,q13,q14,q16,q17⟩)
 rw [← hWq] at *
 clear hWq
 obtain ⟨r0,r1,r2,r3,r4,r5⟩:=HS.out
 go_wp2_with fail
 have hss : (⟨#[]⟩ : ByteArray) ++ ⟨#[]⟩ = ⟨#[]⟩:=by decide
 have HLAT:=hid (fun (W' : World) (hW : Below Wq.heap.size Wq W') => (⟨later_cell hW r0,later_cell hW r1,later_cell hW r2,later_cell hW r3,later_cell hW r4,later_cell hW r5⟩ : W'.cell? ⟨w.heap.size + 1,2,none⟩ = some (.slice none 0 0) ∧ W'.cell? ⟨w.heap.size + 1,3,none⟩ = some (.slice none 0 0) ∧ W'.cell? ⟨w.heap.size + 1 + 1,0,none⟩ = some (.int .i64 0) ∧ W'.cell? ⟨w.heap.size + 1 + 1,1,none⟩ = some (.string ⟨#[]⟩) ∧ W'.cell? ⟨w.heap.size,0,none⟩ = some (.slice (some ⟨TB,0,none⟩) 1 1) ∧ W'.cell? ⟨TB,0,none⟩ = some (.string ⟨#[]⟩)))
 have kd : Below Wq.heap.size Wq Wq.drew:=(Kept.drewN (fun _ => False) Wq 1).to_below (Nat.le_refl _) (fun _ _ x => x)
 have HQ1:=hid ((H66.out Wq.drew).mono (fun e w' h => (⟨h.1,kd.trans (h.2.mono kd.size)⟩ : e = .returned (.bool true) ∧ Below Wq.heap.size Wq w')))
 clear kd
 go_region_held3 (fun W => W.cell? ⟨w.heap.size + 1,2,none⟩ = some (.slice none 0 0) ∧ W.cell? ⟨w.heap.size + 1,3,none⟩ = some (.slice none 0 0) ∧ W.cell? ⟨w.heap.size + 1 + 1,0,none⟩ = some (.int .i64 0) ∧ W.cell? ⟨w.heap.size + 1 + 1,1,none⟩ = some (.string ⟨#[]⟩) ∧ W.cell? ⟨w.heap.size,0,none⟩ = some (.slice (some ⟨TB,0,none⟩) 1 1) ∧ W.cell? ⟨TB,0,none⟩ = some (.string ⟨#[]⟩)) (go_keep)
  (first
   | (go_at_call 66; refine HQ1.out.mono ?_; rintro e w7 ⟨rfl,hb7⟩; obtain ⟨s0,s1,s2,s3,s4,s5⟩:=HLAT.out _ hb7; have HB7:=hid hb7; clear hb7)
   | (go_at_call 66; refine (H66.out _).mono ?_; rintro e w8 ⟨rfl,hb8⟩; obtain ⟨u0,u1,u2,u3,u4,u5⟩:=HLAT.out _ (HB7.out.trans (hb8.mono HB7.out.size)); have HB8:=hid (HB7.out.trans (hb8.mono HB7.out.size)); clear hb8))
 go_wp2_with fail
 go_ret
 exact ⟨rfl,HBq.out.trans (HB8.out.mono HBq.out.size)⟩
theorem c55_2 (TB FB CB TT SH FA MB TX SX KX : Nat) (w : World) (hm : KM w TB FB CB) (hf : w.heap[FA]? = some (bFr 2)) (ht : KT2 w TT SH) (kM_ : w.heap[MB]? = some (.cells (kV TB FB) 36)) (kX : w.cell? ⟨TX,0,none⟩ = some (.slice (some ⟨TT,0,none⟩) 1 1)) (kS : w.cell? ⟨SX,0,none⟩ = some (.slice (some ⟨FA,0,none⟩) 1 1)) (kK : w.cell? ⟨KX,0,none⟩ = some (.int .i64 0)) :
  Calls Tryz.prog 55 #[pt MB,pt TX,pt SX,pt KX] w fun e w' => e = .returned (.bool false) ∧ Below w.heap.size w w':=by
 have kd : Below w.heap.size w w.drew:=(Kept.drewN (fun _ => False) w 1).to_below (Nat.le_refl _) (fun _ _ x => x)
 have HQ:=hid ((sta56_2 TB FB CB TT SH FA w.drew (hm.later kd) (nb_later kd hf) (ht.later kd)).mono (fun e w' h => (⟨h.1,kd.trans (h.2.mono kd.size)⟩ : e = .returned (.bool false) ∧ Below w.heap.size w w')))
 have g0 : w.cell? ⟨MB,0,none⟩ = some (.slice (some ⟨TB,0,none⟩) 1 1):=cell_at kM_
 have g1 : w.cell? ⟨MB,1,none⟩ = some (.slice none 0 0):=cell_at kM_
 have g2 : w.cell? ⟨MB,2,none⟩ = some (.slice none 0 0):=cell_at kM_
 have g3 : w.cell? ⟨MB,3,none⟩ = some (.int .i64 1):=cell_at kM_
 have g4 : w.cell? ⟨MB,4,none⟩ = some (.int .i64 2):=cell_at kM_
 have g5 : w.cell? ⟨MB,5,none⟩ = some (.slice (some ⟨FB,0,none⟩) 1 1):=cell_at kM_
 have g6 : w.cell? ⟨MB,6,none⟩ = some (.slice none 0 0):=cell_at kM_
 have g7 : w.cell? ⟨MB,7,none⟩ = some (.slice none 0 0):=cell_at kM_
 have HL:=hid (fun (W : World) (hW : Below w.heap.size w W) => (⟨later_cell hW g0,later_cell hW g1,later_cell hW g2,later_cell hW g3,later_cell hW g4,later_cell hW g5,later_cell hW g6,later_cell hW g7,later_cell hW kX,later_cell hW kS,later_cell hW kK⟩ : W.cell? ⟨MB,0,none⟩ = some (.slice (some ⟨TB,0,none⟩) 1 1) ∧ W.cell? ⟨MB,1,none⟩ = some (.slice none 0 0) ∧ W.cell? ⟨MB,2,none⟩ = some (.slice none 0 0) ∧ W.cell? ⟨MB,3,none⟩ = some (.int .i64 1) ∧ W.cell? ⟨MB,4,none⟩ = some (.int .i64 2) ∧ W.cell? ⟨MB,5,none⟩ = some (.slice (some ⟨FB,0,none⟩) 1 1) ∧ W.cell? ⟨MB,6,none⟩ = some (.slice none 0 0) ∧ W.cell? ⟨MB,7,none⟩ = some (.slice none 0 0) ∧ W.cell? ⟨TX,0,none⟩ = some (.slice (some ⟨TT,0,none⟩) 1 1) ∧ W.cell? ⟨SX,0,none⟩ = some (.slice (some ⟨FA,0,none⟩) 1 1) ∧ W.cell? ⟨KX,0,none⟩ = some (.int .i64 0)))
 clear hm hf ht kM_ kd
 go_enter Tryz.func55,Tryz.ntmps55
 go_wp2_with fail
 go_region_held3 (fun W => W.cell? ⟨MB,0,none⟩ = some (.slice (some ⟨TB,0,none⟩) 1 1) ∧ W.cell? ⟨MB,1,none⟩ = some (.slice none 0 0) ∧ W.cell? ⟨MB,2,none⟩ = some (.slice none 0 0) ∧ W.cell? ⟨MB,3,none⟩ = some (.int .i64 1) ∧ W.cell? ⟨MB,4,none⟩ = some (.int .i64 2) ∧ W.cell? ⟨MB,5,none⟩ = some (.slice (some ⟨FB,0,none⟩) 1 1) ∧ W.cell? ⟨MB,6,none⟩ = some (.slice none 0 0) ∧ W.cell? ⟨MB,7,none⟩ = some (.slice none 0 0) ∧ W.cell? ⟨TX,0,none⟩ = some (.slice (some ⟨TT,0,none⟩) 1 1) ∧ W.cell? ⟨SX,0,none⟩ = some (.slice (some ⟨FA,0,none⟩) 1 1) ∧ W.cell? ⟨KX,0,none⟩ = some (.int .i64 0)) (go_keep)
  (first | (go_at_call 56; refine HQ.out.mono ?_; rintro e w5 ⟨rfl,hb5⟩; obtain ⟨s0,s1,s2,s3,s4,s5,s6,s7,s8,s9,s10⟩:=HL.out _ hb5; have HB5:=hid hb5; clear hb5))
 go_wp2_with fail
 go_ret
 exact ⟨rfl,HB5.out⟩
theorem c55_0 (TB FB CB TT SH FA MB TX SX KX : Nat) (w : World) (hm : KM w TB FB CB) (hf : w.heap[FA]? = some (bFr 0)) (ht : KT2 w TT SH) (kM_ : w.heap[MB]? = some (.cells (kV TB FB) 36)) (kX : w.cell? ⟨TX,0,none⟩ = some (.slice (some ⟨TT,0,none⟩) 1 1)) (kS : w.cell? ⟨SX,0,none⟩ = some (.slice (some ⟨FA,0,none⟩) 1 1)) (kK : w.cell? ⟨KX,0,none⟩ = some (.int .i64 0)) :
  Calls Tryz.prog 55 #[pt MB,pt TX,pt SX,pt KX] w fun e w' => e = .returned (.bool true) ∧ Below w.heap.size w w':=by
 have kd : Below w.heap.size w w.drew:=(Kept.drewN (fun _ => False) w 1).to_below (Nat.le_refl _) (fun _ _ x => x)
 have HQ:=hid ((sta56_0 TB FB CB TT SH FA w.drew (hm.later kd) (nb_later kd hf) (ht.later kd)).mono (fun e w' h => (⟨h.1,kd.trans (h.2.mono kd.size)⟩ : e = .returned (.bool true) ∧ Below w.heap.size w w')))
 have g0 : w.cell? ⟨MB,0,none⟩ = some (.slice (some ⟨TB,0,none⟩) 1 1):=cell_at kM_
 have g1 : w.cell? ⟨MB,1,none⟩ = some (.slice none 0 0):=cell_at kM_
 have g2 : w.cell? ⟨MB,2,none⟩ = some (.slice none 0 0):=cell_at kM_
 have g3 : w.cell? ⟨MB,3,none⟩ = some (.int .i64 1):=cell_at kM_
 have g4 : w.cell? ⟨MB,4,none⟩ = some (.int .i64 2):=cell_at kM_
 have g5 : w.cell? ⟨MB,5,none⟩ = some (.slice (some ⟨FB,0,none⟩) 1 1):=cell_at kM_
 have g6 : w.cell? ⟨MB,6,none⟩ = some (.slice none 0 0):=cell_at kM_
 have g7 : w.cell? ⟨MB,7,none⟩ = some (.slice none 0 0):=cell_at kM_
 have HL:=hid (fun (W : World) (hW : Below w.heap.size w W) => (⟨later_cell hW g0,later_cell hW g1,later_cell hW g2,later_cell hW g3,later_cell hW g4,later_cell hW g5,later_cell hW g6,later_cell hW g7,later_cell hW kX,later_cell hW kS,later_cell hW kK⟩ : W.cell? ⟨MB,0,none⟩ = some (.slice (some ⟨TB,0,none⟩) 1 1) ∧ W.cell? ⟨MB,1,none⟩ = some (.slice none 0 0) ∧ W.cell? ⟨MB,2,none⟩ = some (.slice none 0 0) ∧ W.cell? ⟨MB,3,none⟩ = some (.int .i64 1) ∧ W.cell? ⟨MB,4,none⟩ = some (.int .i64 2) ∧ W.cell? ⟨MB,5,none⟩ = some (.slice (some ⟨FB,0,none⟩) 1 1) ∧ W.cell? ⟨MB,6,none⟩ = some (.slice none 0 0) ∧ W.cell? ⟨MB,7,none⟩ = some (.slice none 0 0) ∧ W.cell? ⟨TX,0,none⟩ = some (.slice (some ⟨TT,0,none⟩) 1 1) ∧ W.cell? ⟨SX,0,none⟩ = some (.slice (some ⟨FA,0,none⟩) 1 1) ∧ W.cell? ⟨KX,0,none⟩ = some (.int .i64 0)))
 clear hm hf ht kM_ kd
 go_enter Tryz.func55,Tryz.ntmps55
 go_wp2_with fail
 go_region_held3 (fun W => W.cell? ⟨MB,0,none⟩ = some (.slice (some ⟨TB,0,none⟩) 1 1) ∧ W.cell? ⟨MB,1,none⟩ = some (.slice none 0 0) ∧ W.cell? ⟨MB,2,none⟩ = some (.slice none 0 0) ∧ W.cell? ⟨MB,3,none⟩ = some (.int .i64 1) ∧ W.cell? ⟨MB,4,none⟩ = some (.int .i64 2) ∧ W.cell? ⟨MB,5,none⟩ = some (.slice (some ⟨FB,0,none⟩) 1 1) ∧ W.cell? ⟨MB,6,none⟩ = some (.slice none 0 0) ∧ W.cell? ⟨MB,7,none⟩ = some (.slice none 0 0) ∧ W.cell? ⟨TX,0,none⟩ = some (.slice (some ⟨TT,0,none⟩) 1 1) ∧ W.cell? ⟨SX,0,none⟩ = some (.slice (some ⟨FA,0,none⟩) 1 1) ∧ W.cell? ⟨KX,0,none⟩ = some (.int .i64 0)) (go_keep)
  (first | (go_at_call 56; refine HQ.out.mono ?_; rintro e w5 ⟨rfl,hb5⟩; obtain ⟨s0,s1,s2,s3,s4,s5,s6,s7,s8,s9,s10⟩:=HL.out _ hb5; have HB5:=hid hb5; clear hb5))
 go_wp2_with fail
 go_ret
 exact ⟨rfl,HB5.out⟩
end Go.Proofs.YtmgjhfookhaajaaGreatDoor

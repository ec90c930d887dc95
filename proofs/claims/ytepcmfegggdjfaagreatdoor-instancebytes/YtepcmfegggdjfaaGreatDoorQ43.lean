/-
  Texts Ih Ii Fa Ij Vii.
-/
import Derived.BigQuiet
import Derived.Deep.QuietTactic
import Derived.Test.YtepcmfegggdjfaaGreatDoorQ04
import Derived.Test.YtepcmfegggdjfaaGreatDoorQ40
import Derived.Test.YtepcmfegggdjfaaGreatDoorQ42
set_option linter.unusedVariables false
set_option maxRecDepth 100000
set_option maxHeartbeats 16000000
namespace Go.Proofs.YtepcmfegggdjfaaGreatDoor
open Go.RowKit
def kM (TB GB FB CB DB BB EB : Nat) : MM :=
 { ta:=some ⟨TB,0,none⟩,tn:=1,tc:=1,types:=[(⟨#[119]⟩,⟨#[]⟩)],ha:=none,hn:=0,hc:=0,hosts:=[],ga:=some ⟨GB,0,none⟩,gn:=1,gc:=1,globals:=[(108,false,9)],fi:=1,mo:=1,fa:=some ⟨FB,0,none⟩,fn:=1,fc:=1,fns:=[(0,⟨#[108]⟩,(some ⟨CB,0,none⟩,1,1),[(6,0,(none,0,0),[])])],da:=some ⟨DB,0,none⟩,dn:=1,dc:=1,data:=[(16,(some ⟨BB,0,none⟩,1,1),[7])],ea:=some ⟨EB,0,none⟩,en:=1,ec:=1,exps:=[(⟨#[102]⟩,0)] }
abbrev kTy : Obj:=.cells #[.string ⟨#[119]⟩,.string ⟨#[]⟩] 55
abbrev kGl : Obj:=.cells #[.int .u8 108,.bool false,.int .u64 9] 80
abbrev kCd : Obj:=.cells #[.int .u8 6,.int .i64 0,.slice none 0 0] 82
abbrev kFn (CB : Nat) : Obj:=.cells #[.int .i64 0,.string ⟨#[108]⟩,.slice (some ⟨CB,0,none⟩) 1 1] 61
abbrev kBy : Obj:=.cells #[.int .u8 7] 5
abbrev kDa (BB : Nat) : Obj:=.cells #[.int .i64 16,.slice (some ⟨BB,0,none⟩) 1 1] 51
abbrev kEx : Obj:=.cells #[.string ⟨#[102]⟩,.int .i64 0] 64
structure KM (w : World) (TB GB FB CB DB BB EB : Nat) : Prop where
 t : w.heap[TB]? = some kTy
 g : w.heap[GB]? = some kGl
 c : w.heap[CB]? = some kCd
 f : w.heap[FB]? = some (kFn CB)
 b : w.heap[BB]? = some kBy
 d : w.heap[DB]? = some (kDa BB)
 e : w.heap[EB]? = some kEx
theorem KM.later {w w' : World} {TB GB FB CB DB BB EB : Nat} (h : KM w TB GB FB CB DB BB EB) (hb : Below w.heap.size w w') : KM w' TB GB FB CB DB BB EB:=⟨blk_later hb h.t,blk_later hb h.g,blk_later hb h.c,blk_later hb h.f,blk_later hb h.b,blk_later hb h.d,blk_later hb h.e⟩
abbrev kV (TB GB FB DB EB : Nat) : Array Value:=#[.slice (some ⟨TB,0,none⟩) 1 1,.slice none 0 0,.slice (some ⟨GB,0,none⟩) 1 1,.int .i64 1,.int .i64 1,.slice (some ⟨FB,0,none⟩) 1 1,.slice (some ⟨DB,0,none⟩) 1 1,.slice (some ⟨EB,0,none⟩) 1 1]
theorem kM_v (TB GB FB CB DB BB EB : Nat) : mV (kM TB GB FB CB DB BB EB) = kV TB GB FB DB EB:=rfl
theorem blk_at {w : World} {n : Nat} {o : Obj} (h : w.heap.size = n) : (w.alloc o).heap[n]? = some o:=by rw [← h]; exact heap_alloc_new w o
theorem one10 (w : World) : Calls Tryz.prog 10 #[] w fun e w' => ∃ TB GB FB CB DB BB EB,e = .returned (.agg (kV TB GB FB DB EB)) ∧ KM w' TB GB FB CB DB BB EB ∧ Below w.heap.size w w':=by
 obtain ⟨W0,hW0⟩ : ∃ W,W = w.alloc (.cells (kV (w.heap.size + 1) (w.heap.size + 1 + 1) (w.heap.size + 1 + 1 + 1 + 1) (w.heap.size + 1 + 1 + 1 + 1 + 1 + 1) (w.heap.size + 1 + 1 + 1 + 1 + 1 + 1 + 1)) 29):=⟨_,rfl⟩
 have z0 : W0.heap.size = w.heap.size + 1:=by rw [hW0]; simp
 have h0 : W0.heap[w.heap.size]? = some (.cells (kV (w.heap.size + 1) (w.heap.size + 1 + 1) (w.heap.size + 1 + 1 + 1 + 1) (w.heap.size + 1 + 1 + 1 + 1 + 1 + 1) (w.heap.size + 1 + 1 + 1 + 1 + 1 + 1 + 1)) 29):=by rw [hW0]; exact heap_alloc_new _ _
 have B0 : Below w.heap.size w W0:=by rw [hW0]; exact below_new _ _
 have B1:=below_new W0 kTy
 have h1 : (W0.alloc kTy).heap[w.heap.size + 1]? = some kTy:=blk_at z0
 have z1 : (W0.alloc kTy).heap.size = w.heap.size + 1 + 1:=by simp [z0]
 have B2:=below_new (W0.alloc kTy) kGl
 have h2 : ((W0.alloc kTy).alloc kGl).heap[w.heap.size + 1 + 1]? = some kGl:=blk_at z1
 have z2 : ((W0.alloc kTy).alloc kGl).heap.size = w.heap.size + 1 + 1 + 1:=by simp [z0]
 have B3:=below_new ((W0.alloc kTy).alloc kGl) kCd
 have h3 : (((W0.alloc kTy).alloc kGl).alloc kCd).heap[w.heap.size + 1 + 1 + 1]? = some kCd:=blk_at z2
 have z3 : (((W0.alloc kTy).alloc kGl).alloc kCd).heap.size = w.heap.size + 1 + 1 + 1 + 1:=by simp [z0]
 have B4:=below_new (((W0.alloc kTy).alloc kGl).alloc kCd) (kFn (w.heap.size + 1 + 1 + 1))
 have h4 : ((((W0.alloc kTy).alloc kGl).alloc kCd).alloc (kFn (w.heap.size + 1 + 1 + 1))).heap[w.heap.size + 1 + 1 + 1 + 1]? = some (kFn (w.heap.size + 1 + 1 + 1)):=blk_at z3
 have z4 : ((((W0.alloc kTy).alloc kGl).alloc kCd).alloc (kFn (w.heap.size + 1 + 1 + 1))).heap.size = w.heap.size + 1 + 1 + 1 + 1 + 1:=by simp [z0]
 have B5:=below_new ((((W0.alloc kTy).alloc kGl).alloc kCd).alloc (kFn (w.heap.size + 1 + 1 + 1))) kBy
 have h5 : (((((W0.alloc kTy).alloc kGl).alloc kCd).alloc (kFn (w.heap.size + 1 + 1 + 1))).alloc kBy).heap[w.heap.size + 1 + 1 + 1 + 1 + 1]? = some kBy:=blk_at z4
 have z5 : (((((W0.alloc kTy).alloc kGl).alloc kCd).alloc (kFn (w.heap.size + 1 + 1 + 1))).alloc kBy).heap.size = w.heap.size + 1 + 1 + 1 + 1 + 1 + 1:=by simp [z0]
 have B6:=below_new (((((W0.alloc kTy).alloc kGl).alloc kCd).alloc (kFn (w.heap.size + 1 + 1 + 1))).alloc kBy) (kDa (w.heap.size + 1 + 1 + 1 + 1 + 1))
 have h6 : ((((((W0.alloc kTy).alloc kGl).alloc kCd).alloc (kFn (w.heap.size + 1 + 1 + 1))).alloc kBy).alloc (kDa (w.heap.size + 1 + 1 + 1 + 1 + 1))).heap[w.heap.size + 1 + 1 + 1 + 1 + 1 + 1]? = some (kDa (w.heap.size + 1 + 1 + 1 + 1 + 1)):=blk_at z5
 have z6 : ((((((W0.alloc kTy).alloc kGl).alloc kCd).alloc (kFn (w.heap.size + 1 + 1 + 1))).alloc kBy).alloc (kDa (w.heap.size + 1 + 1 + 1 + 1 + 1))).heap.size = w.heap.size + 1 + 1 + 1 + 1 + 1 + 1 + 1:=by simp [z0]
 have B7:=below_new ((((((W0.alloc kTy).alloc kGl).alloc kCd).alloc (kFn (w.heap.size + 1 + 1 + 1))).alloc kBy).alloc (kDa (w.heap.size + 1 + 1 + 1 + 1 + 1))) kEx
 have h7 : (((((((W0.alloc kTy).alloc kGl).alloc kCd).alloc (kFn (w.heap.size + 1 + 1 + 1))).alloc kBy).alloc (kDa (w.heap.size + 1 + 1 + 1 + 1 + 1))).alloc kEx).heap[w.heap.size + 1 + 1 + 1 + 1 + 1 + 1 + 1]? = some kEx:=blk_at z6
 have z7 : (((((((W0.alloc kTy).alloc kGl).alloc kCd).alloc (kFn (w.heap.size + 1 + 1 + 1))).alloc kBy).alloc (kDa (w.heap.size + 1 + 1 + 1 + 1 + 1))).alloc kEx).heap.size = w.heap.size + 1 + 1 + 1 + 1 + 1 + 1 + 1 + 1:=by simp [z0]
 have hfin:=(blk_later B7 (blk_later B6 (blk_later B5 (blk_later B4 (blk_later B3 (blk_later B2 (blk_later B1 h0)))))))
 have HK:=hid (show KM (((((((W0.alloc kTy).alloc kGl).alloc kCd).alloc (kFn (w.heap.size + 1 + 1 + 1))).alloc kBy).alloc (kDa (w.heap.size + 1 + 1 + 1 + 1 + 1))).alloc kEx) (w.heap.size + 1) (w.heap.size + 1 + 1) (w.heap.size + 1 + 1 + 1 + 1) (w.heap.size + 1 + 1 + 1) (w.heap.size + 1 + 1 + 1 + 1 + 1 + 1) (w.heap.size + 1 + 1 + 1 + 1 + 1) (w.heap.size + 1 + 1 + 1 + 1 + 1 + 1 + 1) from ⟨(blk_later B7 (blk_later B6 (blk_later B5 (blk_later B4 (blk_later B3 (blk_later B2 h1)))))),(blk_later B7 (blk_later B6 (blk_later B5 (blk_later B4 (blk_later B3 h2))))),(blk_later B7 (blk_later B6 (blk_later B5 (blk_later B4 h3)))),(blk_later B7 (blk_later B6 (blk_later B5 h4))),(blk_later B7 (blk_later B6 h5)),(blk_later B7 h6),h7⟩)
 have HB:=hid (show Below w.heap.size w (((((((W0.alloc kTy).alloc kGl).alloc kCd).alloc (kFn (w.heap.size + 1 + 1 + 1))).alloc kBy).alloc (kDa (w.heap.size + 1 + 1 + 1 + 1 + 1))).alloc kEx) from B0.trans ((B1.trans ((B2.trans ((B3.trans ((B4.trans ((B5.trans ((B6.trans (B7.mono B6.size)).mono B5.size)).mono B4.size)).mono B3.size)).mono B2.size)).mono B1.size)).mono B0.size))
 have HF:=hid hfin
 subst hW0
 clear h0 z0 B0 h1 z1 B1 h2 z2 B2 h3 z3 B3 h4 z4 B4 h5 z5 B5 h6 z6 B6 h7 z7 B7 hfin
 go_enter Tryz.func10,Tryz.ntmps10
 go_wp2_with fail
 exact bodyPost_ret (v:=.agg (kV (w.heap.size + 1) (w.heap.size + 1 + 1) (w.heap.size + 1 + 1 + 1 + 1) (w.heap.size + 1 + 1 + 1 + 1 + 1 + 1) (w.heap.size + 1 + 1 + 1 + 1 + 1 + 1 + 1))) (results_cell_row rfl _ _ w.heap.size 29 _ (0,0) _ rfl HF.out Tryz.underlying29 rfl (by kernel_rfl)) rfl ⟨_,_,_,_,_,_,_,rfl,HK.out,HB.out⟩
theorem kM_ok {W : World} {TB GB FB CB DB BB EB : Nat} (h : KM W TB GB FB CB DB BB EB) : ∀ R g,W.heap.size ≤ R → W.heap.size ≤ g → MOk W R g (kM TB GB FB CB DB BB EB):=by
 intro R g hR hg
 have far : ∀ (b : Nat),b < W.heap.size → Far W R g (some ⟨b,0,none⟩):=fun b hb b' off cc e => by cases e; omega
 have fn : Far W R g none:=fun b off cc e => by cases e
 have lT:=blk_lt h.t
 have lG:=blk_lt h.g
 have lC:=blk_lt h.c
 have lF:=blk_lt h.f
 have lB:=blk_lt h.b
 have lD:=blk_lt h.d
 have lE:=blk_lt h.e
 refine ⟨⟨rfl,.inr ⟨TB,0,rfl,fun j x hj => ?_⟩⟩,far _ lT,⟨rfl,.inl rfl⟩,fn,fun j x hj => by simp [kM] at hj,⟨rfl,.inr ⟨GB,0,rfl,fun j x hj => ?_⟩⟩,far _ lG,fun j x hj => ?_,by simp [kM],by simp [kM],by simp [kM],by simp [kM],⟨rfl,.inr ⟨FB,0,rfl,fun j x hj => ?_⟩⟩,far _ lF,fun j x hj => ?_,⟨rfl,.inr ⟨DB,0,rfl,fun j x hj => ?_⟩⟩,far _ lD,fun j x hj => ?_,⟨rfl,.inr ⟨EB,0,rfl,fun j x hj => ?_⟩⟩,far _ lE,fun j x hj => ?_⟩
 ·match j,hj with
  | 0,hj =>
   obtain rfl:=Option.some.inj hj
   exact ⟨cell_at h.t,cell_at h.t⟩
  | j + 1,hj => simp [kM] at hj
 ·match j,hj with
  | 0,hj =>
   obtain rfl:=Option.some.inj hj
   exact ⟨cell_at h.g,cell_at h.g,cell_at h.g⟩
  | j + 1,hj => simp [kM] at hj
 ·match j,hj with
  | 0,hj =>
   obtain rfl:=Option.some.inj hj
   simp
  | j + 1,hj => simp [kM] at hj
 ·match j,hj with
  | 0,hj =>
   obtain rfl:=Option.some.inj hj
   exact ⟨cell_at h.f,cell_at h.f,cell_at h.f⟩
  | j + 1,hj => simp [kM] at hj
 ·match j,hj with
  | 0,hj =>
   obtain rfl:=Option.some.inj hj
   refine ⟨by simp,⟨rfl,.inr ⟨CB,0,rfl,fun i y hi => ?_⟩⟩,(far _ lC).nz _,fun i y hi' => ?_⟩
   ·match i,hi with
    | 0,hi =>
     obtain rfl:=Option.some.inj hi
     exact ⟨cell_at h.c,cell_at h.c,cell_at h.c⟩
    | i + 1,hi => simp at hi
   ·match i,hi' with
    | 0,hi =>
     obtain rfl:=Option.some.inj hi
     exact ⟨by simp,by simp,⟨rfl,Nat.zero_le _,Nat.zero_le _,fun z hz => by simp at hz,.inl rfl⟩,fn.nz _⟩
    | i + 1,hi => simp at hi
  | j + 1,hj => simp [kM] at hj
 ·match j,hj with
  | 0,hj =>
   obtain rfl:=Option.some.inj hj
   exact ⟨cell_at h.d,cell_at h.d⟩
  | j + 1,hj => simp [kM] at hj
 ·match j,hj with
  | 0,hj =>
   obtain rfl:=Option.some.inj hj
   refine ⟨by simp,⟨rfl,Nat.le_refl _,by simp,fun z hz => by simp at hz; omega,.inr ⟨BB,0,rfl,fun j hj => ?_⟩⟩,(far _ lB).nz _⟩
   have hj : j < 1:=hj
   obtain rfl : j = 0:=by omega
   exact cell_at h.b
  | j + 1,hj => simp [kM] at hj
 ·match j,hj with
  | 0,hj =>
   obtain rfl:=Option.some.inj hj
   exact ⟨cell_at h.e,cell_at h.e⟩
  | j + 1,hj => simp [kM] at hj
 ·match j,hj with
  | 0,hj =>
   obtain rfl:=Option.some.inj hj
   simp
  | j + 1,hj => simp [kM] at hj
section
variable {TB GB FB CB DB BB EB : Nat}
theorem capK : ∀ x ∈ (kM TB GB FB CB DB BB EB).fns,x.2.2.1.2.1 ≤ x.2.2.1.2.2:=by simp [kM]
theorem chkK : chkMM (kM TB GB FB CB DB BB EB) = 0:=by kernel_rfl
abbrev coK : List InM:=[(6,0,(none,0,0),[])]
theorem erK : ∀ i,i < 1 → erA (kM TB GB FB CB DB BB EB) (strBytes ((⟨#[119]⟩ : ByteArray) ++ ⟨#[108]⟩)) (coK.map inx) ⟨#[]⟩ 1 i = 0
 | 0,_ => by kernel_rfl
 | i + 1,h => absurd h (by omega)
theorem reK : (res (opF (coK.map inx)) 1 0).1 = 0:=by kernel_rfl
theorem okK : ¬ BadM (kM TB GB FB CB DB BB EB):=by
 rintro (h | ⟨k,x,E,pc,hx,hE,_⟩)
 ·exact h chkK
 ·match k,hx with
  | 0,hx =>
   obtain rfl:=Option.some.inj hx
   rcases hE with ⟨hr,_⟩ | ⟨_,P,Q,hP,j,hj,_,hj2,_⟩
   ·exact hr reK
   ·obtain ⟨rfl,rfl⟩:=Prod.mk.inj (Option.some.inj hP)
    exact hj2 (erK j hj)
  | k + 1,hx => simp [kM] at hx
theorem funK {k : Nat} {y : FuM} {P : ByteArray} (h : FunX (kM TB GB FB CB DB BB EB) ⟨#[102]⟩ k y P) : k = 0 ∧ y = (0,⟨#[108]⟩,(some ⟨CB,0,none⟩,1,1),coK) ∧ P = ⟨#[119]⟩:=by
 obtain ⟨j,x,Q,⟨hx,_,_⟩,hk,hy,hP⟩:=h
 match j,hx with
 | 0,hx =>
  obtain rfl:=Option.some.inj hx
  have hk : (0 : Int) = (k : Int):=hk
  obtain rfl : k = 0:=by omega
  obtain rfl:=Option.some.inj hy
  obtain ⟨rfl,rfl⟩:=Prod.mk.inj (Option.some.inj hP)
  exact ⟨rfl,rfl,rfl⟩
 | j + 1,hx => simp [kM] at hx
end
section
variable {TB GB FB CB DB BB EB : Nat}
theorem fndK (w : World) (hk : KindsOk w) (h : KM w TB GB FB CB DB BB EB) : Calls Tryz.prog 14 #[.agg (kV TB GB FB DB EB),.string ⟨#[102]⟩] w fun e w' => e = .returned (.tuple #[.int .i64 0,.int .i64 0]) ∧ Below w.heap.size w w':=by
 have hm:=fnd14 (kM TB GB FB CB DB BB EB) ⟨#[102]⟩ w hk hk.pos (kM_ok h) capK
 rw [kM_v] at hm
 refine hm.mono (fun e w' hO => ?_)
 refine ⟨?_,hO.1⟩
 rcases hO.2 with ⟨hb,_⟩ | ⟨_,hno,_⟩ | ⟨_,j,x,hx,_,_,he⟩
 ·exact absurd hb okK
 ·exact absurd rfl (hno 0 (⟨#[102]⟩,0) rfl)
 ·match j,hx with
  | 0,hx =>
   obtain rfl:=Option.some.inj hx
   exact he
  | j + 1,hx => simp [kM] at hx
theorem sigRes {W : World} {TB : Nat} {t0 t1 ev : Value} {tmps : Array Value} (bT : W.heap[TB]? = some (.cells #[t0,t1] 55)) (h4 : tmps[4]? = some (.pointer (some ⟨TB,0,none⟩))) (h5 : tmps[5]? = some ev) :
  (results Tryz.f11 tmps).run Tryz.prog W = .ok (.tuple #[.agg #[t0,t1],ev]) W:=by
 have c0 : W.cell? ⟨TB,0,none⟩ = some t0:=cell_at bT
 have c1 : W.cell? ⟨TB,1,none⟩ = some t1:=cell_at bT
 simp [results,Tryz.results11,go_sem,h4,h5,c0,c1]
theorem sig11 (w : World) (hk : KindsOk w) (h : KM w TB GB FB CB DB BB EB) : Calls Tryz.prog 11 #[.agg (kV TB GB FB DB EB),.string ⟨#[102]⟩] w fun e w' => e = .returned (.tuple #[.agg #[.string ⟨#[119]⟩,.string ⟨#[]⟩],.int .i64 0]) ∧ Below w.heap.size w w':=by
 have B1:=below_new w (.cells (kV TB GB FB DB EB) 29)
 have B2:=below_new (w.alloc (.cells (kV TB GB FB DB EB) 29)) (.cells #[.string ⟨#[]⟩,.string ⟨#[]⟩] 55)
 have B0 : Below w.heap.size w ((w.alloc (.cells (kV TB GB FB DB EB) 29)).alloc (.cells #[.string ⟨#[]⟩,.string ⟨#[]⟩] 55)):=B1.trans (B2.mono B1.size)
 have b0:=blk_later B2 (heap_alloc_new w (.cells (kV TB GB FB DB EB) 29))
 have b1 : ((w.alloc (.cells (kV TB GB FB DB EB) 29)).alloc (.cells #[.string ⟨#[]⟩,.string ⟨#[]⟩] 55)).heap[w.heap.size + 1]? = some (.cells #[.string ⟨#[]⟩,.string ⟨#[]⟩] 55):=blk_at (by simp)
 have HE:=hid (fndK (TB:=TB) (GB:=GB) (FB:=FB) (CB:=CB) (DB:=DB) (BB:=BB) (EB:=EB) _ (hk.later B0 hk.pos) (h.later B0))
 have HKM:=hid (h.later B0)
 have HBK:=hid (And.intro B0 (And.intro b0 b1))
 have c0 : ((w.alloc (.cells (kV TB GB FB DB EB) 29)).alloc (.cells #[.string ⟨#[]⟩,.string ⟨#[]⟩] 55)).cell? ⟨w.heap.size,0,none⟩ = some (.slice (some ⟨TB,0,none⟩) 1 1):=cell_at b0
 have c1 : ((w.alloc (.cells (kV TB GB FB DB EB) 29)).alloc (.cells #[.string ⟨#[]⟩,.string ⟨#[]⟩] 55)).cell? ⟨w.heap.size,1,none⟩ = some (.slice none 0 0):=cell_at b0
 have c2 : ((w.alloc (.cells (kV TB GB FB DB EB) 29)).alloc (.cells #[.string ⟨#[]⟩,.string ⟨#[]⟩] 55)).cell? ⟨w.heap.size,2,none⟩ = some (.slice (some ⟨GB,0,none⟩) 1 1):=cell_at b0
 have c3 : ((w.alloc (.cells (kV TB GB FB DB EB) 29)).alloc (.cells #[.string ⟨#[]⟩,.string ⟨#[]⟩] 55)).cell? ⟨w.heap.size,3,none⟩ = some (.int .i64 1):=cell_at b0
 have c4 : ((w.alloc (.cells (kV TB GB FB DB EB) 29)).alloc (.cells #[.string ⟨#[]⟩,.string ⟨#[]⟩] 55)).cell? ⟨w.heap.size,4,none⟩ = some (.int .i64 1):=cell_at b0
 have c5 : ((w.alloc (.cells (kV TB GB FB DB EB) 29)).alloc (.cells #[.string ⟨#[]⟩,.string ⟨#[]⟩] 55)).cell? ⟨w.heap.size,5,none⟩ = some (.slice (some ⟨FB,0,none⟩) 1 1):=cell_at b0
 have c6 : ((w.alloc (.cells (kV TB GB FB DB EB) 29)).alloc (.cells #[.string ⟨#[]⟩,.string ⟨#[]⟩] 55)).cell? ⟨w.heap.size,6,none⟩ = some (.slice (some ⟨DB,0,none⟩) 1 1):=cell_at b0
 have c7 : ((w.alloc (.cells (kV TB GB FB DB EB) 29)).alloc (.cells #[.string ⟨#[]⟩,.string ⟨#[]⟩] 55)).cell? ⟨w.heap.size,7,none⟩ = some (.slice (some ⟨EB,0,none⟩) 1 1):=cell_at b0
 clear hk h B0 B1 B2 b0 b1
 go_enter Tryz.func11,Tryz.ntmps11
 go_wp2_with fail
 refine HE.out.mono ?_
 rintro e w2 ⟨rfl,hb2⟩
 have hB2 : Below w.heap.size w w2:=HBK.out.1.trans (hb2.mono HBK.out.1.size)
 have t0:=blk_later hb2 HBK.out.2.1
 have t1:=blk_later hb2 HBK.out.2.2
 have K2:=HKM.out.later hb2
 have d0 : w2.cell? ⟨w.heap.size,0,none⟩ = some (.slice (some ⟨TB,0,none⟩) 1 1):=cell_at t0
 have d5 : w2.cell? ⟨w.heap.size,5,none⟩ = some (.slice (some ⟨FB,0,none⟩) 1 1):=cell_at t0
 have y0 : w2.cell? ⟨FB,0,none⟩ = some (.int .i64 0):=cell_at K2.f
 have s0 : w2.cell? ⟨TB,0,none⟩ = some (.string ⟨#[119]⟩):=cell_at K2.t
 have s1 : w2.cell? ⟨TB,1,none⟩ = some (.string ⟨#[]⟩):=cell_at K2.t
 have a0 : w2.cell? ⟨w.heap.size + 1,0,none⟩ = some (.string ⟨#[]⟩):=cell_at t1
 have a1 : w2.cell? ⟨w.heap.size + 1,1,none⟩ = some (.string ⟨#[]⟩):=cell_at t1
 have f0 : w2.frozen? ⟨w.heap.size + 1,0,none⟩ = false:=free_at t1
 have f1 : w2.frozen? ⟨w.heap.size + 1,1,none⟩ = false:=free_at t1
 have HT:=hid (And.intro hB2 t1)
 clear hb2 hB2 t0 t1 K2 HE HKM HBK c0 c1 c2 c3 c4 c5 c6 c7
 go_wp2_with fail
 go_region
 go_wp2_with fail
 have z:=setBlk (i:=1) (u:=.string ⟨#[]⟩) (setBlk (i:=0) (u:=.string ⟨#[119]⟩) HT.out.2)
 have zk:=(kept_set w2 (w.heap.size + 1) 0 (.string ⟨#[119]⟩)).trans (kept_set _ (w.heap.size + 1) 1 (.string ⟨#[]⟩))
 refine bodyPost_ret (v:=.tuple #[.agg #[.string ⟨#[119]⟩,.string ⟨#[]⟩],.int .i64 0]) (sigRes (blk_later (below_drewN _ 1) z) rfl rfl) rfl ⟨rfl,?_⟩
 have hz:=HT.out.1.size
 exact (HT.out.1.trans (zk.to_below hz (fun q hq e => by have e : q = w.heap.size + 1:=e; omega))).trans ((below_drewN _ 1).mono (Nat.le_trans hz zk.size))
theorem begK (a : Nat) (w : World) (hk : KindsOk w) (h : KM w TB GB FB CB DB BB EB) (hz : w.heap[a]? = some (.cells #[.int .u64 5] 53)) : Calls Tryz.prog 7 #[.agg (kV TB GB FB DB EB),.string ⟨#[102]⟩,.slice (some ⟨a,0,none⟩) 1 1] w fun e w' => Below w.heap.size w w' ∧ ∃ XB YB LB R LO,e = .returned (.tuple #[.agg (begV XB YB LB 1 1),.int .i64 0]) ∧
   w'.heap[XB]? = some (.cells #[.int .i64 0,.int .i64 0,.slice (some ⟨LO,0,none⟩) 2 2,.slice none 0 0] 47) ∧ RB .u64 53 w' LO 2 (locF [5]) ∧ RB .u64 53 w' YB 1 (glF [(108,false,9)]) ∧ w'.heap[LB]? = some (.cells (pgL R 1).toArray 49) ∧ RB .u8 5 w' R (1 * 4096) (layA [(16,(some ⟨BB,0,none⟩,1,1),[7])]):=by
 have hc : ∀ j,j < 1 → w.cell? ⟨a,0 + j,none⟩ = some (.int .u64 (([5] : List Int).getD j 0)):=by
  intro j hj
  obtain rfl : j = 0:=by omega
  exact cell_at hz
 have hs : SegW w (some ⟨a,0,none⟩) 1 1 [5]:=⟨rfl,Nat.le_refl _,by omega,fun z hz => by simp at hz; omega,.inr ⟨a,0,rfl,hc⟩⟩
 have hm:=beg7 (kM TB GB FB CB DB BB EB) ⟨#[102]⟩ _ 1 1 [5] w hk hk.pos (kM_ok h) capK hs
 rw [kM_v] at hm
 refine hm.mono (fun e w' hO => ⟨hO.1,?_⟩)
 rcases hO.2 with ⟨E,_,hE,_⟩ | ⟨XB,YB,LB,R,LO,n,hB,he⟩
 ·exfalso
  rcases hE with hE | ⟨_,hno⟩ | ⟨k,y,P,hX,hall⟩
  ·exact okK hE
  ·exact hno 0 (⟨#[102]⟩,0) rfl rfl
  ·obtain ⟨_,_,rfl⟩:=funK hX
   have : allB [5] ⟨#[119]⟩ = true:=by kernel_rfl
   rw [this] at hall; cases hall
 ·have hn : n = 1:=by have h1 : (1 : Int) = (n : Int):=hB.fi; omega
  subst hn
  obtain ⟨k,y,P,hX,_,h1,h2⟩:=hB.fn
  obtain ⟨rfl,rfl,rfl⟩:=funK hX
  exact ⟨XB,YB,LB,R,LO,he,h1,h2,hB.gl,hB.pg,hB.by_⟩
theorem begN (w : World) (hk : KindsOk w) (h : KM w TB GB FB CB DB BB EB) : Calls Tryz.prog 7 #[.agg (kV TB GB FB DB EB),.string ⟨#[103]⟩,.slice none 0 0] w fun e w' => Below w.heap.size w w' ∧ e = .returned (.tuple #[zSv,.int .i64 41]):=by
 have hs : SegW w none 0 0 []:=⟨rfl,Nat.le_refl _,by omega,fun z hz => by simp at hz,.inl rfl⟩
 have hm:=beg7 (kM TB GB FB CB DB BB EB) ⟨#[103]⟩ _ 0 0 [] w hk hk.pos (kM_ok h) capK hs
 rw [kM_v] at hm
 refine hm.mono (fun e w' hO => ⟨hO.1,?_⟩)
 have none_ : ∀ (j : Nat) x,(kM TB GB FB CB DB BB EB).exps[j]? = some x → x.1 ≠ ⟨#[103]⟩:=fun j x hx => by
  match j,hx with
  | 0,hx =>
   obtain rfl:=Option.some.inj hx
   intro e
   have:=congrArg (fun b : ByteArray => b.data.toList) e
   simp at this
  | j + 1,hx => simp [kM] at hx
 rcases hO.2 with ⟨E,_,hE,he⟩ | ⟨XB,YB,LB,R,LO,n,hB,he⟩
 ·rcases hE with hE | ⟨rfl,_⟩ | ⟨k,y,P,⟨j,x,Q,⟨hx,hn,_⟩,_⟩,_⟩
  ·exact absurd hE okK
  ·exact he
  ·exact absurd hn (none_ j x hx)
 ·obtain ⟨k,y,P,⟨j,x,Q,⟨hx,hn,_⟩,_⟩,_⟩:=hB.fn
  exact absurd hn (none_ j x hx)
end
def SI (k : IntKind) (w : World) (a : Option Addr) (n : Nat) (l : List Int) : Prop :=
 l.length = n ∧ (n = 0 ∨ ∃ b off,a = some ⟨b,off,none⟩ ∧ ∀ (j : Nat) x,l[j]? = some x → w.cell? ⟨b,off + j,none⟩ = some (.int k x))
theorem SI.later {k : IntKind} {w w' : World} {a : Option Addr} {n : Nat} {l : List Int} (h : SI k w a n l) (hb : Below w.heap.size w w') : SI k w' a n l :=
 ⟨h.1,h.2.imp id fun ⟨b,off,e,hc⟩ => ⟨b,off,e,fun j x hj => later_cell hb (hc j x hj)⟩⟩
def lE {α : Type} (f : α → α → Bool) (l1 l2 : List α) : Bool:=decide (l1.length = l2.length) && (List.range l1.length).all fun i => (l1[i]?).elim true fun x => (l2[i]?).elim true (f x)
theorem lE_len {α : Type} {f : α → α → Bool} {l1 l2 : List α} (h : l1.length ≠ l2.length) : lE f l1 l2 = false:=by simp [lE,h]
theorem lE_no {α : Type} {f : α → α → Bool} {l1 l2 : List α} {i : Nat} {x y : α} (hx : l1[i]? = some x) (hy : l2[i]? = some y) (h : f x y = false) : lE f l1 l2 = false:=by
 have hi:=lt_of_get hx
 unfold lE
 rw [Bool.and_eq_false_iff]
 right
 rw [List.all_eq_false]
 exact ⟨i,List.mem_range.2 hi,by simp [hx,hy,h]⟩
theorem lE_yes {α : Type} {f : α → α → Bool} {l1 l2 : List α} (hl : l1.length = l2.length) (h : ∀ (i : Nat) x y,l1[i]? = some x → l2[i]? = some y → f x y = true) : lE f l1 l2 = true:=by
 unfold lE
 rw [Bool.and_eq_true]
 refine ⟨by simp [hl],?_⟩
 rw [List.all_eq_true]
 intro i hi
 cases hx : l1[i]? with
 | none => simp
 | some x =>
  cases hy : l2[i]? with
  | none => simp
  | some y => simpa using h i x y hx hy
def iE (x y : Int) : Bool:=decide (x = y)
theorem eqI23_in (b1 o1 b2 o2 n c1 c2 : Nat) (l1 l2 : List Int) (w : World) (h1 : l1.length = n) (h2 : l2.length = n) (hn : n ≤ 1099511627776)
  (hc1 : ∀ (j : Nat) x,l1[j]? = some x → w.cell? ⟨b1,o1 + j,none⟩ = some (.int .u64 x))
  (hc2 : ∀ (j : Nat) x,l2[j]? = some x → w.cell? ⟨b2,o2 + j,none⟩ = some (.int .u64 x)) :
  Calls Tryz.prog 12 #[.slice (some ⟨b1,o1,none⟩) n c1,.slice (some ⟨b2,o2,none⟩) n c2] w fun e w' => e = .returned (.bool (lE iE l1 l2)) ∧ Below w.heap.size w w':=by
 have hne : ((n : Int) != n) = false:=by simp
 have C1:=hid hc1
 have C2:=hid hc2
 clear hc1 hc2
 go_enter Tryz.func12,Tryz.ntmps12
 go_wp2
 go_loopw [5] (fun i wr => ∃ k m : Nat,k ≤ n ∧ i = .int .i64 k ∧ wr = w.drewN m ∧ Hid (∀ (i : Nat) x y,i < k → l1[i]? = some x → l2[i]? = some y → iE x y = true)) (fun i _ => n - (intOf i).toNat)
 case atStart => exact ⟨0,0,by omega,rfl,rfl,hid (fun i x y hi => by omega)⟩
 case round =>
  obtain ⟨k,m,hk,rfl,rfl,HE⟩:=hrel
  by_cases hlt : k < n
  ·obtain ⟨x,hx⟩ : ∃ x,l1[k]? = some x:=⟨_,List.getElem?_eq_getElem (by omega)⟩
   obtain ⟨y,hy⟩ : ∃ y,l2[k]? = some y:=⟨_,List.getElem?_eq_getElem (by omega)⟩
   have g1 : w.cell? ⟨b1,o1 + k,none⟩ = some (.int .u64 x):=C1.out k x hx
   have g2 : w.cell? ⟨b2,o2 + k,none⟩ = some (.int .u64 y):=C2.out k y hy
   have hlt' : (k : Int) < (n : Int):=by omega
   have HX:=hid hx
   have HY:=hid hy
   clear hx hy C1 C2
   by_cases hxy : x = y
   ·subst hxy
    have hb : (x != x) = false:=by simp
    go_wp2
    go_quiet (fail)
    go_wp2
    exact ⟨⟨k + 1,m + nq,by omega,by go_num,rfl,hid (fun i x' y' hi hx' hy' => by
     by_cases hik : i < k
     ·exact HE.out i x' y' hik hx' hy'
     ·obtain rfl : i = k:=by omega
      rw [HX.out] at hx'; rw [HY.out] at hy'
      injection hx' with e1; injection hy' with e2
      subst e1; subst e2
      simp [iE])⟩,by simp [intOf]; omega⟩
   ·have hb : (x != y) = true:=by simp [hxy]
    go_wp2
    go_quiet (fail)
    go_wp2
    go_ret
    exact ⟨by rw [lE_no HX.out HY.out (by simp [iE,hxy])]; rfl,(below_drewN w m).trans ((below_drewN (w.drewN m) nq).mono (Nat.le_of_eq (by simp)))⟩
  ·clear C1 C2
   obtain rfl : k = n:=by omega
   go_wp2
   go_ret
   exact ⟨by rw [lE_yes (by omega) (fun i x y hx hy => HE.out i x y (by have:=lt_of_get hx; omega) hx hy)]; rfl,below_drewN _ _⟩
theorem eqI23_len (a1 a2 : Option Addr) (n1 n2 c1 c2 : Nat) (l1 l2 : List Int) (w : World) (h1 : l1.length = n1) (h2 : l2.length = n2) (hne : n1 ≠ n2) :
  Calls Tryz.prog 12 #[.slice a1 n1 c1,.slice a2 n2 c2] w fun e w' => e = .returned (.bool (lE iE l1 l2)) ∧ Below w.heap.size w w':=by
 have hb : ((n1 : Int) != n2) = true:=by simp; omega
 have HV:=hid (lE_len (f:=iE) (l1:=l1) (l2:=l2) (by omega))
 go_enter Tryz.func12,Tryz.ntmps12
 go_wp2
 go_ret
 exact ⟨by rw [HV.out]; rfl,Below.refl _ _⟩
theorem eqI23_none (a1 a2 : Option Addr) (c1 c2 : Nat) (w : World) :
  Calls Tryz.prog 12 #[.slice a1 0 c1,.slice a2 0 c2] w fun e w' => e = .returned (.bool (lE iE [] [])) ∧ Below w.heap.size w w':=by
 go_enter Tryz.func12,Tryz.ntmps12
 go_wp2
 refine wp_loop_rounds 1 ?_
 rw [rounds_succ]
 go_wp2
 go_ret
 exact ⟨rfl,Below.refl _ _⟩
theorem eqI23 (a1 a2 : Option Addr) (n1 n2 c1 c2 : Nat) (l1 l2 : List Int) (w : World) (h1 : SI .u64 w a1 n1 l1) (h2 : SI .u64 w a2 n2 l2) (hn : n1 ≤ 1099511627776) :
  Calls Tryz.prog 12 #[.slice a1 n1 c1,.slice a2 n2 c2] w fun e w' => e = .returned (.bool (lE iE l1 l2)) ∧ Below w.heap.size w w':=by
 by_cases hne : n1 = n2
 ·subst hne
  obtain ⟨hz1,g1⟩:=h1
  obtain ⟨hz2,g2⟩:=h2
  by_cases h0 : n1 = 0
  ·subst h0
   obtain rfl:=List.eq_nil_of_length_eq_zero hz1
   obtain rfl:=List.eq_nil_of_length_eq_zero hz2
   exact eqI23_none a1 a2 c1 c2 w
  obtain ⟨b1,o1,rfl,e1⟩:=g1.resolve_left h0
  obtain ⟨b2,o2,rfl,e2⟩:=g2.resolve_left h0
  exact eqI23_in b1 o1 b2 o2 n1 c1 c2 l1 l2 w hz1 hz2 hn e1 e2
 ·exact eqI23_len a1 a2 n1 n2 c1 c2 l1 l2 w h1.1 h2.1 hne
theorem si_rb {k : IntKind} {e : TypeId} {w : World} {B n : Nat} {f : Nat → Int} {l : List Int} (h : RB k e w B n f) (hl : (List.range n).map f = l) : SI k w (some ⟨B,0,none⟩) n l:=by
 subst hl
 refine ⟨by simp,.inr ⟨B,0,rfl,fun j x hj => ?_⟩⟩
 have hj':=lt_of_get hj
 simp at hj'
 rw [List.getElem?_map,List.getElem?_range hj'] at hj
 injection hj with hj
 rw [Nat.zero_add,h.cell j hj',← hj]
structure WkS (w W : World) (SB XB YB LB R LO BB : Nat) : Prop where
 b : Below w.heap.size w W
 s : W.heap[SB]? = some (.cells #[.slice (some ⟨XB,0,none⟩) 1 1,.slice (some ⟨YB,0,none⟩) 1 1,.slice (some ⟨LB,0,none⟩) 1 1,.int .i64 0,.int .i8 1,.slice none 0 0,.int .i8 0,.int .i64 0] 37)
 x : W.heap[XB]? = some (.cells #[.int .i64 0,.int .i64 0,.slice (some ⟨LO,0,none⟩) 2 2,.slice none 0 0] 47)
 l : RB .u64 53 W LO 2 (locF [5])
 y : RB .u64 53 W YB 1 (glF [(108,false,9)])
 p : W.heap[LB]? = some (.cells (pgL R 1).toArray 49)
 r : RB .u8 5 W R (1 * 4096) (layA [(16,(some ⟨BB,0,none⟩,1,1),[7])])
theorem WkS.later {w W W' : World} {SB XB YB LB R LO BB : Nat} (h : WkS w W SB XB YB LB R LO BB) (hb : Below W.heap.size W W') : WkS w W' SB XB YB LB R LO BB :=
 ⟨h.b.trans (hb.mono h.b.size),blk_later hb h.s,blk_later hb h.x,h.l.later hb,h.y.later hb,blk_later hb h.p,h.r.later hb⟩
theorem works5 (w : World) (hk : KindsOk w) : Calls Tryz.prog 5 #[] w fun e w' => e = .returned (.bool true) ∧ Below w.heap.size w w':=by
 have HK:=hid (fun (W : World) (hb : Below w.heap.size w W) => hk.later hb hk.pos)
 have H1:=hid (fun (W : World) => one10 W)
 clear hk
 go_enter Tryz.func5,Tryz.ntmps5
 go_wp2_with fail
 refine (H1.out _).mono ?_
 rintro e w1 ⟨TB,GB,FB,CB,DB,BB,EB,rfl,km1,hb1⟩
 have Ba:=below_new w1 (.cells #[.int .u64 5] 53)
 have HBeg:=hid (begK (TB:=TB) (GB:=GB) (FB:=FB) (CB:=CB) (DB:=DB) (BB:=BB) (EB:=EB) w1.heap.size (w1.alloc (.cells #[.int .u64 5] 53)) (HK.out _ (hb1.trans (Ba.mono hb1.size))) (km1.later Ba) (heap_alloc_new _ _))
 have HBa:=hid (hb1.trans (Ba.mono hb1.size))
 clear km1 hb1 Ba
 go_wp2_with fail
 refine HBeg.out.mono ?_
 rintro e w2 ⟨hb2,XB,YB,LB,R,LO,rfl,x1,x2,x3,x4,x5⟩
 have hB2:=HBa.out.trans (hb2.mono HBa.out.size)
 have hS:=below_new w2 (.cells (begV XB YB LB 1 1) 37)
 have HW : Hid (WkS w (w2.alloc (.cells (begV XB YB LB 1 1) 37)) w2.heap.size XB YB LB R LO BB):=hid ⟨hB2.trans (hS.mono hB2.size),heap_alloc_new _ _,blk_later hS x1,x2.later hS,x3.later hS,blk_later hS x4,x5.later hS⟩
 clear hb2 x1 x2 x3 x4 x5 HBeg HBa hB2 hS
 unfold begV at HW ⊢
 go_wp2_with fail
 refine (H1.out _).mono ?_
 rintro e w3 ⟨TB,GB,FB,CB,DB,BB2,EB,rfl,km3,hb3⟩
 have HW3:=hid (HW.out.later hb3)
 have HSg:=hid (sig11 (TB:=TB) (GB:=GB) (FB:=FB) (CB:=CB) (DB:=DB) (BB:=BB2) (EB:=EB) w3 (HK.out _ HW3.out.b) km3)
 clear HW km3 hb3
 go_wp2_with fail
 refine HSg.out.mono ?_
 rintro e w4 ⟨rfl,hb4⟩
 have hS:=below_new w4 (.cells #[.string ⟨#[119]⟩,.string ⟨#[]⟩] 55)
 have HW4:=hid ((HW3.out.later hb4).later hS)
 have HG4:=hid (heap_alloc_new w4 (.cells #[.string ⟨#[119]⟩,.string ⟨#[]⟩] 55))
 clear hb4 hS HW3 HSg
 go_wp2_with fail
 refine (H1.out _).mono ?_
 rintro e w5 ⟨TB,GB,FB,CB,DB,BB3,EB,rfl,km5,hb5⟩
 have HW5:=hid (HW4.out.later hb5)
 have HG5:=hid (blk_later hb5 HG4.out)
 have HBn:=hid (begN (TB:=TB) (GB:=GB) (FB:=FB) (CB:=CB) (DB:=DB) (BB:=BB3) (EB:=EB) w5 (HK.out _ HW5.out.b) km5)
 clear km5 hb5 HW4 HG4
 go_wp2_with fail
 refine HBn.out.mono ?_
 rintro e w6 ⟨hb6,rfl⟩
 have hS:=below_new w6 zSt
 have HW6:=hid ((HW5.out.later hb6).later hS)
 have HG6:=hid (blk_later hS (blk_later hb6 HG5.out))
 clear hb6 hS HW5 HG5 HBn
 have g0 : (w6.alloc zSt).cell? ⟨w4.heap.size,0,none⟩ = some (.string ⟨#[119]⟩):=cell_at HG6.out
 have g1 : (w6.alloc zSt).cell? ⟨w4.heap.size,1,none⟩ = some (.string ⟨#[]⟩):=cell_at HG6.out
 have s0 : (w6.alloc zSt).cell? ⟨w2.heap.size,0,none⟩ = some (.slice (some ⟨XB,0,none⟩) 1 1):=cell_at HW6.out.s
 have s1 : (w6.alloc zSt).cell? ⟨w2.heap.size,1,none⟩ = some (.slice (some ⟨YB,0,none⟩) 1 1):=cell_at HW6.out.s
 have s2 : (w6.alloc zSt).cell? ⟨w2.heap.size,2,none⟩ = some (.slice (some ⟨LB,0,none⟩) 1 1):=cell_at HW6.out.s
 have s4 : (w6.alloc zSt).cell? ⟨w2.heap.size,4,none⟩ = some (.int .i8 1):=cell_at HW6.out.s
 have x2 : (w6.alloc zSt).cell? ⟨XB,2,none⟩ = some (.slice (some ⟨LO,0,none⟩) 2 2):=cell_at HW6.out.x
 have p0 : (w6.alloc zSt).cell? ⟨LB,0,none⟩ = some (.slice (some ⟨R,0,none⟩) 4096 4096):=cell_at HW6.out.p
 have r0 : (w6.alloc zSt).cell? ⟨R,16,none⟩ = some (.int .u8 7):=HW6.out.r.cell 16 (by omega)
 have hA:=below_new (w6.alloc zSt) (.cells #[.int .u64 5,.int .u64 0] 53)
 have hnA : ((w6.alloc zSt).alloc (.cells #[.int .u64 5,.int .u64 0] 53)).heap[w6.heap.size + 1]? = some (.cells #[.int .u64 5,.int .u64 0] 53):=blk_at (by simp)
 have HQ1:=hid (eqI23 (some ⟨LO,0,none⟩) (some ⟨w6.heap.size + 1,0,none⟩) 2 2 2 2 [5,0] [5,0] ((w6.alloc zSt).alloc (.cells #[.int .u64 5,.int .u64 0] 53)) (si_rb (l:=[5,0]) (HW6.out.later hA).l rfl) ⟨rfl,.inr ⟨_,0,rfl,fun j x hj => by
  match j,hj with
  | 0,hj => obtain rfl:=Option.some.inj hj; exact cell_at hnA
  | 1,hj => obtain rfl:=Option.some.inj hj; exact cell_at hnA
  | j + 2,hj => simp at hj⟩⟩ (by omega))
 have HW7:=hid (HW6.out.later hA)
 have hE : lE iE ([5,0] : List Int) [5,0] = true:=by kernel_rfl
 rw [hE] at HQ1
 clear hE hA hnA HW6 HG6
 go_wp2_with fail
 refine HQ1.out.mono ?_
 rintro e w7 ⟨rfl,hb7⟩
 have HW8:=hid (HW7.out.later hb7)
 clear hb7 HW7 HQ1 g0 g1 s0 s1 s2 s4 x2 p0 r0
 have s1 : w7.cell? ⟨w2.heap.size,1,none⟩ = some (.slice (some ⟨YB,0,none⟩) 1 1):=cell_at HW8.out.s
 have hA:=below_new w7 (.cells #[.int .u64 9] 53)
 have HQ2:=hid (eqI23 (some ⟨YB,0,none⟩) (some ⟨w7.heap.size,0,none⟩) 1 1 1 1 [9] [9] (w7.alloc (.cells #[.int .u64 9] 53)) (si_rb (l:=[9]) (HW8.out.later hA).y rfl) ⟨rfl,.inr ⟨_,0,rfl,fun j x hj => by
  match j,hj with
  | 0,hj => obtain rfl:=Option.some.inj hj; exact cell_at (heap_alloc_new w7 (.cells #[.int .u64 9] 53))
  | j + 1,hj => simp at hj⟩⟩ (by omega))
 have HW9:=hid (HW8.out.later hA)
 have hE : lE iE ([9] : List Int) [9] = true:=by kernel_rfl
 rw [hE] at HQ2
 clear hE hA HW8
 go_wp2_with fail
 refine HQ2.out.mono ?_
 rintro e w8 ⟨rfl,hb8⟩
 have HWx:=hid (HW9.out.later hb8)
 clear hb8 HW9 HQ2 s1
 have s2 : w8.cell? ⟨w2.heap.size,2,none⟩ = some (.slice (some ⟨LB,0,none⟩) 1 1):=cell_at HWx.out.s
 have s4 : w8.cell? ⟨w2.heap.size,4,none⟩ = some (.int .i8 1):=cell_at HWx.out.s
 have p0 : w8.cell? ⟨LB,0,none⟩ = some (.slice (some ⟨R,0,none⟩) 4096 4096):=cell_at HWx.out.p
 have r0 : w8.cell? ⟨R,16,none⟩ = some (.int .u8 7):=HWx.out.r.cell 16 (by omega)
 go_wp2_with fail
 go_ret
 exact ⟨rfl,HWx.out.b⟩
theorem size29_nil (a : Option Addr) (cap : Nat) (w : World) : Calls Tryz.prog 13 #[.slice a 0 cap] w fun e w' => e = .returned (.int .i64 0) ∧ w' = w:=by
 go_enter Tryz.func13,Tryz.ntmps13
 go_wp2_with fail
 refine wp_loop_rounds 1 ?_
 rw [rounds_succ]
 go_wp2_with fail
 go_ret
 exact ⟨rfl,rfl⟩
def szG : List InM → Nat → Nat
 | [],z => z
 | x :: r,z => if z ≤ 2147483647 then szG r (z + x.2.2.1.2.1) else z
theorem szG_pos {x : InM} {r : List InM} {z : Nat} (h : z ≤ 2147483647) : szG (x :: r) z = szG r (z + x.2.2.1.2.1):=by simp [szG,h]
theorem szG_neg {x : InM} {r : List InM} {z : Nat} (h : ¬ z ≤ 2147483647) : szG (x :: r) z = z:=by simp [szG,h]
end Go.Proofs.YtepcmfegggdjfaaGreatDoor

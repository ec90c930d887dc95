/-
  Texts Xa Xb Xd Vii.
-/
import Derived.ArgAppend
import Derived.Below
import Derived.BigQuiet
import Derived.Deep.AppendLies
import Derived.Deep.CutRange
import Derived.Deep.OwnRows
import Derived.Deep.QuietTactic
import Derived.Deep.RegionHeld3
import Derived.Deep.RegionWith
import Derived.Defers
import Derived.Ground.Names2Prog
import Derived.KernelRfl
import Derived.Laws.AppendOwnNone
import Derived.Laws.BitsAllLaws
import Derived.Laws.BytesArg
import Derived.Lib.Bytealg
import Derived.Lib.CutLaws
import Derived.Lib.SlBytesConst
import Derived.LoopIn
import Derived.LoopNIn
import Derived.OwnWalkIn
import Derived.RangeFuncBox
import Derived.RangeFuncCalls
import Derived.RangeFuncLeaves
import Derived.RangeFuncWrites
import Derived.Recover
import Derived.RegionDies
import Derived.RowKit
import Derived.Shelf.Abstract
import Derived.Shelf.LaysM
import Derived.Shelf.RegionOpen
import Derived.Shelf.Slices.Cells
import Derived.Shelf.Slices.CompactI
import Derived.Shelf.Slices.In.SortNone
import Derived.Shelf.Sort.Plain
import Derived.Shelf.Strings.Search1
import Derived.Shelf.Strings.Search2
import Derived.Shelf.Strings.Search3
import Derived.Shelf.Strings.Shaped
import Derived.Shelf.Unicode.DecodeSlow
import Derived.TacticsInMore
import Derived.Test.YtepnnenohjfkbaaGreatDoorProg
import Derived.WalkKit
import Derived.WalkLawsBesides
import Derived.WalkMore
import Derived.WalkSpells
import Derived.Test.YtepnnenohjfkbaaGreatDoorR33
import Derived.Test.YtepnnenohjfkbaaGreatDoorS00
import Derived.Test.YtepnnenohjfkbaaGreatDoorS01
set_option linter.unusedVariables false
set_option maxRecDepth 100000
set_option maxHeartbeats 16000000
namespace Go.Proofs.YtepnnenohjfkbaaGreatDoor
open Go.RowKit
def oneM (TB FB : Nat) (ca : Option Addr) (n c : Nat) (co : List InM) : MM :=
 { ta:=some ⟨TB,0,none⟩,tn:=1,tc:=1,types:=[(⟨#[]⟩,⟨#[119]⟩)],ha:=none,hn:=0,hc:=0,hosts:=[],ga:=none,gn:=0,gc:=0,globals:=[],fi:=0,mo:=0,fa:=some ⟨FB,0,none⟩,fn:=1,fc:=1,fns:=[(0,⟨#[]⟩,(ca,n,c),co)],da:=none,dn:=0,dc:=0,data:=[],ea:=none,en:=0,ec:=0,exps:=[] }
theorem one28 (ca : Option Addr) (n c : Nat) (co : List InM) (w : World) :
  Calls Tryz.prog 28 #[.slice ca n c] w fun e w' => ∃ TB FB,e = .returned (.agg (mV (oneM TB FB ca n c co))) ∧ w.heap.size ≤ TB ∧ w.heap.size ≤ FB ∧ w'.heap[TB]? = some (.cells #[.string ⟨#[]⟩,.string ⟨#[119]⟩] 62) ∧ w'.heap[FB]? = some (.cells #[.int .i64 0,.string ⟨#[]⟩,.slice ca n c] 42) ∧ Below w.heap.size w w':=by
 go_enter Tryz.func28,Tryz.ntmps28
 go_wp2_with fail
 obtain ⟨W0,hW0⟩ : ∃ W,W = w.alloc (Obj.cells #[.slice (some ⟨w.heap.size + 1,0,none⟩) 1 1,.slice none 0 0,.slice none 0 0,.int .i64 0,.int .i64 0,.slice (some ⟨w.heap.size + 1 + 1,0,none⟩) 1 1,.slice none 0 0,.slice none 0 0] 29):=⟨_,rfl⟩
 have z0 : W0.heap.size = w.heap.size + 1:=by rw [hW0]; simp
 have h0 : W0.heap[w.heap.size]? = some (Obj.cells #[.slice (some ⟨w.heap.size + 1,0,none⟩) 1 1,.slice none 0 0,.slice none 0 0,.int .i64 0,.int .i64 0,.slice (some ⟨w.heap.size + 1 + 1,0,none⟩) 1 1,.slice none 0 0,.slice none 0 0] 29):=by rw [hW0]; exact heap_alloc_new _ _
 have B0 : Below w.heap.size w W0:=by rw [hW0]; exact below_new _ _
 rw [← hW0]
 have B1:=below_new W0 (.cells #[.string ⟨#[]⟩,.string ⟨#[119]⟩] 62)
 have h1:=heap_alloc_new W0 (.cells #[.string ⟨#[]⟩,.string ⟨#[119]⟩] 62)
 have z1 : (W0.alloc (.cells #[.string ⟨#[]⟩,.string ⟨#[119]⟩] 62)).heap.size = w.heap.size + 1 + 1:=by simp [z0]
 rw [z0] at h1
 have h01:=blk_later B1 h0
 generalize W0.alloc (.cells #[.string ⟨#[]⟩,.string ⟨#[119]⟩] 62) = W1 at *
 have B2:=below_new W1 (.cells #[.int .i64 0,.string ⟨#[]⟩,.slice ca n c] 42)
 have h2:=heap_alloc_new W1 (.cells #[.int .i64 0,.string ⟨#[]⟩,.slice ca n c] 42)
 rw [z1] at h2
 have h02:=blk_later B2 h01
 have h12:=blk_later B2 h1
 generalize W1.alloc (.cells #[.int .i64 0,.string ⟨#[]⟩,.slice ca n c] 42) = W2 at *
 have c0 : W2.cell? ⟨w.heap.size,0,none⟩ = some (.slice (some ⟨w.heap.size + 1,0,none⟩) 1 1):=cell_at h02
 have c1 : W2.cell? ⟨w.heap.size,1,none⟩ = some (.slice none 0 0):=cell_at h02
 have c2 : W2.cell? ⟨w.heap.size,2,none⟩ = some (.slice none 0 0):=cell_at h02
 have c3 : W2.cell? ⟨w.heap.size,3,none⟩ = some (.int .i64 0):=cell_at h02
 have c4 : W2.cell? ⟨w.heap.size,4,none⟩ = some (.int .i64 0):=cell_at h02
 have c5 : W2.cell? ⟨w.heap.size,5,none⟩ = some (.slice (some ⟨w.heap.size + 1 + 1,0,none⟩) 1 1):=cell_at h02
 have c6 : W2.cell? ⟨w.heap.size,6,none⟩ = some (.slice none 0 0):=cell_at h02
 have c7 : W2.cell? ⟨w.heap.size,7,none⟩ = some (.slice none 0 0):=cell_at h02
 refine bodyPost_ret (v:=.agg (mV (oneM (w.heap.size + 1) (w.heap.size + 1 + 1) ca n c co))) (by simp [results,Tryz.results28,go_sem,c0,c1,c2,c3,c4,c5,c6,c7,mV,oneM]) rfl ⟨_,_,rfl,by omega,by omega,h12,h2,B0.trans ((B1.trans (B2.mono B1.size)).mono B0.size)⟩
theorem oneM_ok {W : World} {TB FB : Nat} {ca : Option Addr} {n c : Nat} {co : List InM} (hT : W.heap[TB]? = some (.cells #[.string ⟨#[]⟩,.string ⟨#[119]⟩] 62)) (hF : W.heap[FB]? = some (.cells #[.int .i64 0,.string ⟨#[]⟩,.slice ca n c] 42)) (hc : AtIn W ca n co)
  (ha : ∀ b off cc,ca = some ⟨b,off,cc⟩ → b < W.heap.size) (hi : ∀ y ∈ co,0 ≤ y.1 ∧ y.1 ≤ 255 ∧ y.2.2.1 = (none,0,0) ∧ y.2.2.2 = []) :
  ∀ R g,W.heap.size ≤ R → W.heap.size ≤ g → MOk W R g (oneM TB FB ca n c co):=by
 intro R g hR hg
 have far : ∀ (a : Option Addr),(∀ b off cc,a = some ⟨b,off,cc⟩ → b < W.heap.size) → Far W R g a:=fun a h b off cc hb => by have:=h b off cc hb; omega
 have lT : TB < W.heap.size:=blk_lt hT
 have lF : FB < W.heap.size:=blk_lt hF
 have fn : Far W R g none:=far none (fun b off cc h => by cases h)
 refine ⟨⟨rfl,.inr ⟨TB,0,rfl,fun j x hj => ?_⟩⟩,far _ (fun b off cc h => by cases h; exact lT),⟨rfl,.inl rfl⟩,fn,fun j x hj => by simp [oneM] at hj,⟨rfl,.inl rfl⟩,fn,fun j x hj => by simp [oneM] at hj,by simp [oneM],by simp [oneM],by simp [oneM],by simp [oneM],⟨rfl,.inr ⟨FB,0,rfl,fun j x hj => ?_⟩⟩,far _ (fun b off cc h => by cases h; exact lF),fun j x hj => ?_,⟨rfl,.inl rfl⟩,fn,fun j x hj => by simp [oneM] at hj,⟨rfl,.inl rfl⟩,fn,fun j x hj => by simp [oneM] at hj⟩
 ·match j,hj with
  | 0,hj =>
   obtain rfl:=Option.some.inj hj
   exact ⟨cell_at hT,cell_at hT⟩
  | j + 1,hj => simp [oneM] at hj
 ·match j,hj with
  | 0,hj =>
   obtain rfl:=Option.some.inj hj
   exact ⟨cell_at hF,cell_at hF,cell_at hF⟩
  | j + 1,hj => simp [oneM] at hj
 ·match j,hj with
  | 0,hj =>
   obtain rfl:=Option.some.inj hj
   refine ⟨by simp,hc,(far _ ha).nz _,fun i y hi' => ?_⟩
   obtain ⟨h1,h2,h3,h4⟩:=hi y (List.mem_of_getElem? hi')
   refine ⟨h1,h2,?_,?_⟩
   ·rw [h3,h4]; exact ⟨rfl,Nat.zero_le _,Nat.zero_le _,fun z hz => by simp at hz,.inl rfl⟩
   ·rw [h3]; exact fn.nz _
  | j + 1,hj => simp [oneM] at hj
def inn (c a : Int) : InM:=(c,a,(none,0,0),[])
def co1 : List InM:=[inn 2 0,inn 24 1,inn 7 0,inn 6 0,inn 6 0]
def co2 : List InM:=[inn 24 0,inn 24 0,inn 6 0]
theorem chk1 (TB FB : Nat) (ca : Option Addr) (n c : Nat) : chkMM (oneM TB FB ca n c co1) = 0:=by kernel_rfl
theorem chk2 (TB FB : Nat) (ca : Option Addr) (n c : Nat) : chkMM (oneM TB FB ca n c co2) = 0:=by kernel_rfl
theorem er1 (TB FB : Nat) (ca : Option Addr) : ∀ i,i < 5 → erA (oneM TB FB ca 5 5 co1) (strBytes ((⟨#[]⟩ : ByteArray) ++ ⟨#[]⟩)) (co1.map inx) ⟨#[119]⟩ 5 i = 0
 | 0,_ => by kernel_rfl
 | 1,_ => by kernel_rfl
 | 2,_ => by kernel_rfl
 | 3,_ => by kernel_rfl
 | 4,_ => by kernel_rfl
 | i + 5,h => absurd h (by omega)
theorem er2 (TB FB : Nat) (ca : Option Addr) : ∀ i,i < 2 → erA (oneM TB FB ca 3 3 co2) (strBytes ((⟨#[]⟩ : ByteArray) ++ ⟨#[]⟩)) (co2.map inx) ⟨#[119]⟩ 3 i = 0
 | 0,_ => by kernel_rfl
 | 1,_ => by kernel_rfl
 | i + 2,h => absurd h (by omega)
theorem er2x (TB FB : Nat) (ca : Option Addr) : erA (oneM TB FB ca 3 3 co2) (strBytes ((⟨#[]⟩ : ByteArray) ++ ⟨#[]⟩)) (co2.map inx) ⟨#[119]⟩ 3 2 = 33:=by kernel_rfl
theorem re1 : (res (opF (co1.map inx)) 5 0).1 = 0:=by kernel_rfl
theorem re2 : (res (opF (co2.map inx)) 3 0).1 = 0:=by kernel_rfl
theorem sh1 (TB FB : Nat) (ca : Option Addr) : (stA (oneM TB FB ca 5 5 co1) (strBytes ((⟨#[]⟩ : ByteArray) ++ ⟨#[]⟩)) (co1.map inx) ⟨#[119]⟩ 5 5).sh = [⟨#[]⟩,⟨#[]⟩,⟨#[119]⟩,⟨#[119]⟩,⟨#[119]⟩]:=by kernel_rfl
theorem hi1 (TB FB : Nat) (ca : Option Addr) : (stA (oneM TB FB ca 5 5 co1) (strBytes ((⟨#[]⟩ : ByteArray) ++ ⟨#[]⟩)) (co1.map inx) ⟨#[119]⟩ 5 5).hi = 1:=by kernel_rfl
theorem out1 {TB FB : Nat} {ca : Option Addr} {w w' : World} {e : Ending} (h : OutM (oneM TB FB ca 5 5 co1) w e w') : Below w.heap.size w w' ∧ ∃ TT SH,w.heap.size ≤ TT ∧ w.heap.size ≤ SH ∧ e = .returned (.tuple #[.slice (some ⟨TT,0,none⟩) 1 1,.int .i64 0,.int .i64 0,.int .i64 0]) ∧
  w'.cell? ⟨TT,0,none⟩ = some (.slice (some ⟨SH,0,none⟩) 5 5) ∧ w'.cell? ⟨TT,4,none⟩ = some (.int .i64 1) ∧ ∀ (j : Nat) x,[(⟨#[]⟩ : ByteArray),⟨#[]⟩,⟨#[119]⟩,⟨#[119]⟩,⟨#[119]⟩][j]? = some x → w'.cell? ⟨SH,j,none⟩ = some (.string x):=by
 refine ⟨h.1,?_⟩
 rcases h.2 with ⟨h1,_⟩ | ⟨_,k,x,E,pc,hx,hE,hE0,_,_⟩ | ⟨_,TT,arr,hTT,he,hA,hs,ht⟩
 ·exact absurd (chk1 _ _ _ _ _) h1
 ·exfalso
  match k,hx with
  | 0,hx =>
   obtain rfl:=Option.some.inj hx
   rcases hE with ⟨hr,_⟩ | ⟨_,P,Q,hP,j,hj,_,hj2,_⟩
   ·exact hr re1
   ·obtain ⟨rfl,rfl⟩:=Prod.mk.inj (Option.some.inj hP)
    exact hj2 (er1 TB FB ca j hj)
  | k + 1,hx => simp [oneM] at hx
 ·obtain ⟨t,hT,hq⟩:=ht 0 (0,⟨#[]⟩,(ca,5,5),co1) rfl
  obtain ⟨_,P,Q,hP,_,SH,EN,EL,FL,l1,_,_,_,rfl,r1,_⟩:=hT
  obtain ⟨rfl,rfl⟩:=Prod.mk.inj (Option.some.inj hP)
  have hsz : arr.size = 5:=hs
  have h0:=hq 0 (by omega)
  have h4:=hq 4 (by omega)
  have hh:=hi1 TB FB ca
  refine ⟨TT,SH,hTT,by omega,he,?_,?_,fun j x hj => ?_⟩
  ·rw [cell_at hA]; exact h0
  ·rw [cell_at hA]
   refine h4.trans ?_
   show some (Value.int .i64 ((stA (oneM TB FB ca 5 5 co1) (strBytes ((⟨#[]⟩ : ByteArray) ++ ⟨#[]⟩)) (co1.map inx) ⟨#[119]⟩ 5 5).hi : Int)) = _
   rw [hh]; rfl
  ·rw [sh1] at r1
   rw [r1.cell j (by have:=lt_of_get hj; simpa using this),List.getElem?_map,hj]; rfl
theorem out2 {TB FB : Nat} {ca : Option Addr} {w w' : World} {e : Ending} (h : OutM (oneM TB FB ca 3 3 co2) w e w') : Below w.heap.size w w' ∧ e = .returned (.tuple #[.slice none 0 0,.int .i64 33,.int .i64 0,.int .i64 2]):=by
 refine ⟨h.1,?_⟩
 rcases h.2 with ⟨h1,_⟩ | ⟨_,k,x,E,pc,hx,hE,hE0,_,he⟩ | ⟨_,TT,arr,hTT,he,hA,hs,ht⟩
 ·exact absurd (chk2 _ _ _ _ _) h1
 ·match k,hx with
  | 0,hx =>
   obtain rfl:=Option.some.inj hx
   rcases hE with ⟨hr,_⟩ | ⟨_,P,Q,hP,j,hj,hz,hj2,rfl,rfl⟩
   ·exact absurd re2 hr
   ·obtain ⟨rfl,rfl⟩:=Prod.mk.inj (Option.some.inj hP)
    have hj3 : j < 3:=hj
    have : j = 2:=by
     rcases Nat.lt_or_ge j 2 with h | h
     ·exact absurd (er2 TB FB ca j h) hj2
     ·omega
    subst this
    rw [he]
    have hx2:=er2x TB FB ca
    show Ending.returned (.tuple #[_,.int .i64 (erA (oneM TB FB ca 3 3 co2) (strBytes ((⟨#[]⟩ : ByteArray) ++ ⟨#[]⟩)) (co2.map inx) ⟨#[119]⟩ 3 2),_,_]) = _
    rw [hx2]; rfl
  | k + 1,hx => simp [oneM] at hx
 ·exfalso
  obtain ⟨t,hT,hq⟩:=ht 0 (0,⟨#[]⟩,(ca,3,3),co2) rfl
  obtain ⟨_,P,Q,hP,hz,_⟩:=hT
  obtain ⟨rfl,rfl⟩:=Prod.mk.inj (Option.some.inj hP)
  have h3 : erA (oneM TB FB ca 3 3 co2) (strBytes ((⟨#[]⟩ : ByteArray) ++ ⟨#[]⟩)) (co2.map inx) ⟨#[119]⟩ 3 2 = 0:=hz 2 (by show 2 < 3; omega)
  have hx2:=er2x TB FB ca
  rw [h3] at hx2
  exact absurd hx2 (by decide)
theorem at1 {W : World} {B : Nat} (h : W.heap[B]? = some (.cells #[.int .u8 2,.int .i64 0,.slice none 0 0,.int .u8 24,.int .i64 1,.slice none 0 0,.int .u8 7,.int .i64 0,.slice none 0 0,.int .u8 6,.int .i64 0,.slice none 0 0,.int .u8 6,.int .i64 0,.slice none 0 0] 51)) : AtIn W (some ⟨B,0,none⟩) 5 co1:=by
 refine ⟨rfl,.inr ⟨B,0,rfl,fun j x hj => ?_⟩⟩
 match j,hj with
 | 0,hj | 1,hj | 2,hj | 3,hj | 4,hj =>
  obtain rfl:=Option.some.inj hj
  exact ⟨cell_at h,cell_at h,cell_at h⟩
 | j + 5,hj => simp [co1] at hj
theorem at2 {W : World} {B : Nat} (h : W.heap[B]? = some (.cells #[.int .u8 24,.int .i64 0,.slice none 0 0,.int .u8 24,.int .i64 0,.slice none 0 0,.int .u8 6,.int .i64 0,.slice none 0 0] 51)) : AtIn W (some ⟨B,0,none⟩) 3 co2:=by
 refine ⟨rfl,.inr ⟨B,0,rfl,fun j x hj => ?_⟩⟩
 match j,hj with
 | 0,hj | 1,hj | 2,hj =>
  obtain rfl:=Option.some.inj hj
  exact ⟨cell_at h,cell_at h,cell_at h⟩
 | j + 3,hj => simp [co2] at hj
theorem co1_ok : ∀ y ∈ co1,0 ≤ y.1 ∧ y.1 ≤ 255 ∧ y.2.2.1 = (none,0,0) ∧ y.2.2.2 = []:=by simp [co1,inn]
theorem co2_ok : ∀ y ∈ co2,0 ≤ y.1 ∧ y.1 ≤ 255 ∧ y.2.2.1 = (none,0,0) ∧ y.2.2.2 = []:=by simp [co2,inn]
theorem cap1 {TB FB : Nat} {ca : Option Addr} {n : Nat} {co : List InM} : ∀ x ∈ (oneM TB FB ca n n co).fns,x.2.2.1.2.1 ≤ x.2.2.1.2.2:=by simp [oneM]
theorem works8 (w : World) (hk : KindsOk w) (hp : 0 < w.heap.size) : Calls Tryz.prog 8 #[] w fun e w' => e = .returned (.bool true) ∧ Below w.heap.size w w':=by
 have HK:=hid hk
 clear hk
 have B1:=below_new w (.cells #[.int .u8 2,.int .i64 0,.slice none 0 0,.int .u8 24,.int .i64 1,.slice none 0 0,.int .u8 7,.int .i64 0,.slice none 0 0,.int .u8 6,.int .i64 0,.slice none 0 0,.int .u8 6,.int .i64 0,.slice none 0 0] 51)
 have h1:=heap_alloc_new w (.cells #[.int .u8 2,.int .i64 0,.slice none 0 0,.int .u8 24,.int .i64 1,.slice none 0 0,.int .u8 7,.int .i64 0,.slice none 0 0,.int .u8 6,.int .i64 0,.slice none 0 0,.int .u8 6,.int .i64 0,.slice none 0 0] 51)
 have HB1:=hid (And.intro B1 h1)
 clear B1 h1
 go_enter Tryz.func8,Tryz.ntmps8
 go_wp2_with fail
 generalize w.alloc (.cells #[.int .u8 2,.int .i64 0,.slice none 0 0,.int .u8 24,.int .i64 1,.slice none 0 0,.int .u8 7,.int .i64 0,.slice none 0 0,.int .u8 6,.int .i64 0,.slice none 0 0,.int .u8 6,.int .i64 0,.slice none 0 0] 51) = W1 at *
 refine (one28 (some ⟨w.heap.size,0,none⟩) 5 5 co1 W1).mono ?_
 rintro e w2 ⟨TB,FB,rfl,l1,l2,hT,hF,hb⟩
 have hB2 : Below w.heap.size w w2:=HB1.out.1.trans (hb.mono HB1.out.1.size)
 have hcd:=blk_later hb HB1.out.2
 have HM:=hid (module10 (oneM TB FB (some ⟨w.heap.size,0,none⟩) 5 5 co1) w2 (HK.out.later hB2 hp) (Nat.lt_of_lt_of_le hp hB2.size) (oneM_ok hT hF (at1 hcd) (fun b off cc hh => by cases hh; exact blk_lt hcd) co1_ok) cap1)
 have HB2:=hid hB2
 clear hB2 hT hF hb hcd l1 l2
 generalize mV (oneM TB FB (some ⟨w.heap.size,0,none⟩) 5 5 co1) = mv at *
 go_wp2_with fail
 refine HM.out.mono ?_
 intro e w3 hO
 obtain ⟨hb3,TT,SH,t1,t2,rfl,c0,c4,hsh⟩:=out1 hO
 have hB3 : Below w.heap.size w w3:=HB2.out.trans (hb3.mono HB2.out.size)
 have lTT : TT < w3.heap.size:=block_lt_of_cell c0
 have HS:=hid (And.intro c0 (And.intro c4 hsh))
 have HB3:=hid hB3
 clear hb3 hO c0 c4 hsh hB3 t1 t2 HM HB2 HB1
 have B4:=below_new w3 (.cells #[.int .u8 24,.int .i64 0,.slice none 0 0,.int .u8 24,.int .i64 0,.slice none 0 0,.int .u8 6,.int .i64 0,.slice none 0 0] 51)
 have h4:=heap_alloc_new w3 (.cells #[.int .u8 24,.int .i64 0,.slice none 0 0,.int .u8 24,.int .i64 0,.slice none 0 0,.int .u8 6,.int .i64 0,.slice none 0 0] 51)
 have HB4:=hid (And.intro B4 h4)
 clear B4 h4
 go_wp2_with fail
 generalize w3.alloc (.cells #[.int .u8 24,.int .i64 0,.slice none 0 0,.int .u8 24,.int .i64 0,.slice none 0 0,.int .u8 6,.int .i64 0,.slice none 0 0] 51) = W4 at *
 refine (one28 (some ⟨w3.heap.size,0,none⟩) 3 3 co2 W4).mono ?_
 rintro e w5 ⟨TB2,FB2,rfl,l1,l2,hT,hF,hb⟩
 have hB35 : Below w3.heap.size w3 w5:=HB4.out.1.trans (hb.mono HB4.out.1.size)
 have hB5 : Below w.heap.size w w5:=HB3.out.trans (hB35.mono HB3.out.size)
 have hcd:=blk_later hb HB4.out.2
 have HM:=hid (module10 (oneM TB2 FB2 (some ⟨w3.heap.size,0,none⟩) 3 3 co2) w5 (HK.out.later hB5 hp) (Nat.lt_of_lt_of_le hp hB5.size) (oneM_ok hT hF (at2 hcd) (fun b off cc hh => by cases hh; exact blk_lt hcd) co2_ok) cap1)
 have HB5:=hid (And.intro hB5 hB35)
 clear hB5 hT hF hb hcd l1 l2 hB35
 generalize mV (oneM TB2 FB2 (some ⟨w3.heap.size,0,none⟩) 3 3 co2) = mv2 at *
 go_wp2_with fail
 refine HM.out.mono ?_
 intro e w6 hO
 obtain ⟨hb6,rfl⟩:=out2 hO
 have hB36 : Below w3.heap.size w3 w6:=HB5.out.2.trans (hb6.mono HB5.out.2.size)
 have HB6:=hid (HB5.out.1.trans (hb6.mono HB5.out.1.size))
 have c0:=later_cell hB36 HS.out.1
 have c4:=later_cell hB36 HS.out.2.1
 have hsh : ∀ (j : Nat) x,[(⟨#[]⟩ : ByteArray),⟨#[]⟩,⟨#[119]⟩,⟨#[119]⟩,⟨#[119]⟩][j]? = some x → w6.cell? ⟨SH,j,none⟩ = some (.string x):=fun j x hj => later_cell hB36 (HS.out.2.2 j x hj)
 have B7:=below_new w6 (.cells #[.string ⟨#[]⟩,.string ⟨#[]⟩,.string ⟨#[119]⟩,.string ⟨#[119]⟩,.string ⟨#[119]⟩] 9)
 have h7:=heap_alloc_new w6 (.cells #[.string ⟨#[]⟩,.string ⟨#[]⟩,.string ⟨#[119]⟩,.string ⟨#[119]⟩,.string ⟨#[119]⟩] 9)
 have HEQ:=hid (eqt19 SH w6.heap.size 5 5 5 [(⟨#[]⟩ : ByteArray),⟨#[]⟩,⟨#[119]⟩,⟨#[119]⟩,⟨#[119]⟩] _ rfl (by omega) (fun j x hj => later_cell B7 (hsh j x hj)) (fun j x hj => by
  match j,hj with
  | 0,hj | 1,hj | 2,hj | 3,hj | 4,hj =>
   obtain rfl:=Option.some.inj hj
   exact cell_at h7
  | j + 5,hj => simp at hj))
 have C4:=hid (later_cell B7 c4)
 have HB7:=hid (HB6.out.trans (B7.mono HB6.out.size))
 clear hB36 hsh hb6 hO HM h7 B7 HB5 HB4
 go_wp2_with fail
 generalize w6.alloc (.cells #[.string ⟨#[]⟩,.string ⟨#[]⟩,.string ⟨#[119]⟩,.string ⟨#[119]⟩,.string ⟨#[119]⟩] 9) = W7 at *
 refine HEQ.out.mono ?_
 rintro e w8 ⟨rfl,q,rfl⟩
 have c4 : (W7.drewN q).cell? ⟨TT,4,none⟩ = some (.int .i64 1):=later_cell (below_drewN _ q) C4.out
 have HB8:=hid (HB7.out.trans ((below_drewN W7 q).mono HB7.out.size))
 clear HEQ
 generalize W7.drewN q = W8 at *
 go_wp2_with fail
 go_ret
 exact ⟨rfl,HB8.out⟩
def Fl (w : World) (a : Option Addr) (n : Nat) (fl : List Value) : Prop:=n = 0 ∨ ∃ b off,a = some ⟨b,off,none⟩ ∧ ∀ (j : Nat) y,fl[j]? = some y → w.cell? ⟨b,off + j,none⟩ = some y
theorem size29_nil (a : Option Addr) (cap : Nat) (w : World) : Calls Tryz.prog 29 #[.slice a 0 cap] w fun e w' => e = .returned (.int .i64 0) ∧ w' = w:=by
 go_enter Tryz.func29,Tryz.ntmps29
 go_wp2_with fail
 refine wp_loop_rounds 1 ?_
 rw [rounds_succ]
 go_wp2_with fail
 go_ret
 exact ⟨rfl,rfl⟩
def szG : List InM → Nat → Nat
 | [],z => z
 | x :: r,z => if z ≤ 2147483647 then szG r (z + x.2.2.1.2.1) else z
theorem szG_pos {x : InM} {r : List InM} {z : Nat} (h : z ≤ 2147483647) : szG (x :: r) z = szG r (z + x.2.2.1.2.1):=by simp [szG,h]
theorem szG_neg {x : InM} {r : List InM} {z : Nat} (h : ¬ z ≤ 2147483647) : szG (x :: r) z = z:=by simp [szG,h]
structure SzB (w : World) (m : MM) : Prop where
 tn : m.tn ≤ 140737488355328
 hn : m.hn ≤ 140737488355328
 gn : m.gn ≤ 140737488355328
 fn : m.fn ≤ 140737488355328
 dn : m.dn ≤ 140737488355328
 en : m.en ≤ 140737488355328
 t : ∀ (j : Nat) x,m.types[j]? = some x → x.1.size ≤ 1099511627776 ∧ x.2.size ≤ 1099511627776
 f : ∀ (j : Nat) x,m.fns[j]? = some x → x.2.1.size ≤ 1099511627776 ∧ x.2.2.1.2.1 ≤ 140737488355328 ∧ AtIn w x.2.2.1.1 x.2.2.1.2.1 x.2.2.2 ∧ ∀ (i : Nat) y,x.2.2.2[i]? = some y → y.2.2.1.2.1 ≤ 1099511627776
 d : ∀ (j : Nat) x,m.data[j]? = some x → x.2.1.2.1 ≤ 1099511627776
 e : ∀ (j : Nat) x,m.exps[j]? = some x → x.1.size ≤ 1099511627776
end Go.Proofs.YtepnnenohjfkbaaGreatDoor

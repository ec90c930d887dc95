/-
  Texts Cf Cg Ch.
-/
import Derived.Test.YtkdldbfbldkkcaaGreatDoorM00
import Derived.Test.YtkdldbfbldkkcaaGreatDoorM39
import Derived.Test.YtkdldbfbldkkcaaGreatDoorM42
import Derived.Test.YtkdldbfbldkkcaaGreatDoorM44
set_option linter.unusedVariables false
set_option maxRecDepth 100000
set_option maxHeartbeats 16000000
namespace Go.Proofs.YtkdldbfbldkkcaaGreatDoor
open Go.RowKit
structure Clo (ab : Bool) (W0 : World) (v : Value) : Prop where
 ex : ∃ f cs,v = fnv f cs ∧ (∀ (args : Array Value) (w : World),(callFunc f args).run Tryz.prog w = .ok (.enter f args) w) ∧ ∀ W,Below W0.heap.size W0 W → Calls Tryz.prog f cs W fun e w' => e = .returned (.bool ab) ∧ Below W.heap.size W w'
theorem eJ {P : Program} {f : FuncId} {args : Array Value} {w : World} {v : Value} (h : Calls P f args w fun e w' => e = .returned v ∧ w' = w) : Calls P f args w fun e w' => e = .returned v ∧ Below w.heap.size w w' :=
 h.mono fun e w' ⟨h1,h2⟩ => ⟨h1,by rw [h2]; exact Below.refl _ _⟩
theorem c43 (MB S : Nat) (mv : Array Value) (ga sa : Option Addr) (gn gc sn sc : Nat) (xs : List Gl) (vs : List Int) (w : World) (h2 : w.cell? ⟨MB,2,none⟩ = some (.slice ga gn gc)) (h1 : w.cell? ⟨S,1,none⟩ = some (.slice sa sn sc)) (hx : na w ga gn xs) (hv : SI .u64 w sa sn vs) (hn : gn ≤ 1048576) :
  Calls Tryz.prog 33 #[pt MB,pt S] w fun e w' => e = .returned (.bool (lZ glB xs vs)) ∧ Below w.heap.size w w':=by
 have HH:=hid (My ga sa gn sn gc sc xs vs w hx hv hn);clear hx hv
 go_enter Tryz.func33,Tryz.ntmps33
 go_wp2_with fail;refine HH.out.mono ?_;rintro e w1 ⟨rfl,hb⟩;go_wp2_with fail;go_ret;exact ⟨rfl,hb⟩
theorem c45 (MB S : Nat) (pa : Option Addr) (pn pc : Nat) (f m : Int) (l : List PgM) (w : World) (h2 : w.cell? ⟨S,2,none⟩ = some (.slice pa pn pc)) (h3 : w.cell? ⟨MB,3,none⟩ = some (.int .i64 f)) (h4 : w.cell? ⟨MB,4,none⟩ = some (.int .i64 m)) (hp : SPg w pa pn l) (hn : pn ≤ 140737488355328) (hs : ∀ x ∈ l,x.1.2.1 ≤ 140737488355328) :
  Calls Tryz.prog 35 #[pt S,pt MB] w fun e w' => e = .returned (.bool (whB pn f m l)) ∧ w' = w:=by
 have HH:=hid (Ni pa pn pc f m l w hp hn hs);clear hp hs
 go_enter Tryz.func35,Tryz.ntmps35
 go_wp2_with fail;refine HH.out.mono ?_;rintro e w1 ⟨rfl,hw⟩;have hw:=hw.symm;subst hw;exact jd
def Kj (b7 b8 b9 : Bool) (fn rn pn : Nat) (tr us rep fi mo : Int) (xs : List Gl) (gs : List Int) (ps : List PgM) (sb : Nat → Bool) : Nat → Bool
 | 0 => b7 || (b8 || b9)
 | 1 => a2 b7 fn
 | 2 => a3 b8 rn
 | 3 => a4 b9 tr
 | 4 => decide (0 ≤ us) && decide (us ≤ 4611686018427387904)
 | 5 => decide (0 ≤ rep)
 | 6 => lZ glB xs gs
 | 7 => whB pn fi mo ps
 | i + 8 => sb i
theorem c47 (MB TX SX KB gb go_ fn fc i : Nat) (m : MM) (xa : Option Addr) (xn xc : Nat) (ab : Bool) (w : World) (hi : i < fn) (hfc : fn ≤ fc) (hfn : fn ≤ 281474976710656) (hM : w.heap[MB]? = some (aR m.ta m.tn m.tc m.ha m.hn m.hc m.ga m.gn m.gc m.fi m.mo m.fa m.fn m.fc m.da m.dn m.dc m.ea m.en m.ec)) (hX : w.cell? ⟨TX,0,none⟩ = some (.slice xa xn xc)) (hS : w.cell? ⟨SX,0,none⟩ = some (.slice (some ⟨gb,go_,none⟩) fn fc)) (hK : w.cell? ⟨KB,0,none⟩ = some (.int .i64 i))
  (H : ∀ W,Below w.heap.size w W → Calls Tryz.prog 38 #[.agg #[.slice m.ta m.tn m.tc,.slice m.ha m.hn m.hc,.slice m.ga m.gn m.gc,.int .i64 m.fi,.int .i64 m.mo,.slice m.fa m.fn m.fc,.slice m.da m.dn m.dc,.slice m.ea m.en m.ec],.slice xa xn xc,.slice (some ⟨gb,go_ + i * 4,none⟩) (fn - i) (fc - i)] W fun e w' => e = .returned (.bool ab) ∧ Below W.heap.size W w') :
  Calls Tryz.prog 37 #[pt MB,pt TX,pt SX,pt KB] w fun e w' => e = .returned (.bool ab) ∧ Below w.heap.size w w':=by
 have HH:=hid H;have d0 : w.cell? ⟨MB,0,none⟩ = some (.slice m.ta m.tn m.tc):=ai hM;have d1 : w.cell? ⟨MB,1,none⟩ = some (.slice m.ha m.hn m.hc):=ai hM;have d2 : w.cell? ⟨MB,2,none⟩ = some (.slice m.ga m.gn m.gc):=ai hM;have d3 : w.cell? ⟨MB,3,none⟩ = some (.int .i64 m.fi):=ai hM;have d4 : w.cell? ⟨MB,4,none⟩ = some (.int .i64 m.mo):=ai hM;have d5 : w.cell? ⟨MB,5,none⟩ = some (.slice m.fa m.fn m.fc):=ai hM;have d6 : w.cell? ⟨MB,6,none⟩ = some (.slice m.da m.dn m.dc):=ai hM;have d7 : w.cell? ⟨MB,7,none⟩ = some (.slice m.ea m.en m.ec):=ai hM
 have HMK:=hid (fun (W : World) (hb : Below w.heap.size w W) => And.intro (ag hb d0) (And.intro (ag hb d1) (And.intro (ag hb d2) (And.intro (ag hb d3) (And.intro (ag hb d4) (And.intro (ag hb d5) (And.intro (ag hb d6) (And.intro (ag hb d7) (And.intro (ag hb hX) (And.intro (ag hb hS) (ag hb hK)))))))))))
 have hil : (i : Int) ≤ (fn : Int):=ae;have hcp : i < fc:=ae;clear H hM hX hS hK d0 d1 d2 d3 d4 d5 d6 d7
 go_enter Tryz.func37,Tryz.ntmps37
 go_wp2_with fail
 refine wp_region_held_drew (S:=fun W => W.cell? ⟨MB,0,none⟩ = some (.slice m.ta m.tn m.tc) ∧ W.cell? ⟨MB,1,none⟩ = some (.slice m.ha m.hn m.hc) ∧ W.cell? ⟨MB,2,none⟩ = some (.slice m.ga m.gn m.gc) ∧ W.cell? ⟨MB,3,none⟩ = some (.int .i64 m.fi) ∧ W.cell? ⟨MB,4,none⟩ = some (.int .i64 m.mo) ∧ W.cell? ⟨MB,5,none⟩ = some (.slice m.fa m.fn m.fc) ∧ W.cell? ⟨MB,6,none⟩ = some (.slice m.da m.dn m.dc) ∧ W.cell? ⟨MB,7,none⟩ = some (.slice m.ea m.en m.ec) ∧ W.cell? ⟨TX,0,none⟩ = some (.slice xa xn xc) ∧ W.cell? ⟨SX,0,none⟩ = some (.slice (some ⟨gb,go_,none⟩) fn fc) ∧ W.cell? ⟨KB,0,none⟩ = some (.int .i64 i)) ak (HMK.out _ (below_drewN w 1)) (fun hS5 => ?_)
 have B5 : Hid (Below w.heap.size w w.drew):=hid (below_drewN w 1);generalize w.drew = w5 at *;refine dK (i:=0) rfl ?_;(try simp only [Act.put,sIB]);refine dK (i:=1) rfl ?_;(try simp only [Act.put]);refine dK (i:=2) rfl ?_;(try simp only [Act.put]);refine dK (i:=3) rfl ?_;(try simp only [Act.put]);refine dK (i:=4) rfl ?_;(try simp only [Act.put]);refine dK (i:=5) (v:=.slice (some ⟨gb,go_ + i * 4,none⟩) (fn - i) (fc - i)) rfl ?_ ?_;rotate_left
 ·intro W h;clear h hS5;go_simp;omega
 (try simp only [Act.put]);refine eZ (rs:=[6]) ?_
 refine dO (i:=6) rfl (fun K hK => ?_) rN
 go_simp;refine (HH.out _ B5.out).mono ?_;rintro e w6 ⟨rfl,hb6⟩;have B6:=hid (B5.out.trans (hb6.mono B5.out.size))
 refine hK.out _ _ (HMK.out _ B6.out) (fun _ => ?_)
 clear hK K hb6 hS5;refine dK (i:=7) (oi:={ dst:=some 4,op:=.assign (.tmp 11),type:=4,pos:= "places.go:24",after:=#[⟨6,.data⟩,⟨6,.chain⟩,⟨0,.phase⟩,⟨1,.phase⟩,⟨2,.phase⟩,⟨3,.phase⟩,⟨4,.phase⟩,⟨5,.phase⟩,⟨6,.phase⟩],guard:=none }) rfl ?_;(try simp only [Act.put,sIB,sC0,sCs]);refine wpAnyH_done ak ?_ _;go_wp2_with fail;go_ret;exact ⟨rfl,B6.out⟩
def Ov (m : MM) : Prop:=cN m ≠ 0 ∨ ∃ (k : Nat) (x : FuM) (E pc : Int),m.fns[k]? = some x ∧ Mt m x E pc ∧ E ≠ 0
def I0 (m : MM) : Prop:=∀ (i : Nat) y,m.fns[i]? = some y → ∃ b W t,qY m y b W t
def NY (m : MM) (N : Nat) (ab : Nat → Bool) (w : World) (e : Ending) (w' : World) : Prop :=
 Below w.heap.size w w' ∧
 ((Ov m ∧ ∃ E,E ≠ 0 ∧ e = .returned (.tuple #[.int .i64 E,.int .i64 0])) ∨
  (cN m = 0 ∧ I0 m ∧ (∀ j,j < N → ab j = true) ∧ e = .returned (.tuple #[.int .i64 0,.int .i64 0])) ∨
  (cN m = 0 ∧ ∃ j,j < N ∧ ab j = false ∧ (∀ i,i < j → ab i = true) ∧ e = .returned (.tuple #[.int .i64 44,.int .i64 ((j : Int) + 1)])))
structure CkB (s : StM) : Prop where
 f : s.fn ≤ 281474976710656
 r : s.rn ≤ 281474976710656
 p : s.pn ≤ 140737488355328
 pb : ∀ x ∈ s.ps,x.1.2.1 ≤ 140737488355328
 fc : s.fn ≤ s.fc
theorem Ot (m : MM) (s : StM) (b7 b8 b9 : Bool) (K : Nat) (sb : Nat → Bool) (w : World) (hk : bf w) (hp : 0 < w.heap.size) (hm : ∀ R g,w.heap.size ≤ R → w.heap.size ≤ g → MOk w R g m) (hcap : ∀ x ∈ m.fns,x.2.2.1.2.1 ≤ x.2.2.1.2.2) (hs : SSt w s) (hb : CkB s) (e7 : (s.en == 1) = b7) (e8 : (s.en == 2) = b8) (e9 : (s.en == 3) = b9) (hK : min s.fn 64 = K)
  (HS : cN m = 0 → I0 m → ∀ gb go_,s.fa = some ⟨gb,go_,none⟩ → ∀ TT W,Below w.heap.size w W → TbC m TT W → ∀ i,i < K → Calls Tryz.prog 38 #[.agg (mV m),.slice (some ⟨TT,0,none⟩) m.fn m.fn,.slice (some ⟨gb,go_ + i * 4,none⟩) (s.fn - i) (s.fc - i)] W fun e w' => e = .returned (.bool (sb i)) ∧ Below W.heap.size W w') :
  Calls Tryz.prog 7 #[.agg (mV m),.agg (bW s)] w (NY m (8 + K) (Kj b7 b8 b9 s.fn s.rn s.pn s.tr s.us s.rep m.fi m.mo m.globals s.gs s.ps sb) w):=by
 show Calls Tryz.prog 7 #[.agg #[.slice m.ta m.tn m.tc,.slice m.ha m.hn m.hc,.slice m.ga m.gn m.gc,.int .i64 m.fi,.int .i64 m.mo,.slice m.fa m.fn m.fc,.slice m.da m.dn m.dc,.slice m.ea m.en m.ec],.agg #[.slice s.fa s.fn s.fc,.slice s.ga s.gn s.gc,.slice s.pa s.pn s.pc,.int .i64 s.rep,.int .i8 s.en,.slice s.ra s.rn s.rc,.int .i8 s.tr,.int .i64 s.us]] w _
 have B1:=aj w (aR m.ta m.tn m.tc m.ha m.hn m.hc m.ga m.gn m.gc m.fi m.mo m.fa m.fn m.fc m.da m.dn m.dc m.ea m.en m.ec);have B2:=aj (w.alloc (aR m.ta m.tn m.tc m.ha m.hn m.hc m.ga m.gn m.gc m.fi m.mo m.fa m.fn m.fc m.da m.dn m.dc m.ea m.en m.ec)) (fw s.fa s.fn s.fc s.ga s.gn s.gc s.pa s.pn s.pc s.rep s.en s.ra s.rn s.rc s.tr s.us);have B0:=B1.trans (B2.mono B1.size);have hz2 : ((w.alloc (aR m.ta m.tn m.tc m.ha m.hn m.hc m.ga m.gn m.gc m.fi m.mo m.fa m.fn m.fc m.da m.dn m.dc m.ea m.en m.ec)).alloc (fw s.fa s.fn s.fc s.ga s.gn s.gc s.pa s.pn s.pc s.rep s.en s.ra s.rn s.rc s.tr s.us)).heap.size = w.heap.size + 1 + 1:=au;have ka:=ar B2 (heap_alloc_new w (aR m.ta m.tn m.tc m.ha m.hn m.hc m.ga m.gn m.gc m.fi m.mo m.fa m.fn m.fc m.da m.dn m.dc m.ea m.en m.ec));have kb : ((w.alloc (aR m.ta m.tn m.tc m.ha m.hn m.hc m.ga m.gn m.gc m.fi m.mo m.fa m.fn m.fc m.da m.dn m.dc m.ea m.en m.ec)).alloc (fw s.fa s.fn s.fc s.ga s.gn s.gc s.pa s.pn s.pc s.rep s.en s.ra s.rn s.rc s.tr s.us)).heap[w.heap.size + 1]? = some (fw s.fa s.fn s.fc s.ga s.gn s.gc s.pa s.pn s.pc s.rep s.en s.ra s.rn s.rc s.tr s.us):=vX au
 have HE:=hid (GQ m ((w.alloc (aR m.ta m.tn m.tc m.ha m.hn m.hc m.ga m.gn m.gc m.fi m.mo m.fa m.fn m.fc m.da m.dn m.dc m.ea m.en m.ec)).alloc (fw s.fa s.fn s.fc s.ga s.gn s.gc s.pa s.pn s.pc s.rep s.en s.ra s.rn s.rc s.tr s.us)) (hk.later B0 hp) ae (fun R g h1 h2 => (hm R g ae ae).later B0) hcap)
 unfold mV at HE;have HM:=hid (hm w.heap.size w.heap.size (Nat.le_refl _) (Nat.le_refl _));have HSS:=hid hs;have HKB:=hid (And.intro ka (And.intro kb (And.intro B0 hz2)));have HSt:=hid HS;have HBd:=hid hb;have m0 : ((w.alloc (aR m.ta m.tn m.tc m.ha m.hn m.hc m.ga m.gn m.gc m.fi m.mo m.fa m.fn m.fc m.da m.dn m.dc m.ea m.en m.ec)).alloc (fw s.fa s.fn s.fc s.ga s.gn s.gc s.pa s.pn s.pc s.rep s.en s.ra s.rn s.rc s.tr s.us)).cell? ⟨w.heap.size,0,none⟩ = some (.slice m.ta m.tn m.tc):=ai ka;have m1 : ((w.alloc (aR m.ta m.tn m.tc m.ha m.hn m.hc m.ga m.gn m.gc m.fi m.mo m.fa m.fn m.fc m.da m.dn m.dc m.ea m.en m.ec)).alloc (fw s.fa s.fn s.fc s.ga s.gn s.gc s.pa s.pn s.pc s.rep s.en s.ra s.rn s.rc s.tr s.us)).cell? ⟨w.heap.size,1,none⟩ = some (.slice m.ha m.hn m.hc):=ai ka;have m2 : ((w.alloc (aR m.ta m.tn m.tc m.ha m.hn m.hc m.ga m.gn m.gc m.fi m.mo m.fa m.fn m.fc m.da m.dn m.dc m.ea m.en m.ec)).alloc (fw s.fa s.fn s.fc s.ga s.gn s.gc s.pa s.pn s.pc s.rep s.en s.ra s.rn s.rc s.tr s.us)).cell? ⟨w.heap.size,2,none⟩ = some (.slice m.ga m.gn m.gc):=ai ka;have m3 : ((w.alloc (aR m.ta m.tn m.tc m.ha m.hn m.hc m.ga m.gn m.gc m.fi m.mo m.fa m.fn m.fc m.da m.dn m.dc m.ea m.en m.ec)).alloc (fw s.fa s.fn s.fc s.ga s.gn s.gc s.pa s.pn s.pc s.rep s.en s.ra s.rn s.rc s.tr s.us)).cell? ⟨w.heap.size,3,none⟩ = some (.int .i64 m.fi):=ai ka;have m4 : ((w.alloc (aR m.ta m.tn m.tc m.ha m.hn m.hc m.ga m.gn m.gc m.fi m.mo m.fa m.fn m.fc m.da m.dn m.dc m.ea m.en m.ec)).alloc (fw s.fa s.fn s.fc s.ga s.gn s.gc s.pa s.pn s.pc s.rep s.en s.ra s.rn s.rc s.tr s.us)).cell? ⟨w.heap.size,4,none⟩ = some (.int .i64 m.mo):=ai ka;have m5 : ((w.alloc (aR m.ta m.tn m.tc m.ha m.hn m.hc m.ga m.gn m.gc m.fi m.mo m.fa m.fn m.fc m.da m.dn m.dc m.ea m.en m.ec)).alloc (fw s.fa s.fn s.fc s.ga s.gn s.gc s.pa s.pn s.pc s.rep s.en s.ra s.rn s.rc s.tr s.us)).cell? ⟨w.heap.size,5,none⟩ = some (.slice m.fa m.fn m.fc):=ai ka
 have m6 : ((w.alloc (aR m.ta m.tn m.tc m.ha m.hn m.hc m.ga m.gn m.gc m.fi m.mo m.fa m.fn m.fc m.da m.dn m.dc m.ea m.en m.ec)).alloc (fw s.fa s.fn s.fc s.ga s.gn s.gc s.pa s.pn s.pc s.rep s.en s.ra s.rn s.rc s.tr s.us)).cell? ⟨w.heap.size,6,none⟩ = some (.slice m.da m.dn m.dc):=ai ka;have m7 : ((w.alloc (aR m.ta m.tn m.tc m.ha m.hn m.hc m.ga m.gn m.gc m.fi m.mo m.fa m.fn m.fc m.da m.dn m.dc m.ea m.en m.ec)).alloc (fw s.fa s.fn s.fc s.ga s.gn s.gc s.pa s.pn s.pc s.rep s.en s.ra s.rn s.rc s.tr s.us)).cell? ⟨w.heap.size,7,none⟩ = some (.slice m.ea m.en m.ec):=ai ka;clear hk hm hcap hs HS hb B1 B2 B0 ka kb hz2;generalize hab : Kj b7 b8 b9 s.fn s.rn s.pn s.tr s.us s.rep m.fi m.mo m.globals s.gs s.ps sb = ab at *;have HAB:=hid hab;clear hab
 go_enter Tryz.func7,Tryz.ntmps7
 go_wp2_with fail;refine HE.out.mono ?_;rintro e w2 hO;have hb2:=hO.1;have HB2 : Hid (Below w.heap.size w w2):=hid (HKB.out.2.2.1.trans (hb2.mono HKB.out.2.2.1.size));have ka2:=ar hb2 HKB.out.1;have kb2:=ar hb2 HKB.out.2.1;have HK2:=hid (And.intro ka2 kb2);clear m0 m1 m2 m3 m4 m5 m6 m7 hb2
 rcases hO.2 with ⟨h1,rfl⟩ | ⟨h1,k,x,E,pc,hx,hE,hE0,_,rfl⟩ | ⟨h1,TT,arr,_,rfl,hA,_,hT⟩
 ·have hx' : (cN m == 0) = false:=gj;have HX:=hid h1;clear h1 hO ka2 kb2;generalize hce : cN m = ce at *;go_wp2_with fail
  exact bodyPost_ret (v:=.tuple #[.int .i64 ce,.int .i64 0]) uB rfl ⟨HB2.out,.inl ⟨.inl (by rw [hce]; exact HX.out),ce,HX.out,rfl⟩⟩
 ·have hx' : (E == 0) = false:=by simpa using hE0
  have HX:=hid (And.intro hx (And.intro hE hE0));clear hx hE hE0 hO ka2 kb2;go_wp2_with fail;exact bodyPost_ret (v:=.tuple #[.int .i64 E,.int .i64 0]) uB rfl ⟨HB2.out,.inl ⟨.inr ⟨k,x,E,pc,HX.out⟩,E,HX.out.2.2,rfl⟩⟩
 ·have HTb:=hid (Mc hA hT)
  have HTA:=hid (show I0 m from fun i y hy => let ⟨t,h,_⟩:=hT i y hy; ⟨_,_,t,h⟩)
  have HX:=hid h1;have H22:=hid (Ob (.slice m.ta m.tn m.tc) (.slice m.ha m.hn m.hc) (.slice m.ga m.gn m.gc) (.int .i64 m.fi) (.int .i64 m.mo) (.slice m.fa m.fn m.fc) (.slice m.da m.dn m.dc) (.slice m.ea m.en m.ec) (some ⟨TT,0,none⟩) m.fn m.fn s.fa s.ga s.pa s.ra s.fn s.fc s.gn s.gc s.pn s.pc s.rn s.rc s.rep s.en s.tr s.us b7 b8 b9 K w2 HBd.out.f hK e7 e8 e9);have m0 : w2.cell? ⟨w.heap.size,0,none⟩ = some (.slice m.ta m.tn m.tc):=ai ka2;have m1 : w2.cell? ⟨w.heap.size,1,none⟩ = some (.slice m.ha m.hn m.hc):=ai ka2;have m2 : w2.cell? ⟨w.heap.size,2,none⟩ = some (.slice m.ga m.gn m.gc):=ai ka2;have m3 : w2.cell? ⟨w.heap.size,3,none⟩ = some (.int .i64 m.fi):=ai ka2;have m4 : w2.cell? ⟨w.heap.size,4,none⟩ = some (.int .i64 m.mo):=ai ka2;have m5 : w2.cell? ⟨w.heap.size,5,none⟩ = some (.slice m.fa m.fn m.fc):=ai ka2;have m6 : w2.cell? ⟨w.heap.size,6,none⟩ = some (.slice m.da m.dn m.dc):=ai ka2;have m7 : w2.cell? ⟨w.heap.size,7,none⟩ = some (.slice m.ea m.en m.ec):=ai ka2;have s0 : w2.cell? ⟨w.heap.size + 1,0,none⟩ = some (.slice s.fa s.fn s.fc):=ai kb2;have s1 : w2.cell? ⟨w.heap.size + 1,1,none⟩ = some (.slice s.ga s.gn s.gc):=ai kb2;have s2 : w2.cell? ⟨w.heap.size + 1,2,none⟩ = some (.slice s.pa s.pn s.pc):=ai kb2;have s3 : w2.cell? ⟨w.heap.size + 1,3,none⟩ = some (.int .i64 s.rep):=ai kb2;have s4 : w2.cell? ⟨w.heap.size + 1,4,none⟩ = some (.int .i8 s.en):=ai kb2;have s5 : w2.cell? ⟨w.heap.size + 1,5,none⟩ = some (.slice s.ra s.rn s.rc):=ai kb2;have s6 : w2.cell? ⟨w.heap.size + 1,6,none⟩ = some (.int .i8 s.tr):=ai kb2;have s7 : w2.cell? ⟨w.heap.size + 1,7,none⟩ = some (.int .i64 s.us):=ai kb2;clear hO hA hT h1 ka2 kb2 e7 e8 e9;go_wp2_with fail;refine H22.out.mono ?_;rintro e w3 ⟨MB,TX,SX,P7,P8,P9,KX,LB,cap,rfl,hAK,hKX,hrow,hb3⟩;clear m0 m1 m2 m3 m4 m5 m6 m7 s0 s1 s2 s3 s4 s5 s6 s7;have HB3 : Hid (Below w.heap.size w w3):=hid (HB2.out.trans (hb3.mono HB2.out.size));have HTc:=hid (HTb.out.later hb3);have hK64 : K ≤ 64:=ae
  have HAsk : Hid (∀ j,j < 8 + K → ∃ v,w3.cell? ⟨LB,j,none⟩ = some v ∧ Clo (ab j) w3 v):=hid (by
   intro j hj
   have hgn : m.gn ≤ 1048576:=by
    have h2:=(dB (mg HX.out).2.2.1).1;rw [HM.out.pg.1] at h2;omega
   have hlen:=DW MB TX SX P7 P8 P9 KX K;have hcell : w3.cell? ⟨LB,j,none⟩ = (mY MB TX SX P7 P8 P9 KX K)[j]?:=World.ownsRow.cellAt hrow j ae
   have SS:=fun (W : World) (hb : Below w3.heap.size w3 W) => HSS.out.later (HB3.out.trans (hb.mono HB3.out.size))
   rw [← HAB.out]
   match j,hj,hcell with
   | 0,hj,hcell => exact ⟨_,hcell.trans rfl,⟨26,_,rfl,fun _ _ => by rfl,fun W hb => eJ (c36 P7 P8 P9 b7 b8 b9 W (ai (hAK.later hb).p7) (ai (hAK.later hb).p8) (ai (hAK.later hb).p9))⟩⟩
   | 1,hj,hcell => exact ⟨_,hcell.trans rfl,⟨27,_,rfl,fun _ _ => by rfl,fun W hb => eJ (c37 P7 SX b7 s.fa s.fn s.fc W HBd.out.f (ai (hAK.later hb).p7) (ai (hAK.later hb).s))⟩⟩
   | 2,hj,hcell => exact ⟨_,hcell.trans rfl,⟨28,_,rfl,fun _ _ => by rfl,fun W hb => eJ (c38 P8 SX b8 s.ra s.rn s.rc W HBd.out.r (ai (hAK.later hb).p8) (ai (hAK.later hb).s))⟩⟩
   | 3,hj,hcell => exact ⟨_,hcell.trans rfl,⟨29,_,rfl,fun _ _ => by rfl,fun W hb => eJ (c39 P9 SX b9 s.tr W (ai (hAK.later hb).p9) (ai (hAK.later hb).s))⟩⟩
   | 4,hj,hcell => exact ⟨_,hcell.trans rfl,⟨31,_,rfl,fun _ _ => by rfl,fun W hb => eJ (c41 SX s.us W (ai (hAK.later hb).s))⟩⟩
   | 5,hj,hcell => exact ⟨_,hcell.trans rfl,⟨32,_,rfl,fun _ _ => by rfl,fun W hb => eJ (c42 SX s.rep W (ai (hAK.later hb).s))⟩⟩
   | 6,hj,hcell => exact ⟨_,hcell.trans rfl,⟨33,_,rfl,fun _ _ => by rfl,fun W hb => c43 MB SX #[] m.ga s.ga m.gn m.gc s.gn s.gc m.globals s.gs W (ai (hAK.later hb).m) (ai (hAK.later hb).s) (HM.out.pg.kept (aX (S:=fun _ => False) (HB3.out.trans (hb.mono HB3.out.size))) (fun _ _ _ _ => id)) (SS W hb).gl hgn⟩⟩
   | 7,hj,hcell => exact ⟨_,hcell.trans rfl,⟨35,_,rfl,fun _ _ => by rfl,fun W hb => eJ (c45 MB SX s.pa s.pn s.pc m.fi m.mo s.ps W (ai (hAK.later hb).s) (ai (hAK.later hb).m) (ai (hAK.later hb).m) (SS W hb).pg HBd.out.p HBd.out.pb)⟩⟩
   | i + 8,hj,hcell =>
    have hi : i < K:=ae;obtain ⟨gb,go_,hfa,_⟩:=HSS.out.fr.at_.resolve_left ae
    have hv : (mY MB TX SX P7 P8 P9 KX K)[i + 8]? = some (fnv 37 #[pt MB,pt TX,pt SX,pt (KX i)]):=by
     unfold mY
     rw [List.getElem?_append_right (by show 8 ≤ i + 8; omega)]
     show (List.map _ _)[i + 8 - 8]? = _
     rw [Nat.add_sub_cancel,List.getElem?_map,List.getElem?_range hi];rfl
    refine ⟨_,hcell.trans hv,⟨37,_,rfl,fun _ _ => by rfl,fun W hb => ?_⟩⟩
    have hsx : W.cell? ⟨SX,0,none⟩ = some (.slice (some ⟨gb,go_,none⟩) s.fn s.fc):=by rw [← hfa]; exact ai (hAK.later hb).s
    exact c47 MB TX SX (KX i) gb go_ s.fn s.fc i m (some ⟨TT,0,none⟩) m.fn m.fn _ W ae HBd.out.fc HBd.out.f (hAK.later hb).m (ai (hAK.later hb).x) hsx (ag hb (hKX i hi)) (fun W' hb' => HSt.out HX.out HTA.out gb go_ hfa TT W' (HB3.out.trans ((hb.trans (hb'.mono hb.size)).mono HB3.out.size)) ((HTc.out.later hb).later hb') i hi))
  clear hAK hKX hrow hb3;go_wp2_with fail
  go_loopw [26] (fun i wr => ∃ k : Nat,k ≤ 8 + K ∧ i = .int .i64 k ∧ Hid (Below w3.heap.size w3 wr ∧ ∀ i,i < k → ab i = true)) (fun i _ => 8 + K - (intOf i).toNat)
  case atStart => exact ⟨0,Nat.zero_le _,rfl,hid ⟨Below.refl _ _,fun i h => absurd h (Nat.not_lt_zero _)⟩⟩
  case round =>
   obtain ⟨k,hkn,rfl,HR⟩:=hrel
   by_cases hlt : k < 8 + K
   ·obtain ⟨v,hv,⟨f,cs,hvv,hen,hcall⟩⟩:=HAsk.out k hlt;subst hvv;have g0:=ag HR.out.1 hv;have HC:=hid (hcall wr HR.out.1);have hlt' : (k : Int) < ((8 + K : Nat) : Int):=ae;clear hv hcall;generalize hak : ab k = B at *;have HAk:=hid hak;clear hak;go_wp2_with fail;refine HC.out.mono ?_;rintro e w4 ⟨rfl,hb4⟩;have HB4 : Hid (Below w3.heap.size w3 w4):=hid (HR.out.1.trans (hb4.mono HR.out.1.size));clear hb4
    cases B
    ·go_wp2_with fail;exact bodyPost_ret (v:=.tuple #[.int .i64 44,.int .i64 ((k : Int) + 1)]) uB rfl ⟨HB3.out.trans (HB4.out.mono HB3.out.size),.inr (.inr ⟨HX.out,k,hlt,HAk.out,HR.out.2,rfl⟩)⟩
    ·go_wp2_with fail
     exact ⟨⟨k + 1,ae,bU,hid ⟨HB4.out,fun i hi => by
      by_cases hik : i < k
      ·exact HR.out.2 i hik
      ·obtain rfl : i = k:=ae;exact HAk.out⟩⟩,cC⟩
   ·have hlt' : ¬ (k : Int) < ((8 + K : Nat) : Int):=ae;have HKe : Hid (k = 8 + K):=hid ae;go_wp2_with fail
    exact bodyPost_ret (v:=.tuple #[.int .i64 0,.int .i64 0]) uB rfl ⟨HB3.out.trans (HR.out.1.mono HB3.out.size),.inr (.inl ⟨HX.out,HTA.out,fun j hj => HR.out.2 j (by have:=HKe.out; omega),rfl⟩)⟩
def ry (ah P : ByteArray) : ByteArray:=ah.extract 0 (ah.size - P.size)
theorem NS (m : MM) (ah P Q lo : ByteArray) (k q : Nat) (ca : Option Addr) (cn cc : Nat) (co : List InM) (w : World) (hm : MOk w w.heap.size w.heap.size m) (hkl : k < m.fn) (hy : m.fns[k]? = some (↑q,lo,(ca,cn,cc),co)) (hq : m.types[q]? = some (P,Q)) (hP : P.size ≤ ah.size) (hs : ah.size ≤ 1000000) :
  Calls Tryz.prog 64 #[.agg (mV m),.string ah,.int .i64 k] w fun e w' => e = .returned (.string (ry ah P)) ∧ Below w.heap.size w w':=by
 show Calls Tryz.prog 64 #[.agg #[.slice m.ta m.tn m.tc,.slice m.ha m.hn m.hc,.slice m.ga m.gn m.gc,.int .i64 m.fi,.int .i64 m.mo,.slice m.fa m.fn m.fc,.slice m.da m.dn m.dc,.slice m.ea m.en m.ec],.string ah,.int .i64 k] w _
 have B1:=aj w (aR m.ta m.tn m.tc m.ha m.hn m.hc m.ga m.gn m.gc m.fi m.mo m.fa m.fn m.fc m.da m.dn m.dc m.ea m.en m.ec);have HB:=hid B1;obtain ⟨fb,fo,hfa,hfc⟩:=hm.pf.2.resolve_left ae;obtain ⟨y0,y1,y2⟩:=hfc k _ hy
 simp only at y0 y1 y2
 have y0:=ag B1 y0;obtain ⟨tb,to_,hta,htc⟩:=hm.pt.2.resolve_left jF;obtain ⟨r0,r1⟩:=htc q _ hq;have r0:=ag B1 r0;have km:=heap_alloc_new w (aR m.ta m.tn m.tc m.ha m.hn m.hc m.ga m.gn m.gc m.fi m.mo m.fa m.fn m.fc m.da m.dn m.dc m.ea m.en m.ec)
 have d0 : (w.alloc (aR m.ta m.tn m.tc m.ha m.hn m.hc m.ga m.gn m.gc m.fi m.mo m.fa m.fn m.fc m.da m.dn m.dc m.ea m.en m.ec)).cell? ⟨w.heap.size,0,none⟩ = some (.slice (some ⟨tb,to_,none⟩) m.tn m.tc):=by rw [← hta]; exact ai km
 have d5 : (w.alloc (aR m.ta m.tn m.tc m.ha m.hn m.hc m.ga m.gn m.gc m.fi m.mo m.fa m.fn m.fc m.da m.dn m.dc m.ea m.en m.ec)).cell? ⟨w.heap.size,5,none⟩ = some (.slice (some ⟨fb,fo,none⟩) m.fn m.fc):=by rw [← hfa]; exact ai km
 have hk' : (k : Int) < (m.fn : Int):=ae;have hqt : (q : Int) < (m.tn : Int):=jF;clear B1 hfc hfa hy hm hta htc r1 y1 y2 hq km
 go_enter Tryz.func64,Tryz.ntmps64
 go_wp2_with fail;generalize (w.alloc (aR m.ta m.tn m.tc m.ha m.hn m.hc m.ga m.gn m.gc m.fi m.mo m.fa m.fn m.fc m.da m.dn m.dc m.ea m.en m.ec)) = W1 at *
 go_quiet (fail)
 have bq:=below_drewN W1 nq;have HBz:=hid (HB.out.trans (bq.mono HB.out.size));generalize W1.drewN nq = Wz at *;clear d0 d5 y0 r0 HB bq;go_wp2_with fail;go_ret;exact ⟨rfl,HBz.out⟩
end Go.Proofs.YtkdldbfbldkkcaaGreatDoor

/-
  Texts NWh NRj NPa NPb.
-/
import Derived.Lib.SlBytesConst
import Derived.Test.YtkdldbfbldkkcaaGreatDoorM00
import Derived.Test.YtkdldbfbldkkcaaGreatDoorM15
set_option linter.unusedVariables false
set_option maxRecDepth 100000
set_option maxHeartbeats 16000000
namespace Go.Proofs.YtkdldbfbldkkcaaGreatDoor
open Go.RowKit
def mgc : List Int:=[70,83,78,80,1]
def wrV (x : StM) : WS:=stW x (mgc,false)
def WrA (x : StM) (w : World) : Ending → World → Prop:=fun e w' => Below w.heap.size w w' ∧
 ((wrV x).2 = true ∧ e = .returned (.tuple #[.slice none 0 0,.int .i64 44]) ∨
  (wrV x).2 = false ∧ ∃ B cap,e = .returned (.tuple #[.slice (some ⟨B,0,none⟩) (wrV x).1.length cap,.int .i64 0]) ∧ ny w' B (wrV x).1.length cap ((wrV x).1.map (Value.int .u8)) ∧ w.heap.size ≤ B)
theorem Hl {w : World} {b i : Nat} {a : Array Value} {t : TypeId} (h : w.heap[b]? = some (.cells a t)) : w.frozen? ⟨b,i,none⟩ = false:=by
 unfold World.frozen?;rw [h]
 simp
abbrev mgA : Array Value:=#[.int .u8 70,.int .u8 83,.int .u8 78,.int .u8 80,.int .u8 1]
abbrev mgO : Obj:=.cells mgA 5 (5,6)
theorem NL (w : World) (B : Nat) (h : w.heap.size = B) : (convert 42 42 (.slice (some ⟨B,0,none⟩) 5 5)).run Tryz.prog (w.alloc (.cells mgA 5)) = .ok (.slice (some ⟨B,0,none⟩) 5 5) (w.alloc mgO):=by
 subst h;exact Go.Lib.run_convert_bytes_const (P:=Tryz.prog) w 42 5 mgA 5 5 Tryz.underlying42 Tryz.underlying5
theorem Ei (x : StM) (w : World) (hS : SSt w x) (hb : SB x) (hr : SR x) :
  Calls Tryz.prog 8 #[.agg (bW x)] w (WrA x w):=by
 have hb1 : Below w.heap.size w (w.alloc (stO x)):=aj _ _;have hb2 : Below w.heap.size w ((w.alloc (stO x)).alloc mgO):=hb1.trans ((aj _ _).mono hb1.size);have hb3 : Below w.heap.size w (((w.alloc (stO x)).alloc mgO).alloc (kU (some ⟨w.heap.size + 1,0,none⟩) 5 5 false)):=hb2.trans ((aj _ _).mono hb2.size);have hz3 : (((w.alloc (stO x)).alloc mgO).alloc (kU (some ⟨w.heap.size + 1,0,none⟩) 5 5 false)).heap.size = w.heap.size + 3:=au;have k2 : (((w.alloc (stO x)).alloc mgO).alloc (kU (some ⟨w.heap.size + 1,0,none⟩) 5 5 false)).heap[w.heap.size + 2]? = some (kU (some ⟨w.heap.size + 1,0,none⟩) 5 5 false):=gZ au;have k1 : (((w.alloc (stO x)).alloc mgO).alloc (kU (some ⟨w.heap.size + 1,0,none⟩) 5 5 false)).heap[w.heap.size + 1]? = some mgO:=bc (aj _ _) (gZ au)
 have hW : WrN (((w.alloc (stO x)).alloc mgO).alloc (kU (some ⟨w.heap.size + 1,0,none⟩) 5 5 false)) (w.heap.size + 2) (w.heap.size + 1) 5 mgc false:=by
  refine ⟨ai k2,ai k2,?_,?_,.inr ⟨rfl,by first | (unfold maxLen; decide) | decide,ae,rfl,fun j u hj => ?_⟩,ae⟩
  ·exact Hl k2
  ·exact Hl k2
  ·have : (((w.alloc (stO x)).alloc mgO).alloc (kU (some ⟨w.heap.size + 1,0,none⟩) 5 5 false)).cell? ⟨w.heap.size + 1,j,none⟩ = mgA[j]?:=by simp only [World.cell?,k1]; rfl
   rw [this]
   exact (by simpa [mgc] using hj)
 have HT:=hid (JF (w.heap.size + 2) (w.heap.size + 1) 5 (mgc,false) x w _ hW hS hb hr hb3 ae ae ax);have HB3:=hid hb3;have e : stW x (mgc,false) = wrV x:=rfl;rw [e] at HT
 have HG:=hid (show ∀ s,wrV x = s → ∀ e w',(Below w.heap.size w w' ∧ (s.2 = true ∧ e = .returned (.tuple #[.slice none 0 0,.int .i64 44]) ∨ s.2 = false ∧ ∃ B cap,e = .returned (.tuple #[.slice (some ⟨B,0,none⟩) s.1.length cap,.int .i64 0]) ∧ ny w' B s.1.length cap (s.1.map (Value.int .u8)) ∧ w.heap.size ≤ B)) → WrA x w e w' from fun s hs e w' h => by subst hs; exact h)
 obtain ⟨s,hs⟩ : ∃ s,wrV x = s:=⟨_,rfl⟩;rw [hs] at HT;have HG:=hid (HG.out s hs);clear hb1 hb2 hb3 hz3 k2 k1 hW hS hb hr e hs;obtain ⟨bs,bad⟩:=s;dsimp only at HT HG
 refine (show Calls Tryz.prog 8 #[.agg (bW x)] w (fun e w' => Below w.heap.size w w' ∧ (bad = true ∧ e = .returned (.tuple #[.slice none 0 0,.int .i64 44]) ∨ bad = false ∧ ∃ B cap,e = .returned (.tuple #[.slice (some ⟨B,0,none⟩) bs.length cap,.int .i64 0]) ∧ ny w' B bs.length cap (bs.map (Value.int .u8)) ∧ w.heap.size ≤ B)) from ?_).mono (fun e w' h => HG.out e w' h)
 clear HG;have hcv:=NL (w.alloc (stO x)) (w.heap.size + 1) au
 go_enter Tryz.func8,Tryz.ntmps8
 go_wp2_with fail;refine HT.out.mono ?_;rintro e w1 ⟨rfl,g1,cap1,hw1,hs1⟩;have c0:=hw1.c0;have c1:=hw1.c1;have W1:=hid hw1;have L1:=hid (hs1.low HB3.out ae ae);clear hw1 hs1 HT;dsimp only at c0 c1
 cases bad with
 | true =>
  go_wp2_with fail;go_ret2;exact ⟨L1.out.1,rfl⟩
 | false =>
  go_wp2_with fail;go_ret2;exact ⟨L1.out.1,g1,cap1,rfl,W1.out.row,L1.out.2⟩
def pfx (zs : List Int) : Bool:=decide (zs.take 5 = mgc)
theorem NR (a : Option Addr) (n c B : Nat) (zs : List Int) (w : World) (h : Seg w a n c zs) (hB : SI .u8 w (some ⟨B,0,none⟩) 5 mgc) :
  Calls Tryz.prog 18 #[.slice a n c,.slice (some ⟨B,0,none⟩) 5 5] w fun e w' => e = .returned (.bool (pfx zs)) ∧ Below w.heap.size w w':=by
 have hl:=h.1
 by_cases hn : 5 ≤ n
 ·obtain ⟨b,off,rfl,hc⟩:=h.2.2.2.2.resolve_left ae;have hcap:=h.2.1;have hbd:=h.2.2.1
  have hs : SI .u8 w (some ⟨b,off,none⟩) 5 (zs.take 5):=⟨sW,.inr ⟨b,off,rfl,fun j x hj => by
   have hj5 : j < 5:=by have:=az hj; rw [List.length_take] at this; omega
   rw [List.getElem?_take,if_pos hj5] at hj;rw [hc j ae,List.getD_eq_getElem?_getD,hj]
   rfl⟩⟩
  have HE:=hid (NH (some ⟨b,off,none⟩) (some ⟨B,0,none⟩) 5 5 c 5 (zs.take 5) mgc w hs hB (fun z hz => h.2.2.2.1 z (List.mem_of_mem_take hz)) ax)
  have e : lE iE (zs.take 5) mgc = pfx zs:=by rw [jN]; rfl
  rw [e] at HE;generalize pfx zs = v at *;have hge : (5 : Int) ≤ (n : Int):=ae;have hc0 : ¬ c = 0:=ae;clear h hs hB hc e hl
  go_enter Tryz.func18,Tryz.ntmps18
  go_wp2_with fail;refine HE.out.mono ?_;rintro e w1 ⟨rfl,b1⟩;have B1:=hid b1;clear b1 HE;go_wp2_with fail;go_ret;exact ⟨rfl,B1.out⟩
 ·have e : pfx zs = false:=by
   unfold pfx;rw [decide_eq_false];intro hh
   have:=congrArg List.length hh
   rw [List.length_take] at this
   simp [mgc] at this
   omega
  rw [e];have hge : ¬ (5 : Int) ≤ (n : Int):=ae;clear h hB hl e
  go_enter Tryz.func18,Tryz.ntmps18
  go_wp2_with fail;go_ret;exact mh
theorem oW {fn : Func} {p q r : Tmp} {ty : TypeId} (h : fn.results = #[.cell p ty,.tmp q,.tmp r]) (tmps : Array Value) (w : World) (g : Nat) (cs : Array Value)
  (hp : tmps.getD p undef = .pointer (some ⟨g,0,none⟩)) (hl : (loadVar ty ⟨g,0,none⟩).run Tryz.prog w = .ok (.agg cs) w) (x y : Value) (hx : tmps.getD q undef = x) (hy : tmps.getD r undef = y) :
  (results fn tmps).run Tryz.prog w = .ok (.tuple #[.agg cs,x,y]) w:=by
 have hp' : tmps[p]?.getD undef = .pointer (some ⟨g,0,none⟩):=by simpa using hp
 have hx' : tmps[q]?.getD undef = x:=pE
 have hy' : tmps[r]?.getD undef = y:=by simpa using hy
 simp [results,h,hp',hx',hy',asAddr,hl]
theorem zZ (w : World) (g : Nat) (cs : Array Value) (hg : w.heap[g]? = some (.cells cs 35)) (hs : cs.size = 8) : (loadVar 35 ⟨g,0,none⟩).run Tryz.prog w = .ok (.agg cs) w :=
 run_loadVar_row w g 35 35 cs (0,0) _ hg Tryz.underlying35 rfl (by rw [hs]; kernel_rfl)
abbrev X8 (w : World) (b : Nat) (v0 v1 v2 v3 v4 v5 v6 v7 : Value) : World:=((((((((w.setCell ⟨b,0,none⟩ v0).setCell ⟨b,1,none⟩ v1).setCell ⟨b,2,none⟩ v2).setCell ⟨b,3,none⟩ v3).setCell ⟨b,4,none⟩ v4).setCell ⟨b,5,none⟩ v5).setCell ⟨b,6,none⟩ v6).setCell ⟨b,7,none⟩ v7)
theorem LF {w : World} {b : Nat} {u0 u1 u2 u3 u4 u5 u6 u7 : Value} (v0 v1 v2 v3 v4 v5 v6 v7 : Value) (h : w.heap[b]? = some (.cells #[u0,u1,u2,u3,u4,u5,u6,u7] 35)) :
  (X8 w b v0 v1 v2 v3 v4 v5 v6 v7).heap[b]? = some (.cells #[v0,v1,v2,v3,v4,v5,v6,v7] 35) ∧ Kept (fun k => k = b) w (X8 w b v0 v1 v2 v3 v4 v5 v6 v7):=by
 have z1 : (w.setCell ⟨b,0,none⟩ v0).heap[b]? = some (.cells #[v0,u1,u2,u3,u4,u5,u6,u7] 35):=bi h;have z2 : ((w.setCell ⟨b,0,none⟩ v0).setCell ⟨b,1,none⟩ v1).heap[b]? = some (.cells #[v0,v1,u2,u3,u4,u5,u6,u7] 35):=bi z1;have z3:=bi (i:=2) (v:=v2) z2;have z4:=bi (i:=3) (v:=v3) z3;have z5:=bi (i:=4) (v:=v4) z4;have z6:=bi (i:=5) (v:=v5) z5;have z7:=bi (i:=6) (v:=v6) z6;have z8:=bi (i:=7) (v:=v7) z7;exact ⟨z8,((((((aO.trans aO).trans aO).trans aO).trans aO).trans aO).trans aO).trans aO⟩
theorem IC {w0 w w' : World} {b : Nat} (hB : Below w0.heap.size w0 w) (hk : Kept (fun k => k = b) w w') (hb : w0.heap.size ≤ b) : Below w0.heap.size w0 w':=hB.trans (hk.to_below hB.size (fun k hk h => ae))
def rdE (zs : List Int) : Int × Int :=
 if 524288 < zs.length then (13,0) else if pfx zs = false then (14,0) else ((fnR zs (r8 zs (5,0)).2).2,if (fnR zs (r8 zs (5,0)).2).2 = 0 then 0 else (fnR zs (r8 zs (5,0)).2).1)
abbrev zSt : Array Value:=#[nS,nS,nS,.int .i64 0,.int .i8 0,nS,.int .i8 0,.int .i64 0]
def RdA (zs : List Int) (w : World) : Ending → World → Prop:=fun e w' => Below w.heap.size w w' ∧
 ((rdE zs).1 ≠ 0 ∧ e = .returned (.tuple #[.agg zSt,.int .i64 (rdE zs).1,.int .i64 (rdE zs).2]) ∨
  (rdE zs).1 = 0 ∧ ∃ B5 B6 B7 bl B8 ys,e = .returned (.tuple #[.agg (bW (mkS (stP zs (5,0)) B5 B6 B7 bl B8 ys)),.int .i64 0,.int .i64 0]) ∧ StA w.heap.size w' (stP zs (5,0)) B5 B6 B7 bl B8 ys)
theorem JG {zs : List Int} {w w7 : World} {er at_ : Int} (tm : Array Value) (hk : w7.heap[w.heap.size]? = some (stC nS nS nS 0 0 nS 0 0)) (hB : Below w.heap.size w w7) (h2 : tm.getD 2 undef = .pointer (some ⟨w.heap.size,0,none⟩)) (h3 : tm.getD 3 undef = .int .i64 er) (h4 : tm.getD 4 undef = .int .i64 at_)
  (HG : ∀ w',Below w.heap.size w w' → RdA zs w (.returned (.tuple #[.agg zSt,.int .i64 er,.int .i64 at_])) w') :
  bodyPost Tryz.prog Tryz.f9 (RdA zs w) .ret { tmps:=tm,defers:=[] } ((X8 w7 w.heap.size nS nS nS (.int .i64 0) (.int .i8 0) nS (.int .i8 0) (.int .i64 0)).drew):=by
 have P8:=LF nS nS nS (.int .i64 0) (.int .i8 0) nS (.int .i8 0) (.int .i64 0) hk;have B8':=IC hB P8.2 (Nat.le_refl _);have hk8:=P8.1;clear P8;generalize X8 w7 w.heap.size nS nS nS (.int .i64 0) (.int .i8 0) nS (.int .i8 0) (.int .i64 0) = X at *;have hk9 : X.drew.heap[w.heap.size]? = some (.cells zSt 35):=hk8;have B9 : Below w.heap.size w X.drew:=B8'.trans ((below_drewN X 1).mono B8'.size);generalize X.drew = Y at *;exact bodyPost_ret (v:=.tuple #[.agg zSt,.int .i64 er,.int .i64 at_]) (oW (p:=2) (q:=3) (r:=4) (ty:=35) rfl _ _ w.heap.size zSt h2 (zZ _ _ _ hk9 rfl) _ _ h3 h4) rfl (HG _ B9)
theorem II (a : Option Addr) (n c : Nat) (zs : List Int) (w : World) (h : Seg w a n c zs) :
  Calls Tryz.prog 9 #[.slice a n c] w (RdA zs w):=by
 have hl:=h.1;have hnb:=h.2.2.1;have b1:=aj w (stC nS nS nS 0 0 nS 0 0);have kz:=bZ w (stC nS nS nS 0 0 nS 0 0);have HB1:=hid b1;have HKZ:=hid kz
 by_cases hlong : 524288 < n
 ·have e : rdE zs = (13,0):=by unfold rdE; rw [if_pos ae]
  have HG:=hid (show ∀ w',Below w.heap.size w w' → RdA zs w (.returned (.tuple #[.agg zSt,.int .i64 13,.int .i64 0])) w' from fun w' hw => ⟨hw,.inl (by rw [e]; exact ⟨ax,rfl⟩)⟩)
  have hlong' : (524288 : Int) < (n : Int):=ae;clear h e hl kz b1
  go_enter Tryz.func9,Tryz.ntmps9
  go_wp2_with fail;exact bodyPost_ret (v:=.tuple #[.agg zSt,.int .i64 13,.int .i64 0]) (oW (p:=2) (q:=3) (r:=4) (ty:=35) rfl _ _ w.heap.size zSt rfl (zZ _ _ _ HKZ.out rfl) _ _ rfl rfl) rfl (HG.out _ HB1.out)
 ·have hlong' : ¬ (524288 : Int) < (n : Int):=ae;have hcv:=NL (w.alloc (stC nS nS nS 0 0 nS 0 0)) (w.heap.size + 1) au;have b2:=b1.trans ((aj (w.alloc (stC nS nS nS 0 0 nS 0 0)) mgO).mono b1.size);have km : ((w.alloc (stC nS nS nS 0 0 nS 0 0)).alloc mgO).heap[w.heap.size + 1]? = some mgO:=gZ au;have kz2 : ((w.alloc (stC nS nS nS 0 0 nS 0 0)).alloc mgO).heap[w.heap.size]? = some (stC nS nS nS 0 0 nS 0 0):=bc (aj _ _) kz
  have hsi : SI .u8 ((w.alloc (stC nS nS nS 0 0 nS 0 0)).alloc mgO) (some ⟨w.heap.size + 1,0,none⟩) 5 mgc:=⟨rfl,.inr ⟨_,_,rfl,fun j x hj => by
   have : ((w.alloc (stC nS nS nS 0 0 nS 0 0)).alloc mgO).cell? ⟨w.heap.size + 1,0 + j,none⟩ = mgA[0 + j]?:=by simp only [World.cell?,km]; rfl
   rw [this,Nat.zero_add];have h5:=az hj;have h5' : j < 5:=h5;have h6 : j = 0 ∨ j = 1 ∨ j = 2 ∨ j = 3 ∨ j = 4:=ae
   rcases h6 with rfl | rfl | rfl | rfl | rfl <;> (simp [mgc] at hj; subst hj; rfl)⟩⟩
  have HP:=hid (NR a n c (w.heap.size + 1) zs _ (h.later b2 (Nat.le_refl _)) hsi);have HB2:=hid b2;have HK2:=hid kz2
  cases hp : pfx zs with
  | false =>
   rw [hp] at HP
   have e : rdE zs = (14,0):=by unfold rdE; rw [if_neg ae,if_pos hp]
   have HG:=hid (show ∀ w',Below w.heap.size w w' → RdA zs w (.returned (.tuple #[.agg zSt,.int .i64 14,.int .i64 0])) w' from fun w' hw => ⟨hw,.inl (by rw [e]; exact ⟨ax,rfl⟩)⟩)
   clear h e hl kz b1 b2 km kz2 hsi hp
   go_enter Tryz.func9,Tryz.ntmps9
   go_wp2_with fail;refine HP.out.mono ?_;rintro e w2 ⟨rfl,hb2⟩;have HK3:=hid (bc hb2 HK2.out);have HB3:=hid (HB2.out.trans (hb2.mono HB2.out.size))
   have c0 : ∀ i,w2.cell? ⟨w.heap.size,i,none⟩ = zSt[i]?:=fun i => ai HK3.out
   have g0 : w2.cell? ⟨w.heap.size,0,none⟩ = some nS:=c0 0;have g1 : w2.cell? ⟨w.heap.size,1,none⟩ = some nS:=c0 1;have g2 : w2.cell? ⟨w.heap.size,2,none⟩ = some nS:=c0 2;have g3 : w2.cell? ⟨w.heap.size,3,none⟩ = some (.int .i64 0):=c0 3;have g4 : w2.cell? ⟨w.heap.size,4,none⟩ = some (.int .i8 0):=c0 4;have g5 : w2.cell? ⟨w.heap.size,5,none⟩ = some nS:=c0 5;have g6 : w2.cell? ⟨w.heap.size,6,none⟩ = some (.int .i8 0):=c0 6;have g7 : w2.cell? ⟨w.heap.size,7,none⟩ = some (.int .i64 0):=c0 7
   have f0 : ∀ i,w2.frozen? ⟨w.heap.size,i,none⟩ = false:=fun i => dh HK3.out
   have f00:=f0 0;have f01:=f0 1;have f02:=f0 2;have f03:=f0 3;have f04:=f0 4;have f05:=f0 5;have f06:=f0 6;have f07:=f0 7;clear hb2 HP c0 f0;go_wp2_with fail;have P8:=LF nS nS nS (.int .i64 0) (.int .i8 0) nS (.int .i8 0) (.int .i64 0) HK3.out;exact bodyPost_ret (v:=.tuple #[.agg zSt,.int .i64 14,.int .i64 0]) (oW (p:=2) (q:=3) (r:=4) (ty:=35) rfl _ _ w.heap.size zSt rfl (zZ _ _ _ P8.1 rfl) _ _ rfl rfl) rfl (HG.out _ (IC HB3.out P8.2 (Nat.le_refl _)))
  | true =>
   rw [hp] at HP
   have hn5 : 5 ≤ n:=by
    have h1 : zs.take 5 = mgc:=by simpa [pfx] using hp
    have h2:=congrArg List.length h1;rw [List.length_take] at h2
    simp [mgc] at h2
    omega
   obtain ⟨b,off,rfl,hcell⟩:=h.2.2.2.2.resolve_left ae;have hblt : b < w.heap.size:=block_lt_of_cell (hcell 0 ae)
   have e1 : (rdE zs).1 = (fnR zs (r8 zs (5,0)).2).2:=by unfold rdE; rw [if_neg ae,if_neg (by rw [hp]; decide)]
   have e2 : (rdE zs).2 = if (fnR zs (r8 zs (5,0)).2).2 = 0 then 0 else (fnR zs (r8 zs (5,0)).2).1:=by unfold rdE; rw [if_neg ae,if_neg (by rw [hp]; decide)]
   have HR:=hid (fun (W : World) (hW : Below w.heap.size w W) => (show Rd (W.alloc (mM (some ⟨b,off,none⟩) n c 5 0)) W.heap.size (some ⟨b,off,none⟩) n c zs (5,0) from by
    have kb:=bZ W (mM (some ⟨b,off,none⟩) n c 5 0);have hs:=(h.later hW (Nat.le_refl _)).later (aj W (mM (some ⟨b,off,none⟩) n c 5 0)) (Nat.le_refl _);have hz:=hW.size
    exact ⟨ai kb,ai kb,ai kb,dh kb,dh kb,hs,fun b1 o1 e hn => by cases e; omega,⟨ax,aI⟩⟩))
   have HT:=hid (fun (W : World) (R : Nat) (hW : Rd W R (some ⟨b,off,none⟩) n c zs (5,0)) => En R b off n c zs (5,0) W hW ae)
   have HF:=hid (fun (W : World) (R : Nat) (hW : Rd W R (some ⟨b,off,none⟩) n c zs (r8 zs (5,0)).2) => Hy R (some ⟨b,off,none⟩) n c zs _ W hW)
   have HG1:=hid (show ∀ w',Below w.heap.size w w' → (fnR zs (r8 zs (5,0)).2).2 ≠ 0 → RdA zs w (.returned (.tuple #[.agg zSt,.int .i64 (fnR zs (r8 zs (5,0)).2).2,.int .i64 (fnR zs (r8 zs (5,0)).2).1])) w' from fun w' hw hne => ⟨hw,.inl (by rw [e1,e2,if_neg hne]; exact ⟨hne,rfl⟩)⟩)
   have HG2:=hid (show ∀ w' B5 B6 B7 bl B8 ys,Below w.heap.size w w' → (fnR zs (r8 zs (5,0)).2).2 = 0 → StA w.heap.size w' (stP zs (5,0)) B5 B6 B7 bl B8 ys → RdA zs w (.returned (.tuple #[.agg (bW (mkS (stP zs (5,0)) B5 B6 B7 bl B8 ys)),.int .i64 0,.int .i64 0])) w' from fun w' B5 B6 B7 bl B8 ys hw hne hst => ⟨hw,.inr (by rw [e1]; exact ⟨hne,B5,B6,B7,bl,B8,ys,rfl,hst⟩)⟩)
   generalize fnR zs (r8 zs (5,0)).2 = fn at *;generalize r8 zs (5,0) = p8 at *;generalize stP zs (5,0) = sp at *;obtain ⟨at_,er⟩:=fn;dsimp only at *;clear h e1 e2 hl kz b1 b2 km kz2 hsi hp hcell
   go_enter Tryz.func9,Tryz.ntmps9
   go_wp2_with fail;refine HP.out.mono ?_;rintro e w2 ⟨rfl,hb2⟩;have HK3:=hid (bc hb2 HK2.out);have HB3:=hid (HB2.out.trans (hb2.mono HB2.out.size))
   have hs2 : w.heap.size + 2 ≤ w2.heap.size:=by
    have h1:=hb2.size;have h2 : ((w.alloc (stC nS nS nS 0 0 nS 0 0)).alloc mgO).heap.size = w.heap.size + 2:=au;omega
   have R4:=hid (HR.out w2 HB3.out);have b4:=aj w2 (mM (some ⟨b,off,none⟩) n c 5 0);have HK4:=hid (bc b4 HK3.out);have HB4:=hid (HB3.out.trans (b4.mono HB3.out.size));have hs4 : (w2.alloc (mM (some ⟨b,off,none⟩) n c 5 0)).heap.size = w2.heap.size + 1:=au;clear hb2 HP HR b4;go_wp2_with fail;generalize hW4 : w2.alloc (mM (some ⟨b,off,none⟩) n c 5 0) = W4 at *;refine (HT.out W4 w2.heap.size R4.out).mono ?_;rintro e w5 ⟨B5,B6,B7,bl,B8,ys,rfl,hst5,hrd5,hk5⟩;have b6:=aj w5 (.cells (bW (mkS sp B5 B6 B7 bl B8 ys)) 35)
   have hk6 : Kept (fun k => k = w2.heap.size) W4 (w5.alloc (.cells (bW (mkS sp B5 B6 B7 bl B8 ys)) 35)):=hk5.trans (ej b6)
   have HK6:=hid (bj hk6 ae HK4.out);have HB6:=hid (IC HB4.out hk6 ae);have R6:=hid (hrd5.later b6)
   have S6:=hid (hst5.keep (aX (S:=fun _ => False) b6) (fun _ _ _ h => h))
   have N6:=hid (bZ w5 (.cells (bW (mkS sp B5 B6 B7 bl B8 ys)) 35));have hs5:=hk5.size;have hlo5:=hst5.rs.lo;have hhi5:=hst5.rs.hi;clear hst5 hrd5 hk5 b6 HT hk6;go_wp2_with fail;generalize hW6 : w5.alloc (.cells (bW (mkS sp B5 B6 B7 bl B8 ys)) 35) = W6 at *;refine (HF.out W6 w2.heap.size R6.out).mono ?_;rintro e w7 ⟨rfl,hrd7,hk7⟩
   have hs6 : W6.heap.size = w5.heap.size + 1:=by rw [← hW6]; simp
   have HKF:=hid (bj hk7 ae HK6.out);have HB7:=hid (IC HB6.out hk7 ae)
   have S7:=hid (S6.out.keep hk7 (fun q h1 h2 => ae))
   have N7:=hid (bj hk7 ae N6.out);have c1:=hrd7.c1;have c2:=hrd7.c2;dsimp only at c1 c2;have hs7:=hk7.size;have g0 : w7.cell? ⟨w.heap.size,0,none⟩ = some nS:=ai HKF.out;have f00 : w7.frozen? ⟨w.heap.size,0,none⟩ = false:=dh HKF.out;have g1 : w7.cell? ⟨w.heap.size,1,none⟩ = some nS:=ai HKF.out;have f01 : w7.frozen? ⟨w.heap.size,1,none⟩ = false:=dh HKF.out;have g2 : w7.cell? ⟨w.heap.size,2,none⟩ = some nS:=ai HKF.out;have f02 : w7.frozen? ⟨w.heap.size,2,none⟩ = false:=dh HKF.out;have g3 : w7.cell? ⟨w.heap.size,3,none⟩ = some (.int .i64 0):=ai HKF.out;have f03 : w7.frozen? ⟨w.heap.size,3,none⟩ = false:=dh HKF.out;have g4 : w7.cell? ⟨w.heap.size,4,none⟩ = some (.int .i8 0):=ai HKF.out;have f04 : w7.frozen? ⟨w.heap.size,4,none⟩ = false:=dh HKF.out;have g5 : w7.cell? ⟨w.heap.size,5,none⟩ = some nS:=ai HKF.out;have f05 : w7.frozen? ⟨w.heap.size,5,none⟩ = false:=dh HKF.out;have g6 : w7.cell? ⟨w.heap.size,6,none⟩ = some (.int .i8 0):=ai HKF.out;have f06 : w7.frozen? ⟨w.heap.size,6,none⟩ = false:=dh HKF.out;have g7 : w7.cell? ⟨w.heap.size,7,none⟩ = some (.int .i64 0):=ai HKF.out;have f07 : w7.frozen? ⟨w.heap.size,7,none⟩ = false:=dh HKF.out;clear hrd7 hk7 HF R6 HK6 HB6 S6 N6
   by_cases her : er = 0
   ·subst her;obtain ⟨x,hx⟩ : ∃ x,mkS sp B5 B6 B7 bl B8 ys = x:=⟨_,rfl⟩
    have HG3 : Hid (∀ w',Below w.heap.size w w' → StA w.heap.size w' sp B5 B6 B7 bl B8 ys → RdA zs w (.returned (.tuple #[.agg (bW x),.int .i64 0,.int .i64 0])) w'):=hid (fun w' h1 h2 => by rw [← hx]; exact HG2.out w' B5 B6 B7 bl B8 ys h1 rfl h2)
    rw [hx] at N7
    have m : ∀ i,w7.cell? ⟨w5.heap.size,i,none⟩ = (bW x)[i]?:=fun i => ai N7.out
    have m0 : w7.cell? ⟨w5.heap.size,0,none⟩ = some (.slice x.fa x.fn x.fc):=m 0;have m1 : w7.cell? ⟨w5.heap.size,1,none⟩ = some (.slice x.ga x.gn x.gc):=m 1;have m2 : w7.cell? ⟨w5.heap.size,2,none⟩ = some (.slice x.pa x.pn x.pc):=m 2;have m3 : w7.cell? ⟨w5.heap.size,3,none⟩ = some (.int .i64 x.rep):=m 3;have m4 : w7.cell? ⟨w5.heap.size,4,none⟩ = some (.int .i8 x.en):=m 4;have m5 : w7.cell? ⟨w5.heap.size,5,none⟩ = some (.slice x.ra x.rn x.rc):=m 5;have m6 : w7.cell? ⟨w5.heap.size,6,none⟩ = some (.int .i8 x.tr):=m 6;have m7 : w7.cell? ⟨w5.heap.size,7,none⟩ = some (.int .i64 x.us):=m 7;clear m hx;go_wp2_with fail;have P8:=LF (.slice x.fa x.fn x.fc) (.slice x.ga x.gn x.gc) (.slice x.pa x.pn x.pc) (.int .i64 x.rep) (.int .i8 x.en) (.slice x.ra x.rn x.rc) (.int .i8 x.tr) (.int .i64 x.us) HKF.out;refine bodyPost_ret (v:=.tuple #[.agg (bW x),.int .i64 0,.int .i64 0]) (oW (p:=2) (q:=3) (r:=4) (ty:=35) rfl _ _ w.heap.size (bW x) rfl (zZ _ _ _ P8.1 rfl) _ _ rfl rfl) rfl ?_
    have S8:=S7.out.keep P8.2 (fun q h1 h2 => ae)
    exact HG3.out _ (IC HB7.out P8.2 (Nat.le_refl _)) ⟨S8.rs.low ae,S8.gs.low ae,S8.ps,S8.fr,S8.fa,S8.fp,S8.o1,S8.o2,S8.o3,S8.o4⟩
   ·have hb : (er != 0) = true:=by simp [her]
    clear N7 S7;go_wp2_with fail
    go_region
    go_wp2_with fail
    exact JG _ HKF.out HB7.out rfl rfl rfl (fun w' hw => HG1.out w' hw her)
abbrev at0 (n : Nat) : RS:=((n : Int),(0 : Int))
theorem fP {v most : Int} {bs : List Int} (h : (bz v most (bs,false)).2 = false) : v ≤ most ∧ bz v most (bs,false) = (bs ++ aw v,false):=by
 have h1:=(gA h).1;refine ⟨h1,?_⟩;unfold bz ed
 simp [h1,fE]
theorem Bd {v least most : Int} {bs : List Int} (h : (fY v least most (bs,false)).2 = false) : least ≤ v ∧ v ≤ most ∧ fY v least most (bs,false) = (bs ++ [v],false):=by
 unfold fY fE at h
 split at h
 ·rename_i hb; rw [hb] at h; cases h
 ·simp [ed] at h
  refine ⟨h.1,h.2,?_⟩;unfold fY ed fE
  simp [h.1,h.2]
theorem gJ (A R : List Int) (v most above : Int) (h0 : 0 ≤ v) (h1 : v < 18446744073709551616) (hm : v ≤ most) : nmR (A ++ aw v ++ R) most above (at0 A.length) = (v,at0 (A.length + (aw v).length)):=by
 unfold nmR nmE;rw [rD A R v h0 h1]
 simp only
 rw [if_neg ae]
 simp [tkR]
theorem zU (A R : List Int) (v least most : Int) (h : least ≤ v ∧ v ≤ most) : ocR (A ++ [v] ++ R) least most (at0 A.length) = (v,at0 (A.length + 1)):=by
 unfold ocR;rw [if_neg aI];have e : (A ++ [v] ++ R).getD (Int.toNat ((A.length : Int))) 0 = v:=au
 simp only
 rw [e,if_neg ae]
 simp [tkR]
theorem Aw {α β : Type} (f : RS → β × RS) (enc : α → List Int) (val : α → β) (zs : List Int) :
  ∀ (l : List α) (A R : List Int),zs = A ++ l.flatMap enc ++ R →
   (∀ x ∈ l,∀ A' R',zs = A' ++ enc x ++ R' → f (at0 A'.length) = (val x,at0 (A'.length + (enc x).length))) →
   ∀ k,k ≤ l.length → rlR f k (at0 A.length) = ((l.take k).map val,at0 (A.length + ((l.take k).flatMap enc).length)):=by
 intro l A R hz hf k
 induction k with
 | zero => intro _; simp [rlR]
 | succ k ih =>
  intro hk;have ih:=ih ae;have hx : k < l.length:=ae;have ht : l.take (k + 1) = l.take k ++ [l[k]]:=Fb;have hd : l = l.take k ++ [l[k]] ++ l.drop (k + 1):=Gb
  have hzz : zs = (A ++ (l.take k).flatMap enc) ++ enc l[k] ++ ((l.drop (k + 1)).flatMap enc ++ R):=by
   rw [hz]
   have e : l.flatMap enc = (l.take k).flatMap enc ++ enc l[k] ++ (l.drop (k + 1)).flatMap enc:=by
    conv => lhs; rw [hd]
    exact Bz
   rw [e]
   simp only [List.append_assoc]
  have hq:=hf l[k] (List.getElem_mem hx) _ _ hzz;rw [List.length_append] at hq;unfold rlR
  simp only [ih,hq]
  rw [ht,List.flatMap_append,List.length_append,List.map_append]
  simp [Nat.add_assoc]
theorem C4 {l : List Int} {bs : List Int} (h : (aV dM l (bs,false)).2 = false) : aV dM l (bs,false) = (bs ++ l.flatMap aw,false):=by
 induction l generalizing bs with
 | nil => simp [aV]
 | cons v l ih =>
  have h1 : (aV dM l (dM v (bs,false))).2 = false:=h;have h2:=fP (cM cD h1 : (bz v 18446744073709551615 (bs,false)).2 = false);have e : dM v (bs,false) = (bs ++ aw v,false):=h2.2
  show aV dM l (dM v (bs,false)) = _
  rw [e] at h1 ⊢;rw [ih h1]
  simp
def bQ (l : List Int) : List Int:=aw l.length ++ l.flatMap aw
theorem jW {l : List Int} {most : Int} {bs : List Int} (h : (bw dM l most (bs,false)).2 = false) : (l.length : Int) ≤ most ∧ bw dM l most (bs,false) = (bs ++ bQ l,false):=by
 unfold bw at h ⊢;have h1:=fP (cM cD h);rw [h1.2] at h ⊢;refine ⟨h1.1,?_⟩;rw [C4 h]
 simp [bQ]
theorem oI (A R : List Int) (l : List Int) (most : Int) (hl : (l.length : Int) ≤ most) (hb : l.length < 1099511627776) (hr : ∀ v ∈ l,0 ≤ v ∧ v < 18446744073709551616) :
  lsR (A ++ bQ l ++ R) most (at0 A.length) = (l,at0 (A.length + (bQ l).length)):=by
 have hz : A ++ bQ l ++ R = A ++ aw l.length ++ (l.flatMap aw ++ R):=by simp [bQ]
 have h1:=gJ A (l.flatMap aw ++ R) l.length most 20 ae ae hl;rw [← hz] at h1;unfold lsR;rw [h1]
 simp only [Int.toNat_natCast]
 have hz2 : A ++ bQ l ++ R = (A ++ aw l.length) ++ l.flatMap aw ++ R:=by simp [bQ]
 have h2:=Aw (vlR (A ++ bQ l ++ R)) aw id (A ++ bQ l ++ R) l (A ++ aw l.length) R hz2 (fun x hx A' R' hh => by
  unfold vlR;rw [hh]
  exact gJ A' R' x _ _ (hr x hx).1 (hr x hx).2 (by have:=(hr x hx).2; omega)) l.length (Nat.le_refl _)
 rw [List.length_append] at h2;rw [h2]
 simp [bQ]
 omega
def gW (x : FrM) : List Int:=aw (u64 x.1) ++ aw (u64 x.2.1) ++ bQ x.2.2.1.2 ++ bQ x.2.2.2.2
theorem LZ {x : FrM} {bs : List Int} (h : (frW x (bs,false)).2 = false) : u64 x.1 ≤ 127 ∧ u64 x.2.1 ≤ 2047 ∧ x.2.2.1.2.length ≤ 64 ∧ x.2.2.2.2.length ≤ 256 ∧ frW x (bs,false) = (bs ++ gW x,false):=by
 unfold frW at h ⊢
 have g4 : (bw dM x.2.2.1.2 64 (bz (u64 x.2.1) 2047 (bz (u64 x.1) 127 (bs,false)))).2 = false:=by
  cases hb : (bw dM x.2.2.1.2 64 (bz (u64 x.2.1) 2047 (bz (u64 x.1) 127 (bs,false)))).2 with
  | false => rfl
  | true => rw [dG cD _ _ _ hb,hb] at h; cases h
 have g3 : (bz (u64 x.2.1) 2047 (bz (u64 x.1) 127 (bs,false))).2 = false:=by
  cases hb : (bz (u64 x.2.1) 2047 (bz (u64 x.1) 127 (bs,false))).2 with
  | false => rfl
  | true => rw [dG cD _ _ _ hb,hb] at g4; cases g4
 have g2 : (bz (u64 x.1) 127 (bs,false)).2 = false:=(gA g3).2;have a1:=fP g2;rw [a1.2] at g3 g4 h ⊢;have a2:=fP g3;rw [a2.2] at g4 h ⊢;have a3:=jW g4;rw [a3.2] at h ⊢;have a4:=jW h
 exact ⟨a1.1,a2.1,ae,ae,by rw [a4.2]; simp [gW]⟩
theorem ke {v m : Int} (h : -9223372036854775808 ≤ v ∧ v < 9223372036854775808) (hm : m < 9223372036854775808) (hu : u64 v ≤ m) : u64 v = v ∧ 0 ≤ v:=by
 simp only [u64,IntKind.wrap_u64] at hu ⊢
 omega
theorem Ke (A R : List Int) (x : FrM) (h1 : u64 x.1 ≤ 127) (h2 : u64 x.2.1 ≤ 2047) (h3 : x.2.2.1.2.length ≤ 64) (h4 : x.2.2.2.2.length ≤ 256) (hr : FrR x) (g1 : -9223372036854775808 ≤ x.1 ∧ x.1 < 9223372036854775808) (g2 : -9223372036854775808 ≤ x.2.1 ∧ x.2.1 < 9223372036854775808) :
  frR (A ++ gW x ++ R) (at0 A.length) = (plF x,at0 (A.length + (gW x).length)):=by
 have z1 : A ++ gW x ++ R = A ++ aw (u64 x.1) ++ (aw (u64 x.2.1) ++ bQ x.2.2.1.2 ++ bQ x.2.2.2.2 ++ R):=by simp [gW]
 have z2 : A ++ gW x ++ R = (A ++ aw (u64 x.1)) ++ aw (u64 x.2.1) ++ (bQ x.2.2.1.2 ++ bQ x.2.2.2.2 ++ R):=by simp [gW]
 have z3 : A ++ gW x ++ R = (A ++ aw (u64 x.1) ++ aw (u64 x.2.1)) ++ bQ x.2.2.1.2 ++ (bQ x.2.2.2.2 ++ R):=by simp [gW]
 have z4 : A ++ gW x ++ R = (A ++ aw (u64 x.1) ++ aw (u64 x.2.1) ++ bQ x.2.2.1.2) ++ bQ x.2.2.2.2 ++ R:=by simp [gW]
 have b1:=gJ A (aw (u64 x.2.1) ++ bQ x.2.2.1.2 ++ bQ x.2.2.2.2 ++ R) (u64 x.1) 127 17 (dv _).1 (dv _).2 h1;have b2:=gJ (A ++ aw (u64 x.1)) (bQ x.2.2.1.2 ++ bQ x.2.2.2.2 ++ R) (u64 x.2.1) 2047 17 (dv _).1 (dv _).2 h2;have b3:=oI (A ++ aw (u64 x.1) ++ aw (u64 x.2.1)) (bQ x.2.2.2.2 ++ R) x.2.2.1.2 64 ae ae hr.1;have b4:=oI (A ++ aw (u64 x.1) ++ aw (u64 x.2.1) ++ bQ x.2.2.1.2) R x.2.2.2.2 256 ae ae hr.2;rw [← z1] at b1;rw [← z2] at b2;rw [← z3] at b3;rw [← z4] at b4;have u1:=(ke g1 ax h1).1;have u2:=(ke g2 ax h2).1
 simp only [List.length_append] at b2 b3 b4
 unfold frR;rw [b1]
 simp only
 rw [b2]
 simp only
 rw [b3]
 simp only
 rw [b4]
 simp only
 rw [u1,u2]
 simp [plF,gW,u1,u2]
 omega
def fF (ps : List PgM) (k : Int) : List Int:=aw k ++ (ps[k.toNat]?).elim [] (fun x => x.2)
theorem rK {ps : List PgM} : ∀ {l : List Int} {bs : List Int},(aV (pgK ps) l (bs,false)).2 = false → (∀ k ∈ l,k ≤ 64) ∧ aV (pgK ps) l (bs,false) = (bs ++ l.flatMap (fF ps),false)
 | [],bs,_ => ⟨fun k hk => (by cases hk),by simp [aV]⟩
 | k :: l,bs,h => by
  have h1 : (aV (pgK ps) l (pgK ps k (bs,false))).2 = false:=h;have h2:=cM (iq ps) h1
  have h3 : (bz k 64 (bs,false)).2 = false:=by
   cases hb : (bz k 64 (bs,false)).2 with
   | false => rfl
   | true => unfold pgK at h2; rw [mC _ _ hb,hb] at h2; cases h2
  have h4:=fP h3
  have e : pgK ps k (bs,false) = (bs ++ fF ps k,false):=by
   unfold pgK;rw [h4.2]
   simp [fE,fF]
  rw [e] at h1;have ih:=rK h1
  refine ⟨fun q hq => ?_,?_⟩
  ·rcases List.mem_cons.1 hq with rfl | hq
   ·exact h4.1
   ·exact ih.1 q hq
  ·show aV (pgK ps) l (pgK ps k (bs,false)) = _
   rw [e,ih.2]
   simp
def ey (ps : List PgM) : List Int:=aw ps.length ++ aw (idx ps).length ++ (idx ps).flatMap (fF ps)
theorem Ij {ps : List PgM} {s : WS} (h : (aV pgA ps s).2 = false) : aV pgA ps s = s:=by
 have h1:=cM ji h;have h2:=kY (ps:=ps) (s:=s);obtain ⟨bs,bad⟩:=s;dsimp only at h1;subst h1;exact Prod.ext h2 h
theorem CE {ps : List PgM} {bs : List Int} (h : (dN ps (bs,false)).2 = false) : ps.length ≤ 64 ∧ (∀ x ∈ ps,x.1.2.1 = 4096) ∧ dN ps (bs,false) = (bs ++ ey ps,false):=by
 unfold dN at h ⊢
 have g2 : (aV pgA ps (bz ps.length 64 (bs,false))).2 = false:=by
  cases hb : (aV pgA ps (bz ps.length 64 (bs,false))).2 with
  | false => rfl
  | true => rw [dG (iq ps) _ _ _ hb,hb] at h; cases h
 have a1:=fP (cM ji g2);have ha:=rY g2;rw [Ij g2,a1.2] at h ⊢;unfold bw at h ⊢;have a2:=fP (cM (iq ps) h);rw [a2.2] at h ⊢;have a3:=rK h
 refine ⟨by have:=a1.1; omega,ha,?_⟩
 rw [a3.2]
 simp [ey]
def GV (ps : List PgM) (l : List Int) : List (List Int):=l.foldl (fun q k => q.set k.toNat ((ps[k.toNat]?).elim [] (fun x => x.2))) (List.replicate ps.length Zp)
theorem JH (A R : List Int) (v least count : Int) (h0 : 0 ≤ v) (h1 : v < 18446744073709551616) (hl : least ≤ v) (hc : v < count) : pnR (A ++ aw v ++ R) least count (at0 A.length) = (v,at0 (A.length + (aw v).length)):=by
 unfold pnR pnE;rw [rD A R v h0 h1]
 simp only
 rw [if_neg au,if_neg ae,if_neg ae]
 simp [tkR]
theorem JK (A R l : List Int) (hl : l.length = 4096) (hz : l ≠ Zp) : pgL (A ++ l ++ R) (at0 A.length).1.toNat = l ∧ pgR (A ++ l ++ R) (at0 A.length) = at0 (A.length + 4096):=by
 have e : pgT (A ++ l ++ R) A.length = l:=by
  unfold pgT;rw [List.append_assoc,List.drop_left,List.take_append_of_le_length ae,List.take_of_length_le ae]
 have e2 : pgL (A ++ l ++ R) A.length = l:=by
  unfold pgL
  rw [e,hl,List.drop_eq_nil_of_le (by rw [qp]; omega),List.append_nil]
 refine ⟨by simpa using e2,?_⟩
 have hx : pgX (A ++ l ++ R) A.length = 0:=by
  unfold pgX
  rw [if_neg (by rw [e]; omega),if_neg (by rw [e2]; exact hz)]
 unfold pgR
 simp only [Int.toNat_natCast]
 rw [hx,e,hl]
 simp [tkR]
def leA (l : List Int) : Int:=(l.getLast?).elim 0 (fun k => k + 1)
theorem Jj (ps : List PgM) : (idx ps).Pairwise (· < ·):=by
 unfold idx fW;rw [List.pairwise_map];refine List.Pairwise.filter _ ?_
 exact (List.pairwise_lt_range).imp (fun h => ae)
theorem Mn {l : List Int} (h : l.Pairwise (· < ·)) (h0 : ∀ k ∈ l,0 ≤ k) (j : Nat) (hj : j < l.length) : leA (l.take j) ≤ l[j]:=by
 unfold leA
 cases hq : (l.take j).getLast? with
 | none => exact h0 _ (List.getElem_mem hj)
 | some k =>
  show k + 1 ≤ l[j]
  have hm:=List.mem_of_getLast? hq;obtain ⟨i,hi,e⟩:=List.getElem_of_mem hm;rw [List.length_take] at hi;rw [List.getElem_take] at e
  have:=List.pairwise_iff_getElem.1 h i j ae hj ae
  omega
theorem Hu (ps : List PgM) (hp : ∀ x ∈ ps,x.2.length = 4096) (hn : ps.length ≤ 64) (A R zs : List Int) (hz : zs = A ++ (idx ps).flatMap (fF ps) ++ R) :
  ∀ j,j ≤ (idx ps).length → pgI zs ps.length j (List.replicate ps.length Zp,0,at0 A.length) = (GV ps ((idx ps).take j),leA ((idx ps).take j),at0 (A.length + (((idx ps).take j).flatMap (fF ps)).length)):=by
 intro j
 induction j with
 | zero => intro _; simp [pgI,GV,leA]
 | succ j ih =>
  intro hj;have ih:=ih ae;have hx : j < (idx ps).length:=ae;have ht : (idx ps).take (j + 1) = (idx ps).take j ++ [(idx ps)[j]]:=Fb;have hd : idx ps = (idx ps).take j ++ [(idx ps)[j]] ++ (idx ps).drop (j + 1):=Gb;obtain ⟨i,y,hk,hi,hy,hne⟩:=j5 (List.getElem_mem hx)
  have hle:=Mn (Jj ps) (fun k hk => by obtain ⟨i,_,e,_⟩:=j5 hk; omega) j hx
  have hyl:=hp y (List.mem_of_getElem? hy)
  have he : fF ps (idx ps)[j] = aw (idx ps)[j] ++ y.2:=by unfold fF; rw [hk,Int.toNat_natCast,hy]; rfl
  have hzz : zs = (A ++ ((idx ps).take j).flatMap (fF ps)) ++ aw (idx ps)[j] ++ (y.2 ++ (((idx ps).drop (j + 1)).flatMap (fF ps) ++ R)):=by
   rw [hz]
   have e : (idx ps).flatMap (fF ps) = ((idx ps).take j).flatMap (fF ps) ++ fF ps (idx ps)[j] ++ ((idx ps).drop (j + 1)).flatMap (fF ps):=by
    conv => lhs; rw [hd]
    exact Bz
   rw [e,he]
   simp only [List.append_assoc]
  have hzz2 : zs = (A ++ ((idx ps).take j).flatMap (fF ps) ++ aw (idx ps)[j]) ++ y.2 ++ (((idx ps).drop (j + 1)).flatMap (fF ps) ++ R):=by rw [hzz]; simp only [List.append_assoc]
  have b1:=JH (A ++ ((idx ps).take j).flatMap (fF ps)) (y.2 ++ (((idx ps).drop (j + 1)).flatMap (fF ps) ++ R)) (idx ps)[j] (leA ((idx ps).take j)) ps.length ae ae hle ae;rw [← hzz,List.length_append] at b1;have b2:=JK (A ++ ((idx ps).take j).flatMap (fF ps) ++ aw (idx ps)[j]) (((idx ps).drop (j + 1)).flatMap (fF ps) ++ R) y.2 hyl hne;rw [← hzz2,List.length_append,List.length_append] at b2
  show pgS zs ps.length (pgI zs ps.length j _) = _
  rw [ih];unfold pgS
  simp only [b1]
  rw [b2.1,b2.2,ht];refine Prod.ext ?_ (Prod.ext ?_ ?_)
  ·simp only [GV,List.foldl_append,List.foldl_cons,List.foldl_nil]
   rw [hk,Int.toNat_natCast,hy];rfl
  ·unfold leA;rw [List.getLast?_concat];rfl
  ·simp only [List.flatMap_append,List.flatMap_cons,List.flatMap_nil,List.append_nil,List.length_append,he,hyl,Nat.add_assoc]
abbrev FX (ps : List PgM) (k : Int) : List Int:=(ps[k.toNat]?).elim [] (fun x => x.2)
theorem Ew (ps : List PgM) : ∀ (l : List Int) (q : List (List Int)) (i : Nat),(∀ k ∈ l,0 ≤ k) → i < q.length →
  (l.foldl (fun q k => q.set k.toNat (FX ps k)) q)[i]? = if (i : Int) ∈ l then some (FX ps i) else q[i]?
 | [],q,i,_,_ => by simp
 | k :: l,q,i,h,hi => by
  rw [List.foldl_cons,Ew ps l _ i (fun k hk => h k (by simp [hk])) (by rw [List.length_set]; exact hi)]
  have h0:=h k au
  by_cases hm : (i : Int) ∈ l
  ·rw [if_pos hm,if_pos (by simp [hm])]
  ·rw [if_neg hm,List.getElem?_set]
   by_cases hk : k = (i : Int)
   ·subst hk;rw [if_pos au,if_pos uz,if_pos au]
   ·rw [if_neg ae,if_neg (by simp [hm]; omega)]
theorem Ht (ps : List PgM) : ∀ (l : List Int) (q : List (List Int)),(l.foldl (fun q k => q.set k.toNat (FX ps k)) q).length = q.length
 | [],q => rfl
 | k :: l,q => by rw [List.foldl_cons,Ht ps l,List.length_set]
theorem DZ (ps : List PgM) : GV ps (idx ps) = ps.map (fun x => x.2):=by
 apply List.ext_getElem?
 intro i;unfold GV
 by_cases hi : i < ps.length
 ·rw [Ew ps (idx ps) _ i (fun k hk => by obtain ⟨i,_,e,_⟩:=j5 hk; omega) uz]
  rw [List.getElem?_map,ba hi,List.getElem?_replicate,if_pos hi]
  have hpg : FX ps (i : Int) = ps[i].2:=by
   unfold FX;rw [Int.toNat_natCast,ba hi];rfl
  by_cases hm : (i : Int) ∈ idx ps
  ·rw [if_pos hm,hpg]; rfl
  ·rw [if_neg hm]
   have : ps[i].2 = Zp:=by
    refine Classical.byContradiction (fun hne => hm ?_)
    unfold idx fW;rw [List.mem_map]
    exact ⟨i,by rw [List.mem_filter,List.mem_range]; exact ⟨hi,by rw [ba hi]; simpa using hne⟩,rfl⟩
   rw [← this]; rfl
 ·rw [List.getElem?_eq_none (by rw [Ht,List.length_replicate]; omega),List.getElem?_eq_none (by rw [List.length_map]; omega)]
theorem GY (ps : List PgM) (hp : ∀ x ∈ ps,x.2.length = 4096) (hn : ps.length ≤ 64) (A R : List Int) : qV (A ++ ey ps ++ R) (at0 A.length) = (ps.map (fun x => x.2),at0 (A.length + (ey ps).length)):=by
 have hil : (idx ps).length ≤ ps.length:=iU ps _
 have z1 : A ++ ey ps ++ R = A ++ aw ps.length ++ (aw (idx ps).length ++ (idx ps).flatMap (fF ps) ++ R):=by simp [ey]
 have z2 : A ++ ey ps ++ R = (A ++ aw ps.length) ++ aw (idx ps).length ++ ((idx ps).flatMap (fF ps) ++ R):=by simp [ey]
 have z3 : A ++ ey ps ++ R = (A ++ aw ps.length ++ aw (idx ps).length) ++ (idx ps).flatMap (fF ps) ++ R:=by simp [ey]
 have b1:=gJ A (aw (idx ps).length ++ (idx ps).flatMap (fF ps) ++ R) ps.length 64 20 ae ae ae;have b2:=gJ (A ++ aw ps.length) ((idx ps).flatMap (fF ps) ++ R) (idx ps).length ps.length 20 ae ae ae;have b3:=Hu ps hp hn (A ++ aw ps.length ++ aw (idx ps).length) R (A ++ ey ps ++ R) z3 (idx ps).length (Nat.le_refl _);rw [← z1] at b1;rw [← z2] at b2;rw [List.take_of_length_le (Nat.le_refl _),DZ] at b3
 simp only [List.length_append] at b2 b3
 unfold qV;rw [b1]
 simp only
 rw [b2]
 simp only [Int.toNat_natCast]
 rw [b3]
 simp [ey,Nat.add_assoc]
end Go.Proofs.YtkdldbfbldkkcaaGreatDoor

/-
  Texts Ce.
-/
import Derived.Deep.CutRange
import Derived.Test.YtkdldbfbldkkcaaGreatDoorM00
import Derived.Test.YtkdldbfbldkkcaaGreatDoorM43
set_option linter.unusedVariables false
set_option maxRecDepth 100000
set_option maxHeartbeats 16000000
namespace Go.Proofs.YtkdldbfbldkkcaaGreatDoor
open Go.RowKit
theorem Ba {W : World} {b : Nat} {o : Obj} (h : W.heap[b]? = some o) : b < W.heap.size:=aM h
theorem bg {w w' : World} {b : Nat} {o : Obj} (hb : Below w.heap.size w w') (h : w.heap[b]? = some o) : w'.heap[b]? = some o:=ar hb h
theorem cU (w : World) (o : Obj) : (w.alloc o).heap[w.heap.size]? = some o:=heap_alloc_new w o
theorem vX {w : World} {n : Nat} {o : Obj} (h : w.heap.size = n) : (w.alloc o).heap[n]? = some o:=gF h
theorem bL {W : World} {b G j : Nat} {u : Value} {o : Obj} (h : W.heap[b]? = some o) (hb : b ≠ G) : (W.setCell ⟨G,j,none⟩ u).heap[b]? = some o:=((ay W G j u).block b (Ba h) hb).trans h
abbrev fnv (k : Nat) (cs : Array Value) : Value:=.func (.func k) #[] cs
def eight (MB SX P7 P8 P9 : Nat) : List Value:=[fnv 26 #[pt P7,pt P8,pt P9],fnv 27 #[pt P7,pt SX],fnv 28 #[pt SX,pt P8],fnv 29 #[pt P9,pt SX],fnv 31 #[pt SX],fnv 32 #[pt SX],fnv 33 #[pt MB,pt SX],fnv 35 #[pt SX,pt MB]]
def mY (MB TX SX P7 P8 P9 : Nat) (KX : Nat → Nat) (n : Nat) : List Value:=eight MB SX P7 P8 P9 ++ (List.range n).map fun i => fnv 37 #[pt MB,pt TX,pt SX,pt (KX i)]
theorem DW (MB TX SX P7 P8 P9 : Nat) (KX : Nat → Nat) (n : Nat) : (mY MB TX SX P7 P8 P9 KX n).length = 8 + n:=by simp [mY,eight]; omega
theorem Dg (MB TX SX P7 P8 P9 : Nat) (KX : Nat → Nat) (n Z : Nat) : mY MB TX SX P7 P8 P9 KX n ++ [fnv 37 #[pt MB,pt TX,pt SX,pt Z]] = mY MB TX SX P7 P8 P9 (fun i => if i = n then Z else KX i) (n + 1):=by
 unfold mY;rw [List.range_succ,List.map_append,List.append_assoc]
 congr 1
 congr 1
 ·apply List.map_congr_left
  intro i hi
  have : i ≠ n:=by have:=List.mem_range.1 hi; omega
  simp [this]
 ·simp
structure AK (w : World) (mv sv : Array Value) (tv : Value) (MB TX SX P7 P8 P9 : Nat) (b7 b8 b9 : Bool) : Prop where
 m : w.heap[MB]? = some (.cells mv 29)
 x : w.heap[TX]? = some (.cells #[tv] 65)
 s : w.heap[SX]? = some (.cells sv 35)
 p7 : w.heap[P7]? = some (aQ b7)
 p8 : w.heap[P8]? = some (aQ b8)
 p9 : w.heap[P9]? = some (aQ b9)
theorem AK.later {w w' : World} {mv sv : Array Value} {tv : Value} {MB TX SX P7 P8 P9 : Nat} {b7 b8 b9 : Bool} (h : AK w mv sv tv MB TX SX P7 P8 P9 b7 b8 b9) (hb : Below w.heap.size w w') : AK w' mv sv tv MB TX SX P7 P8 P9 b7 b8 b9:=⟨bg hb h.m,bg hb h.x,bg hb h.s,bg hb h.p7,bg hb h.p8,bg hb h.p9⟩
theorem iY {S : Nat → Prop} {w w' : World} {b : Nat} {a : Array Value} {t : TypeId} (h : w.heap[b]? = some (.cells a t)) (hk : Kept S w w') (hS : ∀ b,S b → ∃ cur,w.heap[b]? = some (.cells cur 36)) (ht : t ≠ 36) : w'.heap[b]? = some (.cells a t) :=
 (hk.block b (Ba h) (fun hs => by
  obtain ⟨cur,hc⟩:=hS b hs;rw [h] at hc
  simp at hc
  exact ht hc.2)).trans h
theorem AK.kept {S : Nat → Prop} {w w' : World} {mv sv : Array Value} {tv : Value} {MB TX SX P7 P8 P9 : Nat} {b7 b8 b9 : Bool} (h : AK w mv sv tv MB TX SX P7 P8 P9 b7 b8 b9) (hk : Kept S w w') (hS : ∀ b,S b → ∃ cur,w.heap[b]? = some (.cells cur 36)) : AK w' mv sv tv MB TX SX P7 P8 P9 b7 b8 b9 :=
 ⟨iY h.m hk hS ax,iY h.x hk hS ax,iY h.s hk hS ax,iY h.p7 hk hS ax,iY h.p8 hk hS ax,iY h.p9 hk hS ax⟩
theorem Tryz.infQ : (Tryz.prog.info? 36).map (fun i => (i.zero,i.size,i.bytes)) = some (some .nilFunc,1,8):=ak
theorem EO {w : World} {base e k n b : Nat} {v : Value} {xs : List Value} (h : w.ownsRow base e k v n xs) (hb : v.ownBlock = some b) : base ≤ b ∧ b < w.heap.size ∧ ∃ cur,w.heap[b]? = some (.cells cur e):=by
 rcases h.2 with ⟨h0,_⟩ | ⟨g,cp,cur,rfl,h2,h3,h4⟩
 ·rw [h0] at hb; cases hb
 ·obtain rfl : g = b:=ql;exact ⟨h2,Ba h3,cur,h3⟩
theorem xQ {w : World} {base n b : Nat} {v : Value} {xs : List Value} {z : Int} (h : w.ownsRow base 36 1 v n xs) (hb : v.ownBlock = some b) (hc : w.cell? ⟨b,0,none⟩ = some (.int .i64 z)) (hn : 0 < n) (hx : ∀ u,xs[0]? = some u → ∀ z,u ≠ .int .i64 z) : False:=by
 rcases h.2 with ⟨h0,_⟩ | ⟨g,cp,cur,rfl,h2,h3,h4⟩
 ·rw [h0] at hb; cases hb
 ·obtain rfl : g = b:=ql;have h9:=World.ownsRow.cellAt h 0 ae;rw [hc] at h9;exact hx _ h9.symm z rfl
theorem Ja {w w' : World} {base e k n : Nat} {v : Value} {xs : List Value} (h : w.ownsRow base e k v n xs) (hb : Below w.heap.size w w') : w'.ownsRow base e k v n xs:=by
 refine ⟨h.1,?_⟩
 rcases h.2 with h0 | ⟨g,cp,cur,rfl,h2,h3,h4⟩
 ·exact .inl h0
 ·exact .inr ⟨g,cp,cur,rfl,h2,bg hb h3,h4⟩
theorem Ob (v0 v1 v2 v3 v4 v5 v6 v7 : Value) (xa : Option Addr) (xn xc : Nat) (fa ga pa ra : Option Addr) (fn fc gn gc pn pc rn rc : Nat) (rep en tr us : Int) (b7 b8 b9 : Bool) (K : Nat) (w : World) (hfn : fn ≤ 281474976710656) (hKm : min fn 64 = K) (e7 : (en == 1) = b7) (e8 : (en == 2) = b8) (e9 : (en == 3) = b9) :
  Calls Tryz.prog 16 #[.agg #[v0,v1,v2,v3,v4,v5,v6,v7],.slice xa xn xc,.agg #[.slice fa fn fc,.slice ga gn gc,.slice pa pn pc,.int .i64 rep,.int .i8 en,.slice ra rn rc,.int .i8 tr,.int .i64 us]] w fun e w' => ∃ MB TX SX P7 P8 P9 KX LB cap,e = .returned (.slice (some ⟨LB,0,none⟩) (8 + K) cap) ∧ AK w' #[v0,v1,v2,v3,v4,v5,v6,v7] #[.slice fa fn fc,.slice ga gn gc,.slice pa pn pc,.int .i64 rep,.int .i8 en,.slice ra rn rc,.int .i8 tr,.int .i64 us] (.slice xa xn xc) MB TX SX P7 P8 P9 b7 b8 b9 ∧ (∀ i,i < K → w'.cell? ⟨KX i,0,none⟩ = some (.int .i64 i)) ∧ w'.ownsRow w.heap.size 36 1 (.slice (some ⟨LB,0,none⟩) (8 + K) cap) (8 + K) (mY MB TX SX P7 P8 P9 KX K) ∧ Below w.heap.size w w':=by
 have B0:=aj w (.cells #[v0,v1,v2,v3,v4,v5,v6,v7] 29);have B1:=aj (w.alloc (.cells #[v0,v1,v2,v3,v4,v5,v6,v7] 29)) (.cells #[.slice xa xn xc] 65);have B2:=aj ((w.alloc (.cells #[v0,v1,v2,v3,v4,v5,v6,v7] 29)).alloc (.cells #[.slice xa xn xc] 65)) (fw fa fn fc ga gn gc pa pn pc rep en ra rn rc tr us);have km:=bg B2 (bg B1 (cU w (.cells #[v0,v1,v2,v3,v4,v5,v6,v7] 29)));have kx : (((w.alloc (.cells #[v0,v1,v2,v3,v4,v5,v6,v7] 29)).alloc (.cells #[.slice xa xn xc] 65)).alloc (fw fa fn fc ga gn gc pa pn pc rep en ra rn rc tr us)).heap[w.heap.size + 1]? = some (.cells #[.slice xa xn xc] 65):=bg B2 (vX au);have ks : (((w.alloc (.cells #[v0,v1,v2,v3,v4,v5,v6,v7] 29)).alloc (.cells #[.slice xa xn xc] 65)).alloc (fw fa fn fc ga gn gc pa pn pc rep en ra rn rc tr us)).heap[w.heap.size + 1 + 1]? = some (fw fa fn fc ga gn gc pa pn pc rep en ra rn rc tr us):=vX au;have HB0:=hid (B0.trans ((B1.trans (B2.mono B1.size)).mono B0.size));have g4 : (((w.alloc (.cells #[v0,v1,v2,v3,v4,v5,v6,v7] 29)).alloc (.cells #[.slice xa xn xc] 65)).alloc (fw fa fn fc ga gn gc pa pn pc rep en ra rn rc tr us)).drew.cell? ⟨w.heap.size + 1 + 1,4,none⟩ = some (.int .i8 en):=ai ks;have hG:=Ba ks;have HK:=hid (And.intro km (And.intro kx ks));clear B0 B1 B2 km kx ks;obtain ⟨i0,hi,hz0,hz1,hz2⟩:=info_parts Tryz.infQ;have hK64 : K ≤ 64:=ae;have HKm : Hid (min (fn : Int) 64 = (K : Int)):=hid ae;clear hKm
 go_enter Tryz.func16,Tryz.ntmps16
 go_wp2_with fail;generalize (((w.alloc (.cells #[v0,v1,v2,v3,v4,v5,v6,v7] 29)).alloc (.cells #[.slice xa xn xc] 65)).alloc (fw fa fn fc ga gn gc pa pn pc rep en ra rn rc tr us)) = W0 at *
 go_cut [7,8,9] from 12 to 20 (fun a b c W => ∃ P7 P8 P9,a = pt P7 ∧ b = pt P8 ∧ c = pt P9 ∧ W.heap[P7]? = some (aQ b7) ∧ W.heap[P8]? = some (aQ b8) ∧ W.heap[P9]? = some (aQ b9) ∧ Hid (Below W0.heap.size W0 W))
 case first =>
  have HBD:=hid (show Below W0.heap.size W0 W0.drew from below_drewN W0 1);have hG' : w.heap.size + 1 + 1 < W0.drew.heap.size:=hG
  refine wp_region_held_drew (S:=fun W => W.cell? ⟨w.heap.size + 1 + 1,4,none⟩ = some (.int .i8 en)) ak g4 (fun hHeld => ?_)
  generalize W0.drew = V0 at *;have hV0:=HBD.out.size;refine dK (i:=0) rfl ?_;(try simp only [Act.put,sIB]);refine dK (i:=1) rfl ?_;(try simp only [Act.put]);refine dK (i:=2) rfl ?_;(try simp only [Act.put]);refine dK (i:=3) rfl ?_;(try simp only [Act.put]);refine dK (i:=4) rfl ?_;(try simp only [Act.put]);refine dK (i:=5) rfl ?_;(try simp only [Act.put]);refine dK (i:=6) rfl ?_;(try simp only [Act.put]);refine dK (i:=7) rfl ?_;(try simp only [Act.put]);refine dK (i:=8) rfl ?_;(try simp only [Act.put]);refine eZ (rs:=[9,10,11]) ?_
  refine dO (i:=9) rfl (fun K hK => ?_) (dO (i:=10) rfl (fun K hK => ?_) (dO (i:=11) rfl (fun K hK => ?_) rN))
  ·go_simp;have hn:=aj V0 (aQ false);have k9 : (V0.alloc (aQ false)).heap[V0.heap.size]? = some (aQ false):=cU V0 _;have hlt1 : V0.heap.size < (V0.alloc (aQ false)).heap.size:=au;have hb1:=HBD.out.trans (hn.mono HBD.out.size);have s1:=ag hn hHeld
   refine hK.out _ _ s1 (fun _ => ?_)
   clear hK K hn;(try simp only [Act.put,sIB,sC0,sCs]);generalize V0.alloc (aQ false) = V19 at *;refine eZ (rs:=[10,11]) ?_
   refine dO (i:=10) rfl (fun K hK => ?_) (dO (i:=11) rfl (fun K hK => ?_) rN)
   ·go_simp;have hn:=aj V19 (aQ false);have k10 : (V19.alloc (aQ false)).heap[V19.heap.size]? = some (aQ false):=cU V19 _;have hlt2 : V19.heap.size < (V19.alloc (aQ false)).heap.size:=au
    replace k9:=bg hn k9
    have hb2:=hb1.trans (hn.mono hb1.size);have s2:=ag hn s1
    refine hK.out _ _ s2 (fun _ => ?_)
    clear hK K hn;(try simp only [Act.put,sIB,sC0,sCs]);generalize V19.alloc (aQ false) = V210 at *;refine eZ (rs:=[11]) ?_
    refine dO (i:=11) rfl (fun K hK => ?_) rN
    go_simp;have hn:=aj V210 (aQ false);have k11 : (V210.alloc (aQ false)).heap[V210.heap.size]? = some (aQ false):=cU V210 _;have hlt3 : V210.heap.size < (V210.alloc (aQ false)).heap.size:=au
    replace k9:=bg hn k9
    replace k10:=bg hn k10
    have hb3:=hb2.trans (hn.mono hb2.size);have s3:=ag hn s2
    refine hK.out _ _ s3 (fun _ => ?_)
    clear hK K hn;(try simp only [Act.put,sIB,sC0,sCs]);generalize V210.alloc (aQ false) = V311 at *;have l01 : V0.heap.size < V19.heap.size:=hlt1;have l12 : V19.heap.size < V210.heap.size:=hlt2;have c9 : V311.cell? ⟨V0.heap.size,0,none⟩ = some (.bool false):=ai k9;have z9 : V311.frozen? ⟨V0.heap.size,0,none⟩ = false:=free_at k9;refine eZ (rs:=[12]) ?_
    refine dO (i:=12) rfl (fun K hK => ?_) rN
    go_simp;have kk9 : (V311.setCell ⟨V0.heap.size,0,none⟩ (.bool b7)).heap[V0.heap.size]? = some (aQ b7):=aS (i:=0) (u:=.bool b7) k9;have kk10:=bL (G:=V0.heap.size) (j:=0) (u:=.bool b7) k10 ae;have kk11:=bL (G:=V0.heap.size) (j:=0) (u:=.bool b7) k11 ae
    have sb : (V311.setCell ⟨V0.heap.size,0,none⟩ (.bool b7)).cell? ⟨w.heap.size + 1 + 1,4,none⟩ = some (.int .i8 en):=by
     exact cS
    have bb9:=hb3.trans ((ay V311 V0.heap.size 0 (.bool b7)).to_below hb3.size (fun k hk e => qd))
    refine hK.out _ _ sb (fun _ => ?_)
    clear hK K c9 z9 k9 k10 k11;have k9:=kk9;have k10:=kk10;have k11:=kk11;clear kk9 kk10 kk11;generalize V311.setCell ⟨V0.heap.size,0,none⟩ (.bool b7) = X9 at *;have c10 : X9.cell? ⟨V19.heap.size,0,none⟩ = some (.bool false):=ai k10;have z10 : X9.frozen? ⟨V19.heap.size,0,none⟩ = false:=free_at k10;refine eZ (rs:=[13]) ?_
    refine dO (i:=13) rfl (fun K hK => ?_) rN
    go_simp;have kk10 : (X9.setCell ⟨V19.heap.size,0,none⟩ (.bool b8)).heap[V19.heap.size]? = some (aQ b8):=aS (i:=0) (u:=.bool b8) k10;have kk9:=bL (G:=V19.heap.size) (j:=0) (u:=.bool b8) k9 ae;have kk11:=bL (G:=V19.heap.size) (j:=0) (u:=.bool b8) k11 ae
    have sb : (X9.setCell ⟨V19.heap.size,0,none⟩ (.bool b8)).cell? ⟨w.heap.size + 1 + 1,4,none⟩ = some (.int .i8 en):=by
     exact cS
    have bb10:=bb9.trans ((ay X9 V19.heap.size 0 (.bool b8)).to_below bb9.size (fun k hk e => by have e : k = V19.heap.size:=e; omega))
    refine hK.out _ _ sb (fun _ => ?_)
    clear hK K c10 z10 k9 k10 k11;have k9:=kk9;have k10:=kk10;have k11:=kk11;clear kk9 kk10 kk11;generalize X9.setCell ⟨V19.heap.size,0,none⟩ (.bool b8) = X10 at *;have c11 : X10.cell? ⟨V210.heap.size,0,none⟩ = some (.bool false):=ai k11;have z11 : X10.frozen? ⟨V210.heap.size,0,none⟩ = false:=free_at k11;refine eZ (rs:=[14]) ?_
    refine dO (i:=14) rfl (fun K hK => ?_) rN
    go_simp;have kk11 : (X10.setCell ⟨V210.heap.size,0,none⟩ (.bool b9)).heap[V210.heap.size]? = some (aQ b9):=aS (i:=0) (u:=.bool b9) k11;have kk9:=bL (G:=V210.heap.size) (j:=0) (u:=.bool b9) k9 ae;have kk10:=bL (G:=V210.heap.size) (j:=0) (u:=.bool b9) k10 ae
    have sb : (X10.setCell ⟨V210.heap.size,0,none⟩ (.bool b9)).cell? ⟨w.heap.size + 1 + 1,4,none⟩ = some (.int .i8 en):=by
     exact cS
    have bb11:=bb10.trans ((ay X10 V210.heap.size 0 (.bool b9)).to_below bb10.size (fun k hk e => by have e : k = V210.heap.size:=e; omega))
    refine hK.out _ _ sb (fun _ => ?_)
    clear hK K c11 z11 k9 k10 k11;have k9:=kk9;have k10:=kk10;have k11:=kk11;clear kk9 kk10 kk11;generalize X10.setCell ⟨V210.heap.size,0,none⟩ (.bool b9) = X11 at *;exact oH
   ·go_simp;have hn:=aj V19 (aQ false);have k11 : (V19.alloc (aQ false)).heap[V19.heap.size]? = some (aQ false):=cU V19 _;have hlt2 : V19.heap.size < (V19.alloc (aQ false)).heap.size:=au
    replace k9:=bg hn k9
    have hb2:=hb1.trans (hn.mono hb1.size);have s2:=ag hn s1
    refine hK.out _ _ s2 (fun _ => ?_)
    clear hK K hn;(try simp only [Act.put,sIB,sC0,sCs]);generalize V19.alloc (aQ false) = V211 at *;refine eZ (rs:=[10]) ?_
    refine dO (i:=10) rfl (fun K hK => ?_) rN
    go_simp;have hn:=aj V211 (aQ false);have k10 : (V211.alloc (aQ false)).heap[V211.heap.size]? = some (aQ false):=cU V211 _;have hlt3 : V211.heap.size < (V211.alloc (aQ false)).heap.size:=au
    replace k9:=bg hn k9
    replace k11:=bg hn k11
    have hb3:=hb2.trans (hn.mono hb2.size);have s3:=ag hn s2
    refine hK.out _ _ s3 (fun _ => ?_)
    clear hK K hn;(try simp only [Act.put,sIB,sC0,sCs]);generalize V211.alloc (aQ false) = V310 at *;have l01 : V0.heap.size < V19.heap.size:=hlt1;have l12 : V19.heap.size < V211.heap.size:=hlt2;have c9 : V310.cell? ⟨V0.heap.size,0,none⟩ = some (.bool false):=ai k9;have z9 : V310.frozen? ⟨V0.heap.size,0,none⟩ = false:=free_at k9;refine eZ (rs:=[12]) ?_
    refine dO (i:=12) rfl (fun K hK => ?_) rN
    go_simp;have kk9 : (V310.setCell ⟨V0.heap.size,0,none⟩ (.bool b7)).heap[V0.heap.size]? = some (aQ b7):=aS (i:=0) (u:=.bool b7) k9;have kk10:=bL (G:=V0.heap.size) (j:=0) (u:=.bool b7) k10 ae;have kk11:=bL (G:=V0.heap.size) (j:=0) (u:=.bool b7) k11 ae
    have sb : (V310.setCell ⟨V0.heap.size,0,none⟩ (.bool b7)).cell? ⟨w.heap.size + 1 + 1,4,none⟩ = some (.int .i8 en):=by
     exact cS
    have bb9:=hb3.trans ((ay V310 V0.heap.size 0 (.bool b7)).to_below hb3.size (fun k hk e => qd))
    refine hK.out _ _ sb (fun _ => ?_)
    clear hK K c9 z9 k9 k10 k11;have k9:=kk9;have k10:=kk10;have k11:=kk11;clear kk9 kk10 kk11;generalize V310.setCell ⟨V0.heap.size,0,none⟩ (.bool b7) = X9 at *;have c10 : X9.cell? ⟨V211.heap.size,0,none⟩ = some (.bool false):=ai k10;have z10 : X9.frozen? ⟨V211.heap.size,0,none⟩ = false:=free_at k10;refine eZ (rs:=[13]) ?_
    refine dO (i:=13) rfl (fun K hK => ?_) rN
    go_simp;have kk10 : (X9.setCell ⟨V211.heap.size,0,none⟩ (.bool b8)).heap[V211.heap.size]? = some (aQ b8):=aS (i:=0) (u:=.bool b8) k10;have kk9:=bL (G:=V211.heap.size) (j:=0) (u:=.bool b8) k9 ae;have kk11:=bL (G:=V211.heap.size) (j:=0) (u:=.bool b8) k11 ae
    have sb : (X9.setCell ⟨V211.heap.size,0,none⟩ (.bool b8)).cell? ⟨w.heap.size + 1 + 1,4,none⟩ = some (.int .i8 en):=by
     exact cS
    have bb10:=bb9.trans ((ay X9 V211.heap.size 0 (.bool b8)).to_below bb9.size (fun k hk e => by have e : k = V211.heap.size:=e; omega))
    refine hK.out _ _ sb (fun _ => ?_)
    clear hK K c10 z10 k9 k10 k11;have k9:=kk9;have k10:=kk10;have k11:=kk11;clear kk9 kk10 kk11;generalize X9.setCell ⟨V211.heap.size,0,none⟩ (.bool b8) = X10 at *;have c11 : X10.cell? ⟨V19.heap.size,0,none⟩ = some (.bool false):=ai k11;have z11 : X10.frozen? ⟨V19.heap.size,0,none⟩ = false:=free_at k11;refine eZ (rs:=[14]) ?_
    refine dO (i:=14) rfl (fun K hK => ?_) rN
    go_simp;have kk11 : (X10.setCell ⟨V19.heap.size,0,none⟩ (.bool b9)).heap[V19.heap.size]? = some (aQ b9):=aS (i:=0) (u:=.bool b9) k11;have kk9:=bL (G:=V19.heap.size) (j:=0) (u:=.bool b9) k9 ae;have kk10:=bL (G:=V19.heap.size) (j:=0) (u:=.bool b9) k10 ae
    have sb : (X10.setCell ⟨V19.heap.size,0,none⟩ (.bool b9)).cell? ⟨w.heap.size + 1 + 1,4,none⟩ = some (.int .i8 en):=by
     exact cS
    have bb11:=bb10.trans ((ay X10 V19.heap.size 0 (.bool b9)).to_below bb10.size (fun k hk e => by have e : k = V19.heap.size:=e; omega))
    refine hK.out _ _ sb (fun _ => ?_)
    clear hK K c11 z11 k9 k10 k11;have k9:=kk9;have k10:=kk10;have k11:=kk11;clear kk9 kk10 kk11;generalize X10.setCell ⟨V19.heap.size,0,none⟩ (.bool b9) = X11 at *;exact oH
  ·go_simp;have hn:=aj V0 (aQ false);have k10 : (V0.alloc (aQ false)).heap[V0.heap.size]? = some (aQ false):=cU V0 _;have hlt1 : V0.heap.size < (V0.alloc (aQ false)).heap.size:=au;have hb1:=HBD.out.trans (hn.mono HBD.out.size);have s1:=ag hn hHeld
   refine hK.out _ _ s1 (fun _ => ?_)
   clear hK K hn;(try simp only [Act.put,sIB,sC0,sCs]);generalize V0.alloc (aQ false) = V110 at *;refine eZ (rs:=[9,11]) ?_
   refine dO (i:=9) rfl (fun K hK => ?_) (dO (i:=11) rfl (fun K hK => ?_) rN)
   ·go_simp;have hn:=aj V110 (aQ false);have k9 : (V110.alloc (aQ false)).heap[V110.heap.size]? = some (aQ false):=cU V110 _;have hlt2 : V110.heap.size < (V110.alloc (aQ false)).heap.size:=au
    replace k10:=bg hn k10
    have hb2:=hb1.trans (hn.mono hb1.size);have s2:=ag hn s1
    refine hK.out _ _ s2 (fun _ => ?_)
    clear hK K hn;(try simp only [Act.put,sIB,sC0,sCs]);generalize V110.alloc (aQ false) = V29 at *;refine eZ (rs:=[11]) ?_
    refine dO (i:=11) rfl (fun K hK => ?_) rN
    go_simp;have hn:=aj V29 (aQ false);have k11 : (V29.alloc (aQ false)).heap[V29.heap.size]? = some (aQ false):=cU V29 _;have hlt3 : V29.heap.size < (V29.alloc (aQ false)).heap.size:=au
    replace k10:=bg hn k10
    replace k9:=bg hn k9
    have hb3:=hb2.trans (hn.mono hb2.size);have s3:=ag hn s2
    refine hK.out _ _ s3 (fun _ => ?_)
    clear hK K hn;(try simp only [Act.put,sIB,sC0,sCs]);generalize V29.alloc (aQ false) = V311 at *;have l01 : V0.heap.size < V110.heap.size:=hlt1;have l12 : V110.heap.size < V29.heap.size:=hlt2;have c9 : V311.cell? ⟨V110.heap.size,0,none⟩ = some (.bool false):=ai k9;have z9 : V311.frozen? ⟨V110.heap.size,0,none⟩ = false:=free_at k9;refine eZ (rs:=[12]) ?_
    refine dO (i:=12) rfl (fun K hK => ?_) rN
    go_simp;have kk9 : (V311.setCell ⟨V110.heap.size,0,none⟩ (.bool b7)).heap[V110.heap.size]? = some (aQ b7):=aS (i:=0) (u:=.bool b7) k9;have kk10:=bL (G:=V110.heap.size) (j:=0) (u:=.bool b7) k10 ae;have kk11:=bL (G:=V110.heap.size) (j:=0) (u:=.bool b7) k11 ae
    have sb : (V311.setCell ⟨V110.heap.size,0,none⟩ (.bool b7)).cell? ⟨w.heap.size + 1 + 1,4,none⟩ = some (.int .i8 en):=by
     exact cS
    have bb9:=hb3.trans ((ay V311 V110.heap.size 0 (.bool b7)).to_below hb3.size (fun k hk e => by have e : k = V110.heap.size:=e; omega))
    refine hK.out _ _ sb (fun _ => ?_)
    clear hK K c9 z9 k9 k10 k11;have k9:=kk9;have k10:=kk10;have k11:=kk11;clear kk9 kk10 kk11;generalize V311.setCell ⟨V110.heap.size,0,none⟩ (.bool b7) = X9 at *;have c10 : X9.cell? ⟨V0.heap.size,0,none⟩ = some (.bool false):=ai k10;have z10 : X9.frozen? ⟨V0.heap.size,0,none⟩ = false:=free_at k10;refine eZ (rs:=[13]) ?_
    refine dO (i:=13) rfl (fun K hK => ?_) rN
    go_simp;have kk10 : (X9.setCell ⟨V0.heap.size,0,none⟩ (.bool b8)).heap[V0.heap.size]? = some (aQ b8):=aS (i:=0) (u:=.bool b8) k10;have kk9:=bL (G:=V0.heap.size) (j:=0) (u:=.bool b8) k9 ae;have kk11:=bL (G:=V0.heap.size) (j:=0) (u:=.bool b8) k11 ae
    have sb : (X9.setCell ⟨V0.heap.size,0,none⟩ (.bool b8)).cell? ⟨w.heap.size + 1 + 1,4,none⟩ = some (.int .i8 en):=by
     exact cS
    have bb10:=bb9.trans ((ay X9 V0.heap.size 0 (.bool b8)).to_below bb9.size (fun k hk e => qd))
    refine hK.out _ _ sb (fun _ => ?_)
    clear hK K c10 z10 k9 k10 k11;have k9:=kk9;have k10:=kk10;have k11:=kk11;clear kk9 kk10 kk11;generalize X9.setCell ⟨V0.heap.size,0,none⟩ (.bool b8) = X10 at *;have c11 : X10.cell? ⟨V29.heap.size,0,none⟩ = some (.bool false):=ai k11;have z11 : X10.frozen? ⟨V29.heap.size,0,none⟩ = false:=free_at k11;refine eZ (rs:=[14]) ?_
    refine dO (i:=14) rfl (fun K hK => ?_) rN
    go_simp;have kk11 : (X10.setCell ⟨V29.heap.size,0,none⟩ (.bool b9)).heap[V29.heap.size]? = some (aQ b9):=aS (i:=0) (u:=.bool b9) k11;have kk9:=bL (G:=V29.heap.size) (j:=0) (u:=.bool b9) k9 ae;have kk10:=bL (G:=V29.heap.size) (j:=0) (u:=.bool b9) k10 ae
    have sb : (X10.setCell ⟨V29.heap.size,0,none⟩ (.bool b9)).cell? ⟨w.heap.size + 1 + 1,4,none⟩ = some (.int .i8 en):=by
     exact cS
    have bb11:=bb10.trans ((ay X10 V29.heap.size 0 (.bool b9)).to_below bb10.size (fun k hk e => by have e : k = V29.heap.size:=e; omega))
    refine hK.out _ _ sb (fun _ => ?_)
    clear hK K c11 z11 k9 k10 k11;have k9:=kk9;have k10:=kk10;have k11:=kk11;clear kk9 kk10 kk11;generalize X10.setCell ⟨V29.heap.size,0,none⟩ (.bool b9) = X11 at *;exact oH
   ·go_simp;have hn:=aj V110 (aQ false);have k11 : (V110.alloc (aQ false)).heap[V110.heap.size]? = some (aQ false):=cU V110 _;have hlt2 : V110.heap.size < (V110.alloc (aQ false)).heap.size:=au
    replace k10:=bg hn k10
    have hb2:=hb1.trans (hn.mono hb1.size);have s2:=ag hn s1
    refine hK.out _ _ s2 (fun _ => ?_)
    clear hK K hn;(try simp only [Act.put,sIB,sC0,sCs]);generalize V110.alloc (aQ false) = V211 at *;refine eZ (rs:=[9]) ?_
    refine dO (i:=9) rfl (fun K hK => ?_) rN
    go_simp;have hn:=aj V211 (aQ false);have k9 : (V211.alloc (aQ false)).heap[V211.heap.size]? = some (aQ false):=cU V211 _;have hlt3 : V211.heap.size < (V211.alloc (aQ false)).heap.size:=au
    replace k10:=bg hn k10
    replace k11:=bg hn k11
    have hb3:=hb2.trans (hn.mono hb2.size);have s3:=ag hn s2
    refine hK.out _ _ s3 (fun _ => ?_)
    clear hK K hn;(try simp only [Act.put,sIB,sC0,sCs]);generalize V211.alloc (aQ false) = V39 at *;have l01 : V0.heap.size < V110.heap.size:=hlt1;have l12 : V110.heap.size < V211.heap.size:=hlt2;have c9 : V39.cell? ⟨V211.heap.size,0,none⟩ = some (.bool false):=ai k9;have z9 : V39.frozen? ⟨V211.heap.size,0,none⟩ = false:=free_at k9;refine eZ (rs:=[12]) ?_
    refine dO (i:=12) rfl (fun K hK => ?_) rN
    go_simp;have kk9 : (V39.setCell ⟨V211.heap.size,0,none⟩ (.bool b7)).heap[V211.heap.size]? = some (aQ b7):=aS (i:=0) (u:=.bool b7) k9;have kk10:=bL (G:=V211.heap.size) (j:=0) (u:=.bool b7) k10 ae;have kk11:=bL (G:=V211.heap.size) (j:=0) (u:=.bool b7) k11 ae
    have sb : (V39.setCell ⟨V211.heap.size,0,none⟩ (.bool b7)).cell? ⟨w.heap.size + 1 + 1,4,none⟩ = some (.int .i8 en):=by
     exact cS
    have bb9:=hb3.trans ((ay V39 V211.heap.size 0 (.bool b7)).to_below hb3.size (fun k hk e => by have e : k = V211.heap.size:=e; omega))
    refine hK.out _ _ sb (fun _ => ?_)
    clear hK K c9 z9 k9 k10 k11;have k9:=kk9;have k10:=kk10;have k11:=kk11;clear kk9 kk10 kk11;generalize V39.setCell ⟨V211.heap.size,0,none⟩ (.bool b7) = X9 at *;have c10 : X9.cell? ⟨V0.heap.size,0,none⟩ = some (.bool false):=ai k10;have z10 : X9.frozen? ⟨V0.heap.size,0,none⟩ = false:=free_at k10;refine eZ (rs:=[13]) ?_
    refine dO (i:=13) rfl (fun K hK => ?_) rN
    go_simp;have kk10 : (X9.setCell ⟨V0.heap.size,0,none⟩ (.bool b8)).heap[V0.heap.size]? = some (aQ b8):=aS (i:=0) (u:=.bool b8) k10;have kk9:=bL (G:=V0.heap.size) (j:=0) (u:=.bool b8) k9 ae;have kk11:=bL (G:=V0.heap.size) (j:=0) (u:=.bool b8) k11 ae
    have sb : (X9.setCell ⟨V0.heap.size,0,none⟩ (.bool b8)).cell? ⟨w.heap.size + 1 + 1,4,none⟩ = some (.int .i8 en):=by
     exact cS
    have bb10:=bb9.trans ((ay X9 V0.heap.size 0 (.bool b8)).to_below bb9.size (fun k hk e => qd))
    refine hK.out _ _ sb (fun _ => ?_)
    clear hK K c10 z10 k9 k10 k11;have k9:=kk9;have k10:=kk10;have k11:=kk11;clear kk9 kk10 kk11;generalize X9.setCell ⟨V0.heap.size,0,none⟩ (.bool b8) = X10 at *;have c11 : X10.cell? ⟨V110.heap.size,0,none⟩ = some (.bool false):=ai k11;have z11 : X10.frozen? ⟨V110.heap.size,0,none⟩ = false:=free_at k11;refine eZ (rs:=[14]) ?_
    refine dO (i:=14) rfl (fun K hK => ?_) rN
    go_simp;have kk11 : (X10.setCell ⟨V110.heap.size,0,none⟩ (.bool b9)).heap[V110.heap.size]? = some (aQ b9):=aS (i:=0) (u:=.bool b9) k11;have kk9:=bL (G:=V110.heap.size) (j:=0) (u:=.bool b9) k9 ae;have kk10:=bL (G:=V110.heap.size) (j:=0) (u:=.bool b9) k10 ae
    have sb : (X10.setCell ⟨V110.heap.size,0,none⟩ (.bool b9)).cell? ⟨w.heap.size + 1 + 1,4,none⟩ = some (.int .i8 en):=by
     exact cS
    have bb11:=bb10.trans ((ay X10 V110.heap.size 0 (.bool b9)).to_below bb10.size (fun k hk e => by have e : k = V110.heap.size:=e; omega))
    refine hK.out _ _ sb (fun _ => ?_)
    clear hK K c11 z11 k9 k10 k11;have k9:=kk9;have k10:=kk10;have k11:=kk11;clear kk9 kk10 kk11;generalize X10.setCell ⟨V110.heap.size,0,none⟩ (.bool b9) = X11 at *;exact oH
  ·go_simp;have hn:=aj V0 (aQ false);have k11 : (V0.alloc (aQ false)).heap[V0.heap.size]? = some (aQ false):=cU V0 _;have hlt1 : V0.heap.size < (V0.alloc (aQ false)).heap.size:=au;have hb1:=HBD.out.trans (hn.mono HBD.out.size);have s1:=ag hn hHeld
   refine hK.out _ _ s1 (fun _ => ?_)
   clear hK K hn;(try simp only [Act.put,sIB,sC0,sCs]);generalize V0.alloc (aQ false) = V111 at *;refine eZ (rs:=[9,10]) ?_
   refine dO (i:=9) rfl (fun K hK => ?_) (dO (i:=10) rfl (fun K hK => ?_) rN)
   ·go_simp;have hn:=aj V111 (aQ false);have k9 : (V111.alloc (aQ false)).heap[V111.heap.size]? = some (aQ false):=cU V111 _;have hlt2 : V111.heap.size < (V111.alloc (aQ false)).heap.size:=au
    replace k11:=bg hn k11
    have hb2:=hb1.trans (hn.mono hb1.size);have s2:=ag hn s1
    refine hK.out _ _ s2 (fun _ => ?_)
    clear hK K hn;(try simp only [Act.put,sIB,sC0,sCs]);generalize V111.alloc (aQ false) = V29 at *;refine eZ (rs:=[10]) ?_
    refine dO (i:=10) rfl (fun K hK => ?_) rN
    go_simp;have hn:=aj V29 (aQ false);have k10 : (V29.alloc (aQ false)).heap[V29.heap.size]? = some (aQ false):=cU V29 _;have hlt3 : V29.heap.size < (V29.alloc (aQ false)).heap.size:=au
    replace k11:=bg hn k11
    replace k9:=bg hn k9
    have hb3:=hb2.trans (hn.mono hb2.size);have s3:=ag hn s2
    refine hK.out _ _ s3 (fun _ => ?_)
    clear hK K hn;(try simp only [Act.put,sIB,sC0,sCs]);generalize V29.alloc (aQ false) = V310 at *;have l01 : V0.heap.size < V111.heap.size:=hlt1;have l12 : V111.heap.size < V29.heap.size:=hlt2;have c9 : V310.cell? ⟨V111.heap.size,0,none⟩ = some (.bool false):=ai k9;have z9 : V310.frozen? ⟨V111.heap.size,0,none⟩ = false:=free_at k9;refine eZ (rs:=[12]) ?_
    refine dO (i:=12) rfl (fun K hK => ?_) rN
    go_simp;have kk9 : (V310.setCell ⟨V111.heap.size,0,none⟩ (.bool b7)).heap[V111.heap.size]? = some (aQ b7):=aS (i:=0) (u:=.bool b7) k9;have kk10:=bL (G:=V111.heap.size) (j:=0) (u:=.bool b7) k10 ae;have kk11:=bL (G:=V111.heap.size) (j:=0) (u:=.bool b7) k11 ae
    have sb : (V310.setCell ⟨V111.heap.size,0,none⟩ (.bool b7)).cell? ⟨w.heap.size + 1 + 1,4,none⟩ = some (.int .i8 en):=by
     exact cS
    have bb9:=hb3.trans ((ay V310 V111.heap.size 0 (.bool b7)).to_below hb3.size (fun k hk e => by have e : k = V111.heap.size:=e; omega))
    refine hK.out _ _ sb (fun _ => ?_)
    clear hK K c9 z9 k9 k10 k11;have k9:=kk9;have k10:=kk10;have k11:=kk11;clear kk9 kk10 kk11;generalize V310.setCell ⟨V111.heap.size,0,none⟩ (.bool b7) = X9 at *;have c10 : X9.cell? ⟨V29.heap.size,0,none⟩ = some (.bool false):=ai k10;have z10 : X9.frozen? ⟨V29.heap.size,0,none⟩ = false:=free_at k10;refine eZ (rs:=[13]) ?_
    refine dO (i:=13) rfl (fun K hK => ?_) rN
    go_simp;have kk10 : (X9.setCell ⟨V29.heap.size,0,none⟩ (.bool b8)).heap[V29.heap.size]? = some (aQ b8):=aS (i:=0) (u:=.bool b8) k10;have kk9:=bL (G:=V29.heap.size) (j:=0) (u:=.bool b8) k9 ae;have kk11:=bL (G:=V29.heap.size) (j:=0) (u:=.bool b8) k11 ae
    have sb : (X9.setCell ⟨V29.heap.size,0,none⟩ (.bool b8)).cell? ⟨w.heap.size + 1 + 1,4,none⟩ = some (.int .i8 en):=by
     exact cS
    have bb10:=bb9.trans ((ay X9 V29.heap.size 0 (.bool b8)).to_below bb9.size (fun k hk e => by have e : k = V29.heap.size:=e; omega))
    refine hK.out _ _ sb (fun _ => ?_)
    clear hK K c10 z10 k9 k10 k11;have k9:=kk9;have k10:=kk10;have k11:=kk11;clear kk9 kk10 kk11;generalize X9.setCell ⟨V29.heap.size,0,none⟩ (.bool b8) = X10 at *;exact FJ
   ·go_simp;have hn:=aj V111 (aQ false);have k10 : (V111.alloc (aQ false)).heap[V111.heap.size]? = some (aQ false):=cU V111 _;have hlt2 : V111.heap.size < (V111.alloc (aQ false)).heap.size:=au
    replace k11:=bg hn k11
    have hb2:=hb1.trans (hn.mono hb1.size);have s2:=ag hn s1
    refine hK.out _ _ s2 (fun _ => ?_)
    clear hK K hn;(try simp only [Act.put,sIB,sC0,sCs]);generalize V111.alloc (aQ false) = V210 at *;refine eZ (rs:=[9]) ?_
    refine dO (i:=9) rfl (fun K hK => ?_) rN
    go_simp;have hn:=aj V210 (aQ false);have k9 : (V210.alloc (aQ false)).heap[V210.heap.size]? = some (aQ false):=cU V210 _;have hlt3 : V210.heap.size < (V210.alloc (aQ false)).heap.size:=au
    replace k11:=bg hn k11
    replace k10:=bg hn k10
    have hb3:=hb2.trans (hn.mono hb2.size);have s3:=ag hn s2
    refine hK.out _ _ s3 (fun _ => ?_)
    clear hK K hn;(try simp only [Act.put,sIB,sC0,sCs]);generalize V210.alloc (aQ false) = V39 at *;have l01 : V0.heap.size < V111.heap.size:=hlt1;have l12 : V111.heap.size < V210.heap.size:=hlt2;have c9 : V39.cell? ⟨V210.heap.size,0,none⟩ = some (.bool false):=ai k9;have z9 : V39.frozen? ⟨V210.heap.size,0,none⟩ = false:=free_at k9;refine eZ (rs:=[12]) ?_
    refine dO (i:=12) rfl (fun K hK => ?_) rN
    go_simp;have kk9 : (V39.setCell ⟨V210.heap.size,0,none⟩ (.bool b7)).heap[V210.heap.size]? = some (aQ b7):=aS (i:=0) (u:=.bool b7) k9;have kk10:=bL (G:=V210.heap.size) (j:=0) (u:=.bool b7) k10 ae;have kk11:=bL (G:=V210.heap.size) (j:=0) (u:=.bool b7) k11 ae
    have sb : (V39.setCell ⟨V210.heap.size,0,none⟩ (.bool b7)).cell? ⟨w.heap.size + 1 + 1,4,none⟩ = some (.int .i8 en):=by
     exact cS
    have bb9:=hb3.trans ((ay V39 V210.heap.size 0 (.bool b7)).to_below hb3.size (fun k hk e => by have e : k = V210.heap.size:=e; omega))
    refine hK.out _ _ sb (fun _ => ?_)
    clear hK K c9 z9 k9 k10 k11;have k9:=kk9;have k10:=kk10;have k11:=kk11;clear kk9 kk10 kk11;generalize V39.setCell ⟨V210.heap.size,0,none⟩ (.bool b7) = X9 at *;have c10 : X9.cell? ⟨V111.heap.size,0,none⟩ = some (.bool false):=ai k10;have z10 : X9.frozen? ⟨V111.heap.size,0,none⟩ = false:=free_at k10;refine eZ (rs:=[13]) ?_
    refine dO (i:=13) rfl (fun K hK => ?_) rN
    go_simp;have kk10 : (X9.setCell ⟨V111.heap.size,0,none⟩ (.bool b8)).heap[V111.heap.size]? = some (aQ b8):=aS (i:=0) (u:=.bool b8) k10;have kk9:=bL (G:=V111.heap.size) (j:=0) (u:=.bool b8) k9 ae;have kk11:=bL (G:=V111.heap.size) (j:=0) (u:=.bool b8) k11 ae
    have sb : (X9.setCell ⟨V111.heap.size,0,none⟩ (.bool b8)).cell? ⟨w.heap.size + 1 + 1,4,none⟩ = some (.int .i8 en):=by
     exact cS
    have bb10:=bb9.trans ((ay X9 V111.heap.size 0 (.bool b8)).to_below bb9.size (fun k hk e => by have e : k = V111.heap.size:=e; omega))
    refine hK.out _ _ sb (fun _ => ?_)
    clear hK K c10 z10 k9 k10 k11;have k9:=kk9;have k10:=kk10;have k11:=kk11;clear kk9 kk10 kk11;generalize X9.setCell ⟨V111.heap.size,0,none⟩ (.bool b8) = X10 at *;exact FJ
 case rest =>
  obtain ⟨P7,P8,P9,rfl,rfl,rfl,h7,h8,h9,HB1⟩:=hcut;have HA:=hid (show AK wc #[v0,v1,v2,v3,v4,v5,v6,v7] #[.slice fa fn fc,.slice ga gn gc,.slice pa pn pc,.int .i64 rep,.int .i8 en,.slice ra rn rc,.int .i8 tr,.int .i64 us] (.slice xa xn xc) w.heap.size (w.heap.size + 1) (w.heap.size + 1 + 1) P7 P8 P9 b7 b8 b9 from ⟨bg HB1.out HK.out.1,bg HB1.out HK.out.2.1,bg HB1.out HK.out.2.2,h7,h8,h9⟩);have HBc:=hid (HB0.out.trans (HB1.out.mono HB0.out.size));clear h7 h8 h9 HB1 HK HB0 g4 hG e7 e8 e9;generalize wc = W1 at *;clear W0;obtain ⟨LO,hLO⟩ : ∃ o,o = Obj.cells #[fnv 26 #[pt P7,pt P8,pt P9],fnv 27 #[pt P7,pt (w.heap.size + 1 + 1)],fnv 28 #[pt (w.heap.size + 1 + 1),pt P8],fnv 29 #[pt P9,pt (w.heap.size + 1 + 1)],fnv 31 #[pt (w.heap.size + 1 + 1)],fnv 32 #[pt (w.heap.size + 1 + 1)],fnv 33 #[pt w.heap.size,pt (w.heap.size + 1 + 1)],fnv 35 #[pt (w.heap.size + 1 + 1),pt w.heap.size]] 36:=⟨_,rfl⟩;have BL:=aj W1 LO;have kl:=cU W1 LO;have HA2:=hid (HA.out.later BL);have HB2:=hid (HBc.out.trans (BL.mono HBc.out.size));have q0 : (W1.alloc LO).cell? ⟨w.heap.size + 1 + 1,0,none⟩ = some (.slice fa fn fc):=ai HA2.out.s;have hW1:=HBc.out.size
  have HROW:=hid (show (W1.alloc LO).ownsRow w.heap.size 36 1 (.slice (some ⟨W1.heap.size,0,none⟩) (8 + 0) 8) (8 + 0) (mY w.heap.size (w.heap.size + 1) (w.heap.size + 1 + 1) P7 P8 P9 (fun _ => 0) 0) from ⟨rfl,.inr ⟨W1.heap.size,8,_,rfl,hW1,by rw [kl,hLO],Nat.le_refl _,cH,rfl,rfl⟩⟩)
  clear BL kl HA HBc;subst hLO;have hmi:=HKm.out;have HQ:=hid hi;go_wp2_with fail;generalize W1.alloc (.cells #[fnv 26 #[pt P7,pt P8,pt P9],fnv 27 #[pt P7,pt (w.heap.size + 1 + 1)],fnv 28 #[pt (w.heap.size + 1 + 1),pt P8],fnv 29 #[pt P9,pt (w.heap.size + 1 + 1)],fnv 31 #[pt (w.heap.size + 1 + 1)],fnv 32 #[pt (w.heap.size + 1 + 1)],fnv 33 #[pt w.heap.size,pt (w.heap.size + 1 + 1)],fnv 35 #[pt (w.heap.size + 1 + 1),pt w.heap.size]] 36) = W2 at *;clear q0 hmi
  go_loopw [10,34] (fun l i wr => ∃ (k LB cap : Nat) (KX : Nat → Nat),k ≤ K ∧ i = .int .i64 k ∧ l = .slice (some ⟨LB,0,none⟩) (8 + k) cap ∧ Hid (AK wr #[v0,v1,v2,v3,v4,v5,v6,v7] #[.slice fa fn fc,.slice ga gn gc,.slice pa pn pc,.int .i64 rep,.int .i8 en,.slice ra rn rc,.int .i8 tr,.int .i64 us] (.slice xa xn xc) w.heap.size (w.heap.size + 1) (w.heap.size + 1 + 1) P7 P8 P9 b7 b8 b9 ∧ (∀ i,i < k → wr.cell? ⟨KX i,0,none⟩ = some (.int .i64 i)) ∧ wr.ownsRow w.heap.size 36 1 (.slice (some ⟨LB,0,none⟩) (8 + k) cap) (8 + k) (mY w.heap.size (w.heap.size + 1) (w.heap.size + 1 + 1) P7 P8 P9 KX k) ∧ Below w.heap.size w wr)) (fun _ i _ => K - (intOf i).toNat)
  case atStart => exact ⟨0,W1.heap.size,8,fun _ => 0,Nat.zero_le _,rfl,rfl,hid ⟨HA2.out,fun i h => absurd h (Nat.not_lt_zero _),HROW.out,HB2.out⟩⟩
  case round =>
   obtain ⟨k,LB,cap,KX,hk,rfl,rfl,HR⟩:=hrel
   by_cases hlt : k < K
   ·have hlt' : (k : Int) < (K : Int):=ae;have BK:=aj wr (bJ k);have BF:=aj (wr.alloc (bJ k)) (.cells #[fnv 37 #[pt w.heap.size,pt (w.heap.size + 1),pt (w.heap.size + 1 + 1),pt wr.heap.size]] 36);have kk:=bg BF (cU wr (bJ k));have kf : ((wr.alloc (bJ k)).alloc (.cells #[fnv 37 #[pt w.heap.size,pt (w.heap.size + 1),pt (w.heap.size + 1 + 1),pt wr.heap.size]] 36)).heap[wr.heap.size + 1]? = some (.cells #[fnv 37 #[pt w.heap.size,pt (w.heap.size + 1),pt (w.heap.size + 1 + 1),pt wr.heap.size]] 36):=vX au;have B4:=BK.trans (BF.mono BK.size);have HA4:=hid (HR.out.1.later B4);have HB4:=hid (HR.out.2.2.2.trans (B4.mono HR.out.2.2.2.size));have HR4:=hid (Ja HR.out.2.2.1 B4)
    have HC4:=hid (fun i (h : i < k) => ag B4 (HR.out.2.1 i h))
    have HKX:=hid kk
    have hnews : ∀ (j : Nat) (y : Value),([fnv 37 #[pt w.heap.size,pt (w.heap.size + 1),pt (w.heap.size + 1 + 1),pt wr.heap.size]] : List Value)[j]? = some y → ((wr.alloc (bJ k)).alloc (.cells #[fnv 37 #[pt w.heap.size,pt (w.heap.size + 1),pt (w.heap.size + 1 + 1),pt wr.heap.size]] 36)).cell? ((⟨wr.heap.size + 1,0,none⟩ : Addr).add j) = some y:=by
     intro j y hj;have hplain : (⟨wr.heap.size + 1,0,none⟩ : Addr).add j = ⟨wr.heap.size + 1,j,none⟩:=dJ;rw [hplain,ai kf]
     match j,hj with
     | 0,hj => exact hj
     | j + 1,hj => simp at hj
    have hone : ∀ u ∈ ([fnv 37 #[pt w.heap.size,pt (w.heap.size + 1),pt (w.heap.size + 1 + 1),pt wr.heap.size]] : List Value),u.oneCell' = true:=by
     intro u hu;obtain rfl:=List.mem_singleton.1 hu;rfl
    have HN:=hid (And.intro hnews hone);have hwr:=HR.out.2.2.2.size;have HW:=hid hwr;clear BK BF kk kf B4 hnews hone HR
    go_wp2_with (first
     | (at_builtin; refine wpList_append_own _ rfl (.tmp 37) (.tmp 39) 68 rfl w.heap.size 36 i0 _ 1 8 Tryz.underlying68 hi hz0 hz1 hz2 rfl (by decide) _ (8 + k) _ rfl HR4.out ⟨wr.heap.size + 1,0,none⟩ 1 1 [fnv 37 #[pt w.heap.size,pt (w.heap.size + 1),pt (w.heap.size + 1 + 1),pt wr.heap.size]] rfl rfl HN.out.1 HN.out.2 (by unfold maxLen; omega) (by omega) aI ?_; intro v' w2 hown hg _; have HO:=hid hown; have HKp:=hid (Kept.of_grown hg); clear hown hg))
    obtain ⟨LB2,cap2,hv,_⟩ : ∃ LB2 cap2,v' = .slice (some ⟨LB2,0,none⟩) (8 + k + 1) cap2 ∧ True:=by
     rcases HO.out.2 with ⟨_,h1⟩ | ⟨g,cp,cur,h1,_⟩
     ·omega
     ·exact ⟨_,_,h1,trivial⟩
    subst hv
    have hS : ∀ b,some b = (Value.slice (some ⟨LB,0,none⟩) (8 + k) cap).ownBlock → ∃ cur,((wr.alloc (bJ k)).alloc (.cells #[fnv 37 #[pt w.heap.size,pt (w.heap.size + 1),pt (w.heap.size + 1 + 1),pt wr.heap.size]] 36)).heap[b]? = some (.cells cur 36):=fun b hb => by
     obtain ⟨_,_,cur,hc⟩:=EO HR4.out hb.symm;exact ⟨cur,hc⟩
    have hlo : ∀ b,some b = (Value.slice (some ⟨LB,0,none⟩) (8 + k) cap).ownBlock → w.heap.size ≤ b:=fun b hb => (EO HR4.out hb.symm).1
    have HFA:=hid (HA4.out.kept HKp.out hS)
    have hcellK : ∀ (b : Nat) (z : Int),((wr.alloc (bJ k)).alloc (.cells #[fnv 37 #[pt w.heap.size,pt (w.heap.size + 1),pt (w.heap.size + 1 + 1),pt wr.heap.size]] 36)).cell? ⟨b,0,none⟩ = some (.int .i64 z) → w2.cell? ⟨b,0,none⟩ = some (.int .i64 z):=fun b z hc => HKp.out.cell hc (fun e => by
     obtain ⟨cur,h31⟩:=hS b e
     have h9:=xQ HR4.out e.symm hc ae (fun u hu z => by
      have : u = fnv 26 #[pt P7,pt P8,pt P9]:=by
       have h8:=hu
       simp [mY,eight] at h8
       exact h8.symm
      rw [this]; simp)
     exact h9)
    have HFC:=hid (fun i (h : i < k + 1) => by
     by_cases hik : i = k
     ·have:=hcellK wr.heap.size k (ai HKX.out)
      show w2.cell? ⟨(if i = k then wr.heap.size else KX i),0,none⟩ = some (.int .i64 i)
      rw [if_pos hik,hik]; exact this
     ·show w2.cell? ⟨(if i = k then wr.heap.size else KX i),0,none⟩ = some (.int .i64 i)
      rw [if_neg hik]; exact hcellK _ _ (HC4.out i ae))
    have HFB:=hid (HB4.out.trans (HKp.out.to_below HB4.out.size (fun b hb e => by have:=hlo b e; omega)))
    have HOX:=hid (show w2.ownsRow w.heap.size 36 1 (.slice (some ⟨LB2,0,none⟩) (8 + (k + 1)) cap2) (8 + (k + 1)) (mY w.heap.size (w.heap.size + 1) (w.heap.size + 1 + 1) P7 P8 P9 (fun i => if i = k then wr.heap.size else KX i) (k + 1)) by rw [← Dg]; exact HO.out)
    clear hS hlo hcellK HA4 HKX HKp HR4 HN HB4 HC4 HO;go_wp2_with fail
    exact ⟨⟨k + 1,LB2,cap2,fun i => if i = k then wr.heap.size else KX i,ae,bU,rfl,hid ⟨HFA.out,HFC.out,HOX.out,HFB.out⟩⟩,cC⟩
   ·have hlt' : ¬ (k : Int) < (K : Int):=ae;have hkK : k = K:=ae;subst hkK;go_wp2_with fail;go_ret;exact ⟨w.heap.size,w.heap.size + 1,w.heap.size + 1 + 1,P7,P8,P9,KX,LB,cap,rfl,HR.out⟩
end Go.Proofs.YtkdldbfbldkkcaaGreatDoor

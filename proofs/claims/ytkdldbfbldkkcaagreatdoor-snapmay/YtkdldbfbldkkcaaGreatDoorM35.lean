/-
  Texts Vo Vn Vp.
-/
import Derived.Deep.AppendLies
import Derived.Deep.CutRange
import Derived.Test.YtkdldbfbldkkcaaGreatDoorM00
import Derived.Test.YtkdldbfbldkkcaaGreatDoorM34
set_option linter.unusedVariables false
set_option maxRecDepth 100000
set_option maxHeartbeats 16000000
namespace Go.Proofs.YtkdldbfbldkkcaaGreatDoor
open Go.RowKit
theorem Tryz.infOpn : (Tryz.prog.info? 115).map (fun i => (i.zero,i.size,i.bytes)) = some (some (.agg #[.string ⟨#[]⟩,.string ⟨#[]⟩,.string ⟨#[]⟩,.int .u8 0,.int .i64 0]),5,64):=ak
section
variable {v : Ev} {w1 w : World} {s : Cs} {m : MM} {lo : List Int}
theorem CI.other (hA : EvA v w1) (h : CI v w1 w s) {w' : World} {S : Nat → Prop} (hk : Kept S w w') (hS : ∀ k,S k → k = v.SH ∨ k = v.FL) {sh : List ByteArray} {fl : Nat → Int}
  (h1 : Row w' 9 v.SH v.n v.n (sh.map Value.string)) (h2 : RI w' v.FL v.n fl) : CI v w1 w' { s with sh:=sh,fl:=fl }:=by
 obtain ⟨OB,oc,g1,g2,g3⟩:=h.ck;have hne:=CI.OB_ne hA g3;have hCl : v.C < w.heap.size:=Nat.lt_of_lt_of_le hA.c h.kept.size;have cs:=hA.cs;have cf:=hA.cf
 refine ⟨h.kept.then hk (fun k _ e => ?_),⟨OB,oc,(hk.block _ hCl (fun e => ?_)).trans g1,jy g2 hk (fun e => ?_),g3⟩,h1,h2⟩
 ·rcases hS k e with rfl | rfl
  ·exact .inr (.inl rfl)
  ·exact .inr (.inr (.inl rfl))
 ·rcases hS _ e with e | e
  ·exact cs e
  ·exact cf e
 ·rcases hS _ e with e | e
  ·exact hne.2.1 e
  ·exact hne.2.2 e
theorem CI.putFl (hA : EvA v w1) (h : CI v w1 w s) (t : Nat) (x : Int) : CI v w1 (w.setCell ⟨v.FL,t,none⟩ (.int .i64 x)) { s with fl:=fun i => if i = t then x else s.fl i }:=by
 have hp:=h.fl.put (g:=fun i => if i = t then x else s.fl i) t x (fun i _ => rfl)
 exact CI.other (sh:=s.sh) hA h hp.2 (fun k e => .inr e) (h.sh.kept hp.2 (fun e => hA.sf e)) hp.1
theorem CI.putSh (hA : EvA v w1) (h : CI v w1 w s) (t : Nat) (x : ByteArray) : CI v w1 (w.setCell ⟨v.SH,t,none⟩ (.string x)) { s with sh:=s.sh.set t x }:=by
 have hp:=h.sh.put t (.string x);rw [← List.map_set] at hp
 exact CI.other (fl:=s.fl) hA h hp.2 (fun k e => .inl e) hp.1 (h.fl.kept hp.2 (fun e => hA.sf e.symm))
theorem D7 (l : List Opn) (p : Opn) : opV (l ++ [p]) = opV l ++ p.vals:=by simp [opV]
theorem step_opn (w : World) {ops : Array Oper} {o : Oper} {a : Act} {K : Act → World → Prop} {Q : Exit → Act → World → Prop} {E : Prop} (hgd : o.guard = none)
  (sl x : Operand) (ho : o.op = Op.call { callee:=Callee.builtin Builtin.append,args:=#[sl,x],argTypes:=#[117,117] })
  {OB n oc : Nat} {l : List Opn} (hl : l.length = n) (hs : a.eval sl = .slice (some ⟨OB,0,none⟩) n oc) (hown : w.ownsRow 0 115 5 (.slice (some ⟨OB,0,none⟩) n oc) n (opV l)) {ad : Nat} (p : Opn) (hx : a.eval x = .slice (some ⟨ad,0,none⟩) 1 1)
  (hc : w.heap[ad]? = some (mK p.P p.R p.B p.op p.pc)) (hlen : n ≤ 1000)
  (h : ∀ (g cap : Nat) (w' : World),w'.ownsRow 0 115 5 (.slice (some ⟨g,0,none⟩) (n + 1) cap) (n + 1) (opV (l ++ [p])) → Kept (fun k => k = OB) w w' → (g = OB ∨ g = w.heap.size) → K (a.put o.dst (.slice (some ⟨g,0,none⟩) (n + 1) cap)) w') :
  if Region.wanted o (yielded ops a.tmps) = true then Oper.wp Tryz.prog o a w K Q else E:=by
 obtain ⟨i0,hi,hz0,hz1,hz2⟩:=info_parts Tryz.infOpn;refine step_append_lies w hgd sl x 117 ho 0 115 i0 _ 5 64 Tryz.underlying117 hi hz0 hz1 hz2 rfl ax _ n _ hs hown ⟨ad,0,none⟩ 1 1 p.vals hx rfl
  (World.news_of_block hc) (by intro u hu; simp [Opn.vals] at hu; rcases hu with rfl | rfl | rfl | rfl | rfl <;> rfl) ax cH ae (Nat.zero_le _) _ rfl ?_
 intro g cap w' ho' hg hcase _;rw [← D7] at ho'
 refine h g cap w' ho' ((Kept.of_grown hg).mono (fun k hk => by simpa [Value.ownBlock] using hk)) ?_
 rcases hcase with e | e
 ·exact .inl (by simpa [Value.ownBlock] using e.symm)
 ·exact .inr e
theorem CI.push (hA : EvA v w1) (h : CI v w1 w s) {OB oc g cap : Nat} {w2 : World} {p : Opn} (h14 : w.cell? ⟨v.C,14,none⟩ = some (.slice (some ⟨OB,0,none⟩) s.op.length oc)) (hk : Kept (fun k => k = OB) w w2) (hg : g = OB ∨ w1.heap.size ≤ g)
  (hown : w2.ownsRow 0 115 5 (.slice (some ⟨g,0,none⟩) (s.op.length + 1) cap) (s.op.length + 1) (opV (s.op ++ [p]))) :
  CI v w1 (w2.setCell ⟨v.C,14,none⟩ (.slice (some ⟨g,0,none⟩) (s.op.length + 1) cap)) { s with op:=s.op ++ [p] }:=by
 obtain ⟨OB',oc',h1,h2,h3⟩:=h.ck;have h0 : w.cell? ⟨v.C,14,none⟩ = some (.slice (some ⟨OB',0,none⟩) s.op.length oc'):=jQ;rw [h0] at h14
 simp at h14
 obtain ⟨rfl,rfl⟩:=h14;have hne:=CI.OB_ne hA h3
 have hg' : g = v.O0 ∨ w1.heap.size ≤ g:=by rcases hg with rfl | e; exact h3; exact .inr e
 have hne':=CI.OB_ne hA hg';have hkp:=ay w2 v.C 14 (.slice (some ⟨g,0,none⟩) (s.op.length + 1) cap);have hCl : v.C < w.heap.size:=Nat.lt_of_lt_of_le hA.c h.kept.size
 have hk1 : Kept v.S w1 w2:=h.kept.then hk (fun k hkl e => by
  have : k = OB':=e
  rcases h3 with e3 | e3
  ·exact .inr (.inr (.inr (this.trans e3)))
  ·omega)
 refine ⟨hk1.then hkp (fun k _ e => .inl e),⟨g,cap,?_,?_,hg'⟩,(h.sh.kept hk (fun e => hne.2.1 e.symm)).kept hkp (fun e => hA.cs e.symm),(h.fl.kept hk (fun e => hne.2.2 e.symm)).kept hkp (fun e => hA.cf e.symm)⟩
 ·rw [aS ((hk.block _ hCl (fun e => hne.1 e.symm)).trans h1)]
  simp [ckV]
 ·have:=jy hown hkp (fun e => hne'.1 e)
  exact cm
end
section
variable {v : Ev} {w1 w : World} {s : Cs} {m : MM} {lo : List Int}
theorem ME {w : World} {G OB n oc sz : Nat} {a : Array Value} {t e : TypeId} {xs : List Value} (hG : w.heap[G]? = some (.cells a t)) (h : w.ownsRow 0 e sz (.slice (some ⟨OB,0,none⟩) n oc) n xs) (he : t ≠ e) : G ≠ OB:=by
 rintro rfl
 rcases h.2 with ⟨e1,_⟩ | ⟨g,cap,cur,e1,h4,h5,h6⟩
 ·cases e1
 ·cases e1
  rw [hG] at h5
  simp at h5
  exact he h5.2
theorem aM {w : World} {b : Nat} {o : Obj} (h : w.heap[b]? = some o) : b < w.heap.size:=by
 exact Ct
theorem ar {w w' : World} {b : Nat} {o : Obj} (hb : Below w.heap.size w w') (h : w.heap[b]? = some o) : w'.heap[b]? = some o:=(hb.block b (aM h)).trans h
abbrev emS (C G X : Nat) (P R : ByteArray) (c pc : Int) (W : World) : Prop :=
 W.cell? ⟨G,0,none⟩ = some (.string P) ∧ W.cell? ⟨G,1,none⟩ = some (.string R) ∧ W.cell? ⟨X,0,none⟩ = some (.int .u8 c) ∧ W.cell? ⟨C,16,none⟩ = some (.int .i64 pc)
theorem emS.later {C G X : Nat} {P R : ByteArray} {c pc : Int} {W W' : World} (h : emS C G X P R c pc W) (hb : Below W.heap.size W W') : emS C G X P R c pc W' :=
 ⟨ag hb h.1,ag hb h.2.1,ag hb h.2.2.1,ag hb h.2.2.2⟩
theorem emS.kept {C G X OB : Nat} {P R : ByteArray} {c pc : Int} {W W' : World} (h : emS C G X P R c pc W) (hb : Kept (fun k => k = OB) W W') (h1 : C ≠ OB) (h2 : G ≠ OB) (h3 : X ≠ OB) : emS C G X P R c pc W' :=
 ⟨hb.cell h.1 h2,hb.cell h.2.1 h2,hb.cell h.2.2.1 h3,hb.cell h.2.2.2 h1⟩
theorem emS.put {C G X : Nat} {P R : ByteArray} {c pc : Int} {W : World} {u : Value} (h : emS C G X P R c pc W) (h2 : G ≠ C) (h3 : X ≠ C) : emS C G X P R c pc (W.setCell ⟨C,14,none⟩ u) :=
 ⟨aT h.1 h2,aT h.2.1 h2,aT h.2.2.1 h3,by rw [World.cell?_setCell_other _ _ _ _ au]; exact h.2.2.2⟩
theorem jR (hA : EvA v w1) (hM : EvM v w1 m lo) (h : CI v w1 w s) {z c : Int} (L : Value) (tk : ByteArray) (hz : z < 0 ∨ (m.tn : Int) ≤ z) :
  Calls Tryz.prog 108 #[.pointer (some ⟨v.C,0,none⟩),.agg #[.int .u8 c,.int .i64 z,L],.string tk] w fun e w' => e = thv 30 ∧ Bad v w1 s.pc w':=by
 have BW:=aj w (aA c z L);have x0 : (w.alloc (aA c z L)).cell? ⟨w.heap.size,0,none⟩ = some (.int .u8 c):=aB;have x1 : (w.alloc (aA c z L)).cell? ⟨w.heap.size,1,none⟩ = some (.int .i64 z):=aB;obtain ⟨c0,c1,c2,c5⟩:=h.mc;rw [hM.mv] at c0
 change w.cell? ⟨v.C,0,none⟩ = some (.slice m.ta m.tn m.tc) at c0
 have HF:=hid (fun W => xS (w:=W) (a:=m.ta) (cap:=m.tc) hz (by have:=hM.t64; omega))
 have d0:=ag BW c0;have HB:=hid BW;have HC:=hid h;clear h c0 c1 c2 c5 BW
 go_enter Tryz.func108,Tryz.ntmps108
 go_wp2_with fail;generalize w.alloc (aA c z L) = W0 at *
 refine wp_region_held_drew (S:=loS v.C w.heap.size 0 (.slice m.ta m.tn m.tc) c z w) ak ⟨d0,x0,x1,HB.out.drew⟩ (fun hHeld => ?_)
 refine tkC (i:=0) rfl ?_;(try simp only [Act.put,sIB]);refine tkC (i:=1) rfl ?_;(try simp only [Act.put]);refine tkC (i:=2) rfl ?_;(try simp only [Act.put]);refine tkC (i:=3) rfl ?_;(try simp only [Act.put]);refine tkC (i:=4) rfl ?_;(try simp only [Act.put]);refine tkC (i:=5) rfl ?_;(try simp only [Act.put]);refine tkC (i:=6) rfl ?_;(try simp only [Act.put]);refine rdY (rs:=[7,8]) ?_
 refine AllReadyH.cons rfl (fun K hK => ?_) (AllReadyH.cons rfl (fun K hK => ?_) rN)
 ·go_simp;refine (HF.out _).mono ?_;rintro e w5 ⟨rfl,hb⟩;exact ⟨rfl,rfl,(HC.out.later hA (hHeld.2.2.2.trans (hb.mono hHeld.2.2.2.size))).bad⟩
 ·go_simp;have BN:=(aj W0 (aG ⟨#[]⟩ ⟨#[]⟩)).drew;have hS5:=loS.later (W:=W0) ⟨d0,x0,x1,HB.out⟩ BN
  refine hK.out _ _ hS5 (fun hHeld2 => ?_)
  clear hK K;generalize (W0.alloc (aG ⟨#[]⟩ ⟨#[]⟩)).drew = W1 at *;refine rdY (rs:=[7]) ?_
  refine AllReadyH.cons rfl (fun K hK => ?_) rN
  go_simp;refine (HF.out _).mono ?_;rintro e w5 ⟨rfl,hb⟩;exact ⟨rfl,rfl,(HC.out.later hA (hS5.2.2.2.trans (hb.mono hS5.2.2.2.size))).bad⟩
def ua (s : Cs) (tk P : ByteArray) : ByteArray:=(s.st.extract 0 (s.st.size - tk.size)).extract 0 ((s.st.extract 0 (s.st.size - tk.size)).size - P.size)
def ie (s : Cs) (c : Int) (tk P R : ByteArray) : Cs:={ s with st:=s.st.extract 0 (s.st.size - tk.size),fl:=fun i => if i = s.pc then ((ua s tk P).size : Int) else s.fl i,op:=s.op ++ [⟨P,R,ua s tk P,c,s.pc⟩] }
theorem pu (hA : EvA v w1) (hM : EvM v w1 m lo) (h : CI v w1 w s) {k : Nat} {o : Opn} (hw : CW s k o) {q : Nat} {c : Int} {P R : ByteArray} (L : Value) (tk : ByteArray) (htk : tk.size ≤ 1) (hP : m.types[q]? = some (P,R)) (hc0 : 0 ≤ c) (hc1 : c ≤ 255) (hpn : s.pc < v.n) (hn : v.n ≤ 1000000) (hk : k < 63) :
  Calls Tryz.prog 108 #[.pointer (some ⟨v.C,0,none⟩),.agg #[.int .u8 c,.int .i64 q,L],.string tk] w fun e w' =>
   (orE (bI s o (P ++ tk)) (bI s o tk) = 0 ∧ e = .returned kD ∧ CI v w1 w' (ie s c tk P R)) ∨ (orE (bI s o (P ++ tk)) (bI s o tk) ≠ 0 ∧ e = thv (orE (bI s o (P ++ tk)) (bI s o tk)) ∧ Bad v w1 s.pc w'):=by
 have BW:=aj w (aA c q L);have x0 : (w.alloc (aA c q L)).cell? ⟨w.heap.size,0,none⟩ = some (.int .u8 c):=aB;have x1 : (w.alloc (aA c q L)).cell? ⟨w.heap.size,1,none⟩ = some (.int .i64 q):=aB;obtain ⟨c0,c1,c2,c5⟩:=h.mc;rw [hM.mv] at c0
 change w.cell? ⟨v.C,0,none⟩ = some (.slice m.ta m.tn m.tc) at c0
 have pt:=hM.pt.kept h.kept hM.tS;have hqn : q < m.tn:=tJ
 obtain ⟨tb,toff,hta,htc⟩ : ∃ b off,m.ta = some ⟨b,off,none⟩ ∧ ∀ (j : Nat) x,m.types[j]? = some x → w.cell? ⟨b,off + j * 2,none⟩ = some (.string x.1) ∧ w.cell? ⟨b,off + j * 2 + 1,none⟩ = some (.string x.2):=by
  exact oO
 obtain ⟨t0,t1⟩:=htc q _ hP
 simp only at t0 t1
 have h8:=hM.tL _ (List.mem_of_getElem? hP)
 simp only at h8
 have HF:=hid (fun W (hb : Below w.heap.size w W) => vg (w:=W) (cap:=m.tc) hqn (by have:=hM.t64; omega) (ag hb t0) (ag hb t1))
 rw [hta] at c0;have d0:=ag BW c0;have HB:=hid BW;have HC:=hid h;have hCl : v.C < w.heap.size:=block_lt_of_cell c0;clear h c0 c1 c2 c5 BW t0 t1 htc pt hP;obtain ⟨E,hE⟩ : ∃ E,orE (bI s o (P ++ tk)) (bI s o tk) = E:=⟨_,rfl⟩;rw [hE];have HE:=hid hE;clear hE
 go_enter Tryz.func108,Tryz.ntmps108
 go_wp2_with fail;generalize w.alloc (aA c q L) = W0 at *
 go_cut [6] from 8 to 15 (fun g wx => ∃ G,g = .pointer (some ⟨G,0,none⟩) ∧ w.heap.size < G ∧ wx.heap[G]? = some (aG P R) ∧ wx.cell? ⟨w.heap.size,0,none⟩ = some (.int .u8 c) ∧ Below w.heap.size w wx)
 case first =>
  refine wp_region_held_drew (S:=loS v.C w.heap.size 0 (.slice (some ⟨tb,toff,none⟩) m.tn m.tc) c q w) ak ⟨d0,x0,x1,HB.out.drew⟩ (fun hHeld => ?_)
  refine tkC (i:=0) rfl ?_;(try simp only [Act.put,sIB]);refine tkC (i:=1) rfl ?_;(try simp only [Act.put]);refine tkC (i:=2) rfl ?_;(try simp only [Act.put]);refine tkC (i:=3) rfl ?_;(try simp only [Act.put]);refine tkC (i:=4) rfl ?_;(try simp only [Act.put]);refine tkC (i:=5) rfl ?_;(try simp only [Act.put]);refine tkC (i:=6) rfl ?_;(try simp only [Act.put]);refine rdY (rs:=[7,8]) ?_
  refine AllReadyH.cons rfl (fun K hK => ?_) (AllReadyH.cons rfl (fun K hK => ?_) rN)
  ·go_simp;refine (HF.out _ hHeld.2.2.2).mono ?_;rintro e w5 ⟨rfl,hb5⟩;have hS5:=loS.later hHeld hb5
   refine hK.out _ _ hS5 (fun hHeld2 => ?_)
   clear hK K hb5;refine rdY (rs:=[8]) ?_
   refine AllReadyH.cons rfl (fun K hK => ?_) rN
   go_simp
   refine hK.out _ _ (hS5.later (aj _ _)) (fun hHeld3 => ?_)
   clear hK K;refine rdY (rs:=[9]) ?_
   refine AllReadyH.cons rfl (fun K hK => ?_) rN
   go_simp;have BN:=aj w5 (aG P R);have hS:=hS5.later BN
   refine hK.out _ _ hS (fun hHeld4 => ?_)
   clear hK K;refine wpAnyH_done ak ?_ _;have hlt : w.heap.size < w5.heap.size:=block_lt_of_cell hS5.2.1;have gB : (w5.alloc (aG P R)).heap[w5.heap.size]? = some (aG P R):=heap_alloc_new w5 _;go_wp2_with fail
   go_meet
   exact ⟨_,rfl,hlt,gB,hS.2.1,hS.2.2.2⟩
  ·go_simp;have BN:=(aj W0 (aG ⟨#[]⟩ ⟨#[]⟩)).drew;have hS5:=loS.later (W:=W0) ⟨d0,x0,x1,HB.out⟩ BN;have g0 : ((W0.alloc (aG ⟨#[]⟩ ⟨#[]⟩)).drew).cell? ⟨W0.heap.size,0,none⟩ = some (.string ⟨#[]⟩):=aB;have g1 : ((W0.alloc (aG ⟨#[]⟩ ⟨#[]⟩)).drew).cell? ⟨W0.heap.size,1,none⟩ = some (.string ⟨#[]⟩):=aB;have q0 : ((W0.alloc (aG ⟨#[]⟩ ⟨#[]⟩)).drew).frozen? ⟨W0.heap.size,0,none⟩ = false:=aB;have q1 : ((W0.alloc (aG ⟨#[]⟩ ⟨#[]⟩)).drew).frozen? ⟨W0.heap.size,1,none⟩ = false:=aB;have hlt : w.heap.size < W0.heap.size:=block_lt_of_cell x0;have gB0 : ((W0.alloc (aG ⟨#[]⟩ ⟨#[]⟩)).drew).heap[W0.heap.size]? = some (aG ⟨#[]⟩ ⟨#[]⟩):=heap_alloc_new W0 _
   refine hK.out _ _ hS5 (fun hHeld2 => ?_)
   clear hK K;generalize (W0.alloc (aG ⟨#[]⟩ ⟨#[]⟩)).drew = W1 at *;refine rdY (rs:=[7]) ?_
   refine AllReadyH.cons rfl (fun K hK => ?_) rN
   go_simp;refine (HF.out _ hS5.2.2.2).mono ?_;rintro e w5 ⟨rfl,hb5⟩;have hS6:=loS.later hS5 hb5;have r0:=ag hb5 g0;have r1:=ag hb5 g1;have t0:=aC hb5 g0 q0;have t1:=aC hb5 g1 q1;have rB:=ar hb5 gB0
   refine hK.out _ _ hS6 (fun hHeld3 => ?_)
   clear hK K hb5 g0 g1 q0 q1;generalize W0.heap.size = G at *;refine rdY (rs:=[9]) ?_
   refine AllReadyH.cons rfl (fun K hK => ?_) rN
   go_simp;have hS:=(hS6.putG (g:=G) (j:=0) (u:=.string P) ae ae ae).putG (g:=G) (j:=1) (u:=.string R) ae ae ae
   refine hK.out _ _ hS (fun hHeld4 => ?_)
   clear hK K;refine wpAnyH_done ak ?_ _;have gB:=aS (i:=1) (u:=.string R) (aS (i:=0) (u:=.string P) rB);go_wp2_with fail
   go_meet
   exact ⟨_,rfl,hlt,gB,hS.2.1,hS.2.2.2⟩
 case rest =>
  obtain ⟨G,rfl,hG,gB,gx,hb⟩:=hcut;have g0 : wc.cell? ⟨G,0,none⟩ = some (.string P):=ai gB;have g1 : wc.cell? ⟨G,1,none⟩ = some (.string R):=ai gB;have HC2:=hid (HC.out.later hA hb);have HB2:=hid hb;have hPt : (P ++ tk).size ≤ 1000000:=aI;have HK1:=hid (mX hA HC2.out hw (P ++ tk) hPt);clear HF HB d0 x0 x1 hb;go_wp2_with fail;refine HK1.out.mono ?_
  rintro e w3 (⟨h0,rfl,hb⟩ | ⟨h0,rfl,hb⟩)
  rotate_left
  ·have hE : E = bI s o (P ++ tk):=by rw [← HE.out]; simp [orE,h0]
   exact ⟨rfl,.inr ⟨lC,by rw [hE]; rfl,(HC2.out.later hA hb).bad⟩⟩
  have hE : E = bI s o tk:=by rw [← HE.out]; simp [orE,h0]
  have HC3:=hid (HC2.out.later hA hb);have y0:=ag hb g0;have y1:=ag hb g1;have yx:=ag hb gx;have yB:=ar hb gB;have HB3:=hid (HB2.out.trans (hb.mono HB2.out.size));have hG3 : G < w3.heap.size:=block_lt_of_cell y0;have HK2:=hid (uN hA HC3.out hw tk ae);have hle:=oY h0;clear g0 g1 gx gB hb HK1 HC2 HB2;go_wp2_with fail;refine HK2.out.mono ?_
  rintro e w4 (⟨h1,rfl,hc4,hk4⟩ | ⟨h1,rfl,hb⟩)
  rotate_left
  ·exact ⟨rfl,.inr ⟨by rw [hE]; exact h1,by rw [hE]; rfl,hb⟩⟩
  have hE0 : E = 0:=hE.trans h1;subst hE0;have z0:=hk4.cell y0 uL;have z1:=hk4.cell y1 uL;have zx:=hk4.cell yx uL;have zB:=(hk4.block G hG3 uL).trans yB;have HC4:=hid hc4;have HB4:=hid hk4;clear y0 y1 yx yB HK2 hE HE hc4 hk4;have c15:=HC4.out.st;have hst : (cB s tk).st = s.st.extract 0 (s.st.size - tk.size):=rfl
  have hPs : P.size ≤ (s.st.extract 0 (s.st.size - tk.size)).size:=by
   simp at hle ⊢
   omega
  have hbs : (s.st.extract 0 (s.st.size - tk.size)).size ≤ 1000000:=by
   have:=hw.big
   simp
   omega
  have hBe : ua s tk P = (s.st.extract 0 (s.st.size - tk.size)).extract 0 ((s.st.extract 0 (s.st.size - tk.size)).size - P.size):=rfl;rw [hst] at c15;obtain ⟨T,hT⟩ : ∃ T,s.st.extract 0 (s.st.size - tk.size) = T:=⟨_,rfl⟩;rw [hT] at c15 hPs hbs hBe;obtain ⟨d,hd⟩ : ∃ d,T.size - P.size = d:=⟨_,rfl⟩;rw [hd] at hBe;have hd1 : (0 : Int) ≤ (d : Int):=ae;have hd2 : (d : Int) ≤ (T.size : Int):=ae
  have hsub2 : IntKind.i64.wrap ((T.size : Int) - (P.size : Int)) = (d : Int):=by
   exact lU
  go_wp2_with fail
  go_quiet (fail)
  have HCq:=hid (HC4.out.later hA (below_drewN w4 nq));have r0:=ag (below_drewN w4 nq) z0;have r1:=ag (below_drewN w4 nq) z1;have rx:=ag (below_drewN w4 nq) zx;have rB:=ar (below_drewN w4 nq) zB;clear z0 z1 zx zB c15;rw [← hBe];generalize w4.drewN nq = w5 at *;have c12:=HCq.out.flc;have c16:=HCq.out.pc;have cfl:=HCq.out.fl.cell s.pc hpn;have ffl:=HCq.out.fl.free s.pc;have c16' : w5.cell? ⟨v.C,16,none⟩ = some (.int .i64 s.pc):=c16;have p0 : (0 : Int) ≤ (s.pc : Int):=ae;have p1 : (s.pc : Int) < (v.n : Int):=ae;clear c16
  have hBs : (ua s tk P).size ≤ 1000000:=by rw [hBe]; simp; omega
  obtain ⟨B,hB⟩ : ∃ B,ua s tk P = B:=⟨_,rfl⟩;have HBq:=hid hB;rw [hB] at hBs ⊢;clear hBe hB;go_wp2_with fail
  go_region
  have HC6:=hid ((HCq.out.putFl hA s.pc B.size).later hA (below_drewN _ 1))
  have hGF : G ≠ v.FL:=by have:=hA.f; have:=HC.out.kept.size; omega
  have hXF : w.heap.size ≠ v.FL:=by have:=hA.f; have:=HC.out.kept.size; omega
  have s0:=ag (below_drewN _ 1) (aT (i:=s.pc) (x:=.int .i64 B.size) r0 hGF);have s1:=ag (below_drewN _ 1) (aT (i:=s.pc) (x:=.int .i64 B.size) r1 hGF);have sx:=ag (below_drewN _ 1) (aT (i:=s.pc) (x:=.int .i64 B.size) rx hXF);have sB:=ar (below_drewN _ 1) (((ay w5 v.FL s.pc (.int .i64 B.size)).block G (aM rB) hGF).trans rB);clear r0 r1 rx rB c12 cfl ffl c16';have HC6:=hid (show CI v w1 (w5.setCell ⟨v.FL,s.pc,none⟩ (.int .i64 B.size)).drew _ from HC6.out)
  change (w5.setCell ⟨v.FL,s.pc,none⟩ (.int .i64 B.size)).drew.cell? _ = _ at s0 s1 sx
  change (w5.setCell ⟨v.FL,s.pc,none⟩ (.int .i64 B.size)).drew.heap[G]? = _ at sB
  have hG6 : G < (w5.setCell ⟨v.FL,s.pc,none⟩ (.int .i64 B.size)).drew.heap.size:=block_lt_of_cell s0;go_wp2_with fail;generalize (w5.setCell ⟨v.FL,s.pc,none⟩ (.int .i64 B.size)).drew = w6 at *
  have HFin:=hid (show ie s c tk P R = { (cB s tk) with fl:=(fun i => if i = s.pc then (B.size : Int) else (cB s tk).fl i),op:=(cB s tk).op ++ [⟨P,R,B,c,s.pc⟩] } by rw [← HBq.out]; rfl)
  obtain ⟨s6,hs6⟩ : ∃ s6,({ cB s tk with fl:=fun i => if i = s.pc then (B.size : Int) else (cB s tk).fl i } : Cs) = s6:=⟨_,rfl⟩
  rw [hs6] at HC6
  have hop6 : s6.op = s.op:=by rw [← hs6]; rfl
  have hpc6 : s6.pc = s.pc:=by rw [← hs6]; rfl
  have hl6 : s6.op.length = k + 1:=by rw [hop6]; exact hw.len
  obtain ⟨OB,oc,h14,hrow,hOB⟩ : ∃ OB oc,w6.cell? ⟨v.C,14,none⟩ = some (.slice (some ⟨OB,0,none⟩) s6.op.length oc) ∧ w6.ownsRow 0 115 5 (.slice (some ⟨OB,0,none⟩) s6.op.length oc) s6.op.length (opV s6.op) ∧ (OB = v.O0 ∨ w1.heap.size ≤ OB):=by
   obtain ⟨OB,oc,u1,u2,u3⟩:=HC6.out.ck
   exact ⟨OB,oc,by rw [ai u1]; rfl,u2,u3⟩
  have h14':=h14;rw [hl6] at h14;have c16:=HC6.out.pc;rw [hpc6] at c16;have hne:=CI.OB_ne hA hOB;have hz6:=HC6.out.kept.size;have hCl6 : v.C < w6.heap.size:=Nat.lt_of_lt_of_le hA.c hz6
  have HEND:=hid (show ∀ (g cap : Nat) (W w7 : World),Below w6.heap.size w6 W → W.heap.size ≤ w7.heap.size → w7.ownsRow 0 115 5 (.slice (some ⟨g,0,none⟩) (k + 1 + 1) cap) (k + 1 + 1) (opV (s6.op ++ [⟨P,R,B,c,s.pc⟩])) → Kept (fun k => k = OB) W w7 → (g = OB ∨ g = W.heap.size) → w7.cell? ⟨v.C,14,none⟩ = some (.slice (some ⟨OB,0,none⟩) (k + 1) oc) ∧ w7.frozen? ⟨v.C,14,none⟩ = false ∧ CI v w1 (w7.setCell ⟨v.C,14,none⟩ (.slice (some ⟨g,0,none⟩) (k + 1 + 1) cap)) (ie s c tk P R) from by
   intro g cap W w7 hb hsz ho hk hg;have hCW:=HC6.out.later hA hb;have hc:=ag hb h14';rw [← hl6] at ho
   have hpush:=CI.push hA hCW hc hk (by
    rcases hg with e | e
    ·exact .inl e
    ·right; have:=hb.size; omega) ho
   refine ⟨?_,?_,?_⟩
   ·rw [← hl6]; exact hk.cell hc (fun e => hne.1 e.symm)
   ·rw [bb (hk.block v.C (Nat.lt_of_lt_of_le hCl6 hb.size) (fun e => hne.1 e.symm))]; exact hCW.free 14
   ·rw [HFin.out,← hl6];rw [← hs6] at hpush ⊢;exact hpush)
  clear HFin HC HC3 HC4 HB3 HB4 HCq HC6 h14' hst hT hd hd1 hd2 hsub2 hPs hbs
  refine wp_region_held_drew (S:=emS v.C G w.heap.size P R c s.pc) ak ⟨s0,s1,sx,c16⟩ (fun hHeld => ?_)
  refine tkC (i:=0) rfl ?_;(try simp only [Act.put,sIB]);refine tkC (i:=1) rfl ?_;(try simp only [Act.put]);refine tkC (i:=2) rfl ?_;(try simp only [Act.put]);refine tkC (i:=3) rfl ?_;(try simp only [Act.put]);refine tkC (i:=5) rfl ?_;(try simp only [Act.put]);refine tkC (i:=6) rfl ?_;(try simp only [Act.put]);refine tkC (i:=7) rfl ?_;(try simp only [Act.put]);refine tkC (i:=8) rfl ?_;(try simp only [Act.put]);refine tkC (i:=9) rfl ?_;(try simp only [Act.put]);refine tkC (i:=10) rfl ?_;(try simp only [Act.put]);refine tkC (i:=11) rfl ?_;(try simp only [Act.put]);refine tkC (i:=12) rfl ?_;(try simp only [Act.put]);refine tkC (i:=13) rfl ?_;(try simp only [Act.put]);have hrow6:=hrow;rw [hl6] at hrow6;have BWA : Below w6.heap.size w6 (w6.alloc (mK P R B c s.pc)).drew:=(aj w6 (mK P R B c s.pc)).drew
  have hrowA:=jy (S:=fun _ => False) hrow6 (aX BWA) (fun e => e)
  have hblk : (w6.alloc (mK P R B c s.pc)).drew.heap[w6.heap.size]? = some (mK P R B c s.pc):=heap_alloc_new w6 _;have hSA:=emS.later ⟨s0,s1,sx,c16⟩ BWA;have hGO : G ≠ OB:=ME sB hrow6 ax
  have hXO : w.heap.size ≠ OB:=by
   intro e;obtain ⟨o0,ho0⟩ : ∃ o0,s6.op[0]? = some o0:=⟨_,ba ae⟩;have h0:=World.ownsRow.cellAt hrow 0 ae;have h1:=(BZ s6.op 0 o0 ho0).1
   simp only [Nat.zero_mul] at h1
   rw [h1,← e,sx] at h0
   simp at h0
  have hGC : G ≠ v.C:=ae;have hXC : w.heap.size ≠ v.C:=ae;clear hrow hrow6;refine rdY (rs:=[4,14]) ?_
  refine AllReadyH.cons rfl (fun K hK => ?_) (AllReadyH.cons rfl (fun K hK => ?_) rN)
  ·go_simp
   refine hK.out _ _ hHeld (fun hHeld2 => ?_)
   clear hK K hHeld2;refine rdY (rs:=[14]) ?_
   refine AllReadyH.cons rfl (fun K hK => ?_) rN
   go_simp
   refine hK.out _ _ hSA (fun hHeld3 => ?_)
   clear hK K;exact Fp
  ·go_simp
   refine hK.out _ _ hSA (fun hHeld3 => ?_)
   clear hK K;have hA14:=ag BWA h14;refine rdY (rs:=[4]) ?_
   refine AllReadyH.cons rfl (fun K hK => ?_) rN
   go_simp
   refine hK.out _ _ hSA (fun hHeld2 => ?_)
   clear hK K hHeld2 hA14;exact Fp
end
section
variable {v : Ev} {w1 w : World} {s : Cs} {m : MM} {lo : List Int}
abbrev iz (v : Ev) (w1 : World) (pc : Nat) (E : Int) (s' : Cs) : Ending → World → Prop:=fun e w' => (E = 0 ∧ e = .returned kD ∧ CI v w1 w' s') ∨ (E ≠ 0 ∧ e = thv E ∧ Bad v w1 pc w')
theorem BV {a b : Int} (h : a ≠ 0) : orE a b = a:=by simp [orE,h]
theorem kE {a b : Int} (h : a = 0) : orE a b = b:=by simp [orE,h]
theorem wG (hA : EvA v w1) (h : CI v w1 w s) {k : Nat} {o : Opn} (hw : CW s k o) (hB : o.B.size ≤ 1000000) (hR : o.R.size ≤ 1000000) (a : Int) (L : Value) :
  Calls Tryz.prog 83 #[.pointer (some ⟨v.C,0,none⟩),.agg #[.int .u8 0,.int .i64 a,L]] w (iz v w1 s.pc (bV o.B o.R) (dQ s o)):=by
 have BW:=aj w (aA 0 a L);have H1:=hid (qC hA (h.later hA BW) hw hB hR);generalize bV o.B o.R = E at *;exact Ih
theorem r9 {s : Cs} {p : Opn} (hL : ∀ p ∈ s.op,p.P.size ≤ 8 ∧ p.R.size ≤ 8) (hp : p ∈ s.op) : (brg p).size ≤ 8:=by
 unfold brg; split
 ·exact (hL p hp).1
 ·exact (hL p hp).2
theorem pQ {s : Cs} {k : Nat} {o : Opn} (hw : CW s k o) {a : Int} (h : eF s a = 0) : dE s a ∈ s.op:=by
 obtain ⟨q,rfl,hq⟩:=wu hw.len h
 have hlt : k - q < s.op.length:=by have:=hw.len; omega
 rw [Ae hw.len hq (ba hlt)];exact List.getElem_mem hlt
theorem DT (hA : EvA v w1) (h : CI v w1 w s) {k : Nat} {o : Opn} (hw : CW s k o) (hB : o.B.size ≤ 1000000) (hR : o.R.size ≤ 1000000) (hL : ∀ p ∈ s.op,p.P.size ≤ 8 ∧ p.R.size ≤ 8) (a : Int) (L : Value) :
  Calls Tryz.prog 83 #[.pointer (some ⟨v.C,0,none⟩),.agg #[.int .u8 7,.int .i64 a,L]] w (iz v w1 s.pc (orE (eF s a) (orE (bI s o (brg (dE s a))) (bV o.B o.R))) (dQ s o)):=by
 have BW:=aj w (aA 7 a L);have x1 : (w.alloc (aA 7 a L)).cell? ⟨w.heap.size,1,none⟩ = some (.int .i64 a):=aB;have x2 : (w.alloc (aA 7 a L)).cell? ⟨w.heap.size,2,none⟩ = some (L):=aB;have HC:=hid (h.later hA BW);obtain ⟨E,hE⟩ : ∃ E,orE (eF s a) (orE (bI s o (brg (dE s a))) (bV o.B o.R)) = E:=⟨_,rfl⟩;rw [hE];have HE:=hid hE;clear hE h BW
 by_cases hl : eF s a = 0
 rotate_left
 ·exact GU
 have h8:=r9 hL (pQ hw hl);rw [kE hl] at HE
 go_enter Tryz.func83,Tryz.ntmps83
 go_wp2_with fail;refine (jJ HC.out hw a hl).mono ?_;rintro e w2 ⟨b,i,rfl,hb,y0,y1,y3⟩;have HC2:=hid (HC.out.later hA hb);clear hb x1 x2 HC;go_wp2_with fail;refine (iO y0 y1 y3).mono ?_;rintro e w3 ⟨rfl,hw3⟩;obtain rfl:=hw3.symm;clear y0 y1 y3 hw3;generalize brg (dE s a) = Y at *
 have HY1 : (Y ++ ⟨#[119]⟩ : ByteArray).size ≤ 1000000:=by rw [ByteArray.size_append]; exact (show Y.size + 1 ≤ 1000000 by omega)
 go_wp2_with fail;refine (mX hA HC2.out hw Y ae).mono ?_
 rintro e w4 (⟨h0,rfl,hb⟩ | ⟨h0,rfl,hb⟩)
 rotate_left
 ·have hE : E = bI s o Y:=qO;exact ⟨rfl,.inr ⟨lC,(congrArg thv hE).symm,(HC2.out.later hA hb).bad⟩⟩
 exact Hi
theorem qW (hA : EvA v w1) (h : CI v w1 w s) {k : Nat} {o : Opn} (hw : CW s k o) (hB : o.B.size ≤ 1000000) (hR : o.R.size ≤ 1000000) (hL : ∀ p ∈ s.op,p.P.size ≤ 8 ∧ p.R.size ≤ 8) (a : Int) (L : Value) {p : Opn} (hp : s.op[0]? = some p):
  Calls Tryz.prog 83 #[.pointer (some ⟨v.C,0,none⟩),.agg #[.int .u8 10,.int .i64 a,L]] w (iz v w1 s.pc (orE (bI s o (brg p)) (bV o.B o.R)) (dQ s o)):=by
 have BW:=aj w (aA 10 a L);have x1 : (w.alloc (aA 10 a L)).cell? ⟨w.heap.size,1,none⟩ = some (.int .i64 a):=aB;have x2 : (w.alloc (aA 10 a L)).cell? ⟨w.heap.size,2,none⟩ = some (L):=aB;have HC:=hid (h.later hA BW);obtain ⟨E,hE⟩ : ∃ E,orE (bI s o (brg p)) (bV o.B o.R) = E:=⟨_,rfl⟩;rw [hE];have HE:=hid hE;clear hE h BW;have h8:=r9 hL (List.mem_of_getElem? hp);obtain ⟨OB,oc,x14,hoc,hcs⟩:=HC.out.opn;obtain ⟨p0,p1,p2,p3,p4⟩:=hcs 0 p hp
 simp only [Nat.zero_mul,Nat.zero_add] at p0 p1 p2 p3 p4
 rw [hw.len] at x14;clear hcs hp hoc p2 p4
 go_enter Tryz.func83,Tryz.ntmps83
 go_wp2_with fail;refine (iO p0 p1 p3).mono ?_;rintro e w3 ⟨rfl,hw3⟩;obtain rfl:=hw3.symm;clear p0 p1 p3 x14 x1 x2 hw3;generalize brg p = Y at *;go_wp2_with fail;refine (mX hA HC.out hw Y ae).mono ?_
 rintro e w4 (⟨h0,rfl,hb⟩ | ⟨h0,rfl,hb⟩)
 rotate_left
 ·have hE : E = bI s o Y:=qO;exact ⟨rfl,.inr ⟨lC,(congrArg thv hE).symm,(HC.out.later hA hb).bad⟩⟩
 rw [kE h0] at HE;have HC3:=hid (HC.out.later hA hb);clear hb h0;go_wp2_with fail;refine (qC hA HC3.out hw hB hR).mono ?_
 rintro e w5 (⟨h0,rfl,hc,hk⟩ | ⟨h0,rfl,hb⟩)
 rotate_left
 ·have hE : E = bV o.B o.R:=HE.out.symm;exact oF
 exact GF
end
end Go.Proofs.YtkdldbfbldkkcaaGreatDoor

/-
  Texts Pe Pf Fnd Pg.
-/
import Derived.Test.YtheefojaplnnoaaGreatDoorC00
import Derived.Test.YtheefojaplnnoaaGreatDoorC01
import Derived.Test.YtheefojaplnnoaaGreatDoorC04
import Derived.Test.YtheefojaplnnoaaGreatDoorC10
import Derived.Test.YtheefojaplnnoaaGreatDoorC18
set_option linter.unusedVariables false
set_option maxRecDepth 100000
set_option maxHeartbeats 16000000
namespace Go.Proofs.YtheefojaplnnoaaGreatDoor
open Go.RowKit
theorem bj {W w' : World} {base e k n : Nat} {v : Value} {xs : List Value} (h : W.ownsRow base e k v n xs) {u : Value} {base' e' k' n' : Nat} {xs' : List Value} (hu : W.ownsRow base' e' k' u n' xs') (hg : W.grownBy w' u.ownBlock) (he : e ≠ e') : w'.ownsRow base e k v n xs:=by
 refine h.kept hg ?_
 rcases hv : v.ownBlock with _ | b
 ·exact .inl rfl
 ·refine .inr fun hx => ?_
  obtain ⟨_,cur,h1⟩:=gD h hv;obtain ⟨_,cur',h2⟩:=gD hu hx.symm;rw [h1] at h2
  simp only [Option.some.injEq,Obj.cells.injEq] at h2
  exact he h2.2.1
theorem bV {W w' : World} {base R : Nat} {o : Obj} (h : W.heap[R]? = some o) (hR : R < base) {u : Value} {e' k' n' : Nat} {xs' : List Value} (hu : W.ownsRow base e' k' u n' xs') (hg : W.grownBy w' u.ownBlock) : w'.heap[R]? = some o:=by
 refine (hg.block R (aS h) fun hx => ?_).trans h
 have:=(gD hu hx.symm).1
 omega
theorem KR.grow {W w' : World} {base R : Nat} {u : Value} {e' k' n' : Nat} {xs' : List Value} (hu : W.ownsRow base e' k' u n' xs') (hg : W.grownBy w' u.ownBlock) : KR base R W w' :=
 ⟨hg.os,hg.tape,hg.output,hg.size,fun k hk hs => hg.block k hk fun hx => hs (.inr (gD hu hx.symm).1)⟩
theorem KR.trans {base R : Nat} {w1 w2 w3 : World} (h : KR base R w1 w2) (h' : KR base R w2 w3) : KR base R w1 w3 :=
 ⟨h'.os.trans h.os,h'.tape.trans h.tape,h'.output.trans h.output,Nat.le_trans h.size h'.size,fun k hk hs => (h'.block k (Nat.lt_of_lt_of_le hk h.size) hs).trans (h.block k hk hs)⟩
section
variable {base R : Nat} {mp : Value} {m : MM} {ln pt : Int} {w W w' : World} {g cap : Nat}
theorem RQ.pushT (h : RQ base R mp m ln pt w) (hW : Below w.heap.size w W) (x : Sg) (ho : w'.ownsRow base 73 2 (.slice (some ⟨g,0,none⟩) (m.tn + 1) cap) (m.tn + 1) (m.types.flatMap mM ++ mM x)) (hg : W.grownBy w' (Value.slice m.ta m.tn m.tc).ownBlock) :
  RQ base R mp { m with ta:=some ⟨g,0,none⟩,tn:=m.tn + 1,tc:=cap,types:=m.types ++ [x] } ln pt (w'.setCell ⟨R,1,none⟩ (.slice (some ⟨g,0,none⟩) (m.tn + 1) cap)) ∧ KR base R w (w'.setCell ⟨R,1,none⟩ (.slice (some ⟨g,0,none⟩) (m.tn + 1) cap)):=by
 have hq:=h.later hW;have hu:=hq.rt;have hR:=h.low;refine ⟨⟨?_,hR,?_,?_,?_,?_,?_,?_,?_,?_,?_,?_,?_⟩,((KR.later hW).trans (KR.grow hu hg)).trans (KR.set base R _ w' _)⟩
 ·exact ky
 ·exact jp
 ·exact kE
 ·exact mt
 ·exact mr
 ·exact mB
 ·exact mf
 ·exact mj
 ·exact ui
 ·exact h.fd
 ·exact np
 ·exact h.nf
theorem RQ.pushH (h : RQ base R mp m ln pt w) (hW : Below w.heap.size w W) (x : Int) (hpt : pt < 6) (ho : w'.ownsRow base 3 1 (.slice (some ⟨g,0,none⟩) (m.hn + 1) cap) (m.hn + 1) (m.hosts.flatMap ir ++ ir x)) (hg : W.grownBy w' (Value.slice m.ha m.hn m.hc).ownBlock) :
  RQ base R mp { m with ha:=some ⟨g,0,none⟩,hn:=m.hn + 1,hc:=cap,hosts:=m.hosts ++ [x] } ln pt (w'.setCell ⟨R,2,none⟩ (.slice (some ⟨g,0,none⟩) (m.hn + 1) cap)) ∧ KR base R w (w'.setCell ⟨R,2,none⟩ (.slice (some ⟨g,0,none⟩) (m.hn + 1) cap)):=by
 have hq:=h.later hW;have hu:=hq.rh;have hR:=h.low;refine ⟨⟨?_,hR,?_,?_,?_,?_,?_,?_,?_,?_,?_,?_,?_⟩,((KR.later hW).trans (KR.grow hu hg)).trans (KR.set base R _ w' _)⟩
 ·exact ky
 ·exact jp
 ·exact mG
 ·exact kE
 ·exact mr
 ·exact mB
 ·exact mf
 ·exact mj
 ·intro y hy; rw [show m.fns = [] from h.nf hpt] at hy; cases hy
 ·intro i j x y k hi; rw [show m.fns = [] from h.nf hpt] at hi; cases hi
 ·exact np
 ·exact h.nf
theorem RQ.pushG (h : RQ base R mp m ln pt w) (hW : Below w.heap.size w W) (x : Gl) (ho : w'.ownsRow base 102 3 (.slice (some ⟨g,0,none⟩) (m.gn + 1) cap) (m.gn + 1) (m.globals.flatMap dW ++ dW x)) (hg : W.grownBy w' (Value.slice m.ga m.gn m.gc).ownBlock) :
  RQ base R mp { m with ga:=some ⟨g,0,none⟩,gn:=m.gn + 1,gc:=cap,globals:=m.globals ++ [x] } ln pt (w'.setCell ⟨R,3,none⟩ (.slice (some ⟨g,0,none⟩) (m.gn + 1) cap)) ∧ KR base R w (w'.setCell ⟨R,3,none⟩ (.slice (some ⟨g,0,none⟩) (m.gn + 1) cap)):=by
 have hq:=h.later hW;have hu:=hq.rg;have hR:=h.low;refine ⟨⟨?_,hR,?_,?_,?_,?_,?_,?_,?_,?_,?_,?_,?_⟩,((KR.later hW).trans (KR.grow hu hg)).trans (KR.set base R _ w' _)⟩
 ·exact ky
 ·exact jp
 ·exact mG
 ·exact mt
 ·exact kE
 ·exact mB
 ·exact mf
 ·exact mj
 ·exact ui
 ·exact h.fd
 ·exact np
 ·exact h.nf
theorem RQ.pushF (h : RQ base R mp m ln pt w) (hW : Below w.heap.size w W) (x : FuM) (hpt : 6 ≤ pt) (hx : x.2.2.1 = (none,0,0) ∧ x.2.2.2 = []) (ho : w'.ownsRow base 78 3 (.slice (some ⟨g,0,none⟩) (m.fn + 1) cap) (m.fn + 1) (m.fns.flatMap dD ++ dD x)) (hg : W.grownBy w' (Value.slice m.fa m.fn m.fc).ownBlock) :
  RQ base R mp { m with fa:=some ⟨g,0,none⟩,fn:=m.fn + 1,fc:=cap,fns:=m.fns ++ [x] } ln pt (w'.setCell ⟨R,6,none⟩ (.slice (some ⟨g,0,none⟩) (m.fn + 1) cap)) ∧ KR base R w (w'.setCell ⟨R,6,none⟩ (.slice (some ⟨g,0,none⟩) (m.fn + 1) cap)):=by
 have hq:=h.later hW;have hu:=hq.rf;have hR:=h.low;refine ⟨⟨?_,hR,?_,?_,?_,?_,?_,?_,?_,?_,?_,?_,?_⟩,((KR.later hW).trans (KR.grow hu hg)).trans (KR.set base R _ w' _)⟩
 ·exact ky
 ·exact jp
 ·exact mG
 ·exact mt
 ·exact mr
 ·exact kE
 ·exact mf
 ·exact mj
 ·intro y hy
  rcases List.mem_append.1 hy with hy | hy
  ·exact ⟨bD (bj (hq.fo y hy).code hu hg aq) hR,fun z hz => bD (bj ((hq.fo y hy).lab z hz) hu hg aq) hR⟩
  ·rw [List.mem_singleton] at hy;subst hy;obtain ⟨h1,h2⟩:=hx
   refine ⟨?_,fun z hz => by rw [h2] at hz; cases hz⟩
   rw [h1,h2];exact World.ownsRow_nil _ _ _ _
 ·intro i j y z k hi hj hij hk
  have hnx : fcb x = none:=by unfold fcb; rw [hx.1]; rfl
  rcases Nat.lt_or_ge j m.fns.length with hjl | hjl
  ·have hj' : m.fns[j]? = some z:=by rw [← hj]; exact (List.getElem?_append_left hjl).symm
   rcases Nat.lt_or_ge i m.fns.length with hil | hil
   ·have hi' : m.fns[i]? = some y:=by rw [← hi]; exact (List.getElem?_append_left hil).symm
    exact h.fd i j y z k hi' hj' hij hk
   ·have hi' : [x][i - m.fns.length]? = some y:=by rw [← hi]; exact (List.getElem?_append_right hil).symm
    have:=List.mem_of_getElem? hi'
    rw [List.mem_singleton] at this;subst this;rw [hnx] at hk; cases hk
  ·have hj' : [x][j - m.fns.length]? = some z:=by rw [← hj]; exact (List.getElem?_append_right hjl).symm
   have:=List.mem_of_getElem? hj'
   rw [List.mem_singleton] at this;subst this
   rw [hnx]; simp
 ·exact np
 ·intro hc; omega
theorem RQ.pushD (h : RQ base R mp m ln pt w) (hW : Below w.heap.size w W) (x : DaM) (hx : w.ownsRow base 5 1 (.slice x.2.1.1 x.2.1.2.1 x.2.1.2.2) x.2.1.2.1 (x.2.2.flatMap qL)) (ho : w'.ownsRow base 81 2 (.slice (some ⟨g,0,none⟩) (m.dn + 1) cap) (m.dn + 1) (m.data.flatMap mL ++ mL x)) (hg : W.grownBy w' (Value.slice m.da m.dn m.dc).ownBlock) :
  RQ base R mp { m with da:=some ⟨g,0,none⟩,dn:=m.dn + 1,dc:=cap,data:=m.data ++ [x] } ln pt (w'.setCell ⟨R,7,none⟩ (.slice (some ⟨g,0,none⟩) (m.dn + 1) cap)) ∧ KR base R w (w'.setCell ⟨R,7,none⟩ (.slice (some ⟨g,0,none⟩) (m.dn + 1) cap)):=by
 have hq:=h.later hW;have hu:=hq.rd;have hR:=h.low;refine ⟨⟨?_,hR,?_,?_,?_,?_,?_,?_,?_,?_,?_,?_,?_⟩,((KR.later hW).trans (KR.grow hu hg)).trans (KR.set base R _ w' _)⟩
 ·exact ky
 ·exact jp
 ·exact mG
 ·exact mt
 ·exact mr
 ·exact mB
 ·exact kE
 ·exact mj
 ·exact ui
 ·exact h.fd
 ·intro y hy
  rcases List.mem_append.1 hy with hy | hy
  ·exact bD (bj (hq.dd y hy) hu hg aq) hR
  ·rw [List.mem_singleton] at hy;subst hy;exact bD (bj (dS hx hW) hu hg aq) hR
 ·exact h.nf
theorem RQ.pushE (h : RQ base R mp m ln pt w) (hW : Below w.heap.size w W) (x : Ex) (ho : w'.ownsRow base 83 2 (.slice (some ⟨g,0,none⟩) (m.en + 1) cap) (m.en + 1) (m.exps.flatMap mz ++ mz x)) (hg : W.grownBy w' (Value.slice m.ea m.en m.ec).ownBlock) :
  RQ base R mp { m with ea:=some ⟨g,0,none⟩,en:=m.en + 1,ec:=cap,exps:=m.exps ++ [x] } ln pt (w'.setCell ⟨R,8,none⟩ (.slice (some ⟨g,0,none⟩) (m.en + 1) cap)) ∧ KR base R w (w'.setCell ⟨R,8,none⟩ (.slice (some ⟨g,0,none⟩) (m.en + 1) cap)):=by
 have hq:=h.later hW;have hu:=hq.re;have hR:=h.low;refine ⟨⟨?_,hR,?_,?_,?_,?_,?_,?_,?_,?_,?_,?_,?_⟩,((KR.later hW).trans (KR.grow hu hg)).trans (KR.set base R _ w' _)⟩
 ·exact ky
 ·exact jp
 ·exact mG
 ·exact mt
 ·exact mr
 ·exact mB
 ·exact mf
 ·exact kE
 ·exact ui
 ·exact h.fd
 ·exact np
 ·exact h.nf
end
def qD (w : World) : Prop:=∃ m,w.cell? ⟨3,0,none⟩ = some (.int .i64 m)
theorem qD.later {w w' : World} {B : Nat} (h : qD w) (hb : Below B w w') (hB : w.heap.size ≤ B) : qD w':=by
 obtain ⟨m,hm⟩:=h
 have:=block_lt_of_cell hm
 exact ⟨m,(hb.cell (by simp at this ⊢; omega)).trans hm⟩
theorem MP (s : ByteArray) (w : World) (hs : s.size ≤ 1073741824) (hm : qD w) :
  Calls Tryz.prog 217 #[.string s,.string ⟨#[32,45,62,32]⟩] w fun e w' => e = .returned (.tuple #[.string (vW s),.string (wq s),.bool (Ky s)]) ∧ Below w.heap.size w w':=by
 obtain ⟨m,hm⟩:=hm
 exact (Tryz.strings_Cut s ⟨#[32,45,62,32]⟩ m w ae hm).mono fun e w' ⟨he,n,hw⟩ => ⟨he,by rw [hw]; exact iM w n⟩
theorem lF (s : ByteArray) (w : World) (hs : s.size ≤ 1073741824) (hm : qD w) :
  Calls Tryz.prog 169 #[.string s] w fun e w' => e = .returned (.tuple #[.agg #[.string (rdP s),.string (rdR s)],.int .i64 (rdE s)]) ∧ Below w.heap.size w w':=by
 obtain ⟨hl,hr⟩:=DD s;have hb0 : Below w.heap.size w (w.alloc (aX ⟨#[]⟩ ⟨#[]⟩)):=(Below.refl _ _).alloc (Nat.le_refl _) _;have HC:=hid (MP s (w.alloc (aX ⟨#[]⟩ ⟨#[]⟩)) hs (hm.later hb0 (Nat.le_refl _)))
 go_enter Tryz.func169,Tryz.ntmps169
 go_wp2_with fail;refine HC.out.mono ?_;rintro e w1 ⟨rfl,hb1⟩;go_wp2_with fail;refine (pP (vW s) w1 ae).mono ?_;rintro e w2 ⟨rfl,hb2⟩;go_wp2_with fail;refine (pP (wq s) w2 ae).mono ?_;rintro e w3 ⟨rfl,hb3⟩;have hbb : Below w.heap.size w w3:=((hb0.trans (hb1.mono ar)).trans (hb2.mono uC)).trans (hb3.mono AH);have hba : Below (w.heap.size + 1) (w.alloc (aX ⟨#[]⟩ ⟨#[]⟩)) w3:=(((hb1.mono ar)).trans (hb2.mono uC)).trans (hb3.mono AH)
 have hblk : w3.heap[w.heap.size]? = some (aX ⟨#[]⟩ ⟨#[]⟩):=by
  rw [hba.block w.heap.size ae]; exact heap_alloc_new _ _
 have c0:=aj (i:=0) hblk;have c1:=aj (i:=1) hblk;have f0:=aK (i:=0) hblk;have f1:=aK (i:=1) hblk
 simp at c0 c1
 have HB:=hid hbb;clear hb0 hb1 hb2 hb3 hbb hba hblk HC
 cases h1 : Ky s
 ·have hz : rdB s = false:=by simp [rdB,h1]
  exact xD
 ·cases h2 : rsB (vW s)
  ·have hz : rdB s = false:=by simp [rdB,h1,h2]
   exact xD
  ·cases h3 : rsB (wq s)
   ·have hz : rdB s = false:=by simp [rdB,h1,h2,h3]
    exact xD
   ·have hz : rdB s = true:=by simp [rdB,h1,h2,h3]
    go_wp2
    (try simp only [Exit.inBlock,Exit.then])
    refine bodyPost_ret (v:=.tuple #[.agg #[.string (rsV (vW s)),.string (rsV (wq s))],.int .i64 0]) ?_ rfl ⟨by simp [rdP,rdR,rdE,hz],?_⟩
    ·exact km
    ·exact (HB.out.setCell ar _).setCell ar _
structure bY (B : Nat) (w : World) : Prop where
 tens : ij B w
 errs : qF B w
 kinds : aT w
 mx : qD w
 b3 : 3 < B
 bw : B ≤ w.heap.size
theorem bY.later {B : Nat} {w w' : World} (h : bY B w) (hb : Below B w w') : bY B w' :=
 ⟨h.tens.later hb,h.errs.later hb,h.kinds.later hb (Nat.lt_of_le_of_lt (Nat.zero_le 3) h.b3),(by obtain ⟨m,hm⟩:=h.mx; exact ⟨m,(hb.cell (by exact h.b3)).trans hm⟩),h.b3,Nat.le_trans h.bw hb.size⟩
theorem KR.below {B base R : Nat} {w w' : World} (h : KR base R w w') (hR : B ≤ R) (hb : B ≤ base) (hw : B ≤ w.heap.size) : Below B w w' :=
 ⟨h.os,h.tape,h.output,h.size,fun k hk => h.block k ae (fun hs => by rcases hs with rfl | hs <;> omega)⟩
structure Wds (w : World) (A n c : Nat) (ws : List ByteArray) : Prop where
 len : ws.length = n
 lt : A < w.heap.size
 cap : n ≤ c
 at_ : ∀ (j : Nat) x,ws[j]? = some x → w.cell? ⟨A,0 + j,none⟩ = some (.string x)
 sz : ∀ x ∈ ws,x.size ≤ 2097152
 few : n ≤ 2097152
theorem Wds.later {w w' : World} {A n c : Nat} {ws : List ByteArray} (h : Wds w A n c ws) (hb : Below w.heap.size w w') : Wds w' A n c ws :=
 ⟨h.len,Nat.lt_of_lt_of_le h.lt hb.size,h.cap,fun j x hj => aw hb (h.at_ j x hj),h.sz,h.few⟩
def jT (f : Int) (rest : ByteArray) : List ByteArray → Int × Bool
 | [] => (0,false)
 | p :: r => if p = rest then (f,true) else jT (f + 1) rest r
def fA (f : Int) (a ws word : ByteArray) : Int × Bool :=
 if Lib.hasPrefix word.data.toList a.data.toList = true then jT f ⟨(Lib.trimPrefix word.data.toList a.data.toList).toArray⟩ (cw ws) else (0,false)
theorem MG (f l : Int) (a ws word : ByteArray) (w : World) (h0 : 0 ≤ f) (hb : f + (cw ws).length ≤ 255) (hsz : ws.size ≤ 1099511627776) :
  Calls Tryz.prog 224 #[.agg #[.int .u8 f,.int .u8 l,.string a,.string ws],.string word] w fun e w' => e = .returned (.tuple #[.int .u8 (fA f a ws word).1,.bool (fA f a ws word).2]) ∧ Below w.heap.size w w':=by
 obtain ⟨xs,hxs⟩ : ∃ xs,cw ws = xs:=⟨_,rfl⟩;obtain ⟨rest,hrest⟩ : ∃ rest : ByteArray,(⟨(Lib.trimPrefix word.data.toList a.data.toList).toArray⟩ : ByteArray) = rest:=⟨_,rfl⟩;obtain ⟨ok,hok⟩ : ∃ ok : Bool,Lib.hasPrefix word.data.toList a.data.toList = ok:=⟨_,rfl⟩;obtain ⟨V,hV⟩ : ∃ V,fA f a ws word = V:=⟨_,rfl⟩;have hcut:=Tryz.strings_CutPrefix word a;rw [hrest,hok] at hcut;rw [hV];rw [hxs] at hb;unfold fA at hV;rw [hrest,hok,hxs] at hV;refine (callsIn_wide (n:=5)).1 ?_;refine callsIn_of_wp_marks Tryz.func224 rfl trivial ?_ rfl
 simp only [Tryz.ntmps224,List.size_toArray,List.length_cons,List.length_nil,Nat.reduceAdd,Nat.reduceSub,Array.replicate_succ,Array.replicate_zero,List.push_toArray,List.append_toArray,List.nil_append,List.cons_append]
 gi_wp2_with fail
 refine ⟨trivial,?_⟩;refine (callsIn_wide.2 (hcut _)).mono ?_;rintro e w' ⟨rfl,rfl⟩
 cases ok
 ·gi_wp2_with fail
  subst hV;refine ⟨.tuple #[.int .u8 0,.bool false],?_,rfl,((((Below.refl _ w).alloc ar _).alloc bM _).alloc bM _).alloc bM _⟩;rw [jX rfl];go_simp
 gi_wp2_with fail
 refine ⟨trivial,?_⟩;refine (callsIn_wide.2 (pH ws _)).mono ?_;rintro e w' ⟨rfl,rfl⟩
 gi_wp2_with fail
 simp only [Nat.add_assoc,Nat.reduceAdd]
 rw [if_pos trivial] at hV;obtain ⟨W0,hW0⟩ : ∃ W0,((((((((w.alloc (nC f l a ws)).alloc (jb 0)).alloc (.cells #[.bool false] 4)).alloc (cK rest)).alloc (jb f)).alloc (cK ws)).alloc (cK ⟨#[32]⟩)).alloc (bz 0)) = W0:=⟨_,rfl⟩;rw [hW0]
 have B0 : Below w.heap.size w W0:=by rw [← hW0]; exact ((((((((Below.refl _ w).alloc ar _).alloc bM _).alloc bM _).alloc bM _).alloc bM _).alloc bM _).alloc bM _).alloc bM _
 have z0 : W0.heap.size = w.heap.size + 8:=dP
 have hstart : ay [(⟨w.heap.size + 4,0,none⟩,.int .u8 f),(⟨w.heap.size + 3,0,none⟩,.string rest),(⟨w.heap.size + 1,0,none⟩,.int .u8 0),(⟨w.heap.size + 2,0,none⟩,.bool false)] W0:=by
  rw [← hW0]
  refine ay.cons ?_ ?_ (ay.cons ?_ ?_ (ay.cons ?_ ?_ (ay.cons ?_ ?_ jv))) <;> simp [go_sem]
 have c2 : W0.cell? ⟨w.heap.size + 5,0,none⟩ = some (.string ws):=dP;have f2 : W0.frozen? ⟨w.heap.size + 5,0,none⟩ = false:=dP;have c1 : W0.cell? ⟨w.heap.size + 6,0,none⟩ = some (.string ⟨#[32]⟩):=dP;have c3 : W0.cell? ⟨w.heap.size + 7,0,none⟩ = some (.int .i64 0):=dP;clear hW0;have HF:=Ac 4 (w.heap.size + 6) (w.heap.size + 5) (w.heap.size + 7) ae ae ws W0 c1 c2 f2 c3 hsz;rw [hxs] at HF
 refine om rfl aq (gf:=174) (lb:=#[.pointer (some ⟨w.heap.size + 6,0,none⟩),.pointer (some ⟨w.heap.size + 5,0,none⟩),.pointer (some ⟨w.heap.size + 7,0,none⟩)]) rfl trivial (enters_of Tryz.func174 ai rfl) (encs:=fun x : ByteArray => #[.string x]) (fun _ => rfl)
  HF
  (fun r W => ay [(⟨w.heap.size + 4,0,none⟩,.int .u8 (f + xs.length - r.length)),(⟨w.heap.size + 3,0,none⟩,.string rest),(⟨w.heap.size + 1,0,none⟩,.int .u8 0),(⟨w.heap.size + 2,0,none⟩,.bool false)] W ∧ Below w.heap.size w W ∧ r.length ≤ xs.length ∧ jT (f + xs.length - r.length) rest r = V)
  (fun j W => j = .ret ∧ ay [(⟨w.heap.size + 1,0,none⟩,.int .u8 V.1),(⟨w.heap.size + 2,0,none⟩,.bool V.2)] W ∧ Below w.heap.size w W)
  ?own ?ownx ?cells ?start
  (fun x => { tmps:=#[.agg #[.int .u8 f,.int .u8 l,.string a,.string ws],.string word,.pointer (some ⟨w.heap.size,0,none⟩),undef,.pointer (some ⟨w.heap.size + 1,0,none⟩),.pointer (some ⟨w.heap.size + 2,0,none⟩),.pointer (some ⟨w.heap.size + 3,0,none⟩),.bool true,.pointer (some ⟨w.heap.size + 4,0,none⟩),.string x,.tuple #[.string rest,.bool true],.string word,.pointer (some ⟨w.heap.size,2,none⟩),.string a,.tuple #[.string rest,.bool true],.string rest,.bool true,.bool true,.bool false,.pointer (some ⟨w.heap.size,0,none⟩),.int .u8 f,.pointer (some ⟨w.heap.size,3,none⟩),.string ws,
   .func (.func 174) #[] #[.pointer (some ⟨w.heap.size + 6,0,none⟩),.pointer (some ⟨w.heap.size + 5,0,none⟩),.pointer (some ⟨w.heap.size + 7,0,none⟩)],.string x,undef,undef,undef,undef,undef,undef],defers:=[] }) ?assign ?body ?done ?stop
 case own =>
  exact G9
 case ownx =>
  exact Ew
 case cells =>
  exact fun r A v hs => ⟨hs.1.other _ _ ar,hs.2.1.setCell (p:=⟨w.heap.size + 5,0,none⟩) ar _,hs.2.2⟩
 case start =>
  have e : f + xs.length - xs.length = f:=ae
  exact ⟨by rw [e]; exact hstart,B0,Nat.le_refl _,by rw [e]; exact hV⟩
 case assign =>
  exact uF
 case body =>
  rintro m x r W ⟨hc,hB,hr,hv⟩;have hsem:=@Oper.semAt_some;have d1:=hc _ (List.mem_cons_self ..);have d2:=hc _ (List.mem_cons_of_mem _ (List.mem_cons_self ..));have d3:=hc _ (List.mem_cons_of_mem _ (List.mem_cons_of_mem _ (List.mem_cons_self ..)));have d4:=hc _ (List.mem_cons_of_mem _ (List.mem_cons_of_mem _ (List.mem_cons_of_mem _ (List.mem_cons_self ..))));obtain ⟨q,hq⟩ : ∃ q : Int,f + xs.length - (x :: r).length = q:=⟨_,rfl⟩;rw [hq] at hc d1 hv;have q0 : 0 ≤ q:=rO;have q1 : q + 1 ≤ 255:=rO
  have q2 : f + xs.length - r.length = q + 1:=by simp at hq; omega
  by_cases he : x = rest
  ·rw [jT,if_pos he] at hv;subst he hv
   gi_wp2_with fail
   refine ⟨((KeepsOthers.setCell _ _ _).trans (KeepsOthers.setCell _ _ _)).from _,rfl,?_,(hB.setCell (p:=⟨w.heap.size + 1,0,none⟩) ar _).setCell (p:=⟨w.heap.size + 2,0,none⟩) ar _⟩;have g1 : ay [(⟨w.heap.size + 1,0,none⟩,.int .u8 0),(⟨w.heap.size + 2,0,none⟩,.bool false)] W:=ay.cons d3.1 d3.2 (ay.cons d4.1 d4.2 jv);exact g1.set2 ar
  ·rw [jT,if_neg he] at hv
   have he2 : (x.toList == rest.toList) = false:=by rw [JY]; simp [he]
   gi_wp2_with fail
   refine ⟨(KeepsOthers.setCell _ _ _).from _,dE.other _ _ _ ar,ay.set hc ar,hB.setCell (p:=⟨w.heap.size + 4,0,none⟩) ar _,by simp at hr; omega⟩
 case done =>
  rintro D W hD ⟨hc,hB,_,hv⟩ hK;have d3:=hc _ (List.mem_cons_of_mem _ (List.mem_cons_of_mem _ (List.mem_cons_self ..)));have d4:=hc _ (List.mem_cons_of_mem _ (List.mem_cons_of_mem _ (List.mem_cons_of_mem _ (List.mem_cons_self ..))));have d5:=d3.1;have d6:=d3.2;have d7:=d4.1;have d8:=d4.2
  gi_wp2_with fail
  have hK2:=((KeepsOthers.setCell W ⟨w.heap.size + 1,0,none⟩ (.int .u8 0)).trans (KeepsOthers.setCell _ ⟨w.heap.size + 2,0,none⟩ (.bool false))).same _ _ hK rfl;refine ⟨ar,.inl ⟨_,_,rfl,run_takeDeferred hK2,?_⟩⟩;have g1 : ay [(⟨w.heap.size + 1,0,none⟩,.int .u8 0),(⟨w.heap.size + 2,0,none⟩,.bool false)] W:=ay.cons d3.1 d3.2 (ay.cons d4.1 d4.2 jv);have hH:=(g1.set2 (v1:=.int .u8 0) (v2:=.bool false) ar).turned (.deferred none) hK2 rfl;have e1:=(hH _ (List.mem_cons_self ..)).1;have e2:=(hH _ (List.mem_cons_of_mem _ (List.mem_cons_self ..))).1;have hBB:=((hB.setCell (p:=⟨w.heap.size + 1,0,none⟩) ar (.int .u8 0)).setCell (p:=⟨w.heap.size + 2,0,none⟩) ar (.bool false)).trans (belowK_b (w:=w) (Nat.le_refl _) _ D _ (.deferred none) ae hK2 rfl rfl);generalize World.putObj _ D (.deferred none) = W5 at e1 e2 hBB ⊢;rw [jT] at hv;subst hv;refine ⟨.tuple #[.int .u8 0,.bool false],?_,rfl,hBB⟩;rw [jX rfl];go_simp
 case stop =>
  rintro D j W hD ⟨rfl,hc,hB⟩ hK
  gi_wp2_with fail
  refine ⟨ar,.inl ⟨_,_,rfl,run_takeDeferred hK,?_⟩⟩;have e1:=((hc.turned (.deferred none) hK rfl) _ (List.mem_cons_self ..)).1;have e2:=((hc.turned (.deferred none) hK rfl) _ (List.mem_cons_of_mem _ (List.mem_cons_self ..))).1;have hBB:=hB.trans (belowK_b (w:=w) (Nat.le_refl _) _ D _ (.deferred none) ae hK rfl rfl);generalize World.putObj _ D (.deferred none) = W5 at e1 e2 hBB ⊢;refine ⟨.tuple #[.int .u8 V.1,.bool V.2],?_,rfl,hBB⟩;rw [jX rfl];go_simp
def fG : Nat → Nat → ByteArray → Int × Bool
 | 0,_,_ => (0,false)
 | n + 1,i,s => if (fA (kF i) (kA i) (kW i) s).2 = true then ((fA (kF i) (kA i) (kW i) s).1,true) else fG n (i + 1) s
def bi (s : ByteArray) : Int × Bool:=fG 7 0 s
theorem jc (s : ByteArray) (w : World) (hk : aT w) : Calls Tryz.prog 177 #[.string s] w fun e w' => e = .returned (.tuple #[.int .u8 (bi s).1,.bool (bi s).2]) ∧ Below w.heap.size w w':=by
 obtain ⟨V,hV⟩ : ∃ V,bi s = V:=⟨_,rfl⟩;rw [hV]
 go_enter Tryz.func177,Tryz.ntmps177
 refine wp_seq_k fun K1 hK1 => wp_region_lit ?_
 refine iR rfl (v:=.int .u8 0) (w':=w) cE ?_;refine iR rfl (v:=.bool false) (w':=w) cE ?_;refine wpList_nil (hK1 _ _ ?_);clear hK1
 refine wp_seq_k fun K2 hK2 => wp_seq_k fun K3 hK3 => wp_region_lit ?_
 refine iR rfl (qw hk _ _ _ _ _) ?_;obtain ⟨kv,hkv⟩ : ∃ kv,nZ = kv:=⟨_,rfl⟩;rw [hkv]
 have run_kind' : ∀ (w : World) (i : Nat) (hi : i < 7),(Instr.index 288 kv (.int .i64 i)).run Tryz.prog w = .ok (.agg #[.int .u8 (kF i),.int .u8 (kL i),.string (kA i),.string (kW i)]) w:=fun w i hi => hkv ▸ ww i hi
 have HK:=hid run_kind';clear run_kind' hkv;go_wp2_with fail
 go_loopw [9] (fun p wr => ∃ i : Nat,p = .int .i64 i ∧ i ≤ 7 ∧ Below w.heap.size w wr ∧ fG (7 - i) i s = V) (fun p wr => 7 - (intOf p).toNat)
 case atStart => exact ⟨0,rfl,aq,Below.refl _ _,hV⟩
 case round =>
  clear hV;obtain ⟨i,rfl,hi,hB,hV⟩:=hrel
  by_cases h7 : i = 7
  ·subst h7;have hx : V = (0,false):=hV.symm;subst hx;go_wp2_with fail;go_ret2;exact ⟨rfl,hB⟩
  have hlt : (i : Int) < 7:=ae;have hix:=HK.out wr i ae;obtain ⟨f0,f1,f2,f3,f4,f5⟩:=lL i ae;have HF:=hid (MG (kF i) (kL i) (kA i) (kW i) s (wr.alloc (nC (kF i) (kL i) (kA i) (kW i))) f0 f3 f4);have hB2:=hid (hB.alloc hB.size (nC (kF i) (kL i) (kA i) (kW i)));obtain ⟨n,hn⟩ : ∃ n,7 - i = n + 1:=⟨6 - i,ae⟩;rw [hn,fG] at hV;have hw : wrap64 ((i : Int) + 1) = i + 1:=eu;clear f0 f1 f2 f3 f4 f5 hB;generalize fA (kF i) (kA i) (kW i) s = R at *;obtain ⟨r1,r2⟩:=R;have HV:=hid hV;clear hV;generalize kF i = f at *;generalize kL i = l at *;generalize kA i = a at *;generalize kW i = ws at *
  cases r2
  ·go_wp2_with fail;refine HF.out.mono ?_;rintro e w3 ⟨rfl,hb3⟩;have hB3:=hid (hB2.out.trans (hb3.mono hB2.out.size));clear hb3;go_wp2_with fail
   exact ⟨⟨i + 1,ar,ae,hB3.out,by have:=HV.out; rw [show 7 - (i + 1) = n by omega]; simpa using this⟩,b9⟩
  ·have hx : V = (r1,true):=by have:=HV.out; simpa using this.symm
   subst hx;go_wp2_with fail;refine HF.out.mono ?_;rintro e w3 ⟨rfl,hb3⟩;have hB3:=hid (hB2.out.trans (hb3.mono hB2.out.size));clear hb3;go_wp2_with fail;go_ret2;exact ⟨rfl,hB3.out⟩
abbrev PIn:=Int × Int × List Int
abbrev PFn:=Int × ByteArray × List PIn
structure PM where
 types : List Sg
 hosts : List Int
 globals : List Gl
 fi : Int
 mo : Int
 fns : List PFn
 data : List (Int × List Int)
 exps : List Ex
def plI (y : InM) : PIn:=(y.1,y.2.1,y.2.2.2)
def plF (x : FuM) : PFn:=(x.1,x.2.1,x.2.2.2.map plI)
def plD (x : DaM) : Int × List Int:=(x.1,x.2.2)
def pl (m : MM) : PM:=⟨m.types,m.hosts,m.globals,m.fi,m.mo,m.fns.map plF,m.data.map plD,m.exps⟩
structure LnM (m : MM) : Prop where
 t : m.tn = m.types.length
 h : m.hn = m.hosts.length
 g : m.gn = m.globals.length
 f : m.fn = m.fns.length
 d : m.dn = m.data.length
 e : m.en = m.exps.length
def dh (xs : List ByteArray) : ByteArray:=⟨(Lib.join (xs.map (·.data.toList)) [32]).toArray⟩
def wk : ByteArray:=⟨#[118,97,114]⟩
def uy : ByteArray:=⟨#[99,111,110,115,116]⟩
def wdx (ws : List ByteArray) (i : Nat) : ByteArray:=ws.getD i ⟨#[]⟩
def iX (p : Int) (M : PM) (ws : List ByteArray) : Option (Int × PM):=if (0 ≤ p ∧ p < 1) ∧ ws.length = 1 then some (1,M) else none
def fM (p : Int) (M : PM) (ws : List ByteArray) : Option (Int × PM):=if (1 ≤ p ∧ p ≤ 2) ∧ rdE (dh ws.tail) = 0 then some (2,{ M with types:=M.types ++ [(rdP (dh ws.tail),rdR (dh ws.tail))] }) else none
def fL (p : Int) (M : PM) (ws : List ByteArray) : Option (Int × PM):=if (1 ≤ p ∧ p ≤ 3) ∧ ws.length = 2 then (nmV (wdx ws 1)).map fun v => (3,{ M with hosts:=M.hosts ++ [v] }) else none
def gvV (l : ByteArray) (v : Int) : Option (Int × Int):=if l.toList = [119] then (if v = wrap32 v then some (119,v % 4294967296) else none) else if l.toList = [108] then some (108,v % 18446744073709551616) else none
def bF (p : Int) (M : PM) (ws : List ByteArray) : Option (Int × PM):=if (1 ≤ p ∧ p ≤ 4) ∧ ws.length = 4 ∧ ((wdx ws 2).toList = wk.toList ∨ (wdx ws 2).toList = uy.toList) then (nmV (wdx ws 3)).bind fun v => (gvV (wdx ws 1) v).map fun x => (4,{ M with globals:=M.globals ++ [(x.1,(wdx ws 2).toList == wk.toList,x.2)] }) else none
def iL (p : Int) (M : PM) (ws : List ByteArray) : Option (Int × PM):=if (1 ≤ p ∧ p < 5) ∧ ws.length = 3 then (nmV (wdx ws 1)).bind fun a => (nmV (wdx ws 2)).map fun b => (5,{ M with fi:=a,mo:=b }) else none
def rK (l : ByteArray) : ByteArray:=if l.toList = [45] then ⟨#[]⟩ else l
def iq (p : Int) (M : PM) (ws : List ByteArray) : Option (Int × PM):=if (5 ≤ p ∧ p ≤ 6) ∧ ws.length = 3 then (nmV (wdx ws 1)).map fun v => (6,{ M with fns:=M.fns ++ [(v,rK (wdx ws 2),[])] }) else none
def eD : List UInt8 → Option (List Int)
 | [] => some []
 | [_] => none
 | a :: b :: r => if 0 ≤ eI a.toNat ∧ 0 ≤ eI b.toNat then (eD r).map (fun t => (eI a.toNat * 16 + eI b.toNat) :: t) else none
def mO (s : ByteArray) : Option (List Int):=eD s.data.toList
def iF (p : Int) (M : PM) (ws : List ByteArray) : Option (Int × PM):=if (5 ≤ p ∧ p ≤ 7) ∧ ws.length = 3 then (nmV (wdx ws 1)).bind fun v => (mO (wdx ws 2)).map fun b => (7,{ M with data:=M.data ++ [(v,b)] }) else none
def jH (p : Int) (M : PM) (ws : List ByteArray) : Option (Int × PM):=if (5 ≤ p ∧ p ≤ 8) ∧ ws.length = 3 then (nmV (wdx ws 2)).map fun v => (8,{ M with exps:=M.exps ++ [(wdx ws 1,v)] }) else none
def cO : List ByteArray → Option (List Int)
 | [] => some []
 | x :: r => (nmV x).bind fun v => (cO r).map fun t => v :: t
def qa (fs : List PFn) (y : PIn) : List PFn:=match fs.getLast? with
 | none => fs
 | some f => fs.dropLast ++ [(f.1,f.2.1,f.2.2 ++ [y])]
def jl (op : Int) (ws : List ByteArray) : Option PIn :=
 if (ofV op).1.2.2.1 = 0 then (if ws.length = 1 then some (op,0,[]) else none) else if (ofV op).1.2.2.1 = 3 then (cO ws.tail).map (fun l => (op,0,l)) else if ws.length = 2 then (nmV (wdx ws 1)).map (fun a => (op,a,[])) else none
def cj (p : Int) (M : PM) (ws : List ByteArray) : Option (Int × PM):=if (6 ≤ p ∧ p ≤ 6) ∧ (bi (wdx ws 0)).2 = true then (jl (bi (wdx ws 0)).1 ws).map fun y => (6,{ M with fns:=qa M.fns y }) else none
section
variable {base R : Nat} {mp : Value} {m : MM} {ln pt : Int} {w : World}
theorem br (h : RQ base R mp m ln pt w) (f q : Int) (h1 : f ≤ pt) (h2 : pt ≤ q) :
  Calls Tryz.prog 168 #[.pointer (some ⟨R,0,none⟩),.int .i64 f,.int .i64 q] w fun e w' => e = .returned (.tuple #[]) ∧ w' = w.setCell ⟨R,10,none⟩ (.int .i64 q):=vS R f pt q w (h.cells 10) (h.free 10) h1 h2
theorem kX (h : RQ base R mp m ln pt w) (f q : Int) (hn : ¬ (f ≤ pt ∧ pt ≤ q)) :
  Calls Tryz.prog 168 #[.pointer (some ⟨R,0,none⟩),.int .i64 f,.int .i64 q] w fun e w' => e = thL ln ∧ w' = w:=Au R f pt q ln w (h.cells 9) (h.cells 10) hn
theorem pW (h : RQ base R mp m ln pt w) (f q : Int) (h1 : f ≤ pt) (h2 : pt < q) :
  Calls Tryz.prog 167 #[.pointer (some ⟨R,0,none⟩),.int .i64 f,.int .i64 q] w fun e w' => e = .returned (.tuple #[]) ∧ w' = w.setCell ⟨R,10,none⟩ (.int .i64 q):=Eg R f pt q w (h.cells 10) (h.free 10) h1 h2
theorem I5 (h : RQ base R mp m ln pt w) (f q : Int) (hn : ¬ (f ≤ pt ∧ pt < q)) :
  Calls Tryz.prog 167 #[.pointer (some ⟨R,0,none⟩),.int .i64 f,.int .i64 q] w fun e w' => e = thL ln ∧ w' = w:=Kr R f pt q ln w (h.cells 9) (h.cells 10) hn
theorem fq (h : RQ base R mp m ln pt w) : Calls Tryz.prog 120 #[.pointer (some ⟨R,0,none⟩),.bool false] w fun e w' => e = thL ln ∧ w' = w:=kH R ln w (h.cells 9)
end
theorem Wds.setR {w : World} {A n c R o base : Nat} {u : Value} {ws : List ByteArray} (h : Wds w A n c ws) (hA : base ≤ A) (hR : R < base) : Wds (w.setCell ⟨R,o,none⟩ u) A n c ws :=
 ⟨h.len,by have:=h.lt; simpa [World.setCell] using this,h.cap,fun j x hj => ((az w R o u).cell (S:=fun k => k = R) (h.at_ j x hj) (by show ¬ A = R; omega)),h.sz,h.few⟩
def LnP (base R : Nat) (mp : Value) (ln : Int) (w : World) (res : Option (Int × PM)) (e : Ending) (w' : World) : Prop :=
 KR base R w w' ∧ match res with
 | some (p,M) => e = .returned (.tuple #[]) ∧ ∃ m',RQ base R mp m' ln p w' ∧ pl m' = M
 | none => e = thL ln
theorem KL {base R A n c : Nat} {mp : Value} {m : MM} {ln pt : Int} {w : World} {ws : List ByteArray} (h : RQ base R mp m ln pt w) (hw : Wds w A n c ws) :
  Calls Tryz.prog 108 #[.pointer (some ⟨R,0,none⟩),.slice (some ⟨A,0,none⟩) n c] w (LnP base R mp ln w (iX pt (pl m) ws)):=by
 have hl:=hw.len
 by_cases h1 : 0 ≤ pt ∧ pt < 1
 ·have HO:=hid (pW h 0 1 h1.1 h1.2);have HR:=hid (h.part 1 ae)
  by_cases h2 : n = 1
  ·have e : iX pt (pl m) ws = some (1,pl m):=by unfold iX; rw [if_pos ⟨h1,ae⟩]
   rw [e];subst h2;clear hw hl h
   go_enter Tryz.func108,Tryz.ntmps108
   go_wp2_with fail;refine HO.out.mono ?_;rintro e w1 ⟨rfl,hw1⟩;have hw2:=hw1.symm;subst hw2;go_wp2_with fail;refine (aB R _).mono ?_;rintro e w2 ⟨rfl,hw1⟩;have hw2:=hw1.symm;subst hw2;go_wp2_with fail;go_end0;exact ⟨KR.set base R 10 w _,rfl,m,HR.out,rfl⟩
  ·have e : iX pt (pl m) ws = none:=by unfold iX; rw [if_neg (fun x => h2 ae)]
   rw [e];have hne : ((n : Int) == 1) = false:=aL;have HM:=hid (fq HR.out);clear hw hl h
   go_enter Tryz.func108,Tryz.ntmps108
   exact lu
 ·have e : iX pt (pl m) ws = none:=by unfold iX; rw [if_neg (fun x => h1 x.1)]
  rw [e];have HO:=hid (I5 h 0 1 h1);clear hw hl h
  go_enter Tryz.func108,Tryz.ntmps108
  exact gN
end Go.Proofs.YtheefojaplnnoaaGreatDoor

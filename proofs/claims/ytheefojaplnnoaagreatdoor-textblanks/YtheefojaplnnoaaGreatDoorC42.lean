/-
  Texts Hd Gf He.
-/
import Derived.Test.YtheefojaplnnoaaGreatDoorC00
import Derived.Test.YtheefojaplnnoaaGreatDoorC37
import Derived.Test.YtheefojaplnnoaaGreatDoorC38
import Derived.Test.YtheefojaplnnoaaGreatDoorC40
import Derived.Test.YtheefojaplnnoaaGreatDoorC41
import Derived.Test.YtheefojaplnnoaaGreatDoorCd
set_option linter.unusedVariables false
set_option maxRecDepth 100000
set_option maxHeartbeats 16000000
namespace Go.Proofs.YtheefojaplnnoaaGreatDoor
open Go.RowKit
def qG (ws : List (List UInt8)) : Nat:=(ws.map fun w => w.length + 1).sum
theorem kD (w : List UInt8) (ws : List (List UInt8)) : qG (w :: ws) = w.length + 1 + qG ws:=by simp [qG]
theorem j4 : ∀ (l : List UInt8) (st : Option (List UInt8)),qG (bR l st) ≤ l.length + 1 + (st.map (·.length)).getD 0
 | [],none => by simp [bR,qG]
 | [],some t => by simp [bR,qG]; omega
 | c :: l,none => by
  rw [bR]
  split
  ·have:=j4 l none
   simp only [Option.map_none,Option.getD_none,List.length_cons] at this ⊢
   omega
  ·have:=j4 l (some [c])
   simp only [Option.map_some,Option.map_none,Option.getD_some,Option.getD_none,List.length_cons,List.length_nil] at this ⊢
   omega
 | c :: l,some t => by
  rw [bR]
  split
  ·have:=j4 l none
   rw [kD]
   simp only [Option.map_some,Option.map_none,Option.getD_some,Option.getD_none,List.length_cons] at this ⊢
   omega
  ·have:=j4 l (some (t ++ [c]))
   simp only [Option.map_some,Option.getD_some,List.length_append,List.length_cons,List.length_nil] at this ⊢
   omega
theorem vT : ∀ (ws : List (List UInt8)),(∀ w ∈ ws,Wrd w) → 2 * ws.length ≤ qG ws
 | [],_ => by simp
 | w :: ws,h => by
  have h1:=vT ws (fun x hx => h x cP)
  have h2:=(h w ar).1
  have h3 : 1 ≤ w.length:=by
   cases w with
   | nil => exact absurd rfl h2
   | cons c w => simp
  rw [kD,List.length_cons];omega
theorem I4 (b : List UInt8) : ∀ (ws : List (List UInt8)),(fH b ws).length = qG ws + ws.length * b.length
 | [] => by simp [fH,qG]
 | w :: ws => by
  have:=I4 b ws
  rw [kD,List.length_cons,Nat.succ_mul]
  simp only [fH,List.length_cons,List.length_append]
  omega
theorem NG (b : List UInt8) (ws : List (List UInt8)) : (cA b ws).length ≤ qG ws + ws.length * b.length:=by
 cases ws with
 | nil => simp [cA]
 | cons w ws =>
  have:=I4 b ws
  rw [kD,List.length_cons,Nat.succ_mul]
  simp only [cA,List.length_append]
  omega
theorem Gq {l : List UInt8} (hl : ∀ c ∈ l,Pl8 c) (t : Nat) : 2 * (ma t l).length ≤ 44 + 5 * (l.length + 1):=by
 have hp:=kJ l none hl (fun t e => cJ)
 have h1:=j4 l none
 have h2:=vT (bR l none) (fun w hw => (hp w hw).1)
 have h3:=NG (bL (t / 4)) (bR l none);have h4:=ie t;have h5:=ie (t / 4);have h6:=ie (t / 16);have h7 : (bR l none).length * (bL (t / 4)).length ≤ (bR l none).length * 3:=Nat.mul_le_mul_left _ h5;have h8 : JA.length = 13:=rfl
 simp only [Option.map_none,Option.getD_none] at h1
 unfold ma jM mC;rw [List.flatMap_cons]
 split
 ·simp only [List.flatMap_cons,List.flatMap_nil,List.length_append,List.length_cons,List.length_nil]
  omega
 ·simp only [List.flatMap_nil,List.length_append,List.length_cons,List.length_nil]
  omega
def qI (ls : List ByteArray) : Nat:=(ls.map fun b => b.data.toList.length + 1).sum
theorem BQ (ts : List Int) : ∀ (ls : List ByteArray) (i : Nat),(∀ b ∈ ls,∀ c ∈ b.data.toList,Pl8 c) → 2 * (gz ts i ls).length ≤ 44 * ls.length + 5 * qI ls
 | [],i,_ => by simp [gz,qI]
 | b :: r,i,h => by
  have h1:=Gq (h b ar) (mD ts i)
  have h2:=BQ ts r (i + 1) (fun x hx => h x cP)
  have h3 : qI (b :: r) = b.data.toList.length + 1 + qI r:=by simp [qI]
  rw [gz,List.length_append,List.length_cons,h3];omega
theorem C6 (ls : List ByteArray) : qI ls = (ls.flatMap fun b => b.data.toList ++ [10]).length:=by
 unfold qI;rw [List.length_flatMap]
 congr 1
 exact List.map_congr_left (fun b _ => ar)
theorem zO : ∀ (l : List Int),(∀ z ∈ l,I64 z) → ((l.map aQ).map (·.size)).sum ≤ 21 * l.length
 | [],_ => by simp
 | z :: l,h => by
  have h1:=zO l (fun x hx => h x cP)
  have h2:=h z ar;have h3:=cQ z h2.1 h2.2
  simp only [List.map_cons,List.sum_cons,List.length_cons]
  omega
theorem Hn (y : InM) (h : InC y) : (mW y).length ≤ 40 + 22 * y.2.2.2.length:=by
 obtain ⟨h0,h1,hx,hl,ha⟩:=h;obtain ⟨k1,k2,k3,k4,k5⟩:=kg hx;have hw:=Kf y.1 h0 h1;unfold mW dZ;rw [bS,jN,H6 k1]
 by_cases t0 : tkV y.1 = 0
 ·rw [if_pos t0]
  simp only [List.map_nil,List.sum_nil,List.length_nil]
  omega
 ·rw [if_neg t0]
  by_cases t3 : tkV y.1 = 3
  ·have h2:=zO y.2.2.2 hl;rw [if_pos t3,List.length_map];omega
  ·have h3:=cQ y.2.1 ha.1 ha.2;rw [if_neg t3];exact Bt
def sU (xs : List InM) : Nat:=(xs.map fun y => y.2.2.2.length).sum
theorem qQ : ∀ (xs : List InM),(∀ y ∈ xs,InC y) → (xs.flatMap mW).length ≤ 40 * xs.length + 22 * sU xs
 | [],_ => by simp
 | y :: xs,h => by
  have h1:=Hn y (h y ar)
  have h2:=qQ xs (fun z hz => h z (by simp [hz]))
  have h3 : sU (y :: xs) = y.2.2.2.length + sU xs:=by simp [sU]
  rw [List.flatMap_cons,List.length_append,List.length_cons,h3];omega
theorem Ho : ∀ (xs : List InM) (z : Nat),(∀ y ∈ xs,y.2.2.2.length = y.2.2.1.2.1) → szG xs z ≤ 131072 → szG xs z = z + sU xs
 | [],z,_,h => by simp [szG,sU]
 | y :: r,z,he,h => by
  have h3 : sU (y :: r) = y.2.2.2.length + sU r:=by simp [sU]
  by_cases hz : z ≤ 2147483647
  ·rw [sj hz] at h ⊢
   rw [Ho r _ (fun x hx => he x cP) h,h3,he y ar]
   omega
  ·rw [sY hz] at h;omega
def FnZ (x : FuM) : Prop:=M0 x ∧ x.2.1.size ≤ 64 ∧ x.2.2.2.length = x.2.2.1.2.1 ∧ ∀ y ∈ x.2.2.2,y.2.2.2.length = y.2.2.1.2.1
theorem uU : ∀ (xs : List FuM),(∀ x ∈ xs,FnZ x) → eG xs ≤ 131072 → (xs.flatMap fuL).length ≤ 100 * xs.length + 40 * eG xs ∧ (xs.flatMap nH).length ≤ xs.length + eG xs
 | [],_,_ => by simp [eG]
 | x :: xs,h,hs => by
  have e : eG (x :: xs) = x.2.1.size + szG x.2.2.2 x.2.2.1.2.1 + eG xs:=by simp [eG]
  obtain ⟨a1,a2,a3,a4⟩:=h x ar
  obtain ⟨h2,h3⟩:=uU xs (fun z hz => h z (by simp [hz])) ae
  have h4:=Ho x.2.2.2 x.2.2.1.2.1 a4 ae;have h5:=qQ x.2.2.2 a1.2.2;have h6:=cQ x.1 a1.1.1 a1.1.2
  have h7 : (ia x.2.1).size ≤ 65:=by unfold ia; split <;> first | decide | omega
  have h8 : (fuL x).length ≤ 100 + 40 * szG x.2.2.2 x.2.2.1.2.1:=by
   unfold fuL fnL;rw [List.length_append,bS]
   simp only [List.map_cons,List.map_nil,List.sum_cons,List.sum_nil,List.length_cons,List.length_nil]
   have : dO.size = 4:=rfl;omega
  have h9 : (nH x).length = 1 + x.2.2.2.length:=by
   unfold nH;rw [List.length_cons,List.length_map];omega
  rw [List.flatMap_cons,List.flatMap_cons,List.length_append,List.length_append,List.length_cons,e,h9];omega
theorem wG : ∀ (xs : List DaM),(∀ x ∈ xs,I64 x.1 ∧ x.2.2.length = x.2.1.2.1) → (xs.flatMap daL).length ≤ 100 * xs.length + 2 * iJ xs
 | [],_ => by simp [iJ]
 | x :: xs,h => by
  have h2:=wG xs (fun z hz => h z (by simp [hz]))
  obtain ⟨a1,a2⟩:=h x ar;have h3:=cQ x.1 a1.1 a1.2
  have e : iJ (x :: xs) = x.2.1.2.1 + iJ xs:=by simp [iJ]
  have h1 : (daL x).length ≤ 100 + 2 * x.2.2.length:=by
   unfold daL;rw [bS];have h5 : gK.size = 4:=rfl
   have h4 : (⟨(eX x.2.2).toArray⟩ : ByteArray).size = 2 * x.2.2.length:=by
    have:=qj x.2.2
    simpa [ByteArray.size] using this
   simp only [List.map_cons,List.map_nil,List.sum_cons,List.sum_nil,List.length_cons,List.length_nil,h4]
   omega
  rw [List.flatMap_cons,List.length_append,List.length_cons,e];omega
theorem rA {w : World} {R g : Nat} {m : MM} (hM : MOk w R g m) (h0 : cS m = 0) (hi : wL m) (hs : m.tn + m.hn + m.gn + m.fn + m.dn + m.en + (mP m.types + eG m.fns + iJ m.data + jG m.exps) ≤ 4096) : (fe m).length ≤ 300000 ∧ (gu m).length ≤ 5000:=by
 have hp:=nv h0;have hc:=xx hM hp hi
 have hf:=uU m.fns (fun x hx => by
  obtain ⟨j,hj⟩:=cd hx
  refine ⟨hc.fn x hx,(hp.fn j x hj).2.2.1,(hM.fr j x hj).2.1.1,fun y hy => ?_⟩
  obtain ⟨i,hy⟩:=cd hy;exact ((hM.fr j x hj).2.2.2 i y hy).2.2.1.1) ae
 have hd:=wG m.data (fun x hx => ⟨(hc.da x hx).1,by obtain ⟨j,hj⟩:=cd hx; exact (hM.dr j x hj).2.1.1⟩)
 have b1:=eP js 200 m.types (fun x hx => by
  obtain ⟨j,hj⟩:=cd hx
  have:=hp.ty j x hj
  have h2:=AV this.1 this.2.2.1;unfold js;rw [bS]
  simp only [List.map_cons,List.map_nil,List.sum_cons,List.sum_nil,List.length_cons,List.length_nil]
  have : eJ.size = 4:=rfl
  omega)
 have b2:=eP fk 200 m.hosts (fun x hx => by
  have:=hc.ho x hx
  have h2:=cQ x this.1 this.2;unfold fk;rw [bS]
  simp only [List.map_cons,List.map_nil,List.sum_cons,List.sum_nil,List.length_cons,List.length_nil]
  have : dI.size = 6:=rfl
  omega)
 have b3:=eP glL 200 m.globals (fun x hx => by
  have h2:=cQ (gS x.1 x.2.2) (by unfold gS; split <;> (first | unfold wrap32 | unfold wrap64) <;> omega) (by unfold gS; split <;> (first | unfold wrap32 | unfold wrap64) <;> omega)
  unfold glL;rw [bS]
  simp only [List.map_cons,List.map_nil,List.sum_cons,List.sum_nil,List.length_cons,List.length_nil]
  have h3 : cX.size = 6:=rfl;have h4 : (⟨#[UInt8.ofNat x.1.toNat]⟩ : ByteArray).size = 1:=rfl
  have h5 : (ig x.2.1).size ≤ 5:=by cases x.2.1 <;> decide
  omega)
 have b4 : (lR m.fi m.mo).length ≤ 200:=by
  have h1:=cQ m.fi hc.fi.1 hc.fi.2;have h2:=cQ m.mo hc.mo.1 hc.mo.2;exact Hy
 have b7:=eP exL 200 m.exps (fun x hx => by
  obtain ⟨j,hj⟩:=cd hx;have h1:=hp.ex j x hj;have h0:=hc.ex x hx;have h2:=cQ x.2 h0.1.1 h0.1.2;unfold exL;rw [bS]
  simp only [List.map_cons,List.map_nil,List.sum_cons,List.sum_nil,List.length_cons,List.length_nil]
  have : dv.size = 6:=rfl
  omega)
 have e : (fe m).length = 7 + ((m.types.flatMap js).length + ((m.hosts.flatMap fk).length + ((m.globals.flatMap glL).length + ((lR m.fi m.mo).length + ((m.fns.flatMap fuL).length + ((m.data.flatMap daL).length + (m.exps.flatMap exL).length)))))):=by
  exact oV
 have n1:=hp.nt;have n2:=hp.nh;have n3:=hp.ng;have n4:=hp.nf;have n5:=hp.nd;have n6:=hp.ne
 have e2 : (gu m).length = 1 + (m.types.length + (m.hosts.length + (m.globals.length + (1 + ((m.fns.flatMap nH).length + (m.data.length + m.exps.length)))))):=by
  simp only [gu,List.length_append,List.length_map]; rfl
 omega
theorem A4 {w : World} {R g : Nat} {m : MM} (hM : MOk w R g m) (h0 : cS m = 0) (hi : wL m) (hs : m.tn + m.hn + m.gn + m.fn + m.dn + m.en + (mP m.types + eG m.fns + iJ m.data + jG m.exps) ≤ 4096) (ts : List Int) : (gz ts 0 (aI ⟨(fe m).toArray⟩)).length ≤ 1048576:=by
 have hc:=xx hM (nv h0) hi;obtain ⟨a1,a2⟩:=rA hM h0 hi hs;have h1:=BQ ts _ 0 (Bg m hc);rw [qm m hc] at h1 ⊢
 have h2 : qI (gu m ++ [⟨#[]⟩]) = qI (gu m) + 1:=by
  unfold qI;rw [List.map_append,List.sum_append];rfl
 rw [h2,C6,← rI,List.length_append,List.length_singleton] at h1;omega
structure MRd (w : World) (m : MM) : Prop where
 c : cS m = 0
 k : ∀ R g,w.heap.size ≤ R → w.heap.size ≤ g → MOk w R g m
 s : MSr w m
 i : wL m
theorem MRd.later {w W : World} {m : MM} (h : MRd w m) (hb : Below w.heap.size w W) : MRd W m :=
 ⟨h.c,fun R g h1 h2 => (h.k R g (Nat.le_trans hb.size h1) (Nat.le_trans hb.size h2)).later hb,h.s.later hb,h.i⟩
theorem Jh {m : MM} (h : PR (pl m)) : wL m:=by
 intro j x hj i y hi
 have h1:=(h.fr (plF x) (by unfold pl; exact List.mem_map.2 ⟨x,List.mem_of_getElem? hj,rfl⟩)).2 (plI y) (by unfold plF; exact List.mem_map.2 ⟨y,List.mem_of_getElem? hi,rfl⟩)
 exact h1.2.2.1
theorem Oq {base R : Nat} {mp : Value} {m : MM} {ln pt : Int} {w : World} (hq : RQ base R mp m ln pt w) (hp : PR (pl m)) (hc : cS m = 0) : MRd w m :=
 ⟨hc,fun R g h1 h2 => hq.mok hp R g h1 h2,(hq.mok hp _ _ (Nat.le_refl _) (Nat.le_refl _)).sr (nv hc),Jh hp⟩
def tN (w : World) (a : Option Addr) (n c : Nat) (xs : List ByteArray) : Prop :=
 xs.length = n ∧ n ≤ c ∧ (n = 0 ∨ ∃ g cs,a = some ⟨g,0,none⟩ ∧ w.heap[g]? = some (.cells cs 9) ∧ ∀ (j : Nat) x,xs[j]? = some x → cs[j]? = some (.string x))
theorem yh {w : World} {base : Nat} {v : Value} {xs : List ByteArray} (h : St8 w base v xs) : ∃ a c,v = .slice a xs.length c ∧ tN w a xs.length c xs:=by
 rcases h.2 with ⟨hv,hz⟩ | ⟨g,cap,cur,hv,hb,hg,hnc,hcm,hcs,htk⟩
 ·exact ⟨none,0,by rw [hv,hz],rfl,ae,.inl hz⟩
 ·refine ⟨_,cap,hv,rfl,ae,.inr ⟨g,_,rfl,hg,fun j x hj => ?_⟩⟩
  have hx : j < xs.length:=by
   rcases Nat.lt_or_ge j xs.length with h1 | h1
   ·exact h1
   ·rw [List.getElem?_eq_none h1] at hj; cases hj
  have h1 : (List.take (xs.length * 1) cur.toList)[j]? = (xs.map Value.string)[j]?:=by rw [htk]
  rw [List.getElem?_take_of_lt ae,List.getElem?_map,hj] at h1
  simpa using h1
theorem tN.later {w w' : World} {a : Option Addr} {n c : Nat} {xs : List ByteArray} (h : tN w a n c xs) (hb : Below w.heap.size w w') : tN w' a n c xs :=
 ⟨h.1,h.2.1,h.2.2.imp id (fun ⟨g,cs,h1,h2,h3⟩ => ⟨g,cs,h1,ak hb h2,h3⟩)⟩
theorem tN.app {w w' : World} {a : Option Addr} {n c base : Nat} {xs : List ByteArray} {v : Value} {P : List UInt8} (h : tN w a n c xs) (hy : By8 w base v P) (hk : aP (fun k => some k = v.ownBlock) w w') : tN w' a n c xs :=
 ⟨h.1,h.2.1,h.2.2.imp id (fun ⟨g,cs,h1,h2,h3⟩ => ⟨g,cs,h1,blk8 h2 aq hy hk,h3⟩)⟩
theorem FT (w : World) {ops : Array Oper} {rest : List Oper} {o : Oper} {a : Act} {Q : Exit → Act → World → Prop} (hgd : o.guard = none) (sl x : Operand) (ho : o.op = Op.call { callee:=Callee.builtin Builtin.append,args:=#[sl,x],argTypes:=#[63,63] }) (base : Nat) (v : Value) (P : List UInt8) (c : UInt8) (b : Nat)
  (hs : a.eval sl = v) (hx : a.eval x = .slice (some ⟨b,0,none⟩) 1 1) (hc : w.cell? ⟨b,0,none⟩ = some (.int .u8 c.toNat)) (hown : By8 w base v P) (hb : P.length + 1 ≤ 1099511627776) (hbase : base ≤ w.heap.size)
  (h : ∀ (v' : Value) (w' : World),By8 w' base v' (P ++ [c]) → Below base w w' → aP (fun k => some k = v.ownBlock) w w' → wpList Tryz.prog ops Q rest (a.put o.dst v') w') : wpList Tryz.prog ops Q (o :: rest) a w:=by
 refine Hq w hgd sl x ho base v _ hs (by8_byt hown) (some ⟨b,0,none⟩) 1 [(c.toNat : Int)] hx (MI hc ae (by have:=UInt8.toNat_lt c; omega)) (fun e => cJ) (by rw [List.length_map]; exact hb) hbase ?_
 intro v' w' h1 h2 h3;refine h v' w' (byt_by8 ?_) h2 h3;rw [List.map_append];exact h1
theorem Ij {w : World} {b : Nat} (h : w.heap[b]? = some (.cells #[.string ⟨#[]⟩,.string ⟨#[32]⟩,.string ⟨#[9]⟩,.string ⟨#[13,32,9]⟩] 9)) (n : Nat) : w.cell? ⟨b,n % 4,none⟩ = some (.string (ba (bL n))):=by
 rw [aj h];unfold bL;have h1 : n % 4 = 0 ∨ n % 4 = 1 ∨ n % 4 = 2 ∨ n % 4 = 3:=ae
 rcases h1 with h1 | h1 | h1 | h1 <;> rw [h1] <;> rfl
theorem Cl (b : List UInt8) : ∀ (ws : List (List UInt8)) (w : List UInt8),fH b (ws ++ [w]) = fH b ws ++ (32 :: (b ++ w))
 | [],w => by simp [fH]
 | x :: ws,w => by simp [fH,Cl b ws w]
theorem zZ (b : List UInt8) (ws : List (List UInt8)) {j : Nat} {w : List UInt8} (h : ws[j]? = some w) (hj : j ≠ 0) : cA b (ws.take (j + 1)) = cA b (ws.take j) ++ (32 :: (b ++ w)):=by
 rw [cu h]
 cases ws with
 | nil => simp at h
 | cons x r =>
  cases j with
  | zero => exact absurd rfl hj
  | succ j => simp [cA,Cl]
theorem xo (b : List UInt8) (ws : List (List UInt8)) {w : List UInt8} (h : ws[0]? = some w) : cA b (ws.take 1) = w:=by
 cases ws with
 | nil => simp at h
 | cons x r =>
  simp only [List.getElem?_cons_zero,Option.some.injEq] at h
  subst h
  simp [cA,fH]
theorem Aq (b : List UInt8) : ∀ (ws : List (List UInt8)) (j : Nat),(fH b (ws.take j)).length ≤ (fH b ws).length
 | [],j => by simp [fH]
 | x :: ws,0 => by simp [fH]
 | x :: ws,j + 1 => by
  have:=Aq b ws j
  simp only [List.take_succ_cons,fH,List.length_cons,List.length_append]
  omega
theorem Cg (b : List UInt8) (ws : List (List UInt8)) (j : Nat) : (cA b (ws.take j)).length ≤ (cA b ws).length:=by
 cases ws with
 | nil => simp [cA]
 | cons x r =>
  cases j with
  | zero => simp [cA]
  | succ j =>
   have:=Aq b r j
   simp only [List.take_succ_cons,cA,List.length_append]
   omega
theorem oM (t : Nat) (l : List UInt8) : ma t l = (((bL t ++ cA (bL (t / 4)) (bR l none)) ++ bL (t / 16)) ++ [10]) ++ (if 192 ≤ t then [32,59,32,101,120,116,101,114,110,32,57,32,119,10,10] else []):=by
 unfold ma jM mC;rw [List.flatMap_cons]
 split
 ·simp only [List.flatMap_cons,List.flatMap_nil,List.append_assoc,JA]
  rfl
 ·simp only [List.flatMap_nil,List.append_nil,List.append_assoc]
theorem EY (ts : List Int) (ls : List ByteArray) {t : Nat} {x : ByteArray} (h : ls[t]? = some x) : (gz ts 0 (ls.take t)).length + (ma (mD ts t) x.data.toList).length ≤ (gz ts 0 ls).length:=by
 rw [← List.length_append,← vM ts ls h]
 conv => rhs; rw [← List.take_append_drop (t + 1) ls,tF,List.length_append]
 omega
theorem Dm {w0 w w' : World} {m : MM} {e : Ending} (ts : List Int) (hm : MRd w0 m) (hs : m.tn + m.hn + m.gn + m.fn + m.dn + m.en + (mP m.types + eG m.fns + iJ m.data + jG m.exps) ≤ 4096) (h : qM (ba (gz ts 0 (aI ⟨(fe m).toArray⟩))) w e w') : ∃ y,pl y = pl m ∧ MRd w' y ∧ e = rt3 (mV y) 0 0 ∧ Below w.heap.size w w':=by
 have hM:=hm.k _ _ (Nat.le_refl _) (Nat.le_refl _);obtain ⟨hb,-,h2⟩:=h;obtain ⟨ln,p,hl,hp⟩:=Ii m (xx hM (nv hm.c) hm.i) ts;have hz : (ba (gz ts 0 (aI ⟨(fe m).toArray⟩))).size ≤ 1048576:=A4 hM hm.c hm.i hs ts;obtain ⟨y,hpl,hlen,hpr,-,h5⟩:=((h2 hz _ _ hl).2 _ _ rfl).2 hp;have hc : cS y = 0:=(Fp hlen hM.len hpl).trans hm.c;obtain ⟨he,base,R,mp,l2,hR,hq⟩:=h5 hc
 exact ⟨y,hpl,Oq hq (by rw [hpl]; exact hpr) hc,he,hb⟩
def CQ (w : World) (a : Option Addr) (n : Nat) (l : List Int) : Prop :=
 l.length = n ∧ n ≤ 140737488355328 ∧ (∀ z ∈ l,0 ≤ z ∧ z ≤ 255) ∧ (n = 0 ∨ ∃ b off,a = some ⟨b,off,none⟩ ∧ ∀ j,j < n → w.cell? ⟨b,off + j,none⟩ = some (.int .u8 (l.getD j 0)))
theorem CQ.later {w w' : World} {a : Option Addr} {n : Nat} {l : List Int} (h : CQ w a n l) (hb : Below w.heap.size w w') : CQ w' a n l :=
 ⟨h.1,h.2.1,h.2.2.1,h.2.2.2.imp id (fun ⟨b,off,e,hc⟩ => ⟨b,off,e,fun j hj => aw hb (hc j hj)⟩)⟩
theorem dV.segT {W : World} {a : Option Addr} {n cap : Nat} {xs : List Int} (h : dV W 1 (fun (z : Int) => [Value.int .u8 z]) a n cap xs) (hr : ∀ (j : Nat) a,xs[j]? = some a → 0 ≤ a ∧ a ≤ 255) (hn : n ≤ 140737488355328) : CQ W a n xs:=by
 refine ⟨h.len,hn,fun z hz => ?_,h.at_.imp id fun ⟨b,off,e,hc⟩ => ⟨b,off,e,fun j hj => ?_⟩⟩
 ·obtain ⟨j,hj⟩:=List.getElem?_of_mem hz;exact hr j z hj
 ·have hj' : j < xs.length:=by rw [h.len]; exact hj
  have h1:=hc j xs[j] (aD hj') 0 _ rfl;rw [Nat.mul_one,Nat.add_zero] at h1;rw [h1,List.getD_eq_getElem?_getD,aD hj'];rfl
end Go.Proofs.YtheefojaplnnoaaGreatDoor

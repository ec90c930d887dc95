/-
  Texts Vii Ma Xv Mb.
-/
import Derived.Below
import Derived.BigQuiet
import Derived.ChangeArms
import Derived.ChangeOld
import Derived.Deep.DeepHandedRow
import Derived.Deep.QuietTactic
import Derived.Deep.Strs
import Derived.LaidMore
import Derived.Lay
import Derived.OpenShut
import Derived.ProofKit
import Derived.ShutString
import Derived.SizedLaws
import Derived.Test.YtheefojaplnnoaaGreatDoorP00
import Derived.Test.YtheefojaplnnoaaGreatDoorP03
import Derived.Test.YtheefojaplnnoaaGreatDoorP04
import Derived.Test.YtheefojaplnnoaaGreatDoorP19
set_option linter.unusedVariables false
set_option maxRecDepth 100000
set_option maxHeartbeats 16000000
namespace Go.Proofs.YtheefojaplnnoaaGreatDoor
open Go.RowKit
theorem zf (a : Option Addr) (cap : Nat) (w : World) : Calls Tryz.prog 24 #[.slice a 0 cap] w fun e w' => e = .returned (.int .i64 0) ∧ w' = w:=by
 go_enter Tryz.func24,Tryz.ntmps24
 go_wp2_with fail;refine wp_loop_rounds 1 ?_;rw [rounds_succ];exact mP
def szG : List InM → Nat → Nat
 | [],z => z
 | x :: r,z => if z ≤ 2147483647 then szG r (z + x.2.2.1.2.1) else z
theorem zN {x : InM} {r : List InM} {z : Nat} (h : z ≤ 2147483647) : szG (x :: r) z = szG r (z + x.2.2.1.2.1):=by simp [szG,h]
theorem Al {x : InM} {r : List InM} {z : Nat} (h : ¬ z ≤ 2147483647) : szG (x :: r) z = z:=by simp [szG,h]
def nU (l : List DaM) : Nat:=(l.map fun x => x.2.1.2.1).sum
theorem cJ {α : Type} {l : List α} {k : Nat} {x : α} (h : l[k]? = some x) : l.take (k + 1) = l.take k ++ [x]:=by
 have hk:=(List.getElem?_eq_some_iff.1 h).1;rw [List.take_succ_eq_append_getElem hk];rw [aN hk] at h;rw [Option.some.inj h]
theorem DD {l : List DaM} {k : Nat} {x : DaM} (h : l[k]? = some x) : nU (l.take (k + 1)) = nU (l.take k) + x.2.1.2.1:=by
 rw [cJ h]; simp [nU]
theorem Hh {l : List DaM} {n : Nat} (h : l.length = n) : nU (l.take n) = nU l:=tF
def pX (l : List Sg) : Nat:=(l.map fun x => x.1.size + x.2.size).sum
def jP (l : List FuM) : Nat:=(l.map fun x => x.2.1.size + szG x.2.2.2 x.2.2.1.2.1).sum
def lH (l : List Ex) : Nat:=(l.map fun x => x.1.size).sum
theorem DG {l : List Sg} {k : Nat} {x : Sg} (h : l[k]? = some x) : pX (l.take (k + 1)) = pX (l.take k) + (x.1.size + x.2.size):=by
 rw [cJ h]; simp [pX]
theorem xI {l : List FuM} {k : Nat} {x : FuM} (h : l[k]? = some x) : jP (l.take (k + 1)) = jP (l.take k) + (x.2.1.size + szG x.2.2.2 x.2.2.1.2.1):=by
 rw [cJ h]; simp [jP]
theorem CW {l : List Ex} {k : Nat} {x : Ex} (h : l[k]? = some x) : lH (l.take (k + 1)) = lH (l.take k) + x.1.size:=by
 rw [cJ h]; simp [lH]
theorem FY {l : List Sg} {n : Nat} (h : l.length = n) : pX (l.take n) = pX l:=tF
theorem D4 {l : List FuM} {n : Nat} (h : l.length = n) : jP (l.take n) = jP l:=tF
theorem Ey {l : List Ex} {n : Nat} (h : l.length = n) : lH (l.take n) = lH l:=tF
theorem Ac : ∀ (xs : List InM) (z : Nat),(∀ (j : Nat) x,xs[j]? = some x → x.2.2.1.2.1 ≤ 140737488355328) → z ≤ 281474976710656 → szG xs z ≤ 281474976710656
 | [],z,_,hz => hz
 | x :: r,z,hl,hz => by
  unfold szG
  split
  ·refine Ac r _ (fun j y hj => hl (j + 1) y nC) ?_
   have:=hl 0 x rfl
   omega
  ·exact hz
structure SzC (w : World) (m : MM) : Prop where
 tn : m.tn ≤ 140737488355328
 hn : m.hn ≤ 140737488355328
 gn : m.gn ≤ 140737488355328
 fn : m.fn ≤ 140737488355328
 dn : m.dn ≤ 140737488355328
 en : m.en ≤ 140737488355328
 t : ∀ (j : Nat) x,m.types[j]? = some x → x.1.size ≤ 140737488355328 ∧ x.2.size ≤ 140737488355328
 f : ∀ (j : Nat) x,m.fns[j]? = some x → x.2.1.size ≤ 140737488355328 ∧ x.2.2.1.2.1 ≤ 140737488355328 ∧ fO w x.2.2.1.1 x.2.2.1.2.1 x.2.2.2 ∧ ∀ (i : Nat) y,x.2.2.2[i]? = some y → y.2.2.1.2.1 ≤ 140737488355328
 d : ∀ (j : Nat) x,m.data[j]? = some x → x.2.1.2.1 ≤ 140737488355328
 e : ∀ (j : Nat) x,m.exps[j]? = some x → x.1.size ≤ 140737488355328
theorem xV (b off cn cap : Nat) (xs : List InM) (w : World) (hn : cn ≤ 140737488355328) (hx : xs.length = cn)
  (hc : ∀ (j : Nat) x,xs[j]? = some x → w.cell? ⟨b,off + j * 3 + 2,none⟩ = some (.slice x.2.2.1.1 x.2.2.1.2.1 x.2.2.1.2.2)) (hl : ∀ (j : Nat) x,xs[j]? = some x → x.2.2.1.2.1 ≤ 140737488355328) :
  Calls Tryz.prog 24 #[.slice (some ⟨b,off,none⟩) cn cap] w fun e w' => e = .returned (.int .i64 (szG xs cn : Nat)) ∧ ∃ q,w' = w.drewN q:=by
 have HC:=hid hc;have HL:=hid hl;clear hc hl
 go_enter Tryz.func24,Tryz.ntmps24
 go_wp2_with fail
 go_loopw [3,4] (fun s i wr => ∃ k z : Nat,k ≤ cn ∧ s = .int .i64 (z : Nat) ∧ i = .int .i64 k ∧ (∃ m,wr = w.drewN m) ∧ z ≤ 281474976710656 ∧ szG (xs.drop k) z = szG xs cn) (fun _ i _ => cn - (intOf i).toNat)
 case atStart => exact ⟨0,cn,ae,rfl,rfl,⟨0,rfl⟩,ae,rfl⟩
 case round =>
  obtain ⟨k,z,hk,rfl,rfl,⟨m,rfl⟩,hsz,hG⟩:=hrel;have HG:=hid hG;clear hG
  by_cases hlt : k < cn
  ·obtain ⟨x,hxk⟩ : ∃ x,xs[k]? = some x:=⟨_,aN ae⟩
   have hdr : xs.drop k = x :: xs.drop (k + 1):=by
    have hlk : k < xs.length:=ae;rw [List.drop_eq_getElem_cons hlk]
    have:=aN hlk
    rw [hxk] at this;rw [Option.some.inj this]
   have HD:=hid hdr;clear hdr
   by_cases hbd : z ≤ 2147483647
   ·have g:=HC.out k x hxk;have hln:=HL.out k x hxk;have hlt' : (k : Int) < (cn : Int):=ae;have hbd' : (z : Int) ≤ 2147483647:=ae;go_wp2_with fail;refine ⟨⟨k + 1,z + x.2.2.1.2.1,ae,bB,bB,⟨m,rfl⟩,ae,?_⟩,bD⟩;have h:=HG.out;rw [HD.out,zN hbd] at h;exact h
   ·have hlt' : (k : Int) < (cn : Int):=ae;have hbd' : ¬ (z : Int) ≤ 2147483647:=ae;go_wp2_with fail;go_ret;have h:=HG.out;rw [HD.out,Al hbd] at h
    exact ⟨by rw [← h]; rfl,m,rfl⟩
  ·obtain rfl : k = cn:=ae;go_wp2_with fail;go_ret;have h:=HG.out;rw [List.drop_eq_nil_of_le ae] at h
   exact ⟨by rw [← h]; rfl,m,rfl⟩
theorem JO (a : Option Addr) (cn cap : Nat) (xs : List InM) (w : World) (hn : cn ≤ 140737488355328) (hc : fO w a cn xs) (hl : ∀ (j : Nat) x,xs[j]? = some x → x.2.2.1.2.1 ≤ 140737488355328) :
  Calls Tryz.prog 24 #[.slice a cn cap] w fun e w' => e = .returned (.int .i64 (szG xs cn : Nat)) ∧ ∃ q,w' = w.drewN q:=by
 by_cases h0 : cn = 0
 ·subst h0;have : xs = []:=List.length_eq_zero_iff.1 hc.1;subst this
  exact (zf a cap w).mono fun e w' ⟨he,hw⟩ => ⟨he,0,hw⟩
 ·rcases hc.2 with h | ⟨b,off,rfl,hcd⟩
  ·exact absurd h h0
  ·exact xV b off cn cap xs w hn hc.1 (fun j x hj => (hcd j x hj).2.2) hl
open Go.ChangeShapes Go.WideShapes Go.ChangeAt Go.RowKit
theorem vG {α : Type} {P : Nat → α → Prop} : ∀ (n : Nat),(∀ j,j < n → ∃ x,P j x) → ∃ xs : List α,xs.length = n ∧ ∀ j x,xs[j]? = some x → P j x
 | 0,_ => ⟨[],rfl,fun j x h => fw⟩
 | n + 1,h => by
  obtain ⟨xs,hl,hx⟩:=vG n (fun j hj => h j ae)
  obtain ⟨y,hy⟩:=h n ae
  refine ⟨xs ++ [y],by simp [hl],fun j x hj => ?_⟩
  by_cases hjn : j < xs.length
  ·rw [List.getElem?_append_left hjn] at hj;exact hx j x hj
  ·rw [List.getElem?_append_right ae] at hj
   have hj0 : j - xs.length = 0:=by
    rcases Nat.eq_zero_or_pos (j - xs.length) with h | h
    ·exact h
    ·rw [List.getElem?_eq_none aG] at hj; cases hj
   rw [hj0] at hj
   simp at hj
   subst hj;obtain rfl : j = n:=ae;exact hy
theorem jT {H : Type} {P : Program} {e : TypeId} : ∀ {l : List (DataW H)} {d : DataW H},d ∈ l → ∀ n ∈ d.weights P e,n ∈ DataW.weightsAll P e l
 | x :: r,d,h,n,hn => by
  simp only [DataW.weightsAll,List.mem_append]
  rcases List.mem_cons.1 h with rfl | h
  ·exact .inl hn
  ·exact .inr (jT h n hn)
theorem aT {H : Type} {P : Program} {t u : TypeId} {fs : Array Field} {ys : List (DataW H × List MemPlace)} {y : DataW H × List MemPlace} {j : Nat} (ht : P.underlying t = some (.struct fs)) (hj : (fs.toList.map (·.type))[j]? = some u) (hy : ys[j]? = some y) {r : Nat} (hw : ∀ n ∈ (DataW.agg (ys.map (·.1))).weights P t,n ≤ r) : ∀ n ∈ y.1.weights P u,n ≤ r:=by
 intro n hn;refine hw n ?_
 simp only [DataW.weights,ht]
 exact DataW.weights_mem_each hj (by rw [List.getElem?_map,hy]; rfl) n hn
structure eU {α : Type} (W : World) (c : Nat) (F : α → List Value) (a : Option Addr) (n cap : Nat) (xs : List α) : Prop where
 cap_ : n ≤ cap
 big : n ≤ 140737488355328
 len : xs.length = n
 lt : ∀ b off s,nz n a = some ⟨b,off,s⟩ → b < W.heap.size
 at_ : n = 0 ∨ ∃ b off,a = some ⟨b,off,none⟩ ∧ ∀ j x,xs[j]? = some x → ∀ i v,(F x)[i]? = some v → W.cell? ⟨b,off + j * c + i,none⟩ = some v
section
variable {H : Type} {enc : TypeId × Value → H} {W : World}
theorem dQ {α : Type} {t e : TypeId} {c B : Nat} (F : α → List Value) (G : α → Prop) (ht : Tryz.prog.underlying t = some (.slice e)) (hc : Tryz.prog.cellsOf e = c) (h1 : 1 ≤ c) (hB : Tryz.prog.bytesOf e = B) (hB1 : 1 ≤ B)
  (hel : ∀ fuel ys y,DataW.trod enc Tryz.prog W 0 (fun _ => true) true fuel e ys = some y → (∀ n ∈ y.1.weights Tryz.prog e,n ≤ reachBytes) → ∃ a : α,ys = F a ∧ G a)
  {fuel : Nat} {cs : List Value} {x : DataW H × List MemPlace} (h : DataW.trod enc Tryz.prog W 0 (fun _ => true) true fuel t cs = some x) (hw : ∀ n ∈ x.1.weights Tryz.prog t,n ≤ reachBytes) :
  ∃ (a : Option Addr) (n cap : Nat) (xs : List α),cs = [.slice a n cap] ∧ eU W c F a n cap xs ∧ ∀ (j : Nat) x,xs[j]? = some x → G x:=by
 rcases DataW.trod_slice ht h with ⟨hcs,_⟩ | ⟨x,len,cap,elems,rest,n,_,hcs,hx,hb,hl,hm,hlen,hem,hsp,hns⟩
 ·exact ⟨none,0,0,[],hcs,⟨Nat.le_refl _,ae,rfl,fun b off s h => by simp [nz] at h,.inl rfl⟩,fun j x hj => by simp at hj⟩
 ·have hd:=congrArg Prod.fst hx
  simp only at hd
  rw [hd] at hw
  have hbound : len ≤ 140737488355328:=by
   have h2:=hw ((elems.length + rest.length) * B) (by simp [DataW.weights,ht,hB])
   simp only [reachBytes] at h2
   have h3 : (elems.length + rest.length) * 1 ≤ (elems.length + rest.length) * B:=Nat.mul_le_mul_left _ hB1;omega
  by_cases h0 : len = 0
  ·subst h0
   exact ⟨_,0,cap,[],hcs,⟨Nat.zero_le _,ae,rfl,fun b off s h => by simp [nz] at h,.inl rfl⟩,fun j x hj => by simp at hj⟩
  obtain ⟨b,off,spot⟩:=x
  have hadd0 : ∀ (y : Addr),y.add 0 = y:=by intro y; cases y with | mk p q r => cases r <;> simp [Addr.add]
  have hstep : ∀ j,j < len → ∃ y : α,(F y).length = c ∧ G y ∧ ∀ i,i < c → W.cell? (((⟨b,off,spot⟩ : Addr).add (j * c)).add i) = (F y)[i]?:=by
   intro j hj;have he:=hem j hj;rw [aN ae] at he;obtain ⟨ys,hys,htr⟩:=Option.bind_eq_some_iff.1 he;rw [hc] at hys;obtain ⟨_,hlc,hcell⟩:=World.cells?_some hys
   have hmem : (elems[j]'(ae)).1 ∈ elems.map (·.1):=List.mem_map.2 ⟨_,List.getElem_mem _,rfl⟩
   obtain ⟨y,rfl,hG⟩:=hel _ _ _ htr (fun n hn => hw n (by
    have hin:=jT (P:=Tryz.prog) (e:=e) hmem n hn
    simp only [DataW.weights,ht,List.mem_cons,List.mem_append]
    exact .inr (.inl hin)))
   exact ⟨y,hlc,hG,hcell⟩
  have hspot : spot = none:=by
   obtain ⟨y,hy,_,hcl⟩:=hstep 0 ae;have h2:=hcl 0 ae;rw [aN ae] at h2
   have:=World.cell?_spot h2
   simpa [Addr.add] using this
  subst hspot
  have hplain : ∀ (p q i : Nat),(⟨p,q,none⟩ : Addr).add i = ⟨p,q + i,none⟩:=by intro p q i; unfold Addr.add; split <;> simp_all
  obtain ⟨xs,hxl,hxs⟩:=vG (P:=fun j (y : α) => (F y).length = c ∧ G y ∧ ∀ i,i < c → W.cell? ⟨b,off + j * c + i,none⟩ = (F y)[i]?) len (fun j hj => by
   obtain ⟨y,q1,q2,q3⟩:=hstep j hj
   exact ⟨y,q1,q2,fun i hi => by have:=q3 i hi; rwa [hplain,hplain] at this⟩)
  refine ⟨_,len,cap,xs,hcs,⟨hl,hbound,hxl,fun b' off' s' hb' => ?_,.inr ⟨b,off,rfl,fun j x hj i v hv => ?_⟩⟩,fun j x hj => (hxs j x hj).2.1⟩
  ·have e:=AR hb'
   cases e
   obtain ⟨y,hy,_,hcl⟩:=hstep 0 ae;have h2:=hcl 0 ae;rw [aN ae,hplain,hplain] at h2;exact World.block_lt_of_cell? W _ h2
  ·have hi : i < (F x).length:=(List.getElem?_eq_some_iff.1 hv).1;have q:=hxs j x hj;rw [q.1] at hi;rw [q.2.2 i hi];exact hv
theorem kM {t : TypeId} (ht : Tryz.prog.underlying t = some .string) {fuel : Nat} {cs : List Value} {x : DataW H × List MemPlace} (h : DataW.trod enc Tryz.prog W 0 (fun _ => true) true fuel t cs = some x) (hw : ∀ n ∈ x.1.weights Tryz.prog t,n ≤ reachBytes) : ∃ s : ByteArray,cs = [.string s] ∧ s.size ≤ 140737488355328:=by
 obtain ⟨s,hs,hx,_⟩:=DataW.trod_string ht h;refine ⟨s,hs,?_⟩;rw [hx] at hw
 have:=hw s.data.toList.length (by unfold DataW.weights; exact List.mem_singleton.2 rfl)
 simp only [reachBytes] at this
 have e : s.size = s.data.toList.length:=by rw [Array.length_toList]; rfl
 omega
theorem wH : Tryz.prog.cellsOf 73 = 2:=aj
theorem jx : Tryz.prog.cellsOf 3 = 1:=aj
theorem rB : Tryz.prog.cellsOf 102 = 3:=aj
theorem uZ : Tryz.prog.cellsOf 78 = 3:=aj
theorem wJ : Tryz.prog.cellsOf 81 = 2:=aj
theorem vq : Tryz.prog.cellsOf 83 = 2:=aj
theorem wS : Tryz.prog.cellsOf 75 = 3:=aj
theorem t6 : Tryz.prog.cellsOf 5 = 1:=aj
theorem pq : Tryz.prog.cellsOf 9 = 1:=aj
theorem Kr : Tryz.prog.cellsOf 4 = 1:=aj
theorem C0 : Tryz.prog.cellsOf 100 = 1:=aj
theorem JF : Tryz.prog.cellsOf 2 = 1:=aj
theorem EA : Tryz.prog.cellsOf 76 = 1:=aj
theorem wI : Tryz.prog.cellsOf 23 = 1:=aj
theorem Es : Tryz.prog.cellsOf 63 = 1:=aj
theorem EM : Tryz.prog.cellsOf 22 = 1:=aj
theorem FC : Tryz.prog.cellsOf 24 = 1:=aj
theorem Fh : Tryz.prog.cellsOf 25 = 1:=aj
theorem FR : Tryz.prog.cellsOf 26 = 1:=aj
theorem ED : Tryz.prog.cellsOf 27 = 1:=aj
theorem Gt : Tryz.prog.cellsOf 29 = 8:=aj
theorem GR : Tryz.prog.bytesOf 73 = 32:=aj
theorem BZ : Tryz.prog.bytesOf 3 = 8:=aj
theorem Cy : Tryz.prog.bytesOf 102 = 16:=aj
theorem Ed : Tryz.prog.bytesOf 78 = 48:=aj
theorem GS : Tryz.prog.bytesOf 81 = 32:=aj
theorem Hu : Tryz.prog.bytesOf 83 = 24:=aj
theorem Hw : Tryz.prog.bytesOf 75 = 40:=aj
theorem Ku : Tryz.prog.bytesOf 5 = 1:=aj
theorem uj {fuel : Nat} {cs : List Value} {x : DataW H × List MemPlace} (h : DataW.trod enc Tryz.prog W 0 (fun _ => true) true fuel 3 cs = some x) (hw : ∀ n ∈ x.1.weights Tryz.prog 3,n ≤ reachBytes) : ∃ a : Int,cs = [.int .i64 a] ∧ (-9223372036854775808 ≤ a ∧ a < 9223372036854775808):=by
 obtain ⟨n,h1,_,wf⟩:=DataW.trod_int Tryz.underlying3 h
 have:=bounds_i64 wf
 exact ⟨n,h1,ae,ae⟩
theorem LX {fuel : Nat} {cs : List Value} {x : DataW H × List MemPlace} (h : DataW.trod enc Tryz.prog W 0 (fun _ => true) true fuel 5 cs = some x) (hw : ∀ n ∈ x.1.weights Tryz.prog 5,n ≤ reachBytes) : ∃ a : Int,cs = [.int .u8 a] ∧ (0 ≤ a ∧ a ≤ 255):=by
 obtain ⟨n,h1,_,wf⟩:=DataW.trod_int Tryz.underlying5 h
 have:=bounds_u8 wf
 exact ⟨n,h1,ae,ae⟩
def He (x : ByteArray × ByteArray) : List Value:=[.string x.1,.string x.2]
def JP (W : World) (x : ByteArray × ByteArray) : Prop:=x.1.size ≤ 140737488355328 ∧ x.2.size ≤ 140737488355328
theorem Eu {fuel : Nat} {cs : List Value} {x : DataW H × List MemPlace} (h : DataW.trod enc Tryz.prog W 0 (fun _ => true) true fuel 73 cs = some x) (hw : ∀ n ∈ x.1.weights Tryz.prog 73,n ≤ reachBytes) : ∃ a : ByteArray × ByteArray,cs = He a ∧ JP W a:=by
 obtain ⟨ys,m,_,hx,hl,hyl,hel⟩:=DataW.trod_struct Tryz.underlying73 h;rw [wH] at hl;have hd:=congrArg Prod.fst hx
 simp only at hd
 rw [hd] at hw
 match ys,hyl with
 | [y0,y1],_ =>
  match cs,hl with
  | [x0,x1],_ =>
   have e0 : DataW.trod enc Tryz.prog W 0 (fun _ => true) true m 9 (([x0,x1].drop 0).take (Tryz.prog.cellsOf 9)) = some y0:=hel 0 _ rfl
   have w0:=aT (j:=0) (u:=9) (y:=y0) Tryz.underlying73 rfl rfl hw;rw [pq] at e0;obtain ⟨p,h0,z0⟩:=kM Tryz.underlying9 e0 w0
   have e1 : DataW.trod enc Tryz.prog W 0 (fun _ => true) true m 9 (([x0,x1].drop 1).take (Tryz.prog.cellsOf 9)) = some y1:=hel 1 _ rfl
   have w1:=aT (j:=1) (u:=9) (y:=y1) Tryz.underlying73 rfl rfl hw;rw [pq] at e1;obtain ⟨q,h1,z1⟩:=kM Tryz.underlying9 e1 w1
   simp at h0 h1
   subst h0 h1;exact ⟨(p,q),rfl,z0,z1⟩
def FGl (x : Int × Bool × Int) : List Value:=[.int .u8 x.1,.bool x.2.1,.int .u64 x.2.2]
def GGl (W : World) (x : Int × Bool × Int) : Prop:=0 ≤ x.1 ∧ x.1 ≤ 255 ∧ 0 ≤ x.2.2 ∧ x.2.2 < 18446744073709551616
theorem Jw {fuel : Nat} {cs : List Value} {x : DataW H × List MemPlace} (h : DataW.trod enc Tryz.prog W 0 (fun _ => true) true fuel 102 cs = some x) (hw : ∀ n ∈ x.1.weights Tryz.prog 102,n ≤ reachBytes) : ∃ a : Int × Bool × Int,cs = FGl a ∧ GGl W a:=by
 obtain ⟨ys,m,_,hx,hl,hyl,hel⟩:=DataW.trod_struct Tryz.underlying102 h;rw [rB] at hl;have hd:=congrArg Prod.fst hx
 simp only at hd
 rw [hd] at hw
 match ys,hyl with
 | [y0,y1,y2],_ =>
  match cs,hl with
  | [x0,x1,x2],_ =>
   have e0 : DataW.trod enc Tryz.prog W 0 (fun _ => true) true m 5 (([x0,x1,x2].drop 0).take (Tryz.prog.cellsOf 5)) = some y0:=hel 0 _ rfl
   have w0:=aT (j:=0) (u:=5) (y:=y0) Tryz.underlying102 rfl rfl hw;rw [t6] at e0;obtain ⟨p,h0,_,wf0⟩:=DataW.trod_int Tryz.underlying5 e0;have b0:=bounds_u8 wf0
   have e1 : DataW.trod enc Tryz.prog W 0 (fun _ => true) true m 4 (([x0,x1,x2].drop 1).take (Tryz.prog.cellsOf 4)) = some y1:=hel 1 _ rfl
   have w1:=aT (j:=1) (u:=4) (y:=y1) Tryz.underlying102 rfl rfl hw;rw [Kr] at e1;obtain ⟨q,h1,_⟩:=DataW.trod_bool Tryz.underlying4 e1
   have e2 : DataW.trod enc Tryz.prog W 0 (fun _ => true) true m 100 (([x0,x1,x2].drop 2).take (Tryz.prog.cellsOf 100)) = some y2:=hel 2 _ rfl
   have w2:=aT (j:=2) (u:=100) (y:=y2) Tryz.underlying102 rfl rfl hw;rw [C0] at e2;obtain ⟨r,h2,_,wf2⟩:=DataW.trod_int Tryz.underlying100 e2;have b2:=bounds_u64 wf2
   simp at h0 h1 h2
   subst h0 h1 h2;exact ⟨(p,q,r),rfl,fW,fW,fW,fW⟩
def FEx (x : ByteArray × Int) : List Value:=[.string x.1,.int .i64 x.2]
def GEx (W : World) (x : ByteArray × Int) : Prop:=x.1.size ≤ 140737488355328 ∧ -9223372036854775808 ≤ x.2 ∧ x.2 < 9223372036854775808
theorem Kn {fuel : Nat} {cs : List Value} {x : DataW H × List MemPlace} (h : DataW.trod enc Tryz.prog W 0 (fun _ => true) true fuel 83 cs = some x) (hw : ∀ n ∈ x.1.weights Tryz.prog 83,n ≤ reachBytes) : ∃ a : ByteArray × Int,cs = FEx a ∧ GEx W a:=by
 obtain ⟨ys,m,_,hx,hl,hyl,hel⟩:=DataW.trod_struct Tryz.underlying83 h;rw [vq] at hl;have hd:=congrArg Prod.fst hx
 simp only at hd
 rw [hd] at hw
 match ys,hyl with
 | [y0,y1],_ =>
  match cs,hl with
  | [x0,x1],_ =>
   have e0 : DataW.trod enc Tryz.prog W 0 (fun _ => true) true m 9 (([x0,x1].drop 0).take (Tryz.prog.cellsOf 9)) = some y0:=hel 0 _ rfl
   have w0:=aT (j:=0) (u:=9) (y:=y0) Tryz.underlying83 rfl rfl hw;rw [pq] at e0;obtain ⟨p,h0,z0⟩:=kM Tryz.underlying9 e0 w0
   have e1 : DataW.trod enc Tryz.prog W 0 (fun _ => true) true m 3 (([x0,x1].drop 1).take (Tryz.prog.cellsOf 3)) = some y1:=hel 1 _ rfl
   have w1:=aT (j:=1) (u:=3) (y:=y1) Tryz.underlying83 rfl rfl hw;rw [jx] at e1;obtain ⟨q,h1,_,wf1⟩:=DataW.trod_int Tryz.underlying3 e1;have b1:=bounds_i64 wf1
   simp at h0 h1
   subst h0 h1;exact ⟨(p,q),rfl,z0,fW,fW⟩
def FIn (x : Int × Int × (Option Addr × Nat × Nat) × List Int) : List Value:=[.int .u8 x.1,.int .i64 x.2.1,.slice x.2.2.1.1 x.2.2.1.2.1 x.2.2.1.2.2]
def GIn (W : World) (x : Int × Int × (Option Addr × Nat × Nat) × List Int) : Prop:=0 ≤ x.1 ∧ x.1 ≤ 255 ∧ eU W 1 (fun (z : Int) => [Value.int .i64 z]) x.2.2.1.1 x.2.2.1.2.1 x.2.2.1.2.2 x.2.2.2 ∧ (∀ (j : Nat) a,x.2.2.2[j]? = some a → -9223372036854775808 ≤ a ∧ a < 9223372036854775808) ∧ -9223372036854775808 ≤ x.2.1 ∧ x.2.1 < 9223372036854775808
theorem IX {fuel : Nat} {cs : List Value} {x : DataW H × List MemPlace} (h : DataW.trod enc Tryz.prog W 0 (fun _ => true) true fuel 75 cs = some x) (hw : ∀ n ∈ x.1.weights Tryz.prog 75,n ≤ reachBytes) : ∃ a : Int × Int × (Option Addr × Nat × Nat) × List Int,cs = FIn a ∧ GIn W a:=by
 obtain ⟨ys,m,_,hx,hl,hyl,hel⟩:=DataW.trod_struct Tryz.underlying75 h;rw [wS] at hl;have hd:=congrArg Prod.fst hx
 simp only at hd
 rw [hd] at hw
 match ys,hyl with
 | [y0,y1,y2],_ =>
  match cs,hl with
  | [x0,x1,x2],_ =>
   have e0 : DataW.trod enc Tryz.prog W 0 (fun _ => true) true m 5 (([x0,x1,x2].drop 0).take (Tryz.prog.cellsOf 5)) = some y0:=hel 0 _ rfl
   have w0:=aT (j:=0) (u:=5) (y:=y0) Tryz.underlying75 rfl rfl hw;rw [t6] at e0;obtain ⟨p,h0,_,wf0⟩:=DataW.trod_int Tryz.underlying5 e0;have b0:=bounds_u8 wf0
   have e1 : DataW.trod enc Tryz.prog W 0 (fun _ => true) true m 2 (([x0,x1,x2].drop 1).take (Tryz.prog.cellsOf 2)) = some y1:=hel 1 _ rfl
   have w1:=aT (j:=1) (u:=2) (y:=y1) Tryz.underlying75 rfl rfl hw;rw [JF] at e1;obtain ⟨q,h1,_,wf1⟩:=DataW.trod_int Tryz.underlying2 e1;have b1:=bounds_i64 wf1
   have e2 : DataW.trod enc Tryz.prog W 0 (fun _ => true) true m 23 (([x0,x1,x2].drop 2).take (Tryz.prog.cellsOf 23)) = some y2:=hel 2 _ rfl
   have w2:=aT (j:=2) (u:=23) (y:=y2) Tryz.underlying75 rfl rfl hw;rw [wI] at e2
   obtain ⟨la,ln,lc,ls,h2,at2,el2⟩:=(dQ (c:=1) (B:=8) (fun (z : Int) => [Value.int .i64 z]) (fun (a : Int) => -9223372036854775808 ≤ a ∧ a < 9223372036854775808) Tryz.underlying23 jx av BZ av (fun _ _ _ h1 h2 => uj h1 h2)) e2 w2
   simp at h0 h1 h2
   subst h0 h1 h2;exact ⟨(p,q,(la,ln,lc),ls),rfl,fW,fW,at2,el2,fW,fW⟩
def FFu (x : Int × ByteArray × (Option Addr × Nat × Nat) × List (Int × Int × (Option Addr × Nat × Nat) × List Int)) : List Value:=[.int .i64 x.1,.string x.2.1,.slice x.2.2.1.1 x.2.2.1.2.1 x.2.2.1.2.2]
def GFu (W : World) (x : Int × ByteArray × (Option Addr × Nat × Nat) × List (Int × Int × (Option Addr × Nat × Nat) × List Int)) : Prop:=(-9223372036854775808 ≤ x.1 ∧ x.1 < 9223372036854775808) ∧ x.2.1.size ≤ 140737488355328 ∧ eU W 3 FIn x.2.2.1.1 x.2.2.1.2.1 x.2.2.1.2.2 x.2.2.2 ∧ ∀ (j : Nat) y,x.2.2.2[j]? = some y → GIn W y
theorem JK {fuel : Nat} {cs : List Value} {x : DataW H × List MemPlace} (h : DataW.trod enc Tryz.prog W 0 (fun _ => true) true fuel 78 cs = some x) (hw : ∀ n ∈ x.1.weights Tryz.prog 78,n ≤ reachBytes) : ∃ a : Int × ByteArray × (Option Addr × Nat × Nat) × List (Int × Int × (Option Addr × Nat × Nat) × List Int),cs = FFu a ∧ GFu W a:=by
 obtain ⟨ys,m,_,hx,hl,hyl,hel⟩:=DataW.trod_struct Tryz.underlying78 h;rw [uZ] at hl;have hd:=congrArg Prod.fst hx
 simp only at hd
 rw [hd] at hw
 match ys,hyl with
 | [y0,y1,y2],_ =>
  match cs,hl with
  | [x0,x1,x2],_ =>
   have e0 : DataW.trod enc Tryz.prog W 0 (fun _ => true) true m 3 (([x0,x1,x2].drop 0).take (Tryz.prog.cellsOf 3)) = some y0:=hel 0 _ rfl
   have w0:=aT (j:=0) (u:=3) (y:=y0) Tryz.underlying78 rfl rfl hw;rw [jx] at e0;obtain ⟨p,h0,_,wf0⟩:=DataW.trod_int Tryz.underlying3 e0;have b0:=bounds_i64 wf0
   have e1 : DataW.trod enc Tryz.prog W 0 (fun _ => true) true m 9 (([x0,x1,x2].drop 1).take (Tryz.prog.cellsOf 9)) = some y1:=hel 1 _ rfl
   have w1:=aT (j:=1) (u:=9) (y:=y1) Tryz.underlying78 rfl rfl hw;rw [pq] at e1;obtain ⟨q,h1,z1⟩:=kM Tryz.underlying9 e1 w1
   have e2 : DataW.trod enc Tryz.prog W 0 (fun _ => true) true m 76 (([x0,x1,x2].drop 2).take (Tryz.prog.cellsOf 76)) = some y2:=hel 2 _ rfl
   have w2:=aT (j:=2) (u:=76) (y:=y2) Tryz.underlying78 rfl rfl hw;rw [EA] at e2
   obtain ⟨la,ln,lc,ls,h2,at2,el2⟩:=(dQ (c:=3) (B:=40) FIn (GIn W) Tryz.underlying76 wS av Hw av (fun _ _ _ h1 h2 => IX h1 h2)) e2 w2
   simp at h0 h1 h2
   subst h0 h1 h2;exact ⟨(p,q,(la,ln,lc),ls),rfl,⟨fW,fW⟩,z1,at2,el2⟩
def FDa (x : Int × (Option Addr × Nat × Nat) × List Int) : List Value:=[.int .i64 x.1,.slice x.2.1.1 x.2.1.2.1 x.2.1.2.2]
def GDa (W : World) (x : Int × (Option Addr × Nat × Nat) × List Int) : Prop:=(-9223372036854775808 ≤ x.1 ∧ x.1 < 9223372036854775808) ∧ eU W 1 (fun (z : Int) => [Value.int .u8 z]) x.2.1.1 x.2.1.2.1 x.2.1.2.2 x.2.2 ∧ ∀ (j : Nat) a,x.2.2[j]? = some a → 0 ≤ a ∧ a ≤ 255
theorem IQ {fuel : Nat} {cs : List Value} {x : DataW H × List MemPlace} (h : DataW.trod enc Tryz.prog W 0 (fun _ => true) true fuel 81 cs = some x) (hw : ∀ n ∈ x.1.weights Tryz.prog 81,n ≤ reachBytes) : ∃ a : Int × (Option Addr × Nat × Nat) × List Int,cs = FDa a ∧ GDa W a:=by
 obtain ⟨ys,m,_,hx,hl,hyl,hel⟩:=DataW.trod_struct Tryz.underlying81 h;rw [wJ] at hl;have hd:=congrArg Prod.fst hx
 simp only at hd
 rw [hd] at hw
 match ys,hyl with
 | [y0,y1],_ =>
  match cs,hl with
  | [x0,x1],_ =>
   have e0 : DataW.trod enc Tryz.prog W 0 (fun _ => true) true m 3 (([x0,x1].drop 0).take (Tryz.prog.cellsOf 3)) = some y0:=hel 0 _ rfl
   have w0:=aT (j:=0) (u:=3) (y:=y0) Tryz.underlying81 rfl rfl hw;rw [jx] at e0;obtain ⟨p,h0,_,wf0⟩:=DataW.trod_int Tryz.underlying3 e0;have b0:=bounds_i64 wf0
   have e1 : DataW.trod enc Tryz.prog W 0 (fun _ => true) true m 63 (([x0,x1].drop 1).take (Tryz.prog.cellsOf 63)) = some y1:=hel 1 _ rfl
   have w1:=aT (j:=1) (u:=63) (y:=y1) Tryz.underlying81 rfl rfl hw;rw [Es] at e1
   obtain ⟨la,ln,lc,ls,h1,at1,el1⟩:=(dQ (c:=1) (B:=1) (fun (z : Int) => [Value.int .u8 z]) (fun (a : Int) => 0 ≤ a ∧ a ≤ 255) Tryz.underlying63 t6 av Ku av (fun _ _ _ h1 h2 => LX h1 h2)) e1 w1
   simp at h0 h1
   subst h0 h1;exact ⟨(p,(la,ln,lc),ls),rfl,⟨fW,fW⟩,at1,el1⟩
theorem Fm {fuel : Nat} {cs : List Value} {x : DataW H × List MemPlace} (h : DataW.trod enc Tryz.prog W 0 (fun _ => true) true fuel 29 cs = some x) (hw : ∀ n ∈ x.1.weights Tryz.prog 29,n ≤ reachBytes) :
  ∃ (ta : Option Addr) (tn tc : Nat) (ts : List (ByteArray × ByteArray)) (ha : Option Addr) (hn hc : Nat) (hs : List Int) (ga : Option Addr) (gn gc : Nat) (gs : List (Int × Bool × Int)) (fi mo : Int) (fa : Option Addr) (fn fc : Nat) (fs : List (Int × ByteArray × (Option Addr × Nat × Nat) × List (Int × Int × (Option Addr × Nat × Nat) × List Int))) (da : Option Addr) (dn dc : Nat) (ds : List (Int × (Option Addr × Nat × Nat) × List Int)) (ea : Option Addr) (en ec : Nat) (es : List (ByteArray × Int)),
   cs = [.slice ta tn tc,.slice ha hn hc,.slice ga gn gc,.int .i64 fi,.int .i64 mo,.slice fa fn fc,.slice da dn dc,.slice ea en ec] ∧
   (eU W 2 He ta tn tc ts ∧ ∀ (j : Nat) x,ts[j]? = some x → JP W x) ∧ (eU W 1 (fun (z : Int) => [Value.int .i64 z]) ha hn hc hs ∧ ∀ (j : Nat) a,hs[j]? = some a → -9223372036854775808 ≤ a ∧ a < 9223372036854775808) ∧ (eU W 3 FGl ga gn gc gs ∧ ∀ (j : Nat) x,gs[j]? = some x → GGl W x) ∧ (-9223372036854775808 ≤ fi ∧ fi < 9223372036854775808) ∧ (-9223372036854775808 ≤ mo ∧ mo < 9223372036854775808) ∧ (eU W 3 FFu fa fn fc fs ∧ ∀ (j : Nat) x,fs[j]? = some x → GFu W x) ∧ (eU W 2 FDa da dn dc ds ∧ ∀ (j : Nat) x,ds[j]? = some x → GDa W x) ∧ (eU W 2 FEx ea en ec es ∧ ∀ (j : Nat) x,es[j]? = some x → GEx W x):=by
 obtain ⟨ys,m,_,hx,hl,hyl,hel⟩:=DataW.trod_struct Tryz.underlying29 h;rw [Gt] at hl;have hd:=congrArg Prod.fst hx
 simp only at hd
 rw [hd] at hw
 match ys,hyl with
 | [y0,y1,y2,y3,y4,y5,y6,y7],_ =>
  match cs,hl with
  | [x0,x1,x2,x3,x4,x5,x6,x7],_ =>
   have e0 : DataW.trod enc Tryz.prog W 0 (fun _ => true) true m 22 (([x0,x1,x2,x3,x4,x5,x6,x7].drop 0).take (Tryz.prog.cellsOf 22)) = some y0:=hel 0 _ rfl
   have w0:=aT (j:=0) (u:=22) (y:=y0) Tryz.underlying29 rfl rfl hw;rw [EM] at e0
   obtain ⟨ta,tn,tc,ts,h0,at0,el0⟩:=(dQ (c:=2) (B:=32) He (JP W) Tryz.underlying22 wH av GR av (fun _ _ _ h1 h2 => Eu h1 h2)) e0 w0
   have e1 : DataW.trod enc Tryz.prog W 0 (fun _ => true) true m 23 (([x0,x1,x2,x3,x4,x5,x6,x7].drop 1).take (Tryz.prog.cellsOf 23)) = some y1:=hel 1 _ rfl
   have w1:=aT (j:=1) (u:=23) (y:=y1) Tryz.underlying29 rfl rfl hw;rw [wI] at e1
   obtain ⟨ha,hn,hc,hs,h1,at1,el1⟩:=(dQ (c:=1) (B:=8) (fun (z : Int) => [Value.int .i64 z]) (fun (a : Int) => -9223372036854775808 ≤ a ∧ a < 9223372036854775808) Tryz.underlying23 jx av BZ av (fun _ _ _ h1 h2 => uj h1 h2)) e1 w1
   have e2 : DataW.trod enc Tryz.prog W 0 (fun _ => true) true m 24 (([x0,x1,x2,x3,x4,x5,x6,x7].drop 2).take (Tryz.prog.cellsOf 24)) = some y2:=hel 2 _ rfl
   have w2:=aT (j:=2) (u:=24) (y:=y2) Tryz.underlying29 rfl rfl hw;rw [FC] at e2
   obtain ⟨ga,gn,gc,gs,h2,at2,el2⟩:=(dQ (c:=3) (B:=16) FGl (GGl W) Tryz.underlying24 rB av Cy av (fun _ _ _ h1 h2 => Jw h1 h2)) e2 w2
   have e3 : DataW.trod enc Tryz.prog W 0 (fun _ => true) true m 3 (([x0,x1,x2,x3,x4,x5,x6,x7].drop 3).take (Tryz.prog.cellsOf 3)) = some y3:=hel 3 _ rfl
   have w3:=aT (j:=3) (u:=3) (y:=y3) Tryz.underlying29 rfl rfl hw;rw [jx] at e3;obtain ⟨fi,h3,b3⟩:=uj e3 w3
   have e4 : DataW.trod enc Tryz.prog W 0 (fun _ => true) true m 3 (([x0,x1,x2,x3,x4,x5,x6,x7].drop 4).take (Tryz.prog.cellsOf 3)) = some y4:=hel 4 _ rfl
   have w4:=aT (j:=4) (u:=3) (y:=y4) Tryz.underlying29 rfl rfl hw;rw [jx] at e4;obtain ⟨mo,h4,b4⟩:=uj e4 w4
   have e5 : DataW.trod enc Tryz.prog W 0 (fun _ => true) true m 25 (([x0,x1,x2,x3,x4,x5,x6,x7].drop 5).take (Tryz.prog.cellsOf 25)) = some y5:=hel 5 _ rfl
   have w5:=aT (j:=5) (u:=25) (y:=y5) Tryz.underlying29 rfl rfl hw;rw [Fh] at e5
   obtain ⟨fa,fn,fc,fs,h5,at5,el5⟩:=(dQ (c:=3) (B:=48) FFu (GFu W) Tryz.underlying25 uZ av Ed av (fun _ _ _ h1 h2 => JK h1 h2)) e5 w5
   have e6 : DataW.trod enc Tryz.prog W 0 (fun _ => true) true m 26 (([x0,x1,x2,x3,x4,x5,x6,x7].drop 6).take (Tryz.prog.cellsOf 26)) = some y6:=hel 6 _ rfl
   have w6:=aT (j:=6) (u:=26) (y:=y6) Tryz.underlying29 rfl rfl hw;rw [FR] at e6
   obtain ⟨da,dn,dc,ds,h6,at6,el6⟩:=(dQ (c:=2) (B:=32) FDa (GDa W) Tryz.underlying26 wJ av GS av (fun _ _ _ h1 h2 => IQ h1 h2)) e6 w6
   have e7 : DataW.trod enc Tryz.prog W 0 (fun _ => true) true m 27 (([x0,x1,x2,x3,x4,x5,x6,x7].drop 7).take (Tryz.prog.cellsOf 27)) = some y7:=hel 7 _ rfl
   have w7:=aT (j:=7) (u:=27) (y:=y7) Tryz.underlying29 rfl rfl hw;rw [ED] at e7
   obtain ⟨ea,en,ec,es,h7,at7,el7⟩:=(dQ (c:=2) (B:=24) FEx (GEx W) Tryz.underlying27 vq av Hu av (fun _ _ _ h1 h2 => Kn h1 h2)) e7 w7
   simp at h0 h1 h2 h3 h4 h5 h6 h7
   subst h0 h1 h2 h3 h4 h5 h6 h7;exact ⟨ta,tn,tc,ts,ha,hn,hc,hs,ga,gn,gc,gs,fi,mo,fa,fn,fc,fs,da,dn,dc,ds,ea,en,ec,es,rfl,⟨at0,el0⟩,⟨at1,el1⟩,⟨at2,el2⟩,b3,b4,⟨at5,el5⟩,⟨at6,el6⟩,⟨at7,el7⟩⟩
end
structure Raw (W : World) (m : MM) : Prop where
 t : eU W 2 He m.ta m.tn m.tc m.types
 tg : ∀ (j : Nat) x,m.types[j]? = some x → JP W x
 h : eU W 1 (fun (z : Int) => [Value.int .i64 z]) m.ha m.hn m.hc m.hosts
 hg : ∀ (j : Nat) a,m.hosts[j]? = some a → -9223372036854775808 ≤ a ∧ a < 9223372036854775808
 g : eU W 3 FGl m.ga m.gn m.gc m.globals
 gg : ∀ (j : Nat) x,m.globals[j]? = some x → GGl W x
 i : -9223372036854775808 ≤ m.fi ∧ m.fi < 9223372036854775808
 o : -9223372036854775808 ≤ m.mo ∧ m.mo < 9223372036854775808
 f : eU W 3 FFu m.fa m.fn m.fc m.fns
 fg : ∀ (j : Nat) x,m.fns[j]? = some x → GFu W x
 d : eU W 2 FDa m.da m.dn m.dc m.data
 dg : ∀ (j : Nat) x,m.data[j]? = some x → GDa W x
 e : eU W 2 FEx m.ea m.en m.ec m.exps
 eg : ∀ (j : Nat) x,m.exps[j]? = some x → GEx W x
 top : ∀ a ∈ [m.ta,m.ha,m.ga,m.fa,m.da,m.ea],∀ b off s,a = some ⟨b,off,s⟩ → b < W.heap.size
def Small (m : MM) : Prop:=pX m.types + jP m.fns + nU m.data + lH m.exps ≤ 131072
theorem DR {l : List Nat} {x : Nat} (h : x ∈ l) : x ≤ l.sum:=by
 induction l with
 | nil => cases h
 | cons a l ih =>
  rcases List.mem_cons.1 h with rfl | h
  ·simp
  ·have:=ih h; simp; omega
theorem mK {α : Type} {f : α → Nat} {l : List α} {x : α} (h : x ∈ l) : f x ≤ (l.map f).sum:=DR (List.mem_map.2 ⟨x,h,rfl⟩)
theorem qO : ∀ (xs : List InM) (z : Nat),szG xs z ≤ 131072 → z ≤ 131072 ∧ ∀ x ∈ xs,x.2.2.1.2.1 ≤ 131072
 | [],z,h => ⟨h,fun x hx => jB⟩
 | y :: r,z,h => by
  by_cases hz : z ≤ 2147483647
  ·rw [zN hz] at h;obtain ⟨h1,h2⟩:=qO r _ h
   refine ⟨ae,fun x hx => ?_⟩
   rcases List.mem_cons.1 hx with rfl | hx
   ·omega
   ·exact h2 x hx
  ·rw [Al hz] at h;omega
section
variable {W : World} {m : MM}
theorem eU.sig {a : Option Addr} {n cap : Nat} {xs : List Sg} (h : eU W 2 He a n cap xs) : fk W a n xs :=
 ⟨h.len,h.at_.imp id fun ⟨b,off,e,hc⟩ => ⟨b,off,e,fun j x hj => ⟨hc j x hj 0 _ rfl,hc j x hj 1 _ rfl⟩⟩⟩
theorem eU.nu {a : Option Addr} {n cap : Nat} {xs : List Int} (h : eU W 1 (fun (z : Int) => [Value.int .i64 z]) a n cap xs) : i6 W a n xs :=
 ⟨h.len,h.at_.imp id fun ⟨b,off,e,hc⟩ => ⟨b,off,e,fun j x hj => by have:=hc j x hj 0 _ rfl; rwa [Nat.mul_one] at this⟩⟩
theorem eU.gl {a : Option Addr} {n cap : Nat} {xs : List Gl} (h : eU W 3 FGl a n cap xs) : kg W a n xs :=
 ⟨h.len,h.at_.imp id fun ⟨b,off,e,hc⟩ => ⟨b,off,e,fun j x hj => ⟨hc j x hj 0 _ rfl,hc j x hj 1 _ rfl,hc j x hj 2 _ rfl⟩⟩⟩
theorem eU.fu {a : Option Addr} {n cap : Nat} {xs : List FuM} (h : eU W 3 FFu a n cap xs) : iU W a n xs :=
 ⟨h.len,h.at_.imp id fun ⟨b,off,e,hc⟩ => ⟨b,off,e,fun j x hj => ⟨hc j x hj 0 _ rfl,hc j x hj 1 _ rfl,hc j x hj 2 _ rfl⟩⟩⟩
theorem eU.in_ {a : Option Addr} {n cap : Nat} {xs : List InM} (h : eU W 3 FIn a n cap xs) : fO W a n xs :=
 ⟨h.len,h.at_.imp id fun ⟨b,off,e,hc⟩ => ⟨b,off,e,fun j x hj => ⟨hc j x hj 0 _ rfl,hc j x hj 1 _ rfl,hc j x hj 2 _ rfl⟩⟩⟩
theorem eU.da {a : Option Addr} {n cap : Nat} {xs : List DaM} (h : eU W 2 FDa a n cap xs) : jn W a n xs :=
 ⟨h.len,h.at_.imp id fun ⟨b,off,e,hc⟩ => ⟨b,off,e,fun j x hj => ⟨hc j x hj 0 _ rfl,hc j x hj 1 _ rfl⟩⟩⟩
theorem eU.ex {a : Option Addr} {n cap : Nat} {xs : List Ex} (h : eU W 2 FEx a n cap xs) : jD W a n xs :=
 ⟨h.len,h.at_.imp id fun ⟨b,off,e,hc⟩ => ⟨b,off,e,fun j x hj => ⟨hc j x hj 0 _ rfl,hc j x hj 1 _ rfl⟩⟩⟩
theorem eU.segI {a : Option Addr} {n cap : Nat} {xs : List Int} (h : eU W 1 (fun (z : Int) => [Value.int .i64 z]) a n cap xs) (hr : ∀ (j : Nat) a,xs[j]? = some a → -9223372036854775808 ≤ a ∧ a < 9223372036854775808) (hn : n ≤ 131072) : fe W a n cap xs:=by
 refine ⟨h.len,h.cap_,ae,fun z hz => ?_,h.at_.imp id fun ⟨b,off,e,hc⟩ => ⟨b,off,e,fun j hj => ?_⟩⟩
 ·obtain ⟨j,hj⟩:=List.getElem?_of_mem hz
  have:=hr j z hj
  omega
 ·exact Hm
theorem eU.segB {a : Option Addr} {n cap : Nat} {xs : List Int} (h : eU W 1 (fun (z : Int) => [Value.int .u8 z]) a n cap xs) (hr : ∀ (j : Nat) a,xs[j]? = some a → 0 ≤ a ∧ a ≤ 255) (hn : n ≤ 131072) : Seg W a n cap xs:=by
 refine ⟨h.len,h.cap_,ae,fun z hz => ?_,h.at_.imp id fun ⟨b,off,e,hc⟩ => ⟨b,off,e,fun j hj => ?_⟩⟩
 ·obtain ⟨j,hj⟩:=List.getElem?_of_mem hz;exact hr j z hj
 ·exact Hm
theorem Small.parts (h : Small m) : (∀ (j : Nat) x,m.types[j]? = some x → x.1.size + x.2.size ≤ 131072) ∧ (∀ (j : Nat) x,m.fns[j]? = some x → x.2.1.size ≤ 131072 ∧ ∀ (i : Nat) y,x.2.2.2[i]? = some y → y.2.2.1.2.1 ≤ 131072) ∧ (∀ (j : Nat) x,m.data[j]? = some x → x.2.1.2.1 ≤ 131072) ∧ ∀ (j : Nat) x,m.exps[j]? = some x → x.1.size ≤ 131072:=by
 unfold Small at h
 refine ⟨fun j x hj => ?_,fun j x hj => ?_,fun j x hj => ?_,fun j x hj => ?_⟩
 ·have : x.1.size + x.2.size ≤ pX m.types:=mK (f:=fun x : Sg => x.1.size + x.2.size) (List.mem_of_getElem? hj)
  omega
 ·have : x.2.1.size + szG x.2.2.2 x.2.2.1.2.1 ≤ jP m.fns:=mK (f:=fun x : FuM => x.2.1.size + szG x.2.2.2 x.2.2.1.2.1) (List.mem_of_getElem? hj)
  exact ⟨ae,fun i y hi => (qO x.2.2.2 x.2.2.1.2.1 ae).2 y (List.mem_of_getElem? hi)⟩
 ·have : x.2.1.2.1 ≤ nU m.data:=mK (f:=fun x : DaM => x.2.1.2.1) (List.mem_of_getElem? hj)
  omega
 ·have : x.1.size ≤ lH m.exps:=mK (f:=fun x : Ex => x.1.size) (List.mem_of_getElem? hj)
  omega
theorem Raw.ok (h : Raw W m) (hs : Small m) : ∀ R g,W.heap.size ≤ R → W.heap.size ≤ g → MOk W R g m:=by
 intro R g hR hg;obtain ⟨s1,s2,s3,s4⟩:=hs.parts
 have far : ∀ a ∈ [m.ta,m.ha,m.ga,m.fa,m.da,m.ea],Far W R g a:=fun a ha b off c hb => by have:=h.top a ha b off c hb; omega
 have farN : ∀ {a : Option Addr} {n : Nat},(∀ b off s,nz n a = some ⟨b,off,s⟩ → b < W.heap.size) → Far W R g (nz n a):=fun hl b off c hb => by have:=hl b off c hb; omega
 refine ⟨h.t.sig,far _ aq,h.h.nu,far _ aq,h.hg,h.g.gl,far _ aq,h.gg,h.i.1,h.i.2,h.o.1,h.o.2,h.f.fu,far _ aq,fun j x hj => ?_,h.d.da,far _ aq,fun j x hj => ?_,h.e.ex,far _ aq,fun j x hj => (h.eg j x hj).2⟩
 ·obtain ⟨q1,q2,q3,q4⟩:=h.fg j x hj
  refine ⟨q1,q3.in_,farN q3.lt,fun i y hi => ?_⟩
  obtain ⟨r1,r2,r3,r4,-⟩:=q4 i y hi;exact ⟨r1,r2,r3.segI r4 ((s2 j x hj).2 i y hi),farN r3.lt⟩
 ·obtain ⟨q1,q2,q3⟩:=h.dg j x hj;exact ⟨q1,q2.segB q3 (s3 j x hj),farN q2.lt⟩
theorem Raw.szc (h : Raw W m) : SzC W m :=
 ⟨h.t.big,h.h.big,h.g.big,h.f.big,h.d.big,h.e.big,h.tg,fun j x hj => by
  obtain ⟨q1,q2,q3,q4⟩:=h.fg j x hj
  exact ⟨q2,q3.big,q3.in_,fun i y hi => (q4 i y hi).2.2.1.big⟩,fun j x hj => (h.dg j x hj).2.1.big,fun j x hj => (h.eg j x hj).1⟩
theorem Kl (h : Raw W m) (j : Nat) (x : FuM) (hj : m.fns[j]? = some x) (i : Nat) (y : InM) (hi : x.2.2.2[i]? = some y) : -9223372036854775808 ≤ y.2.1 ∧ y.2.1 ≤ 9223372036854775807:=by
 have:=((h.fg j x hj).2.2.2 i y hi).2.2.2.2
 omega
theorem Raw.cap (h : Raw W m) : ∀ x ∈ m.fns,x.2.2.1.2.1 ≤ x.2.2.1.2.2:=fun x hx => by
 obtain ⟨j,hj⟩:=List.getElem?_of_mem hx;exact (h.fg j x hj).2.2.1.cap_
theorem Raw.later {W' : World} (h : Raw W m) (hb : Below W.heap.size W W') : SzC W' m ∧ fk W' m.ta m.tn m.types ∧ iU W' m.fa m.fn m.fns ∧ jn W' m.da m.dn m.data ∧ jD W' m.ea m.en m.exps:=by
 have hk : aJ (fun _ => False) W W':=az hb
 have z:=h.szc
 exact ⟨⟨z.tn,z.hn,z.gn,z.fn,z.dn,z.en,z.t,fun j x hj => ⟨(z.f j x hj).1,(z.f j x hj).2.1,(z.f j x hj).2.2.1.kept hk (fun _ _ _ _ => id),(z.f j x hj).2.2.2⟩,z.d,z.e⟩,h.t.sig.kept hk (fun _ _ _ _ => id),h.f.fu.kept hk (fun _ _ _ _ => id),h.d.da.kept hk (fun _ _ _ _ => id),h.e.ex.kept hk (fun _ _ _ _ => id)⟩
end
section
variable {H : Type} {enc : TypeId × Value → H} {W : World}
theorem El {r : Reach} {base : Nat} {u : TypeId} {a : Addr} {n c : Nat} (h : Cell.okWide Tryz.prog W r base u (.slice (some a) n c)) : a.block < W.heap.size:=by
 unfold Cell.okWide at h
 cases hu : Tryz.prog.underlying u with
 | none => simp [hu,Cell.ok] at h
 | some d =>
  cases d <;> simp [hu,Cell.ok] at h
  obtain ⟨_,_,_,_,row,cells,hsh,_⟩:=h;unfold World.shape? at hsh
  rcases Nat.lt_or_ge a.block W.heap.size with hl | hl
  ·exact hl
  ·rw [Array.getElem?_eq_none hl] at hsh; cases hsh
theorem vV {base : Nat} {v : Value} {d : DataW H} {ps : List MemPlace} (hval : Value.okWide Tryz.prog W .any base 29 v) (h : DataW.Trod enc Tryz.prog W 0 (fun _ => true) true 29 v d ps) (hw : ∀ n ∈ d.weights Tryz.prog 29,n ≤ reachBytes) :
  ∃ m : MM,v = .agg (mV m) ∧ Raw W m:=by
 have hval':=hval;obtain ⟨cs,rfl,hsz⟩:=okWide_struct Tryz.underlying29 hval;obtain ⟨fuel,hf⟩:=h;obtain ⟨ta,tn,tc,ts,ha,hn,hc,hs,ga,gn,gc,gs,fi,mo,fa,fn,fc,fs,da,dn,dc,ds,ea,en,ec,es,hcs,⟨t1,t2⟩,⟨h1,h2⟩,⟨g1,g2⟩,i1,o1,⟨f1,f2⟩,⟨d1,d2⟩,e1,e2⟩:=Fm hf hw;have e : cs.toList = [.slice ta tn tc,.slice ha hn hc,.slice ga gn gc,.int .i64 fi,.int .i64 mo,.slice fa fn fc,.slice da dn dc,.slice ea en ec]:=hcs
 have ec' : cs = #[.slice ta tn tc,.slice ha hn hc,.slice ga gn gc,.int .i64 fi,.int .i64 mo,.slice fa fn fc,.slice da dn dc,.slice ea en ec]:=by
  apply Array.toList_inj.1
  rw [e]
 refine ⟨⟨ta,tn,tc,ts,ha,hn,hc,hs,ga,gn,gc,gs,fi,mo,fa,fn,fc,fs,da,dn,dc,ds,ea,en,ec,es⟩,by rw [ec']; rfl,⟨t1,t2,h1,h2,g1,g2,i1,o1,f1,f2,d1,d2,e1,e2,?_⟩⟩
 obtain ⟨cs',hv,_,⟨tt,htt,_,hall⟩⟩ : ∃ cs',Value.agg cs = .agg cs' ∧ cs'.size = Tryz.prog.cellsOf 29 ∧ Row.okWide Tryz.prog W .any base 29 cs':=by
  have:=hval'
  simp only [Value.okWide,Tryz.underlying29] at this
  exact this
 injection hv with hv
 subst hv
 have look : ∀ (i : Nat) a n c,cs[i]? = some (.slice (some a) n c) → a.block < W.heap.size:=fun i a n c hi => by
  obtain ⟨u,_,hu⟩:=hall i _ hi;exact El hu
 rw [ec'] at look;intro a hm b off s hb;subst hb
 simp only [List.mem_cons,List.not_mem_nil,or_false] at hm
 rcases hm with hm | hm | hm | hm | hm | hm
 ·exact look 0 ⟨b,off,s⟩ tn tc nv
 ·exact look 1 ⟨b,off,s⟩ hn hc nv
 ·exact look 2 ⟨b,off,s⟩ gn gc nv
 ·exact look 5 ⟨b,off,s⟩ fn fc nv
 ·exact look 6 ⟨b,off,s⟩ dn dc nv
 ·exact look 7 ⟨b,off,s⟩ en ec nv
end
end Go.Proofs.YtheefojaplnnoaaGreatDoor

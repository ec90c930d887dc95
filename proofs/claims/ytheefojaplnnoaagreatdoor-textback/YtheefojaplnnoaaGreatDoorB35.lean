/-
  Texts Xv Mb.
-/
import Derived.Below
import Derived.ChangeArms
import Derived.ChangeOld
import Derived.Deep.DeepHandedRow
import Derived.Deep.Strs
import Derived.LaidMore
import Derived.Lay
import Derived.OpenShut
import Derived.ProofKit
import Derived.ShutString
import Derived.SizedLaws
import Derived.Test.YtheefojaplnnoaaGreatDoorB00
import Derived.Test.YtheefojaplnnoaaGreatDoorB04
import Derived.Test.YtheefojaplnnoaaGreatDoorB34
set_option linter.unusedVariables false
set_option maxRecDepth 100000
set_option maxHeartbeats 16000000
namespace Go.Proofs.YtheefojaplnnoaaGreatDoor
open Go.ChangeShapes Go.WideShapes Go.ChangeAt Go.RowKit
theorem t7 {α : Type} {P : Nat → α → Prop} : ∀ (n : Nat),(∀ j,j < n → ∃ x,P j x) → ∃ xs : List α,xs.length = n ∧ ∀ j x,xs[j]? = some x → P j x
 | 0,_ => ⟨[],rfl,fun j x h => eP⟩
 | n + 1,h => by
  obtain ⟨xs,hl,hx⟩:=t7 n (fun j hj => h j ae)
  obtain ⟨y,hy⟩:=h n ae
  refine ⟨xs ++ [y],by simp [hl],fun j x hj => ?_⟩
  by_cases hjn : j < xs.length
  ·rw [List.getElem?_append_left hjn] at hj;exact hx j x hj
  ·rw [List.getElem?_append_right ae] at hj
   have hj0 : j - xs.length = 0:=by
    rcases Nat.eq_zero_or_pos (j - xs.length) with h | h
    ·exact h
    ·rw [List.getElem?_eq_none aK] at hj; cases hj
   rw [hj0] at hj
   simp at hj
   subst hj;obtain rfl : j = n:=ae;exact hy
theorem jq {H : Type} {P : Program} {e : TypeId} : ∀ {l : List (DataW H)} {d : DataW H},d ∈ l → ∀ n ∈ d.weights P e,n ∈ DataW.weightsAll P e l
 | x :: r,d,h,n,hn => by
  simp only [DataW.weightsAll,List.mem_append]
  rcases List.mem_cons.1 h with rfl | h
  ·exact .inl hn
  ·exact .inr (jq h n hn)
theorem aN {H : Type} {P : Program} {t u : TypeId} {fs : Array Field} {ys : List (DataW H × List MemPlace)} {y : DataW H × List MemPlace} {j : Nat} (ht : P.underlying t = some (.struct fs)) (hj : (fs.toList.map (·.type))[j]? = some u) (hy : ys[j]? = some y) {r : Nat} (hw : ∀ n ∈ (DataW.agg (ys.map (·.1))).weights P t,n ≤ r) : ∀ n ∈ y.1.weights P u,n ≤ r:=by
 intro n hn;refine hw n ?_
 simp only [DataW.weights,ht]
 exact DataW.weights_mem_each hj (by rw [List.getElem?_map,hy]; rfl) n hn
structure ei {α : Type} (W : World) (c : Nat) (F : α → List Value) (a : Option Addr) (n cap : Nat) (xs : List α) : Prop where
 cap_ : n ≤ cap
 big : n ≤ 140737488355328
 len : xs.length = n
 lt : ∀ b off s,nz n a = some ⟨b,off,s⟩ → b < W.heap.size
 at_ : n = 0 ∨ ∃ b off,a = some ⟨b,off,none⟩ ∧ ∀ j x,xs[j]? = some x → ∀ i v,(F x)[i]? = some v → W.cell? ⟨b,off + j * c + i,none⟩ = some v
section
variable {H : Type} {enc : TypeId × Value → H} {W : World}
theorem dC {α : Type} {t e : TypeId} {c B : Nat} (F : α → List Value) (G : α → Prop) (ht : Tryz.prog.underlying t = some (.slice e)) (hc : Tryz.prog.cellsOf e = c) (h1 : 1 ≤ c) (hB : Tryz.prog.bytesOf e = B) (hB1 : 1 ≤ B)
  (hel : ∀ fuel ys y,DataW.trod enc Tryz.prog W 0 (fun _ => true) true fuel e ys = some y → (∀ n ∈ y.1.weights Tryz.prog e,n ≤ reachBytes) → ∃ a : α,ys = F a ∧ G a)
  {fuel : Nat} {cs : List Value} {x : DataW H × List MemPlace} (h : DataW.trod enc Tryz.prog W 0 (fun _ => true) true fuel t cs = some x) (hw : ∀ n ∈ x.1.weights Tryz.prog t,n ≤ reachBytes) :
  ∃ (a : Option Addr) (n cap : Nat) (xs : List α),cs = [.slice a n cap] ∧ ei W c F a n cap xs ∧ ∀ (j : Nat) x,xs[j]? = some x → G x:=by
 rcases DataW.trod_slice ht h with ⟨hcs,_⟩ | ⟨x,len,cap,elems,rest,n,_,hcs,hx,hb,hl,hm,hlen,hem,hsp,hns⟩
 ·exact ⟨none,0,0,[],hcs,⟨Nat.le_refl _,ae,rfl,fun b off s h => by simp [nz] at h,.inl rfl⟩,fun j x hj => by simp at hj⟩
 ·have hd:=congrArg Prod.fst hx
  simp only at hd
  rw [hd] at hw
  have hbound : len ≤ 140737488355328:=by
   have h2:=hw ((elems.length + rest.length) * B) (by simp [DataW.weights,ht,hB])
   simp only [reachBytes] at h2
   have h3 : (elems.length + rest.length) * 1 ≤ (elems.length + rest.length) * B:=Nat.mul_le_mul_left _ hB1;omega
  by_cases h0 : len = 0
  ·subst h0
   exact ⟨_,0,cap,[],hcs,⟨Nat.zero_le _,ae,rfl,fun b off s h => by simp [nz] at h,.inl rfl⟩,fun j x hj => by simp at hj⟩
  obtain ⟨b,off,spot⟩:=x
  have hadd0 : ∀ (y : Addr),y.add 0 = y:=by intro y; cases y with | mk p q r => cases r <;> simp [Addr.add]
  have hstep : ∀ j,j < len → ∃ y : α,(F y).length = c ∧ G y ∧ ∀ i,i < c → W.cell? (((⟨b,off,spot⟩ : Addr).add (j * c)).add i) = (F y)[i]?:=by
   intro j hj;have he:=hem j hj;rw [aD ae] at he;obtain ⟨ys,hys,htr⟩:=Option.bind_eq_some_iff.1 he;rw [hc] at hys;obtain ⟨_,hlc,hcell⟩:=World.cells?_some hys
   have hmem : (elems[j]'(ae)).1 ∈ elems.map (·.1):=List.mem_map.2 ⟨_,List.getElem_mem _,rfl⟩
   obtain ⟨y,rfl,hG⟩:=hel _ _ _ htr (fun n hn => hw n (by
    have hin:=jq (P:=Tryz.prog) (e:=e) hmem n hn
    simp only [DataW.weights,ht,List.mem_cons,List.mem_append]
    exact .inr (.inl hin)))
   exact ⟨y,hlc,hG,hcell⟩
  have hspot : spot = none:=by
   obtain ⟨y,hy,_,hcl⟩:=hstep 0 ae;have h2:=hcl 0 ae;rw [aD ae] at h2
   have:=World.cell?_spot h2
   simpa [Addr.add] using this
  subst hspot
  have hplain : ∀ (p q i : Nat),(⟨p,q,none⟩ : Addr).add i = ⟨p,q + i,none⟩:=by intro p q i; unfold Addr.add; split <;> simp_all
  obtain ⟨xs,hxl,hxs⟩:=t7 (P:=fun j (y : α) => (F y).length = c ∧ G y ∧ ∀ i,i < c → W.cell? ⟨b,off + j * c + i,none⟩ = (F y)[i]?) len (fun j hj => by
   obtain ⟨y,q1,q2,q3⟩:=hstep j hj
   exact ⟨y,q1,q2,fun i hi => by have:=q3 i hi; rwa [hplain,hplain] at this⟩)
  refine ⟨_,len,cap,xs,hcs,⟨hl,hbound,hxl,fun b' off' s' hb' => ?_,.inr ⟨b,off,rfl,fun j x hj i v hv => ?_⟩⟩,fun j x hj => (hxs j x hj).2.1⟩
  ·have e:=ye hb'
   cases e
   obtain ⟨y,hy,_,hcl⟩:=hstep 0 ae;have h2:=hcl 0 ae;rw [aD ae,hplain,hplain] at h2;exact World.block_lt_of_cell? W _ h2
  ·have hi : i < (F x).length:=(List.getElem?_eq_some_iff.1 hv).1;have q:=hxs j x hj;rw [q.1] at hi;rw [q.2.2 i hi];exact hv
theorem jY {t : TypeId} (ht : Tryz.prog.underlying t = some .string) {fuel : Nat} {cs : List Value} {x : DataW H × List MemPlace} (h : DataW.trod enc Tryz.prog W 0 (fun _ => true) true fuel t cs = some x) (hw : ∀ n ∈ x.1.weights Tryz.prog t,n ≤ reachBytes) : ∃ s : ByteArray,cs = [.string s] ∧ s.size ≤ 140737488355328:=by
 obtain ⟨s,hs,hx,_⟩:=DataW.trod_string ht h;refine ⟨s,hs,?_⟩;rw [hx] at hw
 have:=hw s.data.toList.length (by unfold DataW.weights; exact List.mem_singleton.2 rfl)
 simp only [reachBytes] at this
 have e : s.size = s.data.toList.length:=by rw [Array.length_toList]; rfl
 omega
theorem uD : Tryz.prog.cellsOf 73 = 2:=ai
theorem iL : Tryz.prog.cellsOf 3 = 1:=ai
theorem qi : Tryz.prog.cellsOf 102 = 3:=ai
theorem uo : Tryz.prog.cellsOf 78 = 3:=ai
theorem uG : Tryz.prog.cellsOf 81 = 2:=ai
theorem vD : Tryz.prog.cellsOf 83 = 2:=ai
theorem uM : Tryz.prog.cellsOf 75 = 3:=ai
theorem rA : Tryz.prog.cellsOf 5 = 1:=ai
theorem nX : Tryz.prog.cellsOf 9 = 1:=ai
theorem IU : Tryz.prog.cellsOf 4 = 1:=ai
theorem Bz : Tryz.prog.cellsOf 100 = 1:=ai
theorem GC : Tryz.prog.cellsOf 2 = 1:=ai
theorem Fu : Tryz.prog.cellsOf 76 = 1:=ai
theorem tP : Tryz.prog.cellsOf 23 = 1:=ai
theorem Cg : Tryz.prog.cellsOf 63 = 1:=ai
theorem CL : Tryz.prog.cellsOf 22 = 1:=ai
theorem Gh : Tryz.prog.cellsOf 24 = 1:=ai
theorem E0 : Tryz.prog.cellsOf 25 = 1:=ai
theorem F9 : Tryz.prog.cellsOf 26 = 1:=ai
theorem C2 : Tryz.prog.cellsOf 27 = 1:=ai
theorem Ed : Tryz.prog.cellsOf 29 = 8:=ai
theorem DM : Tryz.prog.bytesOf 73 = 32:=ai
theorem yX : Tryz.prog.bytesOf 3 = 8:=ai
theorem Bu : Tryz.prog.bytesOf 102 = 16:=ai
theorem C7 : Tryz.prog.bytesOf 78 = 48:=ai
theorem DB : Tryz.prog.bytesOf 81 = 32:=ai
theorem CH : Tryz.prog.bytesOf 83 = 24:=ai
theorem Fz : Tryz.prog.bytesOf 75 = 40:=ai
theorem I0 : Tryz.prog.bytesOf 5 = 1:=ai
theorem tE {fuel : Nat} {cs : List Value} {x : DataW H × List MemPlace} (h : DataW.trod enc Tryz.prog W 0 (fun _ => true) true fuel 3 cs = some x) (hw : ∀ n ∈ x.1.weights Tryz.prog 3,n ≤ reachBytes) : ∃ a : Int,cs = [.int .i64 a] ∧ (-9223372036854775808 ≤ a ∧ a < 9223372036854775808):=by
 obtain ⟨n,h1,_,wf⟩:=DataW.trod_int Tryz.underlying3 h
 have:=bounds_i64 wf
 exact ⟨n,h1,ae,ae⟩
theorem Kb {fuel : Nat} {cs : List Value} {x : DataW H × List MemPlace} (h : DataW.trod enc Tryz.prog W 0 (fun _ => true) true fuel 5 cs = some x) (hw : ∀ n ∈ x.1.weights Tryz.prog 5,n ≤ reachBytes) : ∃ a : Int,cs = [.int .u8 a] ∧ (0 ≤ a ∧ a ≤ 255):=by
 obtain ⟨n,h1,_,wf⟩:=DataW.trod_int Tryz.underlying5 h
 have:=bounds_u8 wf
 exact ⟨n,h1,ae,ae⟩
def Gj (x : ByteArray × ByteArray) : List Value:=[.string x.1,.string x.2]
def Je (W : World) (x : ByteArray × ByteArray) : Prop:=x.1.size ≤ 140737488355328 ∧ x.2.size ≤ 140737488355328
theorem CX {fuel : Nat} {cs : List Value} {x : DataW H × List MemPlace} (h : DataW.trod enc Tryz.prog W 0 (fun _ => true) true fuel 73 cs = some x) (hw : ∀ n ∈ x.1.weights Tryz.prog 73,n ≤ reachBytes) : ∃ a : ByteArray × ByteArray,cs = Gj a ∧ Je W a:=by
 obtain ⟨ys,m,_,hx,hl,hyl,hel⟩:=DataW.trod_struct Tryz.underlying73 h;rw [uD] at hl;have hd:=congrArg Prod.fst hx
 simp only at hd
 rw [hd] at hw
 match ys,hyl with
 | [y0,y1],_ =>
  match cs,hl with
  | [x0,x1],_ =>
   have e0 : DataW.trod enc Tryz.prog W 0 (fun _ => true) true m 9 (([x0,x1].drop 0).take (Tryz.prog.cellsOf 9)) = some y0:=hel 0 _ rfl
   have w0:=aN (j:=0) (u:=9) (y:=y0) Tryz.underlying73 rfl rfl hw;rw [nX] at e0;obtain ⟨p,h0,z0⟩:=jY Tryz.underlying9 e0 w0
   have e1 : DataW.trod enc Tryz.prog W 0 (fun _ => true) true m 9 (([x0,x1].drop 1).take (Tryz.prog.cellsOf 9)) = some y1:=hel 1 _ rfl
   have w1:=aN (j:=1) (u:=9) (y:=y1) Tryz.underlying73 rfl rfl hw;rw [nX] at e1;obtain ⟨q,h1,z1⟩:=jY Tryz.underlying9 e1 w1
   simp at h0 h1
   subst h0 h1;exact ⟨(p,q),rfl,z0,z1⟩
def FGl (x : Int × Bool × Int) : List Value:=[.int .u8 x.1,.bool x.2.1,.int .u64 x.2.2]
def GGl (W : World) (x : Int × Bool × Int) : Prop:=0 ≤ x.1 ∧ x.1 ≤ 255 ∧ 0 ≤ x.2.2 ∧ x.2.2 < 18446744073709551616
theorem G7 {fuel : Nat} {cs : List Value} {x : DataW H × List MemPlace} (h : DataW.trod enc Tryz.prog W 0 (fun _ => true) true fuel 102 cs = some x) (hw : ∀ n ∈ x.1.weights Tryz.prog 102,n ≤ reachBytes) : ∃ a : Int × Bool × Int,cs = FGl a ∧ GGl W a:=by
 obtain ⟨ys,m,_,hx,hl,hyl,hel⟩:=DataW.trod_struct Tryz.underlying102 h;rw [qi] at hl;have hd:=congrArg Prod.fst hx
 simp only at hd
 rw [hd] at hw
 match ys,hyl with
 | [y0,y1,y2],_ =>
  match cs,hl with
  | [x0,x1,x2],_ =>
   have e0 : DataW.trod enc Tryz.prog W 0 (fun _ => true) true m 5 (([x0,x1,x2].drop 0).take (Tryz.prog.cellsOf 5)) = some y0:=hel 0 _ rfl
   have w0:=aN (j:=0) (u:=5) (y:=y0) Tryz.underlying102 rfl rfl hw;rw [rA] at e0;obtain ⟨p,h0,_,wf0⟩:=DataW.trod_int Tryz.underlying5 e0;have b0:=bounds_u8 wf0
   have e1 : DataW.trod enc Tryz.prog W 0 (fun _ => true) true m 4 (([x0,x1,x2].drop 1).take (Tryz.prog.cellsOf 4)) = some y1:=hel 1 _ rfl
   have w1:=aN (j:=1) (u:=4) (y:=y1) Tryz.underlying102 rfl rfl hw;rw [IU] at e1;obtain ⟨q,h1,_⟩:=DataW.trod_bool Tryz.underlying4 e1
   have e2 : DataW.trod enc Tryz.prog W 0 (fun _ => true) true m 100 (([x0,x1,x2].drop 2).take (Tryz.prog.cellsOf 100)) = some y2:=hel 2 _ rfl
   have w2:=aN (j:=2) (u:=100) (y:=y2) Tryz.underlying102 rfl rfl hw;rw [Bz] at e2;obtain ⟨r,h2,_,wf2⟩:=DataW.trod_int Tryz.underlying100 e2;have b2:=bounds_u64 wf2
   simp at h0 h1 h2
   subst h0 h1 h2;exact ⟨(p,q,r),rfl,fw,fw,fw,fw⟩
def FEx (x : ByteArray × Int) : List Value:=[.string x.1,.int .i64 x.2]
def GEx (W : World) (x : ByteArray × Int) : Prop:=x.1.size ≤ 140737488355328 ∧ -9223372036854775808 ≤ x.2 ∧ x.2 < 9223372036854775808
theorem Ie {fuel : Nat} {cs : List Value} {x : DataW H × List MemPlace} (h : DataW.trod enc Tryz.prog W 0 (fun _ => true) true fuel 83 cs = some x) (hw : ∀ n ∈ x.1.weights Tryz.prog 83,n ≤ reachBytes) : ∃ a : ByteArray × Int,cs = FEx a ∧ GEx W a:=by
 obtain ⟨ys,m,_,hx,hl,hyl,hel⟩:=DataW.trod_struct Tryz.underlying83 h;rw [vD] at hl;have hd:=congrArg Prod.fst hx
 simp only at hd
 rw [hd] at hw
 match ys,hyl with
 | [y0,y1],_ =>
  match cs,hl with
  | [x0,x1],_ =>
   have e0 : DataW.trod enc Tryz.prog W 0 (fun _ => true) true m 9 (([x0,x1].drop 0).take (Tryz.prog.cellsOf 9)) = some y0:=hel 0 _ rfl
   have w0:=aN (j:=0) (u:=9) (y:=y0) Tryz.underlying83 rfl rfl hw;rw [nX] at e0;obtain ⟨p,h0,z0⟩:=jY Tryz.underlying9 e0 w0
   have e1 : DataW.trod enc Tryz.prog W 0 (fun _ => true) true m 3 (([x0,x1].drop 1).take (Tryz.prog.cellsOf 3)) = some y1:=hel 1 _ rfl
   have w1:=aN (j:=1) (u:=3) (y:=y1) Tryz.underlying83 rfl rfl hw;rw [iL] at e1;obtain ⟨q,h1,_,wf1⟩:=DataW.trod_int Tryz.underlying3 e1;have b1:=bounds_i64 wf1
   simp at h0 h1
   subst h0 h1;exact ⟨(p,q),rfl,z0,fw,fw⟩
def FIn (x : Int × Int × (Option Addr × Nat × Nat) × List Int) : List Value:=[.int .u8 x.1,.int .i64 x.2.1,.slice x.2.2.1.1 x.2.2.1.2.1 x.2.2.1.2.2]
def GIn (W : World) (x : Int × Int × (Option Addr × Nat × Nat) × List Int) : Prop:=0 ≤ x.1 ∧ x.1 ≤ 255 ∧ ei W 1 (fun (z : Int) => [Value.int .i64 z]) x.2.2.1.1 x.2.2.1.2.1 x.2.2.1.2.2 x.2.2.2 ∧ (∀ (j : Nat) a,x.2.2.2[j]? = some a → -9223372036854775808 ≤ a ∧ a < 9223372036854775808) ∧ -9223372036854775808 ≤ x.2.1 ∧ x.2.1 < 9223372036854775808
theorem Ir {fuel : Nat} {cs : List Value} {x : DataW H × List MemPlace} (h : DataW.trod enc Tryz.prog W 0 (fun _ => true) true fuel 75 cs = some x) (hw : ∀ n ∈ x.1.weights Tryz.prog 75,n ≤ reachBytes) : ∃ a : Int × Int × (Option Addr × Nat × Nat) × List Int,cs = FIn a ∧ GIn W a:=by
 obtain ⟨ys,m,_,hx,hl,hyl,hel⟩:=DataW.trod_struct Tryz.underlying75 h;rw [uM] at hl;have hd:=congrArg Prod.fst hx
 simp only at hd
 rw [hd] at hw
 match ys,hyl with
 | [y0,y1,y2],_ =>
  match cs,hl with
  | [x0,x1,x2],_ =>
   have e0 : DataW.trod enc Tryz.prog W 0 (fun _ => true) true m 5 (([x0,x1,x2].drop 0).take (Tryz.prog.cellsOf 5)) = some y0:=hel 0 _ rfl
   have w0:=aN (j:=0) (u:=5) (y:=y0) Tryz.underlying75 rfl rfl hw;rw [rA] at e0;obtain ⟨p,h0,_,wf0⟩:=DataW.trod_int Tryz.underlying5 e0;have b0:=bounds_u8 wf0
   have e1 : DataW.trod enc Tryz.prog W 0 (fun _ => true) true m 2 (([x0,x1,x2].drop 1).take (Tryz.prog.cellsOf 2)) = some y1:=hel 1 _ rfl
   have w1:=aN (j:=1) (u:=2) (y:=y1) Tryz.underlying75 rfl rfl hw;rw [GC] at e1;obtain ⟨q,h1,_,wf1⟩:=DataW.trod_int Tryz.underlying2 e1;have b1:=bounds_i64 wf1
   have e2 : DataW.trod enc Tryz.prog W 0 (fun _ => true) true m 23 (([x0,x1,x2].drop 2).take (Tryz.prog.cellsOf 23)) = some y2:=hel 2 _ rfl
   have w2:=aN (j:=2) (u:=23) (y:=y2) Tryz.underlying75 rfl rfl hw;rw [tP] at e2
   obtain ⟨la,ln,lc,ls,h2,at2,el2⟩:=(dC (c:=1) (B:=8) (fun (z : Int) => [Value.int .i64 z]) (fun (a : Int) => -9223372036854775808 ≤ a ∧ a < 9223372036854775808) Tryz.underlying23 iL aq yX aq (fun _ _ _ h1 h2 => tE h1 h2)) e2 w2
   simp at h0 h1 h2
   subst h0 h1 h2;exact ⟨(p,q,(la,ln,lc),ls),rfl,fw,fw,at2,el2,fw,fw⟩
def FFu (x : Int × ByteArray × (Option Addr × Nat × Nat) × List (Int × Int × (Option Addr × Nat × Nat) × List Int)) : List Value:=[.int .i64 x.1,.string x.2.1,.slice x.2.2.1.1 x.2.2.1.2.1 x.2.2.1.2.2]
def GFu (W : World) (x : Int × ByteArray × (Option Addr × Nat × Nat) × List (Int × Int × (Option Addr × Nat × Nat) × List Int)) : Prop:=(-9223372036854775808 ≤ x.1 ∧ x.1 < 9223372036854775808) ∧ x.2.1.size ≤ 140737488355328 ∧ ei W 3 FIn x.2.2.1.1 x.2.2.1.2.1 x.2.2.1.2.2 x.2.2.2 ∧ ∀ (j : Nat) y,x.2.2.2[j]? = some y → GIn W y
theorem IL {fuel : Nat} {cs : List Value} {x : DataW H × List MemPlace} (h : DataW.trod enc Tryz.prog W 0 (fun _ => true) true fuel 78 cs = some x) (hw : ∀ n ∈ x.1.weights Tryz.prog 78,n ≤ reachBytes) : ∃ a : Int × ByteArray × (Option Addr × Nat × Nat) × List (Int × Int × (Option Addr × Nat × Nat) × List Int),cs = FFu a ∧ GFu W a:=by
 obtain ⟨ys,m,_,hx,hl,hyl,hel⟩:=DataW.trod_struct Tryz.underlying78 h;rw [uo] at hl;have hd:=congrArg Prod.fst hx
 simp only at hd
 rw [hd] at hw
 match ys,hyl with
 | [y0,y1,y2],_ =>
  match cs,hl with
  | [x0,x1,x2],_ =>
   have e0 : DataW.trod enc Tryz.prog W 0 (fun _ => true) true m 3 (([x0,x1,x2].drop 0).take (Tryz.prog.cellsOf 3)) = some y0:=hel 0 _ rfl
   have w0:=aN (j:=0) (u:=3) (y:=y0) Tryz.underlying78 rfl rfl hw;rw [iL] at e0;obtain ⟨p,h0,_,wf0⟩:=DataW.trod_int Tryz.underlying3 e0;have b0:=bounds_i64 wf0
   have e1 : DataW.trod enc Tryz.prog W 0 (fun _ => true) true m 9 (([x0,x1,x2].drop 1).take (Tryz.prog.cellsOf 9)) = some y1:=hel 1 _ rfl
   have w1:=aN (j:=1) (u:=9) (y:=y1) Tryz.underlying78 rfl rfl hw;rw [nX] at e1;obtain ⟨q,h1,z1⟩:=jY Tryz.underlying9 e1 w1
   have e2 : DataW.trod enc Tryz.prog W 0 (fun _ => true) true m 76 (([x0,x1,x2].drop 2).take (Tryz.prog.cellsOf 76)) = some y2:=hel 2 _ rfl
   have w2:=aN (j:=2) (u:=76) (y:=y2) Tryz.underlying78 rfl rfl hw;rw [Fu] at e2
   obtain ⟨la,ln,lc,ls,h2,at2,el2⟩:=(dC (c:=3) (B:=40) FIn (GIn W) Tryz.underlying76 uM aq Fz aq (fun _ _ _ h1 h2 => Ir h1 h2)) e2 w2
   simp at h0 h1 h2
   subst h0 h1 h2;exact ⟨(p,q,(la,ln,lc),ls),rfl,⟨fw,fw⟩,z1,at2,el2⟩
def FDa (x : Int × (Option Addr × Nat × Nat) × List Int) : List Value:=[.int .i64 x.1,.slice x.2.1.1 x.2.1.2.1 x.2.1.2.2]
def GDa (W : World) (x : Int × (Option Addr × Nat × Nat) × List Int) : Prop:=(-9223372036854775808 ≤ x.1 ∧ x.1 < 9223372036854775808) ∧ ei W 1 (fun (z : Int) => [Value.int .u8 z]) x.2.1.1 x.2.1.2.1 x.2.1.2.2 x.2.2 ∧ ∀ (j : Nat) a,x.2.2[j]? = some a → 0 ≤ a ∧ a ≤ 255
theorem Hw {fuel : Nat} {cs : List Value} {x : DataW H × List MemPlace} (h : DataW.trod enc Tryz.prog W 0 (fun _ => true) true fuel 81 cs = some x) (hw : ∀ n ∈ x.1.weights Tryz.prog 81,n ≤ reachBytes) : ∃ a : Int × (Option Addr × Nat × Nat) × List Int,cs = FDa a ∧ GDa W a:=by
 obtain ⟨ys,m,_,hx,hl,hyl,hel⟩:=DataW.trod_struct Tryz.underlying81 h;rw [uG] at hl;have hd:=congrArg Prod.fst hx
 simp only at hd
 rw [hd] at hw
 match ys,hyl with
 | [y0,y1],_ =>
  match cs,hl with
  | [x0,x1],_ =>
   have e0 : DataW.trod enc Tryz.prog W 0 (fun _ => true) true m 3 (([x0,x1].drop 0).take (Tryz.prog.cellsOf 3)) = some y0:=hel 0 _ rfl
   have w0:=aN (j:=0) (u:=3) (y:=y0) Tryz.underlying81 rfl rfl hw;rw [iL] at e0;obtain ⟨p,h0,_,wf0⟩:=DataW.trod_int Tryz.underlying3 e0;have b0:=bounds_i64 wf0
   have e1 : DataW.trod enc Tryz.prog W 0 (fun _ => true) true m 63 (([x0,x1].drop 1).take (Tryz.prog.cellsOf 63)) = some y1:=hel 1 _ rfl
   have w1:=aN (j:=1) (u:=63) (y:=y1) Tryz.underlying81 rfl rfl hw;rw [Cg] at e1
   obtain ⟨la,ln,lc,ls,h1,at1,el1⟩:=(dC (c:=1) (B:=1) (fun (z : Int) => [Value.int .u8 z]) (fun (a : Int) => 0 ≤ a ∧ a ≤ 255) Tryz.underlying63 rA aq I0 aq (fun _ _ _ h1 h2 => Kb h1 h2)) e1 w1
   simp at h0 h1
   subst h0 h1;exact ⟨(p,(la,ln,lc),ls),rfl,⟨fw,fw⟩,at1,el1⟩
theorem FN {fuel : Nat} {cs : List Value} {x : DataW H × List MemPlace} (h : DataW.trod enc Tryz.prog W 0 (fun _ => true) true fuel 29 cs = some x) (hw : ∀ n ∈ x.1.weights Tryz.prog 29,n ≤ reachBytes) :
  ∃ (ta : Option Addr) (tn tc : Nat) (ts : List (ByteArray × ByteArray)) (ha : Option Addr) (hn hc : Nat) (hs : List Int) (ga : Option Addr) (gn gc : Nat) (gs : List (Int × Bool × Int)) (fi mo : Int) (fa : Option Addr) (fn fc : Nat) (fs : List (Int × ByteArray × (Option Addr × Nat × Nat) × List (Int × Int × (Option Addr × Nat × Nat) × List Int))) (da : Option Addr) (dn dc : Nat) (ds : List (Int × (Option Addr × Nat × Nat) × List Int)) (ea : Option Addr) (en ec : Nat) (es : List (ByteArray × Int)),
   cs = [.slice ta tn tc,.slice ha hn hc,.slice ga gn gc,.int .i64 fi,.int .i64 mo,.slice fa fn fc,.slice da dn dc,.slice ea en ec] ∧
   (ei W 2 Gj ta tn tc ts ∧ ∀ (j : Nat) x,ts[j]? = some x → Je W x) ∧ (ei W 1 (fun (z : Int) => [Value.int .i64 z]) ha hn hc hs ∧ ∀ (j : Nat) a,hs[j]? = some a → -9223372036854775808 ≤ a ∧ a < 9223372036854775808) ∧ (ei W 3 FGl ga gn gc gs ∧ ∀ (j : Nat) x,gs[j]? = some x → GGl W x) ∧ (-9223372036854775808 ≤ fi ∧ fi < 9223372036854775808) ∧ (-9223372036854775808 ≤ mo ∧ mo < 9223372036854775808) ∧ (ei W 3 FFu fa fn fc fs ∧ ∀ (j : Nat) x,fs[j]? = some x → GFu W x) ∧ (ei W 2 FDa da dn dc ds ∧ ∀ (j : Nat) x,ds[j]? = some x → GDa W x) ∧ (ei W 2 FEx ea en ec es ∧ ∀ (j : Nat) x,es[j]? = some x → GEx W x):=by
 obtain ⟨ys,m,_,hx,hl,hyl,hel⟩:=DataW.trod_struct Tryz.underlying29 h;rw [Ed] at hl;have hd:=congrArg Prod.fst hx
 simp only at hd
 rw [hd] at hw
 match ys,hyl with
 | [y0,y1,y2,y3,y4,y5,y6,y7],_ =>
  match cs,hl with
  | [x0,x1,x2,x3,x4,x5,x6,x7],_ =>
   have e0 : DataW.trod enc Tryz.prog W 0 (fun _ => true) true m 22 (([x0,x1,x2,x3,x4,x5,x6,x7].drop 0).take (Tryz.prog.cellsOf 22)) = some y0:=hel 0 _ rfl
   have w0:=aN (j:=0) (u:=22) (y:=y0) Tryz.underlying29 rfl rfl hw;rw [CL] at e0
   obtain ⟨ta,tn,tc,ts,h0,at0,el0⟩:=(dC (c:=2) (B:=32) Gj (Je W) Tryz.underlying22 uD aq DM aq (fun _ _ _ h1 h2 => CX h1 h2)) e0 w0
   have e1 : DataW.trod enc Tryz.prog W 0 (fun _ => true) true m 23 (([x0,x1,x2,x3,x4,x5,x6,x7].drop 1).take (Tryz.prog.cellsOf 23)) = some y1:=hel 1 _ rfl
   have w1:=aN (j:=1) (u:=23) (y:=y1) Tryz.underlying29 rfl rfl hw;rw [tP] at e1
   obtain ⟨ha,hn,hc,hs,h1,at1,el1⟩:=(dC (c:=1) (B:=8) (fun (z : Int) => [Value.int .i64 z]) (fun (a : Int) => -9223372036854775808 ≤ a ∧ a < 9223372036854775808) Tryz.underlying23 iL aq yX aq (fun _ _ _ h1 h2 => tE h1 h2)) e1 w1
   have e2 : DataW.trod enc Tryz.prog W 0 (fun _ => true) true m 24 (([x0,x1,x2,x3,x4,x5,x6,x7].drop 2).take (Tryz.prog.cellsOf 24)) = some y2:=hel 2 _ rfl
   have w2:=aN (j:=2) (u:=24) (y:=y2) Tryz.underlying29 rfl rfl hw;rw [Gh] at e2
   obtain ⟨ga,gn,gc,gs,h2,at2,el2⟩:=(dC (c:=3) (B:=16) FGl (GGl W) Tryz.underlying24 qi aq Bu aq (fun _ _ _ h1 h2 => G7 h1 h2)) e2 w2
   have e3 : DataW.trod enc Tryz.prog W 0 (fun _ => true) true m 3 (([x0,x1,x2,x3,x4,x5,x6,x7].drop 3).take (Tryz.prog.cellsOf 3)) = some y3:=hel 3 _ rfl
   have w3:=aN (j:=3) (u:=3) (y:=y3) Tryz.underlying29 rfl rfl hw;rw [iL] at e3;obtain ⟨fi,h3,b3⟩:=tE e3 w3
   have e4 : DataW.trod enc Tryz.prog W 0 (fun _ => true) true m 3 (([x0,x1,x2,x3,x4,x5,x6,x7].drop 4).take (Tryz.prog.cellsOf 3)) = some y4:=hel 4 _ rfl
   have w4:=aN (j:=4) (u:=3) (y:=y4) Tryz.underlying29 rfl rfl hw;rw [iL] at e4;obtain ⟨mo,h4,b4⟩:=tE e4 w4
   have e5 : DataW.trod enc Tryz.prog W 0 (fun _ => true) true m 25 (([x0,x1,x2,x3,x4,x5,x6,x7].drop 5).take (Tryz.prog.cellsOf 25)) = some y5:=hel 5 _ rfl
   have w5:=aN (j:=5) (u:=25) (y:=y5) Tryz.underlying29 rfl rfl hw;rw [E0] at e5
   obtain ⟨fa,fn,fc,fs,h5,at5,el5⟩:=(dC (c:=3) (B:=48) FFu (GFu W) Tryz.underlying25 uo aq C7 aq (fun _ _ _ h1 h2 => IL h1 h2)) e5 w5
   have e6 : DataW.trod enc Tryz.prog W 0 (fun _ => true) true m 26 (([x0,x1,x2,x3,x4,x5,x6,x7].drop 6).take (Tryz.prog.cellsOf 26)) = some y6:=hel 6 _ rfl
   have w6:=aN (j:=6) (u:=26) (y:=y6) Tryz.underlying29 rfl rfl hw;rw [F9] at e6
   obtain ⟨da,dn,dc,ds,h6,at6,el6⟩:=(dC (c:=2) (B:=32) FDa (GDa W) Tryz.underlying26 uG aq DB aq (fun _ _ _ h1 h2 => Hw h1 h2)) e6 w6
   have e7 : DataW.trod enc Tryz.prog W 0 (fun _ => true) true m 27 (([x0,x1,x2,x3,x4,x5,x6,x7].drop 7).take (Tryz.prog.cellsOf 27)) = some y7:=hel 7 _ rfl
   have w7:=aN (j:=7) (u:=27) (y:=y7) Tryz.underlying29 rfl rfl hw;rw [C2] at e7
   obtain ⟨ea,en,ec,es,h7,at7,el7⟩:=(dC (c:=2) (B:=24) FEx (GEx W) Tryz.underlying27 vD aq CH aq (fun _ _ _ h1 h2 => Ie h1 h2)) e7 w7
   simp at h0 h1 h2 h3 h4 h5 h6 h7
   subst h0 h1 h2 h3 h4 h5 h6 h7;exact ⟨ta,tn,tc,ts,ha,hn,hc,hs,ga,gn,gc,gs,fi,mo,fa,fn,fc,fs,da,dn,dc,ds,ea,en,ec,es,rfl,⟨at0,el0⟩,⟨at1,el1⟩,⟨at2,el2⟩,b3,b4,⟨at5,el5⟩,⟨at6,el6⟩,⟨at7,el7⟩⟩
end
structure Raw (W : World) (m : MM) : Prop where
 t : ei W 2 Gj m.ta m.tn m.tc m.types
 tg : ∀ (j : Nat) x,m.types[j]? = some x → Je W x
 h : ei W 1 (fun (z : Int) => [Value.int .i64 z]) m.ha m.hn m.hc m.hosts
 hg : ∀ (j : Nat) a,m.hosts[j]? = some a → -9223372036854775808 ≤ a ∧ a < 9223372036854775808
 g : ei W 3 FGl m.ga m.gn m.gc m.globals
 gg : ∀ (j : Nat) x,m.globals[j]? = some x → GGl W x
 i : -9223372036854775808 ≤ m.fi ∧ m.fi < 9223372036854775808
 o : -9223372036854775808 ≤ m.mo ∧ m.mo < 9223372036854775808
 f : ei W 3 FFu m.fa m.fn m.fc m.fns
 fg : ∀ (j : Nat) x,m.fns[j]? = some x → GFu W x
 d : ei W 2 FDa m.da m.dn m.dc m.data
 dg : ∀ (j : Nat) x,m.data[j]? = some x → GDa W x
 e : ei W 2 FEx m.ea m.en m.ec m.exps
 eg : ∀ (j : Nat) x,m.exps[j]? = some x → GEx W x
 top : ∀ a ∈ [m.ta,m.ha,m.ga,m.fa,m.da,m.ea],∀ b off s,a = some ⟨b,off,s⟩ → b < W.heap.size
def Small (m : MM) : Prop:=o8 m.types + js m.fns + mI m.data + kT m.exps ≤ 131072
theorem AB {l : List Nat} {x : Nat} (h : x ∈ l) : x ≤ l.sum:=by
 induction l with
 | nil => cases h
 | cons a l ih =>
  rcases List.mem_cons.1 h with rfl | h
  ·simp
  ·have:=ih h; simp; omega
theorem mz {α : Type} {f : α → Nat} {l : List α} {x : α} (h : x ∈ l) : f x ≤ (l.map f).sum:=AB (List.mem_map.2 ⟨x,h,rfl⟩)
theorem ou : ∀ (xs : List InM) (z : Nat),szG xs z ≤ 131072 → z ≤ 131072 ∧ ∀ x ∈ xs,x.2.2.1.2.1 ≤ 131072
 | [],z,h => ⟨h,fun x hx => jf⟩
 | y :: r,z,h => by
  by_cases hz : z ≤ 2147483647
  ·rw [yM hz] at h;obtain ⟨h1,h2⟩:=ou r _ h
   refine ⟨ae,fun x hx => ?_⟩
   rcases List.mem_cons.1 hx with rfl | hx
   ·omega
   ·exact h2 x hx
  ·rw [zG hz] at h;omega
section
variable {W : World} {m : MM}
theorem ei.sig {a : Option Addr} {n cap : Nat} {xs : List Sg} (h : ei W 2 Gj a n cap xs) : gp W a n xs :=
 ⟨h.len,h.at_.imp id fun ⟨b,off,e,hc⟩ => ⟨b,off,e,fun j x hj => ⟨hc j x hj 0 _ rfl,hc j x hj 1 _ rfl⟩⟩⟩
theorem ei.nu {a : Option Addr} {n cap : Nat} {xs : List Int} (h : ei W 1 (fun (z : Int) => [Value.int .i64 z]) a n cap xs) : jK W a n xs :=
 ⟨h.len,h.at_.imp id fun ⟨b,off,e,hc⟩ => ⟨b,off,e,fun j x hj => by have:=hc j x hj 0 _ rfl; rwa [Nat.mul_one] at this⟩⟩
theorem ei.gl {a : Option Addr} {n cap : Nat} {xs : List Gl} (h : ei W 3 FGl a n cap xs) : mM W a n xs :=
 ⟨h.len,h.at_.imp id fun ⟨b,off,e,hc⟩ => ⟨b,off,e,fun j x hj => ⟨hc j x hj 0 _ rfl,hc j x hj 1 _ rfl,hc j x hj 2 _ rfl⟩⟩⟩
theorem ei.fu {a : Option Addr} {n cap : Nat} {xs : List FuM} (h : ei W 3 FFu a n cap xs) : kp W a n xs :=
 ⟨h.len,h.at_.imp id fun ⟨b,off,e,hc⟩ => ⟨b,off,e,fun j x hj => ⟨hc j x hj 0 _ rfl,hc j x hj 1 _ rfl,hc j x hj 2 _ rfl⟩⟩⟩
theorem ei.in_ {a : Option Addr} {n cap : Nat} {xs : List InM} (h : ei W 3 FIn a n cap xs) : gI W a n xs :=
 ⟨h.len,h.at_.imp id fun ⟨b,off,e,hc⟩ => ⟨b,off,e,fun j x hj => ⟨hc j x hj 0 _ rfl,hc j x hj 1 _ rfl,hc j x hj 2 _ rfl⟩⟩⟩
theorem ei.da {a : Option Addr} {n cap : Nat} {xs : List DaM} (h : ei W 2 FDa a n cap xs) : lu W a n xs :=
 ⟨h.len,h.at_.imp id fun ⟨b,off,e,hc⟩ => ⟨b,off,e,fun j x hj => ⟨hc j x hj 0 _ rfl,hc j x hj 1 _ rfl⟩⟩⟩
theorem ei.ex {a : Option Addr} {n cap : Nat} {xs : List Ex} (h : ei W 2 FEx a n cap xs) : lF W a n xs :=
 ⟨h.len,h.at_.imp id fun ⟨b,off,e,hc⟩ => ⟨b,off,e,fun j x hj => ⟨hc j x hj 0 _ rfl,hc j x hj 1 _ rfl⟩⟩⟩
theorem ei.segI {a : Option Addr} {n cap : Nat} {xs : List Int} (h : ei W 1 (fun (z : Int) => [Value.int .i64 z]) a n cap xs) (hr : ∀ (j : Nat) a,xs[j]? = some a → -9223372036854775808 ≤ a ∧ a < 9223372036854775808) (hn : n ≤ 131072) : iA W a n cap xs:=by
 refine ⟨h.len,h.cap_,ae,fun z hz => ?_,h.at_.imp id fun ⟨b,off,e,hc⟩ => ⟨b,off,e,fun j hj => ?_⟩⟩
 ·obtain ⟨j,hj⟩:=List.getElem?_of_mem hz
  have:=hr j z hj
  omega
 ·exact Db
theorem ei.segB {a : Option Addr} {n cap : Nat} {xs : List Int} (h : ei W 1 (fun (z : Int) => [Value.int .u8 z]) a n cap xs) (hr : ∀ (j : Nat) a,xs[j]? = some a → 0 ≤ a ∧ a ≤ 255) (hn : n ≤ 131072) : Seg W a n cap xs:=by
 refine ⟨h.len,h.cap_,ae,fun z hz => ?_,h.at_.imp id fun ⟨b,off,e,hc⟩ => ⟨b,off,e,fun j hj => ?_⟩⟩
 ·obtain ⟨j,hj⟩:=List.getElem?_of_mem hz;exact hr j z hj
 ·exact Db
theorem Small.parts (h : Small m) : (∀ (j : Nat) x,m.types[j]? = some x → x.1.size + x.2.size ≤ 131072) ∧ (∀ (j : Nat) x,m.fns[j]? = some x → x.2.1.size ≤ 131072 ∧ ∀ (i : Nat) y,x.2.2.2[i]? = some y → y.2.2.1.2.1 ≤ 131072) ∧ (∀ (j : Nat) x,m.data[j]? = some x → x.2.1.2.1 ≤ 131072) ∧ ∀ (j : Nat) x,m.exps[j]? = some x → x.1.size ≤ 131072:=by
 unfold Small at h
 refine ⟨fun j x hj => ?_,fun j x hj => ?_,fun j x hj => ?_,fun j x hj => ?_⟩
 ·have : x.1.size + x.2.size ≤ o8 m.types:=mz (f:=fun x : Sg => x.1.size + x.2.size) (List.mem_of_getElem? hj)
  omega
 ·have : x.2.1.size + szG x.2.2.2 x.2.2.1.2.1 ≤ js m.fns:=mz (f:=fun x : FuM => x.2.1.size + szG x.2.2.2 x.2.2.1.2.1) (List.mem_of_getElem? hj)
  exact ⟨ae,fun i y hi => (ou x.2.2.2 x.2.2.1.2.1 ae).2 y (List.mem_of_getElem? hi)⟩
 ·have : x.2.1.2.1 ≤ mI m.data:=mz (f:=fun x : DaM => x.2.1.2.1) (List.mem_of_getElem? hj)
  omega
 ·have : x.1.size ≤ kT m.exps:=mz (f:=fun x : Ex => x.1.size) (List.mem_of_getElem? hj)
  omega
theorem Raw.ok (h : Raw W m) (hs : Small m) : ∀ R g,W.heap.size ≤ R → W.heap.size ≤ g → MOk W R g m:=by
 intro R g hR hg;obtain ⟨s1,s2,s3,s4⟩:=hs.parts
 have far : ∀ a ∈ [m.ta,m.ha,m.ga,m.fa,m.da,m.ea],Far W R g a:=fun a ha b off c hb => by have:=h.top a ha b off c hb; omega
 have farN : ∀ {a : Option Addr} {n : Nat},(∀ b off s,nz n a = some ⟨b,off,s⟩ → b < W.heap.size) → Far W R g (nz n a):=fun hl b off c hb => by have:=hl b off c hb; omega
 refine ⟨h.t.sig,far _ ar,h.h.nu,far _ ar,h.hg,h.g.gl,far _ ar,h.gg,h.i.1,h.i.2,h.o.1,h.o.2,h.f.fu,far _ ar,fun j x hj => ?_,h.d.da,far _ ar,fun j x hj => ?_,h.e.ex,far _ ar,fun j x hj => (h.eg j x hj).2⟩
 ·obtain ⟨q1,q2,q3,q4⟩:=h.fg j x hj
  refine ⟨q1,q3.in_,farN q3.lt,fun i y hi => ?_⟩
  obtain ⟨r1,r2,r3,r4,-⟩:=q4 i y hi;exact ⟨r1,r2,r3.segI r4 ((s2 j x hj).2 i y hi),farN r3.lt⟩
 ·obtain ⟨q1,q2,q3⟩:=h.dg j x hj;exact ⟨q1,q2.segB q3 (s3 j x hj),farN q2.lt⟩
theorem Raw.szc (h : Raw W m) : SzC W m :=
 ⟨h.t.big,h.h.big,h.g.big,h.f.big,h.d.big,h.e.big,h.tg,fun j x hj => by
  obtain ⟨q1,q2,q3,q4⟩:=h.fg j x hj
  exact ⟨q2,q3.big,q3.in_,fun i y hi => (q4 i y hi).2.2.1.big⟩,fun j x hj => (h.dg j x hj).2.1.big,fun j x hj => (h.eg j x hj).1⟩
theorem Hm (h : Raw W m) (j : Nat) (x : FuM) (hj : m.fns[j]? = some x) (i : Nat) (y : InM) (hi : x.2.2.2[i]? = some y) : -9223372036854775808 ≤ y.2.1 ∧ y.2.1 ≤ 9223372036854775807:=by
 have:=((h.fg j x hj).2.2.2 i y hi).2.2.2.2
 omega
theorem Raw.cap (h : Raw W m) : ∀ x ∈ m.fns,x.2.2.1.2.1 ≤ x.2.2.1.2.2:=fun x hx => by
 obtain ⟨j,hj⟩:=List.getElem?_of_mem hx;exact (h.fg j x hj).2.2.1.cap_
theorem Raw.later {W' : World} (h : Raw W m) (hb : Below W.heap.size W W') : SzC W' m ∧ gp W' m.ta m.tn m.types ∧ kp W' m.fa m.fn m.fns ∧ lu W' m.da m.dn m.data ∧ lF W' m.ea m.en m.exps:=by
 have hk : aR (fun _ => False) W W':=br hb
 have z:=h.szc
 exact ⟨⟨z.tn,z.hn,z.gn,z.fn,z.dn,z.en,z.t,fun j x hj => ⟨(z.f j x hj).1,(z.f j x hj).2.1,(z.f j x hj).2.2.1.kept hk (fun _ _ _ _ => id),(z.f j x hj).2.2.2⟩,z.d,z.e⟩,h.t.sig.kept hk (fun _ _ _ _ => id),h.f.fu.kept hk (fun _ _ _ _ => id),h.d.da.kept hk (fun _ _ _ _ => id),h.e.ex.kept hk (fun _ _ _ _ => id)⟩
end
section
variable {H : Type} {enc : TypeId × Value → H} {W : World}
theorem Dw {r : Reach} {base : Nat} {u : TypeId} {a : Addr} {n c : Nat} (h : Cell.okWide Tryz.prog W r base u (.slice (some a) n c)) : a.block < W.heap.size:=by
 unfold Cell.okWide at h
 cases hu : Tryz.prog.underlying u with
 | none => simp [hu,Cell.ok] at h
 | some d =>
  cases d <;> simp [hu,Cell.ok] at h
  obtain ⟨_,_,_,_,row,cells,hsh,_⟩:=h;unfold World.shape? at hsh
  rcases Nat.lt_or_ge a.block W.heap.size with hl | hl
  ·exact hl
  ·rw [Array.getElem?_eq_none hl] at hsh; cases hsh
theorem tQ {base : Nat} {v : Value} {d : DataW H} {ps : List MemPlace} (hval : Value.okWide Tryz.prog W .any base 29 v) (h : DataW.Trod enc Tryz.prog W 0 (fun _ => true) true 29 v d ps) (hw : ∀ n ∈ d.weights Tryz.prog 29,n ≤ reachBytes) :
  ∃ m : MM,v = .agg (mV m) ∧ Raw W m:=by
 have hval':=hval;obtain ⟨cs,rfl,hsz⟩:=okWide_struct Tryz.underlying29 hval;obtain ⟨fuel,hf⟩:=h;obtain ⟨ta,tn,tc,ts,ha,hn,hc,hs,ga,gn,gc,gs,fi,mo,fa,fn,fc,fs,da,dn,dc,ds,ea,en,ec,es,hcs,⟨t1,t2⟩,⟨h1,h2⟩,⟨g1,g2⟩,i1,o1,⟨f1,f2⟩,⟨d1,d2⟩,e1,e2⟩:=FN hf hw;have e : cs.toList = [.slice ta tn tc,.slice ha hn hc,.slice ga gn gc,.int .i64 fi,.int .i64 mo,.slice fa fn fc,.slice da dn dc,.slice ea en ec]:=hcs
 have ec' : cs = #[.slice ta tn tc,.slice ha hn hc,.slice ga gn gc,.int .i64 fi,.int .i64 mo,.slice fa fn fc,.slice da dn dc,.slice ea en ec]:=by
  apply Array.toList_inj.1
  rw [e]
 refine ⟨⟨ta,tn,tc,ts,ha,hn,hc,hs,ga,gn,gc,gs,fi,mo,fa,fn,fc,fs,da,dn,dc,ds,ea,en,ec,es⟩,by rw [ec']; rfl,⟨t1,t2,h1,h2,g1,g2,i1,o1,f1,f2,d1,d2,e1,e2,?_⟩⟩
 obtain ⟨cs',hv,_,⟨tt,htt,_,hall⟩⟩ : ∃ cs',Value.agg cs = .agg cs' ∧ cs'.size = Tryz.prog.cellsOf 29 ∧ Row.okWide Tryz.prog W .any base 29 cs':=by
  have:=hval'
  simp only [Value.okWide,Tryz.underlying29] at this
  exact this
 injection hv with hv
 subst hv
 have look : ∀ (i : Nat) a n c,cs[i]? = some (.slice (some a) n c) → a.block < W.heap.size:=fun i a n c hi => by
  obtain ⟨u,_,hu⟩:=hall i _ hi;exact Dw hu
 rw [ec'] at look;intro a hm b off s hb;subst hb
 simp only [List.mem_cons,List.not_mem_nil,or_false] at hm
 rcases hm with hm | hm | hm | hm | hm | hm
 ·exact look 0 ⟨b,off,s⟩ tn tc np
 ·exact look 1 ⟨b,off,s⟩ hn hc np
 ·exact look 2 ⟨b,off,s⟩ gn gc np
 ·exact look 5 ⟨b,off,s⟩ fn fc np
 ·exact look 6 ⟨b,off,s⟩ dn dc np
 ·exact look 7 ⟨b,off,s⟩ en ec np
end
end Go.Proofs.YtheefojaplnnoaaGreatDoor

/-
  Texts Xv.
-/
import Derived.Below
import Derived.ChangeArms
import Derived.ChangeOld
import Derived.Deep.DeepHandedRow
import Derived.Deep.Strs
import Derived.LaidMore
import Derived.Lay
import Derived.OpenShut
import Derived.ProofKit
import Derived.ShutString
import Derived.SizedLaws
import Derived.Test.YtkdldbfbldkkcaaGreatDoorM00
import Derived.Test.YtkdldbfbldkkcaaGreatDoorM06
set_option linter.unusedVariables false
set_option maxRecDepth 100000
set_option maxHeartbeats 16000000
namespace Go.Proofs.YtkdldbfbldkkcaaGreatDoor
open Go.ChangeShapes Go.WideShapes Go.ChangeAt Go.RowKit
theorem qf {α : Type} {P : Nat → α → Prop} : ∀ (n : Nat),(∀ j,j < n → ∃ x,P j x) → ∃ xs : List α,xs.length = n ∧ ∀ j x,xs[j]? = some x → P j x
 | 0,_ => ⟨[],rfl,fun j x h => ei⟩
 | n + 1,h => by
  obtain ⟨xs,hl,hx⟩:=qf n (fun j hj => h j ae)
  obtain ⟨y,hy⟩:=h n ae
  refine ⟨xs ++ [y],lu,fun j x hj => ?_⟩
  by_cases hjn : j < xs.length
  ·rw [List.getElem?_append_left hjn] at hj;exact hx j x hj
  ·rw [List.getElem?_append_right ae] at hj
   have hj0 : j - xs.length = 0:=by
    rcases Nat.eq_zero_or_pos (j - xs.length) with h | h
    ·exact h
    ·rw [List.getElem?_eq_none aI] at hj; cases hj
   rw [hj0] at hj
   simp at hj
   subst hj;obtain rfl : j = n:=ae;exact hy
theorem ju {H : Type} {P : Program} {e : TypeId} : ∀ {l : List (DataW H)} {d : DataW H},d ∈ l → ∀ n ∈ d.weights P e,n ∈ DataW.weightsAll P e l
 | x :: r,d,h,n,hn => by
  simp only [DataW.weightsAll,List.mem_append]
  rcases List.mem_cons.1 h with rfl | h
  ·exact .inl hn
  ·exact .inr (ju h n hn)
theorem aH {H : Type} {P : Program} {t u : TypeId} {fs : Array Field} {ys : List (DataW H × List MemPlace)} {y : DataW H × List MemPlace} {j : Nat} (ht : P.underlying t = some (.struct fs)) (hj : (fs.toList.map (·.type))[j]? = some u) (hy : ys[j]? = some y) {r : Nat} (hw : ∀ n ∈ (DataW.agg (ys.map (·.1))).weights P t,n ≤ r) : ∀ n ∈ y.1.weights P u,n ≤ r:=by
 intro n hn;refine hw n ?_
 simp only [DataW.weights,ht]
 exact DataW.weights_mem_each hj (by rw [List.getElem?_map,hy]; rfl) n hn
structure dW {α : Type} (W : World) (c : Nat) (F : α → List Value) (a : Option Addr) (n cap : Nat) (xs : List α) : Prop where
 cap_ : n ≤ cap
 big : n ≤ 140737488355328
 len : xs.length = n
 lt : ∀ b off s,nz n a = some ⟨b,off,s⟩ → b < W.heap.size
 at_ : n = 0 ∨ ∃ b off,a = some ⟨b,off,none⟩ ∧ ∀ j x,xs[j]? = some x → ∀ i v,(F x)[i]? = some v → W.cell? ⟨b,off + j * c + i,none⟩ = some v
section
variable {H : Type} {enc : TypeId × Value → H} {W : World}
theorem dz {α : Type} {t e : TypeId} {c B : Nat} (F : α → List Value) (G : α → Prop) (ht : Tryz.prog.underlying t = some (.slice e)) (hc : Tryz.prog.cellsOf e = c) (h1 : 1 ≤ c) (hB : Tryz.prog.bytesOf e = B) (hB1 : 1 ≤ B)
  (hel : ∀ fuel ys y,DataW.trod enc Tryz.prog W 0 (fun _ => true) true fuel e ys = some y → (∀ n ∈ y.1.weights Tryz.prog e,n ≤ reachBytes) → ∃ a : α,ys = F a ∧ G a)
  {fuel : Nat} {cs : List Value} {x : DataW H × List MemPlace} (h : DataW.trod enc Tryz.prog W 0 (fun _ => true) true fuel t cs = some x) (hw : ∀ n ∈ x.1.weights Tryz.prog t,n ≤ reachBytes) :
  ∃ (a : Option Addr) (n cap : Nat) (xs : List α),cs = [.slice a n cap] ∧ dW W c F a n cap xs ∧ ∀ (j : Nat) x,xs[j]? = some x → G x:=by
 rcases DataW.trod_slice ht h with ⟨hcs,_⟩ | ⟨x,len,cap,elems,rest,n,_,hcs,hx,hb,hl,hm,hlen,hem,hsp,hns⟩
 ·exact ⟨none,0,0,[],hcs,⟨Nat.le_refl _,ae,rfl,fun b off s h => by simp [nz] at h,.inl rfl⟩,fun j x hj => by simp at hj⟩
 ·have hd:=congrArg Prod.fst hx
  simp only at hd
  rw [hd] at hw
  have hbound : len ≤ 140737488355328:=by
   exact Ha
  by_cases h0 : len = 0
  ·subst h0
   exact ⟨_,0,cap,[],hcs,⟨Nat.zero_le _,ae,rfl,fun b off s h => by simp [nz] at h,.inl rfl⟩,fun j x hj => by simp at hj⟩
  obtain ⟨b,off,spot⟩:=x
  have hadd0 : ∀ (y : Addr),y.add 0 = y:=by intro y; cases y with | mk p q r => cases r <;> simp [Addr.add]
  have hstep : ∀ j,j < len → ∃ y : α,(F y).length = c ∧ G y ∧ ∀ i,i < c → W.cell? (((⟨b,off,spot⟩ : Addr).add (j * c)).add i) = (F y)[i]?:=by
   exact Hh
  have hspot : spot = none:=by
   exact FV
  subst hspot;have hplain : ∀ (p q i : Nat),(⟨p,q,none⟩ : Addr).add i = ⟨p,q + i,none⟩:=Ej
  obtain ⟨xs,hxl,hxs⟩:=qf (P:=fun j (y : α) => (F y).length = c ∧ G y ∧ ∀ i,i < c → W.cell? ⟨b,off + j * c + i,none⟩ = (F y)[i]?) len (fun j hj => by
   obtain ⟨y,q1,q2,q3⟩:=hstep j hj
   exact ⟨y,q1,q2,fun i hi => FM⟩)
  refine ⟨_,len,cap,xs,hcs,⟨hl,hbound,hxl,fun b' off' s' hb' => ?_,.inr ⟨b,off,rfl,fun j x hj i v hv => ?_⟩⟩,fun j x hj => (hxs j x hj).2.1⟩
  ·have e:=Ka hb'
   cases e
   obtain ⟨y,hy,_,hcl⟩:=hstep 0 ae;have h2:=hcl 0 ae;rw [ba ae,hplain,hplain] at h2;exact World.block_lt_of_cell? W _ h2
  ·exact Bi
theorem jZ {t : TypeId} (ht : Tryz.prog.underlying t = some .string) {fuel : Nat} {cs : List Value} {x : DataW H × List MemPlace} (h : DataW.trod enc Tryz.prog W 0 (fun _ => true) true fuel t cs = some x) (hw : ∀ n ∈ x.1.weights Tryz.prog t,n ≤ reachBytes) : ∃ s : ByteArray,cs = [.string s] ∧ s.size ≤ 140737488355328:=by
 obtain ⟨s,hs,hx,_⟩:=DataW.trod_string ht h;refine ⟨s,hs,?_⟩;rw [hx] at hw
 have:=hw s.data.toList.length (by unfold DataW.weights; exact List.mem_singleton.2 rfl)
 simp only [reachBytes] at this
 have e : s.size = s.data.toList.length:=by rw [Array.length_toList]; rfl
 omega
theorem vA : Tryz.prog.cellsOf 56 = 2:=ak
theorem jc : Tryz.prog.cellsOf 3 = 1:=ak
theorem rz : Tryz.prog.cellsOf 123 = 3:=ak
theorem vD : Tryz.prog.cellsOf 59 = 3:=ak
theorem vk : Tryz.prog.cellsOf 62 = 2:=ak
theorem wL : Tryz.prog.cellsOf 64 = 2:=ak
theorem vI : Tryz.prog.cellsOf 82 = 3:=ak
theorem sw : Tryz.prog.cellsOf 5 = 1:=ak
theorem oJ : Tryz.prog.cellsOf 9 = 1:=ak
theorem JA : Tryz.prog.cellsOf 4 = 1:=ak
theorem DG : Tryz.prog.cellsOf 49 = 1:=ak
theorem JW : Tryz.prog.cellsOf 2 = 1:=ak
theorem EA : Tryz.prog.cellsOf 57 = 1:=ak
theorem wn : Tryz.prog.cellsOf 23 = 1:=ak
theorem Gx : Tryz.prog.cellsOf 42 = 1:=ak
theorem FT : Tryz.prog.cellsOf 22 = 1:=ak
theorem G9 : Tryz.prog.cellsOf 24 = 1:=ak
theorem FD : Tryz.prog.cellsOf 25 = 1:=ak
theorem IX : Tryz.prog.cellsOf 26 = 1:=ak
theorem Fv : Tryz.prog.cellsOf 27 = 1:=ak
theorem Hp : Tryz.prog.cellsOf 29 = 8:=ak
theorem IY : Tryz.prog.bytesOf 56 = 32:=ak
theorem Br : Tryz.prog.bytesOf 3 = 8:=ak
theorem C9 : Tryz.prog.bytesOf 123 = 16:=ak
theorem G7 : Tryz.prog.bytesOf 59 = 48:=ak
theorem ER : Tryz.prog.bytesOf 62 = 32:=ak
theorem Im : Tryz.prog.bytesOf 64 = 24:=ak
theorem Gs : Tryz.prog.bytesOf 82 = 40:=ak
theorem J9 : Tryz.prog.bytesOf 5 = 1:=ak
theorem tT {fuel : Nat} {cs : List Value} {x : DataW H × List MemPlace} (h : DataW.trod enc Tryz.prog W 0 (fun _ => true) true fuel 3 cs = some x) (hw : ∀ n ∈ x.1.weights Tryz.prog 3,n ≤ reachBytes) : ∃ a : Int,cs = [.int .i64 a] ∧ (-9223372036854775808 ≤ a ∧ a < 9223372036854775808):=by
 obtain ⟨n,h1,_,wf⟩:=DataW.trod_int Tryz.underlying3 h
 have:=bounds_i64 wf
 exact ⟨n,h1,ae,ae⟩
theorem Lx {fuel : Nat} {cs : List Value} {x : DataW H × List MemPlace} (h : DataW.trod enc Tryz.prog W 0 (fun _ => true) true fuel 5 cs = some x) (hw : ∀ n ∈ x.1.weights Tryz.prog 5,n ≤ reachBytes) : ∃ a : Int,cs = [.int .u8 a] ∧ (0 ≤ a ∧ a ≤ 255):=by
 exact AZ
def Hv (x : ByteArray × ByteArray) : List Value:=[.string x.1,.string x.2]
def Jo (W : World) (x : ByteArray × ByteArray) : Prop:=x.1.size ≤ 140737488355328 ∧ x.2.size ≤ 140737488355328
theorem Gv {fuel : Nat} {cs : List Value} {x : DataW H × List MemPlace} (h : DataW.trod enc Tryz.prog W 0 (fun _ => true) true fuel 56 cs = some x) (hw : ∀ n ∈ x.1.weights Tryz.prog 56,n ≤ reachBytes) : ∃ a : ByteArray × ByteArray,cs = Hv a ∧ Jo W a:=by
 obtain ⟨ys,m,_,hx,hl,hyl,hel⟩:=DataW.trod_struct Tryz.underlying56 h;rw [vA] at hl;have hd:=congrArg Prod.fst hx
 simp only at hd
 rw [hd] at hw
 match ys,hyl with
 | [y0,y1],_ =>
  match cs,hl with
  | [x0,x1],_ =>
   have e0 : DataW.trod enc Tryz.prog W 0 (fun _ => true) true m 9 (([x0,x1].drop 0).take (Tryz.prog.cellsOf 9)) = some y0:=hel 0 _ rfl
   have w0:=aH (j:=0) (u:=9) (y:=y0) Tryz.underlying56 rfl rfl hw;rw [oJ] at e0;obtain ⟨p,h0,z0⟩:=jZ Tryz.underlying9 e0 w0
   have e1 : DataW.trod enc Tryz.prog W 0 (fun _ => true) true m 9 (([x0,x1].drop 1).take (Tryz.prog.cellsOf 9)) = some y1:=hel 1 _ rfl
   have w1:=aH (j:=1) (u:=9) (y:=y1) Tryz.underlying56 rfl rfl hw;rw [oJ] at e1;obtain ⟨q,h1,z1⟩:=jZ Tryz.underlying9 e1 w1
   simp at h0 h1
   subst h0 h1;exact ⟨(p,q),rfl,z0,z1⟩
def FGl (x : Int × Bool × Int) : List Value:=[.int .u8 x.1,.bool x.2.1,.int .u64 x.2.2]
def GGl (W : World) (x : Int × Bool × Int) : Prop:=0 ≤ x.1 ∧ x.1 ≤ 255 ∧ 0 ≤ x.2.2 ∧ x.2.2 < 18446744073709551616
theorem JQ {fuel : Nat} {cs : List Value} {x : DataW H × List MemPlace} (h : DataW.trod enc Tryz.prog W 0 (fun _ => true) true fuel 123 cs = some x) (hw : ∀ n ∈ x.1.weights Tryz.prog 123,n ≤ reachBytes) : ∃ a : Int × Bool × Int,cs = FGl a ∧ GGl W a:=by
 obtain ⟨ys,m,_,hx,hl,hyl,hel⟩:=DataW.trod_struct Tryz.underlying123 h;rw [rz] at hl;have hd:=congrArg Prod.fst hx
 simp only at hd
 rw [hd] at hw
 match ys,hyl with
 | [y0,y1,y2],_ =>
  match cs,hl with
  | [x0,x1,x2],_ =>
   have e0 : DataW.trod enc Tryz.prog W 0 (fun _ => true) true m 5 (([x0,x1,x2].drop 0).take (Tryz.prog.cellsOf 5)) = some y0:=hel 0 _ rfl
   have w0:=aH (j:=0) (u:=5) (y:=y0) Tryz.underlying123 rfl rfl hw;rw [sw] at e0;obtain ⟨p,h0,_,wf0⟩:=DataW.trod_int Tryz.underlying5 e0;have b0:=bounds_u8 wf0
   have e1 : DataW.trod enc Tryz.prog W 0 (fun _ => true) true m 4 (([x0,x1,x2].drop 1).take (Tryz.prog.cellsOf 4)) = some y1:=hel 1 _ rfl
   have w1:=aH (j:=1) (u:=4) (y:=y1) Tryz.underlying123 rfl rfl hw;rw [JA] at e1;obtain ⟨q,h1,_⟩:=DataW.trod_bool Tryz.underlying4 e1
   have e2 : DataW.trod enc Tryz.prog W 0 (fun _ => true) true m 49 (([x0,x1,x2].drop 2).take (Tryz.prog.cellsOf 49)) = some y2:=hel 2 _ rfl
   have w2:=aH (j:=2) (u:=49) (y:=y2) Tryz.underlying123 rfl rfl hw;rw [DG] at e2;obtain ⟨r,h2,_,wf2⟩:=DataW.trod_int Tryz.underlying49 e2;have b2:=bounds_u64 wf2
   simp at h0 h1 h2
   subst h0 h1 h2;exact ⟨(p,q,r),rfl,eK,eK,eK,eK⟩
def FEx (x : ByteArray × Int) : List Value:=[.string x.1,.int .i64 x.2]
def GEx (W : World) (x : ByteArray × Int) : Prop:=x.1.size ≤ 140737488355328 ∧ -9223372036854775808 ≤ x.2 ∧ x.2 < 9223372036854775808
theorem J8 {fuel : Nat} {cs : List Value} {x : DataW H × List MemPlace} (h : DataW.trod enc Tryz.prog W 0 (fun _ => true) true fuel 64 cs = some x) (hw : ∀ n ∈ x.1.weights Tryz.prog 64,n ≤ reachBytes) : ∃ a : ByteArray × Int,cs = FEx a ∧ GEx W a:=by
 obtain ⟨ys,m,_,hx,hl,hyl,hel⟩:=DataW.trod_struct Tryz.underlying64 h;rw [wL] at hl;have hd:=congrArg Prod.fst hx
 simp only at hd
 rw [hd] at hw
 match ys,hyl with
 | [y0,y1],_ =>
  match cs,hl with
  | [x0,x1],_ =>
   have e0 : DataW.trod enc Tryz.prog W 0 (fun _ => true) true m 9 (([x0,x1].drop 0).take (Tryz.prog.cellsOf 9)) = some y0:=hel 0 _ rfl
   have w0:=aH (j:=0) (u:=9) (y:=y0) Tryz.underlying64 rfl rfl hw;rw [oJ] at e0;obtain ⟨p,h0,z0⟩:=jZ Tryz.underlying9 e0 w0
   have e1 : DataW.trod enc Tryz.prog W 0 (fun _ => true) true m 3 (([x0,x1].drop 1).take (Tryz.prog.cellsOf 3)) = some y1:=hel 1 _ rfl
   have w1:=aH (j:=1) (u:=3) (y:=y1) Tryz.underlying64 rfl rfl hw;rw [jc] at e1;obtain ⟨q,h1,_,wf1⟩:=DataW.trod_int Tryz.underlying3 e1;have b1:=bounds_i64 wf1
   simp at h0 h1
   subst h0 h1;exact ⟨(p,q),rfl,z0,eK,eK⟩
def FIn (x : Int × Int × (Option Addr × Nat × Nat) × List Int) : List Value:=[.int .u8 x.1,.int .i64 x.2.1,.slice x.2.2.1.1 x.2.2.1.2.1 x.2.2.1.2.2]
def GIn (W : World) (x : Int × Int × (Option Addr × Nat × Nat) × List Int) : Prop:=0 ≤ x.1 ∧ x.1 ≤ 255 ∧ dW W 1 (fun (z : Int) => [Value.int .i64 z]) x.2.2.1.1 x.2.2.1.2.1 x.2.2.1.2.2 x.2.2.2 ∧ ∀ (j : Nat) a,x.2.2.2[j]? = some a → -9223372036854775808 ≤ a ∧ a < 9223372036854775808
theorem JE {fuel : Nat} {cs : List Value} {x : DataW H × List MemPlace} (h : DataW.trod enc Tryz.prog W 0 (fun _ => true) true fuel 82 cs = some x) (hw : ∀ n ∈ x.1.weights Tryz.prog 82,n ≤ reachBytes) : ∃ a : Int × Int × (Option Addr × Nat × Nat) × List Int,cs = FIn a ∧ GIn W a:=by
 obtain ⟨ys,m,_,hx,hl,hyl,hel⟩:=DataW.trod_struct Tryz.underlying82 h;rw [vI] at hl;have hd:=congrArg Prod.fst hx
 simp only at hd
 rw [hd] at hw
 match ys,hyl with
 | [y0,y1,y2],_ =>
  match cs,hl with
  | [x0,x1,x2],_ =>
   have e0 : DataW.trod enc Tryz.prog W 0 (fun _ => true) true m 5 (([x0,x1,x2].drop 0).take (Tryz.prog.cellsOf 5)) = some y0:=hel 0 _ rfl
   have w0:=aH (j:=0) (u:=5) (y:=y0) Tryz.underlying82 rfl rfl hw;rw [sw] at e0;obtain ⟨p,h0,_,wf0⟩:=DataW.trod_int Tryz.underlying5 e0;have b0:=bounds_u8 wf0
   have e1 : DataW.trod enc Tryz.prog W 0 (fun _ => true) true m 2 (([x0,x1,x2].drop 1).take (Tryz.prog.cellsOf 2)) = some y1:=hel 1 _ rfl
   have w1:=aH (j:=1) (u:=2) (y:=y1) Tryz.underlying82 rfl rfl hw;rw [JW] at e1;obtain ⟨q,h1,_,wf1⟩:=DataW.trod_int Tryz.underlying2 e1;have b1:=bounds_i64 wf1
   have e2 : DataW.trod enc Tryz.prog W 0 (fun _ => true) true m 23 (([x0,x1,x2].drop 2).take (Tryz.prog.cellsOf 23)) = some y2:=hel 2 _ rfl
   have w2:=aH (j:=2) (u:=23) (y:=y2) Tryz.underlying82 rfl rfl hw;rw [wn] at e2
   obtain ⟨la,ln,lc,ls,h2,at2,el2⟩:=(dz (c:=1) (B:=8) (fun (z : Int) => [Value.int .i64 z]) (fun (a : Int) => -9223372036854775808 ≤ a ∧ a < 9223372036854775808) Tryz.underlying23 jc ax Br ax (fun _ _ _ h1 h2 => tT h1 h2)) e2 w2
   simp at h0 h1 h2
   subst h0 h1 h2;exact ⟨(p,q,(la,ln,lc),ls),rfl,eK,eK,at2,el2⟩
def FFu (x : Int × ByteArray × (Option Addr × Nat × Nat) × List (Int × Int × (Option Addr × Nat × Nat) × List Int)) : List Value:=[.int .i64 x.1,.string x.2.1,.slice x.2.2.1.1 x.2.2.1.2.1 x.2.2.1.2.2]
def GFu (W : World) (x : Int × ByteArray × (Option Addr × Nat × Nat) × List (Int × Int × (Option Addr × Nat × Nat) × List Int)) : Prop:=(-9223372036854775808 ≤ x.1 ∧ x.1 < 9223372036854775808) ∧ x.2.1.size ≤ 140737488355328 ∧ dW W 3 FIn x.2.2.1.1 x.2.2.1.2.1 x.2.2.1.2.2 x.2.2.2 ∧ ∀ (j : Nat) y,x.2.2.2[j]? = some y → GIn W y
theorem Jk {fuel : Nat} {cs : List Value} {x : DataW H × List MemPlace} (h : DataW.trod enc Tryz.prog W 0 (fun _ => true) true fuel 59 cs = some x) (hw : ∀ n ∈ x.1.weights Tryz.prog 59,n ≤ reachBytes) : ∃ a : Int × ByteArray × (Option Addr × Nat × Nat) × List (Int × Int × (Option Addr × Nat × Nat) × List Int),cs = FFu a ∧ GFu W a:=by
 obtain ⟨ys,m,_,hx,hl,hyl,hel⟩:=DataW.trod_struct Tryz.underlying59 h;rw [vD] at hl;have hd:=congrArg Prod.fst hx
 simp only at hd
 rw [hd] at hw
 match ys,hyl with
 | [y0,y1,y2],_ =>
  match cs,hl with
  | [x0,x1,x2],_ =>
   have e0 : DataW.trod enc Tryz.prog W 0 (fun _ => true) true m 3 (([x0,x1,x2].drop 0).take (Tryz.prog.cellsOf 3)) = some y0:=hel 0 _ rfl
   have w0:=aH (j:=0) (u:=3) (y:=y0) Tryz.underlying59 rfl rfl hw;rw [jc] at e0;obtain ⟨p,h0,_,wf0⟩:=DataW.trod_int Tryz.underlying3 e0;have b0:=bounds_i64 wf0
   have e1 : DataW.trod enc Tryz.prog W 0 (fun _ => true) true m 9 (([x0,x1,x2].drop 1).take (Tryz.prog.cellsOf 9)) = some y1:=hel 1 _ rfl
   have w1:=aH (j:=1) (u:=9) (y:=y1) Tryz.underlying59 rfl rfl hw;rw [oJ] at e1;obtain ⟨q,h1,z1⟩:=jZ Tryz.underlying9 e1 w1
   have e2 : DataW.trod enc Tryz.prog W 0 (fun _ => true) true m 57 (([x0,x1,x2].drop 2).take (Tryz.prog.cellsOf 57)) = some y2:=hel 2 _ rfl
   have w2:=aH (j:=2) (u:=57) (y:=y2) Tryz.underlying59 rfl rfl hw;rw [EA] at e2
   obtain ⟨la,ln,lc,ls,h2,at2,el2⟩:=(dz (c:=3) (B:=40) FIn (GIn W) Tryz.underlying57 vI ax Gs ax (fun _ _ _ h1 h2 => JE h1 h2)) e2 w2
   simp at h0 h1 h2
   subst h0 h1 h2;exact ⟨(p,q,(la,ln,lc),ls),rfl,⟨eK,eK⟩,z1,at2,el2⟩
def FDa (x : Int × (Option Addr × Nat × Nat) × List Int) : List Value:=[.int .i64 x.1,.slice x.2.1.1 x.2.1.2.1 x.2.1.2.2]
def GDa (W : World) (x : Int × (Option Addr × Nat × Nat) × List Int) : Prop:=(-9223372036854775808 ≤ x.1 ∧ x.1 < 9223372036854775808) ∧ dW W 1 (fun (z : Int) => [Value.int .u8 z]) x.2.1.1 x.2.1.2.1 x.2.1.2.2 x.2.2 ∧ ∀ (j : Nat) a,x.2.2[j]? = some a → 0 ≤ a ∧ a ≤ 255
theorem Jc {fuel : Nat} {cs : List Value} {x : DataW H × List MemPlace} (h : DataW.trod enc Tryz.prog W 0 (fun _ => true) true fuel 62 cs = some x) (hw : ∀ n ∈ x.1.weights Tryz.prog 62,n ≤ reachBytes) : ∃ a : Int × (Option Addr × Nat × Nat) × List Int,cs = FDa a ∧ GDa W a:=by
 obtain ⟨ys,m,_,hx,hl,hyl,hel⟩:=DataW.trod_struct Tryz.underlying62 h;rw [vk] at hl;have hd:=congrArg Prod.fst hx
 simp only at hd
 rw [hd] at hw
 match ys,hyl with
 | [y0,y1],_ =>
  match cs,hl with
  | [x0,x1],_ =>
   have e0 : DataW.trod enc Tryz.prog W 0 (fun _ => true) true m 3 (([x0,x1].drop 0).take (Tryz.prog.cellsOf 3)) = some y0:=hel 0 _ rfl
   have w0:=aH (j:=0) (u:=3) (y:=y0) Tryz.underlying62 rfl rfl hw;rw [jc] at e0;obtain ⟨p,h0,_,wf0⟩:=DataW.trod_int Tryz.underlying3 e0;have b0:=bounds_i64 wf0
   have e1 : DataW.trod enc Tryz.prog W 0 (fun _ => true) true m 42 (([x0,x1].drop 1).take (Tryz.prog.cellsOf 42)) = some y1:=hel 1 _ rfl
   have w1:=aH (j:=1) (u:=42) (y:=y1) Tryz.underlying62 rfl rfl hw;rw [Gx] at e1
   obtain ⟨la,ln,lc,ls,h1,at1,el1⟩:=(dz (c:=1) (B:=1) (fun (z : Int) => [Value.int .u8 z]) (fun (a : Int) => 0 ≤ a ∧ a ≤ 255) Tryz.underlying42 sw ax J9 ax (fun _ _ _ h1 h2 => Lx h1 h2)) e1 w1
   simp at h0 h1
   subst h0 h1;exact ⟨(p,(la,ln,lc),ls),rfl,⟨eK,eK⟩,at1,el1⟩
theorem FK {fuel : Nat} {cs : List Value} {x : DataW H × List MemPlace} (h : DataW.trod enc Tryz.prog W 0 (fun _ => true) true fuel 29 cs = some x) (hw : ∀ n ∈ x.1.weights Tryz.prog 29,n ≤ reachBytes) :
  ∃ (ta : Option Addr) (tn tc : Nat) (ts : List (ByteArray × ByteArray)) (ha : Option Addr) (hn hc : Nat) (hs : List Int) (ga : Option Addr) (gn gc : Nat) (gs : List (Int × Bool × Int)) (fi mo : Int) (fa : Option Addr) (fn fc : Nat) (fs : List (Int × ByteArray × (Option Addr × Nat × Nat) × List (Int × Int × (Option Addr × Nat × Nat) × List Int))) (da : Option Addr) (dn dc : Nat) (ds : List (Int × (Option Addr × Nat × Nat) × List Int)) (ea : Option Addr) (en ec : Nat) (es : List (ByteArray × Int)),
   cs = [.slice ta tn tc,.slice ha hn hc,.slice ga gn gc,.int .i64 fi,.int .i64 mo,.slice fa fn fc,.slice da dn dc,.slice ea en ec] ∧
   (dW W 2 Hv ta tn tc ts ∧ ∀ (j : Nat) x,ts[j]? = some x → Jo W x) ∧ (dW W 1 (fun (z : Int) => [Value.int .i64 z]) ha hn hc hs ∧ ∀ (j : Nat) a,hs[j]? = some a → -9223372036854775808 ≤ a ∧ a < 9223372036854775808) ∧ (dW W 3 FGl ga gn gc gs ∧ ∀ (j : Nat) x,gs[j]? = some x → GGl W x) ∧ (-9223372036854775808 ≤ fi ∧ fi < 9223372036854775808) ∧ (-9223372036854775808 ≤ mo ∧ mo < 9223372036854775808) ∧ (dW W 3 FFu fa fn fc fs ∧ ∀ (j : Nat) x,fs[j]? = some x → GFu W x) ∧ (dW W 2 FDa da dn dc ds ∧ ∀ (j : Nat) x,ds[j]? = some x → GDa W x) ∧ (dW W 2 FEx ea en ec es ∧ ∀ (j : Nat) x,es[j]? = some x → GEx W x):=by
 obtain ⟨ys,m,_,hx,hl,hyl,hel⟩:=DataW.trod_struct Tryz.underlying29 h;rw [Hp] at hl;have hd:=congrArg Prod.fst hx
 simp only at hd
 rw [hd] at hw
 match ys,hyl with
 | [y0,y1,y2,y3,y4,y5,y6,y7],_ =>
  match cs,hl with
  | [x0,x1,x2,x3,x4,x5,x6,x7],_ =>
   have e0 : DataW.trod enc Tryz.prog W 0 (fun _ => true) true m 22 (([x0,x1,x2,x3,x4,x5,x6,x7].drop 0).take (Tryz.prog.cellsOf 22)) = some y0:=hel 0 _ rfl
   have w0:=aH (j:=0) (u:=22) (y:=y0) Tryz.underlying29 rfl rfl hw;rw [FT] at e0
   obtain ⟨ta,tn,tc,ts,h0,at0,el0⟩:=(dz (c:=2) (B:=32) Hv (Jo W) Tryz.underlying22 vA ax IY ax (fun _ _ _ h1 h2 => Gv h1 h2)) e0 w0
   have e1 : DataW.trod enc Tryz.prog W 0 (fun _ => true) true m 23 (([x0,x1,x2,x3,x4,x5,x6,x7].drop 1).take (Tryz.prog.cellsOf 23)) = some y1:=hel 1 _ rfl
   have w1:=aH (j:=1) (u:=23) (y:=y1) Tryz.underlying29 rfl rfl hw;rw [wn] at e1
   obtain ⟨ha,hn,hc,hs,h1,at1,el1⟩:=(dz (c:=1) (B:=8) (fun (z : Int) => [Value.int .i64 z]) (fun (a : Int) => -9223372036854775808 ≤ a ∧ a < 9223372036854775808) Tryz.underlying23 jc ax Br ax (fun _ _ _ h1 h2 => tT h1 h2)) e1 w1
   have e2 : DataW.trod enc Tryz.prog W 0 (fun _ => true) true m 24 (([x0,x1,x2,x3,x4,x5,x6,x7].drop 2).take (Tryz.prog.cellsOf 24)) = some y2:=hel 2 _ rfl
   have w2:=aH (j:=2) (u:=24) (y:=y2) Tryz.underlying29 rfl rfl hw;rw [G9] at e2
   obtain ⟨ga,gn,gc,gs,h2,at2,el2⟩:=(dz (c:=3) (B:=16) FGl (GGl W) Tryz.underlying24 rz ax C9 ax (fun _ _ _ h1 h2 => JQ h1 h2)) e2 w2
   have e3 : DataW.trod enc Tryz.prog W 0 (fun _ => true) true m 3 (([x0,x1,x2,x3,x4,x5,x6,x7].drop 3).take (Tryz.prog.cellsOf 3)) = some y3:=hel 3 _ rfl
   have w3:=aH (j:=3) (u:=3) (y:=y3) Tryz.underlying29 rfl rfl hw;rw [jc] at e3;obtain ⟨fi,h3,b3⟩:=tT e3 w3
   have e4 : DataW.trod enc Tryz.prog W 0 (fun _ => true) true m 3 (([x0,x1,x2,x3,x4,x5,x6,x7].drop 4).take (Tryz.prog.cellsOf 3)) = some y4:=hel 4 _ rfl
   have w4:=aH (j:=4) (u:=3) (y:=y4) Tryz.underlying29 rfl rfl hw;rw [jc] at e4;obtain ⟨mo,h4,b4⟩:=tT e4 w4
   have e5 : DataW.trod enc Tryz.prog W 0 (fun _ => true) true m 25 (([x0,x1,x2,x3,x4,x5,x6,x7].drop 5).take (Tryz.prog.cellsOf 25)) = some y5:=hel 5 _ rfl
   have w5:=aH (j:=5) (u:=25) (y:=y5) Tryz.underlying29 rfl rfl hw;rw [FD] at e5
   obtain ⟨fa,fn,fc,fs,h5,at5,el5⟩:=(dz (c:=3) (B:=48) FFu (GFu W) Tryz.underlying25 vD ax G7 ax (fun _ _ _ h1 h2 => Jk h1 h2)) e5 w5
   have e6 : DataW.trod enc Tryz.prog W 0 (fun _ => true) true m 26 (([x0,x1,x2,x3,x4,x5,x6,x7].drop 6).take (Tryz.prog.cellsOf 26)) = some y6:=hel 6 _ rfl
   have w6:=aH (j:=6) (u:=26) (y:=y6) Tryz.underlying29 rfl rfl hw;rw [IX] at e6
   obtain ⟨da,dn,dc,ds,h6,at6,el6⟩:=(dz (c:=2) (B:=32) FDa (GDa W) Tryz.underlying26 vk ax ER ax (fun _ _ _ h1 h2 => Jc h1 h2)) e6 w6
   have e7 : DataW.trod enc Tryz.prog W 0 (fun _ => true) true m 27 (([x0,x1,x2,x3,x4,x5,x6,x7].drop 7).take (Tryz.prog.cellsOf 27)) = some y7:=hel 7 _ rfl
   have w7:=aH (j:=7) (u:=27) (y:=y7) Tryz.underlying29 rfl rfl hw;rw [Fv] at e7
   obtain ⟨ea,en,ec,es,h7,at7,el7⟩:=(dz (c:=2) (B:=24) FEx (GEx W) Tryz.underlying27 wL ax Im ax (fun _ _ _ h1 h2 => J8 h1 h2)) e7 w7
   simp at h0 h1 h2 h3 h4 h5 h6 h7
   subst h0 h1 h2 h3 h4 h5 h6 h7;exact ⟨ta,tn,tc,ts,ha,hn,hc,hs,ga,gn,gc,gs,fi,mo,fa,fn,fc,fs,da,dn,dc,ds,ea,en,ec,es,rfl,⟨at0,el0⟩,⟨at1,el1⟩,⟨at2,el2⟩,b3,b4,⟨at5,el5⟩,⟨at6,el6⟩,⟨at7,el7⟩⟩
end
end Go.Proofs.YtkdldbfbldkkcaaGreatDoor

/-
  Texts Xv.
-/
import Derived.Below
import Derived.ChangeArms
import Derived.ChangeOld
import Derived.Deep.DeepHandedRow
import Derived.Deep.Strs
import Derived.LaidMore
import Derived.Lay
import Derived.OpenShut
import Derived.ProofKit
import Derived.ShutString
import Derived.SizedLaws
import Derived.Test.YtepcmfegggdjfaaGreatDoorQ05
set_option linter.unusedVariables false
set_option maxRecDepth 100000
set_option maxHeartbeats 16000000
namespace Go.Proofs.YtepcmfegggdjfaaGreatDoor
open Go.ChangeShapes Go.WideShapes Go.ChangeAt Go.RowKit
theorem list_ofX {α : Type} {P : Nat → α → Prop} : ∀ (n : Nat),(∀ j,j < n → ∃ x,P j x) → ∃ xs : List α,xs.length = n ∧ ∀ j x,xs[j]? = some x → P j x
 | 0,_ => ⟨[],rfl,fun j x h => by simp at h⟩
 | n + 1,h => by
  obtain ⟨xs,hl,hx⟩:=list_ofX n (fun j hj => h j (by omega))
  obtain ⟨y,hy⟩:=h n (by omega)
  refine ⟨xs ++ [y],by simp [hl],fun j x hj => ?_⟩
  by_cases hjn : j < xs.length
  ·rw [List.getElem?_append_left hjn] at hj
   exact hx j x hj
  ·rw [List.getElem?_append_right (by omega)] at hj
   have hj0 : j - xs.length = 0:=by
    rcases Nat.eq_zero_or_pos (j - xs.length) with h | h
    ·exact h
    ·rw [List.getElem?_eq_none (by simp; omega)] at hj; cases hj
   rw [hj0] at hj
   simp at hj
   subst hj
   obtain rfl : j = n:=by omega
   exact hy
theorem weights_mem_all {H : Type} {P : Program} {e : TypeId} : ∀ {l : List (DataW H)} {d : DataW H},d ∈ l → ∀ n ∈ d.weights P e,n ∈ DataW.weightsAll P e l
 | x :: r,d,h,n,hn => by
  simp only [DataW.weightsAll,List.mem_append]
  rcases List.mem_cons.1 h with rfl | h
  ·exact .inl hn
  ·exact .inr (weights_mem_all h n hn)
theorem weights_part {H : Type} {P : Program} {t u : TypeId} {fs : Array Field} {ys : List (DataW H × List MemPlace)} {y : DataW H × List MemPlace} {j : Nat} (ht : P.underlying t = some (.struct fs)) (hj : (fs.toList.map (·.type))[j]? = some u) (hy : ys[j]? = some y) {r : Nat} (hw : ∀ n ∈ (DataW.agg (ys.map (·.1))).weights P t,n ≤ r) : ∀ n ∈ y.1.weights P u,n ≤ r:=by
 intro n hn
 refine hw n ?_
 simp only [DataW.weights,ht]
 exact DataW.weights_mem_each hj (by rw [List.getElem?_map,hy]; rfl) n hn
structure LsAt {α : Type} (W : World) (c : Nat) (F : α → List Value) (a : Option Addr) (n cap : Nat) (xs : List α) : Prop where
 cap_ : n ≤ cap
 big : n ≤ 140737488355328
 len : xs.length = n
 lt : ∀ b off s,nz n a = some ⟨b,off,s⟩ → b < W.heap.size
 at_ : n = 0 ∨ ∃ b off,a = some ⟨b,off,none⟩ ∧ ∀ j x,xs[j]? = some x → ∀ i v,(F x)[i]? = some v → W.cell? ⟨b,off + j * c + i,none⟩ = some v
section
variable {H : Type} {enc : TypeId × Value → H} {W : World}
theorem open_listX {α : Type} {t e : TypeId} {c B : Nat} (F : α → List Value) (G : α → Prop) (ht : Tryz.prog.underlying t = some (.slice e)) (hc : Tryz.prog.cellsOf e = c) (h1 : 1 ≤ c) (hB : Tryz.prog.bytesOf e = B) (hB1 : 1 ≤ B)
  (hel : ∀ fuel ys y,DataW.trod enc Tryz.prog W 0 (fun _ => true) true fuel e ys = some y → (∀ n ∈ y.1.weights Tryz.prog e,n ≤ reachBytes) → ∃ a : α,ys = F a ∧ G a)
  {fuel : Nat} {cs : List Value} {x : DataW H × List MemPlace} (h : DataW.trod enc Tryz.prog W 0 (fun _ => true) true fuel t cs = some x) (hw : ∀ n ∈ x.1.weights Tryz.prog t,n ≤ reachBytes) :
  ∃ (a : Option Addr) (n cap : Nat) (xs : List α),cs = [.slice a n cap] ∧ LsAt W c F a n cap xs ∧ ∀ (j : Nat) x,xs[j]? = some x → G x:=by
 rcases DataW.trod_slice ht h with ⟨hcs,_⟩ | ⟨x,len,cap,elems,rest,n,_,hcs,hx,hb,hl,hm,hlen,hem,hsp,hns⟩
 ·exact ⟨none,0,0,[],hcs,⟨Nat.le_refl _,by omega,rfl,fun b off s h => by simp [nz] at h,.inl rfl⟩,fun j x hj => by simp at hj⟩
 ·have hd:=congrArg Prod.fst hx
  simp only at hd
  rw [hd] at hw
  have hbound : len ≤ 140737488355328:=by
   have h2:=hw ((elems.length + rest.length) * B) (by simp [DataW.weights,ht,hB])
   simp only [reachBytes] at h2
   have h3 : (elems.length + rest.length) * 1 ≤ (elems.length + rest.length) * B:=Nat.mul_le_mul_left _ hB1
   omega
  by_cases h0 : len = 0
  ·subst h0
   exact ⟨_,0,cap,[],hcs,⟨Nat.zero_le _,by omega,rfl,fun b off s h => by simp [nz] at h,.inl rfl⟩,fun j x hj => by simp at hj⟩
  obtain ⟨b,off,spot⟩:=x
  have hadd0 : ∀ (y : Addr),y.add 0 = y:=by intro y; cases y with | mk p q r => cases r <;> simp [Addr.add]
  have hstep : ∀ j,j < len → ∃ y : α,(F y).length = c ∧ G y ∧ ∀ i,i < c → W.cell? (((⟨b,off,spot⟩ : Addr).add (j * c)).add i) = (F y)[i]?:=by
   intro j hj
   have he:=hem j hj
   rw [List.getElem?_eq_getElem (by omega)] at he
   obtain ⟨ys,hys,htr⟩:=Option.bind_eq_some_iff.1 he
   rw [hc] at hys
   obtain ⟨_,hlc,hcell⟩:=World.cells?_some hys
   have hmem : (elems[j]'(by omega)).1 ∈ elems.map (·.1):=List.mem_map.2 ⟨_,List.getElem_mem _,rfl⟩
   obtain ⟨y,rfl,hG⟩:=hel _ _ _ htr (fun n hn => hw n (by
    have hin:=weights_mem_all (P:=Tryz.prog) (e:=e) hmem n hn
    simp only [DataW.weights,ht,List.mem_cons,List.mem_append]
    exact .inr (.inl hin)))
   exact ⟨y,hlc,hG,hcell⟩
  have hspot : spot = none:=by
   obtain ⟨y,hy,_,hcl⟩:=hstep 0 (by omega)
   have h2:=hcl 0 (by omega)
   rw [List.getElem?_eq_getElem (by omega)] at h2
   have:=World.cell?_spot h2
   simpa [Addr.add] using this
  subst hspot
  have hplain : ∀ (p q i : Nat),(⟨p,q,none⟩ : Addr).add i = ⟨p,q + i,none⟩:=by intro p q i; unfold Addr.add; split <;> simp_all
  obtain ⟨xs,hxl,hxs⟩:=list_ofX (P:=fun j (y : α) => (F y).length = c ∧ G y ∧ ∀ i,i < c → W.cell? ⟨b,off + j * c + i,none⟩ = (F y)[i]?) len (fun j hj => by
   obtain ⟨y,q1,q2,q3⟩:=hstep j hj
   exact ⟨y,q1,q2,fun i hi => by have:=q3 i hi; rwa [hplain,hplain] at this⟩)
  refine ⟨_,len,cap,xs,hcs,⟨hl,hbound,hxl,fun b' off' s' hb' => ?_,.inr ⟨b,off,rfl,fun j x hj i v hv => ?_⟩⟩,fun j x hj => (hxs j x hj).2.1⟩
  ·have e:=nz_some hb'
   cases e
   obtain ⟨y,hy,_,hcl⟩:=hstep 0 (by omega)
   have h2:=hcl 0 (by omega)
   rw [List.getElem?_eq_getElem (by omega),hplain,hplain] at h2
   exact World.block_lt_of_cell? W _ h2
  ·have hi : i < (F x).length:=(List.getElem?_eq_some_iff.1 hv).1
   have q:=hxs j x hj
   rw [q.1] at hi
   rw [q.2.2 i hi]
   exact hv
theorem open_strX {t : TypeId} (ht : Tryz.prog.underlying t = some .string) {fuel : Nat} {cs : List Value} {x : DataW H × List MemPlace} (h : DataW.trod enc Tryz.prog W 0 (fun _ => true) true fuel t cs = some x) (hw : ∀ n ∈ x.1.weights Tryz.prog t,n ≤ reachBytes) : ∃ s : ByteArray,cs = [.string s] ∧ s.size ≤ 140737488355328:=by
 obtain ⟨s,hs,hx,_⟩:=DataW.trod_string ht h
 refine ⟨s,hs,?_⟩
 rw [hx] at hw
 have:=hw s.data.toList.length (by unfold DataW.weights; exact List.mem_singleton.2 rfl)
 simp only [reachBytes] at this
 have e : s.size = s.data.toList.length:=by rw [Array.length_toList]; rfl
 omega
theorem cellsX62 : Tryz.prog.cellsOf 55 = 2:=by kernel_rfl
theorem cellsX3 : Tryz.prog.cellsOf 3 = 1:=by kernel_rfl
theorem cellsX141 : Tryz.prog.cellsOf 80 = 3:=by kernel_rfl
theorem cellsX42 : Tryz.prog.cellsOf 61 = 3:=by kernel_rfl
theorem cellsX66 : Tryz.prog.cellsOf 51 = 2:=by kernel_rfl
theorem cellsX68 : Tryz.prog.cellsOf 64 = 2:=by kernel_rfl
theorem cellsX51 : Tryz.prog.cellsOf 82 = 3:=by kernel_rfl
theorem cellsX5 : Tryz.prog.cellsOf 5 = 1:=by kernel_rfl
theorem cellsX9 : Tryz.prog.cellsOf 9 = 1:=by kernel_rfl
theorem cellsX4 : Tryz.prog.cellsOf 4 = 1:=by kernel_rfl
theorem cellsX139 : Tryz.prog.cellsOf 53 = 1:=by kernel_rfl
theorem cellsX2 : Tryz.prog.cellsOf 2 = 1:=by kernel_rfl
theorem cellsX40 : Tryz.prog.cellsOf 59 = 1:=by kernel_rfl
theorem cellsX23 : Tryz.prog.cellsOf 23 = 1:=by kernel_rfl
theorem cellsX64 : Tryz.prog.cellsOf 49 = 1:=by kernel_rfl
theorem cellsX22 : Tryz.prog.cellsOf 22 = 1:=by kernel_rfl
theorem cellsX24 : Tryz.prog.cellsOf 24 = 1:=by kernel_rfl
theorem cellsX25 : Tryz.prog.cellsOf 25 = 1:=by kernel_rfl
theorem cellsX26 : Tryz.prog.cellsOf 26 = 1:=by kernel_rfl
theorem cellsX27 : Tryz.prog.cellsOf 27 = 1:=by kernel_rfl
theorem cellsX29 : Tryz.prog.cellsOf 29 = 8:=by kernel_rfl
theorem bytesX62 : Tryz.prog.bytesOf 55 = 32:=by kernel_rfl
theorem bytesX3 : Tryz.prog.bytesOf 3 = 8:=by kernel_rfl
theorem bytesX141 : Tryz.prog.bytesOf 80 = 16:=by kernel_rfl
theorem bytesX42 : Tryz.prog.bytesOf 61 = 48:=by kernel_rfl
theorem bytesX66 : Tryz.prog.bytesOf 51 = 32:=by kernel_rfl
theorem bytesX68 : Tryz.prog.bytesOf 64 = 24:=by kernel_rfl
theorem bytesX51 : Tryz.prog.bytesOf 82 = 40:=by kernel_rfl
theorem bytesX5 : Tryz.prog.bytesOf 5 = 1:=by kernel_rfl
theorem open_I {fuel : Nat} {cs : List Value} {x : DataW H × List MemPlace} (h : DataW.trod enc Tryz.prog W 0 (fun _ => true) true fuel 3 cs = some x) (hw : ∀ n ∈ x.1.weights Tryz.prog 3,n ≤ reachBytes) : ∃ a : Int,cs = [.int .i64 a] ∧ (-9223372036854775808 ≤ a ∧ a < 9223372036854775808):=by
 obtain ⟨n,h1,_,wf⟩:=DataW.trod_int Tryz.underlying3 h
 have:=bounds_i64 wf
 exact ⟨n,h1,by omega,by omega⟩
theorem open_B {fuel : Nat} {cs : List Value} {x : DataW H × List MemPlace} (h : DataW.trod enc Tryz.prog W 0 (fun _ => true) true fuel 5 cs = some x) (hw : ∀ n ∈ x.1.weights Tryz.prog 5,n ≤ reachBytes) : ∃ a : Int,cs = [.int .u8 a] ∧ (0 ≤ a ∧ a ≤ 255):=by
 obtain ⟨n,h1,_,wf⟩:=DataW.trod_int Tryz.underlying5 h
 have:=bounds_u8 wf
 exact ⟨n,h1,by omega,by omega⟩
def FSig (x : ByteArray × ByteArray) : List Value:=[.string x.1,.string x.2]
def GSig (W : World) (x : ByteArray × ByteArray) : Prop:=x.1.size ≤ 140737488355328 ∧ x.2.size ≤ 140737488355328
theorem open_Sig {fuel : Nat} {cs : List Value} {x : DataW H × List MemPlace} (h : DataW.trod enc Tryz.prog W 0 (fun _ => true) true fuel 55 cs = some x) (hw : ∀ n ∈ x.1.weights Tryz.prog 55,n ≤ reachBytes) : ∃ a : ByteArray × ByteArray,cs = FSig a ∧ GSig W a:=by
 obtain ⟨ys,m,_,hx,hl,hyl,hel⟩:=DataW.trod_struct Tryz.underlying55 h
 rw [cellsX62] at hl
 have hd:=congrArg Prod.fst hx
 simp only at hd
 rw [hd] at hw
 match ys,hyl with
 | [y0,y1],_ =>
  match cs,hl with
  | [x0,x1],_ =>
   have e0 : DataW.trod enc Tryz.prog W 0 (fun _ => true) true m 9 (([x0,x1].drop 0).take (Tryz.prog.cellsOf 9)) = some y0:=hel 0 _ rfl
   have w0:=weights_part (j:=0) (u:=9) (y:=y0) Tryz.underlying55 rfl rfl hw
   rw [cellsX9] at e0
   obtain ⟨p,h0,z0⟩:=open_strX Tryz.underlying9 e0 w0
   have e1 : DataW.trod enc Tryz.prog W 0 (fun _ => true) true m 9 (([x0,x1].drop 1).take (Tryz.prog.cellsOf 9)) = some y1:=hel 1 _ rfl
   have w1:=weights_part (j:=1) (u:=9) (y:=y1) Tryz.underlying55 rfl rfl hw
   rw [cellsX9] at e1
   obtain ⟨q,h1,z1⟩:=open_strX Tryz.underlying9 e1 w1
   simp at h0 h1
   subst h0 h1
   exact ⟨(p,q),rfl,z0,z1⟩
def FGl (x : Int × Bool × Int) : List Value:=[.int .u8 x.1,.bool x.2.1,.int .u64 x.2.2]
def GGl (W : World) (x : Int × Bool × Int) : Prop:=0 ≤ x.1 ∧ x.1 ≤ 255 ∧ 0 ≤ x.2.2 ∧ x.2.2 < 18446744073709551616
theorem open_Gl {fuel : Nat} {cs : List Value} {x : DataW H × List MemPlace} (h : DataW.trod enc Tryz.prog W 0 (fun _ => true) true fuel 80 cs = some x) (hw : ∀ n ∈ x.1.weights Tryz.prog 80,n ≤ reachBytes) : ∃ a : Int × Bool × Int,cs = FGl a ∧ GGl W a:=by
 obtain ⟨ys,m,_,hx,hl,hyl,hel⟩:=DataW.trod_struct Tryz.underlying80 h
 rw [cellsX141] at hl
 have hd:=congrArg Prod.fst hx
 simp only at hd
 rw [hd] at hw
 match ys,hyl with
 | [y0,y1,y2],_ =>
  match cs,hl with
  | [x0,x1,x2],_ =>
   have e0 : DataW.trod enc Tryz.prog W 0 (fun _ => true) true m 5 (([x0,x1,x2].drop 0).take (Tryz.prog.cellsOf 5)) = some y0:=hel 0 _ rfl
   have w0:=weights_part (j:=0) (u:=5) (y:=y0) Tryz.underlying80 rfl rfl hw
   rw [cellsX5] at e0
   obtain ⟨p,h0,_,wf0⟩:=DataW.trod_int Tryz.underlying5 e0
   have b0:=bounds_u8 wf0
   have e1 : DataW.trod enc Tryz.prog W 0 (fun _ => true) true m 4 (([x0,x1,x2].drop 1).take (Tryz.prog.cellsOf 4)) = some y1:=hel 1 _ rfl
   have w1:=weights_part (j:=1) (u:=4) (y:=y1) Tryz.underlying80 rfl rfl hw
   rw [cellsX4] at e1
   obtain ⟨q,h1,_⟩:=DataW.trod_bool Tryz.underlying4 e1
   have e2 : DataW.trod enc Tryz.prog W 0 (fun _ => true) true m 53 (([x0,x1,x2].drop 2).take (Tryz.prog.cellsOf 53)) = some y2:=hel 2 _ rfl
   have w2:=weights_part (j:=2) (u:=53) (y:=y2) Tryz.underlying80 rfl rfl hw
   rw [cellsX139] at e2
   obtain ⟨r,h2,_,wf2⟩:=DataW.trod_int Tryz.underlying53 e2
   have b2:=bounds_u64 wf2
   simp at h0 h1 h2
   subst h0 h1 h2
   exact ⟨(p,q,r),rfl,by simp only; omega,by simp only; omega,by simp only; omega,by simp only; omega⟩
def FEx (x : ByteArray × Int) : List Value:=[.string x.1,.int .i64 x.2]
def GEx (W : World) (x : ByteArray × Int) : Prop:=x.1.size ≤ 140737488355328 ∧ -9223372036854775808 ≤ x.2 ∧ x.2 < 9223372036854775808
theorem open_Ex {fuel : Nat} {cs : List Value} {x : DataW H × List MemPlace} (h : DataW.trod enc Tryz.prog W 0 (fun _ => true) true fuel 64 cs = some x) (hw : ∀ n ∈ x.1.weights Tryz.prog 64,n ≤ reachBytes) : ∃ a : ByteArray × Int,cs = FEx a ∧ GEx W a:=by
 obtain ⟨ys,m,_,hx,hl,hyl,hel⟩:=DataW.trod_struct Tryz.underlying64 h
 rw [cellsX68] at hl
 have hd:=congrArg Prod.fst hx
 simp only at hd
 rw [hd] at hw
 match ys,hyl with
 | [y0,y1],_ =>
  match cs,hl with
  | [x0,x1],_ =>
   have e0 : DataW.trod enc Tryz.prog W 0 (fun _ => true) true m 9 (([x0,x1].drop 0).take (Tryz.prog.cellsOf 9)) = some y0:=hel 0 _ rfl
   have w0:=weights_part (j:=0) (u:=9) (y:=y0) Tryz.underlying64 rfl rfl hw
   rw [cellsX9] at e0
   obtain ⟨p,h0,z0⟩:=open_strX Tryz.underlying9 e0 w0
   have e1 : DataW.trod enc Tryz.prog W 0 (fun _ => true) true m 3 (([x0,x1].drop 1).take (Tryz.prog.cellsOf 3)) = some y1:=hel 1 _ rfl
   have w1:=weights_part (j:=1) (u:=3) (y:=y1) Tryz.underlying64 rfl rfl hw
   rw [cellsX3] at e1
   obtain ⟨q,h1,_,wf1⟩:=DataW.trod_int Tryz.underlying3 e1
   have b1:=bounds_i64 wf1
   simp at h0 h1
   subst h0 h1
   exact ⟨(p,q),rfl,z0,by simp only; omega,by simp only; omega⟩
def FIn (x : Int × Int × (Option Addr × Nat × Nat) × List Int) : List Value:=[.int .u8 x.1,.int .i64 x.2.1,.slice x.2.2.1.1 x.2.2.1.2.1 x.2.2.1.2.2]
def GIn (W : World) (x : Int × Int × (Option Addr × Nat × Nat) × List Int) : Prop:=0 ≤ x.1 ∧ x.1 ≤ 255 ∧ LsAt W 1 (fun (z : Int) => [Value.int .i64 z]) x.2.2.1.1 x.2.2.1.2.1 x.2.2.1.2.2 x.2.2.2 ∧ ∀ (j : Nat) a,x.2.2.2[j]? = some a → -9223372036854775808 ≤ a ∧ a < 9223372036854775808
theorem open_In {fuel : Nat} {cs : List Value} {x : DataW H × List MemPlace} (h : DataW.trod enc Tryz.prog W 0 (fun _ => true) true fuel 82 cs = some x) (hw : ∀ n ∈ x.1.weights Tryz.prog 82,n ≤ reachBytes) : ∃ a : Int × Int × (Option Addr × Nat × Nat) × List Int,cs = FIn a ∧ GIn W a:=by
 obtain ⟨ys,m,_,hx,hl,hyl,hel⟩:=DataW.trod_struct Tryz.underlying82 h
 rw [cellsX51] at hl
 have hd:=congrArg Prod.fst hx
 simp only at hd
 rw [hd] at hw
 match ys,hyl with
 | [y0,y1,y2],_ =>
  match cs,hl with
  | [x0,x1,x2],_ =>
   have e0 : DataW.trod enc Tryz.prog W 0 (fun _ => true) true m 5 (([x0,x1,x2].drop 0).take (Tryz.prog.cellsOf 5)) = some y0:=hel 0 _ rfl
   have w0:=weights_part (j:=0) (u:=5) (y:=y0) Tryz.underlying82 rfl rfl hw
   rw [cellsX5] at e0
   obtain ⟨p,h0,_,wf0⟩:=DataW.trod_int Tryz.underlying5 e0
   have b0:=bounds_u8 wf0
   have e1 : DataW.trod enc Tryz.prog W 0 (fun _ => true) true m 2 (([x0,x1,x2].drop 1).take (Tryz.prog.cellsOf 2)) = some y1:=hel 1 _ rfl
   have w1:=weights_part (j:=1) (u:=2) (y:=y1) Tryz.underlying82 rfl rfl hw
   rw [cellsX2] at e1
   obtain ⟨q,h1,_,wf1⟩:=DataW.trod_int Tryz.underlying2 e1
   have b1:=bounds_i64 wf1
   have e2 : DataW.trod enc Tryz.prog W 0 (fun _ => true) true m 23 (([x0,x1,x2].drop 2).take (Tryz.prog.cellsOf 23)) = some y2:=hel 2 _ rfl
   have w2:=weights_part (j:=2) (u:=23) (y:=y2) Tryz.underlying82 rfl rfl hw
   rw [cellsX23] at e2
   obtain ⟨la,ln,lc,ls,h2,at2,el2⟩:=(open_listX (c:=1) (B:=8) (fun (z : Int) => [Value.int .i64 z]) (fun (a : Int) => -9223372036854775808 ≤ a ∧ a < 9223372036854775808) Tryz.underlying23 cellsX3 (by decide) bytesX3 (by decide) (fun _ _ _ h1 h2 => open_I h1 h2)) e2 w2
   simp at h0 h1 h2
   subst h0 h1 h2
   exact ⟨(p,q,(la,ln,lc),ls),rfl,by simp only; omega,by simp only; omega,at2,el2⟩
def FFu (x : Int × ByteArray × (Option Addr × Nat × Nat) × List (Int × Int × (Option Addr × Nat × Nat) × List Int)) : List Value:=[.int .i64 x.1,.string x.2.1,.slice x.2.2.1.1 x.2.2.1.2.1 x.2.2.1.2.2]
def GFu (W : World) (x : Int × ByteArray × (Option Addr × Nat × Nat) × List (Int × Int × (Option Addr × Nat × Nat) × List Int)) : Prop:=(-9223372036854775808 ≤ x.1 ∧ x.1 < 9223372036854775808) ∧ x.2.1.size ≤ 140737488355328 ∧ LsAt W 3 FIn x.2.2.1.1 x.2.2.1.2.1 x.2.2.1.2.2 x.2.2.2 ∧ ∀ (j : Nat) y,x.2.2.2[j]? = some y → GIn W y
theorem open_Fu {fuel : Nat} {cs : List Value} {x : DataW H × List MemPlace} (h : DataW.trod enc Tryz.prog W 0 (fun _ => true) true fuel 61 cs = some x) (hw : ∀ n ∈ x.1.weights Tryz.prog 61,n ≤ reachBytes) : ∃ a : Int × ByteArray × (Option Addr × Nat × Nat) × List (Int × Int × (Option Addr × Nat × Nat) × List Int),cs = FFu a ∧ GFu W a:=by
 obtain ⟨ys,m,_,hx,hl,hyl,hel⟩:=DataW.trod_struct Tryz.underlying61 h
 rw [cellsX42] at hl
 have hd:=congrArg Prod.fst hx
 simp only at hd
 rw [hd] at hw
 match ys,hyl with
 | [y0,y1,y2],_ =>
  match cs,hl with
  | [x0,x1,x2],_ =>
   have e0 : DataW.trod enc Tryz.prog W 0 (fun _ => true) true m 3 (([x0,x1,x2].drop 0).take (Tryz.prog.cellsOf 3)) = some y0:=hel 0 _ rfl
   have w0:=weights_part (j:=0) (u:=3) (y:=y0) Tryz.underlying61 rfl rfl hw
   rw [cellsX3] at e0
   obtain ⟨p,h0,_,wf0⟩:=DataW.trod_int Tryz.underlying3 e0
   have b0:=bounds_i64 wf0
   have e1 : DataW.trod enc Tryz.prog W 0 (fun _ => true) true m 9 (([x0,x1,x2].drop 1).take (Tryz.prog.cellsOf 9)) = some y1:=hel 1 _ rfl
   have w1:=weights_part (j:=1) (u:=9) (y:=y1) Tryz.underlying61 rfl rfl hw
   rw [cellsX9] at e1
   obtain ⟨q,h1,z1⟩:=open_strX Tryz.underlying9 e1 w1
   have e2 : DataW.trod enc Tryz.prog W 0 (fun _ => true) true m 59 (([x0,x1,x2].drop 2).take (Tryz.prog.cellsOf 59)) = some y2:=hel 2 _ rfl
   have w2:=weights_part (j:=2) (u:=59) (y:=y2) Tryz.underlying61 rfl rfl hw
   rw [cellsX40] at e2
   obtain ⟨la,ln,lc,ls,h2,at2,el2⟩:=(open_listX (c:=3) (B:=40) FIn (GIn W) Tryz.underlying59 cellsX51 (by decide) bytesX51 (by decide) (fun _ _ _ h1 h2 => open_In h1 h2)) e2 w2
   simp at h0 h1 h2
   subst h0 h1 h2
   exact ⟨(p,q,(la,ln,lc),ls),rfl,⟨by simp only; omega,by simp only; omega⟩,z1,at2,el2⟩
def FDa (x : Int × (Option Addr × Nat × Nat) × List Int) : List Value:=[.int .i64 x.1,.slice x.2.1.1 x.2.1.2.1 x.2.1.2.2]
def GDa (W : World) (x : Int × (Option Addr × Nat × Nat) × List Int) : Prop:=(-9223372036854775808 ≤ x.1 ∧ x.1 < 9223372036854775808) ∧ LsAt W 1 (fun (z : Int) => [Value.int .u8 z]) x.2.1.1 x.2.1.2.1 x.2.1.2.2 x.2.2 ∧ ∀ (j : Nat) a,x.2.2[j]? = some a → 0 ≤ a ∧ a ≤ 255
theorem open_Da {fuel : Nat} {cs : List Value} {x : DataW H × List MemPlace} (h : DataW.trod enc Tryz.prog W 0 (fun _ => true) true fuel 51 cs = some x) (hw : ∀ n ∈ x.1.weights Tryz.prog 51,n ≤ reachBytes) : ∃ a : Int × (Option Addr × Nat × Nat) × List Int,cs = FDa a ∧ GDa W a:=by
 obtain ⟨ys,m,_,hx,hl,hyl,hel⟩:=DataW.trod_struct Tryz.underlying51 h
 rw [cellsX66] at hl
 have hd:=congrArg Prod.fst hx
 simp only at hd
 rw [hd] at hw
 match ys,hyl with
 | [y0,y1],_ =>
  match cs,hl with
  | [x0,x1],_ =>
   have e0 : DataW.trod enc Tryz.prog W 0 (fun _ => true) true m 3 (([x0,x1].drop 0).take (Tryz.prog.cellsOf 3)) = some y0:=hel 0 _ rfl
   have w0:=weights_part (j:=0) (u:=3) (y:=y0) Tryz.underlying51 rfl rfl hw
   rw [cellsX3] at e0
   obtain ⟨p,h0,_,wf0⟩:=DataW.trod_int Tryz.underlying3 e0
   have b0:=bounds_i64 wf0
   have e1 : DataW.trod enc Tryz.prog W 0 (fun _ => true) true m 49 (([x0,x1].drop 1).take (Tryz.prog.cellsOf 49)) = some y1:=hel 1 _ rfl
   have w1:=weights_part (j:=1) (u:=49) (y:=y1) Tryz.underlying51 rfl rfl hw
   rw [cellsX64] at e1
   obtain ⟨la,ln,lc,ls,h1,at1,el1⟩:=(open_listX (c:=1) (B:=1) (fun (z : Int) => [Value.int .u8 z]) (fun (a : Int) => 0 ≤ a ∧ a ≤ 255) Tryz.underlying49 cellsX5 (by decide) bytesX5 (by decide) (fun _ _ _ h1 h2 => open_B h1 h2)) e1 w1
   simp at h0 h1
   subst h0 h1
   exact ⟨(p,(la,ln,lc),ls),rfl,⟨by simp only; omega,by simp only; omega⟩,at1,el1⟩
theorem open_Mod {fuel : Nat} {cs : List Value} {x : DataW H × List MemPlace} (h : DataW.trod enc Tryz.prog W 0 (fun _ => true) true fuel 29 cs = some x) (hw : ∀ n ∈ x.1.weights Tryz.prog 29,n ≤ reachBytes) :
  ∃ (ta : Option Addr) (tn tc : Nat) (ts : List (ByteArray × ByteArray)) (ha : Option Addr) (hn hc : Nat) (hs : List Int) (ga : Option Addr) (gn gc : Nat) (gs : List (Int × Bool × Int)) (fi mo : Int) (fa : Option Addr) (fn fc : Nat) (fs : List (Int × ByteArray × (Option Addr × Nat × Nat) × List (Int × Int × (Option Addr × Nat × Nat) × List Int))) (da : Option Addr) (dn dc : Nat) (ds : List (Int × (Option Addr × Nat × Nat) × List Int)) (ea : Option Addr) (en ec : Nat) (es : List (ByteArray × Int)),
   cs = [.slice ta tn tc,.slice ha hn hc,.slice ga gn gc,.int .i64 fi,.int .i64 mo,.slice fa fn fc,.slice da dn dc,.slice ea en ec] ∧
   (LsAt W 2 FSig ta tn tc ts ∧ ∀ (j : Nat) x,ts[j]? = some x → GSig W x) ∧ (LsAt W 1 (fun (z : Int) => [Value.int .i64 z]) ha hn hc hs ∧ ∀ (j : Nat) a,hs[j]? = some a → -9223372036854775808 ≤ a ∧ a < 9223372036854775808) ∧ (LsAt W 3 FGl ga gn gc gs ∧ ∀ (j : Nat) x,gs[j]? = some x → GGl W x) ∧ (-9223372036854775808 ≤ fi ∧ fi < 9223372036854775808) ∧ (-9223372036854775808 ≤ mo ∧ mo < 9223372036854775808) ∧ (LsAt W 3 FFu fa fn fc fs ∧ ∀ (j : Nat) x,fs[j]? = some x → GFu W x) ∧ (LsAt W 2 FDa da dn dc ds ∧ ∀ (j : Nat) x,ds[j]? = some x → GDa W x) ∧ (LsAt W 2 FEx ea en ec es ∧ ∀ (j : Nat) x,es[j]? = some x → GEx W x):=by
 obtain ⟨ys,m,_,hx,hl,hyl,hel⟩:=DataW.trod_struct Tryz.underlying29 h
 rw [cellsX29] at hl
 have hd:=congrArg Prod.fst hx
 simp only at hd
 rw [hd] at hw
 match ys,hyl with
 | [y0,y1,y2,y3,y4,y5,y6,y7],_ =>
  match cs,hl with
  | [x0,x1,x2,x3,x4,x5,x6,x7],_ =>
   have e0 : DataW.trod enc Tryz.prog W 0 (fun _ => true) true m 22 (([x0,x1,x2,x3,x4,x5,x6,x7].drop 0).take (Tryz.prog.cellsOf 22)) = some y0:=hel 0 _ rfl
   have w0:=weights_part (j:=0) (u:=22) (y:=y0) Tryz.underlying29 rfl rfl hw
   rw [cellsX22] at e0
   obtain ⟨ta,tn,tc,ts,h0,at0,el0⟩:=(open_listX (c:=2) (B:=32) FSig (GSig W) Tryz.underlying22 cellsX62 (by decide) bytesX62 (by decide) (fun _ _ _ h1 h2 => open_Sig h1 h2)) e0 w0
   have e1 : DataW.trod enc Tryz.prog W 0 (fun _ => true) true m 23 (([x0,x1,x2,x3,x4,x5,x6,x7].drop 1).take (Tryz.prog.cellsOf 23)) = some y1:=hel 1 _ rfl
   have w1:=weights_part (j:=1) (u:=23) (y:=y1) Tryz.underlying29 rfl rfl hw
   rw [cellsX23] at e1
   obtain ⟨ha,hn,hc,hs,h1,at1,el1⟩:=(open_listX (c:=1) (B:=8) (fun (z : Int) => [Value.int .i64 z]) (fun (a : Int) => -9223372036854775808 ≤ a ∧ a < 9223372036854775808) Tryz.underlying23 cellsX3 (by decide) bytesX3 (by decide) (fun _ _ _ h1 h2 => open_I h1 h2)) e1 w1
   have e2 : DataW.trod enc Tryz.prog W 0 (fun _ => true) true m 24 (([x0,x1,x2,x3,x4,x5,x6,x7].drop 2).take (Tryz.prog.cellsOf 24)) = some y2:=hel 2 _ rfl
   have w2:=weights_part (j:=2) (u:=24) (y:=y2) Tryz.underlying29 rfl rfl hw
   rw [cellsX24] at e2
   obtain ⟨ga,gn,gc,gs,h2,at2,el2⟩:=(open_listX (c:=3) (B:=16) FGl (GGl W) Tryz.underlying24 cellsX141 (by decide) bytesX141 (by decide) (fun _ _ _ h1 h2 => open_Gl h1 h2)) e2 w2
   have e3 : DataW.trod enc Tryz.prog W 0 (fun _ => true) true m 3 (([x0,x1,x2,x3,x4,x5,x6,x7].drop 3).take (Tryz.prog.cellsOf 3)) = some y3:=hel 3 _ rfl
   have w3:=weights_part (j:=3) (u:=3) (y:=y3) Tryz.underlying29 rfl rfl hw
   rw [cellsX3] at e3
   obtain ⟨fi,h3,b3⟩:=open_I e3 w3
   have e4 : DataW.trod enc Tryz.prog W 0 (fun _ => true) true m 3 (([x0,x1,x2,x3,x4,x5,x6,x7].drop 4).take (Tryz.prog.cellsOf 3)) = some y4:=hel 4 _ rfl
   have w4:=weights_part (j:=4) (u:=3) (y:=y4) Tryz.underlying29 rfl rfl hw
   rw [cellsX3] at e4
   obtain ⟨mo,h4,b4⟩:=open_I e4 w4
   have e5 : DataW.trod enc Tryz.prog W 0 (fun _ => true) true m 25 (([x0,x1,x2,x3,x4,x5,x6,x7].drop 5).take (Tryz.prog.cellsOf 25)) = some y5:=hel 5 _ rfl
   have w5:=weights_part (j:=5) (u:=25) (y:=y5) Tryz.underlying29 rfl rfl hw
   rw [cellsX25] at e5
   obtain ⟨fa,fn,fc,fs,h5,at5,el5⟩:=(open_listX (c:=3) (B:=48) FFu (GFu W) Tryz.underlying25 cellsX42 (by decide) bytesX42 (by decide) (fun _ _ _ h1 h2 => open_Fu h1 h2)) e5 w5
   have e6 : DataW.trod enc Tryz.prog W 0 (fun _ => true) true m 26 (([x0,x1,x2,x3,x4,x5,x6,x7].drop 6).take (Tryz.prog.cellsOf 26)) = some y6:=hel 6 _ rfl
   have w6:=weights_part (j:=6) (u:=26) (y:=y6) Tryz.underlying29 rfl rfl hw
   rw [cellsX26] at e6
   obtain ⟨da,dn,dc,ds,h6,at6,el6⟩:=(open_listX (c:=2) (B:=32) FDa (GDa W) Tryz.underlying26 cellsX66 (by decide) bytesX66 (by decide) (fun _ _ _ h1 h2 => open_Da h1 h2)) e6 w6
   have e7 : DataW.trod enc Tryz.prog W 0 (fun _ => true) true m 27 (([x0,x1,x2,x3,x4,x5,x6,x7].drop 7).take (Tryz.prog.cellsOf 27)) = some y7:=hel 7 _ rfl
   have w7:=weights_part (j:=7) (u:=27) (y:=y7) Tryz.underlying29 rfl rfl hw
   rw [cellsX27] at e7
   obtain ⟨ea,en,ec,es,h7,at7,el7⟩:=(open_listX (c:=2) (B:=24) FEx (GEx W) Tryz.underlying27 cellsX68 (by decide) bytesX68 (by decide) (fun _ _ _ h1 h2 => open_Ex h1 h2)) e7 w7
   simp at h0 h1 h2 h3 h4 h5 h6 h7
   subst h0 h1 h2 h3 h4 h5 h6 h7
   exact ⟨ta,tn,tc,ts,ha,hn,hc,hs,ga,gn,gc,gs,fi,mo,fa,fn,fc,fs,da,dn,dc,ds,ea,en,ec,es,rfl,⟨at0,el0⟩,⟨at1,el1⟩,⟨at2,el2⟩,b3,b4,⟨at5,el5⟩,⟨at6,el6⟩,⟨at7,el7⟩⟩
end
end Go.Proofs.YtepcmfegggdjfaaGreatDoor

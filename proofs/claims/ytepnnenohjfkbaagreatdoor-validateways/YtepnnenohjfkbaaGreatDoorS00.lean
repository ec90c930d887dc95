/-
  Texts Heap List Sh Shelf Ref Map.
-/
import Derived.ArgAppend
import Derived.Below
import Derived.BigQuiet
import Derived.Deep.AppendLies
import Derived.Deep.QuietTactic
import Derived.Deep.RegionHeld3
import Derived.Ground.Names2Prog
import Derived.KernelRfl
import Derived.RowKit
import Derived.Shelf.LaysM
import Derived.Shelf.Slices.Cells
import Derived.Shelf.Slices.CompactI
import Derived.Shelf.Slices.In.SortNone
import Derived.Shelf.Sort.Plain
import Derived.Shelf.Strings.Search1
import Derived.Shelf.Strings.Search2
import Derived.Shelf.Strings.Search3
import Derived.Shelf.Strings.Shaped
import Derived.Shelf.Unicode.DecodeSlow
import Derived.Test.YtepnnenohjfkbaaGreatDoorProg
import Derived.WalkKit
import Derived.WalkLawsBesides
import Derived.WalkMore
import Derived.WalkSpells
import Derived.Test.YtepnnenohjfkbaaGreatDoorR33
set_option linter.unusedVariables false
set_option maxRecDepth 100000
set_option maxHeartbeats 16000000
namespace Go.Proofs.YtepnnenohjfkbaaGreatDoor
open Go.RowKit
theorem app_cell {P : Program} (w : World) {ops : Array Oper} {rest : List Oper} {o : Oper} {a : Act} {Q : Exit → Act → World → Prop} (hgd : o.guard = none)
  (s x : Operand) (t : TypeId) (ho : o.op = Op.call { callee:=Callee.builtin Builtin.append,args:=#[s,x],argTypes:=#[t,t] }) (e : TypeId) (i : TypeInfo) (z : Value) (bytes : Nat)
  (h1 : P.underlying t = some (.slice e)) (h2 : P.info? e = some i) (h3 : i.zero = some z) (h4 : i.size = 1) (h5 : i.bytes = bytes) (h6 : z.cells.size = 1)
  (v : Value) (n : Nat) (xs : List Value) (hs : a.eval s = v) (hown : w.ownsRow 0 e 1 v n xs) (ad : Addr) (u : Value) (hx : a.eval x = .slice (some ad) 1 1) (hu : w.cell? (ad.add 0) = some u) (hu1 : u.oneCell' = true)
  (b1 : n + 1 ≤ maxLen) (b2 : (n + 1) * bytes ≤ 140737488355328)
  (h : ∀ (B cap : Nat) (w' : World),Row w' e B (n + 1) cap (xs ++ [u]) → ((v = .slice (some ⟨B,0,none⟩) n cap ∧ Kept (fun k => k = B) w w') ∨ (w.heap.size ≤ B ∧ Kept (fun _ => False) w w')) → wpList P ops Q rest (a.put o.dst (.slice (some ⟨B,0,none⟩) (n + 1) cap)) w') :
  wpList P ops Q (o :: rest) a w:=by
 have hnews : ∀ (j : Nat) (y : Value),[u][j]? = some y → w.cell? (ad.add j) = some y:=by
  intro j y hj
  match j,hj with
  | 0,hj => simp at hj; subst hj; exact hu
  | j + 1,hj => simp at hj
 have hone : ∀ y ∈ [u],y.oneCell' = true:=by intro y hy; simp at hy; subst hy; exact hu1
 have grow : ∀ (ao : Option Addr) (cap : Nat),v = .slice ao n cap → (ao = none → n = 0 ∧ cap = 0) → (∀ b,ao = some b → ∀ (j : Nat) (y : Value),xs[j]? = some y → w.cell? (b.add j) = some y) → cap < n + 1 → wpList P ops Q (o :: rest) a w:=by
  intro ao cap hv hnone holds hfull
  refine wpList_append_grows w hgd s x t ho e i z 1 bytes h1 h2 h3 h4 h5 h6 (by decide) ao n cap xs (hs.trans hv) hnone hown.1 holds ad 1 1 [u] hx rfl hnews hone hfull b1 b2 ?_
  intro v' w' ho' hg'
  rcases ho'.2 with ⟨_,hz⟩ | ⟨g,cp,cur,rfl,hbase,h8⟩
  ·omega
  ·exact h g cp w' (Row.of ho') (.inr ⟨hbase,(Kept.of_grown hg').mono (fun k hk => by cases hk)⟩)
 rcases hown.2 with ⟨rfl,rfl⟩ | ⟨g,cap,cur,rfl,_,hh,hnc,hcm,hsz,htk⟩
 ·exact grow none 0 rfl (fun _ => ⟨rfl,rfl⟩) (fun b hb => by cases hb) (by omega)
 ·by_cases hroom : n + 1 ≤ cap
  ·refine wpList_append_fits w hgd s x t ho 0 e i 1 h1 h2 h4 g n cap xs hs hown ad 1 1 [u] hx rfl hnews hone hroom ?_
   intro w' ho' hg'
   exact h g cap w' ho' (.inl ⟨rfl,(Kept.of_grown hg').mono (fun k hk => by simpa using hk)⟩)
  ·refine grow (some ⟨g,0,none⟩) cap rfl (fun hb => by cases hb) (fun b hb j y hy => ?_) (by omega)
   simp at hb
   subst hb
   have hj : j < xs.length:=by
    rcases Nat.lt_or_ge j xs.length with h | h
    ·exact h
    ·simp [List.getElem?_eq_none h] at hy
   have hl:=hown.1
   have hplain : (⟨g,0,none⟩ : Addr).add j = ⟨g,j,none⟩:=by unfold Addr.add; split <;> simp_all
   rw [hplain,World.ownsRow.cellAt hown j (by omega)]
   exact hy
theorem own_of_row {w : World} {e : TypeId} {base B n cap : Nat} {xs : List Value} (h : Row w e B n cap xs) (hb : base ≤ B) : w.ownsRow base e 1 (.slice (some ⟨B,0,none⟩) n cap) n xs:=by
 refine ⟨h.1,?_⟩
 rcases h.2 with ⟨h0,_⟩ | ⟨g,cp,cur,h1,_,h3⟩
 ·cases h0
 ·injection h1 with e1 e2 e3
  injection e1 with e1
  injection e1 with e1
  subst e1
  exact .inr ⟨B,cp,cur,by rw [e3],hb,h3⟩
theorem app_int (w : World) {ops : Array Oper} {rest : List Oper} {o : Oper} {a : Act} {Q : Exit → Act → World → Prop} (hgd : o.guard = none)
  (s x : Operand) (ho : o.op = Op.call { callee:=Callee.builtin Builtin.append,args:=#[s,x],argTypes:=#[23,23] })
  (base : Nat) (v : Value) (l : List Int) (hs : a.eval s = v) (hown : LI w base v l) (hbase : base ≤ w.heap.size) (ad : Addr) (z : Int) (hx : a.eval x = .slice (some ad) 1 1) (hu : w.cell? (ad.add 0) = some (.int .i64 z))
  (hlen : l.length ≤ 1073741824)
  (h : ∀ (B cap : Nat) (w' : World),LI w' base (.slice (some ⟨B,0,none⟩) (l.length + 1) cap) (l ++ [z]) → base ≤ B → Below base w w' → wpList Tryz.prog ops Q rest (a.put o.dst (.slice (some ⟨B,0,none⟩) (l.length + 1) cap)) w') :
  wpList Tryz.prog ops Q (o :: rest) a w:=by
 obtain ⟨i0,hi,hz0,hz1,hz2⟩:=info_parts Tryz.infInts
 refine app_cell w hgd s x 23 ho 3 i0 (.int .i64 0) 8 Tryz.underlying23 hi hz0 hz1 hz2 rfl v l.length (l.map (Value.int .i64)) hs (own_mono hown (Nat.zero_le _)) ad (.int .i64 z) hx hu rfl (by unfold maxLen; omega) (by omega) ?_
 intro B cap w' hrow hcase
 have hB : base ≤ B:=by
  rcases hcase with ⟨rfl,_⟩ | ⟨h1,_⟩
  ·exact (LI.block hown rfl).1
  ·omega
 refine h B cap w' ?_ hB ?_
 ·have:=own_of_row hrow hB
  unfold LI
  simpa using this
 ·rcases hcase with ⟨_,h1⟩ | ⟨_,h1⟩
  ·exact h1.to_below hbase (fun k hk e => by omega)
  ·exact h1.to_below hbase (fun k hk e => e)
theorem step_app (w : World) {ops : Array Oper} {o : Oper} {a : Act} {K : Act → World → Prop} {Q : Exit → Act → World → Prop} {E : Prop} (hgd : o.guard = none)
  (s x : Operand) (ho : o.op = Op.call { callee:=Callee.builtin Builtin.append,args:=#[s,x],argTypes:=#[23,23] })
  (base : Nat) (v : Value) (l : List Int) (hs : a.eval s = v) (hown : LI w base v l) (hbase : base ≤ w.heap.size) (ad : Addr) (zs : List Int) (m c : Nat) (hx : a.eval x = .slice (some ad) m c) (hm : zs.length = m) (hm0 : 0 < m)
  (hu : ∀ (j : Nat) (y : Value),(zs.map (Value.int .i64))[j]? = some y → w.cell? (ad.add j) = some y)
  (hlen : l.length + zs.length ≤ 1073741824)
  (h : ∀ (g k' c' : Nat) (w' : World),k' = (l ++ zs).length → LI w' base (.slice (some ⟨g,0,none⟩) k' c') (l ++ zs) → Below base w w' → K (a.put o.dst (.slice (some ⟨g,0,none⟩) k' c')) w') :
  if Region.wanted o (yielded ops a.tmps) = true then Oper.wp Tryz.prog o a w K Q else E:=by
 obtain ⟨i0,hi,hz0,hz1,hz2⟩:=info_parts Tryz.infInts
 refine step_append_lies w hgd s x 23 ho base 3 i0 (.int .i64 0) 1 8 Tryz.underlying23 hi hz0 hz1 hz2 rfl (by decide) v l.length _ hs hown ad m c (zs.map (Value.int .i64)) hx (by simp [hm])
  hu (by intro y hy; simp at hy; obtain ⟨z,_,rfl⟩:=hy; rfl) hm0 (by unfold maxLen; omega) (by omega) hbase _ rfl ?_
 intro g cap w' ho' hg _ _
 refine h g _ cap w' (by simp [hm]) ?_ ?_
 ·unfold LI
  rw [List.length_append,hm,List.map_append]
  exact ho'
 ·exact (Kept.of_grown hg).to_below hbase (fun k hk e => by
   have:=(LI.block hown e.symm).1
   omega)
theorem cells1 {w : World} {ad : Addr} {z : Int} (h : w.cell? (ad.add 0) = some (.int .i64 z)) : ∀ (j : Nat) (y : Value),([z].map (Value.int .i64))[j]? = some y → w.cell? (ad.add j) = some y:=fun j y hj => by
 rcases j with _ | j
 ·simp at hj; subst hj; exact h
 ·simp at hj
theorem cells2 {w : World} {ad : Addr} {z z' : Int} (h : w.cell? (ad.add 0) = some (.int .i64 z)) (h' : w.cell? (ad.add 1) = some (.int .i64 z')) : ∀ (j : Nat) (y : Value),([z,z'].map (Value.int .i64))[j]? = some y → w.cell? (ad.add j) = some y:=fun j y hj => by
 rcases j with _ | _ | j
 ·simp at hj; subst hj; exact h
 ·simp at hj; subst hj; exact h'
 ·simp at hj
theorem ends33 (s p : ByteArray) (w : World) (hs : s.size ≤ 9223372036854775807) :
  Calls Tryz.prog 33 #[.string s,.string p] w fun e w' => e = .returned (.bool (ends s p)) ∧ w' = w:=by
 have hlo : p.size ≤ s.size → ((s.size : Int) - (p.size : Int) + 9223372036854775808) % 18446744073709551616 - 9223372036854775808 = ((s.size - p.size : Nat) : Int):=fun _ => by omega
 go_enter Tryz.func33,Tryz.ntmps33
 go_wp2
 ·have h : p.size ≤ s.size:=by assumption
  go_ret
  refine ⟨?_,rfl⟩
  show Ending.returned (Value.bool ((s.extract (s.size - p.size) s.size).toList == p.toList)) = _
  simp [h,ends]
 ·have h : ¬ p.size ≤ s.size:=by assumption
  go_ret
  refine ⟨?_,rfl⟩
  show Ending.returned (Value.bool false) = _
  simp [h,ends]
end Go.Proofs.YtepnnenohjfkbaaGreatDoor
namespace Go.Proofs
open Go.Shelf
def Tryz.lays189_ren : Go.Shelf.Ren:=⟨fun | 189 => 81 | 125 => 133 | 257 => 132 | 128 => 204 | 129 => 205 | 294 => 195 | 295 => 196 | 296 => 197 | 297 => 198 | 298 => 199 | 299 => 200 | 216 => 201 | 300 => 202 | 301 => 203 | 328 => 244 | 329 => 245 | 330 => 246 | 331 => 247 | 332 => 248 | 215 => 249 | 343 => 273 | n => n,fun | 28 => 23 | 3 => 3 | 46 => 190 | 0 => 0 | 51 => 247 | 53 => 139 | 4 => 4 | 183 => 240 | 182 => 239 | 131 => 244 | 5 => 5 | 9 => 9 | 218 => 276 | 222 => 280 | 228 => 304 | 229 => 305 | n => n,fun | n => n⟩
theorem Tryz.lays189 : Go.Proofs.Lays.n189 Tryz.prog Tryz.lays189_ren:={
 mixed:=by kernel_rfl
 f125:=Tryz.func133.trans (congrArg some (by kernel_rfl))
 f128:=Tryz.func204.trans (congrArg some (by kernel_rfl))
 f129:=Tryz.func205.trans (congrArg some (by kernel_rfl))
 f189:=Tryz.func81.trans (congrArg some (by kernel_rfl))
 f215:=Tryz.func249.trans (congrArg some (by kernel_rfl))
 f216:=Tryz.func201.trans (congrArg some (by kernel_rfl))
 f257:=Tryz.func132.trans (congrArg some (by kernel_rfl))
 f294:=Tryz.func195.trans (congrArg some (by kernel_rfl))
 f295:=Tryz.func196.trans (congrArg some (by kernel_rfl))
 f296:=Tryz.func197.trans (congrArg some (by kernel_rfl))
 f297:=Tryz.func198.trans (congrArg some (by kernel_rfl))
 f298:=Tryz.func199.trans (congrArg some (by kernel_rfl))
 f299:=Tryz.func200.trans (congrArg some (by kernel_rfl))
 f300:=Tryz.func202.trans (congrArg some (by kernel_rfl))
 f301:=Tryz.func203.trans (congrArg some (by kernel_rfl))
 f328:=Tryz.func244.trans (congrArg some (by kernel_rfl))
 f329:=Tryz.func245.trans (congrArg some (by kernel_rfl))
 f330:=Tryz.func246.trans (congrArg some (by kernel_rfl))
 f331:=Tryz.func247.trans (congrArg some (by kernel_rfl))
 f332:=Tryz.func248.trans (congrArg some (by kernel_rfl))
 f343:=Tryz.func273.trans (congrArg some (by kernel_rfl))
 t0:=Tryz.underlying0
 a0:=Tryz.isAgg0
 z0:=Tryz.sizeOf0
 v0:=Tryz.zeroValue0
 t3:=Tryz.underlying3
 a3:=Tryz.isAgg3
 z3:=Tryz.sizeOf3
 v3:=Tryz.zeroValue3
 t4:=Tryz.underlying4
 a4:=Tryz.isAgg4
 z4:=Tryz.sizeOf4
 v4:=Tryz.zeroValue4
 t5:=Tryz.underlying5
 a5:=Tryz.isAgg5
 z5:=Tryz.sizeOf5
 v5:=Tryz.zeroValue5
 t9:=Tryz.underlying9
 a9:=Tryz.isAgg9
 z9:=Tryz.sizeOf9
 v9:=Tryz.zeroValue9
 t28:=Tryz.underlying23
 a28:=Tryz.isAgg23
 z28:=Tryz.sizeOf23
 v28:=Tryz.zeroValue23
 t46:=Tryz.underlying190
 a46:=Tryz.isAgg190
 z46:=Tryz.sizeOf190
 v46:=Tryz.zeroValue190
 t51:=Tryz.underlying247
 a51:=Tryz.isAgg247
 z51:=Tryz.sizeOf247
 v51:=Tryz.zeroValue247
 t53:=Tryz.underlying139
 a53:=Tryz.isAgg139
 z53:=Tryz.sizeOf139
 v53:=Tryz.zeroValue139
 t131:=Tryz.underlying244
 a131:=Tryz.isAgg244
 z131:=Tryz.sizeOf244
 v131:=Tryz.zeroValue244
 t182:=Tryz.underlying239
 a182:=Tryz.isAgg239
 z182:=Tryz.sizeOf239
 v182:=Tryz.zeroValue239
 t183:=Tryz.underlying240
 a183:=Tryz.isAgg240
 z183:=Tryz.sizeOf240
 v183:=Tryz.zeroValue240
 t218:=Tryz.underlying276
 a218:=Tryz.isAgg276
 z218:=Tryz.sizeOf276
 v218:=Tryz.zeroValue276
 t222:=Tryz.underlying280
 a222:=Tryz.isAgg280
 z222:=Tryz.sizeOf280
 v222:=Tryz.zeroValue280
 t228:=Tryz.underlying304
 a228:=Tryz.isAgg304
 z228:=Tryz.sizeOf304
 v228:=Tryz.zeroValue304
 t229:=Tryz.underlying305
 a229:=Tryz.isAgg305
 z229:=Tryz.sizeOf305
 v229:=Tryz.zeroValue305 }
open Go.Sort Go.RowKit in
theorem Tryz.slices_Sort_int (blk off cap : Nat) (zs : List Int) (w : World) (hH : Holds (Value.int .i64) w blk off zs.toArray) (hblk : blk < w.heap.size) (hsz : zs.length < 4611686018427387904) :
  Calls Tryz.prog 81 #[.slice (some ⟨blk,off,none⟩) zs.length cap] w fun e w' =>
   e = .returned (.tuple #[]) ∧ ∃ n os,w' = grow (putRow (Value.int .i64) (Sort.ahead w n) blk off (zs.mergeSort fun x y => decide (x ≤ y)).toArray) os:=Any.slices_Sort_int Tryz.lays189 blk off cap zs w hH hblk hsz
def Tryz.laysNm220_ren : Go.Shelf.Ren:=⟨fun | 20 => 82 | n => n,fun | 22 => 23 | 3 => 3 | 4 => 4 | 0 => 0 | n => n,fun | n => n⟩
theorem Tryz.laysNm220 : Go.Proofs.Lays2.n20 Tryz.prog Tryz.laysNm220_ren:={
 mixed:=by kernel_rfl
 f20:=Tryz.func82.trans (congrArg some (by kernel_rfl))
 t0:=Tryz.underlying0
 a0:=Tryz.isAgg0
 z0:=Tryz.sizeOf0
 v0:=Tryz.zeroValue0
 t3:=Tryz.underlying3
 a3:=Tryz.isAgg3
 z3:=Tryz.sizeOf3
 v3:=Tryz.zeroValue3
 t4:=Tryz.underlying4
 a4:=Tryz.isAgg4
 z4:=Tryz.sizeOf4
 v4:=Tryz.zeroValue4
 t22:=Tryz.underlying23
 a22:=Tryz.isAgg23
 z22:=Tryz.sizeOf23
 v22:=Tryz.zeroValue23
 i3:=by kernel_rfl }
open Go.RowKit Go.Lib Go.Sort in
theorem Tryz.slices_Compact_int (blk off cap : Nat) (zs : List Int) (w : World) (hH : Holds (Value.int .i64) w blk off zs.toArray) (hsz : zs.length ≤ 9223372036854775807) (hcap : zs.length ≤ cap) :
  Calls Tryz.prog 82 #[.slice (some ⟨blk,off,none⟩) zs.length cap] w fun e w' => e = .returned (.slice (some ⟨blk,off,none⟩) (Lib.compact zs).length cap) ∧ ∃ q,w' = putRow (Value.int .i64) (Sort.ahead w q) blk off (Lib.compact zs ++ List.replicate (zs.length - (Lib.compact zs).length) 0).toArray:=Any.slices_Compact_int Tryz.laysNm220 blk off cap zs w hH hsz hcap
open Go.RowKit Go.Lib Go.Sort in
theorem Tryz.slices_Compact_int_empty (a : Option Addr) (cap : Nat) (w : World) :
  Calls Tryz.prog 82 #[.slice a 0 cap] w fun e w' => e = .returned (.slice a 0 cap) ∧ w' = w:=Any.slices_Compact_int_empty Tryz.laysNm220 a cap w
open Go.RowKit Go.Sort in
theorem Tryz.slices_Sort_int_none (p : Option Addr) (cap : Nat) (w : World) :
  Calls Tryz.prog 81 #[.slice p 0 cap] w fun e w' => e = .returned (.tuple #[]) ∧ w' = w:=Any.slices_Sort_int_none Tryz.lays189 p cap w
end Go.Proofs
namespace Go.Proofs.YtepnnenohjfkbaaGreatDoor
open Go.RowKit
theorem step_skip {ops : Array Oper} {Q : Exit → Act → World → Prop} {o : Oper} {rest : List Oper} {a : Act} {w w' : World} (hg : o.guard = none) (he : (execOp a.eval o).run Tryz.prog w = .ok .skip w')
  (h : wpList Tryz.prog ops Q rest (a.put o.dst undef) w') : wpList Tryz.prog ops Q (o :: rest) a w :=
 wpList_plain hg fun K hK => by simp only [Oper.wp,he,Oper.upon_skip]; exact hK _ _ h
theorem link_test {id s s' : Nat} {k c : Int} {pos pos' : String} {af : Array Edge} {x y : Code} {Q : Exit → Act → World → Prop} {ts : Array Value} {w : World}
  (h4 : ts[4]?.getD undef = .int .u8 c) (hz : s < ts.size) (hz' : s' < ts.size)
  (hx : c = k → x.wp Tryz.prog Q ⟨(ts.setIfInBounds s' (.bool (c == k))).setIfInBounds s (.bool (c == k)),[]⟩ w)
  (hy : c ≠ k → y.wp Tryz.prog Q ⟨(ts.setIfInBounds s' (.bool (c == k))).setIfInBounds s (.bool (c == k)),[]⟩ w) :
  ((Code.region id #[{dst:=some s',op:=.binOp .eql 5 (.tmp 4) (.const (.int .u8 k)) 5,type:=4,pos:=pos,after:=#[],guard:=none},{dst:=some s,op:=.assign (.tmp s'),type:=4,pos:=pos',after:=af,guard:=none}] false).seq (Code.cond (.tmp s) x y)).wp Tryz.prog Q ⟨ts,[]⟩ w:=by
 refine wp_seq (wp_region_lit ?_)
 refine wpList_plain rfl fun K hK => ?_
 have e1 : (execOp ({ tmps:=ts,defers:=[] } : Act).eval { dst:=some s',op:=Op.binOp BinOp.eql 5 (Operand.tmp 4) (Operand.const (Value.int IntKind.u8 k)) 5,type:=4,pos:=pos,after:=#[],guard:=none }).run Tryz.prog w = .ok (.value (.bool (c == k))) w:=by
  simp [go_sem,h4]
 simp only [Oper.wp,e1,Oper.upon_value]
 refine hK _ _ (wpList_plain rfl fun K' hK' => ?_)
 have e3 : (execOp ({ tmps:=ts.setIfInBounds s' (.bool (c == k)),defers:=[] } : Act).eval { dst:=some s,op:=Op.assign (Operand.tmp s'),type:=4,pos:=pos',after:=af,guard:=none }).run Tryz.prog w = .ok (.value (.bool (c == k))) w:=by
  simp [go_sem,hz']
 show Oper.upon _ _ _ _ _ (Sem.run Tryz.prog (execOp ({ tmps:=ts.setIfInBounds s' (.bool (c == k)),defers:=[] } : Act).eval _) w)
 rw [e3,Oper.upon_value]
 refine hK' _ _ ?_
 have e5 : ({ tmps:=(ts.setIfInBounds s' (.bool (c == k))).setIfInBounds s (.bool (c == k)),defers:=[] } : Act).eval (.tmp s) = .bool (c == k):=by
  show ((ts.setIfInBounds s' (.bool (c == k))).setIfInBounds s (.bool (c == k))).getD s undef = _
  simp [hz]
 refine wpList_nil (wp_cond_split e5 (fun h => hx (by simpa using h)) (fun h => hy (by simpa using h)))
set_option maxRecDepth 10000 in
theorem link_row {id s : Nat} {k tk : Int} {wd pp ps : ByteArray} {pl : Bool} {p1 p2 p3 : String} {a2 a3 : Array Edge} {Q : Exit → Act → World → Prop} {ts : Array Value} {w : World}
  (h2 : ts[2]?.getD undef = .pointer (some ⟨w.heap.size,0,none⟩)) (hz : s < ts.size) (hs : 4 < s)
  (hq : Q .ret ⟨(ts.setIfInBounds s (.agg (rowV k wd tk pp ps pl))).setIfInBounds 3 (.bool true),[]⟩ (w.alloc (.cells (rowV k wd tk pp ps pl) 74))) :
  ((Code.region id #[{dst:=some s,op:=.build 74 #[(0,.const (.int .u8 k)),(1,.const (.string wd)),(2,.const (.int .i8 tk)),(3,.const (.string pp)),(4,.const (.string ps)),(5,.const (.bool pl))],type:=74,pos:=p1,after:=#[],guard:=none},
   {dst:=none,op:=.store 74 (.tmp 2) (.tmp s),type:=0,pos:=p2,after:=a2,guard:=none},{dst:=some 3,op:=.assign (.const (.bool true)),type:=4,pos:=p3,after:=a3,guard:=none}] false).seq .ret).wp Tryz.prog Q ⟨ts,[]⟩ (w.alloc (.cells (rowV 0 ⟨#[]⟩ 0 ⟨#[]⟩ ⟨#[]⟩ false) 74)):=by
 refine wp_seq (wp_region_lit ?_)
 refine wpList_plain rfl fun K hK => ?_
 have e1 : (execOp ({ tmps:=ts,defers:=[] } : Act).eval { dst:=some s,op:=.build 74 #[(0,.const (.int .u8 k)),(1,.const (.string wd)),(2,.const (.int .i8 tk)),(3,.const (.string pp)),(4,.const (.string ps)),(5,.const (.bool pl))],type:=74,pos:=p1,after:=#[],guard:=none }).run Tryz.prog (w.alloc (.cells (rowV 0 ⟨#[]⟩ 0 ⟨#[]⟩ ⟨#[]⟩ false) 74)) = .ok (.value (.agg (rowV k wd tk pp ps pl))) (w.alloc (.cells (rowV 0 ⟨#[]⟩ 0 ⟨#[]⟩ ⟨#[]⟩ false) 74)):=by
  simp [go_sem,rowV]
 simp only [Oper.wp,e1,Oper.upon_value]
 refine hK _ _ (wpList_plain rfl fun K' hK' => ?_)
 have e2 : (execOp ({ tmps:=ts.setIfInBounds s (.agg (rowV k wd tk pp ps pl)),defers:=[] } : Act).eval { dst:=none,op:=.store 74 (.tmp 2) (.tmp s),type:=0,pos:=p2,after:=a2,guard:=none }).run Tryz.prog (w.alloc (.cells (rowV 0 ⟨#[]⟩ 0 ⟨#[]⟩ ⟨#[]⟩ false) 74)) = .ok .skip (w.alloc (.cells (rowV k wd tk pp ps pl) 74)):=by
  have g2 : (ts.setIfInBounds s (.agg (rowV k wd tk pp ps pl)))[2]?.getD undef = .pointer (some ⟨w.heap.size,0,none⟩):=by
   rw [Array.getElem?_setIfInBounds_ne (by omega)]; exact h2
  simp only [rowV] at g2 ⊢
  simp [go_sem,g2,hz]
 show Oper.upon _ _ _ _ _ (Sem.run Tryz.prog (execOp ({ tmps:=ts.setIfInBounds s (.agg (rowV k wd tk pp ps pl)),defers:=[] } : Act).eval _) _)
 rw [e2,Oper.upon_skip]
 refine hK' _ _ (wpList_plain rfl fun K2 hK2 => ?_)
 have e3 : (execOp ({ tmps:=ts.setIfInBounds s (.agg (rowV k wd tk pp ps pl)),defers:=[] } : Act).eval { dst:=some 3,op:=.assign (.const (.bool true)),type:=4,pos:=p3,after:=a3,guard:=none }).run Tryz.prog (w.alloc (.cells (rowV k wd tk pp ps pl) 74)) = .ok (.value (.bool true)) (w.alloc (.cells (rowV k wd tk pp ps pl) 74)):=by
  simp [go_sem]
 show Oper.upon _ _ _ _ _ (Sem.run Tryz.prog (execOp ({ tmps:=ts.setIfInBounds s (.agg (rowV k wd tk pp ps pl)),defers:=[] } : Act).eval _) _)
 rw [e3,Oper.upon_value]
 exact hK2 _ _ (wpList_nil (wp_ret hq))
def refLook : List RefRow → Int → Array Value × Bool
 | [],_ => (rowV 0 ⟨#[]⟩ 0 ⟨#[]⟩ ⟨#[]⟩ false,false)
 | x :: r,c => if c = x.1 then (rowV x.1 x.2.1 x.2.2.1 x.2.2.2.1 x.2.2.2.2.1 x.2.2.2.2.2,true) else refLook r c
def refTab : List RefRow:=[
 ((0,⟨#[116,114,97,112]⟩,0,⟨#[]⟩,⟨#[]⟩,false) : RefRow),
 ((1,⟨#[110,111,112]⟩,0,⟨#[]⟩,⟨#[]⟩,true) : RefRow),
 ((2,⟨#[98,108,111,99,107]⟩,1,⟨#[]⟩,⟨#[]⟩,false) : RefRow),
 ((3,⟨#[108,111,111,112]⟩,1,⟨#[]⟩,⟨#[]⟩,false) : RefRow),
 ((4,⟨#[105,102]⟩,1,⟨#[]⟩,⟨#[]⟩,false) : RefRow),
 ((5,⟨#[101,108,115,101]⟩,0,⟨#[]⟩,⟨#[]⟩,false) : RefRow),
 ((6,⟨#[101,110,100]⟩,0,⟨#[]⟩,⟨#[]⟩,false) : RefRow),
 ((7,⟨#[98,114]⟩,2,⟨#[]⟩,⟨#[]⟩,false) : RefRow),
 ((8,⟨#[98,114,105,102]⟩,2,⟨#[]⟩,⟨#[]⟩,false) : RefRow),
 ((9,⟨#[98,114,116,97,98,108,101]⟩,3,⟨#[]⟩,⟨#[]⟩,false) : RefRow),
 ((10,⟨#[114,101,116,117,114,110]⟩,0,⟨#[]⟩,⟨#[]⟩,false) : RefRow),
 ((11,⟨#[99,97,108,108]⟩,4,⟨#[]⟩,⟨#[]⟩,false) : RefRow),
 ((12,⟨#[104,111,115,116]⟩,5,⟨#[]⟩,⟨#[]⟩,false) : RefRow),
 ((16,⟨#[100,114,111,112]⟩,0,⟨#[]⟩,⟨#[]⟩,false) : RefRow),
 ((17,⟨#[115,101,108,101,99,116]⟩,0,⟨#[]⟩,⟨#[]⟩,false) : RefRow),
 ((18,⟨#[103,101,116]⟩,6,⟨#[]⟩,⟨#[]⟩,false) : RefRow),
 ((19,⟨#[115,101,116]⟩,6,⟨#[]⟩,⟨#[]⟩,false) : RefRow),
 ((20,⟨#[116,101,101]⟩,6,⟨#[]⟩,⟨#[]⟩,false) : RefRow),
 ((21,⟨#[103,103,101,116]⟩,7,⟨#[]⟩,⟨#[]⟩,false) : RefRow),
 ((22,⟨#[103,115,101,116]⟩,7,⟨#[]⟩,⟨#[]⟩,false) : RefRow),
 ((24,⟨#[119,46,99,111,110,115,116]⟩,8,⟨#[]⟩,⟨#[119]⟩,true) : RefRow),
 ((25,⟨#[108,46,99,111,110,115,116]⟩,8,⟨#[]⟩,⟨#[108]⟩,true) : RefRow),
 ((32,⟨#[119,46,108,111,97,100,56,117]⟩,9,⟨#[119]⟩,⟨#[119]⟩,true) : RefRow),
 ((33,⟨#[119,46,108,111,97,100,56,115]⟩,9,⟨#[119]⟩,⟨#[119]⟩,true) : RefRow),
 ((34,⟨#[119,46,108,111,97,100,49,54,117]⟩,9,⟨#[119]⟩,⟨#[119]⟩,true) : RefRow),
 ((35,⟨#[119,46,108,111,97,100,49,54,115]⟩,9,⟨#[119]⟩,⟨#[119]⟩,true) : RefRow),
 ((36,⟨#[119,46,108,111,97,100]⟩,9,⟨#[119]⟩,⟨#[119]⟩,true) : RefRow),
 ((37,⟨#[108,46,108,111,97,100]⟩,9,⟨#[119]⟩,⟨#[108]⟩,true) : RefRow),
 ((38,⟨#[119,46,115,116,111,114,101,56]⟩,9,⟨#[119,119]⟩,⟨#[]⟩,true) : RefRow),
 ((39,⟨#[119,46,115,116,111,114,101,49,54]⟩,9,⟨#[119,119]⟩,⟨#[]⟩,true) : RefRow),
 ((40,⟨#[119,46,115,116,111,114,101]⟩,9,⟨#[119,119]⟩,⟨#[]⟩,true) : RefRow),
 ((41,⟨#[108,46,115,116,111,114,101]⟩,9,⟨#[119,108]⟩,⟨#[]⟩,true) : RefRow),
 ((42,⟨#[115,105,122,101]⟩,0,⟨#[]⟩,⟨#[119]⟩,true) : RefRow),
 ((43,⟨#[103,114,111,119]⟩,0,⟨#[119]⟩,⟨#[119]⟩,true) : RefRow),
 ((48,⟨#[119,46,101,113,122]⟩,0,⟨#[119]⟩,⟨#[119]⟩,true) : RefRow),
 ((49,⟨#[119,46,101,113]⟩,0,⟨#[119,119]⟩,⟨#[119]⟩,true) : RefRow),
 ((50,⟨#[119,46,110,101]⟩,0,⟨#[119,119]⟩,⟨#[119]⟩,true) : RefRow),
 ((51,⟨#[119,46,108,116,115]⟩,0,⟨#[119,119]⟩,⟨#[119]⟩,true) : RefRow),
 ((52,⟨#[119,46,108,116,117]⟩,0,⟨#[119,119]⟩,⟨#[119]⟩,true) : RefRow),
 ((53,⟨#[119,46,108,101,115]⟩,0,⟨#[119,119]⟩,⟨#[119]⟩,true) : RefRow),
 ((54,⟨#[119,46,108,101,117]⟩,0,⟨#[119,119]⟩,⟨#[119]⟩,true) : RefRow),
 ((55,⟨#[119,46,99,108,122]⟩,0,⟨#[119]⟩,⟨#[119]⟩,true) : RefRow),
 ((56,⟨#[119,46,99,116,122]⟩,0,⟨#[119]⟩,⟨#[119]⟩,true) : RefRow),
 ((57,⟨#[119,46,112,111,112]⟩,0,⟨#[119]⟩,⟨#[119]⟩,true) : RefRow),
 ((58,⟨#[119,46,97,100,100]⟩,0,⟨#[119,119]⟩,⟨#[119]⟩,true) : RefRow),
 ((59,⟨#[119,46,115,117,98]⟩,0,⟨#[119,119]⟩,⟨#[119]⟩,true) : RefRow),
 ((60,⟨#[119,46,109,117,108]⟩,0,⟨#[119,119]⟩,⟨#[119]⟩,true) : RefRow),
 ((61,⟨#[119,46,100,105,118,115]⟩,0,⟨#[119,119]⟩,⟨#[119]⟩,true) : RefRow),
 ((62,⟨#[119,46,100,105,118,117]⟩,0,⟨#[119,119]⟩,⟨#[119]⟩,true) : RefRow),
 ((63,⟨#[119,46,114,101,109,115]⟩,0,⟨#[119,119]⟩,⟨#[119]⟩,true) : RefRow),
 ((64,⟨#[119,46,114,101,109,117]⟩,0,⟨#[119,119]⟩,⟨#[119]⟩,true) : RefRow),
 ((65,⟨#[119,46,97,110,100]⟩,0,⟨#[119,119]⟩,⟨#[119]⟩,true) : RefRow),
 ((66,⟨#[119,46,111,114]⟩,0,⟨#[119,119]⟩,⟨#[119]⟩,true) : RefRow),
 ((67,⟨#[119,46,120,111,114]⟩,0,⟨#[119,119]⟩,⟨#[119]⟩,true) : RefRow),
 ((68,⟨#[119,46,115,104,108]⟩,0,⟨#[119,119]⟩,⟨#[119]⟩,true) : RefRow),
 ((69,⟨#[119,46,115,104,114,115]⟩,0,⟨#[119,119]⟩,⟨#[119]⟩,true) : RefRow),
 ((70,⟨#[119,46,115,104,114,117]⟩,0,⟨#[119,119]⟩,⟨#[119]⟩,true) : RefRow),
 ((71,⟨#[119,46,114,111,116,108]⟩,0,⟨#[119,119]⟩,⟨#[119]⟩,true) : RefRow),
 ((72,⟨#[119,46,114,111,116,114]⟩,0,⟨#[119,119]⟩,⟨#[119]⟩,true) : RefRow),
 ((80,⟨#[108,46,101,113,122]⟩,0,⟨#[108]⟩,⟨#[119]⟩,true) : RefRow),
 ((81,⟨#[108,46,101,113]⟩,0,⟨#[108,108]⟩,⟨#[119]⟩,true) : RefRow),
 ((82,⟨#[108,46,110,101]⟩,0,⟨#[108,108]⟩,⟨#[119]⟩,true) : RefRow),
 ((83,⟨#[108,46,108,116,115]⟩,0,⟨#[108,108]⟩,⟨#[119]⟩,true) : RefRow),
 ((84,⟨#[108,46,108,116,117]⟩,0,⟨#[108,108]⟩,⟨#[119]⟩,true) : RefRow),
 ((85,⟨#[108,46,108,101,115]⟩,0,⟨#[108,108]⟩,⟨#[119]⟩,true) : RefRow),
 ((86,⟨#[108,46,108,101,117]⟩,0,⟨#[108,108]⟩,⟨#[119]⟩,true) : RefRow),
 ((87,⟨#[108,46,99,108,122]⟩,0,⟨#[108]⟩,⟨#[108]⟩,true) : RefRow),
 ((88,⟨#[108,46,99,116,122]⟩,0,⟨#[108]⟩,⟨#[108]⟩,true) : RefRow),
 ((89,⟨#[108,46,112,111,112]⟩,0,⟨#[108]⟩,⟨#[108]⟩,true) : RefRow),
 ((90,⟨#[108,46,97,100,100]⟩,0,⟨#[108,108]⟩,⟨#[108]⟩,true) : RefRow),
 ((91,⟨#[108,46,115,117,98]⟩,0,⟨#[108,108]⟩,⟨#[108]⟩,true) : RefRow),
 ((92,⟨#[108,46,109,117,108]⟩,0,⟨#[108,108]⟩,⟨#[108]⟩,true) : RefRow),
 ((93,⟨#[108,46,100,105,118,115]⟩,0,⟨#[108,108]⟩,⟨#[108]⟩,true) : RefRow),
 ((94,⟨#[108,46,100,105,118,117]⟩,0,⟨#[108,108]⟩,⟨#[108]⟩,true) : RefRow),
 ((95,⟨#[108,46,114,101,109,115]⟩,0,⟨#[108,108]⟩,⟨#[108]⟩,true) : RefRow),
 ((96,⟨#[108,46,114,101,109,117]⟩,0,⟨#[108,108]⟩,⟨#[108]⟩,true) : RefRow),
 ((97,⟨#[108,46,97,110,100]⟩,0,⟨#[108,108]⟩,⟨#[108]⟩,true) : RefRow),
 ((98,⟨#[108,46,111,114]⟩,0,⟨#[108,108]⟩,⟨#[108]⟩,true) : RefRow),
 ((99,⟨#[108,46,120,111,114]⟩,0,⟨#[108,108]⟩,⟨#[108]⟩,true) : RefRow),
 ((100,⟨#[108,46,115,104,108]⟩,0,⟨#[108,108]⟩,⟨#[108]⟩,true) : RefRow),
 ((101,⟨#[108,46,115,104,114,115]⟩,0,⟨#[108,108]⟩,⟨#[108]⟩,true) : RefRow),
 ((102,⟨#[108,46,115,104,114,117]⟩,0,⟨#[108,108]⟩,⟨#[108]⟩,true) : RefRow),
 ((103,⟨#[108,46,114,111,116,108]⟩,0,⟨#[108,108]⟩,⟨#[108]⟩,true) : RefRow),
 ((104,⟨#[108,46,114,111,116,114]⟩,0,⟨#[108,108]⟩,⟨#[108]⟩,true) : RefRow),
 ((112,⟨#[119,46,119,114,97,112]⟩,0,⟨#[108]⟩,⟨#[119]⟩,true) : RefRow),
 ((113,⟨#[108,46,101,120,116,101,110,100,115]⟩,0,⟨#[119]⟩,⟨#[108]⟩,true) : RefRow),
 ((114,⟨#[108,46,101,120,116,101,110,100,117]⟩,0,⟨#[119]⟩,⟨#[108]⟩,true) : RefRow),
 ((115,⟨#[119,46,101,120,116,56]⟩,0,⟨#[119]⟩,⟨#[119]⟩,true) : RefRow),
 ((116,⟨#[119,46,101,120,116,49,54]⟩,0,⟨#[119]⟩,⟨#[119]⟩,true) : RefRow),
 ((117,⟨#[108,46,101,120,116,51,50]⟩,0,⟨#[108]⟩,⟨#[108]⟩,true) : RefRow)]
def Fr (c : Int) (b : Nat) (ts : Array Value) : Prop:=ts.size = 276 ∧ ts[2]?.getD undef = .pointer (some ⟨b,0,none⟩) ∧ ts[4]?.getD undef = .int .u8 c
theorem Fr.put {c : Int} {b : Nat} {ts : Array Value} (h : Fr c b ts) {s : Nat} (hs : 4 < s) (v : Value) : Fr c b (ts.setIfInBounds s v):=by
 refine ⟨by simpa using h.1,?_,?_⟩
 ·rw [Array.getElem?_setIfInBounds_ne (by omega)]; exact h.2.1
 ·rw [Array.getElem?_setIfInBounds_ne (by omega)]; exact h.2.2
def refPost (w : World) (V : Array Value × Bool) : Ending → World → Prop:=fun e w' => e = .returned (.tuple #[.agg V.1,.bool V.2]) ∧ w' = w.alloc (.cells V.1 74)
theorem ref_ends {w : World} {V : Array Value × Bool} {k tk : Int} {wd pp ps : ByteArray} {pl ok : Bool} {ts : Array Value} (hV : (rowV k wd tk pp ps pl,ok) = V)
  (h2 : ts[2]?.getD undef = .pointer (some ⟨w.heap.size,0,none⟩)) (h3 : ts[3]?.getD undef = .bool ok) : bodyPost Tryz.prog Tryz.f32 (refPost w V) .ret ⟨ts,[]⟩ (w.alloc (.cells (rowV k wd tk pp ps pl) 74)):=by
 subst hV
 refine bodyPost_ret (v:=.tuple #[.agg (rowV k wd tk pp ps pl),.bool ok]) ?_ rfl ⟨rfl,rfl⟩
 rw [results_cell_tmp rfl]
 simp only [rowV]
 simp [go_sem,h2,h3]
theorem link {id id' s s' s2 : Nat} {c : Int} {x : RefRow} {r : List RefRow} {V : Array Value × Bool} {pos pos' p1 p2 p3 : String} {af a2 a3 : Array Edge} {y : Code} {Q : Exit → Act → World → Prop} {ts : Array Value} {w : World}
  (hQ : ∀ a w',bodyPost Tryz.prog Tryz.f32 (refPost w V) .ret a w' → Q .ret a w') (ht : Fr c w.heap.size ts) (hV : refLook (x :: r) c = V) (l1 : 4 < s ∧ s < 276) (l2 : 4 < s' ∧ s' < 276) (l3 : 4 < s2 ∧ s2 < 276)
  (next : refLook r c = V → ∀ ts',Fr c w.heap.size ts' → y.wp Tryz.prog Q ⟨ts',[]⟩ (w.alloc (.cells (rowV 0 ⟨#[]⟩ 0 ⟨#[]⟩ ⟨#[]⟩ false) 74))) :
  ((Code.region id #[{dst:=some s',op:=.binOp .eql 5 (.tmp 4) (.const (.int .u8 x.1)) 5,type:=4,pos:=pos,after:=#[],guard:=none},{dst:=some s,op:=.assign (.tmp s'),type:=4,pos:=pos',after:=af,guard:=none}] false).seq (Code.cond (.tmp s)
   ((Code.region id' #[{dst:=some s2,op:=.build 74 #[(0,.const (.int .u8 x.1)),(1,.const (.string x.2.1)),(2,.const (.int .i8 x.2.2.1)),(3,.const (.string x.2.2.2.1)),(4,.const (.string x.2.2.2.2.1)),(5,.const (.bool x.2.2.2.2.2))],type:=74,pos:=p1,after:=#[],guard:=none},
   {dst:=none,op:=.store 74 (.tmp 2) (.tmp s2),type:=0,pos:=p2,after:=a2,guard:=none},{dst:=some 3,op:=.assign (.const (.bool true)),type:=4,pos:=p3,after:=a3,guard:=none}] false).seq .ret) y)).wp Tryz.prog Q ⟨ts,[]⟩ (w.alloc (.cells (rowV 0 ⟨#[]⟩ 0 ⟨#[]⟩ ⟨#[]⟩ false) 74)):=by
 have hts:=(ht.put l2.1 (.bool (c == x.1))).put l1.1 (.bool (c == x.1))
 refine link_test ht.2.2 (by rw [ht.1]; exact l1.2) (by rw [ht.1]; exact l2.2) (fun h => ?_) (fun h => next (by rw [refLook,if_neg h] at hV; exact hV) _ hts)
 refine link_row hts.2.1 (by rw [hts.1]; exact l3.2) l3.1 (hQ _ _ (ref_ends (by rw [refLook,if_pos h] at hV; exact hV) ?_ ?_))
 ·rw [Array.getElem?_setIfInBounds_ne (by omega)]
  exact (hts.put l3.1 _).2.1
 ·rw [Array.getElem?_setIfInBounds_self_of_lt (by simp; have:=hts.1; simp at this; omega)]
  rfl
theorem ref7 (c : Int) (w : World) : Calls Tryz.prog 32 #[.int .u8 c] w (refPost w (refLook refTab c)):=by
 obtain ⟨V,hV⟩ : ∃ V,refLook refTab c = V:=⟨_,rfl⟩
 rw [hV]
 refine calls_of_wp Tryz.func32 rfl ?_
 obtain ⟨ts,hts⟩ : ∃ ts : Array Value,(#[.int .u8 c] : Array Value) ++ Array.replicate (Tryz.f32.ntmps - (#[.int .u8 c] : Array Value).size) undef = ts:=⟨_,rfl⟩
 have z0 : ts.size = 276:=by rw [← hts]; simp [Tryz.ntmps32]
 have t0 : ts[0]?.getD undef = .int .u8 c:=by rw [← hts]; simp
 rw [hts]
 clear hts
 refine wp_seq (wp_region_lit ?_)
 refine step_val rfl (v:=.pointer (some ⟨w.heap.size,0,none⟩)) (w':=w.alloc (.cells (rowV 0 ⟨#[]⟩ 0 ⟨#[]⟩ ⟨#[]⟩ false) 74)) (by simp only [rowV]; simp [go_sem]) ?_
 refine step_val rfl (v:=.bool false) (w':=w.alloc (.cells (rowV 0 ⟨#[]⟩ 0 ⟨#[]⟩ ⟨#[]⟩ false) 74)) (by simp [go_sem]) ?_
 refine wpList_nil (wp_seq (wp_seq (wp_region_lit ?_)))
 refine step_val rfl (v:=.int .u8 c) (w':=w.alloc (.cells (rowV 0 ⟨#[]⟩ 0 ⟨#[]⟩ ⟨#[]⟩ false) 74)) (by simp [go_sem,Act.put,t0]) ?_
 refine wpList_nil (wp_block ?_)
 have hts : Fr c w.heap.size (((ts.setIfInBounds 2 (.pointer (some ⟨w.heap.size,0,none⟩))).setIfInBounds 3 (.bool false)).setIfInBounds 4 (.int .u8 c)):=by
  refine ⟨by simpa using z0,?_,?_⟩
  ·rw [Array.getElem?_setIfInBounds_ne (by omega),Array.getElem?_setIfInBounds_ne (by omega),Array.getElem?_setIfInBounds_self_of_lt (by omega)]; rfl
  ·rw [Array.getElem?_setIfInBounds_self_of_lt (by simp; omega)]; rfl
 show Code.wp _ _ _ ⟨((ts.setIfInBounds 2 (.pointer (some ⟨w.heap.size,0,none⟩))).setIfInBounds 3 (.bool false)).setIfInBounds 4 (.int .u8 c),[]⟩ _
 generalize ((ts.setIfInBounds 2 (.pointer (some ⟨w.heap.size,0,none⟩))).setIfInBounds 3 (.bool false)).setIfInBounds 4 (.int .u8 c) = ts1 at hts ⊢
 clear z0 t0
 clear ts
 unfold refTab at hV
 iterate 90
  refine link ?_ hts hV ?_ ?_ ?_ ?_
  ·exact fun _ _ h => h
  ·decide
  ·decide
  ·decide
  clear hV hts
  intro hV ts hts
 refine wp_skip ?_
 show Code.wp _ _ _ _ _
 refine wp_seq (wp_region_lit ?_)
 have h275 : (275 : Nat) < ts.size:=by rw [hts.1]; decide
 refine step_val rfl (v:=.agg (rowV 0 ⟨#[]⟩ 0 ⟨#[]⟩ ⟨#[]⟩ false)) (w':=w.alloc (.cells (rowV 0 ⟨#[]⟩ 0 ⟨#[]⟩ ⟨#[]⟩ false) 74)) (by simp only [rowV]; simp [go_sem]) ?_
 have g2 : (ts.setIfInBounds 275 (.agg (rowV 0 ⟨#[]⟩ 0 ⟨#[]⟩ ⟨#[]⟩ false)))[2]?.getD undef = .pointer (some ⟨w.heap.size,0,none⟩):=(hts.put (by decide) _).2.1
 refine step_skip rfl (w':=w.alloc (.cells (rowV 0 ⟨#[]⟩ 0 ⟨#[]⟩ ⟨#[]⟩ false) 74)) (by simp only [rowV]; simp [go_sem,Act.put,h275,hts.2.1]) ?_
 refine step_val rfl (v:=.bool false) (w':=w.alloc (.cells (rowV 0 ⟨#[]⟩ 0 ⟨#[]⟩ ⟨#[]⟩ false) 74)) (by simp [go_sem]) ?_
 refine wpList_nil (wp_ret (ref_ends hV ?_ ?_))
 ·show ((ts.setIfInBounds 275 _).setIfInBounds 3 _)[2]?.getD undef = _
  rw [Array.getElem?_setIfInBounds_ne (by omega)]
  exact g2
 ·show ((ts.setIfInBounds 275 _).setIfInBounds 3 _)[3]?.getD undef = _
  rw [Array.getElem?_setIfInBounds_self_of_lt (by simp; omega)]
  rfl
abbrev nilV : Value:=.slice none 0 0
theorem MapO.keep {O : Nat → Int} {n base base' m : Nat} {w w' : World} {a1 a2 a3 : Option Addr} {S : Nat → Prop} (h : MapO O n base w a1 a2 a3 m) (hk : Kept S w w') (hs : ∀ k,base ≤ k → ¬ S k) (hb : base' ≤ base) : MapO O n base' w' a1 a2 a3 m:=by
 rcases h with h | ⟨g1,g2,g3,A,B,C,x1,x2,x3,x4,x5,x6,x7,x8,x9,y1,y2,y3⟩
 ·exact .inl h
 ·exact .inr ⟨g1,g2,g3,A,B,C,by omega,by omega,by omega,x4,x5,x6,x7,x8,x9,y1.kept hk (hs A x1),y2.kept hk (hs B x2),y3.kept hk (hs C x3)⟩
end Go.Proofs.YtepnnenohjfkbaaGreatDoor

/-
  Texts NAb NAc NWa NRa NRb.
-/
import Derived.Deep.WholeRow
import Derived.Laws.BitsAllLaws
import Derived.Laws.CopyRow
import Derived.WalkKit
import Derived.WalkLawsBesides
import Derived.WalkSpells
import Derived.Test.YtkdldbfbldkkcaaGreatDoorM00
import Derived.Test.YtkdldbfbldkkcaaGreatDoorM01
import Derived.Test.YtkdldbfbldkkcaaGreatDoorM02
import Derived.Test.YtkdldbfbldkkcaaGreatDoorM03
import Derived.Test.YtkdldbfbldkkcaaGreatDoorM04
import Derived.Test.YtkdldbfbldkkcaaGreatDoorM06
import Derived.Test.YtkdldbfbldkkcaaGreatDoorM07
import Derived.Test.YtkdldbfbldkkcaaGreatDoorM08
set_option linter.unusedVariables false
set_option maxRecDepth 100000
set_option maxHeartbeats 16000000
namespace Go.Proofs.YtkdldbfbldkkcaaGreatDoor
open Go.RowKit
theorem Lt (b off n cap p : Nat) (zs : List Int) (w : World) (hz : zs.length = n) (hn : n ≤ 1099511627776) (hp : p < n) (hcap : n ≤ cap)
  (hc : ∀ j,j < n → w.cell? ⟨b,off + j,none⟩ = some (.int .u8 (zs.getD j 0)))
  (hr : ∀ j : Nat,0 ≤ zs[j]?.getD 0 ∧ zs[j]?.getD 0 ≤ 255) :
  Calls Tryz.prog 72 #[.slice (some ⟨b,off,none⟩) n cap,.int .i64 p] w fun e w' => e = .returned (yJ .u64 (ru (zs.drop p) 0 p 0)) ∧ w' = w:=by
 have hp' : (p : Int) ≤ (n : Int):=ae
 go_enter Tryz.func72,Tryz.ntmps72
 go_wp2
 go_loop [7,18] (fun v i => ∃ (k : Nat) (V : Int),k ≤ n - p ∧ k ≤ 9 ∧ i = .int .i64 k ∧ v = .int .u64 V ∧ 0 ≤ V ∧ V < 128 ^ k ∧ ru (zs.drop p) 0 p 0 = ru (zs.drop (p + k)) k (p + k : Nat) V) (fun _ i => n - (intOf i).toNat)
 case atStart => exact ⟨0,0,ae,ae,rfl,rfl,ae,ax,rfl⟩
 case round =>
  obtain ⟨k,V,hk,hk9,rfl,rfl,hV0,hV1,hd⟩:=hrel
  by_cases hlt : k < n - p
  ·have hdr:=CL zs (p + k) ae
   have hcell : w.cell? ⟨b,off + p + k,none⟩ = some (.int .u8 (zs[p + k]?.getD 0)):=by have:=hc (p + k) ae; rw [Nat.add_assoc]; exact this
   have hrk:=hr (p + k);clear hc hr;generalize hgc : zs[p + k]?.getD 0 = c at *;clear hgc;obtain ⟨hc0,hc255⟩:=hrk
   have hd' : ru (zs.drop p) 0 p 0 = ru (c :: zs.drop (p + k + 1)) k (p + k : Nat) V:=by rw [hd,hdr]
   have HD : Hid (ru (zs.drop p) 0 p 0 = ru (c :: zs.drop (p + k + 1)) k (p + k : Nat) V):=hd';have hmask:=J4 hc0 hc255;have HV : Hid (V < 128 ^ k):=hV1;clear hd hd' hdr hV1
   by_cases h9 : k = 9
   ·subst h9
    by_cases h1 : 1 < c
    ·go_wp2
     go_ret3
     exact ⟨mr _ _ _ _ _ (by rw [HD.out]; simp [ru,h1]),rfl⟩
    ·by_cases h0 : c = 0
     ·subst h0;have htop:=yP (c:=0) ax ax;exact tq
     ·obtain rfl : c = 1:=ae;have htop:=yP (c:=1) ax ax;have hor:=LU V hV0 HV.out;exact tq
   ·have hk8 : k ≤ 8:=ae;have h9' : ¬ (k : Int) = 9:=ae
    by_cases h128 : c < 128
    ·have htop:=yP hc0 h128;have hmm : c % 128 = c:=ae;have hor:=wU V c k hk8 hV0 HV.out hc0 h128
     by_cases h0 : c = 0
     ·by_cases hk0 : 0 < k
      ·subst h0;go_wp2
       go_ret3
       exact ⟨mr _ _ _ _ _ (by rw [HD.out]; simp [ru,h9,hk0]),rfl⟩
      ·obtain rfl : k = 0:=ae;subst h0
       obtain rfl : V = 0:=by have:=HV.out; simp at this; omega
       have hor0 : bits .or .u64 0 0 = 0:=ax;clear hor
       simp only [Nat.add_zero] at hcell
       exact tq
     ·have h0' : (c == 0) = false:=by simp [h0]
      go_wp2
      go_ret3
      exact ⟨mr _ _ _ _ _ (by rw [HD.out]; simp [ru,h9,h0,h128]),rfl⟩
    ·have htop:=Kc (by omega : 128 ≤ c) hc255
     have hmm : c % 128 = c - 128:=ae;have hor:=wU V (c - 128) k hk8 hV0 HV.out ae ae;have hs : (128 : Int) ^ (k + 1) = 128 ^ k * 128:=Int.pow_succ _ _;have hm0 : 0 ≤ (c - 128) * 128 ^ k:=Int.mul_nonneg ae (Int.le_of_lt (pow_pos k));have hm1 : (c - 128) * 128 ^ k ≤ 127 * 128 ^ k:=Int.mul_le_mul_of_nonneg_right ae (Int.le_of_lt (pow_pos k));have HS : Hid ((128 : Int) ^ (k + 1) = 128 ^ k * 128):=hs;clear hs;have hlo : 0 ≤ V + (c - 128) * 128 ^ k:=ae
     have hhi : Hid (V + (c - 128) * 128 ^ k < 128 ^ (k + 1)):=by have h1:=HV.out; show V + (c - 128) * 128 ^ k < 128 ^ (k + 1); rw [HS.out]; omega
     have HN : Hid (ru (zs.drop p) 0 p 0 = ru (zs.drop (p + (k + 1))) (k + 1) (p + (k + 1) : Nat) (V + (c - 128) * 128 ^ k)):=by
      have h1:=HD.out;have hge : ¬ c = 0:=ae
      simp only [ru,h9,hge,h128,false_and,if_false] at h1
      show ru (zs.drop p) 0 p 0 = _
      rw [h1,Nat.add_assoc]; congr 1
     clear hm0 hm1;go_wp2;refine ⟨⟨_,_,_,_,_,_,_,⟨k + 1,ae,ae,rfl,_,rfl,hlo,hhi.out,HN.out⟩,rfl,rfl,rfl,rfl,rfl,rfl,bU⟩,?_⟩
     simp [intOf]; omega
  ·have hkn : k = n - p:=ae;have hnil : zs.drop (p + k) = []:=List.drop_eq_nil_of_le ae
   have HD : Hid (ru (zs.drop p) 0 p 0 = (0,0,10)):=by show ru (zs.drop p) 0 p 0 = _; rw [hd,hnil]; rfl
   clear hd hnil;go_wp2
   go_ret3
   exact ⟨mr _ _ _ _ _ HD.out,rfl⟩
theorem Jv (a : Option Addr) (n cap : Nat) (w : World) (hn : n ≤ 1099511627776) (hcap : n ≤ cap) :
  Calls Tryz.prog 72 #[.slice a n cap,.int .i64 n] w fun e w' => e = .returned (yJ .u64 (0,0,10)) ∧ w' = w:=by
 go_enter Tryz.func72,Tryz.ntmps72
 go_wp2
 all_goals
  refine wp_loop_rounds 1 ?_;rw [rounds_succ];go_wp2
  go_ret3
  exact ⟨rfl,rfl⟩
theorem JC (a : Option Addr) (n cap : Nat) (p : Int) (w : World) (hn : n ≤ 1099511627776) (hp : p < 0 ∨ (n : Int) < p) :
  Calls Tryz.prog 72 #[.slice a n cap,.int .i64 p] w fun e w' => e = .returned (yJ .u64 (0,0,1)) ∧ w' = w:=by
 rcases hp with hp | hp
 ·have hp' : ¬ 0 ≤ p:=ae
  go_enter Tryz.func72,Tryz.ntmps72
  go_wp2
  go_ret3
  exact ⟨rfl,rfl⟩
 ·have h0 : 0 ≤ p:=ae;have hp' : ¬ p ≤ (n : Int):=ae
  go_enter Tryz.func72,Tryz.ntmps72
  go_wp2
  go_ret3
  exact ⟨rfl,rfl⟩
theorem ru7 (a : Option Addr) (n cap : Nat) (zs : List Int) (p : Int) (w : World) (h : Seg w a n cap zs) :
  Calls Tryz.prog 72 #[.slice a n cap,.int .i64 p] w fun e w' => e = .returned (yJ .u64 (cI zs p)) ∧ w' = w:=by
 obtain ⟨hz,hcap,hn,hr,ha⟩:=h;unfold cI
 by_cases hp : p < 0 ∨ (zs.length : Int) < p
 ·rw [if_pos hp];exact JC a n cap p w hn ae
 rw [if_neg hp]
 obtain ⟨p,rfl⟩:=Int.eq_ofNat_of_zero_le (by omega : 0 ≤ p)
 rw [Int.toNat_natCast]
 by_cases hpn : p < n
 ·rcases ha with ha | ⟨b,off,rfl,hc⟩
  ·omega
  ·exact Lt b off n cap p zs w hz hn hpn hcap hc (py zs hr)
 ·obtain rfl : p = n:=ae;rw [List.drop_eq_nil_of_le ae];exact Jv a p cap w hn hcap
def Zp : List Int:=List.replicate 4096 0
theorem qp : Zp.length = 4096:=List.length_replicate
abbrev byV (l : List Int) : Array Value:=(l.map (Value.int .u8)).toArray
theorem Tryz.inf83 : (Tryz.prog.info? 139).map (fun i => (i.zero,i.size)) = some (some (.agg (byV Zp)),4096):=ak
theorem Tryz.zer83 (w : World) : (zeroValue 139).run Tryz.prog w = .ok (.agg (byV Zp)) w:=(zero_of_info Tryz.inf83).1 w
theorem Tryz.siz83 : (Tryz.prog.info? 139).map (·.size) = some 4096:=(zero_of_info Tryz.inf83).2
theorem cR {ops : Array Oper} {rest : List Oper} {o : Oper} {a : Act} {w w' : World} {Q : Exit → Act → World → Prop} (hgd : o.guard = none) (v : Value)
  (h1 : (execOp a.eval o).run Tryz.prog w = .ok (.value v) w') (h : wpList Tryz.prog ops Q rest (a.put o.dst v) w') : wpList Tryz.prog ops Q (o :: rest) a w :=
 wpList_plain hgd fun K hK => by
  unfold Oper.wp;rw [h1,Oper.upon_value];exact hK _ _ h
theorem MV {ρ : Operand → Value} {o : Oper} (ho : o.op = .alloc 139) (w : World) :
  (execOp ρ o).run Tryz.prog w = .ok (.value (.pointer (some ⟨w.heap.size,0,none⟩))) (w.alloc (.cells (byV Zp) 139)):=by
 simp only [execOp,ho,Instr.alloc,Sem.run_bind,Tryz.zer83,Result.andThen_ok]
 rfl
theorem N9 {ρ : Operand → Value} {o : Oper} (ho : o.op = .build 139 #[]) (w : World) :
  (execOp ρ o).run Tryz.prog w = .ok (.value (.agg (byV Zp))) w:=by
 simp only [execOp,ho,Instr.build,Sem.run_bind,Tryz.zer83,Result.andThen_ok,run_underlying Tryz.underlying139]
 simp only [Tryz.sizeOf5,Result.andThen_ok]
 have e : (Array.map (fun (x : Nat × Operand) => (x.fst,ρ x.snd)) #[]).toList = []:=au
 rw [e]
 simp only [Instr.fill,Sem.run_pure,Result.andThen_ok]
 rfl
theorem Bb {ρ : Operand → Value} {o : Oper} (x : Operand) (ho : o.op = .slice 139 x none none none) (B : Nat) (hx : ρ x = .pointer (some ⟨B,0,none⟩)) (w : World) :
  (execOp ρ o).run Tryz.prog w = .ok (.value (.slice (some ⟨B,0,none⟩) 4096 4096)) w:=by
 have hl : Tryz.prog.arrayLen 139 = 4096:=ak;have hu : Tryz.prog.underlying 139 = some (.array (Tryz.prog.arrayLen 139) (Tryz.prog.elem 139)):=ak;have hz : (sizeOf (Tryz.prog.elem 139)).run Tryz.prog w = .ok 1 w:=ak;have h:=run_sliceAt_array_all w 139 ⟨B,0,none⟩ hu
 simp only [execOp,ho,hx,Option.map_none,Sem.run_bind]
 rw [h,hz]
 simp only [Result.andThen,slicedAt,hl]
 simp [Addr.add]
theorem El {ρ : Operand → Value} {o : Oper} (d s : Operand) (ho : o.op = Op.call { callee:=Callee.builtin Builtin.copy,args:=#[d,s],argTypes:=#[42,42] })
  (g o1 dn dc : Nat) (hd : ρ d = .slice (some ⟨g,o1,none⟩) dn dc) (a : Addr) (sn sc : Nat) (hs : ρ s = .slice (some a) sn sc) (cur : Array Value) (t : TypeId) (cs : List Value) (w : World)
  (hg : w.heap[g]? = some (.cells cur t (0,0))) (hn : cs.length = Nat.min sn dn)
  (hsrc : ∀ j v,cs[j]? = some v → w.cell? (a.add j) = some v) (hfit : o1 + cs.length ≤ cur.size) (h1 : ∀ v ∈ cs,v.oneCell' = true) :
  (execOp ρ o).run Tryz.prog w = .ok (.value (goInt cs.length)) (w.setRow g (cur.toList.take o1 ++ cs ++ cur.toList.drop (o1 + cs.length)).toArray):=by
 have h5 : (Tryz.prog.info? 5).map (·.size) = some 1:=ak
 have h:=run_copy_row Tryz.prog w 42 42 o.type 5 g o1 dn dc a sn sc cur t cs Tryz.underlying42 h5 hg hn hsrc hfit h1
 simp only [execOp,ho,resolve,invoke,builtin,Sem.run_bind,Sem.run_pure,Result.andThen_ok]
 simp [hd,hs,h]
theorem AA (xs : List Int) (i : Nat) (x : Int) (h : xs[i]? = some x) (w : World) : (part 5 (byV xs) (i * 1)).run Tryz.prog w = .ok (.int .u8 x) w:=by
 have e : (byV xs)[i * 1]? = some (.int .u8 x):=by simp [byV,h]
 simp only [part,Sem.run_bind,Tryz.isAgg5,Result.andThen_ok,Bool.false_eq_true,if_false,e,Sem.run_pure]
theorem NM (xs ys : List Int) (d : Nat) (w : World) : ∀ (n k : Nat),k + n = xs.length → k + n = ys.length →
  (forIn (m:=Sem) (List.range' k n) ((none,()) : Option Bool × Unit) (fun i _ => do
   if (!(← Op.equalIn (d + 1) 5 (← part 5 (byV xs) (i * 1)) (← part 5 (byV ys) (i * 1)))) then pure (ForInStep.done (some false,())) else pure (ForInStep.yield (none,())))).run Tryz.prog w = .ok (if xs.drop k = ys.drop k then (none,()) else (some false,())) w:=by
 intro n
 induction n with
 | zero =>
  intro k h1 h2;rw [List.drop_eq_nil_of_le ae,List.drop_eq_nil_of_le ae]
  simp
 | succ n ih =>
  intro k h1 h2;have hx : k < xs.length:=ae;have hy : k < ys.length:=ae
  simp only [List.range'_succ,List.forIn_cons,Sem.run_bind,AA xs k _ (ba hx),AA ys k _ (ba hy),Result.andThen_ok,run_equalIn_int w d 5 .u8 .u8 _ _ Tryz.underlying5]
  rw [List.drop_eq_getElem_cons hx,List.drop_eq_getElem_cons hy]
  by_cases h : xs[k] = ys[k]
  ·have e : (xs[k] == ys[k]) = true:=by simp [h]
   simp only [e,Bool.not_true,Bool.false_eq_true,if_false,Sem.run_pure,Result.andThen_ok]
   have:=ih (k + 1) ae ae
   rw [this]
   by_cases h2 : xs.drop (k + 1) = ys.drop (k + 1)
   ·rw [if_pos h2,if_pos (by rw [h,h2])]
   ·rw [if_neg h2,if_neg (fun hh => h2 (List.cons.inj hh).2)]
  ·have e : (xs[k] == ys[k]) = false:=by simp [h]
   simp only [e,Bool.not_false,if_true,Sem.run_pure,Result.andThen_ok]
   rw [if_neg (fun hh => h (List.cons.inj hh).1)]
theorem N0 (xs ys : List Int) (d : Nat) (hx : xs.length = 4096) (hy : ys.length = 4096) (w : World) :
  (Op.equalIn (d + 1 + 1) 139 (.agg (byV xs)) (.agg (byV ys))).run Tryz.prog w = .ok (decide (xs = ys)) w:=by
 unfold Op.equalIn
 simp only [Sem.run_bind,run_underlying Tryz.underlying139,Result.andThen_ok,Tryz.sizeOf5]
 have h:=NM xs ys d w 4096 0 ae ae
 have e : ∀ (f : Nat → Option Bool × Unit → Sem (ForInStep (Option Bool × Unit))),forIn [:4096] ((none,()) : Option Bool × Unit) f = forIn (List.range' 0 4096) ((none,()) : Option Bool × Unit) f:=fun f => by
  first
  | rw [Std.Legacy.Range.forIn_eq_forIn_range']; rfl
  | rw [Std.Range.forIn_eq_forIn_range']; rfl
 rw [e,h]
 by_cases hq : xs = ys
 ·simp [hq]
 ·simp [hq]
theorem NJ (xs ys : List Int) (hx : xs.length = 4096) (hy : ys.length = 4096) (w : World) :
  (Op.equal 139 (.agg (byV xs)) (.agg (byV ys))).run Tryz.prog w = .ok (decide (xs = ys)) w:=N0 xs ys 9998 hx hy w
theorem Mq {ρ : Operand → Value} {o : Oper} (x y : Operand) (ty : TypeId) (ho : o.op = .binOp .neq 139 x y ty) (xs ys : List Int) (hx : ρ x = .agg (byV xs)) (hy : ρ y = .agg (byV ys)) (h1 : xs.length = 4096) (h2 : ys.length = 4096) (w : World) :
  (execOp ρ o).run Tryz.prog w = .ok (.value (.bool (!decide (xs = ys)))) w:=by
 simp only [execOp,ho,hx,hy,eqGuard,binOp,Sem.run_bind,NJ xs ys h1 h2]
 simp [Sem.run_bind,run_program,Tryz.eqGuardType139]
theorem LC {ρ : Operand → Value} {o : Oper} (x y : Operand) (ty : TypeId) (ho : o.op = .binOp .eql 139 x y ty) (xs ys : List Int) (hx : ρ x = .agg (byV xs)) (hy : ρ y = .agg (byV ys)) (h1 : xs.length = 4096) (h2 : ys.length = 4096) (w : World) :
  (execOp ρ o).run Tryz.prog w = .ok (.value (.bool (decide (xs = ys)))) w:=by
 simp only [execOp,ho,hx,hy,eqGuard,binOp,Sem.run_bind,NJ xs ys h1 h2]
 simp [Sem.run_bind,run_program,Tryz.eqGuardType139]
structure WrN (w : World) (R g cap : Nat) (bs : List Int) (bad : Bool) : Prop where
 c0 : w.cell? ⟨R,0,none⟩ = some (.slice (some ⟨g,0,none⟩) bs.length cap)
 c1 : w.cell? ⟨R,1,none⟩ = some (.bool bad)
 f0 : w.frozen? ⟨R,0,none⟩ = false
 f1 : w.frozen? ⟨R,1,none⟩ = false
 row : ny w g bs.length cap (bs.map (Value.int .u8))
 ne : g ≠ R
theorem WrN.lt {w : World} {R g cap : Nat} {bs : List Int} {bad : Bool} (h : WrN w R g cap bs bad) : R < w.heap.size:=block_lt_of_cell h.c0
theorem WrN.kept {S : Nat → Prop} {w w' : World} {R g cap : Nat} {bs : List Int} {bad : Bool} (h : WrN w R g cap bs bad) (hk : Kept S w w') (hR : ¬ S R) (hg : ¬ S g) : WrN w' R g cap bs bad :=
 ⟨hk.cell h.c0 hR,hk.cell h.c1 hR,(bb (hk.block R h.lt hR) 0).trans h.f0,(bb (hk.block R h.lt hR) 1).trans h.f1,h.row.kept hk hg,h.ne⟩
theorem WrN.later {w w' : World} {R g cap : Nat} {bs : List Int} {bad : Bool} (h : WrN w R g cap bs bad) (hb : Below w.heap.size w w') : WrN w' R g cap bs bad :=
 h.kept (S:=fun _ => False) ⟨hb.os,hb.tape,hb.output,hb.size,fun k hk _ => hb.block k hk⟩ id id
abbrev WS:=List Int × Bool
def ed (b : Bool) (s : WS) : WS:=(s.1,s.2 || !b)
def fE (zs : List Int) (s : WS) : WS:=if s.2 then s else (s.1 ++ zs,s.2)
def bz (v most : Int) (s : WS) : WS:=fE (aw v) (ed (decide (v ≤ most)) s)
def fY (v least most : Int) (s : WS) : WS:=fE [v] (ed (decide (least ≤ v) && decide (v ≤ most)) s)
abbrev fZ (R g : Nat) (s : WS) (w : World) : Ending → World → Prop:=fun e w' => e = .returned (.tuple #[]) ∧ ∃ g' cap',WrN w' R g' cap' s.1 s.2 ∧ Stp R g g' w w'
theorem Lb (R g cap : Nat) (s : WS) (b : Bool) (w : World) (h : WrN w R g cap s.1 s.2) :
  Calls Tryz.prog 66 #[.pointer (some ⟨R,0,none⟩),.bool b] w (fZ R g (ed b s) w):=by
 obtain ⟨bs,bad⟩:=s;have c1:=h.c1;have f1:=h.f1;have HW:=hid h;clear h
 have fin : ∀ b' : Bool,WrN (w.setCell ⟨R,1,none⟩ (.bool b')) R g cap bs b' ∧ Stp R g g w (w.setCell ⟨R,1,none⟩ (.bool b')):=fun b' => by
  have hk : Kept (fun k => k = R) w (w.setCell ⟨R,1,none⟩ (.bool b')):=⟨rfl,rfl,rfl,dH,fun k hk hs => Below.heap_setCell _ _ _ _ nt⟩
  refine ⟨⟨?_,?_,?_,?_,HW.out.row.kept hk HW.out.ne,HW.out.ne⟩,⟨hk.mono (fun k hk => .inl hk),.inl rfl⟩⟩
  ·rw [World.cell?_setCell_other _ _ _ _ au]; exact HW.out.c0
  ·exact World.cell?_setCell_same w ⟨R,1,none⟩ (.bool b') c1
  ·rw [World.frozen?_setCell]; exact HW.out.f0
  ·rw [World.frozen?_setCell]; exact HW.out.f1
 have FIN:=hid fin;clear fin HW
 cases bad <;> cases b
 all_goals
  go_enter Tryz.func66,Tryz.ntmps66
  go_wp2_with fail;go_end0;exact ⟨rfl,g,cap,(FIN.out _).1,(FIN.out _).2⟩
theorem zY (R g cap : Nat) (s : WS) (a : Option Addr) (n c : Nat) (zs : List Int) (w : World) (h : WrN w R g cap s.1 s.2) (hs : Seg w a n c zs) (hn : 0 < n) (hb : s.1.length + n ≤ 1099511627776) :
  Calls Tryz.prog 67 #[.pointer (some ⟨R,0,none⟩),.slice a n c] w (fZ R g (fE zs s) w):=by
 obtain ⟨bs,bad⟩:=s;have c0:=h.c0;have f0:=h.f0;have c1:=h.c1;have hlt:=h.lt
 cases bad with
 | true =>
  have HW:=hid h;clear h hs
  go_enter Tryz.func67,Tryz.ntmps67
  go_wp2_with fail;go_end0;exact ⟨rfl,g,cap,HW.out,Stp.refl _ _ _⟩
 | false =>
  obtain ⟨i0,hi,hz0,hz1,hz2⟩:=info_parts Tryz.info5
  obtain ⟨ad,rfl⟩ : ∃ ad,a = some ad:=by
   rcases hs.2.2.2.2 with h0 | ⟨b,off,h,_⟩
   ·omega
   ·exact ⟨_,h⟩
  have HW:=hid h;have HR:=hid h.row;have HNE:=hid h.ne;have HS:=hid hs;have hl:=hs.1;dsimp only at hb c0 f0;clear h hs
  go_enter Tryz.func67,Tryz.ntmps67
  go_wp2_with (at_builtin; (refine Ff _ rfl (.tmp 13) (.tmp 14) 42 rfl i0 (.int .u8 0) Tryz.underlying42 hi hz0 hz1 hz2 rfl g bs.length cap _ rfl HR.out ad n c (zs.map (Value.int .u8)) rfl lu (kg HS.out ad rfl) (fX _) hn cH ae ?_; intro B cap' w1 hrow hk hor; have HO:=hid hrow; have HK:=hid hk; have HOR:=hid hor; have d0:=hk.cell c0 (Ne.symm HNE.out); have e0:=(bb (hk.block R hlt (Ne.symm HNE.out)) 0).trans f0; clear hrow hk hor c0 f0))
  go_end0
  have hne : B ≠ R:=by
   rcases HOR.out with h1 | h1
   ·have:=HNE.out; omega
   ·omega
  refine ⟨rfl,B,cap',⟨?_,?_,?_,?_,?_,hne⟩,⟨?_,HOR.out⟩⟩
  ·have:=World.cell?_setCell_same w1 ⟨R,0,none⟩ (.slice (some ⟨B,0,none⟩) (bs.length + n) cap') d0
   simpa [hl,fE] using this
  ·rw [World.cell?_setCell_other _ _ _ _ au]; exact HK.out.cell HW.out.c1 (Ne.symm HNE.out)
  ·rw [World.frozen?_setCell]; exact e0
  ·rw [World.frozen?_setCell]; exact (bb (HK.out.block R hlt (Ne.symm HNE.out)) 1).trans HW.out.f1
  ·have hk : (w1.setCell ⟨R,0,none⟩ (.slice (some ⟨B,0,none⟩) (bs.length + n) cap')).heap[B]? = w1.heap[B]?:=Below.heap_setCell _ _ _ _ (by simpa using hne)
   have:=HO.out.keep hk
   refine .inl ?_
   simpa [hl,fE] using this
  ·exact Fs
theorem cY (R g cap : Nat) (s : WS) (v most : Int) (w : World) (h : WrN w R g cap s.1 s.2) (h0 : 0 ≤ v) (h1 : v < 18446744073709551616) (hb : s.1.length + 10 ≤ 1099511627776) :
  Calls Tryz.prog 40 #[.pointer (some ⟨R,0,none⟩),.int .u64 v,.int .u64 most] w (fZ R g (bz v most s) w):=by
 have HA:=hid (fun b => Lb R g cap s b w h)
 have HU:=hid (fun W => AV v W h0 h1)
 have HP:=hid (fun (g : Nat) (cap : Nat) (a : Option Addr) (W : World) (hW : WrN W R g cap (ed (decide (v ≤ most)) s).1 (ed (decide (v ≤ most)) s).2) (hS : Seg W a (aw v).length (aw v).length (aw v)) => zY R g cap (ed (decide (v ≤ most)) s) a _ _ _ W hW hS (aK v).1 (by have:=aK v; simp only [ed]; omega))
 have e : bz v most s = fE (aw v) (ed (decide (v ≤ most)) s):=rfl;rw [e];clear h hb e;generalize fE (aw v) (ed (decide (v ≤ most)) s) = s2 at *;have HA:=hid (HA.out (decide (v ≤ most)));generalize ed (decide (v ≤ most)) s = s1 at *;generalize aw v = U at *
 go_enter Tryz.func40,Tryz.ntmps40
 go_wp2_with fail;refine HA.out.mono ?_;rintro e w1 ⟨rfl,g1,cap1,hw1,hs1⟩;have W1:=hid hw1;have S1:=hid hs1;clear hw1 hs1 HA;go_wp2_with fail;refine (HU.out _).mono ?_;rintro e w2 ⟨B,rfl,s2',b2⟩;have S2:=hid s2';have B2:=hid b2;clear s2' b2 HU;go_wp2_with fail;refine (HP.out g1 cap1 _ w2 (W1.out.later B2.out) S2.out).mono ?_;rintro e w3 ⟨rfl,g3,cap3,hw3,hs3⟩;have W3:=hid hw3;have S3:=hid ((S1.out.trans (Stp.of_below B2.out)).trans hs3);clear hw3 hs3 HP;go_wp2_with fail;go_end0;exact ⟨rfl,g3,cap3,W3.out,S3.out⟩
theorem Jn (R g cap : Nat) (s : WS) (v : Int) (w : World) (h : WrN w R g cap s.1 s.2) (h0 : 0 ≤ v) (h1 : v < 18446744073709551616) (hb : s.1.length + 10 ≤ 1099511627776) :
  Calls Tryz.prog 42 #[.pointer (some ⟨R,0,none⟩),.int .u64 v] w (fZ R g (bz v 18446744073709551615 s) w):=by
 have HN:=hid (cY R g cap s v 18446744073709551615 w h h0 h1 hb);clear h hb;generalize bz v 18446744073709551615 s = s1 at *
 go_enter Tryz.func42,Tryz.ntmps42
 go_wp2_with fail;refine HN.out.mono ?_;rintro e w1 ⟨rfl,g1,cap1,hw1,hs1⟩;have W1:=hid hw1;have S1:=hid hs1;clear hw1 hs1 HN;go_wp2_with fail;go_end0;exact ⟨rfl,g1,cap1,W1.out,S1.out⟩
theorem AE (R g cap : Nat) (s : WS) (v least most : Int) (w : World) (h : WrN w R g cap s.1 s.2) (h0 : -128 ≤ v) (h1 : v ≤ 127) (hl0 : 0 ≤ least) (hb : s.1.length + 10 ≤ 1099511627776) :
  Calls Tryz.prog 39 #[.pointer (some ⟨R,0,none⟩),.int .i8 v,.int .i8 least,.int .i8 most] w (fZ R g (fY v least most s) w):=by
 have e : fY v least most s = fE [v] (ed (decide (least ≤ v) && decide (v ≤ most)) s):=rfl;rw [e];clear e
 have HX:=hid (show (ed (decide (least ≤ v) && decide (v ≤ most)) s).2 = false → 0 ≤ v by
  intro hq
  simp [ed] at hq
  omega)
 have HA:=hid (Lb R g cap s (decide (least ≤ v) && decide (v ≤ most)) w h);have hln : (ed (decide (least ≤ v) && decide (v ≤ most)) s).1.length + 10 ≤ 1099511627776:=hb;clear h hb;have key : ∀ (s1 : WS) (b : Bool),Hid (s1.2 = false → 0 ≤ v) → s1.1.length + 10 ≤ 1099511627776 → (decide (least ≤ v) && decide (v ≤ most)) = b → Hid (Calls Tryz.prog 66 #[.pointer (some ⟨R,0,none⟩),.bool b] w (fZ R g s1 w)) →
   Calls Tryz.prog 39 #[.pointer (some ⟨R,0,none⟩),.int .i8 v,.int .i8 least,.int .i8 most] w (fZ R g (fE [v] s1) w):=by
  intro s1 b HX hln hb HA
  have tail : ∀ (w1 : World) (g1 cap1 : Nat),WrN w1 R g1 cap1 s1.1 s1.2 → Calls Tryz.prog 67 #[.pointer (some ⟨R,0,none⟩),.slice (some ⟨w1.heap.size,0,none⟩) 1 1] (w1.alloc (fN (IntKind.u8.wrap v))) (fZ R g1 (fE [v] s1) w1):=by
   intro w1 g1 cap1 hw1;have b1:=aj w1 (fN (IntKind.u8.wrap v));have hc : (w1.alloc (fN (IntKind.u8.wrap v))).cell? ⟨w1.heap.size,0,none⟩ = some (.int .u8 (IntKind.u8.wrap v)):=ai (bZ w1 _)
   by_cases hbad : s1.2 = true
   ·have hp : ∀ zs,fE zs s1 = s1:=fun zs => by simp [fE,hbad]
    have:=zY R g1 cap1 s1 (some ⟨w1.heap.size,0,none⟩) 1 1 [IntKind.u8.wrap v] _ (hw1.later b1) ⟨rfl,ae,ae,by intro z hz; simp at hz; subst hz; rw [IntKind.wrap_u8]; omega,.inr ⟨_,_,rfl,fun j hj => by obtain rfl : j = 0:=ae; exact hc⟩⟩ ae ae
    rw [hp] at this;rw [hp];exact Bo
   ·have hv:=HX.out (by simpa using hbad)
    have e : IntKind.u8.wrap v = v:=xI;rw [e] at hc b1 ⊢
    have:=zY R g1 cap1 s1 (some ⟨w1.heap.size,0,none⟩) 1 1 [v] _ (hw1.later b1) ⟨rfl,ae,ae,by intro z hz; simp at hz; subst hz; omega,.inr ⟨_,_,rfl,fun j hj => by obtain rfl : j = 0:=ae; exact hc⟩⟩ ae ae
    exact Bo
  have HT:=hid tail;clear tail HX hln;generalize fE [v] s1 = s2 at *;obtain ⟨U,hU⟩ : ∃ U,IntKind.u8.wrap v = U:=⟨_,rfl⟩;rw [hU] at HT
  have hU' : v % 256 = U:=by rw [← hU,IntKind.wrap_u8]
  by_cases q1 : least ≤ v
  ·by_cases q2 : v ≤ most
   ·obtain rfl : true = b:=by rw [← hb]; simp [q1,q2]
    exact yF
   ·obtain rfl : false = b:=by rw [← hb]; simp [q2]
    exact yF
  ·obtain rfl : false = b:=by rw [← hb]; simp [q1]
   exact yF
 exact key _ _ HX hln rfl HA
abbrev RS:=Int × Int
structure Rd (w : World) (R : Nat) (a : Option Addr) (n c : Nat) (zs : List Int) (st : RS) : Prop where
 c0 : w.cell? ⟨R,0,none⟩ = some (.slice a n c)
 c1 : w.cell? ⟨R,1,none⟩ = some (.int .i64 st.1)
 c2 : w.cell? ⟨R,2,none⟩ = some (.int .i64 st.2)
 f1 : w.frozen? ⟨R,1,none⟩ = false
 f2 : w.frozen? ⟨R,2,none⟩ = false
 seg : Seg w a n c zs
 ap : ∀ b off,a = some ⟨b,off,none⟩ → 0 < n → b ≠ R
 rg : 0 ≤ st.1 ∧ st.1 ≤ zs.length
theorem Rd.lt {w : World} {R : Nat} {a : Option Addr} {n c : Nat} {zs : List Int} {st : RS} (h : Rd w R a n c zs st) : R < w.heap.size:=block_lt_of_cell h.c0
theorem Rd.later {w w' : World} {R : Nat} {a : Option Addr} {n c : Nat} {zs : List Int} {st : RS} (h : Rd w R a n c zs st) (hb : Below w.heap.size w w') : Rd w' R a n c zs st :=
 ⟨ag hb h.c0,ag hb h.c1,ag hb h.c2,(bb (hb.block R h.lt) 1).trans h.f1,(bb (hb.block R h.lt) 2).trans h.f2,h.seg.later hb (Nat.le_refl _),h.ap,h.rg⟩
def tkR (v next e : Int) (st : RS) : Int × RS:=if st.2 = 0 then (if e = 0 then (v,(next,0)) else (0,(st.1,e))) else (0,st)
abbrev tB (R : Nat) (a : Option Addr) (n c : Nat) (zs : List Int) (v : Value) (st : RS) (w : World) : Ending → World → Prop:=fun e w' => e = .returned v ∧ Rd w' R a n c zs st ∧ Kept (fun k => k = R) w w'
theorem Rd.set {w : World} {R : Nat} {a : Option Addr} {n c : Nat} {zs : List Int} {st : RS} (h : Rd w R a n c zs st) (v : Int) (i : Nat) (st' : RS) (hi : i = 1 ∧ st' = (v,st.2) ∧ 0 ≤ v ∧ v ≤ zs.length ∨ i = 2 ∧ st' = (st.1,v)) :
  Rd (w.setCell ⟨R,i,none⟩ (.int .i64 v)) R a n c zs st' ∧ Kept (fun k => k = R) w (w.setCell ⟨R,i,none⟩ (.int .i64 v)):=by
 have hk : Kept (fun k => k = R) w (w.setCell ⟨R,i,none⟩ (.int .i64 v)):=⟨rfl,rfl,rfl,dH,fun k hk hs => Below.heap_setCell _ _ _ _ nt⟩
 have hseg : Seg (w.setCell ⟨R,i,none⟩ (.int .i64 v)) a n c zs:=⟨h.seg.1,h.seg.2.1,h.seg.2.2.1,h.seg.2.2.2.1,by
  by_cases h0 : n = 0
  ·exact .inl h0
  ·exact h.seg.2.2.2.2.imp id fun ⟨b,off,e,hx⟩ => ⟨b,off,e,fun j hj => hk.cell (hx j hj) (h.ap b off e ae)⟩⟩
 refine ⟨⟨?_,?_,?_,?_,?_,hseg,h.ap,?_⟩,hk⟩
 ·rw [World.cell?_setCell_other _ _ _ _ (by simp only [ne_eq,Addr.mk.injEq,not_and]; omega)]; exact h.c0
 ·rcases hi with ⟨rfl,rfl,_⟩ | ⟨rfl,rfl⟩
  ·exact World.cell?_setCell_same w ⟨R,1,none⟩ _ h.c1
  ·rw [World.cell?_setCell_other _ _ _ _ au]; exact h.c1
 ·rcases hi with ⟨rfl,rfl,_⟩ | ⟨rfl,rfl⟩
  ·rw [World.cell?_setCell_other _ _ _ _ au]; exact h.c2
  ·exact World.cell?_setCell_same w ⟨R,2,none⟩ _ h.c2
 ·rw [World.frozen?_setCell]; exact h.f1
 ·rw [World.frozen?_setCell]; exact h.f2
 ·rcases hi with ⟨rfl,rfl,h1,h2⟩ | ⟨rfl,rfl⟩
  ·exact ⟨h1,h2⟩
  ·exact h.rg
theorem pI (R : Nat) (a : Option Addr) (n c : Nat) (zs : List Int) (st : RS) (v next e : Int) (w : World) (h : Rd w R a n c zs st) (hn : e = 0 → 0 ≤ next ∧ next ≤ zs.length) :
  Calls Tryz.prog 54 #[.pointer (some ⟨R,0,none⟩),.int .u64 v,.int .i64 next,.int .i64 e] w (tB R a n c zs (.int .u64 (tkR v next e st).1) (tkR v next e st).2 w):=by
 obtain ⟨at_,er⟩:=st;have c1:=h.c1;have c2:=h.c2;have f1:=h.f1;have f2:=h.f2;have HW:=hid h;clear h;dsimp only at c1 c2
 by_cases h0 : er = 0
 ·subst h0;have E:=hid (HW.out.set e 2 (at_,e) (.inr ⟨rfl,rfl⟩));have x2 : (w.setCell ⟨R,2,none⟩ (.int .i64 e)).cell? ⟨R,2,none⟩ = some (.int .i64 e):=E.out.1.c2;have x1 : (w.setCell ⟨R,2,none⟩ (.int .i64 e)).cell? ⟨R,1,none⟩ = some (.int .i64 at_):=E.out.1.c1;have y1 : (w.setCell ⟨R,2,none⟩ (.int .i64 e)).frozen? ⟨R,1,none⟩ = false:=E.out.1.f1
  by_cases he : e = 0
  ·subst he;have hn:=hn rfl;have E2:=hid (E.out.1.set next 1 (next,0) (.inl ⟨rfl,rfl,hn.1,hn.2⟩));have et : tkR v next 0 (at_,0) = (v,(next,0)):=rfl;rw [et];clear et hn HW
   go_enter Tryz.func54,Tryz.ntmps54
   go_wp2_with fail;go_ret;exact ⟨rfl,E2.out.1,E.out.2.trans E2.out.2⟩
  ·have hb : (e == 0) = false:=by simp [he]
   have hb2 : (e != 0) = true:=by simp [he]
   have et : tkR v next e (at_,0) = (0,(at_,e)):=by simp [tkR,he]
   rw [et];clear et hn HW
   go_enter Tryz.func54,Tryz.ntmps54
   go_wp2_with fail;go_ret;exact ⟨rfl,E.out.1,E.out.2⟩
 ·have hb : (er == 0) = false:=by simp [h0]
  have hb2 : (er != 0) = true:=by simp [h0]
  have et : tkR v next e (at_,er) = (0,(at_,er)):=by simp [tkR,h0]
  rw [et];clear et hn
  go_enter Tryz.func54,Tryz.ntmps54
  go_wp2_with fail;go_ret;exact ⟨rfl,HW.out,Kept.refl _ _⟩
def nmE (zs : List Int) (most above at_ : Int) : Int:=if (cI zs at_).2.2 = 0 ∧ most < (cI zs at_).1 then above else (cI zs at_).2.2
def nmR (zs : List Int) (most above : Int) (st : RS) : Int × RS:=tkR (cI zs st.1).1 (cI zs st.1).2.1 (nmE zs most above st.1) st
theorem iZ (R : Nat) (a : Option Addr) (n c : Nat) (zs : List Int) (st : RS) (most above : Int) (w : World) (h : Rd w R a n c zs st) (ha : above ≠ 0 ∨ most = 18446744073709551615) :
  Calls Tryz.prog 48 #[.pointer (some ⟨R,0,none⟩),.int .u64 most,.int .i64 above] w (tB R a n c zs (.int .u64 (nmR zs most above st).1) (nmR zs most above st).2 w):=by
 have hr:=jn zs st.1 h.seg.2.2.2.1
 have HU:=hid (fun (W : World) (hW : Below w.heap.size w W) => ru7 a n c zs st.1 W (h.seg.later hW (Nat.le_refl _)))
 have HT:=hid (fun (e : Int) (W : World) (hW : Below w.heap.size w W) (he : e = nmE zs most above st.1) => pI R a n c zs st (cI zs st.1).1 (cI zs st.1).2.1 e W (h.later hW) (fun h0 => by
  have:=h.rg
  by_cases hz : (cI zs st.1).2.2 = 0
  ·exact ⟨hr.2.2.1,hr.2.2.2.1⟩
  ·rw [he] at h0;unfold nmE at h0;rw [if_neg ae] at h0
   omega))
 have c0:=h.c0;have c1:=h.c1;have e1 : nmR zs most above st = tkR (cI zs st.1).1 (cI zs st.1).2.1 (nmE zs most above st.1) st:=rfl;rw [e1];have e2 : nmE zs most above st.1 = if (cI zs st.1).2.2 = 0 ∧ most < (cI zs st.1).1 then above else (cI zs st.1).2.2:=rfl
 have BW:=hid (fun m => below_drewN w m)
 clear h ha hr e1;obtain ⟨at_,er⟩:=st;dsimp only at *;generalize nmE zs most above at_ = E at *;generalize cI zs at_ = q at *;obtain ⟨v,nx,x⟩:=q;dsimp only at *
 simp only [yJ] at HU
 have fin : ∀ (W : World),Below w.heap.size w W → Calls Tryz.prog 54 #[.pointer (some ⟨R,0,none⟩),.int .u64 v,.int .i64 nx,.int .i64 E] W (tB R a n c zs (.int .u64 (tkR v nx E (at_,er)).1) (tkR v nx E (at_,er)).2 w):=fun W hW => (HT.out E W hW rfl).mono (fun e w' ⟨h1,h2,h3⟩ => ⟨h1,h2,(Kept.mono (⟨hW.os,hW.tape,hW.output,hW.size,fun k hk _ => hW.block k hk⟩ : Kept (fun k => k = R) w W) (fun _ h => h)).trans h3⟩)
 have FIN:=hid fin;generalize tkR v nx E (at_,er) = p at *;clear fin HT
 by_cases hx : x = 0
 ·subst hx
  by_cases hm : most < v
  ·have hE : E = above:=by rw [e2,if_pos ⟨rfl,hm⟩]
   exact FC
  ·have hE : E = 0:=by rw [e2,if_neg ae]
   exact FC
 ·have hE : E = x:=by rw [e2,if_neg ae]
  subst hE
  have hb : (E == 0) = false:=by simp [hx]
  clear e2
  go_enter Tryz.func48,Tryz.ntmps48
  exact Gg
theorem qu {v next e m : Int} {st : RS} (h : e = 0 → 0 ≤ v ∧ v ≤ m) (hm : 0 ≤ m) : 0 ≤ (tkR v next e st).1 ∧ (tkR v next e st).1 ≤ m:=by
 unfold tkR
 split
 ·split
  ·rename_i h2; exact h h2
  ·exact ⟨Int.le_refl _,hm⟩
 ·exact ⟨Int.le_refl _,hm⟩
theorem jr {zs : List Int} {most above : Int} {st : RS} (hz : ∀ z ∈ zs,0 ≤ z ∧ z ≤ 255) (ha : above ≠ 0) (hm : 0 ≤ most) : 0 ≤ (nmR zs most above st).1 ∧ (nmR zs most above st).1 ≤ most:=by
 have hr:=jn zs st.1 hz
 refine qu (fun he => ?_) hm
 unfold nmE at he
 split at he
 ·exact absurd he ha
 ·rename_i h
  exact ⟨hr.1,ae⟩
theorem ou (R : Nat) (a : Option Addr) (n c : Nat) (zs : List Int) (st : RS) (most : Nat) (w : World) (h : Rd w R a n c zs st) (hm : most ≤ 100000) :
  Calls Tryz.prog 73 #[.pointer (some ⟨R,0,none⟩),.int .i64 most] w (tB R a n c zs (.int .i64 (nmR zs most 20 st).1) (nmR zs most 20 st).2 w):=by
 have hl:=jr (st:=st) h.seg.2.2.2.1 (by decide : (20 : Int) ≠ 0) (by omega : (0 : Int) ≤ most)
 have HN:=hid (iZ R a n c zs st most 20 w h (.inl ax));have hk : (most : Int) % 18446744073709551616 = most:=ae;generalize nmR zs most 20 st = p at *;obtain ⟨V,st1⟩:=p;dsimp only at *;have hv : IntKind.i64.wrap V = V:=i64_in V ae ae;clear h hl
 go_enter Tryz.func73,Tryz.ntmps73
 exact Hr
theorem J1 (R : Nat) (a : Option Addr) (n c : Nat) (zs : List Int) (st : RS) (w : World) (h : Rd w R a n c zs st) :
  Calls Tryz.prog 50 #[.pointer (some ⟨R,0,none⟩)] w (tB R a n c zs (.int .u64 (nmR zs 18446744073709551615 0 st).1) (nmR zs 18446744073709551615 0 st).2 w):=by
 have HN:=hid (iZ R a n c zs st 18446744073709551615 0 w h (.inr rfl));generalize nmR zs 18446744073709551615 0 st = p at *;clear h
 go_enter Tryz.func50,Tryz.ntmps50
 exact Hr
def pnE (zs : List Int) (least count at_ : Int) : Int:=if (cI zs at_).2.2 ≠ 0 then (cI zs at_).2.2 else if count ≤ (cI zs at_).1 then 17 else if (cI zs at_).1 < least then 18 else 0
def pnR (zs : List Int) (least count : Int) (st : RS) : Int × RS:=tkR (cI zs st.1).1 (cI zs st.1).2.1 (pnE zs least count st.1) st
theorem Ic {zs : List Int} {least count : Int} {st : RS} (hz : ∀ z ∈ zs,0 ≤ z ∧ z ≤ 255) (hc : 0 < count) : 0 ≤ (pnR zs least count st).1 ∧ (pnR zs least count st).1 ≤ count - 1:=by
 have hr:=jn zs st.1 hz
 refine qu (fun he => ?_) ae
 unfold pnE at he
 split at he
 ·omega
 ·split at he
  ·cases he
  ·exact ⟨hr.1,ae⟩
theorem LG (R : Nat) (a : Option Addr) (n c : Nat) (zs : List Int) (st : RS) (least count : Nat) (w : World) (h : Rd w R a n c zs st) (hl : least ≤ 100000) (h0 : 0 < count) (hc : count ≤ 100000) :
  Calls Tryz.prog 74 #[.pointer (some ⟨R,0,none⟩),.int .i64 least,.int .i64 count] w (tB R a n c zs (.int .i64 (pnR zs least count st).1) (pnR zs least count st).2 w):=by
 have hr:=jn zs st.1 h.seg.2.2.2.1
 have HU:=hid (fun (W : World) (hW : Below w.heap.size w W) => ru7 a n c zs st.1 W (h.seg.later hW (Nat.le_refl _)))
 have HT:=hid (fun (e : Int) (W : World) (hW : Below w.heap.size w W) (he : e = pnE zs least count st.1) => pI R a n c zs st (cI zs st.1).1 (cI zs st.1).2.1 e W (h.later hW) (fun h0 => ⟨hr.2.2.1,hr.2.2.2.1⟩))
 have c0:=h.c0;have c1:=h.c1;have hle:=Ic (st:=st) (least:=(least : Int)) (count:=(count : Int)) h.seg.2.2.2.1 ae;have e1 : pnR zs least count st = tkR (cI zs st.1).1 (cI zs st.1).2.1 (pnE zs least count st.1) st:=rfl;rw [e1] at hle ⊢;have e2 : pnE zs least count st.1 = if (cI zs st.1).2.2 ≠ 0 then (cI zs st.1).2.2 else if (count : Int) ≤ (cI zs st.1).1 then 17 else if (cI zs st.1).1 < (least : Int) then 18 else 0:=rfl
 have BW:=hid (fun m => below_drewN w m)
 have hk1 : (least : Int) % 18446744073709551616 = least:=ae;have hk2 : (count : Int) % 18446744073709551616 = count:=ae;clear h hr e1;obtain ⟨at_,er⟩:=st;dsimp only at *;generalize pnE zs least count at_ = E at *;generalize cI zs at_ = q at *;obtain ⟨v,nx,x⟩:=q;dsimp only at *
 simp only [yJ] at HU
 have fin : ∀ (W : World),Below w.heap.size w W → Calls Tryz.prog 54 #[.pointer (some ⟨R,0,none⟩),.int .u64 v,.int .i64 nx,.int .i64 E] W (tB R a n c zs (.int .u64 (tkR v nx E (at_,er)).1) (tkR v nx E (at_,er)).2 w):=fun W hW => (HT.out E W hW rfl).mono (fun e w' ⟨h1,h2,h3⟩ => ⟨h1,h2,(Kept.mono (⟨hW.os,hW.tape,hW.output,hW.size,fun k hk _ => hW.block k hk⟩ : Kept (fun k => k = R) w W) (fun _ h => h)).trans h3⟩)
 have FIN:=hid fin;generalize tkR v nx E (at_,er) = p at *;obtain ⟨V,st1⟩:=p;dsimp only at *;have hv : IntKind.i64.wrap V = V:=i64_in V ae ae;clear fin HT hle
 by_cases hx : x = 0
 ·subst hx
  by_cases hm : (count : Int) ≤ v
  ·have hE : E = 17:=by rw [e2,if_neg au,if_pos hm]
   exact zu
  ·by_cases hm2 : v < (least : Int)
   ·have hE : E = 18:=by rw [e2,if_neg au,if_neg hm,if_pos hm2]
    exact zu
   ·have hE : E = 0:=by rw [e2,if_neg au,if_neg hm,if_neg hm2]
    exact zu
 ·have hE : E = x:=by rw [e2,if_pos hx]
  subst hE
  have hb : (E != 0) = true:=by simp [hx]
  clear e2
  go_enter Tryz.func74,Tryz.ntmps74
  exact Gg
theorem i8_in (V : Int) (h0 : 0 ≤ V) (h1 : V ≤ 127) : IntKind.i8.wrap V = V:=by
 exact lU
theorem ej {R : Nat} {w W : World} (h : Below w.heap.size w W) : Kept (fun k => k = R) w W:=⟨h.os,h.tape,h.output,h.size,fun k hk _ => h.block k hk⟩
def fnR (zs : List Int) (st : RS) : RS:=if st.1 < zs.length then (tkR 0 0 19 st).2 else st
theorem Hy (R : Nat) (a : Option Addr) (n c : Nat) (zs : List Int) (st : RS) (w : World) (h : Rd w R a n c zs st) :
  Calls Tryz.prog 20 #[.pointer (some ⟨R,0,none⟩)] w (tB R a n c zs (.tuple #[]) (fnR zs st) w):=by
 have HT:=hid (fun (W : World) (hW : Below w.heap.size w W) => pI R a n c zs st 0 0 19 W (h.later hW) (fun h0 => by cases h0))
 have c0:=h.c0;have c1:=h.c1;have HW:=hid h
 have BW:=hid (fun m => below_drewN w m)
 have hl:=h.seg.1;have e : fnR zs st = if st.1 < zs.length then (tkR 0 0 19 st).2 else st:=rfl;rw [e,hl];clear e h;obtain ⟨at_,er⟩:=st;dsimp only at *;generalize tkR 0 0 19 (at_,er) = p at *
 by_cases hlt : at_ < (n : Int)
 ·rw [if_pos hlt];clear HW
  go_enter Tryz.func20,Tryz.ntmps20
  go_wp2_with fail
  go_quiet (fail)
  go_wp2_with fail;refine (HT.out _ (BW.out _)).mono ?_;rintro e w3 ⟨rfl,h3,k3⟩;have R3:=hid h3;have K3:=hid ((ej (R:=R) (BW.out nq)).trans k3);clear h3 k3 HT;go_wp2_with fail;go_end0;exact ⟨rfl,R3.out,K3.out⟩
 ·rw [if_neg hlt];clear HT
  go_enter Tryz.func20,Tryz.ntmps20
  go_wp2_with fail
  go_quiet (fail)
  go_wp2_with fail;go_end0;exact ⟨rfl,HW.out.later (BW.out _),ej (BW.out _)⟩
end Go.Proofs.YtkdldbfbldkkcaaGreatDoor

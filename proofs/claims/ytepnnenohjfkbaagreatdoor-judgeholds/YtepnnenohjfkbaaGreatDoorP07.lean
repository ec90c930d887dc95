/-
  Texts Small Ref Of Ins Span.
-/
import Derived.Below
import Derived.BigQuiet
import Derived.Deep.QuietTactic
import Derived.Deep.RegionHeld3
import Derived.KernelRfl
import Derived.RowKit
import Derived.Test.YtepnnenohjfkbaaGreatDoorProg
import Derived.WalkKit
import Derived.WalkLawsBesides
import Derived.WalkSpells
import Derived.Test.YtepnnenohjfkbaaGreatDoorP00
import Derived.Test.YtepnnenohjfkbaaGreatDoorP06
set_option linter.unusedVariables false
set_option maxRecDepth 100000
set_option maxHeartbeats 16000000
namespace Go.Proofs.YtepnnenohjfkbaaGreatDoor
open Go.RowKit
def tX (c : Int) : Int :=
 if c = 2 then 1 else if c = 3 then 1 else if c = 4 then 1 else if c = 7 then 2 else if c = 8 then 2 else if c = 9 then 3 else if c = 11 then 4 else if c = 12 then 5
 else if c = 18 then 6 else if c = 19 then 6 else if c = 20 then 6 else if c = 21 then 7 else if c = 22 then 7 else if c = 24 then 8 else if c = 25 then 8
 else if c = 32 then 9 else if c = 33 then 9 else if c = 34 then 9 else if c = 35 then 9 else if c = 36 then 9 else if c = 37 then 9 else if c = 38 then 9 else if c = 39 then 9 else if c = 40 then 9 else if c = 41 then 9 else 0
def vz (c : Int) : Bool:=decide (c = 1 ∨ 24 ≤ c)
def AQ (k : Int) (s : ByteArray) : ByteArray × ByteArray :=
 if k = 0 then (s,⟨#[119]⟩) else if k ≤ 6 then (s ++ s,⟨#[119]⟩) else if k ≤ 9 then (s,s) else (s ++ s,s)
def qK (c : Int) : ByteArray × ByteArray :=
 if 48 ≤ c ∧ c ≤ 72 then AQ (c - 48) ⟨#[119]⟩ else if 80 ≤ c ∧ c ≤ 104 then AQ (c - 80) ⟨#[108]⟩
 else if c = 24 then (⟨#[]⟩,⟨#[119]⟩) else if c = 42 then (⟨#[]⟩,⟨#[119]⟩) else if c = 25 then (⟨#[]⟩,⟨#[108]⟩)
 else if c = 32 then (⟨#[119]⟩,⟨#[119]⟩) else if c = 33 then (⟨#[119]⟩,⟨#[119]⟩) else if c = 34 then (⟨#[119]⟩,⟨#[119]⟩) else if c = 35 then (⟨#[119]⟩,⟨#[119]⟩) else if c = 36 then (⟨#[119]⟩,⟨#[119]⟩) else if c = 43 then (⟨#[119]⟩,⟨#[119]⟩) else if c = 115 then (⟨#[119]⟩,⟨#[119]⟩) else if c = 116 then (⟨#[119]⟩,⟨#[119]⟩)
 else if c = 37 then (⟨#[119]⟩,⟨#[108]⟩) else if c = 113 then (⟨#[119]⟩,⟨#[108]⟩) else if c = 114 then (⟨#[119]⟩,⟨#[108]⟩)
 else if c = 112 then (⟨#[108]⟩,⟨#[119]⟩) else if c = 117 then (⟨#[108]⟩,⟨#[108]⟩)
 else if c = 38 then (⟨#[119,119]⟩,⟨#[]⟩) else if c = 39 then (⟨#[119,119]⟩,⟨#[]⟩) else if c = 40 then (⟨#[119,119]⟩,⟨#[]⟩) else if c = 41 then (⟨#[119,108]⟩,⟨#[]⟩) else (⟨#[]⟩,⟨#[]⟩)
theorem Mp (c : Int) (w : World) : Calls Tryz.prog 143 #[.int .u8 c] w fun e w' => e = .returned (.int .i8 (tX c)) ∧ w' = w:=by
 go_enter Tryz.func143,Tryz.ntmps143
 go_wp2
 all_goals (go_ret; exact ⟨by unfold tX; simp_all,rfl⟩)
theorem MN (c : Int) (w : World) : Calls Tryz.prog 144 #[.int .u8 c] w fun e w' => e = .returned (.bool (vz c)) ∧ w' = w:=by
 go_enter Tryz.func144,Tryz.ntmps144
 go_wp2
 all_goals (go_ret; refine ⟨?_,rfl⟩; unfold vz; simp_all)
theorem NW (k : Int) (s : ByteArray) (w : World) (hs : s.size ≤ 1099511627776) : Calls Tryz.prog 211 #[.int .u8 k,.string s] w fun e w' => e = .returned (.tuple #[.string (AQ k s).1,.string (AQ k s).2]) ∧ w' = w:=by
 have hax : ¬ (s.size + s.size > 9223372036854775807):=ae
 go_enter Tryz.func211,Tryz.ntmps211
 go_wp2
 all_goals (go_ret2; refine ⟨?_,rfl⟩; unfold AQ; simp_all)
 all_goals (repeat rw [if_neg ae])
 all_goals exact ⟨rfl,rfl⟩
theorem Kn (c : Int) (w : World) (h0 : 0 ≤ c) (h1 : c ≤ 255) : Calls Tryz.prog 141 #[.int .u8 c] w fun e w' => e = .returned (.tuple #[.string (qK c).1,.string (qK c).2]) ∧ w' = w:=by
 by_cases ha : 48 ≤ c ∧ c ≤ 72
 ·rw [show qK c = AQ (c - 48) ⟨#[119]⟩ by unfold qK; rw [if_pos ha]]
  obtain ⟨ha1,ha2⟩:=ha
  go_enter Tryz.func141,Tryz.ntmps141
  go_wp2_with fail;refine (NW (c - 48) ⟨#[119]⟩ w aH).mono ?_;rintro e w' ⟨rfl,rfl⟩;go_wp2;go_ret2;exact ⟨rfl,rfl⟩
 ·by_cases hb : 80 ≤ c ∧ c ≤ 104
  ·rw [show qK c = AQ (c - 80) ⟨#[108]⟩ by unfold qK; rw [if_neg ha,if_pos hb]]
   obtain ⟨hb1,hb2⟩:=hb;have hx : ¬ c ≤ 72:=ae
   go_enter Tryz.func141,Tryz.ntmps141
   go_wp2_with fail;refine (NW (c - 80) ⟨#[108]⟩ w aH).mono ?_;rintro e w' ⟨rfl,rfl⟩;go_wp2;go_ret2;exact ⟨rfl,rfl⟩
  ·unfold qK;rw [if_neg ha,if_neg hb]
   go_enter Tryz.func141,Tryz.ntmps141
   go_wp2_with fail
   all_goals (go_ret2; first | exact ⟨rfl,rfl⟩ | (refine ⟨?_,rfl⟩; simp_all))
theorem gp {ops : Array Oper} {Q : Exit → Act → World → Prop} {o : Oper} {rest : List Oper} {a : Act} {w w' : World} {v : Value} (hg : o.guard = none) (he : (execOp a.eval o).run Tryz.prog w = .ok (.value v) w')
  (h : wpList Tryz.prog ops Q rest (a.put o.dst v) w') : wpList Tryz.prog ops Q (o :: rest) a w :=
 wpList_plain hg fun K hK => by simp only [Oper.wp,he,Oper.upon_value]; exact hK _ _ h
theorem step_skip {ops : Array Oper} {Q : Exit → Act → World → Prop} {o : Oper} {rest : List Oper} {a : Act} {w w' : World} (hg : o.guard = none) (he : (execOp a.eval o).run Tryz.prog w = .ok .skip w')
  (h : wpList Tryz.prog ops Q rest (a.put o.dst undef) w') : wpList Tryz.prog ops Q (o :: rest) a w :=
 wpList_plain hg fun K hK => by simp only [Oper.wp,he,Oper.upon_skip]; exact hK _ _ h
theorem FV {id s s' : Nat} {k c : Int} {pos pos' : String} {af : Array Edge} {x y : Code} {Q : Exit → Act → World → Prop} {ts : Array Value} {w : World}
  (h4 : ts[4]?.getD undef = .int .u8 c) (hz : s < ts.size) (hz' : s' < ts.size)
  (hx : c = k → x.wp Tryz.prog Q ⟨(ts.setIfInBounds s' (.bool (c == k))).setIfInBounds s (.bool (c == k)),[]⟩ w)
  (hy : c ≠ k → y.wp Tryz.prog Q ⟨(ts.setIfInBounds s' (.bool (c == k))).setIfInBounds s (.bool (c == k)),[]⟩ w) :
  ((Code.region id #[{dst:=some s',op:=.binOp .eql 5 (.tmp 4) (.const (.int .u8 k)) 5,type:=4,pos:=pos,after:=#[],guard:=none},{dst:=some s,op:=.assign (.tmp s'),type:=4,pos:=pos',after:=af,guard:=none}] false).seq (Code.cond (.tmp s) x y)).wp Tryz.prog Q ⟨ts,[]⟩ w:=by
 refine wp_seq (wp_region_lit ?_)
 refine wpList_plain rfl fun K hK => ?_
 have e1 : (execOp ({ tmps:=ts,defers:=[] } : Act).eval { dst:=some s',op:=Op.binOp BinOp.eql 5 (Operand.tmp 4) (Operand.const (Value.int IntKind.u8 k)) 5,type:=4,pos:=pos,after:=#[],guard:=none }).run Tryz.prog w = .ok (.value (.bool (c == k))) w:=by
  simp [go_sem,h4]
 simp only [Oper.wp,e1,Oper.upon_value]
 refine hK _ _ (wpList_plain rfl fun K' hK' => ?_)
 have e3 : (execOp ({ tmps:=ts.setIfInBounds s' (.bool (c == k)),defers:=[] } : Act).eval { dst:=some s,op:=Op.assign (Operand.tmp s'),type:=4,pos:=pos',after:=af,guard:=none }).run Tryz.prog w = .ok (.value (.bool (c == k))) w:=by
  simp [go_sem,hz']
 show Oper.upon _ _ _ _ _ (Sem.run Tryz.prog (execOp ({ tmps:=ts.setIfInBounds s' (.bool (c == k)),defers:=[] } : Act).eval _) w)
 rw [e3,Oper.upon_value];refine hK' _ _ ?_
 have e5 : ({ tmps:=(ts.setIfInBounds s' (.bool (c == k))).setIfInBounds s (.bool (c == k)),defers:=[] } : Act).eval (.tmp s) = .bool (c == k):=by
  show ((ts.setIfInBounds s' (.bool (c == k))).setIfInBounds s (.bool (c == k))).getD s undef = _
  simp [hz]
 refine wpList_nil (wp_cond_split e5 (fun h => hx jZ) (fun h => hy jZ))
def cY (k : Int) (wd : ByteArray) (tk : Int) (pp ps : ByteArray) (pl : Bool) : Array Value:=#[.int .u8 k,.string wd,.int .i8 tk,.string pp,.string ps,.bool pl]
set_option maxRecDepth 10000 in
theorem GD {id s : Nat} {k tk : Int} {wd pp ps : ByteArray} {pl : Bool} {p1 p2 p3 : String} {a2 a3 : Array Edge} {Q : Exit → Act → World → Prop} {ts : Array Value} {w : World}
  (h2 : ts[2]?.getD undef = .pointer (some ⟨w.heap.size,0,none⟩)) (hz : s < ts.size) (hs : 4 < s)
  (hq : Q .ret ⟨(ts.setIfInBounds s (.agg (cY k wd tk pp ps pl))).setIfInBounds 3 (.bool true),[]⟩ (w.alloc (.cells (cY k wd tk pp ps pl) 74))) :
  ((Code.region id #[{dst:=some s,op:=.build 74 #[(0,.const (.int .u8 k)),(1,.const (.string wd)),(2,.const (.int .i8 tk)),(3,.const (.string pp)),(4,.const (.string ps)),(5,.const (.bool pl))],type:=74,pos:=p1,after:=#[],guard:=none},
   {dst:=none,op:=.store 74 (.tmp 2) (.tmp s),type:=0,pos:=p2,after:=a2,guard:=none},{dst:=some 3,op:=.assign (.const (.bool true)),type:=4,pos:=p3,after:=a3,guard:=none}] false).seq .ret).wp Tryz.prog Q ⟨ts,[]⟩ (w.alloc (.cells (cY 0 ⟨#[]⟩ 0 ⟨#[]⟩ ⟨#[]⟩ false) 74)):=by
 refine wp_seq (wp_region_lit ?_)
 refine wpList_plain rfl fun K hK => ?_
 have e1 : (execOp ({ tmps:=ts,defers:=[] } : Act).eval { dst:=some s,op:=.build 74 #[(0,.const (.int .u8 k)),(1,.const (.string wd)),(2,.const (.int .i8 tk)),(3,.const (.string pp)),(4,.const (.string ps)),(5,.const (.bool pl))],type:=74,pos:=p1,after:=#[],guard:=none }).run Tryz.prog (w.alloc (.cells (cY 0 ⟨#[]⟩ 0 ⟨#[]⟩ ⟨#[]⟩ false) 74)) = .ok (.value (.agg (cY k wd tk pp ps pl))) (w.alloc (.cells (cY 0 ⟨#[]⟩ 0 ⟨#[]⟩ ⟨#[]⟩ false) 74)):=by
  simp [go_sem,cY]
 simp only [Oper.wp,e1,Oper.upon_value]
 refine hK _ _ (wpList_plain rfl fun K' hK' => ?_)
 have e2 : (execOp ({ tmps:=ts.setIfInBounds s (.agg (cY k wd tk pp ps pl)),defers:=[] } : Act).eval { dst:=none,op:=.store 74 (.tmp 2) (.tmp s),type:=0,pos:=p2,after:=a2,guard:=none }).run Tryz.prog (w.alloc (.cells (cY 0 ⟨#[]⟩ 0 ⟨#[]⟩ ⟨#[]⟩ false) 74)) = .ok .skip (w.alloc (.cells (cY k wd tk pp ps pl) 74)):=by
  have g2 : (ts.setIfInBounds s (.agg (cY k wd tk pp ps pl)))[2]?.getD undef = .pointer (some ⟨w.heap.size,0,none⟩):=by
   rw [Array.getElem?_setIfInBounds_ne ae]; exact h2
  simp only [cY] at g2 ⊢
  simp [go_sem,g2,hz]
 show Oper.upon _ _ _ _ _ (Sem.run Tryz.prog (execOp ({ tmps:=ts.setIfInBounds s (.agg (cY k wd tk pp ps pl)),defers:=[] } : Act).eval _) _)
 rw [e2,Oper.upon_skip]
 refine hK' _ _ (wpList_plain rfl fun K2 hK2 => ?_)
 have e3 : (execOp ({ tmps:=ts.setIfInBounds s (.agg (cY k wd tk pp ps pl)),defers:=[] } : Act).eval { dst:=some 3,op:=.assign (.const (.bool true)),type:=4,pos:=p3,after:=a3,guard:=none }).run Tryz.prog (w.alloc (.cells (cY k wd tk pp ps pl) 74)) = .ok (.value (.bool true)) (w.alloc (.cells (cY k wd tk pp ps pl) 74)):=by
  simp [go_sem]
 show Oper.upon _ _ _ _ _ (Sem.run Tryz.prog (execOp ({ tmps:=ts.setIfInBounds s (.agg (cY k wd tk pp ps pl)),defers:=[] } : Act).eval _) _)
 rw [e3,Oper.upon_value];exact hK2 _ _ (wpList_nil (wp_ret hq))
abbrev aF:=Int × ByteArray × Int × ByteArray × ByteArray × Bool
def gZ : List aF → Int → Array Value × Bool
 | [],_ => (cY 0 ⟨#[]⟩ 0 ⟨#[]⟩ ⟨#[]⟩ false,false)
 | x :: r,c => if c = x.1 then (cY x.1 x.2.1 x.2.2.1 x.2.2.2.1 x.2.2.2.2.1 x.2.2.2.2.2,true) else gZ r c
def ql : List aF:=[
 ((0,⟨#[116,114,97,112]⟩,0,⟨#[]⟩,⟨#[]⟩,false) : aF),
 ((1,⟨#[110,111,112]⟩,0,⟨#[]⟩,⟨#[]⟩,true) : aF),
 ((2,⟨#[98,108,111,99,107]⟩,1,⟨#[]⟩,⟨#[]⟩,false) : aF),
 ((3,⟨#[108,111,111,112]⟩,1,⟨#[]⟩,⟨#[]⟩,false) : aF),
 ((4,⟨#[105,102]⟩,1,⟨#[]⟩,⟨#[]⟩,false) : aF),
 ((5,⟨#[101,108,115,101]⟩,0,⟨#[]⟩,⟨#[]⟩,false) : aF),
 ((6,⟨#[101,110,100]⟩,0,⟨#[]⟩,⟨#[]⟩,false) : aF),
 ((7,⟨#[98,114]⟩,2,⟨#[]⟩,⟨#[]⟩,false) : aF),
 ((8,⟨#[98,114,105,102]⟩,2,⟨#[]⟩,⟨#[]⟩,false) : aF),
 ((9,⟨#[98,114,116,97,98,108,101]⟩,3,⟨#[]⟩,⟨#[]⟩,false) : aF),
 ((10,⟨#[114,101,116,117,114,110]⟩,0,⟨#[]⟩,⟨#[]⟩,false) : aF),
 ((11,⟨#[99,97,108,108]⟩,4,⟨#[]⟩,⟨#[]⟩,false) : aF),
 ((12,⟨#[104,111,115,116]⟩,5,⟨#[]⟩,⟨#[]⟩,false) : aF),
 ((16,⟨#[100,114,111,112]⟩,0,⟨#[]⟩,⟨#[]⟩,false) : aF),
 ((17,⟨#[115,101,108,101,99,116]⟩,0,⟨#[]⟩,⟨#[]⟩,false) : aF),
 ((18,⟨#[103,101,116]⟩,6,⟨#[]⟩,⟨#[]⟩,false) : aF),
 ((19,⟨#[115,101,116]⟩,6,⟨#[]⟩,⟨#[]⟩,false) : aF),
 ((20,⟨#[116,101,101]⟩,6,⟨#[]⟩,⟨#[]⟩,false) : aF),
 ((21,⟨#[103,103,101,116]⟩,7,⟨#[]⟩,⟨#[]⟩,false) : aF),
 ((22,⟨#[103,115,101,116]⟩,7,⟨#[]⟩,⟨#[]⟩,false) : aF),
 ((24,⟨#[119,46,99,111,110,115,116]⟩,8,⟨#[]⟩,⟨#[119]⟩,true) : aF),
 ((25,⟨#[108,46,99,111,110,115,116]⟩,8,⟨#[]⟩,⟨#[108]⟩,true) : aF),
 ((32,⟨#[119,46,108,111,97,100,56,117]⟩,9,⟨#[119]⟩,⟨#[119]⟩,true) : aF),
 ((33,⟨#[119,46,108,111,97,100,56,115]⟩,9,⟨#[119]⟩,⟨#[119]⟩,true) : aF),
 ((34,⟨#[119,46,108,111,97,100,49,54,117]⟩,9,⟨#[119]⟩,⟨#[119]⟩,true) : aF),
 ((35,⟨#[119,46,108,111,97,100,49,54,115]⟩,9,⟨#[119]⟩,⟨#[119]⟩,true) : aF),
 ((36,⟨#[119,46,108,111,97,100]⟩,9,⟨#[119]⟩,⟨#[119]⟩,true) : aF),
 ((37,⟨#[108,46,108,111,97,100]⟩,9,⟨#[119]⟩,⟨#[108]⟩,true) : aF),
 ((38,⟨#[119,46,115,116,111,114,101,56]⟩,9,⟨#[119,119]⟩,⟨#[]⟩,true) : aF),
 ((39,⟨#[119,46,115,116,111,114,101,49,54]⟩,9,⟨#[119,119]⟩,⟨#[]⟩,true) : aF),
 ((40,⟨#[119,46,115,116,111,114,101]⟩,9,⟨#[119,119]⟩,⟨#[]⟩,true) : aF),
 ((41,⟨#[108,46,115,116,111,114,101]⟩,9,⟨#[119,108]⟩,⟨#[]⟩,true) : aF),
 ((42,⟨#[115,105,122,101]⟩,0,⟨#[]⟩,⟨#[119]⟩,true) : aF),
 ((43,⟨#[103,114,111,119]⟩,0,⟨#[119]⟩,⟨#[119]⟩,true) : aF),
 ((48,⟨#[119,46,101,113,122]⟩,0,⟨#[119]⟩,⟨#[119]⟩,true) : aF),
 ((49,⟨#[119,46,101,113]⟩,0,⟨#[119,119]⟩,⟨#[119]⟩,true) : aF),
 ((50,⟨#[119,46,110,101]⟩,0,⟨#[119,119]⟩,⟨#[119]⟩,true) : aF),
 ((51,⟨#[119,46,108,116,115]⟩,0,⟨#[119,119]⟩,⟨#[119]⟩,true) : aF),
 ((52,⟨#[119,46,108,116,117]⟩,0,⟨#[119,119]⟩,⟨#[119]⟩,true) : aF),
 ((53,⟨#[119,46,108,101,115]⟩,0,⟨#[119,119]⟩,⟨#[119]⟩,true) : aF),
 ((54,⟨#[119,46,108,101,117]⟩,0,⟨#[119,119]⟩,⟨#[119]⟩,true) : aF),
 ((55,⟨#[119,46,99,108,122]⟩,0,⟨#[119]⟩,⟨#[119]⟩,true) : aF),
 ((56,⟨#[119,46,99,116,122]⟩,0,⟨#[119]⟩,⟨#[119]⟩,true) : aF),
 ((57,⟨#[119,46,112,111,112]⟩,0,⟨#[119]⟩,⟨#[119]⟩,true) : aF),
 ((58,⟨#[119,46,97,100,100]⟩,0,⟨#[119,119]⟩,⟨#[119]⟩,true) : aF),
 ((59,⟨#[119,46,115,117,98]⟩,0,⟨#[119,119]⟩,⟨#[119]⟩,true) : aF),
 ((60,⟨#[119,46,109,117,108]⟩,0,⟨#[119,119]⟩,⟨#[119]⟩,true) : aF),
 ((61,⟨#[119,46,100,105,118,115]⟩,0,⟨#[119,119]⟩,⟨#[119]⟩,true) : aF),
 ((62,⟨#[119,46,100,105,118,117]⟩,0,⟨#[119,119]⟩,⟨#[119]⟩,true) : aF),
 ((63,⟨#[119,46,114,101,109,115]⟩,0,⟨#[119,119]⟩,⟨#[119]⟩,true) : aF),
 ((64,⟨#[119,46,114,101,109,117]⟩,0,⟨#[119,119]⟩,⟨#[119]⟩,true) : aF),
 ((65,⟨#[119,46,97,110,100]⟩,0,⟨#[119,119]⟩,⟨#[119]⟩,true) : aF),
 ((66,⟨#[119,46,111,114]⟩,0,⟨#[119,119]⟩,⟨#[119]⟩,true) : aF),
 ((67,⟨#[119,46,120,111,114]⟩,0,⟨#[119,119]⟩,⟨#[119]⟩,true) : aF),
 ((68,⟨#[119,46,115,104,108]⟩,0,⟨#[119,119]⟩,⟨#[119]⟩,true) : aF),
 ((69,⟨#[119,46,115,104,114,115]⟩,0,⟨#[119,119]⟩,⟨#[119]⟩,true) : aF),
 ((70,⟨#[119,46,115,104,114,117]⟩,0,⟨#[119,119]⟩,⟨#[119]⟩,true) : aF),
 ((71,⟨#[119,46,114,111,116,108]⟩,0,⟨#[119,119]⟩,⟨#[119]⟩,true) : aF),
 ((72,⟨#[119,46,114,111,116,114]⟩,0,⟨#[119,119]⟩,⟨#[119]⟩,true) : aF),
 ((80,⟨#[108,46,101,113,122]⟩,0,⟨#[108]⟩,⟨#[119]⟩,true) : aF),
 ((81,⟨#[108,46,101,113]⟩,0,⟨#[108,108]⟩,⟨#[119]⟩,true) : aF),
 ((82,⟨#[108,46,110,101]⟩,0,⟨#[108,108]⟩,⟨#[119]⟩,true) : aF),
 ((83,⟨#[108,46,108,116,115]⟩,0,⟨#[108,108]⟩,⟨#[119]⟩,true) : aF),
 ((84,⟨#[108,46,108,116,117]⟩,0,⟨#[108,108]⟩,⟨#[119]⟩,true) : aF),
 ((85,⟨#[108,46,108,101,115]⟩,0,⟨#[108,108]⟩,⟨#[119]⟩,true) : aF),
 ((86,⟨#[108,46,108,101,117]⟩,0,⟨#[108,108]⟩,⟨#[119]⟩,true) : aF),
 ((87,⟨#[108,46,99,108,122]⟩,0,⟨#[108]⟩,⟨#[108]⟩,true) : aF),
 ((88,⟨#[108,46,99,116,122]⟩,0,⟨#[108]⟩,⟨#[108]⟩,true) : aF),
 ((89,⟨#[108,46,112,111,112]⟩,0,⟨#[108]⟩,⟨#[108]⟩,true) : aF),
 ((90,⟨#[108,46,97,100,100]⟩,0,⟨#[108,108]⟩,⟨#[108]⟩,true) : aF),
 ((91,⟨#[108,46,115,117,98]⟩,0,⟨#[108,108]⟩,⟨#[108]⟩,true) : aF),
 ((92,⟨#[108,46,109,117,108]⟩,0,⟨#[108,108]⟩,⟨#[108]⟩,true) : aF),
 ((93,⟨#[108,46,100,105,118,115]⟩,0,⟨#[108,108]⟩,⟨#[108]⟩,true) : aF),
 ((94,⟨#[108,46,100,105,118,117]⟩,0,⟨#[108,108]⟩,⟨#[108]⟩,true) : aF),
 ((95,⟨#[108,46,114,101,109,115]⟩,0,⟨#[108,108]⟩,⟨#[108]⟩,true) : aF),
 ((96,⟨#[108,46,114,101,109,117]⟩,0,⟨#[108,108]⟩,⟨#[108]⟩,true) : aF),
 ((97,⟨#[108,46,97,110,100]⟩,0,⟨#[108,108]⟩,⟨#[108]⟩,true) : aF),
 ((98,⟨#[108,46,111,114]⟩,0,⟨#[108,108]⟩,⟨#[108]⟩,true) : aF),
 ((99,⟨#[108,46,120,111,114]⟩,0,⟨#[108,108]⟩,⟨#[108]⟩,true) : aF),
 ((100,⟨#[108,46,115,104,108]⟩,0,⟨#[108,108]⟩,⟨#[108]⟩,true) : aF),
 ((101,⟨#[108,46,115,104,114,115]⟩,0,⟨#[108,108]⟩,⟨#[108]⟩,true) : aF),
 ((102,⟨#[108,46,115,104,114,117]⟩,0,⟨#[108,108]⟩,⟨#[108]⟩,true) : aF),
 ((103,⟨#[108,46,114,111,116,108]⟩,0,⟨#[108,108]⟩,⟨#[108]⟩,true) : aF),
 ((104,⟨#[108,46,114,111,116,114]⟩,0,⟨#[108,108]⟩,⟨#[108]⟩,true) : aF),
 ((112,⟨#[119,46,119,114,97,112]⟩,0,⟨#[108]⟩,⟨#[119]⟩,true) : aF),
 ((113,⟨#[108,46,101,120,116,101,110,100,115]⟩,0,⟨#[119]⟩,⟨#[108]⟩,true) : aF),
 ((114,⟨#[108,46,101,120,116,101,110,100,117]⟩,0,⟨#[119]⟩,⟨#[108]⟩,true) : aF),
 ((115,⟨#[119,46,101,120,116,56]⟩,0,⟨#[119]⟩,⟨#[119]⟩,true) : aF),
 ((116,⟨#[119,46,101,120,116,49,54]⟩,0,⟨#[119]⟩,⟨#[119]⟩,true) : aF),
 ((117,⟨#[108,46,101,120,116,51,50]⟩,0,⟨#[108]⟩,⟨#[108]⟩,true) : aF)]
def Fr (c : Int) (b : Nat) (ts : Array Value) : Prop:=ts.size = 276 ∧ ts[2]?.getD undef = .pointer (some ⟨b,0,none⟩) ∧ ts[4]?.getD undef = .int .u8 c
theorem Fr.put {c : Int} {b : Nat} {ts : Array Value} (h : Fr c b ts) {s : Nat} (hs : 4 < s) (v : Value) : Fr c b (ts.setIfInBounds s v):=by
 refine ⟨by simpa using h.1,?_,?_⟩
 ·rw [Array.getElem?_setIfInBounds_ne ae]; exact h.2.1
 ·rw [Array.getElem?_setIfInBounds_ne ae]; exact h.2.2
def uO (w : World) (V : Array Value × Bool) : Ending → World → Prop:=fun e w' => e = .returned (.tuple #[.agg V.1,.bool V.2]) ∧ w' = w.alloc (.cells V.1 74)
theorem yt {w : World} {V : Array Value × Bool} {k tk : Int} {wd pp ps : ByteArray} {pl ok : Bool} {ts : Array Value} (hV : (cY k wd tk pp ps pl,ok) = V)
  (h2 : ts[2]?.getD undef = .pointer (some ⟨w.heap.size,0,none⟩)) (h3 : ts[3]?.getD undef = .bool ok) : bodyPost Tryz.prog Tryz.f32 (uO w V) .ret ⟨ts,[]⟩ (w.alloc (.cells (cY k wd tk pp ps pl) 74)):=by
 subst hV;refine bodyPost_ret (v:=.tuple #[.agg (cY k wd tk pp ps pl),.bool ok]) ?_ rfl ⟨rfl,rfl⟩;rw [results_cell_tmp rfl]
 simp only [cY]
 simp [go_sem,h2,h3]
theorem link {id id' s s' s2 : Nat} {c : Int} {x : aF} {r : List aF} {V : Array Value × Bool} {pos pos' p1 p2 p3 : String} {af a2 a3 : Array Edge} {y : Code} {Q : Exit → Act → World → Prop} {ts : Array Value} {w : World}
  (hQ : ∀ a w',bodyPost Tryz.prog Tryz.f32 (uO w V) .ret a w' → Q .ret a w') (ht : Fr c w.heap.size ts) (hV : gZ (x :: r) c = V) (l1 : 4 < s ∧ s < 276) (l2 : 4 < s' ∧ s' < 276) (l3 : 4 < s2 ∧ s2 < 276)
  (next : gZ r c = V → ∀ ts',Fr c w.heap.size ts' → y.wp Tryz.prog Q ⟨ts',[]⟩ (w.alloc (.cells (cY 0 ⟨#[]⟩ 0 ⟨#[]⟩ ⟨#[]⟩ false) 74))) :
  ((Code.region id #[{dst:=some s',op:=.binOp .eql 5 (.tmp 4) (.const (.int .u8 x.1)) 5,type:=4,pos:=pos,after:=#[],guard:=none},{dst:=some s,op:=.assign (.tmp s'),type:=4,pos:=pos',after:=af,guard:=none}] false).seq (Code.cond (.tmp s)
   ((Code.region id' #[{dst:=some s2,op:=.build 74 #[(0,.const (.int .u8 x.1)),(1,.const (.string x.2.1)),(2,.const (.int .i8 x.2.2.1)),(3,.const (.string x.2.2.2.1)),(4,.const (.string x.2.2.2.2.1)),(5,.const (.bool x.2.2.2.2.2))],type:=74,pos:=p1,after:=#[],guard:=none},
   {dst:=none,op:=.store 74 (.tmp 2) (.tmp s2),type:=0,pos:=p2,after:=a2,guard:=none},{dst:=some 3,op:=.assign (.const (.bool true)),type:=4,pos:=p3,after:=a3,guard:=none}] false).seq .ret) y)).wp Tryz.prog Q ⟨ts,[]⟩ (w.alloc (.cells (cY 0 ⟨#[]⟩ 0 ⟨#[]⟩ ⟨#[]⟩ false) 74)):=by
 have hts:=(ht.put l2.1 (.bool (c == x.1))).put l1.1 (.bool (c == x.1))
 refine FV ht.2.2 (by rw [ht.1]; exact l1.2) (by rw [ht.1]; exact l2.2) (fun h => ?_) (fun h => next (by rw [gZ,if_neg h] at hV; exact hV) _ hts)
 refine GD hts.2.1 (by rw [hts.1]; exact l3.2) l3.1 (hQ _ _ (yt (by rw [gZ,if_pos h] at hV; exact hV) ?_ ?_))
 ·rw [Array.getElem?_setIfInBounds_ne ae];exact (hts.put l3.1 _).2.1
 ·rw [Array.getElem?_setIfInBounds_self_of_lt (by simp; have:=hts.1; simp at this; omega)]
  rfl
theorem RZ (c : Int) (w : World) : Calls Tryz.prog 32 #[.int .u8 c] w (uO w (gZ ql c)):=by
 obtain ⟨V,hV⟩ : ∃ V,gZ ql c = V:=⟨_,rfl⟩;rw [hV];refine calls_of_wp Tryz.func32 rfl ?_;obtain ⟨ts,hts⟩ : ∃ ts : Array Value,(#[.int .u8 c] : Array Value) ++ Array.replicate (Tryz.f32.ntmps - (#[.int .u8 c] : Array Value).size) undef = ts:=⟨_,rfl⟩
 have z0 : ts.size = 276:=by rw [← hts]; simp [Tryz.ntmps32]
 have t0 : ts[0]?.getD undef = .int .u8 c:=by rw [← hts]; simp
 rw [hts];clear hts;refine wp_seq (wp_region_lit ?_)
 refine gp rfl (v:=.pointer (some ⟨w.heap.size,0,none⟩)) (w':=w.alloc (.cells (cY 0 ⟨#[]⟩ 0 ⟨#[]⟩ ⟨#[]⟩ false) 74)) (by simp only [cY]; simp [go_sem]) ?_
 refine gp rfl (v:=.bool false) (w':=w.alloc (.cells (cY 0 ⟨#[]⟩ 0 ⟨#[]⟩ ⟨#[]⟩ false) 74)) cP ?_;refine wpList_nil (wp_seq (wp_seq (wp_region_lit ?_)))
 refine gp rfl (v:=.int .u8 c) (w':=w.alloc (.cells (cY 0 ⟨#[]⟩ 0 ⟨#[]⟩ ⟨#[]⟩ false) 74)) (by simp [go_sem,Act.put,t0]) ?_
 refine wpList_nil (wp_block ?_)
 have hts : Fr c w.heap.size (((ts.setIfInBounds 2 (.pointer (some ⟨w.heap.size,0,none⟩))).setIfInBounds 3 (.bool false)).setIfInBounds 4 (.int .u8 c)):=by
  refine ⟨wC,?_,?_⟩
  ·rw [Array.getElem?_setIfInBounds_ne ae,Array.getElem?_setIfInBounds_ne ae,Array.getElem?_setIfInBounds_self_of_lt ae]; rfl
  ·rw [Array.getElem?_setIfInBounds_self_of_lt aG]; rfl
 show Code.wp _ _ _ ⟨((ts.setIfInBounds 2 (.pointer (some ⟨w.heap.size,0,none⟩))).setIfInBounds 3 (.bool false)).setIfInBounds 4 (.int .u8 c),[]⟩ _
 generalize ((ts.setIfInBounds 2 (.pointer (some ⟨w.heap.size,0,none⟩))).setIfInBounds 3 (.bool false)).setIfInBounds 4 (.int .u8 c) = ts1 at hts ⊢;clear z0 t0;clear ts;unfold ql at hV
 iterate 90
  refine link ?_ hts hV ?_ ?_ ?_ ?_
  ·exact fun _ _ h => h
  ·decide
  ·decide
  ·decide
  clear hV hts;intro hV ts hts
 refine wp_skip ?_
 show Code.wp _ _ _ _ _
 refine wp_seq (wp_region_lit ?_)
 have h275 : (275 : Nat) < ts.size:=by rw [hts.1]; decide
 refine gp rfl (v:=.agg (cY 0 ⟨#[]⟩ 0 ⟨#[]⟩ ⟨#[]⟩ false)) (w':=w.alloc (.cells (cY 0 ⟨#[]⟩ 0 ⟨#[]⟩ ⟨#[]⟩ false) 74)) (by simp only [cY]; simp [go_sem]) ?_
 have g2 : (ts.setIfInBounds 275 (.agg (cY 0 ⟨#[]⟩ 0 ⟨#[]⟩ ⟨#[]⟩ false)))[2]?.getD undef = .pointer (some ⟨w.heap.size,0,none⟩):=(hts.put aH _).2.1
 refine step_skip rfl (w':=w.alloc (.cells (cY 0 ⟨#[]⟩ 0 ⟨#[]⟩ ⟨#[]⟩ false) 74)) (by simp only [cY]; simp [go_sem,Act.put,h275,hts.2.1]) ?_
 refine gp rfl (v:=.bool false) (w':=w.alloc (.cells (cY 0 ⟨#[]⟩ 0 ⟨#[]⟩ ⟨#[]⟩ false) 74)) cP ?_;refine wpList_nil (wp_ret (yt hV ?_ ?_))
 ·show ((ts.setIfInBounds 275 _).setIfInBounds 3 _)[2]?.getD undef = _
  rw [Array.getElem?_setIfInBounds_ne ae];exact g2
 ·show ((ts.setIfInBounds 275 _).setIfInBounds 3 _)[3]?.getD undef = _
  rw [Array.getElem?_setIfInBounds_self_of_lt aG];rfl
def iB : aF:=(0,⟨#[]⟩,0,⟨#[]⟩,⟨#[]⟩,false)
def rv (x : aF) : Array Value:=cY x.1 x.2.1 x.2.2.1 x.2.2.2.1 x.2.2.2.2.1 x.2.2.2.2.2
def rowAt (b : Nat) (x : aF) : List (Addr × Value):=[(⟨b,0,none⟩,.int .u8 x.1),(⟨b,1,none⟩,.string x.2.1),(⟨b,2,none⟩,.int .i8 x.2.2.1),(⟨b,3,none⟩,.string x.2.2.2.1),(⟨b,4,none⟩,.string x.2.2.2.2.1),(⟨b,5,none⟩,.bool x.2.2.2.2.2)]
theorem iD {b : Nat} {x : aF} {W : World} (h : Holds (rowAt b x) W) :
  (W.cell? ⟨b,0,none⟩ = some (.int .u8 x.1) ∧ W.cell? ⟨b,1,none⟩ = some (.string x.2.1) ∧ W.cell? ⟨b,2,none⟩ = some (.int .i8 x.2.2.1) ∧ W.cell? ⟨b,3,none⟩ = some (.string x.2.2.2.1) ∧ W.cell? ⟨b,4,none⟩ = some (.string x.2.2.2.2.1) ∧ W.cell? ⟨b,5,none⟩ = some (.bool x.2.2.2.2.2)) ∧
  (W.frozen? ⟨b,0,none⟩ = false ∧ W.frozen? ⟨b,1,none⟩ = false ∧ W.frozen? ⟨b,2,none⟩ = false ∧ W.frozen? ⟨b,3,none⟩ = false ∧ W.frozen? ⟨b,4,none⟩ = false ∧ W.frozen? ⟨b,5,none⟩ = false):=by
 unfold rowAt at h;exact ⟨⟨(h (⟨b,0,none⟩,_) ak).1,(h (⟨b,1,none⟩,_) ak).1,(h (⟨b,2,none⟩,_) ak).1,(h (⟨b,3,none⟩,_) ak).1,(h (⟨b,4,none⟩,_) ak).1,(h (⟨b,5,none⟩,_) ak).1⟩,
  (h _ (List.mem_cons_self ..)).2,(h (⟨b,1,none⟩,.string x.2.1) ak).2,(h (⟨b,2,none⟩,.int .i8 x.2.2.1) ak).2,(h (⟨b,3,none⟩,.string x.2.2.2.1) ak).2,(h (⟨b,4,none⟩,.string x.2.2.2.2.1) ak).2,(h (⟨b,5,none⟩,.bool x.2.2.2.2.2) ak).2⟩
theorem Holds.later {cs : List (Addr × Value)} {n : Nat} {A B : World} (h : Holds cs A) (hb : Below n A B) (hn : ∀ p ∈ cs,p.1.block < n) : Holds cs B :=
 fun p hp => ⟨(hb.cell (hn p hp)).trans (h p hp).1,(hb.frozen (hn p hp)).trans (h p hp).2⟩
def J0 (i : Nat) (c : Int) : aF:=(c,ly (kF i) c (kA i) (cS (kW i)),tX c,(qK c).1,(qK c).2,vz c)
def tE : Nat → Nat → Int → aF × Bool
 | 0,_,_ => (iB,false)
 | n + 1,i,c => if kF i ≤ c ∧ c ≤ kL i then (J0 i c,true) else tE n (i + 1) c
def ofV (c : Int) : aF × Bool:=tE 7 0 c
theorem of6 (c : Int) (w : World) (hk : aW w) (h0 : 0 ≤ c) (h1 : c ≤ 255) : Calls Tryz.prog 92 #[.int .u8 c] w fun e w' => e = .returned (.tuple #[.agg (rv (ofV c).1),.bool (ofV c).2]) ∧ Below w.heap.size w w':=by
 obtain ⟨V,hV⟩ : ∃ V,ofV c = V:=⟨_,rfl⟩;rw [hV]
 go_enter Tryz.func92,Tryz.ntmps92
 refine wp_seq_k fun K1 hK1 => wp_region_lit ?_
 refine gp rfl (v:=.pointer (some ⟨w.heap.size,0,none⟩)) (w':=w.alloc (oh 0 ⟨#[]⟩ 0 ⟨#[]⟩ ⟨#[]⟩ false)) cP ?_;refine gp rfl (v:=.bool false) (w':=w.alloc (oh 0 ⟨#[]⟩ 0 ⟨#[]⟩ ⟨#[]⟩ false)) cP ?_;refine wpList_nil (hK1 _ _ ?_);clear hK1;have hb : Below w.heap.size w (w.alloc (oh 0 ⟨#[]⟩ 0 ⟨#[]⟩ ⟨#[]⟩ false)):=(Below.refl _ w).alloc (Nat.le_refl _) _
 have hc : Holds (rowAt w.heap.size iB) (w.alloc (oh 0 ⟨#[]⟩ 0 ⟨#[]⟩ ⟨#[]⟩ false)):=by
  unfold rowAt iB
  refine Holds.cons ?_ ?_ (Holds.cons ?_ ?_ (Holds.cons ?_ ?_ (Holds.cons ?_ ?_ (Holds.cons ?_ ?_ (Holds.cons ?_ ?_ (by simp [Holds])))))) <;> simp [go_sem]
 refine wp_seq_k fun K2 hK2 => wp_seq_k fun K3 hK3 => wp_region_lit ?_
 refine gp rfl (Ah (hk.later hb hk.pos) _ _ _ _ _) ?_;obtain ⟨kv,hkv⟩ : ∃ kv,qz = kv:=⟨_,rfl⟩;rw [hkv]
 have run_kind' : ∀ (w : World) (i : Nat) (hi : i < 7),(Instr.index 196 kv (.int .i64 i)).run Tryz.prog w = .ok (.agg #[.int .u8 (kF i),.int .u8 (kL i),.string (kA i),.string (kW i)]) w:=fun w i hi => hkv ▸ LK i hi
 have HK:=hid run_kind';clear run_kind' hkv;go_wp2_with fail
 go_loopw [9] (fun p wr => ∃ i : Nat,p = .int .i64 i ∧ i ≤ 7 ∧ Below w.heap.size w wr ∧ Holds (rowAt w.heap.size iB) wr ∧ tE (7 - i) i c = V) (fun p wr => 7 - (intOf p).toNat)
 case atStart => exact ⟨0,rfl,aH,hb,hc,hV⟩
 case round =>
  clear hb hc hV;obtain ⟨i,rfl,hi,hB,hR,hV⟩:=hrel
  by_cases h7 : i = 7
  ·subst h7;have hx : V = (iB,false):=hV.symm;subst hx;obtain ⟨⟨d0,d1,d2,d3,d4,d5⟩,e0,e1,e2,e3,e4,e5⟩:=iD hR;go_wp2_with fail;refine bodyPost_ret (v:=.tuple #[.agg (rv iB),.bool false]) ?_ rfl ⟨rfl,?_⟩
   ·rw [results_cell_tmp rfl];go_simp;rfl
   ·exact (((((hB.setCell (p:=⟨w.heap.size,0,none⟩) ak _).setCell (p:=⟨w.heap.size,1,none⟩) ak _).setCell (p:=⟨w.heap.size,2,none⟩) ak _).setCell (p:=⟨w.heap.size,3,none⟩) ak _).setCell (p:=⟨w.heap.size,4,none⟩) ak _).setCell (p:=⟨w.heap.size,5,none⟩) ak _
  have hlt : (i : Int) < 7:=ae;have hix:=HK.out wr i ae;obtain ⟨f0,f1,f2,f3,f4,f5⟩:=AW i ae
  have HF:=hid ((OD (kF i) (kL i) c (kA i) (kW i) · f0 f3 f4 f5))
  obtain ⟨n,hn⟩ : ∃ n,7 - i = n + 1:=⟨6 - i,ae⟩;rw [hn,tE] at hV;have hwd : (J0 i c).2.1 = ly (kF i) c (kA i) (cS (kW i)):=rfl;generalize ly (kF i) c (kA i) (cS (kW i)) = wd at HF hwd
  by_cases hin : kF i ≤ c ∧ c ≤ kL i
  ·obtain ⟨g1,g2⟩:=hin;rw [if_pos ⟨g1,g2⟩] at hV;generalize kF i = f at *;generalize kL i = l at *;generalize kA i = a at *;generalize kW i = ws at *;go_wp2_with fail;refine (Kn c _ h0 h1).mono ?_;rintro e w2 ⟨rfl,rfl⟩;go_wp2_with fail;refine (HF.out _).mono ?_;rintro e w3 ⟨rfl,hb3⟩;go_wp2_with fail;refine (Mp c w3).mono ?_;rintro e w4 ⟨rfl,rfl⟩;go_wp2_with fail;refine (MN c w4).mono ?_;rintro e w5 ⟨rfl,rfl⟩;have hwr : w.heap.size < wr.heap.size:=World.block_lt_of_cell? wr ⟨w.heap.size,0,none⟩ (iD hR).1.1
   have hR3 : Holds (rowAt w.heap.size iB) w5:=(hR.grown (World.grownBy_alloc wr _ none) (fun r e => ju)).later hb3 (by simp [rowAt]; omega)
   have hB3 : Below w.heap.size w w5:=(hB.alloc hB.size _).trans (hb3.mono aG);clear hb3 hR;obtain ⟨⟨d0,d1,d2,d3,d4,d5⟩,e0,e1,e2,e3,e4,e5⟩:=iD hR3;go_wp2_with fail;subst hV
   refine bodyPost_ret (v:=.tuple #[.agg #[.int .u8 c,.string wd,.int .i8 (tX c),.string (qK c).1,.string (qK c).2,.bool (vz c)],.bool true]) ?_ rfl ⟨by rw [← hwd]; rfl,?_⟩
   ·exact cZ
   ·exact (((((hB3.setCell (p:=⟨w.heap.size,0,none⟩) ak _).setCell (p:=⟨w.heap.size,1,none⟩) ak _).setCell (p:=⟨w.heap.size,2,none⟩) ak _).setCell (p:=⟨w.heap.size,3,none⟩) ak _).setCell (p:=⟨w.heap.size,4,none⟩) ak _).setCell (p:=⟨w.heap.size,5,none⟩) ak _
  ·rw [if_neg hin] at hV;have hwr : w.heap.size < wr.heap.size:=World.block_lt_of_cell? wr ⟨w.heap.size,0,none⟩ (iD hR).1.1
   have hR2:=hid (hR.grown (World.grownBy_alloc wr (.cells #[.int .u8 (kF i),.int .u8 (kL i),.string (kA i),.string (kW i)] 195) none) (fun r e => ju))
   have hB2:=hid (hB.alloc hB.size (.cells #[.int .u8 (kF i),.int .u8 (kL i),.string (kA i),.string (kW i)] 195));have hV2:=hid hV;clear hV hR hB;have hw : wrap64 ((i : Int) + 1) = i + 1:=dS;clear HF hwd f0 f1 f2 f3 f4 f5;generalize kF i = f at *;generalize kL i = l at *;generalize kA i = a at *;generalize kW i = ws at *
   by_cases hlow : c < f
   ·exact I0
   ·have hhigh : l < c:=ae;exact I0
def lo (t : Int) (g : Bool) : Int:=if t = 8 then (if g = true then -9223372036854775808 else -2147483648) else 0
def hi (t : Int) (g : Bool) : Int :=
 if t = 0 ∨ t = 3 then 0 else if t = 9 then 4294967295 else if t = 8 then (if g = true then 9223372036854775807 else 2147483647) else 2147483647
theorem jR (t : Int) (g : Bool) : -9223372036854775808 ≤ lo t g ∧ lo t g ≤ 0:=by
 unfold lo; split
 ·split <;> omega
 ·omega
theorem kx (t : Int) (g : Bool) : 0 ≤ hi t g ∧ hi t g ≤ 9223372036854775807 ∧ (t ≠ 8 → hi t g ≤ 4294967295 ∧ lo t g = 0):=by
 unfold hi lo
 split
 ·refine ⟨ae,ae,fun h => ?_⟩
  rw [if_neg h]; omega
 ·split
  ·refine ⟨ae,ae,fun h => ?_⟩
   rw [if_neg h]; omega
  ·split
   ·refine ⟨by split <;> omega,by split <;> omega,fun h => ae⟩
   ·refine ⟨ae,ae,fun h => ?_⟩
    omega
def okL : List Int → Prop
 | [] => True
 | z :: l => (0 ≤ z ∧ z ≤ 2147483647) ∧ okL l
instance decOkL : (l : List Int) → Decidable (okL l)
 | [] => .isTrue trivial
 | z :: l => match decOkL l with
  | .isTrue h => if hz : 0 ≤ z ∧ z ≤ 2147483647 then .isTrue ⟨hz,h⟩ else .isFalse fun x => hz x.1
  | .isFalse h => .isFalse fun x => h x.2
theorem ul : ∀ (l : List Int),okL l ↔ ∀ z ∈ l,0 ≤ z ∧ z ≤ 2147483647
 | [] => by simp [okL]
 | z :: l => by simp [okL,ul l]
def chk (t : Int) (g : Bool) (a : Int) (l : List Int) : Int :=
 if t = -1 then 21
 else if a < lo t g ∨ hi t g < a then 17
 else if t = 3 then (if l.length < 1 ∨ 16 < l.length then 17 else if okL l then 0 else 17)
 else if l.length = 0 then 0 else 17
def dh : List Int → List Int
 | [] => []
 | z :: l => au z ++ dh l
def xt (t a : Int) (l : List Int) : List Int :=
 if t = 0 then [] else if t = 8 then au (fo a) else if t = 3 then au l.length ++ dh l else au a
theorem mW : ∀ (l : List Int),(dh l).length ≤ 10 * l.length
 | [] => by simp [dh]
 | z :: l => by
  have:=mW l
  have:=aA z
  simp only [dh,List.length_append,List.length_cons]; omega
theorem OA (f : Nat) : ∀ (v : Int),0 ≤ v → v < 128 ^ f * 256 → ∀ z ∈ uv f v,0 ≤ z ∧ z ≤ 255:=by
 induction f with
 | zero => intro v h0 h1 z hz; simp [uv] at hz; simp at h1; omega
 | succ f ih =>
  intro v h0 h1 z hz
  by_cases h : v < 128
  ·simp [uv,h] at hz; omega
  ·simp only [uv,h,if_false,List.mem_cons] at hz
   rcases hz with rfl | hz
   ·omega
   ·refine ih (v / 128) ae ?_ z hz;have hs : (128 : Int) ^ (f + 1) = 128 ^ f * 128:=Int.pow_succ _ _;rw [hs] at h1;generalize (128 : Int) ^ f = X at h1 ⊢;omega
theorem mK (v : Int) (h0 : 0 ≤ v) (h1 : v < 18446744073709551616) : ∀ z ∈ au v,0 ≤ z ∧ z ≤ 255:=by
 have e : (128 : Int) ^ 9 = 9223372036854775808:=aH;refine OA 9 v h0 ?_
 rw [e]; omega
theorem yV : ∀ (l : List Int),okL l → ∀ z ∈ dh l,0 ≤ z ∧ z ≤ 255
 | [],_,z,hz => by simp [dh] at hz
 | y :: l,h,z,hz => by
  simp only [dh,List.mem_append] at hz
  rcases hz with hz | hz
  ·exact mK y h.1.1 (by have:=h.1.2; omega) z hz
  ·exact yV l h.2 z hz
theorem oq {t : Int} {g : Bool} {a : Int} {l : List Int} (h : chk t g a l = 0) :
  t ≠ -1 ∧ lo t g ≤ a ∧ a ≤ hi t g ∧ (t = 3 → 1 ≤ l.length ∧ l.length ≤ 16 ∧ okL l) ∧ (t ≠ 3 → l = []):=by
 unfold chk at h
 by_cases h1 : t = -1
 ·rw [if_pos h1] at h; omega
 rw [if_neg h1] at h
 by_cases h2 : a < lo t g ∨ hi t g < a
 ·rw [if_pos h2] at h; omega
 rw [if_neg h2] at h
 by_cases h3 : t = 3
 ·rw [if_pos h3] at h
  by_cases h4 : l.length < 1 ∨ 16 < l.length
  ·rw [if_pos h4] at h; omega
  rw [if_neg h4] at h
  by_cases h5 : okL l
  ·exact ⟨h1,ae,ae,fun _ => ⟨ae,ae,h5⟩,fun h => absurd h3 h⟩
  ·rw [if_neg h5] at h; omega
 ·rw [if_neg h3] at h
  by_cases h4 : l.length = 0
  ·exact ⟨h1,ae,ae,fun h => absurd h h3,fun _ => List.eq_nil_of_length_eq_zero h4⟩
  ·rw [if_neg h4] at h; omega
theorem xg (t a : Int) (l : List Int) (h : l.length ≤ 16) : (xt t a l).length ≤ 170:=by
 unfold xt
 split
 ·simp
 ·split
  ·have:=aA (fo a); omega
  ·split
   ·have:=aA l.length
    have:=mW l
    rw [List.length_append]; omega
   ·have:=aA a; omega
theorem KF {t : Int} {g : Bool} {a : Int} {l : List Int} (h : chk t g a l = 0) : ∀ z ∈ xt t a l,0 ≤ z ∧ z ≤ 255:=by
 obtain ⟨h1,h2,h3,h4,h5⟩:=oq h;have hl:=jR t g;have hh:=kx t g;intro z hz;unfold xt at hz
 by_cases t0 : t = 0
 ·rw [if_pos t0] at hz; simp at hz
 rw [if_neg t0] at hz
 by_cases t8 : t = 8
 ·rw [if_pos t8] at hz
  have:=kz a ae ae
  exact mK _ this.1 this.2 z hz
 rw [if_neg t8] at hz
 by_cases t3 : t = 3
 ·rw [if_pos t3] at hz;obtain ⟨a1,a2,a3⟩:=h4 t3
  rcases List.mem_append.1 hz with hz | hz
  ·exact mK _ ae ae z hz
  ·exact yV l a3 z hz
 ·rw [if_neg t3] at hz
  have:=hh.2.2 t8
  exact mK _ ae ae z hz
def jB (a b : Int) : Value:=.agg #[.int .i64 a,.int .i64 b]
def inB (a b v : Int) : Bool:=decide (a ≤ v ∧ v ≤ b)
theorem Mz {a b v : Int} (h1 : a ≤ v) (h2 : v ≤ b) : inB a b v = true:=by unfold inB; simp [h1,h2]
theorem Kr {a b v : Int} (h : v < a ∨ b < v) : inB a b v = false:=by unfold inB; simp; omega
theorem nD (a b v : Int) (w : World) : Calls Tryz.prog 326 #[jB a b,.int .i64 v] w fun e w' => e = .returned (.bool (inB a b v)) ∧ Below w.heap.size w w':=by
 unfold jB
 by_cases h1 : a ≤ v
 ·by_cases h2 : v ≤ b
  ·have HR:=show Hid _ from Mz h1 h2;exact uu
  ·have HR:=show Hid _ from Kr (a:=a) (.inr (by omega : b < v))
   exact uu
 ·have HR:=show Hid _ from Kr (b:=b) (.inl (by omega : v < a))
  exact uu
theorem oF (w : World) : Calls Tryz.prog 328 #[] w fun e w' => e = .returned (jB 0 2147483647) ∧ Below w.heap.size w w':=by
 go_enter Tryz.func328,Tryz.ntmps328
 go_wp2
 refine bodyPost_ret (v:=.agg #[.int .i64 0,.int .i64 2147483647]) (by simp [results,Tryz.results328,go_sem]) rfl ⟨rfl,?_⟩
 exact (Below.refl _ _).alloc (Nat.le_refl _) _
def dI (ps : ByteArray) : Bool:=decide (ps = ⟨#[108]⟩)
theorem Ac (ps : ByteArray) : (ps.toList == [108]) = dI ps:=by
 rw [ByteArray.toList_eq];unfold dI
 by_cases h : ps = ⟨#[108]⟩
 ·simp [h]
 ·rw [decide_eq_false h,beq_eq_false_iff_ne];intro e
  apply h
  cases ps with
  | mk d =>
   have e2 : d.toList = (#[108] : Array UInt8).toList:=e;rw [Array.toList_inj.1 e2]
theorem og (c t : Int) (wd pp ps : ByteArray) (pl : Bool) (w : World) :
  Calls Tryz.prog 325 #[.agg #[.int .u8 c,.string wd,.int .i8 t,.string pp,.string ps,.bool pl]] w fun e w' => e = .returned (jB (lo t (dI ps)) (hi t (dI ps))) ∧ Below w.heap.size w w':=by
 by_cases h0 : t = 0
 ·subst h0;exact IW
 by_cases h3 : t = 3
 ·subst h3;exact IW
 by_cases h9 : t = 9
 ·subst h9
  go_enter Tryz.func325,Tryz.ntmps325
  go_wp2;refine bodyPost_ret (v:=.agg #[.int .i64 0,.int .i64 4294967295]) vR rfl ⟨rfl,?_⟩;exact mX
 by_cases h8 : t = 8
 ·subst h8;have hl:=Ac ps
  cases hb : dI ps
  ·rw [hb] at hl
   go_enter Tryz.func325,Tryz.ntmps325
   go_wp2;refine bodyPost_ret (v:=.agg #[.int .i64 (-2147483648),.int .i64 2147483647]) vR rfl ⟨rfl,?_⟩;exact mX
  ·rw [hb] at hl
   go_enter Tryz.func325,Tryz.ntmps325
   go_wp2;refine bodyPost_ret (v:=.agg #[.int .i64 (-9223372036854775808),.int .i64 9223372036854775807]) vR rfl ⟨rfl,?_⟩;exact mX
 have e0 : (t == 0) = false:=by simp [h0]
 have e3 : (t == 3) = false:=by simp [h3]
 have e9 : (t == 9) = false:=by simp [h9]
 have e8 : (t == 8) = false:=by simp [h8]
 have HV:=show Hid (jB (lo t (dI ps)) (hi t (dI ps)) = jB 0 2147483647) by
  show jB (lo t (dI ps)) (hi t (dI ps)) = jB 0 2147483647
  unfold lo hi;rw [if_neg h8,if_neg ae,if_neg h9,if_neg h8]
 clear h0 h3 h9 h8
 go_enter Tryz.func325,Tryz.ntmps325
 go_wp2_with fail;refine (oF _).mono ?_;rintro e w1 ⟨rfl,hb⟩;unfold jB at *
 have c0 : w1.cell? ⟨w.heap.size + 1,0,none⟩ = some (.int .i64 0):=by rw [hb.cell ak]; simp [go_sem]
 have c1 : w1.cell? ⟨w.heap.size + 1,1,none⟩ = some (.int .i64 0):=by rw [hb.cell ak]; simp [go_sem]
 have f0 : w1.frozen? ⟨w.heap.size + 1,0,none⟩ = false:=by rw [hb.frozen ak]; simp [go_sem]
 have f1 : w1.frozen? ⟨w.heap.size + 1,1,none⟩ = false:=by rw [hb.frozen ak]; simp [go_sem]
 go_wp2
 refine bodyPost_ret (v:=.agg #[.int .i64 0,.int .i64 2147483647]) (by simp [results,Tryz.results325,go_sem,c0,c1]) rfl ⟨congrArg Ending.returned HV.out.symm,?_⟩
 exact ((((((Below.refl _ _).alloc (Nat.le_refl _) _).alloc ak _).trans (hb.mono aG)).setCell ak _).setCell ak _)
theorem Ht (c t : Int) (wd pp ps : ByteArray) (pl : Bool) (w : World) :
  Calls Tryz.prog 327 #[.agg #[.int .u8 c,.string wd,.int .i8 t,.string pp,.string ps,.bool pl]] w fun e w' => e = .returned (if t = 3 then jB 1 16 else jB 0 0) ∧ Below w.heap.size w w':=by
 by_cases h3 : t = 3
 ·subst h3;rw [if_pos rfl]
  go_enter Tryz.func327,Tryz.ntmps327
  go_wp2
  refine bodyPost_ret (v:=.agg #[.int .i64 1,.int .i64 16]) (by simp [results,Tryz.results327,go_sem]) rfl ⟨rfl,?_⟩
  exact mX
 ·rw [if_neg h3]
  have e3 : (t == 3) = false:=by simp [h3]
  clear h3
  go_enter Tryz.func327,Tryz.ntmps327
  go_wp2
  refine bodyPost_ret (v:=.agg #[.int .i64 0,.int .i64 0]) (by simp [results,Tryz.results327,go_sem]) rfl ⟨rfl,?_⟩
  exact mX
end Go.Proofs.YtepnnenohjfkbaaGreatDoor

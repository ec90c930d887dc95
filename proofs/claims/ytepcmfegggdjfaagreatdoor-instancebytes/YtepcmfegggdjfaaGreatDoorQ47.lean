/-
  Texts Laid.
-/
import Derived.ChangeArms
import Derived.FnData
import Derived.OpenShut
import Derived.Stop.LaidErr
import Derived.Test.YtepcmfegggdjfaaGreatDoorCards
import Derived.Test.YtepcmfegggdjfaaGreatDoorQ14
set_option linter.unusedVariables false
set_option maxRecDepth 100000
set_option maxHeartbeats 16000000
namespace Go.Proofs.YtepcmfegggdjfaaGreatDoor
theorem Tryz.cells221 : Tryz.prog.cellsOf 221 = 4:=by kernel_rfl
theorem Tryz.cells222 : Tryz.prog.cellsOf 222 = 28:=by kernel_rfl
theorem Tryz.cells5 : Tryz.prog.cellsOf 5 = 1:=by kernel_rfl
theorem Tryz.cells9 : Tryz.prog.cellsOf 9 = 1:=by kernel_rfl
theorem Tryz.kindsAt : Tryz.prog.globalNamed "flagon/ops.kinds" = some 0:=by kernel_rfl
theorem Tryz.kindsType : (Tryz.prog.globals[0]?).map (·.type) = some 222:=by kernel_rfl
theorem len4 {α : Type} : ∀ (l : List α),l.length = 4 → ∃ a b c d,l = [a,b,c,d]
 | [a,b,c,d],_ => ⟨a,b,c,d,rfl⟩
theorem len7 {α : Type} : ∀ (l : List α),l.length = 7 → ∃ a b c d e f g,l = [a,b,c,d,e,f,g]
 | [a,b,c,d,e,f,g],_ => ⟨a,b,c,d,e,f,g,rfl⟩
theorem kind_cells {H : Type} {enc : TypeId × Value → H} {w : World} {base : Nat} {sp : Nat → Bool} {held : Bool} {fuel : Nat} {cs : List Value} {f l : Int} {a s : List UInt8} {p : List MemPlace}
  (h : DataW.trod enc Tryz.prog w base sp held fuel 221 cs = some (.agg [.lit (.int .u8 f),.lit (.int .u8 l),.lit (.string a),.lit (.string s)],p)) :
  cs = [.int .u8 f,.int .u8 l,.string ⟨a.toArray⟩,.string ⟨s.toArray⟩]:=by
 obtain ⟨xs,n,_,hx,hl,hxl,hel⟩:=DataW.trod_struct Tryz.underlying221 h
 rw [Tryz.cells221] at hl
 obtain ⟨c0,c1,c2,c3,rfl⟩:=len4 cs hl
 obtain ⟨x0,x1,x2,x3,rfl⟩:=len4 xs hxl
 have e:=congrArg Prod.fst hx
 simp only [List.map_cons,List.map_nil,DataW.agg.injEq,List.cons.injEq,and_true] at e
 obtain ⟨e0,e1,e2,e3⟩:=e
 have h0 : DataW.trod enc Tryz.prog w base sp held n 5 (([c0,c1,c2,c3].drop 0).take (Tryz.prog.cellsOf 5)) = some x0:=hel 0 _ rfl
 have h1 : DataW.trod enc Tryz.prog w base sp held n 5 (([c0,c1,c2,c3].drop 1).take (Tryz.prog.cellsOf 5)) = some x1:=hel 1 _ rfl
 have h2 : DataW.trod enc Tryz.prog w base sp held n 9 (([c0,c1,c2,c3].drop 2).take (Tryz.prog.cellsOf 9)) = some x2:=hel 2 _ rfl
 have h3 : DataW.trod enc Tryz.prog w base sp held n 9 (([c0,c1,c2,c3].drop 3).take (Tryz.prog.cellsOf 9)) = some x3:=hel 3 _ rfl
 rw [Tryz.cells5] at h0 h1
 rw [Tryz.cells9] at h2 h3
 obtain ⟨n0,g0,k0,_⟩:=DataW.trod_int Tryz.underlying5 h0
 obtain ⟨n1,g1,k1,_⟩:=DataW.trod_int Tryz.underlying5 h1
 obtain ⟨s2,g2,k2,_⟩:=DataW.trod_string Tryz.underlying9 h2
 obtain ⟨s3,g3,k3,_⟩:=DataW.trod_string Tryz.underlying9 h3
 clear hel h hx h0 h1 h2 h3
 rw [k0] at e0
 rw [k1] at e1
 rw [k2] at e2
 rw [k3] at e3
 simp only [DataW.lit.injEq,Lit.int.injEq,true_and,Lit.string.injEq] at e0 e1 e2 e3
 simp only [List.drop_zero,List.drop_succ_cons,List.take_succ_cons,List.take_zero,List.cons.injEq,and_true] at g0 g1 g2 g3
 rw [g0,g1,g2,g3,e0,e1,e2,e3]
theorem chunks (l : List Value) (h : l.length = 28) : l = l.take 4 ++ ((l.drop 4).take 4 ++ ((l.drop 8).take 4 ++ ((l.drop 12).take 4 ++ ((l.drop 16).take 4 ++ ((l.drop 20).take 4 ++ (l.drop 24).take 4))))):=by
 have e : ∀ n,l.drop n = (l.drop n).take 4 ++ l.drop (n + 4):=fun n => by
  have:=(List.take_append_drop 4 (l.drop n)).symm
  rwa [List.drop_drop] at this
 have e6 : l.drop 24 = (l.drop 24).take 4:=by rw [List.take_of_length_le (by simp; omega)]
 have e5:=e 20; have e4:=e 16; have e3:=e 12; have e2:=e 8; have e1:=e 4; have e0:=e 0
 simp only [List.drop_zero,Nat.zero_add,Nat.reduceAdd] at e0 e1 e2 e3 e4 e5
 rw [← e6,← e5,← e4,← e3,← e2,← e1,← e0]
theorem kinds_of_laid {W : World} {rest : List (String × DataW Unit)} (h : laidMet Tryz.prog (("flagon/ops.kinds",Rows.laid_flagon_ops_kinds) :: rest) W) : KindsOk W:=by
 obtain ⟨ps,⟨g',t',cs,fuel,p,q,hg',ht',hvar,hd,_,_⟩,_⟩:=h
 obtain rfl:=Option.some.inj (Tryz.kindsAt.symm.trans hg')
 obtain rfl:=Option.some.inj (Tryz.kindsType.symm.trans ht')
 obtain ⟨xs,n,_,hx,hl,hxl,hel⟩:=DataW.trod_array Tryz.underlying222 hd
 rw [Tryz.cells222] at hl
 obtain ⟨x0,x1,x2,x3,x4,x5,x6,rfl⟩:=len7 xs hxl
 have e:=congrArg Prod.fst hx
 simp only [Rows.laid_flagon_ops_kinds,List.map_cons,List.map_nil,DataW.agg.injEq,List.cons.injEq,and_true] at e
 obtain ⟨e0,e1,e2,e3,e4,e5,e6⟩:=e
 have h0:=hel 0 (by decide); have h1:=hel 1 (by decide); have h2:=hel 2 (by decide); have h3:=hel 3 (by decide); have h4:=hel 4 (by decide); have h5:=hel 5 (by decide); have h6:=hel 6 (by decide)
 simp only [Tryz.cells221,Nat.reduceMul,List.drop_zero,List.getElem?_cons_zero,List.getElem?_cons_succ] at h0 h1 h2 h3 h4 h5 h6
 obtain ⟨d0,p0⟩:=x0; obtain ⟨d1,p1⟩:=x1; obtain ⟨d2,p2⟩:=x2; obtain ⟨d3,p3⟩:=x3; obtain ⟨d4,p4⟩:=x4; obtain ⟨d5,p5⟩:=x5; obtain ⟨d6,p6⟩:=x6
 simp only at e0 e1 e2 e3 e4 e5 e6
 subst e0 e1 e2 e3 e4 e5 e6
 have hcs : cs.toList = kindsL:=by
  rw [chunks _ hl,kind_cells h0,kind_cells h1,kind_cells h2,kind_cells h3,kind_cells h4,kind_cells h5,kind_cells h6]
  rfl
 intro j v hj
 rw [World.var?_cell Tryz.kindsAt hvar j,← Array.getElem?_toList,hcs]
 exact hj
end Go.Proofs.YtepcmfegggdjfaaGreatDoor

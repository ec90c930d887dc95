/-
  Proved: called with any module and any state, SnapMay returns true, and its arguments read afterwards as they read before.
  Conditions: the table of kinds and the library's listed tables start as the program's text, and the library's, lay them (the card ties them to those texts; one of the library's is pinned by name); none other beyond the row's own.
  (The tie holds over the pruned copy of the project that the seat names.)
-/
import Derived.SevenTiedAt
import Derived.Stop.Joined
import Derived.Test.YtkdldbfbldkkcaaGreatDoorM00
import Derived.Test.YtkdldbfbldkkcaaGreatDoorCards
import Derived.Test.YtkdldbfbldkkcaaGreatDoorTie
import Derived.Test.YtkdldbfbldkkcaaGreatDoorM49
set_option linter.unusedVariables false
set_option maxRecDepth 100000
set_option maxHeartbeats 16000000
namespace Go.Proofs.YtkdldbfbldkkcaaGreatDoor.snapMay
open Go.ChangeShapes Go.WideShapes Go.ChangeAt Go.RowKit Go.ChangeMaps
theorem own : ownKnob Tryz.prog.godebug = none:=ak
theorem laidOut : laidOutB Tryz.prog = true:=ak
abbrev pZ : List (String × DataW Unit):=Rows.snapMayRow.laid
theorem met (os : Os) (args : Array Value) : laidMetH Tryz.prog pZ ((World.laidAll Tryz.prog os pZ).forCall (fun _ _ => 0) ⟨#[],args,[]⟩).memory:=by
 rw [MakeChecks.laidMetH_plain _ _ _ ak];exact laidMet_laidAll _ ak ak
theorem kinds_met {W : World} (h : laidMetH Tryz.prog pZ W) : bf W:=by
 rw [MakeChecks.laidMetH_plain _ _ _ ak] at h;exact qZ (laidMet.tail h)
theorem lifted (os : Os) (started : os.Started) (H : Type) (enc : TypeId × Value → H) :
  ReturnsInHanded {} Tryz.checked os 3 .any (fun w args => (Rows.snapMaySpec.pre enc Tryz.prog Tryz.f3 [] false w args ∧ laidMetH Tryz.prog pZ w) ∧ sizedMet enc Tryz.prog Tryz.f3 (OpenSpec.ofChange Rows.snapMaySpec) false w args) (Rows.snapMaySpec.post enc Tryz.prog Tryz.f3 false true false false):=by
 refine returnsInHanded_of_row (C:=Tryz.checked) (s:=OpenSpec.ofChange Rows.snapMaySpec) (F:=fun _ _ _ => 0) (laid:=pZ) own started ak Tryz.func3
  (ChangeSpec.witness_shaped (enc:=enc) (C:=Tryz.checked) (os:=os) (X:=fun w _ => laidMetH Tryz.prog pZ w) false (World.laidAll Tryz.prog os pZ) #[.agg #[.slice none 0 0,.slice none 0 0,.slice none 0 0,.int .i64 0,.int .i64 0,.slice none 0 0,.slice none 0 0,.slice none 0 0],.agg #[.slice none 0 0,.slice none 0 0,.slice none 0 0,.int .i64 0,.int .i8 0,.slice none 0 0,.int .i8 0,.int .i64 0]] 8 (World.laidAll_os _ _ _)
   (World.shaped_of_ZipB ak ak) ak ak ak (met os _)) ?_
 intro W base args ds gs before hval0 hW _ _ hsz0 hL hshape _
 have hsz : (DataW.weightsEach Tryz.prog (Tryz.f3.params.toList ++ Rows.snapMaySpec.plain.varTypes Tryz.prog) (ds ++ gs)).all (· ≤ reachBytes) = true:=hsz0
 have hW':=hW;obtain ⟨p,q,hA0,hV,rfl,hfz,hnd⟩:=hW
 have hA : DataW.TrodAll enc Tryz.prog W 0 (fun _ => true) true Tryz.f3.params.toList args.toList ds p:=hA0
 have hval : ∀ (j : Nat) t v,Tryz.f3.params[j]? = some t → args[j]? = some v → Value.okWide Tryz.prog W .any base t v:=hval0;rw [Tryz.params3] at hA hval hsz;obtain ⟨v0,vs0,d0,ds0,p0,q0,hargs,rfl,rfl,h0,r0⟩:=trodAll_cons hA;obtain ⟨v1,vs1,d1,ds1,p1,q1,rfl,rfl,rfl,h1,r1⟩:=trodAll_cons r0;obtain ⟨rfl,rfl,rfl⟩:=trodAll_nil r1
 obtain rfl : args = #[v0,v1]:=by cases args; simp_all
 obtain ⟨rfl,rfl⟩:=trodVars_none hV;have k0:=h0
 have lt0 : ∀ x ∈ p0,x.block < W.heap.size:=by obtain ⟨m,hm⟩:=k0; exact DataW.trod_lt m _ _ _ hm
 have hw0 : ∀ n ∈ d0.weights Tryz.prog 29,n ≤ reachBytes:=fun n hn => by
  have:=List.all_eq_true.1 hsz n (DataW.weights_mem_each (j:=0) (t:=29) rfl rfl n hn)
  exact cm
 obtain ⟨m,rfl,hr⟩:=wo (hval 0 29 v0 rfl rfl) h0 hw0;have k1:=h1
 have lt1 : ∀ x ∈ p1,x.block < W.heap.size:=by obtain ⟨m,hm⟩:=k1; exact DataW.trod_lt m _ _ _ hm
 have hw1 : ∀ n ∈ d1.weights Tryz.prog 35,n ≤ reachBytes:=fun n hn => by
  have:=List.all_eq_true.1 hsz n (DataW.weights_mem_each (j:=1) (t:=35) rfl rfl n hn)
  exact cm
 obtain ⟨s,rfl,g1⟩:=ye (hval 1 35 v1 rfl rfl) h1 hw1;have hk:=kinds_met hL;clear hA0 hval0
 refine (OC m s W hk hk.pos hr g1.read g1.sm g1.by_ g1.sr g1.rg g1.f.cap_).mono fun e W' ⟨he,bel⟩ => ?_
 subst he
 exact ⟨_,rfl,_,_,_,[],_,[],hW',trodAll_mk1 (shut_bool Tryz.underlying4 _),(trodAll_cons_mk (Below.trod laidOut ak (of_decide_eq_true ak) k0 bel lt0) (trodAll_cons_mk (Below.trod laidOut ak (of_decide_eq_true ak) k1 bel lt1) trodAll_mk0)),rfl,bel.frame _,fun h => cj⟩
theorem over : Rows.snapMayRow.holds Tryz.pinned (OpenSpec.ofChange Rows.snapMaySpec) :=
 OpenClaim.holds_of_wide 3 Tryz.f3 rfl rfl rfl rfl rfl rfl rfl ⟨rfl,rfl,rfl,rfl,rfl⟩ rfl rfl rfl rfl rfl ak Tryz.func3 ak
  (of_decide_eq_true ak) (by unfold Func.isWrapper; first | (rw [if_pos (by decide +kernel)]; kernel_rfl) | (rw [if_neg (by decide +kernel)]; exact ⟨rfl,rfl⟩))
  (fun os started H enc _ => lifted os started H enc)
theorem proved : Rows.SnapMaySaid:=over
theorem card : Rows.SnapMayCardSaid :=
 Claim7.holds_tied_plain_at .later [] [.data,.data,.pinned] true Rows.snapMayCard.stood.harness true
  over (fun _ h => cj) ak (fun _ h => cj) snapMay_row_tie rfl ⟨rfl,rfl⟩ ak rfl
  (fun f fn hf hfn => by
   obtain rfl : f = 3:=Option.some.inj ((show Tryz.prog.funcNamed Rows.snapMayRow.func = some 3 by kernel_rfl).symm.trans hf) |>.symm
   obtain rfl : fn = Tryz.f3:=(Option.some.inj (Tryz.func3.symm.trans hfn)).symm
   exact ⟨ak,fun j t ht => by
    rw [Tryz.params3] at ht
    have hm : t ∈ [29,35]:=by simpa using Array.mem_of_getElem? ht
    have hall : ([29,35].all fun u => !Tryz.prog.wantsStandIn u) = true:=ak
    exact (show Tryz.prog.wantsStandIn t = false by simpa using List.all_eq_true.1 hall t hm)⟩)
  ak
#print axioms card
end Go.Proofs.YtkdldbfbldkkcaaGreatDoor.snapMay
namespace Go.Proofs.YtkdldbfbldkkcaaGreatDoor
theorem snapMay_holds : Rows.SnapMayCardSaid:=snapMay.card
end Go.Proofs.YtkdldbfbldkkcaaGreatDoor

/-
  Proved: called with any module, any text and any list of words, InstanceMay returns true, and its arguments read afterwards as they read before.
  Conditions: the table of kinds and the library's listed tables start as the program's text, and the library's, lay them (the card ties them to those texts; one of the library's is pinned by name); none other beyond the row's own.
  (The tie holds over the pruned copy of the project that the seat names.)
-/
import Derived.Test.YtepcmfegggdjfaaGreatDoorM00
import Derived.Test.YtepcmfegggdjfaaGreatDoorCards
import Derived.Test.YtepcmfegggdjfaaGreatDoorTie
import Derived.Test.YtepcmfegggdjfaaGreatDoorM12
import Derived.Test.YtepcmfegggdjfaaGreatDoorM20
set_option linter.unusedVariables false
set_option maxRecDepth 100000
set_option maxHeartbeats 16000000
namespace Go.Proofs.YtepcmfegggdjfaaGreatDoor.instanceMay
open Go.Proofs.Tryz
open Go.ChangeShapes Go.WideShapes Go.ChangeAt Go.RowKit Go.ChangeMaps
theorem own:ownKnob prog.godebug=none:=ar
theorem laidOut:laidOutB prog=true:=ar
abbrev si:List (String×DataW Unit):=Rows.instanceMayRow.laid
theorem met(os:Os)(args:AVz):laidMetH prog si ((World.laidAll prog os si).forCall (fun _ _=>0) ⟨#[],args,[]⟩).memory:=by
 rw[MakeChecks.laidMetH_plain _ _ _ ar];exact laidMet_laidAll _ ar ar
variable {W:World}
theorem kinds_met(h:laidMetH prog si W):bg W:=by
 rw[MakeChecks.laidMetH_plain _ _ _ ar]at h;exact tY (laidMet.tail h)
theorem lifted(os:Os)(started:os.Started)(H:Type)(enc:TypeId×Value->H) :
  ReturnsInHanded {} Tryz.checked os 3 .any (fun w args=>(Rows.instanceMaySpec.pre enc prog Tryz.f3 [] false w args/\laidMetH prog si w)/\sizedMet enc prog Tryz.f3 (OpenSpec.ofChange Rows.instanceMaySpec) false w args) (Rows.instanceMaySpec.post enc prog Tryz.f3 false true false false):=by
 refine returnsInHanded_of_row (C:=Tryz.checked) (s:=OpenSpec.ofChange Rows.instanceMaySpec) (F:=fun _ _ _=>0) (laid:=si) own started ar func3
  (ChangeSpec.witness_shaped (enc:=enc) (C:=Tryz.checked) (os:=os) (X:=fun w _=>laidMetH prog si w) false (World.laidAll prog os si) #[.agg #[.slice none 0 0,.slice none 0 0,.slice none 0 0,.int .i64 0,.int .i64 0,.slice none 0 0,.slice none 0 0,.slice none 0 0],.string ⟨#[]⟩,.slice none 0 0] 8 (World.laidAll_os _ _ _)
   (World.shaped_of_ZipB ar ar) ar ar ar (met os _)) ?_
 intro W base args ds gs before hval0 hW _ _ hsz0 hL hshape _;have hsz:(DataW.weightsEach prog (Tryz.f3.params.toList++Rows.instanceMaySpec.plain.varTypes prog) (ds++gs)).all (· <= reachBytes)=true:=hsz0;have hW':=hW;obtain⟨p,q,hA0,hV,rfl,hfz,hnd⟩:=hW;have hA:DataW.TrodAll enc prog W 0 (fun _=>true) true Tryz.f3.params.toList args.toList ds p:=hA0;have hval:∀(j:Nat)t v,Tryz.f3.params[j]? =some t->args[j]? =some v->Value.okWide prog W .any base t v:=hval0;rw[Tryz.params3]at hA hval hsz;obtain⟨v0,vs0,d0,ds0,p0,q0,hargs,rfl,rfl,h0,r0⟩:=trodAll_cons hA;obtain⟨v1,vs1,d1,ds1,p1,q1,rfl,rfl,rfl,h1,r1⟩:=trodAll_cons r0;obtain⟨v2,vs2,d2,ds2,p2,q2,rfl,rfl,rfl,h2,r2⟩:=trodAll_cons r1;obtain⟨rfl,rfl,rfl⟩:=trodAll_nil r2
 obtain rfl:args=#[v0,v1,v2]:=by cases args; simp_all
 obtain⟨rfl,rfl⟩:=trodVars_none hV;have k0:=h0
 have lt0:∀x∈p0,x.block<W.heap.size:=by obtain⟨m,hm⟩:=k0; exact DataW.trod_lt m _ _ _ hm
 have hw0:∀n∈d0.weights prog 29,n<=reachBytes:=fun n hn=>by
  have:=List.all_eq_true.1 hsz n (DataW.weights_mem_each (j:=0) (t:=29) rfl rfl n hn);exact cF
 obtain⟨m,rfl,hr⟩:=Ae (hval 0 29 v0 rfl rfl) h0 hw0
 have hw1:∀n∈d1.weights prog 9,n<=reachBytes:=fun n hn=>by
  have:=List.all_eq_true.1 hsz n (DataW.weights_mem_each (j:=1) (t:=9) rfl rfl n hn);exact cF
 obtain⟨s,rfl,rfl,rfl,w1⟩:=open_string underlying9 (hval 1 9 v1 rfl rfl) h1
 have hs8:s.size<=281474976710656:=by
  have:=hw1 s.data.toList.length GN;exact Gq
 have k2:=h2
 have lt2:∀x∈p2,x.block<W.heap.size:=by obtain⟨m,hm⟩:=k2; exact DataW.trod_lt m _ _ _ hm
 have hw2:∀n∈d2.weights prog 30,n<=reachBytes:=fun n hn=>by
  have:=List.all_eq_true.1 hsz n (DataW.weights_mem_each (j:=2) (t:=30) rfl rfl n hn);exact cF
 obtain⟨a,n,c,zs,rfl,hn,hz⟩:=A8 (hval 2 30 v2 rfl rfl) h2 hw2;have hk:=kinds_met hL;clear hA0 hval0;refine(Pq m s a n c zs W hk hk.pos hr hn hs8 hz).mono fun e W' ⟨he,bel⟩=>?_;subst he;exact⟨_,rfl,_,_,_,[],_,[],hW',trodAll_mk1 (shut_bool underlying4 _),(trodAll_cons_mk (Below.trod laidOut ar (of_decide_eq_true ar) k0 bel lt0) (trodAll_cons_mk (shut_string underlying9 w1) (trodAll_cons_mk (Below.trod laidOut ar (of_decide_eq_true ar) k2 bel lt2) trodAll_mk0))),rfl,bel.frame _,fun h=>cm⟩
theorem over:Rows.instanceMayRow.holds Tryz.pinned (OpenSpec.ofChange Rows.instanceMaySpec) :=
 OpenClaim.holds_of_wide 3 Tryz.f3 rfl rfl rfl rfl rfl rfl rfl ⟨rfl,rfl,rfl,rfl,rfl⟩ rfl rfl rfl rfl rfl ar func3 ar
  (of_decide_eq_true ar) (by unfold Func.isWrapper; first | (rw[if_pos cj]; kernel_rfl) | (rw[if_neg cj]; exact⟨rfl,rfl⟩))
  (fun os started H enc _=>lifted os started H enc)
theorem proved:Rows.InstanceMaySaid:=over
theorem card:Rows.InstanceMayCardSaid :=
 Claim7.holds_tied_plain_at .later [] [.data,.data,.pinned] true Rows.instanceMayCard.stood.harness true
  over (fun _ h=>cm) ar (fun _ h=>cm) instanceMay_row_tie rfl ⟨rfl,rfl⟩ ar rfl
  (fun f fn hf hfn=>by
   obtain rfl:f=3:=Option.some.inj ((show prog.funcNamed Rows.instanceMayRow.func=some 3 by kernel_rfl).symm.trans hf) |>.symm;obtain rfl:fn=Tryz.f3:=(Option.some.inj (func3.symm.trans hfn)).symm
   exact⟨ar,fun j t ht=>by
    rw[Tryz.params3]at ht
    have hm:t∈[29,9,30]:=by simpa using Array.mem_of_getElem? ht
    have hall:([29,9,30].all fun u=>!prog.wantsStandIn u)=true:=ar
    exact(show prog.wantsStandIn t=false by simpa using List.all_eq_true.1 hall t hm)⟩)
  ar
#print axioms card
end Go.Proofs.YtepcmfegggdjfaaGreatDoor.instanceMay
namespace Go.Proofs.YtepcmfegggdjfaaGreatDoor
theorem instanceMay_holds:Rows.InstanceMayCardSaid:=instanceMay.card
end Go.Proofs.YtepcmfegggdjfaaGreatDoor

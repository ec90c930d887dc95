/-
  Texts Yk Yl.
-/
import Derived.Test.YtheefojaplnnoaaGreatDoorY00
import Derived.Test.YtheefojaplnnoaaGreatDoorY43
set_option linter.unusedVariables false
set_option maxRecDepth 100000
set_option maxHeartbeats 16000000
namespace Go.Proofs.YtheefojaplnnoaaGreatDoor
open Go.RowKit
theorem Jb(O:Ow Int)(Q:Nat→Prop)(f:List Int→Int→Int)(enc:Int→List Int)(R:Nat)(A:Option Addr×Nat×Nat)(ds rs:List Int)(most:Int)(K:Nat)(cs:Array Value)(w:World)(I:Iv Q R w Int)(h:Rr w R A ds rs)(hQ:Q R)(hQl:∀k,Q k→k<w.heap.size)(hQA:∀b off c,A.1=some ⟨b,off,c⟩→¬Q b)(hm:most≤100000)
  (hK:∀args w,(callFunc K args).run Tryz.prog w=.ok (.enter K args) w)
  (heach:∀(W:World)(ys:List Int)(aa:Option Addr)(j ac:Nat)(ds' rs':List Int),Kept Q w W→Rr W R A ds' rs'→ys.length=j→(j:Int)<most→aU f [] ys=0→W.ownsRow 0 3 1 (.slice aa j ac) j (ys.flatMap jA)→(∀b,aa=some b→w.heap.size≤b.block)→(∀y∈ys,O.own W y)→I.inv W ys →
   Calls Tryz.prog K (#[.int .i64 0,.slice aa j ac]++cs) W fun e w'=>kP Q W e w'∨∃y:Int,e=.returned (.int .i64 y)∧f ys y=0∧O.own w' y∧(∀b,O.blk y b→W.heap.size≤b)∧I.inv w' (ys++[y])∧gM Q R A ds' rs' (enc y) W w') :
  Calls Tryz.prog 134 #[cR R,.slice none 0 0,.int .i64 most,.func (.func K) #[] cs] w fun e w'=>kP Q w e w'∨∃(ys:List Int)(aa:Option Addr)(n ac:Nat),e=.returned (.slice aa n ac)∧ys.length=n∧(n:Int)≤most∧aU f [] ys=0∧w'.ownsRow 0 3 1 (.slice aa n ac) n (ys.flatMap jA)∧(∀b,aa=some b→w.heap.size≤b.block)∧(∀y∈ys,O.own w' y∧∀b,O.blk y b→w.heap.size≤b)∧gM Q R A ds rs (ax n++ys.flatMap enc) w w':=by
 have hmc:=fw;have hcc:=iL;have HC:=hid (iH R A ds rs 0 most w h ae);have hRl:=h.lt;have HE:=hid heach;have HQ:=hid hQ;have HQL:=hid hQl;have HQA:=hid hQA;have HI0:=hid I.i0;have HIK:=hid I.ik;obtain⟨i0,hi,hz0,hz1,hz2⟩:=Ra;clear h heach hQ hQl hQA
 go_enter Tryz.func134,Tryz.ntmps134
 go_wp2_with fail;refine HC.out.mono ?_
 rintro e w2 (⟨⟨y,p,hy,rfl⟩,hk⟩ | ⟨n,rfl,hn,rs1,hrs,hr2,hk2⟩)
 ·exact jN
 have R2:=hid hr2
 have K2:=hid (Kept.mono (T:=Q) hk2 (fun k hk=>lL))
 have II:=hid (HI0.out w2 hk2);have HRS:=hid hrs;clear hr2 hk2 HC hmc hcc hrs HI0;go_wp2_with fail
 go_loopw [9,17] (fun o i wr=>∃(j:Nat)(ys:List Int)(aa:Option Addr)(ac:Nat)(rs2:List Int),j≤n∧i=.int .i64 j∧o=.slice aa j ac∧ys.length=j∧aU f [] ys=0∧wr.ownsRow 0 3 1 (.slice aa j ac) j (ys.flatMap jA)∧(∀b,aa=some b→w.heap.size≤b.block) ∧
   (∀y∈ys,O.own wr y∧∀b,O.blk y b→w.heap.size≤b∧∀a,aa=some a→b≠a.block)∧I.inv wr ys∧rs1=ys.flatMap enc++rs2∧Rr wr R A (ds++ax n++ys.flatMap enc) rs2∧Kept Q w wr) (fun _ i _=>n-(intOf i).toNat)
 case atStart=>exact⟨0,[],none,0,rs1,ae,rfl,rfl,rfl,rfl,World.ownsRow_nil _ _ _ _,(fun b h=>cj),(fun y hy=>jy),II.out,ar,nj,K2.out⟩
 case round =>
  obtain⟨j,ys,aa,ac,rs2,hj,rfl,rfl,hyl,hfe,hrow,hab,hown,hinv,hrs2,hrr,hkk⟩:=hrel;have HF:=hid hfe;have HRW:=hid hrow;have HAB:=hid hab;have HOW:=hid hown;have HIV:=hid hinv;have HRS2:=hid hrs2;have HRR:=hid hrr;have HKK:=hid hkk;clear hfe hrow hab hown hinv hrs2 hrr hkk R2 K2 II;have hj0:decide ((j:Int)<0)=false:=ar
  by_cases hlt:j<n
  ·have BN:=hid (Below.refl wr.heap.size wr);have hjm:(j:Int)<most:=ae
   have BK:=hid (show Kept (fun _=>False) wr wr from aN BN.out)
   have HC1:=hid (HE.out wr ys aa j ac _ rs2 (HKK.out.trans (aN BN.out)) (HRR.out.later BN.out) hyl hjm HF.out (aA HRW.out (fun B hB=>BN.out.block B (ay HRW.out hB))) HAB.out (fun y hy=>O.kp y _ _ _ (HOW.out y hy).1 BK.out (fun _ _=>id)) (HIK.out _ _ _ HIV.out (fun k hk hne=>BN.out.block k (Nat.lt_of_lt_of_le (HQL.out k hk) HKK.out.size))))
   have hszW:=BN.out.size;clear hjm;go_wp2_with fail
   skip
   refine HC1.out.mono ?_
   rintro e w5 (⟨⟨y,p,hy,rfl⟩,hk5⟩ | ⟨y,rfl,hfy,hoy,hby,hiv5,rs3,hrs3,hr5,hk5⟩)
   ·exact jY
   have hsz5:=hk5.size;have hwsz:=HKK.out.size
   have hqa:∀b,aa=some b→¬Q b.block:=fun b hb hq=>by
    exact kH
   have row5:w5.ownsRow 0 3 1 (.slice aa j ac) j (ys.flatMap jA):=aA HRW.out (fun B hB=>by
    have h1:=ay HRW.out hB;obtain⟨a,ha1,ha2⟩:=dF hB;exact(hk5.block B ae nr).trans (BN.out.block B h1))
   have halt:∀b,aa=some b→b.block<wr.heap.size:=fun a ha1=>ay HRW.out (dM HRW.out ha1)
   have own5:∀y'∈ys++[y],O.own w5 y'∧∀b,O.blk y' b→w.heap.size≤b∧∀a,aa=some a→b≠a.block:=by
    exact nG
   have W5:=hid hr5;have K5:=hid ((HKK.out.trans (aN BN.out)).trans hk5);have BN5:=hid (ag w5 (bq y))
   have R6:=hid (aA (w':=w5.alloc (bq y)) row5 (fun B hB=>BN5.out.block B (ay row5 hB)))
   have NC:=hid (qm w5 y)
   have hz6:=hid (show(w5.alloc (bq y)).heap.size=w5.heap.size+1 by simp)
   have HFY:=hid hfy;have HO5:=hid own5;have HI5:=hid hiv5;have HR3:=hid hrs3;have HAL:=hid halt;clear hr5 hk5 row5 HC1 hfy own5 hiv5 hrs3 hoy hby hqa halt
   go_wp2_with (at_builtin; (refine eD _ rfl (.tmp 28) (.tmp 33) 23 rfl 3 i0 _ 1 8 Tryz.underlying23 hi hz0 hz1 hz2 rfl aj _ j _ rfl R6.out ⟨w5.heap.size,0,none⟩ 1 1 (jA y) rfl rfl NC.out (qa y) ae bV ae ?_; intro B cap7 w7 hrow7 hor7; have R7:=hid hrow7; have OR7:=hid hor7; clear hrow7 hor7))
   generalize w5.alloc (bq y)=W6 at *;exact mZ
  ·exact ny
theorem Ib(O:Ow Gl)(Q:Nat→Prop)(f:List Gl→Gl→Int)(enc:Gl→List Int)(R:Nat)(A:Option Addr×Nat×Nat)(ds rs:List Int)(most:Int)(K:Nat)(cs:Array Value)(w:World)(I:Iv Q R w Gl)(h:Rr w R A ds rs)(hQ:Q R)(hQl:∀k,Q k→k<w.heap.size)(hQA:∀b off c,A.1=some ⟨b,off,c⟩→¬Q b)(hm:most≤100000)
  (hK:∀args w,(callFunc K args).run Tryz.prog w=.ok (.enter K args) w)
  (heach:∀(W:World)(ys:List Gl)(aa:Option Addr)(j ac:Nat)(ds' rs':List Int),Kept Q w W→Rr W R A ds' rs'→ys.length=j→(j:Int)<most→aU f [] ys=0→W.ownsRow 0 102 3 (.slice aa j ac) j (ys.flatMap jL)→(∀b,aa=some b→w.heap.size≤b.block)→(∀y∈ys,O.own W y)→I.inv W ys →
   Calls Tryz.prog K (#[.agg #[.int .u8 0,.bool false,.int .u64 0],.slice aa j ac]++cs) W fun e w'=>kP Q W e w'∨∃y:Gl,e=.returned (.agg #[.int .u8 y.1,.bool y.2.1,.int .u64 y.2.2])∧f ys y=0∧O.own w' y∧(∀b,O.blk y b→W.heap.size≤b)∧I.inv w' (ys++[y])∧gM Q R A ds' rs' (enc y) W w') :
  Calls Tryz.prog 137 #[cR R,.slice none 0 0,.int .i64 most,.func (.func K) #[] cs] w fun e w'=>kP Q w e w'∨∃(ys:List Gl)(aa:Option Addr)(n ac:Nat),e=.returned (.slice aa n ac)∧ys.length=n∧(n:Int)≤most∧aU f [] ys=0∧w'.ownsRow 0 102 3 (.slice aa n ac) n (ys.flatMap jL)∧(∀b,aa=some b→w.heap.size≤b.block)∧(∀y∈ys,O.own w' y∧∀b,O.blk y b→w.heap.size≤b)∧gM Q R A ds rs (ax n++ys.flatMap enc) w w':=by
 have hmc:=fw;have hcc:=iL;have HC:=hid (iH R A ds rs 0 most w h ae);have hRl:=h.lt;have HE:=hid heach;have HQ:=hid hQ;have HQL:=hid hQl;have HQA:=hid hQA;have HI0:=hid I.i0;have HIK:=hid I.ik;obtain⟨i0,hi,hz0,hz1,hz2⟩:=zO;clear h heach hQ hQl hQA
 go_enter Tryz.func137,Tryz.ntmps137
 go_wp2_with fail;refine HC.out.mono ?_
 rintro e w2 (⟨⟨y,p,hy,rfl⟩,hk⟩ | ⟨n,rfl,hn,rs1,hrs,hr2,hk2⟩)
 ·exact jN
 have R2:=hid hr2
 have K2:=hid (Kept.mono (T:=Q) hk2 (fun k hk=>lL))
 have II:=hid (HI0.out w2 hk2);have HRS:=hid hrs;clear hr2 hk2 HC hmc hcc hrs HI0;go_wp2_with fail
 go_loopw [9,17] (fun o i wr=>∃(j:Nat)(ys:List Gl)(aa:Option Addr)(ac:Nat)(rs2:List Int),j≤n∧i=.int .i64 j∧o=.slice aa j ac∧ys.length=j∧aU f [] ys=0∧wr.ownsRow 0 102 3 (.slice aa j ac) j (ys.flatMap jL)∧(∀b,aa=some b→w.heap.size≤b.block) ∧
   (∀y∈ys,O.own wr y∧∀b,O.blk y b→w.heap.size≤b∧∀a,aa=some a→b≠a.block)∧I.inv wr ys∧rs1=ys.flatMap enc++rs2∧Rr wr R A (ds++ax n++ys.flatMap enc) rs2∧Kept Q w wr) (fun _ i _=>n-(intOf i).toNat)
 case atStart=>exact⟨0,[],none,0,rs1,ae,rfl,rfl,rfl,rfl,World.ownsRow_nil _ _ _ _,(fun b h=>cj),(fun y hy=>jy),II.out,ar,nj,K2.out⟩
 case round =>
  obtain⟨j,ys,aa,ac,rs2,hj,rfl,rfl,hyl,hfe,hrow,hab,hown,hinv,hrs2,hrr,hkk⟩:=hrel;have HF:=hid hfe;have HRW:=hid hrow;have HAB:=hid hab;have HOW:=hid hown;have HIV:=hid hinv;have HRS2:=hid hrs2;have HRR:=hid hrr;have HKK:=hid hkk;clear hfe hrow hab hown hinv hrs2 hrr hkk R2 K2 II;have hj0:decide ((j:Int)<0)=false:=ar
  by_cases hlt:j<n
  ·have BN:=hid (ag wr (aQ 0 false 0));have hjm:(j:Int)<most:=ae
   have BK:=hid (show Kept (fun _=>False) wr (wr.alloc (aQ 0 false 0)) from aN BN.out)
   have HC1:=hid (HE.out (wr.alloc (aQ 0 false 0)) ys aa j ac _ rs2 (HKK.out.trans (aN BN.out)) (HRR.out.later BN.out) hyl hjm HF.out (aA HRW.out (fun B hB=>BN.out.block B (ay HRW.out hB))) HAB.out (fun y hy=>O.kp y _ _ _ (HOW.out y hy).1 BK.out (fun _ _=>id)) (HIK.out _ _ _ HIV.out (fun k hk hne=>BN.out.block k (Nat.lt_of_lt_of_le (HQL.out k hk) HKK.out.size))))
   have hszW:=BN.out.size;clear hjm;go_wp2_with fail;generalize wr.alloc (aQ 0 false 0)=W at *;refine HC1.out.mono ?_
   rintro e w5 (⟨⟨y,p,hy,rfl⟩,hk5⟩ | ⟨y,rfl,hfy,hoy,hby,hiv5,rs3,hrs3,hr5,hk5⟩)
   ·exact jY
   have hsz5:=hk5.size;have hwsz:=HKK.out.size
   have hqa:∀b,aa=some b→¬Q b.block:=fun b hb hq=>by
    exact kH
   have row5:w5.ownsRow 0 102 3 (.slice aa j ac) j (ys.flatMap jL):=aA HRW.out (fun B hB=>by
    have h1:=ay HRW.out hB;obtain⟨a,ha1,ha2⟩:=dF hB;exact(hk5.block B ae nr).trans (BN.out.block B h1))
   have halt:∀b,aa=some b→b.block<wr.heap.size:=fun a ha1=>ay HRW.out (dM HRW.out ha1)
   have own5:∀y'∈ys++[y],O.own w5 y'∧∀b,O.blk y' b→w.heap.size≤b∧∀a,aa=some a→b≠a.block:=by
    exact nG
   have W5:=hid hr5;have K5:=hid ((HKK.out.trans (aN BN.out)).trans hk5);have BN5:=hid (ag w5 (aQ y.1 y.2.1 y.2.2))
   have R6:=hid (aA (w':=w5.alloc (aQ y.1 y.2.1 y.2.2)) row5 (fun B hB=>BN5.out.block B (ay row5 hB)))
   have NC:=hid (pX w5 y)
   have hz6:=hid (show(w5.alloc (aQ y.1 y.2.1 y.2.2)).heap.size=w5.heap.size+1 by simp)
   have HFY:=hid hfy;have HO5:=hid own5;have HI5:=hid hiv5;have HR3:=hid hrs3;have HAL:=hid halt;clear hr5 hk5 row5 HC1 hfy own5 hiv5 hrs3 hoy hby hqa halt
   go_wp2_with (at_builtin; (refine eD _ rfl (.tmp 28) (.tmp 33) 24 rfl 102 i0 _ 3 16 Tryz.underlying24 hi hz0 hz1 hz2 rfl aj _ j _ rfl R6.out ⟨w5.heap.size,0,none⟩ 1 1 (jL y) rfl rfl NC.out (pV y) ae bV ae ?_; intro B cap7 w7 hrow7 hor7; have R7:=hid hrow7; have OR7:=hid hor7; clear hrow7 hor7))
   generalize w5.alloc (aQ y.1 y.2.1 y.2.2)=W6 at *;exact mZ
  ·exact ny
theorem Iy(O:Ow DaM)(Q:Nat→Prop)(f:List DaM→DaM→Int)(enc:DaM→List Int)(R:Nat)(A:Option Addr×Nat×Nat)(ds rs:List Int)(most:Int)(K:Nat)(cs:Array Value)(w:World)(I:Iv Q R w DaM)(h:Rr w R A ds rs)(hQ:Q R)(hQl:∀k,Q k→k<w.heap.size)(hQA:∀b off c,A.1=some ⟨b,off,c⟩→¬Q b)(hm:most≤100000)
  (hK:∀args w,(callFunc K args).run Tryz.prog w=.ok (.enter K args) w)
  (heach:∀(W:World)(ys:List DaM)(aa:Option Addr)(j ac:Nat)(ds' rs':List Int),Kept Q w W→Rr W R A ds' rs'→ys.length=j→(j:Int)<most→aU f [] ys=0→W.ownsRow 0 81 2 (.slice aa j ac) j (ys.flatMap (fun y=>eX (y.1,y.2.1)))→(∀b,aa=some b→w.heap.size≤b.block)→(∀y∈ys,O.own W y)→I.inv W ys →
   Calls Tryz.prog K (#[.agg #[.int .i64 0,.slice none 0 0],.slice aa j ac]++cs) W fun e w'=>kP Q W e w'∨∃y:DaM,e=.returned (.agg #[.int .i64 y.1,.slice y.2.1.1 y.2.1.2.1 y.2.1.2.2])∧f ys y=0∧O.own w' y∧(∀b,O.blk y b→W.heap.size≤b)∧I.inv w' (ys++[y])∧gM Q R A ds' rs' (enc y) W w') :
  Calls Tryz.prog 144 #[cR R,.slice none 0 0,.int .i64 most,.func (.func K) #[] cs] w fun e w'=>kP Q w e w'∨∃(ys:List DaM)(aa:Option Addr)(n ac:Nat),e=.returned (.slice aa n ac)∧ys.length=n∧(n:Int)≤most∧aU f [] ys=0∧w'.ownsRow 0 81 2 (.slice aa n ac) n (ys.flatMap (fun y=>eX (y.1,y.2.1)))∧(∀b,aa=some b→w.heap.size≤b.block)∧(∀y∈ys,O.own w' y∧∀b,O.blk y b→w.heap.size≤b)∧gM Q R A ds rs (ax n++ys.flatMap enc) w w':=by
 have hmc:=fw;have hcc:=iL;have HC:=hid (iH R A ds rs 0 most w h ae);have hRl:=h.lt;have HE:=hid heach;have HQ:=hid hQ;have HQL:=hid hQl;have HQA:=hid hQA;have HI0:=hid I.i0;have HIK:=hid I.ik;obtain⟨i0,hi,hz0,hz1,hz2⟩:=IK;clear h heach hQ hQl hQA
 go_enter Tryz.func144,Tryz.ntmps144
 go_wp2_with fail;refine HC.out.mono ?_
 rintro e w2 (⟨⟨y,p,hy,rfl⟩,hk⟩ | ⟨n,rfl,hn,rs1,hrs,hr2,hk2⟩)
 ·exact jN
 have R2:=hid hr2
 have K2:=hid (Kept.mono (T:=Q) hk2 (fun k hk=>lL))
 have II:=hid (HI0.out w2 hk2);have HRS:=hid hrs;clear hr2 hk2 HC hmc hcc hrs HI0;go_wp2_with fail
 go_loopw [9,17] (fun o i wr=>∃(j:Nat)(ys:List DaM)(aa:Option Addr)(ac:Nat)(rs2:List Int),j≤n∧i=.int .i64 j∧o=.slice aa j ac∧ys.length=j∧aU f [] ys=0∧wr.ownsRow 0 81 2 (.slice aa j ac) j (ys.flatMap (fun y=>eX (y.1,y.2.1)))∧(∀b,aa=some b→w.heap.size≤b.block) ∧
   (∀y∈ys,O.own wr y∧∀b,O.blk y b→w.heap.size≤b∧∀a,aa=some a→b≠a.block)∧I.inv wr ys∧rs1=ys.flatMap enc++rs2∧Rr wr R A (ds++ax n++ys.flatMap enc) rs2∧Kept Q w wr) (fun _ i _=>n-(intOf i).toNat)
 case atStart=>exact⟨0,[],none,0,rs1,ae,rfl,rfl,rfl,rfl,World.ownsRow_nil _ _ _ _,(fun b h=>cj),(fun y hy=>jy),II.out,ar,nj,K2.out⟩
 case round =>
  obtain⟨j,ys,aa,ac,rs2,hj,rfl,rfl,hyl,hfe,hrow,hab,hown,hinv,hrs2,hrr,hkk⟩:=hrel;have HF:=hid hfe;have HRW:=hid hrow;have HAB:=hid hab;have HOW:=hid hown;have HIV:=hid hinv;have HRS2:=hid hrs2;have HRR:=hid hrr;have HKK:=hid hkk;clear hfe hrow hab hown hinv hrs2 hrr hkk R2 K2 II;have hj0:decide ((j:Int)<0)=false:=ar
  by_cases hlt:j<n
  ·have BN:=hid (ag wr (aZ 0 none 0 0));have hjm:(j:Int)<most:=ae
   have BK:=hid (show Kept (fun _=>False) wr (wr.alloc (aZ 0 none 0 0)) from aN BN.out)
   have HC1:=hid (HE.out (wr.alloc (aZ 0 none 0 0)) ys aa j ac _ rs2 (HKK.out.trans (aN BN.out)) (HRR.out.later BN.out) hyl hjm HF.out (aA HRW.out (fun B hB=>BN.out.block B (ay HRW.out hB))) HAB.out (fun y hy=>O.kp y _ _ _ (HOW.out y hy).1 BK.out (fun _ _=>id)) (HIK.out _ _ _ HIV.out (fun k hk hne=>BN.out.block k (Nat.lt_of_lt_of_le (HQL.out k hk) HKK.out.size))))
   have hszW:=BN.out.size;clear hjm;go_wp2_with fail;generalize wr.alloc (aZ 0 none 0 0)=W at *;refine HC1.out.mono ?_
   rintro e w5 (⟨⟨y,p,hy,rfl⟩,hk5⟩ | ⟨y,rfl,hfy,hoy,hby,hiv5,rs3,hrs3,hr5,hk5⟩)
   ·exact jY
   have hsz5:=hk5.size;have hwsz:=HKK.out.size
   have hqa:∀b,aa=some b→¬Q b.block:=fun b hb hq=>by
    exact kH
   have row5:w5.ownsRow 0 81 2 (.slice aa j ac) j (ys.flatMap (fun y=>eX (y.1,y.2.1))):=aA HRW.out (fun B hB=>by
    have h1:=ay HRW.out hB;obtain⟨a,ha1,ha2⟩:=dF hB;exact(hk5.block B ae nr).trans (BN.out.block B h1))
   have halt:∀b,aa=some b→b.block<wr.heap.size:=fun a ha1=>ay HRW.out (dM HRW.out ha1)
   have own5:∀y'∈ys++[y],O.own w5 y'∧∀b,O.blk y' b→w.heap.size≤b∧∀a,aa=some a→b≠a.block:=by
    exact nG
   have W5:=hid hr5;have K5:=hid ((HKK.out.trans (aN BN.out)).trans hk5);have BN5:=hid (ag w5 (aZ y.1 y.2.1.1 y.2.1.2.1 y.2.1.2.2))
   have R6:=hid (aA (w':=w5.alloc (aZ y.1 y.2.1.1 y.2.1.2.1 y.2.1.2.2)) row5 (fun B hB=>BN5.out.block B (ay row5 hB)))
   have NC:=hid (p9 w5 (y.1,y.2.1))
   have hz6:=hid (show(w5.alloc (aZ y.1 y.2.1.1 y.2.1.2.1 y.2.1.2.2)).heap.size=w5.heap.size+1 by simp)
   have HFY:=hid hfy;have HO5:=hid own5;have HI5:=hid hiv5;have HR3:=hid hrs3;have HAL:=hid halt;clear hr5 hk5 row5 HC1 hfy own5 hiv5 hrs3 hoy hby hqa halt
   go_wp2_with (at_builtin; (refine eD _ rfl (.tmp 28) (.tmp 33) 26 rfl 81 i0 _ 2 32 Tryz.underlying26 hi hz0 hz1 hz2 rfl aj _ j _ rfl R6.out ⟨w5.heap.size,0,none⟩ 1 1 (eX (y.1,y.2.1)) rfl rfl NC.out (pY (y.1,y.2.1)) ae bV ae ?_; intro B cap7 w7 hrow7 hor7; have R7:=hid hrow7; have OR7:=hid hor7; clear hrow7 hor7))
   generalize w5.alloc (aZ y.1 y.2.1.1 y.2.1.2.1 y.2.1.2.2)=W6 at *;exact mZ
  ·exact ny
theorem KP(O:Ow Ex)(Q:Nat→Prop)(f:List Ex→Ex→Int)(enc:Ex→List Int)(R:Nat)(A:Option Addr×Nat×Nat)(ds rs:List Int)(most:Int)(K:Nat)(cs:Array Value)(w:World)(I:Iv Q R w Ex)(h:Rr w R A ds rs)(hQ:Q R)(hQl:∀k,Q k→k<w.heap.size)(hQA:∀b off c,A.1=some ⟨b,off,c⟩→¬Q b)(hm:most≤100000)
  (hK:∀args w,(callFunc K args).run Tryz.prog w=.ok (.enter K args) w)
  (heach:∀(W:World)(ys:List Ex)(aa:Option Addr)(j ac:Nat)(ds' rs':List Int),Kept Q w W→Rr W R A ds' rs'→ys.length=j→(j:Int)<most→aU f [] ys=0→W.ownsRow 0 83 2 (.slice aa j ac) j (ys.flatMap fM)→(∀b,aa=some b→w.heap.size≤b.block)→(∀y∈ys,O.own W y)→I.inv W ys →
   Calls Tryz.prog K (#[.agg #[.string ⟨#[]⟩,.int .i64 0],.slice aa j ac]++cs) W fun e w'=>kP Q W e w'∨∃y:Ex,e=.returned (.agg #[.string y.1,.int .i64 y.2])∧f ys y=0∧O.own w' y∧(∀b,O.blk y b→W.heap.size≤b)∧I.inv w' (ys++[y])∧gM Q R A ds' rs' (enc y) W w') :
  Calls Tryz.prog 147 #[cR R,.slice none 0 0,.int .i64 most,.func (.func K) #[] cs] w fun e w'=>kP Q w e w'∨∃(ys:List Ex)(aa:Option Addr)(n ac:Nat),e=.returned (.slice aa n ac)∧ys.length=n∧(n:Int)≤most∧aU f [] ys=0∧w'.ownsRow 0 83 2 (.slice aa n ac) n (ys.flatMap fM)∧(∀b,aa=some b→w.heap.size≤b.block)∧(∀y∈ys,O.own w' y∧∀b,O.blk y b→w.heap.size≤b)∧gM Q R A ds rs (ax n++ys.flatMap enc) w w':=by
 have hmc:=fw;have hcc:=iL;have HC:=hid (iH R A ds rs 0 most w h ae);have hRl:=h.lt;have HE:=hid heach;have HQ:=hid hQ;have HQL:=hid hQl;have HQA:=hid hQA;have HI0:=hid I.i0;have HIK:=hid I.ik;obtain⟨i0,hi,hz0,hz1,hz2⟩:=G0;clear h heach hQ hQl hQA
 go_enter Tryz.func147,Tryz.ntmps147
 go_wp2_with fail;refine HC.out.mono ?_
 rintro e w2 (⟨⟨y,p,hy,rfl⟩,hk⟩ | ⟨n,rfl,hn,rs1,hrs,hr2,hk2⟩)
 ·exact jN
 have R2:=hid hr2
 have K2:=hid (Kept.mono (T:=Q) hk2 (fun k hk=>lL))
 have II:=hid (HI0.out w2 hk2);have HRS:=hid hrs;clear hr2 hk2 HC hmc hcc hrs HI0;go_wp2_with fail
 go_loopw [9,17] (fun o i wr=>∃(j:Nat)(ys:List Ex)(aa:Option Addr)(ac:Nat)(rs2:List Int),j≤n∧i=.int .i64 j∧o=.slice aa j ac∧ys.length=j∧aU f [] ys=0∧wr.ownsRow 0 83 2 (.slice aa j ac) j (ys.flatMap fM)∧(∀b,aa=some b→w.heap.size≤b.block) ∧
   (∀y∈ys,O.own wr y∧∀b,O.blk y b→w.heap.size≤b∧∀a,aa=some a→b≠a.block)∧I.inv wr ys∧rs1=ys.flatMap enc++rs2∧Rr wr R A (ds++ax n++ys.flatMap enc) rs2∧Kept Q w wr) (fun _ i _=>n-(intOf i).toNat)
 case atStart=>exact⟨0,[],none,0,rs1,ae,rfl,rfl,rfl,rfl,World.ownsRow_nil _ _ _ _,(fun b h=>cj),(fun y hy=>jy),II.out,ar,nj,K2.out⟩
 case round =>
  obtain⟨j,ys,aa,ac,rs2,hj,rfl,rfl,hyl,hfe,hrow,hab,hown,hinv,hrs2,hrr,hkk⟩:=hrel;have HF:=hid hfe;have HRW:=hid hrow;have HAB:=hid hab;have HOW:=hid hown;have HIV:=hid hinv;have HRS2:=hid hrs2;have HRR:=hid hrr;have HKK:=hid hkk;clear hfe hrow hab hown hinv hrs2 hrr hkk R2 K2 II;have hj0:decide ((j:Int)<0)=false:=ar
  by_cases hlt:j<n
  ·have BN:=hid (ag wr (bj ⟨#[]⟩ 0));have hjm:(j:Int)<most:=ae
   have BK:=hid (show Kept (fun _=>False) wr (wr.alloc (bj ⟨#[]⟩ 0)) from aN BN.out)
   have HC1:=hid (HE.out (wr.alloc (bj ⟨#[]⟩ 0)) ys aa j ac _ rs2 (HKK.out.trans (aN BN.out)) (HRR.out.later BN.out) hyl hjm HF.out (aA HRW.out (fun B hB=>BN.out.block B (ay HRW.out hB))) HAB.out (fun y hy=>O.kp y _ _ _ (HOW.out y hy).1 BK.out (fun _ _=>id)) (HIK.out _ _ _ HIV.out (fun k hk hne=>BN.out.block k (Nat.lt_of_lt_of_le (HQL.out k hk) HKK.out.size))))
   have hszW:=BN.out.size;clear hjm;go_wp2_with fail;generalize wr.alloc (bj ⟨#[]⟩ 0)=W at *;refine HC1.out.mono ?_
   rintro e w5 (⟨⟨y,p,hy,rfl⟩,hk5⟩ | ⟨y,rfl,hfy,hoy,hby,hiv5,rs3,hrs3,hr5,hk5⟩)
   ·exact jY
   have hsz5:=hk5.size;have hwsz:=HKK.out.size
   have hqa:∀b,aa=some b→¬Q b.block:=fun b hb hq=>by
    exact kH
   have row5:w5.ownsRow 0 83 2 (.slice aa j ac) j (ys.flatMap fM):=aA HRW.out (fun B hB=>by
    have h1:=ay HRW.out hB;obtain⟨a,ha1,ha2⟩:=dF hB;exact(hk5.block B ae nr).trans (BN.out.block B h1))
   have halt:∀b,aa=some b→b.block<wr.heap.size:=fun a ha1=>ay HRW.out (dM HRW.out ha1)
   have own5:∀y'∈ys++[y],O.own w5 y'∧∀b,O.blk y' b→w.heap.size≤b∧∀a,aa=some a→b≠a.block:=by
    exact nG
   have W5:=hid hr5;have K5:=hid ((HKK.out.trans (aN BN.out)).trans hk5);have BN5:=hid (ag w5 (bj y.1 y.2))
   have R6:=hid (aA (w':=w5.alloc (bj y.1 y.2)) row5 (fun B hB=>BN5.out.block B (ay row5 hB)))
   have NC:=hid (qo w5 y)
   have hz6:=hid (show(w5.alloc (bj y.1 y.2)).heap.size=w5.heap.size+1 by simp)
   have HFY:=hid hfy;have HO5:=hid own5;have HI5:=hid hiv5;have HR3:=hid hrs3;have HAL:=hid halt;clear hr5 hk5 row5 HC1 hfy own5 hiv5 hrs3 hoy hby hqa halt
   go_wp2_with (at_builtin; (refine eD _ rfl (.tmp 28) (.tmp 33) 27 rfl 83 i0 _ 2 24 Tryz.underlying27 hi hz0 hz1 hz2 rfl aj _ j _ rfl R6.out ⟨w5.heap.size,0,none⟩ 1 1 (fM y) rfl rfl NC.out (qf y) ae bV ae ?_; intro B cap7 w7 hrow7 hor7; have R7:=hid hrow7; have OR7:=hid hor7; clear hrow7 hor7))
   generalize w5.alloc (bj y.1 y.2)=W6 at *;exact mZ
  ·exact ny
end Go.Proofs.YtheefojaplnnoaaGreatDoor

/-
  Texts Ym Yn.
-/
import Derived.Test.YtheefojaplnnoaaGreatDoorY00
import Derived.Test.YtheefojaplnnoaaGreatDoorY43
import Derived.Test.YtheefojaplnnoaaGreatDoorY44
set_option linter.unusedVariables false
set_option maxRecDepth 100000
set_option maxHeartbeats 16000000
namespace Go.Proofs.YtheefojaplnnoaaGreatDoor
open Go.RowKit
theorem He(O:Ow InM)(Q:Nat→Prop)(f:List InM→InM→Int)(enc:InM→List Int)(R:Nat)(A:Option Addr×Nat×Nat)(ds rs:List Int)(most:Int)(K:Nat)(cs:Array Value)(w:World)(I:Iv Q R w InM)(h:Rr w R A ds rs)(hQ:Q R)(hQl:∀k,Q k→k<w.heap.size)(hQA:∀b off c,A.1=some ⟨b,off,c⟩→¬Q b)(hm:most≤100000)
  (hK:∀args w,(callFunc K args).run Tryz.prog w=.ok (.enter K args) w)
  (heach:∀(W:World)(ys:List InM)(aa:Option Addr)(j ac:Nat)(ds' rs':List Int),Kept Q w W→Rr W R A ds' rs'→ys.length=j→(j:Int)<most→aU f [] ys=0→W.ownsRow 0 75 3 (.slice aa j ac) j (ys.flatMap (fun y=>lh (y.1,y.2.1,y.2.2.1)))→(∀b,aa=some b→w.heap.size≤b.block)→(∀y∈ys,O.own W y)→I.inv W ys →
   Calls Tryz.prog K (#[.agg #[.int .u8 0,.int .i64 0,.slice none 0 0],.slice aa j ac]++cs) W fun e w'=>kP Q W e w'∨∃y:InM,e=.returned (.agg #[.int .u8 y.1,.int .i64 y.2.1,.slice y.2.2.1.1 y.2.2.1.2.1 y.2.2.1.2.2])∧f ys y=0∧O.own w' y∧(∀b,O.blk y b→W.heap.size≤b)∧I.inv w' (ys++[y])∧gM Q R A ds' rs' (enc y) W w') :
  Calls Tryz.prog 194 #[cR R,.slice none 0 0,.int .i64 most,.func (.func K) #[] cs] w fun e w'=>kP Q w e w'∨∃(ys:List InM)(aa:Option Addr)(n ac:Nat),e=.returned (.slice aa n ac)∧ys.length=n∧(n:Int)≤most∧aU f [] ys=0∧w'.ownsRow 0 75 3 (.slice aa n ac) n (ys.flatMap (fun y=>lh (y.1,y.2.1,y.2.2.1)))∧(∀b,aa=some b→w.heap.size≤b.block)∧(∀y∈ys,O.own w' y∧∀b,O.blk y b→w.heap.size≤b)∧gM Q R A ds rs (ax n++ys.flatMap enc) w w':=by
 have hmc:=fw;have hcc:=iL;have HC:=hid (iH R A ds rs 0 most w h ae);have hRl:=h.lt;have HE:=hid heach;have HQ:=hid hQ;have HQL:=hid hQl;have HQA:=hid hQA;have HI0:=hid I.i0;have HIK:=hid I.ik;obtain⟨i0,hi,hz0,hz1,hz2⟩:=Ia;clear h heach hQ hQl hQA
 go_enter Tryz.func194,Tryz.ntmps194
 go_wp2_with fail;refine HC.out.mono ?_
 rintro e w2 (⟨⟨y,p,hy,rfl⟩,hk⟩ | ⟨n,rfl,hn,rs1,hrs,hr2,hk2⟩)
 ·exact jN
 have R2:=hid hr2
 have K2:=hid (Kept.mono (T:=Q) hk2 (fun k hk=>lL))
 have II:=hid (HI0.out w2 hk2);have HRS:=hid hrs;clear hr2 hk2 HC hmc hcc hrs HI0;go_wp2_with fail
 go_loopw [9,17] (fun o i wr=>∃(j:Nat)(ys:List InM)(aa:Option Addr)(ac:Nat)(rs2:List Int),j≤n∧i=.int .i64 j∧o=.slice aa j ac∧ys.length=j∧aU f [] ys=0∧wr.ownsRow 0 75 3 (.slice aa j ac) j (ys.flatMap (fun y=>lh (y.1,y.2.1,y.2.2.1)))∧(∀b,aa=some b→w.heap.size≤b.block) ∧
   (∀y∈ys,O.own wr y∧∀b,O.blk y b→w.heap.size≤b∧∀a,aa=some a→b≠a.block)∧I.inv wr ys∧rs1=ys.flatMap enc++rs2∧Rr wr R A (ds++ax n++ys.flatMap enc) rs2∧Kept Q w wr) (fun _ i _=>n-(intOf i).toNat)
 case atStart=>exact⟨0,[],none,0,rs1,ae,rfl,rfl,rfl,rfl,World.ownsRow_nil _ _ _ _,(fun b h=>cj),(fun y hy=>jy),II.out,ar,nj,K2.out⟩
 case round =>
  obtain⟨j,ys,aa,ac,rs2,hj,rfl,rfl,hyl,hfe,hrow,hab,hown,hinv,hrs2,hrr,hkk⟩:=hrel;have HF:=hid hfe;have HRW:=hid hrow;have HAB:=hid hab;have HOW:=hid hown;have HIV:=hid hinv;have HRS2:=hid hrs2;have HRR:=hid hrr;have HKK:=hid hkk;clear hfe hrow hab hown hinv hrs2 hrr hkk R2 K2 II;have hj0:decide ((j:Int)<0)=false:=ar
  by_cases hlt:j<n
  ·have BN:=hid (ag wr (aF 0 0 none 0 0));have hjm:(j:Int)<most:=ae
   have BK:=hid (show Kept (fun _=>False) wr (wr.alloc (aF 0 0 none 0 0)) from aN BN.out)
   have HC1:=hid (HE.out (wr.alloc (aF 0 0 none 0 0)) ys aa j ac _ rs2 (HKK.out.trans (aN BN.out)) (HRR.out.later BN.out) hyl hjm HF.out (aA HRW.out (fun B hB=>BN.out.block B (ay HRW.out hB))) HAB.out (fun y hy=>O.kp y _ _ _ (HOW.out y hy).1 BK.out (fun _ _=>id)) (HIK.out _ _ _ HIV.out (fun k hk hne=>BN.out.block k (Nat.lt_of_lt_of_le (HQL.out k hk) HKK.out.size))))
   have hszW:=BN.out.size;clear hjm;go_wp2_with fail;generalize wr.alloc (aF 0 0 none 0 0)=W at *;refine HC1.out.mono ?_
   rintro e w5 (⟨⟨y,p,hy,rfl⟩,hk5⟩ | ⟨y,rfl,hfy,hoy,hby,hiv5,rs3,hrs3,hr5,hk5⟩)
   ·exact jY
   have hsz5:=hk5.size;have hwsz:=HKK.out.size
   have hqa:∀b,aa=some b→¬Q b.block:=fun b hb hq=>by
    exact kH
   have row5:w5.ownsRow 0 75 3 (.slice aa j ac) j (ys.flatMap (fun y=>lh (y.1,y.2.1,y.2.2.1))):=aA HRW.out (fun B hB=>by
    have h1:=ay HRW.out hB;obtain⟨a,ha1,ha2⟩:=dF hB;exact(hk5.block B ae nr).trans (BN.out.block B h1))
   have halt:∀b,aa=some b→b.block<wr.heap.size:=fun a ha1=>ay HRW.out (dM HRW.out ha1)
   have own5:∀y'∈ys++[y],O.own w5 y'∧∀b,O.blk y' b→w.heap.size≤b∧∀a,aa=some a→b≠a.block:=by
    exact nG
   have W5:=hid hr5;have K5:=hid ((HKK.out.trans (aN BN.out)).trans hk5);have BN5:=hid (ag w5 (aF y.1 y.2.1 y.2.2.1.1 y.2.2.1.2.1 y.2.2.1.2.2))
   have R6:=hid (aA (w':=w5.alloc (aF y.1 y.2.1 y.2.2.1.1 y.2.2.1.2.1 y.2.2.1.2.2)) row5 (fun B hB=>BN5.out.block B (ay row5 hB)))
   have NC:=hid (qc w5 (y.1,y.2.1,y.2.2.1))
   have hz6:=hid (show(w5.alloc (aF y.1 y.2.1 y.2.2.1.1 y.2.2.1.2.1 y.2.2.1.2.2)).heap.size=w5.heap.size+1 by simp)
   have HFY:=hid hfy;have HO5:=hid own5;have HI5:=hid hiv5;have HR3:=hid hrs3;have HAL:=hid halt;clear hr5 hk5 row5 HC1 hfy own5 hiv5 hrs3 hoy hby hqa halt
   go_wp2_with (at_builtin; (refine eD _ rfl (.tmp 28) (.tmp 33) 76 rfl 75 i0 _ 3 40 Tryz.underlying76 hi hz0 hz1 hz2 rfl aj _ j _ rfl R6.out ⟨w5.heap.size,0,none⟩ 1 1 (lh (y.1,y.2.1,y.2.2.1)) rfl rfl NC.out (qd (y.1,y.2.1,y.2.2.1)) ae bV ae ?_; intro B cap7 w7 hrow7 hor7; have R7:=hid hrow7; have OR7:=hid hor7; clear hrow7 hor7))
   generalize w5.alloc (aF y.1 y.2.1 y.2.2.1.1 y.2.2.1.2.1 y.2.2.1.2.2)=W6 at *;exact mZ
  ·exact ny
theorem Iz(O:Ow FuM)(Q:Nat→Prop)(f:List FuM→FuM→Int)(enc:FuM→List Int)(R:Nat)(A:Option Addr×Nat×Nat)(ds rs:List Int)(most:Int)(K:Nat)(cs:Array Value)(w:World)(I:Iv Q R w FuM)(h:Rr w R A ds rs)(hQ:Q R)(hQl:∀k,Q k→k<w.heap.size)(hQA:∀b off c,A.1=some ⟨b,off,c⟩→¬Q b)(hm:most≤100000)
  (hK:∀args w,(callFunc K args).run Tryz.prog w=.ok (.enter K args) w)
  (heach:∀(W:World)(ys:List FuM)(aa:Option Addr)(j ac:Nat)(ds' rs':List Int),Kept Q w W→Rr W R A ds' rs'→ys.length=j→(j:Int)<most→aU f [] ys=0→W.ownsRow 0 78 3 (.slice aa j ac) j (ys.flatMap (fun y=>iA (y.1,y.2.1,y.2.2.1)))→(∀b,aa=some b→w.heap.size≤b.block)→(∀y∈ys,O.own W y)→I.inv W ys →
   Calls Tryz.prog K (#[.agg #[.int .i64 0,.string ⟨#[]⟩,.slice none 0 0],.slice aa j ac]++cs) W fun e w'=>kP Q W e w'∨∃y:FuM,e=.returned (.agg #[.int .i64 y.1,.string y.2.1,.slice y.2.2.1.1 y.2.2.1.2.1 y.2.2.1.2.2])∧f ys y=0∧O.own w' y∧(∀b,O.blk y b→W.heap.size≤b)∧I.inv w' (ys++[y])∧gM Q R A ds' rs' (enc y) W w') :
  Calls Tryz.prog 141 #[cR R,.slice none 0 0,.int .i64 most,.func (.func K) #[] cs] w fun e w'=>kP Q w e w'∨∃(ys:List FuM)(aa:Option Addr)(n ac:Nat),e=.returned (.slice aa n ac)∧ys.length=n∧(n:Int)≤most∧aU f [] ys=0∧w'.ownsRow 0 78 3 (.slice aa n ac) n (ys.flatMap (fun y=>iA (y.1,y.2.1,y.2.2.1)))∧(∀b,aa=some b→w.heap.size≤b.block)∧(∀y∈ys,O.own w' y∧∀b,O.blk y b→w.heap.size≤b)∧gM Q R A ds rs (ax n++ys.flatMap enc) w w':=by
 have hmc:=fw;have hcc:=iL;have HC:=hid (iH R A ds rs 0 most w h ae);have hRl:=h.lt;have HE:=hid heach;have HQ:=hid hQ;have HQL:=hid hQl;have HQA:=hid hQA;have HI0:=hid I.i0;have HIK:=hid I.ik;obtain⟨i0,hi,hz0,hz1,hz2⟩:=IV;clear h heach hQ hQl hQA
 go_enter Tryz.func141,Tryz.ntmps141
 go_wp2_with fail;refine HC.out.mono ?_
 rintro e w2 (⟨⟨y,p,hy,rfl⟩,hk⟩ | ⟨n,rfl,hn,rs1,hrs,hr2,hk2⟩)
 ·exact jN
 have R2:=hid hr2
 have K2:=hid (Kept.mono (T:=Q) hk2 (fun k hk=>lL))
 have II:=hid (HI0.out w2 hk2);have HRS:=hid hrs;clear hr2 hk2 HC hmc hcc hrs HI0;go_wp2_with fail
 go_loopw [9,17] (fun o i wr=>∃(j:Nat)(ys:List FuM)(aa:Option Addr)(ac:Nat)(rs2:List Int),j≤n∧i=.int .i64 j∧o=.slice aa j ac∧ys.length=j∧aU f [] ys=0∧wr.ownsRow 0 78 3 (.slice aa j ac) j (ys.flatMap (fun y=>iA (y.1,y.2.1,y.2.2.1)))∧(∀b,aa=some b→w.heap.size≤b.block) ∧
   (∀y∈ys,O.own wr y∧∀b,O.blk y b→w.heap.size≤b∧∀a,aa=some a→b≠a.block)∧I.inv wr ys∧rs1=ys.flatMap enc++rs2∧Rr wr R A (ds++ax n++ys.flatMap enc) rs2∧Kept Q w wr) (fun _ i _=>n-(intOf i).toNat)
 case atStart=>exact⟨0,[],none,0,rs1,ae,rfl,rfl,rfl,rfl,World.ownsRow_nil _ _ _ _,(fun b h=>cj),(fun y hy=>jy),II.out,ar,nj,K2.out⟩
 case round =>
  obtain⟨j,ys,aa,ac,rs2,hj,rfl,rfl,hyl,hfe,hrow,hab,hown,hinv,hrs2,hrr,hkk⟩:=hrel;have HF:=hid hfe;have HRW:=hid hrow;have HAB:=hid hab;have HOW:=hid hown;have HIV:=hid hinv;have HRS2:=hid hrs2;have HRR:=hid hrr;have HKK:=hid hkk;clear hfe hrow hab hown hinv hrs2 hrr hkk R2 K2 II;have hj0:decide ((j:Int)<0)=false:=ar
  by_cases hlt:j<n
  ·have BN:=hid (ag wr (aR 0 ⟨#[]⟩ none 0 0));have hjm:(j:Int)<most:=ae
   have BK:=hid (show Kept (fun _=>False) wr (wr.alloc (aR 0 ⟨#[]⟩ none 0 0)) from aN BN.out)
   have HC1:=hid (HE.out (wr.alloc (aR 0 ⟨#[]⟩ none 0 0)) ys aa j ac _ rs2 (HKK.out.trans (aN BN.out)) (HRR.out.later BN.out) hyl hjm HF.out (aA HRW.out (fun B hB=>BN.out.block B (ay HRW.out hB))) HAB.out (fun y hy=>O.kp y _ _ _ (HOW.out y hy).1 BK.out (fun _ _=>id)) (HIK.out _ _ _ HIV.out (fun k hk hne=>BN.out.block k (Nat.lt_of_lt_of_le (HQL.out k hk) HKK.out.size))))
   have hszW:=BN.out.size;clear hjm;go_wp2_with fail;generalize wr.alloc (aR 0 ⟨#[]⟩ none 0 0)=W at *;refine HC1.out.mono ?_
   rintro e w5 (⟨⟨y,p,hy,rfl⟩,hk5⟩ | ⟨y,rfl,hfy,hoy,hby,hiv5,rs3,hrs3,hr5,hk5⟩)
   ·exact jY
   have hsz5:=hk5.size;have hwsz:=HKK.out.size
   have hqa:∀b,aa=some b→¬Q b.block:=fun b hb hq=>by
    exact kH
   have row5:w5.ownsRow 0 78 3 (.slice aa j ac) j (ys.flatMap (fun y=>iA (y.1,y.2.1,y.2.2.1))):=aA HRW.out (fun B hB=>by
    have h1:=ay HRW.out hB;obtain⟨a,ha1,ha2⟩:=dF hB;exact(hk5.block B ae nr).trans (BN.out.block B h1))
   have halt:∀b,aa=some b→b.block<wr.heap.size:=fun a ha1=>ay HRW.out (dM HRW.out ha1)
   have own5:∀y'∈ys++[y],O.own w5 y'∧∀b,O.blk y' b→w.heap.size≤b∧∀a,aa=some a→b≠a.block:=by
    exact nG
   have W5:=hid hr5;have K5:=hid ((HKK.out.trans (aN BN.out)).trans hk5);have BN5:=hid (ag w5 (aR y.1 y.2.1 y.2.2.1.1 y.2.2.1.2.1 y.2.2.1.2.2))
   have R6:=hid (aA (w':=w5.alloc (aR y.1 y.2.1 y.2.2.1.1 y.2.2.1.2.1 y.2.2.1.2.2)) row5 (fun B hB=>BN5.out.block B (ay row5 hB)))
   have NC:=hid (lG w5 (y.1,y.2.1,y.2.2.1))
   have hz6:=hid (show(w5.alloc (aR y.1 y.2.1 y.2.2.1.1 y.2.2.1.2.1 y.2.2.1.2.2)).heap.size=w5.heap.size+1 by simp)
   have HFY:=hid hfy;have HO5:=hid own5;have HI5:=hid hiv5;have HR3:=hid hrs3;have HAL:=hid halt;clear hr5 hk5 row5 HC1 hfy own5 hiv5 hrs3 hoy hby hqa halt
   go_wp2_with (at_builtin; (refine eD _ rfl (.tmp 28) (.tmp 33) 25 rfl 78 i0 _ 3 48 Tryz.underlying25 hi hz0 hz1 hz2 rfl aj _ j _ rfl R6.out ⟨w5.heap.size,0,none⟩ 1 1 (iA (y.1,y.2.1,y.2.2.1)) rfl rfl NC.out (lQ (y.1,y.2.1,y.2.2.1)) ae bV ae ?_; intro B cap7 w7 hrow7 hor7; have R7:=hid hrow7; have OR7:=hid hor7; clear hrow7 hor7))
   generalize w5.alloc (aR y.1 y.2.1 y.2.2.1.1 y.2.2.1.2.1 y.2.2.1.2.2)=W6 at *;exact mZ
  ·exact ny
theorem ML(R:Nat)(A:Option Addr×Nat×Nat)(ds rs:List Int)(aa:Option Addr)(an ac:Nat)(Ab:Nat)(ah:List Sg)(w:World)(h:Rr w R A ds rs)(hA:w.cell? ⟨Ab,0,none⟩=some (cR R))(hah:b9 w aa an ah)(hne:∀b off c,aa=some ⟨b,off,c⟩→b≠R) :
  Calls Tryz.prog 132 #[.agg #[.string ⟨#[]⟩,.string ⟨#[]⟩],.slice aa an ac,.pointer (some ⟨Ab,0,none⟩)] w fun e w'=>Bad R w e w'∨∃x:Sg,e=.returned (.agg #[.string x.1,.string x.2])∧cQ ah x=0∧fE R A ds rs (bK x) w w':=by
 obtain⟨B0,z0,x0,x1⟩:=dL w (aX ⟨#[]⟩ ⟨#[]⟩) (aX ⟨#[]⟩ ⟨#[]⟩);have hRl:=h.lt;have hA1:=(B0.cell eH).trans hA;have HC:=hid (Ns R A ds rs aa an ac ah _ (h.later B0) (hah.later B0) hne);obtain⟨W1,hW1⟩:∃W1,(w.alloc (aX ⟨#[]⟩ ⟨#[]⟩)).alloc (aX ⟨#[]⟩ ⟨#[]⟩)=W1:=⟨_,rfl⟩;rw[hW1]at B0 z0 x0 x1 hA1 HC;have BW:=hid B0;obtain⟨a0,a1,_,_⟩:=bi x0;clear h B0 hA hah
 go_enter Tryz.func132,Tryz.ntmps132
 go_wp2_with fail;refine HC.out.mono ?_
 rintro e w5 (⟨⟨y,p,hy,rfl⟩,hk⟩ | ⟨x,rfl,hx,rs',hrs,hr5,hk5⟩)
 ·exact jc
 have q1:=(KO.block hk5 (b:=w.heap.size+1) ae ae).trans x1;obtain⟨k0,k1,k2,k3⟩:=bi q1;have hl1:=block_lt_of_cell k0;have R5:=hid hr5;have K5:=hid ((KO.of_below BW.out).trans hk5);clear hr5 hk5 x0 x1 q1 HC;go_wp2_with fail;refine bodyPost_ret (v:=.agg #[.string x.1,.string x.2]) ?_ rfl (.inr ⟨x,rfl,hx,rs',hrs,?_,?_⟩)
 ·exact cu
 ·exact uF
 ·exact uz
theorem M8(R:Nat)(A:Option Addr×Nat×Nat)(ds rs:List Int)(aa:Option Addr)(an ac:Nat)(Ab:Nat)(w:World)(h:Rr w R A ds rs)(hA:w.cell? ⟨Ab,0,none⟩=some (cR R))  :
  Calls Tryz.prog 138 #[.agg #[.int .u8 0,.bool false,.int .u64 0],.slice aa an ac,.pointer (some ⟨Ab,0,none⟩)] w fun e w'=>Bad R w e w'∨∃x:Gl,e=.returned (.agg #[.int .u8 x.1,.bool x.2.1,.int .u64 x.2.2])∧gH x=0∧0≤x.1∧x.1≤255∧0≤x.2.2∧x.2.2<18446744073709551616∧fE R A ds rs (cT x) w w':=by
 obtain⟨B0,z0,x0,x1⟩:=dL w (aQ 0 false 0) (aQ 0 false 0);have hRl:=h.lt;have hA1:=(B0.cell eH).trans hA;have HC:=hid (IU R A ds rs _ (h.later B0));obtain⟨W1,hW1⟩:∃W1,(w.alloc (aQ 0 false 0)).alloc (aQ 0 false 0)=W1:=⟨_,rfl⟩;rw[hW1]at B0 z0 x0 x1 hA1 HC;have BW:=hid B0;obtain⟨a0,a1,a2,_,_,_⟩:=aB x0;clear h B0 hA
 go_enter Tryz.func138,Tryz.ntmps138
 go_wp2_with fail;refine HC.out.mono ?_
 rintro e w5 (⟨⟨y,p,hy,rfl⟩,hk⟩ | ⟨x,rfl,hx,h0,h1,h2,h3,rs',hrs,hr5,hk5⟩)
 ·exact jc
 have q1:=(KO.block hk5 (b:=w.heap.size+1) ae ae).trans x1;obtain⟨k0,k1,k2,k3,k4,k5⟩:=aB q1;have hl1:=block_lt_of_cell k0;have R5:=hid hr5;have K5:=hid ((KO.of_below BW.out).trans hk5);clear hr5 hk5 x0 x1 q1 HC;go_wp2_with fail;refine bodyPost_ret (v:=.agg #[.int .u8 x.1,.bool x.2.1,.int .u64 x.2.2]) ?_ rfl (.inr ⟨x,rfl,hx,h0,h1,h2,h3,rs',hrs,?_,?_⟩)
 ·exact cu
 ·exact CH
 ·exact KO.set (KO.set (KO.set (K5.out) ae) ae) ae
theorem LY(R:Nat)(A:Option Addr×Nat×Nat)(ds rs:List Int)(aa:Option Addr)(an ac:Nat)(Ab:Nat)(O:Nat)(fa:Option Addr)(fn fc:Nat)(ys:List Ex)(w:World)(h:Rr w R A ds rs)(hA:w.cell? ⟨Ab,0,none⟩=some (cR R))(hO:w.cell? ⟨O,5,none⟩=some (.slice fa fn fc))(hfn:fn≤100000)(hl:ys.length=an)(han:an≤100000)(hrow:w.ownsRow 0 83 2 (.slice aa an ac) an (ys.flatMap fM))(hne:∀b,aa=some b→b.block≠R) :
  Calls Tryz.prog 148 #[.agg #[.string ⟨#[]⟩,.int .i64 0],.slice aa an ac,.pointer (some ⟨Ab,0,none⟩),.pointer (some ⟨O,0,none⟩)] w fun e w'=>Bad R w e w'∨∃x:Ex,e=.returned (.agg #[.string x.1,.int .i64 x.2])∧fk fn ys x=0∧fE R A ds rs (eA x) w w':=by
 obtain⟨B0,z0,x0,x1⟩:=dL w (bj ⟨#[]⟩ 0) (bj ⟨#[]⟩ 0);have hRl:=h.lt;have hA1:=(B0.cell eH).trans hA;have hO1:=(B0.cell (p:=⟨O,5,none⟩) j6).trans hO
 have HC:=hid (LA R A ds rs fn aa an ac ys _ (h.later B0) hl han (aA hrow (fun B hB=>B0.block B (ay hrow hB))) hne ae ae)
 obtain⟨W1,hW1⟩:∃W1,(w.alloc (bj ⟨#[]⟩ 0)).alloc (bj ⟨#[]⟩ 0)=W1:=⟨_,rfl⟩;rw[hW1]at B0 z0 x0 x1 hA1 HC hO1;have BW:=hid B0;obtain⟨a0,a1,_,_⟩:=bi x0;clear h B0 hA hO
 go_enter Tryz.func148,Tryz.ntmps148
 go_wp2_with fail;refine HC.out.mono ?_
 rintro e w5 (⟨⟨y,p,hy,rfl⟩,hk⟩ | ⟨x,rfl,hx,rs',hrs,hr5,hk5⟩)
 ·exact jc
 have q1:=(KO.block hk5 (b:=w.heap.size+1) ae ae).trans x1;obtain⟨k0,k1,k2,k3⟩:=bi q1;have hl1:=block_lt_of_cell k0;have R5:=hid hr5;have K5:=hid ((KO.of_below BW.out).trans hk5);clear hr5 hk5 x0 x1 q1 HC;go_wp2_with fail;refine bodyPost_ret (v:=.agg #[.string x.1,.int .i64 x.2]) ?_ rfl (.inr ⟨x,rfl,hx,rs',hrs,?_,?_⟩)
 ·exact cu
 ·exact uF
 ·exact uz
theorem LF(R:Nat)(A:Option Addr×Nat×Nat)(ds rs:List Int)(aa:Option Addr)(an ac:Nat)(Ab:Nat)(O:Nat)(fi:Int)(ys:List (Int×SL))(w:World)(h:Rr w R A ds rs)(hA:w.cell? ⟨Ab,0,none⟩=some (cR R))(hO:w.cell? ⟨O,3,none⟩=some (.int .i64 fi))(hf0:0≤fi)(hf1:fi≤64)(hl:ys.length=an)(han:an≤100000)(hys:∀y∈ys,0≤y.1∧y.1≤1099511627776∧y.2.2.1≤1099511627776)(hrow:w.ownsRow 0 81 2 (.slice aa an ac) an (ys.flatMap eX))(hne:∀b,aa=some b→b.block≠R) :
  Calls Tryz.prog 145 #[.agg #[.int .i64 0,.slice none 0 0],.slice aa an ac,.pointer (some ⟨Ab,0,none⟩),.pointer (some ⟨O,0,none⟩)] w fun e w'=>Bad R w e w'∨∃(pl:Int)(B n c:Nat)(zs:List Int),e=.returned (.agg #[.int .i64 pl,.slice (some ⟨B,0,none⟩) n c])∧w.heap.size≤B∧Seg w' (some ⟨B,0,none⟩) n c zs∧0≤pl∧jz (fi*4096) ys pl n=0∧zs.length=n∧fE R A ds rs (ax pl++(ax zs.length++zs)) w w':=by
 obtain⟨B0,z0,x0,x1⟩:=dL w (aZ 0 none 0 0) (aZ 0 none 0 0);have hRl:=h.lt;have hA1:=(B0.cell eH).trans hA;have hO1:=(B0.cell (p:=⟨O,3,none⟩) j6).trans hO;have hwf:wrap64 (fi*4096)=fi*4096:=dv
 have HC:=hid (JO R A ds rs (fi*4096) aa an ac ys _ (h.later B0) ae ae hl han hys (aA hrow (fun B hB=>B0.block B (ay hrow hB))) hne)
 obtain⟨W1,hW1⟩:∃W1,(w.alloc (aZ 0 none 0 0)).alloc (aZ 0 none 0 0)=W1:=⟨_,rfl⟩;rw[hW1]at B0 z0 x0 x1 hA1 HC hO1;have BW:=hid B0;obtain⟨a0,a1,_,_⟩:=bi x0;clear h B0 hA hO
 go_enter Tryz.func145,Tryz.ntmps145
 go_wp2_with fail;refine HC.out.mono ?_
 rintro e w5 (⟨⟨y,p,hy,rfl⟩,hk⟩ | ⟨pl,B,n,c,zs,rfl,hB,hsg,hp0,hx,hzn,rs',hrs,hr5,hk5⟩)
 ·exact jc
 have q1:=(KO.block hk5 (b:=w.heap.size+1) ae ae).trans x1;obtain⟨k0,k1,k2,k3⟩:=bi q1;have hl1:=block_lt_of_cell k0;have R5:=hid hr5;have K5:=hid ((KO.of_below BW.out).trans hk5);clear hr5 hk5 x0 x1 q1 HC;go_wp2_with fail;refine bodyPost_ret (v:=.agg #[.int .i64 pl,.slice (some ⟨B,0,none⟩) n c]) ?_ rfl (.inr ⟨pl,B,n,c,zs,rfl,ae,?_,hp0,hx,hzn,rs',hrs,?_,?_⟩)
 ·exact cu
 ·exact gT (gT hsg (aw _ (w.heap.size+1) 0 _) (fun b off c hb=>vN)) (aw _ (w.heap.size+1) 1 _) (fun b off c hb=>vN)
 ·exact uF
 ·exact uz
theorem NV(R:Nat)(A:Option Addr×Nat×Nat)(ds rs:List Int)(x:Int)(aa:Option Addr)(an ac:Nat)(Ab O:Nat)(ta:Option Addr)(tn tc:Nat)(w:World)(h:Rr w R A ds rs)(hA:w.cell? ⟨Ab,0,none⟩=some (cR R))(hO:w.cell? ⟨O,0,none⟩=some (.slice ta tn tc))(h2:tn≤100000) :
  Calls Tryz.prog 135 #[.int .i64 x,.slice aa an ac,.pointer (some ⟨Ab,0,none⟩),.pointer (some ⟨O,0,none⟩)] w fun e w'=>Bad R w e w'∨∃v,e=.returned (.int .i64 v)∧0≤v∧v<tn∧fE R A ds rs (ax v) w w':=by
 have HX:=hid (pE R A ds rs x tn w h ae ae);clear h
 go_enter Tryz.func135,Tryz.ntmps135
 go_wp2_with fail;refine HX.out.mono ?_
 rintro e w1 (⟨⟨y,p,hy,rfl⟩,hk⟩ | ⟨v,rfl,h0,h1,hg⟩)
 ·exact⟨rfl,.inl ⟨⟨y,p,hy,rfl⟩,hk⟩⟩
 have HG:=hid hg;clear hg HX hA hO;go_wp2_with fail;go_ret;exact .inr ⟨v,rfl,h0,h1,HG.out⟩
theorem LP(R:Nat)(A:Option Addr×Nat×Nat)(ds rs:List Int)(aa:Option Addr)(an ac:Nat)(Ab:Nat)(w:World)(h:Rr w R A ds rs)(hA:w.cell? ⟨Ab,0,none⟩=some (cR R))(hk0:aP w) :
  Calls Tryz.prog 195 #[.agg #[.int .u8 0,.int .i64 0,.slice none 0 0],.slice aa an ac,.pointer (some ⟨Ab,0,none⟩)] w fun e w'=>Bad R w e w'∨∃c a l v,e=.returned (.agg #[.int .u8 c,.int .i64 a,v])∧0≤c∧c≤255∧chk (tkV c) (lgV c) a l=0∧w'.ownsRow w.heap.size 3 1 v l.length (l.map (Value.int .i64))∧fE R A ds rs (i7 c a l) w w':=by
 obtain⟨B0,z0,x0,x1⟩:=dL w (aF 0 0 none 0 0) (aF 0 0 none 0 0);have hRl:=h.lt;have hA1:=(B0.cell eH).trans hA;have hm:=oo;have hc:=Hd;have HC:=hid (OY R A ds rs 0 0 none 0 0 _ (h.later B0) (hk0.later B0 hk0.pos));obtain⟨W1,hW1⟩:∃W1,(w.alloc (aF 0 0 none 0 0)).alloc (aF 0 0 none 0 0)=W1:=⟨_,rfl⟩;rw[hW1]at B0 z0 x0 x1 hA1 HC;have BW:=hid B0;obtain⟨a0,a1,a2,_,_,_⟩:=aB x0;clear h B0 hA hk0
 go_enter Tryz.func195,Tryz.ntmps195
 go_wp2_with fail;refine HC.out.mono ?_
 rintro e w5 (⟨⟨y,p,hy,rfl⟩,hk⟩ | ⟨c,a,l,v,rfl,c0,c1,hx,hown,rs',hrs,hr5,hk5⟩)
 ·exact jc
 obtain⟨va,vn,vc,rfl⟩:=iE hown;have HO:=hid hown;clear hown;have q1:=(KO.block hk5 (b:=w.heap.size+1) ae ae).trans x1;obtain⟨k0,k1,k2,k3,k4,k5⟩:=aB q1;have hl1:=block_lt_of_cell k0;have R5:=hid hr5;have K5:=hid ((KO.of_below BW.out).trans hk5);clear hr5 hk5 x0 x1 q1 HC;go_wp2_with fail;refine bodyPost_ret (v:=.agg #[.int .u8 c,.int .i64 a,.slice va vn vc]) ?_ rfl (.inr ⟨c,a,l,_,rfl,c0,c1,hx,?_,rs',hrs,?_,?_⟩)
 ·exact cu
 ·exact jG (fL (fL (fL HO.out ae) ae) ae) ae
 ·exact CH
 ·exact KO.set (KO.set (KO.set (K5.out) ae) ae) ae
end Go.Proofs.YtheefojaplnnoaaGreatDoor

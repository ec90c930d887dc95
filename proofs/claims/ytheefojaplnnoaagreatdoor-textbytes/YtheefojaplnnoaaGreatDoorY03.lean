/-
  Texts Ws Wt Gen Pb.
-/
import Derived.Deep.RegionHeld3
import Derived.RegionDies
import Derived.Test.YtheefojaplnnoaaGreatDoorY00
import Derived.Test.YtheefojaplnnoaaGreatDoorY01
import Derived.Test.YtheefojaplnnoaaGreatDoorY02
set_option linter.unusedVariables false
set_option maxRecDepth 100000
set_option maxHeartbeats 16000000
namespace Go.Proofs.YtheefojaplnnoaaGreatDoor
open Go.RowKit
def b9(w:World)(a:Option Addr)(n:Nat)(xs:List Sg):Prop :=
 xs.length=n∧n≤1099511627776∧(n=0∨∃b off,a=some ⟨b,off,none⟩∧∀j x,xs[j]? =some x→w.cell? ⟨b,off+j*2,none⟩=some (.string x.1)∧w.cell? ⟨b,off+j*2+1,none⟩=some (.string x.2))
theorem b9.later{w w':World}{a:Option Addr}{n:Nat}{xs:List Sg}(h:b9 w a n xs)(hb:Below w.heap.size w w'):b9 w' a n xs:=by
 refine⟨h.1,h.2.1,h.2.2.imp id ?_⟩;rintro⟨b,off,ha,hc⟩
 refine⟨b,off,ha,fun j x hj=>?_⟩
 obtain⟨h1,h2⟩:=hc j x hj
 exact⟨(hb.cell (by exact block_lt_of_cell h1)).trans h1,(hb.cell (by exact block_lt_of_cell h2)).trans h2⟩
theorem b9.kept{S:Nat→Prop}{w w':World}{a:Option Addr}{n:Nat}{xs:List Sg}(h:b9 w a n xs)(hk:Kept S w w')(hS:∀b off c,a=some ⟨b,off,c⟩→¬S b):b9 w' a n xs:=by
 refine⟨h.1,h.2.1,h.2.2.imp id ?_⟩;rintro⟨b,off,ha,hc⟩
 exact⟨b,off,ha,fun j x hj=>⟨hk.cell (hc j x hj).1 (hS _ _ _ ha),hk.cell (hc j x hj).2 (hS _ _ _ ha)⟩⟩
theorem aK{α:Type}{xs:List α}{j:Nat}{x:α}(h:xs[j]? =some x):j<xs.length:=by
 rcases Nat.lt_or_ge j xs.length with hl | hl
 ·exact hl
 ·rw[List.getElem?_eq_none hl]at h; cases h
section
variable (s p:ByteArray) (at_ beg:Int) (A B C:Nat) (aa:Option Addr) (an ac:Nat) (ah:List Sg) (w:World)
theorem CR{wr:World}{p' r':ByteArray}(hBl:B<wr.heap.size)(hCl:C<wr.heap.size)(yB:wr.cell? ⟨B,0,none⟩=some (.string p))(yC:wr.cell? ⟨C,0,none⟩=some (.int .i64 beg)) :
  let W1:=wr.alloc (aX p' r')
  W1.cell? ⟨wr.heap.size,0,none⟩=some (.string p')∧W1.cell? ⟨wr.heap.size,1,none⟩=some (.string r')∧W1.cell? ⟨B,0,none⟩=some (.string p)∧W1.cell? ⟨C,0,none⟩=some (.int .i64 beg):=by
 refine⟨cg,cg,?_,?_⟩
 ·rw[(ag wr _).cell kE]; exact yB
 ·rw[(ag wr _).cell kz]; exact yC
theorem yZ{ah:List Sg}{x y:Sg}{j:Nat}(hy:ah[j]? =some y)(h:ib ah x=false):((y.1.toList==x.1.toList)&&(y.2.toList==x.2.toList))=false:=by
 have hm:=List.mem_of_getElem? hy
 simp only[ib,List.any_eq_false]at h
 have:=h y hm
 exact bJ
theorem rG(hs:s.size≤1073741824)(hl:bO s 256=true)(hah:b9 w aa an ah)(h2:ib ah (p,s)=false)
  (hA:w.cell? ⟨A,0,none⟩=some (.slice aa an ac)) (hB:w.cell? ⟨B,0,none⟩=some (.string p)) (hC:w.cell? ⟨C,0,none⟩=some (.int .i64 beg)) :
  Calls Tryz.prog 184 #[.string s,.int .i64 at_,.pointer (some ⟨A,0,none⟩),.pointer (some ⟨B,0,none⟩),.pointer (some ⟨C,0,none⟩)] w (kX w):=by
 have HL:=hid (dt s at_ w hs hl);have hAl:=block_lt_of_cell hA;have hBl:=block_lt_of_cell hB;have hCl:=block_lt_of_cell hC;have HAH:=hid hah;have hlen:=hah.1;have hbig:=hah.2.1;clear hah
 go_enter Tryz.func184,Tryz.ntmps184
 go_wp2_with fail;refine HL.out.mono ?_;rintro e w1⟨rfl,hb⟩
 have hA1:w1.cell? ⟨A,0,none⟩=some (.slice aa an ac):=(hb.cell (by exact hAl)).trans hA
 have B1:=hid hb;have HB:=hid hB;have HC:=hid hC;clear hb hA hB hC HL;go_wp2_with fail
 go_loopw [14] (fun i wr=>∃j:Nat,j≤an∧i=.int .i64 j∧Below w.heap.size w wr) (fun i _=>an-(intOf i).toNat)
 case atStart=>exact⟨0,ae,rfl,B1.out⟩
 case round =>
  obtain⟨j,hj,rfl,hB2⟩:=hrel;have BW:=hid hB2;clear hB2
  by_cases hlt:j<an
  ·obtain⟨x,hx⟩:∃x,ah[j]? =some x:=⟨_,aO ae⟩
   obtain⟨ab,off,rfl,hc⟩:∃b off,aa=some ⟨b,off,none⟩∧∀j x,ah[j]? =some x→wr.cell? ⟨b,off+j*2,none⟩=some (.string x.1)∧wr.cell? ⟨b,off+j*2+1,none⟩=some (.string x.2):=by
    rcases (HAH.out.later BW.out).2.2 with h0 | h
    ·omega
    ·exact h
   obtain⟨y0,y1⟩:=hc j x hx;obtain⟨p',r'⟩:=x;have hne:=yZ hx h2;clear hc;have yB:wr.cell? ⟨B,0,none⟩=some (.string p):=(BW.out.cell kE).trans HB.out;have yC:wr.cell? ⟨C,0,none⟩=some (.int .i64 beg):=(BW.out.cell kz).trans HC.out;have hBl':=block_lt_of_cell yB;have hCl':=block_lt_of_cell yC
   simp only at y0 y1 hne
   obtain⟨z0,z1,z2,z3⟩:=CR (p':=p') (r':=r') p beg B C hBl' hCl' yB yC;go_wp2_with fail;have BN:=hid (ag wr (aX p' r'));generalize wr.alloc (aX p' r')=W1 at *;clear y0 y1 yB yC;exact JC
  ·go_wp2_with fail;go_end0;exact⟨rfl,BW.out⟩
theorem tW(hs:s.size≤1073741824)(hl:bO s 256=false) :
  Calls Tryz.prog 184 #[.string s,.int .i64 at_,.pointer (some ⟨A,0,none⟩),.pointer (some ⟨B,0,none⟩),.pointer (some ⟨C,0,none⟩)] w (jU 15 w):=by
 have HL:=hid (gX s at_ w hs hl)
 go_enter Tryz.func184,Tryz.ntmps184
 go_wp2_with fail;refine HL.out.mono ?_;rintro e w1⟨⟨q,rfl⟩,hb⟩;exact⟨rfl,⟨q,rfl⟩,hb⟩
theorem ol(hs:s.size≤1073741824)(hl:bO s 256=true)(hah:b9 w aa an ah)(k:Nat)(hk:∃y,ah[k]? =some y∧y.1.toList=p.toList∧y.2.toList=s.toList)(h2:ib (ah.take k) (p,s)=false)
  (hA:w.cell? ⟨A,0,none⟩=some (.slice aa an ac)) (hB:w.cell? ⟨B,0,none⟩=some (.string p)) (hC:w.cell? ⟨C,0,none⟩=some (.int .i64 beg)) :
  Calls Tryz.prog 184 #[.string s,.int .i64 at_,.pointer (some ⟨A,0,none⟩),.pointer (some ⟨B,0,none⟩),.pointer (some ⟨C,0,none⟩)] w (jU 16 w):=by
 have HL:=hid (dt s at_ w hs hl);have hAl:=block_lt_of_cell hA;have hBl:=block_lt_of_cell hB;have hCl:=block_lt_of_cell hC;have HAH:=hid hah;have hlen:=hah.1;have hbig:=hah.2.1;clear hah;obtain⟨y,hy,hy1,hy2⟩:=hk;have hkl:=aK hy;rw[hlen]at hkl
 go_enter Tryz.func184,Tryz.ntmps184
 go_wp2_with fail;refine HL.out.mono ?_;rintro e w1⟨rfl,hb⟩
 have hA1:w1.cell? ⟨A,0,none⟩=some (.slice aa an ac):=(hb.cell (by exact hAl)).trans hA
 have B1:=hid hb;have HB:=hid hB;have HC:=hid hC;clear hb hA hB hC HL;go_wp2_with fail
 go_loopw [14] (fun i wr=>∃j:Nat,j≤k∧i=.int .i64 j∧Below w.heap.size w wr) (fun i _=>an-(intOf i).toNat)
 case atStart=>exact⟨0,ae,rfl,B1.out⟩
 case round =>
  obtain⟨j,hj,rfl,hB2⟩:=hrel;have BW:=hid hB2;clear hB2;obtain⟨x,hx⟩:∃x,ah[j]? =some x:=⟨_,aO ae⟩;have hlt:j<an:=ae
  obtain⟨ab,off,rfl,hc⟩:∃b off,aa=some ⟨b,off,none⟩∧∀j x,ah[j]? =some x→wr.cell? ⟨b,off+j*2,none⟩=some (.string x.1)∧wr.cell? ⟨b,off+j*2+1,none⟩=some (.string x.2):=by
   rcases (HAH.out.later BW.out).2.2 with h0 | h
   ·omega
   ·exact h
  obtain⟨y0,y1⟩:=hc j x hx;obtain⟨p',r'⟩:=x
  have hne:j<k→((p'.toList==p.toList)&&(r'.toList==s.toList))=false:=fun hlk=>yZ (ah:=ah.take k) (x:=(p,s)) (y:=(p',r')) (j:=j) (by rw[List.getElem?_take_of_lt hlk]; exact hx) h2
  have heq:j=k→p'=y.1∧r'=y.2:=fun h=>by subst h; rw[hx]at hy; simp at hy; subst hy; exact⟨rfl,rfl⟩
  clear hc;have yB:wr.cell? ⟨B,0,none⟩=some (.string p):=(BW.out.cell kE).trans HB.out;have yC:wr.cell? ⟨C,0,none⟩=some (.int .i64 beg):=(BW.out.cell kz).trans HC.out;have hBl':=block_lt_of_cell yB;have hCl':=block_lt_of_cell yC
  simp only at y0 y1
  obtain⟨z0,z1,z2,z3⟩:=CR (p':=p') (r':=r') p beg B C hBl' hCl' yB yC;go_wp2_with fail;have BN:=hid (ag wr (aX p' r'));generalize wr.alloc (aX p' r')=W1 at *;clear y0 y1 yB yC
  by_cases hjk:j<k
  ·have hne:=hne hjk;clear heq;exact JC
  ·obtain⟨rfl,rfl⟩:=heq ae
   have k1:(y.1.toList==p.toList)=true:=by simp[hy1]
   have k2:(y.2.toList==s.toList)=true:=by simp[hy2]
   clear hne hy1 hy2
   go_region_dies
   all_goals (refine(dZ rfl).mono ?_; rintro e w' ⟨rfl,rfl⟩; exact⟨rfl,⟨_,rfl⟩,(BW.out.trans (BN.out.mono BW.out.size)).drew⟩)
end
theorem gS{w w1 w2:World}(h:Below w.heap.size w w1)(h':Below w1.heap.size w1 w2):Below w.heap.size w w2:=h.trans (h'.mono h.size)
theorem Stp.ne{R g g' b:Nat}{w w':World}(h:Stp R g g' w w')(hb:b<w.heap.size)(hn:b≠g):b≠g':=by
 rcases h.m with rfl | h
 ·exact hn
 ·omega
theorem Wr.g_lt{w:World}{R g cap:Nat}{bs:List Int}(h:Wr w R g cap bs):g<w.heap.size:=h.row.lt
theorem mE{fn:Func}{p:Tmp}{ty:TypeId}(h:fn.results=#[.cell p ty])(tmps:Array Value)(P:Program)(w:World) :
  (results fn tmps).run P w=((asAddr (tmps.getD p undef)).run P w).andThen fun a w₁=>(loadVar ty a).run P w₁:=by
 simp only[results,h]
 simp[Sem.run_bind,Result.andThen]
theorem aw(w:World)(b o:Nat)(v:Value):Kept (fun k=>k=b) w (w.setCell ⟨b,o,none⟩ v):=⟨rfl,rfl,rfl,xq,fun k hk hs=>Below.heap_setCell _ _ _ _ (by simpa using hs)⟩
theorem Wr.set{w:World}{R g cap:Nat}{bs:List Int}(h:Wr w R g cap bs){b o:Nat}{v:Value}(h1:b≠R)(h2:b≠g):Wr (w.setCell ⟨b,o,none⟩ v) R g cap bs:=h.kept (aw w b o v) (Ne.symm h1) (Ne.symm h2)
theorem Stp.set{R g g':Nat}{w w':World}(h:Stp R g g' w w'){b o:Nat}{v:Value}(hb:w.heap.size≤b):Stp R g g' w (w'.setCell ⟨b,o,none⟩ v) :=
 ⟨h.k.then (aw w' b o v) (fun k hk hb'=>ae),h.m⟩
theorem Stp.block{R g g':Nat}{w w':World}(h:Stp R g g' w w'){b:Nat}(hb:b<w.heap.size)(h1:b≠R)(h2:b≠g):w'.heap[b]? =w.heap[b]?:=h.k.block b hb (by simp[h1,h2])
theorem bi{w:World}{b:Nat}{u v:Value}{t:TypeId}(h:w.heap[b]? =some (.cells #[u,v] t)):w.cell? ⟨b,0,none⟩=some u∧w.cell? ⟨b,1,none⟩=some v∧w.frozen? ⟨b,0,none⟩=false∧w.frozen? ⟨b,1,none⟩=false:=by
 simp[World.cell?,World.frozen?,h]
def mz(w:World)(p r:ByteArray)(aa:Option Addr)(an ac:Nat)(n:Nat):World :=
 (((w.alloc (aX p r)).alloc (iY aa an ac)).alloc (aX ⟨#[]⟩ ⟨#[]⟩)).alloc (bq n)
theorem jW(w:World)(p r:ByteArray)(aa:Option Addr)(an ac n:Nat):Below w.heap.size w (mz w p r aa an ac n)∧(mz w p r aa an ac n).heap.size=w.heap.size+4 ∧
  (mz w p r aa an ac n).cell? ⟨w.heap.size,0,none⟩=some (.string p)∧(mz w p r aa an ac n).cell? ⟨w.heap.size,1,none⟩=some (.string r) ∧
  (mz w p r aa an ac n).cell? ⟨w.heap.size+1,0,none⟩=some (.slice aa an ac)∧(mz w p r aa an ac n).cell? ⟨w.heap.size+1+1+1,0,none⟩=some (.int .i64 n)∧(mz w p r aa an ac n).heap[w.heap.size+1+1]? =some (aX ⟨#[]⟩ ⟨#[]⟩):=by
 unfold mz;refine⟨?_,ar,cg,cg,cg,cg,?_⟩;rotate_left
 ·have h1:=(MapKept.heap_alloc ((w.alloc (aX p r)).alloc (iY aa an ac)) (aX ⟨#[]⟩ ⟨#[]⟩)).1;have h2:=(ag (((w.alloc (aX p r)).alloc (iY aa an ac)).alloc (aX ⟨#[]⟩ ⟨#[]⟩)) (bq n)).block (w.heap.size+1+1) ar;rw[h2]
  simpa using h1
 exact((((Below.refl _ w).alloc (Nat.le_refl _) _).alloc bu _).alloc bu _).alloc bu _
theorem zU(R g cap:Nat)(bs:List Int)(p r:ByteArray)(aa:Option Addr)(an ac:Nat)(ah:List Sg)(w:World)(h:Wr w R g cap bs)(hb:bs.length+100≤1099511627776)
  (hah:b9 w aa an ah) (hne:∀b off c,aa=some ⟨b,off,c⟩→b≠R∧b≠g) (hx:cQ ah (p,r)=0) :
  Calls Tryz.prog 133 #[cW R,.agg #[.string p,.string r],.slice aa an ac] w (pA R g bs (bK (p,r)) (.agg #[.string p,.string r]) w):=by
 obtain⟨s1,l1,s2,l2,t2⟩:=gp hx
 simp only at s1 l1 s2 l2 t2
 clear hx;obtain⟨B0,z0,x0,x1,x2,x3,x4⟩:=jW w p r aa an ac bs.length;have H4:=hid (h.later B0);have HAH:=hid (hah.later B0);have hRl:=h.lt;have hgl:=h.g_lt;have u1:=fU p 8 s1;have u2:=fU r 8 s2;have hmp:=nM;have hcp:=sH;have hmt:=dQ;have hct:=eZ
 have c0:(((w.alloc (aX p r)).alloc (iY aa an ac)).alloc (aX ⟨#[]⟩ ⟨#[]⟩)).cell? ⟨R,0,none⟩=some (.slice (some ⟨g,0,none⟩) bs.length cap):=by
  exact wD
 have HW4:(((w.alloc (aX p r)).alloc (iY aa an ac)).alloc (aX ⟨#[]⟩ ⟨#[]⟩)).alloc (bq bs.length)=mz w p r aa an ac bs.length:=rfl;generalize mz w p r aa an ac bs.length=W4 at *;have B4:=hid B0;clear h hah B0
 have HT1:=hid (dU R g cap bs p 8 183 #[] W4 H4.out ae ae ae (fun _ _=>rfl) (dt p bs.length W4 ae Dr))
 go_enter Tryz.func133,Tryz.ntmps133
 go_wp2_with fail;refine(dE R _ _ _ _ c0).mono ?_;rintro e w1⟨rfl,rfl⟩;clear c0;go_wp2_with fail;refine HT1.out.mono ?_;rintro e w5⟨rfl,g1,cap1,hw5,hs5⟩;have y0:=hs5.cell x0 ae ae;have y1:=hs5.cell x1 ae ae;have y2:=hs5.cell x2 ae ae;have y3:=hs5.cell x3 ae ae;have hN1:w.heap.size+1+1≠g1:=hs5.ne ae ae;have y4:=(hs5.block (b:=w.heap.size+1+1) ae ae ae).trans x4;have hl5:=block_lt_of_cell y3;have hl5':=block_lt_of_cell y1;have B6:=hid (ag w5 (bQ p));have N6:=hid (eB w5 (.string p) 9);have W5:=hid hw5;have S5:=hid ((Stp.of_below B4.out).trans hs5)
 have A5:=hid (HAH.out.kept hs5.k (fun b off c ha=>by have:=hne b off c ha; simp; omega))
 clear HT1 hw5 hs5 x0 x1 x2 x3 H4 HW4
 have HT2:=hid (dU R g1 cap1 (bs++ia p) r 8 184 #[.pointer (some ⟨w.heap.size+1,0,none⟩),.pointer (some ⟨w5.heap.size,0,none⟩),.pointer (some ⟨w.heap.size+1+1+1,0,none⟩)] _ (W5.out.later B6.out) ae ae aI (fun _ _=>rfl)
  (rG r p _ bs.length (w.heap.size+1) w5.heap.size (w.heap.size+1+1+1) aa an ac ah _ ae (by rw[dH r 256 8 ae s2]; exact l2) (A5.out.later B6.out) t2 ((B6.out.cell (by exact block_lt_of_cell y2)).trans y2) N6.out ((B6.out.cell (by exact hl5)).trans y3)))
 go_wp2_with fail;refine HT2.out.mono ?_;rintro e w7⟨rfl,g2,cap2,hw7,hs7⟩;have W7:=hid hw7;have S7:=hid ((S5.out.trans (Stp.of_below B6.out)).trans hs7)
 have q0:=hs7.cell N6.out ae (by have:=W5.out.g_lt; omega)
 have q1:=block_lt_of_cell q0;have hz6:(w5.alloc (bQ p)).heap.size=w5.heap.size+1:=ar;have q2:=(hs7.block (b:=w.heap.size+1+1) ae ae hN1).trans ((B6.out.block _ ae).trans y4);obtain⟨q3,q4,q5,q6⟩:=bi q2;have hN2:w.heap.size+1+1≠g2:=hs7.ne ae hN1;clear hw7 hs7 HT2 y0 y1 y2 y3 y4 q2;go_wp2_with fail;refine bodyPost_ret (v:=.agg #[.string p,.string r]) ?_ rfl ⟨rfl,g2,cap2,?_,?_⟩
 ·exact cu
 ·have:=(W7.out.set (b:=w.heap.size+1+1) (o:=0) (v:=.string p) ae hN2).set (b:=w.heap.size+1+1) (o:=1) (v:=.string r) ae hN2
  simpa[bK,ia,List.append_assoc] using this
 ·exact(S7.out.set ae).set ae
theorem uk(R g cap:Nat)(bs:List Int)(p r:ByteArray)(aa:Option Addr)(an ac:Nat)(w:World)(h:Wr w R g cap bs)(x:Int)
  (ht:∀W,Wr W R g cap bs→Calls Tryz.prog 323 #[.pointer (some ⟨R,0,none⟩),.string p,.int .i64 8,.func (.func 183) #[] #[]] W (aT R g x W)) :
  Calls Tryz.prog 133 #[cW R,.agg #[.string p,.string r],.slice aa an ac] w (aT R g x w):=by
 obtain⟨B0,z0,x0,x1,x2,x3,x4⟩:=jW w p r aa an ac bs.length;have H4:=hid (h.later B0);have hRl:=h.lt;have hgl:=h.g_lt;have hmp:=nM;have hcp:=sH;have hmt:=dQ;have hct:=eZ
 have c0:(((w.alloc (aX p r)).alloc (iY aa an ac)).alloc (aX ⟨#[]⟩ ⟨#[]⟩)).cell? ⟨R,0,none⟩=some (.slice (some ⟨g,0,none⟩) bs.length cap):=by
  exact wD
 have HW4:(((w.alloc (aX p r)).alloc (iY aa an ac)).alloc (aX ⟨#[]⟩ ⟨#[]⟩)).alloc (bq bs.length)=mz w p r aa an ac bs.length:=rfl;generalize mz w p r aa an ac bs.length=W4 at *;have B4:=hid B0;clear h B0;have HT1:=hid (ht W4 H4.out);clear ht
 go_enter Tryz.func133,Tryz.ntmps133
 go_wp2_with fail;refine(dE R _ _ _ _ c0).mono ?_;rintro e w1⟨rfl,rfl⟩;clear c0;go_wp2_with fail;refine HT1.out.mono ?_;rintro e w5⟨⟨q,rfl⟩,hk⟩;exact⟨rfl,⟨q,rfl⟩,(aN B4.out).trans hk⟩
theorem pn(R g cap:Nat)(bs:List Int)(p r:ByteArray)(aa:Option Addr)(an ac:Nat)(ah:List Sg)(w:World)(h:Wr w R g cap bs)(hb:bs.length+100≤1099511627776)
  (hah:b9 w aa an ah) (hne:∀b off c,aa=some ⟨b,off,c⟩→b≠R∧b≠g) (s1:p.size≤8) (l1:bO p 8=true) (x:Int)
  (ht:∀W g1 cap1 bs1 A B C beg,Wr W R g1 cap1 bs1→b9 W aa an ah→W.cell? ⟨A,0,none⟩=some (.slice aa an ac)→W.cell? ⟨B,0,none⟩=some (.string p)→W.cell? ⟨C,0,none⟩=some (.int .i64 beg) →
   Calls Tryz.prog 323 #[.pointer (some ⟨R,0,none⟩),.string r,.int .i64 8,.func (.func 184) #[] #[.pointer (some ⟨A,0,none⟩),.pointer (some ⟨B,0,none⟩),.pointer (some ⟨C,0,none⟩)]] W (aT R g1 x W)) :
  Calls Tryz.prog 133 #[cW R,.agg #[.string p,.string r],.slice aa an ac] w (aT R g x w):=by
 obtain⟨B0,z0,x0,x1,x2,x3,x4⟩:=jW w p r aa an ac bs.length;have H4:=hid (h.later B0);have HAH:=hid (hah.later B0);have hRl:=h.lt;have hgl:=h.g_lt;have u1:=fU p 8 s1;have hmp:=nM;have hcp:=sH;have hmt:=dQ;have hct:=eZ
 have c0:(((w.alloc (aX p r)).alloc (iY aa an ac)).alloc (aX ⟨#[]⟩ ⟨#[]⟩)).cell? ⟨R,0,none⟩=some (.slice (some ⟨g,0,none⟩) bs.length cap):=by
  exact wD
 have HW4:(((w.alloc (aX p r)).alloc (iY aa an ac)).alloc (aX ⟨#[]⟩ ⟨#[]⟩)).alloc (bq bs.length)=mz w p r aa an ac bs.length:=rfl;generalize mz w p r aa an ac bs.length=W4 at *;have B4:=hid B0;clear h hah B0
 have HT1:=hid (dU R g cap bs p 8 183 #[] W4 H4.out ae ae ae (fun _ _=>rfl) (dt p bs.length W4 ae Dr))
 have HT:=hid ht;clear ht
 go_enter Tryz.func133,Tryz.ntmps133
 go_wp2_with fail;refine(dE R _ _ _ _ c0).mono ?_;rintro e w1⟨rfl,rfl⟩;clear c0;go_wp2_with fail;refine HT1.out.mono ?_;rintro e w5⟨rfl,g1,cap1,hw5,hs5⟩;have y0:=hs5.cell x0 ae ae;have y1:=hs5.cell x1 ae ae;have y2:=hs5.cell x2 ae ae;have y3:=hs5.cell x3 ae ae;have hN1:w.heap.size+1+1≠g1:=hs5.ne ae ae;have y4:=(hs5.block (b:=w.heap.size+1+1) ae ae ae).trans x4;have hl5:=block_lt_of_cell y3;have hl5':=block_lt_of_cell y1;have B6:=hid (ag w5 (bQ p));have N6:=hid (eB w5 (.string p) 9);have W5:=hid hw5;have S5:=hid ((Stp.of_below B4.out).trans hs5)
 have A5:=hid (HAH.out.kept hs5.k (fun b off c ha=>by have:=hne b off c ha; simp; omega))
 clear HT1 hw5 hs5 x0 x1 x2 x3 H4 HW4
 have HT2:=hid (HT.out _ g1 cap1 _ (w.heap.size+1) w5.heap.size (w.heap.size+1+1+1) bs.length (W5.out.later B6.out) (A5.out.later B6.out) ((B6.out.cell (by exact block_lt_of_cell y2)).trans y2) N6.out ((B6.out.cell (by exact hl5)).trans y3))
 clear HT;go_wp2_with fail;refine HT2.out.mono ?_;rintro e w7⟨⟨q,rfl⟩,hk⟩;refine⟨rfl,⟨q,rfl⟩,?_⟩
 refine(S5.out.k.trans (aN B6.out)).then hk (fun k hkl hh=>?_)
 rcases hh with rfl | rfl
 ·exact .inl rfl
 ·rcases S5.out.m with h | h
  ·exact .inr h
  ·omega
theorem Fb(R g cap:Nat)(bs:List Int)(p r:ByteArray)(aa:Option Addr)(an ac:Nat)(ah:List Sg)(w:World)(h:Wr w R g cap bs)(hb:bs.length+100≤1099511627776)
  (hah:b9 w aa an ah) (hne:∀b off c,aa=some ⟨b,off,c⟩→b≠R∧b≠g) (hx:cQ ah (p,r)≠0) :
  Calls Tryz.prog 133 #[cW R,.agg #[.string p,.string r],.slice aa an ac] w (aT R g (cQ ah (p,r)) w):=by
 unfold cQ at hx ⊢
 simp only at hx ⊢
 by_cases s1:8<p.size
 ·rw[if_pos s1]
  exact uk R g cap bs p r aa an ac w h 13 (fun W hW=>gz R g cap bs p 8 _ W hW ae)
 rw[if_neg s1]at hx ⊢
 by_cases l1:bO p 8=false
 ·rw[if_pos l1]
  exact uk R g cap bs p r aa an ac w h 15 (fun W hW=>gh R g cap bs p 8 183 #[] 15 W hW ae (fun _ _=>rfl) (gX p bs.length W ae (by rw[dH p 256 8 ae ae]; exact l1)))
 rw[if_neg l1]at hx ⊢
 have l1':bO p 8=true:=by simpa using l1
 by_cases s2:8<r.size
 ·rw[if_pos s2]
  exact pn R g cap bs p r aa an ac ah w h hb hah hne ae l1' 13 (fun W g1 cap1 bs1 A B C beg hW _ _ _ _=>gz R g1 cap1 bs1 r 8 _ W hW ae)
 rw[if_neg s2]at hx ⊢
 by_cases l2:bO r 8=false
 ·rw[if_pos l2]
  exact pn R g cap bs p r aa an ac ah w h hb hah hne ae l1' 15 (fun W g1 cap1 bs1 A B C beg hW _ _ _ _=>gh R g1 cap1 bs1 r 8 184 _ 15 W hW ae (fun _ _=>rfl) (tW r _ A B C W ae (by rw[dH r 256 8 ae ae]; exact l2)))
 rw[if_neg l2]at hx ⊢
 have l2':bO r 8=true:=by simpa using l2
 by_cases t2:ib ah (p,r)=true
 ·rw[if_pos t2];obtain⟨k,y,h1,h2,h3,h4⟩:=yq t2
  exact pn R g cap bs p r aa an ac ah w h hb hah hne ae l1' 16 (fun W g1 cap1 bs1 A B C beg hW hA hc1 hc2 hc3=>gh R g1 cap1 bs1 r 8 184 _ 16 W hW ae (fun _ _=>rfl)
   (ol r p _ beg A B C aa an ac ah W ae (by rw[dH r 256 8 ae ae]; exact l2') hA k ⟨y,h1,h2,h3⟩ h4 hc1 hc2 hc3))
 ·rw[if_neg t2]at hx; exact absurd rfl hx
theorem ak{w:World}{b i:Nat}{a:Array Value}{t:TypeId}(h:w.heap[b]? =some (.cells a t)):w.cell? ⟨b,i,none⟩=a[i]?:=by
 simp[World.cell?,h]
theorem free_at{w:World}{b i:Nat}{a:Array Value}{t:TypeId}(h:w.heap[b]? =some (.cells a t)):w.frozen? ⟨b,i,none⟩=false:=by
 simp[World.frozen?,h]
theorem bS{w:World}{b i:Nat}{a:Array Value}{t:TypeId}{u:Value}(h:w.heap[b]? =some (.cells a t)):(w.setCell ⟨b,i,none⟩ u).heap[b]? =some (.cells (a.setIfInBounds i u) t):=by
 have hl:b<w.heap.size:=by
  exact CC
 rw[Array.getElem?_eq_getElem hl]at h
 simp only[Option.some.injEq]at h
 simp[World.setCell,hl,Array.getElem_modify,h]
theorem mF(w:World)(m:Nat):Below w.heap.size w (w.drewN m):=(Kept.drewN (fun _=>False) w m).to_below (Nat.le_refl _) (fun _ _ h=>h)
theorem az{W W':World}{b o:Nat}{u:Value}(hb:Below W.heap.size W W')(h:W.cell? ⟨b,o,none⟩=some u):W'.cell? ⟨b,o,none⟩=some u:=(hb.cell (by exact block_lt_of_cell h)).trans h
theorem nK{B:Nat}{w w1 w2:World}{S:Nat→Prop}(h:Below B w w1)(hk:Kept S w1 w2)(hB:B≤w1.heap.size)(hs:∀k,S k→B≤k):Below B w w2 :=
 ⟨hk.os.trans h.os,hk.tape.trans h.tape,hk.output.trans h.output,Nat.le_trans h.size hk.size,fun k hx=>(hk.block k ae (fun x=>by have:=hs k x; omega)).trans (h.block k hx)⟩
theorem aJ{w:World}{b:Nat}{o:Obj}(h:w.heap[b]? =some o):b<w.heap.size:=by
 exact CC
theorem au{w w':World}{b:Nat}{o:Obj}(hb:Below w.heap.size w w')(h:w.heap[b]? =some o):w'.heap[b]? =some o:=(hb.block b (aJ h)).trans h
def thL(ln:Int):Ending:=.panicked [{ v:=.iface 119 (.agg #[.int .i64 ln]),recovered:=false }]
theorem aH(R:Nat)(w:World):Calls Tryz.prog 120 #[.pointer (some ⟨R,0,none⟩),.bool true] w fun e w'=>e=.returned (.tuple #[])∧w'=w:=by
 go_enter Tryz.func120,Tryz.ntmps120
 exact lV
theorem lY(R:Nat)(ln:Int)(w:World)(h:w.cell? ⟨R,9,none⟩=some (.int .i64 ln)):Calls Tryz.prog 120 #[.pointer (some ⟨R,0,none⟩),.bool false] w fun e w'=>e=thL ln∧w'=w:=by
 go_enter Tryz.func120,Tryz.ntmps120
 go_wp2_with fail;exact⟨rfl,rfl,rfl⟩
theorem xB(R:Nat)(f p q:Int)(w:World)(h:w.cell? ⟨R,10,none⟩=some (.int .i64 p))(hf:w.frozen? ⟨R,10,none⟩=false)(h1:f≤p)(h2:p≤q) :
  Calls Tryz.prog 168 #[.pointer (some ⟨R,0,none⟩),.int .i64 f,.int .i64 q] w fun e w'=>e=.returned (.tuple #[])∧w'=w.setCell ⟨R,10,none⟩ (.int .i64 q):=by
 have HM:=hid (aH R w)
 go_enter Tryz.func168,Tryz.ntmps168
 go_wp2_with fail;refine HM.out.mono ?_;rintro e w1⟨rfl,hw⟩;have hw2:=hw.symm;subst hw2;exact lV
theorem BO(R:Nat)(f p q ln:Int)(w:World)(h9:w.cell? ⟨R,9,none⟩=some (.int .i64 ln))(h:w.cell? ⟨R,10,none⟩=some (.int .i64 p))(hn:¬(f≤p∧p≤q)) :
  Calls Tryz.prog 168 #[.pointer (some ⟨R,0,none⟩),.int .i64 f,.int .i64 q] w fun e w'=>e=thL ln∧w'=w:=by
 have HM:=hid (lY R ln w h9)
 by_cases h1:f≤p
 ·have h2:¬p≤q:=fun h2=>hn ⟨h1,h2⟩
  exact Be
 ·exact Be
theorem Jc(R:Nat)(f p q:Int)(w:World)(h:w.cell? ⟨R,10,none⟩=some (.int .i64 p))(hf:w.frozen? ⟨R,10,none⟩=false)(h1:f≤p)(h2:p<q) :
  Calls Tryz.prog 167 #[.pointer (some ⟨R,0,none⟩),.int .i64 f,.int .i64 q] w fun e w'=>e=.returned (.tuple #[])∧w'=w.setCell ⟨R,10,none⟩ (.int .i64 q):=by
 have HM:=hid (aH R w);have HN:=hid (xB R f p q w h hf h1 (Int.le_of_lt h2))
 go_enter Tryz.func167,Tryz.ntmps167
 go_wp2_with fail;refine HM.out.mono ?_;rintro e w1⟨rfl,hw⟩;have hw2:=hw.symm;subst hw2;go_wp2_with fail;refine HN.out.mono ?_;rintro e w2⟨rfl,hw⟩;exact lV
theorem MG(R:Nat)(f p q ln:Int)(w:World)(h9:w.cell? ⟨R,9,none⟩=some (.int .i64 ln))(h:w.cell? ⟨R,10,none⟩=some (.int .i64 p))(hn:¬(f≤p∧p<q)) :
  Calls Tryz.prog 167 #[.pointer (some ⟨R,0,none⟩),.int .i64 f,.int .i64 q] w fun e w'=>e=thL ln∧w'=w:=by
 by_cases h1:p<q
 ·have HM:=hid (aH R w)
  have HN:=hid (BO R f p q ln w h9 h (fun x=>hn ⟨x.1,h1⟩))
  go_enter Tryz.func167,Tryz.ntmps167
  go_wp2_with fail;refine HM.out.mono ?_;rintro e w1⟨rfl,hw⟩;have hw2:=hw.symm;subst hw2;go_wp2_with fail;refine HN.out.mono ?_;rintro e w2⟨rfl,hw⟩;exact⟨rfl,rfl,hw⟩
 ·have HM:=hid (lY R ln w h9)
  go_enter Tryz.func167,Tryz.ntmps167
  exact wM
theorem LZ(R:Nat)(p:Int)(w:World)(h:w.cell? ⟨R,10,none⟩=some (.int .i64 p))(h1:5≤p) :
  Calls Tryz.prog 57 #[.pointer (some ⟨R,0,none⟩)] w fun e w'=>e=.returned (.tuple #[])∧w'=w:=by
 have HM:=hid (aH R w)
 go_enter Tryz.func57,Tryz.ntmps57
 go_wp2_with fail;refine HM.out.mono ?_;rintro e w1⟨rfl,hw⟩;exact lV
theorem PF(R:Nat)(p ln:Int)(w:World)(h9:w.cell? ⟨R,9,none⟩=some (.int .i64 ln))(h:w.cell? ⟨R,10,none⟩=some (.int .i64 p))(h1:¬5≤p) :
  Calls Tryz.prog 57 #[.pointer (some ⟨R,0,none⟩)] w fun e w'=>e=thL ln∧w'=w:=by
 have HM:=hid (lY R ln w h9)
 go_enter Tryz.func57,Tryz.ntmps57
 exact wM
def jZ(x:Nat):Bool:=x==9 || x==13 || x==32
theorem JV(x:Nat)(w:World):Calls Tryz.prog 118 #[.int .i32 x] w fun e w'=>e=.returned (.bool (jZ x))∧w'=w:=by
 unfold jZ
 by_cases h9:x=9
 ·subst h9;exact qF
 ·by_cases h13:x=13
  ·subst h13;exact qF
  ·by_cases h32:x=32
   ·subst h32;exact qF
   ·have e9:((x:Int)==9)=false:=aI;have e13:((x:Int)==13)=false:=aI;have e32:((x:Int)==32)=false:=aI;have f9:(x==9)=false:=aI;have f13:(x==13)=false:=aI;have f32:(x==32)=false:=aI;rw[f9,f13,f32];exact qF
end Go.Proofs.YtheefojaplnnoaaGreatDoor

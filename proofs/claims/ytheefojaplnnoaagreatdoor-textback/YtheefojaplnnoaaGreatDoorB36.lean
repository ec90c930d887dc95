/-
  Texts Mf Rk Kh Laid EnvM.
-/
import Derived.ChangeArms
import Derived.Deep.AppendSrc
import Derived.FnData
import Derived.HandedShaped
import Derived.Lib.LaidTab
import Derived.OpenShut
import Derived.Stop.Joined
import Derived.Stop.LaidErr
import Derived.Test.YtheefojaplnnoaaGreatDoorCards
import Derived.Test.YtheefojaplnnoaaGreatDoorB00
import Derived.Test.YtheefojaplnnoaaGreatDoorB01
import Derived.Test.YtheefojaplnnoaaGreatDoorB03
import Derived.Test.YtheefojaplnnoaaGreatDoorB10
import Derived.Test.YtheefojaplnnoaaGreatDoorB11
import Derived.Test.YtheefojaplnnoaaGreatDoorB17
import Derived.Test.YtheefojaplnnoaaGreatDoorB18
import Derived.Test.YtheefojaplnnoaaGreatDoorB32
import Derived.Test.YtheefojaplnnoaaGreatDoorB34
import Derived.Test.YtheefojaplnnoaaGreatDoorB35
set_option linter.unusedVariables false
set_option maxRecDepth 100000
set_option maxHeartbeats 16000000
namespace Go.Proofs.YtheefojaplnnoaaGreatDoor
open Go.RowKit
theorem J7 (m : MM) (w : World) (hb : SzC w m) (pt : gp w m.ta m.tn m.types) (pf : kp w m.fa m.fn m.fns) (pd : lu w m.da m.dn m.data) (pe : lF w m.ea m.en m.exps) :
  Calls Tryz.prog 9 #[.agg (mV m)] w fun e w' => ∃ s : Nat,e = .returned (.int .i64 s) ∧ Below w.heap.size w w' ∧ (s ≤ 131072 → m.tn + m.hn + m.gn + m.fn + m.dn + m.en + (o8 m.types + js m.fns + mI m.data + kT m.exps) ≤ 131072):=by
 have B0:=ag w (.cells (mV m) 29);have b0:=heap_alloc_new w (.cells (mV m) 29)
 have hk : aR (fun _ => False) w (w.alloc (.cells (mV m) 29)):=br B0
 have PT:=hid (pt.kept hk (fun _ _ _ _ => id))
 have PF:=hid (pf.kept hk (fun _ _ _ _ => id))
 have PD:=hid (pd.kept hk (fun _ _ _ _ => id))
 have PE:=hid (pe.kept hk (fun _ _ _ _ => id))
 have PI:=hid (fun (j : Nat) x (hj : m.fns[j]? = some x) => (hb.f j x hj).2.2.1.kept hk (fun _ _ _ _ => id))
 obtain ⟨u1,u2,u3,u4,u5,u6,ut,uf,ud,ue⟩:=hb;have UT:=hid ut;have UF:=hid uf;have UD:=hid ud;have UE:=hid ue;have BW:=hid B0
 have BW2:=hid (fun (q : Nat) => (ip (w.alloc (.cells (mV m) 29)) q).mono (show w.heap.size ≤ (w.alloc (.cells (mV m) 29)).heap.size by simp))
 clear pt pf pd pe hk ut uf ud ue B0;have m0 : (w.alloc (.cells (mV m) 29)).cell? ⟨w.heap.size,0,none⟩ = some (.slice m.ta m.tn m.tc):=aj b0;have m1 : (w.alloc (.cells (mV m) 29)).cell? ⟨w.heap.size,1,none⟩ = some (.slice m.ha m.hn m.hc):=aj b0;have m2 : (w.alloc (.cells (mV m) 29)).cell? ⟨w.heap.size,2,none⟩ = some (.slice m.ga m.gn m.gc):=aj b0;have m3 : (w.alloc (.cells (mV m) 29)).cell? ⟨w.heap.size,3,none⟩ = some (.int .i64 m.fi):=aj b0;have m4 : (w.alloc (.cells (mV m) 29)).cell? ⟨w.heap.size,4,none⟩ = some (.int .i64 m.mo):=aj b0;have m5 : (w.alloc (.cells (mV m) 29)).cell? ⟨w.heap.size,5,none⟩ = some (.slice m.fa m.fn m.fc):=aj b0;have m6 : (w.alloc (.cells (mV m) 29)).cell? ⟨w.heap.size,6,none⟩ = some (.slice m.da m.dn m.dc):=aj b0;have m7 : (w.alloc (.cells (mV m) 29)).cell? ⟨w.heap.size,7,none⟩ = some (.slice m.ea m.en m.ec):=aj b0;have HW : w.alloc (bJ m.ta m.tn m.tc m.ha m.hn m.hc m.ga m.gn m.gc m.fi m.mo m.fa m.fn m.fc m.da m.dn m.dc m.ea m.en m.ec) = w.alloc (.cells (mV m) 29):=rfl;generalize w.alloc (.cells (mV m) 29) = W0 at *
 show Calls Tryz.prog 9 #[.agg #[.slice m.ta m.tn m.tc,.slice m.ha m.hn m.hc,.slice m.ga m.gn m.gc,.int .i64 m.fi,.int .i64 m.mo,.slice m.fa m.fn m.fc,.slice m.da m.dn m.dc,.slice m.ea m.en m.ec]] w _
 clear b0
 go_enter Tryz.func9,Tryz.ntmps9
 go_wp2_with fail
 go_loopw [3,4] (fun s i wr => ∃ k z : Nat,k ≤ m.tn ∧ s = .int .i64 (z : Nat) ∧ i = .int .i64 k ∧ (∃ q,wr = W0.drewN q) ∧ z ≤ 1125899906842624 ∧ Hid (m.tn + m.hn + m.gn + m.fn + m.dn + m.en + o8 (m.types.take k) ≤ z)) (fun _ i _ => m.tn - (intOf i).toNat)
 case atStart => exact ⟨0,(m.tn + m.hn + m.gn + m.fn + m.dn + m.en),ae,dh,rfl,⟨0,rfl⟩,ae,hid (by simp [o8])⟩
 case round =>
  obtain ⟨k,z1,hk,rfl,rfl,⟨q1,rfl⟩,hz1,HF1⟩:=hrel
  by_cases hlt : k < m.tn
  ·have hlt' : (k : Int) < (m.tn : Int):=ae
   by_cases hbd : z1 ≤ 2147483647
   ·obtain ⟨x,hxk⟩ : ∃ x,m.types[k]? = some x:=⟨_,aD (by rw [PT.out.1]; exact hlt)⟩
    obtain ⟨b,off,hfa,hat⟩:=PT.out.2.resolve_left ae;have hat:=hat k x hxk;have hu:=UT.out k x hxk;have hk0 : (0 : Int) ≤ (k : Int):=ae;have hbd' : (z1 : Int) ≤ 2147483647:=ae;have hbq : decide ((z1 : Int) ≤ 2147483647) = true:=decide_eq_true hbd';rw [hfa] at m0;obtain ⟨g0,g1⟩:=hat;rw [hfa];go_wp2_with fail
    go_quiet (fail)
    go_wp2_with fail
    exact ⟨⟨k + 1,z1 + x.1.size + x.2.size,ae,dh,dh,⟨_,rfl⟩,ae,hid (by have:=HF1.out; rw [BS hxk]; omega)⟩,eT⟩
   ·have hbd' : ¬ (z1 : Int) ≤ 2147483647:=ae;have hbq : decide ((z1 : Int) ≤ 2147483647) = false:=decide_eq_false hbd';exact Jr
  ·obtain rfl : k = m.tn:=ae;exact Jr
structure Szs (m : MM) : Prop where
 tn : m.tn ≤ 200000
 hn : m.hn ≤ 200000
 gn : m.gn ≤ 200000
 fn : m.fn ≤ 200000
 dn : m.dn ≤ 200000
 en : m.en ≤ 200000
 t : ∀ (j : Nat) x,m.types[j]? = some x → x.1.size ≤ 200000 ∧ x.2.size ≤ 200000
 f : ∀ (j : Nat) x,m.fns[j]? = some x → x.2.1.size ≤ 200000 ∧ x.2.2.1.2.1 ≤ 200000
 d : ∀ (j : Nat) x,m.data[j]? = some x → x.2.1.2.1 ≤ 200000
 e : ∀ (j : Nat) x,m.exps[j]? = some x → x.1.size ≤ 200000
section
variable {m : MM} {base : Nat} {w : World} {BT BH BG BF BD BE : Nat} {fs : List FuM} {ds : List DaM}
theorem Hs (h : Raw w m) (hs : m.tn + m.hn + m.gn + m.fn + m.dn + m.en + (o8 m.types + js m.fns + mI m.data + kT m.exps) ≤ 131072) : MSr w m ∧ Szs m:=by
 have hsm : Small m:=by unfold Small; omega
 obtain ⟨s1,s2,s3,s4⟩:=hsm.parts
 have s5 : ∀ (j : Nat) x,m.fns[j]? = some x → x.2.2.1.2.1 ≤ 131072:=fun j x hj => by
  have : x.2.1.size + szG x.2.2.2 x.2.2.1.2.1 ≤ js m.fns:=mz (f:=fun x : FuM => x.2.1.size + szG x.2.2.2 x.2.2.1.2.1) (List.mem_of_getElem? hj)
  exact (ou x.2.2.2 x.2.2.1.2.1 ae).1
 refine ⟨⟨h.t.sig,ae,h.h.nu,ae,h.g.gl,ae,h.f.fu,ae,fun x hx => ?_,h.d.da,ae,fun x hx => ?_,h.e.ex,ae⟩,⟨ae,ae,ae,ae,ae,ae,fun j x hj => ?_,fun j x hj => ?_,fun j x hj => ?_,fun j x hj => ?_⟩⟩
 ·obtain ⟨j,hj⟩:=List.getElem?_of_mem hx;obtain ⟨q1,q2,q3,q4⟩:=h.fg j x hj
  refine ⟨q3.in_,by have:=s5 j x hj; omega,fun y hy => ?_⟩
  obtain ⟨i,hi⟩:=List.getElem?_of_mem hy;obtain ⟨r1,r2,r3,r4⟩:=q4 i y hi
  exact ⟨r3.nu,by have:=(s2 j x hj).2 i y hi; omega⟩
 ·obtain ⟨j,hj⟩:=List.getElem?_of_mem hx;obtain ⟨q1,q2,q3⟩:=h.dg j x hj
  refine ⟨⟨q2.len,q2.at_.imp id fun ⟨b,off,e,hc⟩ => ⟨b,off,e,fun j x hj => ?_⟩⟩,by have:=s3 j x hj; omega⟩
  have:=hc j x hj 0 _ rfl
  rwa [Nat.mul_one] at this
 ·have:=s1 j x hj
  omega
 ·have:=s2 j x hj
  have:=s5 j x hj
  omega
 ·have:=s3 j x hj
  omega
 ·have:=s4 j x hj
  omega
end
theorem Tryz.cells287 : Tryz.prog.cellsOf 287 = 4:=ai
theorem Tryz.cells288 : Tryz.prog.cellsOf 288 = 28:=ai
theorem Tryz.cells5 : Tryz.prog.cellsOf 5 = 1:=ai
theorem Tryz.cells9 : Tryz.prog.cellsOf 9 = 1:=ai
theorem Tryz.kindsAt : Tryz.prog.globalNamed "flagon/ops.kinds" = some 0:=ai
theorem Tryz.kindsType : (Tryz.prog.globals[0]?).map (·.type) = some 288:=ai
theorem Mh {α : Type} : ∀ (l : List α),l.length = 4 → ∃ a b c d,l = [a,b,c,d]
 | [a,b,c,d],_ => ⟨a,b,c,d,rfl⟩
theorem MF {α : Type} : ∀ (l : List α),l.length = 7 → ∃ a b c d e f g,l = [a,b,c,d,e,f,g]
 | [a,b,c,d,e,f,g],_ => ⟨a,b,c,d,e,f,g,rfl⟩
theorem eK {H : Type} {enc : TypeId × Value → H} {w : World} {base : Nat} {sp : Nat → Bool} {held : Bool} {fuel : Nat} {cs : List Value} {f l : Int} {a s : List UInt8} {p : List MemPlace}
  (h : DataW.trod enc Tryz.prog w base sp held fuel 287 cs = some (.agg [.lit (.int .u8 f),.lit (.int .u8 l),.lit (.string a),.lit (.string s)],p)) :
  cs = [.int .u8 f,.int .u8 l,.string ⟨a.toArray⟩,.string ⟨s.toArray⟩]:=by
 obtain ⟨xs,n,_,hx,hl,hxl,hel⟩:=DataW.trod_struct Tryz.underlying287 h;rw [Tryz.cells287] at hl;obtain ⟨c0,c1,c2,c3,rfl⟩:=Mh cs hl;obtain ⟨x0,x1,x2,x3,rfl⟩:=Mh xs hxl;have e:=congrArg Prod.fst hx
 simp only [List.map_cons,List.map_nil,DataW.agg.injEq,List.cons.injEq,and_true] at e
 obtain ⟨e0,e1,e2,e3⟩:=e;have h0 : DataW.trod enc Tryz.prog w base sp held n 5 (([c0,c1,c2,c3].drop 0).take (Tryz.prog.cellsOf 5)) = some x0:=hel 0 _ rfl;have h1 : DataW.trod enc Tryz.prog w base sp held n 5 (([c0,c1,c2,c3].drop 1).take (Tryz.prog.cellsOf 5)) = some x1:=hel 1 _ rfl;have h2 : DataW.trod enc Tryz.prog w base sp held n 9 (([c0,c1,c2,c3].drop 2).take (Tryz.prog.cellsOf 9)) = some x2:=hel 2 _ rfl;have h3 : DataW.trod enc Tryz.prog w base sp held n 9 (([c0,c1,c2,c3].drop 3).take (Tryz.prog.cellsOf 9)) = some x3:=hel 3 _ rfl;rw [Tryz.cells5] at h0 h1;rw [Tryz.cells9] at h2 h3;obtain ⟨n0,g0,k0,_⟩:=DataW.trod_int Tryz.underlying5 h0;obtain ⟨n1,g1,k1,_⟩:=DataW.trod_int Tryz.underlying5 h1;obtain ⟨s2,g2,k2,_⟩:=DataW.trod_string Tryz.underlying9 h2;obtain ⟨s3,g3,k3,_⟩:=DataW.trod_string Tryz.underlying9 h3;clear hel h hx h0 h1 h2 h3;rw [k0] at e0;rw [k1] at e1;rw [k2] at e2;rw [k3] at e3
 simp only [DataW.lit.injEq,Lit.int.injEq,true_and,Lit.string.injEq] at e0 e1 e2 e3
 simp only [List.drop_zero,List.drop_succ_cons,List.take_succ_cons,List.take_zero,List.cons.injEq,and_true] at g0 g1 g2 g3
 rw [g0,g1,g2,g3,e0,e1,e2,e3]
theorem Ll (l : List Value) (h : l.length = 28) : l = l.take 4 ++ ((l.drop 4).take 4 ++ ((l.drop 8).take 4 ++ ((l.drop 12).take 4 ++ ((l.drop 16).take 4 ++ ((l.drop 20).take 4 ++ (l.drop 24).take 4))))):=by
 have e : ∀ n,l.drop n = (l.drop n).take 4 ++ l.drop (n + 4):=fun n => by
  have:=(List.take_append_drop 4 (l.drop n)).symm
  rwa [List.drop_drop] at this
 have e6 : l.drop 24 = (l.drop 24).take 4:=by rw [List.take_of_length_le aK]
 have e5:=e 20; have e4:=e 16; have e3:=e 12; have e2:=e 8; have e1:=e 4; have e0:=e 0
 simp only [List.drop_zero,Nat.zero_add,Nat.reduceAdd] at e0 e1 e2 e3 e4 e5
 rw [← e6,← e5,← e4,← e3,← e2,← e1,← e0]
theorem qa {W : World} {rest : List (String × DataW Unit)} (h : laidMet Tryz.prog (("flagon/ops.kinds",Rows.laid_flagon_ops_kinds) :: rest) W) : aQ W:=by
 obtain ⟨ps,⟨g',t',cs,fuel,p,q,hg',ht',hvar,hd,_,_⟩,_⟩:=h;obtain rfl:=Option.some.inj (Tryz.kindsAt.symm.trans hg');obtain rfl:=Option.some.inj (Tryz.kindsType.symm.trans ht');obtain ⟨xs,n,_,hx,hl,hxl,hel⟩:=DataW.trod_array Tryz.underlying288 hd;rw [Tryz.cells288] at hl;obtain ⟨x0,x1,x2,x3,x4,x5,x6,rfl⟩:=MF xs hxl;have e:=congrArg Prod.fst hx
 simp only [Rows.laid_flagon_ops_kinds,List.map_cons,List.map_nil,DataW.agg.injEq,List.cons.injEq,and_true] at e
 obtain ⟨e0,e1,e2,e3,e4,e5,e6⟩:=e;have h0:=hel 0 aq; have h1:=hel 1 aq; have h2:=hel 2 aq; have h3:=hel 3 aq; have h4:=hel 4 aq; have h5:=hel 5 aq; have h6:=hel 6 aq
 simp only [Tryz.cells287,Nat.reduceMul,List.drop_zero,List.getElem?_cons_zero,List.getElem?_cons_succ] at h0 h1 h2 h3 h4 h5 h6
 obtain ⟨d0,p0⟩:=x0; obtain ⟨d1,p1⟩:=x1; obtain ⟨d2,p2⟩:=x2; obtain ⟨d3,p3⟩:=x3; obtain ⟨d4,p4⟩:=x4; obtain ⟨d5,p5⟩:=x5; obtain ⟨d6,p6⟩:=x6
 simp only at e0 e1 e2 e3 e4 e5 e6
 subst e0 e1 e2 e3 e4 e5 e6
 have hcs : cs.toList = mJ:=by
  rw [Ll _ hl,eK h0,eK h1,eK h2,eK h3,eK h4,eK h5,eK h6];rfl
 intro j v hj;rw [World.var?_cell Tryz.kindsAt hvar j,← Array.getElem?_toList,hcs];exact hj
open Go.ChangeShapes Go.WideShapes Go.ChangeAt Go.RowKit
theorem JK : ownKnob Tryz.prog.godebug = none:=ai
theorem laidOut : laidOutB Tryz.prog = true:=ai
abbrev jp : List (String × DataW Unit):=Rows.textPrintsRow.laid
theorem pN (W : World) : laidMetH Tryz.prog jp W = laidMet Tryz.prog jp W:=MakeChecks.laidMetH_plain _ _ _ ai
theorem met (os : Os) (args : Array Value) : laidMetH Tryz.prog jp ((World.laidAll Tryz.prog os jp).forCall (fun _ _ => 0) ⟨#[],args,[]⟩).memory:=by
 rw [pN];exact laidMet_laidAll _ ai ai
theorem kinds_met {W : World} (h : laidMet Tryz.prog jp W) : aQ W :=
 qa (laidMet.tail (laidMet.tail (laidMet.tail (laidMet.tail (laidMet.tail (laidMet.tail h))))))
theorem CI {W : World} (h : laidMet Tryz.prog jp W) : gN W.heap.size W :=
 Lib.tabBelow_of_tabIs (Lib.tabIs_of_head (g:=4) (t:=317) (e:=100) (n:=20) ai ai ai ai ai ai (laidMet.tail (laidMet.tail h)))
theorem Tryz.cells338 : Tryz.prog.cellsOf 338 = 1:=ai
theorem Tryz.star : "*" ++ "errors.errorString" = "*errors.errorString":=aq
theorem Ee (u : TypeId) (h : Tryz.prog.typeName? 3 u = some "*errors.errorString") : u = 336 :=
 typeName_ptr_named (nm:= "errors.errorString") (by rw [Tryz.star]; kernel_rfl) ai aq u (by rw [Tryz.star]; exact h)
theorem qF {W W' : World} {n : String} {g : Nat} {cs : Array Value} (hg : Tryz.prog.globalNamed n = some g) (h : W.var? Tryz.prog n = some cs) (hb : Below W.heap.size W W') : W'.var? Tryz.prog n = some cs:=by
 unfold World.var? at h ⊢
 simp only [hg,Option.bind_some] at h ⊢
 have hlt : g < W.heap.size:=by
  rcases Nat.lt_or_ge g W.heap.size with h' | h'
  ·exact h'
  ·simp [Array.getElem?_eq_none h'] at h
 rw [hb.block g hlt];exact h
theorem Cv {W : World} (h : laidMet Tryz.prog jp W) : qb W.heap.size W:=by
 have h4:=laidMet.tail (laidMet.tail (laidMet.tail (laidMet.tail h)));obtain ⟨a0,s0,hv0,-,-,-⟩:=laid_sentinel (g:=6) (ti:=222) (tp:=336) (te:=338) (ts:=9) h4 ai ai Tryz.underlying222 Ee Tryz.underlying336 Tryz.underlying338 rfl rfl Tryz.underlying9 Tryz.cells338 Tryz.cells9;obtain ⟨a1,s1,hv1,-,-,-⟩:=laid_sentinel (g:=5) (ti:=222) (tp:=336) (te:=338) (ts:=9) (laidMet.tail h4) ai ai Tryz.underlying222 Ee Tryz.underlying336 Tryz.underlying338 rfl rfl Tryz.underlying9 Tryz.cells338 Tryz.cells9
 exact ⟨⟨_,_,fun W' hb => qF (g:=5) ai hv1 hb⟩,⟨_,_,fun W' hb => qF (g:=6) ai hv0 hb⟩⟩
theorem Fy (w : World) (h : w.ShapedOpen Tryz.prog) : oD w :=
 (fun w h => Go.Proofs.cell_of_shapedOpen_int (zero:=#[.int .i64 0]) (t:=3) h (of_decide_eq_true ai) ai rfl ai ai Tryz.underlying3) w h
theorem Ji {W : World} (hL : laidMetH Tryz.prog jp W) (hs : W.ShapedOpen Tryz.prog) : bT W.heap.size W:=by
 rw [pN] at hL;have hm:=Fy W hs;refine ⟨CI hL,Cv hL,kinds_met hL,hm,?_,Nat.le_refl _⟩;obtain ⟨m,hc⟩:=hm;exact World.block_lt_of_cell? W ⟨3,0,none⟩ hc
end Go.Proofs.YtheefojaplnnoaaGreatDoor

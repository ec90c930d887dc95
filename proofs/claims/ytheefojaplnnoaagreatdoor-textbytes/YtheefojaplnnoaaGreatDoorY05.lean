/-
  Texts Bs Ls Nz Lda Wd.
-/
import Derived.Deep.RegionHeld3
import Derived.Laws.BytesArg
import Derived.Test.YtheefojaplnnoaaGreatDoorY00
import Derived.Test.YtheefojaplnnoaaGreatDoorY01
import Derived.Test.YtheefojaplnnoaaGreatDoorY03
import Derived.Test.YtheefojaplnnoaaGreatDoorY04
set_option linter.unusedVariables false
set_option maxRecDepth 100000
set_option maxHeartbeats 16000000
namespace Go.Proofs.YtheefojaplnnoaaGreatDoor
open Go.RowKit
theorem SE:Tryz.prog.underlying 163=some (.pointer 5):=ai
theorem JH{T:TypeId}(hT:BT T)(B b:Nat)(l:List UInt8)(w:World)(h:Lib.IsBuilder T 5 B b (Lib.byteCells l) w)(h0:l≠[]) :
  Calls Tryz.prog 33 #[.pointer (some ⟨b,0,none⟩)] w fun e w'=>e=.returned (.string ⟨l.toArray⟩)∧Below B w w':=by
 obtain⟨p,hB,v,hbk,hown,hne⟩:∃p,Lib.BuilderAt T 5 B b p (Lib.byteCells l) w:=by
  rcases h with h | h
  ·exact⟨_,h⟩
  ·exact⟨_,h⟩
 have hl0:l.length≠0:=by simpa using h0
 rw[Lib.byteCells_length]at hown
 obtain⟨g,cap,cur,rfl,hbg,hg,hnc,hcm,hcs,htake⟩:∃g cap cur,v=.slice (some ⟨g,0,none⟩) l.length cap∧B≤g∧w.heap[g]? =some (.cells cur 5 (0,0))∧l.length≤cap∧cap≤maxLen∧cur.size=cap*1∧cur.toList.take (l.length*1)=Lib.byteCells l:=by
  rcases hown.2 with ⟨_,hz⟩ | ⟨g,cap,cur,hv,r⟩
  ·exact absurd hz hl0
  ·exact⟨g,cap,cur,hv,r⟩
 have c1:w.drew.cell? ⟨b,1,none⟩=some (.slice (some ⟨g,0,none⟩) l.length cap):=by
  have:w.drew.heap[b]? =some (.cells #[p,.slice (some ⟨g,0,none⟩) l.length cap] T (0,0)):=hbk
  rw[Lib.cell_of_heap this]; rfl
 have hSD:(Builtin.unsafeSliceData_ #[63] 163 #[.slice (some ⟨g,0,none⟩) l.length cap]).run Tryz.prog w.drew=.ok (.pointer (some ⟨g,0,none⟩)) w.drew :=
  Lib.run_unsafeSliceData_row _ _ _ _ _ _ ae
 have hUS:(Builtin.unsafeString_ #[163,3] 9 #[.pointer (some ⟨g,0,none⟩),.int .i64 l.length]).run Tryz.prog w.drew=.ok (.string ⟨l.toArray⟩) (w.drew.freeze ⟨g,0,none⟩ l.length):=by
  refine Lib.run_unsafeString_row w.drew 163 3 9 5 SE cells5 g cur.size (by have hg':w.drew.heap[g]? =some (.cells cur 5 (0,0)):=hg; simp[World.shape?,hg']) l h0 ae (by unfold maxLen at hcm; omega) ?_
  intro j x hx
  have:=hown.cells (g:=g) rfl j (.int .u8 x.toNat) (by simp[Lib.byteCells,hx])
  exact this
 go_enter Tryz.func33,Tryz.ntmps33
 go_wp2
 go_region
 all_goals (go_wp2; go_ret; exact⟨rfl,Lib.below_freeze (Below.drew (Below.refl B w)) (p:=⟨g,0,none⟩) hbg _⟩)
def bI(xs:List ByteArray):List UInt8:=Lib.join (xs.map (·.data.toList)) [32]++[10]
theorem kK{T:TypeId}{B b:Nat}{p:Value}{bs:List Value}{w w':World}(h:Lib.BuilderAt T 5 B b p bs w)(hb:Below w.heap.size w w'):Lib.BuilderAt T 5 B b p bs w':=by
 have hlt:=h.lt;obtain⟨hB,v,hbk,hown,hne⟩:=h
 exact⟨hB,v,(hb.block b hlt).trans hbk,hown.kept (row:=none) ⟨hb.os,hb.tape,hb.output,hb.size,fun k hk _=>hb.block k hk⟩ (by cases v.ownBlock <;> simp),hne⟩
theorem cP{T:TypeId}{B b:Nat}{bs:List Value}{w w':World}(h:Lib.IsBuilder T 5 B b bs w)(hb:Below w.heap.size w w'):Lib.IsBuilder T 5 B b bs w':=by
 rcases h with h | h
 ·exact .inl (kK h hb)
 ·exact .inr (kK h hb)
theorem mP(B b bk o c:Nat)(xs:List ByteArray)(l:List UInt8)(w:World)(h:Lib.IsBuilder 96 5 B b (Lib.byteCells l) w)(hBw:B≤w.heap.size)
  (hcells:∀(j:Nat)x,xs[j]? =some x→w.cell? ⟨bk,o+j,none⟩=some (.string x)) (hbk:bk<w.heap.size) (hcap:xs.length≤c)
  (hlen:l.length+xs.length+(bI xs).length≤140737488355328) :
  Calls Tryz.prog 92 #[.pointer (some ⟨b,0,none⟩),.slice (some ⟨bk,o,none⟩) xs.length c] w fun e w'=>e=.returned (.tuple #[])∧Lib.BuilderAt 96 5 B b (.pointer (some ⟨b,0,none⟩)) (Lib.byteCells (l++bI xs)) w'∧Below B w w'∧cY b w w':=by
 have hl2:(bI xs).length=(Lib.join (xs.map (·.data.toList)) [32]).length+1:=by simp[bI]
 have HJ:=hid (Tryz.strings_Join bk o c xs ⟨#[32]⟩ w.drew hcells hbk ae hcap (by show(Lib.join (xs.map (·.data.toList)) [32]).length≤140737488355328; omega))
 have HB:=hid (fun(W:World) (hW:Below w.heap.size w.drew W)=>(Below.trans ((Below.refl w.heap.size w).drew) hW:Below w.heap.size w W))
 have HP:=hid (fun(W:World) (hW:Below w.heap.size w W)=>zN Q0 B b (Lib.byteCells l) ⟨(Lib.join (xs.map (·.data.toList)) [32]).toArray⟩ W (cP h hW) (by rw[Lib.byteCells_length]; show l.length+(Lib.join (xs.map (·.data.toList)) [32]).toArray.size≤_; simp; omega) (Nat.le_trans hBw hW.size))
 clear hcells hbk hcap h
 go_enter Tryz.func92,Tryz.ntmps92
 go_wp2_with fail
 go_region_held3 (fun _=>True) (exact trivial) (first
  | (go_at_call 153; refine HJ.out.mono ?_; rintro e w1⟨rfl,h1⟩; have B1:=hid (HB.out w1 h1); clear h1)
  | (go_at_call 152; refine(HP.out _ B1.out).mono ?_; rintro e w2⟨rfl,h2,hw2,hh2⟩; have H2:=hid h2; have B2:=hid hw2; have D2:=hid hh2; clear h2 hw2 hh2))
 all_goals
  have z2:B≤w2.heap.size:=Nat.le_trans hBw (Nat.le_trans B1.out.size B2.out.size)
  have HQ:=hid (mI Q0 B b _ 10 w2 (.inr H2.out) (by simp[Lib.byteCells_length,Lib.strCells_length,ByteArray.size]; omega) z2)
  go_wp2_with (go_at_call 154; refine HQ.out.mono ?_)
  rintro e w3⟨rfl,h3,hw3,hh3⟩;go_wp2;go_end0;refine⟨rfl,?_,(B1.out.mono hBw).trans (B2.out.trans hw3),(cY.of_below B1.out).trans (D2.out.trans hh3)⟩
  have e:Lib.byteCells (l++bI xs)=Lib.byteCells l++Lib.strCells ⟨(Lib.join (xs.map (·.data.toList)) [32]).toArray⟩++[.int .u8 10]:=by
   rw[Lib.byteCells_append,bI,Lib.byteCells_append,← List.append_assoc];rfl
  rw[e];exact h3
theorem QU(m:Bool)(w:World):Calls Tryz.prog 95 #[.bool m] w fun e w'=>e=.returned (.string (if m then ⟨#[118,97,114]⟩ else ⟨#[99,111,110,115,116]⟩))∧w'=w:=by
 cases m
 all_goals
  go_enter Tryz.func95,Tryz.ntmps95
  exact jS
theorem ay{w:World}{base:Nat}{e:TypeId}{size:Nat}{v:Value}{n:Nat}{xs:List Value}{B:Nat}(h:w.ownsRow base e size v n xs)(hB:v.ownBlock=some B):B<w.heap.size:=by
 rcases h.2 with ⟨rfl,_⟩ | ⟨g,cp,cur,rfl,h2,h3,h4⟩
 ·simp[Value.ownBlock]at hB
 ·obtain rfl:g=B:=by simpa[Value.ownBlock] using hB
  rcases Nat.lt_or_ge g w.heap.size with hl | hl
  ·exact hl
  ·rw[Array.getElem?_eq_none hl]at h3; cases h3
theorem dF{aa:Option Addr}{j ac B:Nat}(h:(Value.slice aa j ac).ownBlock=some B):∃a,aa=some a∧a.block=B:=by
 cases aa with
 | none=>simp[Value.ownBlock]at h
 | some a=>exact⟨a,rfl,by simpa[Value.ownBlock] using h⟩
theorem dM{w:World}{base:Nat}{e:TypeId}{size:Nat}{aa:Option Addr}{j ac n:Nat}{xs:List Value}{a:Addr}(h:w.ownsRow base e size (.slice aa j ac) n xs)(ha:aa=some a):(Value.slice aa j ac).ownBlock=some a.block:=by
 subst ha; simp[Value.ownBlock]
theorem tH{α:Type}(enc:α→List Int){xs:List α}{j:Nat}{x:α}(hx:xs[j]? =some x):(xs.take (j+1)).flatMap enc=(xs.take j).flatMap enc++enc x:=by
 have hj:=aK hx;rw[List.take_succ_eq_append_getElem hj];rw[aO hj]at hx
 simp at hx
 simp[hx]
theorem dI{α:Type}(enc:α→List Int)(M:Nat):∀(xs:List α),(∀(j:Nat)x,xs[j]? =some x→(enc x).length≤M)→(xs.flatMap enc).length≤xs.length*M
 | [],_=>by simp
 | x::r,h=>by
  have h0:=h 0 x rfl
  have h1:=dI enc M r (fun j y hj=>h (j+1) y (by simpa using hj))
  simp only[List.flatMap_cons,List.length_append,List.length_cons]
  rw[Nat.add_mul,Nat.one_mul];omega
theorem flat_get{α:Type}{oc:α→List Value}{CS:Nat}(hoc:∀y,(oc y).length=CS):∀(ys:List α)(i t:Nat)(y:α)(u:Value),ys[i]? =some y→(oc y)[t]? =some u→(ys.flatMap oc)[i*CS+t]? =some u
 | [],i,t,y,u,h,_=>by simp at h
 | z::r,0,t,y,u,h,hu=>by
  simp at h
  subst h;have ht:=aK hu
  simp only[List.flatMap_cons,Nat.zero_mul,Nat.zero_add]
  rw[List.getElem?_append_left ht];exact hu
 | z::r,i+1,t,y,u,h,hu=>by
  have h':r[i]? =some y:=nI
  have:=flat_get hoc r i t y u h' hu
  simp only[List.flatMap_cons]
  rw[List.getElem?_append_right (by rw[hoc,Nat.add_mul]; omega),hoc]
  have e:(i+1)*CS+t-CS=i*CS+t:=by rw[Nat.add_mul]; omega
  rw[e];exact this
theorem jF{w:World}{TE:TypeId}{CS:Nat}{aa:Option Addr}{j ac:Nat}{α:Type}{oc:α→List Value}{ys:List α}(hoc:∀y,(oc y).length=CS)(h:w.ownsRow 0 TE CS (.slice aa j ac) j (ys.flatMap oc)){i t:Nat}{y:α}{u:Value}(hy:ys[i]? =some y)(hu:(oc y)[t]? =some u) :
  ∃B,aa=some ⟨B,0,none⟩∧w.cell? ⟨B,i*CS+t,none⟩=some u:=by
 have hg:=flat_get hoc ys i t y u hy hu;have hl:=aK hg
 rcases h.2 with ⟨h1,h2⟩ | ⟨g,cp,cur,h1,_⟩
 ·have:=h.1
  rw[h2]at this;omega
 ·obtain⟨e1,e2⟩:=Value.slice.inj h1;subst e1;refine⟨g,rfl,?_⟩;have h':iu w TE CS g j ac (ys.flatMap oc):=h
  rw[h'.cell _ (by rw[← h.1]; exact hl)]
  exact hg
theorem Stp.throw{R g g1:Nat}{w W w5:World}(h:Stp R g g1 w W)(hk:Kept (fun k=>k=R∨k=g1) W w5):Kept (fun k=>k=R∨k=g) w w5:=by
 refine h.k.then hk (fun k hkl hh=>?_)
 rcases hh with rfl | rfl
 ·exact .inl rfl
 ·exact qL
def qh{α β:Type}(oc:β→List Value)(iv:α→Value)(ov:β→Value)(et k R g:Nat)(w:World)(K:Nat)(cs:Array Value)(bs:List Int)(n:Nat)(xs:List α)(enc:α→List Int)(Ok:α→β→Prop)(j:Nat)(x:α):Prop :=
 ∀(ys:List β)(W:World)(g1 cap1:Nat)(aa:Option Addr)(ac:Nat),ys.length=j→(∀(i:Nat)y,ys[i]? =some y→∃x',xs[i]? =some x'∧Ok x' y)→Stp R g g1 w W→Wr W R g1 cap1 (bs++ax n++(xs.take j).flatMap enc) →
  W.ownsRow 0 et k (.slice aa j ac) j (ys.flatMap oc)→(∀b,aa=some b→w.heap.size≤b.block∧b.block≠g1) →
  Calls Tryz.prog K (#[iv x,.slice aa j ac]++cs) W (fun e w'=>∃y,e=.returned (ov y)∧Ok x y∧∃g' cap',Wr w' R g' cap' (bs++ax n++(xs.take j).flatMap enc++enc x)∧Stp R g1 g' W w')
def Ej{α β:Type}(oc:β→List Value)(iv:α→Value)(et k R g:Nat)(w:World)(K:Nat)(cs:Array Value)(bs:List Int)(n:Nat)(xs:List α)(enc:α→List Int)(Ok:α→β→Prop)(j:Nat)(x:α)(er:Int):Prop :=
 ∀(ys:List β)(W:World)(g1 cap1:Nat)(aa:Option Addr)(ac:Nat),ys.length=j→(∀(i:Nat)y,ys[i]? =some y→∃x',xs[i]? =some x'∧Ok x' y)→Stp R g g1 w W→Wr W R g1 cap1 (bs++ax n++(xs.take j).flatMap enc) →
  W.ownsRow 0 et k (.slice aa j ac) j (ys.flatMap oc)→(∀b,aa=some b→w.heap.size≤b.block∧b.block≠g1) →
  Calls Tryz.prog K (#[iv x,.slice aa j ac]++cs) W (aT R g1 er W)
def qz{α β:Type}(oc:β→List Value)(et k R g:Nat)(w:World)(bs:List Int)(n:Nat)(xs:List α)(enc:α→List Int)(Ok:α→β→Prop)(m:Nat)(o i:Value)(wr:World):Prop :=
 ∃(j:Nat)(ys:List β)(aa:Option Addr)(ac g1 cap1:Nat),j≤m∧i=.int .i64 j∧o=.slice aa j ac∧ys.length=j∧(∀(i:Nat)y,ys[i]? =some y→∃x,xs[i]? =some x∧Ok x y) ∧
   wr.ownsRow 0 et k (.slice aa j ac) j (ys.flatMap oc)∧(∀b,aa=some b→w.heap.size≤b.block∧b.block≠g1)∧Wr wr R g1 cap1 (bs++ax n++(xs.take j).flatMap enc)∧Stp R g g1 w wr
def oY(f:Nat){α β:Type}(oc:β→List Value)(iv:α→Value)(ov:β→Value)(At:World→Option Addr→Nat→List α→Prop)(et k:Nat):Prop :=
 ∀(R g cap:Nat)(bs:List Int)(ha:Option Addr)(n hc:Nat)(most:Int)(K:Nat)(cs:Array Value)(w:World)(xs:List α)(enc:α→List Int) (Ok:α→β→Prop) (M:Nat),
  Wr w R g cap bs→n≤100000→(n:Int)≤most→At w ha n xs→(∀b off c,ha=some ⟨b,off,c⟩→b≠R∧b≠g) →
  (∀args w,(callFunc K args).run Tryz.prog w=.ok (.enter K args) w)→(∀(j:Nat)x,xs[j]? =some x→(enc x).length≤M)→M≤1000000→bs.length+200000000000≤1099511627776 →
  (∀(j:Nat)x,xs[j]? =some x→qh oc iv ov et k R g w K cs bs n xs enc Ok j x) →
  Calls Tryz.prog f #[cW R,.slice ha n hc,.int .i64 most,.func (.func K) #[] cs] w fun e w'=>∃(aa:Option Addr)(ac:Nat)(ys:List β),e=.returned (.slice aa n ac)∧ys.length=n∧(∀(i:Nat)y,ys[i]? =some y→∃x,xs[i]? =some x∧Ok x y) ∧
   w'.ownsRow 0 et k (.slice aa n ac) n (ys.flatMap oc)∧∃g' cap',(∀b,aa=some b→w.heap.size≤b.block∧b.block≠g')∧Wr w' R g' cap' (bs++ax n++xs.flatMap enc)∧Stp R g g' w w'
def rT(f:Nat){α β:Type}(oc:β→List Value)(iv:α→Value)(ov:β→Value)(At:World→Option Addr→Nat→List α→Prop)(et k:Nat):Prop :=
 ∀(R g cap:Nat)(bs:List Int)(ha:Option Addr)(n hc:Nat)(most:Int)(K:Nat)(cs:Array Value)(w:World)(xs:List α)(enc:α→List Int) (Ok:α→β→Prop) (M:Nat),
  Wr w R g cap bs→n≤100000→(n:Int)≤most→At w ha n xs→(∀b off c,ha=some ⟨b,off,c⟩→b≠R∧b≠g) →
  (∀args w,(callFunc K args).run Tryz.prog w=.ok (.enter K args) w)→(∀(j:Nat)x,xs[j]? =some x→(enc x).length≤M)→M≤1000000→bs.length+200000000000≤1099511627776 →
  ∀(k':Nat)(xk:α)(er:Int),xs[k']? =some xk→(∀(j:Nat)x,xs[j]? =some x→j<k'→qh oc iv ov et k R g w K cs bs n xs enc Ok j x)→Ej oc iv et k R g w K cs bs n xs enc Ok k' xk er →
  Calls Tryz.prog f #[cW R,.slice ha n hc,.int .i64 most,.func (.func K) #[] cs] w (aT R g er w)
theorem A7{t:Nat}{z:Value}{s b:Nat}(h:(Tryz.prog.info? t).map (fun i=>(i.zero,i.size,i.bytes))=some (some z,s,b)):∃i,Tryz.prog.info? t=some i∧i.zero=some z∧i.size=s∧i.bytes=b:=by
 cases hi:Tryz.prog.info? t with
 | none=>rw[hi]at h; cases h
 | some i=>rw[hi]at h; simp at h; exact⟨i,rfl,h.1,h.2.1,h.2.2⟩
def nz(n:Nat)(a:Option Addr):Option Addr:=if n=0 then none else a
theorem ve{n:Nat}{a:Option Addr}{p:Addr}(h:nz n a=some p):a=some p:=by
 unfold nz at h
 split at h
 ·cases h
 ·exact h
theorem N1{n:Nat}{a:Option Addr}{p:Addr}(hn:n≠0)(h:a=some p):nz n a=some p:=by
 unfold nz
 rw[if_neg hn]; exact h
theorem IK:∃i,Tryz.prog.info? 81=some i∧i.zero=some (.agg #[.int .i64 0,.slice none 0 0])∧i.size=2∧i.bytes=32:=A7 ai
def eX(y:(Int×(Option Addr×Nat×Nat))):List Value:=[.int .i64 y.1,.slice y.2.1 y.2.2.1 y.2.2.2]
abbrev QB(x:(Int×(Option Addr×Nat×Nat)×List Int)):Value:=.agg #[.int .i64 x.1,.slice x.2.1.1 x.2.1.2.1 x.2.1.2.2]
abbrev I0(y:(Int×(Option Addr×Nat×Nat))):Value:=.agg #[.int .i64 y.1,.slice y.2.1 y.2.2.1 y.2.2.2]
def pF(w:World)(a:Option Addr)(n:Nat)(xs:List (Int×(Option Addr×Nat×Nat)×List Int)):Prop :=
 xs.length=n∧(n=0∨∃b off,a=some ⟨b,off,none⟩∧∀(j:Nat)x,xs[j]? =some x→w.cell? ⟨b,off+j*2,none⟩=some (.int .i64 x.1)∧w.cell? ⟨b,off+j*2+1,none⟩=some (.slice x.2.1.1 x.2.1.2.1 x.2.1.2.2))
theorem pF.kept{S:Nat→Prop}{w w':World}{a:Option Addr}{n:Nat}{xs:List (Int×(Option Addr×Nat×Nat)×List Int)}(h:pF w a n xs)(hk:Kept S w w')(hS:∀b off c,a=some ⟨b,off,c⟩→¬S b):pF w' a n xs:=by
 exact AW
theorem p9(w:World)(y:(Int×(Option Addr×Nat×Nat))):∀j u,(eX y)[j]? =some u→(w.alloc (aZ y.1 y.2.1 y.2.2.1 y.2.2.2)).cell? ((⟨w.heap.size,0,none⟩:Addr).add j)=some u:=by
 intro j u hj;have hlt:=aK hj;have hl:(eX y).length=2:=rfl;rw[hl]at hlt;have hadd:(⟨w.heap.size,0,none⟩:Addr).add j=⟨w.heap.size,j,none⟩:=iG;rw[hadd];have hb:=(MapKept.heap_alloc w (aZ y.1 y.2.1 y.2.2.1 y.2.2.2)).1
 simp only[World.cell?,hb]
 simpa[eX] using hj
theorem pY(y:(Int×(Option Addr×Nat×Nat))):∀u∈eX y,u.oneCell'=true:=by
 intro u hu
 simp[eX]at hu
 rcases hu with rfl | rfl <;> rfl
abbrev QZ:=@qh (Int×(Option Addr×Nat×Nat)×List Int) (Int×(Option Addr×Nat×Nat)) eX QB I0 81 2
namespace LDa
abbrev oC0:=eX
abbrev cL(x:(Int×(Option Addr×Nat×Nat)×List Int)):Obj:=.cells #[.int .i64 x.1,.slice x.2.1.1 x.2.1.2.1 x.2.1.2.2] 81
abbrev cM(y:(Int×(Option Addr×Nat×Nat))):Obj:=.cells #[.int .i64 y.1,.slice y.2.1 y.2.2.1 y.2.2.2] 81
theorem nC(w:World)(y:(Int×(Option Addr×Nat×Nat))):∀j u,(eX y)[j]? =some u→(w.alloc (cM y)).cell? ((⟨w.heap.size,0,none⟩:Addr).add j)=some u:=p9 w y
theorem oC(y:(Int×(Option Addr×Nat×Nat))):∀u∈eX y,u.oneCell'=true:=pY y
theorem uN:Tryz.prog.underlying 26=some (.slice 81):=Tryz.underlying26
end LDa
open LDa in
theorem yh:oY 144 eX QB I0 pF 81 2:=by
 intro R g cap bs ha n hc most K cs w xs enc Ok M h hn hm hmem hne hK hlen hM hb heach;have hmc:=bz;have hcc:=cf;have HC:=hid (bN R g cap bs n most w h hm ae ae);have hRl:=h.lt;have hgl:=h.g_lt;have hxl:=hmem.1;have HM:=hid hmem;have HNE:=hid hne;have HE:=hid heach;obtain⟨i0,hi,hz0,hz1,hz2⟩:=IK;clear h hmem heach hne
 go_enter Tryz.func144,Tryz.ntmps144
 go_wp2_with fail;refine HC.out.mono ?_;rintro e w2⟨rfl,g1,cap1,hw2,hs2⟩;have W2:=hid hw2;have S2:=hid hs2;clear hw2 hs2 HC hmc hcc;go_wp2_with fail
 go_loopw [9,17] (fun o i wr=>qz oC0 81 2 R g w bs n xs enc Ok n o i wr) (fun _ i _=>n-(intOf i).toNat)
 case atStart=>exact⟨0,[],none,0,g1,cap1,ae,rfl,rfl,rfl,(fun i y h=>fX),World.ownsRow_nil _ _ _ _,(fun b h=>cj),gw,S2.out⟩
 case round =>
  exact Jf
open LDa in
theorem zK:rT 144 eX QB I0 pF 81 2:=by
 intro R g cap bs ha n hc most K cs w xs enc Ok M h hn hm hmem hne hK hlen hM hb k xk er hk heach hno;have hkn:=aK hk;have hmc:=bz;have hcc:=cf;have HC:=hid (bN R g cap bs n most w h hm ae ae);have hRl:=h.lt;have hgl:=h.g_lt;have hxl:=hmem.1;have HM:=hid hmem;have HNE:=hid hne;have HE:=hid heach;have HN:=hid hno;obtain⟨i0,hi,hz0,hz1,hz2⟩:=IK;clear h hmem heach hne hno
 go_enter Tryz.func144,Tryz.ntmps144
 go_wp2_with fail;refine HC.out.mono ?_;rintro e w2⟨rfl,g1,cap1,hw2,hs2⟩;have W2:=hid hw2;have S2:=hid hs2;clear hw2 hs2 HC hmc hcc;go_wp2_with fail
 go_loopw [9,17] (fun o i wr=>qz oC0 81 2 R g w bs n xs enc Ok k o i wr) (fun _ i _=>n-(intOf i).toNat)
 case atStart=>exact⟨0,[],none,0,g1,cap1,ae,rfl,rfl,rfl,(fun i y h=>fX),World.ownsRow_nil _ _ _ _,(fun b h=>cj),gw,S2.out⟩
 case round =>
  exact Kz
theorem vK(R g cap:Nat)(bs:List Int)(ha:Option Addr)(n hc:Nat)(most:Int)(f:Value)(w:World)(h:Wr w R g cap bs)(hm:most<(n:Int)) :
  Calls Tryz.prog 144 #[cW R,.slice ha n hc,.int .i64 most,f] w (aT R g 20 w):=by
 have hmc:=bz;have hcc:=cf;have HC:=hid (eW R g cap bs n most w h hm);clear h
 go_enter Tryz.func144,Tryz.ntmps144
 exact jX
abbrev SL:=Option Addr×Nat×Nat
abbrev DaM:=Int×SL×List Int
def AP(x:DaM)(y:Int×SL):Prop:=y.1=x.1∧y.2.2.1=x.2.2.length
def eU(ys:List (Int×SL))(v:Int):Bool:=match ys.getLast? with | none=>false | some y=>decide (v≤y.1+(y.2.2.1:Int))
theorem ue(B an ac:Nat)(pl:Int)(da:Option Addr)(dn dc:Nat)(w:World)(h0:0<an)(h1:an≤100000)(hp0:0≤pl)(hp:pl≤1099511627776)(hd:dn≤1099511627776)(hc0:w.cell? ⟨B,(an-1)*2,none⟩=some (.int .i64 pl))(hc1:w.cell? ⟨B,(an-1)*2+1,none⟩=some (.slice da dn dc)) :
  Calls Tryz.prog 197 #[.slice (some ⟨B,0,none⟩) an ac] w fun e w'=>e=.returned (.int .i64 (pl+dn))∧Below w.heap.size w w':=by
 have BN:=hid (ag w (aZ pl da dn dc));have hw:wrap64 (pl+dn)=pl+dn:=dv
 go_enter Tryz.func197,Tryz.ntmps197
 go_wp2_with fail;go_ret;exact⟨rfl,BN.out⟩
section
variable (v p room:Int) (A C:Nat) (aa:Option Addr) (an ac:Nat) (ys:List (Int×SL)) (w:World)
theorem CM(hl:ys.length=an)(hrow:w.ownsRow 0 81 2 (.slice aa an ac) an (ys.flatMap eX))(h0:0<an):∃B y,aa=some ⟨B,0,none⟩∧ys.getLast? =some y∧w.cell? ⟨B,(an-1)*2,none⟩=some (.int .i64 y.1)∧w.cell? ⟨B,(an-1)*2+1,none⟩=some (.slice y.2.1 y.2.2.1 y.2.2.2):=by
 obtain⟨y,hy⟩:∃y,ys[an-1]? =some y:=⟨_,aO ae⟩
 obtain⟨B,hB,hc⟩:=jF (oc:=eX) (t:=0) (u:=.int .i64 y.1) (fun _=>rfl) hrow hy rfl
 obtain⟨B',hB',hc'⟩:=jF (oc:=eX) (t:=1) (u:=.slice y.2.1 y.2.2.1 y.2.2.2) (fun _=>rfl) hrow hy rfl
 rw[hB]at hB'
 simp at hB'
 subst hB';refine⟨B,y,hB,?_,hc,hc'⟩;rw[List.getLast?_eq_getElem?,hl];exact hy
theorem ut(hr:0≤room)(hr1:room≤1099511627776)(hv:room<v)(hA:w.cell? ⟨A,0,none⟩=some (.int .i64 room)) :
  Calls Tryz.prog 196 #[.int .u64 v,.int .i64 p,.pointer (some ⟨A,0,none⟩),.pointer (some ⟨C,0,none⟩)] w (jU 17 w):=by
 have hw:=dA room hr ae;have d:decide (v≤room)=false:=aI
 go_enter Tryz.func196,Tryz.ntmps196
 go_wp2_with fail;refine(dZ uX).mono ?_;exact o9
theorem q9(hr:0≤room)(hr1:room≤1099511627776)(hv0:0≤v)(hv:v≤room)(hl:ys.length=an)(han:an≤100000)(hys:∀y∈ys,0≤y.1∧y.1≤1099511627776∧y.2.2.1≤1099511627776)(hrow:w.ownsRow 0 81 2 (.slice aa an ac) an (ys.flatMap eX))(ht:eU ys v=false)
  (hA:w.cell? ⟨A,0,none⟩=some (.int .i64 room)) (hC:w.cell? ⟨C,0,none⟩=some (.slice aa an ac)) :
  Calls Tryz.prog 196 #[.int .u64 v,.int .i64 p,.pointer (some ⟨A,0,none⟩),.pointer (some ⟨C,0,none⟩)] w (kX w):=by
 have hw:=dA room hr ae;have hi:=i64_in v ae ae
 have d:decide (v≤room)=true:=by simp[hv]
 by_cases h0:an=0
 ·subst h0
  go_enter Tryz.func196,Tryz.ntmps196
  go_wp2_with fail;refine(cG uX).mono ?_;rintro e w1⟨rfl,rfl⟩;exact Cc
 ·obtain⟨B,y,rfl,hy,hc0,hc1⟩:=CM aa an ac ys w hl hrow ae;have hyr:=hys y (List.mem_of_getLast? hy)
  have HBH:=hid (fun W (h0':W.cell? ⟨B,(an-1)*2,none⟩=some (.int .i64 y.1)) h1'=>ue B an ac y.1 y.2.1 y.2.2.1 y.2.2.2 W ae han hyr.1 hyr.2.1 hyr.2.2 h0' h1')
  have hlast:y.1+(y.2.2.1:Int)<v:=by
   unfold eU at ht;rw[hy]at ht
   simpa using ht
  have hz:((an:Int)==0)=false:=aI
  go_enter Tryz.func196,Tryz.ntmps196
  go_wp2_with fail;refine(cG uX).mono ?_;rintro e w1⟨rfl,rfl⟩;go_wp2_with fail;refine(HBH.out _ hc0 hc1).mono ?_;rintro e w2⟨rfl,hb2⟩;have B2:=hid hb2;have dd:decide (y.1+(y.2.2.1:Int)<v)=true:=aI;clear hb2 HBH;go_wp2_with fail
  refine(cG (by first | rfl | exact dd)).mono ?_
  rintro e w1⟨rfl,rfl⟩;go_wp2_with fail;go_end0;exact⟨rfl,B2.out⟩
theorem tG(hr:0≤room)(hr1:room≤1099511627776)(hv0:0≤v)(hv:v≤room)(hl:ys.length=an)(han:an≤100000)(hys:∀y∈ys,0≤y.1∧y.1≤1099511627776∧y.2.2.1≤1099511627776)(hrow:w.ownsRow 0 81 2 (.slice aa an ac) an (ys.flatMap eX))(ht:eU ys v=true)
  (hA:w.cell? ⟨A,0,none⟩=some (.int .i64 room)) (hC:w.cell? ⟨C,0,none⟩=some (.slice aa an ac)) :
  Calls Tryz.prog 196 #[.int .u64 v,.int .i64 p,.pointer (some ⟨A,0,none⟩),.pointer (some ⟨C,0,none⟩)] w (jU 18 w):=by
 have hw:=dA room hr ae;have hi:=i64_in v ae ae
 have d:decide (v≤room)=true:=by simp[hv]
 have h0:0<an:=by
  rcases Nat.eq_zero_or_pos an with h | h
  ·have:ys=[]:=List.eq_nil_of_length_eq_zero ae;subst this
   simp[eU]at ht
  ·exact h
 obtain⟨B,y,rfl,hy,hc0,hc1⟩:=CM aa an ac ys w hl hrow ae;have hyr:=hys y (List.mem_of_getLast? hy)
 have HBH:=hid (fun W (h0':W.cell? ⟨B,(an-1)*2,none⟩=some (.int .i64 y.1)) h1'=>ue B an ac y.1 y.2.1 y.2.2.1 y.2.2.2 W ae han hyr.1 hyr.2.1 hyr.2.2 h0' h1')
 have hlast:v≤y.1+(y.2.2.1:Int):=by
  unfold eU at ht;rw[hy]at ht
  simpa using ht
 have hz:((an:Int)==0)=false:=aI
 go_enter Tryz.func196,Tryz.ntmps196
 go_wp2_with fail;refine(cG uX).mono ?_;rintro e w1⟨rfl,rfl⟩;go_wp2_with fail;refine(HBH.out _ hc0 hc1).mono ?_;rintro e w2⟨rfl,hb2⟩;have B2:=hid hb2;have dd:decide (y.1+(y.2.2.1:Int)<v)=false:=aI;clear hb2 HBH;go_wp2_with fail
 refine(dZ (by first | rfl | exact dd)).mono ?_
 rintro e w1⟨rfl,rfl⟩;exact⟨rfl,⟨_,rfl⟩,B2.out⟩
end
theorem Fh:strOfNums []=⟨#[]⟩:=rfl
theorem yu(w:World)(a:Option Addr)(n c:Nat)(zs:List Int)(h:Seg w a n c zs):(convert 63 9 (.slice a n c)).run Tryz.prog w=.ok (.string (strOfNums zs)) w:=by
 rcases h.2.2.2.2 with h0 | ⟨b,off,rfl,hc⟩
 ·subst h0;have:zs=[]:=List.eq_nil_of_length_eq_zero h.1;subst this
  cases a <;> rfl
 ·exact run_convert_bytes_arg w 63 5 Tryz.underlying63 Tryz.underlying5 b off n c zs h.1 hc 9 Tryz.underlying9
theorem mN(zs:List Int):(strOfNums zs).size=zs.length:=by
 show(strOfNums zs).data.size=_
 simp[strOfNums]
theorem jm(zs:List Int)(h:∀z∈zs,0≤z∧z≤255):bD (strOfNums zs)=zs:=by
 unfold bD;rw[strOfNums_data,List.map_map]
 conv=>rhs; rw[← List.map_id zs]
 apply List.map_congr_left
 intro z hz
 have:=h z hz
 simp only[Function.comp,id]
 have e:(UInt8.ofNat z.toNat).toNat=z.toNat:=by
  simp
  omega
 rw[e]; omega
theorem rS(s:ByteArray)(p:Int)(w:World)(h:s.size≠0):Calls Tryz.prog 198 #[.string s,.int .i64 p] w (kX w):=by
 have he:(!s.toList.isEmpty)=true:=by
  rw[cm]
  have:s.data.toList≠[]:=by intro hh; apply h; rw[fT,hh]; rfl
  cases hl:s.data.toList with
  | nil=>exact absurd hl this
  | cons a b=>rfl
 go_enter Tryz.func198,Tryz.ntmps198
 go_wp2_with fail
 refine(cG (by first | rfl | exact he)).mono ?_
 rintro e w1⟨rfl,rfl⟩;go_wp2_with fail;go_end0;exact⟨rfl,Below.refl _ _⟩
theorem uj(s:ByteArray)(p:Int)(w:World)(h:s.size=0):Calls Tryz.prog 198 #[.string s,.int .i64 p] w (jU 17 w):=by
 have he:(!s.toList.isEmpty)=false:=by
  rw[cm]
  have:s.data.toList=[]:=List.eq_nil_of_length_eq_zero (by rw[← fT]; exact h)
  rw[this]; rfl
 go_enter Tryz.func198,Tryz.ntmps198
 go_wp2_with fail
 refine(dZ (by first | rfl | exact he)).mono ?_
 exact o9
end Go.Proofs.YtheefojaplnnoaaGreatDoor

/-
  Texts Ins Span Chk.
-/
import Derived.Below
import Derived.BigQuiet
import Derived.Deep.QuietTactic
import Derived.Deep.RegionWith
import Derived.KernelRfl
import Derived.RowKit
import Derived.Test.YtheefojaplnnoaaGreatDoorProg
import Derived.WalkKit
import Derived.WalkLawsBesides
import Derived.WalkSpells
import Derived.Test.YtheefojaplnnoaaGreatDoorY00
import Derived.Test.YtheefojaplnnoaaGreatDoorY11
set_option linter.unusedVariables false
set_option maxRecDepth 100000
set_option maxHeartbeats 16000000
namespace Go.Proofs.YtheefojaplnnoaaGreatDoor
def lo(t:Int)(g:Bool):Int:=if t=8 then (if g=true then -9223372036854775808 else -2147483648) else 0
def hi(t:Int)(g:Bool):Int :=
 if t=0∨t=3 then 0 else if t=9 then 4294967295 else if t=8 then (if g=true then 9223372036854775807 else 2147483647) else 2147483647
theorem oV(t:Int)(g:Bool):-9223372036854775808≤lo t g∧lo t g≤0:=by
 unfold lo; split
 ·split <;> omega
 ·omega
theorem eF(t:Int)(g:Bool):0≤hi t g∧hi t g≤9223372036854775807∧(t≠8→hi t g≤4294967295∧lo t g=0):=by
 unfold hi lo
 split
 ·refine⟨ae,ae,fun h=>?_⟩
  rw[if_neg h]; omega
 ·split
  ·refine⟨ae,ae,fun h=>?_⟩
   rw[if_neg h]; omega
  ·split
   ·refine⟨by split <;> omega,by split <;> omega,fun h=>ae⟩
   ·refine⟨ae,ae,fun h=>?_⟩
    omega
def okL:List Int→Prop
 | []=>True
 | z::l=>(0≤z∧z≤2147483647)∧okL l
instance decOkL:(l:List Int)→Decidable (okL l)
 | []=>.isTrue trivial
 | z::l=>match decOkL l with
  | .isTrue h=>if hz:0≤z∧z≤2147483647 then .isTrue ⟨hz,h⟩ else .isFalse fun x=>hz x.1
  | .isFalse h=>.isFalse fun x=>h x.2
theorem uT:∀(l:List Int),okL l↔∀z∈l,0≤z∧z≤2147483647
 | []=>by simp[okL]
 | z::l=>by simp[okL,uT l]
def chk(t:Int)(g:Bool)(a:Int)(l:List Int):Int :=
 if t=-1 then 21
 else if a<lo t g∨hi t g<a then 17
 else if t=3 then (if l.length<1∨16<l.length then 17 else if okL l then 0 else 17)
 else if l.length=0 then 0 else 17
def fK:List Int→List Int
 | []=>[]
 | z::l=>ax z++fK l
def vP(t a:Int)(l:List Int):List Int :=
 if t=0 then [] else if t=8 then ax (fo a) else if t=3 then ax l.length++fK l else ax a
def ow(zs:List Int):Nat→Int→List Int→List Int×Int×Int
 | 0,p,acc=>(acc,p,0)
 | n+1,p,acc =>
  if (bE zs p).2.2≠0 then ([],0,(bE zs p).2.2)
  else if 2147483647<(bE zs p).1 then ([],0,17)
  else ow zs n (bE zs p).2.1 (acc++[(bE zs p).1])
def fI(t:Int)(g:Bool)(zs:List Int)(p:Int):Int×List Int×Int×Int :=
 if t=0 then (0,[],p,0)
 else if t=3 then
  if (bE zs p).2.2≠0 then (0,[],0,(bE zs p).2.2)
  else if (bE zs p).1<1∨16<(bE zs p).1 then (0,[],0,17)
  else (0,ow zs (bE zs p).1.toNat (bE zs p).2.1 [])
 else if t=8 then
  if (ic zs p).2.2≠0 then (0,[],0,(ic zs p).2.2)
  else if (ic zs p).1<lo t g∨hi t g<(ic zs p).1 then (0,[],0,17)
  else ((ic zs p).1,[],(ic zs p).2.1,0)
 else if (bE zs p).2.2≠0 then (0,[],0,(bE zs p).2.2)
 else if hi t g<(bE zs p).1 then (0,[],0,17)
 else ((bE zs p).1,[],(bE zs p).2.1,0)
theorem rV:∀(l:List Int),(fK l).length≤10*l.length
 | []=>by simp[fK]
 | z::l=>by
  have:=rV l
  have:=aG z
  simp only[fK,List.length_append,List.length_cons]; omega
theorem Qn(f:Nat):∀(v:Int),0≤v→v<128 ^ f*256→∀z∈uv f v,0≤z∧z≤255:=by
 induction f with
 | zero=>intro v h0 h1 z hz; simp[uv]at hz; simp at h1; omega
 | succ f ih =>
  intro v h0 h1 z hz
  by_cases h:v<128
  ·simp[uv,h]at hz; omega
  ·simp only[uv,h,if_false,List.mem_cons]at hz
   rcases hz with rfl | hz
   ·omega
   ·refine ih (v / 128) ae ?_ z hz;have hs:(128:Int) ^ (f+1)=128 ^ f*128:=Int.pow_succ _ _;rw[hs]at h1;generalize (128:Int) ^ f=X at h1 ⊢;omega
theorem oW(v:Int)(h0:0≤v)(h1:v<18446744073709551616):∀z∈ax v,0≤z∧z≤255:=by
 have e:(128:Int) ^ 9=9223372036854775808:=aj;refine Qn 9 v h0 ?_
 rw[e]; omega
theorem yQ:∀(l:List Int),okL l→∀z∈fK l,0≤z∧z≤255
 | [],_,z,hz=>by simp[fK]at hz
 | y::l,h,z,hz=>by
  simp only[fK,List.mem_append]at hz
  rcases hz with hz | hz
  ·exact oW y h.1.1 (by have:=h.1.2; omega) z hz
  ·exact yQ l h.2 z hz
theorem mM{t:Int}{g:Bool}{a:Int}{l:List Int}(h:chk t g a l=0) :
  t≠-1∧lo t g≤a∧a≤hi t g∧(t=3→1≤l.length∧l.length≤16∧okL l)∧(t≠3→l=[]):=by
 unfold chk at h
 by_cases h1:t=-1
 ·rw[if_pos h1]at h; omega
 rw[if_neg h1]at h
 by_cases h2:a<lo t g∨hi t g<a
 ·rw[if_pos h2]at h; omega
 rw[if_neg h2]at h
 by_cases h3:t=3
 ·rw[if_pos h3]at h
  by_cases h4:l.length<1∨16<l.length
  ·rw[if_pos h4]at h; omega
  rw[if_neg h4]at h
  by_cases h5:okL l
  ·exact⟨h1,ae,ae,fun _=>⟨ae,ae,h5⟩,fun h=>absurd h3 h⟩
  ·rw[if_neg h5]at h; omega
 ·rw[if_neg h3]at h
  by_cases h4:l.length=0
  ·exact⟨h1,ae,ae,fun h=>absurd h h3,fun _=>List.eq_nil_of_length_eq_zero h4⟩
  ·rw[if_neg h4]at h; omega
theorem xo{t:Int}{g:Bool}{a:Int}{l:List Int}(h1:t≠-1)(h2:lo t g≤a)(h3:a≤hi t g)(h4:t=3→1≤l.length∧l.length≤16∧okL l)(h5:t≠3→l=[]):chk t g a l=0:=by
 unfold chk;rw[if_neg h1,if_neg ae]
 by_cases h:t=3
 ·obtain⟨a1,a2,a3⟩:=h4 h;rw[if_pos h,if_neg ae,if_pos a3]
 ·rw[if_neg h,h5 h]; rfl
theorem ze(t a:Int)(l:List Int)(h:l.length≤16):(vP t a l).length≤170:=by
 unfold vP
 split
 ·simp
 ·split
  ·have:=aG (fo a); omega
  ·split
   ·have:=aG l.length
    have:=rV l
    rw[List.length_append]; omega
   ·have:=aG a; omega
theorem Hg{t:Int}{g:Bool}{a:Int}{l:List Int}(h:chk t g a l=0):∀z∈vP t a l,0≤z∧z≤255:=by
 obtain⟨h1,h2,h3,h4,h5⟩:=mM h;have hl:=oV t g;have hh:=eF t g;intro z hz;unfold vP at hz
 by_cases t0:t=0
 ·rw[if_pos t0]at hz; simp at hz
 rw[if_neg t0]at hz
 by_cases t8:t=8
 ·rw[if_pos t8]at hz
  have:=zh a ae ae
  exact oW _ this.1 this.2 z hz
 rw[if_neg t8]at hz
 by_cases t3:t=3
 ·rw[if_pos t3]at hz;obtain⟨a1,a2,a3⟩:=h4 t3
  rcases List.mem_append.1 hz with hz | hz
  ·exact oW _ ae ae z hz
  ·exact yQ l a3 z hz
 ·rw[if_neg t3]at hz
  have:=hh.2.2 t8
  exact oW _ ae ae z hz
theorem t6(zs:List Int)(hz:∀z∈zs,0≤z∧z≤255):∀(n:Nat)(p:Int)(acc l:List Int)(q:Int),0≤p→p≤zs.length→ow zs n p acc=(l,q,0) →
  ∃m,l=acc++m∧m.length=n∧okL m∧p≤q∧q≤zs.length∧(zs.drop p.toNat).take (q-p).toNat=fK m
 | 0,p,acc,l,q,h0,h1,h=>by
  simp only[ow,Prod.mk.injEq]at h
  obtain⟨rfl,rfl,_⟩:=h
  exact⟨[],ar,rfl,trivial,Int.le_refl _,h1,by simp[fK]⟩
 | n+1,p,acc,l,q,h0,h1,h=>by
  unfold ow at h;have hrr:=cd zs p hz
  cases hr:bE zs p with
  | mk u r =>
   obtain⟨nx,x⟩:=r;rw[hr]at h hrr
   simp only at h hrr
   by_cases hx:x=0
   ·subst hx;rw[if_neg ar]at h
    by_cases hu:2147483647<u
    ·rw[if_pos hu]at h; simp at h
    rw[if_neg hu]at h;obtain⟨s1,s2,s3,s4,s5,s6⟩:=pz zs p u nx hz hr;obtain⟨m,m1,m2,m3,m4,m5,m6⟩:=t6 zs hz n nx (acc++[u]) l q ae ae h
    refine⟨u::m,by rw[m1]; simp,by simp[m2],⟨⟨s2,ae⟩,m3⟩,ae,m5,?_⟩
    have e:(q-p).toNat=(nx-p).toNat+(q-nx).toNat:=ae;rw[fK,e,List.take_add,s1,List.drop_drop]
    congr 1
    rw[show p.toNat+(nx-p).toNat=nx.toNat by omega]
    exact m6
   ·rw[if_pos hx]at h
    simp at h
    exact absurd h.2.2 hx
theorem N0{t:Int}{g:Bool}{a:Int}{l:List Int}(zs:List Int)(p q:Int)(hz:∀z∈zs,0≤z∧z≤255)(h0:0≤p)(h1:p≤zs.length)(ht:t≠-1)(h:fI t g zs p=(a,l,q,0)) :
  chk t g a l=0∧p≤q∧q≤zs.length∧(zs.drop p.toNat).take (q-p).toNat=vP t a l:=by
 have hl:=oV t g;have hh:=eF t g;have hrr:=cd zs p hz
 have hsame:=fun v q=>pz zs p v q hz
 have hlab:=fun n p' acc l q=>t6 zs hz n p' acc l q
 unfold fI ic at h;unfold vP
 by_cases t0:t=0
 ·rw[if_pos t0]at h ⊢
  simp only[Prod.mk.injEq]at h
  obtain⟨rfl,rfl,rfl,_⟩:=h
  refine⟨xo ht ae ae (fun h=>ae) (fun _=>rfl),Int.le_refl _,h1,ar⟩
 rw[if_neg t0]at h ⊢
 cases hr:bE zs p with
 | mk u r =>
  obtain⟨nx,x⟩:=r;rw[hr]at h hrr hsame
  simp only at h hrr
  by_cases t3:t=3
  ·rw[if_pos t3]at h;rw[if_neg ae,if_pos t3]
   by_cases hx:x=0
   ·subst hx;rw[if_neg ar]at h
    by_cases hn:u<1∨16<u
    ·rw[if_pos hn]at h; simp at h
    rw[if_neg hn]at h
    simp only[Prod.mk.injEq]at h
    obtain⟨rfl,h⟩:=h;obtain⟨s1,s2,s3,s4,s5,s6⟩:=hsame u nx rfl;obtain⟨m,m1,m2,m3,m4,m5,m6⟩:=hlab u.toNat nx [] l q ae ae h
    simp only[List.nil_append]at m1
    subst m1;have hu:(l.length:Int)=u:=ae
    refine⟨xo ht ae ae (fun _=>⟨ae,ae,m3⟩) (fun h=>absurd t3 h),ae,m5,?_⟩
    have e:(q-p).toNat=(nx-p).toNat+(q-nx).toNat:=ae;rw[hu,e,List.take_add,s1,List.drop_drop]
    congr 1
    rw[show p.toNat+(nx-p).toNat=nx.toNat by omega]
    exact m6
   ·exact xu
  rw[if_neg t3]at h
  by_cases t8:t=8
  ·rw[if_pos t8]at h ⊢
   by_cases hx:x=0
   ·subst hx;rw[if_neg ar]at h
    by_cases hn:uf u<lo t g∨hi t g<uf u
    ·rw[if_pos hn]at h; simp at h
    rw[if_neg hn]at h
    simp only[Prod.mk.injEq]at h
    obtain⟨rfl,rfl,rfl,_⟩:=h;obtain⟨s1,s2,s3,s4,s5,s6⟩:=hsame u nx rfl;rw[Ov u s2]
    exact⟨xo ht ae ae (fun h=>ae) (fun _=>rfl),ae,s6,s1⟩
   ·exact xu
  ·rw[if_neg t8]at h;rw[if_neg t8,if_neg t3]
   by_cases hx:x=0
   ·subst hx;rw[if_neg ar]at h
    by_cases hn:hi t g<u
    ·rw[if_pos hn]at h; simp at h
    rw[if_neg hn]at h
    simp only[Prod.mk.injEq]at h
    obtain⟨rfl,rfl,rfl,_⟩:=h;obtain⟨s1,s2,s3,s4,s5,s6⟩:=hsame u nx rfl
    have:=hh.2.2 t8
    exact⟨xo ht ae ae (fun h=>absurd h t3) (fun _=>rfl),ae,s6,s1⟩
   ·exact xu
open Go.RowKit
def fG(a b:Int):Value:=.agg #[.int .i64 a,.int .i64 b]
def inB(a b v:Int):Bool:=decide (a≤v∧v≤b)
theorem vC{a b v:Int}(h1:a≤v)(h2:v≤b):inB a b v=true:=by unfold inB; simp[h1,h2]
theorem wy{a b v:Int}(h:v<a∨b<v):inB a b v=false:=by unfold inB; simp; omega
theorem kD(a b v:Int)(w:World):Calls Tryz.prog 315 #[fG a b,.int .i64 v] w fun e w'=>e=.returned (.bool (inB a b v))∧Below w.heap.size w w':=by
 unfold fG
 by_cases h1:a≤v
 ·by_cases h2:v≤b
  ·have HR:=show Hid _ from vC h1 h2;exact uG
  ·have HR:=show Hid _ from wy (a:=a) (.inr (by omega:b<v))
   exact uG
 ·have HR:=show Hid _ from wy (b:=b) (.inl (by omega:v<a))
  exact uG
theorem jD(w:World):Calls Tryz.prog 316 #[] w fun e w'=>e=.returned (fG 0 2147483647)∧Below w.heap.size w w':=by
 go_enter Tryz.func316,Tryz.ntmps316
 go_wp2
 refine bodyPost_ret (v:=.agg #[.int .i64 0,.int .i64 2147483647]) (by simp[results,Tryz.results316,go_sem]) rfl ⟨rfl,?_⟩
 exact(Below.refl _ _).alloc (Nat.le_refl _) _
def bH(ps:ByteArray):Bool:=decide (ps=⟨#[108]⟩)
theorem Aq(ps:ByteArray):(ps.toList==[108])=bH ps:=by
 rw[ByteArray.toList_eq];unfold bH
 by_cases h:ps=⟨#[108]⟩
 ·simp[h]
 ·rw[decide_eq_false h,beq_eq_false_iff_ne];intro e
  apply h
  cases ps with
  | mk d =>
   have e2:d.toList=(#[108]:Array UInt8).toList:=e;rw[Array.toList_inj.1 e2]
theorem dN(c t:Int)(wd pp ps:ByteArray)(pl:Bool)(w:World) :
  Calls Tryz.prog 314 #[.agg #[.int .u8 c,.string wd,.int .i8 t,.string pp,.string ps,.bool pl]] w fun e w'=>e=.returned (fG (lo t (bH ps)) (hi t (bH ps)))∧Below w.heap.size w w':=by
 by_cases h0:t=0
 ·subst h0;exact IX
 by_cases h3:t=3
 ·subst h3;exact IX
 by_cases h9:t=9
 ·subst h9
  go_enter Tryz.func314,Tryz.ntmps314
  go_wp2;refine bodyPost_ret (v:=.agg #[.int .i64 0,.int .i64 4294967295]) xt rfl ⟨rfl,?_⟩;exact oG
 by_cases h8:t=8
 ·subst h8;have hl:=Aq ps
  cases hb:bH ps
  ·rw[hb]at hl
   go_enter Tryz.func314,Tryz.ntmps314
   go_wp2;refine bodyPost_ret (v:=.agg #[.int .i64 (-2147483648),.int .i64 2147483647]) xt rfl ⟨rfl,?_⟩;exact oG
  ·rw[hb]at hl
   go_enter Tryz.func314,Tryz.ntmps314
   go_wp2;refine bodyPost_ret (v:=.agg #[.int .i64 (-9223372036854775808),.int .i64 9223372036854775807]) xt rfl ⟨rfl,?_⟩;exact oG
 have e0:(t==0)=false:=by simp[h0]
 have e3:(t==3)=false:=by simp[h3]
 have e9:(t==9)=false:=by simp[h9]
 have e8:(t==8)=false:=by simp[h8]
 have HV:=show Hid (fG (lo t (bH ps)) (hi t (bH ps))=fG 0 2147483647) by
  show fG (lo t (bH ps)) (hi t (bH ps))=fG 0 2147483647
  unfold lo hi;rw[if_neg h8,if_neg ae,if_neg h9,if_neg h8]
 clear h0 h3 h9 h8
 go_enter Tryz.func314,Tryz.ntmps314
 go_wp2_with fail;refine(jD _).mono ?_;rintro e w1⟨rfl,hb⟩;unfold fG at *
 have c0:w1.cell? ⟨w.heap.size+1,0,none⟩=some (.int .i64 0):=by rw[hb.cell ar]; simp[go_sem]
 have c1:w1.cell? ⟨w.heap.size+1,1,none⟩=some (.int .i64 0):=by rw[hb.cell ar]; simp[go_sem]
 have f0:w1.frozen? ⟨w.heap.size+1,0,none⟩=false:=by rw[hb.frozen ar]; simp[go_sem]
 have f1:w1.frozen? ⟨w.heap.size+1,1,none⟩=false:=by rw[hb.frozen ar]; simp[go_sem]
 go_wp2
 refine bodyPost_ret (v:=.agg #[.int .i64 0,.int .i64 2147483647]) (by simp[results,Tryz.results314,go_sem,c0,c1]) rfl ⟨congrArg Ending.returned HV.out.symm,?_⟩
 exact((((((Below.refl _ _).alloc (Nat.le_refl _) _).alloc ar _).trans (hb.mono aI)).setCell ar _).setCell ar _)
theorem yY(c t:Int)(wd pp ps:ByteArray)(pl:Bool)(w:World) :
  Calls Tryz.prog 312 #[.agg #[.int .u8 c,.string wd,.int .i8 t,.string pp,.string ps,.bool pl]] w fun e w'=>e=.returned (if t=3 then fG 1 16 else fG 0 0)∧Below w.heap.size w w':=by
 by_cases h3:t=3
 ·subst h3;rw[if_pos rfl]
  go_enter Tryz.func312,Tryz.ntmps312
  go_wp2
  refine bodyPost_ret (v:=.agg #[.int .i64 1,.int .i64 16]) (by simp[results,Tryz.results312,go_sem]) rfl ⟨rfl,?_⟩
  exact oG
 ·rw[if_neg h3]
  have e3:(t==3)=false:=by simp[h3]
  clear h3
  go_enter Tryz.func312,Tryz.ntmps312
  go_wp2
  refine bodyPost_ret (v:=.agg #[.int .i64 0,.int .i64 0]) (by simp[results,Tryz.results312,go_sem]) rfl ⟨rfl,?_⟩
  exact oG
def tkV(c:Int):Int:=if (ofV c).2=true then (ofV c).1.2.2.1 else -1
def lgV(c:Int):Bool:=bH (ofV c).1.2.2.2.2.1
def jK(w:World)(a:Option Addr)(n cap:Nat)(l:List Int):Prop :=
 l.length=n∧n≤cap∧n≤1099511627776∧(∀z∈l,-9223372036854775808≤z∧z≤9223372036854775807) ∧
 (n=0∨∃b off,a=some ⟨b,off,none⟩∧∀j,j<n→w.cell? ⟨b,off+j,none⟩=some (.int .i64 (l.getD j 0)))
theorem jK.later{w w':World}{a:Option Addr}{n cap:Nat}{l:List Int}{B:Nat}(h:jK w a n cap l)(hb:Below B w w')(hB:w.heap.size≤B):jK w' a n cap l:=by
 exact Ao
def mt(c a:Int)(s:Value):Value:=.agg #[.int .u8 c,.int .i64 a,s]
theorem fO{X Y:Nat}{c a rc t:Int}{la:Option Addr}{ln lc:Nat}{wd pp ps:ByteArray}{pl:Bool}{w2 W W':World}(hb:Below W.heap.size W W')
  (h:W.cell? ⟨X,0,none⟩=some (.int .u8 c)∧W.cell? ⟨X,1,none⟩=some (.int .i64 a)∧W.cell? ⟨X,2,none⟩=some (.slice la ln lc)∧W.cell? ⟨Y,0,none⟩=some (.int .u8 rc)∧W.cell? ⟨Y,1,none⟩=some (.string wd)∧W.cell? ⟨Y,2,none⟩=some (.int .i8 t)∧W.cell? ⟨Y,3,none⟩=some (.string pp)∧W.cell? ⟨Y,4,none⟩=some (.string ps)∧W.cell? ⟨Y,5,none⟩=some (.bool pl)∧Below w2.heap.size w2 W) :
  W'.cell? ⟨X,0,none⟩=some (.int .u8 c)∧W'.cell? ⟨X,1,none⟩=some (.int .i64 a)∧W'.cell? ⟨X,2,none⟩=some (.slice la ln lc)∧W'.cell? ⟨Y,0,none⟩=some (.int .u8 rc)∧W'.cell? ⟨Y,1,none⟩=some (.string wd)∧W'.cell? ⟨Y,2,none⟩=some (.int .i8 t)∧W'.cell? ⟨Y,3,none⟩=some (.string pp)∧W'.cell? ⟨Y,4,none⟩=some (.string ps)∧W'.cell? ⟨Y,5,none⟩=some (.bool pl)∧Below w2.heap.size w2 W':=by
 obtain⟨h0,h1,h2,h3,h4,h5,h6,h7,h8,h9⟩:=h;have hX:=block_lt_of_cell h0;have hY:=block_lt_of_cell h3
 exact⟨(hb.cell (by simpa using hX)).trans h0,(hb.cell (by simpa using hX)).trans h1,(hb.cell (by simpa using hX)).trans h2,(hb.cell pq).trans h3,(hb.cell pq).trans h4,
  (hb.cell pq).trans h5,(hb.cell pq).trans h6,(hb.cell pq).trans h7,(hb.cell pq).trans h8,h9.trans (hb.mono h9.size)⟩
theorem KH{g:Bool}{a:Int}{l:List Int}:chk (-1) g a l=21:=by unfold chk; rw[if_pos rfl]
theorem Ks(l:List Int)(k:Nat)(hk:k<l.length):okL (l.drop k)↔(0≤l.getD k 0∧l.getD k 0≤2147483647)∧okL (l.drop (k+1)):=by
 rw[List.drop_eq_getElem_cons hk]
 simp[okL,hk]
theorem Hr(l:List Int)(hr:∀z∈l,-9223372036854775808≤z∧z≤9223372036854775807)(j:Nat):-9223372036854775808≤l.getD j 0∧l.getD j 0≤9223372036854775807:=by
 by_cases h:j<l.length
 ·simp only[List.getD_eq_getElem?_getD,aO h,Option.getD_some]; exact hr _ (List.getElem_mem h)
 ·simp only[List.getD_eq_getElem?_getD,List.getElem?_eq_none (by omega:l.length≤j),Option.getD_none]; omega
def cLo(t:Int):Int:=if t=3 then 1 else 0
def cHi(t:Int):Int:=if t=3 then 16 else 0
theorem Gg{t:Int}{g:Bool}{a:Int}{l:List Int}(ht:t≠-1)(h1:inB (lo t g) (hi t g) a=true)(h2:inB (cLo t) (cHi t) l.length=true) :
  chk t g a l=if okL l then 0 else 17:=by
 unfold inB cLo cHi at *;have h1:=of_decide_eq_true h1;have h2:=of_decide_eq_true h2;unfold chk;rw[if_neg ht,if_neg ae]
 by_cases h3:t=3
 ·rw[if_pos h3]at *;rw[if_pos h3]at h2;rw[if_neg ae]
 ·rw[if_neg h3]at *;rw[if_neg h3]at h2;have:l=[]:=List.eq_nil_of_length_eq_zero ae;subst this;rfl
theorem Cn{t:Int}{g:Bool}{a:Int}{l:List Int}(ht:t≠-1)(h:inB (lo t g) (hi t g) a=false∨inB (cLo t) (cHi t) l.length=false):chk t g a l=17:=by
 unfold inB cLo cHi at h;unfold chk;rw[if_neg ht]
 by_cases ha:a<lo t g∨hi t g<a
 ·rw[if_pos ha]
 rw[if_neg ha]
 have h:¬((if t=3 then 1 else 0:Int)≤l.length∧(l.length:Int)≤(if t=3 then 16 else 0:Int)):=by
  rcases h with h | h
  ·exact absurd (of_decide_eq_false h) ae
  ·exact of_decide_eq_false h
 by_cases h3:t=3
 ·rw[if_pos h3]at h ⊢;rw[if_pos h3]at h;rw[if_pos ae]
 ·rw[if_neg h3]at h ⊢;rw[if_neg h3]at h;rw[if_neg ae]
theorem N4(c:Int)(h0:0≤c)(h1:c≤255):((ofV c).1.2.2.1≠-1):=by
 obtain⟨n,rfl⟩:=Int.eq_ofNat_of_zero_le h0
 have hall:((List.range 256).all fun(n:Nat)=>decide ((ofV (n:Int)).1.2.2.1≠-1))=true:=m9
 exact of_decide_eq_true (List.all_eq_true.1 hall n (List.mem_range.2 ae))
theorem nO(c t:Int)(wd pp ps:ByteArray)(pl:Bool)(w:World) :
  Calls Tryz.prog 312 #[.agg #[.int .u8 c,.string wd,.int .i8 t,.string pp,.string ps,.bool pl]] w fun e w'=>e=.returned (fG (cLo t) (cHi t))∧Below w.heap.size w w':=by
 refine(yY c t wd pp ps pl w).mono fun e w' ⟨he,hb⟩=>⟨?_,hb⟩
 rw[he];unfold cLo cHi
 by_cases h:t=3
 ·rw[if_pos h,if_pos h,if_pos h]
 ·rw[if_neg h,if_neg h,if_neg h]
theorem Ec(c a:Int)(la:Option Addr)(ln lc:Nat)(l:List Int)(w:World)(hk:aP w)(h0:0≤c)(h1:c≤255)(hl:jK w la ln lc l) :
  Calls Tryz.prog 330 #[mt c a (.slice la ln lc)] w fun e w'=>e=.returned (.int .i64 (chk (tkV c) (lgV c) a l))∧Below w.heap.size w w':=by
 have hof:=hid (fun W hW=>of6 c W hW h0 h1)
 have hne:=N4 c h0 h1;unfold tkV lgV mt;generalize ofV c=V at *;obtain⟨⟨rc,wd,t,pp,ps,pl⟩,fnd⟩:=V
 simp only[rv,mS]at hof hne ⊢
 have HL:=hid hl;have hln:=hl.2.2.1;have hlen:=hl.1;clear hl;have hb0:Below w.heap.size w (w.alloc (aF c a la ln lc)):=(Below.refl _ _).alloc (Nat.le_refl _) _;have HO:=hid (hof.out _ (hk.later hb0 hk.pos));clear hof
 cases fnd
 ·go_enter Tryz.func330,Tryz.ntmps330
  go_wp2_with fail;refine HO.out.mono ?_;rintro e w1⟨rfl,hb1⟩;go_wp2;go_ret;refine⟨?_,?_⟩
  ·rw[KH]; rfl
  ·exact(hb0.trans (hb1.mono ar)).alloc uP _
 simp only[if_true]
 go_enter Tryz.func330,Tryz.ntmps330
 go_wp2_with fail;refine HO.out.mono ?_;rintro e w1⟨rfl,hb1⟩;have x0:w1.cell? ⟨w.heap.size,0,none⟩=some (.int .u8 c):=je;have x1:w1.cell? ⟨w.heap.size,1,none⟩=some (.int .i64 a):=je;have x2:w1.cell? ⟨w.heap.size,2,none⟩=some (.slice la ln lc):=je;have hx:=block_lt_of_cell x0;have B1:=hid (hb0.trans (hb1.mono ar));clear hb1;go_wp2_with fail;obtain⟨w2,hw2⟩:∃w2,w1.alloc (br rc wd t pp ps pl)=w2:=⟨_,rfl⟩;rw[hw2]
 have B2:=hid (show Below w.heap.size w w2 by rw[← hw2]; exact B1.out.alloc (by have:=B1.out.size; omega) _)
 have y:w2.cell? ⟨w.heap.size,0,none⟩=some (.int .u8 c)∧w2.cell? ⟨w.heap.size,1,none⟩=some (.int .i64 a)∧w2.cell? ⟨w.heap.size,2,none⟩=some (.slice la ln lc)∧w2.cell? ⟨w1.heap.size,0,none⟩=some (.int .u8 rc)∧w2.cell? ⟨w1.heap.size,1,none⟩=some (.string wd)∧w2.cell? ⟨w1.heap.size,2,none⟩=some (.int .i8 t)∧w2.cell? ⟨w1.heap.size,3,none⟩=some (.string pp)∧w2.cell? ⟨w1.heap.size,4,none⟩=some (.string ps)∧w2.cell? ⟨w1.heap.size,5,none⟩=some (.bool pl)∧Below w2.heap.size w2 w2:=by
  rw[← hw2];refine⟨?_,?_,?_,?_,?_,?_,?_,?_,?_,(Below.refl _ _)⟩
  ·rw[World.cell?_alloc_past _ _ _ hx]; exact x0
  ·rw[World.cell?_alloc_past _ _ _ hx]; exact x1
  ·rw[World.cell?_alloc_past _ _ _ hx]; exact x2
  all_goals simp[go_sem]
 clear hw2 x0 x1 x2 B1 HO hb0;have yd:=y;obtain⟨y0,y1,y2,y3,y4,y5,y6,y7,y8,_⟩:=y
 have hwrap:IntKind.i64.wrap (ln:Int)=ln:=by simp[IntKind.wrap,IntKind.bits,IntKind.signed]; omega
 by_cases hA:inB (lo t (bH ps)) (hi t (bH ps)) a=true
 ·by_cases hC:inB (cLo t) (cHi t) l.length=true
  ·have HV:=hid (Gg (a:=a) (l:=l) hne hA hC);rw[hlen]at hC
   go_region_held3 (fun W=>W.cell? ⟨w.heap.size,0,none⟩=some (.int .u8 c)∧W.cell? ⟨w.heap.size,1,none⟩=some (.int .i64 a)∧W.cell? ⟨w.heap.size,2,none⟩=some (.slice la ln lc)∧W.cell? ⟨w1.heap.size,0,none⟩=some (.int .u8 rc)∧W.cell? ⟨w1.heap.size,1,none⟩=some (.string wd)∧W.cell? ⟨w1.heap.size,2,none⟩=some (.int .i8 t)∧W.cell? ⟨w1.heap.size,3,none⟩=some (.string pp)∧W.cell? ⟨w1.heap.size,4,none⟩=some (.string ps)∧W.cell? ⟨w1.heap.size,5,none⟩=some (.bool pl)∧Below w2.heap.size w2 W)
    (first | assumption | (refine fO ?_ ?_ <;> assumption) | (exact⟨y0,y1,y2,y3,y4,y5,y6,y7,y8,(Below.refl _ _).drew⟩))
    (first
     | (go_at_call 314; refine(dN rc t wd pp ps pl _).mono ?_; rintro e w' ⟨rfl,hbx⟩; have hS':=fO (X:=w.heap.size) (Y:=w1.heap.size) (w2:=w2) hbx lg; clear hbx)
     | (go_at_call 312; refine(nO rc t wd pp ps pl _).mono ?_; rintro e w' ⟨rfl,hbx⟩; have hS':=fO (X:=w.heap.size) (Y:=w1.heap.size) (w2:=w2) hbx lg; clear hbx)
     | (go_at_call 315; refine(kD _ _ _ _).mono ?_; rintro e w' ⟨rfl,hbx⟩; have hS':=fO (X:=w.heap.size) (Y:=w1.heap.size) (w2:=w2) hbx lg; clear hbx))
   have B3:=hid (B2.out.trans (hS'.2.2.2.2.2.2.2.2.2.mono B2.out.size));have z2:=hS'.2.2.1;clear hS' yd y0 y1 y2 y3 y4 y5 y6 y7 y8 hC hA;go_wp2_with fail
   go_loopw [33] (fun i wr=>∃k:Nat,k≤ln∧i=.int .i64 k∧Below w.heap.size w wr∧(okL l↔okL (l.drop k))) (fun i _=>ln-(intOf i).toNat)
   case atStart=>exact⟨0,Nat.zero_le _,rfl,B3.out,ar⟩
   case round =>
    obtain⟨k,hk,rfl,hb,hok⟩:=hrel;have HB:=hid hb;have HK:=hid hok;clear hb hok B3 z2
    by_cases hlt:k<ln
    ·rcases HL.out.2.2.2.2 with hz | ⟨b,off,rfl,hc⟩
     ·omega
     have hcell:wr.cell? ⟨b,off+k,none⟩=some (.int .i64 (l.getD k 0)):=(HB.out.cell (p:=⟨b,off+k,none⟩) (block_lt_of_cell (hc k hlt))).trans (hc k hlt);have hd:=Ks l k ae;have hrz:=Hr l HL.out.2.2.2.1 k;generalize l.getD k 0=z at *;have HD:=hid hd;clear hd hc
     by_cases hin:inB 0 2147483647 z=true
     ·go_wp2_with fail;refine(jD _).mono ?_;rintro e w3⟨rfl,hb3⟩;go_wp2_with fail;refine(kD _ _ _ _).mono ?_;rintro e w4⟨rfl,hb4⟩;go_wp2_with fail;have hz2:=of_decide_eq_true hin
      exact⟨⟨k+1,ae,il,(HB.out.trans (hb3.mono HB.out.size)).trans (hb4.mono (Nat.le_trans HB.out.size hb3.size)),by rw[HK.out,HD.out]; simp[hz2]⟩,ij⟩
     ·have hin':inB 0 2147483647 z=false:=by simpa using hin
      clear hin;go_wp2_with fail;refine(jD _).mono ?_;rintro e w3⟨rfl,hb3⟩;go_wp2_with fail;refine(kD _ _ _ _).mono ?_;rintro e w4⟨rfl,hb4⟩;go_wp2_with fail;go_ret;have hz2:=of_decide_eq_false hin';refine⟨?_,(HB.out.trans (hb3.mono HB.out.size)).trans (hb4.mono (Nat.le_trans HB.out.size hb3.size))⟩
      rw[HV.out,if_neg (by rw[HK.out,HD.out]; exact fun h=>hz2 h.1)]
      rfl
    ·go_wp2_with fail;go_ret;refine⟨?_,HB.out⟩
     rw[HV.out,if_pos (by rw[HK.out,List.drop_eq_nil_of_le ae]; trivial)]
     rfl
  ·have hC':inB (cLo t) (cHi t) l.length=false:=by simpa using hC
   have HV:=hid (Cn (a:=a) (l:=l) (g:=bH ps) hne (.inr hC'));rw[hlen]at hC';clear hC
   go_region_held3 (fun W=>W.cell? ⟨w.heap.size,0,none⟩=some (.int .u8 c)∧W.cell? ⟨w.heap.size,1,none⟩=some (.int .i64 a)∧W.cell? ⟨w.heap.size,2,none⟩=some (.slice la ln lc)∧W.cell? ⟨w1.heap.size,0,none⟩=some (.int .u8 rc)∧W.cell? ⟨w1.heap.size,1,none⟩=some (.string wd)∧W.cell? ⟨w1.heap.size,2,none⟩=some (.int .i8 t)∧W.cell? ⟨w1.heap.size,3,none⟩=some (.string pp)∧W.cell? ⟨w1.heap.size,4,none⟩=some (.string ps)∧W.cell? ⟨w1.heap.size,5,none⟩=some (.bool pl)∧Below w2.heap.size w2 W)
    (first | assumption | (refine fO ?_ ?_ <;> assumption) | (exact⟨y0,y1,y2,y3,y4,y5,y6,y7,y8,(Below.refl _ _).drew⟩))
    (first
     | (go_at_call 314; refine(dN rc t wd pp ps pl _).mono ?_; rintro e w' ⟨rfl,hbx⟩; have hS':=fO (X:=w.heap.size) (Y:=w1.heap.size) (w2:=w2) hbx lg; clear hbx)
     | (go_at_call 312; refine(nO rc t wd pp ps pl _).mono ?_; rintro e w' ⟨rfl,hbx⟩; have hS':=fO (X:=w.heap.size) (Y:=w1.heap.size) (w2:=w2) hbx lg; clear hbx)
     | (go_at_call 315; refine(kD _ _ _ _).mono ?_; rintro e w' ⟨rfl,hbx⟩; have hS':=fO (X:=w.heap.size) (Y:=w1.heap.size) (w2:=w2) hbx lg; clear hbx))
   have B3:=hid (B2.out.trans (hS'.2.2.2.2.2.2.2.2.2.mono B2.out.size));exact CJ
 ·have hA':inB (lo t (bH ps)) (hi t (bH ps)) a=false:=by simpa using hA
  have HV:=hid (Cn (a:=a) (l:=l) hne (.inl hA'));clear hA
  first | (go_region_with (first
   | (go_at_call 314; refine(dN rc t wd pp ps pl _).mono ?_; rintro e w3⟨rfl,hb3⟩; have hS3:=fO (X:=w.heap.size) (Y:=w1.heap.size) (w2:=w2) hb3 ⟨y0,y1,y2,y3,y4,y5,y6,y7,y8,(Below.refl _ _).drew⟩; clear hb3)
   | (go_at_call 315; refine(kD _ _ _ _).mono ?_; rintro e w4⟨rfl,hb4⟩; have hS':=fO (X:=w.heap.size) (Y:=w1.heap.size) (w2:=w2) hb4 hS3; clear hb4))) | fail
  all_goals
   have B3:=hid (B2.out.trans (hS'.2.2.2.2.2.2.2.2.2.mono B2.out.size));exact CJ
end Go.Proofs.YtheefojaplnnoaaGreatDoor
